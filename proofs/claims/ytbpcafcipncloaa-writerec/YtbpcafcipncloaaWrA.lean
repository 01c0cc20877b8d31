import Derived.Test.YtbpcafcipncloaaSpecW
import Derived.Test.YtbpcafcipncloaaSpecY
import Derived.Test.YtbpcafcipncloaaSyncD
import Derived.Test.YtbpcafcipncloaaDevW
import Derived.Test.YtbpcafcipncloaaRecI
import Derived.Test.YtbpcafcipncloaaL2Sw
namespace Go.Proofs.Ytbpcafcipncloaa
open Go.RowKit Go.Deep
set_option linter.unusedVariables false
set_option maxRecDepth 100000

/-- A disk as a value: what lies durable, what lies in the cache, the fuel, whether the power is gone. -/
structure Stt where
  d : Nat → Int
  m : Nat
  S : Nat → Int
  L : Nat → Nat
  F : Nat → Nat → Int
  fuel : Int
  dead : Bool

def Stt.ok (n : Nat) (t : Stt) : Prop := VD n t.m t.S t.L t.fuel

def Stt.gone (t : Stt) : Stt := ⟨t.d, t.m, t.S, t.L, t.F, t.fuel, true⟩
def Stt.push (s : Int) (f : Nat → Int) (t : Stt) : Stt := ⟨t.d, t.m + 1, fun i => if i = t.m then s else t.S i, fun i => if i = t.m then 64 else t.L i, fun i => if i = t.m then f else t.F i, fuelAfter t.fuel, false⟩
def Stt.flush (t : Stt) : Stt := ⟨syncTo t.d t.S t.F t.m, 0, fun _ => 0, fun _ => 0, fun _ _ => 0, fuelAfter t.fuel, false⟩

/-- One write, one sync: the document's 1.3, 1.4 over a valid disk, at a sector that there is, with 64 bytes. -/
def Stt.write (s : Int) (f : Nat → Int) (t : Stt) : Stt :=
  if t.dead = true then t else if t.m = 2000 then t else if t.fuel = 0 then t.gone else t.push s f
def Stt.sync (t : Stt) : Stt :=
  if t.dead = true then t else if t.fuel = 0 then t.gone else t.flush

/-- The first k of a row of writes. -/
def Stt.writes (at_ : Int) (G : Nat → Nat → Int) (t : Stt) : Nat → Stt
  | 0 => t
  | k + 1 => (Stt.writes at_ G t k).write (at_ + k) (G k)

/-- A record of last + 1 sectors. -/
def Stt.recd (at_ : Int) (G : Nat → Nat → Int) (last : Nat) (t : Stt) : Stt :=
  let t1 := Stt.writes at_ G t last
  let t2 := if 0 < last then t1.sync else t1
  (t2.write (at_ + last) (G last)).sync

theorem Stt.write_dead {t : Stt} (h : t.dead = true) (s : Int) (f : Nat → Int) : t.write s f = t := by
  unfold Stt.write; rw [if_pos h]
theorem Stt.sync_dead {t : Stt} (h : t.dead = true) : t.sync = t := by
  unfold Stt.sync; rw [if_pos h]

/-- Once the power is gone, nothing changes any more. -/
theorem Stt.writes_dead {t : Stt} {at_ : Int} {G : Nat → Nat → Int} {i : Nat} (h : (t.writes at_ G i).dead = true) : ∀ k, i ≤ k → t.writes at_ G k = t.writes at_ G i
  | 0, hk => by have : i = 0 := by omega
                subst this; rfl
  | k + 1, hk => by
    by_cases e : i = k + 1
    · subst e; rfl
    · have ih := Stt.writes_dead h k (by omega)
      show (t.writes at_ G k).write (at_ + k) (G k) = _
      rw [ih]
      exact Stt.write_dead h _ _

theorem Stt.recd_dead {t : Stt} {at_ : Int} {G : Nat → Nat → Int} {last i : Nat} (hi : i ≤ last) (h : (t.writes at_ G i).dead = true) : t.recd at_ G last = t.writes at_ G i := by
  have e := Stt.writes_dead h last hi
  unfold Stt.recd
  simp only [e, Stt.sync_dead h, ite_self, Stt.write_dead h]

theorem stt_vd_push {n m : Nat} {S : Nat → Int} {L : Nat → Nat} {fuel s : Int} (hV : VD n m S L fuel) (hf : fuel ≠ 0) (hm : m < 2000) (s0 : 0 ≤ s) (s1 : s < (n : Int) / 64) :
    VD n (m + 1) (fun i => if i = m then s else S i) (fun i => if i = m then 64 else L i) (fuelAfter fuel) := by
  obtain ⟨h1, h2⟩ := hV
  unfold VH at h1
  refine ⟨?_, fun i hi => ?_⟩
  · unfold VH fuelAfter
    split <;> omega
  · unfold VP
    by_cases e : i = m
    · subst e
      show 0 ≤ (if i = i then s else S i) ∧ (if i = i then s else S i) < (n : Int) / 64 ∧ (if i = i then 64 else L i) = 64
      rw [if_pos rfl, if_pos rfl]
      exact ⟨s0, s1, rfl⟩
    · simp only [if_neg e]
      exact h2 i (by omega)

theorem stt_vd_lens {n m : Nat} {S : Nat → Int} {L : Nat → Nat} {fuel : Int} (h : VD n m S L fuel) : n ≤ 1048576 ∧ m ≤ 1048576 ∧ ∀ i, i < m → L i ≤ 1048576 := by
  obtain ⟨h1, h2⟩ := h
  unfold VH at h1
  refine ⟨by omega, by omega, fun i hi => ?_⟩
  have := (h2 i hi).2.2
  omega

theorem Stt.ok.write {n : Nat} {t : Stt} (h : t.ok n) {s : Int} (f : Nat → Int) (s0 : 0 ≤ s) (s1 : s < (n : Int) / 64) : (t.write s f).ok n := by
  have hm : t.m ≤ 2000 := by have := h.1; unfold VH at this; omega
  unfold Stt.write
  split
  · exact h
  · split
    · exact h
    · rename_i e
      split
      · exact h
      · rename_i e2
        exact stt_vd_push (show VD n t.m t.S t.L t.fuel from h) e2 (by omega) s0 s1

theorem Stt.ok.sync {n : Nat} {t : Stt} (h : t.ok n) : t.sync.ok n := by
  have hh := h.1
  unfold VH at hh
  unfold Stt.sync
  split
  · exact h
  · split
    · exact h
    · refine ⟨?_, fun i hi => absurd hi (Nat.not_lt_zero _)⟩
      show VH n 0 (fuelAfter t.fuel)
      unfold VH fuelAfter
      split <;> omega

theorem Stt.ok.writes {n : Nat} {t : Stt} (h : t.ok n) {at_ : Int} {G : Nat → Nat → Int} : ∀ k : Nat, 0 ≤ at_ → at_ + k ≤ (n : Int) / 64 → (t.writes at_ G k).ok n
  | 0, _, _ => h
  | k + 1, h0, h1 => (Stt.ok.writes h k h0 (by omega)).write _ (by omega) (by omega)

/-- A disk handed back. -/
def Stt.ret (t : Stt) (n : Nat) (w : World) (e : Ending) (w' : World) : Prop := RetD w e w' n t.d t.m t.S t.L t.F t.fuel t.dead

/-- spec.DiskWrite, over any valid disk. -/
theorem specW_st (t : Stt) (a p ad : Option Addr) (n c q cp : Nat) (s : Int) (f : Nat → Int) (w : World) (ha : Rd .u8 w a n t.d) (hp : RdP w p t.m t.S t.L t.F) (hrd : Rd .u8 w ad 64 f) (hv : t.ok n) (s0 : 0 ≤ s) (s1 : s < (n : Int) / 64) :
    Calls Try.prog 49 #[.agg #[.slice a n c, .slice p t.m q, .int .i64 t.fuel, .bool t.dead], .int .i64 s, .slice ad 64 cp] w ((t.write s f).ret n w) := by
  obtain ⟨d, m, S, L, F, fuel, dead⟩ := t
  have hv' : VD n m S L fuel := hv
  obtain ⟨hn, hm, hL⟩ := stt_vd_lens hv'
  have hVH := hv'.1
  unfold VH at hVH
  unfold Stt.write Stt.ret
  cases dead with
  | true => exact specW_2 a p ad n c m q 64 cp d S L F fuel s w ha hp hn hm hL (by omega) hv'
  | false =>
    by_cases hm2 : m = 2000
    · simp only [hm2, if_true, Bool.false_eq_true, if_false]
      subst hm2
      exact specW_6 a p ad n c 2000 q cp d S L F fuel s w ha hp hn hm hL hv' (by omega) (by omega) rfl
    · by_cases hf : fuel = 0
      · subst hf
        simp only [hm2, if_true, Bool.false_eq_true, if_false]
        exact (specW_zero a p ad n c m q cp d S L F s w ha hp hn hm hL hv' (by omega) (by omega) hm2).mono (fun e w' h => h.retD)
      · simp only [hm2, hf, Bool.false_eq_true, if_false]
        exact (specW_live a p ad n c m q cp d S L F fuel s w ha hp hn hm hL f hrd hv' (by omega) (by omega) hm2 hf (by omega) (by omega)).mono (fun e w' h => h.retD)

/-- spec.DiskSync, over any valid disk. -/
theorem specY_st (t : Stt) (a p : Option Addr) (n c q : Nat) (w : World) (ha : Rd .u8 w a n t.d) (hp : RdP w p t.m t.S t.L t.F) (hv : t.ok n) :
    Calls Try.prog 50 #[.agg #[.slice a n c, .slice p t.m q, .int .i64 t.fuel, .bool t.dead]] w (t.sync.ret n w) := by
  obtain ⟨d, m, S, L, F, fuel, dead⟩ := t
  have hv' : VD n m S L fuel := hv
  obtain ⟨hn, hm, hL⟩ := stt_vd_lens hv'
  have hVH := hv'.1
  unfold VH at hVH
  unfold Stt.sync Stt.ret
  cases dead with
  | true => exact specY_2 a p n c m q d S L F fuel w ha hp hn hm hL hv'
  | false =>
    by_cases hf : fuel = 0
    · subst hf
      simp only [if_true, Bool.false_eq_true, if_false]
      exact (specY_zero a p n c m q d S L F w ha hp hn hm hL hv').mono (fun e w' h => h.retD)
    · simp only [hf, Bool.false_eq_true, if_false]
      exact specY_live a p n c m q d S L F fuel w ha hp hn hm hL hv' hf (by omega) (by omega) (fun _ => 0) (fun _ => 0) (fun _ _ => 0)
end Go.Proofs.Ytbpcafcipncloaa

namespace Go.Proofs.Ytbpcafcipncloaa
open Go.RowKit Go.Deep
set_option linter.unusedVariables false
set_option maxRecDepth 100000

/-- A device that holds the disk t. -/
def DevSt (W : World) (b B n : Nat) (t : Stt) : Prop :=
  ∃ a' c' p' q' A C, Dev W b (.slice a' n c') (.slice p' t.m q') t.fuel t.dead ∧ OwnB W B a' n t.d ∧ Gath W B (.slice p' t.m q') t.m t.S t.L t.F A C ∧ (n ≠ 0 → ∀ i, i < t.m → t.L i ≠ 0 → A i ≠ a') ∧ n ≤ c' ∧ c' ≤ 9223372036854775807

theorem DevSt.below {W w' : World} {b B n : Nat} {t : Stt} (h : DevSt W b B n t) (hb : Below W.heap.size W w') : DevSt w' b B n t := by
  obtain ⟨a', c', p', q', A, C, h1, h2, h3, h4, h5, h6⟩ := h
  exact ⟨a', c', p', q', A, C, h1.below hb, h2.below hb, h3.below hb, h4, h5, h6⟩

/-- What a step leaves: the disk t, and the power gone if the step was thrown out of. -/
def StepTo (W : World) (b B n : Nat) (t : Stt) (e : Ending) (w' : World) : Prop :=
  DevSt w' b B n t ∧ Below B W w' ∧ (e = .returned (.tuple #[]) ∨ (e = .panicked [{ v := .iface 103 (.agg #[]), recovered := false }] ∧ t.dead = true))

theorem devW_st (t : Stt) (b B n : Nat) (s : Int) (ad : Option Addr) (cp : Nat) (f : Nat → Int) (W : World) (h : DevSt W b B n t) (hv : t.ok n) (hBb : B ≤ b)
    (hro : ∀ w1, OnlyAt (some ⟨b, 0, none⟩) W w1 → Rd .u8 w1.drew ad 64 f) :
    Calls Try.prog 87 #[.pointer (some ⟨b, 0, none⟩), .int .i64 s, .slice ad 64 cp] W (StepTo W b B n (t.write s f)) := by
  obtain ⟨d, m, S, L, F, fuel, dead⟩ := t
  have hv' : VD n m S L fuel := hv
  have hVH := hv'.1
  unfold VH at hVH
  have h0 := h
  obtain ⟨a', c', p', q', A, C, hd, ho, hg, hx, hl, hm⟩ := h
  dsimp only at hd ho hg hx
  have hb1 : b < W.heap.size := hd.cells.2.2.2.2.2
  by_cases hm2 : m = 2000
  · subst hm2
    refine (write_full b q' p' _ fuel dead s ad cp W hd).mono ?_
    rintro e w' ⟨rfl, rfl⟩
    have e : Stt.write s f ⟨d, 2000, S, L, F, fuel, dead⟩ = ⟨d, 2000, S, L, F, fuel, dead⟩ := by simp [Stt.write]
    rw [e]
    exact ⟨h0, Below.refl _ _, Or.inl rfl⟩
  · have hm3 : m < 2000 := by omega
    by_cases hf : fuel = 0
    · subst hf
      refine (write_zero b m q' p' _ dead s ad cp W hd hm3).mono ?_
      rintro e w' ⟨rfl, hd', hon⟩
      have e : Stt.write s f ⟨d, m, S, L, F, 0, dead⟩ = ⟨d, m, S, L, F, 0, true⟩ := by cases dead <;> simp [Stt.write, hm2, Stt.gone]
      rw [e]
      exact ⟨⟨a', c', p', q', A, C, hd', ho.onlyDev hd hon, hg.onlyDev hd hon, hx, hl, hm⟩, hon.below (fun x e => by injection e with e; subst e; exact hBb), Or.inr ⟨rfl, rfl⟩⟩
    · cases dead with
      | true =>
        refine (write_dead b m q' p' _ fuel s ad cp W hd hf hm3).mono ?_
        rintro e w' ⟨rfl, rfl⟩
        rw [Stt.write_dead rfl]
        exact ⟨h0, Below.refl _ _, Or.inr ⟨rfl, rfl⟩⟩
      | false =>
        refine (write_live0 b m q' B p' _ fuel s ad cp S L F A C f W hd hf (by omega) (by omega) hm3 hg hBb hro).mono ?_
        rintro e w' ⟨rfl, v', A', C', hd', hg', hA, hAm, hb', hkb⟩
        obtain ⟨p2, q2, hv2⟩ := owns_shape hg'.row
        subst hv2
        have e : Stt.write s f ⟨d, m, S, L, F, fuel, false⟩ = ⟨d, m + 1, fun i => if i = m then s else S i, fun i => if i = m then 64 else L i, fun i => if i = m then f else F i, fuelAfter fuel, false⟩ := by simp [Stt.write, hm2, hf, Stt.push]
        rw [e]
        have ho' : OwnB w' B a' n d := by
          rcases ho with h0 | ⟨g, rfl, hgB, hr⟩
          · exact Or.inl h0
          · exact Or.inr ⟨g, rfl, hgB, hkb _ _ _ hr⟩
        refine ⟨⟨a', c', p2, q2, A', C', hd', ho', hg', fun hn i hi hl => ?_, hl, hm⟩, hb', Or.inl rfl⟩
        dsimp only at hi hl
        by_cases e : i = m
        · subst e
          intro ea
          rcases ho with h0 | ⟨g, rfl, hgB, hr⟩
          · exact hn h0
          · have q1 := hAm _ ea
            have q2 := hr.lt
            simp at q1
            omega
        · have hi' : i < m := by omega
          rw [hA i hi']
          exact hx hn i hi' (by simpa [e] using hl)

theorem devY_st (t : Stt) (b B n : Nat) (W : World) (h : DevSt W b B n t) (hv : t.ok n) (hBb : B ≤ b) :
    Calls Try.prog 80 #[.pointer (some ⟨b, 0, none⟩)] W (StepTo W b B n t.sync) := by
  obtain ⟨d, m, S, L, F, fuel, dead⟩ := t
  have hv' : VD n m S L fuel := hv
  have hVH := hv'.1
  unfold VH at hVH
  have h0 := h
  obtain ⟨a', c', p', q', A, C, hd, ho, hg, hx, hl, hm⟩ := h
  dsimp only at hd ho hg hx
  by_cases hf : fuel = 0
  · subst hf
    refine (sync_zero b _ _ dead W hd).mono ?_
    rintro e w' ⟨rfl, hd', hon⟩
    have e : Stt.sync ⟨d, m, S, L, F, 0, dead⟩ = ⟨d, m, S, L, F, 0, true⟩ := by cases dead <;> simp [Stt.sync, Stt.gone]
    rw [e]
    exact ⟨⟨a', c', p', q', A, C, hd', ho.onlyDev hd hon, hg.onlyDev hd hon, hx, hl, hm⟩, hon.below (fun x e => by injection e with e; subst e; exact hBb), Or.inr ⟨rfl, rfl⟩⟩
  · cases dead with
    | true =>
      refine (sync_dead b _ _ fuel W hd hf).mono ?_
      rintro e w' ⟨rfl, rfl⟩
      rw [Stt.sync_dead rfl]
      exact ⟨h0, Below.refl _ _, Or.inr ⟨rfl, rfl⟩⟩
    | false =>
      rcases ho with h00 | ⟨g, rfl, hgB, hr⟩
      · omega
      refine (sync_live b m q' B n c' g p' fuel d S L F A C W hd hf (by omega) (by omega) hgB hr hg (hx (by omega)) hv'.2 (by omega) (by omega) hl hm hBb).mono ?_
      rintro e w' ⟨rfl, hd', hr', hb'⟩
      have e : Stt.sync ⟨d, m, S, L, F, fuel, false⟩ = ⟨syncTo d S F m, 0, fun _ => 0, fun _ => 0, fun _ _ => 0, fuelAfter fuel, false⟩ := by simp [Stt.sync, hf, Stt.flush]
      rw [e]
      exact ⟨⟨_, c', none, 0, _, _, hd', Or.inr ⟨g, rfl, hgB, hr'⟩, Gath.start _ _ _ _ _, fun _ i hi => absurd hi (Nat.not_lt_zero _), hl, hm⟩, hb', Or.inl rfl⟩
end Go.Proofs.Ytbpcafcipncloaa

namespace Go.Proofs.Ytbpcafcipncloaa
open Go.RowKit Go.Deep
set_option linter.unusedVariables false
set_option maxRecDepth 100000

set_option maxHeartbeats 400000 in
theorem recSectors_of (x : Int) (N : Nat) (hx : x = (N : Int)) (hN : N ≤ 30000) (w : World) : Calls Try.prog 9 #[.int .i64 x] w fun e w' => e = .returned (.int .i64 (cntOf N)) ∧ w' = w := by
  have x0 : ¬ x < 0 := by omega
  have x1 : ¬ 30000 < x := by omega
  have e1 : IntKind.i64.wrap (x + 48) = x + 48 := by rw [IntKind.wrap_i64]; omega
  have e2 : IntKind.i64.wrap (x + 48 - 1) = x + 48 - 1 := by rw [IntKind.wrap_i64]; omega
  have e3 : (x + 48 - 1).tdiv 48 = (x + 48 - 1) / 48 := Int.tdiv_eq_ediv_of_nonneg (by omega)
  have e4 : IntKind.i64.wrap ((x + 48 - 1) / 48) = (x + 48 - 1) / 48 := by rw [IntKind.wrap_i64]; omega
  have H : Hid (x = (N : Int)) := hx
  clear hx
  go_enter Try.func9, Try.ntmps9
  go_wp2_with fail
  all_goals
    go_ret
    have hx := H.out
    have hc : (cntOf N : Int) = max 1 ((x + 48 - 1) / 48) := by
      unfold cntOf
      split <;> omega
    rw [hc]
  · have hm : max 1 ((x + 48 - 1) / 48) = (x + 48 - 1) / 48 := by omega
    rw [hm]
    exact ⟨rfl, rfl⟩
  · have hm : max 1 ((x + 48 - 1) / 48) = 1 := by omega
    rw [hm]
    exact ⟨rfl, rfl⟩
end Go.Proofs.Ytbpcafcipncloaa

namespace Go.Proofs.Ytbpcafcipncloaa
open Go.RowKit Go.Deep
set_option linter.unusedVariables false
set_option maxRecDepth 100000

set_option maxHeartbeats 400000 in
theorem writeRecSector_any (t : Stt) (b B n : Nat) (at_ seq : Int) (i : Nat) (ad : Option Addr) (N cp : Nat) (f : Nat → Int) (w : World) (h : DevSt w b B n t) (hv : t.ok n) (hBb : B ≤ b) (hrd : Rd .u8 w ad N f) (hf : ∀ j, j < N → 0 ≤ f j ∧ f j < 256) (hN : N ≤ 30000) (hcp : N ≤ cp) (hcm : cp ≤ 9223372036854775807) (hi : i < cntOf N) (a0 : 0 ≤ at_) (a1 : at_ ≤ 1024) :
    Calls Try.prog 79 #[.pointer (some ⟨b, 0, none⟩), .int .i64 at_, .int .i64 seq, .int .i64 i, .slice ad N cp] w (StepTo w b B n (t.write (at_ + i) (secW N seq f i))) := by
  have HD : Hid (DevSt w b B n t) := h
  have HRD : Hid (Rd .u8 w ad N f) := hrd
  have HF : Hid (∀ j, j < N → 0 ≤ f j ∧ f j < 256) := hf
  clear h hrd hf
  have hi2 : i < 626 := by unfold cntOf at hi; split at hi <;> omega
  have e0 : IntKind.i64.wrap (N : Int) = (N : Int) := by rw [IntKind.wrap_i64]; omega
  have e1 : IntKind.i64.wrap ((i : Int) * 48) = (i : Int) * 48 := by rw [IntKind.wrap_i64]; omega
  have e2 : IntKind.i64.wrap ((i : Int) + 1) = (i : Int) + 1 := by rw [IntKind.wrap_i64]; omega
  have e3 : IntKind.i64.wrap (((i : Int) + 1) * 48) = ((i : Int) + 1) * 48 := by rw [IntKind.wrap_i64]; omega
  have e4 : IntKind.i64.wrap (at_ + (i : Int)) = at_ + (i : Int) := by rw [IntKind.wrap_i64]; omega
  have hlo : 0 ≤ (i : Int) * 48 ∧ (i : Int) * 48 ≤ (N : Int) := by have := cntOf_lt hi; omega
  obtain ⟨x, hx⟩ : ∃ x : Int, x = (i : Int) := ⟨_, rfl⟩
  rw [← hx] at e1 e2 e3 e4 hlo ⊢
  have HX : Hid (x = (i : Int) ∧ i < 626 ∧ i < cntOf N) := ⟨hx, hi2, hi⟩
  clear hx hi2 hi
  by_cases c : (N : Int) ≤ (x + 1) * 48
  all_goals have c2 := hlo.2
  · have c6 : x * 48 ≤ (N : Int) ∧ (N : Int) ≤ (cp : Int) := by omega
    have c7 : (N : Int) ≤ (cp : Int) := by omega
    go_enter Try.func79, Try.ntmps79
    go_wp2_with fail
    all_goals
      refine (recSectors_of _ N rfl hN w).mono ?_
      rintro e w1 ⟨rfl, rfl⟩
      go_wp2_with fail
      obtain ⟨hx, hi2, hi⟩ := HX.out
      have hs := rd_shift (lo := i * 48) cp HRD.out (by omega) hcp
      have e5 : (x * 48).toNat = i * 48 := by omega
      refine (recSector_any seq x (cntOf N) _ (N - (x * 48).toNat) _ (fun j => f (i * 48 + j)) _ ?_ (fun j hj => HF.out _ (by omega)) (by omega)).mono ?_
      · rw [e5]
        unfold shA at hs
        first
          | (rw [if_neg (by omega)] at hs; exact hs)
          | (rw [if_pos (by omega)] at hs; exact hs)
      rintro e w2 ⟨rfl, hb2⟩
      have hw : recF seq x (cntOf N) (N - (x * 48).toNat) (fun j => f (i * 48 + j)) = secW N seq f i := by
        unfold secW
        rw [hx, show plen N i = N - i * 48 by unfold plen; rw [if_neg (by omega)], show ((i : Int) * 48).toNat = i * 48 by omega]
      rw [hw]
      obtain ⟨g, hg⟩ : ∃ g, g = secW N seq f i := ⟨_, rfl⟩
      rw [← hg]
      have HG : Hid (g = secW N seq f i) := hg
      clear hw hs hg hx hi2 hi e5
      have D2 : Hid (DevSt w2 b B n t) := HD.out.below hb2
      have B2 : Hid (Below w1.heap.size w1 w2) := hb2
      have z1 : b < w1.heap.size := by obtain ⟨_, _, _, _, _, _, hd, _⟩ := HD.out; exact hd.cells.2.2.2.2.2
      have z2 : w1.heap.size ≤ w2.heap.size := hb2.size
      clear hb2
      go_wp2_with (first | (with_reducible refine wpList_alloc_sec ?_) | ((with_reducible refine wpList_store_sec w2.heap.size (fun _ => 0) g ?_ ?_ (Sec.new w2 _) ?_); rfl; rfl))
      intro w3 hs3 ho3
      have S3 : Hid (Sec w3 w2.heap.size g) := hs3
      have B3 : Hid (Below w1.heap.size w1 w3) := ((B2.out.trans ((below_alloc _ _).mono (by omega))).trans (ho3.below (fun y e => by injection e with e; subst e; show w1.heap.size ≤ w2.heap.size; omega)))
      clear hs3 ho3 B2 D2
      go_wp2_with fail
      refine (devW_st t b B n (at_ + x) (some ⟨w2.heap.size, 0, none⟩) 64 g w3 (HD.out.below B3.out) hv hBb (fun w4 hon => ?_)).mono ?_
      · have hs2 : Sec w4.drew w2.heap.size g := S3.out.of_block (hon.block w2.heap.size (fun x e => by injection e with e; subst e; show b ≠ w2.heap.size; omega))
        exact (hs2.rd 0 64 (by omega)).congr (fun i hi => by simp)
      rintro e w4 ⟨h1, h2, he⟩
      have hR : DevSt w4 b B n (t.write (at_ + x) (secW N seq f i)) ∧ Below B w1 w4 := by
        rw [← HG.out]
        exact ⟨h1, (B3.out.mono (by omega)).trans h2⟩
      rw [HG.out] at he
      clear h1 h2
      rcases he with rfl | ⟨rfl, hdead⟩
      · go_wp2
        go_end0
        exact ⟨hR.1, hR.2, Or.inl rfl⟩
      · go_wp2
        exact ⟨rfl, hR.1, hR.2, Or.inr ⟨rfl, hdead⟩⟩
  have c3 : x * 48 ≤ (x + 1) * 48 ∧ (x + 1) * 48 ≤ (N : Int) := by omega
  have c4 : 0 ≤ (x + 1) * 48 ∧ (x + 1) * 48 ≤ (cp : Int) := by omega
  go_enter Try.func79, Try.ntmps79
  go_wp2_with fail
  refine (recSectors_of _ N rfl hN w).mono ?_
  rintro e w1 ⟨rfl, rfl⟩
  go_wp2_with fail
  obtain ⟨hx, hi2, hi⟩ := HX.out
  have hs := rd_take (L := 48) (rd_shift (lo := i * 48) cp HRD.out (by omega) hcp) (by omega)
  have ea : Option.map (fun x_3 => Addr.add x_3 (x * 48).toNat) ad = shA ad (i * 48) cp := by
    unfold shA
    rw [if_neg (by omega)]
    congr 1
    funext y
    congr 1
    omega
  rw [ea, show ((x + 1) * 48).toNat - (x * 48).toNat = 48 by omega]
  refine (recSector_any seq x (cntOf N) _ 48 _ _ _ hs (fun j hj => HF.out _ (by omega)) (by omega)).mono ?_
  rintro e w2 ⟨rfl, hb2⟩
  have hw : recF seq x (cntOf N) 48 (fun j => f (i * 48 + j)) = secW N seq f i := by
    unfold secW
    rw [hx, show plen N i = 48 by unfold plen; rw [if_pos (by omega)]]
  rw [hw]
  obtain ⟨g, hg⟩ : ∃ g, g = secW N seq f i := ⟨_, rfl⟩
  rw [← hg]
  have HG : Hid (g = secW N seq f i) := hg
  clear hw ea hs hg hx hi2 hi
  have D2 : Hid (DevSt w2 b B n t) := HD.out.below hb2
  have B2 : Hid (Below w1.heap.size w1 w2) := hb2
  have z1 : b < w1.heap.size := by obtain ⟨_, _, _, _, _, _, hd, _⟩ := HD.out; exact hd.cells.2.2.2.2.2
  have z2 : w1.heap.size ≤ w2.heap.size := hb2.size
  clear hb2
  go_wp2_with (first | (with_reducible refine wpList_alloc_sec ?_) | ((with_reducible refine wpList_store_sec w2.heap.size (fun _ => 0) g ?_ ?_ (Sec.new w2 _) ?_); rfl; rfl))
  intro w3 hs3 ho3
  have S3 : Hid (Sec w3 w2.heap.size g) := hs3
  have B3 : Hid (Below w1.heap.size w1 w3) := ((B2.out.trans ((below_alloc _ _).mono (by omega))).trans (ho3.below (fun y e => by injection e with e; subst e; show w1.heap.size ≤ w2.heap.size; omega)))
  clear hs3 ho3 B2 D2
  go_wp2_with fail
  refine (devW_st t b B n (at_ + x) (some ⟨w2.heap.size, 0, none⟩) 64 g w3 (HD.out.below B3.out) hv hBb (fun w4 hon => ?_)).mono ?_
  · have hs2 : Sec w4.drew w2.heap.size g := S3.out.of_block (hon.block w2.heap.size (fun x e => by injection e with e; subst e; show b ≠ w2.heap.size; omega))
    exact (hs2.rd 0 64 (by omega)).congr (fun i hi => by simp)
  rintro e w4 ⟨h1, h2, he⟩
  have hR : DevSt w4 b B n (t.write (at_ + x) (secW N seq f i)) ∧ Below B w1 w4 := by
    rw [← HG.out]
    exact ⟨h1, (B3.out.mono (by omega)).trans h2⟩
  rw [HG.out] at he
  clear h1 h2
  rcases he with rfl | ⟨rfl, hdead⟩
  · go_wp2
    go_end0
    exact ⟨hR.1, hR.2, Or.inl rfl⟩
  · go_wp2
    exact ⟨rfl, hR.1, hR.2, Or.inr ⟨rfl, hdead⟩⟩
end Go.Proofs.Ytbpcafcipncloaa

namespace Go.Proofs.Ytbpcafcipncloaa
open Go.RowKit Go.Deep
set_option linter.unusedVariables false
set_option maxRecDepth 100000

theorem cntOf_pos (N : Nat) : 1 ≤ cntOf N := by unfold cntOf; split <;> omega
theorem cntOf_le {N : Nat} (h : N ≤ 30000) : cntOf N ≤ 625 := by unfold cntOf; split <;> omega

/-- The steps of a record that is not done when the power goes. -/
theorem Stt.recd_mid {t : Stt} {at_ : Int} {G : Nat → Nat → Int} {last : Nat} (h : (if 0 < last then (t.writes at_ G last).sync else t.writes at_ G last).dead = true) : t.recd at_ G last = (if 0 < last then (t.writes at_ G last).sync else t.writes at_ G last) := by
  unfold Stt.recd
  simp only [Stt.write_dead h, Stt.sync_dead h]

set_option maxHeartbeats 2000000 in
theorem writeRec_any (t : Stt) (b B n : Nat) (at_ seq : Int) (ad : Option Addr) (N cp last : Nat) (f : Nat → Int) (w : World) (h : DevSt w b B n t) (hv : t.ok n) (hBb : B ≤ b) (hrd : ∀ W, Below B w W → Rd .u8 W ad N f) (hf : ∀ j, j < N → 0 ≤ f j ∧ f j < 256) (hN : N ≤ 30000) (hcp : N ≤ cp) (hcm : cp ≤ 9223372036854775807) (hl : cntOf N = last + 1) (a0 : 2 ≤ at_) (a1 : at_ + last < (n : Int) / 64) :
    Calls Try.prog 55 #[.pointer (some ⟨b, 0, none⟩), .int .i64 at_, .int .i64 seq, .slice ad N cp] w (StepTo w b B n (t.recd at_ (secW N seq f) last)) := by
  have HD : Hid (DevSt w b B n t) := h
  have HV : Hid (t.ok n) := hv
  have HRD : Hid (∀ W, Below B w W → Rd .u8 W ad N f) := hrd
  have HF : Hid (∀ j, j < N → 0 ≤ f j ∧ f j < 256) := hf
  have HL : Hid (cntOf N = last + 1) := hl
  have hl6 : last ≤ 624 := by have := cntOf_le hN; omega
  have hn6 : (n : Int) / 64 ≤ 1024 := by have := hv.1; unfold VH at this; omega
  obtain ⟨G, hG⟩ : ∃ G : Nat → Nat → Int, G = secW N seq f := ⟨_, rfl⟩
  rw [← hG]
  have HG : Hid (G = secW N seq f) := hG
  have e0 : IntKind.i64.wrap (N : Int) = (N : Int) := by rw [IntKind.wrap_i64]; omega
  have e1 : IntKind.i64.wrap ((last : Int) + 1 - 1) = (last : Int) := by rw [IntKind.wrap_i64]; omega
  have e2 : IntKind.i64.wrap (last : Int) = (last : Int) := by rw [IntKind.wrap_i64]; omega
  clear h hrd hf hv hG hl
  go_enter Try.func55, Try.ntmps55
  go_wp2_with fail
  refine (recSectors_of _ N rfl hN w).mono ?_
  rintro e w1 ⟨rfl, rfl⟩
  rw [HL.out]
  rw [show (((last + 1 : Nat)) : Int) = (last : Int) + 1 from by simp]
  go_wp2
  go_loopw [9, 15] (fun _ i wr => ∃ j : Nat, j ≤ last ∧ i = .int .i64 j ∧ DevSt wr b B n (t.writes at_ G j) ∧ Below B w1 wr) (fun _ i _ => last - (intOf i).toNat)
  case atStart => exact ⟨0, Nat.zero_le _, rfl, HD.out, Below.refl _ _⟩
  case round =>
    obtain ⟨j, hj, rfl, hdv, hbel⟩ := hrel
    have HDJ : Hid (DevSt wr b B n (t.writes at_ G j)) := hdv
    have HBJ : Hid (Below B w1 wr) := hbel
    clear hdv hbel
    by_cases hlt : j < last
    · go_wp2_with fail
      refine (writeRecSector_any (t.writes at_ G j) b B n at_ seq j ad N cp f wr HDJ.out (HV.out.writes j (by omega) (by omega)) hBb (HRD.out _ HBJ.out) HF.out hN hcp hcm (by rw [HL.out]; omega) (by omega) (by omega)).mono ?_
      rintro e w2 ⟨h1, h2, he⟩
      rw [← HG.out] at h1 he
      have HX : Hid (DevSt w2 b B n (t.writes at_ G (j + 1)) ∧ Below B w1 w2) := ⟨h1, HBJ.out.trans h2⟩
      clear h1 h2 HDJ HBJ
      rcases he with rfl | ⟨rfl, hdead⟩
      · go_wp2
        go_roundw
        case rel => exact ⟨j + 1, by omega, by go_num, HX.out⟩
        case measure => simp [intOf]; omega
      · have hdd : (t.writes at_ G (j + 1)).dead = true := hdead
        have hrc := Stt.recd_dead (last := last) (i := j + 1) (by omega) hdd
        have HZ : Hid (StepTo w1 b B n (t.recd at_ G last) (.panicked [{ v := .iface 103 (.agg #[]), recovered := false }]) w2) := by
          refine ⟨?_, HX.out.2, Or.inr ⟨rfl, ?_⟩⟩
          · rw [hrc]; exact HX.out.1
          · rw [hrc]; exact hdd
        clear hdead hdd hrc
        go_wp2
        exact ⟨rfl, HZ.out⟩
    · have e : j = last := by omega
      subst e
      have HOW : Hid ((t.writes at_ G j).ok n) := HV.out.writes j (by omega) (by omega)
      obtain ⟨t2, ht2⟩ : ∃ t2, t2 = (if 0 < j then (t.writes at_ G j).sync else t.writes at_ G j) := ⟨_, rfl⟩
      have HREC : Hid (t.recd at_ G j = (t2.write (at_ + j) (G j)).sync) := by rw [ht2]; rfl
      have HT2 : Hid (t2.ok n) := by
        show t2.ok n
        rw [ht2]
        split
        · exact HOW.out.sync
        · exact HOW.out
      have HEND : Hid (∀ wr2, DevSt wr2 b B n t2 → Below B w1 wr2 → Calls Try.prog 79 #[.pointer (some ⟨b, 0, none⟩), .int .i64 at_, .int .i64 seq, .int .i64 j, .slice ad N cp] wr2 (StepTo wr2 b B n (t2.write (at_ + j) (G j)))) := fun wr2 h1 h2 => by
        have := writeRecSector_any t2 b B n at_ seq j ad N cp f wr2 h1 HT2.out hBb (HRD.out _ h2) HF.out hN hcp hcm (by rw [HL.out]; omega) (by omega) (by omega)
        rw [← HG.out] at this
        exact this
      have HT3 : Hid ((t2.write (at_ + j) (G j)).ok n) := HT2.out.write _ (by omega) (by omega)
      have HMID : Hid (t2.dead = true → t.recd at_ G j = t2) := fun h => by rw [HREC.out, Stt.write_dead h, Stt.sync_dead h]
      by_cases hj0 : 0 < j
      · have hj0' : (0 : Int) < (j : Int) := by omega
        rw [if_pos hj0] at ht2
        have HT2E : Hid (t2 = (t.writes at_ G j).sync) := ht2
        clear ht2
        go_wp2_with fail
        refine (devY_st (t.writes at_ G j) b B n wr HDJ.out HOW.out hBb).mono ?_
        rintro e w2 ⟨h1, h2, he⟩
        rw [← HT2E.out] at h1 he
        have HX : Hid (DevSt w2 b B n t2 ∧ Below B w1 w2) := ⟨h1, HBJ.out.trans h2⟩
        clear h1 h2 HDJ HBJ
        rcases he with rfl | ⟨rfl, hdead⟩
        · go_wp2_with fail
          refine (HEND.out w2 HX.out.1 HX.out.2).mono ?_
          rintro e w3 ⟨h1, h2, he⟩
          have HX3 : Hid (DevSt w3 b B n (t2.write (at_ + j) (G j)) ∧ Below B w1 w3) := ⟨h1, HX.out.2.trans h2⟩
          clear h1 h2
          rcases he with rfl | ⟨rfl, hdead⟩
          · go_wp2_with fail
            refine (devY_st _ b B n w3 HX3.out.1 HT3.out hBb).mono ?_
            rintro e w4 ⟨h1, h2, he⟩
            have HX4 : Hid (DevSt w4 b B n (t.recd at_ G j) ∧ Below B w1 w4) := ⟨by rw [HREC.out]; exact h1, HX3.out.2.trans h2⟩
            rw [← HREC.out] at he
            clear h1 h2
            rcases he with rfl | ⟨rfl, hdead⟩
            · go_wp2
              go_end0
              exact ⟨HX4.out.1, HX4.out.2, Or.inl rfl⟩
            · go_wp2
              exact ⟨rfl, HX4.out.1, HX4.out.2, Or.inr ⟨rfl, hdead⟩⟩
          · have HRR : Hid (t.recd at_ G j = t2.write (at_ + j) (G j)) := by
              show _ = _
              rw [HREC.out, Stt.sync_dead hdead]
            go_wp2
            exact ⟨rfl, by rw [HRR.out]; exact HX3.out.1, HX3.out.2, Or.inr ⟨rfl, by rw [HRR.out]; exact hdead⟩⟩
        · have hrc := HMID.out hdead
          have HZ : Hid (StepTo w1 b B n (t.recd at_ G j) (.panicked [{ v := .iface 103 (.agg #[]), recovered := false }]) w2) := by
            refine ⟨?_, HX.out.2, Or.inr ⟨rfl, ?_⟩⟩
            · rw [hrc]; exact HX.out.1
            · rw [hrc]; exact hdead
          clear hdead hrc
          go_wp2
          exact ⟨rfl, HZ.out⟩
      · have hj0' : ¬ (0 : Int) < (j : Int) := by omega
        rw [if_neg hj0] at ht2
        have HX : Hid (DevSt wr b B n t2 ∧ Below B w1 wr) := ⟨by rw [ht2]; exact HDJ.out, HBJ.out⟩
        clear ht2 HDJ HBJ
        go_wp2_with fail
        refine (HEND.out wr HX.out.1 HX.out.2).mono ?_
        rintro e w3 ⟨h1, h2, he⟩
        have HX3 : Hid (DevSt w3 b B n (t2.write (at_ + j) (G j)) ∧ Below B w1 w3) := ⟨h1, HX.out.2.trans h2⟩
        clear h1 h2
        rcases he with rfl | ⟨rfl, hdead⟩
        · go_wp2_with fail
          refine (devY_st _ b B n w3 HX3.out.1 HT3.out hBb).mono ?_
          rintro e w4 ⟨h1, h2, he⟩
          have HX4 : Hid (DevSt w4 b B n (t.recd at_ G j) ∧ Below B w1 w4) := ⟨by rw [HREC.out]; exact h1, HX3.out.2.trans h2⟩
          rw [← HREC.out] at he
          clear h1 h2
          rcases he with rfl | ⟨rfl, hdead⟩
          · go_wp2
            go_end0
            exact ⟨HX4.out.1, HX4.out.2, Or.inl rfl⟩
          · go_wp2
            exact ⟨rfl, HX4.out.1, HX4.out.2, Or.inr ⟨rfl, hdead⟩⟩
        · have HRR : Hid (t.recd at_ G j = t2.write (at_ + j) (G j)) := by
            show _ = _
            rw [HREC.out, Stt.sync_dead hdead]
          go_wp2
          exact ⟨rfl, by rw [HRR.out]; exact HX3.out.1, HX3.out.2, Or.inr ⟨rfl, by rw [HRR.out]; exact hdead⟩⟩
end Go.Proofs.Ytbpcafcipncloaa
