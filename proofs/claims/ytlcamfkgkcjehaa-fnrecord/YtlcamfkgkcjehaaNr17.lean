import Derived.Test.YtlcamfkgkcjehaaNr11
import Derived.Test.YtlcamfkgkcjehaaNr15
import Derived.Test.YtlcamfkgkcjehaaNr12
import Derived.Test.YtlcamfkgkcjehaaNr9
import Derived.Test.YtlcamfkgkcjehaaNr16
import Derived.Deep.RegionHeld3
import Derived.Test.YtlcamfkgkcjehaaNr7
import Derived.Test.YtlcamfkgkcjehaaNr2
import Derived.Test.YtlcamfkgkcjehaaNr6
import Derived.Test.YtlcamfkgkcjehaaNr14
namespace Go.Proofs.Ytlcamfkgkcjehaa
open Go.RowKit Go.Deep
set_option linter.unusedVariables false
set_option maxRecDepth 100000

/-- A disk as a value: what lies durable, what lies in the cache, the fuel, whether the power is gone. -/
structure Stt where
  d : Nat → Int
  m : Nat
  S : Nat → Int
  L : Nat → Nat
  F : Nat → Nat → Int
  fuel : Int
  dead : Bool

def Stt.ok (n : Nat) (t : Stt) : Prop := VD n t.m t.S t.L t.fuel

def Stt.gone (t : Stt) : Stt := ⟨t.d, t.m, t.S, t.L, t.F, t.fuel, true⟩
def Stt.push (s : Int) (f : Nat → Int) (t : Stt) : Stt := ⟨t.d, t.m + 1, fun i => if i = t.m then s else t.S i, fun i => if i = t.m then 64 else t.L i, fun i => if i = t.m then f else t.F i, fuelAfter t.fuel, false⟩
def Stt.flush (t : Stt) : Stt := ⟨syncTo t.d t.S t.F t.m, 0, fun _ => 0, fun _ => 0, fun _ _ => 0, fuelAfter t.fuel, false⟩

/-- One write, one sync: the document's 1.3, 1.4 over a valid disk, at a sector that there is, with 64 bytes. -/
def Stt.write (s : Int) (f : Nat → Int) (t : Stt) : Stt :=
  if t.dead = true then t else if t.m = 2000 then t else if t.fuel = 0 then t.gone else t.push s f
def Stt.sync (t : Stt) : Stt :=
  if t.dead = true then t else if t.fuel = 0 then t.gone else t.flush

/-- The first k of a row of writes. -/
def Stt.writes (at_ : Int) (G : Nat → Nat → Int) (t : Stt) : Nat → Stt
  | 0 => t
  | k + 1 => (Stt.writes at_ G t k).write (at_ + k) (G k)

/-- A record of last + 1 sectors. -/
def Stt.recd (at_ : Int) (G : Nat → Nat → Int) (last : Nat) (t : Stt) : Stt :=
  let t1 := Stt.writes at_ G t last
  let t2 := if 0 < last then t1.sync else t1
  (t2.write (at_ + last) (G last)).sync

theorem Stt.write_dead {t : Stt} (h : t.dead = true) (s : Int) (f : Nat → Int) : t.write s f = t := by
  unfold Stt.write; rw [if_pos h]
theorem Stt.sync_dead {t : Stt} (h : t.dead = true) : t.sync = t := by
  unfold Stt.sync; rw [if_pos h]

/-- Once the power is gone, nothing changes any more. -/
theorem Stt.writes_dead {t : Stt} {at_ : Int} {G : Nat → Nat → Int} {i : Nat} (h : (t.writes at_ G i).dead = true) : ∀ k, i ≤ k → t.writes at_ G k = t.writes at_ G i
  | 0, hk => by have : i = 0 := by omega
                subst this; rfl
  | k + 1, hk => by
    by_cases e : i = k + 1
    · subst e; rfl
    · have ih := Stt.writes_dead h k (by omega)
      show (t.writes at_ G k).write (at_ + k) (G k) = _
      rw [ih]
      exact Stt.write_dead h _ _

theorem Stt.recd_dead {t : Stt} {at_ : Int} {G : Nat → Nat → Int} {last i : Nat} (hi : i ≤ last) (h : (t.writes at_ G i).dead = true) : t.recd at_ G last = t.writes at_ G i := by
  have e := Stt.writes_dead h last hi
  unfold Stt.recd
  simp only [e, Stt.sync_dead h, ite_self, Stt.write_dead h]

theorem stt_vd_push {n m : Nat} {S : Nat → Int} {L : Nat → Nat} {fuel s : Int} (hV : VD n m S L fuel) (hf : fuel ≠ 0) (hm : m < 2000) (s0 : 0 ≤ s) (s1 : s < (n : Int) / 64) :
    VD n (m + 1) (fun i => if i = m then s else S i) (fun i => if i = m then 64 else L i) (fuelAfter fuel) := by
  obtain ⟨h1, h2⟩ := hV
  unfold VH at h1
  refine ⟨?_, fun i hi => ?_⟩
  · unfold VH fuelAfter
    split <;> omega
  · unfold VP
    by_cases e : i = m
    · subst e
      show 0 ≤ (if i = i then s else S i) ∧ (if i = i then s else S i) < (n : Int) / 64 ∧ (if i = i then 64 else L i) = 64
      rw [if_pos rfl, if_pos rfl]
      exact ⟨s0, s1, rfl⟩
    · simp only [if_neg e]
      exact h2 i (by omega)

theorem stt_vd_lens {n m : Nat} {S : Nat → Int} {L : Nat → Nat} {fuel : Int} (h : VD n m S L fuel) : n ≤ 1048576 ∧ m ≤ 1048576 ∧ ∀ i, i < m → L i ≤ 1048576 := by
  obtain ⟨h1, h2⟩ := h
  unfold VH at h1
  refine ⟨by omega, by omega, fun i hi => ?_⟩
  have := (h2 i hi).2.2
  omega

theorem Stt.ok.write {n : Nat} {t : Stt} (h : t.ok n) {s : Int} (f : Nat → Int) (s0 : 0 ≤ s) (s1 : s < (n : Int) / 64) : (t.write s f).ok n := by
  have hm : t.m ≤ 2000 := by have := h.1; unfold VH at this; omega
  unfold Stt.write
  split
  · exact h
  · split
    · exact h
    · rename_i e
      split
      · exact h
      · rename_i e2
        exact stt_vd_push (show VD n t.m t.S t.L t.fuel from h) e2 (by omega) s0 s1

theorem Stt.ok.sync {n : Nat} {t : Stt} (h : t.ok n) : t.sync.ok n := by
  have hh := h.1
  unfold VH at hh
  unfold Stt.sync
  split
  · exact h
  · split
    · exact h
    · refine ⟨?_, fun i hi => absurd hi (Nat.not_lt_zero _)⟩
      show VH n 0 (fuelAfter t.fuel)
      unfold VH fuelAfter
      split <;> omega

theorem Stt.ok.writes {n : Nat} {t : Stt} (h : t.ok n) {at_ : Int} {G : Nat → Nat → Int} : ∀ k : Nat, 0 ≤ at_ → at_ + k ≤ (n : Int) / 64 → (t.writes at_ G k).ok n
  | 0, _, _ => h
  | k + 1, h0, h1 => (Stt.ok.writes h k h0 (by omega)).write _ (by omega) (by omega)

/-- A disk handed back. -/
def Stt.ret (t : Stt) (n : Nat) (w : World) (e : Ending) (w' : World) : Prop := RetD w e w' n t.d t.m t.S t.L t.F t.fuel t.dead

/-- spec.DiskWrite, over any valid disk. -/
theorem specW_st (t : Stt) (a p ad : Option Addr) (n c q cp : Nat) (s : Int) (f : Nat → Int) (w : World) (ha : Rd .u8 w a n t.d) (hp : RdP w p t.m t.S t.L t.F) (hrd : Rd .u8 w ad 64 f) (hv : t.ok n) (s0 : 0 ≤ s) (s1 : s < (n : Int) / 64) :
    Calls Try.prog 48 #[.agg #[.slice a n c, .slice p t.m q, .int .i64 t.fuel, .bool t.dead], .int .i64 s, .slice ad 64 cp] w ((t.write s f).ret n w) := by
  obtain ⟨d, m, S, L, F, fuel, dead⟩ := t
  have hv' : VD n m S L fuel := hv
  obtain ⟨hn, hm, hL⟩ := stt_vd_lens hv'
  have hVH := hv'.1
  unfold VH at hVH
  unfold Stt.write Stt.ret
  cases dead with
  | true => exact specW_2 a p ad n c m q 64 cp d S L F fuel s w ha hp hn hm hL (by omega) hv'
  | false =>
    by_cases hm2 : m = 2000
    · simp only [hm2, if_true, Bool.false_eq_true, if_false]
      subst hm2
      exact specW_6 a p ad n c 2000 q cp d S L F fuel s w ha hp hn hm hL hv' (by omega) (by omega) rfl
    · by_cases hf : fuel = 0
      · subst hf
        simp only [hm2, if_true, Bool.false_eq_true, if_false]
        exact (specW_zero a p ad n c m q cp d S L F s w ha hp hn hm hL hv' (by omega) (by omega) hm2).mono (fun e w' h => h.retD)
      · simp only [hm2, hf, Bool.false_eq_true, if_false]
        exact (specW_live a p ad n c m q cp d S L F fuel s w ha hp hn hm hL f hrd hv' (by omega) (by omega) hm2 hf (by omega) (by omega)).mono (fun e w' h => h.retD)

/-- spec.DiskSync, over any valid disk. -/
theorem specY_st (t : Stt) (a p : Option Addr) (n c q : Nat) (w : World) (ha : Rd .u8 w a n t.d) (hp : RdP w p t.m t.S t.L t.F) (hv : t.ok n) :
    Calls Try.prog 49 #[.agg #[.slice a n c, .slice p t.m q, .int .i64 t.fuel, .bool t.dead]] w (t.sync.ret n w) := by
  obtain ⟨d, m, S, L, F, fuel, dead⟩ := t
  have hv' : VD n m S L fuel := hv
  obtain ⟨hn, hm, hL⟩ := stt_vd_lens hv'
  have hVH := hv'.1
  unfold VH at hVH
  unfold Stt.sync Stt.ret
  cases dead with
  | true => exact specY_2 a p n c m q d S L F fuel w ha hp hn hm hL hv'
  | false =>
    by_cases hf : fuel = 0
    · subst hf
      simp only [if_true, Bool.false_eq_true, if_false]
      exact (specY_zero a p n c m q d S L F w ha hp hn hm hL hv').mono (fun e w' h => h.retD)
    · simp only [hf, Bool.false_eq_true, if_false]
      exact specY_live a p n c m q d S L F fuel w ha hp hn hm hL hv' hf (by omega) (by omega) (fun _ => 0) (fun _ => 0) (fun _ _ => 0)
end Go.Proofs.Ytlcamfkgkcjehaa

namespace Go.Proofs.Ytlcamfkgkcjehaa
open Go.RowKit Go.Deep
set_option linter.unusedVariables false
set_option maxRecDepth 100000

/-- A device that holds the disk t. -/
def DevSt (W : World) (b B n : Nat) (t : Stt) : Prop :=
  ∃ a' c' p' q' A C, Dev W b (.slice a' n c') (.slice p' t.m q') t.fuel t.dead ∧ OwnB W B a' n t.d ∧ Gath W B (.slice p' t.m q') t.m t.S t.L t.F A C ∧ (n ≠ 0 → ∀ i, i < t.m → t.L i ≠ 0 → A i ≠ a') ∧ n ≤ c' ∧ c' ≤ 9223372036854775807

theorem DevSt.below {W w' : World} {b B n : Nat} {t : Stt} (h : DevSt W b B n t) (hb : Below W.heap.size W w') : DevSt w' b B n t := by
  obtain ⟨a', c', p', q', A, C, h1, h2, h3, h4, h5, h6⟩ := h
  exact ⟨a', c', p', q', A, C, h1.below hb, h2.below hb, h3.below hb, h4, h5, h6⟩

/-- What a step leaves: the disk t, and the power gone if the step was thrown out of. -/
def StepTo (W : World) (b B n : Nat) (t : Stt) (e : Ending) (w' : World) : Prop :=
  DevSt w' b B n t ∧ Below B W w' ∧ (e = .returned (.tuple #[]) ∨ (e = .panicked [{ v := .iface 88 (.agg #[]), recovered := false }] ∧ t.dead = true))

theorem devW_st (t : Stt) (b B n : Nat) (s : Int) (ad : Option Addr) (cp : Nat) (f : Nat → Int) (W : World) (h : DevSt W b B n t) (hv : t.ok n) (hBb : B ≤ b)
    (hro : ∀ w1, OnlyAt (some ⟨b, 0, none⟩) W w1 → Rd .u8 w1.drew ad 64 f) :
    Calls Try.prog 73 #[.pointer (some ⟨b, 0, none⟩), .int .i64 s, .slice ad 64 cp] W (StepTo W b B n (t.write s f)) := by
  obtain ⟨d, m, S, L, F, fuel, dead⟩ := t
  have hv' : VD n m S L fuel := hv
  have hVH := hv'.1
  unfold VH at hVH
  have h0 := h
  obtain ⟨a', c', p', q', A, C, hd, ho, hg, hx, hl, hm⟩ := h
  dsimp only at hd ho hg hx
  have hb1 : b < W.heap.size := hd.cells.2.2.2.2.2
  by_cases hm2 : m = 2000
  · subst hm2
    refine (write_full b q' p' _ fuel dead s ad cp W hd).mono ?_
    rintro e w' ⟨rfl, rfl⟩
    have e : Stt.write s f ⟨d, 2000, S, L, F, fuel, dead⟩ = ⟨d, 2000, S, L, F, fuel, dead⟩ := by simp [Stt.write]
    rw [e]
    exact ⟨h0, Below.refl _ _, Or.inl rfl⟩
  · have hm3 : m < 2000 := by omega
    by_cases hf : fuel = 0
    · subst hf
      refine (write_zero b m q' p' _ dead s ad cp W hd hm3).mono ?_
      rintro e w' ⟨rfl, hd', hon⟩
      have e : Stt.write s f ⟨d, m, S, L, F, 0, dead⟩ = ⟨d, m, S, L, F, 0, true⟩ := by cases dead <;> simp [Stt.write, hm2, Stt.gone]
      rw [e]
      exact ⟨⟨a', c', p', q', A, C, hd', ho.onlyDev hd hon, hg.onlyDev hd hon, hx, hl, hm⟩, hon.below (fun x e => by injection e with e; subst e; exact hBb), Or.inr ⟨rfl, rfl⟩⟩
    · cases dead with
      | true =>
        refine (write_dead b m q' p' _ fuel s ad cp W hd hf hm3).mono ?_
        rintro e w' ⟨rfl, rfl⟩
        rw [Stt.write_dead rfl]
        exact ⟨h0, Below.refl _ _, Or.inr ⟨rfl, rfl⟩⟩
      | false =>
        refine (write_live0 b m q' B p' _ fuel s ad cp S L F A C f W hd hf (by omega) (by omega) hm3 hg hBb hro).mono ?_
        rintro e w' ⟨rfl, v', A', C', hd', hg', hA, hAm, hb', hkb⟩
        obtain ⟨p2, q2, hv2⟩ := owns_shape hg'.row
        subst hv2
        have e : Stt.write s f ⟨d, m, S, L, F, fuel, false⟩ = ⟨d, m + 1, fun i => if i = m then s else S i, fun i => if i = m then 64 else L i, fun i => if i = m then f else F i, fuelAfter fuel, false⟩ := by simp [Stt.write, hm2, hf, Stt.push]
        rw [e]
        have ho' : OwnB w' B a' n d := by
          rcases ho with h0 | ⟨g, rfl, hgB, hr⟩
          · exact Or.inl h0
          · exact Or.inr ⟨g, rfl, hgB, hkb _ _ _ hr⟩
        refine ⟨⟨a', c', p2, q2, A', C', hd', ho', hg', fun hn i hi hl => ?_, hl, hm⟩, hb', Or.inl rfl⟩
        dsimp only at hi hl
        by_cases e : i = m
        · subst e
          intro ea
          rcases ho with h0 | ⟨g, rfl, hgB, hr⟩
          · exact hn h0
          · have q1 := hAm _ ea
            have q2 := hr.lt
            simp at q1
            omega
        · have hi' : i < m := by omega
          rw [hA i hi']
          exact hx hn i hi' (by simpa [e] using hl)

theorem devY_st (t : Stt) (b B n : Nat) (W : World) (h : DevSt W b B n t) (hv : t.ok n) (hBb : B ≤ b) :
    Calls Try.prog 34 #[.pointer (some ⟨b, 0, none⟩)] W (StepTo W b B n t.sync) := by
  obtain ⟨d, m, S, L, F, fuel, dead⟩ := t
  have hv' : VD n m S L fuel := hv
  have hVH := hv'.1
  unfold VH at hVH
  have h0 := h
  obtain ⟨a', c', p', q', A, C, hd, ho, hg, hx, hl, hm⟩ := h
  dsimp only at hd ho hg hx
  by_cases hf : fuel = 0
  · subst hf
    refine (sync_zero b _ _ dead W hd).mono ?_
    rintro e w' ⟨rfl, hd', hon⟩
    have e : Stt.sync ⟨d, m, S, L, F, 0, dead⟩ = ⟨d, m, S, L, F, 0, true⟩ := by cases dead <;> simp [Stt.sync, Stt.gone]
    rw [e]
    exact ⟨⟨a', c', p', q', A, C, hd', ho.onlyDev hd hon, hg.onlyDev hd hon, hx, hl, hm⟩, hon.below (fun x e => by injection e with e; subst e; exact hBb), Or.inr ⟨rfl, rfl⟩⟩
  · cases dead with
    | true =>
      refine (sync_dead b _ _ fuel W hd hf).mono ?_
      rintro e w' ⟨rfl, rfl⟩
      rw [Stt.sync_dead rfl]
      exact ⟨h0, Below.refl _ _, Or.inr ⟨rfl, rfl⟩⟩
    | false =>
      rcases ho with h00 | ⟨g, rfl, hgB, hr⟩
      · omega
      refine (sync_live b m q' B n c' g p' fuel d S L F A C W hd hf (by omega) (by omega) hgB hr hg (hx (by omega)) hv'.2 (by omega) (by omega) hl hm hBb).mono ?_
      rintro e w' ⟨rfl, hd', hr', hb'⟩
      have e : Stt.sync ⟨d, m, S, L, F, fuel, false⟩ = ⟨syncTo d S F m, 0, fun _ => 0, fun _ => 0, fun _ _ => 0, fuelAfter fuel, false⟩ := by simp [Stt.sync, hf, Stt.flush]
      rw [e]
      exact ⟨⟨_, c', none, 0, _, _, hd', Or.inr ⟨g, rfl, hgB, hr'⟩, Gath.start _ _ _ _ _, fun _ i hi => absurd hi (Nat.not_lt_zero _), hl, hm⟩, hb', Or.inl rfl⟩
end Go.Proofs.Ytlcamfkgkcjehaa

namespace Go.Proofs.Ytlcamfkgkcjehaa
open Go.RowKit Go.Deep
set_option linter.unusedVariables false
set_option maxRecDepth 100000

/-- Two things, by number. -/
def two {α : Type} (x y : α) (i : Nat) : α := if i = 0 then x else y
/-- Five things, by number. -/
def five {α : Type} (x0 x1 x2 x3 x4 : α) (i : Nat) : α := if i = 0 then x0 else if i = 1 then x1 else if i = 2 then x2 else if i = 3 then x3 else x4

theorem rdS_two {W : World} {a0 a1 : Option Addr} {n0 n1 c0 c1 : Nat} {f0 f1 : Nat → Int} {t : TypeId} (h0 : Rd .u8 W a0 n0 f0) (h1 : Rd .u8 W a1 n1 f1) : RdS (W.alloc (.cells #[.slice a0 n0 c0, .slice a1 n1 c1] t)) W.heap.size 0 2 (two n0 n1) (two f0 f1) := by
  intro i hi
  match i, hi with
  | 0, _ => exact ⟨a0, c0, by simp [two], by simpa [two] using h0.below (below_alloc _ _)⟩
  | 1, _ => exact ⟨a1, c1, by simp [two], by simpa [two] using h1.below (below_alloc _ _)⟩

theorem rdS_five {W : World} {a0 a1 a2 a3 a4 : Option Addr} {n0 n1 n2 n3 n4 c0 c1 c2 c3 c4 : Nat} {f0 f1 f2 f3 f4 : Nat → Int} {t : TypeId} (h0 : Rd .u8 W a0 n0 f0) (h1 : Rd .u8 W a1 n1 f1) (h2 : Rd .u8 W a2 n2 f2) (h3 : Rd .u8 W a3 n3 f3) (h4 : Rd .u8 W a4 n4 f4) :
    RdS (W.alloc (.cells #[.slice a0 n0 c0, .slice a1 n1 c1, .slice a2 n2 c2, .slice a3 n3 c3, .slice a4 n4 c4] t)) W.heap.size 0 5 (five n0 n1 n2 n3 n4) (five f0 f1 f2 f3 f4) := by
  intro i hi
  match i, hi with
  | 0, _ => exact ⟨a0, c0, by simp [five], by simpa [five] using h0.below (below_alloc _ _)⟩
  | 1, _ => exact ⟨a1, c1, by simp [five], by simpa [five] using h1.below (below_alloc _ _)⟩
  | 2, _ => exact ⟨a2, c2, by simp [five], by simpa [five] using h2.below (below_alloc _ _)⟩
  | 3, _ => exact ⟨a3, c3, by simp [five], by simpa [five] using h3.below (below_alloc _ _)⟩
  | 4, _ => exact ⟨a4, c4, by simp [five], by simpa [five] using h4.below (below_alloc _ _)⟩

theorem seal_cat (f : Nat → Int) (j : Nat) (hj : j < 64) : catF (two 60 4) (two f (byteAt (crcV f))) 2 j = sealF f j := by
  show (if j < 60 then (if j < 0 then (0 : Int) else f (j - 0)) else byteAt (crcV f) (j - 60)) = if 60 ≤ j ∧ j < 60 + 4 then byteAt (crcV f) (j - 60) else f j
  by_cases h : j < 60
  · rw [if_pos h, if_neg (by omega), if_neg (by omega), Nat.sub_zero]
  · rw [if_neg h, if_pos (by omega)]

set_option maxHeartbeats 1000000 in
theorem l2Seal_any (a : Option Addr) (c : Nat) (f : Nat → Int) (w : World) (h : Rd .u8 w a 60 f) (hr : ∀ i, i < 60 → 0 ≤ f i ∧ f i < 256) :
    Calls Try.prog 63 #[.slice a 60 c] w fun e w' => RetOwn w e w' 64 (sealF f) := by
  have H : Hid (Rd .u8 w a 60 f) := h
  have HR : Hid (∀ i, i < 60 → 0 ≤ f i ∧ f i < 256) := hr
  have hcr := crcV_range f
  clear h hr
  go_enter Try.func63, Try.ntmps63
  go_wp2_with fail
  refine (specCrc_any a 60 c f w H.out HR.out (by omega)).mono ?_
  rintro e w0 ⟨rfl, rfl⟩
  have hcv : bits .xor .u32 (crcTo f 60) 4294967295 = crcV f := rfl
  rw [hcv]
  clear hcv
  generalize hq : crcV f = cv at *
  go_wp2_with fail
  refine (l2Put_any cv 4 w0 (by omega) (by omega) (by omega)).mono ?_
  rintro e w1 ⟨a1, c1, rfl, ho1, hb1, -, -⟩
  have RS : Hid (RdS (w1.alloc (.cells #[.slice a 60 c, .slice a1 4 c1] 22)) w1.heap.size 0 2 (two 60 4) (two f (byteAt cv))) := rdS_two (H.out.below hb1) ho1.rd
  have HB1 : Hid (Below w0.heap.size w0 w1) := hb1
  clear ho1 hb1
  go_wp2_with fail
  refine (l2Cat_any w1.heap.size 0 2 2 (two 60 4) (two f (byteAt cv)) _ RS.out (by omega) (fun k hk => ?_) (fun k hk => ?_)).mono ?_
  · match k, hk with
    | 0, _ => simp [catL]
    | 1, _ => simp [catL, two]
    | 2, _ => simp [catL, two]
  · unfold two; split <;> omega
  rintro e w2 ⟨a2, c2, rfl, ho2, hb2, hl2, hm2⟩
  have HX : Hid (RetOwn w0 (.returned (.slice a2 64 c2)) w2 64 (sealF f)) := by
    refine ⟨a2, c2, rfl, ?_, ?_, by simpa [catL, two] using hl2, hm2⟩
    · have q : OwnB w2 w0.heap.size a2 64 (catF (two 60 4) (two f (byteAt cv)) 2) := by
        have := ho2.mono (B' := w0.heap.size) (by have := HB1.out.size; simp; omega)
        simpa [catL, two] using this
      exact q.congr (fun i hi => by rw [← hq]; exact seal_cat f i hi)
    · exact (HB1.out.alloc HB1.out.size _).trans (hb2.mono (by have := HB1.out.size; simp; omega))
  clear ho2 hb2 hq
  go_wp2
  go_ret
  exact HX.out
end Go.Proofs.Ytlcamfkgkcjehaa

namespace Go.Proofs.Ytlcamfkgkcjehaa
open Go.RowKit Go.Deep
set_option linter.unusedVariables false
set_option maxRecDepth 100000

/-- Of the blocks ahead of B, w' has turned at most g. -/
structure BelC (B g : Nat) (w w' : World) : Prop where
  os : w'.os = w.os
  tape : w'.tape = w.tape
  output : w'.output = w.output
  size : w.heap.size ≤ w'.heap.size
  block : ∀ k, k < B → k ≠ g → w'.heap[k]? = w.heap[k]?
theorem BelC.refl (B g : Nat) (w : World) : BelC B g w w := ⟨rfl, rfl, rfl, Nat.le_refl _, fun _ _ _ => rfl⟩
theorem BelC.trans {B g : Nat} {w w1 w2 : World} (h : BelC B g w w1) (k : BelC B g w1 w2) : BelC B g w w2 :=
  ⟨k.os.trans h.os, k.tape.trans h.tape, k.output.trans h.output, Nat.le_trans h.size k.size, fun i hi hx => (k.block i hi hx).trans (h.block i hi hx)⟩
theorem BelC.ofBelow {B B' g : Nat} {w w' : World} (h : Below B' w w') (hB : B ≤ B') : BelC B g w w' := ⟨h.os, h.tape, h.output, h.size, fun k hk _ => h.block k (by omega)⟩
theorem BelC.ofOnly {B g o : Nat} {w w' : World} (h : OnlyAt (some ⟨g, o, none⟩) w w') : BelC B g w w' :=
  ⟨h.os, h.tape, h.output, by rw [h.size]; exact Nat.le_refl _, fun k _ hx => h.block k (fun x e => by injection e with e; subst e; exact fun h => hx h.symm)⟩
theorem BelC.below {B g : Nat} {w w' : World} (h : BelC B g w w') (hg : B ≤ g) : Below B w w' := ⟨h.os, h.tape, h.output, h.size, fun k hk => h.block k hk (by omega)⟩
theorem BelC.mono {B B' g : Nat} {w w' : World} (h : BelC B g w w') (hB : B' ≤ B) : BelC B' g w w' := ⟨h.os, h.tape, h.output, h.size, fun k hk hx => h.block k (by omega) hx⟩

/-- A cursor whose blocks lie ahead of T. -/
structure DrwL (w : World) (T g : Nat) (b : Option Addr) (n c : Nat) (f : Nat → Int) : Prop where
  drw : Drw w g b n c f
  cur : g < T
  bytes : n ≠ 0 → ∀ x, b = some x → x.block < T

theorem DrwL.below {w w' : World} {T g : Nat} {b : Option Addr} {n c : Nat} {f : Nat → Int} (h : DrwL w T g b n c f) (hb : Below T w w') : DrwL w' T g b n c f := by
  obtain ⟨⟨⟨i, hh, hi, hc⟩, hrd, hne, hl, hr⟩, h2, h3⟩ := h
  refine ⟨⟨⟨i, hh, hi, rowIn.of_block hc (hb.block g h2)⟩, ?_, hne, hl, hr⟩, h2, h3⟩
  rcases hrd with h0 | ⟨k, o, rfl, hcc⟩
  · exact Or.inl h0
  · by_cases h0 : n = 0
    · exact Or.inl h0
    · exact Or.inr ⟨k, o, rfl, fun j hj => (hb.cell (p := ⟨k, o + j, none⟩) (show k < T from h3 h0 ⟨k, o, none⟩ rfl)).trans (hcc j hj)⟩
theorem DrwL.of {w : World} {g : Nat} {b : Option Addr} {n c : Nat} {f : Nat → Int} (h : Drw w g b n c f) : DrwL w w.heap.size g b n c f := by
  obtain ⟨i, hh, hi, hc⟩ := h.cur
  exact ⟨h, rowIn.lt hc, fun hz => h.rd.blockLt hz⟩

theorem OwnP.onlyDk {w w' : World} {B b m : Nat} {a : Option Addr} {S : Nat → Int} {L : Nat → Nat} {F : Nat → Nat → Int} {A : Nat → Option Addr} {v0 v1 : Value} {fuel : Int} {dead : Bool} (h : OwnP w B a m S L F A) (hd : DkRow w b v0 v1 fuel dead) (ho : OnlyAt (some ⟨b, 0, none⟩) w w') : OwnP w' B a m S L F A := by
  rcases h with h | ⟨k, C, rfl, h⟩
  · exact Or.inl h
  · exact Or.inr ⟨k, C, rfl, h.le, h.row.of_block (ho.block k (fun x e => by injection e with e; subst e; exact fun e => h.row.ne hd (by decide) e.symm)), fun i hi => (h.each i hi).onlyDk hd ho, h.apart⟩
theorem OwnD.onlyDk {w w' : World} {B b n m : Nat} {a p : Option Addr} {d S : Nat → Int} {L : Nat → Nat} {F : Nat → Nat → Int} {A : Nat → Option Addr} {v0 v1 : Value} {fuel : Int} {dead : Bool} (h : OwnD w B a n d p m S L F A) (hd : DkRow w b v0 v1 fuel dead) (ho : OnlyAt (some ⟨b, 0, none⟩) w w') : OwnD w' B a n d p m S L F A :=
  ⟨h.data.onlyDk hd ho, h.cache.onlyDk hd ho, h.apart⟩
end Go.Proofs.Ytlcamfkgkcjehaa

namespace Go.Proofs.Ytlcamfkgkcjehaa
open Go.RowKit Go.Deep
set_option linter.unusedVariables false
set_option maxRecDepth 100000

/-- The least bytes that piece i of k has. -/
def leastV (i k : Int) : Int := if i < k - 1 then 48 else if 1 < k then 1 else 0
theorem leastV_range (i k : Int) : 0 ≤ leastV i k ∧ leastV i k ≤ 48 := by unfold leastV; split <;> (try split) <;> omega

set_option maxHeartbeats 400000 in
theorem leastPiece_any (i k : Int) (w : World) (h0 : -65536 ≤ k) (h1 : k ≤ 65536) : Calls Try.prog 75 #[.int .i64 i, .int .i64 k] w fun e w' => e = .returned (.int .i64 (leastV i k)) ∧ w' = w := by
  by_cases c1 : i < k - 1
  · have HE : Hid (leastV i k = 48) := if_pos c1
    go_enter Try.func75, Try.ntmps75
    go_wp2
    go_ret
    exact ⟨by rw [HE.out]; rfl, rfl⟩
  · by_cases c2 : 1 < k
    · have HE : Hid (leastV i k = 1) := (if_neg c1).trans (if_pos c2)
      go_enter Try.func75, Try.ntmps75
      go_wp2
      go_ret
      exact ⟨by rw [HE.out]; rfl, rfl⟩
    · have HE : Hid (leastV i k = 0) := (if_neg c1).trans (if_neg c2)
      go_enter Try.func75, Try.ntmps75
      go_wp2
      go_ret
      exact ⟨by rw [HE.out]; rfl, rfl⟩

/-- Whether a sector is piece i of k. -/
def pieceB (f : Nat → Int) (seq i k : Int) : Bool := decide (leastV i k ≤ getN f 8 2) && decide (getN f 8 2 ≤ 48) && sameB f (recF seq i k (getN f 8 2).toNat (fun j => f (12 + j)))
/-- What readPiece answers. -/
def PieceRet (w : World) (e : Ending) (w' : World) (f : Nat → Int) (seq i k : Int) : Prop := Below w.heap.size w w' ∧
  ((pieceB f seq i k = true ∧ e = .returned (.tuple #[.slice (some ⟨w.heap.size, 12, none⟩) (getN f 8 2).toNat 52, .bool true]) ∧ Sec w' w.heap.size f) ∨ (pieceB f seq i k = false ∧ e = .returned (.tuple #[.slice none 0 0, .bool false])))

/-- A call of recSector, as a step of a region that draws its order. -/
theorem step_recSector {ops : Array Oper} {o : Oper} {a : Act} {w : World} {K : Act → World → Prop} {Q : Exit → Act → World → Prop} {E : Prop} {ts : Array TypeId} (hgd : o.guard = none) (x y z u : Nat)
    (ho : o.op = .call { callee := .value (.func 72), args := #[.tmp x, .tmp y, .tmp z, .tmp u], argTypes := ts }) (v1 v2 v3 v4 : Value) (h1 : a.tmps[x]?.getD undef = v1) (h2 : a.tmps[y]?.getD undef = v2) (h3 : a.tmps[z]?.getD undef = v3) (h4 : a.tmps[u]?.getD undef = v4)
    (h : Calls Try.prog 72 #[v1, v2, v3, v4] w fun e w' => ∃ r, e = .returned r ∧ K (a.put o.dst r) w') :
    if Region.wanted o (yielded ops a.tmps) = true then Oper.wp Try.prog o a w K Q else E := by
  have hw : Region.wanted o (yielded ops a.tmps) = true := by simp [Region.wanted, hgd]
  rw [if_pos hw]
  unfold Oper.wp
  simp [execOp, ho, resolve, invoke, h1, h2, h3, h4, go_sem]
  refine h.mono ?_
  rintro e w' ⟨r, rfl, hk⟩
  exact hk

set_option maxHeartbeats 1000000 in
theorem readPiece_any (f : Nat → Int) (seq i k : Int) (w : World) (hr : ∀ j, j < 64 → 0 ≤ f j ∧ f j < 256) (h0 : -65536 ≤ k) (h1 : k ≤ 65536) :
    Calls Try.prog 68 #[.agg (secA f), .int .i64 seq, .int .i64 i, .int .i64 k] w fun e w' => PieceRet w e w' f seq i k := by
  have HR : Hid (∀ j, j < 64 → 0 ≤ f j ∧ f j < 256) := hr
  have hsz := getN_range f 8 2 (fun j hj => hr (8 + j) (by omega))
  obtain ⟨sz, hgn⟩ := Int.eq_ofNat_of_zero_le hsz.1
  have hsz2 : sz < 65536 := by have := hsz.2; rw [hgn] at this; simp at this; omega
  have HP : Hid (pieceB f seq i k = (decide (leastV i k ≤ (sz : Int)) && decide ((sz : Int) ≤ 48) && sameB f (recF seq i k sz (fun j => f (12 + j))))) := by
    show _ = _
    unfold pieceB
    rw [hgn]
    rfl
  have HT : Hid ((getN f 8 2).toNat = sz) := by show _ = _; rw [hgn]; rfl
  have HGN : Hid (getN f 8 2 = (sz : Int)) := hgn
  have hlr := leastV_range i k
  clear hr hsz hgn
  go_enter Try.func68, Try.ntmps68
  go_wp2_with fail
  obtain ⟨W, hW⟩ : ∃ W, W = w.alloc (.cells (secA f) 82) := ⟨_, rfl⟩
  rw [← hW]
  have BW : Hid (Below w.heap.size w W) := by rw [hW]; exact below_alloc _ _
  have S0 : Hid (Sec W w.heap.size f) := by rw [hW]; exact Sec.new w f
  clear hW
  refine (number_any w.heap.size 8 2 f W S0.out HR.out (by omega) (by omega) (by omega)).mono ?_
  rintro e w1 ⟨rfl, hw⟩
  subst hw
  rw [HGN.out]
  go_wp2_with fail
  refine (leastPiece_any i k w1 h0 h1).mono ?_
  rintro e w2 ⟨rfl, hw⟩
  subst hw
  obtain ⟨W, rfl⟩ : ∃ x, x = w2 := ⟨_, rfl⟩
  generalize hlv : leastV i k = lv at *
  by_cases c1 : (sz : Int) < lv
  · have HF : Hid (pieceB f seq i k = false) := by
      show _ = _
      rw [HP.out, decide_eq_false (by omega)]
      rfl
    go_wp2
    refine bodyPost_ret (v := .tuple #[.slice none 0 0, .bool false]) (by simp [results, Try.results68, go_sem]) rfl ⟨BW.out, Or.inr ⟨HF.out, rfl⟩⟩
  by_cases c2 : (sz : Int) ≤ 48
  · have c2' : ¬ (48 : Int) < (sz : Int) := by omega
    have HQ : Hid (pieceB f seq i k = sameB f (recF seq i k sz (fun j => f (12 + j)))) := by
      show _ = _
      rw [HP.out, decide_eq_true (by omega), decide_eq_true c2]
      rfl
    have i1 : (12 : Int) ≤ 12 + (sz : Int) := by omega
    have i2 : (12 : Int) + (sz : Int) ≤ 64 := by omega
    cases hsame : sameB f (recF seq i k sz (fun j => f (12 + j))) with
    | true =>
      have hEq : ∀ w, (Op.equalIn 10000 82 (.agg (secA f)) (.agg (secA (recF seq i k sz (fun j => f (12 + j)))))).run Try.prog w = .ok true w := fun w => by rw [secEq, hsame]
      rw [hsame] at HQ
      go_wp2
      refine wp_region_late (S := fun w' => Sec w' w.heap.size f) 6 (by kernel_rfl) ?_ (fun hHeld => ?_)
      · ((try dsimp only); (first | exact hs3 | exact S0.out))
      refine late_take 0 .zero (v := .agg (secA f)) (by kernel_rfl) (by kernel_rfl) (by kernel_rfl) (by kernel_rfl) (fun _ _ _ h => h) (by rfl) ?_ (by assumption) ?_
      · (intro w hSw; (try dsimp only at hSw); exact exec_load_sec rfl rfl hSw)
      simp only [Act.put, List.setIfInBounds_toArray, List.set_cons_zero, List.set_cons_succ]
      refine late_take 1 (.succ .zero) (v := ?_) (by kernel_rfl) (by kernel_rfl) (by kernel_rfl) (by kernel_rfl) (fun _ _ _ h => h) (by rfl) ?_ (by assumption) ?_
      rotate_left
      · (intro w hSw; (try dsimp only at hSw); go_simp) <;> with_reducible rfl
      simp only [Act.put, List.setIfInBounds_toArray, List.set_cons_zero, List.set_cons_succ]
      refine late_take 2 (.succ (.succ .zero)) (v := ?_) (by kernel_rfl) (by kernel_rfl) (by kernel_rfl) (by kernel_rfl) (fun _ _ _ h => h) (by rfl) ?_ (by assumption) ?_
      rotate_left
      · (intro w hSw; (try dsimp only at hSw); go_simp) <;> with_reducible rfl
      simp only [Act.put, List.setIfInBounds_toArray, List.set_cons_zero, List.set_cons_succ]
      refine late_take 3 (.succ (.succ (.succ .zero))) (v := ?_) (by kernel_rfl) (by kernel_rfl) (by kernel_rfl) (by kernel_rfl) (fun _ _ _ h => h) (by rfl) ?_ (by assumption) ?_
      rotate_left
      · (intro w hSw; (try dsimp only at hSw); go_simp) <;> with_reducible rfl
      simp only [Act.put, List.setIfInBounds_toArray, List.set_cons_zero, List.set_cons_succ]
      refine late_take 4 (.succ (.succ (.succ (.succ .zero)))) (v := ?_) (by kernel_rfl) (by kernel_rfl) (by kernel_rfl) (by kernel_rfl) (fun _ _ _ h => h) (by rfl) ?_ (by assumption) ?_
      rotate_left
      · (intro w hSw; (try dsimp only at hSw); go_simp) <;> with_reducible rfl
      simp only [Act.put, List.setIfInBounds_toArray, List.set_cons_zero, List.set_cons_succ]
      refine late_one 5 (.succ (.succ (.succ (.succ (.succ .zero))))) (by kernel_rfl) (fun K hK => ?_)
      (refine step_recSector (by rfl) 26 27 28 29 (by rfl) (.int .i64 seq) (.int .i64 i) (.int .i64 k) (.slice (some ⟨w.heap.size, 12, none⟩) sz 52) (by rfl) (by rfl) (by rfl) (by rfl) ?_; refine (recSector_any seq i k (some ⟨w.heap.size, 12, none⟩) sz 52 (fun j => f (12 + j)) W.drew (S0.out.rd 12 sz (by omega)) (fun j hj => HR.out (12 + j) (by omega)) (by omega)).mono ?_; rintro e w3 ⟨rfl, hb3⟩; refine ⟨_, rfl, ?_⟩; have hb3' : Below W.heap.size W w3 := (Below.refl _ _).drew.trans hb3; have hs3 : Sec w3 w.heap.size f := S0.out.below hb3'; have HB3 : Hid (Below w.heap.size w w3) := BW.out.trans (hb3'.mono BW.out.size))
      refine hK.out _ _ ?_ (fun hHeld2 => ?_)
      · (intro _; (try dsimp only); (first | exact hs3 | exact S0.out))
      clear hK K
      replace hHeld := hHeld2 (by decide)
      clear hHeld2
      try simp only [Act.put, List.setIfInBounds_toArray, List.set_cons_zero, List.set_cons_succ]
      refine late_one 6 (.succ (.succ (.succ (.succ (.succ (.succ .zero)))))) (by kernel_rfl) (fun K hK => ?_)
      go_simp
      refine hK.out _ _ ?_ (fun hHeld2 => ?_)
      · (intro hne; exact absurd rfl hne)
      clear hK K hHeld2
      refine wpLate_done (by kernel_rfl) ?_ _
      obtain ⟨w4, rfl⟩ : ∃ x, x = w3 := ⟨_, rfl⟩
      have HS3 : Hid (Sec w4 w.heap.size f) := hs3
      clear hs3 hb3 hb3'
      go_wp2
      refine bodyPost_ret (v := .tuple #[.slice (some ⟨w.heap.size, 12, none⟩) sz 52, .bool true]) (by simp [results, Try.results68, go_sem]) rfl ⟨HB3.out, Or.inl ⟨HQ.out, by rw [HT.out], HS3.out⟩⟩
    | false =>
      have hEq : ∀ w, (Op.equalIn 10000 82 (.agg (secA f)) (.agg (secA (recF seq i k sz (fun j => f (12 + j)))))).run Try.prog w = .ok false w := fun w => by rw [secEq, hsame]
      rw [hsame] at HQ
      go_wp2
      refine wp_region_late (S := fun w' => Sec w' w.heap.size f) 6 (by kernel_rfl) ?_ (fun hHeld => ?_)
      · ((try dsimp only); (first | exact hs3 | exact S0.out))
      refine late_take 0 .zero (v := .agg (secA f)) (by kernel_rfl) (by kernel_rfl) (by kernel_rfl) (by kernel_rfl) (fun _ _ _ h => h) (by rfl) ?_ (by assumption) ?_
      · (intro w hSw; (try dsimp only at hSw); exact exec_load_sec rfl rfl hSw)
      simp only [Act.put, List.setIfInBounds_toArray, List.set_cons_zero, List.set_cons_succ]
      refine late_take 1 (.succ .zero) (v := ?_) (by kernel_rfl) (by kernel_rfl) (by kernel_rfl) (by kernel_rfl) (fun _ _ _ h => h) (by rfl) ?_ (by assumption) ?_
      rotate_left
      · (intro w hSw; (try dsimp only at hSw); go_simp) <;> with_reducible rfl
      simp only [Act.put, List.setIfInBounds_toArray, List.set_cons_zero, List.set_cons_succ]
      refine late_take 2 (.succ (.succ .zero)) (v := ?_) (by kernel_rfl) (by kernel_rfl) (by kernel_rfl) (by kernel_rfl) (fun _ _ _ h => h) (by rfl) ?_ (by assumption) ?_
      rotate_left
      · (intro w hSw; (try dsimp only at hSw); go_simp) <;> with_reducible rfl
      simp only [Act.put, List.setIfInBounds_toArray, List.set_cons_zero, List.set_cons_succ]
      refine late_take 3 (.succ (.succ (.succ .zero))) (v := ?_) (by kernel_rfl) (by kernel_rfl) (by kernel_rfl) (by kernel_rfl) (fun _ _ _ h => h) (by rfl) ?_ (by assumption) ?_
      rotate_left
      · (intro w hSw; (try dsimp only at hSw); go_simp) <;> with_reducible rfl
      simp only [Act.put, List.setIfInBounds_toArray, List.set_cons_zero, List.set_cons_succ]
      refine late_take 4 (.succ (.succ (.succ (.succ .zero)))) (v := ?_) (by kernel_rfl) (by kernel_rfl) (by kernel_rfl) (by kernel_rfl) (fun _ _ _ h => h) (by rfl) ?_ (by assumption) ?_
      rotate_left
      · (intro w hSw; (try dsimp only at hSw); go_simp) <;> with_reducible rfl
      simp only [Act.put, List.setIfInBounds_toArray, List.set_cons_zero, List.set_cons_succ]
      refine late_one 5 (.succ (.succ (.succ (.succ (.succ .zero))))) (by kernel_rfl) (fun K hK => ?_)
      (refine step_recSector (by rfl) 26 27 28 29 (by rfl) (.int .i64 seq) (.int .i64 i) (.int .i64 k) (.slice (some ⟨w.heap.size, 12, none⟩) sz 52) (by rfl) (by rfl) (by rfl) (by rfl) ?_; refine (recSector_any seq i k (some ⟨w.heap.size, 12, none⟩) sz 52 (fun j => f (12 + j)) W.drew (S0.out.rd 12 sz (by omega)) (fun j hj => HR.out (12 + j) (by omega)) (by omega)).mono ?_; rintro e w3 ⟨rfl, hb3⟩; refine ⟨_, rfl, ?_⟩; have hb3' : Below W.heap.size W w3 := (Below.refl _ _).drew.trans hb3; have hs3 : Sec w3 w.heap.size f := S0.out.below hb3'; have HB3 : Hid (Below w.heap.size w w3) := BW.out.trans (hb3'.mono BW.out.size))
      refine hK.out _ _ ?_ (fun hHeld2 => ?_)
      · (intro _; (try dsimp only); (first | exact hs3 | exact S0.out))
      clear hK K
      replace hHeld := hHeld2 (by decide)
      clear hHeld2
      try simp only [Act.put, List.setIfInBounds_toArray, List.set_cons_zero, List.set_cons_succ]
      refine late_one 6 (.succ (.succ (.succ (.succ (.succ (.succ .zero)))))) (by kernel_rfl) (fun K hK => ?_)
      go_simp
      refine hK.out _ _ ?_ (fun hHeld2 => ?_)
      · (intro hne; exact absurd rfl hne)
      clear hK K hHeld2
      refine wpLate_done (by kernel_rfl) ?_ _
      obtain ⟨w4, rfl⟩ : ∃ x, x = w3 := ⟨_, rfl⟩
      clear hs3 hb3 hb3'
      go_wp2
      refine bodyPost_ret (v := .tuple #[.slice none 0 0, .bool false]) (by simp [results, Try.results68, go_sem]) rfl ⟨HB3.out, Or.inr ⟨HQ.out, rfl⟩⟩
  · have c2' : (48 : Int) < (sz : Int) := by omega
    have HF : Hid (pieceB f seq i k = false) := by
      show _ = _
      rw [HP.out, decide_eq_true (by omega), decide_eq_false c2]
      rfl
    go_wp2
    refine bodyPost_ret (v := .tuple #[.slice none 0 0, .bool false]) (by simp [results, Try.results68, go_sem]) rfl ⟨BW.out, Or.inr ⟨HF.out, rfl⟩⟩
end Go.Proofs.Ytlcamfkgkcjehaa
