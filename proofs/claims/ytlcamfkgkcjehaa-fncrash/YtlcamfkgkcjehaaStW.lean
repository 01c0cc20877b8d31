import Derived.Test.YtlcamfkgkcjehaaSpecW
import Derived.Test.YtlcamfkgkcjehaaSpecY
namespace Go.Proofs.Ytlcamfkgkcjehaa
open Go.RowKit Go.Deep
set_option linter.unusedVariables false
set_option maxRecDepth 100000

/-- A disk as a value: what lies durable, what lies in the cache, the fuel, whether the power is gone. -/
structure Stt where
  d : Nat → Int
  m : Nat
  S : Nat → Int
  L : Nat → Nat
  F : Nat → Nat → Int
  fuel : Int
  dead : Bool

def Stt.ok (n : Nat) (t : Stt) : Prop := VD n t.m t.S t.L t.fuel

def Stt.gone (t : Stt) : Stt := ⟨t.d, t.m, t.S, t.L, t.F, t.fuel, true⟩
def Stt.push (s : Int) (f : Nat → Int) (t : Stt) : Stt := ⟨t.d, t.m + 1, fun i => if i = t.m then s else t.S i, fun i => if i = t.m then 64 else t.L i, fun i => if i = t.m then f else t.F i, fuelAfter t.fuel, false⟩
def Stt.flush (t : Stt) : Stt := ⟨syncTo t.d t.S t.F t.m, 0, fun _ => 0, fun _ => 0, fun _ _ => 0, fuelAfter t.fuel, false⟩

/-- One write, one sync: the document's 1.3, 1.4 over a valid disk, at a sector that there is, with 64 bytes. -/
def Stt.write (s : Int) (f : Nat → Int) (t : Stt) : Stt :=
  if t.dead = true then t else if t.m = 2000 then t else if t.fuel = 0 then t.gone else t.push s f
def Stt.sync (t : Stt) : Stt :=
  if t.dead = true then t else if t.fuel = 0 then t.gone else t.flush

/-- The first k of a row of writes. -/
def Stt.writes (at_ : Int) (G : Nat → Nat → Int) (t : Stt) : Nat → Stt
  | 0 => t
  | k + 1 => (Stt.writes at_ G t k).write (at_ + k) (G k)

/-- A record of last + 1 sectors. -/
def Stt.recd (at_ : Int) (G : Nat → Nat → Int) (last : Nat) (t : Stt) : Stt :=
  let t1 := Stt.writes at_ G t last
  let t2 := if 0 < last then t1.sync else t1
  (t2.write (at_ + last) (G last)).sync

theorem Stt.write_dead {t : Stt} (h : t.dead = true) (s : Int) (f : Nat → Int) : t.write s f = t := by
  unfold Stt.write; rw [if_pos h]
theorem Stt.sync_dead {t : Stt} (h : t.dead = true) : t.sync = t := by
  unfold Stt.sync; rw [if_pos h]

/-- Once the power is gone, nothing changes any more. -/
theorem Stt.writes_dead {t : Stt} {at_ : Int} {G : Nat → Nat → Int} {i : Nat} (h : (t.writes at_ G i).dead = true) : ∀ k, i ≤ k → t.writes at_ G k = t.writes at_ G i
  | 0, hk => by have : i = 0 := by omega
                subst this; rfl
  | k + 1, hk => by
    by_cases e : i = k + 1
    · subst e; rfl
    · have ih := Stt.writes_dead h k (by omega)
      show (t.writes at_ G k).write (at_ + k) (G k) = _
      rw [ih]
      exact Stt.write_dead h _ _

theorem Stt.recd_dead {t : Stt} {at_ : Int} {G : Nat → Nat → Int} {last i : Nat} (hi : i ≤ last) (h : (t.writes at_ G i).dead = true) : t.recd at_ G last = t.writes at_ G i := by
  have e := Stt.writes_dead h last hi
  unfold Stt.recd
  simp only [e, Stt.sync_dead h, ite_self, Stt.write_dead h]

theorem stt_vd_push {n m : Nat} {S : Nat → Int} {L : Nat → Nat} {fuel s : Int} (hV : VD n m S L fuel) (hf : fuel ≠ 0) (hm : m < 2000) (s0 : 0 ≤ s) (s1 : s < (n : Int) / 64) :
    VD n (m + 1) (fun i => if i = m then s else S i) (fun i => if i = m then 64 else L i) (fuelAfter fuel) := by
  obtain ⟨h1, h2⟩ := hV
  unfold VH at h1
  refine ⟨?_, fun i hi => ?_⟩
  · unfold VH fuelAfter
    split <;> omega
  · unfold VP
    by_cases e : i = m
    · subst e
      show 0 ≤ (if i = i then s else S i) ∧ (if i = i then s else S i) < (n : Int) / 64 ∧ (if i = i then 64 else L i) = 64
      rw [if_pos rfl, if_pos rfl]
      exact ⟨s0, s1, rfl⟩
    · simp only [if_neg e]
      exact h2 i (by omega)

theorem stt_vd_lens {n m : Nat} {S : Nat → Int} {L : Nat → Nat} {fuel : Int} (h : VD n m S L fuel) : n ≤ 1048576 ∧ m ≤ 1048576 ∧ ∀ i, i < m → L i ≤ 1048576 := by
  obtain ⟨h1, h2⟩ := h
  unfold VH at h1
  refine ⟨by omega, by omega, fun i hi => ?_⟩
  have := (h2 i hi).2.2
  omega

theorem Stt.ok.write {n : Nat} {t : Stt} (h : t.ok n) {s : Int} (f : Nat → Int) (s0 : 0 ≤ s) (s1 : s < (n : Int) / 64) : (t.write s f).ok n := by
  have hm : t.m ≤ 2000 := by have := h.1; unfold VH at this; omega
  unfold Stt.write
  split
  · exact h
  · split
    · exact h
    · rename_i e
      split
      · exact h
      · rename_i e2
        exact stt_vd_push (show VD n t.m t.S t.L t.fuel from h) e2 (by omega) s0 s1

theorem Stt.ok.sync {n : Nat} {t : Stt} (h : t.ok n) : t.sync.ok n := by
  have hh := h.1
  unfold VH at hh
  unfold Stt.sync
  split
  · exact h
  · split
    · exact h
    · refine ⟨?_, fun i hi => absurd hi (Nat.not_lt_zero _)⟩
      show VH n 0 (fuelAfter t.fuel)
      unfold VH fuelAfter
      split <;> omega

theorem Stt.ok.writes {n : Nat} {t : Stt} (h : t.ok n) {at_ : Int} {G : Nat → Nat → Int} : ∀ k : Nat, 0 ≤ at_ → at_ + k ≤ (n : Int) / 64 → (t.writes at_ G k).ok n
  | 0, _, _ => h
  | k + 1, h0, h1 => (Stt.ok.writes h k h0 (by omega)).write _ (by omega) (by omega)

/-- A disk handed back. -/
def Stt.ret (t : Stt) (n : Nat) (w : World) (e : Ending) (w' : World) : Prop := RetD w e w' n t.d t.m t.S t.L t.F t.fuel t.dead

/-- spec.DiskWrite, over any valid disk. -/
theorem specW_st (t : Stt) (a p ad : Option Addr) (n c q cp : Nat) (s : Int) (f : Nat → Int) (w : World) (ha : Rd .u8 w a n t.d) (hp : RdP w p t.m t.S t.L t.F) (hrd : Rd .u8 w ad 64 f) (hv : t.ok n) (s0 : 0 ≤ s) (s1 : s < (n : Int) / 64) :
    Calls Try.prog 48 #[.agg #[.slice a n c, .slice p t.m q, .int .i64 t.fuel, .bool t.dead], .int .i64 s, .slice ad 64 cp] w ((t.write s f).ret n w) := by
  obtain ⟨d, m, S, L, F, fuel, dead⟩ := t
  have hv' : VD n m S L fuel := hv
  obtain ⟨hn, hm, hL⟩ := stt_vd_lens hv'
  have hVH := hv'.1
  unfold VH at hVH
  unfold Stt.write Stt.ret
  cases dead with
  | true => exact specW_2 a p ad n c m q 64 cp d S L F fuel s w ha hp hn hm hL (by omega) hv'
  | false =>
    by_cases hm2 : m = 2000
    · simp only [hm2, if_true, Bool.false_eq_true, if_false]
      subst hm2
      exact specW_6 a p ad n c 2000 q cp d S L F fuel s w ha hp hn hm hL hv' (by omega) (by omega) rfl
    · by_cases hf : fuel = 0
      · subst hf
        simp only [hm2, if_true, Bool.false_eq_true, if_false]
        exact (specW_zero a p ad n c m q cp d S L F s w ha hp hn hm hL hv' (by omega) (by omega) hm2).mono (fun e w' h => h.retD)
      · simp only [hm2, hf, Bool.false_eq_true, if_false]
        exact (specW_live a p ad n c m q cp d S L F fuel s w ha hp hn hm hL f hrd hv' (by omega) (by omega) hm2 hf (by omega) (by omega)).mono (fun e w' h => h.retD)

/-- spec.DiskSync, over any valid disk. -/
theorem specY_st (t : Stt) (a p : Option Addr) (n c q : Nat) (w : World) (ha : Rd .u8 w a n t.d) (hp : RdP w p t.m t.S t.L t.F) (hv : t.ok n) :
    Calls Try.prog 49 #[.agg #[.slice a n c, .slice p t.m q, .int .i64 t.fuel, .bool t.dead]] w (t.sync.ret n w) := by
  obtain ⟨d, m, S, L, F, fuel, dead⟩ := t
  have hv' : VD n m S L fuel := hv
  obtain ⟨hn, hm, hL⟩ := stt_vd_lens hv'
  have hVH := hv'.1
  unfold VH at hVH
  unfold Stt.sync Stt.ret
  cases dead with
  | true => exact specY_2 a p n c m q d S L F fuel w ha hp hn hm hL hv'
  | false =>
    by_cases hf : fuel = 0
    · subst hf
      simp only [if_true, Bool.false_eq_true, if_false]
      exact (specY_zero a p n c m q d S L F w ha hp hn hm hL hv').mono (fun e w' h => h.retD)
    · simp only [hf, Bool.false_eq_true, if_false]
      exact specY_live a p n c m q d S L F fuel w ha hp hn hm hL hv' hf (by omega) (by omega) (fun _ => 0) (fun _ => 0) (fun _ _ => 0)
end Go.Proofs.Ytlcamfkgkcjehaa
