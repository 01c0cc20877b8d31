import Derived.Test.YtbpcafcipncloaaVDef
import Derived.Test.YtbpcafcipncloaaAppRd
namespace Go.Proofs.Ytbpcafcipncloaa
open Go.RowKit Go.Deep
set_option maxRecDepth 100000
set_option linter.unusedVariables false

/-- The last of the first k writes that is of sector s. -/
def lastAt (S : Nat → Int) (s : Int) : Nat → Option Nat
  | 0 => none
  | k + 1 => if S k = s then some k else lastAt S s k
theorem lastAt_hit {S : Nat → Int} {s : Int} {k : Nat} (h : S k = s) : lastAt S s (k + 1) = some k := by simp [lastAt, h]
theorem lastAt_miss {S : Nat → Int} {s : Int} {k : Nat} (h : ¬ S k = s) : lastAt S s (k + 1) = lastAt S s k := by simp [lastAt, h]

/-- What a sector reads as: the last write of it, or what is durable. -/
def secF (d S : Nat → Int) (F : Nat → Nat → Int) (m : Nat) (s : Nat) : Nat → Int :=
  match lastAt S s m with
  | some k => F k
  | none => fun j => d (s * 64 + j)
theorem secF_some {d S : Nat → Int} {F : Nat → Nat → Int} {m s k : Nat} (h : lastAt S s m = some k) : secF d S F m s = F k := by simp [secF, h]
theorem secF_none {d S : Nat → Int} {F : Nat → Nat → Int} {m s : Nat} (h : lastAt S s m = none) : secF d S F m s = fun j => d (s * 64 + j) := by simp [secF, h]

theorem rd_sub {w : World} {b o n : Nat} {d : Nat → Int} (hc : ∀ i, i < n → w.cell? ⟨b, o + i, none⟩ = some (.int .u8 (d i))) (s : Nat) (hs : (s + 1) * 64 ≤ n) : Rd .u8 w (some ⟨b, o + s * 64, none⟩) 64 (fun j => d (s * 64 + j)) :=
  Or.inr ⟨b, o + s * 64, rfl, fun i hi => by rw [Nat.add_assoc]; exact hc (s * 64 + i) (by omega)⟩

set_option maxHeartbeats 1000000 in
theorem look_any (a p : Option Addr) (n c m q : Nat) (d S : Nat → Int) (L : Nat → Nat) (F : Nat → Nat → Int) (fuel : Int) (dead : Bool) (s : Nat) (w : World) (ha : Rd .u8 w a n d) (hp : RdP w p m S L F) (hv : VD n m S L fuel) (hs : s < n / 64) (hn : n ≤ 1048576) (hnc : n ≤ c) (hcm : c ≤ 9223372036854775807) (hm : m ≤ 1048576) :
    Calls Try.prog 82 #[.agg #[.slice a n c, .slice p m q, .int .i64 fuel, .bool dead], .int .i64 s] w fun e w' => RetRd w e w' 64 (secF d S F m s) := by
  have HA : Hid (Rd .u8 w a n d) := ha
  have HP : Hid (∀ O, RdP (w.alloc O) p m S L F) := fun O => hp.below (below_alloc _ _)
  have HV : Hid (∀ i, i < m → L i = 64) := fun i hi => (hv.2 i hi).2.2
  clear ha hp hv
  go_enter Try.func82, Try.ntmps82
  go_wp2
  go_loop [5] (fun i => ∃ k : Nat, k ≤ m ∧ i = .int .i64 ((k : Int) - 1) ∧ lastAt S s m = lastAt S s k) (fun i => (intOf i + 1).toNat)
  case atStart => exact ⟨m, Nat.le_refl _, rfl, rfl⟩
  case round =>
    obtain ⟨k, hk, rfl, hl⟩ := hrel
    have HLst : Hid (lastAt S s m = lastAt S s k) := hl
    clear hl
    cases k with
    | zero =>
      rcases HA.out with h | ⟨b, o, hpa, hc⟩
      · omega
      subst hpa
      have HR : Hid (Rd .u8 w (some ⟨b, o + s * 64, none⟩) 64 (fun j => d (s * 64 + j))) := rd_sub hc s (by omega)
      have h1 : (s : Int) * 64 ≤ ((s : Int) + 1) * 64 := by omega
      have h2 : ((s : Int) + 1) * 64 ≤ (c : Int) := by omega
      clear hc
      go_wp2
      go_ret
      refine ⟨some ⟨b, o + s * 64, none⟩, c - s * 64, ?_, by rw [secF_none (HLst.out.trans rfl)]; exact HR.out.below (below_alloc _ _), below_alloc _ _⟩
      simp
      omega
    | succ k =>
      rcases HP.out (.cells #[.slice a n c, .slice p m q, .int .i64 fuel, .bool dead] 39) with h | ⟨b, o, hpa, hc⟩
      · omega
      subst hpa
      obtain ⟨c1, ad, cp, c2, c3⟩ := hc k (by omega)
      have hL := HV.out k (by omega)
      rw [hL] at c2 c3
      have C3 : Hid (Rd .u8 (w.alloc (.cells #[.slice a n c, .slice (some ⟨b, o, none⟩) m q, .int .i64 fuel, .bool dead] 39)) ad 64 (F k)) := c3
      have ek : ((k + 1 : Nat) : Int) - 1 = (k : Int) := by omega
      rw [ek]
      have hkm : (k : Int) < (m : Int) := by omega
      clear hc c3 hL ek
      by_cases e : S k = (s : Int)
      · have e' : (S k == (s : Int)) = true := by simp [e]
        have HF : Hid (secF d S F m s = F k) := secF_some (HLst.out.trans (lastAt_hit e))
        clear e
        go_wp2
        go_ret
        exact ⟨ad, cp, rfl, by rw [HF.out]; exact C3.out, below_alloc _ _⟩
      · have e' : (S k == (s : Int)) = false := by simp [e]
        have HF : Hid (lastAt S s m = lastAt S s k) := HLst.out.trans (lastAt_miss e)
        clear e
        go_wp2
        go_round
        case rel => exact ⟨k, by omega, rfl, HF.out⟩
        case measure => simp [intOf]
end Go.Proofs.Ytbpcafcipncloaa
