import Derived.Test.YtbpcafcipncloaaRaI
import Derived.Test.YtbpcafcipncloaaSpRo
namespace Go.Proofs.Ytbpcafcipncloaa
open Go.RowKit Go.Deep
set_option linter.unusedVariables false
set_option maxRecDepth 100000

set_option maxHeartbeats 400000 in
theorem l2AreaSize_any (a p : Option Addr) (n c m q : Nat) (fuel : Int) (dead : Bool) (A : Nat) (w : World) (hn : n ≤ 1048576) (h16 : 16 ≤ n / 64) (hA : A = (n / 64 - 2) / 2) :
    Calls Try.prog 57 #[.agg #[.slice a n c, .slice p m q, .int .i64 fuel, .bool dead]] w fun e w' => e = .returned (.int .i64 A) ∧ Below w.heap.size w w' := by
  have e1 : IntKind.i64.wrap ((n : Int) / 64 - 2) = (n : Int) / 64 - 2 := by rw [IntKind.wrap_i64]; omega
  have e2 : ((n : Int) / 64 - 2).tdiv 2 = (A : Int) := by rw [Int.tdiv_eq_ediv_of_nonneg (by omega)]; omega
  have e3 : IntKind.i64.wrap (A : Int) = (A : Int) := by rw [IntKind.wrap_i64]; omega
  have HA : Hid (A = (n / 64 - 2) / 2) := hA
  clear hA
  go_enter Try.func57, Try.ntmps57
  go_wp2_with fail
  refine (l1Sectors_any a p n c m q fuel dead _ hn).mono ?_
  rintro e w1 ⟨rfl, hb1⟩
  have HX : Hid (Below w.heap.size w w1) := (below_alloc _ _).trans (hb1.mono (by simp))
  clear hb1
  go_wp2
  go_ret
  exact ⟨rfl, HX.out⟩

set_option maxHeartbeats 400000 in
theorem l2AreaFrom_any (a p : Option Addr) (n c m q : Nat) (fuel : Int) (dead : Bool) (A ar : Nat) (x : Int) (w : World) (hn : n ≤ 1048576) (h16 : 16 ≤ n / 64) (hA : A = (n / 64 - 2) / 2) (hx : x = (ar : Int)) (har : ar ≤ 1) :
    Calls Try.prog 58 #[.agg #[.slice a n c, .slice p m q, .int .i64 fuel, .bool dead], .int .i64 x] w fun e w' => e = .returned (.int .i64 ((2 + ar * A : Nat) : Int)) ∧ Below w.heap.size w w' := by
  have hm1 : x * (A : Int) = ((ar * A : Nat) : Int) := by rw [hx]; simp
  have hm2 : ar * A ≤ 8192 := by
    have : ar * A ≤ 1 * A := Nat.mul_le_mul_right _ har
    omega
  have e1 : IntKind.i64.wrap (x * (A : Int)) = ((ar * A : Nat) : Int) := by rw [IntKind.wrap_i64, hm1]; omega
  have e2 : IntKind.i64.wrap (2 + ((ar * A : Nat) : Int)) = ((2 + ar * A : Nat) : Int) := by rw [IntKind.wrap_i64]; omega
  obtain ⟨z, hz⟩ : ∃ z : Int, z = ((ar * A : Nat) : Int) := ⟨_, rfl⟩
  obtain ⟨y, hy⟩ : ∃ y : Int, y = ((2 + ar * A : Nat) : Int) := ⟨_, rfl⟩
  rw [← hz] at e1 e2
  rw [← hy] at e2 ⊢
  clear hm1 hm2 hx hz hy
  have HA : Hid (A = (n / 64 - 2) / 2) := hA
  clear hA
  go_enter Try.func58, Try.ntmps58
  go_wp2_with fail
  refine (l2AreaSize_any a p n c m q fuel dead A _ hn h16 HA.out).mono ?_
  rintro e w1 ⟨rfl, hb1⟩
  have HX : Hid (Below w.heap.size w w1) := (below_alloc _ _).trans (hb1.mono (by simp))
  clear hb1
  go_wp2
  go_ret
  exact ⟨rfl, HX.out⟩

/-- spec.ReadRec at any sector that there is. -/
theorem specRec_st (a p : Option Addr) (n c m q : Nat) (d S : Nat → Int) (L : Nat → Nat) (F : Nat → Nat → Int) (fuel : Int) (dead : Bool) (y : Int) (s : Nat) (seq : Int) (w : World) (ha : Rd .u8 w a n d) (hp : RdP w p m S L F) (hv : VD n m S L fuel) (hq : numB seq = true) (hy : y = (s : Int)) (hs : s < n / 64) (hn : n ≤ 1048576) (hnc : n ≤ c) (hcm : c ≤ 9223372036854775807) (hm : m ≤ 1048576) (hr : ∀ s i, i < 64 → 0 ≤ secF d S F m s i ∧ secF d S F m s i < 256) :
    Calls Try.prog 15 #[.agg #[.slice a n c, .slice p m q, .int .i64 fuel, .bool dead], .int .i64 y, .int .i64 seq] w fun e w' => Below w.heap.size w w' ∧
      (((s < n / 64 ∧ recOk (arG (secF d S F m) s) (((n / 64 : Nat) : Int) - (s : Int)) seq) ∧ ∃ a' c', e = .returned (.agg #[.bool true, .slice a' (catL (recLz (arG (secF d S F m) s)) (arK (secF d S F m) s)) c', .int .i64 (arK (secF d S F m) s)]) ∧ OwnB w' w.heap.size a' (catL (recLz (arG (secF d S F m) s)) (arK (secF d S F m) s)) (catF (recLz (arG (secF d S F m) s)) (recFz (arG (secF d S F m) s)) (arK (secF d S F m) s))) ∨
        (¬ (s < n / 64 ∧ recOk (arG (secF d S F m) s) (((n / 64 : Nat) : Int) - (s : Int)) seq) ∧ e = .returned (.agg #[.bool false, .slice none 0 0, .int .i64 0]))) := by
  subst hy
  refine (specReadRec_in a p n c m q d S L F fuel dead s seq w ha hp hv hq hs hn hnc hcm hm hr).mono ?_
  rintro e w' ⟨hb, h⟩
  refine ⟨hb, ?_⟩
  have e1 : (n : Int) / 64 - (s : Int) = ((n / 64 : Nat) : Int) - (s : Int) := by omega
  rw [e1] at h
  rcases h with ⟨hok, a', c', he, ho⟩ | ⟨hno, he⟩
  · refine Or.inl ⟨⟨hs, hok⟩, a', c', ?_, ho⟩
    have e2 : ((arK (secF d S F m) s : Nat) : Int) = getN (secF d S F m (s + 0)) 6 2 := by
      have := hok.1
      dsimp only at this
      unfold arK
      rw [Nat.add_zero] at this ⊢
      omega
    rw [e2]
    exact he
  · exact Or.inr ⟨fun hh => hno hh.2, he⟩
end Go.Proofs.Ytbpcafcipncloaa
