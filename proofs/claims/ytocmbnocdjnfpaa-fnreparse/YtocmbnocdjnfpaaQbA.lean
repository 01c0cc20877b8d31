import Derived.Test.YtocmbnocdjnfpaaQaC
import Derived.Test.YtocmbnocdjnfpaaPpK
import Derived.Test.YtocmbnocdjnfpaaPnT
namespace Go.Proofs.Ytocmbnocdjnfpaa
open Go.RowKit Go.Deep
set_option linter.unusedVariables false
set_option linter.unusedSimpArgs false
set_option maxRecDepth 100000

/-- A token's kind and text, as the specification has them. -/
def kdT (c : Nat) : Int := if c = 0 then 5 else if c = 14 then 2 else if c = 15 then 4 else if c ≤ 5 ∨ c = 9 then 1 else 3
def wdS (c : Nat) : ByteArray :=
  if c = 1 then { data := #[97, 108, 108] } else if c = 2 then { data := #[118] } else if c = 3 then { data := #[111, 117, 116] } else if c = 4 then { data := #[105, 110] } else if c = 5 then { data := #[104, 97, 115] } else if c = 9 then { data := #[103, 114, 97, 112, 104] }
  else if c = 6 then { data := #[38] } else if c = 7 then { data := #[124] } else if c = 8 then { data := #[45] } else if c = 10 then { data := #[46] } else if c = 11 then { data := #[40] } else if c = 12 then { data := #[41] } else if c = 13 then { data := #[44] } else { data := #[] }
def txT (t : Tok) : ByteArray := if t.c = 14 then strT t.q else wdS t.c
/-- The tokens lie in block g. -/
def RdK (w : World) (g m : Nat) (T : Nat → Tok) (A : Nat → Nat) : Prop :=
  ∀ i, i < m → w.cell? ⟨g, i * 3, none⟩ = some (.int .i64 (kdT (T i).c)) ∧ w.cell? ⟨g, i * 3 + 1, none⟩ = some (.string (txT (T i))) ∧ w.cell? ⟨g, i * 3 + 2, none⟩ = some (.int .i64 (A i : Int))
theorem RdK.below {w w' : World} {g m : Nat} {T : Nat → Tok} {A : Nat → Nat} (h : RdK w g m T A) (hb : Below w.heap.size w w') : RdK w' g m T A := fun i hi => by
  obtain ⟨h1, h2, h3⟩ := h i hi
  refine ⟨?_, ?_, ?_⟩
  · rw [hb.cell (p := ⟨g, i * 3, none⟩) (World.block_lt_of_cell? _ _ h1)]; exact h1
  · rw [hb.cell (p := ⟨g, i * 3 + 1, none⟩) (World.block_lt_of_cell? _ _ h2)]; exact h2
  · rw [hb.cell (p := ⟨g, i * 3 + 2, none⟩) (World.block_lt_of_cell? _ _ h3)]; exact h3
/-- The parser's state as a value. -/
def prV (g m c : Nat) (p : Pr) : Value := .agg #[.slice (some ⟨g, 0, none⟩) m c, .int .i64 (p.i : Int), .int .i64 (p.nd : Int), .int .i64 p.er, .int .i64 p.at_, .string (strT p.got)]

theorem l6Hex_any (b : Int) (w : World) (h0 : 0 ≤ b) (h1 : b < 256) : Calls Try.prog 134 #[.int .u8 b] w fun e w' => e = .returned (.int .i64 (hxV b)) ∧ w' = w := by
  by_cases h2 : 48 ≤ b
  · by_cases h3 : b ≤ 57
    · have HE : Hid (hxV b = b - 48) := by show _ = _; unfold hxV; rw [if_pos ⟨h2, h3⟩]
      have e1 : IntKind.u8.wrap (b - 48) = b - 48 := by simp [IntKind.wrap, IntKind.bits, IntKind.signed]; omega
      have e2 : IntKind.i64.wrap (b - 48) = b - 48 := by rw [IntKind.wrap_i64]; omega
      go_enter Try.func134, Try.ntmps134
      go_wp2
      go_ret
      exact ⟨by rw [HE.out]; rfl, rfl⟩
    · have d3 : decide (b ≤ 57) = false := decide_eq_false h3
      by_cases h4 : 97 ≤ b
      · by_cases h5 : b ≤ 102
        · have HE : Hid (hxV b = b - 87) := by show _ = _; unfold hxV; rw [if_neg (by omega), if_pos ⟨h4, h5⟩]
          have e1 : IntKind.u8.wrap (b - 97) = b - 97 := by simp [IntKind.wrap, IntKind.bits, IntKind.signed]; omega
          have e2 : IntKind.i64.wrap (b - 97) = b - 97 := by rw [IntKind.wrap_i64]; omega
          have e3 : IntKind.i64.wrap (b - 97 + 10) = b - 87 := by rw [IntKind.wrap_i64]; omega
          go_enter Try.func134, Try.ntmps134
          go_wp2
          go_ret
          exact ⟨by rw [HE.out]; rfl, rfl⟩
        · have HE : Hid (hxV b = -1) := by show _ = _; unfold hxV; rw [if_neg (by omega), if_neg (by omega)]
          have d5 : decide (b ≤ 102) = false := decide_eq_false h5
          go_enter Try.func134, Try.ntmps134
          go_wp2
          go_ret
          exact ⟨by rw [HE.out]; rfl, rfl⟩
      · have HE : Hid (hxV b = -1) := by show _ = _; unfold hxV; rw [if_neg (by omega), if_neg (by omega)]
        have d5 : decide (97 ≤ b) = false := decide_eq_false h4
        go_enter Try.func134, Try.ntmps134
        go_wp2
        go_ret
        exact ⟨by rw [HE.out]; rfl, rfl⟩
  · have HE : Hid (hxV b = -1) := by show _ = _; unfold hxV; rw [if_neg (by omega), if_neg (by omega)]
    have d2 : decide (48 ≤ b) = false := decide_eq_false h2
    have d4 : decide (97 ≤ b) = false := decide_eq_false (by omega)
    have n4 : ¬ 97 ≤ b := by omega
    go_enter Try.func134, Try.ntmps134
    go_wp2
    go_ret
    exact ⟨by rw [HE.out]; rfl, rfl⟩

theorem kdT_zero (c : Nat) (hc : c ≤ 15) : kdT c = 5 ↔ c = 0 := by
  unfold kdT
  constructor
  · intro h
    by_cases h0 : c = 0
    · exact h0
    · rw [if_neg h0] at h
      split at h
      · omega
      · split at h
        · omega
        · split at h <;> omega
  · intro h; rw [if_pos h]

set_option maxHeartbeats 1000000 in
theorem l6Fail_any {T : Nat → Tok} {A : Nat → Nat} (hT : ∀ i, (T i).c ≤ 15) (g m c : Nat) (p : Pr) (e : Int) (w : World) (hR : RdK w g m T A) (hi : p.i < m) (hm : m ≤ 3000) :
    Calls Try.prog 105 #[prV g m c p, .int .i64 e] w fun r w' => r = .returned (prV g m c (failP T A p e)) ∧ Below w.heap.size w w' := by
  obtain ⟨er, at_, i, nd, got⟩ := p
  obtain ⟨c1, c2, c3⟩ := hR i hi
  have hi' : i < m := hi
  have HK : Hid (kdT (T i).c = 5 ↔ (T i).c = 0) := kdT_zero (T i).c (hT i)
  have b1 := World.block_lt_of_cell? _ _ c1
  have HB : Hid (∀ o1 o2, Below w.heap.size w ((w.alloc o1).alloc o2)) := fun o1 o2 => (below_alloc _ _).alloc (by simp) _
  have ii : (i : Int) < (m : Int) := by omega
  have i0 : ¬ (i : Int) < 0 := by omega
  have i1 : (0 : Int) ≤ (i : Int) := by omega
  unfold prV
  obtain ⟨S, hS⟩ : ∃ S, strT got = S := ⟨_, rfl⟩
  have HS : Hid (strT got = S) := hS
  show Calls Try.prog 105 #[.agg #[.slice (some ⟨g, 0, none⟩) m c, .int .i64 (i : Int), .int .i64 (nd : Int), .int .i64 er, .int .i64 at_, .string (strT got)], .int .i64 e] w _
  rw [hS]
  clear hS
  by_cases h : er = 0
  · have HE : Hid (failP T A ⟨er, at_, i, nd, got⟩ e = ⟨if (T i).c = 0 then 2 else e, A i, i, nd, got⟩) := by
      show _ = _
      unfold failP
      rw [if_neg (by simp [h])]
    subst h
    generalize kdT (T i).c = K at *
    generalize txT (T i) = X at *
    by_cases h5 : K = 5
    · subst h5
      have H0 : Hid ((T i).c = 0) := HK.out.1 rfl
      clear HK
      go_enter Try.func105, Try.ntmps105
      go_wp2
      refine bodyPost_ret (v := .agg #[.slice (some ⟨g, 0, none⟩) m c, .int .i64 (i : Int), .int .i64 (nd : Int), .int .i64 2, .int .i64 (A i : Int), .string S]) (by simp [results, Try.results105, go_sem]) rfl ⟨?_, HB.out _ _⟩
      rw [HE.out, if_pos H0.out, ← HS.out]
    · have d5 : (K == 5) = false := by simp [h5]
      have H0 : Hid (¬ (T i).c = 0) := fun e => h5 (HK.out.2 e)
      clear HK
      go_enter Try.func105, Try.ntmps105
      go_wp2
      refine bodyPost_ret (v := .agg #[.slice (some ⟨g, 0, none⟩) m c, .int .i64 (i : Int), .int .i64 (nd : Int), .int .i64 e, .int .i64 (A i : Int), .string S]) (by simp [results, Try.results105, go_sem]) rfl ⟨?_, HB.out _ _⟩
      rw [HE.out, if_neg H0.out, ← HS.out]
  · have HE : Hid (failP T A ⟨er, at_, i, nd, got⟩ e = ⟨er, at_, i, nd, got⟩) := by
      show _ = _
      unfold failP
      rw [if_pos h]
    have d : (er == 0) = false := by simp [h]
    go_enter Try.func105, Try.ntmps105
    go_wp2
    refine bodyPost_ret (v := .agg #[.slice (some ⟨g, 0, none⟩) m c, .int .i64 (i : Int), .int .i64 (nd : Int), .int .i64 er, .int .i64 at_, .string S]) (by simp [results, Try.results105, go_sem]) rfl ⟨?_, HB.out _ _⟩
    rw [HE.out, ← HS.out]
end Go.Proofs.Ytocmbnocdjnfpaa
