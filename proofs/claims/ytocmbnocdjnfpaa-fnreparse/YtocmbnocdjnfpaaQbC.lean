import Derived.Test.YtocmbnocdjnfpaaQbB
namespace Go.Proofs.Ytocmbnocdjnfpaa
open Go.RowKit Go.Deep
set_option linter.unusedVariables false
set_option linter.unusedSimpArgs false
set_option maxRecDepth 100000

def ixT (c : Nat) : Nat := if 6 ≤ c ∧ c ≤ 8 then c else 0

set_option maxHeartbeats 1000000 in
theorem l6Infix_v (K a : Int) (X : ByteArray) (w : World) :
    Calls Try.prog 107 #[.agg #[.int .i64 K, .string X, .int .i64 a]] w fun r w' => r = .returned (.int .i64 (if K = 3 then (if (X.toList == [38]) = true then 6 else if (X.toList == [124]) = true then 7 else if (X.toList == [45]) = true then 8 else 0) else 0)) ∧ Below w.heap.size w w' := by
  have HB : Hid (∀ o1, Below w.heap.size w (w.alloc o1)) := fun o1 => below_alloc _ _
  by_cases h5 : K = 3
  · subst h5
    cases h6 : (X.toList == [38]) with
    | true =>
      go_enter Try.func107, Try.ntmps107
      go_wp2
      go_ret
      exact ⟨by simp, HB.out _⟩
    | false =>
      cases h7 : (X.toList == [124]) with
      | true =>
        go_enter Try.func107, Try.ntmps107
        go_wp2
        go_ret
        exact ⟨by simp, HB.out _⟩
      | false =>
        cases h8 : (X.toList == [45]) with
        | true =>
          go_enter Try.func107, Try.ntmps107
          go_wp2
          go_ret
          exact ⟨by simp, HB.out _⟩
        | false =>
          go_enter Try.func107, Try.ntmps107
          go_wp2
          go_ret
          exact ⟨by simp, HB.out _⟩
  · have d5 : (K == 3) = false := by simp [h5]
    go_enter Try.func107, Try.ntmps107
    go_wp2
    go_ret
    exact ⟨by simp [h5], HB.out _⟩

theorem l6Infix_any (t : Tok) (h : t.c ≤ 15) (a : Int) (w : World) :
    Calls Try.prog 107 #[.agg #[.int .i64 (kdT t.c), .string (txT t), .int .i64 a]] w fun r w' => r = .returned (.int .i64 (ixT t.c : Int)) ∧ Below w.heap.size w w' := by
  refine (l6Infix_v _ a _ w).mono ?_
  rintro e w' ⟨rfl, hb⟩
  refine ⟨?_, hb⟩
  congr 2
  have t6 := tok_iff t h 6 (by omega) (by omega)
  have t7 := tok_iff t h 7 (by omega) (by omega)
  have t8 := tok_iff t h 8 (by omega) (by omega)
  have k6 : kdT 6 = 3 := rfl
  have k7 : kdT 7 = 3 := rfl
  have k8 : kdT 8 = 3 := rfl
  rw [k6] at t6
  rw [k7] at t7
  rw [k8] at t8
  have w6 : (wdS 6).toList = [38] := by rw [ByteArray.toList_eq]; rfl
  have w7 : (wdS 7).toList = [124] := by rw [ByteArray.toList_eq]; rfl
  have w8 : (wdS 8).toList = [45] := by rw [ByteArray.toList_eq]; rfl
  rw [w6] at t6
  rw [w7] at t7
  rw [w8] at t8
  unfold ixT
  by_cases h3 : kdT t.c = 3
  · rw [if_pos h3]
    by_cases a6 : t.c = 6
    · rw [if_pos (t6.2 a6).2, a6]; rfl
    · rw [if_neg (fun e => a6 (t6.1 ⟨h3, e⟩))]
      by_cases a7 : t.c = 7
      · rw [if_pos (t7.2 a7).2, a7]; rfl
      · rw [if_neg (fun e => a7 (t7.1 ⟨h3, e⟩))]
        by_cases a8 : t.c = 8
        · rw [if_pos (t8.2 a8).2, a8]; rfl
        · rw [if_neg (fun e => a8 (t8.1 ⟨h3, e⟩)), if_neg (by omega)]; rfl
  · rw [if_neg h3]
    have n6 : t.c ≠ 6 := fun e => h3 (t6.2 e).1
    have n7 : t.c ≠ 7 := fun e => h3 (t7.2 e).1
    have n8 : t.c ≠ 8 := fun e => h3 (t8.2 e).1
    rw [if_neg (by omega)]; rfl

theorem l6Stg_any (k : Nat) (w : World) (hk : k ≤ 15) : Calls Try.prog 109 #[.int .i64 (k : Int)] w fun r w' => r = .returned (.int .i64 (stg k : Int)) ∧ w' = w := by
  by_cases h6 : k = 6
  · subst h6
    go_enter Try.func109, Try.ntmps109
    go_wp2
    go_ret
    exact ⟨rfl, rfl⟩
  · have i6 : ¬ (k : Int) = 6 := by omega
    have d6 : ((k : Int) == 6) = false := by simp [i6]
    by_cases h7 : k = 7
    · subst h7
      go_enter Try.func109, Try.ntmps109
      go_wp2
      go_ret
      exact ⟨rfl, rfl⟩
    · have i7 : ¬ (k : Int) = 7 := by omega
      have d7 : ((k : Int) == 7) = false := by simp [i7]
      by_cases h8 : k = 8
      · subst h8
        go_enter Try.func109, Try.ntmps109
        go_wp2
        go_ret
        exact ⟨rfl, rfl⟩
      · have i8 : ¬ (k : Int) = 8 := by omega
        have d8 : ((k : Int) == 8) = false := by simp [i8]
        have HE : Hid (stg k = 0) := by show _ = _; unfold stg; rw [if_neg h6, if_neg (by omega)]
        go_enter Try.func109, Try.ntmps109
        go_wp2
        go_ret
        exact ⟨by rw [HE.out]; rfl, rfl⟩

/-- A row of nodes to which can be appended. -/
def ndC (x : Nd) : List Value := [.int .i64 (x.k : Int), .string (strT x.s), .string (strT x.t)]
def ndR (l : List Nd) : List Value := l.flatMap ndC
theorem ndC_length (x : Nd) : (ndC x).length = 3 := rfl
theorem ndR_length (l : List Nd) : (ndR l).length = l.length * 3 := by
  unfold ndR
  induction l with
  | nil => rfl
  | cons a l ih => rw [List.flatMap_cons, List.length_append, ih, ndC_length, List.length_cons]; omega
theorem ndR_app (a b : List Nd) : ndR (a ++ b) = ndR a ++ ndR b := List.flatMap_append
theorem ndR_one (l : List Nd) : ∀ u ∈ ndR l, u.oneCell' = true := by
  intro u hu
  unfold ndR at hu
  obtain ⟨x, _, hx⟩ := List.mem_flatMap.1 hu
  simp [ndC] at hx
  rcases hx with rfl | rfl | rfl <;> rfl
theorem infoPN : (Try.prog.info? 61).map (fun i => (i.zero, i.size, i.bytes)) = some (some (.agg #[.int .i64 0, .string { data := #[] }, .string { data := #[] }]), 3, 40) := by kernel_rfl
theorem infoEN : (Try.prog.info? 149).map (fun i => (i.zero, i.size, i.bytes)) = some (some (.agg #[.int .i64 0, .string { data := #[] }]), 2, 24) := by kernel_rfl
theorem infoTK : (Try.prog.info? 144).map (fun i => (i.zero, i.size, i.bytes)) = some (some (.agg #[.int .i64 0, .string { data := #[] }, .int .i64 0]), 3, 32) := by kernel_rfl
end Go.Proofs.Ytocmbnocdjnfpaa
