import Derived.Test.YtcnollkkigiobaaTkJ
namespace Go.Proofs.Ytcnollkkigiobaa
open Go.RowKit Go.Deep
set_option linter.unusedVariables false
set_option maxRecDepth 100000

/-- What TreeRank answers. -/
def RetRk (w : World) (n : Nat) (N : Nat → Tn) (key : ByteArray) (e : Ending) (w' : World) : Prop :=
  ∃ r : Nat, e = .returned (.int .i64 (r : Int)) ∧ Below w.heap.size w w' ∧ ((∃ t, VTt n N t ∧ r = cntL key (keysR 21 t)) ∨ (¬ VT n N ∧ r = 0))

theorem vtt_fn {n : Nat} {N : Nat → Tn} {t t' : Ro 21} (h : VTt n N t) (h' : VTt n N t') : t = t' := by
  have q := h.2.2.1
  rw [h'.2.2.1] at q
  injection q with q
  injection q with q _
  exact q.symm

set_option maxHeartbeats 1000000 in
theorem keys_zero (w : World) : Calls Try.prog 15 #[.agg #[.bool false, .slice none 0 0, .slice none 0 0]] w fun e w' => ∃ a c, e = .returned (.slice a 0 c) ∧ Below w.heap.size w w' := by
  go_enter Try.func15, Try.ntmps15
  go_wp2
  go_loopw [3, 4] (fun q i wr => i = .int .i64 0 ∧ q = .slice (some ⟨w.heap.size + 1, 0, none⟩) 0 0 ∧ wr = ((w.alloc (.cells #[.bool false, .slice none 0 0, .slice none 0 0] 43)).alloc (.cells #[] 9))) (fun _ i _ => 1 - (intOf i).toNat)
  case atStart => exact ⟨rfl, by simp, rfl⟩
  case round =>
    obtain ⟨rfl, rfl, rfl⟩ := hrel
    go_wp2
    go_ret
    exact ⟨_, _, rfl, (below_alloc _ _).alloc (by simp) _⟩

theorem cntL_take {key : ByteArray} {L : List ByteArray} {k : Nat} (h : k < L.length) : cntL key (L.take (k + 1)) = cntL key (L.take k) + (if Op.bytesLess (gt L k).toList key.toList = true then 1 else 0) := by
  rw [chain_take h, cntL_app]
  congr 1
  unfold cntL
  rw [List.filter_cons, List.filter_nil]
  cases Op.bytesLess (gt L k).toList key.toList <;> rfl

end Go.Proofs.Ytcnollkkigiobaa
