import Derived.Test.YtcnollkkigiobaaGreatNa30
import Derived.Test.YtcnollkkigiobaaGreatNa1
set_option linter.unusedVariables false
set_option maxRecDepth 100000
namespace Go.Proofs.YtcnollkkigiobaaGreat
open Go.RowKit Go.Deep


set_option maxHeartbeats 1000000 in
theorem lay_1 (g:Nat) (w:World) :
    Calls Tryz.prog 101 #[.pointer (some ⟨g,0,none⟩)] w fun e w' => e = .returned (.agg #[.pointer (some ⟨g,0,none⟩),.pointer (some ⟨g,1,none⟩),.pointer (some ⟨g,2,none⟩),.pointer (some ⟨g,3,none⟩)]) /\ Below w.heap.size w w' := by
  go_enter Tryz.func101,Tryz.ntmps101
  go_wp2
  go_region_held3 (fun _ => True) (go_keep) (fail)
  go_wp2
  refine bodyPost_ret (v := .agg #[.pointer (some ⟨g,0,none⟩),.pointer (some ⟨g,1,none⟩),.pointer (some ⟨g,2,none⟩),.pointer (some ⟨g,3,none⟩)]) (by simp [results,Tryz.results101,go_sem]) rfl ⟨rfl,(below_alloc _ _).drew⟩


set_option maxHeartbeats 1000000 in
theorem lay_2 (g:Nat) (w:World) :
    Calls Tryz.prog 102 #[.pointer (some ⟨g,0,none⟩)] w fun e w' => e = .returned (.agg #[.pointer (some ⟨g,1,none⟩),.pointer (some ⟨g,2,none⟩),.pointer (some ⟨g,0,none⟩),.pointer (some ⟨g,3,none⟩)]) /\ Below w.heap.size w w' := by
  go_enter Tryz.func102,Tryz.ntmps102
  go_wp2
  go_region_held3 (fun _ => True) (go_keep) (fail)
  go_wp2
  refine bodyPost_ret (v := .agg #[.pointer (some ⟨g,1,none⟩),.pointer (some ⟨g,2,none⟩),.pointer (some ⟨g,0,none⟩),.pointer (some ⟨g,3,none⟩)]) (by simp [results,Tryz.results102,go_sem]) rfl ⟨rfl,(below_alloc _ _).drew⟩


set_option maxHeartbeats 1000000 in
theorem lay_3 (g:Nat) (w:World) :
    Calls Tryz.prog 103 #[.pointer (some ⟨g,0,none⟩)] w fun e w' => e = .returned (.agg #[.pointer (some ⟨g,2,none⟩),.pointer (some ⟨g,0,none⟩),.pointer (some ⟨g,1,none⟩),.pointer (some ⟨g,3,none⟩)]) /\ Below w.heap.size w w' := by
  go_enter Tryz.func103,Tryz.ntmps103
  go_wp2
  go_region_held3 (fun _ => True) (go_keep) (fail)
  go_wp2
  refine bodyPost_ret (v := .agg #[.pointer (some ⟨g,2,none⟩),.pointer (some ⟨g,0,none⟩),.pointer (some ⟨g,1,none⟩),.pointer (some ⟨g,3,none⟩)]) (by simp [results,Tryz.results103,go_sem]) rfl ⟨rfl,(below_alloc _ _).drew⟩


set_option maxHeartbeats 1000000 in
theorem lay_4 (g:Nat) (w:World) :
    Calls Tryz.prog 104 #[.pointer (some ⟨g,0,none⟩)] w fun e w' => e = .returned (.agg #[.pointer (some ⟨g,3,none⟩),.pointer (some ⟨g,0,none⟩),.pointer (some ⟨g,1,none⟩),.pointer (some ⟨g,2,none⟩)]) /\ Below w.heap.size w w' := by
  go_enter Tryz.func104,Tryz.ntmps104
  go_wp2
  go_region_held3 (fun _ => True) (go_keep) (fail)
  go_wp2
  refine bodyPost_ret (v := .agg #[.pointer (some ⟨g,3,none⟩),.pointer (some ⟨g,0,none⟩),.pointer (some ⟨g,1,none⟩),.pointer (some ⟨g,2,none⟩)]) (by simp [results,Tryz.results104,go_sem]) rfl ⟨rfl,(below_alloc _ _).drew⟩


set_option maxHeartbeats 1000000 in
theorem lay_5 (g:Nat) (w:World) :
    Calls Tryz.prog 105 #[.pointer (some ⟨g,0,none⟩)] w fun e w' => e = .returned (.agg #[.pointer (some ⟨g,3,none⟩),.pointer (some ⟨g,1,none⟩),.pointer (some ⟨g,2,none⟩),.pointer (some ⟨g,0,none⟩)]) /\ Below w.heap.size w w' := by
  go_enter Tryz.func105,Tryz.ntmps105
  go_wp2
  go_region_held3 (fun _ => True) (go_keep) (fail)
  go_wp2
  refine bodyPost_ret (v := .agg #[.pointer (some ⟨g,3,none⟩),.pointer (some ⟨g,1,none⟩),.pointer (some ⟨g,2,none⟩),.pointer (some ⟨g,0,none⟩)]) (by simp [results,Tryz.results105,go_sem]) rfl ⟨rfl,(below_alloc _ _).drew⟩


set_option maxHeartbeats 1000000 in
theorem lay_6 (g:Nat) (w:World) :
    Calls Tryz.prog 106 #[.pointer (some ⟨g,0,none⟩)] w fun e w' => e = .returned (.agg #[.pointer (some ⟨g,3,none⟩),.pointer (some ⟨g,2,none⟩),.pointer (some ⟨g,0,none⟩),.pointer (some ⟨g,1,none⟩)]) /\ Below w.heap.size w w' := by
  go_enter Tryz.func106,Tryz.ntmps106
  go_wp2
  go_region_held3 (fun _ => True) (go_keep) (fail)
  go_wp2
  refine bodyPost_ret (v := .agg #[.pointer (some ⟨g,3,none⟩),.pointer (some ⟨g,2,none⟩),.pointer (some ⟨g,0,none⟩),.pointer (some ⟨g,1,none⟩)]) (by simp [results,Tryz.results106,go_sem]) rfl ⟨rfl,(below_alloc _ _).drew⟩

open Go.RowKit Go.Deep

theorem cellOf {w:World} {b:Nat} {A:Array Value} {t:TypeId} (h:w.heap[b]? = some (.cells A t)) (o:Nat):w.cell? ⟨b,o,none⟩ = A[o]? := by simp [World.cell?,h]
theorem bA {w w' : World} {o:Obj} (h:Below w.heap.size w w'):Below w.heap.size w (w'.alloc o) := h.alloc h.size o
theorem bS {w w' : World} {b o:Nat} {v:Value} (hb:w.heap.size <= b) (h:Below w.heap.size w w'):Below w.heap.size w (w'.setCell ⟨b,o,none⟩ v) := h.setCell hb v
end Go.Proofs.YtcnollkkigiobaaGreat
