import Derived.Test.YtpaomghibppgkaaGreatNv37
import Derived.Deep.CutRange
import Derived.Deep.CutBlock
set_option linter.unusedVariables false
set_option maxRecDepth 100000
namespace Go.Proofs.YtpaomghibppgkaaGreat
open Go.RowKit Go.Deep
set_option linter.unusedSimpArgs false

set_option maxHeartbeats 1000000 in
theorem shape_1_0_false (w:World):Calls Tryz.prog 59 #[.int .i64 1,.int .i64 0,.bool false] w fun e w'=>e=.returned (.agg #[.int .i64 0,.int .i64 0,.int .i64 0,.int .i64 0])/\Below w.heap.size w w':=by
 go_enter Tryz.func59,Tryz.ntmps59
 go_wp2
 refine bodyPost_ret (v:=.agg #[.int .i64 0,.int .i64 0,.int .i64 0,.int .i64 0]) (by simp [results,Tryz.results59,go_sem]) rfl ⟨rfl,?_⟩
 repeat (first|exact Below.refl _ _|refine bA ?_|refine bS (by simp <;> omega) ?_)
set_option maxHeartbeats 1000000 in
theorem shape_1_0_true (w:World):Calls Tryz.prog 59 #[.int .i64 1,.int .i64 0,.bool true] w fun e w'=>e=.returned (.agg #[.int .i64 0,.int .i64 0,.int .i64 0,.int .i64 1])/\Below w.heap.size w w':=by
 go_enter Tryz.func59,Tryz.ntmps59
 go_wp2
 refine bodyPost_ret (v:=.agg #[.int .i64 0,.int .i64 0,.int .i64 0,.int .i64 1]) (by simp [results,Tryz.results59,go_sem]) rfl ⟨rfl,?_⟩
 repeat (first|exact Below.refl _ _|refine bA ?_|refine bS (by simp <;> omega) ?_)
set_option maxHeartbeats 1000000 in
theorem shape_1_1_false (w:World):Calls Tryz.prog 59 #[.int .i64 1,.int .i64 1,.bool false] w fun e w'=>e=.returned (.agg #[.int .i64 0,.int .i64 0,.int .i64 0,.int .i64 0])/\Below w.heap.size w w':=by
 go_enter Tryz.func59,Tryz.ntmps59
 go_wp2
 refine bodyPost_ret (v:=.agg #[.int .i64 0,.int .i64 0,.int .i64 0,.int .i64 0]) (by simp [results,Tryz.results59,go_sem]) rfl ⟨rfl,?_⟩
 repeat (first|exact Below.refl _ _|refine bA ?_|refine bS (by simp <;> omega) ?_)
set_option maxHeartbeats 1000000 in
theorem shape_1_1_true (w:World):Calls Tryz.prog 59 #[.int .i64 1,.int .i64 1,.bool true] w fun e w'=>e=.returned (.agg #[.int .i64 0,.int .i64 0,.int .i64 0,.int .i64 1])/\Below w.heap.size w w':=by
 go_enter Tryz.func59,Tryz.ntmps59
 go_wp2
 refine bodyPost_ret (v:=.agg #[.int .i64 0,.int .i64 0,.int .i64 0,.int .i64 1]) (by simp [results,Tryz.results59,go_sem]) rfl ⟨rfl,?_⟩
 repeat (first|exact Below.refl _ _|refine bA ?_|refine bS (by simp <;> omega) ?_)
set_option maxHeartbeats 1000000 in
theorem shape_3_0_false (w:World):Calls Tryz.prog 59 #[.int .i64 3,.int .i64 0,.bool false] w fun e w'=>e=.returned (.agg #[.int .i64 1,.int .i64 1,.int .i64 0,.int .i64 0])/\Below w.heap.size w w':=by
 go_enter Tryz.func59,Tryz.ntmps59
 go_wp2
 refine bodyPost_ret (v:=.agg #[.int .i64 1,.int .i64 1,.int .i64 0,.int .i64 0]) (by simp [results,Tryz.results59,go_sem]) rfl ⟨rfl,?_⟩
 repeat (first|exact Below.refl _ _|refine bA ?_|refine bS (by simp <;> omega) ?_)
set_option maxHeartbeats 1000000 in
theorem shape_3_0_true (w:World):Calls Tryz.prog 59 #[.int .i64 3,.int .i64 0,.bool true] w fun e w'=>e=.returned (.agg #[.int .i64 1,.int .i64 1,.int .i64 0,.int .i64 1])/\Below w.heap.size w w':=by
 go_enter Tryz.func59,Tryz.ntmps59
 go_wp2
 refine bodyPost_ret (v:=.agg #[.int .i64 1,.int .i64 1,.int .i64 0,.int .i64 1]) (by simp [results,Tryz.results59,go_sem]) rfl ⟨rfl,?_⟩
 repeat (first|exact Below.refl _ _|refine bA ?_|refine bS (by simp <;> omega) ?_)
set_option maxHeartbeats 1000000 in
theorem shape_3_1_false (w:World):Calls Tryz.prog 59 #[.int .i64 3,.int .i64 1,.bool false] w fun e w'=>e=.returned (.agg #[.int .i64 0,.int .i64 1,.int .i64 0,.int .i64 0])/\Below w.heap.size w w':=by
 go_enter Tryz.func59,Tryz.ntmps59
 go_wp2
 refine bodyPost_ret (v:=.agg #[.int .i64 0,.int .i64 1,.int .i64 0,.int .i64 0]) (by simp [results,Tryz.results59,go_sem]) rfl ⟨rfl,?_⟩
 repeat (first|exact Below.refl _ _|refine bA ?_|refine bS (by simp <;> omega) ?_)
set_option maxHeartbeats 1000000 in
theorem shape_3_1_true (w:World):Calls Tryz.prog 59 #[.int .i64 3,.int .i64 1,.bool true] w fun e w'=>e=.returned (.agg #[.int .i64 0,.int .i64 1,.int .i64 0,.int .i64 1])/\Below w.heap.size w w':=by
 go_enter Tryz.func59,Tryz.ntmps59
 go_wp2
 refine bodyPost_ret (v:=.agg #[.int .i64 0,.int .i64 1,.int .i64 0,.int .i64 1]) (by simp [results,Tryz.results59,go_sem]) rfl ⟨rfl,?_⟩
 repeat (first|exact Below.refl _ _|refine bA ?_|refine bS (by simp <;> omega) ?_)
set_option maxHeartbeats 1000000 in
theorem shape_4_0_false (w:World):Calls Tryz.prog 59 #[.int .i64 4,.int .i64 0,.bool false] w fun e w'=>e=.returned (.agg #[.int .i64 0,.int .i64 1,.int .i64 1,.int .i64 0])/\Below w.heap.size w w':=by
 go_enter Tryz.func59,Tryz.ntmps59
 go_wp2
 refine bodyPost_ret (v:=.agg #[.int .i64 0,.int .i64 1,.int .i64 1,.int .i64 0]) (by simp [results,Tryz.results59,go_sem]) rfl ⟨rfl,?_⟩
 repeat (first|exact Below.refl _ _|refine bA ?_|refine bS (by simp <;> omega) ?_)
set_option maxHeartbeats 1000000 in
theorem shape_4_0_true (w:World):Calls Tryz.prog 59 #[.int .i64 4,.int .i64 0,.bool true] w fun e w'=>e=.returned (.agg #[.int .i64 0,.int .i64 1,.int .i64 1,.int .i64 1])/\Below w.heap.size w w':=by
 go_enter Tryz.func59,Tryz.ntmps59
 go_wp2
 refine bodyPost_ret (v:=.agg #[.int .i64 0,.int .i64 1,.int .i64 1,.int .i64 1]) (by simp [results,Tryz.results59,go_sem]) rfl ⟨rfl,?_⟩
 repeat (first|exact Below.refl _ _|refine bA ?_|refine bS (by simp <;> omega) ?_)
set_option maxHeartbeats 1000000 in
theorem shape_4_1_false (w:World):Calls Tryz.prog 59 #[.int .i64 4,.int .i64 1,.bool false] w fun e w'=>e=.returned (.agg #[.int .i64 0,.int .i64 1,.int .i64 0,.int .i64 0])/\Below w.heap.size w w':=by
 go_enter Tryz.func59,Tryz.ntmps59
 go_wp2
 refine bodyPost_ret (v:=.agg #[.int .i64 0,.int .i64 1,.int .i64 0,.int .i64 0]) (by simp [results,Tryz.results59,go_sem]) rfl ⟨rfl,?_⟩
 repeat (first|exact Below.refl _ _|refine bA ?_|refine bS (by simp <;> omega) ?_)
set_option maxHeartbeats 1000000 in
theorem shape_4_1_true (w:World):Calls Tryz.prog 59 #[.int .i64 4,.int .i64 1,.bool true] w fun e w'=>e=.returned (.agg #[.int .i64 0,.int .i64 1,.int .i64 0,.int .i64 1])/\Below w.heap.size w w':=by
 go_enter Tryz.func59,Tryz.ntmps59
 go_wp2
 refine bodyPost_ret (v:=.agg #[.int .i64 0,.int .i64 1,.int .i64 0,.int .i64 1]) (by simp [results,Tryz.results59,go_sem]) rfl ⟨rfl,?_⟩
 repeat (first|exact Below.refl _ _|refine bA ?_|refine bS (by simp <;> omega) ?_)
set_option maxHeartbeats 1000000 in
theorem shape_5_0_false (w:World):Calls Tryz.prog 59 #[.int .i64 5,.int .i64 0,.bool false] w fun e w'=>e=.returned (.agg #[.int .i64 1,.int .i64 1,.int .i64 1,.int .i64 0])/\Below w.heap.size w w':=by
 go_enter Tryz.func59,Tryz.ntmps59
 go_wp2
 refine bodyPost_ret (v:=.agg #[.int .i64 1,.int .i64 1,.int .i64 1,.int .i64 0]) (by simp [results,Tryz.results59,go_sem]) rfl ⟨rfl,?_⟩
 repeat (first|exact Below.refl _ _|refine bA ?_|refine bS (by simp <;> omega) ?_)
set_option maxHeartbeats 1000000 in
theorem shape_5_0_true (w:World):Calls Tryz.prog 59 #[.int .i64 5,.int .i64 0,.bool true] w fun e w'=>e=.returned (.agg #[.int .i64 1,.int .i64 1,.int .i64 1,.int .i64 1])/\Below w.heap.size w w':=by
 go_enter Tryz.func59,Tryz.ntmps59
 go_wp2
 refine bodyPost_ret (v:=.agg #[.int .i64 1,.int .i64 1,.int .i64 1,.int .i64 1]) (by simp [results,Tryz.results59,go_sem]) rfl ⟨rfl,?_⟩
 repeat (first|exact Below.refl _ _|refine bA ?_|refine bS (by simp <;> omega) ?_)
set_option maxHeartbeats 1000000 in
theorem shape_5_1_false (w:World):Calls Tryz.prog 59 #[.int .i64 5,.int .i64 1,.bool false] w fun e w'=>e=.returned (.agg #[.int .i64 0,.int .i64 1,.int .i64 1,.int .i64 0])/\Below w.heap.size w w':=by
 go_enter Tryz.func59,Tryz.ntmps59
 go_wp2
 refine bodyPost_ret (v:=.agg #[.int .i64 0,.int .i64 1,.int .i64 1,.int .i64 0]) (by simp [results,Tryz.results59,go_sem]) rfl ⟨rfl,?_⟩
 repeat (first|exact Below.refl _ _|refine bA ?_|refine bS (by simp <;> omega) ?_)
set_option maxHeartbeats 1000000 in
theorem shape_5_1_true (w:World):Calls Tryz.prog 59 #[.int .i64 5,.int .i64 1,.bool true] w fun e w'=>e=.returned (.agg #[.int .i64 0,.int .i64 1,.int .i64 1,.int .i64 1])/\Below w.heap.size w w':=by
 go_enter Tryz.func59,Tryz.ntmps59
 go_wp2
 refine bodyPost_ret (v:=.agg #[.int .i64 0,.int .i64 1,.int .i64 1,.int .i64 1]) (by simp [results,Tryz.results59,go_sem]) rfl ⟨rfl,?_⟩
 repeat (first|exact Below.refl _ _|refine bA ?_|refine bS (by simp <;> omega) ?_)
theorem l6Shape_any (k way:Int) (b:Bool) (w:World) (hk:k=1\/k=3\/k=4\/k=5) (hw:way=0\/way=1) :
  Calls Tryz.prog 59 #[.int .i64 k,.int .i64 way,.bool b] w fun e w'=>e=.returned (qv (shpQ k way b))/\Below w.heap.size w w':=by
 rcases hk with rfl|rfl|rfl|rfl <;> rcases hw with rfl|rfl <;> cases b
 ·exact shape_1_0_false w
 ·exact shape_1_0_true w
 ·exact shape_1_1_false w
 ·exact shape_1_1_true w
 ·exact shape_3_0_false w
 ·exact shape_3_0_true w
 ·exact shape_3_1_false w
 ·exact shape_3_1_true w
 ·exact shape_4_0_false w
 ·exact shape_4_0_true w
 ·exact shape_4_1_false w
 ·exact shape_4_1_true w
 ·exact shape_5_0_false w
 ·exact shape_5_0_true w
 ·exact shape_5_1_false w
 ·exact shape_5_1_true w
end Go.Proofs.YtpaomghibppgkaaGreat
