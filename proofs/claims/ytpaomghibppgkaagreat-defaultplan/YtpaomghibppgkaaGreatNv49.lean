import Derived.Test.YtpaomghibppgkaaGreatNv48
set_option linter.unusedVariables false
set_option maxRecDepth 100000
namespace Go.Proofs.YtpaomghibppgkaaGreat
open Go.RowKit Go.Deep
set_option linter.unusedSimpArgs false

set_option maxHeartbeats 4000000 in
theorem binds_v (k way:Int) (b:Bool) (hk:(k=1/\way=0)\/((k=3\/k=4\/k=5)/\way=1)) (s t l:ByteArray) (oa:Option Addr) (ol oc:Nat) (h:Int) (w:World):Calls Tryz.prog 78 #[.agg #[.int .i64 k,.string s,.string t,.bool b,.string l,.slice oa ol oc,.int .i64 h],.int .i64 way] w fun e w'=>e=.returned (qv (shpQ k way b))/\Below w.heap.size w w':=by
 have HB:Hid (∀O1 O2 O3,Below w.heap.size w (((w.alloc O1).alloc O2).alloc O3)):=fun _ _ _=>((below_alloc _ _).alloc (by simp) _).alloc (by simp;omega) _
 rcases hk with ⟨rfl,rfl⟩|⟨rfl|rfl|rfl,rfl⟩ <;> cases b
 all_goals
  go_enter Tryz.func78,Tryz.ntmps78
  go_wp2
  refine bodyPost_ret (v:=.agg #[.int .i64 _,.int .i64 _,.int .i64 _,.int .i64 _]) (by simp [results,Tryz.results78,go_sem] <;> exact ⟨rfl,rfl,rfl,rfl⟩) rfl ⟨rfl,?_⟩
  first
   | exact HB.out _ _ _
   | exact (HB.out _ _ _).setCell (by simp) _
   | (refine Below.setCell ?_ (by simp) _;refine Below.setCell ?_ (by simp) _;refine Below.setCell ?_ (by simp) _;refine Below.setCell ?_ (by simp) _;exact HB.out _ _ _)
set_option linter.unusedSimpArgs false

set_option maxHeartbeats 4000000 in
theorem ends_3 (s t l:ByteArray) (bd:Bool) (oa:Option Addr) (ol oc:Nat) (h:Int) (b:Nat) (w:World):Calls Tryz.prog 110 #[.agg #[.int .i64 3,.string s,.string t,.bool bd,.string l,.slice oa ol oc,.int .i64 h],.pointer (some ⟨b,0,none⟩)] w fun e w'=>e=.returned (.tuple #[.pointer (some ⟨b,0,none⟩),.pointer (some ⟨b,2,none⟩)])/\Below w.heap.size w w':=by
 have HB:Hid (∀O,Below w.heap.size w (w.alloc O)):=fun _=>below_alloc _ _
 go_enter Tryz.func110,Tryz.ntmps110
 go_wp2
 go_region
 all_goals
  go_wp2
  refine bodyPost_ret (v:=.tuple #[.pointer (some ⟨b,0,none⟩),.pointer (some ⟨b,2,none⟩)]) (by simp [results,Tryz.results110,go_sem]) rfl ⟨rfl,?_⟩
  first
   | exact HB.out _
   | exact (HB.out _).drew
set_option maxHeartbeats 4000000 in
theorem ends_4 (s t l:ByteArray) (bd:Bool) (oa:Option Addr) (ol oc:Nat) (h:Int) (b:Nat) (w:World):Calls Tryz.prog 110 #[.agg #[.int .i64 4,.string s,.string t,.bool bd,.string l,.slice oa ol oc,.int .i64 h],.pointer (some ⟨b,0,none⟩)] w fun e w'=>e=.returned (.tuple #[.pointer (some ⟨b,2,none⟩),.pointer (some ⟨b,0,none⟩)])/\Below w.heap.size w w':=by
 have HB:Hid (∀O,Below w.heap.size w (w.alloc O)):=fun _=>below_alloc _ _
 go_enter Tryz.func110,Tryz.ntmps110
 go_wp2
 go_region
 all_goals
  go_wp2
  refine bodyPost_ret (v:=.tuple #[.pointer (some ⟨b,2,none⟩),.pointer (some ⟨b,0,none⟩)]) (by simp [results,Tryz.results110,go_sem]) rfl ⟨rfl,?_⟩
  first
   | exact HB.out _
   | exact (HB.out _).drew
set_option maxHeartbeats 4000000 in
theorem ends_5 (s t l:ByteArray) (bd:Bool) (oa:Option Addr) (ol oc:Nat) (h:Int) (b:Nat) (w:World):Calls Tryz.prog 110 #[.agg #[.int .i64 5,.string s,.string t,.bool bd,.string l,.slice oa ol oc,.int .i64 h],.pointer (some ⟨b,0,none⟩)] w fun e w'=>e=.returned (.tuple #[.pointer (some ⟨b,0,none⟩),.pointer (some ⟨b,0,none⟩)])/\Below w.heap.size w w':=by
 have HB:Hid (∀O,Below w.heap.size w (w.alloc O)):=fun _=>below_alloc _ _
 go_enter Tryz.func110,Tryz.ntmps110
 go_wp2
 go_region
 all_goals
  go_wp2
  refine bodyPost_ret (v:=.tuple #[.pointer (some ⟨b,0,none⟩),.pointer (some ⟨b,0,none⟩)]) (by simp [results,Tryz.results110,go_sem]) rfl ⟨rfl,?_⟩
  first
   | exact HB.out _
   | exact (HB.out _).drew
end Go.Proofs.YtpaomghibppgkaaGreat
