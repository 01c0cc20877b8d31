import Derived.Test.YtpaomghibppgkaaGreatNv49
import Derived.Test.YtpaomghibppgkaaGreatNv29
import Derived.Deep.CutRange
import Derived.Deep.CutBlock
set_option linter.unusedVariables false
set_option maxRecDepth 100000
namespace Go.Proofs.YtpaomghibppgkaaGreat
open Go.RowKit Go.Deep
set_option linter.unusedSimpArgs false

set_option maxHeartbeats 4000000 in
theorem binds_3_0_false (s t l:ByteArray) (oa:Option Addr) (ol oc:Nat) (h:Int) (w:World):Calls Tryz.prog 78 #[.agg #[.int .i64 3,.string s,.string t,.bool false,.string l,.slice oa ol oc,.int .i64 h],.int .i64 0] w fun e w'=>e=.returned (qv (shpQ 3 0 false))/\Below w.heap.size w w':=by
 rw [show qv (shpQ 3 0 false)=.agg #[.int .i64 1,.int .i64 1,.int .i64 0,.int .i64 0] from rfl]
 obtain ⟨W9,hW9⟩:∃W9,W9=((w.alloc (.cells #[.int .i64 3,.string s,.string t,.bool false,.string l,.slice oa ol oc,.int .i64 h] 88)).alloc (.cells #[.int .i64 0,.int .i64 0,.int .i64 0,.int .i64 0] 122)).alloc (.cells #[.int .i64 0,.int .i64 1,.int .i64 0,.int .i64 0] 122):=⟨_,rfl⟩
 have S9:Hid (Bx W9 (w.heap.size+1) 122 #[.int .i64 0,.int .i64 0,.int .i64 0,.int .i64 0]/\Bx W9 (w.heap.size+2) 122 #[.int .i64 0,.int .i64 1,.int .i64 0,.int .i64 0]/\Below w.heap.size w W9):=by
  rw [hW9]
  have b2:=Bx.new (w.alloc (.cells #[.int .i64 3,.string s,.string t,.bool false,.string l,.slice oa ol oc,.int .i64 h] 88)) #[.int .i64 0,.int .i64 0,.int .i64 0,.int .i64 0] 122
  have b3:=Bx.new ((w.alloc (.cells #[.int .i64 3,.string s,.string t,.bool false,.string l,.slice oa ol oc,.int .i64 h] 88)).alloc (.cells #[.int .i64 0,.int .i64 0,.int .i64 0,.int .i64 0] 122)) #[.int .i64 0,.int .i64 1,.int .i64 0,.int .i64 0] 122
  simp only [World.size_alloc] at b2 b3
  exact ⟨b2.alloc _,b3,((below_alloc _ _).alloc (by simp) _).alloc (by simp;omega) _⟩
 go_enter Tryz.func78,Tryz.ntmps78
 go_wp2_with fail
 rw [<- hW9]
 clear hW9
 refine (ends_3 s t l false oa ol oc h (w.heap.size+2) W9).mono ?_
 rintro e w1 ⟨rfl,hb1⟩
 have p:=(hb1.block _ S9.out.1.lt).trans S9.out.1
 have q:=(hb1.block _ S9.out.2.1.lt).trans S9.out.2.1
 have p0:=Bx.cell p 0
 have p1:=Bx.cell p 1
 have p2:=Bx.cell p 2
 have p3:=Bx.cell p 3
 have q0:=Bx.cell q 0
 have q1:=Bx.cell q 1
 have q2:=Bx.cell q 2
 have q3:=Bx.cell q 3
 simp at p0 p1 p2 p3 q0 q1 q2 q3
 have pf:∀o,w1.frozen? ⟨w.heap.size+1,o,none⟩=false:=fun o=>by simp [World.frozen?,p]
 have qf:∀o,w1.frozen? ⟨w.heap.size+2,o,none⟩=false:=fun o=>by simp [World.frozen?,q]
 have HB:Hid (Below w.heap.size w w1):=S9.out.2.2.trans (hb1.mono S9.out.2.2.size)
 clear hb1 p q S9
 go_wp2
 refine bodyPost_ret (v:=.agg #[.int .i64 1,.int .i64 1,.int .i64 0,.int .i64 0]) (by simp [results,Tryz.results78,go_sem,p0,p1,p2,p3]) rfl ⟨rfl,?_⟩
 exact ((((HB.out.setCell (by simp) _).setCell (by simp) _).setCell (by simp) _).setCell (by simp) _).setCell (by simp) _
set_option maxHeartbeats 4000000 in
theorem binds_3_0_true (s t l:ByteArray) (oa:Option Addr) (ol oc:Nat) (h:Int) (w:World):Calls Tryz.prog 78 #[.agg #[.int .i64 3,.string s,.string t,.bool true,.string l,.slice oa ol oc,.int .i64 h],.int .i64 0] w fun e w'=>e=.returned (qv (shpQ 3 0 true))/\Below w.heap.size w w':=by
 rw [show qv (shpQ 3 0 true)=.agg #[.int .i64 1,.int .i64 1,.int .i64 0,.int .i64 1] from rfl]
 obtain ⟨W9,hW9⟩:∃W9,W9=((w.alloc (.cells #[.int .i64 3,.string s,.string t,.bool true,.string l,.slice oa ol oc,.int .i64 h] 88)).alloc (.cells #[.int .i64 0,.int .i64 0,.int .i64 0,.int .i64 0] 122)).alloc (.cells #[.int .i64 0,.int .i64 1,.int .i64 0,.int .i64 1] 122):=⟨_,rfl⟩
 have S9:Hid (Bx W9 (w.heap.size+1) 122 #[.int .i64 0,.int .i64 0,.int .i64 0,.int .i64 0]/\Bx W9 (w.heap.size+2) 122 #[.int .i64 0,.int .i64 1,.int .i64 0,.int .i64 1]/\Below w.heap.size w W9):=by
  rw [hW9]
  have b2:=Bx.new (w.alloc (.cells #[.int .i64 3,.string s,.string t,.bool true,.string l,.slice oa ol oc,.int .i64 h] 88)) #[.int .i64 0,.int .i64 0,.int .i64 0,.int .i64 0] 122
  have b3:=Bx.new ((w.alloc (.cells #[.int .i64 3,.string s,.string t,.bool true,.string l,.slice oa ol oc,.int .i64 h] 88)).alloc (.cells #[.int .i64 0,.int .i64 0,.int .i64 0,.int .i64 0] 122)) #[.int .i64 0,.int .i64 1,.int .i64 0,.int .i64 1] 122
  simp only [World.size_alloc] at b2 b3
  exact ⟨b2.alloc _,b3,((below_alloc _ _).alloc (by simp) _).alloc (by simp;omega) _⟩
 go_enter Tryz.func78,Tryz.ntmps78
 go_wp2_with fail
 rw [<- hW9]
 clear hW9
 refine (ends_3 s t l true oa ol oc h (w.heap.size+2) W9).mono ?_
 rintro e w1 ⟨rfl,hb1⟩
 have p:=(hb1.block _ S9.out.1.lt).trans S9.out.1
 have q:=(hb1.block _ S9.out.2.1.lt).trans S9.out.2.1
 have p0:=Bx.cell p 0
 have p1:=Bx.cell p 1
 have p2:=Bx.cell p 2
 have p3:=Bx.cell p 3
 have q0:=Bx.cell q 0
 have q1:=Bx.cell q 1
 have q2:=Bx.cell q 2
 have q3:=Bx.cell q 3
 simp at p0 p1 p2 p3 q0 q1 q2 q3
 have pf:∀o,w1.frozen? ⟨w.heap.size+1,o,none⟩=false:=fun o=>by simp [World.frozen?,p]
 have qf:∀o,w1.frozen? ⟨w.heap.size+2,o,none⟩=false:=fun o=>by simp [World.frozen?,q]
 have HB:Hid (Below w.heap.size w w1):=S9.out.2.2.trans (hb1.mono S9.out.2.2.size)
 clear hb1 p q S9
 go_wp2
 refine bodyPost_ret (v:=.agg #[.int .i64 1,.int .i64 1,.int .i64 0,.int .i64 1]) (by simp [results,Tryz.results78,go_sem,p0,p1,p2,p3]) rfl ⟨rfl,?_⟩
 exact ((((HB.out.setCell (by simp) _).setCell (by simp) _).setCell (by simp) _).setCell (by simp) _).setCell (by simp) _
set_option maxHeartbeats 4000000 in
theorem binds_4_0_false (s t l:ByteArray) (oa:Option Addr) (ol oc:Nat) (h:Int) (w:World):Calls Tryz.prog 78 #[.agg #[.int .i64 4,.string s,.string t,.bool false,.string l,.slice oa ol oc,.int .i64 h],.int .i64 0] w fun e w'=>e=.returned (qv (shpQ 4 0 false))/\Below w.heap.size w w':=by
 rw [show qv (shpQ 4 0 false)=.agg #[.int .i64 0,.int .i64 1,.int .i64 1,.int .i64 0] from rfl]
 obtain ⟨W9,hW9⟩:∃W9,W9=((w.alloc (.cells #[.int .i64 4,.string s,.string t,.bool false,.string l,.slice oa ol oc,.int .i64 h] 88)).alloc (.cells #[.int .i64 0,.int .i64 0,.int .i64 0,.int .i64 0] 122)).alloc (.cells #[.int .i64 0,.int .i64 1,.int .i64 0,.int .i64 0] 122):=⟨_,rfl⟩
 have S9:Hid (Bx W9 (w.heap.size+1) 122 #[.int .i64 0,.int .i64 0,.int .i64 0,.int .i64 0]/\Bx W9 (w.heap.size+2) 122 #[.int .i64 0,.int .i64 1,.int .i64 0,.int .i64 0]/\Below w.heap.size w W9):=by
  rw [hW9]
  have b2:=Bx.new (w.alloc (.cells #[.int .i64 4,.string s,.string t,.bool false,.string l,.slice oa ol oc,.int .i64 h] 88)) #[.int .i64 0,.int .i64 0,.int .i64 0,.int .i64 0] 122
  have b3:=Bx.new ((w.alloc (.cells #[.int .i64 4,.string s,.string t,.bool false,.string l,.slice oa ol oc,.int .i64 h] 88)).alloc (.cells #[.int .i64 0,.int .i64 0,.int .i64 0,.int .i64 0] 122)) #[.int .i64 0,.int .i64 1,.int .i64 0,.int .i64 0] 122
  simp only [World.size_alloc] at b2 b3
  exact ⟨b2.alloc _,b3,((below_alloc _ _).alloc (by simp) _).alloc (by simp;omega) _⟩
 go_enter Tryz.func78,Tryz.ntmps78
 go_wp2_with fail
 rw [<- hW9]
 clear hW9
 refine (ends_4 s t l false oa ol oc h (w.heap.size+2) W9).mono ?_
 rintro e w1 ⟨rfl,hb1⟩
 have p:=(hb1.block _ S9.out.1.lt).trans S9.out.1
 have q:=(hb1.block _ S9.out.2.1.lt).trans S9.out.2.1
 have p0:=Bx.cell p 0
 have p1:=Bx.cell p 1
 have p2:=Bx.cell p 2
 have p3:=Bx.cell p 3
 have q0:=Bx.cell q 0
 have q1:=Bx.cell q 1
 have q2:=Bx.cell q 2
 have q3:=Bx.cell q 3
 simp at p0 p1 p2 p3 q0 q1 q2 q3
 have pf:∀o,w1.frozen? ⟨w.heap.size+1,o,none⟩=false:=fun o=>by simp [World.frozen?,p]
 have qf:∀o,w1.frozen? ⟨w.heap.size+2,o,none⟩=false:=fun o=>by simp [World.frozen?,q]
 have HB:Hid (Below w.heap.size w w1):=S9.out.2.2.trans (hb1.mono S9.out.2.2.size)
 clear hb1 p q S9
 go_wp2
 refine bodyPost_ret (v:=.agg #[.int .i64 0,.int .i64 1,.int .i64 1,.int .i64 0]) (by simp [results,Tryz.results78,go_sem,p0,p1,p2,p3]) rfl ⟨rfl,?_⟩
 exact ((((HB.out.setCell (by simp) _).setCell (by simp) _).setCell (by simp) _).setCell (by simp) _).setCell (by simp) _
set_option maxHeartbeats 4000000 in
theorem binds_4_0_true (s t l:ByteArray) (oa:Option Addr) (ol oc:Nat) (h:Int) (w:World):Calls Tryz.prog 78 #[.agg #[.int .i64 4,.string s,.string t,.bool true,.string l,.slice oa ol oc,.int .i64 h],.int .i64 0] w fun e w'=>e=.returned (qv (shpQ 4 0 true))/\Below w.heap.size w w':=by
 rw [show qv (shpQ 4 0 true)=.agg #[.int .i64 0,.int .i64 1,.int .i64 1,.int .i64 1] from rfl]
 obtain ⟨W9,hW9⟩:∃W9,W9=((w.alloc (.cells #[.int .i64 4,.string s,.string t,.bool true,.string l,.slice oa ol oc,.int .i64 h] 88)).alloc (.cells #[.int .i64 0,.int .i64 0,.int .i64 0,.int .i64 0] 122)).alloc (.cells #[.int .i64 0,.int .i64 1,.int .i64 0,.int .i64 1] 122):=⟨_,rfl⟩
 have S9:Hid (Bx W9 (w.heap.size+1) 122 #[.int .i64 0,.int .i64 0,.int .i64 0,.int .i64 0]/\Bx W9 (w.heap.size+2) 122 #[.int .i64 0,.int .i64 1,.int .i64 0,.int .i64 1]/\Below w.heap.size w W9):=by
  rw [hW9]
  have b2:=Bx.new (w.alloc (.cells #[.int .i64 4,.string s,.string t,.bool true,.string l,.slice oa ol oc,.int .i64 h] 88)) #[.int .i64 0,.int .i64 0,.int .i64 0,.int .i64 0] 122
  have b3:=Bx.new ((w.alloc (.cells #[.int .i64 4,.string s,.string t,.bool true,.string l,.slice oa ol oc,.int .i64 h] 88)).alloc (.cells #[.int .i64 0,.int .i64 0,.int .i64 0,.int .i64 0] 122)) #[.int .i64 0,.int .i64 1,.int .i64 0,.int .i64 1] 122
  simp only [World.size_alloc] at b2 b3
  exact ⟨b2.alloc _,b3,((below_alloc _ _).alloc (by simp) _).alloc (by simp;omega) _⟩
 go_enter Tryz.func78,Tryz.ntmps78
 go_wp2_with fail
 rw [<- hW9]
 clear hW9
 refine (ends_4 s t l true oa ol oc h (w.heap.size+2) W9).mono ?_
 rintro e w1 ⟨rfl,hb1⟩
 have p:=(hb1.block _ S9.out.1.lt).trans S9.out.1
 have q:=(hb1.block _ S9.out.2.1.lt).trans S9.out.2.1
 have p0:=Bx.cell p 0
 have p1:=Bx.cell p 1
 have p2:=Bx.cell p 2
 have p3:=Bx.cell p 3
 have q0:=Bx.cell q 0
 have q1:=Bx.cell q 1
 have q2:=Bx.cell q 2
 have q3:=Bx.cell q 3
 simp at p0 p1 p2 p3 q0 q1 q2 q3
 have pf:∀o,w1.frozen? ⟨w.heap.size+1,o,none⟩=false:=fun o=>by simp [World.frozen?,p]
 have qf:∀o,w1.frozen? ⟨w.heap.size+2,o,none⟩=false:=fun o=>by simp [World.frozen?,q]
 have HB:Hid (Below w.heap.size w w1):=S9.out.2.2.trans (hb1.mono S9.out.2.2.size)
 clear hb1 p q S9
 go_wp2
 refine bodyPost_ret (v:=.agg #[.int .i64 0,.int .i64 1,.int .i64 1,.int .i64 1]) (by simp [results,Tryz.results78,go_sem,p0,p1,p2,p3]) rfl ⟨rfl,?_⟩
 exact ((((HB.out.setCell (by simp) _).setCell (by simp) _).setCell (by simp) _).setCell (by simp) _).setCell (by simp) _
set_option maxHeartbeats 4000000 in
theorem binds_5_0_false (s t l:ByteArray) (oa:Option Addr) (ol oc:Nat) (h:Int) (w:World):Calls Tryz.prog 78 #[.agg #[.int .i64 5,.string s,.string t,.bool false,.string l,.slice oa ol oc,.int .i64 h],.int .i64 0] w fun e w'=>e=.returned (qv (shpQ 5 0 false))/\Below w.heap.size w w':=by
 rw [show qv (shpQ 5 0 false)=.agg #[.int .i64 1,.int .i64 1,.int .i64 1,.int .i64 0] from rfl]
 obtain ⟨W9,hW9⟩:∃W9,W9=((w.alloc (.cells #[.int .i64 5,.string s,.string t,.bool false,.string l,.slice oa ol oc,.int .i64 h] 88)).alloc (.cells #[.int .i64 0,.int .i64 0,.int .i64 0,.int .i64 0] 122)).alloc (.cells #[.int .i64 0,.int .i64 1,.int .i64 1,.int .i64 0] 122):=⟨_,rfl⟩
 have S9:Hid (Bx W9 (w.heap.size+1) 122 #[.int .i64 0,.int .i64 0,.int .i64 0,.int .i64 0]/\Bx W9 (w.heap.size+2) 122 #[.int .i64 0,.int .i64 1,.int .i64 1,.int .i64 0]/\Below w.heap.size w W9):=by
  rw [hW9]
  have b2:=Bx.new (w.alloc (.cells #[.int .i64 5,.string s,.string t,.bool false,.string l,.slice oa ol oc,.int .i64 h] 88)) #[.int .i64 0,.int .i64 0,.int .i64 0,.int .i64 0] 122
  have b3:=Bx.new ((w.alloc (.cells #[.int .i64 5,.string s,.string t,.bool false,.string l,.slice oa ol oc,.int .i64 h] 88)).alloc (.cells #[.int .i64 0,.int .i64 0,.int .i64 0,.int .i64 0] 122)) #[.int .i64 0,.int .i64 1,.int .i64 1,.int .i64 0] 122
  simp only [World.size_alloc] at b2 b3
  exact ⟨b2.alloc _,b3,((below_alloc _ _).alloc (by simp) _).alloc (by simp;omega) _⟩
 go_enter Tryz.func78,Tryz.ntmps78
 go_wp2_with fail
 rw [<- hW9]
 clear hW9
 refine (ends_5 s t l false oa ol oc h (w.heap.size+2) W9).mono ?_
 rintro e w1 ⟨rfl,hb1⟩
 have p:=(hb1.block _ S9.out.1.lt).trans S9.out.1
 have q:=(hb1.block _ S9.out.2.1.lt).trans S9.out.2.1
 have p0:=Bx.cell p 0
 have p1:=Bx.cell p 1
 have p2:=Bx.cell p 2
 have p3:=Bx.cell p 3
 have q0:=Bx.cell q 0
 have q1:=Bx.cell q 1
 have q2:=Bx.cell q 2
 have q3:=Bx.cell q 3
 simp at p0 p1 p2 p3 q0 q1 q2 q3
 have pf:∀o,w1.frozen? ⟨w.heap.size+1,o,none⟩=false:=fun o=>by simp [World.frozen?,p]
 have qf:∀o,w1.frozen? ⟨w.heap.size+2,o,none⟩=false:=fun o=>by simp [World.frozen?,q]
 have HB:Hid (Below w.heap.size w w1):=S9.out.2.2.trans (hb1.mono S9.out.2.2.size)
 clear hb1 p q S9
 go_wp2
 refine bodyPost_ret (v:=.agg #[.int .i64 1,.int .i64 1,.int .i64 1,.int .i64 0]) (by simp [results,Tryz.results78,go_sem,p0,p1,p2,p3]) rfl ⟨rfl,?_⟩
 exact ((((HB.out.setCell (by simp) _).setCell (by simp) _).setCell (by simp) _).setCell (by simp) _).setCell (by simp) _
set_option maxHeartbeats 4000000 in
theorem binds_5_0_true (s t l:ByteArray) (oa:Option Addr) (ol oc:Nat) (h:Int) (w:World):Calls Tryz.prog 78 #[.agg #[.int .i64 5,.string s,.string t,.bool true,.string l,.slice oa ol oc,.int .i64 h],.int .i64 0] w fun e w'=>e=.returned (qv (shpQ 5 0 true))/\Below w.heap.size w w':=by
 rw [show qv (shpQ 5 0 true)=.agg #[.int .i64 1,.int .i64 1,.int .i64 1,.int .i64 1] from rfl]
 obtain ⟨W9,hW9⟩:∃W9,W9=((w.alloc (.cells #[.int .i64 5,.string s,.string t,.bool true,.string l,.slice oa ol oc,.int .i64 h] 88)).alloc (.cells #[.int .i64 0,.int .i64 0,.int .i64 0,.int .i64 0] 122)).alloc (.cells #[.int .i64 0,.int .i64 1,.int .i64 1,.int .i64 1] 122):=⟨_,rfl⟩
 have S9:Hid (Bx W9 (w.heap.size+1) 122 #[.int .i64 0,.int .i64 0,.int .i64 0,.int .i64 0]/\Bx W9 (w.heap.size+2) 122 #[.int .i64 0,.int .i64 1,.int .i64 1,.int .i64 1]/\Below w.heap.size w W9):=by
  rw [hW9]
  have b2:=Bx.new (w.alloc (.cells #[.int .i64 5,.string s,.string t,.bool true,.string l,.slice oa ol oc,.int .i64 h] 88)) #[.int .i64 0,.int .i64 0,.int .i64 0,.int .i64 0] 122
  have b3:=Bx.new ((w.alloc (.cells #[.int .i64 5,.string s,.string t,.bool true,.string l,.slice oa ol oc,.int .i64 h] 88)).alloc (.cells #[.int .i64 0,.int .i64 0,.int .i64 0,.int .i64 0] 122)) #[.int .i64 0,.int .i64 1,.int .i64 1,.int .i64 1] 122
  simp only [World.size_alloc] at b2 b3
  exact ⟨b2.alloc _,b3,((below_alloc _ _).alloc (by simp) _).alloc (by simp;omega) _⟩
 go_enter Tryz.func78,Tryz.ntmps78
 go_wp2_with fail
 rw [<- hW9]
 clear hW9
 refine (ends_5 s t l true oa ol oc h (w.heap.size+2) W9).mono ?_
 rintro e w1 ⟨rfl,hb1⟩
 have p:=(hb1.block _ S9.out.1.lt).trans S9.out.1
 have q:=(hb1.block _ S9.out.2.1.lt).trans S9.out.2.1
 have p0:=Bx.cell p 0
 have p1:=Bx.cell p 1
 have p2:=Bx.cell p 2
 have p3:=Bx.cell p 3
 have q0:=Bx.cell q 0
 have q1:=Bx.cell q 1
 have q2:=Bx.cell q 2
 have q3:=Bx.cell q 3
 simp at p0 p1 p2 p3 q0 q1 q2 q3
 have pf:∀o,w1.frozen? ⟨w.heap.size+1,o,none⟩=false:=fun o=>by simp [World.frozen?,p]
 have qf:∀o,w1.frozen? ⟨w.heap.size+2,o,none⟩=false:=fun o=>by simp [World.frozen?,q]
 have HB:Hid (Below w.heap.size w w1):=S9.out.2.2.trans (hb1.mono S9.out.2.2.size)
 clear hb1 p q S9
 go_wp2
 refine bodyPost_ret (v:=.agg #[.int .i64 1,.int .i64 1,.int .i64 1,.int .i64 1]) (by simp [results,Tryz.results78,go_sem,p0,p1,p2,p3]) rfl ⟨rfl,?_⟩
 exact ((((HB.out.setCell (by simp) _).setCell (by simp) _).setCell (by simp) _).setCell (by simp) _).setCell (by simp) _
set_option linter.unusedSimpArgs false

theorem new_cellsI (w:World) (cs:List Value) (t:TypeId):∀j u,cs[j]?=some u->(w.alloc (.cells cs.toArray t)).cell? (Addr.add ⟨w.heap.size,0,none⟩ j)=some u:=by
 intro j u h
 have e:(Addr.add ⟨w.heap.size,0,none⟩ j)=⟨w.heap.size,j,none⟩:=by
  unfold Addr.add
  by_cases h:j=0
  ·subst h;simp
  ·simp [h]
 rw [e]
 have hh:(w.alloc (.cells cs.toArray t)).heap[w.heap.size]?=some (.cells cs.toArray t):=Array.getElem?_push_size
 unfold World.cell?
 rw [hh]
 show cs.toArray[j]?=some u
 rw [List.getElem?_toArray]
 exact h
def picksI (Y:Nat->Nat) (F:Nat->Nat) (q:Nat):List Value:=(List.range q).map (fun j=>Value.int .i64 (Y (F j):Int))
theorem picksI_succ (Y:Nat->Nat) (F:Nat->Nat) (q:Nat):picksI Y F (q+1)=picksI Y F q++[.int .i64 (Y (F q):Int)]:=by unfold picksI;rw [List.range_succ,List.map_append];rfl
set_option maxHeartbeats 1000000 in
theorem pickI_any (gt n ct:Nat) (Y:Nat->Nat) (aa:Option Addr) (q ca:Nat) (F:Nat->Nat) (w:World) (h1:∀i,i<n->w.cell? ⟨gt,i,none⟩=some (.int .i64 (Y i:Int))) (h2:Rd .i64 w aa q (fun j=>(F j:Int))) (hF:∀j,j<q->F j<n) (hq:q<=1000) (hn:n<=1000) :
  Calls Tryz.prog 35 #[.slice (some ⟨gt,0,none⟩) n ct,.slice aa q ca] w fun e w'=>∃v,e=.returned v/\w'.ownsRow w.heap.size 2 1 v q (picksI Y F q)/\Below w.heap.size w w':=by
 have HR:Hid ((∀i,i<n->w.cell? ⟨gt,i,none⟩=some (.int .i64 (Y i:Int)))/\Rd .i64 w aa q (fun j=>(F j:Int))/\∀j,j<q->F j<n):=⟨h1,h2,hF⟩
 clear h1 h2 hF
 obtain ⟨i0,hi,hz0,hz1,hz2⟩:=info_parts infoI8
 have HI:Hid (Tryz.prog.info? 2=some i0/\i0.zero=some (.int .i64 0)/\i0.size=1/\i0.bytes=8):=⟨hi,hz0,hz1,hz2⟩
 clear hi hz0 hz1 hz2
 go_enter Tryz.func35,Tryz.ntmps35
 go_wp2
 go_loopw [5,7,10] (fun u _ i wr=>∃k:Nat,k<=q/\i=.int .i64 k/\wr.ownsRow w.heap.size 2 1 u k (picksI Y F k)/\Below w.heap.size w wr) (fun _ _ i _=>q-(intOf i).toNat)
 case atStart=>exact ⟨0,Nat.zero_le _,rfl,⟨rfl,.inl ⟨rfl,rfl⟩⟩,Below.refl _ _⟩
 case round=>
  obtain ⟨k,hk,rfl,hown,hbr⟩:=hrel
  have HO:Hid (wr.ownsRow w.heap.size 2 1 u5 k (picksI Y F k)/\Below w.heap.size w wr):=⟨hown,hbr⟩
  have hsz:=hbr.size
  clear hown hbr
  by_cases hlt:k<q
  ·rcases HR.out.2.1 with h0|⟨ba,oa,ea,hca⟩
   ·omega
   subst ea
   have c1:wr.cell? ⟨ba,oa+k,none⟩=some (.int .i64 (F k:Int)):=(HO.out.2.cell (World.block_lt_of_cell? _ _ (hca k hlt))).trans (hca k hlt)
   have hFk:=HR.out.2.2 k hlt
   have c2:wr.cell? ⟨gt,F k,none⟩=some (.int .i64 (Y (F k):Int)):=(HO.out.2.cell (World.block_lt_of_cell? _ _ (HR.out.1 _ hFk))).trans (HR.out.1 _ hFk)
   obtain ⟨fk,hfk⟩:∃fk,fk=F k:=⟨_,rfl⟩
   rw [<- hfk] at c1 c2 hFk
   have HF2:Hid (fk=F k):=hfk
   clear hca hfk
   have k0:(0:Int)<=(k:Int):=by omega
   have k1:(k:Int)<(q:Int):=by omega
   have f0:(0:Int)<=(fk:Int):=by omega
   have f1:(fk:Int)<(n:Int):=by omega
   go_wp2_with (at_builtin;refine wpList_append_own _ rfl _ _ 34 rfl w.heap.size 2 i0 (.int .i64 0) 1 8 (by kernel_rfl) HI.out.1 HI.out.2.1 HI.out.2.2.1 HI.out.2.2.2 rfl (by decide) u5 k (picksI Y F k) rfl (HO.out.1.alloc _) ⟨wr.heap.size,0,none⟩ 1 1 [.int .i64 (Y fk:Int)] rfl rfl (new_cellsI _ [.int .i64 (Y fk:Int)] _) (fun u hu=>by simp at hu;subst hu;rfl) (by unfold maxLen;omega) (by omega) (by simp;omega) ?_)
   intro v' w1 ho hg _
   have HX:Hid (w1.ownsRow w.heap.size 2 1 v' (k+1) (picksI Y F (k+1))/\Below w.heap.size w w1):=by
    rw [picksI_succ,<- HF2.out]
    exact ⟨ho,(HO.out.2.alloc hsz _).grown hg (by simp;omega) (fun b e=>(HO.out.1.lt b e).1)⟩
   clear ho hg HO c1 c2
   go_wp2
   go_roundw
   case rel=>exact ⟨k+1,by omega,by go_num,HX.out⟩
   case measure=>simp [intOf];omega
  ·have e:k=q:=by omega
   subst e
   have l1:¬ (k:Int)<(k:Int):=by omega
   go_wp2
   go_ret
   exact ⟨_,rfl,HO.out⟩
theorem ctx_all {I:Nat->Int} {N:Nat} {P:Nat->Prop} (hP:∀i,i<N->P i->∀j,j<arOf (I i)->P (opf (arI I) i j)) :
  ∀(f base m:Nat),m+1<=f->base+m<N->Begins (fun i=>arOf (I (base+i))) (m+1) 0->P (base+m)->∀t,t<=m->P (base+t)
 | 0,base,m,hf,_,_,_,_,_=>absurd hf (by omega)
 | f+1,base,m,hf,hN,hb,h,t,ht=>by
  by_cases e:t=m
  ·rw [e];exact h
  rcases ops_at hb with ⟨e,hm⟩|⟨e,h0,e0,g0⟩|⟨e,s,h0,h1,e0,e1,g0,g1⟩
  ·omega
  ·have hc:=hP (base+m) hN h 0 (by omega)
   rw [e0] at hc
   exact ctx_all hP f base (m-1) (by omega) (by omega) g0 hc t (by omega)
  ·have hc:=hP (base+m) hN h 0 (by omega)
   have hc1:=hP (base+m) hN h 1 (by omega)
   rw [e0] at hc
   rw [e1] at hc1
   by_cases q:t<s
   ·exact ctx_all hP f base (s-1) (by omega) (by omega) g0 hc t (by omega)
   ·have:=ctx_all hP f (base+s) (m-s-1) (by omega) (by omega) g1 hc1 (t-s) (by omega)
    rw [show base+s+(t-s)=base+t by omega] at this
    exact this
def wayN (k:Int) (ow a0 a1:Nat):Nat:=if k=3\/k=4\/k=5 then (if a0<ow then 0 else 1) else if k=6 then (if a0<=a1 then 0 else 1) else 0
def scN (fs:Qd->Nat) (k:Int) (b:Bool) (wy:Nat):Nat:=if k=1 then fs (shpQ 1 0 b) else if k=3\/k=4\/k=5 then 6*wy+fs (shpQ k (wy:Int) b) else wy
theorem chN_sc (fs:Qd->Nat) (k:Int) (b:Bool) (ow a0 a1:Nat):scN fs k b (wayN k ow a0 a1)=chN fs k b ow a0 a1:=by
 unfold scN chN wayN
 by_cases h1:k=1
 ·rw [if_pos h1,if_pos h1]
 rw [if_neg h1,if_neg h1]
 by_cases h3:k=3\/k=4\/k=5
 ·rw [if_pos h3,if_pos h3,if_pos h3]
  by_cases h:a0<ow
  ·rw [if_pos h,if_pos h];simp
  ·rw [if_neg h,if_neg h];simp
 rw [if_neg h3,if_neg h3,if_neg h3]
 by_cases h6:k=6
 ·rw [if_pos h6,if_pos h6]
  by_cases h:a0<=a1
  ·rw [if_pos h,if_neg (by omega)]
  ·rw [if_neg h,if_pos (by omega)]
 ·rw [if_neg h6,if_neg h6]
theorem wayN_le (k:Int) (ow a0 a1:Nat):wayN k ow a0 a1<=1:=by
 unfold wayN
 repeat' split
 all_goals omega
set_option linter.unusedSimpArgs false

theorem numQ_shp (k:Int) (wy:Int) (b:Bool):numQ (shpQ k wy b):=by
 unfold numQ shpQ
 refine ⟨?_,?_,?_,?_⟩ <;> (dsimp only;split <;> omega)
theorem binds_any (k:Int) (wy:Nat) (hk:(k=1/\wy=0)\/((k=3\/k=4\/k=5)/\(wy=0\/wy=1))) (b:Bool) (s t l:ByteArray) (oa:Option Addr) (ol oc:Nat) (h:Int) (w:World):Calls Tryz.prog 78 #[.agg #[.int .i64 k,.string s,.string t,.bool b,.string l,.slice oa ol oc,.int .i64 h],.int .i64 (wy:Int)] w fun e w'=>e=.returned (qv (shpQ k (wy:Int) b))/\Below w.heap.size w w':=by
 rcases hk with ⟨rfl,rfl⟩|⟨rfl|rfl|rfl,rfl|rfl⟩ <;> cases b
 ·exact binds_v 1 0 false (by decide) s t l oa ol oc h w
 ·exact binds_v 1 0 true (by decide) s t l oa ol oc h w
 ·exact binds_3_0_false s t l oa ol oc h w
 ·exact binds_3_0_true s t l oa ol oc h w
 ·exact binds_v 3 1 false (by decide) s t l oa ol oc h w
 ·exact binds_v 3 1 true (by decide) s t l oa ol oc h w
 ·exact binds_4_0_false s t l oa ol oc h w
 ·exact binds_4_0_true s t l oa ol oc h w
 ·exact binds_v 4 1 false (by decide) s t l oa ol oc h w
 ·exact binds_v 4 1 true (by decide) s t l oa ol oc h w
 ·exact binds_5_0_false s t l oa ol oc h w
 ·exact binds_5_0_true s t l oa ol oc h w
 ·exact binds_v 5 1 false (by decide) s t l oa ol oc h w
 ·exact binds_v 5 1 true (by decide) s t l oa ol oc h w
set_option maxHeartbeats 2000000 in
theorem choice_s (k:Int) (wy:Nat) (hk:(k=1/\wy=0)\/((k=3\/k=4\/k=5)/\(wy=0\/wy=1))) (b:Bool) (s t l:ByteArray) (oa:Option Addr) (ol oc:Nat) (h:Int) (w:World):Calls Tryz.prog 36 #[.agg #[.int .i64 k,.string s,.string t,.bool b,.string l,.slice oa ol oc,.int .i64 h],.int .i64 (wy:Int)] w fun e w'=>e=.returned (.int .i64 (scN fsQ k b wy:Int))/\Below w.heap.size w w':=by
 obtain ⟨qq,hqq⟩:∃qq,qq=shpQ k (wy:Int) b:=⟨_,rfl⟩
 have HB:Hid (∀W,Calls Tryz.prog 78 #[.agg #[.int .i64 k,.string s,.string t,.bool b,.string l,.slice oa ol oc,.int .i64 h],.int .i64 (wy:Int)] W fun e w'=>e=.returned (.agg #[.int .i64 qq.s,.int .i64 qq.p,.int .i64 qq.o,.int .i64 qq.g])/\Below W.heap.size W w'):=fun W=>by rw [hqq];exact binds_any k wy hk b s t l oa ol oc h W
 obtain ⟨ff,hfe⟩:∃ff,ff=fsQ qq:=⟨_,rfl⟩
 have HS:Hid (∀W,Calls Tryz.prog 77 #[.agg #[.int .i64 qq.s,.int .i64 qq.p,.int .i64 qq.o,.int .i64 qq.g]] W fun e w'=>e=.returned (.int .i64 (ff:Int))/\Below W.heap.size W w'):=fun W=>by rw [hfe];exact smallestOrder_any _ (by rw [hqq];exact numQ_shp _ _ _) W
 have hff:ff<6:=by rw [hfe];exact fsQ_lt _
 have HR:Hid ((k=1->(scN fsQ k b wy:Int)=ff)/\(¬ k=1->(scN fsQ k b wy:Int)=6*(wy:Int)+(ff:Int))):=by
  rw [hfe,hqq]
  refine ⟨fun h1=>?_,fun h1=>?_⟩
  ·have h0:wy=0:=by omega
   subst h1 h0
   simp [scN]
  ·unfold scN
   rw [if_neg h1,if_pos (by omega)]
   simp
 have hm:IntKind.i64.wrap (6*(wy:Int))=6*(wy:Int):=by rw [IntKind.wrap_i64];omega
 have hm2:IntKind.i64.wrap (6*(wy:Int)+(ff:Int))=6*(wy:Int)+(ff:Int):=by rw [IntKind.wrap_i64];omega
 clear hfe hqq
 have H0:Hid (∀O,Below w.heap.size w (w.alloc O)):=fun O=>below_alloc _ _
 have hk4:k=1\/k=3\/k=4\/k=5:=by omega
 clear hk
 rcases hk4 with hk|hk|hk|hk
 all_goals
  (first|have c1:(k == 1)=true:=by rw [hk];rfl|have c1:(k == 1)=false:=by rw [hk];rfl)
  (first|have c3:(k == 3)=true:=by rw [hk];rfl|have c3:(k == 3)=false:=by rw [hk];rfl)
  (first|have c4:(k == 4)=true:=by rw [hk];rfl|have c4:(k == 4)=false:=by rw [hk];rfl)
  (first|have c5:(k == 5)=true:=by rw [hk];rfl|have c5:(k == 5)=false:=by rw [hk];rfl)
  (first|have HK:Hid ((scN fsQ k b wy:Int)=ff):=HR.out.1 hk|have HK:Hid ((scN fsQ k b wy:Int)=6*(wy:Int)+(ff:Int)):=HR.out.2 (by rw [hk];decide))
  clear hk
  go_enter Tryz.func36,Tryz.ntmps36
  go_wp2_with fail
  (with_reducible refine (HB.out _).mono ?_)
  rintro e w1 ⟨rfl,hb1⟩
  have H1:Hid (Below w.heap.size w w1):=(H0.out _).trans (hb1.mono (H0.out _).size)
  clear hb1
  go_wp2_with fail
  (with_reducible refine (HS.out w1).mono ?_)
  rintro e w2 ⟨rfl,hb2⟩
  have H2:Hid (Below w.heap.size w w2):=H1.out.trans (hb2.mono H1.out.size)
  clear hb2
  go_wp2
  go_ret
  exact ⟨by rw [HK.out];rfl,H2.out⟩
theorem choice_2 (b:Bool) (wy:Int) (s t l:ByteArray) (oa:Option Addr) (ol oc:Nat) (h:Int) (w:World):Calls Tryz.prog 36 #[.agg #[.int .i64 2,.string s,.string t,.bool b,.string l,.slice oa ol oc,.int .i64 h],.int .i64 wy] w fun e w'=>e=.returned (.int .i64 wy)/\Below w.heap.size w w':=by
 have H0:Hid (∀O,Below w.heap.size w (w.alloc O)):=fun O=>below_alloc _ _
 go_enter Tryz.func36,Tryz.ntmps36
 go_wp2
 go_ret
 exact ⟨rfl,H0.out _⟩
theorem choice_6 (b:Bool) (wy:Int) (s t l:ByteArray) (oa:Option Addr) (ol oc:Nat) (h:Int) (w:World):Calls Tryz.prog 36 #[.agg #[.int .i64 6,.string s,.string t,.bool b,.string l,.slice oa ol oc,.int .i64 h],.int .i64 wy] w fun e w'=>e=.returned (.int .i64 wy)/\Below w.heap.size w w':=by
 have H0:Hid (∀O,Below w.heap.size w (w.alloc O)):=fun O=>below_alloc _ _
 go_enter Tryz.func36,Tryz.ntmps36
 go_wp2
 go_ret
 exact ⟨rfl,H0.out _⟩
theorem choice_7 (b:Bool) (wy:Int) (s t l:ByteArray) (oa:Option Addr) (ol oc:Nat) (h:Int) (w:World):Calls Tryz.prog 36 #[.agg #[.int .i64 7,.string s,.string t,.bool b,.string l,.slice oa ol oc,.int .i64 h],.int .i64 wy] w fun e w'=>e=.returned (.int .i64 wy)/\Below w.heap.size w w':=by
 have H0:Hid (∀O,Below w.heap.size w (w.alloc O)):=fun O=>below_alloc _ _
 go_enter Tryz.func36,Tryz.ntmps36
 go_wp2
 go_ret
 exact ⟨rfl,H0.out _⟩
theorem choice_8 (b:Bool) (wy:Int) (s t l:ByteArray) (oa:Option Addr) (ol oc:Nat) (h:Int) (w:World):Calls Tryz.prog 36 #[.agg #[.int .i64 8,.string s,.string t,.bool b,.string l,.slice oa ol oc,.int .i64 h],.int .i64 wy] w fun e w'=>e=.returned (.int .i64 wy)/\Below w.heap.size w w':=by
 have H0:Hid (∀O,Below w.heap.size w (w.alloc O)):=fun O=>below_alloc _ _
 go_enter Tryz.func36,Tryz.ntmps36
 go_wp2
 go_ret
 exact ⟨rfl,H0.out _⟩
theorem choice_9 (b:Bool) (wy:Int) (s t l:ByteArray) (oa:Option Addr) (ol oc:Nat) (h:Int) (w:World):Calls Tryz.prog 36 #[.agg #[.int .i64 9,.string s,.string t,.bool b,.string l,.slice oa ol oc,.int .i64 h],.int .i64 wy] w fun e w'=>e=.returned (.int .i64 wy)/\Below w.heap.size w w':=by
 have H0:Hid (∀O,Below w.heap.size w (w.alloc O)):=fun O=>below_alloc _ _
 go_enter Tryz.func36,Tryz.ntmps36
 go_wp2
 go_ret
 exact ⟨rfl,H0.out _⟩
theorem smallestChoice_any (k:Int) (hk:1<=k/\k<=9) (wy:Nat) (hw:wy<=1) (h1:k=1->wy=0) (b:Bool) (s t l:ByteArray) (oa:Option Addr) (ol oc:Nat) (h:Int) (w:World):Calls Tryz.prog 36 #[.agg #[.int .i64 k,.string s,.string t,.bool b,.string l,.slice oa ol oc,.int .i64 h],.int .i64 (wy:Int)] w fun e w'=>e=.returned (.int .i64 (scN fsQ k b wy:Int))/\Below w.heap.size w w':=by
 have h9:k=1\/k=2\/k=3\/k=4\/k=5\/k=6\/k=7\/k=8\/k=9:=by omega
 have hwy:wy=0\/wy=1:=by omega
 rcases h9 with rfl|rfl|rfl|rfl|rfl|rfl|rfl|rfl|rfl
 ·exact choice_s 1 wy (.inl ⟨rfl,h1 rfl⟩) b s t l oa ol oc h w
 ·exact choice_2 b wy s t l oa ol oc h w
 ·exact choice_s 3 wy (.inr ⟨.inl rfl,hwy⟩) b s t l oa ol oc h w
 ·exact choice_s 4 wy (.inr ⟨.inr (.inl rfl),hwy⟩) b s t l oa ol oc h w
 ·exact choice_s 5 wy (.inr ⟨.inr (.inr rfl),hwy⟩) b s t l oa ol oc h w
 ·exact choice_6 b wy s t l oa ol oc h w
 ·exact choice_7 b wy s t l oa ol oc h w
 ·exact choice_8 b wy s t l oa ol oc h w
 ·exact choice_9 b wy s t l oa ol oc h w
end Go.Proofs.YtpaomghibppgkaaGreat
