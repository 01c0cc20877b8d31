import Derived.Test.YtpaomghibppgkaaGreatNv4
import Derived.Laws.Cover1
import Derived.Maps.AppendAt
import Derived.Test.YtpaomghibppgkaaGreatNv6
import Derived.Test.YtpaomghibppgkaaGreatNv7
set_option linter.unusedVariables false
set_option maxRecDepth 100000
namespace Go.Proofs.YtpaomghibppgkaaGreat
open Go.RowKit Go.Deep

def txS (x:ByteArray):Bool:=decide (1<=x.size) && decide (x.size<=30)
def emS (x:ByteArray):Bool:=x.toList.isEmpty
theorem emS_yes {x:ByteArray} (h:emS x=true):x.toList=[]:=by unfold emS at h;simpa using h
theorem emS_no {x:ByteArray} (h:emS x=false):¬ x.toList=[]:=by unfold emS at h;simpa using h

set_option maxHeartbeats 400000 in
theorem l6Text_any (x:ByteArray) (w:World):Calls Tryz.prog 85 #[.string x] w fun e w'=>e=.returned (.bool (txS x))/\w'=w:=by
 by_cases h1:1<=x.size
 ·have i1:(1:Int)<=(x.size:Int):=by omega
  have i1' : decide ((1:Int)<=(x.size:Int))=true:=decide_eq_true i1
  have HE:Hid (txS x=decide (x.size<=30)):=by show _=_;unfold txS;rw [decide_eq_true h1];rfl
  by_cases h2:x.size<=30
  ·have i2:(x.size:Int)<=30:=by omega
   have i2' : decide ((x.size:Int)<=30)=true:=decide_eq_true i2
   go_enter Tryz.func85,Tryz.ntmps85
   go_wp2
   go_ret
   exact ⟨by rw [HE.out,decide_eq_true h2];rfl,rfl⟩
  ·have i2:¬ (x.size:Int)<=30:=by omega
   have i2' : decide ((x.size:Int)<=30)=false:=decide_eq_false i2
   go_enter Tryz.func85,Tryz.ntmps85
   go_wp2
   go_ret
   exact ⟨by rw [HE.out,decide_eq_false h2];rfl,rfl⟩
 ·have i1:¬ (1:Int)<=(x.size:Int):=by omega
  have i1' : decide ((1:Int)<=(x.size:Int))=false:=decide_eq_false i1
  have HE:Hid (txS x=false):=by show _=_;unfold txS;rw [decide_eq_false h1];rfl
  go_enter Tryz.func85,Tryz.ntmps85
  go_wp2
  go_ret
  exact ⟨by rw [HE.out];rfl,rfl⟩

def gnB (k:Int) (s t:ByteArray):Bool:=
 if k=1\/k=6\/k=7\/k=8 then emS s && emS t else if k=2\/k=3\/k=4\/k=9 then txS s && emS t else if k=5 then txS s && txS t else false

set_option maxHeartbeats 1000000 in
theorem good_1 (s t:ByteArray) (w:World):Calls Tryz.prog 46 #[.agg #[.int .i64 1,.string s,.string t]] w fun e w'=>e=.returned (.bool (emS s && emS t))/\Below w.heap.size w w':=by
 cases h1:emS s with
 | false=>
  have H1:Hid (emS s=false):=h1
  have e1:s.toList.isEmpty=false:=h1
  have e1p:=emS_no h1
  clear h1
  go_enter Tryz.func46,Tryz.ntmps46
  go_wp2
  go_ret
  exact ⟨by first|rfl|simp,below_alloc _ _⟩
 | true=>
  have H1:Hid (emS s=true):=h1
  have e1:s.toList.isEmpty=true:=h1
  have e1p:=emS_yes h1
  clear h1
  cases h2:emS t with
  | false=>
   have H2:Hid (emS t=false):=h2
   have e2:t.toList.isEmpty=false:=h2
   have e2p:=emS_no h2
   clear h2
   go_enter Tryz.func46,Tryz.ntmps46
   go_wp2
   go_ret
   exact ⟨by first|rfl|simp,below_alloc _ _⟩
  | true=>
   have H2:Hid (emS t=true):=h2
   have e2:t.toList.isEmpty=true:=h2
   have e2p:=emS_yes h2
   clear h2
   go_enter Tryz.func46,Tryz.ntmps46
   go_wp2
   go_ret
   exact ⟨by first|rfl|simp,below_alloc _ _⟩

set_option maxHeartbeats 1000000 in
theorem good_6 (s t:ByteArray) (w:World):Calls Tryz.prog 46 #[.agg #[.int .i64 6,.string s,.string t]] w fun e w'=>e=.returned (.bool (emS s && emS t))/\Below w.heap.size w w':=by
 cases h1:emS s with
 | false=>
  have H1:Hid (emS s=false):=h1
  have e1:s.toList.isEmpty=false:=h1
  have e1p:=emS_no h1
  clear h1
  go_enter Tryz.func46,Tryz.ntmps46
  go_wp2
  go_ret
  exact ⟨by first|rfl|simp,below_alloc _ _⟩
 | true=>
  have H1:Hid (emS s=true):=h1
  have e1:s.toList.isEmpty=true:=h1
  have e1p:=emS_yes h1
  clear h1
  cases h2:emS t with
  | false=>
   have H2:Hid (emS t=false):=h2
   have e2:t.toList.isEmpty=false:=h2
   have e2p:=emS_no h2
   clear h2
   go_enter Tryz.func46,Tryz.ntmps46
   go_wp2
   go_ret
   exact ⟨by first|rfl|simp,below_alloc _ _⟩
  | true=>
   have H2:Hid (emS t=true):=h2
   have e2:t.toList.isEmpty=true:=h2
   have e2p:=emS_yes h2
   clear h2
   go_enter Tryz.func46,Tryz.ntmps46
   go_wp2
   go_ret
   exact ⟨by first|rfl|simp,below_alloc _ _⟩

set_option maxHeartbeats 1000000 in
theorem good_7 (s t:ByteArray) (w:World):Calls Tryz.prog 46 #[.agg #[.int .i64 7,.string s,.string t]] w fun e w'=>e=.returned (.bool (emS s && emS t))/\Below w.heap.size w w':=by
 cases h1:emS s with
 | false=>
  have H1:Hid (emS s=false):=h1
  have e1:s.toList.isEmpty=false:=h1
  have e1p:=emS_no h1
  clear h1
  go_enter Tryz.func46,Tryz.ntmps46
  go_wp2
  go_ret
  exact ⟨by first|rfl|simp,below_alloc _ _⟩
 | true=>
  have H1:Hid (emS s=true):=h1
  have e1:s.toList.isEmpty=true:=h1
  have e1p:=emS_yes h1
  clear h1
  cases h2:emS t with
  | false=>
   have H2:Hid (emS t=false):=h2
   have e2:t.toList.isEmpty=false:=h2
   have e2p:=emS_no h2
   clear h2
   go_enter Tryz.func46,Tryz.ntmps46
   go_wp2
   go_ret
   exact ⟨by first|rfl|simp,below_alloc _ _⟩
  | true=>
   have H2:Hid (emS t=true):=h2
   have e2:t.toList.isEmpty=true:=h2
   have e2p:=emS_yes h2
   clear h2
   go_enter Tryz.func46,Tryz.ntmps46
   go_wp2
   go_ret
   exact ⟨by first|rfl|simp,below_alloc _ _⟩

set_option maxHeartbeats 1000000 in
theorem good_8 (s t:ByteArray) (w:World):Calls Tryz.prog 46 #[.agg #[.int .i64 8,.string s,.string t]] w fun e w'=>e=.returned (.bool (emS s && emS t))/\Below w.heap.size w w':=by
 cases h1:emS s with
 | false=>
  have H1:Hid (emS s=false):=h1
  have e1:s.toList.isEmpty=false:=h1
  have e1p:=emS_no h1
  clear h1
  go_enter Tryz.func46,Tryz.ntmps46
  go_wp2
  go_ret
  exact ⟨by first|rfl|simp,below_alloc _ _⟩
 | true=>
  have H1:Hid (emS s=true):=h1
  have e1:s.toList.isEmpty=true:=h1
  have e1p:=emS_yes h1
  clear h1
  cases h2:emS t with
  | false=>
   have H2:Hid (emS t=false):=h2
   have e2:t.toList.isEmpty=false:=h2
   have e2p:=emS_no h2
   clear h2
   go_enter Tryz.func46,Tryz.ntmps46
   go_wp2
   go_ret
   exact ⟨by first|rfl|simp,below_alloc _ _⟩
  | true=>
   have H2:Hid (emS t=true):=h2
   have e2:t.toList.isEmpty=true:=h2
   have e2p:=emS_yes h2
   clear h2
   go_enter Tryz.func46,Tryz.ntmps46
   go_wp2
   go_ret
   exact ⟨by first|rfl|simp,below_alloc _ _⟩

set_option maxHeartbeats 1000000 in
theorem good_2 (s t:ByteArray) (w:World):Calls Tryz.prog 46 #[.agg #[.int .i64 2,.string s,.string t]] w fun e w'=>e=.returned (.bool (txS s && emS t))/\Below w.heap.size w w':=by
 cases h1:txS s with
 | false=>
  have H1:Hid (txS s=false):=h1
  clear h1
  go_enter Tryz.func46,Tryz.ntmps46
  go_wp2_with fail
  refine (l6Text_any s _).mono ?_
  rintro e w1 ⟨he,hw⟩
  subst hw
  rw [H1.out] at he
  subst he
  go_wp2
  go_ret
  exact ⟨by first|rfl|simp,below_alloc _ _⟩
 | true=>
  have H1:Hid (txS s=true):=h1
  clear h1
  cases h2:emS t with
  | false=>
   have H2:Hid (emS t=false):=h2
   have e2:t.toList.isEmpty=false:=h2
   have e2p:=emS_no h2
   clear h2
   go_enter Tryz.func46,Tryz.ntmps46
   go_wp2_with fail
   refine (l6Text_any s _).mono ?_
   rintro e w1 ⟨he,hw⟩
   subst hw
   rw [H1.out] at he
   subst he
   go_wp2
   go_ret
   exact ⟨by first|rfl|simp,below_alloc _ _⟩
  | true=>
   have H2:Hid (emS t=true):=h2
   have e2:t.toList.isEmpty=true:=h2
   have e2p:=emS_yes h2
   clear h2
   go_enter Tryz.func46,Tryz.ntmps46
   go_wp2_with fail
   refine (l6Text_any s _).mono ?_
   rintro e w1 ⟨he,hw⟩
   subst hw
   rw [H1.out] at he
   subst he
   go_wp2
   go_ret
   exact ⟨by first|rfl|simp,below_alloc _ _⟩

set_option maxHeartbeats 1000000 in
theorem good_3 (s t:ByteArray) (w:World):Calls Tryz.prog 46 #[.agg #[.int .i64 3,.string s,.string t]] w fun e w'=>e=.returned (.bool (txS s && emS t))/\Below w.heap.size w w':=by
 cases h1:txS s with
 | false=>
  have H1:Hid (txS s=false):=h1
  clear h1
  go_enter Tryz.func46,Tryz.ntmps46
  go_wp2_with fail
  refine (l6Text_any s _).mono ?_
  rintro e w1 ⟨he,hw⟩
  subst hw
  rw [H1.out] at he
  subst he
  go_wp2
  go_ret
  exact ⟨by first|rfl|simp,below_alloc _ _⟩
 | true=>
  have H1:Hid (txS s=true):=h1
  clear h1
  cases h2:emS t with
  | false=>
   have H2:Hid (emS t=false):=h2
   have e2:t.toList.isEmpty=false:=h2
   have e2p:=emS_no h2
   clear h2
   go_enter Tryz.func46,Tryz.ntmps46
   go_wp2_with fail
   refine (l6Text_any s _).mono ?_
   rintro e w1 ⟨he,hw⟩
   subst hw
   rw [H1.out] at he
   subst he
   go_wp2
   go_ret
   exact ⟨by first|rfl|simp,below_alloc _ _⟩
  | true=>
   have H2:Hid (emS t=true):=h2
   have e2:t.toList.isEmpty=true:=h2
   have e2p:=emS_yes h2
   clear h2
   go_enter Tryz.func46,Tryz.ntmps46
   go_wp2_with fail
   refine (l6Text_any s _).mono ?_
   rintro e w1 ⟨he,hw⟩
   subst hw
   rw [H1.out] at he
   subst he
   go_wp2
   go_ret
   exact ⟨by first|rfl|simp,below_alloc _ _⟩

set_option maxHeartbeats 1000000 in
theorem good_4 (s t:ByteArray) (w:World):Calls Tryz.prog 46 #[.agg #[.int .i64 4,.string s,.string t]] w fun e w'=>e=.returned (.bool (txS s && emS t))/\Below w.heap.size w w':=by
 cases h1:txS s with
 | false=>
  have H1:Hid (txS s=false):=h1
  clear h1
  go_enter Tryz.func46,Tryz.ntmps46
  go_wp2_with fail
  refine (l6Text_any s _).mono ?_
  rintro e w1 ⟨he,hw⟩
  subst hw
  rw [H1.out] at he
  subst he
  go_wp2
  go_ret
  exact ⟨by first|rfl|simp,below_alloc _ _⟩
 | true=>
  have H1:Hid (txS s=true):=h1
  clear h1
  cases h2:emS t with
  | false=>
   have H2:Hid (emS t=false):=h2
   have e2:t.toList.isEmpty=false:=h2
   have e2p:=emS_no h2
   clear h2
   go_enter Tryz.func46,Tryz.ntmps46
   go_wp2_with fail
   refine (l6Text_any s _).mono ?_
   rintro e w1 ⟨he,hw⟩
   subst hw
   rw [H1.out] at he
   subst he
   go_wp2
   go_ret
   exact ⟨by first|rfl|simp,below_alloc _ _⟩
  | true=>
   have H2:Hid (emS t=true):=h2
   have e2:t.toList.isEmpty=true:=h2
   have e2p:=emS_yes h2
   clear h2
   go_enter Tryz.func46,Tryz.ntmps46
   go_wp2_with fail
   refine (l6Text_any s _).mono ?_
   rintro e w1 ⟨he,hw⟩
   subst hw
   rw [H1.out] at he
   subst he
   go_wp2
   go_ret
   exact ⟨by first|rfl|simp,below_alloc _ _⟩

set_option maxHeartbeats 1000000 in
theorem good_9 (s t:ByteArray) (w:World):Calls Tryz.prog 46 #[.agg #[.int .i64 9,.string s,.string t]] w fun e w'=>e=.returned (.bool (txS s && emS t))/\Below w.heap.size w w':=by
 cases h1:txS s with
 | false=>
  have H1:Hid (txS s=false):=h1
  clear h1
  go_enter Tryz.func46,Tryz.ntmps46
  go_wp2_with fail
  refine (l6Text_any s _).mono ?_
  rintro e w1 ⟨he,hw⟩
  subst hw
  rw [H1.out] at he
  subst he
  go_wp2
  go_ret
  exact ⟨by first|rfl|simp,below_alloc _ _⟩
 | true=>
  have H1:Hid (txS s=true):=h1
  clear h1
  cases h2:emS t with
  | false=>
   have H2:Hid (emS t=false):=h2
   have e2:t.toList.isEmpty=false:=h2
   have e2p:=emS_no h2
   clear h2
   go_enter Tryz.func46,Tryz.ntmps46
   go_wp2_with fail
   refine (l6Text_any s _).mono ?_
   rintro e w1 ⟨he,hw⟩
   subst hw
   rw [H1.out] at he
   subst he
   go_wp2
   go_ret
   exact ⟨by first|rfl|simp,below_alloc _ _⟩
  | true=>
   have H2:Hid (emS t=true):=h2
   have e2:t.toList.isEmpty=true:=h2
   have e2p:=emS_yes h2
   clear h2
   go_enter Tryz.func46,Tryz.ntmps46
   go_wp2_with fail
   refine (l6Text_any s _).mono ?_
   rintro e w1 ⟨he,hw⟩
   subst hw
   rw [H1.out] at he
   subst he
   go_wp2
   go_ret
   exact ⟨by first|rfl|simp,below_alloc _ _⟩

set_option maxHeartbeats 1000000 in
theorem good_5 (s t:ByteArray) (w:World):Calls Tryz.prog 46 #[.agg #[.int .i64 5,.string s,.string t]] w fun e w'=>e=.returned (.bool (txS s && txS t))/\Below w.heap.size w w':=by
 cases h1:txS s with
 | false=>
  have H1:Hid (txS s=false):=h1
  clear h1
  go_enter Tryz.func46,Tryz.ntmps46
  go_wp2_with fail
  refine (l6Text_any s _).mono ?_
  rintro e w1 ⟨he,hw⟩
  subst hw
  rw [H1.out] at he
  subst he
  go_wp2
  go_ret
  exact ⟨by first|rfl|simp,below_alloc _ _⟩
 | true=>
  have H1:Hid (txS s=true):=h1
  clear h1
  cases h2:txS t with
  | false=>
   have H2:Hid (txS t=false):=h2
   clear h2
   go_enter Tryz.func46,Tryz.ntmps46
   go_wp2_with fail
   refine (l6Text_any s _).mono ?_
   rintro e w1 ⟨he,hw⟩
   subst hw
   rw [H1.out] at he
   subst he
   go_wp2_with fail
   refine (l6Text_any t _).mono ?_
   rintro e w2 ⟨he,hw⟩
   subst hw
   rw [H2.out] at he
   subst he
   go_wp2
   go_ret
   exact ⟨by first|rfl|simp,below_alloc _ _⟩
  | true=>
   have H2:Hid (txS t=true):=h2
   clear h2
   go_enter Tryz.func46,Tryz.ntmps46
   go_wp2_with fail
   refine (l6Text_any s _).mono ?_
   rintro e w1 ⟨he,hw⟩
   subst hw
   rw [H1.out] at he
   subst he
   go_wp2_with fail
   refine (l6Text_any t _).mono ?_
   rintro e w2 ⟨he,hw⟩
   subst hw
   rw [H2.out] at he
   subst he
   go_wp2
   go_ret
   exact ⟨by first|rfl|simp,below_alloc _ _⟩

set_option maxHeartbeats 1000000 in
theorem good_none (k:Int) (s t:ByteArray) (w:World) (hk:¬ (1<=k/\k<=9)):Calls Tryz.prog 46 #[.agg #[.int .i64 k,.string s,.string t]] w fun e w'=>e=.returned (.bool false)/\Below w.heap.size w w':=by
 have e1:(k == 1)=false:=by simp;omega
 have e2:(k == 2)=false:=by simp;omega
 have e3:(k == 3)=false:=by simp;omega
 have e4:(k == 4)=false:=by simp;omega
 have e5:(k == 5)=false:=by simp;omega
 have e6:(k == 6)=false:=by simp;omega
 have e7:(k == 7)=false:=by simp;omega
 have e8:(k == 8)=false:=by simp;omega
 have e9:(k == 9)=false:=by simp;omega
 have f1:¬ k=1:=by omega
 have f2:¬ k=2:=by omega
 have f3:¬ k=3:=by omega
 have f4:¬ k=4:=by omega
 have f5:¬ k=5:=by omega
 have f6:¬ k=6:=by omega
 have f7:¬ k=7:=by omega
 have f8:¬ k=8:=by omega
 have f9:¬ k=9:=by omega
 clear hk
 go_enter Tryz.func46,Tryz.ntmps46
 go_wp2
 go_ret
 exact ⟨rfl,below_alloc _ _⟩

theorem l6GoodNode_any (k:Int) (s t:ByteArray) (w:World):Calls Tryz.prog 46 #[.agg #[.int .i64 k,.string s,.string t]] w fun e w'=>e=.returned (.bool (gnB k s t))/\Below w.heap.size w w':=by
 by_cases h:1<=k/\k<=9
 ·have h9:k=1\/k=2\/k=3\/k=4\/k=5\/k=6\/k=7\/k=8\/k=9:=by omega
  rcases h9 with rfl|rfl|rfl|rfl|rfl|rfl|rfl|rfl|rfl
  ·exact good_1 s t w
  ·exact good_2 s t w
  ·exact good_3 s t w
  ·exact good_4 s t w
  ·exact good_5 s t w
  ·exact good_6 s t w
  ·exact good_7 s t w
  ·exact good_8 s t w
  ·exact good_9 s t w
 ·have e:gnB k s t=false:=by
   unfold gnB
   rw [if_neg (by omega),if_neg (by omega),if_neg (by omega)]
  rw [e]
  exact good_none k s t w h

theorem addN3 {b o i:Nat}:(Addr.add ⟨b,o,none⟩ i)=⟨b,o+i,none⟩:=by
 unfold Addr.add
 by_cases h:i=0
 ·subst h;simp
 ·simp [h]

theorem runFromN (b o r c lo:Nat) (h1:lo<=r) (h2:r<=c) (h3:lo<c) (w:World):(Instr.sliceAt 36 (.slice (some ⟨b,o,none⟩) r c) (some (.int .i64 (lo:Int))) none none).run Tryz.prog w=.ok (.slice (some ⟨b,o+lo*3,none⟩) (r-lo) (c-lo)) w:=by
 simp [Instr.sliceAt,Instr.slice,go_sem]
 rw [if_pos h1,if_neg (show ¬ c=lo by omega)]

theorem runToN (b o r c hi:Nat) (h1:hi<=c) (w:World):(Instr.sliceAt 36 (.slice (some ⟨b,o,none⟩) r c) none (some (.int .i64 (hi:Int))) none).run Tryz.prog w=.ok (.slice (some ⟨b,o,none⟩) hi c) w:=by
 simp [Instr.sliceAt,Instr.slice,go_sem]
 intro h
 omega

theorem underPss:Tryz.prog.underlying 126=some (.slice 36):=by kernel_rfl
theorem infoPns:(Tryz.prog.info? 36).map (fun i=>(i.zero,i.size,i.bytes))=some (some (.slice none 0 0),1,24):=by kernel_rfl

theorem RdN.take {w:World} {a:Option Addr} {n r:Nat} {I:Nat->Int} {X R:Nat->ByteArray} (h:RdN w a n I X R) (hr:r<=n):RdN w a r I X R:=by
 rcases h with h|⟨b,o,rfl,hc⟩
 ·exact Or.inl (by omega)
 ·exact Or.inr ⟨b,o,rfl,fun i hi=>hc i (by omega)⟩

def KidsAt (W:World) (v:Value) (ks:List Value):Prop:=∃g cp,v=.slice (some ⟨g,0,none⟩) ks.length cp/\∀i x,ks[i]?=some x->W.cell? ⟨g,i,none⟩=some x

def KidsOf (A:Nat->Nat) (b o c n j r:Nat) (ks:List Value):Prop:=
 (j=0/\r=n-1/\ks=[])\/(j=1/\Begins A (n-1) r/\ks=[.slice (some ⟨b,o+r*3,none⟩) (n-1-r) (c-r)])\/
  (j=2/\r=0/\∃s,Begins A (n-1) s/\Begins A s 0/\ks=[.slice (some ⟨b,o,none⟩) s c,.slice (some ⟨b,o+s*3,none⟩) (n-1-s) (c-s)])

theorem kids_math {A:Nat->Nat} {n:Nat} (hn:0<n) (h:Begins A n 0) (ha:A (n-1)<=2) :
  (A (n-1)=0/\n=1)\/(A (n-1)=1/\Begins A (n-1) 0)\/(A (n-1)=2/\∃s,0<s/\Begins A (n-1) s/\Begins A s 0):=by
 obtain ⟨hs,hd⟩:=(whole_iff A n hn).1 h
 obtain ⟨m,rfl⟩:∃m,n=m+1:=⟨n-1,by omega⟩
 rw [Nat.add_sub_cancel] at ha ⊢
 have h1:=dep_succ A m
 have hsm:StackOk A m:=fun i hi=>hs i (by omega)
 by_cases h0:m=0
 ·subst h0
  have h2:dep A 0=0:=rfl
  exact Or.inl ⟨by omega,rfl⟩
 ·have hp:=hsm.pos m (by omega) (Nat.le_refl _)
  by_cases h2:A m=1
  ·exact Or.inr (Or.inl ⟨h2,(whole_iff A m (by omega)).2 ⟨hsm,by omega⟩⟩)
  ·have h3:A m=2:=by omega
   obtain ⟨s,hb⟩:=hsm.begins m (by omega) (Nat.le_refl _)
   have h4:=hb.2.1
   unfold need at h4
   have hs0:0<s:=by
    rcases Nat.eq_zero_or_pos s with e|e
    ·subst e
     have h5:dep A 0=0:=rfl
     omega
    ·exact e
   have hss:StackOk A s:=fun i hi=>hsm i (by have:=hb.1;omega)
   exact Or.inr (Or.inr ⟨h3,s,hs0,hb,(whole_iff A s hs0).2 ⟨hss,by omega⟩⟩)

def sumT (N:Nat->Tn):Nat->Nat
 | 0=>0
 | k+1=>sumT N k+(N k).kn+(N k).dn

set_option maxHeartbeats 1000000 in
theorem szStringS_sum (a:Option Addr) (n c:Nat) (X:Nat->ByteArray) (l:Int) (w:World) (h:RdS w a n X) (hn:n<=maxLen) (hX:∀i,i<n->(X i).size<=maxLen) (h0:0<=l) (h1:l<=1048576) :
  Calls Tryz.prog 133 #[.slice a n c,.int .i64 l] w fun e w'=>∃r:Int,e=.returned (.int .i64 r)/\(r=-1\/(0<=r/\r+(n:Int)<=l))/\Below w.heap.size w w':=by
 unfold maxLen at hn
 by_cases hneg:l-(n:Int)<0
 ·go_enter Tryz.func133,Tryz.ntmps133
  go_wp2
  go_ret
  exact ⟨-1,rfl,Or.inl rfl,Below.refl _ _⟩
 ·go_enter Tryz.func133,Tryz.ntmps133
  go_wp2
  go_loopw [1,5] (fun q i wr=>∃(k:Nat) (l' : Int),k<=n/\i=.int .i64 k/\q=.int .i64 l'/\0<=l'/\l'<=l-(n:Int)/\Below w.heap.size w wr) (fun _ i _=>n-(intOf i).toNat)
  case atStart=>exact ⟨0,_,Nat.zero_le _,rfl,rfl,by omega,by omega,Below.refl _ _⟩
  case round=>
   obtain ⟨k,l',hk,rfl,rfl,hl0,hl1,hbel⟩:=hrel
   by_cases hlt:k<n
   ·have hne:¬ n=0:=by omega
    have h':=h.below hbel
    have HB:Hid (Below w.heap.size w wr):=hbel
    rcases h' with h' | ⟨b,o,rfl,hc⟩
    ·exact absurd h' hne
    have c1:=hc k hlt
    have HX:=hX k hlt
    unfold maxLen at HX
    clear hc h hbel hX
    by_cases hq:l' - ((X k).size:Int)<0
    ·go_wp2
     go_ret
     exact ⟨-1,rfl,Or.inl rfl,HB.out⟩
    ·go_wp2
     go_roundw
     case rel=>exact ⟨k+1,_,by omega,by go_num,rfl,by omega,by omega,HB.out⟩
     case measure=>simp [intOf];omega
   ·have e:k=n:=by omega
    subst e
    go_wp2
    go_ret
    exact ⟨l',rfl,Or.inr ⟨hl0,by omega⟩,hbel⟩

set_option maxHeartbeats 400000 in
theorem szInt64S_sum (a:Option Addr) (n c:Nat) (l:Int) (w:World) (hn:n<=maxLen) (h0:0<=l) (h1:l<=1048576) :
  Calls Tryz.prog 134 #[.slice a n c,.int .i64 l] w fun e w'=>∃r:Int,e=.returned (.int .i64 r)/\(r=-1\/(0<=r/\r+(n:Int)<=l))/\Below w.heap.size w w':=by
 unfold maxLen at hn
 by_cases h:l-(n:Int)<0
 ·go_enter Tryz.func134,Tryz.ntmps134
  go_wp2
  go_ret
  exact ⟨-1,rfl,Or.inl rfl,Below.refl _ _⟩
 ·go_enter Tryz.func134,Tryz.ntmps134
  go_wp2
  go_ret
  exact ⟨_,rfl,Or.inr ⟨by omega,by omega⟩,Below.refl _ _⟩

set_option maxHeartbeats 1000000 in
theorem szTNode_sum (x:Tn) (ka da:Option Addr) (kc dc:Nat) (l:Int) (w:World) (hk:RdS w ka x.kn x.ks) (hB:TnBig x) (h0:0<=l) (h1:l<=1048576) :
  Calls Tryz.prog 113 #[.agg #[.bool x.lf,.slice ka x.kn kc,.slice da x.dn dc,.int .i64 x.ct],.int .i64 l] w fun e w'=>∃r:Int,e=.returned (.int .i64 r)/\(r=-1\/(0<=r/\r+(x.kn:Int)+(x.dn:Int)<=l))/\Below w.heap.size w w':=by
 have HK:Hid (RdS w ka x.kn x.ks):=hk
 have HB:Hid (TnBig x):=hB
 clear hk hB
 go_enter Tryz.func113,Tryz.ntmps113
 go_wp2_with fail
 refine (szStringS_sum ka x.kn kc x.ks l _ (HK.out.below (below_alloc _ _)) HB.out.1 HB.out.2.2 h0 h1).mono ?_
 rintro e w1 ⟨r,rfl,hr,hb1⟩
 have hc1:=(bcell hb1).1 w.heap.size
 have H1:Hid (Below w.heap.size w w1):=(below_alloc _ _).trans (hb1.mono (by simp))
 have hz1:w.heap.size<w1.heap.size:=by have:=hb1.size;simp at this;omega
 simp at hc1
 clear hb1
 rcases hr with rfl|⟨hr0,hr1⟩
 ·go_wp2
  go_ret
  exact ⟨-1,rfl,Or.inl rfl,H1.out⟩
 ·have hr2:¬ r<0:=by omega
  go_wp2_with fail
  refine (szInt64S_sum da x.dn dc r _ HB.out.2.1 hr0 (by omega)).mono ?_
  rintro e w2 ⟨r2,rfl,hq,hb2⟩
  have H2:Hid (Below w.heap.size w w2):=H1.out.trans (hb2.mono (by omega))
  clear hb2
  rcases hq with rfl|⟨hq0,hq1⟩
  ·go_wp2
   go_ret
   exact ⟨-1,rfl,Or.inl rfl,H2.out⟩
  ·have hq2:¬ r2<0:=by omega
   go_wp2
   go_ret
   exact ⟨r2,rfl,Or.inr ⟨hq0,by omega⟩,H2.out⟩

set_option maxHeartbeats 1000000 in
theorem szTNodeS_sum (a:Option Addr) (m c:Nat) (N:Nat->Tn) (l:Int) (w:World) (h:RdTn w a m N) (hm:m<=maxLen) (hN:∀i,i<m->TnBig (N i)) (h0:0<=l) (h1:l<=1048576) :
  Calls Tryz.prog 84 #[.slice a m c,.int .i64 l] w fun e w'=>∃r:Int,e=.returned (.int .i64 r)/\(r=-1\/(0<=r/\r+(m:Int)+(sumT N m:Int)<=l))/\Below w.heap.size w w':=by
 unfold maxLen at hm
 by_cases hneg:l-(m:Int)<0
 ·go_enter Tryz.func84,Tryz.ntmps84
  go_wp2
  go_ret
  exact ⟨-1,rfl,Or.inl rfl,Below.refl _ _⟩
 ·go_enter Tryz.func84,Tryz.ntmps84
  go_wp2
  go_loopw [1,5] (fun q i wr=>∃(k:Nat) (l' : Int),k<=m/\i=.int .i64 k/\q=.int .i64 l'/\0<=l'/\l'+(sumT N k:Int)<=l-(m:Int)/\Below w.heap.size w wr) (fun _ i _=>m-(intOf i).toNat)
  case atStart=>exact ⟨0,_,Nat.zero_le _,rfl,rfl,by omega,by simp [sumT],Below.refl _ _⟩
  case round=>
   obtain ⟨k,l',hk,rfl,rfl,hl0,hl1,hbel⟩:=hrel
   by_cases hlt:k<m
   ·have hne:¬ m=0:=by omega
    have h':=h.below hbel
    have HB:Hid (Below w.heap.size w wr):=hbel
    have hsz:=hbel.size
    rcases h' with h' | ⟨b,o,rfl,hc⟩
    ·exact absurd h' hne
    obtain ⟨ka,kc,da,dc,c0,c1,c2,c3,c4,c5⟩:=hc k hlt
    have HK:Hid (RdS wr ka (N k).kn (N k).ks):=c4
    have HL:Hid (TnBig (N k)):=hN k hlt
    clear hc hN hbel h c4 c5
    go_wp2_with fail
    refine (szTNode_sum (N k) ka da kc dc l' _ HK.out HL.out hl0 (by omega)).mono ?_
    rintro e w1 ⟨r,rfl,hr,hb1⟩
    have HB1:Hid (Below w.heap.size w w1):=HB.out.trans (hb1.mono hsz)
    clear hb1
    rcases hr with rfl|⟨hr0,hr1⟩
    ·go_wp2
     go_ret
     exact ⟨-1,rfl,Or.inl rfl,HB1.out⟩
    ·have hr2:¬ r<0:=by omega
     have HN2:Hid (r+(sumT N (k+1):Int)<=l-(m:Int)):=by
      show r+(sumT N (k+1):Int)<=l-(m:Int)
      have:sumT N (k+1)=sumT N k+(N k).kn+(N k).dn:=rfl
      omega
     go_wp2
     go_roundw
     case rel=>exact ⟨k+1,r,by omega,by go_num,rfl,hr0,HN2.out,HB1.out⟩
     case measure=>simp [intOf];omega
   ·have e:k=m:=by omega
    subst e
    go_wp2
    go_ret
    exact ⟨l',rfl,Or.inr ⟨hl0,by omega⟩,hbel⟩

theorem sumT_get (N:Nat->Tn):∀(m i:Nat),i<m->(N i).kn+(N i).dn<=sumT N m
 | 0,i,h=>absurd h (Nat.not_lt_zero _)
 | m+1,i,h=>by
  have e:sumT N (m+1)=sumT N m+(N m).kn+(N m).dn:=rfl
  by_cases e2:i=m
  ·subst e2;omega
  ·have:=sumT_get N m i (by omega)
   omega


def AnsN (w:World) (P:Prop) (e:Ending) (w' : World):Prop:=∃b,e=.returned (.bool b)/\(b=true↔P)/\Below w.heap.size w w'

end Go.Proofs.YtpaomghibppgkaaGreat
