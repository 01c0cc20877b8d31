import Derived.Test.YtpaomghibppgkaaGreatNv8
set_option linter.unusedVariables false
set_option maxRecDepth 100000
namespace Go.Proofs.YtpaomghibppgkaaGreat
open Go.RowKit Go.Deep

set_option maxHeartbeats 400000 in
theorem isTxt_any (x:ByteArray) (w:World):Calls Tryz.prog 97 #[.string x] w fun e w'=>e=.returned (.bool (txS x))/\w'=w:=by
 by_cases h1:1<=x.size
 ·have i1:(1:Int)<=(x.size:Int):=by omega
  have i1' : decide ((1:Int)<=(x.size:Int))=true:=decide_eq_true i1
  have HE:Hid (txS x=decide (x.size<=30)):=by show _=_;unfold txS;rw [decide_eq_true h1];rfl
  by_cases h2:x.size<=30
  ·have i2:(x.size:Int)<=30:=by omega
   have i2' : decide ((x.size:Int)<=30)=true:=decide_eq_true i2
   go_enter Tryz.func97,Tryz.ntmps97
   go_wp2
   go_ret
   exact ⟨by rw [HE.out,decide_eq_true h2];rfl,rfl⟩
  ·have i2:¬ (x.size:Int)<=30:=by omega
   have i2' : decide ((x.size:Int)<=30)=false:=decide_eq_false i2
   go_enter Tryz.func97,Tryz.ntmps97
   go_wp2
   go_ret
   exact ⟨by rw [HE.out,decide_eq_false h2];rfl,rfl⟩
 ·have i1:¬ (1:Int)<=(x.size:Int):=by omega
  have i1' : decide ((1:Int)<=(x.size:Int))=false:=decide_eq_false i1
  have HE:Hid (txS x=false):=by show _=_;unfold txS;rw [decide_eq_false h1];rfl
  go_enter Tryz.func97,Tryz.ntmps97
  go_wp2
  go_ret
  exact ⟨by rw [HE.out];rfl,rfl⟩

set_option maxHeartbeats 1000000 in
theorem inode_1 (s t:ByteArray) (w:World):Calls Tryz.prog 66 #[.agg #[.int .i64 1,.string s,.string t]] w fun e w'=>e=.returned (.bool (emS s && emS t))/\Below w.heap.size w w':=by
 cases h1:emS s with
 | false=>
  have H1:Hid (emS s=false):=h1
  have e1:s.toList.isEmpty=false:=h1
  have e1p:=emS_no h1
  clear h1
  go_enter Tryz.func66,Tryz.ntmps66
  go_wp2
  go_ret
  exact ⟨by first|rfl|simp,below_alloc _ _⟩
 | true=>
  have H1:Hid (emS s=true):=h1
  have e1:s.toList.isEmpty=true:=h1
  have e1p:=emS_yes h1
  clear h1
  cases h2:emS t with
  | false=>
   have H2:Hid (emS t=false):=h2
   have e2:t.toList.isEmpty=false:=h2
   have e2p:=emS_no h2
   clear h2
   go_enter Tryz.func66,Tryz.ntmps66
   go_wp2
   go_ret
   exact ⟨by first|rfl|simp,below_alloc _ _⟩
  | true=>
   have H2:Hid (emS t=true):=h2
   have e2:t.toList.isEmpty=true:=h2
   have e2p:=emS_yes h2
   clear h2
   go_enter Tryz.func66,Tryz.ntmps66
   go_wp2
   go_ret
   exact ⟨by first|rfl|simp,below_alloc _ _⟩

set_option maxHeartbeats 1000000 in
theorem inode_6 (s t:ByteArray) (w:World):Calls Tryz.prog 66 #[.agg #[.int .i64 6,.string s,.string t]] w fun e w'=>e=.returned (.bool (emS s && emS t))/\Below w.heap.size w w':=by
 cases h1:emS s with
 | false=>
  have H1:Hid (emS s=false):=h1
  have e1:s.toList.isEmpty=false:=h1
  have e1p:=emS_no h1
  clear h1
  go_enter Tryz.func66,Tryz.ntmps66
  go_wp2
  go_ret
  exact ⟨by first|rfl|simp,below_alloc _ _⟩
 | true=>
  have H1:Hid (emS s=true):=h1
  have e1:s.toList.isEmpty=true:=h1
  have e1p:=emS_yes h1
  clear h1
  cases h2:emS t with
  | false=>
   have H2:Hid (emS t=false):=h2
   have e2:t.toList.isEmpty=false:=h2
   have e2p:=emS_no h2
   clear h2
   go_enter Tryz.func66,Tryz.ntmps66
   go_wp2
   go_ret
   exact ⟨by first|rfl|simp,below_alloc _ _⟩
  | true=>
   have H2:Hid (emS t=true):=h2
   have e2:t.toList.isEmpty=true:=h2
   have e2p:=emS_yes h2
   clear h2
   go_enter Tryz.func66,Tryz.ntmps66
   go_wp2
   go_ret
   exact ⟨by first|rfl|simp,below_alloc _ _⟩

set_option maxHeartbeats 1000000 in
theorem inode_7 (s t:ByteArray) (w:World):Calls Tryz.prog 66 #[.agg #[.int .i64 7,.string s,.string t]] w fun e w'=>e=.returned (.bool (emS s && emS t))/\Below w.heap.size w w':=by
 cases h1:emS s with
 | false=>
  have H1:Hid (emS s=false):=h1
  have e1:s.toList.isEmpty=false:=h1
  have e1p:=emS_no h1
  clear h1
  go_enter Tryz.func66,Tryz.ntmps66
  go_wp2
  go_ret
  exact ⟨by first|rfl|simp,below_alloc _ _⟩
 | true=>
  have H1:Hid (emS s=true):=h1
  have e1:s.toList.isEmpty=true:=h1
  have e1p:=emS_yes h1
  clear h1
  cases h2:emS t with
  | false=>
   have H2:Hid (emS t=false):=h2
   have e2:t.toList.isEmpty=false:=h2
   have e2p:=emS_no h2
   clear h2
   go_enter Tryz.func66,Tryz.ntmps66
   go_wp2
   go_ret
   exact ⟨by first|rfl|simp,below_alloc _ _⟩
  | true=>
   have H2:Hid (emS t=true):=h2
   have e2:t.toList.isEmpty=true:=h2
   have e2p:=emS_yes h2
   clear h2
   go_enter Tryz.func66,Tryz.ntmps66
   go_wp2
   go_ret
   exact ⟨by first|rfl|simp,below_alloc _ _⟩

set_option maxHeartbeats 1000000 in
theorem inode_8 (s t:ByteArray) (w:World):Calls Tryz.prog 66 #[.agg #[.int .i64 8,.string s,.string t]] w fun e w'=>e=.returned (.bool (emS s && emS t))/\Below w.heap.size w w':=by
 cases h1:emS s with
 | false=>
  have H1:Hid (emS s=false):=h1
  have e1:s.toList.isEmpty=false:=h1
  have e1p:=emS_no h1
  clear h1
  go_enter Tryz.func66,Tryz.ntmps66
  go_wp2
  go_ret
  exact ⟨by first|rfl|simp,below_alloc _ _⟩
 | true=>
  have H1:Hid (emS s=true):=h1
  have e1:s.toList.isEmpty=true:=h1
  have e1p:=emS_yes h1
  clear h1
  cases h2:emS t with
  | false=>
   have H2:Hid (emS t=false):=h2
   have e2:t.toList.isEmpty=false:=h2
   have e2p:=emS_no h2
   clear h2
   go_enter Tryz.func66,Tryz.ntmps66
   go_wp2
   go_ret
   exact ⟨by first|rfl|simp,below_alloc _ _⟩
  | true=>
   have H2:Hid (emS t=true):=h2
   have e2:t.toList.isEmpty=true:=h2
   have e2p:=emS_yes h2
   clear h2
   go_enter Tryz.func66,Tryz.ntmps66
   go_wp2
   go_ret
   exact ⟨by first|rfl|simp,below_alloc _ _⟩

set_option maxHeartbeats 1000000 in
theorem inode_2 (s t:ByteArray) (w:World):Calls Tryz.prog 66 #[.agg #[.int .i64 2,.string s,.string t]] w fun e w'=>e=.returned (.bool (txS s && emS t))/\Below w.heap.size w w':=by
 cases h1:txS s with
 | false=>
  have H1:Hid (txS s=false):=h1
  clear h1
  go_enter Tryz.func66,Tryz.ntmps66
  go_wp2_with fail
  refine (isTxt_any s _).mono ?_
  rintro e w1 ⟨he,hw⟩
  subst hw
  rw [H1.out] at he
  subst he
  go_wp2
  go_ret
  exact ⟨by first|rfl|simp,below_alloc _ _⟩
 | true=>
  have H1:Hid (txS s=true):=h1
  clear h1
  cases h2:emS t with
  | false=>
   have H2:Hid (emS t=false):=h2
   have e2:t.toList.isEmpty=false:=h2
   have e2p:=emS_no h2
   clear h2
   go_enter Tryz.func66,Tryz.ntmps66
   go_wp2_with fail
   refine (isTxt_any s _).mono ?_
   rintro e w1 ⟨he,hw⟩
   subst hw
   rw [H1.out] at he
   subst he
   go_wp2
   go_ret
   exact ⟨by first|rfl|simp,below_alloc _ _⟩
  | true=>
   have H2:Hid (emS t=true):=h2
   have e2:t.toList.isEmpty=true:=h2
   have e2p:=emS_yes h2
   clear h2
   go_enter Tryz.func66,Tryz.ntmps66
   go_wp2_with fail
   refine (isTxt_any s _).mono ?_
   rintro e w1 ⟨he,hw⟩
   subst hw
   rw [H1.out] at he
   subst he
   go_wp2
   go_ret
   exact ⟨by first|rfl|simp,below_alloc _ _⟩

set_option maxHeartbeats 1000000 in
theorem inode_3 (s t:ByteArray) (w:World):Calls Tryz.prog 66 #[.agg #[.int .i64 3,.string s,.string t]] w fun e w'=>e=.returned (.bool (txS s && emS t))/\Below w.heap.size w w':=by
 cases h1:txS s with
 | false=>
  have H1:Hid (txS s=false):=h1
  clear h1
  go_enter Tryz.func66,Tryz.ntmps66
  go_wp2_with fail
  refine (isTxt_any s _).mono ?_
  rintro e w1 ⟨he,hw⟩
  subst hw
  rw [H1.out] at he
  subst he
  go_wp2
  go_ret
  exact ⟨by first|rfl|simp,below_alloc _ _⟩
 | true=>
  have H1:Hid (txS s=true):=h1
  clear h1
  cases h2:emS t with
  | false=>
   have H2:Hid (emS t=false):=h2
   have e2:t.toList.isEmpty=false:=h2
   have e2p:=emS_no h2
   clear h2
   go_enter Tryz.func66,Tryz.ntmps66
   go_wp2_with fail
   refine (isTxt_any s _).mono ?_
   rintro e w1 ⟨he,hw⟩
   subst hw
   rw [H1.out] at he
   subst he
   go_wp2
   go_ret
   exact ⟨by first|rfl|simp,below_alloc _ _⟩
  | true=>
   have H2:Hid (emS t=true):=h2
   have e2:t.toList.isEmpty=true:=h2
   have e2p:=emS_yes h2
   clear h2
   go_enter Tryz.func66,Tryz.ntmps66
   go_wp2_with fail
   refine (isTxt_any s _).mono ?_
   rintro e w1 ⟨he,hw⟩
   subst hw
   rw [H1.out] at he
   subst he
   go_wp2
   go_ret
   exact ⟨by first|rfl|simp,below_alloc _ _⟩

set_option maxHeartbeats 1000000 in
theorem inode_4 (s t:ByteArray) (w:World):Calls Tryz.prog 66 #[.agg #[.int .i64 4,.string s,.string t]] w fun e w'=>e=.returned (.bool (txS s && emS t))/\Below w.heap.size w w':=by
 cases h1:txS s with
 | false=>
  have H1:Hid (txS s=false):=h1
  clear h1
  go_enter Tryz.func66,Tryz.ntmps66
  go_wp2_with fail
  refine (isTxt_any s _).mono ?_
  rintro e w1 ⟨he,hw⟩
  subst hw
  rw [H1.out] at he
  subst he
  go_wp2
  go_ret
  exact ⟨by first|rfl|simp,below_alloc _ _⟩
 | true=>
  have H1:Hid (txS s=true):=h1
  clear h1
  cases h2:emS t with
  | false=>
   have H2:Hid (emS t=false):=h2
   have e2:t.toList.isEmpty=false:=h2
   have e2p:=emS_no h2
   clear h2
   go_enter Tryz.func66,Tryz.ntmps66
   go_wp2_with fail
   refine (isTxt_any s _).mono ?_
   rintro e w1 ⟨he,hw⟩
   subst hw
   rw [H1.out] at he
   subst he
   go_wp2
   go_ret
   exact ⟨by first|rfl|simp,below_alloc _ _⟩
  | true=>
   have H2:Hid (emS t=true):=h2
   have e2:t.toList.isEmpty=true:=h2
   have e2p:=emS_yes h2
   clear h2
   go_enter Tryz.func66,Tryz.ntmps66
   go_wp2_with fail
   refine (isTxt_any s _).mono ?_
   rintro e w1 ⟨he,hw⟩
   subst hw
   rw [H1.out] at he
   subst he
   go_wp2
   go_ret
   exact ⟨by first|rfl|simp,below_alloc _ _⟩

set_option maxHeartbeats 1000000 in
theorem inode_9 (s t:ByteArray) (w:World):Calls Tryz.prog 66 #[.agg #[.int .i64 9,.string s,.string t]] w fun e w'=>e=.returned (.bool (txS s && emS t))/\Below w.heap.size w w':=by
 cases h1:txS s with
 | false=>
  have H1:Hid (txS s=false):=h1
  clear h1
  go_enter Tryz.func66,Tryz.ntmps66
  go_wp2_with fail
  refine (isTxt_any s _).mono ?_
  rintro e w1 ⟨he,hw⟩
  subst hw
  rw [H1.out] at he
  subst he
  go_wp2
  go_ret
  exact ⟨by first|rfl|simp,below_alloc _ _⟩
 | true=>
  have H1:Hid (txS s=true):=h1
  clear h1
  cases h2:emS t with
  | false=>
   have H2:Hid (emS t=false):=h2
   have e2:t.toList.isEmpty=false:=h2
   have e2p:=emS_no h2
   clear h2
   go_enter Tryz.func66,Tryz.ntmps66
   go_wp2_with fail
   refine (isTxt_any s _).mono ?_
   rintro e w1 ⟨he,hw⟩
   subst hw
   rw [H1.out] at he
   subst he
   go_wp2
   go_ret
   exact ⟨by first|rfl|simp,below_alloc _ _⟩
  | true=>
   have H2:Hid (emS t=true):=h2
   have e2:t.toList.isEmpty=true:=h2
   have e2p:=emS_yes h2
   clear h2
   go_enter Tryz.func66,Tryz.ntmps66
   go_wp2_with fail
   refine (isTxt_any s _).mono ?_
   rintro e w1 ⟨he,hw⟩
   subst hw
   rw [H1.out] at he
   subst he
   go_wp2
   go_ret
   exact ⟨by first|rfl|simp,below_alloc _ _⟩

set_option maxHeartbeats 1000000 in
theorem inode_5 (s t:ByteArray) (w:World):Calls Tryz.prog 66 #[.agg #[.int .i64 5,.string s,.string t]] w fun e w'=>e=.returned (.bool (txS s && txS t))/\Below w.heap.size w w':=by
 cases h1:txS s with
 | false=>
  have H1:Hid (txS s=false):=h1
  clear h1
  go_enter Tryz.func66,Tryz.ntmps66
  go_wp2_with fail
  refine (isTxt_any s _).mono ?_
  rintro e w1 ⟨he,hw⟩
  subst hw
  rw [H1.out] at he
  subst he
  go_wp2
  go_ret
  exact ⟨by first|rfl|simp,below_alloc _ _⟩
 | true=>
  have H1:Hid (txS s=true):=h1
  clear h1
  cases h2:txS t with
  | false=>
   have H2:Hid (txS t=false):=h2
   clear h2
   go_enter Tryz.func66,Tryz.ntmps66
   go_wp2_with fail
   refine (isTxt_any s _).mono ?_
   rintro e w1 ⟨he,hw⟩
   subst hw
   rw [H1.out] at he
   subst he
   go_wp2_with fail
   refine (isTxt_any t _).mono ?_
   rintro e w2 ⟨he,hw⟩
   subst hw
   rw [H2.out] at he
   subst he
   go_wp2
   go_ret
   exact ⟨by first|rfl|simp,below_alloc _ _⟩
  | true=>
   have H2:Hid (txS t=true):=h2
   clear h2
   go_enter Tryz.func66,Tryz.ntmps66
   go_wp2_with fail
   refine (isTxt_any s _).mono ?_
   rintro e w1 ⟨he,hw⟩
   subst hw
   rw [H1.out] at he
   subst he
   go_wp2_with fail
   refine (isTxt_any t _).mono ?_
   rintro e w2 ⟨he,hw⟩
   subst hw
   rw [H2.out] at he
   subst he
   go_wp2
   go_ret
   exact ⟨by first|rfl|simp,below_alloc _ _⟩

set_option maxHeartbeats 1000000 in
theorem inode_none (k:Int) (s t:ByteArray) (w:World) (hk:¬ (1<=k/\k<=9)):Calls Tryz.prog 66 #[.agg #[.int .i64 k,.string s,.string t]] w fun e w'=>e=.returned (.bool false)/\Below w.heap.size w w':=by
 have e1:(k == 1)=false:=by simp;omega
 have e2:(k == 2)=false:=by simp;omega
 have e3:(k == 3)=false:=by simp;omega
 have e4:(k == 4)=false:=by simp;omega
 have e5:(k == 5)=false:=by simp;omega
 have e6:(k == 6)=false:=by simp;omega
 have e7:(k == 7)=false:=by simp;omega
 have e8:(k == 8)=false:=by simp;omega
 have e9:(k == 9)=false:=by simp;omega
 have f1:¬ k=1:=by omega
 have f2:¬ k=2:=by omega
 have f3:¬ k=3:=by omega
 have f4:¬ k=4:=by omega
 have f5:¬ k=5:=by omega
 have f6:¬ k=6:=by omega
 have f7:¬ k=7:=by omega
 have f8:¬ k=8:=by omega
 have f9:¬ k=9:=by omega
 clear hk
 go_enter Tryz.func66,Tryz.ntmps66
 go_wp2
 go_ret
 exact ⟨rfl,below_alloc _ _⟩

theorem isNode_any (k:Int) (s t:ByteArray) (w:World):Calls Tryz.prog 66 #[.agg #[.int .i64 k,.string s,.string t]] w fun e w'=>e=.returned (.bool (gnB k s t))/\Below w.heap.size w w':=by
 by_cases h:1<=k/\k<=9
 ·have h9:k=1\/k=2\/k=3\/k=4\/k=5\/k=6\/k=7\/k=8\/k=9:=by omega
  rcases h9 with rfl|rfl|rfl|rfl|rfl|rfl|rfl|rfl|rfl
  ·exact inode_1 s t w
  ·exact inode_2 s t w
  ·exact inode_3 s t w
  ·exact inode_4 s t w
  ·exact inode_5 s t w
  ·exact inode_6 s t w
  ·exact inode_7 s t w
  ·exact inode_8 s t w
  ·exact inode_9 s t w
 ·have e:gnB k s t=false:=by
   unfold gnB
   rw [if_neg (by omega),if_neg (by omega),if_neg (by omega)]
  rw [e]
  exact inode_none k s t w h

set_option maxHeartbeats 400000 in
theorem opCount_1 (w:World):Calls Tryz.prog 65 #[.int .i64 1] w fun e w'=>e=.returned (.int .i64 0)/\w'=w:=by
 go_enter Tryz.func65,Tryz.ntmps65
 go_wp2
 go_ret
 exact ⟨rfl,rfl⟩

set_option maxHeartbeats 400000 in
theorem opCount_2 (w:World):Calls Tryz.prog 65 #[.int .i64 2] w fun e w'=>e=.returned (.int .i64 0)/\w'=w:=by
 go_enter Tryz.func65,Tryz.ntmps65
 go_wp2
 go_ret
 exact ⟨rfl,rfl⟩

set_option maxHeartbeats 400000 in
theorem opCount_3 (w:World):Calls Tryz.prog 65 #[.int .i64 3] w fun e w'=>e=.returned (.int .i64 1)/\w'=w:=by
 go_enter Tryz.func65,Tryz.ntmps65
 go_wp2
 go_ret
 exact ⟨rfl,rfl⟩

set_option maxHeartbeats 400000 in
theorem opCount_4 (w:World):Calls Tryz.prog 65 #[.int .i64 4] w fun e w'=>e=.returned (.int .i64 1)/\w'=w:=by
 go_enter Tryz.func65,Tryz.ntmps65
 go_wp2
 go_ret
 exact ⟨rfl,rfl⟩

set_option maxHeartbeats 400000 in
theorem opCount_5 (w:World):Calls Tryz.prog 65 #[.int .i64 5] w fun e w'=>e=.returned (.int .i64 1)/\w'=w:=by
 go_enter Tryz.func65,Tryz.ntmps65
 go_wp2
 go_ret
 exact ⟨rfl,rfl⟩

set_option maxHeartbeats 400000 in
theorem opCount_6 (w:World):Calls Tryz.prog 65 #[.int .i64 6] w fun e w'=>e=.returned (.int .i64 2)/\w'=w:=by
 go_enter Tryz.func65,Tryz.ntmps65
 go_wp2
 go_ret
 exact ⟨rfl,rfl⟩

set_option maxHeartbeats 400000 in
theorem opCount_7 (w:World):Calls Tryz.prog 65 #[.int .i64 7] w fun e w'=>e=.returned (.int .i64 2)/\w'=w:=by
 go_enter Tryz.func65,Tryz.ntmps65
 go_wp2
 go_ret
 exact ⟨rfl,rfl⟩

set_option maxHeartbeats 400000 in
theorem opCount_8 (w:World):Calls Tryz.prog 65 #[.int .i64 8] w fun e w'=>e=.returned (.int .i64 2)/\w'=w:=by
 go_enter Tryz.func65,Tryz.ntmps65
 go_wp2
 go_ret
 exact ⟨rfl,rfl⟩

set_option maxHeartbeats 400000 in
theorem opCount_9 (w:World):Calls Tryz.prog 65 #[.int .i64 9] w fun e w'=>e=.returned (.int .i64 1)/\w'=w:=by
 go_enter Tryz.func65,Tryz.ntmps65
 go_wp2
 go_ret
 exact ⟨rfl,rfl⟩

theorem opCount_any (k:Int) (w:World) (h:1<=k/\k<=9):Calls Tryz.prog 65 #[.int .i64 k] w fun e w'=>e=.returned (.int .i64 (arOf k))/\w'=w:=by
 have h9:k=1\/k=2\/k=3\/k=4\/k=5\/k=6\/k=7\/k=8\/k=9:=by omega
 rcases h9 with rfl|rfl|rfl|rfl|rfl|rfl|rfl|rfl|rfl
 ·exact opCount_1 w
 ·exact opCount_2 w
 ·exact opCount_3 w
 ·exact opCount_4 w
 ·exact opCount_5 w
 ·exact opCount_6 w
 ·exact opCount_7 w
 ·exact opCount_8 w
 ·exact opCount_9 w

end Go.Proofs.YtpaomghibppgkaaGreat
