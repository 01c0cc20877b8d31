import Derived.Test.YtbmffmifemebmaaGreatDoorRows
import Derived.Test.YtbmffmifemebmaaGreatDoorNz1
import Derived.WalkKit
import Derived.Deep.OwnRows
import Derived.Deep.Upon
import Derived.Deep.RegionHeld3
import Derived.Deep.CutRange
import Derived.Handy
import Derived.Deep.RegionWith
import Derived.Deep.QuietTactic
import Derived.BigQuiet
import Derived.ProofKit
import Derived.OpenShut
import Derived.Lib.SmallJoins
import Derived.Deep.SlicePairs
set_option linter.unusedVariables false
set_option maxRecDepth 100000
namespace Go.Proofs.YtbmffmifemebmaaGreatDoor
open Go.RowKit Go.Deep

theorem infoStr:(Tryz.prog.info? 9).map (fun i=>(i.zero,i.size,i.bytes))=some (some (.string { data:=#[] }),1,16):=by kernel_rfl

theorem wpList_append_none {w:World} {ops:Array Oper} {rest:List Oper} {o:Oper} {act:Act} {Q:Exit->Act->World->Prop} (hgd:o.guard=none) (s x:Operand)
  (ho:o.op=.call { callee:=.builtin .append,args:=#[s,x],argTypes:=#[122,122] }) (b:Option Addr) (l cap:Nat) (hlc:l<=cap) (hs:act.eval s=.slice b l cap) (a:Option Addr) (c:Nat) (hx:act.eval x=.slice a 0 c)
  (h:wpList Tryz.prog ops Q rest (act.put o.dst (.slice b l cap)) w):wpList Tryz.prog ops Q (o::rest) act w:=by
 obtain ⟨i0,hi,hz0,hz1,hz2⟩:=info_parts infoStr
 have hsrc:Src Tryz.prog i0.size 122 (.slice a 0 c) 0 [] w:=by
  cases a with
  | none=>exact Src.ofNil w Tryz.underlying122 c
  | some ad=>exact Src.ofSlice w Tryz.underlying122 ad 0 c [] (by simp) (by simp) (by simp)
 have hrun:=run_append_nothing (P:=Tryz.prog) w 122 122 o.type 9 i0 Tryz.underlying122 hi b l cap hlc (.slice a 0 c) hsrc
 refine wpList_plain hgd fun K hK=>?_
 unfold Oper.wp
 simp [execOp,ho,resolve,invoke,builtin,hs,hx,hrun,Result.andThen]
 exact hK _ _ h

set_option maxHeartbeats 400000 in
theorem l3Keys_new (w:World) :
  Calls Tryz.prog 82 #[.agg #[.bool true,.slice none 0 0,.slice none 0 0]] w fun e w'=>(∃a,e=.returned (.slice a 0 0))/\Below w.heap.size w w':=by
 go_enter Tryz.func82,Tryz.ntmps82
 go_wp2_with (at_builtin;refine wpList_append_none rfl _ _ rfl _ 0 0 (Nat.le_refl _) rfl none 0 rfl ?_)
 go_wp2
 go_ret
 exact ⟨⟨_,rfl⟩,((below_alloc _ _).trans ((below_alloc _ _).mono (by simp)))⟩

set_option maxHeartbeats 400000 in
theorem copyStr_nil (w:World) :
  Calls Tryz.prog 254 #[.slice none 0 0] w fun e w'=>e=.returned (.slice none 0 0)/\w'=w:=by
 go_enter Tryz.func254,Tryz.ntmps254
 go_wp2_with (at_builtin;refine wpList_append_none rfl _ _ rfl none 0 0 (Nat.le_refl _) rfl none 0 rfl ?_)
 go_wp2
 go_ret
 exact ⟨rfl,rfl⟩

set_option maxHeartbeats 400000 in
theorem below_new (b:Nat) (w:World) (h:w.cell? ⟨b,0,none⟩=some (.int .i64 0)) :
  Calls Tryz.prog 256 #[.pointer (some ⟨b,0,none⟩)] w fun e w'=>e=.returned (.int .i64 0)/\w'=w:=by
 go_enter Tryz.func256,Tryz.ntmps256
 go_wp2
 go_ret
 exact ⟨rfl,rfl⟩

def leafCell (a:Option Addr) (i:Nat):Value:=if i=0 then .bool true else if i=1 then .slice a 0 0 else if i=2 then .slice none 0 0 else .int .i64 0

def OneS (w:World) (B:Nat) (v:Value):Prop:=∃g a c,v=.slice (some ⟨g,0,none⟩) 1 c/\B<=g/\rowIn w g 213 4 (leafCell a)

theorem leafNew (W:World) (a:Option Addr):rowIn (W.alloc (.cells #[.bool true,.slice a 0 0,.slice none 0 0,.int .i64 0] 213)) W.heap.size 213 4 (leafCell a):=by
 refine ⟨_,blk_alloc_new _ _,by simp,fun i hi=>?_⟩
 match i,hi with
 | 0,_=>rfl
 | 1,_=>rfl
 | 2,_=>rfl
 | 3,_=>rfl

theorem leafCells {w:World} {b:Nat} {a:Option Addr} (h:rowIn w b 213 4 (leafCell a)) :
  w.cell? ⟨b,0,none⟩=some (.bool true)/\w.cell? ⟨b,1,none⟩=some (.slice a 0 0)/\w.cell? ⟨b,2,none⟩=some (.slice none 0 0)/\w.cell? ⟨b,3,none⟩=some (.int .i64 0)/\(∀o,w.frozen? ⟨b,o,none⟩=false)/\b<w.heap.size:=
 ⟨by simpa [leafCell] using rowIn.cell h (i:=0) (by omega),by simpa [leafCell] using rowIn.cell h (i:=1) (by omega),by simpa [leafCell] using rowIn.cell h (i:=2) (by omega),by simpa [leafCell] using rowIn.cell h (i:=3) (by omega),fun o=>rowIn.frozen h o,rowIn.lt h⟩

set_option maxHeartbeats 1000000 in
theorem l3Flat_new (w:World) :
  Calls Tryz.prog 84 #[.agg #[.bool true,.slice none 0 0,.slice none 0 0],.int .i64 0] w fun e w'=>(∃v,e=.returned v/\OneS w' w.heap.size v)/\Below w.heap.size w w':=by
 have HC1:Hid (∀w1:World,Below (w.alloc (.cells #[.bool true,.slice none 0 0,.slice none 0 0] 125)).drew.heap.size (w.alloc (.cells #[.bool true,.slice none 0 0,.slice none 0 0] 125)).drew w1->w1.cell? ⟨w.heap.size,0,none⟩=some (.bool true)/\w1.cell? ⟨w.heap.size,1,none⟩=some (.slice none 0 0)/\w1.cell? ⟨w.heap.size,2,none⟩=some (.slice none 0 0)):=by
  intro w1 hb
  refine ⟨?_,?_,?_⟩ <;> (rw [hb.cell (by simp)];simp)
 have HC2:Hid (∀w1:World,Below ((w.alloc (.cells #[.bool true,.slice none 0 0,.slice none 0 0] 125)).alloc (.cells #[.bool false,.slice none 0 0,.slice none 0 0,.int .i64 0] 213)).drew.heap.size ((w.alloc (.cells #[.bool true,.slice none 0 0,.slice none 0 0] 125)).alloc (.cells #[.bool false,.slice none 0 0,.slice none 0 0,.int .i64 0] 213)).drew w1->w1.cell? ⟨w.heap.size,0,none⟩=some (.bool true)/\w1.cell? ⟨w.heap.size,1,none⟩=some (.slice none 0 0)/\w1.cell? ⟨w.heap.size,2,none⟩=some (.slice none 0 0)/\w1.cell? ⟨w.heap.size+1,0,none⟩=some (.bool false)/\w1.cell? ⟨w.heap.size+1,1,none⟩=some (.slice none 0 0)/\w1.cell? ⟨w.heap.size+1,2,none⟩=some (.slice none 0 0)/\w1.cell? ⟨w.heap.size+1,3,none⟩=some (.int .i64 0)/\(∀o,w1.frozen? ⟨w.heap.size+1,o,none⟩=false)/\w.heap.size+1<w1.heap.size):=by
  intro w1 hb
  have hs:=hb.size
  simp at hs
  refine ⟨?_,?_,?_,?_,?_,?_,?_,fun o=>?_,by omega⟩
  all_goals first
   | (rw [hb.cell (by simp <;> omega)];simp)
   | (rw [hb.cell (by simp)];simp)
   | (rw [hb.frozen (by simp)];simp)
 go_enter Tryz.func84,Tryz.ntmps84
 go_wp2
 go_cut [5] from 8 to 13 (fun s5 wx=>∃bo,s5=.pointer (some ⟨bo,0,none⟩)/\w.heap.size+1<=bo/\rowIn wx bo 213 4 (leafCell none)/\Below (w.heap.size+1) (w.alloc (.cells #[.bool true,.slice none 0 0,.slice none 0 0] 125)) wx)
 case first=>
  go_region_held3 (fun w'=>w'.cell? ⟨w.heap.size,0,none⟩=some (.bool true)/\w'.cell? ⟨w.heap.size,1,none⟩=some (.slice none 0 0)/\w'.cell? ⟨w.heap.size,2,none⟩=some (.slice none 0 0)) (go_keep)
   (first
   | (go_at_call 82;refine (l3Keys_new (w.alloc (.cells #[.bool true,.slice none 0 0,.slice none 0 0] 125)).drew).mono ?_;rintro e w1 ⟨⟨a1,rfl⟩,hb1⟩;obtain ⟨k0,k1,k2⟩:=HC1.out w1 hb1)
   | (go_at_call 82;refine (l3Keys_new ((w.alloc (.cells #[.bool true,.slice none 0 0,.slice none 0 0] 125)).alloc (.cells #[.bool false,.slice none 0 0,.slice none 0 0,.int .i64 0] 213)).drew).mono ?_;rintro e w1 ⟨⟨a1,rfl⟩,hb1⟩;obtain ⟨k0,k1,k2,r0,r1,r2,r3,rf,rl⟩:=HC2.out w1 hb1))
  ·go_wp2
   go_meet
   case rel=>exact ⟨_,rfl,by have:=hb1.size;simp at this;omega,leafNew _ _,((Below.refl _ _).drew.trans (hb1.mono (by simp))).alloc (by have:=hb1.size;simp at this;omega) _⟩
  ·go_wp2
   go_meet
   case rel=>
    have hr:rowIn w1 (w.heap.size+1) 213 4 (fun i=>if i=0 then .bool false else leafCell none i):=by
     refine rowIn.of_block (w:=(w.alloc (.cells #[.bool true,.slice none 0 0,.slice none 0 0] 125)).alloc (.cells #[.bool false,.slice none 0 0,.slice none 0 0,.int .i64 0] 213)) ⟨#[.bool false,.slice none 0 0,.slice none 0 0,.int .i64 0],?_,by simp,fun i hi=>?_⟩ (hb1.block _ (by simp))
     ·have:=blk_alloc_new (w.alloc (.cells #[.bool true,.slice none 0 0,.slice none 0 0] 125)) (.cells #[.bool false,.slice none 0 0,.slice none 0 0,.int .i64 0] 213)
      rw [show (w.alloc (.cells #[.bool true,.slice none 0 0,.slice none 0 0] 125)).heap.size=w.heap.size+1 by simp] at this
      exact this
     ·match i,hi with
      | 0,_=>rfl
      | 1,_=>rfl
      | 2,_=>rfl
      | 3,_=>rfl
    have hb2:Below (w.heap.size+1) (w.alloc (.cells #[.bool true,.slice none 0 0,.slice none 0 0] 125)) w1:=by
     refine Below.trans ?_ (hb1.mono (by simp))
     exact (Below.alloc (Below.refl _ _) (by simp) _).drew
    refine ⟨_,rfl,Nat.le_refl _,?_,(((hb2.setCell (by simp) _).setCell (by simp) _).setCell (by simp) _).setCell (by simp) _⟩
    refine (rowIn.set (rowIn.set (rowIn.set (rowIn.set hr 0 _) 1 _) 2 _) 3 _).congr (fun i hi=>?_)
    match i,hi with
    | 0,_=>simp [leafCell]
    | 1,_=>simp [leafCell]
    | 2,_=>simp [leafCell]
    | 3,_=>simp [leafCell]
 case rest=>
  obtain ⟨bo,rfl,hbo,hrow,hbel⟩:=hcut
  clear HC1 HC2
  have HR:Hid (rowIn wc bo 213 4 (leafCell none)):=hrow
  have HB:Hid (Below (w.heap.size+1) (w.alloc (.cells #[.bool true,.slice none 0 0,.slice none 0 0] 125)) wc):=hbel
  have c0:wc.cell? ⟨w.heap.size,0,none⟩=some (.bool true):=by rw [hbel.cell (by simp)];simp
  have c1:wc.cell? ⟨w.heap.size,1,none⟩=some (.slice none 0 0):=by rw [hbel.cell (by simp)];simp
  obtain ⟨d0,d1,d2,d3,df,dl⟩:=leafCells hrow
  have hz:w.heap.size+1<=wc.heap.size:=by have:=hbel.size;simpa using this
  have hz0:w.heap.size<wc.heap.size:=by omega
  clear hrow hbel
  go_wp2_with (at_builtin;refine wpList_append_none rfl _ _ rfl _ 0 0 (Nat.le_refl _) rfl none 0 rfl ?_)
  go_wp2
  go_ret
  have hl:=leafNew ((wc.setCell ⟨bo,1,none⟩ (.slice (some ⟨wc.heap.size,0,none⟩) 0 0)).alloc (.cells #[] 9)) (some ⟨wc.heap.size,0,none⟩)
  rw [show ((wc.setCell ⟨bo,1,none⟩ (.slice (some ⟨wc.heap.size,0,none⟩) 0 0)).alloc (.cells #[] 9)).heap.size=wc.heap.size+1 by simp] at hl
  refine ⟨⟨_,rfl,_,_,_,rfl,by omega,hl⟩,?_⟩
  have q:Below w.heap.size w wc:=(below_alloc _ _).trans (HB.out.mono (by omega))
  exact (((q.setCell (by simp;omega) _).alloc (by simp;omega) _).alloc (by simp;omega) _)

theorem infoTN:(Tryz.prog.info? 213).map (fun i=>(i.zero,i.size,i.bytes))=some (some (.agg #[.bool false,.slice none 0 0,.slice none 0 0,.int .i64 0]),4,64):=by kernel_rfl
theorem underTN:Tryz.prog.underlying 67=some (.slice 213):=by kernel_rfl

theorem step_append_leaf {ops:Array Oper} {o:Oper} {a:Act} {w2:World} {K:Act->World->Prop} {Q:Exit->Act->World->Prop} {E:Prop} (hgd:o.guard=none) (x y:Operand)
  (ho:o.op=.call { callee:=.builtin .append,args:=#[x,y],argTypes:=#[67,67] }) (hx:a.eval x=.slice none 0 0) (p:Option Addr) (hy:a.eval y=.slice (some ⟨w2.heap.size,0,none⟩) 1 1)
  (h:∀v' w',OneS w' w2.heap.size v'->Below w2.heap.size w2 w'->K (a.put o.dst v') w') :
  if Region.wanted o (yielded ops a.tmps)=true then Oper.wp Tryz.prog o a (w2.alloc (.cells #[.bool true,.slice p 0 0,.slice none 0 0,.int .i64 0] 213)) K Q else E:=by
 have hw:Region.wanted o (yielded ops a.tmps)=true:=by simp [Region.wanted,hgd]
 rw [if_pos hw]
 obtain ⟨i0,hi,hz0,hz1,hz2⟩:=info_parts infoTN
 refine wp_append_own _ x y 67 ho w2.heap.size 213 i0 _ 4 64 underTN hi hz0 hz1 hz2 rfl (by decide) (.slice none 0 0) 0 [] hx (World.ownsRow_nil _ _ _ _) ⟨w2.heap.size,0,none⟩ 1 1 [.bool true,.slice p 0 0,.slice none 0 0,.int .i64 0] hy rfl ?_ ?_ (by unfold maxLen;omega) (by omega) (by simp) (fun v' w' q1 q2 _=>?_)
 ·intro j u hj
  match j,hj with
  | 0,hj=>simp at hj;subst hj;simp [Addr.add]
  | 1,hj=>simp at hj;subst hj;simp [Addr.add]
  | 2,hj=>simp at hj;subst hj;simp [Addr.add]
  | 3,hj=>simp at hj;subst hj;simp [Addr.add]
  | j+4,hj=>simp at hj
 ·intro u hu
  simp at hu
  rcases hu with rfl|rfl|rfl|rfl <;> rfl
 ·refine h v' w' ?_ ((below_alloc _ _).grown q2 (by simp) (fun k e=>by simp [Value.ownBlock] at e))
  rcases q1.2 with ⟨_,h0⟩|⟨g,cap,cur,hv,hg,hh,h1,h2,h3,h4⟩
  ·omega
  ·refine ⟨g,p,cap,hv,hg,cur,hh,by omega,fun i hi=>?_⟩
   have e:cur[i]?=(cur.toList.take (1*4))[i]?:=by rw [List.getElem?_take,if_pos (by omega)];simp
   rw [Nat.zero_add] at h4
   rw [e,h4]
   match i,hi with
   | 0,_=>rfl
   | 1,_=>rfl
   | 2,_=>rfl
   | 3,_=>rfl

set_option maxHeartbeats 1000000 in
theorem tell_new (b:Nat) (w:World) (h0:w.cell? ⟨b,0,none⟩=some (.int .i64 0)) (h1:w.cell? ⟨b,1,none⟩=some (.slice none 0 0)) :
  Calls Tryz.prog 323 #[.pointer (some ⟨b,0,none⟩),.slice none 0 0] w fun e w'=>(∃v,e=.returned v/\OneS w' w.heap.size v)/\Below w.heap.size w w':=by
 have H0:Hid (w.drew.cell? ⟨b,0,none⟩=some (.int .i64 0)):=h0
 have HC:Hid (∀w3:World,Below w.drew.heap.size w.drew w3->w3.cell? ⟨b,0,none⟩=some (.int .i64 0)/\w3.cell? ⟨b,1,none⟩=some (.slice none 0 0)):=fun w3 hb=>
  ⟨(hb.cell (p:=⟨b,0,none⟩) (World.block_lt_of_cell? _ _ h0)).trans h0,(hb.cell (p:=⟨b,1,none⟩) (World.block_lt_of_cell? _ _ h1)).trans h1⟩
 go_enter Tryz.func323,Tryz.ntmps323
 go_wp2
 go_region_held3 (fun w'=>w'.cell? ⟨b,0,none⟩=some (.int .i64 0)/\w'.cell? ⟨b,1,none⟩=some (.slice none 0 0)) (go_keep)
  (first
  | (go_at_call 254;refine (copyStr_nil w.drew).mono ?_;rintro e w1 ⟨rfl,rfl⟩)
  | (go_at_call 256;refine (below_new b w.drew H0.out).mono ?_;rintro e w1 ⟨rfl,rfl⟩)
  | (refine step_append_leaf (w2:=w.drew) (by rfl) (.tmp 5) (.tmp 16) (by rfl) (by rfl) none (by rfl) ?_;intro v3 w3 h3 hb3;obtain ⟨y0,y1⟩:=HC.out w3 hb3))
 all_goals
  go_wp2
  go_ret
  exact ⟨⟨_,rfl,h3⟩,(Below.refl _ _).drew.trans hb3⟩

set_option maxHeartbeats 1000000 in
theorem tellTree_new (b:Nat) (w:World) (h0:w.cell? ⟨b,0,none⟩=some (.int .i64 0)) (h1:w.cell? ⟨b,1,none⟩=some (.slice none 0 0)) :
  Calls Tryz.prog 97 #[.iface 154 (.pointer (some ⟨b,0,none⟩))] w fun e w'=>(∃v,e=.returned (.agg #[v])/\OneS w' w.heap.size v)/\Below w.heap.size w w':=by
 have hb:=World.block_lt_of_cell? _ _ h0
 have H:Hid (∀o:Obj,(w.alloc o).cell? ⟨b,0,none⟩=some (.int .i64 0)/\(w.alloc o).cell? ⟨b,1,none⟩=some (.slice none 0 0)):=fun o=>⟨((below_alloc w o).cell (p:=⟨b,0,none⟩) hb).trans h0,((below_alloc w o).cell (p:=⟨b,1,none⟩) hb).trans h1⟩
 go_enter Tryz.func97,Tryz.ntmps97
 go_wp2_with fail
 refine (tell_new b _ (H.out _).1 (H.out _).2).mono ?_
 clear h0 h1 H
 rintro e w1 ⟨⟨v,rfl,h1⟩,hb1⟩
 obtain ⟨g,a,c,rfl,hg,hrow⟩:=h1
 rw [World.size_alloc] at hg hb1
 have r0:w1.cell? ⟨w.heap.size,0,none⟩=some (.slice none 0 0):=by rw [hb1.cell (by simp)];simp
 have rf:∀o,w1.frozen? ⟨w.heap.size,o,none⟩=false:=fun o=>by rw [hb1.frozen (by simp)];simp
 have hz:w.heap.size<w1.heap.size:=by have:=hb1.size;simp at this;omega
 have HX:Hid (rowIn w1 g 213 4 (leafCell a)/\Below w.heap.size w w1):=⟨hrow,(below_alloc _ _).trans (hb1.mono (by omega))⟩
 clear hrow hb1
 go_wp2
 refine bodyPost_ret (v:=.agg #[.slice (some ⟨g,0,none⟩) 1 c]) (by simp [results,Tryz.results97,go_sem,r0]) rfl ⟨⟨_,rfl,g,a,c,rfl,by omega,HX.out.1.setOther (by simp;omega) _⟩,HX.out.2.setCell (by simp) _⟩

set_option maxHeartbeats 1000000 in
theorem specTree_new (w:World) :
  Calls Tryz.prog 40 #[] w fun e w'=>(∃v,e=.returned (.agg #[v])/\OneS w' w.heap.size v)/\Below w.heap.size w w':=by
 go_enter Tryz.func40,Tryz.ntmps40
 go_wp2_with fail
 refine (l3Flat_new _).mono ?_
 rintro e w1 ⟨⟨v,rfl,h1⟩,hb1⟩
 obtain ⟨g,a,c,rfl,hg,hrow⟩:=h1
 rw [World.size_alloc] at hg hb1
 have r0:w1.cell? ⟨w.heap.size,0,none⟩=some (.slice none 0 0):=by rw [hb1.cell (by simp)];simp
 have rf:∀o,w1.frozen? ⟨w.heap.size,o,none⟩=false:=fun o=>by rw [hb1.frozen (by simp)];simp
 have hz:w.heap.size<w1.heap.size:=by have:=hb1.size;simp at this;omega
 have HX:Hid (rowIn w1 g 213 4 (leafCell a)/\Below w.heap.size w w1):=⟨hrow,(below_alloc _ _).trans (hb1.mono (by omega))⟩
 clear hrow hb1
 go_wp2
 refine bodyPost_ret (v:=.agg #[.slice (some ⟨g,0,none⟩) 1 c]) (by simp [results,Tryz.results40,go_sem,r0]) rfl ⟨⟨_,rfl,g,a,c,rfl,by omega,HX.out.1.setOther (by simp;omega) _⟩,HX.out.2.setCell (by simp) _⟩

set_option maxHeartbeats 1000000 in
theorem implTree_new (w:World) :
  Calls Tryz.prog 48 #[] w fun e w'=>(∃v,e=.returned (.agg #[v])/\OneS w' w.heap.size v)/\Below w.heap.size w w':=by
 go_enter Tryz.func48,Tryz.ntmps48
 go_wp2_with fail
 refine (tellTree_new (w.heap.size+1) _ ?_ ?_).mono ?_
 ·simp
 ·simp
 rintro e w1 ⟨⟨v,rfl,h1⟩,hb1⟩
 obtain ⟨g,a,c,rfl,hg,hrow⟩:=h1
 simp only [World.size_alloc] at hg hb1
 have r0:w1.cell? ⟨w.heap.size,0,none⟩=some (.slice none 0 0):=by rw [hb1.cell (by simp <;> omega)];simp
 have rf:∀o,w1.frozen? ⟨w.heap.size,o,none⟩=false:=fun o=>by rw [hb1.frozen (by simp <;> omega)];simp
 have hz:w.heap.size<w1.heap.size:=by have:=hb1.size;simp at this;omega
 have HX:Hid (rowIn w1 g 213 4 (leafCell a)/\Below w.heap.size w w1):=⟨hrow,((below_alloc _ _).trans ((below_alloc _ _).mono (by simp))).trans (hb1.mono (by omega))⟩
 clear hrow hb1
 go_wp2
 refine bodyPost_ret (v:=.agg #[.slice (some ⟨g,0,none⟩) 1 c]) (by simp [results,Tryz.results48,go_sem,r0]) rfl ⟨⟨_,rfl,g,a,c,rfl,by omega,HX.out.1.setOther (by simp;omega) _⟩,HX.out.2.setCell (by simp) _⟩


structure OnlyP (gC m:Nat) (L:Nat->Nat) (A:Nat->Option Addr) (w w' : World):Prop where
 os:w'.os=w.os
 tape:w'.tape=w.tape
 output:w'.output=w.output
 size:w'.heap.size=w.heap.size
 block:∀g,g≠gC->(∀i,i<m->L i≠0->A i≠some ⟨g,0,none⟩)->w'.heap[g]?=w.heap[g]?

theorem OnlyP.refl (gC m:Nat) (L:Nat->Nat) (A:Nat->Option Addr) (w:World):OnlyP gC m L A w w:=⟨rfl,rfl,rfl,rfl,fun _ _ _=>rfl⟩

theorem OnlyP.below {B gC m:Nat} {L:Nat->Nat} {A:Nat->Option Addr} {w w' : World} (h:OnlyP gC m L A w w') (hC:B<=gC) (hA:∀i,i<m->L i≠0->∀x,A i=some x->B<=x.block):Below B w w':=
 ⟨h.os,h.tape,h.output,by rw [h.size];exact Nat.le_refl _,fun k hk=>h.block k (by omega) (fun i hi hl e=>by have:=hA i hi hl _ e;simp at this;omega)⟩

theorem OwnPA.setSec {w:World} {B gC m:Nat} {S:Nat->Int} {L:Nat->Nat} {F:Nat->Nat->Int} {A:Nat->Option Addr} {C:Nat->Nat} (h:OwnPA w B gC m S L F A C) (k:Nat) (v:Int) :
  OwnPA (w.setCell ⟨gC,k*2,none⟩ (.int .i64 v)) B gC m (fun i=>if i=k then v else S i) L F A C:=by
 refine ⟨h.le,(h.row.set (k*2) _).congr (fun c _=>?_),fun i hi=>?_,h.apart⟩
 ·by_cases e:c=k*2
  ·subst e;simp [pendCell_even]
  ·rw [if_neg e]
   unfold pendCell
   by_cases e2:c % 2=0
   ·have:¬ c / 2=k:=by omega
    simp [e2,this]
   ·rw [if_neg e2,if_neg e2]
 ·rcases h.each i hi with h0|⟨g,hA,hg,hr⟩
  ·exact Or.inl h0
  ·have hne:g≠gC:=hr.ne h.row (by decide)
   exact Or.inr ⟨g,hA,hg,hr.of_block (Below.heap_setCell _ _ _ _ hne)⟩

theorem OwnPA.setBytes {w w2:World} {B gC m:Nat} {S:Nat->Int} {L:Nat->Nat} {F:Nat->Nat->Int} {A:Nat->Option Addr} {C:Nat->Nat} (h:OwnPA w B gC m S L F A C) (k:Nat) (hk:k<m) (f' : Nat->Int)
  (hb:OwnB w2 B (A k) (L k) f') (ho:OnlyAt (A k) w w2) (hz:L k=0->w2=w) :
  OwnPA w2 B gC m S L (fun i=>if i=k then f' else F i) A C:=by
 by_cases hl:L k=0
 ·have e:=hz hl
  subst e
  refine ⟨h.le,h.row,fun i hi=>?_,h.apart⟩
  by_cases e:i=k
  ·subst e;exact Or.inl hl
  ·simp only [if_neg e];exact h.each i hi
 ·have hbk:=h.each k hk
  rcases hbk with h0|⟨g,hA,hg,hr⟩
  ·exact absurd h0 hl
  ·have hne:g≠gC:=hr.ne h.row (by decide)
   refine ⟨h.le,h.row.of_block (ho.block gC (fun x e=>by rw [hA] at e;injection e with e;subst e;exact hne)),fun i hi=>?_,h.apart⟩
   by_cases e:i=k
   ·subst e;simp only [if_true];exact hb
   ·simp only [if_neg e]
    refine (h.each i hi).only ho (fun hn x y hx hy=>?_)
    intro hxy
    rcases h.each i hi with h0|⟨g',hA',_,_⟩
    ·exact hn h0
    ·rw [hA] at hy;injection hy with hy;subst hy
     rw [hA'] at hx;injection hx with hx;subst hx
     simp at hxy
     subst hxy
     exact h.apart i k hi hk e hn hl (by rw [hA,hA'])

theorem OnlyP.setSec {gC m:Nat} {L:Nat->Nat} {A:Nat->Option Addr} {w w' : World} (h:OnlyP gC m L A w w') (k:Nat) (v:Value):OnlyP gC m L A w (w'.setCell ⟨gC,k,none⟩ v):=
 ⟨h.os,h.tape,h.output,by rw [<- h.size];simp [World.setCell],fun g hg hA=>by rw [<- h.block g hg hA];exact Below.heap_setCell _ _ _ _ hg⟩

theorem OnlyP.setBytes {gC m:Nat} {L:Nat->Nat} {A:Nat->Option Addr} {w w' w2:World} (h:OnlyP gC m L A w w') (k:Nat) (hk:k<m) (hz:L k=0->w2=w') (ho:OnlyAt (A k) w' w2) (hA0:L k≠0->∃g,A k=some ⟨g,0,none⟩):OnlyP gC m L A w w2:=by
 by_cases hl:L k=0
 ·rw [hz hl];exact h
 ·refine ⟨ho.os.trans h.os,ho.tape.trans h.tape,ho.output.trans h.output,ho.size.trans h.size,fun g hg hA=>?_⟩
  rw [<- h.block g hg hA]
  refine ho.block g (fun x hx e=>?_)
  obtain ⟨g',hg'⟩:=hA0 hl
  rw [hg'] at hx
  injection hx with hx
  subst hx
  simp at e
  subst e
  exact hA k hk hl hg'

set_option maxHeartbeats 2000000 in
theorem markPendS_row (gC m cap B:Nat) (S:Nat->Int) (L:Nat->Nat) (F:Nat->Nat->Int) (A:Nat->Option Addr) (C:Nat->Nat) (w:World) (k0:Int) (h:OwnPA w B gC m S L F A C) (hm:m<=1048576) (hL:∀i,i<m->L i<=1048576) (h0:0<=k0) (h1:k0<=1099511627776) :
  Calls Tryz.prog 123 #[.slice (some ⟨gC,0,none⟩) m cap,.int .i64 k0] w fun e w'=>e=.returned (.int .i64 (koff L k0 m))/\
   OwnPA w' B gC m (fun i=>koff L k0 i) L (fun i j=>IntKind.u8.wrap (koff L k0 i+1+j)) A C/\OnlyP gC m L A w w':=by
 go_enter Tryz.func123,Tryz.ntmps123
 go_wp2
 go_loopw [1,5] (fun q i wr=>∃k:Nat,k<=m/\i=.int .i64 k/\q=.int .i64 (koff L k0 k)/\OwnPA wr B gC m (fun i=>if i<k then koff L k0 i else S i) L (fun i j=>if i<k then IntKind.u8.wrap (koff L k0 i+1+j) else F i j) A C/\OnlyP gC m L A w wr) (fun _ i _=>m-(intOf i).toNat)
 case atStart=>exact ⟨0,Nat.zero_le _,rfl,rfl,by simpa using h,OnlyP.refl _ _ _ _ _⟩
 case round=>
  obtain ⟨k,hk,rfl,rfl,hown,honly⟩:=hrel
  clear h
  have hk1:=koff_ge L k0 k
  have hk2:=koff_le L k0 m 1048576 hL k hk
  by_cases hlt:k<m
  ·have hq1:0<=koff L k0 k:=by omega
   have hq2:koff L k0 k<=2305843009213693952:=by
    have:(k:Int)*(1+((1048576:Nat):Int))<=1048576*(1+((1048576:Nat):Int)):=Int.mul_le_mul_of_nonneg_right (by omega) (by omega)
    omega
   have hc1:=hown.row.cell (i:=k*2) (by omega)
   have hc2:=hown.row.cell (i:=k*2+1) (by omega)
   rw [pendCell_even] at hc1
   rw [pendCell_odd] at hc2
   simp only [Nat.lt_irrefl,if_false] at hc1
   have hf1:=hown.row.frozen (k*2)
   have HS:Hid (koff L k0 (k+1)=koff L k0 k+1+L k):=rfl
   have HO:Hid (OwnPA (wr.setCell ⟨gC,k*2,none⟩ (.int .i64 (koff L k0 k))) B gC m (fun i=>if i=k then koff L k0 k else if i<k then koff L k0 i else S i) L (fun i j=>if i<k then IntKind.u8.wrap (koff L k0 i+1+j) else F i j) A C):=hown.setSec k (koff L k0 k)
   have HP:=honly.setSec (k*2) (.int .i64 (koff L k0 k))
   have HL:=hL k hlt
   clear hown honly hk1 hk2
   go_wp2_with fail
   refine (markByteS_own (A k) (L k) (C k) B _ _ (koff L k0 k+1) (HO.out.each k hlt) (by omega) (by omega) (by omega)).mono ?_
   rintro e w2 ⟨rfl,hb2,ho2,hz2⟩
   have HX:Hid (OwnPA w2 B gC m (fun i=>if i<k+1 then koff L k0 i else S i) L (fun i j=>if i<k+1 then IntKind.u8.wrap (koff L k0 i+1+j) else F i j) A C/\OnlyP gC m L A w w2):=by
    have q1:=HO.out.setBytes k hlt _ hb2 ho2 hz2
    refine ⟨⟨q1.le,q1.row.congr (fun c hc=>?_),fun i hi=>?_,q1.apart⟩,HP.setBytes k hlt hz2 ho2 (fun hl=>?_)⟩
    ·unfold pendCell
     by_cases e2:c % 2=0
     ·by_cases e3:c / 2=k
      ·subst e3;simp [e2]
      ·by_cases e4:c / 2<k
       ·have:c / 2<k+1:=by omega
        simp [e2,e3,e4,this]
       ·have:¬ c / 2<k+1:=by omega
        simp [e2,e3,e4,this]
     ·rw [if_neg e2,if_neg e2]
    ·refine (q1.each i hi).congr (fun j _=>?_)
     by_cases e3:i=k
     ·subst e3;simp
     ·by_cases e4:i<k
      ·have:i<k+1:=by omega
       simp [e3,e4,this]
      ·have:¬ i<k+1:=by omega
       simp [e3,e4,this]
    ·rcases HO.out.each k hlt with h0|⟨g,hA,_,_⟩
     ·exact absurd h0 hl
     ·exact ⟨g,hA⟩
   clear hb2 ho2 hz2 HO HP hc1 hc2 hf1
   go_wp2
   go_roundw
   case rel=>exact ⟨k+1,by omega,by go_num,by rw [HS.out],HX.out⟩
   case measure=>simp [intOf];omega
  ·have e:k=m:=by omega
   subst e
   go_wp2
   go_ret
   refine ⟨rfl,?_,honly⟩
   refine ⟨hown.le,hown.row.congr (fun c hc=>?_),fun i hi=>?_,hown.apart⟩
   ·unfold pendCell
    by_cases e2:c % 2=0
    ·have:c / 2<k:=by omega
     simp [e2,this]
    ·rw [if_neg e2,if_neg e2]
   ·have:=hown.each i hi
    simpa [hi] using this


set_option maxHeartbeats 1000000 in
theorem eqPend_yes (s:Int) (a b:Option Addr) (len ca cb:Nat) (f:Nat->Int) (w:World) (ha:Rd .u8 w a len f) (hb:Rd .u8 w b len f) (hm:len<=1099511627776) :
  Calls Tryz.prog 178 #[.agg #[.int .i64 s,.slice a len ca],.agg #[.int .i64 s,.slice b len cb]] w fun e w'=>e=.returned (.bool true)/\Below w.heap.size w w':=by
 have hss:(s != s)=false:=by simp
 go_enter Tryz.func178,Tryz.ntmps178
 go_wp2_with fail
 have hbel:∀o1 o2,Below w.heap.size w ((w.alloc o1).alloc o2):=fun o1 o2=>((Below.refl _ _).alloc (Nat.le_refl _) o1).alloc (by simp) o2
 refine (eqByteS_yes a b len ca cb f _ (ha.below (hbel _ _)) (hb.below (hbel _ _)) hm).mono ?_
 rintro e w' ⟨rfl,n,rfl⟩
 go_wp2
 go_ret
 exact ⟨rfl,below_drewN (hbel _ _) n⟩

set_option maxHeartbeats 2000000 in
theorem eqPendS_yes (a b:Option Addr) (m ca cb:Nat) (S:Nat->Int) (L:Nat->Nat) (F:Nat->Nat->Int) (w:World) (ha:RdP w a m S L F) (hb:RdP w b m S L F) (hm:m<=1048576) (hL:∀i,i<m->L i<=1048576) :
  Calls Tryz.prog 119 #[.slice a m ca,.slice b m cb] w fun e w'=>e=.returned (.bool true)/\Below w.heap.size w w':=by
 have hll:((m:Int) != (m:Int))=false:=by simp
 go_enter Tryz.func119,Tryz.ntmps119
 go_wp2
 go_loopw [5] (fun i wr=>∃k:Nat,k<=m/\i=.int .i64 k/\Below w.heap.size w wr) (fun i _=>m-(intOf i).toNat)
 case atStart=>exact ⟨0,Nat.zero_le _,rfl,Below.refl _ _⟩
 case round=>
  obtain ⟨k,hk,rfl,hbel⟩:=hrel
  by_cases hlt:k<m
  ·have hne:¬ m=0:=by omega
   have ha':=ha.below hbel
   have hb':=hb.below hbel
   rcases ha' with h|⟨ba,oa,rfl,hca⟩
   ·exact absurd h hne
   rcases hb' with h|⟨bb,ob,rfl,hcb⟩
   ·exact absurd h hne
   obtain ⟨h1,ad1,cp1,h2,h3⟩:=hca k hlt
   obtain ⟨g1,ad2,cp2,g2,g3⟩:=hcb k hlt
   have HL:=hL k hlt
   clear hca hcb ha hb hL
   have hsz:=hbel.size
   have HB:Hid (Below w.heap.size w wr):=hbel
   clear hbel
   go_wp2
   go_region_with (go_at_call 178;refine (eqPend_yes (S k) ad1 ad2 (L k) cp1 cp2 (F k) _ (by exact h3) (by exact g3) (by omega)).mono ?_;rintro e w2 ⟨rfl,hb2⟩)
   all_goals
    have HX:Hid (Below w.heap.size w w2):=(HB.out.drew).trans (hb2.mono (by simpa using hsz))
    clear hb2 h1 h2 h3 g1 g2 g3
    go_wp2
    go_roundw
    case rel=>exact ⟨k+1,by omega,by go_num,HX.out⟩
    case measure=>simp [intOf];omega
  ·have e:k=m:=by omega
   subst e
   go_wp2
   go_ret
   exact ⟨rfl,hbel⟩

def byteRow (f:Nat->Int) (n:Nat):List Value:=(List.range n).map fun i=>.int .u8 (f i)

theorem byteRow_length (f:Nat->Int) (n:Nat):(byteRow f n).length=n:=by simp [byteRow]
theorem byteRow_get (f:Nat->Int) (n i:Nat) (h:i<n):(byteRow f n)[i]?=some (.int .u8 (f i)):=by simp [byteRow,h]

theorem wpList_append_rd {w:World} {ops:Array Oper} {rest:List Oper} {o:Oper} {act:Act} {Q:Exit->Act->World->Prop} (hgd:o.guard=none) (s x:Operand)
  (ho:o.op=.call { callee:=.builtin .append,args:=#[s,x],argTypes:=#[22,22] })
  (B:Nat) (v:Value) (n:Nat) (xs:List Value) (hs:act.eval s=v) (hown:w.ownsRow B 5 1 v n xs)
  (a:Option Addr) (m c:Nat) (f:Nat->Int) (hx:act.eval x=.slice a m c) (hrd:Rd .u8 w a m f) (hnm:n+m<=1099511627776) (hB:B<=w.heap.size)
  (h:∀v' w',w'.ownsRow B 5 1 v' (n+m) (xs++byteRow f m)->w.grownBy w' v.ownBlock->wpList Tryz.prog ops Q rest (act.put o.dst v') w'):wpList Tryz.prog ops Q (o::rest) act w:=by
 obtain ⟨i0,hi,hz0,hz1,hz2⟩:=info_parts Tryz.info5
 by_cases hm:m=0
 ·subst hm
  have hsrc:Src Tryz.prog i0.size 22 (.slice a 0 c) 0 [] w:=by
   cases a with
   | none=>exact Src.ofNil w Tryz.underlying22 c
   | some ad=>exact Src.ofSlice w Tryz.underlying22 ad 0 c [] (by simp) (by simp) (by simp)
  have hsh:∃b l cap,v=.slice b l cap/\l<=cap:=by
   rcases hown.2 with ⟨rfl,rfl⟩|⟨g,cap,cur,rfl,_,_,h1,_⟩
   ·exact ⟨none,0,0,rfl,Nat.le_refl _⟩
   ·exact ⟨_,n,cap,rfl,h1⟩
  obtain ⟨b,l,cap,hvv,hlc⟩:=hsh
  have hrun:=run_append_nothing (P:=Tryz.prog) w 22 22 o.type 5 i0 Tryz.underlying22 hi b l cap hlc (.slice a 0 c) hsrc
  rw [<- hvv] at hrun
  refine wpList_plain hgd fun K hK=>?_
  unfold Oper.wp
  simp [execOp,ho,resolve,invoke,builtin,hs,hx,hrun,Result.andThen]
  exact hK _ _ (h v w (by simpa [byteRow] using hown) ⟨rfl,rfl,rfl,Nat.le_refl _,fun _ _ _=>rfl⟩)
 ·rcases hrd with h0|⟨b,off,rfl,hc⟩
  ·exact absurd h0 hm
  ·refine wpList_append_own w hgd s x 22 ho B 5 i0 (.int .u8 0) 1 1 Tryz.underlying22 hi hz0 hz1 hz2 rfl (by decide) v n xs hs hown ⟨b,off,none⟩ m c (byteRow f m) hx (by simp [byteRow]) (fun j u hj=>?_) (fun u hu=>?_) (by unfold maxLen;omega) (by omega) hB (fun v' w' h1 h2 _=>h v' w' h1 h2)
   ·have hjm:j<m:=by
     have:=(List.getElem?_eq_some_iff.1 hj).1
     rwa [byteRow_length] at this
    rw [byteRow_get f m j hjm] at hj
    injection hj with hj
    subst hj
    have e:(Addr.add ⟨b,off,none⟩ j)=⟨b,off+j,none⟩:=by
     unfold Addr.add
     by_cases h:j=0
     ·subst h;simp
     ·simp [h]
    rw [e]
    exact hc j hjm
   ·simp only [byteRow,List.mem_map] at hu
    obtain ⟨i,_,rfl⟩:=hu
    rfl

theorem ownB_ofRow {w:World} {B:Nat} {v:Value} {n:Nat} {f:Nat->Int} (h:w.ownsRow B 5 1 v n (byteRow f n)):∃a c,v=.slice a n c/\OwnB w B a n f/\n<=c/\c<=9223372036854775807:=by
 obtain ⟨_,h⟩:=h
 rcases h with ⟨rfl,rfl⟩|⟨g,cap,cur,rfl,hg,hh,h1,h2,h3,h4⟩
 ·exact ⟨none,0,rfl,Or.inl rfl,Nat.le_refl _,by omega⟩
 ·unfold maxLen at h2
  refine ⟨_,cap,rfl,Or.inr ⟨g,rfl,hg,cur,hh,by omega,fun i hi=>?_⟩,h1,h2⟩
  rw [<- byteRow_get f n i hi,<- h4]
  have:i<n*1:=by omega
  rw [List.getElem?_take,if_pos this]
  simp

set_option maxHeartbeats 400000 in
theorem copyBytes_any (a:Option Addr) (n c:Nat) (f:Nat->Int) (w:World) (h:Rd .u8 w a n f) (hn:n<=1048576) :
  Calls Tryz.prog 99 #[.slice a n c] w fun e w'=>RetOwn w e w' n f:=by
 have HR:Hid (Rd .u8 w a n f):=h
 clear h
 go_enter Tryz.func99,Tryz.ntmps99
 go_wp2_with (at_builtin;refine wpList_append_rd rfl _ _ rfl w.heap.size (.slice none 0 0) 0 [] rfl (World.ownsRow_nil _ _ _ _) a n c f rfl HR.out (by omega) (Nat.le_refl _) ?_)
 intro v' w' ho hg
 have HB:Hid (Below w.heap.size w w'):=(Below.refl _ _).grown hg (Nat.le_refl _) (fun k e=>by simp [Value.ownBlock] at e)
 obtain ⟨a',c',rfl,h1,h2,h3⟩:=ownB_ofRow ho
 have H1:Hid (OwnB w' w.heap.size a' n f):=h1
 clear ho hg h1
 go_wp2
 go_ret
 exact ⟨a',c',rfl,H1.out,HB.out,h2,h3⟩

theorem Tryz.info119 : (Tryz.prog.info? 119).map (fun i=>(i.zero,i.size,i.bytes))=some (some (.agg #[.int .i64 0,.slice none 0 0]),2,32):=by kernel_rfl

theorem OwnPA.put {w w2:World} {B gC m:Nat} {S:Nat->Int} {L:Nat->Nat} {F:Nat->Nat->Int} {A:Nat->Option Addr} {C:Nat->Nat} (h:OwnPA w B gC m S L F A C) (hB:B<=w.heap.size) (hb:Below w.heap.size w w2) (k:Nat) (s:Int) (g n c:Nat) (f:Nat->Int)
  (hg:w.heap.size<=g) (hr:rowIn w2 g 5 n (fun i=>.int .u8 (f i))) :
  OwnPA ((w2.setCell ⟨gC,k*2,none⟩ (.int .i64 s)).setCell ⟨gC,k*2+1,none⟩ (.slice (some ⟨g,0,none⟩) n c)) B gC m (fun i=>if i=k then s else S i) (fun i=>if i=k then n else L i) (fun i=>if i=k then f else F i)
   (fun i=>if i=k then some ⟨g,0,none⟩ else A i) (fun i=>if i=k then c else C i):=by
 have hrow2:rowIn w2 gC 119 (m*2) (pendCell S A L C):=h.row.of_block (hb.block gC h.row.lt)
 have hne:g≠gC:=hr.ne hrow2 (by decide)
 refine ⟨h.le,((hrow2.set (k*2) _).set (k*2+1) _).congr (fun x hx=>?_),fun i hi=>?_,fun i j hi hj hij hl1 hl2=>?_⟩
 ·unfold pendCell
  by_cases e1:x=k*2+1
  ·subst e1
   have q1:¬ (k*2+1) % 2=0:=by omega
   have q2:(k*2+1) / 2=k:=by omega
   simp only [if_true,q1,q2,if_false]
  ·by_cases e2:x=k*2
   ·subst e2
    have q1:(k*2) % 2=0:=by omega
    have q2:(k*2) / 2=k:=by omega
    simp [q1,q2]
   ·have q:¬ x / 2=k:=by omega
    simp only [if_neg e1,if_neg e2,q,if_false]
 ·by_cases e:i=k
  ·subst e
   simp only [if_true]
   exact Or.inr ⟨g,rfl,by omega,(hr.setOther (by simpa using hne) _).setOther (by simpa using hne) _⟩
  ·simp only [if_neg e]
   rcases (h.each i hi).below hb with h0|⟨g',hA,hg',hr'⟩
   ·exact Or.inl h0
   ·have hne' : g'≠gC:=hr'.ne hrow2 (by decide)
    exact Or.inr ⟨g',hA,hg',(hr'.setOther (by simpa using hne') _).setOther (by simpa using hne') _⟩
 ·have key:∀j,j<m->L j≠0->A j≠some ⟨g,0,none⟩:=by
   intro j hj hl e
   rcases h.each j hj with h0|⟨g',hA,hg',hr'⟩
   ·exact hl h0
   ·rw [hA] at e
    injection e with e
    injection e with e
    have:=hr'.lt
    omega
  by_cases e1:i=k
  ·by_cases e2:j=k
   ·omega
   ·simp only [if_pos e1,if_neg e2] at hl2 ⊢
    exact fun e=>key j hj hl2 e.symm
  ·by_cases e2:j=k
   ·simp only [if_neg e1,if_pos e2] at hl1 ⊢
    exact key i hi hl1
   ·simp only [if_neg e1,if_neg e2] at hl1 hl2 ⊢
    exact h.apart i j hi hj hij hl1 hl2


def RdBl (w:World) (a:Option Addr) (n:Nat) (f:Nat->Bool):Prop:=
 n=0\/∃b o,a=some ⟨b,o,none⟩/\∀i,i<n->w.cell? ⟨b,o+i,none⟩=some (.bool (f i))

theorem RdBl.below {w w' : World} {a:Option Addr} {n:Nat} {f:Nat->Bool} (h:RdBl w a n f) (hb:Below w.heap.size w w'):RdBl w' a n f:=by
 rcases h with h|⟨b,o,rfl,hc⟩
 ·exact Or.inl h
 ·refine Or.inr ⟨b,o,rfl,fun i hi=>?_⟩
  have hlt:=World.block_lt_of_cell? _ _ (hc i hi)
  rw [hb.cell (p:=⟨b,o+i,none⟩) hlt]
  exact hc i hi

end Go.Proofs.YtbmffmifemebmaaGreatDoor
namespace Go.Proofs.YtbmffmifemebmaaGreatDoor
open Go.ChangeShapes Go.WideShapes Go.ChangeAt Go.RowKit Go.Deep Go.Joins

section
variable {H:Type} {enc:TypeId × Value->H} {W:World}

def IsDisk (w:World) (v:Value):Prop:=
 ∃a n c d p m q S L F fuel dead,v=.agg #[.slice a n c,.slice p m q,.int .i64 fuel,.bool dead]/\Rd .u8 w a n d/\(∀i,i<n->0<=d i/\d i<256)/\n<=maxLen/\
  RdP w p m S L F/\(∀i,i<m->(∀j,j<L i->0<=F i j/\F i j<256)/\(Lit.int .i64 (S i)).wf=true/\L i<=maxLen)/\m<=maxLen/\(Lit.int .i64 fuel).wf=true

end
end Go.Proofs.YtbmffmifemebmaaGreatDoor
