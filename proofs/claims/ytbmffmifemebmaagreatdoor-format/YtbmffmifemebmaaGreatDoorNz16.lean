import Derived.Test.YtbmffmifemebmaaGreatDoorNz7
import Derived.Test.YtbmffmifemebmaaGreatDoorNz13
set_option linter.unusedVariables false
set_option maxRecDepth 100000
namespace Go.Proofs.YtbmffmifemebmaaGreatDoor
open Go.RowKit Go.Deep

theorem l3Keys_e (a:Option Addr) (w:World) :
  Calls Tryz.prog 82 #[.agg #[.bool true,.slice a 0 0,.slice none 0 0]] w fun e w'=>(∃a',e=.returned (.slice a' 0 0))/\Below w.heap.size w w':=by
 go_enter Tryz.func82,Tryz.ntmps82
 go_wp2_with (at_builtin;refine wpList_append_none rfl _ _ rfl _ 0 0 (Nat.le_refl _) rfl a 0 rfl ?_)
 go_wp2
 go_ret
 exact ⟨⟨_,rfl⟩,((below_alloc _ _).trans ((below_alloc _ _).mono (by simp)))⟩

theorem l3Size_e (a:Option Addr) (w:World) :
  Calls Tryz.prog 184 #[.agg #[.bool true,.slice a 0 0,.slice none 0 0]] w fun e w'=>e=.returned (.int .i64 0)/\Below w.heap.size w w':=by
 go_enter Tryz.func184,Tryz.ntmps184
 go_wp2
 go_ret
 exact ⟨rfl,below_alloc _ _⟩

set_option maxHeartbeats 1000000 in
theorem l3Depth_e (a:Option Addr) (w:World) :
  Calls Tryz.prog 132 #[.agg #[.bool true,.slice a 0 0,.slice none 0 0],.bool true] w fun e w'=>e=.returned (.int .i64 0)/\Below w.heap.size w w':=by
 go_enter Tryz.func132,Tryz.ntmps132
 go_wp2_with fail
 refine (l3Size_e a _).mono ?_
 rintro e w1 ⟨rfl,hb1⟩
 have H1:Hid (Bx w1 w.heap.size 125 #[.bool true,.slice a 0 0,.slice none 0 0]/\Below w.heap.size w w1):=⟨(Bx.new _ _ _).below hb1,(below_alloc _ _).trans (hb1.mono (by simp))⟩
 clear hb1
 have c0:=H1.out.1.cell 0
 have c1:=H1.out.1.cell 1
 have c2:=H1.out.1.cell 2
 simp at c0 c1 c2
 go_wp2_with fail
 refine (l3Size_e a _).mono ?_
 rintro e w2 ⟨rfl,hb2⟩
 have H2:Hid (Bx w2 w.heap.size 125 #[.bool true,.slice a 0 0,.slice none 0 0]/\Below w.heap.size w w2):=⟨H1.out.1.below hb2,H1.out.2.trans (hb2.mono H1.out.2.size)⟩
 clear hb2 H1 c0 c1 c2
 have c0:=H2.out.1.cell 0
 simp at c0
 go_wp2
 go_ret
 exact ⟨rfl,H2.out.2⟩

set_option maxHeartbeats 1000000 in
theorem l3Nest_e (g c:Nat) (a:Option Addr) (w:World) (h:rowIn w g 213 4 (leafCell a)) :
  Calls Tryz.prog 131 #[.slice (some ⟨g,0,none⟩) 1 c,.int .i64 0,.int .i64 0] w fun e w'=>e=.returned (.tuple #[.agg #[.bool true,.slice a 0 0,.slice none 0 0],.int .i64 1,.bool true])/\Below w.heap.size w w':=by
 obtain ⟨x0,x1,x2,x3,xf,xl⟩:=leafCells h
 clear h
 go_enter Tryz.func131,Tryz.ntmps131
 go_upto_region 7 with fail
 have S1:Hid (Bx (((w.alloc (.cells #[.bool false,.slice none 0 0,.slice none 0 0] 125)).alloc (.cells #[.bool true,.slice a 0 0,.slice none 0 0,.int .i64 0] 213)).alloc (.cells #[.bool true,.slice a 0 0,.slice none 0 0] 125)) w.heap.size 125 #[.bool false,.slice none 0 0,.slice none 0 0]/\Bx (((w.alloc (.cells #[.bool false,.slice none 0 0,.slice none 0 0] 125)).alloc (.cells #[.bool true,.slice a 0 0,.slice none 0 0,.int .i64 0] 213)).alloc (.cells #[.bool true,.slice a 0 0,.slice none 0 0] 125)) (w.heap.size+1) 213 #[.bool true,.slice a 0 0,.slice none 0 0,.int .i64 0]/\Bx (((w.alloc (.cells #[.bool false,.slice none 0 0,.slice none 0 0] 125)).alloc (.cells #[.bool true,.slice a 0 0,.slice none 0 0,.int .i64 0] 213)).alloc (.cells #[.bool true,.slice a 0 0,.slice none 0 0] 125)) (w.heap.size+1+1) 125 #[.bool true,.slice a 0 0,.slice none 0 0]/\Below w.heap.size w (((w.alloc (.cells #[.bool false,.slice none 0 0,.slice none 0 0] 125)).alloc (.cells #[.bool true,.slice a 0 0,.slice none 0 0,.int .i64 0] 213)).alloc (.cells #[.bool true,.slice a 0 0,.slice none 0 0] 125))):=by
  have b1:=Bx.new (w.alloc (.cells #[.bool false,.slice none 0 0,.slice none 0 0] 125)) #[.bool true,.slice a 0 0,.slice none 0 0,.int .i64 0] 213
  have b2:=Bx.new ((w.alloc (.cells #[.bool false,.slice none 0 0,.slice none 0 0] 125)).alloc (.cells #[.bool true,.slice a 0 0,.slice none 0 0,.int .i64 0] 213)) #[.bool true,.slice a 0 0,.slice none 0 0] 125
  simp only [World.size_alloc] at b1 b2
  exact ⟨((Bx.new _ _ _).alloc _).alloc _,b1.alloc _,b2,((below_alloc _ _).alloc (by simp) _).alloc (by simp;omega) _⟩
 clear x0 x1 x2 x3 xf
 generalize (((w.alloc (.cells #[.bool false,.slice none 0 0,.slice none 0 0] 125)).alloc (.cells #[.bool true,.slice a 0 0,.slice none 0 0,.int .i64 0] 213)).alloc (.cells #[.bool true,.slice a 0 0,.slice none 0 0] 125))=W at S1 ⊢
 obtain ⟨rb,hrb⟩:∃x,x=w.heap.size:=⟨_,rfl⟩
 obtain ⟨nb,hnb⟩:∃x,x=w.heap.size+1:=⟨_,rfl⟩
 obtain ⟨ob,hob⟩:∃x,x=w.heap.size+1+1:=⟨_,rfl⟩
 have n1:¬ rb=nb:=by omega
 have n2:¬ rb=ob:=by omega
 have n3:¬ nb=rb:=by omega
 have n4:¬ ob=rb:=by omega
 rw [<- hob,<- hnb,<- hrb] at S1 ⊢
 have HB:Hid (Below w.heap.size w W/\w.heap.size=rb):=⟨by rw [hrb] at S1;exact S1.out.2.2.2,hrb.symm⟩
 clear hrb hnb hob
 have r0:=S1.out.1.cell 0
 have r1:=S1.out.1.cell 1
 have r2:=S1.out.1.cell 2
 have rf:=S1.out.1.frozen
 have rl:=S1.out.1.lt
 have k2:=S1.out.2.1.cell 2
 have o0:=S1.out.2.2.1.cell 0
 have o1:=S1.out.2.2.1.cell 1
 have o2:=S1.out.2.2.1.cell 2
 simp at r0 r1 r2 k2 o0 o1 o2
 go_region_held3 (fun w'=>w'.cell? ⟨nb,2,none⟩=some (.slice none 0 0)/\w'.cell? ⟨ob,0,none⟩=some (.bool true)/\w'.cell? ⟨ob,1,none⟩=some (.slice a 0 0)/\w'.cell? ⟨ob,2,none⟩=some (.slice none 0 0)) (go_keep) (fail)
 go_wp2
 refine bodyPost_ret (v:=.tuple #[.agg #[.bool true,.slice a 0 0,.slice none 0 0],.int .i64 1,.bool true]) (by simp [results,Tryz.results131,go_sem,r0,r1,r2];rfl) rfl ⟨rfl,?_⟩
 have hz:=HB.out.2
 exact (((HB.out.1.drew.setCell (by simp;omega) _).setCell (by simp;omega) _).setCell (by simp;omega) _)

set_option maxHeartbeats 2000000 in
theorem l3Same_e (g g' c c' : Nat) (a a' : Option Addr) (w:World) (h:rowIn w g 213 4 (leafCell a)) (h' : rowIn w g' 213 4 (leafCell a')) :
  Calls Tryz.prog 133 #[.slice (some ⟨g,0,none⟩) 1 c,.slice (some ⟨g',0,none⟩) 1 c'] w fun e w'=>(∃b,e=.returned (.bool b))/\Below w.heap.size w w':=by
 obtain ⟨x0,x1,x2,x3,xf,xl⟩:=leafCells h
 obtain ⟨y0,y1,y2,y3,yf,yl⟩:=leafCells h'
 clear h h'
 go_enter Tryz.func133,Tryz.ntmps133
 go_wp2
 refine wp_loop_rounds 2 ?_
 rw [rounds_succ]
 go_wp2
 go_quiet (fail)
 have c0:(w.drewN nq).cell? ⟨g,1,none⟩=some (.slice a 0 0):=x1
 have c1:(w.drewN nq).cell? ⟨g,2,none⟩=some (.slice none 0 0):=x2
 clear x0 x1 x2 x3 xf y0 y1 y2 y3 yf
 go_wp2
 refine wp_loop_rounds 1 ?_
 rw [rounds_succ]
 go_wp2
 refine wp_loop_rounds 1 ?_
 rw [rounds_succ]
 go_wp2
 rw [rounds_succ]
 go_wp2
 go_ret
 exact ⟨⟨_,rfl⟩,below_drewN (Below.refl _ _) _⟩
set_option maxHeartbeats 1000000 in
theorem l3Flat_e (ka:Option Addr) (w:World) :
  Calls Tryz.prog 84 #[.agg #[.bool true,.slice ka 0 0,.slice none 0 0],.int .i64 0] w fun e w'=>(∃v,e=.returned v/\OneS w' w.heap.size v)/\Below w.heap.size w w':=by
 have HC1:Hid (∀w1:World,Below (w.alloc (.cells #[.bool true,.slice ka 0 0,.slice none 0 0] 125)).drew.heap.size (w.alloc (.cells #[.bool true,.slice ka 0 0,.slice none 0 0] 125)).drew w1->w1.cell? ⟨w.heap.size,0,none⟩=some (.bool true)/\w1.cell? ⟨w.heap.size,1,none⟩=some (.slice ka 0 0)/\w1.cell? ⟨w.heap.size,2,none⟩=some (.slice none 0 0)):=by
  intro w1 hb
  refine ⟨?_,?_,?_⟩ <;> (rw [hb.cell (by simp)];simp)
 have HC2:Hid (∀w1:World,Below ((w.alloc (.cells #[.bool true,.slice ka 0 0,.slice none 0 0] 125)).alloc (.cells #[.bool false,.slice none 0 0,.slice none 0 0,.int .i64 0] 213)).drew.heap.size ((w.alloc (.cells #[.bool true,.slice ka 0 0,.slice none 0 0] 125)).alloc (.cells #[.bool false,.slice none 0 0,.slice none 0 0,.int .i64 0] 213)).drew w1->w1.cell? ⟨w.heap.size,0,none⟩=some (.bool true)/\w1.cell? ⟨w.heap.size,1,none⟩=some (.slice ka 0 0)/\w1.cell? ⟨w.heap.size,2,none⟩=some (.slice none 0 0)/\w1.cell? ⟨w.heap.size+1,0,none⟩=some (.bool false)/\w1.cell? ⟨w.heap.size+1,1,none⟩=some (.slice none 0 0)/\w1.cell? ⟨w.heap.size+1,2,none⟩=some (.slice none 0 0)/\w1.cell? ⟨w.heap.size+1,3,none⟩=some (.int .i64 0)/\(∀o,w1.frozen? ⟨w.heap.size+1,o,none⟩=false)/\w.heap.size+1<w1.heap.size):=by
  intro w1 hb
  have hs:=hb.size
  simp at hs
  refine ⟨?_,?_,?_,?_,?_,?_,?_,fun o=>?_,by omega⟩
  all_goals first
   | (rw [hb.cell (by simp <;> omega)];simp)
   | (rw [hb.cell (by simp)];simp)
   | (rw [hb.frozen (by simp)];simp)
 go_enter Tryz.func84,Tryz.ntmps84
 go_wp2
 go_cut [5] from 8 to 13 (fun s5 wx=>∃bo,s5=.pointer (some ⟨bo,0,none⟩)/\w.heap.size+1<=bo/\rowIn wx bo 213 4 (leafCell none)/\Below (w.heap.size+1) (w.alloc (.cells #[.bool true,.slice ka 0 0,.slice none 0 0] 125)) wx)
 case first=>
  go_region_held3 (fun w'=>w'.cell? ⟨w.heap.size,0,none⟩=some (.bool true)/\w'.cell? ⟨w.heap.size,1,none⟩=some (.slice ka 0 0)/\w'.cell? ⟨w.heap.size,2,none⟩=some (.slice none 0 0)) (go_keep)
   (first
   | (go_at_call 82;refine (l3Keys_e ka (w.alloc (.cells #[.bool true,.slice ka 0 0,.slice none 0 0] 125)).drew).mono ?_;rintro e w1 ⟨⟨a1,rfl⟩,hb1⟩;obtain ⟨k0,k1,k2⟩:=HC1.out w1 hb1)
   | (go_at_call 82;refine (l3Keys_e ka ((w.alloc (.cells #[.bool true,.slice ka 0 0,.slice none 0 0] 125)).alloc (.cells #[.bool false,.slice none 0 0,.slice none 0 0,.int .i64 0] 213)).drew).mono ?_;rintro e w1 ⟨⟨a1,rfl⟩,hb1⟩;obtain ⟨k0,k1,k2,r0,r1,r2,r3,rf,rl⟩:=HC2.out w1 hb1))
  ·go_wp2
   go_meet
   case rel=>exact ⟨_,rfl,by have:=hb1.size;simp at this;omega,leafNew _ _,((Below.refl _ _).drew.trans (hb1.mono (by simp))).alloc (by have:=hb1.size;simp at this;omega) _⟩
  ·go_wp2
   go_meet
   case rel=>
    have hr:rowIn w1 (w.heap.size+1) 213 4 (fun i=>if i=0 then .bool false else leafCell none i):=by
     refine rowIn.of_block (w:=(w.alloc (.cells #[.bool true,.slice ka 0 0,.slice none 0 0] 125)).alloc (.cells #[.bool false,.slice none 0 0,.slice none 0 0,.int .i64 0] 213)) ⟨#[.bool false,.slice none 0 0,.slice none 0 0,.int .i64 0],?_,by simp,fun i hi=>?_⟩ (hb1.block _ (by simp))
     ·have:=blk_alloc_new (w.alloc (.cells #[.bool true,.slice ka 0 0,.slice none 0 0] 125)) (.cells #[.bool false,.slice none 0 0,.slice none 0 0,.int .i64 0] 213)
      rw [show (w.alloc (.cells #[.bool true,.slice ka 0 0,.slice none 0 0] 125)).heap.size=w.heap.size+1 by simp] at this
      exact this
     ·match i,hi with
      | 0,_=>rfl
      | 1,_=>rfl
      | 2,_=>rfl
      | 3,_=>rfl
    have hb2:Below (w.heap.size+1) (w.alloc (.cells #[.bool true,.slice ka 0 0,.slice none 0 0] 125)) w1:=by
     refine Below.trans ?_ (hb1.mono (by simp))
     exact (Below.alloc (Below.refl _ _) (by simp) _).drew
    refine ⟨_,rfl,Nat.le_refl _,?_,(((hb2.setCell (by simp) _).setCell (by simp) _).setCell (by simp) _).setCell (by simp) _⟩
    refine (rowIn.set (rowIn.set (rowIn.set (rowIn.set hr 0 _) 1 _) 2 _) 3 _).congr (fun i hi=>?_)
    match i,hi with
    | 0,_=>simp [leafCell]
    | 1,_=>simp [leafCell]
    | 2,_=>simp [leafCell]
    | 3,_=>simp [leafCell]
 case rest=>
  obtain ⟨bo,rfl,hbo,hrow,hbel⟩:=hcut
  clear HC1 HC2
  have HR:Hid (rowIn wc bo 213 4 (leafCell none)):=hrow
  have HB:Hid (Below (w.heap.size+1) (w.alloc (.cells #[.bool true,.slice ka 0 0,.slice none 0 0] 125)) wc):=hbel
  have c0:wc.cell? ⟨w.heap.size,0,none⟩=some (.bool true):=by rw [hbel.cell (by simp)];simp
  have c1:wc.cell? ⟨w.heap.size,1,none⟩=some (.slice ka 0 0):=by rw [hbel.cell (by simp)];simp
  obtain ⟨d0,d1,d2,d3,df,dl⟩:=leafCells hrow
  have hz:w.heap.size+1<=wc.heap.size:=by have:=hbel.size;simpa using this
  have hz0:w.heap.size<wc.heap.size:=by omega
  clear hrow hbel
  go_wp2_with (at_builtin;refine wpList_append_none rfl _ _ rfl _ 0 0 (Nat.le_refl _) rfl ka 0 rfl ?_)
  go_wp2
  go_ret
  have hl:=leafNew ((wc.setCell ⟨bo,1,none⟩ (.slice (some ⟨wc.heap.size,0,none⟩) 0 0)).alloc (.cells #[] 9)) (some ⟨wc.heap.size,0,none⟩)
  rw [show ((wc.setCell ⟨bo,1,none⟩ (.slice (some ⟨wc.heap.size,0,none⟩) 0 0)).alloc (.cells #[] 9)).heap.size=wc.heap.size+1 by simp] at hl
  refine ⟨⟨_,rfl,_,_,_,rfl,by omega,hl⟩,?_⟩
  have q:Below w.heap.size w wc:=(below_alloc _ _).trans (HB.out.mono (by omega))
  exact (((q.setCell (by simp;omega) _).alloc (by simp;omega) _).alloc (by simp;omega) _)


set_option maxHeartbeats 2000000 in
theorem l3Of_e (g c:Nat) (a:Option Addr) (w:World) (h:rowIn w g 213 4 (leafCell a)) :
  Calls Tryz.prog 81 #[.agg #[.slice (some ⟨g,0,none⟩) 1 c]] w fun e w'=>(∃b,e=.returned (.tuple #[.agg #[.bool true,.slice a 0 0,.slice none 0 0],.bool b]))/\Below w.heap.size w w':=by
 have HR:Hid (rowIn w g 213 4 (leafCell a)):=h
 clear h
 go_enter Tryz.func81,Tryz.ntmps81
 go_wp2_with fail
 refine (l3Nest_e g c a _ (rowIn.below HR.out ((below_alloc _ _).alloc (by simp) _))).mono ?_
 rintro e w1 ⟨rfl,hb1⟩
 have H1:Hid (Bx w1 w.heap.size 69 #[.slice (some ⟨g,0,none⟩) 1 c]/\Bx w1 (w.heap.size+1) 125 #[.bool false,.slice none 0 0,.slice none 0 0]/\Below w.heap.size w w1):=by
  have b1:=Bx.new (w.alloc (.cells #[.slice (some ⟨g,0,none⟩) 1 c] 69)) #[.bool false,.slice none 0 0,.slice none 0 0] 125
  simp only [World.size_alloc] at b1
  exact ⟨((Bx.new _ _ _).alloc _).below hb1,b1.below hb1,((below_alloc _ _).alloc (by simp) _).trans (hb1.mono (by simp;omega))⟩
 clear hb1
 go_upto_region 4 with fail
 have S2:Hid (Bx (w1.alloc (.cells #[.bool true,.slice a 0 0,.slice none 0 0] 125)) w.heap.size 69 #[.slice (some ⟨g,0,none⟩) 1 c]/\Bx (w1.alloc (.cells #[.bool true,.slice a 0 0,.slice none 0 0] 125)) (w.heap.size+1) 125 #[.bool false,.slice none 0 0,.slice none 0 0]/\Bx (w1.alloc (.cells #[.bool true,.slice a 0 0,.slice none 0 0] 125)) w1.heap.size 125 #[.bool true,.slice a 0 0,.slice none 0 0]/\Below w.heap.size w (w1.alloc (.cells #[.bool true,.slice a 0 0,.slice none 0 0] 125))/\w.heap.size+1<w1.heap.size):=
  ⟨H1.out.1.alloc _,H1.out.2.1.alloc _,Bx.new _ _ _,H1.out.2.2.alloc H1.out.2.2.size _,H1.out.2.1.lt⟩
 clear H1
 generalize (w1.alloc (.cells #[.bool true,.slice a 0 0,.slice none 0 0] 125))=W2 at S2 ⊢
 generalize w1.heap.size=xb at S2 ⊢
 have t0:=S2.out.1.cell 0
 have x0:=S2.out.2.2.1.cell 0
 have x1:=S2.out.2.2.1.cell 1
 have x2:=S2.out.2.2.1.cell 2
 simp at t0 x0 x1 x2
 go_wp2_with fail
 refine (l3Depth_e a W2).mono ?_
 rintro e w3 ⟨rfl,hb3⟩
 have H3:Hid (Bx w3 w.heap.size 69 #[.slice (some ⟨g,0,none⟩) 1 c]/\Bx w3 (w.heap.size+1) 125 #[.bool false,.slice none 0 0,.slice none 0 0]/\Bx w3 xb 125 #[.bool true,.slice a 0 0,.slice none 0 0]/\Below w.heap.size w w3/\w.heap.size+1<xb):=⟨S2.out.1.below hb3,S2.out.2.1.below hb3,S2.out.2.2.1.below hb3,S2.out.2.2.2.1.trans (hb3.mono S2.out.2.2.2.1.size),S2.out.2.2.2.2⟩
 clear hb3 S2 t0 x0 x1 x2
 have x0:=H3.out.2.2.1.cell 0
 have x1:=H3.out.2.2.1.cell 1
 have x2:=H3.out.2.2.1.cell 2
 simp at x0 x1 x2
 go_wp2_with fail
 refine (l3Keys_e a w3).mono ?_
 rintro e w4 ⟨⟨a4,rfl⟩,hb4⟩
 have H4:Hid (Bx w4 w.heap.size 69 #[.slice (some ⟨g,0,none⟩) 1 c]/\Bx w4 (w.heap.size+1) 125 #[.bool false,.slice none 0 0,.slice none 0 0]/\Bx w4 xb 125 #[.bool true,.slice a 0 0,.slice none 0 0]/\Below w.heap.size w w4/\w.heap.size+1<xb):=⟨H3.out.1.below hb4,H3.out.2.1.below hb4,H3.out.2.2.1.below hb4,H3.out.2.2.2.1.trans (hb4.mono H3.out.2.2.2.1.size),H3.out.2.2.2.2⟩
 clear hb4 H3 x0 x1 x2
 have HC:Hid (∀W:World,Below w4.drew.heap.size w4.drew W->(W.cell? ⟨w.heap.size,0,none⟩=some (.slice (some ⟨g,0,none⟩) 1 c)/\W.cell? ⟨xb,0,none⟩=some (.bool true)/\W.cell? ⟨xb,1,none⟩=some (.slice a 0 0)/\W.cell? ⟨xb,2,none⟩=some (.slice none 0 0))/\Bx W (w.heap.size+1) 125 #[.bool false,.slice none 0 0,.slice none 0 0]/\Below w.heap.size w W):=fun W hW=>
  ⟨⟨(H4.out.1.drew.below hW).cell 0,(H4.out.2.2.1.drew.below hW).cell 0,(H4.out.2.2.1.drew.below hW).cell 1,(H4.out.2.2.1.drew.below hW).cell 2⟩,H4.out.2.1.drew.below hW,H4.out.2.2.2.1.drew.trans (hW.mono H4.out.2.2.2.1.size)⟩
 have hxb:=H4.out.2.2.2.2
 obtain ⟨⟨s0,s1,s2,s3⟩,-⟩:=HC.out w4.drew (Below.refl _ _)
 have n1:¬ w.heap.size+1=xb:=by omega
 have n2:¬ xb=w.heap.size+1:=by omega
 go_wp2
 refine wp_loop_rounds 1 ?_
 rw [rounds_succ]
 go_wp2
 go_region_held3 (fun w'=>w'.cell? ⟨w.heap.size,0,none⟩=some (.slice (some ⟨g,0,none⟩) 1 c)/\w'.cell? ⟨xb,0,none⟩=some (.bool true)/\w'.cell? ⟨xb,1,none⟩=some (.slice a 0 0)/\w'.cell? ⟨xb,2,none⟩=some (.slice none 0 0)) (go_keep)
  (first
  | (go_at_call 84;refine (l3Flat_e a w4.drew).mono ?_;rintro e w5 ⟨⟨v5,rfl,g5,a5,c5,rfl,hg5,hr5⟩,hb5⟩;obtain ⟨⟨r0,r1,r2,r3⟩,X5,B5⟩:=HC.out w5 hb5)
  | (go_at_call 133;refine (l3Same_e g5 g c5 c a5 a w5 hr5 (rowIn.below HR.out B5)).mono ?_;rintro e w6 ⟨⟨b6,rfl⟩,hb6⟩;obtain ⟨⟨q0,q1,q2,q3⟩,X6,B6⟩:=HC.out w6 (hb5.trans (hb6.mono hb5.size));have y0:=X6.cell 0;have y1:=X6.cell 1;have y2:=X6.cell 2;have yf:=X6.frozen;have yl:=X6.lt;simp at y0 y1 y2)
  | fail)
 have HB:Hid (Below w.heap.size w w6):=B6
 clear B5 B6 X5 X6 hb5 hb6 hr5 HC H4
 go_wp2
 exact bodyPost_ret (v:=.tuple #[.agg #[.bool true,.slice a 0 0,.slice none 0 0],.bool b6]) (by simp [results,Tryz.results81,go_sem,y0,y1,y2]) rfl ⟨⟨b6,rfl⟩,((HB.out.setCell (by simp) _).setCell (by simp) _).setCell (by simp) _⟩

set_option maxHeartbeats 1000000 in
theorem l5Quads_e (g c:Nat) (a:Option Addr) (w:World) (h:rowIn w g 213 4 (leafCell a)) :
  Calls Tryz.prog 38 #[.agg #[.slice (some ⟨g,0,none⟩) 1 c],.int .i64 0] w fun e w'=>(∃a',e=.returned (.slice a' 0 0))/\Below w.heap.size w w':=by
 have HR:Hid (rowIn w g 213 4 (leafCell a)):=h
 clear h
 go_enter Tryz.func38,Tryz.ntmps38
 go_wp2_with fail
 refine (l3Of_e g c a _ (rowIn.below HR.out ((below_alloc _ _).alloc (by simp) _))).mono ?_
 rintro e w1 ⟨⟨b1,rfl⟩,hb1⟩
 have H1:Hid (Below w.heap.size w w1):=((below_alloc _ _).alloc (by simp) _).trans (hb1.mono (by simp;omega))
 clear hb1
 go_upto_region 3 with fail
 have S2:Hid (Bx (w1.alloc (.cells #[.bool true,.slice a 0 0,.slice none 0 0] 125)) w1.heap.size 125 #[.bool true,.slice a 0 0,.slice none 0 0]/\Below w.heap.size w (w1.alloc (.cells #[.bool true,.slice a 0 0,.slice none 0 0] 125))):=⟨Bx.new _ _ _,H1.out.alloc H1.out.size _⟩
 clear H1
 generalize (w1.alloc (.cells #[.bool true,.slice a 0 0,.slice none 0 0] 125))=W2 at S2 ⊢
 generalize w1.heap.size=xb at S2 ⊢
 have x0:=S2.out.1.cell 0
 have x1:=S2.out.1.cell 1
 have x2:=S2.out.1.cell 2
 simp at x0 x1 x2
 go_wp2_with fail
 refine (l3Keys_e a W2).mono ?_
 rintro e w3 ⟨⟨a3,rfl⟩,hb3⟩
 have H3:Hid (Below w.heap.size w w3):=S2.out.2.trans (hb3.mono S2.out.2.size)
 clear hb3 S2 x0 x1 x2
 go_wp2
 refine wp_loop_rounds 1 ?_
 rw [rounds_succ]
 go_wp2
 go_ret
 exact ⟨⟨_,rfl⟩,H3.out⟩
end Go.Proofs.YtbmffmifemebmaaGreatDoor
