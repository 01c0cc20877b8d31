import Derived.Test.YtbmffmifemebmaaGreatDoorNz21
import Derived.Test.YtbmffmifemebmaaGreatDoorNz17
import Derived.Test.YtbmffmifemebmaaGreatDoorNz4
import Derived.Test.YtbmffmifemebmaaGreatDoorNz3
import Derived.Test.YtbmffmifemebmaaGreatDoorRows
import Derived.Test.YtbmffmifemebmaaGreatDoorNz1
import Derived.Test.YtbmffmifemebmaaGreatDoorNz5
set_option linter.unusedVariables false
set_option maxRecDepth 100000
namespace Go.Proofs.YtbmffmifemebmaaGreatDoor
open Go.RowKit Go.Deep

def srV (k:Bool) (G A Fi:Int):Value:=.agg #[.bool k,.int .i64 G,.int .i64 A,.int .i64 Fi]
def betterB (k0 k1:Bool) (G0 G1:Int):Bool:=k1 && (!k0 || decide (G0<G1))

theorem ret4 {fn:Func} {p:Tmp} (h:fn.results=#[.cell p 75]) (tmps:Array Value) (w:World) (g:Nat) (hp:tmps.getD p undef=.pointer (some ⟨g,0,none⟩)) {u0 u1 u2 u3 v0 v1 v2 v3:Value} (hb:w.heap[g]?=some (.cells #[u0,u1,u2,u3] 75 (0,0))) (o:Obj) :
  (results fn tmps).run Tryz.prog (((((w.setCell ⟨g,0,none⟩ v0).setCell ⟨g,1,none⟩ v1).setCell ⟨g,2,none⟩ v2).setCell ⟨g,3,none⟩ v3).alloc o)=.ok (.agg #[v0,v1,v2,v3]) (((((w.setCell ⟨g,0,none⟩ v0).setCell ⟨g,1,none⟩ v1).setCell ⟨g,2,none⟩ v2).setCell ⟨g,3,none⟩ v3).alloc o):=by
 have hlt:g<w.heap.size:=(Array.getElem?_eq_some_iff.1 hb).1
 refine results_cell_row h tmps _ g 75 #[v0,v1,v2,v3] (0,0) (.struct (Tryz.prog.fieldsOf 75)) hp ?_ (by kernel_rfl) rfl (by kernel_rfl)
 rw [Below.heap_alloc _ _ _ (by simpa using hlt)]
 simp [World.setCell,Array.getElem?_modify,hb]

theorem below2 (w:World) (o1 o2:Obj):Below w.heap.size w ((w.alloc o1).alloc o2):=(below_alloc _ _).trans ((below_alloc _ _).mono (by simp))

set_option maxHeartbeats 2000000 in
theorem specSuper_good (a p:Option Addr) (n c m q:Nat) (d S:Nat->Int) (L:Nat->Nat) (F:Nat->Nat->Int) (fuel:Int) (dead:Bool) (w:World) (ha:Rd .u8 w a n d) (hp:RdP w p m S L F) (hv:VD n m S L fuel) (hn:n<=1048576) (hnc:n<=c) (hcm:c<=9223372036854775807) (hm:m<=1048576) (hr:∀s,s<n / 64->∀i,i<64->0<=secF d S F m s i/\secF d S F m s i<256)
  (k0 k1:Bool) (G0 A0 F0 G1 A1 F1:Int) (h0:supV (secF d S F m 0) 0=srV k0 G0 A0 F0) (h1:supV (secF d S F m 1) 1=srV k1 G1 A1 F1) :
  Calls Tryz.prog 41 #[.agg #[.slice a n c,.slice p m q,.int .i64 fuel,.bool dead]] w fun e w'=>e=.returned (if betterB k0 k1 G0 G1=true then srV k1 G1 A1 F1 else srV k0 G0 A0 F0)/\Below w.heap.size w w':=by
 have HA:Hid (Rd .u8 w a n d):=ha
 have HP:Hid (RdP w p m S L F):=hp
 have HV:Hid (VD n m S L fuel):=hv
 have HR:Hid (∀s,s<n / 64->∀i,i<64->0<=secF d S F m s i/\secF d S F m s i<256):=hr
 have hpos:1024<=n:=by have:=hv.1;unfold VH at this;omega
 have H0:Hid (supV (secF d S F m 0) (0:Nat)=.agg #[.bool k0,.int .i64 G0,.int .i64 A0,.int .i64 F0]):=h0
 have H1:Hid (supV (secF d S F m 1) (1:Nat)=.agg #[.bool k1,.int .i64 G1,.int .i64 A1,.int .i64 F1]):=h1
 have HE2:Hid (∀o1 o2,((w.alloc o1).alloc o2).heap.size=w.heap.size+2):=fun _ _=>by simp
 clear ha hp hv hr h0 h1
 go_enter Tryz.func41,Tryz.ntmps41
 go_wp2_with fail
 refine (specValid_any a p n c m q S L F fuel dead _ (HP.out.below (below2 _ _ _)) hn hm).mono ?_
 rintro e w1 ⟨hx1,hb1⟩
 have:=ans_true hx1 HV.out
 subst this
 rw [HE2.out] at hb1
 have K1:Hid (Below (w.heap.size+2) ((w.alloc (.cells #[.slice a n c,.slice p m q,.int .i64 fuel,.bool dead] 25)).alloc (.cells #[.bool false,.int .i64 0,.int .i64 0,.int .i64 0] 75)) w1):=hb1
 have HFIN:Hid (∀W,Below (w.heap.size+2) ((w.alloc (.cells #[.slice a n c,.slice p m q,.int .i64 fuel,.bool dead] 25)).alloc (.cells #[.bool false,.int .i64 0,.int .i64 0,.int .i64 0] 75)) W->Below w.heap.size w W):=fun W h=>(below2 _ _ _).trans (h.mono (by omega))
 have z1:w.heap.size+2<=w1.heap.size:=by have:=K1.out.size;rw [HE2.out] at this;exact this
 have hc1:∀b o,b<w.heap.size+2->w1.cell? ⟨b,o,none⟩=_:=fun b o hb=>K1.out.cell (p:=⟨b,o,none⟩) hb
 clear hb1 hx1
 go_wp2_with fail
 refine (l2SuperAt_any a p n c m q d S L F fuel dead 0 w1 (HA.out.below (HFIN.out _ K1.out)) (HP.out.below (HFIN.out _ K1.out)) HV.out (by omega) hn hnc hcm hm (HR.out 0 (by omega))).mono ?_
 rintro e w2 ⟨rfl,hb2⟩
 rw [H0.out]
 have z2:=hb2.size
 have K2:Hid (Below (w.heap.size+2) ((w.alloc (.cells #[.slice a n c,.slice p m q,.int .i64 fuel,.bool dead] 25)).alloc (.cells #[.bool false,.int .i64 0,.int .i64 0,.int .i64 0] 75)) w2):=K1.out.trans (hb2.mono z1)
 clear hc1 hb2
 have hc2:∀b o,b<w.heap.size+2->w2.cell? ⟨b,o,none⟩=_:=fun b o hb=>K2.out.cell (p:=⟨b,o,none⟩) hb
 have z02:w.heap.size<w2.heap.size:=by omega
 go_wp2_with fail
 refine (l2SuperAt_any a p n c m q d S L F fuel dead 1 _ ((HA.out.below (HFIN.out _ K2.out)).below (below_alloc _ _)) ((HP.out.below (HFIN.out _ K2.out)).below (below_alloc _ _)) HV.out (by omega) hn hnc hcm hm (HR.out 1 (by omega))).mono ?_
 rintro e w3 ⟨rfl,hb3⟩
 rw [H1.out]
 rw [World.size_alloc] at hb3
 obtain ⟨y0,y1,y2,y3,yz⟩:=box4 hb3
 have K3:Hid (Below (w.heap.size+2) ((w.alloc (.cells #[.slice a n c,.slice p m q,.int .i64 fuel,.bool dead] 25)).alloc (.cells #[.bool false,.int .i64 0,.int .i64 0,.int .i64 0] 75)) w3):=(K2.out.alloc (by omega) _).trans (hb3.mono (by omega))
 clear hc2 hb3 HA HP HV HR H0 H1
 have hc3:∀b o,b<w.heap.size+2->w3.cell? ⟨b,o,none⟩=_:=fun b o hb=>K3.out.cell (p:=⟨b,o,none⟩) hb
 have hf3:∀b o,b<w.heap.size+2->w3.frozen? ⟨b,o,none⟩=_:=fun b o hb=>K3.out.frozen (p:=⟨b,o,none⟩) hb
 have z13:w.heap.size+1<w3.heap.size:=by omega
 have z23:w2.heap.size<w3.heap.size:=yz
 have HB3:Hid (Below w.heap.size w w3):=HFIN.out _ K3.out
 have HBK:Hid (w3.heap[w.heap.size+1]?=some (.cells #[.bool false,.int .i64 0,.int .i64 0,.int .i64 0] 75 (0,0))):=(K3.out.block _ (by omega)).trans (by have:=blk_alloc_new (w.alloc (.cells #[.slice a n c,.slice p m q,.int .i64 fuel,.bool dead] 25)) (.cells #[.bool false,.int .i64 0,.int .i64 0,.int .i64 0] 75);rw [World.size_alloc] at this;exact this)
 cases k1 with
 | false=>
  have hB:betterB k0 false G0 G1=false:=rfl
  go_wp2
  refine bodyPost_ret (v:=.agg #[.bool k0,.int .i64 G0,.int .i64 A0,.int .i64 F0]) (ret4 rfl _ w3 (w.heap.size+1) rfl HBK.out _) rfl ⟨rfl,?_⟩
  exact ((((HB3.out.setCell (by simp) _).setCell (by simp) _).setCell (by simp) _).setCell (by simp) _).alloc (by have:=HB3.out.size;simp;omega) _
 | true=>
  cases k0 with
  | false=>
   have hB:betterB false true G0 G1=true:=rfl
   go_wp2
   refine bodyPost_ret (v:=.agg #[.bool true,.int .i64 G1,.int .i64 A1,.int .i64 F1]) (ret4 rfl _ w3 (w.heap.size+1) rfl HBK.out _) rfl ⟨rfl,?_⟩
   exact ((((HB3.out.setCell (by simp) _).setCell (by simp) _).setCell (by simp) _).setCell (by simp) _).alloc (by have:=HB3.out.size;simp;omega) _
  | true=>
   by_cases hG:G0<G1
   ·have hB:betterB true true G0 G1=true:=by simp [betterB,hG]
    go_wp2
    refine bodyPost_ret (v:=.agg #[.bool true,.int .i64 G1,.int .i64 A1,.int .i64 F1]) (ret4 rfl _ w3 (w.heap.size+1) rfl HBK.out _) rfl ⟨rfl,?_⟩
    exact ((((HB3.out.setCell (by simp) _).setCell (by simp) _).setCell (by simp) _).setCell (by simp) _).alloc (by have:=HB3.out.size;simp;omega) _
   ·have hB:betterB true true G0 G1=false:=by simp [betterB];omega
    have hG' : decide (G0<G1)=false:=by simpa using hG
    clear hG
    go_wp2
    all_goals refine bodyPost_ret (v:=.agg #[.bool true,.int .i64 G0,.int .i64 A0,.int .i64 F0]) (ret4 rfl _ w3 (w.heap.size+1) rfl HBK.out _) rfl ⟨rfl,?_⟩
    all_goals exact ((((HB3.out.setCell (by simp) _).setCell (by simp) _).setCell (by simp) _).setCell (by simp) _).alloc (by have:=HB3.out.size;simp;omega) _

end Go.Proofs.YtbmffmifemebmaaGreatDoor
