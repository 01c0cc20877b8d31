import Derived.Test.YtacpbofiipdodaaGreatNv36
set_option linter.unusedVariables false
set_option linter.unusedSimpArgs false
set_option maxRecDepth 100000
set_option maxHeartbeats 90000000
namespace Go.Proofs.YtacpbofiipdodaaGreat
open Go Go.Deep Go.Maps Go.RowKit
def VD (w:World) (xb:Nat) (id:ByteArray->Int) (cb:Bool) (cl:ByteArray) (k:Int) (ty:TypeId) (tail:List Value) (e:Ending) (w' : World):Prop:=
 ∃f:Fx,e=.returned (.iface (CR k) (pt f.ob))/\A0 w' f/\f.xb=xb/\f.lab=id cl/\f.nt=(cb && decide (id cl=0))/\f.ty=ty/\f.tail=tail/\w.heap.size<=f.mb/\f.mb<f.ob/\f.ob<w'.heap.size/\Bl w w'
structure QD (w W:World) (wb tb xb:Nat) (lab:Int) (nt:Bool) (k:Int) (s t:ByteArray) (cb:Bool) (cl:ByteArray) (oa:Option Addr) (ol oc:Nat) (hh:Int) (fb mb:Nat):Prop where
 pl:Bx W w.heap.size 102 #[iv k,.string s,.string t,.bool cb,.string cl,.slice oa ol oc,iv hh]
 wd:Bx W wb 170 #[pt tb,pt xb]
 fn:Bx W fb 186 #[pt xb,iv lab,.bool nt,iv 0,.slice none 0 0,.map (some mb),iv 0]
 st:C3 W mb 0 (λ_=>False)
 lt:w.heap.size<=mb/\mb<fb
 bel:Bl w W
section
variable {w W W' : World} {wb tb xb:Nat} {lab:Int} {nt:Bool} {k:Int} {s t:ByteArray} {cb:Bool} {cl:ByteArray} {oa:Option Addr} {ol oc:Nat} {hh:Int} {fb mb:Nat}
theorem QD.keep (h:QD w W wb tb xb lab nt k s t cb cl oa ol oc hh fb mb) (hb:Bl W W'):QD w W' wb tb xb lab nt k s t cb cl oa ol oc hh fb mb:=
 ⟨(hb.block _ h.pl.lt).trans h.pl,(hb.block _ h.wd.lt).trans h.wd,(hb.block _ h.fn.lt).trans h.fn,h.st.fr (P:=λ_=>False) (Fr.ofBelow hb) (λq=>q),h.lt,h.bel.trans (hb.mono h.bel.size)⟩
theorem QD.cells (h:QD w W wb tb xb lab nt k s t cb cl oa ol oc hh fb mb):(W.cell? (ad w.heap.size 0)=some (iv k)/\W.cell? (ad w.heap.size 1)=some (.string s)/\W.cell? (ad w.heap.size 2)=some (.string t)/\W.cell? (ad w.heap.size 3)=some (.bool cb)/\W.cell? (ad w.heap.size 4)=some (.string cl)/\W.cell? (ad w.heap.size 5)=some (.slice oa ol oc)/\W.cell? (ad w.heap.size 6)=some (iv hh))/\W.cell? (ad wb 0)=some (pt tb)/\(W.cell? (ad fb 0)=some (pt xb)/\W.cell? (ad fb 1)=some (iv lab)/\W.cell? (ad fb 2)=some (.bool nt)/\W.cell? (ad fb 3)=some (iv 0)/\W.cell? (ad fb 4)=some (.slice none 0 0)/\W.cell? (ad fb 5)=some (.map (some mb))/\W.cell? (ad fb 6)=some (iv 0)):=
 ⟨⟨h.pl.cell 0,h.pl.cell 1,h.pl.cell 2,h.pl.cell 3,h.pl.cell 4,h.pl.cell 5,h.pl.cell 6⟩,h.wd.cell 0,h.fn.cell 0,h.fn.cell 1,h.fn.cell 2,h.fn.cell 3,h.fn.cell 4,h.fn.cell 5,h.fn.cell 6⟩
theorem QD.made (h:QD w W wb tb xb lab nt k s t cb cl oa ol oc hh fb mb) (ty:TypeId) (tail:List Value):A0 (W.alloc (.cells (Dg xb lab nt 0 (.slice none 0 0) mb 0 tail) ty)) ⟨W.heap.size,mb,ty,xb,lab,nt,tail⟩/\w.heap.size<=mb/\mb<W.heap.size/\Bl w (W.alloc (.cells (Dg xb lab nt 0 (.slice none 0 0) mb 0 tail) ty)):=
 ⟨⟨Bx.new _ _ _,h.st.fr (P:=λ_=>False) (Fr.ofBelow (Aa _ _)) (λq=>q)⟩,h.lt.1,h.st.lt,h.bel.alloc h.bel.size _⟩
end
theorem Nk (k:Int) (ty:TypeId) (tail:List Value) (ov:Value) (wb tb xb:Nat) (id:ByteArray->Int) (Q:List Qd) (s t:ByteArray) (cb:Bool) (cl:ByteArray) (oa:Option Addr) (ol oc:Nat) (hh:Int) (ch:Int) (w:World) (hB:Bx w wb 170 #[pt tb,pt xb]) (hT:∀V x,Bl w V->WS 97 #[pt tb,.string x] V (WT V (iv (id x)))) (hX:Hz w xb Q) (hc:(k=1/\ty=189/\tail=[iv ch])\/(k=2/\ty=193/\∃is,U (is=id s)/\tail=[iv is])\/(k=9/\ty=204/\∃og oq ya ca,ov=.slice (some (ad og 0)) 1 oq/\U (w.cell? (ad og 0)=some (.iface ya (pt ca)))/\tail=[.iface ya (pt ca)])\/∃og oq ya ca yb cbk,ov=.slice (some (ad og 0)) 2 oq/\U (w.cell? (ad og 0)=some (.iface ya (pt ca))/\w.cell? (ad og 1)=some (.iface yb (pt cbk)))/\((k=7/\ty=199/\tail=[.iface ya (pt ca),.iface yb (pt cbk)])\/(k=8/\ty=201/\tail=[.iface ya (pt ca),.iface yb (pt cbk)])\/(k=6/\ty=196/\ch=0/\tail=[.iface ya (pt ca),.iface yb (pt cbk)])\/k=6/\ty=196/\ch=1/\tail=[.iface yb (pt cbk),.iface ya (pt ca)])) :
  WS 43 #[pt wb,.agg #[iv k,.string s,.string t,.bool cb,.string cl,.slice oa ol oc,iv hh],iv ch,ov] w (VD w xb id cb cl k ty tail):=by
 obtain⟨lab,hlab⟩:=gn (id cl);obtain⟨nt,hnt⟩:=gn ((cb && decide (id cl=0)));have HT:=hid hT;have HSC:U (∀W,Bl w W->WS 96 #[pt wb,.agg #[.bool cb,.string cl]] W (WT W (.agg #[pt xb,iv lab,.bool nt]))):=λW hW=>by rw[hlab,hnt];exact Ew wb tb xb id Q cb cl W ((hW.block _ hB.lt).trans hB) ⟨λV x hV=>hT V x (hW.trans (hV.mono hW.size)),(hX.below hW).1⟩
 have HBW:=hid (ai hB (ai hlab hnt));obtain⟨kk,hkk⟩:=gn k;have HKK:=hid hkk;have hw1:IntKind.i64.wrap 1=1:=by rw[Wz];decide
 have hw0:IntKind.i64.wrap 0=0:=by rw[Wz];decide
 clear hB hT hX hlab hnt hkk;obtain⟨W0,hW0⟩:=gn (w.alloc (.cells #[iv k,.string s,.string t,.bool cb,.string cl,.slice oa ol oc,iv hh] 102));have P0:U (Bx W0 w.heap.size 102 #[iv k,.string s,.string t,.bool cb,.string cl,.slice oa ol oc,iv hh]/\Bl w W0):=by rw[hW0];exact⟨Bx.new _ _ _,Aa _ _⟩
 have hmm:=@run_makeMap Tryz.prog;rcases hc with ⟨rfl,rfl,rfl⟩|⟨rfl,rfl,is,HIS,rfl⟩|⟨rfl,rfl,og,oq,ya,ca,rfl,HO,rfl⟩|⟨og,oq,ya,ca,yb,cbk,rfl,HO,⟨rfl,rfl,rfl⟩|⟨rfl,rfl,rfl⟩|⟨rfl,rfl,rfl,rfl⟩|⟨rfl,rfl,rfl,rfl⟩⟩;all_goals
  go_enter Tryz.func43,Tryz.ntmps43
  go_upto_region 1 with fail
  rw[<- hW0]
  clear hW0
  obtain⟨x3,x4⟩:W0.cell? (ad w.heap.size 3)=some (.bool cb)/\W0.cell? (ad w.heap.size 4)=some (.string cl):=⟨P0.o.1.cell 3,P0.o.1.cell 4⟩
  go_wp2_with fail
  refine (HSC.o W0 P0.o.2).mono ?_
  rintro e w1 ⟨rfl,hb1⟩
  obtain⟨mb,hmb⟩:=gn w1.heap.size
  obtain⟨W2,hW2⟩:=gn ((w1.alloc (.map #[] 0)).alloc (.cells #[pt xb,iv lab,.bool nt,iv 0,.slice none 0 0,.map (some mb),iv 0] 186))
  have P2:U (QD w W2 wb tb xb lab nt kk s t cb cl oa ol oc hh (w1.heap.size+1) mb):=by
   rw[HKK.o]
   have hbw:=P0.o.2.trans (hb1.mono P0.o.2.size)
   have hba:=Aa w1 (.map #[] 0)
   have hbb:Below (w1.alloc (.map #[] 0)).heap.size (w1.alloc (.map #[] 0)) W2:=by rw[hW2];exact Aa _ _
   have hbc:=hba.trans (hbb.mono hba.size)
   have hp:=(hb1.block _ P0.o.1.lt).trans P0.o.1
   have hd:=(hbw.block _ HBW.o.1.lt).trans HBW.o.1
   have b2:=Bx.new (w1.alloc (.map #[] 0)) #[pt xb,iv lab,.bool nt,iv 0,.slice none 0 0,.map (some mb),iv 0] 186
   rw[<- hW2] at b2
   have hz:(w1.alloc (.map #[] 0)).heap.size=w1.heap.size+1:=by simp
   rw[hz] at b2
   refine⟨(hbc.block _ (Bx.lt hp)).trans hp,(hbc.block _ (Bx.lt hd)).trans hd,b2,?_,⟨by rw[hmb];exact hbw.size,by omega⟩,hbw.trans (hbc.mono hbw.size)⟩
   rw[hmb]
   exact (Ml w1 (λ_=>False) (λ_ q=>q)).fr (P:=λ_=>False) (Fr.ofBelow hbb) (λq=>q)
  go_upto_region 2 with fail
  rw[<- hmb]
  rw[<- hW2]
  clear hW2 hb1 P0 x3 x4 hmm
  rw[<- hmb] at P2
  generalize mb+1=fb at P2 ⊢
  clear hmb
  obtain⟨⟨y0,y1,y2,y3,y4,y5,y6⟩,yw,f0,f1,f2,f3,f4,f5,f6⟩:=P2.o.cells
  rw[HKK.o] at y0
 .have HM:=hid (P2.o.made 189 [iv ch]);unfold Dg at HM;go_wp2;go_ret;exact⟨⟨W2.heap.size,mb,_,xb,lab,nt,_⟩,rfl,HM.o.1,rfl,HBW.o.2.1,HBW.o.2.2,rfl,rfl,HM.o.2.1,HM.o.2.2.1,by simp,HM.o.2.2.2⟩
 .go_upto_region 6 with fail
  clear y0 y1 y2 y3 y4 y5 y6 yw f0 f1 f2 f3 f4 f5 f6;refine Ac (S:=λW=>Bl W2 W) 12 (by kernel_rfl) (Wt _ _).drew (λW hHeld=>?_);refine tY 0 rfl (λw' h=>by obtain⟨-,-,f0,f1,f2,f3,f4,f5,f6⟩:=(P2.o.keep h).cells;clear h;go_simp;rfl) ?_;refine tx 1 rfl ?_;refine tx 2 rfl ?_;refine tx 3 rfl ?_;refine tY 4 rfl (λw' h=>by obtain⟨-,yw,-⟩:=(P2.o.keep h).cells;clear h;go_simp;rfl) ?_;refine tx 5 rfl ?_;refine tx 6 rfl ?_;refine tY 7 rfl (λw' h=>by obtain⟨⟨y0,y1,y2,y3,y4,y5,y6⟩,-,-⟩:=(P2.o.keep h).cells;clear h;go_simp;rfl) ?_;refine AB 8 rfl (λK hK=>?_);refine AF rfl 97 33 36 _ rfl _ _ rfl rfl (λ_ _=>rfl) ?_;refine (HT.o W s (P2.o.keep hHeld).bel).mono ?_;rintro e w5 ⟨rfl,hbm⟩;rw[<- HIS.o];have h5:=hHeld.trans (hbm.mono hHeld.size);refine⟨_,rfl,hK.out _ _ (λ_=>h5) (λhG=>?_)⟩;clear hK K hG hbm hHeld;simp only[As];refine tx 9 rfl ?_;have HM:=hid ((P2.o.keep h5).made 193 [iv is]);unfold Dg at HM;refine AB 10 rfl (λK hK=>?_);go_simp;have h8:=h5.alloc h5.size (.cells #[pt xb,iv lab,.bool nt,iv 0,.slice none 0 0,.map (some mb),iv 0,iv is] 193);refine hK.out _ _ (λ_=>h8) (λhG=>?_);clear hK K hG;try simp only[As]
  refine tx 11 rfl ?_;refine AB 12 rfl (λK hK=>?_);go_simp;refine hK.out _ _ (λ_=>h8) (λhG=>?_);clear hK K hG;refine Ae (by kernel_rfl) ?_ _;clear h8 h5;go_wp2;go_ret;exact⟨⟨w5.heap.size,mb,_,xb,lab,nt,_⟩,rfl,HM.o.1,rfl,HBW.o.2.1,HBW.o.2.2,rfl,rfl,HM.o.2.1,HM.o.2.2.1,by simp,HM.o.2.2.2⟩
 .go_upto_region 14 with fail
  clear y0 y1 y2 y3 y4 y5 y6 yw f0 f1 f2 f3 f4 f5 f6;refine Ac (S:=λW=>Bl W2 W) 7 (by kernel_rfl) (Wt _ _).drew (λW hHeld=>?_);refine tY 0 rfl (λw' h=>by obtain⟨-,-,f0,f1,f2,f3,f4,f5,f6⟩:=(P2.o.keep h).cells;clear h;go_simp;rfl) ?_;refine tx 1 rfl ?_;refine tx 2 rfl ?_;refine tY 3 rfl (λw' h=>by have o0:=(((P2.o.keep h).bel.cell (p:=(ad og 0)) (Ws _ _ HO.o)).trans HO.o);clear h;go_simp;rfl) ?_;refine tx 4 rfl ?_;have HM:=hid ((P2.o.keep hHeld).made 204 [.iface ya (pt ca)]);unfold Dg at HM;refine AB 5 rfl (λK hK=>?_);go_simp;have h8:=hHeld.alloc hHeld.size (.cells #[pt xb,iv lab,.bool nt,iv 0,.slice none 0 0,.map (some mb),iv 0,.iface ya (pt ca)] 204);refine hK.out _ _ (λ_=>h8) (λhG=>?_);clear hK K hG;try simp only[As]
  refine tx 6 rfl ?_;refine AB 7 rfl (λK hK=>?_);go_simp;refine hK.out _ _ (λ_=>h8) (λhG=>?_);clear hK K hG;refine Ae (by kernel_rfl) ?_ _;clear h8 hHeld;go_wp2;go_ret;exact⟨⟨W.heap.size,mb,_,xb,lab,nt,_⟩,rfl,HM.o.1,rfl,HBW.o.2.1,HBW.o.2.2,rfl,rfl,HM.o.2.1,HM.o.2.2.1,by simp,HM.o.2.2.2⟩
 .go_upto_region 10 with fail
  clear y0 y1 y2 y3 y4 y5 y6 yw f0 f1 f2 f3 f4 f5 f6;refine Ac (S:=λW=>Bl W2 W) 10 (by kernel_rfl) (Wt _ _).drew (λW hHeld=>?_);refine tY 0 rfl (λw' h=>by obtain⟨-,-,f0,f1,f2,f3,f4,f5,f6⟩:=(P2.o.keep h).cells;clear h;go_simp;rfl) ?_;refine tx 1 rfl ?_;refine tx 2 rfl ?_;refine tY 3 rfl (λw' h=>by have o0:=(((P2.o.keep h).bel.cell (p:=(ad og 0)) (Ws _ _ HO.o.1)).trans HO.o.1);have o1:=(((P2.o.keep h).bel.cell (p:=(ad og 1)) (Ws _ _ HO.o.2)).trans HO.o.2);clear h;go_simp;rfl) ?_;refine tx 4 rfl ?_;refine tx 5 rfl ?_;refine tY 6 rfl (λw' h=>by have o0:=(((P2.o.keep h).bel.cell (p:=(ad og 0)) (Ws _ _ HO.o.1)).trans HO.o.1);have o1:=(((P2.o.keep h).bel.cell (p:=(ad og 1)) (Ws _ _ HO.o.2)).trans HO.o.2);clear h;go_simp;rfl) ?_;refine tx 7 rfl ?_;have HM:=hid ((P2.o.keep hHeld).made 199 [.iface ya (pt ca),.iface yb (pt cbk)]);unfold Dg at HM;refine AB 8 rfl (λK hK=>?_);go_simp;have h8:=hHeld.alloc hHeld.size (.cells #[pt xb,iv lab,.bool nt,iv 0,.slice none 0 0,.map (some mb),iv 0,.iface ya (pt ca),.iface yb (pt cbk)] 199);refine hK.out _ _ (λ_=>h8) (λhG=>?_);clear hK K hG;try simp only[As]
  refine tx 9 rfl ?_;refine AB 10 rfl (λK hK=>?_);go_simp;refine hK.out _ _ (λ_=>h8) (λhG=>?_);clear hK K hG;refine Ae (by kernel_rfl) ?_ _;clear h8 hHeld;go_wp2;go_ret;exact⟨⟨W.heap.size,mb,_,xb,lab,nt,_⟩,rfl,HM.o.1,rfl,HBW.o.2.1,HBW.o.2.2,rfl,rfl,HM.o.2.1,HM.o.2.2.1,by simp,HM.o.2.2.2⟩
 .go_upto_region 12 with fail
  clear y0 y1 y2 y3 y4 y5 y6 yw f0 f1 f2 f3 f4 f5 f6;refine Ac (S:=λW=>Bl W2 W) 10 (by kernel_rfl) (Wt _ _).drew (λW hHeld=>?_);refine tY 0 rfl (λw' h=>by obtain⟨-,-,f0,f1,f2,f3,f4,f5,f6⟩:=(P2.o.keep h).cells;clear h;go_simp;rfl) ?_;refine tx 1 rfl ?_;refine tx 2 rfl ?_;refine tY 3 rfl (λw' h=>by have o0:=(((P2.o.keep h).bel.cell (p:=(ad og 0)) (Ws _ _ HO.o.1)).trans HO.o.1);have o1:=(((P2.o.keep h).bel.cell (p:=(ad og 1)) (Ws _ _ HO.o.2)).trans HO.o.2);clear h;go_simp;rfl) ?_;refine tx 4 rfl ?_;refine tx 5 rfl ?_;refine tY 6 rfl (λw' h=>by have o0:=(((P2.o.keep h).bel.cell (p:=(ad og 0)) (Ws _ _ HO.o.1)).trans HO.o.1);have o1:=(((P2.o.keep h).bel.cell (p:=(ad og 1)) (Ws _ _ HO.o.2)).trans HO.o.2);clear h;go_simp;rfl) ?_;refine tx 7 rfl ?_;have HM:=hid ((P2.o.keep hHeld).made 201 [.iface ya (pt ca),.iface yb (pt cbk)]);unfold Dg at HM;refine AB 8 rfl (λK hK=>?_);go_simp;have h8:=hHeld.alloc hHeld.size (.cells #[pt xb,iv lab,.bool nt,iv 0,.slice none 0 0,.map (some mb),iv 0,.iface ya (pt ca),.iface yb (pt cbk)] 201);refine hK.out _ _ (λ_=>h8) (λhG=>?_);clear hK K hG;try simp only[As]
  refine tx 9 rfl ?_;refine AB 10 rfl (λK hK=>?_);go_simp;refine hK.out _ _ (λ_=>h8) (λhG=>?_);clear hK K hG;refine Ae (by kernel_rfl) ?_ _;clear h8 hHeld;go_wp2;go_ret;exact⟨⟨W.heap.size,mb,_,xb,lab,nt,_⟩,rfl,HM.o.1,rfl,HBW.o.2.1,HBW.o.2.2,rfl,rfl,HM.o.2.1,HM.o.2.2.1,by simp,HM.o.2.2.2⟩
 .go_upto_region 8 with fail
  clear y0 y1 y2 y3 y4 y5 y6 yw f0 f1 f2 f3 f4 f5 f6;refine Ac (S:=λW=>Bl W2 W) 13 (by kernel_rfl) (Wt _ _).drew (λW hHeld=>?_);refine tY 0 rfl (λw' h=>by obtain⟨-,-,f0,f1,f2,f3,f4,f5,f6⟩:=(P2.o.keep h).cells;clear h;go_simp;rfl) ?_;refine tx 1 rfl ?_;refine tx 2 rfl ?_;refine tx 3 rfl ?_;refine tY 4 rfl (λw' h=>by have o0:=(((P2.o.keep h).bel.cell (p:=(ad og 0)) (Ws _ _ HO.o.1)).trans HO.o.1);have o1:=(((P2.o.keep h).bel.cell (p:=(ad og 1)) (Ws _ _ HO.o.2)).trans HO.o.2);clear h;go_simp;rfl) ?_;refine tx 5 rfl ?_;refine tx 6 rfl ?_;refine tx 7 rfl ?_;refine tx 8 rfl ?_;refine tY 9 rfl (λw' h=>by have o0:=(((P2.o.keep h).bel.cell (p:=(ad og 0)) (Ws _ _ HO.o.1)).trans HO.o.1);have o1:=(((P2.o.keep h).bel.cell (p:=(ad og 1)) (Ws _ _ HO.o.2)).trans HO.o.2);clear h;go_simp;rfl) ?_;refine tx 10 rfl ?_;have HM:=hid ((P2.o.keep hHeld).made 196 [.iface ya (pt ca),.iface yb (pt cbk)]);unfold Dg at HM;refine AB 11 rfl (λK hK=>?_);go_simp;have h8:=hHeld.alloc hHeld.size (.cells #[pt xb,iv lab,.bool nt,iv 0,.slice none 0 0,.map (some mb),iv 0,.iface ya (pt ca),.iface yb (pt cbk)] 196);refine hK.out _ _ (λ_=>h8) (λhG=>?_);clear hK K hG;try simp only[As]
  refine tx 12 rfl ?_;refine AB 13 rfl (λK hK=>?_);go_simp;refine hK.out _ _ (λ_=>h8) (λhG=>?_);clear hK K hG;refine Ae (by kernel_rfl) ?_ _;clear h8 hHeld;go_wp2;go_ret;exact⟨⟨W.heap.size,mb,_,xb,lab,nt,_⟩,rfl,HM.o.1,rfl,HBW.o.2.1,HBW.o.2.2,rfl,rfl,HM.o.2.1,HM.o.2.2.1,by simp,HM.o.2.2.2⟩
 .go_upto_region 8 with fail
  clear y0 y1 y2 y3 y4 y5 y6 yw f0 f1 f2 f3 f4 f5 f6;refine Ac (S:=λW=>Bl W2 W) 13 (by kernel_rfl) (Wt _ _).drew (λW hHeld=>?_);refine tY 0 rfl (λw' h=>by obtain⟨-,-,f0,f1,f2,f3,f4,f5,f6⟩:=(P2.o.keep h).cells;clear h;go_simp;rfl) ?_;refine tx 1 rfl ?_;refine tx 2 rfl ?_;refine tx 3 rfl ?_;refine tY 4 rfl (λw' h=>by have o0:=(((P2.o.keep h).bel.cell (p:=(ad og 0)) (Ws _ _ HO.o.1)).trans HO.o.1);have o1:=(((P2.o.keep h).bel.cell (p:=(ad og 1)) (Ws _ _ HO.o.2)).trans HO.o.2);clear h;go_simp;rfl) ?_;refine tx 5 rfl ?_;refine tx 6 rfl ?_;refine tx 7 rfl ?_;refine tx 8 rfl ?_;refine tY 9 rfl (λw' h=>by have o0:=(((P2.o.keep h).bel.cell (p:=(ad og 0)) (Ws _ _ HO.o.1)).trans HO.o.1);have o1:=(((P2.o.keep h).bel.cell (p:=(ad og 1)) (Ws _ _ HO.o.2)).trans HO.o.2);clear h;go_simp;rfl) ?_;refine tx 10 rfl ?_;have HM:=hid ((P2.o.keep hHeld).made 196 [.iface yb (pt cbk),.iface ya (pt ca)]);unfold Dg at HM;refine AB 11 rfl (λK hK=>?_);go_simp;have h8:=hHeld.alloc hHeld.size (.cells #[pt xb,iv lab,.bool nt,iv 0,.slice none 0 0,.map (some mb),iv 0,.iface yb (pt cbk),.iface ya (pt ca)] 196);refine hK.out _ _ (λ_=>h8) (λhG=>?_);clear hK K hG;try simp only[As]
  refine tx 12 rfl ?_;refine AB 13 rfl (λK hK=>?_);go_simp;refine hK.out _ _ (λ_=>h8) (λhG=>?_);clear hK K hG;refine Ae (by kernel_rfl) ?_ _;clear h8 hHeld;go_wp2;go_ret;exact⟨⟨W.heap.size,mb,_,xb,lab,nt,_⟩,rfl,HM.o.1,rfl,HBW.o.2.1,HBW.o.2.2,rfl,rfl,HM.o.2.1,HM.o.2.2.1,by simp,HM.o.2.2.2⟩
theorem VS (wb tb xb:Nat) (id:ByteArray->Int) (Q:List Qd) (s t:ByteArray) (cb:Bool) (cl:ByteArray) (oa:Option Addr) (ol oc:Nat) (hh:Int) (ch:Int) (k:Int) (hk:k=3\/k=4\/k=5) (og on oq ya ca:Nat) (c:Nat) (w:World) (hB:Bx w wb 170 #[pt tb,pt xb]) (hT:∀V x,Below w.heap.size w V->WS 97 #[pt tb,.string x] V λe w'=>e=.returned (iv (id x))/\Below V.heap.size V w') (hX:Hz w xb Q) (ho0:w.cell? (ad og 0)=some (.iface ya (pt ca))) (hon:on=1) (hch:ch=(c:Int)) (hc:c<12) :
  WS 43 #[pt wb,.agg #[iv k,.string s,.string t,.bool cb,.string cl,.slice oa ol oc,iv hh],iv ch,.slice (some (ad og 0)) on oq] w (VD w xb id cb cl k 208 [.iface ya (pt ca),.func (.func 98) #[.agg #[iv k,.string s,.string t,.bool cb,.string cl,.slice oa ol oc,iv hh]] #[],iv 0,iv (id s),iv (id t),iv 0,.bool (Ni id k s t),iv ((c / 6:Nat):Int),iv ((c % 6:Nat):Int)]):=by
 subst hch;have HO:U (w.cell? (ad og 0)=some (.iface ya (pt ca))):=ho0;clear ho0;subst hon;obtain⟨lab,hlab⟩:∃lab,lab=id cl:=⟨_,rfl⟩;obtain⟨nt,hnt⟩:∃nt,nt=(cb && decide (id cl=0)):=⟨_,rfl⟩;have HT:U (∀V x,Below w.heap.size w V->WS 97 #[pt tb,.string x] V λe w'=>e=.returned (iv (id x))/\Below V.heap.size V w'):=hT;have HSC:U (∀W,Below w.heap.size w W->WS 96 #[pt wb,.agg #[.bool cb,.string cl]] W λe w'=>e=.returned (.agg #[pt xb,iv lab,.bool nt])/\Below W.heap.size W w'):=λW hW=>by rw[hlab,hnt];exact Ew wb tb xb id Q cb cl W ((hW.block _ hB.lt).trans hB) ⟨λV x hV=>hT V x (hW.trans (hV.mono hW.size)),(hX.below hW).1⟩
 have HBW:U (Bx w wb 170 #[pt tb,pt xb]/\lab=id cl/\nt=(cb && decide (id cl=0))):=⟨hB,hlab,hnt⟩;obtain⟨is,his⟩:∃is,is=id s:=⟨_,rfl⟩;obtain⟨it,hit⟩:∃it,it=id t:=⟨_,rfl⟩;obtain⟨ask,hask⟩:∃ask,ask=Ni id k s t:=⟨_,rfl⟩;obtain⟨wy,hwy⟩:∃wy,wy=c / 6:=⟨_,rfl⟩;obtain⟨jj,hjj⟩:∃jj,jj=c % 6:=⟨_,rfl⟩;have HPT:U (∀W,Below w.heap.size w W->WS 99 #[.agg #[iv k,.string s,.string t,.bool cb,.string cl,.slice oa ol oc,iv hh],pt tb] W λe w'=>e=.returned (.tuple #[.agg #[iv 0,iv is,iv it,iv 0],.bool ask])/\Below W.heap.size W w'):=λW hW=>by rw[his,hit,hask];exact Mv k s t cb cl oa ol oc hh tb id W (λV x hV=>hT V x (hW.trans (hV.mono hW.size)))
 have hq1:Int.tdiv (c:Int) 6=(wy:Int):=by rw[hwy,Int.tdiv_eq_ediv_of_nonneg (by omega)];omega
 have hq2:Int.tmod (c:Int) 6=(jj:Int):=by rw[hjj,Int.tmod_eq_emod_of_nonneg (by omega)];omega
 have hq3:IntKind.i64.wrap (wy:Int)=(wy:Int):=by rw[Wz];omega
 have hq4:IntKind.i64.wrap (jj:Int)=(jj:Int):=by rw[Wz];omega
 have hpty:CR k=205:=by rcases hk with rfl|rfl|rfl <;> rfl
 have c1:(k == 1)=false:=by simp;omega
 have c2:(k == 2)=false:=by simp;omega
 have c6:(k == 6)=false:=by simp;omega
 have c7:(k == 7)=false:=by simp;omega
 have c8:(k == 8)=false:=by simp;omega
 have c9:(k == 9)=false:=by simp;omega
 unfold VD;rw[<- his,<- hit,<- hask,<- hwy,<- hjj,hpty];clear his hit hask hwy hjj hpty;clear hB hT hX hlab hnt hk;obtain⟨W0,hW0⟩:∃W0,W0=w.alloc (.cells #[iv k,.string s,.string t,.bool cb,.string cl,.slice oa ol oc,iv hh] 102):=⟨_,rfl⟩;have P0:U (Bx W0 w.heap.size 102 #[iv k,.string s,.string t,.bool cb,.string cl,.slice oa ol oc,iv hh]/\Below w.heap.size w W0):=by rw[hW0];exact⟨Bx.new _ _ _,Aa _ _⟩
 have hmm:=@run_makeMap Tryz.prog;go_enter Tryz.func43,Tryz.ntmps43;go_upto_region 1 with fail
 rw[<- hW0];clear hW0;obtain⟨x3,x4⟩:W0.cell? (ad w.heap.size 3)=some (.bool cb)/\W0.cell? (ad w.heap.size 4)=some (.string cl):=⟨P0.o.1.cell 3,P0.o.1.cell 4⟩;go_wp2_with fail
 refine (HSC.o W0 P0.o.2).mono ?_;rintro e w1 ⟨rfl,hb1⟩;obtain⟨mb,hmb⟩:∃mb,mb=w1.heap.size:=⟨_,rfl⟩;obtain⟨W2,hW2⟩:∃W2,W2=(w1.alloc (.map #[] 0)).alloc (.cells #[pt xb,iv lab,.bool nt,iv 0,.slice none 0 0,.map (some mb),iv 0] 186):=⟨_,rfl⟩;have P2:U (QD w W2 wb tb xb lab nt k s t cb cl oa ol oc hh (w1.heap.size+1) mb):=by
  have hbw:=P0.o.2.trans (hb1.mono P0.o.2.size);have hba:Below w1.heap.size w1 (w1.alloc (.map #[] 0)):=Aa _ _;have hbb:Below (w1.alloc (.map #[] 0)).heap.size (w1.alloc (.map #[] 0)) W2:=by rw[hW2];exact Aa _ _
  have hbc:Below w1.heap.size w1 W2:=hba.trans (hbb.mono hba.size);have hp:=(hb1.block _ P0.o.1.lt).trans P0.o.1;have hd:=(hbw.block _ HBW.o.1.lt).trans HBW.o.1;have b2:=Bx.new (w1.alloc (.map #[] 0)) #[pt xb,iv lab,.bool nt,iv 0,.slice none 0 0,.map (some mb),iv 0] 186;rw[<- hW2] at b2;have hz:(w1.alloc (.map #[] 0)).heap.size=w1.heap.size+1:=by simp
  rw[hz] at b2;refine⟨(hbc.block _ (Bx.lt hp)).trans hp,(hbc.block _ (Bx.lt hd)).trans hd,b2,?_,⟨by rw[hmb];exact hbw.size,by omega⟩,hbw.trans (hbc.mono hbw.size)⟩;rw[hmb];exact (Ml w1 (λ_=>False) (λ_ q=>q)).fr (P:=λ_=>False) (Fr.ofBelow hbb) (λq=>q)
 go_upto_region 2 with fail
 rw[<- hmb];rw[<- hW2];clear hW2 hb1 P0 x3 x4 hmm;rw[<- hmb] at P2;generalize mb+1=fb at P2 ⊢;clear hmb;obtain⟨⟨y0,y1,y2,y3,y4,y5,y6⟩,yw,f0,f1,f2,f3,f4,f5,f6⟩:=P2.o.cells;go_upto_region 15 with fail
 clear y0 y1 y2 y3 y4 y5 y6 yw f0 f1 f2 f3 f4 f5 f6;refine Ac (S:=λW=>Below W2.heap.size W2 W) 12 (by kernel_rfl) (Wt _ _).drew (λW hHeld=>?_);refine ty 0 rfl (λw' h=>by obtain⟨-,-,f0,f1,f2,f3,f4,f5,f6⟩:=(P2.o.keep h).cells;clear h;go_simp;rfl) ?_;refine tx 1 rfl ?_;refine tx 2 rfl ?_;refine ty 3 rfl (λw' h=>by have o0:=(((P2.o.keep h).bel.cell (p:=(ad og 0)) (Ws _ _ HO.o)).trans HO.o);clear h;go_simp;rfl) ?_;refine ty 4 rfl (λw' h=>by obtain⟨⟨y0,y1,y2,y3,y4,y5,y6⟩,-,-⟩:=(P2.o.keep h).cells;clear h;go_simp;rfl) ?_;refine tx 5 rfl ?_;refine tx 6 rfl ?_;refine tx 7 rfl ?_;refine tx 8 rfl ?_;refine tx 9 rfl ?_;refine tx 10 rfl ?_;refine AB 11 rfl (λK hK=>?_);go_simp;have h8:Below W2.heap.size W2 (W.alloc (.cells #[pt xb,iv lab,.bool nt,iv 0,.slice none 0 0,.map (some mb),iv 0,.iface ya (pt ca),.func (.func 98) #[.agg #[iv k,.string s,.string t,.bool cb,.string cl,.slice oa ol oc,iv hh]] #[],iv 0,iv 0,iv 0,iv 0,.bool false,iv (wy:Int),iv (jj:Int)] 208)):=hHeld.alloc hHeld.size _;have bx8:Bx (W.alloc (.cells #[pt xb,iv lab,.bool nt,iv 0,.slice none 0 0,.map (some mb),iv 0,.iface ya (pt ca),.func (.func 98) #[.agg #[iv k,.string s,.string t,.bool cb,.string cl,.slice oa ol oc,iv hh]] #[],iv 0,iv 0,iv 0,iv 0,.bool false,iv (wy:Int),iv (jj:Int)] 208)) W.heap.size 208 #[pt xb,iv lab,.bool nt,iv 0,.slice none 0 0,.map (some mb),iv 0,.iface ya (pt ca),.func (.func 98) #[.agg #[iv k,.string s,.string t,.bool cb,.string cl,.slice oa ol oc,iv hh]] #[],iv 0,iv 0,iv 0,iv 0,.bool false,iv (wy:Int),iv (jj:Int)]:=Bx.new _ _ _;refine hK.out _ _ (λ_=>h8) (λhG=>?_);clear hK K hG;try simp only[As]
 refine AB 12 rfl (λK hK=>?_);go_simp;refine hK.out _ _ (λ_=>h8) (λhG=>?_);clear hK K hG;refine Ae (by kernel_rfl) ?_ _;have HW5:U (Below W.heap.size W (W.alloc (.cells #[pt xb,iv lab,.bool nt,iv 0,.slice none 0 0,.map (some mb),iv 0,.iface ya (pt ca),.func (.func 98) #[.agg #[iv k,.string s,.string t,.bool cb,.string cl,.slice oa ol oc,iv hh]] #[],iv 0,iv 0,iv 0,iv 0,.bool false,iv (wy:Int),iv (jj:Int)] 208))):=Aa _ _;obtain⟨ob,hob⟩:∃ob,ob=W.heap.size:=⟨_,rfl⟩;have P5:U (QD w W wb tb xb lab nt k s t cb cl oa ol oc hh fb mb/\ob=W.heap.size):=⟨P2.o.keep hHeld,hob⟩;rw[<- hob] at bx8 HW5 ⊢;generalize W.alloc (.cells #[pt xb,iv lab,.bool nt,iv 0,.slice none 0 0,.map (some mb),iv 0,.iface ya (pt ca),.func (.func 98) #[.agg #[iv k,.string s,.string t,.bool cb,.string cl,.slice oa ol oc,iv hh]] #[],iv 0,iv 0,iv 0,iv 0,.bool false,iv (wy:Int),iv (jj:Int)] 208)=W5 at bx8 HW5 ⊢;clear h8 hHeld hob;have HBX:U (Bx W5 ob 208 #[pt xb,iv lab,.bool nt,iv 0,.slice none 0 0,.map (some mb),iv 0,.iface ya (pt ca),.func (.func 98) #[.agg #[iv k,.string s,.string t,.bool cb,.string cl,.slice oa ol oc,iv hh]] #[],iv 0,iv 0,iv 0,iv 0,.bool false,iv (wy:Int),iv (jj:Int)]):=bx8;clear bx8;have HKP:U (∀V,Below ob W5 V->QD w V wb tb xb lab nt k s t cb cl oa ol oc hh fb mb):=λV hV=>P5.o.1.keep (by show Below W.heap.size W V;rw[<- P5.o.2];exact HW5.o.trans hV);go_upto_region 16 with fail
 refine Au (S:=λV=>Below ob W5 V) 16 (by kernel_rfl) (Wt _ _).drew (λhS=>?_);have hHeld:Below W5.heap.size W5 W5.drew:=(Wt _ _).drew;generalize W5.drew=V at hS hHeld ⊢;refine tx 0 rfl ?_;refine tx 1 rfl ?_;refine ty 2 rfl (λw' h=>by obtain⟨⟨y0,y1,y2,y3,y4,y5,y6⟩,-,-⟩:=(HKP.o _ h).cells;clear h;go_simp;rfl) ?_;refine tx 3 rfl ?_;refine tx 4 rfl ?_;refine tx 5 rfl ?_;refine ty 6 rfl (λw' h=>by obtain⟨-,yw,-⟩:=(HKP.o _ h).cells;clear h;go_simp;rfl) ?_;refine AB 7 rfl (λK hK=>?_);refine AF rfl 99 104 108 _ rfl (.agg #[iv k,.string s,.string t,.bool cb,.string cl,.slice oa ol oc,iv hh]) (pt tb) rfl rfl (λ_ _=>rfl) ?_;refine (HPT.o V (HKP.o _ hS).bel).mono ?_;rintro e w6 ⟨rfl,hbm⟩;have h6:Below W5.heap.size W5 w6:=hHeld.trans (hbm.mono hHeld.size);have hS6:Below ob W5 w6:=h6.mono (Nat.le_of_lt HBX.o.lt);refine⟨_,rfl,hK.out _ _ (λ_=>hS6) (λhG=>?_)⟩;clear hK K hG hbm hHeld;simp only[As];refine tx 8 rfl ?_;refine tx 9 rfl ?_;refine tx 10 rfl ?_;refine tx 11 rfl ?_;refine tx 12 rfl ?_;have bx6:Bx w6 ob 208 #[pt xb,iv lab,.bool nt,iv 0,.slice none 0 0,.map (some mb),iv 0,.iface ya (pt ca),.func (.func 98) #[.agg #[iv k,.string s,.string t,.bool cb,.string cl,.slice oa ol oc,iv hh]] #[],iv 0,iv 0,iv 0,iv 0,.bool false,iv (wy:Int),iv (jj:Int)]:=(h6.block _ HBX.o.lt).trans HBX.o;obtain⟨z9,z10,z11,z12,z13⟩:w6.cell? (ad ob 9)=some (iv 0)/\w6.cell? (ad ob 10)=some (iv 0)/\w6.cell? (ad ob 11)=some (iv 0)/\w6.cell? (ad ob 12)=some (iv 0)/\w6.cell? (ad ob 13)=some (.bool false):=⟨bx6.cell 9,bx6.cell 10,bx6.cell 11,bx6.cell 12,bx6.cell 13⟩;have zf:∀o,w6.frozen? (ad ob o)=false:=λo=>by simp[World.frozen?,show w6.heap[ob]?=_ from bx6]
 have zl:ob<w6.heap.size:=bx6.lt;obtain⟨w7,hw7⟩:∃w7,w7=(((w6.setCell (ad ob 9) (iv 0)).setCell (ad ob 10) (iv is)).setCell (ad ob 11) (iv it)).setCell (ad ob 12) (iv 0):=⟨_,rfl⟩;have P7:U (Bx w7 ob 208 #[pt xb,iv lab,.bool nt,iv 0,.slice none 0 0,.map (some mb),iv 0,.iface ya (pt ca),.func (.func 98) #[.agg #[iv k,.string s,.string t,.bool cb,.string cl,.slice oa ol oc,iv hh]] #[],iv 0,iv is,iv it,iv 0,.bool false,iv (wy:Int),iv (jj:Int)]/\Below ob W5 w7):=by rw[hw7];exact⟨AL (AL (AL (AL bx6 rfl) rfl) rfl) rfl,(((hS6.setCell (Wu _) _).setCell (Wu _) _).setCell (Wu _) _).setCell (Wu _) _⟩
 refine AB 13 rfl (λK hK=>?_);go_simp;rw[<- hw7];refine hK.out _ _ (λ_=>P7.o.2) (λhG=>?_);clear hK K hG z9 z10 z11 z12 z13 zf zl bx6 hS6 h6 hw7 hS;try simp only[As]
 have hS7:=P7.o.2;refine tx 14 rfl ?_;refine tx 15 rfl ?_;have z13:w7.cell? (ad ob 13)=some (.bool false):=P7.o.1.cell 13;have zf:∀o,w7.frozen? (ad ob o)=false:=λo=>by simp[World.frozen?,show w7.heap[ob]?=_ from P7.o.1]
 have zl:ob<w7.heap.size:=P7.o.1.lt;obtain⟨w8,hw8⟩:∃w8,w8=w7.setCell (ad ob 13) (.bool ask):=⟨_,rfl⟩;have P8:U (Bx w8 ob 208 #[pt xb,iv lab,.bool nt,iv 0,.slice none 0 0,.map (some mb),iv 0,.iface ya (pt ca),.func (.func 98) #[.agg #[iv k,.string s,.string t,.bool cb,.string cl,.slice oa ol oc,iv hh]] #[],iv 0,iv is,iv it,iv 0,.bool ask,iv (wy:Int),iv (jj:Int)]/\Below ob W5 w8):=by rw[hw8];exact⟨AL P7.o.1 rfl,P7.o.2.setCell (Wu _) _⟩
 refine AB 16 rfl (λK hK=>?_);go_simp;rw[<- hw8];refine hK.out _ _ (λhne=>absurd rfl hne) (λhG=>?_);clear hK K hG z13 zf zl hw8;refine Ae (by kernel_rfl) ?_ _;have HEnd:U (A0 w8 ⟨ob,mb,208,xb,lab,nt,[.iface ya (pt ca),.func (.func 98) #[.agg #[iv k,.string s,.string t,.bool cb,.string cl,.slice oa ol oc,iv hh]] #[],iv 0,iv is,iv it,iv 0,.bool ask,iv (wy:Int),iv (jj:Int)]⟩/\w.heap.size<=mb/\mb<ob/\ob<w8.heap.size/\Below w.heap.size w w8):=by have hm:=HKP.o _ P8.o.2;refine⟨⟨P8.o.1,hm.st⟩,hm.lt.1,?_,P8.o.1.lt,hm.bel⟩;have:=P5.o.1.st.lt;have:=P5.o.2;omega
 clear P7;go_wp2;go_ret;exact⟨⟨ob,mb,208,xb,lab,nt,[.iface ya (pt ca),.func (.func 98) #[.agg #[iv k,.string s,.string t,.bool cb,.string cl,.slice oa ol oc,iv hh]] #[],iv 0,iv is,iv it,iv 0,.bool ask,iv (wy:Int),iv (jj:Int)]⟩,rfl,HEnd.o.1,rfl,HBW.o.2.1,HBW.o.2.2,rfl,rfl,HEnd.o.2.1,HEnd.o.2.2.1,HEnd.o.2.2.2.1,HEnd.o.2.2.2.2⟩
variable {Bd:Nat->Bool}{Ch I:Nat->Int}{H0 xb:Nat}{Lb R X:Nat->ByteArray}{id:ByteArray->Int}{w w' wr:World}
def Oi (id:ByteArray->Int) (k:Int) (s t:ByteArray) (ch:Int) (v:Nat->Value) (f:Fx):Prop:=
 (k=1->f.tail=[iv ch])/\(k=2->f.tail=[iv (id s)])/\
 (k=3\/k=4\/k=5->∃(l:ByteArray) (bd:Bool) (oa:Option Addr) (ol oc:Nat) (hh:Int),Sa f (v 0) k s t l bd oa ol oc hh ⟨0,id s,id t,0⟩ (Ni id k s t) ((ch.toNat / 6:Nat):Int) (ch.toNat % 6))/\
 (k=6->f.tail=[v (if ch=1 then 1 else 0),v (if ch=1 then 0 else 1)])/\
 (k=7\/k=8->f.tail=[v 0,v 1])/\(k=9->f.tail=[v 0])
def VO (w:World) (xb:Nat) (id:ByteArray->Int) (cb:Bool) (cl:ByteArray) (k:Int) (s t:ByteArray) (ch:Int) (v:Nat->Value) (e:Ending) (w' : World):Prop:=
 ∃f:Fx,e=.returned (.iface (CR k) (pt f.ob))/\A0 w' f/\f.xb=xb/\f.lab=id cl/\f.nt=(cb && decide (id cl=0))/\Oi id k s t ch v f/\w.heap.size<=f.mb/\f.mb<f.ob/\f.ob<w'.heap.size/\Bl w w'
theorem CI {B q:Nat} {v:Value} {Ty Ob F:Nat->Nat} (h:w.ownsRow B 104 1 v q (Ca Ty Ob F q)) (hq:0<q):∃g c,v=.slice (some (ad g 0)) q c/\∀j,j<q->w.cell? (ad g j)=some (.iface (Ty (F j)) (.pointer (some (ad (Ob (F j)) 0)))):=by
 obtain⟨_,⟨rfl,h0⟩|⟨g,cap,cur,rfl,hg,hb,h1,h2,h3,h4⟩⟩:=h;.omega
 .refine⟨g,cap,rfl,λj hj=>?_⟩;have e:(Ca Ty Ob F q)[j]?=some (.iface (Ty (F j)) (.pointer (some (ad (Ob (F j)) 0)))):=by unfold Ca;rw[WQ,List.getElem?_range hj];rfl
  rw[<- h4,WP (by omega),Array.getElem?_toList] at e;simp only[World.cell?,hb];exact e
theorem GJ {cb:Bool} {cl:ByteArray} {k:Int} {s t:ByteArray} {ch:Int} {v:Nat->Value} {ty:TypeId} {tail:List Value} {e:Ending} (h:VD w xb id cb cl k ty tail e w') (ht:∀f:Fx,f.tail=tail->Oi id k s t ch v f):VO w xb id cb cl k s t ch v e w':=by obtain⟨f,h1,h2,h3,h4,h5,h6,h7,h8,h9,h10,h11⟩:=h;exact⟨f,h1,h2,h3,h4,h5,ht f h7,h8,h9,h10,h11⟩
theorem K4 (k:Int) (hk:1<=k/\k<=9) (wb tb xb:Nat) (id:ByteArray->Int) (Q:List Qd) (s t:ByteArray) (cb:Bool) (cl:ByteArray) (oa:Option Addr) (ol oc:Nat) (hh ch:Int) (hgc:BJ k cb ch=true) (Ty Ob F:Nat->Nat) (ov:Value) (B:Nat) (w:World) (ho:w.ownsRow B 104 1 ov (Ah k) (Ca Ty Ob F (Ah k))) (hB:Bx w wb 170 #[pt tb,pt xb]) (hT:∀V x,Bl w V->WS 97 #[pt tb,.string x] V (WT V (iv (id x)))) (hX:Hz w xb Q) :
  WS 43 #[pt wb,.agg #[iv k,.string s,.string t,.bool cb,.string cl,.slice oa ol oc,iv hh],iv ch,ov] w (VO w xb id cb cl k s t ch (λj=>.iface (Ty (F j)) (.pointer (some (ad (Ob (F j)) 0))))):=by
 have h9:k=1\/k=2\/(k=3\/k=4\/k=5)\/k=6\/k=7\/k=8\/k=9:=by omega
 rcases h9 with rfl|rfl|h345|rfl|rfl|rfl|rfl;.exact (Nk _ _ _ _ wb tb xb id Q s t cb cl oa ol oc hh ch w hB hT hX (.inl ⟨rfl,rfl,rfl⟩)).mono (λe w' h=>GJ h (λf hf=>⟨λ_=>hf,λq=>absurd q (by decide),λq=>absurd q (by decide),λq=>absurd q (by decide),λq=>absurd q (by decide),λq=>absurd q (by decide)⟩))
 .exact (Nk _ _ _ _ wb tb xb id Q s t cb cl oa ol oc hh ch w hB hT hX (.inr (.inl ⟨rfl,rfl,_,(rfl:id s=id s),rfl⟩))).mono (λe w' h=>GJ h (λf hf=>⟨λq=>absurd q (by decide),λ_=>hf,λq=>absurd q (by decide),λq=>absurd q (by decide),λq=>absurd q (by decide),λq=>absurd q (by decide)⟩))
 .have ha:Ah k=1:=by rcases h345 with rfl|rfl|rfl <;> rfl
  rw[ha] at ho;obtain⟨g,c,rfl,hc⟩:=CI ho (by omega);have hr:0<=ch/\ch<12:=by unfold BJ at hgc;rw[if_neg (by omega),if_pos h345,Bool.and_eq_true] at hgc;exact of_decide_eq_true hgc.1
  refine (VS wb tb xb id Q s t cb cl oa ol oc hh ch k h345 g 1 c (Ty (F 0)) (Ob (F 0)) ch.toNat w hB hT hX (hc 0 (by omega)) rfl (by omega) (by omega)).mono (λe w' h=>GJ h (λf hf=>⟨λq=>by omega,λq=>by omega,λ_=>⟨cl,cb,oa,ol,oc,hh,hf⟩,λq=>by omega,λq=>by omega,λq=>by omega⟩))
 .obtain⟨g,c,rfl,hc⟩:=CI ho (by decide);have hr:ch=0\/ch=1:=by unfold BJ at hgc;rw[if_neg (by decide),if_neg (by decide),if_pos rfl] at hgc;exact of_decide_eq_true hgc
  rcases hr with rfl|rfl;.exact (Nk _ _ _ _ wb tb xb id Q s t cb cl oa ol oc hh 0 w hB hT hX (.inr (.inr (.inr ⟨g,c,_,_,_,_,rfl,hid (ai (hc 0 (by decide)) (hc 1 (by decide))),(.inr (.inr (.inl ⟨rfl,rfl,rfl,rfl⟩)))⟩)))).mono (λe w' h=>GJ h (λf hf=>⟨λq=>absurd q (by decide),λq=>absurd q (by decide),λq=>absurd q (by decide),λ_=>hf,λq=>absurd q (by decide),λq=>absurd q (by decide)⟩))
  .exact (Nk _ _ _ _ wb tb xb id Q s t cb cl oa ol oc hh 1 w hB hT hX (.inr (.inr (.inr ⟨g,c,_,_,_,_,rfl,hid (ai (hc 0 (by decide)) (hc 1 (by decide))),(.inr (.inr (.inr ⟨rfl,rfl,rfl,rfl⟩)))⟩)))).mono (λe w' h=>GJ h (λf hf=>⟨λq=>absurd q (by decide),λq=>absurd q (by decide),λq=>absurd q (by decide),λ_=>hf,λq=>absurd q (by decide),λq=>absurd q (by decide)⟩))
 .obtain⟨g,c,rfl,hc⟩:=CI ho (by decide);exact (Nk _ _ _ _ wb tb xb id Q s t cb cl oa ol oc hh ch w hB hT hX (.inr (.inr (.inr ⟨g,c,_,_,_,_,rfl,hid (ai (hc 0 (by decide)) (hc 1 (by decide))),(.inl ⟨rfl,rfl,rfl⟩)⟩)))).mono (λe w' h=>GJ h (λf hf=>⟨λq=>absurd q (by decide),λq=>absurd q (by decide),λq=>absurd q (by decide),λq=>absurd q (by decide),λ_=>hf,λq=>absurd q (by decide)⟩))
 .obtain⟨g,c,rfl,hc⟩:=CI ho (by decide);exact (Nk _ _ _ _ wb tb xb id Q s t cb cl oa ol oc hh ch w hB hT hX (.inr (.inr (.inr ⟨g,c,_,_,_,_,rfl,hid (ai (hc 0 (by decide)) (hc 1 (by decide))),(.inr (.inl ⟨rfl,rfl,rfl⟩))⟩)))).mono (λe w' h=>GJ h (λf hf=>⟨λq=>absurd q (by decide),λq=>absurd q (by decide),λq=>absurd q (by decide),λq=>absurd q (by decide),λ_=>hf,λq=>absurd q (by decide)⟩))
 .obtain⟨g,c,rfl,hc⟩:=CI ho (by decide);exact (Nk _ _ _ _ wb tb xb id Q s t cb cl oa ol oc hh ch w hB hT hX (.inr (.inr (.inl ⟨rfl,rfl,g,c,_,_,rfl,hid (hc 0 (by decide)),rfl⟩)))).mono (λe w' h=>GJ h (λf hf=>⟨λq=>absurd q (by decide),λq=>absurd q (by decide),λq=>absurd q (by decide),λq=>absurd q (by decide),λq=>absurd q (by decide),λ_=>hf⟩))
structure Mk (wr:World) (k H0 xb:Nat) (id:ByteArray->Int) (I:Nat->Int) (X R:Nat->ByteArray) (Ch:Nat->Int) (Bd:Nat->Bool) (Lb:Nat->ByteArray) (fx:Nat->Fx):Prop where
 fr:∀i,i<k->A0 wr (fx i)
 lo:∀i,i<k->H0<=(fx i).mb/\(fx i).mb<(fx i).ob/\(fx i).ob<wr.heap.size
 up:∀i j,i<j->j<k->(fx i).ob<(fx j).mb
 sc:∀i,i<k->(fx i).xb=xb/\(fx i).lab=id (Lb i)/\(fx i).nt=(Bd i && decide (id (Lb i)=0))
 tl:∀i,i<k->K7 id I X R Ch fx i
theorem Mk.apart {k:Nat} {fx:Nat->Fx} (h:Mk wr k H0 xb id I X R Ch Bd Lb fx) {i j:Nat} (hi:i<k) (hj:j<k) (hne:i≠j):BP (fx i) (fx j):=by
 have h1:=h.lo i hi;have h2:=h.lo j hj;unfold BP;rcases Nat.lt_or_gt_of_ne hne with q|q;.have:=h.up i j q hj;omega
 .have:=h.up j i q hi;omega
theorem Mk.below {k:Nat} {fx:Nat->Fx} {P:Nat->Prop} (h:Mk wr k H0 xb id I X R Ch Bd Lb fx) (hb:Fr P wr w') (hP:∀i,i<k->¬ P (fx i).ob/\¬ P (fx i).mb):Mk w' k H0 xb id I X R Ch Bd Lb fx:=
 ⟨λi hi=>(h.fr i hi).fr hb (hP i hi).1 (hP i hi).2,λi hi=>⟨(h.lo i hi).1,(h.lo i hi).2.1,WF (h.lo i hi).2.2 hb.size⟩,h.up,h.sc,h.tl⟩
theorem Mk.step {k:Nat} {fx:Nat->Fx} (h:Mk w' k H0 xb id I X R Ch Bd Lb fx) (hop:∀i,i<=k->∀j,j<Ah (I i)->AK (At I) i j<i) (f:Fx) (hB:wr.heap.size<=f.mb) (hlo:∀i,i<k->(fx i).ob<wr.heap.size) (hH0:H0<=wr.heap.size) (h1:A0 w' f) (h2:f.mb<f.ob/\f.ob<w'.heap.size) (h3:f.xb=xb/\f.lab=id (Lb k)/\f.nt=(Bd k && decide (id (Lb k)=0))) (h4:Oi id (I k) (X k) (R k) (Ch k) (λj=>Jy I fx (AK (At I) k j)) f) :
  Mk w' (k+1) H0 xb id I X R Ch Bd Lb (λi=>if i=k then f else fx i):=by
 obtain⟨fn,hfn⟩:=gn (λi=>if i=k then f else fx i);rw[<- hfn];have e:∀i,i<k->fn i=fx i:=λi hi=>by rw[hfn];show (if i=k then f else fx i)=fx i;rw[if_neg (by omega)]
 have ek:fn k=f:=by rw[hfn];show (if k=k then f else fx k)=f;rw[if_pos rfl]
 clear hfn;have ev:∀i,i<=k->∀j,j<Ah (I i)->Jy I fn (AK (At I) i j)=Jy I fx (AK (At I) i j):=λi hi j hj=>by have:=hop i hi j hj;unfold Jy;rw[e _ (by omega)]
 refine⟨λi hi=>?_,λi hi=>?_,λi j hij hj=>?_,λi hi=>?_,λi hi=>?_⟩
 .by_cases q:i=k;.rw[q,ek];exact h1
  .rw[e i (by omega)];exact h.fr i (by omega)
 .by_cases q:i=k;.rw[q,ek];exact⟨by omega,h2⟩
  .rw[e i (by omega)];exact h.lo i (by omega)
 .by_cases q:j=k;.subst q;rw[ek,e i hij];have:=hlo i hij;omega
  .rw[e i (by omega),e j (by omega)];exact h.up i j hij (by omega)
 .by_cases q:i=k;.subst q;rw[ek];exact h3
  .rw[e i (by omega)];exact h.sc i (by omega)
 .have hki:∀k',3<=k'->k'<=9->1<=Ah k':=λk' q1 q2=>by unfold Ah;rw[if_neg (by omega)];split <;> omega
  by_cases q:i=k
  .subst q;unfold K7;obtain⟨a1,a2,a3,a4,a5,a6⟩:=h4;rw[ek];refine⟨a1,a2,λq=>?_,λq=>?_,λq=>?_,λq=>?_⟩;.obtain⟨l,bd,oa,ol,oc,hh,hs⟩:=a3 q;rw[ev i (Wu _) 0 (hki _ (by omega) (by omega))];exact⟨l,bd,oa,ol,oc,hh,hs⟩
   .have h2' : Ah (I i)=2:=by rw[q];rfl
    rw[ev i (Wu _) _ (by split <;> omega),ev i (Wu _) _ (by split <;> omega)];exact a4 q
   .have h2' : Ah (I i)=2:=by rcases q with q|q <;> (rw[q];rfl)
    rw[ev i (Wu _) 0 (by omega),ev i (Wu _) 1 (by omega)];exact a5 q
   .rw[ev i (Wu _) 0 (hki _ (by omega) (by omega))];exact a6 q
  .obtain⟨a1,a2,a3,a4,a5,a6⟩:=h.tl i (by omega);unfold K7;rw[e i (by omega)];refine⟨a1,a2,λq=>?_,λq=>?_,λq=>?_,λq=>?_⟩;.obtain⟨l,bd,oa,ol,oc,hh,hs⟩:=a3 q;rw[ev i (by omega) 0 (hki _ (by omega) (by omega))];exact⟨l,bd,oa,ol,oc,hh,hs⟩
   .have h2' : Ah (I i)=2:=by rw[q];rfl
    rw[ev i (by omega) _ (by split <;> omega),ev i (by omega) _ (by split <;> omega)];exact a4 q
   .have h2' : Ah (I i)=2:=by rcases q with q|q <;> (rw[q];rfl)
    rw[ev i (by omega) 0 (by omega),ev i (by omega) 1 (by omega)];exact a5 q
   .rw[ev i (by omega) 0 (hki _ (by omega) (by omega))];exact a6 q
end Go.Proofs.YtacpbofiipdodaaGreat
