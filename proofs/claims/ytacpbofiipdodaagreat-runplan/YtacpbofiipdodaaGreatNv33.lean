import Derived.Test.YtacpbofiipdodaaGreatNv26
import Derived.Test.YtacpbofiipdodaaGreatNv32
import Derived.Test.YtacpbofiipdodaaGreatNv27
set_option linter.unusedVariables false
set_option linter.unusedSimpArgs false
set_option maxRecDepth 100000
set_option maxHeartbeats 90000000
namespace Go.Proofs.YtacpbofiipdodaaGreat
open Go Go.Deep Go.RowKit
variable {W w:World}{b:Bool}{b6 oc ol:Nat}{h is it:Int}{l s t:ByteArray}{oa:Option Addr}{v0 v1 v2 v3:Value}
theorem Cn {l:List Oper}{P:Program}{Q:Exit->Act->World->Prop}{S:World->Prop}{late:Nat}{oi oj:Oper}{fuel:Nat}{listed:Array Bool}{a:Act} (i j:Nat) (hpi:Cq i l oi) (hpj:Cq j l oj) (hr:Region.ready .any l.toArray listed=[i,j]) (hi:∀K' : Act->World->Prop,Shut (∀a w,(i≠late->S w)->((i≠late->S w)->Ay P .any l.toArray Q S late fuel (listed.setIfInBounds i true) a w)->K' a w)->if Region.wanted oi (yielded l.toArray a.tmps)=true then Oper.wp P oi a w K' Q else K' (a.put oi.dst undef) w) (hj:∀K' : Act->World->Prop,Shut (∀a w,(j≠late->S w)->((j≠late->S w)->Ay P .any l.toArray Q S late fuel (listed.setIfInBounds j true) a w)->K' a w)->if Region.wanted oj (yielded l.toArray a.tmps)=true then Oper.wp P oj a w K' Q else K' (a.put oj.dst undef) w):
  Ay P .any l.toArray Q S late (fuel+1) listed a w:=
 ⟨λh0=>(by rw[hr] at h0;cases h0),λk hk=>by
  rw[hr] at hk
  simp only[List.mem_cons,List.not_mem_nil,or_false] at hk
  rcases hk with rfl|rfl
  .exact wpOp_step hpi.get (λK' hK=>hi K' (λa w hS hW=>hK a w ⟨hS,hW hS⟩))
  .exact wpOp_step hpj.get (λK' hK=>hj K' (λa w hS hW=>hK a w ⟨hS,hW hS⟩))⟩
def Vg (w:World) (tb:Nat) (id:ByteArray->Int):Prop:=∀V x,Bl w V->WS 97 #[pt tb,.string x] V (WT V (iv (id x)))
structure RQ (w W:World) (k:Int) (s t:ByteArray) (b:Bool) (l:ByteArray) (oa:Option Addr) (ol oc:Nat) (h:Int):Prop where
 pb:Bx W w.heap.size 102 #[iv k,.string s,.string t,.bool b,.string l,.slice oa ol oc,iv h]
 qb:Bx W (w.heap.size+1) 140 #[iv 0,iv 0,iv 0,iv 0]
 bel:Bl w W
theorem RQ.keep {W':World} {k:Int} (q:RQ w W k s t b l oa ol oc h) (hb:Bl W W'):RQ w W' k s t b l oa ol oc h:=
 ⟨(hb.block _ q.pb.lt).trans q.pb,(hb.block _ q.qb.lt).trans q.qb,q.bel.trans (hb.mono q.bel.size)⟩
theorem RQ.cells {k:Int} (q:RQ w W k s t b l oa ol oc h):W.cell? (ad w.heap.size 0)=some (iv k)/\W.cell? (ad w.heap.size 1)=some (.string s)/\W.cell? (ad w.heap.size 2)=some (.string t):=by have p0:=q.pb.cell 0;have p1:=q.pb.cell 1;have p2:=q.pb.cell 2;simp at p0 p1 p2;exact⟨p0,p1,p2⟩
theorem AL {b:Nat} {t:TypeId} {c d:Array Value} {i:Nat} {v:Value} (h:Bx W b t c) (e:c.setIfInBounds i v=d):Bx (W.setCell (ad b i) v) b t d:=by unfold Bx at h ⊢;rw[<- e];simp[World.setCell,Array.getElem?_modify,h]
theorem Jk {b:Nat} (h:Bx W b 140 #[iv 0,iv 0,iv 0,iv 0]):Bx ((((W.setCell (ad b 0) (iv 0)).setCell (ad b 1) (iv is)).setCell (ad b 2) (iv it)).setCell (ad b 3) (iv 0)) b 140 #[iv 0,iv is,iv it,iv 0]:=
 AL (AL (AL (AL h rfl) rfl) rfl) rfl
theorem RQ.keep_set {W9:World} {k:Int} (q:RQ w W9 k s t b l oa ol oc h) (hb:Bl W9 W) {bb:Nat} (hbb:w.heap.size+2<=bb):RQ w ((((W.setCell (ad bb 0) v0).setCell (ad bb 1) v1).setCell (ad bb 2) v2).setCell (ad bb 3) v3) k s t b l oa ol oc h:=by
 have q':=q.keep hb;have ne:∀(V:World) (i:Nat) (v:Value) (g:Nat),g≠bb->(V.setCell (ad bb i) v).heap[g]?=V.heap[g]?:=λV i v g hg=>Wv _ _ _ _ hg;refine⟨?_,?_,(((q'.bel.setCell (by show w.heap.size<=bb;omega) _).setCell (by show w.heap.size<=bb;omega) _).setCell (by show w.heap.size<=bb;omega) _).setCell (by show w.heap.size<=bb;omega) _⟩;.unfold Bx;rw[ne _ _ _ _ (by omega),ne _ _ _ _ (by omega),ne _ _ _ _ (by omega),ne _ _ _ _ (by omega)];exact q'.pb
 .unfold Bx;rw[ne _ _ _ _ (by omega),ne _ _ _ _ (by omega),ne _ _ _ _ (by omega),ne _ _ _ _ (by omega)];exact q'.qb
structure JQ (w W:World) (b6:Nat) (k:Int) (s t:ByteArray) (b:Bool) (l:ByteArray) (oa:Option Addr) (ol oc:Nat) (h is it:Int):Prop where
 pb:Bx W w.heap.size 102 #[iv k,.string s,.string t,.bool b,.string l,.slice oa ol oc,iv h]
 bb:Bx W b6 140 #[iv 0,iv is,iv it,iv 0]
 qx:∃c0 c1 c2 c3,Bx W (w.heap.size+1) 140 #[c0,c1,c2,c3]
 bel:Bl w W
theorem JQ.drew {w W:World} {b6:Nat} {k:Int} {s t:ByteArray} {b:Bool} {l:ByteArray} {oa:Option Addr} {ol oc:Nat} {h is it:Int} (q:JQ w W b6 k s t b l oa ol oc h is it):JQ w W.drew b6 k s t b l oa ol oc h is it:=⟨q.pb,q.bb,q.qx,q.bel.drew⟩
theorem JQ.cells {k:Int} (q:JQ w W b6 k s t b l oa ol oc h is it):(W.cell? (ad w.heap.size 0)=some (iv k)/\W.cell? (ad w.heap.size 1)=some (.string s)/\W.cell? (ad w.heap.size 2)=some (.string t))/\(W.cell? (ad b6 0)=some (iv 0)/\W.cell? (ad b6 1)=some (iv is)/\W.cell? (ad b6 2)=some (iv it)/\W.cell? (ad b6 3)=some (iv 0)):=by have p0:=q.pb.cell 0;have p1:=q.pb.cell 1;have p2:=q.pb.cell 2;have b0:=q.bb.cell 0;have b1:=q.bb.cell 1;have b2:=q.bb.cell 2;have b3:=q.bb.cell 3;simp at p0 p1 p2 b0 b1 b2 b3;exact⟨⟨p0,p1,p2⟩,b0,b1,b2,b3⟩
theorem JQ.store {k:Int} (q:JQ w W b6 k s t b l oa ol oc h is it) {c0 c1 c2 c3:Value} (hq:Bx W (w.heap.size+1) 140 #[c0,c1,c2,c3]) (h6:w.heap.size+2<=b6):JQ w ((((W.setCell (ad (w.heap.size+1) 0) v0).setCell (ad (w.heap.size+1) 1) v1).setCell (ad (w.heap.size+1) 2) v2).setCell (ad (w.heap.size+1) 3) v3) b6 k s t b l oa ol oc h is it/\Bx ((((W.setCell (ad (w.heap.size+1) 0) v0).setCell (ad (w.heap.size+1) 1) v1).setCell (ad (w.heap.size+1) 2) v2).setCell (ad (w.heap.size+1) 3) v3) (w.heap.size+1) 140 #[v0,v1,v2,v3]:=by
 have hbx:Bx ((((W.setCell (ad (w.heap.size+1) 0) v0).setCell (ad (w.heap.size+1) 1) v1).setCell (ad (w.heap.size+1) 2) v2).setCell (ad (w.heap.size+1) 3) v3) (w.heap.size+1) 140 #[v0,v1,v2,v3]:=AL (AL (AL (AL hq rfl) rfl) rfl) rfl;have ne:∀(V:World) (i:Nat) (v:Value) (g:Nat),g≠w.heap.size+1->(V.setCell (ad (w.heap.size+1) i) v).heap[g]?=V.heap[g]?:=λV i v g hg=>Wv _ _ _ _ hg;refine⟨⟨?_,?_,⟨_,_,_,_,hbx⟩,(((q.bel.setCell (by show w.heap.size<=w.heap.size+1;omega) _).setCell (by show w.heap.size<=w.heap.size+1;omega) _).setCell (by show w.heap.size<=w.heap.size+1;omega) _).setCell (by show w.heap.size<=w.heap.size+1;omega) _⟩,hbx⟩;.unfold Bx;rw[ne _ _ _ _ (by omega),ne _ _ _ _ (by omega),ne _ _ _ _ (by omega),ne _ _ _ _ (by omega)];exact q.pb
 .unfold Bx;rw[ne _ _ _ _ (by omega),ne _ _ _ _ (by omega),ne _ _ _ _ (by omega),ne _ _ _ _ (by omega)];exact q.bb
theorem Mv (k:Int) (s t:ByteArray) (b:Bool) (l:ByteArray) (oa:Option Addr) (ol oc:Nat) (h:Int) (tb:Nat) (id:ByteArray->Int) (w:World) (hI:Vg w tb id) :
  WS 99 #[.agg #[iv k,.string s,.string t,.bool b,.string l,.slice oa ol oc,iv h],pt tb] w (WT w (.tuple #[.agg #[iv 0,iv (id s),iv (id t),iv 0],.bool (decide (¬ id s=0) && (decide (¬ k=5) || decide (¬ id t=0)))])):=by
 have HI:U (Vg w tb id):=hI;clear hI;obtain⟨is,his⟩:∃is,is=id s:=⟨_,rfl⟩;obtain⟨it,hit⟩:∃it,it=id t:=⟨_,rfl⟩;have HIs:U (∀V,Bl w V->WS 97 #[pt tb,.string s] V (WT V (iv is))):=λV hV=>by rw[his];exact HI.o V s hV
 have HIt:U (∀V,Bl w V->WS 97 #[pt tb,.string t] V (WT V (iv it))):=λV hV=>by rw[hit];exact HI.o V t hV
 rw[<- his,<- hit];clear his hit HI;obtain⟨W9,hW9⟩:∃W9,W9=(w.alloc (.cells #[iv k,.string s,.string t,.bool b,.string l,.slice oa ol oc,iv h] 102)).alloc (.cells #[iv 0,iv 0,iv 0,iv 0] 140):=⟨_,rfl⟩;have S9:U (RQ w W9 k s t b l oa ol oc h):=by rw[hW9];have b2:=Bx.new (w.alloc (.cells #[iv k,.string s,.string t,.bool b,.string l,.slice oa ol oc,iv h] 102)) #[iv 0,iv 0,iv 0,iv 0] 140;simp only[WJ] at b2;exact⟨(Bx.new w _ 102).alloc _,b2,(Aa _ _).alloc (by simp) _⟩
 go_enter Tryz.func99,Tryz.ntmps99;go_upto_region 1 with fail
 rw[<- hW9];clear hW9;go_cut [6] from 7 to 17 (λs6 wx=>∃b6,s6=pt b6/\w.heap.size+2<=b6/\Bx wx b6 140 #[iv 0,iv is,iv it,iv 0]/\RQ w wx k s t b l oa ol oc h)
 case first=>
  refine Ac (S:=λW=>Bl W9 W) 12 (by kernel_rfl) (Wt _ _).drew (λW hHeld=>?_);refine tx 0 rfl ?_;refine tx 1 rfl ?_;refine tx 2 rfl ?_;refine ty 3 rfl (λw' h=>by obtain⟨q0,q1,q2⟩:=(S9.o.keep h).cells;clear h;go_simp;rfl) ?_;refine tx 5 rfl ?_;refine tx 6 rfl ?_;refine tx 7 rfl ?_;refine ty 8 rfl (λw' h=>by obtain⟨q0,q1,q2⟩:=(S9.o.keep h).cells;clear h;go_simp;rfl) ?_;refine Cn 4 11 rfl rfl (by kernel_rfl) (λK hK=>?_) (λK hK=>?_)
  .refine AF rfl 97 7 10 _ rfl (pt tb) (.string s) rfl rfl (λ_ _=>rfl) ?_;refine (HIs.o W (S9.o.bel.trans (hHeld.mono S9.o.bel.size))).mono ?_;rintro e u0 ⟨rfl,hbm⟩;have h_u0:Bl W9 u0:=hHeld.trans (hbm.mono hHeld.size);refine⟨_,rfl,hK.out _ _ (λ_=>h_u0) (λhG=>?_)⟩;clear hK K hG hbm;simp only[As];refine Cn 9 11 rfl rfl (by kernel_rfl) (λK hK=>?_) (λK hK=>?_)
   .refine AF rfl 97 12 15 _ rfl (pt tb) (.string t) rfl rfl (λ_ _=>rfl) ?_;refine (HIt.o u0 (S9.o.bel.trans (h_u0.mono S9.o.bel.size))).mono ?_;rintro e u1 ⟨rfl,hbm⟩;have h_u1:Bl W9 u1:=h_u0.trans (hbm.mono h_u0.size);refine⟨_,rfl,hK.out _ _ (λ_=>h_u1) (λhG=>?_)⟩;clear hK K hG hbm;simp only[As];refine tx 10 rfl ?_;refine AB 11 rfl (λK hK=>?_);go_simp;have h_wa:Bl W9 (u1.alloc (.cells #[iv 0,iv 0,iv 0,iv 0] 140)):=h_u1.alloc h_u1.size _;have bx:Bx (u1.alloc (.cells #[iv 0,iv 0,iv 0,iv 0] 140)) u1.heap.size 140 #[iv 0,iv 0,iv 0,iv 0]:=Bx.new _ _ _;have hbx:w.heap.size+2<=u1.heap.size:=by have:=(S9.o.keep h_u1).qb.lt;omega
    refine hK.out _ _ (λ_=>h_wa) (λhG=>?_);clear hK K hG;try simp only[As]
    obtain⟨ba,hba⟩:∃ba,ba=u1.heap.size:=⟨_,rfl⟩;rw[<- hba] at bx hbx ⊢;generalize u1.alloc (.cells #[iv 0,iv 0,iv 0,iv 0] 140)=wa at bx h_wa ⊢;clear hba;refine AB 12 rfl (λK hK=>?_);have c0:=bx.cell 0;have c1:=bx.cell 1;have c2:=bx.cell 2;have c3:=bx.cell 3;simp at c0 c1 c2 c3;have ff:∀i,(wa).frozen? (ad ba i)=false:=λi=>by have:=bx;unfold Bx at this;simp[World.frozen?,this]
    have hlt:=bx.lt;have HBX:U (Bx (wa) ba 140 #[iv 0,iv 0,iv 0,iv 0]/\w.heap.size+2<=ba/\Bl W9 (wa)):=⟨bx,hbx,h_wa⟩;clear bx hbx;go_simp;refine hK.out _ _ (λhne=>absurd rfl hne) (λhG=>?_);clear hK K hG;refine Ae (by kernel_rfl) ?_ _;go_wp2;go_meet
    case rel=>exact⟨_,rfl,HBX.o.2.1,Jk HBX.o.1,S9.o.keep_set HBX.o.2.2 HBX.o.2.1⟩
   .go_simp;have h_wa:Bl W9 (u0.alloc (.cells #[iv 0,iv 0,iv 0,iv 0] 140)):=h_u0.alloc h_u0.size _;have bx:Bx (u0.alloc (.cells #[iv 0,iv 0,iv 0,iv 0] 140)) u0.heap.size 140 #[iv 0,iv 0,iv 0,iv 0]:=Bx.new _ _ _;have hbx:w.heap.size+2<=u0.heap.size:=by have:=(S9.o.keep h_u0).qb.lt;omega
    refine hK.out _ _ (λ_=>h_wa) (λhG=>?_);clear hK K hG;try simp only[As]
    obtain⟨ba,hba⟩:∃ba,ba=u0.heap.size:=⟨_,rfl⟩;rw[<- hba] at bx hbx ⊢;generalize u0.alloc (.cells #[iv 0,iv 0,iv 0,iv 0] 140)=wa at bx h_wa ⊢;clear hba;refine AB 9 rfl (λK hK=>?_);refine AF rfl 97 12 15 _ rfl (pt tb) (.string t) rfl rfl (λ_ _=>rfl) ?_;refine (HIt.o wa (S9.o.bel.trans (h_wa.mono S9.o.bel.size))).mono ?_;rintro e v1 ⟨rfl,hbm⟩;have h_v1:Bl W9 v1:=h_wa.trans (hbm.mono h_wa.size);replace bx:Bx v1 ba 140 #[iv 0,iv 0,iv 0,iv 0]:=(hbm.block _ bx.lt).trans bx;refine⟨_,rfl,hK.out _ _ (λ_=>h_v1) (λhG=>?_)⟩;clear hK K hG hbm;simp only[As];refine tx 10 rfl ?_;refine AB 12 rfl (λK hK=>?_);have c0:=bx.cell 0;have c1:=bx.cell 1;have c2:=bx.cell 2;have c3:=bx.cell 3;simp at c0 c1 c2 c3;have ff:∀i,(v1).frozen? (ad ba i)=false:=λi=>by have:=bx;unfold Bx at this;simp[World.frozen?,this]
    have hlt:=bx.lt;have HBX:U (Bx (v1) ba 140 #[iv 0,iv 0,iv 0,iv 0]/\w.heap.size+2<=ba/\Bl W9 (v1)):=⟨bx,hbx,h_v1⟩;clear bx hbx;go_simp;refine hK.out _ _ (λhne=>absurd rfl hne) (λhG=>?_);clear hK K hG;refine Ae (by kernel_rfl) ?_ _;go_wp2;go_meet
    case rel=>exact⟨_,rfl,HBX.o.2.1,Jk HBX.o.1,S9.o.keep_set HBX.o.2.2 HBX.o.2.1⟩
  .go_simp;have h_wa:Bl W9 (W.alloc (.cells #[iv 0,iv 0,iv 0,iv 0] 140)):=hHeld.alloc hHeld.size _;have bx:Bx (W.alloc (.cells #[iv 0,iv 0,iv 0,iv 0] 140)) W.heap.size 140 #[iv 0,iv 0,iv 0,iv 0]:=Bx.new _ _ _;have hbx:w.heap.size+2<=W.heap.size:=by have:=(S9.o.keep hHeld).qb.lt;omega
   refine hK.out _ _ (λ_=>h_wa) (λhG=>?_);clear hK K hG;try simp only[As]
   obtain⟨ba,hba⟩:∃ba,ba=W.heap.size:=⟨_,rfl⟩;rw[<- hba] at bx hbx ⊢;generalize W.alloc (.cells #[iv 0,iv 0,iv 0,iv 0] 140)=wa at bx h_wa ⊢;clear hba;refine AB 4 rfl (λK hK=>?_);refine AF rfl 97 7 10 _ rfl (pt tb) (.string s) rfl rfl (λ_ _=>rfl) ?_;refine (HIs.o wa (S9.o.bel.trans (h_wa.mono S9.o.bel.size))).mono ?_;rintro e v0 ⟨rfl,hbm⟩;have h_v0:Bl W9 v0:=h_wa.trans (hbm.mono h_wa.size);replace bx:Bx v0 ba 140 #[iv 0,iv 0,iv 0,iv 0]:=(hbm.block _ bx.lt).trans bx;refine⟨_,rfl,hK.out _ _ (λ_=>h_v0) (λhG=>?_)⟩;clear hK K hG hbm;simp only[As];refine AB 9 rfl (λK hK=>?_);refine AF rfl 97 12 15 _ rfl (pt tb) (.string t) rfl rfl (λ_ _=>rfl) ?_;refine (HIt.o v0 (S9.o.bel.trans (h_v0.mono S9.o.bel.size))).mono ?_;rintro e v1 ⟨rfl,hbm⟩;have h_v1:Bl W9 v1:=h_v0.trans (hbm.mono h_v0.size);replace bx:Bx v1 ba 140 #[iv 0,iv 0,iv 0,iv 0]:=(hbm.block _ bx.lt).trans bx;refine⟨_,rfl,hK.out _ _ (λ_=>h_v1) (λhG=>?_)⟩;clear hK K hG hbm;simp only[As];refine tx 10 rfl ?_;refine AB 12 rfl (λK hK=>?_);have c0:=bx.cell 0;have c1:=bx.cell 1;have c2:=bx.cell 2;have c3:=bx.cell 3;simp at c0 c1 c2 c3;have ff:∀i,(v1).frozen? (ad ba i)=false:=λi=>by have:=bx;unfold Bx at this;simp[World.frozen?,this]
   have hlt:=bx.lt;have HBX:U (Bx (v1) ba 140 #[iv 0,iv 0,iv 0,iv 0]/\w.heap.size+2<=ba/\Bl W9 (v1)):=⟨bx,hbx,h_v1⟩;clear bx hbx;go_simp;refine hK.out _ _ (λhne=>absurd rfl hne) (λhG=>?_);clear hK K hG;refine Ae (by kernel_rfl) ?_ _;go_wp2;go_meet
   case rel=>exact⟨_,rfl,HBX.o.2.1,Jk HBX.o.1,S9.o.keep_set HBX.o.2.2 HBX.o.2.1⟩
 case rest=>
 obtain⟨b6,rfl,hb6,bx6,hs6⟩:=hcut;have P6:U (JQ w wc b6 k s t b l oa ol oc h is it):=⟨hs6.pb,bx6,⟨_,_,_,_,hs6.qb⟩,hs6.bel⟩;clear hs6 bx6 S9 HIs HIt;by_cases h1:is=0
 .subst h1;go_upto_region 2 with fail
  refine Ac (S:=λW=>JQ w W b6 k s t b l oa ol oc h 0 it) 16 (by kernel_rfl) P6.o.drew (λW hHeld=>?_);refine ty 0 rfl (λw' h=>by obtain⟨⟨x0,x1,x2⟩,⟨y0,y1,y2,y3⟩⟩:=h.cells;clear h;go_simp;rfl) ?_;refine tx 1 rfl ?_;refine ty 2 rfl (λw' h=>by obtain⟨⟨x0,x1,x2⟩,⟨y0,y1,y2,y3⟩⟩:=h.cells;clear h;go_simp;rfl) ?_;refine tx 3 rfl (v:=.bool false) ?_;refine tx 4 rfl (v:=.bool false) ?_;refine sz 5 rfl ?_;simp only[As];refine sz 6 rfl ?_;simp only[As];refine sz 7 rfl ?_;simp only[As];refine sz 8 rfl ?_;simp only[As];refine sz 9 rfl ?_;simp only[As];refine sz 10 rfl ?_;simp only[As];refine sz 11 rfl ?_;simp only[As];refine sz 12 rfl ?_;simp only[As];refine sz 13 rfl ?_;simp only[As];refine tx 14 rfl (v:=.bool false) ?_;obtain⟨c0,c1,c2,c3,hq⟩:=hHeld.qx;have r0:=hq.cell 0;have r1:=hq.cell 1;have r2:=hq.cell 2;have r3:=hq.cell 3;simp at r0 r1 r2 r3;have ff:∀i,W.frozen? (ad (w.heap.size+1) i)=false:=λi=>by have:=hq;unfold Bx at this;simp[World.frozen?,this]
  have hlt:=hq.lt;have HQ:U (Bx W (w.heap.size+1) 140 #[c0,c1,c2,c3]):=hq;have HH:U (JQ w W b6 k s t b l oa ol oc h 0 it):=hHeld;clear hHeld hq;refine AB 15 rfl (λK hK=>?_);go_simp;obtain⟨W7,hW7⟩:∃W7,W7=(((W.setCell (ad (w.heap.size+1) 0) (iv 0)).setCell (ad (w.heap.size+1) 1) (iv 0)).setCell (ad (w.heap.size+1) 2) (iv it)).setCell (ad (w.heap.size+1) 3) (iv 0):=⟨_,rfl⟩;have H7:JQ w W7 b6 k s t b l oa ol oc h 0 it/\Bx W7 (w.heap.size+1) 140 #[iv 0,iv 0,iv it,iv 0]:=by rw[hW7];exact HH.o.store HQ.o hb6
  rw[<- hW7];clear hW7;refine hK.out _ _ (λ_=>H7.1) (λhG=>?_);clear hK K hG;try simp only[As]
  refine AB 16 rfl (λK hK=>?_);go_simp;refine hK.out _ _ (λhne=>absurd rfl hne) (λhG=>?_);clear hK K hG;refine Ae (by kernel_rfl) ?_ _;have e0:=H7.2.cell 0;have e1:=H7.2.cell 1;have e2:=H7.2.cell 2;have e3:=H7.2.cell 3;simp at e0 e1 e2 e3;go_wp2;refine bodyPost_ret (v:=.tuple #[.agg #[iv 0,iv 0,iv it,iv 0],.bool false]) (by simp[results,Tryz.results99,go_sem,e0,e1,e2,e3]) rfl ⟨by simp[*],H7.1.bel⟩
 have d1:decide (is=0)=false:=decide_eq_false h1;by_cases h5:k=5
 .subst h5;by_cases h2:it=0
  .subst h2;go_upto_region 2 with fail
   refine Ac (S:=λW=>JQ w W b6 5 s t b l oa ol oc h is 0) 16 (by kernel_rfl) P6.o.drew (λW hHeld=>?_);refine ty 0 rfl (λw' h=>by obtain⟨⟨x0,x1,x2⟩,⟨y0,y1,y2,y3⟩⟩:=h.cells;clear h;go_simp;rfl) ?_;refine tx 1 rfl ?_;refine ty 2 rfl (λw' h=>by obtain⟨⟨x0,x1,x2⟩,⟨y0,y1,y2,y3⟩⟩:=h.cells;clear h;go_simp;rfl) ?_;refine tx 3 rfl (v:=.bool true) ?_;refine tx 4 rfl (v:=.bool true) ?_;refine tx 5 rfl ?_;refine tx 6 rfl ?_;refine ty 7 rfl (λw' h=>by obtain⟨⟨x0,x1,x2⟩,⟨y0,y1,y2,y3⟩⟩:=h.cells;clear h;go_simp;rfl) ?_;refine tx 8 rfl (v:=.bool false) ?_;refine tx 9 rfl (v:=.bool false) ?_;refine tx 10 rfl ?_;refine ty 11 rfl (λw' h=>by obtain⟨⟨x0,x1,x2⟩,⟨y0,y1,y2,y3⟩⟩:=h.cells;clear h;go_simp;rfl) ?_;refine tx 12 rfl (v:=.bool false) ?_;refine tx 13 rfl (v:=.bool false) ?_;refine tx 14 rfl (v:=.bool false) ?_;obtain⟨c0,c1,c2,c3,hq⟩:=hHeld.qx;have r0:=hq.cell 0;have r1:=hq.cell 1;have r2:=hq.cell 2;have r3:=hq.cell 3;simp at r0 r1 r2 r3;have ff:∀i,W.frozen? (ad (w.heap.size+1) i)=false:=λi=>by have:=hq;unfold Bx at this;simp[World.frozen?,this]
   have hlt:=hq.lt;have HQ:U (Bx W (w.heap.size+1) 140 #[c0,c1,c2,c3]):=hq;have HH:U (JQ w W b6 5 s t b l oa ol oc h is 0):=hHeld;clear hHeld hq;refine AB 15 rfl (λK hK=>?_);go_simp;obtain⟨W7,hW7⟩:∃W7,W7=(((W.setCell (ad (w.heap.size+1) 0) (iv 0)).setCell (ad (w.heap.size+1) 1) (iv is)).setCell (ad (w.heap.size+1) 2) (iv 0)).setCell (ad (w.heap.size+1) 3) (iv 0):=⟨_,rfl⟩;have H7:JQ w W7 b6 5 s t b l oa ol oc h is 0/\Bx W7 (w.heap.size+1) 140 #[iv 0,iv is,iv 0,iv 0]:=by rw[hW7];exact HH.o.store HQ.o hb6
   rw[<- hW7];clear hW7;refine hK.out _ _ (λ_=>H7.1) (λhG=>?_);clear hK K hG;try simp only[As]
   refine AB 16 rfl (λK hK=>?_);go_simp;refine hK.out _ _ (λhne=>absurd rfl hne) (λhG=>?_);clear hK K hG;refine Ae (by kernel_rfl) ?_ _;have e0:=H7.2.cell 0;have e1:=H7.2.cell 1;have e2:=H7.2.cell 2;have e3:=H7.2.cell 3;simp at e0 e1 e2 e3;go_wp2;refine bodyPost_ret (v:=.tuple #[.agg #[iv 0,iv is,iv 0,iv 0],.bool false]) (by simp[results,Tryz.results99,go_sem,e0,e1,e2,e3]) rfl ⟨by simp[*],H7.1.bel⟩
  .have d2:decide (it=0)=false:=decide_eq_false h2;go_upto_region 2 with fail
   refine Ac (S:=λW=>JQ w W b6 5 s t b l oa ol oc h is it) 16 (by kernel_rfl) P6.o.drew (λW hHeld=>?_);refine ty 0 rfl (λw' h=>by obtain⟨⟨x0,x1,x2⟩,⟨y0,y1,y2,y3⟩⟩:=h.cells;clear h;go_simp;rfl) ?_;refine tx 1 rfl ?_;refine ty 2 rfl (λw' h=>by obtain⟨⟨x0,x1,x2⟩,⟨y0,y1,y2,y3⟩⟩:=h.cells;clear h;go_simp;rfl) ?_;refine tx 3 rfl (v:=.bool true) ?_;refine tx 4 rfl (v:=.bool true) ?_;refine tx 5 rfl ?_;refine tx 6 rfl ?_;refine ty 7 rfl (λw' h=>by obtain⟨⟨x0,x1,x2⟩,⟨y0,y1,y2,y3⟩⟩:=h.cells;clear h;go_simp;rfl) ?_;refine tx 8 rfl (v:=.bool false) ?_;refine tx 9 rfl (v:=.bool false) ?_;refine tx 10 rfl ?_;refine ty 11 rfl (λw' h=>by obtain⟨⟨x0,x1,x2⟩,⟨y0,y1,y2,y3⟩⟩:=h.cells;clear h;go_simp;rfl) ?_;refine tx 12 rfl (v:=.bool true) ?_;refine tx 13 rfl (v:=.bool true) ?_;refine tx 14 rfl (v:=.bool true) ?_;obtain⟨c0,c1,c2,c3,hq⟩:=hHeld.qx;have r0:=hq.cell 0;have r1:=hq.cell 1;have r2:=hq.cell 2;have r3:=hq.cell 3;simp at r0 r1 r2 r3;have ff:∀i,W.frozen? (ad (w.heap.size+1) i)=false:=λi=>by have:=hq;unfold Bx at this;simp[World.frozen?,this]
   have hlt:=hq.lt;have HQ:U (Bx W (w.heap.size+1) 140 #[c0,c1,c2,c3]):=hq;have HH:U (JQ w W b6 5 s t b l oa ol oc h is it):=hHeld;clear hHeld hq;refine AB 15 rfl (λK hK=>?_);go_simp;obtain⟨W7,hW7⟩:∃W7,W7=(((W.setCell (ad (w.heap.size+1) 0) (iv 0)).setCell (ad (w.heap.size+1) 1) (iv is)).setCell (ad (w.heap.size+1) 2) (iv it)).setCell (ad (w.heap.size+1) 3) (iv 0):=⟨_,rfl⟩;have H7:JQ w W7 b6 5 s t b l oa ol oc h is it/\Bx W7 (w.heap.size+1) 140 #[iv 0,iv is,iv it,iv 0]:=by rw[hW7];exact HH.o.store HQ.o hb6
   rw[<- hW7];clear hW7;refine hK.out _ _ (λ_=>H7.1) (λhG=>?_);clear hK K hG;try simp only[As]
   refine AB 16 rfl (λK hK=>?_);go_simp;refine hK.out _ _ (λhne=>absurd rfl hne) (λhG=>?_);clear hK K hG;refine Ae (by kernel_rfl) ?_ _;have e0:=H7.2.cell 0;have e1:=H7.2.cell 1;have e2:=H7.2.cell 2;have e3:=H7.2.cell 3;simp at e0 e1 e2 e3;go_wp2;refine bodyPost_ret (v:=.tuple #[.agg #[iv 0,iv is,iv it,iv 0],.bool true]) (by simp[results,Tryz.results99,go_sem,e0,e1,e2,e3]) rfl ⟨by simp[*],H7.1.bel⟩
 .have d5:decide (k=5)=false:=decide_eq_false h5;go_upto_region 2 with fail
  refine Ac (S:=λW=>JQ w W b6 k s t b l oa ol oc h is it) 16 (by kernel_rfl) P6.o.drew (λW hHeld=>?_);refine ty 0 rfl (λw' h=>by obtain⟨⟨x0,x1,x2⟩,⟨y0,y1,y2,y3⟩⟩:=h.cells;clear h;go_simp;rfl) ?_;refine tx 1 rfl ?_;refine ty 2 rfl (λw' h=>by obtain⟨⟨x0,x1,x2⟩,⟨y0,y1,y2,y3⟩⟩:=h.cells;clear h;go_simp;rfl) ?_;refine tx 3 rfl (v:=.bool true) ?_;refine tx 4 rfl (v:=.bool true) ?_;refine tx 5 rfl ?_;refine tx 6 rfl ?_;refine ty 7 rfl (λw' h=>by obtain⟨⟨x0,x1,x2⟩,⟨y0,y1,y2,y3⟩⟩:=h.cells;clear h;go_simp;rfl) ?_;refine tx 8 rfl (v:=.bool true) ?_;refine tx 9 rfl (v:=.bool true) ?_;refine sz 10 rfl ?_;simp only[As];refine sz 11 rfl ?_;simp only[As];refine sz 12 rfl ?_;simp only[As];refine tx 13 rfl (v:=.bool true) ?_;refine tx 14 rfl (v:=.bool true) ?_;obtain⟨c0,c1,c2,c3,hq⟩:=hHeld.qx;have r0:=hq.cell 0;have r1:=hq.cell 1;have r2:=hq.cell 2;have r3:=hq.cell 3;simp at r0 r1 r2 r3;have ff:∀i,W.frozen? (ad (w.heap.size+1) i)=false:=λi=>by have:=hq;unfold Bx at this;simp[World.frozen?,this]
  have hlt:=hq.lt;have HQ:U (Bx W (w.heap.size+1) 140 #[c0,c1,c2,c3]):=hq;have HH:U (JQ w W b6 k s t b l oa ol oc h is it):=hHeld;clear hHeld hq;refine AB 15 rfl (λK hK=>?_);go_simp;obtain⟨W7,hW7⟩:∃W7,W7=(((W.setCell (ad (w.heap.size+1) 0) (iv 0)).setCell (ad (w.heap.size+1) 1) (iv is)).setCell (ad (w.heap.size+1) 2) (iv it)).setCell (ad (w.heap.size+1) 3) (iv 0):=⟨_,rfl⟩;have H7:JQ w W7 b6 k s t b l oa ol oc h is it/\Bx W7 (w.heap.size+1) 140 #[iv 0,iv is,iv it,iv 0]:=by rw[hW7];exact HH.o.store HQ.o hb6
  rw[<- hW7];clear hW7;refine hK.out _ _ (λ_=>H7.1) (λhG=>?_);clear hK K hG;try simp only[As]
  refine AB 16 rfl (λK hK=>?_);go_simp;refine hK.out _ _ (λhne=>absurd rfl hne) (λhG=>?_);clear hK K hG;refine Ae (by kernel_rfl) ?_ _;have e0:=H7.2.cell 0;have e1:=H7.2.cell 1;have e2:=H7.2.cell 2;have e3:=H7.2.cell 3;simp at e0 e1 e2 e3;go_wp2;refine bodyPost_ret (v:=.tuple #[.agg #[iv 0,iv is,iv it,iv 0],.bool true]) (by simp[results,Tryz.results99,go_sem,e0,e1,e2,e3]) rfl ⟨by simp[*],H7.1.bel⟩
variable {I:Nat->Int}{L:List ByteArray}{P:ByteArray->Prop}{X:Nat->ByteArray}{a:Option Addr}{b n:Nat}{t:TypeId}
def GU (n:Nat) (I:Nat->Int) (X:Nat->ByteArray) (x:Int):ByteArray:=
 match (List.range n).find? (λi=>decide (I i=x)) with
 | some i=>X i
 | none=>{ data:=#[] }
theorem It {next:Int} {R:Nat->Int} (hv:C8 next n I X R) (x:Int):Ii n I X R next x (GU n I X x):=by
 refine⟨λ_=>?_,λh=>absurd hv h⟩;unfold GU;split
 .rename_i i hi
  have h1:=List.find?_some hi;have h2:=List.mem_of_find?_eq_some hi;exact .inl ⟨i,List.mem_range.1 h2,of_decide_eq_true h1,rfl⟩
 .rename_i hi
  refine .inr ⟨λi h e=>?_,rfl⟩;have:=List.find?_eq_none.1 hi i (List.mem_range.2 h);exact this (decide_eq_true e)
def EA (w:World) (err:Int) (rds:Nat) (P:ByteArray->Prop) (e:Ending) (w' : World):Prop:=
 ∃(a:Option Addr) (c:Nat) (L:List ByteArray),e=.returned (.agg #[iv err,.slice a L.length c,iv (rds:Int)])/\CO w' a L/\DE L/\(∀x,x∈L↔P x)/\L.length<=1000000/\L.length<=c/\c<=9223372036854775807/\Bl w w'
theorem Db (err:Int) (h:Bl w W) (hP:∀x,¬ P x):EA w err 0 P (.returned (.agg #[iv err,.slice none 0 0,iv 0])) W:=
 ⟨none,0,[],rfl,Or.inl rfl,List.Pairwise.nil,λx=>⟨(λq=>by cases q),λq=>absurd q (hP x)⟩,Ww _,Wu _,by decide,h⟩
def QY (dn:Nat) (Id:Nat->Int) (M:Nat->Nat) (T:Nat->Nat->Tn):Prop:=∀t,Dv (M 0) (T 0) t->∀q,q∈(Ab 21 t).map (Ag 0)->V2 dn Id q
def Dr (n:Nat) (I:Nat->Int) (X R:Nat->ByteArray) (next:Int) (dn:Nat) (Id:Nat->Int) (Xd:Nat->ByteArray) (Rd:Nat->Int) (xn:Nat) (M:Nat->Nat) (T:Nat->Nat->Tn) (ln:Nat) (Ch:Nat->Int) (err:Int) (rds:Nat) (P:ByteArray->Prop):Prop:=
 (¬ Ce n I X R/\err=1/\rds=0/\∀x,¬ P x)\/
 (Ce n I X R/\¬ (C8 next dn Id Xd Rd/\VI xn M T/\QY dn Id M T)/\err=3/\rds=0/\∀x,¬ P x)\/
 (Ce n I X R/\(C8 next dn Id Xd Rd/\VI xn M T/\QY dn Id M T)/\¬ (ln=n/\Nj I Ch n 0 (n-1) false=true)/\err=2/\rds=0/\∀x,¬ P x)\/
 (Ce n I X R/\(C8 next dn Id Xd Rd/\VI xn M T/\QY dn Id M T)/\(ln=n/\Nj I Ch n 0 (n-1) false=true)/\∃t,Dv (M 0) (T 0) t/\err=0/\rds=(RN (DM dn Id Xd) ((Ab 21 t).map (Ag 0)) I X R Ch (n-1) ⟨false,0⟩).2/\∀x,P x↔∃i,i∈(RN (DM dn Id Xd) ((Ab 21 t).map (Ag 0)) I X R Ch (n-1) ⟨false,0⟩).1/\GU dn Id Xd i=x)
theorem Dr.same {R:Nat->ByteArray} {next:Int} {dn:Nat} {Id:Nat->Int} {Xd:Nat->ByteArray} {Rd:Nat->Int} {xn:Nat} {M:Nat->Nat} {T:Nat->Nat->Tn} {ln:Nat} {Ch:Nat->Int} {err err':Int} {rds rds':Nat} {P':ByteArray->Prop} (h:Dr n I X R next dn Id Xd Rd xn M T ln Ch err rds P) (h' : Dr n I X R next dn Id Xd Rd xn M T ln Ch err' rds' P'):err=err'/\rds=rds'/\∀x,P x↔P' x:=by
 rcases h with ⟨a1,a2,a3,a4⟩|⟨a1,b1,a2,a3,a4⟩|⟨a1,b1,c1,a2,a3,a4⟩|⟨a1,b1,c1,t,d1,a2,a3,a4⟩ <;>
 rcases h' with ⟨e1,e2,e3,e4⟩|⟨e1,f1,e2,e3,e4⟩|⟨e1,f1,g1,e2,e3,e4⟩|⟨e1,f1,g1,t',i1,e2,e3,e4⟩;.exact⟨a2.trans e2.symm,a3.trans e3.symm,λx=>⟨λq=>absurd q (a4 x),λq=>absurd q (e4 x)⟩⟩
 .exact absurd e1 a1
 .exact absurd e1 a1
 .exact absurd e1 a1
 .exact absurd a1 e1
 .exact⟨a2.trans e2.symm,a3.trans e3.symm,λx=>⟨λq=>absurd q (a4 x),λq=>absurd q (e4 x)⟩⟩
 .exact absurd f1 b1
 .exact absurd f1 b1
 .exact absurd a1 e1
 .exact absurd b1 f1
 .exact⟨a2.trans e2.symm,a3.trans e3.symm,λx=>⟨λq=>absurd q (a4 x),λq=>absurd q (e4 x)⟩⟩
 .exact absurd g1 c1
 .exact absurd a1 e1
 .exact absurd b1 f1
 .exact absurd c1 g1
 .have:=Dp d1 i1;subst this;exact⟨a2.trans e2.symm,a3.trans e3.symm,λx=>(a4 x).trans (e4 x).symm⟩
def G6 (W:World) (b:Nat):Prop:=Bx W b 37 #[iv 0,.slice none 0 0,iv 0]
theorem G6.keep {W':World} (h:G6 W b) (hb:Bl W W'):G6 W' b:=(hb.block _ (Bx.lt h)).trans h
theorem G6.cells (h:G6 W b):(W.cell? (ad b 0)=some (iv 0)/\W.cell? (ad b 1)=some (.slice none 0 0)/\W.cell? (ad b 2)=some (iv 0))/\(∀o,W.frozen? (ad b o)=false)/\b<W.heap.size:=
 ⟨⟨Bx.cell h 0,Bx.cell h 1,Bx.cell h 2⟩,λo=>by simp[World.frozen?,show W.heap[b]?=_ from h],Bx.lt h⟩
theorem CO.set {x y:Int} {u v:Value} (h:CO w a L) (hb:Bx w b t #[iv x,u,iv y]) (hu:∀s,u≠.string s):CO (w.setCell (ad b 1) v) a L:=by
 rcases h with h0|⟨g,o,e,hc⟩;.exact .inl h0
 .refine .inr ⟨g,o,e,λi hi=>?_⟩;have hi':=hc i hi;have hne:g≠b:=by
   intro e;subst e;have hh:w.heap[g]?=_:=hb;unfold World.cell? at hi';simp only[hh] at hi';generalize o+i=k at hi';match k,hi' with
   | 0,q=>cases q
   | 1,q=>exact hu _ (by simpa using q)
   | 2,q=>cases q
   | k+3,q=>simp at q
  rw[<- hi'];unfold World.cell?;rw[Wv _ _ _ _ hne]
theorem LD {L:List Qd} (h:BW w a L) (hb:Bx w b t #[iv 0,.slice none 0 0,.slice none 0 0]) (u v z:Value):BW (((w.setCell (ad b 0) u).setCell (ad b 1) v).setCell (ad b 2) z) a L:=by
 rcases h with h0|⟨g,e,hc⟩;.exact .inl h0
 .refine .inr ⟨g,e,λi hi=>?_⟩;have hi':=hc i hi;have hne:g≠b:=by intro e;subst e;have hh:w.heap[g]?=_:=hb;have q:=hi'.2.2.2;unfold World.cell? at q;simp only[hh] at q;generalize i*4=k at q;simp at q
  have ne:∀o,(((w.setCell (ad b 0) u).setCell (ad b 1) v).setCell (ad b 2) z).cell? (ad g o)=w.cell? (ad g o):=λo=>by unfold World.cell?;rw[Wv _ _ _ _ hne,Wv _ _ _ _ hne,Wv _ _ _ _ hne]
  rw[ne,ne,ne,ne];exact hi'
theorem F6 (h:CO w a L) (hb:G6 w b) (u v z:Value):CO (((w.setCell (ad b 0) u).setCell (ad b 1) v).setCell (ad b 2) z) a L:=by
 rcases h with h0|⟨g,o,e,hc⟩;.exact .inl h0
 .refine .inr ⟨g,o,e,λi hi=>?_⟩;have hi':=hc i hi;have hne:g≠b:=by
   intro e;subst e;have hh:w.heap[g]?=_:=hb;unfold World.cell? at hi';simp only[hh] at hi';generalize o+i=k at hi';match k,hi' with
   | 0,q=>cases q
   | 1,q=>cases q
   | 2,q=>cases q
   | k+3,q=>simp at q
  rw[<- hi'];unfold World.cell?;rw[Wv _ _ _ _ hne,Wv _ _ _ _ hne,Wv _ _ _ _ hne]
theorem T5 (pa:Option Addr) (n pc:Nat) (I:Nat->Int) (X R:Nat->ByteArray) (next:Int) (da:Option Addr) (dn dc:Nat) (Id:Nat->Int) (Xd:Nat->ByteArray) (Rdd:Nat->Int) (xa:Option Addr) (xn xc:Nat) (M:Nat->Nat) (T:Nat->Nat->Tn) (la:Option Addr) (ln lc:Nat) (Ch:Nat->Int) (w:World)
  (hP:DP w pa n I X R) (hn:n<=1048576) (hpc:n<=pc) (hpm:pc<=9223372036854775807) (hD:E0 w da dn Id Xd Rdd) (hdn:dn<=1048576) (hX:Co w xa xn M T) (hxn:xn<=1048576) (hxf:CU xn M T) (hL:Rd .i64 w la ln Ch) (hlc:ln<=lc) (hlm:lc<=9223372036854775807) (hln:ln<=1048576) :
  WS 7 #[.agg #[.slice pa n pc],.agg #[iv next,.slice da dn dc],.agg #[.slice xa xn xc],.slice la ln lc] w λe w'=>∃err rds P,Dr n I X R next dn Id Xd Rdd xn M T ln Ch err rds P/\EA w err rds P e w':=by
 have HP:U (DP w pa n I X R):=hP;have HD:U (E0 w da dn Id Xd Rdd):=hD;have HX:U (Co w xa xn M T/\CU xn M T):=⟨hX,hxf⟩;have HL:U (Rd .i64 w la ln Ch/\ln<=lc/\lc<=9223372036854775807):=⟨hL,hlc,hlm⟩;clear hP hD hX hxf hL hlc hlm;obtain⟨W0,hW0⟩:∃W0,W0=(((w.alloc (.cells #[.slice pa n pc] 41)).alloc (.cells #[iv next,.slice da dn dc] 45)).alloc (.cells #[.slice xa xn xc] 49)).alloc (.cells #[iv 0,.slice none 0 0,iv 0] 37):=⟨_,rfl⟩;have S0:U (Lm w W0 pa n pc next da dn dc xa xn xc/\G6 W0 (w.heap.size+3)):=by rw[hW0];have b2:=Bx.new (w.alloc (.cells #[.slice pa n pc] 41)) #[iv next,.slice da dn dc] 45;have b3:=Bx.new ((w.alloc (.cells #[.slice pa n pc] 41)).alloc (.cells #[iv next,.slice da dn dc] 45)) #[.slice xa xn xc] 49;have b4:=Bx.new (((w.alloc (.cells #[.slice pa n pc] 41)).alloc (.cells #[iv next,.slice da dn dc] 45)).alloc (.cells #[.slice xa xn xc] 49)) #[iv 0,.slice none 0 0,iv 0] 37;simp only[WJ] at b2 b3 b4;exact⟨⟨(((Bx.new w #[.slice pa n pc] 41).alloc _).alloc _).alloc _,(b2.alloc _).alloc _,b3.alloc _,(((Aa _ _).alloc (by simp) _).alloc (by simp;omega) _).alloc (by simp;omega) _⟩,b4⟩
 go_enter Tryz.func7,Tryz.ntmps7;go_upto_region 1 with fail
 rw[<- hW0];clear hW0;obtain⟨z0,⟨z1,z2⟩,z3⟩:=S0.o.1.cells;go_wp2_with fail
 with_reducible refine (TP pa n pc I X R W0 (HP.o.below S0.o.1.bel) hn hpc hpm).mono ?_
 rintro e w1 ⟨v1,rfl,hv1,hb1⟩;have S1:U (Lm w w1 pa n pc next da dn dc xa xn xc/\G6 w1 (w.heap.size+3)):=⟨S0.o.1.keep hb1,S0.o.2.keep hb1⟩;clear hb1 S0 z0 z1 z2 z3;obtain⟨z0,⟨z1,z2⟩,z3⟩:=S1.o.1.cells;cases v1 with
 | false=>
  have HN:U (¬ Ce n I X R):=λh=>by have:=hv1.2 h;cases this
  clear hv1;obtain⟨⟨r0,r1,r2⟩,rf,rl⟩:=S1.o.2.cells;have HF:U (∀W,Bl w W->∃err rds P,Dr n I X R next dn Id Xd Rdd xn M T ln Ch err rds P/\EA w err rds P (.returned (.agg #[iv 1,.slice none 0 0,iv 0])) W):=λW hW=>⟨1,0,λ_=>False,.inl ⟨HN.o,rfl,rfl,λ_ q=>q⟩,Db 1 hW (λ_ q=>q)⟩;have HB:U (∀u v z,Bl w (((w1.setCell (ad (w.heap.size+3) 0) u).setCell (ad (w.heap.size+3) 1) v).setCell (ad (w.heap.size+3) 2) z)):=λu v z=>(((S1.o.1.bel.setCell (by simp) u).setCell (by simp) v).setCell (by simp) z);go_wp2;refine bodyPost_ret (v:=.agg #[iv 1,.slice none 0 0,iv 0]) (by simp[results,Tryz.results7,go_sem,r0,r1,r2]) rfl ?_;exact HF.o _ (HB.o _ _ _)
 | true=>
 have HV1:U (Ce n I X R):=hv1.1 rfl;clear hv1;go_wp2_with fail
 with_reducible refine (Nl next da dn dc Id Xd Rdd w1 (HD.o.below S1.o.1.bel) hdn).mono ?_
 rintro e w2 ⟨v2,rfl,hv2,hb2⟩;have S2:U (Lm w w2 pa n pc next da dn dc xa xn xc/\G6 w2 (w.heap.size+3)):=⟨S1.o.1.keep hb2,S1.o.2.keep hb2⟩;clear hb2 S1 z0 z1 z2 z3;obtain⟨z0,⟨z1,z2⟩,z3⟩:=S2.o.1.cells;cases v2 with
 | false=>
  have HN:U (¬ C8 next dn Id Xd Rdd):=λh=>by have:=hv2.2 h;cases this
  clear hv2;obtain⟨⟨r0,r1,r2⟩,rf,rl⟩:=S2.o.2.cells;have HF:U (∀W,Bl w W->∃err rds P,Dr n I X R next dn Id Xd Rdd xn M T ln Ch err rds P/\EA w err rds P (.returned (.agg #[iv 3,.slice none 0 0,iv 0])) W):=λW hW=>⟨3,0,λ_=>False,.inr (.inl ⟨HV1.o,λh=>HN.o h.1,rfl,rfl,λ_ q=>q⟩),Db 3 hW (λ_ q=>q)⟩;have HB:U (∀u v z,Bl w (((w2.setCell (ad (w.heap.size+3) 0) u).setCell (ad (w.heap.size+3) 1) v).setCell (ad (w.heap.size+3) 2) z)):=λu v z=>(((S2.o.1.bel.setCell (by simp) u).setCell (by simp) v).setCell (by simp) z);go_wp2;refine bodyPost_ret (v:=.agg #[iv 3,.slice none 0 0,iv 0]) (by simp[results,Tryz.results7,go_sem,r0,r1,r2]) rfl ?_;exact HF.o _ (HB.o _ _ _)
 | true=>
 have HV2:U (C8 next dn Id Xd Rdd):=hv2.1 rfl;clear hv2;go_wp2_with fail
 with_reducible refine (TR xa xn xc M T w2 (HX.o.1.below S2.o.1.bel) hxn HX.o.2).mono ?_
 rintro e w3 ⟨v3,rfl,hv3,hb3⟩;have S3:U (Lm w w3 pa n pc next da dn dc xa xn xc/\G6 w3 (w.heap.size+3)):=⟨S2.o.1.keep hb3,S2.o.2.keep hb3⟩;clear hb3 S2 z0 z1 z2 z3;obtain⟨z0,⟨z1,z2⟩,z3⟩:=S3.o.1.cells;cases v3 with
 | false=>
  have HN:U (¬ VI xn M T):=λh=>by have:=hv3.2 h;cases this
  clear hv3;obtain⟨⟨r0,r1,r2⟩,rf,rl⟩:=S3.o.2.cells;have HF:U (∀W,Bl w W->∃err rds P,Dr n I X R next dn Id Xd Rdd xn M T ln Ch err rds P/\EA w err rds P (.returned (.agg #[iv 3,.slice none 0 0,iv 0])) W):=λW hW=>⟨3,0,λ_=>False,.inr (.inl ⟨HV1.o,λh=>HN.o h.2.1,rfl,rfl,λ_ q=>q⟩),Db 3 hW (λ_ q=>q)⟩;have HB:U (∀u v z,Bl w (((w3.setCell (ad (w.heap.size+3) 0) u).setCell (ad (w.heap.size+3) 1) v).setCell (ad (w.heap.size+3) 2) z)):=λu v z=>(((S3.o.1.bel.setCell (by simp) u).setCell (by simp) v).setCell (by simp) z);go_wp2;refine bodyPost_ret (v:=.agg #[iv 3,.slice none 0 0,iv 0]) (by simp[results,Tryz.results7,go_sem,r0,r1,r2]) rfl ?_;exact HF.o _ (HB.o _ _ _)
 | true=>
 have HV3:U (VI xn M T):=hv3.1 rfl;clear hv3 z0 z1 z2 z3;obtain⟨b,o,rfl⟩:∃b o,pa=some (ad b o):=by
  rcases HP.o with q|⟨b,o,q,_⟩;.have:=HV1.o.1;omega
  .exact⟨b,o,q⟩
 obtain rfl:xn=6:=HV3.o.1;obtain⟨bb,oo,rfl,hc⟩:∃b o,xa=some (ad b o)/\∀i,i<6->∃ai ci,w.cell? (ad b (o+i))=some (.slice ai (M i) ci)/\Bk w ai (M i) (T i):=by
  rcases HX.o.1 with q|q;.cases q
  .exact q
 obtain⟨a0,c0,t0,hrd⟩:=hc 0 (by omega);rw[Nat.add_zero] at t0;have hbt:=Ws _ _ t0;have HT0:U (w.cell? (ad bb oo)=some (.slice a0 (M 0) c0)):=t0;have hfit:=HX.o.2 0 (by omega);obtain⟨t,ht,hl3,hkq⟩:=HV3.o.2.1 0 (by omega);have HTT:U (Dv (M 0) (T 0) t):=ht;have HQ:U (∀W,Bl w W->WS 30 #[.agg #[.slice a0 (M 0) c0],iv 0] W λe w'=>∃a' c',e=.returned (.slice a' ((Ab 21 t).map (Ag 0)).length c')/\BW w' a' ((Ab 21 t).map (Ag 0))/\Bl W w'):=λW hW=>GZ 0 (by omega) a0 (M 0) c0 (T 0) t W (hrd.below hW) ht hfit.2 (λk hk=>(hkq k hk).1) hl3 _ rfl
 obtain⟨m,hm⟩:∃m,n=m+1:=⟨n-1,by have:=HV1.o.1;omega⟩;subst hm;have HVK:U (∀i,i<m+1->1<=I i/\I i<=9):=λi hi=>Md (HV1.o.2.1 i hi);have hm100:m+1<=100:=by have:=HV1.o.1;omega
 obtain⟨LL,hLL⟩:∃LL,LL=(Ab 21 t).map (Ag 0):=⟨_,rfl⟩;have hL3:LL.length<=300:=by rw[hLL,WH];exact hl3
 have HLL:U (LL=(Ab 21 t).map (Ag 0)):=hLL;rw[<- hLL] at HQ;clear hc t0 hrd hfit ht hl3 hkq hLL;have HBG:U (Am (λi=>Ah (I (0+i))) (m+1) 0):=by show Am _ _ _;have:=HV1.o.2.2.1;simpa only [WM] using this
 go_upto_region 5 with fail
 go_cut [9] from 27 to 33 (λs9 wx=>∃b9 qa qc,s9=pt b9/\Bx wx b9 75 #[iv next,.slice da dn dc,.slice qa LL.length qc]/\BW wx qa LL/\Lm w wx (some (ad b o)) (m+1) pc next da dn dc (some (ad bb oo)) 6 xc/\G6 wx (w.heap.size+3))
 case first=>
  refine Ac (S:=λW=>Bl w3 W) 8 (by kernel_rfl) (Wt _ _).drew (λW hHeld=>?_);refine ty 0 rfl (λw' h=>by obtain⟨q0,⟨q1,q2⟩,q3⟩:=(S3.o.1.keep h).cells;clear h;go_simp;rfl) ?_;refine tx 1 rfl ?_;refine ty 2 rfl (λw' h=>by obtain⟨q0,⟨q1,q2⟩,q3⟩:=(S3.o.1.keep h).cells;clear h;go_simp;rfl) ?_;refine tx 3 rfl ?_;refine ty 4 rfl (λw' h=>by have q:=((S3.o.1.keep h).bel.cell (p:=(ad bb oo)) hbt).trans HT0.o;clear h;go_simp;rfl) ?_;refine Cn 5 7 rfl rfl (by kernel_rfl) (λK hK=>?_) (λK hK=>?_)
  .refine Ly rfl 30 31 (iv 0) _ rfl (.agg #[.slice a0 (M 0) c0]) rfl (λ_ _=>rfl) ?_;refine (HQ.o W (S3.o.1.keep hHeld).bel).mono ?_;rintro e w5 ⟨qa,qc,rfl,hq5,hbm⟩;have h5:Bl w3 w5:=hHeld.trans (hbm.mono hHeld.size);refine⟨_,rfl,hK.out _ _ (λ_=>h5) (λhG=>?_)⟩;clear hK K hG;simp only[As];refine tx 6 rfl ?_;refine AB 7 rfl (λK hK=>?_);go_simp;have ha:Bl w3 (w5.alloc (.cells #[iv 0,.slice none 0 0,.slice none 0 0] 75)):=h5.alloc h5.size _;have bx:Bx (w5.alloc (.cells #[iv 0,.slice none 0 0,.slice none 0 0] 75)) w5.heap.size 75 #[iv 0,.slice none 0 0,.slice none 0 0]:=Bx.new _ _ _;have bz:w3.heap.size<=w5.heap.size:=h5.size;refine hK.out _ _ (λ_=>ha) (λhG=>?_);clear hK K hG;try simp only[As]
   replace hq5:=hq5.below (Aa w5 (.cells #[iv 0,.slice none 0 0,.slice none 0 0] 75));obtain⟨ba,hba⟩:∃ba,ba=w5.heap.size:=⟨_,rfl⟩;rw[<- hba] at bx bz ⊢;generalize w5.alloc (.cells #[iv 0,.slice none 0 0,.slice none 0 0] 75)=wa at bx ha hq5 ⊢;clear hba;have f0:∀i,(wa).frozen? (ad ba i)=false:=λi=>by have:=bx;unfold Bx at this;simp[World.frozen?,this]
   have c0:=bx.cell 0;have c1:=bx.cell 1;have c2:=bx.cell 2;simp at c0 c1 c2;have hlt:=bx.lt;have HBX:U (Bx (wa) ba 75 #[iv 0,.slice none 0 0,.slice none 0 0]/\w3.heap.size<=ba/\Bl w3 (wa)/\BW (wa) qa LL):=⟨bx,bz,ha,hq5⟩;clear bx bz hq5;refine AB 8 rfl (λK hK=>?_);go_simp;refine hK.out _ _ (λhne=>absurd rfl hne) (λhG=>?_);clear hK K hG;refine Ae (by kernel_rfl) ?_ _;go_wp2;go_meet
   case rel=>have hb3:Bl w3 ((((wa).setCell (ad ba 0) (iv next)).setCell (ad ba 1) (.slice da dn dc)).setCell (ad ba 2) (.slice qa LL.length qc)):=((HBX.o.2.2.1.setCell HBX.o.2.1 _).setCell HBX.o.2.1 _).setCell HBX.o.2.1 _;exact⟨_,_,_,rfl,AL (AL (AL HBX.o.1 rfl) rfl) rfl,LD HBX.o.2.2.2 HBX.o.1 _ _ _,S3.o.1.keep hb3,S3.o.2.keep hb3⟩
  .go_simp;have ha:Bl w3 (W.alloc (.cells #[iv 0,.slice none 0 0,.slice none 0 0] 75)):=hHeld.alloc hHeld.size _;have bx:Bx (W.alloc (.cells #[iv 0,.slice none 0 0,.slice none 0 0] 75)) W.heap.size 75 #[iv 0,.slice none 0 0,.slice none 0 0]:=Bx.new _ _ _;have bz:w3.heap.size<=W.heap.size:=hHeld.size;refine hK.out _ _ (λ_=>ha) (λhG=>?_);clear hK K hG;try simp only[As]
   obtain⟨ba,hba⟩:∃ba,ba=W.heap.size:=⟨_,rfl⟩;rw[<- hba] at bx bz ⊢;generalize W.alloc (.cells #[iv 0,.slice none 0 0,.slice none 0 0] 75)=wa at bx ha ⊢;clear hba;refine AB 5 rfl (λK hK=>?_);refine Ly rfl 30 31 (iv 0) _ rfl (.agg #[.slice a0 (M 0) c0]) rfl (λ_ _=>rfl) ?_;refine (HQ.o wa (S3.o.1.keep ha).bel).mono ?_;rintro e w5 ⟨qa,qc,rfl,hq5,hbm⟩;have h5:Bl w3 w5:=ha.trans (hbm.mono ha.size);replace bx:Bx w5 ba 75 #[iv 0,.slice none 0 0,.slice none 0 0]:=(hbm.block _ bx.lt).trans bx;refine⟨_,rfl,hK.out _ _ (λ_=>h5) (λhG=>?_)⟩;clear hK K hG;simp only[As];refine tx 6 rfl ?_;have f0:∀i,(w5).frozen? (ad ba i)=false:=λi=>by have:=bx;unfold Bx at this;simp[World.frozen?,this]
   have c0:=bx.cell 0;have c1:=bx.cell 1;have c2:=bx.cell 2;simp at c0 c1 c2;have hlt:=bx.lt;have HBX:U (Bx (w5) ba 75 #[iv 0,.slice none 0 0,.slice none 0 0]/\w3.heap.size<=ba/\Bl w3 (w5)/\BW (w5) qa LL):=⟨bx,bz,h5,hq5⟩;clear bx bz hq5;refine AB 8 rfl (λK hK=>?_);go_simp;refine hK.out _ _ (λhne=>absurd rfl hne) (λhG=>?_);clear hK K hG;refine Ae (by kernel_rfl) ?_ _;go_wp2;go_meet
   case rel=>have hb3:Bl w3 ((((w5).setCell (ad ba 0) (iv next)).setCell (ad ba 1) (.slice da dn dc)).setCell (ad ba 2) (.slice qa LL.length qc)):=((HBX.o.2.2.1.setCell HBX.o.2.1 _).setCell HBX.o.2.1 _).setCell HBX.o.2.1 _;exact⟨_,_,_,rfl,AL (AL (AL HBX.o.1 rfl) rfl) rfl,LD HBX.o.2.2.2 HBX.o.1 _ _ _,S3.o.1.keep hb3,S3.o.2.keep hb3⟩
 case rest=>
 obtain⟨b9,qa,qc,rfl,hbx,hrq,hdp,hrr⟩:=hcut;have P9:U (Bx wc b9 75 #[iv next,.slice da dn dc,.slice qa LL.length qc]/\BW wc qa LL/\Lm w wc (some (ad b o)) (m+1) pc next da dn dc (some (ad bb oo)) 6 xc/\G6 wc (w.heap.size+3)):=⟨hbx,hrq,hdp,hrr⟩;clear hbx hrq hdp hrr S3 HQ HT0 hbt;obtain⟨z0,⟨z1,z2⟩,z3⟩:=P9.o.2.2.1.cells;obtain⟨y0,y1,y2⟩:wc.cell? (ad b9 0)=some (iv next)/\wc.cell? (ad b9 1)=some (.slice da dn dc)/\wc.cell? (ad b9 2)=some (.slice qa LL.length qc):=⟨P9.o.1.cell 0,P9.o.1.cell 1,P9.o.1.cell 2⟩;go_wp2_with fail
 refine (Mq next da dn dc Id Xd Rdd qa LL.length qc LL wc (HD.o.below P9.o.2.2.1.bel) hdn P9.o.2.1 rfl hL3).mono ?_;rintro e w4 ⟨v4,rfl,hkn,hb4⟩;have P4:U (Bx w4 b9 75 #[iv next,.slice da dn dc,.slice qa LL.length qc]/\BW w4 qa LL/\Lm w w4 (some (ad b o)) (m+1) pc next da dn dc (some (ad bb oo)) 6 xc/\G6 w4 (w.heap.size+3)):=⟨(hb4.block _ P9.o.1.lt).trans P9.o.1,P9.o.2.1.below hb4,P9.o.2.2.1.keep hb4,P9.o.2.2.2.keep hb4⟩;clear hb4 P9 z0 z1 z2 z3 y0 y1 y2;have HKN:U (v4=true↔QY dn Id M T):=by
  show _↔_;rw[show (v4=true↔_) from hkn];constructor;.intro h t' ht' q hq;rw[Dp ht' HTT.o,<- HLL.o] at hq;exact h q hq
  .intro h q hq;rw[HLL.o] at hq;exact h t HTT.o q hq
 clear hkn;obtain⟨z0,⟨z1,z2⟩,z3⟩:=P4.o.2.2.1.cells;have S4:U (Lm w w4 (some (ad b o)) (m+1) pc next da dn dc (some (ad bb oo)) 6 xc/\G6 w4 (w.heap.size+3)):=⟨P4.o.2.2.1,P4.o.2.2.2⟩;cases v4 with
 | false=>
  have HN:U (¬ QY dn Id M T):=λh=>by have:=HKN.o.2 h;cases this
  clear HKN;obtain⟨⟨r0,r1,r2⟩,rf,rl⟩:=S4.o.2.cells;have HF:U (∀W,Bl w W->∃err rds P,Dr (m+1) I X R next dn Id Xd Rdd 6 M T ln Ch err rds P/\EA w err rds P (.returned (.agg #[iv 3,.slice none 0 0,iv 0])) W):=λW hW=>⟨3,0,λ_=>False,.inr (.inl ⟨HV1.o,λh=>HN.o h.2.2,rfl,rfl,λ_ q=>q⟩),Db 3 hW (λ_ q=>q)⟩;have HB:U (∀u v z,Bl w (((w4.setCell (ad (w.heap.size+3) 0) u).setCell (ad (w.heap.size+3) 1) v).setCell (ad (w.heap.size+3) 2) z)):=λu v z=>(((S4.o.1.bel.setCell (by simp) u).setCell (by simp) v).setCell (by simp) z);go_wp2;refine bodyPost_ret (v:=.agg #[iv 3,.slice none 0 0,iv 0]) (by simp[results,Tryz.results7,go_sem,r0,r1,r2]) rfl ?_;exact HF.o _ (HB.o _ _ _)
 | true=>
 have HK3:U (QY dn Id M T):=HKN.o.1 rfl;clear HKN;by_cases hll:ln=m+1
 .subst hll;obtain⟨lb,lo,rfl,hlr⟩:∃lb lo,la=some (ad lb lo)/\MX w lb lo (m+1) (λi=>Ch (0+i)):=by
   rcases HL.o.1 with q|⟨lb,lo,q,hq⟩;.omega
   .refine⟨lb,lo,q,λi hi=>?_⟩;simp only[WM];exact hq i hi
  have HLP:U (MX w lb lo (m+1) (λi=>Ch (0+i))/\m+1<=lc/\lc<=9223372036854775807):=⟨hlr,HL.o.2⟩;clear hlr HL;have HRN:U (∀W,Bl w W->DP W (some (ad b o)) (m+1) (λi=>I (0+i)) (λi=>X (0+i)) (λi=>R (0+i))):=λW hW=>by have:=HP.o.below hW;simpa only [WM] using this
  have HGP:U (WS 32 #[.slice (some (ad b o)) (m+1) pc,.slice (some (ad lb lo)) (m+1) lc,.bool false] w4 (WT w4 (.bool (Nj I Ch (m+1) 0 m false)))):=EP (N:=m+1) (Ch:=Ch) (X:=X) (R:=R) HVK.o (m+1) b o 0 m pc lb lo lc false w4 (HRN.o _ P4.o.2.2.1.bel) (HLP.o.1.below P4.o.2.2.1.bel) (Wu _) (by omega) hpc hpm HLP.o.2.1 HLP.o.2.2 (by omega) HBG.o;obtain⟨gp,hgp⟩:∃gp,gp=Nj I Ch (m+1) 0 m false:=⟨_,rfl⟩;rw[<- hgp] at HGP;have HGE:U (gp=Nj I Ch (m+1) 0 m false):=hgp;clear hgp;obtain⟨k1,hk1⟩:∃k1,k1=m+1:=⟨_,rfl⟩;rw[<- hk1] at z0 HGP ⊢;have HK1:U (k1=m+1):=hk1;clear hk1;go_wp2_with fail
  refine HGP.o.mono ?_;rintro e w5 ⟨rfl,hb5⟩;have P5:U (Bx w5 b9 75 #[iv next,.slice da dn dc,.slice qa LL.length qc]/\BW w5 qa LL/\Lm w w5 (some (ad b o)) (m+1) pc next da dn dc (some (ad bb oo)) 6 xc/\G6 w5 (w.heap.size+3)):=⟨(hb5.block _ P4.o.1.lt).trans P4.o.1,P4.o.2.1.below hb5,P4.o.2.2.1.keep hb5,P4.o.2.2.2.keep hb5⟩;have S5:U (Lm w w5 (some (ad b o)) (m+1) pc next da dn dc (some (ad bb oo)) 6 xc/\G6 w5 (w.heap.size+3)):=⟨P5.o.2.2.1,P5.o.2.2.2⟩;clear hb5 P4 S4 z0 z1 z2 z3 HGP;cases gp with
  | false=>
   have HN:U (¬ (m+1=m+1/\Nj I Ch (m+1) 0 (m+1-1) false=true)):=λh=>by have:=HGE.o;rw[WL] at h;rw[h.2] at this;cases this
   obtain⟨⟨r0,r1,r2⟩,rf,rl⟩:=S5.o.2.cells;have HF:U (∀W,Bl w W->∃err rds P,Dr (m+1) I X R next dn Id Xd Rdd 6 M T (m+1) Ch err rds P/\EA w err rds P (.returned (.agg #[iv 2,.slice none 0 0,iv 0])) W):=λW hW=>⟨2,0,λ_=>False,.inr (.inr (.inl ⟨HV1.o,⟨HV2.o,HV3.o,HK3.o⟩,HN.o,rfl,rfl,λ_ q=>q⟩)),Db 2 hW (λ_ q=>q)⟩;have HB:U (∀u v z,Bl w (((w5.setCell (ad (w.heap.size+3) 0) u).setCell (ad (w.heap.size+3) 1) v).setCell (ad (w.heap.size+3) 2) z)):=λu v z=>(((S5.o.1.bel.setCell (by simp) u).setCell (by simp) v).setCell (by simp) z);go_wp2;refine bodyPost_ret (v:=.agg #[iv 2,.slice none 0 0,iv 0]) (by simp[results,Tryz.results7,go_sem,r0,r1,r2]) rfl ?_;exact HF.o _ (HB.o _ _ _)
  | true=>
   have HG2:U (m+1=m+1/\Nj I Ch (m+1) 0 (m+1-1) false=true):=⟨rfl,by rw[WL];exact HGE.o.symm⟩;clear HGE;obtain⟨RR,hRR⟩:∃RR,RR=RN (DM dn Id Xd) LL I X R Ch m ⟨false,0⟩:=⟨_,rfl⟩;have HRR:U (RR=RN (DM dn Id Xd) LL I X R Ch m ⟨false,0⟩):=hRR;have hrl:RR.1.length<=100000/\RR.2<=100000:=by have:=FK (id:=DM dn Id Xd) (Q:=LL) (X:=X) (R:=R) (Ch:=Ch) HVK.o hL3 (m+1) 0 m (Wu _) (by omega) HBG.o ⟨false,0⟩;rw[WM,<- hRR] at this;omega
   have HRU:U (WS 33 #[.slice (some (ad b o)) k1 pc,.slice (some (ad lb lo)) k1 lc,.agg #[iv next,.slice da dn dc,.slice qa LL.length qc],.agg #[.bool false,iv 0]] w5 (Gq w5 RR)):=by have:=JT (N:=m+1) (Ch:=Ch) (X:=X) (R:=R) HVK.o next da dn dc qa LL.length qc LL (DM dn Id Xd) rfl hL3 (m+1) b o 0 m pc lb lo lc ⟨false,0⟩ w5 (HRN.o _ P5.o.2.2.1.bel) (HLP.o.1.below P5.o.2.2.1.bel) (TL HV2.o (HD.o.below P5.o.2.2.1.bel) hdn) P5.o.2.1 (Wu _) (by omega) hpc hpm HLP.o.2.1 HLP.o.2.2 (by omega) HBG.o;rw[WM,<- hRR,<- HK1.o] at this;exact this
   clear hRR;obtain⟨rs,rd⟩:=RR;simp only at hrl;obtain⟨z0,⟨z1,z2⟩,z3⟩:=P5.o.2.2.1.cells;rw[<- HK1.o] at z0;obtain⟨y0,y1,y2⟩:w5.cell? (ad b9 0)=some (iv next)/\w5.cell? (ad b9 1)=some (.slice da dn dc)/\w5.cell? (ad b9 2)=some (.slice qa LL.length qc):=⟨P5.o.1.cell 0,P5.o.1.cell 1,P5.o.1.cell 2⟩;go_wp2_with fail
   refine HRU.o.mono ?_;rintro e w6 ⟨ia,ic,rfl,hri,hic,him,hb6⟩;simp only at hri hic;have P6:U (GQ w6 ia rs/\Lm w w6 (some (ad b o)) (m+1) pc next da dn dc (some (ad bb oo)) 6 xc/\G6 w6 (w.heap.size+3)):=⟨hri,P5.o.2.2.1.keep hb6,P5.o.2.2.2.keep hb6⟩;clear hri hic him hb6 P5 S5 HRU z0 z1 z2 z3 y0 y1 y2;obtain⟨W7,hW7⟩:∃W7,W7=w6.alloc (.cells #[iv 0,.slice none 0 0,iv (rd:Int)] 37):=⟨_,rfl⟩;have P7:U (Bx W7 w6.heap.size 37 #[iv 0,.slice none 0 0,iv (rd:Int)]/\Bl w6 W7):=by rw[hW7];exact⟨Bx.new _ _ _,Aa _ _⟩
   go_upto_region 12 with fail
   rw[<- hW7];clear hW7;go_wp2;go_loopw [13] (λi wr=>∃j:Nat,j<=rs.length/\i=iv (j:Int)/\(∃oa oc L,Bx wr w6.heap.size 37 #[iv 0,.slice oa L.length oc,iv (rd:Int)]/\CO wr oa L/\DE L/\(∀x,x∈L↔∃i,i∈rs.take j/\GU dn Id Xd i=x)/\L.length<=j/\L.length<=oc/\oc<=9223372036854775807)/\Bl w6 wr) (λi _=>rs.length-(intOf i).toNat)
   case atStart=>exact⟨0,Ww _,rfl,⟨none,0,[],P7.o.1,Or.inl rfl,List.Pairwise.nil,λx=>⟨(λq=>by cases q),λ⟨i,q,_⟩=>by simp at q⟩,Wu _,Wu _,by decide⟩,P7.o.2⟩
   case round=>
    obtain⟨j,hj,rfl,⟨oa,oc,L,hbx,hrg,hasc,hmem,hlj,hlc9,hoc⟩,hbel⟩:=hrel;have HA:U (Bx wr w6.heap.size 37 #[iv 0,.slice oa L.length oc,iv (rd:Int)]/\CO wr oa L/\DE L/\(∀x,x∈L↔∃i,i∈rs.take j/\GU dn Id Xd i=x)/\L.length<=oc/\oc<=9223372036854775807/\Bl w6 wr):=⟨hbx,hrg,hasc,hmem,hlc9,hoc,hbel⟩;clear hbx hrg hasc hmem hlc9 hoc hbel;by_cases hlt:j<rs.length
    .obtain⟨zb,zo,rfl,hzc⟩:∃zb zo,ia=some (ad zb zo)/\∀W,Bl w6 W->W.cell? (ad zb (zo+j))=some (iv (gz rs j)):=by
      rcases P6.o.1 with q|⟨zb,zo,q,hq⟩;.omega
      .exact⟨zb,zo,q,λW hW=>(hW.cell (Ws _ _ (hq j hlt))).trans (hq j hlt)⟩
     have HZC:U (∀W,Bl w6 W->W.cell? (ad zb (zo+j))=some (iv (gz rs j))):=hzc;clear hzc;have i0:(0:Int)<=(j:Int):=by omega
     have i1:(j:Int)<(rs.length:Int):=by omega
     obtain⟨zz,hzz⟩:∃zz,zz=gz rs j:=⟨_,rfl⟩;rw[<- hzz] at HZC;have HTK:U (rs.take (j+1)=rs.take j++[zz]):=by show _=_;rw[WK hlt,hzz];unfold gz;rw[List.getD,Wx hlt];rfl
     clear hzz;go_upto_region 15 with fail
     refine Ac (S:=λW=>Bl wr W) 10 (by kernel_rfl) (Wt _ _).drew (λW hHeld=>?_);refine tx 0 rfl ?_;refine ty 1 rfl (λw' h=>by obtain⟨o0,o1,o2⟩:w'.cell? (ad w6.heap.size 0)=some (iv 0)/\w'.cell? (ad w6.heap.size 1)=some (.slice oa L.length oc)/\w'.cell? (ad w6.heap.size 2)=some (iv (rd:Int)):=(by have:=(h.block _ HA.o.1.lt).trans HA.o.1;exact⟨Bx.cell this 0,Bx.cell this 1,Bx.cell this 2⟩);clear h;go_simp;rfl) ?_;refine ty 2 rfl (λw' h=>by obtain⟨q0,⟨q1,q2⟩,q3⟩:=(P6.o.2.1.keep (HA.o.2.2.2.2.2.2.trans (h.mono HA.o.2.2.2.2.2.2.size))).cells;clear h;go_simp;rfl) ?_;refine tx 3 rfl ?_;refine tx 4 rfl ?_;refine tx 5 rfl ?_;refine ty 6 rfl (λw' h=>by have q:=HZC.o w' (HA.o.2.2.2.2.2.2.trans (h.mono HA.o.2.2.2.2.2.2.size));clear h;go_simp;rfl) ?_;refine AB 7 rfl (λK hK=>?_);refine AF rfl 35 73 77 _ rfl (.agg #[iv next,.slice da dn dc]) (iv zz) rfl rfl (λ_ _=>rfl) ?_;refine (Ks next da dn dc Id Xd Rdd zz W (HD.o.below (P6.o.2.1.keep (HA.o.2.2.2.2.2.2.trans (hHeld.mono HA.o.2.2.2.2.2.2.size))).bel) hdn).mono ?_;rintro e w8 ⟨r8,rfl,htx,hbm⟩;obtain rfl:=htx.same (It HV2.o zz);clear htx;have h8:Bl wr w8:=hHeld.trans (hbm.mono hHeld.size);refine⟨_,rfl,hK.out _ _ (λ_=>h8) (λhG=>?_)⟩;clear hK K hG hbm hHeld;simp only[As];refine AB 8 rfl (λK hK=>?_);refine AF rfl 34 72 78 _ rfl (.slice oa L.length oc) (.string (GU dn Id Xd zz)) rfl rfl (λ_ _=>rfl) ?_;refine (Pv oa oc L (GU dn Id Xd zz) w8 (HA.o.2.1.below h8) HA.o.2.2.1 (by omega) HA.o.2.2.2.2.1 HA.o.2.2.2.2.2.1).mono ?_;rintro e w9 ⟨a9,c9,L9,rfl,hg9,hs9,hm9,hl9,hc9,hd9,hbm⟩;have h9:Bl wr w9:=h8.trans (hbm.mono h8.size);refine⟨_,rfl,hK.out _ _ (λ_=>h9) (λhG=>?_)⟩;clear hK K hG hbm h8;simp only[As];refine tx 9 rfl ?_;have bx9:Bx w9 w6.heap.size 37 #[iv 0,.slice oa L.length oc,iv (rd:Int)]:=(h9.block _ HA.o.1.lt).trans HA.o.1;have HX:U (Bx (w9.setCell (ad w6.heap.size 1) (.slice a9 L9.length c9)) w6.heap.size 37 #[iv 0,.slice a9 L9.length c9,iv (rd:Int)]/\CO (w9.setCell (ad w6.heap.size 1) (.slice a9 L9.length c9)) a9 L9/\DE L9/\(∀x,x∈L9↔∃i,i∈rs.take (j+1)/\GU dn Id Xd i=x)/\L9.length<=j+1/\L9.length<=c9/\c9<=9223372036854775807/\Bl w6 (w9.setCell (ad w6.heap.size 1) (.slice a9 L9.length c9))):=by
      refine⟨AL bx9 rfl,hg9.set bx9 (λs e=>by cases e),hs9,λx=>?_,by omega,hc9,hd9,(HA.o.2.2.2.2.2.2.trans (h9.mono HA.o.2.2.2.2.2.2.size)).setCell (Wu _) _⟩;rw[hm9 x];show (x∈L\/_)↔_;rw[HA.o.2.2.2.1 x,HTK.o];constructor
      .rintro (⟨i,q1,q2⟩|rfl);.exact⟨i,List.mem_append_left _ q1,q2⟩
       .exact⟨zz,by simp,rfl⟩
      .rintro⟨i,q1,q2⟩;rcases List.mem_append.1 q1 with q1|q1;.exact .inl ⟨i,q1,q2⟩
       .simp at q1;subst q1;exact .inr q2.symm
     have b1:=bx9.cell 1;simp at b1;have bf:∀i,w9.frozen? (ad w6.heap.size i)=false:=λi=>by have:=bx9;unfold Bx at this;simp[World.frozen?,this]
     have bl:=bx9.lt;clear bx9 hg9 hs9 hm9 hl9 hc9 hd9 h9;refine AB 10 rfl (λK hK=>?_);go_simp;refine hK.out _ _ (λhne=>absurd rfl hne) (λhG=>?_);clear hK K hG;refine Ae (by kernel_rfl) ?_ _;generalize w9.setCell (ad w6.heap.size 1) (.slice a9 L9.length c9)=w10 at HX ⊢;clear b1 bf bl HA;go_wp2;go_roundw;case rel=>exact⟨j+1,by omega,by go_num,⟨a9,c9,L9,HX.o.1,HX.o.2.1,HX.o.2.2.1,HX.o.2.2.2.1,HX.o.2.2.2.2.1,HX.o.2.2.2.2.2.1,HX.o.2.2.2.2.2.2.1⟩,HX.o.2.2.2.2.2.2.2⟩
     case measure=>simp[intOf];omega
    .obtain rfl:j=rs.length:=by omega
     have HF:U (∀W,CO W oa L->Bl w W->∃err rds P,Dr (m+1) I X R next dn Id Xd Rdd 6 M T (m+1) Ch err rds P/\EA w err rds P (.returned (.agg #[iv 0,.slice oa L.length oc,iv (rd:Int)])) W):=λW h1 h2=>by
      refine⟨0,rd,λx=>∃i,i∈rs/\GU dn Id Xd i=x,.inr (.inr (.inr ⟨HV1.o,⟨HV2.o,HV3.o,HK3.o⟩,⟨rfl,HG2.o.2⟩,t,HTT.o,rfl,?_,?_⟩)),oa,oc,L,rfl,h1,HA.o.2.2.1,?_,by omega,HA.o.2.2.2.2.1,HA.o.2.2.2.2.2.1,h2⟩;.rw[<- HLL.o,WL,<- HRR.o]
      .intro x;rw[<- HLL.o,WL,<- HRR.o]
      .intro x;rw[HA.o.2.2.2.1 x,WG]
     have PR:U (G6 wr (w.heap.size+3)/\Bl w wr):=⟨P6.o.2.2.keep HA.o.2.2.2.2.2.2,(P6.o.2.1.keep HA.o.2.2.2.2.2.2).bel⟩;obtain⟨⟨r0,r1,r2⟩,rf,rl⟩:=PR.o.1.cells;obtain⟨o0,o1,o2⟩:wr.cell? (ad w6.heap.size 0)=some (iv 0)/\wr.cell? (ad w6.heap.size 1)=some (.slice oa L.length oc)/\wr.cell? (ad w6.heap.size 2)=some (iv (rd:Int)):=⟨HA.o.1.cell 0,HA.o.1.cell 1,HA.o.1.cell 2⟩;have HGR:U (∀u v z,CO (((wr.setCell (ad (w.heap.size+3) 0) u).setCell (ad (w.heap.size+3) 1) v).setCell (ad (w.heap.size+3) 2) z) oa L/\Bl w (((wr.setCell (ad (w.heap.size+3) 0) u).setCell (ad (w.heap.size+3) 1) v).setCell (ad (w.heap.size+3) 2) z)):=λu v z=>⟨F6 HA.o.2.1 PR.o.1 u v z,((PR.o.2.setCell (by simp) u).setCell (by simp) v).setCell (by simp) z⟩
     go_wp2;refine bodyPost_ret (v:=.agg #[iv 0,.slice oa L.length oc,iv (rd:Int)]) (by simp[results,Tryz.results7,go_sem,r0,r1,r2]) rfl ?_;exact HF.o _ (HGR.o _ _ _).1 (HGR.o _ _ _).2
 .have HN:U (¬ (ln=m+1/\Nj I Ch (m+1) 0 (m+1-1) false=true)):=λh=>hll h.1;obtain⟨k1,hk1⟩:∃k1,k1=m+1:=⟨_,rfl⟩;have hne2:¬ ln=k1:=by omega
  have hne3:¬ (ln:Int)=(k1:Int):=by omega
  have hlb:(((ln:Nat):Int) == (k1:Int))=false:=by simp;omega
  rw[<- hk1] at z0 ⊢;clear hll;obtain⟨⟨r0,r1,r2⟩,rf,rl⟩:=S4.o.2.cells;have HF:U (∀W,Bl w W->∃err rds P,Dr (m+1) I X R next dn Id Xd Rdd 6 M T ln Ch err rds P/\EA w err rds P (.returned (.agg #[iv 2,.slice none 0 0,iv 0])) W):=λW hW=>⟨2,0,λ_=>False,.inr (.inr (.inl ⟨HV1.o,⟨HV2.o,HV3.o,HK3.o⟩,HN.o,rfl,rfl,λ_ q=>q⟩)),Db 2 hW (λ_ q=>q)⟩;have HB:U (∀u v z,Bl w (((w4.setCell (ad (w.heap.size+3) 0) u).setCell (ad (w.heap.size+3) 1) v).setCell (ad (w.heap.size+3) 2) z)):=λu v z=>(((S4.o.1.bel.setCell (by simp) u).setCell (by simp) v).setCell (by simp) z);go_wp2;refine bodyPost_ret (v:=.agg #[iv 2,.slice none 0 0,iv 0]) (by simp[results,Tryz.results7,go_sem,r0,r1,r2]) rfl ?_;exact HF.o _ (HB.o _ _ _)
variable {M:Nat->Nat}{W':World}{t0:Ro 21}
theorem OW {T:Nat->Nat->Tn} (hv:VI 6 M T) {j:Nat} (hj:j<6) {t:Ro 21} (ht:Dv (M j) (T j) t) (ht0:Dv (M 0) (T 0) t0) (f:Qd->Bool) :
  (((Ab 21 t).map (Ag j)).filter f).Perm (((Ab 21 t0).map (Ag 0)).filter f):=by
 by_cases h0:j=0;.subst h0;rw[Dp ht ht0]
 .obtain⟨hl,hm⟩:=hv.2.2 j (by omega) hj t t0 ht ht0;obtain⟨t',ht',hl3,hk⟩:=hv.2.1 j hj;have e:=Dp ht' ht;subst e;have hnd:=DF hj (Ba ht.2.2.2.2.1) (λk hk'=>(hk k hk').1);letI:DecidableEq Qd:=Classical.typeDecidableEq Qd
  have hp:((Ab 21 t').map (Ag j)).Perm ((Ab 21 t0).map (Ag 0)):=EC _ _ hnd (λx hx=>by obtain⟨k,hk1,rfl⟩:=List.mem_map.1 hx;exact hm k hk1) (by rw[WH,WH,hl])
  exact hp.filter f
def PP (W:World) (tb:Nat) (id:ByteArray->Int) (tx:Int->ByteArray):Prop:=
 (∀V x,Bl W V->WS 97 #[pt tb,.string x] V (WT V (iv (id x))))/\
 (∀V x,Bl W V->WS 100 #[pt tb,iv x] V (WT V (.string (tx x))))
def Hz (W:World) (xb:Nat) (Q:List Qd):Prop:=
 (∀V j p,Bl W V->j<6->BC (A8 j p) 4->WS 217 #[.pointer (some (ad xb (j*2))),qv p] V (WT V (iv ((Q.filter (λq=>BN q p)).length:Int))))/\
 (∀V j p,Bl W V->j<6->BC (A8 j p) 4->WS 211 #[.pointer (some (ad xb (j*2))),qv p] V λe w'=>∃a c L,e=.returned (.slice a L.length c)/\BW w' a L/\L.Perm (Q.filter (λq=>BN q p))/\Bl V w'/\∀g,(Value.slice a L.length c).ownBlock=some g->V.heap.size<=g/\g<w'.heap.size)/\
 (∀V,Bl W V->WS 92 #[pt xb] V λe w'=>∃a c,e=.returned (.tuple #[.slice a Q.length c,.bool true])/\BW w' a Q/\Bl V w')
theorem PP.below {tb:Nat} {id:ByteArray->Int} {tx:Int->ByteArray} (h:PP W tb id tx) (hb:Bl W W'):PP W' tb id tx:=
 ⟨λV x hV=>h.1 V x (hb.trans (hV.mono hb.size)),λV x hV=>h.2 V x (hb.trans (hV.mono hb.size))⟩
theorem Hz.below {xb:Nat} {Q:List Qd} (h:Hz W xb Q) (hb:Bl W W'):Hz W' xb Q:=
 ⟨λV j p hV=>h.1 V j p (hb.trans (hV.mono hb.size)),λV j p hV=>h.2.1 V j p (hb.trans (hV.mono hb.size)),λV hV=>h.2.2 V (hb.trans (hV.mono hb.size))⟩
theorem Qo {dt:Obj} {next:Int} {n:Nat} {I:Nat->Int} {X:Nat->ByteArray} {R:Nat->Int} {P:Nat->Nat} (h:Mh w W dt next I X R n P) (hv:C8 next n I X R) (V:World) (x:Int) (hV:Bl W V) :
  WS 100 #[pt (w.heap.size+1+1+1),iv x] V (WT V (.string (GU n I X x))):=by
 refine (QT _ _ _ n next I X R P x V ((hV.block _ h.tab.lt).trans h.tab) (AP.kept h.m2 (hV.block _ (AP.lt h.m2))) (λj hj=>(hV.block _ (Array.getElem?_eq_some_iff.1 (h.each j hj)).1).trans (h.each j hj)) (λi j hi hj e=>hv.id_inj hi hj e)).mono ?_;rintro e w' ⟨hat,hb⟩;refine⟨?_,hb⟩;have hid:=(It hv x).1 hv;rcases hat with ⟨i,hi,hx,rfl⟩|⟨hno,rfl⟩
 .rcases hid with ⟨i',hi',hx',e⟩|⟨hno,_⟩;.rw[e,hv.id_inj hi' hi (hx'.trans hx.symm)]
  .exact absurd hx (hno i hi)
 .rcases hid with ⟨i',hi',hx',e⟩|⟨_,e⟩;.exact absurd hx' (hno i' hi')
  .rw[e]
theorem UH {a:Option Addr} {c:Nat} {T:Nat->Nat->Tn} {A:Array Value} (hI:IS w W a c M T 6 A) (hv:VI 6 M T) (ht0:Dv (M 0) (T 0) t0):Hz W (w.heap.size+1) ((Ab 21 t0).map (Ag 0)):=by
 refine⟨λV j p hV hj hok=>T6 hI hv ht0 V j p hV hj hok,λV j p hV hj hok=>?_,λV hV=>?_⟩;.have hD:=hI.keep hV;obtain⟨h0,t,t',hh,v,q1,q2,q3,q4,q5,q6,q7⟩:=hD.xt j hj;obtain⟨s,hs,hl,hg⟩:=hv.2.1 j hj;have es:=Dp hs q1;subst es;rw[q2] at hl hg;refine (Qq j hj p hok (w.heap.size+1) (j*2) V (M j) t v hh (by rw[hD.xb.cell];exact h0) (by rw[hD.xb.cell];exact q7) (q6.mono (Wu _) (λb _ hlt=>⟨hlt,rfl⟩)) q3 (by rw[<- q2];exact Ba q1.2.2.2.2.1) hl (λk hk=>(hg k hk).1) _ rfl).mono ?_;rintro e w' ⟨a',c',rfl,ho,hb⟩;refine⟨a',c',_,rfl,F8 ho,?_,hb,Aw ho⟩;rw[<- q2];exact OW hv hj q1 ht0 _
 .have hD:=hI.keep hV;obtain⟨h0,t,t',hh,v,q1,q2,q3,q4,q5,q6,q7⟩:=hD.xt 0 (by omega);obtain⟨s,hs,hl,hg⟩:=hv.2.1 0 (by omega);have es:=Dp hs q1;subst es;have e0:=Dp q1 ht0;rw[<- e0];rw[q2] at hl hg ⊢;refine (GA 0 (by omega) (w.heap.size+1) 0 V (M 0) t v hh (by rw[hD.xb.cell];exact h0) (by rw[hD.xb.cell];exact q7) (q6.mono (Wu _) (λb _ hlt=>⟨hlt,rfl⟩)) q3 (by rw[<- q2];exact Ba q1.2.2.2.2.1) hl).mono ?_;rintro e w' ⟨ok,a',c',L,rfl,hb,hr,⟨rfl,rfl,hgk⟩|⟨_,_,hng⟩⟩;.exact⟨a',c',rfl,hr,hb⟩
  .exact absurd hg hng
def Q7 (w:World) (next:Int) (dn:Nat) (Id:Nat->Int) (Xd:Nat->ByteArray) (Rd:Nat->Int) (xn:Nat) (M:Nat->Nat) (T:Nat->Nat->Tn) (e:Ending) (w' : World):Prop:=
 Bl w w'/\∃wb ok,e=.returned (.tuple #[pt wb,.bool ok])/\(ok=true↔(C8 next dn Id Xd Rd/\VI xn M T))/\(ok=true->∀t,Dv (M 0) (T 0) t->∃tb xb,Bx w' wb 170 #[pt tb,pt xb]/\PP w' tb (DM dn Id Xd) (GU dn Id Xd)/\Hz w' xb ((Ab 21 t).map (Ag 0)))
theorem IT (next:Int) (da:Option Addr) (dn dc:Nat) (Id:Nat->Int) (Xd:Nat->ByteArray) (Rd:Nat->Int) (xa:Option Addr) (xn xc:Nat) (M:Nat->Nat) (T:Nat->Nat->Tn) (w:World) (hD:E0 w da dn Id Xd Rd) (hdn:dn<=1048576) (hX:Co w xa xn M T) (hxn:xn<=1048576) (hxf:CU xn M T) :
  WS 40 #[.agg #[iv next,.slice da dn dc],.agg #[.slice xa xn xc]] w (Q7 w next dn Id Xd Rd xn M T):=by
 have HD:U (E0 w da dn Id Xd Rd):=hD;have HX:U (Co w xa xn M T/\CU xn M T):=⟨hX,hxf⟩;clear hD hX hxf;obtain⟨W0,hW0⟩:∃W0,W0=(w.alloc (.cells #[iv next,.slice da dn dc] 45)).alloc (.cells #[.slice xa xn xc] 49):=⟨_,rfl⟩;have S0:U (Bx W0 w.heap.size 45 #[iv next,.slice da dn dc]/\Bx W0 (w.heap.size+1) 49 #[.slice xa xn xc]/\Bl w W0):=by rw[hW0];have b2:=Bx.new (w.alloc (.cells #[iv next,.slice da dn dc] 45)) #[.slice xa xn xc] 49;simp only[WJ] at b2;exact⟨(Bx.new w #[iv next,.slice da dn dc] 45).alloc _,b2,(Aa _ _).alloc (by simp) _⟩
 go_enter Tryz.func40,Tryz.ntmps40;go_upto_region 1 with fail
 rw[<- hW0];clear hW0;have z0:=S0.o.1.cell 0;have z1:=S0.o.1.cell 1;have z2:=S0.o.2.1.cell 0;simp at z0 z1 z2;go_wp2_with fail
 with_reducible refine (KQ next da dn dc Id Xd Rd W0 (HD.o.below S0.o.2.2) hdn).mono ?_
 rintro e w1 hr;have HE1:U (∃tv ok,e=.returned (.tuple #[tv,.bool ok])/\(∃ad,tv=.pointer ad)/\Bl W0 w1/\(ok=true↔C8 next dn Id Xd Rd)/\(ok=true->∃tb,tv=pt tb/\PP w1 tb (DM dn Id Xd) (GU dn Id Xd))):=by
  rcases hr with ⟨hv,rfl,hb⟩|⟨hv,P,dt,rfl,hst⟩;.exact⟨_,_,rfl,⟨_,rfl⟩,hb,⟨λq=>(by cases q),λq=>absurd q hv⟩,λq=>by cases q⟩
  .exact⟨_,_,rfl,⟨_,rfl⟩,hst.below,⟨λ_=>hv,λ_=>rfl⟩,λ_=>⟨_,rfl,λV x hV=>RE hst hv V x hV,λV x hV=>Qo hst hv V x hV⟩⟩
 clear hr;obtain⟨tv,ok1,rfl,⟨ta,rfl⟩,hb1,hk1⟩:=HE1.o;clear HE1;have K1:U ((ok1=true↔C8 next dn Id Xd Rd)/\(ok1=true->∃tb,Value.pointer ta=pt tb/\PP w1 tb (DM dn Id Xd) (GU dn Id Xd))):=hk1;have S1:U (Bx w1 (w.heap.size+1) 49 #[.slice xa xn xc]/\Bl w w1):=⟨(hb1.block _ S0.o.2.1.lt).trans S0.o.2.1,S0.o.2.2.trans (hb1.mono S0.o.2.2.size)⟩;clear hb1 S0 z0 z1 z2 hk1;have z2:=S1.o.1.cell 0;simp at z2;go_wp2_with fail
 with_reducible refine (JK xa xn xc M T w1 (HX.o.1.below S1.o.2) hxn HX.o.2).mono ?_
 rintro e w2 hr;have HE2:U (∃tv ok,e=.returned (.tuple #[tv,.bool ok])/\(∃ad,tv=.pointer ad)/\Bl w1 w2/\(ok=true↔VI xn M T)/\(ok=true->∃xb,tv=pt xb/\∀t0,Dv (M 0) (T 0) t0->Hz w2 xb ((Ab 21 t0).map (Ag 0)))):=by
  rcases hr with ⟨rfl,hv,hb⟩|⟨rfl,hv,A,hI⟩;.exact⟨_,_,rfl,⟨_,rfl⟩,hb,⟨λq=>(by cases q),λq=>absurd q hv⟩,λq=>by cases q⟩
  .obtain rfl:xn=6:=hv.1;exact⟨_,_,rfl,⟨_,rfl⟩,hI.bel,⟨λ_=>hv,λ_=>rfl⟩,λ_=>⟨_,rfl,λt0 ht0=>UH hI hv ht0⟩⟩
 clear hr;obtain⟨tv,ok2,rfl,⟨xaa,rfl⟩,hb2,hk2⟩:=HE2.o;clear HE2;have HF:U (∀w' wb,Bl w2 w'->Bx w' wb 170 #[.pointer ta,.pointer xaa]->Q7 w next dn Id Xd Rd xn M T (.returned (.tuple #[pt wb,.bool (ok1 && ok2)])) w'):=λw' wb hb hbx=>by refine⟨S1.o.2.trans ((hb2.trans (hb.mono hb2.size)).mono S1.o.2.size),wb,ok1 && ok2,rfl,by rw[Bool.and_eq_true,K1.o.1,hk2.1],λq t ht=>?_⟩;rw[Bool.and_eq_true] at q;obtain⟨tb,e1,h1⟩:=K1.o.2 q.1;obtain⟨xb,e2,h2⟩:=hk2.2 q.2;rw[e1,e2] at hbx;exact⟨tb,xb,hbx,h1.below (hb2.trans (hb.mono hb2.size)),(h2 t ht).below hb⟩
 have HN:U (∀O,Bl w2 (w2.alloc O)):=λO=>Aa _ _;clear hb2 hk2 K1 S1 z2;cases ok1 <;> cases ok2;.go_wp2;refine bodyPost_ret (v:=.tuple #[pt w2.heap.size,.bool false]) (by simp[results,Tryz.results40,go_sem]) rfl ?_;exact HF.o _ _ (HN.o _) (Bx.new _ _ _)
 .go_wp2;refine bodyPost_ret (v:=.tuple #[pt w2.heap.size,.bool false]) (by simp[results,Tryz.results40,go_sem]) rfl ?_;exact HF.o _ _ (HN.o _) (Bx.new _ _ _)
 .go_wp2;refine bodyPost_ret (v:=.tuple #[pt w2.heap.size,.bool false]) (by simp[results,Tryz.results40,go_sem]) rfl ?_;exact HF.o _ _ (HN.o _) (Bx.new _ _ _)
 .go_wp2;refine bodyPost_ret (v:=.tuple #[pt w2.heap.size,.bool true]) (by simp[results,Tryz.results40,go_sem]) rfl ?_;exact HF.o _ _ (HN.o _) (Bx.new _ _ _)
end Go.Proofs.YtacpbofiipdodaaGreat
