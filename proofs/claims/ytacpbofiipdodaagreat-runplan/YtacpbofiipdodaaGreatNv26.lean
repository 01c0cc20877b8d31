import Derived.Test.YtacpbofiipdodaaGreatNv19
import Derived.Test.YtacpbofiipdodaaGreatNv24
import Derived.Test.YtacpbofiipdodaaGreatNv25
set_option linter.unusedVariables false
set_option linter.unusedSimpArgs false
set_option maxRecDepth 100000
set_option maxHeartbeats 90000000
namespace Go.Proofs.YtacpbofiipdodaaGreat
open Go Go.Deep Go.RowKit
variable {M:Nat->Nat}{W:World}{t0:Ro 21}
theorem EC {α:Type} [DecidableEq α]:∀(l l2:List α),l.Nodup->(∀x,x∈l->x∈l2)->l2.length=l.length->l.Perm l2
 | [],l2,_,_,h=>by
  rw[List.length_eq_zero_iff.1 h]
 | x::l,l2,hn,hs,h=>by
  have hx:=hs x (List.mem_cons_self ..)
  have hp:=List.perm_cons_erase hx
  have hn':=List.nodup_cons.1 hn
  have ih:=EC l (l2.erase x) hn'.2 (λy hy=>(List.mem_erase_of_ne (λe=>hn'.1 (by rw[<- e];exact hy))).2 (hs y (List.mem_cons_of_mem _ hy))) (by
   rw[List.length_erase_of_mem hx,h]
   simp)
  exact (ih.cons x).trans hp.symm
theorem Qx {T:Nat->Nat->Tn} (hv:VI 6 M T) {j:Nat} (hj:j<6) {t:Ro 21} (ht:Dv (M j) (T j) t) (ht0:Dv (M 0) (T 0) t0) (f:Qd->Bool) :
  (((Ab 21 t).map (Ag j)).filter f).length=(((Ab 21 t0).map (Ag 0)).filter f).length:=by
 by_cases h0:j=0;.subst h0;rw[Dp ht ht0]
 .obtain⟨hl,hm⟩:=hv.2.2 j (by omega) hj t t0 ht ht0;obtain⟨t',ht',hl3,hk⟩:=hv.2.1 j hj;have e:=Dp ht' ht;subst e;have hnd:=DF hj (Ba ht.2.2.2.2.1) (λk hk'=>(hk k hk').1);letI:DecidableEq Qd:=Classical.typeDecidableEq Qd
  have hp:((Ab 21 t').map (Ag j)).Perm ((Ab 21 t0).map (Ag 0)):=EC _ _ hnd (λx hx=>by obtain⟨k,hk1,rfl⟩:=List.mem_map.1 hx;exact hm k hk1) (by rw[WH,WH,hl])
  exact (hp.filter f).length_eq
structure TQ (W:World) (tb xb:Nat) (id:ByteArray->Int) (Q:List Qd):Prop where
 tid:∀V x,Bl W V->WS 97 #[pt tb,.string x] V (WT V (iv (id x)))
 cnt:∀V j p,Bl W V->j<6->BC (A8 j p) 4->WS 217 #[.pointer (some (ad xb (j*2))),qv p] V (WT V (iv ((Q.filter (λq=>BN q p)).length:Int)))
theorem TQ.below {W':World} {tb xb:Nat} {id:ByteArray->Int} {Q:List Qd} (h:TQ W tb xb id Q) (hb:Bl W W'):TQ W' tb xb id Q:=
 ⟨λV x hV=>h.tid V x (hb.trans (hV.mono hb.size)),λV j p hV=>h.cnt V j p (hb.trans (hV.mono hb.size))⟩
theorem T6 {w:World} {a:Option Addr} {c:Nat} {T:Nat->Nat->Tn} {A:Array Value} (hI:IS w W a c M T 6 A) (hv:VI 6 M T) (ht0:Dv (M 0) (T 0) t0) (V:World) (j:Nat) (p:Qd) (hV:Bl W V) (hj:j<6) (hok:BC (A8 j p) 4) :
  WS 217 #[.pointer (some (ad (w.heap.size+1) (j*2))),qv p] V (WT V (iv ((((Ab 21 t0).map (Ag 0)).filter (λq=>BN q p)).length:Int))):=by have hD:=hI.keep hV;obtain⟨h0,t,t',hh,v,q1,q2,q3,q4,q5,q6,q7⟩:=hD.xt j hj;obtain⟨s,hs,hl,hg⟩:=hv.2.1 j hj;have es:=Dp hs q1;subst es;rw[q2] at hl hg;rw[<- Qx hv hj q1 ht0];exact OF j hj p hok (w.heap.size+1) (j*2) V (M j) t v hh (by rw[hD.xb.cell];exact h0) (by rw[hD.xb.cell];exact q7) (q6.mono (Wu _) (λb _ hlt=>⟨hlt,rfl⟩)) q3 (by rw[<- q2];exact Ba q1.2.2.2.2.1) hl (λk hk=>(hg k hk).1) _ (by rw[q2])
theorem RE {w W:World} {dt:Obj} {next:Int} {n:Nat} {I:Nat->Int} {X:Nat->ByteArray} {R:Nat->Int} {P:Nat->Nat} (h:Mh w W dt next I X R n P) (hv:C8 next n I X R) (V:World) (x:ByteArray) (hV:Bl W V) :
  WS 97 #[pt (w.heap.size+1+1+1),.string x] V (WT V (iv (DM n I X x))):=by
 refine (T0 _ _ _ n next I X R P x V ((hV.block _ h.tab.lt).trans h.tab) (AP.kept h.m1 (hV.block _ (AP.lt h.m1))) (λj hj=>(hV.block _ (Array.getElem?_eq_some_iff.1 (h.each j hj)).1).trans (h.each j hj)) (λi j hi hj e=>hv.text_inj hi hj e)).mono ?_;rintro e w' ⟨hat,hb⟩;refine⟨?_,hb⟩;have hid:=(I7 hv x).1 hv;rcases hat with ⟨i,hi,hx,rfl⟩|⟨hno,rfl⟩
 .rcases hid with ⟨i',hi',hx',e⟩|⟨hno,_⟩;.rw[e,hv.text_inj hi' hi (hx'.trans hx.symm)]
  .exact absurd hx (hno i hi)
 .rcases hid with ⟨i',hi',hx',e⟩|⟨_,e⟩;.exact absurd hx' (hno i' hi')
  .rw[e]
def Wn (w:World) (next:Int) (dn:Nat) (Id:Nat->Int) (Xd:Nat->ByteArray) (Rd:Nat->Int) (xn:Nat) (M:Nat->Nat) (T:Nat->Nat->Tn) (e:Ending) (w' : World):Prop:=
 Bl w w'/\∃wb ok,e=.returned (.tuple #[pt wb,.bool ok])/\(ok=true↔(C8 next dn Id Xd Rd/\VI xn M T))/\(ok=true->∀t,Dv (M 0) (T 0) t->∃tb xb,Bx w' wb 170 #[pt tb,pt xb]/\TQ w' tb xb (DM dn Id Xd) ((Ab 21 t).map (Ag 0)))
theorem BQ {ops:Array Oper} {o:Oper} {a:Act} {w:World} {K:Act->World->Prop} {Q:Exit->Act->World->Prop} {E:Prop} (hw:Region.wanted o (yielded ops a.tmps)=true) (k:Nat) (i:Nat) (tys:Array TypeId)
  (ho:o.op=.call { callee:=.value (.func k),args:=#[.tmp i],argTypes:=tys }) (u:Value) (hx:a.tmps[i]?.getD undef=u) (heg:∀args w,(callFunc k args).run Tryz.prog w=.ok (.enter k args) w)
  (h:WS k #[u] w λe w'=>∃r,e=.returned r/\K (a.put o.dst r) w') :
  if Region.wanted o (yielded ops a.tmps)=true then Oper.wp Tryz.prog o a w K Q else E:=by rw[if_pos hw];unfold Oper.wp;simp[execOp,ho,resolve,invoke,hx,go_sem,heg];refine h.mono ?_;rintro e w' ⟨u,rfl,hk⟩;exact hk
theorem TT {p:Qd} (h:∃j,j<6/\E8 j p=true):E8 (Ti p) p=true:=by
 unfold Ti;repeat' split
 all_goals first
  | assumption
  | (
   exfalso
   obtain⟨j,hj,he⟩:=h
   rcases (show j=0\/j=1\/j=2\/j=3\/j=4\/j=5 by omega) with rfl|rfl|rfl|rfl|rfl|rfl <;> contradiction)
def FG (Q:List Qd) (lab:Int) (nt:Bool) (p:Qd):Nat:=if nt=true then 0 else (Q.filter (λq=>BN q ⟨p.s,p.p,p.o,lab⟩)).length
theorem EL (tb xb:Nat) (id:ByteArray->Int) (Q:List Qd) (lab:Int) (nt:Bool) (p:Qd) (w:World) (hW:TQ w tb xb id Q) (hp:nt=false->Kp ⟨p.s,p.p,p.o,lab⟩) :
  WS 199 #[.agg #[pt xb,iv lab,.bool nt],qv p] w (WT w (iv (FG Q lab nt p:Int))):=by
 have HW:=hid hW;clear hW;unfold qv;cases nt with
 | true=>have HB:U (∀O1 O2,Bl w ((w.alloc O1).alloc O2)):=λ_ _=>(Aa _ _).alloc (by simp) _;go_enter Tryz.func199,Tryz.ntmps199;go_wp2;go_ret;exact⟨rfl,HB.o _ _⟩
 | false=>
 have hnum:=hp rfl;clear hp;obtain⟨j,hjd⟩:=gn (Ti ⟨p.s,p.p,p.o,lab⟩);have hj6:j<6:=by rw[hjd];exact TU _
 have hok:BC (A8 j ⟨p.s,p.p,p.o,lab⟩) 4:=(CY _ _).1 (by rw[hjd];exact TT (Ql _ hnum));have HSO:U (∀W,WS 216 #[.agg #[iv p.s,iv p.p,iv p.o,iv lab]] W (WT W (iv (j:Int)))):=λW=>by rw[hjd];exact FZ ⟨p.s,p.p,p.o,lab⟩ hnum W
 have HCT:=hid (λW hW=>HW.o.cnt W j ⟨p.s,p.p,p.o,lab⟩ hW hj6 hok);have hji:(j:Int)<6:=by omega
 have hj0:(0:Int)<=(j:Int):=by omega
 clear hok hjd hnum HW;obtain⟨W9,hW9⟩:=gn ((w.alloc (.cells #[pt xb,iv lab,.bool false] 181)).alloc (.cells #[iv p.s,iv p.p,iv p.o,iv lab] 140));have S9:U (Bx W9 w.heap.size 181 #[pt xb,iv lab,.bool false]/\Bx W9 (w.heap.size+1) 140 #[iv p.s,iv p.p,iv p.o,iv lab]/\Bl w W9):=by rw[hW9];have b2:=Bx.new (w.alloc (.cells #[pt xb,iv lab,.bool false] 181)) #[iv p.s,iv p.p,iv p.o,iv lab] 140;simp only[WJ] at b2;exact⟨(Bx.new w _ 181).alloc _,b2,(Aa _ _).alloc (by simp) _⟩
 have HC:U (∀W,Bl W9 W->W.cell? (ad w.heap.size 0)=some (pt xb)/\W.cell? (ad (w.heap.size+1) 0)=some (iv p.s)/\W.cell? (ad (w.heap.size+1) 1)=some (iv p.p)/\W.cell? (ad (w.heap.size+1) 2)=some (iv p.o)/\W.cell? (ad (w.heap.size+1) 3)=some (iv lab)):=λW hb=>by have p0:=Bx.cell ((hb.block _ S9.o.1.lt).trans S9.o.1) 0;have q:=(hb.block _ S9.o.2.1.lt).trans S9.o.2.1;have q0:=Bx.cell q 0;have q1:=Bx.cell q 1;have q2:=Bx.cell q 2;have q3:=Bx.cell q 3;simp at p0 q0 q1 q2 q3;exact⟨p0,q0,q1,q2,q3⟩
 go_enter Tryz.func199,Tryz.ntmps199;go_upto_region 4 with fail
 rw[<- hW9];clear hW9;refine Ac (S:=λW=>Bl W9 W) 8 (by kernel_rfl) (Wt _ _).drew (λW hHeld=>?_);refine tx 0 rfl ?_;refine ty 1 rfl (λw' h=>by obtain⟨q0,q1,q2,q3,q4⟩:=HC.o _ h;clear h;go_simp;rfl) ?_;refine ty 2 rfl (λw' h=>by obtain⟨q0,q1,q2,q3,q4⟩:=HC.o _ h;clear h;go_simp;rfl) ?_;refine tx 4 rfl ?_;refine ty 6 rfl (λw' h=>by obtain⟨q0,q1,q2,q3,q4⟩:=HC.o _ h;clear h;go_simp;rfl) ?_;refine AB 3 rfl (λK hK=>?_);refine BQ rfl 216 12 _ rfl (.agg #[iv p.s,iv p.p,iv p.o,iv lab]) rfl (λ_ _=>rfl) ?_;refine (HSO.o W).mono ?_;rintro e w5 ⟨rfl,hbm⟩;have hb5:=hHeld.trans (hbm.mono hHeld.size);refine⟨_,rfl,hK.out _ _ (λ_=>hb5) (λhG=>?_)⟩;clear hK K hG hbm;simp only[As];refine tx 5 rfl ?_;refine AB 7 rfl (λK hK=>?_);refine AF rfl 217 15 16 _ rfl (.pointer (some (ad xb (j*2)))) (.agg #[iv p.s,iv p.p,iv p.o,iv lab]) rfl rfl (λ_ _=>rfl) ?_;refine (HCT.o w5 (S9.o.2.2.trans (hb5.mono S9.o.2.2.size))).mono ?_;rintro e w6 ⟨rfl,hbm⟩;have hb6:=hb5.trans (hbm.mono hb5.size);refine⟨_,rfl,hK.out _ _ (λ_=>hb6) (λhG=>?_)⟩;clear hK K hG hbm;simp only[As];refine AB 8 rfl (λK hK=>?_);go_simp;refine hK.out _ _ (λhne=>absurd rfl hne) (λhG=>?_);clear hK K hG;refine Ae (by kernel_rfl) ?_ _;have HF:=hid (S9.o.2.2.trans (hb6.mono S9.o.2.2.size));go_wp2;go_ret;exact⟨rfl,HF.o⟩
theorem Ew (wb tb xb:Nat) (id:ByteArray->Int) (Q:List Qd) (cb:Bool) (cl:ByteArray) (w:World) (hB:Bx w wb 170 #[pt tb,pt xb]) (hW:TQ w tb xb id Q) :
  WS 96 #[pt wb,.agg #[.bool cb,.string cl]] w (WT w (.agg #[pt xb,iv (id cl),.bool (cb && decide (id cl=0))])):=by
 have HI:=hid (λW hb=>hW.tid W cl hb);have hwl:=hB.lt;clear hW;obtain⟨W9,hW9⟩:=gn ((w.alloc (.cells #[.bool cb,.string cl] 99)).alloc (.cells #[.pointer none,iv 0,.bool false] 181));have S9:U (Bx W9 w.heap.size 99 #[.bool cb,.string cl]/\Bx W9 (w.heap.size+1) 181 #[.pointer none,iv 0,.bool false]/\Bx W9 wb 170 #[pt tb,pt xb]/\Bl w W9):=by
  have hb:Bl w W9:=by rw[hW9];exact (Aa _ _).alloc (by simp) _
  refine⟨?_,?_,(hb.block _ hwl).trans hB,hb⟩;.rw[hW9];exact (Bx.new w _ 99).alloc _
  .rw[hW9];have b2:=Bx.new (w.alloc (.cells #[.bool cb,.string cl] 99)) #[.pointer none,iv 0,.bool false] 181;simp only[WJ] at b2;exact b2
 clear hB;have HC:U (∀W,Bl W9 W->(W.cell? (ad w.heap.size 0)=some (.bool cb)/\W.cell? (ad w.heap.size 1)=some (.string cl))/\(W.cell? (ad wb 0)=some (pt tb)/\W.cell? (ad wb 1)=some (pt xb))/\Bx W (w.heap.size+1) 181 #[.pointer none,iv 0,.bool false]):=λW hb=>by have p:=(hb.block _ S9.o.1.lt).trans S9.o.1;have q:=(hb.block _ S9.o.2.2.1.lt).trans S9.o.2.2.1;have p0:=Bx.cell p 0;have p1:=Bx.cell p 1;have q0:=Bx.cell q 0;have q1:=Bx.cell q 1;simp at p0 p1 q0 q1;exact⟨⟨p0,p1⟩,⟨q0,q1⟩,(hb.block _ S9.o.2.1.lt).trans S9.o.2.1⟩
 go_enter Tryz.func96,Tryz.ntmps96;go_upto_region 1 with fail
 rw[<- hW9];clear hW9;refine Ac (S:=λW=>Bl W9 W) 7 (by kernel_rfl) (Wt _ _).drew (λW hHeld=>?_);refine tx 0 rfl ?_;refine tx 1 rfl ?_;refine tx 2 rfl ?_;refine ty 3 rfl (λw' h=>by obtain⟨⟨q0,q1⟩,⟨q2,q3⟩,q4⟩:=HC.o _ h;clear h;go_simp;rfl) ?_;refine tx 4 rfl ?_;refine ty 5 rfl (λw' h=>by obtain⟨⟨q0,q1⟩,⟨q2,q3⟩,q4⟩:=HC.o _ h;clear h;go_simp;rfl) ?_;refine AB 6 rfl (λK hK=>?_);refine AF rfl 97 9 11 _ rfl (pt tb) (.string cl) rfl rfl (λ_ _=>rfl) ?_;refine (HI.o W (S9.o.2.2.2.trans (hHeld.mono S9.o.2.2.2.size))).mono ?_;rintro e w5 ⟨rfl,hbm⟩;have hb5:=hHeld.trans (hbm.mono hHeld.size);refine⟨_,rfl,hK.out _ _ (λ_=>hb5) (λhG=>?_)⟩;clear hK K hG hbm;simp only[As];refine AB 7 rfl (λK hK=>?_);go_simp;refine hK.out _ _ (λhne=>absurd rfl hne) (λhG=>?_);clear hK K hG;refine Ae (by kernel_rfl) ?_ _;obtain⟨⟨z0,z1⟩,⟨z2,z3⟩,z4⟩:=HC.o _ hb5;have z5:=z4.cell 0;have z6:=z4.cell 1;have z7:=z4.cell 2;simp at z5 z6 z7;have z8:∀i,w5.frozen? (ad (w.heap.size+1) i)=false:=λi=>by unfold Bx at z4;simp[World.frozen?,z4]
 have f0:=z8 0;have f1:=z8 1;have f2:=z8 2;clear z8;have HB5:=hid (ai (S9.o.2.2.2.trans (hb5.mono S9.o.2.2.2.size)) z4.lt);have Z4:=hid z4;clear z4 hHeld hb5 HC HI S9;obtain⟨lab,hlab⟩:=gn (id cl);have HL:=hid hlab;rw[<- hlab];clear hlab;have hl:lab=0\/¬ lab=0:=by omega
 rcases hl with hl|hl <;> cases cb
 .subst hl;go_wp2;go_region
  all_goals
   go_wp2
   refine bodyPost_ret (v:=.agg #[pt xb,iv 0,.bool false]) (by simp[results,Tryz.results96,go_sem,z5,z6,z7]) rfl ⟨by rw[<- HL.o];simp,(((HB5.o.1.setCell (by show w.heap.size<=w.heap.size+1;omega) _).setCell (by show w.heap.size<=w.heap.size+1;omega) _).setCell (by show w.heap.size<=w.heap.size+1;omega) _).drew⟩
 .subst hl;go_wp2;go_region
  all_goals
   go_wp2
   refine bodyPost_ret (v:=.agg #[pt xb,iv 0,.bool true]) (by simp[results,Tryz.results96,go_sem,z5,z6,z7]) rfl ⟨by rw[<- HL.o];simp,(((HB5.o.1.setCell (by show w.heap.size<=w.heap.size+1;omega) _).setCell (by show w.heap.size<=w.heap.size+1;omega) _).setCell (by show w.heap.size<=w.heap.size+1;omega) _).drew⟩
 .have hl' : decide (lab=0)=false:=decide_eq_false hl;go_wp2;go_region
  all_goals
   go_wp2
   refine bodyPost_ret (v:=.agg #[pt xb,iv lab,.bool false]) (by simp[results,Tryz.results96,go_sem,z5,z6,z7,hl]) rfl ⟨by rw[<- HL.o];simp[hl],(((HB5.o.1.setCell (by show w.heap.size<=w.heap.size+1;omega) _).setCell (by show w.heap.size<=w.heap.size+1;omega) _).setCell (by show w.heap.size<=w.heap.size+1;omega) _).drew⟩
 .have hl' : decide (lab=0)=false:=decide_eq_false hl;go_wp2;go_region
  all_goals
   go_wp2
   refine bodyPost_ret (v:=.agg #[pt xb,iv lab,.bool false]) (by simp[results,Tryz.results96,go_sem,z5,z6,z7,hl]) rfl ⟨by rw[<- HL.o];simp[hl],(((HB5.o.1.setCell (by show w.heap.size<=w.heap.size+1;omega) _).setCell (by show w.heap.size<=w.heap.size+1;omega) _).setCell (by show w.heap.size<=w.heap.size+1;omega) _).drew⟩
theorem RA (id:ByteArray->Int) (Q:List Qd) (cb:Bool) (cl:ByteArray) (p:Qd) (h0:cb=false->id cl=0) (hg:p.g=0) :
  FG Q (id cl) (cb && decide (id cl=0)) p=(Cl Q ⟨cb,if cb=true then id cl else 0⟩ p).length:=by
 obtain⟨a,b,c,d⟩:=p;have hg' : d=0:=hg;subst hg';cases cb with
 | false=>simp[FG,Cl,Rb,MH,h0 rfl]
 | true=>
  by_cases h:id cl=0;.simp[FG,Cl,Rb,MH,h]
  .simp[FG,Cl,Rb,MH,h]
theorem Ds (k way:Int) (b:Bool) (hk:(k=1/\way=0)\/((k=3\/k=4\/k=5)/\way=1)) (s t l:ByteArray) (oa:Option Addr) (ol oc:Nat) (h:Int) (w:World):WS 132 #[.agg #[iv k,.string s,.string t,.bool b,.string l,.slice oa ol oc,iv h],iv way] w (WT w (qv (A6 k way b))):=by
 have HB:U (∀O1 O2 O3,Bl w (((w.alloc O1).alloc O2).alloc O3)):=λ_ _ _=>((Aa _ _).alloc (by simp) _).alloc (by simp;omega) _;rcases hk with ⟨rfl,rfl⟩|⟨rfl|rfl|rfl,rfl⟩ <;> cases b;all_goals
  go_enter Tryz.func132,Tryz.ntmps132
  go_wp2
  refine bodyPost_ret (v:=.agg #[iv _,iv _,iv _,iv _]) (by simp[results,Tryz.results132,go_sem] <;> exact⟨rfl,rfl,rfl,rfl⟩) rfl ⟨rfl,?_⟩
  first
   | exact HB.o _ _ _
   | exact (HB.o _ _ _).setCell (by simp) _
   | (refine Below.setCell ?_ (by simp) _;refine Below.setCell ?_ (by simp) _;refine Below.setCell ?_ (by simp) _;refine Below.setCell ?_ (by simp) _;exact HB.o _ _ _)
theorem RG (s t l:ByteArray) (bd:Bool) (oa:Option Addr) (ol oc:Nat) (h:Int) (b:Nat) (w:World):WS 98 #[.agg #[iv 3,.string s,.string t,.bool bd,.string l,.slice oa ol oc,iv h],pt b] w (WT w (.tuple #[pt b,.pointer (some (ad b 2))])):=by
 have HB:U (∀O,Bl w (w.alloc O)):=λ_=>Aa _ _;go_enter Tryz.func98,Tryz.ntmps98;go_wp2;go_region
 all_goals
  go_wp2
  refine bodyPost_ret (v:=.tuple #[pt b,.pointer (some (ad b 2))]) (by simp[results,Tryz.results98,go_sem]) rfl ⟨rfl,?_⟩
  first
   | exact HB.o _
   | exact (HB.o _).drew
theorem Rg (s t l:ByteArray) (bd:Bool) (oa:Option Addr) (ol oc:Nat) (h:Int) (b:Nat) (w:World):WS 98 #[.agg #[iv 4,.string s,.string t,.bool bd,.string l,.slice oa ol oc,iv h],pt b] w (WT w (.tuple #[.pointer (some (ad b 2)),pt b])):=by
 have HB:U (∀O,Bl w (w.alloc O)):=λ_=>Aa _ _;go_enter Tryz.func98,Tryz.ntmps98;go_wp2;go_region
 all_goals
  go_wp2
  refine bodyPost_ret (v:=.tuple #[.pointer (some (ad b 2)),pt b]) (by simp[results,Tryz.results98,go_sem]) rfl ⟨rfl,?_⟩
  first
   | exact HB.o _
   | exact (HB.o _).drew
theorem QM (s t l:ByteArray) (bd:Bool) (oa:Option Addr) (ol oc:Nat) (h:Int) (b:Nat) (w:World):WS 98 #[.agg #[iv 5,.string s,.string t,.bool bd,.string l,.slice oa ol oc,iv h],pt b] w (WT w (.tuple #[pt b,pt b])):=by
 have HB:U (∀O,Bl w (w.alloc O)):=λ_=>Aa _ _;go_enter Tryz.func98,Tryz.ntmps98;go_wp2;go_region
 all_goals
  go_wp2
  refine bodyPost_ret (v:=.tuple #[pt b,pt b]) (by simp[results,Tryz.results98,go_sem]) rfl ⟨rfl,?_⟩
  first
   | exact HB.o _
   | exact (HB.o _).drew
theorem EV (k:Int) (hk:k=3\/k=4\/k=5) (b:Bool) (s t l:ByteArray) (oa:Option Addr) (ol oc:Nat) (h:Int) (w:World):WS 132 #[.agg #[iv k,.string s,.string t,.bool b,.string l,.slice oa ol oc,iv h],iv 0] w (WT w (qv (A6 k 0 b))):=by
 obtain⟨v,hv⟩:=gn (qv (A6 k 0 b));rw[<- hv];obtain⟨bo,hbo⟩:∃bo:Int,bo=if k=5 then 1 else 0:=⟨_,rfl⟩;obtain⟨bi,hbi⟩:∃bi:Int,bi=if b=true then 1 else 0:=⟨_,rfl⟩;obtain⟨W9,hW9⟩:∃W9,W9=((w.alloc (.cells #[iv k,.string s,.string t,.bool b,.string l,.slice oa ol oc,iv h] 102)).alloc (.cells #[iv 0,iv 0,iv 0,iv 0] 140)).alloc (.cells #[iv 0,iv 1,iv bo,iv bi] 140):=⟨_,rfl⟩;have S9:U (Bx W9 (w.heap.size+1) 140 #[iv 0,iv 0,iv 0,iv 0]/\Bx W9 (w.heap.size+2) 140 #[iv 0,iv 1,iv bo,iv bi]/\Bl w W9):=by rw[hW9];have b2:=Bx.new (w.alloc (.cells #[iv k,.string s,.string t,.bool b,.string l,.slice oa ol oc,iv h] 102)) #[iv 0,iv 0,iv 0,iv 0] 140;have b3:=Bx.new ((w.alloc (.cells #[iv k,.string s,.string t,.bool b,.string l,.slice oa ol oc,iv h] 102)).alloc (.cells #[iv 0,iv 0,iv 0,iv 0] 140)) #[iv 0,iv 1,iv bo,iv bi] 140;simp only[WJ] at b2 b3;exact⟨b2.alloc _,b3,((Aa _ _).alloc (by simp) _).alloc (by simp;omega) _⟩
 rcases hk with rfl|rfl|rfl <;> cases b;all_goals
  simp at hbi hbo
  subst hbi hbo
  have HV:U (v=qv (A6 _ 0 _)):=hv
  clear hv
  go_enter Tryz.func132,Tryz.ntmps132
  go_wp2_with fail
  rw[<- hW9]
  clear hW9
  first
   | with_reducible refine (RG s t l _ oa ol oc h (w.heap.size+2) W9).mono ?_
   | with_reducible refine (Rg s t l _ oa ol oc h (w.heap.size+2) W9).mono ?_
   | with_reducible refine (QM s t l _ oa ol oc h (w.heap.size+2) W9).mono ?_
  rintro e w1 ⟨rfl,hb1⟩
  have p:=(hb1.block _ S9.o.1.lt).trans S9.o.1
  have q:=(hb1.block _ S9.o.2.1.lt).trans S9.o.2.1
  have p0:=Bx.cell p 0
  have p1:=Bx.cell p 1
  have p2:=Bx.cell p 2
  have p3:=Bx.cell p 3
  have q0:=Bx.cell q 0
  have q1:=Bx.cell q 1
  have q2:=Bx.cell q 2
  have q3:=Bx.cell q 3
  simp at p0 p1 p2 p3 q0 q1 q2 q3
  have pf:∀o,w1.frozen? (ad (w.heap.size+1) o)=false:=λo=>by simp[World.frozen?,p]
  have qf:∀o,w1.frozen? (ad (w.heap.size+2) o)=false:=λo=>by simp[World.frozen?,q]
  have HB:=hid (S9.o.2.2.trans (hb1.mono S9.o.2.2.size))
  clear hb1 p q S9
  go_wp2
  refine bodyPost_ret (v:=v) (by rw[HV.o];simp[results,Tryz.results132,go_sem,p0,p1,p2,p3,qv,A6]) rfl ⟨rfl,?_⟩
  exact ((((HB.o.setCell (by simp) _).setCell (by simp) _).setCell (by simp) _).setCell (by simp) _).setCell (by simp) _
theorem Hv {I:Nat->Int} {N:Nat} {P:Nat->Prop} (hP:∀i,i<N->P i->∀j,j<Ah (I i)->P (AK (At I) i j)) :
  ∀(f base m:Nat),m+1<=f->base+m<N->Am (λi=>Ah (I (base+i))) (m+1) 0->P (base+m)->∀t,t<=m->P (base+t)
 | 0,base,m,hf,_,_,_,_,_=>absurd hf (by omega)
 | f+1,base,m,hf,hN,hb,h,t,ht=>by
  by_cases e:t=m
  .rw[e];exact h
  rcases Gz hb with ⟨e,hm⟩|⟨e,h0,e0,g0⟩|⟨e,s,h0,h1,e0,e1,g0,g1⟩
  .omega
  .have hc:=hP (base+m) hN h 0 (by omega)
   rw[e0] at hc
   exact Hv hP f base (m-1) (by omega) (by omega) g0 hc t (by omega)
  .have hc:=hP (base+m) hN h 0 (by omega)
   have hc1:=hP (base+m) hN h 1 (by omega)
   rw[e0] at hc
   rw[e1] at hc1
   by_cases q:t<s
   .exact Hv hP f base (s-1) (by omega) (by omega) g0 hc t (by omega)
   .have:=Hv hP f (base+s) (m-s-1) (by omega) (by omega) g1 hc1 (t-s) (by omega)
    rw[show base+s+(t-s)=base+t by omega] at this
    exact this
def Wm (k:Int) (ow a0 a1:Nat):Nat:=if k=3\/k=4\/k=5 then (if a0<ow then 0 else 1) else if k=6 then (if a0<=a1 then 0 else 1) else 0
def Wr (fs:Qd->Nat) (k:Int) (b:Bool) (wy:Nat):Nat:=if k=1 then fs (A6 1 0 b) else if k=3\/k=4\/k=5 then 6*wy+fs (A6 k (wy:Int) b) else wy
theorem Gx (k:Int) (wy:Nat) (hk:(k=1/\wy=0)\/((k=3\/k=4\/k=5)/\(wy=0\/wy=1))) (b:Bool) (s t l:ByteArray) (oa:Option Addr) (ol oc:Nat) (h:Int) (w:World):WS 132 #[.agg #[iv k,.string s,.string t,.bool b,.string l,.slice oa ol oc,iv h],iv (wy:Int)] w (WT w (qv (A6 k (wy:Int) b))):=by
 rcases hk with ⟨rfl,rfl⟩|⟨rfl|rfl|rfl,rfl|rfl⟩ <;> cases b;.exact Ds 1 0 false (by decide) s t l oa ol oc h w
 .exact Ds 1 0 true (by decide) s t l oa ol oc h w
 .exact EV 3 (by decide) false s t l oa ol oc h w
 .exact EV 3 (by decide) true s t l oa ol oc h w
 .exact Ds 3 1 false (by decide) s t l oa ol oc h w
 .exact Ds 3 1 true (by decide) s t l oa ol oc h w
 .exact EV 4 (by decide) false s t l oa ol oc h w
 .exact EV 4 (by decide) true s t l oa ol oc h w
 .exact Ds 4 1 false (by decide) s t l oa ol oc h w
 .exact Ds 4 1 true (by decide) s t l oa ol oc h w
 .exact EV 5 (by decide) false s t l oa ol oc h w
 .exact EV 5 (by decide) true s t l oa ol oc h w
 .exact Ds 5 1 false (by decide) s t l oa ol oc h w
 .exact Ds 5 1 true (by decide) s t l oa ol oc h w
variable {Bd:Nat->Bool}{I:Nat->Int}{Lb R X:Nat->ByteArray}{i j n:Nat}{id:ByteArray->Int}
theorem ER (hv:Ce n I X R):Am (λi=>Ah (I (0+i))) (n-1+1) 0:=by have:=hv.2.2.1;have h1:=hv.1;rw[show n-1+1=n by omega];simpa only [WM] using this
theorem Hl (hv:Ce n I X R) (hi:i<n):1<=I i/\I i<=9:=Md (hv.2.1 i hi)
theorem NT (hv:Ce n I X R) (hi:i<n) (hj:j<Ah (I i)):AK (At I) i j<i:=by have hs:=((Ct _ n (by omega)).1 hv.2.2.1).1;exact Go.Proofs.YtacpbofiipdodaaGreat.Gt hs hi (Dc _ _) hj
theorem VE {next:Int} {R:Nat->Int} (hv:C8 next n I X R) (x:ByteArray):0<=DM n I X x/\DM n I X x<=2000000000:=by
 have hn:next<=2000000000:=by have:=hv.1;unfold I6 at this;simp at this;omega
 rcases (I7 hv x).1 hv with ⟨i,hi,_,e⟩|⟨_,e⟩;.rw[e];have:=(hv.2.2 i hi).1.2.1;omega
 .rw[e];omega
theorem U6 {next:Int} {R:Nat->Int} (hv:C8 next n I X R) {x:ByteArray} (hx:x.size=0):DM n I X x=0:=by
 rcases (I7 hv x).1 hv with ⟨i,hi,e,_⟩|⟨_,e⟩;.have:=(hv.2.2 i hi).1.1;rw[e] at this;omega
 .exact e
theorem VB (hv:Ce n I X R) (hi:i<n) (hk:I i=3\/I i=4):(R i).size=0:=by have h:=hv.2.1 i hi;unfold Ke at h;rw[if_neg (by omega),if_pos (by omega),Bool.and_eq_true] at h;have h2:=h.2;have h3:=Ea h2;rw[ByteArray.toList_eq] at h3;show (R i).data.size=0;have:=congrArg List.length h3;simpa using this
theorem Vr (hv:Ce n I X R) (hc:CtxC n I X Bd Lb) (hi:i<n):Bd i=false->(Lb i).size=0:=by
 have h1:=hv.1;have:=Hv (I:=I) (N:=n) (P:=λi=>Bd i=false->(Lb i).size=0) (λi hi h j hj hf=>by
  obtain⟨q1,q2⟩:=hc.2.2 i (Ww _) hi j hj;rw[q1] at hf;rw[q2];unfold RJ at hf;unfold RO;by_cases h9:I i=9;.rw[if_pos h9] at hf;cases hf
  .rw[if_neg h9] at hf ⊢;exact h hf) n 0 (n-1) (by omega) (by omega) (ER hv) (by show Bd (0+(n-1))=false->_;rw[WM];intro _;rw[hc.2.1];rfl) i (by omega)
 rw[WM] at this;exact this
def BZ (id:ByteArray->Int) (Bd:Nat->Bool) (Lb:Nat->ByteArray) (i:Nat):Cx:=⟨Bd i,if Bd i=true then id (Lb i) else 0⟩
theorem U1 (hc:CtxC n I X Bd Lb) (hi:i<n) (hj:j<Ah (I i)):BZ id Bd Lb (AK (At I) i j)=DU id (I i) (X i) (BZ id Bd Lb i):=by
 obtain⟨q1,q2⟩:=hc.2.2 i (Ww _) hi j hj;unfold BZ DU;rw[q1,q2];unfold RJ RO;by_cases h9:I i=9;.rw[if_pos h9,if_pos h9,if_pos h9,if_pos rfl]
 .rw[if_neg h9,if_neg h9,if_neg h9]
theorem Qg (hc:CtxC n I X Bd Lb):BZ id Bd Lb (n-1)=⟨false,0⟩:=by unfold BZ;rw[hc.1];rfl
end Go.Proofs.YtacpbofiipdodaaGreat
