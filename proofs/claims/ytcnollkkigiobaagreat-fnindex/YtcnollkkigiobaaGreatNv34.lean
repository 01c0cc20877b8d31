import Derived.Test.YtcnollkkigiobaaGreatNv33
set_option linter.unusedVariables false
set_option linter.unusedSimpArgs false
set_option maxRecDepth 100000
set_option maxHeartbeats 90000000
namespace Go.Proofs.YtcnollkkigiobaaGreat
open Go Go.Deep Go.RowKit Go.Proofs.Tryz
variable {bs:List Nat}
def Jd (key:ByteArray) (t:Ro 21) (v:Value) (bs:List Nat) (w:World) (bq:Bool) (w' : World):Prop:=
 (bq=false/\key∉Ab 21 t/\Bl w w')\/(bq=true/\key∈Ab 21 t/\Fz bs w w'/\∃u b,b∈bs/\Bu key 21 t u/\DE (λx=>(x∈bs/\x≠b)\/w.heap.size<=x) w' b 21 u v)
theorem Gz.b {key:ByteArray} {t:Ro 21} {v:Value} {w w':World} {e:Ending} (h:Gz key 21 t v bs w e w'):∃f,e=.returned (.bool f)/\Jd key t v bs w f w':=by
 rcases h with ⟨a,c,d⟩|⟨a,c,d,g⟩;.exact⟨false,c,.inl ⟨rfl,a,d⟩⟩
 .exact⟨true,c,.inr ⟨rfl,a,d,g⟩⟩
structure DD (w0 W wr:World) (M:Nat->Nat) (T:Nat->Nat->Tn) (q:Qd) (lo hi:Nat->Nat) (j:Nat) (A:Array Value):Prop where
 xb:Bx wr (w0.heap.size+1) 109 A
 sz:A.size=12
 qb:Bx wr W.heap.size 34 #[iv q.s,iv q.p,iv q.o,iv q.g]
 bel:Below (w0.heap.size+1) W wr
 big:W.heap.size+1<=wr.heap.size
 old:∀p,j<=p->p<6->XO (lo p) (hi p) wr A M T p
 new:∀p,p<j->XD (lo p) (hi p) (W.heap.size+1) wr A M T q p
theorem DD.keep {d W wr w' : World} {M:Nat->Nat} {T:Nat->Nat->Tn} {q:Qd} {lo hi:Nat->Nat} {j:Nat} {A:Array Value} (h:DD d W wr M T q lo hi j A) (a:Bl wr w'):DD d W w' M T q lo hi j A:=
 ⟨h.xb.below a,h.sz,h.qb.below a,h.bel.trans (a.mono (by have:=h.xb.lt;omega)),Uy h.big a.size,λp c b=>(h.old p c b).keep a.size (λk _ f=>a.block k (by have:=(h.old p c b).top;omega)),λp c=>(h.new p c).keep a.size (λx _ e=>a.block x e)⟩
theorem DD.step {g W n w2:World} {M:Nat->Nat} {T:Nat->Nat->Tn} {q:Qd} {lo hi:Nat->Nat} {j:Nat} {A:Array Value} (h:DD g W n M T q lo hi j A) (z:j<6) (Y:TJ g W lo hi) (c:∀x,x∈bs->lo j<=x) (f:∀x,x∈bs->x<hi j) (s:Fz bs n w2) {b:Nat} (G:b∈bs) {L:Nat->Prop} (t:∀x,L x->((x∈bs/\x≠b)\/n.heap.size<=x)/\x<w2.heap.size)
  {t':Ro 21} {D:Nat} {y:Ro D} {v':Value} {S:Nat->Prop} {hh:Nat} {u:Ro 21} (h1:BE (M j) (T j) t') (V:AA j q∈Ab 21 t') (R:AP S w2 D y v') (C:∀x,S x->(L x\/x=b)/\x<w2.heap.size) (h5:Aq D true y hh) (U:Bu (AA j q) 21 t' u) (J:Ac D y<=5000) (Q:∀M m,m=Ac D y->Am M 0 D y 0->OJ m M u) :
  Bx w2 (g.heap.size+1) 109 A/\DD g W (w2.setCell (ad (g.heap.size+1) (j*2+1)) v') M T q lo hi (j+1) (A.setIfInBounds (j*2+1) v'):=by
 obtain⟨F,N,r3,r4⟩:=Y;have X:=s.2.2.2.1;have K:=h.big;have O:=F j z;have P:=r3 j z;have o:∀x,x<n.heap.size->x∉bs->w2.heap[x]?=n.heap[x]?:=λx a I=>s.2.2.2.2 x a I;have v:Bx w2 (g.heap.size+1) 109 A:=(o _ h.xb.lt (λq=>by have:=c _ q;omega)).trans h.xb;have i:∀x,x≠g.heap.size+1->x<n.heap.size->x∉bs->(w2.setCell (ad (g.heap.size+1) (j*2+1)) v').heap[x]?=n.heap[x]?:=λx a w I=>(Ur _ _ _ _ a).trans (o x w I);have B:=h.sz;have d:(w2.setCell (ad (g.heap.size+1) (j*2+1)) v').heap.size=w2.heap.size:=World.size_setCell _ _ _;refine⟨v,v.set _ _,by simpa using B,?_,?_,by rw[d];omega,λp Z l=>?_,λp Z=>?_⟩;.exact (i _ (by omega) h.qb.lt (λq=>by have:=f _ q;omega)).trans h.qb
 .refine h.bel.trans ⟨s.1,s.2.1,s.2.2.1,by rw[d];omega,λk hk=>i k (by omega) (by have:=h.xb.lt;omega) (λq=>by have:=c _ q;omega)⟩
 .have E:=N j p (by omega) l;have H:=F p l;refine ((h.old p (by omega) l).keep (by rw[d];omega) (λk k1 k2=>i k (by omega) (by have:=(h.old p (by omega) l).top;omega) (λq=>by have:=f _ q;omega))).set (by omega)
 .by_cases e:p=j
  .subst e;have E:=h.old p (Uq _) z;refine⟨?_,t',D,y,v',S,hh,u,h1,V,AP.keep (by rw[d];exact Uq _) (λx a w=>⟨a,Ur _ _ _ _ ?_⟩) R,λx a=>⟨?_,by rw[d];exact (C x a).2⟩,h5,U,J,Q,?_⟩;.rw[Array.getElem?_setIfInBounds_ne (by omega)];exact E.1
   .show x≠g.heap.size+1;rcases (C x a).1 with q|q
    .rcases (t x q).1 with q|q;.have:=c x q.1;omega
     .have:=h.xb.lt;omega
    .have:=c b G;omega
   .rcases (C x a).1 with q|q
    .rcases (t x q).1 with q|q;.exact .inl ⟨c x q.1,f x q.1⟩
     .exact .inr (by omega)
    .exact .inl (by rw[q];exact⟨c b G,f b G⟩)
   .rw[Array.getElem?_setIfInBounds_self_of_lt (by omega)]
  .have r:p<j:=by omega
   have E:=N p j r z;have H:=F p (by omega);refine ((h.new p r).keep (by rw[d];omega) (λx a w=>i x ?_ w (λq=>?_))).set e
   .rcases a with a|a;.omega
    .omega
   .have h7:=f _ q;have J:=c _ q;rcases a with a|a;.omega
    .omega
theorem MB {α:Type}:∀(l b : List α),l.Nodup->(∀x,x∈l->x∈b)->b.length<=l.length->∀x,x∈b->x∈l
 | [],b,_,_,hl,x,hx=>by
  have:b=[]:=List.length_eq_zero_iff.1 (by simpa using hl)
  rw[this] at hx
  exact hx
 | a::t,b,hd,hs,hl,x,hx=>by
  obtain⟨f,h,e⟩:=List.append_of_mem (hs a (by simp))
  subst e
  have c:=List.nodup_cons.1 hd
  have d : ∀y,y∈t->y∈f++h:=λy g=>by
   have q:=hs y (List.mem_cons_of_mem _ g)
   simp only[List.mem_append,List.mem_cons] at q ⊢
   rcases q with q|q|q
   .exact .inl q
   .subst q;exact absurd g c.1
   .exact .inr q
  have ih:=MB t (f++h) c.2 d (by simp at hl ⊢;omega)
  simp only[List.mem_append,List.mem_cons] at hx
  rcases hx with q|q|q
  .exact List.mem_cons_of_mem _ (ih x (by simp[q]))
  .simp[q]
  .exact List.mem_cons_of_mem _ (ih x (by simp[q]))
theorem Qn (I W:World) (a:Option Addr) (c:Nat) (M:Nat->Nat) (T:Nat->Nat->Tn) (A:Array Value) (lo hi:Nat->Nat) (hI:Ioo I W a c M T 6 A lo hi) (hV:VI 6 M T) (q:Qd) :
  UO 51 #[pt (I.heap.size+1),qv q] W (Qe I W M T q lo hi):=by
 have av:U (TJ I W lo hi):=⟨hI.base,hI.ord,λp hp=>(hI.xt p hp).top,hI.xb.lt⟩;have A1:U (DD I W (W.alloc (.cells #[iv q.s,iv q.p,iv q.o,iv q.g] 34)) M T q lo hi 0 A):=by have r:=hI.keep (Aa W (.cells #[iv q.s,iv q.p,iv q.o,iv q.g] 34));exact⟨r.xb,r.sz,Bx.new _ _ _,(Aa _ _).mono (by have:=hI.xb.lt;omega),by simp,λp _ hp=>r.xt p hp,λp hp=>absurd hp (Uu _)⟩
 have ay:=Ae hV;obtain⟨t0,ab,be,a3⟩:=hV.2.1 0 (by omega);obtain⟨L0,O⟩:=gn ((Ab 21 t0).map (Al 0));have ao:U (CH 6 M T q↔q∈L0):=by
  constructor;.intro r;rw[O];exact r.2 t0 ab
  .intro r;refine⟨ay.o,λt ht=>?_⟩;have e:=CR ht ab;subst e;rw[O] at r;exact r
 have bd:U (q∈L0->AQ q=true):=by intro J;rw[O] at J;obtain⟨k,r,e⟩:=List.mem_map.1 J;rw[<- e];exact (a3 k r).2
 have a9:U (∀p,p<6->∀t,BE (M p) (T p) t->AQ q=true->q∈L0->AA p q∈Ab 21 t):=by
  intro p hp t ht hq J;obtain⟨t2,ap,bk,a5⟩:=ay.o.2.1 p hp;have e:=CR ap ht;subst e;have bj:q∈(Ab 21 t2).map (Al p):=by
   by_cases e:p=0;.subst e;have e:=CR ap ab;subst e;rw[<- O];exact J
   .obtain⟨s1,s2⟩:=ay.o.2.2 p (by omega) hp t2 t0 ap ab;refine MB _ L0 (DN hp (Bz ap.2.2.2.2.1) (λk r=>(a5 k r).1)) (λx P=>?_) (by rw[O,UD,UD];omega) q J;obtain⟨k,r,e⟩:=List.mem_map.1 P;rw[O,<- e];exact s2 k r
  obtain⟨k,r,e⟩:=List.mem_map.1 bj;have:=Dp (perm:=p) hp (a5 k r).1 (Bq p q) (by rw[A9 hp hq];exact e);rw[<- this];exact r
 have bi:U (AQ q=true->AA 0 q∈Ab 21 t0->q∈L0):=by intro hq J;rw[O];exact List.mem_map.2 ⟨_,J,A9 (by omega) hq⟩
 have bf:=Ae ab;have a6:U (∀W:World,UO 81 #[.agg #[iv q.s,iv q.p,iv q.o,iv q.g]] W (UP W (.bool (AQ q)))):=λW=>FR q W;clear hI hV ab be a3 O;unfold qv;obtain⟨y0,y1,y2,y3⟩:(W.alloc (.cells #[iv q.s,iv q.p,iv q.o,iv q.g] 34)).cell? (ad W.heap.size 0)=some (iv q.s)/\(W.alloc (.cells #[iv q.s,iv q.p,iv q.o,iv q.g] 34)).cell? (ad W.heap.size 1)=some (iv q.p)/\(W.alloc (.cells #[iv q.s,iv q.p,iv q.o,iv q.g] 34)).cell? (ad W.heap.size 2)=some (iv q.o)/\(W.alloc (.cells #[iv q.s,iv q.p,iv q.o,iv q.g] 34)).cell? (ad W.heap.size 3)=some (iv q.g):=⟨A1.o.qb.cell 0,A1.o.qb.cell 1,A1.o.qb.cell 2,A1.o.qb.cell 3⟩;go_enter func51,ntmps51;go_wp2_with fail
 (with_reducible refine (a6.o _).mono ?_)
 rintro e d ⟨rfl,l⟩;have A2:=Ae (A1.o.keep l);clear l y0 y1 y2 y3 a6 A1;cases hgq:AQ q with
 | false=>
  have R:U (¬ CH 6 M T q):=λr=>by have:=bd.o (ao.o.1 r);rw[hgq] at this;cases this
  go_wp2;go_ret;exact⟨A2.o.bel,.inl ⟨rfl,R.o⟩⟩
 | true=>
 go_wp2;go_loopw [5,6,10] (λ_ _ i wr=>∃(j:Nat) (A:Array Value),j<=6/\i=iv j/\DD I W wr M T q lo hi j A) (λ_ _ i _=>6-(intOf i).toNat)
 case atStart=>exact⟨0,A,Us _,rfl,A2.o⟩
 case round=>
  obtain⟨j,A',hj,rfl,m⟩:=hrel;have j0:(0:Int)<=(j:Int):=by omega
  clear A2;by_cases z:j<6
  .have j1:(j:Int)<6:=by omega
   have HA:=Ae m;obtain⟨x0,t,B,bh,v,a0,k1,k2,a8,k3,⟨bs,N,ar,a4,_⟩,x7⟩:=m.old j (Uq _) z;have c0:=m.xb.cell (j*2);have c1:=m.xb.cell (j*2+1);rw[x0] at c0;rw[x7] at c1;have y0:=m.qb.cell 0;have y1:=m.qb.cell 1;have y2:=m.qb.cell 2;have y3:=m.qb.cell 3;simp at y0 y1 y2 y3;have ax:=Mo a8 a0.2.2.2.2.2;have X:U (CG (lo j) wr 21 B v bs/\bs.Nodup/\(∀x,x∈bs->x<hi j)/\lo j<=wr.heap.size):=⟨ax.tow ar,N,a4,by obtain⟨b,E,bl,_⟩:=(ax.tow ar).tat.count;have:=(ar.lt b E).1;omega⟩;have aq:=Ae a0;obtain⟨g1,g2,g3,⟨hh,g4⟩,g5,g6⟩:=a0;have a7:=BJ g3;have HF:U (Ac 21 B<=5000/\Aq 21 true B hh/\BI (Ab 21 B)):=⟨by omega,g4,Bz g5⟩;obtain⟨n,ag⟩:=gn (AA j q);have ac:=Ae ag;have Z:U (UO 83 #[.func (.func (BY j)) #[] #[],.agg #[iv q.s,iv q.p,iv q.o,iv q.g]] wr.drew λe w'=>e=.returned (.string n)/\Below wr.drew.heap.size wr.drew w'):=by rw[ag];exact Nk j z q (λi hi=>⟨by have:=(BS z hgq i hi).1;omega,(BS z hgq i hi).2⟩) wr.drew
   have aa:=Ae (λd h=>Tm n 21 B v bs true hh (lo j) d (X.o.1.below h) X.o.2.1 HF.o.2.1 HF.o.2.2 HF.o.1);obtain⟨Y,ah⟩:∃Y,v=.iface 204 (pt Y)\/v=.iface 174 (pt Y):=by obtain⟨Y,_,_,_,hv⟩:=(X.o.1.tat).count;exact⟨Y,hv⟩
   have au:=Ae x7;clear k1 k2 k3 a8 ar N a4 ax a7 g1 g2 g3 g4 g5 g6 x0 x7 ag m t bh;rcases ah with rfl|rfl
   .have aj:U (∀d:World,Bl wr d->UO 207 #[pt Y,.string n] d λe w'=>∃H,e=.returned (.bool H)/\Jd n B (.iface 204 (pt Y)) bs d H w'):=λd h=>by
     rcases aa.o d h with ⟨kb,e,hc⟩|⟨kb,e,hc⟩;all_goals first
      | exact absurd (RZ e).1 (by decide)
      | (
       have e2:=(RZ e).2
       injection e2 with e2
       subst e2
       exact hc.mono λe w' h=>h.b)
    clear aa;go_wp2;go_cut [30] from 17 to 30 (λa1 wx=>∃H d,a1=.bool (!H)/\Bl wr d/\Jd n B (.iface 204 (pt Y)) bs d H wx)
    case first=>
     go_region_with (first
      | (go_at_call 83;(with_reducible refine Z.o.mono ?_);rintro e d ⟨rfl,l⟩;have L:U (Bl wr d):=Ad l;have d0:=(L.o.cell (Uo _ _ c0)).trans c0;have d1:=(L.o.cell (Uo _ _ c1)).trans c1;clear l)
      | (go_at_call 207;(with_reducible refine (aj.o _ L.o).mono ?_);rintro e F ⟨H,rfl,G⟩;have a2:U (Jd n B (.iface 204 (pt Y)) bs d H F):=G;clear G))
     all_goals
      go_wp2
      go_meet
      case rel=>exact⟨H,d,rfl,L.o,a2.o⟩
    case rest=>
    obtain⟨F,rfl⟩:=gn wc;obtain⟨H,d,rfl,l,G⟩:=hcut;have w:U (DD I W d M T q lo hi j A'):=HA.o.keep l;have V:U (CG (lo j) d 21 B (.iface 204 (pt Y)) bs):=X.o.1.below l;clear c0 c1 y0 y1 y2 y3 Z aj l;rcases G with ⟨rfl,J,ae⟩|⟨rfl,J,K,u,b,E,hu,N⟩;.have R:U (¬ CH 6 M T q/\Below (I.heap.size+1) W F):=⟨λr=>J (by rw[ac.o];exact a9.o j z B aq.o hgq (ao.o.1 r)),w.o.bel.trans (ae.mono (by have:=w.o.xb.lt;omega))⟩;clear J ae;go_wp2;go_ret;exact⟨R.o.2,.inl ⟨rfl,R.o.1⟩⟩
    .have az:=V.o.lt b E;have bg:=K.2.2.2.1;have ak:Bx F (I.heap.size+1) 109 A':=(K.2.2.2.2 _ w.o.xb.lt (λq=>by have:=(V.o.lt _ q).1;have:=av.o.1 j z;omega)).trans w.o.xb;have c5:=ak.cell (j*2+1);rw[au.o] at c5;have af:=Ae (Ge u _ b hh (λx=>((x∈bs/\x≠b)\/d.heap.size<=x)/\x<F.heap.size) F (DE.keep (Uq _) rfl (λx P hl=>⟨⟨P,hl⟩,rfl⟩) N) (λq=>by rcases q.1 with q|q;exact q.2 rfl;omega) (λx P=>P.2) (by omega) (Bu.bal HF.o.2.1 HF.o.2.2 hu).1);have f:U (n∈Ab 21 B/\Fz bs d F/\b∈bs/\Bu n 21 B u/\Ac 21 u<=5000):=⟨J,K,E,hu,by have:=Bu.nodes HF.o.2.1 HF.o.2.2 hu;have:=HF.o.1;omega⟩;clear N hu J K az E ak;go_wp2_with fail
     (with_reducible refine af.o.mono ?_)
     rintro e w6 ⟨bc,D,y,v',S,h3,rfl,Q,al,an,aw,am⟩;subst w6;have C:U (Bx F (I.heap.size+1) 109 A'/\DD I W (F.setCell (ad (I.heap.size+1) (j*2+1)) v') M T q lo hi (j+1) (A'.setIfInBounds (j*2+1) v')):=by refine w.o.step z av.o (λx P=>(V.o.lt x P).1) X.o.2.2.1 f.o.2.1 f.o.2.2.1 (λx P=>P) aq.o (by rw[<- ac.o];exact f.o.1) Q al an (by rw[<- ac.o];exact f.o.2.2.2.1) (by have:=f.o.2.2.2.2;omega) am
     obtain⟨ty,pv,ah⟩:∃ty pv,v'=.iface ty pv:=by obtain⟨bb,_,_,_,q⟩:=Q.count;rcases q with q|q <;> exact⟨_,_,q⟩
     subst ah;have c6:=C.o.1.cell (j*2+1);rw[au.o] at c6;have f6:=C.o.1.frozen (j*2+1);have l6:=C.o.1.lt;clear Q al an aw am af c5;go_wp2;go_roundw;case rel=>exact⟨j+1,_,by omega,by go_num,C.o.2⟩
     case measure=>simp[intOf];omega
   .have aj:U (∀d:World,Bl wr d->UO 190 #[pt Y,.string n] d λe w'=>∃H,e=.returned (.bool H)/\Jd n B (.iface 174 (pt Y)) bs d H w'):=λd h=>by
     rcases aa.o d h with ⟨kb,e,hc⟩|⟨kb,e,hc⟩;all_goals first
      | exact absurd (RZ e).1 (by decide)
      | (
       have e2:=(RZ e).2
       injection e2 with e2
       subst e2
       exact hc.mono λe w' h=>h.b)
    clear aa;go_wp2;go_cut [30] from 17 to 30 (λa1 wx=>∃H d,a1=.bool (!H)/\Bl wr d/\Jd n B (.iface 174 (pt Y)) bs d H wx)
    case first=>
     go_region_with (first
      | (go_at_call 83;(with_reducible refine Z.o.mono ?_);rintro e d ⟨rfl,l⟩;have L:U (Bl wr d):=Ad l;have d0:=(L.o.cell (Uo _ _ c0)).trans c0;have d1:=(L.o.cell (Uo _ _ c1)).trans c1;clear l)
      | (go_at_call 190;(with_reducible refine (aj.o _ L.o).mono ?_);rintro e F ⟨H,rfl,G⟩;have a2:U (Jd n B (.iface 174 (pt Y)) bs d H F):=G;clear G))
     all_goals
      go_wp2
      go_meet
      case rel=>exact⟨H,d,rfl,L.o,a2.o⟩
    case rest=>
    obtain⟨F,rfl⟩:=gn wc;obtain⟨H,d,rfl,l,G⟩:=hcut;have w:U (DD I W d M T q lo hi j A'):=HA.o.keep l;have V:U (CG (lo j) d 21 B (.iface 174 (pt Y)) bs):=X.o.1.below l;clear c0 c1 y0 y1 y2 y3 Z aj l;rcases G with ⟨rfl,J,ae⟩|⟨rfl,J,K,u,b,E,hu,N⟩;.have R:U (¬ CH 6 M T q/\Below (I.heap.size+1) W F):=⟨λr=>J (by rw[ac.o];exact a9.o j z B aq.o hgq (ao.o.1 r)),w.o.bel.trans (ae.mono (by have:=w.o.xb.lt;omega))⟩;clear J ae;go_wp2;go_ret;exact⟨R.o.2,.inl ⟨rfl,R.o.1⟩⟩
    .have az:=V.o.lt b E;have bg:=K.2.2.2.1;have ak:Bx F (I.heap.size+1) 109 A':=(K.2.2.2.2 _ w.o.xb.lt (λq=>by have:=(V.o.lt _ q).1;have:=av.o.1 j z;omega)).trans w.o.xb;have c5:=ak.cell (j*2+1);rw[au.o] at c5;have af:=Ae (Ge u _ b hh (λx=>((x∈bs/\x≠b)\/d.heap.size<=x)/\x<F.heap.size) F (DE.keep (Uq _) rfl (λx P hl=>⟨⟨P,hl⟩,rfl⟩) N) (λq=>by rcases q.1 with q|q;exact q.2 rfl;omega) (λx P=>P.2) (by omega) (Bu.bal HF.o.2.1 HF.o.2.2 hu).1);have f:U (n∈Ab 21 B/\Fz bs d F/\b∈bs/\Bu n 21 B u/\Ac 21 u<=5000):=⟨J,K,E,hu,by have:=Bu.nodes HF.o.2.1 HF.o.2.2 hu;have:=HF.o.1;omega⟩;clear N hu J K az E ak;go_wp2_with fail
     (with_reducible refine af.o.mono ?_)
     rintro e w6 ⟨bc,D,y,v',S,h3,rfl,Q,al,an,aw,am⟩;subst w6;have C:U (Bx F (I.heap.size+1) 109 A'/\DD I W (F.setCell (ad (I.heap.size+1) (j*2+1)) v') M T q lo hi (j+1) (A'.setIfInBounds (j*2+1) v')):=by refine w.o.step z av.o (λx P=>(V.o.lt x P).1) X.o.2.2.1 f.o.2.1 f.o.2.2.1 (λx P=>P) aq.o (by rw[<- ac.o];exact f.o.1) Q al an (by rw[<- ac.o];exact f.o.2.2.2.1) (by have:=f.o.2.2.2.2;omega) am
     obtain⟨ty,pv,ah⟩:∃ty pv,v'=.iface ty pv:=by obtain⟨bb,_,_,_,q⟩:=Q.count;rcases q with q|q <;> exact⟨_,_,q⟩
     subst ah;have c6:=C.o.1.cell (j*2+1);rw[au.o] at c6;have f6:=C.o.1.frozen (j*2+1);have l6:=C.o.1.lt;clear Q al an aw am af c5;go_wp2;go_roundw;case rel=>exact⟨j+1,_,by omega,by go_num,C.o.2⟩
     case measure=>simp[intOf];omega
  .obtain rfl:j=6:=by omega
   have j1:¬ ((6:Nat):Int)<6:=by omega
   have ba:U (Qe I W M T q lo hi (.returned (.bool true)) wr):=by obtain⟨_,B,D,y,v',S,hh,rs,x1,x2,_⟩:=m.new 0 (by omega);have e:=CR x1 bf.o;subst e;exact⟨m.bel,.inr ⟨rfl,ao.o.2 (bi.o hgq x2),A',m.xb,m.new⟩⟩
   clear m;go_wp2;go_ret;exact ba.o
end Go.Proofs.YtcnollkkigiobaaGreat
