import Derived.Test.YtcnollkkigiobaaGreatNv31
set_option linter.unusedVariables false
set_option linter.unusedSimpArgs false
set_option maxRecDepth 100000
set_option maxHeartbeats 90000000
namespace Go.Proofs.YtcnollkkigiobaaGreat
open Go Go.Deep Go.RowKit Go.Proofs.Tryz
variable {bs:List Nat}
def IF (key:ByteArray) (t:Ro 21) (v:Value) (bs:List Nat) (w:World) (bq:Bool) (w' : World):Prop:=
 (bq=false/\key∈Ab 21 t/\Bl w w')\/(bq=true/\key∉Ab 21 t/\Fz bs w w'/\∃u b,b∈bs/\Jz key 21 t u/\DE (λx=>(x∈bs/\x≠b)\/w.heap.size<=x) w' b 21 u v)
theorem Hq.b {key:ByteArray} {t:Ro 21} {v:Value} {w w':World} {e:Ending} (h:Hq key 21 t v bs w e w'):∃f,e=.returned (.bool f)/\IF key t v bs w f w':=by
 rcases h with ⟨a,c,d⟩|⟨a,c,d,g⟩;.exact⟨false,c,.inl ⟨rfl,a,d⟩⟩
 .exact⟨true,c,.inr ⟨rfl,a,d,g⟩⟩
structure AD (w0 W wr:World) (M:Nat->Nat) (T:Nat->Nat->Tn) (q:Qd) (lo hi:Nat->Nat) (j:Nat) (A:Array Value):Prop where
 xb:Bx wr (w0.heap.size+1) 109 A
 sz:A.size=12
 qb:Bx wr W.heap.size 34 #[iv q.s,iv q.p,iv q.o,iv q.g]
 bel:Below (w0.heap.size+1) W wr
 big:W.heap.size+1<=wr.heap.size
 old:∀p,j<=p->p<6->XO (lo p) (hi p) wr A M T p
 new:∀p,p<j->XA (lo p) (hi p) (W.heap.size+1) wr A M T q p
theorem AD.keep {d W wr w' : World} {M:Nat->Nat} {T:Nat->Nat->Tn} {q:Qd} {lo hi:Nat->Nat} {j:Nat} {A:Array Value} (h:AD d W wr M T q lo hi j A) (a:Bl wr w'):AD d W w' M T q lo hi j A:=
 ⟨h.xb.below a,h.sz,h.qb.below a,h.bel.trans (a.mono (by have:=h.xb.lt;omega)),Uy h.big a.size,λp c b=>(h.old p c b).keep a.size (λk _ f=>a.block k (by have:=(h.old p c b).top;omega)),λp c=>(h.new p c).keep a.size (λx _ e=>a.block x e)⟩
theorem AD.step {l W o w2 i:World} {M:Nat->Nat} {T:Nat->Nat->Tn} {q:Qd} {lo hi:Nat->Nat} {j:Nat} {A:Array Value} (h:AD l W o M T q lo hi j A) (E:j<6) (hR:TJ l W lo hi) (c:∀x,x∈bs->lo j<=x) (g:∀x,x∈bs->x<hi j) (t:Fz bs o w2) {b:Nat} (u:b∈bs) (f:D9 w2 i b b) {N:Nat->Prop} (v:∀x,N x->((x∈bs/\x≠b)\/o.heap.size<=x)/\x<w2.heap.size)
  {t':Ro 21} {D:Nat} {y:Ro D} {v':Value} {S:Nat->Prop} {hh:Nat} {B:List (Ro 21)} (h1:BE (M j) (T j) t') (Z:AA j q∉Ab 21 t') (X:AP S i D y v') (G:∀x,S x->(N x\/x=b\/w2.heap.size<=x)/\x<i.heap.size) (h5:Aq D true y hh) (Y:Bt (AA j q) 21 t' B) (P:Ac D y=DU B) (K:Ac D y<=6000) (V:∀M,Am M 0 D y 0->On M B) :
  Bx i (l.heap.size+1) 109 A/\AD l W (i.setCell (ad (l.heap.size+1) (j*2+1)) v') M T q lo hi (j+1) (A.setIfInBounds (j*2+1) v'):=by
 obtain⟨I,O,r3,r4⟩:=hR;have aa:=t.2.2.2.1;have U:=f.2.2.2.1;have L:=h.big;have Q:=I j E;have R:=r3 j E;have r:∀x,x<o.heap.size->x∉bs->i.heap[x]?=o.heap[x]?:=λx a w=>(f.2.2.2.2 x (by omega) (λe=>w (e ▸ u)) (λe=>w (e ▸ u))).trans (t.2.2.2.2 x a w);have z:Bx i (l.heap.size+1) 109 A:=(r _ h.xb.lt (λq=>by have:=c _ q;omega)).trans h.xb;have m:∀x,x≠l.heap.size+1->x<o.heap.size->x∉bs->(i.setCell (ad (l.heap.size+1) (j*2+1)) v').heap[x]?=o.heap[x]?:=λx a C w=>(Ur _ _ _ _ a).trans (r x C w);have F:=h.sz;have d:(i.setCell (ad (l.heap.size+1) (j*2+1)) v').heap.size=i.heap.size:=World.size_setCell _ _ _;refine⟨z,z.set _ _,by simpa using F,?_,?_,by rw[d];omega,λp hp n=>?_,λp hp=>?_⟩;.exact (m _ (by omega) h.qb.lt (λq=>by have:=g _ q;omega)).trans h.qb
 .refine h.bel.trans ⟨f.1.trans t.1,f.2.1.trans t.2.1,f.2.2.1.trans t.2.2.1,by rw[d];omega,λk hk=>m k (by omega) (by have:=h.xb.lt;omega) (λq=>by have:=c _ q;omega)⟩
 .have H:=O j p (by omega) n;have J:=I p n;refine ((h.old p (by omega) n).keep (by rw[d];omega) (λk k1 k2=>m k (by omega) (by have:=(h.old p (by omega) n).top;omega) (λq=>by have:=g _ q;omega))).set (by omega)
 .by_cases e:p=j
  .subst e;have H:=h.old p (Uq _) E;refine⟨?_,t',D,y,v',S,hh,B,h1,Z,AP.keep (by rw[d];exact Uq _) (λx a C=>⟨a,Ur _ _ _ _ ?_⟩) X,λx a=>⟨?_,by rw[d];exact (G x a).2⟩,h5,Y,P,K,V,?_⟩;.rw[Array.getElem?_setIfInBounds_ne (by omega)];exact H.1
   .show x≠l.heap.size+1;rcases (G x a).1 with q|q|q
    .rcases (v x q).1 with q|q;.have:=c x q.1;omega
     .have:=h.xb.lt;omega
    .have:=c b u;omega
    .have:=h.xb.lt;omega
   .rcases (G x a).1 with q|q|q
    .rcases (v x q).1 with q|q;.exact .inl ⟨c x q.1,g x q.1⟩
     .exact .inr (by omega)
    .exact .inl (by rw[q];exact⟨c b u,g b u⟩)
    .exact .inr (by omega)
   .rw[Array.getElem?_setIfInBounds_self_of_lt (by omega)]
  .have s:p<j:=by omega
   have H:=O p j s E;have J:=I p (by omega);refine ((h.new p s).keep (by rw[d];omega) (λx a C=>m x ?_ C (λq=>?_))).set e
   .rcases a with a|a;.omega
    .omega
   .have P:=g _ q;have K:=c _ q;rcases a with a|a;.omega
    .omega
theorem Rb (w W:World) (a:Option Addr) (c:Nat) (M:Nat->Nat) (T:Nat->Nat->Tn) (A:Array Value) (lo hi:Nat->Nat) (hI:Ioo w W a c M T 6 A lo hi) (hV:VI 6 M T) (q:Qd) :
  UO 46 #[pt (w.heap.size+1),qv q] W (PM w W M T q lo hi):=by
 have a0:U (TJ w W lo hi):=⟨hI.base,hI.ord,λp hp=>(hI.xt p hp).top,hI.xb.lt⟩;have A1:U (AD w W (W.alloc (.cells #[iv q.s,iv q.p,iv q.o,iv q.g] 34)) M T q lo hi 0 A):=by have z:=hI.keep (Aa W (.cells #[iv q.s,iv q.p,iv q.o,iv q.g] 34));exact⟨z.xb,z.sz,Bx.new _ _ _,(Aa _ _).mono (by have:=hI.xb.lt;omega),by simp,λp _ hp=>z.xt p hp,λp hp=>absurd hp (Uu _)⟩
 have a9:=Ae hV;obtain⟨t0,X,a8,a7⟩:=hV.2.1 0 (by omega);obtain⟨L0,P⟩:=gn ((Ab 21 t0).map (Al 0));have ab:U (Co 6 M T q↔AQ q=true/\q∉L0/\L0.length≠300):=by
  constructor;.intro z;have:=z.2.2 t0 X;rw[P,UD];exact⟨z.2.1,this⟩
  .intro z;refine⟨a9.o,z.1,λt ht=>?_⟩;have e:=CR ht X;subst e;rw[P,UD] at z;exact z.2
 have bg:U (∀p,p<6->∀t,BE (M p) (T p) t->AQ q=true->AA p q∈Ab 21 t->q∈L0):=by
  intro p hp t ht hq I;rw[P];by_cases e:p=0;.subst e;have e:=CR ht X;subst e;exact List.mem_map.2 ⟨_,I,A9 (by omega) hq⟩
  .have:=(a9.o.2.2 p (by omega) hp t t0 ht X).2 _ I;rw[A9 hp hq] at this;exact this
 have bn:U (AQ q=true->q∈L0->AA 0 q∈Ab 21 t0):=by intro hq I;rw[P] at I;obtain⟨k,z,e⟩:=List.mem_map.1 I;have:=Dp (perm:=0) (by omega) (a7 k z).1 (Bq 0 q) (by rw[A9 (by omega) hq];exact e);rw[<- this];exact z
 have bi:=Ae X;obtain⟨kl,aw⟩:=gn L0.length;have a6:U (∀wr:World,AD w W wr M T q lo hi 0 A->UO 82 #[pt (w.heap.size+1)] wr λe w'=>e=.returned (iv (kl:Int))/\w'=wr):=λwr h=>by obtain⟨x0,t,L,hh,v,x1,x2,x3,x4,x5,⟨bs,b1,b2,_⟩,x7⟩:=h.old 0 (Uq _) (by omega);refine NQ (w.heap.size+1) A (M 0) t v _ wr h.xb x7 b2.tat kl ?_;rw[aw,P,UD,<- x2,CR x1 X]
 have bc:U (∀W:World,UO 81 #[.agg #[iv q.s,iv q.p,iv q.o,iv q.g]] W (UP W (.bool (AQ q)))):=λW=>FR q W;have bo:kl<=300:=by rw[aw,P,UD];exact a8
 rw[<- aw] at ab;clear hI hV X a8 a7 P aw;unfold qv;obtain⟨y0,y1,y2,y3⟩:(W.alloc (.cells #[iv q.s,iv q.p,iv q.o,iv q.g] 34)).cell? (ad W.heap.size 0)=some (iv q.s)/\(W.alloc (.cells #[iv q.s,iv q.p,iv q.o,iv q.g] 34)).cell? (ad W.heap.size 1)=some (iv q.p)/\(W.alloc (.cells #[iv q.s,iv q.p,iv q.o,iv q.g] 34)).cell? (ad W.heap.size 2)=some (iv q.o)/\(W.alloc (.cells #[iv q.s,iv q.p,iv q.o,iv q.g] 34)).cell? (ad W.heap.size 3)=some (iv q.g):=⟨A1.o.qb.cell 0,A1.o.qb.cell 1,A1.o.qb.cell 2,A1.o.qb.cell 3⟩;go_enter func46,ntmps46;go_wp2_with fail
 (with_reducible refine (bc.o _).mono ?_)
 rintro e d ⟨rfl,f⟩;have A2:=Ae (A1.o.keep f);clear f y0 y1 y2 y3 bc A1;cases hgq:AQ q with
 | false=>
  have F:U (¬ Co 6 M T q):=λz=>by have:=(ab.o.1 z).1;rw[hgq] at this;cases this
  go_wp2;go_ret;exact⟨A2.o.bel,.inl ⟨rfl,F.o⟩⟩
 | true=>
 go_wp2_with fail
 (with_reducible refine (a6.o d A2.o).mono ?_)
 rintro e w2 ⟨rfl,bk⟩;subst bk;by_cases ar:kl=300
 .have al:(kl:Int)=300:=by omega
  have bd:((kl:Int) == 300)=true:=by simp[al]
  have F:=Ae (λz=>(ab.o.1 z).2.2 ar);go_wp2;go_ret;exact⟨A2.o.bel,.inl ⟨rfl,F.o⟩⟩
 have al:¬ (kl:Int)=300:=by omega
 have bd:((kl:Int) == 300)=false:=by simp[al]
 have bm:=Ae ar;clear a6 ar;go_wp2;go_loopw [5,6,15] (λ_ _ i wr=>∃(j:Nat) (A:Array Value),j<=6/\i=iv j/\AD w W wr M T q lo hi j A) (λ_ _ i _=>6-(intOf i).toNat)
 case atStart=>exact⟨0,A,Us _,rfl,A2.o⟩
 case round=>
  obtain⟨j,A',hj,rfl,l⟩:=hrel;have j0:(0:Int)<=(j:Int):=by omega
  clear A2;by_cases B:j<6
  .have j1:(j:Int)<6:=by omega
   have HA:=Ae l;obtain⟨x0,t,L,bl,v,a4,k1,k2,bf,k3,⟨bs,N,ay,ba,_⟩,x7⟩:=l.old j (Uq _) B;have c0:=l.xb.cell (j*2);have c1:=l.xb.cell (j*2+1);rw[x0] at c0;rw[x7] at c1;have y0:=l.qb.cell 0;have y1:=l.qb.cell 1;have y2:=l.qb.cell 2;have y3:=l.qb.cell 3;simp at y0 y1 y2 y3;have a1:=Mo bf a4.2.2.2.2.2;have O:U (CG (lo j) wr 21 L v bs/\bs.Nodup/\(∀x,x∈bs->x<hi j)/\lo j<=wr.heap.size):=⟨a1.tow ay,N,ba,by obtain⟨b,E,bp,_⟩:=(a1.tow ay).tat.count;have:=(ay.lt b E).1;omega⟩;have ax:=Ae a4;obtain⟨g1,g2,g3,⟨hh,g4⟩,g5,g6⟩:=a4;have be:=BJ g3;have HF:U (Ac 21 L<=5000/\Aq 21 true L hh/\BI (Ab 21 L)):=⟨by omega,g4,Bz g5⟩;obtain⟨m,ak⟩:=gn (AA j q);have ac:=Ae ak;have Z:U (UO 83 #[.func (.func (BY j)) #[] #[],.agg #[iv q.s,iv q.p,iv q.o,iv q.g]] wr.drew λe w'=>e=.returned (.string m)/\Below wr.drew.heap.size wr.drew w'):=by rw[ak];exact Nk j B q (λi hi=>⟨by have:=(BS B hgq i hi).1;omega,(BS B hgq i hi).2⟩) wr.drew
   have aa:=Ae (λd h=>Tl m 21 L v bs true hh (lo j) d (O.o.1.below h) O.o.2.1 HF.o.2.1 HF.o.2.2 HF.o.1 (by omega) (Uy O.o.2.2.2 h.size));obtain⟨Y,am⟩:∃Y,v=.iface 204 (pt Y)\/v=.iface 174 (pt Y):=by obtain⟨Y,_,_,_,hv⟩:=(O.o.1.tat).count;exact⟨Y,hv⟩
   have az:=Ae x7;clear k1 k2 k3 bf ay N ba a1 be g1 g2 g3 g4 g5 g6 x0 x7 ak l t bl;rcases am with rfl|rfl
   .have an:U (∀d:World,Bl wr d->UO 204 #[pt Y,.string m] d λe w'=>∃H,e=.returned (.bool H)/\IF m L (.iface 204 (pt Y)) bs d H w'):=λd h=>by
     rcases aa.o d h with ⟨kb,e,hc⟩|⟨kb,e,hc⟩;all_goals first
      | exact absurd (RZ e).1 (by decide)
      | (
       have e2:=(RZ e).2
       injection e2 with e2
       subst e2
       exact hc.mono λe w' h=>h.b)
    clear aa;go_wp2;go_cut [35] from 22 to 35 (λa3 wx=>∃H d,a3=.bool (!H)/\Bl wr d/\IF m L (.iface 204 (pt Y)) bs d H wx)
    case first=>
     go_region_with (first
      | (go_at_call 83;(with_reducible refine Z.o.mono ?_);rintro e d ⟨rfl,f⟩;have K:U (Bl wr d):=Ad f;have d0:=(K.o.cell (Uo _ _ c0)).trans c0;have d1:=(K.o.cell (Uo _ _ c1)).trans c1;clear f)
      | (go_at_call 204;(with_reducible refine (an.o _ K.o).mono ?_);rintro e w5 ⟨H,rfl,G⟩;have a5:U (IF m L (.iface 204 (pt Y)) bs d H w5):=G;clear G))
     all_goals
      go_wp2
      go_meet
      case rel=>exact⟨H,d,rfl,K.o,a5.o⟩
    case rest=>
    obtain⟨w5,rfl⟩:=gn wc;obtain⟨H,d,rfl,f,G⟩:=hcut;have n:U (AD w W d M T q lo hi j A'):=HA.o.keep f;have V:U (CG (lo j) d 21 L (.iface 204 (pt Y)) bs):=O.o.1.below f;clear c0 c1 y0 y1 y2 y3 Z an f;rcases G with ⟨rfl,I,ae⟩|⟨rfl,I,J,u,b,E,hu,N⟩;.have F:U (¬ Co 6 M T q/\Below (w.heap.size+1) W w5):=⟨λz=>(ab.o.1 z).2.1 (bg.o j B L ax.o hgq (by rw[<- ac.o];exact I)),n.o.bel.trans (ae.mono (by have:=n.o.xb.lt;omega))⟩;clear I ae;go_wp2;go_ret;exact⟨F.o.2,.inl ⟨rfl,F.o.1⟩⟩
    .have a2:=V.o.lt b E;have bj:=J.2.2.2.1;have ap:Bx w5 (w.heap.size+1) 109 A':=(J.2.2.2.2 _ n.o.xb.lt (λq=>by have:=(V.o.lt _ q).1;have:=a0.o.1 j B;omega)).trans n.o.xb;have c5:=ap.cell (j*2+1);rw[az.o] at c5;have ah:=Ae (IH m L u _ b hh (λx=>((x∈bs/\x≠b)\/d.heap.size<=x)/\x<w5.heap.size) w5 (DE.keep (Uq _) rfl (λx R hl=>⟨⟨R,hl⟩,rfl⟩) N) (λq=>by rcases q.1 with q|q;exact q.2 rfl;omega) (λx R=>R.2) (by omega) hu HF.o.2.1 HF.o.1);have r:=Ae (ai I (ai J E));clear N hu I J a2 E ap;go_wp2_with fail
     (with_reducible refine ah.o.mono ?_)
     rintro e w6 ⟨D,y,v',S,h3,rs,rfl,aj,Q,aq,av,ag,ao,af,au⟩;have C:U (Bx w6 (w.heap.size+1) 109 A'/\AD w W (w6.setCell (ad (w.heap.size+1) (j*2+1)) v') M T q lo hi (j+1) (A'.setIfInBounds (j*2+1) v')):=by refine n.o.step B a0.o (λx R=>(V.o.lt x R).1) O.o.2.2.1 r.o.2.1 r.o.2.2 aj (λx R=>R) ax.o (by rw[<- ac.o];exact r.o.1) Q aq av (by rw[<- ac.o];exact ag) ao af au
     obtain⟨ty,pv,am⟩:∃ty pv,v'=.iface ty pv:=by obtain⟨bb,_,_,_,q⟩:=Q.count;rcases q with q|q <;> exact⟨_,_,q⟩
     subst am;have c6:=C.o.1.cell (j*2+1);rw[az.o] at c6;have f6:=C.o.1.frozen (j*2+1);have l6:=C.o.1.lt;clear aj Q aq av ag ao af au ah c5;go_wp2;go_roundw;case rel=>exact⟨j+1,_,by omega,by go_num,C.o.2⟩
     case measure=>simp[intOf];omega
   .have an:U (∀d:World,Bl wr d->UO 187 #[pt Y,.string m] d λe w'=>∃H,e=.returned (.bool H)/\IF m L (.iface 174 (pt Y)) bs d H w'):=λd h=>by
     rcases aa.o d h with ⟨kb,e,hc⟩|⟨kb,e,hc⟩;all_goals first
      | exact absurd (RZ e).1 (by decide)
      | (
       have e2:=(RZ e).2
       injection e2 with e2
       subst e2
       exact hc.mono λe w' h=>h.b)
    clear aa;go_wp2;go_cut [35] from 22 to 35 (λa3 wx=>∃H d,a3=.bool (!H)/\Bl wr d/\IF m L (.iface 174 (pt Y)) bs d H wx)
    case first=>
     go_region_with (first
      | (go_at_call 83;(with_reducible refine Z.o.mono ?_);rintro e d ⟨rfl,f⟩;have K:U (Bl wr d):=Ad f;have d0:=(K.o.cell (Uo _ _ c0)).trans c0;have d1:=(K.o.cell (Uo _ _ c1)).trans c1;clear f)
      | (go_at_call 187;(with_reducible refine (an.o _ K.o).mono ?_);rintro e w5 ⟨H,rfl,G⟩;have a5:U (IF m L (.iface 174 (pt Y)) bs d H w5):=G;clear G))
     all_goals
      go_wp2
      go_meet
      case rel=>exact⟨H,d,rfl,K.o,a5.o⟩
    case rest=>
    obtain⟨w5,rfl⟩:=gn wc;obtain⟨H,d,rfl,f,G⟩:=hcut;have n:U (AD w W d M T q lo hi j A'):=HA.o.keep f;have V:U (CG (lo j) d 21 L (.iface 174 (pt Y)) bs):=O.o.1.below f;clear c0 c1 y0 y1 y2 y3 Z an f;rcases G with ⟨rfl,I,ae⟩|⟨rfl,I,J,u,b,E,hu,N⟩;.have F:U (¬ Co 6 M T q/\Below (w.heap.size+1) W w5):=⟨λz=>(ab.o.1 z).2.1 (bg.o j B L ax.o hgq (by rw[<- ac.o];exact I)),n.o.bel.trans (ae.mono (by have:=n.o.xb.lt;omega))⟩;clear I ae;go_wp2;go_ret;exact⟨F.o.2,.inl ⟨rfl,F.o.1⟩⟩
    .have a2:=V.o.lt b E;have bj:=J.2.2.2.1;have ap:Bx w5 (w.heap.size+1) 109 A':=(J.2.2.2.2 _ n.o.xb.lt (λq=>by have:=(V.o.lt _ q).1;have:=a0.o.1 j B;omega)).trans n.o.xb;have c5:=ap.cell (j*2+1);rw[az.o] at c5;have ah:=Ae (IH m L u _ b hh (λx=>((x∈bs/\x≠b)\/d.heap.size<=x)/\x<w5.heap.size) w5 (DE.keep (Uq _) rfl (λx R hl=>⟨⟨R,hl⟩,rfl⟩) N) (λq=>by rcases q.1 with q|q;exact q.2 rfl;omega) (λx R=>R.2) (by omega) hu HF.o.2.1 HF.o.1);have r:=Ae (ai I (ai J E));clear N hu I J a2 E ap;go_wp2_with fail
     (with_reducible refine ah.o.mono ?_)
     rintro e w6 ⟨D,y,v',S,h3,rs,rfl,aj,Q,aq,av,ag,ao,af,au⟩;have C:U (Bx w6 (w.heap.size+1) 109 A'/\AD w W (w6.setCell (ad (w.heap.size+1) (j*2+1)) v') M T q lo hi (j+1) (A'.setIfInBounds (j*2+1) v')):=by refine n.o.step B a0.o (λx R=>(V.o.lt x R).1) O.o.2.2.1 r.o.2.1 r.o.2.2 aj (λx R=>R) ax.o (by rw[<- ac.o];exact r.o.1) Q aq av (by rw[<- ac.o];exact ag) ao af au
     obtain⟨ty,pv,am⟩:∃ty pv,v'=.iface ty pv:=by obtain⟨bb,_,_,_,q⟩:=Q.count;rcases q with q|q <;> exact⟨_,_,q⟩
     subst am;have c6:=C.o.1.cell (j*2+1);rw[az.o] at c6;have f6:=C.o.1.frozen (j*2+1);have l6:=C.o.1.lt;clear aj Q aq av ag ao af au ah c5;go_wp2;go_roundw;case rel=>exact⟨j+1,_,by omega,by go_num,C.o.2⟩
     case measure=>simp[intOf];omega
  .obtain rfl:j=6:=by omega
   have j1:¬ ((6:Nat):Int)<6:=by omega
   have bh:U (PM w W M T q lo hi (.returned (.bool true)) wr):=by refine⟨l.bel,.inr ⟨rfl,ab.o.2 ⟨hgq,λI=>?_,bm.o⟩,A',l.xb,l.new⟩⟩;obtain⟨_,L,D,y,v',S,hh,rs,x1,x2,_⟩:=l.new 0 (by omega);have e:=CR x1 bi.o;subst e;exact x2 (bn.o hgq I)
   clear l;go_wp2;go_ret;exact bh.o
end Go.Proofs.YtcnollkkigiobaaGreat
