import Derived.Test.YtcnollkkigiobaaGreatNv15
set_option linter.unusedVariables false
set_option linter.unusedSimpArgs false
set_option maxRecDepth 100000
set_option maxHeartbeats 90000000
namespace Go.Proofs.YtcnollkkigiobaaGreat
open Go Go.Deep Go.RowKit Go.Proofs.Tryz
theorem Pb (a:Option Addr) (n c:Nat) (N:Nat->Tn) (key:ByteArray) (w:World) (h:CM EY w a n N) (hn:n<=1048576) (hN:∀i,i<n->Bg (N i)) (cg:key.size<=maxLen) :
  UO 50 #[.agg #[.slice a n c],.string key] w (PJ w n N key):=by
 have HR:U (Cb w a n N/\∀i,i<n->Bg (N i)):=⟨h.rd,hN⟩;have br:U (∀W,Bl w W->UO 57 #[.agg #[.slice a n c]] W (Ms EY W n N)):=λW z=>KB EY a n c N W (h.below z) hn hN;clear h hN;have bm:U (∀O1 O2:Obj,Bl w ((w.alloc O1).alloc O2)):=λ_ _=>(Aa _ _).alloc (by simp) _;go_enter func50,ntmps50;go_wp2_with fail
 (with_reducible refine (br.o _ (bm.o _ _)).mono ?_)
 rintro e A ⟨ao,lf,ka,kn,kc,ca,cn,cc,ok,rfl,hr⟩;have aw:=((Bx.new w #[.slice a n c] 59).alloc (.cells #[.bool false,.slice none 0 0] 78)).below ao;have ba:Bx A (w.heap.size+1) 78 #[.bool false,.slice none 0 0]:=by have q:=(Bx.new (w.alloc (.cells #[.slice a n c] 59)) #[.bool false,.slice none 0 0] 78).below ao;simpa using q
 have bt:U (Bl w A):=(bm.o _ _).trans (ao.mono (by simp;omega));have j:U (∀W,Bl A W->Bl w W/\W.cell? (ad w.heap.size 0)=some (.slice a n c)/\w.heap.size<W.heap.size/\Bx W (w.heap.size+1) 78 #[.bool false,.slice none 0 0]):=λW z=>⟨bt.o.trans (z.mono bt.o.size),by simpa using (aw.below z).cell 0,(aw.below z).lt,ba.below z⟩;have an:U ((ok=false/\¬ VT n N)\/(ok=true/\∃t,BE n N t/\Nq EY A 21 t (.agg #[.bool lf,.slice ka kn kc,.slice ca cn cc]))):=by
  rcases hr with ⟨h1,h2,_⟩|h;.exact .inl ⟨h1,h2⟩
  .exact .inr h
 clear hr ao aw ba br;have k:U (Bl A (A.alloc (.cells #[.bool lf,.slice ka kn kc,.slice ca cn cc] 91))/\Bx (A.alloc (.cells #[.bool lf,.slice ka kn kc,.slice ca cn cc] 91)) A.heap.size 91 #[.bool lf,.slice ka kn kc,.slice ca cn cc]):=⟨Aa _ _,Bx.new _ _ _⟩;cases ok with
 | false=>
  have ay:U (Ny n N key):=by
   intro t hv;rcases an.o with ⟨_,q⟩|⟨q,_⟩;.exact absurd ⟨t,hv⟩ q
   .cases q
  clear an;go_upto_region 3 with fail
  generalize (A.alloc (.cells #[.bool lf,.slice ka kn kc,.slice ca cn cc] 91))=W at k ⊢;have ag:U (Bl w W):=(j.o W k.o.1).1;have S:U (W.cell? (ad w.heap.size 0)=some (.slice a n c)/\w.heap.size<W.heap.size/\Bx W (w.heap.size+1) 78 #[.bool false,.slice none 0 0]):=(j.o W k.o.1).2;have ax:U (UO 77 #[.agg #[.slice a n c]] W (Gi W n N)):=CC a n c N W (HR.o.1.below ag.o) hn HR.o.2;have t0:=S.o.1;have tz:=S.o.2.1;go_wp2_with fail
  (with_reducible refine ax.o.mono ?_)
  rintro e wz ⟨R,az,cz,rfl,ah⟩;have p:U (Bl w wz/\Bx wz (w.heap.size+1) 78 #[.bool false,.slice none 0 0]/\BQ (w.heap.size+2) wz az n N):=by have q:Bl w W:=ag.o;have V:=S.o.2.2;exact⟨q.trans (R.mono q.size),V.below R,ah.keep (by have:=V.lt;have:=q.size;omega) (Uq _) (λ_ _ _=>rfl)⟩
  have X:=p.o.2.1.cell 0;have r1:=p.o.2.1.cell 1;simp at X r1;have rz:=p.o.2.1.lt;have rf:=λi=>p.o.2.1.frozen i;clear R ah t0 tz;go_wp2;refine bodyPost_ret (v:=.agg #[.bool false,.slice az n cz]) (by simp[results,results50,go_sem,X,r1]) rfl ⟨(p.o.1.setCell (by simp) _).setCell (by simp) _,false,az,n,cz,N,rfl,?_,.inr ⟨rfl,rfl,rfl,ay.o⟩⟩;exact (p.o.2.2.keep (Uq _) (by simp[World.setCell]) (λb hb _=>by rw[Ur _ _ _ _ (show b≠w.heap.size+1 by omega),Ur _ _ _ _ (show b≠w.heap.size+1 by omega)]))
 | true=>
  obtain⟨t,bl,bx⟩:∃t,BE n N t/\Nq EY A 21 t (.agg #[.bool lf,.slice ka kn kc,.slice ca cn cc]):=by
   rcases an.o with ⟨q,_⟩|⟨_,q⟩;.cases q
   .exact q
  have ac:U (BE n N t):=bl;have aj:U (NG (λb=>b<A.heap.size) A 21 t (.agg #[.bool lf,.slice ka kn kc,.slice ca cn cc])):=bx.ng;obtain⟨h1,h2,h3,⟨hh,h4⟩,h5,h6⟩:=bl;have bn:=BJ h3;have cd:=BL (BR h4);have HF:U (Ac 21 t<=5000/\(Ab 21 t).length<=20000/\Aq 21 true t hh/\BI (Ab 21 t)):=⟨by omega,by omega,h4,Bz h5⟩;clear an bx h1 h2 h3 h4 h5 h6 bn cd;have ae:U (∀W,Bl A W->UO 58 #[.agg #[.bool lf,.slice ka kn kc,.slice ca cn cc]] W (Fl W (Ab 21 t))):=λW z=>Es 21 t _ W (aj.o.below z).na HF.o.1 (by have:=HF.o.2.1;omega);go_upto_region 2 with fail
  generalize (A.alloc (.cells #[.bool lf,.slice ka kn kc,.slice ca cn cc] 91))=W at k ⊢;have x0:=k.o.2.cell 0;have x1:=k.o.2.cell 1;have x2:=k.o.2.cell 2;simp at x0 x1 x2;have xz:=k.o.2.lt;go_wp2_with fail
  (with_reducible refine (ae.o W k.o.1).mono ?_)
  rintro e w3 ⟨a3,c3,rfl,a6,a1,_,_⟩;have am:U (Bl A w3/\Bx w3 A.heap.size 91 #[.bool lf,.slice ka kn kc,.slice ca cn cc]):=⟨k.o.1.trans (a1.mono k.o.1.size),k.o.2.below a1⟩;have bd:U (UO 78 #[.slice a3 (Ab 21 t).length c3,.string key] w3 λe P=>∃b:Bool,e=.returned (.bool b)/\(b=true↔key∈Ab 21 t)/\Bl w3 P):=JT a3 (Ab 21 t).length c3 (Ab 21 t) key w3 a6.rd rfl (by have:=HF.o.2.1;omega);clear a6 a1 x0 x1 x2 xz k ae;go_wp2_with fail
  (with_reducible refine bd.o.mono ?_)
  rintro e T ⟨bb,rfl,bq,av⟩;have B:U (Bl A T/\Bx T A.heap.size 91 #[.bool lf,.slice ka kn kc,.slice ca cn cc]):=⟨am.o.1.trans (av.mono am.o.1.size),am.o.2.below av⟩;have a2:U (bb=true↔key∈Ab 21 t):=bq;clear av bq bd am;cases bb with
  | false=>
   have ay:U (Ny n N key):=λt' hv q=>by have V:false=true:=a2.o.2 (by rw[<- hv.fn ac.o];exact q);cases V
   clear ac aj HF;have ag:U (Bl w T):=(j.o T B.o.1).1;have S:U (T.cell? (ad w.heap.size 0)=some (.slice a n c)/\w.heap.size<T.heap.size/\Bx T (w.heap.size+1) 78 #[.bool false,.slice none 0 0]):=(j.o T B.o.1).2;have ax:U (UO 77 #[.agg #[.slice a n c]] T (Gi T n N)):=CC a n c N T (HR.o.1.below ag.o) hn HR.o.2;have t0:=S.o.1;have tz:=S.o.2.1;go_wp2_with fail
   (with_reducible refine ax.o.mono ?_)
   rintro e wz ⟨R,az,cz,rfl,ah⟩;have p:U (Bl w wz/\Bx wz (w.heap.size+1) 78 #[.bool false,.slice none 0 0]/\BQ (w.heap.size+2) wz az n N):=by have q:Bl w T:=ag.o;have V:=S.o.2.2;exact⟨q.trans (R.mono q.size),V.below R,ah.keep (by have:=V.lt;have:=q.size;omega) (Uq _) (λ_ _ _=>rfl)⟩
   have X:=p.o.2.1.cell 0;have r1:=p.o.2.1.cell 1;simp at X r1;have rz:=p.o.2.1.lt;have rf:=λi=>p.o.2.1.frozen i;clear R ah t0 tz;go_wp2;refine bodyPost_ret (v:=.agg #[.bool false,.slice az n cz]) (by simp[results,results50,go_sem,X,r1]) rfl ⟨(p.o.1.setCell (by simp) _).setCell (by simp) _,false,az,n,cz,N,rfl,?_,.inr ⟨rfl,rfl,rfl,ay.o⟩⟩;exact (p.o.2.2.keep (Uq _) (by simp[World.setCell]) (λb hb _=>by rw[Ur _ _ _ _ (show b≠w.heap.size+1 by omega),Ur _ _ _ _ (show b≠w.heap.size+1 by omega)]))
  | true=>
   have a0:U (key∈Ab 21 t):=a2.o.1 rfl;have bi:U (UO 88 #[.agg #[.bool lf,.slice ka kn kc,.slice ca cn cc],.string key] T (λe P=>∃r,Bu key 21 t r/\CE (λb=>b<A.heap.size) T 21 r e P)):=Ri key 21 t _ true hh _ T (aj.o.below B.o.1) HF.o.2.2.1 HF.o.2.2.2 HF.o.1 (by have:=HF.o.2.1;omega);have x0:=B.o.2.cell 0;have x1:=B.o.2.cell 1;have x2:=B.o.2.cell 2;simp at x0 x1 x2;have xz:=B.o.2.lt;clear a2;go_wp2_with fail
   (with_reducible refine bi.o.mono ?_)
   rintro e D ⟨r,Y,a8,ci,aq,bh,al,bc,a7,ak,rfl,ap⟩;have I:U (Bl A D):=B.o.1.trans (a8.mono B.o.1.size);have ab:U (Bu key 21 t r):=Y;have H:U (AE 21 r hh/\Ac 21 r<=5000):=⟨(Bu.bal HF.o.2.2.1 HF.o.2.2.2 Y).1,by have:=Bu.nodes HF.o.2.2.1 HF.o.2.2.2 Y;have:=HF.o.1;omega⟩;clear x0 x1 x2 xz bi B HF aj Y a8;rcases r with ks|l
   .have F:=ap;obtain⟨ce,b3,ch,b0,e,_⟩:=ap;injection e with e;injection e with e;injection e with e0 e;injection e0 with e0;subst e0;clear e;have aa:U (NG _ D 21 (.inl ks) (.agg #[.bool true,.slice aq bh al,.slice bc a7 ak])):=F;have K:U (Aq 21 true (.inl ks) hh):=⟨H.o.1.1,H.o.1.2,Or.inl rfl⟩;have O:U (Ac 21 (.inl ks)<=5000):=H.o.2;clear F;obtain⟨m,Z⟩:∃m,m=Ac 21 (.inl ks):=⟨_,rfl⟩;have HM:U (m=Ac 21 (.inl ks)):=Z;have af:m<=5000:=by rw[Z];exact O.o
    have L:U (∀W,Bl D W->UO 80 #[.agg #[.bool true,.slice aq bh al,.slice bc a7 ak],iv 0] W (λe P=>∃s C G,e=.returned (.slice s m C)/\Bl D P/\BQ D.heap.size P s m G/\Am G 0 21 (.inl ks) 0)):=by intro W z;have be:=BL (BR K.o);have a5:=O.o;refine (Di 21 (.inl ks) _ true _ 0 W (aa.o.below z).na (by omega) (by omega) K.o (by omega) (by omega)).mono (λe P hr=>?_);obtain⟨s,C,G,bp,q1,V,q3,q4,q5⟩:=hr;rw[<- Z] at q1 q3 q4;exact⟨s,C,G,q1,z.trans (V.mono z.size),(Bp.rowN q3 q4).keep z.size (Uq _) (λ_ _ _=>rfl),q5⟩
    clear Z;go_wp2_with fail
    (with_reducible refine (L.o _ (Aa _ _)).mono ?_)
    rintro e E ⟨s,C,G,rfl,J,f,u⟩;have bj:w.heap.size+2<=D.heap.size:=by have:=(j.o D I.o).2.2.2.lt;omega
    have M:U (Bl A E):=I.o.trans (J.mono I.o.size);have x:U (BQ (w.heap.size+2) E s m G/\Am G 0 21 (.inl ks) 0):=⟨f.keep (by omega) (Uq _) (λ_ _ _=>rfl),u⟩;clear J f u L;have d:U (Bx E (w.heap.size+1) 78 #[.bool false,.slice none 0 0]/\Bl w E):=⟨(j.o E M.o).2.2.2,(j.o E M.o).1⟩;have X:=d.o.1.cell 0;have r1:=d.o.1.cell 1;simp at X r1;have rz:=d.o.1.lt;have rf:=λi=>d.o.1.frozen i;go_wp2;refine bodyPost_ret (v:=.agg #[.bool true,.slice s m C]) (by simp[results,results50,go_sem,X,r1]) rfl ⟨(d.o.2.setCell (by simp) _).setCell (by simp) _,true,s,m,C,G,rfl,?_,.inl ⟨rfl,t,_,ac.o,a0.o,ab.o,af,.inr ⟨λy e=>(by cases e),HM.o,x.o.2⟩⟩⟩;exact (x.o.1.keep (Uq _) (by simp[World.setCell]) (λb hb _=>by rw[Ur _ _ _ _ (show b≠w.heap.size+1 by omega),Ur _ _ _ _ (show b≠w.heap.size+1 by omega)]))
   .have F:=ap;obtain⟨ce,b3,g,b0,xs,e,⟨hs,au⟩,cj,hl,hx,hk⟩:=ap;injection e with e;injection e with e;injection e with e0 e;injection e with e1 e;injection e with e2 e;injection e0 with e0;injection e1 with b5 bz b7;injection e2 with cb b2 b8;subst e0 b5 bz b7 cb b2 b8;clear e;obtain⟨b1,b4,a4,rfl,Q⟩:=H.o.1;by_cases h1:l.length=1
    .obtain⟨y,ey⟩:∃y,l=[y]:=List.length_eq_one_iff.1 h1;rw[h1] at au hl ⊢;subst ey;match xs,hk with
     | x0::x1::x2::[],hk=>
     obtain⟨hy,_⟩:=hk;have bw:NG _ D 20 y (.agg #[x0,x1,x2]):=hy;obtain⟨a9,bo,bg,bv,bk,bf,bu,ey⟩:=Av.form hy;injection ey with ey;injection ey with ey;injection ey with e0 ey;injection ey with e1 ey;injection ey with e2 ey;subst e0 e1 e2;have z0:=hx 0 _ rfl;have z1:=hx 1 _ rfl;have z2:=hx 2 _ rfl;have aa:U (NG _ D 20 y (.agg #[.bool a9,.slice bo bg bv,.slice bk bf bu])):=bw;have ar:U (Aq 20 false y a4):=Q y (by simp);have K:U (Aq 20 true y a4):=(AE.of ar.o).full true ar.o.siz;have O:U (Ac 20 y<=5000):=by have q:=H.o.2;have V:Ac 21 (.inr [y])=1+(Ac 20 y+0):=rfl;show _<=_;omega
     clear hx hy bw ey F Q H;obtain⟨m,Z⟩:∃m,m=Ac 20 y:=⟨_,rfl⟩;have HM:U (m=Ac 20 y):=Z;have af:m<=5000:=by rw[Z];exact O.o
     have L:U (∀W,Bl D W->UO 80 #[.agg #[.bool a9,.slice bo bg bv,.slice bk bf bu],iv 0] W (λe P=>∃s C G,e=.returned (.slice s m C)/\Bl D P/\BQ D.heap.size P s m G/\Am G 0 20 y 0)):=by intro W z;have be:=BL (BR K.o);have a5:=O.o;refine (Di 20 y _ true _ 0 W (aa.o.below z).na (by omega) (by omega) K.o (by omega) (by omega)).mono (λe P hr=>?_);obtain⟨s,C,G,bp,q1,V,q3,q4,q5⟩:=hr;rw[<- Z] at q1 q3 q4;exact⟨s,C,G,q1,z.trans (V.mono z.size),(Bp.rowN q3 q4).keep z.size (Uq _) (λ_ _ _=>rfl),q5⟩
     clear Z;go_wp2_with fail
     (with_reducible refine (L.o _ (Aa _ _)).mono ?_)
     rintro e E ⟨s,C,G,rfl,J,f,u⟩;have bj:w.heap.size+2<=D.heap.size:=by have:=(j.o D I.o).2.2.2.lt;omega
     have M:U (Bl A E):=I.o.trans (J.mono I.o.size);have x:U (BQ (w.heap.size+2) E s m G/\Am G 0 20 y 0):=⟨f.keep (by omega) (Uq _) (λ_ _ _=>rfl),u⟩;clear J f u L;have d:U (Bx E (w.heap.size+1) 78 #[.bool false,.slice none 0 0]/\Bl w E):=⟨(j.o E M.o).2.2.2,(j.o E M.o).1⟩;have X:=d.o.1.cell 0;have r1:=d.o.1.cell 1;simp at X r1;have rz:=d.o.1.lt;have rf:=λi=>d.o.1.frozen i;go_wp2;refine bodyPost_ret (v:=.agg #[.bool true,.slice s m C]) (by simp[results,results50,go_sem,X,r1]) rfl ⟨(d.o.2.setCell (by simp) _).setCell (by simp) _,true,s,m,C,G,rfl,?_,.inl ⟨rfl,t,_,ac.o,a0.o,ab.o,af,.inl ⟨y,rfl,HM.o,x.o.2⟩⟩⟩;exact (x.o.1.keep (Uq _) (by simp[World.setCell]) (λb hb _=>by rw[Ur _ _ _ _ (show b≠w.heap.size+1 by omega),Ur _ _ _ _ (show b≠w.heap.size+1 by omega)]))
    .have b9:decide ((l.length:Int)=1)=false:=decide_eq_false (by omega);have b6:¬ (l.length:Int)=1:=by omega
     have aa:U (NG _ D 21 (.inr l) (.agg #[.bool false,.slice aq 0 al,.slice (some (ad g 0)) l.length ak])):=F;have K:U (Aq 21 true (.inr l) (a4+1)):=H.o.1.full true (by show 2<=l.length;omega);have O:U (Ac 21 (.inr l)<=5000):=H.o.2;have cf:U (∀y:Ro 20,(Sum.inr l:Ro 21)≠.inr [y]):=λy e=>by injection e with e;rw[e] at h1;exact h1 rfl
     clear hx hk F Q H;obtain⟨ln,bs⟩:∃ln,ln=l.length:=⟨_,rfl⟩;rw[<- bs] at aa au hl b1 b4 h1 b9 b6 ⊢;clear bs;obtain⟨m,Z⟩:∃m,m=Ac 21 (.inr l):=⟨_,rfl⟩;have HM:U (m=Ac 21 (.inr l)):=Z;have af:m<=5000:=by rw[Z];exact O.o
     have L:U (∀W,Bl D W->UO 80 #[.agg #[.bool false,.slice aq 0 al,.slice (some (ad g 0)) ln ak],iv 0] W (λe P=>∃s C G,e=.returned (.slice s m C)/\Bl D P/\BQ D.heap.size P s m G/\Am G 0 21 (.inr l) 0)):=by intro W z;have be:=BL (BR K.o);have a5:=O.o;refine (Di 21 (.inr l) _ true _ 0 W (aa.o.below z).na (by omega) (by omega) K.o (by omega) (by omega)).mono (λe P hr=>?_);obtain⟨s,C,G,bp,q1,V,q3,q4,q5⟩:=hr;rw[<- Z] at q1 q3 q4;exact⟨s,C,G,q1,z.trans (V.mono z.size),(Bp.rowN q3 q4).keep z.size (Uq _) (λ_ _ _=>rfl),q5⟩
     clear Z;go_wp2_with fail
     (with_reducible refine (L.o _ (Aa _ _)).mono ?_)
     rintro e E ⟨s,C,G,rfl,J,f,u⟩;have bj:w.heap.size+2<=D.heap.size:=by have:=(j.o D I.o).2.2.2.lt;omega
     have M:U (Bl A E):=I.o.trans (J.mono I.o.size);have x:U (BQ (w.heap.size+2) E s m G/\Am G 0 21 (.inr l) 0):=⟨f.keep (by omega) (Uq _) (λ_ _ _=>rfl),u⟩;clear J f u L;have d:U (Bx E (w.heap.size+1) 78 #[.bool false,.slice none 0 0]/\Bl w E):=⟨(j.o E M.o).2.2.2,(j.o E M.o).1⟩;have X:=d.o.1.cell 0;have r1:=d.o.1.cell 1;simp at X r1;have rz:=d.o.1.lt;have rf:=λi=>d.o.1.frozen i;go_wp2;refine bodyPost_ret (v:=.agg #[.bool true,.slice s m C]) (by simp[results,results50,go_sem,X,r1]) rfl ⟨(d.o.2.setCell (by simp) _).setCell (by simp) _,true,s,m,C,G,rfl,?_,.inl ⟨rfl,t,_,ac.o,a0.o,ab.o,af,.inr ⟨cf.o,HM.o,x.o.2⟩⟩⟩;exact (x.o.1.keep (Uq _) (by simp[World.setCell]) (λb hb _=>by rw[Ur _ _ _ _ (show b≠w.heap.size+1 by omega),Ur _ _ _ _ (show b≠w.heap.size+1 by omega)]))
end Go.Proofs.YtcnollkkigiobaaGreat
