import Derived.Test.YtcnollkkigiobaaGreatNv15
set_option linter.unusedVariables false
set_option linter.unusedSimpArgs false
set_option maxRecDepth 100000
set_option maxHeartbeats 90000000
namespace Go.Proofs.YtcnollkkigiobaaGreat
open Go Go.Deep Go.RowKit Go.Proofs.Tryz
def QG (w:World) (n:Nat) (N:Nat->Tn) (key:ByteArray) (e:Ending) (w' : World):Prop:=
 Bl w w'/\∃ok a m c M,e=.returned (.agg #[.bool ok,.slice a m c])/\BQ (w.heap.size+2) w' a m M/\((ok=true/\JW n N key m M)\/(ok=false/\m=n/\M=N/\Gs n N key))
theorem Gf (a:Option Addr) (n c:Nat) (N:Nat->Tn) (key:ByteArray) (w:World) (h:CM EY w a n N) (hn:n<=1048576) (hN:∀i,i<n->Bg (N i)) (b2:key.size<=maxLen) :
  UO 44 #[.agg #[.slice a n c],.string key] w (QG w n N key):=by
 have HR:U (Cb w a n N/\∀i,i<n->Bg (N i)):=⟨h.rd,hN⟩;have br:U (∀W,Bl w W->UO 57 #[.agg #[.slice a n c]] W (Ms EY W n N)):=λW I=>KB EY a n c N W (h.below I) hn hN;clear h hN;have bo:U (∀O1 O2:Obj,Bl w ((w.alloc O1).alloc O2)):=λ_ _=>(Aa _ _).alloc (by simp) _;go_enter func44,ntmps44;go_wp2_with fail
 (with_reducible refine (br.o _ (bo.o _ _)).mono ?_)
 rintro e B ⟨an,lf,ka,kn,kc,ca,cn,cc,ok,rfl,hr⟩;have a9:=((Bx.new w #[.slice a n c] 59).alloc (.cells #[.bool false,.slice none 0 0] 78)).below an;have bj:Bx B (w.heap.size+1) 78 #[.bool false,.slice none 0 0]:=by have q:=(Bx.new (w.alloc (.cells #[.slice a n c] 59)) #[.bool false,.slice none 0 0] 78).below an;simpa using q
 have bt:U (Bl w B):=(bo.o _ _).trans (an.mono (by simp;omega));have l:U (∀W,Bl B W->Bl w W/\W.cell? (ad w.heap.size 0)=some (.slice a n c)/\w.heap.size<W.heap.size/\Bx W (w.heap.size+1) 78 #[.bool false,.slice none 0 0]):=λW I=>⟨bt.o.trans (I.mono bt.o.size),by simpa using (a9.below I).cell 0,(a9.below I).lt,bj.below I⟩;have am:U ((ok=false/\¬ VT n N)\/(ok=true/\∃t,BE n N t/\Nq EY B 21 t (.agg #[.bool lf,.slice ka kn kc,.slice ca cn cc]))):=by
  rcases hr with ⟨h1,h2,_⟩|h;.exact .inl ⟨h1,h2⟩
  .exact .inr h
 clear hr an a9 bj br;have r:U (Bl B (B.alloc (.cells #[.bool lf,.slice ka kn kc,.slice ca cn cc] 91))/\Bx (B.alloc (.cells #[.bool lf,.slice ka kn kc,.slice ca cn cc] 91)) B.heap.size 91 #[.bool lf,.slice ka kn kc,.slice ca cn cc]):=⟨Aa _ _,Bx.new _ _ _⟩;cases ok with
 | false=>
  have O:U (Gs n N key):=by
   intro t rs hv;rcases am.o with ⟨_,q⟩|⟨q,_⟩;.exact absurd ⟨t,hv⟩ q
   .cases q
  clear am;go_upto_region 3 with fail
  generalize (B.alloc (.cells #[.bool lf,.slice ka kn kc,.slice ca cn cc] 91))=W at r ⊢;have s:U (Bl w W):=(l.o W r.o.1).1;have g:U (W.cell? (ad w.heap.size 0)=some (.slice a n c)/\w.heap.size<W.heap.size/\Bx W (w.heap.size+1) 78 #[.bool false,.slice none 0 0]):=(l.o W r.o.1).2;have L:U (UO 77 #[.agg #[.slice a n c]] W (Gi W n N)):=CC a n c N W (HR.o.1.below s.o) hn HR.o.2;have t0:=g.o.1;have tz:=g.o.2.1;go_wp2_with fail
  (with_reducible refine L.o.mono ?_)
  rintro e R ⟨f,Q,cz,rfl,x⟩;have d:U (Bl w R/\Bx R (w.heap.size+1) 78 #[.bool false,.slice none 0 0]/\BQ (w.heap.size+2) R Q n N):=by have q:Bl w W:=s.o;have S:=g.o.2.2;exact⟨q.trans (f.mono q.size),S.below f,x.keep (by have:=S.lt;have:=q.size;omega) (Uq _) (λ_ _ _=>rfl)⟩
  have J:=d.o.2.1.cell 0;have K:=d.o.2.1.cell 1;simp at J K;have rz:=d.o.2.1.lt;have rf:=λi=>d.o.2.1.frozen i;clear f x t0 tz;go_wp2;refine bodyPost_ret (v:=.agg #[.bool false,.slice Q n cz]) (by simp[results,results44,go_sem,J,K]) rfl ⟨(d.o.1.setCell (by simp) _).setCell (by simp) _,false,Q,n,cz,N,rfl,?_,.inr ⟨rfl,rfl,rfl,O.o⟩⟩;exact (d.o.2.2.keep (Uq _) (by simp[World.setCell]) (λb hb _=>by rw[Ur _ _ _ _ (show b≠w.heap.size+1 by omega),Ur _ _ _ _ (show b≠w.heap.size+1 by omega)]))
 | true=>
  obtain⟨t,bn,bu⟩:∃t,BE n N t/\Nq EY B 21 t (.agg #[.bool lf,.slice ka kn kc,.slice ca cn cc]):=by
   rcases am.o with ⟨q,_⟩|⟨_,q⟩;.cases q
   .exact q
  have V:U (BE n N t):=bn;have ac:U (NG (λb=>b<B.heap.size) B 21 t (.agg #[.bool lf,.slice ka kn kc,.slice ca cn cc])):=bu.ng;obtain⟨h1,h2,h3,⟨hh,h4⟩,h5,h6⟩:=bn;have bp:=BJ h3;have bw:=BL (BR h4);have HF:U (Ac 21 t<=5000/\(Ab 21 t).length<=20000/\Aq 21 true t hh/\BI (Ab 21 t)):=⟨by omega,by omega,h4,Bz h5⟩;clear am bu h1 h2 h3 h4 h5 h6 bp bw;by_cases bh:16<key.size
  .have bd:(16:Int)<(key.size:Int):=by omega
   have bk:decide ((16:Int)<(key.size:Int))=true:=decide_eq_true bd;have O:U (Gs n N key):=λt rs _ q=>absurd q (by omega);clear V ac HF;go_upto_region 3 with fail
   generalize (B.alloc (.cells #[.bool lf,.slice ka kn kc,.slice ca cn cc] 91))=W at r ⊢;have s:U (Bl w W):=(l.o W r.o.1).1;have g:U (W.cell? (ad w.heap.size 0)=some (.slice a n c)/\w.heap.size<W.heap.size/\Bx W (w.heap.size+1) 78 #[.bool false,.slice none 0 0]):=(l.o W r.o.1).2;have L:U (UO 77 #[.agg #[.slice a n c]] W (Gi W n N)):=CC a n c N W (HR.o.1.below s.o) hn HR.o.2;have t0:=g.o.1;have tz:=g.o.2.1;go_wp2_with fail
   (with_reducible refine L.o.mono ?_)
   rintro e R ⟨f,Q,cz,rfl,x⟩;have d:U (Bl w R/\Bx R (w.heap.size+1) 78 #[.bool false,.slice none 0 0]/\BQ (w.heap.size+2) R Q n N):=by have q:Bl w W:=s.o;have S:=g.o.2.2;exact⟨q.trans (f.mono q.size),S.below f,x.keep (by have:=S.lt;have:=q.size;omega) (Uq _) (λ_ _ _=>rfl)⟩
   have J:=d.o.2.1.cell 0;have K:=d.o.2.1.cell 1;simp at J K;have rz:=d.o.2.1.lt;have rf:=λi=>d.o.2.1.frozen i;clear f x t0 tz;go_wp2;refine bodyPost_ret (v:=.agg #[.bool false,.slice Q n cz]) (by simp[results,results44,go_sem,J,K]) rfl ⟨(d.o.1.setCell (by simp) _).setCell (by simp) _,false,Q,n,cz,N,rfl,?_,.inr ⟨rfl,rfl,rfl,O.o⟩⟩;exact (d.o.2.2.keep (Uq _) (by simp[World.setCell]) (λb hb _=>by rw[Ur _ _ _ _ (show b≠w.heap.size+1 by omega),Ur _ _ _ _ (show b≠w.heap.size+1 by omega)]))
  .have bd:¬ (16:Int)<(key.size:Int):=by omega
   have bk:decide ((16:Int)<(key.size:Int))=false:=decide_eq_false bd;have aq:U (key.size<=16):=by show _<=_;omega
   have ak:U (∀W,Bl B W->UO 58 #[.agg #[.bool lf,.slice ka kn kc,.slice ca cn cc]] W (Fl W (Ab 21 t))):=λW I=>Es 21 t _ W (ac.o.below I).na HF.o.1 (by have:=HF.o.2.1;omega);clear bh;go_upto_region 2 with fail
   generalize (B.alloc (.cells #[.bool lf,.slice ka kn kc,.slice ca cn cc] 91))=W at r ⊢;have x0:=r.o.2.cell 0;have x1:=r.o.2.cell 1;have x2:=r.o.2.cell 2;simp at x0 x1 x2;have xz:=r.o.2.lt;go_wp2_with fail
   (with_reducible refine (ak.o W r.o.1).mono ?_)
   rintro e w3 ⟨a3,c3,rfl,bi,be,_,_⟩;have al:U (Bl B w3/\Bx w3 B.heap.size 91 #[.bool lf,.slice ka kn kc,.slice ca cn cc]):=⟨r.o.1.trans (be.mono r.o.1.size),r.o.2.below be⟩;have bl:U (UO 78 #[.slice a3 (Ab 21 t).length c3,.string key] w3 λe w'=>∃b:Bool,e=.returned (.bool b)/\(b=true↔key∈Ab 21 t)/\Bl w3 w'):=JT a3 (Ab 21 t).length c3 (Ab 21 t) key w3 bi.rd rfl (by have:=HF.o.2.1;omega);clear bi be x0 x1 x2 xz r ak;go_wp2_with fail
   (with_reducible refine bl.o.mono ?_)
   rintro e w4 ⟨bb,rfl,bq,ay⟩;have F:U (Bl B w4/\Bx w4 B.heap.size 91 #[.bool lf,.slice ka kn kc,.slice ca cn cc]):=⟨al.o.1.trans (ay.mono al.o.1.size),al.o.2.below ay⟩;have bf:U (bb=true↔key∈Ab 21 t):=bq;clear ay bq bl al;cases bb with
   | true=>
    have O:U (Gs n N key):=λt' rs hv _ q=>absurd (by rw[hv.fn V.o];exact bf.o.1 rfl) q;clear V ac HF;have s:U (Bl w w4):=(l.o w4 F.o.1).1;have g:U (w4.cell? (ad w.heap.size 0)=some (.slice a n c)/\w.heap.size<w4.heap.size/\Bx w4 (w.heap.size+1) 78 #[.bool false,.slice none 0 0]):=(l.o w4 F.o.1).2;have L:U (UO 77 #[.agg #[.slice a n c]] w4 (Gi w4 n N)):=CC a n c N w4 (HR.o.1.below s.o) hn HR.o.2;have t0:=g.o.1;have tz:=g.o.2.1;go_wp2_with fail
    (with_reducible refine L.o.mono ?_)
    rintro e R ⟨f,Q,cz,rfl,x⟩;have d:U (Bl w R/\Bx R (w.heap.size+1) 78 #[.bool false,.slice none 0 0]/\BQ (w.heap.size+2) R Q n N):=by have q:Bl w w4:=s.o;have S:=g.o.2.2;exact⟨q.trans (f.mono q.size),S.below f,x.keep (by have:=S.lt;have:=q.size;omega) (Uq _) (λ_ _ _=>rfl)⟩
    have J:=d.o.2.1.cell 0;have K:=d.o.2.1.cell 1;simp at J K;have rz:=d.o.2.1.lt;have rf:=λi=>d.o.2.1.frozen i;clear f x t0 tz;go_wp2;refine bodyPost_ret (v:=.agg #[.bool false,.slice Q n cz]) (by simp[results,results44,go_sem,J,K]) rfl ⟨(d.o.1.setCell (by simp) _).setCell (by simp) _,false,Q,n,cz,N,rfl,?_,.inr ⟨rfl,rfl,rfl,O.o⟩⟩;exact (d.o.2.2.keep (Uq _) (by simp[World.setCell]) (λb hb _=>by rw[Ur _ _ _ _ (show b≠w.heap.size+1 by omega),Ur _ _ _ _ (show b≠w.heap.size+1 by omega)]))
   | false=>
    have ar:U (key∉Ab 21 t):=λh=>by have:=bf.o.2 h;cases this
    have au:U (UO 79 #[.agg #[.bool lf,.slice ka kn kc,.slice ca cn cc],.string key] w4 (λe w'=>∃rs,Bt key 21 t rs/\Er (λb=>b<B.heap.size) w4 21 rs e w')):=Nf key 21 t _ true hh _ w4 (ac.o.below F.o.1) HF.o.2.2.1 HF.o.2.2.2 HF.o.1 (by have:=HF.o.2.1;omega);have x0:=F.o.2.cell 0;have x1:=F.o.2.cell 1;have x2:=F.o.2.cell 2;simp at x0 x1 x2;have xz:=F.o.2.lt;clear bf;go_wp2_with fail
    (with_reducible refine au.o.mono ?_)
    rintro e w5 ⟨rs,T,ax,g5,c5,bm,rfl,b3,av,a6,P,aa⟩;have ae:U (Bl B w5):=F.o.1.trans (ax.mono F.o.1.size);have C:U (Bt key 21 t rs):=T;have ap:U ((rs.map (Ac 21)).sum<=5021):=by have:=Bt.nodes T;have:=HF.o.1;show _<=_;omega
    have ab:U (∀m,m=DU rs->5000<m->Gs n N key):=by intro m hm bz t' b4 hv _ _ b1;obtain rfl:=hv.fn V.o;rw[Bt.fn HF.o.2.2.1 HF.o.2.2.2 b1 C.o,<- hm];exact bz
    clear x0 x1 x2 xz au F;rcases Bt.bal HF.o.2.2.1 T with ⟨y,rfl,ao⟩|⟨y,z,rfl,ao,f⟩
    .match bm,aa with
     | x0::x1::x2::[],aa=>
     obtain⟨hy,_⟩:=aa;obtain⟨bc,bg,a7,a4,a1,aw,a0,H⟩:=Av.form hy;injection H with H;injection H with H;injection H with e0 H;injection H with e1 H;injection H with e2 H;subst e0 e1 e2;have z0:=P 0 _ rfl;have z1:=P 1 _ rfl;have z2:=P 2 _ rfl;have a8:Ac 21 y<=5021:=by have:=ap.o;simpa using this
     have a2:=BL (BR ao);have A:U (∀W,Bl w5 W->UO 80 #[.agg #[.bool bc,.slice bg a7 a4,.slice a1 aw a0],iv 0] W (CI W 21 y 0)):=λW I=>Di 21 y _ true hh 0 W (NG.below hy I).na (by omega) (by omega) ao (by omega) (by omega);have aj:U (Ac 21 y=DU [y]):=by show _=_;simp[DU]
     clear P hy a2 T ax;obtain⟨m,hm⟩:∃m,m=Ac 21 y:=⟨_,rfl⟩;have HM:U (m=DU [y]):=hm.trans aj.o;have bx:m<=5022:=by rw[hm];omega
     have ah:U (∀W,Bl w5 W->UO 80 #[.agg #[.bool bc,.slice bg a7 a4,.slice a1 aw a0],iv 0] W (λe w'=>∃X rc G,e=.returned (.slice X m rc)/\Bl W w'/\BQ W.heap.size w' X m G/\Am G 0 21 y 0)):=by intro W I;refine (A.o W I).mono (λe w' hr=>?_);obtain⟨X,rc,G,b0,q1,S,q3,q4,q5⟩:=hr;rw[<- hm] at q1 q3 q4;exact⟨X,rc,G,q1,S,Bp.rowN q3 q4,q5⟩
     clear A hm aj a8;have bs:g5<w5.heap.size:=av;go_wp2_with fail
     (with_reducible refine (ah.o _ (Aa _ _)).mono ?_)
     rintro e k ⟨X,rc,G,rfl,af,E,Y⟩;have M:U (Bl B k):=ae.o.trans (((Aa _ _):Bl w5 _).trans (af.mono (by simp)) |>.mono ae.o.size);have bv:w.heap.size+2<=w5.heap.size:=by have:=(l.o w5 ae.o).2.2.2.lt;omega
     have Z:U (BQ (w.heap.size+2) k X m G/\Am G 0 21 y 0):=⟨E.keep (by simp;omega) (Uq _) (λ_ _ _=>rfl),Y⟩;clear af E Y ah z0 z1 z2;by_cases h5:5000<m
     .have i5:(5000:Int)<(m:Int):=by omega
      have ba:decide ((5000:Int)<(m:Int))=true:=decide_eq_true i5;have O:U (Gs n N key):=ab.o m HM.o h5;clear ab C V HF ac;have s:U (Bl w k):=(l.o k M.o).1;have g:U (k.cell? (ad w.heap.size 0)=some (.slice a n c)/\w.heap.size<k.heap.size/\Bx k (w.heap.size+1) 78 #[.bool false,.slice none 0 0]):=(l.o k M.o).2;have L:U (UO 77 #[.agg #[.slice a n c]] k (Gi k n N)):=CC a n c N k (HR.o.1.below s.o) hn HR.o.2;have t0:=g.o.1;have tz:=g.o.2.1;go_wp2_with fail
      (with_reducible refine L.o.mono ?_)
      rintro e R ⟨f,Q,cz,rfl,x⟩;have d:U (Bl w R/\Bx R (w.heap.size+1) 78 #[.bool false,.slice none 0 0]/\BQ (w.heap.size+2) R Q n N):=by have q:Bl w k:=s.o;have S:=g.o.2.2;exact⟨q.trans (f.mono q.size),S.below f,x.keep (by have:=S.lt;have:=q.size;omega) (Uq _) (λ_ _ _=>rfl)⟩
      have J:=d.o.2.1.cell 0;have K:=d.o.2.1.cell 1;simp at J K;have rz:=d.o.2.1.lt;have rf:=λi=>d.o.2.1.frozen i;clear f x t0 tz;go_wp2;refine bodyPost_ret (v:=.agg #[.bool false,.slice Q n cz]) (by simp[results,results44,go_sem,J,K]) rfl ⟨(d.o.1.setCell (by simp) _).setCell (by simp) _,false,Q,n,cz,N,rfl,?_,.inr ⟨rfl,rfl,rfl,O.o⟩⟩;exact (d.o.2.2.keep (Uq _) (by simp[World.setCell]) (λb hb _=>by rw[Ur _ _ _ _ (show b≠w.heap.size+1 by omega),Ur _ _ _ _ (show b≠w.heap.size+1 by omega)]))
     .have i5:¬ (5000:Int)<(m:Int):=by omega
      have ba:decide ((5000:Int)<(m:Int))=false:=decide_eq_false i5;have D:U (Bx k (w.heap.size+1) 78 #[.bool false,.slice none 0 0]/\Bl w k):=⟨(l.o k M.o).2.2.2,(l.o k M.o).1⟩;have J:=D.o.1.cell 0;have K:=D.o.1.cell 1;simp at J K;have rz:=D.o.1.lt;have rf:=λi=>D.o.1.frozen i;have a5:m<=5000:=by omega
      go_wp2;refine bodyPost_ret (v:=.agg #[.bool true,.slice X m rc]) (by simp[results,results44,go_sem,J,K]) rfl ⟨(D.o.2.setCell (by simp) _).setCell (by simp) _,true,X,m,rc,G,rfl,?_,.inl ⟨rfl,t,[y],V.o,aq.o,ar.o,C.o,HM.o,a5,Z.o.2⟩⟩;exact (Z.o.1.keep (Uq _) (by simp[World.setCell]) (λb hb _=>by rw[Ur _ _ _ _ (show b≠w.heap.size+1 by omega),Ur _ _ _ _ (show b≠w.heap.size+1 by omega)]))
    .match bm,aa with
     | x0::x1::x2::x3::x4::x5::[],aa=>
     have HY:U (∀W,Bl w5 W->NG (λ_=>True) W 22 (.inr [y,z]) (.agg #[.bool false,.slice none 0 0,.slice (some (ad g5 0)) 2 c5])):=λW I=>by refine⟨none,0,g5,c5,[x0,x1,x2,x3,x4,x5],rfl,⟨trivial,a6⟩,by have:=I.size;omega,by simp,λj u hj=>(I.cell (p:=(ad g5 j)) av).trans (P j u hj),?_⟩;exact AN.mono (λt v q=>(NG.below q I).wide (λ_ _ _=>trivial)) aa
     obtain⟨⟨bc,bg,a7,a4,a1,aw,a0,H⟩,_⟩:(∃lf ka kn kc ca cn cc,Value.agg #[x0,x1,x2]=.agg #[.bool lf,.slice ka kn kc,.slice ca cn cc])/\True:=⟨Av.form aa.1,trivial⟩;injection H with H;injection H with H;injection H with e0 H;injection H with e1 H;injection H with e2 H;subst e0 e1 e2;have z0:=P 0 _ rfl;have z1:=P 1 _ rfl;have z2:=P 2 _ rfl;have a8:Ac 22 (.inr [y,z])<=5022:=by have:=ap.o;show 1+([y,z].map (Ac 21)).sum<=5022;omega
     have ag:Aq 22 true (.inr [y,z]) (hh+1):=⟨by simp,by simp,hh,rfl,λt ht=>by
      simp at ht;rcases ht with rfl|rfl;.exact ao
      .exact f⟩
     have a2:=BL (BR ag);have A:U (∀W,Bl w5 W->UO 80 #[.agg #[.bool false,.slice none 0 0,.slice (some (ad g5 0)) 2 c5],iv 0] W (CI W 22 (.inr [y,z]) 0)):=λW I=>Di 22 (.inr [y,z]) _ true (hh+1) 0 W (HY.o W I).na (by omega) (by omega) ag (by omega) (by omega);have aj:U (Ac 22 (.inr [y,z])=DU [y,z]):=by show _=_;rfl
     clear P a2 T ax ag HY;obtain⟨m,hm⟩:∃m,m=Ac 22 (.inr [y,z]):=⟨_,rfl⟩;have HM:U (m=DU [y,z]):=hm.trans aj.o;have bx:m<=5022:=by rw[hm];omega
     have ah:U (∀W,Bl w5 W->UO 80 #[.agg #[.bool false,.slice none 0 0,.slice (some (ad g5 0)) 2 c5],iv 0] W (λe w'=>∃X rc G,e=.returned (.slice X m rc)/\Bl W w'/\BQ W.heap.size w' X m G/\Am G 0 22 (.inr [y,z]) 0)):=by intro W I;refine (A.o W I).mono (λe w' hr=>?_);obtain⟨X,rc,G,b0,q1,S,q3,q4,q5⟩:=hr;rw[<- hm] at q1 q3 q4;exact⟨X,rc,G,q1,S,Bp.rowN q3 q4,q5⟩
     clear A hm aj a8;have bs:g5<w5.heap.size:=av;go_wp2_with fail
     (with_reducible refine (ah.o _ (Aa _ _)).mono ?_)
     rintro e k ⟨X,rc,G,rfl,af,E,Y⟩;have M:U (Bl B k):=ae.o.trans (((Aa _ _):Bl w5 _).trans (af.mono (by simp)) |>.mono ae.o.size);have bv:w.heap.size+2<=w5.heap.size:=by have:=(l.o w5 ae.o).2.2.2.lt;omega
     have Z:U (BQ (w.heap.size+2) k X m G/\Am G 0 22 (.inr [y,z]) 0):=⟨E.keep (by simp;omega) (Uq _) (λ_ _ _=>rfl),Y⟩;clear af E Y ah z0 z1 z2;by_cases h5:5000<m
     .have i5:(5000:Int)<(m:Int):=by omega
      have ba:decide ((5000:Int)<(m:Int))=true:=decide_eq_true i5;have O:U (Gs n N key):=ab.o m HM.o h5;clear ab C V HF ac;have s:U (Bl w k):=(l.o k M.o).1;have g:U (k.cell? (ad w.heap.size 0)=some (.slice a n c)/\w.heap.size<k.heap.size/\Bx k (w.heap.size+1) 78 #[.bool false,.slice none 0 0]):=(l.o k M.o).2;have L:U (UO 77 #[.agg #[.slice a n c]] k (Gi k n N)):=CC a n c N k (HR.o.1.below s.o) hn HR.o.2;have t0:=g.o.1;have tz:=g.o.2.1;go_wp2_with fail
      (with_reducible refine L.o.mono ?_)
      rintro e R ⟨f,Q,cz,rfl,x⟩;have d:U (Bl w R/\Bx R (w.heap.size+1) 78 #[.bool false,.slice none 0 0]/\BQ (w.heap.size+2) R Q n N):=by have q:Bl w k:=s.o;have S:=g.o.2.2;exact⟨q.trans (f.mono q.size),S.below f,x.keep (by have:=S.lt;have:=q.size;omega) (Uq _) (λ_ _ _=>rfl)⟩
      have J:=d.o.2.1.cell 0;have K:=d.o.2.1.cell 1;simp at J K;have rz:=d.o.2.1.lt;have rf:=λi=>d.o.2.1.frozen i;clear f x t0 tz;go_wp2;refine bodyPost_ret (v:=.agg #[.bool false,.slice Q n cz]) (by simp[results,results44,go_sem,J,K]) rfl ⟨(d.o.1.setCell (by simp) _).setCell (by simp) _,false,Q,n,cz,N,rfl,?_,.inr ⟨rfl,rfl,rfl,O.o⟩⟩;exact (d.o.2.2.keep (Uq _) (by simp[World.setCell]) (λb hb _=>by rw[Ur _ _ _ _ (show b≠w.heap.size+1 by omega),Ur _ _ _ _ (show b≠w.heap.size+1 by omega)]))
     .have i5:¬ (5000:Int)<(m:Int):=by omega
      have ba:decide ((5000:Int)<(m:Int))=false:=decide_eq_false i5;have D:U (Bx k (w.heap.size+1) 78 #[.bool false,.slice none 0 0]/\Bl w k):=⟨(l.o k M.o).2.2.2,(l.o k M.o).1⟩;have J:=D.o.1.cell 0;have K:=D.o.1.cell 1;simp at J K;have rz:=D.o.1.lt;have rf:=λi=>D.o.1.frozen i;have a5:m<=5000:=by omega
      go_wp2;refine bodyPost_ret (v:=.agg #[.bool true,.slice X m rc]) (by simp[results,results44,go_sem,J,K]) rfl ⟨(D.o.2.setCell (by simp) _).setCell (by simp) _,true,X,m,rc,G,rfl,?_,.inl ⟨rfl,t,[y,z],V.o,aq.o,ar.o,C.o,HM.o,a5,Z.o.2⟩⟩;exact (Z.o.1.keep (Uq _) (by simp[World.setCell]) (λb hb _=>by rw[Ur _ _ _ _ (show b≠w.heap.size+1 by omega),Ur _ _ _ _ (show b≠w.heap.size+1 by omega)]))
end Go.Proofs.YtcnollkkigiobaaGreat
