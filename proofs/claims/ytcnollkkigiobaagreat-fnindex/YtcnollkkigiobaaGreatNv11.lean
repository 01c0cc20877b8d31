import Derived.Test.YtcnollkkigiobaaGreatNv10
set_option linter.unusedVariables false
set_option linter.unusedSimpArgs false
set_option maxRecDepth 100000
set_option maxHeartbeats 90000000
namespace Go.Proofs.YtcnollkkigiobaaGreat
open Go Go.Deep Go.RowKit Go.Proofs.Tryz
variable {X:Nat->ByteArray}{a:Option Addr}{n:Nat}{w w' w1 w2:World}
theorem Cg.cellOf (h:Cg w a n X) (i:Nat) (hi:i<n):∃b o,a=some (ad b o)/\w.cell? (ad b (o+i))=some (.string (X i)):=by
 rcases h with q|⟨b,o,rfl,f⟩;.omega
 .exact⟨b,o,rfl,f i hi⟩
theorem M7 {L:List ByteArray} {i:Nat} (h:i<L.length):gt L i=L[i]:=by unfold gt;rw[Uw,Ut h];rfl
def JI (b:Nat) (w w' : World):Prop:=w'.os=w.os/\w'.tape=w.tape/\w'.output=w.output/\w.heap.size<=w'.heap.size/\∀k,k<w.heap.size->k≠b->w'.heap[k]?=w.heap[k]?
theorem JI.refl (b:Nat) (w:World):JI b w w:=⟨rfl,rfl,rfl,Uq _,λ_ _ _=>rfl⟩
theorem JI.below {b:Nat} (h:JI b w w1) (f:Bl w1 w2):JI b w w2:=⟨f.os.trans h.1,f.tape.trans h.2.1,f.output.trans h.2.2.1,Uy h.2.2.2.1 f.size,λk j l=>(f.block k (UB j h.2.2.2.1)).trans (h.2.2.2.2 k j l)⟩
theorem JI.grown {b:Nat} {r:Option Nat} (h:JI b w w1) (f:w1.grownBy w2 r) (l:∀g,r=some g->g=b\/w.heap.size<=g):JI b w w2:=⟨f.os.trans h.1,f.tape.trans h.2.1,f.output.trans h.2.2.1,Uy h.2.2.2.1 f.size,λk j m=>(f.block k (UB j h.2.2.2.1) (λe=>by rcases l k e.symm with q|q <;> omega)).trans (h.2.2.2.2 k j m)⟩
theorem JI.bel {b B:Nat} (h:JI b w w') (j:B<=w.heap.size) (f:B<=b):Below B w w':=⟨h.1,h.2.1,h.2.2.1,h.2.2.2.1,λk l=>h.2.2.2.2 k (by omega) (by omega)⟩
theorem Cg.ex1 {b:Nat} (h:Cg w a n X) (m:JI b w w') (f:∀g o,a=some (ad g o)->g≠b):Cg w' a n X:=by
 rcases h with q|⟨g,o,rfl,l⟩;.exact .inl q
 .refine .inr ⟨g,o,rfl,λi j=>?_⟩;have p:=Uo _ _ (l i j);rw[World.cell?_of_block (a:=(ad g (o+i))) (m.2.2.2.2 g p (f g o rfl))];exact l i j
theorem CB (perm:Nat) (hp:perm<6) (a:Option Addr) (n c:Nat) (N:Nat->Tn) (t:Ro 21) (w:World) (h:Cb w a n N) (hv:BE n N t) (hf:∀i,i<n->Bg (N i)) (hk:∀k,k∈Ab 21 t->k.size=16) (hl:(Ab 21 t).length<=300) (L:List Qd) (hL:L=(Ab 21 t).map (Al perm)) :
  UO 33 #[.agg #[.slice a n c],iv (perm:Int)] w λe w'=>∃a' c',e=.returned (.slice a' L.length c')/\FX w' a' L/\Bl w w':=by
 have a5:=hv.2.1;have ah:=BJ hv.2.2.1;have HR:U (Cb w a n N/\BE n N t/\(∀i,i<n->Bg (N i))/\(∀k,k∈Ab 21 t->k.size=16)/\L=(Ab 21 t).map (Al perm)/\Ac 21 t<=5000/\perm<6):=⟨h,hv,hf,hk,hL,by omega,hp⟩;have P:U (∀O1 O2:Obj,Bl w ((w.alloc O1).alloc O2)):=λ_ _=>(Aa _ _).alloc (by simp) _;have am:=Ae (λW hW=>Qr a n c N W (h.below hW) (by omega) hf);obtain⟨i0,au,al,Z,af⟩:=info_parts info34;have HI:=Ae (ai au (ai al (ai Z af)));clear h hv hf hk hL hp ah au al Z af;go_enter func33,ntmps33;go_wp2_with fail
 (with_reducible refine (am.o _ (P.o _ _)).mono ?_)
 rintro e w1 ⟨F,lf,ka,kn,kc,ca,cn,cc,ok,rfl,hr⟩;have G:U (w1.ownsRow (w.heap.size+1) 34 4 (.slice (some (ad (w.heap.size+1) 0)) 0 0) 0 []/\Bl w w1):=by have q:=Aw (w.alloc (.cells #[.slice a n c] 59)) 34 (w.heap.size+1) 4 (by simp);rw[UF] at q;exact⟨Ag q F,(P.o _ _).trans (F.mono (by simp;omega))⟩
 rcases hr with ⟨rfl,ax,_⟩|⟨rfl,y,ac,aw⟩;.exact absurd ⟨t,HR.o.2.1⟩ ax
 have et:y=t:=by have q:=ac.2.2.1;rw[HR.o.2.1.2.2.1] at q;injection q with q;injection q with q _;exact q.symm
 subst et;have av:=Ae aw;have r:=Ae (λW hW=>Es 21 y _ W (av.o.below hW) HR.o.2.2.2.2.2.1 (by omega));have Z:w.heap.size+2<=w1.heap.size:=by have:=F.size;simpa using this
 clear aw F ac am P;go_wp2_with fail
 (with_reducible refine (r.o _ (Aa _ _)).mono ?_)
 rintro e E ⟨a3,c3,rfl,M,an,_,_⟩;have f:=(Aa _ _).trans (an.mono (by simp));obtain⟨I,z⟩:=gn ((Ab 21 y).length);have Y:=Ae z;have S3:U ((I≠0->∃g,a3=some (ad g 0)/\g≠w.heap.size+1)/\Cg E a3 I (gt (Ab 21 y))/\E.ownsRow (w.heap.size+1) 34 4 (.slice (some (ad (w.heap.size+1) 0)) 0 0) 0 []/\Bl w E/\w.heap.size+1<=E.heap.size):=by
  have q:=G.o.2.trans (f.mono G.o.2.size);have qs:=f.size;refine⟨λh0=>?_,by rw[z];exact M.rd,Ag G.o.1 f,q,by omega⟩;rcases M with h' | ⟨g,e,hg,_⟩;.omega
  .exact⟨g,e,by simp at hg;omega⟩
 rw[<- z] at hl ⊢;clear z M an f G r av;go_wp2;go_loopw [5,9] (λak i wr=>∃(k:Nat) (R:List Qd),k<=I/\i=iv k/\R=((Ab 21 y).take k).map (Al perm)/\wr.ownsRow (w.heap.size+1) 34 4 ak R.length (AL R)/\JI (w.heap.size+1) E wr/\(∀g,ak.ownBlock=some g->g=w.heap.size+1\/E.heap.size<=g)) (λ_ i _=>I-(intOf i).toNat)
 case atStart=>exact⟨0,[],Us _,rfl,rfl,S3.o.2.2.1,JI.refl _ _,λg e=>.inl (by simp[Value.ownBlock] at e;omega)⟩
 case round=>
  obtain⟨k,R,hk,rfl,hR,x,aq,H⟩:=hrel;obtain⟨ar,cr,er,_⟩:=Af x;subst er;have ab:R.length=k:=by rw[hR,UD,UE,<- Y.o];omega
  have l:=Ae (ai x (ai aq (ai hR (ai H ab))));clear x aq hR H ab;obtain⟨rl,A⟩:=gn R.length;have O:=Ae A;have J:=A.trans l.o.2.2.2.2;have az:rl<=k:=by omega
  rw[<- A] at l ⊢;clear A;have k0:(0:Int)<=(k:Int):=by omega
  by_cases ag:k<I
  .have k1:(k:Int)<(I:Int):=by omega
   have Q:k<(Ab 21 y).length:=by rw[<- Y.o];exact ag
   obtain⟨gk,ea,a1⟩:=S3.o.1 (by omega);have ao:Cg wr a3 I (gt (Ab 21 y)):=S3.o.2.1.ex1 l.o.2.1 (λg o e=>by rw[ea] at e;injection e with e;injection e with e;omega)
   obtain⟨bb,oo,a0,s1⟩:=ao.cellOf k ag;obtain⟨m,v⟩:=gn (gt (Ab 21 y) k);rw[<- v] at s1;have ap:U (m=(Ab 21 y)[k]/\m.size=16):=by
    have e:m=(Ab 21 y)[k]:=by rw[v,M7 Q]
    exact⟨e,by rw[e];exact HR.o.2.2.2.1 _ (UA Q)⟩
   have ae:=Ae (Jj perm HR.o.2.2.2.2.2.2 m ap.o.2 wr);clear v ao ea J;subst a0;go_wp2_with fail
   (with_reducible refine ae.o.mono ?_)
   rintro e w5 ⟨rfl,C⟩;obtain⟨b,V⟩:=gn (Al perm m);have ay:=Ae V;rw[<- V];unfold qv;have D:U ((w5.alloc (.cells #[iv b.s,iv b.p,iv b.o,iv b.g] 34)).ownsRow (w.heap.size+1) 34 4 (.slice ar rl cr) rl (AL R)/\JI (w.heap.size+1) E (w5.alloc (.cells #[iv b.s,iv b.p,iv b.o,iv b.g] 34))/\(∀j u,(AL [b])[j]?=some u->(w5.alloc (.cells #[iv b.s,iv b.p,iv b.o,iv b.g] 34)).cell? (ad w5.heap.size j)=some u)):=by refine⟨Ag (Ag l.o.1 C) (Aa _ _),(l.o.2.1.below C).below (Aa _ _),λj u hj=>?_⟩;rw[(Bx.new w5 #[iv b.s,iv b.p,iv b.o,iv b.g] 34).cell j];simpa[AL] using hj
   have a6:=C.size;have a2:=l.o.2.1.2.2.2.1;have a4:=S3.o.2.2.2.2;clear C V ae;go_wp2_with (at_builtin;refine wpList_append_own_at _ rfl _ _ 28 rfl (w.heap.size+1) 34 i0 _ 4 32 underlying28 HI.o.1 HI.o.2.1 HI.o.2.2.1 HI.o.2.2.2 rfl (by decide) (.slice ar rl cr) rl (AL R) rfl D.o.1 (ad w5.heap.size 0) 1 1 (AL [b]) rfl rfl (λj u hj=>by rw[Addr.add_lit,UI];exact D.o.2.2 j u hj) (by intro u hu;simp[AL] at hu;rcases hu with rfl|rfl|rfl|rfl <;> rfl) (by unfold maxLen;omega) (by omega) (by simp;omega) ?_)
   intro v7 w7 aa aj _ K;have H7:U (w7.ownsRow (w.heap.size+1) 34 4 v7 (R++[b]).length (AL (R++[b]))/\JI (w.heap.size+1) E w7/\(∀g,v7.ownBlock=some g->g=w.heap.size+1\/E.heap.size<=g)):=by
    refine⟨by rw[EA,Uz,<- O.o];exact aa,D.o.2.1.grown aj l.o.2.2.2.1,λg e=>?_⟩;rcases K with q|q;.exact l.o.2.2.2.1 g (by rw[<- q];exact e)
    .rw[q] at e;injection e with e;exact .inr (by omega)
   have HN:U (R++[b]=((Ab 21 y).take (k+1)).map (Al perm)):=by show R++[b]=_;rw[List.take_add_one,Ut Q,List.map_append,<- l.o.2.2.1,ay.o,ap.o.1];rfl
   obtain⟨a7,c7,e7,_⟩:=Af aa;subst e7;clear aa aj K D;go_wp2;go_roundw;case rel=>exact⟨k+1,R++[b],by omega,by go_num,HN.o,H7.o⟩
   case measure=>simp[intOf];omega
  .obtain rfl:k=I:=by omega
   have k1:¬ (k:Int)<(k:Int):=by omega
   have HF:U (R=L/\FX wr ar L/\Bl w wr/\rl=L.length):=by
    have e:R=L:=by rw[l.o.2.2.1,HR.o.2.2.2.2.1,Y.o,UC]
    have ho:=l.o.1;rw[O.o] at ho;refine⟨e,by rw[<- e];exact Hy ho,S3.o.2.2.2.1.trans (l.o.2.1.bel S3.o.2.2.2.1.size (by omega)),by rw[<- e];exact O.o⟩
   clear J;go_wp2;go_ret;exact⟨ar,⟨cr,by rw[<- HF.o.2.2.2];rfl⟩,HF.o.2.1,HF.o.2.2.1⟩
def Tp (perm m:Nat) (N:Nat->Tn):Prop:=∃t,BE m N t/\(Ab 21 t).length<=300/\∀k,k∈Ab 21 t->k.size=16/\AQ (Al perm k)=true
def JS (i m:Nat) (N:Nat->Tn) (m0:Nat) (N0:Nat->Tn):Prop:=∀t t0,BE m N t->BE m0 N0 t0->(Ab 21 t).length=(Ab 21 t0).length/\∀k,k∈Ab 21 t->Al i k∈(Ab 21 t0).map (Al 0)
def VI (n:Nat) (M:Nat->Nat) (T:Nat->Nat->Tn):Prop:=n=6/\(∀j,j<6->Tp j (M j) (T j))/\∀i,1<=i->i<6->JS i (M i) (T i) (M 0) (T 0)
theorem CR {n:Nat} {N:Nat->Tn} {t t' : Ro 21} (h:BE n N t) (b : BE n N t'):t=t':=by have q:=h.2.2.1;rw[b.2.2.1] at q;injection q with q;injection q with q _;exact q.symm
theorem F3 (a:Option Addr) (n c:Nat) (M:Nat->Nat) (T:Nat->Nat->Tn) (w:World) (h:CO w a n M T) (hn:n<=1048576) (hN:BF n M T) :
  UO 25 #[.agg #[.slice a n c]] w (O8 w (VI n M T)):=by
 by_cases h6:n=6;case neg=>
  have cm:¬ (n:Int)=6:=by omega
  have ck:((n:Int) != 6)=true:=by simp;omega
  have I:U (¬ VI n M T):=λq=>h6 q.1;clear h hN;go_enter func25,ntmps25;go_wp2;go_ret;exact⟨false,rfl,by simp[I.o],Aa _ _⟩
 case pos=>
 subst h6;have HR:=Ae (ai h hN);clear h hN hn;go_enter func25,ntmps25;go_wp2;go_loopw [3,4,5,6,7] (λi _ _ _ _ wr=>∃j:Nat,j<=6/\i=iv j/\(∀q,q<j->Tp q (M q) (T q))/\Bl w wr/\Bx wr w.heap.size 32 #[.slice a 6 c]) (λi _ _ _ _ _=>6-(intOf i).toNat)
 case atStart=>exact⟨0,by omega,rfl,λq hq=>absurd hq (Uu _),Aa _ _,Bx.new _ _ _⟩
 case round=>
  obtain⟨j,hj,rfl,ab,C,Y⟩:=hrel;have HS:=Ae (ai ab (ai C Y));have b0:=Y.cell 0;simp at b0;have bl:=Y.lt;have j0:(0:Int)<=(j:Int):=by omega
  by_cases u:j<6
  .have j1:(j:Int)<6:=by omega
   rcases HR.o.1.below C with q|⟨bb,oo,O,hc⟩;.omega
   obtain⟨aj,cj,s0,bo⟩:=hc j u;have ac:=HR.o.2 j u;obtain⟨m,hm⟩:=gn (M j);have HM:=Ae hm;have bn:U (UO 57 #[.agg #[.slice aj m cj]] wr (R4 wr (M j) (T j))):=by rw[hm];exact Qr aj (M j) cj (T j) wr bo ac.1 ac.2
   rw[<- hm] at s0;subst O;clear ab C Y hc bo ac hm;go_wp2_with fail
   (with_reducible refine bn.o.mono ?_)
   rintro e w1 ⟨G,lf,ka,kn,kc,ca,cn,cc,ok,rfl,hr⟩;have Z:=Ae (ai (HS.o.2.1.trans (G.mono HS.o.2.1.size)) (HS.o.2.2.below G));clear G bn b0 bl s0;cases ok with
   | false=>
    have I:U (¬ VI 6 M T):=λq=>by
     obtain⟨t,ht,_⟩:=q.2.1 j u;rcases hr with ⟨_,bu,_⟩|⟨q,_⟩;.exact bu ⟨t,ht⟩
     .cases q
    clear hr;go_wp2;go_ret;exact⟨false,rfl,by simp[I.o],Z.o.1.alloc Z.o.1.size _⟩
   | true=>
    obtain⟨t,z,br⟩:∃t,BE (M j) (T j) t/\NA w1 21 t (.agg #[.bool lf,.slice ka kn kc,.slice ca cn cc]):=by
     rcases hr with ⟨q,_⟩|⟨_,q⟩;.cases q
     .exact q
    have bj:=BJ z.2.2.1;have bx:=z.2.1;obtain⟨hh,ao⟩:=z.2.2.2.1;have b4:=BL (BR ao);have HV:=Ae z;have af:=Ae (λW hW=>Es 21 t _ W (br.below hW) (by omega) (by omega));have bk:(Ab 21 t).length<=20000:=by omega
    clear hr br z bj bx ao b4;go_wp2_with fail
    (with_reducible refine (af.o _ (Aa _ _)).mono ?_)
    rintro e w3 ⟨a3,c3,rfl,a8,H,_,_⟩;obtain⟨kl,v⟩:=gn ((Ab 21 t).length);have ah:=Ae v;have P:U (Bl w w3/\Bx w3 w.heap.size 32 #[.slice (some (ad bb oo)) 6 c]/\Cg w3 a3 kl (gt (Ab 21 t))):=by have q:=Z.o.1.alloc Z.o.1.size (.cells #[.bool lf,.slice ka kn kc,.slice ca cn cc] 91);exact⟨q.trans (H.mono q.size),(Z.o.2.alloc _).below H,by rw[v];exact a8.rd⟩
    rw[<- v] at bk ⊢;clear v a8 H af Z;by_cases ce:300<kl
    .have au:(300:Int)<(kl:Int):=by omega
     have b7:=decide_eq_true au;have I:U (¬ VI 6 M T):=λq=>by obtain⟨t',A,al,_⟩:=q.2.1 j u;rw[CR A HV.o,<- ah.o] at al;omega
     go_wp2;go_ret;exact⟨false,rfl,by simp[I.o],P.o.1⟩
    .have au:¬ (300:Int)<(kl:Int):=by omega
     have b7:=decide_eq_false au;go_wp2;go_loopw [7] (λi wr=>∃k:Nat,k<=kl/\i=iv k/\(∀x,x<k->(gt (Ab 21 t) x).size=16/\AQ (Al j (gt (Ab 21 t) x))=true)/\Bl w3 wr) (λi _=>kl-(intOf i).toNat)
     case atStart=>exact⟨0,Us _,rfl,λx hx=>absurd hx (Uu _),Up _ _⟩
     case round=>
      obtain⟨k,hk,rfl,r,l⟩:=hrel;have E:=Ae (ai r (ai l (ai (P.o.1.trans (l.mono P.o.1.size)) (P.o.2.1.below l))));have k0:(0:Int)<=(k:Int):=by omega
      by_cases v:k<kl
      .have k1:(k:Int)<(kl:Int):=by omega
       obtain⟨b5,o5,O,s1⟩:=(P.o.2.2.below l).cellOf k v;obtain⟨f,J⟩:=gn (gt (Ab 21 t) k);have an:U (f=gt (Ab 21 t) k/\f∈Ab 21 t):=⟨J,by rw[J];exact Cu (by rw[<- ah.o];exact v)⟩;rw[<- J] at s1;clear J r l;subst O;by_cases hs:f.size=16
       .have a4:(f.size:Int)=16:=by omega
        have bz:((f.size:Int) != 16)=false:=by simp[a4]
        have V:U (UO 59 #[.string f,iv (j:Int)] wr (UP wr (qv (Al j f)))):=Jj j u f hs wr;have bt:U (f.size=16):=hs;clear hs a4;go_wp2_with fail
        (with_reducible refine V.o.mono ?_)
        rintro e w5 ⟨rfl,K⟩;have HG:U (∀W,UO 41 #[qv (Al j f)] W (UP W (.bool (AQ (Al j f))))):=λW=>IC _ W;have H5:=Ae (ai (E.o.2.1.trans (K.mono E.o.2.1.size)) (E.o.2.2.1.trans (K.mono E.o.2.2.1.size)));have cf:U (∀b,b=AQ (Al j f)->b=AQ (Al j (gt (Ab 21 t) k))):=λb hb=>by rw[hb,an.o.1]
        generalize bh:qv (Al j f)=qq at HG ⊢;unfold qv at bh;subst bh;clear K V;go_wp2_with fail
        (with_reducible refine (HG.o _).mono ?_)
        rintro e w6 ⟨rfl,av⟩;have H6:=Ae (ai (H5.o.1.trans (av.mono H5.o.1.size)) (H5.o.2.trans (av.mono H5.o.2.size)));clear av HG;cases hqb:AQ (Al j f) with
        | false=>
         have I:U (¬ VI 6 M T):=λq=>by obtain⟨t',A,_,D⟩:=q.2.1 j u;rw[CR A HV.o] at D;have Q:=(D f an.o.2).2;rw[hqb] at Q;cases Q
         go_wp2;go_ret;exact⟨false,rfl,by simp[I.o],H6.o.2⟩
        | true=>
         have HN:U (∀x,x<k+1->(gt (Ab 21 t) x).size=16/\AQ (Al j (gt (Ab 21 t) x))=true):=λx hx=>by
          by_cases e:x=k;.subst e;rw[<- an.o.1];exact⟨bt.o,hqb⟩
          .exact E.o.1 x (by omega)
         go_wp2;go_roundw;case rel=>exact⟨k+1,by omega,by go_num,HN.o,H6.o.1⟩
         case measure=>simp[intOf];omega
       .have a4:¬ (f.size:Int)=16:=by omega
        have bz:((f.size:Int) != 16)=true:=by simp;omega
        have I:U (¬ VI 6 M T):=λq=>by obtain⟨t',A,_,D⟩:=q.2.1 j u;rw[CR A HV.o] at D;exact hs (D f an.o.2).1
        go_wp2;go_ret;exact⟨false,rfl,by simp[I.o],E.o.2.2.1⟩
      .obtain rfl:k=kl:=by omega
       have HN:U (∀q,q<j+1->Tp q (M q) (T q)):=λq hq=>by
        by_cases e:q=j;.subst e;refine⟨t,HV.o,by rw[<- ah.o];omega,λx hx=>?_⟩;obtain⟨y,hy,e⟩:=List.getElem_of_mem hx;have Q:=E.o.1 y (by rw[ah.o];exact hy);rw[M7 hy,e] at Q;exact Q
        .exact HS.o.1 q (by omega)
       clear r l;go_wp2;go_roundw;case rel=>exact⟨j+1,by omega,by go_num,HN.o,E.o.2.2⟩
       case measure=>simp[intOf];omega
  .obtain rfl:j=6:=by omega
   have ar:=Ae ab;have ba:U (∀(W:World) (i:Nat),Bl w W->i<6->∃bb oo ai ci,a=some (ad bb oo)/\W.cell? (ad bb (oo+i))=some (.slice ai (M i) ci)/\Cb W ai (M i) (T i)):=λW i hW hi=>by
    rcases HR.o.1.below hW with q|⟨bb,oo,O,hc⟩;.omega
    .obtain⟨ai,ci,q1,Q⟩:=hc i hi;exact⟨bb,oo,ai,ci,O,q1,Q⟩
   have a9:U (∀(W:World) (i:Nat) (ai:Option Addr) (ci:Nat) (t:Ro 21) (L:List Qd),i<6->Cb W ai (M i) (T i)->BE (M i) (T i) t->L=(Ab 21 t).map (Al i)->UO 33 #[.agg #[.slice ai (M i) ci],iv (i:Int)] W λe w'=>∃a' c',e=.returned (.slice a' L.length c')/\FX w' a' L/\Bl W w'):=λW i ai ci t L hi hr hv hL=>by obtain⟨t',A,al,D⟩:=ar.o i hi;rw[CR A hv] at al D;exact CB i hi ai (M i) ci (T i) t W hr hv (HR.o.2 i hi).2 (λk hk=>(D k hk).1) al L hL
   obtain⟨t0,ay,F,bv⟩:=ab 0 (by omega);obtain⟨L0,ag⟩:=gn ((Ab 21 t0).map (Al 0));obtain⟨bb,oo,a0,c0,O,s0,aq⟩:=ba.o wr 0 C (by omega);have bd:U (UO 33 #[.agg #[.slice a0 (M 0) c0],iv 0] wr λe w'=>∃a' c',e=.returned (.slice a' L0.length c')/\FX w' a' L0/\Bl wr w'):=a9.o wr 0 a0 c0 t0 L0 (by omega) aq ay ag;have H0:U (BE (M 0) (T 0) t0/\L0=(Ab 21 t0).map (Al 0)/\L0.length<=300):=⟨ay,ag,by rw[ag,UD];exact F⟩;clear ay F bv ag aq ab C Y;rw[Nat.add_zero] at s0;subst O;go_wp2_with fail
   (with_reducible refine bd.o.mono ?_)
   rintro e w1 ⟨a1,c1,rfl,bg,G⟩;obtain⟨l0,F⟩:=gn L0.length;have a7:=Ae F;have b9:l0<=300:=by rw[F];exact H0.o.2.2
   have Z:=Ae (ai (HS.o.2.1.trans (G.mono HS.o.2.1.size)) (ai (HS.o.2.2.below G) bg));rw[<- F];clear bg G bd F s0 b0 bl;go_wp2;go_loopw [9,10,11] (λi _ _ wr=>∃x:Nat,1<=x/\x<=6/\i=iv x/\(∀q,1<=q->q<x->JS q (M q) (T q) (M 0) (T 0))/\Bl w1 wr) (λi _ _ _=>6-(intOf i).toNat)
   case atStart=>exact⟨1,by omega,by omega,rfl,λq h1 h2=>by omega,Up _ _⟩
   case round=>
    obtain⟨x,be,co,rfl,aw,l⟩:=hrel;have ak:=Z.o.1.trans (l.mono Z.o.1.size);have E:=Ae (ai aw (ai l ak));have x0:(0:Int)<=(x:Int):=by omega
    by_cases R:x<6
    .have x1:(x:Int)<6:=by omega
     obtain⟨t,z,u,bw⟩:=ar.o x R;obtain⟨L,hL⟩:=gn ((Ab 21 t).map (Al x));obtain⟨cp,ch,ax,cx,O,s0,ap⟩:=ba.o wr x ak R;injection O with O;injection O with b1 b2;subst b1 b2;obtain⟨m,hm⟩:=gn (M x);have bm:U (UO 33 #[.agg #[.slice ax m cx],iv (x:Int)] wr λe w'=>∃a' c',e=.returned (.slice a' L.length c')/\FX w' a' L/\Bl wr w'):=by rw[hm];exact a9.o wr x ax cx t L R ap z hL
     rw[<- hm] at s0;have HT:U (BE (M x) (T x) t/\L=(Ab 21 t).map (Al x)/\L.length<=300):=⟨z,hL,by rw[hL,UD];exact u⟩;have ae:=Z.o.2.1.below l;have b0:=ae.cell 0;simp at b0;have bl:=ae.lt;clear z u bw hL ap hm aw l ak ae;go_wp2_with fail
     (with_reducible refine bm.o.mono ?_)
     rintro e w3 ⟨a3,c3,rfl,bi,H⟩;obtain⟨l3,am⟩:=gn L.length;have az:=Ae am;have cb:l3<=300:=by rw[am];exact HT.o.2.2
     have P:=Ae (ai (E.o.2.1.trans (H.mono E.o.2.1.size)) (ai (E.o.2.2.trans (H.mono E.o.2.2.size)) bi));rw[<- am];clear bi H bm am s0 b0 bl;by_cases a5:l3=l0
     .have bq:((l3:Int) != (l0:Int))=false:=by simp[a5]
      have b3:=Ae a5;clear a5;go_wp2;go_loopw [11] (λi wr=>∃k:Nat,k<=l3/\i=iv k/\(∀y (h:y<L.length),y<k->L[y]∈L0)/\Bl w3 wr) (λi _=>l3-(intOf i).toNat)
      case atStart=>exact⟨0,Us _,rfl,λy _ hy=>absurd hy (Uu _),Up _ _⟩
      case round=>
       obtain⟨k,hk,rfl,r,N⟩:=hrel;have HK:=Ae (ai r (ai (P.o.1.trans (N.mono P.o.1.size)) (ai (P.o.2.1.trans (N.mono P.o.2.1.size)) N)));have k0:(0:Int)<=(k:Int):=by omega
       by_cases v:k<l3
       .have k1:(k:Int)<(l3:Int):=by omega
        have a6:k<L.length:=by rw[<- az.o];exact v
        rcases P.o.2.2.below N with q|⟨gb,O,hc⟩;.omega
        obtain⟨s0,s1,s2,s3⟩:=hc k a6;obtain⟨qd,a2⟩:∃qd,qd=L[k]:=⟨_,rfl⟩;have V:U (L[k]=qd):=a2.symm;rw[<- a2] at s0 s1 s2 s3;have bc:U (UO 43 #[.slice a1 l0 c1,.agg #[iv qd.s,iv qd.p,iv qd.o,iv qd.g]] wr λe w'=>∃b:Bool,e=.returned (.bool b)/\(b=true↔qd∈L0)/\Bl wr w'):=Fu a1 l0 c1 L0 qd wr (Z.o.2.2.below HK.o.2.1) a7.o (by omega);subst O;clear hc a2 r N;go_wp2_with fail
        (with_reducible refine bc.o.mono ?_)
        rintro e w5 ⟨b5,rfl,K,aa⟩;have H5:=Ae (ai (HK.o.2.2.2.trans (aa.mono HK.o.2.2.2.size)) (ai (HK.o.2.2.1.trans (aa.mono HK.o.2.2.1.size)) K));clear K aa bc;cases b5 with
        | false=>
         have I:U (¬ VI 6 M T):=λq=>by
          have Q:=(q.2.2 x be R t t0 HT.o.1 H0.o.1).2;have b6:k<(Ab 21 t).length:=by have:=HT.o.2.1;rw[this,UD] at a6;exact a6
          have q3:=Q _ (UA b6);have e:L[k]=Al x (Ab 21 t)[k]:=by have e0:=HT.o.2.1;subst e0;rw[List.getElem_map]
          rw[<- e,V.o,<- H0.o.2.1] at q3;have q4:=H5.o.2.2.2 q3;cases q4
         go_wp2;go_ret;exact⟨false,rfl,by simp[I.o],H5.o.2.1⟩
        | true=>
         have HN:U (∀y (h:y<L.length),y<k+1->L[y]∈L0):=λy hy cg=>by
          by_cases e:y=k;.subst e;rw[V.o];exact H5.o.2.2.1 rfl
          .exact HK.o.1 y hy (by omega)
         go_wp2;go_roundw;case rel=>exact⟨k+1,by omega,by go_num,HN.o,H5.o.1⟩
         case measure=>simp[intOf];omega
       .obtain rfl:k=l3:=by omega
        have HN:U (∀q,1<=q->q<x+1->JS q (M q) (T q) (M 0) (T 0)):=λq h1 h2=>by
         by_cases e:q=x
         .subst e;intro t' cl A bp;rw[CR A HT.o.1,CR bp H0.o.1];have eL:=HT.o.2.1;have bf:=H0.o.2.1;have e3:=az.o;have e0:=a7.o;have ee:=b3.o;refine⟨by rw[eL,UD] at e3;rw[bf,UD] at e0;omega,λky b8=>?_⟩;obtain⟨y,hy,e⟩:=List.getElem_of_mem b8;have bs:y<L.length:=by rw[eL,UD];exact hy
          have Q:=HK.o.1 y bs (by omega);rw[<- bf];have e4:L[y]=Al q ky:=by subst eL;rw[List.getElem_map,e]
          rw[<- e4];exact Q
         .exact E.o.1 q h1 (by omega)
        clear r N;go_wp2;go_roundw;case rel=>exact⟨x+1,by omega,by omega,by go_num,HN.o,HK.o.2.1⟩
        case measure=>simp[intOf];omega
     .have cd:¬ (l3:Int)=(l0:Int):=by omega
      have bq:((l3:Int) != (l0:Int))=true:=by simp;omega
      have I:U (¬ VI 6 M T):=λq=>by have Q:=(q.2.2 x be R t t0 HT.o.1 H0.o.1).1;have e3:=az.o;have e0:=a7.o;rw[HT.o.2.1,UD] at e3;rw[H0.o.2.1,UD] at e0;omega
      go_wp2;go_ret;exact⟨false,rfl,by simp[I.o],P.o.2.1⟩
    .obtain rfl:x=6:=by omega
     have I:U (VI 6 M T):=⟨rfl,ar.o,λi h1 h2=>E.o.1 i h1 h2⟩;clear aw l ak;go_wp2;go_ret;exact⟨true,rfl,by simp[I.o],E.o.2.2⟩
variable {B:Nat}{S:Nat->Prop}{xs:List Value}
def Mw (w:World) (a:Option Addr) (p:Nat) (xs:List Value):Prop:=
 xs.length=p*3/\(∀u∈xs,u.oneCell'=true)/\(p=0\/∃b o,a=some (ad b o)/\b<w.heap.size/\∀j u,xs[j]?=some u->w.cell? (ad b (o+j))=some u)
theorem Mw.below {w':World} {p:Nat} (h:Mw w a p xs) (f:Bl w w'):Mw w' a p xs:=by
 refine⟨h.1,h.2.1,?_⟩;rcases h.2.2 with h|⟨b,o,e,m,q⟩;.exact Or.inl h
 .exact Or.inr ⟨b,o,e,by have:=f.size;omega,λj u l=>(f.cell (p:=(ad b (o+j))) m).trans (q j u l)⟩
theorem Mw.nil (w:World) (a:Option Addr):Mw w a 0 []:=⟨rfl,(by intro u b;cases b),Or.inl rfl⟩
theorem Cz {j:Nat} {e:TypeId} {size:Nat} {v:Value} (h:w.ownsRow B e size v n xs) (p:j<=B):w.ownsRow j e size v n xs:=by
 refine⟨h.1,?_⟩;rcases h.2 with q|⟨g,f,b,m,o,l⟩;.exact .inl q
 .exact .inr ⟨g,f,b,m,by omega,l⟩
theorem By {A:Array Oper} {o:Oper} {p:Act} {K:Act->World->Prop} {Q:Exit->Act->World->Prop} {E:Prop} (N:o.guard=none) (s x:Operand)
  (Y:o.op=.call { callee:=.builtin .append,args:=#[s,x],argTypes:=#[89,89] })
  (B:Nat) (v:Value) (n:Nat) (xs:List Value) (W:p.eval s=v) (q:w.ownsRow B 91 3 v n xs)
  (a:Option Addr) (m c:Nat) (F:List Value) (Z:p.eval x=.slice a m c) (t:Mw w a m F) (ab:n+m<=1048576) (hB:B<=w.heap.size)
  (h:∀D w',w'.ownsRow B 91 3 D (n+m) (xs++F)->w.grownBy w' v.ownBlock->K (p.put o.dst D) w') :
  if Region.wanted o (yielded A p.tmps)=true then Oper.wp prog o p w K Q else E:=by
 have hw:Region.wanted o (yielded A p.tmps)=true:=by simp[Region.wanted,N]
 rw[if_pos hw];obtain⟨J,hi,V,G,H⟩:=info_parts info91;obtain⟨hm,y,t⟩:=t;by_cases C:m=0
 .subst C;have hL:=List.length_eq_zero_iff.1 (by omega);subst hL;have z:Src prog J.size 89 (.slice a 0 c) 0 [] w:=by
   cases a with
   | none=>exact Src.ofNil w underlying89 c
   | some ad=>exact Src.ofSlice w underlying89 ad 0 c [] (by simp) (by simp) (by simp)
  have R:∃b l f,v=.slice b l f/\l<=f:=by
   rcases q.2 with ⟨rfl,rfl⟩|⟨g,f,aa,rfl,_,_,M,_⟩;.exact⟨none,0,0,rfl,Uq _⟩
   .exact⟨_,n,f,rfl,M⟩
  obtain⟨b,l,f,U,I⟩:=R;have r:=run_append_nothing (P:=prog) w 89 89 o.type 91 J underlying89 hi b l f I (.slice a 0 c) z;rw[<- U] at r;unfold Oper.wp;simp[execOp,Y,resolve,invoke,builtin,W,Z,r,Result.andThen];exact h v w (by simpa using q) ⟨rfl,rfl,rfl,Uq _,λ_ _ _=>rfl⟩
 .rcases t with h0|⟨b,O,rfl,hl,hc⟩;.exact absurd h0 C
  .exact wp_append_own w s x 89 Y B 91 J _ 3 56 underlying89 hi V G H rfl (by decide) v n xs W q (ad b O) m c F Z hm (λj u hj=>by rw[BN];exact hc j u hj) y (by unfold maxLen;omega) (by omega) hB (λD w' M h2 _=>h D w' M h2)
def TP (w:World) (lf:Bool) (n:Nat) (L:List ByteArray) (p:Nat) (xs:List Value) (e:Ending) (w' : World):Prop:=
 Bl w w'/\∃a1 c1 a2 c2,e=.returned (.agg #[.bool lf,.slice a1 n c1,.slice a2 p c2])/\w'.ownsRow (w.heap.size+3) 9 1 (.slice a1 n c1) n (Ap L)/\w'.ownsRow (w.heap.size+3) 91 3 (.slice a2 p c2) p xs
theorem LN (lf lg:Bool) (ka ca kb cb:Option Addr) (n kc p cc m kd q cd:Nat) (La Lb:List ByteArray) (xa xb:List Value) (w:World) (h1:Cg w ka n (gt La)) (hn:n=La.length) (h2:Cg w kb m (gt Lb)) (hm:m=Lb.length) (h3:Mw w ca p xa) (h4:Mw w cb q xb) (hA:n<=1000/\m<=1000) (hB:p<=1000/\q<=1000) :
  UO 123 #[.agg #[.bool lf,.slice ka n kc,.slice ca p cc],.agg #[.bool lg,.slice kb m kd,.slice cb q cd]] w (TP w lf (n+m) (La++Lb) (p+q) (xa++xb)):=by
 obtain⟨cz,c1⟩:=hA;obtain⟨c0,c2⟩:=hB;have b6:U ((Cg w ka n (gt La)/\n=La.length)/\(Cg w kb m (gt Lb)/\m=Lb.length)/\Mw w ca p xa/\Mw w cb q xb):=⟨⟨h1,hn⟩,⟨h2,hm⟩,h3,h4⟩;clear h1 h2 h3 h4 hn hm;go_enter func123,ntmps123;go_wp2_with fail
 have co:Bl w (((w.alloc (.cells #[.bool lf,.slice ka n kc,.slice ca p cc] 91)).alloc (.cells #[.bool lg,.slice kb m kd,.slice cb q cd] 91)).alloc (.cells #[.bool false,.slice none 0 0,.slice none 0 0] 91)):=((Aa _ _).alloc (by simp) _).alloc (by simp;omega) _;have cw:(((w.alloc (.cells #[.bool lf,.slice ka n kc,.slice ca p cc] 91)).alloc (.cells #[.bool lg,.slice kb m kd,.slice cb q cd] 91)).alloc (.cells #[.bool false,.slice none 0 0,.slice none 0 0] 91)).heap.size=w.heap.size+3:=by simp
 have b0:=((Bx.new w #[.bool lf,.slice ka n kc,.slice ca p cc] 91).alloc (.cells #[.bool lg,.slice kb m kd,.slice cb q cd] 91)).alloc (.cells #[.bool false,.slice none 0 0,.slice none 0 0] 91);have b1:=(Bx.new (w.alloc (.cells #[.bool lf,.slice ka n kc,.slice ca p cc] 91)) #[.bool lg,.slice kb m kd,.slice cb q cd] 91).alloc (.cells #[.bool false,.slice none 0 0,.slice none 0 0] 91);have b2:=Bx.new ((w.alloc (.cells #[.bool lf,.slice ka n kc,.slice ca p cc] 91)).alloc (.cells #[.bool lg,.slice kb m kd,.slice cb q cd] 91)) #[.bool false,.slice none 0 0,.slice none 0 0] 91;simp only[UF] at b1 b2;generalize ((w.alloc (.cells #[.bool lf,.slice ka n kc,.slice ca p cc] 91)).alloc (.cells #[.bool lg,.slice kb m kd,.slice cb q cd] 91)).alloc (.cells #[.bool false,.slice none 0 0,.slice none 0 0] 91)=W1 at co cw b0 b1 b2 ⊢;have ar:U (Bl w W1.drew):=co.drew;have cp:U (W1.drew.heap.size=w.heap.size+3):=cw;have cq:U (Bx W1.drew (w.heap.size+2) 91 #[.bool false,.slice none 0 0,.slice none 0 0]):=b2.drew;have HR:U ((Cg W1.drew ka n (gt La)/\n=La.length)/\(Cg W1.drew kb m (gt Lb)/\m=Lb.length)/\Mw W1.drew ca p xa/\Mw W1.drew cb q xb):=⟨⟨b6.o.1.1.below ar.o,b6.o.1.2⟩,⟨b6.o.2.1.1.below ar.o,b6.o.2.1.2⟩,b6.o.2.2.1.below ar.o,b6.o.2.2.2.below ar.o⟩;have f:U (∀W',Below W1.drew.heap.size W1.drew W'->W'.cell? (ad w.heap.size 0)=some (.bool lf)/\W'.cell? (ad w.heap.size 1)=some (.slice ka n kc)/\W'.cell? (ad w.heap.size 2)=some (.slice ca p cc)/\W'.cell? (ad (w.heap.size+1) 1)=some (.slice kb m kd)/\W'.cell? (ad (w.heap.size+1) 2)=some (.slice cb q cd)):=by intro W' cy;have q0:=b0.drew.below cy;have q1:=b1.drew.below cy;exact⟨by simpa using q0.cell 0,by simpa using q0.cell 1,by simpa using q0.cell 2,by simpa using q1.cell 1,by simpa using q1.cell 2⟩
 clear co cw b0 b1 b2 b6;generalize hR:W1.drew=R at ar cp cq HR f;refine Aj (S:=(λw'=>w'.cell? (ad w.heap.size 0)=some (.bool lf)/\w'.cell? (ad w.heap.size 1)=some (.slice ka n kc)/\w'.cell? (ad w.heap.size 2)=some (.slice ca p cc)/\w'.cell? (ad (w.heap.size+1) 1)=some (.slice kb m kd)/\w'.cell? (ad (w.heap.size+1) 2)=some (.slice cb q cd))) 17 (by kernel_rfl) ?_ (λb=>?_);·(rw[hR];exact f.o _ (Up _ _))
 rw[hR] at b ⊢;clear hR;refine tz 0 rfl ?_;refine tz 1 rfl ?_;refine tz 3 rfl ?_;refine tz 4 rfl ?_;refine tz 6 rfl ?_;refine tz 7 rfl ?_;refine tz 10 rfl ?_;refine tz 11 rfl ?_;refine tz 13 rfl ?_;refine tz 14 rfl ?_;refine Dr 2 9 rfl rfl (by kernel_rfl) (λK h=>?_) (λK h=>?_)
 .skip
  go_simp;have az:Bl R (R.alloc (.cells #[] 9)):=(Up R.heap.size R).alloc (Up R.heap.size R).size _;have bs:(R.alloc (.cells #[] 9)).ownsRow R.heap.size 9 1 (.slice (some (ad R.heap.size 0)) 0 0) 0 []:=by simpa using Aw R 9 R.heap.size 1 (Up R.heap.size R).size
  refine tL h (by exact f.o _ az) ?_;clear h K b;intro b;try simp only[Ay]
  refine Dr 5 9 rfl rfl (by kernel_rfl) (λK h=>?_) (λK h=>?_)
  .skip
   refine A8 (by rfl) (.tmp 7) (.tmp 9) (by rfl) R.heap.size (.slice (some (ad R.heap.size 0)) 0 0) 0 [] (by rfl) bs ka n kc La (by rfl) HR.o.1.2 (HR.o.1.1.below (az)) (by omega) az.size ?_;intro cf au bn cr;rw[UI,List.nil_append] at bn;have P:Bl R au:=az.grown cr az.size (λg e=>(Ah bs g e).1);refine tL h (by exact f.o _ P) ?_;clear h K b;intro b;try simp only[Ay]
   refine Dr 8 9 rfl rfl (by kernel_rfl) (λK h=>?_) (λK h=>?_)
   .skip
    refine A8 (by rfl) (.tmp 10) (.tmp 12) (by rfl) R.heap.size cf n (Ap La) (by rfl) bn kb m kd Lb (by rfl) HR.o.2.1.2 (HR.o.2.1.1.below (P)) (by omega) P.size ?_;intro cx O cl cj;have av:Bl R O:=P.grown cj P.size (λg e=>(Ah bn g e).1);refine tL h (by exact f.o _ av) ?_;clear h K b;intro b;try simp only[Ay]
    refine At 9 rfl (λK h=>?_);go_simp;have I:Bl R (O.alloc (.cells #[] 91)):=av.alloc av.size _;have ap:(O.alloc (.cells #[] 91)).ownsRow R.heap.size 91 3 (.slice (some (ad O.heap.size 0)) 0 0) 0 []:=by simpa using Aw O 91 R.heap.size 3 av.size
    have bo:=Ag cl (Aa O (.cells #[] 91));refine tL h (by exact f.o _ I) ?_;clear h K b;intro b;try simp only[Ay]
    refine At 12 rfl (λK h=>?_);refine By (by rfl) (.tmp 14) (.tmp 16) (by rfl) R.heap.size (.slice (some (ad O.heap.size 0)) 0 0) 0 [] (by rfl) ap ca p cc xa (by rfl) (HR.o.2.2.1.below (I)) (by omega) I.size ?_;intro bm bi N a1;rw[UI,List.nil_append] at N;have C:Bl R bi:=I.grown a1 I.size (λg e=>(Ah ap g e).1);have ba:=AT bo ap (by decide) a1;refine tL h (by exact f.o _ C) ?_;clear h K b;intro b;try simp only[Ay]
    refine At 15 rfl (λK h=>?_);refine By (by rfl) (.tmp 17) (.tmp 19) (by rfl) R.heap.size bm p xa (by rfl) N cb q cd xb (by rfl) (HR.o.2.2.2.below (C)) (by omega) C.size ?_;intro b7 u af ae;have y:Bl R u:=C.grown ae C.size (λg e=>(Ah N g e).1);have V:=AT ba N (by decide) ae;refine tL h (by exact f.o _ y) ?_;clear h K b;intro b;try simp only[Ay]
    obtain⟨aA,cA,eA,_⟩:=Af V;obtain⟨aB,cB,eB,_⟩:=Af af;subst eA eB;have HE:U (u.ownsRow R.heap.size 9 1 (.slice aA (n+m) cA) (n+m) (Ap La++Ap Lb)/\u.ownsRow R.heap.size 91 3 (.slice aB (p+q) cB) (p+q) (xa++xb)/\Bl R u):=⟨V,af,y⟩;have ab:=cq.o.below y;have r0:=ab.cell 0;have r1:=ab.cell 1;have r2:=ab.cell 2;simp at r0 r1 r2;have hf:=λi=>ab.frozen i;refine At 16 rfl (λK h=>?_);go_simp;refine tL h (by exact f.o _ y) ?_;clear h K b;intro b;try simp only[Ay]
    refine At 17 rfl (λK h=>?_);go_simp;refine tM h ?_;clear h K;clear b ab;go_wp2;refine bodyPost_ret (v:=.agg #[.bool lf,.slice aA (n+m) cA,.slice aB (p+q) cB]) (by simp[results,results123,go_sem,r0,r1,r2]) rfl ?_;have hz:=cp.o;exact⟨Ck (ar.o.trans (HE.o.2.2.mono ar.o.size)) _ (by omega) _ _ _,aA,cA,aB,cB,rfl,by rw[Bv];exact AC (AC (AC (Cz HE.o.1 (by omega)) _ _ (by simp)) _ _ (by simp)) _ _ (by simp),AC (AC (AC (Cz HE.o.2.1 (by omega)) _ _ (by simp)) _ _ (by simp)) _ _ (by simp)⟩
   .skip
    go_simp;have aa:Bl R (au.alloc (.cells #[] 91)):=P.alloc P.size _;have bv:(au.alloc (.cells #[] 91)).ownsRow R.heap.size 91 3 (.slice (some (ad au.heap.size 0)) 0 0) 0 []:=by simpa using Aw au 91 R.heap.size 3 P.size
    have ax:=Ag bn (Aa au (.cells #[] 91));refine tL h (by exact f.o _ aa) ?_;clear h K b;intro b;try simp only[Ay]
    refine At 8 rfl (λK h=>?_);refine A8 (by rfl) (.tmp 10) (.tmp 12) (by rfl) R.heap.size cf n (Ap La) (by rfl) ax kb m kd Lb (by rfl) HR.o.2.1.2 (HR.o.2.1.1.below (aa)) (by omega) aa.size ?_;intro cv bx bz bd;have M:Bl R bx:=aa.grown bd aa.size (λg e=>(Ah ax g e).1);have aq:=AT bv ax (by decide) bd;refine tL h (by exact f.o _ M) ?_;clear h K b;intro b;try simp only[Ay]
    refine At 12 rfl (λK h=>?_);refine By (by rfl) (.tmp 14) (.tmp 16) (by rfl) R.heap.size (.slice (some (ad au.heap.size 0)) 0 0) 0 [] (by rfl) aq ca p cc xa (by rfl) (HR.o.2.2.1.below (M)) (by omega) M.size ?_;intro bh bk F aw;rw[UI,List.nil_append] at F;have A:Bl R bk:=M.grown aw M.size (λg e=>(Ah aq g e).1);have a7:=AT bz aq (by decide) aw;refine tL h (by exact f.o _ A) ?_;clear h K b;intro b;try simp only[Ay]
    refine At 15 rfl (λK h=>?_);refine By (by rfl) (.tmp 17) (.tmp 19) (by rfl) R.heap.size bh p xa (by rfl) F cb q cd xb (by rfl) (HR.o.2.2.2.below (A)) (by omega) A.size ?_;intro b9 r aj al;have j:Bl R r:=A.grown al A.size (λg e=>(Ah F g e).1);have Y:=AT a7 F (by decide) al;refine tL h (by exact f.o _ j) ?_;clear h K b;intro b;try simp only[Ay]
    obtain⟨aA,cA,eA,_⟩:=Af Y;obtain⟨aB,cB,eB,_⟩:=Af aj;subst eA eB;have HE:U (r.ownsRow R.heap.size 9 1 (.slice aA (n+m) cA) (n+m) (Ap La++Ap Lb)/\r.ownsRow R.heap.size 91 3 (.slice aB (p+q) cB) (p+q) (xa++xb)/\Bl R r):=⟨Y,aj,j⟩;have ab:=cq.o.below j;have r0:=ab.cell 0;have r1:=ab.cell 1;have r2:=ab.cell 2;simp at r0 r1 r2;have hf:=λi=>ab.frozen i;refine At 16 rfl (λK h=>?_);go_simp;refine tL h (by exact f.o _ j) ?_;clear h K b;intro b;try simp only[Ay]
    refine At 17 rfl (λK h=>?_);go_simp;refine tM h ?_;clear h K;clear b ab;go_wp2;refine bodyPost_ret (v:=.agg #[.bool lf,.slice aA (n+m) cA,.slice aB (p+q) cB]) (by simp[results,results123,go_sem,r0,r1,r2]) rfl ?_;have hz:=cp.o;exact⟨Ck (ar.o.trans (HE.o.2.2.mono ar.o.size)) _ (by omega) _ _ _,aA,cA,aB,cB,rfl,by rw[Bv];exact AC (AC (AC (Cz HE.o.1 (by omega)) _ _ (by simp)) _ _ (by simp)) _ _ (by simp),AC (AC (AC (Cz HE.o.2.1 (by omega)) _ _ (by simp)) _ _ (by simp)) _ _ (by simp)⟩
  .skip
   go_simp;have a0:Bl R ((R.alloc (.cells #[] 9)).alloc (.cells #[] 91)):=az.alloc az.size _;have ci:((R.alloc (.cells #[] 9)).alloc (.cells #[] 91)).ownsRow R.heap.size 91 3 (.slice (some (ad (R.heap.size+1) 0)) 0 0) 0 []:=by simpa using Aw (R.alloc (.cells #[] 9)) 91 R.heap.size 3 az.size
   have a8:=Ag bs (Aa (R.alloc (.cells #[] 9)) (.cells #[] 91));refine tL h (by exact f.o _ a0) ?_;clear h K b;intro b;try simp only[Ay]
   refine At 5 rfl (λK h=>?_);refine A8 (by rfl) (.tmp 7) (.tmp 9) (by rfl) R.heap.size (.slice (some (ad R.heap.size 0)) 0 0) 0 [] (by rfl) a8 ka n kc La (by rfl) HR.o.1.2 (HR.o.1.1.below (a0)) (by omega) a0.size ?_;intro ch cn a5 bq;rw[UI,List.nil_append] at a5;have ac:Bl R cn:=a0.grown bq a0.size (λg e=>(Ah a8 g e).1);have b3:=AT ci a8 (by decide) bq;refine tL h (by exact f.o _ ac) ?_;clear h K b;intro b;try simp only[Ay]
   refine At 8 rfl (λK h=>?_);refine A8 (by rfl) (.tmp 10) (.tmp 12) (by rfl) R.heap.size ch n (Ap La) (by rfl) a5 kb m kd Lb (by rfl) HR.o.2.1.2 (HR.o.2.1.1.below (ac)) (by omega) ac.size ?_;intro ct b4 bt bc;have J:Bl R b4:=ac.grown bc ac.size (λg e=>(Ah a5 g e).1);have an:=AT b3 a5 (by decide) bc;refine tL h (by exact f.o _ J) ?_;clear h K b;intro b;try simp only[Ay]
   refine At 12 rfl (λK h=>?_);refine By (by rfl) (.tmp 14) (.tmp 16) (by rfl) R.heap.size (.slice (some (ad (R.heap.size+1) 0)) 0 0) 0 [] (by rfl) an ca p cc xa (by rfl) (HR.o.2.2.1.below (J)) (by omega) J.size ?_;intro bg bj H a3;rw[UI,List.nil_append] at H;have D:Bl R bj:=J.grown a3 J.size (λg e=>(Ah an g e).1);have a6:=AT bt an (by decide) a3;refine tL h (by exact f.o _ D) ?_;clear h K b;intro b;try simp only[Ay]
   refine At 15 rfl (λK h=>?_);refine By (by rfl) (.tmp 17) (.tmp 19) (by rfl) R.heap.size bg p xa (by rfl) H cb q cd xb (by rfl) (HR.o.2.2.2.below (D)) (by omega) D.size ?_;intro ce t ak ah;have s:Bl R t:=D.grown ah D.size (λg e=>(Ah H g e).1);have W:=AT a6 H (by decide) ah;refine tL h (by exact f.o _ s) ?_;clear h K b;intro b;try simp only[Ay]
   obtain⟨aA,cA,eA,_⟩:=Af W;obtain⟨aB,cB,eB,_⟩:=Af ak;subst eA eB;have HE:U (t.ownsRow R.heap.size 9 1 (.slice aA (n+m) cA) (n+m) (Ap La++Ap Lb)/\t.ownsRow R.heap.size 91 3 (.slice aB (p+q) cB) (p+q) (xa++xb)/\Bl R t):=⟨W,ak,s⟩;have ab:=cq.o.below s;have r0:=ab.cell 0;have r1:=ab.cell 1;have r2:=ab.cell 2;simp at r0 r1 r2;have hf:=λi=>ab.frozen i;refine At 16 rfl (λK h=>?_);go_simp;refine tL h (by exact f.o _ s) ?_;clear h K b;intro b;try simp only[Ay]
   refine At 17 rfl (λK h=>?_);go_simp;refine tM h ?_;clear h K;clear b ab;go_wp2;refine bodyPost_ret (v:=.agg #[.bool lf,.slice aA (n+m) cA,.slice aB (p+q) cB]) (by simp[results,results123,go_sem,r0,r1,r2]) rfl ?_;have hz:=cp.o;exact⟨Ck (ar.o.trans (HE.o.2.2.mono ar.o.size)) _ (by omega) _ _ _,aA,cA,aB,cB,rfl,by rw[Bv];exact AC (AC (AC (Cz HE.o.1 (by omega)) _ _ (by simp)) _ _ (by simp)) _ _ (by simp),AC (AC (AC (Cz HE.o.2.1 (by omega)) _ _ (by simp)) _ _ (by simp)) _ _ (by simp)⟩
 .skip
  go_simp;have br:Bl R (R.alloc (.cells #[] 91)):=(Up R.heap.size R).alloc (Up R.heap.size R).size _;have cs:(R.alloc (.cells #[] 91)).ownsRow R.heap.size 91 3 (.slice (some (ad R.heap.size 0)) 0 0) 0 []:=by simpa using Aw R 91 R.heap.size 3 (Up R.heap.size R).size
  refine tL h (by exact f.o _ br) ?_;clear h K b;intro b;try simp only[Ay]
  refine At 2 rfl (λK h=>?_);go_simp;have a2:Bl R ((R.alloc (.cells #[] 91)).alloc (.cells #[] 9)):=br.alloc br.size _;have bb:((R.alloc (.cells #[] 91)).alloc (.cells #[] 9)).ownsRow R.heap.size 9 1 (.slice (some (ad (R.heap.size+1) 0)) 0 0) 0 []:=by simpa using Aw (R.alloc (.cells #[] 91)) 9 R.heap.size 1 br.size
  have cm:=Ag cs (Aa (R.alloc (.cells #[] 91)) (.cells #[] 9));refine tL h (by exact f.o _ a2) ?_;clear h K b;intro b;try simp only[Ay]
  refine At 5 rfl (λK h=>?_);refine A8 (by rfl) (.tmp 7) (.tmp 9) (by rfl) R.heap.size (.slice (some (ad (R.heap.size+1) 0)) 0 0) 0 [] (by rfl) bb ka n kc La (by rfl) HR.o.1.2 (HR.o.1.1.below (a2)) (by omega) a2.size ?_;intro cg ck a4 bp;rw[UI,List.nil_append] at a4;have Z:Bl R ck:=a2.grown bp a2.size (λg e=>(Ah bb g e).1);have b5:=AT cm bb (by decide) bp;refine tL h (by exact f.o _ Z) ?_;clear h K b;intro b;try simp only[Ay]
  refine At 8 rfl (λK h=>?_);refine A8 (by rfl) (.tmp 10) (.tmp 12) (by rfl) R.heap.size cg n (Ap La) (by rfl) a4 kb m kd Lb (by rfl) HR.o.2.1.2 (HR.o.2.1.1.below (Z)) (by omega) Z.size ?_;intro cu bu bw be;have G:Bl R bu:=Z.grown be Z.size (λg e=>(Ah a4 g e).1);have ao:=AT b5 a4 (by decide) be;refine tL h (by exact f.o _ G) ?_;clear h K b;intro b;try simp only[Ay]
  refine At 12 rfl (λK h=>?_);refine By (by rfl) (.tmp 14) (.tmp 16) (by rfl) R.heap.size (.slice (some (ad R.heap.size 0)) 0 0) 0 [] (by rfl) ao ca p cc xa (by rfl) (HR.o.2.2.1.below (G)) (by omega) G.size ?_;intro bl bf E ay;rw[UI,List.nil_append] at E;have z:Bl R bf:=G.grown ay G.size (λg e=>(Ah ao g e).1);have a9:=AT bw ao (by decide) ay;refine tL h (by exact f.o _ z) ?_;clear h K b;intro b;try simp only[Ay]
  refine At 15 rfl (λK h=>?_);refine By (by rfl) (.tmp 17) (.tmp 19) (by rfl) R.heap.size bl p xa (by rfl) E cb q cd xb (by rfl) (HR.o.2.2.2.below (z)) (by omega) z.size ?_;intro b8 l ag am;have x:Bl R l:=z.grown am z.size (λg e=>(Ah E g e).1);have Q:=AT a9 E (by decide) am;refine tL h (by exact f.o _ x) ?_;clear h K b;intro b;try simp only[Ay]
  obtain⟨aA,cA,eA,_⟩:=Af Q;obtain⟨aB,cB,eB,_⟩:=Af ag;subst eA eB;have HE:U (l.ownsRow R.heap.size 9 1 (.slice aA (n+m) cA) (n+m) (Ap La++Ap Lb)/\l.ownsRow R.heap.size 91 3 (.slice aB (p+q) cB) (p+q) (xa++xb)/\Bl R l):=⟨Q,ag,x⟩;have ab:=cq.o.below x;have r0:=ab.cell 0;have r1:=ab.cell 1;have r2:=ab.cell 2;simp at r0 r1 r2;have hf:=λi=>ab.frozen i;refine At 16 rfl (λK h=>?_);go_simp;refine tL h (by exact f.o _ x) ?_;clear h K b;intro b;try simp only[Ay]
  refine At 17 rfl (λK h=>?_);go_simp;refine tM h ?_;clear h K;clear b ab;go_wp2;refine bodyPost_ret (v:=.agg #[.bool lf,.slice aA (n+m) cA,.slice aB (p+q) cB]) (by simp[results,results123,go_sem,r0,r1,r2]) rfl ?_;have hz:=cp.o;exact⟨Ck (ar.o.trans (HE.o.2.2.mono ar.o.size)) _ (by omega) _ _ _,aA,cA,aB,cB,rfl,by rw[Bv];exact AC (AC (AC (Cz HE.o.1 (by omega)) _ _ (by simp)) _ _ (by simp)) _ _ (by simp),AC (AC (AC (Cz HE.o.2.1 (by omega)) _ _ (by simp)) _ _ (by simp)) _ _ (by simp)⟩
theorem No {c:Nat} {L:List ByteArray} (h:w.ownsRow B 9 1 (.slice a n c) n (Ap L)) (f:n=L.length) (p:∀b,B<=b->S b):KS S w a n c (gt L):=by obtain⟨s,r,e,j,l,o⟩:=BW h f;injection e with q _ m;subst q m;subst f;exact Kj j ⟨l,o⟩ p
def TH {d:Nat}:Ro (d+1)->Ro (d+1)->Ro (d+1)
 | .inl L,.inl M=>.inl (L++M)
 | .inr l,.inr m=>.inr (l++m)
 | x,_=>x
theorem NP (d:Nat) (f j:List ByteArray) (s u:Value) (S:Nat->Prop) (w:World) (H:NG S w (d+1) (.inl f) s) (r:NG S w (d+1) (.inl j) u) (I:f.length<=1000) (E:j.length<=1000) :
  UO 123 #[s,u] w (CE S w (d+1) (.inl (f++j))):=by obtain⟨v,y,N,x,rfl,m,t,q⟩:=H;obtain⟨A,C,J,K,rfl,h,l,o⟩:=r;refine (LN true true v N A J f.length y 0 x j.length C 0 K f j [] [] w m rfl h rfl (Mw.nil _ _) (Mw.nil _ _) ⟨I,E⟩ ⟨by omega,by omega⟩).mono ?_;rintro e w' ⟨G,M,F,z,D,rfl,p,O⟩;exact⟨G,_,_,_,_,_,_,_,rfl,M,F,z,D,by rw[Uz],by rw[<- Uz] at p;exact No p rfl (λb r=>Or.inr (by omega))⟩
theorem Ng {d:Nat} {l:List (Ro d)} {b:Nat} (m:b<w.heap.size) (o:∀j u,xs[j]?=some u->w.cell? (ad b j)=some u) (f:AN (λt v=>NG S w d t v) l xs):Mw w (some (ad b 0)) l.length xs:=
 ⟨f.len,f.cells NG.one,Or.inr ⟨b,0,rfl,m,λj u h=>by rw[UI];exact o j u h⟩⟩
theorem Mp (d:Nat) (o l:List (Ro d)) (C E:Value) (S:Nat->Prop) (w:World) (Z:NG S w (d+1) (.inr o) C) (W:NG S w (d+1) (.inr l) E) (M:o.length<=1000) (Y:l.length<=1000) :
  UO 123 #[C,E] w (CE S w (d+1) (.inr (o++l))):=by obtain⟨H,P,b,O,xs,rfl,⟨m,D⟩,s,hl,Q,G⟩:=Z;obtain⟨kb,I,R,cd,A,rfl,⟨ab,x⟩,h,aa,z,j⟩:=W;refine (LN false false H (some (ad b 0)) kb (some (ad R 0)) 0 P o.length O 0 I l.length cd [] [] xs A w (Or.inl rfl) rfl (Or.inl rfl) rfl (Ng s Q G) (Ng h z j) ⟨by omega,by omega⟩ ⟨M,Y⟩).mono ?_;rintro e w' ⟨p,a1,K,a2,V,rfl,h2,F⟩;have f:=AS F;obtain⟨a3,c3,u,N⟩:=Af F;injection u with u _ U;subst u U;obtain⟨g,rfl,J,y,r⟩:=N (by omega);have hz:=p.size;refine⟨p,_,_,_,_,_,_,_,rfl,a1,K,g,V,xs++A,by rw[Uz],⟨Or.inr (by omega),by rw[Uz];exact f⟩,y,by rw[Uz];omega,r,?_⟩;exact AN.cat (j.mono (λt v q=>NG.wide (NG.below q p) (λb m _=>Or.inl m))) (G.mono (λt v q=>NG.wide (NG.below q p) (λb m _=>Or.inl m)))
variable {L:List ByteArray}{k:Nat}
def Ba (key:ByteArray) (L:List ByteArray):List ByteArray:=L.filter (λk=>!(k.toList == key.toList))
theorem LG (key:ByteArray) (L:List ByteArray):(Ba key L).length<=L.length:=List.length_filter_le _ _
theorem OO {key:ByteArray} (h:k<L.length) (b:((gt L k).toList == key.toList)=false):Ba key (L.take (k+1))=Ba key (L.take k)++[gt L k]:=by
 rw[List.take_add_one,Ut h];have e:gt L k=L[k]:=by unfold gt;rw[Uw,Ut h];rfl
 rw[e] at b ⊢;unfold Ba;rw[List.filter_append];simp[b]
theorem OM {key:ByteArray} (h:k<L.length) (b:((gt L k).toList == key.toList)=true):Ba key (L.take (k+1))=Ba key (L.take k):=by
 rw[List.take_add_one,Ut h];have e:gt L k=L[k]:=by unfold gt;rw[Uw,Ut h];rfl
 rw[e] at b;unfold Ba;rw[List.filter_append];simp[b]
theorem QF (d:Nat) (L:List ByteArray) (v:Value) (key:ByteArray) (S:Nat->Prop) (w:World) (hv:NG S w (d+1) (.inl L) v) (hL:L.length<=1000) :
  UO 88 #[v,.string key] w (CE S w (d+1) (.inl (Ba key L))):=by
 obtain⟨s,r,j,l,rfl,z,⟨y,R⟩,F⟩:=hv;obtain⟨n,V⟩:=gn L.length;rw[<- V] at z y hL ⊢;have W:=Ae z;have H:=Ae V;obtain⟨i9,M,I,K,D⟩:=info_parts info9;have O:=Ae (ai M (ai I (ai K D)));clear z V F M I K D;go_enter func88,ntmps88;go_wp2;have Z:U ((((w.alloc (.cells #[.bool true,.slice s n r,.slice j 0 l] 91)).alloc (.cells #[.bool false,.slice none 0 0,.slice none 0 0] 91)).alloc (.cells #[] 9)).ownsRow (w.heap.size+2) 9 1 (.slice (some (ad (w.heap.size+1+1) 0)) 0 0) 0 (Ap (Ba key (L.take 0)))/\Bx (((w.alloc (.cells #[.bool true,.slice s n r,.slice j 0 l] 91)).alloc (.cells #[.bool false,.slice none 0 0,.slice none 0 0] 91)).alloc (.cells #[] 9)) w.heap.size 91 #[.bool true,.slice s n r,.slice j 0 l]/\Bx (((w.alloc (.cells #[.bool true,.slice s n r,.slice j 0 l] 91)).alloc (.cells #[.bool false,.slice none 0 0,.slice none 0 0] 91)).alloc (.cells #[] 9)) (w.heap.size+1) 91 #[.bool false,.slice none 0 0,.slice none 0 0]/\Bl w (((w.alloc (.cells #[.bool true,.slice s n r,.slice j 0 l] 91)).alloc (.cells #[.bool false,.slice none 0 0,.slice none 0 0] 91)).alloc (.cells #[] 9))):=by refine⟨by simpa[Ap,Ba] using Aw ((w.alloc (.cells #[.bool true,.slice s n r,.slice j 0 l] 91)).alloc (.cells #[.bool false,.slice none 0 0,.slice none 0 0] 91)) 9 (w.heap.size+2) 1 (by simp),((Bx.new w _ _).alloc _).alloc _,?_,((Aa _ _).alloc (by simp) _).alloc (by simp;omega) _⟩;have:=(Bx.new (w.alloc (.cells #[.bool true,.slice s n r,.slice j 0 l] 91)) #[.bool false,.slice none 0 0,.slice none 0 0] 91).alloc (.cells #[] 9);rw[UF] at this;exact this
 generalize ((w.alloc (.cells #[.bool true,.slice s n r,.slice j 0 l] 91)).alloc (.cells #[.bool false,.slice none 0 0,.slice none 0 0] 91)).alloc (.cells #[] 9)=W0 at Z ⊢;go_loopw [5,6] (λq i wr=>∃(k m:Nat) (a:Option Addr) (c:Nat),k<=n/\m<=k/\i=iv k/\q=.slice a m c/\m=(Ba key (L.take k)).length/\wr.ownsRow (w.heap.size+2) 9 1 (.slice a m c) m (Ap (Ba key (L.take k)))/\Bx wr w.heap.size 91 #[.bool true,.slice s n r,.slice j 0 l]/\Bx wr (w.heap.size+1) 91 #[.bool false,.slice none 0 0,.slice none 0 0]/\Bl w wr) (λ_ i _=>n-(intOf i).toNat)
 case atStart=>exact⟨0,0,_,0,Us _,Us _,rfl,rfl,by simp[Ba],Z.o⟩
 case round=>
  obtain⟨k,m,a,c,hk,aa,rfl,rfl,h0,h1,P,Y,h4⟩:=hrel;have h:=Ae (ai h0 (ai h1 (ai P (ai Y h4))));have x1:=P.cell 1;simp at x1;have xz:=P.lt;have yz:=Y.lt;clear h0 h1 P Y h4 Z;by_cases E:k<n
  .obtain⟨b,o,rfl,hc⟩:=(W.o.below h.o.2.2.2.2:Cg wr s n (gt L)).resolve_left (by omega);have s0:=hc k E;have i0:(0:Int)<=(k:Int):=by omega
   have i1:(k:Int)<(n:Int):=by omega
   have C:k<L.length:=by rw[<- H.o];exact E
   have J:U (k<L.length):=C;clear hc C;cases hq:((gt L k).toList == key.toList) with
   | false=>
    have HO:U ((wr.alloc (.cells #[.string (gt L k)] 9)).ownsRow (w.heap.size+2) 9 1 (.slice a m c) m (Ap (Ba key (L.take k)))):=Ag h.o.2.1 (Aa _ _);go_wp2_with (at_builtin;refine wpList_append_own_at _ rfl _ _ 88 rfl (w.heap.size+2) 9 i9 _ 1 16 underlying88 O.o.1 O.o.2.1 O.o.2.2.1 O.o.2.2.2 rfl (by decide) (.slice a m c) m _ rfl HO.o (ad wr.heap.size 0) 1 1 [.string (gt L k)] rfl rfl (cell_one_new _ _ _) (by intro u hu;simp at hu;subst hu;rfl) (by unfold maxLen;omega) (by omega) (by simp;omega) ?_)
    intro v2 w2 x t _ G;obtain⟨a2,c2,rfl,_⟩:=Af x;have HX:U (m+1=(Ba key (L.take (k+1))).length/\w2.ownsRow (w.heap.size+2) 9 1 (.slice a2 (m+1) c2) (m+1) (Ap (Ba key (L.take (k+1))))/\Bx w2 w.heap.size 91 #[.bool true,.slice (some (ad b o)) n r,.slice j 0 l]/\Bx w2 (w.heap.size+1) 91 #[.bool false,.slice none 0 0,.slice none 0 0]/\Bl w w2):=by have f:=h.o;have A:∀g,(Value.slice a m c).ownBlock=some g->w.heap.size+2<=g:=λg e=>(Ah f.2.1 g e).1;have Q:Bl w (wr.alloc (.cells #[.string (gt L k)] 9)):=f.2.2.2.2.alloc f.2.2.2.2.size _;rw[OO J.o hq];refine⟨by rw[Uz,<- f.1];rfl,by rw[Bv];exact x,(f.2.2.1.alloc _).grown t (λe=>by have:=A _ e;omega),(f.2.2.2.1.alloc _).grown t (λe=>by have:=A _ e;omega),Q.grown t (by simp;omega) (λg e=>by have:=A g e;omega)⟩
    clear x t G HO s0 x1;go_wp2;go_roundw;case rel=>exact⟨k+1,m+1,a2,c2,by omega,by omega,by go_num,rfl,HX.o⟩
    case measure=>simp[intOf];omega
   | true=>
    have HX:U (m=(Ba key (L.take (k+1))).length/\wr.ownsRow (w.heap.size+2) 9 1 (.slice a m c) m (Ap (Ba key (L.take (k+1))))/\Bx wr w.heap.size 91 #[.bool true,.slice (some (ad b o)) n r,.slice j 0 l]/\Bx wr (w.heap.size+1) 91 #[.bool false,.slice none 0 0,.slice none 0 0]/\Bl w wr):=by rw[U,OM J.o hq];exact h.o
    go_wp2;go_roundw;case rel=>exact⟨k+1,m,a,c,by omega,by omega,by go_num,rfl,HX.o⟩
    case measure=>simp[intOf];omega
  .have i1:¬ (k:Int)<(n:Int):=by omega
   have ab:=decide_eq_false i1;have N:U (m=(Ba key L).length/\wr.ownsRow (w.heap.size+2) 9 1 (.slice a m c) m (Ap (Ba key L))/\Bl w wr):=by have f:=h.o;have e:L.take k=L:=List.take_of_length_le (by rw[<- H.o];omega);rw[e] at f;exact⟨f.1,f.2.1,f.2.2.2.2⟩
   have p:=h.o.2.2.2.1;have r0:=p.cell 0;have r1:=p.cell 1;have r2:=p.cell 2;simp at r0 r1 r2;have hf:=λi=>p.frozen i;clear p;go_wp2;refine bodyPost_ret (v:=.agg #[.bool true,.slice a m c,.slice none 0 0]) (by simp[results,results88,go_sem,r0,r1,r2]) rfl ⟨Ck N.o.2.2 _ (by omega) _ _ _,_,_,_,_,_,_,_,rfl,a,c,none,0,by rw[N.o.1],?_⟩;rw[<- N.o.1];refine (No (S:=λb=>w.heap.size+2<=b) N.o.2.1 N.o.1 (λb hb=>hb)).keep (by rw[Ey];exact Uq _) (λb hb _=>⟨Or.inr (by omega),Dz _ _ _ _ _ _ (by omega)⟩)
end Go.Proofs.YtcnollkkigiobaaGreat
namespace Go.Proofs.YtcnollkkigiobaaGreat
open Go Go.Proofs.Tryz
variable {d i:Nat}
def An:{d:Nat}->Ro d->Nat
 | 0,t=>t.elim
 | d+1,t=>Cn t
def AH (lo hi:Nat):{d:Nat}->Ro d->Ro d
 | 0,t=>t.elim
 | d+1,t=>Bn lo hi t
def Ax:{d:Nat}->Ro d->Ro d->Ro d
 | 0,t,_=>t.elim
 | d+1,t,u=>TH t u
def AE:(d:Nat)->Ro d->Nat->Prop
 | 0,t,_=>t.elim
 | d+1,.inl L,h=>h=0/\L.length<=4
 | d+1,.inr l,h=>1<=l.length/\l.length<=4/\∃h',h=h'+1/\∀t,t∈l->Aq d false t h'
theorem AE.of:∀{d:Nat} {t:Ro d} {root:Bool} {h:Nat},Aq d root t h->AE d t h
 | 0,t,_,_,_=>t.elim
 | d+1,.inl L,root,h,hb=>⟨hb.1,hb.2.1⟩
 | d+1,.inr l,root,h,hb=>⟨by have:=hb.1;omega,hb.2.1,hb.2.2⟩
theorem AE.full:∀{d:Nat} {t:Ro d} {h:Nat} (root:Bool),AE d t h->2<=An t->Aq d root t h
 | 0,t,_,_,_,_=>t.elim
 | d+1,.inl L,h,root,hb,h2=>⟨hb.1,hb.2,Or.inr h2⟩
 | d+1,.inr l,h,root,hb,h2=>⟨h2,hb.2.1,hb.2.2⟩
theorem Aq.siz:∀{d:Nat} {t:Ro d} {h:Nat},Aq d false t h->2<=An t
 | 0,t,_,_=>t.elim
 | d+1,.inl L,h,hb=>by
  obtain⟨_,_,q⟩:=hb
  rcases q with q|q
  .cases q
  .exact q
 | d+1,.inr l,h,hb=>hb.1
theorem AE.le:∀{d:Nat} {t:Ro d} {h:Nat},AE d t h->An t<=4
 | 0,t,_,_=>t.elim
 | d+1,.inl L,h,hb=>hb.2
 | d+1,.inr l,h,hb=>hb.2.1
theorem AE.join:∀{d:Nat} {t u:Ro d} {h:Nat},AE d t h->AE d u h->An t+An u<=4->AE d (Ax t u) h/\An (Ax t u)=An t+An u
 | 0,t,_,_,_,_,_=>t.elim
 | d+1,.inl L,.inl M,h,hb,hc,hs=>by
  have e:An (d:=d+1) (Ax (d:=d+1) (.inl L) (.inl M))=L.length+M.length:=Uz
  exact⟨⟨hb.1,by have:L.length+M.length<=4:=hs;rw[Uz];exact this⟩,e⟩
 | d+1,.inr l,.inr m,h,hb,hc,hs=>by
  have e:An (d:=d+1) (Ax (d:=d+1) (.inr l) (.inr m))=l.length+m.length:=Uz
  have j : l.length+m.length<=4:=hs
  obtain⟨s,x,o,rfl,r⟩:=hb
  obtain⟨v,y,f,p,q⟩:=hc
  obtain rfl:o=f:=by omega
  refine⟨⟨by rw[Uz];omega,by rw[Uz];exact j,o,rfl,λt b=>?_⟩,e⟩
  rcases List.mem_append.1 b with b|b
  .exact r t b
  .exact q t b
 | d+1,.inl L,.inr m,h,hb,hc,hs=>by
  obtain⟨_,_,f,p,_⟩:=hc
  have:=hb.1
  omega
 | d+1,.inr l,.inl M,h,hb,hc,hs=>by
  obtain⟨_,_,f,p,_⟩:=hb
  have:=hc.1
  omega
theorem AE.cut:∀{d:Nat} {t:Ro d} {h lo hi:Nat},AE d t h->lo<hi->hi<=An t->AE d (AH lo hi t) h/\An (AH lo hi t)=hi-lo
 | 0,t,_,_,_,_,_,_=>t.elim
 | d+1,.inl L,h,lo,hi,hb,h0,h1=>by
  have b : hi<=L.length:=h1
  have p:=hb.2
  have e:((L.take hi).drop lo).length=hi-lo:=by rw[List.length_drop,UE];omega
  exact⟨⟨hb.1,by rw[e];omega⟩,e⟩
 | d+1,.inr l,h,lo,hi,hb,h0,h1=>by
  have b : hi<=l.length:=h1
  obtain⟨o,q,f,rfl,m⟩:=hb
  have e:((l.take hi).drop lo).length=hi-lo:=by rw[List.length_drop,UE];omega
  exact⟨⟨by rw[e];omega,by rw[e];omega,f,rfl,λt j=>m t (List.mem_of_mem_take (List.mem_of_mem_drop j))⟩,e⟩
def C7 {d:Nat}:Option (Ro d)->Nat
 | none=>0
 | some t=>An t
def Ed {d:Nat} (l:List (Ro d)) (i:Nat):List (Ro d):=
 match l[i]? with
 | none=>l
 | some y=>if 2<=An y then l
  else if 0<i/\2<C7 l[i-1]? then
   match l[i-1]? with
   | none=>l
   | some z=>(l.set i (Ax (AH (An z-1) (An z) z) y)).set (i-1) (AH 0 (An z-1) z)
  else if 2<C7 l[i+1]? then
   match l[i+1]? with
   | none=>l
   | some z=>(l.set i (Ax y (AH 0 1 z))).set (i+1) (AH 1 (An z) z)
  else
   match l[(max i 1)-1]?,l[max i 1]? with
   | some u,some v=>l.take ((max i 1)-1)++Ax u v::l.drop ((max i 1)+1)
   | _,_=>l
theorem Ex {l:List (Ro d)} {y:Ro d} (h:l[i]?=some y) (b:2<=An y):Ed l i=l:=by unfold Ed;rw[h];simp only[if_pos b]
theorem Ew {l:List (Ro d)} {y z:Ro d} (h:l[i]?=some y) (b:¬ 2<=An y) (hi:0<i) (f:l[i-1]?=some z) (j:2<An z):Ed l i=(l.set i (Ax (AH (An z-1) (An z) z) y)).set (i-1) (AH 0 (An z-1) z):=by unfold Ed;rw[h,f];simp only[if_neg b,C7];exact if_pos ⟨hi,j⟩
theorem Du {l:List (Ro d)} {y z:Ro d} (h:l[i]?=some y) (b:¬ 2<=An y) (m:¬ (0<i/\2<C7 l[i-1]?)) (f:l[i+1]?=some z) (j:2<An z):Ed l i=(l.set i (Ax y (AH 0 1 z))).set (i+1) (AH 1 (An z) z):=by unfold Ed;rw[h];simp only[if_neg b,if_neg m];rw[f];simp only[C7];exact if_pos j
theorem Dl {l:List (Ro d)} {y u v:Ro d} (h:l[i]?=some y) (f:¬ 2<=An y) (m:¬ (0<i/\2<C7 l[i-1]?)) (o:¬ 2<C7 l[i+1]?) (b:l[(max i 1)-1]?=some u) (j:l[max i 1]?=some v):Ed l i=l.take ((max i 1)-1)++Ax u v::l.drop ((max i 1)+1):=by unfold Ed;rw[h];simp only[if_neg f,if_neg m,if_neg o];rw[b,j]
def Bu (key:ByteArray):(d:Nat)->Ro d->Ro d->Prop
 | 0,t,_=>t.elim
 | d+1,.inl ks,r=>r=.inl (Ba key ks)
 | d+1,.inr l,r=>∃i,Cf l key i/\∃(h:i<l.length) (y:Ro d),Bu key d l[i] y/\r=.inr (Ed (l.set i y) i)
theorem Ie (key:ByteArray) (d:Nat) (b:List ByteArray) (r:Ro (d+1)):Bu key (d+1) (.inl b) r=(r=.inl (Ba key b)):=rfl
theorem IE (key:ByteArray) (d:Nat) (l:List (Ro d)) (r:Ro (d+1)):Bu key (d+1) (.inr l) r=∃i,Cf l key i/\∃(h:i<l.length) (y:Ro d),Bu key d l[i] y/\r=.inr (Ed (l.set i y) i):=rfl
theorem Qs {l:List (Ro d)} {h:Nat} {y:Ro d} (hi:i<l.length) (f:l[i]?=some y) (I:AE d y h) (h1:1<=An y) (b:∀j t,l[j]?=some t->j≠i->Aq d false t h) (h2:2<=l.length) :
  (∀t,t∈Ed l i->Aq d false t h)/\(Ed l i).length<=l.length/\l.length<=(Ed l i).length+1:=by
 by_cases K:2<=An y
 .rw[Ex f K];refine⟨λt o=>?_,Uq _,by omega⟩;obtain⟨j,s,e⟩:=List.getElem_of_mem o;by_cases V:j=i;.subst V;rw[Ut s,e] at f;injection f with f;subst f;exact I.full false K
  .exact b j t (by rw[Ut s,e]) V
 .by_cases O:0<i/\2<C7 l[i-1]?
  .obtain⟨R,H⟩:=O;have x:l[i-1]?=some (l[i-1]'(by omega)):=Ut (by omega);generalize l[i-1]'(by omega)=z at x;rw[x] at H;have p : 2<An z:=H;rw[Ew f K R x p];have A:=b (i-1) z x (by omega);have r:=AE.of A;have C:=r.cut (lo:=An z-1) (hi:=An z) (by omega) (Uq _);have M:=r.cut (lo:=0) (hi:=An z-1) (by omega) (by omega);have G:=C.1.join I (by rw[C.2];omega);refine⟨λt o=>?_,by simp,by simp⟩;obtain⟨j,s,e⟩:=List.getElem_of_mem o;rw[List.getElem_set,List.getElem_set] at e;split at e;.subst e;exact M.1.full false (by rw[M.2];omega)
   .split at e;.subst e;exact G.1.full false (by rw[G.2,C.2];omega)
    .have D : j<l.length:=by simpa using s
     exact b j t (by rw[Ut D,e]) (λe=>by omega)
  .by_cases E:2<C7 l[i+1]?
   .have Q:i+1<l.length:=by
     by_cases q:i+1<l.length;.exact q
     .rw[List.getElem?_eq_none (by omega)] at E;exact absurd E (by simp[C7])
    have x:l[i+1]?=some l[i+1]:=Ut Q;generalize l[i+1]=z at x;rw[x] at E;have p : 2<An z:=E;rw[Du f K O x p];have A:=b (i+1) z x (by omega);have r:=AE.of A;have C:=r.cut (lo:=0) (hi:=1) (by omega) (by omega);have M:=r.cut (lo:=1) (hi:=An z) (by omega) (Uq _);have G:=I.join C.1 (by rw[C.2];omega);refine⟨λt o=>?_,by simp,by simp⟩;obtain⟨j,s,e⟩:=List.getElem_of_mem o;rw[List.getElem_set,List.getElem_set] at e;split at e;.subst e;exact M.1.full false (by rw[M.2];omega)
    .split at e;.subst e;exact G.1.full false (by rw[G.2,C.2];omega)
     .have D : j<l.length:=by simpa using s
      exact b j t (by rw[Ut D,e]) (λe=>by omega)
   .obtain⟨m,U⟩:∃m,m=max i 1:=⟨_,rfl⟩;have P:1<=m/\m<l.length/\(m=i\/(i=0/\m=1)):=by omega
    have F:l[m-1]?=some (l[m-1]'(by omega)):=Ut (by omega);have J:l[m]?=some (l[m]'(by omega)):=Ut (by omega);generalize l[m-1]'(by omega)=u at F;generalize l[m]'(by omega)=v at J;rw[Dl f K O E (u:=u) (v:=v) (by rw[<- U];exact F) (by rw[<- U];exact J),<- U];have N:AE d u h/\AE d v h/\An u+An v=3:=by
     rcases P.2.2 with e|⟨Z,Y⟩;.subst e;rw[J] at f;injection f with f;subst f;have q:=b (m-1) u F (by omega);have q1:=q.siz;have W:¬ 2<An u:=λq=>O ⟨by omega,by rw[F];exact q⟩;exact⟨AE.of q,I,by omega⟩
     .subst Z Y;rw[F] at f;injection f with f;subst f;have q:=b 1 v J (by omega);have q1:=q.siz;have W:¬ 2<An v:=λq=>E (by rw[J];exact q);exact⟨I,AE.of q,by omega⟩
    have c:=N.1.join N.2.1 (by omega);refine⟨λt o=>?_,by simp;omega,by simp;omega⟩;rw[List.mem_append,List.mem_cons] at o;rcases o with o|rfl|o;.obtain⟨j,s,e⟩:=List.getElem_of_mem o;rw[UE] at s;rw[List.getElem_take] at e;exact b j t (by rw[Ut (by omega),e]) (by omega)
    .exact c.1.full false (by rw[c.2];omega)
    .obtain⟨j,s,e⟩:=List.getElem_of_mem o;rw[List.length_drop] at s;rw[List.getElem_drop] at e;exact b (m+1+j) t (by rw[Ut (by omega),e]) (by omega)
theorem Np {key:ByteArray}:∀{L:List ByteArray},BI L->L.length<=(Ba key L).length+1
 | [],_=>by simp
 | x::xs,h=>by
  have j:=List.pairwise_cons.1 h
  unfold Ba
  rw[List.filter_cons]
  split
  .have:=Np (key:=key) (show BI xs from j.2)
   unfold Ba at this
   simp only[UJ]
   omega
  .rename_i q
   have l : (x.toList == key.toList)=true:=by simpa using q
   have o:x.toList=key.toList:=by simpa using l
   have e:xs.filter (λk=>!(k.toList == key.toList))=xs:=by
    rw[List.filter_eq_self]
    intro b m
    have f:=j.1 b m
    have:b.toList≠key.toList:=λe=>by
     rw[o,e] at f
     rw[A4] at f
     cases f
    simpa using this
   rw[e]
   simp
theorem Bu.bal {key:ByteArray}:∀{d:Nat} {t:Ro d} {root:Bool} {h:Nat} {r:Ro d},Aq d root t h->BI (Ab d t)->Bu key d t r->AE d r h/\An r<=An t/\An t<=An r+1
 | 0,t,_,_,_,_,_,_=>t.elim
 | d+1,.inl ks,root,h,r,hb,ha,h1=>by
  rw[Ie] at h1
  subst h1
  have A:=LG key ks
  have x:=Np (key:=key) (show BI ks from ha)
  exact⟨⟨hb.1,by have:=hb.2.1;omega⟩,A,x⟩
 | d+1,.inr l,root,h,r,hb,ha,h1=>by
  obtain⟨v,E,s,rfl,b⟩:=hb
  rw[IE] at h1
  obtain⟨i,D,o,y,z,rfl⟩:=h1
  have p : BI (l.flatMap (Ab d)):=ha
  have m:=b _ (UA o)
  have q:=Bu.bal m (Ca p i o) z
  have F:=m.siz
  have f:=Qs (l:=l.set i y) (i:=i) (h:=s) (y:=y) (by simpa using o) (by simp[o]) q.1 (by omega) (λj t u C=>by
   rw[List.getElem?_set_ne (by omega)] at u
   exact b t (List.mem_of_getElem? u)) (by simpa using v)
  rw[List.length_set] at f
  exact⟨⟨by omega,by omega,s,rfl,f.1⟩,f.2.1,f.2.2⟩
theorem Fh:∀{d:Nat} {t u:Ro d} {h:Nat},AE d t h->AE d u h->Ac d (Ax t u)+1=Ac d t+Ac d u
 | 0,t,_,_,_,_=>t.elim
 | d+1,.inl L,.inl M,h,_,_=>rfl
 | d+1,.inr l,.inr m,h,_,_=>by
  show (1+((l++m).map (Ac d)).sum)+1=(1+(l.map (Ac d)).sum)+(1+(m.map (Ac d)).sum)
  rw[List.map_append,List.sum_append]
  omega
 | d+1,.inl L,.inr m,h,hb,hc=>by
  obtain⟨_,_,b,f,_⟩:=hc
  have:=hb.1
  omega
 | d+1,.inr l,.inl M,h,hb,hc=>by
  obtain⟨_,_,b,f,_⟩:=hb
  have:=hc.1
  omega
theorem Jl:∀{d:Nat} {t:Ro d} (k:Nat),k<=An t->Ac d (AH 0 k t)+Ac d (AH k (An t) t)=Ac d t+1
 | 0,t,_,_=>t.elim
 | d+1,.inl L,k,_=>rfl
 | d+1,.inr l,k,hk=>by
  have b : k<=l.length:=hk
  show (1+(((l.take k).drop 0).map (Ac d)).sum)+(1+(((l.take l.length).drop k).map (Ac d)).sum)=(1+(l.map (Ac d)).sum)+1
  have e:(l.map (Ac d)).sum=((l.take k).map (Ac d)).sum+((l.drop k).map (Ac d)).sum:=by
   rw[<- List.sum_append,<- List.map_append,List.take_append_drop]
  rw[List.drop_zero,UC,e]
  omega
theorem Fj {d:Nat} (f:Ro d->Nat):∀(l:List (Ro d)) (i:Nat) (a b:Ro d),l[i]?=some b->((l.set i a).map f).sum+f b=(l.map f).sum+f a
 | [],i,a,b,h=>by simp at h
 | x::xs,0,a,b,h=>by
  simp at h
  subst h
  simp
  omega
 | x::xs,i+1,a,b,h=>by
  have:=Fj f xs i a b (by simpa using h)
  simp only[List.set_cons_succ,List.map_cons,List.sum_cons]
  omega
theorem Rx (f:Ro d->Nat) (l:List (Ro d)) (m:Nat) (u v:Ro d) (q:1<=m) (h:l[m-1]?=some u) (b:l[m]?=some v):(l.map f).sum=((l.take (m-1)).map f).sum+(f u+f v+((l.drop (m+1)).map f).sum):=by
 have o:=(List.getElem?_eq_some_iff.1 b).1;have e:l=l.take (m-1)++u::v::l.drop (m+1):=by
  have p:l.drop m=v::l.drop (m+1):=by rw[List.drop_eq_getElem_cons o];have:=(List.getElem?_eq_some_iff.1 b).2;rw[this]
  have j:l.drop (m-1)=u::l.drop m:=by rw[List.drop_eq_getElem_cons (show m-1<l.length by omega)];have:=(List.getElem?_eq_some_iff.1 h).2;rw[this,show m-1+1=m by omega]
  rw[<- p,<- j,List.take_append_drop]
 conv=>lhs;rw[e]
 simp;omega
theorem Mf {l:List (Ro d)} {i h:Nat} {y:Ro d} (hi:i<l.length) (b:l[i]?=some y) (G:AE d y h) (Y:1<=An y) (f:∀j t,l[j]?=some t->j≠i->Aq d false t h) (W:2<=l.length) :
  ((Ed l i).map (Ac d)).sum<=(l.map (Ac d)).sum:=by
 by_cases H:2<=An y;.rw[Ex b H];exact Uq _
 .by_cases J:0<i/\2<C7 l[i-1]?;.obtain⟨M,A⟩:=J;have p:l[i-1]?=some (l[i-1]'(by omega)):=Ut (by omega);generalize l[i-1]'(by omega)=z at p;rw[p] at A;have o : 2<An z:=A;rw[Ew b H M p o];have r:=AE.of (f (i-1) z p (by omega));have I:=r.cut (lo:=An z-1) (hi:=An z) (by omega) (Uq _);have O:=Fh I.1 G;have V:=Jl (t:=z) (An z-1) (by omega);have U:=Fj (Ac d) l i (Ax (AH (An z-1) (An z) z) y) y b;have P:=Fj (Ac d) (l.set i (Ax (AH (An z-1) (An z) z) y)) (i-1) (AH 0 (An z-1) z) z (by rw[List.getElem?_set_ne (by omega)];exact p);omega
  .by_cases E:2<C7 l[i+1]?
   .have K:i+1<l.length:=by
     by_cases q:i+1<l.length;.exact q
     .rw[List.getElem?_eq_none (by omega)] at E;exact absurd E (by simp[C7])
    have p:l[i+1]?=some l[i+1]:=Ut K;generalize l[i+1]=z at p;rw[p] at E;have o : 2<An z:=E;rw[Du b H J p o];have r:=AE.of (f (i+1) z p (by omega));have I:=r.cut (lo:=0) (hi:=1) (by omega) (by omega);have O:=Fh G I.1;have V:=Jl (t:=z) 1 (by omega);have U:=Fj (Ac d) l i (Ax y (AH 0 1 z)) y b;have P:=Fj (Ac d) (l.set i (Ax y (AH 0 1 z))) (i+1) (AH 1 (An z) z) z (by rw[List.getElem?_set_ne (by omega)];exact p);omega
   .obtain⟨m,N⟩:∃m,m=max i 1:=⟨_,rfl⟩;have D:1<=m/\m<l.length/\(m=i\/(i=0/\m=1)):=by omega
    have x:l[m-1]?=some (l[m-1]'(by omega)):=Ut (by omega);have C:l[m]?=some (l[m]'(by omega)):=Ut (by omega);generalize l[m-1]'(by omega)=u at x;generalize l[m]'(by omega)=v at C;rw[Dl b H J E (u:=u) (v:=v) (by rw[<- N];exact x) (by rw[<- N];exact C),<- N];have F:AE d u h/\AE d v h:=by
     rcases D.2.2 with e|⟨R,Q⟩;.subst e;rw[C] at b;injection b with b;subst b;exact⟨AE.of (f (m-1) u x (by omega)),G⟩
     .subst R Q;rw[x] at b;injection b with b;subst b;exact⟨G,AE.of (f 1 v C (by omega))⟩
    have O:=Fh F.1 F.2;have s:=Rx (Ac d) l m u v D.1 x C;rw[s,List.map_append,List.sum_append,List.map_cons,List.sum_cons];omega
theorem Bu.nodes {key:ByteArray}:∀{d:Nat} {t:Ro d} {root:Bool} {h:Nat} {r:Ro d},Aq d root t h->BI (Ab d t)->Bu key d t r->Ac d r<=Ac d t
 | 0,t,_,_,_,_,_,_=>t.elim
 | d+1,.inl ks,root,h,r,hb,ha,h1=>by
  rw[Ie] at h1
  subst h1
  exact Uq _
 | d+1,.inr l,root,h,r,hb,ha,h1=>by
  obtain⟨x,E,z,rfl,b⟩:=hb
  rw[IE] at h1
  obtain⟨i,D,o,y,u,rfl⟩:=h1
  have p : BI (l.flatMap (Ab d)):=ha
  have m:=b _ (UA o)
  have q:=Bu.bal m (Ca p i o) u
  have F:=m.siz
  have A:=Bu.nodes m (Ca p i o) u
  have f:=Mf (l:=l.set i y) (i:=i) (h:=z) (y:=y) (by simpa using o) (by simp[o]) q.1 (by omega) (λj t v C=>by
   rw[List.getElem?_set_ne (by omega)] at v
   exact b t (List.mem_of_getElem? v)) (by simpa using x)
  have s:=Fj (Ac d) l i y l[i] (Ut o)
  show 1+_<=1+_
  omega
end Go.Proofs.YtcnollkkigiobaaGreat
namespace Go.Proofs.YtcnollkkigiobaaGreat
open Go Go.Deep Go.RowKit Go.Proofs.Tryz
variable {B c d g n:Nat}{T:Nat->Prop}{e:TypeId}{w:World}{xs:List Value}
theorem FN {sz j:Nat} (h:w.ownsRow B e sz (.slice (some (ad g 0)) n c) n xs) (x:j<n*sz) (u:Value):(w.setCell (ad g j) u).ownsRow B e sz (.slice (some (ad g 0)) n c) n (xs.set j u):=by
 refine⟨by rw[List.length_set];exact h.1,?_⟩;rcases h.2 with ⟨q,_⟩|⟨y,t,f,b,v,m,s,l,p,o⟩;.cases q
 .injection b with b _ r;injection b with b;injection b with b;subst b r;refine .inr ⟨g,c,f.setIfInBounds j u,rfl,v,?_,s,l,by simp[p],?_⟩;.simp[World.setCell,Array.getElem?_modify,m]
  .rw[Array.toList_setIfInBounds,List.take_set,o]
theorem MI {sz:Nat} (h:w.ownsRow B e sz (.slice (some (ad g 0)) n c) n xs) (j:Nat):w.frozen? (ad g j)=false:=by
 rcases h.2 with ⟨q,_⟩|⟨o,m,l,b,s,f,r⟩;.cases q
 .injection b with b _ p;injection b with b;injection b with b;subst b;simp[World.frozen?,f]
theorem AN.set {T:Type} {P:T->Value->Prop} {y:T} {b f j:Value} (l:P y (.agg #[b,f,j])):∀{ts:List T} {xs:List Value} (i:Nat),AN P ts xs->AN P (ts.set i y) (((xs.set (i*3) b).set (i*3+1) f).set (i*3+2) j)
 | [],[],_,_=>by simp[AN]
 | t::ts,a0::a1::a2::xs,0,h=>by
  show AN P (y::ts) (b::f::j::xs)
  exact⟨l,h.2⟩
 | t::ts,a0::a1::a2::xs,i+1,h=>by
  have:=AN.set l i h.2
  rw[show (i+1)*3=i*3+1+1+1 by omega]
  show AN P (t::ts.set i y) (a0::a1::a2::((xs.set (i*3) b).set (i*3+1) f).set (i*3+2) j)
  exact⟨h.1,this⟩
 | [],x::xs,_,h=>h.elim
 | t::ts,[],_,h=>h.elim
 | t::ts,[b],_,h=>h.elim
 | t::ts,[b,f],_,h=>h.elim
def KW (T:Nat->Prop) (w:World) (B d g n c:Nat) (l:List (Ro d)):Prop:=
 ∃xs,w.ownsRow B 91 3 (.slice (some (ad g 0)) n c) n xs/\AN (λt v=>NG (λb=>T b/\b≠g) w d t v) l xs
theorem KW.below {T:Nat->Prop} {w w' : World} {B d g n c:Nat} {l:List (Ro d)} (h:KW T w B d g n c l) (b:Bl w w'):KW T w' B d g n c l:=by obtain⟨xs,j,f⟩:=h;exact⟨xs,Ag j b,f.mono (λt v q=>NG.below q b)⟩
theorem KW.frozen {T:Nat->Prop} {w:World} {B d g n c:Nat} {l:List (Ro d)} (h:KW T w B d g n c l) (j:Nat):w.frozen? (ad g j)=false:=by obtain⟨xs,b,f⟩:=h;exact MI b j
theorem KW.len {T:Nat->Prop} {w:World} {B d g n c:Nat} {l:List (Ro d)} (h:KW T w B d g n c l):l.length=n:=by obtain⟨xs,f,j⟩:=h;have a:=f.1;have b:=j.len;omega
theorem KW.lt {l:List (Ro d)} (h:KW T w B d g n c l):B<=g/\g<w.heap.size:=by obtain⟨xs,b,f⟩:=h;exact Ah b g rfl
theorem KW.get {l:List (Ro d)} (h:KW T w B d g n c l) (i:Nat) (hi:i<l.length) :
  ∃q f p m r o j,w.cell? (ad g (i*3))=some (.bool q)/\w.cell? (ad g (i*3+1))=some (.slice f p m)/\w.cell? (ad g (i*3+2))=some (.slice r o j)/\NG (λb=>T b/\b≠g) w d l[i] (.agg #[.bool q,.slice f p m,.slice r o j]):=by have z:=h.len;obtain⟨xs,u,s⟩:=h;obtain⟨a,y,e,v⟩:=Af u;injection e with e;subst e;obtain⟨x,e,_,_,t⟩:=v (by omega);injection e with e;injection e with e;subst e;exact E3 t s i hi
theorem KW.put {l:List (Ro d)} (h:KW T w B d g n c l) (i:Nat) (hi:i<l.length) {y:Ro d} {o r m:Value} (u:NG (λb=>T b/\b≠g) w d y (.agg #[o,r,m])) :
  KW T (((w.setCell (ad g (i*3)) o).setCell (ad g (i*3+1)) r).setCell (ad g (i*3+2)) m) B d g n c (l.set i y):=by
 have A:=h.len;obtain⟨xs,x,s⟩:=h;have p:=FN (FN (FN x (j:=i*3) (by omega) o) (j:=i*3+1) (by omega) r) (j:=i*3+2) (by omega) m;refine⟨_,p,AN.set ?_ i (s.mono (λt v q=>?_))⟩;.refine u.keep (by simp[World.setCell]) (λb f z=>⟨f,?_⟩);rw[Ur _ _ _ _ (show b≠g from f.2),Ur _ _ _ _ (show b≠g from f.2),Ur _ _ _ _ (show b≠g from f.2)]
 .refine NG.keep q (by simp[World.setCell]) (λb f z=>⟨f,?_⟩);rw[Ur _ _ _ _ (show b≠g from f.2),Ur _ _ _ _ (show b≠g from f.2),Ur _ _ _ _ (show b≠g from f.2)]
theorem KW.ng {S:Nat->Prop} {w':World} {l:List (Ro d)} {r:Option Addr} {s:Nat} (h:KW T w B d g n c l) (C:0<n) (E:w.heap.size<=w'.heap.size) (p:∀b,T b->b<w.heap.size->S b/\w'.heap[b]?=w.heap[b]?) (o:T g):NG S w' (d+1) (.inr l) (.agg #[.bool false,.slice r 0 s,.slice (some (ad g 0)) n c]):=by have y:=h.len;have f:=h.lt;obtain⟨xs,x,z⟩:=h;have m:=AS x;obtain⟨a,J,e,G⟩:=Af x;injection e with e;subst e;obtain⟨I,e,_,_,D⟩:=G (by omega);injection e with e;injection e with e;subst e;refine⟨r,s,g,c,xs,by rw[y],⟨(p g o f.2).1,by rw[y];exact m⟩,by omega,by omega,λj u A=>(World.cell?_of_block (a:=(ad g j)) (p g o f.2).2).trans (D j u A),z.mono (λt v q=>NG.keep q E (λb H F=>p b H.1 F))⟩
end Go.Proofs.YtcnollkkigiobaaGreat
