import Derived.Test.YtcnollkkigiobaaGreatNv1
set_option linter.unusedVariables false
set_option linter.unusedSimpArgs false
set_option maxRecDepth 100000
set_option maxHeartbeats 90000000
namespace Go.Proofs.YtcnollkkigiobaaGreat
open Go Go.Deep Go.RowKit Go.Proofs.Tryz
def CD (x y:Tn):Prop:=x.lf=y.lf/\x.ct=y.ct/\x.kn=y.kn/\x.dn=y.dn/\(∀j,j<x.kn->x.ks j=y.ks j)/\∀j,j<x.dn->x.kd j=y.kd j
theorem Ju (a b:Option Addr) (n m ca cb:Nat) (F N:Nat->Tn) (w:World) (ha:Cb w a n F) (hb:Cb w b m N) (hn:n<=1048576) (hm:m<=1048576) (hF:∀i,i<n->Bg (F i)) (hN:∀i,i<m->Bg (N i)) :
  UO 98 #[.slice a n ca,.slice b m cb] w (O8 w (n=m/\∀i,i<n->CD (F i) (N i))):=by
 by_cases V:n=m
 .subst V;have af:((n:Int) != (n:Int))=false:=by simp
  have HR:U (∀i,i<n->Bg (F i)/\Bg (N i)):=λi hi=>⟨hF i hi,hN i hi⟩;clear hF hN;go_enter func98,ntmps98;go_wp2;go_loopw [5] (λi wr=>∃k:Nat,k<=n/\i=iv k/\(∀j,j<k->CD (F j) (N j))/\Bl w wr) (λi _=>n-(intOf i).toNat)
  case atStart=>exact⟨0,Us _,rfl,λj h=>absurd h (Uu _),Up _ _⟩
  case round=>
   obtain⟨k,hk,rfl,J,l⟩:=hrel;have HA:U (∀j,j<k->CD (F j) (N j)):=J;clear J;by_cases g:k<n
   .have Y:¬ n=0:=by omega
    have ak:U (∀W,Bl w W->Cb W a n F/\Cb W b n N):=λW hW=>⟨ha.below hW,hb.below hW⟩;have av:(0:Int)<=(k:Int):=by omega
    have ax:(k:Int)<(n:Int):=by omega
    rcases ha.below l with h|⟨ba,oa,ea,T⟩;.exact absurd h Y
    rcases hb.below l with h|⟨bb,ob,eb,X⟩;.exact absurd h Y
    subst ea;subst eb;obtain⟨ka,kc,da,dc,c0,c1,c2,c3,c4,c5⟩:=T k g;obtain⟨kb,aq,db,am,g0,g1,g2,g3,g4,g5⟩:=X k g;have HC:U (Cg wr ka (F k).kn (F k).ks/\Rd .i64 wr da (F k).dn (F k).kd/\Cg wr kb (N k).kn (N k).ks/\Rd .i64 wr db (N k).dn (N k).kd):=⟨c4,c5,g4,g5⟩;have M:U (Bl w wr):=l;obtain⟨⟨an,al⟩,⟨ag,ac⟩⟩:=HR.o k g;clear T X ha hb l c4 c5 g4 g5;by_cases s:(F k).lf=(N k).lf
    .rw[<- s] at g0;by_cases v:(F k).ct=(N k).ct
     .rw[<- v] at g3;by_cases u:(F k).kn=(N k).kn
      .rw[<- u] at g1;by_cases x:(F k).dn=(N k).dn
       .rw[<- x] at g2;have Z:U ((F k).lf=(N k).lf/\(F k).ct=(N k).ct/\(F k).kn=(N k).kn/\(F k).dn=(N k).dn):=⟨s,v,u,x⟩;have I:U (Cg wr ka (F k).kn (F k).ks/\Rd .i64 wr da (F k).dn (F k).kd/\Cg wr kb (F k).kn (N k).ks/\Rd .i64 wr db (F k).dn (N k).kd):=by obtain⟨h1,h2,h3,h4⟩:=HC.o;rw[<- u] at h3;rw[<- x] at h4;exact⟨h1,h2,h3,h4⟩
        clear s v u x HC ag ac;go_wp2;go_quiet (fail)
        go_wp2;go_loopw [6] (λi w1=>∃(q z:Nat),q<=(F k).kn/\i=iv q/\(∀j,j<q->(F k).ks j=(N k).ks j)/\w1=wr.drewN z) (λi _=>(F k).kn-(intOf i).toNat)
        case atStart=>exact⟨0,nq,Us _,rfl,λj h=>absurd h (Uu _),rfl⟩
        case round=>
         obtain⟨q,z,hq,rfl,C,rfl⟩:=hrel;have HQ:U (∀j,j<q->(F k).ks j=(N k).ks j):=C;clear C;by_cases H:q<(F k).kn
         .have au:(0:Int)<=(q:Int):=by omega
          have ar:(q:Int)<((F k).kn:Int):=by omega
          rcases I.o.1 with h|⟨b1,o1,K,r⟩;.omega
          rcases I.o.2.2.1 with h|⟨b2,o2,O,t⟩;.omega
          subst K;subst O;have s1:=r q H;have s2:=t q H;clear r t;by_cases A:(F k).ks q=(N k).ks q
          .rw[<- A] at s2;have HS:U ((F k).ks q=(N k).ks q):=A;clear A;go_wp2;go_quiet (fail)
           go_wp2;go_roundw;case rel=>
            refine⟨q+1,_,by omega,by go_num,λj hj=>?_,rfl⟩;by_cases e:j=q;.subst e;exact HS.o
            .exact HQ.o j (by omega)
           case measure=>simp[intOf];omega
          .have d:U (¬ (n=n/\∀i,i<n->CD (F i) (N i))):=λh=>A ((h.2 k g).2.2.2.2.1 q H);have r:(((F k).ks q).toList == ((N k).ks q).toList)=false:=by rw[beq_eq_false_iff_ne];exact λh=>A (DG h)
           have t:(!(((F k).ks q).toList == ((N k).ks q).toList))=true:=by rw[r];rfl
           go_wp2;go_quiet (fail)
           go_wp2;go_ret;exact⟨false,rfl,by simp[d.o],Ai (Ai M.o _) _⟩
         .have e:q=(F k).kn:=by omega
          have ae:U (∀j,j<(F k).kn->(F k).ks j=(N k).ks j):=by rw[<- e];exact HQ.o
          clear HQ;have aa:¬ (q:Int)<((F k).kn:Int):=by omega
          have ah : decide ((q:Int)<((F k).kn:Int))=false:=decide_eq_false aa;clear e hq H;go_wp2;go_loopw [7] (λi w1=>∃(q z:Nat),q<=(F k).dn/\i=iv q/\(∀j,j<q->(F k).kd j=(N k).kd j)/\w1=wr.drewN z) (λi _=>(F k).dn-(intOf i).toNat)
          case atStart=>exact⟨0,z,Us _,rfl,λj h=>absurd h (Uu _),rfl⟩
          case round=>
           obtain⟨p,y,hp,rfl,D,rfl⟩:=hrel;have HP:U (∀j,j<p->(F k).kd j=(N k).kd j):=D;clear D;by_cases G:p<(F k).dn
           .have ao:(0:Int)<=(p:Int):=by omega
            have aw:(p:Int)<((F k).dn:Int):=by omega
            rcases I.o.2.1 with h|⟨b1,o1,K,r⟩;.omega
            rcases I.o.2.2.2 with h|⟨b2,o2,O,t⟩;.omega
            subst K;subst O;have s1:=r p G;have s2:=t p G;clear r t;by_cases A:(F k).kd p=(N k).kd p
            .rw[<- A] at s2;have HS:U ((F k).kd p=(N k).kd p):=A;clear A;go_wp2;go_quiet (fail)
             go_wp2;go_roundw;case rel=>
              refine⟨p+1,_,by omega,by go_num,λj hj=>?_,rfl⟩;by_cases e:j=p;.subst e;exact HS.o
              .exact HP.o j (by omega)
             case measure=>simp[intOf];omega
            .have d:U (¬ (n=n/\∀i,i<n->CD (F i) (N i))):=λh=>A ((h.2 k g).2.2.2.2.2 p G);have r:((F k).kd p != (N k).kd p)=true:=by simpa using A
             go_wp2;go_quiet (fail)
             go_wp2;go_ret;exact⟨false,rfl,by simp[d.o],Ai (Ai M.o _) _⟩
           .have e:p=(F k).dn:=by omega
            have P:U (CD (F k) (N k)):=⟨Z.o.1,Z.o.2.1,Z.o.2.2.1,Z.o.2.2.2,ae.o,by rw[<- e];exact HP.o⟩;have ab:¬ (p:Int)<((F k).dn:Int):=by omega
            have aj : decide ((p:Int)<((F k).dn:Int))=false:=decide_eq_false ab;clear e hp G;go_wp2;go_roundw;case rel=>
             refine⟨k+1,by omega,by go_num,λj hj=>?_,Ai M.o _⟩;by_cases e:j=k;.subst e;exact P.o
             .exact HA.o j (by omega)
            case measure=>simp[intOf];omega
       .have q4:(((F k).dn:Int) != ((N k).dn:Int))=true:=by simp;omega
        have d:U (¬ (n=n/\∀i,i<n->CD (F i) (N i))):=λh=>x (h.2 k g).2.2.2.1;clear s v u x;go_wp2;go_quiet (fail)
        go_wp2;go_ret;exact⟨false,rfl,by simp[d.o],Ai M.o _⟩
      .have q3:(((F k).kn:Int) != ((N k).kn:Int))=true:=by simp;omega
       have x:=u;have d:U (¬ (n=n/\∀i,i<n->CD (F i) (N i))):=λh=>u (h.2 k g).2.2.1;clear s v u x;go_wp2;go_quiet (fail)
       go_wp2;go_ret;exact⟨false,rfl,by simp[d.o],Ai M.o _⟩
     .have q2:((F k).ct != (N k).ct)=true:=by simpa using v
      have x:=v;have u:=v;have d:U (¬ (n=n/\∀i,i<n->CD (F i) (N i))):=λh=>v (h.2 k g).2.1;clear s v u x;go_wp2;go_quiet (fail)
      go_wp2;go_ret;exact⟨false,rfl,by simp[d.o],Ai M.o _⟩
    .have q1:((F k).lf != (N k).lf)=true:=by simpa using s
     have ap : (!((F k).lf == (N k).lf))=true:=by simpa using s
     have x:=s;have u:=s;have v:=s;have d:U (¬ (n=n/\∀i,i<n->CD (F i) (N i))):=λh=>s (h.2 k g).1;clear s v u x;go_wp2;go_quiet (fail)
     go_wp2;go_ret;exact⟨false,rfl,by simp[d.o],Ai M.o _⟩
   .have e:k=n:=by omega
    subst e;go_wp2;go_ret;exact⟨true,rfl,by simp only[true_iff];exact⟨trivial,HA.o⟩,l⟩
 .have af:((n:Int) != (m:Int))=true:=by simp;omega
  have HN:=Ae V;go_enter func98,ntmps98;go_wp2;go_ret;exact⟨false,rfl,by simp[HN.o],Up _ _⟩
def AO (d:Nat) (l:List (Ro d)) (k:Nat):Nat:=((l.take k).map (Ac d)).sum
theorem CA (d:Nat) (l:List (Ro d)):AO d l 0=0:=by simp[AO]
theorem Bc (d:Nat) (l:List (Ro d)) (k:Nat) (h:k<l.length):AO d l (k+1)=AO d l k+Ac d l[k]:=by unfold AO;rw[<- List.take_append_getElem h,List.map_append,List.sum_append];simp
theorem BT (d:Nat) (l:List (Ro d)):AO d l l.length=(l.map (Ac d)).sum:=by unfold AO;rw[UC]
theorem CQ (d:Nat) (l:List (Ro d)) {j k:Nat} (h:j<=k) (b:k<=l.length):AO d l j<=AO d l k:=by
 induction k with
 | zero=>
  have:j=0:=by omega
  subst this;exact Uq _
 | succ k ih=>
  by_cases e:j=k+1;.subst e;exact Uq _
  .have:=ih (by omega) (by omega);rw[Bc d l k (by omega)];omega
theorem CX (d:Nat) (l:List (Ro d)) (k:Nat) (h:k<l.length):AO d l k+Ac d l[k]<=(l.map (Ac d)).sum:=by rw[<- Bc d l k h,<- BT];exact CQ d l (by omega) (Uq _)
theorem Fx (d:Nat) (l:List (Ro d)) (m:Nat) (h:m<(l.map (Ac d)).sum):∃k,∃g:k<l.length,AO d l k<=m/\m<AO d l k+Ac d l[k]:=by
 have b:∀k,k<=l.length->m<AO d l k->∃k,∃g:k<l.length,AO d l k<=m/\m<AO d l k+Ac d l[k]:=by
  intro k;induction k with
  | zero=>intro _ h;rw[CA] at h;omega
  | succ k ih=>
   intro g h;by_cases e:m<AO d l k;.exact ih (by omega) e
   .rw[Bc d l k (by omega)] at h;exact⟨k,by omega,by omega,h⟩
 exact b l.length (Uq _) (by rw[BT];exact h)
def Am (F:Nat->Tn) (base:Int):(d:Nat)->Ro d->Nat->Prop
 | 0,_,_=>False
 | d+1,.inl t,x=>(F x).lf=true/\(F x).kn=t.length/\(∀j,j<t.length->(F x).ks j=gt t j)/\(F x).dn=0/\(F x).ct=(t.length:Int)
 | d
  + 1,.inr l,x=>(F x).lf=false/\(F x).dn=l.length/\(F x).ct=((l.flatMap (Ab d)).length:Int)/\(F x).kn+1=l.length/\(∀k,k<l.length->(F x).kd k=base+((x+1+AO d l k:Nat):Int))/\
  (∀k (h:k+1<l.length),(F x).ks k=gt (Ab d l[k+1]) 0)/\∀k (h:k<l.length),Am F base d l[k] (x+1+AO d l k)
theorem Am.shift {F G:Nat->Tn} {base:Int} {s:Nat}:∀{d:Nat} {t:Ro d} {x:Nat},(∀i,x<=i->i<x+Ac d t->CD (G i) (F (i+s)))->Am G (base+(s:Int)) d t x->Am F base d t (x+s)
 | 0,_,_,_,h=>h
 | d+1,.inl t,x,hFG,h=>by
  obtain⟨r,q,u,v,C⟩:=h
  obtain⟨A,z,p,y,g,D⟩:=hFG x (Uq _) (Nat.lt_succ_self _)
  exact⟨by rw[<- A];exact r,by rw[<- p];exact q,λj I=>by rw[<- g j (by omega)];exact u j I,by rw[<- y];exact v,by rw[<- z];exact C⟩
 | d+1,.inr l,x,hFG,h=>by
  obtain⟨r,q,u,v,C,H,N⟩:=h
  have O:Ac (d+1) (.inr l)=1+(l.map (Ac d)).sum:=rfl
  obtain⟨A,z,p,y,g,D⟩:=hFG x (Uq _) (by omega)
  refine⟨by rw[<- A];exact r,by rw[<- y];exact q,by rw[<- z];exact u,by rw[<- p];exact v,λk b=>?_,λk b=>?_,λk b=>?_⟩
  .rw[<- D k (by omega),C k b]
   omega
  .rw[<- g k (by omega)]
   exact H k b
  .have M:=CX d l k b
   have:=Am.shift (F:=F) (G:=G) (base:=base) (s:=s) (λi K J=>hFG i (by omega) (by omega)) (N k b)
   rwa [show x+1+AO d l k+s=x+s+1+AO d l k by omega] at this
theorem Am.congr {F G:Nat->Tn} {base:Int} {d:Nat} {t:Ro d} {x:Nat} (b:∀i,x<=i->i<x+Ac d t->CD (G i) (F i)) (h:Am G base d t x):Am F base d t x:=
 Am.shift (s:=0) (λi g j=>b i g j) (by simpa using h)
theorem Am.same {F G:Nat->Tn} {base:Int}:∀{d:Nat} {t:Ro d} {x:Nat},Am F base d t x->Am G base d t x->∀i,x<=i->i<x+Ac d t->CD (F i) (G i)
 | 0,_,_,h,_,_,_,_=>h.elim
 | d+1,.inl t,x,h,g,i,hi1,hi2=>by
  have K:Ac (d+1) (.inl t)=1:=rfl
  have e:i=x:=by omega
  subst e
  obtain⟨v,b,y,D,z⟩:=h
  obtain⟨u,r,q,A,s⟩:=g
  exact⟨v.trans u.symm,z.trans s.symm,b.trans r.symm,D.trans A.symm,λj p=>(y j (by omega)).trans (q j (by omega)).symm,λj p=>by omega⟩
 | d+1,.inr l,x,h,g,i,hi1,hi2=>by
  have K:Ac (d+1) (.inr l)=1+(l.map (Ac d)).sum:=rfl
  obtain⟨v,b,y,D,z,H,M⟩:=h
  obtain⟨u,r,q,A,s,J,I⟩:=g
  by_cases e:i=x
  .subst e
   exact⟨v.trans u.symm,y.trans q.symm,by omega,b.trans r.symm,λj p=>(H j (by omega)).trans (J j (by omega)).symm,λj p=>(z j (by omega)).trans (s j (by omega)).symm⟩
  .obtain⟨k,C,O,N⟩:=Fx d l (i-(x+1)) (by omega)
   exact Am.same (M k C) (I k C) i (by omega) (by omega)
theorem Qx {T:Type} (f:T->List ByteArray) (l:List T) (b:0<l.length) (h:∀t,t∈l->0<(f t).length):0<(l.flatMap f).length:=by
 cases l with
 | nil=>simp at b
 | cons t l=>rw[List.flatMap_cons,Uz];have:=h t (by simp);omega
theorem DI:∀{d:Nat} {t:Ro d} {h:Nat},Aq d false t h->0<(Ab d t).length
 | 0,t,_,_=>t.elim
 | d+1,.inl t,h,hb=>by
  obtain⟨_,_,g⟩:=hb
  have:2<=t.length:=by simpa using g
  show 0<t.length
  omega
 | d+1,.inr l,h,hb=>by
  obtain⟨g,_,j,_,b⟩:=hb
  exact Qx _ l (by omega) (λt i=>DI (b t i))
def hd (d:Nat) (l:List (Ro d)) (j:Nat):ByteArray:=match l[j]? with
 | some t=>gt (Ab d t) 0
 | none=>{ data:=#[] }
def Hf (d:Nat) (l:List (Ro d)) (k:Nat):List ByteArray:=(List.range (k-1)).map λj=>hd d l (j+1)
def Iv (a:Int) (d:Nat) (l:List (Ro d)) (k:Nat):List Int:=(List.range k).map λj=>a+((1+AO d l j:Nat):Int)
theorem Mb (d:Nat) (l:List (Ro d)) (k:Nat):(Hf d l k).length=k-1:=by simp[Hf]
theorem MA (a:Int) (d:Nat) (l:List (Ro d)) (k:Nat):(Iv a d l k).length=k:=by simp[Iv]
theorem P6 (d:Nat) (l:List (Ro d)) (k:Nat) (h:0<k):Hf d l (k+1)=Hf d l k++[hd d l k]:=by unfold Hf;rw[show k+1-1=(k-1)+1 by omega,List.range_succ,List.map_append];simp;rw[show k-1+1=k by omega]
theorem OZ (a:Int) (d:Nat) (l:List (Ro d)) (k:Nat):Iv a d l (k+1)=Iv a d l k++[a+((1+AO d l k:Nat):Int)]:=by unfold Iv;rw[List.range_succ,List.map_append];simp
theorem Qc (d:Nat) (l:List (Ro d)) (j:Nat) (h:j<l.length):hd d l j=gt (Ab d l[j]) 0:=by unfold hd;rw[Ut h]
def gi (l:List Int) (i:Nat):Int:=l.getD i 0
theorem SB (a:Int) (d:Nat) (l:List (Ro d)) (k j:Nat) (h:j<k):gi (Iv a d l k) j=a+((1+AO d l j:Nat):Int):=by unfold gi Iv;simp[Uw,h]
theorem Sp (d:Nat) (l:List (Ro d)) (k j:Nat) (h:j<k-1):gt (Hf d l k) j=hd d l (j+1):=by unfold gt Hf;simp[Uw,h]
variable {S:Nat->Prop}{a a':Option Addr}{c' m n:Nat}{e:TypeId}{f:Nat->Value}{v1 v2:Value}{w:World}{xs ys:List Value}
def OU (S:Nat->Prop) (w:World) (a:Option Addr) (n:Nat) (f:Nat->Value):Prop:=
 n=0\/∃b,a=some (ad b 0)/\S b/\b<w.heap.size/\∀i,i<n->w.cell? (ad b i)=some (f i)
theorem OU.mono {S':Nat->Prop} {w':World} (h:OU S w a n f) (r:w.heap.size<=w'.heap.size) (k:∀b,S b->b<w.heap.size->S' b/\w'.heap[b]?=w.heap[b]?):OU S' w' a n f:=by
 rcases h with h|⟨b,rfl,q,l,j⟩;.exact Or.inl h
 .obtain⟨d,p⟩:=k b q l;exact Or.inr ⟨b,rfl,d,by omega,λi g=>by rw[World.cell?_of_block (a:=(ad b i)) p];exact j i g⟩
def ER (e:TypeId) (S:Nat->Prop) (w:World) (a:Option Addr) (n c:Nat) (f:Nat->Value):Prop:=OU S w a n f/\(∃L,w.ownsRow 0 e 1 (.slice a n c) n L)/\∀g,(Value.slice a n c).ownBlock=some g->S g/\g<w.heap.size
theorem ER.mono {e:TypeId} {S S' : Nat->Prop} {w w' : World} {a:Option Addr} {n c:Nat} {f:Nat->Value} (h:ER e S w a n c f) (k:w.heap.size<=w'.heap.size) (j:∀b,S b->b<w.heap.size->S' b/\w'.heap[b]?=w.heap[b]?):ER e S' w' a n c f:=by obtain⟨p,⟨L,l⟩,i⟩:=h;exact⟨p.mono k j,⟨L,AK l (λg d=>(j g (i g d).1 (i g d).2).2)⟩,λg d=>⟨(j g (i g d).1 (i g d).2).1,UB (i g d).2 k⟩⟩
theorem ER.nil:ER e S w none 0 0 f:=⟨Or.inl rfl,⟨[],World.ownsRow_nil _ _ _ _⟩,λg b=>by simp[Value.ownBlock] at b⟩
theorem ER.of {B:Nat} {c:Nat} {L:List Value} (h:OU S w a n f) (i:w.ownsRow B e 1 (.slice a n c) n L) (j:∀b,(Value.slice a n c).ownBlock=some b->S b):ER e S w a n c f:=⟨h,⟨L,Dn i (Us _)⟩,λg d=>⟨j g d,(Ah i g d).2⟩⟩
def TR (S:Nat->Prop) (w:World) (x:Tn) (v0 v1 v2 v3:Value):Prop:=
 v0=.bool x.lf/\v3=iv x.ct/\∃ka kc da dc,v1=.slice ka x.kn kc/\v2=.slice da x.dn dc/\ER 9 S w ka x.kn kc (λi=>.string (x.ks i))/\ER 2 S w da x.dn dc (λi=>iv (x.kd i))
def Bp (S:Nat->Prop) (w:World) (n:Nat) (F:Nat->Tn) (xs:List Value):Prop:=
 xs.length=n*4/\∀i,i<n->∃v0 v1 v2 v3,xs[i*4]?=some v0/\xs[i*4+1]?=some v1/\xs[i*4+2]?=some v2/\xs[i*4+3]?=some v3/\TR S w (F i) v0 v1 v2 v3
theorem Bp.mono {S S' : Nat->Prop} {w w' : World} {n:Nat} {F:Nat->Tn} {xs:List Value} (h:Bp S w n F xs) (g:w.heap.size<=w'.heap.size) (d:∀b,S b->b<w.heap.size->S' b/\w'.heap[b]?=w.heap[b]?):Bp S' w' n F xs:=by refine⟨h.1,λi t=>?_⟩;obtain⟨l,v1,v2,v,q,u,j,x,y,z,ka,kc,da,dc,s,k,p,r⟩:=h.2 i t;exact⟨l,v1,v2,v,q,u,j,x,y,z,ka,kc,da,dc,s,k,p.mono g d,r.mono g d⟩
def DT (n:Nat) (F G:Nat->Tn) (i:Nat):Tn:=if i<n then F i else G (i-n)
theorem Bp.app {F G:Nat->Tn} (h:Bp S w n F xs) (g:Bp S w m G ys):Bp S w (n+m) (DT n F G) (xs++ys):=by
 refine⟨by rw[Uz,h.1,g.1];omega,λi s=>?_⟩;by_cases e:i<n
 .obtain⟨p,v1,v2,j,q,b,d,l,k⟩:=h.2 i e;have r:=h.1;refine⟨p,v1,v2,j,?_,?_,?_,?_,by unfold DT;rw[if_pos e];exact k⟩;.rw[List.getElem?_append_left (by omega)];exact q
  .rw[List.getElem?_append_left (by omega)];exact b
  .rw[List.getElem?_append_left (by omega)];exact d
  .rw[List.getElem?_append_left (by omega)];exact l
 .obtain⟨p,v1,v2,j,q,b,d,l,k⟩:=g.2 (i-n) (by omega);have r:=h.1;refine⟨p,v1,v2,j,?_,?_,?_,?_,by unfold DT;rw[if_neg e];exact k⟩;.rw[List.getElem?_append_right (by omega),show i*4-xs.length=(i-n)*4 by omega];exact q
  .rw[List.getElem?_append_right (by omega),show i*4+1-xs.length=(i-n)*4+1 by omega];exact b
  .rw[List.getElem?_append_right (by omega),show i*4+2-xs.length=(i-n)*4+2 by omega];exact d
  .rw[List.getElem?_append_right (by omega),show i*4+3-xs.length=(i-n)*4+3 by omega];exact l
theorem Bp.one {F:Nat->Tn} {b d:Value} (h:TR S w (F 0) b v1 v2 d):Bp S w 1 F [b,v1,v2,d]:=by
 refine⟨rfl,λi g=>?_⟩;have e:i=0:=by omega
 subst e;exact⟨b,v1,v2,d,rfl,rfl,rfl,rfl,h⟩
theorem Bp.oneCell {F:Nat->Tn} (h:Bp S w n F xs):∀u∈xs,u.oneCell'=true:=by
 intro u d;obtain⟨j,b⟩:=List.mem_iff_getElem?.1 d;have v:=(List.getElem?_eq_some_iff.1 b).1;have z:=h.1;obtain⟨x,v1,v2,y,k,p,g,q,r,t,ka,kc,da,dc,l,i,_⟩:=h.2 (j / 4) (by omega);have s:j=j / 4*4\/j=j / 4*4+1\/j=j / 4*4+2\/j=j / 4*4+3:=by omega
 rcases s with e|e|e|e;.rw[e,k] at b;injection b with b;rw[<- b,r];rfl
 .rw[e,p] at b;injection b with b;rw[<- b,l];rfl
 .rw[e,g] at b;injection b with b;rw[<- b,i];rfl
 .rw[e,q] at b;injection b with b;rw[<- b,t];rfl
theorem OU.rdS {X:Nat->ByteArray} (h:OU S w a n (λi=>.string (X i))):Cg w a n X:=by
 rcases h with h|⟨b,rfl,_,_,g⟩;.exact Or.inl h
 .exact Or.inr ⟨b,0,rfl,λi d=>by rw[UI];exact g i d⟩
theorem OU.rdI {X:Nat->Int} (h:OU S w a n (λi=>iv (X i))):Rd .i64 w a n X:=by
 rcases h with h|⟨b,rfl,_,_,g⟩;.exact Or.inl h
 .exact Or.inr ⟨b,0,rfl,λi d=>by rw[UI];exact g i d⟩
theorem Bp.rd {g:Nat} {F:Nat->Tn} (h:Bp S w n F xs) (b:∀j u,xs[j]?=some u->w.cell? (ad g j)=some u):Cb w (some (ad g 0)) n F:=by
 refine Or.inr ⟨g,0,rfl,λi s=>?_⟩;obtain⟨z,v1,v2,A,p,t,d,v,x,y,ka,kc,da,dc,r,k,l,q⟩:=h.2 i s;subst x r k y;refine⟨ka,kc,da,dc,?_,?_,?_,?_,l.1.rdS,q.1.rdI⟩;.rw[UI];exact b _ _ p
 .rw[UI];exact b _ _ t
 .rw[UI];exact b _ _ d
 .rw[UI];exact b _ _ v
theorem DZ {p v:Nat} {j i:TypeId} {z F:Nat} {x H:Nat} {C s:List Value} (y:w.ownsRow p j z v1 x C) (t:w.ownsRow v i F v2 H s) (A:j≠i):∀g,v1.ownBlock=some g->v2.ownBlock≠some g:=by
 intro g d b;rcases y.2 with ⟨rfl,_⟩|⟨J,D,u,rfl,K,r,_⟩;.simp[Value.ownBlock] at d
 .simp[Value.ownBlock] at d;subst d;rcases t.2 with ⟨rfl,_⟩|⟨I,k,l,rfl,G,h,_⟩;.simp[Value.ownBlock] at b
  .simp[Value.ownBlock] at b;subst b;rw[r] at h;injection h with q;injection q with _ q _;exact A q
def Cp (L:List Int):List Value:=L.map (.int .i64)
theorem DH (L:List Int):(Cp L).length=L.length:=by simp[Cp]
theorem Is (L M:List Int):Cp (L++M)=Cp L++Cp M:=by simp[Cp]
theorem Fd (L:List Int) (i:Nat) (h:i<L.length):(Cp L)[i]?=some (iv (gi L i)):=by simp[Cp,gi,Uw,h]
theorem Bf (L:List ByteArray) (i:Nat) (h:i<L.length):(Ap L)[i]?=some (.string (gt L i)):=by simp[Ap,gt,Uw,h]
theorem AC {base:Nat} {size:Nat} {v:Value} (h:w.ownsRow base e size v n xs) (p:Addr) (u:Value) (r:p.block<base):(w.setCell p u).ownsRow base e size v n xs:=by
 refine⟨h.1,?_⟩;rcases h.2 with q|⟨g,d,b,l,k,i,j⟩;.exact Or.inl q
 .refine Or.inr ⟨g,d,b,l,k,?_,j⟩;rw[Ur _ _ _ _ (show g≠p.block from by omega)];exact i
def SS (nb:Nat) (v1 v2 v3:Value) (b:Nat):Prop:=nb+1<=b/\v1.ownBlock≠some b/\v2.ownBlock≠some b/\v3.ownBlock≠some b
structure De (w wr:World) (nb:Nat) (FT:Array Value) (ct:Int) (ka:Option Addr) (kn kc:Nat) (da:Option Addr) (dn dc:Nat) (ra:Option Addr) (rn rc:Nat) (Lk:List ByteArray) (Dk:List Int) (R:Nat->Tn) (xs:List Value):Prop where
 tb:Bx wr w.heap.size 91 FT
 nbx:Bx wr nb 168 #[.bool false,.slice ka kn kc,.slice da dn dc,iv ct]
 lt:w.heap.size<nb
 own1:wr.ownsRow (nb+1) 9 1 (.slice ka kn kc) kn (Ap Lk)
 own2:wr.ownsRow (nb+1) 2 1 (.slice da dn dc) dn (Cp Dk)
 own3:wr.ownsRow (nb+1) 168 4 (.slice ra rn rc) rn xs
 fl:Bp (SS nb (.slice ka kn kc) (.slice da dn dc) (.slice ra rn rc)) wr rn R xs
 bel:Bl w wr
section
variable {w wr w1 W2 w5:World} {nb:Nat} {FT:Array Value} {ct:Int} {ka:Option Addr} {kn kc:Nat} {da:Option Addr} {dn dc:Nat} {ra:Option Addr} {rn rc:Nat} {Lk:List ByteArray} {Dk:List Int} {R:Nat->Tn} {xs:List Value}
theorem De.below (h:De w wr nb FT ct ka kn kc da dn dc ra rn rc Lk Dk R xs) (d:Bl wr w1):De w w1 nb FT ct ka kn kc da dn dc ra rn rc Lk Dk R xs:=
 ⟨h.tb.below d,h.nbx.below d,h.lt,Ag h.own1 d,Ag h.own2 d,Ag h.own3 d,h.fl.mono d.size (λb i g=>⟨i,d.block b g⟩),h.bel.trans (d.mono h.bel.size)⟩
theorem De.growD (h:De w wr nb FT ct ka kn kc da dn dc ra rn rc Lk Dk R xs) (d:wr.grownBy w5 (Value.slice da dn dc).ownBlock) {p:List Int} (s:w5.ownsRow (nb+1) 2 1 (.slice a' (dn+1) c') (dn+1) (Cp p)) (j:(Value.slice a' (dn+1) c').ownBlock=(Value.slice da dn dc).ownBlock\/(Value.slice a' (dn+1) c').ownBlock=some wr.heap.size) :
  De w (w5.setCell (ad nb 2) (.slice a' (dn+1) c')) nb FT ct ka kn kc a' (dn+1) c' ra rn rc Lk p R xs:=by
 have k:=Ah h.own2;have u:=h.lt;have t:=h.nbx.lt;have r:=d.size;refine⟨(h.tb.grown d (λe=>by have:=k _ e;omega)).other (by simp;omega) _,(h.nbx.grown d (λe=>by have:=k _ e;omega)).set 2 _,h.lt,AC (h.own1.kept d ?_) _ _ (by simp),AC s _ _ (by simp),AC (h.own3.kept d ?_) _ _ (by simp),?_,(h.bel.grown d (by have:=h.bel.size;omega) (λg e=>by have:=k g e;omega)).setCell (by simp;omega) _⟩
 .cases e:(Value.slice ka kn kc).ownBlock with
  | none=>exact Or.inl rfl
  | some g=>exact Or.inr (λq=>DZ h.own1 h.own2 (by decide) g e q.symm)
 .cases e:(Value.slice ra rn rc).ownBlock with
  | none=>exact Or.inl rfl
  | some g=>exact Or.inr (λq=>DZ h.own3 h.own2 (by decide) g e q.symm)
 .refine h.fl.mono (by simpa[World.setCell] using r) (λb i l=>⟨⟨i.1,i.2.1,?_,i.2.2.2⟩,?_⟩)
  .rcases j with e|e;.rw[e];exact i.2.2.1
   .rw[e];intro q;injection q with q;omega
  .rw[Ur _ _ _ _ (show b≠nb from by have:=i.1;omega)];exact d.block b l (λe=>i.2.2.1 e.symm)
theorem De.growK (h:De w wr nb FT ct ka kn kc da dn dc ra rn rc Lk Dk R xs) (d:wr.grownBy w5 (Value.slice ka kn kc).ownBlock) {p:List ByteArray} (s:w5.ownsRow (nb+1) 9 1 (.slice a' (kn+1) c') (kn+1) (Ap p)) (j:(Value.slice a' (kn+1) c').ownBlock=(Value.slice ka kn kc).ownBlock\/(Value.slice a' (kn+1) c').ownBlock=some wr.heap.size) :
  De w (w5.setCell (ad nb 1) (.slice a' (kn+1) c')) nb FT ct a' (kn+1) c' da dn dc ra rn rc p Dk R xs:=by
 have k:=Ah h.own1;have u:=h.lt;have t:=h.nbx.lt;have r:=d.size;refine⟨(h.tb.grown d (λe=>by have:=k _ e;omega)).other (by simp;omega) _,(h.nbx.grown d (λe=>by have:=k _ e;omega)).set 1 _,h.lt,AC s _ _ (by simp),AC (h.own2.kept d ?_) _ _ (by simp),AC (h.own3.kept d ?_) _ _ (by simp),?_,(h.bel.grown d (by have:=h.bel.size;omega) (λg e=>by have:=k g e;omega)).setCell (by simp;omega) _⟩
 .cases e:(Value.slice da dn dc).ownBlock with
  | none=>exact Or.inl rfl
  | some g=>exact Or.inr (λq=>DZ h.own2 h.own1 (by decide) g e q.symm)
 .cases e:(Value.slice ra rn rc).ownBlock with
  | none=>exact Or.inl rfl
  | some g=>exact Or.inr (λq=>DZ h.own3 h.own1 (by decide) g e q.symm)
 .refine h.fl.mono (by simpa[World.setCell] using r) (λb i l=>⟨⟨i.1,?_,i.2.2.1,i.2.2.2⟩,?_⟩)
  .rcases j with e|e;.rw[e];exact i.2.1
   .rw[e];intro q;injection q with q;omega
  .rw[Ur _ _ _ _ (show b≠nb from by have:=i.1;omega)];exact d.block b l (λe=>i.2.1 e.symm)
theorem De.growR (h:De w wr nb FT ct ka kn kc da dn dc ra rn rc Lk Dk R xs) (t:Bl wr w1) (d:w1.grownBy w5 (Value.slice ra rn rc).ownBlock) {G:Nat->Tn} (y:Bp (λb=>wr.heap.size<=b) w1 m G ys) (x:w5.ownsRow (nb+1) 168 4 (.slice a' (rn+m) c') (rn+m) (xs++ys)) (l:(Value.slice a' (rn+m) c').ownBlock=(Value.slice ra rn rc).ownBlock\/(Value.slice a' (rn+m) c').ownBlock=some w1.heap.size) :
  De w w5 nb FT ct ka kn kc da dn dc a' (rn+m) c' Lk Dk (DT rn R G) (xs++ys):=by
 have j:=h.below t;have p:=Ah h.own3;have A:=h.lt;have z:=h.nbx.lt;have u:=d.size;have v:=t.size;have r:=Ah h.own1;have s:=Ah h.own2;refine⟨j.tb.grown d (λe=>by have:=p _ e;omega),j.nbx.grown d (λe=>by have:=p _ e;omega),h.lt,j.own1.kept d ?_,j.own2.kept d ?_,x,?_,j.bel.grown d (by have:=j.bel.size;omega) (λg e=>by have:=p g e;omega)⟩
 .cases e:(Value.slice ka kn kc).ownBlock with
  | none=>exact Or.inl rfl
  | some g=>exact Or.inr (λq=>DZ h.own1 h.own3 (by decide) g e q.symm)
 .cases e:(Value.slice da dn dc).ownBlock with
  | none=>exact Or.inl rfl
  | some g=>exact Or.inr (λq=>DZ h.own2 h.own3 (by decide) g e q.symm)
 .refine Bp.app (j.fl.mono u (λb k i=>⟨⟨k.1,k.2.1,k.2.2.1,?_⟩,d.block b i (λe=>k.2.2.2 e.symm)⟩)) (y.mono u (λb k i=>⟨⟨by omega,λe=>by have:=r _ e;omega,λe=>by have:=s _ e;omega,?_⟩,d.block b i (λe=>by have:=p _ e.symm;omega)⟩))
  .rcases l with e|e;.rw[e];exact k.2.2.2
   .rw[e];intro q;injection q with q;omega
  .rcases l with e|e;.rw[e];intro q;have:=p _ q;omega
   .rw[e];intro q;injection q with q;omega
end
def CI (w:World) (d:Nat) (t:Ro d) (a:Int) (e:Ending) (w' : World):Prop:=
 ∃ra rc G xs,e=.returned (.slice ra (Ac d t) rc)/\Bl w w'/\w'.ownsRow w.heap.size 168 4 (.slice ra (Ac d t) rc) (Ac d t) xs/\Bp (λb=>w.heap.size<=b) w' (Ac d t) G xs/\Am G a d t 0
variable {B c:Nat}{E:Prop}{L:List ByteArray}{Q:Exit->Act->World->Prop}{o:Oper}
theorem Ad {w1:World} (b:Below w.drew.heap.size w.drew w1):Below w.heap.size w w1:=(Up _ _).drew.trans b
theorem Dg {d:Array Oper} {a:Act} {K:Act->World->Prop} (l:o.guard=none) (k:Nat) (i:Nat) (g:Array TypeId)
  (q:o.op=.call { callee:=.value (.func k),args:=#[.tmp i],argTypes:=g }) (u:Value) (s:a.tmps[i]?.getD undef=u) (j:∀b w,(callFunc k b).run prog w=.ok (.enter k b) w)
  (h:UO k #[u] w λe p=>∃r,e=.returned r/\K (a.put o.dst r) p) :
  if Region.wanted o (yielded d a.tmps)=true then Oper.wp prog o a w K Q else E:=by
 have v:Region.wanted o (yielded d a.tmps)=true:=by simp[Region.wanted,l]
 rw[if_pos v];unfold Oper.wp;simp[execOp,q,resolve,invoke,s,go_sem,j];refine h.mono ?_;rintro e p ⟨u,rfl,t⟩;exact t
theorem EU {i:Array Oper} {a:Act} {K:Act->World->Prop} (p:o.guard=none) (x y:Operand)
  (A:o.op=.call { callee:=.builtin .append,args:=#[x,y],argTypes:=#[88,88] }) (B:Nat) (v:Value) (n:Nat) (xs:List Value) (C:a.eval x=v) (d:w.ownsRow B 9 1 v n xs) (ad:Addr) (s:ByteArray) (D:a.eval y=.slice (some ad) 1 1) (F:w.cell? (ad.add 0)=some (.string s)) (T:n<=1048576) (G:B<=w.heap.size)
  (h:∀b g,g.ownsRow B 9 1 b (n+1) (xs++[.string s])->w.grownBy g v.ownBlock->(b.ownBlock=v.ownBlock\/b.ownBlock=some w.heap.size)->K (a.put o.dst b) g) :
  if Region.wanted o (yielded i a.tmps)=true then Oper.wp prog o a w K Q else E:=by
 have M:Region.wanted o (yielded i a.tmps)=true:=by simp[Region.wanted,p]
 rw[if_pos M];obtain⟨I,J,r,q,l⟩:=info_parts info9;obtain⟨b,g,H,z,N,U,O⟩:=run_append_own_at (P:=prog) w B 88 o.type 9 I _ 1 16 underlying88 J r q l rfl (by decide) v n xs d ad 1 1 [.string s] rfl (λj u k=>by
  match j,k with
  | 0,k=>simp at k;subst k;exact F) (by intro u t;simp at t;subst t;rfl) (by unfold maxLen;omega) (by omega) G
 unfold Oper.wp execOp;simp only[A,resolve,invoke,builtin,Sem.run_bind,Sem.run_pure,Result.andThen_ok,List.map_toArray,List.map_cons,List.map_nil,C,D,H];exact h b g z N O
theorem Bo (d:Nat) (l:List (Ro d)) (k:Nat) (h:k<l.length):(Ab d l[k]).length<=(l.flatMap (Ab d)).length:=by have b:=Bk (Ab d) l (k+1);rw[Fy (Ab d) l k h,Uz] at b;omega
theorem Rk (h:w.ownsRow B 9 1 (.slice a n c) n (Ap L)) (t:n=L.length) (r:∀b,B<=b->S b):OU S w a n (λi=>.string (gt L i)):=by
 by_cases d:n=0;.exact Or.inl d
 .obtain⟨a',c',e,q⟩:=Af h;obtain⟨g,l,j,k,p⟩:=q d;injection e with e _ _;subst e;exact Or.inr ⟨g,l,r g j,k,λi s=>p i _ (Bf L i (by omega))⟩
theorem Ll (h:w.ownsRow B 9 1 (.slice a n c) n (Ap L)) (g:n=L.length) (d:∀b,B<=b->S b):ER 9 S w a n c (λi=>.string (gt L i)):=.of (Rk h g d) h (λb e=>d b (Ah h b e).1)
theorem QQ {L:List Int} (h:w.ownsRow B 2 1 (.slice a n c) n (Cp L)) (t:n=L.length) (r:∀b,B<=b->S b):OU S w a n (λi=>iv (gi L i)):=by
 by_cases d:n=0;.exact Or.inl d
 .obtain⟨a',c',e,q⟩:=Af h;obtain⟨g,l,j,k,p⟩:=q d;injection e with e _ _;subst e;exact Or.inr ⟨g,l,r g j,k,λi s=>p i _ (Fd L i (by omega))⟩
theorem P1 {L:List Int} (h:w.ownsRow B 2 1 (.slice a n c) n (Cp L)) (g:n=L.length) (d:∀b,B<=b->S b):ER 2 S w a n c (λi=>iv (gi L i)):=.of (QQ h g d) h (λb e=>d b (Ah h b e).1)
theorem CD.refl (x:Tn):CD x x:=⟨rfl,rfl,rfl,rfl,λ_ _=>rfl,λ_ _=>rfl⟩
theorem Ki {b i:Nat}:(Addr.add (ad b 0) i)=(ad b i):=by
 unfold Addr.add;by_cases h:i=0;.subst h;simp
 .simp[h]
def Ti (w wx:World) (FT:Array Value) (lf:Bool) (m:Nat) (s:Value):Prop:=
 ∃nb,s=pt nb/\w.heap.size<nb/\Bx wx w.heap.size 91 FT/\Bx wx nb 168 #[.bool lf,.slice none 0 0,.slice none 0 0,iv (m:Int)]/\Below w.heap.size w wx
theorem Di:∀(d:Nat) (t:Ro d) (v:Value) (bx:Bool) (h:Nat) (a:Int) (w:World),NA w d t v->Ac d t<=6000->(Ab d t).length<=1099511627776->Aq d bx t h->0<=a->a+(Ac d t:Int)<=100000->UO 80 #[v,iv a] w (CI w d t a):=by
 intro d;induction d with
 | zero=>intro t;exact t.elim
 | succ d ih=>
  intro t v bx h a w hv bm bj b7 ei di;obtain⟨lf,z,N,A,V,P,y,b0⟩:=Av.form hv;have bv:U (∀W,Below w.heap.size w W->UO 58 #[.agg #[.bool lf,.slice z N A,.slice V P y]] W (Fl W (Ab (d+1) t))):=λW hW=>by have q:=GZ (d+1) t v W (NA.below hv hW) bm bj;rw[b0] at q;exact q
  subst b0;obtain⟨m,hm⟩:∃m,m=(Ab (d+1) t).length:=⟨_,rfl⟩;have HK:U (∀W,Below w.heap.size w W->UO 58 #[.agg #[.bool lf,.slice z N A,.slice V P y]] W (λe w'=>∃a1 c1,e=.returned (.slice a1 m c1)/\Below W.heap.size W w')):=λW hW=>(bv.o W hW).mono (λe w' hr=>by obtain⟨a1,c1,e1,_,hb,_⟩:=hr;exact⟨a1,c1,by rw[hm];exact e1,hb⟩)
  clear bv;have HM:U (m=(Ab (d+1) t).length):=hm;have d9:m<=1099511627776:=by rw[hm];exact bj
  clear hm bj;have HV:U (NA w (d+1) t (.agg #[.bool lf,.slice z N A,.slice V P y])):=hv;have b6:U (Aq (d+1) bx t h):=b7;have br:U (Ac (d+1) t<=6000/\a+(Ac (d+1) t:Int)<=100000):=⟨bm,di⟩;have cl:U (∀(t:Ro d) (v:Value) (h:Nat) (a:Int) (w:World),NA w d t v->Ac d t<=6000->(Ab d t).length<=1099511627776->Aq d false t h->0<=a->a+(Ac d t:Int)<=100000->UO 80 #[v,iv a] w (CI w d t a)):=λt v h a w=>ih t v false h a w;have ek:a<=100000:=by omega
  clear hv bm b7 ih di;have a8:U (∀w1:World,Below (w.alloc (.cells #[.bool lf,.slice z N A,.slice V P y] 91)).drew.heap.size (w.alloc (.cells #[.bool lf,.slice z N A,.slice V P y] 91)).drew w1->Bx w1 w.heap.size 91 #[.bool lf,.slice z N A,.slice V P y]/\Below w.heap.size w w1):=λw1 hb=>⟨(Bx.new _ _ _).below (Ad hb),(Aa _ _).trans ((Ad hb).mono (by simp))⟩;have aa:U (∀w1:World,Below ((w.alloc (.cells #[.bool lf,.slice z N A,.slice V P y] 91)).alloc (.cells #[.bool false,.slice none 0 0,.slice none 0 0,iv 0] 168)).drew.heap.size ((w.alloc (.cells #[.bool lf,.slice z N A,.slice V P y] 91)).alloc (.cells #[.bool false,.slice none 0 0,.slice none 0 0,iv 0] 168)).drew w1->Bx w1 w.heap.size 91 #[.bool lf,.slice z N A,.slice V P y]/\Bx w1 (w.heap.size+1) 168 #[.bool false,.slice none 0 0,.slice none 0 0,iv 0]/\Below w.heap.size w w1):=λw1 hb=>by refine⟨((Bx.new _ _ _).alloc _).below (Ad hb),?_,((Aa _ _).alloc (by simp) _).trans ((Ad hb).mono (by simp;omega))⟩;have q:=(Bx.new (w.alloc (.cells #[.bool lf,.slice z N A,.slice V P y] 91)) #[.bool false,.slice none 0 0,.slice none 0 0,iv 0] 168).below (Ad hb);simpa using q
  go_enter func80,ntmps80;go_wp2;go_cut [5] from 8 to 13 (λs5 wx=>Ti w wx #[.bool lf,.slice z N A,.slice V P y] lf m s5)
  case first=>
   go_region_held3 (λw'=>w'.cell? (ad w.heap.size 0)=some (.bool lf)/\w'.cell? (ad w.heap.size 1)=some (.slice z N A)/\w'.cell? (ad w.heap.size 2)=some (.slice V P y)) (go_keep)
    (first
    | (go_at_call 58;refine (HK.o (w.alloc (.cells #[.bool lf,.slice z N A,.slice V P y] 91)).drew (Aa _ _).drew).mono ?_;rintro e w1 ⟨a1,c1,rfl,C⟩;have y0:=(a8.o w1 C).1.cell 0;have y1:=(a8.o w1 C).1.cell 1;have y2:=(a8.o w1 C).1.cell 2;simp at y0 y1 y2)
    | (go_at_call 58;refine (HK.o ((w.alloc (.cells #[.bool lf,.slice z N A,.slice V P y] 91)).alloc (.cells #[.bool false,.slice none 0 0,.slice none 0 0,iv 0] 168)).drew ((Aa _ _).alloc (by simp) _).drew).mono ?_;rintro e w1 ⟨a1,c1,rfl,C⟩;have y0:=(aa.o w1 C).1.cell 0;have y1:=(aa.o w1 C).1.cell 1;have y2:=(aa.o w1 C).1.cell 2;have r0:=(aa.o w1 C).2.1.cell 0;have r1:=(aa.o w1 C).2.1.cell 1;have r2:=(aa.o w1 C).2.1.cell 2;have r3:=(aa.o w1 C).2.1.cell 3;have eh:=(aa.o w1 C).2.1.frozen 0;have ej:=(aa.o w1 C).2.1.frozen 1;have eo:=(aa.o w1 C).2.1.frozen 2;have eq:=(aa.o w1 C).2.1.frozen 3;have rl:=(aa.o w1 C).2.1.lt;simp at y0 y1 y2 r0 r1 r2 r3))
   .go_wp2;go_meet
    case rel=>exact⟨_,rfl,(a8.o w1 C).1.lt,(a8.o w1 C).1.alloc _,Bx.new _ _ _,(a8.o w1 C).2.alloc (a8.o w1 C).2.size _⟩
   .go_wp2;go_meet
    case rel=>obtain⟨q1,q2,q3⟩:=aa.o w1 C;exact⟨_,rfl,by simp,(((q1.other (by simp) _).other (by simp) _).other (by simp) _).other (by simp) _,((((q2.set 0 _).set 1 _).set 2 _).set 3 _),(((q3.setCell (by simp) _).setCell (by simp) _).setCell (by simp) _).setCell (by simp) _⟩
  case rest=>
   obtain⟨nb,rfl,de,au,ab,bk⟩:=hcut;clear a8 aa HK;have HC:U (Bx wc w.heap.size 91 #[.bool lf,.slice z N A,.slice V P y]/\Bx wc nb 168 #[.bool lf,.slice none 0 0,.slice none 0 0,iv (m:Int)]/\Below w.heap.size w wc):=⟨au,ab,bk⟩;have hz:=au.lt;have dv:=ab.lt;rcases t with t|l
   .obtain⟨Y,M,ac,T,e1,dg⟩:=HV.o;injection e1 with e1;simp at e1;obtain⟨rfl,⟨rfl,rfl,rfl⟩,⟨rfl,rfl,rfl⟩⟩:=e1;have dp:U (Cg w z t.length (gt t)):=dg;have dm:m=t.length:=HM.o;rw[<- dm] at dp au HC ⊢;have y0:=au.cell 0;have y1:=au.cell 1;have z0:=ab.cell 0;have z1:=ab.cell 1;have z2:=ab.cell 2;have z3:=ab.cell 3;have zf:=ab.frozen 1;simp at y0 y1 z0 z1 z2 z3;have HO:U ((wc.alloc (.cells #[] 9)).ownsRow wc.heap.size 9 1 (.slice (some (ad wc.heap.size 0)) 0 0) 0 []):=Aw wc 9 wc.heap.size 1 (Uq _);clear au ab bk dm dg HV cl;go_wp2_with (at_builtin;refine AX rfl _ _ rfl wc.heap.size (.slice (some (ad wc.heap.size 0)) 0 0) 0 [] rfl HO.o z m A t rfl HM.o (dp.o.below (HC.o.2.2.trans ((Aa _ _).mono HC.o.2.2.size))) (by omega) (by simp) ?_)
    intro v' w5 ho hg aj;have bl:∀g,(Value.slice (some (ad wc.heap.size 0)) 0 0).ownBlock=some g->g=wc.heap.size:=λg e=>by simpa[Value.ownBlock] using e.symm
    have ah:=(HC.o.2.1.alloc (.cells #[] 9)).grown hg (λe=>by have:=bl _ e;omega);have z0:=ah.cell 0;have z1:=ah.cell 1;have z2:=ah.cell 2;have z3:=ah.cell 3;have zf:=ah.frozen 1;have zl:=ah.lt;simp at z0 z1 z2 z3;obtain⟨a',c',rfl,_⟩:=Af ho;have H5:U (Below w.heap.size w w5/\ER 9 (λb=>wc.heap.size<=b) w5 a' m c' (λi=>.string (gt t i))/\Bx w5 nb 168 #[.bool true,.slice none 0 0,.slice none 0 0,iv (m:Int)]):=
     ⟨(HC.o.2.2.trans ((Aa _ _).mono HC.o.2.2.size)).grown hg (by simp;omega) (λg e=>by have:=bl g e;omega),Ll ho HM.o (λb hb=>hb),ah⟩
    have ef:U (w.heap.size<nb):=de;clear ho hg aj ah y0 y1 HO bl HC;go_wp2;go_ret;have cf:Ac (d+1) (.inl t)=1:=rfl;refine⟨some (ad w5.heap.size 0),1,λ_=>⟨true,t.length,gt t,0,λ_=>0,(t.length:Int)⟩,[.bool true,.slice a' m c',.slice none 0 0,iv (m:Int)],by rw[cf];rfl,?_,?_,?_,?_⟩;.exact ((H5.o.1.setCell (by show w.heap.size<=nb;omega) _).alloc (by simp[World.setCell];have:=H5.o.1.size;omega) _)
    .rw[cf];refine⟨rfl,Or.inr ⟨w5.heap.size,1,#[.bool true,.slice a' m c',.slice none 0 0,iv (m:Int)],rfl,H5.o.1.size,?_,Uq _,by unfold maxLen;omega,rfl,rfl⟩⟩;have q:=Bx.new (w5.setCell (ad nb 1) (.slice a' m c')) #[.bool true,.slice a' m c',.slice none 0 0,iv (m:Int)] 168;rw[show (w5.setCell (ad nb 1) (.slice a' m c')).heap.size=w5.heap.size by simp[World.setCell]] at q;exact q
    .rw[cf];refine Bp.one ⟨rfl,by rw[<- show m=t.length from HM.o],a',c',none,0,by rw[<- show m=t.length from HM.o],rfl,?_,ER.nil⟩;have q:=H5.o.2.1;rw[show m=t.length from HM.o] at q;refine q.mono (by simp[World.setCell]) (λb hs ar=>⟨by show w.heap.size<=b;omega,?_⟩);rw[Below.heap_alloc _ _ _ (by simpa[World.setCell] using ar),Ur _ _ _ _ (show b≠nb by omega)]
    .exact⟨rfl,rfl,λj _=>rfl,rfl,rfl⟩
   .obtain⟨Y,M,b,T,eg,e1,_,b3,d4,hx,hk⟩:=HV.o;injection e1 with e1;simp at e1;obtain⟨rfl,⟨rfl,rfl,rfl⟩,⟨rfl,rfl,rfl⟩⟩:=e1;have c4:l.length<=6000:=by have:=Gj d l;have:=br.o.1;omega
    have bw:U (∀W:World,Below w.heap.size w W->∀k (h:k<l.length),∃lf ka kn kc ca cn cc,W.cell? (ad b (k*3))=some (.bool lf)/\W.cell? (ad b (k*3+1))=some (.slice ka kn kc)/\W.cell? (ad b (k*3+2))=some (.slice ca cn cc)/\NA W d l[k] (.agg #[.bool lf,.slice ka kn kc,.slice ca cn cc])):=by intro W hW k h;obtain⟨lf,ka,kn,kc,ca,cn,cc,h0,h1,h2,h3⟩:=E3 hx hk k h;exact⟨lf,ka,kn,kc,ca,cn,cc,(hW.cell (p:=⟨b,_,none⟩) b3).trans h0,(hW.cell (p:=⟨b,_,none⟩) b3).trans h1,(hW.cell (p:=⟨b,_,none⟩) b3).trans h2,NA.below h3 hW⟩
    have cp:U (∀k (h:k<l.length),∃h',Aq d false l[k] h'):=by obtain⟨_,_,h',_,dl⟩:=b6.o;exact λk hk=>⟨h',dl _ (UA hk)⟩
    have b5:U (m=(l.flatMap (Ab d)).length):=HM.o;have ba:U (1+(l.map (Ac d)).sum<=6000/\a+((1+(l.map (Ac d)).sum:Nat):Int)<=100000):=br.o;clear hx hk HV br HM b6;obtain⟨ln,cj⟩:∃ln,ln=l.length:=⟨_,rfl⟩;rw[<- cj] at d4 c4 au HC ⊢;have bi:U (ln=l.length):=cj;clear cj;have y0:=au.cell 0;simp at y0;go_upto_region 6 with fail
    clear y0;have S1:U (De w (wc.alloc (.cells #[] 168)) nb #[.bool false,.slice z 0 A,.slice (some (ad b 0)) ln y] (m:Int) none 0 0 none 0 0 (some (ad wc.heap.size 0)) 0 0 (Hf d l 0) (Iv a d l 0) (λ_=>TI) []):=by
     refine⟨HC.o.1.alloc _,HC.o.2.1.alloc _,de,?_,?_,Aw wc 168 (nb+1) 4 (by omega),⟨rfl,λi hi=>absurd hi (Uu _)⟩,HC.o.2.2.trans ((Aa _ _).mono HC.o.2.2.size)⟩;.exact World.ownsRow_nil _ _ _ _
     .exact World.ownsRow_nil _ _ _ _
    clear HC au ab bk hz dv;generalize (wc.alloc (.cells #[] 168))=W at S1 ⊢;generalize wc.heap.size=g0 at S1 ⊢;go_wp2;go_loopw [6,7] (λq i wr=>∃(k kn rn:Nat) (ka da ra:Option Addr) (kc dc rc:Nat) (R:Nat->Tn) (xs:List Value),k<=ln/\i=iv k/\q=.slice ra rn rc/\rn=AO d l k/\kn=k-1/\De w wr nb #[.bool false,.slice z 0 A,.slice (some (ad b 0)) ln y] (m:Int) ka kn kc da k dc ra rn rc (Hf d l k) (Iv a d l k) R xs/\∀j (h:j<l.length),j<k->Am R (a+1) d l[j] (AO d l j)) (λ_ i _=>ln-(intOf i).toNat)
    case atStart=>exact⟨0,0,0,_,_,_,_,_,_,_,_,Us _,rfl,rfl,(CA d l).symm,rfl,S1.o,λj _ h=>absurd h (Uu _)⟩
    case round=>
     obtain⟨k,kn,rn,ka,da,ra,kc,dc,rc,R,xs,hk,rfl,rfl,cs,b4,I,bh⟩:=hrel;clear S1;have aw:U (De w wr nb #[.bool false,.slice z 0 A,.slice (some (ad b 0)) ln y] (m:Int) ka kn kc da k dc ra rn rc (Hf d l k) (Iv a d l k) R xs):=I;have HT:U (∀j (h:j<l.length),j<k->Am R (a+1) d l[j] (AO d l j)):=bh;have HP:U (rn=AO d l k/\kn=k-1):=⟨cs,b4⟩;have y2:=I.tb.cell 2;have z0:=I.nbx.cell 0;have z1:=I.nbx.cell 1;have z2:=I.nbx.cell 2;have z3:=I.nbx.cell 3;have cx:=I.nbx.frozen 2;have zl:=I.nbx.lt;have zt:=I.tb.lt;simp at y2 z0 z1 z2 z3;have ea:rn<=6000:=by have h1:=CQ d l (j:=k) (k:=l.length) (by rw[<- bi.o];exact hk) (Uq _);rw[BT] at h1;have:=ba.o.1;omega
     clear I bh cs b4;by_cases ar:k<ln
     .have O:k<l.length:=by rw[<- bi.o];exact ar
      have ed:(0:Int)<=(k:Int):=by omega
      have dd:(k:Int)<(ln:Int):=by omega
      obtain⟨i0,hi,ak,al,am⟩:=info_parts info2;have HI:U (prog.info? 2=some i0/\i0.zero=some (iv 0)/\i0.size=1/\i0.bytes=8):=⟨hi,ak,al,am⟩;clear hi ak al am;have HO:U ((wr.alloc (.cells #[iv (a+1+(rn:Int))] 2)).ownsRow (nb+1) 2 1 (.slice da k dc) k (Cp (Iv a d l k))):=Ag aw.o.own2 (Aa _ _);go_wp2_with (at_builtin;refine wpList_append_own_at _ rfl _ _ 151 rfl (nb+1) 2 i0 (iv 0) 1 8 underlying151 HI.o.1 HI.o.2.1 HI.o.2.2.1 HI.o.2.2.2 rfl (by decide) (.slice da k dc) k _ rfl HO.o (ad wr.heap.size 0) 1 1 [iv (a+1+(rn:Int))] rfl rfl (cell_one_new _ _ _) (by intro u hu;simp at hu;subst hu;rfl) (by unfold maxLen;omega) (by omega) (by simp;omega) ?_)
      intro v' w5 ho hg _ aj;obtain⟨a5,c5,rfl,_⟩:=Af ho;have ah:=(aw.o.nbx.alloc (.cells #[iv (a+1+(rn:Int))] 2)).grown hg (λe=>by have:=Ah aw.o.own2 _ e;omega);have u2:=ah.cell 2;have uf:=ah.frozen 2;have ul:=ah.lt;simp at u2;have H9:U (De w (w5.setCell (ad nb 2) (.slice a5 (k+1) c5)) nb #[.bool false,.slice z 0 A,.slice (some (ad b 0)) ln y] (m:Int) ka kn kc a5 (k+1) c5 ra rn rc (Hf d l k) (Iv a d l (k+1)) R xs):=by
       refine (aw.o.below (Aa _ _)).growD hg ?_ (by simpa using aj);rw[OZ,Is];have e:(a+1+(rn:Int))=a+((1+AO d l k:Nat):Int):=by rw[HP.o.1];omega
       rw[e] at ho;exact ho
      clear ho hg aj ah HO aw y2 z0 z1 z2 z3 cx zl zt;go_upto_region 10 with fail
      generalize (w5.setCell (ad nb 2) (.slice a5 (k+1) c5))=W9 at H9 ⊢;clear u2 uf ul;by_cases b8:k=0
      .have hq:decide ((0:Int)<(k:Int))=false:=decide_eq_false (by omega);have d6:¬ (0:Int)<(k:Int):=by omega
       have HE:U (Hf d l (k+1)=Hf d l k/\kn=k+1-1):=⟨by rw[b8];rfl,by have:=HP.o.2;omega⟩;clear b8;go_upto_region 12 with fail
       obtain⟨an,X,ao,az,H⟩:∃(an : Option Addr) (X ao : Nat),X=k+1-1/\De w W9 nb #[.bool false,.slice z 0 A,.slice (some (ad b 0)) ln y] (m:Int) an X ao a5 (k+1) c5 ra rn rc (Hf d l (k+1)) (Iv a d l (k+1)) R xs:=⟨ka,kn,kc,HE.o.2,by rw[HE.o.1];exact H9.o⟩;have av : U (De w W9 nb #[.bool false,.slice z 0 A,.slice (some (ad b 0)) ln y] (m:Int) an X ao a5 (k+1) c5 ra rn rc (Hf d l (k+1)) (Iv a d l (k+1)) R xs):=H;have ci:U (X=k+1-1):=az;have y2:=H.tb.cell 2;have zt:=H.tb.lt;simp at y2;obtain⟨ae,Y,ag,M,ac,af,T,c0,c1,c2,bb⟩:=bw.o W9 H.bel k O;have b1:U (NA W9 d l[k] (.agg #[.bool ae,.slice Y ag M,.slice ac af T])):=bb;have a9:=CX d l k O;have ax:U (rn+Ac d l[k]<=(l.map (Ac d)).sum):=by show rn+Ac d l[k]<=(l.map (Ac d)).sum;rw[HP.o.1];exact a9
       have ap:U (∀W,NA W d l[k] (.agg #[.bool ae,.slice Y ag M,.slice ac af T])->UO 80 #[.agg #[.bool ae,.slice Y ag M,.slice ac af T],iv (a+1+(rn:Int))] W (CI W d l[k] (a+1+(rn:Int)))):=λW hW=>by
        obtain⟨h',bu⟩:=cp.o k O;refine cl.o l[k] _ h' _ W hW ?_ ?_ bu (by omega) ?_;.have:=ba.o.1;omega
        .have:=Bo d l k O;have:=b5.o;omega
        .have:=ba.o.2;have:=ax.o;omega
       clear H az bb a9 H9;go_wp2_with fail
       refine (ap.o _ b1.o).mono ?_;rintro e w2 ⟨dt,co,G,ys,he,aq,bd,bf,bt⟩;obtain⟨n2,bg⟩:∃n2,n2=Ac d l[k]:=⟨_,rfl⟩;have bn:n2≠0:=by have:=Dj d l[k];omega
       rw[<- bg] at he bd bf;subst he;obtain⟨a6,c6,e6,a4⟩:=Af bd;obtain⟨g2,bs,c9,dk,a0⟩:=a4 bn;injection e6 with e6 bp bq;clear bp bq;rw[<- e6] at bs;subst bs;have bc:U (Am G (a+1+(rn:Int)) d l[k] 0/\n2=Ac d l[k]):=⟨bt,bg⟩;have J:U (Bp (λb=>W9.heap.size<=b) w2 n2 G ys):=bf;have a2:U (∀j u,ys[j]?=some u->w2.cell? (((ad g2 0):Addr).add j)=some u):=λj u hj=>by rw[Ki];exact a0 j u hj
       have r:U (Below W9.heap.size W9 w2):=aq;have c8:n2<=6000:=by have:=ax.o;have:=ba.o.1;omega
       have dw:=av.o.nbx.lt;have cy:=aq.size;obtain⟨i1,hi,ak,al,am⟩:=info_parts info168;have Z:U (prog.info? 168=some i1/\i1.zero=some (.agg #[.bool false,.slice none 0 0,.slice none 0 0,iv 0])/\i1.size=4/\i1.bytes=64):=⟨hi,ak,al,am⟩;clear hi ak al am aq bd bf bt a4 a0 bg y2 c0 c1 c2 ap b1 e6;go_wp2_with (at_builtin;(refine wpList_append_own_at _ rfl _ _ 57 rfl (nb+1) 168 i1 _ 4 64 underlying57 Z.o.1 Z.o.2.1 Z.o.2.2.1 Z.o.2.2.2 rfl (by decide) (.slice ra rn rc) rn xs rfl (av.o.below r.o).own3 (ad g2 0) n2 co ys rfl J.o.1 a2.o J.o.oneCell (by unfold maxLen;omega) (by omega) (by omega) ?_))
       intro v' cr ho hg _ aj;obtain⟨a7,c7,rfl,_⟩:=Af ho;have HX:U (De w cr nb #[.bool false,.slice z 0 A,.slice (some (ad b 0)) ln y] (m:Int) an X ao a5 (k+1) c5 a7 (rn+n2) c7 (Hf d l (k+1)) (Iv a d l (k+1)) (DT rn R G) (xs++ys)):=av.o.growR r.o hg J.o ho aj;have cg:U (∀j (h:j<l.length),j<k+1->Am (DT rn R G) (a+1) d l[j] (AO d l j)):=by
        intro j hj d0;by_cases e:j=k
        .subst e;have q:=Am.shift (F:=DT rn R G) (G:=G) (base:=a+1) (s:=rn) (x:=0) (λi _ hi=>by unfold DT;rw[if_neg (by omega),show i+rn-rn=i by omega];exact CD.refl _) bc.o.1
         rw[<- HP.o.1];simpa using q
        .refine Am.congr (λi _ hi=>?_) (HT.o j hj (by omega));have h1:=Bc d l j hj;have h2:=CQ d l (j:=j+1) (k:=k) (by omega) (by omega);have h3:=HP.o.1;unfold DT;rw[if_pos (by omega)];exact CD.refl _
       have ce:U (rn+n2=AO d l (k+1)):=by show rn+n2=AO d l (k+1);rw[Bc d l k O,HP.o.1,bc.o.2]
       clear ho hg aj av HT bc J a2 r;go_wp2;go_roundw;case rel=>exact⟨k+1,X,rn+n2,an,a5,a7,ao,c5,c7,DT rn R G,xs++ys,by omega,by go_num,rfl,ce.o,ci.o,HX.o,cg.o⟩
       case measure=>simp[intOf];omega
      .have hq:decide ((0:Int)<(k:Int))=true:=decide_eq_true (by omega);have d6:(0:Int)<(k:Int):=by omega
       have dy:0<k:=by omega
       have el:decide (0<k)=true:=decide_eq_true dy;have HE:U (Hf d l (k+1)=Hf d l k++[hd d l k]/\kn+1=k+1-1):=⟨P6 d l k (by omega),by have:=HP.o.2;omega⟩;have eb:kn<=6000:=by have:=HP.o.2;omega
       have y2:=H9.o.tb.cell 2;have z1:=H9.o.nbx.cell 1;have du:=H9.o.nbx.frozen 1;have zl:=H9.o.nbx.lt;have zt:=H9.o.tb.lt;simp at y2 z1;obtain⟨ae,Y,ag,M,ac,af,T,c0,c1,c2,bb⟩:=bw.o W9 H9.o.bel k O;obtain⟨mk,ch⟩:∃mk,mk=(Ab d l[k]).length:=⟨_,rfl⟩;have cb:0<mk:=by obtain⟨h',bu⟩:=cp.o k O;rw[ch];exact DI bu
       have dr:(0:Int)<(mk:Int):=by omega
       have cz:U (∀W,Below W9.heap.size W9 W->UO 58 #[.agg #[.bool ae,.slice Y ag M,.slice ac af T]] W (λe w'=>∃g2 c2,e=.returned (.slice (some (ad g2 0)) mk c2)/\Below W.heap.size W w'/\w'.cell? (ad g2 0)=some (.string (hd d l k)))):=λW hW=>by
        refine (GZ d l[k] _ W (NA.below bb hW) ?_ ?_).mono (λe w' hr=>?_);.have h1:=CX d l k O;have:=ba.o.1;omega
        .have:=Bo d l k O;have:=b5.o;omega
        .obtain⟨a1,c1,e1,dq,C,_⟩:=hr;rw[<- ch] at e1 dq;rcases dq with h0|⟨g,rfl,_,df⟩;.omega
         .refine⟨g,c1,e1,C,?_⟩;rw[Qc d l k O];exact df.cell cb
       have cq:b<W9.heap.size:=Uo _ _ c0;have HF:U (∀W,Below W9.heap.size W9 W->W.cell? (ad nb 1)=some (.slice ka kn kc)/\W.cell? (ad w.heap.size 2)=some (.slice (some (ad b 0)) ln y)/\W.cell? (ad b (k*3))=some (.bool ae)/\W.cell? (ad b (k*3+1))=some (.slice Y ag M)/\W.cell? (ad b (k*3+2))=some (.slice ac af T)):=λW hW=>⟨(hW.cell (p:=⟨nb,_,none⟩) zl).trans z1,(hW.cell (p:=⟨w.heap.size,_,none⟩) zt).trans y2,(hW.cell (p:=⟨b,_,none⟩) cq).trans c0,(hW.cell (p:=⟨b,_,none⟩) cq).trans c1,(hW.cell (p:=⟨b,_,none⟩) cq).trans c2⟩;have ee:b<w.heap.size:=b3;have J:U (∀Wa Wb,Below W9.heap.size W9 Wa->Wa.grownBy Wb (Value.slice ka kn kc).ownBlock->Wb.cell? (ad nb 1)=some (.slice ka kn kc)/\Wb.cell? (ad w.heap.size 2)=some (.slice (some (ad b 0)) ln y)/\Wb.cell? (ad b (k*3))=some (.bool ae)/\Wb.cell? (ad b (k*3+1))=some (.slice Y ag M)/\Wb.cell? (ad b (k*3+2))=some (.slice ac af T)):=λWa Wb hW hg=>by obtain⟨q1,q2,q3,q4,q5⟩:=HF.o Wa hW;have hs:=hW.size;have bo:=Ah H9.o.own1;have d8:=H9.o.lt;exact⟨hg.cell q1 (λe=>by have:=bo nb e.symm;omega),hg.cell q2 (λe=>by have:=bo w.heap.size e.symm;omega),hg.cell q3 (λe=>by have:=bo b e.symm;omega),hg.cell q4 (λe=>by have:=bo b e.symm;omega),hg.cell q5 (λe=>by have:=bo b e.symm;omega)⟩
       have HW:U (De w W9 nb #[.bool false,.slice z 0 A,.slice (some (ad b 0)) ln y] (m:Int) ka kn kc a5 (k+1) c5 ra rn rc (Hf d l k) (Iv a d l (k+1)) R xs):=H9.o;clear bb ch;go_wp2;refine Aj (S:=λw'=>w'.cell? (ad nb 1)=some (.slice ka kn kc)/\w'.cell? (ad w.heap.size 2)=some (.slice (some (ad b 0)) ln y)/\w'.cell? (ad b (k*3))=some (.bool ae)/\w'.cell? (ad b (k*3+1))=some (.slice Y ag M)/\w'.cell? (ad b (k*3+2))=some (.slice ac af T)) 13 (by kernel_rfl) ?_ (λD=>?_);·((try dsimp only);(first|exact HF.o _ (Up _ _).drew|exact HF.o _ r.o|exact HF.o _ (r.o.trans ((Aa _ _).mono r.o.size))|exact J.o _ _ (r.o.trans ((Aa _ _).mono r.o.size)) ay))
       refine tz 0 rfl ?_;refine tz 1 rfl ?_;refine tz 2 rfl ?_;refine tz 3 rfl ?_;refine tz 4 rfl ?_;refine tz 5 rfl ?_;refine tz 6 rfl ?_;refine At 7 rfl (λK hK=>?_);refine Dg (by rfl) 58 49 _ (by rfl) (.agg #[.bool ae,.slice Y ag M,.slice ac af T]) (by rfl) (λ_ _=>by rfl) ?_;refine (cz.o _ (Up _ _).drew).mono ?_;rintro e w2 ⟨en,ep,rfl,aq,cu⟩;refine⟨_,rfl,?_⟩;have r:U (Below W9.heap.size W9 w2):=(Up _ _).drew.trans aq;have db:=r.o.size;refine tL hK (by (try dsimp only);(first|exact HF.o _ (Up _ _).drew|exact HF.o _ r.o|exact HF.o _ (r.o.trans ((Aa _ _).mono r.o.size))|exact J.o _ _ (r.o.trans ((Aa _ _).mono r.o.size)) ay)) ?_;clear hK K D;intro D;try simp only[Ay]
       refine tz 8 rfl ?_;refine At 9 rfl (λK hK=>?_);go_simp;refine tL hK (by (try dsimp only);(first|exact HF.o _ (Up _ _).drew|exact HF.o _ r.o|exact HF.o _ (r.o.trans ((Aa _ _).mono r.o.size))|exact J.o _ _ (r.o.trans ((Aa _ _).mono r.o.size)) ay)) ?_;clear hK K D;intro D;try simp only[Ay]
       refine At 10 rfl (λK hK=>?_);go_simp;refine tL hK (by (try dsimp only);(first|exact HF.o _ (Up _ _).drew|exact HF.o _ r.o|exact HF.o _ (r.o.trans ((Aa _ _).mono r.o.size))|exact J.o _ _ (r.o.trans ((Aa _ _).mono r.o.size)) ay)) ?_;clear hK K D;intro D;try simp only[Ay]
       refine At 11 rfl (λK hK=>?_);refine EU (by rfl) (.tmp 44) (.tmp 53) (by rfl) (nb+1) (.slice ka kn kc) kn _ (by rfl) (Ag (HW.o.below r.o).own1 (Aa _ _)) (ad w2.heap.size 0) (hd d l k) (by rfl) (cell_one_new w2 (.string (hd d l k)) 9 0 _ rfl) (by omega) (by simp;omega) ?_;intro v3 w3 ck ay cd;obtain⟨a3,c3,rfl,_⟩:=Af ck;have cm:U (Below W9.heap.size W9 (w2.alloc (.cells #[.string (hd d l k)] 9))):=r.o.trans ((Aa _ _).mono r.o.size);have b2:=((HW.o.below cm.o).nbx.grown ay (λe=>by have:=Ah HW.o.own1 _ e;omega));have dh:=b2.cell 1;have d1:=b2.frozen 1;have d2:=b2.lt;simp at dh;refine tL hK (by (try dsimp only);(first|exact HF.o _ (Up _ _).drew|exact HF.o _ r.o|exact HF.o _ (r.o.trans ((Aa _ _).mono r.o.size))|exact J.o _ _ (r.o.trans ((Aa _ _).mono r.o.size)) ay)) ?_;clear hK K D;intro D;try simp only[Ay]
       refine tz 12 rfl ?_;refine At 13 rfl (λK hK=>?_);go_simp;refine tM hK ?_;clear hK K;have HX:U (De w (w3.setCell (ad nb 1) (.slice a3 (kn+1) c3)) nb #[.bool false,.slice z 0 A,.slice (some (ad b 0)) ln y] (m:Int) a3 (kn+1) c3 a5 (k+1) c5 ra rn rc (Hf d l (k+1)) (Iv a d l (k+1)) R xs):=by refine (HW.o.below cm.o).growK ay ?_ (by simpa using cd);rw[HE.o.1,Bv];exact ck
       clear ck ay cd b2;clear D;go_upto_region 12 with fail
       obtain⟨an,X,ao,az,H⟩:∃(an : Option Addr) (X ao : Nat),X=k+1-1/\De w (w3.setCell (ad nb 1) (.slice a3 (kn+1) c3)) nb #[.bool false,.slice z 0 A,.slice (some (ad b 0)) ln y] (m:Int) an X ao a5 (k+1) c5 ra rn rc (Hf d l (k+1)) (Iv a d l (k+1)) R xs:=⟨a3,kn+1,c3,HE.o.2,HX.o⟩;clear HX HW cm HF J cz r dh d1 d2 y2 z1 du zl zt c0 c1 c2 cu aq db cb dr;clear H9;have H9:U True:=trivial;generalize (w3.setCell (ad nb 1) (.slice a3 (kn+1) c3))=WX at H ⊢;have av : U (De w WX nb #[.bool false,.slice z 0 A,.slice (some (ad b 0)) ln y] (m:Int) an X ao a5 (k+1) c5 ra rn rc (Hf d l (k+1)) (Iv a d l (k+1)) R xs):=H;have ci:U (X=k+1-1):=az;have y2:=H.tb.cell 2;have zt:=H.tb.lt;simp at y2;obtain⟨ae,Y,ag,M,ac,af,T,c0,c1,c2,bb⟩:=bw.o WX H.bel k O;have b1:U (NA WX d l[k] (.agg #[.bool ae,.slice Y ag M,.slice ac af T])):=bb;have a9:=CX d l k O;have ax:U (rn+Ac d l[k]<=(l.map (Ac d)).sum):=by show rn+Ac d l[k]<=(l.map (Ac d)).sum;rw[HP.o.1];exact a9
       have ap:U (∀W,NA W d l[k] (.agg #[.bool ae,.slice Y ag M,.slice ac af T])->UO 80 #[.agg #[.bool ae,.slice Y ag M,.slice ac af T],iv (a+1+(rn:Int))] W (CI W d l[k] (a+1+(rn:Int)))):=λW hW=>by
        obtain⟨h',bu⟩:=cp.o k O;refine cl.o l[k] _ h' _ W hW ?_ ?_ bu (by omega) ?_;.have:=ba.o.1;omega
        .have:=Bo d l k O;have:=b5.o;omega
        .have:=ba.o.2;have:=ax.o;omega
       clear H az bb a9 H9;go_wp2_with fail
       refine (ap.o _ b1.o).mono ?_;rintro e w2 ⟨dt,co,G,ys,he,aq,bd,bf,bt⟩;obtain⟨n2,bg⟩:∃n2,n2=Ac d l[k]:=⟨_,rfl⟩;have bn:n2≠0:=by have:=Dj d l[k];omega
       rw[<- bg] at he bd bf;subst he;obtain⟨a6,c6,e6,a4⟩:=Af bd;obtain⟨g2,bs,c9,dk,a0⟩:=a4 bn;injection e6 with e6 bp bq;clear bp bq;rw[<- e6] at bs;subst bs;have bc:U (Am G (a+1+(rn:Int)) d l[k] 0/\n2=Ac d l[k]):=⟨bt,bg⟩;have J:U (Bp (λb=>WX.heap.size<=b) w2 n2 G ys):=bf;have a2:U (∀j u,ys[j]?=some u->w2.cell? (((ad g2 0):Addr).add j)=some u):=λj u hj=>by rw[Ki];exact a0 j u hj
       have r:U (Below WX.heap.size WX w2):=aq;have c8:n2<=6000:=by have:=ax.o;have:=ba.o.1;omega
       have dw:=av.o.nbx.lt;have cy:=aq.size;obtain⟨i1,hi,ak,al,am⟩:=info_parts info168;have Z:U (prog.info? 168=some i1/\i1.zero=some (.agg #[.bool false,.slice none 0 0,.slice none 0 0,iv 0])/\i1.size=4/\i1.bytes=64):=⟨hi,ak,al,am⟩;clear hi ak al am aq bd bf bt a4 a0 bg y2 c0 c1 c2 ap b1 e6;go_wp2_with (at_builtin;(refine wpList_append_own_at _ rfl _ _ 57 rfl (nb+1) 168 i1 _ 4 64 underlying57 Z.o.1 Z.o.2.1 Z.o.2.2.1 Z.o.2.2.2 rfl (by decide) (.slice ra rn rc) rn xs rfl (av.o.below r.o).own3 (ad g2 0) n2 co ys rfl J.o.1 a2.o J.o.oneCell (by unfold maxLen;omega) (by omega) (by omega) ?_))
       intro v' cr ho hg _ aj;obtain⟨a7,c7,rfl,_⟩:=Af ho;have HX:U (De w cr nb #[.bool false,.slice z 0 A,.slice (some (ad b 0)) ln y] (m:Int) an X ao a5 (k+1) c5 a7 (rn+n2) c7 (Hf d l (k+1)) (Iv a d l (k+1)) (DT rn R G) (xs++ys)):=av.o.growR r.o hg J.o ho aj;have cg:U (∀j (h:j<l.length),j<k+1->Am (DT rn R G) (a+1) d l[j] (AO d l j)):=by
        intro j hj d0;by_cases e:j=k
        .subst e;have q:=Am.shift (F:=DT rn R G) (G:=G) (base:=a+1) (s:=rn) (x:=0) (λi _ hi=>by unfold DT;rw[if_neg (by omega),show i+rn-rn=i by omega];exact CD.refl _) bc.o.1
         rw[<- HP.o.1];simpa using q
        .refine Am.congr (λi _ hi=>?_) (HT.o j hj (by omega));have h1:=Bc d l j hj;have h2:=CQ d l (j:=j+1) (k:=k) (by omega) (by omega);have h3:=HP.o.1;unfold DT;rw[if_pos (by omega)];exact CD.refl _
       have ce:U (rn+n2=AO d l (k+1)):=by show rn+n2=AO d l (k+1);rw[Bc d l k O,HP.o.1,bc.o.2]
       clear ho hg aj av HT bc J a2 r;go_wp2;go_roundw;case rel=>exact⟨k+1,X,rn+n2,an,a5,a7,ao,c5,c7,DT rn R G,xs++ys,by omega,by go_num,rfl,ce.o,ci.o,HX.o,cg.o⟩
       case measure=>simp[intOf];omega
     .have e:k=ln:=by omega
      subst e;have em:¬ (k:Int)<(k:Int):=by omega
      have ds:rn≠0:=by have h1:=HP.o.1;rw[bi.o,BT] at h1;have h2:=Gj d l;have h3:Ac (d+1) (.inr l)=1+(l.map (Ac d)).sum:=rfl;have h4:=bi.o;omega
      obtain⟨a6,c6,e6,a4⟩:=Af aw.o.own3;obtain⟨g3,dj,d7,cw,b9⟩:=a4 ds;injection e6 with e6 bp bq;clear bp bq;rw[<- e6] at dj;subst dj;have HO:U ((wr.alloc (.cells #[.bool false,.slice ka kn kc,.slice da k dc,iv (m:Int)] 168)).ownsRow wr.heap.size 168 4 (.slice (some (ad wr.heap.size 0)) 1 1) 1 [.bool false,.slice ka kn kc,.slice da k dc,iv (m:Int)]):=
       ⟨rfl,Or.inr ⟨wr.heap.size,1,#[.bool false,.slice ka kn kc,.slice da k dc,iv (m:Int)],rfl,Uq _,blk_alloc_new _ _,Uq _,by unfold maxLen;omega,rfl,rfl⟩⟩
      have a2:U (∀j u,xs[j]?=some u->(wr.alloc (.cells #[.bool false,.slice ka kn kc,.slice da k dc,iv (m:Int)] 168)).cell? (((ad g3 0):Addr).add j)=some u):=λj u hj=>by rw[Ki,(Aa wr _).cell (p:=(ad g3 j)) cw];exact b9 j u hj
      obtain⟨i1,hi,ak,al,am⟩:=info_parts info168;have Z:U (prog.info? 168=some i1/\i1.zero=some (.agg #[.bool false,.slice none 0 0,.slice none 0 0,iv 0])/\i1.size=4/\i1.bytes=64):=⟨hi,ak,al,am⟩;clear hi ak al am a4 b9 e6 ar hk;go_wp2_with (at_builtin;refine wpList_append_own_at _ rfl _ _ 57 rfl wr.heap.size 168 i1 _ 4 64 underlying57 Z.o.1 Z.o.2.1 Z.o.2.2.1 Z.o.2.2.2 rfl (by decide) (.slice (some (ad wr.heap.size 0)) 1 1) 1 _ rfl HO.o (ad g3 0) rn rc xs rfl aw.o.fl.1 a2.o aw.o.fl.oneCell (by unfold maxLen;omega) (by omega) (by simp) ?_)
      intro v' w5 ho hg _ aj;obtain⟨a7,c7,rfl,_⟩:=Af ho;have cv:Ac (d+1) (.inr l)=1+rn:=by have h1:=HP.o.1;rw[bi.o,BT] at h1;rw[h1];rfl
      have d5:U (Below wr.heap.size wr w5):=(Aa _ _).grown hg (by simp) (λg e=>by simp[Value.ownBlock] at e;omega);have dz:U (w5.ownsRow wr.heap.size 168 4 (.slice a7 (1+rn) c7) (1+rn) ([.bool false,.slice ka kn kc,.slice da k dc,iv (m:Int)]++xs)):=ho;have bz:U (Ac (d+1) (.inr l)=1+rn):=cv;clear ho hg aj cv HO a2 y2 z0 z1 z2 z3 cx;go_wp2;go_ret;have I:=aw.o;have be:=d5.o;have ec:=I.lt;have dd:k=l.length:=bi.o;have b4:kn=k-1:=HP.o.2;rw[show CI w (d+1) (.inr l) a=CI w (d+1) (Sum.inr l:Ro (d+1)) a from rfl];refine⟨a7,c7,DT 1 (λ_=>⟨false,kn,gt (Hf d l k),k,gi (Iv a d l k),(m:Int)⟩) R,[.bool false,.slice ka kn kc,.slice da k dc,iv (m:Int)]++xs,by rw[bz.o];rfl,I.bel.trans (be.mono I.bel.size),?_,?_,?_⟩
      .rw[bz.o];obtain⟨q1,q2⟩:=dz.o;refine⟨q1,?_⟩;rcases q2 with q2|⟨g,d3,dx,r1,r2,r3⟩;.exact Or.inl q2
       .exact Or.inr ⟨g,d3,dx,r1,by have:=I.bel.size;omega,r3⟩
      .rw[bz.o];refine Bp.app (Bp.one ⟨rfl,rfl,ka,kc,da,dc,rfl,rfl,?_,?_⟩) (I.fl.mono be.size (λb hs ar=>⟨by have:=hs.1;show w.heap.size<=b;omega,be.block b ar⟩));.exact (Ll (S:=λb=>nb+1<=b) I.own1 (by rw[Mb];exact b4) (λb hb=>hb)).mono be.size (λb hs ar=>⟨by show w.heap.size<=b;omega,be.block b ar⟩)
       .exact (P1 (S:=λb=>nb+1<=b) I.own2 (by rw[MA]) (λb hb=>hb)).mono be.size (λb hs ar=>⟨by show w.heap.size<=b;omega,be.block b ar⟩)
      .refine⟨rfl,dd,?_,?_,λj hj=>?_,λj hj=>?_,λj hj=>?_⟩;.show (m:Int)=((l.flatMap (Ab d)).length:Int);rw[b5.o]
       .show kn+1=l.length;omega
       .show gi (Iv a d l k) j=a+((0+1+AO d l j:Nat):Int);rw[SB a d l k j (by omega),UI]
       .show gt (Hf d l k) j=gt (Ab d l[j+1]) 0;rw[Sp d l k j (by omega),Qc d l (j+1) hj]
       .have q:=Am.shift (F:=DT 1 (λ_=>⟨false,kn,gt (Hf d l k),k,gi (Iv a d l k),(m:Int)⟩) R) (G:=R) (base:=a) (s:=1) (x:=AO d l j) (λi _ _=>by unfold DT;rw[if_neg (by omega),show i+1-1=i by omega];exact CD.refl _) (HT.o j hj (by omega))
        rw[show 0+1+AO d l j=AO d l j+1 by omega];exact q
theorem IJ:∀(d:Nat) (t:Ro d) (v:Value) (b:Bool) (h:Nat) (a:Int) (w:World),NA w d t v->Ac d t<=5000->(Ab d t).length<=1099511627776->Aq d b t h->0<=a->a+(Ac d t:Int)<=100000->UO 80 #[v,iv a] w (CI w d t a):=λd t v b h a w g i=>Di d t v b h a w g (by omega)
end Go.Proofs.YtcnollkkigiobaaGreat
