import Derived.Laws.EntriesVeiled
import Derived.Test.YtcnollkkigiobaaGreatNv23
import Derived.Test.YtcnollkkigiobaaGreatNv21
import Derived.Test.YtcnollkkigiobaaGreatNv24
set_option linter.unusedVariables false
set_option linter.unusedSimpArgs false
set_option maxRecDepth 100000
set_option maxHeartbeats 90000000
namespace Go.Proofs.YtcnollkkigiobaaGreat
open Go Go.Deep Go.RowKit Go.Proofs.Tryz
variable {k k':ByteArray}{perm:Nat}
theorem St {i:Nat} (h:pk k i=pk k' i):∀n,n<4->kb k (4*i+n)=kb k' (4*i+n):=by
 have c:∀q:ByteArray,F5 q i 1=kb q (4*i+0):=λq=>by show 256*0+kb q (4*i+0)=_;omega
 have a:∀q:ByteArray,F5 q i 2=256*F5 q i 1+kb q (4*i+1):=λ_=>rfl;have d:∀q:ByteArray,F5 q i 3=256*F5 q i 2+kb q (4*i+2):=λ_=>rfl;have b:∀q:ByteArray,pk q i=256*F5 q i 3+kb q (4*i+3):=λ_=>rfl;have r:∀(q:ByteArray) (n:Nat),0<=kb q (4*i+n)/\kb q (4*i+n)<256:=λq n=>Dv q _;intro n C;have o:=c k;have t:=a k;have F:=d k;have l:=b k;have e:=c k';have s:=a k';have D:=d k';have g:=b k';have x:=r k 0;have u:=r k 1;have v:=r k 2;have B:=r k 3;have E:=r k' 0;have z:=r k' 1;have G:=r k' 2;have y:=r k' 3;rcases (show n=0\/n=1\/n=2\/n=3 by omega) with rfl|rfl|rfl|rfl <;> omega
theorem JG (perm:Nat) (a:perm<6) (i:Nat) (hi:i<4):∃s,s<4/\CK perm s=i:=by
 rcases (show perm=0\/perm=1\/perm=2\/perm=3\/perm=4\/perm=5 by omega) with rfl|rfl|rfl|rfl|rfl|rfl <;> rcases (show i=0\/i=1\/i=2\/i=3 by omega) with rfl|rfl|rfl|rfl <;>
  first|exact⟨0,by omega,rfl⟩|exact⟨1,by omega,rfl⟩|exact⟨2,by omega,rfl⟩|exact⟨3,by omega,rfl⟩
theorem Dp (B:perm<6) (t:k.size=16) (r : k'.size=16) (h:Al perm k=Al perm k'):k=k':=by
 injection h with v a d E;have b:∀i,i<4->pk k i=pk k' i:=λi C=>by
  obtain⟨s,G,e⟩:=JG perm B i C;rw[<- e];rcases (show s=0\/s=1\/s=2\/s=3 by omega) with rfl|rfl|rfl|rfl;.exact v
  .exact a
  .exact d
  .exact E
 have z:∀m,m<16->kb k m=kb k' m:=λm F=>by have:=St (b (m / 4) (by omega)) (m % 4) (by omega);rw[show 4*(m / 4)+m % 4=m by omega] at this;exact this
 apply ByteArray.ext;apply Array.ext;.show k.size=k'.size;rw[t,r]
 .intro m a d;obtain⟨x,u,o⟩:=E0 (k:=k) (i:=m) a;obtain⟨y,D,n⟩:=E0 (k:=k') (i:=m) d;have q:=z m (by rw[<- t];exact a);rw[o,n] at q;have c:x=y:=by apply UInt8.toNat_inj.1;omega
  have g:k.data[m]?=some x:=by rw[<- u];first|rfl|simp
  have l:k'.data[m]?=some y:=by rw[<- D];first|rfl|simp
  rw[Array.getElem?_eq_getElem a] at g;rw[Array.getElem?_eq_getElem d] at l;injection g with g;injection l with l;rw[g,l,c]
theorem DN (l:perm<6) {K:List ByteArray} (c:BI K) (g:∀k,k∈K->k.size=16):(K.map (Al perm)).Nodup:=by rw[List.Nodup,List.pairwise_map];refine List.Pairwise.imp_of_mem (λ{a b} h i d e=>?_) c;have:=Dp l (g a h) (g b i) e;subst this;rw[A4] at d;cases d
def Cm:List UInt8->Nat
 | []=>0
 | x::l=>x.toNat*256 ^ l.length+Cm l
theorem GA:∀l:List UInt8,Cm l<256 ^ l.length
 | []=>by simp[Cm]
 | x::l=>by
  have h:=GA l
  have a:x.toNat<256:=x.toNat_lt
  show x.toNat*256 ^ l.length+Cm l<256 ^ (l.length+1)
  rw[Nat.pow_succ]
  have:(x.toNat+1)*256 ^ l.length<=256*256 ^ l.length:=Nat.mul_le_mul_right _ a
  rw[Nat.add_mul] at this
  omega
theorem Et:∀(a b:List UInt8),a.length=b.length->(Op.bytesLess a b=true↔Cm a<Cm b)
 | [],[],_=>by simp[Cm,Op.bytesLess]
 | [],_::_,h=>by simp at h
 | _::_,[],h=>by simp at h
 | x::a,y::b,h=>by
  have g:a.length=b.length:=by simpa using h
  have ih:=Et a b g
  have i:=GA a
  have n:=GA b
  show (decide (x<y) || (x == y && Op.bytesLess a b))=true↔x.toNat*256 ^ a.length+Cm a<y.toNat*256 ^ b.length+Cm b
  rw[g] at i ⊢
  generalize 256 ^ b.length=P at i n ⊢
  rcases Nat.lt_trichotomy x.toNat y.toNat with c|c|c
  .have d:x<y:=c
   have e:(x.toNat+1)*P<=y.toNat*P:=Nat.mul_le_mul_right _ c
   rw[Nat.add_mul] at e
   simp[d]
   omega
  .have d:x=y:=UInt8.toNat_inj.1 c
   subst d
   simp[ih]
  .have d:¬ x<y:=λh=>by have o : x.toNat<y.toNat:=h;omega
   have l:¬ x=y:=λh=>by rw[h] at c;omega
   have e:(y.toNat+1)*P<=x.toNat*P:=Nat.mul_le_mul_right _ c
   rw[Nat.add_mul] at e
   simp[d,l]
   omega
theorem Il:∀(a b:List UInt8),a.length=b.length->Cm a=Cm b->a=b
 | [],[],_,_=>rfl
 | [],_::_,h,_=>by simp at h
 | _::_,[],h,_=>by simp at h
 | x::a,y::b,h,e=>by
  have l:a.length=b.length:=by simpa using h
  have n:=GA a
  have o:=GA b
  have i : x.toNat*256 ^ a.length+Cm a=y.toNat*256 ^ b.length+Cm b:=e
  rw[l] at n i
  have d:x.toNat=y.toNat:=by
   generalize 256 ^ b.length=P at n o i
   rcases Nat.lt_trichotomy x.toNat y.toNat with c|c|c
   .have g:(x.toNat+1)*P<=y.toNat*P:=Nat.mul_le_mul_right _ c
    rw[Nat.add_mul] at g
    omega
   .exact c
   .have g:(y.toNat+1)*P<=x.toNat*P:=Nat.mul_le_mul_right _ c
    rw[Nat.add_mul] at g
    omega
  rw[d] at i
  have q:x=y:=UInt8.toNat_inj.1 d
  subst q
  rw[Il a b l (by omega)]
theorem Ji:∀(a b r:List UInt8),a.length=b.length->Op.bytesLess (a++r) b=Op.bytesLess a b
 | [],[],r,_=>by cases r <;> rfl
 | [],_::_,_,h=>by simp at h
 | _::_,[],_,h=>by simp at h
 | x::a,y::b,r,h=>by
  show (decide (x<y) || (x == y && Op.bytesLess (a++r) b))=(decide (x<y) || (x == y && Op.bytesLess a b))
  rw[Ji a b r (by simpa using h)]
theorem Q9 {l lo hi:List UInt8} (q:lo.length<=l.length) (b:lo.length=hi.length) (g:Cm hi=Cm lo+1):(Op.bytesLess l lo=false/\Op.bytesLess l hi=true)↔l.take lo.length=lo:=by
 have e:l=l.take lo.length++l.drop lo.length:=(List.take_append_drop _ _).symm;have a:(l.take lo.length).length=lo.length:=by rw[UE];omega
 have c:Op.bytesLess l lo=Op.bytesLess (l.take lo.length) lo:=by
  conv=>lhs;rw[e]
  exact Ji _ _ _ a
 have d:Op.bytesLess l hi=Op.bytesLess (l.take lo.length) hi:=by
  conv=>lhs;rw[e]
  exact Ji _ _ _ (a.trans b)
 rw[c,d,Et _ _ (a.trans b),g];constructor
 .rintro⟨i,o⟩;have n:¬ Cm (l.take lo.length)<Cm lo:=λh=>by rw[<- Et _ _ a,i] at h;cases h
  exact Il _ _ a (by omega)
 .intro h;rw[h];exact⟨A4 _,by omega⟩
theorem IZ:∀(a b:List UInt8),Cm (a++b)=Cm a*256 ^ b.length+Cm b
 | [],b=>by simp[Cm]
 | x::a,b=>by
  show x.toNat*256 ^ (a++b).length+Cm (a++b)=(x.toNat*256 ^ a.length+Cm a)*256 ^ b.length+Cm b
  rw[IZ a b,Uz,Nat.pow_add,Nat.add_mul,Nat.mul_assoc,Nat.add_assoc]
def OK (x:Int):List UInt8:=[UInt8.ofNat (x / 16777216).toNat,UInt8.ofNat (x / 65536 % 256).toNat,UInt8.ofNat (x / 256 % 256).toNat,UInt8.ofNat (x % 256).toNat]
theorem DM (n:Nat) (h:n<256):(UInt8.ofNat n).toNat=n:=by rw[UInt8.toNat_ofNat'];omega
theorem Hv (x:Int) (b:0<=x) (a:x<4294967296):(Cm (OK x):Int)=x:=by show (((UInt8.ofNat (x / 16777216).toNat).toNat*256 ^ 3+((UInt8.ofNat (x / 65536 % 256).toNat).toNat*256 ^ 2+((UInt8.ofNat (x / 256 % 256).toNat).toNat*256 ^ 1+((UInt8.ofNat (x % 256).toNat).toNat*256 ^ 0+0))):Nat):Int)=x;rw[DM _ (by omega),DM _ (by omega),DM _ (by omega),DM _ (by omega)];omega
def EJ (x:Nat->Int):Nat->List UInt8
 | 0=>[]
 | i+1=>EJ x i++OK (x i)
theorem Ef (x:Nat->Int):∀i,(FJ x i).data.toList=EJ x i
 | 0=>rfl
 | i+1=>by
  show (FJ x i++OW (x i)).data.toList=_
  rw[ByteArray.data_append,Array.toList_append,Ef x i]
  rfl
theorem GL (x:Nat->Int) (i:Nat):(JD x (i+1)).data.toList=EJ x i++OK (x i+1):=by show (FJ x i++OW (x i+1)).data.toList=_;rw[ByteArray.data_append,Array.toList_append,Ef x i];rfl
theorem If (x:Nat->Int):∀i,(EJ x i).length=4*i
 | 0=>rfl
 | i+1=>by
  show (EJ x i++OK (x i)).length=_
  rw[Uz,If x i]
  show 4*i+4=_
  omega
theorem Oe (k:ByteArray) (i:Nat) (h:4*i+4<=k.size):∃q:List UInt8,q.length=4/\(k.data.toList.drop (4*i)).take 4=q/\(Cm q:Int)=pk k i:=by
 obtain⟨c,B,C⟩:=E0 (k:=k) (i:=4*i+0) (by omega);obtain⟨a,z,v⟩:=E0 (k:=k) (i:=4*i+1) (by omega);obtain⟨d,s,E⟩:=E0 (k:=k) (i:=4*i+2) (by omega);obtain⟨l,D,x⟩:=E0 (k:=k) (i:=4*i+3) (by omega);have g:∀(n:Nat) (b:UInt8),k[4*i+n]?=some b->k.data.toList[4*i+n]?=some b:=λn b e=>by rw[Array.getElem?_toList,<- e];first|rfl|simp
 have r:=g 0 c B;have y:=g 1 a z;have u:=g 2 d s;have t:=g 3 l D;refine⟨[c,a,d,l],rfl,?_,?_⟩
 .apply List.ext_getElem?;intro n;rw[List.getElem?_take,List.getElem?_drop];by_cases o:n<4
  .rw[if_pos o];rcases (show n=0\/n=1\/n=2\/n=3 by omega) with rfl|rfl|rfl|rfl;.exact r
   .exact y
   .exact u
   .exact t
  .rw[if_neg o,List.getElem?_eq_none (by simp;omega)]
 .show ((c.toNat*256 ^ 3+(a.toNat*256 ^ 2+(d.toNat*256 ^ 1+(l.toNat*256 ^ 0+0))):Nat):Int)=256*(256*(256*(256*0+kb k (4*i+0))+kb k (4*i+1))+kb k (4*i+2))+kb k (4*i+3);rw[C,v,E,x];omega
theorem Jg (k:ByteArray) (x:Nat->Int):∀m,4*m<=k.size->(∀i,i<m->0<=x i/\x i<4294967296)->(k.data.toList.take (4*m)=EJ x m↔∀i,i<m->pk k i=x i)
 | 0,_,_=>by simp[EJ]
 | m+1,h,hx=>by
  have ih:=Jg k x m (by omega) (λi b=>hx i (by omega))
  obtain⟨q,s,n,d⟩:=Oe k m (by omega)
  have a:=hx m (by omega)
  have l:(k.data.toList.take (4*m)).length=(EJ x m).length:=by
   rw[UE,If,Array.length_toList]
   have:k.data.size=k.size:=rfl
   omega
  have c:q=OK (x m)↔pk k m=x m:=by
   rw[<- d]
   constructor
   .intro e
    rw[e]
    exact Hv _ a.1 a.2
   .intro e
    refine Il _ _ s ?_
    have:=Hv _ a.1 a.2
    omega
  rw[show 4*(m+1)=4*m+4 by omega,List.take_add,n]
  show _++q=EJ x m++OK (x m)↔_
  constructor
  .intro e
   obtain⟨o,r⟩:=List.append_inj e l
   intro i b
   by_cases g : i=m
   .rw[g]
    exact c.1 r
   .exact ih.1 o i (by omega)
  .intro e
   rw[ih.2 (λi b=>e i (by omega)),c.2 (e m (by omega))]
variable {j m:Nat}{p:Qd}
theorem Fq (j:Nat) (a:j<6) (s:Nat) (b:s<4):AM j (CK j s)=s/\CK j s<4:=by rcases (show j=0\/j=1\/j=2\/j=3\/j=4\/j=5 by omega) with rfl|rfl|rfl|rfl|rfl|rfl <;> rcases (show s=0\/s=1\/s=2\/s=3 by omega) with rfl|rfl|rfl|rfl <;> decide
theorem QD (a b:Int):Ev a b=true↔(a=0\/a=b):=by simp[Ev]
theorem QT (j:Nat) (a:j<6) (p:Qd) (k:ByteArray):Cr (Al j k) p=true↔∀i,i<4->(A7 j p i=0\/A7 j p i=pk k i):=by
 have e:∀s,s<4->A7 j p (CK j s)=AB p.s p.p p.o p.g s:=λs b=>by unfold A7;rw[(Fq j a s b).1]
 have v:A7 j p (CK j 0)=p.s:=e 0 (by omega);have n:A7 j p (CK j 1)=p.p:=e 1 (by omega);have d:A7 j p (CK j 2)=p.o:=e 2 (by omega);have x:A7 j p (CK j 3)=p.g:=e 3 (by omega);have h:Cr (Al j k) p=true↔(((Ev p.s (pk k (CK j 0))=true/\Ev p.p (pk k (CK j 1))=true)/\Ev p.o (pk k (CK j 2))=true)/\Ev p.g (pk k (CK j 3))=true):=by unfold Cr Al;simp only[Bool.and_eq_true]
 rw[h];simp only[QD];rw[<- v,<- n,<- d,<- x];constructor
 .rintro⟨⟨⟨l,t⟩,c⟩,u⟩ i q;obtain⟨s,b,r⟩:=JG j a i q;rw[<- r];rcases (show s=0\/s=1\/s=2\/s=3 by omega) with rfl|rfl|rfl|rfl;.exact l
  .exact t
  .exact c
  .exact u
 .intro h;exact⟨⟨⟨h _ (Fq j a 0 (by omega)).2,h _ (Fq j a 1 (by omega)).2⟩,h _ (Fq j a 2 (by omega)).2⟩,h _ (Fq j a 3 (by omega)).2⟩
theorem Gm (d:j<6) (g:Jw (A7 j p) m) (b:Cx (A7 j p) 4) (k:ByteArray):Cr (Al j k) p=true↔∀i,i<m->pk k i=A7 j p i:=by
 rw[QT j d p k];obtain⟨l,e,c⟩:=g;constructor
 .intro h i a;rcases h i (by omega) with q|q;.exact absurd q (e i a)
  .exact q.symm
 .intro h i a;rcases Nat.lt_trichotomy i m with q|q|q;.exact .inr (h i q).symm
  .exact .inl (by rw[q];exact c (by omega))
  .exact .inl ((b i a).2 m q (c (by omega)))
theorem Na (x:Nat->Int):∃m,Jw x m:=by
 by_cases b:x 0=0;.exact⟨0,by omega,λi a=>absurd a (Uu _),λ_=>b⟩
 by_cases c:x 1=0;.exact⟨1,by omega,λi a=>by rw[show i=0 by omega];exact b,λ_=>c⟩
 by_cases d:x 2=0;.exact⟨2,by omega,λi a=>by rcases (show i=0\/i=1 by omega) with rfl|rfl <;> assumption,λ_=>d⟩
 by_cases e:x 3=0;.exact⟨3,by omega,λi a=>by rcases (show i=0\/i=1\/i=2 by omega) with rfl|rfl|rfl <;> assumption,λ_=>e⟩
 .exact⟨4,by omega,λi a=>by rcases (show i=0\/i=1\/i=2\/i=3 by omega) with rfl|rfl|rfl|rfl <;> assumption,λh=>absurd h (by omega)⟩
theorem J9 (x:Nat->Int) (m:Nat) (c:0<=x m) (d:x m<=2000000000):Cm (JD x (m+1)).toList=Cm (FJ x (m+1)).toList+1/\(FJ x (m+1)).toList.length=(JD x (m+1)).toList.length:=by rw[ByteArray.toList_eq,ByteArray.toList_eq,GL,Ef];show Cm (EJ x m++OK (x m+1))=Cm (EJ x m++OK (x m))+1/\(EJ x m++OK (x m)).length=_;rw[IZ,IZ];have a:=Hv (x m) c (by omega);have b:=Hv (x m+1) (by omega) (by omega);refine⟨?_,by simp[OK]⟩;show Cm (EJ x m)*256 ^ 4+Cm (OK (x m+1))=Cm (EJ x m)*256 ^ 4+Cm (OK (x m))+1;omega
theorem IX (h:j<6) (c:Jw (A7 j p) (m+1)) (a:Cx (A7 j p) 4) {k:ByteArray} (g:k.size=16) :
  (Op.bytesLess k.toList (FJ (A7 j p) (m+1)).toList=false/\Op.bytesLess k.toList (JD (A7 j p) (m+1)).toList=true)↔Cr (Al j k) p=true:=by
 have q:=c.1;have d:=(a m (by omega)).1;obtain⟨l,n⟩:=J9 (A7 j p) m d.1 d.2;have e:k.toList.length=16:=by rw[ByteArray.toList_eq,Array.length_toList];exact g
 have b:(FJ (A7 j p) (m+1)).toList.length=4*(m+1):=by rw[ByteArray.toList_eq,Ef,If]
 rw[Q9 (by omega) n l,Gm h c a,b,ByteArray.toList_eq,ByteArray.toList_eq,Ef];exact Jg k _ (m+1) (by omega) (λi o=>by have:=(a i (by omega)).1;omega)
theorem J1 {lo hi:ByteArray} (a:Op.bytesLess lo.toList hi.toList=true) (P:ByteArray->Bool):∀K:List ByteArray,(∀k,k∈K->((Op.bytesLess k.toList lo.toList=false/\Op.bytesLess k.toList hi.toList=true)↔P k=true))->Bs hi K=Bs lo K+(K.filter P).length
 | [],_=>rfl
 | k::K,h=>by
  have ih:=J1 a P K (λx e=>h x (List.mem_cons_of_mem _ e))
  have d:=h k (List.mem_cons_self ..)
  unfold Bs at ih ⊢
  rw[List.filter_cons,List.filter_cons,List.filter_cons]
  cases h1:Op.bytesLess k.toList lo.toList with
  | true=>
   have c:Op.bytesLess k.toList hi.toList=true:=CZ h1 (CV a)
   have b:P k=false:=by
    cases hp:P k with
    | false=>rfl
    | true=>
     have:=(d.2 hp).1
     rw[h1] at this
     cases this
   simp only[c,b,if_true,UJ]
   simp
   omega
  | false=>
   cases c:Op.bytesLess k.toList hi.toList with
   | true=>
    have b:P k=true:=d.1 ⟨h1,c⟩
    simp[b]
    omega
   | false=>
    have b:P k=false:=by
     cases hp:P k with
     | false=>rfl
     | true=>
      have:=(d.2 hp).2
      rw[c] at this
      cases this
    simp[b]
    omega
theorem ID (e:j<6) (b:Jw (A7 j p) (m+1)) (a:Cx (A7 j p) 4) {K:List ByteArray} (g:∀k,k∈K->k.size=16):Bs (JD (A7 j p) (m+1)) K=Bs (FJ (A7 j p) (m+1)) K+((K.map (Al j)).filter (λq=>Cr q p)).length:=by have c:=(a m (by have:=b.1;omega)).1;obtain⟨i,h⟩:=J9 (A7 j p) m c.1 c.2;rw[J1 ((Et _ _ h).2 (by omega)) (λk=>Cr (Al j k) p) K (λk d=>IX e b a (g k d)),List.filter_map,UD];rfl
theorem Ik (c:j<6) (e:Jw (A7 j p) 0) (a:Cx (A7 j p) 4) (K:List ByteArray):((K.map (Al j)).filter (λq=>Cr q p)).length=K.length:=by rw[List.filter_eq_self.2,UD];intro q d;obtain⟨k,_,rfl⟩:=List.mem_map.1 d;exact (Gm c e a k).2 (λi b=>absurd b (Uu _))
theorem Ns (K:List ByteArray):BZ { data:=#[] } { data:=#[] } K=K:=by
 unfold BZ;rw[List.filter_eq_self];intro k _;have e:(({ data:=#[] }:ByteArray)).toList=[]:=by unfold ByteArray.toList;unfold ByteArray.toList.loop;rfl
 unfold NS;rw[e];cases k.toList <;> rfl
def GD (perm:Nat) (K:List ByteArray):Prop:=∀k,k∈K->k.size=16/\AQ (Al perm k)=true
def RG (w:World) (perm:Nat) (K:List ByteArray) (e:Ending) (w' : World):Prop:=
 ∃(ok:Bool) (a:Option Addr) (c:Nat) (L:List Qd),e=.returned (.tuple #[.slice a L.length c,.bool ok])/\Bl w w'/\FX w' a L/\((ok=true/\L=K.map (Al perm)/\GD perm K)\/(ok=false/\L=[]/\¬ GD perm K))
theorem Og (perm:Nat) (hp:perm<6) (b o:Nat) (w:World) (n:Nat) (t:Ro n) (v:Value) (hh:Nat) (ac:w.cell? (ad b o)=some (.func (.func (BY perm)) #[] #[])) (a5:w.cell? (ad b (o+1))=some v)
  (ht:FZ (λbb=>bb<w.heap.size) w n t v) (hb:Aq n true t hh) (P:BI (Ab n t)) (N:(Ab n t).length<=300) :
  UO 69 #[.pointer (some (ad b o))] w (RG w perm (Ab n t)):=by
 have ax:=IU { data:=#[] } { data:=#[] } w.heap.size w n t v true hh ht hb P (by omega);obtain⟨K,hK⟩:=gn (Ab n t);rw[<- hK] at ax N ⊢;have HP:=Ae (ai hp (ai ac (Uo _ _ ac)));clear ht hb P hK hp ac hh t n;obtain⟨i0,ay,ap,aw,am⟩:=info_parts info34;have HI:=Ae (ai ay (ai ap (ai aw am)));clear ay ap aw am;rcases ax with ⟨p,rfl,d⟩|⟨p,rfl,d⟩;all_goals
  first
   | have HC:U (UO 203 #[.pointer (some p),.slice none 0 0,.string { data:=#[] },.string { data:=#[] }] w (GR w.heap.size w ([]++BZ { data:=#[] } { data:=#[] } K))):=d w none 0 0 [] (Up _ _) (Uq _) (World.ownsRow_nil _ _ _ _) rfl (by omega)
   | have HC:U (UO 186 #[.pointer (some p),.slice none 0 0,.string { data:=#[] },.string { data:=#[] }] w (GR w.heap.size w ([]++BZ { data:=#[] } { data:=#[] } K))):=d w none 0 0 [] (Up _ _) (Uq _) (World.ownsRow_nil _ _ _ _) rfl (by omega)
  clear d
  rw[List.nil_append,Ns] at HC
  go_enter func69,ntmps69
  go_wp2_with fail
  (with_reducible refine HC.o.mono ?_)
  rintro e B ⟨a3,c3,rfl,aj,av⟩
  obtain⟨kl,F⟩:=gn K.length
  have af:=Ae F
  have S3:U (Cg B a3 kl (gt K)/\Bl w B):=by
   obtain⟨a6,c6,e6,q,_⟩:=BW aj rfl
   injection e6 with e6 _ _
   subst e6
   exact⟨by rw[F];exact q.rd,av⟩
  rw[<- F] at N ⊢
  clear F aj av HC
  go_wp2
  go_loopw [4,6,7,14] (λa2 _ _ i wr=>∃(k:Nat) (R:List Qd),k<=kl/\i=iv k/\R=(K.take k).map (Al perm)/\GD perm (K.take k)/\wr.ownsRow B.heap.size 34 4 a2 R.length (AL R)/\Bl B wr) (λ_ _ _ i _=>kl-(intOf i).toNat)
  case atStart=>exact⟨0,[],Us _,rfl,rfl,(λk hk=>by simp at hk),World.ownsRow_nil _ _ _ _,Up _ _⟩
  case round=>
   obtain⟨k,R,hk,rfl,hR,az,D,O⟩:=hrel
   obtain⟨ar,cr,er,_⟩:=Af D
   subst er
   have ak:R.length=k:=by rw[hR,UD,UE,<- af.o];omega
   have l:=Ae (ai D (ai O (ai hR (ai az ak))))
   clear D O hR az ak
   obtain⟨G,H⟩:=gn R.length
   have S:=Ae H
   have aq:=H.trans l.o.2.2.2.2
   have a8:G<=k:=by omega
   rw[<- H] at l ⊢
   clear H aq
   have k0:(0:Int)<=(k:Int):=by omega
   have ab:=Ae (S3.o.2.trans (l.o.2.1.mono S3.o.2.size))
   by_cases an:k<kl
   .have k1:(k:Int)<(kl:Int):=by omega
    have J:k<K.length:=by rw[<- af.o];exact an
    obtain⟨bb,oo,ba,s1⟩:=(S3.o.1.below l.o.2.1).cellOf k an
    obtain⟨c,y⟩:=gn (gt K k)
    rw[<- y] at s1
    have L:U (c=K[k]/\c∈K):=by
     have e:c=K[k]:=by rw[y,M7 J]
     exact⟨e,by rw[e];exact UA J⟩
    have l0:wr.cell? (ad b o)=some (.func (.func (BY perm)) #[] #[]):=by
     rw[ab.o.cell (show b<w.heap.size from HP.o.2.2)]
     exact HP.o.2.1
    clear y a5
    subst ba
    by_cases Q:c.size=16
    .have ah:(c.size:Int)=16:=by omega
     have V:=Ae (LM perm HP.o.1 c Q wr)
     go_wp2_with fail
     (with_reducible refine V.o.mono ?_)
     rintro e w5 ⟨rfl,I⟩
     obtain⟨a,X⟩:=gn (Al perm c)
     have ae:U (a=Al perm c):=X
     have Y:U (∀W:World,UO 81 #[.agg #[iv a.s,iv a.p,iv a.o,iv a.g]] W (UP W (.bool (AQ a)))):=λW=>FR a W
     rw[<- X]
     clear X
     unfold qv
     go_wp2_with fail
     (with_reducible refine (Y.o _).mono ?_)
     rintro e C ⟨rfl,r⟩
     have z:=(Bx.new w5 #[iv a.s,iv a.p,iv a.o,iv a.g] 34)
     have a9:=I.size
     have a1:=r.size
     have a4:=l.o.2.1.size
     simp only[UF] at a1
     have E:Bl w5 C:=(Aa w5 (.cells #[iv a.s,iv a.p,iv a.o,iv a.g] 34)).trans (r.mono (by simp))
     have z6:Bx C w5.heap.size 34 #[iv a.s,iv a.p,iv a.o,iv a.g]:=(r.block _ (by simp)).trans z
     have y0:=z6.cell 0
     have y1:=z6.cell 1
     have y2:=z6.cell 2
     have y3:=z6.cell 3
     simp at y0 y1 y2 y3
     have Z:U (C.ownsRow B.heap.size 34 4 (.slice ar G cr) G (AL R)/\Bl B C/\Bl w C):=by
      have q1:=I.trans (E.mono a9)
      have q2:=l.o.2.1.trans (q1.mono a4)
      exact⟨Ag l.o.1 q1,q2,S3.o.2.trans (q2.mono S3.o.2.size)⟩
     cases hq:AQ a with
     | false=>
      have T:U (¬ GD perm K):=λh=>by
       have:=(h c L.o.2).2
       rw[<- ae.o,hq] at this
       cases this
      clear I r E z z6 V Y
      go_wp2
      refine bodyPost_ret (v:=.tuple #[.slice none 0 0,.bool false]) (by simp[results,results69,go_sem]) rfl ?_
      exact⟨false,none,0,[],rfl,Z.o.2.2,.inl rfl,.inr ⟨rfl,rfl,T.o⟩⟩
     | true=>
      have a0:U (GD perm (K.take (k+1))):=by
       intro x hx
       rw[List.take_add_one,Ut J] at hx
       rcases List.mem_append.1 hx with hx|hx
       .exact l.o.2.2.2.1 x hx
       .have e:x=K[k]:=by simpa using hx
        rw[e,<- L.o.1]
        exact⟨Q,by rw[<- ae.o];exact hq⟩
      have al:B.heap.size<=C.heap.size:=by omega
      have aa:U ((C.alloc (.cells #[iv a.s,iv a.p,iv a.o,iv a.g] 34)).ownsRow B.heap.size 34 4 (.slice ar G cr) G (AL R)/\(∀j u,(AL [a])[j]?=some u->(C.alloc (.cells #[iv a.s,iv a.p,iv a.o,iv a.g] 34)).cell? (ad C.heap.size j)=some u)):=by
       refine⟨Ag Z.o.1 (Aa _ _),λj u hj=>?_⟩
       rw[(Bx.new C #[iv a.s,iv a.p,iv a.o,iv a.g] 34).cell j]
       simpa[AL] using hj
      clear I r E z z6 V Y
      go_wp2_with (at_builtin;refine wpList_append_own_at _ rfl _ _ 28 rfl B.heap.size 34 i0 _ 4 32 underlying28 HI.o.1 HI.o.2.1 HI.o.2.2.1 HI.o.2.2.2 rfl (by decide) (.slice ar G cr) G (AL R) rfl aa.o.1 (ad C.heap.size 0) 1 1 (AL [a]) rfl rfl (λj u hj=>by rw[Addr.add_lit,UI];exact aa.o.2 j u hj) (by intro u hu;simp[AL] at hu;rcases hu with rfl|rfl|rfl|rfl <;> rfl) (by unfold maxLen;omega) (by omega) (by simp;omega) ?_)
      intro v7 w7 ag ao _ au
      have H7:U (GD perm (K.take (k+1))/\w7.ownsRow B.heap.size 34 4 v7 (R++[a]).length (AL (R++[a]))/\Bl B w7):=by
       refine⟨a0.o,by rw[EA,Uz,<- S.o];exact ag,?_⟩
       exact (Z.o.2.1.trans ((Aa _ _).mono al)).grown ao (by simp;omega) (λg e=>(Ah l.o.1 g e).1)
      have HN:U (R++[a]=(K.take (k+1)).map (Al perm)):=by
       show R++[a]=_
       rw[List.take_add_one,Ut J,List.map_append,<- l.o.2.2.1,ae.o,L.o.1]
       rfl
      obtain⟨a7,c7,e7,_⟩:=Af ag
      subst e7
      clear ag ao au aa
      go_wp2
      go_roundw
      case rel=>exact⟨k+1,R++[a],by omega,by go_num,HN.o,H7.o⟩
      case measure=>simp[intOf];omega
    .have ah:¬ (c.size:Int)=16:=by omega
     have T:U (¬ GD perm K):=λh=>Q (h c L.o.2).1
     go_wp2
     refine bodyPost_ret (v:=.tuple #[.slice none 0 0,.bool false]) (by simp[results,results69,go_sem]) rfl ?_
     exact⟨false,none,0,[],rfl,ab.o,.inl rfl,.inr ⟨rfl,rfl,T.o⟩⟩
   .obtain rfl:k=kl:=by omega
    have k1:¬ (k:Int)<(k:Int):=by omega
    have HF:U (FX wr ar R/\G=R.length/\R=K.map (Al perm)/\GD perm K):=by
     have ho:=l.o.1
     rw[S.o] at ho
     have e:K.take k=K:=by rw[af.o,UC]
     refine⟨Hy ho,S.o,?_,?_⟩
     .rw[l.o.2.2.1,e]
     .have:=l.o.2.2.2.1
      rw[e] at this
      exact this
    go_wp2
    refine bodyPost_ret (v:=.tuple #[.slice ar G cr,.bool true]) (by simp[results,results69,go_sem]) rfl ?_
    exact⟨true,ar,cr,R,by rw[<- HF.o.2.1],ab.o,HF.o.1,.inl ⟨rfl,HF.o.2.2.1,HF.o.2.2.2⟩⟩
variable {A:Array Value}{M:Nat->Nat}{W w:World}{f:Value}
def Tj:Array Value:=#[.func (.func 101) #[] #[],.func (.func 102) #[] #[],.func (.func 103) #[] #[],.func (.func 104) #[] #[],.func (.func 105) #[] #[],.func (.func 106) #[] #[]]
theorem Rr (j:Nat) (a:j<6) (w:World):(Instr.index 97 (.agg Tj) (iv (j:Int))).run prog w=.ok (.func (.func (BY j)) #[] #[]) w:=by
 rcases (show j=0\/j=1\/j=2\/j=3\/j=4\/j=5 by omega) with rfl|rfl|rfl|rfl|rfl|rfl;.exact R3 w
 .exact RJ w
 .exact Sc w
 .exact R8 w
 .exact RN w
 .exact RM w
def XT (B:Nat) (w:World) (A:Array Value) (M:Nat->Nat) (T:Nat->Nat->Tn) (q:Nat):Prop:=
 A[q*2]?=some (.func (.func (BY q)) #[] #[])/\∃(t:Ro (M q)) (t' : Ro 21) (h:Nat) (v:Value),BE (M q) (T q) t'/\Ab 21 t'=Ab (M q) t/\Aq (M q) true t h/\Am (T q) 0 (M q) t 0/\Ac (M q) t=M q/\FZ (λb=>B<=b) w (M q) t v/\A[q*2+1]?=some v
theorem XT.keep {B:Nat} {w':World} {T:Nat->Nat->Tn} {q:Nat} (h:XT B w A M T q) (o:w.heap.size<=w'.heap.size) (l:∀k,k<w.heap.size->B<=k->w'.heap[k]?=w.heap[k]?):XT B w' A M T q:=by obtain⟨i,t,x,e,v,n,g,r,s,y,d,u⟩:=h;exact⟨i,t,x,e,v,n,g,r,s,y,d.mono o (λb c a=>⟨c,l b a c⟩),u⟩
structure IS (w W:World) (a:Option Addr) (c:Nat) (M:Nat->Nat) (T:Nat->Nat->Tn) (j:Nat) (A:Array Value):Prop where
 ib:Bx W w.heap.size 32 #[.slice a 6 c]
 xb:Bx W (w.heap.size+1) 109 A
 sz:A.size=12
 bel:Bl w W
 xt:∀q,q<j->XT (w.heap.size+2) W A M T q
theorem IS.keep {w W d : World} {a:Option Addr} {c:Nat} {M:Nat->Nat} {T:Nat->Nat->Tn} {j:Nat} {A:Array Value} (h:IS w W a c M T j A) (b:Bl W d):IS w d a c M T j A:=
 ⟨(b.block _ h.ib.lt).trans h.ib,(b.block _ h.xb.lt).trans h.xb,h.sz,h.bel.trans (b.mono h.bel.size),λq e=>(h.xt q e).keep b.size (λk g _=>b.block k g)⟩
theorem QP {m l:Nat} {N n:Nat->Tn} {t b:Ro 21} (o:BE m N t) (a:BE l n b) {K:List ByteArray} (v:Ab 21 t=K):((K.map (Al j)).length=((Ab 21 b).map (Al 0)).length/\∀q,q∈K.map (Al j)->q∈(Ab 21 b).map (Al 0))↔JS j m N l n:=by
 subst v;constructor;.rintro⟨g,c⟩ s y x i;have e:=CR o x;have u:=CR a i;subst e;subst u;exact⟨by simpa using g,λk d=>c _ (List.mem_map_of_mem d)⟩
 .intro h;obtain⟨g,c⟩:=h t b o a;refine⟨by simpa using g,λq r=>?_⟩;obtain⟨k,d,rfl⟩:=List.mem_map.1 r;exact c k d
def OV (W:World) (M:Nat->Nat) (T:Nat->Nat->Tn) (j:Nat) (f:Value):Prop:=
 1<=j->∃(B:Nat) (t:Ro 21),f=.map (some B)/\BE (M 0) (T 0) t/\D8 W B ((Ab 21 t).map (Al 0))
theorem OV.keep {a:World} {T:Nat->Nat->Tn} (h:OV W M T j f) (g:Bl W a):OV a M T j f:=λd=>by
 obtain⟨B,t,b,c,e⟩:=h d
 exact⟨B,t,b,c,e.below g⟩
theorem OV.put {T:Nat->Nat->Tn} {b i o:Nat} {u q:Value} {ty:TypeId} (h:OV W M T j f) (n:Bx W b ty A):OV ((W.setCell (ad b i) u).setCell (ad b o) q) M T j f:=λl=>by
 obtain⟨B,t,r,e,d⟩:=h l
 refine⟨B,t,r,e,d.kept ?_⟩
 have c:B≠b:=by
  rintro rfl
  obtain⟨s,v,g,_⟩:=d
  have a : W.heap[B]?=_:=n
  rw[g] at a
  cases a
 exact (Ur _ _ _ _ c).trans (Ur _ _ _ _ c)
def TE (M:Nat->Nat) (T:Nat->Nat->Tn) (j:Nat):Prop:=(∀q,q<j->Tp q (M q) (T q))/\∀i,1<=i->i<j->JS i (M i) (T i) (M 0) (T 0)
def Nb (w:World) (a:Option Addr) (n c:Nat) (M:Nat->Nat) (T:Nat->Nat->Tn) (e:Ending) (w' : World):Prop:=
 (e=.returned (.tuple #[.pointer none,.bool false])/\¬ VI n M T/\Bl w w')\/(e=.returned (.tuple #[pt (w.heap.size+1),.bool true])/\VI n M T/\∃A,IS w w' a c M T 6 A)
end Go.Proofs.YtcnollkkigiobaaGreat
