import Derived.Laws.EntriesVeiled
import Derived.Test.YtacpbofiipdodaaGreatNv22
import Derived.Test.YtacpbofiipdodaaGreatNv20
set_option linter.unusedVariables false
set_option linter.unusedSimpArgs false
set_option maxRecDepth 100000
set_option maxHeartbeats 90000000
namespace Go.Proofs.YtacpbofiipdodaaGreat
open Go Go.Deep Go.RowKit
variable {k':ByteArray}{perm:Nat}
theorem T9 {k:ByteArray} {i:Nat} (h:pk k i=pk k' i):∀n,n<4->kb k (4*i+n)=kb k' (4*i+n):=by
 have e1:∀q:ByteArray,Fy q i 1=kb q (4*i+0):=λq=>by show 256*0+kb q (4*i+0)=_;omega
 have e2:∀q:ByteArray,Fy q i 2=256*Fy q i 1+kb q (4*i+1):=λ_=>rfl;have e3:∀q:ByteArray,Fy q i 3=256*Fy q i 2+kb q (4*i+2):=λ_=>rfl;have e4:∀q:ByteArray,pk q i=256*Fy q i 3+kb q (4*i+3):=λ_=>rfl;have r:∀(q:ByteArray) (n:Nat),0<=kb q (4*i+n)/\kb q (4*i+n)<256:=λq n=>Dh q _;intro n hn;have a1:=e1 k;have a2:=e2 k;have a3:=e3 k;have a4:=e4 k;have b1:=e1 k';have b2:=e2 k';have b3:=e3 k';have b4:=e4 k';have r0:=r k 0;have r1:=r k 1;have r2:=r k 2;have r3:=r k 3;have s0:=r k' 0;have s1:=r k' 1;have s2:=r k' 2;have s3:=r k' 3;rcases (show n=0\/n=1\/n=2\/n=3 by omega) with rfl|rfl|rfl|rfl <;> omega
theorem J6 (perm:Nat) (hp:perm<6) (i:Nat) (hi:i<4):∃s,s<4/\Ck perm s=i:=by
 rcases (show perm=0\/perm=1\/perm=2\/perm=3\/perm=4\/perm=5 by omega) with rfl|rfl|rfl|rfl|rfl|rfl <;> rcases (show i=0\/i=1\/i=2\/i=3 by omega) with rfl|rfl|rfl|rfl <;>
  first|exact⟨0,by omega,rfl⟩|exact⟨1,by omega,rfl⟩|exact⟨2,by omega,rfl⟩|exact⟨3,by omega,rfl⟩
theorem M6 (hp:perm<6) {k:ByteArray} (hk:k.size=16) (hk' : k'.size=16) (h:Ag perm k=Ag perm k'):k=k':=by
 injection h with h0 h1 h2 h3;have hall:∀i,i<4->pk k i=pk k' i:=λi hi=>by
  obtain⟨s,hs,e⟩:=J6 perm hp i hi;rw[<- e];rcases (show s=0\/s=1\/s=2\/s=3 by omega) with rfl|rfl|rfl|rfl;.exact h0
  .exact h1
  .exact h2
  .exact h3
 have hb:∀m,m<16->kb k m=kb k' m:=λm hm=>by have:=T9 (hall (m / 4) (by omega)) (m % 4) (by omega);rw[show 4*(m / 4)+m % 4=m by omega] at this;exact this
 apply ByteArray.ext;apply Array.ext;.show k.size=k'.size;rw[hk,hk']
 .intro m h1 h2;obtain⟨x,ex,ebx⟩:=EB (k:=k) (i:=m) h1;obtain⟨y,ey,eby⟩:=EB (k:=k') (i:=m) h2;have hxy:=hb m (by rw[<- hk];exact h1);rw[ebx,eby] at hxy;have hxy2:x=y:=by apply UInt8.toNat_inj.1;omega
  have gx:k.data[m]?=some x:=by rw[<- ex];first|rfl|simp
  have gy:k'.data[m]?=some y:=by rw[<- ey];first|rfl|simp
  rw[Array.getElem?_eq_getElem h1] at gx;rw[Array.getElem?_eq_getElem h2] at gy;injection gx with gx;injection gy with gy;rw[gx,gy,hxy2]
theorem DF (hp:perm<6) {K:List ByteArray} (hasc:DE K) (hk:∀k,k∈K->k.size=16):(K.map (Ag perm)).Nodup:=by rw[List.Nodup,List.pairwise_map];refine List.Pairwise.imp_of_mem (λ{a b} ha hb hlt e=>?_) hasc;have:=M6 hp (hk a ha) (hk b hb) e;subst this;rw[CM] at hlt;cases hlt
def BM:List UInt8->Nat
 | []=>0
 | x::l=>x.toNat*256 ^ l.length+BM l
theorem FV:∀l:List UInt8,BM l<256 ^ l.length
 | []=>by simp[BM]
 | x::l=>by
  have h:=FV l
  have hx:x.toNat<256:=x.toNat_lt
  show x.toNat*256 ^ l.length+BM l<256 ^ (l.length+1)
  rw[Nat.pow_succ]
  have:(x.toNat+1)*256 ^ l.length<=256*256 ^ l.length:=Nat.mul_le_mul_right _ hx
  rw[Nat.add_mul] at this
  omega
theorem FF:∀(a b:List UInt8),a.length=b.length->(Op.bytesLess a b=true↔BM a<BM b)
 | [],[],_=>by simp[BM,Op.bytesLess]
 | [],_::_,h=>by simp at h
 | _::_,[],h=>by simp at h
 | x::a,y::b,h=>by
  have hl:a.length=b.length:=by simpa using h
  have ih:=FF a b hl
  have ha:=FV a
  have hb:=FV b
  show (decide (x<y) || (x == y && Op.bytesLess a b))=true↔x.toNat*256 ^ a.length+BM a<y.toNat*256 ^ b.length+BM b
  rw[hl] at ha ⊢
  generalize 256 ^ b.length=P at ha hb ⊢
  rcases Nat.lt_trichotomy x.toNat y.toNat with h1|h1|h1
  .have e1:x<y:=h1
   have h2:(x.toNat+1)*P<=y.toNat*P:=Nat.mul_le_mul_right _ h1
   rw[Nat.add_mul] at h2
   simp[e1]
   omega
  .have e1:x=y:=UInt8.toNat_inj.1 h1
   subst e1
   simp[ih]
  .have e1:¬ x<y:=λh=>by have h' : x.toNat<y.toNat:=h;omega
   have e2:¬ x=y:=λh=>by rw[h] at h1;omega
   have h2:(y.toNat+1)*P<=x.toNat*P:=Nat.mul_le_mul_right _ h1
   rw[Nat.add_mul] at h2
   simp[e1,e2]
   omega
theorem IZ:∀(a b:List UInt8),a.length=b.length->BM a=BM b->a=b
 | [],[],_,_=>rfl
 | [],_::_,h,_=>by simp at h
 | _::_,[],h,_=>by simp at h
 | x::a,y::b,h,e=>by
  have hl:a.length=b.length:=by simpa using h
  have ha:=FV a
  have hb:=FV b
  have e' : x.toNat*256 ^ a.length+BM a=y.toNat*256 ^ b.length+BM b:=e
  rw[hl] at ha e'
  have hxy:x.toNat=y.toNat:=by
   generalize 256 ^ b.length=P at ha hb e'
   rcases Nat.lt_trichotomy x.toNat y.toNat with h1|h1|h1
   .have h2:(x.toNat+1)*P<=y.toNat*P:=Nat.mul_le_mul_right _ h1
    rw[Nat.add_mul] at h2
    omega
   .exact h1
   .have h2:(y.toNat+1)*P<=x.toNat*P:=Nat.mul_le_mul_right _ h1
    rw[Nat.add_mul] at h2
    omega
  rw[hxy] at e'
  have e1:x=y:=UInt8.toNat_inj.1 hxy
  subst e1
  rw[IZ a b hl (by omega)]
theorem In:∀(a b r:List UInt8),a.length=b.length->Op.bytesLess (a++r) b=Op.bytesLess a b
 | [],[],r,_=>by cases r <;> rfl
 | [],_::_,_,h=>by simp at h
 | _::_,[],_,h=>by simp at h
 | x::a,y::b,r,h=>by
  show (decide (x<y) || (x == y && Op.bytesLess (a++r) b))=(decide (x<y) || (x == y && Op.bytesLess a b))
  rw[In a b r (by simpa using h)]
theorem Tb {l lo hi:List UInt8} (hl:lo.length<=l.length) (he:lo.length=hi.length) (hn:BM hi=BM lo+1):(Op.bytesLess l lo=false/\Op.bytesLess l hi=true)↔l.take lo.length=lo:=by
 have e:l=l.take lo.length++l.drop lo.length:=(List.take_append_drop _ _).symm;have hlen:(l.take lo.length).length=lo.length:=by rw[WI];omega
 have h1:Op.bytesLess l lo=Op.bytesLess (l.take lo.length) lo:=by
  conv=>lhs;rw[e]
  exact In _ _ _ hlen
 have h2:Op.bytesLess l hi=Op.bytesLess (l.take lo.length) hi:=by
  conv=>lhs;rw[e]
  exact In _ _ _ (hlen.trans he)
 rw[h1,h2,FF _ _ (hlen.trans he),hn];constructor
 .rintro⟨g1,g2⟩;have g3:¬ BM (l.take lo.length)<BM lo:=λh=>by rw[<- FF _ _ hlen,g1] at h;cases h
  exact IZ _ _ hlen (by omega)
 .intro h;rw[h];exact⟨CM _,by omega⟩
theorem Jg:∀(a b:List UInt8),BM (a++b)=BM a*256 ^ b.length+BM b
 | [],b=>by simp[BM]
 | x::a,b=>by
  show x.toNat*256 ^ (a++b).length+BM (a++b)=(x.toNat*256 ^ a.length+BM a)*256 ^ b.length+BM b
  rw[Jg a b,WD,Nat.pow_add,Nat.add_mul,Nat.mul_assoc,Nat.add_assoc]
def PM (x:Int):List UInt8:=[UInt8.ofNat (x / 16777216).toNat,UInt8.ofNat (x / 65536 % 256).toNat,UInt8.ofNat (x / 256 % 256).toNat,UInt8.ofNat (x % 256).toNat]
theorem Dt (n:Nat) (h:n<256):(UInt8.ofNat n).toNat=n:=by rw[UInt8.toNat_ofNat'];omega
theorem Hx (x:Int) (h0:0<=x) (h1:x<4294967296):(BM (PM x):Int)=x:=by show (((UInt8.ofNat (x / 16777216).toNat).toNat*256 ^ 3+((UInt8.ofNat (x / 65536 % 256).toNat).toNat*256 ^ 2+((UInt8.ofNat (x / 256 % 256).toNat).toNat*256 ^ 1+((UInt8.ofNat (x % 256).toNat).toNat*256 ^ 0+0))):Nat):Int)=x;rw[Dt _ (by omega),Dt _ (by omega),Dt _ (by omega),Dt _ (by omega)];omega
def EN (x:Nat->Int):Nat->List UInt8
 | 0=>[]
 | i+1=>EN x i++PM (x i)
theorem EO (x:Nat->Int):∀i,(G2 x i).data.toList=EN x i
 | 0=>rfl
 | i+1=>by
  show (G2 x i++Qz (x i)).data.toList=_
  rw[ByteArray.data_append,Array.toList_append,EO x i]
  rfl
theorem FC (x:Nat->Int) (i:Nat):(KF x (i+1)).data.toList=EN x i++PM (x i+1):=by show (G2 x i++Qz (x i+1)).data.toList=_;rw[ByteArray.data_append,Array.toList_append,EO x i];rfl
theorem IF (x:Nat->Int):∀i,(EN x i).length=4*i
 | 0=>rfl
 | i+1=>by
  show (EN x i++PM (x i)).length=_
  rw[WD,IF x i]
  show 4*i+4=_
  omega
theorem OB (k:ByteArray) (i:Nat) (h:4*i+4<=k.size):∃q:List UInt8,q.length=4/\(k.data.toList.drop (4*i)).take 4=q/\(BM q:Int)=pk k i:=by
 obtain⟨b0,e0,n0⟩:=EB (k:=k) (i:=4*i+0) (by omega);obtain⟨b1,e1,n1⟩:=EB (k:=k) (i:=4*i+1) (by omega);obtain⟨b2,e2,n2⟩:=EB (k:=k) (i:=4*i+2) (by omega);obtain⟨b3,e3,n3⟩:=EB (k:=k) (i:=4*i+3) (by omega);have g:∀(n:Nat) (b:UInt8),k[4*i+n]?=some b->k.data.toList[4*i+n]?=some b:=λn b e=>by rw[Array.getElem?_toList,<- e];first|rfl|simp
 have g0:=g 0 b0 e0;have g1:=g 1 b1 e1;have g2:=g 2 b2 e2;have g3:=g 3 b3 e3;refine⟨[b0,b1,b2,b3],rfl,?_,?_⟩
 .apply List.ext_getElem?;intro n;rw[List.getElem?_take,List.getElem?_drop];by_cases h4:n<4
  .rw[if_pos h4];rcases (show n=0\/n=1\/n=2\/n=3 by omega) with rfl|rfl|rfl|rfl;.exact g0
   .exact g1
   .exact g2
   .exact g3
  .rw[if_neg h4,List.getElem?_eq_none (by simp;omega)]
 .show ((b0.toNat*256 ^ 3+(b1.toNat*256 ^ 2+(b2.toNat*256 ^ 1+(b3.toNat*256 ^ 0+0))):Nat):Int)=256*(256*(256*(256*0+kb k (4*i+0))+kb k (4*i+1))+kb k (4*i+2))+kb k (4*i+3);rw[n0,n1,n2,n3];omega
theorem Jw (k:ByteArray) (x:Nat->Int):∀m,4*m<=k.size->(∀i,i<m->0<=x i/\x i<4294967296)->(k.data.toList.take (4*m)=EN x m↔∀i,i<m->pk k i=x i)
 | 0,_,_=>by simp[EN]
 | m+1,h,hx=>by
  have ih:=Jw k x m (by omega) (λi hi=>hx i (by omega))
  obtain⟨q,q1,q2,q3⟩:=OB k m (by omega)
  have hxm:=hx m (by omega)
  have hl:(k.data.toList.take (4*m)).length=(EN x m).length:=by
   rw[WI,IF,Array.length_toList]
   have:k.data.size=k.size:=rfl
   omega
  have hp:q=PM (x m)↔pk k m=x m:=by
   rw[<- q3]
   constructor
   .intro e
    rw[e]
    exact Hx _ hxm.1 hxm.2
   .intro e
    refine IZ _ _ q1 ?_
    have:=Hx _ hxm.1 hxm.2
    omega
  rw[show 4*(m+1)=4*m+4 by omega,List.take_add,q2]
  show _++q=EN x m++PM (x m)↔_
  constructor
  .intro e
   obtain⟨a1,a2⟩:=List.append_inj e hl
   intro i hi
   by_cases h' : i=m
   .rw[h']
    exact hp.1 a2
   .exact ih.1 a1 i (by omega)
  .intro e
   rw[ih.2 (λi hi=>e i (by omega)),hp.2 (e m (by omega))]
variable {j m:Nat}{p:Qd}
theorem FY (j:Nat) (hj:j<6) (s:Nat) (hs:s<4):Bh j (Ck j s)=s/\Ck j s<4:=by rcases (show j=0\/j=1\/j=2\/j=3\/j=4\/j=5 by omega) with rfl|rfl|rfl|rfl|rfl|rfl <;> rcases (show s=0\/s=1\/s=2\/s=3 by omega) with rfl|rfl|rfl|rfl <;> decide
theorem RL (a b:Int):Bb a b=true↔(a=0\/a=b):=by simp[Bb]
theorem Tc (j:Nat) (hj:j<6) (p:Qd) (k:ByteArray):BN (Ag j k) p=true↔∀i,i<4->(A8 j p i=0\/A8 j p i=pk k i):=by
 have e:∀s,s<4->A8 j p (Ck j s)=Ar p.s p.p p.o p.g s:=λs hs=>by unfold A8;rw[(FY j hj s hs).1]
 have e0:A8 j p (Ck j 0)=p.s:=e 0 (by omega);have e1:A8 j p (Ck j 1)=p.p:=e 1 (by omega);have e2:A8 j p (Ck j 2)=p.o:=e 2 (by omega);have e3:A8 j p (Ck j 3)=p.g:=e 3 (by omega);have h:BN (Ag j k) p=true↔(((Bb p.s (pk k (Ck j 0))=true/\Bb p.p (pk k (Ck j 1))=true)/\Bb p.o (pk k (Ck j 2))=true)/\Bb p.g (pk k (Ck j 3))=true):=by unfold BN Ag;simp only[Bool.and_eq_true]
 rw[h];simp only[RL];rw[<- e0,<- e1,<- e2,<- e3];constructor
 .rintro⟨⟨⟨h0,h1⟩,h2⟩,h3⟩ i hi;obtain⟨s,hs,es⟩:=J6 j hj i hi;rw[<- es];rcases (show s=0\/s=1\/s=2\/s=3 by omega) with rfl|rfl|rfl|rfl;.exact h0
  .exact h1
  .exact h2
  .exact h3
 .intro h;exact⟨⟨⟨h _ (FY j hj 0 (by omega)).2,h _ (FY j hj 1 (by omega)).2⟩,h _ (FY j hj 2 (by omega)).2⟩,h _ (FY j hj 3 (by omega)).2⟩
theorem IW (hj:j<6) (hm:KN (A8 j p) m) (hok:BC (A8 j p) 4) (k:ByteArray):BN (Ag j k) p=true↔∀i,i<m->pk k i=A8 j p i:=by
 rw[Tc j hj p k];obtain⟨h4,hn,hz⟩:=hm;constructor
 .intro h i hi;rcases h i (by omega) with q|q;.exact absurd q (hn i hi)
  .exact q.symm
 .intro h i hi;rcases Nat.lt_trichotomy i m with q|q|q;.exact .inr (h i q).symm
  .exact .inl (by rw[q];exact hz (by omega))
  .exact .inl ((hok i hi).2 m q (hz (by omega)))
theorem Od (x:Nat->Int):∃m,KN x m:=by
 by_cases h0:x 0=0;.exact⟨0,by omega,λi hi=>absurd hi (Wy _),λ_=>h0⟩
 by_cases h1:x 1=0;.exact⟨1,by omega,λi hi=>by rw[show i=0 by omega];exact h0,λ_=>h1⟩
 by_cases h2:x 2=0;.exact⟨2,by omega,λi hi=>by rcases (show i=0\/i=1 by omega) with rfl|rfl <;> assumption,λ_=>h2⟩
 by_cases h3:x 3=0;.exact⟨3,by omega,λi hi=>by rcases (show i=0\/i=1\/i=2 by omega) with rfl|rfl|rfl <;> assumption,λ_=>h3⟩
 .exact⟨4,by omega,λi hi=>by rcases (show i=0\/i=1\/i=2\/i=3 by omega) with rfl|rfl|rfl|rfl <;> assumption,λh=>absurd h (by omega)⟩
theorem NJ (x:Nat->Int) (m:Nat) (h0:0<=x m) (h1:x m<=2000000000):BM (KF x (m+1)).toList=BM (G2 x (m+1)).toList+1/\(G2 x (m+1)).toList.length=(KF x (m+1)).toList.length:=by rw[ByteArray.toList_eq,ByteArray.toList_eq,FC,EO];show BM (EN x m++PM (x m+1))=BM (EN x m++PM (x m))+1/\(EN x m++PM (x m)).length=_;rw[Jg,Jg];have a:=Hx (x m) h0 (by omega);have b:=Hx (x m+1) (by omega) (by omega);refine⟨?_,by simp[PM]⟩;show BM (EN x m)*256 ^ 4+BM (PM (x m+1))=BM (EN x m)*256 ^ 4+BM (PM (x m))+1;omega
theorem L5 (hj:j<6) (hm:KN (A8 j p) (m+1)) (hok:BC (A8 j p) 4) {k:ByteArray} (hk:k.size=16) :
  (Op.bytesLess k.toList (G2 (A8 j p) (m+1)).toList=false/\Op.bytesLess k.toList (KF (A8 j p) (m+1)).toList=true)↔BN (Ag j k) p=true:=by
 have h4:=hm.1;have hr:=(hok m (by omega)).1;obtain⟨n1,n2⟩:=NJ (A8 j p) m hr.1 hr.2;have hkl:k.toList.length=16:=by rw[ByteArray.toList_eq,Array.length_toList];exact hk
 have hll:(G2 (A8 j p) (m+1)).toList.length=4*(m+1):=by rw[ByteArray.toList_eq,EO,IF]
 rw[Tb (by omega) n2 n1,IW hj hm hok,hll,ByteArray.toList_eq,ByteArray.toList_eq,EO];exact Jw k _ (m+1) (by omega) (λi hi=>by have:=(hok i (by omega)).1;omega)
theorem J5 {lo hi:ByteArray} (hlh:Op.bytesLess lo.toList hi.toList=true) (P:ByteArray->Bool):∀K:List ByteArray,(∀k,k∈K->((Op.bytesLess k.toList lo.toList=false/\Op.bytesLess k.toList hi.toList=true)↔P k=true))->Bz hi K=Bz lo K+(K.filter P).length
 | [],_=>rfl
 | k::K,h=>by
  have ih:=J5 hlh P K (λx hx=>h x (List.mem_cons_of_mem _ hx))
  have hk:=h k (List.mem_cons_self ..)
  unfold Bz at ih ⊢
  rw[List.filter_cons,List.filter_cons,List.filter_cons]
  cases h1:Op.bytesLess k.toList lo.toList with
  | true=>
   have h2:Op.bytesLess k.toList hi.toList=true:=DH h1 (EZ hlh)
   have h3:P k=false:=by
    cases hp:P k with
    | false=>rfl
    | true=>
     have:=(hk.2 hp).1
     rw[h1] at this
     cases this
   simp only[h2,h3,if_true,WN]
   simp
   omega
  | false=>
   cases h2:Op.bytesLess k.toList hi.toList with
   | true=>
    have h3:P k=true:=hk.1 ⟨h1,h2⟩
    simp[h3]
    omega
   | false=>
    have h3:P k=false:=by
     cases hp:P k with
     | false=>rfl
     | true=>
      have:=(hk.2 hp).2
      rw[h2] at this
      cases this
    simp[h3]
    omega
theorem Jn (hj:j<6) (hm:KN (A8 j p) (m+1)) (hok:BC (A8 j p) 4) {K:List ByteArray} (hK:∀k,k∈K->k.size=16):Bz (KF (A8 j p) (m+1)) K=Bz (G2 (A8 j p) (m+1)) K+((K.map (Ag j)).filter (λq=>BN q p)).length:=by have hr:=(hok m (by have:=hm.1;omega)).1;obtain⟨n1,n2⟩:=NJ (A8 j p) m hr.1 hr.2;rw[J5 ((FF _ _ n2).2 (by omega)) (λk=>BN (Ag j k) p) K (λk hk=>L5 hj hm hok (hK k hk)),List.filter_map,WH];rfl
theorem IV (hj:j<6) (hm:KN (A8 j p) 0) (hok:BC (A8 j p) 4) (K:List ByteArray):((K.map (Ag j)).filter (λq=>BN q p)).length=K.length:=by rw[List.filter_eq_self.2,WH];intro q hq;obtain⟨k,_,rfl⟩:=List.mem_map.1 hq;exact (IW hj hm hok k).2 (λi hi=>absurd hi (Wy _))
theorem Ki (K:List ByteArray):Bp { data:=#[] } { data:=#[] } K=K:=by
 unfold Bp;rw[List.filter_eq_self];intro k _;have e:(({ data:=#[] }:ByteArray)).toList=[]:=by unfold ByteArray.toList;unfold ByteArray.toList.loop;rfl
 unfold O9;rw[e];cases k.toList <;> rfl
def CW (perm:Nat) (K:List ByteArray):Prop:=∀k,k∈K->k.size=16/\CV (Ag perm k)=true
def Qc (w:World) (perm:Nat) (K:List ByteArray) (e:Ending) (w' : World):Prop:=
 ∃(ok:Bool) (a:Option Addr) (c:Nat) (L:List Qd),e=.returned (.tuple #[.slice a L.length c,.bool ok])/\Bl w w'/\BW w' a L/\((ok=true/\L=K.map (Ag perm)/\CW perm K)\/(ok=false/\L=[]/\¬ CW perm K))
theorem GA (perm:Nat) (hp:perm<6) (b o:Nat) (w:World) (n:Nat) (t:Ro n) (v:Value) (hh:Nat) (hc0:w.cell? (ad b o)=some (.func (.func (CN perm)) #[] #[])) (hc1:w.cell? (ad b (o+1))=some v)
  (ht:Ei (λbb=>bb<w.heap.size) w n t v) (hb:Br n true t hh) (hasc:DE (Ab n t)) (hlen:(Ab n t).length<=300) :
  WS 92 #[.pointer (some (ad b o))] w (Qc w perm (Ab n t)):=by
 have hga:=Jl { data:=#[] } { data:=#[] } w.heap.size w n t v true hh ht hb hasc (by omega);obtain⟨K,hK⟩:=gn (Ab n t);rw[<- hK] at hga hlen ⊢;have HP:=hid (ai hp (ai hc0 (Ws _ _ hc0)));clear ht hb hasc hK hp hc0 hh t n;obtain⟨i0,hi0,hz0,hz1,hz2⟩:=info_parts Tryz.info140;have HI:=hid (ai hi0 (ai hz0 (ai hz1 hz2)));clear hi0 hz0 hz1 hz2;rcases hga with ⟨p,rfl,hcall⟩|⟨p,rfl,hcall⟩
 .have HC:=hid (hcall w none 0 0 [] (Wt _ _) (Wu _) (World.ownsRow_nil _ _ _ _) rfl (by omega));clear hcall;rw[List.nil_append,Ki] at HC;go_enter Tryz.func92,Tryz.ntmps92;go_wp2_with fail
  (with_reducible refine HC.o.mono ?_)
  rintro e w3 ⟨a3,c3,rfl,ho3,hb3⟩;obtain⟨kl,hkl⟩:=gn K.length;have HKL:=hid hkl;have S3:U (BE w3 a3 kl (gt K)/\Bl w w3):=by obtain⟨a6,c6,e6,q,_⟩:=Cp ho3 rfl;injection e6 with e6 _ _;subst e6;exact⟨by rw[hkl];exact q.rd,hb3⟩
  rw[<- hkl] at hlen ⊢;clear hkl ho3 hb3 HC;go_wp2;go_loopw [4,6,7,14] (λout _ _ i wr=>∃(k:Nat) (R:List Qd),k<=kl/\i=iv k/\R=(K.take k).map (Ag perm)/\CW perm (K.take k)/\wr.ownsRow w3.heap.size 140 4 out R.length (Aq R)/\Bl w3 wr) (λ_ _ _ i _=>kl-(intOf i).toNat)
  case atStart=>exact⟨0,[],Ww _,rfl,rfl,(λk hk=>by simp at hk),World.ownsRow_nil _ _ _ _,Wt _ _⟩
  case round=>
   obtain⟨k,R,hk,rfl,hR,hgd,hown,hbel⟩:=hrel;obtain⟨ar,cr,er,_⟩:=Ap hown;subst er;have hRl:R.length=k:=by rw[hR,WH,WI,<- HKL.o];omega
   have HQ:=hid (ai hown (ai hbel (ai hR (ai hgd hRl))));clear hown hbel hR hgd hRl;obtain⟨rl,hrl⟩:=gn R.length;have HRl:=hid hrl;have hrlk:=hrl.trans HQ.o.2.2.2.2;have hrlk1:rl<=k:=by omega
   rw[<- hrl] at HQ ⊢;clear hrl hrlk;have k0:(0:Int)<=(k:Int):=by omega
   have HBw:=hid (S3.o.2.trans (HQ.o.2.1.mono S3.o.2.size));by_cases hlt:k<kl
   .have k1:(k:Int)<(kl:Int):=by omega
    have hkK:k<K.length:=by rw[<- HKL.o];exact hlt
    obtain⟨bb,oo,ea2,s1⟩:=(S3.o.1.below HQ.o.2.1).cellOf k hlt;obtain⟨key,hkey⟩:=gn (gt K k);rw[<- hkey] at s1;have HKy:U (key=K[k]/\key∈K):=by
     have e:key=K[k]:=by rw[hkey,Kb hkK]
     exact⟨e,by rw[e];exact WE hkK⟩
    have l0:wr.cell? (ad b o)=some (.func (.func (CN perm)) #[] #[]):=by rw[HBw.o.cell (show b<w.heap.size from HP.o.2.2)];exact HP.o.2.1
    clear hkey hc1;subst ea2;by_cases hsz:key.size=16
    .have hszi:(key.size:Int)=16:=by omega
     have HQd:=hid (FD perm HP.o.1 key hsz wr);go_wp2_with fail
     (with_reducible refine HQd.o.mono ?_)
     rintro e w5 ⟨rfl,hb5⟩;obtain⟨qd,hqd⟩:=gn (Ag perm key);have HQq:U (qd=Ag perm key):=hqd;have HIs:U (∀W:World,WS 130 #[.agg #[iv qd.s,iv qd.p,iv qd.o,iv qd.g]] W (WT W (.bool (CV qd)))):=λW=>I3 qd W;rw[<- hqd];clear hqd;unfold qv;go_wp2_with fail
     (with_reducible refine (HIs.o _).mono ?_)
     rintro e w6 ⟨rfl,hb6⟩;have z:=(Bx.new w5 #[iv qd.s,iv qd.p,iv qd.o,iv qd.g] 140);have hz5:=hb5.size;have hz6:=hb6.size;have hz3:=HQ.o.2.1.size;simp only[WJ] at hz6;have hb56:Bl w5 w6:=(Aa w5 (.cells #[iv qd.s,iv qd.p,iv qd.o,iv qd.g] 140)).trans (hb6.mono (by simp));have z6:Bx w6 w5.heap.size 140 #[iv qd.s,iv qd.p,iv qd.o,iv qd.g]:=(hb6.block _ (by simp)).trans z;have y0:=z6.cell 0;have y1:=z6.cell 1;have y2:=z6.cell 2;have y3:=z6.cell 3;simp at y0 y1 y2 y3;have HO6:U (w6.ownsRow w3.heap.size 140 4 (.slice ar rl cr) rl (Aq R)/\Bl w3 w6/\Bl w w6):=by have q1:=hb5.trans (hb56.mono hz5);have q2:=HQ.o.2.1.trans (q1.mono hz3);exact⟨Al HQ.o.1 q1,q2,S3.o.2.trans (q2.mono S3.o.2.size)⟩
     cases hq:CV qd with
     | false=>
      have HNo:U (¬ CW perm K):=λh=>by have:=(h key HKy.o.2).2;rw[<- HQq.o,hq] at this;cases this
      clear hb5 hb6 hb56 z z6 HQd HIs;go_wp2;refine bodyPost_ret (v:=.tuple #[.slice none 0 0,.bool false]) (by simp[results,Tryz.results92,go_sem]) rfl ?_;exact⟨false,none,0,[],rfl,HO6.o.2.2,.inl rfl,.inr ⟨rfl,rfl,HNo.o⟩⟩
     | true=>
      have HG1:U (CW perm (K.take (k+1))):=by
       intro x hx;rw[List.take_add_one,Wx hkK] at hx;rcases List.mem_append.1 hx with hx|hx;.exact HQ.o.2.2.2.1 x hx
       .have e:x=K[k]:=by simpa using hx
        rw[e,<- HKy.o.1];exact⟨hsz,by rw[<- HQq.o];exact hq⟩
      have hz3r:w3.heap.size<=w6.heap.size:=by omega
      have HO7:U ((w6.alloc (.cells #[iv qd.s,iv qd.p,iv qd.o,iv qd.g] 140)).ownsRow w3.heap.size 140 4 (.slice ar rl cr) rl (Aq R)/\(∀j u,(Aq [qd])[j]?=some u->(w6.alloc (.cells #[iv qd.s,iv qd.p,iv qd.o,iv qd.g] 140)).cell? (ad w6.heap.size j)=some u)):=by refine⟨Al HO6.o.1 (Aa _ _),λj u hj=>?_⟩;rw[(Bx.new w6 #[iv qd.s,iv qd.p,iv qd.o,iv qd.g] 140).cell j];simpa[Aq] using hj
      clear hb5 hb6 hb56 z z6 HQd HIs;go_wp2_with (at_builtin;refine wpList_append_own_at _ rfl _ _ 69 rfl w3.heap.size 140 i0 _ 4 32 Tryz.underlying69 HI.o.1 HI.o.2.1 HI.o.2.2.1 HI.o.2.2.2 rfl (by decide) (.slice ar rl cr) rl (Aq R) rfl HO7.o.1 (ad w6.heap.size 0) 1 1 (Aq [qd]) rfl rfl (λj u hj=>by rw[Addr.add_lit,WM];exact HO7.o.2 j u hj) (by intro u hu;simp[Aq] at hu;rcases hu with rfl|rfl|rfl|rfl <;> rfl) (by unfold maxLen;omega) (by omega) (by simp;omega) ?_)
      intro v7 w7 ho7 hg7 _ hat7;have H7:U (CW perm (K.take (k+1))/\w7.ownsRow w3.heap.size 140 4 v7 (R++[qd]).length (Aq (R++[qd]))/\Bl w3 w7):=by refine⟨HG1.o,by rw[CB,WD,<- HRl.o];exact ho7,?_⟩;exact (HO6.o.2.1.trans ((Aa _ _).mono hz3r)).grown hg7 (by simp;omega) (λg e=>(Aw HQ.o.1 g e).1)
      have HN:U (R++[qd]=(K.take (k+1)).map (Ag perm)):=by show R++[qd]=_;rw[List.take_add_one,Wx hkK,List.map_append,<- HQ.o.2.2.1,HQq.o,HKy.o.1];rfl
      obtain⟨a7,c7,e7,_⟩:=Ap ho7;subst e7;clear ho7 hg7 hat7 HO7;go_wp2;go_roundw;case rel=>exact⟨k+1,R++[qd],by omega,by go_num,HN.o,H7.o⟩
      case measure=>simp[intOf];omega
    .have hszi:¬ (key.size:Int)=16:=by omega
     have HNo:U (¬ CW perm K):=λh=>hsz (h key HKy.o.2).1;go_wp2;refine bodyPost_ret (v:=.tuple #[.slice none 0 0,.bool false]) (by simp[results,Tryz.results92,go_sem]) rfl ?_;exact⟨false,none,0,[],rfl,HBw.o,.inl rfl,.inr ⟨rfl,rfl,HNo.o⟩⟩
   .obtain rfl:k=kl:=by omega
    have k1:¬ (k:Int)<(k:Int):=by omega
    have HF:U (BW wr ar R/\rl=R.length/\R=K.map (Ag perm)/\CW perm K):=by
     have ho:=HQ.o.1;rw[HRl.o] at ho;have e:K.take k=K:=by rw[HKL.o,WG]
     refine⟨F8 ho,HRl.o,?_,?_⟩;.rw[HQ.o.2.2.1,e]
     .have:=HQ.o.2.2.2.1;rw[e] at this;exact this
    go_wp2;refine bodyPost_ret (v:=.tuple #[.slice ar rl cr,.bool true]) (by simp[results,Tryz.results92,go_sem]) rfl ?_;exact⟨true,ar,cr,R,by rw[<- HF.o.2.1],HBw.o,HF.o.1,.inl ⟨rfl,HF.o.2.2.1,HF.o.2.2.2⟩⟩
 .have HC:=hid (hcall w none 0 0 [] (Wt _ _) (Wu _) (World.ownsRow_nil _ _ _ _) rfl (by omega));clear hcall;rw[List.nil_append,Ki] at HC;go_enter Tryz.func92,Tryz.ntmps92;go_wp2_with fail
  (with_reducible refine HC.o.mono ?_)
  rintro e w3 ⟨a3,c3,rfl,ho3,hb3⟩;obtain⟨kl,hkl⟩:=gn K.length;have HKL:=hid hkl;have S3:U (BE w3 a3 kl (gt K)/\Bl w w3):=by obtain⟨a6,c6,e6,q,_⟩:=Cp ho3 rfl;injection e6 with e6 _ _;subst e6;exact⟨by rw[hkl];exact q.rd,hb3⟩
  rw[<- hkl] at hlen ⊢;clear hkl ho3 hb3 HC;go_wp2;go_loopw [4,6,7,14] (λout _ _ i wr=>∃(k:Nat) (R:List Qd),k<=kl/\i=iv k/\R=(K.take k).map (Ag perm)/\CW perm (K.take k)/\wr.ownsRow w3.heap.size 140 4 out R.length (Aq R)/\Bl w3 wr) (λ_ _ _ i _=>kl-(intOf i).toNat)
  case atStart=>exact⟨0,[],Ww _,rfl,rfl,(λk hk=>by simp at hk),World.ownsRow_nil _ _ _ _,Wt _ _⟩
  case round=>
   obtain⟨k,R,hk,rfl,hR,hgd,hown,hbel⟩:=hrel;obtain⟨ar,cr,er,_⟩:=Ap hown;subst er;have hRl:R.length=k:=by rw[hR,WH,WI,<- HKL.o];omega
   have HQ:=hid (ai hown (ai hbel (ai hR (ai hgd hRl))));clear hown hbel hR hgd hRl;obtain⟨rl,hrl⟩:=gn R.length;have HRl:=hid hrl;have hrlk:=hrl.trans HQ.o.2.2.2.2;have hrlk1:rl<=k:=by omega
   rw[<- hrl] at HQ ⊢;clear hrl hrlk;have k0:(0:Int)<=(k:Int):=by omega
   have HBw:=hid (S3.o.2.trans (HQ.o.2.1.mono S3.o.2.size));by_cases hlt:k<kl
   .have k1:(k:Int)<(kl:Int):=by omega
    have hkK:k<K.length:=by rw[<- HKL.o];exact hlt
    obtain⟨bb,oo,ea2,s1⟩:=(S3.o.1.below HQ.o.2.1).cellOf k hlt;obtain⟨key,hkey⟩:=gn (gt K k);rw[<- hkey] at s1;have HKy:U (key=K[k]/\key∈K):=by
     have e:key=K[k]:=by rw[hkey,Kb hkK]
     exact⟨e,by rw[e];exact WE hkK⟩
    have l0:wr.cell? (ad b o)=some (.func (.func (CN perm)) #[] #[]):=by rw[HBw.o.cell (show b<w.heap.size from HP.o.2.2)];exact HP.o.2.1
    clear hkey hc1;subst ea2;by_cases hsz:key.size=16
    .have hszi:(key.size:Int)=16:=by omega
     have HQd:=hid (FD perm HP.o.1 key hsz wr);go_wp2_with fail
     (with_reducible refine HQd.o.mono ?_)
     rintro e w5 ⟨rfl,hb5⟩;obtain⟨qd,hqd⟩:=gn (Ag perm key);have HQq:U (qd=Ag perm key):=hqd;have HIs:U (∀W:World,WS 130 #[.agg #[iv qd.s,iv qd.p,iv qd.o,iv qd.g]] W (WT W (.bool (CV qd)))):=λW=>I3 qd W;rw[<- hqd];clear hqd;unfold qv;go_wp2_with fail
     (with_reducible refine (HIs.o _).mono ?_)
     rintro e w6 ⟨rfl,hb6⟩;have z:=(Bx.new w5 #[iv qd.s,iv qd.p,iv qd.o,iv qd.g] 140);have hz5:=hb5.size;have hz6:=hb6.size;have hz3:=HQ.o.2.1.size;simp only[WJ] at hz6;have hb56:Bl w5 w6:=(Aa w5 (.cells #[iv qd.s,iv qd.p,iv qd.o,iv qd.g] 140)).trans (hb6.mono (by simp));have z6:Bx w6 w5.heap.size 140 #[iv qd.s,iv qd.p,iv qd.o,iv qd.g]:=(hb6.block _ (by simp)).trans z;have y0:=z6.cell 0;have y1:=z6.cell 1;have y2:=z6.cell 2;have y3:=z6.cell 3;simp at y0 y1 y2 y3;have HO6:U (w6.ownsRow w3.heap.size 140 4 (.slice ar rl cr) rl (Aq R)/\Bl w3 w6/\Bl w w6):=by have q1:=hb5.trans (hb56.mono hz5);have q2:=HQ.o.2.1.trans (q1.mono hz3);exact⟨Al HQ.o.1 q1,q2,S3.o.2.trans (q2.mono S3.o.2.size)⟩
     cases hq:CV qd with
     | false=>
      have HNo:U (¬ CW perm K):=λh=>by have:=(h key HKy.o.2).2;rw[<- HQq.o,hq] at this;cases this
      clear hb5 hb6 hb56 z z6 HQd HIs;go_wp2;refine bodyPost_ret (v:=.tuple #[.slice none 0 0,.bool false]) (by simp[results,Tryz.results92,go_sem]) rfl ?_;exact⟨false,none,0,[],rfl,HO6.o.2.2,.inl rfl,.inr ⟨rfl,rfl,HNo.o⟩⟩
     | true=>
      have HG1:U (CW perm (K.take (k+1))):=by
       intro x hx;rw[List.take_add_one,Wx hkK] at hx;rcases List.mem_append.1 hx with hx|hx;.exact HQ.o.2.2.2.1 x hx
       .have e:x=K[k]:=by simpa using hx
        rw[e,<- HKy.o.1];exact⟨hsz,by rw[<- HQq.o];exact hq⟩
      have hz3r:w3.heap.size<=w6.heap.size:=by omega
      have HO7:U ((w6.alloc (.cells #[iv qd.s,iv qd.p,iv qd.o,iv qd.g] 140)).ownsRow w3.heap.size 140 4 (.slice ar rl cr) rl (Aq R)/\(∀j u,(Aq [qd])[j]?=some u->(w6.alloc (.cells #[iv qd.s,iv qd.p,iv qd.o,iv qd.g] 140)).cell? (ad w6.heap.size j)=some u)):=by refine⟨Al HO6.o.1 (Aa _ _),λj u hj=>?_⟩;rw[(Bx.new w6 #[iv qd.s,iv qd.p,iv qd.o,iv qd.g] 140).cell j];simpa[Aq] using hj
      clear hb5 hb6 hb56 z z6 HQd HIs;go_wp2_with (at_builtin;refine wpList_append_own_at _ rfl _ _ 69 rfl w3.heap.size 140 i0 _ 4 32 Tryz.underlying69 HI.o.1 HI.o.2.1 HI.o.2.2.1 HI.o.2.2.2 rfl (by decide) (.slice ar rl cr) rl (Aq R) rfl HO7.o.1 (ad w6.heap.size 0) 1 1 (Aq [qd]) rfl rfl (λj u hj=>by rw[Addr.add_lit,WM];exact HO7.o.2 j u hj) (by intro u hu;simp[Aq] at hu;rcases hu with rfl|rfl|rfl|rfl <;> rfl) (by unfold maxLen;omega) (by omega) (by simp;omega) ?_)
      intro v7 w7 ho7 hg7 _ hat7;have H7:U (CW perm (K.take (k+1))/\w7.ownsRow w3.heap.size 140 4 v7 (R++[qd]).length (Aq (R++[qd]))/\Bl w3 w7):=by refine⟨HG1.o,by rw[CB,WD,<- HRl.o];exact ho7,?_⟩;exact (HO6.o.2.1.trans ((Aa _ _).mono hz3r)).grown hg7 (by simp;omega) (λg e=>(Aw HQ.o.1 g e).1)
      have HN:U (R++[qd]=(K.take (k+1)).map (Ag perm)):=by show R++[qd]=_;rw[List.take_add_one,Wx hkK,List.map_append,<- HQ.o.2.2.1,HQq.o,HKy.o.1];rfl
      obtain⟨a7,c7,e7,_⟩:=Ap ho7;subst e7;clear ho7 hg7 hat7 HO7;go_wp2;go_roundw;case rel=>exact⟨k+1,R++[qd],by omega,by go_num,HN.o,H7.o⟩
      case measure=>simp[intOf];omega
    .have hszi:¬ (key.size:Int)=16:=by omega
     have HNo:U (¬ CW perm K):=λh=>hsz (h key HKy.o.2).1;go_wp2;refine bodyPost_ret (v:=.tuple #[.slice none 0 0,.bool false]) (by simp[results,Tryz.results92,go_sem]) rfl ?_;exact⟨false,none,0,[],rfl,HBw.o,.inl rfl,.inr ⟨rfl,rfl,HNo.o⟩⟩
   .obtain rfl:k=kl:=by omega
    have k1:¬ (k:Int)<(k:Int):=by omega
    have HF:U (BW wr ar R/\rl=R.length/\R=K.map (Ag perm)/\CW perm K):=by
     have ho:=HQ.o.1;rw[HRl.o] at ho;have e:K.take k=K:=by rw[HKL.o,WG]
     refine⟨F8 ho,HRl.o,?_,?_⟩;.rw[HQ.o.2.2.1,e]
     .have:=HQ.o.2.2.2.1;rw[e] at this;exact this
    go_wp2;refine bodyPost_ret (v:=.tuple #[.slice ar rl cr,.bool true]) (by simp[results,Tryz.results92,go_sem]) rfl ?_;exact⟨true,ar,cr,R,by rw[<- HF.o.2.1],HBw.o,HF.o.1,.inl ⟨rfl,HF.o.2.2.1,HF.o.2.2.2⟩⟩
variable {A:Array Value}{M:Nat->Nat}{W w:World}{f:Value}
def Vx:Array Value:=#[.func (.func 140) #[] #[],.func (.func 141) #[] #[],.func (.func 142) #[] #[],.func (.func 143) #[] #[],.func (.func 144) #[] #[],.func (.func 145) #[] #[]]
theorem SM (j:Nat) (hj:j<6) (w:World):(Instr.index 250 (.agg Vx) (iv (j:Int))).run Tryz.prog w=.ok (.func (.func (CN j)) #[] #[]) w:=by
 rcases (show j=0\/j=1\/j=2\/j=3\/j=4\/j=5 by omega) with rfl|rfl|rfl|rfl|rfl|rfl;.exact Tw w
 .exact Tk w
 .exact Tx w
 .exact Tv w
 .exact TB w
 .exact TC w
def XT (B:Nat) (w:World) (A:Array Value) (M:Nat->Nat) (T:Nat->Nat->Tn) (q:Nat):Prop:=
 A[q*2]?=some (.func (.func (CN q)) #[] #[])/\∃(t:Ro (M q)) (t' : Ro 21) (h:Nat) (v:Value),Dv (M q) (T q) t'/\Ab 21 t'=Ab (M q) t/\Br (M q) true t h/\AJ (T q) 0 (M q) t 0/\Ad (M q) t=M q/\Ei (λb=>B<=b) w (M q) t v/\A[q*2+1]?=some v
theorem XT.keep {B:Nat} {w':World} {T:Nat->Nat->Tn} {q:Nat} (h:XT B w A M T q) (hz:w.heap.size<=w'.heap.size) (hb:∀k,k<w.heap.size->B<=k->w'.heap[k]?=w.heap[k]?):XT B w' A M T q:=by obtain⟨h0,t,t',hh,v,h1,h2,h3,h4,h5,h6,h7⟩:=h;exact⟨h0,t,t',hh,v,h1,h2,h3,h4,h5,h6.mono hz (λb hB hlt=>⟨hB,hb b hlt hB⟩),h7⟩
structure IS (w W:World) (a:Option Addr) (c:Nat) (M:Nat->Nat) (T:Nat->Nat->Tn) (j:Nat) (A:Array Value):Prop where
 ib:Bx W w.heap.size 49 #[.slice a 6 c]
 xb:Bx W (w.heap.size+1) 247 A
 sz:A.size=12
 bel:Bl w W
 xt:∀q,q<j->XT (w.heap.size+2) W A M T q
theorem IS.keep {w W W' : World} {a:Option Addr} {c:Nat} {M:Nat->Nat} {T:Nat->Nat->Tn} {j:Nat} {A:Array Value} (h:IS w W a c M T j A) (hb:Bl W W'):IS w W' a c M T j A:=
 ⟨(hb.block _ h.ib.lt).trans h.ib,(hb.block _ h.xb.lt).trans h.xb,h.sz,h.bel.trans (hb.mono h.bel.size),λq hq=>(h.xt q hq).keep hb.size (λk hk _=>hb.block k hk)⟩
theorem IS.put {a:Option Addr} {c:Nat} {T:Nat->Nat->Tn} (h:IS w W a c M T j A) (hj:j<6) {t:Ro (M j)} {t':Ro 21} {hh:Nat} {v:Value} (h1:Dv (M j) (T j) t') (h2:Ab 21 t'=Ab (M j) t) (h3:Br (M j) true t hh) (h4:AJ (T j) 0 (M j) t 0) (h5:Ad (M j) t=M j) (h6:Ei (λb=>w.heap.size+2<=b) W (M j) t v) :
  IS w ((W.setCell (ad (w.heap.size+1) (j*2)) (.func (.func (CN j)) #[] #[])).setCell (ad (w.heap.size+1) (j*2+1)) v) a c M T (j+1) ((A.setIfInBounds (j*2) (.func (.func (CN j)) #[] #[])).setIfInBounds (j*2+1) v):=by
 have hz:=h.sz;have hk:∀k,w.heap.size+2<=k->((W.setCell (ad (w.heap.size+1) (j*2)) (.func (.func (CN j)) #[] #[])).setCell (ad (w.heap.size+1) (j*2+1)) v).heap[k]?=W.heap[k]?:=λk hk=>(Wv _ _ _ _ (by simp;omega)).trans (Wv _ _ _ _ (by simp;omega));refine⟨(h.ib.other (by simp) _).other (by simp) _,(h.xb.set _ _).set _ _,by simp[hz],(h.bel.setCell (by simp) _).setCell (by simp) _,λq hq=>?_⟩;by_cases e:q=j
 .subst e;refine⟨?_,t,t',hh,v,h1,h2,h3,h4,h5,h6.mono (by simp) (λb hB hlt=>⟨hB,hk b hB⟩),?_⟩;.rw[Array.getElem?_setIfInBounds_ne (by omega),Array.getElem?_setIfInBounds_self_of_lt (by omega)]
  .rw[Array.getElem?_setIfInBounds_self_of_lt (by simp;omega)]
 .obtain⟨g0,s,s',sh,u,g1,g2,g3,g4,g5,g6,g7⟩:=h.xt q (by omega);refine⟨?_,s,s',sh,u,g1,g2,g3,g4,g5,g6.mono (by simp) (λb hB hlt=>⟨hB,hk b hB⟩),?_⟩;.rw[Array.getElem?_setIfInBounds_ne (by omega),Array.getElem?_setIfInBounds_ne (by omega)];exact g0
  .rw[Array.getElem?_setIfInBounds_ne (by omega),Array.getElem?_setIfInBounds_ne (by omega)];exact g7
theorem NZ {m m0:Nat} {N N0:Nat->Tn} {t t0:Ro 21} (hv:Dv m N t) (hv0:Dv m0 N0 t0) {K:List ByteArray} (hK:Ab 21 t=K):((K.map (Ag j)).length=((Ab 21 t0).map (Ag 0)).length/\∀q,q∈K.map (Ag j)->q∈(Ab 21 t0).map (Ag 0))↔ID j m N m0 N0:=by
 subst hK;constructor;.rintro⟨h1,h2⟩ s s0 hs hs0;have e:=Dp hv hs;have e0:=Dp hv0 hs0;subst e;subst e0;exact⟨by simpa using h1,λk hk=>h2 _ (List.mem_map_of_mem hk)⟩
 .intro h;obtain⟨h1,h2⟩:=h t t0 hv hv0;refine⟨by simpa using h1,λq hq=>?_⟩;obtain⟨k,hk,rfl⟩:=List.mem_map.1 hq;exact h2 k hk
def NP (W:World) (M:Nat->Nat) (T:Nat->Nat->Tn) (j:Nat) (f:Value):Prop:=
 1<=j->∃(B:Nat) (t:Ro 21),f=.map (some B)/\Dv (M 0) (T 0) t/\DO W B ((Ab 21 t).map (Ag 0))
theorem NP.keep {W':World} {T:Nat->Nat->Tn} (h:NP W M T j f) (hb:Bl W W'):NP W' M T j f:=λhj=>by
 obtain⟨B,t,h1,h2,h3⟩:=h hj
 exact⟨B,t,h1,h2,h3.below hb⟩
theorem NP.put {T:Nat->Nat->Tn} {b i i':Nat} {u u':Value} {ty:TypeId} (h:NP W M T j f) (hx:Bx W b ty A):NP ((W.setCell (ad b i) u).setCell (ad b i') u') M T j f:=λhj=>by
 obtain⟨B,t,h1,h2,h3⟩:=h hj
 refine⟨B,t,h1,h2,h3.kept ?_⟩
 have hne:B≠b:=by
  rintro rfl
  obtain⟨es,cl,g,_⟩:=h3
  have hx' : W.heap[B]?=_:=hx
  rw[g] at hx'
  cases hx'
 exact (Wv _ _ _ _ hne).trans (Wv _ _ _ _ hne)
def UO (M:Nat->Nat) (T:Nat->Nat->Tn) (j:Nat):Prop:=(∀q,q<j->UN q (M q) (T q))/\∀i,1<=i->i<j->ID i (M i) (T i) (M 0) (T 0)
def Vt (w:World) (a:Option Addr) (n c:Nat) (M:Nat->Nat) (T:Nat->Nat->Tn) (e:Ending) (w' : World):Prop:=
 (e=.returned (.tuple #[.pointer none,.bool false])/\¬ VI n M T/\Bl w w')\/(e=.returned (.tuple #[pt (w.heap.size+1),.bool true])/\VI n M T/\∃A,IS w w' a c M T 6 A)
theorem JK (a:Option Addr) (n c:Nat) (M:Nat->Nat) (T:Nat->Nat->Tn) (w:World) (h:Co w a n M T) (hn:n<=1048576) (hN:CU n M T) :
  WS 91 #[.agg #[.slice a n c]] w (Vt w a n c M T):=by
 by_cases h6:n=6;case neg=>
  have h6i:¬ (n:Int)=6:=by omega
  have h6d:((n:Int) != 6)=true:=by simp;omega
  have HF:U (¬ VI n M T):=λq=>h6 q.1;clear h hN;go_enter Tryz.func91,Tryz.ntmps91;go_wp2;refine bodyPost_ret (v:=.tuple #[.pointer none,.bool false]) (by simp[results,Tryz.results91,go_sem]) rfl ?_;exact .inl ⟨rfl,HF.o,Aa _ _⟩
 case pos=>
 subst h6;have HR:U (Co w a 6 M T/\CU 6 M T):=⟨h,hN⟩;have HOr:U (∀W:World,WS 125 #[] W (WT W (.agg Vx))):=Iq;clear h hN hn;go_enter Tryz.func91,Tryz.ntmps91;go_wp2_with fail
 (with_reducible refine (HOr.o _).mono ?_)
 rintro e w0 ⟨rfl,hb0⟩;have I0:U (∃A,IS w w0 a c M T 0 A):=by have b1:=Bx.new w #[.slice a 6 c] 49;have b2:=Bx.new (w.alloc (.cells #[.slice a 6 c] 49)) #[.nilFunc,.nilIface,.nilFunc,.nilIface,.nilFunc,.nilIface,.nilFunc,.nilIface,.nilFunc,.nilIface,.nilFunc,.nilIface] 247;simp only[WJ] at b2;exact⟨_,(hb0.block _ (by simp;omega)).trans (b1.alloc _),(hb0.block _ (by simp)).trans b2,rfl,((Aa _ _).alloc (by simp) _).trans (hb0.mono (by simp;omega)),λq hq=>absurd hq (Wy _)⟩
 clear hb0 HOr;go_wp2_with fail
 go_loopw [5,6,7,8,9,10,18] (λf _ _ _ _ _ i wr=>∃(j:Nat) (A:Array Value),j<=6/\i=iv j/\IS w wr a c M T j A/\NP wr M T j f/\UO M T j) (λ_ _ _ _ _ _ i _=>6-(intOf i).toNat)
 case atStart=>obtain⟨A,h⟩:=I0.o;exact⟨0,A,by omega,rfl,h,λh=>absurd h (by omega),λq hq=>absurd hq (Wy _),λi _ h2=>absurd h2 (by omega)⟩
 case round=>
  obtain⟨j,A,hj,rfl,hIS,hF,hV⟩:=hrel;have HS:U (IS w wr a c M T j A/\UO M T j):=⟨hIS,hV⟩;have HFs:U (NP wr M T j u5):=hF;have j0:(0:Int)<=(j:Int):=by omega
  clear hF hV I0;by_cases hlt:j<6
  .have j1:(j:Int)<6:=by omega
   have b0:=hIS.ib.cell 0;simp at b0;have bl:=hIS.ib.lt;have hix:=SM j hlt;rcases HR.o.1.below hIS.bel with q|⟨bb,oo,ea,hc⟩;.omega
   obtain⟨aj,cj,s0,hrd⟩:=hc j hlt;have hfit:=HR.o.2 j hlt;obtain⟨m,hm⟩:∃m,m=M j:=⟨_,rfl⟩;have HM:U (m=M j):=hm;have HRt:U (WS 126 #[.agg #[.slice aj m cj]] wr (NS wr (M j) (T j))):=by rw[hm];exact KB aj (M j) cj (T j) wr hrd hfit.1 hfit.2
   rw[<- hm] at s0;subst ea;clear hc hrd hfit hm hIS;go_wp2_with fail
   (with_reducible refine HRt.o.mono ?_)
   rintro e w1 ⟨hb1,v,ok,rfl,hr⟩;have H1:=hid (ai (HS.o.1.keep hb1) (ai (HFs.o.keep hb1) (ai HS.o.2 (ai hb1.size HS.o.1.xb.lt))));clear hb1 HRt b0 bl s0 hix HFs;cases ok with
   | false=>
    have HF:U (¬ VI 6 M T):=λq=>by
     obtain⟨t,ht,_⟩:=q.2.1 j hlt;rcases hr with ⟨q,_⟩|⟨_,hno⟩;.cases q
     .exact hno ⟨t,ht⟩
    clear hr;go_wp2;refine bodyPost_ret (v:=.tuple #[.pointer none,.bool false]) (by simp[results,Tryz.results91,go_sem]) rfl ?_;exact .inl ⟨rfl,HF.o,H1.o.1.bel⟩
   | true=>
    obtain⟨t,t',hh,q1,q2,q3,q4,q5,q6⟩:∃(t:Ro (M j)) (t' : Ro 21) (h:Nat),Dv (M j) (T j) t'/\Ab 21 t'=Ab (M j) t/\Br (M j) true t h/\AJ (T j) 0 (M j) t 0/\Ad (M j) t=M j/\Ei (λb=>wr.heap.size<=b) w1 (M j) t v:=by
     rcases hr with ⟨_,q⟩|⟨q,_⟩;.exact q
     .cases q
    have HT:=hid (ai q1 (ai q2 (ai q3 (ai q4 (ai q5 q6)))));obtain⟨nb,_,hnb,c0,hv⟩:=q6.count;obtain⟨kl,hkl⟩:=gn ((Ab (M j) t).length);have HKL:=hid hkl;rw[<- hkl] at c0;have HBe:=hid (BK nb kl w1 c0);clear hr q1 q2 q3 q4 q5 q6 hkl hnb c0;rcases hv with rfl|rfl
    .go_wp2_with fail
     (with_reducible refine HBe.o.mono ?_)
     rintro e w2 ⟨rfl,hw2⟩;subst hw2;by_cases h300:300<kl
     .have i300:(300:Int)<(kl:Int):=by omega
      have i300d:=decide_eq_true i300;have HF:U (¬ VI 6 M T):=λq=>by obtain⟨t2,ht2,hl2,_⟩:=q.2.1 j hlt;have e:=Dp ht2 HT.o.1;subst e;rw[HT.o.2.1,<- HKL.o] at hl2;omega
      go_wp2;refine bodyPost_ret (v:=.tuple #[.pointer none,.bool false]) (by simp[results,Tryz.results91,go_sem]) rfl ?_;exact .inl ⟨rfl,HF.o,H1.o.1.bel⟩
     .have i300:¬ (300:Int)<(kl:Int):=by omega
      have i300d:=decide_eq_false i300;have hx12:=H1.o.1.sz;obtain⟨y0,x0⟩:∃y,w2.cell? (ad (w.heap.size+1) (j*2))=some y:=⟨A[j*2],by rw[H1.o.1.xb.cell,Array.getElem?_eq_getElem (by omega)]⟩;obtain⟨y1,x1⟩:∃y,w2.cell? (ad (w.heap.size+1) (j*2+1))=some y:=⟨A[j*2+1],by rw[H1.o.1.xb.cell,Array.getElem?_eq_getElem (by omega)]⟩;have f0:=H1.o.1.xb.frozen (j*2);have f1:=H1.o.1.xb.frozen (j*2+1);have xl:=H1.o.1.xb.lt;obtain⟨W2,hW2⟩:=gn ((w2.setCell (ad (w.heap.size+1) (j*2)) (.func (.func (CN j)) #[] #[])).setCell (ad (w.heap.size+1) (j*2+1)) (.iface 306 (pt nb)));have H2:U (∃A',IS w W2 (some (ad bb oo)) c M T (j+1) A'/\NP W2 M T j u5/\WS 92 #[.pointer (some (ad (w.heap.size+1) (j*2)))] W2 (Qc W2 j (Ab (M j) t))):=by
       have q6:=HT.o.2.2.2.2.2.mono (Wu _) (λb hB _=>⟨WC H1.o.2.2.2.2 hB,rfl⟩);have hput:=H1.o.1.put hlt HT.o.1 HT.o.2.1 HT.o.2.2.1 HT.o.2.2.2.1 HT.o.2.2.2.2.1 q6;rw[<- hW2] at hput;refine⟨_,hput,by rw[hW2];exact H1.o.2.1.put H1.o.1.xb,?_⟩;refine GA j hlt (w.heap.size+1) (j*2) W2 (M j) t (.iface 306 (pt nb)) hh ?_ ?_ ?_ HT.o.2.2.1 ?_ (by rw[<- HKL.o];omega);.rw[hput.xb.cell,Array.getElem?_setIfInBounds_ne (by omega),Array.getElem?_setIfInBounds_self_of_lt (by omega)]
       .rw[hput.xb.cell,Array.getElem?_setIfInBounds_self_of_lt (by simp;omega)]
       .refine q6.mono (by rw[hW2];simp) (λb hB hlt=>⟨by rw[hW2];simpa using hlt,?_⟩);rw[hW2];exact (Wv _ _ _ _ (by simp;omega)).trans (Wv _ _ _ _ (by simp;omega))
       .rw[<- HT.o.2.1];exact Ba HT.o.1.2.2.2.2.1
      go_wp2_with fail
      rw[<- hW2];clear hW2 x0 x1 f0 f1 xl hx12;obtain⟨A',g1,g2,g3⟩:=H2.o;have HA:=hid (ai g1 g2);have HQs:=hid g3;clear g1 g2 g3 H2;(with_reducible refine HQs.o.mono ?_)
      rintro e w3 ⟨ok3,a3,c3,L,rfl,hb3,hrq,hr3⟩;obtain⟨l,hl⟩:=gn L.length;have H3:=hid (ai (HA.o.1.keep hb3) (ai (HA.o.2.keep hb3) (ai hrq hl)));have hl3:l<=300:=by
       rcases hr3 with ⟨_,q,_⟩|⟨_,q,_⟩;.rw[hl,q,WH,<- HKL.o];omega
       .rw[hl,q];simp
      rw[<- hl];clear hb3 hrq hl HA HQs;cases ok3 with
      | false=>
       have HF:U (¬ VI 6 M T/\L.Nodup):=by
        rcases hr3 with ⟨q,_⟩|⟨_,q,hno⟩;.cases q
        .refine⟨λq=>?_,by rw[q];exact List.nodup_nil⟩;obtain⟨t2,ht2,_,hg2⟩:=q.2.1 j hlt;have e:=Dp ht2 HT.o.1;subst e;rw[HT.o.2.1] at hg2;exact hno hg2
       clear hr3;by_cases hj0:j=0
       .have hj0i:(j:Int)=0:=by omega
        have hj0b:((j:Int) == 0)=true:=by simp;omega
        have HSet:=hid (E6 a3 l c3 L w3 H3.o.2.2.1 H3.o.2.2.2 (by omega) HF.o.2);go_wp2_with fail
        (with_reducible refine HSet.o.mono ?_)
        rintro e w4 ⟨Bm,rfl,hqm,hb4,_⟩;have H4:=hid (H3.o.1.bel.trans (hb4.mono H3.o.1.bel.size));clear hb4 hqm;go_wp2;refine bodyPost_ret (v:=.tuple #[.pointer none,.bool false]) (by simp[results,Tryz.results91,go_sem]) rfl ?_;exact .inl ⟨rfl,HF.o.1,H4.o⟩
       .have hj0i:¬ (j:Int)=0:=by omega
        have hj0b:((j:Int) == 0)=false:=by simp;omega
        go_wp2;refine bodyPost_ret (v:=.tuple #[.pointer none,.bool false]) (by simp[results,Tryz.results91,go_sem]) rfl ?_;exact .inl ⟨rfl,HF.o.1,H3.o.1.bel⟩
      | true=>
       have HG:U (L=(Ab (M j) t).map (Ag j)/\CW j (Ab (M j) t)/\L.Nodup/\UN j (M j) (T j)):=by
        rcases hr3 with ⟨_,q,hgd⟩|⟨q,_⟩;.refine⟨q,hgd,?_,t',HT.o.1,by rw[HT.o.2.1,<- HKL.o];omega,by rw[HT.o.2.1];exact hgd⟩;rw[q];refine DF hlt ?_ (λk hk=>(hgd k hk).1);rw[<- HT.o.2.1];exact Ba HT.o.1.2.2.2.2.1
        .cases q
       clear hr3;by_cases hj0:j=0
       .have hj0i:(j:Int)=0:=by omega
        have hj0b:((j:Int) == 0)=true:=by simp;omega
        have HSet:=hid (E6 a3 l c3 L w3 H3.o.2.2.1 H3.o.2.2.2 (by omega) HG.o.2.2.1);go_wp2_with fail
        (with_reducible refine HSet.o.mono ?_)
        rintro e w4 ⟨Bm,rfl,hqm,hb4,_⟩;have H4:=hid (ai (H3.o.1.keep hb4) hqm);have HIs:=hid (FU Bm a3 l c3 L L w4 hqm (H3.o.2.2.1.below hb4) H3.o.2.2.2 (by omega));clear hb4 hqm HSet;go_wp2_with fail
        (with_reducible refine HIs.o.mono ?_)
        rintro e w5 ⟨bq,rfl,hbq,hb5⟩;have ebq:=hbq.2 ⟨rfl,λq hq=>hq⟩;subst ebq;have H5:U (IS w w5 (some (ad bb oo)) c M T (j+1) A'/\NP w5 M T (j+1) (.map (some Bm))/\UO M T (j+1)):=by
         refine⟨H4.o.1.keep hb5,λ_=>⟨Bm,?_⟩,λq hq=>?_,λi h1 h2=>?_⟩;.have q1:=HT.o.1;have q2:=HT.o.2.1;have q3:=HG.o.1;have q4:=H4.o.2.below hb5;rw[<- q2] at q3;rw[q3] at q4;clear HT HKL HBe HG H4 HIs H3 H1 HS HM hbq;subst hj0;exact⟨t',rfl,q1,q4⟩
         .have e:q=j:=by omega
          rw[e];exact HG.o.2.2.2
         .omega
        clear hb5 hbq;go_wp2;go_roundw;case rel=>exact⟨j+1,A',by omega,by go_num,H5.o⟩
        case measure=>simp[intOf];omega
       .have hj0i:¬ (j:Int)=0:=by omega
        have hj0b:((j:Int) == 0)=false:=by simp;omega
        obtain⟨Bm,t0,ef,hv0,hqm⟩:=H3.o.2.1 (by omega);subst ef;have HIs:=hid (FU Bm a3 l c3 L _ w3 hqm H3.o.2.2.1 H3.o.2.2.2 (by omega));have HV0:=hid hv0;clear hqm hv0;go_wp2_with fail
        (with_reducible refine HIs.o.mono ?_)
        rintro e w5 ⟨bq,rfl,hbq,hb5⟩;have HB:U (bq=true↔ID j (M j) (T j) (M 0) (T 0)):=by rw[HG.o.1,NZ HT.o.1 HV0.o HT.o.2.1] at hbq;exact hbq
        have H5:=hid (ai (H3.o.1.keep hb5) (H3.o.2.1.keep hb5));clear hb5 hbq HIs;cases bq with
        | false=>
         have HF:U (¬ VI 6 M T):=λq=>by have:=HB.o.2 (q.2.2 j (by omega) hlt);cases this
         go_wp2;refine bodyPost_ret (v:=.tuple #[.pointer none,.bool false]) (by simp[results,Tryz.results91,go_sem]) rfl ?_;exact .inl ⟨rfl,HF.o,H5.o.1.bel⟩
        | true=>
         have H6:U (NP w5 M T (j+1) (.map (some Bm))/\UO M T (j+1)):=by
          refine⟨λ_=>H5.o.2 (by omega),λq hq=>?_,λi h1 h2=>?_⟩
          .by_cases e:q=j;.rw[e];exact HG.o.2.2.2
           .exact H1.o.2.2.1.1 q (by omega)
          .by_cases e:i=j;.rw[e];exact HB.o.1 rfl
           .exact H1.o.2.2.1.2 i h1 (by omega)
         go_wp2;go_roundw;case rel=>exact⟨j+1,A',by omega,by go_num,H5.o.1,H6.o⟩
         case measure=>simp[intOf];omega
    .go_wp2_with fail
     (with_reducible refine HBe.o.mono ?_)
     rintro e w2 ⟨rfl,hw2⟩;subst hw2;by_cases h300:300<kl
     .have i300:(300:Int)<(kl:Int):=by omega
      have i300d:=decide_eq_true i300;have HF:U (¬ VI 6 M T):=λq=>by obtain⟨t2,ht2,hl2,_⟩:=q.2.1 j hlt;have e:=Dp ht2 HT.o.1;subst e;rw[HT.o.2.1,<- HKL.o] at hl2;omega
      go_wp2;refine bodyPost_ret (v:=.tuple #[.pointer none,.bool false]) (by simp[results,Tryz.results91,go_sem]) rfl ?_;exact .inl ⟨rfl,HF.o,H1.o.1.bel⟩
     .have i300:¬ (300:Int)<(kl:Int):=by omega
      have i300d:=decide_eq_false i300;have hx12:=H1.o.1.sz;obtain⟨y0,x0⟩:∃y,w2.cell? (ad (w.heap.size+1) (j*2))=some y:=⟨A[j*2],by rw[H1.o.1.xb.cell,Array.getElem?_eq_getElem (by omega)]⟩;obtain⟨y1,x1⟩:∃y,w2.cell? (ad (w.heap.size+1) (j*2+1))=some y:=⟨A[j*2+1],by rw[H1.o.1.xb.cell,Array.getElem?_eq_getElem (by omega)]⟩;have f0:=H1.o.1.xb.frozen (j*2);have f1:=H1.o.1.xb.frozen (j*2+1);have xl:=H1.o.1.xb.lt;obtain⟨W2,hW2⟩:=gn ((w2.setCell (ad (w.heap.size+1) (j*2)) (.func (.func (CN j)) #[] #[])).setCell (ad (w.heap.size+1) (j*2+1)) (.iface 311 (pt nb)));have H2:U (∃A',IS w W2 (some (ad bb oo)) c M T (j+1) A'/\NP W2 M T j u5/\WS 92 #[.pointer (some (ad (w.heap.size+1) (j*2)))] W2 (Qc W2 j (Ab (M j) t))):=by
       have q6:=HT.o.2.2.2.2.2.mono (Wu _) (λb hB _=>⟨WC H1.o.2.2.2.2 hB,rfl⟩);have hput:=H1.o.1.put hlt HT.o.1 HT.o.2.1 HT.o.2.2.1 HT.o.2.2.2.1 HT.o.2.2.2.2.1 q6;rw[<- hW2] at hput;refine⟨_,hput,by rw[hW2];exact H1.o.2.1.put H1.o.1.xb,?_⟩;refine GA j hlt (w.heap.size+1) (j*2) W2 (M j) t (.iface 311 (pt nb)) hh ?_ ?_ ?_ HT.o.2.2.1 ?_ (by rw[<- HKL.o];omega);.rw[hput.xb.cell,Array.getElem?_setIfInBounds_ne (by omega),Array.getElem?_setIfInBounds_self_of_lt (by omega)]
       .rw[hput.xb.cell,Array.getElem?_setIfInBounds_self_of_lt (by simp;omega)]
       .refine q6.mono (by rw[hW2];simp) (λb hB hlt=>⟨by rw[hW2];simpa using hlt,?_⟩);rw[hW2];exact (Wv _ _ _ _ (by simp;omega)).trans (Wv _ _ _ _ (by simp;omega))
       .rw[<- HT.o.2.1];exact Ba HT.o.1.2.2.2.2.1
      go_wp2_with fail
      rw[<- hW2];clear hW2 x0 x1 f0 f1 xl hx12;obtain⟨A',g1,g2,g3⟩:=H2.o;have HA:=hid (ai g1 g2);have HQs:=hid g3;clear g1 g2 g3 H2;(with_reducible refine HQs.o.mono ?_)
      rintro e w3 ⟨ok3,a3,c3,L,rfl,hb3,hrq,hr3⟩;obtain⟨l,hl⟩:=gn L.length;have H3:=hid (ai (HA.o.1.keep hb3) (ai (HA.o.2.keep hb3) (ai hrq hl)));have hl3:l<=300:=by
       rcases hr3 with ⟨_,q,_⟩|⟨_,q,_⟩;.rw[hl,q,WH,<- HKL.o];omega
       .rw[hl,q];simp
      rw[<- hl];clear hb3 hrq hl HA HQs;cases ok3 with
      | false=>
       have HF:U (¬ VI 6 M T/\L.Nodup):=by
        rcases hr3 with ⟨q,_⟩|⟨_,q,hno⟩;.cases q
        .refine⟨λq=>?_,by rw[q];exact List.nodup_nil⟩;obtain⟨t2,ht2,_,hg2⟩:=q.2.1 j hlt;have e:=Dp ht2 HT.o.1;subst e;rw[HT.o.2.1] at hg2;exact hno hg2
       clear hr3;by_cases hj0:j=0
       .have hj0i:(j:Int)=0:=by omega
        have hj0b:((j:Int) == 0)=true:=by simp;omega
        have HSet:=hid (E6 a3 l c3 L w3 H3.o.2.2.1 H3.o.2.2.2 (by omega) HF.o.2);go_wp2_with fail
        (with_reducible refine HSet.o.mono ?_)
        rintro e w4 ⟨Bm,rfl,hqm,hb4,_⟩;have H4:=hid (H3.o.1.bel.trans (hb4.mono H3.o.1.bel.size));clear hb4 hqm;go_wp2;refine bodyPost_ret (v:=.tuple #[.pointer none,.bool false]) (by simp[results,Tryz.results91,go_sem]) rfl ?_;exact .inl ⟨rfl,HF.o.1,H4.o⟩
       .have hj0i:¬ (j:Int)=0:=by omega
        have hj0b:((j:Int) == 0)=false:=by simp;omega
        go_wp2;refine bodyPost_ret (v:=.tuple #[.pointer none,.bool false]) (by simp[results,Tryz.results91,go_sem]) rfl ?_;exact .inl ⟨rfl,HF.o.1,H3.o.1.bel⟩
      | true=>
       have HG:U (L=(Ab (M j) t).map (Ag j)/\CW j (Ab (M j) t)/\L.Nodup/\UN j (M j) (T j)):=by
        rcases hr3 with ⟨_,q,hgd⟩|⟨q,_⟩;.refine⟨q,hgd,?_,t',HT.o.1,by rw[HT.o.2.1,<- HKL.o];omega,by rw[HT.o.2.1];exact hgd⟩;rw[q];refine DF hlt ?_ (λk hk=>(hgd k hk).1);rw[<- HT.o.2.1];exact Ba HT.o.1.2.2.2.2.1
        .cases q
       clear hr3;by_cases hj0:j=0
       .have hj0i:(j:Int)=0:=by omega
        have hj0b:((j:Int) == 0)=true:=by simp;omega
        have HSet:=hid (E6 a3 l c3 L w3 H3.o.2.2.1 H3.o.2.2.2 (by omega) HG.o.2.2.1);go_wp2_with fail
        (with_reducible refine HSet.o.mono ?_)
        rintro e w4 ⟨Bm,rfl,hqm,hb4,_⟩;have H4:=hid (ai (H3.o.1.keep hb4) hqm);have HIs:=hid (FU Bm a3 l c3 L L w4 hqm (H3.o.2.2.1.below hb4) H3.o.2.2.2 (by omega));clear hb4 hqm HSet;go_wp2_with fail
        (with_reducible refine HIs.o.mono ?_)
        rintro e w5 ⟨bq,rfl,hbq,hb5⟩;have ebq:=hbq.2 ⟨rfl,λq hq=>hq⟩;subst ebq;have H5:U (IS w w5 (some (ad bb oo)) c M T (j+1) A'/\NP w5 M T (j+1) (.map (some Bm))/\UO M T (j+1)):=by
         refine⟨H4.o.1.keep hb5,λ_=>⟨Bm,?_⟩,λq hq=>?_,λi h1 h2=>?_⟩;.have q1:=HT.o.1;have q2:=HT.o.2.1;have q3:=HG.o.1;have q4:=H4.o.2.below hb5;rw[<- q2] at q3;rw[q3] at q4;clear HT HKL HBe HG H4 HIs H3 H1 HS HM hbq;subst hj0;exact⟨t',rfl,q1,q4⟩
         .have e:q=j:=by omega
          rw[e];exact HG.o.2.2.2
         .omega
        clear hb5 hbq;go_wp2;go_roundw;case rel=>exact⟨j+1,A',by omega,by go_num,H5.o⟩
        case measure=>simp[intOf];omega
       .have hj0i:¬ (j:Int)=0:=by omega
        have hj0b:((j:Int) == 0)=false:=by simp;omega
        obtain⟨Bm,t0,ef,hv0,hqm⟩:=H3.o.2.1 (by omega);subst ef;have HIs:=hid (FU Bm a3 l c3 L _ w3 hqm H3.o.2.2.1 H3.o.2.2.2 (by omega));have HV0:=hid hv0;clear hqm hv0;go_wp2_with fail
        (with_reducible refine HIs.o.mono ?_)
        rintro e w5 ⟨bq,rfl,hbq,hb5⟩;have HB:U (bq=true↔ID j (M j) (T j) (M 0) (T 0)):=by rw[HG.o.1,NZ HT.o.1 HV0.o HT.o.2.1] at hbq;exact hbq
        have H5:=hid (ai (H3.o.1.keep hb5) (H3.o.2.1.keep hb5));clear hb5 hbq HIs;cases bq with
        | false=>
         have HF:U (¬ VI 6 M T):=λq=>by have:=HB.o.2 (q.2.2 j (by omega) hlt);cases this
         go_wp2;refine bodyPost_ret (v:=.tuple #[.pointer none,.bool false]) (by simp[results,Tryz.results91,go_sem]) rfl ?_;exact .inl ⟨rfl,HF.o,H5.o.1.bel⟩
        | true=>
         have H6:U (NP w5 M T (j+1) (.map (some Bm))/\UO M T (j+1)):=by
          refine⟨λ_=>H5.o.2 (by omega),λq hq=>?_,λi h1 h2=>?_⟩
          .by_cases e:q=j;.rw[e];exact HG.o.2.2.2
           .exact H1.o.2.2.1.1 q (by omega)
          .by_cases e:i=j;.rw[e];exact HB.o.1 rfl
           .exact H1.o.2.2.1.2 i h1 (by omega)
         go_wp2;go_roundw;case rel=>exact⟨j+1,A',by omega,by go_num,H5.o.1,H6.o⟩
         case measure=>simp[intOf];omega
  .obtain rfl:j=6:=by omega
   have j1:¬ (6:Int)<6:=by omega
   have HFin:U (VI 6 M T/\∃A,IS w wr a c M T 6 A):=⟨⟨rfl,HS.o.2.1,HS.o.2.2⟩,A,HS.o.1⟩;clear hIS;go_wp2;refine bodyPost_ret (v:=.tuple #[pt (w.heap.size+1),.bool true]) (by simp[results,Tryz.results91,go_sem]) rfl ?_;exact .inr ⟨rfl,HFin.o⟩
end Go.Proofs.YtacpbofiipdodaaGreat
