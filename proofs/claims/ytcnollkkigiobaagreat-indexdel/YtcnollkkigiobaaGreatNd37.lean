import Derived.Test.YtcnollkkigiobaaGreatNd35
import Derived.Test.YtcnollkkigiobaaGreatNd36
import Derived.Test.YtcnollkkigiobaaGreatNd5
import Derived.Test.YtcnollkkigiobaaGreatNd17
import Derived.Test.YtcnollkkigiobaaGreatNd22
import Derived.Test.YtcnollkkigiobaaGreatNd28
set_option linter.unusedVariables false
set_option maxRecDepth 100000
namespace Go.Proofs.YtcnollkkigiobaaGreat
open Go.RowKit Go.Deep

theorem NdI.form {S:Nat->Prop} {w:World} {b d:Nat} {t:Ro (d+1)} {v:Value} (h:NdI S w b (d+1) t v):(v=.iface 204 (.pointer (some ⟨b,0,none⟩))/\∃x ka kc,Bx w b 206 #[x,.slice ka (sizR t) kc])\/(v=.iface 174 (.pointer (some ⟨b,0,none⟩))/\∃x ka kc,Bx w b 179 #[x,.slice ka (sizR t) kc]):=by
 rcases t with L|l
 ·obtain ⟨rfl,ka,kc,hx,_⟩:=h
  exact .inl ⟨rfl,_,ka,kc,hx⟩
 ·obtain ⟨rfl,g,o,kc,xs,hx,_⟩:=h
  exact .inr ⟨rfl,_,_,kc,hx⟩

def RetGr (S:Nat->Prop) (w:World) (b d:Nat) (t:Ro (d+1)) (e:Ending) (w' : World):Prop:=
 ∃v',e=.returned v'/\Fr2 w w' b b/\TAo (fun x=>S x\/x=b\/w.heap.size<=x) w' (d+2) (.inr [cutR 0 3 t,cutR 3 5 t]) v'


def RetRg (w:World) (n:Nat) (N:Nat->Tn) (lo hi:ByteArray) (e:Ending) (w' : World):Prop:=
 ∃(L:List ByteArray) (a:Option Addr) (c:Nat),e=.returned (.slice a L.length c)/\OwnS w' w.heap.size a L.length (gt L)/\Below w.heap.size w w'/\L.length<=1048576/\((∃t,VTt n N t/\L=fil lo hi (keysR 21 t))\/(¬ VT n N/\L=[]))


theorem pk_inj {k k' : ByteArray} {i:Nat} (h:pk k i=pk k' i):∀n,n<4->kb k (4*i+n)=kb k' (4*i+n):=by
 have e1:∀q:ByteArray,pkn q i 1=kb q (4*i+0):=fun q=>by show 256*0+kb q (4*i+0)=_;omega
 have e2:∀q:ByteArray,pkn q i 2=256*pkn q i 1+kb q (4*i+1):=fun _=>rfl
 have e3:∀q:ByteArray,pkn q i 3=256*pkn q i 2+kb q (4*i+2):=fun _=>rfl
 have e4:∀q:ByteArray,pk q i=256*pkn q i 3+kb q (4*i+3):=fun _=>rfl
 have r:∀(q:ByteArray) (n:Nat),0<=kb q (4*i+n)/\kb q (4*i+n)<256:=fun q n=>kb_range q _
 intro n hn
 have a1:=e1 k;have a2:=e2 k;have a3:=e3 k;have a4:=e4 k
 have b1:=e1 k';have b2:=e2 k';have b3:=e3 k';have b4:=e4 k'
 have r0:=r k 0;have r1:=r k 1;have r2:=r k 2;have r3:=r k 3
 have s0:=r k' 0;have s1:=r k' 1;have s2:=r k' 2;have s3:=r k' 3
 rcases (show n=0\/n=1\/n=2\/n=3 by omega) with rfl|rfl|rfl|rfl <;> omega
theorem posF_onto (perm:Nat) (hp:perm<6) (i:Nat) (hi:i<4):∃s,s<4/\posF perm s=i:=by
 rcases (show perm=0\/perm=1\/perm=2\/perm=3\/perm=4\/perm=5 by omega) with rfl|rfl|rfl|rfl|rfl|rfl <;> rcases (show i=0\/i=1\/i=2\/i=3 by omega) with rfl|rfl|rfl|rfl <;>
  first|exact ⟨0,by omega,rfl⟩|exact ⟨1,by omega,rfl⟩|exact ⟨2,by omega,rfl⟩|exact ⟨3,by omega,rfl⟩
theorem quadOf_inj {perm:Nat} (hp:perm<6) {k k' : ByteArray} (hk:k.size=16) (hk' : k'.size=16) (h:quadOf perm k=quadOf perm k'):k=k':=by
 injection h with h0 h1 h2 h3
 have hall:∀i,i<4->pk k i=pk k' i:=fun i hi=>by
  obtain ⟨s,hs,e⟩:=posF_onto perm hp i hi
  rw [<- e]
  rcases (show s=0\/s=1\/s=2\/s=3 by omega) with rfl|rfl|rfl|rfl
  ·exact h0
  ·exact h1
  ·exact h2
  ·exact h3
 have hb:∀m,m<16->kb k m=kb k' m:=fun m hm=>by
  have:=pk_inj (hall (m / 4) (by omega)) (m % 4) (by omega)
  rw [show 4*(m / 4)+m % 4=m by omega] at this
  exact this
 apply ByteArray.ext
 apply Array.ext
 ·show k.size=k'.size
  rw [hk,hk']
 ·intro m h1 h2
  obtain ⟨x,ex,ebx⟩:=kb_get (k:=k) (i:=m) h1
  obtain ⟨y,ey,eby⟩:=kb_get (k:=k') (i:=m) h2
  have hxy:=hb m (by rw [<- hk];exact h1)
  rw [ebx,eby] at hxy
  have hxy2:x=y:=by
   apply UInt8.toNat_inj.1
   omega
  have gx:k.data[m]?=some x:=by
   rw [<- ex]
   first|rfl|simp
  have gy:k'.data[m]?=some y:=by
   rw [<- ey]
   first|rfl|simp
  rw [Array.getElem?_eq_getElem h1] at gx
  rw [Array.getElem?_eq_getElem h2] at gy
  injection gx with gx
  injection gy with gy
  rw [gx,gy,hxy2]
theorem quads_nodup {perm:Nat} (hp:perm<6) {K:List ByteArray} (hasc:Asc K) (hk:∀k,k∈K->k.size=16):(K.map (quadOf perm)).Nodup:=by
 rw [List.Nodup,List.pairwise_map]
 refine List.Pairwise.imp_of_mem (fun {a b} ha hb hlt e=>?_) hasc
 have:=quadOf_inj hp (hk a ha) (hk b hb) e
 subst this
 rw [less_irrefl] at hlt
 cases hlt

def bnum:List UInt8->Nat
 | []=>0
 | x::l=>x.toNat*256 ^ l.length+bnum l
theorem bnum_lt:∀l:List UInt8,bnum l<256 ^ l.length
 | []=>by simp [bnum]
 | x::l=>by
  have h:=bnum_lt l
  have hx:x.toNat<256:=x.toNat_lt
  show x.toNat*256 ^ l.length+bnum l<256 ^ (l.length+1)
  rw [Nat.pow_succ]
  have:(x.toNat+1)*256 ^ l.length<=256*256 ^ l.length:=Nat.mul_le_mul_right _ hx
  rw [Nat.add_mul] at this
  omega
theorem less_num:∀(a b:List UInt8),a.length=b.length->(Op.bytesLess a b=true↔bnum a<bnum b)
 | [],[],_=>by simp [bnum,Op.bytesLess]
 | [],_::_,h=>by simp at h
 | _::_,[],h=>by simp at h
 | x::a,y::b,h=>by
  have hl:a.length=b.length:=by simpa using h
  have ih:=less_num a b hl
  have ha:=bnum_lt a
  have hb:=bnum_lt b
  show (decide (x<y) || (x == y && Op.bytesLess a b))=true↔x.toNat*256 ^ a.length+bnum a<y.toNat*256 ^ b.length+bnum b
  rw [hl] at ha ⊢
  generalize 256 ^ b.length=P at ha hb ⊢
  rcases Nat.lt_trichotomy x.toNat y.toNat with h1|h1|h1
  ·have e1:x<y:=h1
   have h2:(x.toNat+1)*P<=y.toNat*P:=Nat.mul_le_mul_right _ h1
   rw [Nat.add_mul] at h2
   simp [e1]
   omega
  ·have e1:x=y:=UInt8.toNat_inj.1 h1
   subst e1
   simp [ih]
  ·have e1:¬ x<y:=fun h=>by have h' : x.toNat<y.toNat:=h;omega
   have e2:¬ x=y:=fun h=>by rw [h] at h1;omega
   have h2:(y.toNat+1)*P<=x.toNat*P:=Nat.mul_le_mul_right _ h1
   rw [Nat.add_mul] at h2
   simp [e1,e2]
   omega
theorem bnum_inj:∀(a b:List UInt8),a.length=b.length->bnum a=bnum b->a=b
 | [],[],_,_=>rfl
 | [],_::_,h,_=>by simp at h
 | _::_,[],h,_=>by simp at h
 | x::a,y::b,h,e=>by
  have hl:a.length=b.length:=by simpa using h
  have ha:=bnum_lt a
  have hb:=bnum_lt b
  have e' : x.toNat*256 ^ a.length+bnum a=y.toNat*256 ^ b.length+bnum b:=e
  rw [hl] at ha e'
  have hxy:x.toNat=y.toNat:=by
   generalize 256 ^ b.length=P at ha hb e'
   rcases Nat.lt_trichotomy x.toNat y.toNat with h1|h1|h1
   ·have h2:(x.toNat+1)*P<=y.toNat*P:=Nat.mul_le_mul_right _ h1
    rw [Nat.add_mul] at h2
    omega
   ·exact h1
   ·have h2:(y.toNat+1)*P<=x.toNat*P:=Nat.mul_le_mul_right _ h1
    rw [Nat.add_mul] at h2
    omega
  rw [hxy] at e'
  have e1:x=y:=UInt8.toNat_inj.1 hxy
  subst e1
  rw [bnum_inj a b hl (by omega)]
theorem less_pre:∀(a b r:List UInt8),a.length=b.length->Op.bytesLess (a++r) b=Op.bytesLess a b
 | [],[],r,_=>by cases r <;> rfl
 | [],_::_,_,h=>by simp at h
 | _::_,[],_,h=>by simp at h
 | x::a,y::b,r,h=>by
  show (decide (x<y) || (x == y && Op.bytesLess (a++r) b))=(decide (x<y) || (x == y && Op.bytesLess a b))
  rw [less_pre a b r (by simpa using h)]
theorem between {l lo hi:List UInt8} (hl:lo.length<=l.length) (he:lo.length=hi.length) (hn:bnum hi=bnum lo+1):(Op.bytesLess l lo=false/\Op.bytesLess l hi=true)↔l.take lo.length=lo:=by
 have e:l=l.take lo.length++l.drop lo.length:=(List.take_append_drop _ _).symm
 have hlen:(l.take lo.length).length=lo.length:=by rw [List.length_take];omega
 have h1:Op.bytesLess l lo=Op.bytesLess (l.take lo.length) lo:=by
  conv=>lhs;rw [e]
  exact less_pre _ _ _ hlen
 have h2:Op.bytesLess l hi=Op.bytesLess (l.take lo.length) hi:=by
  conv=>lhs;rw [e]
  exact less_pre _ _ _ (hlen.trans he)
 rw [h1,h2,less_num _ _ (hlen.trans he),hn]
 constructor
 ·rintro ⟨g1,g2⟩
  have g3:¬ bnum (l.take lo.length)<bnum lo:=fun h=>by
   rw [<- less_num _ _ hlen,g1] at h
   cases h
  exact bnum_inj _ _ hlen (by omega)
 ·intro h
  rw [h]
  exact ⟨less_irrefl _,by omega⟩

theorem bnum_app:∀(a b:List UInt8),bnum (a++b)=bnum a*256 ^ b.length+bnum b
 | [],b=>by simp [bnum]
 | x::a,b=>by
  show x.toNat*256 ^ (a++b).length+bnum (a++b)=(x.toNat*256 ^ a.length+bnum a)*256 ^ b.length+bnum b
  rw [bnum_app a b,List.length_append,Nat.pow_add,Nat.add_mul,Nat.mul_assoc,Nat.add_assoc]
def pkL (x:Int):List UInt8:=[UInt8.ofNat (x / 16777216).toNat,UInt8.ofNat (x / 65536 % 256).toNat,UInt8.ofNat (x / 256 % 256).toNat,UInt8.ofNat (x % 256).toNat]
theorem ofNat_small (n:Nat) (h:n<256):(UInt8.ofNat n).toNat=n:=by
 rw [UInt8.toNat_ofNat']
 omega
theorem pkL_num (x:Int) (h0:0<=x) (h1:x<4294967296):(bnum (pkL x):Int)=x:=by
 show (((UInt8.ofNat (x / 16777216).toNat).toNat*256 ^ 3+((UInt8.ofNat (x / 65536 % 256).toNat).toNat*256 ^ 2+((UInt8.ofNat (x / 256 % 256).toNat).toNat*256 ^ 1+((UInt8.ofNat (x % 256).toNat).toNat*256 ^ 0+0))):Nat):Int)=x
 rw [ofNat_small _ (by omega),ofNat_small _ (by omega),ofNat_small _ (by omega),ofNat_small _ (by omega)]
 omega
def spLl (x:Nat->Int):Nat->List UInt8
 | 0=>[]
 | i+1=>spLl x i++pkL (x i)
theorem spL_data (x:Nat->Int):∀i,(spL x i).data.toList=spLl x i
 | 0=>rfl
 | i+1=>by
  show (spL x i++pkB (x i)).data.toList=_
  rw [ByteArray.data_append,Array.toList_append,spL_data x i]
  rfl
theorem spH_data (x:Nat->Int) (i:Nat):(spH x (i+1)).data.toList=spLl x i++pkL (x i+1):=by
 show (spL x i++pkB (x i+1)).data.toList=_
 rw [ByteArray.data_append,Array.toList_append,spL_data x i]
 rfl
theorem spLl_len (x:Nat->Int):∀i,(spLl x i).length=4*i
 | 0=>rfl
 | i+1=>by
  show (spLl x i++pkL (x i)).length=_
  rw [List.length_append,spLl_len x i]
  show 4*i+4=_
  omega
theorem part_list (k:ByteArray) (i:Nat) (h:4*i+4<=k.size):∃q:List UInt8,q.length=4/\(k.data.toList.drop (4*i)).take 4=q/\(bnum q:Int)=pk k i:=by
 obtain ⟨b0,e0,n0⟩:=kb_get (k:=k) (i:=4*i+0) (by omega)
 obtain ⟨b1,e1,n1⟩:=kb_get (k:=k) (i:=4*i+1) (by omega)
 obtain ⟨b2,e2,n2⟩:=kb_get (k:=k) (i:=4*i+2) (by omega)
 obtain ⟨b3,e3,n3⟩:=kb_get (k:=k) (i:=4*i+3) (by omega)
 have g:∀(n:Nat) (b:UInt8),k[4*i+n]?=some b->k.data.toList[4*i+n]?=some b:=fun n b e=>by
  rw [Array.getElem?_toList,<- e]
  first|rfl|simp
 have g0:=g 0 b0 e0
 have g1:=g 1 b1 e1
 have g2:=g 2 b2 e2
 have g3:=g 3 b3 e3
 refine ⟨[b0,b1,b2,b3],rfl,?_,?_⟩
 ·apply List.ext_getElem?
  intro n
  rw [List.getElem?_take,List.getElem?_drop]
  by_cases h4:n<4
  ·rw [if_pos h4]
   rcases (show n=0\/n=1\/n=2\/n=3 by omega) with rfl|rfl|rfl|rfl
   ·exact g0
   ·exact g1
   ·exact g2
   ·exact g3
  ·rw [if_neg h4,List.getElem?_eq_none (by simp;omega)]
 ·show ((b0.toNat*256 ^ 3+(b1.toNat*256 ^ 2+(b2.toNat*256 ^ 1+(b3.toNat*256 ^ 0+0))):Nat):Int)=256*(256*(256*(256*0+kb k (4*i+0))+kb k (4*i+1))+kb k (4*i+2))+kb k (4*i+3)
  rw [n0,n1,n2,n3]
  omega
theorem take_parts (k:ByteArray) (x:Nat->Int):∀m,4*m<=k.size->(∀i,i<m->0<=x i/\x i<4294967296)->(k.data.toList.take (4*m)=spLl x m↔∀i,i<m->pk k i=x i)
 | 0,_,_=>by simp [spLl]
 | m+1,h,hx=>by
  have ih:=take_parts k x m (by omega) (fun i hi=>hx i (by omega))
  obtain ⟨q,q1,q2,q3⟩:=part_list k m (by omega)
  have hxm:=hx m (by omega)
  have hl:(k.data.toList.take (4*m)).length=(spLl x m).length:=by
   rw [List.length_take,spLl_len,Array.length_toList]
   have:k.data.size=k.size:=rfl
   omega
  have hp:q=pkL (x m)↔pk k m=x m:=by
   rw [<- q3]
   constructor
   ·intro e
    rw [e]
    exact pkL_num _ hxm.1 hxm.2
   ·intro e
    refine bnum_inj _ _ q1 ?_
    have:=pkL_num _ hxm.1 hxm.2
    omega
  rw [show 4*(m+1)=4*m+4 by omega,List.take_add,q2]
  show _++q=spLl x m++pkL (x m)↔_
  constructor
  ·intro e
   obtain ⟨a1,a2⟩:=List.append_inj e hl
   intro i hi
   by_cases h' : i=m
   ·rw [h']
    exact hp.1 a2
   ·exact ih.1 a1 i (by omega)
  ·intro e
   rw [ih.2 (fun i hi=>e i (by omega)),hp.2 (e m (by omega))]

theorem ord_pos (j:Nat) (hj:j<6) (s:Nat) (hs:s<4):ordF j (posF j s)=s/\posF j s<4:=by
 rcases (show j=0\/j=1\/j=2\/j=3\/j=4\/j=5 by omega) with rfl|rfl|rfl|rfl|rfl|rfl <;> rcases (show s=0\/s=1\/s=2\/s=3 by omega) with rfl|rfl|rfl|rfl <;> decide
theorem fit1_iff (a b:Int):fit1 a b=true↔(a=0\/a=b):=by simp [fit1]
theorem fit_all (j:Nat) (hj:j<6) (p:Qd) (k:ByteArray):fitB (quadOf j k) p=true↔∀i,i<4->(ptO j p i=0\/ptO j p i=pk k i):=by
 have e:∀s,s<4->ptO j p (posF j s)=partOf p.s p.p p.o p.g s:=fun s hs=>by unfold ptO;rw [(ord_pos j hj s hs).1]
 have e0:ptO j p (posF j 0)=p.s:=e 0 (by omega)
 have e1:ptO j p (posF j 1)=p.p:=e 1 (by omega)
 have e2:ptO j p (posF j 2)=p.o:=e 2 (by omega)
 have e3:ptO j p (posF j 3)=p.g:=e 3 (by omega)
 have h:fitB (quadOf j k) p=true↔(((fit1 p.s (pk k (posF j 0))=true/\fit1 p.p (pk k (posF j 1))=true)/\fit1 p.o (pk k (posF j 2))=true)/\fit1 p.g (pk k (posF j 3))=true):=by
  unfold fitB quadOf
  simp only [Bool.and_eq_true]
 rw [h]
 simp only [fit1_iff]
 rw [<- e0,<- e1,<- e2,<- e3]
 constructor
 ·rintro ⟨⟨⟨h0,h1⟩,h2⟩,h3⟩ i hi
  obtain ⟨s,hs,es⟩:=posF_onto j hj i hi
  rw [<- es]
  rcases (show s=0\/s=1\/s=2\/s=3 by omega) with rfl|rfl|rfl|rfl
  ·exact h0
  ·exact h1
  ·exact h2
  ·exact h3
 ·intro h
  exact ⟨⟨⟨h _ (ord_pos j hj 0 (by omega)).2,h _ (ord_pos j hj 1 (by omega)).2⟩,h _ (ord_pos j hj 2 (by omega)).2⟩,h _ (ord_pos j hj 3 (by omega)).2⟩
theorem fit_lead {j:Nat} (hj:j<6) {p:Qd} {m:Nat} (hm:Lead (ptO j p) m) (hok:okTo (ptO j p) 4) (k:ByteArray):fitB (quadOf j k) p=true↔∀i,i<m->pk k i=ptO j p i:=by
 rw [fit_all j hj p k]
 obtain ⟨h4,hn,hz⟩:=hm
 constructor
 ·intro h i hi
  rcases h i (by omega) with q|q
  ·exact absurd q (hn i hi)
  ·exact q.symm
 ·intro h i hi
  rcases Nat.lt_trichotomy i m with q|q|q
  ·exact .inr (h i q).symm
  ·exact .inl (by rw [q];exact hz (by omega))
  ·exact .inl ((hok i hi).2 m q (hz (by omega)))
theorem sp_next (x:Nat->Int) (m:Nat) (h0:0<=x m) (h1:x m<=2000000000):bnum (spH x (m+1)).toList=bnum (spL x (m+1)).toList+1/\(spL x (m+1)).toList.length=(spH x (m+1)).toList.length:=by
 rw [ByteArray.toList_eq,ByteArray.toList_eq,spH_data,spL_data]
 show bnum (spLl x m++pkL (x m+1))=bnum (spLl x m++pkL (x m))+1/\(spLl x m++pkL (x m)).length=_
 rw [bnum_app,bnum_app]
 have a:=pkL_num (x m) h0 (by omega)
 have b:=pkL_num (x m+1) (by omega) (by omega)
 refine ⟨?_,by simp [pkL]⟩
 show bnum (spLl x m)*256 ^ 4+bnum (pkL (x m+1))=bnum (spLl x m)*256 ^ 4+bnum (pkL (x m))+1
 omega
theorem span_fit {j:Nat} (hj:j<6) {p:Qd} {m:Nat} (hm:Lead (ptO j p) (m+1)) (hok:okTo (ptO j p) 4) {k:ByteArray} (hk:k.size=16) :
  (Op.bytesLess k.toList (spL (ptO j p) (m+1)).toList=false/\Op.bytesLess k.toList (spH (ptO j p) (m+1)).toList=true)↔fitB (quadOf j k) p=true:=by
 have h4:=hm.1
 have hr:=(hok m (by omega)).1
 obtain ⟨n1,n2⟩:=sp_next (ptO j p) m hr.1 hr.2
 have hkl:k.toList.length=16:=by rw [ByteArray.toList_eq,Array.length_toList];exact hk
 have hll:(spL (ptO j p) (m+1)).toList.length=4*(m+1):=by rw [ByteArray.toList_eq,spL_data,spLl_len]
 rw [between (by omega) n2 n1,fit_lead hj hm hok,hll,ByteArray.toList_eq,ByteArray.toList_eq,spL_data]
 exact take_parts k _ (m+1) (by omega) (fun i hi=>by have:=(hok i (by omega)).1;omega)

def keyOf (j:Nat) (q:Qd):ByteArray:=spL (ptO j q) 4
theorem keyOf_size (j:Nat) (q:Qd):(keyOf j q).size=16:=spL_size _ 4
theorem bl_irrefl (l:List UInt8):Op.bytesLess l l=false:=by
 cases h:Op.bytesLess l l with
 | false=>rfl
 | true=>
  have:=(less_num l l rfl).1 h
  omega
theorem part_pos {j:Nat} (hj:j<6) {q:Qd} (h:quadB q=true) (i:Nat) (hi:i<4):1<=ptO j q i/\ptO j q i<=2000000000:=by
 have hq:(1<=q.s/\q.s<=2000000000)/\(1<=q.p/\q.p<=2000000000)/\(1<=q.o/\q.o<=2000000000)/\(1<=q.g/\q.g<=2000000000):=by
  simp [quadB,numB] at h
  omega
 have ho:=ordF_lt j hj i hi
 unfold ptO
 rcases (show ordF j i=0\/ordF j i=1\/ordF j i=2\/ordF j i=3 by omega) with e|e|e|e <;> rw [e]
 ·exact hq.1
 ·exact hq.2.1
 ·exact hq.2.2.1
 ·exact hq.2.2.2
theorem keyOf_quad {j:Nat} (hj:j<6) {q:Qd} (h:quadB q=true):quadOf j (keyOf j q)=q:=by
 have hp:=part_pos hj h
 have hm:Lead (ptO j q) 4:=⟨Nat.le_refl _,fun i hi=>by have:=hp i hi;omega,fun h=>absurd h (by omega)⟩
 have hok:okTo (ptO j q) 4:=by
  intro i hi
  have h1:=hp i hi
  exact ⟨⟨by omega,h1.2⟩,fun r hr e=>by have:=hp r (by omega);omega⟩
 have hr:=hp 3 (by omega)
 obtain ⟨n1,n2⟩:=sp_next (ptO j q) 3 (by omega) hr.2
 have hf:=(span_fit hj hm hok (keyOf_size j q)).1 ⟨bl_irrefl _,by
  show Op.bytesLess (spL (ptO j q) 4).toList (spH (ptO j q) 4).toList=true
  exact (less_num _ _ n2).2 (by omega)⟩
 have hall:=(fit_lead hj hm hok _).1 hf
 have e:∀s,s<4->pk (keyOf j q) (posF j s)=partOf q.s q.p q.o q.g s:=fun s hs=>by
  have h1:=ord_pos j hj s hs
  rw [hall _ h1.2]
  unfold ptO
  rw [h1.1]
 unfold quadOf
 rw [e 0 (by omega),e 1 (by omega),e 2 (by omega),e 3 (by omega)]
 rfl

set_option maxHeartbeats 4000000 in
theorem key_any (j:Nat) (hj:j<6) (p:Qd) (hr:∀i,i<4->0<=ptO j p i/\ptO j p i<=2000000000) (w:World) :
  Calls Tryz.prog 83 #[.func (.func (layF j)) #[] #[],qv p] w fun e w'=>e=.returned (.string (keyOf j p))/\Below w.heap.size w w':=by
 have HL:Hid (∀W:World,Calls Tryz.prog (layF j) #[.pointer (some ⟨w.heap.size,0,none⟩)] W fun e w'=>e=.returned (.agg (ptrA j w.heap.size))/\Below W.heap.size W w'):=fun W=>lay_any j hj _ W
 have HK:Hid (j<6/\∀i,i<4->0<=ptO j p i/\ptO j p i<=2000000000):=⟨hj,hr⟩
 have heg:∀args W,(callFunc (layF j) args).run Tryz.prog W=.ok (.enter (layF j) args) W:=fun args W=>by
  rcases (show j=0\/j=1\/j=2\/j=3\/j=4\/j=5 by omega) with rfl|rfl|rfl|rfl|rfl|rfl <;> rfl
 have HPK:Hid (∀(x:Int) (W:World),0<=x->x<4294967296->Calls Tryz.prog 110 #[.int .i64 x] W fun e w'=>e=.returned (.string (pkB x))/\Below W.heap.size W w'):=fun x W h0 h1=>partKey_any x h0 h1 W
 clear hj hr
 unfold qv
 go_enter Tryz.func83,Tryz.ntmps83
 go_wp2_with fail
 (with_reducible refine (HL.out _).mono ?_)
 rintro e w1 ⟨rfl,hw1⟩
 have Q0:Hid (Bx w1 w.heap.size 34 #[.int .i64 p.s,.int .i64 p.p,.int .i64 p.o,.int .i64 p.g]/\Below w.heap.size w w1):=⟨(hw1.block _ (by simp)).trans (Bx.new w _ _),(below_alloc _ _).trans (hw1.mono (by simp))⟩
 clear hw1 HL
 go_wp2_with fail
 go_loopw [5,7,10] (fun lo _ i wr=>∃ii:Nat,ii<=4/\i=.int .i64 ii/\lo=.string (spL (ptO j p) ii)/\Bx wr w.heap.size 34 #[.int .i64 p.s,.int .i64 p.p,.int .i64 p.o,.int .i64 p.g]/\Below w.heap.size w wr) (fun _ _ i _=>4-(intOf i).toNat)
 case atStart=>exact ⟨0,Nat.zero_le _,rfl,rfl,Q0.out⟩
 case round=>
  obtain ⟨i,hi,rfl,rfl,hq,hb⟩:=hrel
  have QI:Hid (Bx wr w.heap.size 34 #[.int .i64 p.s,.int .i64 p.p,.int .i64 p.o,.int .i64 p.g]/\Below w.heap.size w wr):=⟨hq,hb⟩
  clear hq hb Q0
  by_cases hlt:i<4
  ·have hixp:∀W:World,(Instr.index 156 (.agg (ptrA j w.heap.size)) (.int .i64 (i:Int))).run Tryz.prog W=.ok (.pointer (some ⟨w.heap.size,ordF j i,none⟩)) W:=fun W=>by
    rcases (show i=0\/i=1\/i=2\/i=3 by omega) with rfl|rfl|rfl|rfl <;> rfl
   have c1:=QI.out.1.cell (ordF j i)
   rw [qcell p _ (ordF_lt j HK.out.1 i hlt)] at c1
   obtain ⟨x,hx⟩:∃x,x=ptO j p i:=⟨_,rfl⟩
   have HX:Hid (x=ptO j p i):=hx
   have hxr:=HK.out.2 i hlt
   have hxu:partOf p.s p.p p.o p.g (ordF j i)=x:=hx.symm
   rw [hxu] at c1
   rw [<- hx] at hxr
   obtain ⟨hx0,hx1⟩:=hxr
   clear hx hxu
   obtain ⟨lo,hlo⟩:∃lo,lo=spL (ptO j p) i:=⟨_,rfl⟩
   obtain ⟨k0,hk0⟩:∃k0,k0=pkB x:=⟨_,rfl⟩
   have HP0:Hid (∀W:World,Calls Tryz.prog 110 #[.int .i64 x] W fun e w'=>e=.returned (.string k0)/\Below W.heap.size W w'):=fun W=>by rw [hk0];exact HPK.out x W (by omega) (by omega)
   have HL1:Hid (lo++k0=spL (ptO j p) (i+1)):=by
    rw [hlo,hk0,HX.out]
    rfl
   have z4:¬ (9223372036854775807:Int)<(lo.size:Int)+(k0.size:Int):=by rw [hlo,hk0,spL_size,pkB_size];omega
   rw [<- hlo]
   clear hlo hk0
   go_wp2_with fail
   (with_reducible refine (HP0.out _).mono ?_)
   rintro e w3 ⟨rfl,hb3⟩
   have Q3:Hid (Bx w3 w.heap.size 34 #[.int .i64 p.s,.int .i64 p.p,.int .i64 p.o,.int .i64 p.g]/\Below w.heap.size w w3):=⟨(hb3.block _ QI.out.1.lt).trans QI.out.1,QI.out.2.trans (hb3.mono QI.out.2.size)⟩
   clear hb3 c1
   go_wp2
   go_roundw
   case rel=>exact ⟨i+1,by omega,by go_num,by rw [<- HL1.out],Q3.out⟩
   case measure=>simp [intOf];omega
  ·obtain rfl:i=4:=by omega
   go_wp2
   go_ret
   exact ⟨rfl,QI.out.2⟩
end Go.Proofs.YtcnollkkigiobaaGreat
