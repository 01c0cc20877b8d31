import Derived.Test.YtcnollkkigiobaaGreatNd27
import Derived.Test.YtcnollkkigiobaaGreatNd20
import Derived.Test.YtcnollkkigiobaaGreatNd14
import Derived.Test.YtcnollkkigiobaaGreatNd26
import Derived.Test.YtcnollkkigiobaaGreatNd17
import Derived.Test.YtcnollkkigiobaaGreatNd23
import Derived.Test.YtcnollkkigiobaaGreatNd30
set_option linter.unusedVariables false
set_option maxRecDepth 100000
namespace Go.Proofs.YtcnollkkigiobaaGreat
open Go.RowKit Go.Deep

theorem sum_split {d:Nat} (l:List (Ro d)) (i:Nat) (hi:i<l.length) (r:List (Ro d)):((l.take i++r++l.drop (i+1)).map (nodesR d)).sum+nodesR d l[i]=(l.map (nodesR d)).sum+(r.map (nodesR d)).sum:=by
 have e:l=l.take i++[l[i]]++l.drop (i+1):=by
  rw [List.append_assoc,List.singleton_append,List.getElem_cons_drop,List.take_append_drop]
 have e2:(l.map (nodesR d)).sum=((l.take i).map (nodesR d)).sum+nodesR d l[i]+((l.drop (i+1)).map (nodesR d)).sum:=by
  conv=>lhs;rw [e]
  rw [List.map_append,List.map_append,List.sum_append,List.sum_append]
  simp
 rw [e2,List.map_append,List.map_append,List.sum_append,List.sum_append]
 omega

theorem InsR.nodes {key:ByteArray}:∀{d:Nat} {t:Ro d} {rs:List (Ro d)},InsR key d t rs->(rs.map (nodesR d)).sum<=nodesR d t+d
 | 0,t,_,_=>t.elim
 | d+1,.inl ks,rs,h=>by
  rw [InsR_inl] at h
  subst h
  unfold splL
  split
  ·show 1+0<=1+(d+1);omega
  ·show 1+(1+0)<=1+(d+1);omega
 | d+1,.inr l,rs,h=>by
  rw [InsR_inr] at h
  obtain ⟨i,_,hi,r',h1,rfl⟩:=h
  have q:=InsR.nodes h1
  have q2:=sum_split l i hi r'
  generalize l.take i++r'++l.drop (i+1)=M at q2
  have hn:nodesR (d+1) (.inr l)=1+(l.map (nodesR d)).sum:=rfl
  rw [hn]
  unfold splL
  split
  ·show (1+(M.map (nodesR d)).sum)+0<=_
   omega
  ·show (1+((M.take 3).map (nodesR d)).sum)+((1+((M.drop 3).map (nodesR d)).sum)+0)<=_
   have e:((M.take 3).map (nodesR d)).sum+((M.drop 3).map (nodesR d)).sum=(M.map (nodesR d)).sum:=by
    rw [<- List.sum_append,<- List.map_append,List.take_append_drop]
   omega

def insN (rs:List (Ro 21)):Nat:=if rs.length<=1 then (rs.map (nodesR 21)).sum else 1+(rs.map (nodesR 21)).sum
def InsT (M:Nat->Tn):List (Ro 21)->Prop
 | [y]=>Tells M 0 21 y 0
 | [y,z]=>Tells M 0 22 (.inr [y,z]) 0
 | _=>False
def InsTo (n:Nat) (N:Nat->Tn) (key:ByteArray) (m:Nat) (M:Nat->Tn):Prop:=
 ∃t rs,VTt n N t/\key.size<=16/\key∉keysR 21 t/\InsR key 21 t rs/\m=insN rs/\m<=5000/\InsT M rs
def InsNo (n:Nat) (N:Nat->Tn) (key:ByteArray):Prop:=
 ∀t rs,VTt n N t->key.size<=16->key∉keysR 21 t->InsR key 21 t rs->5000<insN rs
def RetTr (w:World) (n:Nat) (N:Nat->Tn) (key:ByteArray) (e:Ending) (w' : World):Prop:=
 Below w.heap.size w w'/\∃ok a m c M,e=.returned (.agg #[.bool ok,.slice a m c])/\RdTn w' a m M/\((ok=true/\InsTo n N key m M)\/(ok=false/\m=n/\M=N/\InsNo n N key))

theorem VTt.fn {n:Nat} {N:Nat->Tn} {t t' : Ro 21} (h:VTt n N t) (h' : VTt n N t'):t=t':=by
 have q:=h.2.2.1
 rw [h'.2.2.1] at q
 injection q with q
 injection q with q _
 exact q.symm

abbrev capC (n c:Nat):Prop:=n<=c/\c<=9223372036854775807

end Go.Proofs.YtcnollkkigiobaaGreat
namespace Go.Proofs.YtcnollkkigiobaaGreat

def sizD:{d:Nat}->Ro d->Nat
 | 0,t=>t.elim
 | d+1,t=>sizR t
def cutD (lo hi:Nat):{d:Nat}->Ro d->Ro d
 | 0,t=>t.elim
 | d+1,t=>cutR lo hi t
def joinD:{d:Nat}->Ro d->Ro d->Ro d
 | 0,t,_=>t.elim
 | d+1,t,u=>joinR t u
def BalU:(d:Nat)->Ro d->Nat->Prop
 | 0,t,_=>t.elim
 | d+1,.inl L,h=>h=0/\L.length<=4
 | d+1,.inr l,h=>1<=l.length/\l.length<=4/\∃h',h=h'+1/\∀t,t∈l->BalR d false t h'

theorem BalU.of:∀{d:Nat} {t:Ro d} {root:Bool} {h:Nat},BalR d root t h->BalU d t h
 | 0,t,_,_,_=>t.elim
 | d+1,.inl L,root,h,hb=>⟨hb.1,hb.2.1⟩
 | d+1,.inr l,root,h,hb=>⟨by have:=hb.1;omega,hb.2.1,hb.2.2⟩
theorem BalU.full:∀{d:Nat} {t:Ro d} {h:Nat} (root:Bool),BalU d t h->2<=sizD t->BalR d root t h
 | 0,t,_,_,_,_=>t.elim
 | d+1,.inl L,h,root,hb,h2=>⟨hb.1,hb.2,Or.inr h2⟩
 | d+1,.inr l,h,root,hb,h2=>⟨h2,hb.2.1,hb.2.2⟩
theorem BalR.siz:∀{d:Nat} {t:Ro d} {h:Nat},BalR d false t h->2<=sizD t
 | 0,t,_,_=>t.elim
 | d+1,.inl L,h,hb=>by
  obtain ⟨_,_,q⟩:=hb
  rcases q with q|q
  ·cases q
  ·exact q
 | d+1,.inr l,h,hb=>hb.1
theorem BalU.le:∀{d:Nat} {t:Ro d} {h:Nat},BalU d t h->sizD t<=4
 | 0,t,_,_=>t.elim
 | d+1,.inl L,h,hb=>hb.2
 | d+1,.inr l,h,hb=>hb.2.1
theorem BalU.join:∀{d:Nat} {t u:Ro d} {h:Nat},BalU d t h->BalU d u h->sizD t+sizD u<=4->BalU d (joinD t u) h/\sizD (joinD t u)=sizD t+sizD u
 | 0,t,_,_,_,_,_=>t.elim
 | d+1,.inl L,.inl M,h,hb,hc,hs=>by
  have e:sizD (d:=d+1) (joinD (d:=d+1) (.inl L) (.inl M))=L.length+M.length:=List.length_append
  exact ⟨⟨hb.1,by have:L.length+M.length<=4:=hs;rw [List.length_append];exact this⟩,e⟩
 | d+1,.inr l,.inr m,h,hb,hc,hs=>by
  have e:sizD (d:=d+1) (joinD (d:=d+1) (.inr l) (.inr m))=l.length+m.length:=List.length_append
  have hs' : l.length+m.length<=4:=hs
  obtain ⟨b1,b2,h1,rfl,b3⟩:=hb
  obtain ⟨c1,c2,h2,e2,c3⟩:=hc
  obtain rfl:h1=h2:=by omega
  refine ⟨⟨by rw [List.length_append];omega,by rw [List.length_append];exact hs',h1,rfl,fun t ht=>?_⟩,e⟩
  rcases List.mem_append.1 ht with ht|ht
  ·exact b3 t ht
  ·exact c3 t ht
 | d+1,.inl L,.inr m,h,hb,hc,hs=>by
  obtain ⟨_,_,h2,e2,_⟩:=hc
  have:=hb.1
  omega
 | d+1,.inr l,.inl M,h,hb,hc,hs=>by
  obtain ⟨_,_,h2,e2,_⟩:=hb
  have:=hc.1
  omega
theorem BalU.cut:∀{d:Nat} {t:Ro d} {h lo hi:Nat},BalU d t h->lo<hi->hi<=sizD t->BalU d (cutD lo hi t) h/\sizD (cutD lo hi t)=hi-lo
 | 0,t,_,_,_,_,_,_=>t.elim
 | d+1,.inl L,h,lo,hi,hb,h0,h1=>by
  have h1' : hi<=L.length:=h1
  have hl:=hb.2
  have e:((L.take hi).drop lo).length=hi-lo:=by rw [List.length_drop,List.length_take];omega
  exact ⟨⟨hb.1,by rw [e];omega⟩,e⟩
 | d+1,.inr l,h,lo,hi,hb,h0,h1=>by
  have h1' : hi<=l.length:=h1
  obtain ⟨b1,b2,h',rfl,b3⟩:=hb
  have e:((l.take hi).drop lo).length=hi-lo:=by rw [List.length_drop,List.length_take];omega
  exact ⟨⟨by rw [e];omega,by rw [e];omega,h',rfl,fun t ht=>b3 t (List.mem_of_mem_take (List.mem_of_mem_drop ht))⟩,e⟩

def sizO {d:Nat}:Option (Ro d)->Nat
 | none=>0
 | some t=>sizD t
def fixD {d:Nat} (l:List (Ro d)) (i:Nat):List (Ro d):=
 match l[i]? with
 | none=>l
 | some y=>if 2<=sizD y then l
  else if 0<i/\2<sizO l[i-1]? then
   match l[i-1]? with
   | none=>l
   | some z=>(l.set i (joinD (cutD (sizD z-1) (sizD z) z) y)).set (i-1) (cutD 0 (sizD z-1) z)
  else if 2<sizO l[i+1]? then
   match l[i+1]? with
   | none=>l
   | some z=>(l.set i (joinD y (cutD 0 1 z))).set (i+1) (cutD 1 (sizD z) z)
  else
   match l[(max i 1)-1]?,l[max i 1]? with
   | some u,some v=>l.take ((max i 1)-1)++joinD u v::l.drop ((max i 1)+1)
   | _,_=>l

theorem fixD_full {d:Nat} {l:List (Ro d)} {i:Nat} {y:Ro d} (h:l[i]?=some y) (h2:2<=sizD y):fixD l i=l:=by
 unfold fixD
 rw [h]
 simp only [if_pos h2]
theorem fixD_left {d:Nat} {l:List (Ro d)} {i:Nat} {y z:Ro d} (h:l[i]?=some y) (h2:¬ 2<=sizD y) (hi:0<i) (hz:l[i-1]?=some z) (h3:2<sizD z):fixD l i=(l.set i (joinD (cutD (sizD z-1) (sizD z) z) y)).set (i-1) (cutD 0 (sizD z-1) z):=by
 unfold fixD
 rw [h,hz]
 simp only [if_neg h2,sizO]
 exact if_pos ⟨hi,h3⟩
theorem fixD_right {d:Nat} {l:List (Ro d)} {i:Nat} {y z:Ro d} (h:l[i]?=some y) (h2:¬ 2<=sizD y) (hn:¬ (0<i/\2<sizO l[i-1]?)) (hz:l[i+1]?=some z) (h3:2<sizD z):fixD l i=(l.set i (joinD y (cutD 0 1 z))).set (i+1) (cutD 1 (sizD z) z):=by
 unfold fixD
 rw [h]
 simp only [if_neg h2,if_neg hn]
 rw [hz]
 simp only [sizO]
 exact if_pos h3
theorem fixD_join {d:Nat} {l:List (Ro d)} {i:Nat} {y u v:Ro d} (h:l[i]?=some y) (h2:¬ 2<=sizD y) (hn:¬ (0<i/\2<sizO l[i-1]?)) (hm:¬ 2<sizO l[i+1]?) (hu:l[(max i 1)-1]?=some u) (hv:l[max i 1]?=some v):fixD l i=l.take ((max i 1)-1)++joinD u v::l.drop ((max i 1)+1):=by
 unfold fixD
 rw [h]
 simp only [if_neg h2,if_neg hn,if_neg hm]
 rw [hu,hv]

def DelR (key:ByteArray):(d:Nat)->Ro d->Ro d->Prop
 | 0,t,_=>t.elim
 | d+1,.inl ks,r=>r=.inl (delK key ks)
 | d+1,.inr l,r=>∃i,KidIs l key i/\∃(h:i<l.length) (y:Ro d),DelR key d l[i] y/\r=.inr (fixD (l.set i y) i)
theorem DelR_inl (key:ByteArray) (d:Nat) (ks:List ByteArray) (r:Ro (d+1)):DelR key (d+1) (.inl ks) r=(r=.inl (delK key ks)):=rfl
theorem DelR_inr (key:ByteArray) (d:Nat) (l:List (Ro d)) (r:Ro (d+1)):DelR key (d+1) (.inr l) r=∃i,KidIs l key i/\∃(h:i<l.length) (y:Ro d),DelR key d l[i] y/\r=.inr (fixD (l.set i y) i):=rfl

theorem DelR.fn {key:ByteArray}:∀{d:Nat} {t:Ro d} {root:Bool} {h:Nat} {r r' : Ro d},BalR d root t h->Asc (keysR d t)->DelR key d t r->DelR key d t r'->r=r'
 | 0,t,_,_,_,_,_,_,_,_=>t.elim
 | d+1,.inl ks,root,h,r,r',hb,ha,h1,h2=>by
  rw [DelR_inl] at h1 h2
  rw [h1,h2]
 | d+1,.inr l,root,h,r,r',hb,ha,h1,h2=>by
  obtain ⟨_,_,h',_,hall⟩:=hb
  rw [DelR_inr] at h1 h2
  obtain ⟨i,k1,hi,s,e1,rfl⟩:=h1
  obtain ⟨j,k2,hj,s',e2,rfl⟩:=h2
  have ha' : Asc (l.flatMap (keysR d)):=ha
  have e:i=j:=KidIs.fn ha' (fun k hk=>bal_keys (hall _ (List.getElem_mem hk))) k1 k2
  subst e
  rw [DelR.fn (hall _ (List.getElem_mem hi)) (asc_kid ha' i hi) e1 e2]

theorem fixD_bal {d:Nat} {l:List (Ro d)} {i h:Nat} {y:Ro d} (hi:i<l.length) (hy:l[i]?=some y) (hU:BalU d y h) (h1:1<=sizD y) (hall:∀j t,l[j]?=some t->j≠i->BalR d false t h) (h2:2<=l.length) :
  (∀t,t∈fixD l i->BalR d false t h)/\(fixD l i).length<=l.length/\l.length<=(fixD l i).length+1:=by
 by_cases hf:2<=sizD y
 ·rw [fixD_full hy hf]
  refine ⟨fun t ht=>?_,Nat.le_refl _,by omega⟩
  obtain ⟨j,hj,e⟩:=List.getElem_of_mem ht
  by_cases ej:j=i
  ·subst ej
   rw [List.getElem?_eq_getElem hj,e] at hy
   injection hy with hy
   subst hy
   exact hU.full false hf
  ·exact hall j t (by rw [List.getElem?_eq_getElem hj,e]) ej
 ·by_cases hl:0<i/\2<sizO l[i-1]?
  ·obtain ⟨hi0,hz3⟩:=hl
   have hz:l[i-1]?=some (l[i-1]'(by omega)):=List.getElem?_eq_getElem (by omega)
   generalize l[i-1]'(by omega)=z at hz
   rw [hz] at hz3
   have hz3' : 2<sizD z:=hz3
   rw [fixD_left hy hf hi0 hz hz3']
   have hzB:=hall (i-1) z hz (by omega)
   have hzU:=BalU.of hzB
   have c1:=hzU.cut (lo:=sizD z-1) (hi:=sizD z) (by omega) (Nat.le_refl _)
   have c2:=hzU.cut (lo:=0) (hi:=sizD z-1) (by omega) (by omega)
   have c3:=c1.1.join hU (by rw [c1.2];omega)
   refine ⟨fun t ht=>?_,by simp,by simp⟩
   obtain ⟨j,hj,e⟩:=List.getElem_of_mem ht
   rw [List.getElem_set,List.getElem_set] at e
   split at e
   ·subst e
    exact c2.1.full false (by rw [c2.2];omega)
   ·split at e
    ·subst e
     exact c3.1.full false (by rw [c3.2,c1.2];omega)
    ·have hj' : j<l.length:=by simpa using hj
     exact hall j t (by rw [List.getElem?_eq_getElem hj',e]) (fun e=>by omega)
  ·by_cases hr:2<sizO l[i+1]?
   ·have hlt:i+1<l.length:=by
     by_cases q:i+1<l.length
     ·exact q
     ·rw [List.getElem?_eq_none (by omega)] at hr
      exact absurd hr (by simp [sizO])
    have hz:l[i+1]?=some l[i+1]:=List.getElem?_eq_getElem hlt
    generalize l[i+1]=z at hz
    rw [hz] at hr
    have hz3' : 2<sizD z:=hr
    rw [fixD_right hy hf hl hz hz3']
    have hzB:=hall (i+1) z hz (by omega)
    have hzU:=BalU.of hzB
    have c1:=hzU.cut (lo:=0) (hi:=1) (by omega) (by omega)
    have c2:=hzU.cut (lo:=1) (hi:=sizD z) (by omega) (Nat.le_refl _)
    have c3:=hU.join c1.1 (by rw [c1.2];omega)
    refine ⟨fun t ht=>?_,by simp,by simp⟩
    obtain ⟨j,hj,e⟩:=List.getElem_of_mem ht
    rw [List.getElem_set,List.getElem_set] at e
    split at e
    ·subst e
     exact c2.1.full false (by rw [c2.2];omega)
    ·split at e
     ·subst e
      exact c3.1.full false (by rw [c3.2,c1.2];omega)
     ·have hj' : j<l.length:=by simpa using hj
      exact hall j t (by rw [List.getElem?_eq_getElem hj',e]) (fun e=>by omega)
   ·obtain ⟨m,hm⟩:∃m,m=max i 1:=⟨_,rfl⟩
    have hm1:1<=m/\m<l.length/\(m=i\/(i=0/\m=1)):=by omega
    have hu:l[m-1]?=some (l[m-1]'(by omega)):=List.getElem?_eq_getElem (by omega)
    have hv:l[m]?=some (l[m]'(by omega)):=List.getElem?_eq_getElem (by omega)
    generalize l[m-1]'(by omega)=u at hu
    generalize l[m]'(by omega)=v at hv
    rw [fixD_join hy hf hl hr (u:=u) (v:=v) (by rw [<- hm];exact hu) (by rw [<- hm];exact hv),<- hm]
    have huv:BalU d u h/\BalU d v h/\sizD u+sizD v=3:=by
     rcases hm1.2.2 with e|⟨e1,e2⟩
     ·subst e
      rw [hv] at hy
      injection hy with hy
      subst hy
      have q:=hall (m-1) u hu (by omega)
      have q1:=q.siz
      have q2:¬ 2<sizD u:=fun q=>hl ⟨by omega,by rw [hu];exact q⟩
      exact ⟨BalU.of q,hU,by omega⟩
     ·subst e1 e2
      rw [hu] at hy
      injection hy with hy
      subst hy
      have q:=hall 1 v hv (by omega)
      have q1:=q.siz
      have q2:¬ 2<sizD v:=fun q=>hr (by rw [hv];exact q)
      exact ⟨hU,BalU.of q,by omega⟩
    have c:=huv.1.join huv.2.1 (by omega)
    refine ⟨fun t ht=>?_,by simp;omega,by simp;omega⟩
    rw [List.mem_append,List.mem_cons] at ht
    rcases ht with ht|rfl|ht
    ·obtain ⟨j,hj,e⟩:=List.getElem_of_mem ht
     rw [List.length_take] at hj
     rw [List.getElem_take] at e
     exact hall j t (by rw [List.getElem?_eq_getElem (by omega),e]) (by omega)
    ·exact c.1.full false (by rw [c.2];omega)
    ·obtain ⟨j,hj,e⟩:=List.getElem_of_mem ht
     rw [List.length_drop] at hj
     rw [List.getElem_drop] at e
     exact hall (m+1+j) t (by rw [List.getElem?_eq_getElem (by omega),e]) (by omega)

theorem delK_ge {key:ByteArray}:∀{L:List ByteArray},Asc L->L.length<=(delK key L).length+1
 | [],_=>by simp
 | x::xs,h=>by
  have h':=List.pairwise_cons.1 h
  unfold delK
  rw [List.filter_cons]
  split
  ·have:=delK_ge (key:=key) (show Asc xs from h'.2)
   unfold delK at this
   simp only [List.length_cons]
   omega
  ·rename_i q
   have q' : (x.toList == key.toList)=true:=by simpa using q
   have q2:x.toList=key.toList:=by simpa using q'
   have e:xs.filter (fun k=>!(k.toList == key.toList))=xs:=by
    rw [List.filter_eq_self]
    intro b hb
    have hlt:=h'.1 b hb
    have:b.toList≠key.toList:=fun e=>by
     rw [q2,e] at hlt
     rw [less_irrefl] at hlt
     cases hlt
    simpa using this
   rw [e]
   simp

theorem DelR.bal {key:ByteArray}:∀{d:Nat} {t:Ro d} {root:Bool} {h:Nat} {r:Ro d},BalR d root t h->Asc (keysR d t)->DelR key d t r->BalU d r h/\sizD r<=sizD t/\sizD t<=sizD r+1
 | 0,t,_,_,_,_,_,_=>t.elim
 | d+1,.inl ks,root,h,r,hb,ha,h1=>by
  rw [DelR_inl] at h1
  subst h1
  have a1:=delK_length key ks
  have a2:=delK_ge (key:=key) (show Asc ks from ha)
  exact ⟨⟨hb.1,by have:=hb.2.1;omega⟩,a1,a2⟩
 | d+1,.inr l,root,h,r,hb,ha,h1=>by
  obtain ⟨h2,h4,h',rfl,hall⟩:=hb
  rw [DelR_inr] at h1
  obtain ⟨i,k1,hi,y,e1,rfl⟩:=h1
  have ha' : Asc (l.flatMap (keysR d)):=ha
  have hli:=hall _ (List.getElem_mem hi)
  have q:=DelR.bal hli (asc_kid ha' i hi) e1
  have q2:=hli.siz
  have f:=fixD_bal (l:=l.set i y) (i:=i) (h:=h') (y:=y) (by simpa using hi) (by simp [hi]) q.1 (by omega) (fun j t ht hj=>by
   rw [List.getElem?_set_ne (by omega)] at ht
   exact hall t (List.mem_of_getElem? ht)) (by simpa using h2)
  rw [List.length_set] at f
  exact ⟨⟨by omega,by omega,h',rfl,f.1⟩,f.2.1,f.2.2⟩
end Go.Proofs.YtcnollkkigiobaaGreat
namespace Go.Proofs.YtcnollkkigiobaaGreat

theorem joinD_nodes:∀{d:Nat} {t u:Ro d} {h:Nat},BalU d t h->BalU d u h->nodesR d (joinD t u)+1=nodesR d t+nodesR d u
 | 0,t,_,_,_,_=>t.elim
 | d+1,.inl L,.inl M,h,_,_=>rfl
 | d+1,.inr l,.inr m,h,_,_=>by
  show (1+((l++m).map (nodesR d)).sum)+1=(1+(l.map (nodesR d)).sum)+(1+(m.map (nodesR d)).sum)
  rw [List.map_append,List.sum_append]
  omega
 | d+1,.inl L,.inr m,h,hb,hc=>by
  obtain ⟨_,_,h2,e2,_⟩:=hc
  have:=hb.1
  omega
 | d+1,.inr l,.inl M,h,hb,hc=>by
  obtain ⟨_,_,h2,e2,_⟩:=hb
  have:=hc.1
  omega
theorem cutD_nodes:∀{d:Nat} {t:Ro d} (k:Nat),k<=sizD t->nodesR d (cutD 0 k t)+nodesR d (cutD k (sizD t) t)=nodesR d t+1
 | 0,t,_,_=>t.elim
 | d+1,.inl L,k,_=>rfl
 | d+1,.inr l,k,hk=>by
  have hk' : k<=l.length:=hk
  show (1+(((l.take k).drop 0).map (nodesR d)).sum)+(1+(((l.take l.length).drop k).map (nodesR d)).sum)=(1+(l.map (nodesR d)).sum)+1
  have e:(l.map (nodesR d)).sum=((l.take k).map (nodesR d)).sum+((l.drop k).map (nodesR d)).sum:=by
   rw [<- List.sum_append,<- List.map_append,List.take_append_drop]
  rw [List.drop_zero,List.take_length,e]
  omega
theorem sum_set {d:Nat} (f:Ro d->Nat):∀(l:List (Ro d)) (i:Nat) (a b:Ro d),l[i]?=some b->((l.set i a).map f).sum+f b=(l.map f).sum+f a
 | [],i,a,b,h=>by simp at h
 | x::xs,0,a,b,h=>by
  simp at h
  subst h
  simp
  omega
 | x::xs,i+1,a,b,h=>by
  have:=sum_set f xs i a b (by simpa using h)
  simp only [List.set_cons_succ,List.map_cons,List.sum_cons]
  omega
theorem sum_two {d:Nat} (f:Ro d->Nat) (l:List (Ro d)) (m:Nat) (u v:Ro d) (hm:1<=m) (hu:l[m-1]?=some u) (hv:l[m]?=some v):(l.map f).sum=((l.take (m-1)).map f).sum+(f u+f v+((l.drop (m+1)).map f).sum):=by
 have hl:=(List.getElem?_eq_some_iff.1 hv).1
 have e:l=l.take (m-1)++u::v::l.drop (m+1):=by
  have e1:l.drop m=v::l.drop (m+1):=by
   rw [List.drop_eq_getElem_cons hl]
   have:=(List.getElem?_eq_some_iff.1 hv).2
   rw [this]
  have e2:l.drop (m-1)=u::l.drop m:=by
   rw [List.drop_eq_getElem_cons (show m-1<l.length by omega)]
   have:=(List.getElem?_eq_some_iff.1 hu).2
   rw [this,show m-1+1=m by omega]
  rw [<- e1,<- e2,List.take_append_drop]
 conv=>lhs;rw [e]
 simp
 omega

theorem fixD_nodes {d:Nat} {l:List (Ro d)} {i h:Nat} {y:Ro d} (hi:i<l.length) (hy:l[i]?=some y) (hU:BalU d y h) (h1:1<=sizD y) (hall:∀j t,l[j]?=some t->j≠i->BalR d false t h) (h2:2<=l.length) :
  ((fixD l i).map (nodesR d)).sum<=(l.map (nodesR d)).sum:=by
 by_cases hf:2<=sizD y
 ·rw [fixD_full hy hf]
  exact Nat.le_refl _
 ·by_cases hl:0<i/\2<sizO l[i-1]?
  ·obtain ⟨hi0,hz3⟩:=hl
   have hz:l[i-1]?=some (l[i-1]'(by omega)):=List.getElem?_eq_getElem (by omega)
   generalize l[i-1]'(by omega)=z at hz
   rw [hz] at hz3
   have hz3' : 2<sizD z:=hz3
   rw [fixD_left hy hf hi0 hz hz3']
   have hzU:=BalU.of (hall (i-1) z hz (by omega))
   have c1:=hzU.cut (lo:=sizD z-1) (hi:=sizD z) (by omega) (Nat.le_refl _)
   have n1:=joinD_nodes c1.1 hU
   have n2:=cutD_nodes (t:=z) (sizD z-1) (by omega)
   have s1:=sum_set (nodesR d) l i (joinD (cutD (sizD z-1) (sizD z) z) y) y hy
   have s2:=sum_set (nodesR d) (l.set i (joinD (cutD (sizD z-1) (sizD z) z) y)) (i-1) (cutD 0 (sizD z-1) z) z (by rw [List.getElem?_set_ne (by omega)];exact hz)
   omega
  ·by_cases hr:2<sizO l[i+1]?
   ·have hlt:i+1<l.length:=by
     by_cases q:i+1<l.length
     ·exact q
     ·rw [List.getElem?_eq_none (by omega)] at hr
      exact absurd hr (by simp [sizO])
    have hz:l[i+1]?=some l[i+1]:=List.getElem?_eq_getElem hlt
    generalize l[i+1]=z at hz
    rw [hz] at hr
    have hz3' : 2<sizD z:=hr
    rw [fixD_right hy hf hl hz hz3']
    have hzU:=BalU.of (hall (i+1) z hz (by omega))
    have c1:=hzU.cut (lo:=0) (hi:=1) (by omega) (by omega)
    have n1:=joinD_nodes hU c1.1
    have n2:=cutD_nodes (t:=z) 1 (by omega)
    have s1:=sum_set (nodesR d) l i (joinD y (cutD 0 1 z)) y hy
    have s2:=sum_set (nodesR d) (l.set i (joinD y (cutD 0 1 z))) (i+1) (cutD 1 (sizD z) z) z (by rw [List.getElem?_set_ne (by omega)];exact hz)
    omega
   ·obtain ⟨m,hm⟩:∃m,m=max i 1:=⟨_,rfl⟩
    have hm1:1<=m/\m<l.length/\(m=i\/(i=0/\m=1)):=by omega
    have hu:l[m-1]?=some (l[m-1]'(by omega)):=List.getElem?_eq_getElem (by omega)
    have hv:l[m]?=some (l[m]'(by omega)):=List.getElem?_eq_getElem (by omega)
    generalize l[m-1]'(by omega)=u at hu
    generalize l[m]'(by omega)=v at hv
    rw [fixD_join hy hf hl hr (u:=u) (v:=v) (by rw [<- hm];exact hu) (by rw [<- hm];exact hv),<- hm]
    have huv:BalU d u h/\BalU d v h:=by
     rcases hm1.2.2 with e|⟨e1,e2⟩
     ·subst e
      rw [hv] at hy
      injection hy with hy
      subst hy
      exact ⟨BalU.of (hall (m-1) u hu (by omega)),hU⟩
     ·subst e1 e2
      rw [hu] at hy
      injection hy with hy
      subst hy
      exact ⟨hU,BalU.of (hall 1 v hv (by omega))⟩
    have n1:=joinD_nodes huv.1 huv.2
    have s:=sum_two (nodesR d) l m u v hm1.1 hu hv
    rw [s,List.map_append,List.sum_append,List.map_cons,List.sum_cons]
    omega

theorem DelR.nodes {key:ByteArray}:∀{d:Nat} {t:Ro d} {root:Bool} {h:Nat} {r:Ro d},BalR d root t h->Asc (keysR d t)->DelR key d t r->nodesR d r<=nodesR d t
 | 0,t,_,_,_,_,_,_=>t.elim
 | d+1,.inl ks,root,h,r,hb,ha,h1=>by
  rw [DelR_inl] at h1
  subst h1
  exact Nat.le_refl _
 | d+1,.inr l,root,h,r,hb,ha,h1=>by
  obtain ⟨h2,h4,h',rfl,hall⟩:=hb
  rw [DelR_inr] at h1
  obtain ⟨i,k1,hi,y,e1,rfl⟩:=h1
  have ha' : Asc (l.flatMap (keysR d)):=ha
  have hli:=hall _ (List.getElem_mem hi)
  have q:=DelR.bal hli (asc_kid ha' i hi) e1
  have q2:=hli.siz
  have q3:=DelR.nodes hli (asc_kid ha' i hi) e1
  have f:=fixD_nodes (l:=l.set i y) (i:=i) (h:=h') (y:=y) (by simpa using hi) (by simp [hi]) q.1 (by omega) (fun j t ht hj=>by
   rw [List.getElem?_set_ne (by omega)] at ht
   exact hall t (List.mem_of_getElem? ht)) (by simpa using h2)
  have s:=sum_set (nodesR d) l i y l[i] (List.getElem?_eq_getElem hi)
  show 1+_<=1+_
  omega
end Go.Proofs.YtcnollkkigiobaaGreat
namespace Go.Proofs.YtcnollkkigiobaaGreat
open Go.RowKit Go.Deep

theorem own_setIn' {w:World} {B:Nat} {e:TypeId} {sz n c g j:Nat} {xs:List Value} (h:w.ownsRow B e sz (.slice (some ⟨g,0,none⟩) n c) n xs) (hj:j<n*sz) (u:Value):(w.setCell ⟨g,j,none⟩ u).ownsRow B e sz (.slice (some ⟨g,0,none⟩) n c) n (xs.set j u):=by
 refine ⟨by rw [List.length_set];exact h.1,?_⟩
 rcases h.2 with ⟨q,_⟩|⟨g',cap,cur,q1,q2,q3,q4,q5,q6,q7⟩
 ·cases q
 ·injection q1 with q1 _ q8
  injection q1 with q1
  injection q1 with q1
  subst q1 q8
  refine .inr ⟨g,c,cur.setIfInBounds j u,rfl,q2,?_,q4,q5,by simp [q6],?_⟩
  ·simp [World.setCell,Array.getElem?_modify,q3]
  ·rw [Array.toList_setIfInBounds,List.take_set,q7]
theorem own_frozen {w:World} {B:Nat} {e:TypeId} {sz n c g:Nat} {xs:List Value} (h:w.ownsRow B e sz (.slice (some ⟨g,0,none⟩) n c) n xs) (j:Nat):w.frozen? ⟨g,j,none⟩=false:=by
 rcases h.2 with ⟨q,_⟩|⟨g',cap,cur,q1,q2,q3,q4⟩
 ·cases q
 ·injection q1 with q1 _ q8
  injection q1 with q1
  injection q1 with q1
  subst q1
  simp [World.frozen?,q3]

theorem KidL.set {T:Type} {P:T->Value->Prop} {y:T} {x0 x1 x2:Value} (hy:P y (.agg #[x0,x1,x2])):∀{ts:List T} {xs:List Value} (i:Nat),KidL P ts xs->KidL P (ts.set i y) (((xs.set (i*3) x0).set (i*3+1) x1).set (i*3+2) x2)
 | [],[],_,_=>by simp [KidL]
 | t::ts,a0::a1::a2::xs,0,h=>by
  show KidL P (y::ts) (x0::x1::x2::xs)
  exact ⟨hy,h.2⟩
 | t::ts,a0::a1::a2::xs,i+1,h=>by
  have:=KidL.set hy i h.2
  rw [show (i+1)*3=i*3+1+1+1 by omega]
  show KidL P (t::ts.set i y) (a0::a1::a2::((xs.set (i*3) x0).set (i*3+1) x1).set (i*3+2) x2)
  exact ⟨h.1,this⟩
 | [],x::xs,_,h=>h.elim
 | t::ts,[],_,h=>h.elim
 | t::ts,[x0],_,h=>h.elim
 | t::ts,[x0,x1],_,h=>h.elim

def KW (T:Nat->Prop) (w:World) (B d g n c:Nat) (l:List (Ro d)):Prop:=
 ∃xs,w.ownsRow B 91 3 (.slice (some ⟨g,0,none⟩) n c) n xs/\KidL (fun t v=>NG (fun b=>T b/\b≠g) w d t v) l xs
theorem KW.below {T:Nat->Prop} {w w' : World} {B d g n c:Nat} {l:List (Ro d)} (h:KW T w B d g n c l) (hb:Below w.heap.size w w'):KW T w' B d g n c l:=by
 obtain ⟨xs,h1,h2⟩:=h
 exact ⟨xs,own_below h1 hb,h2.mono (fun t v q=>NG.below q hb)⟩
theorem KW.frozen {T:Nat->Prop} {w:World} {B d g n c:Nat} {l:List (Ro d)} (h:KW T w B d g n c l) (j:Nat):w.frozen? ⟨g,j,none⟩=false:=by
 obtain ⟨xs,h1,h2⟩:=h
 exact own_frozen h1 j
theorem KW.len {T:Nat->Prop} {w:World} {B d g n c:Nat} {l:List (Ro d)} (h:KW T w B d g n c l):l.length=n:=by
 obtain ⟨xs,h1,h2⟩:=h
 have a:=h1.1
 have b:=h2.len
 omega
theorem KW.lt {T:Nat->Prop} {w:World} {B d g n c:Nat} {l:List (Ro d)} (h:KW T w B d g n c l):B<=g/\g<w.heap.size:=by
 obtain ⟨xs,h1,h2⟩:=h
 exact own_lt h1 g rfl
theorem KW.get {T:Nat->Prop} {w:World} {B d g n c:Nat} {l:List (Ro d)} (h:KW T w B d g n c l) (i:Nat) (hi:i<l.length) :
  ∃lf ka kn kc ca cn cc,w.cell? ⟨g,i*3,none⟩=some (.bool lf)/\w.cell? ⟨g,i*3+1,none⟩=some (.slice ka kn kc)/\w.cell? ⟨g,i*3+2,none⟩=some (.slice ca cn cc)/\NG (fun b=>T b/\b≠g) w d l[i] (.agg #[.bool lf,.slice ka kn kc,.slice ca cn cc]):=by
 have hn:=h.len
 obtain ⟨xs,h1,h2⟩:=h
 obtain ⟨a,c',e,hf⟩:=own_form h1
 injection e with e
 subst e
 obtain ⟨g',e,_,_,hx⟩:=hf (by omega)
 injection e with e
 injection e with e
 subst e
 exact kid_at hx h2 i hi
theorem KW.put {T:Nat->Prop} {w:World} {B d g n c:Nat} {l:List (Ro d)} (h:KW T w B d g n c l) (i:Nat) (hi:i<l.length) {y:Ro d} {x0 x1 x2:Value} (hy:NG (fun b=>T b/\b≠g) w d y (.agg #[x0,x1,x2])) :
  KW T (((w.setCell ⟨g,i*3,none⟩ x0).setCell ⟨g,i*3+1,none⟩ x1).setCell ⟨g,i*3+2,none⟩ x2) B d g n c (l.set i y):=by
 have hn:=h.len
 obtain ⟨xs,h1,h2⟩:=h
 have row:=own_setIn' (own_setIn' (own_setIn' h1 (j:=i*3) (by omega) x0) (j:=i*3+1) (by omega) x1) (j:=i*3+2) (by omega) x2
 refine ⟨_,row,KidL.set ?_ i (h2.mono (fun t v q=>?_))⟩
 ·refine hy.keep (by simp [World.setCell]) (fun b hs hl=>⟨hs,?_⟩)
  rw [Below.heap_setCell _ _ _ _ (show b≠g from hs.2),Below.heap_setCell _ _ _ _ (show b≠g from hs.2),Below.heap_setCell _ _ _ _ (show b≠g from hs.2)]
 ·refine NG.keep q (by simp [World.setCell]) (fun b hs hl=>⟨hs,?_⟩)
  rw [Below.heap_setCell _ _ _ _ (show b≠g from hs.2),Below.heap_setCell _ _ _ _ (show b≠g from hs.2),Below.heap_setCell _ _ _ _ (show b≠g from hs.2)]
theorem KW.ng {T S:Nat->Prop} {w w' : World} {B d g n c:Nat} {l:List (Ro d)} {ka:Option Addr} {kc:Nat} (h:KW T w B d g n c l) (hl0:0<n) (hz:w.heap.size<=w'.heap.size) (hb:∀b,T b->b<w.heap.size->S b/\w'.heap[b]?=w.heap[b]?) (hTg:T g):NG S w' (d+1) (.inr l) (.agg #[.bool false,.slice ka 0 kc,.slice (some ⟨g,0,none⟩) n c]):=by
 have hn:=h.len
 have hlt:=h.lt
 obtain ⟨xs,h1,h2⟩:=h
 have hcap:=own_cap h1
 obtain ⟨a,c',e,hf⟩:=own_form h1
 injection e with e
 subst e
 obtain ⟨g',e,_,_,hx⟩:=hf (by omega)
 injection e with e
 injection e with e
 subst e
 refine ⟨ka,kc,g,c,xs,by rw [hn],⟨(hb g hTg hlt.2).1,by rw [hn];exact hcap⟩,by omega,by omega,fun j u hj=>(World.cell?_of_block (a:=⟨g,j,none⟩) (hb g hTg hlt.2).2).trans (hx j u hj),h2.mono (fun t v q=>NG.keep q hz (fun b hs hl=>hb b hs.1 hl))⟩
end Go.Proofs.YtcnollkkigiobaaGreat
