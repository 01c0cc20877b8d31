import Derived.WalkSpells
import Derived.Test.YtcnollkkigiobaaGreatNv34
import Derived.Test.YtcnollkkigiobaaGreatNv36
set_option linter.unusedVariables false
set_option linter.unusedSimpArgs false
set_option maxRecDepth 100000
set_option maxHeartbeats 90000000
namespace Go.Proofs.YtcnollkkigiobaaGreat
open Go Go.Deep Go.RowKit Go.Proofs.Tryz
variable {K:List ByteArray}{M M':Nat->Nat}{m m0 n:Nat}{q:Qd}{x:ByteArray}
theorem BE.asc {N:Nat->Tn} {t:Ro 21} (h:BE n N t):BI (Ab 21 t):=Bz h.2.2.2.2.1
theorem BE.siz {N:Nat->Tn} {t:Ro 21} (h:BE n N t):∀x,x∈Ab 21 t->x.size<=16:=λx l=>by
 obtain⟨i,b,e⟩:=List.getElem_of_mem l
 have q:=(h.2.2.2.2.1 i b).1
 have f:gt (Ab 21 t) i=x:=by
  unfold gt
  rw[Uw,Ut b]
  exact e
 rw[f] at q
 exact q
theorem BE.fit {N:Nat->Tn} {t:Ro 21} (h:BE n N t):∀i,i<n->Bg (N i):=λi r=>by
 obtain⟨z,y,f,⟨u,l⟩,A,b⟩:=h
 have v:=BJ f
 have q:=Dt b l i (Us _) (by omega)
 exact⟨by omega,by omega⟩
theorem PZ {key:ByteArray} (h:BI K):BI (Ba key K):=List.Pairwise.filter _ h
theorem PY {key:ByteArray} (h:x∈Ba key K):x∈K:=(List.mem_filter.1 h).1
theorem IL {key:ByteArray} (h:x∈Be key K):x=key\/x∈K:=by
 unfold Be at h;rw[List.mem_append,List.mem_cons] at h;rcases h with h|h|h;.exact .inr (List.mem_of_mem_take h)
 .exact .inl h
 .exact .inr (List.mem_of_mem_drop h)
theorem Nu {key:ByteArray}:∀{L:List ByteArray},BI L->(∀x,x∈L.take (Bs key L)->Op.bytesLess x.toList key.toList=true)/\(∀x,x∈L.drop (Bs key L)->Op.bytesLess x.toList key.toList=false)
 | [],_=>⟨λx b=>by simp at b,λx b=>by simp at b⟩
 | y::L,h=>by
  have t:=List.pairwise_cons.1 h
  obtain⟨v,u⟩:=Nu (key:=key) (show BI L from t.2)
  by_cases r:Op.bytesLess y.toList key.toList=true
  .have e:Bs key (y::L)=Bs key L+1:=by
    unfold Bs
    rw[List.filter_cons_of_pos (by simpa using r)]
    rfl
   rw[e]
   refine⟨λx b=>?_,λx b=>u x (by simpa using b)⟩
   rw[List.take_succ_cons,List.mem_cons] at b
   rcases b with rfl|b
   .exact r
   .exact v x b
  .have l : Op.bytesLess y.toList key.toList=false:=by simpa using r
   have f:∀x,x∈y::L->Op.bytesLess x.toList key.toList=false:=λx b=>by
    rw[List.mem_cons] at b
    rcases b with rfl|b
    .exact l
    .by_cases q:Op.bytesLess x.toList key.toList=true
     .rw[AY _ _ _ (t.1 x b) q] at l
      cases l
     .simpa using q
   have e:Bs key (y::L)=0:=Fm f
   rw[e]
   exact⟨λx b=>by simp at b,λx b=>f x (by simpa using b)⟩
theorem Lx {key:ByteArray} (h:BI K) (D:key∉K):BI (Be key K):=by
 obtain⟨C,A⟩:=Nu (key:=key) h;unfold Be;have v : BI (K.take (Bs key K)++K.drop (Bs key K)):=by rw[List.take_append_drop];exact h
 have l:=List.pairwise_append.1 v;refine List.pairwise_append.2 ⟨l.1,List.pairwise_cons.2 ⟨λx b=>?_,l.2.1⟩,λx b y f=>?_⟩
 .have q:=A x b;by_cases e:Op.bytesLess key.toList x.toList=true;.exact e
  .exfalso;have z : Op.bytesLess key.toList x.toList=false:=by simpa using e
   have t:=Cc x.toList key.toList;rw[z,q] at t;have r:(key.toList == x.toList)=true:=by simpa using t
   have u:key.toList=x.toList:=by simpa using r
   exact D (by rw[DG u];exact List.mem_of_mem_drop b)
 .rw[List.mem_cons] at f;rcases f with rfl|f;.exact C x b
  .exact l.2.2 x b y f
theorem JK {P:Nat->Prop} (b:∀i,P i\/¬ P i):∀n,P 0->0<n->∃i,i<n/\P i/\∀j,i<j->j<n->¬ P j
 | 0,_,h=>absurd h (Nat.lt_irrefl _)
 | n+1,h0,_=>by
  rcases b n with h|h
  .exact⟨n,by omega,h,λj l f=>by omega⟩
  .by_cases u:0<n
   .obtain⟨i,l,f,r⟩:=JK b n h0 u
    exact⟨i,by omega,f,λj t v=>by
     by_cases e:j=n
     .subst e;exact h
     .exact r j t (by omega)⟩
   .obtain rfl:n=0:=by omega
    exact absurd h0 h
theorem Cf.ex {d:Nat} (l:List (Ro d)) (key:ByteArray) (t:0<l.length):∃i,Cf l key i:=by
 obtain⟨i,b,f,r⟩:=JK (P:=λi=>i=0\/∃h:i<l.length,Op.bytesLess key.toList (gt (Ab d l[i]) 0).toList=false) (λi=>Classical.em _) l.length (.inl rfl) t;refine⟨i,b,λh u=>?_,λh=>?_⟩
 .rcases f with q|⟨_,q⟩;.omega
  .exact q
 .by_cases q:Op.bytesLess key.toList (gt (Ab d l[i+1]) 0).toList=true;.exact q
  .exact absurd (.inr ⟨h,by simpa using q⟩) (r (i+1) (by omega) h)
theorem Bt.ex (key:ByteArray):∀{d:Nat} {t:Ro d} {root:Bool} {h:Nat},Aq d root t h->∃f,Bt key d t f
 | 0,t,_,_,_=>t.elim
 | d+1,.inl ks,root,h,hb=>⟨_,rfl⟩
 | d+1,.inr l,root,h,hb=>by
  obtain⟨v,z,y,rfl,b⟩:=hb
  obtain⟨i,r⟩:=Cf.ex l key (by omega)
  obtain⟨f,u⟩:=Bt.ex key (b _ (UA r.1))
  exact⟨_,i,r,r.1,f,u,rfl⟩
theorem SV {N0 N:Nat->Tn} {key:ByteArray} {t:Ro 21} (v:BE m0 N0 t) (h:OE m0 N0 key m N) (r:key.size<=16) (U:key∉Ab 21 t) (hK:(Ab 21 t).length<=1000):∃O,BE m N O/\Ab 21 O=Be key (Ab 21 t):=by
 obtain⟨hh,b⟩:=v.2.2.2.1;rcases h with ⟨O,F,G,ab,U,C,hm,h5,hT⟩|⟨rfl,rfl,aa⟩
 .obtain rfl:=G.fn v;have l:=Bt.keys b v.asc C;have u:BI (F.flatMap (Ab 21)):=by rw[l];exact Lx v.asc U
  have E:∀x,x∈F.flatMap (Ab 21)->x.size<=16:=λx hx=>by
   rw[l] at hx;rcases IL hx with rfl|q;.exact r
   .exact v.siz x q
  rcases Bt.bal b C with ⟨y,rfl,A⟩|⟨y,z,rfl,A,Y⟩
  .have ek:Ab 21 y=[y].flatMap (Ab 21):=by show Ab 21 y=Ab 21 y++[];rw[List.append_nil]
   obtain⟨V,q1,H⟩:=C8 (D:=21) (y:=y) (by rw[hm];simp[DU]) h5 hT A (by rw[ek];exact u) (by rw[ek];exact E);exact⟨V,q1,by rw[H,ek,l]⟩
  .have J:Aq 22 true (.inr [y,z]) (hh+1):=⟨by simp,by simp,hh,rfl,λt ht=>by
    simp at ht;rcases ht with rfl|rfl;.exact A
    .exact Y⟩
   obtain⟨V,q1,H⟩:=C8 (D:=22) (y:=.inr [y,z]) (by rw[hm];rfl) h5 hT J u E;exact⟨V,q1,H.trans l⟩
 .exfalso;obtain⟨F,C⟩:=Bt.ex key b;have q:=aa t F v r U C;have l:=Bt.keys b v.asc C;have hl:(F.flatMap (Ab 21)).length<=1001:=by rw[l,Bw];omega
  rcases Bt.bal b C with ⟨y,rfl,A⟩|⟨y,z,rfl,A,Y⟩
  .have f:=A.few';have e:DU [y]=Ac 21 y:=by simp[DU]
   have e2:([y].flatMap (Ab 21)).length=(Ab 21 y).length:=by simp
   omega
  .have f1:=A.few;have f2:=Y.few;have e:DU [y,z]=1+(Ac 21 y+(Ac 21 z+0)):=rfl;have e2:([y,z].flatMap (Ab 21)).length=(Ab 21 y).length+(Ab 21 z).length:=by simp
   omega
theorem SK {N0 N:Nat->Tn} {key:ByteArray} {t:Ro 21} (v:BE m0 N0 t) (h:NO m0 N0 key m N) (hk:key∈Ab 21 t):∃F,BE m N F/\Ab 21 F=Ba key (Ab 21 t):=by
 rcases h with ⟨F,r,D,aa,hr,h5,hT⟩|⟨_,_,U⟩
 .obtain rfl:=D.fn v;obtain⟨hh,f⟩:=v.2.2.2.1;have b:=Bu.keysD f v.asc hr;have A:=(Bu.bal f v.asc hr).1;have u:BI (Ab 21 r):=by rw[b];exact PZ v.asc
  have z:∀x,x∈Ab 21 r->x.size<=16:=λx hx=>v.siz x (by rw[b] at hx;exact PY hx);rcases hT with ⟨y,rfl,V,J⟩|⟨O,V,J⟩
  .obtain⟨_,_,h',_,C⟩:=A;have hy:=C y (by simp);have Y:Ab 20 y=Ab 21 (.inr [y]):=by show Ab 20 y=Ab 20 y++[];rw[List.append_nil]
   obtain⟨H,q1,E⟩:=C8 V h5 J ((AE.of hy).full true hy.siz) (by rw[Y];exact u) (by rw[Y];exact z);exact⟨H,q1,by rw[E,Y,b]⟩
  .have G:Aq 21 true r hh:=by
    rcases r with ks|l;.exact⟨A.1,A.2,Or.inl rfl⟩
    .refine A.full true ?_;show 2<=l.length;have h1:=A.1;by_cases e:l.length=1;.obtain⟨y,rfl⟩:=List.length_eq_one_iff.1 e;exact absurd rfl (O y)
     .omega
   obtain⟨H,q1,E⟩:=C8 V h5 J G u z;exact⟨H,q1,by rw[E,b]⟩
 .exact absurd hk (U t v)
theorem VI.t {n:Nat} {M:Nat->Nat} {T:Nat->Nat->Tn} (h:VI n M T) (i:Nat) (hi:i<6):∃t,BE (M i) (T i) t/\(Ab 21 t).length<=300/\(∀k,k∈Ab 21 t->k.size=16/\AQ (Al i k)=true):=h.2.1 i hi
theorem VI.fit {n:Nat} {M:Nat->Nat} {T:Nat->Nat->Tn} (h:VI n M T):BF n M T:=λi f=>by
 obtain⟨t,b,_⟩:=h.t i (by have:=h.1;omega)
 have:=b.2.1
 exact⟨by omega,b.fit⟩
theorem VI.same {T:Nat->Nat->Tn} (h:VI n M T) {i:Nat} (hi:i<6) {t b:Ro 21} (l:BE (M i) (T i) t) (u:BE (M 0) (T 0) b):(Ab 21 t).length=(Ab 21 b).length/\∀q,q∈(Ab 21 t).map (Al i)↔q∈(Ab 21 b).map (Al 0):=by
 by_cases e:i=0;.subst e;obtain rfl:=l.fn u;exact⟨rfl,λ_=>Iff.rfl⟩
 .obtain⟨v,C⟩:=h.2.2 i (by omega) hi t b l u;have f:∀q,q∈(Ab 21 t).map (Al i)->q∈(Ab 21 b).map (Al 0):=λq y=>by obtain⟨k,r,rfl⟩:=List.mem_map.1 y;exact C k r
  obtain⟨D,z,_,A⟩:=h.t i hi;obtain rfl:=z.fn l;exact⟨v,λq=>⟨f q,MB _ _ (DN hi l.asc (λk r=>(A k r).1)) f (by simp[v]) q⟩⟩
theorem VI.of {T:Nat->Nat->Tn} (t:Nat->Ro 21) (L:Nat) (P:Qd->Prop) (h:∀i,i<6->BE (M i) (T i) (t i)) (u:L<=300) (l:∀i,i<6->(Ab 21 (t i)).length=L) (y:∀i,i<6->∀k,k∈Ab 21 (t i)->k.size=16/\AQ (Al i k)=true) (r:∀i,i<6->∀q,q∈(Ab 21 (t i)).map (Al i)↔P q):VI 6 M T:=by refine⟨rfl,λj b=>⟨t j,h j b,by rw[l j b];exact u,y j b⟩,λi _ f D C A z=>?_⟩;obtain rfl:=A.fn (h i f);obtain rfl:=z.fn (h 0 (by omega));refine⟨by rw[l i f,l 0 (by omega)],λk v=>?_⟩;exact (r 0 (by omega) _).2 ((r i f _).1 (List.mem_map.2 ⟨k,v,rfl⟩))
structure TD (M:Nat->Nat) (T:Nat->Nat->Tn) (M' : Nat->Nat) (T' : Nat->Nat->Tn) (q:Qd):Prop where
 vi:VI 6 M T
 vi' : VI 6 M' T'
 no:∀i,i<6->∀t,BE (M i) (T i) t->q∉(Ab 21 t).map (Al i)
 yes:∀i,i<6->∀t,BE (M' i) (T' i) t->q∈(Ab 21 t).map (Al i)
 len:∀i,i<6->∀t t',BE (M i) (T i) t->BE (M' i) (T' i) t'->(Ab 21 t').length=(Ab 21 t).length+1
theorem Gd {key:ByteArray}:x∈Be key K↔x=key\/x∈K:=by
 refine⟨IL,λh=>?_⟩;unfold Be;have e:=List.take_append_drop (Bs key K) K;rcases h with rfl|h;.simp
 .rw[<- e] at h;rcases List.mem_append.1 h with h|h;.exact List.mem_append.2 (.inl h)
  .exact List.mem_append.2 (.inr (List.mem_cons.2 (.inr h)))
theorem PU {T T' : Nat->Nat->Tn} (h:Co n M T q) (U:∀i,i<6->OE (M i) (T i) (AA i q) (M' i) (T' i)):TD M T M' T' q:=by
 obtain⟨r,A,O⟩:=h;obtain rfl:=r.1;obtain⟨C,v0,l0,_⟩:=r.t 0 (by omega);obtain⟨V,n3⟩:=O C v0;have b:∀i,∃t v : Ro 21,i<6->BE (M i) (T i) t/\BE (M' i) (T' i) v/\Ab 21 v=Be (AA i q) (Ab 21 t)/\q∉(Ab 21 t).map (Al i):=λi=>by
  by_cases f:i<6;.obtain⟨t,v1,v2,v3⟩:=r.t i f;have D:=λe=>V (((r.same f v1 v0).2 q).1 e);obtain⟨v,u1,u2⟩:=SV v1 (U i f) (by rw[Bq];omega) (λe=>D (List.mem_map.2 ⟨_,e,A9 f A⟩)) (by omega);exact⟨t,v,λ_=>⟨v1,u1,u2,D⟩⟩
  .exact⟨C,C,λe=>absurd e f⟩
 obtain⟨t,b⟩:=Classical.axiomOfChoice b;obtain⟨v,b⟩:=Classical.axiomOfChoice b;have H:∀i,i<6->(Ab 21 (v i)).length=(Ab 21 C).length+1:=λi f=>by obtain⟨E,a2,z,G⟩:=b i f;rw[z,Bw,(r.same f E v0).1]
 have J:∀i,i<6->∀x,x∈(Ab 21 (v i)).map (Al i)↔(x=q\/x∈(Ab 21 (t i)).map (Al i)):=λi f x=>by
  obtain⟨E,a2,z,G⟩:=b i f;rw[z];constructor
  .intro e;obtain⟨k,l,rfl⟩:=List.mem_map.1 e;rcases Gd.1 l with rfl|l;.exact .inl (A9 f A)
   .exact .inr (List.mem_map.2 ⟨k,l,rfl⟩)
  .rintro (rfl|e);.exact List.mem_map.2 ⟨_,Gd.2 (.inl rfl),A9 f A⟩
   .obtain⟨k,l,rfl⟩:=List.mem_map.1 e;exact List.mem_map.2 ⟨k,Gd.2 (.inr l),rfl⟩
 refine⟨r,VI.of v _ (λx=>x=q\/x∈(Ab 21 C).map (Al 0)) (λi f=>(b i f).2.1) ?_ H ?_ ?_,λi f u y=>?_,λi f u y=>?_,λi f u u' y F=>?_⟩;.omega
 .intro i f k l;obtain⟨E,a2,z,G⟩:=b i f;rw[z] at l;rcases Gd.1 l with rfl|l;.exact⟨Bq i q,by rw[A9 f A];exact A⟩
  .obtain⟨u,b1,_,Y⟩:=r.t i f;obtain rfl:=b1.fn E;exact Y k l
 .intro i f x;rw[J i f x,(r.same f (b i f).1 v0).2 x]
 .obtain rfl:=y.fn (b i f).1;exact (b i f).2.2.2
 .obtain rfl:=y.fn (b i f).2.1;exact (J i f q).2 (.inl rfl)
 .obtain rfl:=y.fn (b i f).1;obtain rfl:=F.fn (b i f).2.1;rw[H i f,(r.same f y v0).1]
theorem IT {key:ByteArray}:x∈Ba key K↔x≠key/\x∈K:=by
 unfold Ba;rw[List.mem_filter];constructor;.rintro⟨b,f⟩;exact⟨λe=>by subst e;simp at f,b⟩
 .rintro⟨b,f⟩;refine⟨f,?_⟩;have:x.toList≠key.toList:=λe=>b (DG e);simpa using this
theorem Lh {key:ByteArray}:∀{K:List ByteArray},BI K->key∈K->(Ba key K).length+1=K.length
 | [],_,h=>by simp at h
 | y::K,h,hk=>by
  have r:=List.pairwise_cons.1 h
  by_cases e:y=key
  .subst e
   have u:Ba y K=K:=by
    unfold Ba
    rw[List.filter_eq_self]
    intro x t
    have f:=r.1 x t
    have b:x.toList≠y.toList:=λe=>by
     rw[e,A4] at f
     cases f
    simpa using b
   have:Ba y (y::K)=Ba y K:=by
    unfold Ba
    rw[List.filter_cons_of_neg (by simp)]
   rw[this,u]
   rfl
  .have l : key∈K:=by
    rcases List.mem_cons.1 hk with q|q
    .exact absurd q.symm e
    .exact q
   have b:y.toList≠key.toList:=λq=>e (DG q)
   have:Ba key (y::K)=y::Ba key K:=by
    unfold Ba
    rw[List.filter_cons_of_pos (by simpa using b)]
   rw[this]
   have:=Lh (K:=K) r.2 l
   simp only[UJ]
   omega
theorem PL {T T' : Nat->Nat->Tn} (h:CH n M T q) (hd:∀i,i<6->NO (M i) (T i) (AA i q) (M' i) (T' i)):TD M' T' M T q:=by
 obtain⟨r,h0⟩:=h;obtain rfl:=r.1;obtain⟨y,v0,l0,Y⟩:=r.t 0 (by omega);have D:=h0 y v0;have J:AQ q=true:=by obtain⟨k,l,rfl⟩:=List.mem_map.1 D;exact (Y k l).2
 have b:∀i,∃t v : Ro 21,i<6->BE (M i) (T i) t/\BE (M' i) (T' i) v/\Ab 21 v=Ba (AA i q) (Ab 21 t)/\AA i q∈Ab 21 t/\∀k,k∈Ab 21 t->k.size=16/\AQ (Al i k)=true:=λi=>by
  by_cases f:i<6;.obtain⟨t,v1,v2,v3⟩:=r.t i f;obtain⟨k,l,e⟩:=List.mem_map.1 (((r.same f v1 v0).2 q).2 D);have ek:=Dp f (v3 k l).1 (Bq i q) (by rw[e,A9 f J]);subst ek;obtain⟨v,u1,u2⟩:=SK v1 (hd i f) l;exact⟨t,v,λ_=>⟨v1,u1,u2,l,v3⟩⟩
  .exact⟨y,y,λe=>absurd e f⟩
 obtain⟨t,b⟩:=Classical.axiomOfChoice b;obtain⟨v,b⟩:=Classical.axiomOfChoice b;have O:∀i,i<6->(Ab 21 (v i)).length=(Ab 21 y).length-1:=λi f=>by obtain⟨E,a2,C,F,_⟩:=b i f;have:=Lh E.asc F;rw[C,<- (r.same f E v0).1];omega
 have V:∀i,i<6->∀x,x∈(Ab 21 (v i)).map (Al i)↔(x≠q/\x∈(Ab 21 (t i)).map (Al i)):=λi f x=>by
  obtain⟨E,a2,C,F,H⟩:=b i f;rw[C];constructor;.intro e;obtain⟨k,l,rfl⟩:=List.mem_map.1 e;obtain⟨G,U⟩:=IT.1 l;exact⟨λe=>G (Dp f (H k U).1 (Bq i q) (by rw[e,A9 f J])),List.mem_map.2 ⟨k,U,rfl⟩⟩
  .rintro⟨G,e⟩;obtain⟨k,l,rfl⟩:=List.mem_map.1 e;exact List.mem_map.2 ⟨k,IT.2 ⟨λe=>G (by rw[e,A9 f J]),l⟩,rfl⟩
 refine⟨VI.of v _ (λx=>x≠q/\x∈(Ab 21 y).map (Al 0)) (λi f=>(b i f).2.1) ?_ O ?_ ?_,r,λi f u z=>?_,λi f u z=>?_,λi f u u' z A=>?_⟩;.omega
 .intro i f k l;obtain⟨E,a2,C,F,H⟩:=b i f;rw[C] at l;exact H k (IT.1 l).2
 .intro i f x;rw[V i f x,(r.same f (b i f).1 v0).2 x]
 .obtain rfl:=z.fn (b i f).2.1;exact λe=>((V i f q).1 e).1 rfl
 .exact ((r.same f z v0).2 q).2 D
 .obtain rfl:=z.fn (b i f).2.1;obtain rfl:=A.fn (b i f).1;rw[O i f,(r.same f A v0).1];have:0<(Ab 21 y).length:=by have:=List.length_pos_of_mem D;simpa using this
  omega
variable {B c c2 n2:Nat}{I2 R2:Nat->Int}{X2:Nat->ByteArray}{a a2:Option Addr}{cur:Array Value}{w:World}{x:Int}
def Ug (W:World) (e:Ending) (w' : World):Prop:=
 Bl W w'/\∃ok a c M T,e=.returned (.agg #[.bool ok,.slice a 6 c])/\FV W.heap.size w' a 6 M T/\VI 6 M T
theorem Ss {T:Nat->Nat->Tn} (x y z u:Int) (h:Ci w a 6 M T) (l:VI 6 M T):UO 22 #[.agg #[.slice a 6 c],.agg #[iv x,iv y,iv z,iv u]] w (Ug w):=by
 refine (Sn a 6 c M T ⟨x,y,z,u⟩ w h (by omega) l.fit).mono ?_;rintro e w' ⟨r,⟨v,a',c',M',t,A,E,C,f,b,D⟩|⟨_,a',c',A,E,C,f,b⟩⟩;.exact⟨r,true,a',c',M',t,f,b.ixw (by omega),(PL v D).vi⟩
 .exact⟨r,false,a',c',M,T,f,b.ixw (by omega),l⟩
theorem Sq {T:Nat->Nat->Tn} (x y z u:Int) (h:Ci w a 6 M T) (l:VI 6 M T):UO 17 #[.agg #[.slice a 6 c],.agg #[iv x,iv y,iv z,iv u]] w (Ug w):=by
 refine (Md a 6 c M T ⟨x,y,z,u⟩ w h (by omega) l.fit).mono ?_;rintro e w' ⟨r,⟨v,a',c',M',t,A,E,C,f,b,D⟩|⟨_,a',c',A,E,C,f,b⟩⟩;.exact⟨r,true,a',c',M',t,f,b.ixw (by omega),(PU v D).vi'⟩
 .exact⟨r,false,a',c',M,T,f,b.ixw (by omega),l⟩
theorem RW.low {Z Z' m:Nat} {w:World} {l b:Value} (h:RW Z w m l b) (f:Z'<=Z):RW Z' w m l b:=by obtain⟨⟨next,a,n,c,I,X,R,e,u,r,v⟩,⟨xa,xc,M,T,t,y,z⟩⟩:=h;exact⟨⟨next,a,n,c,I,X,R,e,u.mono f,r,v⟩,⟨xa,xc,M,T,t,y.low f,z⟩⟩
def JU (dv0 iv0:Value) (m:Nat) (w:World) (e:Ending) (w' : World):Prop:=
 Bl w w'/\∃code dv ivx,e=.returned (.tuple #[iv code,dv,ivx])/\((dv=dv0/\ivx=iv0)\/RW w.heap.size w' (m+4) dv ivx)
section
variable {Z m:Nat} {w W W' : World} {next:Int} {a:Option Addr} {n c:Nat} {xg xc:Nat} {add:Bool} {s p o g:ByteArray}
structure Jc (w:World) (next:Int) (a:Option Addr) (n c xg xc:Nat) (add:Bool) (s p o g:ByteArray) (W:World):Prop where
 d:Bx W w.heap.size 141 #[iv next,.slice a n c]
 x:Bx W (w.heap.size+1) 32 #[.slice (some (ad xg 0)) 6 xc]
 ch:Bx W (w.heap.size+2) 194 #[.bool add,.string s,.string p,.string o,.string g]
 rd:Bx W (w.heap.size+3) 141 #[iv 0,.slice none 0 0]
 rx:Bx W (w.heap.size+4) 32 #[.slice none 0 0]
 bel:Bl w W
 sz:w.heap.size+5<=W.heap.size
theorem Jc.nxt (h:Jc w next a n c xg xc add s p o g W) (b:Below (w.heap.size+5) W W'):Jc w next a n c xg xc add s p o g W':=
 ⟨h.d.below' b (by omega),h.x.below' b (by omega),h.ch.below' b (by omega),h.rd.below' b (by omega),h.rx.below' b (by omega),h.bel.trans (b.mono (by omega)),Uy h.sz b.size⟩
theorem Jc.call (h:Jc w next a n c xg xc add s p o g W) (b:Bl W W'):Jc w next a n c xg xc add s p o g W':=h.nxt (b.mono h.sz)
theorem Jc.cells (h:Jc w next a n c xg xc add s p o g W):(W.cell? (ad w.heap.size 0)=some (iv next)/\W.cell? (ad w.heap.size 1)=some (.slice a n c))/\W.cell? (ad (w.heap.size+1) 0)=some (.slice (some (ad xg 0)) 6 xc)/\(W.cell? (ad (w.heap.size+2) 0)=some (.bool add)/\W.cell? (ad (w.heap.size+2) 1)=some (.string s)/\W.cell? (ad (w.heap.size+2) 2)=some (.string p)/\W.cell? (ad (w.heap.size+2) 3)=some (.string o)/\W.cell? (ad (w.heap.size+2) 4)=some (.string g)):=
 ⟨⟨h.d.cell 0,h.d.cell 1⟩,h.x.cell 0,h.ch.cell 0,h.ch.cell 1,h.ch.cell 2,h.ch.cell 3,h.ch.cell 4⟩
theorem Jc.res (h:Jc w next a n c xg xc add s p o g W):(W.cell? (ad (w.heap.size+3) 0)=some (iv 0)/\W.cell? (ad (w.heap.size+3) 1)=some (.slice none 0 0)/\(∀i,W.frozen? (ad (w.heap.size+3) i)=false))/\W.cell? (ad (w.heap.size+4) 0)=some (.slice none 0 0)/\(∀i,W.frozen? (ad (w.heap.size+4) i)=false)/\w.heap.size+3<W.heap.size/\w.heap.size+4<W.heap.size:=
 ⟨⟨h.rd.cell 0,h.rd.cell 1,h.rd.frozen⟩,h.rx.cell 0,h.rx.frozen,h.rd.lt,h.rx.lt⟩
theorem Jc.ret {t r:Value} (h:Jc w next a n c xg xc add s p o g W) {y z:Value} (f:Int) (l:RW (w.heap.size+5) W (m+4) (.agg #[iv x,y]) (.agg #[z])\/(Value.agg #[iv x,y]=t/\Value.agg #[z]=r)) :
  JU t r m w (.returned (.tuple #[iv f,.agg #[iv x,y],.agg #[z]])) (((W.setCell (ad (w.heap.size+3) 0) (iv x)).setCell (ad (w.heap.size+3) 1) y).setCell (ad (w.heap.size+4) 0) z):=by
 have u:Bl w (((W.setCell (ad (w.heap.size+3) 0) (iv x)).setCell (ad (w.heap.size+3) 1) y).setCell (ad (w.heap.size+4) 0) z):=((h.bel.setCell (by show w.heap.size<=_;simp) _).setCell (by show w.heap.size<=_;simp) _).setCell (by show w.heap.size<=_;simp) _;refine⟨u,f,_,_,rfl,?_⟩;rcases l with l|l;.refine .inr ((l.keep (Uq _) (by simp[World.setCell]) (λb v _=>?_)).low (by omega));exact (Ur _ _ _ _ (show b≠w.heap.size+4 by omega)).trans ((Ur _ _ _ _ (show b≠w.heap.size+3 by omega)).trans (Ur _ _ _ _ (show b≠w.heap.size+3 by omega)))
 .exact .inl l
structure Ks (w:World) (next:Int) (a:Option Addr) (n c xg xc:Nat) (add:Bool) (s p o g:ByteArray) (gi qb m k:Nat) (nx:Int) (a' : Option Addr) (n' c' : Nat) (I:Nat->Int) (X:Nat->ByteArray) (R:Nat->Int) (W:World):Prop where
 ch:Jc w next a n c xg xc add s p o g W
 ids:Ep W gi
 q:∃x y z u:Int,Bx W qb 34 #[iv x,iv y,iv z,iv u]
 e:Bx W (w.heap.size+6) 141 #[iv nx,.slice a' n' c']
 rd:Br W 0 a' n' I X R
 own:k≠0->Br W (w.heap.size+5) a' n' I X R
 gig:w.heap.size+5<=gi
 qbg:w.heap.size+5<=qb
 cap:n'<=c'/\n'<=m+k
section
variable {gi qb k:Nat} {nx:Int} {a' : Option Addr} {n' c' : Nat} {I:Nat->Int} {X:Nat->ByteArray} {R:Nat->Int}
theorem Ks.call (h:Ks w next a n c xg xc add s p o g gi qb m k nx a' n' c' I X R W) (b:Bl W W'):Ks w next a n c xg xc add s p o g gi qb m k nx a' n' c' I X R W':=by obtain⟨x,y,z,u,f⟩:=h.q;exact⟨h.ch.call b,h.ids.below b,⟨x,y,z,u,f.below b⟩,h.e.below b,h.rd.below b,λl=>(h.own l).below b,h.gig,h.qbg,h.cap⟩
theorem Br.setBx {b:Nat} {t:TypeId} (h:Br W B a' n' I X R) (l:Bx W b t cur) (f:232≠t) (i:Nat) (v:Value):Br (W.setCell (ad b i) v) B a' n' I X R:=by
 rcases h with h|⟨g,rfl,u,r⟩;.exact .inl h
 .refine .inr ⟨g,rfl,u,r.of_block (Ur _ _ _ _ ?_)⟩;show g≠b;rintro rfl;obtain⟨z,y,_⟩:=r;unfold Bx at l;rw[y] at l;injection l with q;injection q with _ q _;exact f q
theorem Ks.step (h:Ks w next a n c xg xc add s p o g gi qb m k nx a' n' c' I X R W) (G:Br W (w.heap.size+5) a2 n2 I2 X2 R2) (J:n2<=c2) (hn:n2<=n'+1) (id f:Int) :
  Ks w next a n c xg xc add s p o g gi qb m (k+1) f a2 n2 c2 I2 X2 R2 (((W.setCell (ad gi k) (iv id)).setCell (ad (w.heap.size+6) 0) (iv f)).setCell (ad (w.heap.size+6) 1) (.slice a2 n2 c2)):=by
 obtain⟨x,y,z,u,l⟩:=h.q;have Y:=h.ids.bx h.e (by decide);have F:=h.ids.bx l (by decide);have E:w.heap.size+6≠qb:=by rintro rfl;have r:=h.e;unfold Bx at r l;rw[r] at l;injection l with q;injection q with _ q _;revert q;decide
 obtain⟨cur,t,H⟩:=h.ids;have r:=h.e.other (p:=(ad gi k)) (by show _≠gi;omega) (iv id);have C:=r.set 0 (iv f);have V:=C.set 1 (.slice a2 n2 c2);have D:=((G.setBx t (by decide) k (iv id)).setBx r (by decide) 0 (iv f)).setBx C (by decide) 1 (.slice a2 n2 c2);have O:=h.gig;have v:∀b,b≠gi->b≠w.heap.size+6->(((W.setCell (ad gi k) (iv id)).setCell (ad (w.heap.size+6) 0) (iv f)).setCell (ad (w.heap.size+6) 1) (.slice a2 n2 c2)).heap[b]?=W.heap[b]?:=λb U A=>(Ur _ _ _ _ A).trans ((Ur _ _ _ _ A).trans (Ur _ _ _ _ U));refine⟨h.ch.nxt ((((Up _ _).setCell (by show w.heap.size+5<=gi;omega) _).setCell (by show w.heap.size+5<=_;simp) _).setCell (by show w.heap.size+5<=_;simp) _),?_,⟨x,y,z,u,l.of_block (v qb (λe=>F e.symm) (λe=>E e.symm))⟩,by simpa using V,D.mono (Us _),λ_=>D,O,h.qbg,J,by have:=h.cap.2;omega⟩;exact (h.ids.set k id).of_block ((Ur _ _ _ _ (show gi≠w.heap.size+6 by omega)).trans (Ur _ _ _ _ (show gi≠w.heap.size+6 by omega)))
theorem Ks.cells (h:Ks w next a n c xg xc add s p o g gi qb m k nx a' n' c' I X R W):W.cell? (ad (w.heap.size+6) 0)=some (iv nx)/\W.cell? (ad (w.heap.size+6) 1)=some (.slice a' n' c')/\(∀i,W.frozen? (ad (w.heap.size+6) i)=false)/\w.heap.size+6<W.heap.size:=⟨h.e.cell 0,h.e.cell 1,h.e.frozen,h.e.lt⟩
def Pk (w:World) (next:Int) (a:Option Addr) (n c xg xc:Nat) (add:Bool) (s p o g:ByteArray) (gi qb m k:Nat) (nx:Int) (a' : Option Addr) (n' c' : Nat) (I:Nat->Int) (X:Nat->ByteArray) (R:Nat->Int) (b:Nat) (W:World):Prop:=
 ∃ok id nx2 a2 n2 c2 I2 X2 R2,Ks w next a n c xg xc add s p o g gi qb m k nx a' n' c' I X R W/\Bx W b 213 #[.bool ok,iv id,iv nx2,.slice a2 n2 c2]/\Br W (w.heap.size+5) a2 n2 I2 X2 R2/\n2<=c2/\n2<=n'+1/\w.heap.size+5<=b
theorem DJ {b u:Nat} {t t':TypeId} {f:Array Value} (h:Bx W b t cur) (l : Bx W u t' f) (r:t≠t'):b≠u:=by rintro rfl;unfold Bx at h l;rw[h] at l;injection l with q;injection q with _ q _;exact r q
theorem Ks.fill {y z u:Int} (h:Ks w next a n c xg xc add s p o g gi qb m 4 nx a' n' c' I X R W) (A:Bx W qb 34 #[iv x,iv y,iv z,iv u]) (b l f r:Int) :
  Jc w next a n c xg xc add s p o g ((((W.setCell (ad qb 0) (iv b)).setCell (ad qb 1) (iv l)).setCell (ad qb 2) (iv f)).setCell (ad qb 3) (iv r))/\Bx ((((W.setCell (ad qb 0) (iv b)).setCell (ad qb 1) (iv l)).setCell (ad qb 2) (iv f)).setCell (ad qb 3) (iv r)) qb 34 #[iv b,iv l,iv f,iv r]/\Bx ((((W.setCell (ad qb 0) (iv b)).setCell (ad qb 1) (iv l)).setCell (ad qb 2) (iv f)).setCell (ad qb 3) (iv r)) (w.heap.size+6) 141 #[iv nx,.slice a' n' c']/\Br ((((W.setCell (ad qb 0) (iv b)).setCell (ad qb 1) (iv l)).setCell (ad qb 2) (iv f)).setCell (ad qb 3) (iv r)) (w.heap.size+5) a' n' I X R/\n'<=c'/\n'<=m+4:=by have C:=A.set 0 (iv b);have D:=C.set 1 (iv l);have E:=D.set 2 (iv f);have F:=E.set 3 (iv r);have t:=h.qbg;have v:=DJ h.e A (by decide);exact⟨h.ch.nxt (((((Up _ _).setCell t _).setCell t _).setCell t _).setCell t _),by simpa using F,(((h.e.other v _).other v _).other v _).other v _,((((h.own (by omega)).setBx A (by decide) 0 _).setBx C (by decide) 1 _).setBx D (by decide) 2 _).setBx E (by decide) 3 _,h.cap⟩
def Pe (w:World) (next:Int) (a:Option Addr) (n c xg xc:Nat) (add:Bool) (s p o g:ByteArray) (nx:Int) (a' : Option Addr) (n' c' : Nat) (I:Nat->Int) (X:Nat->ByteArray) (R:Nat->Int) (ab:Nat) (W:World):Prop:=
 ∃ok a8 c8 M8 T8,Jc w next a n c xg xc add s p o g W/\Bx W (w.heap.size+6) 141 #[iv nx,.slice a' n' c']/\Br W (w.heap.size+5) a' n' I X R/\Bx W ab 42 #[.bool ok,.slice a8 6 c8]/\FV (w.heap.size+5) W a8 6 M8 T8/\VI 6 M8 T8/\w.heap.size+5<=ab
theorem SE {Y f:Bool} {F r:Option Addr} {c8 u b:Nat} {J t:Nat->Nat} {D v:Nat->Nat->Tn} (h:Jc w next a n c xg xc add s p o g W/\Bx W (w.heap.size+6) 141 #[iv nx,.slice a' n' c']/\Br W (w.heap.size+5) a' n' I X R/\Bx W b 42 #[.bool Y,.slice F 6 c8]/\FV (w.heap.size+5) W F 6 J D/\VI 6 J D/\w.heap.size+5<=b) (l:Bl W W') (U:FV W.heap.size W' r 6 t v) (hv:VI 6 t v) :
  Pe w next a n c xg xc add s p o g nx a' n' c' I X R b ((W'.setCell (ad b 0) (.bool f)).setCell (ad b 1) (.slice r 6 u)):=by obtain⟨G,C,h3,y,_,_,z⟩:=h;have l4:=y.lt;have E:=y.below l;have A:=E.set 0 (.bool f);have O:=A.set 1 (.slice r 6 u);have H:=DJ C y (by decide);refine⟨f,r,u,t,v,(G.call l).nxt (((Up _ _).setCell z _).setCell z _),((C.below l).other H _).other H _,((h3.below l).setBx E (by decide) 0 _).setBx A (by decide) 1 _,by simpa using O,(U.keep (by simp[World.setCell]) (λx V _=>?_)).low G.sz,hv,z⟩;exact (Ur _ _ _ _ (show x≠b by omega)).trans (Ur _ _ _ _ (show x≠b by omega))
theorem Ks.other {b:Nat} {cur:Array Value} (h:Ks w next a n c xg xc add s p o g gi qb m k nx a' n' c' I X R W) (f:Bx W b 213 cur) (l:w.heap.size+5<=b) (i:Nat) (v:Value):Ks w next a n c xg xc add s p o g gi qb m k nx a' n' c' I X R (W.setCell (ad b i) v):=by obtain⟨x,y,z,u,r⟩:=h.q;have t:=h.ids.bx f (by decide);exact⟨h.ch.nxt ((Up _ _).setCell l _),h.ids.of_block (Ur _ _ _ _ t),⟨x,y,z,u,r.other (DJ r f (by decide)) _⟩,h.e.other (DJ h.e f (by decide)) _,h.rd.setBx f (by decide) _ _,λA=>(h.own A).setBx f (by decide) _ _,h.gig,h.qbg,h.cap⟩
theorem Nm {b:Nat} {v0 v1 v2 v3:Value} (h:Ks w next a n c xg xc add s p o g gi qb m k nx a' n' c' I X R W) (t:Bx W b 213 #[v0,v1,v2,v3]) (f:w.heap.size+5<=b) (z:Br W B a2 n2 I2 X2 R2) (A:w.heap.size+5<=B) (v:n2<=c2/\n2<=n'+1) (u0 u1 u2 u3:Value) :
  Ks w next a n c xg xc add s p o g gi qb m k nx a' n' c' I X R ((((W.setCell (ad b 0) u0).setCell (ad b 1) u1).setCell (ad b 2) u2).setCell (ad b 3) u3)/\Bx ((((W.setCell (ad b 0) u0).setCell (ad b 1) u1).setCell (ad b 2) u2).setCell (ad b 3) u3) b 213 #[u0,u1,u2,u3]/\Br ((((W.setCell (ad b 0) u0).setCell (ad b 1) u1).setCell (ad b 2) u2).setCell (ad b 3) u3) (w.heap.size+5) a2 n2 I2 X2 R2/\n2<=c2/\n2<=n'+1/\w.heap.size+5<=b:=by have l:=t.set 0 u0;have r:=l.set 1 u1;have u:=r.set 2 u2;have y:=u.set 3 u3;refine⟨(((h.other t f 0 u0).other l f 1 u1).other r f 2 u2).other u f 3 u3,by simpa using y,((((z.setBx t (by decide) 0 u0).setBx l (by decide) 1 u1).setBx r (by decide) 2 u2).setBx u (by decide) 3 u3).mono A,v.1,v.2,f⟩
end
theorem JU.drew {r l:Value} {e:Ending} (h:JU r l m w e W):JU r l m w e W.drew:=by
 obtain⟨u,b,v,t,e,f⟩:=h;refine⟨u.drew,b,v,t,e,?_⟩;rcases f with f|f;.exact .inl f
 .exact .inr (f.keep (Uq _) (Uq _) (λ_ _ _=>rfl))
end
variable {xs:List Value}
def Jp (u:Value):Prop:=∃s:ByteArray,u=.string s
def LE (u:Value):Prop:=∃i:Int,u=iv i
def Hx (e:TypeId) (P:Value->Prop) (S:Nat->Prop) (w:World) (a:Option Addr) (n c:Nat):Prop:=
 (n=0\/∃b,a=some (ad b 0)/\S b/\b<w.heap.size/\∀i,i<n->∃u,w.cell? (ad b i)=some u/\P u)/\(∃L,w.ownsRow 0 e 1 (.slice a n c) n L)/\∀g,(Value.slice a n c).ownBlock=some g->S g/\g<w.heap.size
section
variable {e:TypeId} {P:Value->Prop} {S S' : Nat->Prop} {w w' : World} {a:Option Addr} {n c:Nat}
theorem RC {B s:Nat} {v:Value} {L:List Value} (h:w.ownsRow B e s v n L) (b o:Nat) (u:Value):∃L',(w.setCell (ad b o) u).ownsRow B e s v n L':=by
 rcases h with ⟨l,r⟩;rcases r with ⟨r,G⟩|⟨g,f,cur,y,E,z,D,t,A,F⟩;.exact⟨L,l,.inl ⟨r,G⟩⟩
 .by_cases e:g=b;.subst e;have H:=Bx.set (show Bx w g _ cur from z) o u;refine⟨(cur.setIfInBounds o u).toList.take (n*s),?_,.inr ⟨g,f,cur.setIfInBounds o u,y,E,H,D,t,by simpa using A,rfl⟩⟩;have C:=congrArg List.length F;rw[l] at C;simp at C ⊢;omega
  .exact⟨L,l,.inr ⟨g,f,cur,y,E,(Ur _ _ _ _ e).trans z,D,t,A,F⟩⟩
theorem Hx.keep (h:Hx e P S w a n c) (D:w.heap.size<=w'.heap.size) (r:∀b,S b->b<w.heap.size->S' b/\w'.heap[b]?=w.heap[b]?):Hx e P S' w' a n c:=by
 obtain⟨t,⟨L,y⟩,l⟩:=h;refine⟨?_,⟨L,AK y (λg f=>(r g (l g f).1 (l g f).2).2)⟩,λg f=>⟨(r g (l g f).1 (l g f).2).1,UB (l g f).2 D⟩⟩;rcases t with t|⟨b,rfl,F,E,v⟩;.exact .inl t
 .obtain⟨z,A⟩:=r b F E;exact .inr ⟨b,rfl,z,by omega,λi C=>by obtain⟨u,u1,u2⟩:=v i C;exact⟨u,(World.cell?_of_block (a:=(ad b i)) A).trans u1,u2⟩⟩
theorem Hx.set (h:Hx e P S w a n c) {b o:Nat} {u:Value} (A:∀v,w.cell? (ad b o)=some v->P v->P u):Hx e P S (w.setCell (ad b o) u) a n c:=by
 obtain⟨f,⟨L,C⟩,y⟩:=h;refine⟨?_,RC C b o u,λg t=>⟨(y g t).1,by simpa[World.setCell] using (y g t).2⟩⟩;rcases f with f|⟨l,rfl,F,E,z⟩;.exact .inl f
 .refine .inr ⟨l,rfl,F,by simpa[World.setCell] using E,λi D=>?_⟩;obtain⟨v,v1,v2⟩:=z i D;by_cases r:((ad l i):Addr)=(ad b o);.rw[r] at v1 ⊢;exact⟨u,World.cell?_setCell_same _ _ _ v1,A v v1 v2⟩
  .exact⟨v,(World.cell?_setCell_other _ _ _ _ (λq=>r q.symm)).trans v1,v2⟩
def PR (S:Nat->Prop) (w:World) (v0 v1 v2 v3:Value):Prop:=
 ∃lf ka kn kc da dn dc ct,v0=.bool lf/\v1=.slice ka kn kc/\v2=.slice da dn dc/\v3=iv ct/\Hx 9 Jp S w ka kn kc/\Hx 2 LE S w da dn dc/\kn<=10/\dn<=10
def SW (S:Nat->Prop) (w:World) (n:Nat) (xs:List Value):Prop:=
 xs.length=n*4/\∀i,i<n->∃v0 v1 v2 v3,xs[i*4]?=some v0/\xs[i*4+1]?=some v1/\xs[i*4+2]?=some v2/\xs[i*4+3]?=some v3/\PR S w v0 v1 v2 v3
theorem PR.keep {v0 v1 v2 v3:Value} (h:PR S w v0 v1 v2 v3) (l:w.heap.size<=w'.heap.size) (f:∀b,S b->b<w.heap.size->S' b/\w'.heap[b]?=w.heap[b]?):PR S' w' v0 v1 v2 v3:=by obtain⟨z,r,kn,kc,da,dn,dc,D,C,v,u,E,y,t,A⟩:=h;exact⟨z,r,kn,kc,da,dn,dc,D,C,v,u,E,y.keep l f,t.keep l f,A⟩
theorem PR.set {v0 v1 v2 v3:Value} {b o:Nat} {u:Value} (h:PR S w v0 v1 v2 v3) (l:∀v,w.cell? (ad b o)=some v->(Jp v->Jp u)/\(LE v->LE u)):PR S (w.setCell (ad b o) u) v0 v1 v2 v3:=by obtain⟨C,r,kn,kc,da,dn,dc,F,E,z,y,G,A,t,D⟩:=h;exact⟨C,r,kn,kc,da,dn,dc,F,E,z,y,G,A.set (λv f=>(l v f).1),t.set (λv f=>(l v f).2),D⟩
theorem Bp.flt {N:Nat->Tn} (h:Bp S w n N xs) (C:∀i,i<n->(N i).kn<=4/\(N i).dn<=4):SW S w n xs:=
 ⟨h.1,λi y=>by
  obtain⟨v0,v1,v2,v3,H,q1,F,z,E,G,A,kc,da,dc,U,J,⟨u,O,Y⟩,⟨l,V,D⟩⟩:=h.2 i y
  have hn:=C i y
  refine⟨v0,v1,v2,v3,H,q1,F,z,(N i).lf,A,(N i).kn,kc,da,(N i).dn,dc,(N i).ct,E,U,J,G,⟨?_,O,Y⟩,⟨?_,V,D⟩,by omega,by omega⟩
  .rcases u with u|⟨b,rfl,v,r,f⟩
   .exact .inl u
   .exact .inr ⟨b,rfl,v,r,λj t=>⟨_,f j t,_,rfl⟩⟩
  .rcases l with l|⟨b,rfl,v,r,f⟩
   .exact .inl l
   .exact .inr ⟨b,rfl,v,r,λj t=>⟨_,f j t,_,rfl⟩⟩⟩
theorem Hx.strs (h:Hx 9 Jp S w a n c):∃r:Nat->ByteArray,ER 9 S w a n c (λi=>.string (r i)):=by
 obtain⟨l,t,v⟩:=h;rcases l with l|⟨b,rfl,A,z,y⟩;.exact⟨λ_=>{ data:=#[] },.inl l,t,v⟩
 .have:∀i,∃s:ByteArray,i<n->w.cell? (ad b i)=some (.string s):=λi=>by
   by_cases u:i<n;.obtain⟨_,u1,s,rfl⟩:=y i u;exact⟨s,λ_=>u1⟩
   .exact⟨{ data:=#[] },λe=>absurd e u⟩
  obtain⟨r,f⟩:=Classical.axiomOfChoice this;exact⟨r,.inr ⟨b,rfl,A,z,f⟩,t,v⟩
theorem Hx.ints (h:Hx 2 LE S w a n c):∃r:Nat->Int,ER 2 S w a n c (λi=>iv (r i)):=by
 obtain⟨l,t,v⟩:=h;rcases l with l|⟨b,rfl,A,z,y⟩;.exact⟨λ_=>0,.inl l,t,v⟩
 .have:∀i,∃s:Int,i<n->w.cell? (ad b i)=some (iv s):=λi=>by
   by_cases u:i<n;.obtain⟨_,u1,s,rfl⟩:=y i u;exact⟨s,λ_=>u1⟩
   .exact⟨0,λe=>absurd e u⟩
  obtain⟨r,f⟩:=Classical.axiomOfChoice this;exact⟨r,.inr ⟨b,rfl,A,z,f⟩,t,v⟩
theorem SW.flat (h:SW S w n xs):∃N:Nat->Tn,Bp S w n N xs/\∀i,i<n->Bg (N i):=by
 have:∀i,∃x:Tn,i<n->(∃v0 v1 v2 v3,xs[i*4]?=some v0/\xs[i*4+1]?=some v1/\xs[i*4+2]?=some v2/\xs[i*4+3]?=some v3/\TR S w x v0 v1 v2 v3)/\Bg x:=λi=>by
  by_cases b:i<n;.obtain⟨v0,v1,v2,v3,u,E,A,y,t,l,kn,kc,da,dn,dc,v,rfl,rfl,rfl,rfl,F,z,H,J⟩:=h.2 i b;obtain⟨G,C⟩:=F.strs;obtain⟨r,D⟩:=z.ints;exact⟨⟨t,kn,G,dn,r,v⟩,λ_=>⟨⟨_,_,_,_,u,E,A,y,rfl,rfl,l,kc,da,dc,rfl,rfl,C,D⟩,by show kn<=_;omega,by show dn<=_;omega⟩⟩
  .exact⟨TI,λe=>absurd e b⟩
 obtain⟨N,f⟩:=Classical.axiomOfChoice this;exact⟨N,⟨h.1,λi b=>(f i b).1⟩,λi b=>(f i b).2⟩
end
variable {k kc kn o s:Nat}{L L':List Value}{S:Nat->Prop}{e:TypeId}
def SQ (w:World) (ra:Option Addr) (n rc:Nat) (b:Nat):Prop:=w.heap.size+2<=b/\(Value.slice ra n rc).ownBlock≠some b
structure LS (Z g:Nat) (w:World) (nb n ix:Nat) (ra:Option Addr) (rc:Nat) (xs:List Value) (v0 v1 v2 v3:Value) (W:World):Prop where
 dr:Dw Z g W
 fr:w.grownBy W (some g)
 t:Bx W w.heap.size 59 #[.slice ra n rc]
 r:Bx W (w.heap.size+1) 59 #[.slice none 0 0]
 row:W.ownsRow (w.heap.size+2) 168 4 (.slice ra n rc) n xs
 fl:∀j,j<n->j≠ix->∃v0 v1 v2 v3,xs[j*4]?=some v0/\xs[j*4+1]?=some v1/\xs[j*4+2]?=some v2/\xs[j*4+3]?=some v3/\PR (SQ w ra n rc) W v0 v1 v2 v3
 bn:Bx W nb 168 #[v0,v1,v2,v3]
 nt:PR (SQ w ra n rc) W v0 v1 v2 v3
 kd:∀j,j<n->j≠ix->∀b,v1.ownBlock=some b->MG xs j≠some b
 ne:(Value.slice ra n rc).ownBlock≠some nb
 gl:w.heap.size+2<=nb/\Z<=w.heap.size
section
variable {Z g:Nat} {w W W' : World} {nb n ix:Nat} {ra:Option Addr} {rc:Nat} {xs:List Value} {v0 v1 v2 v3:Value}
theorem LS.keep (h:LS Z g w nb n ix ra rc xs v0 v1 v2 v3 W) (F:Dw Z g W') (G:w.grownBy W' (some g)) (y:W.heap.size<=W'.heap.size) (f:∀b,w.heap.size<=b->b<W.heap.size->W'.heap[b]?=W.heap[b]?):LS Z g w nb n ix ra rc xs v0 v1 v2 v3 W':=by have u:∀b,SQ w ra n rc b->b<W.heap.size->SQ w ra n rc b/\W'.heap[b]?=W.heap[b]?:=λb v D=>⟨v,f b (by have:=v.1;omega) D⟩;refine⟨F,G,h.t.of_block (f _ (by omega) h.t.lt),h.r.of_block (f _ (by omega) h.r.lt),AK h.row (λb e=>f b (by have:=(Ah h.row b e).1;omega) (Ah h.row b e).2),λj z l=>?_,h.bn.of_block (f _ (by have:=h.gl;omega) h.bn.lt),h.nt.keep y u,h.kd,h.ne,h.gl⟩;obtain⟨u0,u1,u2,u3,E,C,A,H,q⟩:=h.fl j z l;exact⟨u0,u1,u2,u3,E,C,A,H,q.keep y u⟩
theorem LS.draw (h:LS Z g w nb n ix ra rc xs v0 v1 v2 v3 W) (l:Dw Z g W') (f:W.grownBy W' (some g)):LS Z g w nb n ix ra rc xs v0 v1 v2 v3 W':=
 h.keep l (Az h.fr f) f.size (λb t r=>f.block b r (λe=>by injection e with e;have:=l.lt;have:=h.gl;omega))
theorem LS.below (h:LS Z g w nb n ix ra rc xs v0 v1 v2 v3 W) (f:Bl W W'):LS Z g w nb n ix ra rc xs v0 v1 v2 v3 W':=
 h.keep (h.dr.below f) (BV h.fr f) f.size (λb _ l=>f.block b l)
theorem LS.set {b o:Nat} {u u0 u1 u2 u3:Value} (h:LS Z g w nb n ix ra rc xs v0 v1 v2 v3 W) (Y:w.heap.size+2<=b) (E:(Value.slice ra n rc).ownBlock≠some b) (A:∀v,W.cell? (ad b o)=some v->(Jp v->Jp u)/\(LE v->LE u))
  (O:Bx (W.setCell (ad b o) u) nb 168 #[u0,u1,u2,u3]) (H:PR (SQ w ra n rc) (W.setCell (ad b o) u) u0 u1 u2 u3) (D:u1.ownBlock=v1.ownBlock):LS Z g w nb n ix ra rc xs u0 u1 u2 u3 (W.setCell (ad b o) u):=by have hz:=h.gl.2;refine⟨h.dr.grown Ak (λq e=>by injection e with e;omega),AZ h.fr Ak (λq e=>by injection e with e;omega),h.t.other (by show w.heap.size≠b;omega) _,h.r.other (by show w.heap.size+1≠b;omega) _,AK h.row (λq e=>Ur _ _ _ _ (λy=>E (by have z:q=b:=y;rw[<- z];exact e))),λj l f=>?_,O,H,λj l f q e=>h.kd j l f q (by rw[<- D];exact e),h.ne,h.gl⟩;obtain⟨G,V,U,C,J,F,y,z,q⟩:=h.fl j l f;exact⟨G,V,U,C,J,F,y,z,q.set A⟩
theorem Ee {e g j:Nat} {u:Value} (h:w.ownsRow B e s (.slice (some (ad g 0)) n c) n L):(w.setCell (ad g j) u).ownsRow B e s (.slice (some (ad g 0)) n c) n (L.set j u):=by
 obtain⟨v,f⟩:=h;rcases f with ⟨f,_⟩|⟨H,C,cur,r,D,t,A,l,z,E⟩;.cases f
 .injection r with b G F;injection b with b;injection b with b;subst b F;have y:=Bx.set (show Bx w g _ cur from t) j u;refine⟨by rw[List.length_set];exact v,.inr ⟨g,c,cur.setIfInBounds j u,rfl,D,y,A,l,by simpa using z,?_⟩⟩;rw[<- E,Array.toList_setIfInBounds,List.take_set]
theorem LS.count (h:LS Z g w nb n ix ra rc xs v0 v1 v2 v3 W) (x:Int):LS Z g w nb n ix ra rc xs v0 v1 v2 (iv x) (W.setCell (ad nb 3) (iv x)):=by
 obtain⟨z,l,kn,kc,da,dn,dc,A,rfl,rfl,rfl,rfl,t,u,y⟩:=h.nt;have r:=h.bn.cell 3;have f:∀v,W.cell? (ad nb 3)=some v->(Jp v->Jp (iv x))/\(LE v->LE (iv x)):=λv b=>by rw[r] at b;simp at b;subst b;exact⟨λ⟨_,q⟩=>(by cases q),λ_=>⟨x,rfl⟩⟩
 exact h.set h.gl.1 h.ne f (by simpa using h.bn.set 3 (iv x)) ⟨z,l,kn,kc,da,dn,dc,x,rfl,rfl,rfl,rfl,t.set (λv b=>(f v b).1),u.set (λv b=>(f v b).2),y⟩ rfl
theorem LS.leaf (h:LS Z g w nb n ix ra rc xs v0 v1 v2 v3 W) (x:Bool):LS Z g w nb n ix ra rc xs (.bool x) v1 v2 v3 (W.setCell (ad nb 0) (.bool x)):=by
 obtain⟨A,l,kn,kc,da,dn,dc,z,rfl,rfl,rfl,rfl,t,u,y⟩:=h.nt;have r:=h.bn.cell 0;have f:∀v,W.cell? (ad nb 0)=some v->(Jp v->Jp (.bool x))/\(LE v->LE (.bool x)):=λv b=>by rw[r] at b;simp at b;subst b;exact⟨λ⟨_,q⟩=>(by cases q),λ⟨_,q⟩=>(by cases q)⟩
 exact h.set h.gl.1 h.ne f (by simpa using h.bn.set 0 (.bool x)) ⟨x,l,kn,kc,da,dn,dc,z,rfl,rfl,rfl,rfl,t.set (λv b=>(f v b).1),u.set (λv b=>(f v b).2),y⟩ rfl
theorem LS.key {f:Nat} (h:LS Z g w nb n ix ra rc xs v0 (.slice (some (ad f 0)) kn kc) v2 v3 W) (O:o<kn) (s:ByteArray):LS Z g w nb n ix ra rc xs v0 (.slice (some (ad f 0)) kn kc) v2 v3 (W.setCell (ad f o) (.string s))/\(∃t:ByteArray,W.cell? (ad f o)=some (.string t))/\(∀i,W.frozen? (ad f i)=false)/\f<W.heap.size/\f≠nb:=by
 obtain⟨lf,Y,J,V,da,dn,dc,ct,rfl,F,rfl,rfl,U,r2,r3⟩:=h.nt;injection F with F D z;subst F D z;obtain⟨E,⟨L,G⟩,C⟩:=U;have H:=C f rfl;obtain⟨cur,r,_⟩:=Kt G;have u:=DJ r h.bn (by decide);have l:∃t:ByteArray,W.cell? (ad f o)=some (.string t):=by
  rcases E with q|⟨b,e,_,_,q⟩;.omega
  .injection e with e;injection e with e;subst e;obtain⟨_,u1,t,rfl⟩:=q o O;exact⟨t,u1⟩
 have y:∀v,W.cell? (ad f o)=some v->(Jp v->Jp (.string s))/\(LE v->LE (.string s)):=λv A=>by obtain⟨t,q⟩:=l;rw[q] at A;injection A with A;subst A;exact⟨λ_=>⟨s,rfl⟩,λ⟨_,q⟩=>(by cases q)⟩
 exact⟨h.set H.1.1 H.1.2 y (h.bn.other (p:=(ad f o)) (λe=>u e.symm) _) (h.nt.set y) rfl,l,r.frozen,r.lt,u⟩
theorem LS.kid {f dn dc:Nat} (h:LS Z g w nb n ix ra rc xs v0 v1 (.slice (some (ad f 0)) dn dc) v3 W) (U:o<dn) (x:Int):LS Z g w nb n ix ra rc xs v0 v1 (.slice (some (ad f 0)) dn dc) v3 (W.setCell (ad f o) (iv x))/\(∃G:Int,W.cell? (ad f o)=some (iv G))/\(∀i,W.frozen? (ad f i)=false)/\f<W.heap.size/\f≠nb:=by
 obtain⟨lf,ka,kn,kc,da,V,O,ct,rfl,rfl,E,rfl,r1,Y,r3⟩:=h.nt;injection E with E C y;subst E C y;obtain⟨D,⟨L,F⟩,A⟩:=Y;have H:=A f rfl;obtain⟨cur,r,_⟩:=Kt F;have t:=DJ r h.bn (by decide);have l:∃G:Int,W.cell? (ad f o)=some (iv G):=by
  rcases D with q|⟨b,e,_,_,q⟩;.omega
  .injection e with e;injection e with e;subst e;obtain⟨_,u1,J,rfl⟩:=q o U;exact⟨J,u1⟩
 have u:∀v,W.cell? (ad f o)=some v->(Jp v->Jp (iv x))/\(LE v->LE (iv x)):=λv z=>by obtain⟨J,q⟩:=l;rw[q] at z;injection z with z;subst z;exact⟨λ⟨_,q⟩=>(by cases q),λ_=>⟨x,rfl⟩⟩
 exact⟨h.set H.1.1 H.1.2 u (h.bn.other (p:=(ad f o)) (λe=>t e.symm) _) (h.nt.set u) rfl,l,r.frozen,r.lt,t⟩
theorem Hx.here {P:Value->Prop} (h:Hx e P S W a n c) (f:n≠0):∃b,a=some (ad b 0):=by
 rcases h.1 with q|⟨b,e,_⟩;.exact absurd q f
 .exact⟨b,e⟩
theorem Hx.but {P:Value->Prop} (h:Hx e P S W a n c) (t:(Value.slice a n c).ownBlock≠some k):Hx e P (λb=>S b/\b≠k) W a n c:=by
 obtain⟨f,y,r⟩:=h;refine⟨?_,y,λq l=>⟨⟨(r q l).1,λe=>t (by rw[<- e];exact l)⟩,(r q l).2⟩⟩;rcases f with f|⟨b,rfl,u,z,v⟩;.exact .inl f
 .exact .inr ⟨b,rfl,⟨u,λe=>t (by rw[<- e];rfl)⟩,z,v⟩
theorem Qf {f:TypeId} {t y n':Nat} {v v':Value} (h:W.ownsRow B e s v n L) (r : W.ownsRow t f y v' n' L') (b:e≠f) (u:v'.ownBlock=some k):v.ownBlock≠some k:=λl=>DZ h r b k l u
theorem LS.app {D a':Option Addr} {c':Nat} {O:Obj} (h:LS Z g w nb n ix ra rc xs v0 (.slice D kn kc) v2 v3 W) (ap:kn+1<=10) (ho:W'.ownsRow 0 9 1 (.slice a' (kn+1) c') (kn+1) L') (hL:∀u∈L',Jp u) (hg:(W.alloc O).grownBy W' (Value.slice D kn kc).ownBlock) (U:(Value.slice a' (kn+1) c').ownBlock=(Value.slice D kn kc).ownBlock\/(Value.slice a' (kn+1) c').ownBlock=some (W.alloc O).heap.size) :
  LS Z g w nb n ix ra rc xs v0 (.slice a' (kn+1) c') v2 v3 (W'.setCell (ad nb 1) (.slice a' (kn+1) c'))/\Bx W' nb 168 #[v0,.slice D kn kc,v2,v3]:=by
 have hz:=h.gl.2;have aj:=hg.size;rw[UF] at aj U;obtain⟨lf,au,aq,ar,da,dn,dc,ct,e0,e1,e2,e3,r1,r2,r3,r4⟩:=h.nt;injection e1 with e1 al ag;subst e1 al ag;obtain⟨av,⟨Lk,aa⟩,J⟩:=r1;have l:∀k,(Value.slice D kn kc).ownBlock=some k->w.heap.size+2<=k/\(Value.slice ra n rc).ownBlock≠some k/\k≠nb/\k<W.heap.size:=λk e=>⟨(J k e).1.1,(J k e).1.2,λe4=>ED aa h.bn (by decide) (by rw[<- e4];exact e),(J k e).2⟩;have z:∀b,b<W.heap.size->(Value.slice D kn kc).ownBlock≠some b->W'.heap[b]?=W.heap[b]?:=λb H f=>(hg.block b (by simp;omega) (λe=>f e.symm)).trans ((Aa W O).block b H);have Y : Bx W' nb 168 #[v0,.slice D kn kc,v2,v3]:=h.bn.of_block (z nb h.bn.lt (λe=>(l nb e).2.2.1 rfl));have C:∀b,b≠nb->(W'.setCell (ad nb 1) (.slice a' (kn+1) c')).heap[b]?=W'.heap[b]?:=λb H=>Ur _ _ _ _ H;have V:W'.cell? (ad nb 1)=some (.slice D kn kc):=Y.cell 1;have E:∀v,W'.cell? (ad nb 1)=some v->(Jp v->Jp (.slice a' (kn+1) c'))/\(LE v->LE (.slice a' (kn+1) c')):=λv A=>by rw[V] at A;injection A with A;subst A;exact⟨λ⟨_,q⟩=>(by cases q),λ⟨_,q⟩=>(by cases q)⟩
 have y:∀{e:TypeId} {P:Value->Prop} {a:Option Addr} {m c:Nat},Hx e P (SQ w ra n rc) W a m c->(∀k,(Value.slice D kn kc).ownBlock=some k->(Value.slice a m c).ownBlock≠some k)->Hx e P (SQ w ra n rc) W' a m c:=λ{e P a m c} hR f=>by
  cases hk:(Value.slice D kn kc).ownBlock with
  | none=>exact hR.keep (by omega) (λb H hl=>⟨H,z b hl (by rw[hk];simp)⟩)
  | some k=>exact (hR.but (f k hk)).keep (by omega) (λb H hl=>⟨H.1,z b hl (by rw[hk];intro e;injection e with e;exact H.2 e.symm)⟩)
 have G:∀k,(Value.slice a' (kn+1) c').ownBlock=some k->SQ w ra n rc k/\k<W'.heap.size:=λk e=>by
  refine⟨?_,(Ah ho k e).2⟩;rcases U with q|q;.rw[q] at e;exact⟨(l k e).1,(l k e).2.1⟩
  .rw[q] at e;injection e with e;have hs:=h.bn.lt;have:=h.gl.1;refine⟨by omega,λe5=>?_⟩;have:=(Ah h.row k e5).2;omega
 have tk:Hx 9 Jp (SQ w ra n rc) W' a' (kn+1) c':=by refine⟨?_,⟨L',ho⟩,G⟩;obtain⟨a2,c2,e4,hf⟩:=Af ho;injection e4 with e4;subst e4;obtain⟨b,rfl,_,ah,ak⟩:=hf (by omega);refine .inr ⟨b,rfl,(G b rfl).1,ah,λi hi=>?_⟩;have hl:=ho.1;have e5:L'[i]?=some (L'[i]'(by omega)):=Ut (by omega);exact⟨_,ak i _ e5,hL _ (UA _)⟩
 obtain⟨Ld,am⟩:=r2.2.1;have td:Hx 2 LE (SQ w ra n rc) W' da dn dc:=y r2 (λk e=>Qf am aa (by decide) e);have ao:w.grownBy W' (some g):=AZ (BV h.fr (Aa W O)) hg (λk e=>by have:=(l k e).1;omega);refine⟨⟨?_,AZ ao Ak (λq e=>by injection e with e;have:=h.gl.1;omega),?_,?_,?_,λj hj f=>?_,?_,?_,λj hj f b e F=>?_,h.ne,h.gl⟩,Y⟩;.exact ((h.dr.below (Aa W O)).grown hg (λk e=>by have:=(l k e).1;omega)).grown Ak (λq e=>by injection e with e;have:=h.gl.1;omega)
 .exact h.t.of_block ((C _ (by have:=h.gl.1;omega)).trans (z _ h.t.lt (λe=>by have:=(l _ e).1;omega)))
 .exact h.r.of_block ((C _ (by have:=h.gl.1;omega)).trans (z _ h.r.lt (λe=>by have:=(l _ e).1;omega)))
 .exact AK h.row (λq e=>(C q (λe6=>h.ne (by rw[<- e6];exact e))).trans (z q (Ah h.row q e).2 (λe6=>(l q e6).2.1 e)))
 .obtain⟨u0,u1,u2,u3,f0,f1,f2,f3,ab,kb,km,ac,db,dm,af,ae,rfl,rfl,rfl,rfl,s1,s2,s3,s4⟩:=h.fl j hj f;obtain⟨Ls,an⟩:=s2.2.1;refine⟨_,_,_,_,f0,f1,f2,f3,ab,kb,km,ac,db,dm,af,ae,rfl,rfl,rfl,rfl,(y s1 (λk e e7=>h.kd j hj f k e (by unfold MG;rw[f1];exact e7))).set (λv A=>(E v A).1),(y s2 (λk e=>Qf an aa (by decide) e)).set (λv A=>(E v A).2),s3,s4⟩
 .simpa using Y.set 1 (.slice a' (kn+1) c')
 .exact⟨lf,a',kn+1,c',da,dn,dc,ct,e0,rfl,e2,e3,tk.set (λv A=>(E v A).1),td.set (λv A=>(E v A).2),ap,r4⟩
 .rcases U with q|q;.rw[q] at e;exact h.kd j hj f b e F
  .rw[q] at e;injection e with e;obtain⟨u0,u1,u2,u3,f0,f1,f2,f3,ab,kb,km,ac,db,dm,af,ae,rfl,rfl,rfl,rfl,s1,s2,s3,s4⟩:=h.fl j hj f;unfold MG at F;rw[f1] at F;have:=(s1.2.2 b F).2;omega
theorem LS.back {f:Nat} (h:LS Z g w nb n ix (some (ad f 0)) rc xs v0 v1 v2 v3 W) (hi:ix<n) :
  Dw Z g ((((W.setCell (ad f (ix*4)) v0).setCell (ad f (ix*4+1)) v1).setCell (ad f (ix*4+2)) v2).setCell (ad f (ix*4+3)) v3)/\w.grownBy ((((W.setCell (ad f (ix*4)) v0).setCell (ad f (ix*4+1)) v1).setCell (ad f (ix*4+2)) v2).setCell (ad f (ix*4+3)) v3) (some g)/\Bx ((((W.setCell (ad f (ix*4)) v0).setCell (ad f (ix*4+1)) v1).setCell (ad f (ix*4+2)) v2).setCell (ad f (ix*4+3)) v3) w.heap.size 59 #[.slice (some (ad f 0)) n rc]/\Bx ((((W.setCell (ad f (ix*4)) v0).setCell (ad f (ix*4+1)) v1).setCell (ad f (ix*4+2)) v2).setCell (ad f (ix*4+3)) v3) (w.heap.size+1) 59 #[.slice none 0 0]/\∃N:Nat->Tn,BQ (w.heap.size+2) ((((W.setCell (ad f (ix*4)) v0).setCell (ad f (ix*4+1)) v1).setCell (ad f (ix*4+2)) v2).setCell (ad f (ix*4+3)) v3) (some (ad f 0)) n N/\∀i,i<n->Bg (N i):=by
 obtain⟨V,z⟩:∃V,V=(((W.setCell (ad f (ix*4)) v0).setCell (ad f (ix*4+1)) v1).setCell (ad f (ix*4+2)) v2).setCell (ad f (ix*4+3)) v3:=⟨_,rfl⟩;have H:=Ah h.row f rfl;have U:=h.gl.2;have D:=Ee (j:=ix*4+3) (u:=v3) (Ee (j:=ix*4+2) (u:=v2) (Ee (j:=ix*4+1) (u:=v1) (Ee (j:=ix*4) (u:=v0) h.row)));have G:=h.row.1;have v:∀b,b≠f->V.heap[b]?=W.heap[b]?:=λb l=>by rw[z];exact (Ur _ _ _ _ l).trans ((Ur _ _ _ _ l).trans ((Ur _ _ _ _ l).trans (Ur _ _ _ _ l)))
 have C:∀b,SQ w (some (ad f 0)) n rc b->b<W.heap.size->SQ w (some (ad f 0)) n rc b/\V.heap[b]?=W.heap[b]?:=λb l _=>⟨l,v b (λe=>l.2 (by rw[e];rfl))⟩;have y:W.heap.size<=V.heap.size:=by rw[z];simp[World.setCell]
 rw[<- z] at D ⊢;have A:SW (SQ w (some (ad f 0)) n rc) V n ((((xs.set (ix*4) v0).set (ix*4+1) v1).set (ix*4+2) v2).set (ix*4+3) v3):=by
  refine⟨by simpa using G,λj E=>?_⟩;by_cases e:j=ix
  .subst e;refine⟨v0,v1,v2,v3,?_,?_,?_,?_,h.nt.keep y C⟩;.rw[List.getElem?_set_ne (by omega),List.getElem?_set_ne (by omega),List.getElem?_set_ne (by omega),List.getElem?_set_self (by omega)]
   .rw[List.getElem?_set_ne (by omega),List.getElem?_set_ne (by omega),List.getElem?_set_self (by simp;omega)]
   .rw[List.getElem?_set_ne (by omega),List.getElem?_set_self (by simp;omega)]
   .rw[List.getElem?_set_self (by simp;omega)]
  .obtain⟨u0,u1,u2,u3,Y,O,J,e3,q⟩:=h.fl j E e;refine⟨u0,u1,u2,u3,?_,?_,?_,?_,q.keep y C⟩;all_goals
    rw[List.getElem?_set_ne (by omega),List.getElem?_set_ne (by omega),List.getElem?_set_ne (by omega),List.getElem?_set_ne (by omega)]
    assumption
 obtain⟨N,F,n2⟩:=A.flat;refine⟨?_,?_,h.t.of_block (v _ (by omega)),h.r.of_block (v _ (by omega)),N,Bp.rowN D (F.mono (Uq _) (λb l _=>⟨l.1,rfl⟩)),n2⟩;.rw[z];exact (((h.dr.grown Ak (λq e=>by injection e with e;omega)).grown Ak (λq e=>by injection e with e;omega)).grown Ak (λq e=>by injection e with e;omega)).grown Ak (λq e=>by injection e with e;omega)
 .rw[z];exact AZ (AZ (AZ (AZ h.fr Ak (λq e=>by injection e with e;omega)) Ak (λq e=>by injection e with e;omega)) Ak (λq e=>by injection e with e;omega)) Ak (λq e=>by injection e with e;omega)
end
variable {Q:Exit->Act->World->Prop}{o:Oper}
theorem QY (n:Nat) (w:World) (hn:n<=1048576) :
  UO 149 #[iv n] w λe w'=>∃a c,e=.returned (.slice a n c)/\Rd .u8 w' a n (λ_=>0)/\Bl w w':=by
 obtain⟨i0,C,z,t,y⟩:=info_parts info5k;have A:=Ae (ai C (ai z (ai t y)));clear C z t y;go_enter func149,ntmps149;go_wp2;go_loopw [3,4] (λv i wr=>∃k:Nat,k<=n/\i=iv k/\wr.ownsRow w.heap.size 5 1 v k (List.replicate k (.int .u8 0))/\Bl w wr) (λ_ i _=>n-(intOf i).toNat)
 case atStart=>exact⟨0,Us _,rfl,World.ownsRow_lit w #[] 0 (Uq _) (Us _) rfl,(Up _ _).alloc (Uq _) _⟩
 case round=>
  obtain⟨k,hk,rfl,h,f⟩:=hrel;by_cases V:k<n
  .have D:=f.size;have J:=Ae f;have E:=Ae h;clear f h;go_wp2_with (at_builtin;refine wpList_append_own _ rfl _ _ 47 rfl w.heap.size 5 i0 (.int .u8 0) 1 1 underlying47 A.o.1 A.o.2.1 A.o.2.2.1 A.o.2.2.2 rfl (by decide) _ k (List.replicate k (.int .u8 0)) rfl (E.o.alloc _) (ad wr.heap.size 0) 1 1 [.int .u8 0] rfl rfl ?c1 ?c2 ?c3 ?c4 ?c5 ?c6)
   case c1=>exact cell_one_new _ _ _
   case c2=>intro u F;simp at F;subst F;rfl
   case c3=>unfold maxLen;omega
   case c4=>omega
   case c5=>simp;omega
   .intro v' H l r _;have HX:U (H.ownsRow w.heap.size 5 1 v' (k+1) (List.replicate (k+1) (.int .u8 0))/\Bl w H):=
     ⟨by rw[List.replicate_succ'];exact l,(J.o.alloc D _).grown r (by simp;omega) (λb e=>(E.o.lt b e).1)⟩
    clear l r E J;go_wp2;go_roundw;case rel=>exact⟨k+1,by omega,by go_num,HX.o⟩
    case measure=>simp[intOf];omega
  .have e:k=n:=by omega
   subst e;go_wp2;go_ret;obtain⟨a,c,rfl,O⟩:=Af h;refine⟨a,c,rfl,?_,f⟩;by_cases G:k=0;.exact .inl G
   .obtain⟨q,rfl,_,_,Y⟩:=O G;exact .inr ⟨q,0,rfl,λi C=>by rw[UI];exact Y i _ (by simp[C])⟩
theorem Ce {B g n c s:Nat} {t:TypeId} {xs:List Value} (h:w.ownsRow B t s (.slice (some (ad g 0)) n c) n xs):∃cur:Array Value,Bx w g t cur/\∀(j:Nat) (u:Value),xs[j]?=some u->cur[j]?=some u:=by
 rcases h.2 with ⟨q,_⟩|⟨y,r,cur,q,z,f,A,v,C,l⟩;.cases q
 .injection q with q;injection q with q;injection q with q;subst q;refine⟨cur,f,λj u b=>?_⟩;rw[<- l,List.getElem?_take] at b;split at b;.simpa using b
  .cases b
theorem JM {A:Array Oper} {rest:List Oper} {f:Act} (H:o.guard=none) (s x:Operand) (t e:TypeId) {y:TypeInfo} {z:Value} {size b:Nat}
  (ho:o.op=.call { callee:=.builtin .append,args:=#[s,x],argTypes:=#[t,t] }) (ht:prog.underlying t=some (.slice e)) (hi:prog.info? e=some y) (O:y.zero=some z) (E:y.size=size) (F:y.bytes=b) (D:z.cells.size=size) (C:0<size)
  (B:Nat) (v:Value) (n:Nat) (xs:List Value) (Y:f.eval s=v) (r:w.ownsRow B e size v n xs) (g:Nat) (cur:Array Value) (hb:Bx w g e cur) (hx:f.eval x=.slice (some (ad g 0)) 1 1) (U:cur.size=size) (h1:∀u∈cur.toList,u.oneCell'=true) (hn:n<=1048576) (G:b<=64) (hB:B<=w.heap.size)
  (h:∀l w',w'.ownsRow B e size l (n+1) (xs++cur.toList)->w.grownBy w' v.ownBlock->(l.ownBlock=v.ownBlock\/l.ownBlock=some w.heap.size)->wpList prog A Q rest (f.put o.dst l) w'):wpList prog A Q (o::rest) f w:=by
 have J:(n+1)*b<=140737488355328:=by have:=Nat.mul_le_mul (show n+1<=1048577 by omega) G;omega
 obtain⟨l,w',hr,h2,V,h4,h5⟩:=run_append_own_at (P:=prog) w B t o.type e y z size b ht hi O E F D C v n xs r (ad g 0) 1 1 cur.toList (by simp[U]) (λj u' hj=>by have q:=hb.cell j;rw[Addr.add_lit,UI,q];simpa using hj) h1 (by unfold maxLen;omega) J hB
 refine wpList_plain H λK hK=>?_;unfold Oper.wp;simp[execOp,ho,resolve,invoke,builtin,Y,hx,hr,Result.andThen];exact hK _ _ (h l w' h2 V h5)
theorem Pu {f:Array Oper} {a:Act} {K:Act->World->Prop} {E:Prop} (y:o.guard=none) (k:Nat) (v:Value) (l:Array TypeId)
  (z:o.op=.call { callee:=.value (.func k),args:=#[.const v],argTypes:=l }) (t:∀b w,(callFunc k b).run prog w=.ok (.enter k b) w)
  (h:UO k #[v] w λe w'=>∃r,e=.returned r/\K (a.put o.dst r) w') :
  if Region.wanted o (yielded f a.tmps)=true then Oper.wp prog o a w K Q else E:=by
 have C:Region.wanted o (yielded f a.tmps)=true:=by simp[Region.wanted,y]
 rw[if_pos C];unfold Oper.wp;simp[execOp,z,resolve,invoke,go_sem,t];refine h.mono ?_;rintro e w' ⟨u,rfl,A⟩;exact A
theorem Nv {L:List ByteArray} (h:∀x,x∈L->x.size<=16) (i:Nat):(gt L i).size<=16:=by
 by_cases b:i<L.length
 .have e:gt L i=L[i]:=by simp[gt,List.getD,Ut b]
  rw[e];exact h _ (UA b)
 .have e:gt L i={ data:=#[] }:=by simp[gt,List.getD,List.getElem?_eq_none (by omega:L.length<=i)]
  rw[e];decide
theorem I7 {F:Nat->Tn} {base:Int}:∀{d:Nat} {t:Ro d} {x:Nat},Am F base d t x->(∀k,k∈Ab d t->k.size<=16)->∀i,x<=i->i<x+Ac d t->∀j,j<(F i).kn->((F i).ks j).size<=16
 | 0,_,_,h,_,_,_,_=>h.elim
 | d+1,.inl t,x,ht,b,i,hi1,hi2=>by
  have E:Ac (d+1) (.inl t)=1:=rfl
  have e:i=x:=by omega
  subst e
  intro j z
  obtain⟨_,A,u,_⟩:=ht
  rw[u j (by omega)]
  exact Nv b j
 | d+1,.inr l,x,ht,b,i,hi1,hi2=>by
  have E:Ac (d+1) (.inr l)=1+(l.map (Ac d)).sum:=rfl
  have r:∀y,y∈l->∀k,k∈Ab d y->k.size<=16:=λy D k f=>b k (List.mem_flatMap.2 ⟨y,D,f⟩)
  obtain⟨H,A,u,O,U,v,C⟩:=ht
  by_cases e:i=x
  .subst e
   intro j z
   rw[v j (by omega)]
   exact Nv (r _ (UA _)) 0
  .obtain⟨k,b,J,G⟩:=Fx d l (i-(x+1)) (by omega)
   exact I7 (C k b) (r _ (UA b)) i (by omega) (by omega)
theorem BE.four {N:Nat->Tn} {t:Ro 21} (h:BE n N t):∀i,i<n->(N i).kn<=4/\(N i).dn<=4:=λi r=>by
 obtain⟨v,z,f,⟨u,l⟩,A,b⟩:=h
 have y:=BJ f
 exact Dt b l i (Us _) (by omega)
theorem BE.short {N:Nat->Tn} {t:Ro 21} (h:BE n N t):∀i,i<n->∀j,j<(N i).kn->((N i).ks j).size<=16:=λi r=>by
 have l:=h.siz
 obtain⟨v,z,f,⟨u,A⟩,C,b⟩:=h
 have y:=BJ f
 exact I7 b l i (Us _) (by omega)
def QC (m:Nat) (N:Nat->Tn):Prop:=m<=1048576/\∀j,j<m->Bg (N j)
theorem Iw {N:Nat->Tn} {key:ByteArray} {l:Bool} {m:Nat} {M:Nat->Tn} (h:(l=true/\JW n N key m M)\/(l=false/\m=n/\M=N/\Gs n N key)) (t:QC n N):QC m M:=by
 rcases h with ⟨_,h⟩|⟨_,rfl,rfl,_⟩;.obtain⟨D,y,v,z,A,u,r⟩:=Qb h;have f:=λi (b:i<m)=>Dt u r i (Us _) (by omega);exact⟨by omega,λi b=>⟨by have:=f i b;omega,by have:=f i b;omega⟩⟩
 .exact t
def Js (S:Nat->Prop) (w:World) (a:Option Addr) (n:Nat) (N:Nat->Tn):Prop:=
 n=0\/∃g xs,a=some (ad g 0)/\S g/\g<w.heap.size/\(∀j u,xs[j]?=some u->w.cell? (ad g j)=some u)/\Bp S w n N xs
def NI (S:Nat->Prop) (w:World) (a:Option Addr) (n:Nat) (M:Nat->Nat) (T:Nat->Nat->Tn):Prop:=
 n=0\/∃g,a=some (ad g 0)/\S g/\g<w.heap.size/\∀i,i<n->∃ai ci,w.cell? (ad g i)=some (.slice ai (M i) ci)/\Js S w ai (M i) (T i)
def Sh (S:Nat->Prop) (w:World) (a:Option Addr) (n:Nat) (I:Nat->Int) (X:Nat->ByteArray) (R:Nat->Int):Prop:=
 n=0\/∃g,a=some (ad g 0)/\S g/\A6 w g 232 (n*3) (Bh I X R)
section
variable {S S' : Nat->Prop} {Z:Nat} {w w' : World} {a:Option Addr} {n:Nat} {M:Nat->Nat} {T:Nat->Nat->Tn} {N:Nat->Tn} {I:Nat->Int} {X:Nat->ByteArray} {R:Nat->Int}
theorem Js.keep (h:Js S w a n N) (l:w.heap.size<=w'.heap.size) (r:∀b,S b->b<w.heap.size->S' b/\w'.heap[b]?=w.heap[b]?):Js S' w' a n N:=by
 rcases h with h|⟨g,xs,rfl,v,f,z,A⟩;.exact .inl h
 .obtain⟨t,C⟩:=r g v f;exact .inr ⟨g,xs,rfl,t,UB f l,λj u y=>(World.cell?_of_block (a:=(ad g j)) C).trans (z j u y),A.mono l r⟩
theorem NI.keep (h:NI S w a n M T) (l:w.heap.size<=w'.heap.size) (r:∀b,S b->b<w.heap.size->S' b/\w'.heap[b]?=w.heap[b]?):NI S' w' a n M T:=by
 rcases h with h|⟨g,rfl,v,f,y⟩;.exact .inl h
 .obtain⟨t,D⟩:=r g v f;refine .inr ⟨g,rfl,t,UB f l,λi u=>?_⟩;obtain⟨ai,z,A,C⟩:=y i u;exact⟨ai,z,(World.cell?_of_block (a:=(ad g i)) D).trans A,C.keep l r⟩
theorem Sh.keep (h:Sh S w a n I X R) (t:∀b,S b->b<w.heap.size->S' b/\w'.heap[b]?=w.heap[b]?):Sh S' w' a n I X R:=by
 rcases h with h|⟨g,rfl,r,f⟩;.exact .inl h
 .obtain⟨l,u⟩:=t g r f.lt;exact .inr ⟨g,rfl,l,f.of_block u⟩
theorem FV.ixs (h:FV Z w a n M T):NI (λb=>Z<=b/\b<w.heap.size) w a n M T:=by
 rcases h with h|⟨g,rfl,A,l,D⟩;.exact .inl h
 .refine .inr ⟨g,rfl,⟨A,l⟩,l,λi z=>?_⟩;obtain⟨ai,E,v,f⟩:=D i z;refine⟨ai,E,v,?_⟩;rcases f with f|⟨u,xs,rfl,G,r,t,F⟩;.exact .inl f
  .exact .inr ⟨u,xs,rfl,⟨G,r⟩,r,t,F.mono (Uq _) (λb y C=>⟨⟨y,C⟩,rfl⟩)⟩
theorem NI.ixw (h:NI S w a n M T) (f:∀b,S b->Z<=b):FV Z w a n M T:=by
 rcases h with h|⟨g,rfl,A,u,C⟩;.exact .inl h
 .refine .inr ⟨g,rfl,f g A,u,λi z=>?_⟩;obtain⟨ai,D,v,l⟩:=C i z;refine⟨ai,D,v,?_⟩;rcases l with l|⟨r,xs,rfl,G,F,t,E⟩;.exact .inl l
  .exact .inr ⟨r,xs,rfl,f r G,F,t,E.mono (Uq _) (λb y H=>⟨f b y,rfl⟩)⟩
theorem Br.ows (h:Br w Z a n I X R):Sh (λb=>Z<=b/\b<w.heap.size) w a n I X R:=by
 rcases h with h|⟨g,rfl,l,f⟩;.exact .inl h
 .exact .inr ⟨g,rfl,⟨l,f.lt⟩,f⟩
theorem Sh.own (h:Sh S w a n I X R):Br w 0 a n I X R:=by
 rcases h with h|⟨g,rfl,f,b⟩;.exact .inl h
 .exact .inr ⟨g,rfl,Us _,b⟩
end
structure Ta (S:Nat->Prop) (w:World) (m:Nat) (nx:Int) (da:Option Addr) (dn dc:Nat) (xa:Option Addr):Prop where
 dict:∃I X R,Sh S w da dn I X R
 cap:dn<=dc/\dn<=m
 ix:∃M T,NI S w xa 6 M T/\VI 6 M T
theorem Ta.keep {S S' : Nat->Prop} {w w' : World} {m:Nat} {nx:Int} {da:Option Addr} {dn dc:Nat} {xa:Option Addr} (h:Ta S w m nx da dn dc xa) (t:w.heap.size<=w'.heap.size) (f:∀b,S b->b<w.heap.size->S' b/\w'.heap[b]?=w.heap[b]?):Ta S' w' m nx da dn dc xa:=by obtain⟨⟨I,X,R,r⟩,l,⟨M,T,u,v⟩⟩:=h;exact⟨⟨I,X,R,r.keep f⟩,l,⟨M,T,u.keep t f,v⟩⟩
def T3 (B:Nat) (w:World) (v:Value) (n:Nat):Prop:=∃xs,w.ownsRow B 191 4 v n xs/\∀u∈xs,∃s:ByteArray,u=.string s
structure WW (Z g:Nat) (w:World) (db xb cb nf m:Nat) (fv:Value) (nx:Int) (da:Option Addr) (dn dc:Nat) (xa:Option Addr) (xc:Nat) (W:World):Prop where
 dr:Dw Z g W
 fr:w.grownBy W (some g)
 r0:Bx W w.heap.size 141 #[iv 0,.slice none 0 0]
 r1:Bx W (w.heap.size+1) 32 #[.slice none 0 0]
 d:Bx W db 141 #[iv nx,.slice da dn dc]
 x:Bx W xb 32 #[.slice xa 6 xc]
 fc:T3 (w.heap.size+2) W fv nf
 st:∃S,Ta S W m nx da dn dc xa/\∀b,S b->b<W.heap.size/\w.heap.size+2<=b/\b≠db/\b≠xb/\b≠cb/\fv.ownBlock≠some b
 zl:Z<=w.heap.size
 gl:w.heap.size+2<=db/\w.heap.size+2<=xb/\w.heap.size+2<=W.heap.size
section
variable {Z g:Nat} {w W W' : World} {db xb cb nf m:Nat} {fv:Value} {nx:Int} {da:Option Addr} {dn dc:Nat} {xa:Option Addr} {xc:Nat}
theorem WW.move (h:WW Z g w db xb cb nf m fv nx da dn dc xa xc W) (E:Dw Z g W') (F:w.grownBy W' (some g)) (C:W.heap.size<=W'.heap.size) (f:∀b,w.heap.size<=b->b<W.heap.size->b≠cb->W'.heap[b]?=W.heap[b]?) (z:cb≠w.heap.size/\cb≠w.heap.size+1/\cb≠db/\cb≠xb/\fv.ownBlock≠some cb):WW Z g w db xb cb nf m fv nx da dn dc xa xc W':=by
 obtain⟨S,A,u⟩:=h.st;obtain⟨xs,r,y⟩:=h.fc;have t:=h.gl;refine⟨E,F,h.r0.of_block (f _ (by omega) h.r0.lt (by omega)),h.r1.of_block (f _ (by omega) h.r1.lt (by omega)),h.d.of_block (f _ (by omega) h.d.lt (by omega)),h.x.of_block (f _ (by omega) h.x.lt (by omega)),⟨xs,AK r (λq e=>?_),y⟩,⟨S,A.keep C (λb l D=>⟨l,?_⟩),λb l=>?_⟩,h.zl,t.1,t.2.1,by omega⟩;.have G:=Ah r q e;exact f q (by omega) G.2 (λv=>z.2.2.2.2 (by rw[<- v];exact e))
 .have q:=u b l;exact f b (by omega) D q.2.2.2.2.1
 .have q:=u b l;exact⟨by omega,q.2⟩
theorem WW.keepB (h:WW Z g w db xb cb nf m fv nx da dn dc xa xc W) (C:Dw Z g W') (D:w.grownBy W' (some g)) (y:W.heap.size<=W'.heap.size) (f:∀b,w.heap.size<=b->b<W.heap.size->W'.heap[b]?=W.heap[b]?):WW Z g w db xb cb nf m fv nx da dn dc xa xc W':=by
 obtain⟨S,v,u⟩:=h.st;obtain⟨xs,r,A⟩:=h.fc;have t:=h.gl;refine⟨C,D,h.r0.of_block (f _ (by omega) h.r0.lt),h.r1.of_block (f _ (by omega) h.r1.lt),h.d.of_block (f _ (by omega) h.d.lt),h.x.of_block (f _ (by omega) h.x.lt),⟨xs,AK r (λq e=>?_),A⟩,⟨S,v.keep y (λb l z=>⟨l,?_⟩),λb l=>?_⟩,h.zl,t.1,t.2.1,by omega⟩;.have E:=Ah r q e;exact f q (by omega) E.2
 .have q:=u b l;exact f b (by omega) z
 .have q:=u b l;exact⟨by omega,q.2⟩
theorem WW.draw (h:WW Z g w db xb cb nf m fv nx da dn dc xa xc W) (l:Dw Z g W') (f:W.grownBy W' (some g)):WW Z g w db xb cb nf m fv nx da dn dc xa xc W':=
 h.keepB l (Az h.fr f) f.size (λb t r=>f.block b r (λe=>by injection e with e;have:=l.lt;have:=h.zl;omega))
theorem WW.below (h:WW Z g w db xb cb nf m fv nx da dn dc xa xc W) (f:Bl W W'):WW Z g w db xb cb nf m fv nx da dn dc xa xc W':=
 h.keepB (h.dr.below f) (BV h.fr f) f.size (λb _ l=>f.block b l)
theorem WW.fresh (h:WW Z g w db xb cb nf m fv nx da dn dc xa xc W) (O:Obj):WW Z g w db xb W.heap.size nf m fv nx da dn dc xa xc (W.alloc O):=by obtain⟨S,f,r⟩:=h.st;have q:WW Z g w db xb W.heap.size nf m fv nx da dn dc xa xc W:=⟨h.dr,h.fr,h.r0,h.r1,h.d,h.x,h.fc,⟨S,f,λb l=>by have:=r b l;exact⟨this.1,this.2.1,this.2.2.1,this.2.2.2.1,by omega,this.2.2.2.2.2⟩⟩,h.zl,h.gl⟩;exact q.below (Aa _ _)
theorem WW.set {cur:Array Value} (h:WW Z g w db xb cb nf m fv nx da dn dc xa xc W) (l:Bx W cb 194 cur) (u:w.heap.size+2<=cb) (i:Nat) (v:Value):WW Z g w db xb cb nf m fv nx da dn dc xa xc (W.setCell (ad cb i) v):=by obtain⟨xs,r,t⟩:=h.fc;refine h.move (h.dr.grown Ak (λq e=>by injection e with e;have:=h.zl;omega)) (AZ h.fr Ak (λq e=>by injection e with e;omega)) (by simp[World.setCell]) (λb _ _ f=>Ur _ _ _ _ f) ⟨by omega,by omega,DJ l h.d (by decide),DJ l h.x (by decide),ED r l (by decide)⟩
end
theorem Q7 {f:Array Oper} {o:Oper} {a:Act} {w:World} {K:Act->World->Prop} {Q:Exit->Act->World->Prop} {E:Prop} (v:o.guard=none) (k:Nat) (l:Array TypeId)
  (y:o.op=.call { callee:=.value (.func k),args:=#[],argTypes:=l }) (t:∀b w,(callFunc k b).run prog w=.ok (.enter k b) w)
  (h:UO k #[] w λe w'=>∃r,e=.returned r/\K (a.put o.dst r) w') :
  if Region.wanted o (yielded f a.tmps)=true then Oper.wp prog o a w K Q else E:=by
 have A:Region.wanted o (yielded f a.tmps)=true:=by simp[Region.wanted,v]
 rw[if_pos A];unfold Oper.wp;simp[execOp,y,resolve,invoke,go_sem,t];refine h.mono ?_;rintro e w' ⟨u,rfl,z⟩;exact z
def TB (w:World) (e:Ending) (w' : World):Prop:=
 Bl w w'/\∃a c N t,e=.returned (.agg #[.slice a 1 c])/\BQ (w.heap.size+1) w' a 1 N/\BE 1 N t/\Ab 21 t=[]
theorem Kv (w:World):UO 140 #[] w (TB w):=by
 have C:U (UO 80 #[.agg #[.bool true,.slice none 0 0,.slice none 0 0],iv 0] (w.alloc (.cells #[.slice none 0 0] 59)) (CI (w.alloc (.cells #[.slice none 0 0] 59)) 1 (.inl []) 0)):=IJ 1 (.inl []) _ true 0 0 _ ⟨none,0,none,0,rfl,.inl rfl⟩ (by show 1<=5000;omega) (by show 0<=_;omega) ⟨rfl,by simp,.inl rfl⟩ (by omega) (by show (0:Int)+((1:Nat):Int)<=100000;omega);have E:=Ae (Bx.new w #[.slice none 0 0] 59);go_enter func140,ntmps140;go_wp2_with fail
 (with_reducible refine C.o.mono ?_)
 rintro e w1 ⟨ra,rc,G,xs,rfl,f,h,l,r⟩;try unfold Bl at f
 try unfold Bl at h
 try unfold Bl at l
 rw[UF] at f h l;have u:=E.o.below' f (by omega);have z:=Ae (ai ((Aa _ _).trans (f.mono (by simp))) (ai (Bp.rowN h l) r));have A:=u.cell 0;have O:=u.frozen;have Y:=u.lt;simp at A;clear f h l r u E C;go_wp2;obtain⟨t,J,H⟩:=C8 (m:=1) (D:=1) (y:=.inl []) rfl (by omega) z.o.2.2 (hh:=0) ⟨rfl,by simp,.inl rfl⟩ List.Pairwise.nil (λx F=>by cases F);refine bodyPost_ret (v:=.agg #[.slice ra 1 rc]) (by simp[results,results140,go_sem,A];rfl) rfl ⟨z.o.1.setCell (by simp) _,ra,rc,G,t,rfl,z.o.2.1.keep (Uq _) (by simp[World.setCell]) (λb V _=>Ur _ _ _ _ (show b≠w.heap.size by omega)),J,H⟩
structure Tc (B b:Nat) (W:World) (v:Value) (k:Nat) (M:Nat->Nat) (T:Nat->Nat->Tn) (us:List Value) (lo hi:Nat->Nat):Prop where
 row:AJ Ar W B v k M T us lo hi
 bx:Bx W b 32 #[v]
 lt:b<B
 sz:B<=W.heap.size
theorem Tc.step {B b k c f m:Nat} {wr w2 C:World} {u a2 t:Option Addr} {y:Nat} {M:Nat->Nat} {T:Nat->Nat->Tn} {H:List Value} {lo hi:Nat->Nat} {N:Nat->Tn} (h:Tc B b wr (.slice u k y) k M T H lo hi) (G:Bl wr w2) {l:Nat} (V:wr.heap.size<=l) (hr:BQ l w2 a2 m N)
  (F:(w2.alloc (.cells #[.slice a2 m c] 59)).grownBy C (Value.slice u k y).ownBlock) (ho:C.ownsRow B 59 1 (.slice t (k+1) f) (k+1) (H++[.slice a2 m c])) (U:(Value.slice t (k+1) f).ownBlock=(Value.slice u k y).ownBlock\/(Value.slice t (k+1) f).ownBlock=some (w2.heap.size+1)) :
  (∃A v,Tc B b (C.setCell (ad b 0) (.slice t (k+1) f)) (.slice t (k+1) f) (k+1) (λi=>if i=k then m else M i) (λi=>if i=k then N else T i) (H++[.slice a2 m c]) A v)/\Bx C b 32 #[.slice u k y]/\Below b wr (C.setCell (ad b 0) (.slice t (k+1) f)):=by
 have Y:=G.size;have z:=h.lt;have J:=h.sz;have r:∀g,(Value.slice u k y).ownBlock=some g->B<=g:=λg e=>(Ah h.row.row g e).1;have E:AJ Ar wr B (.slice u k y) k (λi=>if i=k then m else M i) (λi=>if i=k then N else T i) H lo hi:=h.row.congr (λi hi=>by rw[if_neg (by omega),if_neg (by omega)];exact⟨rfl,rfl⟩);obtain⟨A,v,O⟩:=E.step Ar.pl J G (l:=l) V (by simpa using Ar.of (c:=c) hr) _ F (by simpa using ho) (by simpa using U);have D:Bx C b 32 #[.slice u k y]:=(BB G F r z (by omega)).trans h.bx;refine⟨⟨A,v,O.setO Ar.pl z _,by simpa using D.set 0 (.slice t (k+1) f),z,?_⟩,D,?_⟩;.have:=F.size;simp[World.setCell] at this ⊢;omega
 .exact (((G.mono (show b<=wr.heap.size by omega)).trans ((Aa _ _).mono (by omega))).grown F (by simp;omega) (λg e=>by have:=r g e;omega)).setCell (Uq _) _
theorem Mc (w:World):UO 127 #[] w λe w'=>Bl w w'/\∃a c M T,e=.returned (.agg #[.slice a 6 c])/\FV w.heap.size w' a 6 M T/\VI 6 M T:=by
 obtain⟨Y,V⟩:∃Y,Y=(w.alloc (.cells #[.slice none 0 0] 32)).alloc (.cells #[.slice none 0 0] 32):=⟨_,rfl⟩;have B0:U (Bx Y w.heap.size 32 #[.slice none 0 0]/\Bx Y (w.heap.size+1) 32 #[.slice none 0 0]/\Bl w Y/\Y.heap.size=w.heap.size+2):=by have b2:=Bx.new (w.alloc (.cells #[.slice none 0 0] 32)) #[.slice none 0 0] 32;rw[UF] at b2;rw[V];exact⟨(Bx.new _ _ _).alloc _,b2,(Aa _ _).alloc (by simp) _,by simp⟩
 go_enter func127,ntmps127;go_upto_region 2 with fail
 rw[<- V];clear V;go_wp2;go_loopw [2] (λi wr=>∃(k:Nat) (v:Value) (M:Nat->Nat) (T:Nat->Nat->Tn) (t:Nat->Ro 21) (us:List Value) (lo E:Nat->Nat),k<=6/\i=iv k/\Tc (w.heap.size+2) (w.heap.size+1) wr v k M T us lo E/\(∀j,j<k->BE (M j) (T j) (t j)/\Ab 21 (t j)=[])/\Below (w.heap.size+1) Y wr) (λi _=>6-(intOf i).toNat)
 case atStart=>exact⟨0,_,λ_=>0,λ_ _=>TI,λ_=>.inl [],[],_,_,by omega,rfl,⟨AJ.nil _ _ _ _ _,B0.o.2.1,by omega,by have:=B0.o.2.2.2;omega⟩,λj hj=>absurd hj (Uu _),Up _ _⟩
 case round=>
  obtain⟨k,v,M,T,t,us,lo,E,hk,rfl,hg,ht,F⟩:=hrel;obtain⟨A,C,ev⟩:=hg.row.form;subst ev;have r:=Ae (And.intro hg (And.intro ht F));have k0:(0:Int)<=(k:Int):=by omega
  have x0:wr.cell? (ad (w.heap.size+1) 0)=some (.slice A k C):=by have:=hg.bx.cell 0;simpa using this
  clear hg ht F;by_cases ao:k<6
  .have k1:(k:Int)<6:=by omega
   have af:U (∀f:World,Below wr.drew.heap.size wr.drew f->f.cell? (ad (w.heap.size+1) 0)=some (.slice A k C)):=λf h=>((Ad h).cell (Uo _ _ x0)).trans x0;have aa:U (∀f:World,Below wr.drew.heap.size wr.drew f->∀O:Obj,(f.alloc O).cell? (ad (w.heap.size+1) 0)=some (.slice A k C)):=λf h O=>by have hb:=(Ad h).trans ((Aa f O).mono (Ad h).size);exact (hb.cell (Uo _ _ x0)).trans x0
   have ac:U (∀(f H:World),Below wr.drew.heap.size wr.drew f->∀O:Obj,(f.alloc O).grownBy H (Value.slice A k C).ownBlock->H.cell? (ad (w.heap.size+1) 0)=some (.slice A k C)/\H.frozen? (ad (w.heap.size+1) 0)=false/\w.heap.size+1<H.heap.size):=λf H h O hg=>by have J:Bx H (w.heap.size+1) 32 #[.slice A k C]:=(BB (Ad h) hg (λg e=>(Ah r.o.1.row.row g e).1) r.o.1.lt (by have:=r.o.1.sz;omega)).trans r.o.1.bx;exact⟨by have:=J.cell 0;simpa using this,J.frozen 0,J.lt⟩
   have HT:U (∀f:World,Below wr.drew.heap.size wr.drew f->∀O:Obj,(f.alloc O).ownsRow (w.heap.size+2) 59 1 (.slice A k C) k us):=λf h O=>Ag (Ag r.o.1.row.row (Ad h)) (Aa _ _);have HZ:U (∀f:World,Below wr.drew.heap.size wr.drew f->w.heap.size+2<=f.heap.size):=λf h=>Uy r.o.1.sz (Ad h).size;have am:wr.drew.cell? (ad (w.heap.size+1) 0)=some (.slice A k C):=x0;go_wp2;refine Aj (S:=(λw'=>w'.cell? (ad (w.heap.size+1) 0)=some (.slice A k C))) 6 (by kernel_rfl) ?_ (λb=>?_);·((try dsimp only);go_keep)
   refine tz 0 rfl ?_;refine tz 1 rfl ?_;refine At 2 rfl (λK z=>?_);(refine Q7 (by rfl) 140 _ (by rfl) (λ_ _=>rfl) ?_;refine (Kv wr.drew).mono ?_;rintro e f ⟨y,a2,c2,N2,t2,rfl,ag,ah,ab⟩;refine⟨_,rfl,?_⟩;have y0:=af.o f y)
   refine tL z (by (try dsimp only);go_keep) ?_;clear z K b;intro b;try simp only[Ay]
   refine At 3 rfl (λK z=>?_);(refine Ej (by rfl) (by rfl) (by rfl) ?_;have z0:=aa.o f y (.cells #[.slice a2 1 c2] 59))
   refine tL z (by (try dsimp only);go_keep) ?_;clear z K b;intro b;try simp only[Ay]
   refine At 4 rfl (λK z=>?_);(refine Dm (by rfl) (.tmp 9) (.tmp 11) (by rfl) (w.heap.size+2) k (.slice A k C) us (by rfl) _ (HT.o f y _) (by rfl) rfl (by omega) (HZ.o f y) ?_;intro v4 H u D G;obtain⟨a4,c4,e4,_⟩:=Af u;subst e4;obtain⟨u0,uf,ul⟩:=ac.o f H y _ D)
   refine tL z (by (try dsimp only);go_keep) ?_;clear z K b;intro b;try simp only[Ay]
   refine At 5 rfl (λK z=>?_);go_simp;refine tL z (by (try dsimp only);go_keep) ?_;clear z K b;intro b;try simp only[Ay]
   refine At 6 rfl (λK z=>?_);go_simp;refine tM z ?_;clear z K;have H7:=Ae (r.o.1.step (Ad y) (l:=wr.heap.size+1) (by omega) ag D u G);have an:=Ae (And.intro ah ab);clear ag y u D G HT af aa ac HZ y0 z0 u0 uf ul am x0 ah ab;go_wp2;go_roundw;case rel=>
    obtain⟨⟨ak,al,aj⟩,_,ae⟩:=H7.o;refine⟨k+1,_,_,_,λi=>if i=k then t2 else t i,_,ak,al,by omega,by go_num,aj,λj hj=>?_,r.o.2.2.trans ae⟩;by_cases e:j=k;.simp only[if_pos e];exact an.o
    .simp only[if_neg e];exact r.o.2.1 j (by omega)
   case measure=>simp[intOf];omega
  .obtain rfl:k=6:=by omega
   have b1:Bx wr w.heap.size 32 #[.slice none 0 0]:=B0.o.1.below' r.o.2.2 (by omega);have y0:=b1.cell 0;simp at y0;have yf:=b1.frozen 0;have yl:=b1.lt;clear b1;go_wp2;refine bodyPost_ret (v:=.agg #[.slice A 6 C]) (by simp[results,results127,go_sem,y0]) rfl ⟨(B0.o.2.2.1.trans (r.o.2.2.mono (by omega))).setCell (by simp) _,A,C,M,T,rfl,(r.o.1.row.setO Ar.pl (by simp) _).ixw (by omega),VI.of t 0 (λ_=>False) (λi E=>(r.o.2.1 i E).1) (by omega) (λi E=>by rw[(r.o.2.1 i E).2];rfl) (λi E k hk=>by rw[(r.o.2.1 i E).2] at hk;cases hk) (λi E q=>by rw[(r.o.2.1 i E).2];simp)⟩
variable {W:World}{Z cb db dc dn g xb xc:Nat}{da xa:Option Addr}{nx:Int}
section
variable {Z g:Nat} {w W W' : World} {db xb cb nf m:Nat} {fv:Value} {nx:Int} {da:Option Addr} {dn dc:Nat} {xa:Option Addr} {xc:Nat}
theorem WW.cells (h:WW Z g w db xb cb nf m fv nx da dn dc xa xc W):(W.cell? (ad db 0)=some (iv nx)/\W.cell? (ad db 1)=some (.slice da dn dc)/\W.cell? (ad xb 0)=some (.slice xa 6 xc))/\(∀i,W.frozen? (ad db i)=false)/\(∀i,W.frozen? (ad xb i)=false)/\db<W.heap.size/\xb<W.heap.size/\db≠xb:=
 ⟨⟨h.d.cell 0,h.d.cell 1,h.x.cell 0⟩,h.d.frozen,h.x.frozen,h.d.lt,h.x.lt,DJ h.d h.x (by decide)⟩
theorem WW.change {e:Ending} (h:WW Z g w db xb cb nf m fv nx da dn dc xa xc W) (aa:cb<W.heap.size) (hr:JU (.agg #[iv nx,.slice da dn dc]) (.agg #[.slice xa 6 xc]) m W e W') :
  Bl W W'/\∃y f u t r l v,e=.returned (.tuple #[iv y,.agg #[iv f,.slice u t r],.agg #[.slice l 6 v]])/\WW Z g w db xb cb nf (m+4) fv f u t r l v (((W'.setCell (ad db 0) (iv f)).setCell (ad db 1) (.slice u t r)).setCell (ad xb 0) (.slice l 6 v)):=by
 obtain⟨G,y,dv,J,rfl,U⟩:=hr;refine⟨G,?_⟩;obtain⟨S,s1,s2⟩:=h.st;obtain⟨xs,f1,f2⟩:=h.fc;have Y:=h.gl;have E:=DJ h.d h.x (by decide);have O:∃f u t r l v S',dv=.agg #[iv f,.slice u t r]/\J=.agg #[.slice l 6 v]/\Ta S' W' (m+4) f u t r l/\∀b,S' b->b<W'.heap.size/\w.heap.size+2<=b/\b≠db/\b≠xb/\b≠cb/\fv.ownBlock≠some b:=by
  rcases U with ⟨rfl,rfl⟩|U
  .refine⟨nx,da,dn,dc,xa,xc,S,rfl,rfl,?_,λb D=>?_⟩;.have q:=s1.keep (S':=S) G.size (λb C hl=>⟨C,G.block b hl⟩);exact⟨q.dict,⟨q.cap.1,by have:=q.cap.2;omega⟩,q.ix⟩
   .have q:=s2 b D;exact⟨UB q.1 G.size,q.2⟩
  .obtain⟨⟨f,u,t,r,I,X,R,rfl,q1,q2,q3⟩,⟨l,v,M,T,rfl,q4,q5⟩⟩:=U;refine⟨f,u,t,r,l,v,λb=>W.heap.size<=b/\b<W'.heap.size,rfl,rfl,⟨⟨I,X,R,q1.ows⟩,⟨q2,q3⟩,⟨M,T,q4.ixs,q5⟩⟩,λb D=>⟨D.2,by omega,?_,?_,by omega,λe=>?_⟩⟩;.have:=h.d.lt;omega
   .have:=h.x.lt;omega
   .have:=(Ah f1 b e).2;omega
 obtain⟨f,u,t,r,l,v,S',rfl,rfl,t1,H⟩:=O;refine⟨y,f,u,t,r,l,v,rfl,?_⟩;have z:=h.below G;have A:∀b,b≠db->b≠xb->(((W'.setCell (ad db 0) (iv f)).setCell (ad db 1) (.slice u t r)).setCell (ad xb 0) (.slice l 6 v)).heap[b]?=W'.heap[b]?:=λb h1 h2=>(Ur _ _ _ _ h2).trans ((Ur _ _ _ _ h1).trans (Ur _ _ _ _ h1));have e1:=(z.d.set 0 (iv f)).set 1 (.slice u t r);have F:=((z.x.other (p:=(ad db 0)) (λe=>E e.symm) (iv f)).other (p:=(ad db 1)) (λe=>E e.symm) (.slice u t r)).set 0 (.slice l 6 v);refine⟨?_,?_,z.r0.of_block (A _ (by omega) (by omega)),z.r1.of_block (A _ (by omega) (by omega)),?_,by simpa using F,?_,⟨S',t1.keep (S':=S') (by simp[World.setCell]) (λb C hl=>⟨C,A b (H b C).2.2.1 (H b C).2.2.2.1⟩),λb C=>⟨by simpa[World.setCell] using (H b C).1,(H b C).2⟩⟩,h.zl,Y.1,Y.2.1,by have:=z.gl;simpa[World.setCell] using this.2.2⟩;.have hz:=h.zl;exact ((z.dr.grown Ak (λq e=>by injection e with e;omega)).grown Ak (λq e=>by injection e with e;omega)).grown Ak (λq e=>by injection e with e;omega)
 .exact AZ (AZ (AZ z.fr Ak (λq e=>by injection e with e;omega)) Ak (λq e=>by injection e with e;omega)) Ak (λq e=>by injection e with e;omega)
 .have:=e1.other (p:=(ad xb 0)) E (.slice l 6 v);simpa using this
 .obtain⟨ys,V,y2⟩:=z.fc;exact⟨ys,AK V (λq e=>A q (λF=>ED V z.d (by decide) (by rw[<- F];exact e)) (λF=>ED V z.x (by decide) (by rw[<- F];exact e))),y2⟩
theorem WW.app {l:Value} {r:List Value} (h:WW Z g w db xb cb nf m fv nx da dn dc xa xc W) (G:cb<W.heap.size) (E:W'.ownsRow (w.heap.size+2) 191 4 l (nf+1) r) (J:∀u∈r,∃s:ByteArray,u=.string s) (f:W.grownBy W' fv.ownBlock) (C:l.ownBlock=fv.ownBlock\/l.ownBlock=some W.heap.size) :
  WW Z g w db xb cb (nf+1) m l nx da dn dc xa xc W':=by
 obtain⟨S,F,D⟩:=h.st;obtain⟨xs,t,O⟩:=h.fc;have z:=h.gl;have U:=h.zl;have v:=λk e=>(Ah t k e).1;refine⟨h.dr.grown f (λk e=>by have:=v k e;omega),AZ h.fr f (λk e=>by have:=v k e;omega),h.r0.grown f (ED t h.r0 (by decide)),h.r1.grown f (ED t h.r1 (by decide)),h.d.grown f (ED t h.d (by decide)),h.x.grown f (ED t h.x (by decide)),⟨r,E,J⟩,⟨S,F.keep (S':=S) f.size (λb y H=>⟨y,f.block b H (λe=>(D b y).2.2.2.2.2 e.symm)⟩),λb y=>?_⟩,h.zl,z.1,z.2.1,Uy z.2.2 f.size⟩;have q:=D b y;refine⟨UB q.1 f.size,q.2.1,q.2.2.1,q.2.2.2.1,q.2.2.2.2.1,λe=>?_⟩;rcases C with A|A;.rw[A] at e;exact q.2.2.2.2.2 e
 .rw[A] at e;injection e with e;omega
end
theorem WW.facts (h:WW Z g w db xb cb 0 m (.slice none 0 0) nx da dn dc xa xc W):WW Z g w db xb cb 0 m (.slice (some (ad W.heap.size 0)) 0 0) nx da dn dc xa xc (W.alloc (.cells #[] 191)):=by have q:=h.below (Aa W (.cells #[] 191));obtain⟨S,t,y⟩:=h.st;refine⟨q.dr,q.fr,q.r0,q.r1,q.d,q.x,⟨[],Aw W 191 (w.heap.size+2) 4 h.gl.2.2,λu l=>by cases l⟩,⟨S,t.keep (S':=S) (by simp) (λb f v=>⟨f,(Aa _ _).block b v⟩),λb f=>?_⟩,q.zl,q.gl⟩;have r:=y b f;exact⟨by simp;omega,r.2.1,r.2.2.1,r.2.2.2.1,r.2.2.2.2.1,by simp[Value.ownBlock];omega⟩
def TV (Z g:Nat) (w:World) (db xb cb nf m:Nat) (fv:Value) (nx:Int) (da:Option Addr) (dn dc:Nat) (xa:Option Addr) (xc:Nat) (W:World):Prop:=
 ∃adx s p o q,WW Z g w db xb cb nf m fv nx da dn dc xa xc W/\Bx W cb 194 #[.bool adx,.string s,.string p,.string o,.string q]/\w.heap.size+2<=cb
theorem WW.set4 {nf:Nat} {fv:Value} {z D a2 F C:Value} (h:WW Z g w db xb cb nf m fv nx da dn dc xa xc W) (v:Bx W cb 194 #[z,D,a2,F,C]) (t:w.heap.size+2<=cb) (b l r f:Value) :
  WW Z g w db xb cb nf m fv nx da dn dc xa xc ((((W.setCell (ad cb 1) b).setCell (ad cb 2) l).setCell (ad cb 3) r).setCell (ad cb 4) f)/\Bx ((((W.setCell (ad cb 1) b).setCell (ad cb 2) l).setCell (ad cb 3) r).setCell (ad cb 4) f) cb 194 #[z,b,l,r,f]:=by have y:=v.set 1 b;have u:=y.set 2 l;have A:=u.set 3 r;have E:=A.set 4 f;exact⟨(((h.set v t 1 b).set y t 2 l).set u t 3 r).set A t 4 f,by simpa using E⟩
theorem T3.get {B n x:Nat} {r:Option Addr} {C:Nat} (h:T3 B w (.slice r n C) n) (F:x<n):∃g,r=some (ad g 0)/\B<=g/\∃s p o q:ByteArray,w.cell? (ad g (x*4))=some (.string s)/\w.cell? (ad g (x*4+1))=some (.string p)/\w.cell? (ad g (x*4+2))=some (.string o)/\w.cell? (ad g (x*4+3))=some (.string q):=by
 obtain⟨xs,l,t⟩:=h;obtain⟨a',c',e,D⟩:=Af l;injection e with e _ _;subst e;obtain⟨g,rfl,A,_,v⟩:=D (by omega);refine⟨g,rfl,A,?_⟩;have G:=l.1;have b:∀j,j<n*4->∃s:ByteArray,w.cell? (ad g j)=some (.string s):=λj E=>by have e:xs[j]?=some (xs[j]'(by omega)):=Ut (by omega);obtain⟨s,f⟩:=t _ (UA (show j<xs.length by omega));rw[f] at e;exact⟨s,v j _ e⟩
 obtain⟨s,f⟩:=b (x*4) (by omega);obtain⟨p,z⟩:=b (x*4+1) (by omega);obtain⟨o,u⟩:=b (x*4+2) (by omega);obtain⟨q,y⟩:=b (x*4+3) (by omega);exact⟨s,p,o,q,f,z,u,y⟩
theorem SP:(prog.info? 191).map (λi=>(i.zero,i.size,i.bytes))=some (some (.agg #[.string { data:=#[] },.string { data:=#[] },.string { data:=#[] },.string { data:=#[] }]),4,64):=by kernel_rfl
theorem Q5:prog.underlying 189=some (.slice 191):=by kernel_rfl
theorem Ho {r:Array Oper} {rest:List Oper} {o:Oper} {b:Act} {Q:Exit->Act->World->Prop} (y:o.guard=none) (s x:Operand)
  (H:o.op=.call { callee:=.builtin .append,args:=#[s,x],argTypes:=#[189,189] })
  (B:Nat) (v:Value) (n:Nat) (xs:List Value) (E:b.eval s=v) (u0 u1 u2 u3:ByteArray) (l:(w.alloc (.cells #[.string u0,.string u1,.string u2,.string u3] 191)).ownsRow B 191 4 v n xs) (J:b.eval x=.slice (some (ad w.heap.size 0)) 1 1) (hn:n<=1048576) (hB:B<=w.heap.size)
  (h:∀f w',w'.ownsRow B 191 4 f (n+1) (xs++[.string u0,.string u1,.string u2,.string u3])->(w.alloc (.cells #[.string u0,.string u1,.string u2,.string u3] 191)).grownBy w' v.ownBlock->(f.ownBlock=v.ownBlock\/f.ownBlock=some (w.alloc (.cells #[.string u0,.string u1,.string u2,.string u3] 191)).heap.size)->wpList prog r Q rest (b.put o.dst f) w'):wpList prog r Q (o::rest) b (w.alloc (.cells #[.string u0,.string u1,.string u2,.string u3] 191)):=by
 obtain⟨V,U,z,t,u⟩:=info_parts SP;obtain⟨f,w',O,F,D,h4,h5⟩:=run_append_own_at (P:=prog) (w.alloc (.cells #[.string u0,.string u1,.string u2,.string u3] 191)) B 189 o.type 191 V _ 4 64 Q5 U z t u rfl (by decide) v n xs l (ad w.heap.size 0) 1 1 [.string u0,.string u1,.string u2,.string u3] rfl (λj C G=>by
  have q:=(Bx.new w #[.string u0,.string u1,.string u2,.string u3] 191).cell j;rw[Addr.add_lit,UI,q];simpa using G) (λC A=>by
  simp at A;rcases A with rfl|rfl|rfl|rfl <;> rfl) (by unfold maxLen;omega) (by omega) (by simp;omega)
 refine wpList_plain y λK Y=>?_;unfold Oper.wp;simp[execOp,H,resolve,invoke,builtin,E,J,O,Result.andThen];exact Y _ _ (h f w' F D h5)
theorem OP (w:World):UO 126 #[] w (UP w (.agg #[iv 1,.slice none 0 0])):=by go_enter func126,ntmps126;go_wp2;exact bodyPost_ret (v:=.agg #[iv 1,.slice none 0 0]) (by simp[results,results126,go_sem]) rfl ⟨rfl,(Up _ _).alloc (Uq _) _⟩
variable {d i p:Nat}
def bq (i:Nat):Qd:=⟨1+((i % 7:Nat):Int),1+((i % 5:Nat):Int),1+(i:Int),2⟩
theorem KE (h:i<300):AQ (bq i)=true:=by
 have l:i % 7<7:=Nat.mod_lt _ (by omega);have f:i % 5<5:=Nat.mod_lt _ (by omega);unfold bq;generalize i % 7=a at*
 generalize i % 5=b at*
 simp only[AQ,BP,Bool.and_eq_true,decide_eq_true_eq];refine⟨⟨⟨⟨?_,?_⟩,?_,?_⟩,?_,?_⟩,?_,?_⟩ <;> omega
theorem Td {j:Nat} (f:p<6) (hi:i<300) (l:j<i):AA p (bq i)≠AA p (bq j):=λe=>by
 have b:=A9 f (KE hi)
 have h:=A9 f (KE (show j<300 by omega))
 rw[e,h] at b
 injection b with _ _ q _
 omega
structure XP (p i d:Nat) (t:Ro d):Prop where
 bal:∃h,Aq d true t h
 asc:BI (Ab d t)
 len:(Ab d t).length=i
 old:∀x,x∈Ab d t->∃j,j<i/\x=AA p (bq j)
theorem XP.ins {t:Ro d} (h:XP p i d t) (U:p<6) (hi:i<300) {u:List (Ro d)} (H:Bt (AA p (bq i)) d t u) :
  (∃y,u=[y]/\XP p (i+1) d y)\/(∃y z,u=[y,z]/\XP p (i+1) (d+1) (.inr [y,z])):=by
 obtain⟨v,l⟩:=h.bal;have D:AA p (bq i)∉Ab d t:=λe=>by obtain⟨j,F,O⟩:=h.old _ e;exact Td U hi F O
 have C:=Bt.keys l h.asc H;have b:BI (u.flatMap (Ab d)):=by rw[C];exact Lx h.asc D
 have f:(u.flatMap (Ab d)).length=i+1:=by rw[C,Bw,h.len]
 have r:∀x,x∈u.flatMap (Ab d)->∃j,j<i+1/\x=AA p (bq j):=λx G=>by
  rw[C] at G;rcases IL G with rfl|q;.exact⟨i,by omega,rfl⟩
  .obtain⟨j,F,e⟩:=h.old x q;exact⟨j,by omega,e⟩
 rcases Bt.bal l H with ⟨y,rfl,A⟩|⟨y,z,rfl,A,V⟩
 .have E:Ab d y=[y].flatMap (Ab d):=by show Ab d y=Ab d y++[];rw[List.append_nil]
  exact .inl ⟨y,rfl,⟨v,A⟩,by rw[E];exact b,by rw[E];exact f,by rw[E];exact r⟩
 .refine .inr ⟨y,z,rfl,⟨v+1,by simp,by simp,v,rfl,λt J=>?_⟩,b,f,r⟩;simp at J;rcases J with rfl|rfl;.exact A
  .exact V
theorem XP.nodes {t:Ro d} (h:XP p i d t):Ac d t<=i+1:=by obtain⟨f,b⟩:=h.bal;have:=b.few';rw[h.len] at this;exact this
def XM (xb d:Nat) (t:Ro d) (W:World):Prop:=∃lf ka kn kc ca cn cc,Bx W xb 91 #[.bool lf,.slice ka kn kc,.slice ca cn cc]/\NG (λb=>xb+1<=b) W d t (.agg #[.bool lf,.slice ka kn kc,.slice ca cn cc])
theorem XM.put {t:Ro d} {v0 v1 v2 y A l:Value} (E:Bx W xb 91 #[v0,v1,v2]) (C:NG (λb=>xb+1<=b) W d t (.agg #[y,A,l])):XM xb d t (((W.setCell (ad xb 0) y).setCell (ad xb 1) A).setCell (ad xb 2) l):=by
 obtain⟨z,h,kn,kc,D,u,r,e⟩:=Av.form C;injection e with e;simp at e;obtain⟨rfl,rfl,rfl⟩:=e;have F:=((E.set 0 (.bool z)).set 1 (.slice h kn kc)).set 2 (.slice D u r);refine⟨z,h,kn,kc,D,u,r,by simpa using F,C.keep (by simp[World.setCell]) (λb v G=>⟨v,?_⟩)⟩;have f:b≠xb:=by have:xb+1<=b:=v;omega
 exact (Ur _ _ _ _ f).trans ((Ur _ _ _ _ f).trans (Ur _ _ _ _ f))
theorem NG.setX {t:Ro d} {u v:Value} (h:NG (λb=>xb+1<=b) W d t u):NG (λb=>xb+1<=b) (W.setCell (ad xb i) v) d t u:=
 h.keep (by simp[World.setCell]) (λb f _=>⟨f,Ur _ _ _ _ (by have:xb+1<=b:=f;show b≠xb;omega)⟩)
theorem MH (w:World):UO 91 #[] w λe w'=>Bl w w'/\∃a c M T,e=.returned (.agg #[.slice a 6 c])/\FV w.heap.size w' a 6 M T/\BF 6 M T:=by
 obtain⟨W0,an⟩:=gn ((w.alloc (.cells #[.slice none 0 0] 32)).alloc (.cells #[.slice none 0 0] 32));have B0:U (Bx W0 w.heap.size 32 #[.slice none 0 0]/\Bx W0 (w.heap.size+1) 32 #[.slice none 0 0]/\Bl w W0/\W0.heap.size=w.heap.size+2):=by have b2:=Bx.new (w.alloc (.cells #[.slice none 0 0] 32)) #[.slice none 0 0] 32;rw[UF] at b2;rw[an];exact⟨(Bx.new _ _ _).alloc _,b2,(Aa _ _).alloc (by simp) _,by simp⟩
 go_enter func91,ntmps91;go_upto_region 2 with fail
 rw[<- an];clear an;go_wp2;go_loopw [2] (λi wr=>∃(k:Nat) (v:Value) (M:Nat->Nat) (T:Nat->Nat->Tn) (us:List Value) (lo hi:Nat->Nat),k<=6/\i=iv k/\Tc (w.heap.size+2) (w.heap.size+1) wr v k M T us lo hi/\(∀j,j<k->M j<=1048576/\∀x,x<M j->Bg (T j x))/\Below (w.heap.size+1) W0 wr) (λi _=>6-(intOf i).toNat)
 case atStart=>exact⟨0,_,λ_=>0,λ_ _=>TI,[],_,_,by omega,rfl,⟨AJ.nil _ _ _ _ _,B0.o.2.1,by omega,by have:=B0.o.2.2.2;omega⟩,λj hj=>absurd hj (Uu _),Up _ _⟩
 case round=>
  obtain⟨k,v,M,T,us,lo,hi,hk,rfl,hg,ht,al⟩:=hrel;obtain⟨av,cv,ev⟩:=hg.row.form;subst ev;have J:=Ae (And.intro hg (And.intro ht al));have k0:(0:Int)<=(k:Int):=by omega
  clear hg ht al;by_cases ar:k<6
  .have k1:(k:Int)<6:=by omega
   go_upto_region 6 with fail
   obtain⟨xb,ap⟩:=gn wr.heap.size;obtain⟨V0,ao⟩:=gn (wr.alloc (.cells #[.bool true,.slice none 0 0,.slice none 0 0] 91));have aj:U (XM xb 1 (.inl []) V0/\Bl wr V0/\xb=wr.heap.size):=by rw[ao,ap];exact⟨⟨true,none,0,0,none,0,0,Bx.new _ _ _,⟨none,0,none,0,rfl,.inl rfl,⟨Uq _,by show 0<=_;omega⟩,λh=>absurd rfl h⟩⟩,Aa _ _,rfl⟩
   rw[<- ao,<- ap];clear ao ap;obtain⟨wo,bp⟩:=gn wr;rw[<- bp] at J aj;clear bp;go_wp2;go_loopw [4] (λi wr=>∃(i' d:Nat) (t:Ro d),i'<=300/\i=iv i'/\XP k i' d t/\XM xb d t wr/\Bl wo wr) (λi _=>300-(intOf i).toNat)
   case atStart=>exact⟨0,1,.inl [],by omega,rfl,⟨⟨0,rfl,by simp,.inl rfl⟩,List.Pairwise.nil,rfl,λx hx=>by cases hx⟩,aj.o.1,aj.o.2.1⟩
   case round=>
    obtain⟨i,d,t,br,rfl,bm,bd,bg⟩:=hrel;have Y:=Ae (And.intro bm (And.intro bd bg));have i0:(0:Int)<=(i:Int):=by omega
    obtain⟨lf,ka,kn,kc,ca,cn,cc,ay,bo⟩:=bd;have aa:=Ae (And.intro ay bo);clear bm bg ay bo;by_cases a3:i<300
    .have i1:(i:Int)<300:=by omega
     obtain⟨i7,a7⟩:=gn (i % 7);obtain⟨i5,a5⟩:=gn (i % 5);have t7:Int.tmod (i:Int) 7=(i7:Int):=by rw[Int.tmod_eq_emod_of_nonneg (by omega)];omega
     have t5:Int.tmod (i:Int) 5=(i5:Int):=by rw[Int.tmod_eq_emod_of_nonneg (by omega)];omega
     have e7:(i:Int) % 7=(i7:Int):=by omega
     have e5:(i:Int) % 5=(i5:Int):=by omega
     have l7:i7<7:=by omega
     have l5:i5<5:=by omega
     have w7:IntKind.i64.wrap (1+(i7:Int))=1+(i7:Int):=by rw[Uv];omega
     have w5:IntKind.i64.wrap (1+(i5:Int))=1+(i5:Int):=by rw[Uv];omega
     have w1:IntKind.i64.wrap (1+(i:Int))=1+(i:Int):=by rw[Uv];omega
     have ba:U (bq i=⟨1+(i7:Int),1+(i5:Int),1+(i:Int),2⟩):=by unfold bq;rw[a7,a5];rfl
     clear a7 a5;have bn:U (∀W:World,UO 45 #[.agg #[iv (1+(i7:Int)),iv (1+(i5:Int)),iv (1+(i:Int)),iv 2],iv (k:Int)] W (UP W (.string (AA k (bq i))))):=λW=>by have q:=El k ar (bq i) (λj hj=>by have:=BS ar (KE a3) j hj;omega) W;rw[ba.o] at q ⊢;exact q
     have bj:U (∀W:World,Bl wr W->UO 79 #[.agg #[.bool lf,.slice ka kn kc,.slice ca cn cc],.string (AA k (bq i))] W λe w'=>∃rs,Bt (AA k (bq i)) d t rs/\Er (λb=>xb+1<=b) W d rs e w'):=λW V=>by obtain⟨hh,H⟩:=Y.o.1.bal;exact Nf (AA k (bq i)) d t _ true hh _ W (aa.o.2.below V) H Y.o.1.asc (by have:=Y.o.1.nodes;omega) (by rw[Y.o.1.len];omega)
     have E:U (∀W,Bl wr W->W.cell? (ad xb 0)=some (.bool lf)/\W.cell? (ad xb 1)=some (.slice ka kn kc)/\W.cell? (ad xb 2)=some (.slice ca cn cc)):=λW V=>by have q:=aa.o.1.below V;exact⟨q.cell 0,q.cell 1,q.cell 2⟩
     go_upto_region 9 with fail
     refine Aj (S:=(λw'=>w'.cell? (ad xb 0)=some (.bool lf)/\w'.cell? (ad xb 1)=some (.slice ka kn kc)/\w'.cell? (ad xb 2)=some (.slice ca cn cc))) 13 (by kernel_rfl) ?_ (λf=>?_);·((try dsimp only);(first|exact E.o _ (Up _ _).drew|exact E.o _ B2.o|exact E.o _ B3.o))
     refine tz 0 rfl ?_;refine tz 1 rfl ?_;refine tz 2 rfl ?_;refine tz 3 rfl ?_;refine tz 4 rfl ?_;refine tz 5 rfl ?_;refine tz 6 rfl ?_;refine tz 7 rfl ?_;refine tz 8 rfl ?_;refine tz 9 rfl ?_;refine tz 10 rfl ?_;refine At 11 rfl (λK A=>?_);refine BD (by rfl) 45 25 26 _ (by rfl) (.agg #[iv (1+(i7:Int)),iv (1+(i5:Int)),iv (1+(i:Int)),iv 2]) (iv (k:Int)) (by rfl) (by rfl) (λ_ _=>rfl) ?_;refine (bn.o wr.drew).mono ?_;rintro e w2 ⟨rfl,ac⟩;refine⟨_,rfl,?_⟩;have B2:=Ae (Ad ac);clear ac;refine tL A (by (try dsimp only);(first|exact E.o _ (Up _ _).drew|exact E.o _ B2.o|exact E.o _ B3.o)) ?_;clear A K f;intro f;try simp only[Ay]
     refine At 12 rfl (λK A=>?_);refine BD (by rfl) 79 16 27 _ (by rfl) (.agg #[.bool lf,.slice ka kn kc,.slice ca cn cc]) (.string (AA k (bq i))) (by rfl) (by rfl) (λ_ _=>rfl) ?_;refine (bj.o w2 B2.o).mono ?_;rintro e w3 ⟨rs,ax,bk,g,c3,xs,rfl,ah,ae,af,bh,au⟩;refine⟨_,rfl,?_⟩;have B3:=Ae (B2.o.trans (bk.mono B2.o.size));have u:=Ae (And.intro ax (And.intro (And.intro ah (And.intro ae af)) (And.intro bh au)));clear ax bk ah ae af bh au;refine tL A (by (try dsimp only);(first|exact E.o _ (Up _ _).drew|exact E.o _ B2.o|exact E.o _ B3.o)) ?_;clear A K f;intro f;try simp only[Ay]
     refine At 13 rfl (λK A=>?_);go_simp;refine tM A ?_;clear A K;clear E bj bn t7 t5 e7 e5 w7 w5 w1 f ba;have HW:=Ae (ai (aa.o.1.below B3.o) (Uy aa.o.1.lt B2.o.size));have v0:=HW.o.1.cell 0;have v1:=HW.o.1.cell 1;have v2:=HW.o.1.cell 2;simp at v0 v1 v2;have vf:=HW.o.1.frozen;have vl:=HW.o.1.lt;obtain⟨ah,ae,af⟩:=u.o.2.1;have b0:¬ g=xb:=by have:=HW.o.2;omega
     have bz:¬ xb=g:=by have:=HW.o.2;omega
     have ak:U (∀(d' : Nat) (t' : Ro d') (v:Value),NG (λb=>(λb=>xb+1<=b) b\/w2.heap.size<=b) w3 d' t' v->NG (λb=>xb+1<=b) w3 d' t' v):=λd' t' v h=>h.wide (λb V _=>by
      rcases V with V|V;.exact V
      .have:=HW.o.2;show xb+1<=b;omega)
     have F:U (∀(W:World) (j:Nat) (v:Value),Bl wo W->Bl wo (W.setCell (ad xb j) v)):=λW j v h=>h.setCell (by show wo.heap.size<=xb;rw[aj.o.2.2];exact Uq _) _;rcases Y.o.1.ins ar a3 u.o.1 with ⟨y,rfl,hy⟩|⟨y,z,rfl,hy⟩
     .obtain⟨x0,x1,x2,s0,s1,s2,hn⟩:=u.o.2.2.2.get 0 (by simp);have p0:=u.o.2.2.1 _ _ s0;have p1:=u.o.2.2.1 _ _ s1;have p2:=u.o.2.2.1 _ _ s2;have HP:=Ae (And.intro hy (ak.o _ _ _ hn));obtain⟨az,bl,be,bi,aw,bb,a9,e⟩:=Av.form hn;injection e with e;simp at e;obtain⟨rfl,rfl,rfl⟩:=e;simp at p0 p1 p2;clear s0 s1 s2 hn hy u ak ah ae af;go_wp2;go_roundw;case rel=>exact⟨i+1,d,y,by omega,by go_num,HP.o.1,XM.put HW.o.1 HP.o.2,F.o _ 2 _ (F.o _ 1 _ (F.o _ 0 _ (Y.o.2.2.trans (B3.o.mono Y.o.2.2.size))))⟩
      case measure=>simp[intOf];omega
     .obtain⟨x0,x1,x2,s0,s1,s2,hn⟩:=u.o.2.2.2.get 0 (by simp);have p0:=u.o.2.2.1 _ _ s0;have p1:=u.o.2.2.1 _ _ s1;have p2:=u.o.2.2.1 _ _ s2;have HP:U (XP k (i+1) (d+1) (.inr [y,z])/\NG (λb=>xb+1<=b) w3 (d+1) (.inr [y,z]) (.agg #[.bool false,.slice none 0 0,.slice (some (ad g 0)) 2 c3])):=⟨hy,none,0,g,c3,xs,rfl,⟨by have:=HW.o.2;show xb+1<=g;omega,af⟩,ae,by simp,u.o.2.2.1,u.o.2.2.2.mono (λt v h=>ak.o _ t v h)⟩;obtain⟨az,bl,be,bi,aw,bb,a9,e⟩:=Av.form hn;injection e with e;simp at e;obtain⟨rfl,rfl,rfl⟩:=e;simp at p0 p1 p2;clear s0 s1 s2 hn hy u ak ah ae af;go_wp2;go_roundw;case rel=>have b3:=((HW.o.1.set 0 (.bool az)).set 1 (.slice bl be bi)).set 2 (.slice aw bb a9);exact⟨i+1,d+1,.inr [y,z],by omega,by go_num,HP.o.1,XM.put (by simpa using b3) HP.o.2.setX.setX.setX,F.o _ 2 _ (F.o _ 1 _ (F.o _ 0 _ (F.o _ 2 _ (F.o _ 1 _ (F.o _ 0 _ (Y.o.2.2.trans (B3.o.mono Y.o.2.2.size)))))))⟩
      case measure=>simp[intOf];omega
    .obtain rfl:i=300:=by omega
     have x0:wo.cell? (ad (w.heap.size+1) 0)=some (.slice av k cv):=by have:=J.o.1.bx.cell 0;simpa using this
     have D:=Ae Y.o.2.2;have r:U (∀W:World,Bl wr W->W.cell? (ad (w.heap.size+1) 0)=some (.slice av k cv)/\W.cell? (ad xb 0)=some (.bool lf)/\W.cell? (ad xb 1)=some (.slice ka kn kc)/\W.cell? (ad xb 2)=some (.slice ca cn cc)):=λW V=>by have q:=aa.o.1.below V;exact⟨((D.o.trans (V.mono D.o.size)).cell (Uo _ _ x0)).trans x0,q.cell 0,q.cell 1,q.cell 2⟩
     have a0:U (∀(w2 w4:World),Bl wr w2->∀O:Obj,(w2.alloc O).grownBy w4 (Value.slice av k cv).ownBlock->(w4.cell? (ad (w.heap.size+1) 0)=some (.slice av k cv)/\w4.cell? (ad xb 0)=some (.bool lf)/\w4.cell? (ad xb 1)=some (.slice ka kn kc)/\w4.cell? (ad xb 2)=some (.slice ca cn cc))/\w4.frozen? (ad (w.heap.size+1) 0)=false/\w.heap.size+1<w4.heap.size):=λw2 w4 V O hg=>by
      have ac:=D.o.trans (V.mono D.o.size);have aq:Bx w4 (w.heap.size+1) 32 #[.slice av k cv]:=(BB ac hg (λg e=>(Ah J.o.1.row.row g e).1) J.o.1.lt (by have:=J.o.1.sz;omega)).trans J.o.1.bx;have q:Bx w4 xb 91 #[.bool lf,.slice ka kn kc,.slice ca cn cc]:=((aa.o.1.below V).alloc O).grown hg (λe=>by have:=(Ah J.o.1.row.row xb e).2;have:=aj.o.2.2;omega)
      exact⟨⟨by have:=aq.cell 0;simpa using this,q.cell 0,q.cell 1,q.cell 2⟩,aq.frozen 0,aq.lt⟩
     have HT:U (∀w2:World,Bl wr w2->∀O:Obj,(w2.alloc O).ownsRow (w.heap.size+2) 59 1 (.slice av k cv) k us):=λw2 V O=>Ag (Ag J.o.1.row.row (D.o.trans (V.mono D.o.size))) (Aa _ _);have a8:U (UO 80 #[.agg #[.bool lf,.slice ka kn kc,.slice ca cn cc],iv 0] wr.drew (CI wr.drew d t 0)):=by obtain⟨hh,H⟩:=Y.o.1.bal;have bt:=Y.o.1.nodes;exact IJ d t _ true hh 0 wr.drew (aa.o.2.na.below (Up _ _).drew) (by omega) (by rw[Y.o.1.len];omega) H (by omega) (by omega)
     go_upto_region 13 with fail
     refine Aj (S:=(λw'=>w'.cell? (ad (w.heap.size+1) 0)=some (.slice av k cv)/\w'.cell? (ad xb 0)=some (.bool lf)/\w'.cell? (ad xb 1)=some (.slice ka kn kc)/\w'.cell? (ad xb 2)=some (.slice ca cn cc))) 8 (by kernel_rfl) ?_ (λf=>?_);·((try dsimp only);(first|exact r.o _ (Up _ _).drew|exact r.o _ C.o|exact r.o _ (C.o.trans ((Aa _ _).mono C.o.size))|exact u0))
     refine tz 0 rfl ?_;refine tz 1 rfl ?_;refine tz 2 rfl ?_;refine At 3 rfl (λK A=>?_);refine Iq (by rfl) 80 39 (iv 0) _ (by rfl) (.agg #[.bool lf,.slice ka kn kc,.slice ca cn cc]) (by rfl) (λ_ _=>rfl) ?_;refine a8.o.mono ?_;rintro e w2 ⟨a2,c2,G,xs,rfl,ac,bf,bc,a6⟩;refine⟨_,rfl,?_⟩;have C:=Ae (Ad ac);have D2:=Ae (And.intro (Bp.rowN bf bc) a6);clear ac bf bc a6;refine tL A (by (try dsimp only);(first|exact r.o _ (Up _ _).drew|exact r.o _ C.o|exact r.o _ (C.o.trans ((Aa _ _).mono C.o.size))|exact u0)) ?_;clear A K f;intro f;try simp only[Ay]
     refine At 4 rfl (λK A=>?_);go_simp;refine tL A (by (try dsimp only);(first|exact r.o _ (Up _ _).drew|exact r.o _ C.o|exact r.o _ (C.o.trans ((Aa _ _).mono C.o.size))|exact u0)) ?_;clear A K f;intro f;try simp only[Ay]
     refine At 5 rfl (λK A=>?_);refine Ej (by rfl) (by rfl) (by rfl) ?_;refine tL A (by (try dsimp only);(first|exact r.o _ (Up _ _).drew|exact r.o _ C.o|exact r.o _ (C.o.trans ((Aa _ _).mono C.o.size))|exact u0)) ?_;clear A K f;intro f;try simp only[Ay]
     refine At 6 rfl (λK A=>?_);refine Dm (by rfl) (.tmp 38) (.tmp 42) (by rfl) (w.heap.size+2) k (.slice av k cv) us (by rfl) _ (HT.o w2 C.o _) (by rfl) rfl (by omega) (Uy J.o.1.sz (Uy D.o.size C.o.size)) ?_;intro v4 w4 ab ag am;obtain⟨a4,c4,e4,_⟩:=Af ab;subst e4;obtain⟨u0,uf,ul⟩:=a0.o w2 w4 C.o _ ag;refine tL A (by (try dsimp only);(first|exact r.o _ (Up _ _).drew|exact r.o _ C.o|exact r.o _ (C.o.trans ((Aa _ _).mono C.o.size))|exact u0)) ?_;clear A K f;intro f;try simp only[Ay]
     refine At 7 rfl (λK A=>?_);go_simp;refine tL A (by (try dsimp only);(first|exact r.o _ (Up _ _).drew|exact r.o _ C.o|exact r.o _ (C.o.trans ((Aa _ _).mono C.o.size))|exact u0)) ?_;clear A K f;intro f;try simp only[Ay]
     refine At 8 rfl (λK A=>?_);go_simp;refine tM A ?_;clear A K;have H7:=Ae (J.o.1.step (D.o.trans (C.o.mono D.o.size)) (l:=wr.drew.heap.size) D.o.size D2.o.1 ag ab am);have bs:U (Ac d t<=1048576/\∀x,x<Ac d t->Bg (G x)):=by obtain⟨hh,H⟩:=Y.o.1.bal;have bt:=Y.o.1.nodes;refine⟨by omega,λx hx=>?_⟩;have q:=Dt D2.o.2 H x (Us _) (by omega);exact⟨by omega,by omega⟩
     clear ab ag am HT r a0 a8 D2 C u0 uf ul f x0;go_wp2;go_roundw;case rel=>
      obtain⟨⟨bv,bw,bu⟩,_,a1⟩:=H7.o;refine⟨k+1,_,_,_,_,bv,bw,by omega,by go_num,bu,λj hj=>?_,J.o.2.2.trans a1⟩;by_cases e:j=k;.simp only[if_pos e];exact bs.o
      .simp only[if_neg e];exact J.o.2.1 j (by omega)
     case measure=>simp[intOf];omega
  .obtain rfl:k=6:=by omega
   have b1:=B0.o.1.below' J.o.2.2 (by omega);have y0:=b1.cell 0;have x0:=J.o.1.bx.cell 0;simp at y0 x0;have yf:=b1.frozen 0;have yl:=b1.lt;clear b1;go_wp2;refine bodyPost_ret (v:=.agg #[.slice av 6 cv]) (by simp[results,results91,go_sem,y0]) rfl ⟨(B0.o.2.2.1.trans (J.o.2.2.mono (by omega))).setCell (by simp) _,av,cv,M,T,rfl,(J.o.1.row.setO Ar.pl (by simp) _).ixw (by omega),J.o.2.1⟩
variable {L:List Qd}{j:Nat}
theorem Ft {p:Qd} {o:Nat->Nat} (b:∀i,i<4->o i=AM j i):Dc (λi=>AB p.s p.p p.o p.g (o i))=true↔Cx (A7 j p) 4:=
 ⟨ES b,λh=>(Ea _).2 (IA (λi f=>by unfold A7;rw[b i f]) h)⟩
theorem Ts (j:Nat) (h:j<6) (p:Qd):∃B:Bool,(∀w,
  (UO 29 #[iv (j:Int),qv p] w (UP w (.bool B)))/\
  (UO 28 #[iv (j:Int),qv p] w (UP w (.bool B))))/\
  (B=true↔Cx (A7 j p) 4):=by
 obtain⟨a,b,c,d⟩:=p;have f:j=0\/j=1\/j=2\/j=3\/j=4\/j=5:=by omega
 rcases f with rfl|rfl|rfl|rfl|rfl|rfl;.exact⟨_,λw=>⟨AU 0 (by omega) (by omega) a b c d N4 Nr JF w,Iu a b c d w⟩,Ft (p:=⟨a,b,c,d⟩) (Hs rfl rfl rfl rfl)⟩
 .exact⟨_,λw=>⟨AU 1 (by omega) (by omega) a b c d NT M0 J4 w,I9 a b c d w⟩,Ft (p:=⟨a,b,c,d⟩) (Hs rfl rfl rfl rfl)⟩
 .exact⟨_,λw=>⟨AU 2 (by omega) (by omega) a b c d NW NE J8 w,IW a b c d w⟩,Ft (p:=⟨a,b,c,d⟩) (Hs rfl rfl rfl rfl)⟩
 .exact⟨_,λw=>⟨AU 3 (by omega) (by omega) a b c d Ob MU JV w,Ja a b c d w⟩,Ft (p:=⟨a,b,c,d⟩) (Hs rfl rfl rfl rfl)⟩
 .exact⟨_,λw=>⟨AU 4 (by omega) (by omega) a b c d NM NB J0 w,In a b c d w⟩,Ft (p:=⟨a,b,c,d⟩) (Hs rfl rfl rfl rfl)⟩
 .exact⟨_,λw=>⟨AU 5 (by omega) (by omega) a b c d NJ M3 JX w,IM a b c d w⟩,Ft (p:=⟨a,b,c,d⟩) (Hs rfl rfl rfl rfl)⟩
def SX (M:Nat->Nat) (T:Nat->Nat->Tn) (j:Nat) (p:Qd) (L:List Qd):Prop:=
 (¬ Cx (A7 j p) 4/\L=[])\/(Cx (A7 j p) 4/\∃t,BE (M j) (T j) t/\L=((Ab 21 t).map (Al j)).filter (λq=>Cr q p))
theorem E1 {T:Nat->Nat->Tn} (b:VI 6 M T) (j:Nat) (l:j<6) (p:Qd):∃(B:Bool) (L:List Qd),SX M T j p L/\
  (∀w,(UO 29 #[iv (j:Int),qv p] w (UP w (.bool B)))/\(UO 28 #[iv (j:Int),qv p] w (UP w (.bool B))))/\
  ∀(a:Option Addr) (c:Nat) (w:World),CO w a 6 M T->
   (UO 8 #[.agg #[.slice a 6 c],qv p,iv (j:Int)] w (FM w L))/\
   (UO 11 #[.agg #[.slice a 6 c],qv p,iv (j:Int)] w (FM w L))/\
   (UO 27 #[.agg #[.slice a 6 c],qv p,iv (j:Int)] w (UP w (iv (L.length:Int))))/\
   (UO 31 #[.agg #[.slice a 6 c],qv p,iv (j:Int)] w (UP w (iv (L.length:Int)))):=by
 obtain⟨B,f,v⟩:=Ts j l p;obtain⟨t,y,-,-⟩:=b.t j l;have z:B=true->∃i:Nat,i<6/\(j:Int)=(i:Int)/\Cx (A7 i p) 4:=λe=>⟨j,l,rfl,v.1 e⟩;obtain⟨L,A,u⟩:∃L,SX M T j p L/\((¬ (VI 6 M T/\B=true)/\L=[])\/(VI 6 M T/\B=true/\∃i:Nat,i<6/\(j:Int)=(i:Int)/\∃t,BE (M i) (T i) t/\L=((Ab 21 t).map (Al i)).filter (λq=>Cr q p))):=by
  by_cases h:B=true;.exact⟨_,.inr ⟨v.1 h,t,y,rfl⟩,.inr ⟨b,h,j,l,rfl,t,y,rfl⟩⟩
  .exact⟨[],.inl ⟨λe=>h (v.2 e),rfl⟩,.inl ⟨λe=>h e.2,rfl⟩⟩
 refine⟨B,L,A,f,λa c w r=>⟨?_,?_,?_,?_⟩⟩;.exact QE a 6 c M T p j B L w r (by omega) b.fit (λw=>(f w).1) u
 .exact SN a 6 c M T p j B L w r (by omega) b.fit (λw=>(f w).2) z u
 .exact Sl a 6 c M T p j B L w r (by omega) b.fit (λw=>(f w).2) z u
 .exact SD a 6 c M T p j B L w r (by omega) b.fit (λw=>(f w).1) u
theorem Rz {T:Nat->Nat->Tn} (f:j<6) (l:VI 6 M T) (h:SX M T j q L):L.length<=300:=by
 rcases h with ⟨_,rfl⟩|⟨_,t,u,rfl⟩;.simp
 .obtain⟨v,b,r,_⟩:=l.t j f;obtain rfl:=u.fn b;refine Uy (List.length_filter_le _ _) ?_;simpa using r
theorem RA (b:j<6) (h:AQ q=true):Cx (A7 j q) 4:=λi f=>⟨⟨by have:=BS b h i f;omega,(BS b h i f).2⟩,λr l e=>by have:=BS b h r (by omega);omega⟩
theorem Lo {x:Qd} (h:AQ q=true):Cr x q=true↔x=q:=by
 obtain⟨a,b,c,d⟩:=q;obtain⟨a',u,c',v⟩:=x;simp[AQ,BP] at h;obtain⟨⟨⟨y,t⟩,z⟩,A⟩:=h;have l:¬ a=0:=by omega
 have n2:¬ b=0:=by omega
 have r:¬ c=0:=by omega
 have f:¬ d=0:=by omega
 simp[Cr,Ev,l,n2,r,f,and_assoc];constructor;.rintro⟨rfl,rfl,rfl,rfl⟩;exact⟨rfl,rfl,rfl,rfl⟩
 .rintro⟨rfl,rfl,rfl,rfl⟩;exact⟨rfl,rfl,rfl,rfl⟩
theorem Pv {q:Qd} {f:Qd->Bool} (b:∀x,f x=true↔x=q):∀{L:List Qd},L.Nodup->q∈L->(L.filter f).length=1
 | [],_,h=>by cases h
 | x::L,hn,h=>by
  rw[List.nodup_cons] at hn
  by_cases e:x=q
  .subst e
   have t:L.filter f=[]:=List.filter_eq_nil_iff.2 (λy u e=>hn.1 ((b y).1 e ▸ u))
   rw[List.filter_cons_of_pos ((b x).2 rfl),t]
   rfl
  .rw[List.filter_cons_of_neg (λr=>e ((b x).1 r))]
   exact Pv b hn.2 (by
    rcases List.mem_cons.1 h with l|l
    .exact absurd l.symm e
    .exact l)
theorem RB {T:Nat->Nat->Tn} (b:j<6) (y:VI 6 M T) (u:AQ q=true) (h:SX M T j q L) (z:∀t,BE (M j) (T j) t->q∈(Ab 21 t).map (Al j)):L.length=1:=by
 rcases h with ⟨h,_⟩|⟨_,t,f,rfl⟩;.exact absurd (RA b u) h
 .obtain⟨A,r,_,v⟩:=y.t j b;obtain rfl:=f.fn r;exact Pv (λx=>Lo u) (DN b f.asc (λk l=>(v k l).1)) (z t f)
theorem P9 {T:Nat->Nat->Tn} (r:AQ q=true) (h:SX M T j q L) (l:∀t,BE (M j) (T j) t->q∉(Ab 21 t).map (Al j)):L.length=0:=by
 rcases h with ⟨_,rfl⟩|⟨_,t,b,rfl⟩;.rfl
 .rw[List.length_eq_zero_iff,List.filter_eq_nil_iff];intro x f e;exact l t b ((Lo r).1 e ▸ f)
theorem Rh:Cx (A7 j ⟨0,0,0,0⟩) 4:=by
 have e:∀i,A7 j ⟨0,0,0,0⟩ i=0:=λi=>by simp[A7,AB]
 intro i b;rw[e i];exact⟨by omega,λ_ _ _=>rfl⟩
theorem MV {T:Nat->Nat->Tn} (h:SX M T j ⟨0,0,0,0⟩ L):∃t,BE (M j) (T j) t/\L.length=(Ab 21 t).length:=by
 rcases h with ⟨h,_⟩|⟨_,t,b,rfl⟩;.exact absurd Rh h
 .refine⟨t,b,?_⟩;rw[List.filter_eq_self.2 (λx _=>by simp[Cr,Ev])];simp
def S8 (w:World) (n:Nat) (M:Nat->Nat) (T:Nat->Nat->Tn) (q:Qd) (e:Ending) (w' : World):Prop:=
 Bl w w'/\((CH n M T q/\∃a c M' T' us lo hi,e=.returned (.agg #[.bool true,.slice a 6 c])/\AJ TreeAt w' (w.heap.size+3) (.slice a 6 c) 6 M' T' us lo hi/\∀i,i<6->Nd (M i) (T i) (AA i q) (M' i) (T' i))\/
  (¬ CH n M T q/\∃a c us lo hi,e=.returned (.agg #[.bool false,.slice a n c])/\AJ TreeAt w' (w.heap.size+3) (.slice a n c) n M T us lo hi))
theorem Sm (a:Option Addr) (n c:Nat) (M:Nat->Nat) (T:Nat->Nat->Tn) (q:Qd) (w:World) (h:CO w a n M T) (hn:n<=1048576) (hN:BF n M T) :
  UO 23 #[.agg #[.slice a n c],qv q] w (S8 w n M T q):=by
 have HR:U (CO w a n M T/\BF n M T):=⟨h,hN⟩;clear h hN;obtain⟨f,ag⟩:∃f,f=((w.alloc (.cells #[.slice a n c] 32)).alloc (.cells #[iv q.s,iv q.p,iv q.o,iv q.g] 34)).alloc (.cells #[.bool false,.slice none 0 0] 42):=⟨_,rfl⟩;have V:U (Bx f w.heap.size 32 #[.slice a n c]/\Bx f (w.heap.size+1) 34 #[iv q.s,iv q.p,iv q.o,iv q.g]/\Bx f (w.heap.size+2) 42 #[.bool false,.slice none 0 0]/\Bl w f/\f.heap.size=w.heap.size+3):=by have b1:=Bx.new w #[.slice a n c] 32;have b2:=Bx.new (w.alloc (.cells #[.slice a n c] 32)) #[iv q.s,iv q.p,iv q.o,iv q.g] 34;have b3:=Bx.new ((w.alloc (.cells #[.slice a n c] 32)).alloc (.cells #[iv q.s,iv q.p,iv q.o,iv q.g] 34)) #[.bool false,.slice none 0 0] 42;simp only[UF] at b2 b3;rw[ag];exact⟨(b1.alloc _).alloc _,b2.alloc _,b3,((Aa _ _).alloc (by simp) _).alloc (by simp;omega) _,by simp⟩
 have z:U (∀W,Below (w.heap.size+3) f W->Bl w W):=λW hb=>V.o.2.2.2.1.trans (hb.mono (by omega));have l:U (∀W,Below (w.heap.size+3) f W->W.cell? (ad w.heap.size 0)=some (.slice a n c)/\(W.cell? (ad (w.heap.size+1) 0)=some (iv q.s)/\W.cell? (ad (w.heap.size+1) 1)=some (iv q.p)/\W.cell? (ad (w.heap.size+1) 2)=some (iv q.o)/\W.cell? (ad (w.heap.size+1) 3)=some (iv q.g))/\W.cell? (ad (w.heap.size+2) 0)=some (.bool false)/\W.cell? (ad (w.heap.size+2) 1)=some (.slice none 0 0)/\w.heap.size+2<W.heap.size/\∀i,W.frozen? (ad (w.heap.size+2) i)=false):=λW hb=>by have b1:=V.o.1.below' hb (by omega);have b2:=V.o.2.1.below' hb (by omega);have b3:=V.o.2.2.1.below' hb (by omega);exact⟨b1.cell 0,⟨b2.cell 0,b2.cell 1,b2.cell 2,b2.cell 3⟩,b3.cell 0,b3.cell 1,b3.lt,λi=>b3.frozen i⟩
 have aq:U (UO 36 #[.agg #[.slice a n c]] f (MP f a n c M T)):=Do a n c M T f (HR.o.1.below V.o.2.2.2.1) hn HR.o.2;unfold qv;go_enter func23,ntmps23;go_upto_region 1 with fail
 rw[<- ag];clear ag;obtain⟨x0,⟨q0,q1,O,q3⟩,_⟩:=l.o f (Up _ _);go_wp2_with fail
 (with_reducible refine aq.o.mono ?_)
 rintro e F hr;clear x0 q0 q1 O q3 aq;rcases hr with ⟨rfl,Y,hb⟩|⟨rfl,hv,A,lo,hi,hI⟩
 .have ah:U (¬ CH n M T q):=λhk=>Y hk.1;have K1:U (Below (w.heap.size+3) f F):=by rw[<- V.o.2.2.2.2];exact hb
  clear Y hb;have f0:=(l.o F K1.o).1;obtain⟨al,am,ak,aj⟩:=(l.o F K1.o).2.2;have an:=Ae (EB a n c M T F (HR.o.1.below (z.o F K1.o)) hn HR.o.2);go_wp2_with fail
  (with_reducible refine an.o.mono ?_)
  rintro e wz ⟨az,cz,us,r,t,rfl,ac,ab⟩;have C:U (Below (w.heap.size+3) f wz/\AJ TreeAt wz (w.heap.size+3) (.slice az n cz) n M T us r t):=by
   have q1:=K1.o;have O:w.heap.size+3<=F.heap.size:=by have:=q1.size;rw[V.o.2.2.2.2] at this;exact this
   exact⟨q1.trans (ab.mono O),ac.low (by omega)⟩
  obtain⟨J,aa,aw,a1⟩:=(l.o wz C.o.1).2.2;clear f0 al am ak aj ac ab;go_wp2;refine bodyPost_ret (v:=.agg #[.bool false,.slice az n cz]) (by simp[results,results23,go_sem,J,aa]) rfl ⟨((z.o wz C.o.1).setCell (by simp;try omega) _).setCell (by simp;try omega) _,.inr ⟨ah.o,az,cz,us,r,t,rfl,?_⟩⟩;exact (C.o.2.setO TreeAt.pl (by simp) _).setO TreeAt.pl (by simp) _
 have e6:=hv.1;subst e6;have HI:=Ae (ai hI hv);have K1:U (Below (w.heap.size+3) f F):=by rw[<- V.o.2.2.2.2];exact hI.bel
 have ax:U (UO 51 #[pt (f.heap.size+1),.agg #[iv q.s,iv q.p,iv q.o,iv q.g]] F λe w'=>∃b:Bool,e=.returned (.bool b)/\Below (f.heap.size+1) F w'/\((b=false/\¬ CH 6 M T q)\/(b=true/\CH 6 M T q/\∃A',Bx w' (f.heap.size+1) 109 A'/\∀p,p<6->XD (lo p) (hi p) (F.heap.size+1) w' A' M T q p))):=(Qn f F a c M T A lo hi hI hv q).mono λe w' ⟨h1,G⟩=>by
  rcases G with ⟨G,h3⟩|⟨G,h3,h4⟩;.exact⟨false,G,h1,.inl ⟨rfl,h3⟩⟩
  .exact⟨true,G,h1,.inr ⟨rfl,h3,h4⟩⟩
 clear hv hI;obtain⟨x0,⟨q0,q1,O,q3⟩,_⟩:=l.o F K1.o;go_wp2_with fail
 (with_reducible refine ax.o.mono ?_)
 rintro e H ⟨ba,rfl,ar,a4⟩;have K2:=Ae (K1.o.trans (ar.mono (by rw[V.o.2.2.2.2];omega)));clear x0 q0 q1 O q3 ax ar;rcases a4 with ⟨rfl,Y⟩|⟨rfl,a0,A',hx,ae⟩
 .have ah:=Ae Y;clear Y;have f0:=(l.o H K2.o).1;obtain⟨al,am,ak,aj⟩:=(l.o H K2.o).2.2;have an:=Ae (EB a 6 c M T H (HR.o.1.below (z.o H K2.o)) hn HR.o.2);go_wp2_with fail
  (with_reducible refine an.o.mono ?_)
  rintro e wz ⟨az,cz,us,r,t,rfl,ac,ab⟩;have C:U (Below (w.heap.size+3) f wz/\AJ TreeAt wz (w.heap.size+3) (.slice az 6 cz) 6 M T us r t):=by
   have q1:=K2.o;have O:w.heap.size+3<=H.heap.size:=by have:=q1.size;rw[V.o.2.2.2.2] at this;exact this
   exact⟨q1.trans (ab.mono O),ac.low (by omega)⟩
  obtain⟨J,aa,aw,a1⟩:=(l.o wz C.o.1).2.2;clear f0 al am ak aj ac ab;go_wp2;refine bodyPost_ret (v:=.agg #[.bool false,.slice az 6 cz]) (by simp[results,results23,go_sem,J,aa]) rfl ⟨((z.o wz C.o.1).setCell (by simp;try omega) _).setCell (by simp;try omega) _,.inr ⟨ah.o,az,cz,us,r,t,rfl,?_⟩⟩;exact (C.o.2.setO TreeAt.pl (by simp) _).setO TreeAt.pl (by simp) _
 .haveI:Inhabited (Σ D:Nat,Ro D):=⟨⟨1,.inl []⟩⟩
  have af:∀p,p<6->∃s:(Σ D:Nat,Ro D),∃(E : Ro 21) (v' : Value) (S:Nat->Prop) (hh:Nat) (u:Ro 21),A'[p*2]?=some (.func (.func (BY p)) #[] #[])/\BE (M p) (T p) E/\AA p q∈Ab 21 E/\AP S H s.1 s.2 v'/\(∀x,S x->x<H.heap.size)/\Aq s.1 true s.2 hh/\Bu (AA p q) 21 E u/\Ac s.1 s.2<=5000/\(∀M m,m=Ac s.1 s.2->Am M 0 s.1 s.2 0->OJ m M u)/\A'[p*2+1]?=some v':=λp hp=>by obtain⟨h0,E,D,y,v',S,hh,u,h1,G,h3,h4,h5⟩:=ae p hp;exact⟨⟨D,y⟩,E,v',S,hh,u,h0,h1,G,h3,λx hx=>(h4 x hx).2,h5⟩
  obtain⟨s,hs⟩:=choose_lt af;have av:U (UO 48 #[pt (f.heap.size+1)] H (Pl H (λp=>(s p).1) (λp=>(s p).2))):=LP (f.heap.size+1) A' (λp=>(s p).1) (λp=>(s p).2) H hx (λp hp=>by obtain⟨E,v',S,hh,u,h0,h1,G,h3,h4,h5,h6,h8,h9,ao⟩:=hs p hp;exact⟨v',S,hh,h0,ao,h3,h4,h5,by omega⟩)
  have HS:U (CH 6 M T q/\∀p,p<6->∃(E u:Ro 21),BE (M p) (T p) E/\AA p q∈Ab 21 E/\Bu (AA p q) 21 E u/\Ac (s p).1 (s p).2<=5000/\(∀M m,m=Ac (s p).1 (s p).2->Am M 0 (s p).1 (s p).2 0->OJ m M u)):=⟨a0,λp hp=>by obtain⟨E,v',S,hh,u,h0,h1,G,h3,h4,h5,h6,h8,h9,ao⟩:=hs p hp;exact⟨E,u,h1,G,h6,h8,h9⟩⟩
  clear a0 hx ae af hs;obtain⟨x0,⟨q0,q1,O,q3⟩,_⟩:=l.o H K2.o;go_wp2_with fail
  (with_reducible refine av.o.mono ?_)
  rintro e w3 ⟨ay,a3,c3,T',us,r,t,rfl,ap,au⟩;have H3:U (Below (w.heap.size+3) f w3/\AJ TreeAt w3 (w.heap.size+3) (.slice a3 6 c3) 6 (λp=>Ac (s p).1 (s p).2) T' us r t/\∀p,p<6->Nd (M p) (T p) (AA p q) (Ac (s p).1 (s p).2) (T' p)):=by
   have O:w.heap.size+3<=H.heap.size:=by have:=K2.o.size;rw[V.o.2.2.2.2] at this;exact this
   refine⟨K2.o.trans (ay.mono O),ap.low (by omega),λp hp=>?_⟩;obtain⟨E,u,h1,G,h3,h4,h6⟩:=HS.o.2 p hp;exact⟨E,u,h1,G,h3,h4,h6 _ _ rfl (au p hp)⟩
  obtain⟨J,aa,aw,a1⟩:=(l.o w3 H3.o.1).2.2;clear x0 q0 q1 O q3 ay ap au av;go_wp2;refine bodyPost_ret (v:=.agg #[.bool true,.slice a3 6 c3]) (by simp[results,results23,go_sem,J,aa]) rfl ⟨((z.o w3 H3.o.1).setCell (by simp;try omega) _).setCell (by simp;try omega) _,.inl ⟨HS.o.1,a3,c3,_,T',us,r,t,rfl,?_,H3.o.2.2⟩⟩;exact (H3.o.2.1.setO TreeAt.pl (by simp) _).setO TreeAt.pl (by simp) _
end Go.Proofs.YtcnollkkigiobaaGreat
