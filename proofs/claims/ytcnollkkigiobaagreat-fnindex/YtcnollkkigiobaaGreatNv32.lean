import Derived.Deep.LoopGhost
import Derived.Deep.RegionLaw
import Derived.Lib.SliceRun
import Derived.Test.YtcnollkkigiobaaGreatNv26
set_option linter.unusedVariables false
set_option linter.unusedSimpArgs false
set_option maxRecDepth 100000
set_option maxHeartbeats 90000000
namespace Go.Proofs.YtcnollkkigiobaaGreat
open Go Go.Deep Go.RowKit Go.Proofs.Tryz
variable {S:Nat->Prop}{d:Nat}{w:World}{xs:List Value}
theorem GN {e:Option Addr} {L:List ByteArray} (h:Sb S w e L.length (λi=>.string (gt L i))):Hp w e L.length (Ap L):=by
 refine⟨AF L,Fb L,?_⟩;rcases h with q|⟨g,o,rfl,_,f,c⟩;.exact .inl q
 .refine .inr ⟨g,o,rfl,f,λj u b=>?_⟩;have a:=(List.getElem?_eq_some_iff.1 b).1;rw[AF] at a;rw[Bf L j a] at b;injection b with b;subst b;exact c j a
theorem Fv {g o:Nat} {l:List (Ro d)} (m:g<w.heap.size) (r:xs.length=l.length) (c:∀j u,xs[j]?=some u->w.cell? (ad g (o+j))=some u) (t:∀k (h:k<l.length),∃u,xs[k]?=some u/\AP S w d l[k] u):Hp w (some (ad g o)) l.length xs:=by refine⟨r,λu f=>?_,.inr ⟨g,o,rfl,m,c⟩⟩;obtain⟨k,b,e⟩:=List.getElem_of_mem f;obtain⟨v,a,s⟩:=t k (by omega);rw[Ut b,e] at a;injection a with a;subst a;exact s.oneCell
theorem Nx {l m:List (Ro d)} {b:List Value} (j:xs.length=l.length) (c:∀k (h:k<l.length),∃u,xs[k]?=some u/\AP S w d l[k] u) (f:∀k (h:k<m.length),∃u,b[k]?=some u/\AP S w d m[k] u):∀k (h:k<(l++m).length),∃u,(xs++b)[k]?=some u/\AP S w d (l++m)[k] u:=by
 intro k h;by_cases q:k<l.length;.obtain⟨u,e,a⟩:=c k q;exact⟨u,by rw[List.getElem?_append_left (by omega)];exact e,by rw[List.getElem_append_left q];exact a⟩
 .rw[Uz] at h;obtain⟨u,e,a⟩:=f (k-l.length) (by omega);exact⟨u,by rw[List.getElem?_append_right (by omega),j];exact e,by rw[List.getElem_append_right (by omega)];exact a⟩
theorem JQ (d h b r c:Nat) (t u:Ro (d+1)) (v x:Value) (S:Nat->Prop) (w:World) (D:DE S w b (d+1) t v) (k:DE S w r (d+1) u x) (f:AE (d+1) t h) (j:AE (d+1) u h) (Q:¬ S b) (N:¬ S r) (G:b≠r) (z:0<c) (a:c<An t+An u) (E:(Ab (d+1) t).length+(Ab (d+1) u).length<=1099511627776) :
  UO 137 #[v,x,iv (c:Int)] w λe w'=>e=.returned (.tuple #[])/\D9 w w' b r/\AP (λy=>S y\/y=b\/w.heap.size<=y) w' (d+1) (AH 0 c (Ax t u)) v/\AP (λy=>S y\/y=r\/w.heap.size<=y) w' (d+1) (AH c (An t+An u) (Ax t u)) x:=by
 match t,u,D,k,f,j,a,E with
 | .inl L,.inl M,D,k,f,j,a,E=>
  obtain⟨rfl,ka,kc,V,hc,hr⟩:=D;obtain⟨rfl,R,C,A,I,O⟩:=k;have s : c<L.length+M.length:=a;have hL:=f.2;have hM:=j.2;refine (EH d b r L.length M.length kc C c ka R _ _ L M w V A G (GN hr) (GN O) (by omega) z (by omega)).mono ?_;rintro e w' ⟨rfl,Y,T,K⟩;refine⟨rfl,Y,?_,?_⟩;.exact AP.wide (show AP _ w' (d+1) (.inl (((L++M).take c).drop 0)) _ from T) (λy X _=>.inr X)
  .refine AP.wide (show AP _ w' (d+1) (.inl (((L++M).take (L.length+M.length)).drop c)) _ from ?_) (λy X _=>.inr X);rw[<- Uz,UC];exact K
 | .inr l,.inr m,D,k,f,j,a,E=>
  obtain⟨rfl,g,o,kc,xs,V,hg,hc,Z,U,J⟩:=D;obtain⟨rfl,g2,o2,C,P,A,aa,I,W,F,H⟩:=k;have s : c<l.length+m.length:=a;have hL:=f.2.1;have hM:=j.2.1;refine (DW d b r l.length m.length kc C c _ _ _ _ xs P (l++m) S w V A G (Fv hc.1 Z.2 U J) (Fv I.1 W.2 F H) (by rw[Uz]) (Nx Z.2 J H) Q N ?_ (by omega) z (by omega)).mono ?_;.rw[List.flatMap_append,Uz];exact E
  rintro e w' ⟨rfl,Y,T,K⟩;refine⟨rfl,Y,?_,?_⟩;.exact (show AP _ w' (d+1) (.inr (((l++m).take c).drop 0)) _ from T)
  .refine (show AP _ w' (d+1) (.inr (((l++m).take (l.length+m.length)).drop c)) _ from ?_);rw[List.drop_take];exact K s
 | .inl L,.inr m,D,k,f,j,a,E=>obtain⟨_,_,k,e2,_⟩:=j;have:=f.1;omega
 | .inr l,.inl M,D,k,f,j,a,E=>obtain⟨_,_,k,e2,_⟩:=f;have:=j.1;omega
theorem Mh (d h b r z:Nat) (t u:Ro (d+1)) (v x:Value) (S:Nat->Prop) (w:World) (D:DE S w b (d+1) t v) (k:DE S w r (d+1) u x) (f:AE (d+1) t h) (j:AE (d+1) u h) (Q:¬ S b) (N:¬ S r) (G:b≠r) (s:0<z) (a:z=An t+An u) (E:(Ab (d+1) t).length+(Ab (d+1) u).length<=1099511627776) :
  UO 137 #[v,x,iv (z:Int)] w λe w'=>e=.returned (.tuple #[])/\D9 w w' b r/\AP (λy=>S y\/y=b\/w.heap.size<=y) w' (d+1) (Ax t u) v:=by
 match t,u,D,k,f,j,a,E with
 | .inl L,.inl M,D,k,f,j,a,E=>obtain⟨rfl,Z,kc,U,Y,hr⟩:=D;obtain⟨rfl,R,C,A,I,O⟩:=k;have c : z=L.length+M.length:=a;have hL:=f.2;have hM:=j.2;refine (Jq d b r L.length M.length kc C z Z R _ _ L M w U A G (GN hr) (GN O) c s (by omega)).mono ?_;rintro e w' ⟨rfl,W,K⟩;exact⟨rfl,W,AP.wide (show AP _ w' (d+1) (.inl (L++M)) _ from K) (λy hy _=>.inr hy)⟩
 | .inr l,.inr m,D,k,f,j,a,E=>
  obtain⟨rfl,g,o,kc,xs,U,hg,Y,X,T,J⟩:=D;obtain⟨rfl,g2,o2,C,P,A,aa,I,V,F,H⟩:=k;have c : z=l.length+m.length:=a;have hL:=f.2.1;have hM:=j.2.1;refine (Io d b r l.length m.length kc C z _ _ _ _ xs P (l++m) S w U A G (Fv Y.1 X.2 T J) (Fv I.1 V.2 F H) (by rw[Uz]) (Nx X.2 J H) Q N ?_ c s (by omega)).mono ?_;.rw[List.flatMap_append,Uz];exact E
  rintro e w' ⟨rfl,W,K⟩;refine⟨rfl,W,(show AP _ w' (d+1) (.inr (l++m)) _ from ?_)⟩;rw[List.drop_zero,c,<- Uz,UC] at K;exact K
 | .inl L,.inr m,D,k,f,j,a,E=>obtain⟨_,_,k,e2,_⟩:=j;have:=f.1;omega
 | .inr l,.inl M,D,k,f,j,a,E=>obtain⟨_,_,k,e2,_⟩:=f;have:=j.1;omega
theorem Qg {T:Type} (L M:List T) (k:Nat) (h:k<=L.length):(L++M).take k=L.take k:=List.take_append_of_le_length h
theorem Pp:∀{d h:Nat} {z y:Ro (d+1)},AE (d+1) z h->AE (d+1) y h->0<An z->AH 0 (An z-1) (Ax z y)=AH 0 (An z-1) z/\AH (An z-1) (An z+An y) (Ax z y)=Ax (AH (An z-1) (An z) z) y
 | d,h,.inl L,.inl M,hU,hV,hz=>by
  have a : 0<L.length:=hz
  constructor
  .show Sum.inl (((L++M).take (L.length-1)).drop 0)=Sum.inl ((L.take (L.length-1)).drop 0)
   rw[Qg L M _ (by omega)]
  .show Sum.inl (((L++M).take (L.length+M.length)).drop (L.length-1))=Sum.inl (((L.take L.length).drop (L.length-1))++M)
   rw[<- Uz,UC,UC,List.drop_append_of_le_length (by omega)]
 | d,h,.inr L,.inr M,hU,hV,hz=>by
  have a : 0<L.length:=hz
  constructor
  .show Sum.inr (((L++M).take (L.length-1)).drop 0)=Sum.inr ((L.take (L.length-1)).drop 0)
   rw[Qg L M _ (by omega)]
  .show Sum.inr (((L++M).take (L.length+M.length)).drop (L.length-1))=Sum.inr (((L.take L.length).drop (L.length-1))++M)
   rw[<- Uz,UC,UC,List.drop_append_of_le_length (by omega)]
 | d,h,.inl L,.inr m,hU,hV,hz=>by
  obtain⟨_,_,b,c,_⟩:=hV
  have:=hU.1
  omega
 | d,h,.inr l,.inl M,hU,hV,hz=>by
  obtain⟨_,_,b,c,_⟩:=hU
  have:=hV.1
  omega
theorem OQ:∀{d h:Nat} {y z:Ro (d+1)},AE (d+1) y h->AE (d+1) z h->0<An z->AH 0 (An y+1) (Ax y z)=Ax y (AH 0 1 z)/\AH (An y+1) (An y+An z) (Ax y z)=AH 1 (An z) z
 | d,h,.inl L,.inl M,hU,hV,hz=>by
  have a : 0<M.length:=hz
  constructor
  .show Sum.inl (((L++M).take (L.length+1)).drop 0)=Sum.inl (L++(M.take 1).drop 0)
   rw[List.take_length_add_append]
   rfl
  .show Sum.inl (((L++M).take (L.length+M.length)).drop (L.length+1))=Sum.inl ((M.take M.length).drop 1)
   rw[<- Uz,UC,UC,List.drop_length_add_append]
 | d,h,.inr L,.inr M,hU,hV,hz=>by
  have a : 0<M.length:=hz
  constructor
  .show Sum.inr (((L++M).take (L.length+1)).drop 0)=Sum.inr (L++(M.take 1).drop 0)
   rw[List.take_length_add_append]
   rfl
  .show Sum.inr (((L++M).take (L.length+M.length)).drop (L.length+1))=Sum.inr ((M.take M.length).drop 1)
   rw[<- Uz,UC,UC,List.drop_length_add_append]
 | d,h,.inl L,.inr m,hU,hV,hz=>by
  obtain⟨_,_,b,c,_⟩:=hV
  have:=hU.1
  omega
 | d,h,.inr l,.inl M,hU,hV,hz=>by
  obtain⟨_,_,b,c,_⟩:=hU
  have:=hV.1
  omega
def Qk (v:Value) (n:Nat) (w:World):Prop:=
 (∃b,v=.iface 204 (pt b)/\UO 208 #[pt b] w λe w'=>e=.returned (iv (n:Int))/\w'=w)\/
 (∃b,v=.iface 174 (pt b)/\UO 125 #[pt b] w λe w'=>e=.returned (iv (n:Int))/\w'=w)
theorem DE.szi {b:Nat} {t:Ro (d+1)} {v:Value} (h:DE S w b (d+1) t v):Qk v (An t) w:=by
 rcases h.form with ⟨rfl,x,a,kc,c⟩|⟨rfl,x,a,kc,c⟩;.exact .inl ⟨b,rfl,Ka b _ kc a x w c⟩
 .exact .inr ⟨b,rfl,FI b _ kc a x w c⟩
theorem Fo {j:Array Oper} {o:Oper} {a:Act} {K:Act->World->Prop} {Q:Exit->Act->World->Prop} {E:Prop} (r:o.guard=none) (i:Nat) (m:String) (v:Value) (n:Nat)
  (t:o.op=.call { callee:=.invoke (.tmp i) m,args:=#[],argTypes:=#[] }) (y:a.tmps[i]?.getD undef=v) (s:∀b w,(method 369 204 (pt b) m).run prog w=.ok (208,pt b) w) (k:∀b w,(method 369 174 (pt b) m).run prog w=.ok (125,pt b) w)
  (A:Qk v n w) (h:K (a.put o.dst (iv (n:Int))) w) :
  if Region.wanted o (yielded j a.tmps)=true then Oper.wp prog o a w K Q else E:=by
 have z:Region.wanted o (yielded j a.tmps)=true:=by simp[Region.wanted,r]
 rw[if_pos z];unfold Oper.wp;rcases A with ⟨b,rfl,l⟩|⟨b,rfl,l⟩
 .have f:∀c w,(callFunc 208 c).run prog w=.ok (.enter 208 c) w:=λ_ _=>by rfl
  simp[execOp,t,resolve,invoke,y,go_sem,s,f];refine l.mono ?_;rintro e w' ⟨rfl,rfl⟩;exact h
 .have f:∀c w,(callFunc 125 c).run prog w=.ok (.enter 125 c) w:=λ_ _=>by rfl
  simp[execOp,t,resolve,invoke,y,go_sem,k,f];refine l.mono ?_;rintro e w' ⟨rfl,rfl⟩;exact h
end Go.Proofs.YtcnollkkigiobaaGreat
namespace Go.Proofs.YtcnollkkigiobaaGreat
open Go Go.Deep Go.Lib Go.RowKit Go.Shelf Go.Proofs.Tryz
theorem PW (b o n c i j:Nat) (s:Array Value) (xs:List Value) (w:World) (R:w.heap[b]?=some (.cells s 9 (0,0))) (P:o+n<=s.size) (O:∀k v,xs[k]?=some v->w.cell? (ad b (o+k))=some v) (D:xs.length=n) (Y:∀v∈xs,v.oneCell'=true) (aa:i<j) (hj:j<=n) (af:n<=c) (Z:c<=9223372036854775807) :
  UO 213 #[.slice (some (ad b o)) n c,iv (i:Int),iv (j:Int)] w λe w'=>e=.returned (.slice (some (ad b o)) (n-(j-i)) c)/\(∀k v,(xs.take i++xs.drop j)[k]?=some v->w'.cell? (ad b (o+k))=some v)/\w.grownBy w' (some b):=by
 obtain⟨i0,Q,aj,N,ae⟩:=info_parts info9;have J:Bx w b 9 s:=R;obtain⟨a,f⟩:∃a,a=xs.drop j:=⟨_,rfl⟩;have l:a.length=n-j:=by rw[f,List.length_drop,D]
 obtain⟨A,hA,G⟩:∃A:Addr,(if c=j then some ((ad b o):Addr) else some (ad b (o+j)))=some A/\U (∀t u,a[t]?=some u->w.drew.cell? (A.add t)=some u):=by
  by_cases h:c=j
  .refine⟨(ad b o),by simp[h],λt u y=>?_⟩;have h0:a.length=0:=by rw[l];omega
   rw[List.length_eq_zero_iff.1 h0] at y;simp at y
  .refine⟨(ad b (o+j)),by simp[h],λt u y=>?_⟩;rw[f,List.getElem?_drop] at y;rw[Addr.add_lit,Nat.add_assoc];exact O (j+t) u y
 have s1:U (a.length=(n-j)*1):=by rw[Nat.mul_one];exact l
 have s2:U (∀u∈a,u.oneCell'=true):=by intro u y;rw[f] at y;exact Y u (List.mem_of_mem_drop y)
 have s3:U (∀t,t<a.length->(w.drew.cell? (ad b (o+i*1+t))).isSome=true/\w.drew.frozen? (ad b (o+i*1+t))=false):=by intro t T;rw[l] at T;exact⟨by show (w.cell? _).isSome=true;rw[J.cell,Array.getElem?_eq_getElem (by omega)];rfl,J.frozen _⟩
 obtain⟨m,r⟩:∃m,m=w.drew.setCells b (o+i*1) a:=⟨_,rfl⟩;obtain⟨z,I,e2,X⟩:=BO a (o+i*1) w.drew s R (by omega);rw[<- r] at I;have V:w.grownBy m (some b):=by rw[r];exact Ao (⟨rfl,rfl,rfl,Uq _,λ_ _ _=>rfl⟩:w.grownBy w.drew (some b)) (Bb b a (o+i*1) w.drew)
 have C:Bx m b 9 z:=I;have ac:∀ty,(Builtin.clear_ #[88] ty #[.slice (some (ad b (o+(i+(n-j))))) (n-(i+(n-j))) (c-(i+(n-j)))]).run prog m=.ok (.tuple #[]) (m.setCells b (o+(i+(n-j))) (List.replicate (n-(i+(n-j))) (.string ByteArray.empty))):=
  λty=>Lib.run_clear_slice m _ _ ty (.string ByteArray.empty) underlying88 (λW=>by kernel_rfl) rfl rfl b (o+(i+(n-j))) _ _ (by omega) (λt T=>by rw[C.cell,Array.getElem?_eq_getElem (by omega)];rfl) (λt T=>C.frozen _)
 have HF:U (∀H,H=m.setCells b (o+(i+(n-j))) (List.replicate (n-(i+(n-j))) (.string ByteArray.empty))->(∀k v,(xs.take i++xs.drop j)[k]?=some v->H.cell? (ad b (o+k))=some v)/\w.grownBy H (some b)):=by
  rintro H rfl;obtain⟨E,f1,f2,f3⟩:=BO (List.replicate (n-(i+(n-j))) (.string ByteArray.empty)) (o+(i+(n-j))) m z I (by rw[List.length_replicate];omega);refine⟨λk v F=>?_,Ao V (Bb b _ _ m)⟩;have K:=(List.getElem?_eq_some_iff.1 F).1;rw[Uz,UE,List.length_drop,D] at K;rw[Bx.cell (show Bx _ b 9 E from f1) (o+k),f3,if_neg (by omega),X];have hl:(xs.take i).length=i:=by rw[UE];omega
  by_cases q1:k<i;.rw[if_neg (by omega),<- J.cell];rw[List.getElem?_append_left (by omega),List.getElem?_take,if_pos q1] at F;exact O k v F
  .rw[if_pos (by omega),f];rw[List.getElem?_append_right (by omega),hl] at F;rw[show o+k-(o+i*1)=k-i by omega];exact F
 have hW:=Ae r;have ab:i<=c:=by omega
 have ak:j<=c:=by omega
 have ah:¬ i=j:=by omega
 have ag:i<=j:=by omega
 have M:prog.follows .mixedOrders=true:=by kernel_rfl
 clear r O I e2 X J C V R P l f Y D;go_enter func213,ntmps213;go_wp2_with fail
 go_region_law_o (refine step_append_room rfl (.tmp 22) (.tmp 25) 88 rfl 9 i0 1 underlying88 Q N b o i c (by simp[Act.eval,Act.put]) A (n-j) (c-j) a (by simp[Act.eval,Act.put]) s1.o G.o s2.o (by omega) s3.o ?_;rw[<- hW.o])
 go_wp2;go_ret;exact⟨by rw[show n-(j-i)=i+(n-j) by omega];rfl,HF.o _ rfl⟩
theorem Qj (b o n c i j:Nat) (s:Array Value) (xs:List Value) (w:World) (R:w.heap[b]?=some (.cells s 68 (0,0))) (P:o+n<=s.size) (O:∀k v,xs[k]?=some v->w.cell? (ad b (o+k))=some v) (D:xs.length=n) (Y:∀v∈xs,v.oneCell'=true) (aa:i<j) (hj:j<=n) (af:n<=c) (Z:c<=9223372036854775807) :
  UO 201 #[.slice (some (ad b o)) n c,iv (i:Int),iv (j:Int)] w λe w'=>e=.returned (.slice (some (ad b o)) (n-(j-i)) c)/\(∀k v,(xs.take i++xs.drop j)[k]?=some v->w'.cell? (ad b (o+k))=some v)/\w.grownBy w' (some b):=by
 obtain⟨i0,Q,aj,N,ae⟩:=info_parts info68;have J:Bx w b 68 s:=R;obtain⟨a,f⟩:∃a,a=xs.drop j:=⟨_,rfl⟩;have l:a.length=n-j:=by rw[f,List.length_drop,D]
 obtain⟨A,hA,G⟩:∃A:Addr,(if c=j then some ((ad b o):Addr) else some (ad b (o+j)))=some A/\U (∀t u,a[t]?=some u->w.drew.cell? (A.add t)=some u):=by
  by_cases h:c=j
  .refine⟨(ad b o),by simp[h],λt u y=>?_⟩;have h0:a.length=0:=by rw[l];omega
   rw[List.length_eq_zero_iff.1 h0] at y;simp at y
  .refine⟨(ad b (o+j)),by simp[h],λt u y=>?_⟩;rw[f,List.getElem?_drop] at y;rw[Addr.add_lit,Nat.add_assoc];exact O (j+t) u y
 have s1:U (a.length=(n-j)*1):=by rw[Nat.mul_one];exact l
 have s2:U (∀u∈a,u.oneCell'=true):=by intro u y;rw[f] at y;exact Y u (List.mem_of_mem_drop y)
 have s3:U (∀t,t<a.length->(w.drew.cell? (ad b (o+i*1+t))).isSome=true/\w.drew.frozen? (ad b (o+i*1+t))=false):=by intro t T;rw[l] at T;exact⟨by show (w.cell? _).isSome=true;rw[J.cell,Array.getElem?_eq_getElem (by omega)];rfl,J.frozen _⟩
 obtain⟨m,r⟩:∃m,m=w.drew.setCells b (o+i*1) a:=⟨_,rfl⟩;obtain⟨z,I,e2,X⟩:=BO a (o+i*1) w.drew s R (by omega);rw[<- r] at I;have V:w.grownBy m (some b):=by rw[r];exact Ao (⟨rfl,rfl,rfl,Uq _,λ_ _ _=>rfl⟩:w.grownBy w.drew (some b)) (Bb b a (o+i*1) w.drew)
 have C:Bx m b 68 z:=I;have ac:∀ty,(Builtin.clear_ #[175] ty #[.slice (some (ad b (o+(i+(n-j))))) (n-(i+(n-j))) (c-(i+(n-j)))]).run prog m=.ok (.tuple #[]) (m.setCells b (o+(i+(n-j))) (List.replicate (n-(i+(n-j))) (.nilIface))):=
  λty=>Lib.run_clear_slice m _ _ ty (.nilIface) underlying175 (λW=>by kernel_rfl) rfl rfl b (o+(i+(n-j))) _ _ (by omega) (λt T=>by rw[C.cell,Array.getElem?_eq_getElem (by omega)];rfl) (λt T=>C.frozen _)
 have HF:U (∀H,H=m.setCells b (o+(i+(n-j))) (List.replicate (n-(i+(n-j))) (.nilIface))->(∀k v,(xs.take i++xs.drop j)[k]?=some v->H.cell? (ad b (o+k))=some v)/\w.grownBy H (some b)):=by
  rintro H rfl;obtain⟨E,f1,f2,f3⟩:=BO (List.replicate (n-(i+(n-j))) (.nilIface)) (o+(i+(n-j))) m z I (by rw[List.length_replicate];omega);refine⟨λk v F=>?_,Ao V (Bb b _ _ m)⟩;have K:=(List.getElem?_eq_some_iff.1 F).1;rw[Uz,UE,List.length_drop,D] at K;rw[Bx.cell (show Bx _ b 68 E from f1) (o+k),f3,if_neg (by omega),X];have hl:(xs.take i).length=i:=by rw[UE];omega
  by_cases q1:k<i;.rw[if_neg (by omega),<- J.cell];rw[List.getElem?_append_left (by omega),List.getElem?_take,if_pos q1] at F;exact O k v F
  .rw[if_pos (by omega),f];rw[List.getElem?_append_right (by omega),hl] at F;rw[show o+k-(o+i*1)=k-i by omega];exact F
 have hW:=Ae r;have ab:i<=c:=by omega
 have ak:j<=c:=by omega
 have ah:¬ i=j:=by omega
 have ag:i<=j:=by omega
 have M:prog.follows .mixedOrders=true:=by kernel_rfl
 clear r O I e2 X J C V R P l f Y D;go_enter func201,ntmps201;go_wp2_with fail
 go_region_law_o (refine step_append_room rfl (.tmp 22) (.tmp 25) 175 rfl 68 i0 1 underlying175 Q N b o i c (by simp[Act.eval,Act.put]) A (n-j) (c-j) a (by simp[Act.eval,Act.put]) s1.o G.o s2.o (by omega) s3.o ?_;rw[<- hW.o])
 go_wp2;go_ret;exact⟨by rw[show n-(j-i)=i+(n-j) by omega];rfl,HF.o _ rfl⟩
end Go.Proofs.YtcnollkkigiobaaGreat
namespace Go.Proofs.YtcnollkkigiobaaGreat
open Go Go.Deep Go.RowKit Go.Proofs.Tryz
variable {L:List ByteArray}{i:Nat}
theorem MR {key:ByteArray} (o:BI L) (hi:i<L.length) (e:gt L i=key):Ba key L=L.take i++L.drop (i+1):=by
 have m:L[i]=key:=by rw[<- e];unfold gt;rw[Uw,Ut hi];rfl
 have l:L=L.take i++key::L.drop (i+1):=by rw[<- m,List.getElem_cons_drop,List.take_append_drop]
 have j:BI (L.take i++key::L.drop (i+1)):=by rw[<- l];exact o
 have c:=List.pairwise_append.1 j;have f:=List.pairwise_cons.1 c.2.1;have s:(L.take i).filter (λk=>!(k.toList == key.toList))=L.take i:=by
  rw[List.filter_eq_self];intro x h;have a:=c.2.2 x h key (by simp);have b:x.toList≠key.toList:=λe=>by rw[e,A4] at a;cases a
  simpa using b
 have r:(L.drop (i+1)).filter (λk=>!(k.toList == key.toList))=L.drop (i+1):=by
  rw[List.filter_eq_self];intro x h;have a:=f.1 x h;have b:x.toList≠key.toList:=λe=>by rw[e,A4] at a;cases a
  simpa using b
 unfold Ba;conv=>lhs;rw[l]
 rw[List.filter_append,List.filter_cons_of_neg (by simp),s,r]
theorem P8 {key:ByteArray} (a:BI L) (hi:i<L.length) (e:gt L i=key):(Ba key L).length=L.length-1:=by rw[MR a hi e,Uz,UE,List.length_drop];omega
def RV (b n kc:Nat) (ka:Option Addr) (L:List ByteArray) (key:ByteArray) (w:World) (e:Ending) (w' : World):Prop:=
 (key∉L/\e=.returned (.bool false)/\w'=w)\/
 (key∈L/\e=.returned (.bool true)/\Sa w w' b ka/\(Ba key L).length=n-1/\∃g,ka=some (ad g 0)/\g≠b/\g<w.heap.size/\Bx w' b 206 #[iv ((n-1:Nat):Int),.slice (some (ad g 0)) (n-1) kc]/\∀j u,(Ap (Ba key L))[j]?=some u->w'.cell? (ad g (0+j))=some u)
theorem Lt (B b n kc:Nat) (J:Option Addr) (L:List ByteArray) (key:ByteArray) (w:World) (D:Bx w b 206 #[iv (n:Int),.slice J n kc]) (V:w.ownsRow B 9 1 (.slice J n kc) n (Ap L)) (Q:n=L.length) (af:n<=1000000) (ha:BI L) :
  UO 207 #[pt b,.string key] w (RV b n kc J L key w):=by
 obtain⟨a6,c6,e6,y,z⟩:=BW V Q;injection e6 with e6 e7 e8;subst e6;rw[<- Q] at y;have f:=Ae (ai D (ai V (ai Q (ai ha y.rd))));have c0:=D.cell 0;have c1:=D.cell 1;have f1:=D.frozen 1;have hl:=D.lt;simp at c0 c1;clear D V Q ha y z e7 e8 c6;go_enter func207,ntmps207;go_wp2_with fail
 refine (MF J n kc L key w f.o.2.2.2.2 f.o.2.2.1 (by omega) f.o.2.2.2.1).mono ?_;rintro e C ⟨i,ok,rfl,rfl,h1,h2,Z,R⟩;cases ok with
 | false=>
  have O:U (¬ key∈L):=λhm=>by
   obtain⟨j,M,e⟩:=List.getElem_of_mem hm;have eg:gt L j=key:=by unfold gt;rw[Uw,Ut M];exact e
   have ah:¬ j<i:=λq=>by have:=h2 j q;rw[eg,A4] at this;cases this
   by_cases t:j=i;.subst t;have:=R.2 ⟨M,eg⟩;cases this
   .have h:=D4 f.o.2.2.2.1 (show i<j by omega) M;rw[eg] at h;have s:=Z i (Uq _) (by omega);rw[h] at s;cases s
  clear h1 h2 Z R;go_wp2;go_ret;exact .inl ⟨O.o,rfl,rfl⟩
 | true=>
  obtain⟨h,s⟩:=R.1 rfl;have O:U (key∈L/\(Ba key L).length=n-1/\Ba key L=L.take i++L.drop (i+1)):=⟨by rw[<- s];exact Cu h,by rw[f.o.2.2.1];exact P8 f.o.2.2.2.1 h s,MR f.o.2.2.2.1 h s⟩;have ae:i<n:=by rw[f.o.2.2.1];exact h
  clear h1 h2 Z R h s;obtain⟨g,c,e1,l,T,ab,W,H⟩:∃g c,J=some (ad g 0)/\C.heap[g]?=some (.cells c 9 (0,0))/\n<=kc/\kc<=maxLen/\c.size=kc/\c.toList.take n=Ap L:=by
   rcases f.o.2.1.2 with ⟨q,q0⟩|⟨g,ag,c,h,s,q3,q4,q5,q6,q7⟩;.omega
   .injection h with h _ q8;subst q8;exact⟨g,c,h,q3,q4,q5,by omega,by rw[Nat.mul_one] at q7;exact q7⟩
  subst e1;have r:g≠b:=λe=>by have X:=f.o.1;unfold Bx at X;rw[<- e] at X;have t:=l.symm.trans X;injection t with t;injection t with _ t _;exact absurd t (by decide)
  have ac:=(Array.getElem?_eq_some_iff.1 l).1;have aa:kc<=9223372036854775807:=by unfold maxLen at ab;omega
  have N:U (UO 213 #[.slice (some (ad g 0)) n kc,iv (i:Int),iv ((i+1:Nat):Int)] C λe w'=>e=.returned (.slice (some (ad g 0)) (n-1) kc)/\(∀k v,(Ap (Ba key L))[k]?=some v->w'.cell? (ad g (0+k))=some v)/\C.grownBy w' (some g)):=by
   have q:=PW g 0 n kc i (i+1) c (Ap L) C l (by omega) (λk v G=>by have E:=(List.getElem?_eq_some_iff.1 G).1;rw[AF,<- f.o.2.2.1] at E;rw[UI,Bx.cell (show Bx C g 9 c from l) k];rw[<- H,List.getElem?_take,if_pos E,Array.getElem?_toList] at G;exact G) (by rw[AF,f.o.2.2.1]) (Fb L) (by omega) (by omega) T aa
   rw[show n-(i+1-i)=n-1 by omega,OL,Od,<- Bv,<- O.o.2.2] at q;exact q
  have y1:IntKind.i64.wrap ((i:Int)+1)=((i+1:Nat):Int):=by rw[Uv];omega
  clear l H W;go_wp2_with fail
  refine N.o.mono ?_;rintro e w2 ⟨rfl,F,A⟩;have m:=f.o.1.grown A (λe=>by injection e with e;exact r e);have d1:=m.cell 1;have g1:=m.frozen 1;have l2:=m.lt;simp at d1;have I:Bx (w2.setCell (ad b 1) (.slice (some (ad g 0)) (n-1) kc)) b 206 #[iv (n:Int),.slice (some (ad g 0)) (n-1) kc]:=by have q:=m.set 1 (.slice (some (ad g 0)) (n-1) kc);simpa using q
  have HX:=Ae I;have H2:=Ae (ai F A);clear F A m I c0 c1 f1 N;go_wp2_with fail
  refine (Cd b (n-1) kc _ (n:Int) _ HX.o).mono ?_;rintro e w3 ⟨rfl,rfl⟩;have HF:U (RV b n kc (some (ad g 0)) L key C (.returned (.bool true)) ((w2.setCell (ad b 1) (.slice (some (ad g 0)) (n-1) kc)).setCell (ad b 0) (iv ((n-1:Nat):Int)))):=by
   obtain⟨hc,K⟩:=H2.o;refine .inr ⟨O.o.1,rfl,⟨K.os,K.tape,K.output,?_,λk G P Y=>?_⟩,O.o.2.1,g,rfl,r,ac,?_,λj u M=>?_⟩;.have q:=K.size;simp[World.setCell];omega
   .rw[Ur _ _ _ _ P,Ur _ _ _ _ P,K.block k G (λe=>Y (by injection e with e;rw[e];rfl))]
   .have q:=HX.o.set 0 (iv ((n-1:Nat):Int));simpa using q
   .rw[World.cell?_of_block (a:=(ad g (0+j))) (w:=w2) (by rw[Ur _ _ _ _ r,Ur _ _ _ _ r])];exact hc j u M
  go_wp2;go_ret;exact HF.o
def Lp (v:Value) (key:ByteArray) (w:World) (Q:Ending->World->Prop):Prop:=
 (∃b,v=.iface 204 (pt b)/\UO 207 #[pt b,.string key] w Q)\/
 (∃b,v=.iface 174 (pt b)/\UO 190 #[pt b,.string key] w Q)
def Gz (key:ByteArray) (d:Nat) (t:Ro d) (v:Value) (bs:List Nat) (w:World) (e:Ending) (w' : World):Prop:=
 (key∉Ab d t/\e=.returned (.bool false)/\Bl w w')\/
 (key∈Ab d t/\e=.returned (.bool true)/\Fz bs w w'/\∃u b,b∈bs/\Bu key d t u/\DE (λx=>(x∈bs/\x≠b)\/w.heap.size<=x) w' b d u v)
theorem Qz (key:ByteArray) (d B:Nat) (L:List ByteArray) (v:Value) (r:List Nat) (w:World) (h:CG B w (d+1) (.inl L) v r) (l:L.length<=4) (E:BI L):Lp v key w (Gz key (d+1) (.inl L) v r w):=by
 obtain⟨b,t,kc,rfl,D,y,o,rfl⟩:=h;have s:=AS o;refine .inl ⟨b,rfl,(Lt B b L.length kc t L key w y o rfl (by omega) E).mono ?_⟩;rintro e w' (⟨j,rfl,rfl⟩|⟨j,rfl,a,c,g,rfl,m,F,f,z⟩);.exact .inl ⟨j,rfl,Up _ _⟩
 .refine .inr ⟨j,rfl,⟨a.1,a.2.1,a.2.2.1,a.2.2.2.1,λk A l=>a.2.2.2.2 k A (λe=>l (by rw[e];simp)) (λe=>l (by injection e with e;simp[<- e]))⟩,.inl (Ba key L),b,by simp,rfl,rfl,some (ad g 0),kc,by rw[c];exact f,by omega,?_⟩;refine .inr ⟨g,0,rfl,.inl ⟨by simp,m⟩,by have:=a.2.2.2.1;omega,λi C=>?_⟩;exact z i _ (Bf _ i C)
variable {S:Nat->Prop}{cp cq d g kc n p q:Nat}{cs:List Nat}{u:Value}{us:List Value}{w w':World}{x:Int}
structure NR (S:Nat->Prop) (w:World) (d b g n kc:Nat) (x:Int) (m:List (Ro (d+1))) (us:List Value) (cs:List Nat):Prop where
 box:Bx w b 179 #[iv x,.slice (some (ad g 0)) n kc]
 own:∃cur,w.heap[g]?=some (.cells cur 68 (0,0))/\n<=cur.size
 row:∀j u,us[j]?=some u->w.cell? (ad g j)=some u
 ul:us.length=n
 ml:m.length=n
 cl:cs.length=n
 nd:cs.Nodup
 o:∀c,c∈cs->¬ S c
 nb:b∉cs/\¬ S b
 ng:g∉cs/\¬ S g
 gb:g≠b
 cap:n<=kc/\kc<=9223372036854775807
 kid:∀k (h:k<m.length),∃u c,us[k]?=some u/\cs[k]?=some c/\DE S w c (d+1) m[k] u
theorem NR.at {b:Nat} {m:List (Ro (d+1))} (h:NR S w d b g n kc x m us cs) (k:Nat) (r:k<n):∃t u c,m[k]?=some t/\us[k]?=some u/\cs[k]?=some c/\w.cell? (ad g k)=some u/\DE S w c (d+1) t u/\Qk u (An t) w/\¬ S c/\c<w.heap.size:=by
 have j:k<m.length:=by rw[h.ml];exact r
 obtain⟨u,c,l,e,a⟩:=h.kid k j;refine⟨m[k],u,c,Ut j,l,e,h.row k u l,a,a.szi,h.o c (List.mem_of_getElem? e),?_⟩;rcases a.form with ⟨_,_,_,_,f⟩|⟨_,_,_,_,f⟩ <;> exact f.lt
theorem Gu {b:Nat} {m:List (Ro (d+1))} (h:NR S w d b g n kc x m us cs) (s:n<=1000) (j:Int) (a:j<0\/(n:Int)<=j) :
  UO 198 #[pt b,iv j] w λe w'=>e=.returned (.bool false)/\w'=w:=by
 have k:=h.box.cell 1;simp at k;have r:=h.box.lt;clear h;rcases a with a|a
 .have c:¬ (0:Int)<=j:=by omega
  have f:=decide_eq_false c;go_enter func198,ntmps198;go_wp2;go_ret;exact⟨rfl,rfl⟩
 .have c:(0:Int)<=j:=by omega
  have f:=decide_eq_true c;have l:¬ j<(n:Int):=by omega
  have o:=decide_eq_false l;go_enter func198,ntmps198;go_wp2;go_ret;exact⟨rfl,rfl⟩
theorem DO {b:Nat} {m:List (Ro (d+1))} (h:NR S w d b g n kc x m us cs) (J:n<=1000) (j:Nat) (y:j<n) (t:Ro (d+1)) (s:m[j]?=some t) :
  UO 198 #[pt b,iv (j:Int)] w λe w'=>e=.returned (.bool (decide (2<An t)))/\w'=w:=by
 obtain⟨N,u,c,k,M,H,K,v,r,_⟩:=h.at j y;rw[s] at k;injection k with k;subst k;have z:=h.box.cell 1;simp at z;have I:=h.box.lt;have A:(0:Int)<=(j:Int):=by omega
 have C:=decide_eq_true A;have E:(j:Int)<(n:Int):=by omega
 have F:=decide_eq_true E;obtain⟨sz,a⟩:=gn (An t);rw[<- a] at r ⊢;clear h v a s;rcases r with ⟨G,rfl,f⟩|⟨G,rfl,f⟩
 .have l:=Ae f;clear f;go_enter func198,ntmps198;go_wp2_with fail
  (with_reducible refine l.o.mono ?_)
  rintro e D ⟨rfl,rfl⟩;go_wp2;go_ret;exact⟨by simp;omega,rfl⟩
 .have l:=Ae f;clear f;go_enter func198,ntmps198;go_wp2_with fail
  (with_reducible refine l.o.mono ?_)
  rintro e D ⟨rfl,rfl⟩;go_wp2;go_ret;exact⟨by simp;omega,rfl⟩
theorem NR.two {b:Nat} {m:List (Ro (d+1))} (h:NR S w d b g n kc x m us cs) (z:cs[p]?=some cp) (v:cs[q]?=some cq) (j:D9 w w' cp cq) (k:Nat) (H:k<m.length) (J:k≠p) (D:k≠q):∃u,us[k]?=some u/\AP (λy=>S y\/y∈cs\/w.heap.size<=y) w' (d+1) m[k] u:=by
 obtain⟨u,c,I,s,K⟩:=h.kid k H;have t:=List.mem_of_getElem? s;have C:∀{r l:Nat},cs[r]?=some l->k≠r->c≠l:=λ{r l} G f e=>by obtain⟨N,F⟩:=List.getElem?_eq_some_iff.1 s;obtain⟨M,E⟩:=List.getElem?_eq_some_iff.1 G;exact f ((List.getElem_inj h.nd).1 (by rw[F,E,e]))
 refine⟨u,I,AP.keep j.2.2.2.1 (λy a A=>?_) (K.tao (h.o c t))⟩;rcases a with a|rfl;.exact⟨.inl a,j.2.2.2.2 y A (λe=>h.o cp (List.mem_of_getElem? z) (e ▸ a)) (λe=>h.o cq (List.mem_of_getElem? v) (e ▸ a))⟩
 .exact⟨.inr (.inl t),j.2.2.2.2 y A (C z J) (C v D)⟩
theorem NR.set2 {b:Nat} {m:List (Ro (d+1))} (h:NR S w d b g n kc x m us cs) (D:p≠q) (r:cs[p]?=some cp) (o:cs[q]?=some cq) (E:D9 w w' cp cq) {A C:Ro (d+1)} {v:Value} (j:us[p]?=some u) (z:us[q]?=some v) (F:AP (λy=>S y\/y∈cs\/w.heap.size<=y) w' (d+1) A u) (f:AP (λy=>S y\/y∈cs\/w.heap.size<=y) w' (d+1) C v):Ct (λy=>S y\/y∈cs\/w.heap.size<=y) w' (d+1) ((m.set p A).set q C) us:=by
 refine⟨by rw[List.length_set,List.length_set,h.ul,h.ml],λk a=>?_⟩;rw[List.length_set,List.length_set] at a;by_cases e:k=q;.subst e;exact⟨v,z,by rw[List.getElem_set_self];exact f⟩
 .by_cases c:k=p;.subst c;exact⟨u,j,by rw[List.getElem_set_ne (by omega),List.getElem_set_self];exact F⟩
  .obtain⟨t,s,l⟩:=h.two r o E k a c e;exact⟨t,s,by rw[List.getElem_set_ne (by omega),List.getElem_set_ne (by omega)];exact l⟩
theorem NR.del {b:Nat} {m:List (Ro (d+1))} (h:NR S w d b g n kc x m us cs) (C:p+1<n) (l:cs[p]?=some cp) (j:cs[p+1]?=some cq) (o:D9 w w' cp cq) {A:Ro (d+1)} (r:us[p]?=some u) (z:AP (λy=>S y\/y∈cs\/w.heap.size<=y) w' (d+1) A u):Ct (λy=>S y\/y∈cs\/w.heap.size<=y) w' (d+1) (m.take p++A::m.drop (p+2)) (us.take (p+1)++us.drop (p+2)):=by
 have s:=h.ul;have D:=h.ml;refine⟨by simp;omega,λk t=>?_⟩;rw[Uz,UE,UJ,List.length_drop] at t;by_cases E:k<p;.obtain⟨f,c,a⟩:=h.two l j o k (by omega) (by omega) (by omega);refine⟨f,by rw[List.getElem?_append_left (by rw[UE];omega),List.getElem?_take,if_pos (by omega)];exact c,?_⟩;rw[List.getElem_append_left (by rw[UE];omega),List.getElem_take];exact a
 .by_cases v:k=p
  .subst v;refine⟨u,by rw[List.getElem?_append_left (by rw[UE];omega),List.getElem?_take,if_pos (by omega)];exact r,?_⟩;have e:(m.take k++A::m.drop (k+2))[k]?=some A:=by rw[List.getElem?_append_right (by rw[UE];omega),UE,show k-min k m.length=0 by omega];rfl
   rw[(List.getElem?_eq_some_iff.1 e).2];exact z
  .obtain⟨f,c,a⟩:=h.two l j o (k+1) (by omega) (by omega) (by omega);refine⟨f,by rw[List.getElem?_append_right (by rw[UE];omega),UE,List.getElem?_drop,show p+2+(k-min (p+1) us.length)=k+1 by omega];exact c,?_⟩;have e:(m.take p++A::m.drop (p+2))[k]?=some (m[k+1]'(by omega)):=by rw[List.getElem?_append_right (by rw[UE];omega),UE,show k-min p m.length=(k-p-1)+1 by omega,List.getElem?_cons_succ,List.getElem?_drop,show p+2+(k-p-1)=k+1 by omega];exact Ut _
   rw[(List.getElem?_eq_some_iff.1 e).2];exact a
def KJ (S:Nat->Prop) (w:World) (d b g kc:Nat) (x:Int) (M:List (Ro (d+1))) (cs:List Nat) (e:Ending) (w' : World):Prop:=
 e=.returned (.tuple #[])/\Fz (b::g::cs) w w'/\∃ys,Bx w' b 179 #[iv x,.slice (some (ad g 0)) M.length kc]/\M.length<=kc/\(∀j u,ys[j]?=some u->w'.cell? (ad g j)=some u)/\Ct (λy=>S y\/y∈cs\/w.heap.size<=y) w' (d+1) M ys
theorem Kz {a:List Nat} (h:D9 w w' p q) (f:p∈a) (c:q∈a):Fz a w w':=⟨h.1,h.2.1,h.2.2.1,h.2.2.2.1,λk j b=>h.2.2.2.2 k j (λe=>b (e ▸ f)) (λe=>b (e ▸ c))⟩
theorem NR.below {S:Nat->Prop} {w w' : World} {d b g n kc:Nat} {x:Int} {m:List (Ro (d+1))} {us:List Value} {cs:List Nat} (h:NR S w d b g n kc x m us cs) (a:Bl w w'):NR S w' d b g n kc x m us cs:=by
 obtain⟨f,t,l⟩:=h.own;have e:=(Array.getElem?_eq_some_iff.1 t).1;refine⟨h.box.below a,⟨f,(a.block g e).trans t,l⟩,λj u z=>(a.cell (p:=(ad g j)) e).trans (h.row j u z),h.ul,h.ml,h.cl,h.nd,h.o,h.nb,h.ng,h.gb,h.cap,λk D=>?_⟩;obtain⟨u,c,E,A,v⟩:=h.kid k D;have r:c<w.heap.size:=by rcases v.form with ⟨_,_,_,_,s⟩|⟨_,_,_,_,s⟩ <;> exact s.lt
 exact⟨u,c,E,A,v.keep a.size (a.block c r) (λy C r=>⟨C,a.block y r⟩)⟩
theorem NR.ne {b:Nat} {m:List (Ro (d+1))} (h:NR S w d b g n kc x m us cs) {p q cp cq:Nat} (k:cs[p]?=some cp) (j:cs[q]?=some cq) (a:p≠q):cp≠cq:=λe=>by
 obtain⟨o,f⟩:=List.getElem?_eq_some_iff.1 k
 obtain⟨l,c⟩:=List.getElem?_eq_some_iff.1 j
 exact a ((List.getElem_inj h.nd).1 (by rw[f,c,e]))
theorem NR.one {b:Nat} {m:List (Ro (d+1))} (h:NR S w d b g n kc x m us cs):∀v∈us,v.oneCell'=true:=by intro v j;obtain⟨k,l,e⟩:=List.getElem_of_mem j;have o:=h.ul;have r:=h.ml;obtain⟨u,c,a,_,f⟩:=h.kid k (by omega);rw[Ut l,e] at a;injection a with a;subst a;rcases f.form with ⟨rfl,_⟩|⟨rfl,_⟩ <;> rfl
theorem Ir {w':World} {z c:Nat} {t:Ro d} {v:Value} (b:c∈cs) (h:AP (λy=>S y\/y=c\/z<=y) w' d t v):AP (λy=>S y\/y∈cs\/z<=y) w' d t v:=h.wide (λy a _=>by
 rcases a with q|rfl|q
 .exact .inl q
 .exact .inr (.inl b)
 .exact .inr (.inr q))
theorem Jt {b:Nat} {m:List (Ro (d+1))} (z:NR S w d b g n kc x m us cs) (hn:n<=1000) (p:Nat) (ac:p+1<n) (t u:Ro (d+1)) (ht:m[p]?=some t) (hu:m[p+1]?=some u) (h:Nat) (hU:AE (d+1) t h) (hV:AE (d+1) u h) (h0:1<=An t) (C:(Ab (d+1) t).length+(Ab (d+1) u).length<=1099511627776) :
  UO 199 #[pt b,iv (p:Int)] w (KJ S w d b g kc x (m.take p++Ax t u::m.drop (p+2)) cs):=by
 have hD:=z.below (Up _ w).drew;obtain⟨t',H,P,q1,q2,q3,q4,q5,q6,q7,q8⟩:=hD.at p (by omega);rw[ht] at q1;injection q1 with q1;subst q1;obtain⟨u',R,c2,r1,r2,r3,r4,r5,r6,r7,r8⟩:=hD.at (p+1) ac;rw[hu] at r1;injection r1 with r1;subst r1;have a0:=z.ne q3 r3 (by omega);have aq:=hU.le;have ax:=hV.le;obtain⟨G,V⟩:∃G,G=An t:=⟨_,rfl⟩;obtain⟨F,Y⟩:∃F,F=An u:=⟨_,rfl⟩;rw[<- V] at q6 aq h0;rw[<- Y] at r6 ax;have al:U (Qk H G w.drew):=q6;have ap:U (Qk R F w.drew):=r6;have am:U (UO 137 #[H,R,iv (IntKind.i64.wrap ((G:Int)+(F:Int)))] w.drew λe w'=>e=.returned (.tuple #[])/\D9 w.drew w' P c2/\AP (λy=>S y\/y=P\/w.drew.heap.size<=y) w' (d+1) (Ax t u) H):=by rw[show IntKind.i64.wrap ((G:Int)+(F:Int))=((G+F:Nat):Int) by rw[Uv];omega];exact Mh d h P c2 (G+F) t u H R S w.drew q5 r5 hU hV q7 r7 a0 (by omega) (by rw[V,Y]) C
 have HD:U (NR S w d b g n kc x m us cs/\NR S w.drew d b g n kc x m us cs):=⟨z,hD⟩;have D:U (us[p]?=some H/\cs[p]?=some P/\us[p+1]?=some R/\cs[p+1]?=some c2):=⟨q2,q3,r2,r3⟩;have X:=hD.box.cell 1;simp at X;have a8:=hD.box.lt;have be:IntKind.i64.wrap ((p:Int)+1)=((p+1:Nat):Int):=by rw[Uv];omega
 have a1:IntKind.i64.wrap ((p:Int)+2)=(p:Int)+2:=by rw[Uv];omega
 have i0:(0:Int)<=(p:Int):=by omega
 have i1:(p:Int)<(n:Int):=by omega
 have ba:(0:Int)<=((p+1:Nat):Int):=by omega
 have bb:(0:Int)<=(p:Int)+1:=by omega
 have bc:((p+1:Nat):Int)<(n:Int):=by omega
 have a5:(p:Int)+1<(n:Int):=by omega
 clear z hD q2 q3 q5 q6 r2 r3 r5 r6 ht hu V Y hU hV C;go_enter func199,ntmps199;go_upto_region 0 with fail
 refine Aj (S:=λw'=>w'.cell? (ad b 1)=some (.slice (some (ad g 0)) n kc)/\w'.cell? (ad g p)=some H/\w'.cell? (ad g (p+1))=some R) 33 (by kernel_rfl) ⟨X,q4,r4⟩ (λc=>?_);refine tz 0 rfl ?_;refine tz 1 rfl ?_;refine tz 2 rfl ?_;refine tz 3 rfl ?_;refine tz 4 rfl ?_;refine tz 5 rfl ?_;refine tz 6 rfl ?_;refine tz 7 rfl ?_;refine tz 8 rfl ?_;refine tz 9 rfl ?_;refine tz 10 rfl ?_;refine tz 11 rfl ?_;refine tz 12 rfl ?_;refine tz 13 rfl ?_;refine tz 14 rfl ?_;refine tz 15 rfl ?_;refine tz 16 rfl ?_;refine tz 17 rfl ?_;refine tz 18 rfl ?_;refine tz 19 rfl ?_;refine tz 20 rfl ?_;refine tz 21 rfl ?_;refine tz 23 rfl ?_;refine tz 24 rfl ?_;refine tz 25 rfl ?_;refine tz 26 rfl ?_;refine tz 27 rfl ?_;refine tz 28 rfl ?_;refine tz 29 rfl ?_;refine tz 30 rfl ?_;refine At 22 rfl (λK Q=>?_);refine Fo (by rfl) 25 _ H G (by rfl) (by rfl) (λ_ _=>by kernel_rfl) (λ_ _=>by kernel_rfl) al.o ?_;refine tL Q (by exact c) ?_;clear Q K c;intro c;try simp only[Ay]
 refine At 31 rfl (λK Q=>?_);refine Fo (by rfl) 34 _ R F (by rfl) (by rfl) (λ_ _=>by kernel_rfl) (λ_ _=>by kernel_rfl) ap.o ?_;refine tL Q (by exact c) ?_;clear Q K c;intro c;try simp only[Ay]
 refine tz 32 rfl ?_;refine At 33 rfl (λK Q=>?_);refine Gv (by rfl) 137 10 18 36 _ (by rfl) H R (iv (IntKind.i64.wrap ((G:Int)+(F:Int)))) (by rfl) (by rfl) (by rfl) (λ_ _=>by rfl) ?_;(with_reducible refine am.o.mono ?_)
 rintro e A ⟨rfl,E,ae⟩;refine⟨_,rfl,?_⟩;refine tM Q ?_;clear Q K;have f:U (NR S w d b g n kc x m us cs/\D9 w A P c2):=⟨HD.o.1,E⟩;obtain⟨aa,T,au⟩:=f.o.1.own;have Z:=(Array.getElem?_eq_some_iff.1 T).1;have M:g≠P:=λe=>f.o.1.ng.1 (e ▸ List.mem_of_getElem? D.o.2.1);have I:g≠c2:=λe=>f.o.1.ng.1 (e ▸ List.mem_of_getElem? D.o.2.2.2);have ab:b≠P:=λe=>f.o.1.nb.1 (e ▸ List.mem_of_getElem? D.o.2.1);have ao:b≠c2:=λe=>f.o.1.nb.1 (e ▸ List.mem_of_getElem? D.o.2.2.2);have N:A.heap[g]?=some (.cells aa 68 (0,0)):=(E.2.2.2.2 g Z M I).trans T;have r:Bx A b 179 #[iv x,.slice (some (ad g 0)) n kc]:=f.o.1.box.of_block (E.2.2.2.2 b f.o.1.box.lt ab ao);have O:=f.o.1.cap;have ah:U (UO 201 #[.slice (some (ad g 0)) n kc,iv ((p:Int)+1),iv ((p:Int)+2)] A λe w'=>e=.returned (.slice (some (ad g 0)) (n-1) kc)/\(∀k v,(us.take (p+1)++us.drop (p+2))[k]?=some v->w'.cell? (ad g (0+k))=some v)/\A.grownBy w' (some g)):=by
  have q:=Qj g 0 n kc (p+1) (p+1+1) aa us A N (by omega) (λk v hk=>by rw[UI,World.cell?_of_block (a:=(ad g k)) (E.2.2.2.2 g Z M I)];exact f.o.1.row k v hk) f.o.1.ul f.o.1.one (by omega) (by omega) O.1 O.2
  rw[show n-(p+1+1-(p+1))=n-1 by omega,show ((p+1:Nat):Int)=(p:Int)+1 by omega,show ((p+1+1:Nat):Int)=(p:Int)+2 by omega] at q;exact q
 have ar:U (AP (λy=>S y\/y=P\/w.heap.size<=y) A (d+1) (Ax t u) H):=ae;have af:U (Bx A b 179 #[iv x,.slice (some (ad g 0)) n kc]):=r;have d1:=r.cell 1;simp at d1;have dl:=r.lt;have df:=r.frozen 1;clear c ae T N au r am al ap X q4 r4;go_wp2_with fail
 (with_reducible refine ah.o.mono ?_)
 rintro e w3 ⟨rfl,an,s⟩;have ag:=f.o.1.gb;have l:Bx w3 b 179 #[iv x,.slice (some (ad g 0)) n kc]:=af.o.grown s (λe=>by injection e with e;exact ag e);have az:=l.cell 1;simp at az;have a3:=l.lt;have a6:=l.frozen 1;have HF:U (KJ S w d b g kc x (m.take p++Ax t u::m.drop (p+2)) cs (.returned (.tuple #[])) (w3.setCell (ad b 1) (.slice (some (ad g 0)) (n-1) kc))):=by
  have z:=f.o.1;have hf:=f.o.2;have a4:=z.ml;have a2:=z.ul;have aw:(m.take p++Ax t u::m.drop (p+2)).length=n-1:=by simp;omega
  have aj:=List.mem_of_getElem? D.o.2.1;have av:=List.mem_of_getElem? D.o.2.2.2;have J:∀y,y<A.heap.size->y≠g->y≠b->(w3.setCell (ad b 1) (.slice (some (ad g 0)) (n-1) kc)).heap[y]?=A.heap[y]?:=λy W h1 h2=>by rw[Ur _ _ _ _ h2];exact s.block y W (λe=>h1 (by cases e;rfl))
  have hz:A.heap.size<=(w3.setCell (ad b 1) (.slice (some (ad g 0)) (n-1) kc)).heap.size:=by have:=s.size;simp[World.setCell];omega
  have ay:Fz (b::g::cs) w (w3.setCell (ad b 1) (.slice (some (ad g 0)) (n-1) kc)):=by have f1:Fz (b::g::cs) w A:=Kz hf (by simp[aj]) (by simp[av]);refine f1.trans ⟨s.os,s.tape,s.output,hz,λy W hn=>J y W (λe=>hn (by simp[e])) (λe=>hn (by simp[e]))⟩
  refine⟨rfl,ay,us.take (p+1)++us.drop (p+2),?_,by have:=z.cap;omega,λj u hj=>?_,?_⟩;.rw[aw];have q:=l.set 1 (.slice (some (ad g 0)) (n-1) kc);simpa using q
  .have q:=an j u hj;rw[UI] at q;rw[World.cell?_of_block (a:=(ad g j)) (Ur _ _ _ _ ag)];exact q
  .have ak:=z.del ac D.o.2.1 D.o.2.2.2 hf D.o.1 (Ir aj ar.o);have bd:=hf.2.2.2.1;have a7:=Z;have a9:=z.box.lt;refine ak.keep hz (λy W hl=>⟨W,J y hl (λe=>?_) (λe=>?_)⟩)
   .subst e;rcases W with q|q|q;.exact z.ng.2 q
    .exact z.ng.1 q
    .omega
   .subst e;rcases W with q|q|q;.exact z.nb.2 q
    .exact z.nb.1 q
    .omega
 clear an s l;go_wp2;go_end0
 exact HF.o
theorem Kh {b:Nat} {m:List (Ro (d+1))} (f:NR S w d b g n kc x m us cs) (hn:n<=1000) (i:Nat) (t u:Ro (d+1)) (au:0<i) (ao:i<n) (ht:m[i-1]?=some t) (hu:m[i]?=some u) (h:Nat) (N:AE (d+1) t h) (O:AE (d+1) u h) (V:2<An t) (aa:1<=An u) (r:(Ab (d+1) t).length+(Ab (d+1) u).length<=1099511627776) :
  UO 195 #[pt b,iv (i:Int)] w (KJ S w d b g kc x ((m.set i (Ax (AH (An t-1) (An t) t) u)).set (i-1) (AH 0 (An t-1) t)) cs):=by
 have ac:U (UO 198 #[pt b,iv ((i-1:Nat):Int)] w λe w'=>e=.returned (.bool true)/\w'=w):=by have q:=DO f hn (i-1) (by omega) t ht;rw[decide_eq_true V] at q;exact q
 have J:=f.below (Up _ w).drew;obtain⟨t',F,G,q1,q2,q3,q4,q5,q6,q7,q8⟩:=J.at (i-1) (by omega);rw[ht] at q1;injection q1 with q1;subst q1;obtain⟨u',M,H,r1,r2,r3,r4,r5,r6,r7,r8⟩:=J.at (i) (by omega);rw[hu] at r1;injection r1 with r1;subst r1;have aj:=f.ne q3 r3 (by omega);have ab:=N.le;have af:=O.le;obtain⟨l,z⟩:∃l,l=An t:=⟨_,rfl⟩;obtain⟨Z,A⟩:∃Z,Z=An u:=⟨_,rfl⟩;rw[<- z] at q6 ab V;rw[<- A] at r6 af aa;have ag:U (Qk F l w.drew):=q6;have ah:U (UO 137 #[F,M,iv (IntKind.i64.wrap ((l:Int)-1))] w.drew λe w'=>e=.returned (.tuple #[])/\D9 w.drew w' G H/\AP (λy=>S y\/y=G\/w.drew.heap.size<=y) w' (d+1) (AH 0 (l-1) (Ax t u)) F/\AP (λy=>S y\/y=H\/w.drew.heap.size<=y) w' (d+1) (AH (l-1) (l+Z) (Ax t u)) M):=by rw[show IntKind.i64.wrap ((l:Int)-1)=((l-1:Nat):Int) by rw[Uv];omega];have q:=JQ d h G H (l-1) t u F M S w.drew q5 r5 N O q7 r7 aj (by omega) (by omega) r;rw[<- z,<- A] at q;exact q
 have HD:U (NR S w d b g n kc x m us cs/\NR S w.drew d b g n kc x m us cs/\l=An t/\Z=An u/\AE (d+1) t h/\AE (d+1) u h):=⟨f,J,z,A,N,O⟩;have I:U (us[i-1]?=some F/\cs[i-1]?=some G/\us[i]?=some M/\cs[i]?=some H):=⟨q2,q3,r2,r3⟩;have W:=J.box.cell 1;simp at W;have aq:=J.box.lt;clear J q2 q3 q5 q6 r2 r3 r5 r6 ht hu z A r;have aw:IntKind.i64.wrap ((i:Int)-1)=((i-1:Nat):Int):=by rw[Uv];omega
 have i0:(0:Int)<=(i:Int):=by omega
 have i1:(i:Int)<(n:Int):=by omega
 have ar:(0:Int)<=((i-1:Nat):Int):=by omega
 have av:((i-1:Nat):Int)<(n:Int):=by omega
 clear f N O;go_enter func195,ntmps195;go_wp2_with fail
 (with_reducible refine ac.o.mono ?_)
 rintro e w0 ⟨rfl,ap⟩;subst w0;go_upto_region 2 with fail
 refine Aj (S:=λw'=>w'.cell? (ad b 1)=some (.slice (some (ad g 0)) n kc)/\w'.cell? (ad g (i-1))=some F/\w'.cell? (ad g i)=some M) 25 (by kernel_rfl) ⟨W,q4,r4⟩ (λc=>?_);refine tz 0 rfl ?_;refine tz 1 rfl ?_;refine tz 2 rfl ?_;refine tz 3 rfl ?_;refine tz 4 rfl ?_;refine tz 5 rfl ?_;refine tz 6 rfl ?_;refine tz 7 rfl ?_;refine tz 8 rfl ?_;refine tz 9 rfl ?_;refine tz 10 rfl ?_;refine tz 11 rfl ?_;refine tz 12 rfl ?_;refine tz 13 rfl ?_;refine tz 14 rfl ?_;refine tz 15 rfl ?_;refine tz 16 rfl ?_;refine tz 17 rfl ?_;refine tz 18 rfl ?_;refine tz 19 rfl ?_;refine tz 20 rfl ?_;refine tz 21 rfl ?_;refine tz 22 rfl ?_;refine At 23 rfl (λK Y=>?_);refine Fo (by rfl) 36 _ F l (by rfl) (by rfl) (λ_ _=>by kernel_rfl) (λ_ _=>by kernel_rfl) ag.o ?_;refine tL Y (by exact c) ?_;clear Y K c;intro c;try simp only[Ay]
 refine tz 24 rfl ?_;refine At 25 rfl (λK Y=>?_);refine Gv (by rfl) 137 21 28 38 _ (by rfl) F M (iv (IntKind.i64.wrap ((l:Int)-1))) (by rfl) (by rfl) (by rfl) (λ_ _=>by rfl) ?_;(with_reducible refine ah.o.mono ?_)
 rintro e w2 ⟨rfl,Q,C,D⟩;refine⟨_,rfl,?_⟩;refine tM Y ?_;clear Y K;have HF:U (KJ S w d b g kc x ((m.set i (Ax (AH (An t-1) (An t) t) u)).set (i-1) (AH 0 (An t-1) t)) cs (.returned (.tuple #[])) w2):=by
  obtain⟨f,_,e1,e2,N,O⟩:=HD.o;have v:=List.mem_of_getElem? I.o.2.1;have s:=List.mem_of_getElem? I.o.2.2.2;have E:D9 w w2 G H:=Q;obtain⟨am,ae,an⟩:=f.own;have al:=(Array.getElem?_eq_some_iff.1 ae).1;have T:g≠G:=λe=>f.ng.1 (e ▸ v);have R:g≠H:=λe=>f.ng.1 (e ▸ s);have P:b≠G:=λe=>f.nb.1 (e ▸ v);have X:b≠H:=λe=>f.nb.1 (e ▸ s);have hl:((m.set i (Ax (AH (An t-1) (An t) t) u)).set (i-1) (AH 0 (An t-1) t)).length=n:=by rw[List.length_set,List.length_set,f.ml]
  have cl:=Pp N O (by omega);refine⟨rfl,Kz E (by simp[v]) (by simp[s]),us,?_,by rw[hl];exact f.cap.1,λj u hj=>?_,?_⟩;.rw[hl];exact f.box.of_block (E.2.2.2.2 b f.box.lt P X)
  .rw[World.cell?_of_block (a:=(ad g j)) (E.2.2.2.2 g al T R)];exact f.row j u hj
  .have ak:=f.set2 (show i≠i-1 by omega) I.o.2.2.2 I.o.2.1 ⟨E.1,E.2.1,E.2.2.1,E.2.2.2.1,λk hk h1 h2=>E.2.2.2.2 k hk h2 h1⟩ I.o.2.2.1 I.o.1 (Ir s D) (Ir v C);rw[e1,e2,cl.1,cl.2] at ak;exact ak
 clear c C D Q;go_wp2;go_end0
 exact HF.o
theorem Jx {b:Nat} {m:List (Ro (d+1))} (f:NR S w d b g n kc x m us cs) (hn:n<=1000) (i:Nat) (t u:Ro (d+1)) (ac:U (UO 198 #[pt b,iv ((i:Int)-1)] w λe w'=>e=.returned (.bool false)/\w'=w)) (av:i+1<n) (ht:m[i]?=some t) (hu:m[i+1]?=some u) (h:Nat) (J:AE (d+1) t h) (M:AE (d+1) u h) (ag:1<=An t) (Q:2<An u) (l:(Ab (d+1) t).length+(Ab (d+1) u).length<=1099511627776) :
  UO 195 #[pt b,iv (i:Int)] w (KJ S w d b g kc x ((m.set i (Ax t (AH 0 1 u))).set (i+1) (AH 1 (An u) u)) cs):=by
 have ab:U (UO 198 #[pt b,iv ((i:Int)+1)] w λe w'=>e=.returned (.bool true)/\w'=w):=by have q:=DO f hn (i+1) (by omega) u hu;rw[decide_eq_true Q] at q;exact q
 have H:=f.below (Up _ w).drew;obtain⟨t',D,E,Y,q2,q3,q4,q5,q6,q7,q8⟩:=H.at (i) (by omega);rw[ht] at Y;injection Y with Y;subst Y;obtain⟨u',I,F,r1,r2,r3,r4,r5,r6,r7,r8⟩:=H.at (i+1) (by omega);rw[hu] at r1;injection r1 with r1;subst r1;have an:=f.ne q3 r3 (by omega);have aa:=J.le;have ah:=M.le;obtain⟨k,v⟩:∃k,k=An t:=⟨_,rfl⟩;obtain⟨X,z⟩:∃X,X=An u:=⟨_,rfl⟩;rw[<- v] at q6 aa ag;rw[<- z] at r6 ah Q;have aj:U (Qk D k w.drew):=q6;have al:U (UO 137 #[D,I,iv (IntKind.i64.wrap ((k:Int)+1))] w.drew λe w'=>e=.returned (.tuple #[])/\D9 w.drew w' E F/\AP (λy=>S y\/y=E\/w.drew.heap.size<=y) w' (d+1) (AH 0 (k+1) (Ax t u)) D/\AP (λy=>S y\/y=F\/w.drew.heap.size<=y) w' (d+1) (AH (k+1) (k+X) (Ax t u)) I):=by rw[show IntKind.i64.wrap ((k:Int)+1)=((k+1:Nat):Int) by rw[Uv];omega];have q:=JQ d h E F (k+1) t u D I S w.drew q5 r5 J M q7 r7 an (by omega) (by omega) l;rw[<- v,<- z] at q;exact q
 have HD:U (NR S w d b g n kc x m us cs/\NR S w.drew d b g n kc x m us cs/\k=An t/\X=An u/\AE (d+1) t h/\AE (d+1) u h):=⟨f,H,v,z,J,M⟩;have G:U (us[i]?=some D/\cs[i]?=some E/\us[i+1]?=some I/\cs[i+1]?=some F):=⟨q2,q3,r2,r3⟩;have T:=H.box.cell 1;simp at T;have aw:=H.box.lt;clear H q2 q3 q5 q6 r2 r3 r5 r6 ht hu v z l;have a0:IntKind.i64.wrap ((i:Int)+1)=((i+1:Nat):Int):=by rw[Uv];omega
 have i0:(0:Int)<=(i:Int):=by omega
 have i1:(i:Int)<(n:Int):=by omega
 have ax:(0:Int)<=((i+1:Nat):Int):=by omega
 have ay:(0:Int)<=(i:Int)+1:=by omega
 have aq:IntKind.i64.wrap ((i:Int)-1)=(i:Int)-1:=by rw[Uv];omega
 have az:((i+1:Nat):Int)<(n:Int):=by omega
 have ar:(i:Int)+1<(n:Int):=by omega
 clear f J M;go_enter func195,ntmps195;go_wp2_with fail
 (with_reducible refine ac.o.mono ?_)
 rintro e w0 ⟨rfl,af⟩;subst w0;go_wp2_with fail
 (with_reducible refine ab.o.mono ?_)
 rintro e am ⟨rfl,af⟩;subst am;go_upto_region 4 with fail
 refine Aj (S:=λw'=>w'.cell? (ad b 1)=some (.slice (some (ad g 0)) n kc)/\w'.cell? (ad g i)=some D/\w'.cell? (ad g (i+1))=some I) 24 (by kernel_rfl) ⟨T,q4,r4⟩ (λc=>?_);refine tz 0 rfl ?_;refine tz 1 rfl ?_;refine tz 2 rfl ?_;refine tz 3 rfl ?_;refine tz 4 rfl ?_;refine tz 5 rfl ?_;refine tz 6 rfl ?_;refine tz 7 rfl ?_;refine tz 8 rfl ?_;refine tz 9 rfl ?_;refine tz 10 rfl ?_;refine tz 11 rfl ?_;refine tz 12 rfl ?_;refine tz 13 rfl ?_;refine tz 14 rfl ?_;refine tz 15 rfl ?_;refine tz 16 rfl ?_;refine tz 17 rfl ?_;refine tz 18 rfl ?_;refine tz 19 rfl ?_;refine tz 20 rfl ?_;refine tz 21 rfl ?_;refine At 22 rfl (λK W=>?_);refine Fo (by rfl) 66 _ D k (by rfl) (by rfl) (λ_ _=>by kernel_rfl) (λ_ _=>by kernel_rfl) aj.o ?_;refine tL W (by exact c) ?_;clear W K c;intro c;try simp only[Ay]
 refine tz 23 rfl ?_;refine At 24 rfl (λK W=>?_);refine Gv (by rfl) 137 51 59 68 _ (by rfl) D I (iv (IntKind.i64.wrap ((k:Int)+1))) (by rfl) (by rfl) (by rfl) (λ_ _=>by rfl) ?_;(with_reducible refine al.o.mono ?_)
 rintro e w2 ⟨rfl,O,A,C⟩;refine⟨_,rfl,?_⟩;refine tM W ?_;clear W K;have HF:U (KJ S w d b g kc x ((m.set i (Ax t (AH 0 1 u))).set (i+1) (AH 1 (An u) u)) cs (.returned (.tuple #[])) w2):=by
  obtain⟨f,_,e1,e2,J,M⟩:=HD.o;have s:=List.mem_of_getElem? G.o.2.1;have r:=List.mem_of_getElem? G.o.2.2.2;have Z:D9 w w2 E F:=O;obtain⟨ap,ae,au⟩:=f.own;have ao:=(Array.getElem?_eq_some_iff.1 ae).1;have R:g≠E:=λe=>f.ng.1 (e ▸ s);have P:g≠F:=λe=>f.ng.1 (e ▸ r);have N:b≠E:=λe=>f.nb.1 (e ▸ s);have V:b≠F:=λe=>f.nb.1 (e ▸ r);have hl:((m.set i (Ax t (AH 0 1 u))).set (i+1) (AH 1 (An u) u)).length=n:=by rw[List.length_set,List.length_set,f.ml]
  have cl:=OQ J M (by omega);refine⟨rfl,Kz Z (by simp[s]) (by simp[r]),us,?_,by rw[hl];exact f.cap.1,λj u hj=>?_,?_⟩;.rw[hl];exact f.box.of_block (Z.2.2.2.2 b f.box.lt N V)
  .rw[World.cell?_of_block (a:=(ad g j)) (Z.2.2.2.2 g ao R P)];exact f.row j u hj
  .have ak:=f.set2 (show i≠i+1 by omega) G.o.2.1 G.o.2.2.2 Z G.o.1 G.o.2.2.1 (Ir s A) (Ir r C);rw[e1,e2,cl.1,cl.2] at ak;exact ak
 clear c A C O;go_wp2;go_end0
 exact HF.o
theorem Gk {b:Nat} {m:List (Ro (d+1))} (D:NR S w d b g n kc x m us cs) (M:n<=1000) (i:Nat) (t u:Ro (d+1)) (r:U (UO 198 #[pt b,iv ((i:Int)-1)] w λe w'=>e=.returned (.bool false)/\w'=w)) (l:U (UO 198 #[pt b,iv ((i:Int)+1)] w λe w'=>e=.returned (.bool false)/\w'=w)) (G:i<n) (p:Nat) (H:p=i-1) (y:p+1<n) (E:m[p]?=some t) (z:m[p+1]?=some u) (h:Nat) (A:AE (d+1) t h) (C:AE (d+1) u h) (f:1<=An t) (a:(Ab (d+1) t).length+(Ab (d+1) u).length<=1099511627776) :
  UO 195 #[pt b,iv (i:Int)] w (KJ S w d b g kc x (m.take p++Ax t u::m.drop (p+2)) cs):=by
 have J:=Ae (Jt D M p y t u E z h A C f a);have k:max (IntKind.i64.wrap ((i:Int)-1)) 0=(p:Int):=by rw[Uv];omega
 have v:IntKind.i64.wrap ((i:Int)-1)=(i:Int)-1:=by rw[Uv];omega
 have F:IntKind.i64.wrap ((i:Int)+1)=(i:Int)+1:=by rw[Uv];omega
 rw[v] at k;clear D E z A C f a H;go_enter func195,ntmps195;go_wp2_with fail
 (with_reducible refine r.o.mono ?_)
 rintro e K ⟨rfl,j⟩;subst K;go_wp2_with fail
 (with_reducible refine l.o.mono ?_)
 rintro e s ⟨rfl,j⟩;subst s;go_wp2_with fail
 (with_reducible refine J.o.mono ?_)
 rintro e N c;have I:=Ae c;obtain⟨rfl,_⟩:=c;go_wp2;go_end0
 exact I.o
variable {B:Nat}
theorem LY {b:Nat} {m:List (Ro (d+1))} (s:NR S w d b g n kc x m us cs) (X:n<=4) (Q:2<=n) (i:Nat) (A:i<n) (h:Nat) (y:Ro (d+1)) (r:m[i]?=some y) (H:AE (d+1) y h) (O:1<=An y) (I:¬ 2<=An y) (l:∀j t,m[j]?=some t->j≠i->Aq (d+1) false t h) (f:∀t,t∈m->(Ab (d+1) t).length<=200000) :
  UO 195 #[pt b,iv (i:Int)] w (KJ S w d b g kc x (Ed m i) cs):=by
 have P:=s.ml;have V:=f y (List.mem_of_getElem? r);by_cases F:0<i/\2<C7 m[i-1]?;.obtain⟨o,E⟩:=F;have a:m[i-1]?=some (m[i-1]'(by omega)):=Ut (by omega);generalize m[i-1]'(by omega)=z at a;rw[a] at E;have k : 2<An z:=E;have M:=f z (List.mem_of_getElem? a);rw[Ew r I o a k];exact Kh s (by omega) i z y o A a r h (AE.of (l (i-1) z a (by omega))) H k O (by omega)
 .have D:U (UO 198 #[pt b,iv ((i:Int)-1)] w λe w'=>e=.returned (.bool false)/\w'=w):=by
   by_cases o:0<i;.have a:m[i-1]?=some (m[i-1]'(by omega)):=Ut (by omega);generalize m[i-1]'(by omega)=z at a;have q:¬ 2<An z:=λq=>F ⟨o,by rw[a];exact q⟩;have c:=DO s (by omega) (i-1) (by omega) z a;rw[decide_eq_false q,show ((i-1:Nat):Int)=(i:Int)-1 by omega] at c;exact c
   .exact Gu s (by omega) _ (.inl (by omega))
  by_cases C:2<C7 m[i+1]?
  .have N:i+1<m.length:=by
    by_cases q:i+1<m.length;.exact q
    .rw[List.getElem?_eq_none (by omega)] at C;exact absurd C (by simp[C7])
   have a:m[i+1]?=some m[i+1]:=Ut N;generalize m[i+1]=z at a;rw[a] at C;have k : 2<An z:=C;have M:=f z (List.mem_of_getElem? a);rw[Du r I F a k];exact Jx s (by omega) i y z D (by omega) r a h H (AE.of (l (i+1) z a (by omega))) O k (by omega)
  .have G:U (UO 198 #[pt b,iv ((i:Int)+1)] w λe w'=>e=.returned (.bool false)/\w'=w):=by
    by_cases q:i+1<n;.have a:m[i+1]?=some (m[i+1]'(by omega)):=Ut (by omega);generalize m[i+1]'(by omega)=z at a;have T:¬ 2<An z:=λq=>C (by rw[a];exact q);have c:=DO s (by omega) (i+1) (by omega) z a;rw[decide_eq_false T,show ((i+1:Nat):Int)=(i:Int)+1 by omega] at c;exact c
    .exact Gu s (by omega) _ (.inr (by omega))
   by_cases o:0<i;.have a:m[i-1]?=some (m[i-1]'(by omega)):=Ut (by omega);generalize m[i-1]'(by omega)=z at a;have J:=l (i-1) z a (by omega);have W:=J.siz;have M:=f z (List.mem_of_getElem? a);have K:=Nat.max_eq_left o;rw[Dl (u:=z) (v:=y) r I F C (by rw[K];exact a) (by rw[K];exact r),K];have q:=Gk s (by omega) i z y D G A (i-1) rfl (by omega) a (by rw[show i-1+1=i by omega];exact r) h (AE.of J) H (by omega) (by omega);rw[show i-1+2=i+1 by omega] at q;exact q
   .have R:i=0:=by omega
    subst R;have a:m[1]?=some (m[1]'(by omega)):=Ut (by omega);generalize m[1]'(by omega)=z at a;have J:=l 1 z a (by omega);have M:=f z (List.mem_of_getElem? a);rw[Dl (u:=y) (v:=z) r I F C r a];exact Gk s (by omega) 0 y z D G A 0 rfl (by omega) r a h H (AE.of J) O (by omega)
theorem AE.fit:∀{d:Nat} {t:Ro d} {h:Nat},AE d t h->PE 4 d t
 | 0,t,_,_=>t.elim
 | d+1,.inl L,h,hb=>hb.2
 | d+1,.inr l,h,hb=>λt a=>by
  obtain⟨_,_,b,_,q⟩:=hb
  exact BR (q t a)
theorem Le {c:List (List Nat)} (h:c.flatten.Nodup) (e:∀us,us∈c->us≠[]):(c.map (λus=>us.headD 0)).Nodup:=by
 unfold List.Nodup at h ⊢;rw[List.pairwise_flatten] at h;rw[List.pairwise_map];refine h.2.imp_of_mem (λ{a b} k m f=>?_);have j:∀{us:List Nat},us≠[]->us.headD 0∈us:=λ{us} l=>by
  cases us with
  | nil=>exact absurd rfl l
  | cons x xs=>simp
 exact f _ (j (e a k)) _ (j (e b m))
theorem CG.nd:∀{d:Nat} {t:Ro (d+1)} {v:Value} {bs:List Nat},CG B w (d+1) t v bs->bs.Nodup->bs≠[]/\DE (λx=>x∈bs/\x≠bs.headD 0) w (bs.headD 0) (d+1) t v
 | d,.inl t,v,bs,h,hd=>by
  obtain⟨b,G,kc,rfl,P,s,a,rfl⟩:=h
  refine⟨by simp,rfl,G,kc,s,AS a,?_⟩
  rcases a.2 with ⟨q,N⟩|⟨g,K,H,z,U,T,V⟩
  .exact .inl N
  .injection z with z _ F
   subst z F
   refine .inr ⟨g,0,rfl,⟨by simp,λe=>?_⟩,(Ah a g rfl).2,λi R=>?_⟩
   .rw[List.nodup_cons] at hd
    have f : g=b:=e
    exact hd.1 (by rw[<- f];simp)
   .rw[UI,a.cellAt i (by omega),Bf t i R]
 | d,.inr l,v,bs,h,hd=>by
  obtain⟨b,g,kc,xs,c,rfl,P,s,a,J,I,rfl,r⟩:=h
  have D:=AS a
  rw[List.nodup_cons,List.nodup_cons] at hd
  refine⟨by simp,rfl,g,0,kc,xs,s,⟨by simp,λe=>hd.1 (by have f : g=b:=e;rw[f];simp)⟩,⟨(Ah a g rfl).2,D.1,D.2⟩,⟨J,by have:=a.1;omega⟩,λj u C=>?_,λk h=>?_⟩
  .have o:=(List.getElem?_eq_some_iff.1 C).1
   rw[a.1] at o
   rw[UI,a.cellAt j o]
   exact C
  .obtain⟨u,us,Q,O,M⟩:=r k h
   have E:us∈c:=List.mem_of_getElem? O
   refine⟨u,Q,AP.wide (CG.tao M ?_) (λA y _=>?_)⟩
   .exact (List.pairwise_flatten.1 hd.2.2).1 us E
   .have m:A∈c.flatten:=List.mem_flatten.2 ⟨us,E,y⟩
    refine⟨by simp only[List.mem_cons];exact .inr (.inr m),λe=>?_⟩
    have f : A=b:=e
    subst f
    exact hd.1 (List.mem_cons_of_mem _ m)
theorem DE.box_eq {b c:Nat} {t:Ro (d+1)} {v:Value} (h:DE S w b (d+1) t v) (j:v=.iface 204 (pt c)\/v=.iface 174 (pt c)):b=c:=by
 have a:∀{x y:Nat} {p q:Value},(Value.iface x p=.iface y q)->p=q:=λ{x y p q} e=>by injection e
 have f:∀{x y:Nat},(pt x=pt y)->x=y:=λ{x y} e=>by injection e with e;injection e with e;injection e
 rcases h.form with ⟨rfl,_⟩|⟨rfl,_⟩
 .rcases j with e|e;.exact f (a e)
  .injection e with e _;exact absurd e (by decide)
 .rcases j with e|e;.injection e with e _;exact absurd e (by decide)
  .exact f (a e)
theorem NR.all {b:Nat} {m:List (Ro (d+1))} (h:NR S w d b g n kc x m us cs):Ct (λy=>S y\/y∈cs\/w.heap.size<=y) w (d+1) m us:=by
 refine⟨by rw[h.ul,h.ml],λk e=>?_⟩;obtain⟨u,c,r,f,l⟩:=h.kid k e;have a:=List.mem_of_getElem? f;refine⟨u,r,(l.tao (h.o c a)).wide (λy j _=>?_)⟩;rcases j with q|rfl;.exact .inl q
 .exact .inr (.inl a)
theorem NR.of {b:Nat} {l:List (Ro (d+1))} {xs:List Value} {f:List (List Nat)} {w2:World} (hx:Bx w b 179 #[iv x,.slice (some (ad g 0)) n kc]) (Q:w.ownsRow B 68 1 (.slice (some (ad g 0)) n kc) n xs) (hn:n=l.length) (aj:0<n) (ag:f.length=l.length) (A:b∉g::f.flatten/\g∉f.flatten/\f.flatten.Nodup)
  (H:∀k (h:k<l.length),∃u us,xs[k]?=some u/\f[k]?=some us/\CG B w (d+1) l[k] u us) (i:Nat) (hi:i<l.length) (u:Value) (us:List Nat) (hu:xs[i]?=some u) (F:f[i]?=some us) (M:Fz us w w2) (y:Ro (d+1)) (hy:DE (λz=>(z∈us/\z≠us.headD 0)\/w.heap.size<=z) w2 (us.headD 0) (d+1) y u) (D:∀z,z∈b::g::f.flatten->B<=z/\z<w.heap.size) :
  NR (λz=>(z∈f.flatten/\z∉f.map (λus=>us.headD 0))\/w.heap.size<=z) w2 d b g n kc x (l.set i y) xs (f.map (λus=>us.headD 0)):=by
 have T:us∈f:=List.mem_of_getElem? F;have P:∀z,z∈us->z∈f.flatten:=λz o=>List.mem_flatten.2 ⟨us,T,o⟩;have N:∀(k:Nat) (m:List Nat),f[k]?=some m->m.Nodup:=λk m e=>(List.pairwise_flatten.1 A.2.2).1 m (List.mem_of_getElem? e);have aa:b∉us:=λq=>A.1 (List.mem_cons_of_mem _ (P b q));have U:g∉us:=λq=>A.2.1 (P g q);have Y:g<w.heap.size:=(D g (by simp)).2;have V:∀m,m∈f->m≠[]:=λm K=>by obtain⟨k,E,e⟩:=List.getElem_of_mem K;obtain⟨u',ah,e1,s,e3⟩:=H k (by omega);rw[Ut E,e] at s;injection s with s;subst s;exact (e3.nd (N k m (by rw[Ut E,e]))).1
 have C:∀m,m∈f->m.headD 0∈m:=λm K=>by
  have:=V m K;cases m with
  | nil=>exact absurd rfl this
  | cons a ts=>simp
 have r:∀z,z∈f.map (λus=>us.headD 0)->z∈f.flatten:=λz o=>by obtain⟨m,K,rfl⟩:=List.mem_map.1 o;exact List.mem_flatten.2 ⟨m,K,C m K⟩
 have G:∀(k:Nat) (m:List Nat),f[k]?=some m->∀z,z∈m->z≠m.headD 0->z∈f.flatten/\z∉f.map (λus=>us.headD 0):=λk m E z o ae=>by
  refine⟨List.mem_flatten.2 ⟨m,List.mem_of_getElem? E,o⟩,λq=>?_⟩;obtain⟨J,O,e⟩:=List.mem_map.1 q;obtain⟨k',af,e'⟩:=List.getElem_of_mem O;have t:f[k']?=some J:=by rw[Ut af,e']
  have ab:z∈J:=by rw[<- e];exact C J O
  by_cases X:k=k';.subst X;rw[E] at t;injection t with t;subst t;exact ae e.symm
  .exact IP A.2.2 t E X o ab
 have ac:=M.2.2.2.1;refine⟨hx.of_block (M.2.2.2.2 b hx.lt aa),?_,λj v hj=>?_,by have:=Q.1;omega,by rw[List.length_set];exact hn.symm,by rw[UD,ag,hn],Le A.2.2 V,λc hc q=>?_,⟨λq=>A.1 (List.mem_cons_of_mem _ (r b q)),λq=>?_⟩,⟨λq=>A.2.1 (r g q),λq=>?_⟩,λe=>A.1 (by rw[e];simp),AS Q,λk E=>?_⟩
 .rcases Q.2 with ⟨q,q0⟩|⟨g',ak,Z,I,q2,q3,q4,q5,q6,q7⟩;.omega
  .injection I with I _ q8;injection I with I;injection I with I;subst I q8;exact⟨Z,(M.2.2.2.2 g Y U).trans q3,by omega⟩
 .have W:=(List.getElem?_eq_some_iff.1 hj).1;rw[Q.1] at W;rw[World.cell?_of_block (a:=(ad g j)) (M.2.2.2.2 g Y U),Q.cellAt j W];exact hj
 .rcases q with q|q;.exact q.2 hc
  .have:=(D c (by simp[r c hc])).2;omega
 .rcases q with q|q;.exact A.1 (List.mem_cons_of_mem _ q.1)
  .have:=(D b (by simp)).2;omega
 .rcases q with q|q;.exact A.2.1 q.1
  .omega
 .rw[List.length_set] at E;by_cases X:k=i
  .subst X;refine⟨u,us.headD 0,hu,by rw[UM,F];rfl,?_⟩;rw[List.getElem_set_self];refine DE.keep (Uq _) rfl (λz o _=>⟨?_,rfl⟩) hy;rcases o with o|o;.exact .inl (G k us F z o.1 o.2)
   .exact .inr o
  .obtain⟨v,m,e1,s,e3⟩:=H k E;refine⟨v,m.headD 0,e1,by rw[UM,s];rfl,?_⟩;rw[List.getElem_set_ne (by omega)];have R:∀z,z∈m->z<w.heap.size/\z∉us:=λz o=>⟨(D z (by simp[List.mem_flatten.2 ⟨m,List.mem_of_getElem? s,o⟩])).2,IP A.2.2 F s X o⟩;have hh:=R _ (C m (List.mem_of_getElem? s));refine DE.keep ac (M.2.2.2.2 _ hh.1 hh.2) (λz o _=>⟨.inl (G k m s z o.1 o.2),?_⟩) (e3.nd (N k m s)).2;have:=R z o.1;exact M.2.2.2.2 z this.1 this.2
end Go.Proofs.YtcnollkkigiobaaGreat
