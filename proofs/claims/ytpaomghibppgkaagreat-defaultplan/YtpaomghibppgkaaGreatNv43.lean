import Derived.Test.YtpaomghibppgkaaGreatNv42
import Derived.Deep.CutRange
import Derived.Deep.CutBlock
import Derived.Test.YtpaomghibppgkaaGreatNv33
import Derived.Test.YtpaomghibppgkaaGreatNv30
set_option linter.unusedVariables false
set_option maxRecDepth 100000
namespace Go.Proofs.YtpaomghibppgkaaGreat
open Go.RowKit Go.Deep
set_option linter.unusedSimpArgs false

theorem mtL_le (Q:List Qd) (x:Cx) (p:Qd):(mtL Q x p).length<=Q.length:=by
 unfold mtL
 split
 ·simp
 ·exact List.length_filter_le _ _
theorem ownN_le (id:ByteArray->Int) (Q:List Qd) (k:Int) (s t:ByteArray) (x:Cx):ownN id Q k s t x<=Q.length:=by
 unfold ownN
 split
 ·exact Nat.zero_le _
 ·split
  ·split
   ·exact Nat.zero_le _
   ·exact mtL_le _ _ _
  ·exact mtL_le _ _ _
theorem nodeG_le {k:Int} {ow al a b M:Nat} (h1:ow<=M) (h2:2*al<=M) (h3:1<=M):nodeG k ow al a b<=M+a+b:=by
 unfold nodeG
 repeat' split
 all_goals omega
theorem GS_le {id:ByteArray->Int} {Q:List Qd} {I:Nat->Int} {X R:Nat->ByteArray} {N:Nat} (hv:∀i,i<N->1<=I i/\I i<=9) (hQ:Q.length<=300):∀(f base m:Nat),m+1<=f->base+m<N->Begins (fun i=>arOf (I (base+i))) (m+1) 0->∀x,GS id Q I X R (base+m) x<=600*(m+1)
 | 0,base,m,hf,_,_=>absurd hf (by omega)
 | f+1,base,m,hf,hN,hb=>by
  intro x
  have hk:=hv (base+m) hN
  have l1:=ownN_le id Q (I (base+m)) (X (base+m)) (R (base+m)) x
  have l2:=mtL_le Q x ⟨0,0,0,0⟩
  rcases ops_at hb with ⟨e,hm⟩|⟨e,h0,e0,g0⟩|⟨e,s,h0,h1,e0,e1,g0,g1⟩
  ·rw [GS_eq hk (by omega) (by omega),nodeG_congr (a':=0) (b':=0) hk (by omega) (by omega)]
   have:=nodeG_le (k:=I (base+m)) (a:=0) (b:=0) (M:=600) (show ownN id Q (I (base+m)) (X (base+m)) (R (base+m)) x<=600 by omega) (show 2*(mtL Q x ⟨0,0,0,0⟩).length<=600 by omega) (by omega)
   omega
  ·rw [GS_eq hk (by omega) (by omega),nodeG_congr (b':=0) hk (fun _=>rfl) (by omega),e0]
   have ih:=GS_le (id:=id) (Q:=Q) (X:=X) (R:=R) hv hQ f base (m-1) (by omega) (by omega) g0 (dnC id (I (base+m)) (X (base+m)) x)
   have:=nodeG_le (k:=I (base+m)) (a:=GS id Q I X R (base+(m-1)) (dnC id (I (base+m)) (X (base+m)) x)) (b:=0) (M:=600) (show ownN id Q (I (base+m)) (X (base+m)) (R (base+m)) x<=600 by omega) (show 2*(mtL Q x ⟨0,0,0,0⟩).length<=600 by omega) (by omega)
   omega
  ·rw [GS_eq hk (by omega) (by omega),e0,e1]
   have ih0:=GS_le (id:=id) (Q:=Q) (X:=X) (R:=R) hv hQ f base (s-1) (by omega) (by omega) g0 (dnC id (I (base+m)) (X (base+m)) x)
   have ih1:=GS_le (id:=id) (Q:=Q) (X:=X) (R:=R) hv hQ f (base+s) (m-s-1) (by omega) (by omega) g1 (dnC id (I (base+m)) (X (base+m)) x)
   have:=nodeG_le (k:=I (base+m)) (a:=GS id Q I X R (base+(s-1)) (dnC id (I (base+m)) (X (base+m)) x)) (b:=GS id Q I X R (base+s+(m-s-1)) (dnC id (I (base+m)) (X (base+m)) x)) (M:=600) (show ownN id Q (I (base+m)) (X (base+m)) (R (base+m)) x<=600 by omega) (show 2*(mtL Q x ⟨0,0,0,0⟩).length<=600 by omega) (by omega)
   omega
set_option maxHeartbeats 4000000 in
theorem l6Guess_any {N:Nat} {I:Nat->Int} {X R:Nat->ByteArray} (hv:∀i,i<N->1<=I i/\I i<=9) (next:Int) (a:Option Addr) (n c:Nat) (qa:Option Addr) (ll qc:Nat) (LL:List Qd) (id:ByteArray->Int) (hll:ll=LL.length) (hl3:ll<=300):∀(f b o base m cc:Nat) (x:Cx) (w:World),RdN w (some ⟨b,o,none⟩) (m+1) (fun i=>I (base+i)) (fun i=>X (base+i)) (fun i=>R (base+i))->TidC w next a n c id->RdQ w qa LL->m+1<=f->f<=1000->m+1<=cc->cc<=9223372036854775807->base+m<N->Begins (fun i=>arOf (I (base+i))) (m+1) 0->
  Calls Tryz.prog 60 #[.slice (some ⟨b,o,none⟩) (m+1) cc,.agg #[.int .i64 next,.slice a n c,.slice qa ll qc],.agg #[.bool x.b,.int .i64 x.g]] w fun e w'=>e=.returned (.int .i64 (GS id LL I X R (base+m) x:Int))/\Below w.heap.size w w'
 | 0,b,o,base,m,cc,x,w,_,_,_,hf,_,_,_,_,_=>absurd hf (by omega)
 | f+1,b,o,base,m,cc,x,w,hR,hT,hq,hf,hf2,hc,hcm,hN,hb=>by
  have IH:=l6Guess_any (X:=X) (R:=R) hv next a n c qa ll qc LL id hll hl3 f
  obtain ⟨r,ks,hko⟩:=kids_ex b o cc m hb (arOf_le _)
  have hkd:∀W,Below w.heap.size w W->Calls Tryz.prog 56 #[.slice (some ⟨b,o,none⟩) (m+1) cc] W fun e w'=>∃go cpo,e=.returned (.slice (some ⟨go,0,none⟩) ks.length cpo)/\(∀i x,ks[i]?=some x->w'.cell? ⟨go,i,none⟩=some x)/\Below W.heap.size W w':=fun W hW=>by
   refine (l6Kids_any b o m cc (fun i=>I (base+i)) (fun i=>X (base+i)) (fun i=>R (base+i)) W (hR.below hW) (by omega) hc hcm hb).mono ?_
   rintro e w' ⟨v,r',ks',rfl,hko',hka,hb2⟩
   obtain ⟨go,cpo,rfl,hks⟩:=hka
   have e:=kids_uniq hko hko'
   subst e
   exact ⟨go,cpo,rfl,hks,hb2⟩
  have hM:RtA w (.slice (some ⟨b,o,none⟩) (m+1) cc) (I (base+m)) (X (base+m)) (R (base+m)) ks:=⟨fun W hW=>l6Root_any b o m cc _ _ _ W (hR.below hW) (by omega),hkd⟩
  have hkt:=kids_text hko hR hc hb
  have hlen:=hko.len
  have hbl:∀(base' n' : Nat),base'+n'<N->n'+1<=m->Begins (fun i=>arOf (I (base'+i))) (n'+1) 0->∀x,GS id LL I X R (base'+n') x<=1048576:=fun base' n' h1 h2 h3 x=>by
   have:=GS_le (id:=id) (Q:=LL) (X:=X) (R:=R) hv (by rw [<- hll];exact hl3) 1000 base' n' (by omega) h1 h3 x
   omega
  have hK:∀i,i<arOf (I (base+m))->∃ad n' c',ks[i]?=some (.slice ad (n'+1) c')/\opf (arI I) (base+m) i<base+m/\KidG w (.slice ad (n'+1) c') next a n c qa ll qc (fun x=>GS id LL I X R (opf (arI I) (base+m) i) x)/\∀x,GS id LL I X R (opf (arI I) (base+m) i) x<=1048576:=fun i hi=>by
   obtain ⟨o',n',c',base',q1,q2,q3,q4,q5,q6,q7,q8⟩:=hkt i hi
   refine ⟨_,n',c',q1,by omega,fun W x hW=>?_,fun x=>?_⟩
   ·rw [<- q7]
    exact IH b o' base' n' c' x W (q2.below hW) (hT.below hW) (hq.below hW) (by omega) (by omega) q5 (by omega) (by omega) q3
   ·rw [<- q7]
    exact hbl base' n' (by omega) q4 q3 x
  have hk9:=hv (base+m) hN
  have hEq:=GS_eq (id:=id) (Q:=LL) (I:=I) (X:=X) (R:=R) (i:=base+m) hk9 (fun q=>by
   obtain ⟨_,_,_,_,q2,_⟩:=hK 0 (by omega)
   exact q2) (fun q=>by
   obtain ⟨_,_,_,_,q2,_⟩:=hK 1 (by omega)
   exact q2) x
  obtain ⟨xb,xg⟩:=x
  clear hkt hkd IH hbl
  obtain ⟨k,hk⟩:∃k,k=I (base+m):=⟨_,rfl⟩
  obtain ⟨s,hs⟩:∃s,s=X (base+m):=⟨_,rfl⟩
  obtain ⟨t,ht⟩:∃t,t=R (base+m):=⟨_,rfl⟩
  rw [<- hk] at hM hK hk9 hEq hlen hko
  rw [<- hs] at hM hEq
  rw [<- ht] at hM hEq
  clear hk hs ht
  rw [hEq]
  have h9:k=1\/k=2\/k=3\/k=4\/k=5\/k=6\/k=7\/k=8\/k=9:=by omega
  rcases h9 with rfl|rfl|rfl|rfl|rfl|rfl|rfl|rfl|rfl
  ·obtain rfl:ks=[]:=List.length_eq_zero_iff.1 hlen
   exact guess_a _ 1 (by decide) next a n c qa ll qc LL id xb xg s t w _ rfl ⟨_,_,_,rfl⟩ hT hq hll hl3 hM
  ·obtain rfl:ks=[]:=List.length_eq_zero_iff.1 hlen
   exact guess_a _ 2 (by decide) next a n c qa ll qc LL id xb xg s t w _ rfl ⟨_,_,_,rfl⟩ hT hq hll hl3 hM
  ·obtain ⟨a0,n0,c0,e0,-,h0,b0⟩:=hK 0 (by decide)
   obtain rfl:ks=[.slice a0 (n0+1) c0]:=by
    match ks,hlen,e0 with
    | [z],_,e0=>injection e0 with e0;rw [e0]
   exact guess_b _ 3 (by decide) next a n c qa ll qc LL id xb xg s t a0 (n0+1) c0 _ w _ rfl ⟨_,_,_,rfl⟩ hT hq hll hl3 hM h0 b0
  ·obtain ⟨a0,n0,c0,e0,-,h0,b0⟩:=hK 0 (by decide)
   obtain rfl:ks=[.slice a0 (n0+1) c0]:=by
    match ks,hlen,e0 with
    | [z],_,e0=>injection e0 with e0;rw [e0]
   exact guess_b _ 4 (by decide) next a n c qa ll qc LL id xb xg s t a0 (n0+1) c0 _ w _ rfl ⟨_,_,_,rfl⟩ hT hq hll hl3 hM h0 b0
  ·obtain ⟨a0,n0,c0,e0,-,h0,b0⟩:=hK 0 (by decide)
   obtain rfl:ks=[.slice a0 (n0+1) c0]:=by
    match ks,hlen,e0 with
    | [z],_,e0=>injection e0 with e0;rw [e0]
   exact guess_b _ 5 (by decide) next a n c qa ll qc LL id xb xg s t a0 (n0+1) c0 _ w _ rfl ⟨_,_,_,rfl⟩ hT hq hll hl3 hM h0 b0
  ·obtain ⟨a0,n0,c0,e0,-,h0,b0⟩:=hK 0 (by decide)
   obtain ⟨a1,n1,c1,e1,-,h1,b1⟩:=hK 1 (by decide)
   obtain rfl:ks=[.slice a0 (n0+1) c0,.slice a1 (n1+1) c1]:=by
    match ks,hlen,e0,e1 with
    | [z,z'],_,e0,e1=>injection e0 with e0;injection e1 with e1;rw [e0,e1]
   exact guess_c _ 6 (by decide) next a n c qa ll qc LL id xb xg s t a0 (n0+1) c0 a1 (n1+1) c1 _ _ w _ rfl ⟨_,_,_,rfl⟩ hT hq hll hl3 hM h0 b0 h1 b1
  ·obtain ⟨a0,n0,c0,e0,-,h0,b0⟩:=hK 0 (by decide)
   obtain ⟨a1,n1,c1,e1,-,h1,b1⟩:=hK 1 (by decide)
   obtain rfl:ks=[.slice a0 (n0+1) c0,.slice a1 (n1+1) c1]:=by
    match ks,hlen,e0,e1 with
    | [z,z'],_,e0,e1=>injection e0 with e0;injection e1 with e1;rw [e0,e1]
   exact guess_c _ 7 (by decide) next a n c qa ll qc LL id xb xg s t a0 (n0+1) c0 a1 (n1+1) c1 _ _ w _ rfl ⟨_,_,_,rfl⟩ hT hq hll hl3 hM h0 b0 h1 b1
  ·obtain ⟨a0,n0,c0,e0,-,h0,b0⟩:=hK 0 (by decide)
   obtain ⟨a1,n1,c1,e1,-,h1,b1⟩:=hK 1 (by decide)
   obtain rfl:ks=[.slice a0 (n0+1) c0,.slice a1 (n1+1) c1]:=by
    match ks,hlen,e0,e1 with
    | [z,z'],_,e0,e1=>injection e0 with e0;injection e1 with e1;rw [e0,e1]
   exact guess_c _ 8 (by decide) next a n c qa ll qc LL id xb xg s t a0 (n0+1) c0 a1 (n1+1) c1 _ _ w _ rfl ⟨_,_,_,rfl⟩ hT hq hll hl3 hM h0 b0 h1 b1
  ·obtain ⟨a0,n0,c0,e0,-,h0,b0⟩:=hK 0 (by decide)
   obtain rfl:ks=[.slice a0 (n0+1) c0]:=by
    match ks,hlen,e0 with
    | [z],_,e0=>injection e0 with e0;rw [e0]
   exact guess_b _ 9 (by decide) next a n c qa ll qc LL id xb xg s t a0 (n0+1) c0 _ w _ rfl ⟨_,_,_,rfl⟩ hT hq hll hl3 hM h0 b0
set_option linter.unusedSimpArgs false

def il (L:List Nat):List Value:=L.map fun (x:Nat)=>Value.int .i64 (x:Int)
theorem il_app (L M:List Nat):il (L++M)=il L++il M:=List.map_append
theorem il_len (L:List Nat):(il L).length=L.length:=List.length_map _
theorem il_one (L:List Nat):∀u∈il L,u.oneCell'=true:=fun u hu=>by
 obtain ⟨x,_,rfl⟩:=List.mem_map.1 hu
 rfl
theorem infoI8:(Tryz.prog.info? 2).map (fun i=>(i.zero,i.size,i.bytes))=some (some (.int .i64 0),1,8):=by kernel_rfl
def RetIl (w:World) (L:List Nat) (e:Ending) (w' : World):Prop:=∃v,e=.returned v/\w'.ownsRow w.heap.size 2 1 v L.length (il L)/\Below w.heap.size w w'
def KidD (w:World) (v:Value) (next:Int) (a:Option Addr) (n c:Nat) (qa:Option Addr) (ll qc:Nat) (y:Cx) (L:List Nat):Prop:=0<L.length/\L.length<=1000/\∀W,Below w.heap.size w W->Calls Tryz.prog 27 #[v,.agg #[.int .i64 next,.slice a n c,.slice qa ll qc],.agg #[.bool y.b,.int .i64 y.g]] W (RetIl W L)
theorem step_il {ops:Array Oper} {o:Oper} {a:Act} {w:World} {K:Act->World->Prop} {Q:Exit->Act->World->Prop} {E:Prop} (hgd:o.guard=none) (s x:Operand)
  (ho:o.op=.call { callee:=.builtin .append,args:=#[s,x],argTypes:=#[34,34] })
  (B B' : Nat) (v u:Value) (L M:List Nat) (hs:a.eval s=v) (hown:w.ownsRow B 2 1 v L.length (il L)) (hx:a.eval x=u) (hsrc:w.ownsRow B' 2 1 u M.length (il M)) (hm:0<M.length) (hl:L.length+M.length<=1048576) (hB:B<=w.heap.size)
  (h:∀v' w',w'.ownsRow B 2 1 v' (L++M).length (il (L++M))->w.grownBy w' v.ownBlock->K (a.put o.dst v') w') :
  if Region.wanted o (yielded ops a.tmps)=true then Oper.wp Tryz.prog o a w K Q else E:=by
 have hw:Region.wanted o (yielded ops a.tmps)=true:=by simp [Region.wanted,hgd]
 rw [if_pos hw]
 obtain ⟨i0,hi,hz0,hz1,hz2⟩:=info_parts infoI8
 obtain ⟨ad,cp,e,hf⟩:=own_form hsrc
 obtain ⟨g,e2,-,-,hc⟩:=hf (by omega)
 subst e2
 rw [e] at hx
 refine wp_append_own w s x 34 ho B 2 i0 _ 1 8 Tryz.underlying34 hi hz0 hz1 hz2 rfl (by decide) v L.length (il L) hs hown ⟨g,0,none⟩ M.length cp (il M) hx (by rw [il_len,Nat.mul_one]) (fun j u hj=>by rw [Addr.add_lit,Nat.zero_add];exact hc j u hj) (il_one M) (by unfold maxLen;omega) (by omega) hB (fun v' w' q1 q2 _=>h v' w' ?_ q2)
 rw [il_app,List.length_append]
 exact q1
theorem app_il {w:World} {ops:Array Oper} {rest:List Oper} {o:Oper} {act:Act} {Q:Exit->Act->World->Prop} (hgd:o.guard=none) (s x:Operand)
  (ho:o.op=.call { callee:=.builtin .append,args:=#[s,x],argTypes:=#[34,34] })
  (B:Nat) (v:Value) (L:List Nat) (z:Nat) (hs:act.eval s=v) (hown:w.ownsRow B 2 1 v L.length (il L)) (hx:act.eval x=.slice (some ⟨w.heap.size,0,none⟩) 1 1) (hl:L.length<=1048576) (hB:B<=w.heap.size)
  (h:∀v' w',w'.ownsRow B 2 1 v' (L++[z]).length (il (L++[z]))->(w.alloc (.cells #[.int .i64 (z:Int)] 2)).grownBy w' v.ownBlock->wpList Tryz.prog ops Q rest (act.put o.dst v') w'):wpList Tryz.prog ops Q (o::rest) act (w.alloc (.cells #[.int .i64 (z:Int)] 2)):=by
 obtain ⟨i0,hi,hz0,hz1,hz2⟩:=info_parts infoI8
 refine wpList_append_own _ hgd s x 34 ho B 2 i0 _ 1 8 Tryz.underlying34 hi hz0 hz1 hz2 rfl (by decide) v L.length (il L) hs (own_below hown (below_alloc _ _)) ⟨w.heap.size,0,none⟩ 1 1 (il [z]) hx rfl (fun j u hj=>?_) (il_one [z]) (by unfold maxLen;omega) (by omega) (by simp;omega) (fun v' w' q1 q2 _=>h v' w' ?_ q2)
 ·rw [Addr.add_lit,Nat.zero_add,(Bx.new w #[.int .i64 (z:Int)] 2).cell j]
  simpa [il] using hj
 ·rw [il_app,List.length_append]
  exact q1

theorem ord_pos (j:Nat) (hj:j<6) (s:Nat) (hs:s<4):ordF j (posF j s)=s/\posF j s<4:=by
 rcases (show j=0\/j=1\/j=2\/j=3\/j=4\/j=5 by omega) with rfl|rfl|rfl|rfl|rfl|rfl <;> rcases (show s=0\/s=1\/s=2\/s=3 by omega) with rfl|rfl|rfl|rfl <;> decide
theorem fit1_iff (a b:Int):fit1 a b=true↔(a=0\/a=b):=by simp [fit1]
theorem fit_all (j:Nat) (hj:j<6) (p:Qd) (k:ByteArray):fitB (quadOf j k) p=true↔∀i,i<4->(ptO j p i=0\/ptO j p i=pk k i):=by
 have e:∀s,s<4->ptO j p (posF j s)=partOf p.s p.p p.o p.g s:=fun s hs=>by unfold ptO;rw [(ord_pos j hj s hs).1]
 have e0:ptO j p (posF j 0)=p.s:=e 0 (by omega)
 have e1:ptO j p (posF j 1)=p.p:=e 1 (by omega)
 have e2:ptO j p (posF j 2)=p.o:=e 2 (by omega)
 have e3:ptO j p (posF j 3)=p.g:=e 3 (by omega)
 have h:fitB (quadOf j k) p=true↔(((fit1 p.s (pk k (posF j 0))=true/\fit1 p.p (pk k (posF j 1))=true)/\fit1 p.o (pk k (posF j 2))=true)/\fit1 p.g (pk k (posF j 3))=true):=by
  unfold fitB quadOf
  simp only [Bool.and_eq_true]
 rw [h]
 simp only [fit1_iff]
 rw [<- e0,<- e1,<- e2,<- e3]
 constructor
 ·rintro ⟨⟨⟨h0,h1⟩,h2⟩,h3⟩ i hi
  obtain ⟨s,hs,es⟩:=posF_onto j hj i hi
  rw [<- es]
  rcases (show s=0\/s=1\/s=2\/s=3 by omega) with rfl|rfl|rfl|rfl
  ·exact h0
  ·exact h1
  ·exact h2
  ·exact h3
 ·intro h
  exact ⟨⟨⟨h _ (ord_pos j hj 0 (by omega)).2,h _ (ord_pos j hj 1 (by omega)).2⟩,h _ (ord_pos j hj 2 (by omega)).2⟩,h _ (ord_pos j hj 3 (by omega)).2⟩
theorem fit_lead {j:Nat} (hj:j<6) {p:Qd} {m:Nat} (hm:Lead (ptO j p) m) (hok:okTo (ptO j p) 4) (k:ByteArray):fitB (quadOf j k) p=true↔∀i,i<m->pk k i=ptO j p i:=by
 rw [fit_all j hj p k]
 obtain ⟨h4,hn,hz⟩:=hm
 constructor
 ·intro h i hi
  rcases h i (by omega) with q|q
  ·exact absurd q (hn i hi)
  ·exact q.symm
 ·intro h i hi
  rcases Nat.lt_trichotomy i m with q|q|q
  ·exact .inr (h i q).symm
  ·exact .inl (by rw [q];exact hz (by omega))
  ·exact .inl ((hok i hi).2 m q (hz (by omega)))
theorem lead_ex (x:Nat->Int):∃m,Lead x m:=by
 by_cases h0:x 0=0
 ·exact ⟨0,by omega,fun i hi=>absurd hi (Nat.not_lt_zero _),fun _=>h0⟩
 by_cases h1:x 1=0
 ·exact ⟨1,by omega,fun i hi=>by rw [show i=0 by omega];exact h0,fun _=>h1⟩
 by_cases h2:x 2=0
 ·exact ⟨2,by omega,fun i hi=>by rcases (show i=0\/i=1 by omega) with rfl|rfl <;> assumption,fun _=>h2⟩
 by_cases h3:x 3=0
 ·exact ⟨3,by omega,fun i hi=>by rcases (show i=0\/i=1\/i=2 by omega) with rfl|rfl|rfl <;> assumption,fun _=>h3⟩
 ·exact ⟨4,by omega,fun i hi=>by rcases (show i=0\/i=1\/i=2\/i=3 by omega) with rfl|rfl|rfl|rfl <;> assumption,fun h=>absurd h (by omega)⟩
theorem sp_next (x:Nat->Int) (m:Nat) (h0:0<=x m) (h1:x m<=2000000000):bnum (spH x (m+1)).toList=bnum (spL x (m+1)).toList+1/\(spL x (m+1)).toList.length=(spH x (m+1)).toList.length:=by
 rw [ByteArray.toList_eq,ByteArray.toList_eq,spH_data,spL_data]
 show bnum (spLl x m++pkL (x m+1))=bnum (spLl x m++pkL (x m))+1/\(spLl x m++pkL (x m)).length=_
 rw [bnum_app,bnum_app]
 have a:=pkL_num (x m) h0 (by omega)
 have b:=pkL_num (x m+1) (by omega) (by omega)
 refine ⟨?_,by simp [pkL]⟩
 show bnum (spLl x m)*256 ^ 4+bnum (pkL (x m+1))=bnum (spLl x m)*256 ^ 4+bnum (pkL (x m))+1
 omega
theorem span_fit {j:Nat} (hj:j<6) {p:Qd} {m:Nat} (hm:Lead (ptO j p) (m+1)) (hok:okTo (ptO j p) 4) {k:ByteArray} (hk:k.size=16) :
  (Op.bytesLess k.toList (spL (ptO j p) (m+1)).toList=false/\Op.bytesLess k.toList (spH (ptO j p) (m+1)).toList=true)↔fitB (quadOf j k) p=true:=by
 have h4:=hm.1
 have hr:=(hok m (by omega)).1
 obtain ⟨n1,n2⟩:=sp_next (ptO j p) m hr.1 hr.2
 have hkl:k.toList.length=16:=by rw [ByteArray.toList_eq,Array.length_toList];exact hk
 have hll:(spL (ptO j p) (m+1)).toList.length=4*(m+1):=by rw [ByteArray.toList_eq,spL_data,spLl_len]
 rw [between (by omega) n2 n1,fit_lead hj hm hok,hll,ByteArray.toList_eq,ByteArray.toList_eq,spL_data]
 exact take_parts k _ (m+1) (by omega) (fun i hi=>by have:=(hok i (by omega)).1;omega)
theorem cnt_split {lo hi:ByteArray} (hlh:Op.bytesLess lo.toList hi.toList=true) (P:ByteArray->Bool):∀K:List ByteArray,(∀k,k∈K->((Op.bytesLess k.toList lo.toList=false/\Op.bytesLess k.toList hi.toList=true)↔P k=true))->cntL hi K=cntL lo K+(K.filter P).length
 | [],_=>rfl
 | k::K,h=>by
  have ih:=cnt_split hlh P K (fun x hx=>h x (List.mem_cons_of_mem _ hx))
  have hk:=h k (List.mem_cons_self ..)
  unfold cntL at ih ⊢
  rw [List.filter_cons,List.filter_cons,List.filter_cons]
  cases h1:Op.bytesLess k.toList lo.toList with
  | true=>
   have h2:Op.bytesLess k.toList hi.toList=true:=less_of_lt_le h1 (less_asym hlh)
   have h3:P k=false:=by
    cases hp:P k with
    | false=>rfl
    | true=>
     have:=(hk.2 hp).1
     rw [h1] at this
     cases this
   simp only [h2,h3,if_true,List.length_cons]
   simp
   omega
  | false=>
   cases h2:Op.bytesLess k.toList hi.toList with
   | true=>
    have h3:P k=true:=hk.1 ⟨h1,h2⟩
    simp [h3]
    omega
   | false=>
    have h3:P k=false:=by
     cases hp:P k with
     | false=>rfl
     | true=>
      have:=(hk.2 hp).2
      rw [h2] at this
      cases this
    simp [h3]
    omega
theorem count_span {j:Nat} (hj:j<6) {p:Qd} {m:Nat} (hm:Lead (ptO j p) (m+1)) (hok:okTo (ptO j p) 4) {K:List ByteArray} (hK:∀k,k∈K->k.size=16):cntL (spH (ptO j p) (m+1)) K=cntL (spL (ptO j p) (m+1)) K+((K.map (quadOf j)).filter (fun q=>fitB q p)).length:=by
 have hr:=(hok m (by have:=hm.1;omega)).1
 obtain ⟨n1,n2⟩:=sp_next (ptO j p) m hr.1 hr.2
 rw [cnt_split ((less_num _ _ n2).2 (by omega)) (fun k=>fitB (quadOf j k) p) K (fun k hk=>span_fit hj hm hok (hK k hk)),List.filter_map,List.length_map]
 rfl
theorem count_none {j:Nat} (hj:j<6) {p:Qd} (hm:Lead (ptO j p) 0) (hok:okTo (ptO j p) 4) (K:List ByteArray):((K.map (quadOf j)).filter (fun q=>fitB q p)).length=K.length:=by
 rw [List.filter_eq_self.2,List.length_map]
 intro q hq
 obtain ⟨k,_,rfl⟩:=List.mem_map.1 hq
 exact (fit_lead hj hm hok k).2 (fun i hi=>absurd hi (Nat.not_lt_zero _))

theorem fil_all (K:List ByteArray):fil { data:=#[] } { data:=#[] } K=K:=by
 unfold fil
 rw [List.filter_eq_self]
 intro k _
 have e:(({ data:=#[] }:ByteArray)).toList=[]:=by unfold ByteArray.toList;unfold ByteArray.toList.loop;rfl
 unfold inR
 rw [e]
 cases k.toList <;> rfl
def GoodK (perm:Nat) (K:List ByteArray):Prop:=∀k,k∈K->k.size=16/\quadB (quadOf perm k)=true
def RetQs (w:World) (perm:Nat) (K:List ByteArray) (e:Ending) (w' : World):Prop:=
 ∃(ok:Bool) (a:Option Addr) (c:Nat) (L:List Qd),e=.returned (.tuple #[.slice a L.length c,.bool ok])/\Below w.heap.size w w'/\RdQ w' a L/\((ok=true/\L=K.map (quadOf perm)/\GoodK perm K)\/(ok=false/\L=[]/\¬ GoodK perm K))

set_option maxHeartbeats 8000000 in
theorem quads_any (perm:Nat) (hp:perm<6) (b o:Nat) (w:World) (n:Nat) (t:Ro n) (v:Value) (hh:Nat) (hc0:w.cell? ⟨b,o,none⟩=some (.func (.func (layF perm)) #[] #[])) (hc1:w.cell? ⟨b,o+1,none⟩=some v)
  (ht:TAt (fun bb=>bb<w.heap.size) w n t v) (hb:BalR n true t hh) (hasc:Asc (keysR n t)) (hlen:(keysR n t).length<=300) :
  Calls Tryz.prog 104 #[.pointer (some ⟨b,o,none⟩)] w (RetQs w perm (keysR n t)):=by
 have hga:=gather_any { data:=#[] } { data:=#[] } w.heap.size w n t v true hh ht hb hasc (by omega)
 obtain ⟨K,hK⟩:∃K,K=keysR n t:=⟨_,rfl⟩
 rw [<- hK] at hga hlen ⊢
 have HP:Hid (perm<6/\w.cell? ⟨b,o,none⟩=some (.func (.func (layF perm)) #[] #[])/\b<w.heap.size):=⟨hp,hc0,World.block_lt_of_cell? _ _ hc0⟩
 clear ht hb hasc hK hp hc0 hh t n
 obtain ⟨i0,hi0,hz0,hz1,hz2⟩:=info_parts Tryz.info122
 have HI:Hid (Tryz.prog.info? 122=some i0/\i0.zero=some (.agg #[.int .i64 0,.int .i64 0,.int .i64 0,.int .i64 0])/\i0.size=4/\i0.bytes=32):=⟨hi0,hz0,hz1,hz2⟩
 clear hi0 hz0 hz1 hz2
 rcases hga with ⟨p,rfl,hcall⟩|⟨p,rfl,hcall⟩
 ·have HC:Hid (Calls Tryz.prog 170 #[.pointer (some p),.slice none 0 0,.string { data:=#[] },.string { data:=#[] }] w (RetGa w.heap.size w ([]++fil { data:=#[] } { data:=#[] } K))):=hcall w none 0 0 [] (Below.refl _ _) (Nat.le_refl _) (World.ownsRow_nil _ _ _ _) rfl (by omega)
  clear hcall
  rw [List.nil_append,fil_all] at HC
  go_enter Tryz.func104,Tryz.ntmps104
  go_wp2_with fail
  (with_reducible refine HC.out.mono ?_)
  rintro e w3 ⟨a3,c3,rfl,ho3,hb3⟩
  obtain ⟨kl,hkl⟩:∃kl,kl=K.length:=⟨_,rfl⟩
  have HKL:Hid (kl=K.length):=hkl
  have S3:Hid (RdS w3 a3 kl (gt K)/\Below w.heap.size w w3):=by
   obtain ⟨a6,c6,e6,q,_⟩:=ownS_strL ho3 rfl
   injection e6 with e6 _ _
   subst e6
   exact ⟨by rw [hkl];exact q.rd,hb3⟩
  rw [<- hkl] at hlen ⊢
  clear hkl ho3 hb3 HC
  go_wp2
  go_loopw [4,6,7,14] (fun out _ _ i wr=>∃(k:Nat) (R:List Qd),k<=kl/\i=.int .i64 k/\R=(K.take k).map (quadOf perm)/\GoodK perm (K.take k)/\wr.ownsRow w3.heap.size 122 4 out R.length (quadL R)/\Below w3.heap.size w3 wr) (fun _ _ _ i _=>kl-(intOf i).toNat)
  case atStart=>exact ⟨0,[],Nat.zero_le _,rfl,rfl,(fun k hk=>by simp at hk),World.ownsRow_nil _ _ _ _,Below.refl _ _⟩
  case round=>
   obtain ⟨k,R,hk,rfl,hR,hgd,hown,hbel⟩:=hrel
   obtain ⟨ar,cr,er,_⟩:=own_form hown
   subst er
   have hRl:R.length=k:=by rw [hR,List.length_map,List.length_take,<- HKL.out];omega
   have HQ:Hid (wr.ownsRow w3.heap.size 122 4 (.slice ar R.length cr) R.length (quadL R)/\Below w3.heap.size w3 wr/\R=(K.take k).map (quadOf perm)/\GoodK perm (K.take k)/\R.length=k):=⟨hown,hbel,hR,hgd,hRl⟩
   clear hown hbel hR hgd hRl
   obtain ⟨rl,hrl⟩:∃rl,rl=R.length:=⟨_,rfl⟩
   have HRl:Hid (rl=R.length):=hrl
   have hrlk:rl=k:=hrl.trans HQ.out.2.2.2.2
   have hrlk1:rl<=k:=by omega
   rw [<- hrl] at HQ ⊢
   clear hrl hrlk
   have k0:(0:Int)<=(k:Int):=by omega
   have HBw:Hid (Below w.heap.size w wr):=S3.out.2.trans (HQ.out.2.1.mono S3.out.2.size)
   by_cases hlt:k<kl
   ·have k1:(k:Int)<(kl:Int):=by omega
    have hkK:k<K.length:=by rw [<- HKL.out];exact hlt
    obtain ⟨bb,oo,ea2,s1⟩:=(S3.out.1.below HQ.out.2.1).cellOf k hlt
    obtain ⟨key,hkey⟩:∃key,key=gt K k:=⟨_,rfl⟩
    rw [<- hkey] at s1
    have HKy:Hid (key=K[k]/\key∈K):=by
     have e:key=K[k]:=by rw [hkey,gt_in hkK]
     exact ⟨e,by rw [e];exact List.getElem_mem hkK⟩
    have l0:wr.cell? ⟨b,o,none⟩=some (.func (.func (layF perm)) #[] #[]):=by
     rw [HBw.out.cell (show b<w.heap.size from HP.out.2.2)]
     exact HP.out.2.1
    clear hkey hc1
    subst ea2
    by_cases hsz:key.size=16
    ·have hszi:(key.size:Int)=16:=by omega
     have HQd:Hid (Calls Tryz.prog 127 #[.func (.func (layF perm)) #[] #[],.string key] wr fun e w'=>e=.returned (qv (quadOf perm key))/\Below wr.heap.size wr w'):=quad_any perm HP.out.1 key hsz wr
     go_wp2_with fail
     (with_reducible refine HQd.out.mono ?_)
     rintro e w5 ⟨rfl,hb5⟩
     obtain ⟨qd,hqd⟩:∃qd,qd=quadOf perm key:=⟨_,rfl⟩
     have HQq:Hid (qd=quadOf perm key):=hqd
     have HIs:Hid (∀W:World,Calls Tryz.prog 128 #[.agg #[.int .i64 qd.s,.int .i64 qd.p,.int .i64 qd.o,.int .i64 qd.g]] W fun e w'=>e=.returned (.bool (quadB qd))/\Below W.heap.size W w'):=fun W=>isQuad_any qd W
     rw [<- hqd]
     clear hqd
     unfold qv
     go_wp2_with fail
     (with_reducible refine (HIs.out _).mono ?_)
     rintro e w6 ⟨rfl,hb6⟩
     have z:=(Bx.new w5 #[.int .i64 qd.s,.int .i64 qd.p,.int .i64 qd.o,.int .i64 qd.g] 122)
     have hz5:=hb5.size
     have hz6:=hb6.size
     have hz3:=HQ.out.2.1.size
     simp only [World.size_alloc] at hz6
     have hb56:Below w5.heap.size w5 w6:=(below_alloc w5 (.cells #[.int .i64 qd.s,.int .i64 qd.p,.int .i64 qd.o,.int .i64 qd.g] 122)).trans (hb6.mono (by simp))
     have z6:Bx w6 w5.heap.size 122 #[.int .i64 qd.s,.int .i64 qd.p,.int .i64 qd.o,.int .i64 qd.g]:=(hb6.block _ (by simp)).trans z
     have y0:=z6.cell 0
     have y1:=z6.cell 1
     have y2:=z6.cell 2
     have y3:=z6.cell 3
     simp at y0 y1 y2 y3
     have HO6:Hid (w6.ownsRow w3.heap.size 122 4 (.slice ar rl cr) rl (quadL R)/\Below w3.heap.size w3 w6/\Below w.heap.size w w6):=by
      have q1:Below wr.heap.size wr w6:=hb5.trans (hb56.mono hz5)
      have q2:Below w3.heap.size w3 w6:=HQ.out.2.1.trans (q1.mono hz3)
      exact ⟨own_below HQ.out.1 q1,q2,S3.out.2.trans (q2.mono S3.out.2.size)⟩
     cases hq:quadB qd with
     | false=>
      have HNo:Hid (¬ GoodK perm K):=fun h=>by
       have:=(h key HKy.out.2).2
       rw [<- HQq.out,hq] at this
       cases this
      clear hb5 hb6 hb56 z z6 HQd HIs
      go_wp2
      refine bodyPost_ret (v:=.tuple #[.slice none 0 0,.bool false]) (by simp [results,Tryz.results104,go_sem]) rfl ?_
      exact ⟨false,none,0,[],rfl,HO6.out.2.2,.inl rfl,.inr ⟨rfl,rfl,HNo.out⟩⟩
     | true=>
      have HG1:Hid (GoodK perm (K.take (k+1))):=by
       intro x hx
       rw [List.take_add_one,List.getElem?_eq_getElem hkK] at hx
       rcases List.mem_append.1 hx with hx|hx
       ·exact HQ.out.2.2.2.1 x hx
       ·have e:x=K[k]:=by simpa using hx
        rw [e,<- HKy.out.1]
        exact ⟨hsz,by rw [<- HQq.out];exact hq⟩
      have hz3r:w3.heap.size<=w6.heap.size:=by omega
      have HO7:Hid ((w6.alloc (.cells #[.int .i64 qd.s,.int .i64 qd.p,.int .i64 qd.o,.int .i64 qd.g] 122)).ownsRow w3.heap.size 122 4 (.slice ar rl cr) rl (quadL R)/\(∀j u,(quadL [qd])[j]?=some u->(w6.alloc (.cells #[.int .i64 qd.s,.int .i64 qd.p,.int .i64 qd.o,.int .i64 qd.g] 122)).cell? ⟨w6.heap.size,j,none⟩=some u)):=by
       refine ⟨own_below HO6.out.1 (below_alloc _ _),fun j u hj=>?_⟩
       rw [(Bx.new w6 #[.int .i64 qd.s,.int .i64 qd.p,.int .i64 qd.o,.int .i64 qd.g] 122).cell j]
       simpa [quadL] using hj
      clear hb5 hb6 hb56 z z6 HQd HIs
      go_wp2_with (at_builtin;refine wpList_append_own_at _ rfl _ _ 64 rfl w3.heap.size 122 i0 _ 4 32 Tryz.underlying64 HI.out.1 HI.out.2.1 HI.out.2.2.1 HI.out.2.2.2 rfl (by decide) (.slice ar rl cr) rl (quadL R) rfl HO7.out.1 ⟨w6.heap.size,0,none⟩ 1 1 (quadL [qd]) rfl rfl (fun j u hj=>by rw [Addr.add_lit,Nat.zero_add];exact HO7.out.2 j u hj) (by intro u hu;simp [quadL] at hu;rcases hu with rfl|rfl|rfl|rfl <;> rfl) (by unfold maxLen;omega) (by omega) (by simp;omega) ?_)
      intro v7 w7 ho7 hg7 _ hat7
      have H7:Hid (GoodK perm (K.take (k+1))/\w7.ownsRow w3.heap.size 122 4 v7 (R++[qd]).length (quadL (R++[qd]))/\Below w3.heap.size w3 w7):=by
       refine ⟨HG1.out,by rw [quadL_app,List.length_append,<- HRl.out];exact ho7,?_⟩
       exact (HO6.out.2.1.trans ((below_alloc _ _).mono hz3r)).grown hg7 (by simp;omega) (fun g e=>(own_lt HQ.out.1 g e).1)
      have HN:Hid (R++[qd]=(K.take (k+1)).map (quadOf perm)):=by
       show R++[qd]=_
       rw [List.take_add_one,List.getElem?_eq_getElem hkK,List.map_append,<- HQ.out.2.2.1,HQq.out,HKy.out.1]
       rfl
      obtain ⟨a7,c7,e7,_⟩:=own_form ho7
      subst e7
      clear ho7 hg7 hat7 HO7
      go_wp2
      go_roundw
      case rel=>exact ⟨k+1,R++[qd],by omega,by go_num,HN.out,H7.out⟩
      case measure=>simp [intOf];omega
    ·have hszi:¬ (key.size:Int)=16:=by omega
     have HNo:Hid (¬ GoodK perm K):=fun h=>hsz (h key HKy.out.2).1
     go_wp2
     refine bodyPost_ret (v:=.tuple #[.slice none 0 0,.bool false]) (by simp [results,Tryz.results104,go_sem]) rfl ?_
     exact ⟨false,none,0,[],rfl,HBw.out,.inl rfl,.inr ⟨rfl,rfl,HNo.out⟩⟩
   ·obtain rfl:k=kl:=by omega
    have k1:¬ (k:Int)<(k:Int):=by omega
    have HF:Hid (RdQ wr ar R/\rl=R.length/\R=K.map (quadOf perm)/\GoodK perm K):=by
     have ho:=HQ.out.1
     rw [HRl.out] at ho
     have e:K.take k=K:=by rw [HKL.out,List.take_length]
     refine ⟨own_rdq ho,HRl.out,?_,?_⟩
     ·rw [HQ.out.2.2.1,e]
     ·have:=HQ.out.2.2.2.1
      rw [e] at this
      exact this
    go_wp2
    refine bodyPost_ret (v:=.tuple #[.slice ar rl cr,.bool true]) (by simp [results,Tryz.results104,go_sem]) rfl ?_
    exact ⟨true,ar,cr,R,by rw [<- HF.out.2.1],HBw.out,HF.out.1,.inl ⟨rfl,HF.out.2.2.1,HF.out.2.2.2⟩⟩
 ·have HC:Hid (Calls Tryz.prog 182 #[.pointer (some p),.slice none 0 0,.string { data:=#[] },.string { data:=#[] }] w (RetGa w.heap.size w ([]++fil { data:=#[] } { data:=#[] } K))):=hcall w none 0 0 [] (Below.refl _ _) (Nat.le_refl _) (World.ownsRow_nil _ _ _ _) rfl (by omega)
  clear hcall
  rw [List.nil_append,fil_all] at HC
  go_enter Tryz.func104,Tryz.ntmps104
  go_wp2_with fail
  (with_reducible refine HC.out.mono ?_)
  rintro e w3 ⟨a3,c3,rfl,ho3,hb3⟩
  obtain ⟨kl,hkl⟩:∃kl,kl=K.length:=⟨_,rfl⟩
  have HKL:Hid (kl=K.length):=hkl
  have S3:Hid (RdS w3 a3 kl (gt K)/\Below w.heap.size w w3):=by
   obtain ⟨a6,c6,e6,q,_⟩:=ownS_strL ho3 rfl
   injection e6 with e6 _ _
   subst e6
   exact ⟨by rw [hkl];exact q.rd,hb3⟩
  rw [<- hkl] at hlen ⊢
  clear hkl ho3 hb3 HC
  go_wp2
  go_loopw [4,6,7,14] (fun out _ _ i wr=>∃(k:Nat) (R:List Qd),k<=kl/\i=.int .i64 k/\R=(K.take k).map (quadOf perm)/\GoodK perm (K.take k)/\wr.ownsRow w3.heap.size 122 4 out R.length (quadL R)/\Below w3.heap.size w3 wr) (fun _ _ _ i _=>kl-(intOf i).toNat)
  case atStart=>exact ⟨0,[],Nat.zero_le _,rfl,rfl,(fun k hk=>by simp at hk),World.ownsRow_nil _ _ _ _,Below.refl _ _⟩
  case round=>
   obtain ⟨k,R,hk,rfl,hR,hgd,hown,hbel⟩:=hrel
   obtain ⟨ar,cr,er,_⟩:=own_form hown
   subst er
   have hRl:R.length=k:=by rw [hR,List.length_map,List.length_take,<- HKL.out];omega
   have HQ:Hid (wr.ownsRow w3.heap.size 122 4 (.slice ar R.length cr) R.length (quadL R)/\Below w3.heap.size w3 wr/\R=(K.take k).map (quadOf perm)/\GoodK perm (K.take k)/\R.length=k):=⟨hown,hbel,hR,hgd,hRl⟩
   clear hown hbel hR hgd hRl
   obtain ⟨rl,hrl⟩:∃rl,rl=R.length:=⟨_,rfl⟩
   have HRl:Hid (rl=R.length):=hrl
   have hrlk:rl=k:=hrl.trans HQ.out.2.2.2.2
   have hrlk1:rl<=k:=by omega
   rw [<- hrl] at HQ ⊢
   clear hrl hrlk
   have k0:(0:Int)<=(k:Int):=by omega
   have HBw:Hid (Below w.heap.size w wr):=S3.out.2.trans (HQ.out.2.1.mono S3.out.2.size)
   by_cases hlt:k<kl
   ·have k1:(k:Int)<(kl:Int):=by omega
    have hkK:k<K.length:=by rw [<- HKL.out];exact hlt
    obtain ⟨bb,oo,ea2,s1⟩:=(S3.out.1.below HQ.out.2.1).cellOf k hlt
    obtain ⟨key,hkey⟩:∃key,key=gt K k:=⟨_,rfl⟩
    rw [<- hkey] at s1
    have HKy:Hid (key=K[k]/\key∈K):=by
     have e:key=K[k]:=by rw [hkey,gt_in hkK]
     exact ⟨e,by rw [e];exact List.getElem_mem hkK⟩
    have l0:wr.cell? ⟨b,o,none⟩=some (.func (.func (layF perm)) #[] #[]):=by
     rw [HBw.out.cell (show b<w.heap.size from HP.out.2.2)]
     exact HP.out.2.1
    clear hkey hc1
    subst ea2
    by_cases hsz:key.size=16
    ·have hszi:(key.size:Int)=16:=by omega
     have HQd:Hid (Calls Tryz.prog 127 #[.func (.func (layF perm)) #[] #[],.string key] wr fun e w'=>e=.returned (qv (quadOf perm key))/\Below wr.heap.size wr w'):=quad_any perm HP.out.1 key hsz wr
     go_wp2_with fail
     (with_reducible refine HQd.out.mono ?_)
     rintro e w5 ⟨rfl,hb5⟩
     obtain ⟨qd,hqd⟩:∃qd,qd=quadOf perm key:=⟨_,rfl⟩
     have HQq:Hid (qd=quadOf perm key):=hqd
     have HIs:Hid (∀W:World,Calls Tryz.prog 128 #[.agg #[.int .i64 qd.s,.int .i64 qd.p,.int .i64 qd.o,.int .i64 qd.g]] W fun e w'=>e=.returned (.bool (quadB qd))/\Below W.heap.size W w'):=fun W=>isQuad_any qd W
     rw [<- hqd]
     clear hqd
     unfold qv
     go_wp2_with fail
     (with_reducible refine (HIs.out _).mono ?_)
     rintro e w6 ⟨rfl,hb6⟩
     have z:=(Bx.new w5 #[.int .i64 qd.s,.int .i64 qd.p,.int .i64 qd.o,.int .i64 qd.g] 122)
     have hz5:=hb5.size
     have hz6:=hb6.size
     have hz3:=HQ.out.2.1.size
     simp only [World.size_alloc] at hz6
     have hb56:Below w5.heap.size w5 w6:=(below_alloc w5 (.cells #[.int .i64 qd.s,.int .i64 qd.p,.int .i64 qd.o,.int .i64 qd.g] 122)).trans (hb6.mono (by simp))
     have z6:Bx w6 w5.heap.size 122 #[.int .i64 qd.s,.int .i64 qd.p,.int .i64 qd.o,.int .i64 qd.g]:=(hb6.block _ (by simp)).trans z
     have y0:=z6.cell 0
     have y1:=z6.cell 1
     have y2:=z6.cell 2
     have y3:=z6.cell 3
     simp at y0 y1 y2 y3
     have HO6:Hid (w6.ownsRow w3.heap.size 122 4 (.slice ar rl cr) rl (quadL R)/\Below w3.heap.size w3 w6/\Below w.heap.size w w6):=by
      have q1:Below wr.heap.size wr w6:=hb5.trans (hb56.mono hz5)
      have q2:Below w3.heap.size w3 w6:=HQ.out.2.1.trans (q1.mono hz3)
      exact ⟨own_below HQ.out.1 q1,q2,S3.out.2.trans (q2.mono S3.out.2.size)⟩
     cases hq:quadB qd with
     | false=>
      have HNo:Hid (¬ GoodK perm K):=fun h=>by
       have:=(h key HKy.out.2).2
       rw [<- HQq.out,hq] at this
       cases this
      clear hb5 hb6 hb56 z z6 HQd HIs
      go_wp2
      refine bodyPost_ret (v:=.tuple #[.slice none 0 0,.bool false]) (by simp [results,Tryz.results104,go_sem]) rfl ?_
      exact ⟨false,none,0,[],rfl,HO6.out.2.2,.inl rfl,.inr ⟨rfl,rfl,HNo.out⟩⟩
     | true=>
      have HG1:Hid (GoodK perm (K.take (k+1))):=by
       intro x hx
       rw [List.take_add_one,List.getElem?_eq_getElem hkK] at hx
       rcases List.mem_append.1 hx with hx|hx
       ·exact HQ.out.2.2.2.1 x hx
       ·have e:x=K[k]:=by simpa using hx
        rw [e,<- HKy.out.1]
        exact ⟨hsz,by rw [<- HQq.out];exact hq⟩
      have hz3r:w3.heap.size<=w6.heap.size:=by omega
      have HO7:Hid ((w6.alloc (.cells #[.int .i64 qd.s,.int .i64 qd.p,.int .i64 qd.o,.int .i64 qd.g] 122)).ownsRow w3.heap.size 122 4 (.slice ar rl cr) rl (quadL R)/\(∀j u,(quadL [qd])[j]?=some u->(w6.alloc (.cells #[.int .i64 qd.s,.int .i64 qd.p,.int .i64 qd.o,.int .i64 qd.g] 122)).cell? ⟨w6.heap.size,j,none⟩=some u)):=by
       refine ⟨own_below HO6.out.1 (below_alloc _ _),fun j u hj=>?_⟩
       rw [(Bx.new w6 #[.int .i64 qd.s,.int .i64 qd.p,.int .i64 qd.o,.int .i64 qd.g] 122).cell j]
       simpa [quadL] using hj
      clear hb5 hb6 hb56 z z6 HQd HIs
      go_wp2_with (at_builtin;refine wpList_append_own_at _ rfl _ _ 64 rfl w3.heap.size 122 i0 _ 4 32 Tryz.underlying64 HI.out.1 HI.out.2.1 HI.out.2.2.1 HI.out.2.2.2 rfl (by decide) (.slice ar rl cr) rl (quadL R) rfl HO7.out.1 ⟨w6.heap.size,0,none⟩ 1 1 (quadL [qd]) rfl rfl (fun j u hj=>by rw [Addr.add_lit,Nat.zero_add];exact HO7.out.2 j u hj) (by intro u hu;simp [quadL] at hu;rcases hu with rfl|rfl|rfl|rfl <;> rfl) (by unfold maxLen;omega) (by omega) (by simp;omega) ?_)
      intro v7 w7 ho7 hg7 _ hat7
      have H7:Hid (GoodK perm (K.take (k+1))/\w7.ownsRow w3.heap.size 122 4 v7 (R++[qd]).length (quadL (R++[qd]))/\Below w3.heap.size w3 w7):=by
       refine ⟨HG1.out,by rw [quadL_app,List.length_append,<- HRl.out];exact ho7,?_⟩
       exact (HO6.out.2.1.trans ((below_alloc _ _).mono hz3r)).grown hg7 (by simp;omega) (fun g e=>(own_lt HQ.out.1 g e).1)
      have HN:Hid (R++[qd]=(K.take (k+1)).map (quadOf perm)):=by
       show R++[qd]=_
       rw [List.take_add_one,List.getElem?_eq_getElem hkK,List.map_append,<- HQ.out.2.2.1,HQq.out,HKy.out.1]
       rfl
      obtain ⟨a7,c7,e7,_⟩:=own_form ho7
      subst e7
      clear ho7 hg7 hat7 HO7
      go_wp2
      go_roundw
      case rel=>exact ⟨k+1,R++[qd],by omega,by go_num,HN.out,H7.out⟩
      case measure=>simp [intOf];omega
    ·have hszi:¬ (key.size:Int)=16:=by omega
     have HNo:Hid (¬ GoodK perm K):=fun h=>hsz (h key HKy.out.2).1
     go_wp2
     refine bodyPost_ret (v:=.tuple #[.slice none 0 0,.bool false]) (by simp [results,Tryz.results104,go_sem]) rfl ?_
     exact ⟨false,none,0,[],rfl,HBw.out,.inl rfl,.inr ⟨rfl,rfl,HNo.out⟩⟩
   ·obtain rfl:k=kl:=by omega
    have k1:¬ (k:Int)<(k:Int):=by omega
    have HF:Hid (RdQ wr ar R/\rl=R.length/\R=K.map (quadOf perm)/\GoodK perm K):=by
     have ho:=HQ.out.1
     rw [HRl.out] at ho
     have e:K.take k=K:=by rw [HKL.out,List.take_length]
     refine ⟨own_rdq ho,HRl.out,?_,?_⟩
     ·rw [HQ.out.2.2.1,e]
     ·have:=HQ.out.2.2.2.1
      rw [e] at this
      exact this
    go_wp2
    refine bodyPost_ret (v:=.tuple #[.slice ar rl cr,.bool true]) (by simp [results,Tryz.results104,go_sem]) rfl ?_
    exact ⟨true,ar,cr,R,by rw [<- HF.out.2.1],HBw.out,HF.out.1,.inl ⟨rfl,HF.out.2.2.1,HF.out.2.2.2⟩⟩
end Go.Proofs.YtpaomghibppgkaaGreat
