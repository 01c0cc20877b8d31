import Derived.Test.YtpaomghibppgkaaGreatNv43
import Derived.Test.YtpaomghibppgkaaGreatNv44
import Derived.Test.YtpaomghibppgkaaGreatNv11
import Derived.Test.YtpaomghibppgkaaGreatNv15
import Derived.Test.YtpaomghibppgkaaGreatNv36
set_option linter.unusedVariables false
set_option maxRecDepth 100000
namespace Go.Proofs.YtpaomghibppgkaaGreat
open Go.RowKit Go.Deep
set_option linter.unusedSimpArgs false

theorem base_uniq {I:Nat->Int} {b1 n1 b2 n2:Nat} (h1:Begins (fun i=>arOf (I (b1+i))) (n1+1) 0) (h2:Begins (fun i=>arOf (I (b2+i))) (n2+1) 0) (h:b1+n1=b2+n2):b1=b2/\n1=n2:=by
 have q1:=begins_lift (A:=arI I) (base:=b1) h1
 have q2:=begins_lift (A:=arI I) (base:=b2) h2
 rw [show b1+(n1+1)=b2+(n2+1) by omega] at q1
 have:=q1.uniq q2
 omega
theorem DLF_len {fs:Qd->Nat} {id:ByteArray->Int} {Q:List Qd} {I:Nat->Int} {X R:Nat->ByteArray} :
  ∀(f base m:Nat) (x:Cx),m+1<=f->Begins (fun i=>arOf (I (base+i))) (m+1) 0->(DLF fs id Q I X R f base m x).length=m+1
 | 0,base,m,x,hf,_=>absurd hf (by omega)
 | f+1,base,m,x,hf,hb=>by
  show (_++_:List Nat).length=_
  rw [List.length_append]
  show _+1=_
  congr 1
  rcases ops_at hb with ⟨e,hm⟩|⟨e,h0,e0,g0⟩|⟨e,s,h0,h1,e0,e1,g0,g1⟩
  ·rw [if_pos e,hm]
   rfl
  ·rw [if_neg (by omega),if_pos e,DLF_len f base (m-1) _ (by omega) g0]
   omega
  ·have hs1:base+(s-1)+1=base+s:=by omega
   have hs2:base+m-(base+(s-1))-2=m-s-1:=by omega
   have hs3:base+(s-1)-base=s-1:=by omega
   rw [if_neg (by omega),if_neg (by omega),e0,hs1,hs2,hs3,List.length_append,DLF_len f base (s-1) _ (by omega) g0,DLF_len f (base+s) (m-s-1) _ (by omega) g1]
   omega
set_option maxHeartbeats 4000000 in
theorem l6Default_any {N:Nat} {I:Nat->Int} {X R:Nat->ByteArray} (hv:∀i,i<N->1<=I i/\I i<=9) (next:Int) (a:Option Addr) (n c:Nat) (qa:Option Addr) (ll qc:Nat) (LL:List Qd) (id:ByteArray->Int) (hll:ll=LL.length) (hl3:ll<=300):∀(f b o base m cc:Nat) (x:Cx) (w:World),RdN w (some ⟨b,o,none⟩) (m+1) (fun i=>I (base+i)) (fun i=>X (base+i)) (fun i=>R (base+i))->TidC w next a n c id->RdQ w qa LL->m+1<=f->f<=1000->m+1<=cc->cc<=9223372036854775807->base+m<N->Begins (fun i=>arOf (I (base+i))) (m+1) 0->
  Calls Tryz.prog 27 #[.slice (some ⟨b,o,none⟩) (m+1) cc,.agg #[.int .i64 next,.slice a n c,.slice qa ll qc],.agg #[.bool x.b,.int .i64 x.g]] w (RetIl w (DLF fsQ id LL I X R f base m x))
 | 0,b,o,base,m,cc,x,w,_,_,_,hf,_,_,_,_,_=>absurd hf (by omega)
 | f+1,b,o,base,m,cc,x,w,hR,hT,hq,hf,hf2,hc,hcm,hN,hb=>by
  have IH:=l6Default_any (X:=X) (R:=R) hv next a n c qa ll qc LL id hll hl3 f
  obtain ⟨r,ks,hko⟩:=kids_ex b o cc m hb (arOf_le _)
  have hkd:∀W,Below w.heap.size w W->Calls Tryz.prog 56 #[.slice (some ⟨b,o,none⟩) (m+1) cc] W fun e w'=>∃go cpo,e=.returned (.slice (some ⟨go,0,none⟩) ks.length cpo)/\(∀i x,ks[i]?=some x->w'.cell? ⟨go,i,none⟩=some x)/\Below W.heap.size W w':=fun W hW=>by
   refine (l6Kids_any b o m cc (fun i=>I (base+i)) (fun i=>X (base+i)) (fun i=>R (base+i)) W (hR.below hW) (by omega) hc hcm hb).mono ?_
   rintro e w' ⟨v,r',ks',rfl,hko',hka,hb2⟩
   obtain ⟨go,cpo,rfl,hks⟩:=hka
   have e:=kids_uniq hko hko'
   subst e
   exact ⟨go,cpo,rfl,hks,hb2⟩
  have hM:RtA w (.slice (some ⟨b,o,none⟩) (m+1) cc) (I (base+m)) (X (base+m)) (R (base+m)) ks:=⟨fun W hW=>l6Root_any b o m cc _ _ _ W (hR.below hW) (by omega),hkd⟩
  have hkt:=kids_text hko hR hc hb
  have hlen:=hko.len
  have hop:=ops_at hb
  obtain ⟨y,hy⟩:∃y,y=dnC id (I (base+m)) (X (base+m)) x:=⟨_,rfl⟩
  have hK:∀i,i<arOf (I (base+m))->∃ad n' c' D,ks[i]?=some (.slice ad (n'+1) c')/\KidG w (.slice ad (n'+1) c') next a n c qa ll qc (fun x=>GS id LL I X R (opf (arI I) (base+m) i) x)/\KidD w (.slice ad (n'+1) c') next a n c qa ll qc y D/\(arOf (I (base+m))=1->D=DLF fsQ id LL I X R f base (m-1) y)/\(arOf (I (base+m))=2->i=0->D=DLF fsQ id LL I X R f base (opf (arI I) (base+m) 0-base) y)/\(arOf (I (base+m))=2->i=1->D=DLF fsQ id LL I X R f (opf (arI I) (base+m) 0+1) (base+m-opf (arI I) (base+m) 0-2) y):=fun i hi=>by
   obtain ⟨o',n',c',base',q1,q2,q3,q4,q5,q6,q7,q8⟩:=hkt i hi
   have hDl:=DLF_len (fs:=fsQ) (id:=id) (Q:=LL) (X:=X) (R:=R) f base' n' y (by omega) q3
   refine ⟨_,n',c',DLF fsQ id LL I X R f base' n' y,q1,fun W x hW=>?_,⟨by omega,by omega,fun W hW=>?_⟩,fun e1=>?_,fun e2 i0=>?_,fun e2 i1=>?_⟩
   ·rw [<- q7]
    exact l6Guess_any (X:=X) (R:=R) hv next a n c qa ll qc LL id hll hl3 1000 b o' base' n' c' x W (q2.below hW) (hT.below hW) (hq.below hW) (by omega) (by omega) q5 (by omega) (by omega) q3
   ·exact IH b o' base' n' c' y W (q2.below hW) (hT.below hW) (hq.below hW) (by omega) (by omega) q5 (by omega) (by omega) q3
   ·rcases hop with ⟨e,hm⟩|⟨e,h0,e0,g0⟩|⟨e,s,h0,h1,e0,e1,g0,g1⟩
    ·omega
    ·obtain rfl:i=0:=by omega
     obtain ⟨rfl,rfl⟩:=base_uniq q3 g0 (by omega)
     rfl
    ·omega
   ·subst i0
    rcases hop with ⟨e,hm⟩|⟨e,h0,e0,g0⟩|⟨e,s,h0,h1,e0,e1,g0,g1⟩
    ·omega
    ·omega
    ·obtain ⟨rfl,rfl⟩:=base_uniq q3 g0 (by omega)
     rw [e0,Nat.add_sub_cancel_left]
   ·subst i1
    rcases hop with ⟨e,hm⟩|⟨e,h0,e0,g0⟩|⟨e,s,h0,h1,e0,e1,g0,g1⟩
    ·omega
    ·omega
    ·obtain ⟨hu1,hu2⟩:=base_uniq q3 g1 (by omega)
     rw [hu1,hu2,e0,show base+(s-1)+1=base+s by omega,show base+m-(base+(s-1))-2=m-s-1 by omega]
  have hk9:=hv (base+m) hN
  have hD:DLF fsQ id LL I X R (f+1) base m x=(if arOf (I (base+m))=0 then [] else if arOf (I (base+m))=1 then DLF fsQ id LL I X R f base (m-1) y else DLF fsQ id LL I X R f base (opf (arI I) (base+m) 0-base) y++DLF fsQ id LL I X R f (opf (arI I) (base+m) 0+1) (base+m-opf (arI I) (base+m) 0-2) y)++[chN fsQ (I (base+m)) x.b (ownN id LL (I (base+m)) (X (base+m)) (R (base+m)) x) (GS id LL I X R (opf (arI I) (base+m) 0) y) (GS id LL I X R (opf (arI I) (base+m) 1) y)]:=by
   rw [hy]
   rfl
  rw [hD]
  obtain ⟨xb,xg⟩:=x
  clear hkt hkd IH hop hD
  obtain ⟨k,hk⟩:∃k,k=I (base+m):=⟨_,rfl⟩
  obtain ⟨s,hs⟩:∃s,s=X (base+m):=⟨_,rfl⟩
  obtain ⟨t,ht⟩:∃t,t=R (base+m):=⟨_,rfl⟩
  generalize DLF fsQ id LL I X R f base (m-1) y=A1 at hK ⊢
  generalize DLF fsQ id LL I X R f base (opf (arI I) (base+m) 0-base) y=A2 at hK ⊢
  generalize DLF fsQ id LL I X R f (opf (arI I) (base+m) 0+1) (base+m-opf (arI I) (base+m) 0-2) y=A3 at hK ⊢
  rw [<- hk,<- hs,<- ht] at hM
  rw [<- hk] at hK hk9 hlen hko
  rw [<- hk,<- hs,<- ht]
  rw [<- hk,<- hs] at hy
  clear hk hs ht
  have h9:k=1\/k=2\/k=3\/k=4\/k=5\/k=6\/k=7\/k=8\/k=9:=by omega
  rcases h9 with rfl|rfl|rfl|rfl|rfl|rfl|rfl|rfl|rfl
  ·obtain rfl:ks=[]:=List.length_eq_zero_iff.1 hlen
   refine (def_a _ 1 (by decide) next a n c qa ll qc LL id xb xg s t w y hy ⟨_,_,_,rfl⟩ hT hq hll hl3 hM).mono ?_
   intro e w' h
   simpa [arOf,chN] using h
  ·obtain rfl:ks=[]:=List.length_eq_zero_iff.1 hlen
   refine (def_a _ 2 (by decide) next a n c qa ll qc LL id xb xg s t w y hy ⟨_,_,_,rfl⟩ hT hq hll hl3 hM).mono ?_
   intro e w' h
   simpa [arOf,chN] using h
  ·obtain ⟨a0,n0,c0,D0,e0,h0,d0,f0,-,-⟩:=hK 0 (by decide)
   obtain rfl:=f0 (by decide)
   obtain rfl:ks=[.slice a0 (n0+1) c0]:=by
    match ks,hlen,e0 with
    | [z],_,e0=>injection e0 with e0;rw [e0]
   refine (def_b _ 3 (by decide) next a n c qa ll qc LL id xb xg s t a0 (n0+1) c0 _ _ w y hy ⟨_,_,_,rfl⟩ hT hq hll hl3 hM h0 d0).mono ?_
   intro e w' h
   simpa [arOf,chN] using h
  ·obtain ⟨a0,n0,c0,D0,e0,h0,d0,f0,-,-⟩:=hK 0 (by decide)
   obtain rfl:=f0 (by decide)
   obtain rfl:ks=[.slice a0 (n0+1) c0]:=by
    match ks,hlen,e0 with
    | [z],_,e0=>injection e0 with e0;rw [e0]
   refine (def_b _ 4 (by decide) next a n c qa ll qc LL id xb xg s t a0 (n0+1) c0 _ _ w y hy ⟨_,_,_,rfl⟩ hT hq hll hl3 hM h0 d0).mono ?_
   intro e w' h
   simpa [arOf,chN] using h
  ·obtain ⟨a0,n0,c0,D0,e0,h0,d0,f0,-,-⟩:=hK 0 (by decide)
   obtain rfl:=f0 (by decide)
   obtain rfl:ks=[.slice a0 (n0+1) c0]:=by
    match ks,hlen,e0 with
    | [z],_,e0=>injection e0 with e0;rw [e0]
   refine (def_b _ 5 (by decide) next a n c qa ll qc LL id xb xg s t a0 (n0+1) c0 _ _ w y hy ⟨_,_,_,rfl⟩ hT hq hll hl3 hM h0 d0).mono ?_
   intro e w' h
   simpa [arOf,chN] using h
  ·obtain ⟨a0,n0,c0,D0,e0,h0,d0,-,f0,-⟩:=hK 0 (by decide)
   obtain ⟨a1,n1,c1,D1,e1,h1,d1,-,-,f1⟩:=hK 1 (by decide)
   obtain rfl:=f0 (by decide) rfl
   obtain rfl:=f1 (by decide) rfl
   obtain rfl:ks=[.slice a0 (n0+1) c0,.slice a1 (n1+1) c1]:=by
    match ks,hlen,e0,e1 with
    | [z,z'],_,e0,e1=>injection e0 with e0;injection e1 with e1;rw [e0,e1]
   refine (def_c _ 6 (by decide) next a n c qa ll qc LL id xb xg s t a0 (n0+1) c0 a1 (n1+1) c1 _ _ _ _ w y hy ⟨_,_,_,rfl⟩ hT hq hll hl3 hM h0 d0 h1 d1).mono ?_
   intro e w' h
   simpa [arOf,chN] using h
  ·obtain ⟨a0,n0,c0,D0,e0,h0,d0,-,f0,-⟩:=hK 0 (by decide)
   obtain ⟨a1,n1,c1,D1,e1,h1,d1,-,-,f1⟩:=hK 1 (by decide)
   obtain rfl:=f0 (by decide) rfl
   obtain rfl:=f1 (by decide) rfl
   obtain rfl:ks=[.slice a0 (n0+1) c0,.slice a1 (n1+1) c1]:=by
    match ks,hlen,e0,e1 with
    | [z,z'],_,e0,e1=>injection e0 with e0;injection e1 with e1;rw [e0,e1]
   refine (def_c _ 7 (by decide) next a n c qa ll qc LL id xb xg s t a0 (n0+1) c0 a1 (n1+1) c1 _ _ _ _ w y hy ⟨_,_,_,rfl⟩ hT hq hll hl3 hM h0 d0 h1 d1).mono ?_
   intro e w' h
   simpa [arOf,chN] using h
  ·obtain ⟨a0,n0,c0,D0,e0,h0,d0,-,f0,-⟩:=hK 0 (by decide)
   obtain ⟨a1,n1,c1,D1,e1,h1,d1,-,-,f1⟩:=hK 1 (by decide)
   obtain rfl:=f0 (by decide) rfl
   obtain rfl:=f1 (by decide) rfl
   obtain rfl:ks=[.slice a0 (n0+1) c0,.slice a1 (n1+1) c1]:=by
    match ks,hlen,e0,e1 with
    | [z,z'],_,e0,e1=>injection e0 with e0;injection e1 with e1;rw [e0,e1]
   refine (def_c _ 8 (by decide) next a n c qa ll qc LL id xb xg s t a0 (n0+1) c0 a1 (n1+1) c1 _ _ _ _ w y hy ⟨_,_,_,rfl⟩ hT hq hll hl3 hM h0 d0 h1 d1).mono ?_
   intro e w' h
   simpa [arOf,chN] using h
  ·obtain ⟨a0,n0,c0,D0,e0,h0,d0,f0,-,-⟩:=hK 0 (by decide)
   obtain rfl:=f0 (by decide)
   obtain rfl:ks=[.slice a0 (n0+1) c0]:=by
    match ks,hlen,e0 with
    | [z],_,e0=>injection e0 with e0;rw [e0]
   refine (def_b _ 9 (by decide) next a n c qa ll qc LL id xb xg s t a0 (n0+1) c0 _ _ w y hy ⟨_,_,_,rfl⟩ hT hq hll hl3 hM h0 d0).mono ?_
   intro e w' h
   simpa [arOf,chN] using h
set_option linter.unusedSimpArgs false

def idF (n:Nat) (I:Nat->Int) (X:Nat->ByteArray) (x:ByteArray):Int:=
 match (List.range n).find? (fun i=>decide (X i=x)) with
 | some i=>I i
 | none=>0
theorem idF_of {next:Int} {n:Nat} {I:Nat->Int} {X:Nat->ByteArray} {R:Nat->Int} (hv:VDt next n I X R) (x:ByteArray):IdOf n I X R next x (idF n I X x):=by
 refine ⟨fun _=>?_,fun h=>absurd hv h⟩
 unfold idF
 split
 ·rename_i i hi
  have h1:=List.find?_some hi
  have h2:=List.mem_of_find?_eq_some hi
  exact .inl ⟨i,List.mem_range.1 h2,of_decide_eq_true h1,rfl⟩
 ·rename_i hi
  refine .inr ⟨fun i h e=>?_,rfl⟩
  have:=List.find?_eq_none.1 hi i (List.mem_range.2 h)
  exact this (decide_eq_true e)
theorem tid_of {next:Int} {a:Option Addr} {n c:Nat} {I:Nat->Int} {X:Nat->ByteArray} {R:Nat->Int} {w:World} (hv:VDt next n I X R) (h:RdT w a n I X R) (hn:n<=1048576):TidC w next a n c (idF n I X):=fun W x hW=>by
 refine (specTermId next a n c I X R x W (h.below hW) hn).mono ?_
 rintro e w' ⟨r,rfl,hid,hb⟩
 rw [hid.same (idF_of hv x)]
 exact ⟨rfl,hb⟩
theorem gn_range {k:Int} {s t:ByteArray} (h:gnB k s t=true):1<=k/\k<=9:=by
 unfold gnB at h
 split at h
 ·omega
 ·split at h
  ·omega
  ·split at h
   ·omega
   ·cases h
theorem step_h2k {ops:Array Oper} {o:Oper} {a:Act} {w:World} {K:Act->World->Prop} {Q:Exit->Act->World->Prop} {E:Prop} (hw:Region.wanted o (yielded ops a.tmps)=true) (k:Nat) (i:Nat) (v:Value) (tys:Array TypeId)
  (ho:o.op=.call { callee:=.value (.func k),args:=#[.tmp i,.const v],argTypes:=tys }) (u:Value) (hx:a.tmps[i]?.getD undef=u) (heg:∀args w,(callFunc k args).run Tryz.prog w=.ok (.enter k args) w)
  (h:Calls Tryz.prog k #[u,v] w fun e w'=>∃r,e=.returned r/\K (a.put o.dst r) w') :
  if Region.wanted o (yielded ops a.tmps)=true then Oper.wp Tryz.prog o a w K Q else E:=by
 rw [if_pos hw]
 unfold Oper.wp
 simp [execOp,ho,resolve,invoke,hx,go_sem,heg]
 refine h.mono ?_
 rintro e w' ⟨u,rfl,hk⟩
 exact hk
structure DpS (w W:World) (pa:Option Addr) (n pc:Nat) (next:Int) (da:Option Addr) (dn dc:Nat) (xa:Option Addr) (xn xc:Nat):Prop where
 pb:Bx W w.heap.size 38 #[.slice pa n pc]
 db:Bx W (w.heap.size+1) 42 #[.int .i64 next,.slice da dn dc]
 xb:Bx W (w.heap.size+2) 46 #[.slice xa xn xc]
 bel:Below w.heap.size w W
section
variable {w W W' : World} {pa:Option Addr} {n pc:Nat} {next:Int} {da:Option Addr} {dn dc:Nat} {xa:Option Addr} {xn xc:Nat}
theorem DpS.keep (h:DpS w W pa n pc next da dn dc xa xn xc) (hb:Below W.heap.size W W'):DpS w W' pa n pc next da dn dc xa xn xc:=
 ⟨(hb.block _ h.pb.lt).trans h.pb,(hb.block _ h.db.lt).trans h.db,(hb.block _ h.xb.lt).trans h.xb,h.bel.trans (hb.mono h.bel.size)⟩
theorem DpS.cells (h:DpS w W pa n pc next da dn dc xa xn xc) :
  W.cell? ⟨w.heap.size,0,none⟩=some (.slice pa n pc)/\(W.cell? ⟨w.heap.size+1,0,none⟩=some (.int .i64 next)/\W.cell? ⟨w.heap.size+1,1,none⟩=some (.slice da dn dc))/\W.cell? ⟨w.heap.size+2,0,none⟩=some (.slice xa xn xc):=by
 have p0:=h.pb.cell 0
 have d0:=h.db.cell 0
 have d1:=h.db.cell 1
 have x0:=h.xb.cell 0
 simp at p0 d0 d1 x0
 exact ⟨p0,⟨d0,d1⟩,x0⟩
end
def RetDp (w:World) (n:Nat) (I:Nat->Int) (X R:Nat->ByteArray) (next:Int) (dn:Nat) (Id:Nat->Int) (Xd:Nat->ByteArray) (Rd:Nat->Int) (xn:Nat) (M:Nat->Nat) (T:Nat->Nat->Tn) (e:Ending) (w' : World):Prop:=
 ((VPth n I X R/\VDt next dn Id Xd Rd/\VI xn M T)->∀t,VTt (M 0) (T 0) t->RetIl w (DLF fsQ (idF dn Id Xd) ((keysR 21 t).map (quadOf 0)) I X R n 0 (n-1) ⟨false,0⟩) e w')/\(¬ (VPth n I X R/\VDt next dn Id Xd Rd/\VI xn M T)->RetIl w [] e w')
theorem retil_nil {w W:World} (h:Below w.heap.size w W):RetIl w [] (.returned (.slice (some ⟨W.heap.size,0,none⟩) 0 0)) (W.alloc (.cells #[] 2)):=⟨_,rfl,own_empty W 2 w.heap.size 1 h.size,h.alloc h.size _⟩
set_option maxHeartbeats 8000000 in
theorem specDP (pa:Option Addr) (n pc:Nat) (I:Nat->Int) (X R:Nat->ByteArray) (next:Int) (da:Option Addr) (dn dc:Nat) (Id:Nat->Int) (Xd:Nat->ByteArray) (Rd:Nat->Int) (xa:Option Addr) (xn xc:Nat) (M:Nat->Nat) (T:Nat->Nat->Tn) (w:World)
  (hP:RdN w pa n I X R) (hn:n<=1048576) (hpc:n<=pc) (hpm:pc<=9223372036854775807) (hD:RdT w da dn Id Xd Rd) (hdn:dn<=1048576) (hX:RdIx w xa xn M T) (hxn:xn<=1048576) (hxf:IxFit xn M T) :
  Calls Tryz.prog 7 #[.agg #[.slice pa n pc],.agg #[.int .i64 next,.slice da dn dc],.agg #[.slice xa xn xc]] w (RetDp w n I X R next dn Id Xd Rd xn M T):=by
 have HP:Hid (RdN w pa n I X R):=hP
 have HD:Hid (RdT w da dn Id Xd Rd):=hD
 have HX:Hid (RdIx w xa xn M T/\IxFit xn M T):=⟨hX,hxf⟩
 clear hP hD hX hxf
 obtain ⟨W0,hW0⟩:∃W0,W0=((w.alloc (.cells #[.slice pa n pc] 38)).alloc (.cells #[.int .i64 next,.slice da dn dc] 42)).alloc (.cells #[.slice xa xn xc] 46):=⟨_,rfl⟩
 have S0:Hid (DpS w W0 pa n pc next da dn dc xa xn xc):=by
  rw [hW0]
  have b2:=Bx.new (w.alloc (.cells #[.slice pa n pc] 38)) #[.int .i64 next,.slice da dn dc] 42
  have b3:=Bx.new ((w.alloc (.cells #[.slice pa n pc] 38)).alloc (.cells #[.int .i64 next,.slice da dn dc] 42)) #[.slice xa xn xc] 46
  simp only [World.size_alloc] at b2 b3
  exact ⟨((Bx.new w #[.slice pa n pc] 38).alloc _).alloc _,b2.alloc _,b3,((below_alloc _ _).alloc (by simp) _).alloc (by simp;omega) _⟩
 go_enter Tryz.func7,Tryz.ntmps7
 go_upto_region 1 with fail
 rw [<- hW0]
 clear hW0
 obtain ⟨z0,⟨z1,z2⟩,z3⟩:=S0.out.cells
 go_wp2_with fail
 with_reducible refine (specVP pa n pc I X R W0 (HP.out.below S0.out.bel) hn hpc hpm).mono ?_
 rintro e w1 ⟨v1,rfl,hv1,hb1⟩
 have S1:Hid (DpS w w1 pa n pc next da dn dc xa xn xc):=S0.out.keep hb1
 clear hb1 S0 z0 z1 z2 z3
 obtain ⟨z0,⟨z1,z2⟩,z3⟩:=S1.out.cells
 cases v1 with
 | false=>
  have HN:Hid (¬ VPth n I X R):=fun h=>by have:=hv1.2 h;cases this
  clear hv1
  go_wp2
  go_ret
  exact ⟨fun h=>absurd h.1 HN.out,fun _=>retil_nil S1.out.bel⟩
 | true=>
 have HV1:Hid (VPth n I X R):=hv1.1 rfl
 clear hv1
 go_wp2_with fail
 with_reducible refine (specVD next da dn dc Id Xd Rd w1 (HD.out.below S1.out.bel) hdn).mono ?_
 rintro e w2 ⟨v2,rfl,hv2,hb2⟩
 have S2:Hid (DpS w w2 pa n pc next da dn dc xa xn xc):=S1.out.keep hb2
 clear hb2 S1 z0 z1 z2 z3
 obtain ⟨z0,⟨z1,z2⟩,z3⟩:=S2.out.cells
 cases v2 with
 | false=>
  have HN:Hid (¬ VDt next dn Id Xd Rd):=fun h=>by have:=hv2.2 h;cases this
  clear hv2
  go_wp2
  go_ret
  exact ⟨fun h=>absurd h.2.1 HN.out,fun _=>retil_nil S2.out.bel⟩
 | true=>
 have HV2:Hid (VDt next dn Id Xd Rd):=hv2.1 rfl
 clear hv2
 go_wp2_with fail
 with_reducible refine (specVI xa xn xc M T w2 (HX.out.1.below S2.out.bel) hxn HX.out.2).mono ?_
 rintro e w3 ⟨v3,rfl,hv3,hb3⟩
 have S3:Hid (DpS w w3 pa n pc next da dn dc xa xn xc):=S2.out.keep hb3
 clear hb3 S2 z0 z1 z2 z3
 obtain ⟨z0,⟨z1,z2⟩,z3⟩:=S3.out.cells
 cases v3 with
 | false=>
  have HN:Hid (¬ VI xn M T):=fun h=>by have:=hv3.2 h;cases this
  clear hv3
  go_wp2
  go_ret
  exact ⟨fun h=>absurd h.2.2 HN.out,fun _=>retil_nil S3.out.bel⟩
 | true=>
 have HV3:Hid (VI xn M T):=hv3.1 rfl
 clear hv3
 obtain ⟨b,o,rfl⟩:∃b o,pa=some ⟨b,o,none⟩:=by
  rcases HP.out with q|⟨b,o,q,_⟩
  ·have:=HV1.out.1;omega
  ·exact ⟨b,o,q⟩
 obtain rfl:xn=6:=HV3.out.1
 obtain ⟨bb,oo,rfl,hc⟩:∃b o,xa=some ⟨b,o,none⟩/\∀i,i<6->∃ai ci,w.cell? ⟨b,o+i,none⟩=some (.slice ai (M i) ci)/\RdTn w ai (M i) (T i):=by
  rcases HX.out.1 with q|q
  ·cases q
  ·exact q
 obtain ⟨a0,c0,t0,hrd⟩:=hc 0 (by omega)
 rw [Nat.add_zero] at t0
 have hbt:=World.block_lt_of_cell? _ _ t0
 have HT0:Hid (w.cell? ⟨bb,oo,none⟩=some (.slice a0 (M 0) c0)/\RdTn w a0 (M 0) (T 0)):=⟨t0,hrd⟩
 have hfit:=HX.out.2 0 (by omega)
 obtain ⟨t,ht,hl3,hkq⟩:=HV3.out.2.1 0 (by omega)
 have HQ:Hid (∀W,Below w.heap.size w W->Calls Tryz.prog 28 #[.agg #[.slice a0 (M 0) c0],.int .i64 0] W fun e w'=>∃a' c',e=.returned (.slice a' ((keysR 21 t).map (quadOf 0)).length c')/\RdQ w' a' ((keysR 21 t).map (quadOf 0))/\Below W.heap.size W w'):=fun W hW=>
  l5Quads_any 0 (by omega) a0 (M 0) c0 (T 0) t W (hrd.below hW) ht hfit.2 (fun k hk=>(hkq k hk).1) hl3 _ rfl
 obtain ⟨m,hm⟩:∃m,n=m+1:=⟨n-1,by have:=HV1.out.1;omega⟩
 subst hm
 have hvk:∀i,i<m+1->1<=I i/\I i<=9:=fun i hi=>gn_range (HV1.out.2.1 i hi)
 have HDf:Hid (∀W qa qc,Below w.heap.size w W->RdQ W qa ((keysR 21 t).map (quadOf 0))->Calls Tryz.prog 27 #[.slice (some ⟨b,o,none⟩) (m+1) pc,.agg #[.int .i64 next,.slice da dn dc,.slice qa ((keysR 21 t).map (quadOf 0)).length qc],.agg #[.bool false,.int .i64 0]] W (RetIl W (DLF fsQ (idF dn Id Xd) ((keysR 21 t).map (quadOf 0)) I X R (m+1) 0 m ⟨false,0⟩))):=fun W qa qc hW hq=>by
  have hr:RdN W (some ⟨b,o,none⟩) (m+1) (fun i=>I (0+i)) (fun i=>X (0+i)) (fun i=>R (0+i)):=by
   have:=HP.out.below hW
   simpa only [Nat.zero_add] using this
  have hbg:Begins (fun i=>arOf (I (0+i))) (m+1) 0:=by
   have:=HV1.out.2.2.1
   simpa only [Nat.zero_add] using this
  have h100:=HV1.out.1
  exact l6Default_any (N:=m+1) (I:=I) (X:=X) (R:=R) hvk next da dn dc qa _ qc _ (idF dn Id Xd) rfl (by rw [List.length_map];exact hl3) (m+1) b o 0 m pc ⟨false,0⟩ W hr (tid_of HV2.out (HD.out.below hW) hdn) hq (Nat.le_refl _) (by omega) hpc hpm (by omega) hbg
 have HR:Hid (∀e w',RetIl w (DLF fsQ (idF dn Id Xd) ((keysR 21 t).map (quadOf 0)) I X R (m+1) 0 m ⟨false,0⟩) e w'->RetDp w (m+1) I X R next dn Id Xd Rd 6 M T e w'):=fun e w' h=>⟨fun _ t' ht'=>by rw [vtt1 ht' ht];exact h,fun h=>absurd ⟨HV1.out,HV2.out,HV3.out⟩ h⟩
 clear hc t0 hrd hfit ht hl3 hkq hvk
 obtain ⟨LL,hLL⟩:∃LL,LL=(keysR 21 t).map (quadOf 0):=⟨_,rfl⟩
 rw [<- hLL] at HQ HDf HR
 clear hLL
 go_upto_region 3 with fail
 refine wp_region_lateT (S:=fun W=>Below w3.heap.size w3 W) 11 (by kernel_rfl) (Below.refl _ _).drew (fun W hHeld=>?_)
 refine tk 0 .zero (v:=.pointer (some ⟨w.heap.size,0,none⟩)) (fun w' h=>by clear h;go_simp) ?_
 simp only [tkp]
 refine tk 1 (.succ .zero) (v:=.slice (some ⟨b,o,none⟩) (m+1) pc) (fun w' h=>by obtain ⟨q0,⟨q1,q2⟩,q3⟩:=(S3.out.keep h).cells;clear h;go_simp) ?_
 simp only [tkp]
 refine tk 2 (.succ (.succ .zero)) (v:=.agg #[.int .i64 next,.slice da dn dc]) (fun w' h=>by obtain ⟨q0,⟨q1,q2⟩,q3⟩:=(S3.out.keep h).cells;clear h;go_simp) ?_
 simp only [tkp]
 refine tk 3 (.succ (.succ (.succ .zero))) (v:=.pointer (some ⟨w.heap.size+2,0,none⟩)) (fun w' h=>by clear h;go_simp) ?_
 simp only [tkp]
 refine tk 4 (.succ (.succ (.succ (.succ .zero)))) (v:=.slice (some ⟨bb,oo,none⟩) 6 xc) (fun w' h=>by obtain ⟨q0,⟨q1,q2⟩,q3⟩:=(S3.out.keep h).cells;clear h;go_simp) ?_
 simp only [tkp]
 refine tk 5 (.s5 .zero) (v:=.pointer (some ⟨bb,oo,none⟩)) (fun w' h=>by clear h;go_simp) ?_
 simp only [tkp]
 refine tk 6 (.s5 (.succ .zero)) (v:=.agg #[.slice a0 (M 0) c0]) (fun w' h=>by have q:=((S3.out.keep h).bel.cell (p:=⟨bb,oo,none⟩) hbt).trans HT0.out.1;clear h;go_simp) ?_
 simp only [tkp]
 refine tk 9 (.s5 (.succ (.succ (.succ (.succ .zero))))) (v:=.agg #[.bool false,.int .i64 0]) (fun w' h=>by clear h;go_simp) ?_
 simp only [tkp]
 refine tk1 7 (.s5 (.succ (.succ .zero))) (fun K hK=>?_)
 refine step_h2k rfl 28 27 (.int .i64 0) _ rfl (.agg #[.slice a0 (M 0) c0]) rfl (fun _ _=>rfl) ?_
 refine (HQ.out W (S3.out.keep hHeld).bel).mono ?_
 rintro e w5 ⟨qa,qc,rfl,hq5,hbm⟩
 have hb5:Below w3.heap.size w3 w5:=hHeld.trans (hbm.mono hHeld.size)
 refine ⟨_,rfl,hK.out _ _ (fun _=>hb5) (fun hG=>?_)⟩
 clear hK K hG hbm
 have HQ5:Hid (RdQ w5 qa LL):=hq5
 clear hq5
 simp only [tkp]
 refine tk 8 (.s5 (.succ (.succ (.succ .zero)))) (v:=.agg #[.int .i64 next,.slice da dn dc,.slice qa LL.length qc]) (fun w' h=>by clear h;go_simp) ?_
 simp only [tkp]
 refine tk1 10 (.s5 (.s5 .zero)) (fun K hK=>?_)
 refine step_h3 rfl 27 22 29 30 _ rfl (.slice (some ⟨b,o,none⟩) (m+1) pc) (.agg #[.int .i64 next,.slice da dn dc,.slice qa LL.length qc]) (.agg #[.bool false,.int .i64 0]) rfl rfl rfl (fun _ _=>rfl) ?_
 refine (HDf.out w5 qa qc (S3.out.keep hb5).bel HQ5.out).mono ?_
 rintro e w6 ⟨v6,rfl,ho6,hbm⟩
 have hb6:Below w3.heap.size w3 w6:=hb5.trans (hbm.mono hb5.size)
 refine ⟨_,rfl,hK.out _ _ (fun _=>hb6) (fun hG=>?_)⟩
 clear hK K hG hbm
 simp only [tkp]
 refine tk1 11 (.s5 (.s5 (.succ .zero))) (fun K hK=>?_)
 go_simp
 refine hK.out _ _ (fun hne=>absurd rfl hne) (fun hG=>?_)
 clear hK K hG
 refine wpLate_done (by kernel_rfl) ?_ _
 have HF:Hid (RetIl w (DLF fsQ (idF dn Id Xd) LL I X R (m+1) 0 m ⟨false,0⟩) (.returned v6) w6):=⟨v6,rfl,own_downI ho6 (S3.out.keep hb5).bel.size,(S3.out.keep hb6).bel⟩
 obtain ⟨a8,c8,rfl⟩:=own_shapeI ho6
 go_wp2
 go_ret
 exact HR.out _ _ HF.out
end Go.Proofs.YtpaomghibppgkaaGreat
