import Derived.Test.YtcnollkkigiobaaGreatNd13
import Derived.Test.YtcnollkkigiobaaGreatNd1
import Derived.Test.YtcnollkkigiobaaGreatNd16
import Derived.Test.YtcnollkkigiobaaGreatNd9
import Derived.Test.YtcnollkkigiobaaGreatNd14
import Derived.Laws.BytesString
set_option linter.unusedVariables false
set_option maxRecDepth 100000
namespace Go.Proofs.YtcnollkkigiobaaGreat
open Go.RowKit Go.Deep

theorem late_two {l:List Oper} {P:Program} {Q:Exit->Act->World->Prop} {S:World->Prop} {late:Nat} (i j:Nat) {oi oj:Oper} (hpi:Pick i l oi) (hpj:Pick j l oj) {fuel:Nat} {listed:Array Bool} {a:Act} {w:World} (hr:Region.ready .any l.toArray listed=[i,j])
  (hi:∀K' : Act->World->Prop,Shut (∀a w,(i≠late->S w)->((i≠late->S w)->wpLate P .any l.toArray Q S late fuel (listed.setIfInBounds i true) a w)->K' a w)->if Region.wanted oi (yielded l.toArray a.tmps)=true then Oper.wp P oi a w K' Q else K' (a.put oi.dst undef) w)
  (hj:∀K' : Act->World->Prop,Shut (∀a w,(j≠late->S w)->((j≠late->S w)->wpLate P .any l.toArray Q S late fuel (listed.setIfInBounds j true) a w)->K' a w)->if Region.wanted oj (yielded l.toArray a.tmps)=true then Oper.wp P oj a w K' Q else K' (a.put oj.dst undef) w) :
  wpLate P .any l.toArray Q S late (fuel+1) listed a w:=
 ⟨fun h0=>(by rw [hr] at h0;cases h0),fun k hk=>by
  rw [hr] at hk
  simp only [List.mem_cons,List.not_mem_nil,or_false] at hk
  rcases hk with rfl|rfl
  ·exact wpOp_step hpi.get (fun K' hK=>hi K' (fun a w hS hW=>hK a w ⟨hS,hW hS⟩))
  ·exact wpOp_step hpj.get (fun K' hK=>hj K' (fun a w hS hW=>hK a w ⟨hS,hW hS⟩))⟩

theorem step_app_strs {w:World} {ops:Array Oper} {o:Oper} {act:Act} {K:Act->World->Prop} {Q:Exit->Act->World->Prop} {E:Prop} (hgd:o.guard=none) (s x:Operand)
  (ho:o.op=.call { callee:=.builtin .append,args:=#[s,x],argTypes:=#[88,88] })
  (B:Nat) (v:Value) (n:Nat) (xs:List Value) (hs:act.eval s=v) (hown:w.ownsRow B 9 1 v n xs)
  (a:Option Addr) (m c:Nat) (L:List ByteArray) (hx:act.eval x=.slice a m c) (hm:m=L.length) (hrd:RdS w a m (gt L)) (hnm:n+m<=1099511627776) (hB:B<=w.heap.size)
  (h:∀v' w',w'.ownsRow B 9 1 v' (n+m) (xs++strL L)->w.grownBy w' v.ownBlock->K (act.put o.dst v') w') :
  if Region.wanted o (yielded ops act.tmps)=true then Oper.wp Tryz.prog o act w K Q else E:=by
 have hw:Region.wanted o (yielded ops act.tmps)=true:=by simp [Region.wanted,hgd]
 rw [if_pos hw]
 obtain ⟨i0,hi,hz0,hz1,hz2⟩:=info_parts Tryz.info9
 by_cases hm0:m=0
 ·subst hm0
  have hL:L=[]:=List.length_eq_zero_iff.1 hm.symm
  subst hL
  have hsrc:Src Tryz.prog i0.size 88 (.slice a 0 c) 0 [] w:=by
   cases a with
   | none=>exact Src.ofNil w Tryz.underlying88 c
   | some ad=>exact Src.ofSlice w Tryz.underlying88 ad 0 c [] (by simp) (by simp) (by simp)
  have hsh:∃b l cap,v=.slice b l cap/\l<=cap:=by
   rcases hown.2 with ⟨rfl,rfl⟩|⟨g,cap,cur,rfl,_,_,h1,_⟩
   ·exact ⟨none,0,0,rfl,Nat.le_refl _⟩
   ·exact ⟨_,n,cap,rfl,h1⟩
  obtain ⟨b,l,cap,hvv,hlc⟩:=hsh
  have hrun:=run_append_nothing (P:=Tryz.prog) w 88 88 o.type 9 i0 Tryz.underlying88 hi b l cap hlc (.slice a 0 c) hsrc
  rw [<- hvv] at hrun
  unfold Oper.wp
  simp [execOp,ho,resolve,invoke,builtin,hs,hx,hrun,Result.andThen]
  exact h v w (by simpa [strL] using hown) ⟨rfl,rfl,rfl,Nat.le_refl _,fun _ _ _=>rfl⟩
 ·rcases hrd with h0|⟨b,off,rfl,hc⟩
  ·exact absurd h0 hm0
  ·refine wp_append_own w s x 88 ho B 9 i0 (.string { data:=#[] }) 1 16 Tryz.underlying88 hi hz0 hz1 hz2 rfl (by decide) v n xs hs hown ⟨b,off,none⟩ m c (strL L) hx (by rw [strL_length];omega) (fun j u hj=>?_) (fun u hu=>?_) (by unfold maxLen;omega) (by omega) hB (fun v' w' h1 h2 _=>h v' w' h1 h2)
   ·have hjm:j<m:=by
     have:=(List.getElem?_eq_some_iff.1 hj).1
     rw [strL_length] at this
     omega
    rw [strL_get L j (by omega)] at hj
    injection hj with hj
    subst hj
    have e:(Addr.add ⟨b,off,none⟩ j)=⟨b,off+j,none⟩:=by
     unfold Addr.add
     by_cases h:j=0
     ·subst h;simp
     ·simp [h]
    rw [e]
    exact hc j hjm
   ·unfold strL at hu
    simp only [List.mem_map] at hu
    obtain ⟨i,_,rfl⟩:=hu
    rfl

def kdL (x:Tn):List Int:=(List.range x.dn).map x.kd
theorem kdL_length (x:Tn):(kdL x).length=x.dn:=by simp [kdL]
theorem gi_kdL (x:Tn) (i:Nat) (h:i<x.dn):gi (kdL x) i=x.kd i:=by
 simp [gi,kdL,List.getD_eq_getElem?_getD,h]

theorem step_app_ints {w:World} {ops:Array Oper} {o:Oper} {act:Act} {K:Act->World->Prop} {Q:Exit->Act->World->Prop} {E:Prop} (hgd:o.guard=none) (s x:Operand)
  (ho:o.op=.call { callee:=.builtin .append,args:=#[s,x],argTypes:=#[151,151] })
  (B:Nat) (v:Value) (n:Nat) (xs:List Value) (hs:act.eval s=v) (hown:w.ownsRow B 2 1 v n xs)
  (a:Option Addr) (m c:Nat) (L:List Int) (hx:act.eval x=.slice a m c) (hm:m=L.length) (hrd:Rd .i64 w a m (gi L)) (hnm:n+m<=1099511627776) (hB:B<=w.heap.size)
  (h:∀v' w',w'.ownsRow B 2 1 v' (n+m) (xs++intL L)->w.grownBy w' v.ownBlock->K (act.put o.dst v') w') :
  if Region.wanted o (yielded ops act.tmps)=true then Oper.wp Tryz.prog o act w K Q else E:=by
 have hw:Region.wanted o (yielded ops act.tmps)=true:=by simp [Region.wanted,hgd]
 rw [if_pos hw]
 obtain ⟨i0,hi,hz0,hz1,hz2⟩:=info_parts Tryz.info2
 by_cases hm0:m=0
 ·subst hm0
  have hL:L=[]:=List.length_eq_zero_iff.1 hm.symm
  subst hL
  have hsrc:Src Tryz.prog i0.size 151 (.slice a 0 c) 0 [] w:=by
   cases a with
   | none=>exact Src.ofNil w Tryz.underlying151 c
   | some ad=>exact Src.ofSlice w Tryz.underlying151 ad 0 c [] (by simp) (by simp) (by simp)
  have hsh:∃b l cap,v=.slice b l cap/\l<=cap:=by
   rcases hown.2 with ⟨rfl,rfl⟩|⟨g,cap,cur,rfl,_,_,h1,_⟩
   ·exact ⟨none,0,0,rfl,Nat.le_refl _⟩
   ·exact ⟨_,n,cap,rfl,h1⟩
  obtain ⟨b,l,cap,hvv,hlc⟩:=hsh
  have hrun:=run_append_nothing (P:=Tryz.prog) w 151 151 o.type 2 i0 Tryz.underlying151 hi b l cap hlc (.slice a 0 c) hsrc
  rw [<- hvv] at hrun
  unfold Oper.wp
  simp [execOp,ho,resolve,invoke,builtin,hs,hx,hrun,Result.andThen]
  exact h v w (by simpa [intL] using hown) ⟨rfl,rfl,rfl,Nat.le_refl _,fun _ _ _=>rfl⟩
 ·rcases hrd with h0|⟨b,off,rfl,hc⟩
  ·exact absurd h0 hm0
  ·refine wp_append_own w s x 151 ho B 2 i0 (.int .i64 0) 1 8 Tryz.underlying151 hi hz0 hz1 hz2 rfl (by decide) v n xs hs hown ⟨b,off,none⟩ m c (intL L) hx (by rw [intL_length];omega) (fun j u hj=>?_) (fun u hu=>?_) (by unfold maxLen;omega) (by omega) hB (fun v' w' h1 h2 _=>h v' w' h1 h2)
   ·have hjm:j<m:=by
     have:=(List.getElem?_eq_some_iff.1 hj).1
     rw [intL_length] at this
     omega
    rw [intL_get L j (by omega)] at hj
    injection hj with hj
    subst hj
    have e:(Addr.add ⟨b,off,none⟩ j)=⟨b,off+j,none⟩:=by
     unfold Addr.add
     by_cases h:j=0
     ·subst h;simp
     ·simp [h]
    rw [e]
    exact hc j hjm
   ·unfold intL at hu
    simp only [List.mem_map] at hu
    obtain ⟨i,_,rfl⟩:=hu
    rfl

theorem own_other {w w' : World} {b1 b2:Nat} {e1 e2:TypeId} {s1 s2:Nat} {v1 v2:Value} {n1 n2:Nat} {x1 x2:List Value} (h1:w.ownsRow b1 e1 s1 v1 n1 x1) (h2:w.ownsRow b2 e2 s2 v2 n2 x2) (he:e1≠e2) (hg:w.grownBy w' v2.ownBlock):w'.ownsRow b1 e1 s1 v1 n1 x1:=by
 have hne:=own_ne h1 h2 he
 refine ⟨h1.1,?_⟩
 rcases h1.2 with q|⟨g,cap,cur,q1,q2,q3,q4⟩
 ·exact Or.inl q
 ·refine Or.inr ⟨g,cap,cur,q1,q2,?_,q4⟩
  rw [hg.block g (Array.getElem?_eq_some_iff.1 q3).1 (fun e=>hne g (by rw [q1];rfl) e.symm)]
  exact q3

theorem ownS_rdX {w:World} {B n:Nat} {v:Value} {L:List ByteArray} (h:w.ownsRow B 9 1 v n (strL L)) (hn:n=L.length) (X:Nat->ByteArray) (hX:∀i,i<n->gt L i=X i):∃a c,v=.slice a n c/\∀S:Nat->Prop,(∀b,v.ownBlock=some b->S b)->RdX S w a n (fun i=>.string (X i)):=by
 obtain ⟨a,c,rfl,hf⟩:=own_form h
 refine ⟨a,c,rfl,fun S hS=>?_⟩
 by_cases h0:n=0
 ·exact Or.inl h0
 ·obtain ⟨g,rfl,_,hg2,hg3⟩:=hf h0
  exact Or.inr ⟨g,rfl,hS g rfl,hg2,fun i hi=>by show _=some (Value.string (X i));rw [<- hX i hi];exact hg3 i _ (strL_get L i (by omega))⟩
theorem ownI_rdX {w:World} {B n:Nat} {v:Value} {L:List Int} (h:w.ownsRow B 2 1 v n (intL L)) (hn:n=L.length) (X:Nat->Int) (hX:∀i,i<n->gi L i=X i):∃a c,v=.slice a n c/\∀S:Nat->Prop,(∀b,v.ownBlock=some b->S b)->RdX S w a n (fun i=>.int .i64 (X i)):=by
 obtain ⟨a,c,rfl,hf⟩:=own_form h
 refine ⟨a,c,rfl,fun S hS=>?_⟩
 by_cases h0:n=0
 ·exact Or.inl h0
 ·obtain ⟨g,rfl,_,hg2,hg3⟩:=hf h0
  exact Or.inr ⟨g,rfl,hS g rfl,hg2,fun i hi=>by show _=some (Value.int .i64 (X i));rw [<- hX i hi];exact hg3 i _ (intL_get L i (by omega))⟩

theorem step_app_node {w:World} {ops:Array Oper} {o:Oper} {act:Act} {K:Act->World->Prop} {Q:Exit->Act->World->Prop} {E:Prop} (hgd:o.guard=none) (s x:Operand)
  (ho:o.op=.call { callee:=.builtin .append,args:=#[s,x],argTypes:=#[57,57] })
  (B:Nat) (v:Value) (n:Nat) (xs:List Value) (hs:act.eval s=v) (hown:w.ownsRow B 168 4 v n xs)
  (g c:Nat) (v0 v1 v2 v3:Value) (hx:act.eval x=.slice (some ⟨g,0,none⟩) 1 c) (hc:∀j u,[v0,v1,v2,v3][j]?=some u->w.cell? ⟨g,j,none⟩=some u) (h1:∀u∈[v0,v1,v2,v3],u.oneCell'=true) (hnm:n<=1048576) (hB:B<=w.heap.size)
  (h:∀v' w',w'.ownsRow B 168 4 v' (n+1) (xs++[v0,v1,v2,v3])->w.grownBy w' v.ownBlock->(v'.ownBlock=v.ownBlock\/v'.ownBlock=some w.heap.size)->K (act.put o.dst v') w') :
  if Region.wanted o (yielded ops act.tmps)=true then Oper.wp Tryz.prog o act w K Q else E:=by
 have hw:Region.wanted o (yielded ops act.tmps)=true:=by simp [Region.wanted,hgd]
 rw [if_pos hw]
 obtain ⟨i0,hi,hz0,hz1,hz2⟩:=info_parts Tryz.info168
 obtain ⟨v',w',hr,h2,h3,h4,h5⟩:=run_append_own_at (P:=Tryz.prog) w B 57 o.type 168 i0 _ 4 64 Tryz.underlying57 hi hz0 hz1 hz2 rfl (by decide) v n xs hown ⟨g,0,none⟩ 1 c [v0,v1,v2,v3] rfl (fun j u hj=>by
  have e:(Addr.add ⟨g,0,none⟩ j)=⟨g,j,none⟩:=by
   unfold Addr.add
   by_cases h:j=0
   ·subst h;simp
   ·simp [h]
  rw [e]
  exact hc j u hj) h1 (by unfold maxLen;omega) (by omega) hB
 unfold Oper.wp execOp
 simp only [ho,resolve,invoke,builtin,Sem.run_bind,Sem.run_pure,Result.andThen_ok,List.map_toArray,List.map_cons,List.map_nil,hs,hx,hr]
 exact h v' w' h2 h3 h5

theorem offR_take {d:Nat} {l m:List (Ro d)} {k:Nat} (h:l.take k=m.take k):offR d l k=offR d m k:=by
 unfold offR
 rw [h]

theorem prefix_uniq {N:Nat->Tn} {d y:Nat} (hu:∀(t t' : Ro d) (x:Nat),Tells N 0 d t x->Tells N 0 d t' x->t=t') {ts l:List (Ro d)} (ht:∀j (h:j<ts.length),Tells N 0 d ts[j] (y+offR d ts j)) (hl:∀j (h:j<l.length),Tells N 0 d l[j] (y+offR d l j)) (hle:ts.length<=l.length):l.take ts.length=ts:=by
 have key:∀k,k<=ts.length->ts.take k=l.take k:=by
  intro k
  induction k with
  | zero=>intro _;simp
  | succ k ih=>
   intro hk
   have e:=ih (by omega)
   have h1:k<ts.length:=by omega
   have h2:k<l.length:=by omega
   have q1:=ht k h1
   have q2:=hl k h2
   rw [offR_take e] at q1
   have q:=hu _ _ _ q1 q2
   rw [<- List.take_append_getElem h1,<- List.take_append_getElem h2,e,q]
 have:=key ts.length (Nat.le_refl _)
 rw [List.take_length] at this
 exact this.symm

theorem tells_uniq {N:Nat->Tn}:∀{d:Nat} (t t' : Ro d) (x:Nat),Tells N 0 d t x->Tells N 0 d t' x->t=t'
 | 0,t,_,_,_,_=>t.elim
 | d+1,.inl t,.inl t',x,h,g=>by
  have e1:=list_of_ks h.2.1 h.2.2.1
  have e2:=list_of_ks g.2.1 g.2.2.1
  rw [e1,e2]
 | d+1,.inl t,.inr l,x,h,g=>by
  have h1:=h.1
  rw [g.1] at h1
  cases h1
 | d+1,.inr l,.inl t,x,h,g=>by
  have h1:=h.1
  rw [g.1] at h1
  cases h1
 | d+1,.inr l,.inr l',x,h,g=>by
  have e1:l.length=l'.length:=h.2.1.symm.trans g.2.1
  have q:=prefix_uniq (y:=x+1) (fun t t' x=>tells_uniq t t' x) (fun j hj=>h.2.2.2.2.2.2 j hj) (fun j hj=>g.2.2.2.2.2.2 j hj) (by omega)
  rw [e1,List.take_length] at q
  rw [q]

theorem bal_fn {d:Nat} {r:Bool} {t:Ro d} {h h' : Nat} (a:BalR d r t h) (b:BalR d r t h'):h=h':=by
 have h1:=bal_depI a
 have h2:=bal_depI b
 omega

theorem bal_fit:∀{d:Nat} {r:Bool} {t:Ro d} {h:Nat},BalR d r t h->FitR 4 d t
 | 0,_,t,_,_=>t.elim
 | d+1,r,.inl t,h,hb=>hb.2.1
 | d+1,r,.inr l,h,hb=>by
  obtain ⟨_,_,h',_,hall⟩:=hb
  exact fun t ht=>bal_fit (hall t ht)

structure KGood (N:Nat->Tn) (n x:Nat) (dep D:Int) (hk:Bool) (lk:ByteArray) (d:Nat) (ts:List (Ro d)) (Dk:Int) (hkk:Bool) (lkk:ByteArray):Prop where
 le:x+1+(ts.map (nodesR d)).sum<=n
 kd:∀j (h:j<ts.length),(N x).kd j=((x+1+offR d ts j:Nat):Int)
 ks:∀j (h:j+1<ts.length),(N x).ks j=gt (keysR d ts[j+1]) 0
 tl:∀j (h:j<ts.length),Tells N 0 d ts[j] (x+1+offR d ts j)
 bal:(ts=[]/\Dk=D)\/(ts≠[]/\∃h' : Nat,(∀t,t∈ts->BalR d false t h')/\Dk=dep+1+(h' : Int)/\(D=0\/D=Dk))
 asc:Chain hk lk (ts.flatMap (keysR d)) hkk lkk

theorem offR_app {d:Nat} (ts:List (Ro d)) (t:Ro d) (j:Nat) (h:j<=ts.length):offR d (ts++[t]) j=offR d ts j:=by
 unfold offR
 rw [List.take_append_of_le_length h]

theorem KGood.more {N:Nat->Tn} {n x:Nat} {dep D:Int} {hk:Bool} {lk:ByteArray} {d:Nat} {ts:List (Ro d)} {Dk:Int} {hkk:Bool} {lkk:ByteArray} (hdep:0<=dep) (h:KGood N n x dep D hk lk d ts Dk hkk lkk) {t:Ro d} {D' : Int} {hk' : Bool} {lk' : ByteArray} (g:Good N n (x+1+(ts.map (nodesR d)).sum) (dep+1) Dk hkk lkk d t D' hk' lk')
  (hkd:(N x).kd ts.length=((x+1+(ts.map (nodesR d)).sum:Nat):Int)) (hks:ts.length≠0->(N x).ks (ts.length-1)=gt (keysR d t) 0):KGood N n x dep D hk lk d (ts++[t]) D' hk' lk':=by
 have hall:offR d ts ts.length=(ts.map (nodesR d)).sum:=offR_all d ts
 refine ⟨?_,fun j hj=>?_,fun j hj=>?_,fun j hj=>?_,Or.inr ⟨by simp,?_⟩,?_⟩
 ·have:=g.le
  rw [List.map_append,List.sum_append]
  simp
  omega
 ·rw [List.length_append] at hj
  simp at hj
  rw [offR_app ts t j (by omega)]
  by_cases e:j=ts.length
  ·subst e;rw [hall];exact hkd
  ·exact h.kd j (by omega)
 ·rw [List.length_append] at hj
  simp at hj
  by_cases e:j+1=ts.length
  ·have q:=hks (by omega)
   rw [show ts.length-1=j by omega] at q
   rw [q]
   simp [e]
  ·rw [List.getElem_append_left (by omega)]
   exact h.ks j (by omega)
 ·rw [List.length_append] at hj
  simp at hj
  rw [offR_app ts t j (by omega)]
  by_cases e:j=ts.length
  ·subst e
   rw [hall]
   have q:=g.tl
   simpa using q
  ·rw [List.getElem_append_left (by omega)]
   exact h.tl j (by omega)
 ·obtain ⟨hh,hb,hd'⟩:=g.bal
  have hr:decide (dep+1=0)=false:=decide_eq_false (by omega)
  rw [hr] at hb
  refine ⟨hh,fun t' ht=>?_,hd',?_⟩
  ·rcases List.mem_append.1 ht with ht|ht
   ·rcases h.bal with ⟨e,_⟩|⟨_,h',hb',hd2,_⟩
    ·rw [e] at ht;cases ht
    ·have hdd:=g.dd
     have e:h'=hh:=by omega
     rw [<- e]
     exact hb' t' ht
   ·simp at ht
    subst ht
    exact hb
  ·rcases h.bal with ⟨_,e⟩|⟨_,h',_,hd2,hd3⟩
   ·rw [<- e];exact g.dd
   ·have hdd:=g.dd
    omega
 ·rw [List.flatMap_append]
  refine Chain.app h.asc ?_
  simpa using g.asc

theorem good_inner {N:Nat->Tn} {n x:Nat} {dep D:Int} {hk:Bool} {lk:ByteArray} {d:Nat} {t:Ro (d+1)} {D' : Int} {hk' : Bool} {lk' : ByteArray} (hlf:(N x).lf=false) (h:Good N n x dep D hk lk (d+1) t D' hk' lk') :
  ∃l:List (Ro d),t=.inr l/\l.length=(N x).dn/\2<=l.length/\l.length<=4/\(N x).kn+1=l.length/\(N x).ct=((l.flatMap (keysR d)).length:Int):=by
 rcases t with t|l
 ·have:=h.tl.1
  rw [hlf] at this
  cases this
 ·obtain ⟨q1,q2,q3,q4,q5,q6,q7⟩:=h.tl
  obtain ⟨hh,⟨b1,b2,_⟩,_⟩:=h.bal
  exact ⟨l,rfl,q2.symm,b1,b2,q4,q3⟩

theorem good_prefix {N:Nat->Tn} {n x:Nat} {dep D:Int} {hk:Bool} {lk:ByteArray} {d:Nat} {l:List (Ro d)} {D' : Int} {hk' : Bool} {lk' : ByteArray} (h:Good N n x dep D hk lk (d+1) (.inr l) D' hk' lk') {ts:List (Ro d)} {Dk:Int} {hkk:Bool} {lkk:ByteArray} (g:KGood N n x dep D hk lk d ts Dk hkk lkk) (hle:ts.length<=l.length):l.take ts.length=ts:=by
 obtain ⟨q1,q2,q3,q4,q5,q6,q7⟩:=h.tl
 exact prefix_uniq (y:=x+1) (fun t t' x=>tells_uniq t t' x) g.tl q7 hle

theorem good_next {N:Nat->Tn} {n x:Nat} {dep D:Int} {hk:Bool} {lk:ByteArray} {d:Nat} {l:List (Ro d)} {D' : Int} {hk' : Bool} {lk' : ByteArray} (hdep:0<=dep) (h:Good N n x dep D hk lk (d+1) (.inr l) D' hk' lk') {ts:List (Ro d)} {Dk:Int} {hkk:Bool} {lkk:ByteArray} (g:KGood N n x dep D hk lk d ts Dk hkk lkk) (hlt:ts.length<l.length) :
  (N x).kd ts.length=((x+1+(ts.map (nodesR d)).sum:Nat):Int)/\(ts.length≠0->(N x).ks (ts.length-1)=gt (keysR d l[ts.length]) 0)/\∃h2 l2,Good N n (x+1+(ts.map (nodesR d)).sum) (dep+1) Dk hkk lkk d l[ts.length] D' h2 l2:=by
 have hp:=good_prefix h g (by omega)
 obtain ⟨q1,q2,q3,q4,q5,q6,q7⟩:=h.tl
 have hoff:offR d l ts.length=(ts.map (nodesR d)).sum:=by
  unfold offR
  rw [hp]
 obtain ⟨hh,⟨b1,b2,h',b3,b4⟩,b5⟩:=h.bal
 refine ⟨?_,fun h0=>?_,?_⟩
 ·have:=q5 ts.length hlt
  rw [hoff] at this
  rw [this]
  omega
 ·have:=q6 (ts.length-1) (by omega)
  rw [this]
  simp only [show ts.length-1+1=ts.length by omega]
 ·have hle:=offR_le d l ts.length hlt
  have h3:nodesR (d+1) (.inr l)=1+(l.map (nodesR d)).sum:=rfl
  have hasc:Chain hk lk (l.flatMap (keysR d)) hk' lk':=h.asc
  have e:l=l.take ts.length++(l[ts.length]::l.drop (ts.length+1)):=by
   conv=>lhs;rw [<- List.take_append_drop (ts.length+1) l,<- List.take_append_getElem hlt]
   simp
  rw [e,List.flatMap_append,List.flatMap_cons,hp] at hasc
  obtain ⟨h1,l1,c1,c2⟩:=Chain.split hasc
  obtain ⟨rfl,rfl⟩:=Chain.fn g.asc c1
  obtain ⟨h2,l2,c3,c4⟩:=Chain.split c2
  refine ⟨h2,l2,⟨?_,?_,⟨h',?_,by omega⟩,?_,c3⟩⟩
  ·have:=q7 ts.length hlt
   rw [hoff] at this
   exact this
  ·have:=h.le
   omega
  ·rw [show decide (dep+1=0)=false from decide_eq_false (by omega)]
   exact b4 _ (List.getElem_mem hlt)
  ·rcases g.bal with ⟨_,e2⟩|⟨hne,h2',hb2,hd2,_⟩
   ·rw [e2];exact h.dd
   ·right
    have hl0:0<ts.length:=List.length_pos_iff.2 hne
    have hmem:ts[0]∈l:=by
     have:ts[0]=(l.take ts.length)[0]'(by rw [hp];exact hl0):=by simp only [hp]
     rw [this]
     exact List.mem_of_mem_take (List.getElem_mem _)
    have:=bal_fn (hb2 ts[0] (List.getElem_mem hl0)) (b4 ts[0] hmem)
    omega

def KS (S:Nat->Prop) (w:World) (a:Option Addr) (n c:Nat) (X:Nat->ByteArray):Prop:=
 RdS w a n X/\(n<=c/\c<=9223372036854775807)/\(n≠0->∃x,a=some x/\S x.block/\x.block<w.heap.size)
def NG (S:Nat->Prop) (w:World) (d:Nat) (t:Ro d) (v:Value):Prop:=NestAt (KS S w) S w d t v

theorem KS.keep {S S' : Nat->Prop} {w w' : World} {a:Option Addr} {n c:Nat} {X:Nat->ByteArray} (hz:w.heap.size<=w'.heap.size) (hS:∀b,S b->b<w.heap.size->S' b/\w'.heap[b]?=w.heap[b]?) (h:KS S w a n c X):KS S' w' a n c X:=by
 obtain ⟨h1,h2,h3⟩:=h
 by_cases h0:n=0
 ·exact ⟨Or.inl h0,h2,fun h=>absurd h0 h⟩
 ·obtain ⟨x,rfl,hs,hl⟩:=h3 h0
  obtain ⟨q1,q2⟩:=hS _ hs hl
  rcases h1 with h1|⟨b,o,e,hc⟩
  ·exact absurd h1 h0
  ·injection e with e
   subst e
   exact ⟨Or.inr ⟨b,o,rfl,fun i hi=>(World.cell?_of_block (a:=⟨b,o+i,none⟩) q2).trans (hc i hi)⟩,h2,fun _=>⟨_,rfl,q1,by have:b<w.heap.size:=hl;omega⟩⟩

theorem NG.keep {S S' : Nat->Prop} {w w' : World} {d:Nat} {t:Ro d} {v:Value} (h:NG S w d t v) (hz:w.heap.size<=w'.heap.size) (hS:∀b,S b->b<w.heap.size->S' b/\w'.heap[b]?=w.heap[b]?):NG S' w' d t v:=
 NestAt.mono (fun _ _ _ _ q=>q.keep hz hS) (fun b hs hl=>(hS b hs hl).1) hz (fun b j hs hl=>World.cell?_of_block (a:=⟨b,j,none⟩) (hS b hs hl).2) h

theorem NG.below {S:Nat->Prop} {w w' : World} {d:Nat} {t:Ro d} {v:Value} (h:NG S w d t v) (hb:Below w.heap.size w w'):NG S w' d t v:=
 h.keep hb.size (fun b hs hl=>⟨hs,hb.block b hl⟩)
theorem NG.wide {S S' : Nat->Prop} {w:World} {d:Nat} {t:Ro d} {v:Value} (h:NG S w d t v) (hS:∀b,S b->b<w.heap.size->S' b):NG S' w d t v:=
 h.keep (Nat.le_refl _) (fun b hs hl=>⟨hS b hs hl,rfl⟩)
theorem NG.na {S:Nat->Prop} {w:World} {d:Nat} {t:Ro d} {v:Value} (h:NG S w d t v):NA w d t v:=
 NestAt.mono (fun _ _ _ _ q=>q.1) (fun _ _ _=>trivial) (Nat.le_refl _) (fun _ _ _ _=>rfl) h
theorem NAC.ng {w:World} {d:Nat} {t:Ro d} {v:Value} (h:NAC (fun n c=>n<=c/\c<=9223372036854775807) w d t v):NG (fun b=>b<w.heap.size) w d t v:=by
 refine NestAt.mono (fun a n c X q=>⟨q.1,q.2,fun h0=>?_⟩) (fun b _ hl=>hl) (Nat.le_refl _) (fun _ _ _ _=>rfl) h
 rcases q.1 with q1|⟨b,o,rfl,hc⟩
 ·exact absurd q1 h0
 ·have:=World.block_lt_of_cell? _ _ (hc 0 (by omega))
  exact ⟨_,rfl,this,this⟩

theorem NG.grown {S:Nat->Prop} {w w' : World} {d:Nat} {t:Ro d} {v vk:Value} (h:NG S w d t v) (hg:w.grownBy w' vk.ownBlock) (hS:∀b,S b->b<w.heap.size->vk.ownBlock≠some b):NG S w' d t v:=
 h.keep hg.size (fun b hs hl=>⟨hs,hg.block b hl (fun e=>hS b hs hl e.symm)⟩)

theorem KidL.cat {T:Type} {P:T->Value->Prop} {us:List T} {ys:List Value} (hu:KidL P us ys):∀{ts:List T} {xs:List Value},KidL P ts xs->KidL P (ts++us) (xs++ys)
 | [],[],_=>hu
 | t::ts,x0::x1::x2::xs,h=>⟨h.1,KidL.cat hu h.2⟩
 | [],x::xs,h=>h.elim
 | t::ts,[],h=>h.elim
 | t::ts,[x0],h=>h.elim
 | t::ts,[x0,x1],h=>h.elim
theorem KidL.take {T:Type} {P:T->Value->Prop}:∀(k:Nat) {ts:List T} {xs:List Value},KidL P ts xs->KidL P (ts.take k) (xs.take (k*3))
 | 0,_,_,_=>by simp [KidL]
 | k+1,[],[],_=>by simp [KidL]
 | k+1,t::ts,x0::x1::x2::xs,h=>by
  rw [show (k+1)*3=k*3+3 by omega]
  exact ⟨h.1,KidL.take k h.2⟩
 | _+1,[],x::xs,h=>h.elim
 | _+1,t::ts,[],h=>h.elim
 | _+1,t::ts,[x0],h=>h.elim
 | _+1,t::ts,[x0,x1],h=>h.elim
theorem KidL.drop {T:Type} {P:T->Value->Prop}:∀(k:Nat) {ts:List T} {xs:List Value},KidL P ts xs->KidL P (ts.drop k) (xs.drop (k*3))
 | 0,_,_,h=>by simpa using h
 | k+1,[],[],_=>by simp [KidL]
 | k+1,t::ts,x0::x1::x2::xs,h=>by
  rw [show (k+1)*3=k*3+3 by omega]
  exact KidL.drop k h.2
 | _+1,[],x::xs,h=>h.elim
 | _+1,t::ts,[],h=>h.elim
 | _+1,t::ts,[x0],h=>h.elim
 | _+1,t::ts,[x0,x1],h=>h.elim
theorem KidL.cells {T:Type} {P:T->Value->Prop} (hP:∀t x0 x1 x2,P t (.agg #[x0,x1,x2])->x0.oneCell'=true/\x1.oneCell'=true/\x2.oneCell'=true):∀{ts:List T} {xs:List Value},KidL P ts xs->∀u∈xs,u.oneCell'=true
 | [],[],_,u,hu=>by cases hu
 | t::ts,x0::x1::x2::xs,h,u,hu=>by
  obtain ⟨a0,a1,a2⟩:=hP _ _ _ _ h.1
  simp only [List.mem_cons] at hu
  rcases hu with rfl|rfl|rfl|hu
  ·exact a0
  ·exact a1
  ·exact a2
  ·exact KidL.cells hP h.2 u hu
 | [],x::xs,h,_,_=>h.elim
 | t::ts,[],h,_,_=>h.elim
 | t::ts,[x0],h,_,_=>h.elim
 | t::ts,[x0,x1],h,_,_=>h.elim
theorem NG.one {S:Nat->Prop} {w:World} {d:Nat}:∀(t:Ro d) (x0 x1 x2:Value),NG S w d t (.agg #[x0,x1,x2])->x0.oneCell'=true/\x1.oneCell'=true/\x2.oneCell'=true:=by
 intro t x0 x1 x2 h
 obtain ⟨lf,ka,kn,kc,ca,cn,cc,e⟩:=NestAt.form h
 injection e with e
 injection e with e
 injection e with e0 e
 injection e with e1 e
 injection e with e2 e
 subst e0 e1 e2
 exact ⟨rfl,rfl,rfl⟩

def RetG3 (S:Nat->Prop) (w:World) (d:Nat) (t:Ro d) (e:Ending) (w' : World):Prop:=
 Below w.heap.size w w'/\∃lf ka kn kc ca cn cc,e=.returned (.agg #[.bool lf,.slice ka kn kc,.slice ca cn cc])/\NG (fun b=>S b\/w.heap.size<=b) w' d t (.agg #[.bool lf,.slice ka kn kc,.slice ca cn cc])
def RetGs (S:Nat->Prop) (w:World) (d:Nat) (ts:List (Ro d)) (e:Ending) (w' : World):Prop:=
 Below w.heap.size w w'/\∃g c xs,e=.returned (.slice (some ⟨g,0,none⟩) ts.length c)/\w.heap.size<=g/\g<w'.heap.size/\(ts.length<=c/\c<=9223372036854775807)/\(∀j u,xs[j]?=some u->w'.cell? ⟨g,j,none⟩=some u)/\KidL (fun t v=>NG (fun b=>S b\/w.heap.size<=b) w' d t v) ts xs

def RetRo (N:Nat->Tn) (rb b o n c x:Nat) (dep D:Int) (hk:Bool) (lk:ByteArray) (d:Nat) (w:World) (e:Ending) (w' : World):Prop:=
 w.grownBy w' (some rb)/\∃v ok,e=.returned (.tuple #[v,.bool ok])/\
  ((ok=true/\∃t D' hk' lk',Good N n x dep D hk lk d t D' hk' lk'/\RBx w' rb b o n c (x+nodesR d t) D' lk' hk'/\∃bs:List Nat,bs.Nodup/\TOw w.heap.size w' d t v bs)\/
   (ok=false/\¬ ∃t D' hk' lk',Good N n x dep D hk lk d t D' hk' lk'))

theorem leaf_apart {w:World} {b B n c:Nat} {a:Option Addr} {cur:Array Value} {xs:List Value} (hx:Bx w b 206 cur) (ho:w.ownsRow B 9 1 (.slice a n c) n xs):(b::(a.map (·.block)).toList).Nodup:=by
 cases a with
 | none=>simp
 | some p=>
  simp
  intro e
  rcases ho.2 with ⟨q,_⟩|⟨g,cap,cur2,q,_,hg,_⟩
  ·cases q
  ·injection q with q _ _
   injection q with q
   subst q
   subst e
   unfold Bx at hx
   have e2:=hg.symm.trans hx
   injection e2 with e2
   injection e2 with _ e2 _
   exact absurd e2 (by decide)

set_option maxHeartbeats 4000000 in
theorem readLeafO_any (N:Nat->Tn) (rb b o n c x:Nat) (dep D:Int) (hk:Bool) (lk:ByteArray) (d:Nat) (w:World) (ka da:Option Addr) (kc dc:Nat) (h:RBx w rb b o n c (x+1) D lk hk) (hx:x<n) (hlf:(N x).lf=true) (hfit:TnFit (N x)) (hK:∀W:World,Below rb w W->RdS W ka (N x).kn (N x).ks) (hd0:0<=dep) :
  Calls Tryz.prog 133 #[.pointer (some ⟨rb,0,none⟩),.agg #[.bool true,.slice ka (N x).kn kc,.slice da (N x).dn dc,.int .i64 (N x).ct],.int .i64 dep] w (RetRo N rb b o n c x dep D hk lk (d+1) w):=by
 have HR:Hid (RBx w rb b o n c (x+1) D lk hk):=h
 have hrl:=h.lt
 have HK:Hid (∀W:World,Below rb w W->RdS W ka (N x).kn (gt (ksL (N x)))):=fun W hW=>(hK W hW).congr (fun j hj=>(gt_ksL (N x) j hj).symm)
 have HGL:Hid (∀(t:Ro (d+1)) D' hk' lk',Good N n x dep D hk lk (d+1) t D' hk' lk'->(N x).kn<=4/\(dep=0\/2<=(N x).kn)/\(N x).dn=0/\(D=0\/D=dep)/\Chain hk lk (ksL (N x)) hk' lk'/\(N x).ct=((N x).kn:Int)):=fun t D' hk' lk' g=>good_leaf hlf g
 have hm2:(N x).kn<=1048576:=hfit.1
 have hd2:(N x).dn<=1048576:=hfit.2
 have HML:Hid ((N x).kn=(ksL (N x)).length):=(ksL_length _).symm
 have HYes:Hid (∀hk' lk',(N x).kn<=4->(dep=0\/2<=(N x).kn)->(N x).dn=0->(D=0\/D=dep)->Chain hk lk (ksL (N x)) hk' lk'->(N x).ct=((N x).kn:Int)->Good N n x dep D hk lk (d+1) (.inl (ksL (N x))) dep hk' lk'):=by
  intro hk' lk' a1 a2 a3 a4 a5 a6
  refine ⟨⟨hlf,(ksL_length _).symm,fun j hj=>(gt_ksL _ _ (by rw [ksL_length] at hj;exact hj)).symm,a3,by rw [ksL_length];exact a6⟩,?_,⟨0,⟨rfl,by rw [ksL_length];exact a1,?_⟩,by simp⟩,a4,a5⟩
  ·have:nodesR (d+1) (.inl (ksL (N x)))=1:=rfl
   omega
  ·rw [ksL_length]
   rcases a2 with a2|a2
   ·exact Or.inl (by simpa using a2)
   ·exact Or.inr a2
 clear h hK hlf hfit
 generalize (N x).kn=m at HK HGL hm2 HML HYes ⊢
 generalize (N x).dn=dn at HGL hd2 HYes ⊢
 generalize (N x).ct=ct at HGL HYes ⊢
 generalize ksL (N x)=L at HK HGL HML HYes ⊢
 have HNo:Hid (∀w' : World,w.grownBy w' (some rb)->¬ (∃(t:Ro (d+1)) (D' : Int) (hk' : Bool) (lk' : ByteArray),Good N n x dep D hk lk (d+1) t D' hk' lk')->∀v,RetRo N rb b o n c x dep D hk lk (d+1) w (.returned (.tuple #[v,.bool false])) w'):=fun w' hg hn v=>⟨hg,v,false,rfl,Or.inr ⟨rfl,hn⟩⟩
 by_cases h4:4<m
 ·have i4:(4:Int)<(m:Int):=by omega
  have i4' : decide ((4:Int)<(m:Int))=true:=decide_eq_true i4
  have n4' : decide (4<m)=true:=decide_eq_true h4
  go_enter Tryz.func133,Tryz.ntmps133
  go_wp2
  refine bodyPost_ret (v:=.tuple #[.nilIface,.bool false]) (by simp [results,Tryz.results133,go_sem]) rfl (HNo.out _ (grown_below (below_alloc _ _)) (fun ⟨t,D',hk',lk',g⟩=>by have:=HGL.out t D' hk' lk' g;omega) _)
 ·have i4:¬ (4:Int)<(m:Int):=by omega
  have i4' : decide ((4:Int)<(m:Int))=false:=decide_eq_false i4
  have n4' : decide (4<m)=false:=decide_eq_false h4
  by_cases h2:m<2/\0<dep
  ·have i2:(m:Int)<2:=by omega
   have i2' : decide ((m:Int)<2)=true:=decide_eq_true i2
   have n2' : decide (m<2)=true:=decide_eq_true h2.1
   have id:(0:Int)<dep:=h2.2
   have id' : decide ((0:Int)<dep)=true:=decide_eq_true id
   have H2:Hid (m<2/\0<dep):=h2
   clear h2
   go_enter Tryz.func133,Tryz.ntmps133
   go_wp2
   refine bodyPost_ret (v:=.tuple #[.nilIface,.bool false]) (by simp [results,Tryz.results133,go_sem]) rfl (HNo.out _ (grown_below (below_alloc _ _)) (fun ⟨t,D',hk',lk',g⟩=>by have:=HGL.out t D' hk' lk' g;have:=H2.out;omega) _)
  ·have HB2:Hid (dep=0\/2<=m):=by
    show dep=0\/2<=m
    omega
   have hpick:Hid (∀b1 b2:Bool,b1=decide ((m:Int)<2)->b2=decide ((0:Int)<dep)->(b1 && b2)=false):=by
    rintro b1 b2 rfl rfl
    rw [Bool.and_eq_false_iff]
    simp
    omega
   by_cases hm2' : m<2
   ·have i2:(m:Int)<2:=by omega
    have i2' : decide ((m:Int)<2)=true:=decide_eq_true i2
    have n2' : decide (m<2)=true:=decide_eq_true hm2'
    have id:¬ (0:Int)<dep:=by omega
    have id' : decide ((0:Int)<dep)=false:=decide_eq_false id
    clear h2 hpick
    go_enter Tryz.func133,Tryz.ntmps133
    go_upto_region 3 with fail
    have S1:Hid (Bx (w.alloc (.cells #[.bool true,.slice ka m kc,.slice da dn dc,.int .i64 ct] 168)) w.heap.size 168 #[.bool true,.slice ka m kc,.slice da dn dc,.int .i64 ct]/\RBx (w.alloc (.cells #[.bool true,.slice ka m kc,.slice da dn dc,.int .i64 ct] 168)) rb b o n c (x+1) D lk hk/\Below w.heap.size w (w.alloc (.cells #[.bool true,.slice ka m kc,.slice da dn dc,.int .i64 ct] 168))):=⟨Bx.new _ _ _,HR.out.alloc _,below_alloc _ _⟩
    clear HR
    generalize (w.alloc (.cells #[.bool true,.slice ka m kc,.slice da dn dc,.int .i64 ct] 168))=W at S1 ⊢
    have g2:=S1.out.1.cell 2
    have hWl:=S1.out.1.lt
    simp at g2
    by_cases hdn0:0<dn
    ·have id0:(0:Int)<(dn:Int):=by omega
     have id0' : decide ((0:Int)<(dn:Int))=true:=decide_eq_true id0
     have nd0' : decide (0<dn)=true:=decide_eq_true hdn0
     go_wp2
     refine bodyPost_ret (v:=.tuple #[.nilIface,.bool false]) (by simp [results,Tryz.results133,go_sem]) rfl (HNo.out _ (grown_below S1.out.2.2) (fun ⟨t,D',hk',lk',g⟩=>by have:=HGL.out t D' hk' lk' g;omega) _)
    ·have id0:¬ (0:Int)<(dn:Int):=by omega
     have id0' : decide ((0:Int)<(dn:Int))=false:=decide_eq_false id0
     have nd0' : decide (0<dn)=false:=decide_eq_false hdn0
     go_wp2_with fail
     refine (leafDepth_any rb b o n c (x+1) dep D lk hk _ S1.out.2.1 hd0).mono ?_
     rintro e w1 ⟨ok,rfl,hg1,hs1,hr1⟩
     have HG1:Hid (w.grownBy w1 (some rb)/\Bx w1 w.heap.size 168 #[.bool true,.slice ka m kc,.slice da dn dc,.int .i64 ct]):=⟨grown_trans (grown_below S1.out.2.2) hg1,S1.out.1.grown hg1 (fun e=>by injection e with e;omega)⟩
     have HR1:Hid ((ok=true/\(D=0\/D=dep)/\RBx w1 rb b o n c (x+1) dep lk hk)\/(ok=false/\¬ (D=0\/D=dep))):=hr1
     clear hg1 hs1 hr1 g2 S1
     have g1:=HG1.out.2.cell 1
     have hWl1:=HG1.out.2.lt
     simp at g1
     cases ok with
     | false=>
      go_wp2
      refine bodyPost_ret (v:=.tuple #[.nilIface,.bool false]) (by simp [results,Tryz.results133,go_sem]) rfl (HNo.out _ HG1.out.1 (fun ⟨t,D',hk',lk',g⟩=>?_) _)
      have q:=HGL.out t D' hk' lk' g
      rcases HR1.out with ⟨e,_⟩|⟨_,e⟩
      ·cases e
      ·exact e q.2.2.2.1
     | true=>
      have HD:Hid ((D=0\/D=dep)/\RBx w1 rb b o n c (x+1) dep lk hk):=by
       rcases HR1.out with ⟨_,e⟩|⟨e,_⟩
       ·exact e
       ·cases e
      clear HR1
      go_wp2_with fail
      refine (passKeys_any rb b o n c (x+1) m kc ka dep lk hk L w1 HD.out.2 HML.out hm2 (fun W' hW'=>HK.out W' (below_grown (grown_trans HG1.out.1 hW') (by omega) (Nat.le_refl _)))).mono ?_
      rintro e w2 ⟨ok2,rfl,hg2,hs2,hr2⟩
      have HG2:Hid (w.grownBy w2 (some rb)/\Bx w2 w.heap.size 168 #[.bool true,.slice ka m kc,.slice da dn dc,.int .i64 ct]):=⟨grown_trans HG1.out.1 hg2,HG1.out.2.grown hg2 (fun e=>by injection e with e;omega)⟩
      have HR2:Hid ((ok2=true/\∃hk' lk',Chain hk lk L hk' lk'/\RBx w2 rb b o n c (x+1) dep lk' hk')\/(ok2=false/\∀hk' lk',¬ Chain hk lk L hk' lk')):=hr2
      clear hg2 hs2 hr2 g1 HG1
      have g1:=HG2.out.2.cell 1
      have hWl2:=HG2.out.2.lt
      simp at g1
      cases ok2 with
      | false=>
       go_wp2
       refine bodyPost_ret (v:=.tuple #[.nilIface,.bool false]) (by simp [results,Tryz.results133,go_sem]) rfl (HNo.out _ HG2.out.1 (fun ⟨t,D',hk',lk',g⟩=>?_) _)
       have q:=HGL.out t D' hk' lk' g
       rcases HR2.out with ⟨e,_⟩|⟨_,e⟩
       ·cases e
       ·exact e _ _ q.2.2.2.2.1
      | true=>
       obtain ⟨hk',lk',hch,hrb⟩:∃hk' lk',Chain hk lk L hk' lk'/\RBx w2 rb b o n c (x+1) dep lk' hk':=by
        rcases HR2.out with ⟨_,e⟩|⟨e,_⟩
        ·exact e
        ·cases e
       have HC:Hid (Chain hk lk L hk' lk'/\RBx w2 rb b o n c (x+1) dep lk' hk'):=⟨hch,hrb⟩
       clear HR2 hch hrb
       go_wp2_with fail
       refine (copyStrs_any ka m kc L w2 (HK.out w2 (below_grown HG2.out.1 (by omega) (Nat.le_refl _))) HML.out hm2).mono ?_
       rintro e w3 ⟨a3,c3,rfl,ho3,hb3⟩
       have HO3:Hid (w3.ownsRow w2.heap.size 9 1 (.slice a3 m c3) m (strL L)):=ho3
       have H3:Hid (Below w2.heap.size w2 w3):=hb3
       clear ho3 hb3 g1
       go_upto_region 6 with fail
       have S4:Hid (Bx (w3.alloc (.cells #[.int .i64 0,.slice a3 m c3] 206)) w3.heap.size 206 #[.int .i64 0,.slice a3 m c3]/\Below w2.heap.size w2 (w3.alloc (.cells #[.int .i64 0,.slice a3 m c3] 206))/\(w3.alloc (.cells #[.int .i64 0,.slice a3 m c3] 206)).ownsRow w2.heap.size 9 1 (.slice a3 m c3) m (strL L)/\w2.heap.size<=w3.heap.size):=⟨Bx.new _ _ _,H3.out.trans ((below_alloc _ _).mono H3.out.size),own_below HO3.out (below_alloc _ _),H3.out.size⟩
       clear HO3
       generalize (w3.alloc (.cells #[.int .i64 0,.slice a3 m c3] 206))=w4 at S4 ⊢
       generalize w3.heap.size=nb at S4 ⊢
       clear H3
       go_wp2_with fail
       refine (recountLeaf_any nb m c3 a3 0 w4 S4.out.1).mono ?_
       rintro e w5 ⟨rfl,hw5⟩
       have hnb:=S4.out.2.2.2
       have HX5:Hid (Bx w5 nb 206 #[.int .i64 (m:Int),.slice a3 m c3]/\Below w2.heap.size w2 w5/\w5.ownsRow w2.heap.size 9 1 (.slice a3 m c3) m (strL L)/\Bx w5 w.heap.size 168 #[.bool true,.slice ka m kc,.slice da dn dc,.int .i64 ct]):=by
        subst hw5
        refine ⟨S4.out.1.set 0 _,S4.out.2.1.setCell hnb _,?_,(HG2.out.2.below S4.out.2.1).other (by simp;omega) _⟩
        have q:=S4.out.2.2.1
        refine ⟨q.1,?_⟩
        rcases q.2 with q|⟨g,cap,cur,q1,q2,q3,q4⟩
        ·exact Or.inl q
        ·refine Or.inr ⟨g,cap,cur,q1,q2,?_,q4⟩
         rw [Below.heap_setCell _ _ _ _ (show g≠nb from fun e=>?_)]
         ·exact q3
         ·subst e
          have:=S4.out.1
          unfold Bx at this
          rw [q3] at this
          injection this with this
          injection this with _ this _
          exact absurd this (by decide)
       clear hw5 S4
       have z0:=HX5.out.1.cell 0
       have g3:=HX5.out.2.2.2.cell 3
       simp at z0 g3
       have HTA:Hid (∃bs:List Nat,bs.Nodup/\TOw w.heap.size w5 (d+1) (.inl L) (.iface 204 (.pointer (some ⟨nb,0,none⟩))) bs):=by
        have hz2:=HG2.out.1.size
        refine ⟨nb::(a3.map (·.block)).toList,leaf_apart HX5.out.1 HX5.out.2.2.1,nb,a3,c3,rfl,by omega,?_,?_,rfl⟩
        ·rw [<- HML.out];exact HX5.out.1
        ·rw [<- HML.out];exact HX5.out.2.2.1.mono hz2
       have HRB:Hid (RBx w5.drew rb b o n c (x+1) dep lk' hk'/\w.grownBy w5.drew (some rb)):=⟨HC.out.2.below HX5.out.2.1.drew,grown_trans HG2.out.1 (grown_below HX5.out.2.1.drew)⟩
       have HB:Hid (∀W:World,W.cell? ⟨nb,0,none⟩=some (.int .i64 (m:Int))->Calls Tryz.prog 157 #[.pointer (some ⟨nb,0,none⟩)] W fun e w'=>e=.returned (.int .i64 (m:Int))/\w'=W):=fun W hW=>below_any nb (m:Int) W hW
       by_cases hct:ct=(m:Int)
       ·subst hct
        have hq:((m:Int) == (m:Int))=true:=by simp
        go_upto_region 7 with fail
        go_region_held3 (fun w'=>w'.cell? ⟨nb,0,none⟩=some (.int .i64 (m:Int))/\w'.cell? ⟨w.heap.size,3,none⟩=some (.int .i64 (m:Int))) (go_keep) (first|(go_at_call 157;refine (HB.out _ (by simpa using z0)).mono ?_;rintro e w6 ⟨rfl,rfl⟩)|fail)
        all_goals
         go_wp2
         refine bodyPost_ret (v:=.tuple #[.iface 204 (.pointer (some ⟨nb,0,none⟩)),.bool true]) (by simp [results,Tryz.results133,go_sem]) rfl ⟨HRB.out.2,_,true,rfl,.inl ⟨rfl,.inl L,dep,hk',lk',HYes.out hk' lk' (by omega) HB2.out (by omega) HD.out.1 HC.out.1 trivial,HRB.out.1,(let ⟨bs,h1,h2⟩:=HTA.out;⟨bs,h1,h2.below (Below.refl _ _).drew⟩)⟩⟩
       ·have hq:((m:Int) == ct)=false:=by simp;omega
        go_upto_region 7 with fail
        go_region_held3 (fun w'=>w'.cell? ⟨nb,0,none⟩=some (.int .i64 (m:Int))/\w'.cell? ⟨w.heap.size,3,none⟩=some (.int .i64 ct)) (go_keep) (first|(go_at_call 157;refine (HB.out _ (by simpa using z0)).mono ?_;rintro e w6 ⟨rfl,rfl⟩)|fail)
        all_goals
         go_wp2
         refine bodyPost_ret (v:=.tuple #[.iface 204 (.pointer (some ⟨nb,0,none⟩)),.bool false]) (by simp [results,Tryz.results133,go_sem]) rfl (HNo.out _ HRB.out.2 (fun ⟨t,D',hk',lk',g⟩=>?_) _)
         have q:=HGL.out t D' hk' lk' g
         exact hct q.2.2.2.2.2
   ·have i2:¬ (m:Int)<2:=by omega
    have i2' : decide ((m:Int)<2)=false:=decide_eq_false i2
    have n2' : decide (m<2)=false:=decide_eq_false hm2'
    clear h2 hpick
    go_enter Tryz.func133,Tryz.ntmps133
    go_upto_region 3 with fail
    have S1:Hid (Bx (w.alloc (.cells #[.bool true,.slice ka m kc,.slice da dn dc,.int .i64 ct] 168)) w.heap.size 168 #[.bool true,.slice ka m kc,.slice da dn dc,.int .i64 ct]/\RBx (w.alloc (.cells #[.bool true,.slice ka m kc,.slice da dn dc,.int .i64 ct] 168)) rb b o n c (x+1) D lk hk/\Below w.heap.size w (w.alloc (.cells #[.bool true,.slice ka m kc,.slice da dn dc,.int .i64 ct] 168))):=⟨Bx.new _ _ _,HR.out.alloc _,below_alloc _ _⟩
    clear HR
    generalize (w.alloc (.cells #[.bool true,.slice ka m kc,.slice da dn dc,.int .i64 ct] 168))=W at S1 ⊢
    have g2:=S1.out.1.cell 2
    have hWl:=S1.out.1.lt
    simp at g2
    by_cases hdn0:0<dn
    ·have id0:(0:Int)<(dn:Int):=by omega
     have id0' : decide ((0:Int)<(dn:Int))=true:=decide_eq_true id0
     have nd0' : decide (0<dn)=true:=decide_eq_true hdn0
     go_wp2
     refine bodyPost_ret (v:=.tuple #[.nilIface,.bool false]) (by simp [results,Tryz.results133,go_sem]) rfl (HNo.out _ (grown_below S1.out.2.2) (fun ⟨t,D',hk',lk',g⟩=>by have:=HGL.out t D' hk' lk' g;omega) _)
    ·have id0:¬ (0:Int)<(dn:Int):=by omega
     have id0' : decide ((0:Int)<(dn:Int))=false:=decide_eq_false id0
     have nd0' : decide (0<dn)=false:=decide_eq_false hdn0
     go_wp2_with fail
     refine (leafDepth_any rb b o n c (x+1) dep D lk hk _ S1.out.2.1 hd0).mono ?_
     rintro e w1 ⟨ok,rfl,hg1,hs1,hr1⟩
     have HG1:Hid (w.grownBy w1 (some rb)/\Bx w1 w.heap.size 168 #[.bool true,.slice ka m kc,.slice da dn dc,.int .i64 ct]):=⟨grown_trans (grown_below S1.out.2.2) hg1,S1.out.1.grown hg1 (fun e=>by injection e with e;omega)⟩
     have HR1:Hid ((ok=true/\(D=0\/D=dep)/\RBx w1 rb b o n c (x+1) dep lk hk)\/(ok=false/\¬ (D=0\/D=dep))):=hr1
     clear hg1 hs1 hr1 g2 S1
     have g1:=HG1.out.2.cell 1
     have hWl1:=HG1.out.2.lt
     simp at g1
     cases ok with
     | false=>
      go_wp2
      refine bodyPost_ret (v:=.tuple #[.nilIface,.bool false]) (by simp [results,Tryz.results133,go_sem]) rfl (HNo.out _ HG1.out.1 (fun ⟨t,D',hk',lk',g⟩=>?_) _)
      have q:=HGL.out t D' hk' lk' g
      rcases HR1.out with ⟨e,_⟩|⟨_,e⟩
      ·cases e
      ·exact e q.2.2.2.1
     | true=>
      have HD:Hid ((D=0\/D=dep)/\RBx w1 rb b o n c (x+1) dep lk hk):=by
       rcases HR1.out with ⟨_,e⟩|⟨e,_⟩
       ·exact e
       ·cases e
      clear HR1
      go_wp2_with fail
      refine (passKeys_any rb b o n c (x+1) m kc ka dep lk hk L w1 HD.out.2 HML.out hm2 (fun W' hW'=>HK.out W' (below_grown (grown_trans HG1.out.1 hW') (by omega) (Nat.le_refl _)))).mono ?_
      rintro e w2 ⟨ok2,rfl,hg2,hs2,hr2⟩
      have HG2:Hid (w.grownBy w2 (some rb)/\Bx w2 w.heap.size 168 #[.bool true,.slice ka m kc,.slice da dn dc,.int .i64 ct]):=⟨grown_trans HG1.out.1 hg2,HG1.out.2.grown hg2 (fun e=>by injection e with e;omega)⟩
      have HR2:Hid ((ok2=true/\∃hk' lk',Chain hk lk L hk' lk'/\RBx w2 rb b o n c (x+1) dep lk' hk')\/(ok2=false/\∀hk' lk',¬ Chain hk lk L hk' lk')):=hr2
      clear hg2 hs2 hr2 g1 HG1
      have g1:=HG2.out.2.cell 1
      have hWl2:=HG2.out.2.lt
      simp at g1
      cases ok2 with
      | false=>
       go_wp2
       refine bodyPost_ret (v:=.tuple #[.nilIface,.bool false]) (by simp [results,Tryz.results133,go_sem]) rfl (HNo.out _ HG2.out.1 (fun ⟨t,D',hk',lk',g⟩=>?_) _)
       have q:=HGL.out t D' hk' lk' g
       rcases HR2.out with ⟨e,_⟩|⟨_,e⟩
       ·cases e
       ·exact e _ _ q.2.2.2.2.1
      | true=>
       obtain ⟨hk',lk',hch,hrb⟩:∃hk' lk',Chain hk lk L hk' lk'/\RBx w2 rb b o n c (x+1) dep lk' hk':=by
        rcases HR2.out with ⟨_,e⟩|⟨e,_⟩
        ·exact e
        ·cases e
       have HC:Hid (Chain hk lk L hk' lk'/\RBx w2 rb b o n c (x+1) dep lk' hk'):=⟨hch,hrb⟩
       clear HR2 hch hrb
       go_wp2_with fail
       refine (copyStrs_any ka m kc L w2 (HK.out w2 (below_grown HG2.out.1 (by omega) (Nat.le_refl _))) HML.out hm2).mono ?_
       rintro e w3 ⟨a3,c3,rfl,ho3,hb3⟩
       have HO3:Hid (w3.ownsRow w2.heap.size 9 1 (.slice a3 m c3) m (strL L)):=ho3
       have H3:Hid (Below w2.heap.size w2 w3):=hb3
       clear ho3 hb3 g1
       go_upto_region 6 with fail
       have S4:Hid (Bx (w3.alloc (.cells #[.int .i64 0,.slice a3 m c3] 206)) w3.heap.size 206 #[.int .i64 0,.slice a3 m c3]/\Below w2.heap.size w2 (w3.alloc (.cells #[.int .i64 0,.slice a3 m c3] 206))/\(w3.alloc (.cells #[.int .i64 0,.slice a3 m c3] 206)).ownsRow w2.heap.size 9 1 (.slice a3 m c3) m (strL L)/\w2.heap.size<=w3.heap.size):=⟨Bx.new _ _ _,H3.out.trans ((below_alloc _ _).mono H3.out.size),own_below HO3.out (below_alloc _ _),H3.out.size⟩
       clear HO3
       generalize (w3.alloc (.cells #[.int .i64 0,.slice a3 m c3] 206))=w4 at S4 ⊢
       generalize w3.heap.size=nb at S4 ⊢
       clear H3
       go_wp2_with fail
       refine (recountLeaf_any nb m c3 a3 0 w4 S4.out.1).mono ?_
       rintro e w5 ⟨rfl,hw5⟩
       have hnb:=S4.out.2.2.2
       have HX5:Hid (Bx w5 nb 206 #[.int .i64 (m:Int),.slice a3 m c3]/\Below w2.heap.size w2 w5/\w5.ownsRow w2.heap.size 9 1 (.slice a3 m c3) m (strL L)/\Bx w5 w.heap.size 168 #[.bool true,.slice ka m kc,.slice da dn dc,.int .i64 ct]):=by
        subst hw5
        refine ⟨S4.out.1.set 0 _,S4.out.2.1.setCell hnb _,?_,(HG2.out.2.below S4.out.2.1).other (by simp;omega) _⟩
        have q:=S4.out.2.2.1
        refine ⟨q.1,?_⟩
        rcases q.2 with q|⟨g,cap,cur,q1,q2,q3,q4⟩
        ·exact Or.inl q
        ·refine Or.inr ⟨g,cap,cur,q1,q2,?_,q4⟩
         rw [Below.heap_setCell _ _ _ _ (show g≠nb from fun e=>?_)]
         ·exact q3
         ·subst e
          have:=S4.out.1
          unfold Bx at this
          rw [q3] at this
          injection this with this
          injection this with _ this _
          exact absurd this (by decide)
       clear hw5 S4
       have z0:=HX5.out.1.cell 0
       have g3:=HX5.out.2.2.2.cell 3
       simp at z0 g3
       have HTA:Hid (∃bs:List Nat,bs.Nodup/\TOw w.heap.size w5 (d+1) (.inl L) (.iface 204 (.pointer (some ⟨nb,0,none⟩))) bs):=by
        have hz2:=HG2.out.1.size
        refine ⟨nb::(a3.map (·.block)).toList,leaf_apart HX5.out.1 HX5.out.2.2.1,nb,a3,c3,rfl,by omega,?_,?_,rfl⟩
        ·rw [<- HML.out];exact HX5.out.1
        ·rw [<- HML.out];exact HX5.out.2.2.1.mono hz2
       have HRB:Hid (RBx w5.drew rb b o n c (x+1) dep lk' hk'/\w.grownBy w5.drew (some rb)):=⟨HC.out.2.below HX5.out.2.1.drew,grown_trans HG2.out.1 (grown_below HX5.out.2.1.drew)⟩
       have HB:Hid (∀W:World,W.cell? ⟨nb,0,none⟩=some (.int .i64 (m:Int))->Calls Tryz.prog 157 #[.pointer (some ⟨nb,0,none⟩)] W fun e w'=>e=.returned (.int .i64 (m:Int))/\w'=W):=fun W hW=>below_any nb (m:Int) W hW
       by_cases hct:ct=(m:Int)
       ·subst hct
        have hq:((m:Int) == (m:Int))=true:=by simp
        go_upto_region 7 with fail
        go_region_held3 (fun w'=>w'.cell? ⟨nb,0,none⟩=some (.int .i64 (m:Int))/\w'.cell? ⟨w.heap.size,3,none⟩=some (.int .i64 (m:Int))) (go_keep) (first|(go_at_call 157;refine (HB.out _ (by simpa using z0)).mono ?_;rintro e w6 ⟨rfl,rfl⟩)|fail)
        all_goals
         go_wp2
         refine bodyPost_ret (v:=.tuple #[.iface 204 (.pointer (some ⟨nb,0,none⟩)),.bool true]) (by simp [results,Tryz.results133,go_sem]) rfl ⟨HRB.out.2,_,true,rfl,.inl ⟨rfl,.inl L,dep,hk',lk',HYes.out hk' lk' (by omega) HB2.out (by omega) HD.out.1 HC.out.1 trivial,HRB.out.1,(let ⟨bs,h1,h2⟩:=HTA.out;⟨bs,h1,h2.below (Below.refl _ _).drew⟩)⟩⟩
       ·have hq:((m:Int) == ct)=false:=by simp;omega
        go_upto_region 7 with fail
        go_region_held3 (fun w'=>w'.cell? ⟨nb,0,none⟩=some (.int .i64 (m:Int))/\w'.cell? ⟨w.heap.size,3,none⟩=some (.int .i64 ct)) (go_keep) (first|(go_at_call 157;refine (HB.out _ (by simpa using z0)).mono ?_;rintro e w6 ⟨rfl,rfl⟩)|fail)
        all_goals
         go_wp2
         refine bodyPost_ret (v:=.tuple #[.iface 204 (.pointer (some ⟨nb,0,none⟩)),.bool false]) (by simp [results,Tryz.results133,go_sem]) rfl (HNo.out _ HRB.out.2 (fun ⟨t,D',hk',lk',g⟩=>?_) _)
         have q:=HGL.out t D' hk' lk' g
         exact hct q.2.2.2.2.2

def pkB (x:Int):ByteArray:=(((ByteArray.empty.push (UInt8.ofNat (x / 16777216).toNat)).push (UInt8.ofNat (x / 65536 % 256).toNat)).push (UInt8.ofNat (x / 256 % 256).toNat)).push (UInt8.ofNat (x % 256).toNat)

set_option maxHeartbeats 2000000 in
theorem partKey_any (x:Int) (h0:0<=x) (h1:x<4294967296) (w:World):Calls Tryz.prog 110 #[.int .i64 x] w fun e w'=>e=.returned (.string (pkB x))/\Below w.heap.size w w':=by
 obtain ⟨W,hW⟩:∃W,W=w.alloc (.cells #[.int .u8 (x / 16777216),.int .u8 (x / 65536 % 256),.int .u8 (x / 256 % 256),.int .u8 (x % 256)] 5):=⟨_,rfl⟩
 have b:=Bx.new w #[.int .u8 (x / 16777216),.int .u8 (x / 65536 % 256),.int .u8 (x / 256 % 256),.int .u8 (x % 256)] 5
 have c0:=b.cell 0
 have c1:=b.cell 1
 have c2:=b.cell 2
 have c3:=b.cell 3
 simp at c0 c1 c2 c3
 have hcv:(convert 47 9 (.slice (some ⟨w.heap.size,0,none⟩) 4 4)).run Tryz.prog (w.alloc (.cells #[.int .u8 (x / 16777216),.int .u8 (x / 65536 % 256),.int .u8 (x / 256 % 256),.int .u8 (x % 256)] 5))=.ok (.string (pkB x)) (w.alloc (.cells #[.int .u8 (x / 16777216),.int .u8 (x / 65536 % 256),.int .u8 (x / 256 % 256),.int .u8 (x % 256)] 5)):=by
  rw [run_convert_bytes_string (P:=Tryz.prog) _ 47 9 5 _ 4 4 rfl rfl rfl,run_bytesToString _ _ 4 4 [x / 16777216,x / 65536 % 256,x / 256 % 256,x % 256] (by simp [go_sem])]
  rfl
 clear hW W b c0 c1 c2 c3
 go_enter Tryz.func110,Tryz.ntmps110
 go_wp2
 go_ret
 exact ⟨rfl,below_alloc _ _⟩

def spL (x:Nat->Int):Nat->ByteArray
 | 0=>{ data:=#[] }
 | i+1=>spL x i++pkB (x i)
def spH (x:Nat->Int):Nat->ByteArray
 | 0=>{ data:=#[] }
 | i+1=>spL x i++pkB (x i+1)
theorem pkB_size (x:Int):(pkB x).size=4:=rfl
theorem spL_size (x:Nat->Int):∀i,(spL x i).size=4*i
 | 0=>rfl
 | i+1=>by
  show (spL x i++pkB (x i)).size=_
  rw [ByteArray.size_append,spL_size x i,pkB_size]
  omega
theorem qcell (p:Qd) (o:Nat) (ho:o<4):(#[.int .i64 p.s,.int .i64 p.p,.int .i64 p.o,.int .i64 p.g]:Array Value)[o]?=some (.int .i64 (partOf p.s p.p p.o p.g o)):=by
 rcases (show o=0\/o=1\/o=2\/o=3 by omega) with rfl|rfl|rfl|rfl <;> rfl
def Lead (x:Nat->Int) (m:Nat):Prop:=m<=4/\(∀i,i<m->x i≠0)/\(m<4->x m=0)

end Go.Proofs.YtcnollkkigiobaaGreat
