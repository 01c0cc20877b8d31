import Derived.Test.YtpaomghibppgkaaGreatNv7
import Derived.Test.YtpaomghibppgkaaGreatNv12
import Derived.Maps.AppendAt
import Derived.Test.YtpaomghibppgkaaGreatNv15
import Derived.Test.YtpaomghibppgkaaGreatNv1
import Derived.Test.YtpaomghibppgkaaGreatNv11
import Derived.Deep.CutBlock
set_option linter.unusedVariables false
set_option maxRecDepth 100000
namespace Go.Proofs.YtpaomghibppgkaaGreat
open Go.RowKit Go.Deep

def offR (d:Nat) (l:List (Ro d)) (k:Nat):Nat:=((l.take k).map (nodesR d)).sum

theorem offR_zero (d:Nat) (l:List (Ro d)):offR d l 0=0:=by simp [offR]
theorem offR_succ (d:Nat) (l:List (Ro d)) (k:Nat) (h:k<l.length):offR d l (k+1)=offR d l k+nodesR d l[k]:=by
 unfold offR
 rw [<- List.take_append_getElem h,List.map_append,List.sum_append]
 simp
theorem offR_all (d:Nat) (l:List (Ro d)):offR d l l.length=(l.map (nodesR d)).sum:=by
 unfold offR
 rw [List.take_length]
theorem offR_mono (d:Nat) (l:List (Ro d)) {j k:Nat} (h:j<=k) (hk:k<=l.length):offR d l j<=offR d l k:=by
 induction k with
 | zero=>
  have:j=0:=by omega
  subst this;exact Nat.le_refl _
 | succ k ih=>
  by_cases e:j=k+1
  ·subst e;exact Nat.le_refl _
  ·have:=ih (by omega) (by omega)
   rw [offR_succ d l k (by omega)]
   omega
theorem offR_le (d:Nat) (l:List (Ro d)) (k:Nat) (h:k<l.length):offR d l k+nodesR d l[k]<=(l.map (nodesR d)).sum:=by
 rw [<- offR_succ d l k h,<- offR_all]
 exact offR_mono d l (by omega) (Nat.le_refl _)
theorem offR_find (d:Nat) (l:List (Ro d)) (m:Nat) (h:m<(l.map (nodesR d)).sum):∃k,∃hk:k<l.length,offR d l k<=m/\m<offR d l k+nodesR d l[k]:=by
 have key:∀k,k<=l.length->m<offR d l k->∃k,∃hk:k<l.length,offR d l k<=m/\m<offR d l k+nodesR d l[k]:=by
  intro k
  induction k with
  | zero=>intro _ h;rw [offR_zero] at h;omega
  | succ k ih=>
   intro hk h
   by_cases e:m<offR d l k
   ·exact ih (by omega) e
   ·rw [offR_succ d l k (by omega)] at h
    exact ⟨k,by omega,by omega,h⟩
 exact key l.length (Nat.le_refl _) (by rw [offR_all];exact h)

def Tells (F:Nat->Tn) (base:Int):(d:Nat)->Ro d->Nat->Prop
 | 0,_,_=>False
 | d+1,.inl t,x=>(F x).lf=true/\(F x).kn=t.length/\(∀j,j<t.length->(F x).ks j=gt t j)/\(F x).dn=0/\(F x).ct=(t.length:Int)
 | d
  + 1,.inr l,x=>(F x).lf=false/\(F x).dn=l.length/\(F x).ct=((l.flatMap (keysR d)).length:Int)/\(F x).kn+1=l.length/\(∀k,k<l.length->(F x).kd k=base+((x+1+offR d l k:Nat):Int))/\
  (∀k (h:k+1<l.length),(F x).ks k=gt (keysR d l[k+1]) 0)/\∀k (h:k<l.length),Tells F base d l[k] (x+1+offR d l k)

theorem Tells.shift {F G:Nat->Tn} {base:Int} {s:Nat}:∀{d:Nat} {t:Ro d} {x:Nat},(∀i,x<=i->i<x+nodesR d t->SameN (G i) (F (i+s)))->Tells G (base+(s:Int)) d t x->Tells F base d t (x+s)
 | 0,_,_,_,h=>h
 | d+1,.inl t,x,hFG,h=>by
  obtain ⟨h1,h2,h3,h4,h5⟩:=h
  obtain ⟨q1,q2,q3,q4,q5,q6⟩:=hFG x (Nat.le_refl _) (Nat.lt_succ_self _)
  exact ⟨by rw [<- q1];exact h1,by rw [<- q3];exact h2,fun j hj=>by rw [<- q5 j (by omega)];exact h3 j hj,by rw [<- q4];exact h4,by rw [<- q2];exact h5⟩
 | d+1,.inr l,x,hFG,h=>by
  obtain ⟨h1,h2,h3,h4,h5,h6,h7⟩:=h
  have hn:nodesR (d+1) (.inr l)=1+(l.map (nodesR d)).sum:=rfl
  obtain ⟨q1,q2,q3,q4,q5,q6⟩:=hFG x (Nat.le_refl _) (by omega)
  refine ⟨by rw [<- q1];exact h1,by rw [<- q4];exact h2,by rw [<- q2];exact h3,by rw [<- q3];exact h4,fun k hk=>?_,fun k hk=>?_,fun k hk=>?_⟩
  ·rw [<- q6 k (by omega),h5 k hk]
   omega
  ·rw [<- q5 k (by omega)]
   exact h6 k hk
  ·have hle:=offR_le d l k hk
   have:=Tells.shift (F:=F) (G:=G) (base:=base) (s:=s) (fun i hi1 hi2=>hFG i (by omega) (by omega)) (h7 k hk)
   rwa [show x+1+offR d l k+s=x+s+1+offR d l k by omega] at this

theorem Tells.congr {F G:Nat->Tn} {base:Int} {d:Nat} {t:Ro d} {x:Nat} (hFG:∀i,x<=i->i<x+nodesR d t->SameN (G i) (F i)) (h:Tells G base d t x):Tells F base d t x:=
 Tells.shift (s:=0) (fun i h1 h2=>hFG i h1 h2) (by simpa using h)

theorem Tells.same {F G:Nat->Tn} {base:Int}:∀{d:Nat} {t:Ro d} {x:Nat},Tells F base d t x->Tells G base d t x->∀i,x<=i->i<x+nodesR d t->SameN (F i) (G i)
 | 0,_,_,h,_,_,_,_=>h.elim
 | d+1,.inl t,x,h,g,i,hi1,hi2=>by
  have hn:nodesR (d+1) (.inl t)=1:=rfl
  have e:i=x:=by omega
  subst e
  obtain ⟨h1,h2,h3,h4,h5⟩:=h
  obtain ⟨g1,g2,g3,g4,g5⟩:=g
  exact ⟨h1.trans g1.symm,h5.trans g5.symm,h2.trans g2.symm,h4.trans g4.symm,fun j hj=>(h3 j (by omega)).trans (g3 j (by omega)).symm,fun j hj=>by omega⟩
 | d+1,.inr l,x,h,g,i,hi1,hi2=>by
  have hn:nodesR (d+1) (.inr l)=1+(l.map (nodesR d)).sum:=rfl
  obtain ⟨h1,h2,h3,h4,h5,h6,h7⟩:=h
  obtain ⟨g1,g2,g3,g4,g5,g6,g7⟩:=g
  by_cases e:i=x
  ·subst e
   exact ⟨h1.trans g1.symm,h3.trans g3.symm,by omega,h2.trans g2.symm,fun j hj=>(h6 j (by omega)).trans (g6 j (by omega)).symm,fun j hj=>(h5 j (by omega)).trans (g5 j (by omega)).symm⟩
  ·obtain ⟨k,hk,k1,k2⟩:=offR_find d l (i-(x+1)) (by omega)
   exact Tells.same (h7 k hk) (g7 k hk) i (by omega) (by omega)

theorem flat_pos {T:Type} (f:T->List ByteArray) (l:List T) (h0:0<l.length) (h:∀t,t∈l->0<(f t).length):0<(l.flatMap f).length:=by
 cases l with
 | nil=>simp at h0
 | cons t l=>
  rw [List.flatMap_cons,List.length_append]
  have:=h t (by simp)
  omega

theorem bal_pos:∀{d:Nat} {t:Ro d} {h:Nat},BalR d false t h->0<(keysR d t).length
 | 0,t,_,_=>t.elim
 | d+1,.inl t,h,hb=>by
  obtain ⟨_,_,h2⟩:=hb
  have:2<=t.length:=by simpa using h2
  show 0<t.length
  omega
 | d+1,.inr l,h,hb=>by
  obtain ⟨h2,_,h',_,hall⟩:=hb
  exact flat_pos _ l (by omega) (fun t ht=>bal_pos (hall t ht))

def hd (d:Nat) (l:List (Ro d)) (j:Nat):ByteArray:=match l[j]? with
 | some t=>gt (keysR d t) 0
 | none=>{ data:=#[] }
def hdL (d:Nat) (l:List (Ro d)) (k:Nat):List ByteArray:=(List.range (k-1)).map fun j=>hd d l (j+1)
def stL (a:Int) (d:Nat) (l:List (Ro d)) (k:Nat):List Int:=(List.range k).map fun j=>a+((1+offR d l j:Nat):Int)
theorem hdL_length (d:Nat) (l:List (Ro d)) (k:Nat):(hdL d l k).length=k-1:=by simp [hdL]
theorem stL_length (a:Int) (d:Nat) (l:List (Ro d)) (k:Nat):(stL a d l k).length=k:=by simp [stL]
theorem hdL_succ (d:Nat) (l:List (Ro d)) (k:Nat) (h:0<k):hdL d l (k+1)=hdL d l k++[hd d l k]:=by
 unfold hdL
 rw [show k+1-1=(k-1)+1 by omega,List.range_succ,List.map_append]
 simp
 rw [show k-1+1=k by omega]
theorem stL_succ (a:Int) (d:Nat) (l:List (Ro d)) (k:Nat):stL a d l (k+1)=stL a d l k++[a+((1+offR d l k:Nat):Int)]:=by
 unfold stL
 rw [List.range_succ,List.map_append]
 simp
theorem hd_get (d:Nat) (l:List (Ro d)) (j:Nat) (h:j<l.length):hd d l j=gt (keysR d l[j]) 0:=by
 unfold hd
 rw [List.getElem?_eq_getElem h]
def gi (l:List Int) (i:Nat):Int:=l.getD i 0
theorem gi_stL (a:Int) (d:Nat) (l:List (Ro d)) (k j:Nat) (h:j<k):gi (stL a d l k) j=a+((1+offR d l j:Nat):Int):=by
 unfold gi stL
 simp [List.getD_eq_getElem?_getD,h]
theorem gt_hdL (d:Nat) (l:List (Ro d)) (k j:Nat) (h:j<k-1):gt (hdL d l k) j=hd d l (j+1):=by
 unfold gt hdL
 simp [List.getD_eq_getElem?_getD,h]

def RdX (S:Nat->Prop) (w:World) (a:Option Addr) (n:Nat) (f:Nat->Value):Prop:=
 n=0\/∃b,a=some ⟨b,0,none⟩/\S b/\b<w.heap.size/\∀i,i<n->w.cell? ⟨b,i,none⟩=some (f i)

theorem RdX.mono {S S' : Nat->Prop} {w w' : World} {a:Option Addr} {n:Nat} {f:Nat->Value} (h:RdX S w a n f) (hz:w.heap.size<=w'.heap.size) (hS:∀b,S b->b<w.heap.size->S' b/\w'.heap[b]?=w.heap[b]?):RdX S' w' a n f:=by
 rcases h with h|⟨b,rfl,hs,hb,hc⟩
 ·exact Or.inl h
 ·obtain ⟨q1,q2⟩:=hS b hs hb
  exact Or.inr ⟨b,rfl,q1,by omega,fun i hi=>by rw [World.cell?_of_block (a:=⟨b,i,none⟩) q2];exact hc i hi⟩

def FnV (S:Nat->Prop) (w:World) (x:Tn) (v0 v1 v2 v3:Value):Prop:=
 v0=.bool x.lf/\v3=.int .i64 x.ct/\∃ka kc da dc,v1=.slice ka x.kn kc/\v2=.slice da x.dn dc/\RdX S w ka x.kn (fun i=>.string (x.ks i))/\RdX S w da x.dn (fun i=>.int .i64 (x.kd i))

def FlAt (S:Nat->Prop) (w:World) (n:Nat) (F:Nat->Tn) (xs:List Value):Prop:=
 xs.length=n*4/\∀i,i<n->∃v0 v1 v2 v3,xs[i*4]?=some v0/\xs[i*4+1]?=some v1/\xs[i*4+2]?=some v2/\xs[i*4+3]?=some v3/\FnV S w (F i) v0 v1 v2 v3

theorem FlAt.mono {S S' : Nat->Prop} {w w' : World} {n:Nat} {F:Nat->Tn} {xs:List Value} (h:FlAt S w n F xs) (hz:w.heap.size<=w'.heap.size) (hS:∀b,S b->b<w.heap.size->S' b/\w'.heap[b]?=w.heap[b]?):FlAt S' w' n F xs:=by
 refine ⟨h.1,fun i hi=>?_⟩
 obtain ⟨v0,v1,v2,v3,h0,h1,h2,h3,e0,e3,ka,kc,da,dc,e1,e2,r1,r2⟩:=h.2 i hi
 exact ⟨v0,v1,v2,v3,h0,h1,h2,h3,e0,e3,ka,kc,da,dc,e1,e2,r1.mono hz hS,r2.mono hz hS⟩

def catN (n:Nat) (F G:Nat->Tn) (i:Nat):Tn:=if i<n then F i else G (i-n)

theorem FlAt.app {S:Nat->Prop} {w:World} {n m:Nat} {F G:Nat->Tn} {xs ys:List Value} (h:FlAt S w n F xs) (g:FlAt S w m G ys):FlAt S w (n+m) (catN n F G) (xs++ys):=by
 refine ⟨by rw [List.length_append,h.1,g.1];omega,fun i hi=>?_⟩
 by_cases e:i<n
 ·obtain ⟨v0,v1,v2,v3,h0,h1,h2,h3,hv⟩:=h.2 i e
  have hl:=h.1
  refine ⟨v0,v1,v2,v3,?_,?_,?_,?_,by unfold catN;rw [if_pos e];exact hv⟩
  ·rw [List.getElem?_append_left (by omega)];exact h0
  ·rw [List.getElem?_append_left (by omega)];exact h1
  ·rw [List.getElem?_append_left (by omega)];exact h2
  ·rw [List.getElem?_append_left (by omega)];exact h3
 ·obtain ⟨v0,v1,v2,v3,h0,h1,h2,h3,hv⟩:=g.2 (i-n) (by omega)
  have hl:=h.1
  refine ⟨v0,v1,v2,v3,?_,?_,?_,?_,by unfold catN;rw [if_neg e];exact hv⟩
  ·rw [List.getElem?_append_right (by omega),show i*4-xs.length=(i-n)*4 by omega];exact h0
  ·rw [List.getElem?_append_right (by omega),show i*4+1-xs.length=(i-n)*4+1 by omega];exact h1
  ·rw [List.getElem?_append_right (by omega),show i*4+2-xs.length=(i-n)*4+2 by omega];exact h2
  ·rw [List.getElem?_append_right (by omega),show i*4+3-xs.length=(i-n)*4+3 by omega];exact h3

theorem FlAt.one {S:Nat->Prop} {w:World} {F:Nat->Tn} {v0 v1 v2 v3:Value} (h:FnV S w (F 0) v0 v1 v2 v3):FlAt S w 1 F [v0,v1,v2,v3]:=by
 refine ⟨rfl,fun i hi=>?_⟩
 have e:i=0:=by omega
 subst e
 exact ⟨v0,v1,v2,v3,rfl,rfl,rfl,rfl,h⟩

theorem FlAt.oneCell {S:Nat->Prop} {w:World} {n:Nat} {F:Nat->Tn} {xs:List Value} (h:FlAt S w n F xs):∀u∈xs,u.oneCell'=true:=by
 intro u hu
 obtain ⟨j,hg⟩:=List.mem_iff_getElem?.1 hu
 have hj:j<xs.length:=(List.getElem?_eq_some_iff.1 hg).1
 have hl:=h.1
 obtain ⟨v0,v1,v2,v3,h0,h1,h2,h3,e0,e3,ka,kc,da,dc,e1,e2,_⟩:=h.2 (j / 4) (by omega)
 have h4:j=j / 4*4\/j=j / 4*4+1\/j=j / 4*4+2\/j=j / 4*4+3:=by omega
 rcases h4 with e|e|e|e
 ·rw [e,h0] at hg
  injection hg with hg
  rw [<- hg,e0];rfl
 ·rw [e,h1] at hg
  injection hg with hg
  rw [<- hg,e1];rfl
 ·rw [e,h2] at hg
  injection hg with hg
  rw [<- hg,e2];rfl
 ·rw [e,h3] at hg
  injection hg with hg
  rw [<- hg,e3];rfl

theorem RdX.rdS {S:Nat->Prop} {w:World} {a:Option Addr} {n:Nat} {X:Nat->ByteArray} (h:RdX S w a n (fun i=>.string (X i))):RdS w a n X:=by
 rcases h with h|⟨b,rfl,_,_,hc⟩
 ·exact Or.inl h
 ·exact Or.inr ⟨b,0,rfl,fun i hi=>by rw [Nat.zero_add];exact hc i hi⟩
theorem RdX.rdI {S:Nat->Prop} {w:World} {a:Option Addr} {n:Nat} {X:Nat->Int} (h:RdX S w a n (fun i=>.int .i64 (X i))):Rd .i64 w a n X:=by
 rcases h with h|⟨b,rfl,_,_,hc⟩
 ·exact Or.inl h
 ·exact Or.inr ⟨b,0,rfl,fun i hi=>by rw [Nat.zero_add];exact hc i hi⟩

theorem FlAt.rd {S:Nat->Prop} {w:World} {g n:Nat} {F:Nat->Tn} {xs:List Value} (h:FlAt S w n F xs) (hc:∀j u,xs[j]?=some u->w.cell? ⟨g,j,none⟩=some u):RdTn w (some ⟨g,0,none⟩) n F:=by
 refine Or.inr ⟨g,0,rfl,fun i hi=>?_⟩
 obtain ⟨v0,v1,v2,v3,h0,h1,h2,h3,e0,e3,ka,kc,da,dc,e1,e2,r1,r2⟩:=h.2 i hi
 subst e0 e1 e2 e3
 refine ⟨ka,kc,da,dc,?_,?_,?_,?_,r1.rdS,r2.rdI⟩
 ·rw [Nat.zero_add];exact hc _ _ h0
 ·rw [Nat.zero_add];exact hc _ _ h1
 ·rw [Nat.zero_add];exact hc _ _ h2
 ·rw [Nat.zero_add];exact hc _ _ h3

theorem own_ne {w:World} {b1 b2:Nat} {e1 e2:TypeId} {s1 s2:Nat} {v1 v2:Value} {n1 n2:Nat} {x1 x2:List Value} (h1:w.ownsRow b1 e1 s1 v1 n1 x1) (h2:w.ownsRow b2 e2 s2 v2 n2 x2) (he:e1≠e2):∀g,v1.ownBlock=some g->v2.ownBlock≠some g:=by
 intro g hg1 hg2
 rcases h1.2 with ⟨rfl,_⟩|⟨g',cap,cur,rfl,hb,hh,_⟩
 ·simp [Value.ownBlock] at hg1
 ·simp [Value.ownBlock] at hg1
  subst hg1
  rcases h2.2 with ⟨rfl,_⟩|⟨g2,cap2,cur2,rfl,hb2,hh2,_⟩
  ·simp [Value.ownBlock] at hg2
  ·simp [Value.ownBlock] at hg2
   subst hg2
   rw [hh] at hh2
   injection hh2 with q
   injection q with _ q _
   exact he q

def intL (L:List Int):List Value:=L.map (.int .i64)
theorem intL_app (L M:List Int):intL (L++M)=intL L++intL M:=by simp [intL]
theorem intL_get (L:List Int) (i:Nat) (h:i<L.length):(intL L)[i]?=some (.int .i64 (gi L i)):=by
 simp [intL,gi,List.getD_eq_getElem?_getD,h]
theorem strL_get (L:List ByteArray) (i:Nat) (h:i<L.length):(strL L)[i]?=some (.string (gt L i)):=by
 simp [strL,gt,List.getD_eq_getElem?_getD,h]

theorem own_set {w:World} {base:Nat} {e:TypeId} {size:Nat} {v:Value} {n:Nat} {xs:List Value} (h:w.ownsRow base e size v n xs) (p:Addr) (u:Value) (hp:p.block<base):(w.setCell p u).ownsRow base e size v n xs:=by
 refine ⟨h.1,?_⟩
 rcases h.2 with q|⟨g,cap,cur,q1,q2,q3,q4⟩
 ·exact Or.inl q
 ·refine Or.inr ⟨g,cap,cur,q1,q2,?_,q4⟩
  rw [Below.heap_setCell _ _ _ _ (show g≠p.block from by omega)]
  exact q3

def SS (nb:Nat) (v1 v2 v3:Value) (b:Nat):Prop:=nb+1<=b/\v1.ownBlock≠some b/\v2.ownBlock≠some b/\v3.ownBlock≠some b

structure FlSt (w wr:World) (nb:Nat) (tbox:Array Value) (ct:Int) (ka:Option Addr) (kn kc:Nat) (da:Option Addr) (dn dc:Nat) (ra:Option Addr) (rn rc:Nat) (Lk:List ByteArray) (Dk:List Int) (R:Nat->Tn) (xs:List Value):Prop where
 tb:Bx wr w.heap.size 116 tbox
 nbx:Bx wr nb 210 #[.bool false,.slice ka kn kc,.slice da dn dc,.int .i64 ct]
 lt:w.heap.size<nb
 own1:wr.ownsRow (nb+1) 9 1 (.slice ka kn kc) kn (strL Lk)
 own2:wr.ownsRow (nb+1) 2 1 (.slice da dn dc) dn (intL Dk)
 own3:wr.ownsRow (nb+1) 210 4 (.slice ra rn rc) rn xs
 fl:FlAt (SS nb (.slice ka kn kc) (.slice da dn dc) (.slice ra rn rc)) wr rn R xs
 bel:Below w.heap.size w wr

section
variable {w wr w1 W2 w5:World} {nb:Nat} {tbox:Array Value} {ct:Int} {ka:Option Addr} {kn kc:Nat} {da:Option Addr} {dn dc:Nat} {ra:Option Addr} {rn rc:Nat} {Lk:List ByteArray} {Dk:List Int} {R:Nat->Tn} {xs:List Value}

theorem FlSt.below (h:FlSt w wr nb tbox ct ka kn kc da dn dc ra rn rc Lk Dk R xs) (hb:Below wr.heap.size wr w1):FlSt w w1 nb tbox ct ka kn kc da dn dc ra rn rc Lk Dk R xs:=
 ⟨h.tb.below hb,h.nbx.below hb,h.lt,own_below h.own1 hb,own_below h.own2 hb,own_below h.own3 hb,h.fl.mono hb.size (fun b hs hlt=>⟨hs,hb.block b hlt⟩),h.bel.trans (hb.mono h.bel.size)⟩

theorem FlSt.growD (h:FlSt w wr nb tbox ct ka kn kc da dn dc ra rn rc Lk Dk R xs) (hg:wr.grownBy w5 (Value.slice da dn dc).ownBlock) {a' : Option Addr} {c' : Nat} {D' : List Int} (ho:w5.ownsRow (nb+1) 2 1 (.slice a' (dn+1) c') (dn+1) (intL D')) (hat:(Value.slice a' (dn+1) c').ownBlock=(Value.slice da dn dc).ownBlock\/(Value.slice a' (dn+1) c').ownBlock=some wr.heap.size) :
  FlSt w (w5.setCell ⟨nb,2,none⟩ (.slice a' (dn+1) c')) nb tbox ct ka kn kc a' (dn+1) c' ra rn rc Lk D' R xs:=by
 have hl:=own_lt h.own2
 have l1:=h.lt
 have l2:=h.nbx.lt
 have hz:=hg.size
 refine ⟨(h.tb.grown hg (fun e=>by have:=hl _ e;omega)).other (by simp;omega) _,(h.nbx.grown hg (fun e=>by have:=hl _ e;omega)).set 2 _,h.lt,own_set (h.own1.kept hg ?_) _ _ (by simp),own_set ho _ _ (by simp),own_set (h.own3.kept hg ?_) _ _ (by simp),?_,(h.bel.grown hg (by have:=h.bel.size;omega) (fun g e=>by have:=hl g e;omega)).setCell (by simp;omega) _⟩
 ·cases e:(Value.slice ka kn kc).ownBlock with
  | none=>exact Or.inl rfl
  | some g=>exact Or.inr (fun q=>own_ne h.own1 h.own2 (by decide) g e q.symm)
 ·cases e:(Value.slice ra rn rc).ownBlock with
  | none=>exact Or.inl rfl
  | some g=>exact Or.inr (fun q=>own_ne h.own3 h.own2 (by decide) g e q.symm)
 ·refine h.fl.mono (by simpa [World.setCell] using hz) (fun b hs hlt=>⟨⟨hs.1,hs.2.1,?_,hs.2.2.2⟩,?_⟩)
  ·rcases hat with e|e
   ·rw [e];exact hs.2.2.1
   ·rw [e]
    intro q
    injection q with q
    omega
  ·rw [Below.heap_setCell _ _ _ _ (show b≠nb from by have:=hs.1;omega)]
   exact hg.block b hlt (fun e=>hs.2.2.1 e.symm)

theorem FlSt.growK (h:FlSt w wr nb tbox ct ka kn kc da dn dc ra rn rc Lk Dk R xs) (hg:wr.grownBy w5 (Value.slice ka kn kc).ownBlock) {a' : Option Addr} {c' : Nat} {L' : List ByteArray} (ho:w5.ownsRow (nb+1) 9 1 (.slice a' (kn+1) c') (kn+1) (strL L')) (hat:(Value.slice a' (kn+1) c').ownBlock=(Value.slice ka kn kc).ownBlock\/(Value.slice a' (kn+1) c').ownBlock=some wr.heap.size) :
  FlSt w (w5.setCell ⟨nb,1,none⟩ (.slice a' (kn+1) c')) nb tbox ct a' (kn+1) c' da dn dc ra rn rc L' Dk R xs:=by
 have hl:=own_lt h.own1
 have l1:=h.lt
 have l2:=h.nbx.lt
 have hz:=hg.size
 refine ⟨(h.tb.grown hg (fun e=>by have:=hl _ e;omega)).other (by simp;omega) _,(h.nbx.grown hg (fun e=>by have:=hl _ e;omega)).set 1 _,h.lt,own_set ho _ _ (by simp),own_set (h.own2.kept hg ?_) _ _ (by simp),own_set (h.own3.kept hg ?_) _ _ (by simp),?_,(h.bel.grown hg (by have:=h.bel.size;omega) (fun g e=>by have:=hl g e;omega)).setCell (by simp;omega) _⟩
 ·cases e:(Value.slice da dn dc).ownBlock with
  | none=>exact Or.inl rfl
  | some g=>exact Or.inr (fun q=>own_ne h.own2 h.own1 (by decide) g e q.symm)
 ·cases e:(Value.slice ra rn rc).ownBlock with
  | none=>exact Or.inl rfl
  | some g=>exact Or.inr (fun q=>own_ne h.own3 h.own1 (by decide) g e q.symm)
 ·refine h.fl.mono (by simpa [World.setCell] using hz) (fun b hs hlt=>⟨⟨hs.1,?_,hs.2.2.1,hs.2.2.2⟩,?_⟩)
  ·rcases hat with e|e
   ·rw [e];exact hs.2.1
   ·rw [e]
    intro q
    injection q with q
    omega
  ·rw [Below.heap_setCell _ _ _ _ (show b≠nb from by have:=hs.1;omega)]
   exact hg.block b hlt (fun e=>hs.2.1 e.symm)

theorem FlSt.growR (h:FlSt w wr nb tbox ct ka kn kc da dn dc ra rn rc Lk Dk R xs) (hb:Below wr.heap.size wr w1) (hg:w1.grownBy w5 (Value.slice ra rn rc).ownBlock) {a' : Option Addr} {c' m:Nat} {G:Nat->Tn} {ys:List Value} (hf:FlAt (fun b=>wr.heap.size<=b) w1 m G ys) (ho:w5.ownsRow (nb+1) 210 4 (.slice a' (rn+m) c') (rn+m) (xs++ys)) (hat:(Value.slice a' (rn+m) c').ownBlock=(Value.slice ra rn rc).ownBlock\/(Value.slice a' (rn+m) c').ownBlock=some w1.heap.size) :
  FlSt w w5 nb tbox ct ka kn kc da dn dc a' (rn+m) c' Lk Dk (catN rn R G) (xs++ys):=by
 have h1:=h.below hb
 have hl:=own_lt h.own3
 have l1:=h.lt
 have l2:=h.nbx.lt
 have hz:=hg.size
 have hz1:=hb.size
 have hkk:=own_lt h.own1
 have hdd:=own_lt h.own2
 refine ⟨h1.tb.grown hg (fun e=>by have:=hl _ e;omega),h1.nbx.grown hg (fun e=>by have:=hl _ e;omega),h.lt,h1.own1.kept hg ?_,h1.own2.kept hg ?_,ho,?_,h1.bel.grown hg (by have:=h1.bel.size;omega) (fun g e=>by have:=hl g e;omega)⟩
 ·cases e:(Value.slice ka kn kc).ownBlock with
  | none=>exact Or.inl rfl
  | some g=>exact Or.inr (fun q=>own_ne h.own1 h.own3 (by decide) g e q.symm)
 ·cases e:(Value.slice da dn dc).ownBlock with
  | none=>exact Or.inl rfl
  | some g=>exact Or.inr (fun q=>own_ne h.own2 h.own3 (by decide) g e q.symm)
 ·refine FlAt.app (h1.fl.mono hz (fun b hs hlt=>⟨⟨hs.1,hs.2.1,hs.2.2.1,?_⟩,hg.block b hlt (fun e=>hs.2.2.2 e.symm)⟩)) (hf.mono hz (fun b hs hlt=>⟨⟨by omega,fun e=>by have:=hkk _ e;omega,fun e=>by have:=hdd _ e;omega,?_⟩,hg.block b hlt (fun e=>by have:=hl _ e.symm;omega)⟩))
  ·rcases hat with e|e
   ·rw [e];exact hs.2.2.2
   ·rw [e]
    intro q
    injection q with q
    omega
  ·rcases hat with e|e
   ·rw [e]
    intro q
    have:=hl _ q
    omega
   ·rw [e]
    intro q
    injection q with q
    omega
end

def RetFlat (w:World) (d:Nat) (t:Ro d) (a:Int) (e:Ending) (w' : World):Prop:=
 ∃ra rc G xs,e=.returned (.slice ra (nodesR d t) rc)/\Below w.heap.size w w'/\w'.ownsRow w.heap.size 210 4 (.slice ra (nodesR d t) rc) (nodesR d t) xs/\FlAt (fun b=>w.heap.size<=b) w' (nodesR d t) G xs/\Tells G a d t 0

theorem cellOf {w:World} {b:Nat} {A:Array Value} {t:TypeId} (h:w.heap[b]?=some (.cells A t)) (o:Nat):w.cell? ⟨b,o,none⟩=A[o]?:=by simp [World.cell?,h]
theorem frozenOf {w:World} {b:Nat} {A:Array Value} {t:TypeId} (h:w.heap[b]?=some (.cells A t)) (o:Nat):w.frozen? ⟨b,o,none⟩=false:=by simp [World.frozen?,h]

theorem box3 {w w2:World} {A B C:Array Value} {t:TypeId} (hb:Below (w.heap.size+3) (((w.alloc (.cells A t)).alloc (.cells B t)).alloc (.cells C t)) w2) :
  (∀o,w2.cell? ⟨w.heap.size,o,none⟩=A[o]?)/\(∀o,w2.cell? ⟨w.heap.size+1,o,none⟩=B[o]?)/\(∀o,w2.cell? ⟨w.heap.size+1+1,o,none⟩=C[o]?)/\
  (∀o,w2.frozen? ⟨w.heap.size+1,o,none⟩=false)/\(∀o,w2.frozen? ⟨w.heap.size+1+1,o,none⟩=false)/\w.heap.size+3<=w2.heap.size/\Below w.heap.size w w2:=by
 have e1:(w.alloc (.cells A t)).heap.size=w.heap.size+1:=by simp
 have e2:((w.alloc (.cells A t)).alloc (.cells B t)).heap.size=w.heap.size+1+1:=by simp
 have b0:=blk_alloc_new w (.cells A t)
 have b1:=blk_alloc_new (w.alloc (.cells A t)) (.cells B t)
 have b2:=blk_alloc_new ((w.alloc (.cells A t)).alloc (.cells B t)) (.cells C t)
 rw [e1] at b1
 rw [e2] at b2
 have g0:=(hb.block w.heap.size (by omega)).trans (((below_alloc _ _).block w.heap.size (by omega)).trans (((below_alloc _ _).block w.heap.size (by omega)).trans b0))
 have g1:=(hb.block (w.heap.size+1) (by omega)).trans (((below_alloc _ _).block (w.heap.size+1) (by omega)).trans b1)
 have g2:=(hb.block (w.heap.size+1+1) (by omega)).trans b2
 exact ⟨cellOf g0,cellOf g1,cellOf g2,frozenOf g1,frozenOf g2,by have:=hb.size;simp at this;omega,((((below_alloc _ _).alloc (by simp) _).alloc (by simp;omega) _)).trans (hb.mono (by omega))⟩

theorem box2 {w:World} {A B:Array Value} {t:TypeId} :
  (∀o,((w.alloc (.cells A t)).alloc (.cells B t)).cell? ⟨w.heap.size,o,none⟩=A[o]?)/\(∀o,((w.alloc (.cells A t)).alloc (.cells B t)).cell? ⟨w.heap.size+1,o,none⟩=B[o]?)/\
  (∀b o,b<w.heap.size->((w.alloc (.cells A t)).alloc (.cells B t)).cell? ⟨b,o,none⟩=w.cell? ⟨b,o,none⟩)/\(∀b o,b<w.heap.size->((w.alloc (.cells A t)).alloc (.cells B t)).frozen? ⟨b,o,none⟩=w.frozen? ⟨b,o,none⟩)/\True:=by
 have e1:(w.alloc (.cells A t)).heap.size=w.heap.size+1:=by simp
 have b0:=blk_alloc_new w (.cells A t)
 have b1:=blk_alloc_new (w.alloc (.cells A t)) (.cells B t)
 rw [e1] at b1
 have g0:=((below_alloc (w.alloc (.cells A t)) (.cells B t)).block w.heap.size (by omega)).trans b0
 have q:Below w.heap.size w ((w.alloc (.cells A t)).alloc (.cells B t)):=(below_alloc _ _).alloc (by simp) _
 exact ⟨cellOf g0,cellOf b1,fun b o h=>q.cell (p:=⟨b,o,none⟩) h,fun b o h=>q.frozen (p:=⟨b,o,none⟩) h,trivial⟩
theorem keepFar {w:World} {b b' o o' : Nat} {v u:Value} (h:¬ b=b') (hc:w.cell? ⟨b',o',none⟩=some u):(w.setCell ⟨b,o,none⟩ v).drew.cell? ⟨b',o',none⟩=some u:=(World.cell?_setCell_far w ⟨b,o,none⟩ ⟨b',o',none⟩ v h).trans hc
theorem keepOff {w:World} {b o o' : Nat} {v u:Value} (h:¬ o=o') (hc:w.cell? ⟨b,o',none⟩=some u):(w.setCell ⟨b,o,none⟩ v).drew.cell? ⟨b,o',none⟩=some u:=(World.cell?_setCell_other (w:=w) (v:=v) (a:=⟨b,o,none⟩) (b:=⟨b,o',none⟩) (by intro e;cases e;exact h rfl)).trans hc
theorem putIn {w:World} {b o:Nat} {v u:Value} (hc:w.cell? ⟨b,o,none⟩=some u):(w.setCell ⟨b,o,none⟩ v).drew.cell? ⟨b,o,none⟩=some v:=World.cell?_setCell_same' w ⟨b,o,none⟩ v (by rw [hc];rfl)

theorem bA {w w' : World} {o:Obj} (h:Below w.heap.size w w'):Below w.heap.size w (w'.alloc o):=h.alloc h.size o
theorem bS {w w' : World} {b o:Nat} {v:Value} (hb:w.heap.size<=b) (h:Below w.heap.size w w'):Below w.heap.size w (w'.setCell ⟨b,o,none⟩ v):=h.setCell hb v
theorem bD {w w' : World} (h:Below w.heap.size w w'):Below w.heap.size w w'.drew:=h.drew

def TAt (S:Nat->Prop) (w:World):(d:Nat)->Ro d->Value->Prop
 | 0,_,_=>False
 | d+1,.inl t,v=>∃b ka kc,v=.iface 243 (.pointer (some ⟨b,0,none⟩))/\S b/\Bx w b 247 #[.int .i64 (t.length:Int),.slice ka t.length kc]/\RdX S w ka t.length (fun i=>.string (gt t i))
 | d
  + 1,.inr l,v=>∃(b g kc:Nat) (xs:List Value),v=.iface 248 (.pointer (some ⟨b,0,none⟩))/\S b/\Bx w b 251 #[.int .i64 ((l.flatMap (keysR d)).length:Int),.slice (some ⟨g,0,none⟩) l.length kc]/\S g/\(g<w.heap.size/\l.length<=kc/\kc<=9223372036854775807)/\0<l.length/\(∀j u,xs[j]?=some u->w.cell? ⟨g,j,none⟩=some u)/\
  ∀k (h:k<l.length),∃u,xs[k]?=some u/\TAt S w d l[k] u

theorem TAt.mono {S S' : Nat->Prop} {w w' : World} (hz:w.heap.size<=w'.heap.size) (hS:∀b,S b->b<w.heap.size->S' b/\w'.heap[b]?=w.heap[b]?):∀{d:Nat} {t:Ro d} {v:Value},TAt S w d t v->TAt S' w' d t v
 | 0,_,_,h=>h
 | d+1,.inl t,v,h=>by
  obtain ⟨b,ka,kc,rfl,hb,hx,hr⟩:=h
  obtain ⟨q1,q2⟩:=hS b hb hx.lt
  exact ⟨b,ka,kc,rfl,q1,hx.of_block q2,hr.mono hz hS⟩
 | d+1,.inr l,v,h=>by
  obtain ⟨b,g,kc,xs,rfl,hb,hx,hg,hgl,hl,hc,hk⟩:=h
  obtain ⟨q1,q2⟩:=hS b hb hx.lt
  obtain ⟨q3,q4⟩:=hS g hg hgl.1
  refine ⟨b,g,kc,xs,rfl,q1,hx.of_block q2,q3,⟨by have:=hgl.1;omega,hgl.2⟩,hl,fun j u hj=>by rw [World.cell?_of_block (a:=⟨g,j,none⟩) q4];exact hc j u hj,fun k hk2=>?_⟩
  obtain ⟨u,e,ht⟩:=hk k hk2
  exact ⟨u,e,TAt.mono hz hS ht⟩

theorem TAt.below {S:Nat->Prop} {w w' : World} {d:Nat} {t:Ro d} {v:Value} (h:TAt S w d t v) (hb:Below w.heap.size w w'):TAt S w' d t v:=
 h.mono hb.size (fun b hs hlt=>⟨hs,hb.block b hlt⟩)

def Chain:Bool->ByteArray->List ByteArray->Bool->ByteArray->Prop
 | hk,lk,[],hk',lk'=>hk'=hk/\lk'=lk
 | hk,lk,k::L,hk',lk'=>k.size<=16/\(hk=true->Op.bytesLess lk.toList k.toList=true)/\Chain true k L hk' lk'

theorem Chain.fn:∀{hk:Bool} {lk:ByteArray} {L:List ByteArray} {h1 h2:Bool} {l1 l2:ByteArray},Chain hk lk L h1 l1->Chain hk lk L h2 l2->h1=h2/\l1=l2
 | hk,lk,[],h1,h2,l1,l2,a,b=>⟨a.1.trans b.1.symm,a.2.trans b.2.symm⟩
 | hk,lk,k::L,h1,h2,l1,l2,a,b=>Chain.fn a.2.2 b.2.2

theorem Chain.app:∀{hk:Bool} {lk:ByteArray} {L M:List ByteArray} {h1 h2:Bool} {l1 l2:ByteArray},Chain hk lk L h1 l1->Chain h1 l1 M h2 l2->Chain hk lk (L++M) h2 l2
 | hk,lk,[],M,h1,h2,l1,l2,a,b=>by
  obtain ⟨rfl,rfl⟩:=a
  exact b
 | hk,lk,k::L,M,h1,h2,l1,l2,a,b=>⟨a.1,a.2.1,Chain.app a.2.2 b⟩

theorem Chain.split:∀{hk:Bool} {lk:ByteArray} {L M:List ByteArray} {h2:Bool} {l2:ByteArray},Chain hk lk (L++M) h2 l2->∃h1 l1,Chain hk lk L h1 l1/\Chain h1 l1 M h2 l2
 | hk,lk,[],M,h2,l2,a=>⟨hk,lk,⟨rfl,rfl⟩,a⟩
 | hk,lk,k::L,M,h2,l2,a=>by
  obtain ⟨h1,l1,q1,q2⟩:=Chain.split a.2.2
  exact ⟨h1,l1,⟨a.1,a.2.1,q1⟩,q2⟩

structure Good (N:Nat->Tn) (n x:Nat) (dep D:Int) (hk:Bool) (lk:ByteArray) (d:Nat) (t:Ro d) (D' : Int) (hk' : Bool) (lk' : ByteArray):Prop where
 tl:Tells N 0 d t x
 le:x+nodesR d t<=n
 bal:∃h,BalR d (decide (dep=0)) t h/\D'=dep+(h:Int)
 dd:D=0\/D=D'
 asc:Chain hk lk (keysR d t) hk' lk'

def RBx (w:World) (rb b o n c x:Nat) (D:Int) (lk:ByteArray) (hk:Bool):Prop:=
 Bx w rb 223 #[.slice (some ⟨b,o,none⟩) n c,.int .i64 (x:Int),.int .i64 D,.string lk,.bool hk]

def RetRd (N:Nat->Tn) (rb b o n c x:Nat) (dep D:Int) (hk:Bool) (lk:ByteArray) (d:Nat) (w:World) (e:Ending) (w' : World):Prop:=
 w.grownBy w' (some rb)/\∃v ok,e=.returned (.tuple #[v,.bool ok])/\
  ((ok=true/\∃t D' hk' lk',Good N n x dep D hk lk d t D' hk' lk'/\RBx w' rb b o n c (x+nodesR d t) D' lk' hk'/\TAt (fun b=>w.heap.size<=b) w' d t v)\/
   (ok=false/\¬ ∃t D' hk' lk',Good N n x dep D hk lk d t D' hk' lk'))

def PathRet (C:(Nat->Bool)->(Nat->ByteArray)->Prop) (w:World) (n:Nat) (I:Nat->Int) (X R:Nat->ByteArray) (e:Ending) (w' : World):Prop:=
 Below w.heap.size w w'/\
 ((¬ VPth n I X R/\∃v,e=.returned (.tuple #[v,.bool false]))\/
 (VPth n I X R/\∃g c AA CC Bd Lb,e=.returned (.tuple #[.slice (some ⟨g,0,none⟩) n c,.bool true])/\w.heap.size<=g/\n<=c/\c<=9223372036854775807/\C Bd Lb/\
  PlAt w' g n (plF I X R AA CC Bd Lb (fun i=>(hM (arI I) 100 i:Int)))/\(∀i,i<n->OwnIp w' w.heap.size (AA i) (arOf (I i)) (fun j=>(opf (arI I) i j:Int)))/\(∀i,i<n->arOf (I i)<=CC i/\CC i<=9223372036854775807)))

def NBox (w:World) (b:Nat) (k:Int) (s t:ByteArray):Prop:=w.cell? ⟨b,0,none⟩=some (.int .i64 k)/\w.cell? ⟨b,1,none⟩=some (.string s)/\w.cell? ⟨b,2,none⟩=some (.string t)
theorem NBox.below {w w' : World} {b:Nat} {k:Int} {s t:ByteArray} (h:NBox w b k s t) (hb:Below w.heap.size w w'):NBox w' b k s t:=by
 obtain ⟨h1,h2,h3⟩:=h
 refine ⟨?_,?_,?_⟩
 ·rw [hb.cell (World.block_lt_of_cell? _ _ h1)];exact h1
 ·rw [hb.cell (World.block_lt_of_cell? _ _ h2)];exact h2
 ·rw [hb.cell (World.block_lt_of_cell? _ _ h3)];exact h3

def MeasureOk:Prop:=∀(g n c B:Nat) (I:Nat->Int) (X R:Nat->ByteArray) (AA:Nat->Option Addr) (CC:Nat->Nat) (Bd:Nat->Bool) (Lb:Nat->ByteArray) (w:World),
 PlAt w g n (plF I X R AA CC Bd Lb (fun _=>0))->(∀i,i<n->OwnIp w B (AA i) (arOf (I i)) (fun j=>(opf (arI I) i j:Int)))->(∀i,i<n->arOf (I i)<=CC i/\CC i<=9223372036854775807)->StackOk (arI I) n->n<=100->0<n->
 Calls Tryz.prog 68 #[.slice (some ⟨g,0,none⟩) n c] w fun e w'=>e=.returned (.tuple #[])/\PlAt w' g n (plF I X R AA CC Bd Lb (fun i=>(hM (arI I) 100 i:Int)))/\w.grownBy w' (some g)
def BindOk (C:Nat->(Nat->Int)->(Nat->ByteArray)->(Nat->Bool)->(Nat->ByteArray)->Prop):Prop:=∀(g n c B:Nat) (I:Nat->Int) (X R:Nat->ByteArray) (AA:Nat->Option Addr) (CC:Nat->Nat) (H:Nat->Int) (w:World),
 PlAt w g n (plF I X R AA CC (fun _=>false) (fun _=>{ data:=#[] }) H)->(∀i,i<n->OwnIp w B (AA i) (arOf (I i)) (fun j=>(opf (arI I) i j:Int)))->(∀i,i<n->arOf (I i)<=CC i/\CC i<=9223372036854775807)->StackOk (arI I) n->n<=100->0<n->B<=w.heap.size->
 Calls Tryz.prog 69 #[.slice (some ⟨g,0,none⟩) n c] w fun e w'=>e=.returned (.tuple #[])/\∃Bd Lb,C n I X Bd Lb/\PlAt w' g n (plF I X R AA CC Bd Lb H)/\w.grownBy w' (some g)
def LastOk:Prop:=∀(g n c:Nat) (f:Nat->Plc) (w:World),PlAt w g n f->0<n->n<=100->
 Calls Tryz.prog 70 #[.slice (some ⟨g,0,none⟩) n c] w fun e w'=>e=.returned (.agg #[.int .i64 (f (n-1)).kind,.string (f (n-1)).s,.string (f (n-1)).t,.bool (f (n-1)).bound,.string (f (n-1)).label,.slice (f (n-1)).ad (f (n-1)).cnt (f (n-1)).cap,.int .i64 (f (n-1)).height])/\Below w.heap.size w w'

def ocOf (k:Int):Nat:=if 1<=k/\k<=9 then arOf k else 1
theorem ocOf_le (k:Int):ocOf k<=2:=by
 have:=arOf_le k
 unfold ocOf
 split <;> omega
theorem opCount_all (k:Int) (w:World):Calls Tryz.prog 65 #[.int .i64 k] w fun e w'=>e=.returned (.int .i64 (ocOf k))/\w'=w:=by
 by_cases h:1<=k/\k<=9
 ·rw [show ocOf k=arOf k from if_pos h];exact opCount_any k w h
 ·rw [show ocOf k=1 from if_neg h];exact opCount_none k w h
theorem ocOf_good {k:Int} {s t:ByteArray} (h:gnB k s t=true):ocOf k=arOf k:=by
 by_cases e:1<=k/\k<=9
 ·exact if_pos e
 ·rw [arOf_none e] at h;cases h
theorem not_vp {n:Nat} {I:Nat->Int} {X R:Nat->ByteArray} {k:Nat} (hk:k<n) (h:¬ (arOf (I k):Int)<=dep (arI I) k):¬ VPth n I X R:=fun hv=>by
 have h1:=(whole_iff (fun i=>arOf (I i)) n (by omega)).1 hv.2.2.1
 exact h (h1.1 k hk)

theorem OwnIp.grownP {w w' : World} {B:Nat} {a:Option Addr} {n:Nat} {f:Nat->Int} {g m:Nat} {F:Nat->Plc} (h:OwnIp w B a n f) (hp:PlAt w g m F) (hg:w.grownBy w' (some g)):OwnIp w' B a n f:=by
 rcases h with h|⟨q,rfl,hq,hr⟩
 ·exact Or.inl h
 ·refine Or.inr ⟨q,rfl,hq,hr.of_block (hg.block q hr.lt (fun e=>?_))⟩
  injection e with e
  exact hp.ne hr (by decide) e

theorem vp_height {n:Nat} {I:Nat->Int} (hn:0<n) (hok:StackOk (arI I) n) (hd:dep (arI I) n=1):Begins (fun i=>arOf (I i)) n 0/\htF 100 (fun i=>arOf (I i)) n=hM (arI I) 100 (n-1):=by
 have hb:Begins (arI I) n 0:=(whole_iff (arI I) n hn).2 ⟨hok,hd⟩
 refine ⟨hb,?_⟩
 have h1:=htF_hM hok (arI_le I) 100 (n-1) 0 (by omega) (by rw [show n-1+1=n by omega];exact hb)
 rw [show n-1+1-0=n by omega] at h1
 have e:(fun q=>arI I (0+q))=fun i=>arOf (I i):=by funext q;rw [Nat.zero_add];rfl
 rw [e] at h1
 exact h1

theorem field_pl (a b d f:Value) (e:Value) (c:Value) (h:Value) (w:World):(Instr.field 88 (.agg #[a,b,c,d,e,f,h]) 3).run Tryz.prog w=.ok h w:=by kernel_rfl

set_option maxHeartbeats 4000000 in
theorem readPath_any (C:Nat->(Nat->Int)->(Nat->ByteArray)->(Nat->Bool)->(Nat->ByteArray)->Prop) (hME:MeasureOk) (hBI:BindOk C) (hLA:LastOk) (a:Option Addr) (n c:Nat) (I:Nat->Int) (X R:Nat->ByteArray) (w:World) (h:RdN w a n I X R) (hn:n<=1048576) (hc:n<=c) (hcm:c<=9223372036854775807) :
  Calls Tryz.prog 32 #[.agg #[.slice a n c]] w (PathRet (C n I X) w n I X R):=by
 have HR:Hid (RdN w a n I X R):=h
 have HME:Hid MeasureOk:=hME
 have HBI:Hid (BindOk C):=hBI
 have HLA:Hid LastOk:=hLA
 clear h hME hBI hLA
 by_cases h2:100<n
 ·have i2:(100:Int)<(n:Int):=by omega
  have i2' : decide ((100:Int)<(n:Int))=true:=decide_eq_true i2
  have HN:Hid (¬ VPth n I X R):=fun h=>by have:=h.1;omega
  go_enter Tryz.func32,Tryz.ntmps32
  go_wp2
  refine bodyPost_ret (v:=.tuple #[.slice none 0 0,.bool false]) (by simp [results,Tryz.results32,go_sem]) rfl ⟨below_alloc _ _,.inl ⟨HN.out,_,rfl⟩⟩
 ·have i2:¬ (100:Int)<(n:Int):=by omega
  have i2' : decide ((100:Int)<(n:Int))=false:=decide_eq_false i2
  have HC:Hid (∀W:World,Below w.heap.size w W->∀i,i<n->∃b o,a=some ⟨b,o,none⟩/\W.cell? ⟨b,o+i*3,none⟩=some (.int .i64 (I i))/\W.cell? ⟨b,o+i*3+1,none⟩=some (.string (X i))/\W.cell? ⟨b,o+i*3+2,none⟩=some (.string (R i))):=by
   intro W hW i hi
   rcases HR.out.below hW with h|⟨b',o',e,hcc⟩
   ·omega
   ·exact ⟨b',o',e,hcc i hi⟩
  go_enter Tryz.func32,Tryz.ntmps32
  go_wp2
  go_loopw [4,5,16] (fun t o i wr=>∃k d:Nat,∃AA CC S,k<=n/\i=.int .i64 k/\(∀j,j<k->gnB (I j) (X j) (R j)=true)/\PlSt wr (w.heap.size+1) I X R k k t o d AA CC S/\d<=k/\Below (w.heap.size+1) (w.alloc (.cells #[.slice a n c] 38)) wr) (fun _ _ i _=>n-(intOf i).toNat)
  case atStart=>exact ⟨0,0,_,_,_,Nat.zero_le _,rfl,fun j hj=>absurd hj (Nat.not_lt_zero _),PlSt.start _ _ _ _ _,Nat.le_refl _,Below.refl _ _⟩
  case round=>
   obtain ⟨k,d,AA,CC,S,hk,rfl,hg,hst,hdk,hb⟩:=hrel
   have HG:Hid (∀j,j<k->gnB (I j) (X j) (R j)=true):=hg
   obtain ⟨p4,c4,rfl⟩:=owns_shapeN hst.row
   obtain ⟨p5,c5,rfl⟩:=owns_shapeN hst.stk
   have HST:Hid (PlSt wr (w.heap.size+1) I X R k k (.slice p4 k c4) (.slice p5 d c5) d AA CC S):=hst
   have HB:Hid (Below (w.heap.size+1) (w.alloc (.cells #[.slice a n c] 38)) wr):=hb
   have HBW:Hid (Below w.heap.size w wr):=(below_alloc _ _).trans (hb.mono (by omega))
   obtain ⟨x0,xz⟩:=pboxP hb
   clear hg hb hst
   by_cases hlt:k<n
   ·obtain ⟨b,o,rfl,c0,c1,c2⟩:=HC.out wr HBW.out k hlt
    have ik:(k:Int)<(n:Int):=by omega
    have ik0:(0:Int)<=(k:Int):=by omega
    go_upto_region 8 with fail
    have S1:Hid ((NBox (wr.alloc (Obj.cells #[.int .i64 (I k),.string (X k),.string (R k)] 83)) wr.heap.size (I k) (X k) (R k)/\wr.heap.size<(wr.alloc (Obj.cells #[.int .i64 (I k),.string (X k),.string (R k)] 83)).heap.size/\w.heap.size+1<=wr.heap.size)/\PlSt (wr.alloc (Obj.cells #[.int .i64 (I k),.string (X k),.string (R k)] 83)) (w.heap.size+1) I X R k k (.slice p4 k c4) (.slice p5 d c5) d AA CC S/\Below (w.heap.size+1) (w.alloc (.cells #[.slice (some ⟨b,o,none⟩) n c] 38)) (wr.alloc (Obj.cells #[.int .i64 (I k),.string (X k),.string (R k)] 83))):=
     ⟨⟨⟨by simp,by simp,by simp⟩,by simp,by omega⟩,HST.out.below (below_alloc _ _),HB.out.trans ((below_alloc _ _).mono (by omega))⟩
    have HNB:Hid ((Value.slice p4 k c4).ownBlock≠some wr.heap.size/\(Value.slice p5 d c5).ownBlock≠some wr.heap.size):=⟨fun e=>by have:=(HST.out.row.lt _ e).2;omega,fun e=>by have:=(HST.out.stk.lt _ e).2;omega⟩
    clear HST HB HBW x0 c0 c1 c2 HC
    generalize (wr.alloc (Obj.cells #[.int .i64 (I k),.string (X k),.string (R k)] 83))=W at S1 ⊢
    clear xz
    generalize wr.heap.size=nb at S1 HNB ⊢
    have hdd:=S1.out.2.1.dd
    obtain ⟨⟨y0,y1,y2⟩,yz,yb⟩:=S1.out.1
    have hoc:=ocOf_le (I k)
    have wd:IntKind.i64.wrap ((d:Int)-(ocOf (I k):Int))=(d:Int)-(ocOf (I k):Int):=by rw [IntKind.wrap_i64];omega
    go_wp2_with fail
    refine (opCount_all (I k) W).mono ?_
    rintro e w2 ⟨rfl,hw2⟩
    subst hw2
    go_wp2_with fail
    refine (isNode_any (I k) (X k) (R k) w2).mono ?_
    rintro e w3 ⟨he,hb3⟩
    have S3:Hid ((NBox w3 nb (I k) (X k) (R k)/\nb<w3.heap.size/\w.heap.size+1<=nb)/\PlSt w3 (w.heap.size+1) I X R k k (.slice p4 k c4) (.slice p5 d c5) d AA CC S/\Below (w.heap.size+1) (w.alloc (.cells #[.slice (some ⟨b,o,none⟩) n c] 38)) w3):=by
     have:=hb3.size
     exact ⟨⟨S1.out.1.1.below hb3,by omega,yb⟩,S1.out.2.1.below hb3,S1.out.2.2.trans (hb3.mono (by omega))⟩
    clear hb3 y0 y1 y2 S1
    cases hgk:gnB (I k) (X k) (R k) with
    | false=>
     rw [hgk] at he
     subst he
     have HN:Hid (¬ VPth n I X R):=fun h=>by have:=h.2.1 k hlt;rw [hgk] at this;cases this
     have HZ:Hid (Below w.heap.size w w3):=(below_alloc _ _).trans (S3.out.2.2.mono (by omega))
     go_wp2
     refine bodyPost_ret (v:=.tuple #[.slice none 0 0,.bool false]) (by simp [results,Tryz.results32,go_sem]) rfl ⟨HZ.out,.inl ⟨HN.out,_,rfl⟩⟩
    | true=>
     rw [hgk] at he
     subst he
     have eoc:=ocOf_good hgk
     rw [eoc] at wd hoc ⊢
     clear eoc
     by_cases hda:d<arOf (I k)
     ·have iz:(d:Int)-(arOf (I k):Int)<0:=by omega
      have iz' : decide ((d:Int)-(arOf (I k):Int)<0)=true:=decide_eq_true iz
      have HN:Hid (¬ VPth n I X R):=not_vp hlt (by rw [hdd];omega)
      have HZ:Hid (Below w.heap.size w w3):=(below_alloc _ _).trans (S3.out.2.2.mono (by omega))
      clear hdd
      go_wp2
      refine bodyPost_ret (v:=.tuple #[.slice none 0 0,.bool false]) (by simp [results,Tryz.results32,go_sem]) rfl ⟨HZ.out,.inl ⟨HN.out,_,rfl⟩⟩
     ·have iz:¬ (d:Int)-(arOf (I k):Int)<0:=by omega
      have iz' : decide ((d:Int)-(arOf (I k):Int)<0)=false:=decide_eq_false iz
      have HG2:Hid (∀j,j<k+1->gnB (I j) (X j) (R j)=true):=fun j hj=>by
       by_cases e:j=k
       ·subst e;exact hgk
       ·exact HG.out j (by omega)
      clear hdd hgk HG
      go_upto_region 11 with fail
      obtain ⟨l,hl⟩:∃l:Nat,(d:Int)-(arOf (I k):Int)=(l:Int):=⟨d-arOf (I k),by omega⟩
      rw [hl] at ⊢
      have il0:(0:Int)<=(l:Int):=by omega
      have ild:(l:Int)<=(d:Int):=by omega
      obtain ⟨⟨y0,y1,y2⟩,yz,_⟩:=S3.out.1
      clear iz iz' wd
      have hdl:d-l=arOf (I k):=by omega
      have HRD:Hid (Rd .i64 w3.drew (if c5=l then p5 else Option.map (fun x=>x.add l) p5) (arOf (I k)) (fun j=>((opf (arI I) k j:Nat):Int))):=by
       have h1:=rd_slice (S3.out.2.1.stk) (l:=l) (by omega)
       unfold slAd at h1
       simp only [Nat.mul_one] at h1
       rw [hdl] at h1
       have h2:Rd .i64 w3 (if c5=l then p5 else Option.map (fun x=>x.add l) p5) (arOf (I k)) (fun j=>((opf (arI I) k j:Nat):Int)):=by
        rcases h1 with h1|⟨g,q,e,h1⟩
        ·exact Or.inl h1
        ·refine Or.inr ⟨g,q,e,fun i hi=>?_⟩
         rw [h1 i hi]
         have h3:=S3.out.2.1.opnd (by omega) (j:=i) hi
         rw [show d-arOf (I k)=l by omega] at h3
         show some (Value.int .i64 ((S (l+i):Nat):Int))=_
         rw [h3]
       exact h2
      have HC:Hid (∀w4:World,Below w3.drew.heap.size w3.drew w4->w4.cell? ⟨nb,0,none⟩=some (.int .i64 (I k))/\w4.cell? ⟨nb,1,none⟩=some (.string (X k))/\w4.cell? ⟨nb,2,none⟩=some (.string (R k))):=fun w4 hb4=>S3.out.1.1.below ((Below.refl _ _).drew.trans hb4)
      obtain ⟨sa,hsa⟩:∃sa,(if c5=l then p5 else Option.map (fun x=>x.add l) p5)=sa:=⟨_,rfl⟩
      rw [hsa] at HRD
      have HD:Hid (∀(w4 w5:World) (O:Obj),Below w3.drew.heap.size w3.drew w4->(w4.alloc O).grownBy w5 (Value.slice p4 k c4).ownBlock->w5.cell? ⟨nb,0,none⟩=some (.int .i64 (I k))/\w5.cell? ⟨nb,1,none⟩=some (.string (X k))/\w5.cell? ⟨nb,2,none⟩=some (.string (R k))):=by
       intro w4 w5 O hb4 hg5
       have hs:nb<w4.heap.size:=by
        have h1:w3.heap.size<=w4.heap.size:=hb4.size
        omega
       obtain ⟨q0,q1,q2⟩:=HC.out w4 hb4
       have hne:(Value.slice p4 k c4).ownBlock≠some nb:=HNB.out.1
       exact ⟨(grown_cellP hg5 (x:=⟨nb,0,none⟩) hs hne).trans q0,(grown_cellP hg5 (x:=⟨nb,1,none⟩) hs hne).trans q1,(grown_cellP hg5 (x:=⟨nb,2,none⟩) hs hne).trans q2⟩
      have HT:Hid (∀w4:World,Below w3.drew.heap.size w3.drew w4->Below w3.heap.size w3 w4):=fun w4 hb4=>(Below.refl _ _).drew.trans hb4
      have hk2:k<=1048576:=by omega
      have hz3:w.heap.size+1<=w3.heap.size:=by omega
      go_region_held3 (fun w'=>w'.cell? ⟨nb,0,none⟩=some (.int .i64 (I k))/\w'.cell? ⟨nb,1,none⟩=some (.string (X k))/\w'.cell? ⟨nb,2,none⟩=some (.string (R k))) (go_keep)
       (first
       | (go_at_call 67;refine (copyInts_any _ (arOf (I k)) (c5-l) (fun j=>((opf (arI I) k j:Nat):Int)) w3.drew HRD.out (by omega)).mono ?_;rintro e w4 ⟨a6,c6,rfl,ho4,hb4,hc6,hcm6⟩;obtain ⟨u0,u1,u2⟩:=HC.out w4 hb4)
       | (refine step_append_pl (by rfl) (.tmp 34) (.tmp 41) (by rfl) (w.heap.size+1) k (.slice p4 k c4) (plRow (plF I X R AA CC (fun _=>false) (fun _=>{ data:=#[] }) (fun _=>0)) k) ⟨I k,X k,R k,false,{ data:=#[] },a6,arOf (I k),c6,0⟩ (by rfl) (plS_below S3.out.2.1.row (HT.out w4 hb4)) (by rfl) hk2 (Nat.le_trans hz3 (HT.out w4 hb4).size) ?_;intro v5 w5 hr5 hg5;obtain ⟨u0,u1,u2⟩:=HD.out w4 w5 _ hb4 hg5))
      obtain ⟨p7,c7,rfl⟩:=owns_shapeN hr5
      have S5:Hid (PlSt w5 (w.heap.size+1) I X R (k+1) k (.slice p7 (k+1) c7) (.slice p5 d c5) d (fun i=>if i=k then a6 else AA i) (fun i=>if i=k then c6 else CC i) S/\Below (w.heap.size+1) (w.alloc (.cells #[.slice (some ⟨b,o,none⟩) n c] 38)) w5/\w.heap.size+1<=w5.heap.size):=by
       have q1:=HT.out w4 hb4
       have q2:=q1.size
       have q3:=hg5.size
       simp at q3
       refine ⟨S3.out.2.1.push hz3 (q1.trans ((below_alloc _ _).mono q2)) (ho4.below (below_alloc _ _)) hc6 hcm6 hr5 hg5,?_,by omega⟩
       exact ((S3.out.2.2.trans (q1.mono hz3)).alloc (by omega) _).grown hg5 (by simp;omega) (fun g e=>(S3.out.2.1.row.lt g e).1)
      clear hr5 hg5 ho4 hb4 u0 u1 u2 y0 y1 y2 S3 HD HC HRD HT hsa HNB
      have hz5:=S5.out.2.2
      have ilc:(l:Int)<=(c5:Int):=by
       have:d<=c5:=by
        rcases S5.out.1.stk.2 with ⟨e,_⟩|⟨g,cap,cur,e,_,_,h1,_⟩
        ·injection e with _ e2 e3;omega
        ·injection e with _ e2 e3;omega
       omega
      have hs0:(if c5=0 then p5 else Option.map (fun x=>x.add 0) p5)=p5:=by
       split
       ·rfl
       ·cases p5 with
        | none=>rfl
        | some x=>simp [Addr.add]
      have HN1:Hid (∀j u,[Value.int .i64 (k:Int)][j]?=some u->(w5.alloc (.cells #[.int .i64 (k:Int)] 3)).cell? ((⟨w5.heap.size,0,none⟩:Addr).add j)=some u):=cell_one_new w5 (.int .i64 (k:Int)) 3
      have HCU:Hid ((w5.alloc (.cells #[.int .i64 (k:Int)] 3)).ownsRow (w.heap.size+1) 3 1 (.slice p5 l c5) l (intRow (fun j=>((S j:Nat):Int)) l)):=plS_below (owns_cut S5.out.1.stk (by omega)) (below_alloc _ _)
      obtain ⟨i0,hi,hz0,hz1,hz2⟩:=info_parts Tryz.info3
      go_wp2_with (at_builtin;refine wpList_append_own_at _ rfl _ _ 86 rfl (w.heap.size+1) 3 i0 (.int .i64 0) 1 8 Tryz.underlying86 hi hz0 hz1 hz2 rfl (by decide) (.slice p5 l c5) l _ rfl HCU.out ⟨w5.heap.size,0,none⟩ 1 1 [.int .i64 (k:Int)] rfl rfl HN1.out (by intro u hu;simp at hu;subst hu;rfl) (by unfold maxLen;omega) (by omega) (by simp;omega) ?_)
      intro v8 w8 hr8 hg8 _ hat8
      obtain ⟨p8,c8,rfl⟩:=owns_shapeN hr8
      have S8:Hid (PlSt w8 (w.heap.size+1) I X R (k+1) (k+1) (.slice p7 (k+1) c7) (.slice p8 (l+1) c8) (l+1) (fun i=>if i=k then a6 else AA i) (fun i=>if i=k then c6 else CC i) (fun j=>if j=l then k else S j)/\Below (w.heap.size+1) (w.alloc (.cells #[.slice (some ⟨b,o,none⟩) n c] 38)) w8):=by
       have el:d-arOf (I k)=l:=by omega
       have hob:(Value.slice p5 l c5).ownBlock=(Value.slice p5 d c5).ownBlock:=by cases p5 <;> rfl
       rw [hob] at hg8 hat8
       have hat9:(Value.slice p8 (l+1) c8).ownBlock=(Value.slice p5 d c5).ownBlock\/(Value.slice p8 (l+1) c8).ownBlock=some (w5.alloc (.cells #[.int .i64 (k:Int)] 3)).heap.size:=by
        rcases hat8 with h|h
        ·exact Or.inl h
        ·exact Or.inr (by rw [h];simp)
       have h1:=S5.out.1.put (k:=k) (W1:=w5.alloc (.cells #[.int .i64 (k:Int)] 3)) (W2:=w8) (v':=.slice p8 (l+1) c8) (below_alloc _ _) (by omega) (by rw [el];exact hr8) hg8 hat9
       rw [el] at h1
       exact ⟨h1,(S5.out.2.1.alloc hz5 _).grown hg8 (by simp;omega) (fun g e=>(S5.out.1.stk.lt g e).1)⟩
      clear hr8 hg8 hat8 HCU HN1 S5 hs0 ilc
      go_wp2
      go_roundw
      case rel=>exact ⟨k+1,l+1,_,_,_,by omega,by go_num,HG2.out,S8.out.1,by omega,S8.out.2⟩
      case measure=>simp [intOf];omega
   ·have e:k=n:=by omega
    subst e
    have hdd:=HST.out.dd
    by_cases h1:d=1
    ·subst h1
     have hpos:0<k:=by omega
     obtain ⟨g,c7,e4,hg7,hpl,hc7,hcm7⟩:=plAt_ofRow HST.out.row hpos
     injection e4 with e5 e6 e7
     subst e5 e7
     have HOK:Hid (StackOk (arI I) k/\dep (arI I) k=1):=⟨HST.out.ok,hdd⟩
     have HCP:Hid (∀i,i<k->arOf (I i)<=CC i/\CC i<=9223372036854775807):=HST.out.caps
     have HPL:Hid (PlAt wr g k (plF I X R AA CC (fun _=>false) (fun _=>{ data:=#[] }) (fun _=>0))):=hpl
     clear hpl hdd
     go_wp2_with fail
     refine (HME.out g k c4 (w.heap.size+1) I X R AA CC _ _ wr HPL.out HST.out.ops HCP.out HOK.out.1 (by omega) hpos).mono ?_
     rintro e w2 ⟨rfl,hp2,hg2⟩
     have T2:Hid (PlAt w2 g k (plF I X R AA CC (fun _=>false) (fun _=>{ data:=#[] }) (fun i=>(hM (arI I) 100 i:Int)))/\(∀i,i<k->OwnIp w2 (w.heap.size+1) (AA i) (arOf (I i)) (fun j=>(opf (arI I) i j:Int)))/\Below w.heap.size w w2/\w.heap.size+1<=w2.heap.size):=by
      have q:=hg2.size
      refine ⟨hp2,fun i hi=>(HST.out.ops i hi).grownP HPL.out hg2,HBW.out.grown hg2 (by omega) (fun b e=>by injection e with e;omega),by omega⟩
     clear hp2 hg2 HST HB HBW HPL x0
     go_wp2_with fail
     refine (HBI.out g k c4 (w.heap.size+1) I X R AA CC _ w2 T2.out.1 T2.out.2.1 HCP.out HOK.out.1 (by omega) hpos T2.out.2.2.2).mono ?_
     rintro e w3 ⟨rfl,Bd,Lb,hC,hp3,hg3⟩
     have T3:Hid (PlAt w3 g k (plF I X R AA CC Bd Lb (fun i=>(hM (arI I) 100 i:Int)))/\(∀i,i<k->OwnIp w3 (w.heap.size+1) (AA i) (arOf (I i)) (fun j=>(opf (arI I) i j:Int)))/\Below w.heap.size w w3):=by
      have q:=hg3.size
      have q2:=T2.out.2.2.2
      refine ⟨hp3,fun i hi=>(T2.out.2.1 i hi).grownP T2.out.1 hg3,T2.out.2.2.1.grown hg3 (by omega) (fun b e=>by injection e with e;omega)⟩
     have HCC:Hid (C k I X Bd Lb):=hC
     clear hp3 hg3 T2 hC
     go_wp2_with fail
     refine (HLA.out g k c4 _ w3 T3.out.1 hpos (by omega)).mono ?_
     rintro e w4 ⟨rfl,hb4⟩
     have T4:Hid (PlAt w4 g k (plF I X R AA CC Bd Lb (fun i=>(hM (arI I) 100 i:Int)))/\(∀i,i<k->OwnIp w4 (w.heap.size+1) (AA i) (arOf (I i)) (fun j=>(opf (arI I) i j:Int)))/\Below w.heap.size w w4):=by
      have q:=T3.out.2.2.size
      exact ⟨T3.out.1.below hb4,fun i hi=>(T3.out.2.1 i hi).below hb4,T3.out.2.2.trans (hb4.mono q)⟩
     clear hb4 T3
     generalize (plF I X R AA CC Bd Lb (fun i=>(hM (arI I) 100 i:Int)) (k-1)).kind=z0
     generalize (plF I X R AA CC Bd Lb (fun i=>(hM (arI I) 100 i:Int)) (k-1)).s=z1
     generalize (plF I X R AA CC Bd Lb (fun i=>(hM (arI I) 100 i:Int)) (k-1)).t=z2
     generalize (plF I X R AA CC Bd Lb (fun i=>(hM (arI I) 100 i:Int)) (k-1)).bound=z3
     generalize (plF I X R AA CC Bd Lb (fun i=>(hM (arI I) 100 i:Int)) (k-1)).label=z4
     generalize (plF I X R AA CC Bd Lb (fun i=>(hM (arI I) 100 i:Int)) (k-1)).ad=z5
     generalize (plF I X R AA CC Bd Lb (fun i=>(hM (arI I) 100 i:Int)) (k-1)).cnt=z6
     generalize (plF I X R AA CC Bd Lb (fun i=>(hM (arI I) 100 i:Int)) (k-1)).cap=z7
     rw [show (plF I X R AA CC Bd Lb (fun i=>(hM (arI I) 100 i:Int)) (k-1)).height=((hM (arI I) 100 (k-1):Nat):Int) from rfl]
     obtain ⟨hbg,hht⟩:=vp_height hpos HOK.out.1 HOK.out.2
     have HVP:Hid (VPth k I X R↔hM (arI I) 100 (k-1)<=64):=by
      constructor
      ·intro hv
       rw [<- hht]
       exact hv.2.2.2
      ·intro h6
       exact ⟨⟨by omega,by omega⟩,HG.out,hbg,by rw [hht];exact h6⟩
     clear hbg hht
     generalize hM (arI I) 100 (k-1)=Ht at HVP ⊢
     have fl:=field_pl (.int .i64 z0) (.string z1) (.bool z3) (.slice z5 z6 z7) (.string z4) (.string z2) (.int .i64 Ht)
     by_cases h64:Ht<=64
     ·have i64:((Ht:Nat):Int)<=64:=by omega
      have i64' : decide (((Ht:Nat):Int)<=64)=true:=decide_eq_true i64
      go_wp2
      refine bodyPost_ret (v:=.tuple #[.slice (some ⟨g,0,none⟩) k c4,.bool true]) (by simp [results,Tryz.results32,go_sem]) rfl ⟨T4.out.2.2,.inr ⟨HVP.out.2 h64,g,c4,AA,CC,Bd,Lb,rfl,by omega,hc7,hcm7,HCC.out,T4.out.1,fun i hi=>(T4.out.2.1 i hi).mono (by omega),HCP.out⟩⟩
     ·have i64:¬ ((Ht:Nat):Int)<=64:=by omega
      have i64' : decide (((Ht:Nat):Int)<=64)=false:=decide_eq_false i64
      go_wp2
      refine bodyPost_ret (v:=.tuple #[.slice (some ⟨g,0,none⟩) k c4,.bool false]) (by simp [results,Tryz.results32,go_sem]) rfl ⟨T4.out.2.2,.inl ⟨fun hv=>h64 (HVP.out.1 hv),_,rfl⟩⟩
    ·have i1:¬ ((d:Int)=1):=by omega
     have i1' : ((d:Int) == 1)=false:=by simpa using i1
     have HN:Hid (¬ VPth k I X R):=fun hv=>by
      have h3:=(whole_iff (fun i=>arOf (I i)) k (by have:=hv.1;omega)).1 hv.2.2.1
      have h4:dep (arI I) k=1:=h3.2
      omega
     have HZ:Hid (Below w.heap.size w wr):=HBW.out
     clear hdd
     go_wp2
     refine bodyPost_ret (v:=.tuple #[.slice none 0 0,.bool false]) (by simp [results,Tryz.results32,go_sem]) rfl ⟨HZ.out,.inl ⟨HN.out,_,rfl⟩⟩

def hAt (A:Nat->Nat) (k:Nat) (m:Nat) (i:Nat):Int:=if i<k then (hM A 100 i:Int) else if i=k then (m:Int) else 0
theorem hAt_lt {A:Nat->Nat} {k m i:Nat} (h:i<k):hAt A k m i=(hM A 100 i:Int):=if_pos h
theorem hAt_at (A:Nat->Nat) (k m:Nat):hAt A k m k=(m:Int):=by unfold hAt;rw [if_neg (by omega),if_pos rfl]

theorem plF_setH {I:Nat->Int} {X R:Nat->ByteArray} {AA:Nat->Option Addr} {CC:Nat->Nat} {Bd:Nat->Bool} {Lb:Nat->ByteArray} {k m m' : Nat} {w:World} {g n:Nat}
  (h:PlAt w g n (plF I X R AA CC Bd Lb (hAt (arI I) k m))):PlAt (w.setCell ⟨g,k*7+6,none⟩ (.int .i64 (m' : Int))) g n (plF I X R AA CC Bd Lb (hAt (arI I) k m')):=by
 refine h.set k 6 _ (by decide) (fun j hj=>?_) ?_
 ·unfold plF hAt
  rw [if_neg hj,if_neg hj]
 ·unfold plF
  simp [Plc.cells,hAt_at]

theorem mxO_le {A:Nat->Nat}:∀(f i j:Nat),mxO A (hM A f) i j<=f
 | f,i,0=>Nat.zero_le _
 | f,i,j+1=>by
  have h1:=mxO_le (A:=A) f i j
  have h2:=hM_le (A:=A) f (opf A i j)
  show max _ _<=f
  omega

theorem hM_of {A:Nat->Nat} {n:Nat} (h:StackOk A n) (ha:∀i,A i<=2) (hn:n<=100) {i:Nat} (hi:i<n):1+mxO A (hM A 100) i (A i)=hM A 100 i:=by
 show _=1+mxO A (hM A 99) i (A i)
 rw [mxO_congr]
 intro m hm
 have:=opf_lt h hi (ha i) hm
 exact hM_fuel h ha 100 99 _ (by omega) (by omega) (by omega)

theorem PlAt.frozen {w:World} {g n:Nat} {f:Nat->Plc} (h:PlAt w g n f) (i:Nat):w.frozen? ⟨g,i,none⟩=false:=by
 obtain ⟨cur,hh,_⟩:=h
 simp [World.frozen?,hh]
theorem PlAt.drew {w:World} {g n:Nat} {f:Nat->Plc} (h:PlAt w g n f):PlAt w.drew g n f:=h
theorem grown_setP {w W:World} {g:Nat} (h:w.grownBy W (some g)) (i:Nat) (v:Value):w.grownBy (W.setCell ⟨g,i,none⟩ v) (some g):=
 ⟨h.os,h.tape,h.output,by have:=h.size;simpa [World.setCell] using this,fun k hk hne=>by
  rw [<- h.block k hk hne]
  exact Below.heap_setCell _ _ _ _ (fun e=>hne (by rw [e]))⟩
theorem grown_drew {w W:World} {r:Option Nat} (h:w.grownBy W r):w.grownBy W.drew r:=⟨h.os,h.tape,h.output,h.size,h.block⟩

set_option maxHeartbeats 4000000 in
theorem measure_any:MeasureOk:=by
 intro g n c B I X R AA CC Bd Lb w hP hO hcap hok hn hn0
 have HP0:Hid (PlAt w g n (plF I X R AA CC Bd Lb (fun _=>0))):=hP
 have HO:Hid (∀W:World,w.grownBy W (some g)->∀i,i<n->Rd .i64 W (AA i) (arOf (I i)) (fun j=>(opf (arI I) i j:Int))):=fun W hW i hi=>((hO i hi).grownP hP hW).rd
 have HCP:Hid (∀i,i<n->arOf (I i)<=CC i/\CC i<=9223372036854775807):=hcap
 have HOK:Hid (StackOk (arI I) n):=hok
 clear hP hO hcap hok
 go_enter Tryz.func68,Tryz.ntmps68
 go_wp2
 go_loopw [8] (fun i wr=>∃k:Nat,k<=n/\i=.int .i64 k/\PlAt wr g n (plF I X R AA CC Bd Lb (hAt (arI I) k 0))/\w.grownBy wr (some g)) (fun i _=>n-(intOf i).toNat)
 case atStart=>
  refine ⟨0,Nat.zero_le _,rfl,HP0.out.congr (fun i hi=>?_),⟨rfl,rfl,rfl,Nat.le_refl _,fun _ _ _=>rfl⟩⟩
  unfold plF hAt
  rw [if_neg (by omega)]
  by_cases e:i=0
  ·rw [if_pos e];rfl
  ·rw [if_neg e]
 case round=>
  obtain ⟨k,hk,rfl,hp,hg⟩:=hrel
  by_cases hlt:k<n
  ·have ik:(k:Int)<(n:Int):=by omega
   have ik0:(0:Int)<=(k:Int):=by omega
   obtain ⟨c0,c1,c2,c3,c4,c5,c6⟩:=hp.seven hlt
   have HP:Hid (PlAt wr g n (plF I X R AA CC Bd Lb (hAt (arI I) k 0))):=hp
   have HG:Hid (w.grownBy wr (some g)):=hg
   have e5:wr.cell? ⟨g,k*7+5,none⟩=some (.slice (AA k) (arOf (I k)) (CC k)):=c5
   have hle:=arOf_le (I k)
   clear hp hg c0 c1 c2 c3 c4 c5 c6
   go_wp2
   go_loopw [19] (fun j ws=>∃q:Nat,q<=arOf (I k)/\j=.int .i64 q/\PlAt ws g n (plF I X R AA CC Bd Lb (hAt (arI I) k (mxO (arI I) (hM (arI I) 100) k q)))/\w.grownBy ws (some g)) (fun j _=>arOf (I k)-(intOf j).toNat)
   case atStart=>exact ⟨0,Nat.zero_le _,rfl,HP.out,HG.out⟩
   case round=>
    obtain ⟨q,hq,rfl,hp,hg⟩:=hrel
    by_cases hql:q<arOf (I k)
    ·have iq:(q:Int)<((arOf (I k):Nat):Int):=by omega
     have iq0:(0:Int)<=(q:Int):=by omega
     have hxl:=opf_lt HOK.out hlt (arI_le I k) (j:=q) hql
     obtain ⟨b,o,hA,hcx⟩:∃b o,AA k=some ⟨b,o,none⟩/\wr.cell? ⟨b,o+q,none⟩=some (.int .i64 ((opf (arI I) k q:Nat):Int)):=by
      rcases HO.out wr hg k hlt with h|⟨b,o,e,hc⟩
      ·omega
      ·exact ⟨b,o,e,hc q hql⟩
     obtain ⟨_,_,_,_,_,_,d6⟩:=hp.seven hlt
     obtain ⟨_,_,_,_,_,_,x6⟩:=hp.seven (i:=opf (arI I) k q) (by omega)
     have y6:wr.cell? ⟨g,k*7+6,none⟩=some (.int .i64 ((mxO (arI I) (hM (arI I) 100) k q:Nat):Int)):=by rw [d6];show some (Value.int .i64 (hAt _ _ _ _))=_;rw [hAt_at]
     have z6:wr.cell? ⟨g,opf (arI I) k q*7+6,none⟩=some (.int .i64 ((hM (arI I) 100 (opf (arI I) k q):Nat):Int)):=by rw [x6];show some (Value.int .i64 (hAt _ _ _ _))=_;rw [hAt_lt hxl]
     have HP2:Hid (PlAt wr g n (plF I X R AA CC Bd Lb (hAt (arI I) k (mxO (arI I) (hM (arI I) 100) k q)))):=hp
     have HG2:Hid (w.grownBy wr (some g)):=hg
     have HMX:Hid (mxO (arI I) (hM (arI I) 100) k (q+1)=max (mxO (arI I) (hM (arI I) 100) k q) (hM (arI I) 100 (opf (arI I) k q))):=rfl
     clear hp hg d6 x6
     rw [hA]
     generalize opf (arI I) k q=x at hxl hcx z6 HMX
     generalize mxO (arI I) (hM (arI I) 100) k q=M0 at y6 HP2 HMX
     generalize hM (arI I) 100 x=M1 at z6 HMX
     have ix:(x:Int)<(n:Int):=by omega
     have ix0:(0:Int)<=(x:Int):=by omega
     obtain ⟨M2,hM2,hmx⟩:∃M2:Nat,max M0 M1=M2/\(if M0<M1 then (M1:Int) else (M0:Int))=(M2:Int):=⟨max M0 M1,rfl,by split <;> omega⟩
     rw [hM2] at HMX
     clear hM2
     have fz:=HP2.out.frozen (k*7+6)
     have HPN:Hid (PlAt (wr.drew.setCell ⟨g,k*7+6,none⟩ (.int .i64 (M2:Int))) g n (plF I X R AA CC Bd Lb (hAt (arI I) k (mxO (arI I) (hM (arI I) 100) k (q+1))))/\w.grownBy (wr.drew.setCell ⟨g,k*7+6,none⟩ (.int .i64 (M2:Int))) (some g)):=⟨by rw [HMX.out];exact plF_setH HP2.out.drew,grown_setP (grown_drew HG2.out) _ _⟩
     go_upto_region 7 with fail
     go_region
     go_wp2
     go_roundw
     case rel=>exact ⟨q+1,by omega,by go_num,HPN.out⟩
     case measure=>simp [intOf];omega
    ·have e:q=arOf (I k):=by omega
     have hml:=mxO_le (A:=arI I) 100 k q
     have HP2:Hid (PlAt wr g n (plF I X R AA CC Bd Lb (hAt (arI I) k (mxO (arI I) (hM (arI I) 100) k q)))):=hp
     have HG2:Hid (w.grownBy wr (some g)):=hg
     have HMX:Hid (1+mxO (arI I) (hM (arI I) 100) k q=hM (arI I) 100 k):=by
      rw [e]
      exact hM_of HOK.out (arI_le I) hn hlt
     obtain ⟨_,_,_,_,_,_,d6⟩:=hp.seven hlt
     have y6:wr.cell? ⟨g,k*7+6,none⟩=some (.int .i64 ((mxO (arI I) (hM (arI I) 100) k q:Nat):Int)):=by rw [d6];show some (Value.int .i64 (hAt _ _ _ _))=_;rw [hAt_at]
     have fz:=HP2.out.frozen (k*7+6)
     clear hp hg d6
     generalize mxO (arI I) (hM (arI I) 100) k q=M0 at y6 HP2 HMX hml
     subst e
     have wM:IntKind.i64.wrap ((M0:Int)+1)=(M0:Int)+1:=by rw [IntKind.wrap_i64];omega
     have HPN:Hid (PlAt (wr.setCell ⟨g,k*7+6,none⟩ (.int .i64 ((M0:Int)+1))) g n (plF I X R AA CC Bd Lb (hAt (arI I) (k+1) 0))/\w.grownBy (wr.setCell ⟨g,k*7+6,none⟩ (.int .i64 ((M0:Int)+1))) (some g)):=by
      refine ⟨?_,grown_setP HG2.out _ _⟩
      have h1:=plF_setH (m':=1+M0) HP2.out
      rw [show (((1+M0:Nat):Int))=(M0:Int)+1 by omega] at h1
      refine h1.congr (fun i hi=>?_)
      unfold plF hAt
      by_cases e1:i<k
      ·rw [if_pos e1,if_pos (by omega)]
      ·by_cases e2:i=k
       ·subst e2
        rw [if_neg e1,if_pos rfl,if_pos (by omega),HMX.out]
       ·rw [if_neg e1,if_neg e2,if_neg (by omega)]
        by_cases e3:i=k+1
        ·rw [if_pos e3];rfl
        ·rw [if_neg e3]
     go_wp2
     go_roundw
     case rel=>exact ⟨k+1,by omega,by go_num,HPN.out⟩
     case measure=>simp [intOf];omega
  ·have e:k=n:=by omega
   subst e
   have HPN:Hid (PlAt wr g k (plF I X R AA CC Bd Lb (fun i=>(hM (arI I) 100 i:Int)))/\w.grownBy wr (some g)):=by
    refine ⟨hp.congr (fun i hi=>?_),hg⟩
    unfold plF hAt
    rw [if_pos hi]
   clear hp hg
   go_wp2
   go_end0
   exact ⟨rfl,HPN.out⟩

set_option maxHeartbeats 1000000 in
theorem last_any:LastOk:=by
 intro g n c f w h hn h100
 obtain ⟨m,rfl⟩:∃m,n=m+1:=⟨n-1,by omega⟩
 obtain ⟨c0,c1,c2,c3,c4,c5,c6⟩:=h.seven (i:=m) (by omega)
 have wm:IntKind.i64.wrap (((m+1:Nat):Int)-1)=(m:Int):=by rw [IntKind.wrap_i64];omega
 have im:(m:Int)<((m+1:Nat):Int):=by omega
 have im0:(0:Int)<=(m:Int):=by omega
 have hg:=h.lt
 have hne:¬ (g=w.heap.size):=by omega
 rw [show m+1-1=m by omega]
 generalize (f m).kind=z0 at*
 generalize (f m).s=z1 at*
 generalize (f m).t=z2 at*
 generalize (f m).bound=z3 at*
 generalize (f m).label=z4 at*
 generalize (f m).ad=z5 at*
 generalize (f m).cnt=z6 at*
 generalize (f m).cap=z7 at*
 generalize (f m).height=z8 at*
 clear h
 go_enter Tryz.func70,Tryz.ntmps70
 go_wp2
 refine bodyPost_ret (v:=.agg #[.int .i64 z0,.string z1,.string z2,.bool z3,.string z4,.slice z5 z6 z7,.int .i64 z8]) (by simp [results,Tryz.results70,go_sem]) rfl ⟨rfl,?_⟩
 exact below_alloc _ _
end Go.Proofs.YtpaomghibppgkaaGreat
