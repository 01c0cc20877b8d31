import Derived.Test.YtcnollkkigiobaaGreatNd3
import Derived.Test.YtcnollkkigiobaaGreatNd6
import Derived.Maps.AppendAt
import Derived.Test.YtcnollkkigiobaaGreatNd5
import Derived.Test.YtcnollkkigiobaaGreatNd2
set_option linter.unusedVariables false
set_option maxRecDepth 100000
namespace Go.Proofs.YtcnollkkigiobaaGreat
open Go.RowKit Go.Deep

def offR (d:Nat) (l:List (Ro d)) (k:Nat):Nat:=((l.take k).map (nodesR d)).sum

theorem offR_zero (d:Nat) (l:List (Ro d)):offR d l 0=0:=by simp [offR]
theorem offR_succ (d:Nat) (l:List (Ro d)) (k:Nat) (h:k<l.length):offR d l (k+1)=offR d l k+nodesR d l[k]:=by
 unfold offR
 rw [<- List.take_append_getElem h,List.map_append,List.sum_append]
 simp
theorem offR_all (d:Nat) (l:List (Ro d)):offR d l l.length=(l.map (nodesR d)).sum:=by
 unfold offR
 rw [List.take_length]
theorem offR_mono (d:Nat) (l:List (Ro d)) {j k:Nat} (h:j<=k) (hk:k<=l.length):offR d l j<=offR d l k:=by
 induction k with
 | zero=>
  have:j=0:=by omega
  subst this;exact Nat.le_refl _
 | succ k ih=>
  by_cases e:j=k+1
  ·subst e;exact Nat.le_refl _
  ·have:=ih (by omega) (by omega)
   rw [offR_succ d l k (by omega)]
   omega
theorem offR_le (d:Nat) (l:List (Ro d)) (k:Nat) (h:k<l.length):offR d l k+nodesR d l[k]<=(l.map (nodesR d)).sum:=by
 rw [<- offR_succ d l k h,<- offR_all]
 exact offR_mono d l (by omega) (Nat.le_refl _)
theorem offR_find (d:Nat) (l:List (Ro d)) (m:Nat) (h:m<(l.map (nodesR d)).sum):∃k,∃hk:k<l.length,offR d l k<=m/\m<offR d l k+nodesR d l[k]:=by
 have key:∀k,k<=l.length->m<offR d l k->∃k,∃hk:k<l.length,offR d l k<=m/\m<offR d l k+nodesR d l[k]:=by
  intro k
  induction k with
  | zero=>intro _ h;rw [offR_zero] at h;omega
  | succ k ih=>
   intro hk h
   by_cases e:m<offR d l k
   ·exact ih (by omega) e
   ·rw [offR_succ d l k (by omega)] at h
    exact ⟨k,by omega,by omega,h⟩
 exact key l.length (Nat.le_refl _) (by rw [offR_all];exact h)

def Tells (F:Nat->Tn) (base:Int):(d:Nat)->Ro d->Nat->Prop
 | 0,_,_=>False
 | d+1,.inl t,x=>(F x).lf=true/\(F x).kn=t.length/\(∀j,j<t.length->(F x).ks j=gt t j)/\(F x).dn=0/\(F x).ct=(t.length:Int)
 | d
  + 1,.inr l,x=>(F x).lf=false/\(F x).dn=l.length/\(F x).ct=((l.flatMap (keysR d)).length:Int)/\(F x).kn+1=l.length/\(∀k,k<l.length->(F x).kd k=base+((x+1+offR d l k:Nat):Int))/\
  (∀k (h:k+1<l.length),(F x).ks k=gt (keysR d l[k+1]) 0)/\∀k (h:k<l.length),Tells F base d l[k] (x+1+offR d l k)

theorem Tells.shift {F G:Nat->Tn} {base:Int} {s:Nat}:∀{d:Nat} {t:Ro d} {x:Nat},(∀i,x<=i->i<x+nodesR d t->SameN (G i) (F (i+s)))->Tells G (base+(s:Int)) d t x->Tells F base d t (x+s)
 | 0,_,_,_,h=>h
 | d+1,.inl t,x,hFG,h=>by
  obtain ⟨h1,h2,h3,h4,h5⟩:=h
  obtain ⟨q1,q2,q3,q4,q5,q6⟩:=hFG x (Nat.le_refl _) (Nat.lt_succ_self _)
  exact ⟨by rw [<- q1];exact h1,by rw [<- q3];exact h2,fun j hj=>by rw [<- q5 j (by omega)];exact h3 j hj,by rw [<- q4];exact h4,by rw [<- q2];exact h5⟩
 | d+1,.inr l,x,hFG,h=>by
  obtain ⟨h1,h2,h3,h4,h5,h6,h7⟩:=h
  have hn:nodesR (d+1) (.inr l)=1+(l.map (nodesR d)).sum:=rfl
  obtain ⟨q1,q2,q3,q4,q5,q6⟩:=hFG x (Nat.le_refl _) (by omega)
  refine ⟨by rw [<- q1];exact h1,by rw [<- q4];exact h2,by rw [<- q2];exact h3,by rw [<- q3];exact h4,fun k hk=>?_,fun k hk=>?_,fun k hk=>?_⟩
  ·rw [<- q6 k (by omega),h5 k hk]
   omega
  ·rw [<- q5 k (by omega)]
   exact h6 k hk
  ·have hle:=offR_le d l k hk
   have:=Tells.shift (F:=F) (G:=G) (base:=base) (s:=s) (fun i hi1 hi2=>hFG i (by omega) (by omega)) (h7 k hk)
   rwa [show x+1+offR d l k+s=x+s+1+offR d l k by omega] at this

theorem Tells.congr {F G:Nat->Tn} {base:Int} {d:Nat} {t:Ro d} {x:Nat} (hFG:∀i,x<=i->i<x+nodesR d t->SameN (G i) (F i)) (h:Tells G base d t x):Tells F base d t x:=
 Tells.shift (s:=0) (fun i h1 h2=>hFG i h1 h2) (by simpa using h)

theorem Tells.same {F G:Nat->Tn} {base:Int}:∀{d:Nat} {t:Ro d} {x:Nat},Tells F base d t x->Tells G base d t x->∀i,x<=i->i<x+nodesR d t->SameN (F i) (G i)
 | 0,_,_,h,_,_,_,_=>h.elim
 | d+1,.inl t,x,h,g,i,hi1,hi2=>by
  have hn:nodesR (d+1) (.inl t)=1:=rfl
  have e:i=x:=by omega
  subst e
  obtain ⟨h1,h2,h3,h4,h5⟩:=h
  obtain ⟨g1,g2,g3,g4,g5⟩:=g
  exact ⟨h1.trans g1.symm,h5.trans g5.symm,h2.trans g2.symm,h4.trans g4.symm,fun j hj=>(h3 j (by omega)).trans (g3 j (by omega)).symm,fun j hj=>by omega⟩
 | d+1,.inr l,x,h,g,i,hi1,hi2=>by
  have hn:nodesR (d+1) (.inr l)=1+(l.map (nodesR d)).sum:=rfl
  obtain ⟨h1,h2,h3,h4,h5,h6,h7⟩:=h
  obtain ⟨g1,g2,g3,g4,g5,g6,g7⟩:=g
  by_cases e:i=x
  ·subst e
   exact ⟨h1.trans g1.symm,h3.trans g3.symm,by omega,h2.trans g2.symm,fun j hj=>(h6 j (by omega)).trans (g6 j (by omega)).symm,fun j hj=>(h5 j (by omega)).trans (g5 j (by omega)).symm⟩
  ·obtain ⟨k,hk,k1,k2⟩:=offR_find d l (i-(x+1)) (by omega)
   exact Tells.same (h7 k hk) (g7 k hk) i (by omega) (by omega)

theorem flat_pos {T:Type} (f:T->List ByteArray) (l:List T) (h0:0<l.length) (h:∀t,t∈l->0<(f t).length):0<(l.flatMap f).length:=by
 cases l with
 | nil=>simp at h0
 | cons t l=>
  rw [List.flatMap_cons,List.length_append]
  have:=h t (by simp)
  omega

theorem bal_pos:∀{d:Nat} {t:Ro d} {h:Nat},BalR d false t h->0<(keysR d t).length
 | 0,t,_,_=>t.elim
 | d+1,.inl t,h,hb=>by
  obtain ⟨_,_,h2⟩:=hb
  have:2<=t.length:=by simpa using h2
  show 0<t.length
  omega
 | d+1,.inr l,h,hb=>by
  obtain ⟨h2,_,h',_,hall⟩:=hb
  exact flat_pos _ l (by omega) (fun t ht=>bal_pos (hall t ht))

def hd (d:Nat) (l:List (Ro d)) (j:Nat):ByteArray:=match l[j]? with
 | some t=>gt (keysR d t) 0
 | none=>{ data:=#[] }
def hdL (d:Nat) (l:List (Ro d)) (k:Nat):List ByteArray:=(List.range (k-1)).map fun j=>hd d l (j+1)
def stL (a:Int) (d:Nat) (l:List (Ro d)) (k:Nat):List Int:=(List.range k).map fun j=>a+((1+offR d l j:Nat):Int)
theorem hdL_length (d:Nat) (l:List (Ro d)) (k:Nat):(hdL d l k).length=k-1:=by simp [hdL]
theorem stL_length (a:Int) (d:Nat) (l:List (Ro d)) (k:Nat):(stL a d l k).length=k:=by simp [stL]
theorem hdL_succ (d:Nat) (l:List (Ro d)) (k:Nat) (h:0<k):hdL d l (k+1)=hdL d l k++[hd d l k]:=by
 unfold hdL
 rw [show k+1-1=(k-1)+1 by omega,List.range_succ,List.map_append]
 simp
 rw [show k-1+1=k by omega]
theorem stL_succ (a:Int) (d:Nat) (l:List (Ro d)) (k:Nat):stL a d l (k+1)=stL a d l k++[a+((1+offR d l k:Nat):Int)]:=by
 unfold stL
 rw [List.range_succ,List.map_append]
 simp
theorem hd_get (d:Nat) (l:List (Ro d)) (j:Nat) (h:j<l.length):hd d l j=gt (keysR d l[j]) 0:=by
 unfold hd
 rw [List.getElem?_eq_getElem h]
def gi (l:List Int) (i:Nat):Int:=l.getD i 0
theorem gi_stL (a:Int) (d:Nat) (l:List (Ro d)) (k j:Nat) (h:j<k):gi (stL a d l k) j=a+((1+offR d l j:Nat):Int):=by
 unfold gi stL
 simp [List.getD_eq_getElem?_getD,h]
theorem gt_hdL (d:Nat) (l:List (Ro d)) (k j:Nat) (h:j<k-1):gt (hdL d l k) j=hd d l (j+1):=by
 unfold gt hdL
 simp [List.getD_eq_getElem?_getD,h]

def RdX (S:Nat->Prop) (w:World) (a:Option Addr) (n:Nat) (f:Nat->Value):Prop:=
 n=0\/∃b,a=some ⟨b,0,none⟩/\S b/\b<w.heap.size/\∀i,i<n->w.cell? ⟨b,i,none⟩=some (f i)

theorem RdX.mono {S S' : Nat->Prop} {w w' : World} {a:Option Addr} {n:Nat} {f:Nat->Value} (h:RdX S w a n f) (hz:w.heap.size<=w'.heap.size) (hS:∀b,S b->b<w.heap.size->S' b/\w'.heap[b]?=w.heap[b]?):RdX S' w' a n f:=by
 rcases h with h|⟨b,rfl,hs,hb,hc⟩
 ·exact Or.inl h
 ·obtain ⟨q1,q2⟩:=hS b hs hb
  exact Or.inr ⟨b,rfl,q1,by omega,fun i hi=>by rw [World.cell?_of_block (a:=⟨b,i,none⟩) q2];exact hc i hi⟩

def FnV (S:Nat->Prop) (w:World) (x:Tn) (v0 v1 v2 v3:Value):Prop:=
 v0=.bool x.lf/\v3=.int .i64 x.ct/\∃ka kc da dc,v1=.slice ka x.kn kc/\v2=.slice da x.dn dc/\RdX S w ka x.kn (fun i=>.string (x.ks i))/\RdX S w da x.dn (fun i=>.int .i64 (x.kd i))

def FlAt (S:Nat->Prop) (w:World) (n:Nat) (F:Nat->Tn) (xs:List Value):Prop:=
 xs.length=n*4/\∀i,i<n->∃v0 v1 v2 v3,xs[i*4]?=some v0/\xs[i*4+1]?=some v1/\xs[i*4+2]?=some v2/\xs[i*4+3]?=some v3/\FnV S w (F i) v0 v1 v2 v3

theorem FlAt.mono {S S' : Nat->Prop} {w w' : World} {n:Nat} {F:Nat->Tn} {xs:List Value} (h:FlAt S w n F xs) (hz:w.heap.size<=w'.heap.size) (hS:∀b,S b->b<w.heap.size->S' b/\w'.heap[b]?=w.heap[b]?):FlAt S' w' n F xs:=by
 refine ⟨h.1,fun i hi=>?_⟩
 obtain ⟨v0,v1,v2,v3,h0,h1,h2,h3,e0,e3,ka,kc,da,dc,e1,e2,r1,r2⟩:=h.2 i hi
 exact ⟨v0,v1,v2,v3,h0,h1,h2,h3,e0,e3,ka,kc,da,dc,e1,e2,r1.mono hz hS,r2.mono hz hS⟩

def catN (n:Nat) (F G:Nat->Tn) (i:Nat):Tn:=if i<n then F i else G (i-n)

theorem FlAt.app {S:Nat->Prop} {w:World} {n m:Nat} {F G:Nat->Tn} {xs ys:List Value} (h:FlAt S w n F xs) (g:FlAt S w m G ys):FlAt S w (n+m) (catN n F G) (xs++ys):=by
 refine ⟨by rw [List.length_append,h.1,g.1];omega,fun i hi=>?_⟩
 by_cases e:i<n
 ·obtain ⟨v0,v1,v2,v3,h0,h1,h2,h3,hv⟩:=h.2 i e
  have hl:=h.1
  refine ⟨v0,v1,v2,v3,?_,?_,?_,?_,by unfold catN;rw [if_pos e];exact hv⟩
  ·rw [List.getElem?_append_left (by omega)];exact h0
  ·rw [List.getElem?_append_left (by omega)];exact h1
  ·rw [List.getElem?_append_left (by omega)];exact h2
  ·rw [List.getElem?_append_left (by omega)];exact h3
 ·obtain ⟨v0,v1,v2,v3,h0,h1,h2,h3,hv⟩:=g.2 (i-n) (by omega)
  have hl:=h.1
  refine ⟨v0,v1,v2,v3,?_,?_,?_,?_,by unfold catN;rw [if_neg e];exact hv⟩
  ·rw [List.getElem?_append_right (by omega),show i*4-xs.length=(i-n)*4 by omega];exact h0
  ·rw [List.getElem?_append_right (by omega),show i*4+1-xs.length=(i-n)*4+1 by omega];exact h1
  ·rw [List.getElem?_append_right (by omega),show i*4+2-xs.length=(i-n)*4+2 by omega];exact h2
  ·rw [List.getElem?_append_right (by omega),show i*4+3-xs.length=(i-n)*4+3 by omega];exact h3

theorem FlAt.one {S:Nat->Prop} {w:World} {F:Nat->Tn} {v0 v1 v2 v3:Value} (h:FnV S w (F 0) v0 v1 v2 v3):FlAt S w 1 F [v0,v1,v2,v3]:=by
 refine ⟨rfl,fun i hi=>?_⟩
 have e:i=0:=by omega
 subst e
 exact ⟨v0,v1,v2,v3,rfl,rfl,rfl,rfl,h⟩

theorem FlAt.oneCell {S:Nat->Prop} {w:World} {n:Nat} {F:Nat->Tn} {xs:List Value} (h:FlAt S w n F xs):∀u∈xs,u.oneCell'=true:=by
 intro u hu
 obtain ⟨j,hg⟩:=List.mem_iff_getElem?.1 hu
 have hj:j<xs.length:=(List.getElem?_eq_some_iff.1 hg).1
 have hl:=h.1
 obtain ⟨v0,v1,v2,v3,h0,h1,h2,h3,e0,e3,ka,kc,da,dc,e1,e2,_⟩:=h.2 (j / 4) (by omega)
 have h4:j=j / 4*4\/j=j / 4*4+1\/j=j / 4*4+2\/j=j / 4*4+3:=by omega
 rcases h4 with e|e|e|e
 ·rw [e,h0] at hg
  injection hg with hg
  rw [<- hg,e0];rfl
 ·rw [e,h1] at hg
  injection hg with hg
  rw [<- hg,e1];rfl
 ·rw [e,h2] at hg
  injection hg with hg
  rw [<- hg,e2];rfl
 ·rw [e,h3] at hg
  injection hg with hg
  rw [<- hg,e3];rfl

theorem RdX.rdS {S:Nat->Prop} {w:World} {a:Option Addr} {n:Nat} {X:Nat->ByteArray} (h:RdX S w a n (fun i=>.string (X i))):RdS w a n X:=by
 rcases h with h|⟨b,rfl,_,_,hc⟩
 ·exact Or.inl h
 ·exact Or.inr ⟨b,0,rfl,fun i hi=>by rw [Nat.zero_add];exact hc i hi⟩
theorem RdX.rdI {S:Nat->Prop} {w:World} {a:Option Addr} {n:Nat} {X:Nat->Int} (h:RdX S w a n (fun i=>.int .i64 (X i))):Rd .i64 w a n X:=by
 rcases h with h|⟨b,rfl,_,_,hc⟩
 ·exact Or.inl h
 ·exact Or.inr ⟨b,0,rfl,fun i hi=>by rw [Nat.zero_add];exact hc i hi⟩

theorem FlAt.rd {S:Nat->Prop} {w:World} {g n:Nat} {F:Nat->Tn} {xs:List Value} (h:FlAt S w n F xs) (hc:∀j u,xs[j]?=some u->w.cell? ⟨g,j,none⟩=some u):RdTn w (some ⟨g,0,none⟩) n F:=by
 refine Or.inr ⟨g,0,rfl,fun i hi=>?_⟩
 obtain ⟨v0,v1,v2,v3,h0,h1,h2,h3,e0,e3,ka,kc,da,dc,e1,e2,r1,r2⟩:=h.2 i hi
 subst e0 e1 e2 e3
 refine ⟨ka,kc,da,dc,?_,?_,?_,?_,r1.rdS,r2.rdI⟩
 ·rw [Nat.zero_add];exact hc _ _ h0
 ·rw [Nat.zero_add];exact hc _ _ h1
 ·rw [Nat.zero_add];exact hc _ _ h2
 ·rw [Nat.zero_add];exact hc _ _ h3

theorem own_ne {w:World} {b1 b2:Nat} {e1 e2:TypeId} {s1 s2:Nat} {v1 v2:Value} {n1 n2:Nat} {x1 x2:List Value} (h1:w.ownsRow b1 e1 s1 v1 n1 x1) (h2:w.ownsRow b2 e2 s2 v2 n2 x2) (he:e1≠e2):∀g,v1.ownBlock=some g->v2.ownBlock≠some g:=by
 intro g hg1 hg2
 rcases h1.2 with ⟨rfl,_⟩|⟨g',cap,cur,rfl,hb,hh,_⟩
 ·simp [Value.ownBlock] at hg1
 ·simp [Value.ownBlock] at hg1
  subst hg1
  rcases h2.2 with ⟨rfl,_⟩|⟨g2,cap2,cur2,rfl,hb2,hh2,_⟩
  ·simp [Value.ownBlock] at hg2
  ·simp [Value.ownBlock] at hg2
   subst hg2
   rw [hh] at hh2
   injection hh2 with q
   injection q with _ q _
   exact he q

def intL (L:List Int):List Value:=L.map (.int .i64)
theorem intL_length (L:List Int):(intL L).length=L.length:=by simp [intL]
theorem intL_app (L M:List Int):intL (L++M)=intL L++intL M:=by simp [intL]
theorem intL_get (L:List Int) (i:Nat) (h:i<L.length):(intL L)[i]?=some (.int .i64 (gi L i)):=by
 simp [intL,gi,List.getD_eq_getElem?_getD,h]
theorem strL_get (L:List ByteArray) (i:Nat) (h:i<L.length):(strL L)[i]?=some (.string (gt L i)):=by
 simp [strL,gt,List.getD_eq_getElem?_getD,h]

theorem own_set {w:World} {base:Nat} {e:TypeId} {size:Nat} {v:Value} {n:Nat} {xs:List Value} (h:w.ownsRow base e size v n xs) (p:Addr) (u:Value) (hp:p.block<base):(w.setCell p u).ownsRow base e size v n xs:=by
 refine ⟨h.1,?_⟩
 rcases h.2 with q|⟨g,cap,cur,q1,q2,q3,q4⟩
 ·exact Or.inl q
 ·refine Or.inr ⟨g,cap,cur,q1,q2,?_,q4⟩
  rw [Below.heap_setCell _ _ _ _ (show g≠p.block from by omega)]
  exact q3

def SS (nb:Nat) (v1 v2 v3:Value) (b:Nat):Prop:=nb+1<=b/\v1.ownBlock≠some b/\v2.ownBlock≠some b/\v3.ownBlock≠some b

structure FlSt (w wr:World) (nb:Nat) (tbox:Array Value) (ct:Int) (ka:Option Addr) (kn kc:Nat) (da:Option Addr) (dn dc:Nat) (ra:Option Addr) (rn rc:Nat) (Lk:List ByteArray) (Dk:List Int) (R:Nat->Tn) (xs:List Value):Prop where
 tb:Bx wr w.heap.size 91 tbox
 nbx:Bx wr nb 168 #[.bool false,.slice ka kn kc,.slice da dn dc,.int .i64 ct]
 lt:w.heap.size<nb
 own1:wr.ownsRow (nb+1) 9 1 (.slice ka kn kc) kn (strL Lk)
 own2:wr.ownsRow (nb+1) 2 1 (.slice da dn dc) dn (intL Dk)
 own3:wr.ownsRow (nb+1) 168 4 (.slice ra rn rc) rn xs
 fl:FlAt (SS nb (.slice ka kn kc) (.slice da dn dc) (.slice ra rn rc)) wr rn R xs
 bel:Below w.heap.size w wr

section
variable {w wr w1 W2 w5:World} {nb:Nat} {tbox:Array Value} {ct:Int} {ka:Option Addr} {kn kc:Nat} {da:Option Addr} {dn dc:Nat} {ra:Option Addr} {rn rc:Nat} {Lk:List ByteArray} {Dk:List Int} {R:Nat->Tn} {xs:List Value}

theorem FlSt.below (h:FlSt w wr nb tbox ct ka kn kc da dn dc ra rn rc Lk Dk R xs) (hb:Below wr.heap.size wr w1):FlSt w w1 nb tbox ct ka kn kc da dn dc ra rn rc Lk Dk R xs:=
 ⟨h.tb.below hb,h.nbx.below hb,h.lt,own_below h.own1 hb,own_below h.own2 hb,own_below h.own3 hb,h.fl.mono hb.size (fun b hs hlt=>⟨hs,hb.block b hlt⟩),h.bel.trans (hb.mono h.bel.size)⟩

theorem FlSt.growD (h:FlSt w wr nb tbox ct ka kn kc da dn dc ra rn rc Lk Dk R xs) (hg:wr.grownBy w5 (Value.slice da dn dc).ownBlock) {a' : Option Addr} {c' : Nat} {D' : List Int} (ho:w5.ownsRow (nb+1) 2 1 (.slice a' (dn+1) c') (dn+1) (intL D')) (hat:(Value.slice a' (dn+1) c').ownBlock=(Value.slice da dn dc).ownBlock\/(Value.slice a' (dn+1) c').ownBlock=some wr.heap.size) :
  FlSt w (w5.setCell ⟨nb,2,none⟩ (.slice a' (dn+1) c')) nb tbox ct ka kn kc a' (dn+1) c' ra rn rc Lk D' R xs:=by
 have hl:=own_lt h.own2
 have l1:=h.lt
 have l2:=h.nbx.lt
 have hz:=hg.size
 refine ⟨(h.tb.grown hg (fun e=>by have:=hl _ e;omega)).other (by simp;omega) _,(h.nbx.grown hg (fun e=>by have:=hl _ e;omega)).set 2 _,h.lt,own_set (h.own1.kept hg ?_) _ _ (by simp),own_set ho _ _ (by simp),own_set (h.own3.kept hg ?_) _ _ (by simp),?_,(h.bel.grown hg (by have:=h.bel.size;omega) (fun g e=>by have:=hl g e;omega)).setCell (by simp;omega) _⟩
 ·cases e:(Value.slice ka kn kc).ownBlock with
  | none=>exact Or.inl rfl
  | some g=>exact Or.inr (fun q=>own_ne h.own1 h.own2 (by decide) g e q.symm)
 ·cases e:(Value.slice ra rn rc).ownBlock with
  | none=>exact Or.inl rfl
  | some g=>exact Or.inr (fun q=>own_ne h.own3 h.own2 (by decide) g e q.symm)
 ·refine h.fl.mono (by simpa [World.setCell] using hz) (fun b hs hlt=>⟨⟨hs.1,hs.2.1,?_,hs.2.2.2⟩,?_⟩)
  ·rcases hat with e|e
   ·rw [e];exact hs.2.2.1
   ·rw [e]
    intro q
    injection q with q
    omega
  ·rw [Below.heap_setCell _ _ _ _ (show b≠nb from by have:=hs.1;omega)]
   exact hg.block b hlt (fun e=>hs.2.2.1 e.symm)

theorem FlSt.growK (h:FlSt w wr nb tbox ct ka kn kc da dn dc ra rn rc Lk Dk R xs) (hg:wr.grownBy w5 (Value.slice ka kn kc).ownBlock) {a' : Option Addr} {c' : Nat} {L' : List ByteArray} (ho:w5.ownsRow (nb+1) 9 1 (.slice a' (kn+1) c') (kn+1) (strL L')) (hat:(Value.slice a' (kn+1) c').ownBlock=(Value.slice ka kn kc).ownBlock\/(Value.slice a' (kn+1) c').ownBlock=some wr.heap.size) :
  FlSt w (w5.setCell ⟨nb,1,none⟩ (.slice a' (kn+1) c')) nb tbox ct a' (kn+1) c' da dn dc ra rn rc L' Dk R xs:=by
 have hl:=own_lt h.own1
 have l1:=h.lt
 have l2:=h.nbx.lt
 have hz:=hg.size
 refine ⟨(h.tb.grown hg (fun e=>by have:=hl _ e;omega)).other (by simp;omega) _,(h.nbx.grown hg (fun e=>by have:=hl _ e;omega)).set 1 _,h.lt,own_set ho _ _ (by simp),own_set (h.own2.kept hg ?_) _ _ (by simp),own_set (h.own3.kept hg ?_) _ _ (by simp),?_,(h.bel.grown hg (by have:=h.bel.size;omega) (fun g e=>by have:=hl g e;omega)).setCell (by simp;omega) _⟩
 ·cases e:(Value.slice da dn dc).ownBlock with
  | none=>exact Or.inl rfl
  | some g=>exact Or.inr (fun q=>own_ne h.own2 h.own1 (by decide) g e q.symm)
 ·cases e:(Value.slice ra rn rc).ownBlock with
  | none=>exact Or.inl rfl
  | some g=>exact Or.inr (fun q=>own_ne h.own3 h.own1 (by decide) g e q.symm)
 ·refine h.fl.mono (by simpa [World.setCell] using hz) (fun b hs hlt=>⟨⟨hs.1,?_,hs.2.2.1,hs.2.2.2⟩,?_⟩)
  ·rcases hat with e|e
   ·rw [e];exact hs.2.1
   ·rw [e]
    intro q
    injection q with q
    omega
  ·rw [Below.heap_setCell _ _ _ _ (show b≠nb from by have:=hs.1;omega)]
   exact hg.block b hlt (fun e=>hs.2.1 e.symm)

theorem FlSt.growR (h:FlSt w wr nb tbox ct ka kn kc da dn dc ra rn rc Lk Dk R xs) (hb:Below wr.heap.size wr w1) (hg:w1.grownBy w5 (Value.slice ra rn rc).ownBlock) {a' : Option Addr} {c' m:Nat} {G:Nat->Tn} {ys:List Value} (hf:FlAt (fun b=>wr.heap.size<=b) w1 m G ys) (ho:w5.ownsRow (nb+1) 168 4 (.slice a' (rn+m) c') (rn+m) (xs++ys)) (hat:(Value.slice a' (rn+m) c').ownBlock=(Value.slice ra rn rc).ownBlock\/(Value.slice a' (rn+m) c').ownBlock=some w1.heap.size) :
  FlSt w w5 nb tbox ct ka kn kc da dn dc a' (rn+m) c' Lk Dk (catN rn R G) (xs++ys):=by
 have h1:=h.below hb
 have hl:=own_lt h.own3
 have l1:=h.lt
 have l2:=h.nbx.lt
 have hz:=hg.size
 have hz1:=hb.size
 have hkk:=own_lt h.own1
 have hdd:=own_lt h.own2
 refine ⟨h1.tb.grown hg (fun e=>by have:=hl _ e;omega),h1.nbx.grown hg (fun e=>by have:=hl _ e;omega),h.lt,h1.own1.kept hg ?_,h1.own2.kept hg ?_,ho,?_,h1.bel.grown hg (by have:=h1.bel.size;omega) (fun g e=>by have:=hl g e;omega)⟩
 ·cases e:(Value.slice ka kn kc).ownBlock with
  | none=>exact Or.inl rfl
  | some g=>exact Or.inr (fun q=>own_ne h.own1 h.own3 (by decide) g e q.symm)
 ·cases e:(Value.slice da dn dc).ownBlock with
  | none=>exact Or.inl rfl
  | some g=>exact Or.inr (fun q=>own_ne h.own2 h.own3 (by decide) g e q.symm)
 ·refine FlAt.app (h1.fl.mono hz (fun b hs hlt=>⟨⟨hs.1,hs.2.1,hs.2.2.1,?_⟩,hg.block b hlt (fun e=>hs.2.2.2 e.symm)⟩)) (hf.mono hz (fun b hs hlt=>⟨⟨by omega,fun e=>by have:=hkk _ e;omega,fun e=>by have:=hdd _ e;omega,?_⟩,hg.block b hlt (fun e=>by have:=hl _ e.symm;omega)⟩))
  ·rcases hat with e|e
   ·rw [e];exact hs.2.2.2
   ·rw [e]
    intro q
    injection q with q
    omega
  ·rcases hat with e|e
   ·rw [e]
    intro q
    have:=hl _ q
    omega
   ·rw [e]
    intro q
    injection q with q
    omega
end

def RetFlat (w:World) (d:Nat) (t:Ro d) (a:Int) (e:Ending) (w' : World):Prop:=
 ∃ra rc G xs,e=.returned (.slice ra (nodesR d t) rc)/\Below w.heap.size w w'/\w'.ownsRow w.heap.size 168 4 (.slice ra (nodesR d t) rc) (nodesR d t) xs/\FlAt (fun b=>w.heap.size<=b) w' (nodesR d t) G xs/\Tells G a d t 0

def TAt (S:Nat->Prop) (w:World):(d:Nat)->Ro d->Value->Prop
 | 0,_,_=>False
 | d+1,.inl t,v=>∃b ka kc,v=.iface 204 (.pointer (some ⟨b,0,none⟩))/\S b/\Bx w b 206 #[.int .i64 (t.length:Int),.slice ka t.length kc]/\RdX S w ka t.length (fun i=>.string (gt t i))
 | d
  + 1,.inr l,v=>∃(b g kc:Nat) (xs:List Value),v=.iface 174 (.pointer (some ⟨b,0,none⟩))/\S b/\Bx w b 179 #[.int .i64 ((l.flatMap (keysR d)).length:Int),.slice (some ⟨g,0,none⟩) l.length kc]/\S g/\(g<w.heap.size/\l.length<=kc/\kc<=9223372036854775807)/\0<l.length/\(∀j u,xs[j]?=some u->w.cell? ⟨g,j,none⟩=some u)/\
  ∀k (h:k<l.length),∃u,xs[k]?=some u/\TAt S w d l[k] u

theorem TAt.mono {S S' : Nat->Prop} {w w' : World} (hz:w.heap.size<=w'.heap.size) (hS:∀b,S b->b<w.heap.size->S' b/\w'.heap[b]?=w.heap[b]?):∀{d:Nat} {t:Ro d} {v:Value},TAt S w d t v->TAt S' w' d t v
 | 0,_,_,h=>h
 | d+1,.inl t,v,h=>by
  obtain ⟨b,ka,kc,rfl,hb,hx,hr⟩:=h
  obtain ⟨q1,q2⟩:=hS b hb hx.lt
  exact ⟨b,ka,kc,rfl,q1,hx.of_block q2,hr.mono hz hS⟩
 | d+1,.inr l,v,h=>by
  obtain ⟨b,g,kc,xs,rfl,hb,hx,hg,hgl,hl,hc,hk⟩:=h
  obtain ⟨q1,q2⟩:=hS b hb hx.lt
  obtain ⟨q3,q4⟩:=hS g hg hgl.1
  refine ⟨b,g,kc,xs,rfl,q1,hx.of_block q2,q3,⟨by have:=hgl.1;omega,hgl.2⟩,hl,fun j u hj=>by rw [World.cell?_of_block (a:=⟨g,j,none⟩) q4];exact hc j u hj,fun k hk2=>?_⟩
  obtain ⟨u,e,ht⟩:=hk k hk2
  exact ⟨u,e,TAt.mono hz hS ht⟩

theorem TAt.below {S:Nat->Prop} {w w' : World} {d:Nat} {t:Ro d} {v:Value} (h:TAt S w d t v) (hb:Below w.heap.size w w'):TAt S w' d t v:=
 h.mono hb.size (fun b hs hlt=>⟨hs,hb.block b hlt⟩)

def Chain:Bool->ByteArray->List ByteArray->Bool->ByteArray->Prop
 | hk,lk,[],hk',lk'=>hk'=hk/\lk'=lk
 | hk,lk,k::L,hk',lk'=>k.size<=16/\(hk=true->Op.bytesLess lk.toList k.toList=true)/\Chain true k L hk' lk'

theorem Chain.fn:∀{hk:Bool} {lk:ByteArray} {L:List ByteArray} {h1 h2:Bool} {l1 l2:ByteArray},Chain hk lk L h1 l1->Chain hk lk L h2 l2->h1=h2/\l1=l2
 | hk,lk,[],h1,h2,l1,l2,a,b=>⟨a.1.trans b.1.symm,a.2.trans b.2.symm⟩
 | hk,lk,k::L,h1,h2,l1,l2,a,b=>Chain.fn a.2.2 b.2.2

theorem Chain.app:∀{hk:Bool} {lk:ByteArray} {L M:List ByteArray} {h1 h2:Bool} {l1 l2:ByteArray},Chain hk lk L h1 l1->Chain h1 l1 M h2 l2->Chain hk lk (L++M) h2 l2
 | hk,lk,[],M,h1,h2,l1,l2,a,b=>by
  obtain ⟨rfl,rfl⟩:=a
  exact b
 | hk,lk,k::L,M,h1,h2,l1,l2,a,b=>⟨a.1,a.2.1,Chain.app a.2.2 b⟩

theorem Chain.split:∀{hk:Bool} {lk:ByteArray} {L M:List ByteArray} {h2:Bool} {l2:ByteArray},Chain hk lk (L++M) h2 l2->∃h1 l1,Chain hk lk L h1 l1/\Chain h1 l1 M h2 l2
 | hk,lk,[],M,h2,l2,a=>⟨hk,lk,⟨rfl,rfl⟩,a⟩
 | hk,lk,k::L,M,h2,l2,a=>by
  obtain ⟨h1,l1,q1,q2⟩:=Chain.split a.2.2
  exact ⟨h1,l1,⟨a.1,a.2.1,q1⟩,q2⟩

structure Good (N:Nat->Tn) (n x:Nat) (dep D:Int) (hk:Bool) (lk:ByteArray) (d:Nat) (t:Ro d) (D' : Int) (hk' : Bool) (lk' : ByteArray):Prop where
 tl:Tells N 0 d t x
 le:x+nodesR d t<=n
 bal:∃h,BalR d (decide (dep=0)) t h/\D'=dep+(h:Int)
 dd:D=0\/D=D'
 asc:Chain hk lk (keysR d t) hk' lk'

def RBx (w:World) (rb b o n c x:Nat) (D:Int) (lk:ByteArray) (hk:Bool):Prop:=
 Bx w rb 161 #[.slice (some ⟨b,o,none⟩) n c,.int .i64 (x:Int),.int .i64 D,.string lk,.bool hk]

def RetRd (N:Nat->Tn) (rb b o n c x:Nat) (dep D:Int) (hk:Bool) (lk:ByteArray) (d:Nat) (w:World) (e:Ending) (w' : World):Prop:=
 w.grownBy w' (some rb)/\∃v ok,e=.returned (.tuple #[v,.bool ok])/\
  ((ok=true/\∃t D' hk' lk',Good N n x dep D hk lk d t D' hk' lk'/\RBx w' rb b o n c (x+nodesR d t) D' lk' hk'/\TAt (fun b=>w.heap.size<=b) w' d t v)\/
   (ok=false/\¬ ∃t D' hk' lk',Good N n x dep D hk lk d t D' hk' lk'))

theorem Tryz.info59 : (Tryz.prog.info? 59).map (fun i=>(i.zero,i.size,i.bytes))=some (some (.agg #[.slice none 0 0]),1,24):=by kernel_rfl

theorem OwnTn.und {w w' : World} {B g n:Nat} {N:Nat->Tn} {KA DA:Nat->Option Addr} {KC DC:Nat->Nat} (h:OwnTn w B g n N KA DA KC DC) (hb:Below w.heap.size w w'):OwnTn w' B g n N KA DA KC DC:=
 ⟨h.le,h.row.of_block (hb.block g h.row.lt),fun i hi=>(h.keys i hi).below hb,fun i hi=>(h.kids i hi).below hb,h.apartK,h.apartD⟩

theorem OwnIx.put {w w1:World} {B g n k:Nat} {M:Nat->Nat} {T:Nat->Nat->Tn} (h:OwnIx w B g n k M T) (hB:B<=w.heap.size) (hk:k<n) (hb:Below w.heap.size w w1) {gk:Nat} {KA DA:Nat->Option Addr} {KC DC:Nat->Nat} (ho:OwnTn w1 w.heap.size gk (M k) (T k) KA DA KC DC):OwnIx (w1.setCell ⟨g,k,none⟩ (.slice (some ⟨gk,0,none⟩) (M k) (M k))) B g n (k+1) M T:=by
 obtain ⟨hg,cur,h1,h2,h3⟩:=h
 have h1' : Bx w1 g 59 cur:=(show Bx w g 59 cur from h1).below hb
 have hs:=h1'.set k (.slice (some ⟨gk,0,none⟩) (M k) (M k))
 refine ⟨hg,_,hs,by simpa using h2,fun i hi=>?_⟩
 by_cases e:i=k
 ·subst e
  refine ⟨gk,KA,DA,KC,DC,by simp [h2,hk],?_⟩
  have q:=ho.setO (p:=⟨g,i,none⟩) (by show g<w.heap.size;omega) (.slice (some ⟨gk,0,none⟩) (M i) (M i))
  have hle:=q.le
  exact ⟨by omega,q.row,fun j hj=>(q.keys j hj).mono (by omega),fun j hj=>(q.kids j hj).mono (by omega),q.apartK,q.apartD⟩
 ·obtain ⟨gi,KA',DA',KC',DC',q1,q2⟩:=h3 i (by omega)
  refine ⟨gi,KA',DA',KC',DC',?_,(q2.und hb).setO (p:=⟨g,k,none⟩) hg _⟩
  rw [Array.getElem?_setIfInBounds_ne (by omega)]
  exact q1
theorem OwnIx.setO {w:World} {B g n:Nat} {M:Nat->Nat} {T:Nat->Nat->Tn} (h:OwnIx w B g n n M T) {p:Addr} (hp:p.block<g) (v:Value):OwnIx (w.setCell p v) B g n n M T:=by
 obtain ⟨hg,cur,h1,h2,h3⟩:=h
 refine ⟨hg,cur,by rw [Below.heap_setCell _ _ _ _ (show g≠p.block by omega)];exact h1,h2,fun i hi=>?_⟩
 obtain ⟨gi,KA',DA',KC',DC',q1,q2⟩:=h3 i hi
 exact ⟨gi,KA',DA',KC',DC',q1,q2.setO (by omega) _⟩

section
open Go.ChangeShapes Go.WideShapes Go.ChangeAt Go.Joins
variable {H:Type} {enc:TypeId × Value->H} {W:World}
set_option maxRecDepth 100000 in
theorem trees_of {fuel:Nat} {cs:List Value} {x:DataW H × List MemPlace} (h:DataW.trod enc Tryz.prog W 0 (fun _=>true) true fuel 22 cs=some x) :
  ∃a n c M T,cs=[.slice a n c]/\RdIx W a n M T/\(∀i,i<n->M i<=maxLen/\∀j,j<M i->TnBig (T i j))/\n<=maxLen:=by
 rcases open_slice (P:=Tryz.prog) (t:=22) (e:=106) (by kernel_rfl) h with ⟨hcs,_⟩|⟨a,len,cap,m,fu,D,Pl,hcs,_,hl,hm,hmm,_,hx⟩
 ·exact ⟨none,0,0,fun _=>0,fun _ _=>⟨false,0,fun _=>{ data:=#[] },0,fun _=>0,0⟩,hcs,Or.inl rfl,fun i hi=>absurd hi (Nat.not_lt_zero _),Nat.zero_le _⟩
 ·have hlm:len<=m:=by rw [hmm];split <;> omega
  have each:∀i,i<len->∃q:Nat × (Nat->Tn) × Option Addr × Nat,W.cell? (a.add i)=some (.slice q.2.2.1 q.1 q.2.2.2)/\RdTn W q.2.2.1 q.1 q.2.1/\q.1<=maxLen/\∀j,j<q.1->TnBig (q.2.1 j):=by
   intro i hi
   obtain ⟨cs',h1,h2⟩:=hx i (by omega)
   rw [show Tryz.prog.cellsOf 106=1 by kernel_rfl] at h1
   obtain ⟨_,hlen,hcell⟩:=World.cells?_some h1
   obtain ⟨xs,k,hk,hxy,_,hxl,hf⟩:=DataW.trod_struct (P:=Tryz.prog) Tryz.underlying106 h2
   have g0:=hf 0 _ rfl
   rw [show Tryz.prog.cellsOf _=1 by kernel_rfl] at g0
   match xs,hxl,cs',hlen with
   | [y0],_,[v0],_=>
    simp at g0
    obtain ⟨ai,n',c',N,e1,hr,hX,hn⟩:=tnodes_of g0
    simp at e1
    subst e1
    have c0:=hcell 0 (by omega)
    rw [Addr.add_add] at c0
    exact ⟨(n',N,ai,c'),by simpa using c0,hr,hn,hX⟩
  haveI:Inhabited (Nat × (Nat->Tn) × Option Addr × Nat):=⟨(0,fun _=>⟨false,0,fun _=>{ data:=#[] },0,fun _=>0,0⟩,none,0)⟩
  obtain ⟨q,hq⟩:=choose_lt each
  refine ⟨some a,len,cap,fun i=>(q i).1,fun i=>(q i).2.1,hcs,?_,fun i hi=>(hq i hi).2.2,by omega⟩
  by_cases h0:len=0
  ·exact Or.inl h0
  ·obtain ⟨b,off,spot⟩:=a
   have hs:=spotT_of (a:=⟨b,off,spot⟩) (by simpa using (hq 0 (by omega)).1)
   simp at hs
   subst hs
   refine Or.inr ⟨b,off,rfl,fun i hi=>?_⟩
   obtain ⟨k0,k1,_⟩:=hq i hi
   rw [addT_eq] at k0
   exact ⟨_,_,k0,k1⟩
def IsIndex (w:World) (v:Value):Prop:=
 ∃a n c M T,v=.agg #[.slice a n c]/\RdIx w a n M T/\(∀i,i<n->M i<=maxLen/\∀j,j<M i->TnBig (T i j))/\n<=maxLen
set_option maxRecDepth 100000 in
theorem openIndex {r:Reach} {b0:Nat} {v:Value} {d:DataW H} {p:List MemPlace} (hv:Value.okWide Tryz.prog W r b0 24 v) (h:DataW.Trod enc Tryz.prog W 0 (fun _=>true) true 24 v d p):IsIndex W v:=by
 obtain ⟨cs,rfl,hsz⟩:=okWide_struct (P:=Tryz.prog) Tryz.underlying24 hv
 have h1:cs.size=1:=hsz.trans (by kernel_rfl)
 obtain ⟨l⟩:=cs
 match l,h1 with
 | [c0],_=>
  obtain ⟨fuel,hf⟩:=h
  obtain ⟨xs,k,hk,hxy,_,hxl,hff⟩:=DataW.trod_struct (P:=Tryz.prog) Tryz.underlying24 hf
  have g0:=hff 0 _ rfl
  rw [show Tryz.prog.cellsOf _=1 by kernel_rfl] at g0
  match xs,hxl with
  | [y0],_=>
   simp [Value.cells] at g0
   obtain ⟨a,n',c,M,T,e1,hr,hX,hn⟩:=trees_of g0
   simp at e1
   subst e1
   exact ⟨a,n',c,M,T,rfl,hr,hX,hn⟩
end
end Go.Proofs.YtcnollkkigiobaaGreat
namespace Go.Proofs.YtcnollkkigiobaaGreat
open Go.RowKit Go.Deep


set_option maxHeartbeats 1000000 in
theorem lay_1 (g:Nat) (w:World) :
  Calls Tryz.prog 101 #[.pointer (some ⟨g,0,none⟩)] w fun e w'=>e=.returned (.agg #[.pointer (some ⟨g,0,none⟩),.pointer (some ⟨g,1,none⟩),.pointer (some ⟨g,2,none⟩),.pointer (some ⟨g,3,none⟩)])/\Below w.heap.size w w':=by
 go_enter Tryz.func101,Tryz.ntmps101
 go_wp2
 go_region_held3 (fun _=>True) (go_keep) (fail)
 go_wp2
 refine bodyPost_ret (v:=.agg #[.pointer (some ⟨g,0,none⟩),.pointer (some ⟨g,1,none⟩),.pointer (some ⟨g,2,none⟩),.pointer (some ⟨g,3,none⟩)]) (by simp [results,Tryz.results101,go_sem]) rfl ⟨rfl,(below_alloc _ _).drew⟩


set_option maxHeartbeats 1000000 in
theorem lay_2 (g:Nat) (w:World) :
  Calls Tryz.prog 102 #[.pointer (some ⟨g,0,none⟩)] w fun e w'=>e=.returned (.agg #[.pointer (some ⟨g,1,none⟩),.pointer (some ⟨g,2,none⟩),.pointer (some ⟨g,0,none⟩),.pointer (some ⟨g,3,none⟩)])/\Below w.heap.size w w':=by
 go_enter Tryz.func102,Tryz.ntmps102
 go_wp2
 go_region_held3 (fun _=>True) (go_keep) (fail)
 go_wp2
 refine bodyPost_ret (v:=.agg #[.pointer (some ⟨g,1,none⟩),.pointer (some ⟨g,2,none⟩),.pointer (some ⟨g,0,none⟩),.pointer (some ⟨g,3,none⟩)]) (by simp [results,Tryz.results102,go_sem]) rfl ⟨rfl,(below_alloc _ _).drew⟩


set_option maxHeartbeats 1000000 in
theorem lay_3 (g:Nat) (w:World) :
  Calls Tryz.prog 103 #[.pointer (some ⟨g,0,none⟩)] w fun e w'=>e=.returned (.agg #[.pointer (some ⟨g,2,none⟩),.pointer (some ⟨g,0,none⟩),.pointer (some ⟨g,1,none⟩),.pointer (some ⟨g,3,none⟩)])/\Below w.heap.size w w':=by
 go_enter Tryz.func103,Tryz.ntmps103
 go_wp2
 go_region_held3 (fun _=>True) (go_keep) (fail)
 go_wp2
 refine bodyPost_ret (v:=.agg #[.pointer (some ⟨g,2,none⟩),.pointer (some ⟨g,0,none⟩),.pointer (some ⟨g,1,none⟩),.pointer (some ⟨g,3,none⟩)]) (by simp [results,Tryz.results103,go_sem]) rfl ⟨rfl,(below_alloc _ _).drew⟩


set_option maxHeartbeats 1000000 in
theorem lay_4 (g:Nat) (w:World) :
  Calls Tryz.prog 104 #[.pointer (some ⟨g,0,none⟩)] w fun e w'=>e=.returned (.agg #[.pointer (some ⟨g,3,none⟩),.pointer (some ⟨g,0,none⟩),.pointer (some ⟨g,1,none⟩),.pointer (some ⟨g,2,none⟩)])/\Below w.heap.size w w':=by
 go_enter Tryz.func104,Tryz.ntmps104
 go_wp2
 go_region_held3 (fun _=>True) (go_keep) (fail)
 go_wp2
 refine bodyPost_ret (v:=.agg #[.pointer (some ⟨g,3,none⟩),.pointer (some ⟨g,0,none⟩),.pointer (some ⟨g,1,none⟩),.pointer (some ⟨g,2,none⟩)]) (by simp [results,Tryz.results104,go_sem]) rfl ⟨rfl,(below_alloc _ _).drew⟩


set_option maxHeartbeats 1000000 in
theorem lay_5 (g:Nat) (w:World) :
  Calls Tryz.prog 105 #[.pointer (some ⟨g,0,none⟩)] w fun e w'=>e=.returned (.agg #[.pointer (some ⟨g,3,none⟩),.pointer (some ⟨g,1,none⟩),.pointer (some ⟨g,2,none⟩),.pointer (some ⟨g,0,none⟩)])/\Below w.heap.size w w':=by
 go_enter Tryz.func105,Tryz.ntmps105
 go_wp2
 go_region_held3 (fun _=>True) (go_keep) (fail)
 go_wp2
 refine bodyPost_ret (v:=.agg #[.pointer (some ⟨g,3,none⟩),.pointer (some ⟨g,1,none⟩),.pointer (some ⟨g,2,none⟩),.pointer (some ⟨g,0,none⟩)]) (by simp [results,Tryz.results105,go_sem]) rfl ⟨rfl,(below_alloc _ _).drew⟩


set_option maxHeartbeats 1000000 in
theorem lay_6 (g:Nat) (w:World) :
  Calls Tryz.prog 106 #[.pointer (some ⟨g,0,none⟩)] w fun e w'=>e=.returned (.agg #[.pointer (some ⟨g,3,none⟩),.pointer (some ⟨g,2,none⟩),.pointer (some ⟨g,0,none⟩),.pointer (some ⟨g,1,none⟩)])/\Below w.heap.size w w':=by
 go_enter Tryz.func106,Tryz.ntmps106
 go_wp2
 go_region_held3 (fun _=>True) (go_keep) (fail)
 go_wp2
 refine bodyPost_ret (v:=.agg #[.pointer (some ⟨g,3,none⟩),.pointer (some ⟨g,2,none⟩),.pointer (some ⟨g,0,none⟩),.pointer (some ⟨g,1,none⟩)]) (by simp [results,Tryz.results106,go_sem]) rfl ⟨rfl,(below_alloc _ _).drew⟩

end Go.Proofs.YtcnollkkigiobaaGreat
