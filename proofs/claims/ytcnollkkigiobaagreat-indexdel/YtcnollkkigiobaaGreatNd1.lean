import Derived.WalkKit
import Derived.Deep.OwnRows
import Derived.Deep.Draws
import Derived.Test.YtcnollkkigiobaaGreatRows
import Derived.Deep.Upon
import Derived.Handy
import Derived.Maps.AppendAt
import Derived.Deep.CutBlock
import Derived.ProofKit
import Derived.OpenShut
import Derived.Lib.SmallJoins
import Derived.Deep.SlicePairs
import Derived.Deep.RegionHeld3
import Derived.Laws.BytesArg
set_option linter.unusedVariables false
set_option maxRecDepth 100000
namespace Go.Proofs.YtcnollkkigiobaaGreat
open Go.RowKit Go.Deep

def Rd (k:IntKind) (w:World) (a:Option Addr) (len:Nat) (f:Nat->Int):Prop:=
 len=0\/∃b o,a=some ⟨b,o,none⟩/\∀i,i<len->w.cell? ⟨b,o+i,none⟩=some (.int k (f i))

theorem Rd.below {k:IntKind} {w w' : World} {a:Option Addr} {len:Nat} {f:Nat->Int} (h:Rd k w a len f) (hb:Below w.heap.size w w'):Rd k w' a len f:=by
 rcases h with h|⟨b,o,rfl,hc⟩
 ·exact Or.inl h
 ·refine Or.inr ⟨b,o,rfl,fun i hi=>?_⟩
  have hlt:=World.block_lt_of_cell? _ _ (hc i hi)
  rw [hb.cell (p:=⟨b,o+i,none⟩) hlt]
  exact hc i hi

theorem Rd.congr {k:IntKind} {w:World} {a:Option Addr} {len:Nat} {f g:Nat->Int} (h:Rd k w a len f) (e:∀i,i<len->f i=g i):Rd k w a len g:=by
 rcases h with h|⟨b,o,rfl,hc⟩
 ·exact Or.inl h
 ·exact Or.inr ⟨b,o,rfl,fun i hi=>by rw [hc i hi,e i hi]⟩

theorem rowCopy {w:World} {b:Nat} {t:TypeId} {n k:Nat} {f:Nat->Value} {z:Value} (h:w.rowIs b t n (fun j=>if j<k then f j else z)) :
  (w.setCell ⟨b,k,none⟩ (f k)).rowIs b t n (fun j=>if j<k+1 then f j else z):=
 (h.set k (f k)).congr fun j _=>by
  by_cases e:j=k
  ·subst e;simp
  ·by_cases hl:j<k
   ·simp [e,hl];omega
   ·have:¬ j<k+1:=by omega
    simp [e,hl,this]

theorem below_drewN {B:Nat} {a w:World} (h:Below B a w) (n:Nat):Below B a (w.drewN n):=⟨h.os,h.tape,h.output,h.size,h.block⟩
theorem bcell {W w1:World} (hb:Below W.heap.size W w1):(∀b o,b<W.heap.size->w1.cell? ⟨b,o,none⟩=W.cell? ⟨b,o,none⟩)/\(∀b o,b<W.heap.size->w1.frozen? ⟨b,o,none⟩=W.frozen? ⟨b,o,none⟩):=
 ⟨fun b o h=>hb.cell (p:=⟨b,o,none⟩) h,fun b o h=>hb.frozen (p:=⟨b,o,none⟩) h⟩
theorem below_alloc (w:World) (o:Obj):Below w.heap.size w (w.alloc o):=(Below.refl _ _).alloc (Nat.le_refl _) o

def rowIn (w:World) (g:Nat) (t:TypeId) (n:Nat) (F:Nat->Value):Prop:=
 ∃cur:Array Value,w.heap[g]?=some (.cells cur t (0,0))/\n<=cur.size/\∀i,i<n->cur[i]?=some (F i)

namespace rowIn
variable {w:World} {g:Nat} {t:TypeId} {n:Nat} {F G:Nat->Value}

theorem cell (h:rowIn w g t n F) {i:Nat} (hi:i<n):w.cell? ⟨g,i,none⟩=some (F i):=by
 obtain ⟨c,hb,_,hc⟩:=h
 simp [World.cell?,hb,hc i hi]

theorem frozen (h:rowIn w g t n F) (i:Nat):w.frozen? ⟨g,i,none⟩=false:=by
 obtain ⟨c,hb,_,_⟩:=h
 simp [World.frozen?,hb]

theorem lt (h:rowIn w g t n F):g<w.heap.size:=by
 obtain ⟨c,hb,_,_⟩:=h
 obtain ⟨hlt,_⟩:=Array.getElem?_eq_some_iff.1 hb
 exact hlt

theorem congr (h:rowIn w g t n F) (e:∀i,i<n->F i=G i):rowIn w g t n G:=by
 obtain ⟨c,hb,hn,hc⟩:=h
 exact ⟨c,hb,hn,fun i hi=>by rw [hc i hi,e i hi]⟩

theorem of_block {w' : World} (h:rowIn w g t n F) (e:w'.heap[g]?=w.heap[g]?):rowIn w' g t n F:=by
 obtain ⟨c,hb,hn,hc⟩:=h
 exact ⟨c,e.trans hb,hn,hc⟩

theorem set (h:rowIn w g t n F) (i:Nat) (v:Value):rowIn (w.setCell ⟨g,i,none⟩ v) g t n (fun j=>if j=i then v else F j):=by
 obtain ⟨c,hb,hn,hc⟩:=h
 refine ⟨c.setIfInBounds i v,?_,by simpa using hn,fun j hj=>?_⟩
 ·simp [World.setCell,Array.getElem?_modify,hb]
 ·rw [Array.getElem?_setIfInBounds]
  by_cases e:j=i
  ·subst e
   have:j<c.size:=by omega
   simp [this]
  ·rw [if_neg (fun h=>e h.symm)]
   show c[j]?=some (if j=i then v else F j)
   rw [if_neg e]
   exact hc j hj

theorem setOther (h:rowIn w g t n F) {p:Addr} (hp:g≠p.block) (v:Value):rowIn (w.setCell p v) g t n F:=h.of_block (Below.heap_setCell _ _ _ _ hp)

theorem ofIs (h:w.rowIs g t n F):rowIn w g t n F:=by
 obtain ⟨c,hb,hn,hc⟩:=h
 exact ⟨c,hb,by omega,hc⟩

theorem ne {g' : Nat} {t' : TypeId} {n' : Nat} (h:rowIn w g t n F) (h' : rowIn w g' t' n' G) (ht:t≠t'):g≠g':=by
 rintro rfl
 obtain ⟨c,hb,_,_⟩:=h
 obtain ⟨c',hb',_,_⟩:=h'
 rw [hb] at hb'
 injection hb' with e
 injection e with _ e2 _
 exact ht e2
end rowIn

structure OnlyAt (a:Option Addr) (w w' : World):Prop where
 os:w'.os=w.os
 tape:w'.tape=w.tape
 output:w'.output=w.output
 size:w'.heap.size=w.heap.size
 block:∀k,(∀x,a=some x->x.block≠k)->w'.heap[k]?=w.heap[k]?

theorem OnlyAt.refl (a:Option Addr) (w:World):OnlyAt a w w:=⟨rfl,rfl,rfl,rfl,fun _ _=>rfl⟩
theorem OnlyAt.below {B:Nat} {a:Option Addr} {w w' : World} (h:OnlyAt a w w') (hB:∀x,a=some x->B<=x.block):Below B w w':=
 ⟨h.os,h.tape,h.output,by rw [h.size];exact Nat.le_refl _,fun k hk=>h.block k (fun x e=>by have:=hB x e;omega)⟩
theorem OnlyAt.setCell {g:Nat} {w w' : World} (h:OnlyAt (some ⟨g,0,none⟩) w w') (i:Nat) (v:Value):OnlyAt (some ⟨g,0,none⟩) w (w'.setCell ⟨g,i,none⟩ v):=
 ⟨h.os,h.tape,h.output,by rw [<- h.size];simp [World.setCell],fun k hk=>by
  rw [<- h.block k hk]
  exact Below.heap_setCell _ _ _ _ (fun e=>hk _ rfl e.symm)⟩

def OwnB (w:World) (B:Nat) (a:Option Addr) (n:Nat) (f:Nat->Int):Prop:=
 n=0\/∃g,a=some ⟨g,0,none⟩/\B<=g/\rowIn w g 5 n (fun i=>.int .u8 (f i))

theorem OwnB.rd {w:World} {B:Nat} {a:Option Addr} {n:Nat} {f:Nat->Int} (h:OwnB w B a n f):Rd .u8 w a n f:=by
 rcases h with h|⟨g,rfl,_,hr⟩
 ·exact Or.inl h
 ·exact Or.inr ⟨g,0,rfl,fun i hi=>by rw [Nat.zero_add];exact hr.cell hi⟩

theorem OwnB.mono {w:World} {B B' : Nat} {a:Option Addr} {n:Nat} {f:Nat->Int} (h:OwnB w B a n f) (hB:B'<=B):OwnB w B' a n f:=by
 rcases h with h|⟨g,rfl,hg,hr⟩
 ·exact Or.inl h
 ·exact Or.inr ⟨g,rfl,by omega,hr⟩

theorem OwnB.congr {w:World} {B:Nat} {a:Option Addr} {n:Nat} {f f' : Nat->Int} (h:OwnB w B a n f) (e:∀i,i<n->f i=f' i):OwnB w B a n f':=by
 rcases h with h|⟨g,rfl,hg,hr⟩
 ·exact Or.inl h
 ·exact Or.inr ⟨g,rfl,hg,hr.congr (fun i hi=>by rw [e i hi])⟩

theorem OwnB.below {w w' : World} {B:Nat} {a:Option Addr} {n:Nat} {f:Nat->Int} (h:OwnB w B a n f) (hb:Below w.heap.size w w'):OwnB w' B a n f:=by
 rcases h with h|⟨g,rfl,hg,hr⟩
 ·exact Or.inl h
 ·exact Or.inr ⟨g,rfl,hg,hr.of_block (hb.block g hr.lt)⟩

theorem OwnB.only {w w' : World} {B:Nat} {a a' : Option Addr} {n:Nat} {f:Nat->Int} (h:OwnB w B a n f) (ho:OnlyAt a' w w') (hne:n≠0->∀x y,a=some x->a'=some y->y.block≠x.block):OwnB w' B a n f:=by
 rcases h with h|⟨g,rfl,hg,hr⟩
 ·exact Or.inl h
 ·by_cases hn:n=0
  ·exact Or.inl hn
  ·exact Or.inr ⟨g,rfl,hg,hr.of_block (ho.block g (fun y e=>hne hn ⟨g,0,none⟩ y rfl e))⟩

def RdS (w:World) (a:Option Addr) (n:Nat) (X:Nat->ByteArray):Prop:=
 n=0\/∃b o,a=some ⟨b,o,none⟩/\∀i,i<n->w.cell? ⟨b,o+i,none⟩=some (.string (X i))
def OwnS (w:World) (B:Nat) (a:Option Addr) (n:Nat) (X:Nat->ByteArray):Prop:=
 n=0\/∃g,a=some ⟨g,0,none⟩/\B<=g/\rowIn w g 9 n (fun i=>.string (X i))
def strRow (X:Nat->ByteArray) (n:Nat):List Value:=(List.range n).map fun j=>.string (X j)
theorem strRow_length (X:Nat->ByteArray) (n:Nat):(strRow X n).length=n:=by simp [strRow]
theorem strRow_get (X:Nat->ByteArray) (n i:Nat) (h:i<n):(strRow X n)[i]?=some (.string (X i)):=by simp [strRow,h]

section
variable {w w' : World} {B B' : Nat} {a:Option Addr} {n:Nat} {X X' : Nat->ByteArray}
theorem RdS.below (h:RdS w a n X) (hb:Below w.heap.size w w'):RdS w' a n X:=by
 rcases h with h|⟨b,o,rfl,hc⟩
 ·exact Or.inl h
 ·refine Or.inr ⟨b,o,rfl,fun i hi=>?_⟩
  rw [hb.cell (p:=⟨b,o+i,none⟩) (World.block_lt_of_cell? _ _ (hc i hi))]
  exact hc i hi
theorem RdS.congr (h:RdS w a n X) (e:∀i,i<n->X i=X' i):RdS w a n X':=by
 rcases h with h|⟨b,o,rfl,hc⟩
 ·exact Or.inl h
 ·exact Or.inr ⟨b,o,rfl,fun i hi=>by rw [hc i hi,e i hi]⟩
theorem OwnS.rd (h:OwnS w B a n X):RdS w a n X:=by
 rcases h with h|⟨g,rfl,_,hr⟩
 ·exact Or.inl h
 ·exact Or.inr ⟨g,0,rfl,fun i hi=>by rw [Nat.zero_add];exact hr.cell hi⟩
theorem OwnS.mono (h:OwnS w B a n X) (hB:B'<=B):OwnS w B' a n X:=by
 rcases h with h|⟨g,rfl,hg,hr⟩
 ·exact Or.inl h
 ·exact Or.inr ⟨g,rfl,by omega,hr⟩
theorem OwnS.below (h:OwnS w B a n X) (hb:Below w.heap.size w w'):OwnS w' B a n X:=by
 rcases h with h|⟨g,rfl,hg,hr⟩
 ·exact Or.inl h
 ·exact Or.inr ⟨g,rfl,hg,hr.of_block (hb.block g hr.lt)⟩
theorem OwnS.congr (h:OwnS w B a n X) (e:∀i,i<n->X i=X' i):OwnS w B a n X':=by
 rcases h with h|⟨g,rfl,hg,hr⟩
 ·exact Or.inl h
 ·exact Or.inr ⟨g,rfl,hg,hr.congr (fun i hi=>by rw [e i hi])⟩
theorem OwnS.setOther (h:OwnS w B a n X) {p:Addr} (hp:p.block<B) (v:Value):OwnS (w.setCell p v) B a n X:=by
 rcases h with h|⟨g,rfl,hg,hr⟩
 ·exact Or.inl h
 ·exact Or.inr ⟨g,rfl,hg,hr.of_block (Below.heap_setCell _ _ _ _ (by omega))⟩
theorem ownS_ofRow {v:Value} (h:w.ownsRow B 9 1 v n (strRow X n)):∃a c,v=.slice a n c/\OwnS w B a n X/\n<=c/\c<=9223372036854775807:=by
 obtain ⟨_,h⟩:=h
 rcases h with ⟨rfl,rfl⟩|⟨g,cap,cur,rfl,hg,hh,h1,h2,h3,h4⟩
 ·exact ⟨none,0,rfl,Or.inl rfl,Nat.le_refl _,by omega⟩
 ·unfold maxLen at h2
  refine ⟨_,cap,rfl,Or.inr ⟨g,rfl,hg,cur,hh,by omega,fun i hi=>?_⟩,h1,h2⟩
  rw [<- strRow_get X n i hi,<- h4]
  have:i<n*1:=by omega
  rw [List.getElem?_take,if_pos this]
  simp
end

structure Tn where
 lf:Bool
 kn:Nat
 ks:Nat->ByteArray
 dn:Nat
 kd:Nat->Int
 ct:Int

def TnAt (w:World) (x:Tn) (v0 v1 v2 v3:Value):Prop:=
 v0=.bool x.lf/\v3=.int .i64 x.ct/\∃ka kc da dc,v1=.slice ka x.kn kc/\v2=.slice da x.dn dc/\RdS w ka x.kn x.ks/\Rd .i64 w da x.dn x.kd

def RdTn (w:World) (a:Option Addr) (n:Nat) (N:Nat->Tn):Prop:=
 n=0\/∃b o,a=some ⟨b,o,none⟩/\∀i,i<n->∃ka kc da dc,w.cell? ⟨b,o+i*4,none⟩=some (.bool (N i).lf)/\w.cell? ⟨b,o+i*4+1,none⟩=some (.slice ka (N i).kn kc)/\
  w.cell? ⟨b,o+i*4+2,none⟩=some (.slice da (N i).dn dc)/\w.cell? ⟨b,o+i*4+3,none⟩=some (.int .i64 (N i).ct)/\RdS w ka (N i).kn (N i).ks/\Rd .i64 w da (N i).dn (N i).kd

theorem RdTn.below {w w' : World} {a:Option Addr} {n:Nat} {N:Nat->Tn} (h:RdTn w a n N) (hb:Below w.heap.size w w'):RdTn w' a n N:=by
 rcases h with h|⟨b,o,rfl,hc⟩
 ·exact Or.inl h
 ·refine Or.inr ⟨b,o,rfl,fun i hi=>?_⟩
  obtain ⟨ka,kc,da,dc,h0,h1,h2,h3,h4,h5⟩:=hc i hi
  refine ⟨ka,kc,da,dc,?_,?_,?_,?_,h4.below hb,h5.below hb⟩
  ·rw [hb.cell (World.block_lt_of_cell? _ _ h0)];exact h0
  ·rw [hb.cell (World.block_lt_of_cell? _ _ h1)];exact h1
  ·rw [hb.cell (World.block_lt_of_cell? _ _ h2)];exact h2
  ·rw [hb.cell (World.block_lt_of_cell? _ _ h3)];exact h3

def tnCell (N:Nat->Tn) (KA DA:Nat->Option Addr) (KC DC:Nat->Nat) (c:Nat):Value:=
 if c % 4=0 then .bool (N (c / 4)).lf else if c % 4=1 then .slice (KA (c / 4)) (N (c / 4)).kn (KC (c / 4)) else if c % 4=2 then .slice (DA (c / 4)) (N (c / 4)).dn (DC (c / 4)) else .int .i64 (N (c / 4)).ct

section
variable (N:Nat->Tn) (KA DA:Nat->Option Addr) (KC DC:Nat->Nat) (i:Nat)
theorem tnCell_0:tnCell N KA DA KC DC (i*4)=.bool (N i).lf:=by
 unfold tnCell
 rw [if_pos (by omega),show i*4 / 4=i by omega]
theorem tnCell_1:tnCell N KA DA KC DC (i*4+1)=.slice (KA i) (N i).kn (KC i):=by
 unfold tnCell
 rw [if_neg (by omega),if_pos (by omega),show (i*4+1) / 4=i by omega]
theorem tnCell_2:tnCell N KA DA KC DC (i*4+2)=.slice (DA i) (N i).dn (DC i):=by
 unfold tnCell
 rw [if_neg (by omega),if_neg (by omega),if_pos (by omega),show (i*4+2) / 4=i by omega]
theorem tnCell_3:tnCell N KA DA KC DC (i*4+3)=.int .i64 (N i).ct:=by
 unfold tnCell
 rw [if_neg (by omega),if_neg (by omega),if_neg (by omega),show (i*4+3) / 4=i by omega]
end

def OwnI (w:World) (B:Nat) (a:Option Addr) (n:Nat) (f:Nat->Int):Prop:=
 n=0\/∃g,a=some ⟨g,0,none⟩/\B<=g/\rowIn w g 2 n (fun i=>.int .i64 (f i))

theorem OwnI.rd {w:World} {B:Nat} {a:Option Addr} {n:Nat} {f:Nat->Int} (h:OwnI w B a n f):Rd .i64 w a n f:=by
 rcases h with h|⟨g,rfl,_,hr⟩
 ·exact Or.inl h
 ·exact Or.inr ⟨g,0,rfl,fun i hi=>by rw [Nat.zero_add];exact hr.cell hi⟩
theorem OwnI.mono {w:World} {B B' : Nat} {a:Option Addr} {n:Nat} {f:Nat->Int} (h:OwnI w B a n f) (hB:B'<=B):OwnI w B' a n f:=by
 rcases h with h|⟨g,rfl,hg,hr⟩
 ·exact Or.inl h
 ·exact Or.inr ⟨g,rfl,by omega,hr⟩
theorem OwnI.below {w w' : World} {B:Nat} {a:Option Addr} {n:Nat} {f:Nat->Int} (h:OwnI w B a n f) (hb:Below w.heap.size w w'):OwnI w' B a n f:=by
 rcases h with h|⟨g,rfl,hg,hr⟩
 ·exact Or.inl h
 ·exact Or.inr ⟨g,rfl,hg,hr.of_block (hb.block g hr.lt)⟩

structure OwnTn (w:World) (B g n:Nat) (N:Nat->Tn) (KA DA:Nat->Option Addr) (KC DC:Nat->Nat):Prop where
 le:B<=g
 row:rowIn w g 168 (n*4) (tnCell N KA DA KC DC)
 keys:∀i,i<n->OwnS w B (KA i) (N i).kn (N i).ks
 kids:∀i,i<n->OwnI w B (DA i) (N i).dn (N i).kd
 apartK:∀i j,i<n->j<n->i≠j->(N i).kn≠0->(N j).kn≠0->KA i≠KA j
 apartD:∀i j,i<n->j<n->i≠j->(N i).dn≠0->(N j).dn≠0->DA i≠DA j

theorem OwnTn.rd {w:World} {B g n:Nat} {N:Nat->Tn} {KA DA:Nat->Option Addr} {KC DC:Nat->Nat} (h:OwnTn w B g n N KA DA KC DC):RdTn w (some ⟨g,0,none⟩) n N:=by
 refine Or.inr ⟨g,0,rfl,fun i hi=>⟨KA i,KC i,DA i,DC i,?_,?_,?_,?_,(h.keys i hi).rd,(h.kids i hi).rd⟩⟩
 ·have:=h.row.cell (i:=i*4) (by omega)
  rw [tnCell_0] at this
  simpa using this
 ·have:=h.row.cell (i:=i*4+1) (by omega)
  rw [tnCell_1] at this
  simpa using this
 ·have:=h.row.cell (i:=i*4+2) (by omega)
  rw [tnCell_2] at this
  simpa using this
 ·have:=h.row.cell (i:=i*4+3) (by omega)
  rw [tnCell_3] at this
  simpa using this
end Go.Proofs.YtcnollkkigiobaaGreat
namespace Go.Proofs.YtcnollkkigiobaaGreat

def Ro:Nat->Type
 | 0=>Empty
 | d+1=>Sum (List ByteArray) (List (Ro d))

def nodesR:(d:Nat)->Ro d->Nat
 | 0,t=>t.elim
 | d+1,.inl _=>1
 | d+1,.inr l=>1+(l.map (nodesR d)).sum

def keysR:(d:Nat)->Ro d->List ByteArray
 | 0,t=>t.elim
 | d+1,.inl t=>t
 | d+1,.inr l=>l.flatMap (keysR d)

def BalR:(d:Nat)->Bool->Ro d->Nat->Prop
 | 0,_,t,_=>t.elim
 | d+1,root,.inl t,h=>h=0/\t.length<=4/\(root=true\/2<=t.length)
 | d+1,root,.inr l,h=>2<=l.length/\l.length<=4/\∃h',h=h'+1/\∀t,t∈l->BalR d false t h'

theorem sum_ge {l:List Nat} {k:Nat} (h:∀x,x∈l->k<=x):l.length*k<=l.sum:=by
 induction l with
 | nil=>simp
 | cons x l ih=>
  have h1:=h x (by simp)
  have h2:=ih (fun y hy=>h y (by simp [hy]))
  simp only [List.length_cons,List.sum_cons,Nat.add_mul,Nat.one_mul]
  omega

theorem BalR.nodes:∀{d:Nat} {root:Bool} {t:Ro d} {h:Nat},BalR d root t h->2 ^ h<=nodesR d t
 | 0,root,t,h,hb=>t.elim
 | d+1,root,.inl t,h,hb=>by
  obtain ⟨rfl,_⟩:=hb
  exact Nat.le_refl _
 | d+1,root,.inr l,h,hb=>by
  obtain ⟨h2,_,h',rfl,hall⟩:=hb
  have h1:∀x,x∈l.map (nodesR d)->2 ^ h'<=x:=by
   intro x hx
   obtain ⟨t,ht,rfl⟩:=List.mem_map.1 hx
   exact BalR.nodes (hall t ht)
  have h3:=sum_ge h1
  rw [List.length_map] at h3
  have h4:2*2 ^ h'<=l.length*2 ^ h':=Nat.mul_le_mul_right _ h2
  show 2 ^ (h'+1)<=1+(l.map (nodesR d)).sum
  rw [Nat.pow_succ]
  omega

theorem BalR.low {d:Nat} {root:Bool} {t:Ro d} {h:Nat} (hb:BalR d root t h) (hn:nodesR d t<=5000):h<=12:=by
 rcases Nat.lt_or_ge h 13 with q|q
 ·omega
 ·have h1:=hb.nodes
  have h2:2 ^ 13<=2 ^ h:=Nat.pow_le_pow_right (by decide) q
  have h3:2 ^ 13=8192:=by decide
  omega

def kidsF {T:Type} (f:Nat->Option (T × Nat)) (kd:Nat->Int) (x:Nat):Nat->Option (List T × Nat)
 | 0=>some ([],x)
 | k+1=>match kidsF f kd x k with
  | some (ts,e)=>if kd k=(e:Int) then (match f e with
   | some (t,e')=>some (ts++[t],e')
   | none=>none) else none
  | none=>none

def ksL (x:Tn):List ByteArray:=(List.range x.kn).map x.ks
theorem ksL_length (x:Tn):(ksL x).length=x.kn:=by simp [ksL]
def gt (l:List ByteArray) (i:Nat):ByteArray:=l.getD i { data:=#[] }
theorem gt_ksL (x:Tn) (i:Nat) (h:i<x.kn):gt (ksL x) i=x.ks i:=by
 unfold gt ksL
 simp [List.getD_eq_getElem?_getD,h]

def nestR (N:Nat->Tn) (n:Nat):(d:Nat)->Nat->Option (Ro d × Nat)
 | 0,_=>none
 | d
  + 1,x=>if x<n then
  (if (N x).lf=true then (if (N x).dn=0 then some (.inl (ksL (N x)),x+1) else none)
   else (if (N x).dn=0 then none else (match kidsF (nestR N n d) (N x).kd (x+1) (N x).dn with
   | some (ts,e)=>some (.inr ts,e)
   | none=>none)))
  else none

theorem kidsF_none {T:Type} {f:Nat->Option (T × Nat)} {kd:Nat->Int} {x k m:Nat} (h:kidsF f kd x k=none) (hk:k<=m):kidsF f kd x m=none:=by
 induction m with
 | zero=>
  have e:k=0:=by omega
  subst e
  exact h
 | succ m ih=>
  by_cases e:k=m+1
  ·subst e
   exact h
  ·unfold kidsF
   rw [ih (by omega)]

theorem kidsF_end {T:Type} {f:Nat->Option (T × Nat)} {g:T->Nat} (hf:∀x t e,f x=some (t,e)->e=x+g t) {kd:Nat->Int} {x:Nat}:∀{k:Nat} {ts:List T} {e:Nat},kidsF f kd x k=some (ts,e)->e=x+(ts.map g).sum/\ts.length=k
 | 0,ts,e,h=>by
  simp only [kidsF,Option.some.injEq,Prod.mk.injEq] at h
  obtain ⟨rfl,rfl⟩:=h
  simp
 | k+1,ts,e,h=>by
  unfold kidsF at h
  split at h
  ·rename_i ts1 e1 h1
   obtain ⟨q2,q3⟩:=kidsF_end hf h1
   split at h
   ·split at h
    ·rename_i t e2 h2
     simp only [Option.some.injEq,Prod.mk.injEq] at h
     obtain ⟨rfl,rfl⟩:=h
     have q1:=hf _ _ _ h2
     simp only [List.map_append,List.sum_append,List.length_append,List.map_cons,List.map_nil,List.sum_cons,List.sum_nil,List.length_cons,List.length_nil]
     exact ⟨by omega,by omega⟩
    ·cases h
   ·cases h
  ·cases h

theorem nestR_end {N:Nat->Tn} {n:Nat}:∀{d x:Nat} {t:Ro d} {e:Nat},nestR N n d x=some (t,e)->e=x+nodesR d t
 | 0,x,t,e,h=>t.elim
 | d+1,x,t,e,h=>by
  unfold nestR at h
  split at h
  ·split at h
   ·split at h
    ·injection h with h
     cases h
     rfl
    ·cases h
   ·split at h
    ·cases h
    ·split at h
     ·rename_i ts e1 h1
      injection h with h
      cases h
      have q:=(kidsF_end (g:=nodesR d) (fun x t e hx=>nestR_end hx) h1).1
      show e=x+(1+(ts.map (nodesR d)).sum)
      omega
     ·cases h
  ·cases h

end Go.Proofs.YtcnollkkigiobaaGreat
namespace Go.Proofs.YtcnollkkigiobaaGreat
open Go.RowKit Go.Deep

def KidL {T:Type} (P:T->Value->Prop):List T->List Value->Prop
 | [],[]=>True
 | t::ts,x0::x1::x2::xs=>P t (.agg #[x0,x1,x2])/\KidL P ts xs
 | _,_=>False

theorem KidL.len {T:Type} {P:T->Value->Prop}:∀{ts:List T} {xs:List Value},KidL P ts xs->xs.length=ts.length*3
 | [],[],_=>rfl
 | t::ts,x0::x1::x2::xs,h=>by
  have:=KidL.len h.2
  simp only [List.length_cons]
  omega
 | [],x::xs,h=>h.elim
 | t::ts,[],h=>h.elim
 | t::ts,[x0],h=>h.elim
 | t::ts,[x0,x1],h=>h.elim

theorem KidL.mono {T:Type} {P Q:T->Value->Prop} (hPQ:∀t v,P t v->Q t v):∀{ts:List T} {xs:List Value},KidL P ts xs->KidL Q ts xs
 | [],[],_=>trivial
 | t::ts,x0::x1::x2::xs,h=>⟨hPQ _ _ h.1,KidL.mono hPQ h.2⟩
 | [],x::xs,h=>h.elim
 | t::ts,[],h=>h.elim
 | t::ts,[x0],h=>h.elim
 | t::ts,[x0,x1],h=>h.elim

theorem KidL.app {T:Type} {P:T->Value->Prop} {t:T} {x0 x1 x2:Value} (ht:P t (.agg #[x0,x1,x2])):∀{ts:List T} {xs:List Value},KidL P ts xs->KidL P (ts++[t]) (xs++[x0,x1,x2])
 | [],[],_=>⟨ht,trivial⟩
 | t::ts,x0::x1::x2::xs,h=>⟨h.1,KidL.app ht h.2⟩
 | [],x::xs,h=>h.elim
 | t::ts,[],h=>h.elim
 | t::ts,[x0],h=>h.elim
 | t::ts,[x0,x1],h=>h.elim

theorem KidL.get {T:Type} {P:T->Value->Prop}:∀{ts:List T} {xs:List Value},KidL P ts xs->∀i (h:i<ts.length),∃x0 x1 x2,xs[i*3]?=some x0/\xs[i*3+1]?=some x1/\xs[i*3+2]?=some x2/\P ts[i] (.agg #[x0,x1,x2])
 | [],[],_,i,hi=>absurd hi (Nat.not_lt_zero _)
 | t::ts,x0::x1::x2::xs,h,0,hi=>⟨x0,x1,x2,rfl,rfl,rfl,h.1⟩
 | t::ts,x0::x1::x2::xs,h,i+1,hi=>by
  obtain ⟨y0,y1,y2,h0,h1,h2,h3⟩:=KidL.get h.2 i (by simpa using hi)
  refine ⟨y0,y1,y2,?_,?_,?_,by simpa using h3⟩
  ·rw [show (i+1)*3=i*3+3 by omega];simpa using h0
  ·rw [show (i+1)*3+1=i*3+1+3 by omega];simpa using h1
  ·rw [show (i+1)*3+2=i*3+2+3 by omega];simpa using h2
 | [],x::xs,h,_,_=>h.elim
 | t::ts,[],h,_,_=>h.elim
 | t::ts,[x0],h,_,_=>h.elim
 | t::ts,[x0,x1],h,_,_=>h.elim

def LeafV (K:Option Addr->Nat->Nat->(Nat->ByteArray)->Prop) (t:List ByteArray) (v:Value):Prop:=
 ∃ka kc ca cc,v=.agg #[.bool true,.slice ka t.length kc,.slice ca 0 cc]/\K ka t.length kc (gt t)

def NestAt (K:Option Addr->Nat->Nat->(Nat->ByteArray)->Prop) (S:Nat->Prop) (w:World):(d:Nat)->Ro d->Value->Prop
 | 0,_,_=>False
 | d+1,.inl t,v=>LeafV K t v
 | d+1,.inr l,v=>∃ka kc b cc xs,v=.agg #[.bool false,.slice ka 0 kc,.slice (some ⟨b,0,none⟩) l.length cc]/\(S b/\l.length<=cc/\cc<=9223372036854775807)/\b<w.heap.size/\0<l.length/\(∀j u,xs[j]?=some u->w.cell? ⟨b,j,none⟩=some u)/\KidL (fun t v=>NestAt K S w d t v) l xs

theorem NestAt.mono {K K' : Option Addr->Nat->Nat->(Nat->ByteArray)->Prop} {S S' : Nat->Prop} {w w' : World} (hK:∀a n c X,K a n c X->K' a n c X) (hS:∀b,S b->b<w.heap.size->S' b) (hz:w.heap.size<=w'.heap.size) (hw:∀b j,S b->b<w.heap.size->w'.cell? ⟨b,j,none⟩=w.cell? ⟨b,j,none⟩):∀{d:Nat} {t:Ro d} {v:Value},NestAt K S w d t v->NestAt K' S' w' d t v
 | 0,_,_,h=>h
 | d+1,.inl t,v,h=>by
  obtain ⟨ka,kc,ca,cc,rfl,hk⟩:=h
  exact ⟨ka,kc,ca,cc,rfl,hK _ _ _ _ hk⟩
 | d+1,.inr l,v,h=>by
  obtain ⟨ka,kc,b,cc,xs,rfl,hs,hb,hl,hx,hk⟩:=h
  exact ⟨ka,kc,b,cc,xs,rfl,⟨hS b hs.1 hb,hs.2⟩,by omega,hl,fun j u hj=>by rw [hw b j hs.1 hb];exact hx j u hj,hk.mono (fun t v h=>NestAt.mono hK hS hz hw h)⟩

theorem NestAt.below {K:Option Addr->Nat->Nat->(Nat->ByteArray)->Prop} {S:Nat->Prop} {w w' : World} {d:Nat} {t:Ro d} {v:Value} (h:NestAt K S w d t v) (hb:Below w.heap.size w w'):NestAt K S w' d t v:=
 h.mono (fun _ _ _ _ h=>h) (fun _ h _=>h) hb.size (fun b j _ hlt=>hb.cell (p:=⟨b,j,none⟩) hlt)

theorem NestAt.form {K:Option Addr->Nat->Nat->(Nat->ByteArray)->Prop} {S:Nat->Prop} {w:World}:∀{d:Nat} {t:Ro d} {v:Value},NestAt K S w d t v->∃lf ka kn kc ca cn cc,v=.agg #[.bool lf,.slice ka kn kc,.slice ca cn cc]
 | 0,_,_,h=>h.elim
 | d+1,.inl t,v,h=>by
  obtain ⟨ka,kc,ca,cc,rfl,hk⟩:=h
  exact ⟨_,_,_,_,_,_,_,rfl⟩
 | d+1,.inr l,v,h=>by
  obtain ⟨ka,kc,b,cc,xs,rfl,hs,hb,hl,hx,hk⟩:=h
  exact ⟨_,_,_,_,_,_,_,rfl⟩

def NsAt (w:World) (b o n:Nat) (N:Nat->Tn) (KA DA:Nat->Option Addr) (KC DC:Nat->Nat):Prop:=
 ∀i,i<n->w.cell? ⟨b,o+i*4,none⟩=some (.bool (N i).lf)/\w.cell? ⟨b,o+i*4+1,none⟩=some (.slice (KA i) (N i).kn (KC i))/\
  w.cell? ⟨b,o+i*4+2,none⟩=some (.slice (DA i) (N i).dn (DC i))/\w.cell? ⟨b,o+i*4+3,none⟩=some (.int .i64 (N i).ct)/\Rd .i64 w (DA i) (N i).dn (N i).kd

theorem NsAt.below {w w' : World} {b o n:Nat} {N:Nat->Tn} {KA DA:Nat->Option Addr} {KC DC:Nat->Nat} (h:NsAt w b o n N KA DA KC DC) (hb:Below w.heap.size w w'):NsAt w' b o n N KA DA KC DC:=by
 intro i hi
 obtain ⟨h0,h1,h2,h3,h5⟩:=h i hi
 refine ⟨?_,?_,?_,?_,h5.below hb⟩
 ·rw [hb.cell (World.block_lt_of_cell? _ _ h0)];exact h0
 ·rw [hb.cell (World.block_lt_of_cell? _ _ h1)];exact h1
 ·rw [hb.cell (World.block_lt_of_cell? _ _ h2)];exact h2
 ·rw [hb.cell (World.block_lt_of_cell? _ _ h3)];exact h3

def RetNest {T:Type} (P:World->(Nat->Prop)->T->Value->Prop) (w:World) (r:Option (T × Nat)) (n:Nat) (e:Ending) (w' : World):Prop:=
 Below w.heap.size w w'/\∃lf ka kn kc ca cn cc x ok,e=.returned (.tuple #[.agg #[.bool lf,.slice ka kn kc,.slice ca cn cc],.int .i64 x,.bool ok])/\
  ((ok=false/\r=none)\/(ok=true/\∃t y,r=some (t,y)/\x=(y:Int)/\y<=n/\P w' (fun b=>w.heap.size<=b) t (.agg #[.bool lf,.slice ka kn kc,.slice ca cn cc])))

def Bx (w:World) (b:Nat) (t:TypeId) (cur:Array Value):Prop:=w.heap[b]?=some (.cells cur t (0,0))

namespace Bx
variable {w w' : World} {b:Nat} {t:TypeId} {cur:Array Value}
theorem new (w:World) (cur:Array Value) (t:TypeId):Bx (w.alloc (.cells cur t)) w.heap.size t cur:=blk_alloc_new _ _
theorem lt (h:Bx w b t cur):b<w.heap.size:=(Array.getElem?_eq_some_iff.1 h).1
theorem of_block (h:Bx w b t cur) (e:w'.heap[b]?=w.heap[b]?):Bx w' b t cur:=e.trans h
theorem below (h:Bx w b t cur) (hb:Below w.heap.size w w'):Bx w' b t cur:=h.of_block (hb.block b h.lt)
theorem below' {B:Nat} (h:Bx w b t cur) (hb:Below B w w') (hB:b<B):Bx w' b t cur:=h.of_block (hb.block b hB)
theorem cell (h:Bx w b t cur) (i:Nat):w.cell? ⟨b,i,none⟩=cur[i]?:=by
 unfold Bx at h
 simp [World.cell?,h]
theorem frozen (h:Bx w b t cur) (i:Nat):w.frozen? ⟨b,i,none⟩=false:=by
 unfold Bx at h
 simp [World.frozen?,h]
theorem set (h:Bx w b t cur) (i:Nat) (v:Value):Bx (w.setCell ⟨b,i,none⟩ v) b t (cur.setIfInBounds i v):=by
 unfold Bx at h ⊢
 simp [World.setCell,Array.getElem?_modify,h]
theorem other (h:Bx w b t cur) {p:Addr} (hp:b≠p.block) (v:Value):Bx (w.setCell p v) b t cur:=h.of_block (Below.heap_setCell _ _ _ _ hp)
theorem grown {row:Option Nat} (h:Bx w b t cur) (hg:w.grownBy w' row) (hr:row≠some b):Bx w' b t cur:=h.of_block (hg.block b h.lt (fun e=>hr e.symm))
theorem alloc (h:Bx w b t cur) (o:Obj):Bx (w.alloc o) b t cur:=h.below (below_alloc _ _)
theorem drew (h:Bx w b t cur):Bx w.drew b t cur:=h
end Bx

theorem own_lt {w:World} {base:Nat} {e:TypeId} {size:Nat} {v:Value} {n:Nat} {xs:List Value} (h:w.ownsRow base e size v n xs):∀g,v.ownBlock=some g->base<=g/\g<w.heap.size:=by
 intro g hg
 rcases h.2 with ⟨rfl,_⟩|⟨g',cap,cur,rfl,hb,hh,_⟩
 ·simp [Value.ownBlock] at hg
 ·simp [Value.ownBlock] at hg
  subst hg
  exact ⟨hb,(Array.getElem?_eq_some_iff.1 hh).1⟩
theorem own_form {w:World} {base:Nat} {e:TypeId} {size:Nat} {v:Value} {n:Nat} {xs:List Value} (h:w.ownsRow base e size v n xs):∃a c,v=.slice a n c/\(n≠0->∃g,a=some ⟨g,0,none⟩/\base<=g/\g<w.heap.size/\∀j u,xs[j]?=some u->w.cell? ⟨g,j,none⟩=some u):=by
 rcases h.2 with ⟨rfl,rfl⟩|⟨g',cap,cur,rfl,hb,hh,h1,h2,h3,h4⟩
 ·exact ⟨none,0,rfl,fun h=>absurd rfl h⟩
 ·refine ⟨_,_,rfl,fun _=>⟨g',rfl,hb,(Array.getElem?_eq_some_iff.1 hh).1,fun j u hj=>?_⟩⟩
  rw [<- h4,List.getElem?_take] at hj
  split at hj
  ·simp only [World.cell?,hh]
   simpa using hj
  ·cases hj
theorem own_below {w w' : World} {base:Nat} {e:TypeId} {size:Nat} {v:Value} {n:Nat} {xs:List Value} (h:w.ownsRow base e size v n xs) (hb:Below w.heap.size w w'):w'.ownsRow base e size v n xs:=
 h.kept (w':=w') (row:=none) ⟨hb.os,hb.tape,hb.output,hb.size,fun k hk _=>hb.block k hk⟩ (by cases hv:v.ownBlock <;> simp)
theorem own_cap {w:World} {base:Nat} {e:TypeId} {size:Nat} {a:Option Addr} {n c:Nat} {xs:List Value} (h:w.ownsRow base e size (.slice a n c) n xs):n<=c/\c<=9223372036854775807:=by
 rcases h.2 with ⟨q,rfl⟩|⟨g,cap,cur,q,_,_,h1,h2,_⟩
 ·injection q with _ _ q
  omega
 ·injection q with _ _ q
  unfold maxLen at h2
  omega

theorem Tryz.info9 : (Tryz.prog.info? 9).map (fun i=>(i.zero,i.size,i.bytes))=some (some (.string { data:=#[] }),1,16):=by kernel_rfl
theorem Tryz.info2 : (Tryz.prog.info? 2).map (fun i=>(i.zero,i.size,i.bytes))=some (some (.int .i64 0),1,8):=by kernel_rfl
theorem Tryz.info168 : (Tryz.prog.info? 168).map (fun i=>(i.zero,i.size,i.bytes))=some (some (.agg #[.bool false,.slice none 0 0,.slice none 0 0,.int .i64 0]),4,64):=by kernel_rfl

set_option maxHeartbeats 1000000 in
theorem toStringS_any (a:Option Addr) (len cap:Nat) (f:Nat->ByteArray) (w:World) (h:RdS w a len f) (hm:len<=1048576) :
  Calls Tryz.prog 152 #[.slice a len cap] w fun e w'=>e=.returned (.slice (some ⟨w.heap.size,0,none⟩) len len)/\
   w'.rowIs w.heap.size 9 len (fun i=>.string (f i))/\Below w.heap.size w w'/\w'.heap.size=w.heap.size+1:=by
 have hmk:=run_make_row' (P:=Tryz.prog) 88 9 (.string { data:=#[] }) 16 Tryz.underlying88 Tryz.info9 rfl .i64 .i64 len (by omega) (by omega)
 have hbel:Below w.heap.size w (w.alloc (.cells (madeCells #[.string { data:=#[] }] len) 9)):=(Below.refl _ _).alloc (Nat.le_refl _) _
 have hrow:=(World.rowIs_made w (.string { data:=#[] }) len 9).congr (g:=fun j=>if j<0 then .string (f j) else .string { data:=#[] }) (fun j _=>by simp)
 have HS:Hid (Below w.heap.size w (w.alloc (.cells (madeCells #[.string { data:=#[] }] len) 9))/\(w.alloc (.cells (madeCells #[.string { data:=#[] }] len) 9)).rowIs w.heap.size 9 len (fun j=>if j<0 then .string (f j) else .string { data:=#[] })):=⟨hbel,hrow⟩
 clear hbel hrow
 go_enter Tryz.func152,Tryz.ntmps152
 go_wp2
 go_loopw [4] (fun i wr=>∃k:Nat,k<=len/\i=.int .i64 k/\wr.rowIs w.heap.size 9 len (fun j=>if j<k then .string (f j) else .string { data:=#[] })/\Below w.heap.size w wr/\wr.heap.size=w.heap.size+1) (fun i _=>len-(intOf i).toNat)
 case atStart=>exact ⟨0,Nat.zero_le _,rfl,HS.out.2,HS.out.1,by simp⟩
 case round=>
  obtain ⟨k,hk,rfl,hrow,hbel,hsz⟩:=hrel
  clear HS
  by_cases hlt:k<len
  ·have hne:¬ len=0:=by omega
   rcases h with h|⟨b,o,rfl,hc⟩
   ·exact absurd h hne
   have hb:b<w.heap.size:=World.block_lt_of_cell? _ _ (hc k hlt)
   have hcx:wr.cell? ⟨b,o+k,none⟩=some (.string (f k)):=(hbel.cell (p:=⟨b,o+k,none⟩) hb).trans (hc k hlt)
   have hcy:=hrow.cell hlt
   simp only [Nat.lt_irrefl,if_false] at hcy
   have hfy:=hrow.frozen k
   have HX:Hid ((wr.setCell ⟨w.heap.size,k,none⟩ (.string (f k))).rowIs w.heap.size 9 len (fun j=>if j<k+1 then .string (f j) else .string { data:=#[] })/\Below w.heap.size w (wr.setCell ⟨w.heap.size,k,none⟩ (.string (f k)))/\(wr.setCell ⟨w.heap.size,k,none⟩ (.string (f k))).heap.size=w.heap.size+1):=
    ⟨rowCopy (f:=fun j=>.string (f j)) hrow,hbel.setCell (Nat.le_refl _) _,by simpa using hsz⟩
   clear hrow hbel hc hsz hmk
   go_wp2
   go_roundw
   case rel=>exact ⟨k+1,by omega,by go_num,HX.out⟩
   case measure=>simp [intOf];omega
  ·have e:k=len:=by omega
   subst e
   clear hmk
   go_wp2
   go_ret
   exact ⟨rfl,hrow.congr (fun i hi=>by simp [hi]),hbel,hsz⟩

set_option maxHeartbeats 1000000 in
theorem toInt64S_any (a:Option Addr) (len cap:Nat) (f:Nat->Int) (w:World) (h:Rd .i64 w a len f) (hm:len<=1048576) :
  Calls Tryz.prog 153 #[.slice a len cap] w fun e w'=>e=.returned (.slice (some ⟨w.heap.size,0,none⟩) len len)/\
   w'.rowIs w.heap.size 2 len (fun i=>.int .i64 (f i))/\Below w.heap.size w w'/\w'.heap.size=w.heap.size+1:=by
 have hmk:=run_make_row' (P:=Tryz.prog) 151 2 (.int .i64 0) 8 Tryz.underlying151 Tryz.info2 rfl .i64 .i64 len (by omega) (by omega)
 have hbel:Below w.heap.size w (w.alloc (.cells (madeCells #[.int .i64 0] len) 2)):=(Below.refl _ _).alloc (Nat.le_refl _) _
 have hrow:=(World.rowIs_made w (.int .i64 0) len 2).congr (g:=fun j=>if j<0 then .int .i64 (f j) else .int .i64 0) (fun j _=>by simp)
 have HS:Hid (Below w.heap.size w (w.alloc (.cells (madeCells #[.int .i64 0] len) 2))/\(w.alloc (.cells (madeCells #[.int .i64 0] len) 2)).rowIs w.heap.size 2 len (fun j=>if j<0 then .int .i64 (f j) else .int .i64 0)):=⟨hbel,hrow⟩
 clear hbel hrow
 go_enter Tryz.func153,Tryz.ntmps153
 go_wp2
 go_loopw [4] (fun i wr=>∃k:Nat,k<=len/\i=.int .i64 k/\wr.rowIs w.heap.size 2 len (fun j=>if j<k then .int .i64 (f j) else .int .i64 0)/\Below w.heap.size w wr/\wr.heap.size=w.heap.size+1) (fun i _=>len-(intOf i).toNat)
 case atStart=>exact ⟨0,Nat.zero_le _,rfl,HS.out.2,HS.out.1,by simp⟩
 case round=>
  obtain ⟨k,hk,rfl,hrow,hbel,hsz⟩:=hrel
  clear HS
  by_cases hlt:k<len
  ·have hne:¬ len=0:=by omega
   rcases h with h|⟨b,o,rfl,hc⟩
   ·exact absurd h hne
   have hb:b<w.heap.size:=World.block_lt_of_cell? _ _ (hc k hlt)
   have hcx:wr.cell? ⟨b,o+k,none⟩=some (.int .i64 (f k)):=(hbel.cell (p:=⟨b,o+k,none⟩) hb).trans (hc k hlt)
   have hcy:=hrow.cell hlt
   simp only [Nat.lt_irrefl,if_false] at hcy
   have hfy:=hrow.frozen k
   have HX:Hid ((wr.setCell ⟨w.heap.size,k,none⟩ (.int .i64 (f k))).rowIs w.heap.size 2 len (fun j=>if j<k+1 then .int .i64 (f j) else .int .i64 0)/\Below w.heap.size w (wr.setCell ⟨w.heap.size,k,none⟩ (.int .i64 (f k)))/\(wr.setCell ⟨w.heap.size,k,none⟩ (.int .i64 (f k))).heap.size=w.heap.size+1):=
    ⟨rowCopy (f:=fun j=>.int .i64 (f j)) hrow,hbel.setCell (Nat.le_refl _) _,by simpa using hsz⟩
   clear hrow hbel hc hsz hmk
   go_wp2
   go_roundw
   case rel=>exact ⟨k+1,by omega,by go_num,HX.out⟩
   case measure=>simp [intOf];omega
  ·have e:k=len:=by omega
   subst e
   clear hmk
   go_wp2
   go_ret
   exact ⟨rfl,hrow.congr (fun i hi=>by simp [hi]),hbel,hsz⟩

abbrev KR (w:World) (a:Option Addr) (n _c:Nat) (X:Nat->ByteArray):Prop:=RdS w a n X
def NA (w:World) (d:Nat) (t:Ro d) (v:Value):Prop:=NestAt (KR w) (fun _=>True) w d t v
def NAC (C:Nat->Nat->Prop) (w:World) (d:Nat) (t:Ro d) (v:Value):Prop:=NestAt (fun a n c X=>RdS w a n X/\C n c) (fun _=>True) w d t v
theorem NAC.na {C:Nat->Nat->Prop} {w:World} {d:Nat} {t:Ro d} {v:Value} (h:NAC C w d t v):NA w d t v:=
 NestAt.mono (fun _ _ _ _ q=>q.1) (fun _ q _=>q) (Nat.le_refl _) (fun _ _ _ _=>rfl) h
theorem NAC.below {C:Nat->Nat->Prop} {w w' : World} {d:Nat} {t:Ro d} {v:Value} (h:NAC C w d t v) (hb:Below w.heap.size w w'):NAC C w' d t v:=
 NestAt.mono (fun _ _ _ _ q=>⟨q.1.below hb,q.2⟩) (fun _ q _=>q) hb.size (fun b j _ hlt=>hb.cell (p:=⟨b,j,none⟩) hlt) h

theorem NA.below {w w' : World} {d:Nat} {t:Ro d} {v:Value} (h:NA w d t v) (hb:Below w.heap.size w w'):NA w' d t v:=
 NestAt.mono (fun _ _ _ _ q=>q.below hb) (fun _ q _=>q) hb.size (fun b j _ hlt=>hb.cell (p:=⟨b,j,none⟩) hlt) h

def strL (L:List ByteArray):List Value:=L.map .string
theorem strL_length (L:List ByteArray):(strL L).length=L.length:=by simp [strL]
theorem strL_app (L M:List ByteArray):strL (L++M)=strL L++strL M:=by simp [strL]
theorem strL_row (L:List ByteArray):strL L=strRow (gt L) L.length:=by
 apply List.ext_getElem?
 intro i
 by_cases h:i<L.length
 ·rw [strRow_get _ _ _ h]
  simp [strL,gt,List.getD_eq_getElem?_getD,h]
 ·have h1:(strL L)[i]?=none:=List.getElem?_eq_none (by rw [strL_length];omega)
  have h2:(strRow (gt L) L.length)[i]?=none:=List.getElem?_eq_none (by rw [strRow_length];omega)
  rw [h1,h2]

theorem wpList_append_strs {w:World} {ops:Array Oper} {rest:List Oper} {o:Oper} {act:Act} {Q:Exit->Act->World->Prop} (hgd:o.guard=none) (s x:Operand)
  (ho:o.op=.call { callee:=.builtin .append,args:=#[s,x],argTypes:=#[88,88] })
  (B:Nat) (v:Value) (n:Nat) (xs:List Value) (hs:act.eval s=v) (hown:w.ownsRow B 9 1 v n xs)
  (a:Option Addr) (m c:Nat) (L:List ByteArray) (hx:act.eval x=.slice a m c) (hm:m=L.length) (hrd:RdS w a m (gt L)) (hnm:n+m<=1099511627776) (hB:B<=w.heap.size)
  (h:∀v' w',w'.ownsRow B 9 1 v' (n+m) (xs++strL L)->w.grownBy w' v.ownBlock->(v'.ownBlock=v.ownBlock\/v'.ownBlock=some w.heap.size)->wpList Tryz.prog ops Q rest (act.put o.dst v') w'):wpList Tryz.prog ops Q (o::rest) act w:=by
 obtain ⟨i0,hi,hz0,hz1,hz2⟩:=info_parts Tryz.info9
 by_cases hm0:m=0
 ·subst hm0
  have hL:L=[]:=List.length_eq_zero_iff.1 hm.symm
  subst hL
  have hsrc:Src Tryz.prog i0.size 88 (.slice a 0 c) 0 [] w:=by
   cases a with
   | none=>exact Src.ofNil w Tryz.underlying88 c
   | some ad=>exact Src.ofSlice w Tryz.underlying88 ad 0 c [] (by simp) (by simp) (by simp)
  have hsh:∃b l cap,v=.slice b l cap/\l<=cap:=by
   rcases hown.2 with ⟨rfl,rfl⟩|⟨g,cap,cur,rfl,_,_,h1,_⟩
   ·exact ⟨none,0,0,rfl,Nat.le_refl _⟩
   ·exact ⟨_,n,cap,rfl,h1⟩
  obtain ⟨b,l,cap,hvv,hlc⟩:=hsh
  have hrun:=run_append_nothing (P:=Tryz.prog) w 88 88 o.type 9 i0 Tryz.underlying88 hi b l cap hlc (.slice a 0 c) hsrc
  rw [<- hvv] at hrun
  refine wpList_plain hgd fun K hK=>?_
  unfold Oper.wp
  simp [execOp,ho,resolve,invoke,builtin,hs,hx,hrun,Result.andThen]
  exact hK _ _ (h v w (by simpa [strL] using hown) ⟨rfl,rfl,rfl,Nat.le_refl _,fun _ _ _=>rfl⟩ (Or.inl rfl))
 ·rcases hrd with h0|⟨b,off,rfl,hc⟩
  ·exact absurd h0 hm0
  ·refine wpList_append_own_at w hgd s x 88 ho B 9 i0 (.string { data:=#[] }) 1 16 Tryz.underlying88 hi hz0 hz1 hz2 rfl (by decide) v n xs hs hown ⟨b,off,none⟩ m c (strL L) hx (by rw [strL_length];omega) (fun j u hj=>?_) (fun u hu=>?_) (by unfold maxLen;omega) (by omega) hB (fun v' w' h1 h2 _ h4=>h v' w' h1 h2 h4)
   ·have hjm:j<m:=by
     have:=(List.getElem?_eq_some_iff.1 hj).1
     rw [strL_length] at this
     omega
    rw [strL_row,<- hm,strRow_get _ _ _ hjm] at hj
    injection hj with hj
    subst hj
    have e:(Addr.add ⟨b,off,none⟩ j)=⟨b,off+j,none⟩:=by
     unfold Addr.add
     by_cases h:j=0
     ·subst h;simp
     ·simp [h]
    rw [e]
    exact hc j hjm
   ·simp only [strL,List.mem_map] at hu
    obtain ⟨i,_,rfl⟩:=hu
    rfl

def RetStrs (w:World) (L:List ByteArray) (e:Ending) (w' : World):Prop:=
 ∃a c,e=.returned (.slice a L.length c)/\OwnS w' w.heap.size a L.length (gt L)/\Below w.heap.size w w'/\L.length<=c/\c<=9223372036854775807

set_option maxHeartbeats 400000 in
theorem size_any (lf:Bool) (ka ca:Option Addr) (kn kc cn cc:Nat) (w:World):Calls Tryz.prog 122 #[.agg #[.bool lf,.slice ka kn kc,.slice ca cn cc]] w fun e w'=>e=.returned (.int .i64 (if lf=true then (kn:Int) else (cn:Int)))/\Below w.heap.size w w':=by
 cases lf with
 | true=>
  go_enter Tryz.func122,Tryz.ntmps122
  go_wp2
  go_ret
  exact ⟨rfl,below_alloc _ _⟩
 | false=>
  go_enter Tryz.func122,Tryz.ntmps122
  go_wp2
  go_ret
  exact ⟨rfl,below_alloc _ _⟩

theorem own_empty (W:World) (t:TypeId) (B size:Nat) (hB:B<=W.heap.size):(W.alloc (.cells #[] t)).ownsRow B t size (.slice (some ⟨W.heap.size,0,none⟩) 0 0) 0 []:=
 ⟨by simp,Or.inr ⟨W.heap.size,0,#[],rfl,hB,blk_alloc_new _ _,Nat.le_refl _,Nat.zero_le _,by simp,by simp⟩⟩

theorem ownS_strL {w:World} {B:Nat} {v:Value} {n:Nat} {L:List ByteArray} (h:w.ownsRow B 9 1 v n (strL L)) (hn:n=L.length):∃a c,v=.slice a n c/\OwnS w B a L.length (gt L)/\n<=c/\c<=9223372036854775807:=by
 subst hn
 rw [strL_row] at h
 exact ownS_ofRow h

theorem kid_at {K:Option Addr->Nat->Nat->(Nat->ByteArray)->Prop} {S:Nat->Prop} {w:World} {d b:Nat} {l:List (Ro d)} {xs:List Value} (hx:∀j u,xs[j]?=some u->w.cell? ⟨b,j,none⟩=some u) (hk:KidL (fun t v=>NestAt K S w d t v) l xs) (k:Nat) (h:k<l.length) :
  ∃lf ka kn kc ca cn cc,w.cell? ⟨b,k*3,none⟩=some (.bool lf)/\w.cell? ⟨b,k*3+1,none⟩=some (.slice ka kn kc)/\w.cell? ⟨b,k*3+2,none⟩=some (.slice ca cn cc)/\NestAt K S w d l[k] (.agg #[.bool lf,.slice ka kn kc,.slice ca cn cc]):=by
 obtain ⟨x0,x1,x2,h0,h1,h2,h3⟩:=hk.get k h
 obtain ⟨lf,ka,kn,kc,ca,cn,cc,e⟩:=h3.form
 injection e with e
 simp at e
 obtain ⟨rfl,rfl,rfl⟩:=e
 exact ⟨lf,ka,kn,kc,ca,cn,cc,hx _ _ h0,hx _ _ h1,hx _ _ h2,h3⟩

theorem flat_take {T:Type} (f:T->List ByteArray) (l:List T) (k:Nat) (h:k<l.length):(l.take (k+1)).flatMap f=(l.take k).flatMap f++f l[k]:=by
 rw [<- List.take_append_getElem h,List.flatMap_append]
 simp
theorem flat_take_le {T:Type} (f:T->List ByteArray) (l:List T) (k:Nat):((l.take k).flatMap f).length<=(l.flatMap f).length:=by
 conv=>rhs;rw [<- List.take_append_drop k l]
 rw [List.flatMap_append,List.length_append]
 omega

theorem nodes_pos:∀(d:Nat) (t:Ro d),1<=nodesR d t
 | 0,t=>t.elim
 | d+1,.inl _=>Nat.le_refl _
 | d+1,.inr l=>by
  show 1<=1+(l.map (nodesR d)).sum
  omega
theorem kids_le (d:Nat) (l:List (Ro d)):l.length+1<=nodesR (d+1) (.inr l):=by
 have h:=sum_ge (l:=l.map (nodesR d)) (k:=1) (fun x hx=>by
  obtain ⟨t,_,rfl⟩:=List.mem_map.1 hx
  exact nodes_pos d t)
 rw [List.length_map] at h
 show l.length+1<=1+(l.map (nodesR d)).sum
 omega
theorem sum_mem {l:List Nat} {x:Nat} (h:x∈l):x<=l.sum:=by
 induction l with
 | nil=>cases h
 | cons y l ih=>
  rw [List.sum_cons]
  rcases List.mem_cons.1 h with rfl|h
  ·omega
  ·have:=ih h
   omega
theorem kid_le (d:Nat) (l:List (Ro d)) (k:Nat) (h:k<l.length):nodesR d l[k]+1<=nodesR (d+1) (.inr l):=by
 have h1:=sum_mem (l:=l.map (nodesR d)) (x:=nodesR d l[k]) (List.mem_map.2 ⟨_,List.getElem_mem h,rfl⟩)
 show nodesR d l[k]+1<=1+(l.map (nodesR d)).sum
 omega

set_option maxHeartbeats 2000000 in
theorem keys_any6:∀(d:Nat) (t:Ro d) (v:Value) (w:World),NA w d t v->nodesR d t<=6000->(keysR d t).length<=1099511627776->Calls Tryz.prog 58 #[v] w (RetStrs w (keysR d t)):=by
 intro d
 induction d with
 | zero=>intro t;exact t.elim
 | succ d ih=>
  intro t v w hv hnod hlen
  rcases t with t|l
  ·obtain ⟨ka,kc,ca,cc,rfl,hk⟩:=hv
   have HO:Hid (∀O:Obj,((w.alloc O).alloc (.cells #[] 9)).ownsRow (w.heap.size+1) 9 1 (.slice (some ⟨w.heap.size+1,0,none⟩) 0 0) 0 []):=fun O=>by simpa using own_empty (w.alloc O) 9 (w.heap.size+1) 1 (by simp)
   have hl:t.length<=1099511627776:=hlen
   clear hlen
   obtain ⟨m,hm⟩:∃m,m=t.length:=⟨_,rfl⟩
   rw [<- hm] at hk hl ⊢
   have HK:Hid (RdS w ka m (gt t)):=hk
   have HM:Hid (m=t.length):=hm
   clear hk ih hm
   go_enter Tryz.func58,Tryz.ntmps58
   go_wp2_with (at_builtin;refine wpList_append_strs rfl _ _ rfl (w.heap.size+1) (.slice (some ⟨w.heap.size+1,0,none⟩) 0 0) 0 [] rfl (HO.out _) ka m kc t rfl HM.out (HK.out.below ((below_alloc _ _).alloc (by simp) _)) (by omega) (by simp) ?_)
   intro v' w' ho hg hat
   have HB:Hid (Below w.heap.size w w'):=(((below_alloc _ _).alloc (by simp) _).grown hg (by simp;omega) (fun k e=>by simp [Value.ownBlock] at e;omega))
   obtain ⟨a',c',rfl,h1,h2,h3⟩:=ownS_strL (L:=t) ho HM.out
   have HE:Hid (OwnS w' (w.heap.size+1) a' t.length (gt t)):=h1
   clear ho hg h1
   go_wp2
   go_ret
   refine ⟨a',c',by rw [<- show m=(keysR (d+1) (Sum.inl t)).length from HM.out];rfl,HE.out.mono (by omega),HB.out,?_,h3⟩
   rw [<- show m=(keysR (d+1) (Sum.inl t)).length from HM.out]
   exact h2
  ·obtain ⟨ka,kc,b,cc,xs,rfl,_,hb,hl0,hx,hk⟩:=hv
   have HX:Hid ((∀j u,xs[j]?=some u->w.cell? ⟨b,j,none⟩=some u)/\KidL (fun t v=>NestAt (KR w) (fun _=>True) w d t v) l xs):=⟨hx,hk⟩
   have HKid:Hid (∀W:World,Below w.heap.size w W->∀k (h:k<l.length),∃lf ka kn kc ca cn cc,W.cell? ⟨b,k*3,none⟩=some (.bool lf)/\W.cell? ⟨b,k*3+1,none⟩=some (.slice ka kn kc)/\W.cell? ⟨b,k*3+2,none⟩=some (.slice ca cn cc)/\NA W d l[k] (.agg #[.bool lf,.slice ka kn kc,.slice ca cn cc])):=by
    intro W hW k h
    obtain ⟨lf,ka,kn,kc,ca,cn,cc,h0,h1,h2,h3⟩:=kid_at hx hk k h
    exact ⟨lf,ka,kn,kc,ca,cn,cc,(hW.cell (p:=⟨b,_,none⟩) hb).trans h0,(hW.cell (p:=⟨b,_,none⟩) hb).trans h1,(hW.cell (p:=⟨b,_,none⟩) hb).trans h2,NA.below h3 hW⟩
   have HLen:Hid ((l.flatMap (keysR d)).length<=1099511627776):=hlen
   have HIH:Hid (∀(t:Ro d) (v:Value) (w:World),NA w d t v->nodesR d t<=6000->(keysR d t).length<=1099511627776->Calls Tryz.prog 58 #[v] w (RetStrs w (keysR d t))):=ih
   have hl63:l.length<=6000:=by have:=kids_le d l;omega
   have HNod:Hid (∀k (h:k<l.length),nodesR d l[k]<=6000):=fun k h=>by have:=kid_le d l k h;omega
   clear hnod
   clear hx hk hlen ih
   obtain ⟨ln,hln⟩:∃ln,ln=l.length:=⟨_,rfl⟩
   rw [<- hln] at hl0 hl63 ⊢
   have HLn:Hid (ln=l.length):=hln
   clear hln
   go_enter Tryz.func58,Tryz.ntmps58
   go_upto_region 4 with fail
   have S1:Hid (Bx ((w.alloc (.cells #[.bool false,.slice ka 0 kc,.slice (some ⟨b,0,none⟩) ln cc] 91)).alloc (.cells #[] 9)) w.heap.size 91 #[.bool false,.slice ka 0 kc,.slice (some ⟨b,0,none⟩) ln cc]/\((w.alloc (.cells #[.bool false,.slice ka 0 kc,.slice (some ⟨b,0,none⟩) ln cc] 91)).alloc (.cells #[] 9)).ownsRow (w.heap.size+1) 9 1 (.slice (some ⟨w.heap.size+1,0,none⟩) 0 0) 0 []/\Below w.heap.size w ((w.alloc (.cells #[.bool false,.slice ka 0 kc,.slice (some ⟨b,0,none⟩) ln cc] 91)).alloc (.cells #[] 9))):=
    ⟨(Bx.new _ _ _).alloc _,by simpa using own_empty (w.alloc (.cells #[.bool false,.slice ka 0 kc,.slice (some ⟨b,0,none⟩) ln cc] 91)) 9 (w.heap.size+1) 1 (by simp),(below_alloc _ _).alloc (by simp) _⟩
   generalize ((w.alloc (.cells #[.bool false,.slice ka 0 kc,.slice (some ⟨b,0,none⟩) ln cc] 91)).alloc (.cells #[] 9))=W at S1 ⊢
   go_wp2
   go_loopw [3,4] (fun q i wr=>∃k nk:Nat,k<=ln/\i=.int .i64 k/\nk=((l.take k).flatMap (keysR d)).length/\Bx wr w.heap.size 91 #[.bool false,.slice ka 0 kc,.slice (some ⟨b,0,none⟩) ln cc]/\wr.ownsRow (w.heap.size+1) 9 1 q nk (strL ((l.take k).flatMap (keysR d)))/\Below w.heap.size w wr) (fun _ i _=>ln-(intOf i).toNat)
   case atStart=>exact ⟨0,0,Nat.zero_le _,rfl,by simp,S1.out.1,S1.out.2.1,S1.out.2.2⟩
   case round=>
    obtain ⟨k,nk,hk,rfl,hnk,hbx,hown,hbel⟩:=hrel
    clear S1
    obtain ⟨qa,qc,rfl,_⟩:=own_form hown
    have HST:Hid (Bx wr w.heap.size 91 #[.bool false,.slice ka 0 kc,.slice (some ⟨b,0,none⟩) ln cc]/\wr.ownsRow (w.heap.size+1) 9 1 (.slice qa nk qc) nk (strL ((l.take k).flatMap (keysR d)))/\Below w.heap.size w wr):=⟨hbx,hown,hbel⟩
    have HNK:Hid (nk=((l.take k).flatMap (keysR d)).length):=hnk
    have hnl:nk<=1099511627776:=by have:=flat_take_le (keysR d) l k;have:=HLen.out;omega
    have y2:=hbx.cell 2
    simp at y2
    have hz:=hbx.lt
    clear hbx hown hbel hnk
    by_cases hlt:k<ln
    ·have hlk:k<l.length:=by rw [<- HLn.out];exact hlt
     obtain ⟨lf1,ka1,kn1,kc1,ca1,cn1,cc1,c0,c1,c2,hna⟩:=HKid.out wr HST.out.2.2 k hlk
     have HNA:Hid (NA wr d l[k] (.agg #[.bool lf1,.slice ka1 kn1 kc1,.slice ca1 cn1 cc1])):=hna
     have e12:=flat_take (keysR d) l k hlk
     have HKL:Hid (nk+(keysR d l[k]).length<=1099511627776):=by
      have h1:=flat_take_le (keysR d) l (k+1)
      rw [e12,List.length_append,<- HNK.out] at h1
      have:=HLen.out
      show nk+(keysR d l[k]).length<=1099511627776
      omega
     have hk0:(0:Int)<=(k:Int):=by omega
     have hkn:(k:Int)<(ln:Int):=by omega
     clear hna
     go_wp2_with fail
     refine (HIH.out l[k] _ _ HNA.out (HNod.out k hlk) (by have:=HKL.out;omega)).mono ?_
     rintro e w2 ⟨a2,cz2,he,ho2,hb2,hcc1,hcc2⟩
     have HM:Hid (((l.take (k+1)).flatMap (keysR d))=((l.take k).flatMap (keysR d))++keysR d l[k]):=e12
     have HL2:Hid (RdS w2 a2 (keysR d l[k]).length (gt (keysR d l[k]))):=ho2.rd
     clear ho2 e12 HNA
     generalize hLk:keysR d l[k]=L2 at*
     obtain ⟨n2,hn2⟩:∃n2,n2=L2.length:=⟨_,rfl⟩
     rw [<- hn2] at he
     subst he
     have HN2:Hid (n2=L2.length/\nk+n2<=1099511627776):=⟨hn2,by rw [hn2];exact HKL.out⟩
     have HS2:Hid (Bx w2 w.heap.size 91 #[.bool false,.slice ka 0 kc,.slice (some ⟨b,0,none⟩) ln cc]/\w2.ownsRow (w.heap.size+1) 9 1 (.slice qa nk qc) nk (strL ((l.take k).flatMap (keysR d)))/\Below w.heap.size w w2):=⟨HST.out.1.below hb2,own_below HST.out.2.1 hb2,HST.out.2.2.trans (hb2.mono HST.out.2.2.size)⟩
     clear hn2 hLk HKL HST hb2 c0 c1 c2 y2
     have hz2:=HS2.out.1.lt
     go_wp2_with (at_builtin;refine wpList_append_strs rfl _ _ rfl (w.heap.size+1) (.slice qa nk qc) nk _ rfl HS2.out.2.1 a2 n2 cz2 L2 rfl HN2.out.1 (by rw [HN2.out.1];exact HL2.out) HN2.out.2 (by omega) ?_)
     intro v' w5 ho hg hat
     have HG:Hid (Bx w5 w.heap.size 91 #[.bool false,.slice ka 0 kc,.slice (some ⟨b,0,none⟩) ln cc]/\w5.ownsRow (w.heap.size+1) 9 1 v' (nk+n2) (strL ((l.take (k+1)).flatMap (keysR d)))/\Below w.heap.size w w5):=by
      refine ⟨HS2.out.1.grown hg (fun e=>by have:=own_lt HS2.out.2.1 _ e;omega),?_,HS2.out.2.2.grown hg (by omega) (fun g e=>by have:=own_lt HS2.out.2.1 _ e;omega)⟩
      rw [HM.out,strL_app]
      exact ho
     obtain ⟨va,vc,rfl,_⟩:=own_form ho
     clear ho hg hat HS2
     go_wp2
     go_roundw
     case rel=>exact ⟨k+1,nk+n2,by omega,by go_num,by rw [HM.out,List.length_append,<- HNK.out,<- HN2.out.1],HG.out.1,HG.out.2.1,HG.out.2.2⟩
     case measure=>simp [intOf];omega
    ·have e:k=ln:=by omega
     subst e
     have HEq:Hid ((l.take k).flatMap (keysR d)=l.flatMap (keysR d)):=by
      show (l.take k).flatMap (keysR d)=l.flatMap (keysR d)
      rw [HLn.out,List.take_length]
     go_wp2
     go_ret
     obtain ⟨a',c',e',h1,h2,h3⟩:=ownS_strL HST.out.2.1 HNK.out
     injection e' with e1 _ e2
     subst e1
     subst e2
     rw [HEq.out] at h1
     refine ⟨qa,qc,?_,h1.mono (by omega),HST.out.2.2,?_,h3⟩
     ·show Ending.returned (.slice qa nk qc)=Ending.returned (.slice qa (l.flatMap (keysR d)).length qc)
      rw [<- HEq.out,<- HNK.out]
     ·show (l.flatMap (keysR d)).length<=qc
      rw [<- HEq.out,<- HNK.out]
      exact h2
theorem keys_any:∀(d:Nat) (t:Ro d) (v:Value) (w:World),NA w d t v->nodesR d t<=5000->(keysR d t).length<=1099511627776->Calls Tryz.prog 58 #[v] w (RetStrs w (keysR d t)):=fun d t v w h hn=>keys_any6 d t v w h (by omega)

def TnBig (x:Tn):Prop:=x.kn<=maxLen/\x.dn<=maxLen/\∀j,j<x.kn->(x.ks j).size<=maxLen
def TnFit (x:Tn):Prop:=x.kn<=1048576/\x.dn<=1048576


set_option maxHeartbeats 1000000 in
theorem toTNode_any (x:Tn) (ka da:Option Addr) (kc dc:Nat) (w:World) (hk:RdS w ka x.kn x.ks) (hd:Rd .i64 w da x.dn x.kd) (hf:TnFit x) :
  Calls Tryz.prog 132 #[.agg #[.bool x.lf,.slice ka x.kn kc,.slice da x.dn dc,.int .i64 x.ct]] w fun e w'=>∃gk gd,e=.returned (.agg #[.bool x.lf,.slice (some ⟨gk,0,none⟩) x.kn x.kn,.slice (some ⟨gd,0,none⟩) x.dn x.dn,.int .i64 x.ct])/\
   w.heap.size<=gk/\w.heap.size<=gd/\rowIn w' gk 9 x.kn (fun i=>.string (x.ks i))/\rowIn w' gd 2 x.dn (fun i=>.int .i64 (x.kd i))/\Below w.heap.size w w':=by
 obtain ⟨hf1,hf2⟩:=hf
 have hbel:∀o1 o2 o3,Below w.heap.size w (((w.alloc o1).alloc o2).alloc o3):=fun o1 o2 o3=>(((below_alloc _ _).alloc (by simp) _).alloc (by simp;omega) _)
 have hsz:∀o1 o2 o3,(((w.alloc o1).alloc o2).alloc o3).heap.size=w.heap.size+3:=fun o1 o2 o3=>by simp
 have HH:Hid ((∀o1 o2 o3,Below w.heap.size w (((w.alloc o1).alloc o2).alloc o3))/\(∀o1 o2 o3,(((w.alloc o1).alloc o2).alloc o3).heap.size=w.heap.size+3)/\RdS w ka x.kn x.ks/\Rd .i64 w da x.dn x.kd):=⟨hbel,hsz,hk,hd⟩
 clear hbel hsz hk hd
 go_enter Tryz.func132,Tryz.ntmps132
 go_wp2_with fail
 refine (toStringS_any ka x.kn kc x.ks _ ?_ hf1).mono ?_
 ·exact HH.out.2.2.1.below (HH.out.1 _ _ _)
 rintro e w1 ⟨rfl,hr1,hb1,hs1⟩
 rw [HH.out.2.1] at hr1 hb1 hs1 ⊢
 have hz:w.heap.size+2<w1.heap.size:=by omega
 have hc:∀b o,b<w.heap.size+3->w1.cell? ⟨b,o,none⟩=_:=fun b o hb=>hb1.cell (p:=⟨b,o,none⟩) hb
 have hfz:∀b o,b<w.heap.size+3->w1.frozen? ⟨b,o,none⟩=_:=fun b o hb=>hb1.frozen (p:=⟨b,o,none⟩) hb
 have HE:Hid (rowIn w1 (w.heap.size+3) 9 x.kn (fun i=>.string (x.ks i))/\Below w.heap.size w w1/\w1.heap.size=w.heap.size+4):=⟨rowIn.ofIs hr1,(HH.out.1 _ _ _).trans (hb1.mono (by omega)),by omega⟩
 clear hr1 hb1 hs1
 go_wp2_with fail
 refine (toInt64S_any da x.dn dc x.kd _ (HH.out.2.2.2.below (HE.out.2.1.setCell (by simp;omega) _)) hf2).mono ?_
 rintro e w2 ⟨rfl,hr2,hb2,hs2⟩
 have hsc:∀x v,(w1.setCell x v).heap.size=w.heap.size+4:=fun x v=>by rw [<- HE.out.2.2];simp [World.setCell]
 rw [hsc] at hr2 hb2 hs2 ⊢
 clear hsc
 have hz2:w.heap.size+3<w2.heap.size:=by omega
 have hc2:∀b o,b<w.heap.size+4->w2.cell? ⟨b,o,none⟩=_:=fun b o hb=>hb2.cell (p:=⟨b,o,none⟩) hb
 have hf2:∀b o,b<w.heap.size+4->w2.frozen? ⟨b,o,none⟩=_:=fun b o hb=>hb2.frozen (p:=⟨b,o,none⟩) hb
 have HF:Hid (rowIn w2 (w.heap.size+3) 9 x.kn (fun i=>.string (x.ks i))/\rowIn w2 (w.heap.size+4) 2 x.dn (fun i=>.int .i64 (x.kd i))/\Below w.heap.size w w2):=by
  refine ⟨(HE.out.1.setOther (by simp) _).of_block (hb2.block _ (by omega)),rowIn.ofIs hr2,(HE.out.2.1.setCell (by simp;omega) _).trans (hb2.mono (by omega))⟩
 clear hr2 hb2 hs2 HE
 go_wp2
 refine bodyPost_ret (v:=.agg #[.bool x.lf,.slice (some ⟨w.heap.size+3,0,none⟩) x.kn x.kn,.slice (some ⟨w.heap.size+4,0,none⟩) x.dn x.dn,.int .i64 x.ct]) (by simp [results,Tryz.results132,go_sem,hc2,hc]) rfl ⟨_,_,rfl,by omega,by omega,?_,?_,?_⟩
 ·exact ((((((HF.out.1.setOther (by simp) _).setOther (by simp) _).setOther (by simp) _).setOther (by simp) _).setOther (by simp) _).setOther (by simp) _)
 ·exact ((((((HF.out.2.1.setOther (by simp) _).setOther (by simp) _).setOther (by simp) _).setOther (by simp) _).setOther (by simp) _).setOther (by simp) _)
 ·exact ((((((HF.out.2.2.setCell (by simp;try omega) _).setCell (by simp;try omega) _).setCell (by simp;try omega) _).setCell (by simp;try omega) _).setCell (by simp;try omega) _).setCell (by simp;try omega) _)

theorem OwnTn.put {w w2:World} {B g m:Nat} {M:Nat->Tn} {KA DA:Nat->Option Addr} {KC DC:Nat->Nat} (h:OwnTn w B g m M KA DA KC DC) (hB:B<=w.heap.size) (hb:Below w.heap.size w w2) (k:Nat) (x:Tn) (gk gd ck cd:Nat)
  (hgk:w.heap.size<=gk) (hgd:w.heap.size<=gd) (hrk:rowIn w2 gk 9 x.kn (fun i=>.string (x.ks i))) (hrd:rowIn w2 gd 2 x.dn (fun i=>.int .i64 (x.kd i))) :
  OwnTn ((((w2.setCell ⟨g,k*4,none⟩ (.bool x.lf)).setCell ⟨g,k*4+1,none⟩ (.slice (some ⟨gk,0,none⟩) x.kn ck)).setCell ⟨g,k*4+2,none⟩ (.slice (some ⟨gd,0,none⟩) x.dn cd)).setCell ⟨g,k*4+3,none⟩ (.int .i64 x.ct)) B g m (fun i=>if i=k then x else M i)
   (fun i=>if i=k then some ⟨gk,0,none⟩ else KA i) (fun i=>if i=k then some ⟨gd,0,none⟩ else DA i) (fun i=>if i=k then ck else KC i) (fun i=>if i=k then cd else DC i):=by
 have hrow2:rowIn w2 g 168 (m*4) (tnCell M KA DA KC DC):=h.row.of_block (hb.block g h.row.lt)
 have hnk:gk≠g:=hrk.ne hrow2 (by decide)
 have hnd:gd≠g:=hrd.ne hrow2 (by decide)
 refine ⟨h.le,((((hrow2.set (k*4) _).set (k*4+1) _).set (k*4+2) _).set (k*4+3) _).congr (fun y hy=>?_),fun i hi=>?_,fun i hi=>?_,fun i j hi hj hij hl1 hl2=>?_,fun i j hi hj hij hl1 hl2=>?_⟩
 ·unfold tnCell
  by_cases e:y / 4=k
  ·have h4:y=k*4\/y=k*4+1\/y=k*4+2\/y=k*4+3:=by omega
   rcases h4 with rfl|rfl|rfl|rfl
   ·have q1:(k*4) % 4=0:=by omega
    have q2:(k*4) / 4=k:=by omega
    simp [q1,q2]
   ·have q1:(k*4+1) % 4=1:=by omega
    have q2:(k*4+1) / 4=k:=by omega
    simp [q1,q2]
   ·have q1:(k*4+2) % 4=2:=by omega
    have q2:(k*4+2) / 4=k:=by omega
    simp [q1,q2]
   ·have q1:(k*4+3) % 4=3:=by omega
    have q2:(k*4+3) / 4=k:=by omega
    simp [q1,q2]
  ·have e0:¬ y=k*4:=by omega
   have e1:¬ y=k*4+1:=by omega
   have e2:¬ y=k*4+2:=by omega
   have e3:¬ y=k*4+3:=by omega
   simp only [if_neg e,if_neg e0,if_neg e1,if_neg e2,if_neg e3]
 ·by_cases e:i=k
  ·simp only [if_pos e]
   exact Or.inr ⟨gk,rfl,by omega,(((hrk.setOther (by simpa using hnk) _).setOther (by simpa using hnk) _).setOther (by simpa using hnk) _).setOther (by simpa using hnk) _⟩
  ·simp only [if_neg e]
   rcases (h.keys i hi).below hb with h0|⟨g',hA,hg',hr'⟩
   ·exact Or.inl h0
   ·have hne' : g'≠g:=hr'.ne hrow2 (by decide)
    exact Or.inr ⟨g',hA,hg',(((hr'.setOther (by simpa using hne') _).setOther (by simpa using hne') _).setOther (by simpa using hne') _).setOther (by simpa using hne') _⟩
 ·by_cases e:i=k
  ·simp only [if_pos e]
   exact Or.inr ⟨gd,rfl,by omega,(((hrd.setOther (by simpa using hnd) _).setOther (by simpa using hnd) _).setOther (by simpa using hnd) _).setOther (by simpa using hnd) _⟩
  ·simp only [if_neg e]
   rcases (h.kids i hi).below hb with h0|⟨g',hA,hg',hr'⟩
   ·exact Or.inl h0
   ·have hne' : g'≠g:=hr'.ne hrow2 (by decide)
    exact Or.inr ⟨g',hA,hg',(((hr'.setOther (by simpa using hne') _).setOther (by simpa using hne') _).setOther (by simpa using hne') _).setOther (by simpa using hne') _⟩
 ·have key:∀j,j<m->(M j).kn≠0->KA j≠some ⟨gk,0,none⟩:=by
   intro j hj hl e
   rcases h.keys j hj with h0|⟨g',hA,hg',hr'⟩
   ·exact hl h0
   ·rw [hA] at e
    injection e with e
    injection e with e
    have:=hr'.lt
    omega
  by_cases e1:i=k
  ·by_cases e2:j=k
   ·omega
   ·simp only [if_pos e1,if_neg e2] at hl2 ⊢
    exact fun e=>key j hj hl2 e.symm
  ·by_cases e2:j=k
   ·simp only [if_neg e1,if_pos e2] at hl1 ⊢
    exact key i hi hl1
   ·simp only [if_neg e1,if_neg e2] at hl1 hl2 ⊢
    exact h.apartK i j hi hj hij hl1 hl2
 ·have key:∀j,j<m->(M j).dn≠0->DA j≠some ⟨gd,0,none⟩:=by
   intro j hj hl e
   rcases h.kids j hj with h0|⟨g',hA,hg',hr'⟩
   ·exact hl h0
   ·rw [hA] at e
    injection e with e
    injection e with e
    have:=hr'.lt
    omega
  by_cases e1:i=k
  ·by_cases e2:j=k
   ·omega
   ·simp only [if_pos e1,if_neg e2] at hl2 ⊢
    exact fun e=>key j hj hl2 e.symm
  ·by_cases e2:j=k
   ·simp only [if_neg e1,if_pos e2] at hl1 ⊢
    exact key i hi hl1
   ·simp only [if_neg e1,if_neg e2] at hl1 hl2 ⊢
    exact h.apartD i j hi hj hij hl1 hl2

def zTn:Tn:=⟨false,0,fun _=>{ data:=#[] },0,fun _=>0,0⟩
def cutN (N:Nat->Tn) (k i:Nat):Tn:=if i<k then N i else zTn

theorem cutN_put (N:Nat->Tn) (k:Nat):(fun i=>if i=k then N k else cutN N k i)=cutN N (k+1):=by
 funext i
 unfold cutN
 by_cases e:i=k
 ·subst e;simp
 ·by_cases e2:i<k
  ·have:i<k+1:=by omega
   simp [e,e2,this]
  ·have:¬ i<k+1:=by omega
   simp [e,e2,this]

theorem madeTn (w:World) (m:Nat):rowIn (w.alloc (.cells (madeCells #[.bool false,.slice none 0 0,.slice none 0 0,.int .i64 0] (m*4)) 168)) w.heap.size 168 (m*4) (tnCell (cutN (fun _=>zTn) 0) (fun _=>none) (fun _=>none) (fun _=>0) (fun _=>0)):=by
 refine ⟨_,blk_alloc_new _ _,by rw [size_madeCells];exact Nat.le_refl _,fun i hi=>?_⟩
 unfold tnCell cutN zTn
 have h4:i % 4=0\/i % 4=1\/i % 4=2\/i % 4=3:=by omega
 rcases h4 with e|e|e|e
 all_goals simp [madeCells,hi,e]

end Go.Proofs.YtcnollkkigiobaaGreat
namespace Go.Proofs.YtcnollkkigiobaaGreat
open Go.ChangeShapes Go.WideShapes Go.ChangeAt Go.RowKit Go.Deep Go.Joins

section
variable {H:Type} {enc:TypeId × Value->H} {W:World}

theorem spotT_of {w:World} {a:Addr} {v:Value} (h:w.cell? (a.add 0)=some v):a.spot=none:=by
 obtain ⟨b,off,spot⟩:=a
 simpa [Addr.add] using World.cell?_spot h

theorem addT_eq {b off i:Nat}:(Addr.add ⟨b,off,none⟩ i)=⟨b,off+i,none⟩:=by
 unfold Addr.add
 by_cases h:i=0
 ·subst h;simp
 ·simp [h]

set_option maxRecDepth 100000 in
theorem i64s_of {fuel:Nat} {cs:List Value} {x:DataW H × List MemPlace} (h:DataW.trod enc Tryz.prog W 0 (fun _=>true) true fuel 151 cs=some x) :
  ∃a n c f,cs=[.slice a n c]/\Rd .i64 W a n f/\n<=maxLen/\∀i,i<n->(Lit.int .i64 (f i)).wf=true:=by
 rcases open_ints Tryz.underlying151 Tryz.underlying2 (by kernel_rfl) h with ⟨hcs,_⟩|⟨y,l,c,zs,hcs,_,hl,hm,hz,_,hcell,hwz⟩
 ·exact ⟨none,0,0,fun _=>0,hcs,Or.inl rfl,Nat.zero_le _,fun i hi=>absurd hi (Nat.not_lt_zero _)⟩
 ·refine ⟨_,l,c,fun i=>zs.getD i 0,hcs,?_,by omega,fun i hi=>?_⟩
  ·by_cases h0:l=0
   ·exact Or.inl h0
   ·simp at hz
    obtain ⟨b,off,spot⟩:=y
    have hs:=spotT_of (hcell 0 (by omega))
    simp at hs
    subst hs
    exact Or.inr ⟨b,off,rfl,fun i hi=>by rw [<- addT_eq];exact hcell i (by omega)⟩
  ·simp at hz
   have hiz:i<zs.length:=by omega
   exact hwz (zs.getD i 0) (by rw [List.getD_eq_getElem?_getD,List.getElem?_eq_getElem hiz];exact List.getElem_mem hiz)

set_option maxRecDepth 100000 in
theorem strs_of {fuel:Nat} {cs:List Value} {x:DataW H × List MemPlace} (h:DataW.trod enc Tryz.prog W 0 (fun _=>true) true fuel 88 cs=some x) :
  ∃a n c X,cs=[.slice a n c]/\RdS W a n X/\(∀i,i<n->(X i).size<=maxLen)/\n<=maxLen:=by
 rcases open_slice (P:=Tryz.prog) (t:=88) (e:=9) (by kernel_rfl) h with ⟨hcs,_⟩|⟨a,len,cap,m,fu,D,Pl,hcs,_,hl,hm,hmm,_,hx⟩
 ·exact ⟨none,0,0,fun _=>{ data:=#[] },hcs,Or.inl rfl,fun i hi=>absurd hi (Nat.not_lt_zero _),Nat.zero_le _⟩
 ·have hlm:len<=m:=by rw [hmm];split <;> omega
  have each:∀i,i<len->∃q:ByteArray,W.cell? (a.add i)=some (.string q)/\q.size<=maxLen:=by
   intro i hi
   obtain ⟨cs',h1,h2⟩:=hx i (by omega)
   rw [show Tryz.prog.cellsOf 9=1 by kernel_rfl] at h1
   obtain ⟨_,hlen,hcell⟩:=World.cells?_some h1
   match cs',hlen with
   | [v0],_=>
    obtain ⟨x0,e1,_,hs⟩:=DataW.trod_string Tryz.underlying9 h2
    simp at e1
    subst e1
    have c0:=hcell 0 (by omega)
    rw [Addr.add_add] at c0
    exact ⟨x0,by simpa using c0,hs⟩
  obtain ⟨q,hq⟩:=choose_lt each
  refine ⟨some a,len,cap,q,hcs,?_,fun i hi=>(hq i hi).2,by omega⟩
  by_cases h0:len=0
  ·exact Or.inl h0
  ·obtain ⟨b,off,spot⟩:=a
   have hs:=spotT_of (a:=⟨b,off,spot⟩) (by simpa using (hq 0 (by omega)).1)
   simp at hs
   subst hs
   refine Or.inr ⟨b,off,rfl,fun i hi=>?_⟩
   have k0:=(hq i hi).1
   rw [addT_eq] at k0
   exact k0

set_option maxRecDepth 100000 in
theorem tnodes_of {fuel:Nat} {cs:List Value} {x:DataW H × List MemPlace} (h:DataW.trod enc Tryz.prog W 0 (fun _=>true) true fuel 104 cs=some x) :
  ∃a n c N,cs=[.slice a n c]/\RdTn W a n N/\(∀i,i<n->TnBig (N i))/\n<=maxLen:=by
 rcases open_slice (P:=Tryz.prog) (t:=104) (e:=199) (by kernel_rfl) h with ⟨hcs,_⟩|⟨a,len,cap,m,fu,D,Pl,hcs,_,hl,hm,hmm,_,hx⟩
 ·exact ⟨none,0,0,fun _=>⟨false,0,fun _=>{ data:=#[] },0,fun _=>0,0⟩,hcs,Or.inl rfl,fun i hi=>absurd hi (Nat.not_lt_zero _),Nat.zero_le _⟩
 ·have hlm:len<=m:=by rw [hmm];split <;> omega
  have each:∀i,i<len->∃q:Tn × Option Addr × Nat × Option Addr × Nat,W.cell? (a.add (i*4))=some (.bool q.1.lf)/\W.cell? (a.add (i*4+1))=some (.slice q.2.1 q.1.kn q.2.2.1)/\W.cell? (a.add (i*4+2))=some (.slice q.2.2.2.1 q.1.dn q.2.2.2.2)/\W.cell? (a.add (i*4+3))=some (.int .i64 q.1.ct)/\
    RdS W q.2.1 q.1.kn q.1.ks/\Rd .i64 W q.2.2.2.1 q.1.dn q.1.kd/\TnBig q.1:=by
   intro i hi
   obtain ⟨cs',h1,h2⟩:=hx i (by omega)
   rw [show Tryz.prog.cellsOf 199=4 by kernel_rfl] at h1
   obtain ⟨_,hlen,hcell⟩:=World.cells?_some h1
   obtain ⟨xs,k,hk,hxy,_,hxl,hf⟩:=DataW.trod_struct (P:=Tryz.prog) Tryz.underlying199 h2
   have g0:=hf 0 _ rfl
   have g1:=hf 1 _ rfl
   have g2:=hf 2 _ rfl
   have g3:=hf 3 _ rfl
   rw [show Tryz.prog.cellsOf _=1 by kernel_rfl] at g0 g1 g2 g3
   match xs,hxl,cs',hlen with
   | [y0,y1,y2,y3],_,[v0,v1,v2,v3],_=>
    simp at g0 g1 g2 g3
    obtain ⟨b0,e0,_⟩:=DataW.trod_bool Tryz.underlying4 g0
    obtain ⟨ka,kn,kc,X,e1,hX,hXs,hkn⟩:=strs_of g1
    obtain ⟨da,dn,dc,f,e2,hf2,hdn,hwf⟩:=i64s_of g2
    obtain ⟨i3,e3,_,_⟩:=DataW.trod_int Tryz.underlying2 g3
    simp at e0 e1 e2 e3
    subst e0 e1 e2 e3
    have c0:=hcell 0 (by omega)
    have c1:=hcell 1 (by omega)
    have c2:=hcell 2 (by omega)
    have c3:=hcell 3 (by omega)
    rw [Addr.add_add] at c0 c1 c2 c3
    exact ⟨(⟨b0,kn,X,dn,f,i3⟩,ka,kc,da,dc),by simpa using c0,by simpa using c1,by simpa using c2,by simpa using c3,hX,hf2,hkn,hdn,hXs⟩
  haveI:Inhabited Tn:=⟨⟨false,0,fun _=>{ data:=#[] },0,fun _=>0,0⟩⟩
  obtain ⟨q,hq⟩:=choose_lt each
  refine ⟨some a,len,cap,fun i=>(q i).1,hcs,?_,fun i hi=>(hq i hi).2.2.2.2.2.2,by omega⟩
  by_cases h0:len=0
  ·exact Or.inl h0
  ·obtain ⟨b,off,spot⟩:=a
   have hs:=spotT_of (a:=⟨b,off,spot⟩) (by simpa using (hq 0 (by omega)).1)
   simp at hs
   subst hs
   refine Or.inr ⟨b,off,rfl,fun i hi=>?_⟩
   obtain ⟨k0,k1,k2,k3,k4,k5,_⟩:=hq i hi
   rw [addT_eq] at k0 k1 k2 k3
   exact ⟨_,_,_,_,k0,k1,k2,k3,k4,k5⟩

def IsTree (w:World) (v:Value):Prop:=
 ∃a n c N,v=.agg #[.slice a n c]/\RdTn w a n N/\(∀i,i<n->TnBig (N i))/\n<=maxLen

end
end Go.Proofs.YtcnollkkigiobaaGreat
namespace Go.Proofs.YtcnollkkigiobaaGreat
open Go.RowKit Go.Deep

theorem less_irrefl:∀l:List UInt8,Op.bytesLess l l=false
 | []=>rfl
 | a::x=>by simp [Op.bytesLess,less_irrefl x]

theorem less_trans:∀a b c:List UInt8,Op.bytesLess a b=true->Op.bytesLess b c=true->Op.bytesLess a c=true
 | _,[],_,h,_=>by simp [Op.bytesLess] at h
 | _,_::_,[],_,h=>by simp [Op.bytesLess] at h
 | [],_::_,_::_,_,_=>rfl
 | a::x,b::y,c::z,h1,h2=>by
  simp only [Op.bytesLess,Bool.or_eq_true,Bool.and_eq_true,decide_eq_true_eq,beq_iff_eq] at h1 h2 ⊢
  rcases h1 with h1|⟨rfl,h1⟩
  ·rcases h2 with h2|⟨rfl,h2⟩
   ·exact .inl (UInt8.lt_trans h1 h2)
   ·exact .inl h1
  ·rcases h2 with h2|⟨rfl,h2⟩
   ·exact .inl h2
   ·exact .inr ⟨rfl,less_trans x y z h1 h2⟩

theorem less_total:∀a b:List UInt8,(Op.bytesLess b a || b == a)=!Op.bytesLess a b
 | [],[]=>rfl
 | [],_::_=>rfl
 | _::_,[]=>rfl
 | a::x,b::y=>by
  have ih:=less_total x y
  simp only [Op.bytesLess]
  by_cases h:a=b
  ·subst h
   have e1:((a::y) == (a::x))=(y == x):=by simp
   rw [e1]
   simp
   simpa using ih
  ·have h' : ¬ b=a:=fun e=>h e.symm
   have e0:(a == b)=false:=by simp [h]
   have e1:(b == a)=false:=by simp [h']
   have e2:((b::y) == (a::x))=false:=by simp [h']
   rw [e0,e1,e2]
   simp
   by_cases hl:a<b
   ·simp [hl]
    exact UInt8.le_of_lt hl
   ·simp [hl]
    have:=UInt8.not_lt.1 hl
    exact UInt8.lt_of_le_of_ne this h'

theorem asc_less {X:Nat->ByteArray} {k:Nat} (h:∀m,m<k->0<m->Op.bytesLess (X (m-1)).toList (X m).toList=true) (p:Nat) (hp:p<k):∀j,j<p->Op.bytesLess (X j).toList (X p).toList=true:=by
 induction p with
 | zero=>intro j hj;omega
 | succ p ih=>
  intro j hj
  have h1:=h (p+1) hp (by omega)
  rw [show p+1-1=p from rfl] at h1
  by_cases e:j=p
  ·subst e;exact h1
  ·exact less_trans _ _ _ (ih (by omega) j (by omega)) h1

theorem str_inj {x y:ByteArray} (h:x.toList=y.toList):x=y:=by
 rw [ByteArray.toList_eq,ByteArray.toList_eq] at h
 cases x
 cases y
 simp only at h
 rw [Array.toList_inj.1 h]
end Go.Proofs.YtcnollkkigiobaaGreat
namespace Go.Proofs.YtcnollkkigiobaaGreat
open Go

/-! A drawn region whose last operation writes a cell that the region reads: what holds of the world is asked behind every operation but that one. -/
section
variable {P:Program} {ops:Array Oper} {Q:Exit->Act->World->Prop} {md:Region.Mode} {S:World->Prop} {late:Nat}

def wpLate (P:Program) (md:Region.Mode) (ops:Array Oper) (Q:Exit->Act->World->Prop) (S:World->Prop) (late:Nat):Nat->Array Bool->Act->World->Prop
 | 0,listed,a,w=>Region.ready md ops listed=[]/\Q .normal a w
 | fuel+1,listed,a,w=>(Region.ready md ops listed=[]->Q .normal a w)/\
  ∀i∈Region.ready md ops listed,wpOp P ops Q i (fun a' w'=>(i≠late->S w')/\wpLate P md ops Q S late fuel (listed.setIfInBounds i true) a' w') a w

theorem wpAny_of_late:∀(fuel:Nat) (listed:Array Bool) (a:Act) (w:World),wpLate P md ops Q S late fuel listed a w->wpAny P md ops Q fuel listed a w
 | 0,_,_,_,h=>h
 | fuel+1,_,_,_,h=>⟨h.1,fun i hi=>wpOp_mono (fun a' w' h'=>wpAny_of_late fuel _ a' w' h'.2) (h.2 i hi)⟩

def Waits (md:Region.Mode) (ops:Array Oper) (i:Nat) (ch:List Nat):Prop:=
 ∀c∈ch,c=i\/∃o,ops[c]?=some o/\∃e∈o.after,Region.binds md e=true/\e.on∈ch

theorem Waits.not_ready {i:Nat} {ch:List Nat} (h:Waits md ops i ch) {listed:Array Bool} (hl:∀c∈ch,listed.getD c true=false) {j:Nat} (hj:j∈Region.ready md ops listed) (hji:j≠i):j∉ch:=fun hm=>by
 rcases h j hm with h|⟨o,ho,e,he,hb,hc⟩
 ·exact hji h
 ·obtain ⟨_,oj,hoj,hall⟩:=mem_ready.1 hj
  rw [ho] at hoj
  injection hoj with hoj
  subst hoj
  have h1:=hall e he hb
  have h2:=hl _ hc
  rcases Nat.lt_or_ge e.on listed.size with h' | h'
  ·simp [h'] at h1 h2
   rw [h2] at h1
   cases h1
  ·simp [Array.getElem?_eq_none h'] at h1

theorem wpLate_first {i:Nat} {oi:Oper} {v:Value} {ch:List Nat} (hi:ops[i]?=some oi) (hsel:∀(j:Nat) (o:Oper) cs b,ops[j]?=some o->o.op≠.select cs b)
  (hQ:∀c a w,Q (.panic c) (a.put oi.dst v) w->Q (.panic c) a w) (hw:Waits md ops i ch) (hlate:late∈ch) (hil:i≠late) :
  ∀(fuel:Nat) (listed:Array Bool) (a:Act) (w:World),
   (∀j oj,ops[j]?=some oj->j≠i->listed.getD j true=false->(∀e∈oj.after,Region.binds md e=true->e.on≠i)->oi.apart ops oj=true)->
   (∀c∈ch,listed.getD c true=false)->
   i∈Region.ready md ops listed->YieldsIf P ops S oi v a->S w->
   wpLate P md ops Q S late fuel (listed.setIfInBounds i true) (a.put oi.dst v) w->wpLate P md ops Q S late (fuel+1) listed a w:=by
 intro fuel
 induction fuel with
 | zero=>
  intro listed a w _ _ hr hy hS H
  refine ⟨fun h=>(by rw [h] at hr;cases hr),fun j hj=>?_⟩
  by_cases hji:j=i
  ·subst hji;exact hy.wpOp hi hS ⟨fun _=>hS,H⟩
  ·have:=ready_mono hj hji
   rw [H.1] at this
   cases this
 | succ fuel ih=>
  intro listed a w hfree hch hr hy hS H
  refine ⟨fun h=>(by rw [h] at hr;cases hr),fun j hj=>?_⟩
  by_cases hji:j=i
  ·subst hji;exact hy.wpOp hi hS ⟨fun _=>hS,H⟩
  ·have hjc:=hw.not_ready hch hj hji
   have hjl:j≠late:=fun e=>hjc (e ▸ hlate)
   have h1:=H.2 j (ready_mono hj hji)
   obtain ⟨hjun,oj,hoj,hall⟩:=mem_ready.1 hj
   have hnot:∀e∈oj.after,Region.binds md e=true->e.on≠i:=fun e he hb heq=>by
    have h1:=hall e he hb
    have h0:=(mem_ready.1 hr).1
    rw [heq] at h1
    rcases Nat.lt_or_ge i listed.size with h' | h'
    ·simp [h'] at h0 h1;rw [h0] at h1;cases h1
    ·simp [Array.getElem?_eq_none h'] at h1
   have h2:=wpOp_putIf hoj (hfree j oj hoj hji hjun hnot) (fun cs b=>hsel i oi cs b hi) (fun cs b=>hsel j oj cs b hoj) hQ hy h1
   have hfree' : ∀k ok,ops[k]?=some ok->k≠i->(listed.setIfInBounds j true).getD k true=false->
     (∀e∈ok.after,Region.binds md e=true->e.on≠i)->oi.apart ops ok=true:=fun k ok hk hki hun hno=>by
    refine hfree k ok hk hki ?_ hno
    by_cases hjk:j=k
    ·subst hjk;exact hjun
    ·rw [getD_set_ne true hjk] at hun;exact hun
   have hch' : ∀c∈ch,(listed.setIfInBounds j true).getD c true=false:=fun c hc=>by
    have hjk:j≠c:=fun e=>hjc (e ▸ hc)
    rw [getD_set_ne true hjk]
    exact hch c hc
   refine wpOp_mono (fun a' w' h3=>⟨fun _=>h3.2.1 hjl,ih (listed.setIfInBounds j true) a' w' hfree' hch' (ready_mono hr (Ne.symm hji)) h3.1 (h3.2.1 hjl) ?_⟩) h2
   rw [Array.setIfInBounds_comm _ _ hji]
   exact h3.2.2

def behind (ops:Array Oper) (i:Nat):Nat->List Nat
 | 0=>[i]
 | n+1=>let l:=behind ops i n
  l++(List.range ops.size).filter fun j=>!l.contains j && (match ops[j]? with|some o=>o.after.any fun e=>Region.binds .any e && l.contains e.on|none=>false)
def waitsB (ops:Array Oper) (listed:Array Bool) (i late:Nat) (ch:List Nat):Bool:=
 ch.contains late && i != late && ch.all fun c=>!(listed.getD c true) && (c == i || (match ops[c]? with|some o=>o.after.any fun e=>Region.binds .any e && ch.contains e.on|none=>false))

theorem waitsB_spec {listed:Array Bool} {i:Nat} {ch:List Nat} (h:waitsB ops listed i late ch=true):late∈ch/\i≠late/\Waits .any ops i ch/\∀c∈ch,listed.getD c true=false:=by
 unfold waitsB at h
 simp only [Bool.and_eq_true,List.all_eq_true,Bool.not_eq_true',Bool.or_eq_true,bne_iff_ne,ne_eq,List.contains_iff_mem,beq_iff_eq] at h
 obtain ⟨⟨h1,h2⟩,h3⟩:=h
 refine ⟨h1,h2,fun c hc=>?_,fun c hc=>(h3 c hc).1⟩
 rcases (h3 c hc).2 with h|h
 ·exact Or.inl h
 ·cases ho:ops[c]? with
  | none=>rw [ho] at h;cases h
  | some o=>
   rw [ho] at h
   simp only [Array.any_eq_true',Bool.and_eq_true,List.contains_iff_mem] at h
   obtain ⟨e,he,hb,hm⟩:=h
   exact Or.inr ⟨o,rfl,e,he,hb,hm⟩

theorem wpLate_take {i:Nat} {oi:Oper} {v:Value} {fuel:Nat} {listed:Array Bool} {a:Act} {w:World} (n:Nat) (hi:ops[i]?=some oi)
  (hs:Region.noSelect ops=true) (hf:Region.free .any ops listed i=true) (hr:(Region.ready .any ops listed).contains i=true) (hwt:waitsB ops listed i late (behind ops i n)=true)
  (hQ:∀c a w,Q (.panic c) (a.put oi.dst v) w->Q (.panic c) a w) (hy:YieldsIf P ops S oi v a) (hS:S w)
  (h:wpLate P .any ops Q S late fuel (listed.setIfInBounds i true) (a.put oi.dst v) w):wpLate P .any ops Q S late (fuel+1) listed a w:=by
 obtain ⟨h1,h2,h3,h4⟩:=waitsB_spec hwt
 exact wpLate_first hi (Region.noSelect_spec hs) hQ h3 h1 h2 fuel listed a w (Region.free_spec hi hf) h4 (by simpa using hr) hy hS h

theorem wpLate_one {i:Nat} {o:Oper} {fuel:Nat} {listed:Array Bool} {a:Act} {w:World} (hr:Region.ready md ops listed=[i]) (ho:ops[i]?=some o)
  (h:∀K' : Act->World->Prop,Shut (∀a w,(i≠late->S w)->((i≠late->S w)->wpLate P md ops Q S late fuel (listed.setIfInBounds i true) a w)->K' a w)->if Region.wanted o (yielded ops a.tmps)=true then Oper.wp P o a w K' Q else K' (a.put o.dst undef) w) :
  wpLate P md ops Q S late (fuel+1) listed a w:=
 ⟨fun h0=>(by rw [hr] at h0;cases h0),fun j hj=>by
  rw [hr] at hj
  have:j=i:=by simpa using hj
  subst this
  exact wpOp_step ho (fun K' hK=>h K' (fun a w hS hW=>hK a w ⟨hS,hW hS⟩))⟩

theorem wpLate_done {listed:Array Bool} {a:Act} {w:World} (hr:Region.ready md ops listed=[]) (h:Q .normal a w):∀fuel,wpLate P md ops Q S late fuel listed a w
 | 0=>⟨hr,h⟩
 | _+1=>⟨fun _=>h,by rw [hr];simp⟩

theorem wp_region_late {id:Nat} {a:Act} {w:World} (late:Nat) (hm:P.follows .mixedOrders=true) (hS:S w.drew)
  (h:S w.drew->wpLate P .any ops Q S late ops.size (Array.replicate ops.size false) a w.drew):(Code.region id ops true).wp P Q a w:=
 wp_region_any hm (wpAny_of_late _ _ _ _ (h hS))
end


def Pick:Nat->List Oper->Oper->Prop
 | 0,y::_,x=>y=x
 | k+1,_::l,x=>Pick k l x
 | _,[],_=>False
theorem Pick.zero {x:Oper} {l:List Oper}:Pick 0 (x::l) x:=rfl
theorem Pick.succ {k:Nat} {x y:Oper} {l:List Oper} (h:Pick k l x):Pick (k+1) (y::l) x:=h
theorem Pick.get:∀{k:Nat} {l:List Oper} {x:Oper},Pick k l x->l.toArray[k]?=some x
 | 0,y::l,x,h=>by
  have e:y=x:=h
  simp [e]
 | k+1,y::l,x,h=>by
  have e:Pick k l x:=h
  simpa using e.get
 | 0,[],_,h=>h.elim
 | k+1,[],_,h=>h.elim

theorem late_take {l:List Oper} {P:Program} {Q:Exit->Act->World->Prop} {S:World->Prop} {late:Nat} (i:Nat) {oi:Oper} (hp:Pick i l oi) {v:Value} {fuel:Nat} {listed:Array Bool} {a:Act} {w:World} 
  (hs:Region.noSelect l.toArray=true) (hf:Region.free .any l.toArray listed i=true) (hr:(Region.ready .any l.toArray listed).contains i=true) (hwt:waitsB l.toArray listed i late (behind l.toArray i 8)=true)
  (hQ:∀c a w,Q (.panic c) (a.put oi.dst v) w->Q (.panic c) a w) (hw:Region.wanted oi (yielded l.toArray a.tmps)=true) (hy:∀w,S w->(execOp a.eval oi).run P w=.ok (.value v) w) (hS:S w)
  (h:wpLate P .any l.toArray Q S late fuel (listed.setIfInBounds i true) (a.put oi.dst v) w):wpLate P .any l.toArray Q S late (fuel+1) listed a w:=
 wpLate_take 8 hp.get hs hf hr hwt hQ (Or.inl ⟨hw,hy⟩) hS h

theorem late_one {l:List Oper} {P:Program} {Q:Exit->Act->World->Prop} {S:World->Prop} {late:Nat} (i:Nat) {o:Oper} (hp:Pick i l o) {fuel:Nat} {listed:Array Bool} {a:Act} {w:World} (hr:Region.ready .any l.toArray listed=[i]) 
  (h:∀K' : Act->World->Prop,Shut (∀a w,(i≠late->S w)->((i≠late->S w)->wpLate P .any l.toArray Q S late fuel (listed.setIfInBounds i true) a w)->K' a w)->if Region.wanted o (yielded l.toArray a.tmps)=true then Oper.wp P o a w K' Q else K' (a.put o.dst undef) w) :
  wpLate P .any l.toArray Q S late (fuel+1) listed a w:=wpLate_one hr hp.get h
theorem Pick.s5 {k:Nat} {x a b c d e:Oper} {l:List Oper} (h:Pick k l x):Pick (k+5) (a::b::c::d::e::l) x:=h
theorem tk {l:List Oper} {P:Program} {Q:Exit->Act->World->Prop} {S:World->Prop} {late:Nat} (i:Nat) {oi:Oper} (hp:Pick i l oi) {v:Value} {fuel:Nat} {listed:Array Bool} {a:Act} {w:World}
  (hy:∀w,S w->(execOp a.eval oi).run P w=.ok (.value v) w) (h:wpLate P .any l.toArray Q S late fuel (listed.setIfInBounds i true) (a.put oi.dst v) w) (hs:Region.noSelect l.toArray=true:=by kernel_rfl) (hf:Region.free .any l.toArray listed i=true:=by kernel_rfl) (hr:(Region.ready .any l.toArray listed).contains i=true:=by kernel_rfl) (hwt:waitsB l.toArray listed i late (behind l.toArray i 8)=true:=by kernel_rfl)
  (hQ:∀c a w,Q (.panic c) (a.put oi.dst v) w->Q (.panic c) a w:=by exact fun _ _ _ h=>h) (hw:Region.wanted oi (yielded l.toArray a.tmps)=true:=by rfl) (hS:S w:=by assumption):wpLate P .any l.toArray Q S late (fuel+1) listed a w:=late_take i hp hs hf hr hwt hQ hw hy hS h
theorem tk1 {l:List Oper} {P:Program} {Q:Exit->Act->World->Prop} {S:World->Prop} {late:Nat} (i:Nat) {o:Oper} (hp:Pick i l o) {fuel:Nat} {listed:Array Bool} {a:Act} {w:World}
  (h:∀K' : Act->World->Prop,Shut (∀a w,(i≠late->S w)->((i≠late->S w)->wpLate P .any l.toArray Q S late fuel (listed.setIfInBounds i true) a w)->K' a w)->if Region.wanted o (yielded l.toArray a.tmps)=true then Oper.wp P o a w K' Q else K' (a.put o.dst undef) w) (hr:Region.ready .any l.toArray listed=[i]:=by kernel_rfl) :
  wpLate P .any l.toArray Q S late (fuel+1) listed a w:=late_one i hp hr h
theorem tkp:(∀(a:Act) (d:Tmp) (v:Value),a.put (some d) v={ a with tmps:=a.tmps.setIfInBounds d v })/\(∀(a:Act) (v:Value),a.put none v=a)/\(∀(l:List Value) (i:Nat) (x:Value),l.toArray.setIfInBounds i x=(l.set i x).toArray)/\(∀(l:List Value) (x y:Value),(x::l).set 0 y=y::l)/\(∀(l:List Value) (x y:Value) (n:Nat),(x::l).set (n+1) y=x::l.set n y):=⟨fun _ _ _=>rfl,fun _ _=>rfl,fun _ _ _=>List.setIfInBounds_toArray ..,fun _ _ _=>rfl,fun _ _ _ _=>rfl⟩
end Go.Proofs.YtcnollkkigiobaaGreat
namespace Go.Proofs.YtcnollkkigiobaaGreat
open Go.RowKit Go.Deep

def dgF:Nat->Nat->ByteArray->ByteArray
 | 0,_,x=>x
 | f+1,k,x=>if k=0 then x else dgF f (k / 10) (strOfNums [48+(k:Int) % 10]++x)

theorem dgF_zero (f:Nat) (x:ByteArray):dgF f 0 x=x:=by cases f <;> simp [dgF]
theorem dgF_step {f k:Nat} (x:ByteArray) (hk:0<k) (hf:k<=f):∃f',f=f'+1/\k / 10<=f'/\dgF f k x=dgF f' (k / 10) (strOfNums [48+(k:Int) % 10]++x):=by
 cases f with
 | zero=>omega
 | succ f=>exact ⟨f,rfl,by omega,by rw [dgF,if_neg (by omega)]⟩

def mkT (k:Nat):ByteArray:=ByteArray.mk #[109]++dgF k k { data:=#[] }

theorem run_conv1 (w:World) (d:Int):(convert 47 9 (.slice (some ⟨w.heap.size,0,none⟩) 1 1)).run Tryz.prog (w.alloc (.cells #[.int .u8 d] 5))=.ok (.string (strOfNums [d])) (w.alloc (.cells #[.int .u8 d] 5)):=
 run_convert_bytes_arg (w.alloc (.cells #[.int .u8 d] 5)) 47 5 (by kernel_rfl) (by kernel_rfl) w.heap.size 0 1 1 [d] rfl (fun i hi=>by
  obtain rfl:i=0:=by omega
  simp) 9 (by kernel_rfl)

set_option maxHeartbeats 2000000 in
theorem markText_any (k:Nat) (w:World) (hk:1<=k) (hk2:k<=1073741824) :
  Calls Tryz.prog 136 #[.int .i64 k] w fun e w'=>e=.returned (.string (mkT k))/\Below w.heap.size w w':=by
 have HM:Hid (mkT k=ByteArray.mk #[109]++dgF k k { data:=#[] }):=rfl
 generalize hT:mkT k=T at*
 clear hT
 generalize hD:dgF k k { data:=#[] }=D at*
 have HD:Hid (dgF k k { data:=#[] }=D):=hD
 clear hD
 have hcv:=run_conv1
 go_enter Tryz.func136,Tryz.ntmps136
 go_wp2
 go_loopw [0,3] (fun q s wr=>∃(j f:Nat) (x:ByteArray),x.size+j<=k/\j<=f/\q=.int .i64 j/\s=.string x/\dgF f j x=D/\Below w.heap.size w wr) (fun q _ _=>(intOf q).toNat)
 case atStart=>exact ⟨k,k,_,by simp [ByteArray.size],Nat.le_refl _,rfl,rfl,HD.out,Below.refl _ _⟩
 case round=>
  obtain ⟨j,f,x,hj,hf,rfl,rfl,hd,hb⟩:=hrel
  have HB:Hid (Below w.heap.size w wr):=hb
  clear hb
  by_cases hlt:0<j
  ·obtain ⟨f',rfl,hf',e⟩:=dgF_step x hlt hf
   have HQ:Hid (dgF f' (j / 10) (strOfNums [48+(j:Int) % 10]++x)=D):=e.symm.trans hd
   clear hd e
   have hs1:¬ 9223372036854775807<(strOfNums [48+(j:Int) % 10]).size+x.size:=by
    have:(strOfNums [48+(j:Int) % 10]).size=1:=rfl
    omega
   have HS:Hid ((strOfNums [48+(j:Int) % 10]++x).size=x.size+1):=by
    show _=_
    rw [ByteArray.size_append]
    have:(strOfNums [48+(j:Int) % 10]).size=1:=rfl
    omega
   have HE:Hid (((j / 10:Nat):Int)=(j:Int) / 10):=by show _=_;omega
   go_wp2
   go_roundw
   case rel=>exact ⟨j / 10,f',_,by rw [HS.out];omega,hf',by simp,rfl,HQ.out,HB.out.alloc HB.out.size _⟩
   case measure=>simp [intOf];omega
  ·obtain rfl:j=0:=by omega
   have HQ:Hid (x=D):=by rw [<- hd,dgF_zero];rfl
   have hs1:¬ 9223372036854775807<1+x.size:=by omega
   clear hd
   go_wp2
   go_ret
   exact ⟨by rw [HM.out,HQ.out];rfl,HB.out⟩
end Go.Proofs.YtcnollkkigiobaaGreat
