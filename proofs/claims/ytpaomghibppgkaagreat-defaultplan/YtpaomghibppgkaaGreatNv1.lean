import Derived.WalkKit
import Derived.Deep.OwnRows
import Derived.Deep.Draws
import Derived.Test.YtpaomghibppgkaaGreatRows
import Derived.Deep.Upon
import Derived.Deep.RegionHeld3
import Derived.Handy
import Derived.Maps.Own
import Derived.Laws.BytesArg
set_option linter.unusedVariables false
set_option maxRecDepth 100000
namespace Go.Proofs.YtpaomghibppgkaaGreat
open Go.RowKit Go.Deep

def Rd (k:IntKind) (w:World) (a:Option Addr) (len:Nat) (f:Nat->Int):Prop:=
 len=0\/∃b o,a=some ⟨b,o,none⟩/\∀i,i<len->w.cell? ⟨b,o+i,none⟩=some (.int k (f i))

theorem Rd.below {k:IntKind} {w w' : World} {a:Option Addr} {len:Nat} {f:Nat->Int} (h:Rd k w a len f) (hb:Below w.heap.size w w'):Rd k w' a len f:=by
 rcases h with h|⟨b,o,rfl,hc⟩
 ·exact Or.inl h
 ·refine Or.inr ⟨b,o,rfl,fun i hi=>?_⟩
  have hlt:=World.block_lt_of_cell? _ _ (hc i hi)
  rw [hb.cell (p:=⟨b,o+i,none⟩) hlt]
  exact hc i hi

theorem Rd.congr {k:IntKind} {w:World} {a:Option Addr} {len:Nat} {f g:Nat->Int} (h:Rd k w a len f) (e:∀i,i<len->f i=g i):Rd k w a len g:=by
 rcases h with h|⟨b,o,rfl,hc⟩
 ·exact Or.inl h
 ·exact Or.inr ⟨b,o,rfl,fun i hi=>by rw [hc i hi,e i hi]⟩

theorem rowCopy {w:World} {b:Nat} {t:TypeId} {n k:Nat} {f:Nat->Value} {z:Value} (h:w.rowIs b t n (fun j=>if j<k then f j else z)) :
  (w.setCell ⟨b,k,none⟩ (f k)).rowIs b t n (fun j=>if j<k+1 then f j else z):=
 (h.set k (f k)).congr fun j _=>by
  by_cases e:j=k
  ·subst e;simp
  ·by_cases hl:j<k
   ·simp [e,hl];omega
   ·have:¬ j<k+1:=by omega
    simp [e,hl,this]

theorem below_drewN {B:Nat} {a w:World} (h:Below B a w) (n:Nat):Below B a (w.drewN n):=⟨h.os,h.tape,h.output,h.size,h.block⟩
theorem bcell {W w1:World} (hb:Below W.heap.size W w1):(∀b o,b<W.heap.size->w1.cell? ⟨b,o,none⟩=W.cell? ⟨b,o,none⟩)/\(∀b o,b<W.heap.size->w1.frozen? ⟨b,o,none⟩=W.frozen? ⟨b,o,none⟩):=
 ⟨fun b o h=>hb.cell (p:=⟨b,o,none⟩) h,fun b o h=>hb.frozen (p:=⟨b,o,none⟩) h⟩
theorem below_alloc (w:World) (o:Obj):Below w.heap.size w (w.alloc o):=(Below.refl _ _).alloc (Nat.le_refl _) o

def rowIn (w:World) (g:Nat) (t:TypeId) (n:Nat) (F:Nat->Value):Prop:=
 ∃cur:Array Value,w.heap[g]?=some (.cells cur t (0,0))/\n<=cur.size/\∀i,i<n->cur[i]?=some (F i)

namespace rowIn
variable {w:World} {g:Nat} {t:TypeId} {n:Nat} {F G:Nat->Value}

theorem cell (h:rowIn w g t n F) {i:Nat} (hi:i<n):w.cell? ⟨g,i,none⟩=some (F i):=by
 obtain ⟨c,hb,_,hc⟩:=h
 simp [World.cell?,hb,hc i hi]

theorem frozen (h:rowIn w g t n F) (i:Nat):w.frozen? ⟨g,i,none⟩=false:=by
 obtain ⟨c,hb,_,_⟩:=h
 simp [World.frozen?,hb]

theorem lt (h:rowIn w g t n F):g<w.heap.size:=by
 obtain ⟨c,hb,_,_⟩:=h
 obtain ⟨hlt,_⟩:=Array.getElem?_eq_some_iff.1 hb
 exact hlt

theorem congr (h:rowIn w g t n F) (e:∀i,i<n->F i=G i):rowIn w g t n G:=by
 obtain ⟨c,hb,hn,hc⟩:=h
 exact ⟨c,hb,hn,fun i hi=>by rw [hc i hi,e i hi]⟩

theorem of_block {w' : World} (h:rowIn w g t n F) (e:w'.heap[g]?=w.heap[g]?):rowIn w' g t n F:=by
 obtain ⟨c,hb,hn,hc⟩:=h
 exact ⟨c,e.trans hb,hn,hc⟩

theorem set (h:rowIn w g t n F) (i:Nat) (v:Value):rowIn (w.setCell ⟨g,i,none⟩ v) g t n (fun j=>if j=i then v else F j):=by
 obtain ⟨c,hb,hn,hc⟩:=h
 refine ⟨c.setIfInBounds i v,?_,by simpa using hn,fun j hj=>?_⟩
 ·simp [World.setCell,Array.getElem?_modify,hb]
 ·rw [Array.getElem?_setIfInBounds]
  by_cases e:j=i
  ·subst e
   have:j<c.size:=by omega
   simp [this]
  ·rw [if_neg (fun h=>e h.symm)]
   show c[j]?=some (if j=i then v else F j)
   rw [if_neg e]
   exact hc j hj

theorem setOther (h:rowIn w g t n F) {p:Addr} (hp:g≠p.block) (v:Value):rowIn (w.setCell p v) g t n F:=h.of_block (Below.heap_setCell _ _ _ _ hp)

theorem ofIs (h:w.rowIs g t n F):rowIn w g t n F:=by
 obtain ⟨c,hb,hn,hc⟩:=h
 exact ⟨c,hb,by omega,hc⟩

theorem ne {g' : Nat} {t' : TypeId} {n' : Nat} (h:rowIn w g t n F) (h' : rowIn w g' t' n' G) (ht:t≠t'):g≠g':=by
 rintro rfl
 obtain ⟨c,hb,_,_⟩:=h
 obtain ⟨c',hb',_,_⟩:=h'
 rw [hb] at hb'
 injection hb' with e
 injection e with _ e2 _
 exact ht e2
end rowIn

structure OnlyAt (a:Option Addr) (w w' : World):Prop where
 os:w'.os=w.os
 tape:w'.tape=w.tape
 output:w'.output=w.output
 size:w'.heap.size=w.heap.size
 block:∀k,(∀x,a=some x->x.block≠k)->w'.heap[k]?=w.heap[k]?

theorem OnlyAt.refl (a:Option Addr) (w:World):OnlyAt a w w:=⟨rfl,rfl,rfl,rfl,fun _ _=>rfl⟩
theorem OnlyAt.below {B:Nat} {a:Option Addr} {w w' : World} (h:OnlyAt a w w') (hB:∀x,a=some x->B<=x.block):Below B w w':=
 ⟨h.os,h.tape,h.output,by rw [h.size];exact Nat.le_refl _,fun k hk=>h.block k (fun x e=>by have:=hB x e;omega)⟩
theorem OnlyAt.setCell {g:Nat} {w w' : World} (h:OnlyAt (some ⟨g,0,none⟩) w w') (i:Nat) (v:Value):OnlyAt (some ⟨g,0,none⟩) w (w'.setCell ⟨g,i,none⟩ v):=
 ⟨h.os,h.tape,h.output,by rw [<- h.size];simp [World.setCell],fun k hk=>by
  rw [<- h.block k hk]
  exact Below.heap_setCell _ _ _ _ (fun e=>hk _ rfl e.symm)⟩

def OwnB (w:World) (B:Nat) (a:Option Addr) (n:Nat) (f:Nat->Int):Prop:=
 n=0\/∃g,a=some ⟨g,0,none⟩/\B<=g/\rowIn w g 5 n (fun i=>.int .u8 (f i))

theorem OwnB.rd {w:World} {B:Nat} {a:Option Addr} {n:Nat} {f:Nat->Int} (h:OwnB w B a n f):Rd .u8 w a n f:=by
 rcases h with h|⟨g,rfl,_,hr⟩
 ·exact Or.inl h
 ·exact Or.inr ⟨g,0,rfl,fun i hi=>by rw [Nat.zero_add];exact hr.cell hi⟩

theorem OwnB.mono {w:World} {B B' : Nat} {a:Option Addr} {n:Nat} {f:Nat->Int} (h:OwnB w B a n f) (hB:B'<=B):OwnB w B' a n f:=by
 rcases h with h|⟨g,rfl,hg,hr⟩
 ·exact Or.inl h
 ·exact Or.inr ⟨g,rfl,by omega,hr⟩

theorem OwnB.congr {w:World} {B:Nat} {a:Option Addr} {n:Nat} {f f' : Nat->Int} (h:OwnB w B a n f) (e:∀i,i<n->f i=f' i):OwnB w B a n f':=by
 rcases h with h|⟨g,rfl,hg,hr⟩
 ·exact Or.inl h
 ·exact Or.inr ⟨g,rfl,hg,hr.congr (fun i hi=>by rw [e i hi])⟩

theorem OwnB.below {w w' : World} {B:Nat} {a:Option Addr} {n:Nat} {f:Nat->Int} (h:OwnB w B a n f) (hb:Below w.heap.size w w'):OwnB w' B a n f:=by
 rcases h with h|⟨g,rfl,hg,hr⟩
 ·exact Or.inl h
 ·exact Or.inr ⟨g,rfl,hg,hr.of_block (hb.block g hr.lt)⟩

theorem OwnB.only {w w' : World} {B:Nat} {a a' : Option Addr} {n:Nat} {f:Nat->Int} (h:OwnB w B a n f) (ho:OnlyAt a' w w') (hne:n≠0->∀x y,a=some x->a'=some y->y.block≠x.block):OwnB w' B a n f:=by
 rcases h with h|⟨g,rfl,hg,hr⟩
 ·exact Or.inl h
 ·by_cases hn:n=0
  ·exact Or.inl hn
  ·exact Or.inr ⟨g,rfl,hg,hr.of_block (ho.block g (fun y e=>hne hn ⟨g,0,none⟩ y rfl e))⟩

def RdN (w:World) (a:Option Addr) (n:Nat) (I:Nat->Int) (X:Nat->ByteArray) (R:Nat->ByteArray):Prop:=
 n=0\/∃b o,a=some ⟨b,o,none⟩/\∀i,i<n->w.cell? ⟨b,o+i*3,none⟩=some (.int .i64 (I i))/\w.cell? ⟨b,o+i*3+1,none⟩=some (.string (X i))/\w.cell? ⟨b,o+i*3+2,none⟩=some (.string (R i))

theorem RdN.below {w w' : World} {a:Option Addr} {n:Nat} {I:Nat->Int} {X:Nat->ByteArray} {R:Nat->ByteArray} (h:RdN w a n I X R) (hb:Below w.heap.size w w'):RdN w' a n I X R:=by
 rcases h with h|⟨b,o,rfl,hc⟩
 ·exact Or.inl h
 ·refine Or.inr ⟨b,o,rfl,fun i hi=>?_⟩
  obtain ⟨h1,h2,h3⟩:=hc i hi
  refine ⟨?_,?_,?_⟩
  ·rw [hb.cell (p:=⟨b,o+i*3,none⟩) (World.block_lt_of_cell? _ _ h1)];exact h1
  ·rw [hb.cell (p:=⟨b,o+i*3+1,none⟩) (World.block_lt_of_cell? _ _ h2)];exact h2
  ·rw [hb.cell (p:=⟨b,o+i*3+2,none⟩) (World.block_lt_of_cell? _ _ h3)];exact h3

def pnCell (I:Nat->Int) (X:Nat->ByteArray) (R:Nat->ByteArray) (c:Nat):Value:=
 if c % 3=0 then .int .i64 (I (c / 3)) else if c % 3=1 then .string (X (c / 3)) else .string (R (c / 3))

theorem pnCell_0 (I:Nat->Int) (X:Nat->ByteArray) (R:Nat->ByteArray) (i:Nat):pnCell I X R (i*3)=.int .i64 (I i):=by
 unfold pnCell
 rw [if_pos (by omega),show i*3 / 3=i by omega]
theorem pnCell_1 (I:Nat->Int) (X:Nat->ByteArray) (R:Nat->ByteArray) (i:Nat):pnCell I X R (i*3+1)=.string (X i):=by
 unfold pnCell
 rw [if_neg (by omega),if_pos (by omega),show (i*3+1) / 3=i by omega]
theorem pnCell_2 (I:Nat->Int) (X:Nat->ByteArray) (R:Nat->ByteArray) (i:Nat):pnCell I X R (i*3+2)=.string (R i):=by
 unfold pnCell
 rw [if_neg (by omega),if_neg (by omega),show (i*3+2) / 3=i by omega]

theorem rdN_row {w:World} {g n:Nat} {I:Nat->Int} {X:Nat->ByteArray} {R:Nat->ByteArray} (h:rowIn w g 83 (n*3) (pnCell I X R)):RdN w (some ⟨g,0,none⟩) n I X R:=by
 refine Or.inr ⟨g,0,rfl,fun i hi=>⟨?_,?_,?_⟩⟩
 ·have:=h.cell (i:=i*3) (by omega)
  rw [pnCell_0] at this
  simpa using this
 ·have:=h.cell (i:=i*3+1) (by omega)
  rw [pnCell_1] at this
  simpa using this
 ·have:=h.cell (i:=i*3+2) (by omega)
  rw [pnCell_2] at this
  simpa using this

theorem madeN (w:World) (m:Nat):rowIn (w.alloc (.cells (madeCells #[.int .i64 0,.string { data:=#[] },.string { data:=#[] }] (m*3)) 83)) w.heap.size 83 (m*3) (pnCell (fun _=>0) (fun _=>{ data:=#[] }) (fun _=>{ data:=#[] })):=by
 refine ⟨_,blk_alloc_new _ _,by rw [size_madeCells];exact Nat.le_refl _,fun i hi=>?_⟩
 unfold pnCell
 have h3:i % 3=0\/i % 3=1\/i % 3=2:=by omega
 rcases h3 with e|e|e
 all_goals simp [madeCells,hi,e]
end Go.Proofs.YtpaomghibppgkaaGreat
namespace Go.Proofs.YtpaomghibppgkaaGreat

def dep (a:Nat->Nat):Nat->Int
 | 0=>0
 | i+1=>dep a i-a i+1

def StackOk (a:Nat->Nat) (n:Nat):Prop:=∀i,i<n->(a i:Int)<=dep a i

theorem dep_succ (a:Nat->Nat) (i:Nat):dep a (i+1)=dep a i-a i+1:=rfl
theorem StackOk.pos {a:Nat->Nat} {n:Nat} (h:StackOk a n):∀j,0<j->j<=n->1<=dep a j
 | 0,h0,_=>absurd h0 (Nat.lt_irrefl _)
 | j+1,_,h1=>by
  have:=h j (by omega)
  rw [dep_succ]
  omega

theorem stackOk_iff (a:Nat->Nat) (n:Nat):StackOk a n↔∀j,0<j->j<=n->1<=dep a j:=by
 constructor
 ·intro h j h0 h1
  exact h.pos j h0 h1
 ·intro h i hi
  have:=h (i+1) (by omega) (by omega)
  rw [dep_succ] at this
  omega

def need (a:Nat->Nat) (e j:Nat):Int:=1-dep a e+dep a j
theorem need_end (a:Nat->Nat) (e:Nat):need a e e=1:=by unfold need;omega
theorem need_step (a:Nat->Nat) (e j:Nat):need a e j=need a e (j+1)-1+a j:=by unfold need;rw [dep_succ];omega

def Begins (a:Nat->Nat) (e s:Nat):Prop:=s<e/\need a e s=0/\∀j,s<j->j<=e->0<need a e j

theorem Begins.uniq {a:Nat->Nat} {e s s' : Nat} (h:Begins a e s) (h' : Begins a e s'):s=s':=by
 rcases Nat.lt_trichotomy s s' with hl|hl|hl
 ·have:=h.2.2 s' hl (by have:=h'.1;omega)
  have:=h'.2.1
  omega
 ·exact hl
 ·have:=h'.2.2 s hl (by have:=h.1;omega)
  have:=h.2.1
  omega

theorem StackOk.begins {a:Nat->Nat} {n:Nat} (h:StackOk a n):∀e,0<e->e<=n->∃s,Begins a e s:=by
 intro e h0 h1
 have hp:=h.pos e h0 h1
 have key:∀k,k<=e->(∀j,e-k<j->j<=e->0<need a e j)\/∃s,Begins a e s:=by
  intro k
  induction k with
  | zero=>exact fun _=>Or.inl (fun j h2 h3=>absurd h2 (by omega))
  | succ k ih=>
   intro hk
   rcases ih (by omega) with h2|h2
   ·by_cases hz:need a e (e-k)=0
    ·have hk0:k≠0:=fun e0=>by subst e0;rw [Nat.sub_zero,need_end] at hz;omega
     exact Or.inr ⟨e-k,by omega,hz,h2⟩
    ·refine Or.inl (fun j h3 h4=>?_)
     by_cases hj:j=e-k
     ·subst hj
      by_cases hk0:k=0
      ·subst hk0;rw [Nat.sub_zero,need_end];omega
      ·have h5:=h2 (e-k+1) (by omega) (by omega)
       have h6:=need_step a e (e-k)
       omega
     ·exact h2 j (by omega) h4
   ·exact Or.inr h2
 rcases key e (Nat.le_refl _) with h2|h2
 ·refine ⟨0,h0,?_,fun j hj hje=>h2 j (by omega) hje⟩
  have h3:=h2 1 (by omega) (by omega)
  have h4:need a e 0=need a e 1-1+a 0:=need_step a e 0
  have h5:dep a 0=0:=rfl
  have h6:need a e 0=1-dep a e:=by unfold need;rw [h5];omega
  omega
 ·exact h2

theorem whole_iff (a:Nat->Nat) (n:Nat) (hn:0<n):Begins a n 0↔(StackOk a n/\dep a n=1):=by
 constructor
 ·rintro ⟨_,h1,h2⟩
  have hd:dep a n=1:=by
   unfold need at h1
   have:dep a 0=0:=rfl
   omega
  refine ⟨(stackOk_iff a n).2 (fun j h3 h4=>?_),hd⟩
  have:=h2 j h3 h4
  unfold need at this
  omega
 ·rintro ⟨h1,h2⟩
  refine ⟨hn,?_,fun j h3 h4=>?_⟩
  ·unfold need
   have:dep a 0=0:=rfl
   omega
  ·have:=h1.pos j h3 h4
   unfold need
   omega

def StackAt (a:Nat->Nat) (e k r:Nat):Prop:=r<e/\dep a (r+1)=k/\∀j,r<j->j<e->k<dep a (j+1)

theorem StackAt.uniq {a:Nat->Nat} {e k r r' : Nat} (h:StackAt a e k r) (h' : StackAt a e k r'):r=r':=by
 rcases Nat.lt_trichotomy r r' with hl|hl|hl
 ·have:=h.2.2 r' hl h'.1
  have:=h'.2.1
  omega
 ·exact hl
 ·have:=h'.2.2 r hl h.1
  have:=h.2.1
  omega

theorem stackAt_top {a:Nat->Nat} {e k:Nat} (hk:dep a (e+1)=k):StackAt a (e+1) k e:=⟨by omega,hk,fun j h1 h2=>absurd h1 (by omega)⟩

theorem StackAt.stay {a:Nat->Nat} {e k r:Nat} (h:StackAt a e k r) (hk:(k:Int)<=dep a e-a e):StackAt a (e+1) k r:=by
 refine ⟨by have:=h.1;omega,h.2.1,fun j h1 h2=>?_⟩
 by_cases e1:j=e
 ·subst e1;rw [dep_succ];omega
 ·exact h.2.2 j h1 (by omega)

theorem Begins.next {a:Nat->Nat} {e s k:Nat} (h:Begins a e s) (hk:dep a e=k+1) (h0:0<k):∃r,s=r+1/\StackAt a e k r:=by
 obtain ⟨h1,h2,h3⟩:=h
 unfold need at h2
 cases s with
 | zero=>
  have:dep a 0=0:=rfl
  omega
 | succ r=>
  refine ⟨r,rfl,by omega,by omega,fun j h4 h5=>?_⟩
  have:=h3 (j+1) (by omega) (by omega)
  unfold need at this
  omega
end Go.Proofs.YtpaomghibppgkaaGreat
namespace Go.Proofs.YtpaomghibppgkaaGreat
open Go.RowKit Go.Deep

def RdS (w:World) (a:Option Addr) (n:Nat) (X:Nat->ByteArray):Prop:=
 n=0\/∃b o,a=some ⟨b,o,none⟩/\∀i,i<n->w.cell? ⟨b,o+i,none⟩=some (.string (X i))
def OwnS (w:World) (B:Nat) (a:Option Addr) (n:Nat) (X:Nat->ByteArray):Prop:=
 n=0\/∃g,a=some ⟨g,0,none⟩/\B<=g/\rowIn w g 9 n (fun i=>.string (X i))
def strRow (X:Nat->ByteArray) (n:Nat):List Value:=(List.range n).map fun j=>.string (X j)
theorem strRow_length (X:Nat->ByteArray) (n:Nat):(strRow X n).length=n:=by simp [strRow]
theorem strRow_get (X:Nat->ByteArray) (n i:Nat) (h:i<n):(strRow X n)[i]?=some (.string (X i)):=by simp [strRow,h]

section
variable {w w' : World} {B B' : Nat} {a:Option Addr} {n:Nat} {X X' : Nat->ByteArray}
theorem RdS.below (h:RdS w a n X) (hb:Below w.heap.size w w'):RdS w' a n X:=by
 rcases h with h|⟨b,o,rfl,hc⟩
 ·exact Or.inl h
 ·refine Or.inr ⟨b,o,rfl,fun i hi=>?_⟩
  rw [hb.cell (p:=⟨b,o+i,none⟩) (World.block_lt_of_cell? _ _ (hc i hi))]
  exact hc i hi
theorem RdS.congr (h:RdS w a n X) (e:∀i,i<n->X i=X' i):RdS w a n X':=by
 rcases h with h|⟨b,o,rfl,hc⟩
 ·exact Or.inl h
 ·exact Or.inr ⟨b,o,rfl,fun i hi=>by rw [hc i hi,e i hi]⟩
theorem OwnS.rd (h:OwnS w B a n X):RdS w a n X:=by
 rcases h with h|⟨g,rfl,_,hr⟩
 ·exact Or.inl h
 ·exact Or.inr ⟨g,0,rfl,fun i hi=>by rw [Nat.zero_add];exact hr.cell hi⟩
theorem OwnS.mono (h:OwnS w B a n X) (hB:B'<=B):OwnS w B' a n X:=by
 rcases h with h|⟨g,rfl,hg,hr⟩
 ·exact Or.inl h
 ·exact Or.inr ⟨g,rfl,by omega,hr⟩
theorem OwnS.below (h:OwnS w B a n X) (hb:Below w.heap.size w w'):OwnS w' B a n X:=by
 rcases h with h|⟨g,rfl,hg,hr⟩
 ·exact Or.inl h
 ·exact Or.inr ⟨g,rfl,hg,hr.of_block (hb.block g hr.lt)⟩
theorem OwnS.congr (h:OwnS w B a n X) (e:∀i,i<n->X i=X' i):OwnS w B a n X':=by
 rcases h with h|⟨g,rfl,hg,hr⟩
 ·exact Or.inl h
 ·exact Or.inr ⟨g,rfl,hg,hr.congr (fun i hi=>by rw [e i hi])⟩
theorem OwnS.setOther (h:OwnS w B a n X) {p:Addr} (hp:p.block<B) (v:Value):OwnS (w.setCell p v) B a n X:=by
 rcases h with h|⟨g,rfl,hg,hr⟩
 ·exact Or.inl h
 ·exact Or.inr ⟨g,rfl,hg,hr.of_block (Below.heap_setCell _ _ _ _ (by omega))⟩
theorem ownS_ofRow {v:Value} (h:w.ownsRow B 9 1 v n (strRow X n)):∃a c,v=.slice a n c/\OwnS w B a n X/\n<=c/\c<=9223372036854775807:=by
 obtain ⟨_,h⟩:=h
 rcases h with ⟨rfl,rfl⟩|⟨g,cap,cur,rfl,hg,hh,h1,h2,h3,h4⟩
 ·exact ⟨none,0,rfl,Or.inl rfl,Nat.le_refl _,by omega⟩
 ·unfold maxLen at h2
  refine ⟨_,cap,rfl,Or.inr ⟨g,rfl,hg,cur,hh,by omega,fun i hi=>?_⟩,h1,h2⟩
  rw [<- strRow_get X n i hi,<- h4]
  have:i<n*1:=by omega
  rw [List.getElem?_take,if_pos this]
  simp
end

structure Tn where
 lf:Bool
 kn:Nat
 ks:Nat->ByteArray
 dn:Nat
 kd:Nat->Int
 ct:Int

def TnAt (w:World) (x:Tn) (v0 v1 v2 v3:Value):Prop:=
 v0=.bool x.lf/\v3=.int .i64 x.ct/\∃ka kc da dc,v1=.slice ka x.kn kc/\v2=.slice da x.dn dc/\RdS w ka x.kn x.ks/\Rd .i64 w da x.dn x.kd

def RdTn (w:World) (a:Option Addr) (n:Nat) (N:Nat->Tn):Prop:=
 n=0\/∃b o,a=some ⟨b,o,none⟩/\∀i,i<n->∃ka kc da dc,w.cell? ⟨b,o+i*4,none⟩=some (.bool (N i).lf)/\w.cell? ⟨b,o+i*4+1,none⟩=some (.slice ka (N i).kn kc)/\
  w.cell? ⟨b,o+i*4+2,none⟩=some (.slice da (N i).dn dc)/\w.cell? ⟨b,o+i*4+3,none⟩=some (.int .i64 (N i).ct)/\RdS w ka (N i).kn (N i).ks/\Rd .i64 w da (N i).dn (N i).kd

theorem RdTn.below {w w' : World} {a:Option Addr} {n:Nat} {N:Nat->Tn} (h:RdTn w a n N) (hb:Below w.heap.size w w'):RdTn w' a n N:=by
 rcases h with h|⟨b,o,rfl,hc⟩
 ·exact Or.inl h
 ·refine Or.inr ⟨b,o,rfl,fun i hi=>?_⟩
  obtain ⟨ka,kc,da,dc,h0,h1,h2,h3,h4,h5⟩:=hc i hi
  refine ⟨ka,kc,da,dc,?_,?_,?_,?_,h4.below hb,h5.below hb⟩
  ·rw [hb.cell (World.block_lt_of_cell? _ _ h0)];exact h0
  ·rw [hb.cell (World.block_lt_of_cell? _ _ h1)];exact h1
  ·rw [hb.cell (World.block_lt_of_cell? _ _ h2)];exact h2
  ·rw [hb.cell (World.block_lt_of_cell? _ _ h3)];exact h3

def tnCell (N:Nat->Tn) (KA DA:Nat->Option Addr) (KC DC:Nat->Nat) (c:Nat):Value:=
 if c % 4=0 then .bool (N (c / 4)).lf else if c % 4=1 then .slice (KA (c / 4)) (N (c / 4)).kn (KC (c / 4)) else if c % 4=2 then .slice (DA (c / 4)) (N (c / 4)).dn (DC (c / 4)) else .int .i64 (N (c / 4)).ct

section
variable (N:Nat->Tn) (KA DA:Nat->Option Addr) (KC DC:Nat->Nat) (i:Nat)
theorem tnCell_0:tnCell N KA DA KC DC (i*4)=.bool (N i).lf:=by
 unfold tnCell
 rw [if_pos (by omega),show i*4 / 4=i by omega]
theorem tnCell_1:tnCell N KA DA KC DC (i*4+1)=.slice (KA i) (N i).kn (KC i):=by
 unfold tnCell
 rw [if_neg (by omega),if_pos (by omega),show (i*4+1) / 4=i by omega]
theorem tnCell_2:tnCell N KA DA KC DC (i*4+2)=.slice (DA i) (N i).dn (DC i):=by
 unfold tnCell
 rw [if_neg (by omega),if_neg (by omega),if_pos (by omega),show (i*4+2) / 4=i by omega]
theorem tnCell_3:tnCell N KA DA KC DC (i*4+3)=.int .i64 (N i).ct:=by
 unfold tnCell
 rw [if_neg (by omega),if_neg (by omega),if_neg (by omega),show (i*4+3) / 4=i by omega]
end

def OwnI (w:World) (B:Nat) (a:Option Addr) (n:Nat) (f:Nat->Int):Prop:=
 n=0\/∃g,a=some ⟨g,0,none⟩/\B<=g/\rowIn w g 2 n (fun i=>.int .i64 (f i))

theorem OwnI.rd {w:World} {B:Nat} {a:Option Addr} {n:Nat} {f:Nat->Int} (h:OwnI w B a n f):Rd .i64 w a n f:=by
 rcases h with h|⟨g,rfl,_,hr⟩
 ·exact Or.inl h
 ·exact Or.inr ⟨g,0,rfl,fun i hi=>by rw [Nat.zero_add];exact hr.cell hi⟩
theorem OwnI.mono {w:World} {B B' : Nat} {a:Option Addr} {n:Nat} {f:Nat->Int} (h:OwnI w B a n f) (hB:B'<=B):OwnI w B' a n f:=by
 rcases h with h|⟨g,rfl,hg,hr⟩
 ·exact Or.inl h
 ·exact Or.inr ⟨g,rfl,by omega,hr⟩
theorem OwnI.below {w w' : World} {B:Nat} {a:Option Addr} {n:Nat} {f:Nat->Int} (h:OwnI w B a n f) (hb:Below w.heap.size w w'):OwnI w' B a n f:=by
 rcases h with h|⟨g,rfl,hg,hr⟩
 ·exact Or.inl h
 ·exact Or.inr ⟨g,rfl,hg,hr.of_block (hb.block g hr.lt)⟩

structure OwnTn (w:World) (B g n:Nat) (N:Nat->Tn) (KA DA:Nat->Option Addr) (KC DC:Nat->Nat):Prop where
 le:B<=g
 row:rowIn w g 210 (n*4) (tnCell N KA DA KC DC)
 keys:∀i,i<n->OwnS w B (KA i) (N i).kn (N i).ks
 kids:∀i,i<n->OwnI w B (DA i) (N i).dn (N i).kd
 apartK:∀i j,i<n->j<n->i≠j->(N i).kn≠0->(N j).kn≠0->KA i≠KA j
 apartD:∀i j,i<n->j<n->i≠j->(N i).dn≠0->(N j).dn≠0->DA i≠DA j

theorem OwnTn.rd {w:World} {B g n:Nat} {N:Nat->Tn} {KA DA:Nat->Option Addr} {KC DC:Nat->Nat} (h:OwnTn w B g n N KA DA KC DC):RdTn w (some ⟨g,0,none⟩) n N:=by
 refine Or.inr ⟨g,0,rfl,fun i hi=>⟨KA i,KC i,DA i,DC i,?_,?_,?_,?_,(h.keys i hi).rd,(h.kids i hi).rd⟩⟩
 ·have:=h.row.cell (i:=i*4) (by omega)
  rw [tnCell_0] at this
  simpa using this
 ·have:=h.row.cell (i:=i*4+1) (by omega)
  rw [tnCell_1] at this
  simpa using this
 ·have:=h.row.cell (i:=i*4+2) (by omega)
  rw [tnCell_2] at this
  simpa using this
 ·have:=h.row.cell (i:=i*4+3) (by omega)
  rw [tnCell_3] at this
  simpa using this

def Bx (w:World) (b:Nat) (t:TypeId) (cur:Array Value):Prop:=w.heap[b]?=some (.cells cur t (0,0))

namespace Bx
variable {w w' : World} {b:Nat} {t:TypeId} {cur:Array Value}
theorem new (w:World) (cur:Array Value) (t:TypeId):Bx (w.alloc (.cells cur t)) w.heap.size t cur:=blk_alloc_new _ _
theorem lt (h:Bx w b t cur):b<w.heap.size:=(Array.getElem?_eq_some_iff.1 h).1
theorem of_block (h:Bx w b t cur) (e:w'.heap[b]?=w.heap[b]?):Bx w' b t cur:=e.trans h
theorem below (h:Bx w b t cur) (hb:Below w.heap.size w w'):Bx w' b t cur:=h.of_block (hb.block b h.lt)
theorem below' {B:Nat} (h:Bx w b t cur) (hb:Below B w w') (hB:b<B):Bx w' b t cur:=h.of_block (hb.block b hB)
theorem cell (h:Bx w b t cur) (i:Nat):w.cell? ⟨b,i,none⟩=cur[i]?:=by
 unfold Bx at h
 simp [World.cell?,h]
theorem frozen (h:Bx w b t cur) (i:Nat):w.frozen? ⟨b,i,none⟩=false:=by
 unfold Bx at h
 simp [World.frozen?,h]
theorem set (h:Bx w b t cur) (i:Nat) (v:Value):Bx (w.setCell ⟨b,i,none⟩ v) b t (cur.setIfInBounds i v):=by
 unfold Bx at h ⊢
 simp [World.setCell,Array.getElem?_modify,h]
theorem other (h:Bx w b t cur) {p:Addr} (hp:b≠p.block) (v:Value):Bx (w.setCell p v) b t cur:=h.of_block (Below.heap_setCell _ _ _ _ hp)
theorem grown {row:Option Nat} (h:Bx w b t cur) (hg:w.grownBy w' row) (hr:row≠some b):Bx w' b t cur:=h.of_block (hg.block b h.lt (fun e=>hr e.symm))
theorem alloc (h:Bx w b t cur) (o:Obj):Bx (w.alloc o) b t cur:=h.below (below_alloc _ _)
theorem drew (h:Bx w b t cur):Bx w.drew b t cur:=h
end Bx

theorem own_lt {w:World} {base:Nat} {e:TypeId} {size:Nat} {v:Value} {n:Nat} {xs:List Value} (h:w.ownsRow base e size v n xs):∀g,v.ownBlock=some g->base<=g/\g<w.heap.size:=by
 intro g hg
 rcases h.2 with ⟨rfl,_⟩|⟨g',cap,cur,rfl,hb,hh,_⟩
 ·simp [Value.ownBlock] at hg
 ·simp [Value.ownBlock] at hg
  subst hg
  exact ⟨hb,(Array.getElem?_eq_some_iff.1 hh).1⟩
theorem own_form {w:World} {base:Nat} {e:TypeId} {size:Nat} {v:Value} {n:Nat} {xs:List Value} (h:w.ownsRow base e size v n xs):∃a c,v=.slice a n c/\(n≠0->∃g,a=some ⟨g,0,none⟩/\base<=g/\g<w.heap.size/\∀j u,xs[j]?=some u->w.cell? ⟨g,j,none⟩=some u):=by
 rcases h.2 with ⟨rfl,rfl⟩|⟨g',cap,cur,rfl,hb,hh,h1,h2,h3,h4⟩
 ·exact ⟨none,0,rfl,fun h=>absurd rfl h⟩
 ·refine ⟨_,_,rfl,fun _=>⟨g',rfl,hb,(Array.getElem?_eq_some_iff.1 hh).1,fun j u hj=>?_⟩⟩
  rw [<- h4,List.getElem?_take] at hj
  split at hj
  ·simp only [World.cell?,hh]
   simpa using hj
  ·cases hj
theorem own_below {w w' : World} {base:Nat} {e:TypeId} {size:Nat} {v:Value} {n:Nat} {xs:List Value} (h:w.ownsRow base e size v n xs) (hb:Below w.heap.size w w'):w'.ownsRow base e size v n xs:=
 h.kept (w':=w') (row:=none) ⟨hb.os,hb.tape,hb.output,hb.size,fun k hk _=>hb.block k hk⟩ (by cases hv:v.ownBlock <;> simp)
theorem own_cap {w:World} {base:Nat} {e:TypeId} {size:Nat} {a:Option Addr} {n c:Nat} {xs:List Value} (h:w.ownsRow base e size (.slice a n c) n xs):n<=c/\c<=9223372036854775807:=by
 rcases h.2 with ⟨q,rfl⟩|⟨g,cap,cur,q,_,_,h1,h2,_⟩
 ·injection q with _ _ q
  omega
 ·injection q with _ _ q
  unfold maxLen at h2
  omega
end Go.Proofs.YtpaomghibppgkaaGreat
namespace Go.Proofs.YtpaomghibppgkaaGreat
open Go

/-! A drawn region whose last operation writes a cell that the region reads: what holds of the world is asked behind every operation but that one. -/
section
variable {P:Program} {ops:Array Oper} {Q:Exit->Act->World->Prop} {md:Region.Mode} {S:World->Prop} {late:Nat}

def wpLate (P:Program) (md:Region.Mode) (ops:Array Oper) (Q:Exit->Act->World->Prop) (S:World->Prop) (late:Nat):Nat->Array Bool->Act->World->Prop
 | 0,listed,a,w=>Region.ready md ops listed=[]/\Q .normal a w
 | fuel+1,listed,a,w=>(Region.ready md ops listed=[]->Q .normal a w)/\
  ∀i∈Region.ready md ops listed,wpOp P ops Q i (fun a' w'=>(i≠late->S w')/\wpLate P md ops Q S late fuel (listed.setIfInBounds i true) a' w') a w

theorem wpAny_of_late:∀(fuel:Nat) (listed:Array Bool) (a:Act) (w:World),wpLate P md ops Q S late fuel listed a w->wpAny P md ops Q fuel listed a w
 | 0,_,_,_,h=>h
 | fuel+1,_,_,_,h=>⟨h.1,fun i hi=>wpOp_mono (fun a' w' h'=>wpAny_of_late fuel _ a' w' h'.2) (h.2 i hi)⟩

def Waits (md:Region.Mode) (ops:Array Oper) (i:Nat) (ch:List Nat):Prop:=
 ∀c∈ch,c=i\/∃o,ops[c]?=some o/\∃e∈o.after,Region.binds md e=true/\e.on∈ch

theorem Waits.not_ready {i:Nat} {ch:List Nat} (h:Waits md ops i ch) {listed:Array Bool} (hl:∀c∈ch,listed.getD c true=false) {j:Nat} (hj:j∈Region.ready md ops listed) (hji:j≠i):j∉ch:=fun hm=>by
 rcases h j hm with h|⟨o,ho,e,he,hb,hc⟩
 ·exact hji h
 ·obtain ⟨_,oj,hoj,hall⟩:=mem_ready.1 hj
  rw [ho] at hoj
  injection hoj with hoj
  subst hoj
  have h1:=hall e he hb
  have h2:=hl _ hc
  rcases Nat.lt_or_ge e.on listed.size with h' | h'
  ·simp [h'] at h1 h2
   rw [h2] at h1
   cases h1
  ·simp [Array.getElem?_eq_none h'] at h1

theorem wpLate_first {i:Nat} {oi:Oper} {v:Value} {ch:List Nat} (hi:ops[i]?=some oi) (hsel:∀(j:Nat) (o:Oper) cs b,ops[j]?=some o->o.op≠.select cs b)
  (hQ:∀c a w,Q (.panic c) (a.put oi.dst v) w->Q (.panic c) a w) (hw:Waits md ops i ch) (hlate:late∈ch) (hil:i≠late) :
  ∀(fuel:Nat) (listed:Array Bool) (a:Act) (w:World),
   (∀j oj,ops[j]?=some oj->j≠i->listed.getD j true=false->(∀e∈oj.after,Region.binds md e=true->e.on≠i)->oi.apart ops oj=true)->
   (∀c∈ch,listed.getD c true=false)->
   i∈Region.ready md ops listed->YieldsIf P ops S oi v a->S w->
   wpLate P md ops Q S late fuel (listed.setIfInBounds i true) (a.put oi.dst v) w->wpLate P md ops Q S late (fuel+1) listed a w:=by
 intro fuel
 induction fuel with
 | zero=>
  intro listed a w _ _ hr hy hS H
  refine ⟨fun h=>(by rw [h] at hr;cases hr),fun j hj=>?_⟩
  by_cases hji:j=i
  ·subst hji;exact hy.wpOp hi hS ⟨fun _=>hS,H⟩
  ·have:=ready_mono hj hji
   rw [H.1] at this
   cases this
 | succ fuel ih=>
  intro listed a w hfree hch hr hy hS H
  refine ⟨fun h=>(by rw [h] at hr;cases hr),fun j hj=>?_⟩
  by_cases hji:j=i
  ·subst hji;exact hy.wpOp hi hS ⟨fun _=>hS,H⟩
  ·have hjc:=hw.not_ready hch hj hji
   have hjl:j≠late:=fun e=>hjc (e ▸ hlate)
   have h1:=H.2 j (ready_mono hj hji)
   obtain ⟨hjun,oj,hoj,hall⟩:=mem_ready.1 hj
   have hnot:∀e∈oj.after,Region.binds md e=true->e.on≠i:=fun e he hb heq=>by
    have h1:=hall e he hb
    have h0:=(mem_ready.1 hr).1
    rw [heq] at h1
    rcases Nat.lt_or_ge i listed.size with h' | h'
    ·simp [h'] at h0 h1;rw [h0] at h1;cases h1
    ·simp [Array.getElem?_eq_none h'] at h1
   have h2:=wpOp_putIf hoj (hfree j oj hoj hji hjun hnot) (fun cs b=>hsel i oi cs b hi) (fun cs b=>hsel j oj cs b hoj) hQ hy h1
   have hfree' : ∀k ok,ops[k]?=some ok->k≠i->(listed.setIfInBounds j true).getD k true=false->
     (∀e∈ok.after,Region.binds md e=true->e.on≠i)->oi.apart ops ok=true:=fun k ok hk hki hun hno=>by
    refine hfree k ok hk hki ?_ hno
    by_cases hjk:j=k
    ·subst hjk;exact hjun
    ·rw [getD_set_ne true hjk] at hun;exact hun
   have hch' : ∀c∈ch,(listed.setIfInBounds j true).getD c true=false:=fun c hc=>by
    have hjk:j≠c:=fun e=>hjc (e ▸ hc)
    rw [getD_set_ne true hjk]
    exact hch c hc
   refine wpOp_mono (fun a' w' h3=>⟨fun _=>h3.2.1 hjl,ih (listed.setIfInBounds j true) a' w' hfree' hch' (ready_mono hr (Ne.symm hji)) h3.1 (h3.2.1 hjl) ?_⟩) h2
   rw [Array.setIfInBounds_comm _ _ hji]
   exact h3.2.2

def behind (ops:Array Oper) (i:Nat):Nat->List Nat
 | 0=>[i]
 | n+1=>let l:=behind ops i n
  l++(List.range ops.size).filter fun j=>!l.contains j && (match ops[j]? with|some o=>o.after.any fun e=>Region.binds .any e && l.contains e.on|none=>false)
def waitsB (ops:Array Oper) (listed:Array Bool) (i late:Nat) (ch:List Nat):Bool:=
 ch.contains late && i != late && ch.all fun c=>!(listed.getD c true) && (c == i || (match ops[c]? with|some o=>o.after.any fun e=>Region.binds .any e && ch.contains e.on|none=>false))

theorem waitsB_spec {listed:Array Bool} {i:Nat} {ch:List Nat} (h:waitsB ops listed i late ch=true):late∈ch/\i≠late/\Waits .any ops i ch/\∀c∈ch,listed.getD c true=false:=by
 unfold waitsB at h
 simp only [Bool.and_eq_true,List.all_eq_true,Bool.not_eq_true',Bool.or_eq_true,bne_iff_ne,ne_eq,List.contains_iff_mem,beq_iff_eq] at h
 obtain ⟨⟨h1,h2⟩,h3⟩:=h
 refine ⟨h1,h2,fun c hc=>?_,fun c hc=>(h3 c hc).1⟩
 rcases (h3 c hc).2 with h|h
 ·exact Or.inl h
 ·cases ho:ops[c]? with
  | none=>rw [ho] at h;cases h
  | some o=>
   rw [ho] at h
   simp only [Array.any_eq_true',Bool.and_eq_true,List.contains_iff_mem] at h
   obtain ⟨e,he,hb,hm⟩:=h
   exact Or.inr ⟨o,rfl,e,he,hb,hm⟩

theorem wpLate_take {i:Nat} {oi:Oper} {v:Value} {fuel:Nat} {listed:Array Bool} {a:Act} {w:World} (n:Nat) (hi:ops[i]?=some oi)
  (hs:Region.noSelect ops=true) (hf:Region.free .any ops listed i=true) (hr:(Region.ready .any ops listed).contains i=true) (hwt:waitsB ops listed i late (behind ops i n)=true)
  (hQ:∀c a w,Q (.panic c) (a.put oi.dst v) w->Q (.panic c) a w) (hy:YieldsIf P ops S oi v a) (hS:S w)
  (h:wpLate P .any ops Q S late fuel (listed.setIfInBounds i true) (a.put oi.dst v) w):wpLate P .any ops Q S late (fuel+1) listed a w:=by
 obtain ⟨h1,h2,h3,h4⟩:=waitsB_spec hwt
 exact wpLate_first hi (Region.noSelect_spec hs) hQ h3 h1 h2 fuel listed a w (Region.free_spec hi hf) h4 (by simpa using hr) hy hS h

theorem wpLate_one {i:Nat} {o:Oper} {fuel:Nat} {listed:Array Bool} {a:Act} {w:World} (hr:Region.ready md ops listed=[i]) (ho:ops[i]?=some o)
  (h:∀K' : Act->World->Prop,Shut (∀a w,(i≠late->S w)->((i≠late->S w)->wpLate P md ops Q S late fuel (listed.setIfInBounds i true) a w)->K' a w)->if Region.wanted o (yielded ops a.tmps)=true then Oper.wp P o a w K' Q else K' (a.put o.dst undef) w) :
  wpLate P md ops Q S late (fuel+1) listed a w:=
 ⟨fun h0=>(by rw [hr] at h0;cases h0),fun j hj=>by
  rw [hr] at hj
  have:j=i:=by simpa using hj
  subst this
  exact wpOp_step ho (fun K' hK=>h K' (fun a w hS hW=>hK a w ⟨hS,hW hS⟩))⟩

theorem wpLate_done {listed:Array Bool} {a:Act} {w:World} (hr:Region.ready md ops listed=[]) (h:Q .normal a w):∀fuel,wpLate P md ops Q S late fuel listed a w
 | 0=>⟨hr,h⟩
 | _+1=>⟨fun _=>h,by rw [hr];simp⟩

theorem wp_region_late {id:Nat} {a:Act} {w:World} (late:Nat) (hm:P.follows .mixedOrders=true) (hS:S w.drew)
  (h:S w.drew->wpLate P .any ops Q S late ops.size (Array.replicate ops.size false) a w.drew):(Code.region id ops true).wp P Q a w:=
 wp_region_any hm (wpAny_of_late _ _ _ _ (h hS))
end


def Pick:Nat->List Oper->Oper->Prop
 | 0,y::_,x=>y=x
 | k+1,_::l,x=>Pick k l x
 | _,[],_=>False
theorem Pick.zero {x:Oper} {l:List Oper}:Pick 0 (x::l) x:=rfl
theorem Pick.succ {k:Nat} {x y:Oper} {l:List Oper} (h:Pick k l x):Pick (k+1) (y::l) x:=h
theorem Pick.get:∀{k:Nat} {l:List Oper} {x:Oper},Pick k l x->l.toArray[k]?=some x
 | 0,y::l,x,h=>by
  have e:y=x:=h
  simp [e]
 | k+1,y::l,x,h=>by
  have e:Pick k l x:=h
  simpa using e.get
 | 0,[],_,h=>h.elim
 | k+1,[],_,h=>h.elim

theorem late_take {l:List Oper} {P:Program} {Q:Exit->Act->World->Prop} {S:World->Prop} {late:Nat} (i:Nat) {oi:Oper} (hp:Pick i l oi) {v:Value} {fuel:Nat} {listed:Array Bool} {a:Act} {w:World} 
  (hs:Region.noSelect l.toArray=true) (hf:Region.free .any l.toArray listed i=true) (hr:(Region.ready .any l.toArray listed).contains i=true) (hwt:waitsB l.toArray listed i late (behind l.toArray i 8)=true)
  (hQ:∀c a w,Q (.panic c) (a.put oi.dst v) w->Q (.panic c) a w) (hw:Region.wanted oi (yielded l.toArray a.tmps)=true) (hy:∀w,S w->(execOp a.eval oi).run P w=.ok (.value v) w) (hS:S w)
  (h:wpLate P .any l.toArray Q S late fuel (listed.setIfInBounds i true) (a.put oi.dst v) w):wpLate P .any l.toArray Q S late (fuel+1) listed a w:=
 wpLate_take 8 hp.get hs hf hr hwt hQ (Or.inl ⟨hw,hy⟩) hS h

theorem late_one {l:List Oper} {P:Program} {Q:Exit->Act->World->Prop} {S:World->Prop} {late:Nat} (i:Nat) {o:Oper} (hp:Pick i l o) {fuel:Nat} {listed:Array Bool} {a:Act} {w:World} (hr:Region.ready .any l.toArray listed=[i]) 
  (h:∀K' : Act->World->Prop,Shut (∀a w,(i≠late->S w)->((i≠late->S w)->wpLate P .any l.toArray Q S late fuel (listed.setIfInBounds i true) a w)->K' a w)->if Region.wanted o (yielded l.toArray a.tmps)=true then Oper.wp P o a w K' Q else K' (a.put o.dst undef) w) :
  wpLate P .any l.toArray Q S late (fuel+1) listed a w:=wpLate_one hr hp.get h
theorem Pick.s5 {k:Nat} {x a b c d e:Oper} {l:List Oper} (h:Pick k l x):Pick (k+5) (a::b::c::d::e::l) x:=h
theorem tk {l:List Oper} {P:Program} {Q:Exit->Act->World->Prop} {S:World->Prop} {late:Nat} (i:Nat) {oi:Oper} (hp:Pick i l oi) {v:Value} {fuel:Nat} {listed:Array Bool} {a:Act} {w:World}
  (hy:∀w,S w->(execOp a.eval oi).run P w=.ok (.value v) w) (h:wpLate P .any l.toArray Q S late fuel (listed.setIfInBounds i true) (a.put oi.dst v) w) (hs:Region.noSelect l.toArray=true:=by kernel_rfl) (hf:Region.free .any l.toArray listed i=true:=by kernel_rfl) (hr:(Region.ready .any l.toArray listed).contains i=true:=by kernel_rfl) (hwt:waitsB l.toArray listed i late (behind l.toArray i 8)=true:=by kernel_rfl)
  (hQ:∀c a w,Q (.panic c) (a.put oi.dst v) w->Q (.panic c) a w:=by exact fun _ _ _ h=>h) (hw:Region.wanted oi (yielded l.toArray a.tmps)=true:=by rfl) (hS:S w:=by assumption):wpLate P .any l.toArray Q S late (fuel+1) listed a w:=late_take i hp hs hf hr hwt hQ hw hy hS h
theorem tk1 {l:List Oper} {P:Program} {Q:Exit->Act->World->Prop} {S:World->Prop} {late:Nat} (i:Nat) {o:Oper} (hp:Pick i l o) {fuel:Nat} {listed:Array Bool} {a:Act} {w:World}
  (h:∀K' : Act->World->Prop,Shut (∀a w,(i≠late->S w)->((i≠late->S w)->wpLate P .any l.toArray Q S late fuel (listed.setIfInBounds i true) a w)->K' a w)->if Region.wanted o (yielded l.toArray a.tmps)=true then Oper.wp P o a w K' Q else K' (a.put o.dst undef) w) (hr:Region.ready .any l.toArray listed=[i]:=by kernel_rfl) :
  wpLate P .any l.toArray Q S late (fuel+1) listed a w:=late_one i hp hr h
theorem tkp:(∀(a:Act) (d:Tmp) (v:Value),a.put (some d) v={ a with tmps:=a.tmps.setIfInBounds d v })/\(∀(a:Act) (v:Value),a.put none v=a)/\(∀(l:List Value) (i:Nat) (x:Value),l.toArray.setIfInBounds i x=(l.set i x).toArray)/\(∀(l:List Value) (x y:Value),(x::l).set 0 y=y::l)/\(∀(l:List Value) (x y:Value) (n:Nat),(x::l).set (n+1) y=x::l.set n y):=⟨fun _ _ _=>rfl,fun _ _=>rfl,fun _ _ _=>List.setIfInBounds_toArray ..,fun _ _ _=>rfl,fun _ _ _ _=>rfl⟩
end Go.Proofs.YtpaomghibppgkaaGreat
namespace Go.Proofs.YtpaomghibppgkaaGreat
open Go.RowKit Go.Deep

theorem less_irrefl:∀l:List UInt8,Op.bytesLess l l=false
 | []=>rfl
 | a::x=>by simp [Op.bytesLess,less_irrefl x]

theorem less_trans:∀a b c:List UInt8,Op.bytesLess a b=true->Op.bytesLess b c=true->Op.bytesLess a c=true
 | _,[],_,h,_=>by simp [Op.bytesLess] at h
 | _,_::_,[],_,h=>by simp [Op.bytesLess] at h
 | [],_::_,_::_,_,_=>rfl
 | a::x,b::y,c::z,h1,h2=>by
  simp only [Op.bytesLess,Bool.or_eq_true,Bool.and_eq_true,decide_eq_true_eq,beq_iff_eq] at h1 h2 ⊢
  rcases h1 with h1|⟨rfl,h1⟩
  ·rcases h2 with h2|⟨rfl,h2⟩
   ·exact .inl (UInt8.lt_trans h1 h2)
   ·exact .inl h1
  ·rcases h2 with h2|⟨rfl,h2⟩
   ·exact .inl h2
   ·exact .inr ⟨rfl,less_trans x y z h1 h2⟩

theorem less_total:∀a b:List UInt8,(Op.bytesLess b a || b == a)=!Op.bytesLess a b
 | [],[]=>rfl
 | [],_::_=>rfl
 | _::_,[]=>rfl
 | a::x,b::y=>by
  have ih:=less_total x y
  simp only [Op.bytesLess]
  by_cases h:a=b
  ·subst h
   have e1:((a::y) == (a::x))=(y == x):=by simp
   rw [e1]
   simp
   simpa using ih
  ·have h' : ¬ b=a:=fun e=>h e.symm
   have e0:(a == b)=false:=by simp [h]
   have e1:(b == a)=false:=by simp [h']
   have e2:((b::y) == (a::x))=false:=by simp [h']
   rw [e0,e1,e2]
   simp
   by_cases hl:a<b
   ·simp [hl]
    exact UInt8.le_of_lt hl
   ·simp [hl]
    have:=UInt8.not_lt.1 hl
    exact UInt8.lt_of_le_of_ne this h'

theorem asc_less {X:Nat->ByteArray} {k:Nat} (h:∀m,m<k->0<m->Op.bytesLess (X (m-1)).toList (X m).toList=true) (p:Nat) (hp:p<k):∀j,j<p->Op.bytesLess (X j).toList (X p).toList=true:=by
 induction p with
 | zero=>intro j hj;omega
 | succ p ih=>
  intro j hj
  have h1:=h (p+1) hp (by omega)
  rw [show p+1-1=p from rfl] at h1
  by_cases e:j=p
  ·subst e;exact h1
  ·exact less_trans _ _ _ (ih (by omega) j (by omega)) h1

theorem str_inj {x y:ByteArray} (h:x.toList=y.toList):x=y:=by
 rw [ByteArray.toList_eq,ByteArray.toList_eq] at h
 cases x
 cases y
 simp only at h
 rw [Array.toList_inj.1 h]

theorem infoPn:(Tryz.prog.info? 83).map (fun i=>(i.zero,i.size,i.bytes))=some (some (.agg #[.int .i64 0,.string { data:=#[] },.string { data:=#[] }]),3,40):=by kernel_rfl
theorem underPns:Tryz.prog.underlying 36=some (.slice 83):=by kernel_rfl

set_option maxHeartbeats 400000 in
theorem toPNode_any (i:Int) (x r:ByteArray) (w:World) :
  Calls Tryz.prog 62 #[.agg #[.int .i64 i,.string x,.string r]] w fun e w'=>e=.returned (.agg #[.int .i64 i,.string x,.string r])/\Below w.heap.size w w':=by
 go_enter Tryz.func62,Tryz.ntmps62
 go_wp2
 refine bodyPost_ret (v:=.agg #[.int .i64 i,.string x,.string r]) (by simp [results,Tryz.results62,go_sem]) rfl ⟨rfl,?_⟩
 exact ((below_alloc _ _).alloc (by simp) _).alloc (by simp;omega) _

set_option maxHeartbeats 1000000 in
theorem toPNodeS_any (a:Option Addr) (n c:Nat) (I:Nat->Int) (X:Nat->ByteArray) (R:Nat->ByteArray) (w:World) (h:RdN w a n I X R) (hn:n<=1048576) :
  Calls Tryz.prog 29 #[.slice a n c] w fun e w'=>e=.returned (.slice (some ⟨w.heap.size,0,none⟩) n n)/\rowIn w' w.heap.size 83 (n*3) (pnCell I X R)/\Below w.heap.size w w':=by
 have hmk:∀w:World,(Instr.makeSlice 36 (.int .i64 (n:Int)) (.int .i64 (n:Int))).run Tryz.prog w=.ok (.slice (some ⟨w.heap.size,0,none⟩) n n) (w.alloc (.cells (madeCells #[.int .i64 0,.string { data:=#[] },.string { data:=#[] }] (n*3)) 83)):=by
  intro w
  obtain ⟨i0,hi,hz0,hz1,hz2⟩:=info_parts infoPn
  have:=run_make (P:=Tryz.prog) w 36 83 i0 _ underPns hi hz0 .i64 .i64 n n (by omega) (by omega) (by rw [hz2];omega) (by omega)
  rw [hz1,show (Value.agg #[.int .i64 0,.string { data:=#[] },.string { data:=#[] }]).cells=#[.int .i64 0,.string { data:=#[] },.string { data:=#[] }] from rfl] at this
  simpa using this
 have H0:Hid (rowIn (w.alloc (.cells (madeCells #[.int .i64 0,.string { data:=#[] },.string { data:=#[] }] (n*3)) 83)) w.heap.size 83 (n*3) (fun j=>if j<0*3 then pnCell I X R j else pnCell (fun _=>0) (fun _=>{ data:=#[] }) (fun _=>{ data:=#[] }) j)):=
  (madeN w n).congr (fun i _=>by simp)
 go_enter Tryz.func29,Tryz.ntmps29
 go_wp2
 go_loopw [4] (fun i wr=>∃k:Nat,k<=n/\i=.int .i64 k/\rowIn wr w.heap.size 83 (n*3) (fun j=>if j<k*3 then pnCell I X R j else pnCell (fun _=>0) (fun _=>{ data:=#[] }) (fun _=>{ data:=#[] }) j)/\Below w.heap.size w wr) (fun i _=>n-(intOf i).toNat)
 case atStart=>exact ⟨0,Nat.zero_le _,rfl,H0.out,below_alloc _ _⟩
 case round=>
  obtain ⟨k,hk,rfl,hrow,hbel⟩:=hrel
  clear H0
  by_cases hlt:k<n
  ·have hne:¬ n=0:=by omega
   have h':=h.below hbel
   have HB:Hid (Below w.heap.size w wr):=hbel
   have HR:Hid (rowIn wr w.heap.size 83 (n*3) (fun j=>if j<k*3 then pnCell I X R j else pnCell (fun _=>0) (fun _=>{ data:=#[] }) (fun _=>{ data:=#[] }) j)):=hrow
   have hsz:=hbel.size
   rcases h' with h' | ⟨b,o,rfl,hc⟩
   ·exact absurd h' hne
   obtain ⟨c1,c2,c3⟩:=hc k hlt
   clear hc hbel h hrow hmk
   go_wp2_with fail
   refine (toPNode_any (I k) (X k) (R k) _).mono ?_
   rintro e w1 ⟨rfl,hb1⟩
   have hrow:=HR.out.of_block (hb1.block _ HR.out.lt)
   have hc1:=hrow.cell (i:=k*3) (by omega)
   have hc2:=hrow.cell (i:=k*3+1) (by omega)
   have hc3:=hrow.cell (i:=k*3+2) (by omega)
   have hf1:=hrow.frozen (k*3)
   have hf2:=hrow.frozen (k*3+1)
   have hf3:=hrow.frozen (k*3+2)
   have HX:Hid (rowIn (((w1.setCell ⟨w.heap.size,k*3,none⟩ (.int .i64 (I k))).setCell ⟨w.heap.size,k*3+1,none⟩ (.string (X k))).setCell ⟨w.heap.size,k*3+2,none⟩ (.string (R k))) w.heap.size 83 (n*3) (fun j=>if j<(k+1)*3 then pnCell I X R j else pnCell (fun _=>0) (fun _=>{ data:=#[] }) (fun _=>{ data:=#[] }) j)/\
     Below w.heap.size w (((w1.setCell ⟨w.heap.size,k*3,none⟩ (.int .i64 (I k))).setCell ⟨w.heap.size,k*3+1,none⟩ (.string (X k))).setCell ⟨w.heap.size,k*3+2,none⟩ (.string (R k)))):=by
    refine ⟨(((hrow.set (k*3) _).set (k*3+1) _).set (k*3+2) _).congr (fun j hj=>?_),(((HB.out.trans (hb1.mono hsz)).setCell (Nat.le_refl _) _).setCell (Nat.le_refl _) _).setCell (Nat.le_refl _) _⟩
    by_cases e2:j=k*3+2
    ·subst e2
     rw [if_pos (by omega:k*3+2<(k+1)*3),pnCell_2];simp
    by_cases e1:j=k*3+1
    ·subst e1
     rw [if_pos (by omega:k*3+1<(k+1)*3),pnCell_1];simp
    by_cases e0:j=k*3
    ·subst e0
     rw [if_pos (by omega:k*3<(k+1)*3),pnCell_0];simp
    simp only [if_neg e0,if_neg e1,if_neg e2]
    by_cases e:j<k*3
    ·rw [if_pos e,if_pos (by omega)]
    ·rw [if_neg e,if_neg (by omega)]
   clear hrow hb1 HR
   go_wp2
   go_roundw
   case rel=>exact ⟨k+1,by omega,by go_num,HX.out.1,HX.out.2⟩
   case measure=>simp [intOf];omega
  ·have e:k=n:=by omega
   subst e
   have HX:Hid (rowIn wr w.heap.size 83 (k*3) (pnCell I X R)):=hrow.congr (fun j hj=>by simp [hj])
   clear hrow
   go_wp2
   go_ret
   exact ⟨rfl,HX.out,hbel⟩

def RetPath (w:World) (n:Nat) (I:Nat->Int) (X:Nat->ByteArray) (R:Nat->ByteArray) (e:Ending) (w' : World):Prop:=
 ∃g,e=.returned (.agg #[.slice (some ⟨g,0,none⟩) n n])/\w.heap.size<=g/\rowIn w' g 83 (n*3) (pnCell I X R)/\Below w.heap.size w w'

set_option maxHeartbeats 1000000 in
theorem toPath_any (a:Option Addr) (n c:Nat) (I:Nat->Int) (X:Nat->ByteArray) (R:Nat->ByteArray) (w:World) (h:RdN w a n I X R) (hn:n<=1048576) :
  Calls Tryz.prog 8 #[.agg #[.slice a n c]] w (RetPath w n I X R):=by
 have hbel:∀o1 o2 o3,Below w.heap.size w (((w.alloc o1).alloc o2).alloc o3):=fun o1 o2 o3=>(((below_alloc _ _).alloc (by simp) _).alloc (by simp;omega) _)
 have hsz:∀o1 o2 o3,(((w.alloc o1).alloc o2).alloc o3).heap.size=w.heap.size+3:=fun o1 o2 o3=>by simp
 have HH:Hid ((∀o1 o2 o3,Below w.heap.size w (((w.alloc o1).alloc o2).alloc o3))/\∀o1 o2 o3,(((w.alloc o1).alloc o2).alloc o3).heap.size=w.heap.size+3):=⟨hbel,hsz⟩
 clear hbel hsz
 go_enter Tryz.func8,Tryz.ntmps8
 go_wp2_with fail
 refine (toPNodeS_any a n c I X R _ (h.below (HH.out.1 _ _ _)) hn).mono ?_
 rintro e w1 ⟨rfl,hr1,hb1⟩
 rw [HH.out.2] at hr1 hb1 ⊢
 have hz:w.heap.size+2<w1.heap.size:=by have:=hr1.lt;omega
 have hc:∀b o,b<w.heap.size+3->w1.cell? ⟨b,o,none⟩=_:=fun b o hb=>hb1.cell (p:=⟨b,o,none⟩) hb
 have hf:∀b o,b<w.heap.size+3->w1.frozen? ⟨b,o,none⟩=_:=fun b o hb=>hb1.frozen (p:=⟨b,o,none⟩) hb
 have HE:Hid (rowIn w1 (w.heap.size+3) 83 (n*3) (pnCell I X R)/\Below w.heap.size w w1):=⟨hr1,(HH.out.1 _ _ _).trans (hb1.mono (by omega))⟩
 clear hr1 hb1
 go_wp2
 refine bodyPost_ret (v:=.agg #[.slice (some ⟨w.heap.size+3,0,none⟩) n n]) (by simp [results,Tryz.results8,go_sem,hc]) rfl ⟨_,rfl,by omega,?_,?_⟩
 ·first
  | exact (HE.out.1.setOther (by simp) _).setOther (by simp) _
  | exact HE.out.1.setOther (by simp) _
 ·first
  | exact (HE.out.2.setCell (by simp;omega) _).setCell (by simp) _
  | exact HE.out.2.setCell (by simp) _

set_option maxHeartbeats 400000 in
theorem szPNode_any (i:Int) (x r:ByteArray) (l:Int) (w:World) (hx:x.size<=maxLen) (hr:r.size<=maxLen) (h0:0<=l) (h1:l<=1048576) :
  Calls Tryz.prog 43 #[.agg #[.int .i64 i,.string x,.string r],.int .i64 l] w fun e w'=>∃q:Int,e=.returned (.int .i64 q)/\(q=-1\/(0<=q/\q<=1048576))/\Below w.heap.size w w':=by
 unfold maxLen at hx hr
 by_cases h:l-(x.size:Int)<0
 ·go_enter Tryz.func43,Tryz.ntmps43
  go_wp2
  go_ret
  exact ⟨-1,rfl,Or.inl rfl,below_alloc _ _⟩
 ·by_cases h2:l-(x.size:Int)-(r.size:Int)<0
  ·go_enter Tryz.func43,Tryz.ntmps43
   go_wp2
   go_ret
   exact ⟨-1,rfl,Or.inl rfl,below_alloc _ _⟩
  ·go_enter Tryz.func43,Tryz.ntmps43
   go_wp2
   go_ret
   exact ⟨_,rfl,Or.inr ⟨by omega,by omega⟩,below_alloc _ _⟩


def RdT (w:World) (a:Option Addr) (n:Nat) (I:Nat->Int) (X:Nat->ByteArray) (R:Nat->Int):Prop:=
 n=0\/∃b o,a=some ⟨b,o,none⟩/\∀i,i<n->w.cell? ⟨b,o+i*3,none⟩=some (.int .i64 (I i))/\w.cell? ⟨b,o+i*3+1,none⟩=some (.string (X i))/\w.cell? ⟨b,o+i*3+2,none⟩=some (.int .i64 (R i))

theorem RdT.below {w w' : World} {a:Option Addr} {n:Nat} {I:Nat->Int} {X:Nat->ByteArray} {R:Nat->Int} (h:RdT w a n I X R) (hb:Below w.heap.size w w'):RdT w' a n I X R:=by
 rcases h with h|⟨b,o,rfl,hc⟩
 ·exact Or.inl h
 ·refine Or.inr ⟨b,o,rfl,fun i hi=>?_⟩
  obtain ⟨h1,h2,h3⟩:=hc i hi
  refine ⟨?_,?_,?_⟩
  ·rw [hb.cell (p:=⟨b,o+i*3,none⟩) (World.block_lt_of_cell? _ _ h1)];exact h1
  ·rw [hb.cell (p:=⟨b,o+i*3+1,none⟩) (World.block_lt_of_cell? _ _ h2)];exact h2
  ·rw [hb.cell (p:=⟨b,o+i*3+2,none⟩) (World.block_lt_of_cell? _ _ h3)];exact h3

def termCell (I:Nat->Int) (X:Nat->ByteArray) (R:Nat->Int) (c:Nat):Value:=
 if c % 3=0 then .int .i64 (I (c / 3)) else if c % 3=1 then .string (X (c / 3)) else .int .i64 (R (c / 3))

theorem termCell_0 (I:Nat->Int) (X:Nat->ByteArray) (R:Nat->Int) (i:Nat):termCell I X R (i*3)=.int .i64 (I i):=by
 unfold termCell
 rw [if_pos (by omega),show i*3 / 3=i by omega]
theorem termCell_1 (I:Nat->Int) (X:Nat->ByteArray) (R:Nat->Int) (i:Nat):termCell I X R (i*3+1)=.string (X i):=by
 unfold termCell
 rw [if_neg (by omega),if_pos (by omega),show (i*3+1) / 3=i by omega]
theorem termCell_2 (I:Nat->Int) (X:Nat->ByteArray) (R:Nat->Int) (i:Nat):termCell I X R (i*3+2)=.int .i64 (R i):=by
 unfold termCell
 rw [if_neg (by omega),if_neg (by omega),show (i*3+2) / 3=i by omega]

theorem rdT_row {w:World} {g n:Nat} {I:Nat->Int} {X:Nat->ByteArray} {R:Nat->Int} (h:rowIn w g 112 (n*3) (termCell I X R)):RdT w (some ⟨g,0,none⟩) n I X R:=by
 refine Or.inr ⟨g,0,rfl,fun i hi=>⟨?_,?_,?_⟩⟩
 ·have:=h.cell (i:=i*3) (by omega)
  rw [termCell_0] at this
  simpa using this
 ·have:=h.cell (i:=i*3+1) (by omega)
  rw [termCell_1] at this
  simpa using this
 ·have:=h.cell (i:=i*3+2) (by omega)
  rw [termCell_2] at this
  simpa using this

theorem madeT (w:World) (m:Nat):rowIn (w.alloc (.cells (madeCells #[.int .i64 0,.string { data:=#[] },.int .i64 0] (m*3)) 112)) w.heap.size 112 (m*3) (termCell (fun _=>0) (fun _=>{ data:=#[] }) (fun _=>0)):=by
 refine ⟨_,blk_alloc_new _ _,by rw [size_madeCells];exact Nat.le_refl _,fun i hi=>?_⟩
 unfold termCell
 have h3:i % 3=0\/i % 3=1\/i % 3=2:=by omega
 rcases h3 with e|e|e
 all_goals simp [madeCells,hi,e]
end Go.Proofs.YtpaomghibppgkaaGreat
namespace Go.Proofs.YtpaomghibppgkaaGreat
open Go.RowKit Go.Deep Go.MapKept Go.ChangeMaps

def MapAt (w:World) (B k:Nat) (K V:Nat->Value):Prop:=
 ∃es clock,w.heap[B]?=some (.map es clock)/\Stamped es clock/\es.size=k/\∀i,i<k->∃e,es[i]?=some e/\e.key=K i/\e.val=V i

theorem MapAt.lt {w:World} {B k:Nat} {K V:Nat->Value} (h:MapAt w B k K V):B<w.heap.size:=by
 obtain ⟨es,clock,hb,_⟩:=h
 exact (Array.getElem?_eq_some_iff.1 hb).1

theorem MapAt.kept {w w' : World} {B k:Nat} {K V:Nat->Value} (h:MapAt w B k K V) (hb:w'.heap[B]?=w.heap[B]?):MapAt w' B k K V:=by
 obtain ⟨es,clock,h1,h2⟩:=h
 exact ⟨es,clock,hb.trans h1,h2⟩

theorem MapAt.ne_cells {w:World} {B k b:Nat} {K V:Nat->Value} {cs:Array Value} {t:TypeId} {fr:Nat × Nat} (h:MapAt w B k K V) (hc:w.heap[b]?=some (.cells cs t fr)):b≠B:=by
 obtain ⟨es,clock,h1,_⟩:=h
 rintro rfl
 rw [h1] at hc
 cases hc

theorem mapAt_new (w:World) (K V:Nat->Value):MapAt (w.alloc (.map #[] 0)) w.heap.size 0 K V:=
 ⟨#[],0,blk_alloc_new _ _,stamped_empty 0,rfl,fun i hi=>absurd hi (Nat.not_lt_zero _)⟩

section
variable {w:World} {B k:Nat} {K V:Nat->Value} {t kt et:TypeId} {d:TypeDesc} {key:Value}

theorem MapAt.look_none (h:MapAt w B k K V) (ht:Tryz.prog.underlying t=some (.map kt et)) (hd:Tryz.prog.underlying kt=some d) (hk:IsKey d key) (hK:∀i,i<k->IsKey d (K i)) (hne:∀i,i<k->K i≠key) {z:Value} (hz:(zeroValue et).run Tryz.prog w=.ok z w) :
  (Instr.lookup t (.map (some B)) key false).run Tryz.prog w=.ok z w:=by
 obtain ⟨es,clock,hb,hst,hs,he⟩:=h
 have hall:∀x∈es.toList,IsKey d x.key/\x.key≠key:=by
  intro x hx
  obtain ⟨i,hi,e⟩:=List.getElem_of_mem hx
  simp at hi
  obtain ⟨e',h1,h2,_⟩:=he i (by omega)
  have:es[i]?=some x:=by rw [Array.getElem?_eq_getElem hi];simpa using e
  rw [this] at h1
  cases h1
  rw [h2]
  exact ⟨hK i (by omega),hne i (by omega)⟩
 rcases findNow_spec hk es.toList 0 (fun x hx=>(hall x hx).1) with ⟨h1,_⟩|⟨j,e,_,h2,h3⟩
 ·simp [Instr.lookup,run_underlying ht,MapKept.run_getObj_map hb,run_checkKey hd hk,run_findKey hd h1,hz,Result.andThen]
 ·exact absurd h3 (hall e (List.mem_of_getElem? h2)).2

theorem MapAt.look_some (h:MapAt w B k K V) (ht:Tryz.prog.underlying t=some (.map kt et)) (hd:Tryz.prog.underlying kt=some d) (hk:IsKey d key) (hK:∀i,i<k->IsKey d (K i)) {i:Nat} (hi:i<k) (hi2:K i=key) (hun:∀j,j<k->K j=key->V j=V i) :
  (Instr.lookup t (.map (some B)) key false).run Tryz.prog w=.ok (V i) w:=by
 obtain ⟨es,clock,hb,hst,hs,he⟩:=h
 have hall:∀(j:Nat) x,es.toList[j]?=some x->j<k/\x.key=K j/\x.val=V j:=by
  intro j x hx
  have hx' : es[j]?=some x:=by simpa using hx
  have hj:=(Array.getElem?_eq_some_iff.1 hx').1
  obtain ⟨e',h1,h2,h3⟩:=he j (by omega)
  rw [hx'] at h1
  cases h1
  exact ⟨by omega,h2,h3⟩
 rcases findNow_spec hk es.toList 0 (fun x hx=>by
   obtain ⟨j,hj,e⟩:=List.getElem_of_mem hx
   have q:=hall j x (by rw [List.getElem?_eq_getElem hj,e])
   rw [q.2.1]
   exact hK j q.1) with ⟨_,h1⟩|⟨j,e,h1,h2,h3⟩
 ·obtain ⟨e',h4,h5,_⟩:=he i hi
  exact absurd (h5.trans hi2) (h1 e' (List.mem_of_getElem? (by simpa using h4)))
 ·obtain ⟨q1,q2,q3⟩:=hall j e h2
  have hv:e.val=V i:=q3.trans (hun j q1 (q2.symm.trans h3))
  simp [Instr.lookup,run_underlying ht,MapKept.run_getObj_map hb,run_checkKey hd hk,run_findKey hd h1,Result.andThen,hv]

theorem MapAt.store_new (h:MapAt w B k K V) (ht:Tryz.prog.underlying t=some (.map kt et)) (hd:Tryz.prog.underlying kt=some d) (hk:IsKey d key) (hK:∀i,i<k->IsKey d (K i)) (hne:∀i,i<k->K i≠key) (val:Value) :
  ∃w',(Instr.mapUpdate t (.map (some B)) key val).run Tryz.prog w=.ok () w'/\MapAt w' B (k+1) (fun i=>if i=k then key else K i) (fun i=>if i=k then val else V i)/\w.grownBy w' (some B):=by
 obtain ⟨es,clock,hb,hst,hs,he⟩:=h
 have hall:∀x∈es.toList,IsKey d x.key/\x.key≠key:=by
  intro x hx
  obtain ⟨i,hi,e⟩:=List.getElem_of_mem hx
  simp at hi
  obtain ⟨e',h1,h2,_⟩:=he i (by omega)
  have:es[i]?=some x:=by rw [Array.getElem?_eq_getElem hi];simpa using e
  rw [this] at h1
  cases h1
  rw [h2]
  exact ⟨hK i (by omega),hne i (by omega)⟩
 rcases findNow_spec hk es.toList 0 (fun x hx=>(hall x hx).1) with ⟨h1,_⟩|⟨j,e,_,h2,h3⟩
 ·refine ⟨setBlock w B (.map (es.push { key:=key,val:=val,born:=clock }) (clock+1)),?_,⟨_,_,heap_setBlock_same hb _,stamped_push hst (fun x hx=>(hall x hx).2),by simp [hs],fun i hi=>?_⟩,⟨rfl,rfl,rfl,by simp [setBlock],fun i _ hi=>heap_setBlock_other hb _ (fun e=>hi (by rw [e]))⟩⟩
  ·simp [Instr.mapUpdate,run_underlying ht,MapKept.run_getObj_map hb,run_checkKey hd hk,run_findKey hd h1,MapKept.run_setObj_map _ hb,Result.andThen,setBlock]
  ·by_cases e:i=k
   ·subst e
    refine ⟨{ key:=key,val:=val,born:=clock },?_,by simp,by simp⟩
    rw [<- hs]
    simp
   ·obtain ⟨e',q1,q2,q3⟩:=he i (by omega)
    refine ⟨e',?_,by simp [e,q2],by simp [e,q3]⟩
    rw [Array.getElem?_push]
    rw [if_neg (by omega)]
    exact q1
 ·exact absurd h3 (hall e (List.mem_of_getElem? h2)).2
theorem MapAt.drop (h:MapAt w B k K V) (ht:Tryz.prog.underlying t=some (.map kt et)) (hd:Tryz.prog.underlying kt=some d) (hk:IsKey d key) (hK:∀i,i<k->IsKey d (K i)) {i:Nat} (hi:i<k) (hi2:K i=key) (ty:TypeId) :
  ∃w',(Builtin.delete_ #[t,kt] ty #[.map (some B),key]).run Tryz.prog w=.ok (.tuple #[]) w'/\MapAt w' B (k-1) (fun j=>if j<i then K j else K (j+1)) (fun j=>if j<i then V j else V (j+1))/\w.grownBy w' (some B):=by
 obtain ⟨es,clock,hb,hst,hs,he⟩:=h
 have hall:∀(j:Nat) x,es.toList[j]?=some x->j<k/\x.key=K j/\x.val=V j:=by
  intro j x hx
  have hx' : es[j]?=some x:=by simpa using hx
  have hj:=(Array.getElem?_eq_some_iff.1 hx').1
  obtain ⟨e',h1,h2,h3⟩:=he j (by omega)
  rw [hx'] at h1
  cases h1
  exact ⟨by omega,h2,h3⟩
 rcases findNow_spec hk es.toList 0 (fun x hx=>by
   obtain ⟨j,hj,e⟩:=List.getElem_of_mem hx
   have q:=hall j x (by rw [List.getElem?_eq_getElem hj,e])
   rw [q.2.1]
   exact hK j q.1) with ⟨_,h1⟩|⟨j,e,h1,h2,h3⟩
 ·obtain ⟨e',h4,h5,_⟩:=he i hi
  exact absurd (h5.trans hi2) (h1 e' (List.mem_of_getElem? (by simpa using h4)))
 ·obtain ⟨q1,q2,q3⟩:=hall j e h2
  obtain ⟨e',p1,p2,_⟩:=he i hi
  have hji:j=i:=by
   have hnd:=hst.2.2
   have hjl:=(List.getElem?_eq_some_iff.1 h2).1
   have hil:i<es.toList.length:=by simp;omega
   have a1:(es.toList.map (·.key))[j]?=some key:=by rw [List.getElem?_map,h2];simp [h3]
   have a2:(es.toList.map (·.key))[i]?=some key:=by
    have:es.toList[i]?=some e':=by simpa using p1
    rw [List.getElem?_map,this];simp [p2,hi2]
   exact (List.getElem?_inj (by simpa using hjl) hnd).1 (a1.trans a2.symm)
  subst hji
  have hjs:j<es.size:=by omega
  have hsub:(es.eraseIdxIfInBounds j).toList=es.toList.eraseIdx j:=by
   unfold Array.eraseIdxIfInBounds
   rw [dif_pos hjs]
   simp
  have hsz:(es.eraseIdxIfInBounds j).size=k-1:=by
   rw [<- Array.length_toList,hsub,List.length_eraseIdx,if_pos (by simpa using hjs),Array.length_toList,hs]
  refine ⟨setBlock w B (.map (es.eraseIdxIfInBounds j) clock),?_,⟨_,_,heap_setBlock_same hb _,stamped_erase hst j,hsz,fun m hm=>?_⟩,⟨rfl,rfl,rfl,by simp [setBlock],fun i _ hi=>heap_setBlock_other hb _ (fun e=>hi (by rw [e]))⟩⟩
  ·have h1' : Instr.findNow d key es.toList 0=some (some (j,e.val)):=by rw [h1,Nat.zero_add]
   simp [Builtin.delete_,run_underlying ht,MapKept.run_getObj_map hb,run_checkKey hd hk,run_findKey hd h1',MapKept.run_setObj_map _ hb,Result.andThen,setBlock]
  ·have hget:(es.eraseIdxIfInBounds j)[m]?=if m<j then es[m]? else es[m+1]?:=by
    rw [<- Array.getElem?_toList,hsub,List.getElem?_eraseIdx,Array.getElem?_toList,Array.getElem?_toList]
   by_cases hmj:m<j
   ·obtain ⟨e1,r1,r2,r3⟩:=he m (by omega)
    exact ⟨e1,by rw [hget,if_pos hmj];exact r1,by simp [hmj,r2],by simp [hmj,r3]⟩
   ·obtain ⟨e1,r1,r2,r3⟩:=he (m+1) (by omega)
    exact ⟨e1,by rw [hget,if_neg hmj];exact r1,by simp [hmj,r2],by simp [hmj,r3]⟩

theorem MapAt.len (h:MapAt w B k K V) (ht:Tryz.prog.underlying t=some (.map kt et)) (ty:TypeId):(Builtin.len_ #[t] ty #[.map (some B)]).run Tryz.prog w=.ok (.int .i64 k) w:=by
 obtain ⟨es,clock,hb,hst,hs,he⟩:=h
 simp [Builtin.len_,run_underlying ht,MapKept.run_getObj_map hb,Result.andThen,hs,goInt]
end

end Go.Proofs.YtpaomghibppgkaaGreat
namespace Go.Proofs.YtpaomghibppgkaaGreat
open Go.RowKit Go.Deep

def dgF:Nat->Nat->ByteArray->ByteArray
 | 0,_,x=>x
 | f+1,k,x=>if k=0 then x else dgF f (k / 10) (strOfNums [48+(k:Int) % 10]++x)

theorem dgF_zero (f:Nat) (x:ByteArray):dgF f 0 x=x:=by cases f <;> simp [dgF]
theorem dgF_step {f k:Nat} (x:ByteArray) (hk:0<k) (hf:k<=f):∃f',f=f'+1/\k / 10<=f'/\dgF f k x=dgF f' (k / 10) (strOfNums [48+(k:Int) % 10]++x):=by
 cases f with
 | zero=>omega
 | succ f=>exact ⟨f,rfl,by omega,by rw [dgF,if_neg (by omega)]⟩

def mkT (k:Nat):ByteArray:=ByteArray.mk #[109]++dgF k k { data:=#[] }

theorem run_conv1 (w:World) (d:Int):(convert 208 9 (.slice (some ⟨w.heap.size,0,none⟩) 1 1)).run Tryz.prog (w.alloc (.cells #[.int .u8 d] 5))=.ok (.string (strOfNums [d])) (w.alloc (.cells #[.int .u8 d] 5)):=
 run_convert_bytes_arg (w.alloc (.cells #[.int .u8 d] 5)) 208 5 (by kernel_rfl) (by kernel_rfl) w.heap.size 0 1 1 [d] rfl (fun i hi=>by
  obtain rfl:i=0:=by omega
  simp) 9 (by kernel_rfl)

set_option maxHeartbeats 2000000 in
theorem markText_any (k:Nat) (w:World) (hk:1<=k) (hk2:k<=1073741824) :
  Calls Tryz.prog 82 #[.int .i64 k] w fun e w'=>e=.returned (.string (mkT k))/\Below w.heap.size w w':=by
 have HM:Hid (mkT k=ByteArray.mk #[109]++dgF k k { data:=#[] }):=rfl
 generalize hT:mkT k=T at*
 clear hT
 generalize hD:dgF k k { data:=#[] }=D at*
 have HD:Hid (dgF k k { data:=#[] }=D):=hD
 clear hD
 have hcv:=run_conv1
 go_enter Tryz.func82,Tryz.ntmps82
 go_wp2
 go_loopw [0,3] (fun q s wr=>∃(j f:Nat) (x:ByteArray),x.size+j<=k/\j<=f/\q=.int .i64 j/\s=.string x/\dgF f j x=D/\Below w.heap.size w wr) (fun q _ _=>(intOf q).toNat)
 case atStart=>exact ⟨k,k,_,by simp [ByteArray.size],Nat.le_refl _,rfl,rfl,HD.out,Below.refl _ _⟩
 case round=>
  obtain ⟨j,f,x,hj,hf,rfl,rfl,hd,hb⟩:=hrel
  have HB:Hid (Below w.heap.size w wr):=hb
  clear hb
  by_cases hlt:0<j
  ·obtain ⟨f',rfl,hf',e⟩:=dgF_step x hlt hf
   have HQ:Hid (dgF f' (j / 10) (strOfNums [48+(j:Int) % 10]++x)=D):=e.symm.trans hd
   clear hd e
   have hs1:¬ 9223372036854775807<(strOfNums [48+(j:Int) % 10]).size+x.size:=by
    have:(strOfNums [48+(j:Int) % 10]).size=1:=rfl
    omega
   have HS:Hid ((strOfNums [48+(j:Int) % 10]++x).size=x.size+1):=by
    show _=_
    rw [ByteArray.size_append]
    have:(strOfNums [48+(j:Int) % 10]).size=1:=rfl
    omega
   have HE:Hid (((j / 10:Nat):Int)=(j:Int) / 10):=by show _=_;omega
   go_wp2
   go_roundw
   case rel=>exact ⟨j / 10,f',_,by rw [HS.out];omega,hf',by simp,rfl,HQ.out,HB.out.alloc HB.out.size _⟩
   case measure=>simp [intOf];omega
  ·obtain rfl:j=0:=by omega
   have HQ:Hid (x=D):=by rw [<- hd,dgF_zero];rfl
   have hs1:¬ 9223372036854775807<1+x.size:=by omega
   clear hd
   go_wp2
   go_ret
   exact ⟨by rw [HM.out,HQ.out];rfl,HB.out⟩
end Go.Proofs.YtpaomghibppgkaaGreat
