import Derived.Test.YtpaomghibppgkaaGreatRows
import Derived.Test.YtpaomghibppgkaaGreatNv13
import Derived.Deep.Upon
import Derived.Test.YtpaomghibppgkaaGreatNv10
import Derived.Maps.AppendAt
import Derived.Deep.RegionHeld3
import Derived.WalkKit
import Derived.Handy
import Derived.Test.YtpaomghibppgkaaGreatNv3
import Derived.Test.YtpaomghibppgkaaGreatNv1
set_option linter.unusedVariables false
set_option maxRecDepth 100000
namespace Go.Proofs.YtpaomghibppgkaaGreat
open Go.RowKit Go.Deep

theorem Tryz.info3 : (Tryz.prog.info? 3).map (fun i=>(i.zero,i.size,i.bytes))=some (some (.int .i64 0),1,8):=by kernel_rfl

def OwnIp (w:World) (B:Nat) (a:Option Addr) (n:Nat) (f:Nat->Int):Prop:=
 n=0\/∃g,a=some ⟨g,0,none⟩/\B<=g/\rowIn w g 3 n (fun i=>.int .i64 (f i))

theorem OwnIp.rd {w:World} {B:Nat} {a:Option Addr} {n:Nat} {f:Nat->Int} (h:OwnIp w B a n f):Rd .i64 w a n f:=by
 rcases h with h|⟨g,rfl,_,hr⟩
 ·exact Or.inl h
 ·exact Or.inr ⟨g,0,rfl,fun i hi=>by rw [Nat.zero_add];exact hr.cell hi⟩

theorem OwnIp.mono {w:World} {B B' : Nat} {a:Option Addr} {n:Nat} {f:Nat->Int} (h:OwnIp w B a n f) (hB:B'<=B):OwnIp w B' a n f:=by
 rcases h with h|⟨g,rfl,hg,hr⟩
 ·exact Or.inl h
 ·exact Or.inr ⟨g,rfl,by omega,hr⟩

theorem OwnIp.congr {w:World} {B:Nat} {a:Option Addr} {n:Nat} {f f' : Nat->Int} (h:OwnIp w B a n f) (e:∀i,i<n->f i=f' i):OwnIp w B a n f':=by
 rcases h with h|⟨g,rfl,hg,hr⟩
 ·exact Or.inl h
 ·exact Or.inr ⟨g,rfl,hg,hr.congr (fun i hi=>by rw [e i hi])⟩

theorem OwnIp.below {w w' : World} {B:Nat} {a:Option Addr} {n:Nat} {f:Nat->Int} (h:OwnIp w B a n f) (hb:Below w.heap.size w w'):OwnIp w' B a n f:=by
 rcases h with h|⟨g,rfl,hg,hr⟩
 ·exact Or.inl h
 ·exact Or.inr ⟨g,rfl,hg,hr.of_block (hb.block g hr.lt)⟩

theorem OwnIp.only {w w' : World} {B:Nat} {a a' : Option Addr} {n:Nat} {f:Nat->Int} (h:OwnIp w B a n f) (ho:OnlyAt a' w w') (hne:n≠0->∀x y,a=some x->a'=some y->y.block≠x.block):OwnIp w' B a n f:=by
 rcases h with h|⟨g,rfl,hg,hr⟩
 ·exact Or.inl h
 ·by_cases hn:n=0
  ·exact Or.inl hn
  ·exact Or.inr ⟨g,rfl,hg,hr.of_block (ho.block g (fun y e=>hne hn ⟨g,0,none⟩ y rfl e))⟩
def RetI (w:World) (e:Ending) (w' : World) (n:Nat) (f:Nat->Int):Prop:=
 ∃a c,e=.returned (.slice a n c)/\OwnIp w' w.heap.size a n f/\Below w.heap.size w w'/\n<=c/\c<=9223372036854775807


def intRow (f:Nat->Int) (n:Nat):List Value:=(List.range n).map fun i=>.int .i64 (f i)

theorem intRow_length (f:Nat->Int) (n:Nat):(intRow f n).length=n:=by simp [intRow]
theorem intRow_get (f:Nat->Int) (n i:Nat) (h:i<n):(intRow f n)[i]?=some (.int .i64 (f i)):=by simp [intRow,h]

theorem wpList_append_rdI {w:World} {ops:Array Oper} {rest:List Oper} {o:Oper} {act:Act} {Q:Exit->Act->World->Prop} (hgd:o.guard=none) (s x:Operand)
  (ho:o.op=.call { callee:=.builtin .append,args:=#[s,x],argTypes:=#[86,86] })
  (B:Nat) (v:Value) (n:Nat) (xs:List Value) (hs:act.eval s=v) (hown:w.ownsRow B 3 1 v n xs)
  (a:Option Addr) (m c:Nat) (f:Nat->Int) (hx:act.eval x=.slice a m c) (hrd:Rd .i64 w a m f) (hnm:n+m<=1099511627776) (hB:B<=w.heap.size)
  (h:∀v' w',w'.ownsRow B 3 1 v' (n+m) (xs++intRow f m)->w.grownBy w' v.ownBlock->wpList Tryz.prog ops Q rest (act.put o.dst v') w'):wpList Tryz.prog ops Q (o::rest) act w:=by
 obtain ⟨i0,hi,hz0,hz1,hz2⟩:=info_parts Tryz.info3
 by_cases hm:m=0
 ·subst hm
  have hsrc:Src Tryz.prog i0.size 86 (.slice a 0 c) 0 [] w:=by
   cases a with
   | none=>exact Src.ofNil w Tryz.underlying86 c
   | some ad=>exact Src.ofSlice w Tryz.underlying86 ad 0 c [] (by simp) (by simp) (by simp)
  have hsh:∃b l cap,v=.slice b l cap/\l<=cap:=by
   rcases hown.2 with ⟨rfl,rfl⟩|⟨g,cap,cur,rfl,_,_,h1,_⟩
   ·exact ⟨none,0,0,rfl,Nat.le_refl _⟩
   ·exact ⟨_,n,cap,rfl,h1⟩
  obtain ⟨b,l,cap,hvv,hlc⟩:=hsh
  have hrun:=run_append_nothing (P:=Tryz.prog) w 86 86 o.type 3 i0 Tryz.underlying86 hi b l cap hlc (.slice a 0 c) hsrc
  rw [<- hvv] at hrun
  refine wpList_plain hgd fun K hK=>?_
  unfold Oper.wp
  simp [execOp,ho,resolve,invoke,builtin,hs,hx,hrun,Result.andThen]
  exact hK _ _ (h v w (by simpa [intRow] using hown) ⟨rfl,rfl,rfl,Nat.le_refl _,fun _ _ _=>rfl⟩)
 ·rcases hrd with h0|⟨b,off,rfl,hc⟩
  ·exact absurd h0 hm
  ·refine wpList_append_own w hgd s x 86 ho B 3 i0 (.int .i64 0) 1 8 Tryz.underlying86 hi hz0 hz1 hz2 rfl (by decide) v n xs hs hown ⟨b,off,none⟩ m c (intRow f m) hx (by simp [intRow]) (fun j u hj=>?_) (fun u hu=>?_) (by unfold maxLen;omega) (by omega) hB (fun v' w' h1 h2 _=>h v' w' h1 h2)
   ·have hjm:j<m:=by
     have:=(List.getElem?_eq_some_iff.1 hj).1
     rwa [intRow_length] at this
    rw [intRow_get f m j hjm] at hj
    injection hj with hj
    subst hj
    have e:(Addr.add ⟨b,off,none⟩ j)=⟨b,off+j,none⟩:=by
     unfold Addr.add
     by_cases h:j=0
     ·subst h;simp
     ·simp [h]
    rw [e]
    exact hc j hjm
   ·simp only [intRow,List.mem_map] at hu
    obtain ⟨i,_,rfl⟩:=hu
    rfl

theorem ownI_ofRow {w:World} {B:Nat} {v:Value} {n:Nat} {f:Nat->Int} (h:w.ownsRow B 3 1 v n (intRow f n)):∃a c,v=.slice a n c/\OwnIp w B a n f/\n<=c/\c<=9223372036854775807:=by
 obtain ⟨_,h⟩:=h
 rcases h with ⟨rfl,rfl⟩|⟨g,cap,cur,rfl,hg,hh,h1,h2,h3,h4⟩
 ·exact ⟨none,0,rfl,Or.inl rfl,Nat.le_refl _,by omega⟩
 ·unfold maxLen at h2
  refine ⟨_,cap,rfl,Or.inr ⟨g,rfl,hg,cur,hh,by omega,fun i hi=>?_⟩,h1,h2⟩
  rw [<- intRow_get f n i hi,<- h4]
  have:i<n*1:=by omega
  rw [List.getElem?_take,if_pos this]
  simp

set_option maxHeartbeats 400000 in
theorem copyInts_any (a:Option Addr) (n c:Nat) (f:Nat->Int) (w:World) (h:Rd .i64 w a n f) (hn:n<=1048576) :
  Calls Tryz.prog 67 #[.slice a n c] w fun e w'=>RetI w e w' n f:=by
 have HR:Hid (Rd .i64 w a n f):=h
 clear h
 go_enter Tryz.func67,Tryz.ntmps67
 go_wp2_with (at_builtin;refine wpList_append_rdI rfl _ _ rfl w.heap.size (.slice none 0 0) 0 [] rfl (World.ownsRow_nil _ _ _ _) a n c f rfl HR.out (by omega) (Nat.le_refl _) ?_)
 intro v' w' ho hg
 have HB:Hid (Below w.heap.size w w'):=(Below.refl _ _).grown hg (Nat.le_refl _) (fun k e=>by simp [Value.ownBlock] at e)
 obtain ⟨a',c',rfl,h1,h2,h3⟩:=ownI_ofRow ho
 have H1:Hid (OwnIp w' w.heap.size a' n f):=h1
 clear ho hg h1
 go_wp2
 go_ret
 exact ⟨a',c',rfl,H1.out,HB.out,h2,h3⟩

theorem infoPl:(Tryz.prog.info? 88).map (fun i=>(i.zero,i.size,i.bytes))=some (some (.agg #[.int .i64 0,.string { data:=#[] },.string { data:=#[] },.bool false,.string { data:=#[] },.slice none 0 0,.int .i64 0]),7,96):=by kernel_rfl
theorem underPls:Tryz.prog.underlying 76=some (.slice 88):=by kernel_rfl

structure Plc where
 kind:Int
 s:ByteArray
 t:ByteArray
 bound:Bool
 label:ByteArray
 ad:Option Addr
 cnt:Nat
 cap:Nat
 height:Int

def Plc.cells (p:Plc):List Value:=[.int .i64 p.kind,.string p.s,.string p.t,.bool p.bound,.string p.label,.slice p.ad p.cnt p.cap,.int .i64 p.height]
theorem Plc.len (p:Plc):p.cells.length=7:=rfl

def plRow (f:Nat->Plc) (n:Nat):List Value:=(List.range n).flatMap fun i=>(f i).cells
theorem plRow_succ (f:Nat->Plc) (n:Nat):plRow f (n+1)=plRow f n++(f n).cells:=by
 unfold plRow
 rw [List.range_succ,List.flatMap_append]
 simp
theorem plRow_length (f:Nat->Plc):∀n,(plRow f n).length=n*7
 | 0=>rfl
 | n+1=>by rw [plRow_succ,List.length_append,plRow_length f n,Plc.len];omega
theorem plRow_get (f:Nat->Plc):∀(n i r:Nat),i<n->r<7->(plRow f n)[i*7+r]?=(f i).cells[r]?
 | 0,_,_,h,_=>absurd h (Nat.not_lt_zero _)
 | n+1,i,r,h,hr=>by
  rw [plRow_succ]
  by_cases e:i=n
  ·subst e
   rw [List.getElem?_append_right (by rw [plRow_length];omega),plRow_length,show i*7+r-i*7=r by omega]
  ·rw [List.getElem?_append_left (by rw [plRow_length];omega)]
   exact plRow_get f n i r (by omega) hr
theorem plRow_congr {f f' : Nat->Plc}:∀{n:Nat},(∀i,i<n->f i=f' i)->plRow f n=plRow f' n
 | 0,_=>rfl
 | n+1,h=>by rw [plRow_succ,plRow_succ,plRow_congr (n:=n) (fun i hi=>h i (by omega)),h n (by omega)]

def more (f:Nat->Plc) (n:Nat) (p:Plc) (i:Nat):Plc:=if i=n then p else f i
def PlAt (w:World) (g n:Nat) (f:Nat->Plc):Prop:=
 ∃cur,w.heap[g]?=some (.cells cur 88 (0,0))/\n*7<=cur.size/\∀i r,i<n->r<7->cur[i*7+r]?=(f i).cells[r]?

theorem PlAt.lt {w:World} {g n:Nat} {f:Nat->Plc} (h:PlAt w g n f):g<w.heap.size:=by
 obtain ⟨cur,hh,_⟩:=h
 exact (Array.getElem?_eq_some_iff.1 hh).1
theorem PlAt.cell {w:World} {g n:Nat} {f:Nat->Plc} (h:PlAt w g n f) {i r:Nat} (hi:i<n) (hr:r<7):w.cell? ⟨g,i*7+r,none⟩=(f i).cells[r]?:=by
 obtain ⟨cur,hh,_,hc⟩:=h
 rw [<- hc i r hi hr]
 simp [World.cell?,hh]
theorem PlAt.of_block {w w' : World} {g n:Nat} {f:Nat->Plc} (h:PlAt w g n f) (hb:w'.heap[g]?=w.heap[g]?):PlAt w' g n f:=by
 obtain ⟨cur,hh,h1,hc⟩:=h
 exact ⟨cur,hb.trans hh,h1,hc⟩
theorem PlAt.below {w w' : World} {g n:Nat} {f:Nat->Plc} (h:PlAt w g n f) (hb:Below w.heap.size w w'):PlAt w' g n f:=h.of_block (hb.block g h.lt)
theorem PlAt.other {w:World} {g n:Nat} {f:Nat->Plc} (h:PlAt w g n f) {p:Addr} (hp:g≠p.block) (v:Value):PlAt (w.setCell p v) g n f:=h.of_block (Below.heap_setCell _ _ _ _ hp)

theorem PlAt.seven {w:World} {g n:Nat} {f:Nat->Plc} (h:PlAt w g n f) {i:Nat} (hi:i<n) :
  w.cell? ⟨g,i*7,none⟩=some (.int .i64 (f i).kind)/\w.cell? ⟨g,i*7+1,none⟩=some (.string (f i).s)/\w.cell? ⟨g,i*7+2,none⟩=some (.string (f i).t)/\w.cell? ⟨g,i*7+3,none⟩=some (.bool (f i).bound)/\w.cell? ⟨g,i*7+4,none⟩=some (.string (f i).label)/\w.cell? ⟨g,i*7+5,none⟩=some (.slice (f i).ad (f i).cnt (f i).cap)/\w.cell? ⟨g,i*7+6,none⟩=some (.int .i64 (f i).height):=
 ⟨h.cell (r:=0) hi (by decide),h.cell (r:=1) hi (by decide),h.cell (r:=2) hi (by decide),h.cell (r:=3) hi (by decide),h.cell (r:=4) hi (by decide),h.cell (r:=5) hi (by decide),h.cell (r:=6) hi (by decide)⟩

theorem plAt_ofRow {w:World} {B:Nat} {v:Value} {n:Nat} {f:Nat->Plc} (h:w.ownsRow B 88 7 v n (plRow f n)) (hn:0<n):∃g c,v=.slice (some ⟨g,0,none⟩) n c/\B<=g/\PlAt w g n f/\n<=c/\c<=9223372036854775807:=by
 obtain ⟨_,h⟩:=h
 rcases h with ⟨rfl,rfl⟩|⟨g,cap,cur,rfl,hg,hh,h1,h2,h3,h4⟩
 ·omega
 ·unfold maxLen at h2
  refine ⟨g,cap,rfl,hg,⟨cur,hh,by omega,fun i r hi hr=>?_⟩,h1,h2⟩
  rw [<- plRow_get f n i r hi hr,<- h4,List.getElem?_take,if_pos (by omega)]
  simp

def OpsAt (w:World) (B:Nat) (p:Plc) (F:Nat->Nat):Prop:=OwnIp w B p.ad p.cnt (fun j=>(F j:Int))

theorem plc_new (w:World) (p:Plc):∀j u,p.cells[j]?=some u->(w.alloc (.cells #[.int .i64 p.kind,.string p.s,.string p.t,.bool p.bound,.string p.label,.slice p.ad p.cnt p.cap,.int .i64 p.height] 88)).cell? ((⟨w.heap.size,0,none⟩:Addr).add j)=some u:=by
 intro j u hj
 match j,hj with
 | 0,hj|1,hj|2,hj|3,hj|4,hj|5,hj|6,hj=>simp [Plc.cells] at hj;subst hj;simp [Addr.add]
 | j+7,hj=>simp [Plc.cells] at hj

theorem plc_one (p:Plc):∀u∈p.cells,u.oneCell'=true:=by
 intro u hu
 simp [Plc.cells] at hu
 rcases hu with rfl|rfl|rfl|rfl|rfl|rfl|rfl <;> rfl

theorem PlAt.ne {w:World} {g n:Nat} {f:Nat->Plc} (h:PlAt w g n f) {g' : Nat} {t' : TypeId} {n' : Nat} {F:Nat->Value} (h' : rowIn w g' t' n' F) (ht:88≠t'):g'≠g:=by
 rintro rfl
 obtain ⟨c,hb,_⟩:=h
 obtain ⟨c',hb',_,_⟩:=h'
 rw [hb] at hb'
 injection hb' with e
 injection e with _ e2 _
 exact ht e2

theorem PlAt.set {w:World} {g n:Nat} {f f' : Nat->Plc} (h:PlAt w g n f) (i r:Nat) (v:Value) (hr:r<7) (hne:∀j,j≠i->f' j=f j) (hi:(f' i).cells=(f i).cells.set r v):PlAt (w.setCell ⟨g,i*7+r,none⟩ v) g n f':=by
 obtain ⟨c,hb,hn,hc⟩:=h
 refine ⟨c.setIfInBounds (i*7+r) v,?_,by simpa using hn,fun j q hj hq=>?_⟩
 ·simp [World.setCell,Array.getElem?_modify,hb]
 ·rw [Array.getElem?_setIfInBounds]
  by_cases e:j=i
  ·subst e
   rw [hi,List.getElem?_set]
   by_cases e2:r=q
   ·subst e2
    have h1:j*7+r<c.size:=by omega
    have h2:r<(f j).cells.length:=by rw [Plc.len];exact hr
    simp [h1,h2]
   ·rw [if_neg (by omega),if_neg e2]
    exact hc j q hj hq
  ·rw [if_neg (by omega),hne j e]
   exact hc j q hj hq

theorem PlAt.congr {w:World} {g n:Nat} {f f' : Nat->Plc} (h:PlAt w g n f) (e:∀i,i<n->f i=f' i):PlAt w g n f':=by
 obtain ⟨c,hb,hn,hc⟩:=h
 exact ⟨c,hb,hn,fun j q hj hq=>by rw [<- e j hj];exact hc j q hj hq⟩

def slAd (p:Option Addr) (l c:Nat):Option Addr:=if c=l then p else p.map (·.add (l*1))
theorem rd_slice {W:World} {B:Nat} {p:Option Addr} {d c l:Nat} {S:Nat->Int} (h:W.ownsRow B 3 1 (.slice p d c) d (intRow S d)) (hl:l<=d):Rd .i64 W (slAd p l c) (d-l) (fun j=>S (l+j)):=by
 by_cases e:d-l=0
 ·exact Or.inl e
 ·rcases h.2 with ⟨_,h0⟩|⟨g,cap,cur,hv,hg,hh,h1,h2,h3,h4⟩
  ·omega
  ·injection hv with e1 e2 e3
   subst e1 e3
   refine Or.inr ⟨g,l,?_,fun i hi=>?_⟩
   ·unfold slAd
    rw [if_neg (by omega),Nat.mul_one]
    show some (Addr.add ⟨g,0,none⟩ l)=_
    unfold Addr.add
    by_cases h0:l=0
    ·subst h0;simp
    ·simp [h0]
   ·have e1:cur[l+i]?=some (.int .i64 (S (l+i))):=by
     rw [<- intRow_get S d (l+i) (by omega),<- h4,List.getElem?_take,if_pos (by omega)]
     simp
    simp [World.cell?,hh,e1]

theorem owns_cut {W:World} {B:Nat} {p:Option Addr} {d c l:Nat} {S:Nat->Int} (h:W.ownsRow B 3 1 (.slice p d c) d (intRow S d)) (hl:l<=d):W.ownsRow B 3 1 (.slice p l c) l (intRow S l):=by
 refine ⟨by rw [intRow_length];omega,?_⟩
 rcases h.2 with ⟨hv,h0⟩|⟨g,cap,cur,hv,hg,hh,h1,h2,h3,h4⟩
 ·injection hv with e1 e2 e3
  subst e1 e2 e3
  exact Or.inl ⟨by rw [show l=0 by omega],by omega⟩
 ·injection hv with e1 e2 e3
  subst e1 e3
  refine Or.inr ⟨g,c,cur,rfl,hg,hh,by omega,h2,h3,?_⟩
  have e:cur.toList.take (l*1)=(cur.toList.take (d*1)).take (l*1):=by rw [List.take_take,Nat.min_eq_left (by omega)]
  rw [e,h4]
  apply List.ext_getElem?
  intro i
  rw [List.getElem?_take]
  by_cases hi:i<l*1
  ·rw [if_pos hi,intRow_get _ _ _ (by omega),intRow_get _ _ _ (by omega)]
  ·rw [if_neg hi,List.getElem?_eq_none (by rw [intRow_length];omega)]

theorem intRow_more (S:Nat->Int) (l:Nat) (x:Int):intRow S l++[.int .i64 x]=intRow (fun j=>if j=l then x else S j) (l+1):=by
 unfold intRow
 rw [List.range_succ,List.map_append]
 congr 1
 ·refine List.map_congr_left (fun j hj=>?_)
  have:=List.mem_range.1 hj
  simp only [if_neg (show j≠l by omega)]
 ·simp

theorem arOf_none {k:Int} (h:¬ (1<=k/\k<=9)):gnB k=fun _ _=>false:=by
 funext s t
 unfold gnB
 rw [if_neg (by omega),if_neg (by omega),if_neg (by omega)]

set_option maxHeartbeats 400000 in
theorem opCount_none (k:Int) (w:World) (hk:¬ (1<=k/\k<=9)):Calls Tryz.prog 65 #[.int .i64 k] w fun e w'=>e=.returned (.int .i64 1)/\w'=w:=by
 have e1:(k == 1)=false:=by simp;omega
 have e2:(k == 2)=false:=by simp;omega
 have e3:(k == 3)=false:=by simp;omega
 have e4:(k == 4)=false:=by simp;omega
 have e5:(k == 5)=false:=by simp;omega
 have e6:(k == 6)=false:=by simp;omega
 have e7:(k == 7)=false:=by simp;omega
 have e8:(k == 8)=false:=by simp;omega
 have e9:(k == 9)=false:=by simp;omega
 have f1:¬ k=1:=by omega
 have f2:¬ k=2:=by omega
 have f3:¬ k=3:=by omega
 have f4:¬ k=4:=by omega
 have f5:¬ k=5:=by omega
 have f6:¬ k=6:=by omega
 have f7:¬ k=7:=by omega
 have f8:¬ k=8:=by omega
 have f9:¬ k=9:=by omega
 clear hk
 go_enter Tryz.func65,Tryz.ntmps65
 go_wp2
 go_ret
 exact ⟨rfl,rfl⟩

theorem step_append_pl {ops:Array Oper} {o:Oper} {a:Act} {w2:World} {K:Act->World->Prop} {Q:Exit->Act->World->Prop} {E:Prop} (hgd:o.guard=none) (x y:Operand)
  (ho:o.op=.call { callee:=.builtin .append,args:=#[x,y],argTypes:=#[76,76] })
  (B k:Nat) (v:Value) (xs:List Value) (p:Plc) (hx:a.eval x=v) (hown:w2.ownsRow B 88 7 v k xs) (hy:a.eval y=.slice (some ⟨w2.heap.size,0,none⟩) 1 1)
  (hk:k<=1048576) (hB:B<=w2.heap.size)
  (h:∀v' w',w'.ownsRow B 88 7 v' (k+1) (xs++p.cells)->(w2.alloc (.cells #[.int .i64 p.kind,.string p.s,.string p.t,.bool p.bound,.string p.label,.slice p.ad p.cnt p.cap,.int .i64 p.height] 88)).grownBy w' v.ownBlock->K (a.put o.dst v') w') :
  if Region.wanted o (yielded ops a.tmps)=true then Oper.wp Tryz.prog o a (w2.alloc (.cells #[.int .i64 p.kind,.string p.s,.string p.t,.bool p.bound,.string p.label,.slice p.ad p.cnt p.cap,.int .i64 p.height] 88)) K Q else E:=by
 have hw:Region.wanted o (yielded ops a.tmps)=true:=by simp [Region.wanted,hgd]
 rw [if_pos hw]
 obtain ⟨i0,hi,hz0,hz1,hz2⟩:=info_parts infoPl
 exact wp_append_own _ x y 76 ho B 88 i0 _ 7 96 underPls hi hz0 hz1 hz2 rfl (by decide) v k xs hx (hown.alloc _) ⟨w2.heap.size,0,none⟩ 1 1 p.cells hy rfl (plc_new w2 p) (plc_one p) (by unfold maxLen;omega) (by omega) (by simp;omega) (fun v' w' q1 q2 _=>h v' w' q1 q2)

theorem grown_cellP {w2 w3:World} {O:Obj} {row:Option Nat} (hg:(w2.alloc O).grownBy w3 row) {x:Addr} (hx:x.block<w2.heap.size) (hne:row≠some x.block):w3.cell? x=w2.cell? x:=by
 rw [World.cell?_of_block (w:=w2.alloc O) (hg.block x.block (by simp;omega) (fun e=>hne e.symm))]
 exact World.cell?_of_block (w:=w2) (Below.heap_alloc _ _ _ hx)
end Go.Proofs.YtpaomghibppgkaaGreat
namespace Go.Proofs.YtpaomghibppgkaaGreat
open Go.RowKit Go.Deep Go.MapKept

theorem late_skip0 {l:List Oper} {P:Program} {Q:Exit->Act->World->Prop} {S:World->Prop} {late:Nat} (i:Nat) {oi:Oper} (hp:Pick i l oi) {fuel:Nat} {listed:Array Bool} {a:Act} {w:World}
  (hs:Region.noSelect l.toArray=true) (hf:Region.free .any l.toArray listed i=true) (hr:(Region.ready .any l.toArray listed).contains i=true) (hwt:waitsB l.toArray listed i late (behind l.toArray i 8)=true)
  (hQ:∀c a w,Q (.panic c) (a.put oi.dst undef) w->Q (.panic c) a w) (hw:Region.wanted oi (yielded l.toArray a.tmps)=false) (hS:S w)
  (h:wpLate P .any l.toArray Q S late fuel (listed.setIfInBounds i true) (a.put oi.dst undef) w):wpLate P .any l.toArray Q S late (fuel+1) listed a w:=
 wpLate_take 8 hp.get hs hf hr hwt hQ (Or.inr ⟨hw,rfl⟩) hS h

theorem step_may {ops:Array Oper} {o:Oper} {a:Act} {w:World} {K:Act->World->Prop} {Q:Exit->Act->World->Prop} {E:Prop} {t u:TypeId} (hw:Region.wanted o (yielded ops a.tmps)=true) (x y:Nat)
  (ho:o.op=.call { callee:=.value (.func 100),args:=#[.tmp x,.tmp y],argTypes:=#[t,u] }) (v v' : Value) (hx:a.tmps[x]?.getD undef=v) (hy:a.tmps[y]?.getD undef=v')
  (h:Calls Tryz.prog 100 #[v,v'] w fun e w'=>∃u,e=.returned u/\K (a.put o.dst u) w') :
  if Region.wanted o (yielded ops a.tmps)=true then Oper.wp Tryz.prog o a w K Q else E:=by
 rw [if_pos hw]
 unfold Oper.wp
 simp [execOp,ho,resolve,invoke,hx,hy,go_sem]
 refine h.mono ?_
 rintro e w' ⟨u,rfl,hk⟩
 exact hk

structure DSt (w wr:World) (dt:Obj) (next:Int) (I:Nat->Int) (X:Nat->ByteArray) (R:Nat->Int) (k:Nat) (V:Nat->Nat):Prop where
 box:wr.heap[w.heap.size]?=some dt
 tab:TabAt wr (w.heap.size+1+1+1) next (w.heap.size+1) (w.heap.size+1+1)
 m1:MapAt wr (w.heap.size+1) k (fun j=>.string (X j)) (fun j=>.pointer (some ⟨V j,0,none⟩))
 m2:MapAt wr (w.heap.size+1+1) k (fun j=>.int .i64 (I j)) (fun j=>.pointer (some ⟨V j,0,none⟩))
 each:∀j,j<k->TermAt wr (V j) (I j) (X j) (R j)
 below:Below w.heap.size w wr
 ge:∀j,j<k->w.heap.size<=V j

theorem DSt.start (w:World) (next:Int) (a:Option Addr) (n c:Nat) (I:Nat->Int) (X:Nat->ByteArray) (R:Nat->Int) (V:Nat->Nat) :
  DSt w ((((w.alloc (.cells #[.int .i64 next,.slice a n c] 42)).alloc (.map #[] 0)).alloc (.map #[] 0)).alloc (.cells #[.int .i64 next,.map (some (w.heap.size+1)),.map (some (w.heap.size+1+1))] 180)) (.cells #[.int .i64 next,.slice a n c] 42) next I X R 0 V:=by
 have e1:(w.alloc (.cells #[.int .i64 next,.slice a n c] 42)).heap.size=w.heap.size+1:=by simp
 have e2:((w.alloc (.cells #[.int .i64 next,.slice a n c] 42)).alloc (.map #[] 0)).heap.size=w.heap.size+1+1:=by simp
 have e3:(((w.alloc (.cells #[.int .i64 next,.slice a n c] 42)).alloc (.map #[] 0)).alloc (.map #[] 0)).heap.size=w.heap.size+1+1+1:=by simp
 have b0:=blk_alloc_new w (.cells #[.int .i64 next,.slice a n c] 42)
 have b1:=mapAt_new (w.alloc (.cells #[.int .i64 next,.slice a n c] 42)) (fun j=>.string (X j)) (fun j=>.pointer (some ⟨V j,0,none⟩))
 have b2:=mapAt_new ((w.alloc (.cells #[.int .i64 next,.slice a n c] 42)).alloc (.map #[] 0)) (fun j=>.int .i64 (I j)) (fun j=>.pointer (some ⟨V j,0,none⟩))
 have b3:=blk_alloc_new (((w.alloc (.cells #[.int .i64 next,.slice a n c] 42)).alloc (.map #[] 0)).alloc (.map #[] 0)) (.cells #[.int .i64 next,.map (some (w.heap.size+1)),.map (some (w.heap.size+1+1))] 180)
 rw [e1] at b1
 rw [e2] at b2
 rw [e3] at b3
 refine ⟨?_,b3,b1.kept ?_,b2.kept ((below_alloc _ _).block _ (by omega)),fun j hj=>absurd hj (Nat.not_lt_zero _),(((below_alloc _ _).alloc (by simp) _).alloc (by simp;omega) _).alloc (by simp;omega) _,fun j hj=>absurd hj (Nat.not_lt_zero _)⟩
 ·exact ((below_alloc _ _).block _ (by omega)).trans (((below_alloc _ _).block _ (by omega)).trans (((below_alloc _ _).block _ (by omega)).trans b0))
 ·exact ((below_alloc _ _).block _ (by omega)).trans ((below_alloc _ _).block _ (by omega))

theorem DSt.keep {w wr w' : World} {dt:Obj} {next:Int} {I:Nat->Int} {X:Nat->ByteArray} {R:Nat->Int} {k:Nat} {V:Nat->Nat} (h:DSt w wr dt next I X R k V) (hb:Below wr.heap.size wr w'):DSt w w' dt next I X R k V:=by
 have hlt:=(Array.getElem?_eq_some_iff.1 h.box).1
 exact ⟨(hb.block _ hlt).trans h.box,(hb.block _ h.tab.lt).trans h.tab,h.m1.kept (hb.block _ h.m1.lt),h.m2.kept (hb.block _ h.m2.lt),fun j hj=>(hb.block _ (h.each j hj).lt).trans (h.each j hj),h.below.trans (hb.mono h.below.size),h.ge⟩

theorem DSt.next {w wr w' : World} {cs:Array Value} {t:TypeId} {fr:Nat × Nat} {next:Int} {I:Nat->Int} {X:Nat->ByteArray} {R:Nat->Int} {k p:Nat} {V:Nat->Nat} {e:Ending} (h:DSt w wr (.cells cs t fr) next I X R k V) (hp:TermAt wr p (I k) (X k) (R k)) (hpg:w.heap.size<=p)
  (hr:PutRet wr (w.heap.size+1) (w.heap.size+1+1) k p (I k) (X k) I X V e w'):DSt w w' (.cells cs t fr) next I X R (k+1) (fun j=>if j=k then p else V j):=by
 obtain ⟨_,⟨w2,g1,g2⟩,m1,m2⟩:=hr
 have keep:∀b,b<wr.heap.size->b≠w.heap.size+1->b≠w.heap.size+1+1->w'.heap[b]?=wr.heap[b]?:=fun b hb h1 h2=>
  (g2.block b (Nat.lt_of_lt_of_le hb g1.size) (fun e=>h2 (by injection e))).trans (g1.block b hb (fun e=>h1 (by injection e)))
 have hlt:=(Array.getElem?_eq_some_iff.1 h.box).1
 have ek:∀(T:Type) (u:Nat->T) (j:Nat),(if j=k then u k else u j)=u j:=fun T u j=>by split <;> simp_all
 refine ⟨(keep _ hlt (by omega) (by omega)).trans h.box,(keep _ h.tab.lt (by omega) (by omega)).trans h.tab,m1.congr (fun j _=>by rw [ek]) (fun _ _=>rfl),m2.congr (fun j _=>by rw [ek]) (fun _ _=>rfl),fun j hj=>?_,?_,fun j hj=>?_⟩
 ·by_cases e:j=k
  ·subst e
   rw [if_pos rfl]
   exact (keep p hp.lt (h.m1.ne_cells hp) (h.m2.ne_cells hp)).trans hp
  ·rw [if_neg e]
   have q:=h.each j (by omega)
   exact (keep _ q.lt (h.m1.ne_cells q) (h.m2.ne_cells q)).trans q
 ·exact ((h.below.drew.grown g1 h.below.size (fun b e=>by injection e with e;omega)).drew).grown g2 (Nat.le_trans h.below.size g1.size) (fun b e=>by injection e with e;omega)
 ·by_cases e:j=k
  ·subst e;rw [if_pos rfl];exact hpg
  ·rw [if_neg e];exact h.ge j (by omega)

def ReadRet (w:World) (next:Int) (n:Nat) (I:Nat->Int) (X:Nat->ByteArray) (R:Nat->Int) (e:Ending) (w' : World):Prop:=
 (¬ VDt next n I X R/\e=.returned (.tuple #[.pointer none,.bool false])/\Below w.heap.size w w')\/
 (VDt next n I X R/\∃V dt,e=.returned (.tuple #[.pointer (some ⟨w.heap.size+1+1+1,0,none⟩),.bool true])/\DSt w w' dt next I X R n V)

theorem mayT_of {next:Int} {I:Nat->Int} {X:Nat->ByteArray} {R:Nat->Int} {k:Nat}:(MayT next k I (I k) (X k) (R k)/\(0<k->Op.bytesLess (X (k-1)).toList (X k).toList=true))↔(GoodT next I X R k/\FreshT I k):=by
 unfold MayT GoodT FreshT txB nuB
 simp only [Bool.and_eq_true,decide_eq_true_eq]
 constructor
 ·rintro ⟨⟨⟨h1,h2⟩,⟨h3,h4⟩,h5,h6,h7⟩,h8⟩
  exact ⟨⟨⟨by omega,by omega⟩,⟨h5,h6⟩,⟨h3,h4⟩,h8⟩,h7⟩
 ·rintro ⟨⟨⟨h1,h2⟩,⟨h5,h6⟩,⟨h3,h4⟩,h8⟩,h7⟩
  exact ⟨⟨⟨by omega,by omega⟩,⟨h3,h4⟩,h5,h6,h7⟩,h8⟩

theorem mayHold_at (b:Bool) (tb B1 B2 k:Nat) (next i r:Int) (x:ByteArray) (I:Nat->Int) (V:Nat->Nat) (w:World) (ht:TabAt w tb next B1 B2) (hm:MapAt w B2 k (fun j=>.int .i64 (I j)) (fun j=>.pointer (some ⟨V j,0,none⟩))) (hd:∀j,j<k->∀q,q<k->I j=I q->j=q) (hb:b=true↔MayT next k I i x r) :
  Calls Tryz.prog 100 #[.pointer (some ⟨tb,0,none⟩),.agg #[.int .i64 i,.string x,.int .i64 r]] w fun e w'=>e=.returned (.bool b)/\Below w.heap.size w w':=by
 refine (mayHold_any tb B1 B2 k next i r x I V w ht hm hd).mono ?_
 rintro e w' ⟨b',rfl,hiff,hbel⟩
 refine ⟨?_,hbel⟩
 have:b'=b:=by rw [Bool.eq_iff_iff,hiff,hb]
 rw [this]

theorem fresh_inj {I:Nat->Int} {k:Nat} (h:∀m,m<k->FreshT I m):∀j,j<k->∀q,q<k->I j=I q->j=q:=by
 intro j hj q hq e
 rcases Nat.lt_trichotomy j q with h1|h1|h1
 ·exact absurd e (h q hq j h1)
 ·exact h1
 ·exact absurd e.symm (h j hj q h1)

set_option maxHeartbeats 8000000 in
theorem readDict_any (next:Int) (a:Option Addr) (n c:Nat) (I:Nat->Int) (X:Nat->ByteArray) (R:Nat->Int) (w:World) (h:RdT w a n I X R) (hn:n<=1048576) :
  Calls Tryz.prog 71 #[.agg #[.int .i64 next,.slice a n c]] w (ReadRet w next n I X R):=by
 have hmm:=@run_makeMap Tryz.prog
 cases hnu:nuB next with
 | false=>
  go_enter Tryz.func71,Tryz.ntmps71
  go_wp2_with (first
   | (go_at_call 99;refine (isNu_at _ _ hnu _).mono ?_;rintro e w1 ⟨rfl,rfl⟩)
   | fail)
  refine bodyPost_ret (v:=.tuple #[.pointer none,.bool false]) (by simp [results,Tryz.results71,go_sem]) rfl (.inl ⟨(fun q=>by have:=q.1;rw [hnu] at this;cases this),rfl,below_alloc _ _⟩)
 | true=>
 by_cases h12:1200<(n:Int)
 ·go_enter Tryz.func71,Tryz.ntmps71
  go_wp2_with (first
   | (go_at_call 99;refine (isNu_at _ _ hnu _).mono ?_;rintro e w1 ⟨rfl,rfl⟩)
   | fail)
  refine bodyPost_ret (v:=.tuple #[.pointer none,.bool false]) (by simp [results,Tryz.results71,go_sem]) rfl (.inl ⟨(fun q=>by have:=q.2.1;omega),rfl,below_alloc _ _⟩)
 have H0:Hid (DSt w ((((w.alloc (.cells #[.int .i64 next,.slice a n c] 42)).alloc (.map #[] 0)).alloc (.map #[] 0)).alloc (.cells #[.int .i64 next,.map (some (w.heap.size+1)),.map (some (w.heap.size+1+1))] 180)) (.cells #[.int .i64 next,.slice a n c] 42) next I X R 0 (fun _=>0)):=DSt.start w next a n c I X R _
 go_enter Tryz.func71,Tryz.ntmps71
 go_wp2_with (first
  | (go_at_call 99;refine (isNu_at _ _ hnu _).mono ?_;rintro e w1 ⟨rfl,rfl⟩)
  | fail)
 go_loopw [26] (fun i wr=>∃(k:Nat) (V:Nat->Nat),k<=n/\i=.int .i64 k/\(∀m,m<k->GoodT next I X R m/\FreshT I m)/\DSt w wr (.cells #[.int .i64 next,.slice a n c] 42) next I X R k V) (fun i _=>n-(intOf i).toNat)
 case atStart=>exact ⟨0,_,Nat.zero_le _,rfl,fun m hm=>absurd hm (Nat.not_lt_zero _),H0.out⟩
 case round=>
  obtain ⟨k,V,hk,rfl,hgood,hst⟩:=hrel
  clear H0 hmm
  have HG:Hid (∀m,m<k->GoodT next I X R m/\FreshT I m):=hgood
  have HN:Hid (nuB next=true):=hnu
  have HS:Hid (DSt w wr (.cells #[.int .i64 next,.slice a n c] 42) next I X R k V):=hst
  have HSZ:Hid (w.heap.size<=wr.heap.size):=hst.below.size
  clear hgood hnu
  by_cases hlt:k<n
  ·have hne:¬ n=0:=by omega
   have HR:Hid (RdT wr a n I X R):=h.below hst.below
   have h':=h.below hst.below
   rcases h' with h' | ⟨b,o,rfl,hc⟩
   ·exact absurd h' hne
   obtain ⟨c1,c2,c3⟩:=hc k hlt
   clear hc h hst
   go_wp2
   have HW:Hid (DSt w (wr.alloc (.cells #[.int .i64 (I k),.string (X k),.int .i64 (R k)] 112)) (.cells #[.int .i64 next,.slice (some ⟨b,o,none⟩) n c] 42) next I X R k V/\TermAt (wr.alloc (.cells #[.int .i64 (I k),.string (X k),.int .i64 (R k)] 112)) wr.heap.size (I k) (X k) (R k)/\RdT (wr.alloc (.cells #[.int .i64 (I k),.string (X k),.int .i64 (R k)] 112)) (some ⟨b,o,none⟩) n I X R):=⟨HS.out.keep (below_alloc _ _),blk_alloc_new _ _,HR.out.below (below_alloc _ _)⟩
   clear c1 c2 c3 HS HR
   generalize (wr.alloc (.cells #[.int .i64 (I k),.string (X k),.int .i64 (R k)] 112))=wt at HW ⊢
   have HTP:Hid (w.heap.size<=wr.heap.size):=HSZ.out
   clear HSZ
   generalize wr.heap.size=tp at HW HTP ⊢
   have HC:Hid (∀w2,Below wt.drew.heap.size wt.drew w2->DSt w w2 (.cells #[.int .i64 next,.slice (some ⟨b,o,none⟩) n c] 42) next I X R k V/\TermAt w2 tp (I k) (X k) (R k)/\RdT w2 (some ⟨b,o,none⟩) n I X R):=fun w2 hb0=>by
    have hb:Below wt.heap.size wt w2:=(Below.refl _ _).drew.trans hb0
    exact ⟨HW.out.1.keep hb,(hb.block _ HW.out.2.1.lt).trans HW.out.2.1,HW.out.2.2.below hb⟩
   obtain ⟨t0,t1,t2⟩:=HW.out.2.1.cells
   by_cases hmay:MayT next k I (I k) (X k) (R k)
   case neg=>
    have HBAD:Hid (¬ VDt next n I X R):=fun q=>hmay (mayT_of.2 (q.2.2 k hlt)).1
    have HM:Hid (Calls Tryz.prog 100 #[.pointer (some ⟨w.heap.size+1+1+1,0,none⟩),.agg #[.int .i64 (I k),.string (X k),.int .i64 (R k)]] wt.drew fun e w'=>e=.returned (.bool false)/\Below wt.drew.heap.size wt.drew w'):=mayHold_at false _ _ _ k next (I k) (R k) (X k) I V wt.drew HW.out.1.tab HW.out.1.m2 (fresh_inj fun m hm=>(HG.out m hm).2) (Iff.intro (fun e=>by cases e) (fun p=>absurd p hmay))
    refine wp_region_late (S:=(fun w'=>w'.cell? ⟨tp,0,none⟩=some (.int .i64 (I k))/\w'.cell? ⟨tp,1,none⟩=some (.string (X k))/\w'.cell? ⟨tp,2,none⟩=some (.int .i64 (R k)))) 19 (by kernel_rfl) ?_ (fun hHeld=>?_)
    ·((try dsimp only);go_keep)
    refine tk 0 .zero (v:=?_) ?_ ?_
    rotate_left
    ·(intro w h;(try dsimp only at h);go_simp) <;> with_reducible rfl
    simp only [tkp]
    refine tk 1 (.succ .zero) (v:=?_) ?_ ?_
    rotate_left
    ·(intro w h;(try dsimp only at h);go_simp) <;> with_reducible rfl
    simp only [tkp]
    refine tk1 2 (.succ (.succ .zero)) (fun K hK=>?_)
    (refine step_may (by rfl) 31 32 (by rfl) _ _ (by rfl) (by rfl) ?_;refine HM.out.mono ?_;rintro e w2 ⟨rfl,hb2⟩;refine ⟨_,rfl,?_⟩;obtain ⟨z0,z1,z2⟩:=(HC.out w2 hb2).2.1.cells)
    refine hK.out _ _ ?_ (fun hG=>?_)
    ·(intro _;(try dsimp only);go_keep)
    clear hK K
    replace hHeld:=hG (by decide)
    clear hG
    try simp only [tkp]
    refine tk 3 (.succ (.succ (.succ .zero))) (v:=?_) ?_ ?_
    rotate_left
    ·(intro w h;(try dsimp only at h);go_simp) <;> with_reducible rfl
    simp only [tkp]
    refine tk 4 (.succ (.succ (.succ (.succ .zero)))) (v:=?_) ?_ ?_
    rotate_left
    ·(intro w h;(try dsimp only at h);go_simp) <;> with_reducible rfl
    simp only [tkp]
    refine late_skip0 5 (.s5 .zero) (by kernel_rfl) (by kernel_rfl) (by kernel_rfl) (by kernel_rfl) (fun _ _ _ h=>h) (by rfl) (by assumption) ?_
    simp only [tkp]
    refine late_skip0 6 (.s5 (.succ .zero)) (by kernel_rfl) (by kernel_rfl) (by kernel_rfl) (by kernel_rfl) (fun _ _ _ h=>h) (by rfl) (by assumption) ?_
    simp only [tkp]
    refine late_skip0 7 (.s5 (.succ (.succ .zero))) (by kernel_rfl) (by kernel_rfl) (by kernel_rfl) (by kernel_rfl) (fun _ _ _ h=>h) (by rfl) (by assumption) ?_
    simp only [tkp]
    refine late_skip0 8 (.s5 (.succ (.succ (.succ .zero)))) (by kernel_rfl) (by kernel_rfl) (by kernel_rfl) (by kernel_rfl) (fun _ _ _ h=>h) (by rfl) (by assumption) ?_
    simp only [tkp]
    refine late_skip0 9 (.s5 (.succ (.succ (.succ (.succ .zero))))) (by kernel_rfl) (by kernel_rfl) (by kernel_rfl) (by kernel_rfl) (fun _ _ _ h=>h) (by rfl) (by assumption) ?_
    simp only [tkp]
    refine late_skip0 10 (.s5 (.s5 .zero)) (by kernel_rfl) (by kernel_rfl) (by kernel_rfl) (by kernel_rfl) (fun _ _ _ h=>h) (by rfl) (by assumption) ?_
    simp only [tkp]
    refine late_skip0 11 (.s5 (.s5 (.succ .zero))) (by kernel_rfl) (by kernel_rfl) (by kernel_rfl) (by kernel_rfl) (fun _ _ _ h=>h) (by rfl) (by assumption) ?_
    simp only [tkp]
    refine late_skip0 12 (.s5 (.s5 (.succ (.succ .zero)))) (by kernel_rfl) (by kernel_rfl) (by kernel_rfl) (by kernel_rfl) (fun _ _ _ h=>h) (by rfl) (by assumption) ?_
    simp only [tkp]
    refine late_skip0 13 (.s5 (.s5 (.succ (.succ (.succ .zero))))) (by kernel_rfl) (by kernel_rfl) (by kernel_rfl) (by kernel_rfl) (fun _ _ _ h=>h) (by rfl) (by assumption) ?_
    simp only [tkp]
    refine late_skip0 14 (.s5 (.s5 (.succ (.succ (.succ (.succ .zero)))))) (by kernel_rfl) (by kernel_rfl) (by kernel_rfl) (by kernel_rfl) (fun _ _ _ h=>h) (by rfl) (by assumption) ?_
    simp only [tkp]
    refine late_skip0 15 (.s5 (.s5 (.s5 .zero))) (by kernel_rfl) (by kernel_rfl) (by kernel_rfl) (by kernel_rfl) (fun _ _ _ h=>h) (by rfl) (by assumption) ?_
    simp only [tkp]
    refine late_skip0 16 (.s5 (.s5 (.s5 (.succ .zero)))) (by kernel_rfl) (by kernel_rfl) (by kernel_rfl) (by kernel_rfl) (fun _ _ _ h=>h) (by rfl) (by assumption) ?_
    simp only [tkp]
    refine late_skip0 17 (.s5 (.s5 (.s5 (.succ (.succ .zero))))) (by kernel_rfl) (by kernel_rfl) (by kernel_rfl) (by kernel_rfl) (fun _ _ _ h=>h) (by rfl) (by assumption) ?_
    simp only [tkp]
    refine late_skip0 18 (.s5 (.s5 (.s5 (.succ (.succ (.succ .zero)))))) (by kernel_rfl) (by kernel_rfl) (by kernel_rfl) (by kernel_rfl) (fun _ _ _ h=>h) (by rfl) (by assumption) ?_
    simp only [tkp]
    refine late_one 19 (.s5 (.s5 (.s5 (.succ (.succ (.succ (.succ .zero))))))) (by kernel_rfl) (fun K hK=>?_)
    go_simp
    refine hK.out _ _ ?_ (fun hG=>?_)
    ·(intro hne;exact absurd rfl hne)
    clear hK K hG
    refine wpLate_done (by kernel_rfl) ?_ _
    have HX:Hid (DSt w w2 (.cells #[.int .i64 next,.slice (some ⟨b,o,none⟩) n c] 42) next I X R k V/\TermAt w2 tp (I k) (X k) (R k)/\RdT w2 (some ⟨b,o,none⟩) n I X R):=HC.out w2 hb2
    have HBW:Hid (Below w.heap.size w w2):=HX.out.1.below
    clear HC HM hb2 z0 z1 z2 t0 t1 t2
    go_wp2
    refine bodyPost_ret (v:=.tuple #[.pointer none,.bool false]) (by simp [results,Tryz.results71,go_sem]) rfl (.inl ⟨HBAD.out,rfl,HBW.out⟩)
   case pos=>
   have HM:Hid (Calls Tryz.prog 100 #[.pointer (some ⟨w.heap.size+1+1+1,0,none⟩),.agg #[.int .i64 (I k),.string (X k),.int .i64 (R k)]] wt.drew fun e w'=>e=.returned (.bool true)/\Below wt.drew.heap.size wt.drew w'):=mayHold_at true _ _ _ k next (I k) (R k) (X k) I V wt.drew HW.out.1.tab HW.out.1.m2 (fresh_inj fun m hm=>(HG.out m hm).2) (Iff.intro (fun _=>hmay) (fun _=>rfl))
   have HMAY:Hid (MayT next k I (I k) (X k) (R k)):=hmay
   clear hmay
   by_cases hk0:k=0
   ·have HGK:Hid (GoodT next I X R k/\FreshT I k):=mayT_of.1 ⟨HMAY.out,fun h=>by omega⟩
    have hdk:decide ((0:Int)<(k:Int))=false:=by simp;omega
    have hdn:decide (0<k)=false:=by simp;omega
    clear hk0
    refine wp_region_late (S:=(fun w'=>w'.cell? ⟨tp,0,none⟩=some (.int .i64 (I k))/\w'.cell? ⟨tp,1,none⟩=some (.string (X k))/\w'.cell? ⟨tp,2,none⟩=some (.int .i64 (R k)))) 19 (by kernel_rfl) ?_ (fun hHeld=>?_)
    ·((try dsimp only);go_keep)
    refine tk 0 .zero (v:=?_) ?_ ?_
    rotate_left
    ·(intro w h;(try dsimp only at h);go_simp) <;> with_reducible rfl
    simp only [tkp]
    refine tk 1 (.succ .zero) (v:=?_) ?_ ?_
    rotate_left
    ·(intro w h;(try dsimp only at h);go_simp) <;> with_reducible rfl
    simp only [tkp]
    refine tk1 2 (.succ (.succ .zero)) (fun K hK=>?_)
    (refine step_may (by rfl) 31 32 (by rfl) _ _ (by rfl) (by rfl) ?_;refine HM.out.mono ?_;rintro e w2 ⟨rfl,hb2⟩;refine ⟨_,rfl,?_⟩;obtain ⟨z0,z1,z2⟩:=(HC.out w2 hb2).2.1.cells)
    refine hK.out _ _ ?_ (fun hG=>?_)
    ·(intro _;(try dsimp only);go_keep)
    clear hK K
    replace hHeld:=hG (by decide)
    clear hG
    try simp only [tkp]
    refine tk 3 (.succ (.succ (.succ .zero))) (v:=?_) ?_ ?_
    rotate_left
    ·(intro w h;(try dsimp only at h);go_simp) <;> with_reducible rfl
    simp only [tkp]
    refine tk 4 (.succ (.succ (.succ (.succ .zero)))) (v:=?_) ?_ ?_
    rotate_left
    ·(intro w h;(try dsimp only at h);go_simp) <;> with_reducible rfl
    simp only [tkp]
    refine tk 5 (.s5 .zero) (v:=?_) ?_ ?_
    rotate_left
    ·(intro w h;(try dsimp only at h);go_simp) <;> with_reducible rfl
    simp only [tkp]
    refine tk 6 (.s5 (.succ .zero)) (v:=?_) ?_ ?_
    rotate_left
    ·(intro w h;(try dsimp only at h);go_simp) <;> with_reducible rfl
    simp only [tkp]
    refine tk 7 (.s5 (.succ (.succ .zero))) (v:=?_) ?_ ?_
    rotate_left
    ·(intro w h;(try dsimp only at h);go_simp) <;> with_reducible rfl
    simp only [tkp]
    refine late_skip0 8 (.s5 (.succ (.succ (.succ .zero)))) (by kernel_rfl) (by kernel_rfl) (by kernel_rfl) (by kernel_rfl) (fun _ _ _ h=>h) (by rfl) (by assumption) ?_
    simp only [tkp]
    refine late_skip0 9 (.s5 (.succ (.succ (.succ (.succ .zero))))) (by kernel_rfl) (by kernel_rfl) (by kernel_rfl) (by kernel_rfl) (fun _ _ _ h=>h) (by rfl) (by assumption) ?_
    simp only [tkp]
    refine late_skip0 10 (.s5 (.s5 .zero)) (by kernel_rfl) (by kernel_rfl) (by kernel_rfl) (by kernel_rfl) (fun _ _ _ h=>h) (by rfl) (by assumption) ?_
    simp only [tkp]
    refine late_skip0 11 (.s5 (.s5 (.succ .zero))) (by kernel_rfl) (by kernel_rfl) (by kernel_rfl) (by kernel_rfl) (fun _ _ _ h=>h) (by rfl) (by assumption) ?_
    simp only [tkp]
    refine late_skip0 12 (.s5 (.s5 (.succ (.succ .zero)))) (by kernel_rfl) (by kernel_rfl) (by kernel_rfl) (by kernel_rfl) (fun _ _ _ h=>h) (by rfl) (by assumption) ?_
    simp only [tkp]
    refine late_skip0 13 (.s5 (.s5 (.succ (.succ (.succ .zero))))) (by kernel_rfl) (by kernel_rfl) (by kernel_rfl) (by kernel_rfl) (fun _ _ _ h=>h) (by rfl) (by assumption) ?_
    simp only [tkp]
    refine late_skip0 14 (.s5 (.s5 (.succ (.succ (.succ (.succ .zero)))))) (by kernel_rfl) (by kernel_rfl) (by kernel_rfl) (by kernel_rfl) (fun _ _ _ h=>h) (by rfl) (by assumption) ?_
    simp only [tkp]
    refine late_skip0 15 (.s5 (.s5 (.s5 .zero))) (by kernel_rfl) (by kernel_rfl) (by kernel_rfl) (by kernel_rfl) (fun _ _ _ h=>h) (by rfl) (by assumption) ?_
    simp only [tkp]
    refine late_skip0 16 (.s5 (.s5 (.s5 (.succ .zero)))) (by kernel_rfl) (by kernel_rfl) (by kernel_rfl) (by kernel_rfl) (fun _ _ _ h=>h) (by rfl) (by assumption) ?_
    simp only [tkp]
    refine late_skip0 17 (.s5 (.s5 (.s5 (.succ (.succ .zero))))) (by kernel_rfl) (by kernel_rfl) (by kernel_rfl) (by kernel_rfl) (fun _ _ _ h=>h) (by rfl) (by assumption) ?_
    simp only [tkp]
    refine late_take 18 (.s5 (.s5 (.s5 (.succ (.succ (.succ .zero)))))) (v:=?_) (by kernel_rfl) (by kernel_rfl) (by kernel_rfl) (by kernel_rfl) (fun _ _ _ h=>h) (by rfl) ?_ (by assumption) ?_
    rotate_left
    ·(intro w h;(try dsimp only at h);go_simp) <;> with_reducible rfl
    simp only [tkp]
    refine late_one 19 (.s5 (.s5 (.s5 (.succ (.succ (.succ (.succ .zero))))))) (by kernel_rfl) (fun K hK=>?_)
    go_simp
    refine hK.out _ _ ?_ (fun hG=>?_)
    ·(intro hne;exact absurd rfl hne)
    clear hK K hG
    refine wpLate_done (by kernel_rfl) ?_ _
    have HX:Hid (DSt w w2 (.cells #[.int .i64 next,.slice (some ⟨b,o,none⟩) n c] 42) next I X R k V/\TermAt w2 tp (I k) (X k) (R k)/\RdT w2 (some ⟨b,o,none⟩) n I X R):=HC.out w2 hb2
    have HBW:Hid (Below w.heap.size w w2):=HX.out.1.below
    clear z0 z1 z2 t0 t1 t2
    clear HC HM hb2
    go_wp2_with fail
    refine (put_any _ _ _ k tp next (I k) (R k) (X k) I X V _ HX.out.1.tab HX.out.2.1 (by omega) HX.out.1.m1 HX.out.1.m2 (fun j hj=>less_neD (asc_lessD (k:=k+1) (fun m hm h0=>if e:m=k then by subst e;exact HGK.out.1.2.2.2 h0 else ((HG.out m (by omega)).1.2.2.2 h0)) k (by omega) j hj)) HGK.out.2).mono ?_
    intro e w4 hput
    obtain ⟨v4,rfl⟩:=hput.1
    have HZ:Hid (DSt w w4 (.cells #[.int .i64 next,.slice (some ⟨b,o,none⟩) n c] 42) next I X R (k+1) (fun j=>if j=k then tp else V j)):=HX.out.1.next HX.out.2.1 HTP.out hput
    clear hput
    go_wp2
    go_roundw
    case rel=>
     refine ⟨k+1,_,by omega,by go_num,fun m hm=>?_,HZ.out⟩
     by_cases e:m=k
     ·subst e;exact HGK.out
     ·exact HG.out m (by omega)
    case measure=>simp [intOf];omega
   ·obtain ⟨p,hkp⟩:∃p,k=p+1:=⟨k-1,by omega⟩
    have hp1:p<n:=by omega
    have hdk:decide ((0:Int)<(k:Int))=true:=by simp;omega
    have hdn:decide (0<k)=true:=by simp;omega
    have hwr:IntKind.i64.wrap ((k:Int)-1)=(k:Int)-1:=by rw [IntKind.wrap_i64];omega
    have hix:∀wz,(Instr.indexAt 40 (.slice (some ⟨b,o,none⟩) n c) (.int .i64 ((k:Int)-1))).run Tryz.prog wz=.ok (.pointer (some ⟨b,o+p*3,none⟩)) wz:=fun wz=>by rw [show (k:Int)-1=(p:Int) by omega];exact idxT b o n c p hp1 wz
    have HPK:Hid (k-1=p):=by show k-1=p;omega
    clear hkp hk0
    have HE:Hid (∀w2,Below wt.drew.heap.size wt.drew w2->w2.cell? ⟨w.heap.size,1,none⟩=some (.slice (some ⟨b,o,none⟩) n c)/\w2.cell? ⟨b,o+p*3+1,none⟩=some (.string (X p))):=fun w2 hb=>by
     obtain ⟨q1,_,q2⟩:=HC.out w2 hb
     refine ⟨by have:=q1.box;simp [World.cell?,this],?_⟩
     rcases q2 with h0|⟨b',o',he,hc'⟩
     ·omega
     ·simp at he
      obtain ⟨rfl,rfl⟩:=he
      exact (hc' p hp1).2.1
    obtain ⟨e3,e4⟩:=HE.out wt.drew (Below.refl _ _)
    have hle:=less_totalD (X p).toList (X k).toList
    cases hls:Op.bytesLess (X p).toList (X k).toList with
    | false=>
     rw [hls] at hle
     have HBAD:Hid (¬ VDt next n I X R):=fun q=>by
      have:=(q.2.2 k hlt).1.2.2.2 (by simpa using hdn)
      rw [HPK.out,hls] at this
      cases this
     refine wp_region_late (S:=(fun w'=>w'.cell? ⟨tp,0,none⟩=some (.int .i64 (I k))/\w'.cell? ⟨tp,1,none⟩=some (.string (X k))/\w'.cell? ⟨tp,2,none⟩=some (.int .i64 (R k))/\w'.cell? ⟨w.heap.size,1,none⟩=some (.slice (some ⟨b,o,none⟩) n c)/\w'.cell? ⟨b,o+p*3+1,none⟩=some (.string (X p)))) 19 (by kernel_rfl) ?_ (fun hHeld=>?_)
     ·((try dsimp only);go_keep)
     refine tk 0 .zero (v:=?_) ?_ ?_
     rotate_left
     ·(intro w h;(try dsimp only at h);go_simp) <;> with_reducible rfl
     simp only [tkp]
     refine tk 1 (.succ .zero) (v:=?_) ?_ ?_
     rotate_left
     ·(intro w h;(try dsimp only at h);go_simp) <;> with_reducible rfl
     simp only [tkp]
     refine tk1 2 (.succ (.succ .zero)) (fun K hK=>?_)
     (refine step_may (by rfl) 31 32 (by rfl) _ _ (by rfl) (by rfl) ?_;refine HM.out.mono ?_;rintro e w2 ⟨rfl,hb2⟩;refine ⟨_,rfl,?_⟩;obtain ⟨z0,z1,z2⟩:=(HC.out w2 hb2).2.1.cells;obtain ⟨z3,z4⟩:=HE.out w2 hb2)
     refine hK.out _ _ ?_ (fun hG=>?_)
     ·(intro _;(try dsimp only);go_keep)
     clear hK K
     replace hHeld:=hG (by decide)
     clear hG
     try simp only [tkp]
     refine tk 3 (.succ (.succ (.succ .zero))) (v:=?_) ?_ ?_
     rotate_left
     ·(intro w h;(try dsimp only at h);go_simp) <;> with_reducible rfl
     simp only [tkp]
     refine tk 4 (.succ (.succ (.succ (.succ .zero)))) (v:=?_) ?_ ?_
     rotate_left
     ·(intro w h;(try dsimp only at h);go_simp) <;> with_reducible rfl
     simp only [tkp]
     refine tk 5 (.s5 .zero) (v:=?_) ?_ ?_
     rotate_left
     ·(intro w h;(try dsimp only at h);go_simp) <;> with_reducible rfl
     simp only [tkp]
     refine tk 6 (.s5 (.succ .zero)) (v:=?_) ?_ ?_
     rotate_left
     ·(intro w h;(try dsimp only at h);go_simp) <;> with_reducible rfl
     simp only [tkp]
     refine tk 7 (.s5 (.succ (.succ .zero))) (v:=?_) ?_ ?_
     rotate_left
     ·(intro w h;(try dsimp only at h);go_simp) <;> with_reducible rfl
     simp only [tkp]
     refine tk 8 (.s5 (.succ (.succ (.succ .zero)))) (v:=?_) ?_ ?_
     rotate_left
     ·(intro w h;(try dsimp only at h);go_simp) <;> with_reducible rfl
     simp only [tkp]
     refine tk 9 (.s5 (.succ (.succ (.succ (.succ .zero))))) (v:=?_) ?_ ?_
     rotate_left
     ·(intro w h;(try dsimp only at h);go_simp) <;> with_reducible rfl
     simp only [tkp]
     refine tk 10 (.s5 (.s5 .zero)) (v:=?_) ?_ ?_
     rotate_left
     ·(intro w h;(try dsimp only at h);go_simp) <;> with_reducible rfl
     simp only [tkp]
     refine tk 11 (.s5 (.s5 (.succ .zero))) (v:=?_) ?_ ?_
     rotate_left
     ·(intro w h;(try dsimp only at h);go_simp) <;> with_reducible rfl
     simp only [tkp]
     refine tk 12 (.s5 (.s5 (.succ (.succ .zero)))) (v:=?_) ?_ ?_
     rotate_left
     ·(intro w h;(try dsimp only at h);go_simp) <;> with_reducible rfl
     simp only [tkp]
     refine tk 13 (.s5 (.s5 (.succ (.succ (.succ .zero))))) (v:=?_) ?_ ?_
     rotate_left
     ·(intro w h;(try dsimp only at h);go_simp) <;> with_reducible rfl
     simp only [tkp]
     refine late_take 14 (.s5 (.s5 (.succ (.succ (.succ (.succ .zero)))))) (v:=?_) (by kernel_rfl) (by kernel_rfl) (by kernel_rfl) (by kernel_rfl) (fun _ _ _ h=>h) (by rfl) ?_ (by assumption) ?_
     rotate_left
     ·(intro w h;(try dsimp only at h);go_simp) <;> with_reducible rfl
     simp only [tkp]
     refine tk 15 (.s5 (.s5 (.s5 .zero))) (v:=?_) ?_ ?_
     rotate_left
     ·(intro w h;(try dsimp only at h);go_simp) <;> with_reducible rfl
     simp only [tkp]
     refine tk 16 (.s5 (.s5 (.s5 (.succ .zero)))) (v:=?_) ?_ ?_
     rotate_left
     ·(intro w h;(try dsimp only at h);go_simp) <;> with_reducible rfl
     simp only [tkp]
     refine tk 17 (.s5 (.s5 (.s5 (.succ (.succ .zero))))) (v:=?_) ?_ ?_
     rotate_left
     ·(intro w h;(try dsimp only at h);go_simp) <;> with_reducible rfl
     simp only [tkp]
     refine late_take 18 (.s5 (.s5 (.s5 (.succ (.succ (.succ .zero)))))) (v:=?_) (by kernel_rfl) (by kernel_rfl) (by kernel_rfl) (by kernel_rfl) (fun _ _ _ h=>h) (by rfl) ?_ (by assumption) ?_
     rotate_left
     ·(intro w h;(try dsimp only at h);go_simp) <;> with_reducible rfl
     simp only [tkp]
     refine late_one 19 (.s5 (.s5 (.s5 (.succ (.succ (.succ (.succ .zero))))))) (by kernel_rfl) (fun K hK=>?_)
     go_simp
     refine hK.out _ _ ?_ (fun hG=>?_)
     ·(intro hne;exact absurd rfl hne)
     clear hK K hG
     refine wpLate_done (by kernel_rfl) ?_ _
     have HX:Hid (DSt w w2 (.cells #[.int .i64 next,.slice (some ⟨b,o,none⟩) n c] 42) next I X R k V/\TermAt w2 tp (I k) (X k) (R k)/\RdT w2 (some ⟨b,o,none⟩) n I X R):=HC.out w2 hb2
     have HBW:Hid (Below w.heap.size w w2):=HX.out.1.below
     clear HC HM HE hb2 z0 z1 z2 z3 z4 e3 e4 t0 t1 t2
     go_wp2
     refine bodyPost_ret (v:=.tuple #[.pointer none,.bool false]) (by simp [results,Tryz.results71,go_sem]) rfl (.inl ⟨HBAD.out,rfl,HBW.out⟩)
    | true=>
     rw [hls] at hle
     have HGK:Hid (GoodT next I X R k/\FreshT I k):=mayT_of.1 ⟨HMAY.out,fun _=>by rw [HPK.out];exact hls⟩
     refine wp_region_late (S:=(fun w'=>w'.cell? ⟨tp,0,none⟩=some (.int .i64 (I k))/\w'.cell? ⟨tp,1,none⟩=some (.string (X k))/\w'.cell? ⟨tp,2,none⟩=some (.int .i64 (R k))/\w'.cell? ⟨w.heap.size,1,none⟩=some (.slice (some ⟨b,o,none⟩) n c)/\w'.cell? ⟨b,o+p*3+1,none⟩=some (.string (X p)))) 19 (by kernel_rfl) ?_ (fun hHeld=>?_)
     ·((try dsimp only);go_keep)
     refine tk 0 .zero (v:=?_) ?_ ?_
     rotate_left
     ·(intro w h;(try dsimp only at h);go_simp) <;> with_reducible rfl
     simp only [tkp]
     refine tk 1 (.succ .zero) (v:=?_) ?_ ?_
     rotate_left
     ·(intro w h;(try dsimp only at h);go_simp) <;> with_reducible rfl
     simp only [tkp]
     refine tk1 2 (.succ (.succ .zero)) (fun K hK=>?_)
     (refine step_may (by rfl) 31 32 (by rfl) _ _ (by rfl) (by rfl) ?_;refine HM.out.mono ?_;rintro e w2 ⟨rfl,hb2⟩;refine ⟨_,rfl,?_⟩;obtain ⟨z0,z1,z2⟩:=(HC.out w2 hb2).2.1.cells;obtain ⟨z3,z4⟩:=HE.out w2 hb2)
     refine hK.out _ _ ?_ (fun hG=>?_)
     ·(intro _;(try dsimp only);go_keep)
     clear hK K
     replace hHeld:=hG (by decide)
     clear hG
     try simp only [tkp]
     refine tk 3 (.succ (.succ (.succ .zero))) (v:=?_) ?_ ?_
     rotate_left
     ·(intro w h;(try dsimp only at h);go_simp) <;> with_reducible rfl
     simp only [tkp]
     refine tk 4 (.succ (.succ (.succ (.succ .zero)))) (v:=?_) ?_ ?_
     rotate_left
     ·(intro w h;(try dsimp only at h);go_simp) <;> with_reducible rfl
     simp only [tkp]
     refine tk 5 (.s5 .zero) (v:=?_) ?_ ?_
     rotate_left
     ·(intro w h;(try dsimp only at h);go_simp) <;> with_reducible rfl
     simp only [tkp]
     refine tk 6 (.s5 (.succ .zero)) (v:=?_) ?_ ?_
     rotate_left
     ·(intro w h;(try dsimp only at h);go_simp) <;> with_reducible rfl
     simp only [tkp]
     refine tk 7 (.s5 (.succ (.succ .zero))) (v:=?_) ?_ ?_
     rotate_left
     ·(intro w h;(try dsimp only at h);go_simp) <;> with_reducible rfl
     simp only [tkp]
     refine tk 8 (.s5 (.succ (.succ (.succ .zero)))) (v:=?_) ?_ ?_
     rotate_left
     ·(intro w h;(try dsimp only at h);go_simp) <;> with_reducible rfl
     simp only [tkp]
     refine tk 9 (.s5 (.succ (.succ (.succ (.succ .zero))))) (v:=?_) ?_ ?_
     rotate_left
     ·(intro w h;(try dsimp only at h);go_simp) <;> with_reducible rfl
     simp only [tkp]
     refine tk 10 (.s5 (.s5 .zero)) (v:=?_) ?_ ?_
     rotate_left
     ·(intro w h;(try dsimp only at h);go_simp) <;> with_reducible rfl
     simp only [tkp]
     refine tk 11 (.s5 (.s5 (.succ .zero))) (v:=?_) ?_ ?_
     rotate_left
     ·(intro w h;(try dsimp only at h);go_simp) <;> with_reducible rfl
     simp only [tkp]
     refine tk 12 (.s5 (.s5 (.succ (.succ .zero)))) (v:=?_) ?_ ?_
     rotate_left
     ·(intro w h;(try dsimp only at h);go_simp) <;> with_reducible rfl
     simp only [tkp]
     refine tk 13 (.s5 (.s5 (.succ (.succ (.succ .zero))))) (v:=?_) ?_ ?_
     rotate_left
     ·(intro w h;(try dsimp only at h);go_simp) <;> with_reducible rfl
     simp only [tkp]
     refine late_take 14 (.s5 (.s5 (.succ (.succ (.succ (.succ .zero)))))) (v:=?_) (by kernel_rfl) (by kernel_rfl) (by kernel_rfl) (by kernel_rfl) (fun _ _ _ h=>h) (by rfl) ?_ (by assumption) ?_
     rotate_left
     ·(intro w h;(try dsimp only at h);go_simp) <;> with_reducible rfl
     simp only [tkp]
     refine tk 15 (.s5 (.s5 (.s5 .zero))) (v:=?_) ?_ ?_
     rotate_left
     ·(intro w h;(try dsimp only at h);go_simp) <;> with_reducible rfl
     simp only [tkp]
     refine tk 16 (.s5 (.s5 (.s5 (.succ .zero)))) (v:=?_) ?_ ?_
     rotate_left
     ·(intro w h;(try dsimp only at h);go_simp) <;> with_reducible rfl
     simp only [tkp]
     refine tk 17 (.s5 (.s5 (.s5 (.succ (.succ .zero))))) (v:=?_) ?_ ?_
     rotate_left
     ·(intro w h;(try dsimp only at h);go_simp) <;> with_reducible rfl
     simp only [tkp]
     refine late_take 18 (.s5 (.s5 (.s5 (.succ (.succ (.succ .zero)))))) (v:=?_) (by kernel_rfl) (by kernel_rfl) (by kernel_rfl) (by kernel_rfl) (fun _ _ _ h=>h) (by rfl) ?_ (by assumption) ?_
     rotate_left
     ·(intro w h;(try dsimp only at h);go_simp) <;> with_reducible rfl
     simp only [tkp]
     refine late_one 19 (.s5 (.s5 (.s5 (.succ (.succ (.succ (.succ .zero))))))) (by kernel_rfl) (fun K hK=>?_)
     go_simp
     refine hK.out _ _ ?_ (fun hG=>?_)
     ·(intro hne;exact absurd rfl hne)
     clear hK K hG
     refine wpLate_done (by kernel_rfl) ?_ _
     have HX:Hid (DSt w w2 (.cells #[.int .i64 next,.slice (some ⟨b,o,none⟩) n c] 42) next I X R k V/\TermAt w2 tp (I k) (X k) (R k)/\RdT w2 (some ⟨b,o,none⟩) n I X R):=HC.out w2 hb2
     have HBW:Hid (Below w.heap.size w w2):=HX.out.1.below
     clear HE z0 z1 z2 z3 z4 e3 e4 t0 t1 t2
     clear HC HM hb2
     go_wp2_with fail
     refine (put_any _ _ _ k tp next (I k) (R k) (X k) I X V _ HX.out.1.tab HX.out.2.1 (by omega) HX.out.1.m1 HX.out.1.m2 (fun j hj=>less_neD (asc_lessD (k:=k+1) (fun m hm h0=>if e:m=k then by subst e;exact HGK.out.1.2.2.2 h0 else ((HG.out m (by omega)).1.2.2.2 h0)) k (by omega) j hj)) HGK.out.2).mono ?_
     intro e w4 hput
     obtain ⟨v4,rfl⟩:=hput.1
     have HZ:Hid (DSt w w4 (.cells #[.int .i64 next,.slice (some ⟨b,o,none⟩) n c] 42) next I X R (k+1) (fun j=>if j=k then tp else V j)):=HX.out.1.next HX.out.2.1 HTP.out hput
     clear hput
     go_wp2
     go_roundw
     case rel=>
      refine ⟨k+1,_,by omega,by go_num,fun m hm=>?_,HZ.out⟩
      by_cases e:m=k
      ·subst e;exact HGK.out
      ·exact HG.out m (by omega)
     case measure=>simp [intOf];omega
  ·have e:n=k:=by omega
   subst e
   clear hst
   go_wp2
   refine bodyPost_ret (v:=.tuple #[.pointer (some ⟨w.heap.size+1+1+1,0,none⟩),.bool true]) (by simp [results,Tryz.results71,go_sem]) rfl (.inr ⟨⟨HN.out,by omega,HG.out⟩,V,_,rfl,HS.out⟩)
end Go.Proofs.YtpaomghibppgkaaGreat
