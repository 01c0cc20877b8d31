import Derived.WalkKit
import Derived.Deep.OwnRows
import Derived.Deep.Draws
import Derived.Deep.RegionHeld3
import Derived.Test.YtbmffmifemebmaaGreatDoorRows
import Derived.Deep.QuietTactic
import Derived.BigQuiet
import Derived.Handy
import Derived.WalkSpells
import Derived.Defers
import Derived.Recover
import Derived.WalkLawsBesides
set_option linter.unusedVariables false
set_option maxRecDepth 100000
namespace Go.Proofs.YtbmffmifemebmaaGreatDoor
open Go.RowKit Go.Deep

def Rd (k:IntKind) (w:World) (a:Option Addr) (len:Nat) (f:Nat->Int):Prop:=
 len=0\/∃b o,a=some ⟨b,o,none⟩/\∀i,i<len->w.cell? ⟨b,o+i,none⟩=some (.int k (f i))

theorem Rd.below {k:IntKind} {w w' : World} {a:Option Addr} {len:Nat} {f:Nat->Int} (h:Rd k w a len f) (hb:Below w.heap.size w w'):Rd k w' a len f:=by
 rcases h with h|⟨b,o,rfl,hc⟩
 ·exact Or.inl h
 ·refine Or.inr ⟨b,o,rfl,fun i hi=>?_⟩
  have hlt:=World.block_lt_of_cell? _ _ (hc i hi)
  rw [hb.cell (p:=⟨b,o+i,none⟩) hlt]
  exact hc i hi

theorem Rd.congr {k:IntKind} {w:World} {a:Option Addr} {len:Nat} {f g:Nat->Int} (h:Rd k w a len f) (e:∀i,i<len->f i=g i):Rd k w a len g:=by
 rcases h with h|⟨b,o,rfl,hc⟩
 ·exact Or.inl h
 ·exact Or.inr ⟨b,o,rfl,fun i hi=>by rw [hc i hi,e i hi]⟩

theorem below_drewN {B:Nat} {a w:World} (h:Below B a w) (n:Nat):Below B a (w.drewN n):=⟨h.os,h.tape,h.output,h.size,h.block⟩
theorem bcell {W w1:World} (hb:Below W.heap.size W w1):(∀b o,b<W.heap.size->w1.cell? ⟨b,o,none⟩=W.cell? ⟨b,o,none⟩)/\(∀b o,b<W.heap.size->w1.frozen? ⟨b,o,none⟩=W.frozen? ⟨b,o,none⟩):=
 ⟨fun b o h=>hb.cell (p:=⟨b,o,none⟩) h,fun b o h=>hb.frozen (p:=⟨b,o,none⟩) h⟩
theorem below_alloc (w:World) (o:Obj):Below w.heap.size w (w.alloc o):=(Below.refl _ _).alloc (Nat.le_refl _) o

def rowIn (w:World) (g:Nat) (t:TypeId) (n:Nat) (F:Nat->Value):Prop:=
 ∃cur:Array Value,w.heap[g]?=some (.cells cur t (0,0))/\n<=cur.size/\∀i,i<n->cur[i]?=some (F i)

namespace rowIn
variable {w:World} {g:Nat} {t:TypeId} {n:Nat} {F G:Nat->Value}

theorem cell (h:rowIn w g t n F) {i:Nat} (hi:i<n):w.cell? ⟨g,i,none⟩=some (F i):=by
 obtain ⟨c,hb,_,hc⟩:=h
 simp [World.cell?,hb,hc i hi]

theorem frozen (h:rowIn w g t n F) (i:Nat):w.frozen? ⟨g,i,none⟩=false:=by
 obtain ⟨c,hb,_,_⟩:=h
 simp [World.frozen?,hb]

theorem lt (h:rowIn w g t n F):g<w.heap.size:=by
 obtain ⟨c,hb,_,_⟩:=h
 obtain ⟨hlt,_⟩:=Array.getElem?_eq_some_iff.1 hb
 exact hlt

theorem congr (h:rowIn w g t n F) (e:∀i,i<n->F i=G i):rowIn w g t n G:=by
 obtain ⟨c,hb,hn,hc⟩:=h
 exact ⟨c,hb,hn,fun i hi=>by rw [hc i hi,e i hi]⟩

theorem of_block {w' : World} (h:rowIn w g t n F) (e:w'.heap[g]?=w.heap[g]?):rowIn w' g t n F:=by
 obtain ⟨c,hb,hn,hc⟩:=h
 exact ⟨c,e.trans hb,hn,hc⟩

theorem set (h:rowIn w g t n F) (i:Nat) (v:Value):rowIn (w.setCell ⟨g,i,none⟩ v) g t n (fun j=>if j=i then v else F j):=by
 obtain ⟨c,hb,hn,hc⟩:=h
 refine ⟨c.setIfInBounds i v,?_,by simpa using hn,fun j hj=>?_⟩
 ·simp [World.setCell,Array.getElem?_modify,hb]
 ·rw [Array.getElem?_setIfInBounds]
  by_cases e:j=i
  ·subst e
   have:j<c.size:=by omega
   simp [this]
  ·rw [if_neg (fun h=>e h.symm)]
   show c[j]?=some (if j=i then v else F j)
   rw [if_neg e]
   exact hc j hj

theorem setOther (h:rowIn w g t n F) {p:Addr} (hp:g≠p.block) (v:Value):rowIn (w.setCell p v) g t n F:=h.of_block (Below.heap_setCell _ _ _ _ hp)

theorem ofIs (h:w.rowIs g t n F):rowIn w g t n F:=by
 obtain ⟨c,hb,hn,hc⟩:=h
 exact ⟨c,hb,by omega,hc⟩

theorem ne {g' : Nat} {t' : TypeId} {n' : Nat} (h:rowIn w g t n F) (h' : rowIn w g' t' n' G) (ht:t≠t'):g≠g':=by
 rintro rfl
 obtain ⟨c,hb,_,_⟩:=h
 obtain ⟨c',hb',_,_⟩:=h'
 rw [hb] at hb'
 injection hb' with e
 injection e with _ e2 _
 exact ht e2
end rowIn

structure OnlyAt (a:Option Addr) (w w' : World):Prop where
 os:w'.os=w.os
 tape:w'.tape=w.tape
 output:w'.output=w.output
 size:w'.heap.size=w.heap.size
 block:∀k,(∀x,a=some x->x.block≠k)->w'.heap[k]?=w.heap[k]?

theorem OnlyAt.refl (a:Option Addr) (w:World):OnlyAt a w w:=⟨rfl,rfl,rfl,rfl,fun _ _=>rfl⟩
theorem OnlyAt.below {B:Nat} {a:Option Addr} {w w' : World} (h:OnlyAt a w w') (hB:∀x,a=some x->B<=x.block):Below B w w':=
 ⟨h.os,h.tape,h.output,by rw [h.size];exact Nat.le_refl _,fun k hk=>h.block k (fun x e=>by have:=hB x e;omega)⟩
theorem OnlyAt.setCell {g:Nat} {w w' : World} (h:OnlyAt (some ⟨g,0,none⟩) w w') (i:Nat) (v:Value):OnlyAt (some ⟨g,0,none⟩) w (w'.setCell ⟨g,i,none⟩ v):=
 ⟨h.os,h.tape,h.output,by rw [<- h.size];simp [World.setCell],fun k hk=>by
  rw [<- h.block k hk]
  exact Below.heap_setCell _ _ _ _ (fun e=>hk _ rfl e.symm)⟩

def OwnB (w:World) (B:Nat) (a:Option Addr) (n:Nat) (f:Nat->Int):Prop:=
 n=0\/∃g,a=some ⟨g,0,none⟩/\B<=g/\rowIn w g 5 n (fun i=>.int .u8 (f i))

theorem OwnB.rd {w:World} {B:Nat} {a:Option Addr} {n:Nat} {f:Nat->Int} (h:OwnB w B a n f):Rd .u8 w a n f:=by
 rcases h with h|⟨g,rfl,_,hr⟩
 ·exact Or.inl h
 ·exact Or.inr ⟨g,0,rfl,fun i hi=>by rw [Nat.zero_add];exact hr.cell hi⟩

theorem OwnB.mono {w:World} {B B' : Nat} {a:Option Addr} {n:Nat} {f:Nat->Int} (h:OwnB w B a n f) (hB:B'<=B):OwnB w B' a n f:=by
 rcases h with h|⟨g,rfl,hg,hr⟩
 ·exact Or.inl h
 ·exact Or.inr ⟨g,rfl,by omega,hr⟩

theorem OwnB.congr {w:World} {B:Nat} {a:Option Addr} {n:Nat} {f f' : Nat->Int} (h:OwnB w B a n f) (e:∀i,i<n->f i=f' i):OwnB w B a n f':=by
 rcases h with h|⟨g,rfl,hg,hr⟩
 ·exact Or.inl h
 ·exact Or.inr ⟨g,rfl,hg,hr.congr (fun i hi=>by rw [e i hi])⟩

theorem OwnB.below {w w' : World} {B:Nat} {a:Option Addr} {n:Nat} {f:Nat->Int} (h:OwnB w B a n f) (hb:Below w.heap.size w w'):OwnB w' B a n f:=by
 rcases h with h|⟨g,rfl,hg,hr⟩
 ·exact Or.inl h
 ·exact Or.inr ⟨g,rfl,hg,hr.of_block (hb.block g hr.lt)⟩

theorem OwnB.only {w w' : World} {B:Nat} {a a' : Option Addr} {n:Nat} {f:Nat->Int} (h:OwnB w B a n f) (ho:OnlyAt a' w w') (hne:n≠0->∀x y,a=some x->a'=some y->y.block≠x.block):OwnB w' B a n f:=by
 rcases h with h|⟨g,rfl,hg,hr⟩
 ·exact Or.inl h
 ·by_cases hn:n=0
  ·exact Or.inl hn
  ·exact Or.inr ⟨g,rfl,hg,hr.of_block (ho.block g (fun y e=>hne hn ⟨g,0,none⟩ y rfl e))⟩
end Go.Proofs.YtbmffmifemebmaaGreatDoor
namespace Go.Proofs.YtbmffmifemebmaaGreatDoor
open Go

/-! A drawn region whose last operation writes a cell that the region reads: what holds of the world is asked behind every operation but that one. -/
section
variable {P:Program} {ops:Array Oper} {Q:Exit->Act->World->Prop} {md:Region.Mode} {S:World->Prop} {late:Nat}

def wpLate (P:Program) (md:Region.Mode) (ops:Array Oper) (Q:Exit->Act->World->Prop) (S:World->Prop) (late:Nat):Nat->Array Bool->Act->World->Prop
 | 0,listed,a,w=>Region.ready md ops listed=[]/\Q .normal a w
 | fuel+1,listed,a,w=>(Region.ready md ops listed=[]->Q .normal a w)/\
  ∀i∈Region.ready md ops listed,wpOp P ops Q i (fun a' w'=>(i≠late->S w')/\wpLate P md ops Q S late fuel (listed.setIfInBounds i true) a' w') a w

theorem wpAny_of_late:∀(fuel:Nat) (listed:Array Bool) (a:Act) (w:World),wpLate P md ops Q S late fuel listed a w->wpAny P md ops Q fuel listed a w
 | 0,_,_,_,h=>h
 | fuel+1,_,_,_,h=>⟨h.1,fun i hi=>wpOp_mono (fun a' w' h'=>wpAny_of_late fuel _ a' w' h'.2) (h.2 i hi)⟩

def Waits (md:Region.Mode) (ops:Array Oper) (i:Nat) (ch:List Nat):Prop:=
 ∀c∈ch,c=i\/∃o,ops[c]?=some o/\∃e∈o.after,Region.binds md e=true/\e.on∈ch

theorem Waits.not_ready {i:Nat} {ch:List Nat} (h:Waits md ops i ch) {listed:Array Bool} (hl:∀c∈ch,listed.getD c true=false) {j:Nat} (hj:j∈Region.ready md ops listed) (hji:j≠i):j∉ch:=fun hm=>by
 rcases h j hm with h|⟨o,ho,e,he,hb,hc⟩
 ·exact hji h
 ·obtain ⟨_,oj,hoj,hall⟩:=mem_ready.1 hj
  rw [ho] at hoj
  injection hoj with hoj
  subst hoj
  have h1:=hall e he hb
  have h2:=hl _ hc
  rcases Nat.lt_or_ge e.on listed.size with h' | h'
  ·simp [h'] at h1 h2
   rw [h2] at h1
   cases h1
  ·simp [Array.getElem?_eq_none h'] at h1

theorem wpLate_first {i:Nat} {oi:Oper} {v:Value} {ch:List Nat} (hi:ops[i]?=some oi) (hsel:∀(j:Nat) (o:Oper) cs b,ops[j]?=some o->o.op≠.select cs b)
  (hQ:∀c a w,Q (.panic c) (a.put oi.dst v) w->Q (.panic c) a w) (hw:Waits md ops i ch) (hlate:late∈ch) (hil:i≠late) :
  ∀(fuel:Nat) (listed:Array Bool) (a:Act) (w:World),
   (∀j oj,ops[j]?=some oj->j≠i->listed.getD j true=false->(∀e∈oj.after,Region.binds md e=true->e.on≠i)->oi.apart ops oj=true)->
   (∀c∈ch,listed.getD c true=false)->
   i∈Region.ready md ops listed->YieldsIf P ops S oi v a->S w->
   wpLate P md ops Q S late fuel (listed.setIfInBounds i true) (a.put oi.dst v) w->wpLate P md ops Q S late (fuel+1) listed a w:=by
 intro fuel
 induction fuel with
 | zero=>
  intro listed a w _ _ hr hy hS H
  refine ⟨fun h=>(by rw [h] at hr;cases hr),fun j hj=>?_⟩
  by_cases hji:j=i
  ·subst hji;exact hy.wpOp hi hS ⟨fun _=>hS,H⟩
  ·have:=ready_mono hj hji
   rw [H.1] at this
   cases this
 | succ fuel ih=>
  intro listed a w hfree hch hr hy hS H
  refine ⟨fun h=>(by rw [h] at hr;cases hr),fun j hj=>?_⟩
  by_cases hji:j=i
  ·subst hji;exact hy.wpOp hi hS ⟨fun _=>hS,H⟩
  ·have hjc:=hw.not_ready hch hj hji
   have hjl:j≠late:=fun e=>hjc (e ▸ hlate)
   have h1:=H.2 j (ready_mono hj hji)
   obtain ⟨hjun,oj,hoj,hall⟩:=mem_ready.1 hj
   have hnot:∀e∈oj.after,Region.binds md e=true->e.on≠i:=fun e he hb heq=>by
    have h1:=hall e he hb
    have h0:=(mem_ready.1 hr).1
    rw [heq] at h1
    rcases Nat.lt_or_ge i listed.size with h' | h'
    ·simp [h'] at h0 h1;rw [h0] at h1;cases h1
    ·simp [Array.getElem?_eq_none h'] at h1
   have h2:=wpOp_putIf hoj (hfree j oj hoj hji hjun hnot) (fun cs b=>hsel i oi cs b hi) (fun cs b=>hsel j oj cs b hoj) hQ hy h1
   have hfree' : ∀k ok,ops[k]?=some ok->k≠i->(listed.setIfInBounds j true).getD k true=false->
     (∀e∈ok.after,Region.binds md e=true->e.on≠i)->oi.apart ops ok=true:=fun k ok hk hki hun hno=>by
    refine hfree k ok hk hki ?_ hno
    by_cases hjk:j=k
    ·subst hjk;exact hjun
    ·rw [getD_set_ne true hjk] at hun;exact hun
   have hch' : ∀c∈ch,(listed.setIfInBounds j true).getD c true=false:=fun c hc=>by
    have hjk:j≠c:=fun e=>hjc (e ▸ hc)
    rw [getD_set_ne true hjk]
    exact hch c hc
   refine wpOp_mono (fun a' w' h3=>⟨fun _=>h3.2.1 hjl,ih (listed.setIfInBounds j true) a' w' hfree' hch' (ready_mono hr (Ne.symm hji)) h3.1 (h3.2.1 hjl) ?_⟩) h2
   rw [Array.setIfInBounds_comm _ _ hji]
   exact h3.2.2

def behind (ops:Array Oper) (i:Nat):Nat->List Nat
 | 0=>[i]
 | n+1=>let l:=behind ops i n
  l++(List.range ops.size).filter fun j=>!l.contains j && (match ops[j]? with|some o=>o.after.any fun e=>Region.binds .any e && l.contains e.on|none=>false)
def waitsB (ops:Array Oper) (listed:Array Bool) (i late:Nat) (ch:List Nat):Bool:=
 ch.contains late && i != late && ch.all fun c=>!(listed.getD c true) && (c == i || (match ops[c]? with|some o=>o.after.any fun e=>Region.binds .any e && ch.contains e.on|none=>false))

theorem waitsB_spec {listed:Array Bool} {i:Nat} {ch:List Nat} (h:waitsB ops listed i late ch=true):late∈ch/\i≠late/\Waits .any ops i ch/\∀c∈ch,listed.getD c true=false:=by
 unfold waitsB at h
 simp only [Bool.and_eq_true,List.all_eq_true,Bool.not_eq_true',Bool.or_eq_true,bne_iff_ne,ne_eq,List.contains_iff_mem,beq_iff_eq] at h
 obtain ⟨⟨h1,h2⟩,h3⟩:=h
 refine ⟨h1,h2,fun c hc=>?_,fun c hc=>(h3 c hc).1⟩
 rcases (h3 c hc).2 with h|h
 ·exact Or.inl h
 ·cases ho:ops[c]? with
  | none=>rw [ho] at h;cases h
  | some o=>
   rw [ho] at h
   simp only [Array.any_eq_true',Bool.and_eq_true,List.contains_iff_mem] at h
   obtain ⟨e,he,hb,hm⟩:=h
   exact Or.inr ⟨o,rfl,e,he,hb,hm⟩

theorem wpLate_take {i:Nat} {oi:Oper} {v:Value} {fuel:Nat} {listed:Array Bool} {a:Act} {w:World} (n:Nat) (hi:ops[i]?=some oi)
  (hs:Region.noSelect ops=true) (hf:Region.free .any ops listed i=true) (hr:(Region.ready .any ops listed).contains i=true) (hwt:waitsB ops listed i late (behind ops i n)=true)
  (hQ:∀c a w,Q (.panic c) (a.put oi.dst v) w->Q (.panic c) a w) (hy:YieldsIf P ops S oi v a) (hS:S w)
  (h:wpLate P .any ops Q S late fuel (listed.setIfInBounds i true) (a.put oi.dst v) w):wpLate P .any ops Q S late (fuel+1) listed a w:=by
 obtain ⟨h1,h2,h3,h4⟩:=waitsB_spec hwt
 exact wpLate_first hi (Region.noSelect_spec hs) hQ h3 h1 h2 fuel listed a w (Region.free_spec hi hf) h4 (by simpa using hr) hy hS h

theorem wpLate_one {i:Nat} {o:Oper} {fuel:Nat} {listed:Array Bool} {a:Act} {w:World} (hr:Region.ready md ops listed=[i]) (ho:ops[i]?=some o)
  (h:∀K' : Act->World->Prop,Shut (∀a w,(i≠late->S w)->((i≠late->S w)->wpLate P md ops Q S late fuel (listed.setIfInBounds i true) a w)->K' a w)->if Region.wanted o (yielded ops a.tmps)=true then Oper.wp P o a w K' Q else K' (a.put o.dst undef) w) :
  wpLate P md ops Q S late (fuel+1) listed a w:=
 ⟨fun h0=>(by rw [hr] at h0;cases h0),fun j hj=>by
  rw [hr] at hj
  have:j=i:=by simpa using hj
  subst this
  exact wpOp_step ho (fun K' hK=>h K' (fun a w hS hW=>hK a w ⟨hS,hW hS⟩))⟩

theorem wpLate_done {listed:Array Bool} {a:Act} {w:World} (hr:Region.ready md ops listed=[]) (h:Q .normal a w):∀fuel,wpLate P md ops Q S late fuel listed a w
 | 0=>⟨hr,h⟩
 | _+1=>⟨fun _=>h,by rw [hr];simp⟩

theorem wp_region_late {id:Nat} {a:Act} {w:World} (late:Nat) (hm:P.follows .mixedOrders=true) (hS:S w.drew)
  (h:S w.drew->wpLate P .any ops Q S late ops.size (Array.replicate ops.size false) a w.drew):(Code.region id ops true).wp P Q a w:=
 wp_region_any hm (wpAny_of_late _ _ _ _ (h hS))
end


def Pick:Nat->List Oper->Oper->Prop
 | 0,y::_,x=>y=x
 | k+1,_::l,x=>Pick k l x
 | _,[],_=>False
theorem Pick.zero {x:Oper} {l:List Oper}:Pick 0 (x::l) x:=rfl
theorem Pick.succ {k:Nat} {x y:Oper} {l:List Oper} (h:Pick k l x):Pick (k+1) (y::l) x:=h
theorem Pick.get:∀{k:Nat} {l:List Oper} {x:Oper},Pick k l x->l.toArray[k]?=some x
 | 0,y::l,x,h=>by
  have e:y=x:=h
  simp [e]
 | k+1,y::l,x,h=>by
  have e:Pick k l x:=h
  simpa using e.get
 | 0,[],_,h=>h.elim
 | k+1,[],_,h=>h.elim

theorem late_take {l:List Oper} {P:Program} {Q:Exit->Act->World->Prop} {S:World->Prop} {late:Nat} (i:Nat) {oi:Oper} (hp:Pick i l oi) {v:Value} {fuel:Nat} {listed:Array Bool} {a:Act} {w:World} 
  (hs:Region.noSelect l.toArray=true) (hf:Region.free .any l.toArray listed i=true) (hr:(Region.ready .any l.toArray listed).contains i=true) (hwt:waitsB l.toArray listed i late (behind l.toArray i 8)=true)
  (hQ:∀c a w,Q (.panic c) (a.put oi.dst v) w->Q (.panic c) a w) (hw:Region.wanted oi (yielded l.toArray a.tmps)=true) (hy:∀w,S w->(execOp a.eval oi).run P w=.ok (.value v) w) (hS:S w)
  (h:wpLate P .any l.toArray Q S late fuel (listed.setIfInBounds i true) (a.put oi.dst v) w):wpLate P .any l.toArray Q S late (fuel+1) listed a w:=
 wpLate_take 8 hp.get hs hf hr hwt hQ (Or.inl ⟨hw,hy⟩) hS h

theorem late_one {l:List Oper} {P:Program} {Q:Exit->Act->World->Prop} {S:World->Prop} {late:Nat} (i:Nat) {o:Oper} (hp:Pick i l o) {fuel:Nat} {listed:Array Bool} {a:Act} {w:World} (hr:Region.ready .any l.toArray listed=[i]) 
  (h:∀K' : Act->World->Prop,Shut (∀a w,(i≠late->S w)->((i≠late->S w)->wpLate P .any l.toArray Q S late fuel (listed.setIfInBounds i true) a w)->K' a w)->if Region.wanted o (yielded l.toArray a.tmps)=true then Oper.wp P o a w K' Q else K' (a.put o.dst undef) w) :
  wpLate P .any l.toArray Q S late (fuel+1) listed a w:=wpLate_one hr hp.get h
theorem Pick.s5 {k:Nat} {x a b c d e:Oper} {l:List Oper} (h:Pick k l x):Pick (k+5) (a::b::c::d::e::l) x:=h
theorem tk {l:List Oper} {P:Program} {Q:Exit->Act->World->Prop} {S:World->Prop} {late:Nat} (i:Nat) {oi:Oper} (hp:Pick i l oi) {v:Value} {fuel:Nat} {listed:Array Bool} {a:Act} {w:World}
  (hy:∀w,S w->(execOp a.eval oi).run P w=.ok (.value v) w) (h:wpLate P .any l.toArray Q S late fuel (listed.setIfInBounds i true) (a.put oi.dst v) w) (hs:Region.noSelect l.toArray=true:=by kernel_rfl) (hf:Region.free .any l.toArray listed i=true:=by kernel_rfl) (hr:(Region.ready .any l.toArray listed).contains i=true:=by kernel_rfl) (hwt:waitsB l.toArray listed i late (behind l.toArray i 8)=true:=by kernel_rfl)
  (hQ:∀c a w,Q (.panic c) (a.put oi.dst v) w->Q (.panic c) a w:=by exact fun _ _ _ h=>h) (hw:Region.wanted oi (yielded l.toArray a.tmps)=true:=by rfl) (hS:S w:=by assumption):wpLate P .any l.toArray Q S late (fuel+1) listed a w:=late_take i hp hs hf hr hwt hQ hw hy hS h
theorem tk1 {l:List Oper} {P:Program} {Q:Exit->Act->World->Prop} {S:World->Prop} {late:Nat} (i:Nat) {o:Oper} (hp:Pick i l o) {fuel:Nat} {listed:Array Bool} {a:Act} {w:World}
  (h:∀K' : Act->World->Prop,Shut (∀a w,(i≠late->S w)->((i≠late->S w)->wpLate P .any l.toArray Q S late fuel (listed.setIfInBounds i true) a w)->K' a w)->if Region.wanted o (yielded l.toArray a.tmps)=true then Oper.wp P o a w K' Q else K' (a.put o.dst undef) w) (hr:Region.ready .any l.toArray listed=[i]:=by kernel_rfl) :
  wpLate P .any l.toArray Q S late (fuel+1) listed a w:=late_one i hp hr h
theorem tkp:(∀(a:Act) (d:Tmp) (v:Value),a.put (some d) v={ a with tmps:=a.tmps.setIfInBounds d v })/\(∀(a:Act) (v:Value),a.put none v=a)/\(∀(l:List Value) (i:Nat) (x:Value),l.toArray.setIfInBounds i x=(l.set i x).toArray)/\(∀(l:List Value) (x y:Value),(x::l).set 0 y=y::l)/\(∀(l:List Value) (x y:Value) (n:Nat),(x::l).set (n+1) y=x::l.set n y):=⟨fun _ _ _=>rfl,fun _ _=>rfl,fun _ _ _=>List.setIfInBounds_toArray ..,fun _ _ _=>rfl,fun _ _ _ _=>rfl⟩
end Go.Proofs.YtbmffmifemebmaaGreatDoor
namespace Go.Proofs.YtbmffmifemebmaaGreatDoor
open Go.RowKit Go.Deep

def Bx (w:World) (b:Nat) (t:TypeId) (cur:Array Value):Prop:=w.heap[b]?=some (.cells cur t (0,0))

namespace Bx
variable {w w' : World} {b:Nat} {t:TypeId} {cur:Array Value}
theorem new (w:World) (cur:Array Value) (t:TypeId):Bx (w.alloc (.cells cur t)) w.heap.size t cur:=blk_alloc_new _ _
theorem lt (h:Bx w b t cur):b<w.heap.size:=(Array.getElem?_eq_some_iff.1 h).1
theorem of_block (h:Bx w b t cur) (e:w'.heap[b]?=w.heap[b]?):Bx w' b t cur:=e.trans h
theorem below (h:Bx w b t cur) (hb:Below w.heap.size w w'):Bx w' b t cur:=h.of_block (hb.block b h.lt)
theorem below' {B:Nat} (h:Bx w b t cur) (hb:Below B w w') (hB:b<B):Bx w' b t cur:=h.of_block (hb.block b hB)
theorem cell (h:Bx w b t cur) (i:Nat):w.cell? ⟨b,i,none⟩=cur[i]?:=by
 unfold Bx at h
 simp [World.cell?,h]
theorem frozen (h:Bx w b t cur) (i:Nat):w.frozen? ⟨b,i,none⟩=false:=by
 unfold Bx at h
 simp [World.frozen?,h]
theorem set (h:Bx w b t cur) (i:Nat) (v:Value):Bx (w.setCell ⟨b,i,none⟩ v) b t (cur.setIfInBounds i v):=by
 unfold Bx at h ⊢
 simp [World.setCell,Array.getElem?_modify,h]
theorem other (h:Bx w b t cur) {p:Addr} (hp:b≠p.block) (v:Value):Bx (w.setCell p v) b t cur:=h.of_block (Below.heap_setCell _ _ _ _ hp)
theorem grown {row:Option Nat} (h:Bx w b t cur) (hg:w.grownBy w' row) (hr:row≠some b):Bx w' b t cur:=h.of_block (hg.block b h.lt (fun e=>hr e.symm))
theorem alloc (h:Bx w b t cur) (o:Obj):Bx (w.alloc o) b t cur:=h.below (below_alloc _ _)
theorem drew (h:Bx w b t cur):Bx w.drew b t cur:=h
end Bx

theorem own_below {w w' : World} {base:Nat} {e:TypeId} {size:Nat} {v:Value} {n:Nat} {xs:List Value} (h:w.ownsRow base e size v n xs) (hb:Below w.heap.size w w'):w'.ownsRow base e size v n xs:=
 h.kept (w':=w') (row:=none) ⟨hb.os,hb.tape,hb.output,hb.size,fun k hk _=>hb.block k hk⟩ (by cases hv:v.ownBlock <;> simp)

set_option maxHeartbeats 1000000 in
theorem markByteS_row (g n cap:Nat) (f:Nat->Int) (w:World) (k0:Int) (h:rowIn w g 5 n (fun i=>.int .u8 (f i))) (hn:n<=1099511627776) (h0:0<=k0) (h1:k0<=4611686018427387904) :
  Calls Tryz.prog 122 #[.slice (some ⟨g,0,none⟩) n cap,.int .i64 k0] w fun e w'=>e=.returned (.int .i64 (k0+n))/\
   rowIn w' g 5 n (fun i=>.int .u8 (IntKind.u8.wrap (k0+i)))/\OnlyAt (some ⟨g,0,none⟩) w w':=by
 go_enter Tryz.func122,Tryz.ntmps122
 go_wp2
 go_loopw [1,5] (fun q i wr=>∃k:Nat,k<=n/\i=.int .i64 k/\q=.int .i64 (k0+k)/\rowIn wr g 5 n (fun j=>if j<k then .int .u8 (IntKind.u8.wrap (k0+j)) else .int .u8 (f j))/\OnlyAt (some ⟨g,0,none⟩) w wr) (fun _ i _=>n-(intOf i).toNat)
 case atStart=>exact ⟨0,Nat.zero_le _,rfl,by simp,h.congr (fun j _=>by simp),OnlyAt.refl _ _⟩
 case round=>
  obtain ⟨k,hk,rfl,rfl,hrow,honly⟩:=hrel
  by_cases hlt:k<n
  ·have hcy:=hrow.cell hlt
   simp only [Nat.lt_irrefl,if_false] at hcy
   have hfy:=hrow.frozen k
   have HX:Hid (rowIn (wr.setCell ⟨g,k,none⟩ (.int .u8 (IntKind.u8.wrap (k0+k)))) g 5 n (fun j=>if j<k+1 then .int .u8 (IntKind.u8.wrap (k0+j)) else .int .u8 (f j))/\OnlyAt (some ⟨g,0,none⟩) w (wr.setCell ⟨g,k,none⟩ (.int .u8 (IntKind.u8.wrap (k0+k))))):=
    ⟨(hrow.set k _).congr (fun j _=>by
      by_cases e:j=k
      ·subst e;simp
      ·by_cases hl:j<k
       ·have:j<k+1:=by omega
        simp [e,hl,this]
       ·have:¬ j<k+1:=by omega
        simp [e,hl,this]),honly.setCell k _⟩
   clear hrow honly h
   go_wp2
   go_roundw
   case rel=>exact ⟨k+1,by omega,by go_num,by go_num,HX.out⟩
   case measure=>simp [intOf];omega
  ·have e:k=n:=by omega
   subst e
   go_wp2
   go_ret
   exact ⟨rfl,hrow.congr (fun i hi=>by simp [hi]),honly⟩

theorem markByteS_own (a:Option Addr) (n cap B:Nat) (f:Nat->Int) (w:World) (k0:Int) (h:OwnB w B a n f) (hn:n<=1099511627776) (h0:0<=k0) (h1:k0<=4611686018427387904) :
  Calls Tryz.prog 122 #[.slice a n cap,.int .i64 k0] w fun e w'=>e=.returned (.int .i64 (k0+n))/\
   OwnB w' B a n (fun i=>IntKind.u8.wrap (k0+i))/\OnlyAt a w w'/\(n=0->w'=w):=by
 by_cases hz:n=0
 ·subst hz
  go_enter Tryz.func122,Tryz.ntmps122
  go_wp2
  go_loop [1,5] (fun q i=>i=.int .i64 0/\q=.int .i64 k0) (fun _ _=>0)
  case atStart=>exact ⟨rfl,rfl⟩
  case round=>
   obtain ⟨rfl,rfl⟩:=hrel
   go_wp2
   go_ret
   exact ⟨by simp,Or.inl rfl,OnlyAt.refl _ _,by simp⟩
 ·rcases h with h|⟨g,rfl,hg,hr⟩
  ·exact absurd h hz
  ·refine (markByteS_row g n cap f w k0 hr hn h0 h1).mono ?_
   rintro e w' ⟨rfl,hr',ho⟩
   exact ⟨rfl,Or.inr ⟨g,rfl,hg,hr'⟩,ho,fun h=>absurd h hz⟩

set_option maxHeartbeats 1000000 in
theorem heldByteS_yes (a:Option Addr) (n cap:Nat) (w:World) (k0:Int) (h:Rd .u8 w a n (fun i=>IntKind.u8.wrap (k0+i))) (hn:n<=1099511627776) (h0:0<=k0) (h1:k0<=4611686018427387904) :
  Calls Tryz.prog 126 #[.slice a n cap,.int .i64 k0] w fun e w'=>e=.returned (.int .i64 (k0+n))/\w'=w:=by
 go_enter Tryz.func126,Tryz.ntmps126
 go_wp2
 go_loop [1,5] (fun q i=>∃k:Nat,k<=n/\i=.int .i64 k/\q=.int .i64 (k0+k)) (fun _ i=>n-(intOf i).toNat)
 case atStart=>exact ⟨0,Nat.zero_le _,rfl,by simp⟩
 case round=>
  obtain ⟨k,hk,rfl,rfl⟩:=hrel
  by_cases hlt:k<n
  ·have hne:¬ n=0:=by omega
   rcases h with h|⟨b,o,rfl,hc⟩
   ·exact absurd h hne
   have hcx:=hc k hlt
   have hq:(IntKind.u8.wrap (k0+k) != IntKind.u8.wrap (k0+k))=false:=by simp
   clear hc
   go_wp2
   go_round
   case rel=>exact ⟨k+1,by omega,by go_num,by go_num⟩
   case measure=>simp [intOf];omega
  ·have e:k=n:=by omega
   subst e
   go_wp2
   go_ret
   exact ⟨rfl,rfl⟩

def RdP (w:World) (a:Option Addr) (m:Nat) (S:Nat->Int) (L:Nat->Nat) (F:Nat->Nat->Int):Prop:=
 m=0\/∃b o,a=some ⟨b,o,none⟩/\∀i,i<m->w.cell? ⟨b,o+i*2,none⟩=some (.int .i64 (S i))/\
  ∃ad cp,w.cell? ⟨b,o+i*2+1,none⟩=some (.slice ad (L i) cp)/\Rd .u8 w ad (L i) (F i)

theorem RdP.below {w w' : World} {a:Option Addr} {m:Nat} {S:Nat->Int} {L:Nat->Nat} {F:Nat->Nat->Int} (h:RdP w a m S L F) (hb:Below w.heap.size w w'):RdP w' a m S L F:=by
 rcases h with h|⟨b,o,rfl,hc⟩
 ·exact Or.inl h
 ·refine Or.inr ⟨b,o,rfl,fun i hi=>?_⟩
  obtain ⟨h1,ad,cp,h2,h3⟩:=hc i hi
  refine ⟨?_,ad,cp,?_,h3.below hb⟩
  ·rw [hb.cell (p:=⟨b,o+i*2,none⟩) (World.block_lt_of_cell? _ _ h1)];exact h1
  ·rw [hb.cell (p:=⟨b,o+i*2+1,none⟩) (World.block_lt_of_cell? _ _ h2)];exact h2

theorem RdP.congr {w:World} {a:Option Addr} {m:Nat} {S S' : Nat->Int} {L:Nat->Nat} {F F' : Nat->Nat->Int} (h:RdP w a m S L F) (hS:∀i,i<m->S i=S' i) (hF:∀i,i<m->∀j,j<L i->F i j=F' i j):RdP w a m S' L F':=by
 rcases h with h|⟨b,o,rfl,hc⟩
 ·exact Or.inl h
 ·refine Or.inr ⟨b,o,rfl,fun i hi=>?_⟩
  obtain ⟨h1,ad,cp,h2,h3⟩:=hc i hi
  exact ⟨by rw [<- hS i hi];exact h1,ad,cp,h2,h3.congr (hF i hi)⟩

def pendCell (S:Nat->Int) (A:Nat->Option Addr) (L C:Nat->Nat) (c:Nat):Value:=
 if c % 2=0 then .int .i64 (S (c / 2)) else .slice (A (c / 2)) (L (c / 2)) (C (c / 2))

theorem pendCell_even (S:Nat->Int) (A:Nat->Option Addr) (L C:Nat->Nat) (i:Nat):pendCell S A L C (i*2)=.int .i64 (S i):=by
 unfold pendCell
 rw [if_pos (by omega),show i*2 / 2=i by omega]

theorem pendCell_odd (S:Nat->Int) (A:Nat->Option Addr) (L C:Nat->Nat) (i:Nat):pendCell S A L C (i*2+1)=.slice (A i) (L i) (C i):=by
 unfold pendCell
 rw [if_neg (by omega),show (i*2+1) / 2=i by omega]

structure OwnPA (w:World) (B:Nat) (gC m:Nat) (S:Nat->Int) (L:Nat->Nat) (F:Nat->Nat->Int) (A:Nat->Option Addr) (C:Nat->Nat):Prop where
 le:B<=gC
 row:rowIn w gC 119 (m*2) (pendCell S A L C)
 each:∀i,i<m->OwnB w B (A i) (L i) (F i)
 apart:∀i j,i<m->j<m->i≠j->L i≠0->L j≠0->A i≠A j

def OwnP (w:World) (B:Nat) (a:Option Addr) (m:Nat) (S:Nat->Int) (L:Nat->Nat) (F:Nat->Nat->Int) (A:Nat->Option Addr):Prop:=
 m=0\/∃gC C,a=some ⟨gC,0,none⟩/\OwnPA w B gC m S L F A C

theorem OwnPA.rd {w:World} {B gC m:Nat} {S:Nat->Int} {L:Nat->Nat} {F:Nat->Nat->Int} {A:Nat->Option Addr} {C:Nat->Nat} (h:OwnPA w B gC m S L F A C):RdP w (some ⟨gC,0,none⟩) m S L F:=by
 refine Or.inr ⟨gC,0,rfl,fun i hi=>⟨?_,A i,C i,?_,(h.each i hi).rd⟩⟩
 ·have:=h.row.cell (i:=i*2) (by omega)
  rw [pendCell_even] at this
  simpa using this
 ·have:=h.row.cell (i:=i*2+1) (by omega)
  rw [pendCell_odd] at this
  simpa using this

theorem OwnP.rd {w:World} {B:Nat} {a:Option Addr} {m:Nat} {S:Nat->Int} {L:Nat->Nat} {F:Nat->Nat->Int} {A:Nat->Option Addr} (h:OwnP w B a m S L F A):RdP w a m S L F:=by
 rcases h with h|⟨gC,C,rfl,h⟩
 ·exact Or.inl h
 ·exact h.rd

theorem OwnP.below {w w' : World} {B:Nat} {a:Option Addr} {m:Nat} {S:Nat->Int} {L:Nat->Nat} {F:Nat->Nat->Int} {A:Nat->Option Addr} (h:OwnP w B a m S L F A) (hb:Below w.heap.size w w'):OwnP w' B a m S L F A:=by
 rcases h with h|⟨gC,C,rfl,h⟩
 ·exact Or.inl h
 ·exact Or.inr ⟨gC,C,rfl,h.le,h.row.of_block (hb.block gC h.row.lt),fun i hi=>(h.each i hi).below hb,h.apart⟩

theorem OwnB.setOther {w:World} {B:Nat} {a:Option Addr} {n:Nat} {f:Nat->Int} (h:OwnB w B a n f) {p:Addr} (hp:p.block<B) (v:Value):OwnB (w.setCell p v) B a n f:=by
 rcases h with h|⟨g,rfl,hg,hr⟩
 ·exact Or.inl h
 ·exact Or.inr ⟨g,rfl,hg,hr.of_block (Below.heap_setCell _ _ _ _ (by omega))⟩

theorem OwnP.setOther {w:World} {B:Nat} {a:Option Addr} {m:Nat} {S:Nat->Int} {L:Nat->Nat} {F:Nat->Nat->Int} {A:Nat->Option Addr} (h:OwnP w B a m S L F A) {p:Addr} (hp:p.block<B) (v:Value):OwnP (w.setCell p v) B a m S L F A:=by
 rcases h with h|⟨gC,C,rfl,h⟩
 ·exact Or.inl h
 ·exact Or.inr ⟨gC,C,rfl,h.le,h.row.of_block (Below.heap_setCell _ _ _ _ (by have:=h.le;omega)),fun i hi=>(h.each i hi).setOther hp v,h.apart⟩

theorem OwnP.mono {w:World} {B B' : Nat} {a:Option Addr} {m:Nat} {S:Nat->Int} {L:Nat->Nat} {F:Nat->Nat->Int} {A:Nat->Option Addr} (h:OwnP w B a m S L F A) (hB:B'<=B):OwnP w B' a m S L F A:=by
 rcases h with h|⟨gC,C,rfl,h⟩
 ·exact Or.inl h
 ·exact Or.inr ⟨gC,C,rfl,by have:=h.le;omega,h.row,fun i hi=>(h.each i hi).mono hB,h.apart⟩

structure OwnD (w:World) (B:Nat) (a:Option Addr) (n:Nat) (d:Nat->Int) (p:Option Addr) (m:Nat) (S:Nat->Int) (L:Nat->Nat) (F:Nat->Nat->Int) (A:Nat->Option Addr):Prop where
 data:OwnB w B a n d
 cache:OwnP w B p m S L F A
 apart:n≠0->∀i,i<m->L i≠0->A i≠a

theorem OwnD.below {w w' : World} {B:Nat} {a:Option Addr} {n:Nat} {d:Nat->Int} {p:Option Addr} {m:Nat} {S:Nat->Int} {L:Nat->Nat} {F:Nat->Nat->Int} {A:Nat->Option Addr} (h:OwnD w B a n d p m S L F A) (hb:Below w.heap.size w w'):OwnD w' B a n d p m S L F A:=
 ⟨h.data.below hb,h.cache.below hb,h.apart⟩
theorem OwnD.mono {w:World} {B B' : Nat} {a:Option Addr} {n:Nat} {d:Nat->Int} {p:Option Addr} {m:Nat} {S:Nat->Int} {L:Nat->Nat} {F:Nat->Nat->Int} {A:Nat->Option Addr} (h:OwnD w B a n d p m S L F A) (hB:B'<=B):OwnD w B' a n d p m S L F A:=
 ⟨h.data.mono hB,h.cache.mono hB,h.apart⟩
theorem OwnD.setOther {w:World} {B:Nat} {a:Option Addr} {n:Nat} {d:Nat->Int} {p:Option Addr} {m:Nat} {S:Nat->Int} {L:Nat->Nat} {F:Nat->Nat->Int} {A:Nat->Option Addr} (h:OwnD w B a n d p m S L F A) {x:Addr} (hp:x.block<B) (v:Value):OwnD (w.setCell x v) B a n d p m S L F A:=
 ⟨h.data.setOther hp v,h.cache.setOther hp v,h.apart⟩

theorem box4 {W w' : World} {v0 v1 v2 v3:Value} {t:TypeId} (hb:Below (W.heap.size+1) (W.alloc (.cells #[v0,v1,v2,v3] t)) w') :
  w'.cell? ⟨W.heap.size,0,none⟩=some v0/\w'.cell? ⟨W.heap.size,1,none⟩=some v1/\w'.cell? ⟨W.heap.size,2,none⟩=some v2/\w'.cell? ⟨W.heap.size,3,none⟩=some v3/\W.heap.size<w'.heap.size:=by
 have hs:=hb.size
 refine ⟨?_,?_,?_,?_,by simp at hs;omega⟩ <;> (rw [hb.cell (by simp)];simp)

def RetRd (w:World) (e:Ending) (w' : World) (r:Nat) (f:Nat->Int):Prop:=
 ∃a' c',e=.returned (.slice a' r c')/\Rd .u8 w' a' r f/\Below w.heap.size w w'
def RetOwn (w:World) (e:Ending) (w' : World) (r:Nat) (f:Nat->Int):Prop:=
 ∃a' c',e=.returned (.slice a' r c')/\OwnB w' w.heap.size a' r f/\Below w.heap.size w w'/\r<=c'/\c'<=9223372036854775807

def koff (L:Nat->Nat) (k0:Int):Nat->Int
 | 0=>k0
 | i+1=>koff L k0 i+1+L i

theorem koff_ge (L:Nat->Nat) (k0:Int) (i:Nat):k0+i<=koff L k0 i:=by
 induction i with
 | zero=>simp [koff]
 | succ i ih=>simp only [koff];omega

theorem koff_le (L:Nat->Nat) (k0:Int) (m:Nat) (b:Nat) (hL:∀i,i<m->L i<=b) (i:Nat) (hi:i<=m):koff L k0 i<=k0+i*(1+b):=by
 induction i with
 | zero=>simp [koff]
 | succ i ih=>
  have h1:=ih (by omega)
  have h2:=hL i (by omega)
  simp only [koff]
  have e:((i+1:Nat):Int)*(1+(b:Int))=(i:Int)*(1+(b:Int))+(1+(b:Int)):=by
   rw [Int.natCast_add,Int.add_mul];simp
  rw [e]
  omega

set_option maxHeartbeats 1000000 in
theorem eqByteS_yes (a b:Option Addr) (len ca cb:Nat) (f:Nat->Int) (w:World) (ha:Rd .u8 w a len f) (hb:Rd .u8 w b len f) (hm:len<=1099511627776) :
  Calls Tryz.prog 118 #[.slice a len ca,.slice b len cb] w fun e w'=>e=.returned (.bool true)/\∃n,w'=w.drewN n:=by
 have hll:((len:Int) != (len:Int))=false:=by simp
 go_enter Tryz.func118,Tryz.ntmps118
 go_wp2
 go_loopw [5] (fun i wr=>∃k n:Nat,k<=len/\i=.int .i64 k/\wr=w.drewN n) (fun i _=>len-(intOf i).toNat)
 case atStart=>exact ⟨0,0,Nat.zero_le _,rfl,rfl⟩
 case round=>
  obtain ⟨k,n,hk,rfl,rfl⟩:=hrel
  by_cases hlt:k<len
  ·have hne:¬ len=0:=by omega
   rcases ha with h|⟨ba,oa,rfl,hca⟩
   ·exact absurd h hne
   rcases hb with h|⟨bb,ob,rfl,hcb⟩
   ·exact absurd h hne
   have h1:=hca k hlt
   have h2:=hcb k hlt
   have hff:(f k != f k)=false:=by simp
   clear hca hcb
   go_wp2
   go_quiet (fail)
   go_wp2
   go_roundw
   case rel=>exact ⟨k+1,_,by omega,by go_num,rfl⟩
   case measure=>simp [intOf];omega
  ·have e:k=len:=by omega
   subst e
   go_wp2
   go_ret
   exact ⟨rfl,n,rfl⟩

set_option maxHeartbeats 400000 in
theorem eqTermS_nil (w:World) :
  Calls Tryz.prog 120 #[.slice none 0 0,.slice none 0 0] w fun e w'=>e=.returned (.bool true)/\w'=w:=by
 go_enter Tryz.func120,Tryz.ntmps120
 go_wp2
 go_rounds 1
 go_ret
 exact ⟨rfl,rfl⟩

set_option maxHeartbeats 400000 in
theorem markTermS_nil (k:Int) (w:World) :
  Calls Tryz.prog 124 #[.slice none 0 0,.int .i64 k] w fun e w'=>e=.returned (.int .i64 k)/\w'=w:=by
 go_enter Tryz.func124,Tryz.ntmps124
 go_wp2
 go_rounds 1
 go_ret
 exact ⟨rfl,rfl⟩

set_option maxHeartbeats 400000 in
theorem heldTermS_nil (k:Int) (w:World) :
  Calls Tryz.prog 128 #[.slice none 0 0,.int .i64 k] w fun e w'=>e=.returned (.int .i64 k)/\w'=w:=by
 go_enter Tryz.func128,Tryz.ntmps128
 go_wp2
 go_rounds 1
 go_ret
 exact ⟨rfl,rfl⟩


theorem Tryz.info5 : (Tryz.prog.info? 5).map (fun i=>(i.zero,i.size,i.bytes))=some (some (.int .u8 0),1,1):=by kernel_rfl


theorem ownB_ofOwns {w:World} {B:Nat} {v:Value} {n:Nat} {xs:List Value} {f:Nat->Int} (h:w.ownsRow B 5 1 v n xs) (hx:∀i,i<n->xs[i]?=some (.int .u8 (f i))):∃a c,v=.slice a n c/\OwnB w B a n f/\n<=c/\c<=maxLen:=by
 obtain ⟨hl,h⟩:=h
 rcases h with ⟨rfl,rfl⟩|⟨g,cap,cur,rfl,hg,hh,h1,h2,h3,h4⟩
 ·exact ⟨none,0,rfl,Or.inl rfl,Nat.le_refl _,Nat.zero_le _⟩
 ·refine ⟨_,cap,rfl,Or.inr ⟨g,rfl,hg,cur,hh,by omega,fun i hi=>?_⟩,h1,h2⟩
  rw [<- hx i hi,<- h4]
  have:i<n*1:=by omega
  rw [List.getElem?_take,if_pos this]
  simp

set_option maxHeartbeats 400000 in
theorem zeros_any (n:Nat) (w:World) (hn:n<=1048576) :
  Calls Tryz.prog 35 #[.int .i64 n] w fun e w'=>∃a c,e=.returned (.slice a n c)/\OwnB w' w.heap.size a n (fun _=>0)/\Below w.heap.size w w':=by
 obtain ⟨i0,hi,hz0,hz1,hz2⟩:=info_parts Tryz.info5
 have HI:Hid (Tryz.prog.info? 5=some i0/\i0.zero=some (.int .u8 0)/\i0.size=1/\i0.bytes=1):=⟨hi,hz0,hz1,hz2⟩
 clear hi hz0 hz1 hz2
 go_enter Tryz.func35,Tryz.ntmps35
 go_wp2
 go_loopw [3,4] (fun v i wr=>∃k:Nat,k<=n/\i=.int .i64 k/\wr.ownsRow w.heap.size 5 1 v k (List.replicate k (.int .u8 0))/\Below w.heap.size w wr) (fun _ i _=>n-(intOf i).toNat)
 case atStart=>exact ⟨0,Nat.zero_le _,rfl,World.ownsRow_lit w #[] 0 (Nat.le_refl _) (Nat.zero_le _) rfl,(Below.refl _ _).alloc (Nat.le_refl _) _⟩
 case round=>
  obtain ⟨k,hk,rfl,hown,hbel⟩:=hrel
  by_cases hlt:k<n
  ·have hsz:=hbel.size
   have HB:Hid (Below w.heap.size w wr):=hbel
   have HO:Hid (wr.ownsRow w.heap.size 5 1 u3 k (List.replicate k (.int .u8 0))):=hown
   clear hbel hown
   go_wp2_with (at_builtin;refine wpList_append_own _ rfl _ _ 22 rfl w.heap.size 5 i0 (.int .u8 0) 1 1 Tryz.underlying22 HI.out.1 HI.out.2.1 HI.out.2.2.1 HI.out.2.2.2 rfl (by decide) _ k (List.replicate k (.int .u8 0)) rfl (HO.out.alloc _) ⟨wr.heap.size,0,none⟩ 1 1 [.int .u8 0] rfl rfl ?c1 ?c2 ?c3 ?c4 ?c5 ?_)
   case c1=>exact cell_one_new _ _ _
   case c2=>intro u hu;simp at hu;subst hu;rfl
   case c3=>unfold maxLen;omega
   case c4=>omega
   case c5=>simp;omega
   ·intro v' w1 hown' hgrow _
    have HX:Hid (w1.ownsRow w.heap.size 5 1 v' (k+1) (List.replicate (k+1) (.int .u8 0))/\Below w.heap.size w w1):=
     ⟨by rw [List.replicate_succ'];exact hown',(HB.out.alloc hsz _).grown hgrow (by simp;omega) (fun b e=>(HO.out.lt b e).1)⟩
    clear hown' hgrow HO HB
    go_wp2
    go_roundw
    case rel=>exact ⟨k+1,by omega,by go_num,HX.out⟩
    case measure=>simp [intOf];omega
  ·have e:k=n:=by omega
   subst e
   go_wp2
   go_ret
   obtain ⟨a,c,rfl,h1,_⟩:=ownB_ofOwns (f:=fun _=>0) hown (fun i hi=>by simp [hi])
   exact ⟨a,c,rfl,h1,hbel⟩

theorem zeros_at (x:Int) (n:Nat) (w:World) (hx:x=(n:Int)) (hn:n<=1048576) :
  Calls Tryz.prog 35 #[.int .i64 x] w fun e w'=>∃a c,e=.returned (.slice a n c)/\OwnB w' w.heap.size a n (fun _=>0)/\Below w.heap.size w w':=by
 subst hx
 exact zeros_any n w hn
end Go.Proofs.YtbmffmifemebmaaGreatDoor
namespace Go.Proofs.YtbmffmifemebmaaGreatDoor

def crcSt (c:Int):Int:=if c % 2=1 then bits .xor .u32 (c / 2) 3988292384 else c / 2
def crcStN:Nat->Int->Int
 | 0,c=>c
 | n+1,c=>crcSt (crcStN n c)
def crcTo (f:Nat->Int):Nat->Int
 | 0=>4294967295
 | k+1=>crcStN 8 (bits .xor .u32 (crcTo f k) (f k))

theorem xor_range (a b:Int):0<=bits .xor .u32 a b/\bits .xor .u32 a b<4294967296:=by
 show 0<=IntKind.u32.wrap _/\IntKind.u32.wrap _<4294967296
 rw [IntKind.wrap_u32']
 omega

theorem crcSt_range (c:Int) (h0:0<=c) (h1:c<4294967296):0<=crcSt c/\crcSt c<4294967296:=by
 unfold crcSt
 split
 ·exact xor_range _ _
 ·omega

theorem crcStN_range (n:Nat) (c:Int) (h0:0<=c) (h1:c<4294967296):0<=crcStN n c/\crcStN n c<4294967296:=by
 induction n with
 | zero=>exact ⟨h0,h1⟩
 | succ n ih=>exact crcSt_range _ ih.1 ih.2

theorem and_one_u32 (c:Int) (h0:0<=c) (h1:c<4294967296):bits .and .u32 c 1=c % 2:=by
 rw [u32_and c 1 h0 h1 (by omega) (by omega)]
 have e:(1:Int).toNat=1:=rfl
 rw [e,Nat.and_one_is_mod]
 omega

theorem crcSt_one (c:Int) (h:c % 2=1):crcSt c=bits .xor .u32 (c / 2) 3988292384:=by unfold crcSt;rw [if_pos h]
theorem crcSt_zero (c:Int) (h:¬ c % 2=1):crcSt c=c / 2:=by unfold crcSt;rw [if_neg h]
end Go.Proofs.YtbmffmifemebmaaGreatDoor
namespace Go.Proofs.YtbmffmifemebmaaGreatDoor
open Go.RowKit Go.Deep

set_option maxHeartbeats 1000000 in
theorem specCrc_any (a:Option Addr) (len cap:Nat) (f:Nat->Int) (w:World) (h:Rd .u8 w a len f) (hf:∀i,i<len->0<=f i/\f i<256) (hm:len<=1099511627776) :
  Calls Tryz.prog 130 #[.slice a len cap] w fun e w'=>e=.returned (.int .u32 (bits .xor .u32 (crcTo f len) 4294967295))/\w'=w:=by
 go_enter Tryz.func130,Tryz.ntmps130
 go_wp2
 go_loop [3,4,5] (fun c i _=>∃k:Nat,k<=len/\i=.int .i64 k/\c=.int .u32 (crcTo f k)) (fun _ i _=>len-(intOf i).toNat)
 case atStart=>exact ⟨0,Nat.zero_le _,rfl,rfl⟩
 case round=>
  obtain ⟨k,hk,rfl,rfl⟩:=hrel
  by_cases hlt:k<len
  ·have hne:¬ len=0:=by omega
   rcases h with h|⟨b,o,rfl,hc⟩
   ·exact absurd h hne
   have hcx:=hc k hlt
   have hfk:=hf k hlt
   have hx:=xor_range (crcTo f k) (f k)
   have HX:Hid (crcTo f (k+1)=crcStN 8 (bits .xor .u32 (crcTo f k) (f k))):=rfl
   clear hc hf
   generalize crcTo f k=c0 at*
   go_wp2
   clear hcx
   generalize bits .xor .u32 c0 (f k)=x0 at*
   go_loop [3,5] (fun c j=>∃n:Nat,n<=8/\j=.int .i64 n/\c=.int .u32 (crcStN n x0)) (fun _ j=>8-(intOf j).toNat)
   case atStart=>exact ⟨0,Nat.zero_le _,rfl,rfl⟩
   case round=>
    obtain ⟨n,hn,rfl,rfl⟩:=hrel
    have hr:=crcStN_range n x0 hx.1 hx.2
    have HN:Hid (crcStN (n+1) x0=crcSt (crcStN n x0)):=rfl
    by_cases hlt8:n<8
    ·generalize crcStN n x0=c1 at*
     by_cases h1:c1 % 2=1
     ·have h1b:(c1 % 2 == 1)=true:=by simp [h1]
      have HE:Hid (crcSt c1=bits .xor .u32 (c1 / 2) 3988292384):=crcSt_one c1 h1
      clear h1
      go_wp2
      go_round
      case rel=>exact ⟨n+1,by omega,by go_num,by rw [HN.out,HE.out]⟩
      case measure=>simp [intOf];omega
     ·have h1b:(c1 % 2 == 1)=false:=by simp [h1]
      have HE:Hid (crcSt c1=c1 / 2):=crcSt_zero c1 h1
      clear h1
      go_wp2
      go_round
      case rel=>exact ⟨n+1,by omega,by go_num,by rw [HN.out,HE.out]⟩
      case measure=>simp [intOf];omega
    ·have e:n=8:=by omega
     subst e
     go_wp2
     go_round
     case rel=>exact ⟨k+1,by omega,by go_num,by rw [HX.out]⟩
     case measure=>simp [intOf];omega
  ·have e:k=len:=by omega
   subst e
   go_wp2
   go_ret
   exact ⟨rfl,rfl⟩

set_option maxHeartbeats 1000000 in
theorem implCrc_any (a:Option Addr) (len cap:Nat) (f:Nat->Int) (w:World) (h:Rd .u8 w a len f) (hf:∀i,i<len->0<=f i/\f i<256) (hm:len<=1099511627776) :
  Calls Tryz.prog 219 #[.slice a len cap] w fun e w'=>e=.returned (.int .u32 (bits .xor .u32 (crcTo f len) 4294967295))/\w'=w:=by
 go_enter Tryz.func219,Tryz.ntmps219
 go_wp2
 go_loop [3,5,8,16] (fun c _ i _=>∃k:Nat,k<=len/\i=.int .i64 k/\c=.int .u32 (crcTo f k)) (fun _ _ i _=>len-(intOf i).toNat)
 case atStart=>exact ⟨0,Nat.zero_le _,rfl,rfl⟩
 case round=>
  obtain ⟨k,hk,rfl,rfl⟩:=hrel
  by_cases hlt:k<len
  ·have hne:¬ len=0:=by omega
   rcases h with h|⟨b,o,rfl,hc⟩
   ·exact absurd h hne
   have hcx:=hc k hlt
   have hfk:=hf k hlt
   have hx:=xor_range (crcTo f k) (f k)
   have HX:Hid (crcTo f (k+1)=crcStN 8 (bits .xor .u32 (crcTo f k) (f k))):=rfl
   clear hc hf
   generalize crcTo f k=c0 at*
   go_wp2
   clear hcx
   generalize bits .xor .u32 c0 (f k)=x0 at*
   go_loop [3,16] (fun c j=>∃n:Nat,n<=8/\j=.int .i64 n/\c=.int .u32 (crcStN n x0)) (fun _ j=>8-(intOf j).toNat)
   case atStart=>exact ⟨0,Nat.zero_le _,rfl,rfl⟩
   case round=>
    obtain ⟨n,hn,rfl,rfl⟩:=hrel
    have hr:=crcStN_range n x0 hx.1 hx.2
    have HN:Hid (crcStN (n+1) x0=crcSt (crcStN n x0)):=rfl
    by_cases hlt8:n<8
    ·generalize crcStN n x0=c1 at*
     have ha:=and_one_u32 c1 hr.1 hr.2
     by_cases h1:c1 % 2=1
     ·have h1b:(bits .and .u32 c1 1 == 1)=true:=by simp [ha,h1]
      have HE:Hid (crcSt c1=bits .xor .u32 (c1 / 2) 3988292384):=crcSt_one c1 h1
      clear h1 ha
      go_wp2
      go_round
      case rel=>exact ⟨n+1,by omega,by go_num,by rw [HN.out,HE.out]⟩
      case measure=>simp [intOf];omega
     ·have h1b:(bits .and .u32 c1 1 == 1)=false:=by simp [ha,h1]
      have HE:Hid (crcSt c1=c1 / 2):=crcSt_zero c1 h1
      clear h1 ha
      go_wp2
      go_round
      case rel=>exact ⟨n+1,by omega,by go_num,by rw [HN.out,HE.out]⟩
      case measure=>simp [intOf];omega
    ·have e:n=8:=by omega
     subst e
     go_wp2
     go_round
     case rel=>exact ⟨k+1,by omega,by go_num,by rw [HX.out]⟩
     case measure=>simp [intOf];omega
  ·have e:k=len:=by omega
   subst e
   go_wp2
   go_ret
   exact ⟨rfl,rfl⟩

def VH (n m:Nat) (fuel:Int):Prop:=n % 64=0/\16<=n / 64/\n / 64<=1024/\m<=2000/\-1<=fuel/\fuel<=1000000
def VP (n:Nat) (S:Nat->Int) (L:Nat->Nat) (i:Nat):Prop:=0<=S i/\S i<(n:Int) / 64/\L i=64
def VD (n m:Nat) (S:Nat->Int) (L:Nat->Nat) (fuel:Int):Prop:=VH n m fuel/\∀i,i<m->VP n S L i

theorem not_VD_of_VH {n m:Nat} {S:Nat->Int} {L:Nat->Nat} {fuel:Int} (h:¬ VH n m fuel):¬ VD n m S L fuel:=fun k=>h k.1
theorem not_VD_of_VP {n m:Nat} {S:Nat->Int} {L:Nat->Nat} {fuel:Int} {i:Nat} (hi:i<m) (h:¬ VP n S L i):¬ VD n m S L fuel:=fun k=>h (k.2 i hi)
def AnsB (e:Ending) (p:Prop):Prop:=∃b:Bool,e=.returned (.bool b)/\(b=true↔p)
theorem AnsB.yes {p:Prop} (h:p):AnsB (.returned (.bool true)) p:=⟨true,rfl,fun _=>h,fun _=>rfl⟩
theorem AnsB.no {p:Prop} (h:¬ p):AnsB (.returned (.bool false)) p:=⟨false,rfl,(fun e=>by cases e),fun k=>absurd k h⟩
theorem AnsB.of {b:Bool} {p:Prop} (h:b=true↔p):AnsB (.returned (.bool b)) p:=⟨b,rfl,h⟩

end Go.Proofs.YtbmffmifemebmaaGreatDoor
namespace Go.Proofs.YtbmffmifemebmaaGreatDoor
open Go

/-! A drawn region of operations that each make something which stays: whatever the order,in the end everything is made. -/
def opVal (ops:Array Oper) (a:Act) (i:Nat):Value:=match ops[i]? with
 | some o=>(match o.dst with|some s=>a.tmps.getD s undef|none=>undef)
 | none=>undef

structure Plain (ops:Array Oper) (a0 a:Act):Prop where
 defers:a.defers=a0.defers
 size:a.tmps.size=a0.tmps.size
 other:∀(s:Nat),(∀(i:Nat) (o:Oper),ops[i]?=some o->o.dst≠some s)->a.tmps.getD s undef=a0.tmps.getD s undef

theorem put_getD_same {a:Act} {s:Nat} {v:Value} (h:s<a.tmps.size):(a.put (some s) v).tmps.getD s undef=v:=by
 simp [Act.put,h]
theorem put_getD_other {a:Act} {s t:Nat} {v:Value} (h:s≠t):(a.put (some s) v).tmps.getD t undef=a.tmps.getD t undef:=by
 simp [Act.put,Array.getElem?_setIfInBounds_ne h]

def sortedB (ops:Array Oper) (n:Nat):Bool:=
 (List.range ops.size).all fun i=>match ops[i]? with
  | some o=>(match o.dst with|some s=>decide (s<n) && (List.range ops.size).all (fun j=>j == i || (match ops[j]? with|some p=>p.dst != some s|none=>true))|none=>false) && o.after.all (fun e=>decide (e.on<i))
  | none=>true

theorem sortedB_spec {ops:Array Oper} {n:Nat} (h:sortedB ops n=true) {i:Nat} {o:Oper} (ho:ops[i]?=some o) :
  (∃s,o.dst=some s/\s<n/\∀j p,ops[j]?=some p->p.dst=some s->j=i)/\∀e∈o.after,e.on<i:=by
 have hi:i<ops.size:=(Array.getElem?_eq_some_iff.1 ho).1
 have h1:=List.all_eq_true.1 h i (List.mem_range.2 hi)
 rw [ho] at h1
 simp only [Bool.and_eq_true] at h1
 obtain ⟨h2,h3⟩:=h1
 constructor
 ·cases hd:o.dst with
  | none=>rw [hd] at h2;cases h2
  | some s=>
   rw [hd] at h2
   simp only [Bool.and_eq_true,decide_eq_true_eq] at h2
   refine ⟨s,rfl,h2.1,fun j p hj hp=>?_⟩
   have hjl:j<ops.size:=(Array.getElem?_eq_some_iff.1 hj).1
   have h4:=List.all_eq_true.1 h2.2 j (List.mem_range.2 hjl)
   rw [hj] at h4
   simp only [Bool.or_eq_true,beq_iff_eq,bne_iff_ne,ne_eq] at h4
   rcases h4 with h4|h4
   ·exact h4
   ·exact absurd hp h4
 ·intro e he
  have:=Array.all_eq_true_iff_forall_mem.1 h3 e he
  simpa using this

theorem getD_false {l:Array Bool} {k:Nat} (h:l.getD k false=true):k<l.size/\l.getD k true=true:=by
 rcases Nat.lt_or_ge k l.size with h' | h'
 ·refine ⟨h',?_⟩
  simp [h'] at h ⊢
  exact h
 ·simp [Array.getElem?_eq_none h'] at h

theorem makers_any {P:Program} {ops:Array Oper} {Q:Exit->Act->World->Prop} {a0:Act} {w0:World} (Ext:World->World->Prop) (Φ:Nat->Value->World->Prop)
  (htr:∀u v w,Ext u v->Ext v w->Ext u w) (hst:∀i v w w',Φ i v w->Ext w w'->Φ i v w') (hso:sortedB ops a0.tmps.size=true)
  (hop:∀i o,ops[i]?=some o->∀a w,Plain ops a0 a->Ext w0 w->(∀e∈o.after,Region.binds .any e=true->Φ e.on (opVal ops a e.on) w)->∀K' : Act->World->Prop,(∀v w',Ext w w'->Φ i v w'->K' (a.put o.dst v) w')->if Region.wanted o (yielded ops a.tmps)=true then Oper.wp P o a w K' Q else K' (a.put o.dst undef) w)
  (hend:∀a w,Plain ops a0 a->Ext w0 w->(∀i,i<ops.size->Φ i (opVal ops a i) w)->Q .normal a w) :
  ∀(fuel:Nat) (listed:Array Bool) (a:Act) (w:World) (L:List Nat),L.length<=fuel->(∀j,j<ops.size->listed.getD j true=false->j∈L)->listed.size=ops.size->Plain ops a0 a->Ext w0 w->(∀i,i<ops.size->listed.getD i true=true->Φ i (opVal ops a i) w)->wpAny P .any ops Q fuel listed a w:=by
 have fin:∀(listed:Array Bool) (a:Act) (w:World),listed.size=ops.size->Plain ops a0 a->Ext w0 w->(∀i,i<ops.size->listed.getD i true=true->Φ i (opVal ops a i) w)->(∀j,j<ops.size->listed.getD j true=true)->Q .normal a w:=fun listed a w _ hp he hphi hall=>hend a w hp he (fun i hi=>hphi i hi (hall i hi))
 have all:∀(listed:Array Bool),listed.size=ops.size->Region.ready .any ops listed=[]->∀j,j<ops.size->listed.getD j true=true:=by
  intro listed hsz hr j
  induction j using Nat.strongRecOn with
  | ind j ih=>
   intro hj
   cases hb:listed.getD j true with
   | true=>rfl
   | false=>
    exfalso
    have hoj:ops[j]?=some ops[j]:=Array.getElem?_eq_getElem hj
    have hm:j∈Region.ready .any ops listed:=by
     refine mem_ready.2 ⟨hb,_,hoj,fun e he _=>?_⟩
     have hlt:=(sortedB_spec hso hoj).2 e he
     have:=ih e.on hlt (by omega)
     have hl:e.on<listed.size:=by omega
     simp [hl] at this ⊢
     exact this
    rw [hr] at hm
    cases hm
 intro fuel
 induction fuel with
 | zero=>
  intro listed a w L hL hun hsz hp he hphi
  have hnil:L=[]:=List.eq_nil_of_length_eq_zero (by omega)
  have hall:∀j,j<ops.size->listed.getD j true=true:=fun j hj=>by
   cases hb:listed.getD j true with
   | true=>rfl
   | false=>have:=hun j hj hb;rw [hnil] at this;cases this
  refine ⟨?_,fin listed a w hsz hp he hphi hall⟩
  apply List.eq_nil_iff_forall_not_mem.2
  intro j hj
  obtain ⟨hb,o,ho,_⟩:=mem_ready.1 hj
  rw [hall j (Array.getElem?_eq_some_iff.1 ho).1] at hb
  cases hb
 | succ fuel ih=>
  intro listed a w L hL hun hsz hp he hphi
  refine ⟨fun hr=>fin listed a w hsz hp he hphi (all listed hsz hr),fun i hi=>?_⟩
  obtain ⟨hb,o,ho,hdep⟩:=mem_ready.1 hi
  have hil:i<ops.size:=(Array.getElem?_eq_some_iff.1 ho).1
  obtain ⟨⟨s,hs,hsn,hun'⟩,_⟩:=sortedB_spec hso ho
  refine wpOp_step ho (fun K' hK=>hop i o ho a w hp he (fun e hea hbe=>?_) K' (fun v w' hx hv=>hK _ _ ?_))
  ·obtain ⟨q1,q2⟩:=getD_false (hdep e hea hbe)
   exact hphi e.on (by omega) q2
  ·have hne:∀j,j≠i->opVal ops (a.put o.dst v) j=opVal ops a j:=by
    intro j hj
    unfold opVal
    cases hoj:ops[j]? with
    | none=>rfl
    | some p=>
     cases hd:p.dst with
     | none=>simp [hd]
     | some t=>
      simp only [hd]
      rw [hs]
      exact put_getD_other (fun e=>hj (hun' j p hoj (by rw [hd,e])))
   have hsame:opVal ops (a.put o.dst v) i=v:=by
    unfold opVal
    rw [ho]
    simp only [hs]
    exact put_getD_same (by rw [hp.size];exact hsn)
   refine ih _ _ _ (L.erase i) ?_ ?_ (by simp [hsz]) ⟨by rw [hs];exact hp.defers,?_,?_⟩ (htr _ _ _ he hx) ?_
   ·have:=List.length_erase_of_mem (hun i hil hb)
    omega
   ·intro j hj hbj
    by_cases e:j=i
    ·subst e
     have hl:j<listed.size:=by omega
     simp [hl] at hbj
    ·rw [getD_set_ne true (fun h=>e h.symm)] at hbj
     exact (List.mem_erase_of_ne e).2 (hun j hj hbj)
   ·rw [hs];simp [Act.put,hp.size]
   ·intro t ht
    rw [hs]
    rw [put_getD_other (fun e=>ht i o ho (by rw [hs,e]))]
    exact hp.other t ht
   ·intro j hj hbj
    by_cases e:j=i
    ·subst e
     rw [hsame]
     exact hv
    ·rw [hne j e]
     rw [getD_set_ne true (fun h=>e h.symm)] at hbj
     exact hst _ _ _ _ (hphi j hj hbj) hx

theorem wp_region_makers {P:Program} {id:Nat} {ops:Array Oper} {Q:Exit->Act->World->Prop} {a0:Act} {w:World} (hm:P.follows .mixedOrders=true) (Ext:World->World->Prop) (Φ:Nat->Value->World->Prop)
  (htr:∀u v w,Ext u v->Ext v w->Ext u w) (hrf:Ext w.drew w.drew) (hst:∀i v w w',Φ i v w->Ext w w'->Φ i v w') (hso:sortedB ops a0.tmps.size=true)
  (hop:∀i o,ops[i]?=some o->∀a w1,Plain ops a0 a->Ext w.drew w1->(∀e∈o.after,Region.binds .any e=true->Φ e.on (opVal ops a e.on) w1)->∀K' : Act->World->Prop,(∀v w',Ext w1 w'->Φ i v w'->K' (a.put o.dst v) w')->if Region.wanted o (yielded ops a.tmps)=true then Oper.wp P o a w1 K' Q else K' (a.put o.dst undef) w1)
  (hend:∀a w1,Plain ops a0 a->Ext w.drew w1->(∀i,i<ops.size->Φ i (opVal ops a i) w1)->Q .normal a w1):(Code.region id ops true).wp P Q a0 w:=
 wp_region_any hm (makers_any Ext Φ htr hst hso hop hend ops.size (Array.replicate ops.size false) a0 w.drew (List.range ops.size) (by simp) (fun j hj _=>List.mem_range.2 hj) (by simp) ⟨rfl,rfl,fun _ _=>rfl⟩ hrf (fun i hi hb=>by simp [hi] at hb))
end Go.Proofs.YtbmffmifemebmaaGreatDoor
namespace Go.Proofs.YtbmffmifemebmaaGreatDoor
open Go.RowKit Go.Deep

set_option maxHeartbeats 400000 in
theorem catch_idle (w:World) :
  CallsD Tryz.prog 148 #[] .returning w fun e u' w'=>e=.returned (.tuple #[])/\u'=.returning/\w'=w:=by
 refine callsD_of_wpS Tryz.func148 rfl fun c₀ cs hu=>?_
 apply wpS_seq
 apply wpS_region
 simp [wpOpsS,go_sem,recoverD,hu,Tryz.ntmps148,Exit.thenS]
 refine wpS_of_wp ?_
 have e:((Array.replicate 14 undef).setIfInBounds 3 Value.nilIface).setIfInBounds 0 Value.nilIface=#[Value.nilIface,undef,undef,Value.nilIface,undef,undef,undef,undef,undef,undef,undef,undef,undef,undef]:=rfl
 rw [e]
 clear e
 go_wp2
 cases c₀
 simp_all [bodyPostS,results,Tryz.results148]

set_option maxHeartbeats 400000 in
theorem catch_power (older:List PanicEntry) (w:World) :
  CallsD Tryz.prog 148 #[] (.panicking ({ v:=.iface 231 (.agg #[]),recovered:=false }::older)) w fun e u' w'=>
   e=.returned (.tuple #[])/\u'=.panicking ({ v:=.iface 231 (.agg #[]),recovered:=true }::older)/\Below w.heap.size w w':=by
 have hta:∀w:World,(Instr.typeAssert (Value.iface 231 (.agg #[])) 20 231 true).run Tryz.prog w=.ok (.tuple #[.agg #[],.bool true]) w:=fun w=>by kernel_rfl
 refine callsD_of_wpS Tryz.func148 rfl fun c₀ cs hu=>?_
 apply wpS_seq
 apply wpS_region
 simp [wpOpsS,go_sem,recoverD,hu,Tryz.ntmps148,Exit.thenS]
 refine wpS_of_wp ?_
 have e:((Array.replicate 14 undef).setIfInBounds 3 (Value.iface 231 (.agg #[]))).setIfInBounds 0 (Value.iface 231 (.agg #[]))=#[(Value.iface 231 (.agg #[])),undef,undef,(Value.iface 231 (.agg #[])),undef,undef,undef,undef,undef,undef,undef,undef,undef,undef]:=rfl
 rw [e]
 clear e
 go_wp2
 simp [bodyPostS,results,Tryz.results148]
 exact below_alloc _ _

def Stepped (e:Ending):Prop:=e=.returned (.tuple #[])\/e=.panicked [{ v:=.iface 231 (.agg #[]),recovered:=false }]

set_option maxHeartbeats 400000 in
theorem until_super (b:Nat) (c1:Value) (w:World) (R:World->Prop) (h:Calls Tryz.prog 66 #[.pointer (some ⟨b,0,none⟩),c1] w fun e w'=>Stepped e/\R w') :
  Calls Tryz.prog 100 #[.pointer (some ⟨b,0,none⟩),.func (.func 66) #[] #[c1]] w fun e w'=>e=.returned (.tuple #[])/\∃w1,R w1/\Below w1.heap.size w1 w':=by
 have H:Hid (Calls Tryz.prog 66 #[.pointer (some ⟨b,0,none⟩),c1] w fun e w'=>Stepped e/\R w'):=h
 clear h
 go_enter_defers Tryz.func100,Tryz.ntmps100
 go_wp2_with fail
 refine H.out.mono ?_
 rintro e w1 ⟨he|he,hR⟩
 ·subst he
  go_wp2
  refine leaves_cons (f:=148) (args:=#[]) (by simp) (by simp [go_sem]) ?_
  refine (catch_idle _).mono ?_
  rintro e u' w'' ⟨rfl,rfl,rfl⟩
  simp [Leaves,settle,results,Tryz.results100,go_sem]
  exact ⟨_,hR,Below.refl _ _⟩
 ·subst he
  go_wp2
  refine leaves_cons (f:=148) (args:=#[]) (by simp) (by simp [go_sem]) ?_
  refine (catch_power [] _).mono ?_
  rintro e u' w'' ⟨rfl,rfl,hb⟩
  simp [Leaves,settle,results,Tryz.results100,go_sem]
  exact ⟨_,hR,hb⟩

set_option maxHeartbeats 400000 in
theorem until_rec (b:Nat) (c1 c2 c3:Value) (w:World) (R:World->Prop) (h:Calls Tryz.prog 55 #[.pointer (some ⟨b,0,none⟩),c1,c2,c3] w fun e w'=>Stepped e/\R w') :
  Calls Tryz.prog 100 #[.pointer (some ⟨b,0,none⟩),.func (.func 55) #[] #[c1,c2,c3]] w fun e w'=>e=.returned (.tuple #[])/\∃w1,R w1/\Below w1.heap.size w1 w':=by
 have H:Hid (Calls Tryz.prog 55 #[.pointer (some ⟨b,0,none⟩),c1,c2,c3] w fun e w'=>Stepped e/\R w'):=h
 clear h
 go_enter_defers Tryz.func100,Tryz.ntmps100
 go_wp2_with fail
 refine H.out.mono ?_
 rintro e w1 ⟨he|he,hR⟩
 ·subst he
  go_wp2
  refine leaves_cons (f:=148) (args:=#[]) (by simp) (by simp [go_sem]) ?_
  refine (catch_idle _).mono ?_
  rintro e u' w'' ⟨rfl,rfl,rfl⟩
  simp [Leaves,settle,results,Tryz.results100,go_sem]
  exact ⟨_,hR,Below.refl _ _⟩
 ·subst he
  go_wp2
  refine leaves_cons (f:=148) (args:=#[]) (by simp) (by simp [go_sem]) ?_
  refine (catch_power [] _).mono ?_
  rintro e u' w'' ⟨rfl,rfl,hb⟩
  simp [Leaves,settle,results,Tryz.results100,go_sem]
  exact ⟨_,hR,hb⟩
end Go.Proofs.YtbmffmifemebmaaGreatDoor
