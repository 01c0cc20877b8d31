import Derived.Test.YtbmffmifemebmaaGreatDoorNz3
import Derived.Test.YtbmffmifemebmaaGreatDoorNz1
import Derived.Deep.WholeRow
import Derived.ChangeKeysEq
import Derived.Handy
import Derived.Lib.LazyBuf
import Derived.Laws.CopyOwn
import Derived.Deep.RegionHeld3
set_option linter.unusedVariables false
set_option maxRecDepth 100000
namespace Go.Proofs.YtbmffmifemebmaaGreatDoor
open Go.RowKit Go.Deep

set_option maxHeartbeats 400000 in
theorem eqDisk_yes (a a' : Option Addr) (n c c' : Nat) (d:Nat->Int) (p p' : Option Addr) (m q q' : Nat) (S:Nat->Int) (L:Nat->Nat) (F:Nat->Nat->Int) (fuel:Int) (dead:Bool) (w:World)
  (ha:Rd .u8 w a n d) (ha' : Rd .u8 w a' n d) (hp:RdP w p m S L F) (hp' : RdP w p' m S L F) (hn:n<=1099511627776) (hm:m<=1048576) (hL:∀i,i<m->L i<=1048576) :
  Calls Tryz.prog 68 #[.agg #[.slice a n c,.slice p m q,.int .i64 fuel,.bool dead],.agg #[.slice a' n c',.slice p' m q',.int .i64 fuel,.bool dead]] w fun e w'=>e=.returned (.bool true)/\Below w.heap.size w w':=by
 have hff:(fuel != fuel)=false:=by simp
 have hdd:(dead != dead)=false:=by simp
 have hbel:∀o1 o2,Below w.heap.size w ((w.alloc o1).alloc o2):=fun o1 o2=>((Below.refl _ _).alloc (Nat.le_refl _) o1).alloc (by simp) o2
 go_enter Tryz.func68,Tryz.ntmps68
 go_wp2_with fail
 refine (eqByteS_yes a a' n c c' d _ (ha.below (hbel _ _)) (ha'.below (hbel _ _)) hn).mono ?_
 rintro e w1 ⟨rfl,k,rfl⟩
 go_wp2_with fail
 refine (eqPendS_yes p p' m q q' S L F _ (hp.below (below_drewN (hbel _ _) k)) (hp'.below (below_drewN (hbel _ _) k)) hm hL).mono ?_
 rintro e w2 ⟨rfl,hb2⟩
 obtain ⟨hc,hf⟩:=bcell hb2
 clear ha ha' hp hp'
 go_wp2
 go_ret
 exact ⟨rfl,(below_drewN (hbel _ _) k).trans (hb2.mono (by simp;omega))⟩

theorem koff_top (L:Nat->Nat) (k0:Int) (m:Nat) (hm:m<=1048576) (hL:∀i,i<m->L i<=1048576) (h1:k0<=1099511627776) (k:Nat) (hk:k<=m):koff L k0 k<=2305843009213693952:=by
 have hk2:=koff_le L k0 m 1048576 hL k hk
 have:(k:Int)*(1+((1048576:Nat):Int))<=1048576*(1+((1048576:Nat):Int)):=Int.mul_le_mul_of_nonneg_right (by omega) (by omega)
 omega

set_option maxHeartbeats 400000 in
theorem heldPendS_yes (a:Option Addr) (m cap:Nat) (L:Nat->Nat) (w:World) (k0:Int) (h:RdP w a m (fun i=>koff L k0 i) L (fun i j=>IntKind.u8.wrap (koff L k0 i+1+j))) (hm:m<=1048576) (hL:∀i,i<m->L i<=1048576) (h0:0<=k0) (h1:k0<=1099511627776) :
  Calls Tryz.prog 127 #[.slice a m cap,.int .i64 k0] w fun e w'=>e=.returned (.int .i64 (koff L k0 m))/\w'=w:=by
 go_enter Tryz.func127,Tryz.ntmps127
 go_wp2
 go_loop [1,5] (fun q i=>∃k:Nat,k<=m/\i=.int .i64 k/\q=.int .i64 (koff L k0 k)) (fun _ i=>m-(intOf i).toNat)
 case atStart=>exact ⟨0,Nat.zero_le _,rfl,rfl⟩
 case round=>
  obtain ⟨k,hk,rfl,rfl⟩:=hrel
  by_cases hlt:k<m
  ·have hk1:=koff_ge L k0 k
   have hq1:0<=koff L k0 k:=by omega
   have hq2:=koff_top L k0 m hm hL h1 k hk
   have HL:=hL k hlt
   have HS:Hid (koff L k0 (k+1)=koff L k0 k+1+L k):=rfl
   have hne:¬ m=0:=by omega
   rcases h with h|⟨b,o,rfl,hc⟩
   ·exact absurd h hne
   obtain ⟨c1,ad,cp,c2,c3⟩:=hc k hlt
   dsimp only at c1 c3
   have hqq:(koff L k0 k != koff L k0 k)=false:=by simp
   have hlz:¬ koff L k0 k+1+(L k:Int)<0:=by omega
   clear hc hL hk1
   generalize koff L k0 k=q at*
   go_wp2_with fail
   refine (heldByteS_yes ad (L k) cp w (q+1) c3 (by omega) (by omega) (by omega)).mono ?_
   rintro e w2 ⟨rfl,hw⟩
   subst hw
   go_wp2
   go_round
   case rel=>exact ⟨k+1,by omega,by go_num,by rw [HS.out]⟩
   case measure=>simp [intOf];omega
  ·have e:k=m:=by omega
   subst e
   go_wp2
   go_ret
   exact ⟨rfl,rfl⟩

theorem markPendS_own (p:Option Addr) (m cap B:Nat) (S:Nat->Int) (L:Nat->Nat) (F:Nat->Nat->Int) (A:Nat->Option Addr) (w:World) (k0:Int) (h:OwnP w B p m S L F A) (hm:m<=1048576) (hL:∀i,i<m->L i<=1048576) (h0:0<=k0) (h1:k0<=1099511627776) :
  Calls Tryz.prog 123 #[.slice p m cap,.int .i64 k0] w fun e w'=>e=.returned (.int .i64 (koff L k0 m))/\
   OwnP w' B p m (fun i=>koff L k0 i) L (fun i j=>IntKind.u8.wrap (koff L k0 i+1+j)) A/\(m=0->w'=w)/\(m≠0->∃gC,p=some ⟨gC,0,none⟩/\OnlyP gC m L A w w'):=by
 by_cases hz:m=0
 ·subst hz
  go_enter Tryz.func123,Tryz.ntmps123
  go_wp2
  go_loop [1,5] (fun q i=>i=.int .i64 0/\q=.int .i64 k0) (fun _ _=>0)
  case atStart=>exact ⟨rfl,rfl⟩
  case round=>
   obtain ⟨rfl,rfl⟩:=hrel
   go_wp2
   go_ret
   exact ⟨by simp [koff],Or.inl rfl,by simp⟩
 ·rcases h with h|⟨gC,C,rfl,h⟩
  ·exact absurd h hz
  ·refine (markPendS_row gC m cap B S L F A C w k0 h hm hL h0 h1).mono ?_
   rintro e w' ⟨rfl,h1,h2⟩
   exact ⟨rfl,Or.inr ⟨gC,C,rfl,h1⟩,fun h=>absurd h hz,fun _=>⟨gC,rfl,h2⟩⟩

theorem OwnP.only {w w1:World} {B:Nat} {a p:Option Addr} {n m:Nat} {d S:Nat->Int} {L:Nat->Nat} {F:Nat->Nat->Int} {A:Nat->Option Addr} (h:OwnP w B p m S L F A) (ha:OwnB w B a n d) (ho:OnlyAt a w w1) (hz:n=0->w1=w)
  (hx:n≠0->∀i,i<m->L i≠0->A i≠a):OwnP w1 B p m S L F A:=by
 by_cases hn:n=0
 ·rw [hz hn];exact h
 ·rcases ha with h0|⟨g,rfl,hg,hr⟩
  ·exact absurd h0 hn
  ·rcases h with h|⟨gC,C,rfl,h⟩
   ·exact Or.inl h
   ·have hne:g≠gC:=hr.ne h.row (by decide)
    refine Or.inr ⟨gC,C,rfl,h.le,h.row.of_block (ho.block gC (fun x e=>by injection e with e;subst e;exact hne)),fun i hi=>?_,h.apart⟩
    refine (h.each i hi).only ho (fun hl x y hx1 hy=>?_)
    injection hy with hy
    subst hy
    intro e
    rcases h.each i hi with h0|⟨g',hA',_,_⟩
    ·exact hl h0
    ·rw [hA'] at hx1;injection hx1 with hx1;subst hx1
     simp at e
     subst e
     exact hx hn i hi hl hA'

structure Within (B T:Nat) (w w' : World):Prop where
 os:w'.os=w.os
 tape:w'.tape=w.tape
 output:w'.output=w.output
 size:w.heap.size<=w'.heap.size
 block:∀k,k<w.heap.size->(k<B\/T<=k)->w'.heap[k]?=w.heap[k]?

theorem Within.below {B T:Nat} {w w' : World} (h:Within B T w w') (hB:B<=w.heap.size):Below B w w':=⟨h.os,h.tape,h.output,h.size,fun k hk=>h.block k (by omega) (Or.inl hk)⟩
theorem Within.cells {B T:Nat} {w w' : World} (h:Within B T w w'):(∀b o,T<=b->b<w.heap.size->w'.cell? ⟨b,o,none⟩=w.cell? ⟨b,o,none⟩)/\(∀b o,T<=b->b<w.heap.size->w'.frozen? ⟨b,o,none⟩=w.frozen? ⟨b,o,none⟩):=
 ⟨fun b _ hT hl=>World.cell?_of_block (w:=w) (h.block b hl (Or.inr hT)),fun b _ hT hl=>World.frozen?_of_block (w:=w) (h.block b hl (Or.inr hT))⟩
theorem Within.refl (B T:Nat) (w:World):Within B T w w:=⟨rfl,rfl,rfl,Nat.le_refl _,fun _ _ _=>rfl⟩
theorem Within.trans {B T:Nat} {a b c:World} (h:Within B T a b) (k:Within B T b c):Within B T a c:=
 ⟨k.os.trans h.os,k.tape.trans h.tape,k.output.trans h.output,Nat.le_trans h.size k.size,fun i hi hx=>(k.block i (by have:=h.size;omega) hx).trans (h.block i hi hx)⟩
theorem Within.ofBelow {B T:Nat} {w w' : World} (h:Below w.heap.size w w'):Within B T w w':=⟨h.os,h.tape,h.output,h.size,fun k hk _=>h.block k hk⟩
theorem Within.ofOnly {B T:Nat} {a:Option Addr} {w w' : World} (h:OnlyAt a w w') (hB:∀x,a=some x->B<=x.block/\x.block<T):Within B T w w':=
 ⟨h.os,h.tape,h.output,by rw [h.size];exact Nat.le_refl _,fun k _ hx=>h.block k (fun x e=>by have:=hB x e;omega)⟩
def LtB (T:Nat) (a:Option Addr) (n:Nat):Prop:=n≠0->∀x,a=some x->x.block<T
theorem OwnB.ltB {w:World} {B:Nat} {a:Option Addr} {n:Nat} {f:Nat->Int} (h:OwnB w B a n f):LtB w.heap.size a n:=by
 intro hn x hx
 rcases h with h0|⟨g,rfl,hg,hr⟩
 ·exact absurd h0 hn
 ·injection hx with hx;subst hx;exact hr.lt
theorem OwnB.ge {w:World} {B:Nat} {a:Option Addr} {n:Nat} {f:Nat->Int} (h:OwnB w B a n f):n≠0->∀x,a=some x->B<=x.block:=by
 intro hn x hx
 rcases h with h0|⟨g,rfl,hg,hr⟩
 ·exact absurd h0 hn
 ·injection hx with hx;subst hx;exact hg
theorem OwnP.ltB {w:World} {B:Nat} {a:Option Addr} {m:Nat} {S:Nat->Int} {L:Nat->Nat} {F:Nat->Nat->Int} {A:Nat->Option Addr} (h:OwnP w B a m S L F A):LtB w.heap.size a m/\∀i,i<m->LtB w.heap.size (A i) (L i):=by
 rcases h with h|⟨gC,C,rfl,h⟩
 ·subst h;exact ⟨fun h=>absurd rfl h,fun i hi=>absurd hi (Nat.not_lt_zero _)⟩
 ·exact ⟨fun _ x e=>by injection e with e;subst e;exact h.row.lt,fun i hi=>(h.each i hi).ltB⟩

set_option maxHeartbeats 400000 in
theorem heldDisk_yes (a p:Option Addr) (n c m q:Nat) (L:Nat->Nat) (fuel:Int) (dead:Bool) (w:World) (k0:Int)
  (ha:Rd .u8 w a n (fun i=>IntKind.u8.wrap (k0+i))) (hp:RdP w p m (fun i=>koff L (k0+n) i) L (fun i j=>IntKind.u8.wrap (koff L (k0+n) i+1+j))) (hn:n<=1048576) (hm:m<=1048576) (hL:∀i,i<m->L i<=1048576) (h0:0<=k0) (h1:k0<=1048576) :
  Calls Tryz.prog 75 #[.agg #[.slice a n c,.slice p m q,.int .i64 fuel,.bool dead],.int .i64 k0] w fun e w'=>e=.returned (.int .i64 (koff L (k0+n) m))/\Below w.heap.size w w':=by
 have hbel:∀o1,Below w.heap.size w (w.alloc o1):=fun o1=>(Below.refl _ _).alloc (Nat.le_refl _) o1
 have hk1:=koff_ge L (k0+n) m
 have hz1:¬ k0+(n:Int)<0:=by omega
 have hz2:¬ koff L (k0+n) m<0:=by omega
 go_enter Tryz.func75,Tryz.ntmps75
 go_wp2_with fail
 refine (heldByteS_yes a n c _ k0 (ha.below (hbel _)) (by omega) h0 (by omega)).mono ?_
 rintro e w1 ⟨rfl,hw⟩
 subst hw
 go_wp2_with fail
 refine (heldPendS_yes p m q L _ (k0+n) (hp.below (hbel _)) hm hL (by omega) (by omega)).mono ?_
 rintro e w2 ⟨rfl,hw⟩
 subst hw
 go_wp2
 go_ret
 exact ⟨rfl,hbel _⟩

theorem OwnB.within {w w' : World} {B T B' : Nat} {a:Option Addr} {n:Nat} {f:Nat->Int} (h:OwnB w B' a n f) (hT:T<=B') (hw:Within B T w w'):OwnB w' B' a n f:=by
 rcases h with h|⟨g,rfl,hg,hr⟩
 ·exact Or.inl h
 ·exact Or.inr ⟨g,rfl,hg,hr.of_block (hw.block g hr.lt (Or.inr (by omega)))⟩

theorem OwnP.within {w w' : World} {B T B' : Nat} {a:Option Addr} {m:Nat} {S:Nat->Int} {L:Nat->Nat} {F:Nat->Nat->Int} {A:Nat->Option Addr} (h:OwnP w B' a m S L F A) (hT:T<=B') (hw:Within B T w w'):OwnP w' B' a m S L F A:=by
 rcases h with h|⟨gC,C,rfl,h⟩
 ·exact Or.inl h
 ·exact Or.inr ⟨gC,C,rfl,h.le,h.row.of_block (hw.block gC h.row.lt (Or.inr (by have:=h.le;omega))),fun i hi=>(h.each i hi).within hT hw,h.apart⟩

theorem OwnD.within {w w' : World} {B T B' : Nat} {a:Option Addr} {n:Nat} {d:Nat->Int} {p:Option Addr} {m:Nat} {S:Nat->Int} {L:Nat->Nat} {F:Nat->Nat->Int} {A:Nat->Option Addr} (h:OwnD w B' a n d p m S L F A) (hT:T<=B') (hw:Within B T w w'):OwnD w' B' a n d p m S L F A:=
 ⟨h.data.within hT hw,h.cache.within hT hw,h.apart⟩


def Box4 (w:World) (b:Nat) (v0 v1 v2 v3:Value):Prop:=
 w.cell? ⟨b,0,none⟩=some v0/\w.cell? ⟨b,1,none⟩=some v1/\w.cell? ⟨b,2,none⟩=some v2/\w.cell? ⟨b,3,none⟩=some v3/\b<w.heap.size

theorem Box4.new (w:World) (v0 v1 v2 v3:Value) (t:TypeId):Box4 (w.alloc (.cells #[v0,v1,v2,v3] t)) w.heap.size v0 v1 v2 v3:=by
 refine ⟨?_,?_,?_,?_,?_⟩ <;> simp

theorem Box4.below {w w' : World} {b:Nat} {v0 v1 v2 v3:Value} (h:Box4 w b v0 v1 v2 v3) (hb:Below w.heap.size w w'):Box4 w' b v0 v1 v2 v3:=by
 obtain ⟨h0,h1,h2,h3,hl⟩:=h
 have:=hb.size
 exact ⟨(hb.cell (p:=⟨b,0,none⟩) hl).trans h0,(hb.cell (p:=⟨b,1,none⟩) hl).trans h1,(hb.cell (p:=⟨b,2,none⟩) hl).trans h2,(hb.cell (p:=⟨b,3,none⟩) hl).trans h3,by omega⟩

theorem Box4.within {w w' : World} {B T b:Nat} {v0 v1 v2 v3:Value} (h:Box4 w b v0 v1 v2 v3) (hT:T<=b) (hw:Within B T w w'):Box4 w' b v0 v1 v2 v3:=by
 obtain ⟨h0,h1,h2,h3,hl⟩:=h
 have:=hw.size
 obtain ⟨hc,_⟩:=hw.cells
 exact ⟨(hc b 0 hT hl).trans h0,(hc b 1 hT hl).trans h1,(hc b 2 hT hl).trans h2,(hc b 3 hT hl).trans h3,by omega⟩

theorem Within.mono {B T B' T' : Nat} {w w' : World} (h:Within B T w w') (hB:B'<=B) (hT:T<=T'):Within B' T' w w':=
 ⟨h.os,h.tape,h.output,h.size,fun k hk hx=>h.block k hk (by omega)⟩

theorem rowIn.within {w w' : World} {B T g:Nat} {t:TypeId} {n:Nat} {F:Nat->Value} (h:rowIn w g t n F) (hT:T<=g\/g<B) (hw:Within B T w w'):rowIn w' g t n F:=
 h.of_block (hw.block g h.lt (by omega))

theorem rowIn.below {w w' : World} {g:Nat} {t:TypeId} {n:Nat} {F:Nat->Value} (h:rowIn w g t n F) (hb:Below w.heap.size w w'):rowIn w' g t n F:=h.of_block (hb.block g h.lt)
theorem OwnD.ltB {w:World} {B:Nat} {a:Option Addr} {n:Nat} {d:Nat->Int} {p:Option Addr} {m:Nat} {S:Nat->Int} {L:Nat->Nat} {F:Nat->Nat->Int} {A:Nat->Option Addr} (h:OwnD w B a n d p m S L F A) :
  LtB w.heap.size a n/\LtB w.heap.size p m/\∀i,i<m->LtB w.heap.size (A i) (L i):=⟨h.data.ltB,h.cache.ltB⟩
theorem alloc_size (w:World) (o:Obj):(w.alloc o).heap.size=w.heap.size+1:=by simp

set_option maxHeartbeats 400000 in
theorem specNew_g (n:Nat) (w:World) (h1:16<=n) (h2:n<=1024) :
  Calls Tryz.prog 10 #[.int .i64 n] w fun e w'=>∃a c,e=.returned (.agg #[.slice a (n*64) c,.slice none 0 0,.int .i64 (-1),.bool false])/\OwnB w' w.heap.size a (n*64) (fun _=>0)/\Below w.heap.size w w':=by
 have hlo:¬ (n:Int)<16:=by omega
 have hhi:¬ (1024:Int)<(n:Int):=by omega
 go_enter Tryz.func10,Tryz.ntmps10
 go_wp2_with fail
 refine (zeros_at _ (n*64) _ (by omega) (by omega)).mono ?_
 rintro e w1 ⟨a,c,rfl,ho,hb⟩
 have HO:Hid (OwnB w1 w.heap.size a (n*64) (fun _=>0)):=ho.mono (by simp)
 have hz:w.heap.size<w1.heap.size:=by have:=hb.size;simp at this;omega
 have HB:Hid (Below w.heap.size w w1):=((Below.refl _ _).alloc (Nat.le_refl _) _).trans (hb.mono (by simp))
 obtain ⟨hc,hf⟩:=bcell hb
 have HO1:Hid (OwnB w1 (w.heap.size+1) a (n*64) (fun _=>0)):=ho.mono (by simp)
 clear ho hb
 go_wp2
 refine bodyPost_ret (v:=.agg #[.slice a (n*64) c,.slice none 0 0,.int .i64 (-1),.bool false]) (by simp [results,Tryz.results10,go_sem,hc]) rfl ⟨a,c,rfl,?_,?_⟩
 ·exact ((((HO1.out.setOther (by simp) _).setOther (by simp) _).setOther (by simp) _).setOther (by simp) _).mono (by omega)
 ·exact (((HB.out.setCell (by simp) _).setCell (by simp) _).setCell (by simp) _).setCell (by simp) _


def secA (f:Nat->Int):Array Value:=(byteRow f 64).toArray
theorem secA_size (f:Nat->Int):(secA f).size=64:=by simp [secA,byteRow_length]
theorem secA_get (f:Nat->Int) (i:Nat) (h:i<64):(secA f)[i]?=some (.int .u8 (f i)):=by
 show (byteRow f 64).toArray[i]?=_
 rw [List.getElem?_toArray,byteRow_get f 64 i h]
theorem secA_congr {f g:Nat->Int} (h:∀i,i<64->f i=g i):secA f=secA g:=by
 apply Array.ext_getElem?
 intro i
 by_cases hi:i<64
 ·rw [secA_get f i hi,secA_get g i hi,h i hi]
 ·rw [Array.getElem?_eq_none (by rw [secA_size];omega),Array.getElem?_eq_none (by rw [secA_size];omega)]
theorem secA_ofRow {cur:Array Value} {f:Nat->Int} (hs:cur.size=64) (h:∀i,i<64->cur[i]?=some (.int .u8 (f i))):cur=secA f:=by
 apply Array.ext_getElem?
 intro i
 by_cases hi:i<64
 ·rw [secA_get f i hi,h i hi]
 ·rw [Array.getElem?_eq_none (by omega),Array.getElem?_eq_none (by rw [secA_size];omega)]
theorem secA_cells (f:Nat->Int):(secA f).all (·.oneCell')=true:=by
 rw [Array.all_eq_true_iff_forall_mem]
 intro v hv
 simp only [secA,byteRow,List.mem_toArray,List.mem_map] at hv
 obtain ⟨i,_,rfl⟩:=hv
 rfl

def Sec (w:World) (g:Nat) (f:Nat->Int):Prop:=w.heap[g]?=some (.cells (secA f) 192 (0,0))

theorem Sec.row {w:World} {g:Nat} {f:Nat->Int} (h:Sec w g f):rowIn w g 192 64 (fun i=>.int .u8 (f i)):=⟨secA f,h,by rw [secA_size];exact Nat.le_refl _,fun i hi=>secA_get f i hi⟩
theorem Sec.lt {w:World} {g:Nat} {f:Nat->Int} (h:Sec w g f):g<w.heap.size:=h.row.lt
theorem Sec.cell {w:World} {g:Nat} {f:Nat->Int} (h:Sec w g f) {i:Nat} (hi:i<64):w.cell? ⟨g,i,none⟩=some (.int .u8 (f i)):=h.row.cell hi
theorem Sec.frozen {w:World} {g:Nat} {f:Nat->Int} (h:Sec w g f) (i:Nat):w.frozen? ⟨g,i,none⟩=false:=h.row.frozen i
theorem Sec.of_block {w w' : World} {g:Nat} {f:Nat->Int} (h:Sec w g f) (e:w'.heap[g]?=w.heap[g]?):Sec w' g f:=e.trans h
theorem Sec.below {w w' : World} {g:Nat} {f:Nat->Int} (h:Sec w g f) (hb:Below w.heap.size w w'):Sec w' g f:=h.of_block (hb.block g h.lt)
theorem Sec.congr {w:World} {g:Nat} {f f' : Nat->Int} (h:Sec w g f) (e:∀i,i<64->f i=f' i):Sec w g f':=by
 unfold Sec
 rw [<- secA_congr e]
 exact h
theorem Sec.set {w:World} {g:Nat} {f:Nat->Int} (h:Sec w g f) (i:Nat) (v:Int):Sec (w.setCell ⟨g,i,none⟩ (.int .u8 v)) g (fun j=>if j=i then v else f j):=by
 have e:(w.setCell ⟨g,i,none⟩ (.int .u8 v)).heap[g]?=some (.cells ((secA f).setIfInBounds i (.int .u8 v)) 192 (0,0)):=by
  have h' : w.heap[g]?=some (.cells (secA f) 192 (0,0)):=h
  simp [World.setCell,Array.getElem?_modify,h']
 unfold Sec
 rw [e]
 congr 2
 refine secA_ofRow (by simp [secA_size]) (fun j hj=>?_)
 rw [Array.getElem?_setIfInBounds]
 by_cases ej:j=i
 ·subst ej
  simp [secA_size,hj]
 ·rw [if_neg (fun h=>ej h.symm),secA_get f j hj]
  simp [ej]
theorem Sec.rd {w:World} {g:Nat} {f:Nat->Int} (h:Sec w g f) (k n:Nat) (hk:k+n<=64):Rd .u8 w (some ⟨g,k,none⟩) n (fun i=>f (k+i)):=
 Or.inr ⟨g,k,rfl,fun i hi=>h.cell (by omega)⟩
theorem Sec.new (w:World) (f:Nat->Int):Sec (w.alloc (.cells (secA f) 192)) w.heap.size f:=heap_alloc_last w _
theorem Sec.load {w:World} {g:Nat} {f:Nat->Int} (h:Sec w g f):(Instr.loadAt 192 (.pointer (some ⟨g,0,none⟩))).run Tryz.prog w=.ok (.agg (secA f)) w:=by
 simp only [Instr.loadAt,Instr.sureAddr,Sem.run_bind,Sem.run_pure,Result.andThen]
 exact run_loadVar_row w g 192 192 (secA f) (0,0) (.array 64 5) h (by kernel_rfl) rfl (by rw [secA_size];kernel_rfl)
theorem Sec.store {w:World} {g:Nat} {f:Nat->Int} (h:Sec w g f) (f' : Nat->Int):(Instr.storeAt 192 (.pointer (some ⟨g,0,none⟩)) (.agg (secA f'))).run Tryz.prog w=.ok () (w.setRow g (secA f')):=by
 simp only [Instr.storeAt,Instr.sureAddr,Sem.run_bind,Sem.run_pure,Result.andThen]
 exact run_storeVar_row w g 192 192 (secA f) (secA f') h (by rw [secA_size];kernel_rfl) (by rw [secA_size,secA_size]) (secA_cells f')

theorem Sec.setRow {w:World} {g:Nat} {f:Nat->Int} (h:Sec w g f) (f' : Nat->Int):Sec (w.setRow g (secA f')) g f'/\OnlyAt (some ⟨g,0,none⟩) w (w.setRow g (secA f')):=
 ⟨setRow_heap w g _ _ _ _ h,⟨rfl,rfl,rfl,by simp [World.setRow],fun k hk=>setRow_other w g k _ (fun e=>hk _ rfl (by simp [e]))⟩⟩

theorem wpList_load_sec {w:World} {ops:Array Oper} {rest:List Oper} {act:Act} {Q:Exit->Act->World->Prop} {dst:Option Nat} {p:Operand} {ty:TypeId} {ps:String} {af:Array Edge} (g:Nat) (f:Nat->Int) (hp:act.eval p=.pointer (some ⟨g,0,none⟩)) (hs:Sec w g f)
  (h:wpList Tryz.prog ops Q rest (act.put dst (.agg (secA f))) w):wpList Tryz.prog ops Q ({ dst:=dst,op:=.load 192 p,type:=ty,pos:=ps,after:=af,guard:=none }::rest) act w:=by
 refine wpList_plain rfl fun K hK=>?_
 unfold Oper.wp
 simp [execOp,hp,hs.load,Result.andThen]
 exact hK _ _ h

theorem wpList_store_sec {w:World} {ops:Array Oper} {rest:List Oper} {act:Act} {Q:Exit->Act->World->Prop} {p v:Operand} {ty:TypeId} {ps:String} {af:Array Edge} (g:Nat) (f f' : Nat->Int) (hp:act.eval p=.pointer (some ⟨g,0,none⟩)) (hv:act.eval v=.agg (secA f')) (hs:Sec w g f)
  (h:∀w',Sec w' g f'->OnlyAt (some ⟨g,0,none⟩) w w'->wpList Tryz.prog ops Q rest act w'):wpList Tryz.prog ops Q ({ dst:=none,op:=.store 192 p v,type:=ty,pos:=ps,after:=af,guard:=none }::rest) act w:=by
 refine wpList_plain rfl fun K hK=>?_
 unfold Oper.wp
 simp [execOp,hp,hv,hs.store,Result.andThen]
 exact hK _ _ (h _ (hs.setRow f').1 (hs.setRow f').2)

theorem retSec {fn:Func} {p:Tmp} (h:fn.results=#[.cell p 192]) (tmps:Array Value) (w:World) (g:Nat) (hp:tmps.getD p undef=.pointer (some ⟨g,0,none⟩)) {f:Nat->Int} (hs:Sec w g f):(results fn tmps).run Tryz.prog w=.ok (.agg (secA f)) w:=
 results_cell_row h tmps w g 192 (secA f) (0,0) (.array 64 5) hp hs (by kernel_rfl) rfl (by rw [secA_size];kernel_rfl)

def byteAt (v:Int) (i:Nat):Int:=v / 256 ^ i % 256
theorem byteAt_range (v:Int) (i:Nat):0<=byteAt v i/\byteAt v i<256:=by unfold byteAt;omega

theorem pow256 (j:Nat):(2:Int) ^ (8*j)=256 ^ j:=by rw [Int.pow_mul];rfl

def putN (f:Nat->Int) (o k:Nat) (v:Int):Nat->Int:=fun j=>if o<=j/\j<o+k then byteAt v (j-o) else f j
theorem putN_zero (f:Nat->Int) (o:Nat) (v:Int):putN f o 0 v=f:=by
 funext j
 unfold putN
 rw [if_neg (by omega)]
theorem putN_succ (f:Nat->Int) (o k:Nat) (v:Int):putN f o (k+1) v=fun j=>if j=o+k then byteAt v k else putN f o k v j:=by
 funext j
 unfold putN
 by_cases e:j=o+k
 ·subst e
  rw [if_pos (by omega),if_pos rfl,show o+k-o=k by omega]
 ·rw [if_neg e]
  by_cases h:o<=j/\j<o+k
  ·rw [if_pos (by omega),if_pos h]
  ·rw [if_neg (by omega),if_neg h]

def getN (f:Nat->Int) (o:Nat):Nat->Int
 | 0=>0
 | k+1=>getN f o k+f (o+k)*256 ^ k

set_option maxHeartbeats 1000000 in
theorem putNumber_any (g o k:Nat) (v:Int) (f:Nat->Int) (w:World) (h:Sec w g f) (hk:k<=4) (hf:o+k<=64) :
  Calls Tryz.prog 176 #[.pointer (some ⟨g,0,none⟩),.int .i64 o,.int .i64 k,.int .i64 v] w fun e w'=>e=.returned (.tuple #[])/\Sec w' g (putN f o k v)/\OnlyAt (some ⟨g,0,none⟩) w w':=by
 have H:Hid (Sec w g f):=h
 clear h
 go_enter Tryz.func176,Tryz.ntmps176
 go_wp2
 go_loopw [8,10] (fun _ i wr=>∃j:Nat,j<=k/\i=.int .i64 j/\Sec wr g (putN f o j v)/\OnlyAt (some ⟨g,0,none⟩) w wr) (fun _ i _=>k-(intOf i).toNat)
 case atStart=>exact ⟨0,Nat.zero_le _,rfl,by rw [putN_zero];exact H.out,OnlyAt.refl _ _⟩
 case round=>
  obtain ⟨j,hj,rfl,hs,ho⟩:=hrel
  by_cases hlt:j<k
  ·have hcell:=hs.cell (i:=o+j) (by omega)
   have hfz:=hs.frozen
   have hgl:=hs.lt
   have HS:Hid (Sec wr g (putN f o j v)/\OnlyAt (some ⟨g,0,none⟩) w wr):=⟨hs,ho⟩
   clear hs ho
   go_wp2
   go_region
   have HX:Hid (Sec (wr.setCell ⟨g,o+j,none⟩ (.int .u8 (v / 2 ^ (8*j) % 256))).drew g (putN f o (j+1) v)/\OnlyAt (some ⟨g,0,none⟩) w (wr.setCell ⟨g,o+j,none⟩ (.int .u8 (v / 2 ^ (8*j) % 256))).drew):=by
    have ho2:=HS.out.2.setCell (o+j) (.int .u8 (v / 2 ^ (8*j) % 256))
    refine ⟨?_,⟨ho2.os,ho2.tape,ho2.output,ho2.size,ho2.block⟩⟩
    rw [putN_succ]
    unfold byteAt
    rw [<- pow256]
    exact HS.out.1.set (o+j) _
   clear hcell hfz HS
   go_wp2
   go_roundw
   case rel=>exact ⟨j+1,by omega,by go_num,HX.out⟩
   case measure=>simp [intOf];omega
  ·have e:j=k:=by omega
   subst e
   have HS:Hid (Sec wr g (putN f o j v)/\OnlyAt (some ⟨g,0,none⟩) w wr):=⟨hs,ho⟩
   clear hs ho
   go_wp2
   go_end0
   exact ⟨rfl,HS.out⟩

theorem ofInt_i64 (a:Nat) (ha:a<4294967296):(BitVec.ofInt 64 (a:Int)).toNat=a:=by
 rw [BitVec.ofInt_natCast,BitVec.toNat_ofNat];exact Nat.mod_eq_of_lt (by omega)
theorem i64_or_nat (a b:Nat) (ha:a<4294967296) (hb:b<4294967296):bits .or .i64 (a:Int) (b:Int)=((a ||| b:Nat):Int):=by
 have h1:(a ||| b)<2 ^ 32:=Nat.or_lt_two_pow (n:=32) ha hb
 show IntKind.i64.wrap ((BitVec.ofInt 64 (a:Int) ||| BitVec.ofInt 64 (b:Int)).toNat:Int)=_
 rw [BitVec.toNat_or,ofInt_i64 a ha,ofInt_i64 b hb,IntKind.wrap_i64]
 omega
theorem nat_add_or (x b j:Nat) (hx:x<2 ^ (8*j)):x ||| b*2 ^ (8*j)=x+b*2 ^ (8*j):=by
 have h:=Nat.shiftLeft_add_eq_or_of_lt hx b
 rw [Nat.shiftLeft_eq] at h
 rw [Nat.or_comm,<- h]
 omega

theorem pow_cases {j:Nat} (h:j<4):(j=0/\(2:Nat) ^ (8*j)=1/\(2:Int) ^ (8*j)=1/\(256:Int) ^ j=1)\/(j=1/\(2:Nat) ^ (8*j)=256/\(2:Int) ^ (8*j)=256/\(256:Int) ^ j=256)\/(j=2/\(2:Nat) ^ (8*j)=65536/\(2:Int) ^ (8*j)=65536/\(256:Int) ^ j=65536)\/(j=3/\(2:Nat) ^ (8*j)=16777216/\(2:Int) ^ (8*j)=16777216/\(256:Int) ^ j=16777216):=by
 match j,h with
 | 0,_=>exact Or.inl ⟨rfl,rfl,rfl,rfl⟩
 | 1,_=>exact Or.inr (Or.inl ⟨rfl,rfl,rfl,rfl⟩)
 | 2,_=>exact Or.inr (Or.inr (Or.inl ⟨rfl,rfl,rfl,rfl⟩))
 | 3,_=>exact Or.inr (Or.inr (Or.inr ⟨rfl,rfl,rfl,rfl⟩))

theorem or_add (x b:Int) (j:Nat) (hj:j<4) (h0:0<=x) (h1:x<256 ^ j) (h2:0<=b) (h3:b<256):bits .or .i64 x (wrap64 (b*2 ^ (8*j)))=x+b*256 ^ j:=by
 obtain ⟨X,rfl⟩:=Int.eq_ofNat_of_zero_le h0
 obtain ⟨B,rfl⟩:=Int.eq_ofNat_of_zero_le h2
 have key:∀p:Nat,(2:Nat) ^ (8*j)=p->(2:Int) ^ (8*j)=p->(256:Int) ^ j=p->p<=16777216->bits .or .i64 X (wrap64 ((B:Int)*2 ^ (8*j)))=(X:Int)+(B:Int)*256 ^ j:=by
  intro p e1 e2 e3 hp
  rw [e2,e3]
  rw [e3] at h1
  have hB:B<256:=by omega
  have hXp:X<p:=by omega
  have hm:B*p<=255*16777216:=Nat.mul_le_mul (by omega) hp
  have hw:wrap64 ((B:Int)*(p:Int))=((B*p:Nat):Int):=by
   rw [<- Int.natCast_mul]
   unfold wrap64
   omega
  rw [hw,i64_or_nat X (B*p) (by omega) (by omega),<- e1,nat_add_or X B j (by omega)]
  simp
 rcases pow_cases hj with ⟨_,e1,e2,e3⟩|⟨_,e1,e2,e3⟩|⟨_,e1,e2,e3⟩|⟨_,e1,e2,e3⟩
 ·exact key 1 e1 e2 e3 (by omega)
 ·exact key 256 e1 e2 e3 (by omega)
 ·exact key 65536 e1 e2 e3 (by omega)
 ·exact key 16777216 e1 e2 e3 (by omega)

theorem getN_range (f:Nat->Int) (o k:Nat) (hr:∀i,i<k->0<=f (o+i)/\f (o+i)<256):0<=getN f o k/\getN f o k<256 ^ k:=by
 induction k with
 | zero=>simp [getN]
 | succ k ih=>
  have h:=ih (fun i hi=>hr i (by omega))
  have hb:=hr k (by omega)
  have hp:(0:Int)<256 ^ k:=Int.pow_pos (by omega)
  unfold getN
  rw [Int.pow_succ]
  have h1:0<=f (o+k)*256 ^ k:=Int.mul_nonneg hb.1 (by omega)
  have h2:f (o+k)*256 ^ k<=255*256 ^ k:=Int.mul_le_mul_of_nonneg_right (by omega) (by omega)
  omega

set_option maxHeartbeats 1000000 in
theorem littleEndian_any (g o n c:Nat) (f:Nat->Int) (w:World) (hc:∀j,j<n->w.cell? ⟨g,o+j,none⟩=some (.int .u8 (f (o+j)))) (hr:∀j,j<n->0<=f (o+j)/\f (o+j)<256) (hn:n<=4) :
  Calls Tryz.prog 206 #[.slice (some ⟨g,o,none⟩) n c] w fun e w'=>e=.returned (.int .i64 (getN f o n))/\w'=w:=by
 have H:Hid (∀j,j<n->w.cell? ⟨g,o+j,none⟩=some (.int .u8 (f (o+j)))):=hc
 have HR:Hid (∀j,j<n->0<=f (o+j)/\f (o+j)<256):=hr
 clear hc hr
 go_enter Tryz.func206,Tryz.ntmps206
 go_wp2
 go_loop [3,4,5,8] (fun x _ _ i=>∃j:Nat,j<=n/\i=.int .i64 j/\x=.int .i64 (getN f o j)) (fun _ _ _ i=>n-(intOf i).toNat)
 case atStart=>exact ⟨0,Nat.zero_le _,rfl,rfl⟩
 case round=>
  obtain ⟨j,hj,rfl,rfl⟩:=hrel
  by_cases hlt:j<n
  ·have hcell:=H.out j hlt
   have hb:=HR.out j hlt
   have HN:Hid (getN f o (j+1)=getN f o j+f (o+j)*256 ^ j):=rfl
   have hx:=getN_range f o j (fun i hi=>HR.out i (by omega))
   have HO:Hid (bits .or .i64 (getN f o j) (wrap64 (f (o+j)*2 ^ (8*j)))=getN f o j+f (o+j)*256 ^ j):=or_add _ _ j (by omega) hx.1 hx.2 hb.1 hb.2
   clear hx
   generalize getN f o j=x0 at*
   generalize f (o+j)=b0 at*
   go_wp2
   go_round
   case rel=>exact ⟨j+1,by omega,by go_num,by rw [HN.out,HO.out]⟩
   case measure=>simp [intOf];omega
  ·have e:j=n:=by omega
   subst e
   go_wp2
   go_ret
   exact ⟨rfl,rfl⟩

theorem run_secSlice (g o k:Nat) (ho:o<64) (hk:o+k<=64) (w:World):(Instr.sliceAt 192 (.pointer (some ⟨g,0,none⟩)) (some (.int .i64 (o:Int))) (some (.int .i64 ((o:Int)+(k:Int)))) none).run Tryz.prog w=.ok (.slice (some ⟨g,o,none⟩) k (64-o)) w:=by
 have h1:((o:Int)+(k:Int)).toNat=o+k:=by omega
 have h3:¬ (64=o):=by omega
 simp [Instr.sliceAt,go_sem]
 rw [if_pos (by omega),if_pos (by omega),if_neg h3,h1,Nat.add_sub_cancel_left]

set_option maxHeartbeats 1000000 in
theorem number_any (g o k:Nat) (f:Nat->Int) (w:World) (h:Sec w g f) (hr:∀i,i<64->0<=f i/\f i<256) (hk:k<=4) (hf:o+k<=64) (ho:o<64) :
  Calls Tryz.prog 204 #[.pointer (some ⟨g,0,none⟩),.int .i64 o,.int .i64 k] w fun e w'=>e=.returned (.int .i64 (getN f o k))/\w'=w:=by
 have H:Hid (∀j,j<k->w.cell? ⟨g,o+j,none⟩=some (.int .u8 (f (o+j)))):=fun j hj=>h.cell (by omega)
 have HR:Hid (∀j,j<k->0<=f (o+j)/\f (o+j)<256):=fun j hj=>hr _ (by omega)
 have hsl:=run_secSlice g o k ho hf
 clear h hr
 go_enter Tryz.func204,Tryz.ntmps204
 go_wp2_with fail
 refine (littleEndian_any g o k (64-o) f w H.out HR.out hk).mono ?_
 rintro e w1 ⟨rfl,rfl⟩
 go_wp2
 go_ret
 exact ⟨rfl,rfl⟩

def crcV (f:Nat->Int):Int:=bits .xor .u32 (crcTo f 60) 4294967295
theorem crcV_range (f:Nat->Int):0<=crcV f/\crcV f<4294967296:=xor_range _ _
def sealF (f:Nat->Int):Nat->Int:=putN f 60 4 (crcV f)

theorem OnlyAt.trans {a:Option Addr} {w w1 w2:World} (h:OnlyAt a w w1) (k:OnlyAt a w1 w2):OnlyAt a w w2:=
 ⟨k.os.trans h.os,k.tape.trans h.tape,k.output.trans h.output,k.size.trans h.size,fun x hx=>(k.block x hx).trans (h.block x hx)⟩

set_option maxHeartbeats 1000000 in
theorem seal_any (g:Nat) (f:Nat->Int) (w:World) (h:Sec w g f) (hr:∀i,i<60->0<=f i/\f i<256) :
  Calls Tryz.prog 177 #[.pointer (some ⟨g,0,none⟩)] w fun e w'=>e=.returned (.tuple #[])/\Sec w' g (sealF f)/\OnlyAt (some ⟨g,0,none⟩) w w':=by
 have H:Hid (Sec w g f):=h
 have HR:Hid (∀i,i<60->0<=f i/\f i<256):=hr
 have HRD:Hid (Rd .u8 w (some ⟨g,0,none⟩) 60 f):=(h.rd 0 60 (by omega)).congr (fun i hi=>by simp)
 have hc:=(crcV_range f)
 clear h hr
 go_enter Tryz.func177,Tryz.ntmps177
 go_wp2_with fail
 refine (implCrc_any _ 60 _ f w HRD.out HR.out (by omega)).mono ?_
 rintro e w1 ⟨rfl,rfl⟩
 have hcv:bits .xor .u32 (crcTo f 60) 4294967295=crcV f:=rfl
 rw [hcv]
 clear hcv
 generalize hq:crcV f=cv at*
 go_wp2_with fail
 refine (putNumber_any g 60 4 cv f w1 H.out (by omega) (by omega)).mono ?_
 rintro e w2 ⟨rfl,hs,ho⟩
 have HX:Hid (Sec w2 g (sealF f)/\OnlyAt (some ⟨g,0,none⟩) w1 w2):=⟨by unfold sealF;rw [hq];exact hs,ho⟩
 clear hs ho hq
 go_wp2
 go_end0
 exact ⟨rfl,HX.out⟩

theorem size1:∀w,(Go.sizeOf 5).run Tryz.prog w=.ok 1 w:=fun w=>by kernel_rfl
theorem underBytes:Tryz.prog.underlying 22=some (.slice 5):=by kernel_rfl

theorem copy_two (w:World) (g k dLen dCap:Nat) (x0 x1:UInt8) (f:Nat->Int) (hs:Sec w g f) (hle:2<=dLen) (hk:k+2<=64) :
  ∃w',(Builtin.copy_ #[22,9] 3 #[.slice (some ⟨g,k,none⟩) dLen dCap,.string ⟨#[x0,x1]⟩]).run Tryz.prog w=.ok (goInt 2) w'/\Sec w' g (fun j=>if j=k+1 then (x1.toNat:Int) else if j=k then (x0.toNat:Int) else f j)/\OnlyAt (some ⟨g,0,none⟩) w w':=
 ⟨_,run_copy_string (P:=Tryz.prog) w 22 9 3 5 g k dLen dCap ⟨#[x0,x1]⟩ underBytes size1 hle (fun j hj=>by
   have:j<2:=hj
   rw [hs.cell (by omega)];rfl) (fun j hj=>hs.frozen _),(hs.set k x0.toNat).set (k+1) x1.toNat,((OnlyAt.refl _ _).setCell k _).setCell (k+1) _⟩

def superH (gen ar fi:Int):Nat->Int:=putN (putN (fun j=>if j=4+1 then 49 else if j=4 then 81 else putN (fun _=>0) 0 4 gen j) 6 1 ar) 8 4 fi
def superF (gen ar fi:Int):Nat->Int:=sealF (superH gen ar fi)

theorem putN_range {f:Nat->Int} {n o k:Nat} {v:Int} (h:∀i,i<n->0<=f i/\f i<256):∀i,i<n->0<=putN f o k v i/\putN f o k v i<256:=by
 intro i hi
 unfold putN
 split
 ·exact byteAt_range _ _
 ·exact h i hi
theorem superH_range (gen ar fi:Int):∀i,i<64->0<=superH gen ar fi i/\superH gen ar fi i<256:=by
 refine putN_range (putN_range (fun i hi=>?_))
 split
 ·omega
 ·split
  ·omega
  ·exact putN_range (fun i hi=>by omega) i hi

theorem zeroSec:(#[.int .u8 0,.int .u8 0,.int .u8 0,.int .u8 0,.int .u8 0,.int .u8 0,.int .u8 0,.int .u8 0,.int .u8 0,.int .u8 0,.int .u8 0,.int .u8 0,.int .u8 0,.int .u8 0,.int .u8 0,.int .u8 0,.int .u8 0,.int .u8 0,.int .u8 0,.int .u8 0,.int .u8 0,.int .u8 0,.int .u8 0,.int .u8 0,.int .u8 0,.int .u8 0,.int .u8 0,.int .u8 0,.int .u8 0,.int .u8 0,.int .u8 0,.int .u8 0,.int .u8 0,.int .u8 0,.int .u8 0,.int .u8 0,.int .u8 0,.int .u8 0,.int .u8 0,.int .u8 0,.int .u8 0,.int .u8 0,.int .u8 0,.int .u8 0,.int .u8 0,.int .u8 0,.int .u8 0,.int .u8 0,.int .u8 0,.int .u8 0,.int .u8 0,.int .u8 0,.int .u8 0,.int .u8 0,.int .u8 0,.int .u8 0,.int .u8 0,.int .u8 0,.int .u8 0,.int .u8 0,.int .u8 0,.int .u8 0,.int .u8 0,.int .u8 0]:Array Value)=secA (fun _=>0):=rfl

set_option maxHeartbeats 2000000 in
theorem superSector_any (gen ar fi:Int) (w:World) :
  Calls Tryz.prog 116 #[.agg #[.int .i64 gen,.int .i64 ar,.int .i64 fi]] w fun e w'=>e=.returned (.agg (secA (superF gen ar fi)))/\Below w.heap.size w w':=by
 go_enter Tryz.func116,Tryz.ntmps116
 go_wp2_with fail
 rw [zeroSec]
 obtain ⟨W,hW⟩:∃W,W=((w.alloc (.cells #[.int .i64 gen,.int .i64 ar,.int .i64 fi] 27)).alloc (.cells (secA fun _=>0) 192)).alloc (.cells (secA fun _=>0) 192):=⟨_,rfl⟩
 rw [<- hW]
 have BW:Below w.heap.size w W:=by rw [hW];exact (((below_alloc _ _).alloc (by simp) _).alloc (by simp;omega) _)
 have S0:Sec W (w.heap.size+1+1) (fun _=>0):=by
  rw [hW]
  have:=Sec.new ((w.alloc (.cells #[.int .i64 gen,.int .i64 ar,.int .i64 fi] 27)).alloc (.cells (secA fun _=>0) 192)) (fun _=>0)
  simp only [World.size_alloc] at this
  exact this
 have R0:Sec W (w.heap.size+1) (fun _=>0):=by
  rw [hW]
  have:=Sec.new (w.alloc (.cells #[.int .i64 gen,.int .i64 ar,.int .i64 fi] 27)) (fun _=>0)
  simp only [World.size_alloc] at this
  exact this.below (below_alloc _ _)
 have hb:∀o,W.cell? ⟨w.heap.size,o,none⟩=(w.alloc (.cells #[.int .i64 gen,.int .i64 ar,.int .i64 fi] 27)).cell? ⟨w.heap.size,o,none⟩:=fun o=>by
  rw [hW]
  exact (((Below.refl _ _).alloc (by simp) _).alloc (by simp) _:Below (w.heap.size+1) (w.alloc (.cells #[.int .i64 gen,.int .i64 ar,.int .i64 fi] 27)) _).cell (p:=⟨w.heap.size,o,none⟩) (by simp)
 have x0:W.cell? ⟨w.heap.size,0,none⟩=some (.int .i64 gen):=by rw [hb];simp
 have x1:W.cell? ⟨w.heap.size,1,none⟩=some (.int .i64 ar):=by rw [hb];simp
 have x2:W.cell? ⟨w.heap.size,2,none⟩=some (.int .i64 fi):=by rw [hb];simp
 have hz:W.heap.size=w.heap.size+1+1+1:=by rw [hW];simp
 have KP:Hid (∀w' : World,OnlyAt (some ⟨w.heap.size+1+1,0,none⟩) W w'->w'.cell? ⟨w.heap.size,1,none⟩=some (.int .i64 ar)/\w'.cell? ⟨w.heap.size,2,none⟩=some (.int .i64 fi)/\Sec w' (w.heap.size+1) (fun _=>0)/\Below w.heap.size w w'):=by
  intro w' ho
  have q:∀k,k≠w.heap.size+1+1->w'.heap[k]?=W.heap[k]?:=fun k hk=>ho.block k (fun y e=>by injection e with e;subst e;exact fun e=>hk e.symm)
  refine ⟨(World.cell?_of_block (a:=⟨w.heap.size,1,none⟩) (q _ (by show w.heap.size≠_;omega))).trans x1,(World.cell?_of_block (a:=⟨w.heap.size,2,none⟩) (q _ (by show w.heap.size≠_;omega))).trans x2,R0.of_block (q _ (by omega)),BW.trans (ho.below (fun y e=>by injection e with e;subst e;show w.heap.size<=w.heap.size+1+1;omega))⟩
 clear hW hb BW x1 x2 hz R0
 refine (putNumber_any (w.heap.size+1+1) 0 4 gen _ W S0 (by omega) (by omega)).mono ?_
 rintro e w1 ⟨rfl,hs1,ho1⟩
 have S1:Hid (Sec w1 (w.heap.size+1+1) (putN (fun _=>0) 0 4 gen)/\OnlyAt (some ⟨w.heap.size+1+1,0,none⟩) W w1):=⟨hs1,ho1⟩
 clear hs1 ho1 x0 S0
 obtain ⟨y1,y2,-,-⟩:=KP.out w1 S1.out.2
 obtain ⟨w2,hcp,hs2,ho2⟩:=copy_two w1 (w.heap.size+1+1) 4 60 60 81 49 _ S1.out.1 (by omega) (by omega)
 have S2:Hid (Sec w2 (w.heap.size+1+1) (fun j=>if j=4+1 then 49 else if j=4 then 81 else putN (fun _=>0) 0 4 gen j)/\OnlyAt (some ⟨w.heap.size+1+1,0,none⟩) W w2):=⟨hs2,S1.out.2.trans ho2⟩
 clear hs2 ho2 S1 y1 y2
 obtain ⟨y1,y2,-,-⟩:=KP.out w2 S2.out.2
 go_wp2_with fail
 clear hcp
 refine (putNumber_any (w.heap.size+1+1) 6 1 ar _ w2 S2.out.1 (by omega) (by omega)).mono ?_
 rintro e w3 ⟨rfl,hs3,ho3⟩
 have S3:Hid (Sec w3 (w.heap.size+1+1) _/\OnlyAt (some ⟨w.heap.size+1+1,0,none⟩) W w3):=⟨hs3,S2.out.2.trans ho3⟩
 clear hs3 ho3 S2 y1 y2
 obtain ⟨y1,y2,-,-⟩:=KP.out w3 S3.out.2
 go_wp2_with fail
 refine (putNumber_any (w.heap.size+1+1) 8 4 fi _ w3 S3.out.1 (by omega) (by omega)).mono ?_
 rintro e w4 ⟨rfl,hs4,ho4⟩
 have S4:Hid (Sec w4 (w.heap.size+1+1) (superH gen ar fi)/\OnlyAt (some ⟨w.heap.size+1+1,0,none⟩) W w4):=⟨hs4,S3.out.2.trans ho4⟩
 clear hs4 ho4 S3 y1 y2
 go_wp2_with fail
 refine (seal_any (w.heap.size+1+1) (superH gen ar fi) w4 S4.out.1 (fun i hi=>superH_range gen ar fi i (by omega))).mono ?_
 rintro e w5 ⟨rfl,hs5,ho5⟩
 obtain ⟨-,-,hr5,hb5⟩:=KP.out w5 (S4.out.2.trans ho5)
 have S5:Hid (Sec w5 (w.heap.size+1+1) (superF gen ar fi)):=hs5
 have R5:Hid (Sec w5 (w.heap.size+1) (fun _=>0)/\Below w.heap.size w w5):=⟨hr5,hb5⟩
 clear hs5 ho5 S4 KP hr5 hb5
 go_wp2_with (first|((with_reducible refine wpList_load_sec (w.heap.size+1+1) (superF gen ar fi) ?_ S5.out ?_);rfl)|((with_reducible refine wpList_store_sec (w.heap.size+1) (fun _=>0) (superF gen ar fi) ?_ ?_ R5.out.1 ?_);rfl;rfl))
 intro w6 hs6 ho6
 have HB6:Hid (Below w.heap.size w w6):=R5.out.2.trans (ho6.below (fun y e=>by injection e with e;subst e;show w.heap.size<=w.heap.size+1;omega))
 have S6:Hid (Sec w6 (w.heap.size+1) (superF gen ar fi)):=hs6
 clear hs6 ho6
 go_wp2
 exact bodyPost_ret (v:=.agg (secA (superF gen ar fi))) (retSec rfl _ w6 _ rfl S6.out) rfl ⟨rfl,HB6.out⟩

def lastAt (S:Nat->Int) (s:Int):Nat->Option Nat
 | 0=>none
 | k+1=>if S k=s then some k else lastAt S s k
theorem lastAt_hit {S:Nat->Int} {s:Int} {k:Nat} (h:S k=s):lastAt S s (k+1)=some k:=by simp [lastAt,h]
theorem lastAt_miss {S:Nat->Int} {s:Int} {k:Nat} (h:¬ S k=s):lastAt S s (k+1)=lastAt S s k:=by simp [lastAt,h]

def secF (d S:Nat->Int) (F:Nat->Nat->Int) (m:Nat) (s:Nat):Nat->Int:=
 match lastAt S s m with
 | some k=>F k
 | none=>fun j=>d (s*64+j)
theorem secF_some {d S:Nat->Int} {F:Nat->Nat->Int} {m s k:Nat} (h:lastAt S s m=some k):secF d S F m s=F k:=by simp [secF,h]
theorem secF_none {d S:Nat->Int} {F:Nat->Nat->Int} {m s:Nat} (h:lastAt S s m=none):secF d S F m s=fun j=>d (s*64+j):=by simp [secF,h]

theorem rd_sub {w:World} {b o n:Nat} {d:Nat->Int} (hc:∀i,i<n->w.cell? ⟨b,o+i,none⟩=some (.int .u8 (d i))) (s:Nat) (hs:(s+1)*64<=n):Rd .u8 w (some ⟨b,o+s*64,none⟩) 64 (fun j=>d (s*64+j)):=
 Or.inr ⟨b,o+s*64,rfl,fun i hi=>by rw [Nat.add_assoc];exact hc (s*64+i) (by omega)⟩

set_option maxHeartbeats 1000000 in
theorem look_any (a p:Option Addr) (n c m q:Nat) (d S:Nat->Int) (L:Nat->Nat) (F:Nat->Nat->Int) (fuel:Int) (dead:Bool) (s:Nat) (w:World) (ha:Rd .u8 w a n d) (hp:RdP w p m S L F) (hv:VD n m S L fuel) (hs:s<n / 64) (hn:n<=1048576) (hnc:n<=c) (hcm:c<=9223372036854775807) (hm:m<=1048576) :
  Calls Tryz.prog 230 #[.agg #[.slice a n c,.slice p m q,.int .i64 fuel,.bool dead],.int .i64 s] w fun e w'=>RetRd w e w' 64 (secF d S F m s):=by
 have HA:Hid (Rd .u8 w a n d):=ha
 have HP:Hid (∀O,RdP (w.alloc O) p m S L F):=fun O=>hp.below (below_alloc _ _)
 have HV:Hid (∀i,i<m->L i=64):=fun i hi=>(hv.2 i hi).2.2
 clear ha hp hv
 go_enter Tryz.func230,Tryz.ntmps230
 go_wp2
 go_loop [5] (fun i=>∃k:Nat,k<=m/\i=.int .i64 ((k:Int)-1)/\lastAt S s m=lastAt S s k) (fun i=>(intOf i+1).toNat)
 case atStart=>exact ⟨m,Nat.le_refl _,rfl,rfl⟩
 case round=>
  obtain ⟨k,hk,rfl,hl⟩:=hrel
  have HLst:Hid (lastAt S s m=lastAt S s k):=hl
  clear hl
  cases k with
  | zero=>
   rcases HA.out with h|⟨b,o,hpa,hc⟩
   ·omega
   subst hpa
   have HR:Hid (Rd .u8 w (some ⟨b,o+s*64,none⟩) 64 (fun j=>d (s*64+j))):=rd_sub hc s (by omega)
   have h1:(s:Int)*64<=((s:Int)+1)*64:=by omega
   have h2:((s:Int)+1)*64<=(c:Int):=by omega
   clear hc
   go_wp2
   go_ret
   refine ⟨some ⟨b,o+s*64,none⟩,c-s*64,?_,by rw [secF_none (HLst.out.trans rfl)];exact HR.out.below (below_alloc _ _),below_alloc _ _⟩
   simp
   omega
  | succ k=>
   rcases HP.out (.cells #[.slice a n c,.slice p m q,.int .i64 fuel,.bool dead] 25) with h|⟨b,o,hpa,hc⟩
   ·omega
   subst hpa
   obtain ⟨c1,ad,cp,c2,c3⟩:=hc k (by omega)
   have hL:=HV.out k (by omega)
   rw [hL] at c2 c3
   have C3:Hid (Rd .u8 (w.alloc (.cells #[.slice a n c,.slice (some ⟨b,o,none⟩) m q,.int .i64 fuel,.bool dead] 25)) ad 64 (F k)):=c3
   have ek:((k+1:Nat):Int)-1=(k:Int):=by omega
   rw [ek]
   have hkm:(k:Int)<(m:Int):=by omega
   clear hc c3 hL ek
   by_cases e:S k=(s:Int)
   ·have e' : (S k == (s:Int))=true:=by simp [e]
    have HF:Hid (secF d S F m s=F k):=secF_some (HLst.out.trans (lastAt_hit e))
    clear e
    go_wp2
    go_ret
    exact ⟨ad,cp,rfl,by rw [HF.out];exact C3.out,below_alloc _ _⟩
   ·have e' : (S k == (s:Int))=false:=by simp [e]
    have HF:Hid (lastAt S s m=lastAt S s k):=HLst.out.trans (lastAt_miss e)
    clear e
    go_wp2
    go_round
    case rel=>exact ⟨k,by omega,rfl,HF.out⟩
    case measure=>simp [intOf]

def over (d:Nat->Int) (s:Nat) (f:Nat->Int):Nat->Int:=fun j=>if j<s*64 then d j else if j<s*64+64 then f (j-s*64) else d j

theorem byteRow_over (d f:Nat->Int) (s n:Nat) (h:s*64+64<=n):byteRow d (s*64)++byteRow f 64++byteRow (fun i=>d (s*64+64+i)) (n-(s*64+64))=byteRow (over d s f) n:=by
 apply List.ext_getElem?
 intro i
 by_cases h1:i<s*64
 ·rw [List.getElem?_append_left (by simp [byteRow_length];omega),List.getElem?_append_left (by rw [byteRow_length];exact h1),byteRow_get _ _ _ h1,byteRow_get _ _ _ (by omega)]
  simp [over,h1]
 ·by_cases h2:i<s*64+64
  ·rw [List.getElem?_append_left (by simp [byteRow_length];omega),List.getElem?_append_right (by rw [byteRow_length];omega),byteRow_length,byteRow_get _ _ _ (by omega),byteRow_get _ _ _ (by omega)]
   simp [over,h1,h2]
  ·by_cases h3:i<n
   ·rw [List.getElem?_append_right (by simp [byteRow_length];omega),List.length_append,byteRow_length,byteRow_length,byteRow_get _ _ _ (by omega),byteRow_get _ _ _ h3]
    have e:s*64+64+(i-(s*64+64))=i:=by omega
    simp [over,h1,h2,e]
   ·rw [List.getElem?_eq_none (by simp [byteRow_length];omega),List.getElem?_eq_none (by rw [byteRow_length];omega)]

theorem rd_from {w:World} {b o n:Nat} {d:Nat->Int} (hc:∀i,i<n->w.cell? ⟨b,o+i,none⟩=some (.int .u8 (d i))) (k m:Nat) (hs:k+m<=n):Rd .u8 w (some ⟨b,o+k,none⟩) m (fun j=>d (k+j)):=
 Or.inr ⟨b,o+k,rfl,fun i hi=>by rw [Nat.add_assoc];exact hc (k+i) (by omega)⟩

set_option maxHeartbeats 1000000 in
theorem l1Over_any (a a2:Option Addr) (n c c2 s:Nat) (d f:Nat->Int) (w:World) (ha:Rd .u8 w a n d) (hf:Rd .u8 w a2 64 f) (hs:s*64+64<=n) (hn:n<=1048576) (hnc:n<=c) (hcm:c<=9223372036854775807) :
  Calls Tryz.prog 80 #[.slice a n c,.int .i64 s,.slice a2 64 c2] w fun e w'=>RetOwn w e w' n (over d s f):=by
 rcases ha with h|⟨b,o,rfl,hc⟩
 ·omega
 have HC:Hid (∀i,i<n->w.cell? ⟨b,o+i,none⟩=some (.int .u8 (d i))):=hc
 have HF:Hid (Rd .u8 w a2 64 f):=hf
 have HR1:Hid (∀O,Rd .u8 (w.alloc O) (some ⟨b,o,none⟩) (s*64) d):=fun O=>Rd.below (w:=w) (Or.inr ⟨b,o,rfl,fun i hi=>hc i (by omega)⟩) (below_alloc _ _)
 have i1:(s:Int)*64<=(c:Int):=by omega
 have i2:(s:Int)*64+64<=(n:Int):=by omega
 clear hc hf
 go_enter Tryz.func80,Tryz.ntmps80
 go_wp2_with (at_builtin;refine wpList_append_rd rfl _ _ rfl w.heap.size (.slice (some ⟨w.heap.size,0,none⟩) 0 0) 0 [] rfl (World.ownsRow_lit w #[] 0 (Nat.le_refl _) (Nat.zero_le _) rfl) (some ⟨b,o,none⟩) (s*64) _ d rfl (HR1.out _) (by omega) (by simp) ?_)
 intro v1 w1 ho1 hg1
 have HB1:Hid (Below w.heap.size w w1):=(below_alloc _ _).grown hg1 (by simp) (fun k e=>by simp [Value.ownBlock] at e;omega)
 have ho1' : w1.ownsRow w.heap.size 5 1 v1 (s*64) (byteRow d (s*64)):=by simpa using ho1
 have HO1:Hid (w1.ownsRow w.heap.size 5 1 v1 (s*64) (byteRow d (s*64))):=ho1'
 have z1:=HB1.out.size
 clear ho1 hg1 ho1'
 go_wp2_with (at_builtin;refine wpList_append_rd rfl _ _ rfl w.heap.size v1 (s*64) (byteRow d (s*64)) rfl HO1.out a2 64 c2 f rfl (HF.out.below HB1.out) (by omega) z1 ?_)
 intro v2 w2 ho2 hg2
 have HB2:Hid (Below w.heap.size w w2):=HB1.out.grown hg2 z1 (fun k e=>(HO1.out.lt k e).1)
 have HO2:Hid (w2.ownsRow w.heap.size 5 1 v2 (s*64+64) (byteRow d (s*64)++byteRow f 64)):=ho2
 have z2:=HB2.out.size
 have HR2:Hid (Rd .u8 w2 (some ⟨b,o+(s*64+64),none⟩) (n-(s*64+64)) (fun i=>d (s*64+64+i))):=Rd.below (w:=w) (rd_from HC.out (s*64+64) (n-(s*64+64)) (by omega)) HB2.out
 clear ho2 hg2
 have HFIN:Hid (∀v3 w3,w3.ownsRow w.heap.size 5 1 v3 n (byteRow d (s*64)++(byteRow f 64++byteRow (fun i=>d (s*64+64+i)) (n-(s*64+64))))->w2.grownBy w3 v2.ownBlock->RetOwn w (.returned v3) w3 n (over d s f)):=by
  intro v3 w3 ho3 hg3
  rw [<- List.append_assoc,byteRow_over d f s n hs] at ho3
  obtain ⟨a',c',rfl,q1,q2,q3⟩:=ownB_ofRow ho3
  exact ⟨a',c',rfl,q1,HB2.out.grown hg3 z2 (fun k e=>(HO2.out.lt k e).1),q2,q3⟩
 by_cases hcc:c=s*64+64
 ·have en:n=s*64+64:=by omega
  have HL:Hid (byteRow d (s*64)++byteRow f 64=byteRow (over d s f) n):=by
   show _=_
   rw [<- byteRow_over d f s n hs,show n-(s*64+64)=0 by omega]
   simp [byteRow]
  subst hcc
  subst en
  clear HFIN HR2
  go_wp2_with (at_builtin;refine wpList_append_rd rfl _ _ rfl w.heap.size v2 (s*64+64) (byteRow d (s*64)++byteRow f 64) rfl HO2.out (some ⟨b,o,none⟩) (s*64+64-(s*64+64)) _ (fun _=>0) rfl (Or.inl (Nat.sub_self _)) (by omega) z2 ?_)
  intro v3 w3 ho3 hg3
  have ho3' : w3.ownsRow w.heap.size 5 1 v3 (s*64+64) (byteRow d (s*64)++byteRow f 64):=by simpa [byteRow] using ho3
  rw [HL.out] at ho3'
  obtain ⟨a',c',rfl,q1,q2,q3⟩:=ownB_ofRow ho3'
  have HE:Hid (RetOwn w (.returned (.slice a' (s*64+64) c')) w3 (s*64+64) (over d s f)):=⟨a',c',rfl,q1,HB2.out.grown hg3 z2 (fun k e=>(HO2.out.lt k e).1),q2,q3⟩
  clear ho3 hg3 ho3' q1
  go_wp2
  go_ret
  exact HE.out
 ·have hcc' : (s:Int)*64+64<(c:Int):=by omega
  clear hcc
  go_wp2_with (at_builtin;refine wpList_append_rd rfl _ _ rfl w.heap.size v2 (s*64+64) (byteRow d (s*64)++byteRow f 64) rfl HO2.out (some ⟨b,o+(s*64+64),none⟩) (n-(s*64+64)) _ (fun i=>d (s*64+64+i)) rfl HR2.out (by omega) z2 ?_)
  intro v3 w3 ho3 hg3
  have HE:Hid (RetOwn w (.returned v3) w3 n (over d s f)):=HFIN.out v3 w3 ho3 hg3
  clear ho3 hg3
  go_wp2
  go_ret
  exact HE.out

theorem copied_row (cur:Array Value) (n s:Nat) (d f:Nat->Int) (hn:n<=cur.size) (hc:∀i,i<n->cur[i]?=some (.int .u8 (d i))) (hs:s*64+64<=n) :
  n<=(cur.toList.take (s*64)++(byteRow f 64++cur.toList.drop (s*64+(byteRow f 64).length))).toArray.size/\
  ∀i,i<n->(cur.toList.take (s*64)++(byteRow f 64++cur.toList.drop (s*64+(byteRow f 64).length))).toArray[i]?=some (.int .u8 (over d s f i)):=by
 rw [byteRow_length]
 refine ⟨by simp [byteRow_length];omega,fun i hi=>?_⟩
 rw [List.getElem?_toArray]
 have hl:(cur.toList.take (s*64)).length=s*64:=by simp;omega
 by_cases h1:i<s*64
 ·rw [List.getElem?_append_left (by omega),List.getElem?_take,if_pos h1]
  simp only [over,h1,if_true]
  rw [<- hc i hi]
  simp
 ·rw [List.getElem?_append_right (by omega),hl]
  by_cases h2:i<s*64+64
  ·rw [List.getElem?_append_left (by rw [byteRow_length];omega),byteRow_get _ _ _ (by omega)]
   simp [over,h1,h2]
  ·rw [List.getElem?_append_right (by rw [byteRow_length];omega),byteRow_length,List.getElem?_drop,show s*64+64+(i-s*64-64)=i by omega]
   simp only [over,h1,h2,if_false]
   rw [<- hc i hi]
   simp

theorem step_copy_rd {ops:Array Oper} {o:Oper} {a:Act} {w:World} {K:Act->World->Prop} {Q:Exit->Act->World->Prop} {E:Prop} (hgd:o.guard=none) (x y:Operand)
  (ho:o.op=.call { callee:=.builtin .copy,args:=#[x,y],argTypes:=#[22,22] })
  (g n s dLen dCap sCap:Nat) (ad:Option Addr) (d f:Nat->Int) (hx:a.eval x=.slice (some ⟨g,s*64,none⟩) dLen dCap) (hy:a.eval y=.slice ad 64 sCap) (hl:64<=dLen)
  (hrow:rowIn w g 5 n (fun i=>.int .u8 (d i))) (hrd:Rd .u8 w ad 64 f) (hfit:s*64+64<=n)
  (h:∀w',rowIn w' g 5 n (fun i=>.int .u8 (over d s f i))->OnlyAt (some ⟨g,0,none⟩) w w'->K (a.put o.dst (goInt 64)) w') :
  if Region.wanted o (yielded ops a.tmps)=true then Oper.wp Tryz.prog o a w K Q else E:=by
 have hw:Region.wanted o (yielded ops a.tmps)=true:=by simp [Region.wanted,hgd]
 rw [if_pos hw]
 rcases hrd with h0|⟨b,off,rfl,hc⟩
 ·omega
 obtain ⟨cur,hg,hn,hcur⟩:=hrow
 have hrun:=run_copy_row (P:=Tryz.prog) w 22 22 o.type 5 g (s*64) dLen dCap ⟨b,off,none⟩ 64 sCap cur 5 (byteRow f 64) Tryz.underlying22 (by kernel_rfl) hg (by rw [byteRow_length];exact (Nat.min_eq_left hl).symm)
  (fun j u hj=>by
   have hjm:j<64:=by
    have:=(List.getElem?_eq_some_iff.1 hj).1
    rwa [byteRow_length] at this
   rw [byteRow_get f 64 j hjm] at hj
   injection hj with hj
   subst hj
   have e:(Addr.add ⟨b,off,none⟩ j)=⟨b,off+j,none⟩:=by
    unfold Addr.add
    by_cases h:j=0
    ·subst h;simp
    ·simp [h]
   rw [e]
   exact hc j hjm) (by rw [byteRow_length];omega)
  (fun u hu=>by
   simp only [byteRow,List.mem_map] at hu
   obtain ⟨i,_,rfl⟩:=hu
   rfl)
 unfold Oper.wp
 simp [execOp,ho,resolve,invoke,builtin,hx,hy,hrun,Result.andThen]
 rw [byteRow_length]
 have hq:=copied_row cur n s d f hn hcur hfit
 refine h _ ⟨_,setRow_heap w g _ _ _ _ hg,?_,?_⟩ ⟨rfl,rfl,rfl,by simp [World.setRow],fun k hk=>setRow_other w g k _ (fun e=>hk _ rfl (by simp [e]))⟩
 ·simpa [byteRow_length] using hq.1
 ·simpa [byteRow_length] using hq.2

set_option maxHeartbeats 1000000 in
theorem settle_any (g n c s cp:Nat) (ad:Option Addr) (d f:Nat->Int) (w:World) (hrow:rowIn w g 5 n (fun i=>.int .u8 (d i))) (hrd:Rd .u8 w ad 64 f) (hfit:s*64+64<=n) (hnc:n<=c) (hcm:c<=9223372036854775807) (hn:n<=1048576) :
  Calls Tryz.prog 151 #[.slice (some ⟨g,0,none⟩) n c,.agg #[.int .i64 s,.slice ad 64 cp]] w fun e w'=>e=.returned (.tuple #[])/\rowIn w' g 5 n (fun i=>.int .u8 (over d s f i))/\OnlyAt (some ⟨g,0,none⟩) (w.alloc (.cells #[.int .i64 s,.slice ad 64 cp] 119)) w':=by
 have hlt:=hrow.lt
 have HROW:Hid (∀O,rowIn (w.alloc O).drew g 5 n (fun i=>.int .u8 (d i))):=fun O=>hrow.of_block (Below.heap_alloc _ _ _ hlt)
 have HRD:Hid (∀O,Rd .u8 (w.alloc O).drew ad 64 f):=fun O=>hrd.below (below_alloc _ _).drew
 have i1:(s:Int)*64<(c:Int):=by omega
 have i0:(0:Int)<=(s:Int)*64:=by omega
 have i2:(s:Int)*64<=(n:Int):=by omega
 have j1:¬ c=s*64:=by omega
 have j2:IntKind.i64.wrap ((s:Int)*64)=(s:Int)*64:=by rw [IntKind.wrap_i64];omega
 have j3:((s:Int)*64).toNat=s*64:=by omega
 have HC:Hid (∀w1:World,OnlyAt (some ⟨g,0,none⟩) (w.alloc (.cells #[.int .i64 s,.slice ad 64 cp] 119)).drew w1->w1.cell? ⟨w.heap.size,0,none⟩=some (.int .i64 s)/\w1.cell? ⟨w.heap.size,1,none⟩=some (.slice ad 64 cp)):=by
  intro w1 ho
  have hb:w1.heap[w.heap.size]?=((w.alloc (.cells #[.int .i64 s,.slice ad 64 cp] 119)).drew).heap[w.heap.size]?:=ho.block _ (fun x e=>by injection e with e;subst e;show g≠w.heap.size;omega)
  constructor
  ·rw [World.cell?_of_block (w:=(w.alloc (.cells #[.int .i64 s,.slice ad 64 cp] 119)).drew) (a:=⟨w.heap.size,0,none⟩) hb];simp
  ·rw [World.cell?_of_block (w:=(w.alloc (.cells #[.int .i64 s,.slice ad 64 cp] 119)).drew) (a:=⟨w.heap.size,1,none⟩) hb];simp
 clear hrow hrd
 go_enter Tryz.func151,Tryz.ntmps151
 go_wp2
 go_region_held3 (fun w'=>w'.cell? ⟨w.heap.size,0,none⟩=some (.int .i64 s)/\w'.cell? ⟨w.heap.size,1,none⟩=some (.slice ad 64 cp)) (go_keep)
  ((refine step_copy_rd (by rfl) (.tmp 8) (.tmp 10) (by rfl) g n s (n-s*64) (c-s*64) cp ad d f (by rfl) (by rfl) (by omega) (HROW.out _) (HRD.out _) hfit ?_;intro w1 hr1 ho1;obtain ⟨y0,y1⟩:=HC.out w1 ho1))
 go_end0
 exact ⟨rfl,hr1,⟨ho1.os,ho1.tape,ho1.output,ho1.size,ho1.block⟩⟩
end Go.Proofs.YtbmffmifemebmaaGreatDoor
