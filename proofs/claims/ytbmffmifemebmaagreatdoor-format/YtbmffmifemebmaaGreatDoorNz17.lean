import Derived.Test.YtbmffmifemebmaaGreatDoorNz15
import Derived.Test.YtbmffmifemebmaaGreatDoorNz8
import Derived.Test.YtbmffmifemebmaaGreatDoorNz5
import Derived.Test.YtbmffmifemebmaaGreatDoorNz1
import Derived.Test.YtbmffmifemebmaaGreatDoorNz6
import Derived.Test.YtbmffmifemebmaaGreatDoorNz4
import Derived.Test.YtbmffmifemebmaaGreatDoorNz11
import Derived.Test.YtbmffmifemebmaaGreatDoorNz12
set_option linter.unusedVariables false
set_option maxRecDepth 100000
namespace Go.Proofs.YtbmffmifemebmaaGreatDoor
open Go.RowKit Go.Deep

structure Fq (a:Option Addr) (n:Nat) (w w' : World):Prop where
 os:w'.os=w.os
 tape:w'.tape=w.tape
 output:w'.output=w.output
 size:w.heap.size<=w'.heap.size
 block:∀b,b<w.heap.size->(n≠0->∀x,a=some x->x.block≠b)->w'.heap[b]?=w.heap[b]?
theorem Fq.ofBelow {a:Option Addr} {n:Nat} {w w' : World} (h:Below w.heap.size w w'):Fq a n w w':=⟨h.os,h.tape,h.output,h.size,fun b hb _=>h.block b hb⟩
theorem Fq.trans {a:Option Addr} {n:Nat} {w w1 w2:World} (h:Fq a n w w1) (h' : Fq a n w1 w2):Fq a n w w2:=
 ⟨h'.os.trans h.os,h'.tape.trans h.tape,h'.output.trans h.output,Nat.le_trans h.size h'.size,fun b hb hn=>(h'.block b (Nat.lt_of_lt_of_le hb h.size) hn).trans (h.block b hb hn)⟩
theorem Fq.ofOnly {a:Option Addr} {n:Nat} {w w' : World} (h:OnlyAt a w w') (hz:n=0->w'=w):Fq a n w w':=by
 by_cases e:n=0
 ·rw [hz e];exact Fq.ofBelow (Below.refl _ _)
 ·exact ⟨h.os,h.tape,h.output,Nat.le_of_eq h.size.symm,fun b _ hb=>h.block b (hb e)⟩
theorem Fq.within {a:Option Addr} {n B T:Nat} {w w' : World} (h:Fq a n w w') (hg:n≠0->∀x,a=some x->B<=x.block/\x.block<T):Within B T w w':=
 ⟨h.os,h.tape,h.output,h.size,fun k hk hc=>h.block k hk (fun hn x e=>by have:=hg hn x e;omega)⟩
theorem Fq.bx {a:Option Addr} {n b:Nat} {t:TypeId} {c:Array Value} {w w' : World} (h:Fq a n w w') (hb:Bx w b t c) (hne:n≠0->∀x,a=some x->x.block≠b):Bx w' b t c:=(h.block b hb.lt hne).trans hb
theorem Fq.row {a:Option Addr} {n g m B:Nat} {t:TypeId} {F:Nat->Value} {f:Nat->Int} {w w' : World} (h:Fq a n w w') (ho:OwnB w B a n f) (hr:rowIn w g t m F) (ht:t≠5):rowIn w' g t m F:=by
 refine hr.of_block (h.block g hr.lt (fun hn x e=>?_))
 rcases ho with h0|⟨gg,rfl,hgB,hrr⟩
 ·exact absurd h0 hn
 ·injection e with e
  subst e
  exact fun e2=>hr.ne hrr ht e2.symm

theorem markDisk_e (a p:Option Addr) (n c q B:Nat) (d:Nat->Int) (fuel:Int) (dead:Bool) (w:World) (k0:Int) (ha:OwnB w B a n d) (hn:n<=1048576) (h0:0<=k0) (h1:k0<=1048576) :
  Calls Tryz.prog 72 #[.agg #[.slice a n c,.slice p 0 q,.int .i64 fuel,.bool dead],.int .i64 k0] w fun e w'=>e=.returned (.int .i64 (k0+n))/\OwnB w' B a n (fun i=>IntKind.u8.wrap (k0+i))/\Fq a n w w':=by
 have Ha:Hid (OwnB w B a n d):=ha
 clear ha
 go_enter Tryz.func72,Tryz.ntmps72
 go_wp2_with fail
 refine (markByteS_own a n c B d _ k0 (Ha.out.below (below_alloc _ _)) (by omega) h0 (by omega)).mono ?_
 rintro e w1 ⟨rfl,hb1,ho1,hz1⟩
 have HF:Hid (Fq a n w w1/\OwnB w1 B a n (fun i=>IntKind.u8.wrap (k0+i))):=⟨(Fq.ofBelow (below_alloc _ _)).trans (Fq.ofOnly ho1 hz1),hb1⟩
 have X1:Bx w1 w.heap.size 25 #[.slice a n c,.slice p 0 q,.int .i64 fuel,.bool dead]:=(Fq.ofOnly ho1 hz1).bx (Bx.new _ _ _) (fun hn x e=>by have:=Ha.out.ltB hn x e;omega)
 have x1:=X1.cell 1
 simp at x1
 clear hb1 ho1 hz1 X1
 go_wp2_with fail
 refine (markPendS_own p 0 q B (fun _=>0) (fun _=>0) (fun _ _=>0) (fun _=>none) w1 (k0+n) (Or.inl rfl) (by omega) (fun i hi=>absurd hi (Nat.not_lt_zero _)) (by omega) (by omega)).mono ?_
 rintro e w2 ⟨rfl,-,hz2,-⟩
 have e2:=hz2 rfl
 subst e2
 simp only [koff]
 clear hz2 x1
 go_wp2
 go_ret
 exact ⟨rfl,HF.out.2,HF.out.1⟩

theorem markDict_e (next k:Int) (w:World) :
  Calls Tryz.prog 73 #[.agg #[.int .i64 next,.slice none 0 0],.int .i64 k] w fun e w'=>e=.returned (.int .i64 k)/\Below w.heap.size w w':=by
 go_enter Tryz.func73,Tryz.ntmps73
 go_wp2_with (go_at_call 124;refine (markTermS_nil _ _).mono ?_;rintro e w1 ⟨rfl,rfl⟩)
 go_ret
 exact ⟨rfl,below_alloc _ _⟩
theorem heldDict_e (next k:Int) (hk:0<=k) (w:World) :
  Calls Tryz.prog 76 #[.agg #[.int .i64 next,.slice none 0 0],.int .i64 k] w fun e w'=>e=.returned (.int .i64 k)/\Below w.heap.size w w':=by
 have hk' : ¬ k<0:=by omega
 go_enter Tryz.func76,Tryz.ntmps76
 go_wp2_with (go_at_call 128;refine (heldTermS_nil _ _).mono ?_;rintro e w1 ⟨rfl,rfl⟩)
 go_ret
 exact ⟨rfl,below_alloc _ _⟩
theorem eqDict_e (next:Int) (w:World) :
  Calls Tryz.prog 70 #[.agg #[.int .i64 next,.slice none 0 0],.agg #[.int .i64 next,.slice none 0 0]] w fun e w'=>e=.returned (.bool true)/\Below w.heap.size w w':=by
 have hff:(next != next)=false:=by simp
 go_enter Tryz.func70,Tryz.ntmps70
 go_wp2_with (go_at_call 120;refine (eqTermS_nil _).mono ?_;rintro e w1 ⟨rfl,rfl⟩)
 go_ret
 exact ⟨rfl,(below_alloc _ _).alloc (by simp) _⟩
theorem eqSuper_e (x y z:Int) (w:World) :
  Calls Tryz.prog 69 #[.agg #[.int .i64 x,.int .i64 y,.int .i64 z],.agg #[.int .i64 x,.int .i64 y,.int .i64 z]] w fun e w'=>e=.returned (.bool true)/\Below w.heap.size w w':=by
 have h1:(x != x)=false:=by simp
 have h2:(y != y)=false:=by simp
 have h3:(z != z)=false:=by simp
 go_enter Tryz.func69,Tryz.ntmps69
 go_wp2
 go_ret
 exact ⟨rfl,(below_alloc _ _).alloc (by simp) _⟩

theorem eqIndex_nil (w:World) :
  Calls Tryz.prog 71 #[.agg #[.slice none 0 0],.agg #[.slice none 0 0]] w fun e w'=>e=.returned (.bool true)/\Below w.heap.size w w':=by
 have h:∀W:World,Calls Tryz.prog 121 #[.slice none 0 0,.slice none 0 0] W fun e w'=>e=.returned (.bool true)/\w'=W:=fun W=>by
  go_enter Tryz.func121,Tryz.ntmps121
  go_wp2
  go_rounds 1
  go_ret
  exact ⟨rfl,rfl⟩
 have H:Hid (∀W:World,Calls Tryz.prog 121 #[.slice none 0 0,.slice none 0 0] W fun e w'=>e=.returned (.bool true)/\w'=W):=h
 clear h
 go_enter Tryz.func71,Tryz.ntmps71
 go_wp2_with (go_at_call 121;refine (H.out _).mono ?_;rintro e w1 ⟨rfl,rfl⟩)
 go_ret
 exact ⟨rfl,(below_alloc _ _).alloc (by simp) _⟩
theorem markIndex_nil (k:Int) (w:World) :
  Calls Tryz.prog 74 #[.agg #[.slice none 0 0],.int .i64 k] w fun e w'=>e=.returned (.int .i64 k)/\Below w.heap.size w w':=by
 have h:∀W:World,Calls Tryz.prog 125 #[.slice none 0 0,.int .i64 k] W fun e w'=>e=.returned (.int .i64 k)/\w'=W:=fun W=>by
  go_enter Tryz.func125,Tryz.ntmps125
  go_wp2
  go_rounds 1
  go_ret
  exact ⟨rfl,rfl⟩
 have H:Hid (∀W:World,Calls Tryz.prog 125 #[.slice none 0 0,.int .i64 k] W fun e w'=>e=.returned (.int .i64 k)/\w'=W):=h
 clear h
 go_enter Tryz.func74,Tryz.ntmps74
 go_wp2_with (go_at_call 125;refine (H.out _).mono ?_;rintro e w1 ⟨rfl,rfl⟩)
 go_ret
 exact ⟨rfl,below_alloc _ _⟩
theorem heldIndex_nil (k:Int) (hk:0<=k) (w:World) :
  Calls Tryz.prog 77 #[.agg #[.slice none 0 0],.int .i64 k] w fun e w'=>e=.returned (.int .i64 k)/\Below w.heap.size w w':=by
 have hk' : ¬ k<0:=by omega
 have h:∀W:World,Calls Tryz.prog 129 #[.slice none 0 0,.int .i64 k] W fun e w'=>e=.returned (.int .i64 k)/\w'=W:=fun W=>by
  go_enter Tryz.func129,Tryz.ntmps129
  go_wp2
  go_rounds 1
  go_ret
  exact ⟨rfl,rfl⟩
 have H:Hid (∀W:World,Calls Tryz.prog 129 #[.slice none 0 0,.int .i64 k] W fun e w'=>e=.returned (.int .i64 k)/\w'=W):=h
 clear h
 go_enter Tryz.func77,Tryz.ntmps77
 go_wp2_with (go_at_call 129;refine (H.out _).mono ?_;rintro e w1 ⟨rfl,rfl⟩)
 go_ret
 exact ⟨rfl,below_alloc _ _⟩

section
variable (sec:Nat->Nat->Int) (ns A b0:Nat) (first:Int)
def arK (s:Nat):Nat:=(getN (sec s) 6 2).toNat
def arG (s:Nat) (i:Nat):Nat->Int:=sec (s+i)
def arOk (u:Nat) (q:Int):Prop:=b0+u<ns/\recOk (arG sec (b0+u)) ((ns:Int)-((b0+u:Nat):Int)) q/\u+arK sec (b0+u)<=A
def arU:Nat->Nat
 | 0=>0
 | j+1=>arU j+arK sec (b0+arU j)
def arGood (j:Nat):Prop:=first+j<=2000000000/\arOk sec ns A b0 (arU sec b0 j) (first+j)
def arL (j:Nat):Nat:=catL (recLz (arG sec (b0+arU sec b0 j))) (arK sec (b0+arU sec b0 j))
def arF (j:Nat):Nat->Int:=catF (recLz (arG sec (b0+arU sec b0 j))) (recFz (arG sec (b0+arU sec b0 j))) (arK sec (b0+arU sec b0 j))
end

def RetA (w:World) (ok:Bool) (m:Nat) (L:Nat->Nat) (F:Nat->Nat->Int) (us nx:Int) (e:Ending) (w' : World):Prop:=
 ∃p c A,e=.returned (.agg #[.bool ok,.slice p m c,.int .i64 us,.int .i64 nx])/\OwnY w' w.heap.size p m L F A/\Below w.heap.size w w'/\m<=c/\c<=9223372036854775807

theorem arK_pos {sec:Nat->Nat->Int} {ns A b0 u:Nat} {q:Int} (h:arOk sec ns A b0 u q):1<=arK sec (b0+u)/\arK sec (b0+u)<=625/\((arK sec (b0+u):Nat):Int)=getN (sec (b0+u)) 6 2:=by
 obtain ⟨_,⟨h1,h2,_⟩,_⟩:=h
 unfold arG at h1 h2
 rw [Nat.add_zero] at h1 h2
 unfold arK
 omega

theorem arU_le {sec:Nat->Nat->Int} {ns A b0:Nat} {first:Int}:∀J,(∀j,j<J->arGood sec ns A b0 first j)->arU sec b0 J<=A/\J<=arU sec b0 J
 | 0,_=>⟨Nat.zero_le _,Nat.zero_le _⟩
 | J+1,h=>by
  obtain ⟨_,h2⟩:=h J (by omega)
  have h3:=(arK_pos h2).1
  have h4:=arU_le J (fun j hj=>h j (by omega))
  have h5:=h2.2.2
  show arU sec b0 J+arK sec (b0+arU sec b0 J)<=A/\J+1<=arU sec b0 J+arK sec (b0+arU sec b0 J)
  omega

set_option maxHeartbeats 400000 in
theorem areaSectors_any (a p:Option Addr) (n c m q:Nat) (fuel:Int) (dead:Bool) (A:Nat) (w:World) (hn:n<=1048576) (h16:16<=n / 64) (hA:A=(n / 64-2) / 2) :
  Calls Tryz.prog 57 #[.agg #[.slice a n c,.slice p m q,.int .i64 fuel,.bool dead]] w fun e w'=>e=.returned (.int .i64 A)/\Below w.heap.size w w':=by
 have e1:IntKind.i64.wrap ((n:Int) / 64-2)=(n:Int) / 64-2:=by rw [IntKind.wrap_i64];omega
 have e2:((n:Int) / 64-2).tdiv 2=(A:Int):=by rw [Int.tdiv_eq_ediv_of_nonneg (by omega)];omega
 have e3:IntKind.i64.wrap (A:Int)=(A:Int):=by rw [IntKind.wrap_i64];omega
 have HA:Hid (A=(n / 64-2) / 2):=hA
 clear hA
 go_enter Tryz.func57,Tryz.ntmps57
 go_wp2_with fail
 refine (sectorCount_any a p n c m q fuel dead _ hn).mono ?_
 rintro e w1 ⟨rfl,hb1⟩
 have HX:Hid (Below w.heap.size w w1):=(below_alloc _ _).trans (hb1.mono (by simp))
 clear hb1
 go_wp2
 go_ret
 exact ⟨rfl,HX.out⟩

set_option maxHeartbeats 400000 in
theorem areaBegin_any (a p:Option Addr) (n c m q:Nat) (fuel:Int) (dead:Bool) (A ar:Nat) (x:Int) (w:World) (hn:n<=1048576) (h16:16<=n / 64) (hA:A=(n / 64-2) / 2) (hx:x=(ar:Int)) (har:ar<=1) :
  Calls Tryz.prog 20 #[.agg #[.slice a n c,.slice p m q,.int .i64 fuel,.bool dead],.int .i64 x] w fun e w'=>e=.returned (.int .i64 ((2+ar*A:Nat):Int))/\Below w.heap.size w w':=by
 have hm1:x*(A:Int)=((ar*A:Nat):Int):=by rw [hx];simp
 have hm2:ar*A<=8192:=by
  have:ar*A<=1*A:=Nat.mul_le_mul_right _ har
  omega
 have e1:IntKind.i64.wrap (x*(A:Int))=((ar*A:Nat):Int):=by rw [IntKind.wrap_i64,hm1];omega
 have e2:IntKind.i64.wrap (2+((ar*A:Nat):Int))=((2+ar*A:Nat):Int):=by rw [IntKind.wrap_i64];omega
 have HE:Hid (2+((ar*A:Nat):Int)=((2+ar*A:Nat):Int)):=by show _=_;omega
 obtain ⟨z,hz⟩:∃z:Int,z=((ar*A:Nat):Int):=⟨_,rfl⟩
 obtain ⟨y,hy⟩:∃y:Int,y=((2+ar*A:Nat):Int):=⟨_,rfl⟩
 rw [<- hz] at e1 e2
 rw [<- hy] at e2 ⊢
 clear hm1 hm2 hx HE hz hy
 have HA:Hid (A=(n / 64-2) / 2):=hA
 clear hA
 go_enter Tryz.func20,Tryz.ntmps20
 go_wp2_with fail
 refine (areaSectors_any a p n c m q fuel dead A _ hn h16 HA.out).mono ?_
 rintro e w1 ⟨rfl,hb1⟩
 have HX:Hid (Below w.heap.size w w1):=(below_alloc _ _).trans (hb1.mono (by simp))
 clear hb1
 go_wp2
 go_ret
 exact ⟨rfl,HX.out⟩

def supAt (f:Nat->Int) (j:Int):Bool:=goodB (getN f 0 4) (getN f 6 1) (getN f 8 4) && (getN f 0 4 % 2 == j) && sameB f (superF (getN f 0 4) (getN f 6 1) (getN f 8 4))
def supV (f:Nat->Int) (j:Int):Value:=if supAt f j=true then .agg #[.bool true,.int .i64 (getN f 0 4),.int .i64 (getN f 6 1),.int .i64 (getN f 8 4)] else .agg #[.bool false,.int .i64 0,.int .i64 0,.int .i64 0]

set_option maxHeartbeats 4000000 in
theorem readSuperAt_any (a p:Option Addr) (n c m q:Nat) (d S:Nat->Int) (L:Nat->Nat) (F:Nat->Nat->Int) (fuel:Int) (dead:Bool) (s:Nat) (w:World) (ha:Rd .u8 w a n d) (hp:RdP w p m S L F) (hv:VD n m S L fuel) (hs:s<n / 64) (hn:n<=1048576) (hnc:n<=c) (hcm:c<=9223372036854775807) (hm:m<=1048576) (hr:∀i,i<64->0<=secF d S F m s i/\secF d S F m s i<256) :
  Calls Tryz.prog 161 #[.agg #[.slice a n c,.slice p m q,.int .i64 fuel,.bool dead],.int .i64 s] w fun e w'=>e=.returned (supV (secF d S F m s) s)/\Below w.heap.size w w':=by
 have HA:Hid (Rd .u8 w a n d):=ha
 have HP:Hid (RdP w p m S L F):=hp
 have HV:Hid (VD n m S L fuel):=hv
 have HR:Hid (∀i,i<64->0<=secF d S F m s i/\secF d S F m s i<256):=hr
 have HE2:Hid (∀o1 o2,((w.alloc o1).alloc o2).heap.size=w.heap.size+2):=fun _ _=>by simp
 clear ha hp hv hr
 go_enter Tryz.func161,Tryz.ntmps161
 go_wp2_with fail
 refine (loadSector_any a p n c m q d S L F fuel dead s _ (HA.out.below (((below_alloc _ _).trans ((below_alloc _ _).mono (by simp))))) (HP.out.below (((below_alloc _ _).trans ((below_alloc _ _).mono (by simp))))) HV.out hs hn hnc hcm hm).mono ?_
 rintro e w1 ⟨rfl,hb1⟩
 generalize hf:secF d S F m s=f at*
 rw [HE2.out] at hb1
 have r0:w1.cell? ⟨w.heap.size+1,0,none⟩=some (.bool false):=by rw [hb1.cell (by simp)];simp
 have r1:w1.cell? ⟨w.heap.size+1,1,none⟩=some (.int .i64 0):=by rw [hb1.cell (by simp)];simp
 have r2:w1.cell? ⟨w.heap.size+1,2,none⟩=some (.int .i64 0):=by rw [hb1.cell (by simp)];simp
 have r3:w1.cell? ⟨w.heap.size+1,3,none⟩=some (.int .i64 0):=by rw [hb1.cell (by simp)];simp
 have rf:∀o,w1.frozen? ⟨w.heap.size+1,o,none⟩=false:=fun o=>by rw [hb1.frozen (by simp)];simp
 have z1:w.heap.size+2<=w1.heap.size:=by have:=hb1.size;rw [HE2.out] at this;exact this
 have HB1:Hid (Below w.heap.size w w1):=(((below_alloc _ _).trans ((below_alloc _ _).mono (by simp)))).trans (hb1.mono (by omega))
 clear hb1 HA HP HV
 go_wp2_with (first|(with_reducible refine wpList_alloc_sec ?_)|((with_reducible refine wpList_store_sec w1.heap.size (fun _=>0) f ?_ ?_ (Sec.new w1 _) ?_);rfl;rfl))
 intro w2 hs2 ho2
 have z2:w1.heap.size+1<=w2.heap.size:=by have:=ho2.size;simp at this;omega
 have q2:∀k,k<w1.heap.size->w2.heap[k]?=w1.heap[k]?:=fun k hk=>(ho2.block k (fun y e=>by injection e with e;subst e;show w1.heap.size≠k;omega)).trans (Below.heap_alloc _ _ _ hk)
 have B2:Below w1.heap.size w1 w2:=(below_alloc _ _).trans (ho2.below (fun y e=>by injection e with e;subst e;exact Nat.le_refl _))
 have r0:w2.cell? ⟨w.heap.size+1,0,none⟩=some (.bool false):=(B2.cell (p:=⟨w.heap.size+1,0,none⟩) (by show w.heap.size+1<w1.heap.size;omega)).trans r0
 have r1:w2.cell? ⟨w.heap.size+1,1,none⟩=some (.int .i64 0):=(B2.cell (p:=⟨w.heap.size+1,1,none⟩) (by show w.heap.size+1<w1.heap.size;omega)).trans r1
 have r2:w2.cell? ⟨w.heap.size+1,2,none⟩=some (.int .i64 0):=(B2.cell (p:=⟨w.heap.size+1,2,none⟩) (by show w.heap.size+1<w1.heap.size;omega)).trans r2
 have r3:w2.cell? ⟨w.heap.size+1,3,none⟩=some (.int .i64 0):=(B2.cell (p:=⟨w.heap.size+1,3,none⟩) (by show w.heap.size+1<w1.heap.size;omega)).trans r3
 have rf:∀o,w2.frozen? ⟨w.heap.size+1,o,none⟩=false:=fun o=>(B2.frozen (p:=⟨w.heap.size+1,o,none⟩) (by show w.heap.size+1<w1.heap.size;omega)).trans (rf o)
 have rl:w.heap.size+1<w2.heap.size:=by omega
 have HR0:Hid (w2.cell? ⟨w.heap.size+1,0,none⟩=some (.bool false)/\w2.cell? ⟨w.heap.size+1,1,none⟩=some (.int .i64 0)/\w2.cell? ⟨w.heap.size+1,2,none⟩=some (.int .i64 0)/\w2.cell? ⟨w.heap.size+1,3,none⟩=some (.int .i64 0)/\∀o,w2.frozen? ⟨w.heap.size+1,o,none⟩=false):=⟨r0,r1,r2,r3,rf⟩
 have S2:Hid (Sec w2 w1.heap.size f/\Below w.heap.size w w2):=⟨hs2,HB1.out.trans (B2.mono (by omega))⟩
 clear hs2 ho2 q2 B2 r0 r1 r2 r3 rf
 go_wp2_with fail
 refine (number_any w1.heap.size 0 4 f w2 S2.out.1 HR.out (by omega) (by omega) (by omega)).mono ?_
 rintro e w3 ⟨rfl,rfl⟩
 go_wp2_with fail
 refine (number_any w1.heap.size 6 1 f w3 S2.out.1 HR.out (by omega) (by omega) (by omega)).mono ?_
 rintro e w4 ⟨rfl,rfl⟩
 go_wp2_with fail
 refine (number_any w1.heap.size 8 4 f w4 S2.out.1 HR.out (by omega) (by omega) (by omega)).mono ?_
 rintro e w2 ⟨rfl,rfl⟩
 have HSUP:Hid (supV f s=if (goodB (getN f 0 4) (getN f 6 1) (getN f 8 4) && (getN f 0 4 % 2 == (s:Int)) && sameB f (superF (getN f 0 4) (getN f 6 1) (getN f 8 4)))=true then .agg #[.bool true,.int .i64 (getN f 0 4),.int .i64 (getN f 6 1),.int .i64 (getN f 8 4)] else .agg #[.bool false,.int .i64 0,.int .i64 0,.int .i64 0]):=rfl
 have hgen:=(getN_range f 0 4 (fun i hi=>HR.out (0+i) (by omega))).1
 have HHF:Hid (secF d S F m s=f):=hf
 clear hf
 generalize getN f 0 4=gen at*
 generalize getN f 6 1=ar at*
 generalize getN f 8 4=fi at*
 obtain ⟨W,hW⟩:∃W,W=w2.alloc (.cells #[.int .i64 gen,.int .i64 ar,.int .i64 fi] 27):=⟨_,rfl⟩
 have HRES:Hid (∀w3:World,Below W.heap.size W w3->(w3.cell? ⟨w2.heap.size,0,none⟩=some (.int .i64 gen)/\w3.cell? ⟨w2.heap.size,1,none⟩=some (.int .i64 ar)/\w3.cell? ⟨w2.heap.size,2,none⟩=some (.int .i64 fi))/\(w3.cell? ⟨w.heap.size+1,0,none⟩=some (.bool false)/\w3.cell? ⟨w.heap.size+1,1,none⟩=some (.int .i64 0)/\w3.cell? ⟨w.heap.size+1,2,none⟩=some (.int .i64 0)/\w3.cell? ⟨w.heap.size+1,3,none⟩=some (.int .i64 0)/\(∀o,w3.frozen? ⟨w.heap.size+1,o,none⟩=false)/\w.heap.size+1<w3.heap.size)/\Sec w3 w1.heap.size f/\Below w.heap.size w w3):=by
  intro w3 hb
  rw [hW,World.size_alloc] at hb
  have hb' : Below w2.heap.size w2 w3:=(below_alloc _ _).trans (hb.mono (by omega))
  have hs3:=hb'.size
  obtain ⟨r0,r1,r2,r3,rf⟩:=HR0.out
  refine ⟨⟨?_,?_,?_⟩,⟨(hb'.cell (p:=⟨w.heap.size+1,0,none⟩) rl).trans r0,(hb'.cell (p:=⟨w.heap.size+1,1,none⟩) rl).trans r1,(hb'.cell (p:=⟨w.heap.size+1,2,none⟩) rl).trans r2,(hb'.cell (p:=⟨w.heap.size+1,3,none⟩) rl).trans r3,fun o=>(hb'.frozen (p:=⟨w.heap.size+1,o,none⟩) rl).trans (rf o),by omega⟩,S2.out.1.below hb',S2.out.2.trans (hb'.mono S2.out.2.size)⟩
  ·rw [hb.cell (by simp)];simp
  ·rw [hb.cell (by simp)];simp
  ·rw [hb.cell (by simp)];simp
 have HDR:Hid (∀w3:World,Below W.drew.heap.size W.drew w3->Below W.heap.size W w3):=fun w3 hb=>(Below.refl _ _).drew.trans hb
 obtain ⟨⟨x0,x1,x2⟩,_⟩:=HRES.out W (Below.refl _ _)
 have HW:Hid (W=w2.alloc (.cells #[.int .i64 gen,.int .i64 ar,.int .i64 fi] 27)):=hW
 clear hW
 clear HR0
 cases hg:goodB gen ar fi with
 | false=>
  rw [hg] at HSUP
  have HVS:Hid (∀W,Calls Tryz.prog 65 #[.agg #[.int .i64 gen,.int .i64 ar,.int .i64 fi]] W fun e w'=>e=.returned (.bool false)/\Below W.heap.size W w'):=fun W=>by have:=validSuper_any gen ar fi W;rw [hg] at this;exact this
  clear hg
  go_wp2
  rw [<- HW.out]
  refine wp_region_late (S:=(fun w'=>w'.cell? ⟨w2.heap.size,0,none⟩=some (.int .i64 gen)/\w'.cell? ⟨w2.heap.size,1,none⟩=some (.int .i64 ar)/\w'.cell? ⟨w2.heap.size,2,none⟩=some (.int .i64 fi))) 15 (by kernel_rfl) ?_ (fun hHeld=>?_)
  ·((try dsimp only);go_keep)
  refine tk 0 .zero (v:=?_) ?_ ?_
  rotate_left
  ·(intro w h;(try dsimp only at h);go_simp) <;> with_reducible rfl
  simp only [tkp]
  refine tk1 1 (.succ .zero) (fun K hK=>?_)
  (refine step_validSuper (by rfl) 14 (by rfl) (.agg #[.int .i64 gen,.int .i64 ar,.int .i64 fi]) (by rfl) ?_;refine (HVS.out W.drew).mono ?_;rintro e w3 ⟨rfl,hb3⟩;refine ⟨_,rfl,?_⟩;obtain ⟨⟨k0,k1,k2⟩,kr⟩:=HRES.out w3 (HDR.out w3 hb3))
  refine hK.out _ _ ?_ (fun hG=>?_)
  ·(intro _;(try dsimp only);go_keep)
  clear hK K
  replace hHeld:=hG (by decide)
  clear hG
  try simp only [tkp]
  refine tk 2 (.succ (.succ .zero)) (v:=?_) ?_ ?_
  rotate_left
  ·(intro w h;(try dsimp only at h);go_simp) <;> with_reducible rfl
  simp only [tkp]
  refine tk 3 (.succ (.succ (.succ .zero))) (v:=?_) ?_ ?_
  rotate_left
  ·(intro w h;(try dsimp only at h);go_simp) <;> with_reducible rfl
  simp only [tkp]
  refine late_skip 4 (.succ (.succ (.succ (.succ .zero)))) (by kernel_rfl) (by kernel_rfl) (by kernel_rfl) (by kernel_rfl) (fun _ _ _ h=>h) (by rfl) (by assumption) ?_
  simp only [tkp]
  refine late_skip 5 (.s5 .zero) (by kernel_rfl) (by kernel_rfl) (by kernel_rfl) (by kernel_rfl) (fun _ _ _ h=>h) (by rfl) (by assumption) ?_
  simp only [tkp]
  refine late_skip 6 (.s5 (.succ .zero)) (by kernel_rfl) (by kernel_rfl) (by kernel_rfl) (by kernel_rfl) (fun _ _ _ h=>h) (by rfl) (by assumption) ?_
  simp only [tkp]
  refine late_skip 7 (.s5 (.succ (.succ .zero))) (by kernel_rfl) (by kernel_rfl) (by kernel_rfl) (by kernel_rfl) (fun _ _ _ h=>h) (by rfl) (by assumption) ?_
  simp only [tkp]
  refine late_skip 8 (.s5 (.succ (.succ (.succ .zero)))) (by kernel_rfl) (by kernel_rfl) (by kernel_rfl) (by kernel_rfl) (fun _ _ _ h=>h) (by rfl) (by assumption) ?_
  simp only [tkp]
  refine tk 9 (.s5 (.succ (.succ (.succ (.succ .zero))))) (v:=?_) ?_ ?_
  rotate_left
  ·(intro w h;(try dsimp only at h);go_simp) <;> with_reducible rfl
  simp only [tkp]
  refine tk 10 (.s5 (.s5 .zero)) (v:=?_) ?_ ?_
  rotate_left
  ·(intro w h;(try dsimp only at h);go_simp) <;> with_reducible rfl
  simp only [tkp]
  refine late_skip 11 (.s5 (.s5 (.succ .zero))) (by kernel_rfl) (by kernel_rfl) (by kernel_rfl) (by kernel_rfl) (fun _ _ _ h=>h) (by rfl) (by assumption) ?_
  simp only [tkp]
  refine late_skip 12 (.s5 (.s5 (.succ (.succ .zero)))) (by kernel_rfl) (by kernel_rfl) (by kernel_rfl) (by kernel_rfl) (fun _ _ _ h=>h) (by rfl) (by assumption) ?_
  simp only [tkp]
  refine late_skip 13 (.s5 (.s5 (.succ (.succ (.succ .zero))))) (by kernel_rfl) (by kernel_rfl) (by kernel_rfl) (by kernel_rfl) (fun _ _ _ h=>h) (by rfl) (by assumption) ?_
  simp only [tkp]
  refine late_skip 14 (.s5 (.s5 (.succ (.succ (.succ (.succ .zero)))))) (by kernel_rfl) (by kernel_rfl) (by kernel_rfl) (by kernel_rfl) (fun _ _ _ h=>h) (by rfl) (by assumption) ?_
  simp only [tkp]
  refine tk1 15 (.s5 (.s5 (.s5 .zero))) (fun K hK=>?_)
  go_simp
  refine hK.out _ _ ?_ (fun hG=>?_)
  ·(intro hne;exact absurd rfl hne)
  clear hK K hG
  refine wpLate_done (by kernel_rfl) ?_ _
  obtain ⟨⟨r0,r1,r2,r3,rf,rl3⟩,_,rb⟩:=kr
  have HB3:Hid (Below w.heap.size w w3):=rb
  clear hb3 rb k0 k1 k2
  go_wp2
  refine bodyPost_ret (v:=.agg #[.bool false,.int .i64 0,.int .i64 0,.int .i64 0]) (by simp [results,Tryz.results161,go_sem,r0,r1,r2,r3]) rfl ⟨?_,?_⟩
  ·rw [HHF.out,HSUP.out];rfl
  ·exact (((HB3.out.setCell (by simp) _).setCell (by simp) _).setCell (by simp) _).setCell (by simp) _
 | true=>
  rw [hg] at HSUP
  have HVS:Hid (∀W,Calls Tryz.prog 65 #[.agg #[.int .i64 gen,.int .i64 ar,.int .i64 fi]] W fun e w'=>e=.returned (.bool true)/\Below W.heap.size W w'):=fun W=>by have:=validSuper_any gen ar fi W;rw [hg] at this;exact this
  clear hg
  cases hj:(gen % 2 == (s:Int)) with
  | false=>
   rw [hj] at HSUP
   have hj' : (gen.tmod 2 != (s:Int))=true:=by rw [Int.tmod_eq_emod_of_nonneg hgen];simp [bne,hj]
   clear hj
   go_wp2
   rw [<- HW.out]
   refine wp_region_late (S:=(fun w'=>w'.cell? ⟨w2.heap.size,0,none⟩=some (.int .i64 gen)/\w'.cell? ⟨w2.heap.size,1,none⟩=some (.int .i64 ar)/\w'.cell? ⟨w2.heap.size,2,none⟩=some (.int .i64 fi))) 15 (by kernel_rfl) ?_ (fun hHeld=>?_)
   ·((try dsimp only);go_keep)
   refine tk 0 .zero (v:=?_) ?_ ?_
   rotate_left
   ·(intro w h;(try dsimp only at h);go_simp) <;> with_reducible rfl
   simp only [tkp]
   refine tk1 1 (.succ .zero) (fun K hK=>?_)
   (refine step_validSuper (by rfl) 14 (by rfl) (.agg #[.int .i64 gen,.int .i64 ar,.int .i64 fi]) (by rfl) ?_;refine (HVS.out W.drew).mono ?_;rintro e w3 ⟨rfl,hb3⟩;refine ⟨_,rfl,?_⟩;obtain ⟨⟨k0,k1,k2⟩,kr⟩:=HRES.out w3 (HDR.out w3 hb3))
   refine hK.out _ _ ?_ (fun hG=>?_)
   ·(intro _;(try dsimp only);go_keep)
   clear hK K
   replace hHeld:=hG (by decide)
   clear hG
   try simp only [tkp]
   refine tk 2 (.succ (.succ .zero)) (v:=?_) ?_ ?_
   rotate_left
   ·(intro w h;(try dsimp only at h);go_simp) <;> with_reducible rfl
   simp only [tkp]
   refine tk 3 (.succ (.succ (.succ .zero))) (v:=?_) ?_ ?_
   rotate_left
   ·(intro w h;(try dsimp only at h);go_simp) <;> with_reducible rfl
   simp only [tkp]
   refine tk 4 (.succ (.succ (.succ (.succ .zero)))) (v:=?_) ?_ ?_
   rotate_left
   ·(intro w h;(try dsimp only at h);go_simp) <;> with_reducible rfl
   simp only [tkp]
   refine tk 5 (.s5 .zero) (v:=?_) ?_ ?_
   rotate_left
   ·(intro w h;(try dsimp only at h);go_simp) <;> with_reducible rfl
   simp only [tkp]
   refine tk 6 (.s5 (.succ .zero)) (v:=?_) ?_ ?_
   rotate_left
   ·(intro w h;(try dsimp only at h);go_simp) <;> with_reducible rfl
   simp only [tkp]
   refine tk 7 (.s5 (.succ (.succ .zero))) (v:=?_) ?_ ?_
   rotate_left
   ·(intro w h;(try dsimp only at h);go_simp) <;> with_reducible rfl
   simp only [tkp]
   refine tk 8 (.s5 (.succ (.succ (.succ .zero)))) (v:=?_) ?_ ?_
   rotate_left
   ·(intro w h;(try dsimp only at h);go_simp) <;> with_reducible rfl
   simp only [tkp]
   refine tk 9 (.s5 (.succ (.succ (.succ (.succ .zero))))) (v:=?_) ?_ ?_
   rotate_left
   ·(intro w h;(try dsimp only at h);go_simp) <;> with_reducible rfl
   simp only [tkp]
   refine tk 10 (.s5 (.s5 .zero)) (v:=?_) ?_ ?_
   rotate_left
   ·(intro w h;(try dsimp only at h);go_simp) <;> with_reducible rfl
   simp only [tkp]
   refine late_skip 11 (.s5 (.s5 (.succ .zero))) (by kernel_rfl) (by kernel_rfl) (by kernel_rfl) (by kernel_rfl) (fun _ _ _ h=>h) (by rfl) (by assumption) ?_
   simp only [tkp]
   refine late_skip 12 (.s5 (.s5 (.succ (.succ .zero)))) (by kernel_rfl) (by kernel_rfl) (by kernel_rfl) (by kernel_rfl) (fun _ _ _ h=>h) (by rfl) (by assumption) ?_
   simp only [tkp]
   refine late_skip 13 (.s5 (.s5 (.succ (.succ (.succ .zero))))) (by kernel_rfl) (by kernel_rfl) (by kernel_rfl) (by kernel_rfl) (fun _ _ _ h=>h) (by rfl) (by assumption) ?_
   simp only [tkp]
   refine late_skip 14 (.s5 (.s5 (.succ (.succ (.succ (.succ .zero)))))) (by kernel_rfl) (by kernel_rfl) (by kernel_rfl) (by kernel_rfl) (fun _ _ _ h=>h) (by rfl) (by assumption) ?_
   simp only [tkp]
   refine tk1 15 (.s5 (.s5 (.s5 .zero))) (fun K hK=>?_)
   go_simp
   refine hK.out _ _ ?_ (fun hG=>?_)
   ·(intro hne;exact absurd rfl hne)
   clear hK K hG
   refine wpLate_done (by kernel_rfl) ?_ _
   obtain ⟨⟨r0,r1,r2,r3,rf,rl3⟩,_,rb⟩:=kr
   have HB3:Hid (Below w.heap.size w w3):=rb
   clear hb3 rb k0 k1 k2
   go_wp2
   refine bodyPost_ret (v:=.agg #[.bool false,.int .i64 0,.int .i64 0,.int .i64 0]) (by simp [results,Tryz.results161,go_sem,r0,r1,r2,r3]) rfl ⟨?_,?_⟩
   ·rw [HHF.out,HSUP.out];rfl
   ·exact (((HB3.out.setCell (by simp) _).setCell (by simp) _).setCell (by simp) _).setCell (by simp) _
  | true=>
   rw [hj] at HSUP
   have hj' : (gen.tmod 2 != (s:Int))=false:=by rw [Int.tmod_eq_emod_of_nonneg hgen];simp [bne,hj]
   clear hj
   have XS:Sec W.drew w1.heap.size f:=(HRES.out W (Below.refl _ _)).2.2.1
   have HD2:Hid (∀w3 w4:World,Below W.heap.size W w3->Below w3.heap.size w3 w4->Below W.heap.size W w4):=fun w3 w4 h1 h2=>h1.trans (h2.mono h1.size)
   cases hsame:sameB f (superF gen ar fi) with
   | false=>
    rw [hsame] at HSUP
    have hEq:∀w,(Op.equalIn 10000 192 (.agg (secA f)) (.agg (secA (superF gen ar fi)))).run Tryz.prog w=.ok false w:=fun w=>by rw [secEq,hsame]
    clear hsame
    go_wp2
    rw [<- HW.out]
    refine wp_region_late (S:=(fun w'=>(w'.cell? ⟨w2.heap.size,0,none⟩=some (.int .i64 gen)/\w'.cell? ⟨w2.heap.size,1,none⟩=some (.int .i64 ar)/\w'.cell? ⟨w2.heap.size,2,none⟩=some (.int .i64 fi))/\Sec w' w1.heap.size f)) 15 (by kernel_rfl) ?_ (fun hHeld=>?_)
    ·((try dsimp only);first|exact ⟨⟨x0,x1,x2⟩,XS⟩|exact ⟨⟨k0',k1',k2'⟩,ks'⟩|exact ⟨⟨k0,k1,k2⟩,ks⟩)
    refine tk 0 .zero (v:=?_) ?_ ?_
    rotate_left
    ·(intro w h;(try dsimp only at h);go_simp) <;> with_reducible rfl
    simp only [tkp]
    refine tk1 1 (.succ .zero) (fun K hK=>?_)
    (refine step_validSuper (by rfl) 14 (by rfl) (.agg #[.int .i64 gen,.int .i64 ar,.int .i64 fi]) (by rfl) ?_;refine (HVS.out W.drew).mono ?_;rintro e w3 ⟨rfl,hb3⟩;refine ⟨_,rfl,?_⟩;obtain ⟨⟨k0,k1,k2⟩,kr,ks,kb⟩:=HRES.out w3 (HDR.out w3 hb3))
    refine hK.out _ _ ?_ (fun hG=>?_)
    ·(intro _;(try dsimp only);first|exact ⟨⟨x0,x1,x2⟩,XS⟩|exact ⟨⟨k0',k1',k2'⟩,ks'⟩|exact ⟨⟨k0,k1,k2⟩,ks⟩)
    clear hK K
    replace hHeld:=hG (by decide)
    clear hG
    try simp only [tkp]
    refine tk 2 (.succ (.succ .zero)) (v:=?_) ?_ ?_
    rotate_left
    ·(intro w h;(try dsimp only at h);go_simp) <;> with_reducible rfl
    simp only [tkp]
    refine tk 3 (.succ (.succ (.succ .zero))) (v:=?_) ?_ ?_
    rotate_left
    ·(intro w h;(try dsimp only at h);go_simp) <;> with_reducible rfl
    simp only [tkp]
    refine tk 4 (.succ (.succ (.succ (.succ .zero)))) (v:=?_) ?_ ?_
    rotate_left
    ·(intro w h;(try dsimp only at h);go_simp) <;> with_reducible rfl
    simp only [tkp]
    refine tk 5 (.s5 .zero) (v:=?_) ?_ ?_
    rotate_left
    ·(intro w h;(try dsimp only at h);go_simp) <;> with_reducible rfl
    simp only [tkp]
    refine tk 6 (.s5 (.succ .zero)) (v:=?_) ?_ ?_
    rotate_left
    ·(intro w h;(try dsimp only at h);go_simp) <;> with_reducible rfl
    simp only [tkp]
    refine tk 7 (.s5 (.succ (.succ .zero))) (v:=?_) ?_ ?_
    rotate_left
    ·(intro w h;(try dsimp only at h);go_simp) <;> with_reducible rfl
    simp only [tkp]
    refine tk 8 (.s5 (.succ (.succ (.succ .zero)))) (v:=?_) ?_ ?_
    rotate_left
    ·(intro w h;(try dsimp only at h);go_simp) <;> with_reducible rfl
    simp only [tkp]
    refine tk 9 (.s5 (.succ (.succ (.succ (.succ .zero))))) (v:=?_) ?_ ?_
    rotate_left
    ·(intro w h;(try dsimp only at h);go_simp) <;> with_reducible rfl
    simp only [tkp]
    refine tk 10 (.s5 (.s5 .zero)) (v:=?_) ?_ ?_
    rotate_left
    ·(intro w h;(try dsimp only at h);go_simp) <;> with_reducible rfl
    simp only [tkp]
    refine late_take 11 (.s5 (.s5 (.succ .zero))) (v:=.agg (secA f)) (by kernel_rfl) (by kernel_rfl) (by kernel_rfl) (by kernel_rfl) (fun _ _ _ h=>h) (by rfl) ?_ (by assumption) ?_
    ·(intro w hSw;(try dsimp only at hSw);exact exec_load_sec rfl rfl hSw.2)
    simp only [tkp]
    refine tk 12 (.s5 (.s5 (.succ (.succ .zero)))) (v:=?_) ?_ ?_
    rotate_left
    ·(intro w h;(try dsimp only at h);go_simp) <;> with_reducible rfl
    simp only [tkp]
    refine tk1 13 (.s5 (.s5 (.succ (.succ (.succ .zero))))) (fun K hK=>?_)
    (refine step_superSector (by rfl) 26 (by rfl) (.agg #[.int .i64 gen,.int .i64 ar,.int .i64 fi]) (by rfl) ?_;refine (superSector_any gen ar fi w3).mono ?_;rintro e w4 ⟨rfl,hb4⟩;refine ⟨_,rfl,?_⟩;obtain ⟨⟨k0',k1',k2'⟩,kr',ks',kb'⟩:=HRES.out w4 (HD2.out w3 w4 (HDR.out w3 hb3) hb4))
    refine hK.out _ _ ?_ (fun hG=>?_)
    ·(intro _;(try dsimp only);first|exact ⟨⟨x0,x1,x2⟩,XS⟩|exact ⟨⟨k0',k1',k2'⟩,ks'⟩|exact ⟨⟨k0,k1,k2⟩,ks⟩)
    clear hK K
    replace hHeld:=hG (by decide)
    clear hG
    try simp only [tkp]
    refine late_take 14 (.s5 (.s5 (.succ (.succ (.succ (.succ .zero)))))) (v:=?_) (by kernel_rfl) (by kernel_rfl) (by kernel_rfl) (by kernel_rfl) (fun _ _ _ h=>h) (by rfl) ?_ (by assumption) ?_
    rotate_left
    ·(intro w h;(try dsimp only at h);go_simp) <;> with_reducible rfl
    simp only [tkp]
    refine tk1 15 (.s5 (.s5 (.s5 .zero))) (fun K hK=>?_)
    go_simp
    refine hK.out _ _ ?_ (fun hG=>?_)
    ·(intro hne;exact absurd rfl hne)
    clear hK K hG
    refine wpLate_done (by kernel_rfl) ?_ _
    obtain ⟨r0,r1,r2,r3,rf,rl3⟩:=kr'
    have HB3:Hid (Below w.heap.size w w4):=kb'
    clear hb3 hb4 kb' kb ks ks' XS kr k0 k1 k2 k0' k1' k2' hEq
    go_wp2
    refine bodyPost_ret (v:=.agg #[.bool false,.int .i64 0,.int .i64 0,.int .i64 0]) (by simp [results,Tryz.results161,go_sem,r0,r1,r2,r3]) rfl ⟨?_,?_⟩
    ·rw [HHF.out,HSUP.out];rfl
    ·exact (((HB3.out.setCell (by simp) _).setCell (by simp) _).setCell (by simp) _).setCell (by simp) _
   | true=>
    rw [hsame] at HSUP
    have hEq:∀w,(Op.equalIn 10000 192 (.agg (secA f)) (.agg (secA (superF gen ar fi)))).run Tryz.prog w=.ok true w:=fun w=>by rw [secEq,hsame]
    clear hsame
    go_wp2
    rw [<- HW.out]
    refine wp_region_late (S:=(fun w'=>(w'.cell? ⟨w2.heap.size,0,none⟩=some (.int .i64 gen)/\w'.cell? ⟨w2.heap.size,1,none⟩=some (.int .i64 ar)/\w'.cell? ⟨w2.heap.size,2,none⟩=some (.int .i64 fi))/\Sec w' w1.heap.size f)) 15 (by kernel_rfl) ?_ (fun hHeld=>?_)
    ·((try dsimp only);first|exact ⟨⟨x0,x1,x2⟩,XS⟩|exact ⟨⟨k0',k1',k2'⟩,ks'⟩|exact ⟨⟨k0,k1,k2⟩,ks⟩)
    refine tk 0 .zero (v:=?_) ?_ ?_
    rotate_left
    ·(intro w h;(try dsimp only at h);go_simp) <;> with_reducible rfl
    simp only [tkp]
    refine tk1 1 (.succ .zero) (fun K hK=>?_)
    (refine step_validSuper (by rfl) 14 (by rfl) (.agg #[.int .i64 gen,.int .i64 ar,.int .i64 fi]) (by rfl) ?_;refine (HVS.out W.drew).mono ?_;rintro e w3 ⟨rfl,hb3⟩;refine ⟨_,rfl,?_⟩;obtain ⟨⟨k0,k1,k2⟩,kr,ks,kb⟩:=HRES.out w3 (HDR.out w3 hb3))
    refine hK.out _ _ ?_ (fun hG=>?_)
    ·(intro _;(try dsimp only);first|exact ⟨⟨x0,x1,x2⟩,XS⟩|exact ⟨⟨k0',k1',k2'⟩,ks'⟩|exact ⟨⟨k0,k1,k2⟩,ks⟩)
    clear hK K
    replace hHeld:=hG (by decide)
    clear hG
    try simp only [tkp]
    refine tk 2 (.succ (.succ .zero)) (v:=?_) ?_ ?_
    rotate_left
    ·(intro w h;(try dsimp only at h);go_simp) <;> with_reducible rfl
    simp only [tkp]
    refine tk 3 (.succ (.succ (.succ .zero))) (v:=?_) ?_ ?_
    rotate_left
    ·(intro w h;(try dsimp only at h);go_simp) <;> with_reducible rfl
    simp only [tkp]
    refine tk 4 (.succ (.succ (.succ (.succ .zero)))) (v:=?_) ?_ ?_
    rotate_left
    ·(intro w h;(try dsimp only at h);go_simp) <;> with_reducible rfl
    simp only [tkp]
    refine tk 5 (.s5 .zero) (v:=?_) ?_ ?_
    rotate_left
    ·(intro w h;(try dsimp only at h);go_simp) <;> with_reducible rfl
    simp only [tkp]
    refine tk 6 (.s5 (.succ .zero)) (v:=?_) ?_ ?_
    rotate_left
    ·(intro w h;(try dsimp only at h);go_simp) <;> with_reducible rfl
    simp only [tkp]
    refine tk 7 (.s5 (.succ (.succ .zero))) (v:=?_) ?_ ?_
    rotate_left
    ·(intro w h;(try dsimp only at h);go_simp) <;> with_reducible rfl
    simp only [tkp]
    refine tk 8 (.s5 (.succ (.succ (.succ .zero)))) (v:=?_) ?_ ?_
    rotate_left
    ·(intro w h;(try dsimp only at h);go_simp) <;> with_reducible rfl
    simp only [tkp]
    refine tk 9 (.s5 (.succ (.succ (.succ (.succ .zero))))) (v:=?_) ?_ ?_
    rotate_left
    ·(intro w h;(try dsimp only at h);go_simp) <;> with_reducible rfl
    simp only [tkp]
    refine tk 10 (.s5 (.s5 .zero)) (v:=?_) ?_ ?_
    rotate_left
    ·(intro w h;(try dsimp only at h);go_simp) <;> with_reducible rfl
    simp only [tkp]
    refine late_take 11 (.s5 (.s5 (.succ .zero))) (v:=.agg (secA f)) (by kernel_rfl) (by kernel_rfl) (by kernel_rfl) (by kernel_rfl) (fun _ _ _ h=>h) (by rfl) ?_ (by assumption) ?_
    ·(intro w hSw;(try dsimp only at hSw);exact exec_load_sec rfl rfl hSw.2)
    simp only [tkp]
    refine tk 12 (.s5 (.s5 (.succ (.succ .zero)))) (v:=?_) ?_ ?_
    rotate_left
    ·(intro w h;(try dsimp only at h);go_simp) <;> with_reducible rfl
    simp only [tkp]
    refine tk1 13 (.s5 (.s5 (.succ (.succ (.succ .zero))))) (fun K hK=>?_)
    (refine step_superSector (by rfl) 26 (by rfl) (.agg #[.int .i64 gen,.int .i64 ar,.int .i64 fi]) (by rfl) ?_;refine (superSector_any gen ar fi w3).mono ?_;rintro e w4 ⟨rfl,hb4⟩;refine ⟨_,rfl,?_⟩;obtain ⟨⟨k0',k1',k2'⟩,kr',ks',kb'⟩:=HRES.out w4 (HD2.out w3 w4 (HDR.out w3 hb3) hb4))
    refine hK.out _ _ ?_ (fun hG=>?_)
    ·(intro _;(try dsimp only);first|exact ⟨⟨x0,x1,x2⟩,XS⟩|exact ⟨⟨k0',k1',k2'⟩,ks'⟩|exact ⟨⟨k0,k1,k2⟩,ks⟩)
    clear hK K
    replace hHeld:=hG (by decide)
    clear hG
    try simp only [tkp]
    refine late_take 14 (.s5 (.s5 (.succ (.succ (.succ (.succ .zero)))))) (v:=?_) (by kernel_rfl) (by kernel_rfl) (by kernel_rfl) (by kernel_rfl) (fun _ _ _ h=>h) (by rfl) ?_ (by assumption) ?_
    rotate_left
    ·(intro w h;(try dsimp only at h);go_simp) <;> with_reducible rfl
    simp only [tkp]
    refine tk1 15 (.s5 (.s5 (.s5 .zero))) (fun K hK=>?_)
    go_simp
    refine hK.out _ _ ?_ (fun hG=>?_)
    ·(intro hne;exact absurd rfl hne)
    clear hK K hG
    refine wpLate_done (by kernel_rfl) ?_ _
    obtain ⟨r0,r1,r2,r3,rf,rl3⟩:=kr'
    have HB3:Hid (Below w.heap.size w w4):=kb'
    clear hb3 hb4 kb' kb ks ks' XS kr k0 k1 k2 hEq
    go_wp2
    refine bodyPost_ret (v:=.agg #[.bool true,.int .i64 gen,.int .i64 ar,.int .i64 fi]) (by simp [results,Tryz.results161,go_sem,r0,r1,r2,r3]) rfl ⟨?_,?_⟩
    ·rw [HHF.out,HSUP.out];rfl
    ·exact (((HB3.out.setCell (by simp) _).setCell (by simp) _).setCell (by simp) _).setCell (by simp) _
end Go.Proofs.YtbmffmifemebmaaGreatDoor
