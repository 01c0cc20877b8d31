import Derived.Test.YtbmffmifemebmaaGreatDoorNz3
import Derived.Test.YtbmffmifemebmaaGreatDoorNz5
import Derived.Laws.CopyRow
import Derived.Deep.RegionHeld3
import Derived.Test.YtbmffmifemebmaaGreatDoorNz4
import Derived.Test.YtbmffmifemebmaaGreatDoorNz2
set_option linter.unusedVariables false
set_option maxRecDepth 100000
namespace Go.Proofs.YtbmffmifemebmaaGreatDoor
open Go.RowKit Go.Deep

set_option maxHeartbeats 400000 in
theorem eqStr_nil (a a' : Option Addr) (c c' : Nat) (w:World) :
  Calls Tryz.prog 279 #[.slice a 0 c,.slice a' 0 c'] w fun e w'=>e=.returned (.bool true)/\w'=w:=by
 go_enter Tryz.func279,Tryz.ntmps279
 go_wp2
 go_rounds 1
 go_ret
 exact ⟨rfl,rfl⟩

set_option maxHeartbeats 400000 in
theorem eqI64_nil (a a' : Option Addr) (c c' : Nat) (w:World) :
  Calls Tryz.prog 280 #[.slice a 0 c,.slice a' 0 c'] w fun e w'=>e=.returned (.bool true)/\w'=w:=by
 go_enter Tryz.func280,Tryz.ntmps280
 go_wp2
 go_rounds 1
 go_ret
 exact ⟨rfl,rfl⟩

set_option maxHeartbeats 400000 in
theorem markStr_nil (a:Option Addr) (c:Nat) (k:Int) (w:World) :
  Calls Tryz.prog 221 #[.slice a 0 c,.int .i64 k] w fun e w'=>e=.returned (.int .i64 k)/\w'=w:=by
 go_enter Tryz.func221,Tryz.ntmps221
 go_wp2
 go_rounds 1
 go_ret
 exact ⟨rfl,rfl⟩

set_option maxHeartbeats 400000 in
theorem markI64_nil (a:Option Addr) (c:Nat) (k:Int) (w:World) :
  Calls Tryz.prog 222 #[.slice a 0 c,.int .i64 k] w fun e w'=>e=.returned (.int .i64 k)/\w'=w:=by
 go_enter Tryz.func222,Tryz.ntmps222
 go_wp2
 go_rounds 1
 go_ret
 exact ⟨rfl,rfl⟩

set_option maxHeartbeats 400000 in
theorem heldStr_nil (a:Option Addr) (c:Nat) (k:Int) (w:World) :
  Calls Tryz.prog 223 #[.slice a 0 c,.int .i64 k] w fun e w'=>e=.returned (.int .i64 k)/\w'=w:=by
 go_enter Tryz.func223,Tryz.ntmps223
 go_wp2
 go_rounds 1
 go_ret
 exact ⟨rfl,rfl⟩

set_option maxHeartbeats 400000 in
theorem heldI64_nil (a:Option Addr) (c:Nat) (k:Int) (w:World) :
  Calls Tryz.prog 224 #[.slice a 0 c,.int .i64 k] w fun e w'=>e=.returned (.int .i64 k)/\w'=w:=by
 go_enter Tryz.func224,Tryz.ntmps224
 go_wp2
 go_rounds 1
 go_ret
 exact ⟨rfl,rfl⟩

set_option maxHeartbeats 400000 in
theorem eqLeaf (a a' : Option Addr) (w:World) :
  Calls Tryz.prog 249 #[.agg #[.bool true,.slice a 0 0,.slice none 0 0,.int .i64 0],.agg #[.bool true,.slice a' 0 0,.slice none 0 0,.int .i64 0]] w fun e w'=>e=.returned (.bool true)/\Below w.heap.size w w':=by
 go_enter Tryz.func249,Tryz.ntmps249
 go_wp2_with fail
 refine (eqStr_nil a a' 0 0 _).mono ?_
 rintro e w1 ⟨rfl,rfl⟩
 go_wp2_with fail
 refine (eqI64_nil none none 0 0 _).mono ?_
 rintro e w1 ⟨rfl,rfl⟩
 go_wp2
 go_ret
 exact ⟨rfl,(below_alloc _ _).trans ((below_alloc _ _).mono (by simp))⟩

set_option maxHeartbeats 1000000 in
theorem eqLeaves (g g' c c' : Nat) (a a' : Option Addr) (w:World) (h:rowIn w g 213 4 (leafCell a)) (h' : rowIn w g' 213 4 (leafCell a')) :
  Calls Tryz.prog 220 #[.slice (some ⟨g,0,none⟩) 1 c,.slice (some ⟨g',0,none⟩) 1 c'] w fun e w'=>e=.returned (.bool true)/\Below w.heap.size w w':=by
 have H:Hid (rowIn w g 213 4 (leafCell a)/\rowIn w g' 213 4 (leafCell a')):=⟨h,h'⟩
 clear h h'
 go_enter Tryz.func220,Tryz.ntmps220
 go_wp2
 go_loopw [5] (fun i wr=>∃k:Nat,k<=1/\i=.int .i64 k/\Below w.heap.size w wr) (fun i _=>1-(intOf i).toNat)
 case atStart=>exact ⟨0,Nat.zero_le _,rfl,Below.refl _ _⟩
 case round=>
  obtain ⟨k,hk,rfl,hb⟩:=hrel
  by_cases hlt:k<1
  ·have e:k=0:=by omega
   subst e
   obtain ⟨x0,x1,x2,x3,xf,xl⟩:=leafCells (H.out.1.of_block (hb.block _ H.out.1.lt))
   obtain ⟨y0,y1,y2,y3,yf,yl⟩:=leafCells (H.out.2.of_block (hb.block _ H.out.2.lt))
   have HB:Hid (Below w.heap.size w wr):=hb
   clear hb
   have HC:Hid (∀w1:World,Below wr.drew.heap.size wr.drew w1->(w1.cell? ⟨g,0,none⟩=some (.bool true)/\w1.cell? ⟨g,1,none⟩=some (.slice a 0 0)/\w1.cell? ⟨g,2,none⟩=some (.slice none 0 0)/\w1.cell? ⟨g,3,none⟩=some (.int .i64 0))/\w1.cell? ⟨g',0,none⟩=some (.bool true)/\w1.cell? ⟨g',1,none⟩=some (.slice a' 0 0)/\w1.cell? ⟨g',2,none⟩=some (.slice none 0 0)/\w1.cell? ⟨g',3,none⟩=some (.int .i64 0)):=fun w1 q=>
    ⟨⟨(q.cell (p:=⟨g,0,none⟩) xl).trans x0,(q.cell (p:=⟨g,1,none⟩) xl).trans x1,(q.cell (p:=⟨g,2,none⟩) xl).trans x2,(q.cell (p:=⟨g,3,none⟩) xl).trans x3⟩,(q.cell (p:=⟨g',0,none⟩) yl).trans y0,(q.cell (p:=⟨g',1,none⟩) yl).trans y1,(q.cell (p:=⟨g',2,none⟩) yl).trans y2,(q.cell (p:=⟨g',3,none⟩) yl).trans y3⟩
   go_wp2
   go_region_held3 (fun w1=>(w1.cell? ⟨g,0,none⟩=some (.bool true)/\w1.cell? ⟨g,1,none⟩=some (.slice a 0 0)/\w1.cell? ⟨g,2,none⟩=some (.slice none 0 0)/\w1.cell? ⟨g,3,none⟩=some (.int .i64 0))/\w1.cell? ⟨g',0,none⟩=some (.bool true)/\w1.cell? ⟨g',1,none⟩=some (.slice a' 0 0)/\w1.cell? ⟨g',2,none⟩=some (.slice none 0 0)/\w1.cell? ⟨g',3,none⟩=some (.int .i64 0)) (go_keep)
    (first
    | (go_at_call 249;refine (eqLeaf a a' wr.drew).mono ?_;rintro e w1 ⟨rfl,hb1⟩;obtain ⟨⟨z0,z1,z2,z3⟩,u0,u1,u2,u3⟩:=HC.out w1 hb1))
   have HX:Hid (Below w.heap.size w w1):=HB.out.drew.trans (hb1.mono HB.out.size)
   clear hb1 z0 z1 z2 z3 u0 u1 u2 u3 HC
   go_wp2
   go_roundw
   case rel=>exact ⟨1,by omega,by go_num,HX.out⟩
   case measure=>simp [intOf]
  ·have e:k=1:=by omega
   subst e
   have HB:Hid (Below w.heap.size w wr):=hb
   clear hb
   go_wp2
   go_ret
   exact ⟨rfl,HB.out⟩

set_option maxHeartbeats 400000 in
theorem eqTree_one (g g' c c' : Nat) (a a' : Option Addr) (w:World) (h:rowIn w g 213 4 (leafCell a)) (h' : rowIn w g' 213 4 (leafCell a')) :
  Calls Tryz.prog 180 #[.agg #[.slice (some ⟨g,0,none⟩) 1 c],.agg #[.slice (some ⟨g',0,none⟩) 1 c']] w fun e w'=>e=.returned (.bool true)/\Below w.heap.size w w':=by
 have H:Hid (∀o o',rowIn ((w.alloc o).alloc o') g 213 4 (leafCell a)/\rowIn ((w.alloc o).alloc o') g' 213 4 (leafCell a')):=fun o o'=>
  have q:Below w.heap.size w ((w.alloc o).alloc o'):=(below_alloc _ _).trans ((below_alloc _ _).mono (by simp))
  ⟨h.of_block (q.block _ h.lt),h'.of_block (q.block _ h'.lt)⟩
 clear h h'
 go_enter Tryz.func180,Tryz.ntmps180
 go_wp2_with fail
 refine (eqLeaves g g' c c' a a' _ (H.out _ _).1 (H.out _ _).2).mono ?_
 rintro e w1 ⟨rfl,hb1⟩
 have HX:Hid (Below w.heap.size w w1):=((below_alloc _ _).trans ((below_alloc _ _).mono (by simp))).trans (hb1.mono (by simp;omega))
 clear hb1
 go_wp2
 go_ret
 exact ⟨rfl,HX.out⟩

def markCell (a:Option Addr) (k:Int) (i:Nat):Value:=if i=0 then .bool (k % 3 == 0) else if i=1 then .slice a 0 0 else if i=2 then .slice none 0 0 else .int .i64 (k+1)
theorem markCells {w:World} {b:Nat} {a:Option Addr} {k:Int} (h:rowIn w b 213 4 (markCell a k)) :
  w.cell? ⟨b,0,none⟩=some (.bool (k % 3 == 0))/\w.cell? ⟨b,1,none⟩=some (.slice a 0 0)/\w.cell? ⟨b,2,none⟩=some (.slice none 0 0)/\w.cell? ⟨b,3,none⟩=some (.int .i64 (k+1))/\(∀o,w.frozen? ⟨b,o,none⟩=false)/\b<w.heap.size:=
 ⟨by simpa [markCell] using rowIn.cell h (i:=0) (by omega),by simpa [markCell] using rowIn.cell h (i:=1) (by omega),by simpa [markCell] using rowIn.cell h (i:=2) (by omega),by simpa [markCell] using rowIn.cell h (i:=3) (by omega),fun o=>rowIn.frozen h o,rowIn.lt h⟩


def layN (h:Nat->Int) (o L:Nat) (f:Nat->Int):Nat->Int:=fun j=>if o<=j/\j<o+L then f (j-o) else h j

def recH (seq i k:Int) (L:Nat) (f:Nat->Int):Nat->Int:=
 layN (fun j=>if j=10+1 then 49 else if j=10 then 82 else putN (putN (putN (putN (fun _=>0) 0 4 seq) 4 2 i) 6 2 k) 8 2 (L:Int) j) 12 L f
def recF (seq i k:Int) (L:Nat) (f:Nat->Int):Nat->Int:=sealF (recH seq i k L f)

theorem layN_range {h f:Nat->Int} {o L n:Nat} (hh:∀i,i<n->0<=h i/\h i<256) (hf:∀i,i<L->0<=f i/\f i<256):∀i,i<n->0<=layN h o L f i/\layN h o L f i<256:=by
 intro i hi
 unfold layN
 split
 ·exact hf _ (by omega)
 ·exact hh i hi

theorem recH_range (seq i k:Int) (L:Nat) (f:Nat->Int) (hf:∀j,j<L->0<=f j/\f j<256):∀j,j<64->0<=recH seq i k L f j/\recH seq i k L f j<256:=by
 refine layN_range (fun j hj=>?_) hf
 split
 ·omega
 ·split
  ·omega
  ·exact putN_range (putN_range (putN_range (putN_range (fun j hj=>by omega)))) j hj

theorem copy_piece (w:World) (g o L dLen dCap sCap:Nat) (ad:Option Addr) (h f:Nat->Int) (hs:Sec w g h) (hrd:Rd .u8 w ad L f) (hle:L<=dLen) (hk:o+L<=64) :
  ∃w',(Builtin.copy_ #[22,22] 3 #[.slice (some ⟨g,o,none⟩) dLen dCap,.slice ad L sCap]).run Tryz.prog w=.ok (goInt L) w'/\Sec w' g (layN h o L f)/\OnlyAt (some ⟨g,0,none⟩) w w':=by
 have hz:(secA h).size=64:=secA_size h
 have key:∀a:Addr,(∀j u,(byteRow f L)[j]?=some u->w.cell? (a.add j)=some u)->∃w',(Builtin.copy_ #[22,22] 3 #[.slice (some ⟨g,o,none⟩) dLen dCap,.slice (some a) L sCap]).run Tryz.prog w=.ok (goInt L) w'/\Sec w' g (layN h o L f)/\OnlyAt (some ⟨g,0,none⟩) w w':=by
  intro a hsrc
  have hrun:=run_copy_row (P:=Tryz.prog) w 22 22 3 5 g o dLen dCap a L sCap (secA h) 192 (byteRow f L) underBytes (by kernel_rfl) hs (by rw [byteRow_length];exact (Nat.min_eq_left hle).symm) hsrc (by rw [byteRow_length,hz];omega)
   (fun u hu=>by
    simp only [byteRow,List.mem_map] at hu
    obtain ⟨i,_,rfl⟩:=hu
    rfl)
  rw [byteRow_length] at hrun
  have e:((secA h).toList.take o++byteRow f L++(secA h).toList.drop (o+L)).toArray=secA (layN h o L f):=by
   refine secA_ofRow ?_ (fun i hi=>?_)
   ·simp [byteRow_length,hz];omega
   ·have hl:((secA h).toList.take o).length=o:=by simp [hz];omega
    rw [List.getElem?_toArray,List.append_assoc]
    unfold layN
    by_cases h1:i<o
    ·rw [List.getElem?_append_left (by omega),List.getElem?_take,if_pos h1,if_neg (by omega)]
     simpa using secA_get h i hi
    ·rw [List.getElem?_append_right (by omega),hl]
     by_cases h2:i<o+L
     ·rw [List.getElem?_append_left (by rw [byteRow_length];omega),byteRow_get _ _ _ (by omega),if_pos (by omega)]
     ·rw [List.getElem?_append_right (by rw [byteRow_length];omega),byteRow_length,List.getElem?_drop,show o+L+(i-o-L)=i by omega,if_neg (by omega)]
      simpa using secA_get h i hi
  rw [e] at hrun
  obtain ⟨q1,q2⟩:=hs.setRow (layN h o L f)
  exact ⟨_,hrun,q1,q2⟩
 rcases hrd with h0|⟨b,off,rfl,hc⟩
 ·subst h0
  have hl:layN h o 0 f=h:=by
   funext j
   unfold layN
   rw [if_neg (by omega)]
  cases ad with
  | none=>
   refine ⟨w,?_,by rw [hl];exact hs,OnlyAt.refl _ _⟩
   simp [Builtin.copy_,run_underlying underBytes,Builtin.lenOf,Builtin.firstCells,storeCells]
  | some a=>exact key a (fun j u hj=>by simp [byteRow] at hj)
 ·exact key _ (fun j u hj=>by
   have hjm:j<L:=by
    have:=(List.getElem?_eq_some_iff.1 hj).1
    rwa [byteRow_length] at this
   rw [byteRow_get f L j hjm] at hj
   injection hj with hj
   subst hj
   have e:(Addr.add ⟨b,off,none⟩ j)=⟨b,off+j,none⟩:=by
    unfold Addr.add
    by_cases h:j=0
    ·subst h;simp
    ·simp [h]
   rw [e]
   exact hc j hjm)

set_option maxHeartbeats 2000000 in
theorem recSector_any (seq i k:Int) (ad:Option Addr) (L cp:Nat) (f:Nat->Int) (w:World) (hrd:Rd .u8 w ad L f) (hf:∀j,j<L->0<=f j/\f j<256) (hL:L<=48) :
  Calls Tryz.prog 149 #[.int .i64 seq,.int .i64 i,.int .i64 k,.slice ad L cp] w fun e w'=>e=.returned (.agg (secA (recF seq i k L f)))/\Below w.heap.size w w':=by
 have HRD:Hid (Rd .u8 w ad L f):=hrd
 have HF:Hid (∀j,j<L->0<=f j/\f j<256):=hf
 clear hrd hf
 go_enter Tryz.func149,Tryz.ntmps149
 go_wp2_with fail
 rw [zeroSec]
 obtain ⟨W,hW⟩:∃W,W=(w.alloc (.cells (secA fun _=>0) 192)).alloc (.cells (secA fun _=>0) 192):=⟨_,rfl⟩
 rw [<- hW]
 have BW:Below w.heap.size w W:=by rw [hW];exact ((below_alloc _ _).alloc (by simp) _)
 have S0:Sec W (w.heap.size+1) (fun _=>0):=by
  rw [hW]
  have:=Sec.new (w.alloc (.cells (secA fun _=>0) 192)) (fun _=>0)
  simp only [World.size_alloc] at this
  exact this
 have R0:Sec W w.heap.size (fun _=>0):=by
  rw [hW]
  exact (Sec.new w (fun _=>0)).below (below_alloc _ _)
 have hz:W.heap.size=w.heap.size+1+1:=by rw [hW];simp
 have KP:Hid (∀w' : World,OnlyAt (some ⟨w.heap.size+1,0,none⟩) W w'->Sec w' w.heap.size (fun _=>0)/\Below w.heap.size w w'):=by
  intro w' ho
  refine ⟨R0.of_block (ho.block _ (fun y e=>by injection e with e;subst e;show w.heap.size+1≠w.heap.size;omega)),BW.trans (ho.below (fun y e=>by injection e with e;subst e;show w.heap.size<=w.heap.size+1;omega))⟩
 clear hW BW hz R0
 refine (putNumber_any (w.heap.size+1) 0 4 seq _ W S0 (by omega) (by omega)).mono ?_
 rintro e w1 ⟨rfl,hs1,ho1⟩
 have S1:Hid (Sec w1 (w.heap.size+1) (putN (fun _=>0) 0 4 seq)/\OnlyAt (some ⟨w.heap.size+1,0,none⟩) W w1):=⟨hs1,ho1⟩
 clear hs1 ho1 S0
 go_wp2_with fail
 refine (putNumber_any (w.heap.size+1) 4 2 i _ w1 S1.out.1 (by omega) (by omega)).mono ?_
 rintro e w2 ⟨rfl,hs2,ho2⟩
 have S2:Hid (Sec w2 (w.heap.size+1) _/\OnlyAt (some ⟨w.heap.size+1,0,none⟩) W w2):=⟨hs2,S1.out.2.trans ho2⟩
 clear hs2 ho2 S1
 go_wp2_with fail
 refine (putNumber_any (w.heap.size+1) 6 2 k _ w2 S2.out.1 (by omega) (by omega)).mono ?_
 rintro e w3 ⟨rfl,hs3,ho3⟩
 have S3:Hid (Sec w3 (w.heap.size+1) _/\OnlyAt (some ⟨w.heap.size+1,0,none⟩) W w3):=⟨hs3,S2.out.2.trans ho3⟩
 clear hs3 ho3 S2
 go_wp2_with fail
 refine (putNumber_any (w.heap.size+1) 8 2 (L:Int) _ w3 S3.out.1 (by omega) (by omega)).mono ?_
 rintro e w4 ⟨rfl,hs4,ho4⟩
 have S4:Hid (Sec w4 (w.heap.size+1) _/\OnlyAt (some ⟨w.heap.size+1,0,none⟩) W w4):=⟨hs4,S3.out.2.trans ho4⟩
 clear hs4 ho4 S3
 obtain ⟨w5,hcp,hs5,ho5⟩:=copy_two w4 (w.heap.size+1) 10 54 54 82 49 _ S4.out.1 (by omega) (by omega)
 have S5:Hid (Sec w5 (w.heap.size+1) (fun j=>if j=10+1 then 49 else if j=10 then 82 else putN (putN (putN (putN (fun _=>0) 0 4 seq) 4 2 i) 6 2 k) 8 2 (L:Int) j)/\OnlyAt (some ⟨w.heap.size+1,0,none⟩) W w5):=⟨hs5,S4.out.2.trans ho5⟩
 clear hs5 ho5 S4
 obtain ⟨w6,hcq,hs6,ho6⟩:=copy_piece w5 (w.heap.size+1) 12 L 48 52 cp ad _ f S5.out.1 (HRD.out.below (KP.out w5 S5.out.2).2) hL (by omega)
 have S6:Hid (Sec w6 (w.heap.size+1) (recH seq i k L f)/\OnlyAt (some ⟨w.heap.size+1,0,none⟩) W w6):=⟨hs6,S5.out.2.trans ho6⟩
 clear hs6 ho6 S5
 go_wp2_with fail
 clear hcp hcq
 refine (seal_any (w.heap.size+1) (recH seq i k L f) w6 S6.out.1 (fun j hj=>recH_range seq i k L f HF.out j (by omega))).mono ?_
 rintro e w7 ⟨rfl,hs7,ho7⟩
 obtain ⟨hr7,hb7⟩:=KP.out w7 (S6.out.2.trans ho7)
 have S7:Hid (Sec w7 (w.heap.size+1) (recF seq i k L f)):=hs7
 have R7:Hid (Sec w7 w.heap.size (fun _=>0)/\Below w.heap.size w w7):=⟨hr7,hb7⟩
 clear hs7 ho7 S6 KP hr7 hb7
 go_wp2_with (first|((with_reducible refine wpList_load_sec (w.heap.size+1) (recF seq i k L f) ?_ S7.out ?_);rfl)|((with_reducible refine wpList_store_sec w.heap.size (fun _=>0) (recF seq i k L f) ?_ ?_ R7.out.1 ?_);rfl;rfl))
 intro w8 hs8 ho8
 have HB8:Hid (Below w.heap.size w w8):=R7.out.2.trans (ho8.below (fun y e=>by injection e with e;subst e;exact Nat.le_refl _))
 have S8:Hid (Sec w8 w.heap.size (recF seq i k L f)):=hs8
 clear hs8 ho8
 go_wp2
 exact bodyPost_ret (v:=.agg (secA (recF seq i k L f))) (retSec rfl _ w8 _ rfl S8.out) rfl ⟨rfl,HB8.out⟩

def pendRow (S:Nat->Int) (A:Nat->Option Addr) (L C:Nat->Nat) (k:Nat):List Value:=(List.range (k*2)).map (pendCell S A L C)
theorem pendRow_length (S:Nat->Int) (A:Nat->Option Addr) (L C:Nat->Nat) (k:Nat):(pendRow S A L C k).length=k*2:=by simp [pendRow]
theorem pendRow_get (S:Nat->Int) (A:Nat->Option Addr) (L C:Nat->Nat) (k i:Nat) (h:i<k*2):(pendRow S A L C k)[i]?=some (pendCell S A L C i):=by simp [pendRow,h]
theorem pendRow_succ (S:Nat->Int) (A:Nat->Option Addr) (L C:Nat->Nat) (k:Nat) (ad:Option Addr) (cp:Nat) :
  pendRow S A L C k++[.int .i64 (S k),.slice ad (L k) cp]=pendRow S (fun i=>if i=k then ad else A i) L (fun i=>if i=k then cp else C i) (k+1):=by
 apply List.ext_getElem?
 intro i
 by_cases h1:i<k*2
 ·rw [List.getElem?_append_left (by rw [pendRow_length];exact h1),pendRow_get _ _ _ _ _ _ h1,pendRow_get _ _ _ _ _ _ (by omega)]
  unfold pendCell
  have:¬ i / 2=k:=by omega
  simp [this]
 ·rw [List.getElem?_append_right (by rw [pendRow_length];omega),pendRow_length]
  by_cases h2:i=k*2
  ·subst h2
   rw [pendRow_get _ _ _ _ _ _ (by omega),pendCell_even]
   simp
  ·by_cases h3:i=k*2+1
   ·subst h3
    rw [pendRow_get _ _ _ _ _ _ (by omega),pendCell_odd]
    have:k*2+1-k*2=1:=by omega
    simp [this]
   ·rw [List.getElem?_eq_none (by simp;omega),List.getElem?_eq_none (by rw [pendRow_length];omega)]

structure Gath (w:World) (B:Nat) (v:Value) (k:Nat) (S:Nat->Int) (L:Nat->Nat) (F:Nat->Nat->Int) (A:Nat->Option Addr) (C:Nat->Nat):Prop where
 row:w.ownsRow B 119 2 v k (pendRow S A L C k)
 each:∀i,i<k->OwnB w B (A i) (L i) (F i)
 apart:∀i j,i<k->j<k->i≠j->L i≠0->L j≠0->A i≠A j

theorem Gath.ownP {w:World} {B:Nat} {v:Value} {k:Nat} {S:Nat->Int} {L:Nat->Nat} {F:Nat->Nat->Int} {A:Nat->Option Addr} {C:Nat->Nat} (h:Gath w B v k S L F A C):∃p q,v=.slice p k q/\OwnP w B p k S L F A:=by
 rcases h.row.2 with ⟨hv,hk⟩|⟨g,cap,cur,hv,hg,hh,h1,h2,h3,h4⟩
 ·subst hk;exact ⟨none,0,hv,Or.inl rfl⟩
 ·refine ⟨_,cap,hv,Or.inr ⟨g,C,rfl,hg,⟨cur,hh,by omega,fun i hi=>?_⟩,h.each,h.apart⟩⟩
  rw [<- pendRow_get S A L C k i hi,<- h4,List.getElem?_take,if_pos hi]
  simp

theorem Gath.start (w:World) (B:Nat) (S:Nat->Int) (L:Nat->Nat) (F:Nat->Nat->Int):Gath w B (.slice none 0 0) 0 S L F (fun _=>none) (fun _=>0):=
 ⟨World.ownsRow_nil _ _ _ _,fun i hi=>absurd hi (Nat.not_lt_zero _),fun i j hi=>absurd hi (Nat.not_lt_zero _)⟩

theorem owns_below {w w' : World} {B:Nat} {e:TypeId} {size:Nat} {v:Value} {n:Nat} {xs:List Value} (h:w.ownsRow B e size v n xs) (hb:Below w.heap.size w w'):w'.ownsRow B e size v n xs:=by
 obtain ⟨h1,h2⟩:=h
 refine ⟨h1,?_⟩
 rcases h2 with h2|⟨g,cap,cur,hv,hg,hh,r⟩
 ·exact Or.inl h2
 ·exact Or.inr ⟨g,cap,cur,hv,hg,(hb.block g (Array.getElem?_eq_some_iff.1 hh).1).trans hh,r⟩

theorem Gath.below {w w' : World} {B:Nat} {v:Value} {k:Nat} {S:Nat->Int} {L:Nat->Nat} {F:Nat->Nat->Int} {A:Nat->Option Addr} {C:Nat->Nat} (h:Gath w B v k S L F A C) (hb:Below w.heap.size w w'):Gath w' B v k S L F A C:=
 ⟨owns_below h.row hb,fun i hi=>(h.each i hi).below hb,h.apart⟩

theorem Gath.setOther {w:World} {B:Nat} {v:Value} {k:Nat} {S:Nat->Int} {L:Nat->Nat} {F:Nat->Nat->Int} {A:Nat->Option Addr} {C:Nat->Nat} (h:Gath w B v k S L F A C) {x:Addr} (hx:x.block<B) (u:Value):Gath (w.setCell x u) B v k S L F A C:=
 ⟨ownsRow_setCell_below h.row hx u,fun i hi=>(h.each i hi).setOther hx u,h.apart⟩

theorem Gath.mono {w:World} {B B' : Nat} {v:Value} {k:Nat} {S:Nat->Int} {L:Nat->Nat} {F:Nat->Nat->Int} {A:Nat->Option Addr} {C:Nat->Nat} (h:Gath w B v k S L F A C) (hB:B'<=B):Gath w B' v k S L F A C:=by
 refine ⟨⟨h.row.1,?_⟩,fun i hi=>(h.each i hi).mono hB,h.apart⟩
 rcases h.row.2 with h2|⟨g,cap,cur,hv,hg,r⟩
 ·exact Or.inl h2
 ·exact Or.inr ⟨g,cap,cur,hv,by omega,r⟩

theorem Gath.congr {w:World} {B:Nat} {v:Value} {k:Nat} {S S' : Nat->Int} {L L' : Nat->Nat} {F F' : Nat->Nat->Int} {A:Nat->Option Addr} {C:Nat->Nat} (h:Gath w B v k S L F A C) (hS:∀i,i<k->S i=S' i) (hL:∀i,i<k->L i=L' i) (hF:∀i,i<k->F i=F' i):Gath w B v k S' L' F' A C:=by
 have e:pendRow S A L C k=pendRow S' A L' C k:=by
  unfold pendRow
  refine List.map_congr_left (fun c hc=>?_)
  have hc' : c / 2<k:=by have:=List.mem_range.1 hc;omega
  unfold pendCell
  rw [hS _ hc',hL _ hc']
 refine ⟨by rw [<- e];exact h.row,fun i hi=>?_,fun i j hi hj hij h1 h2=>h.apart i j hi hj hij (by rw [hL i hi];exact h1) (by rw [hL j hj];exact h2)⟩
 rw [<- hL i hi,<- hF i hi]
 exact h.each i hi

theorem Gath.more {w w1 w2:World} {B:Nat} {v v' : Value} {k:Nat} {S:Nat->Int} {L:Nat->Nat} {F:Nat->Nat->Int} {A:Nat->Option Addr} {C:Nat->Nat} (h:Gath w B v k S L F A C) (hB:B<=w.heap.size) (hb:Below w.heap.size w w1) (ad:Option Addr) (cp:Nat) (hn:OwnB w1 w.heap.size ad (L k) (F k))
  (hr:w2.ownsRow B 119 2 v' (k+1) (pendRow S A L C k++[.int .i64 (S k),.slice ad (L k) cp])) (hg:w1.grownBy w2 v.ownBlock) :
  Gath w2 B v' (k+1) S L F (fun i=>if i=k then ad else A i) (fun i=>if i=k then cp else C i):=by
 have keep:∀{a:Option Addr} {n:Nat} {f:Nat->Int} {B' : Nat},OwnB w1 B' a n f->OwnB w2 B' a n f:=by
  intro a n f B' ho
  rcases ho with h0|⟨g,rfl,hg',hr'⟩
  ·exact Or.inl h0
  ·refine Or.inr ⟨g,rfl,hg',hr'.of_block (hg.block g hr'.lt (fun e=>?_))⟩
   rcases h.row.2 with ⟨hv,_⟩|⟨g2,cap,cur,hv,_,hh,_⟩
   ·rw [hv] at e;simp [Value.ownBlock] at e
   ·rw [hv] at e
    simp [Value.ownBlock] at e
    subst e
    have hh1:w1.heap[g]?=some (.cells cur 119 (0,0)):=(hb.block g (Array.getElem?_eq_some_iff.1 hh).1).trans hh
    obtain ⟨c',hc',_⟩:=hr'
    rw [hh1] at hc'
    injection hc' with e1
    injection e1 with _ e2 _
    revert e2
    decide
 refine ⟨by rw [<- pendRow_succ];exact hr,fun i hi=>?_,fun i j hi hj hij hl1 hl2=>?_⟩
 ·by_cases e:i=k
  ·subst e;simp only [if_true];exact keep (hn.mono hB)
  ·simp only [if_neg e];exact keep ((h.each i (by omega)).below hb)
 ·have key:∀j,j<k->L j≠0->L k≠0->A j≠ad:=by
   intro j hj hl hlk e
   rcases h.each j hj with h0|⟨g',hA,hg',hr'⟩
   ·exact hl h0
   ·rcases hn with h0|⟨g2,hA2,hg2,_⟩
    ·exact hlk h0
    ·rw [hA,hA2] at e
     injection e with e
     injection e with e
     have:=hr'.lt
     omega
  by_cases e1:i=k
  ·by_cases e2:j=k
   ·omega
   ·subst e1
    simp only [if_true,if_neg e2]
    exact fun e=>key j (by omega) hl2 hl1 e.symm
  ·by_cases e2:j=k
   ·subst e2
    simp only [if_neg e1,if_true]
    exact key i (by omega) hl1 hl2
   ·simp only [if_neg e1,if_neg e2]
    exact h.apart i j (by omega) (by omega) hij hl1 hl2

theorem step_append_pend {ops:Array Oper} {o:Oper} {a:Act} {w:World} {K:Act->World->Prop} {Q:Exit->Act->World->Prop} {E:Prop} (hgd:o.guard=none) (x y:Operand)
  (ho:o.op=.call { callee:=.builtin .append,args:=#[x,y],argTypes:=#[23,23] })
  (B k:Nat) (v:Value) (xs:List Value) (hx:a.eval x=v) (hown:w.ownsRow B 119 2 v k xs) (b c:Nat) (u0 u1:Value) (hy:a.eval y=.slice (some ⟨b,0,none⟩) 1 c)
  (hc0:w.cell? ⟨b,0,none⟩=some u0) (hc1:w.cell? ⟨b,1,none⟩=some u1) (h0:u0.oneCell'=true) (h1:u1.oneCell'=true) (hk:k<=1048576) (hB:B<=w.heap.size)
  (h:∀v' w',w'.ownsRow B 119 2 v' (k+1) (xs++[u0,u1])->w.grownBy w' v.ownBlock->K (a.put o.dst v') w') :
  if Region.wanted o (yielded ops a.tmps)=true then Oper.wp Tryz.prog o a w K Q else E:=by
 have hw:Region.wanted o (yielded ops a.tmps)=true:=by simp [Region.wanted,hgd]
 rw [if_pos hw]
 obtain ⟨i0,hi,hz0,hz1,hz2⟩:=info_parts Tryz.info119
 refine wp_append_own w x y 23 ho B 119 i0 _ 2 32 Tryz.underlying23 hi hz0 hz1 hz2 rfl (by decide) v k xs hx hown ⟨b,0,none⟩ 1 c [u0,u1] hy rfl ?_ ?_ (by unfold maxLen;omega) (by omega) hB (fun v' w' q1 q2 _=>h v' w' q1 q2)
 ·intro j u hj
  match j,hj with
  | 0,hj=>simp at hj;subst hj;simpa [Addr.add] using hc0
  | 1,hj=>simp at hj;subst hj;simpa [Addr.add] using hc1
  | j+2,hj=>simp at hj
 ·intro u hu
  simp at hu
  rcases hu with rfl|rfl
  ·exact h0
  ·exact h1

def RetD (w:World) (e:Ending) (w' : World) (n:Nat) (d:Nat->Int) (m:Nat) (S:Nat->Int) (L:Nat->Nat) (F:Nat->Nat->Int) (fuel:Int) (dead:Bool):Prop:=
 ∃a' c' p' q' A',e=.returned (.agg #[.slice a' n c',.slice p' m q',.int .i64 fuel,.bool dead])/\OwnD w' w.heap.size a' n d p' m S L F A'/\Below w.heap.size w w'

def RetG (w:World) (e:Ending) (w' : World) (n:Nat) (d:Nat->Int) (m:Nat) (S:Nat->Int) (L:Nat->Nat) (F:Nat->Nat->Int) (fuel:Int) (dead:Bool):Prop:=
 ∃a' c' p' q' A' C',e=.returned (.agg #[.slice a' n c',.slice p' m q',.int .i64 fuel,.bool dead])/\OwnB w' w.heap.size a' n d/\Gath w' w.heap.size (.slice p' m q') m S L F A' C'/\(n≠0->∀i,i<m->L i≠0->A' i≠a')/\Below w.heap.size w w'/\n<=c'/\c'<=9223372036854775807

theorem RetG.retD {w w' : World} {e:Ending} {n:Nat} {d:Nat->Int} {m:Nat} {S:Nat->Int} {L:Nat->Nat} {F:Nat->Nat->Int} {fuel:Int} {dead:Bool} (h:RetG w e w' n d m S L F fuel dead):RetD w e w' n d m S L F fuel dead:=by
 obtain ⟨a',c',p',q',A',C',he,h1,h2,h3,h4,-,-⟩:=h
 obtain ⟨p2,q2,hv,hp⟩:=h2.ownP
 injection hv with e1 _ e3
 subst e1 e3
 exact ⟨a',c',p',q',A',he,⟨h1,hp,h3⟩,h4⟩

theorem step_append_made {ops:Array Oper} {o:Oper} {a:Act} {w2:World} {K:Act->World->Prop} {Q:Exit->Act->World->Prop} {E:Prop} (hgd:o.guard=none) (x y:Operand)
  (ho:o.op=.call { callee:=.builtin .append,args:=#[x,y],argTypes:=#[23,23] })
  (B k:Nat) (v:Value) (xs:List Value) (u0:Int) (u1:Option Addr) (l1 c1:Nat) (hx:a.eval x=v) (hown:w2.ownsRow B 119 2 v k xs) (hy:a.eval y=.slice (some ⟨w2.heap.size,0,none⟩) 1 1)
  (hk:k<=1048576) (hB:B<=w2.heap.size)
  (h:∀v' w',w'.ownsRow B 119 2 v' (k+1) (xs++[.int .i64 u0,.slice u1 l1 c1])->(w2.alloc (.cells #[.int .i64 u0,.slice u1 l1 c1] 119)).grownBy w' v.ownBlock->K (a.put o.dst v') w') :
  if Region.wanted o (yielded ops a.tmps)=true then Oper.wp Tryz.prog o a (w2.alloc (.cells #[.int .i64 u0,.slice u1 l1 c1] 119)) K Q else E:=
 step_append_pend hgd x y ho B k v xs hx (hown.alloc _) w2.heap.size 1 (.int .i64 u0) (.slice u1 l1 c1) hy (by simp) (by simp) rfl rfl hk (by simp;omega) h

theorem grown_cell {w2 w3:World} {O:Obj} {row:Option Nat} (hg:(w2.alloc O).grownBy w3 row) {x:Addr} (hx:x.block<w2.heap.size) (hne:row≠some x.block):w3.cell? x=w2.cell? x:=by
 rw [World.cell?_of_block (w:=w2.alloc O) (hg.block x.block (by simp;omega) (fun e=>hne e.symm))]
 exact World.cell?_of_block (w:=w2) (Below.heap_alloc _ _ _ hx)

set_option maxHeartbeats 2000000 in
theorem copyDisk_gath (a p:Option Addr) (n c m q:Nat) (d S:Nat->Int) (L:Nat->Nat) (F:Nat->Nat->Int) (fuel:Int) (dead:Bool) (w:World) (ha:Rd .u8 w a n d) (hp:RdP w p m S L F) (hn:n<=1048576) (hm:m<=1048576) (hL:∀i,i<m->L i<=1048576) :
  Calls Tryz.prog 52 #[.agg #[.slice a n c,.slice p m q,.int .i64 fuel,.bool dead]] w fun e w'=>RetG w e w' n d m S L F fuel dead:=by
 have HA:Hid (Rd .u8 w a n d):=ha
 have HP:Hid (RdP w p m S L F):=hp
 have HL:Hid (∀i,i<m->L i<=1048576):=hL
 have HJ:Hid (∀{W:World},Below (w.heap.size+2) ((w.alloc (.cells #[.slice a n c,.slice p m q,.int .i64 fuel,.bool dead] 25)).alloc (.cells #[.slice none 0 0,.slice none 0 0,.int .i64 0,.bool false] 25)) W->Below w.heap.size w W):=fun h=>(((below_alloc _ _).trans ((below_alloc _ _).mono (by simp)))).trans (h.mono (by omega))
 clear ha hp hL
 go_enter Tryz.func52,Tryz.ntmps52
 go_wp2
 go_loopw [3,5,9] (fun v _ i wr=>∃(k:Nat) (A:Nat->Option Addr) (C:Nat->Nat),k<=m/\i=.int .i64 k/\Gath wr (w.heap.size+2) v k S L F A C/\Below (w.heap.size+2) ((w.alloc (.cells #[.slice a n c,.slice p m q,.int .i64 fuel,.bool dead] 25)).alloc (.cells #[.slice none 0 0,.slice none 0 0,.int .i64 0,.bool false] 25)) wr) (fun _ _ i _=>m-(intOf i).toNat)
 case atStart=>exact ⟨0,_,_,Nat.zero_le _,rfl,Gath.start _ _ _ _ _,Below.refl _ _⟩
 case round=>
  obtain ⟨k,A,C,hkm,rfl,hga,hbel⟩:=hrel
  have K3:Hid (Below (w.heap.size+2) ((w.alloc _).alloc _) wr):=hbel
  have hz3:w.heap.size+2<=wr.heap.size:=by have:=hbel.size;simpa using this
  have GA:Hid (Gath wr (w.heap.size+2) u3 k S L F A C):=hga
  clear hbel hga
  have hc3:∀b o,b<w.heap.size+2->wr.cell? ⟨b,o,none⟩=_:=fun b o hb=>K3.out.cell (p:=⟨b,o,none⟩) hb
  have hf3:∀b o,b<w.heap.size+2->wr.frozen? ⟨b,o,none⟩=_:=fun b o hb=>K3.out.frozen (p:=⟨b,o,none⟩) hb
  by_cases hlt:k<m
  ·rcases HP.out.below (HJ.out K3.out) with h|⟨b,o,hpa,hc⟩
   ·omega
   subst hpa
   obtain ⟨c1,ad,cp,cc2,c3⟩:=hc k hlt
   have HLk:=HL.out k hlt
   have C3:Hid (Rd .u8 (wr.alloc (.cells #[.int .i64 (S k),.slice ad (L k) cp] 119)).drew ad (L k) (F k)):=c3.below (below_alloc _ _).drew
   clear hc c3
   have HC:Hid (∀w2:World,Below (wr.heap.size+1) (wr.alloc (.cells #[.int .i64 (S k),.slice ad (L k) cp] 119)).drew w2->w2.cell? ⟨wr.heap.size,0,none⟩=some (.int .i64 (S k))/\w2.cell? ⟨wr.heap.size,1,none⟩=some (.slice ad (L k) cp)):=by
    intro w2 hb
    constructor
    ·rw [hb.cell (p:=⟨wr.heap.size,0,none⟩) (Nat.lt_succ_self _)];simp
    ·rw [hb.cell (p:=⟨wr.heap.size,1,none⟩) (Nat.lt_succ_self _)];simp
   have hv0:∀g,Value.ownBlock u3=some g->w.heap.size+2<=g/\g<wr.heap.size:=fun g e=>GA.out.row.lt g e
   have HV0:Hid (∀g,Value.ownBlock u3=some g->w.heap.size+2<=g/\g<wr.heap.size):=hv0
   clear hv0
   have HT:Hid (∀w2:World,Below (wr.alloc (.cells #[.int .i64 (S k),.slice ad (L k) cp] 119)).drew.heap.size (wr.alloc (.cells #[.int .i64 (S k),.slice ad (L k) cp] 119)).drew w2->Below wr.heap.size wr w2):=fun w2 hb=>(below_alloc _ _).drew.trans (hb.mono (by simp))
   have HD:Hid (∀(w2 w3:World) (O:Obj),Below (wr.alloc (.cells #[.int .i64 (S k),.slice ad (L k) cp] 119)).drew.heap.size (wr.alloc (.cells #[.int .i64 (S k),.slice ad (L k) cp] 119)).drew w2->(w2.alloc O).grownBy w3 (Value.ownBlock u3)->w3.cell? ⟨wr.heap.size,0,none⟩=some (.int .i64 (S k))/\w3.cell? ⟨wr.heap.size,1,none⟩=some (.slice ad (L k) cp)):=by
    intro w2 w3 O hb hg
    have hs:wr.heap.size<w2.heap.size:=by have:=hb.size;simp at this;omega
    have hne:Value.ownBlock u3≠some wr.heap.size:=fun e=>by have:=HV0.out _ e;omega
    obtain ⟨q0,q1⟩:=HC.out w2 (hb.mono (by simp))
    exact ⟨(grown_cell hg (x:=⟨wr.heap.size,0,none⟩) hs hne).trans q0,(grown_cell hg (x:=⟨wr.heap.size,1,none⟩) hs hne).trans q1⟩
   have hk2:k<=1048576:=by omega
   go_wp2
   go_region_held3 (fun w'=>w'.cell? ⟨wr.heap.size,0,none⟩=some (.int .i64 (S k))/\w'.cell? ⟨wr.heap.size,1,none⟩=some (.slice ad (L k) cp)) (go_keep)
    (first
    | (go_at_call 99;refine (copyBytes_any ad (L k) cp (F k) (wr.alloc (.cells #[.int .i64 (S k),.slice ad (L k) cp] 119)).drew C3.out HLk).mono ?_;rintro e w2 ⟨a2,c2,rfl,ho2,hb2,-,-⟩;obtain ⟨y0,y1⟩:=HC.out w2 (hb2.mono (Nat.le_of_eq (alloc_size _ _).symm)))
    | (refine step_append_made (by rfl) (.tmp 13) (.tmp 20) (by rfl) (w.heap.size+2) k u3 (pendRow S A L C k) (S k) a2 (L k) c2 (by rfl) (owns_below GA.out.row (HT.out w2 hb2)) (by rfl) hk2 (Nat.le_trans hz3 (HT.out w2 hb2).size) ?_;intro v3 w3 hr3 hg3;obtain ⟨y0,y1⟩:=HD.out w2 w3 _ hb2 hg3))
   have HX:Hid (Gath w3 (w.heap.size+2) v3 (k+1) S L F (fun i=>if i=k then a2 else A i) (fun i=>if i=k then c2 else C i)/\Below (w.heap.size+2) ((w.alloc (.cells #[.slice a n c,.slice (some ⟨b,o,none⟩) m q,.int .i64 fuel,.bool dead] 25)).alloc (.cells #[.slice none 0 0,.slice none 0 0,.int .i64 0,.bool false] 25)) w3):=by
    have q1:=HT.out w2 hb2
    have q2:=q1.size
    refine ⟨GA.out.more hz3 (q1.alloc q2 _) a2 c2 ((ho2.below (below_alloc _ _)).mono (by simp)) hr3 hg3,?_⟩
    exact ((K3.out.trans (q1.mono hz3)).alloc (by omega) _).grown hg3 (by simp;omega) (fun g e=>(HV0.out g e).1)
   clear hr3 hg3 ho2 hb2 y0 y1 c1 cc2 hc3 hf3 C3 HC HD HT HV0
   go_wp2
   go_roundw
   case rel=>exact ⟨k+1,_,_,by omega,by go_num,HX.out⟩
   case measure=>simp [intOf];omega
  ·have e:k=m:=by omega
   subst e
   obtain ⟨p',q',hv,hop⟩:=GA.out.ownP
   subst hv
   have HOP:Hid (OwnP wr (w.heap.size+2) p' k S L F A):=hop
   have HGA:Hid (Gath wr (w.heap.size+2) (.slice p' k q') k S L F A C):=GA.out
   clear hop
   have C3:Hid (Rd .u8 wr.drew a n d):=(HA.out.below (HJ.out K3.out)).below (Below.refl _ _).drew
   have x0:=hc3 w.heap.size 0 (by omega)
   have x2:=hc3 w.heap.size 2 (by omega)
   have x3:=hc3 w.heap.size 3 (by omega)
   simp at x0 x2 x3
   have HC:Hid (∀w2:World,Below wr.drew.heap.size wr.drew w2->(w2.cell? ⟨w.heap.size,0,none⟩=some (.slice a n c)/\w2.cell? ⟨w.heap.size,2,none⟩=some (.int .i64 fuel)/\w2.cell? ⟨w.heap.size,3,none⟩=some (.bool dead))/\(∀o,w2.frozen? ⟨w.heap.size+1,o,none⟩=false)/\w2.cell? ⟨w.heap.size+1,0,none⟩=some (.slice none 0 0)/\w2.cell? ⟨w.heap.size+1,1,none⟩=some (.slice none 0 0)/\w2.cell? ⟨w.heap.size+1,2,none⟩=some (.int .i64 0)/\w2.cell? ⟨w.heap.size+1,3,none⟩=some (.bool false)/\w.heap.size+1<w2.heap.size):=by
    intro w2 hb
    have h1:w.heap.size<wr.drew.heap.size:=by show w.heap.size<wr.heap.size;omega
    have h2:w.heap.size+1<wr.drew.heap.size:=by show w.heap.size+1<wr.heap.size;omega
    have hs:=hb.size
    refine ⟨⟨(hb.cell (p:=⟨w.heap.size,0,none⟩) h1).trans x0,(hb.cell (p:=⟨w.heap.size,2,none⟩) h1).trans x2,(hb.cell (p:=⟨w.heap.size,3,none⟩) h1).trans x3⟩,fun o=>?_,?_,?_,?_,?_,by omega⟩
    ·rw [hb.frozen (p:=⟨w.heap.size+1,o,none⟩) h2]
     show wr.frozen? _=_
     rw [hf3 _ _ (by omega)]
     simp
    all_goals
     rw [hb.cell (p:=⟨w.heap.size+1,_,none⟩) h2]
     show wr.cell? _=_
     rw [hc3 _ _ (by omega)]
     simp
   go_wp2
   go_region_held3 (fun w'=>w'.cell? ⟨w.heap.size,0,none⟩=some (.slice a n c)/\w'.cell? ⟨w.heap.size,2,none⟩=some (.int .i64 fuel)/\w'.cell? ⟨w.heap.size,3,none⟩=some (.bool dead)) (go_keep)
    (first
    | (go_at_call 99;refine (copyBytes_any a n c d wr.drew C3.out hn).mono ?_;rintro e w2 ⟨a2,c2,rfl,ho2,hb2,hl2,hm2⟩;obtain ⟨⟨y0,y2,y3⟩,yf,r0,r1,r2,r3,rz⟩:=HC.out w2 hb2))
   have hb3:Below wr.heap.size wr w2:=(Below.refl _ _).drew.trans (hb2.mono (by simp))
   have HX:Hid ((OwnB w2 (w.heap.size+2) a2 n d/\Gath w2 (w.heap.size+2) (.slice p' k q') k S L F A C/\(n≠0->∀i,i<k->L i≠0->A i≠a2))/\Below w.heap.size w w2):=by
    refine ⟨⟨ho2.mono hz3,HGA.out.below hb3,fun hn0 i hi hl e=>?_⟩,(HJ.out K3.out).trans (hb3.mono (by omega))⟩
    have q1:=HOP.out.ltB.2 i hi hl
    rcases ho2 with h0|⟨g,rfl,hg,_⟩
    ·exact hn0 h0
    ·have:=q1 _ e
     simp at this hg
     omega
   clear hb3 hb2 ho2 y0 y2 y3 yf x0 x2 x3 HC C3
   go_wp2
   refine bodyPost_ret (v:=.agg #[.slice a2 n c2,.slice p' k q',.int .i64 fuel,.bool dead]) (by simp [results,Tryz.results52,go_sem,r0,r1,r2,r3]) rfl ⟨a2,c2,p',q',A,C,rfl,?_,?_,HX.out.1.2.2,?_,hl2,hm2⟩
   ·exact (((((HX.out.1.1.setOther (by simp) _).setOther (by simp) _).setOther (by simp) _).setOther (by simp) _)).mono (by omega)
   ·exact (((((HX.out.1.2.1.setOther (by simp) _).setOther (by simp) _).setOther (by simp) _).setOther (by simp) _)).mono (by omega)
   ·exact ((((HX.out.2.setCell (by simp) _).setCell (by simp) _).setCell (by simp) _).setCell (by simp) _)


def RetDc (w:World) (e:Ending) (w' : World) (n:Nat) (d:Nat->Int) (m:Nat) (S:Nat->Int) (L:Nat->Nat) (F:Nat->Nat->Int) (fuel:Int) (dead:Bool):Prop:=
 ∃a' c' p' q' A',e=.returned (.agg #[.slice a' n c',.slice p' m q',.int .i64 fuel,.bool dead])/\OwnD w' w.heap.size a' n d p' m S L F A'/\Below w.heap.size w w'/\n<=c'/\c'<=9223372036854775807

def crashTo (d S:Nat->Int) (F:Nat->Nat->Int) (K:Nat->Bool) (nk:Nat):Nat->Nat->Int
 | 0=>d
 | k+1=>if k<nk/\K k=true then over (crashTo d S F K nk k) (S k).toNat (F k) else crashTo d S F K nk k

def RdY (w:World) (a:Option Addr) (m:Nat) (L:Nat->Nat) (F:Nat->Nat->Int):Prop:=
 m=0\/∃b o,a=some ⟨b,o,none⟩/\∀i,i<m->∃ad cp,w.cell? ⟨b,o+i,none⟩=some (.slice ad (L i) cp)/\Rd .u8 w ad (L i) (F i)

theorem RdY.below {w w' : World} {a:Option Addr} {m:Nat} {L:Nat->Nat} {F:Nat->Nat->Int} (h:RdY w a m L F) (hb:Below w.heap.size w w'):RdY w' a m L F:=by
 rcases h with h|⟨b,o,rfl,hc⟩
 ·exact Or.inl h
 ·refine Or.inr ⟨b,o,rfl,fun i hi=>?_⟩
  obtain ⟨ad,cp,h2,h3⟩:=hc i hi
  exact ⟨ad,cp,(hb.cell (p:=⟨b,o+i,none⟩) (World.block_lt_of_cell? _ _ h2)).trans h2,h3.below hb⟩

def payCell (A:Nat->Option Addr) (L C:Nat->Nat) (i:Nat):Value:=.slice (A i) (L i) (C i)

structure OwnYA (w:World) (B:Nat) (g m:Nat) (L:Nat->Nat) (F:Nat->Nat->Int) (A:Nat->Option Addr) (C:Nat->Nat):Prop where
 le:B<=g
 row:rowIn w g 84 m (payCell A L C)
 each:∀i,i<m->OwnB w B (A i) (L i) (F i)
 apart:∀i j,i<m->j<m->i≠j->L i≠0->L j≠0->A i≠A j
 cap:∀i,i<m->L i<=C i/\C i<=9223372036854775807

def OwnY (w:World) (B:Nat) (a:Option Addr) (m:Nat) (L:Nat->Nat) (F:Nat->Nat->Int) (A:Nat->Option Addr):Prop:=
 m=0\/∃g C,a=some ⟨g,0,none⟩/\OwnYA w B g m L F A C

theorem OwnYA.rd {w:World} {B g m:Nat} {L:Nat->Nat} {F:Nat->Nat->Int} {A:Nat->Option Addr} {C:Nat->Nat} (h:OwnYA w B g m L F A C):RdY w (some ⟨g,0,none⟩) m L F:=by
 refine Or.inr ⟨g,0,rfl,fun i hi=>⟨A i,C i,?_,(h.each i hi).rd⟩⟩
 have:=h.row.cell (i:=i) hi
 rw [Nat.zero_add]
 exact this
theorem OwnY.rd {w:World} {B:Nat} {a:Option Addr} {m:Nat} {L:Nat->Nat} {F:Nat->Nat->Int} {A:Nat->Option Addr} (h:OwnY w B a m L F A):RdY w a m L F:=by
 rcases h with h|⟨g,C,rfl,h⟩
 ·exact Or.inl h
 ·exact h.rd
theorem OwnY.below {w w' : World} {B:Nat} {a:Option Addr} {m:Nat} {L:Nat->Nat} {F:Nat->Nat->Int} {A:Nat->Option Addr} (h:OwnY w B a m L F A) (hb:Below w.heap.size w w'):OwnY w' B a m L F A:=by
 rcases h with h|⟨g,C,rfl,h⟩
 ·exact Or.inl h
 ·exact Or.inr ⟨g,C,rfl,h.le,h.row.of_block (hb.block g h.row.lt),fun i hi=>(h.each i hi).below hb,h.apart,h.cap⟩
theorem OwnY.setOther {w:World} {B:Nat} {a:Option Addr} {m:Nat} {L:Nat->Nat} {F:Nat->Nat->Int} {A:Nat->Option Addr} (h:OwnY w B a m L F A) {p:Addr} (hp:p.block<B) (v:Value):OwnY (w.setCell p v) B a m L F A:=by
 rcases h with h|⟨g,C,rfl,h⟩
 ·exact Or.inl h
 ·exact Or.inr ⟨g,C,rfl,h.le,h.row.of_block (Below.heap_setCell _ _ _ _ (by have:=h.le;omega)),fun i hi=>(h.each i hi).setOther hp v,h.apart,h.cap⟩
theorem OwnY.mono {w:World} {B B' : Nat} {a:Option Addr} {m:Nat} {L:Nat->Nat} {F:Nat->Nat->Int} {A:Nat->Option Addr} (h:OwnY w B a m L F A) (hB:B'<=B):OwnY w B' a m L F A:=by
 rcases h with h|⟨g,C,rfl,h⟩
 ·exact Or.inl h
 ·exact Or.inr ⟨g,C,rfl,by have:=h.le;omega,h.row,fun i hi=>(h.each i hi).mono hB,h.apart,h.cap⟩
theorem OwnY.within {w w' : World} {B T B' : Nat} {a:Option Addr} {m:Nat} {L:Nat->Nat} {F:Nat->Nat->Int} {A:Nat->Option Addr} (h:OwnY w B' a m L F A) (hT:T<=B') (hw:Within B T w w'):OwnY w' B' a m L F A:=by
 rcases h with h|⟨g,C,rfl,h⟩
 ·exact Or.inl h
 ·exact Or.inr ⟨g,C,rfl,h.le,h.row.of_block (hw.block g h.row.lt (Or.inr (by have:=h.le;omega))),fun i hi=>(h.each i hi).within hT hw,h.apart,h.cap⟩

def yoff (L:Nat->Nat) (k0:Int):Nat->Int
 | 0=>k0
 | i+1=>yoff L k0 i+L i
structure OnlyY (m:Nat) (L:Nat->Nat) (A:Nat->Option Addr) (w w' : World):Prop where
 os:w'.os=w.os
 tape:w'.tape=w.tape
 output:w'.output=w.output
 size:w'.heap.size=w.heap.size
 block:∀g,(∀i,i<m->L i≠0->A i≠some ⟨g,0,none⟩)->w'.heap[g]?=w.heap[g]?

theorem OwnYA.setBytes {w w2:World} {B gC m:Nat} {L:Nat->Nat} {F:Nat->Nat->Int} {A:Nat->Option Addr} {C:Nat->Nat} (h:OwnYA w B gC m L F A C) (k:Nat) (hk:k<m) (f' : Nat->Int)
  (hb:OwnB w2 B (A k) (L k) f') (ho:OnlyAt (A k) w w2) (hz:L k=0->w2=w) :
  OwnYA w2 B gC m L (fun i=>if i=k then f' else F i) A C:=by
 by_cases hl:L k=0
 ·have e:=hz hl
  subst e
  refine ⟨h.le,h.row,fun i hi=>?_,h.apart,h.cap⟩
  by_cases e:i=k
  ·subst e;exact Or.inl hl
  ·simp only [if_neg e];exact h.each i hi
 ·have hbk:=h.each k hk
  rcases hbk with h0|⟨g,hA,hg,hr⟩
  ·exact absurd h0 hl
  ·have hne:g≠gC:=hr.ne h.row (by decide)
   refine ⟨h.le,h.row.of_block (ho.block gC (fun x e=>by rw [hA] at e;injection e with e;subst e;exact hne)),fun i hi=>?_,h.apart,h.cap⟩
   by_cases e:i=k
   ·subst e;simp only [if_true];exact hb
   ·simp only [if_neg e]
    refine (h.each i hi).only ho (fun hn x y hx hy=>?_)
    intro hxy
    rcases h.each i hi with h0|⟨g',hA',_,_⟩
    ·exact hn h0
    ·rw [hA] at hy;injection hy with hy;subst hy
     rw [hA'] at hx;injection hx with hx;subst hx
     simp at hxy
     subst hxy
     exact h.apart i k hi hk e hn hl (by rw [hA,hA'])

theorem OnlyY.setBytes {m:Nat} {L:Nat->Nat} {A:Nat->Option Addr} {w w' w2:World} (h:OnlyY m L A w w') (k:Nat) (hk:k<m) (hz:L k=0->w2=w') (ho:OnlyAt (A k) w' w2) (hA0:L k≠0->∃g,A k=some ⟨g,0,none⟩):OnlyY m L A w w2:=by
 by_cases hl:L k=0
 ·rw [hz hl];exact h
 ·refine ⟨ho.os.trans h.os,ho.tape.trans h.tape,ho.output.trans h.output,ho.size.trans h.size,fun g hA=>?_⟩
  rw [<- h.block g hA]
  refine ho.block g (fun x hx e=>?_)
  obtain ⟨g',hg'⟩:=hA0 hl
  rw [hg'] at hx
  injection hx with hx
  subst hx
  simp at e
  subst e
  exact hA k hk hl hg'


theorem OwnY.ltB {w:World} {B:Nat} {a:Option Addr} {m:Nat} {L:Nat->Nat} {F:Nat->Nat->Int} {A:Nat->Option Addr} (h:OwnY w B a m L F A):∀i,i<m->LtB w.heap.size (A i) (L i):=by
 rcases h with h|⟨gC,C,rfl,h⟩
 ·subst h;exact fun i hi=>absurd hi (Nat.not_lt_zero _)
 ·exact fun i hi=>(h.each i hi).ltB

def payRow (A:Nat->Option Addr) (L C:Nat->Nat) (k:Nat):List Value:=(List.range k).map (payCell A L C)
theorem payRow_succ (A:Nat->Option Addr) (L C:Nat->Nat) (k:Nat) (ad:Option Addr) (cp:Nat) :
  payRow A L C k++[.slice ad (L k) cp]=payRow (fun i=>if i=k then ad else A i) L (fun i=>if i=k then cp else C i) (k+1):=by
 unfold payRow
 rw [List.range_succ,List.map_append]
 congr 1
 ·refine List.map_congr_left (fun j hj=>?_)
  have:=List.mem_range.1 hj
  unfold payCell
  dsimp only
  rw [if_neg (by omega),if_neg (by omega)]
 ·simp [payCell]

structure GathY (w:World) (B:Nat) (v:Value) (k:Nat) (L:Nat->Nat) (F:Nat->Nat->Int) (A:Nat->Option Addr) (C:Nat->Nat):Prop where
 row:w.ownsRow B 84 1 v k (payRow A L C k)
 each:∀i,i<k->OwnB w B (A i) (L i) (F i)
 apart:∀i j,i<k->j<k->i≠j->L i≠0->L j≠0->A i≠A j
 cap:∀i,i<k->L i<=C i/\C i<=9223372036854775807

theorem GathY.ownY {w:World} {B:Nat} {v:Value} {k:Nat} {L:Nat->Nat} {F:Nat->Nat->Int} {A:Nat->Option Addr} {C:Nat->Nat} (h:GathY w B v k L F A C):∃p q,v=.slice p k q/\OwnY w B p k L F A/\k<=q/\q<=9223372036854775807:=by
 rcases h.row.2 with ⟨hv,hk⟩|⟨g,cap,cur,hv,hg,hh,h1,h2,h3,h4⟩
 ·subst hk;exact ⟨none,0,hv,Or.inl rfl,Nat.le_refl _,by omega⟩
 ·unfold maxLen at h2
  refine ⟨_,cap,hv,Or.inr ⟨g,C,rfl,hg,⟨cur,hh,by omega,fun i hi=>?_⟩,h.each,h.apart,h.cap⟩,h1,h2⟩
  have e:cur[i]?=(cur.toList.take (k*1))[i]?:=by rw [List.getElem?_take,if_pos (by omega)];simp
  rw [e,h4]
  unfold payRow
  rw [List.getElem?_map,List.getElem?_range hi]
  rfl

theorem GathY.start (w:World) (B:Nat) (L:Nat->Nat) (F:Nat->Nat->Int):GathY w B (.slice none 0 0) 0 L F (fun _=>none) (fun _=>0):=
 ⟨World.ownsRow_nil _ _ _ _,fun i hi=>absurd hi (Nat.not_lt_zero _),fun i j hi=>absurd hi (Nat.not_lt_zero _),fun i hi=>absurd hi (Nat.not_lt_zero _)⟩
theorem GathY.below {w w' : World} {B:Nat} {v:Value} {k:Nat} {L:Nat->Nat} {F:Nat->Nat->Int} {A:Nat->Option Addr} {C:Nat->Nat} (h:GathY w B v k L F A C) (hb:Below w.heap.size w w'):GathY w' B v k L F A C:=
 ⟨owns_below h.row hb,fun i hi=>(h.each i hi).below hb,h.apart,h.cap⟩
theorem GathY.setOther {w:World} {B:Nat} {v:Value} {k:Nat} {L:Nat->Nat} {F:Nat->Nat->Int} {A:Nat->Option Addr} {C:Nat->Nat} (h:GathY w B v k L F A C) {x:Addr} (hx:x.block<B) (u:Value):GathY (w.setCell x u) B v k L F A C:=
 ⟨ownsRow_setCell_below h.row hx u,fun i hi=>(h.each i hi).setOther hx u,h.apart,h.cap⟩
theorem GathY.mono {w:World} {B B' : Nat} {v:Value} {k:Nat} {L:Nat->Nat} {F:Nat->Nat->Int} {A:Nat->Option Addr} {C:Nat->Nat} (h:GathY w B v k L F A C) (hB:B'<=B):GathY w B' v k L F A C:=by
 refine ⟨⟨h.row.1,?_⟩,fun i hi=>(h.each i hi).mono hB,h.apart,h.cap⟩
 rcases h.row.2 with h2|⟨g,cap,cur,hv,hg,r⟩
 ·exact Or.inl h2
 ·exact Or.inr ⟨g,cap,cur,hv,by omega,r⟩

theorem GathY.more {w w1 w2:World} {B:Nat} {v v' : Value} {k:Nat} {L:Nat->Nat} {F:Nat->Nat->Int} {A:Nat->Option Addr} {C:Nat->Nat} (h:GathY w B v k L F A C) (hB:B<=w.heap.size) (hb:Below w.heap.size w w1) (ad:Option Addr) (cp:Nat) (hn:OwnB w1 w.heap.size ad (L k) (F k))
  (hr:w2.ownsRow B 84 1 v' (k+1) (payRow A L C k++[.slice ad (L k) cp])) (hg:w1.grownBy w2 v.ownBlock) (hcp:L k<=cp/\cp<=9223372036854775807) :
  GathY w2 B v' (k+1) L F (fun i=>if i=k then ad else A i) (fun i=>if i=k then cp else C i):=by
 have keep:∀{a:Option Addr} {n:Nat} {f:Nat->Int} {B' : Nat},OwnB w1 B' a n f->OwnB w2 B' a n f:=by
  intro a n f B' ho
  rcases ho with h0|⟨g,rfl,hg',hr'⟩
  ·exact Or.inl h0
  ·refine Or.inr ⟨g,rfl,hg',hr'.of_block (hg.block g hr'.lt (fun e=>?_))⟩
   rcases h.row.2 with ⟨hv,_⟩|⟨g2,cap,cur,hv,_,hh,_⟩
   ·rw [hv] at e;simp [Value.ownBlock] at e
   ·rw [hv] at e
    simp [Value.ownBlock] at e
    subst e
    have hh1:w1.heap[g]?=some (.cells cur 84 (0,0)):=(hb.block g (Array.getElem?_eq_some_iff.1 hh).1).trans hh
    obtain ⟨c',hc',_⟩:=hr'
    rw [hh1] at hc'
    injection hc' with e1
    injection e1 with _ e2 _
    revert e2
    decide
 refine ⟨by rw [<- payRow_succ];exact hr,fun i hi=>?_,fun i j hi hj hij hl1 hl2=>?_,fun i hi=>by
  by_cases e:i=k
  ·rw [if_pos e,e];exact hcp
  ·rw [if_neg e];exact h.cap i (by omega)⟩
 ·by_cases e:i=k
  ·subst e;simp only [if_true];exact keep (hn.mono hB)
  ·simp only [if_neg e];exact keep ((h.each i (by omega)).below hb)
 ·have key:∀j,j<k->L j≠0->L k≠0->A j≠ad:=by
   intro j hj hl hlk e
   rcases h.each j hj with h0|⟨g',hA,hg',hr'⟩
   ·exact hl h0
   ·rcases hn with h0|⟨g2,hA2,hg2,_⟩
    ·exact hlk h0
    ·rw [hA,hA2] at e
     injection e with e
     injection e with e
     have:=hr'.lt
     omega
  by_cases e1:i=k
  ·by_cases e2:j=k
   ·omega
   ·subst e1
    simp only [if_true,if_neg e2]
    exact fun e=>key j (by omega) hl2 hl1 e.symm
  ·by_cases e2:j=k
   ·subst e2
    simp only [if_neg e1,if_true]
    exact key i (by omega) hl1 hl2
   ·simp only [if_neg e1,if_neg e2]
    exact h.apart i j (by omega) (by omega) hij hl1 hl2

theorem infoPay:(Tryz.prog.info? 84).map (fun i=>(i.zero,i.size,i.bytes))=some (some (.agg #[.slice none 0 0]),1,24):=by kernel_rfl



set_option maxHeartbeats 1000000 in
theorem lay_1 (g:Nat) (w:World) :
  Calls Tryz.prog 192 #[.pointer (some ⟨g,0,none⟩)] w fun e w'=>e=.returned (.agg #[.pointer (some ⟨g,0,none⟩),.pointer (some ⟨g,1,none⟩),.pointer (some ⟨g,2,none⟩),.pointer (some ⟨g,3,none⟩)])/\Below w.heap.size w w':=by
 go_enter Tryz.func192,Tryz.ntmps192
 go_wp2
 go_region_held3 (fun _=>True) (go_keep) (fail)
 go_wp2
 refine bodyPost_ret (v:=.agg #[.pointer (some ⟨g,0,none⟩),.pointer (some ⟨g,1,none⟩),.pointer (some ⟨g,2,none⟩),.pointer (some ⟨g,3,none⟩)]) (by simp [results,Tryz.results192,go_sem]) rfl ⟨rfl,(below_alloc _ _).drew⟩


end Go.Proofs.YtbmffmifemebmaaGreatDoor
