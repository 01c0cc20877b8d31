import Derived.Test.YtbmffmifemebmaaGreatDoorNz10
import Derived.Test.YtbmffmifemebmaaGreatDoorNz12
import Derived.Deep.RegionHeld3
import Derived.Test.YtbmffmifemebmaaGreatDoorNz11
import Derived.Test.YtbmffmifemebmaaGreatDoorNz4
set_option linter.unusedVariables false
set_option maxRecDepth 100000
namespace Go.Proofs.YtbmffmifemebmaaGreatDoor
open Go.RowKit Go.Deep

theorem IxOk.keep {w w2:World} {B g:Nat} {G C:Nat->Nat} {A:Nat->Option Addr} (h:IxOk w B g G C A) (hb:Below w.heap.size w w2):IxOk w2 B g G C A:=
 ⟨h.le,h.row.of_block (hb.block _ h.row.lt),fun i hi=>⟨(h.each i hi).1,(h.each i hi).2.of_block (hb.block _ (h.each i hi).2.lt)⟩,h.apart⟩
set_option maxHeartbeats 4000000 in
theorem eqTreeS_six (g c B g' c' B' : Nat) (G C G' C' : Nat->Nat) (A A' : Nat->Option Addr) (w:World) (h:IxOk w B g G C A) (h' : IxOk w B' g' G' C' A') :
  Calls Tryz.prog 121 #[.slice (some ⟨g,0,none⟩) 6 c,.slice (some ⟨g',0,none⟩) 6 c'] w fun e w'=>e=.returned (.bool true)/\Below w.heap.size w w':=by
 have H:Hid (IxOk w B g G C A/\IxOk w B' g' G' C' A'):=⟨h,h'⟩
 clear h h'
 go_enter Tryz.func121,Tryz.ntmps121
 go_wp2
 go_loopw [5] (fun i wr=>∃n:Nat,n<=6/\i=.int .i64 n/\Below w.heap.size w wr) (fun i _=>6-(intOf i).toNat)
 case atStart=>exact ⟨0,by omega,rfl,Below.refl _ _⟩
 case round=>
  obtain ⟨n,hn,rfl,hb⟩:=hrel
  have HB:Hid (Below w.heap.size w wr):=hb
  have HA:Hid (IxOk wr B g G C A/\IxOk wr B' g' G' C' A'):=⟨H.out.1.keep hb,H.out.2.keep hb⟩
  by_cases hlt:n<6
  ·have hni:(n:Int)<6:=by omega
   have r1:=HA.out.1.row.cell hlt
   have r2:=HA.out.2.row.cell hlt
   have hsz:=hb.size
   clear hb H
   go_wp2
   go_region_with (go_at_call 180;refine (eqTree_one (G n) (G' n) (C n) (C' n) (A n) (A' n) _ (by exact (HA.out.1.each n hlt).2) (by exact (HA.out.2.each n hlt).2)).mono ?_;rintro e w2 ⟨rfl,hb2⟩)
   all_goals
    have HX:Hid (Below w.heap.size w w2):=(HB.out.drew).trans (hb2.mono (by simpa using hsz))
    clear hb2 r1 r2 HA
    go_wp2
    go_roundw
    case rel=>exact ⟨n+1,by omega,by go_num,HX.out⟩
    case measure=>simp [intOf];omega
  ·have e:n=6:=by omega
   subst e
   clear hb H HA
   go_wp2
   go_ret
   exact ⟨rfl,HB.out⟩

set_option maxHeartbeats 1000000 in
theorem eqIndex_six (g c B g' c' B' : Nat) (G C G' C' : Nat->Nat) (A A' : Nat->Option Addr) (w:World) (h:IxOk w B g G C A) (h' : IxOk w B' g' G' C' A') :
  Calls Tryz.prog 71 #[.agg #[.slice (some ⟨g,0,none⟩) 6 c],.agg #[.slice (some ⟨g',0,none⟩) 6 c']] w fun e w'=>e=.returned (.bool true)/\Below w.heap.size w w':=by
 have H:Hid (∀o o',IxOk ((w.alloc o).alloc o') B g G C A/\IxOk ((w.alloc o).alloc o') B' g' G' C' A'):=fun o o'=>
  have q:Below w.heap.size w ((w.alloc o).alloc o'):=(below_alloc _ _).trans ((below_alloc _ _).mono (by simp))
  ⟨h.keep q,h'.keep q⟩
 clear h h'
 go_enter Tryz.func71,Tryz.ntmps71
 go_wp2_with fail
 refine (eqTreeS_six g c B g' c' B' G C G' C' A A' _ (H.out _ _).1 (H.out _ _).2).mono ?_
 rintro e w1 ⟨rfl,hb1⟩
 have HX:Hid (Below w.heap.size w w1):=((below_alloc _ _).trans ((below_alloc _ _).mono (by simp))).trans (hb1.mono (by simp;omega))
 clear hb1
 go_wp2
 go_ret
 exact ⟨rfl,HX.out⟩


def two {α:Type} (x y:α) (i:Nat):α:=if i=0 then x else y
def five {α:Type} (x0 x1 x2 x3 x4:α) (i:Nat):α:=if i=0 then x0 else if i=1 then x1 else if i=2 then x2 else if i=3 then x3 else x4

theorem rdS_two {W:World} {a0 a1:Option Addr} {n0 n1 c0 c1:Nat} {f0 f1:Nat->Int} {t:TypeId} (h0:Rd .u8 W a0 n0 f0) (h1:Rd .u8 W a1 n1 f1):RdS (W.alloc (.cells #[.slice a0 n0 c0,.slice a1 n1 c1] t)) W.heap.size 0 2 (two n0 n1) (two f0 f1):=by
 intro i hi
 match i,hi with
 | 0,_=>exact ⟨a0,c0,by simp [two],by simpa [two] using h0.below (below_alloc _ _)⟩
 | 1,_=>exact ⟨a1,c1,by simp [two],by simpa [two] using h1.below (below_alloc _ _)⟩

theorem rdS_five {W:World} {a0 a1 a2 a3 a4:Option Addr} {n0 n1 n2 n3 n4 c0 c1 c2 c3 c4:Nat} {f0 f1 f2 f3 f4:Nat->Int} {t:TypeId} (h0:Rd .u8 W a0 n0 f0) (h1:Rd .u8 W a1 n1 f1) (h2:Rd .u8 W a2 n2 f2) (h3:Rd .u8 W a3 n3 f3) (h4:Rd .u8 W a4 n4 f4) :
  RdS (W.alloc (.cells #[.slice a0 n0 c0,.slice a1 n1 c1,.slice a2 n2 c2,.slice a3 n3 c3,.slice a4 n4 c4] t)) W.heap.size 0 5 (five n0 n1 n2 n3 n4) (five f0 f1 f2 f3 f4):=by
 intro i hi
 match i,hi with
 | 0,_=>exact ⟨a0,c0,by simp [five],by simpa [five] using h0.below (below_alloc _ _)⟩
 | 1,_=>exact ⟨a1,c1,by simp [five],by simpa [five] using h1.below (below_alloc _ _)⟩
 | 2,_=>exact ⟨a2,c2,by simp [five],by simpa [five] using h2.below (below_alloc _ _)⟩
 | 3,_=>exact ⟨a3,c3,by simp [five],by simpa [five] using h3.below (below_alloc _ _)⟩
 | 4,_=>exact ⟨a4,c4,by simp [five],by simpa [five] using h4.below (below_alloc _ _)⟩

theorem seal_cat (f:Nat->Int) (j:Nat) (hj:j<64):catF (two 60 4) (two f (byteAt (crcV f))) 2 j=sealF f j:=by
 show (if j<60 then (if j<0 then (0:Int) else f (j-0)) else byteAt (crcV f) (j-60))=if 60<=j/\j<60+4 then byteAt (crcV f) (j-60) else f j
 by_cases h:j<60
 ·rw [if_pos h,if_neg (by omega),if_neg (by omega),Nat.sub_zero]
 ·rw [if_neg h,if_pos (by omega)]

theorem catL_five:∀k,k<=5->catL (five 4 2 2 4 48) k<=1048576:=by
 intro k hk
 match k,hk with
 | 0,_=>decide
 | 1,_=>decide
 | 2,_=>decide
 | 3,_=>decide
 | 4,_=>decide
 | 5,_=>decide

theorem byteAt_byte (ar:Int) (h0:0<=ar) (h1:ar<2):byteAt ar 0=ar:=by unfold byteAt;simp;omega

theorem super_cat (gen ar fi:Int) (h0:0<=ar) (h1:ar<2) (fq fa:Nat->Int) (hq0:fq 0=81) (hq1:fq 1=49) (ha0:fa 0=ar) (ha1:fa 1=0) (j:Nat) (hj:j<60) :
  catF (five 4 2 2 4 48) (five (byteAt gen) fq fa (byteAt fi) (fun _=>0)) 5 j=superH gen ar fi j:=by
 show (if j<12 then (if j<8 then (if j<6 then (if j<4 then (if j<0 then (0:Int) else byteAt gen (j-0)) else fq (j-4)) else fa (j-6)) else byteAt fi (j-8)) else 0)=if 8<=j/\j<8+4 then byteAt fi (j-8) else (if 6<=j/\j<6+1 then byteAt ar (j-6) else (if j=4+1 then 49 else if j=4 then 81 else (if 0<=j/\j<0+4 then byteAt gen (j-0) else 0)))
 by_cases c1:j<4
 ·rw [if_pos (by omega),if_pos (by omega),if_pos (by omega),if_pos c1,if_neg (by omega),if_neg (by omega),if_neg (by omega),if_neg (by omega),if_neg (by omega),if_pos (by omega)]
 ·by_cases c2:j<6
  ·rw [if_pos (by omega),if_pos (by omega),if_pos c2,if_neg c1,if_neg (by omega),if_neg (by omega)]
   by_cases e:j=4
   ·subst e
    rw [if_neg (by omega),if_pos rfl]
    exact hq0
   ·have e:j=5:=by omega
    subst e
    rw [if_pos rfl]
    exact hq1
  ·by_cases c3:j<8
   ·rw [if_pos (by omega),if_pos c3,if_neg c2,if_neg (by omega)]
    by_cases e:j=6
    ·subst e
     rw [if_pos (by omega)]
     show fa 0=byteAt ar 0
     rw [ha0,byteAt_byte ar h0 h1]
    ·have e:j=7:=by omega
     subst e
     rw [if_neg (by omega),if_neg (by omega),if_neg (by omega),if_neg (by omega)]
     exact ha1
   ·by_cases c4:j<12
    ·rw [if_pos c4,if_neg c3,if_pos (by omega)]
    ·rw [if_neg c4,if_neg (by omega),if_neg (by omega),if_neg (by omega),if_neg (by omega),if_neg (by omega)]

set_option maxHeartbeats 1000000 in
theorem l2Seal_any (a:Option Addr) (c:Nat) (f:Nat->Int) (w:World) (h:Rd .u8 w a 60 f) (hr:∀i,i<60->0<=f i/\f i<256) :
  Calls Tryz.prog 78 #[.slice a 60 c] w fun e w'=>RetOwn w e w' 64 (sealF f):=by
 have H:Hid (Rd .u8 w a 60 f):=h
 have HR:Hid (∀i,i<60->0<=f i/\f i<256):=hr
 have hcr:=crcV_range f
 clear h hr
 go_enter Tryz.func78,Tryz.ntmps78
 go_wp2_with fail
 refine (specCrc_any a 60 c f w H.out HR.out (by omega)).mono ?_
 rintro e w0 ⟨rfl,rfl⟩
 have hcv:bits .xor .u32 (crcTo f 60) 4294967295=crcV f:=rfl
 rw [hcv]
 clear hcv
 generalize hq:crcV f=cv at*
 go_wp2_with fail
 refine (l2Put_any cv 4 w0 (by omega) (by omega) (by omega)).mono ?_
 rintro e w1 ⟨a1,c1,rfl,ho1,hb1,-,-⟩
 have RS:Hid (RdS (w1.alloc (.cells #[.slice a 60 c,.slice a1 4 c1] 22)) w1.heap.size 0 2 (two 60 4) (two f (byteAt cv))):=rdS_two (H.out.below hb1) ho1.rd
 have HB1:Hid (Below w0.heap.size w0 w1):=hb1
 clear ho1 hb1
 go_wp2_with fail
 refine (l2Cat_any w1.heap.size 0 2 2 (two 60 4) (two f (byteAt cv)) _ RS.out (by omega) (fun k hk=>?_) (fun k hk=>?_)).mono ?_
 ·match k,hk with
  | 0,_=>simp [catL]
  | 1,_=>simp [catL,two]
  | 2,_=>simp [catL,two]
 ·unfold two;split <;> omega
 rintro e w2 ⟨a2,c2,rfl,ho2,hb2,hl2,hm2⟩
 have HX:Hid (RetOwn w0 (.returned (.slice a2 64 c2)) w2 64 (sealF f)):=by
  refine ⟨a2,c2,rfl,?_,?_,by simpa [catL,two] using hl2,hm2⟩
  ·have q:OwnB w2 w0.heap.size a2 64 (catF (two 60 4) (two f (byteAt cv)) 2):=by
    have:=ho2.mono (B':=w0.heap.size) (by have:=HB1.out.size;simp;omega)
    simpa [catL,two] using this
   exact q.congr (fun i hi=>by rw [<- hq];exact seal_cat f i hi)
  ·exact (HB1.out.alloc HB1.out.size _).trans (hb2.mono (by have:=HB1.out.size;simp;omega))
 clear ho2 hb2 hq
 go_wp2
 go_ret
 exact HX.out

set_option maxHeartbeats 1000000 in
theorem specW_2 (a p ad:Option Addr) (n c m q dl cp:Nat) (d S:Nat->Int) (L:Nat->Nat) (F:Nat->Nat->Int) (fuel:Int) (s:Int) (w:World) (ha:Rd .u8 w a n d) (hp:RdP w p m S L F) (hn:n<=1048576) (hm:m<=1048576) (hL:∀i,i<m->L i<=1048576) (hdl:dl<=1048576) (hv:VD n m S L fuel) :
  Calls Tryz.prog 33 #[.agg #[.slice a n c,.slice p m q,.int .i64 fuel,.bool true],.int .i64 s,.slice ad dl cp] w fun e w'=>RetD w e w' n d m S L F fuel true:=by
 have HA:Hid (Rd .u8 w a n d):=ha
 have HP:Hid (RdP w p m S L F):=hp
 have HLL:Hid (∀i,i<m->L i<=1048576):=hL
 have HFIN:Hid (∀W:World,Below (w.heap.size+2) ((w.alloc (.cells #[.slice a n c,.slice p m q,.int .i64 fuel,.bool true] 25)).alloc (.cells #[.slice none 0 0,.slice none 0 0,.int .i64 0,.bool false] 25)) W->Below w.heap.size w W):=fun W h=>(below_alloc2' _ _ _).trans (h.mono (by omega))
 have HE2:Hid (∀o1 o2,((w.alloc o1).alloc o2).heap.size=w.heap.size+2):=fun _ _=>by simp
 have HV:Hid (VD n m S L fuel):=hv
 clear ha hp hL hv
 go_enter Tryz.func33,Tryz.ntmps33
 go_wp2_with fail
 refine (specValid_any a p n c m q S L F fuel true _ (HP.out.below (below_alloc2' _ _ _)) hn hm).mono ?_
 rintro e w1 ⟨h1,hb1⟩
 have e1:=ans_true' h1 HV.out
 subst e1
 rw [HE2.out] at hb1
 have K1:Hid (Below (w.heap.size+2) ((w.alloc (.cells #[.slice a n c,.slice p m q,.int .i64 fuel,.bool true] 25)).alloc (.cells #[.slice none 0 0,.slice none 0 0,.int .i64 0,.bool false] 25)) w1):=hb1
 have z1:w.heap.size+2<=w1.heap.size:=by have:=K1.out.size;rw [HE2.out] at this;exact this
 have hc1:∀b o,b<w.heap.size+2->w1.cell? ⟨b,o,none⟩=_:=fun b o hb=>K1.out.cell (p:=⟨b,o,none⟩) hb
 clear hb1 h1
 go_wp2_with fail
 refine (l1Copy_any a p n c m q d S L F fuel true w1 (HA.out.below (HFIN.out _ K1.out)) (HP.out.below (HFIN.out _ K1.out)) hn hm HLL.out).mono ?_
 rintro e w9 ⟨a9,c9,p9,q9,A9,rfl,ho9,hb9⟩
 have K9:Below (w.heap.size+2) ((w.alloc (.cells #[.slice a n c,.slice p m q,.int .i64 fuel,.bool true] 25)).alloc (.cells #[.slice none 0 0,.slice none 0 0,.int .i64 0,.bool false] 25)) w9:=K1.out.trans (hb9.mono (by omega))
 have hc9:∀b o,b<w.heap.size+2->w9.cell? ⟨b,o,none⟩=_:=fun b o hb=>K9.cell (p:=⟨b,o,none⟩) hb
 have hf9:∀b o,b<w.heap.size+2->w9.frozen? ⟨b,o,none⟩=_:=fun b o hb=>K9.frozen (p:=⟨b,o,none⟩) hb
 have hz9:w.heap.size+1<w9.heap.size:=by have:=hb9.size;omega
 have HX:Hid (OwnD w9 (w.heap.size+2) a9 n d p9 m S L F A9/\Below w.heap.size w w9):=⟨ho9.mono (by omega),HFIN.out _ K9⟩
 clear ho9 hb9 K9 hc1
 go_wp2
 refine bodyPost_ret (v:=.agg #[.slice a9 n c9,.slice p9 m q9,.int .i64 fuel,.bool true]) (by simp [results,Tryz.results33,go_sem,hc9]) rfl ⟨a9,c9,p9,q9,A9,rfl,?_,?_⟩
 ·exact ((((HX.out.1.setOther (by simp) _).setOther (by simp) _).setOther (by simp) _).setOther (by simp) _).mono (by omega)
 ·exact (((HX.out.2.setCell (by simp;try omega) _).setCell (by simp;try omega) _).setCell (by simp;try omega) _).setCell (by simp;try omega) _

set_option maxHeartbeats 1000000 in
theorem specW_6 (a p ad:Option Addr) (n c m q cp:Nat) (d S:Nat->Int) (L:Nat->Nat) (F:Nat->Nat->Int) (fuel:Int) (s:Int) (w:World) (ha:Rd .u8 w a n d) (hp:RdP w p m S L F) (hn:n<=1048576) (hm:m<=1048576) (hL:∀i,i<m->L i<=1048576) (hv:VD n m S L fuel) (hs:¬ s<0) (hs2:¬ (n:Int) / 64<=s) (hfull:m=2000) :
  Calls Tryz.prog 33 #[.agg #[.slice a n c,.slice p m q,.int .i64 fuel,.bool false],.int .i64 s,.slice ad 64 cp] w fun e w'=>RetD w e w' n d m S L F fuel false:=by
 have HA:Hid (Rd .u8 w a n d):=ha
 have HP:Hid (RdP w p m S L F):=hp
 have HLL:Hid (∀i,i<m->L i<=1048576):=hL
 have HFIN:Hid (∀W:World,Below (w.heap.size+2) ((w.alloc (.cells #[.slice a n c,.slice p m q,.int .i64 fuel,.bool false] 25)).alloc (.cells #[.slice none 0 0,.slice none 0 0,.int .i64 0,.bool false] 25)) W->Below w.heap.size w W):=fun W h=>(below_alloc2' _ _ _).trans (h.mono (by omega))
 have HE2:Hid (∀o1 o2,((w.alloc o1).alloc o2).heap.size=w.heap.size+2):=fun _ _=>by simp
 have HV:Hid (VD n m S L fuel):=hv
 have hm' : ((m:Int) == 2000)=true:=by simp;omega
 clear ha hp hL hv hfull
 go_enter Tryz.func33,Tryz.ntmps33
 go_wp2_with fail
 refine (specValid_any a p n c m q S L F fuel false _ (HP.out.below (below_alloc2' _ _ _)) hn hm).mono ?_
 rintro e w1 ⟨h1,hb1⟩
 have e1:=ans_true' h1 HV.out
 subst e1
 rw [HE2.out] at hb1
 have K1:Hid (Below (w.heap.size+2) ((w.alloc (.cells #[.slice a n c,.slice p m q,.int .i64 fuel,.bool false] 25)).alloc (.cells #[.slice none 0 0,.slice none 0 0,.int .i64 0,.bool false] 25)) w1):=hb1
 have z1:w.heap.size+2<=w1.heap.size:=by have:=K1.out.size;rw [HE2.out] at this;exact this
 have hc1:∀b o,b<w.heap.size+2->w1.cell? ⟨b,o,none⟩=_:=fun b o hb=>K1.out.cell (p:=⟨b,o,none⟩) hb
 clear hb1 h1
 go_wp2_with fail
 refine (l1Sectors_any a p n c m q fuel false w1 hn).mono ?_
 rintro e w2 ⟨rfl,hb2⟩
 have z2:=hb2.size
 have K2:Hid (Below (w.heap.size+2) ((w.alloc (.cells #[.slice a n c,.slice p m q,.int .i64 fuel,.bool false] 25)).alloc (.cells #[.slice none 0 0,.slice none 0 0,.int .i64 0,.bool false] 25)) w2):=K1.out.trans (hb2.mono z1)
 clear hc1 hb2
 have hc2:∀b o,b<w.heap.size+2->w2.cell? ⟨b,o,none⟩=_:=fun b o hb=>K2.out.cell (p:=⟨b,o,none⟩) hb
 go_wp2_with fail
 refine (l1Copy_any a p n c m q d S L F fuel false w2 (HA.out.below (HFIN.out _ K2.out)) (HP.out.below (HFIN.out _ K2.out)) hn hm HLL.out).mono ?_
 rintro e w9 ⟨a9,c9,p9,q9,A9,rfl,ho9,hb9⟩
 have K9:Below (w.heap.size+2) ((w.alloc (.cells #[.slice a n c,.slice p m q,.int .i64 fuel,.bool false] 25)).alloc (.cells #[.slice none 0 0,.slice none 0 0,.int .i64 0,.bool false] 25)) w9:=K2.out.trans (hb9.mono (by omega))
 have hc9:∀b o,b<w.heap.size+2->w9.cell? ⟨b,o,none⟩=_:=fun b o hb=>K9.cell (p:=⟨b,o,none⟩) hb
 have hf9:∀b o,b<w.heap.size+2->w9.frozen? ⟨b,o,none⟩=_:=fun b o hb=>K9.frozen (p:=⟨b,o,none⟩) hb
 have hz9:w.heap.size+1<w9.heap.size:=by have:=hb9.size;omega
 have HX:Hid (OwnD w9 (w.heap.size+2) a9 n d p9 m S L F A9/\Below w.heap.size w w9):=⟨ho9.mono (by omega),HFIN.out _ K9⟩
 clear ho9 hb9 K9 hc2
 go_wp2
 refine bodyPost_ret (v:=.agg #[.slice a9 n c9,.slice p9 m q9,.int .i64 fuel,.bool false]) (by simp [results,Tryz.results33,go_sem,hc9]) rfl ⟨a9,c9,p9,q9,A9,rfl,?_,?_⟩
 ·exact ((((HX.out.1.setOther (by simp) _).setOther (by simp) _).setOther (by simp) _).setOther (by simp) _).mono (by omega)
 ·exact (((HX.out.2.setCell (by simp;try omega) _).setCell (by simp;try omega) _).setCell (by simp;try omega) _).setCell (by simp;try omega) _

set_option maxHeartbeats 1000000 in
theorem specW_zero (a p ad:Option Addr) (n c m q cp:Nat) (d S:Nat->Int) (L:Nat->Nat) (F:Nat->Nat->Int) (s:Int) (w:World) (ha:Rd .u8 w a n d) (hp:RdP w p m S L F) (hn:n<=1048576) (hm:m<=1048576) (hL:∀i,i<m->L i<=1048576) (hv:VD n m S L 0) (hs:¬ s<0) (hs2:¬ (n:Int) / 64<=s) (hfull:¬ m=2000) :
  Calls Tryz.prog 33 #[.agg #[.slice a n c,.slice p m q,.int .i64 0,.bool false],.int .i64 s,.slice ad 64 cp] w fun e w'=>RetG w e w' n d m S L F 0 true:=by
 have HA:Hid (Rd .u8 w a n d):=ha
 have HP:Hid (RdP w p m S L F):=hp
 have HLL:Hid (∀i,i<m->L i<=1048576):=hL
 have HFIN:Hid (∀W:World,Below (w.heap.size+2) ((w.alloc (.cells #[.slice a n c,.slice p m q,.int .i64 0,.bool false] 25)).alloc (.cells #[.slice none 0 0,.slice none 0 0,.int .i64 0,.bool false] 25)) W->Below w.heap.size w W):=fun W h=>(below_alloc2' _ _ _).trans (h.mono (by omega))
 have HE2:Hid (∀o1 o2,((w.alloc o1).alloc o2).heap.size=w.heap.size+2):=fun _ _=>by simp
 have HV:Hid (VD n m S L 0):=hv
 have hm' : ((m:Int) == 2000)=false:=by simp;omega
 clear ha hp hL hv hfull
 go_enter Tryz.func33,Tryz.ntmps33
 go_wp2_with fail
 refine (specValid_any a p n c m q S L F 0 false _ (HP.out.below (below_alloc2' _ _ _)) hn hm).mono ?_
 rintro e w1 ⟨h1,hb1⟩
 have e1:=ans_true' h1 HV.out
 subst e1
 rw [HE2.out] at hb1
 have K1:Hid (Below (w.heap.size+2) ((w.alloc (.cells #[.slice a n c,.slice p m q,.int .i64 0,.bool false] 25)).alloc (.cells #[.slice none 0 0,.slice none 0 0,.int .i64 0,.bool false] 25)) w1):=hb1
 have z1:w.heap.size+2<=w1.heap.size:=by have:=K1.out.size;rw [HE2.out] at this;exact this
 have hc1:∀b o,b<w.heap.size+2->w1.cell? ⟨b,o,none⟩=_:=fun b o hb=>K1.out.cell (p:=⟨b,o,none⟩) hb
 clear hb1 h1
 go_wp2_with fail
 refine (l1Sectors_any a p n c m q 0 false w1 hn).mono ?_
 rintro e w2 ⟨rfl,hb2⟩
 have z2:=hb2.size
 have K2:Hid (Below (w.heap.size+2) ((w.alloc (.cells #[.slice a n c,.slice p m q,.int .i64 0,.bool false] 25)).alloc (.cells #[.slice none 0 0,.slice none 0 0,.int .i64 0,.bool false] 25)) w2):=K1.out.trans (hb2.mono z1)
 clear hc1 hb2
 have hc2:∀b o,b<w.heap.size+2->w2.cell? ⟨b,o,none⟩=_:=fun b o hb=>K2.out.cell (p:=⟨b,o,none⟩) hb
 go_wp2_with fail
 refine (l1Step_zero a p n c m q d S L F false w2 (HA.out.below (HFIN.out _ K2.out)) (HP.out.below (HFIN.out _ K2.out)) hn hm HLL.out).mono ?_
 rintro e w3 ⟨a3,c3,p3,q3,A3,C3,rfl,ho3,hg3,hx3,hb3,hl3,hm3⟩
 have z3:=hb3.size
 have K3:Hid (Below (w.heap.size+2) ((w.alloc (.cells #[.slice a n c,.slice p m q,.int .i64 0,.bool false] 25)).alloc (.cells #[.slice none 0 0,.slice none 0 0,.int .i64 0,.bool false] 25)) w3):=K2.out.trans (hb3.mono (by omega))
 have HX:Hid ((OwnB w3 (w.heap.size+2) a3 n d/\Gath w3 (w.heap.size+2) (.slice p3 m q3) m S L F A3 C3/\(n≠0->∀i,i<m->L i≠0->A3 i≠a3))/\Below w.heap.size w w3):=⟨⟨ho3.mono (by omega),hg3.mono (by omega),hx3⟩,HFIN.out _ K3.out⟩
 have DB:Hid (DkRow w3 (w.heap.size+1) (.slice none 0 0) (.slice none 0 0) 0 false):=box_res K3.out
 have al:∀O o,(w3.alloc O).cell? ⟨w.heap.size+1,o,none⟩=w3.cell? ⟨w.heap.size+1,o,none⟩:=fun O o=>World.cell?_of_block (Below.heap_alloc _ _ _ (by show w.heap.size+1<_;omega))
 have af:∀O o,(w3.alloc O).frozen? ⟨w.heap.size+1,o,none⟩=w3.frozen? ⟨w.heap.size+1,o,none⟩:=fun O o=>(below_alloc w3 O).frozen (p:=⟨w.heap.size+1,o,none⟩) (by show w.heap.size+1<_;omega)
 have r0:∀O,(w3.alloc O).cell? ⟨w.heap.size+1,0,none⟩=some (.slice none 0 0):=fun O=>(al O 0).trans DB.out.cells.1
 have r1:∀O,(w3.alloc O).cell? ⟨w.heap.size+1,1,none⟩=some (.slice none 0 0):=fun O=>(al O 1).trans DB.out.cells.2.1
 have r2:∀O,(w3.alloc O).cell? ⟨w.heap.size+1,2,none⟩=some (.int .i64 0):=fun O=>(al O 2).trans DB.out.cells.2.2.1
 have r3:∀O,(w3.alloc O).cell? ⟨w.heap.size+1,3,none⟩=some (.bool false):=fun O=>(al O 3).trans DB.out.cells.2.2.2.1
 have rf:∀O o,(w3.alloc O).frozen? ⟨w.heap.size+1,o,none⟩=false:=fun O o=>(af O o).trans (DB.out.cells.2.2.2.2.1 o)
 have rl:w.heap.size+1<w3.heap.size:=by omega
 clear al af hc2
 obtain ⟨d0,d1,d2,d3,df,dl⟩:=DB.out.cells
 clear ho3 hg3 hx3 hb3
 go_wp2
 have DR:Hid (DkRow ((set4 w3 (w.heap.size+1) (.slice a3 n c3) (.slice p3 m q3) 0 true).alloc (.cells #[.slice a3 n c3,.slice p3 m q3,.int .i64 0,.bool true] 25)) (w.heap.size+1) (.slice a3 n c3) (.slice p3 m q3) 0 true):=(dk_set4 DB.out).below (below_alloc _ _)
 obtain ⟨y0,y1,y2,y3,yf,yl⟩:=DR.out.cells
 clear r0 r1 r2 r3 rf d0 d1 d2 d3 df
 unfold set4 at y0 y1 y2 y3
 refine bodyPost_ret (v:=.agg #[.slice a3 n c3,.slice p3 m q3,.int .i64 0,.bool true]) (by simp [results,Tryz.results33,go_sem,y0,y1,y2,y3]) rfl ⟨a3,c3,p3,q3,A3,C3,rfl,?_,?_,HX.out.1.2.2,?_,hl3,hm3⟩
 ·exact (((((HX.out.1.1.setOther (by simp) _).setOther (by simp) _).setOther (by simp) _).setOther (by simp) _).below (below_alloc _ _)).mono (by omega)
 ·exact (((((HX.out.1.2.1.setOther (by simp) _).setOther (by simp) _).setOther (by simp) _).setOther (by simp) _).below (below_alloc _ _)).mono (by omega)
 ·exact (((((HX.out.2.setCell (by simp) _).setCell (by simp) _).setCell (by simp) _).setCell (by simp) _).alloc (by simpa using HX.out.2.size) _)

set_option maxHeartbeats 1000000 in
theorem specW_live (a p ad:Option Addr) (n c m q cp:Nat) (d S:Nat->Int) (L:Nat->Nat) (F:Nat->Nat->Int) (fuel:Int) (s:Int) (w:World) (ha:Rd .u8 w a n d) (hp:RdP w p m S L F) (hn:n<=1048576) (hm:m<=1048576) (hL:∀i,i<m->L i<=1048576) (f:Nat->Int) (hrd:Rd .u8 w ad 64 f) (hv:VD n m S L fuel) (hs:¬ s<0) (hs2:¬ (n:Int) / 64<=s) (hfull:¬ m=2000) (hf0:fuel≠0) (hf1:-1<=fuel) (hf2:fuel<=1000000) :
  Calls Tryz.prog 33 #[.agg #[.slice a n c,.slice p m q,.int .i64 fuel,.bool false],.int .i64 s,.slice ad 64 cp] w fun e w'=>RetG w e w' n d (m+1) (fun i=>if i=m then s else S i) (fun i=>if i=m then 64 else L i) (fun i=>if i=m then f else F i) (fuelAfter fuel) false:=by
 have HA:Hid (Rd .u8 w a n d):=ha
 have HP:Hid (RdP w p m S L F):=hp
 have HLL:Hid (∀i,i<m->L i<=1048576):=hL
 have HFIN:Hid (∀W:World,Below (w.heap.size+2) ((w.alloc (.cells #[.slice a n c,.slice p m q,.int .i64 fuel,.bool false] 25)).alloc (.cells #[.slice none 0 0,.slice none 0 0,.int .i64 0,.bool false] 25)) W->Below w.heap.size w W):=fun W h=>(below_alloc2' _ _ _).trans (h.mono (by omega))
 have HE2:Hid (∀o1 o2,((w.alloc o1).alloc o2).heap.size=w.heap.size+2):=fun _ _=>by simp
 have HV:Hid (VD n m S L fuel):=hv
 have HR:Hid (Rd .u8 w ad 64 f):=hrd
 have hm' : ((m:Int) == 2000)=false:=by simp;omega
 clear ha hp hL hv hrd hfull
 go_enter Tryz.func33,Tryz.ntmps33
 go_wp2_with fail
 refine (specValid_any a p n c m q S L F fuel false _ (HP.out.below (below_alloc2' _ _ _)) hn hm).mono ?_
 rintro e w1 ⟨h1,hb1⟩
 have e1:=ans_true' h1 HV.out
 subst e1
 rw [HE2.out] at hb1
 have K1:Hid (Below (w.heap.size+2) ((w.alloc (.cells #[.slice a n c,.slice p m q,.int .i64 fuel,.bool false] 25)).alloc (.cells #[.slice none 0 0,.slice none 0 0,.int .i64 0,.bool false] 25)) w1):=hb1
 have z1:w.heap.size+2<=w1.heap.size:=by have:=K1.out.size;rw [HE2.out] at this;exact this
 have hc1:∀b o,b<w.heap.size+2->w1.cell? ⟨b,o,none⟩=_:=fun b o hb=>K1.out.cell (p:=⟨b,o,none⟩) hb
 clear hb1 h1
 go_wp2_with fail
 refine (l1Sectors_any a p n c m q fuel false w1 hn).mono ?_
 rintro e w2 ⟨rfl,hb2⟩
 have z2:=hb2.size
 have K2:Hid (Below (w.heap.size+2) ((w.alloc (.cells #[.slice a n c,.slice p m q,.int .i64 fuel,.bool false] 25)).alloc (.cells #[.slice none 0 0,.slice none 0 0,.int .i64 0,.bool false] 25)) w2):=K1.out.trans (hb2.mono z1)
 clear hc1 hb2
 have hc2:∀b o,b<w.heap.size+2->w2.cell? ⟨b,o,none⟩=_:=fun b o hb=>K2.out.cell (p:=⟨b,o,none⟩) hb
 go_wp2_with fail
 refine (l1Step_live a p n c m q d S L F fuel false w2 (HA.out.below (HFIN.out _ K2.out)) (HP.out.below (HFIN.out _ K2.out)) hf0 hf1 hf2 hn hm HLL.out).mono ?_
 rintro e w3 ⟨a3,c3,p3,q3,A3,C3,rfl,ho3,hg3,hx3,hb3,hl3,hm3⟩
 have z3:=hb3.size
 have K3:Below (w.heap.size+2) ((w.alloc (.cells #[.slice a n c,.slice p m q,.int .i64 fuel,.bool false] 25)).alloc (.cells #[.slice none 0 0,.slice none 0 0,.int .i64 0,.bool false] 25)) w3:=K2.out.trans (hb3.mono (by omega))
 have HX:Hid (DkRow (w3.alloc (.cells #[.slice a3 n c3,.slice p3 m q3,.int .i64 (fuelAfter fuel),.bool false] 25)) w3.heap.size (.slice a3 n c3) (.slice p3 m q3) (fuelAfter fuel) false/\OwnB (w3.alloc (.cells #[.slice a3 n c3,.slice p3 m q3,.int .i64 (fuelAfter fuel),.bool false] 25)) (w.heap.size+2) a3 n d/\Gath (w3.alloc (.cells #[.slice a3 n c3,.slice p3 m q3,.int .i64 (fuelAfter fuel),.bool false] 25)) (w.heap.size+2) (.slice p3 m q3) m (fun i=>if i=m then s else S i) (fun i=>if i=m then 64 else L i) (fun i=>if i=m then f else F i) A3 C3/\Below (w.heap.size+2) ((w.alloc (.cells #[.slice a n c,.slice p m q,.int .i64 fuel,.bool false] 25)).alloc (.cells #[.slice none 0 0,.slice none 0 0,.int .i64 0,.bool false] 25)) (w3.alloc (.cells #[.slice a3 n c3,.slice p3 m q3,.int .i64 (fuelAfter fuel),.bool false] 25))):=
  ⟨rowInNew _ _ _ _ _,(ho3.mono (by omega)).below (below_alloc _ _),((hg3.mono (by omega)).below (below_alloc _ _)).congr (fun i hi=>by simp [Nat.ne_of_lt hi]) (fun i hi=>by simp [Nat.ne_of_lt hi]) (fun i hi=>by simp [Nat.ne_of_lt hi]),K3.alloc (by omega) _⟩
 have HAP:Hid (n≠0->∀i,i<m->(fun i=>if i=m then 64 else L i) i≠0->A3 i≠a3):=fun h i hi hl=>hx3 h i hi (by simpa [Nat.ne_of_lt hi] using hl)
 have hbo:w.heap.size+2<=w3.heap.size:=by omega
 clear ho3 hg3 hx3 hb3 K3 hc2
 go_wp2
 generalize hbx:w3.heap.size=bo at HX hbo ⊢
 generalize hwx:w3.alloc (.cells #[.slice a3 n c3,.slice p3 m q3,.int .i64 (fuelAfter fuel),.bool false] 25)=wr at HX ⊢
 clear hbx hwx
 obtain ⟨d0,d1,d2,d3,df,dl⟩:=HX.out.1.cells
 have hzr:w.heap.size+2<=wr.heap.size:=by have:=HX.out.2.2.2.size;rw [HE2.out] at this;exact this
 have G3:Hid (Gath wr (w.heap.size+2) (.slice p3 m q3) m (fun i=>if i=m then s else S i) (fun i=>if i=m then 64 else L i) (fun i=>if i=m then f else F i) A3 C3):=HX.out.2.2.1
 have B1:Hid (Below wr.heap.size wr (wr.alloc (.cells #[] 5)).drew):=(below_alloc _ _).drew
 have E3:Hid (Rd .u8 (wr.alloc (.cells #[] 5)).drew ad 64 f/\(wr.alloc (.cells #[] 5)).drew.heap[wr.heap.size]?=some (.cells #[] 5 (0,0))/\wr.heap.size<=(wr.alloc (.cells #[] 5)).drew.heap.size):=⟨(HR.out.below (HFIN.out _ HX.out.2.2.2)).below (below_alloc _ _).drew,blk_alloc_new _ _,B1.out.size⟩
 have HT:Hid (∀w4:World,(wr.alloc (.cells #[] 5)).drew.grownBy w4 (some wr.heap.size)->Below wr.heap.size wr w4):=fun w4 hg=>B1.out.grown hg B1.out.size (fun j e=>by injection e with e;omega)
 have HC:Hid (∀w4:World,Below wr.heap.size wr w4->w4.cell? ⟨bo,1,none⟩=some (.slice p3 m q3)):=fun w4 hb=>(hb.cell (p:=⟨bo,1,none⟩) dl).trans d1
 have HD:Hid (∀(w4 w5:World) (O:Obj),Below wr.heap.size wr w4->(w4.alloc O).grownBy w5 (Value.ownBlock (.slice p3 m q3))->DkRow w5 bo (.slice a3 n c3) (.slice p3 m q3) (fuelAfter fuel) false):=by
  intro w4 w5 O hb hg
  have hs:=hb.size
  have hne:Value.ownBlock (.slice p3 m q3)≠some bo:=G3.out.notDk HX.out.1
  exact rowIn.of_block (HX.out.1.below hb) ((hg.block bo (by simp;omega) (fun e=>hne e.symm)).trans (Below.heap_alloc _ _ _ (by omega)))
 refine wp_region_late (S:=(fun w'=>w'.cell? ⟨bo,1,none⟩=some (.slice p3 m q3))) 10 (by kernel_rfl) ?_ (fun hHeld=>?_)
 ·((try dsimp only);go_keep)
 refine tk 0 .zero (v:=?_) ?_ ?_
 rotate_left
 ·(intro w h;(try dsimp only at h);go_simp) <;> with_reducible rfl
 simp only [tkp]
 refine tk 1 (.succ .zero) (v:=?_) ?_ ?_
 rotate_left
 ·(intro w h;(try dsimp only at h);go_simp) <;> with_reducible rfl
 simp only [tkp]
 refine tk 2 (.succ (.succ .zero)) (v:=?_) ?_ ?_
 rotate_left
 ·(intro w h;(try dsimp only at h);go_simp) <;> with_reducible rfl
 simp only [tkp]
 refine tk 4 (.succ (.succ (.succ (.succ .zero)))) (v:=?_) ?_ ?_
 rotate_left
 ·(intro w h;(try dsimp only at h);go_simp) <;> with_reducible rfl
 simp only [tkp]
 refine tk1 3 (.succ (.succ (.succ .zero))) (fun K hK=>?_)
 go_simp
 refine hK.out _ _ ?_ (fun hG=>?_)
 ·(intro _;(try dsimp only);go_keep)
 clear hK K
 replace hHeld:=hG (by decide)
 clear hG
 try simp only [tkp]
 refine tk1 5 (.s5 .zero) (fun K hK=>?_)
 (refine step_append_rd0 (by rfl) (.tmp 46) (.tmp 47) (by rfl) wr.heap.size wr.heap.size (by rfl) E3.out.2.1 (Nat.le_refl _) ad 64 cp f (by rfl) E3.out.1 (by omega) E3.out.2.2 ?_;intro a2 c2 w4 ho4 hg4 _ _;have k0:=HC.out w4 (HT.out w4 hg4))
 refine hK.out _ _ ?_ (fun hG=>?_)
 ·(intro _;(try dsimp only);go_keep)
 clear hK K
 replace hHeld:=hG (by decide)
 clear hG
 try simp only [tkp]
 refine tk 6 (.s5 (.succ .zero)) (v:=?_) ?_ ?_
 rotate_left
 ·(intro w h;(try dsimp only at h);go_simp) <;> with_reducible rfl
 simp only [tkp]
 refine tk1 7 (.s5 (.succ (.succ .zero))) (fun K hK=>?_)
 go_simp
 refine hK.out _ _ ?_ (fun hG=>?_)
 ·(intro _;(try dsimp only);go_keep)
 clear hK K
 replace hHeld:=hG (by decide)
 clear hG
 try simp only [tkp]
 refine tk1 8 (.s5 (.succ (.succ (.succ .zero)))) (fun K hK=>?_)
 (refine step_append_made (by rfl) (.tmp 44) (.tmp 50) (by rfl) (w.heap.size+2) m (.slice p3 m q3) (pendRow (fun i=>if i=m then s else S i) A3 (fun i=>if i=m then 64 else L i) C3 m) s a2 64 c2 (by rfl) (owns_below G3.out.row (HT.out w4 hg4)) (by rfl) hm (Nat.le_trans hzr (HT.out w4 hg4).size) ?_;intro v5 w5 hr5 hg5;obtain ⟨p5,q5,hv5⟩:=owns_shape hr5;subst hv5;have yd:=HD.out w4 w5 _ (HT.out w4 hg4) hg5;obtain ⟨y0,y1,y2,y3,yf,yl⟩:=yd.cells)
 refine hK.out _ _ ?_ (fun hG=>?_)
 ·(intro _;(try dsimp only);go_keep)
 clear hK K
 replace hHeld:=hG (by decide)
 clear hG
 try simp only [tkp]
 refine tk 9 (.s5 (.succ (.succ (.succ (.succ .zero))))) (v:=?_) ?_ ?_
 rotate_left
 ·(intro w h;(try dsimp only at h);go_simp) <;> with_reducible rfl
 simp only [tkp]
 refine tk1 10 (.s5 (.s5 .zero)) (fun K hK=>?_)
 go_simp
 refine hK.out _ _ ?_ (fun hG=>?_)
 ·(intro hne;exact absurd rfl hne)
 clear hK K hG
 refine wpLate_done (by kernel_rfl) ?_ _
 have HY:Hid (DkRow (w5.setCell ⟨bo,1,none⟩ (.slice p5 (m+1) q5)) bo (.slice a3 n c3) (.slice p5 (m+1) q5) (fuelAfter fuel) false/\OwnB (w5.setCell ⟨bo,1,none⟩ (.slice p5 (m+1) q5)) (w.heap.size+2) a3 n d/\Gath (w5.setCell ⟨bo,1,none⟩ (.slice p5 (m+1) q5)) (w.heap.size+2) (.slice p5 (m+1) q5) (m+1) (fun i=>if i=m then s else S i) (fun i=>if i=m then 64 else L i) (fun i=>if i=m then f else F i) (fun i=>if i=m then a2 else A3 i) (fun i=>if i=m then c2 else C3 i)/\(n≠0->∀i,i<m+1->(fun i=>if i=m then 64 else L i) i≠0->(if i=m then a2 else A3 i)≠a3)/\Below (w.heap.size+2) ((w.alloc (.cells #[.slice a n c,.slice p m q,.int .i64 fuel,.bool false] 25)).alloc (.cells #[.slice none 0 0,.slice none 0 0,.int .i64 0,.bool false] 25)) (w5.setCell ⟨bo,1,none⟩ (.slice p5 (m+1) q5))):=
  copy_more hbo hzr HX.out.1 HX.out.2.1 G3.out HAP.out HX.out.2.2.2 (HT.out w4 hg4) (by simpa using ho4) (by simpa using hr5) hg5 yd
 generalize hwy:w5.setCell ⟨bo,1,none⟩ (.slice p5 (m+1) q5)=w6 at HY ⊢
 clear hwy hr5 hg5 ho4 hg4 yd y0 y1 y2 y3 yf yl k0 hHeld HD HC HT E3 B1 d0 d1 d2 d3 df dl
 obtain ⟨d0,d1,d2,d3,df,dl⟩:=HY.out.1.cells
 obtain ⟨r0,r1,r2,r3,rf,rl⟩:=(box_res HY.out.2.2.2.2).cells
 go_wp2
 refine bodyPost_ret (v:=.agg #[.slice a3 n c3,.slice p5 (m+1) q5,.int .i64 (fuelAfter fuel),.bool false]) (by simp [results,Tryz.results33,go_sem,r0,r1,r2,r3]) rfl ⟨a3,c3,p5,q5,(fun i=>if i=m then a2 else A3 i),(fun i=>if i=m then c2 else C3 i),rfl,?_,?_,HY.out.2.2.2.1,?_,hl3,hm3⟩
 ·exact ((((HY.out.2.1.setOther (by simp) _).setOther (by simp) _).setOther (by simp) _).setOther (by simp) _).mono (by omega)
 ·exact ((((HY.out.2.2.1.setOther (by simp) _).setOther (by simp) _).setOther (by simp) _).setOther (by simp) _).mono (by omega)
 ·exact (((((HFIN.out _ HY.out.2.2.2.2).setCell (by simp) _).setCell (by simp) _).setCell (by simp) _).setCell (by simp) _)
end Go.Proofs.YtbmffmifemebmaaGreatDoor
