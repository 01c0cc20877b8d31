import Derived.Test.YtbmffmifemebmaaGreatDoorNz18
import Derived.Test.YtbmffmifemebmaaGreatDoorNz15
import Derived.Maps.AppendAt
import Derived.Test.YtbmffmifemebmaaGreatDoorNz6
import Derived.Test.YtbmffmifemebmaaGreatDoorNz12
import Derived.Test.YtbmffmifemebmaaGreatDoorNz1
import Derived.Test.YtbmffmifemebmaaGreatDoorNz7
import Derived.Test.YtbmffmifemebmaaGreatDoorNz13
import Derived.Deep.RegionHeld3
set_option linter.unusedVariables false
set_option maxRecDepth 100000
namespace Go.Proofs.YtbmffmifemebmaaGreatDoor
open Go.RowKit Go.Deep

theorem rdMarkR {w:World} {g:Nat} {fr:Nat × Nat} (h:w.heap[g]?=some (.cells #[.int .u8 82,.int .u8 49] 5 fr)):Rd .u8 w (some ⟨g,0,none⟩) 2 (two 82 49):=by
 refine Or.inr ⟨_,0,rfl,fun i hi=>?_⟩
 match i,hi with
 | 0,_=>simp [two,World.cell?,h]
 | 1,_=>simp [two,World.cell?,h]

theorem convMarkR {B:Nat} (w:World) (g:Nat) (fr:Nat × Nat) (hg:B<=g) (h:w.heap[g]?=some (.cells #[.int .u8 82,.int .u8 49] 5 fr)) :
  ∃w',(convert 22 22 (.slice (some ⟨g,0,none⟩) 2 2)).run Tryz.prog w=.ok (.slice (some ⟨g,0,none⟩) 2 2) w'/\ExtM B w w':=by
 have hsh:w.shape? g=some (5,2):=by unfold World.shape?;rw [h];rfl
 refine ⟨w.freeze ⟨g,2,none⟩ 1,?_,⟨rfl,rfl,rfl,by simp [World.freeze],fun k hk=>?_⟩,fun k c t f hc=>?_⟩
 ·simp [convert,run_underlying underBytes,run_underlying (show Tryz.prog.underlying 5=some (.int .u8) by kernel_rfl),markStringish,hsh]
 ·unfold World.freeze
  rw [if_neg (by decide)]
  show (w.heap.modify g _)[k]?=_
  rw [Array.getElem?_modify,if_neg (by omega)]
 ·unfold World.freeze
  rw [if_neg (by decide)]
  show ∃fr',(w.heap.modify g _)[k]?=_/\_
  rw [Array.getElem?_modify]
  by_cases e:g=k
  ·subst e
   rw [h] at hc
   injection hc with hc
   injection hc with e1 e2 e3
   subst e1 e2 e3
   rw [if_pos rfl,h]
   exact ⟨_,rfl,Or.inr (Nat.le_refl _)⟩
  ·rw [if_neg e]
   exact ⟨f,hc,Or.inl rfl⟩

theorem infoBs:(Tryz.prog.info? 22).map (fun i=>(i.zero,i.size,i.bytes))=some (some (.slice none 0 0),1,24):=by kernel_rfl
theorem underBss:Tryz.prog.underlying 57=some (.slice 22):=by kernel_rfl

def plen (n i:Nat):Nat:=if 48<n-i*48 then 48 else n-i*48
theorem plen_le (n i:Nat):plen n i<=48:=by unfold plen;split <;> omega
def secW (n:Nat) (seq:Int) (f:Nat->Int) (i:Nat):Nat->Int:=recF seq i (cntOf n) (plen n i) (fun j=>f (i*48+j))

structure SecsSt (w wr:World) (n:Nat) (seq:Int) (f:Nat->Int) (m:Nat) (v:Value) (A:Nat->Option Addr) (C:Nat->Nat):Prop where
 row:wr.ownsRow w.heap.size 22 1 v m ((List.range m).map fun j=>.slice (A j) 64 (C j))
 each:∀j,j<m->OwnB wr w.heap.size (A j) 64 (secW n seq f j)
 below:Below w.heap.size w wr

def SecsRet (w:World) (n:Nat) (seq:Int) (f:Nat->Int) (e:Ending) (w' : World):Prop:=
 ∃b cap,e=.returned (.slice (some ⟨b,0,none⟩) (cntOf n) cap)/\RdS w' b 0 (cntOf n) (fun _=>64) (secW n seq f)/\Below w.heap.size w w'

theorem SecsSt.keep {w wr w2:World} {n:Nat} {seq:Int} {f:Nat->Int} {m:Nat} {v:Value} {A:Nat->Option Addr} {C:Nat->Nat} (h:SecsSt w wr n seq f m v A C) (hb:Below wr.heap.size wr w2):SecsSt w w2 n seq f m v A C:=by
 refine ⟨⟨h.row.1,?_⟩,fun j hj=>(h.each j hj).below hb,h.below.trans (hb.mono h.below.size)⟩
 rcases h.row.2 with h0|⟨g,cap,cur,hv,hg,hh,h1,h2,h3,h4⟩
 ·exact Or.inl h0
 ·exact Or.inr ⟨g,cap,cur,hv,hg,(hb.block g (Array.getElem?_eq_some_iff.1 hh).1).trans hh,h1,h2,h3,h4⟩

theorem SecsSt.next {w wr w4:World} {n:Nat} {seq:Int} {f:Nat->Int} {m:Nat} {v v' : Value} {A:Nat->Option Addr} {C:Nat->Nat} {a:Option Addr} {c:Nat} (h:SecsSt w wr n seq f m v A C) (ha:OwnB wr w.heap.size a 64 (secW n seq f m))
  (hg:wr.grownBy w4 v.ownBlock) (hown:w4.ownsRow w.heap.size 22 1 v' (m+1) (((List.range m).map fun j=>.slice (A j) 64 (C j))++[.slice a 64 c])) :
  SecsSt w w4 n seq f (m+1) v' (fun j=>if j=m then a else A j) (fun j=>if j=m then c else C j):=by
 have own:∀g,v.ownBlock=some g->w.heap.size<=g/\∃cur fr,wr.heap[g]?=some (.cells cur 22 fr):=by
  intro g hgg
  rcases h.row.2 with ⟨hv,_⟩|⟨g',cap,cur,hv,hle,hh,_⟩
  ·rw [hv] at hgg;simp [Value.ownBlock] at hgg
  ·rw [hv] at hgg
   simp [Value.ownBlock] at hgg
   subst hgg
   exact ⟨hle,cur,_,hh⟩
 have kp:∀{x:Option Addr} {F:Nat->Int},OwnB wr w.heap.size x 64 F->OwnB w4 w.heap.size x 64 F:=by
  intro x F hx
  rcases hx with h0|⟨g,rfl,hgl,hr⟩
  ·exact Or.inl h0
  ·refine Or.inr ⟨g,rfl,hgl,hr.of_block (hg.block g hr.lt (fun e=>?_))⟩
   obtain ⟨_,cur,fr,q⟩:=own g e.symm
   obtain ⟨cur',hh,_,_⟩:=hr
   rw [hh] at q
   injection q with q
   injection q with _ q
   exact absurd q (by decide)
 refine ⟨?_,fun j hj=>?_,h.below.grown hg h.below.size (fun g e=>(own g e).1)⟩
 ·have e:((List.range (m+1)).map fun j=>Value.slice (if j=m then a else A j) 64 (if j=m then c else C j))=((List.range m).map fun j=>.slice (A j) 64 (C j))++[.slice a 64 c]:=by
   rw [List.range_succ,List.map_append]
   congr 1
   ·refine List.map_congr_left (fun j hj=>?_)
    have:=List.mem_range.1 hj
    rw [if_neg (by omega),if_neg (by omega)]
   ·simp
  rw [e]
  exact hown
 ·by_cases e:j=m
  ·subst e
   rw [if_pos rfl]
   exact kp ha
  ·rw [if_neg e]
   exact kp (h.each j (by omega))

theorem SecsSt.done {w wr:World} {n:Nat} {seq:Int} {f:Nat->Int} {v:Value} {A:Nat->Option Addr} {C:Nat->Nat} (h:SecsSt w wr n seq f (cntOf n) v A C):SecsRet w n seq f (.returned v) wr:=by
 have hc:cntOf n≠0:=by unfold cntOf;split <;> omega
 rcases h.row.2 with ⟨_,h0⟩|⟨g,cap,cur,hv,hg,hh,h1,h2,h3,h4⟩
 ·exact absurd h0 hc
 ·subst hv
  refine ⟨g,cap,rfl,fun i hi=>⟨A i,C i,?_,(h.each i hi).rd⟩,h.below⟩
  have e:cur[i]?=(cur.toList.take (cntOf n*1))[i]?:=by rw [List.getElem?_take,if_pos (by omega)];simp
  unfold World.cell?
  simp only [hh]
  rw [Nat.zero_add,e,h4,List.getElem?_map,List.getElem?_range hi]
  rfl

theorem l2Put_at (x:Int) (L n:Nat) (w:World) (hx:x=(L:Int)) (hL:L<=48) (hn:n<=4) :
  Calls Tryz.prog 37 #[.int .i64 x,.int .i64 n] w fun e w'=>RetOwn w e w' n (byteAt (L:Int)):=by
 rw [hx]
 exact l2Put_any (L:Int) n w (by omega) (by omega) hn

theorem rd_take {w:World} {a:Option Addr} {n L:Nat} {f:Nat->Int} (h:Rd .u8 w a n f) (hL:L<=n):Rd .u8 w a L f:=by
 rcases h with h0|⟨b,o,rfl,hc⟩
 ·exact Or.inl (by omega)
 ·exact Or.inr ⟨b,o,rfl,fun i hi=>hc i (by omega)⟩

set_option maxHeartbeats 8000000 in
theorem l2Sectors_any (a:Option Addr) (n c:Nat) (f:Nat->Int) (seq:Int) (w:World) (h:Rd .u8 w a n f) (hr:∀i,i<n->0<=f i/\f i<256) (hn:n<=30000) (hnc:n<=c) (hcm:c<=9223372036854775807) (hq:0<=seq) (hq2:seq<=2000000000) :
  Calls Tryz.prog 32 #[.int .i64 seq,.slice a n c] w (SecsRet w n seq f):=by
 have HR:Hid (Rd .u8 w a n f):=h
 have HF:Hid (∀i,i<n->0<=f i/\f i<256):=hr
 have hcnt:cntOf n<=1000:=by unfold cntOf;split <;> omega
 clear h hr
 go_enter Tryz.func32,Tryz.ntmps32
 go_wp2_with fail
 refine (specRecS n hn _).mono ?_
 rintro e w1 ⟨rfl,hw1⟩
 subst hw1
 go_wp2
 go_loopw [6,7,8,9] (fun v i _ _ wr=>∃(m:Nat) (A:Nat->Option Addr) (C:Nat->Nat),m<=cntOf n/\i=.int .i64 m/\SecsSt w1 wr n seq f m v A C) (fun _ i _ _ _=>cntOf n-(intOf i).toNat)
 case atStart=>exact ⟨0,fun _=>none,fun _=>0,Nat.zero_le _,rfl,⟨World.ownsRow_lit w1 #[] 0 (Nat.le_refl _) (Nat.zero_le _) rfl,fun j hj=>absurd hj (Nat.not_lt_zero _),below_alloc _ _⟩⟩
 case round=>
  obtain ⟨m,A,C,hm,rfl,hst⟩:=hrel
  have HS:Hid (SecsSt w1 wr n seq f m u6 A C):=hst
  clear hst
  by_cases hlt:m<cntOf n
  ·have hlti:(m:Int)<(cntOf n:Int):=by omega
   have hlo:=cntOf_lt hlt
   have hsl:∀wz,(Instr.sliceAt 22 (.slice a n c) (some (.int .i64 ((m:Int)*48))) none none).run Tryz.prog wz=.ok (.slice (shA a (m*48) c) (n-m*48) (c-m*48)) wz:=fun wz=>by
    have:=run_from a n c (m*48) hlo hnc wz
    rw [show (((m*48:Nat)):Int)=(m:Int)*48 by omega] at this
    exact this
   have RP:Hid (Rd .u8 wr (shA a (m*48) c) (n-m*48) (fun j=>f (m*48+j))):=(rd_shift c HR.out hlo hnc).below (HS.out.below)
   by_cases hbig:48<n-m*48
   ·have hup:∀wz,(Instr.sliceAt 22 (.slice (shA a (m*48) c) (n-m*48) (c-m*48)) none (some (.int .i64 48)) none).run Tryz.prog wz=.ok (.slice (shA a (m*48) c) 48 (c-m*48)) wz:=fun wz=>run_upto _ _ _ hbig (by omega) wz
    have hgt:decide ((48:Int)<((n-m*48:Nat):Int))=true:=by simp;omega
    have RQ:Hid (Rd .u8 wr (shA a (m*48) c) 48 (fun j=>f (m*48+j))):=rd_take RP.out (by omega)
    have hpl:plen n m=48:=by unfold plen;split <;> omega
    have HPF:Hid (∀j,j<48->0<=f (m*48+j)/\f (m*48+j)<256):=fun j hj=>HF.out _ (by omega)
    have hL48:48<=48:=by omega
    clear RP
    go_wp2_with fail
    refine (l2Put_any seq 4 _ (by omega) (by omega) (by omega)).mono ?_
    rintro e w2 ⟨a2,c2,rfl,ho2,hb2,-,-⟩
    have D2:Hid (Below wr.heap.size wr w2/\Rd .u8 w2 a2 4 (byteAt seq)):=⟨hb2,ho2.rd⟩
    clear ho2 hb2
    go_wp2_with fail
    refine (l2Put_any (m:Int) 2 _ (by omega) (by omega) (by omega)).mono ?_
    rintro e w3 ⟨a3,c3,rfl,ho3,hb3,-,-⟩
    have D3:Hid (Below wr.heap.size wr w3/\Rd .u8 w3 a2 4 (byteAt seq)/\Rd .u8 w3 a3 2 (byteAt m)):=⟨D2.out.1.trans (hb3.mono D2.out.1.size),D2.out.2.below hb3,ho3.rd⟩
    clear ho3 hb3 D2
    go_wp2_with fail
    refine (l2Put_any (cntOf n:Int) 2 _ (by omega) (by omega) (by omega)).mono ?_
    rintro e w4 ⟨a4,c4,rfl,ho4,hb4,-,-⟩
    have D4:Hid (Below wr.heap.size wr w4/\Rd .u8 w4 a2 4 (byteAt seq)/\Rd .u8 w4 a3 2 (byteAt m)/\Rd .u8 w4 a4 2 (byteAt (cntOf n))):=⟨D3.out.1.trans (hb4.mono D3.out.1.size),D3.out.2.1.below hb4,D3.out.2.2.below hb4,ho4.rd⟩
    clear ho4 hb4 D3
    go_wp2_with fail
    refine (l2Put_at _ 48 2 _ (by omega) (by omega) (by omega)).mono ?_
    rintro e w5 ⟨a5,c5,rfl,ho5,hb5,-,-⟩
    have D5:Hid (Below wr.heap.size wr w5/\Rd .u8 w5 a2 4 (byteAt seq)/\Rd .u8 w5 a3 2 (byteAt m)/\Rd .u8 w5 a4 2 (byteAt (cntOf n))/\Rd .u8 w5 a5 2 (byteAt (48:Nat))):=⟨D4.out.1.trans (hb5.mono D4.out.1.size),D4.out.2.1.below hb5,D4.out.2.2.1.below hb5,D4.out.2.2.2.below hb5,ho5.rd⟩
    clear ho5 hb5 D4
    obtain ⟨w6,hcv,hx6⟩:=convMarkR (B:=w5.heap.size) (w5.alloc (.cells #[.int .u8 82,.int .u8 49] 5)) w5.heap.size (0,0) (Nat.le_refl _) (blk_alloc_new _ _)
    have D6:Hid (Below wr.heap.size wr w6/\Rd .u8 w6 a2 4 (byteAt seq)/\Rd .u8 w6 a3 2 (byteAt m)/\Rd .u8 w6 a4 2 (byteAt (cntOf n))/\Rd .u8 w6 a5 2 (byteAt (48:Nat))/\Rd .u8 w6 (some ⟨w5.heap.size,0,none⟩) 2 (two 82 49)):=by
     obtain ⟨q0,q1,q2,q3,q4⟩:=D5.out
     have qb:=below_alloc w5 (.cells #[.int .u8 82,.int .u8 49] 5)
     exact ⟨(q0.trans (qb.mono q0.size)).trans (hx6.1.mono q0.size),hx6.rd (q1.below qb),hx6.rd (q2.below qb),hx6.rd (q3.below qb),hx6.rd (q4.below qb),hx6.rd (rdMarkR (blk_alloc_new _ _))⟩
    clear D5 hx6
    go_wp2_with fail
    refine (l2Cat_any w6.heap.size 0 5 5 (five 4 2 2 2 2) (five (byteAt seq) (byteAt m) (byteAt (cntOf n)) (byteAt (48:Nat)) (two 82 49)) _ (rdS_five D6.out.2.1 D6.out.2.2.1 D6.out.2.2.2.1 D6.out.2.2.2.2.1 D6.out.2.2.2.2.2) (by omega) (fun k hk=>?_) (fun k hk=>?_)).mono ?_
    ·match k,hk with
     | 0,_=>decide
     | 1,_=>decide
     | 2,_=>decide
     | 3,_=>decide
     | 4,_=>decide
     | 5,_=>decide
    ·unfold five;split <;> (try split) <;> (try split) <;> (try split) <;> omega
    rintro e w7 ⟨a7,c7,rfl,ho7,hb7,-,-⟩
    have D7:Hid (Below wr.heap.size wr w7/\Rd .u8 w7 a7 12 (catF (five 4 2 2 2 2) (five (byteAt seq) (byteAt m) (byteAt (cntOf n)) (byteAt (48:Nat)) (two 82 49)) 5)):=by
     have q:=D6.out.1.alloc D6.out.1.size (.cells #[.slice a2 4 c2,.slice a3 2 c3,.slice a4 2 c4,.slice a5 2 c5,.slice (some ⟨w5.heap.size,0,none⟩) 2 2] 22)
     exact ⟨q.trans (hb7.mono q.size),by simpa [catL,five] using ho7.rd⟩
    clear ho7 hb7 D6 hcv
    go_wp2_with fail
    refine (zeros_at _ (48-48) _ (by omega) (by omega)).mono ?_
    rintro e w8 ⟨a8,c8,rfl,ho8,hb8⟩
    have D8:Hid (Below wr.heap.size wr w8/\Rd .u8 w8 a7 12 (catF (five 4 2 2 2 2) (five (byteAt seq) (byteAt m) (byteAt (cntOf n)) (byteAt (48:Nat)) (two 82 49)) 5)/\Rd .u8 w8 (shA a (m*48) c) 48 (fun j=>f (m*48+j))/\Rd .u8 w8 a8 (48-48) (fun _=>0)):=by
     have q:=D7.out.1.trans (hb8.mono D7.out.1.size)
     exact ⟨q,D7.out.2.below hb8,RQ.out.below q,ho8.rd⟩
    clear ho8 hb8 D7
    go_wp2_with fail
    refine (l2Cat_any w8.heap.size 0 3 3 (three 12 48 (48-48)) (three (catF (five 4 2 2 2 2) (five (byteAt seq) (byteAt m) (byteAt (cntOf n)) (byteAt (48:Nat)) (two 82 49)) 5) (fun j=>f (m*48+j)) (fun _=>0)) _ (rdS_three D8.out.2.1 D8.out.2.2.1 D8.out.2.2.2) (by omega) (fun k hk=>?_) (fun k hk=>?_)).mono ?_
    ·match k,hk with
     | 0,_=>simp [catL]
     | 1,_=>simp [catL,three]
     | 2,_=>simp [catL,three] <;> omega
     | 3,_=>simp [catL,three] <;> omega
    ·unfold three;split <;> (try split) <;> omega
    rintro e w9 ⟨a9,c9,rfl,ho9,hb9,-,-⟩
    have hcat:catL (three 12 48 (48-48)) 3=60:=by simp [catL,three] <;> omega
    have D9:Hid (Below wr.heap.size wr w9/\Rd .u8 w9 a9 60 (recH seq m (cntOf n) 48 (fun j=>f (m*48+j)))):=by
     have q:=D8.out.1.alloc D8.out.1.size (.cells #[.slice a7 12 c7,.slice (shA a (m*48) c) 48 (c-m*48),.slice a8 (48-48) c8] 22)
     have r:=ho9.rd
     rw [hcat] at r
     exact ⟨q.trans (hb9.mono q.size),r.congr (fun j hj=>rec_cat seq m (cntOf n) 48 _ hL48 _ (fun j hj=>head_cat _ _ _ _ j hj) j hj)⟩
    rw [hcat]
    clear ho9 hb9 D8 hcat
    go_wp2_with fail
    refine (l2Seal_any a9 c9 (recH seq m (cntOf n) 48 (fun j=>f (m*48+j))) _ D9.out.2 (fun j hj=>recH_range seq m (cntOf n) 48 _ HPF.out j (by omega))).mono ?_
    rintro e w10 ⟨a10,c10,rfl,ho10,hb10,-,-⟩
    have D10:Hid (Below wr.heap.size wr w10/\OwnB w10 w1.heap.size a10 64 (secW n seq f m)):=by
     have q:=D9.out.1.trans (hb10.mono D9.out.1.size)
     refine ⟨q,?_⟩
     have r:=ho10.mono (B':=w1.heap.size) (Nat.le_trans HS.out.below.size D9.out.1.size)
     unfold secW
     rw [hpl]
     exact r
    clear ho10 hb10 D9
    have HS10:=HS.out.keep (D10.out.1.trans ((below_alloc w10 (.cells #[.slice a10 64 c10] 22)).mono D10.out.1.size))
    have HO10:Hid (OwnB (w10.alloc (.cells #[.slice a10 64 c10] 22)) w1.heap.size a10 64 (secW n seq f m)):=D10.out.2.below (below_alloc _ _)
    have HSX:Hid (SecsSt w1 (w10.alloc (.cells #[.slice a10 64 c10] 22)) n seq f m u6 A C):=HS10
    have hz10:w1.heap.size<=(w10.alloc (.cells #[.slice a10 64 c10] 22)).heap.size:=HS10.below.size
    clear HS10 D10 HS
    obtain ⟨i0,hi,hz0,hz1,hz2⟩:=info_parts infoBs
    go_wp2_with (at_builtin;refine wpList_append_own _ rfl _ _ 57 rfl w1.heap.size 22 i0 (.slice none 0 0) 1 24 underBss hi hz0 hz1 hz2 rfl (by decide) _ m _ rfl HSX.out.row ⟨w10.heap.size,0,none⟩ 1 1 [.slice a10 64 c10] rfl rfl (cell_one_new _ _ _) (by intro u hu;simp at hu;subst hu;rfl) (by unfold maxLen;omega) (by omega) hz10 ?_)
    intro v' w11 hown11 hgr11 _
    have HN:Hid (SecsSt w1 w11 n seq f (m+1) v' (fun j=>if j=m then a10 else A j) (fun j=>if j=m then c10 else C j)):=HSX.out.next HO10.out hgr11 hown11
    clear hown11 hgr11 HSX HO10
    go_wp2
    go_roundw
    case rel=>exact ⟨m+1,_,_,by omega,by go_num,HN.out⟩
    case measure=>simp [intOf];omega
   ·have hgt:decide ((48:Int)<((n-m*48:Nat):Int))=false:=by simp;omega
    have RQ:Hid (Rd .u8 wr (shA a (m*48) c) (n-m*48) (fun j=>f (m*48+j))):=RP.out
    have hpl:plen n m=(n-m*48):=by unfold plen;split <;> omega
    have HPF:Hid (∀j,j<(n-m*48)->0<=f (m*48+j)/\f (m*48+j)<256):=fun j hj=>HF.out _ (by omega)
    have hL48:(n-m*48)<=48:=by omega
    clear RP
    go_wp2_with fail
    refine (l2Put_any seq 4 _ (by omega) (by omega) (by omega)).mono ?_
    rintro e w2 ⟨a2,c2,rfl,ho2,hb2,-,-⟩
    have D2:Hid (Below wr.heap.size wr w2/\Rd .u8 w2 a2 4 (byteAt seq)):=⟨hb2,ho2.rd⟩
    clear ho2 hb2
    go_wp2_with fail
    refine (l2Put_any (m:Int) 2 _ (by omega) (by omega) (by omega)).mono ?_
    rintro e w3 ⟨a3,c3,rfl,ho3,hb3,-,-⟩
    have D3:Hid (Below wr.heap.size wr w3/\Rd .u8 w3 a2 4 (byteAt seq)/\Rd .u8 w3 a3 2 (byteAt m)):=⟨D2.out.1.trans (hb3.mono D2.out.1.size),D2.out.2.below hb3,ho3.rd⟩
    clear ho3 hb3 D2
    go_wp2_with fail
    refine (l2Put_any (cntOf n:Int) 2 _ (by omega) (by omega) (by omega)).mono ?_
    rintro e w4 ⟨a4,c4,rfl,ho4,hb4,-,-⟩
    have D4:Hid (Below wr.heap.size wr w4/\Rd .u8 w4 a2 4 (byteAt seq)/\Rd .u8 w4 a3 2 (byteAt m)/\Rd .u8 w4 a4 2 (byteAt (cntOf n))):=⟨D3.out.1.trans (hb4.mono D3.out.1.size),D3.out.2.1.below hb4,D3.out.2.2.below hb4,ho4.rd⟩
    clear ho4 hb4 D3
    go_wp2_with fail
    refine (l2Put_at _ (n-m*48) 2 _ (by omega) (by omega) (by omega)).mono ?_
    rintro e w5 ⟨a5,c5,rfl,ho5,hb5,-,-⟩
    have D5:Hid (Below wr.heap.size wr w5/\Rd .u8 w5 a2 4 (byteAt seq)/\Rd .u8 w5 a3 2 (byteAt m)/\Rd .u8 w5 a4 2 (byteAt (cntOf n))/\Rd .u8 w5 a5 2 (byteAt ((n-m*48):Nat))):=⟨D4.out.1.trans (hb5.mono D4.out.1.size),D4.out.2.1.below hb5,D4.out.2.2.1.below hb5,D4.out.2.2.2.below hb5,ho5.rd⟩
    clear ho5 hb5 D4
    obtain ⟨w6,hcv,hx6⟩:=convMarkR (B:=w5.heap.size) (w5.alloc (.cells #[.int .u8 82,.int .u8 49] 5)) w5.heap.size (0,0) (Nat.le_refl _) (blk_alloc_new _ _)
    have D6:Hid (Below wr.heap.size wr w6/\Rd .u8 w6 a2 4 (byteAt seq)/\Rd .u8 w6 a3 2 (byteAt m)/\Rd .u8 w6 a4 2 (byteAt (cntOf n))/\Rd .u8 w6 a5 2 (byteAt ((n-m*48):Nat))/\Rd .u8 w6 (some ⟨w5.heap.size,0,none⟩) 2 (two 82 49)):=by
     obtain ⟨q0,q1,q2,q3,q4⟩:=D5.out
     have qb:=below_alloc w5 (.cells #[.int .u8 82,.int .u8 49] 5)
     exact ⟨(q0.trans (qb.mono q0.size)).trans (hx6.1.mono q0.size),hx6.rd (q1.below qb),hx6.rd (q2.below qb),hx6.rd (q3.below qb),hx6.rd (q4.below qb),hx6.rd (rdMarkR (blk_alloc_new _ _))⟩
    clear D5 hx6
    go_wp2_with fail
    refine (l2Cat_any w6.heap.size 0 5 5 (five 4 2 2 2 2) (five (byteAt seq) (byteAt m) (byteAt (cntOf n)) (byteAt ((n-m*48):Nat)) (two 82 49)) _ (rdS_five D6.out.2.1 D6.out.2.2.1 D6.out.2.2.2.1 D6.out.2.2.2.2.1 D6.out.2.2.2.2.2) (by omega) (fun k hk=>?_) (fun k hk=>?_)).mono ?_
    ·match k,hk with
     | 0,_=>decide
     | 1,_=>decide
     | 2,_=>decide
     | 3,_=>decide
     | 4,_=>decide
     | 5,_=>decide
    ·unfold five;split <;> (try split) <;> (try split) <;> (try split) <;> omega
    rintro e w7 ⟨a7,c7,rfl,ho7,hb7,-,-⟩
    have D7:Hid (Below wr.heap.size wr w7/\Rd .u8 w7 a7 12 (catF (five 4 2 2 2 2) (five (byteAt seq) (byteAt m) (byteAt (cntOf n)) (byteAt ((n-m*48):Nat)) (two 82 49)) 5)):=by
     have q:=D6.out.1.alloc D6.out.1.size (.cells #[.slice a2 4 c2,.slice a3 2 c3,.slice a4 2 c4,.slice a5 2 c5,.slice (some ⟨w5.heap.size,0,none⟩) 2 2] 22)
     exact ⟨q.trans (hb7.mono q.size),by simpa [catL,five] using ho7.rd⟩
    clear ho7 hb7 D6 hcv
    go_wp2_with fail
    refine (zeros_at _ (48-(n-m*48)) _ (by omega) (by omega)).mono ?_
    rintro e w8 ⟨a8,c8,rfl,ho8,hb8⟩
    have D8:Hid (Below wr.heap.size wr w8/\Rd .u8 w8 a7 12 (catF (five 4 2 2 2 2) (five (byteAt seq) (byteAt m) (byteAt (cntOf n)) (byteAt ((n-m*48):Nat)) (two 82 49)) 5)/\Rd .u8 w8 (shA a (m*48) c) (n-m*48) (fun j=>f (m*48+j))/\Rd .u8 w8 a8 (48-(n-m*48)) (fun _=>0)):=by
     have q:=D7.out.1.trans (hb8.mono D7.out.1.size)
     exact ⟨q,D7.out.2.below hb8,RQ.out.below q,ho8.rd⟩
    clear ho8 hb8 D7
    go_wp2_with fail
    refine (l2Cat_any w8.heap.size 0 3 3 (three 12 (n-m*48) (48-(n-m*48))) (three (catF (five 4 2 2 2 2) (five (byteAt seq) (byteAt m) (byteAt (cntOf n)) (byteAt ((n-m*48):Nat)) (two 82 49)) 5) (fun j=>f (m*48+j)) (fun _=>0)) _ (rdS_three D8.out.2.1 D8.out.2.2.1 D8.out.2.2.2) (by omega) (fun k hk=>?_) (fun k hk=>?_)).mono ?_
    ·match k,hk with
     | 0,_=>simp [catL]
     | 1,_=>simp [catL,three]
     | 2,_=>simp [catL,three] <;> omega
     | 3,_=>simp [catL,three] <;> omega
    ·unfold three;split <;> (try split) <;> omega
    rintro e w9 ⟨a9,c9,rfl,ho9,hb9,-,-⟩
    have hcat:catL (three 12 (n-m*48) (48-(n-m*48))) 3=60:=by simp [catL,three] <;> omega
    have D9:Hid (Below wr.heap.size wr w9/\Rd .u8 w9 a9 60 (recH seq m (cntOf n) (n-m*48) (fun j=>f (m*48+j)))):=by
     have q:=D8.out.1.alloc D8.out.1.size (.cells #[.slice a7 12 c7,.slice (shA a (m*48) c) (n-m*48) (c-m*48),.slice a8 (48-(n-m*48)) c8] 22)
     have r:=ho9.rd
     rw [hcat] at r
     exact ⟨q.trans (hb9.mono q.size),r.congr (fun j hj=>rec_cat seq m (cntOf n) (n-m*48) _ hL48 _ (fun j hj=>head_cat _ _ _ _ j hj) j hj)⟩
    rw [hcat]
    clear ho9 hb9 D8 hcat
    go_wp2_with fail
    refine (l2Seal_any a9 c9 (recH seq m (cntOf n) (n-m*48) (fun j=>f (m*48+j))) _ D9.out.2 (fun j hj=>recH_range seq m (cntOf n) (n-m*48) _ HPF.out j (by omega))).mono ?_
    rintro e w10 ⟨a10,c10,rfl,ho10,hb10,-,-⟩
    have D10:Hid (Below wr.heap.size wr w10/\OwnB w10 w1.heap.size a10 64 (secW n seq f m)):=by
     have q:=D9.out.1.trans (hb10.mono D9.out.1.size)
     refine ⟨q,?_⟩
     have r:=ho10.mono (B':=w1.heap.size) (Nat.le_trans HS.out.below.size D9.out.1.size)
     unfold secW
     rw [hpl]
     exact r
    clear ho10 hb10 D9
    have HS10:=HS.out.keep (D10.out.1.trans ((below_alloc w10 (.cells #[.slice a10 64 c10] 22)).mono D10.out.1.size))
    have HO10:Hid (OwnB (w10.alloc (.cells #[.slice a10 64 c10] 22)) w1.heap.size a10 64 (secW n seq f m)):=D10.out.2.below (below_alloc _ _)
    have HSX:Hid (SecsSt w1 (w10.alloc (.cells #[.slice a10 64 c10] 22)) n seq f m u6 A C):=HS10
    have hz10:w1.heap.size<=(w10.alloc (.cells #[.slice a10 64 c10] 22)).heap.size:=HS10.below.size
    clear HS10 D10 HS
    obtain ⟨i0,hi,hz0,hz1,hz2⟩:=info_parts infoBs
    go_wp2_with (at_builtin;refine wpList_append_own _ rfl _ _ 57 rfl w1.heap.size 22 i0 (.slice none 0 0) 1 24 underBss hi hz0 hz1 hz2 rfl (by decide) _ m _ rfl HSX.out.row ⟨w10.heap.size,0,none⟩ 1 1 [.slice a10 64 c10] rfl rfl (cell_one_new _ _ _) (by intro u hu;simp at hu;subst hu;rfl) (by unfold maxLen;omega) (by omega) hz10 ?_)
    intro v' w11 hown11 hgr11 _
    have HN:Hid (SecsSt w1 w11 n seq f (m+1) v' (fun j=>if j=m then a10 else A j) (fun j=>if j=m then c10 else C j)):=HSX.out.next HO10.out hgr11 hown11
    clear hown11 hgr11 HSX HO10
    go_wp2
    go_roundw
    case rel=>exact ⟨m+1,_,_,by omega,by go_num,HN.out⟩
    case measure=>simp [intOf];omega
  ·have e:m=cntOf n:=by omega
   subst e
   go_wp2
   go_ret
   exact HS.out.done

theorem wpList_append_rd_at {w:World} {ops:Array Oper} {rest:List Oper} {o:Oper} {act:Act} {Q:Exit->Act->World->Prop} (hgd:o.guard=none) (s x:Operand)
  (ho:o.op=.call { callee:=.builtin .append,args:=#[s,x],argTypes:=#[22,22] })
  (B:Nat) (v:Value) (n:Nat) (xs:List Value) (hs:act.eval s=v) (hown:w.ownsRow B 5 1 v n xs)
  (a:Option Addr) (m c:Nat) (f:Nat->Int) (hx:act.eval x=.slice a m c) (hrd:Rd .u8 w a m f) (hnm:n+m<=1099511627776) (hB:B<=w.heap.size)
  (h:∀v' w',w'.ownsRow B 5 1 v' (n+m) (xs++byteRow f m)->w.grownBy w' v.ownBlock->(v'.ownBlock=v.ownBlock\/v'.ownBlock=some w.heap.size)->wpList Tryz.prog ops Q rest (act.put o.dst v') w'):wpList Tryz.prog ops Q (o::rest) act w:=by
 obtain ⟨i0,hi,hz0,hz1,hz2⟩:=info_parts Tryz.info5
 by_cases hm:m=0
 ·subst hm
  have hsrc:Src Tryz.prog i0.size 22 (.slice a 0 c) 0 [] w:=by
   cases a with
   | none=>exact Src.ofNil w Tryz.underlying22 c
   | some ad=>exact Src.ofSlice w Tryz.underlying22 ad 0 c [] (by simp) (by simp) (by simp)
  have hsh:∃b l cap,v=.slice b l cap/\l<=cap:=by
   rcases hown.2 with ⟨rfl,rfl⟩|⟨g,cap,cur,rfl,_,_,h1,_⟩
   ·exact ⟨none,0,0,rfl,Nat.le_refl _⟩
   ·exact ⟨_,n,cap,rfl,h1⟩
  obtain ⟨b,l,cap,hvv,hlc⟩:=hsh
  have hrun:=run_append_nothing (P:=Tryz.prog) w 22 22 o.type 5 i0 Tryz.underlying22 hi b l cap hlc (.slice a 0 c) hsrc
  rw [<- hvv] at hrun
  refine wpList_plain hgd fun K hK=>?_
  unfold Oper.wp
  simp [execOp,ho,resolve,invoke,builtin,hs,hx,hrun,Result.andThen]
  exact hK _ _ (h v w (by simpa [byteRow] using hown) ⟨rfl,rfl,rfl,Nat.le_refl _,fun _ _ _=>rfl⟩ (Or.inl rfl))
 ·rcases hrd with h0|⟨b,off,rfl,hc⟩
  ·exact absurd h0 hm
  ·refine wpList_append_own_at w hgd s x 22 ho B 5 i0 (.int .u8 0) 1 1 Tryz.underlying22 hi hz0 hz1 hz2 rfl (by decide) v n xs hs hown ⟨b,off,none⟩ m c (byteRow f m) hx (by simp [byteRow]) (fun j u hj=>?_) (fun u hu=>?_) (by unfold maxLen;omega) (by omega) hB (fun v' w' h1 h2 _ h4=>h v' w' h1 h2 h4)
   ·have hjm:j<m:=by
     have:=(List.getElem?_eq_some_iff.1 hj).1
     rwa [byteRow_length] at this
    rw [byteRow_get f m j hjm] at hj
    injection hj with hj
    subst hj
    have e:(Addr.add ⟨b,off,none⟩ j)=⟨b,off+j,none⟩:=by
     unfold Addr.add
     by_cases h:j=0
     ·subst h;simp
     ·simp [h]
    rw [e]
    exact hc j hjm
   ·simp only [byteRow,List.mem_map] at hu
    obtain ⟨i,_,rfl⟩:=hu
    rfl

theorem run_mid (a:Option Addr) (n c lo hi:Nat) (h1:lo<=hi) (h2:hi<=c) (w:World):(Instr.sliceAt 22 (.slice a n c) (some (.int .i64 (lo:Int))) (some (.int .i64 (hi:Int))) none).run Tryz.prog w=.ok (.slice (shA a lo c) (hi-lo) (c-lo)) w:=by
 simp [Instr.sliceAt,Instr.slice,go_sem,shA]
 by_cases e1:hi<=c
 ·simp [e1]
  intro h
  omega
 ·omega

theorem rd_mid {w:World} {a:Option Addr} {n lo hi:Nat} {f:Nat->Int} (c:Nat) (h:Rd .u8 w a n f) (h1:lo<=hi) (h2:hi<=n) (hc:n<=c):Rd .u8 w (shA a lo c) (hi-lo) (fun j=>f (lo+j)):=
 rd_take (rd_shift c h (by omega) hc) (by omega)

theorem horn_at2 (f:Nat->Int) (o:Nat):hornN (fun i=>f (o+i)) 2 2=getN f o 2:=by
 simp [hornN,getN]
 omega

theorem getN2_range {f:Nat->Int} {o:Nat} (h:∀i,i<64->0<=f i/\f i<256) (ho:o+1<64):0<=getN f o 2/\getN f o 2<65536:=by
 have h0:=h o (by omega)
 have h1:=h (o+1) (by omega)
 simp [getN]
 omega

structure RrSt (B:Nat) (wr:World) (G:Nat->Nat->Int) (x:Nat) (v u:Value):Prop where
 pay:wr.ownsRow B 5 1 v (catL (recLz G) x) (byteRow (catF (recLz G) (recFz G) x) (catL (recLz G) x))
 raw:wr.ownsRow B 5 1 u (catL (fun _=>64) x) (byteRow (catF (fun _=>64) G x) (catL (fun _=>64) x))
 apart:∀g,v.ownBlock=some g->u.ownBlock=some g->False
 le:B<=wr.heap.size

theorem catL64 (x:Nat):catL (fun _=>64) x=64*x:=by
 induction x with
 | zero=>rfl
 | succ x ih=>simp only [catL,ih];omega

theorem ownsRow_in {w:World} {B t s n g:Nat} {v:Value} {xs:List Value} (h:w.ownsRow B t s v n xs) (hg:v.ownBlock=some g):B<=g/\g<w.heap.size:=by
 rcases h.2 with ⟨hv,_⟩|⟨g',cap,cur,hv,hle,hh,_⟩
 ·rw [hv] at hg;simp [Value.ownBlock] at hg
 ·rw [hv] at hg
  simp [Value.ownBlock] at hg
  subst hg
  exact ⟨hle,(Array.getElem?_eq_some_iff.1 hh).1⟩

theorem ownsRow_kept {w w' : World} {B t s n:Nat} {v:Value} {xs:List Value} {row:Option Nat} (h:w.ownsRow B t s v n xs) (hg:w.grownBy w' row) (hne:∀g,v.ownBlock=some g->row=some g->False):w'.ownsRow B t s v n xs:=by
 refine ⟨h.1,?_⟩
 rcases h.2 with h0|⟨g,cap,cur,hv,hle,hh,q⟩
 ·exact Or.inl h0
 ·refine Or.inr ⟨g,cap,cur,hv,hle,(hg.block g (Array.getElem?_eq_some_iff.1 hh).1 (fun e=>hne g (by rw [hv];rfl) e.symm)).trans hh,q⟩

theorem ownsRow_below {w w' : World} {B t s n:Nat} {v:Value} {xs:List Value} (h:w.ownsRow B t s v n xs) (hb:Below w.heap.size w w'):w'.ownsRow B t s v n xs:=by
 refine ⟨h.1,?_⟩
 rcases h.2 with h0|⟨g,cap,cur,hv,hle,hh,q⟩
 ·exact Or.inl h0
 ·exact Or.inr ⟨g,cap,cur,hv,hle,(hb.block g (Array.getElem?_eq_some_iff.1 hh).1).trans hh,q⟩

theorem RrSt.below {B:Nat} {wr w2:World} {G:Nat->Nat->Int} {x:Nat} {v u:Value} (h:RrSt B wr G x v u) (hb:Below wr.heap.size wr w2):RrSt B w2 G x v u:=
 ⟨ownsRow_below h.pay hb,ownsRow_below h.raw hb,h.apart,Nat.le_trans h.le hb.size⟩

theorem RrSt.next {B:Nat} {wr w1 w2:World} {G:Nat->Nat->Int} {x:Nat} {v u v' u' : Value} (h:RrSt B wr G x v u)
  (o1:w1.ownsRow B 5 1 v' (catL (recLz G) x+recLz G x) (byteRow (catF (recLz G) (recFz G) x) (catL (recLz G) x)++byteRow (recFz G x) (recLz G x))) (g1:wr.grownBy w1 v.ownBlock) (l1:v'.ownBlock=v.ownBlock\/v'.ownBlock=some wr.heap.size)
  (o2:w2.ownsRow B 5 1 u' (catL (fun _=>64) x+64) (byteRow (catF (fun _=>64) G x) (catL (fun _=>64) x)++byteRow (G x) 64)) (g2:w1.grownBy w2 u.ownBlock) (l2:u'.ownBlock=u.ownBlock\/u'.ownBlock=some w1.heap.size) :
  RrSt B w2 G (x+1) v' u':=by
 have ap1:∀g,v'.ownBlock=some g->u.ownBlock=some g->False:=by
  intro g h1 h2
  rcases l1 with l1|l1
  ·exact h.apart g (l1.symm.trans h1) h2
  ·rw [l1] at h1
   injection h1 with h1
   have:=(ownsRow_in h.raw h2).2
   omega
 have p2:=ownsRow_kept o1 g2 (fun g e1 e2=>ap1 g e1 e2)
 refine ⟨?_,?_,?_,Nat.le_trans h.le (Nat.le_trans g1.size g2.size)⟩
 ·show w2.ownsRow B 5 1 v' (catL (recLz G) x+recLz G x) (byteRow (fun j=>if j<catL (recLz G) x then catF (recLz G) (recFz G) x j else recFz G x (j-catL (recLz G) x)) (catL (recLz G) x+recLz G x))
  rw [<- byteRow_cat]
  exact p2
 ·show w2.ownsRow B 5 1 u' (catL (fun _=>64) x+64) (byteRow (fun j=>if j<catL (fun _=>64) x then catF (fun _=>64) G x j else G x (j-catL (fun _=>64) x)) (catL (fun _=>64) x+64))
  rw [<- byteRow_cat]
  exact o2
 ·intro g h1 h2
  rcases l2 with l2|l2
  ·exact ap1 g h1 (l2.symm.trans h2)
  ·rw [l2] at h2
   injection h2 with h2
   have:=(ownsRow_in o1 h1).2
   omega

theorem catL_mono (L:Nat->Nat) {i k:Nat} (h:i<=k):catL L i<=catL L k:=by
 induction k with
 | zero=>
  have:i=0:=by omega
  subst this;exact Nat.le_refl _
 | succ k ih=>
  by_cases e:i=k+1
  ·subst e;exact Nat.le_refl _
  ·have:=ih (by omega)
   simp only [catL]
   omega

theorem cat_pos (L:Nat->Nat) (F:Nat->Nat->Int):∀(k i j:Nat),i<k->j<L i->catF L F k (catL L i+j)=F i j
 | 0,_,_,h,_=>absurd h (Nat.not_lt_zero _)
 | k+1,i,j,h,hj=>by
  simp only [catF]
  by_cases e:i=k
  ·subst e
   rw [if_neg (by omega),show catL L i+j-catL L i=j by omega]
  ·have h1:catL L (i+1)<=catL L k:=catL_mono L (by omega)
   simp only [catL] at h1
   rw [if_pos (by omega)]
   exact cat_pos L F k i j (by omega) hj

theorem catL_const (L:Nat->Nat) (i:Nat) (h:∀j,j<i->L j=48):catL L i=48*i:=by
 induction i with
 | zero=>rfl
 | succ i ih=>
  simp only [catL]
  rw [ih (fun j hj=>h j (by omega)),h i (by omega)]
  omega

theorem byteAt_two (L:Nat) (h:L<65536):byteAt (L:Int) 0+byteAt (L:Int) 1*256=L:=by
 unfold byteAt
 simp
 omega

theorem recF_at (seq i k:Int) (L:Nat) (g:Nat->Int) (hL:L<=48) (j:Nat) (hj:j<60):recF seq i k L g j=recH seq i k L g j:=by
 unfold recF sealF putN
 rw [if_neg (by omega)]

theorem recF_len (seq i k:Int) (L:Nat) (g:Nat->Int) (hL:L<=48):getN (recF seq i k L g) 8 2=L:=by
 simp only [getN]
 rw [recF_at seq i k L g hL 8 (by omega),recF_at seq i k L g hL 9 (by omega)]
 unfold recH layN putN
 simp
 exact byteAt_two L (by omega)

theorem recF_piece (seq i k:Int) (L:Nat) (g:Nat->Int) (hL:L<=48) (j:Nat) (hj:j<L):recF seq i k L g (12+j)=g j:=by
 rw [recF_at seq i k L g hL (12+j) (by omega)]
 unfold recH layN
 rw [if_pos (by omega),show 12+j-12=j by omega]

theorem recF_congr (seq i k:Int) (L:Nat) (g g' : Nat->Int) (h:∀j,j<L->g j=g' j):recF seq i k L g=recF seq i k L g':=by
 have:recH seq i k L g=recH seq i k L g':=by
  funext j
  unfold recH layN
  split
  ·rename_i hj
   exact h _ (by omega)
  ·rfl
 unfold recF
 rw [this]

theorem rec_same (G:Nat->Nat->Int) (r seq:Int) (k:Nat) (hG:getN (G 0) 6 2=k) (hk1:1<=k) (hkr:(k:Int)<=r) (hn0:∀i,0<=getN (G i) 8 2) (hN:∀i,i<k->getN (G i) 8 2<=48) (hP:catL (recLz G) k<=30000) :
  recOk G r seq↔(cntOf (catL (recLz G) k)=k/\∀i,i<k->∀j,j<64->secW (catL (recLz G) k) seq (catF (recLz G) (recFz G) k) i j=G i j):=by
 constructor
 ·intro h
  obtain ⟨_,h2,_,h4⟩:=h
  rw [hG] at h2 h4
  have each:∀i,i<k->leastV i k<=getN (G i) 8 2/\sameB (G i) (recF seq i k (getN (G i) 8 2).toNat (fun j=>G i (12+j)))=true:=fun i hi=>by
   have q:=h4 i (by omega)
   unfold pieceB at q
   simp only [Bool.and_eq_true,decide_eq_true_eq] at q
   exact ⟨q.1.1,q.2⟩
  have l48:∀i,i+1<k->recLz G i=48:=fun i hi=>by
   have q:=(each i (by omega)).1
   have q2:=hN i (by omega)
   unfold leastV at q
   rw [if_pos (by omega)] at q
   unfold recLz
   omega
  obtain ⟨k',rfl⟩:∃k',k=k'+1:=⟨k-1,by omega⟩
  have hc:catL (recLz G) k'=48*k':=catL_const _ k' (fun j hj=>l48 j (by omega))
  have hP' : catL (recLz G) (k'+1)=48*k'+recLz G k':=by simp only [catL];rw [hc]
  have last:=each k' (by omega)
  have ll:recLz G k'<=48:=by have:=hN k' (by omega);unfold recLz;omega
  have l1:1<=k'->1<=recLz G k':=fun h1=>by
   have q:=last.1
   unfold leastV at q
   rw [if_neg (by omega),if_pos (by omega)] at q
   unfold recLz
   omega
  have hcnt:cntOf (48*k'+recLz G k')=k'+1:=by
   unfold cntOf
   split <;> omega
  rw [hP']
  refine ⟨hcnt,fun i hi j hj=>?_⟩
  have hpos:catL (recLz G) i=48*i:=catL_const _ i (fun j hj=>l48 j (by omega))
  have hpl:plen (48*k'+recLz G k') i=recLz G i:=by
   unfold plen
   by_cases e:i=k'
   ·subst e
    split <;> omega
   ·rw [l48 i (by omega)]
    rw [if_pos (by omega)]
  unfold secW
  rw [hpl,hcnt]
  have hs:=(sameB_iff _ _).1 (each i hi).2 j hj
  rw [hs]
  have hz:recLz G i=(getN (G i) 8 2).toNat:=rfl
  rw [<- hz]
  have e:recF seq i ((k'+1:Nat):Int) (recLz G i) (fun j=>catF (recLz G) (recFz G) (k'+1) (i*48+j))=recF seq i ((k'+1:Nat):Int) (recLz G i) (fun j=>G i (12+j)):=recF_congr _ _ _ _ _ _ (fun j hj=>by
   have:=cat_pos (recLz G) (recFz G) (k'+1) i j hi hj
   rw [hpos,show 48*i=i*48 by omega] at this
   exact this)
  rw [e]
 ·rintro ⟨hcnt,hs⟩
  refine ⟨by omega,?_,by omega,fun i hi=>?_⟩
  ·rw [hG]
   have:cntOf (catL (recLz G) k)<=625:=by unfold cntOf;split <;> omega
   omega
  ·rw [hG] at hi ⊢
   have hik:i<k:=by omega
   have hpl:=plen_le (catL (recLz G) k) i
   have hGi:∀j,j<64->G i j=recF seq i k (plen (catL (recLz G) k) i) (fun j=>catF (recLz G) (recFz G) k (i*48+j)) j:=fun j hj=>by
    have:=hs i hik j hj
    unfold secW at this
    rw [hcnt] at this
    exact this.symm
   have hN8:getN (G i) 8 2=plen (catL (recLz G) k) i:=by
    have q:=recF_len seq i k (plen (catL (recLz G) k) i) (fun j=>catF (recLz G) (recFz G) k (i*48+j)) hpl
    simp only [getN] at q ⊢
    rw [hGi (8+0) (by omega),hGi (8+1) (by omega)]
    exact q
   unfold pieceB
   simp only [Bool.and_eq_true,decide_eq_true_eq]
   refine ⟨⟨?_,by omega⟩,(sameB_iff _ _).2 (fun j hj=>?_)⟩
   ·rw [hN8]
    unfold leastV plen
    unfold cntOf at hcnt
    split at hcnt <;> (repeat' split) <;> omega
   ·rw [hN8,hGi j hj,Int.toNat_natCast]
    have e:=recF_congr seq i k (plen (catL (recLz G) k) i) (fun j=>catF (recLz G) (recFz G) k (i*48+j)) (fun j=>G i (12+j)) (fun j hj=>by
     rw [hGi (12+j) (by omega),recF_piece _ _ _ _ _ hpl j hj])
    rw [e]

theorem over_sec (d:Nat->Int) (s:Nat) (f:Nat->Int) (i j:Nat) (hj:j<64):over d s f (i*64+j)=if i=s then f j else d (i*64+j):=by
 unfold over
 by_cases e:i=s
 ·subst e
  rw [if_neg (by omega),if_pos (by omega),if_pos rfl]
  congr 1
  omega
 ·rw [if_neg e]
  split
  ·rfl
  ·rw [if_neg (by omega)]

def SameS (d d' : Nat->Int) (i:Nat):Prop:=∀j,j<64->d (i*64+j)=d' (i*64+j)
def IsS (d:Nat->Int) (i:Nat) (f:Nat->Int):Prop:=∀j,j<64->d (i*64+j)=f j
theorem SameS.refl (d:Nat->Int) (i:Nat):SameS d d i:=fun _ _=>rfl

def CacheR (A:Nat) (G:Nat->Nat->Int) (P:Nat->Prop) (t:Stt):Prop:=∀i,i<t.m->∃x,P x/\t.S i=((A+x:Nat):Int)/\t.F i=G x

def Q1 (d:Nat->Int) (A last:Nat) (G:Nat->Nat->Int) (t:Stt):Prop:=t.d=d/\CacheR A G (fun x=>x<last) t
def Q2 (d:Nat->Int) (A last:Nat) (G:Nat->Nat->Int) (t:Stt):Prop:=(∀i,(∃x,x<last/\i=A+x/\IsS t.d i (G x))\/((i<A\/A+last<=i)/\SameS t.d d i))/\CacheR A G (fun x=>x=last) t
def Q3 (d:Nat->Int) (A last:Nat) (G:Nat->Nat->Int) (t:Stt):Prop:=(∀i,(∃x,x<=last/\i=A+x/\IsS t.d i (G x))\/((i<A\/A+last<i)/\SameS t.d d i))/\t.m=0

def Torn (d c:Nat->Int) (A last:Nat) (G:Nat->Nat->Int):Prop:=
 (∀i,i<A\/A+last<i->SameS c d i)/\((∀x,x<=last->IsS c (A+x) (G x))\/(SameS c d (A+last)/\∀x,x<last->SameS c d (A+x)\/IsS c (A+x) (G x)))

theorem getN_congr {f g:Nat->Int} {o:Nat}:∀{k:Nat},(∀j,j<k->f (o+j)=g (o+j))->getN f o k=getN g o k
 | 0,_=>rfl
 | k+1,h=>by
  show getN f o k+f (o+k)*256 ^ k=getN g o k+g (o+k)*256 ^ k
  rw [getN_congr (k:=k) (fun j hj=>h j (by omega)),h k (by omega)]
theorem recF_cnt (seq i:Int) (k:Nat) (L:Nat) (g:Nat->Int) (hL:L<=48) (h1:k<65536):getN (recF seq i k L g) 6 2=k:=by
 simp only [getN]
 rw [recF_at seq i k L g hL 6 (by omega),recF_at seq i k L g hL (6+1) (by omega)]
 unfold recH layN putN
 simp
 exact byteAt_two k h1
theorem pieceB_congr {f g:Nat->Int} (h:∀j,j<64->f j=g j) (seq i k:Int) (hp:pieceB f seq i k=true):pieceB g seq i k=true:=by
 have e:getN f 8 2=getN g 8 2:=getN_congr (fun j hj=>h _ (by omega))
 unfold pieceB at hp ⊢
 rw [e] at hp
 simp only [Bool.and_eq_true,decide_eq_true_eq] at hp ⊢
 obtain ⟨⟨h1,h2⟩,h3⟩:=hp
 refine ⟨⟨h1,h2⟩,?_⟩
 rw [sameB_iff] at h3 ⊢
 intro j hj
 rw [<- h j hj,h3 j hj,recF_congr seq i k _ _ _ (fun x hx=>h (12+x) (by omega))]
theorem secW_piece {N last:Nat} (hl:cntOf N=last+1) (seq:Int) (f:Nat->Int) {x:Nat} (hx:x<=last):pieceB (secW N seq f x) seq x ((last+1:Nat):Int)=true:=by
 unfold pieceB secW
 rw [hl,recF_len _ _ _ _ _ (plen_le _ _)]
 simp only [Bool.and_eq_true,decide_eq_true_eq]
 refine ⟨⟨?_,by have:=plen_le N x;omega⟩,?_⟩
 ·unfold leastV plen
  unfold cntOf at hl
  split at hl <;> split <;> (try split) <;> (try split) <;> omega
 ·rw [sameB_iff]
  intro j hj
  rw [recF_congr seq x ((last+1:Nat):Int) ((plen N x:Int)).toNat (fun j=>recF seq x ((last+1:Nat):Int) (plen N x) (fun j=>f (x*48+j)) (12+j)) (fun j=>f (x*48+j)) (fun j hj=>recF_piece _ _ _ _ _ (plen_le _ _) j (by omega)),Int.toNat_natCast]

theorem whole_yes {c:Nat->Int} {A last N:Nat} {seq r:Int} {f:Nat->Int} (hN:N<=30000) (hl:cntOf N=last+1) (hr:(last:Int)+1<=r) (h:∀x,x<=last->IsS c (A+x) (secW N seq f x)) :
  recOk (fun i j=>c ((A+i)*64+j)) r seq/\getN ((fun i j=>c ((A+i)*64+j)) 0) 6 2=((last+1:Nat):Int)/\catL (recLz (fun i j=>c ((A+i)*64+j))) (last+1)=N/\∀j,j<N->catF (recLz (fun i j=>c ((A+i)*64+j))) (recFz (fun i j=>c ((A+i)*64+j))) (last+1) j=f j:=by
 have hl6:last<=624:=by unfold cntOf at hl;split at hl <;> omega
 have hG:∀x,x<=last->∀j,j<64->c ((A+x)*64+j)=secW N seq f x j:=fun x hx=>h x hx
 have ecnt:getN (fun j=>c ((A+0)*64+j)) 6 2=((last+1:Nat):Int):=by
  rw [getN_congr (f:=fun j=>c ((A+0)*64+j)) (g:=secW N seq f 0) (fun j hj=>hG 0 (by omega) _ (by omega))]
  unfold secW
  rw [hl]
  exact recF_cnt _ _ _ _ _ (plen_le _ _) (by omega)
 have eL:∀x,x<=last->recLz (fun i j=>c ((A+i)*64+j)) x=plen N x:=fun x hx=>by
  show (getN (fun j=>c ((A+x)*64+j)) 8 2).toNat=_
  rw [getN_congr (f:=fun j=>c ((A+x)*64+j)) (g:=secW N seq f x) (fun j hj=>hG x hx _ (by omega))]
  unfold secW
  rw [recF_len _ _ _ _ _ (plen_le _ _),Int.toNat_natCast]
 have e48:∀x,x<last->plen N x=48:=fun x hx=>by
  unfold plen
  unfold cntOf at hl
  split at hl <;> split <;> omega
 have eC:∀x,x<=last->catL (recLz (fun i j=>c ((A+i)*64+j))) x=48*x:=fun x hx=>catL_const _ _ (fun j hj=>by rw [eL j (by omega),e48 j (by omega)])
 have eN:catL (recLz (fun i j=>c ((A+i)*64+j))) (last+1)=N:=by
  show catL (recLz (fun i j=>c ((A+i)*64+j))) last+recLz (fun i j=>c ((A+i)*64+j)) last=N
  rw [eC last (Nat.le_refl _),eL last (Nat.le_refl _)]
  unfold plen
  unfold cntOf at hl
  split at hl <;> split <;> omega
 refine ⟨⟨?_,?_,?_,fun i hi=>?_⟩,ecnt,eN,?_⟩
 ·show 1<=getN (fun j=>c ((A+0)*64+j)) 6 2
  rw [ecnt];omega
 ·show getN (fun j=>c ((A+0)*64+j)) 6 2<=625
  rw [ecnt];omega
 ·show getN (fun j=>c ((A+0)*64+j)) 6 2<=r
  rw [ecnt];omega
 ·have hi' : (i:Int)<getN (fun j=>c ((A+0)*64+j)) 6 2:=hi
  show pieceB (fun j=>c ((A+i)*64+j)) seq i (getN (fun j=>c ((A+0)*64+j)) 6 2)=true
  rw [ecnt] at hi' ⊢
  exact pieceB_congr (fun j hj=>(hG i (by omega) j hj).symm) _ _ _ (secW_piece hl seq f (by omega))
 ·have key:∀k,k<=last+1->∀j,j<catL (recLz (fun i j=>c ((A+i)*64+j))) k->catF (recLz (fun i j=>c ((A+i)*64+j))) (recFz (fun i j=>c ((A+i)*64+j))) k j=f j:=by
   intro k
   induction k with
   | zero=>intro _ j hj;exact absurd hj (Nat.not_lt_zero _)
   | succ k ih=>
    intro hk j hj
    show (if j<catL (recLz (fun i j=>c ((A+i)*64+j))) k then catF (recLz (fun i j=>c ((A+i)*64+j))) (recFz (fun i j=>c ((A+i)*64+j))) k j else recFz (fun i j=>c ((A+i)*64+j)) k (j-catL (recLz (fun i j=>c ((A+i)*64+j))) k))=f j
    by_cases hjk:j<catL (recLz (fun i j=>c ((A+i)*64+j))) k
    ·rw [if_pos hjk]
     exact ih (by omega) j hjk
    ·rw [if_neg hjk]
     have hj2:j<catL (recLz (fun i j=>c ((A+i)*64+j))) k+recLz (fun i j=>c ((A+i)*64+j)) k:=hj
     rw [eC k (by omega)] at hjk hj2 ⊢
     rw [eL k (by omega)] at hj2
     have hp:=plen_le N k
     show c ((A+k)*64+(12+(j-48*k)))=f j
     rw [hG k (by omega) _ (by omega)]
     unfold secW
     rw [recF_piece _ _ _ _ _ hp _ (by omega)]
     congr 1
     omega
  intro j hj
  exact key (last+1) (Nat.le_refl _) j (by rw [eN];exact hj)

def RetDq (w:World) (e:Ending) (w' : World) (n:Nat) (d:Nat->Int) (m:Nat) (S:Nat->Int) (L:Nat->Nat) (F:Nat->Nat->Int) (fuel:Int) (dead:Bool):Prop:=
 ∃a' c' p' q' A',e=.returned (.agg #[.slice a' n c',.slice p' m q',.int .i64 fuel,.bool dead])/\OwnD w' w.heap.size a' n d p' m S L F A'/\Below w.heap.size w w'/\n<=c'/\c'<=9223372036854775807

theorem RetG.retDq {w w' : World} {e:Ending} {n:Nat} {d:Nat->Int} {m:Nat} {S:Nat->Int} {L:Nat->Nat} {F:Nat->Nat->Int} {fuel:Int} {dead:Bool} (h:RetG w e w' n d m S L F fuel dead):RetDq w e w' n d m S L F fuel dead:=by
 obtain ⟨a',c',p',q',A',C',he,h1,h2,h3,h4,h5,h6⟩:=h
 obtain ⟨p2,q2,hv,hp⟩:=h2.ownP
 injection hv with e1 _ e3
 subst e1 e3
 exact ⟨a',c',p',q',A',he,⟨h1,hp,h3⟩,h4,h5,h6⟩

def LeftC (W:World) (b B n:Nat) (w' : World) (d2:Nat->Int) (m2:Nat) (S2:Nat->Int) (L2:Nat->Nat) (F2:Nat->Nat->Int) (fuel2:Int) (dead2:Bool):Prop:=
 ∃a' c' p' q' A' C',Dev w' b (.slice a' n c') (.slice p' m2 q') fuel2 dead2/\OwnB w' B a' n d2/\Gath w' B (.slice p' m2 q') m2 S2 L2 F2 A' C'/\(n≠0->∀i,i<m2->L2 i≠0->A' i≠a')/\Below B W w'/\n<=c'/\c'<=9223372036854775807

def SyncDoesC (w0:World) (n m:Nat) (d S:Nat->Int) (L:Nat->Nat) (F:Nat->Nat->Int) (fuel:Int) (dead:Bool) (d2:Nat->Int) (m2:Nat) (S2:Nat->Int) (L2:Nat->Nat) (F2:Nat->Nat->Int) (fuel2:Int) (dead2:Bool):Prop:=
 ∀(W:World) (b B:Nat) (a' p' : Option Addr) (c' q' : Nat) (A:Nat->Option Addr) (C:Nat->Nat),Dev W b (.slice a' n c') (.slice p' m q') fuel dead->OwnB W B a' n d->Gath W B (.slice p' m q') m S L F A C->(n≠0->∀i,i<m->L i≠0->A i≠a')->n<=c'->c'<=9223372036854775807->B<=b->
  Calls Tryz.prog 102 #[.pointer (some ⟨b,0,none⟩)] W fun e w'=>Stepped e/\LeftC W b B n w' d2 m2 S2 L2 F2 fuel2 dead2

theorem syncs_liveC (w0:World) (n m:Nat) (d S:Nat->Int) (L:Nat->Nat) (F:Nat->Nat->Int) (fuel:Int) (hf:fuel≠0) (h1:-1<=fuel) (h2:fuel<=1000000) (hpos:n≠0) (hn:n<=1048576) (hmm:m<=1048576) (hv:∀i,i<m->VP n S L i) (S2:Nat->Int) (L2:Nat->Nat) (F2:Nat->Nat->Int) :
  SyncDoesC w0 n m d S L F fuel false (syncTo d S F m) 0 S2 L2 F2 (fuelAfter fuel) false:=by
 intro W b B a' p' c' q' A C hd ho hg hx hl hm hBb
 rcases ho with h0|⟨g,rfl,hgB,hr⟩
 ·exact absurd h0 hpos
 refine (sync_live b m q' B n c' g p' fuel d S L F A C W hd hf h1 h2 hgB hr hg (hx hpos) hv hn hmm hl hm hBb).mono ?_
 rintro e w' ⟨rfl,hd',hr',hb'⟩
 exact ⟨Or.inl rfl,_,c',none,0,_,_,hd',Or.inr ⟨g,rfl,hgB,hr'⟩,Gath.start _ _ _ _ _,fun _ i hi=>absurd hi (Nat.not_lt_zero _),hb',hl,hm⟩

def SuperDoesC (n m:Nat) (d S:Nat->Int) (L:Nat->Nat) (F:Nat->Nat->Int) (fuel:Int) (dead:Bool) (gen ar fi:Int) (d2:Nat->Int) (m2:Nat) (S2:Nat->Int) (L2:Nat->Nat) (F2:Nat->Nat->Int) (fuel2:Int) (dead2:Bool):Prop:=
 ∀(W:World) (b B:Nat) (a' p' : Option Addr) (c' q' : Nat) (A:Nat->Option Addr) (C:Nat->Nat),Dev W b (.slice a' n c') (.slice p' m q') fuel dead->OwnB W B a' n d->Gath W B (.slice p' m q') m S L F A C->(n≠0->∀i,i<m->L i≠0->A i≠a')->n<=c'->c'<=9223372036854775807->B<=b->
  Calls Tryz.prog 67 #[.pointer (some ⟨b,0,none⟩),.agg #[.int .i64 gen,.int .i64 ar,.int .i64 fi]] W fun e w'=>Stepped e/\LeftC W b B n w' d2 m2 S2 L2 F2 fuel2 dead2

theorem LeftC.before {W W1:World} {b B n:Nat} {w' : World} {d2:Nat->Int} {m2:Nat} {S2:Nat->Int} {L2:Nat->Nat} {F2:Nat->Nat->Int} {fuel2:Int} {dead2:Bool} (h:LeftC W1 b B n w' d2 m2 S2 L2 F2 fuel2 dead2) (hb:Below B W W1):LeftC W b B n w' d2 m2 S2 L2 F2 fuel2 dead2:=by
 obtain ⟨a',c',p',q',A',C',h1,h2,h3,h4,h5,h6⟩:=h
 exact ⟨a',c',p',q',A',C',h1,h2,h3,h4,hb.trans h5,h6⟩

theorem super_liveC (w0:World) (n m:Nat) (d S:Nat->Int) (L:Nat->Nat) (F:Nat->Nat->Int) (fuel:Int) (gen ar fi:Int) (d2:Nat->Int) (m2:Nat) (S2:Nat->Int) (L2:Nat->Nat) (F2:Nat->Nat->Int) (fuel2:Int) (dead2:Bool) (g0:0<=gen) (g1:gen<=2000000000)
  (hf:fuel≠0) (h1:-1<=fuel) (h2:fuel<=1000000) (hm2:m<2000)
  (hs:SyncDoesC w0 n (m+1) d (fun i=>if i=m then gen % 2 else S i) (fun i=>if i=m then 64 else L i) (fun i=>if i=m then superF gen ar fi else F i) (fuelAfter fuel) false d2 m2 S2 L2 F2 fuel2 dead2) :
  SuperDoesC n m d S L F fuel false gen ar fi d2 m2 S2 L2 F2 fuel2 dead2:=by
 intro W b B a' p' c' q' A C hd ho hg hx hl hm hBb
 have hbW:b<W.heap.size:=hd.cells.2.2.2.2.2
 refine writeSuper_steps b gen ar fi W _ g0 g1 (fun w1 g hb1 hgW hsec=>?_)
 have ho1:=ho.below hb1
 refine (write_live0 b m q' B p' _ fuel (gen % 2) (some ⟨g,0,none⟩) 64 S L F A C (superF gen ar fi) w1 (hd.below hb1) hf h1 h2 hm2 (hg.below hb1) hBb (fun w2 hon=>?_)).mono ?_
 ·have hs2:Sec w2.drew g (superF gen ar fi):=hsec.of_block (hon.block g (fun x e=>by injection e with e;subst e;show b≠g;omega))
  exact (hs2.rd 0 64 (by omega)).congr (fun i hi=>by simp)
 rintro e w' ⟨rfl,v',A',C',hd',hg',hA,hAm,hb',hkb⟩
 obtain ⟨p2,q2,hv⟩:=owns_shape hg'.row
 subst hv
 have ho' : OwnB w' B a' n d:=by
  rcases ho1 with h0|⟨g,rfl,hgB,hr⟩
  ·exact Or.inl h0
  ·exact Or.inr ⟨g,rfl,hgB,hkb _ _ _ hr⟩
 refine Or.inr ⟨rfl,(hs w' b B a' p2 c' q2 A' C' hd' ho' hg' (fun hn i hi hl=>?_) hl hm hBb).mono ?_⟩
 ·by_cases e:i=m
  ·subst e
   intro ea
   rcases ho1 with h0|⟨g,rfl,hgB,hr⟩
   ·exact hn h0
   ·have q1:=hAm _ ea
    have q2:=hr.lt
    simp at q1
    omega
  ·have hi' : i<m:=by omega
   rw [hA i hi']
   exact hx hn i hi' (by simpa [e] using hl)
 ·rintro e w3 ⟨he,hL⟩
  exact ⟨he,hL.before ((hb1.mono (by omega)).trans hb')⟩

set_option maxHeartbeats 1000000 in
theorem runSteps_superC (a p:Option Addr) (n c m q:Nat) (d S:Nat->Int) (L:Nat->Nat) (F:Nat->Nat->Int) (fuel:Int) (dead:Bool) (k1:Value) (w:World) (ha:Rd .u8 w a n d) (hp:RdP w p m S L F) (hn:n<=1048576) (hm:m<=1048576) (hL:∀i,i<m->L i<=1048576)
  (d2:Nat->Int) (m2:Nat) (S2:Nat->Int) (L2:Nat->Nat) (F2:Nat->Nat->Int) (fuel2:Int) (dead2:Bool)
  (hst:∀(W:World) (b B:Nat) (a' p' : Option Addr) (c' q' : Nat) (A C),Dev W b (.slice a' n c') (.slice p' m q') fuel dead->OwnB W B a' n d->Gath W B (.slice p' m q') m S L F A C->(n≠0->∀i,i<m->L i≠0->A i≠a')->n<=c'->c'<=9223372036854775807->B<=b->w.heap.size+2<=B->Below w.heap.size w W->
   Calls Tryz.prog 66 #[.pointer (some ⟨b,0,none⟩),k1] W fun e w'=>Stepped e/\LeftC W b B n w' d2 m2 S2 L2 F2 fuel2 dead2) :
  Calls Tryz.prog 54 #[.agg #[.slice a n c,.slice p m q,.int .i64 fuel,.bool dead],.func (.func 66) #[] #[k1]] w fun e w'=>RetDq w e w' n d2 m2 S2 L2 F2 fuel2 dead2:=by
 have HA:Hid (Rd .u8 w a n d):=ha
 have HP:Hid (RdP w p m S L F):=hp
 have HST:Hid (∀(W:World) (b B:Nat) (a' p' : Option Addr) (c' q' : Nat) (A C),Dev W b (.slice a' n c') (.slice p' m q') fuel dead->OwnB W B a' n d->Gath W B (.slice p' m q') m S L F A C->(n≠0->∀i,i<m->L i≠0->A i≠a')->n<=c'->c'<=9223372036854775807->B<=b->w.heap.size+2<=B->Below w.heap.size w W->
   Calls Tryz.prog 66 #[.pointer (some ⟨b,0,none⟩),k1] W fun e w'=>Stepped e/\LeftC W b B n w' d2 m2 S2 L2 F2 fuel2 dead2):=hst
 have HLL:Hid (∀i,i<m->L i<=1048576):=hL
 clear ha hp hst hL
 go_enter Tryz.func54,Tryz.ntmps54
 go_wp2_with fail
 refine (copyDisk_gath a p n c m q d S L F fuel dead _ (HA.out.below (below_alloc2' _ _ _)) (HP.out.below (below_alloc2' _ _ _)) hn hm HLL.out).mono ?_
 rintro e w1 ⟨a1,c1,p1,q1,A1,C1,rfl,ho1,hg1,hx1,hb1,hl1,hm1⟩
 have E2:∀O O',((w.alloc O).alloc O').heap.size=w.heap.size+2:=fun O O'=>by simp
 rw [E2] at ho1 hg1 hb1
 have z1:w.heap.size+2<=w1.heap.size:=by have:=hb1.size;simpa using this
 have B1:Hid (Below w.heap.size w w1):=(below_alloc2' _ _ _).trans (hb1.mono (by omega))
 have K1:Hid (Below (w.heap.size+2) ((w.alloc _).alloc _) w1):=hb1
 have HC:Hid (Calls Tryz.prog 66 #[.pointer (some ⟨w1.heap.size,0,none⟩),k1] (w1.alloc (.cells #[.slice a1 n c1,.slice p1 m q1,.int .i64 fuel,.bool dead] 161)) fun e w'=>Stepped e/\LeftC (w1.alloc (.cells #[.slice a1 n c1,.slice p1 m q1,.int .i64 fuel,.bool dead] 161)) w1.heap.size (w.heap.size+2) n w' d2 m2 S2 L2 F2 fuel2 dead2):=
  HST.out _ _ _ a1 p1 c1 q1 A1 C1 (devNew w1 _ _ _ _) (ho1.below (below_alloc _ _)) (hg1.below (below_alloc _ _)) hx1 hl1 hm1 z1 (Nat.le_refl _) (B1.out.alloc B1.out.size _)
 clear ho1 hg1 hx1 hb1 E2
 go_wp2_with fail
 refine (until_super w1.heap.size k1 _ (fun w'=>LeftC (w1.alloc (.cells #[.slice a1 n c1,.slice p1 m q1,.int .i64 fuel,.bool dead] 161)) w1.heap.size (w.heap.size+2) n w' d2 m2 S2 L2 F2 fuel2 dead2) HC.out).mono ?_
 rintro e w3 ⟨rfl,w2,⟨a2,c2,p2,q2,A2,C2,hd2,ho2,hg2,hx2,hb2,hl2,hm2⟩,hb3⟩
 have z2:=hb2.size
 rw [alloc_size] at z2
 have D3:=(hd2.below hb3).cells
 obtain ⟨y0,y1,y2,y3,yf,yl⟩:=D3
 have K3:Below (w.heap.size+2) ((w.alloc _).alloc _) w3:=((K1.out.alloc (by simpa using z1) _).trans hb2).trans (hb3.mono (by omega))
 have hc3:∀b o,b<w.heap.size+2->w3.cell? ⟨b,o,none⟩=_:=fun b o hb=>K3.cell (p:=⟨b,o,none⟩) hb
 have hf3:∀b o,b<w.heap.size+2->w3.frozen? ⟨b,o,none⟩=_:=fun b o hb=>K3.frozen (p:=⟨b,o,none⟩) hb
 obtain ⟨p3,q3,hv3,hp3⟩:=hg2.ownP
 injection hv3 with e1 _ e3
 subst e1 e3
 have HX:Hid (OwnD w3 (w.heap.size+2) a2 n d2 p2 m2 S2 L2 F2 A2/\Below w.heap.size w w3):=
  ⟨(OwnD.mk ho2 hp3 hx2).below hb3,((B1.out.alloc B1.out.size _).trans (hb2.mono (by omega))).trans (hb3.mono (by omega))⟩
 have hz3:w.heap.size+1<w3.heap.size:=by have:=hb3.size;omega
 clear hd2 ho2 hg2 hx2 hb2 hb3 K3 hp3
 go_wp2
 refine bodyPost_ret (v:=.agg #[.slice a2 n c2,.slice p2 m2 q2,.int .i64 fuel2,.bool dead2]) (by simp [results,Tryz.results54,go_sem,hc3]) rfl ⟨a2,c2,p2,q2,A2,rfl,?_,?_,hl2,hm2⟩
 ·exact ((((HX.out.1.setOther (by simp) _).setOther (by simp) _).setOther (by simp) _).setOther (by simp) _).mono (by omega)
 ·exact (((HX.out.2.setCell (by simp) _).setCell (by simp) _).setCell (by simp) _).setCell (by simp) _

theorem below_alloc3 (w:World) (o1 o2 o3:Obj):Below w.heap.size w (((w.alloc o1).alloc o2).alloc o3):=
 ((below_alloc _ _).alloc (by simp) _).alloc (by simp;omega) _

set_option maxHeartbeats 400000 in
theorem closure_super (b bs:Nat) (gen ar fi:Int) (w:World) (R:World->Prop) (h0:w.cell? ⟨bs,0,none⟩=some (.int .i64 gen)) (h1:w.cell? ⟨bs,1,none⟩=some (.int .i64 ar)) (h2:w.cell? ⟨bs,2,none⟩=some (.int .i64 fi))
  (h:Calls Tryz.prog 67 #[.pointer (some ⟨b,0,none⟩),.agg #[.int .i64 gen,.int .i64 ar,.int .i64 fi]] w fun e w'=>Stepped e/\R w') :
  Calls Tryz.prog 66 #[.pointer (some ⟨b,0,none⟩),.pointer (some ⟨bs,0,none⟩)] w fun e w'=>Stepped e/\R w':=by
 have H:Hid (Calls Tryz.prog 67 #[.pointer (some ⟨b,0,none⟩),.agg #[.int .i64 gen,.int .i64 ar,.int .i64 fi]] w fun e w'=>Stepped e/\R w'):=h
 clear h
 go_enter Tryz.func66,Tryz.ntmps66
 go_wp2_with fail
 refine H.out.mono ?_
 rintro e w1 ⟨he|he,hR⟩
 ·subst he
  go_wp2
  go_end0
  exact ⟨Or.inl rfl,hR⟩
 ·subst he
  go_wp2
  exact ⟨rfl,Or.inr rfl,hR⟩

set_option maxHeartbeats 1000000 in
theorem implSupW_good (a p:Option Addr) (n c m q:Nat) (d S:Nat->Int) (L:Nat->Nat) (F:Nat->Nat->Int) (fuel:Int) (dead:Bool) (gen ar fi:Int) (w:World) (ha:Rd .u8 w a n d) (hp:RdP w p m S L F) (hv:VD n m S L fuel) (hgd:goodB gen ar fi=true) (hn:n<=1048576) (hm:m<=1048576) (hL:∀i,i<m->L i<=1048576) (d2:Nat->Int) (m2:Nat) (S2:Nat->Int) (L2:Nat->Nat) (F2:Nat->Nat->Int) (fuel2:Int) (dead2:Bool) (hdo:SuperDoesC n m d S L F fuel dead gen ar fi d2 m2 S2 L2 F2 fuel2 dead2) :
  Calls Tryz.prog 23 #[.agg #[.slice a n c,.slice p m q,.int .i64 fuel,.bool dead],.agg #[.int .i64 gen,.int .i64 ar,.int .i64 fi]] w fun e w'=>RetDq w e w' n d2 m2 S2 L2 F2 fuel2 dead2:=by
 have hmf:∀(fn:Fn) (first cap:Array Value) (w:World),(Instr.makeFunc fn first cap).run Tryz.prog w=.ok (.func fn first cap) w:=fun _ _ _ _=>rfl
 have HV:Hid (VD n m S L fuel):=hv
 have HGD:Hid (goodB gen ar fi=true):=hgd
 have HDO:Hid (SuperDoesC n m d S L F fuel dead gen ar fi d2 m2 S2 L2 F2 fuel2 dead2):=hdo
 have HA:Hid (Rd .u8 w a n d):=ha
 have HP:Hid (RdP w p m S L F):=hp
 have HLL:Hid (∀i,i<m->L i<=1048576):=hL
 have HFIN:Hid (∀W:World,Below (w.heap.size+3) (((w.alloc (.cells #[.slice a n c,.slice p m q,.int .i64 fuel,.bool dead] 25)).alloc (.cells #[.int .i64 gen,.int .i64 ar,.int .i64 fi] 27)).alloc (.cells #[.slice none 0 0,.slice none 0 0,.int .i64 0,.bool false] 25)) W->Below w.heap.size w W):=fun W h=>(below_alloc3 _ _ _ _).trans (h.mono (by omega))
 have HE:Hid (∀o1 o2 o3,(((w.alloc o1).alloc o2).alloc o3).heap.size=w.heap.size+3):=fun _ _ _=>by simp
 clear ha hp hL hv hgd hdo
 go_enter Tryz.func23,Tryz.ntmps23
 go_wp2_with fail
 refine (implValid_any a p n c m q S L F fuel dead _ (HP.out.below (below_alloc3 _ _ _ _)) hn hm).mono ?_
 rintro e w1 ⟨h1,hb1⟩
 have:=ans_true' h1 HV.out
 subst this
 rw [HE.out] at hb1
 have K1:Hid (Below (w.heap.size+3) (((w.alloc (.cells #[.slice a n c,.slice p m q,.int .i64 fuel,.bool dead] 25)).alloc (.cells #[.int .i64 gen,.int .i64 ar,.int .i64 fi] 27)).alloc (.cells #[.slice none 0 0,.slice none 0 0,.int .i64 0,.bool false] 25)) w1):=hb1
 have hc1:∀b o,b<w.heap.size+3->w1.cell? ⟨b,o,none⟩=_:=fun b o hb=>hb1.cell (p:=⟨b,o,none⟩) hb
 clear hb1 h1
 go_wp2_with fail
 refine (validSuper_any gen ar fi w1).mono ?_
 rintro e w2 ⟨he,hb2⟩
 rw [HGD.out] at he
 subst he
 have z1:w.heap.size+3<=w1.heap.size:=by have:=K1.out.size;rw [HE.out] at this;exact this
 have K2:Hid (Below (w.heap.size+3) (((w.alloc (.cells #[.slice a n c,.slice p m q,.int .i64 fuel,.bool dead] 25)).alloc (.cells #[.int .i64 gen,.int .i64 ar,.int .i64 fi] 27)).alloc (.cells #[.slice none 0 0,.slice none 0 0,.int .i64 0,.bool false] 25)) w2):=K1.out.trans (hb2.mono z1)
 have z2:=hb2.size
 clear hc1 hb2
 have hc2:∀b o,b<w.heap.size+3->w2.cell? ⟨b,o,none⟩=_:=fun b o hb=>K2.out.cell (p:=⟨b,o,none⟩) hb
 have eq1:∀o,w2.cell? ⟨w.heap.size+1,o,none⟩=((w.alloc (.cells #[.slice a n c,.slice p m q,.int .i64 fuel,.bool dead] 25)).alloc (.cells #[.int .i64 gen,.int .i64 ar,.int .i64 fi] 27)).cell? ⟨w.heap.size+1,o,none⟩:=fun o=>by
  rw [hc2 _ _ (by omega),(below_alloc _ _).cell (p:=⟨w.heap.size+1,o,none⟩) (by simp)]
 have e0:w2.cell? ⟨w.heap.size+1,0,none⟩=some (.int .i64 gen):=by rw [eq1];simp
 have e1:w2.cell? ⟨w.heap.size+1,1,none⟩=some (.int .i64 ar):=by rw [eq1];simp
 have e2:w2.cell? ⟨w.heap.size+1,2,none⟩=some (.int .i64 fi):=by rw [eq1];simp
 have HST:Hid (∀(W:World) (b B:Nat) (a' p' : Option Addr) (c' q' : Nat) (A C),Dev W b (.slice a' n c') (.slice p' m q') fuel dead->OwnB W B a' n d->Gath W B (.slice p' m q') m S L F A C->(n≠0->∀i,i<m->L i≠0->A i≠a')->n<=c'->c'<=9223372036854775807->B<=b->w2.heap.size+2<=B->Below w2.heap.size w2 W->
   Calls Tryz.prog 66 #[.pointer (some ⟨b,0,none⟩),.pointer (some ⟨w.heap.size+1,0,none⟩)] W fun e w'=>Stepped e/\LeftC W b B n w' d2 m2 S2 L2 F2 fuel2 dead2):=by
  intro W b B a' p' c' q' A C q1 q2 q3 q4 q5 q6 q7 q8 q9
  have hl:w.heap.size+1<w2.heap.size:=by omega
  exact closure_super b _ gen ar fi W _ ((q9.cell (p:=⟨w.heap.size+1,0,none⟩) hl).trans e0) ((q9.cell (p:=⟨w.heap.size+1,1,none⟩) hl).trans e1) ((q9.cell (p:=⟨w.heap.size+1,2,none⟩) hl).trans e2) (HDO.out W b B a' p' c' q' A C q1 q2 q3 q4 q5 q6 q7)
 clear e0 e1 e2 eq1
 go_wp2_with fail
 refine (runSteps_superC a p n c m q d S L F fuel dead _ w2 (HA.out.below (HFIN.out _ K2.out)) (HP.out.below (HFIN.out _ K2.out)) hn hm HLL.out d2 m2 S2 L2 F2 fuel2 dead2 HST.out).mono ?_
 rintro e w9 ⟨a9,c9,p9,q9,A9,rfl,ho9,hb9,hl9,hm9⟩
 have z9:w.heap.size+3<=w2.heap.size:=by have:=K2.out.size;rw [HE.out] at this;exact this
 have K9:Below (w.heap.size+3) (((w.alloc (.cells #[.slice a n c,.slice p m q,.int .i64 fuel,.bool dead] 25)).alloc (.cells #[.int .i64 gen,.int .i64 ar,.int .i64 fi] 27)).alloc (.cells #[.slice none 0 0,.slice none 0 0,.int .i64 0,.bool false] 25)) w9:=K2.out.trans (hb9.mono z9)
 have hc9:∀b o,b<w.heap.size+3->w9.cell? ⟨b,o,none⟩=_:=fun b o hb=>K9.cell (p:=⟨b,o,none⟩) hb
 have hf9:∀b o,b<w.heap.size+3->w9.frozen? ⟨b,o,none⟩=_:=fun b o hb=>K9.frozen (p:=⟨b,o,none⟩) hb
 have hz9:w.heap.size+2<w9.heap.size:=by have:=hb9.size;omega
 have HX:Hid (OwnD w9 (w.heap.size+3) a9 n d2 p9 m2 S2 L2 F2 A9/\Below w.heap.size w w9):=⟨ho9.mono z9,HFIN.out _ K9⟩
 clear ho9 hb9 K9 hc2 HST
 go_wp2
 refine bodyPost_ret (v:=.agg #[.slice a9 n c9,.slice p9 m2 q9,.int .i64 fuel2,.bool dead2]) (by simp [results,Tryz.results23,go_sem,hc9]) rfl ⟨a9,c9,p9,q9,A9,rfl,?_,?_,hl9,hm9⟩
 ·exact ((((HX.out.1.setOther (by simp) _).setOther (by simp) _).setOther (by simp) _).setOther (by simp) _).mono (by omega)
 ·exact (((HX.out.2.setCell (by simp;try omega) _).setCell (by simp;try omega) _).setCell (by simp;try omega) _).setCell (by simp;try omega) _

theorem below_alloc3s (w:World) (o1 o2 o3:Obj):Below w.heap.size w (((w.alloc o1).alloc o2).alloc o3):=
 ((below_alloc _ _).alloc (by simp) _).alloc (by simp;omega) _

theorem goodB_range {gen ar fi:Int} (h:goodB gen ar fi=true):0<=gen/\gen<=2000000000/\0<=ar/\ar<2/\1<=fi/\fi<=2000000000:=by
 unfold goodB areaB numB at h
 simp only [Bool.and_eq_true,decide_eq_true_eq] at h
 omega

set_option maxHeartbeats 1000000 in
theorem specSupW_good (a p:Option Addr) (n c m q:Nat) (d S:Nat->Int) (L:Nat->Nat) (F:Nat->Nat->Int) (fuel:Int) (dead:Bool) (gen ar fi:Int) (w:World) (ha:Rd .u8 w a n d) (hp:RdP w p m S L F) (hv:VD n m S L fuel) (hgd:goodB gen ar fi=true) (hn:n<=1048576) (hm:m<=1048576) (hL:∀i,i<m->L i<=1048576) (d1:Nat->Int) (m1:Nat) (S1:Nat->Int) (L1:Nat->Nat) (F1:Nat->Nat->Int) (fuel1:Int) (dead1:Bool) (d2:Nat->Int) (m2:Nat) (S2:Nat->Int) (L2:Nat->Nat) (F2:Nat->Nat->Int) (fuel2:Int) (dead2:Bool)
  (hW:∀(W:World) (ad:Option Addr) (cp:Nat),Rd .u8 W a n d->RdP W p m S L F->Rd .u8 W ad 64 (superF gen ar fi)->Calls Tryz.prog 33 #[.agg #[.slice a n c,.slice p m q,.int .i64 fuel,.bool dead],.int .i64 (gen % 2),.slice ad 64 cp] W fun e w'=>RetD W e w' n d1 m1 S1 L1 F1 fuel1 dead1)
  (hY:∀(W:World) (a p:Option Addr) (c q:Nat),Rd .u8 W a n d1->RdP W p m1 S1 L1 F1->Calls Tryz.prog 34 #[.agg #[.slice a n c,.slice p m1 q,.int .i64 fuel1,.bool dead1]] W fun e w'=>RetDq W e w' n d2 m2 S2 L2 F2 fuel2 dead2) :
  Calls Tryz.prog 15 #[.agg #[.slice a n c,.slice p m q,.int .i64 fuel,.bool dead],.agg #[.int .i64 gen,.int .i64 ar,.int .i64 fi]] w fun e w'=>RetDq w e w' n d2 m2 S2 L2 F2 fuel2 dead2:=by
 have HV:Hid (VD n m S L fuel):=hv
 have HGD:Hid (goodB gen ar fi=true):=hgd
 have HW:Hid (∀(W:World) (ad:Option Addr) (cp:Nat),Rd .u8 W a n d->RdP W p m S L F->Rd .u8 W ad 64 (superF gen ar fi)->Calls Tryz.prog 33 #[.agg #[.slice a n c,.slice p m q,.int .i64 fuel,.bool dead],.int .i64 (gen % 2),.slice ad 64 cp] W fun e w'=>RetD W e w' n d1 m1 S1 L1 F1 fuel1 dead1):=hW
 have HY:Hid (∀(W:World) (a p:Option Addr) (c q:Nat),Rd .u8 W a n d1->RdP W p m1 S1 L1 F1->Calls Tryz.prog 34 #[.agg #[.slice a n c,.slice p m1 q,.int .i64 fuel1,.bool dead1]] W fun e w'=>RetDq W e w' n d2 m2 S2 L2 F2 fuel2 dead2):=hY
 have HA:Hid (Rd .u8 w a n d):=ha
 have HP:Hid (RdP w p m S L F):=hp
 have HLL:Hid (∀i,i<m->L i<=1048576):=hL
 have HFIN:Hid (∀W:World,Below (w.heap.size+3) (((w.alloc (.cells #[.slice a n c,.slice p m q,.int .i64 fuel,.bool dead] 25)).alloc (.cells #[.int .i64 gen,.int .i64 ar,.int .i64 fi] 27)).alloc (.cells #[.slice none 0 0,.slice none 0 0,.int .i64 0,.bool false] 25)) W->Below w.heap.size w W):=fun W h=>(below_alloc3s _ _ _ _).trans (h.mono (by omega))
 have HE:Hid (∀o1 o2 o3,(((w.alloc o1).alloc o2).alloc o3).heap.size=w.heap.size+3):=fun _ _ _=>by simp
 clear ha hp hL hv hgd hW hY
 go_enter Tryz.func15,Tryz.ntmps15
 go_wp2_with fail
 refine (specValid_any a p n c m q S L F fuel dead _ (HP.out.below (below_alloc3s _ _ _ _)) hn hm).mono ?_
 rintro e w1 ⟨h1,hb1⟩
 have:=ans_true' h1 HV.out
 subst this
 rw [HE.out] at hb1
 have K1:Hid (Below (w.heap.size+3) (((w.alloc (.cells #[.slice a n c,.slice p m q,.int .i64 fuel,.bool dead] 25)).alloc (.cells #[.int .i64 gen,.int .i64 ar,.int .i64 fi] 27)).alloc (.cells #[.slice none 0 0,.slice none 0 0,.int .i64 0,.bool false] 25)) w1):=hb1
 have hc1:∀b o,b<w.heap.size+3->w1.cell? ⟨b,o,none⟩=_:=fun b o hb=>hb1.cell (p:=⟨b,o,none⟩) hb
 clear hb1 h1
 go_wp2_with fail
 refine (l2GoodSuper_any gen ar fi w1).mono ?_
 rintro e w2 ⟨he,hb2⟩
 rw [HGD.out] at he
 subst he
 have z1:w.heap.size+3<=w1.heap.size:=by have:=K1.out.size;rw [HE.out] at this;exact this
 have K2:Hid (Below (w.heap.size+3) (((w.alloc (.cells #[.slice a n c,.slice p m q,.int .i64 fuel,.bool dead] 25)).alloc (.cells #[.int .i64 gen,.int .i64 ar,.int .i64 fi] 27)).alloc (.cells #[.slice none 0 0,.slice none 0 0,.int .i64 0,.bool false] 25)) w2):=K1.out.trans (hb2.mono z1)
 have z2:=hb2.size
 clear hc1 hb2
 have hc2:∀b o,b<w.heap.size+3->w2.cell? ⟨b,o,none⟩=_:=fun b o hb=>K2.out.cell (p:=⟨b,o,none⟩) hb
 have eq1:∀o,w2.cell? ⟨w.heap.size+1,o,none⟩=((w.alloc (.cells #[.slice a n c,.slice p m q,.int .i64 fuel,.bool dead] 25)).alloc (.cells #[.int .i64 gen,.int .i64 ar,.int .i64 fi] 27)).cell? ⟨w.heap.size+1,o,none⟩:=fun o=>by
  rw [hc2 _ _ (by omega),(below_alloc _ _).cell (p:=⟨w.heap.size+1,o,none⟩) (by simp)]
 have e0:w2.cell? ⟨w.heap.size+1,0,none⟩=some (.int .i64 gen):=by rw [eq1];simp
 have e1:w2.cell? ⟨w.heap.size+1,1,none⟩=some (.int .i64 ar):=by rw [eq1];simp
 have e2:w2.cell? ⟨w.heap.size+1,2,none⟩=some (.int .i64 fi):=by rw [eq1];simp
 have d0:∀o,w2.cell? ⟨w.heap.size,o,none⟩=(w.alloc (.cells #[.slice a n c,.slice p m q,.int .i64 fuel,.bool dead] 25)).cell? ⟨w.heap.size,o,none⟩:=fun o=>by
  rw [hc2 _ _ (by omega),(below_alloc2' _ _ _).cell (p:=⟨w.heap.size,o,none⟩) (by simp)]
 have y0:w2.cell? ⟨w.heap.size,0,none⟩=some (.slice a n c):=by rw [d0];simp
 have y1:w2.cell? ⟨w.heap.size,1,none⟩=some (.slice p m q):=by rw [d0];simp
 have y2:w2.cell? ⟨w.heap.size,2,none⟩=some (.int .i64 fuel):=by rw [d0];simp
 have y3:w2.cell? ⟨w.heap.size,3,none⟩=some (.bool dead):=by rw [d0];simp
 have hl:w.heap.size+1<w2.heap.size:=by omega
 have KC:Hid (∀W:World,Below w2.heap.size w2 W->((W.cell? ⟨w.heap.size,0,none⟩=some (.slice a n c)/\W.cell? ⟨w.heap.size,1,none⟩=some (.slice p m q)/\W.cell? ⟨w.heap.size,2,none⟩=some (.int .i64 fuel)/\W.cell? ⟨w.heap.size,3,none⟩=some (.bool dead))/\W.cell? ⟨w.heap.size+1,0,none⟩=some (.int .i64 gen)/\W.cell? ⟨w.heap.size+1,1,none⟩=some (.int .i64 ar)/\W.cell? ⟨w.heap.size+1,2,none⟩=some (.int .i64 fi))/\Below (w.heap.size+3) (((w.alloc (.cells #[.slice a n c,.slice p m q,.int .i64 fuel,.bool dead] 25)).alloc (.cells #[.int .i64 gen,.int .i64 ar,.int .i64 fi] 27)).alloc (.cells #[.slice none 0 0,.slice none 0 0,.int .i64 0,.bool false] 25)) W/\Below w.heap.size w W/\w2.heap.size<=W.heap.size):=by
  intro W hb
  have q:∀b o,b<w2.heap.size->W.cell? ⟨b,o,none⟩=w2.cell? ⟨b,o,none⟩:=fun b o h=>hb.cell (p:=⟨b,o,none⟩) h
  refine ⟨⟨⟨?_,?_,?_,?_⟩,?_,?_,?_⟩,K2.out.trans (hb.mono (by omega)),(HFIN.out _ K2.out).trans (hb.mono (by omega)),hb.size⟩
  ·rw [q _ _ (by omega)];exact y0
  ·rw [q _ _ (by omega)];exact y1
  ·rw [q _ _ (by omega)];exact y2
  ·rw [q _ _ (by omega)];exact y3
  ·rw [q _ _ (by omega)];exact e0
  ·rw [q _ _ (by omega)];exact e1
  ·rw [q _ _ (by omega)];exact e2
 clear d0 eq1 hc2
 have hgd2:=HGD.out
 obtain ⟨g0,g1,a0,a1,f0,f1⟩:=goodB_range hgd2
 have HW' : Hid (∀(W:World) (ad:Option Addr) (cp:Nat),Rd .u8 W a n d->RdP W p m S L F->Rd .u8 W ad 64 (superF gen ar fi)->Calls Tryz.prog 33 #[.agg #[.slice a n c,.slice p m q,.int .i64 fuel,.bool dead],.int .i64 (gen.tmod 2),.slice ad 64 cp] W fun e w'=>RetD W e w' n d1 m1 S1 L1 F1 fuel1 dead1):=by
  rw [Int.tmod_eq_emod_of_nonneg g0];exact HW.out
 have HSB:Hid (Calls Tryz.prog 47 #[.agg #[.int .i64 gen,.int .i64 ar,.int .i64 fi]] w2.drew fun e w'=>RetOwn w2.drew e w' 64 (superF gen ar fi)):=l2SuperBytes_any gen ar fi w2.drew g0 (by omega) a0 a1 (by omega) (by omega)
 have HT:Hid (∀W:World,Below w2.drew.heap.size w2.drew W->Below w2.heap.size w2 W):=fun W hb=>(Below.refl _ _).drew.trans hb
 clear hgd2 HW
 have hne1:¬ (w.heap.size+1+1=w.heap.size):=by omega
 have hne2:¬ (w.heap.size=w.heap.size+1+1):=by omega
 go_wp2
 go_region_held3 (fun w'=>(w'.cell? ⟨w.heap.size,0,none⟩=some (.slice a n c)/\w'.cell? ⟨w.heap.size,1,none⟩=some (.slice p m q)/\w'.cell? ⟨w.heap.size,2,none⟩=some (.int .i64 fuel)/\w'.cell? ⟨w.heap.size,3,none⟩=some (.bool dead))/\w'.cell? ⟨w.heap.size+1,0,none⟩=some (.int .i64 gen)/\w'.cell? ⟨w.heap.size+1,1,none⟩=some (.int .i64 ar)/\w'.cell? ⟨w.heap.size+1,2,none⟩=some (.int .i64 fi)) (go_keep)
  (first
  | (go_at_call 47;refine HSB.out.mono ?_;rintro e w3 ⟨a3,c3,rfl,ho3,hb3,-,-⟩;obtain ⟨⟨⟨u0,u1,u2,u3⟩,v0,v1,v2⟩,-⟩:=KC.out w3 (HT.out _ hb3))
  | (go_at_call 33;refine (HW'.out w3 a3 c3 (HA.out.below (KC.out w3 (HT.out _ hb3)).2.2.1) (HP.out.below (KC.out w3 (HT.out _ hb3)).2.2.1) ho3.rd).mono ?_;rintro e w4 ⟨a4,c4,p4,q4,A4,rfl,ho4,hb4⟩;obtain ⟨⟨⟨u0,u1,u2,u3⟩,v0,v1,v2⟩,-⟩:=KC.out w4 ((HT.out _ hb3).trans (hb4.mono (HT.out _ hb3).size)))
  | (go_at_call 34;refine (HY.out w4 a4 p4 c4 q4 ho4.data.rd ho4.cache.rd).mono ?_;rintro e w9 ⟨a9,c9,p9,q9,A9,rfl,ho9,hb9,hl9,hm9⟩;obtain ⟨⟨⟨u0,u1,u2,u3⟩,v0,v1,v2⟩,K9,F9,z9⟩:=KC.out w9 (((HT.out _ hb3).trans (hb4.mono (HT.out _ hb3).size)).trans (hb9.mono (Nat.le_trans (HT.out _ hb3).size hb4.size)));have hc9:∀o,w9.cell? ⟨w.heap.size+1+1,o,none⟩=_:=fun o=>K9.cell (p:=⟨w.heap.size+2,o,none⟩) (by show w.heap.size+2<w.heap.size+3;omega);have hf9:∀o,w9.frozen? ⟨w.heap.size+1+1,o,none⟩=_:=fun o=>K9.frozen (p:=⟨w.heap.size+2,o,none⟩) (by show w.heap.size+2<w.heap.size+3;omega);have hz9:w.heap.size+1+1<w9.heap.size:=(by omega);have hz8:=Nat.le_trans (HT.out _ hb3).size hb4.size))
 have HX:Hid (OwnD w9 (w.heap.size+3) a9 n d2 p9 m2 S2 L2 F2 A9/\Below w.heap.size w w9):=⟨ho9.mono (by omega),F9⟩
 clear ho9 ho4 ho3 hb9 hb4 hb3 K9 F9 u0 u1 u2 u3 v0 v1 v2 y0 y1 y2 y3 e0 e1 e2 KC HW' HY HSB HT
 go_wp2
 refine bodyPost_ret (v:=.agg #[.slice a9 n c9,.slice p9 m2 q9,.int .i64 fuel2,.bool dead2]) (by simp [results,Tryz.results15,go_sem,hc9]) rfl ⟨a9,c9,p9,q9,A9,rfl,?_,?_,hl9,hm9⟩
 ·exact ((((HX.out.1.setOther (by simp) _).setOther (by simp) _).setOther (by simp) _).setOther (by simp) _).mono (by omega)
 ·exact (((HX.out.2.setCell (by simp;try omega) _).setCell (by simp;try omega) _).setCell (by simp;try omega) _).setCell (by simp;try omega) _

end Go.Proofs.YtbmffmifemebmaaGreatDoor
