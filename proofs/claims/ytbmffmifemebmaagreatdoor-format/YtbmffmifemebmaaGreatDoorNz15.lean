import Derived.Test.YtbmffmifemebmaaGreatDoorNz13
import Derived.Test.YtbmffmifemebmaaGreatDoorNz14
import Derived.Test.YtbmffmifemebmaaGreatDoorNz11
import Derived.Test.YtbmffmifemebmaaGreatDoorNz8
import Derived.Test.YtbmffmifemebmaaGreatDoorNz6
import Derived.Test.YtbmffmifemebmaaGreatDoorNz10
import Derived.Test.YtbmffmifemebmaaGreatDoorNz9
set_option linter.unusedVariables false
set_option maxRecDepth 100000
namespace Go.Proofs.YtbmffmifemebmaaGreatDoor
open Go.RowKit Go.Deep

set_option maxHeartbeats 4000000 in
theorem markLeafA (g c:Nat) (a:Option Addr) (k:Int) (hk:1<=k) (hk2:k<=100000000) (w:World) (h:rowIn w g 213 4 (leafCell a)) :
  Calls Tryz.prog 182 #[.slice (some ⟨g,0,none⟩) 1 c,.int .i64 k] w fun e w'=>e=.returned (.int .i64 (k+2))/\rowIn w' g 213 4 (markCell a k)/\OnlyAt (some ⟨g,0,none⟩) w w':=by
 obtain ⟨x0,x1,x2,x3,xf,xl⟩:=leafCells h
 have H:Hid (rowIn ((w.setCell ⟨g,0,none⟩ (.bool (k % 3 == 0))).setCell ⟨g,3,none⟩ (.int .i64 (k+1))) g 213 4 (markCell a k)):=by
  refine (rowIn.set (rowIn.set h 0 _) 3 _).congr (fun i hi=>?_)
  match i,hi with
  | 0,_=>simp [markCell]
  | 1,_=>simp [leafCell,markCell]
  | 2,_=>simp [leafCell,markCell]
  | 3,_=>simp [markCell]
 clear h
 have hk3:0<=k:=by omega
 go_enter Tryz.func182,Tryz.ntmps182
 go_wp2
 refine wp_loop_rounds 2 ?_
 rw [rounds_succ]
 go_wp2_with fail
 refine (markStr_nil a 0 _ _).mono ?_
 rintro e w1 ⟨rfl,rfl⟩
 go_wp2_with fail
 refine (markI64_nil none 0 _ _).mono ?_
 rintro e w1 ⟨rfl,rfl⟩
 go_wp2
 rw [rounds_succ]
 go_wp2
 go_ret
 refine ⟨?_,H.out,((OnlyAt.refl _ _).setCell 0 _).setCell 3 _⟩
 show Ending.returned (.int .i64 (k+1+1))=_
 rw [Int.add_assoc]
 rfl

set_option maxHeartbeats 4000000 in
theorem heldLeafA (g c:Nat) (a:Option Addr) (k:Int) (hk:1<=k) (hk2:k<=100000000) (w:World) (h:rowIn w g 213 4 (markCell a k)) :
  Calls Tryz.prog 183 #[.slice (some ⟨g,0,none⟩) 1 c,.int .i64 k] w fun e w'=>e=.returned (.int .i64 (k+2))/\w'=w:=by
 obtain ⟨x0,x1,x2,x3,xf,xl⟩:=markCells h
 clear h
 have hk3:0<=k:=by omega
 go_enter Tryz.func183,Tryz.ntmps183
 go_wp2
 refine wp_loop_rounds 2 ?_
 rw [rounds_succ]
 go_wp2_with fail
 refine (heldStr_nil a 0 _ _).mono ?_
 rintro e w1 ⟨rfl,rfl⟩
 go_wp2_with fail
 refine (heldI64_nil none 0 _ _).mono ?_
 rintro e w1 ⟨rfl,rfl⟩
 go_wp2
 rw [rounds_succ]
 go_wp2
 go_ret
 refine ⟨?_,rfl⟩
 show Ending.returned (.int .i64 (k+1+1))=_
 rw [Int.add_assoc]
 rfl

structure IxMa (w:World) (B g:Nat) (G C:Nat->Nat) (A:Nat->Option Addr) (k:Int) (n:Nat):Prop where
 le:B<=g
 row:rowIn w g 69 6 (fun i=>.slice (some ⟨G i,0,none⟩) 1 (C i))
 each:∀i,i<6->B<=G i/\rowIn w (G i) 213 4 (if i<n then markCell (A i) (k+2*i) else leafCell (A i))
 apart:∀i,i<6->∀j,j<6->G i=G j->i=j

theorem IxMa.keep {w w2:World} {B g:Nat} {G C:Nat->Nat} {A:Nat->Option Addr} {k:Int} {n:Nat} (h:IxMa w B g G C A k n) (hb:Below w.heap.size w w2):IxMa w2 B g G C A k n:=
 ⟨h.le,h.row.of_block (hb.block _ h.row.lt),fun i hi=>⟨(h.each i hi).1,(h.each i hi).2.of_block (hb.block _ (h.each i hi).2.lt)⟩,h.apart⟩

theorem IxMa.next {w w2:World} {B g:Nat} {G C:Nat->Nat} {A:Nat->Option Addr} {k:Int} {n:Nat} (h:IxMa w B g G C A k n) (hn:n<6) (ho:OnlyAt (some ⟨G n,0,none⟩) w w2) (hr:rowIn w2 (G n) 213 4 (markCell (A n) (k+2*n))):IxMa w2 B g G C A k (n+1):=by
 have blk:∀b,b≠G n->w2.heap[b]?=w.heap[b]?:=fun b hne=>ho.block b (fun x e=>by injection e with e;subst e;exact fun e=>hne e.symm)
 refine ⟨h.le,h.row.of_block (blk g ?_),fun i hi=>?_,h.apart⟩
 ·obtain ⟨_,q⟩:=h.each n hn
  rw [if_neg (Nat.lt_irrefl _)] at q
  exact fun e=>h.row.ne q (by decide) e
 ·refine ⟨(h.each i hi).1,?_⟩
  by_cases e:i=n
  ·subst e
   rw [if_pos (by omega)]
   exact hr
  ·have q:=(h.each i hi).2
   have hne:G i≠G n:=fun e2=>e (h.apart i hi n hn e2)
   by_cases e3:i<n
   ·rw [if_pos e3] at q
    rw [if_pos (by omega)]
    exact q.of_block (blk _ hne)
   ·rw [if_neg e3] at q
    rw [if_neg (by omega)]
    exact q.of_block (blk _ hne)

set_option maxHeartbeats 2000000 in
theorem markTreeS_k (g c B:Nat) (G C:Nat->Nat) (A:Nat->Option Addr) (k:Int) (hk:1<=k) (hk2:k<=10000000) (w:World) (h:IxMa w B g G C A k 0) :
  Calls Tryz.prog 125 #[.slice (some ⟨g,0,none⟩) 6 c,.int .i64 k] w fun e w'=>e=.returned (.int .i64 (k+12))/\IxMa w' B g G C A k 6/\OnlyG G w w':=by
 have H:Hid (IxMa w B g G C A k 0):=h
 clear h
 go_enter Tryz.func125,Tryz.ntmps125
 go_wp2
 go_loopw [1,5] (fun q i wr=>∃n:Nat,n<=6/\i=.int .i64 n/\q=.int .i64 (k+2*n)/\IxMa wr B g G C A k n/\OnlyG G w wr) (fun _ i _=>6-(intOf i).toNat)
 case atStart=>exact ⟨0,by omega,rfl,by go_num,H.out,OnlyG.refl _ _⟩
 case round=>
  obtain ⟨n,hn,rfl,rfl,hmk,hog⟩:=hrel
  have HM:Hid (IxMa wr B g G C A k n):=hmk
  have HO:Hid (OnlyG G w wr):=hog
  by_cases hlt:n<6
  ·have hni:(n:Int)<6:=by omega
   have rc:=hmk.row.cell hlt
   clear hmk hog H
   go_wp2_with fail
   have q:=(HM.out.each n hlt).2
   rw [if_neg (Nat.lt_irrefl _)] at q
   refine (markLeafA (G n) (C n) (A n) _ (by omega) (by omega) _ q).mono ?_
   rintro e w1 ⟨rfl,hr1,ho1⟩
   have HN:Hid (IxMa w1 B g G C A k (n+1)):=HM.out.next hlt ho1 hr1
   have HP:Hid (OnlyG G w w1):=HO.out.at hlt ho1
   clear q hr1 ho1 rc HM HO
   go_wp2
   go_roundw
   case rel=>exact ⟨n+1,by omega,by go_num,by go_num,HN.out,HP.out⟩
   case measure=>simp [intOf];omega
  ·have e:n=6:=by omega
   subst e
   clear hmk hog H
   go_wp2
   go_ret
   exact ⟨rfl,HM.out,HO.out⟩

set_option maxHeartbeats 2000000 in
theorem heldTreeS_k (g c B:Nat) (G C:Nat->Nat) (A:Nat->Option Addr) (k:Int) (hk:1<=k) (hk2:k<=10000000) (w:World) (h:IxMa w B g G C A k 6) :
  Calls Tryz.prog 129 #[.slice (some ⟨g,0,none⟩) 6 c,.int .i64 k] w fun e w'=>e=.returned (.int .i64 (k+12))/\Below w.heap.size w w':=by
 have H:Hid (IxMa w B g G C A k 6):=h
 clear h
 go_enter Tryz.func129,Tryz.ntmps129
 go_wp2
 go_loopw [1,5] (fun q i wr=>∃n:Nat,n<=6/\i=.int .i64 n/\q=.int .i64 (k+2*n)/\Below w.heap.size w wr) (fun _ i _=>6-(intOf i).toNat)
 case atStart=>exact ⟨0,by omega,rfl,by go_num,Below.refl _ _⟩
 case round=>
  obtain ⟨n,hn,rfl,rfl,hb⟩:=hrel
  have HB:Hid (Below w.heap.size w wr):=hb
  have HM:Hid (IxMa wr B g G C A k 6):=H.out.keep hb
  by_cases hlt:n<6
  ·have hni:(n:Int)<6:=by omega
   have rc:=HM.out.row.cell hlt
   clear hb H
   go_wp2_with fail
   have q:=(HM.out.each n hlt).2
   rw [if_pos hlt] at q
   refine (heldLeafA (G n) (C n) (A n) _ (by omega) (by omega) _ q).mono ?_
   rintro e w1 ⟨rfl,rfl⟩
   clear q rc HM
   have hneg:¬ (k+2*(n:Int)+2<0):=by omega
   go_wp2
   go_roundw
   case rel=>exact ⟨n+1,by omega,by go_num,by go_num,HB.out⟩
   case measure=>simp [intOf];omega
  ·have e:n=6:=by omega
   subst e
   clear hb H HM
   go_wp2
   go_ret
   exact ⟨rfl,HB.out⟩
theorem IxOk.ma0 {w:World} {B g:Nat} {G C:Nat->Nat} {A:Nat->Option Addr} (k:Int) (h:IxOk w B g G C A):IxMa w B g G C A k 0:=
 ⟨h.le,h.row,fun i hi=>⟨(h.each i hi).1,(h.each i hi).2⟩,h.apart⟩

set_option maxHeartbeats 1000000 in
theorem markIndex_k (g c B:Nat) (G C:Nat->Nat) (A:Nat->Option Addr) (k:Int) (hk:1<=k) (hk2:k<=10000000) (w:World) (h:IxOk w B g G C A) :
  Calls Tryz.prog 74 #[.agg #[.slice (some ⟨g,0,none⟩) 6 c],.int .i64 k] w fun e w'=>e=.returned (.int .i64 (k+12))/\IxMa w' B g G C A k 6/\∃o,OnlyG G (w.alloc o) w':=by
 have H:Hid (∀o,IxMa (w.alloc o) B g G C A k 0):=fun o=>(h.keep (below_alloc _ _)).ma0 k
 clear h
 go_enter Tryz.func74,Tryz.ntmps74
 go_wp2_with fail
 refine (markTreeS_k g c B G C A k hk hk2 _ (H.out _)).mono ?_
 rintro e w1 ⟨rfl,hm,ho⟩
 have HX:Hid (IxMa w1 B g G C A k 6/\∃o,OnlyG G (w.alloc o) w1):=⟨hm,_,ho⟩
 clear hm ho
 go_wp2
 go_ret
 exact ⟨rfl,HX.out⟩

set_option maxHeartbeats 1000000 in
theorem heldIndex_k (g c B:Nat) (G C:Nat->Nat) (A:Nat->Option Addr) (k:Int) (hk:1<=k) (hk2:k<=10000000) (w:World) (h:IxMa w B g G C A k 6) :
  Calls Tryz.prog 77 #[.agg #[.slice (some ⟨g,0,none⟩) 6 c],.int .i64 k] w fun e w'=>e=.returned (.int .i64 (k+12))/\Below w.heap.size w w':=by
 have H:Hid (∀o,IxMa (w.alloc o) B g G C A k 6):=fun o=>h.keep (below_alloc _ _)
 clear h
 go_enter Tryz.func77,Tryz.ntmps77
 go_wp2_with fail
 refine (heldTreeS_k g c B G C A k hk hk2 _ (H.out _)).mono ?_
 rintro e w1 ⟨rfl,hb1⟩
 have HX:Hid (Below w.heap.size w w1):=(below_alloc _ _).trans (hb1.mono (by simp))
 clear hb1
 go_wp2
 go_ret
 exact ⟨rfl,HX.out⟩


set_option maxHeartbeats 1000000 in
theorem readRec_out (a p:Option Addr) (n c m q:Nat) (d S:Nat->Int) (L:Nat->Nat) (F:Nat->Nat->Int) (fuel:Int) (dead:Bool) (at_ seq:Int) (w:World) (hn:n<=1048576) (hout:¬ (0<=at_/\at_<(n:Int) / 64)) :
  Calls Tryz.prog 162 #[.agg #[.slice a n c,.slice p m q,.int .i64 fuel,.bool dead],.int .i64 at_,.int .i64 seq] w fun e w'=>e=.returned (.agg #[.bool false,.slice none 0 0,.int .i64 0])/\Below w.heap.size w w':=by
 have HFIN:Hid (∀W:World,Below (w.heap.size+2) ((w.alloc (.cells #[.slice a n c,.slice p m q,.int .i64 fuel,.bool dead] 25)).alloc (.cells #[.bool false,.slice none 0 0,.int .i64 0] 133)) W->Below w.heap.size w W):=fun W h=>((below_alloc _ _).trans ((below_alloc _ _).mono (by simp))).trans (h.mono (by omega))
 have HE2:Hid (∀o1 o2,((w.alloc o1).alloc o2).heap.size=w.heap.size+2):=fun _ _=>by simp
 have HOUT:Hid (¬ (0<=at_/\at_<(n:Int) / 64)):=hout
 clear hout
 go_enter Tryz.func162,Tryz.ntmps162
 go_wp2_with fail
 refine (hasSector_any a p n c m q fuel dead at_ _ hn).mono ?_
 rintro e w1 ⟨h1,hb1⟩
 have:=ans_false' h1 HOUT.out
 subst this
 rw [HE2.out] at hb1
 have KB:Hid (Below (w.heap.size+2) ((w.alloc (.cells #[.slice a n c,.slice p m q,.int .i64 fuel,.bool dead] 25)).alloc (.cells #[.bool false,.slice none 0 0,.int .i64 0] 133)) w1):=hb1
 clear hb1 h1
 have hc9:∀b o,b<w.heap.size+2->w1.cell? ⟨b,o,none⟩=_:=fun b o hb=>KB.out.cell (p:=⟨b,o,none⟩) hb
 have hf9:∀b o,b<w.heap.size+2->w1.frozen? ⟨b,o,none⟩=_:=fun b o hb=>KB.out.frozen (p:=⟨b,o,none⟩) hb
 have hz9:w.heap.size+1<w1.heap.size:=by have:=KB.out.size;rw [HE2.out] at this;omega
 have HBB:Hid (Below w.heap.size w w1):=HFIN.out _ KB.out
 go_wp2
 refine bodyPost_ret (v:=.agg #[.bool false,.slice none 0 0,.int .i64 0]) (by simp [results,Tryz.results162,go_sem,hc9]) rfl ⟨rfl,?_⟩
 exact (((HBB.out.setCell (by simp;try omega) _).setCell (by simp;try omega) _).setCell (by simp;try omega) _)


structure Stt where
 d:Nat->Int
 m:Nat
 S:Nat->Int
 L:Nat->Nat
 F:Nat->Nat->Int
 fuel:Int
 dead:Bool

def Stt.ok (n:Nat) (t:Stt):Prop:=VD n t.m t.S t.L t.fuel

def Stt.gone (t:Stt):Stt:=⟨t.d,t.m,t.S,t.L,t.F,t.fuel,true⟩
def Stt.push (s:Int) (f:Nat->Int) (t:Stt):Stt:=⟨t.d,t.m+1,fun i=>if i=t.m then s else t.S i,fun i=>if i=t.m then 64 else t.L i,fun i=>if i=t.m then f else t.F i,fuelAfter t.fuel,false⟩
def Stt.flush (t:Stt):Stt:=⟨syncTo t.d t.S t.F t.m,0,fun _=>0,fun _=>0,fun _ _=>0,fuelAfter t.fuel,false⟩

def Stt.write (s:Int) (f:Nat->Int) (t:Stt):Stt:=
 if t.dead=true then t else if t.m=2000 then t else if t.fuel=0 then t.gone else t.push s f
def Stt.sync (t:Stt):Stt:=
 if t.dead=true then t else if t.fuel=0 then t.gone else t.flush

def Stt.writes (at_:Int) (G:Nat->Nat->Int) (t:Stt):Nat->Stt
 | 0=>t
 | k+1=>(Stt.writes at_ G t k).write (at_+k) (G k)

def Stt.recd (at_:Int) (G:Nat->Nat->Int) (last:Nat) (t:Stt):Stt:=
 let t1:=Stt.writes at_ G t last
 let t2:=if 0<last then t1.sync else t1
 (t2.write (at_+last) (G last)).sync

theorem Stt.write_dead {t:Stt} (h:t.dead=true) (s:Int) (f:Nat->Int):t.write s f=t:=by
 unfold Stt.write;rw [if_pos h]
theorem Stt.sync_dead {t:Stt} (h:t.dead=true):t.sync=t:=by
 unfold Stt.sync;rw [if_pos h]

theorem Stt.writes_dead {t:Stt} {at_:Int} {G:Nat->Nat->Int} {i:Nat} (h:(t.writes at_ G i).dead=true):∀k,i<=k->t.writes at_ G k=t.writes at_ G i
 | 0,hk=>by
  have:i=0:=by omega
  subst this;rfl
 | k+1,hk=>by
  by_cases e:i=k+1
  ·subst e;rfl
  ·have ih:=Stt.writes_dead h k (by omega)
   show (t.writes at_ G k).write (at_+k) (G k)=_
   rw [ih]
   exact Stt.write_dead h _ _

theorem Stt.recd_dead {t:Stt} {at_:Int} {G:Nat->Nat->Int} {last i:Nat} (hi:i<=last) (h:(t.writes at_ G i).dead=true):t.recd at_ G last=t.writes at_ G i:=by
 have e:=Stt.writes_dead h last hi
 unfold Stt.recd
 simp only [e,Stt.sync_dead h,ite_self,Stt.write_dead h]

theorem stt_vd_push {n m:Nat} {S:Nat->Int} {L:Nat->Nat} {fuel s:Int} (hV:VD n m S L fuel) (hf:fuel≠0) (hm:m<2000) (s0:0<=s) (s1:s<(n:Int) / 64) :
  VD n (m+1) (fun i=>if i=m then s else S i) (fun i=>if i=m then 64 else L i) (fuelAfter fuel):=by
 obtain ⟨h1,h2⟩:=hV
 unfold VH at h1
 refine ⟨?_,fun i hi=>?_⟩
 ·unfold VH fuelAfter
  split <;> omega
 ·unfold VP
  by_cases e:i=m
  ·subst e
   show 0<=(if i=i then s else S i)/\(if i=i then s else S i)<(n:Int) / 64/\(if i=i then 64 else L i)=64
   rw [if_pos rfl,if_pos rfl]
   exact ⟨s0,s1,rfl⟩
  ·simp only [if_neg e]
   exact h2 i (by omega)

theorem stt_vd_lens {n m:Nat} {S:Nat->Int} {L:Nat->Nat} {fuel:Int} (h:VD n m S L fuel):n<=1048576/\m<=1048576/\∀i,i<m->L i<=1048576:=by
 obtain ⟨h1,h2⟩:=h
 unfold VH at h1
 refine ⟨by omega,by omega,fun i hi=>?_⟩
 have:=(h2 i hi).2.2
 omega

theorem Stt.ok.write {n:Nat} {t:Stt} (h:t.ok n) {s:Int} (f:Nat->Int) (s0:0<=s) (s1:s<(n:Int) / 64):(t.write s f).ok n:=by
 have hm:t.m<=2000:=by have:=h.1;unfold VH at this;omega
 unfold Stt.write
 split
 ·exact h
 ·split
  ·exact h
  ·rename_i e
   split
   ·exact h
   ·rename_i e2
    exact stt_vd_push (show VD n t.m t.S t.L t.fuel from h) e2 (by omega) s0 s1

theorem Stt.ok.sync {n:Nat} {t:Stt} (h:t.ok n):t.sync.ok n:=by
 have hh:=h.1
 unfold VH at hh
 unfold Stt.sync
 split
 ·exact h
 ·split
  ·exact h
  ·refine ⟨?_,fun i hi=>absurd hi (Nat.not_lt_zero _)⟩
   show VH n 0 (fuelAfter t.fuel)
   unfold VH fuelAfter
   split <;> omega

theorem Stt.ok.writes {n:Nat} {t:Stt} (h:t.ok n) {at_:Int} {G:Nat->Nat->Int}:∀k:Nat,0<=at_->at_+k<=(n:Int) / 64->(t.writes at_ G k).ok n
 | 0,_,_=>h
 | k+1,h0,h1=>(Stt.ok.writes h k h0 (by omega)).write _ (by omega) (by omega)

def Stt.ret (t:Stt) (n:Nat) (w:World) (e:Ending) (w' : World):Prop:=RetD w e w' n t.d t.m t.S t.L t.F t.fuel t.dead

theorem specW_st (t:Stt) (a p ad:Option Addr) (n c q cp:Nat) (s:Int) (f:Nat->Int) (w:World) (ha:Rd .u8 w a n t.d) (hp:RdP w p t.m t.S t.L t.F) (hrd:Rd .u8 w ad 64 f) (hv:t.ok n) (s0:0<=s) (s1:s<(n:Int) / 64) :
  Calls Tryz.prog 33 #[.agg #[.slice a n c,.slice p t.m q,.int .i64 t.fuel,.bool t.dead],.int .i64 s,.slice ad 64 cp] w ((t.write s f).ret n w):=by
 obtain ⟨d,m,S,L,F,fuel,dead⟩:=t
 have hv' : VD n m S L fuel:=hv
 obtain ⟨hn,hm,hL⟩:=stt_vd_lens hv'
 have hVH:=hv'.1
 unfold VH at hVH
 unfold Stt.write Stt.ret
 cases dead with
 | true=>exact specW_2 a p ad n c m q 64 cp d S L F fuel s w ha hp hn hm hL (by omega) hv'
 | false=>
  by_cases hm2:m=2000
  ·simp only [hm2,if_true,Bool.false_eq_true,if_false]
   subst hm2
   exact specW_6 a p ad n c 2000 q cp d S L F fuel s w ha hp hn hm hL hv' (by omega) (by omega) rfl
  ·by_cases hf:fuel=0
   ·subst hf
    simp only [hm2,if_true,Bool.false_eq_true,if_false]
    exact (specW_zero a p ad n c m q cp d S L F s w ha hp hn hm hL hv' (by omega) (by omega) hm2).mono (fun e w' h=>h.retD)
   ·simp only [hm2,hf,Bool.false_eq_true,if_false]
    exact (specW_live a p ad n c m q cp d S L F fuel s w ha hp hn hm hL f hrd hv' (by omega) (by omega) hm2 hf (by omega) (by omega)).mono (fun e w' h=>h.retD)

theorem specY_st (t:Stt) (a p:Option Addr) (n c q:Nat) (w:World) (ha:Rd .u8 w a n t.d) (hp:RdP w p t.m t.S t.L t.F) (hv:t.ok n) :
  Calls Tryz.prog 34 #[.agg #[.slice a n c,.slice p t.m q,.int .i64 t.fuel,.bool t.dead]] w (t.sync.ret n w):=by
 obtain ⟨d,m,S,L,F,fuel,dead⟩:=t
 have hv' : VD n m S L fuel:=hv
 obtain ⟨hn,hm,hL⟩:=stt_vd_lens hv'
 have hVH:=hv'.1
 unfold VH at hVH
 unfold Stt.sync Stt.ret
 cases dead with
 | true=>exact specY_2 a p n c m q d S L F fuel w ha hp hn hm hL hv'
 | false=>
  by_cases hf:fuel=0
  ·subst hf
   simp only [if_true,Bool.false_eq_true,if_false]
   exact (specY_zero a p n c m q d S L F w ha hp hn hm hL hv').mono (fun e w' h=>h.retD)
  ·simp only [hf,Bool.false_eq_true,if_false]
   exact specY_live a p n c m q d S L F fuel w ha hp hn hm hL hv' hf (by omega) (by omega) (fun _=>0) (fun _=>0) (fun _ _=>0)
end Go.Proofs.YtbmffmifemebmaaGreatDoor
namespace Go.Proofs.YtbmffmifemebmaaGreatDoor
open Go.RowKit Go.Deep Go.MapKept Go.ChangeMaps

theorem fieldsQ:(Tryz.prog.fieldsOf 72).toList=[{ name := "S",type:=2,offset:=0,embedded:=false,tag := "",pkgPath := "",byteOffset:=0 },{ name := "P",type:=2,offset:=1,embedded:=false,tag := "",pkgPath := "",byteOffset:=8 },{ name := "O",type:=2,offset:=2,embedded:=false,tag := "",pkgPath := "",byteOffset:=16 },{ name := "G",type:=2,offset:=3,embedded:=false,tag := "",pkgPath := "",byteOffset:=24 }]:=by kernel_rfl
theorem eqQ (a b c d a' b' c' d' : Int) (w:World):(Op.equalIn 10000 72 (.agg #[.int .i64 a,.int .i64 b,.int .i64 c,.int .i64 d]) (.agg #[.int .i64 a',.int .i64 b',.int .i64 c',.int .i64 d'])).run Tryz.prog w=.ok (a == a' && (b == b' && (c == c' && d == d'))) w:=by
 rw [show (10000:Nat)=9999+1 from rfl,run_equalIn_struct (P:=Tryz.prog) w 9999 72 _ _ (by kernel_rfl) (by kernel_rfl),fieldsQ]
 simp [Op.eqFields,go_sem]
 by_cases h1:a=a' <;> by_cases h2:b=b' <;> by_cases h3:c=c' <;> by_cases h4:d=d' <;> simp [h1,h2,h3,h4]

set_option maxHeartbeats 1000000 in
theorem span_e (w:World) :
  Calls Tryz.prog 159 #[.func (.func 192) #[] #[],.agg #[.int .i64 0,.int .i64 0,.int .i64 0,.int .i64 0]] w fun e w'=>e=.returned (.tuple #[.string { data:=#[] },.string { data:=#[] }])/\Below w.heap.size w w':=by
 have HC:Hid (∀w1:World,Below (w.alloc (.cells #[.int .i64 0,.int .i64 0,.int .i64 0,.int .i64 0] 72)).heap.size (w.alloc (.cells #[.int .i64 0,.int .i64 0,.int .i64 0,.int .i64 0] 72)) w1->w1.cell? ⟨w.heap.size,0,none⟩=some (.int .i64 0)/\w.heap.size<w1.heap.size/\Below w.heap.size w w1):=by
  intro w1 hb
  have hs:=hb.size
  simp at hs
  exact ⟨by rw [hb.cell (by simp)];simp,by omega,(below_alloc _ _).trans (hb.mono (by simp))⟩
 go_enter Tryz.func159,Tryz.ntmps159
 go_wp2_with fail
 refine (lay_1 w.heap.size _).mono ?_
 rintro e w1 ⟨rfl,hb1⟩
 obtain ⟨x0,x1,hb⟩:=HC.out w1 hb1
 have HB:Hid (Below w.heap.size w w1):=hb
 have hix:∀W:World,(Instr.index 100 (.agg #[.pointer (some ⟨w.heap.size,0,none⟩),.pointer (some ⟨w.heap.size,1,none⟩),.pointer (some ⟨w.heap.size,2,none⟩),.pointer (some ⟨w.heap.size,3,none⟩)]) (.int .i64 0)).run Tryz.prog W=.ok (.pointer (some ⟨w.heap.size,0,none⟩)) W:=fun W=>by simp [Instr.index,go_sem]
 clear hb1 hb HC
 go_wp2
 refine wp_loop_rounds 1 ?_
 rw [rounds_succ]
 go_wp2
 exact bodyPost_ret (v:=.tuple #[.string { data:=#[] },.string { data:=#[] }]) (by simp [results,Tryz.results159,go_sem]) rfl ⟨rfl,HB.out⟩

set_option maxHeartbeats 1000000 in
theorem scan_e (b p:Nat) (w:World) (h0:w.cell? ⟨b,0,none⟩=some (.func (.func 192) #[] #[])) (h1:w.cell? ⟨b,1,none⟩=some (.iface 154 (.pointer (some ⟨p,0,none⟩)))) (hp:Bx w p 158 #[.int .i64 0,.slice none 0 0]) :
  Calls Tryz.prog 105 #[.pointer (some ⟨b,0,none⟩),.agg #[.int .i64 0,.int .i64 0,.int .i64 0,.int .i64 0]] w fun e w'=>e=.returned (.slice none 0 0)/\Below w.heap.size w w':=by
 have hbl:=World.block_lt_of_cell? _ _ h0
 have HC:Hid (∀w1:World,Below (w.alloc (.cells #[.int .i64 0,.int .i64 0,.int .i64 0,.int .i64 0] 72)).drew.heap.size (w.alloc (.cells #[.int .i64 0,.int .i64 0,.int .i64 0,.int .i64 0] 72)).drew w1->w1.cell? ⟨b,0,none⟩=some (.func (.func 192) #[] #[])/\w1.cell? ⟨b,1,none⟩=some (.iface 154 (.pointer (some ⟨p,0,none⟩)))/\Bx w1 p 158 #[.int .i64 0,.slice none 0 0]/\Below w.heap.size w w1/\w1.cell? ⟨w.heap.size,0,none⟩=some (.int .i64 0)/\w1.cell? ⟨w.heap.size,1,none⟩=some (.int .i64 0)/\w1.cell? ⟨w.heap.size,2,none⟩=some (.int .i64 0)/\w1.cell? ⟨w.heap.size,3,none⟩=some (.int .i64 0)):=by
  intro w1 hb
  have hb' : Below w.heap.size w w1:=((below_alloc _ _).drew).trans (hb.mono (by simp))
  exact ⟨(hb'.cell (p:=⟨b,0,none⟩) hbl).trans h0,(hb'.cell (p:=⟨b,1,none⟩) hbl).trans h1,hp.below hb',hb',by rw [hb.cell (by simp)];simp,by rw [hb.cell (by simp)];simp,by rw [hb.cell (by simp)];simp,by rw [hb.cell (by simp)];simp⟩
 have y0:(w.alloc (.cells #[.int .i64 0,.int .i64 0,.int .i64 0,.int .i64 0] 72)).cell? ⟨b,0,none⟩=some (.func (.func 192) #[] #[]):=((below_alloc _ _).cell (p:=⟨b,0,none⟩) hbl).trans h0
 have q0:(w.alloc (.cells #[.int .i64 0,.int .i64 0,.int .i64 0,.int .i64 0] 72)).cell? ⟨w.heap.size,0,none⟩=some (.int .i64 0):=by simp
 have q1:(w.alloc (.cells #[.int .i64 0,.int .i64 0,.int .i64 0,.int .i64 0] 72)).cell? ⟨w.heap.size,1,none⟩=some (.int .i64 0):=by simp
 have q2:(w.alloc (.cells #[.int .i64 0,.int .i64 0,.int .i64 0,.int .i64 0] 72)).cell? ⟨w.heap.size,2,none⟩=some (.int .i64 0):=by simp
 have q3:(w.alloc (.cells #[.int .i64 0,.int .i64 0,.int .i64 0,.int .i64 0] 72)).cell? ⟨w.heap.size,3,none⟩=some (.int .i64 0):=by simp
 clear hp h0 h1
 go_enter Tryz.func105,Tryz.ntmps105
 go_wp2
 go_region_held3 (fun w'=>w'.cell? ⟨b,0,none⟩=some (.func (.func 192) #[] #[])/\w'.cell? ⟨w.heap.size,0,none⟩=some (.int .i64 0)/\w'.cell? ⟨w.heap.size,1,none⟩=some (.int .i64 0)/\w'.cell? ⟨w.heap.size,2,none⟩=some (.int .i64 0)/\w'.cell? ⟨w.heap.size,3,none⟩=some (.int .i64 0)) (go_keep)
  (first
  | (go_at_call 159;refine (span_e (w.alloc (.cells #[.int .i64 0,.int .i64 0,.int .i64 0,.int .i64 0] 72)).drew).mono ?_;rintro e w1 ⟨rfl,hb1⟩;obtain ⟨z0,z1,z2,z3,z4,z5,z6,z7⟩:=HC.out w1 hb1;have HX:Hid (Bx w1 p 158 #[.int .i64 0,.slice none 0 0]/\Below w.heap.size w w1):=⟨z2,z3⟩;clear z2 z3 hb1)
  | fail)
 go_wp2_with fail
 refine (gather_e p _ _ w1 HX.out.1).mono ?_
 rintro e w2 ⟨rfl,hw2⟩
 subst hw2
 go_wp2
 refine wp_loop_rounds 1 ?_
 rw [rounds_succ]
 go_wp2
 go_ret
 exact ⟨rfl,HX.out.2⟩

set_option maxHeartbeats 1000000 in
theorem leading_e (w:World) :
  Calls Tryz.prog 158 #[.func (.func 192) #[] #[],.agg #[.int .i64 0,.int .i64 0,.int .i64 0,.int .i64 0]] w fun e w'=>e=.returned (.agg #[.int .i64 0,.int .i64 0,.int .i64 0,.int .i64 0])/\Below w.heap.size w w':=by
 go_enter Tryz.func158,Tryz.ntmps158
 go_wp2_with fail
 refine (lay_1 w.heap.size _).mono ?_
 rintro e w1 ⟨rfl,hb1⟩
 have H1:Hid (Bx w1 w.heap.size 72 #[.int .i64 0,.int .i64 0,.int .i64 0,.int .i64 0]/\Bx w1 (w.heap.size+1) 72 #[.int .i64 0,.int .i64 0,.int .i64 0,.int .i64 0]/\Bx w1 (w.heap.size+2) 72 #[.int .i64 0,.int .i64 0,.int .i64 0,.int .i64 0]/\Below w.heap.size w w1):=by
  have b1:=Bx.new (w.alloc (.cells #[.int .i64 0,.int .i64 0,.int .i64 0,.int .i64 0] 72)) #[.int .i64 0,.int .i64 0,.int .i64 0,.int .i64 0] 72
  have b2:=Bx.new ((w.alloc (.cells #[.int .i64 0,.int .i64 0,.int .i64 0,.int .i64 0] 72)).alloc (.cells #[.int .i64 0,.int .i64 0,.int .i64 0,.int .i64 0] 72)) #[.int .i64 0,.int .i64 0,.int .i64 0,.int .i64 0] 72
  simp only [World.size_alloc] at b1 b2
  exact ⟨(((Bx.new w #[.int .i64 0,.int .i64 0,.int .i64 0,.int .i64 0] 72).alloc _).alloc _).below hb1,(b1.alloc _).below hb1,b2.below hb1,(((below_alloc _ _).alloc (by simp) _).alloc (by simp;omega) _).trans (hb1.mono (by simp;omega))⟩
 clear hb1
 go_wp2_with fail
 refine (lay_1 (w.heap.size+2) _).mono ?_
 rintro e w2 ⟨rfl,hb2⟩
 have H2:Hid (Bx w2 w.heap.size 72 #[.int .i64 0,.int .i64 0,.int .i64 0,.int .i64 0]/\Bx w2 (w.heap.size+1) 72 #[.int .i64 0,.int .i64 0,.int .i64 0,.int .i64 0]/\Bx w2 (w.heap.size+2) 72 #[.int .i64 0,.int .i64 0,.int .i64 0,.int .i64 0]/\Below w.heap.size w w2):=
  ⟨H1.out.1.below hb2,H1.out.2.1.below hb2,H1.out.2.2.1.below hb2,H1.out.2.2.2.trans (hb2.mono H1.out.2.2.2.size)⟩
 clear hb2 H1
 go_upto_region 3 with fail
 have S3:Hid (Bx ((w2.alloc (.cells #[.pointer (some ⟨w.heap.size,0,none⟩),.pointer (some ⟨w.heap.size,1,none⟩),.pointer (some ⟨w.heap.size,2,none⟩),.pointer (some ⟨w.heap.size,3,none⟩)] 100)).alloc (.cells #[.pointer (some ⟨w.heap.size+2,0,none⟩),.pointer (some ⟨w.heap.size+2,1,none⟩),.pointer (some ⟨w.heap.size+2,2,none⟩),.pointer (some ⟨w.heap.size+2,3,none⟩)] 100)) w.heap.size 72 #[.int .i64 0,.int .i64 0,.int .i64 0,.int .i64 0]/\Bx ((w2.alloc (.cells #[.pointer (some ⟨w.heap.size,0,none⟩),.pointer (some ⟨w.heap.size,1,none⟩),.pointer (some ⟨w.heap.size,2,none⟩),.pointer (some ⟨w.heap.size,3,none⟩)] 100)).alloc (.cells #[.pointer (some ⟨w.heap.size+2,0,none⟩),.pointer (some ⟨w.heap.size+2,1,none⟩),.pointer (some ⟨w.heap.size+2,2,none⟩),.pointer (some ⟨w.heap.size+2,3,none⟩)] 100)) (w.heap.size+1) 72 #[.int .i64 0,.int .i64 0,.int .i64 0,.int .i64 0]/\Bx ((w2.alloc (.cells #[.pointer (some ⟨w.heap.size,0,none⟩),.pointer (some ⟨w.heap.size,1,none⟩),.pointer (some ⟨w.heap.size,2,none⟩),.pointer (some ⟨w.heap.size,3,none⟩)] 100)).alloc (.cells #[.pointer (some ⟨w.heap.size+2,0,none⟩),.pointer (some ⟨w.heap.size+2,1,none⟩),.pointer (some ⟨w.heap.size+2,2,none⟩),.pointer (some ⟨w.heap.size+2,3,none⟩)] 100)) (w.heap.size+1+1) 72 #[.int .i64 0,.int .i64 0,.int .i64 0,.int .i64 0]/\Below w.heap.size w ((w2.alloc (.cells #[.pointer (some ⟨w.heap.size,0,none⟩),.pointer (some ⟨w.heap.size,1,none⟩),.pointer (some ⟨w.heap.size,2,none⟩),.pointer (some ⟨w.heap.size,3,none⟩)] 100)).alloc (.cells #[.pointer (some ⟨w.heap.size+2,0,none⟩),.pointer (some ⟨w.heap.size+2,1,none⟩),.pointer (some ⟨w.heap.size+2,2,none⟩),.pointer (some ⟨w.heap.size+2,3,none⟩)] 100))/\Bx ((w2.alloc (.cells #[.pointer (some ⟨w.heap.size,0,none⟩),.pointer (some ⟨w.heap.size,1,none⟩),.pointer (some ⟨w.heap.size,2,none⟩),.pointer (some ⟨w.heap.size,3,none⟩)] 100)).alloc (.cells #[.pointer (some ⟨w.heap.size+2,0,none⟩),.pointer (some ⟨w.heap.size+2,1,none⟩),.pointer (some ⟨w.heap.size+2,2,none⟩),.pointer (some ⟨w.heap.size+2,3,none⟩)] 100)) w2.heap.size 100 #[.pointer (some ⟨w.heap.size,0,none⟩),.pointer (some ⟨w.heap.size,1,none⟩),.pointer (some ⟨w.heap.size,2,none⟩),.pointer (some ⟨w.heap.size,3,none⟩)]):=
  ⟨(H2.out.1.alloc _).alloc _,(H2.out.2.1.alloc _).alloc _,(H2.out.2.2.1.alloc _).alloc _,(H2.out.2.2.2.alloc H2.out.2.2.2.size _).alloc (by have:=H2.out.2.2.2.size;simp;omega) _,(Bx.new _ _ _).alloc _⟩
 clear H2
 generalize ((w2.alloc (.cells #[.pointer (some ⟨w.heap.size,0,none⟩),.pointer (some ⟨w.heap.size,1,none⟩),.pointer (some ⟨w.heap.size,2,none⟩),.pointer (some ⟨w.heap.size,3,none⟩)] 100)).alloc (.cells #[.pointer (some ⟨w.heap.size+2,0,none⟩),.pointer (some ⟨w.heap.size+2,1,none⟩),.pointer (some ⟨w.heap.size+2,2,none⟩),.pointer (some ⟨w.heap.size+2,3,none⟩)] 100))=W3 at S3 ⊢
 generalize w2.heap.size=pb at S3 ⊢
 have x0:=S3.out.1.cell 0
 have y0:=S3.out.2.1.cell 0
 have y1:=S3.out.2.1.cell 1
 have y2:=S3.out.2.1.cell 2
 have y3:=S3.out.2.1.cell 3
 have yf:=S3.out.2.1.frozen
 have yl:=S3.out.2.1.lt
 have z0:=S3.out.2.2.1.cell 0
 have z1:=S3.out.2.2.1.cell 1
 have z2:=S3.out.2.2.1.cell 2
 have z3:=S3.out.2.2.1.cell 3
 have p0:=S3.out.2.2.2.2.cell 0
 simp at x0 y0 y1 y2 y3 z0 z1 z2 z3 p0
 have HB:Hid (Below w.heap.size w W3):=S3.out.2.2.2.1
 clear S3
 go_wp2
 refine wp_loop_rounds 1 ?_
 rw [rounds_succ]
 go_wp2
 refine bodyPost_ret (v:=.agg #[.int .i64 0,.int .i64 0,.int .i64 0,.int .i64 0]) (by simp [results,Tryz.results158,go_sem,y0,y1,y2,y3]) rfl ⟨rfl,?_⟩
 exact (((HB.out.setCell (by simp) _).setCell (by simp) _).setCell (by simp) _).setCell (by simp) _

set_option maxHeartbeats 1000000 in
theorem eligible_e (w:World) :
  Calls Tryz.prog 104 #[.int .i64 0,.agg #[.int .i64 0,.int .i64 0,.int .i64 0,.int .i64 0]] w fun e w'=>e=.returned (.bool true)/\Below w.heap.size w w':=by
 have hf:(freeB 0 && freeB 0 && freeB 0 && freeB 0)=true:=by decide
 have HP:Hid (∀W:World,Calls Tryz.prog 157 #[.agg #[.int .i64 0,.int .i64 0,.int .i64 0,.int .i64 0]] W fun e w'=>e=.returned (.bool true)/\Below W.heap.size W w'):=fun W=>by
  have:=isPattern_any 0 0 0 0 W
  rw [hf] at this
  exact this
 go_enter Tryz.func104,Tryz.ntmps104
 go_wp2_with fail
 refine (HP.out _).mono ?_
 rintro e w1 ⟨rfl,hb1⟩
 have H1:Hid (Bx w1 w.heap.size 72 #[.int .i64 0,.int .i64 0,.int .i64 0,.int .i64 0]/\Below w.heap.size w w1):=⟨(Bx.new _ _ _).below hb1,(below_alloc _ _).trans (hb1.mono (by simp))⟩
 have HK:Hid (∀W:World,Below w1.drew.heap.size w1.drew W->W.cell? ⟨w.heap.size,0,none⟩=some (.int .i64 0)/\W.cell? ⟨w.heap.size,1,none⟩=some (.int .i64 0)/\W.cell? ⟨w.heap.size,2,none⟩=some (.int .i64 0)/\W.cell? ⟨w.heap.size,3,none⟩=some (.int .i64 0)):=fun W hW=>by
  have q:=H1.out.1.drew.below hW
  exact ⟨q.cell 0,q.cell 1,q.cell 2,q.cell 3⟩
 clear hb1
 have hix:∀W:World,(Instr.index 239 (.agg #[.func (.func 192) #[] #[],.func (.func 193) #[] #[],.func (.func 194) #[] #[],.func (.func 195) #[] #[],.func (.func 196) #[] #[],.func (.func 197) #[] #[]]) (.int .i64 0)).run Tryz.prog W=.ok (.func (.func 192) #[] #[]) W:=fun W=>by simp [Instr.index,go_sem]
 obtain ⟨q0,q1,q2,q3⟩:=HK.out w1.drew (Below.refl _ _)
 have hq:∀W:World,(Op.equalIn 10000 72 (.agg #[.int .i64 0,.int .i64 0,.int .i64 0,.int .i64 0]) (.agg #[.int .i64 0,.int .i64 0,.int .i64 0,.int .i64 0])).run Tryz.prog W=.ok true W:=fun W=>by
  have:=eqQ 0 0 0 0 0 0 0 0 W
  simpa using this
 go_wp2
 go_region_held3 (fun w'=>w'.cell? ⟨w.heap.size,0,none⟩=some (.int .i64 0)/\w'.cell? ⟨w.heap.size,1,none⟩=some (.int .i64 0)/\w'.cell? ⟨w.heap.size,2,none⟩=some (.int .i64 0)/\w'.cell? ⟨w.heap.size,3,none⟩=some (.int .i64 0)) (go_keep)
  (first
  | (go_at_call 152;refine (orders_any w1.drew).mono ?_;rintro e w2 ⟨rfl,hb2⟩;obtain ⟨r0,r1,r2,r3⟩:=HK.out w2 hb2)
  | (go_at_call 158;refine (leading_e w2).mono ?_;rintro e w3 ⟨rfl,hb3⟩;obtain ⟨r0,r1,r2,r3⟩:=HK.out w3 (hb2.trans (hb3.mono hb2.size)))
  | fail)
 go_wp2
 go_ret
 exact ⟨rfl,(H1.out.2.drew).trans ((hb2.trans (hb3.mono hb2.size)).mono H1.out.2.size)⟩

set_option maxHeartbeats 1000000 in
theorem scanQuads_e (g c B0:Nat) (G C:Nat->Nat) (Aa:Nat->Option Addr) (w:World) (h:IxOk w B0 g G C Aa) :
  Calls Tryz.prog 60 #[.agg #[.slice (some ⟨g,0,none⟩) 6 c],.agg #[.int .i64 0,.int .i64 0,.int .i64 0,.int .i64 0],.int .i64 0] w fun e w'=>e=.returned (.slice none 0 0)/\Below w.heap.size w w':=by
 have HR:Hid (IxOk w B0 g G C Aa):=h
 clear h
 go_enter Tryz.func60,Tryz.ntmps60
 go_wp2_with fail
 refine (readIndex_e g c B0 G C Aa _ (HR.out.keep ((below_alloc _ _).alloc (by simp) _))).mono ?_
 rintro e w1 ⟨x,p,A,rfl,hsx,hb1⟩
 have H1:Hid (Six w1 0 x p A 6/\Bx w1 (w.heap.size+1) 72 #[.int .i64 0,.int .i64 0,.int .i64 0,.int .i64 0]/\Below w.heap.size w w1):=by
  have b1:=Bx.new (w.alloc (.cells #[.slice (some ⟨g,0,none⟩) 6 c] 33)) #[.int .i64 0,.int .i64 0,.int .i64 0,.int .i64 0] 72
  simp only [World.size_alloc] at b1
  exact ⟨⟨hsx.bx,hsx.sz,Nat.zero_le _,hsx.fn,hsx.rt,hsx.lf⟩,b1.below hb1,((below_alloc _ _).alloc (by simp) _).trans (hb1.mono (by simp;omega))⟩
 clear hsx hb1
 have q0:=H1.out.2.1.cell 0
 have q1:=H1.out.2.1.cell 1
 have q2:=H1.out.2.1.cell 2
 have q3:=H1.out.2.1.cell 3
 simp at q0 q1 q2 q3
 go_wp2_with fail
 refine (eligible_e w1).mono ?_
 rintro e w2 ⟨rfl,hb2⟩
 have H2:Hid (Six w2 0 x p A 6/\Bx w2 (w.heap.size+1) 72 #[.int .i64 0,.int .i64 0,.int .i64 0,.int .i64 0]/\Below w.heap.size w w2):=⟨H1.out.1.below hb2,H1.out.2.1.below hb2,H1.out.2.2.trans (hb2.mono H1.out.2.2.size)⟩
 clear hb2 H1 q0 q1 q2 q3
 have q0:=H2.out.2.1.cell 0
 have q1:=H2.out.2.1.cell 1
 have q2:=H2.out.2.1.cell 2
 have q3:=H2.out.2.1.cell 3
 simp at q0 q1 q2 q3
 have HS:Hid (Calls Tryz.prog 105 #[.pointer (some ⟨x,0,none⟩),.agg #[.int .i64 0,.int .i64 0,.int .i64 0,.int .i64 0]] w2.drew fun e w'=>e=.returned (.slice none 0 0)/\Below w2.drew.heap.size w2.drew w'):=
  scan_e x (p 0) w2.drew ((H2.out.1.bx.drew.cell _).trans (H2.out.1.fn 0 (by omega))) ((H2.out.1.bx.drew.cell _).trans (H2.out.1.rt 0 (by omega))) (H2.out.1.lf 0 (by omega)).1.drew
 have xl:=H2.out.1.bx.lt
 go_wp2
 go_region_held3 (fun w'=>w'.cell? ⟨w.heap.size+1,0,none⟩=some (.int .i64 0)/\w'.cell? ⟨w.heap.size+1,1,none⟩=some (.int .i64 0)/\w'.cell? ⟨w.heap.size+1,2,none⟩=some (.int .i64 0)/\w'.cell? ⟨w.heap.size+1,3,none⟩=some (.int .i64 0)) (go_keep)
  (first
  | (go_at_call 105;refine HS.out.mono ?_;rintro e w3 ⟨rfl,hb3⟩;have r0:=(H2.out.2.1.drew.below hb3).cell 0;have r1:=(H2.out.2.1.drew.below hb3).cell 1;have r2:=(H2.out.2.1.drew.below hb3).cell 2;have r3:=(H2.out.2.1.drew.below hb3).cell 3;simp at r0 r1 r2 r3)
  | fail)
 go_wp2
 go_ret
 exact ⟨rfl,H2.out.2.2.drew.trans (hb3.mono H2.out.2.2.size)⟩
end Go.Proofs.YtbmffmifemebmaaGreatDoor
namespace Go.Proofs.YtbmffmifemebmaaGreatDoor
open Go.RowKit Go.Deep

def DevSt (W:World) (b B n:Nat) (t:Stt):Prop:=
 ∃a' c' p' q' A C,Dev W b (.slice a' n c') (.slice p' t.m q') t.fuel t.dead/\OwnB W B a' n t.d/\Gath W B (.slice p' t.m q') t.m t.S t.L t.F A C/\(n≠0->∀i,i<t.m->t.L i≠0->A i≠a')/\n<=c'/\c'<=9223372036854775807

theorem DevSt.below {W w' : World} {b B n:Nat} {t:Stt} (h:DevSt W b B n t) (hb:Below W.heap.size W w'):DevSt w' b B n t:=by
 obtain ⟨a',c',p',q',A,C,h1,h2,h3,h4,h5,h6⟩:=h
 exact ⟨a',c',p',q',A,C,h1.below hb,h2.below hb,h3.below hb,h4,h5,h6⟩

def StepTo (W:World) (b B n:Nat) (t:Stt) (e:Ending) (w' : World):Prop:=
 DevSt w' b B n t/\Below B W w'/\(e=.returned (.tuple #[])\/(e=.panicked [{ v:=.iface 231 (.agg #[]),recovered:=false }]/\t.dead=true))

theorem devW_st (t:Stt) (b B n:Nat) (s:Int) (ad:Option Addr) (cp:Nat) (f:Nat->Int) (W:World) (h:DevSt W b B n t) (hv:t.ok n) (hBb:B<=b)
  (hro:∀w1,OnlyAt (some ⟨b,0,none⟩) W w1->Rd .u8 w1.drew ad 64 f) :
  Calls Tryz.prog 117 #[.pointer (some ⟨b,0,none⟩),.int .i64 s,.slice ad 64 cp] W (StepTo W b B n (t.write s f)):=by
 obtain ⟨d,m,S,L,F,fuel,dead⟩:=t
 have hv' : VD n m S L fuel:=hv
 have hVH:=hv'.1
 unfold VH at hVH
 have h0:=h
 obtain ⟨a',c',p',q',A,C,hd,ho,hg,hx,hl,hm⟩:=h
 dsimp only at hd ho hg hx
 have hb1:b<W.heap.size:=hd.cells.2.2.2.2.2
 by_cases hm2:m=2000
 ·subst hm2
  refine (write_full b q' p' _ fuel dead s ad cp W hd).mono ?_
  rintro e w' ⟨rfl,rfl⟩
  have e:Stt.write s f ⟨d,2000,S,L,F,fuel,dead⟩=⟨d,2000,S,L,F,fuel,dead⟩:=by simp [Stt.write]
  rw [e]
  exact ⟨h0,Below.refl _ _,Or.inl rfl⟩
 ·have hm3:m<2000:=by omega
  by_cases hf:fuel=0
  ·subst hf
   refine (write_zero b m q' p' _ dead s ad cp W hd hm3).mono ?_
   rintro e w' ⟨rfl,hd',hon⟩
   have e:Stt.write s f ⟨d,m,S,L,F,0,dead⟩=⟨d,m,S,L,F,0,true⟩:=by cases dead <;> simp [Stt.write,hm2,Stt.gone]
   rw [e]
   exact ⟨⟨a',c',p',q',A,C,hd',ho.onlyDev hd hon,hg.onlyDev hd hon,hx,hl,hm⟩,hon.below (fun x e=>by injection e with e;subst e;exact hBb),Or.inr ⟨rfl,rfl⟩⟩
  ·cases dead with
   | true=>
    refine (write_dead b m q' p' _ fuel s ad cp W hd hf hm3).mono ?_
    rintro e w' ⟨rfl,rfl⟩
    rw [Stt.write_dead rfl]
    exact ⟨h0,Below.refl _ _,Or.inr ⟨rfl,rfl⟩⟩
   | false=>
    refine (write_live0 b m q' B p' _ fuel s ad cp S L F A C f W hd hf (by omega) (by omega) hm3 hg hBb hro).mono ?_
    rintro e w' ⟨rfl,v',A',C',hd',hg',hA,hAm,hb',hkb⟩
    obtain ⟨p2,q2,hv2⟩:=owns_shape hg'.row
    subst hv2
    have e:Stt.write s f ⟨d,m,S,L,F,fuel,false⟩=⟨d,m+1,fun i=>if i=m then s else S i,fun i=>if i=m then 64 else L i,fun i=>if i=m then f else F i,fuelAfter fuel,false⟩:=by simp [Stt.write,hm2,hf,Stt.push]
    rw [e]
    have ho' : OwnB w' B a' n d:=by
     rcases ho with h0|⟨g,rfl,hgB,hr⟩
     ·exact Or.inl h0
     ·exact Or.inr ⟨g,rfl,hgB,hkb _ _ _ hr⟩
    refine ⟨⟨a',c',p2,q2,A',C',hd',ho',hg',fun hn i hi hl=>?_,hl,hm⟩,hb',Or.inl rfl⟩
    dsimp only at hi hl
    by_cases e:i=m
    ·subst e
     intro ea
     rcases ho with h0|⟨g,rfl,hgB,hr⟩
     ·exact hn h0
     ·have q1:=hAm _ ea
      have q2:=hr.lt
      simp at q1
      omega
    ·have hi' : i<m:=by omega
     rw [hA i hi']
     exact hx hn i hi' (by simpa [e] using hl)

theorem devY_st (t:Stt) (b B n:Nat) (W:World) (h:DevSt W b B n t) (hv:t.ok n) (hBb:B<=b) :
  Calls Tryz.prog 102 #[.pointer (some ⟨b,0,none⟩)] W (StepTo W b B n t.sync):=by
 obtain ⟨d,m,S,L,F,fuel,dead⟩:=t
 have hv' : VD n m S L fuel:=hv
 have hVH:=hv'.1
 unfold VH at hVH
 have h0:=h
 obtain ⟨a',c',p',q',A,C,hd,ho,hg,hx,hl,hm⟩:=h
 dsimp only at hd ho hg hx
 by_cases hf:fuel=0
 ·subst hf
  refine (sync_zero b _ _ dead W hd).mono ?_
  rintro e w' ⟨rfl,hd',hon⟩
  have e:Stt.sync ⟨d,m,S,L,F,0,dead⟩=⟨d,m,S,L,F,0,true⟩:=by cases dead <;> simp [Stt.sync,Stt.gone]
  rw [e]
  exact ⟨⟨a',c',p',q',A,C,hd',ho.onlyDev hd hon,hg.onlyDev hd hon,hx,hl,hm⟩,hon.below (fun x e=>by injection e with e;subst e;exact hBb),Or.inr ⟨rfl,rfl⟩⟩
 ·cases dead with
  | true=>
   refine (sync_dead b _ _ fuel W hd hf).mono ?_
   rintro e w' ⟨rfl,rfl⟩
   rw [Stt.sync_dead rfl]
   exact ⟨h0,Below.refl _ _,Or.inr ⟨rfl,rfl⟩⟩
  | false=>
   rcases ho with h00|⟨g,rfl,hgB,hr⟩
   ·omega
   refine (sync_live b m q' B n c' g p' fuel d S L F A C W hd hf (by omega) (by omega) hgB hr hg (hx (by omega)) hv'.2 (by omega) (by omega) hl hm hBb).mono ?_
   rintro e w' ⟨rfl,hd',hr',hb'⟩
   have e:Stt.sync ⟨d,m,S,L,F,fuel,false⟩=⟨syncTo d S F m,0,fun _=>0,fun _=>0,fun _ _=>0,fuelAfter fuel,false⟩:=by simp [Stt.sync,hf,Stt.flush]
   rw [e]
   exact ⟨⟨_,c',none,0,_,_,hd',Or.inr ⟨g,rfl,hgB,hr'⟩,Gath.start _ _ _ _ _,fun _ i hi=>absurd hi (Nat.not_lt_zero _),hl,hm⟩,hb',Or.inl rfl⟩
end Go.Proofs.YtbmffmifemebmaaGreatDoor
