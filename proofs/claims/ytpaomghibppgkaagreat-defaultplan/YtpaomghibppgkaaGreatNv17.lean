import Derived.Test.YtpaomghibppgkaaGreatNv16
import Derived.Test.YtpaomghibppgkaaGreatNv1
import Derived.Deep.QuietTactic
import Derived.BigQuiet
import Derived.Deep.RegionHeld3
import Derived.Deep.CutBlock
import Derived.Laws.Cover1
set_option linter.unusedVariables false
set_option maxRecDepth 100000
namespace Go.Proofs.YtpaomghibppgkaaGreat
open Go.RowKit Go.Deep

def partOf (a b c d:Int) (i:Nat):Int:=if i=0 then a else if i=1 then b else if i=2 then c else d

set_option maxHeartbeats 1000000 in
theorem l5Part_any (a b c d:Int) (i:Nat) (hi:i<4) (w:World) :
  Calls Tryz.prog 116 #[.agg #[.int .i64 a,.int .i64 b,.int .i64 c,.int .i64 d],.int .i64 i] w fun e w'=>e=.returned (.int .i64 (partOf a b c d i))/\Below w.heap.size w w':=by
 have h:i=0\/i=1\/i=2\/i=3:=by omega
 rcases h with rfl|rfl|rfl|rfl
 all_goals
  go_enter Tryz.func116,Tryz.ntmps116
  go_wp2
  go_ret
  exact ⟨rfl,below_alloc _ _⟩

def OrdRet (w:World) (q:Nat->Nat) (e:Ending) (w' : World):Prop:=∃g,e=.returned (.slice (some ⟨g,0,none⟩) 4 4)/\w.heap.size<=g/\rowIn w' g 3 4 (fun i=>.int .i64 (q i))/\Below w.heap.size w w'

def ord0 (i:Nat):Nat:=if i=0 then 0 else if i=1 then 1 else if i=2 then 2 else 3
set_option maxHeartbeats 1000000 in
theorem l5Order_0 (w:World):Calls Tryz.prog 91 #[.int .i64 0] w (OrdRet w ord0):=by
 go_enter Tryz.func91,Tryz.ntmps91
 go_wp2
 go_ret
 refine ⟨_,rfl,Nat.le_refl _,⟨_,blk_alloc_new _ _,by simp,fun i hi=>?_⟩,below_alloc _ _⟩
 match i,hi with
 | 0,_=>rfl
 | 1,_=>rfl
 | 2,_=>rfl
 | 3,_=>rfl

def ord1 (i:Nat):Nat:=if i=0 then 1 else if i=1 then 2 else if i=2 then 0 else 3
set_option maxHeartbeats 1000000 in
theorem l5Order_1 (w:World):Calls Tryz.prog 91 #[.int .i64 1] w (OrdRet w ord1):=by
 go_enter Tryz.func91,Tryz.ntmps91
 go_wp2
 go_ret
 refine ⟨_,rfl,Nat.le_refl _,⟨_,blk_alloc_new _ _,by simp,fun i hi=>?_⟩,below_alloc _ _⟩
 match i,hi with
 | 0,_=>rfl
 | 1,_=>rfl
 | 2,_=>rfl
 | 3,_=>rfl

def ord2 (i:Nat):Nat:=if i=0 then 2 else if i=1 then 0 else if i=2 then 1 else 3
set_option maxHeartbeats 1000000 in
theorem l5Order_2 (w:World):Calls Tryz.prog 91 #[.int .i64 2] w (OrdRet w ord2):=by
 go_enter Tryz.func91,Tryz.ntmps91
 go_wp2
 go_ret
 refine ⟨_,rfl,Nat.le_refl _,⟨_,blk_alloc_new _ _,by simp,fun i hi=>?_⟩,below_alloc _ _⟩
 match i,hi with
 | 0,_=>rfl
 | 1,_=>rfl
 | 2,_=>rfl
 | 3,_=>rfl

def ord3 (i:Nat):Nat:=if i=0 then 3 else if i=1 then 0 else if i=2 then 1 else 2
set_option maxHeartbeats 1000000 in
theorem l5Order_3 (w:World):Calls Tryz.prog 91 #[.int .i64 3] w (OrdRet w ord3):=by
 go_enter Tryz.func91,Tryz.ntmps91
 go_wp2
 go_ret
 refine ⟨_,rfl,Nat.le_refl _,⟨_,blk_alloc_new _ _,by simp,fun i hi=>?_⟩,below_alloc _ _⟩
 match i,hi with
 | 0,_=>rfl
 | 1,_=>rfl
 | 2,_=>rfl
 | 3,_=>rfl

def ord4 (i:Nat):Nat:=if i=0 then 3 else if i=1 then 1 else if i=2 then 2 else 0
set_option maxHeartbeats 1000000 in
theorem l5Order_4 (w:World):Calls Tryz.prog 91 #[.int .i64 4] w (OrdRet w ord4):=by
 go_enter Tryz.func91,Tryz.ntmps91
 go_wp2
 go_ret
 refine ⟨_,rfl,Nat.le_refl _,⟨_,blk_alloc_new _ _,by simp,fun i hi=>?_⟩,below_alloc _ _⟩
 match i,hi with
 | 0,_=>rfl
 | 1,_=>rfl
 | 2,_=>rfl
 | 3,_=>rfl

def ord5 (i:Nat):Nat:=if i=0 then 3 else if i=1 then 2 else if i=2 then 0 else 1
set_option maxHeartbeats 1000000 in
theorem l5Order_5 (w:World):Calls Tryz.prog 91 #[.int .i64 5] w (OrdRet w ord5):=by
 go_enter Tryz.func91,Tryz.ntmps91
 go_wp2
 go_ret
 refine ⟨_,rfl,Nat.le_refl _,⟨_,blk_alloc_new _ _,by simp,fun i hi=>?_⟩,below_alloc _ _⟩
 match i,hi with
 | 0,_=>rfl
 | 1,_=>rfl
 | 2,_=>rfl
 | 3,_=>rfl


def okTo (x:Nat->Int) (k:Nat):Prop:=∀q,q<k->(0<=x q/\x q<=2000000000)/\∀r,r<q->x r=0->x q=0
def freeTo (x:Nat->Int):Nat->Bool
 | 0=>false
 | k+1=>freeTo x k || x k == 0
theorem freeTo_iff (x:Nat->Int) (k:Nat):freeTo x k=true↔∃r,r<k/\x r=0:=by
 induction k with
 | zero=>simp [freeTo]
 | succ k ih=>
  simp only [freeTo,Bool.or_eq_true,ih,beq_iff_eq]
  constructor
  ·rintro (⟨r,h,e⟩|e)
   ·exact ⟨r,by omega,e⟩
   ·exact ⟨k,by omega,e⟩
  ·rintro ⟨r,h,e⟩
   by_cases hr:r=k
   ·subst hr;exact .inr e
   ·exact .inl ⟨r,by omega,e⟩
theorem okTo_succ {x:Nat->Int} {k:Nat} (h:okTo x k) (h1:0<=x k) (h2:x k<=2000000000) (h3:freeTo x k=true->x k<=0):okTo x (k+1):=by
 intro q hq
 by_cases e:q=k
 ·subst e
  refine ⟨⟨h1,h2⟩,fun r hr e=>?_⟩
  have:=h3 ((freeTo_iff x q).2 ⟨r,hr,e⟩)
  omega
 ·exact h q (by omega)

def eligB (x:Nat->Int):Bool:=(List.range 4).all fun q=>decide (0<=x q/\x q<=2000000000) && (List.range q).all fun r=>decide (x r=0->x q=0)
theorem eligB_iff (x:Nat->Int):eligB x=true↔okTo x 4:=by
 unfold eligB okTo
 simp only [List.all_eq_true,List.mem_range,Bool.and_eq_true,decide_eq_true_eq]
theorem eligB_no {x:Nat->Int} {k:Nat} (hk:k<4) (h:¬ ((0<=x k/\x k<=2000000000)/\(freeTo x k=true->x k<=0))):eligB x=false:=by
 cases hc:eligB x with
 | false=>rfl
 | true=>
  have o:=(eligB_iff x).1 hc k hk
  refine absurd ⟨o.1,fun f=>?_⟩ h
  obtain ⟨r,hr,e⟩:=(freeTo_iff x k).1 f
  have:=o.2 r hr e
  omega

set_option maxHeartbeats 2000000 in
theorem specElig_any (perm:Int) (h0:0<=perm) (h5:perm<=5) (a b c d:Int) (q:Nat->Nat) (hq:∀i,i<4->q i<4) (HO:∀w,Calls Tryz.prog 91 #[.int .i64 perm] w (OrdRet w q)) (w:World) :
  Calls Tryz.prog 93 #[.int .i64 perm,.agg #[.int .i64 a,.int .i64 b,.int .i64 c,.int .i64 d]] w fun e w'=>e=.returned (.bool (eligB fun i=>partOf a b c d (q i)))/\Below w.heap.size w w':=by
 have H:Hid (∀w,Calls Tryz.prog 91 #[.int .i64 perm] w (OrdRet w q)):=HO
 clear HO
 go_enter Tryz.func93,Tryz.ntmps93
 go_wp2_with fail
 refine (H.out _).mono ?_
 rintro e w1 ⟨g,rfl,hg,hrow,hb1⟩
 rw [World.size_alloc] at hg hb1
 have p0:w1.cell? ⟨w.heap.size,0,none⟩=some (.int .i64 a):=(hb1.cell (p:=⟨w.heap.size,0,none⟩) (by show w.heap.size<w.heap.size+1;omega)).trans (cellOf (blk_alloc_new _ _) 0)
 have p1:w1.cell? ⟨w.heap.size,1,none⟩=some (.int .i64 b):=(hb1.cell (p:=⟨w.heap.size,1,none⟩) (by show w.heap.size<w.heap.size+1;omega)).trans (cellOf (blk_alloc_new _ _) 1)
 have p2:w1.cell? ⟨w.heap.size,2,none⟩=some (.int .i64 c):=(hb1.cell (p:=⟨w.heap.size,2,none⟩) (by show w.heap.size<w.heap.size+1;omega)).trans (cellOf (blk_alloc_new _ _) 2)
 have p3:w1.cell? ⟨w.heap.size,3,none⟩=some (.int .i64 d):=(hb1.cell (p:=⟨w.heap.size,3,none⟩) (by show w.heap.size<w.heap.size+1;omega)).trans (cellOf (blk_alloc_new _ _) 3)
 have HS:Hid (w.heap.size<w1.heap.size/\rowIn w1 g 3 4 (fun i=>.int .i64 (q i))/\(w1.cell? ⟨w.heap.size,0,none⟩=some (.int .i64 a)/\w1.cell? ⟨w.heap.size,1,none⟩=some (.int .i64 b)/\w1.cell? ⟨w.heap.size,2,none⟩=some (.int .i64 c)/\w1.cell? ⟨w.heap.size,3,none⟩=some (.int .i64 d))/\Below w.heap.size w w1):=⟨by have:=hb1.size;simp at this;omega,hrow,⟨p0,p1,p2,p3⟩,(below_alloc _ _).trans (hb1.mono (by omega))⟩
 clear hrow p0 p1 p2 p3 hb1
 go_wp2
 go_loopw [6,7,8] (fun fr i _ wr=>∃k:Nat,k<=4/\i=.int .i64 k/\fr=.bool (freeTo (fun i=>partOf a b c d (q i)) k)/\okTo (fun i=>partOf a b c d (q i)) k/\Below w1.heap.size w1 wr) (fun _ i _ _=>4-(intOf i).toNat)
 case atStart=>exact ⟨0,by omega,rfl,rfl,fun _ h=>absurd h (Nat.not_lt_zero _),Below.refl _ _⟩
 case round=>
  obtain ⟨k,hk,rfl,rfl,hok,hb⟩:=hrel
  have HB:Hid (Below w.heap.size w wr):=HS.out.2.2.2.trans (hb.mono (by have:=HS.out.1;omega))
  have HOK:Hid (okTo (fun i=>partOf a b c d (q i)) k):=hok
  have HB1:Hid (Below w1.heap.size w1 wr):=hb
  by_cases hlt:k<4
  ·obtain ⟨zz,hrow,⟨p0',p1',p2',p3'⟩,bel⟩:=HS.out
   have p0:wr.cell? ⟨w.heap.size,0,none⟩=some (.int .i64 a):=(hb.cell (p:=⟨w.heap.size,0,none⟩) zz).trans p0'
   have p1:wr.cell? ⟨w.heap.size,1,none⟩=some (.int .i64 b):=(hb.cell (p:=⟨w.heap.size,1,none⟩) zz).trans p1'
   have p2:wr.cell? ⟨w.heap.size,2,none⟩=some (.int .i64 c):=(hb.cell (p:=⟨w.heap.size,2,none⟩) zz).trans p2'
   have p3:wr.cell? ⟨w.heap.size,3,none⟩=some (.int .i64 d):=(hb.cell (p:=⟨w.heap.size,3,none⟩) zz).trans p3'
   have oc:wr.cell? ⟨g,k,none⟩=some (.int .i64 (q k)):=(hb.cell (p:=⟨g,k,none⟩) hrow.lt).trans (hrow.cell hlt)
   clear p0' p1' p2' p3' bel hrow hok hb
   generalize hX:partOf a b c d (q k)=X
   have HX:Hid (partOf a b c d (q k)=X):=hX
   have HP:Hid (∀wz,Calls Tryz.prog 116 #[.agg #[.int .i64 a,.int .i64 b,.int .i64 c,.int .i64 d],.int .i64 (q k)] wz fun e w'=>e=.returned (.int .i64 X)/\Below wz.heap.size wz w'):=fun wz=>by rw [<- HX.out];exact l5Part_any a b c d (q k) (hq k hlt) wz
   clear hX
   have hki:(k:Int)<4:=by omega
   have hk0:(0:Int)<=k:=by omega
   have HC:Hid (∀w2:World,Below wr.drew.heap.size wr.drew w2->w2.cell? ⟨w.heap.size,0,none⟩=some (.int .i64 a)/\w2.cell? ⟨w.heap.size,1,none⟩=some (.int .i64 b)/\w2.cell? ⟨w.heap.size,2,none⟩=some (.int .i64 c)/\w2.cell? ⟨w.heap.size,3,none⟩=some (.int .i64 d)/\w2.cell? ⟨g,k,none⟩=some (.int .i64 (q k))):=fun w2 h2=>
    ⟨(h2.cell (p:=⟨w.heap.size,0,none⟩) (World.block_lt_of_cell? _ _ p0)).trans p0,(h2.cell (p:=⟨w.heap.size,1,none⟩) (World.block_lt_of_cell? _ _ p1)).trans p1,(h2.cell (p:=⟨w.heap.size,2,none⟩) (World.block_lt_of_cell? _ _ p2)).trans p2,(h2.cell (p:=⟨w.heap.size,3,none⟩) (World.block_lt_of_cell? _ _ p3)).trans p3,(h2.cell (p:=⟨g,k,none⟩) (World.block_lt_of_cell? _ _ oc)).trans oc⟩
   go_wp2
   go_region_held3 (fun w'=>w'.cell? ⟨w.heap.size,0,none⟩=some (.int .i64 a)/\w'.cell? ⟨w.heap.size,1,none⟩=some (.int .i64 b)/\w'.cell? ⟨w.heap.size,2,none⟩=some (.int .i64 c)/\w'.cell? ⟨w.heap.size,3,none⟩=some (.int .i64 d)/\w'.cell? ⟨g,k,none⟩=some (.int .i64 (q k))) (go_keep)
    (first
    | (go_at_call 116;refine (HP.out wr.drew).mono ?_;rintro e w2 ⟨rfl,hb2⟩;obtain ⟨y0,y1,y2,y3,y4⟩:=HC.out w2 hb2))
   have HB2:Hid (Below w.heap.size w w2):=HB.out.drew.trans (hb2.mono HB.out.size)
   have HB3:Hid (Below w1.heap.size w1 w2):=HB1.out.drew.trans (hb2.mono HB1.out.size)
   clear HC hb2 y0 y1 y2 y3 y4 p0 p1 p2 p3 oc
   have bad:∀_:¬ ((0<=X/\X<=2000000000)/\(freeTo (fun i=>partOf a b c d (q i)) k=true->X<=0)),Hid (eligB (fun i=>partOf a b c d (q i))=false):=fun h=>eligB_no hlt (by show ¬ ((0<=partOf a b c d (q k)/\partOf a b c d (q k)<=2000000000)/\(freeTo (fun i=>partOf a b c d (q i)) k=true->partOf a b c d (q k)<=0));rw [HX.out];exact h)
   rcases Int.lt_or_le X 0 with h1|h1
   ·have hbad:=bad (by omega)
    clear bad
    go_wp2
    go_ret
    exact ⟨by rw [hbad.out];rfl,HB2.out⟩
   rcases Int.lt_or_le 2000000000 X with h2|h2
   ·have hbad:=bad (by omega)
    clear bad
    go_wp2
    go_ret
    exact ⟨by rw [hbad.out];rfl,HB2.out⟩
   have GO:∀_:(freeTo (fun i=>partOf a b c d (q i)) k=true->X<=0),Hid (okTo (fun i=>partOf a b c d (q i)) (k+1)):=fun h=>okTo_succ HOK.out (by show 0<=partOf a b c d (q k);rw [HX.out];omega) (by show partOf a b c d (q k)<=2000000000;rw [HX.out];omega) (by show _->partOf a b c d (q k)<=0;rw [HX.out];exact h)
   have FS:Hid (freeTo (fun i=>partOf a b c d (q i)) (k+1)=(freeTo (fun i=>partOf a b c d (q i)) k || X == 0)):=by show _=_;rw [<- HX.out];rfl
   cases hf:freeTo (fun i=>partOf a b c d (q i)) k with
   | true=>
    by_cases h3:0<X
    ·have hbad:=bad (by intro h;have:=h.2 hf;omega)
     clear bad GO FS
     go_wp2
     go_ret
     exact ⟨by rw [hbad.out];rfl,HB2.out⟩
    ·have hg:=GO (fun _=>by omega)
     rw [hf] at FS
     clear bad GO
     go_wp2
     go_roundw
     case rel=>exact ⟨k+1,by omega,by go_num,by rw [FS.out];rfl,hg.out,HB3.out⟩
     case measure=>simp [intOf];omega
   | false=>
    have hg:=GO (fun h=>by rw [hf] at h;cases h)
    rw [hf] at FS
    clear bad GO
    go_wp2
    go_roundw
    case rel=>exact ⟨k+1,by omega,by go_num,by rw [FS.out];rfl,hg.out,HB3.out⟩
    case measure=>simp [intOf];omega
  ·have e4:k=4:=by omega
   subst e4
   clear hb hok
   go_wp2
   go_ret
   refine ⟨?_,HB.out⟩
   rw [(eligB_iff _).2 HOK.out]
   rfl
theorem idx_0 (w:World):(Instr.index 194 (.agg #[.func (.func 120) #[] #[],.func (.func 121) #[] #[],.func (.func 122) #[] #[],.func (.func 123) #[] #[],.func (.func 124) #[] #[],.func (.func 125) #[] #[]]) (.int .i64 0)).run Tryz.prog w=.ok (.func (.func 120) #[] #[]) w:=by
 simp [Instr.index,go_sem]
theorem idx_1 (w:World):(Instr.index 194 (.agg #[.func (.func 120) #[] #[],.func (.func 121) #[] #[],.func (.func 122) #[] #[],.func (.func 123) #[] #[],.func (.func 124) #[] #[],.func (.func 125) #[] #[]]) (.int .i64 1)).run Tryz.prog w=.ok (.func (.func 121) #[] #[]) w:=by
 simp [Instr.index,go_sem]
theorem idx_2 (w:World):(Instr.index 194 (.agg #[.func (.func 120) #[] #[],.func (.func 121) #[] #[],.func (.func 122) #[] #[],.func (.func 123) #[] #[],.func (.func 124) #[] #[],.func (.func 125) #[] #[]]) (.int .i64 2)).run Tryz.prog w=.ok (.func (.func 122) #[] #[]) w:=by
 simp [Instr.index,go_sem]
theorem idx_3 (w:World):(Instr.index 194 (.agg #[.func (.func 120) #[] #[],.func (.func 121) #[] #[],.func (.func 122) #[] #[],.func (.func 123) #[] #[],.func (.func 124) #[] #[],.func (.func 125) #[] #[]]) (.int .i64 3)).run Tryz.prog w=.ok (.func (.func 123) #[] #[]) w:=by
 simp [Instr.index,go_sem]
theorem idx_4 (w:World):(Instr.index 194 (.agg #[.func (.func 120) #[] #[],.func (.func 121) #[] #[],.func (.func 122) #[] #[],.func (.func 123) #[] #[],.func (.func 124) #[] #[],.func (.func 125) #[] #[]]) (.int .i64 4)).run Tryz.prog w=.ok (.func (.func 124) #[] #[]) w:=by
 simp [Instr.index,go_sem]
theorem idx_5 (w:World):(Instr.index 194 (.agg #[.func (.func 120) #[] #[],.func (.func 121) #[] #[],.func (.func 122) #[] #[],.func (.func 123) #[] #[],.func (.func 124) #[] #[],.func (.func 125) #[] #[]]) (.int .i64 5)).run Tryz.prog w=.ok (.func (.func 125) #[] #[]) w:=by
 simp [Instr.index,go_sem]

theorem fieldsQ:(Tryz.prog.fieldsOf 122).toList=[{ name := "S",type:=2,offset:=0,embedded:=false,tag := "",pkgPath := "",byteOffset:=0 },{ name := "P",type:=2,offset:=1,embedded:=false,tag := "",pkgPath := "",byteOffset:=8 },{ name := "O",type:=2,offset:=2,embedded:=false,tag := "",pkgPath := "",byteOffset:=16 },{ name := "G",type:=2,offset:=3,embedded:=false,tag := "",pkgPath := "",byteOffset:=24 }]:=by kernel_rfl
theorem eqQ (a b c d a' b' c' d' : Int) (w:World):(Op.equalIn 10000 122 (.agg #[.int .i64 a,.int .i64 b,.int .i64 c,.int .i64 d]) (.agg #[.int .i64 a',.int .i64 b',.int .i64 c',.int .i64 d'])).run Tryz.prog w=.ok (a == a' && (b == b' && (c == c' && d == d'))) w:=by
 rw [show (10000:Nat)=9999+1 from rfl,run_equalIn_struct (P:=Tryz.prog) w 9999 122 _ _ (by kernel_rfl) (by kernel_rfl),fieldsQ]
 simp [Op.eqFields,go_sem]
 by_cases h1:a=a' <;> by_cases h2:b=b' <;> by_cases h3:c=c' <;> by_cases h4:d=d' <;> simp [h1,h2,h3,h4]

set_option maxHeartbeats 400000 in
theorem below_any (b:Nat) (x:Int) (w:World) (h:w.cell? ⟨b,0,none⟩=some (.int .i64 x)) :
  Calls Tryz.prog 147 #[.pointer (some ⟨b,0,none⟩)] w fun e w'=>e=.returned (.int .i64 x)/\w'=w:=by
 go_enter Tryz.func147,Tryz.ntmps147
 go_wp2
 go_ret
 exact ⟨rfl,rfl⟩

set_option maxHeartbeats 400000 in
theorem leastLeaf_any (b n kc:Nat) (ka:Option Addr) (v0:Value) (X:Nat->ByteArray) (w:World) (h:Bx w b 247 #[v0,.slice ka n kc]) (hr:RdS w ka n X) (hn:0<n) :
  Calls Tryz.prog 172 #[.pointer (some ⟨b,0,none⟩)] w fun e w'=>e=.returned (.string (X 0))/\w'=w:=by
 have c1:=h.cell 1
 simp at c1
 have hnI:(0:Int)<(n:Int):=by omega
 rcases hr with h0|⟨bk,ok,rfl,hc⟩
 ·omega
 have c2:=hc 0 hn
 rw [Nat.add_zero] at c2
 clear h hc
 go_enter Tryz.func172,Tryz.ntmps172
 go_wp2
 go_ret
 exact ⟨rfl,rfl⟩

theorem head_flat {d:Nat} {l:List (Ro d)} (h0:0<l.length) (hp:0<(keysR d l[0]).length):gt (l.flatMap (keysR d)) 0=gt (keysR d l[0]) 0:=by
 cases l with
 | nil=>simp at h0
 | cons t l=>
  simp only [List.getElem_cons_zero] at hp ⊢
  rw [List.flatMap_cons]
  unfold gt
  rw [List.getD_eq_getElem?_getD,List.getD_eq_getElem?_getD,List.getElem?_append_left hp]

set_option maxHeartbeats 1000000 in
theorem leastInner_any:∀(d:Nat) (l:List (Ro d)) (S:Nat->Prop) (b:Nat) (h:Nat) (w:World),TAt S w (d+1) (.inr l) (.iface 248 (.pointer (some ⟨b,0,none⟩)))->(∀t,t∈l->BalR d false t h)->
  Calls Tryz.prog 184 #[.pointer (some ⟨b,0,none⟩)] w fun e w'=>e=.returned (.string (gt (l.flatMap (keysR d)) 0))/\w'=w:=by
 intro d
 induction d with
 | zero=>
  intro l S b h w ht hb
  obtain ⟨b',g,kc,xs,e,_,_,_,_,hl,_,hk⟩:=ht
  obtain ⟨u,_,q⟩:=hk 0 hl
  exact q.elim
 | succ d ih=>
  intro l S b h w ht hb
  obtain ⟨b',g,kc,xs,e,_,hx,_,_,hl,hc,hk⟩:=ht
  injection e with _ e
  injection e with e
  injection e with e
  injection e with e
  subst e
  obtain ⟨u,hu,hut⟩:=hk 0 hl
  have hpos:=bal_pos (hb l[0] (List.getElem_mem hl))
  rw [head_flat hl hpos]
  have c1:=hx.cell 1
  simp at c1
  have c2:=hc 0 u hu
  have hb0:=hb l[0] (List.getElem_mem hl)
  have hlI:(0:Int)<(l.length:Int):=by omega
  clear hx hc hk hu
  generalize l[0]=t0 at*
  generalize l.length=ln at c1 hlI
  clear hl
  rcases t0 with t0|l0
  ·obtain ⟨b0,ka0,kc0,rfl,_,hx0,hr0⟩:=hut
   have HL:Hid (Calls Tryz.prog 172 #[.pointer (some ⟨b0,0,none⟩)] w fun e w'=>e=.returned (.string (gt t0 0))/\w'=w):=leastLeaf_any b0 t0.length kc0 ka0 _ (gt t0) w hx0 hr0.rdS hpos
   clear hx0 hr0 ih hb hb0 hpos
   go_enter Tryz.func184,Tryz.ntmps184
   go_wp2_with fail
   refine HL.out.mono ?_
   rintro e w1 ⟨rfl,rfl⟩
   go_wp2
   go_ret
   exact ⟨rfl,rfl⟩
  ·obtain ⟨h2,h4,h',_,hall⟩:=hb0
   have hut2:=hut
   obtain ⟨b0,g0,kc0,xs0,rfl,_⟩:=hut2
   have HL:Hid (Calls Tryz.prog 184 #[.pointer (some ⟨b0,0,none⟩)] w fun e w'=>e=.returned (.string (gt (l0.flatMap (keysR d)) 0))/\w'=w):=ih l0 S b0 h' w hut hall
   clear ih hut hall hpos hb
   go_enter Tryz.func184,Tryz.ntmps184
   go_wp2_with fail
   refine HL.out.mono ?_
   rintro e w1 ⟨rfl,rfl⟩
   go_wp2
   go_ret
   exact ⟨rfl,rfl⟩

set_option maxHeartbeats 400000 in
theorem copyStrs_any (a:Option Addr) (n c:Nat) (L:List ByteArray) (w:World) (h:RdS w a n (gt L)) (hn:n=L.length) (hn2:n<=1048576) :
  Calls Tryz.prog 145 #[.slice a n c] w fun e w'=>∃a' c',e=.returned (.slice a' n c')/\w'.ownsRow w.heap.size 9 1 (.slice a' n c') n (strL L)/\Below w.heap.size w w':=by
 have HR:Hid (RdS w a n (gt L)/\n=L.length):=⟨h,hn⟩
 clear h hn
 go_enter Tryz.func145,Tryz.ntmps145
 go_wp2_with (at_builtin;refine wpList_append_strs rfl _ _ rfl w.heap.size (.slice none 0 0) 0 [] rfl (World.ownsRow_nil _ _ _ _) a n c L rfl HR.out.2 HR.out.1 (by omega) (Nat.le_refl _) ?_)
 intro v' w' ho hg hat
 have HB:Hid (Below w.heap.size w w'):=(Below.refl _ _).grown hg (Nat.le_refl _) (fun k e=>by simp [Value.ownBlock] at e)
 obtain ⟨a',c',rfl,_⟩:=own_form ho
 have HO:Hid (w'.ownsRow w.heap.size 9 1 (.slice a' n c') n (strL L)):=ho
 clear ho hg hat
 go_wp2
 go_ret
 exact ⟨a',c',rfl,HO.out,HB.out⟩

set_option maxHeartbeats 400000 in
theorem recountLeaf_any (b n kc:Nat) (ka:Option Addr) (x:Int) (w:World) (h:Bx w b 247 #[.int .i64 x,.slice ka n kc]) :
  Calls Tryz.prog 146 #[.pointer (some ⟨b,0,none⟩)] w fun e w'=>e=.returned (.tuple #[])/\w'=w.setCell ⟨b,0,none⟩ (.int .i64 (n:Int)):=by
 have c0:=h.cell 0
 have c1:=h.cell 1
 have f0:=h.frozen 0
 have hl:=h.lt
 simp at c0 c1
 clear h
 go_enter Tryz.func146,Tryz.ntmps146
 go_wp2
 go_end0
 exact ⟨rfl,rfl⟩
end Go.Proofs.YtpaomghibppgkaaGreat
