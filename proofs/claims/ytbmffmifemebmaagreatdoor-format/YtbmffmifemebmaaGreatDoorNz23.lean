import Derived.Test.YtbmffmifemebmaaGreatDoorNz21
import Derived.Test.YtbmffmifemebmaaGreatDoorNz6
import Derived.Test.YtbmffmifemebmaaGreatDoorNz20
import Derived.Test.YtbmffmifemebmaaGreatDoorNz7
import Derived.Test.YtbmffmifemebmaaGreatDoorNz5
import Derived.BigQuiet
set_option linter.unusedVariables false
set_option maxRecDepth 100000
namespace Go.Proofs.YtbmffmifemebmaaGreatDoor
open Go.RowKit Go.Deep

set_option maxHeartbeats 400000 in
theorem writeRecSector_any (t:Stt) (b B n:Nat) (at_ seq:Int) (i:Nat) (ad:Option Addr) (N cp:Nat) (f:Nat->Int) (w:World) (h:DevSt w b B n t) (hv:t.ok n) (hBb:B<=b) (hrd:Rd .u8 w ad N f) (hf:∀j,j<N->0<=f j/\f j<256) (hN:N<=30000) (hcp:N<=cp) (hcm:cp<=9223372036854775807) (hi:i<cntOf N) (a0:0<=at_) (a1:at_<=1024) :
  Calls Tryz.prog 101 #[.pointer (some ⟨b,0,none⟩),.int .i64 at_,.int .i64 seq,.int .i64 i,.slice ad N cp] w (StepTo w b B n (t.write (at_+i) (secW N seq f i))):=by
 have HD:Hid (DevSt w b B n t):=h
 have HRD:Hid (Rd .u8 w ad N f):=hrd
 have HF:Hid (∀j,j<N->0<=f j/\f j<256):=hf
 clear h hrd hf
 have hi2:i<626:=by unfold cntOf at hi;split at hi <;> omega
 have e0:IntKind.i64.wrap (N:Int)=(N:Int):=by rw [IntKind.wrap_i64];omega
 have e1:IntKind.i64.wrap ((i:Int)*48)=(i:Int)*48:=by rw [IntKind.wrap_i64];omega
 have e2:IntKind.i64.wrap ((i:Int)+1)=(i:Int)+1:=by rw [IntKind.wrap_i64];omega
 have e3:IntKind.i64.wrap (((i:Int)+1)*48)=((i:Int)+1)*48:=by rw [IntKind.wrap_i64];omega
 have e4:IntKind.i64.wrap (at_+(i:Int))=at_+(i:Int):=by rw [IntKind.wrap_i64];omega
 have hlo:0<=(i:Int)*48/\(i:Int)*48<=(N:Int):=by have:=cntOf_lt hi;omega
 obtain ⟨x,hx⟩:∃x:Int,x=(i:Int):=⟨_,rfl⟩
 rw [<- hx] at e1 e2 e3 e4 hlo ⊢
 have HX:Hid (x=(i:Int)/\i<626/\i<cntOf N):=⟨hx,hi2,hi⟩
 clear hx hi2 hi
 by_cases c:(N:Int)<=(x+1)*48
 all_goals have c2:=hlo.2
 ·have c6:x*48<=(N:Int)/\(N:Int)<=(cp:Int):=by omega
  have c7:(N:Int)<=(cp:Int):=by omega
  go_enter Tryz.func101,Tryz.ntmps101
  go_wp2_with fail
  all_goals
   refine (recSectors_of _ N rfl hN w).mono ?_
   rintro e w1 ⟨rfl,rfl⟩
   go_wp2_with fail
   obtain ⟨hx,hi2,hi⟩:=HX.out
   have hs:=rd_shift (lo:=i*48) cp HRD.out (by omega) hcp
   have e5:(x*48).toNat=i*48:=by omega
   refine (recSector_any seq x (cntOf N) _ (N-(x*48).toNat) _ (fun j=>f (i*48+j)) _ ?_ (fun j hj=>HF.out _ (by omega)) (by omega)).mono ?_
   ·rw [e5]
    unfold shA at hs
    first
     | (rw [if_neg (by omega)] at hs;exact hs)
     | (rw [if_pos (by omega)] at hs;exact hs)
   rintro e w2 ⟨rfl,hb2⟩
   have hw:recF seq x (cntOf N) (N-(x*48).toNat) (fun j=>f (i*48+j))=secW N seq f i:=by
    unfold secW
    rw [hx,show plen N i=N-i*48 by unfold plen;rw [if_neg (by omega)],show ((i:Int)*48).toNat=i*48 by omega]
   rw [hw]
   obtain ⟨g,hg⟩:∃g,g=secW N seq f i:=⟨_,rfl⟩
   rw [<- hg]
   have HG:Hid (g=secW N seq f i):=hg
   clear hw hs hg hx hi2 hi e5
   have D2:Hid (DevSt w2 b B n t):=HD.out.below hb2
   have B2:Hid (Below w1.heap.size w1 w2):=hb2
   have z1:b<w1.heap.size:=by obtain ⟨_,_,_,_,_,_,hd,_⟩:=HD.out;exact hd.cells.2.2.2.2.2
   have z2:w1.heap.size<=w2.heap.size:=hb2.size
   clear hb2
   go_wp2_with (first|(with_reducible refine wpList_alloc_sec ?_)|((with_reducible refine wpList_store_sec w2.heap.size (fun _=>0) g ?_ ?_ (Sec.new w2 _) ?_);rfl;rfl))
   intro w3 hs3 ho3
   have S3:Hid (Sec w3 w2.heap.size g):=hs3
   have B3:Hid (Below w1.heap.size w1 w3):=((B2.out.trans ((below_alloc _ _).mono (by omega))).trans (ho3.below (fun y e=>by injection e with e;subst e;show w1.heap.size<=w2.heap.size;omega)))
   clear hs3 ho3 B2 D2
   go_wp2_with fail
   refine (devW_st t b B n (at_+x) (some ⟨w2.heap.size,0,none⟩) 64 g w3 (HD.out.below B3.out) hv hBb (fun w4 hon=>?_)).mono ?_
   ·have hs2:Sec w4.drew w2.heap.size g:=S3.out.of_block (hon.block w2.heap.size (fun x e=>by injection e with e;subst e;show b≠w2.heap.size;omega))
    exact (hs2.rd 0 64 (by omega)).congr (fun i hi=>by simp)
   rintro e w4 ⟨h1,h2,he⟩
   have hR:DevSt w4 b B n (t.write (at_+x) (secW N seq f i))/\Below B w1 w4:=by
    rw [<- HG.out]
    exact ⟨h1,(B3.out.mono (by omega)).trans h2⟩
   rw [HG.out] at he
   clear h1 h2
   rcases he with rfl|⟨rfl,hdead⟩
   ·go_wp2
    go_end0
    exact ⟨hR.1,hR.2,Or.inl rfl⟩
   ·go_wp2
    exact ⟨rfl,hR.1,hR.2,Or.inr ⟨rfl,hdead⟩⟩
 have c3:x*48<=(x+1)*48/\(x+1)*48<=(N:Int):=by omega
 have c4:0<=(x+1)*48/\(x+1)*48<=(cp:Int):=by omega
 go_enter Tryz.func101,Tryz.ntmps101
 go_wp2_with fail
 refine (recSectors_of _ N rfl hN w).mono ?_
 rintro e w1 ⟨rfl,rfl⟩
 go_wp2_with fail
 obtain ⟨hx,hi2,hi⟩:=HX.out
 have hs:=rd_take (L:=48) (rd_shift (lo:=i*48) cp HRD.out (by omega) hcp) (by omega)
 have ea:Option.map (fun x_3=>Addr.add x_3 (x*48).toNat) ad=shA ad (i*48) cp:=by
  unfold shA
  rw [if_neg (by omega)]
  congr 1
  funext y
  congr 1
  omega
 rw [ea,show ((x+1)*48).toNat-(x*48).toNat=48 by omega]
 refine (recSector_any seq x (cntOf N) _ 48 _ _ _ hs (fun j hj=>HF.out _ (by omega)) (by omega)).mono ?_
 rintro e w2 ⟨rfl,hb2⟩
 have hw:recF seq x (cntOf N) 48 (fun j=>f (i*48+j))=secW N seq f i:=by
  unfold secW
  rw [hx,show plen N i=48 by unfold plen;rw [if_pos (by omega)]]
 rw [hw]
 obtain ⟨g,hg⟩:∃g,g=secW N seq f i:=⟨_,rfl⟩
 rw [<- hg]
 have HG:Hid (g=secW N seq f i):=hg
 clear hw ea hs hg hx hi2 hi
 have D2:Hid (DevSt w2 b B n t):=HD.out.below hb2
 have B2:Hid (Below w1.heap.size w1 w2):=hb2
 have z1:b<w1.heap.size:=by obtain ⟨_,_,_,_,_,_,hd,_⟩:=HD.out;exact hd.cells.2.2.2.2.2
 have z2:w1.heap.size<=w2.heap.size:=hb2.size
 clear hb2
 go_wp2_with (first|(with_reducible refine wpList_alloc_sec ?_)|((with_reducible refine wpList_store_sec w2.heap.size (fun _=>0) g ?_ ?_ (Sec.new w2 _) ?_);rfl;rfl))
 intro w3 hs3 ho3
 have S3:Hid (Sec w3 w2.heap.size g):=hs3
 have B3:Hid (Below w1.heap.size w1 w3):=((B2.out.trans ((below_alloc _ _).mono (by omega))).trans (ho3.below (fun y e=>by injection e with e;subst e;show w1.heap.size<=w2.heap.size;omega)))
 clear hs3 ho3 B2 D2
 go_wp2_with fail
 refine (devW_st t b B n (at_+x) (some ⟨w2.heap.size,0,none⟩) 64 g w3 (HD.out.below B3.out) hv hBb (fun w4 hon=>?_)).mono ?_
 ·have hs2:Sec w4.drew w2.heap.size g:=S3.out.of_block (hon.block w2.heap.size (fun x e=>by injection e with e;subst e;show b≠w2.heap.size;omega))
  exact (hs2.rd 0 64 (by omega)).congr (fun i hi=>by simp)
 rintro e w4 ⟨h1,h2,he⟩
 have hR:DevSt w4 b B n (t.write (at_+x) (secW N seq f i))/\Below B w1 w4:=by
  rw [<- HG.out]
  exact ⟨h1,(B3.out.mono (by omega)).trans h2⟩
 rw [HG.out] at he
 clear h1 h2
 rcases he with rfl|⟨rfl,hdead⟩
 ·go_wp2
  go_end0
  exact ⟨hR.1,hR.2,Or.inl rfl⟩
 ·go_wp2
  exact ⟨rfl,hR.1,hR.2,Or.inr ⟨rfl,hdead⟩⟩

theorem cntOf_pos (N:Nat):1<=cntOf N:=by unfold cntOf;split <;> omega
theorem cntOf_le {N:Nat} (h:N<=30000):cntOf N<=625:=by unfold cntOf;split <;> omega

set_option maxHeartbeats 2000000 in
theorem writeRec_any (t:Stt) (b B n:Nat) (at_ seq:Int) (ad:Option Addr) (N cp last:Nat) (f:Nat->Int) (w:World) (h:DevSt w b B n t) (hv:t.ok n) (hBb:B<=b) (hrd:∀W,Below B w W->Rd .u8 W ad N f) (hf:∀j,j<N->0<=f j/\f j<256) (hN:N<=30000) (hcp:N<=cp) (hcm:cp<=9223372036854775807) (hl:cntOf N=last+1) (a0:2<=at_) (a1:at_+last<(n:Int) / 64) :
  Calls Tryz.prog 56 #[.pointer (some ⟨b,0,none⟩),.int .i64 at_,.int .i64 seq,.slice ad N cp] w (StepTo w b B n (t.recd at_ (secW N seq f) last)):=by
 have HD:Hid (DevSt w b B n t):=h
 have HV:Hid (t.ok n):=hv
 have HRD:Hid (∀W,Below B w W->Rd .u8 W ad N f):=hrd
 have HF:Hid (∀j,j<N->0<=f j/\f j<256):=hf
 have HL:Hid (cntOf N=last+1):=hl
 have hl6:last<=624:=by have:=cntOf_le hN;omega
 have hn6:(n:Int) / 64<=1024:=by have:=hv.1;unfold VH at this;omega
 obtain ⟨G,hG⟩:∃G:Nat->Nat->Int,G=secW N seq f:=⟨_,rfl⟩
 rw [<- hG]
 have HG:Hid (G=secW N seq f):=hG
 have e0:IntKind.i64.wrap (N:Int)=(N:Int):=by rw [IntKind.wrap_i64];omega
 have e1:IntKind.i64.wrap ((last:Int)+1-1)=(last:Int):=by rw [IntKind.wrap_i64];omega
 have e2:IntKind.i64.wrap (last:Int)=(last:Int):=by rw [IntKind.wrap_i64];omega
 clear h hrd hf hv hG hl
 go_enter Tryz.func56,Tryz.ntmps56
 go_wp2_with fail
 refine (recSectors_of _ N rfl hN w).mono ?_
 rintro e w1 ⟨rfl,rfl⟩
 rw [HL.out]
 rw [show (((last+1:Nat)):Int)=(last:Int)+1 from by simp]
 go_wp2
 go_loopw [9,15] (fun _ i wr=>∃j:Nat,j<=last/\i=.int .i64 j/\DevSt wr b B n (t.writes at_ G j)/\Below B w1 wr) (fun _ i _=>last-(intOf i).toNat)
 case atStart=>exact ⟨0,Nat.zero_le _,rfl,HD.out,Below.refl _ _⟩
 case round=>
  obtain ⟨j,hj,rfl,hdv,hbel⟩:=hrel
  have HDJ:Hid (DevSt wr b B n (t.writes at_ G j)):=hdv
  have HBJ:Hid (Below B w1 wr):=hbel
  clear hdv hbel
  by_cases hlt:j<last
  ·go_wp2_with fail
   refine (writeRecSector_any (t.writes at_ G j) b B n at_ seq j ad N cp f wr HDJ.out (HV.out.writes j (by omega) (by omega)) hBb (HRD.out _ HBJ.out) HF.out hN hcp hcm (by rw [HL.out];omega) (by omega) (by omega)).mono ?_
   rintro e w2 ⟨h1,h2,he⟩
   rw [<- HG.out] at h1 he
   have HX:Hid (DevSt w2 b B n (t.writes at_ G (j+1))/\Below B w1 w2):=⟨h1,HBJ.out.trans h2⟩
   clear h1 h2 HDJ HBJ
   rcases he with rfl|⟨rfl,hdead⟩
   ·go_wp2
    go_roundw
    case rel=>exact ⟨j+1,by omega,by go_num,HX.out⟩
    case measure=>simp [intOf];omega
   ·have hdd:(t.writes at_ G (j+1)).dead=true:=hdead
    have hrc:=Stt.recd_dead (last:=last) (i:=j+1) (by omega) hdd
    have HZ:Hid (StepTo w1 b B n (t.recd at_ G last) (.panicked [{ v:=.iface 231 (.agg #[]),recovered:=false }]) w2):=by
     refine ⟨?_,HX.out.2,Or.inr ⟨rfl,?_⟩⟩
     ·rw [hrc];exact HX.out.1
     ·rw [hrc];exact hdd
    clear hdead hdd hrc
    go_wp2
    exact ⟨rfl,HZ.out⟩
  ·have e:j=last:=by omega
   subst e
   have HOW:Hid ((t.writes at_ G j).ok n):=HV.out.writes j (by omega) (by omega)
   obtain ⟨t2,ht2⟩:∃t2,t2=(if 0<j then (t.writes at_ G j).sync else t.writes at_ G j):=⟨_,rfl⟩
   have HREC:Hid (t.recd at_ G j=(t2.write (at_+j) (G j)).sync):=by rw [ht2];rfl
   have HT2:Hid (t2.ok n):=by
    show t2.ok n
    rw [ht2]
    split
    ·exact HOW.out.sync
    ·exact HOW.out
   have HEND:Hid (∀wr2,DevSt wr2 b B n t2->Below B w1 wr2->Calls Tryz.prog 101 #[.pointer (some ⟨b,0,none⟩),.int .i64 at_,.int .i64 seq,.int .i64 j,.slice ad N cp] wr2 (StepTo wr2 b B n (t2.write (at_+j) (G j)))):=fun wr2 h1 h2=>by
    have:=writeRecSector_any t2 b B n at_ seq j ad N cp f wr2 h1 HT2.out hBb (HRD.out _ h2) HF.out hN hcp hcm (by rw [HL.out];omega) (by omega) (by omega)
    rw [<- HG.out] at this
    exact this
   have HT3:Hid ((t2.write (at_+j) (G j)).ok n):=HT2.out.write _ (by omega) (by omega)
   have HMID:Hid (t2.dead=true->t.recd at_ G j=t2):=fun h=>by rw [HREC.out,Stt.write_dead h,Stt.sync_dead h]
   by_cases hj0:0<j
   ·have hj0' : (0:Int)<(j:Int):=by omega
    rw [if_pos hj0] at ht2
    have HT2E:Hid (t2=(t.writes at_ G j).sync):=ht2
    clear ht2
    go_wp2_with fail
    refine (devY_st (t.writes at_ G j) b B n wr HDJ.out HOW.out hBb).mono ?_
    rintro e w2 ⟨h1,h2,he⟩
    rw [<- HT2E.out] at h1 he
    have HX:Hid (DevSt w2 b B n t2/\Below B w1 w2):=⟨h1,HBJ.out.trans h2⟩
    clear h1 h2 HDJ HBJ
    rcases he with rfl|⟨rfl,hdead⟩
    ·go_wp2_with fail
     refine (HEND.out w2 HX.out.1 HX.out.2).mono ?_
     rintro e w3 ⟨h1,h2,he⟩
     have HX3:Hid (DevSt w3 b B n (t2.write (at_+j) (G j))/\Below B w1 w3):=⟨h1,HX.out.2.trans h2⟩
     clear h1 h2
     rcases he with rfl|⟨rfl,hdead⟩
     ·go_wp2_with fail
      refine (devY_st _ b B n w3 HX3.out.1 HT3.out hBb).mono ?_
      rintro e w4 ⟨h1,h2,he⟩
      have HX4:Hid (DevSt w4 b B n (t.recd at_ G j)/\Below B w1 w4):=⟨by rw [HREC.out];exact h1,HX3.out.2.trans h2⟩
      rw [<- HREC.out] at he
      clear h1 h2
      rcases he with rfl|⟨rfl,hdead⟩
      ·go_wp2
       go_end0
       exact ⟨HX4.out.1,HX4.out.2,Or.inl rfl⟩
      ·go_wp2
       exact ⟨rfl,HX4.out.1,HX4.out.2,Or.inr ⟨rfl,hdead⟩⟩
     ·have HRR:Hid (t.recd at_ G j=t2.write (at_+j) (G j)):=by
       show _=_
       rw [HREC.out,Stt.sync_dead hdead]
      go_wp2
      exact ⟨rfl,by rw [HRR.out];exact HX3.out.1,HX3.out.2,Or.inr ⟨rfl,by rw [HRR.out];exact hdead⟩⟩
    ·have hrc:=HMID.out hdead
     have HZ:Hid (StepTo w1 b B n (t.recd at_ G j) (.panicked [{ v:=.iface 231 (.agg #[]),recovered:=false }]) w2):=by
      refine ⟨?_,HX.out.2,Or.inr ⟨rfl,?_⟩⟩
      ·rw [hrc];exact HX.out.1
      ·rw [hrc];exact hdead
     clear hdead hrc
     go_wp2
     exact ⟨rfl,HZ.out⟩
   ·have hj0' : ¬ (0:Int)<(j:Int):=by omega
    rw [if_neg hj0] at ht2
    have HX:Hid (DevSt wr b B n t2/\Below B w1 wr):=⟨by rw [ht2];exact HDJ.out,HBJ.out⟩
    clear ht2 HDJ HBJ
    go_wp2_with fail
    refine (HEND.out wr HX.out.1 HX.out.2).mono ?_
    rintro e w3 ⟨h1,h2,he⟩
    have HX3:Hid (DevSt w3 b B n (t2.write (at_+j) (G j))/\Below B w1 w3):=⟨h1,HX.out.2.trans h2⟩
    clear h1 h2
    rcases he with rfl|⟨rfl,hdead⟩
    ·go_wp2_with fail
     refine (devY_st _ b B n w3 HX3.out.1 HT3.out hBb).mono ?_
     rintro e w4 ⟨h1,h2,he⟩
     have HX4:Hid (DevSt w4 b B n (t.recd at_ G j)/\Below B w1 w4):=⟨by rw [HREC.out];exact h1,HX3.out.2.trans h2⟩
     rw [<- HREC.out] at he
     clear h1 h2
     rcases he with rfl|⟨rfl,hdead⟩
     ·go_wp2
      go_end0
      exact ⟨HX4.out.1,HX4.out.2,Or.inl rfl⟩
     ·go_wp2
      exact ⟨rfl,HX4.out.1,HX4.out.2,Or.inr ⟨rfl,hdead⟩⟩
    ·have HRR:Hid (t.recd at_ G j=t2.write (at_+j) (G j)):=by
      show _=_
      rw [HREC.out,Stt.sync_dead hdead]
     go_wp2
     exact ⟨rfl,by rw [HRR.out];exact HX3.out.1,HX3.out.2,Or.inr ⟨rfl,by rw [HRR.out];exact hdead⟩⟩

theorem below_alloc5 (w:World) (o1 o2 o3 o4 o5:Obj):Below w.heap.size w (((((w.alloc o1).alloc o2).alloc o3).alloc o4).alloc o5):=
 ((((below_alloc _ _).alloc (by simp) _).alloc (by simp;omega) _).alloc (by simp;omega) _).alloc (by simp;omega) _

theorem below_alloc3' (w:World) (o1 o2 o3:Obj):Below w.heap.size w (((w.alloc o1).alloc o2).alloc o3):=
 ((below_alloc _ _).alloc (by simp) _).alloc (by simp;omega) _

theorem frame5 (w:World) (v0 v1 v2 v3 v4 v5 v6:Value) (o5:Obj) (tt:Unit) :
  Box4 (((((w.alloc (.cells #[v0,v1,v2,v3] 25)).alloc (.cells #[v4] 2)).alloc (.cells #[v5] 2)).alloc (.cells #[v6] 22)).alloc o5) w.heap.size v0 v1 v2 v3/\
  (((((w.alloc (.cells #[v0,v1,v2,v3] 25)).alloc (.cells #[v4] 2)).alloc (.cells #[v5] 2)).alloc (.cells #[v6] 22)).alloc o5).cell? ⟨w.heap.size+1,0,none⟩=some v4/\
  (((((w.alloc (.cells #[v0,v1,v2,v3] 25)).alloc (.cells #[v4] 2)).alloc (.cells #[v5] 2)).alloc (.cells #[v6] 22)).alloc o5).cell? ⟨w.heap.size+2,0,none⟩=some v5/\
  (((((w.alloc (.cells #[v0,v1,v2,v3] 25)).alloc (.cells #[v4] 2)).alloc (.cells #[v5] 2)).alloc (.cells #[v6] 22)).alloc o5).cell? ⟨w.heap.size+3,0,none⟩=some v6:=by
 have HN:∀(W:World) (k:Nat) (v:Value) (t:TypeId),W.heap.size=k->(W.alloc (.cells #[v] t)).cell? ⟨k,0,none⟩=some v:=by
  rintro W k v t rfl
  simp
 refine ⟨((Box4.new w v0 v1 v2 v3 25).below (below_alloc3' _ _ _ _)).below (below_alloc _ _),?_,?_,?_⟩
 ·refine (Below.cell (below_alloc3' _ _ _ _) (p:=⟨w.heap.size+1,0,none⟩) ?_).trans ?_
  ·simp
  ·exact HN _ _ _ _ (by simp)
 ·refine (Below.cell (below_alloc2' _ _ _) (p:=⟨w.heap.size+2,0,none⟩) ?_).trans ?_
  ·simp
  ·exact HN _ _ _ _ (by simp)
 ·refine (Below.cell (below_alloc _ _) (p:=⟨w.heap.size+3,0,none⟩) ?_).trans ?_
  ·simp
  ·exact HN _ _ _ _ (by simp)

set_option maxHeartbeats 400000 in
theorem closure_rec (b b1 b2 b3:Nat) (at_ seq:Int) (v:Value) (w:World) (R:World->Prop) (h0:w.cell? ⟨b1,0,none⟩=some (.int .i64 at_)) (h1:w.cell? ⟨b2,0,none⟩=some (.int .i64 seq)) (h2:w.cell? ⟨b3,0,none⟩=some v)
  (h:Calls Tryz.prog 56 #[.pointer (some ⟨b,0,none⟩),.int .i64 at_,.int .i64 seq,v] w fun e w'=>Stepped e/\R w') :
  Calls Tryz.prog 55 #[.pointer (some ⟨b,0,none⟩),.pointer (some ⟨b1,0,none⟩),.pointer (some ⟨b2,0,none⟩),.pointer (some ⟨b3,0,none⟩)] w fun e w'=>Stepped e/\R w':=by
 have H:Hid (Calls Tryz.prog 56 #[.pointer (some ⟨b,0,none⟩),.int .i64 at_,.int .i64 seq,v] w fun e w'=>Stepped e/\R w'):=h
 clear h
 go_enter Tryz.func55,Tryz.ntmps55
 go_wp2_with fail
 refine H.out.mono ?_
 rintro e w1 ⟨he|he,hR⟩
 ·subst he
  go_wp2
  go_end0
  exact ⟨Or.inl rfl,hR⟩
 ·subst he
  go_wp2
  exact ⟨rfl,Or.inr rfl,hR⟩

set_option maxHeartbeats 2000000 in
theorem implRec_good (t:Stt) (a p ad:Option Addr) (n c q N cp last:Nat) (f:Nat->Int) (at_ seq:Int) (w:World) (ha:Rd .u8 w a n t.d) (hp:RdP w p t.m t.S t.L t.F) (hrd:Rd .u8 w ad N f) (hf:∀j,j<N->0<=f j/\f j<256) (hv:t.ok n) (hN:N<=30000) (hcp:N<=cp) (hcm:cp<=9223372036854775807) (hl:cntOf N=last+1) (hq:numB seq=true) (a0:2<=at_) (a1:at_<=(n:Int) / 64-cntOf N) :
  Calls Tryz.prog 19 #[.agg #[.slice a n c,.slice p t.m q,.int .i64 t.fuel,.bool t.dead],.int .i64 at_,.int .i64 seq,.slice ad N cp] w fun e w'=>RetD w e w' n (t.recd at_ (secW N seq f) last).d (t.recd at_ (secW N seq f) last).m (t.recd at_ (secW N seq f) last).S (t.recd at_ (secW N seq f) last).L (t.recd at_ (secW N seq f) last).F (t.recd at_ (secW N seq f) last).fuel (t.recd at_ (secW N seq f) last).dead:=by
 have HOK:Hid (t.ok n):=hv
 obtain ⟨r,hr⟩:∃r,r=t.recd at_ (secW N seq f) last:=⟨_,rfl⟩
 rw [<- hr]
 have HDO:Hid (∀(W:World) (b B:Nat),DevSt W b B n t->B<=b->(∀W',Below B W W'->Rd .u8 W' ad N f)->Calls Tryz.prog 56 #[.pointer (some ⟨b,0,none⟩),.int .i64 at_,.int .i64 seq,.slice ad N cp] W fun e w'=>Stepped e/\Left W b B n w' r.d r.m r.S r.L r.F r.fuel r.dead):=by
  intro W b B h1 h2 h3
  refine (writeRec_any t b B n at_ seq ad N cp last f W h1 hv h2 h3 hf hN hcp hcm hl a0 (by omega)).mono ?_
  rintro e w' ⟨⟨a',c',p',q',A,C,y1,y2,y3,y4,y5,y6⟩,hb,he⟩
  rw [<- hr] at y1 y2 y3 y4
  refine ⟨?_,a',c',p',q',A,C,y1,y2,y3,y4,hb⟩
  rcases he with he|⟨he,_⟩
  ·exact Or.inl he
  ·exact Or.inr he
 obtain ⟨d,m,S,L,F,fuel,dead⟩:=t
 have hv' : VD n m S L fuel:=hv
 obtain ⟨hn,hm,hL⟩:=stt_vd_lens hv'
 have HV:Hid (VD n m S L fuel):=hv'
 have HRD:Hid (Rd .u8 w ad N f):=hrd
 dsimp only at ha hp HDO ⊢
 obtain ⟨K,hK⟩:∃K,K=cntOf N:=⟨_,rfl⟩
 rw [<- hK] at a1
 have HK:Hid (cntOf N=K):=hK.symm
 have hk1:1<=K:=by rw [hK];exact cntOf_pos N
 have hk2:K<=625:=by rw [hK];exact cntOf_le hN
 clear hK hl hr hv hv' hf hrd
 have hk3:¬ (K:Int)=0:=by omega
 have hk4:((K:Int) == 0)=false:=by simp;omega
 have e0:IntKind.i64.wrap (N:Int)=(N:Int):=by rw [IntKind.wrap_i64];omega
 have e1:IntKind.i64.wrap ((n:Int) / 64-(K:Int))=(n:Int) / 64-(K:Int):=by rw [IntKind.wrap_i64];omega
 have c1:¬ at_<2:=by omega
 have c1' : decide (at_<2)=false:=decide_eq_false c1
 have c2:¬ (n:Int) / 64-(K:Int)<at_:=by omega
 have c2' : decide ((n:Int) / 64-(K:Int)<at_)=false:=decide_eq_false c2
 have hmf:∀(fn:Fn) (first cap:Array Value) (w:World),(Instr.makeFunc fn first cap).run Tryz.prog w=.ok (.func fn first cap) w:=fun _ _ _ _=>rfl
 have HQ:Hid (numB seq=true):=hq
 have HA:Hid (Rd .u8 w a n d):=ha
 have HP:Hid (RdP w p m S L F):=hp
 have HLL:Hid (∀i,i<m->L i<=1048576):=hL
 have HFIN:Hid (∀W:World,Below (w.heap.size+5) (((((w.alloc (.cells #[.slice a n c,.slice p m q,.int .i64 fuel,.bool dead] 25)).alloc (.cells #[.int .i64 at_] 2)).alloc (.cells #[.int .i64 seq] 2)).alloc (.cells #[.slice ad N cp] 22)).alloc (.cells #[.slice none 0 0,.slice none 0 0,.int .i64 0,.bool false] 25)) W->Below w.heap.size w W):=fun W h=>(below_alloc5 _ _ _ _ _ _).trans (h.mono (by omega))
 have HE:Hid (∀o1 o2 o3 o4 o5,(((((w.alloc o1).alloc o2).alloc o3).alloc o4).alloc o5).heap.size=w.heap.size+5):=fun _ _ _ _ _=>by simp
 clear ha hp hL hq
 go_enter Tryz.func19,Tryz.ntmps19
 go_wp2_with fail
 refine (recSectors_of _ N rfl hN _).mono ?_
 rintro e w0 ⟨rfl,rfl⟩
 rw [HK.out]
 go_wp2_with fail
 refine (implValid_any a p n c m q S L F fuel dead _ (HP.out.below (below_alloc5 _ _ _ _ _ _)) hn hm).mono ?_
 rintro e w1 ⟨h1,hb1⟩
 have:=ans_true' h1 HV.out
 subst this
 rw [HE.out] at hb1
 have K1:Hid (Below (w.heap.size+5) (((((w.alloc (.cells #[.slice a n c,.slice p m q,.int .i64 fuel,.bool dead] 25)).alloc (.cells #[.int .i64 at_] 2)).alloc (.cells #[.int .i64 seq] 2)).alloc (.cells #[.slice ad N cp] 22)).alloc (.cells #[.slice none 0 0,.slice none 0 0,.int .i64 0,.bool false] 25)) w1):=hb1
 have z1:w.heap.size+5<=w1.heap.size:=by have:=hb1.size;rw [HE.out] at this;exact this
 have hc1:∀b o,b<w.heap.size+5->w1.cell? ⟨b,o,none⟩=_:=fun b o hb=>K1.out.cell (p:=⟨b,o,none⟩) hb
 clear hb1 h1
 go_wp2_with fail
 refine (isNumber_any seq w1).mono ?_
 rintro e w2 ⟨he,hw2⟩
 subst hw2
 rw [HQ.out] at he
 subst he
 have x0:w2.cell? ⟨w.heap.size,0,none⟩=some (.slice a n c):=(hc1 w.heap.size 0 (by omega)).trans (frame5 w _ _ _ _ _ _ _ _ ()).1.1
 have x1:w2.cell? ⟨w.heap.size,1,none⟩=some (.slice p m q):=(hc1 w.heap.size 1 (by omega)).trans (frame5 w _ _ _ _ _ _ _ _ ()).1.2.1
 have x2:w2.cell? ⟨w.heap.size,2,none⟩=some (.int .i64 fuel):=(hc1 w.heap.size 2 (by omega)).trans (frame5 w _ _ _ _ _ _ _ _ ()).1.2.2.1
 have x3:w2.cell? ⟨w.heap.size,3,none⟩=some (.bool dead):=(hc1 w.heap.size 3 (by omega)).trans (frame5 w _ _ _ _ _ _ _ _ ()).1.2.2.2.1
 have y0:w2.cell? ⟨w.heap.size+1,0,none⟩=some (.int .i64 at_):=(hc1 (w.heap.size+1) 0 (by omega)).trans (frame5 w _ _ _ _ _ _ _ _ ()).2.1
 clear hc1
 go_wp2
 go_region_held3 (fun w'=>w'.cell? ⟨w.heap.size,0,none⟩=some (.slice a n c)/\w'.cell? ⟨w.heap.size,1,none⟩=some (.slice p m q)/\w'.cell? ⟨w.heap.size,2,none⟩=some (.int .i64 fuel)/\w'.cell? ⟨w.heap.size,3,none⟩=some (.bool dead)/\w'.cell? ⟨w.heap.size+1,0,none⟩=some (.int .i64 at_)) (go_keep) (first|(go_at_call 53;refine (sectorCount_any a p n c m q fuel dead w2.drew hn).mono ?_;rintro e w3 ⟨rfl,hb3⟩;have K3:Hid (Below (w.heap.size+5) (((((w.alloc (.cells #[.slice a n c,.slice p m q,.int .i64 fuel,.bool dead] 25)).alloc (.cells #[.int .i64 at_] 2)).alloc (.cells #[.int .i64 seq] 2)).alloc (.cells #[.slice ad N cp] 22)).alloc (.cells #[.slice none 0 0,.slice none 0 0,.int .i64 0,.bool false] 25)) w3):=K1.out.drew.trans (hb3.mono z1);have u0:w3.cell? ⟨w.heap.size,0,none⟩=some (.slice a n c):=(hb3.cell (p:=⟨w.heap.size,0,none⟩) (by simp;omega)).trans x0;have u1:w3.cell? ⟨w.heap.size,1,none⟩=some (.slice p m q):=(hb3.cell (p:=⟨w.heap.size,1,none⟩) (by simp;omega)).trans x1;have u2:w3.cell? ⟨w.heap.size,2,none⟩=some (.int .i64 fuel):=(hb3.cell (p:=⟨w.heap.size,2,none⟩) (by simp;omega)).trans x2;have u3:w3.cell? ⟨w.heap.size,3,none⟩=some (.bool dead):=(hb3.cell (p:=⟨w.heap.size,3,none⟩) (by simp;omega)).trans x3;have u4:w3.cell? ⟨w.heap.size+1,0,none⟩=some (.int .i64 at_):=(hb3.cell (p:=⟨w.heap.size+1,0,none⟩) (by simp;omega)).trans y0))
 have z3:=hb3.size
 rw [show w2.drew.heap.size=w2.heap.size from by simp] at z3
 clear x0 x1 x2 x3 y0 u0 u1 u2 u3 u4 hb3
 have hc3:∀b o,b<w.heap.size+5->w3.cell? ⟨b,o,none⟩=_:=fun b o hb=>K3.out.cell (p:=⟨b,o,none⟩) hb
 have y1:w3.cell? ⟨w.heap.size+1,0,none⟩=some (.int .i64 at_):=(hc3 (w.heap.size+1) 0 (by omega)).trans (frame5 w _ _ _ _ _ _ _ _ ()).2.1
 have y2:w3.cell? ⟨w.heap.size+2,0,none⟩=some (.int .i64 seq):=(hc3 (w.heap.size+2) 0 (by omega)).trans (frame5 w _ _ _ _ _ _ _ _ ()).2.2.1
 have y3:w3.cell? ⟨w.heap.size+3,0,none⟩=some (.slice ad N cp):=(hc3 (w.heap.size+3) 0 (by omega)).trans (frame5 w _ _ _ _ _ _ _ _ ()).2.2.2
 have HST:Hid (∀(W:World) (b B:Nat) (a' p' : Option Addr) (c' q' : Nat) (A C),Dev W b (.slice a' n c') (.slice p' m q') fuel dead->OwnB W B a' n d->Gath W B (.slice p' m q') m S L F A C->(n≠0->∀i,i<m->L i≠0->A i≠a')->n<=c'->c'<=9223372036854775807->B<=b->w3.heap.size+2<=B->Below w3.heap.size w3 W->
   Calls Tryz.prog 55 #[.pointer (some ⟨b,0,none⟩),.pointer (some ⟨w.heap.size+1,0,none⟩),.pointer (some ⟨w.heap.size+2,0,none⟩),.pointer (some ⟨w.heap.size+3,0,none⟩)] W fun e w'=>Stepped e/\Left W b B n w' r.d r.m r.S r.L r.F r.fuel r.dead):=by
  intro W b B a' p' c' q' A C q1 q2 q3 q4 q5 q6 q7 q8 q9
  refine closure_rec b _ _ _ at_ seq _ W _ ((q9.cell (p:=⟨w.heap.size+1,0,none⟩) (by show w.heap.size+1<w3.heap.size;omega)).trans y1) ((q9.cell (p:=⟨w.heap.size+2,0,none⟩) (by show w.heap.size+2<w3.heap.size;omega)).trans y2) ((q9.cell (p:=⟨w.heap.size+3,0,none⟩) (by show w.heap.size+3<w3.heap.size;omega)).trans y3) ?_
  exact HDO.out W b B ⟨a',c',p',q',A,C,q1,q2,q3,q4,q5,q6⟩ q7 (fun W' hW'=>HRD.out.below (((HFIN.out _ K3.out).trans (q9.mono (by omega))).trans (hW'.mono (by omega))))
 clear y1 y2 y3
 go_wp2_with fail
 refine (runSteps_rec a p n c m q d S L F fuel dead _ _ _ w3 (HA.out.below (HFIN.out _ K3.out)) (HP.out.below (HFIN.out _ K3.out)) hn hm HLL.out r.d r.m r.S r.L r.F r.fuel r.dead HST.out).mono ?_
 rintro e w9 ⟨a9,c9,p9,q9,A9,rfl,ho9,hb9⟩
 have z9:w.heap.size+5<=w3.heap.size:=by omega
 have K9:Below (w.heap.size+5) (((((w.alloc (.cells #[.slice a n c,.slice p m q,.int .i64 fuel,.bool dead] 25)).alloc (.cells #[.int .i64 at_] 2)).alloc (.cells #[.int .i64 seq] 2)).alloc (.cells #[.slice ad N cp] 22)).alloc (.cells #[.slice none 0 0,.slice none 0 0,.int .i64 0,.bool false] 25)) w9:=K3.out.trans (hb9.mono z9)
 have hc9:∀b o,b<w.heap.size+5->w9.cell? ⟨b,o,none⟩=_:=fun b o hb=>K9.cell (p:=⟨b,o,none⟩) hb
 have hf9:∀b o,b<w.heap.size+5->w9.frozen? ⟨b,o,none⟩=_:=fun b o hb=>K9.frozen (p:=⟨b,o,none⟩) hb
 have hz9:w.heap.size+4<w9.heap.size:=by have:=hb9.size;omega
 have HX:Hid (OwnD w9 (w.heap.size+5) a9 n r.d p9 r.m r.S r.L r.F A9/\Below w.heap.size w w9):=⟨ho9.mono z9,HFIN.out _ K9⟩
 clear ho9 hb9 K9 hc3 HST
 go_wp2
 refine bodyPost_ret (v:=.agg #[.slice a9 n c9,.slice p9 r.m q9,.int .i64 r.fuel,.bool r.dead]) (by simp [results,Tryz.results19,go_sem,hc9]) rfl ⟨a9,c9,p9,q9,A9,rfl,?_,?_⟩
 ·exact ((((HX.out.1.setOther (by simp) _).setOther (by simp) _).setOther (by simp) _).setOther (by simp) _).mono (by omega)
 ·exact (((HX.out.2.setCell (by simp;try omega) _).setCell (by simp;try omega) _).setCell (by simp;try omega) _).setCell (by simp;try omega) _
end Go.Proofs.YtbmffmifemebmaaGreatDoor
