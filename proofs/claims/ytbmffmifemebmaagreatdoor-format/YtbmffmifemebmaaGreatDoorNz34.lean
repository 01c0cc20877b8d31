import Derived.Test.YtbmffmifemebmaaGreatDoorNz32
import Derived.Test.YtbmffmifemebmaaGreatDoorNz28
import Derived.Test.YtbmffmifemebmaaGreatDoorNz22
import Derived.Test.YtbmffmifemebmaaGreatDoorNz29
import Derived.Test.YtbmffmifemebmaaGreatDoorNz33
import Derived.Test.YtbmffmifemebmaaGreatDoorNz8
set_option linter.unusedVariables false
set_option maxRecDepth 100000
namespace Go.Proofs.YtbmffmifemebmaaGreatDoor
open Go.RowKit Go.Deep Go.MapKept Go.ChangeMaps

def RetAe (w:World) (e:Ending) (w' : World):Prop:=
 ∃g cr gd C0,e=.returned (.agg #[.bool true,.slice (some ⟨g,0,none⟩) 1 cr,.int .i64 1,.int .i64 2])/\w'.cell? ⟨g,0,none⟩=some (.slice (some ⟨gd,0,none⟩) 9 C0)/\(9<=C0/\C0<=9223372036854775807)/\(∀j,j<9->w'.cell? ⟨gd,j,none⟩=some (.int .u8 (pay9 j)))/\Below w.heap.size w w'/\1<=cr/\cr<=9223372036854775807
theorem retA_e {w w' : World} {e:Ending} (S:Nat->Int) (F:Nat->Nat->Int) (h:RetA w (decide (0<1)) 1 (arL (secF dk2 S F 0) 2) (arF (secF dk2 S F 0) 2) (arU (secF dk2 S F 0) 2 1) (if 0<1 then 1+((1:Nat):Int) else 0) e w'):RetAe w e w':=by
 obtain ⟨p,c,A,he,ho,hb,h1,h2⟩:=h
 rw [arU_one] at he
 rcases ho with h0|⟨g,C,rfl,ho⟩
 ·omega
 have hc:=ho.row.cell (i:=0) (by omega)
 have hcp:=ho.cap 0 (by omega)
 have hea:=ho.each 0 (by omega)
 unfold payCell at hc
 rw [arL_zero] at hc hcp hea
 rcases hea with h0|⟨gd,hA,_,hr⟩
 ·omega
 rw [hA] at hc
 refine ⟨g,c,gd,C 0,he,hc,hcp,fun j hj=>?_,hb,h1,h2⟩
 have:=hr.cell (i:=j) hj
 rw [arF_zero S F j hj] at this
 exact this

theorem implArea_e (n c q:Nat) (a p0:Option Addr) (w:World) (h1:16<=n) (h2:n<=1024) (ha:Rd .u8 w a (n*64) dk2) (hc:n*64<=c) (hcm:c<=9223372036854775807) :
  Calls Tryz.prog 107 #[.agg #[.slice a (n*64) c,.slice p0 0 q,.int .i64 (-1),.bool false],.int .i64 0,.int .i64 1] w (RetAe w):=by
 have e1:n*64 / 64=n:=by omega
 have hg:=ar_good (fun _=>0) (fun _ _=>0) n h1
 have hn:=ar_end (fun _=>0) (fun _ _=>0) n
 refine (implArea_good a p0 (n*64) c 0 q dk2 (fun _=>0) (fun _=>0) (fun _ _=>0) (-1) false 0 1 0 ((n-2) / 2) 2 1 w ha (Or.inl rfl) (vd0 n h1 h2 _ _) rfl (by omega) rfl (by rw [e1]) (by omega) (by omega) hc hcm (by omega) (fun s i _=>by rw [secF_zero];exact dk2_range _) (by rw [e1];exact hg) (by rw [e1];exact hn)).mono ?_
 exact fun e w' h=>retA_e _ _ h
theorem specArea_e (n c q:Nat) (a p0:Option Addr) (w:World) (h1:16<=n) (h2:n<=1024) (ha:Rd .u8 w a (n*64) dk2) (hc:n*64<=c) (hcm:c<=9223372036854775807) :
  Calls Tryz.prog 42 #[.agg #[.slice a (n*64) c,.slice p0 0 q,.int .i64 (-1),.bool false],.int .i64 0,.int .i64 1] w (RetAe w):=by
 have e1:n*64 / 64=n:=by omega
 have hg:=ar_good (fun _=>0) (fun _ _=>0) n h1
 have hn:=ar_end (fun _=>0) (fun _ _=>0) n
 refine (specArea_good a p0 (n*64) c 0 q dk2 (fun _=>0) (fun _=>0) (fun _ _=>0) (-1) false 0 1 0 ((n-2) / 2) 2 1 w ha (Or.inl rfl) (vd0 n h1 h2 _ _) rfl (by omega) rfl (by rw [e1]) (by omega) (by omega) hc hcm (by omega) (fun s i _=>by rw [secF_zero];exact dk2_range _) (by rw [e1];exact hg) (by rw [e1];exact hn)).mono ?_
 exact fun e w' h=>retA_e _ _ h
theorem implSup_e (n c q:Nat) (a p0:Option Addr) (w:World) (h1:16<=n) (h2:n<=1024) (ha:Rd .u8 w a (n*64) dk2) (hc:n*64<=c) (hcm:c<=9223372036854775807) :
  Calls Tryz.prog 106 #[.agg #[.slice a (n*64) c,.slice p0 0 q,.int .i64 (-1),.bool false]] w fun e w'=>e=.returned (.agg #[.bool true,.int .i64 0,.int .i64 0,.int .i64 1])/\Below w.heap.size w w':=
 implSuper_good a p0 (n*64) c 0 q dk2 (fun _=>0) (fun _=>0) (fun _ _=>0) (-1) false w ha (Or.inl rfl) (vd0 n h1 h2 _ _) (by omega) hc hcm (by omega) (fun s _ i _=>by rw [secF_zero];exact dk2_range _) true false 0 0 1 0 0 0 (sup0 _ _) (sup1 _ _) (fun h=>by cases h)
theorem specSup_e (n c q:Nat) (a p0:Option Addr) (w:World) (h1:16<=n) (h2:n<=1024) (ha:Rd .u8 w a (n*64) dk2) (hc:n*64<=c) (hcm:c<=9223372036854775807) :
  Calls Tryz.prog 41 #[.agg #[.slice a (n*64) c,.slice p0 0 q,.int .i64 (-1),.bool false]] w fun e w'=>e=.returned (.agg #[.bool true,.int .i64 0,.int .i64 0,.int .i64 1])/\Below w.heap.size w w':=
 specSuper_good a p0 (n*64) c 0 q dk2 (fun _=>0) (fun _=>0) (fun _ _=>0) (-1) false w ha (Or.inl rfl) (vd0 n h1 h2 _ _) (by omega) hc hcm (by omega) (fun s _ i _=>by rw [secF_zero];exact dk2_range _) true false 0 0 1 0 0 0 (sup0 _ _) (sup1 _ _)
theorem implVal_e (n c q:Nat) (a p0:Option Addr) (w:World) (h1:16<=n) (h2:n<=1024) :
  Calls Tryz.prog 50 #[.agg #[.slice a (n*64) c,.slice p0 0 q,.int .i64 (-1),.bool false]] w fun e w'=>e=.returned (.bool true)/\Below w.heap.size w w':=by
 refine (implValid_any a p0 (n*64) c 0 q (fun _=>0) (fun _=>0) (fun _ _=>0) (-1) false w (Or.inl rfl) (by omega) (by omega)).mono ?_
 rintro e w' ⟨⟨b,rfl,hb⟩,h⟩
 rw [hb.2 (vd0 n h1 h2 _ _)]
 exact ⟨rfl,h⟩
theorem specVal_e (n c q:Nat) (a p0:Option Addr) (w:World) (h1:16<=n) (h2:n<=1024) :
  Calls Tryz.prog 28 #[.agg #[.slice a (n*64) c,.slice p0 0 q,.int .i64 (-1),.bool false]] w fun e w'=>e=.returned (.bool true)/\Below w.heap.size w w':=by
 refine (specValid_any a p0 (n*64) c 0 q (fun _=>0) (fun _=>0) (fun _ _=>0) (-1) false w (Or.inl rfl) (by omega) (by omega)).mono ?_
 rintro e w' ⟨⟨b,rfl,hb⟩,h⟩
 rw [hb.2 (vd0 n h1 h2 _ _)]
 exact ⟨rfl,h⟩
end Go.Proofs.YtbmffmifemebmaaGreatDoor
namespace Go.Proofs.YtbmffmifemebmaaGreatDoor
open Go.RowKit Go.Deep

def RetSr (w:World) (B n:Nat) (d:Nat->Int) (e:Ending) (w' : World):Prop:=
 ∃a2 c2 p2 q2 gi ci G C Aa,e=.returned (.agg #[.int .i64 1,.int .i64 0,.slice a2 n c2,.slice p2 0 q2,.int .i64 (-1),.bool false,.int .i64 0,.int .i64 0,.int .i64 1,.int .i64 2,.int .i64 1,.int .i64 1,.slice none 0 0,.slice (some ⟨gi,0,none⟩) 6 ci])/\OwnB w' B a2 n d/\IxOk w' B gi G C Aa/\Below B w w'

set_option maxHeartbeats 8000000 in
theorem specOpen_e (n c q:Nat) (a p0:Option Addr) (w:World) (h1:16<=n) (h2:n<=1024) (ha:Rd .u8 w a (n*64) dk2) (hc:n*64<=c) (hcm:c<=9223372036854775807) :
  Calls Tryz.prog 14 #[.agg #[.slice a (n*64) c,.slice p0 0 q,.int .i64 (-1),.bool false]] w (RetSr w w.heap.size (n*64) dk2):=by
 have HA:Hid (Rd .u8 w a (n*64) dk2):=ha
 have HV:Hid (∀W:World,Calls Tryz.prog 28 #[.agg #[.slice a (n*64) c,.slice p0 0 q,.int .i64 (-1),.bool false]] W fun e w'=>e=.returned (.bool true)/\Below W.heap.size W w'):=fun W=>specVal_e n c q a p0 W h1 h2
 have HS:Hid (∀W:World,Below w.heap.size w W->Calls Tryz.prog 41 #[.agg #[.slice a (n*64) c,.slice p0 0 q,.int .i64 (-1),.bool false]] W fun e w'=>e=.returned (.agg #[.bool true,.int .i64 0,.int .i64 0,.int .i64 1])/\Below W.heap.size W w'):=fun W hW=>specSup_e n c q a p0 W h1 h2 (ha.below hW) hc hcm
 have HR:Hid (∀W:World,Below w.heap.size w W->Calls Tryz.prog 42 #[.agg #[.slice a (n*64) c,.slice p0 0 q,.int .i64 (-1),.bool false],.int .i64 0,.int .i64 1] W (RetAe W)):=fun W hW=>specArea_e n c q a p0 W h1 h2 (ha.below hW) hc hcm
 have HC:Hid (∀W:World,Below w.heap.size w W->Calls Tryz.prog 31 #[.agg #[.slice a (n*64) c,.slice p0 0 q,.int .i64 (-1),.bool false]] W fun e w'=>RetG W e w' (n*64) dk2 0 (fun _=>0) (fun _=>0) (fun _ _=>0) (-1) false):=fun W hW=>
  l1Copy_gath a p0 (n*64) c 0 q dk2 _ _ _ (-1) false W (ha.below hW) (Or.inl rfl) (by omega) (by omega) (fun i hi=>absurd hi (Nat.not_lt_zero _))
 clear ha hc hcm
 go_enter Tryz.func14,Tryz.ntmps14
 go_wp2_with fail
 refine (HV.out _).mono ?_
 rintro e w1 ⟨rfl,hb1⟩
 obtain ⟨kb,hkb⟩:∃x,x=w.heap.size:=⟨_,rfl⟩
 obtain ⟨rb,hrb⟩:∃x,x=w.heap.size+1:=⟨_,rfl⟩
 have H1:Hid (Bx w1 kb 25 #[.slice a (n*64) c,.slice p0 0 q,.int .i64 (-1),.bool false]/\Bx w1 rb 37 #[.int .i64 0,.int .i64 0,.slice none 0 0,.slice none 0 0,.int .i64 0,.bool false,.int .i64 0,.int .i64 0,.int .i64 0,.int .i64 0,.int .i64 0,.int .i64 0,.slice none 0 0,.slice none 0 0]/\Below w.heap.size w w1/\w.heap.size=kb/\kb<rb/\rb<w1.heap.size):=by
  have b1:=Bx.new (w.alloc (.cells #[.slice a (n*64) c,.slice p0 0 q,.int .i64 (-1),.bool false] 25)) #[.int .i64 0,.int .i64 0,.slice none 0 0,.slice none 0 0,.int .i64 0,.bool false,.int .i64 0,.int .i64 0,.int .i64 0,.int .i64 0,.int .i64 0,.int .i64 0,.slice none 0 0,.slice none 0 0] 37
  simp only [World.size_alloc] at b1
  rw [<- hrb] at b1
  have b0:Bx ((w.alloc (.cells #[.slice a (n*64) c,.slice p0 0 q,.int .i64 (-1),.bool false] 25)).alloc (.cells #[.int .i64 0,.int .i64 0,.slice none 0 0,.slice none 0 0,.int .i64 0,.bool false,.int .i64 0,.int .i64 0,.int .i64 0,.int .i64 0,.int .i64 0,.int .i64 0,.slice none 0 0,.slice none 0 0] 37)) kb 25 #[.slice a (n*64) c,.slice p0 0 q,.int .i64 (-1),.bool false]:=by rw [hkb];exact (Bx.new _ _ _).alloc _
  exact ⟨b0.below hb1,b1.below hb1,((below_alloc _ _).alloc (by simp) _).trans (hb1.mono (by simp;omega)),hkb.symm,by omega,(b1.below hb1).lt⟩
 clear hb1 HV
 rw [<- hrb,<- hkb]
 clear hkb hrb
 have c0:=H1.out.1.cell 0
 have c1:=H1.out.1.cell 1
 have c2:=H1.out.1.cell 2
 have c3:=H1.out.1.cell 3
 simp at c0 c1 c2 c3
 go_upto_region 4 with fail
 have S2:Hid (Bx (w1.alloc (.cells #[.int .i64 9,.int .i64 0,.slice none 0 0,.slice none 0 0,.int .i64 0,.bool false,.int .i64 0,.int .i64 0,.int .i64 0,.int .i64 0,.int .i64 0,.int .i64 0,.slice none 0 0,.slice none 0 0] 37)) kb 25 #[.slice a (n*64) c,.slice p0 0 q,.int .i64 (-1),.bool false]/\Bx (w1.alloc (.cells #[.int .i64 9,.int .i64 0,.slice none 0 0,.slice none 0 0,.int .i64 0,.bool false,.int .i64 0,.int .i64 0,.int .i64 0,.int .i64 0,.int .i64 0,.int .i64 0,.slice none 0 0,.slice none 0 0] 37)) rb 37 #[.int .i64 0,.int .i64 0,.slice none 0 0,.slice none 0 0,.int .i64 0,.bool false,.int .i64 0,.int .i64 0,.int .i64 0,.int .i64 0,.int .i64 0,.int .i64 0,.slice none 0 0,.slice none 0 0]/\Below w.heap.size w (w1.alloc (.cells #[.int .i64 9,.int .i64 0,.slice none 0 0,.slice none 0 0,.int .i64 0,.bool false,.int .i64 0,.int .i64 0,.int .i64 0,.int .i64 0,.int .i64 0,.int .i64 0,.slice none 0 0,.slice none 0 0] 37))/\w.heap.size=kb/\kb<rb/\rb<(w1.alloc (.cells #[.int .i64 9,.int .i64 0,.slice none 0 0,.slice none 0 0,.int .i64 0,.bool false,.int .i64 0,.int .i64 0,.int .i64 0,.int .i64 0,.int .i64 0,.int .i64 0,.slice none 0 0,.slice none 0 0] 37)).heap.size):=
  ⟨H1.out.1.alloc _,H1.out.2.1.alloc _,H1.out.2.2.1.alloc H1.out.2.2.1.size _,H1.out.2.2.2.1,H1.out.2.2.2.2.1,by have:=H1.out.2.2.2.2.2;simp;omega⟩
 clear H1 c0 c1 c2 c3
 generalize (w1.alloc (.cells #[.int .i64 9,.int .i64 0,.slice none 0 0,.slice none 0 0,.int .i64 0,.bool false,.int .i64 0,.int .i64 0,.int .i64 0,.int .i64 0,.int .i64 0,.int .i64 0,.slice none 0 0,.slice none 0 0] 37))=W2 at S2 ⊢
 generalize w1.heap.size=xb at ⊢
 have c0:=S2.out.1.cell 0
 have c1:=S2.out.1.cell 1
 have c2:=S2.out.1.cell 2
 have c3:=S2.out.1.cell 3
 simp at c0 c1 c2 c3
 go_wp2_with fail
 refine (HS.out W2 S2.out.2.2.1).mono ?_
 rintro e w3 ⟨rfl,hb3⟩
 have S3:Hid (Bx (w3.alloc (.cells #[.bool true,.int .i64 0,.int .i64 0,.int .i64 1] 75)) kb 25 #[.slice a (n*64) c,.slice p0 0 q,.int .i64 (-1),.bool false]/\Bx (w3.alloc (.cells #[.bool true,.int .i64 0,.int .i64 0,.int .i64 1] 75)) rb 37 #[.int .i64 0,.int .i64 0,.slice none 0 0,.slice none 0 0,.int .i64 0,.bool false,.int .i64 0,.int .i64 0,.int .i64 0,.int .i64 0,.int .i64 0,.int .i64 0,.slice none 0 0,.slice none 0 0]/\Bx (w3.alloc (.cells #[.bool true,.int .i64 0,.int .i64 0,.int .i64 1] 75)) w3.heap.size 75 #[.bool true,.int .i64 0,.int .i64 0,.int .i64 1]/\Below w.heap.size w (w3.alloc (.cells #[.bool true,.int .i64 0,.int .i64 0,.int .i64 1] 75))/\w.heap.size=kb/\kb<rb/\rb<w3.heap.size):=
  ⟨(S2.out.1.below hb3).alloc _,(S2.out.2.1.below hb3).alloc _,Bx.new _ _ _,(S2.out.2.2.1.trans (hb3.mono S2.out.2.2.1.size)).alloc (Nat.le_trans S2.out.2.2.1.size hb3.size) _,S2.out.2.2.2.1,S2.out.2.2.2.2.1,Nat.lt_of_lt_of_le S2.out.2.2.2.2.2 hb3.size⟩
 clear hb3 S2 HS c0 c1 c2 c3
 go_upto_region 5 with fail
 generalize (w3.alloc (.cells #[.bool true,.int .i64 0,.int .i64 0,.int .i64 1] 75))=W3 at S3 ⊢
 generalize w3.heap.size=sb at S3 ⊢
 have c0:=S3.out.1.cell 0
 have c1:=S3.out.1.cell 1
 have c2:=S3.out.1.cell 2
 have c3:=S3.out.1.cell 3
 have s0:=S3.out.2.2.1.cell 0
 have s2:=S3.out.2.2.1.cell 2
 have s3:=S3.out.2.2.1.cell 3
 simp at c0 c1 c2 c3 s0 s2 s3
 go_wp2_with fail
 refine (HR.out W3 S3.out.2.2.2.1).mono ?_
 rintro e w4 ⟨g,cr,gd,C0,rfl,hcell,hcap,hrd,hb4,hq1,hq2⟩
 have S5:Hid (Bx (w4.alloc (.cells #[.bool true,.slice (some ⟨g,0,none⟩) 1 cr,.int .i64 1,.int .i64 2] 79)) kb 25 #[.slice a (n*64) c,.slice p0 0 q,.int .i64 (-1),.bool false]/\Bx (w4.alloc (.cells #[.bool true,.slice (some ⟨g,0,none⟩) 1 cr,.int .i64 1,.int .i64 2] 79)) rb 37 #[.int .i64 0,.int .i64 0,.slice none 0 0,.slice none 0 0,.int .i64 0,.bool false,.int .i64 0,.int .i64 0,.int .i64 0,.int .i64 0,.int .i64 0,.int .i64 0,.slice none 0 0,.slice none 0 0]/\Bx (w4.alloc (.cells #[.bool true,.slice (some ⟨g,0,none⟩) 1 cr,.int .i64 1,.int .i64 2] 79)) sb 75 #[.bool true,.int .i64 0,.int .i64 0,.int .i64 1]/\Bx (w4.alloc (.cells #[.bool true,.slice (some ⟨g,0,none⟩) 1 cr,.int .i64 1,.int .i64 2] 79)) w4.heap.size 79 #[.bool true,.slice (some ⟨g,0,none⟩) 1 cr,.int .i64 1,.int .i64 2]/\Below w.heap.size w (w4.alloc (.cells #[.bool true,.slice (some ⟨g,0,none⟩) 1 cr,.int .i64 1,.int .i64 2] 79))/\(w4.alloc (.cells #[.bool true,.slice (some ⟨g,0,none⟩) 1 cr,.int .i64 1,.int .i64 2] 79)).cell? ⟨g,0,none⟩=some (.slice (some ⟨gd,0,none⟩) 9 C0)/\9<=C0/\(∀j,j<9->(w4.alloc (.cells #[.bool true,.slice (some ⟨g,0,none⟩) 1 cr,.int .i64 1,.int .i64 2] 79)).cell? ⟨gd,j,none⟩=some (.int .u8 (pay9 j)))/\w.heap.size=kb/\kb<rb/\rb<sb/\sb<w4.heap.size):=
  ⟨(S3.out.1.below hb4).alloc _,(S3.out.2.1.below hb4).alloc _,(S3.out.2.2.1.below hb4).alloc _,Bx.new _ _ _,(S3.out.2.2.2.1.trans (hb4.mono S3.out.2.2.2.1.size)).alloc (Nat.le_trans S3.out.2.2.2.1.size hb4.size) _,((below_alloc _ _).cell (p:=⟨g,0,none⟩) (World.block_lt_of_cell? _ _ hcell)).trans hcell,hcap.1,fun j hj=>((below_alloc _ _).cell (p:=⟨gd,j,none⟩) (World.block_lt_of_cell? _ _ (hrd j hj))).trans (hrd j hj),S3.out.2.2.2.2.1,S3.out.2.2.2.2.2.1,S3.out.2.2.2.2.2.2,(S3.out.2.2.1.below hb4).lt⟩
 clear hb4 S3 HR c0 c1 c2 c3 s0 s2 s3 hcell hcap hrd hq1 hq2
 go_upto_region 8 with fail
 generalize (w4.alloc (.cells #[.bool true,.slice (some ⟨g,0,none⟩) 1 cr,.int .i64 1,.int .i64 2] 79))=W5 at S5 ⊢
 generalize w4.heap.size=ab at S5 ⊢
 have b0:=S5.out.2.2.2.1.cell 0
 have b1:=S5.out.2.2.2.1.cell 1
 have bg:=S5.out.2.2.2.2.2.1
 simp at b0 b1
 go_wp2_with fail
 refine (l7Load_e gd C0 W5 S5.out.2.2.2.2.2.2.1 S5.out.2.2.2.2.2.2.2.1).mono ?_
 rintro e w6 ⟨gi,ci,G,C,Aa,rfl,hix,hb6⟩
 go_upto_region 11 with fail
 have H7:Hid (Bx ((w6.alloc (.cells #[.int .i64 1,.slice none 0 0] 30)).alloc (.cells #[.slice (some ⟨gi,0,none⟩) 6 ci] 33)) kb 25 #[.slice a (n*64) c,.slice p0 0 q,.int .i64 (-1),.bool false]/\Bx ((w6.alloc (.cells #[.int .i64 1,.slice none 0 0] 30)).alloc (.cells #[.slice (some ⟨gi,0,none⟩) 6 ci] 33)) sb 75 #[.bool true,.int .i64 0,.int .i64 0,.int .i64 1]/\Bx ((w6.alloc (.cells #[.int .i64 1,.slice none 0 0] 30)).alloc (.cells #[.slice (some ⟨gi,0,none⟩) 6 ci] 33)) ab 79 #[.bool true,.slice (some ⟨g,0,none⟩) 1 cr,.int .i64 1,.int .i64 2]/\Bx ((w6.alloc (.cells #[.int .i64 1,.slice none 0 0] 30)).alloc (.cells #[.slice (some ⟨gi,0,none⟩) 6 ci] 33)) w6.heap.size 30 #[.int .i64 1,.slice none 0 0]/\Bx ((w6.alloc (.cells #[.int .i64 1,.slice none 0 0] 30)).alloc (.cells #[.slice (some ⟨gi,0,none⟩) 6 ci] 33)) (w6.heap.size+1) 33 #[.slice (some ⟨gi,0,none⟩) 6 ci]/\Bx ((w6.alloc (.cells #[.int .i64 1,.slice none 0 0] 30)).alloc (.cells #[.slice (some ⟨gi,0,none⟩) 6 ci] 33)) rb 37 #[.int .i64 0,.int .i64 0,.slice none 0 0,.slice none 0 0,.int .i64 0,.bool false,.int .i64 0,.int .i64 0,.int .i64 0,.int .i64 0,.int .i64 0,.int .i64 0,.slice none 0 0,.slice none 0 0]/\IxOk ((w6.alloc (.cells #[.int .i64 1,.slice none 0 0] 30)).alloc (.cells #[.slice (some ⟨gi,0,none⟩) 6 ci] 33)) (rb+1) gi G C Aa/\Below w.heap.size w ((w6.alloc (.cells #[.int .i64 1,.slice none 0 0] 30)).alloc (.cells #[.slice (some ⟨gi,0,none⟩) 6 ci] 33))/\(w.heap.size=kb/\kb<rb/\rb<sb/\sb<ab/\ab<w6.heap.size)):=by
  have q:=S5.out.2.2.2.2.2.2.2.2
  have hz:=hb6.size
  have hl:=S5.out.2.2.2.1.lt
  have b1:=Bx.new (w6.alloc (.cells #[.int .i64 1,.slice none 0 0] 30)) #[.slice (some ⟨gi,0,none⟩) 6 ci] 33
  simp only [World.size_alloc] at b1
  have hbb:Below w.heap.size w w6:=S5.out.2.2.2.2.1.trans (hb6.mono S5.out.2.2.2.2.1.size)
  exact ⟨((S5.out.1.below hb6).alloc _).alloc _,((S5.out.2.2.1.below hb6).alloc _).alloc _,((S5.out.2.2.2.1.below hb6).alloc _).alloc _,(Bx.new _ _ _).alloc _,b1,((S5.out.2.1.below hb6).alloc _).alloc _,((hix.keep (below_alloc _ _)).keep (below_alloc _ _)).mono (by omega),(hbb.alloc hbb.size _).alloc (by have:=hbb.size;simp;omega) _,q.1,q.2.1,q.2.2.1,q.2.2.2,by omega⟩
 clear hix hb6 S5 b0 b1 bg
 generalize ((w6.alloc (.cells #[.int .i64 1,.slice none 0 0] 30)).alloc (.cells #[.slice (some ⟨gi,0,none⟩) 6 ci] 33))=W7 at H7 ⊢
 generalize w6.heap.size=tb at H7 ⊢
 obtain ⟨ib,hib⟩:∃x,x=tb+1:=⟨_,rfl⟩
 rw [<- hib] at H7 ⊢
 have HK:Hid (∀W:World,Below W7.drew.heap.size W7.drew W->(W.cell? ⟨kb,0,none⟩=some (.slice a (n*64) c)/\W.cell? ⟨kb,1,none⟩=some (.slice p0 0 q)/\W.cell? ⟨kb,2,none⟩=some (.int .i64 (-1))/\W.cell? ⟨kb,3,none⟩=some (.bool false)/\W.cell? ⟨sb,1,none⟩=some (.int .i64 0)/\W.cell? ⟨sb,2,none⟩=some (.int .i64 0)/\W.cell? ⟨sb,3,none⟩=some (.int .i64 1)/\W.cell? ⟨ab,2,none⟩=some (.int .i64 1)/\W.cell? ⟨ab,3,none⟩=some (.int .i64 2)/\W.cell? ⟨tb,0,none⟩=some (.int .i64 1)/\W.cell? ⟨tb,1,none⟩=some (.slice none 0 0)/\W.cell? ⟨ib,0,none⟩=some (.slice (some ⟨gi,0,none⟩) 6 ci))/\Bx W rb 37 #[.int .i64 0,.int .i64 0,.slice none 0 0,.slice none 0 0,.int .i64 0,.bool false,.int .i64 0,.int .i64 0,.int .i64 0,.int .i64 0,.int .i64 0,.int .i64 0,.slice none 0 0,.slice none 0 0]/\IxOk W (rb+1) gi G C Aa/\Below w.heap.size w W):=fun W hW=>
  ⟨⟨(H7.out.1.drew.below hW).cell 0,(H7.out.1.drew.below hW).cell 1,(H7.out.1.drew.below hW).cell 2,(H7.out.1.drew.below hW).cell 3,(H7.out.2.1.drew.below hW).cell 1,(H7.out.2.1.drew.below hW).cell 2,(H7.out.2.1.drew.below hW).cell 3,(H7.out.2.2.1.drew.below hW).cell 2,(H7.out.2.2.1.drew.below hW).cell 3,(H7.out.2.2.2.1.drew.below hW).cell 0,(H7.out.2.2.2.1.drew.below hW).cell 1,(H7.out.2.2.2.2.1.drew.below hW).cell 0⟩,H7.out.2.2.2.2.2.1.drew.below hW,(H7.out.2.2.2.2.2.2.1.keep (w2:=W7.drew) (Below.refl _ _).drew).keep hW,H7.out.2.2.2.2.2.2.2.1.drew.trans (hW.mono H7.out.2.2.2.2.2.2.2.1.size)⟩
 obtain ⟨⟨u0,u1,u2,u3,u4,u5,u6,u7,u8,u9,u10,u11⟩,-⟩:=HK.out W7.drew (Below.refl _ _)
 have b1:=H7.out.2.2.1.cell 1
 simp at b1
 have ho:=H7.out.2.2.2.2.2.2.2.2
 have ne0:¬ rb=kb:=by omega
 have nf0:¬ kb=rb:=by omega
 have ne1:¬ rb=sb:=by omega
 have nf1:¬ sb=rb:=by omega
 have ne2:¬ rb=ab:=by omega
 have nf2:¬ ab=rb:=by omega
 have ne3:¬ rb=tb:=by omega
 have nf3:¬ tb=rb:=by omega
 have ne4:¬ rb=ib:=by omega
 have nf4:¬ ib=rb:=by omega
 clear ho hib
 go_wp2
 refine wp_loop_rounds 1 ?_
 rw [rounds_succ]
 go_wp2
 go_region_held3 (fun w'=>w'.cell? ⟨kb,0,none⟩=some (.slice a (n*64) c)/\w'.cell? ⟨kb,1,none⟩=some (.slice p0 0 q)/\w'.cell? ⟨kb,2,none⟩=some (.int .i64 (-1))/\w'.cell? ⟨kb,3,none⟩=some (.bool false)/\w'.cell? ⟨sb,1,none⟩=some (.int .i64 0)/\w'.cell? ⟨sb,2,none⟩=some (.int .i64 0)/\w'.cell? ⟨sb,3,none⟩=some (.int .i64 1)/\w'.cell? ⟨ab,2,none⟩=some (.int .i64 1)/\w'.cell? ⟨ab,3,none⟩=some (.int .i64 2)/\w'.cell? ⟨tb,0,none⟩=some (.int .i64 1)/\w'.cell? ⟨tb,1,none⟩=some (.slice none 0 0)/\w'.cell? ⟨ib,0,none⟩=some (.slice (some ⟨gi,0,none⟩) 6 ci)) (go_keep)
  (first
  | (go_at_call 31;refine (HC.out W7.drew H7.out.2.2.2.2.2.2.2.1.drew).mono ?_;rintro e w8 ⟨a2,c2,p2,q2,A2,C2,rfl,ho2,hg2,hx2,hb2,hl2,hm2⟩;obtain ⟨⟨r0,r1,r2,r3,r4,r5,r6,r7,r8,r9,r10,r11⟩,X8,I8,B8⟩:=HK.out w8 hb2;have y0:=X8.cell 0;have y1:=X8.cell 1;have y2:=X8.cell 2;have y3:=X8.cell 3;have y4:=X8.cell 4;have y5:=X8.cell 5;have y6:=X8.cell 6;have y7:=X8.cell 7;have y8:=X8.cell 8;have y9:=X8.cell 9;have y10:=X8.cell 10;have y11:=X8.cell 11;have y12:=X8.cell 12;have y13:=X8.cell 13;have yf:=X8.frozen;have yl:=X8.lt;simp at y0 y1 y2 y3 y4 y5 y6 y7 y8 y9 y10 y11 y12 y13)
  | fail)
 have HB:Hid (Bx (setN rb [.int .i64 1,.int .i64 0,.slice a2 (n*64) c2,.slice p2 0 q2,.int .i64 (-1),.bool false,.int .i64 0,.int .i64 0,.int .i64 1,.int .i64 2,.int .i64 1,.int .i64 1,.slice none 0 0,.slice (some ⟨gi,0,none⟩) 6 ci] 0 w8) rb 37 (setA [.int .i64 1,.int .i64 0,.slice a2 (n*64) c2,.slice p2 0 q2,.int .i64 (-1),.bool false,.int .i64 0,.int .i64 0,.int .i64 1,.int .i64 2,.int .i64 1,.int .i64 1,.slice none 0 0,.slice (some ⟨gi,0,none⟩) 6 ci] 0 #[.int .i64 0,.int .i64 0,.slice none 0 0,.slice none 0 0,.int .i64 0,.bool false,.int .i64 0,.int .i64 0,.int .i64 0,.int .i64 0,.int .i64 0,.int .i64 0,.slice none 0 0,.slice none 0 0])/\OwnB (setN rb [.int .i64 1,.int .i64 0,.slice a2 (n*64) c2,.slice p2 0 q2,.int .i64 (-1),.bool false,.int .i64 0,.int .i64 0,.int .i64 1,.int .i64 2,.int .i64 1,.int .i64 1,.slice none 0 0,.slice (some ⟨gi,0,none⟩) 6 ci] 0 w8) w.heap.size a2 (n*64) dk2/\IxOk (setN rb [.int .i64 1,.int .i64 0,.slice a2 (n*64) c2,.slice p2 0 q2,.int .i64 (-1),.bool false,.int .i64 0,.int .i64 0,.int .i64 1,.int .i64 2,.int .i64 1,.int .i64 1,.slice none 0 0,.slice (some ⟨gi,0,none⟩) 6 ci] 0 w8) w.heap.size gi G C Aa/\Below w.heap.size w (setN rb [.int .i64 1,.int .i64 0,.slice a2 (n*64) c2,.slice p2 0 q2,.int .i64 (-1),.bool false,.int .i64 0,.int .i64 0,.int .i64 1,.int .i64 2,.int .i64 1,.int .i64 1,.slice none 0 0,.slice (some ⟨gi,0,none⟩) 6 ci] 0 w8)):=by
  have hq:=H7.out.2.2.2.2.2.2.2.2
  have hrl:rb<W7.drew.heap.size:=H7.out.2.2.2.2.2.1.lt
  have q1:OwnB w8 (rb+1) a2 (n*64) dk2:=ho2.mono hrl
  exact ⟨Bx.setN X8,(OwnB.setN (by omega) q1).mono (by omega),(IxOk.setN (by omega) I8).mono (by omega),below_setN (by omega) B8⟩
 clear u0 u1 u2 u3 u4 u5 u6 u7 u8 u9 u10 u11 r0 r1 r2 r3 r4 r5 r6 r7 r8 r9 r10 r11 y0 y1 y2 y3 y4 y5 y6 y7 y8 y9 y10 y11 y12 y13 yf yl ho2 hg2 hx2 hb2 X8 I8 B8 HC HK H7 hl2 hm2 b1
 obtain ⟨W9,hW9⟩:∃W,W=setN rb [.int .i64 1,.int .i64 0,.slice a2 (n*64) c2,.slice p2 0 q2,.int .i64 (-1),.bool false,.int .i64 0,.int .i64 0,.int .i64 1,.int .i64 2,.int .i64 1,.int .i64 1,.slice none 0 0,.slice (some ⟨gi,0,none⟩) 6 ci] 0 w8:=⟨_,rfl⟩
 rw [<- hW9] at HB
 have eW:((((((((((((((w8.setCell ⟨rb,0,none⟩ (.int .i64 1)).setCell ⟨rb,1,none⟩ (.int .i64 0)).setCell ⟨rb,2,none⟩ (.slice a2 (n*64) c2)).setCell ⟨rb,3,none⟩ (.slice p2 0 q2)).setCell ⟨rb,4,none⟩ (.int .i64 (-1))).setCell ⟨rb,5,none⟩ (.bool false)).setCell ⟨rb,6,none⟩ (.int .i64 0)).setCell ⟨rb,7,none⟩ (.int .i64 0)).setCell ⟨rb,8,none⟩ (.int .i64 1)).setCell ⟨rb,9,none⟩ (.int .i64 2)).setCell ⟨rb,10,none⟩ (.int .i64 1)).setCell ⟨rb,11,none⟩ (.int .i64 1)).setCell ⟨rb,12,none⟩ (.slice none 0 0)).setCell ⟨rb,13,none⟩ (.slice (some ⟨gi,0,none⟩) 6 ci))=W9:=hW9.symm
 rw [eW]
 clear eW hW9
 have eA:setA [.int .i64 1,.int .i64 0,.slice a2 (n*64) c2,.slice p2 0 q2,.int .i64 (-1),.bool false,.int .i64 0,.int .i64 0,.int .i64 1,.int .i64 2,.int .i64 1,.int .i64 1,.slice none 0 0,.slice (some ⟨gi,0,none⟩) 6 ci] 0 #[.int .i64 0,.int .i64 0,.slice none 0 0,.slice none 0 0,.int .i64 0,.bool false,.int .i64 0,.int .i64 0,.int .i64 0,.int .i64 0,.int .i64 0,.int .i64 0,.slice none 0 0,.slice none 0 0]=#[.int .i64 1,.int .i64 0,.slice a2 (n*64) c2,.slice p2 0 q2,.int .i64 (-1),.bool false,.int .i64 0,.int .i64 0,.int .i64 1,.int .i64 2,.int .i64 1,.int .i64 1,.slice none 0 0,.slice (some ⟨gi,0,none⟩) 6 ci]:=by simp only [setA,List.setIfInBounds_toArray,List.set_cons_zero,List.set_cons_succ]
 rw [eA] at HB
 clear eA
 go_wp2
 refine bodyPost_ret (v:=.agg #[.int .i64 1,.int .i64 0,.slice a2 (n*64) c2,.slice p2 0 q2,.int .i64 (-1),.bool false,.int .i64 0,.int .i64 0,.int .i64 1,.int .i64 2,.int .i64 1,.int .i64 1,.slice none 0 0,.slice (some ⟨gi,0,none⟩) 6 ci]) ?_ rfl ⟨a2,c2,p2,q2,gi,ci,G,C,Aa,rfl,HB.out.2⟩
 have z0:W9.cell? ⟨rb,0,none⟩=some (.int .i64 1):=HB.out.1.cell 0
 have z1:W9.cell? ⟨rb,1,none⟩=some (.int .i64 0):=HB.out.1.cell 1
 have z2:W9.cell? ⟨rb,2,none⟩=some (.slice a2 (n*64) c2):=HB.out.1.cell 2
 have z3:W9.cell? ⟨rb,3,none⟩=some (.slice p2 0 q2):=HB.out.1.cell 3
 have z4:W9.cell? ⟨rb,4,none⟩=some (.int .i64 (-1)):=HB.out.1.cell 4
 have z5:W9.cell? ⟨rb,5,none⟩=some (.bool false):=HB.out.1.cell 5
 have z6:W9.cell? ⟨rb,6,none⟩=some (.int .i64 0):=HB.out.1.cell 6
 have z7:W9.cell? ⟨rb,7,none⟩=some (.int .i64 0):=HB.out.1.cell 7
 have z8:W9.cell? ⟨rb,8,none⟩=some (.int .i64 1):=HB.out.1.cell 8
 have z9:W9.cell? ⟨rb,9,none⟩=some (.int .i64 2):=HB.out.1.cell 9
 have z10:W9.cell? ⟨rb,10,none⟩=some (.int .i64 1):=HB.out.1.cell 10
 have z11:W9.cell? ⟨rb,11,none⟩=some (.int .i64 1):=HB.out.1.cell 11
 have z12:W9.cell? ⟨rb,12,none⟩=some (.slice none 0 0):=HB.out.1.cell 12
 have z13:W9.cell? ⟨rb,13,none⟩=some (.slice (some ⟨gi,0,none⟩) 6 ci):=HB.out.1.cell 13
 simp [results,Tryz.results14,go_sem,z0,z1,z2,z3,z4,z5,z6,z7,z8,z9,z10,z11,z12,z13]
end Go.Proofs.YtbmffmifemebmaaGreatDoor
