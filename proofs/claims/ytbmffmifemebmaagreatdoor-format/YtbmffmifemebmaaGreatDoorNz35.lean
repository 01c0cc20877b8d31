import Derived.Test.YtbmffmifemebmaaGreatDoorNz34
import Derived.LaidEql
set_option linter.unusedVariables false
set_option maxRecDepth 100000
namespace Go.Proofs.YtbmffmifemebmaaGreatDoor
open Go.RowKit Go.Deep Go.MapKept Go.ChangeMaps

theorem cutPay (g c:Nat) (hm:1<=c) (hc:c<=9223372036854775807):∃a',∀w:World,(Instr.sliceAt 77 (.slice (some ⟨g,0,none⟩) 1 c) (some (.int .i64 1)) none none).run Tryz.prog w=.ok (.slice a' 0 (c-1)) w:=by
 by_cases e:c=1
 ·refine ⟨some ⟨g,0,none⟩,fun w=>?_⟩
  subst e
  simp [Instr.sliceAt,Instr.slice,go_sem]
 ·refine ⟨some ⟨g,1,none⟩,fun w=>?_⟩
  simp [Instr.sliceAt,Instr.slice,go_sem,e,Addr.add]

set_option maxHeartbeats 4000000 in
theorem openDisk_e (n c q:Nat) (a p0:Option Addr) (w:World) (h1:16<=n) (h2:n<=1024) (ha:Rd .u8 w a (n*64) dk2) (hc:n*64<=c) (hcm:c<=9223372036854775807) :
  Calls Tryz.prog 62 #[.agg #[.slice a (n*64) c,.slice p0 0 q,.int .i64 (-1),.bool false]] w fun e w'=>(∃lb t m1 m2 x p A,e=.returned (.tuple #[.pointer (some ⟨lb,0,none⟩),.nilIface])/\Bx w' lb 185 #[.pointer (some ⟨t,0,none⟩),.pointer (some ⟨x,0,none⟩),.slice a (n*64) c,.slice p0 0 q,.int .i64 (-1),.bool false,.int .i64 0,.int .i64 0,.int .i64 1,.int .i64 2,.int .i64 1]/\TbE w' t m1 m2/\Six w' 0 x p A 6)/\Below w.heap.size w w':=by
 have HA:Hid (Rd .u8 w a (n*64) dk2):=ha
 have HV:Hid (∀W:World,Calls Tryz.prog 50 #[.agg #[.slice a (n*64) c,.slice p0 0 q,.int .i64 (-1),.bool false]] W fun e w'=>e=.returned (.bool true)/\Below W.heap.size W w'):=fun W=>implVal_e n c q a p0 W h1 h2
 have HS:Hid (∀W:World,Below w.heap.size w W->Calls Tryz.prog 106 #[.agg #[.slice a (n*64) c,.slice p0 0 q,.int .i64 (-1),.bool false]] W fun e w'=>e=.returned (.agg #[.bool true,.int .i64 0,.int .i64 0,.int .i64 1])/\Below W.heap.size W w'):=fun W hW=>implSup_e n c q a p0 W h1 h2 (ha.below hW) hc hcm
 have HR:Hid (∀W:World,Below w.heap.size w W->Calls Tryz.prog 107 #[.agg #[.slice a (n*64) c,.slice p0 0 q,.int .i64 (-1),.bool false],.int .i64 0,.int .i64 1] W (RetAe W)):=fun W hW=>implArea_e n c q a p0 W h1 h2 (ha.below hW) hc hcm
 clear ha hc hcm
 go_enter Tryz.func62,Tryz.ntmps62
 go_wp2_with fail
 refine (HV.out _).mono ?_
 rintro e w1 ⟨rfl,hb1⟩
 have H1:Hid (Bx w1 w.heap.size 25 #[.slice a (n*64) c,.slice p0 0 q,.int .i64 (-1),.bool false]/\Below w.heap.size w w1):=⟨(Bx.new _ _ _).below hb1,(below_alloc _ _).trans (hb1.mono (by simp))⟩
 clear hb1 HV
 have c0:=H1.out.1.cell 0
 have c1:=H1.out.1.cell 1
 have c2:=H1.out.1.cell 2
 have c3:=H1.out.1.cell 3
 simp at c0 c1 c2 c3
 go_wp2_with fail
 refine (HS.out w1 H1.out.2).mono ?_
 rintro e w2 ⟨rfl,hb2⟩
 have H2:Hid (Bx w2 w.heap.size 25 #[.slice a (n*64) c,.slice p0 0 q,.int .i64 (-1),.bool false]/\Below w.heap.size w w2):=⟨H1.out.1.below hb2,H1.out.2.trans (hb2.mono H1.out.2.size)⟩
 clear hb2 H1 HS c0 c1 c2 c3
 go_upto_region 4 with fail
 have S3:Hid (Bx (w2.alloc (.cells #[.bool true,.int .i64 0,.int .i64 0,.int .i64 1] 75)) w.heap.size 25 #[.slice a (n*64) c,.slice p0 0 q,.int .i64 (-1),.bool false]/\Bx (w2.alloc (.cells #[.bool true,.int .i64 0,.int .i64 0,.int .i64 1] 75)) w2.heap.size 75 #[.bool true,.int .i64 0,.int .i64 0,.int .i64 1]/\Below w.heap.size w (w2.alloc (.cells #[.bool true,.int .i64 0,.int .i64 0,.int .i64 1] 75))):=
  ⟨H2.out.1.alloc _,Bx.new _ _ _,H2.out.2.alloc H2.out.2.size _⟩
 clear H2
 generalize (w2.alloc (.cells #[.bool true,.int .i64 0,.int .i64 0,.int .i64 1] 75))=W3 at S3 ⊢
 generalize w2.heap.size=sb at S3 ⊢
 have c0:=S3.out.1.cell 0
 have c1:=S3.out.1.cell 1
 have c2:=S3.out.1.cell 2
 have c3:=S3.out.1.cell 3
 have s0:=S3.out.2.1.cell 0
 have s2:=S3.out.2.1.cell 2
 have s3:=S3.out.2.1.cell 3
 simp at c0 c1 c2 c3 s0 s2 s3
 go_wp2_with fail
 refine (HR.out W3 S3.out.2.2).mono ?_
 rintro e w4 ⟨g,cr,gd,C0,rfl,hcell,hcap,hrd,hb4,hq1,hq2⟩
 have H4:Hid (Bx w4 w.heap.size 25 #[.slice a (n*64) c,.slice p0 0 q,.int .i64 (-1),.bool false]/\Bx w4 sb 75 #[.bool true,.int .i64 0,.int .i64 0,.int .i64 1]/\Below w.heap.size w w4/\w4.cell? ⟨g,0,none⟩=some (.slice (some ⟨gd,0,none⟩) 9 C0)/\(9<=C0/\C0<=9223372036854775807)/\(∀j,j<9->w4.cell? ⟨gd,j,none⟩=some (.int .u8 (pay9 j)))):=⟨S3.out.1.below hb4,S3.out.2.1.below hb4,S3.out.2.2.trans (hb4.mono S3.out.2.2.size),hcell,hcap,hrd⟩
 obtain ⟨a',hsl⟩:=cutPay g cr hq1 hq2
 clear hb4 S3 HR c0 c1 c2 c3 s0 s2 s3 hcell hcap hrd hq1 hq2
 go_upto_region 7 with fail
 have S5:Hid (Bx (w4.alloc (.cells #[.bool true,.slice (some ⟨g,0,none⟩) 1 cr,.int .i64 1,.int .i64 2] 79)) w.heap.size 25 #[.slice a (n*64) c,.slice p0 0 q,.int .i64 (-1),.bool false]/\Bx (w4.alloc (.cells #[.bool true,.slice (some ⟨g,0,none⟩) 1 cr,.int .i64 1,.int .i64 2] 79)) sb 75 #[.bool true,.int .i64 0,.int .i64 0,.int .i64 1]/\Bx (w4.alloc (.cells #[.bool true,.slice (some ⟨g,0,none⟩) 1 cr,.int .i64 1,.int .i64 2] 79)) w4.heap.size 79 #[.bool true,.slice (some ⟨g,0,none⟩) 1 cr,.int .i64 1,.int .i64 2]/\Below w.heap.size w (w4.alloc (.cells #[.bool true,.slice (some ⟨g,0,none⟩) 1 cr,.int .i64 1,.int .i64 2] 79))/\(w4.alloc (.cells #[.bool true,.slice (some ⟨g,0,none⟩) 1 cr,.int .i64 1,.int .i64 2] 79)).cell? ⟨g,0,none⟩=some (.slice (some ⟨gd,0,none⟩) 9 C0)/\(9<=C0/\C0<=9223372036854775807)/\(∀j,j<9->(w4.alloc (.cells #[.bool true,.slice (some ⟨g,0,none⟩) 1 cr,.int .i64 1,.int .i64 2] 79)).cell? ⟨gd,j,none⟩=some (.int .u8 (pay9 j)))):=
  ⟨H4.out.1.alloc _,H4.out.2.1.alloc _,Bx.new _ _ _,H4.out.2.2.1.alloc H4.out.2.2.1.size _,((below_alloc _ _).cell (p:=⟨g,0,none⟩) (World.block_lt_of_cell? _ _ H4.out.2.2.2.1)).trans H4.out.2.2.2.1,H4.out.2.2.2.2.1,fun j hj=>((below_alloc _ _).cell (p:=⟨gd,j,none⟩) (World.block_lt_of_cell? _ _ (H4.out.2.2.2.2.2 j hj))).trans (H4.out.2.2.2.2.2 j hj)⟩
 clear H4
 generalize (w4.alloc (.cells #[.bool true,.slice (some ⟨g,0,none⟩) 1 cr,.int .i64 1,.int .i64 2] 79))=W5 at S5 ⊢
 generalize w4.heap.size=ab at S5 ⊢
 have b0:=S5.out.2.2.1.cell 0
 have b1:=S5.out.2.2.1.cell 1
 have bg:=S5.out.2.2.2.2.1
 simp at b0 b1
 go_wp2_with fail
 refine (readSnapshot_e gd C0 W5 S5.out.2.2.2.2.2.1 S5.out.2.2.2.2.2.2).mono ?_
 rintro e w6 ⟨⟨wb,t,m1,m2,x,p,A,rfl,hwd⟩,hb6⟩
 have H6:Hid (Bx w6 w.heap.size 25 #[.slice a (n*64) c,.slice p0 0 q,.int .i64 (-1),.bool false]/\Bx w6 sb 75 #[.bool true,.int .i64 0,.int .i64 0,.int .i64 1]/\Bx w6 ab 79 #[.bool true,.slice (some ⟨g,0,none⟩) 1 cr,.int .i64 1,.int .i64 2]/\Below w.heap.size w w6/\WdE w6 wb t m1 m2 x p A):=⟨S5.out.1.below hb6,S5.out.2.1.below hb6,S5.out.2.2.1.below hb6,S5.out.2.2.2.1.trans (hb6.mono S5.out.2.2.2.1.size),hwd⟩
 clear hwd hb6 S5 b0 b1 bg
 have c0:=H6.out.1.cell 0
 have c1:=H6.out.1.cell 1
 have c2:=H6.out.1.cell 2
 have c3:=H6.out.1.cell 3
 have s1:=H6.out.2.1.cell 1
 have s2:=H6.out.2.1.cell 2
 have s3:=H6.out.2.1.cell 3
 have b1:=H6.out.2.2.1.cell 1
 have b2:=H6.out.2.2.1.cell 2
 have b3:=H6.out.2.2.1.cell 3
 have v0:=H6.out.2.2.2.2.bx.cell 0
 have v1:=H6.out.2.2.2.2.bx.cell 1
 simp at c0 c1 c2 c3 s1 s2 s3 b1 b2 b3 v0 v1
 go_wp2
 refine wp_loop_rounds 1 ?_
 rw [rounds_succ]
 go_wp2
 go_region_held3 (fun w'=>w'.cell? ⟨w.heap.size,0,none⟩=some (.slice a (n*64) c)/\w'.cell? ⟨w.heap.size,1,none⟩=some (.slice p0 0 q)/\w'.cell? ⟨w.heap.size,2,none⟩=some (.int .i64 (-1))/\w'.cell? ⟨w.heap.size,3,none⟩=some (.bool false)/\w'.cell? ⟨sb,1,none⟩=some (.int .i64 0)/\w'.cell? ⟨sb,2,none⟩=some (.int .i64 0)/\w'.cell? ⟨sb,3,none⟩=some (.int .i64 1)/\w'.cell? ⟨ab,2,none⟩=some (.int .i64 1)/\w'.cell? ⟨ab,3,none⟩=some (.int .i64 2)/\w'.cell? ⟨wb,0,none⟩=some (.pointer (some ⟨t,0,none⟩))/\w'.cell? ⟨wb,1,none⟩=some (.pointer (some ⟨x,0,none⟩))) (go_keep) (fail)
 go_wp2
 exact bodyPost_ret (v:=.tuple #[.pointer (some ⟨w6.heap.size,0,none⟩),.nilIface]) (by simp [results,Tryz.results62,go_sem]) rfl ⟨⟨_,t,m1,m2,x,p,A,rfl,(Bx.new w6 _ _).drew,(H6.out.2.2.2.2.tb.below (below_alloc _ _)).below (Below.refl _ _).drew,(H6.out.2.2.2.2.sx.below (below_alloc _ _)).below (Below.refl _ _).drew⟩,(H6.out.2.2.2.1.alloc H6.out.2.2.2.1.size _).drew⟩
end Go.Proofs.YtbmffmifemebmaaGreatDoor
namespace Go.Proofs.YtbmffmifemebmaaGreatDoor
open Go.RowKit Go.Deep

theorem errIs_e (x:Addr) (w:World) :
  Calls Tryz.prog 63 #[.nilIface,.iface 397 (.pointer (some x))] w fun e w'=>e=.returned (.bool false)/\w'=w:=by
 have hn:=run_eql_iface_nil_left (P:=Tryz.prog) w 397 (.pointer (some x)) Tryz.underlying105
 go_enter Tryz.func63,Tryz.ntmps63
 go_wp2
 go_ret
 exact ⟨rfl,rfl⟩

set_option maxHeartbeats 8000000 in
theorem implOpen_e (n c q:Nat) (a p0:Option Addr) (x:Addr) (w:World) (h1:16<=n) (h2:n<=1024) (ha:Rd .u8 w a (n*64) dk2) (hc:n*64<=c) (hcm:c<=9223372036854775807) (hg:w.cell? ⟨0,0,none⟩=some (.iface 397 (.pointer (some x)))) :
  Calls Tryz.prog 22 #[.agg #[.slice a (n*64) c,.slice p0 0 q,.int .i64 (-1),.bool false]] w (RetSr w w.heap.size (n*64) dk2):=by
 have HH:Hid (Rd .u8 w a (n*64) dk2/\n*64<=c/\c<=9223372036854775807/\w.cell? ⟨0,0,none⟩=some (.iface 397 (.pointer (some x)))):=⟨ha,hc,hcm,hg⟩
 clear ha hc hcm hg
 go_enter Tryz.func22,Tryz.ntmps22
 go_wp2_with fail
 refine (openDisk_e n c q a p0 _ h1 h2 (HH.out.1.below ((below_alloc _ _).alloc (by simp) _)) HH.out.2.1 HH.out.2.2.1).mono ?_
 rintro e w1 ⟨⟨lb,t,m1,m2,xx,p,A,rfl,hlv,htb,hsx⟩,hb1⟩
 obtain ⟨rb,hrb⟩:∃y,y=w.heap.size+1:=⟨_,rfl⟩
 have H1:Hid (Bx w1 rb 37 #[.int .i64 0,.int .i64 0,.slice none 0 0,.slice none 0 0,.int .i64 0,.bool false,.int .i64 0,.int .i64 0,.int .i64 0,.int .i64 0,.int .i64 0,.int .i64 0,.slice none 0 0,.slice none 0 0]/\Bx w1 lb 185 #[.pointer (some ⟨t,0,none⟩),.pointer (some ⟨xx,0,none⟩),.slice a (n*64) c,.slice p0 0 q,.int .i64 (-1),.bool false,.int .i64 0,.int .i64 0,.int .i64 1,.int .i64 2,.int .i64 1]/\TbE w1 t m1 m2/\Six w1 0 xx p A 6/\Rd .u8 w1 a (n*64) dk2/\Below w.heap.size w w1/\w.heap.size<rb):=by
  have b1:=Bx.new (w.alloc (.cells #[.slice a (n*64) c,.slice p0 0 q,.int .i64 (-1),.bool false] 25)) #[.int .i64 0,.int .i64 0,.slice none 0 0,.slice none 0 0,.int .i64 0,.bool false,.int .i64 0,.int .i64 0,.int .i64 0,.int .i64 0,.int .i64 0,.int .i64 0,.slice none 0 0,.slice none 0 0] 37
  simp only [World.size_alloc] at b1
  rw [<- hrb] at b1
  have hb:Below w.heap.size w w1:=((below_alloc _ _).alloc (by simp) _).trans (hb1.mono (by simp;omega))
  exact ⟨b1.below hb1,hlv,htb,hsx,HH.out.1.below hb,hb,by omega⟩
 rw [<- hrb]
 have hgl:w1.cell? ⟨0,0,none⟩=some (.iface 397 (.pointer (some x))):=(H1.out.2.2.2.2.2.1.cell (p:=⟨0,0,none⟩) (World.block_lt_of_cell? _ _ HH.out.2.2.2)).trans HH.out.2.2.2
 clear hb1 hlv htb hsx HH hrb
 go_wp2_with fail
 refine (errIs_e x w1).mono ?_
 rintro e w2 ⟨rfl,rfl⟩
 clear hgl
 go_wp2_with fail
 refine (tellSt_e lb t m1 m2 xx (n*64) c q a p0 dk2 p A _ H1.out.2.1 H1.out.2.2.1 H1.out.2.2.2.1 H1.out.2.2.2.2.1 (by omega)).mono ?_
 rintro e w3 ⟨a2,c2,p2,q2,gi,ci,G,C,Aa,rfl,ho3,hi3,hb3⟩
 have HB:Hid (Bx (setN rb [.int .i64 1,.int .i64 0,.slice a2 (n*64) c2,.slice p2 0 q2,.int .i64 (-1),.bool false,.int .i64 0,.int .i64 0,.int .i64 1,.int .i64 2,.int .i64 1,.int .i64 1,.slice none 0 0,.slice (some ⟨gi,0,none⟩) 6 ci] 0 w3) rb 37 (setA [.int .i64 1,.int .i64 0,.slice a2 (n*64) c2,.slice p2 0 q2,.int .i64 (-1),.bool false,.int .i64 0,.int .i64 0,.int .i64 1,.int .i64 2,.int .i64 1,.int .i64 1,.slice none 0 0,.slice (some ⟨gi,0,none⟩) 6 ci] 0 #[.int .i64 0,.int .i64 0,.slice none 0 0,.slice none 0 0,.int .i64 0,.bool false,.int .i64 0,.int .i64 0,.int .i64 0,.int .i64 0,.int .i64 0,.int .i64 0,.slice none 0 0,.slice none 0 0])/\OwnB (setN rb [.int .i64 1,.int .i64 0,.slice a2 (n*64) c2,.slice p2 0 q2,.int .i64 (-1),.bool false,.int .i64 0,.int .i64 0,.int .i64 1,.int .i64 2,.int .i64 1,.int .i64 1,.slice none 0 0,.slice (some ⟨gi,0,none⟩) 6 ci] 0 w3) w.heap.size a2 (n*64) dk2/\IxOk (setN rb [.int .i64 1,.int .i64 0,.slice a2 (n*64) c2,.slice p2 0 q2,.int .i64 (-1),.bool false,.int .i64 0,.int .i64 0,.int .i64 1,.int .i64 2,.int .i64 1,.int .i64 1,.slice none 0 0,.slice (some ⟨gi,0,none⟩) 6 ci] 0 w3) w.heap.size gi G C Aa/\Below w.heap.size w (setN rb [.int .i64 1,.int .i64 0,.slice a2 (n*64) c2,.slice p2 0 q2,.int .i64 (-1),.bool false,.int .i64 0,.int .i64 0,.int .i64 1,.int .i64 2,.int .i64 1,.int .i64 1,.slice none 0 0,.slice (some ⟨gi,0,none⟩) 6 ci] 0 w3)):=by
  have hrl:=H1.out.1.lt
  have hq:=H1.out.2.2.2.2.2.2
  have hbb:=H1.out.2.2.2.2.2.1
  exact ⟨Bx.setN (H1.out.1.below hb3),(OwnB.setN hrl ho3).mono (by omega),(IxOk.setN hrl hi3).mono (by omega),below_setN (by omega) (hbb.trans (hb3.mono hbb.size))⟩
 have X3:=H1.out.1.below hb3
 have y0:=X3.cell 0
 have y1:=X3.cell 1
 have y2:=X3.cell 2
 have y3:=X3.cell 3
 have y4:=X3.cell 4
 have y5:=X3.cell 5
 have y6:=X3.cell 6
 have y7:=X3.cell 7
 have y8:=X3.cell 8
 have y9:=X3.cell 9
 have y10:=X3.cell 10
 have y11:=X3.cell 11
 have y12:=X3.cell 12
 have y13:=X3.cell 13
 have yf:=X3.frozen
 have yl:=X3.lt
 simp at y0 y1 y2 y3 y4 y5 y6 y7 y8 y9 y10 y11 y12 y13
 clear ho3 hi3 hb3 H1 X3
 go_wp2_with fail
 clear y0 y1 y2 y3 y4 y5 y6 y7 y8 y9 y10 y11 y12 y13 yf yl
 obtain ⟨W9,hW9⟩:∃W,W=setN rb [.int .i64 1,.int .i64 0,.slice a2 (n*64) c2,.slice p2 0 q2,.int .i64 (-1),.bool false,.int .i64 0,.int .i64 0,.int .i64 1,.int .i64 2,.int .i64 1,.int .i64 1,.slice none 0 0,.slice (some ⟨gi,0,none⟩) 6 ci] 0 w3:=⟨_,rfl⟩
 rw [<- hW9] at HB
 have eW:((((((((((((((w3.setCell ⟨rb,0,none⟩ (.int .i64 1)).setCell ⟨rb,1,none⟩ (.int .i64 0)).setCell ⟨rb,2,none⟩ (.slice a2 (n*64) c2)).setCell ⟨rb,3,none⟩ (.slice p2 0 q2)).setCell ⟨rb,4,none⟩ (.int .i64 (-1))).setCell ⟨rb,5,none⟩ (.bool false)).setCell ⟨rb,6,none⟩ (.int .i64 0)).setCell ⟨rb,7,none⟩ (.int .i64 0)).setCell ⟨rb,8,none⟩ (.int .i64 1)).setCell ⟨rb,9,none⟩ (.int .i64 2)).setCell ⟨rb,10,none⟩ (.int .i64 1)).setCell ⟨rb,11,none⟩ (.int .i64 1)).setCell ⟨rb,12,none⟩ (.slice none 0 0)).setCell ⟨rb,13,none⟩ (.slice (some ⟨gi,0,none⟩) 6 ci))=W9:=hW9.symm
 rw [eW]
 clear eW hW9
 have eA:setA [.int .i64 1,.int .i64 0,.slice a2 (n*64) c2,.slice p2 0 q2,.int .i64 (-1),.bool false,.int .i64 0,.int .i64 0,.int .i64 1,.int .i64 2,.int .i64 1,.int .i64 1,.slice none 0 0,.slice (some ⟨gi,0,none⟩) 6 ci] 0 #[.int .i64 0,.int .i64 0,.slice none 0 0,.slice none 0 0,.int .i64 0,.bool false,.int .i64 0,.int .i64 0,.int .i64 0,.int .i64 0,.int .i64 0,.int .i64 0,.slice none 0 0,.slice none 0 0]=#[.int .i64 1,.int .i64 0,.slice a2 (n*64) c2,.slice p2 0 q2,.int .i64 (-1),.bool false,.int .i64 0,.int .i64 0,.int .i64 1,.int .i64 2,.int .i64 1,.int .i64 1,.slice none 0 0,.slice (some ⟨gi,0,none⟩) 6 ci]:=by simp only [setA,List.setIfInBounds_toArray,List.set_cons_zero,List.set_cons_succ]
 rw [eA] at HB
 clear eA
 go_wp2
 refine bodyPost_ret (v:=.agg #[.int .i64 1,.int .i64 0,.slice a2 (n*64) c2,.slice p2 0 q2,.int .i64 (-1),.bool false,.int .i64 0,.int .i64 0,.int .i64 1,.int .i64 2,.int .i64 1,.int .i64 1,.slice none 0 0,.slice (some ⟨gi,0,none⟩) 6 ci]) ?_ rfl ⟨a2,c2,p2,q2,gi,ci,G,C,Aa,rfl,HB.out.2⟩
 have z0:W9.cell? ⟨rb,0,none⟩=some (.int .i64 1):=HB.out.1.cell 0
 have z1:W9.cell? ⟨rb,1,none⟩=some (.int .i64 0):=HB.out.1.cell 1
 have z2:W9.cell? ⟨rb,2,none⟩=some (.slice a2 (n*64) c2):=HB.out.1.cell 2
 have z3:W9.cell? ⟨rb,3,none⟩=some (.slice p2 0 q2):=HB.out.1.cell 3
 have z4:W9.cell? ⟨rb,4,none⟩=some (.int .i64 (-1)):=HB.out.1.cell 4
 have z5:W9.cell? ⟨rb,5,none⟩=some (.bool false):=HB.out.1.cell 5
 have z6:W9.cell? ⟨rb,6,none⟩=some (.int .i64 0):=HB.out.1.cell 6
 have z7:W9.cell? ⟨rb,7,none⟩=some (.int .i64 0):=HB.out.1.cell 7
 have z8:W9.cell? ⟨rb,8,none⟩=some (.int .i64 1):=HB.out.1.cell 8
 have z9:W9.cell? ⟨rb,9,none⟩=some (.int .i64 2):=HB.out.1.cell 9
 have z10:W9.cell? ⟨rb,10,none⟩=some (.int .i64 1):=HB.out.1.cell 10
 have z11:W9.cell? ⟨rb,11,none⟩=some (.int .i64 1):=HB.out.1.cell 11
 have z12:W9.cell? ⟨rb,12,none⟩=some (.slice none 0 0):=HB.out.1.cell 12
 have z13:W9.cell? ⟨rb,13,none⟩=some (.slice (some ⟨gi,0,none⟩) 6 ci):=HB.out.1.cell 13
 simp [results,Tryz.results22,go_sem,z0,z1,z2,z3,z4,z5,z6,z7,z8,z9,z10,z11,z12,z13]
end Go.Proofs.YtbmffmifemebmaaGreatDoor
