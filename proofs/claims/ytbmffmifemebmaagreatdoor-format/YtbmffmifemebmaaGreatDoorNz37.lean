import Derived.Test.YtbmffmifemebmaaGreatDoorNz36
set_option linter.unusedVariables false
set_option maxRecDepth 100000
namespace Go.Proofs.YtbmffmifemebmaaGreatDoor
open Go.RowKit Go.Deep

set_option maxHeartbeats 1000000 in
theorem specFmt_bad (x:Int) (w:World) (h:x<16\/1024<x) :
  Calls Tryz.prog 4 #[.int .i64 x] w fun e w'=>e=.returned (.agg #[.int .i64 10,.int .i64 0,.slice none 0 0,.slice none 0 0,.int .i64 0,.bool false,.int .i64 0,.int .i64 0,.int .i64 0,.int .i64 0,.int .i64 0,.int .i64 0,.slice none 0 0,.slice none 0 0])/\Below w.heap.size w w':=by
 rcases h with h|h
 ·go_enter Tryz.func4,Tryz.ntmps4
  go_wp2
  exact bodyPost_ret (v:=.agg #[.int .i64 10,.int .i64 0,.slice none 0 0,.slice none 0 0,.int .i64 0,.bool false,.int .i64 0,.int .i64 0,.int .i64 0,.int .i64 0,.int .i64 0,.int .i64 0,.slice none 0 0,.slice none 0 0]) (by simp [results,Tryz.results4,go_sem]) rfl ⟨rfl,(Below.refl _ _).alloc (Nat.le_refl _) _⟩
 ·have h' : ¬ x<16:=by omega
  go_enter Tryz.func4,Tryz.ntmps4
  go_wp2
  exact bodyPost_ret (v:=.agg #[.int .i64 10,.int .i64 0,.slice none 0 0,.slice none 0 0,.int .i64 0,.bool false,.int .i64 0,.int .i64 0,.int .i64 0,.int .i64 0,.int .i64 0,.int .i64 0,.slice none 0 0,.slice none 0 0]) (by simp [results,Tryz.results4,go_sem]) rfl ⟨rfl,(Below.refl _ _).alloc (Nat.le_refl _) _⟩

set_option maxHeartbeats 1000000 in
theorem implFmt_bad (x:Int) (w:World) (h:x<16\/1024<x) :
  Calls Tryz.prog 5 #[.int .i64 x] w fun e w'=>e=.returned (.agg #[.int .i64 10,.int .i64 0,.slice none 0 0,.slice none 0 0,.int .i64 0,.bool false,.int .i64 0,.int .i64 0,.int .i64 0,.int .i64 0,.int .i64 0,.int .i64 0,.slice none 0 0,.slice none 0 0])/\Below w.heap.size w w':=by
 rcases h with h|h
 ·go_enter Tryz.func5,Tryz.ntmps5
  go_wp2
  exact bodyPost_ret (v:=.agg #[.int .i64 10,.int .i64 0,.slice none 0 0,.slice none 0 0,.int .i64 0,.bool false,.int .i64 0,.int .i64 0,.int .i64 0,.int .i64 0,.int .i64 0,.int .i64 0,.slice none 0 0,.slice none 0 0]) (by simp [results,Tryz.results5,go_sem]) rfl ⟨rfl,(Below.refl _ _).alloc (Nat.le_refl _) _⟩
 ·have h' : ¬ x<16:=by omega
  go_enter Tryz.func5,Tryz.ntmps5
  go_wp2
  exact bodyPost_ret (v:=.agg #[.int .i64 10,.int .i64 0,.slice none 0 0,.slice none 0 0,.int .i64 0,.bool false,.int .i64 0,.int .i64 0,.int .i64 0,.int .i64 0,.int .i64 0,.int .i64 0,.slice none 0 0,.slice none 0 0]) (by simp [results,Tryz.results5,go_sem]) rfl ⟨rfl,(Below.refl _ _).alloc (Nat.le_refl _) _⟩

set_option maxHeartbeats 8000000 in
theorem specFmt_e (n:Nat) (w:World) (h1:16<=n) (h2:n<=1024) :
  Calls Tryz.prog 4 #[.int .i64 n] w (RetSr w w.heap.size (n*64) dk2):=by
 have hlo:¬ (n:Int)<16:=by omega
 have hhi:¬ (1024:Int)<(n:Int):=by omega
 go_enter Tryz.func4,Tryz.ntmps4
 go_wp2_with fail
 obtain ⟨rb,hrb⟩:∃y,y=w.heap.size:=⟨_,rfl⟩
 refine (specNew_g n _ h1 h2).mono ?_
 rintro e w1 ⟨a,c,rfl,ho1,hb1⟩
 have H1:Hid (Bx w1 rb 37 #[.int .i64 0,.int .i64 0,.slice none 0 0,.slice none 0 0,.int .i64 0,.bool false,.int .i64 0,.int .i64 0,.int .i64 0,.int .i64 0,.int .i64 0,.int .i64 0,.slice none 0 0,.slice none 0 0]/\Below w.heap.size w w1/\rb=w.heap.size/\Rd .u8 w1 a (n*64) (fun _=>0)):=by
  rw [hrb]
  exact ⟨(Bx.new _ _ _).below hb1,(below_alloc _ _).trans (hb1.mono (by simp)),rfl,ho1.rd⟩
 rw [<- hrb]
 clear ho1 hb1 hrb hlo hhi
 go_wp2_with fail
 refine (specDict_e _).mono ?_
 rintro e w2 ⟨rfl,hb2⟩
 have H2:Hid (Bx w2 rb 37 #[.int .i64 0,.int .i64 0,.slice none 0 0,.slice none 0 0,.int .i64 0,.bool false,.int .i64 0,.int .i64 0,.int .i64 0,.int .i64 0,.int .i64 0,.int .i64 0,.slice none 0 0,.slice none 0 0]/\Below w.heap.size w w2/\rb=w.heap.size/\Rd .u8 w2 a (n*64) (fun _=>0)):=
  ⟨H1.out.1.below hb2,H1.out.2.1.trans (hb2.mono H1.out.2.1.size),H1.out.2.2.1,H1.out.2.2.2.below hb2⟩
 clear hb2 H1
 go_wp2_with fail
 refine (specIx _).mono ?_
 rintro e w3 ⟨gx,cx,Gx,Cx,Ax,rfl,hx3,hb3⟩
 have H3:Hid (Bx w3 rb 37 #[.int .i64 0,.int .i64 0,.slice none 0 0,.slice none 0 0,.int .i64 0,.bool false,.int .i64 0,.int .i64 0,.int .i64 0,.int .i64 0,.int .i64 0,.int .i64 0,.slice none 0 0,.slice none 0 0]/\Below w.heap.size w w3/\rb=w.heap.size/\Rd .u8 w3 a (n*64) (fun _=>0)):=
  ⟨H2.out.1.below hb3,H2.out.2.1.trans (hb3.mono H2.out.2.1.size),H2.out.2.2.1,H2.out.2.2.2.below hb3⟩
 have HX:Hid (IxOk w3 w2.heap.size gx Gx Cx Ax):=hx3
 clear hb3 H2 hx3
 go_wp2_with fail
 refine (l7Snap_e gx cx _ Gx Cx Ax _ HX.out).mono ?_
 rintro e w4 ⟨ad,cp,rfl,ho4,hb4,hc4,hm4⟩
 have H4:Hid (Bx w4 rb 37 #[.int .i64 0,.int .i64 0,.slice none 0 0,.slice none 0 0,.int .i64 0,.bool false,.int .i64 0,.int .i64 0,.int .i64 0,.int .i64 0,.int .i64 0,.int .i64 0,.slice none 0 0,.slice none 0 0]/\Below w.heap.size w w4/\rb=w.heap.size/\Rd .u8 w4 a (n*64) (fun _=>0)/\Rd .u8 w4 ad 9 pay9/\9<=cp/\cp<=9223372036854775807):=
  ⟨H3.out.1.below hb4,H3.out.2.1.trans (hb4.mono H3.out.2.1.size),H3.out.2.2.1,H3.out.2.2.2.below hb4,ho4.rd,hc4,hm4⟩
 clear hb4 H3 ho4 hc4 hm4 HX
 go_wp2_with fail
 refine (specRec_e n c 0 cp a none ad _ h1 h2 H4.out.2.2.2.1 H4.out.2.2.2.2.1 H4.out.2.2.2.2.2.1 H4.out.2.2.2.2.2.2).mono ?_
 rintro e w5 ⟨a5,c5,p5,q5,A5,rfl,ho5,hb5⟩
 have H5:Hid (Bx (w5.alloc (.cells #[.slice a5 (n*64) c5,.slice p5 0 q5,.int .i64 (-1),.bool false] 25)) rb 37 #[.int .i64 0,.int .i64 0,.slice none 0 0,.slice none 0 0,.int .i64 0,.bool false,.int .i64 0,.int .i64 0,.int .i64 0,.int .i64 0,.int .i64 0,.int .i64 0,.slice none 0 0,.slice none 0 0]/\Below w.heap.size w (w5.alloc (.cells #[.slice a5 (n*64) c5,.slice p5 0 q5,.int .i64 (-1),.bool false] 25))/\rb=w.heap.size/\Rd .u8 (w5.alloc (.cells #[.slice a5 (n*64) c5,.slice p5 0 q5,.int .i64 (-1),.bool false] 25)) a5 (n*64) dk1):=by
  have hb:Below w.heap.size w w5:=H4.out.2.1.trans (hb5.mono H4.out.2.1.size)
  exact ⟨(H4.out.1.below hb5).alloc _,hb.alloc hb.size _,H4.out.2.2.1,ho5.1.rd.below (below_alloc _ _)⟩
 clear hb5 H4 ho5
 go_wp2_with fail
 refine (specSupW_e n c5 q5 a5 p5 _ h1 h2 H5.out.2.2.2).mono ?_
 rintro e w6 ⟨a6,c6,p6,q6,A6,rfl,ho6,hb6,hc6,hm6⟩
 have H6:Hid (Bx w6 rb 37 #[.int .i64 0,.int .i64 0,.slice none 0 0,.slice none 0 0,.int .i64 0,.bool false,.int .i64 0,.int .i64 0,.int .i64 0,.int .i64 0,.int .i64 0,.int .i64 0,.slice none 0 0,.slice none 0 0]/\Below w.heap.size w w6/\rb=w.heap.size/\Rd .u8 w6 a6 (n*64) dk2/\n*64<=c6/\c6<=9223372036854775807):=
  ⟨H5.out.1.below hb6,H5.out.2.1.trans (hb6.mono H5.out.2.1.size),H5.out.2.2.1,ho6.1.rd,hc6,hm6⟩
 clear hb6 H5 ho6 hc6 hm6
 go_wp2_with fail
 refine (specOpen_e n c6 q6 a6 p6 _ h1 h2 H6.out.2.2.2.1 H6.out.2.2.2.2.1 H6.out.2.2.2.2.2).mono ?_
 rintro e w9 ⟨a2,c2,p2,q2,gi,ci,G,C,Aa,rfl,ho9,hi9,hb9⟩
 have HE:Hid (Bx w6 rb 37 #[.int .i64 0,.int .i64 0,.slice none 0 0,.slice none 0 0,.int .i64 0,.bool false,.int .i64 0,.int .i64 0,.int .i64 0,.int .i64 0,.int .i64 0,.int .i64 0,.slice none 0 0,.slice none 0 0]/\Below w.heap.size w w6/\rb=w.heap.size):=⟨H6.out.1,H6.out.2.1,H6.out.2.2.1⟩
 clear H6
 have HB:Hid (Bx (setN rb [.int .i64 1,.int .i64 0,.slice a2 (n*64) c2,.slice p2 0 q2,.int .i64 (-1),.bool false,.int .i64 0,.int .i64 0,.int .i64 1,.int .i64 2,.int .i64 1,.int .i64 1,.slice none 0 0,.slice (some ⟨gi,0,none⟩) 6 ci] 0 w9) rb 37 (setA [.int .i64 1,.int .i64 0,.slice a2 (n*64) c2,.slice p2 0 q2,.int .i64 (-1),.bool false,.int .i64 0,.int .i64 0,.int .i64 1,.int .i64 2,.int .i64 1,.int .i64 1,.slice none 0 0,.slice (some ⟨gi,0,none⟩) 6 ci] 0 #[.int .i64 0,.int .i64 0,.slice none 0 0,.slice none 0 0,.int .i64 0,.bool false,.int .i64 0,.int .i64 0,.int .i64 0,.int .i64 0,.int .i64 0,.int .i64 0,.slice none 0 0,.slice none 0 0])/\OwnB (setN rb [.int .i64 1,.int .i64 0,.slice a2 (n*64) c2,.slice p2 0 q2,.int .i64 (-1),.bool false,.int .i64 0,.int .i64 0,.int .i64 1,.int .i64 2,.int .i64 1,.int .i64 1,.slice none 0 0,.slice (some ⟨gi,0,none⟩) 6 ci] 0 w9) w.heap.size a2 (n*64) dk2/\IxOk (setN rb [.int .i64 1,.int .i64 0,.slice a2 (n*64) c2,.slice p2 0 q2,.int .i64 (-1),.bool false,.int .i64 0,.int .i64 0,.int .i64 1,.int .i64 2,.int .i64 1,.int .i64 1,.slice none 0 0,.slice (some ⟨gi,0,none⟩) 6 ci] 0 w9) w.heap.size gi G C Aa/\Below w.heap.size w (setN rb [.int .i64 1,.int .i64 0,.slice a2 (n*64) c2,.slice p2 0 q2,.int .i64 (-1),.bool false,.int .i64 0,.int .i64 0,.int .i64 1,.int .i64 2,.int .i64 1,.int .i64 1,.slice none 0 0,.slice (some ⟨gi,0,none⟩) 6 ci] 0 w9)):=by
  have hrl:=HE.out.1.lt
  have hq:=HE.out.2.2
  have hbb:=HE.out.2.1
  exact ⟨Bx.setN (HE.out.1.below hb9),(OwnB.setN hrl ho9).mono (by omega),(IxOk.setN hrl hi9).mono (by omega),below_setN (by omega) (hbb.trans (hb9.mono hbb.size))⟩
 have X3:=HE.out.1.below hb9
 have y0:=X3.cell 0
 have y1:=X3.cell 1
 have y2:=X3.cell 2
 have y3:=X3.cell 3
 have y4:=X3.cell 4
 have y5:=X3.cell 5
 have y6:=X3.cell 6
 have y7:=X3.cell 7
 have y8:=X3.cell 8
 have y9:=X3.cell 9
 have y10:=X3.cell 10
 have y11:=X3.cell 11
 have y12:=X3.cell 12
 have y13:=X3.cell 13
 have yf:=X3.frozen
 have yl:=X3.lt
 simp at y0 y1 y2 y3 y4 y5 y6 y7 y8 y9 y10 y11 y12 y13
 clear ho9 hi9 hb9 HE X3
 go_wp2_with fail
 clear y0 y1 y2 y3 y4 y5 y6 y7 y8 y9 y10 y11 y12 y13 yf yl
 obtain ⟨W9,hW9⟩:∃W,W=setN rb [.int .i64 1,.int .i64 0,.slice a2 (n*64) c2,.slice p2 0 q2,.int .i64 (-1),.bool false,.int .i64 0,.int .i64 0,.int .i64 1,.int .i64 2,.int .i64 1,.int .i64 1,.slice none 0 0,.slice (some ⟨gi,0,none⟩) 6 ci] 0 w9:=⟨_,rfl⟩
 rw [<- hW9] at HB
 have eW:((((((((((((((w9.setCell ⟨rb,0,none⟩ (.int .i64 1)).setCell ⟨rb,1,none⟩ (.int .i64 0)).setCell ⟨rb,2,none⟩ (.slice a2 (n*64) c2)).setCell ⟨rb,3,none⟩ (.slice p2 0 q2)).setCell ⟨rb,4,none⟩ (.int .i64 (-1))).setCell ⟨rb,5,none⟩ (.bool false)).setCell ⟨rb,6,none⟩ (.int .i64 0)).setCell ⟨rb,7,none⟩ (.int .i64 0)).setCell ⟨rb,8,none⟩ (.int .i64 1)).setCell ⟨rb,9,none⟩ (.int .i64 2)).setCell ⟨rb,10,none⟩ (.int .i64 1)).setCell ⟨rb,11,none⟩ (.int .i64 1)).setCell ⟨rb,12,none⟩ (.slice none 0 0)).setCell ⟨rb,13,none⟩ (.slice (some ⟨gi,0,none⟩) 6 ci))=W9:=hW9.symm
 rw [eW]
 clear eW hW9
 have eA:setA [.int .i64 1,.int .i64 0,.slice a2 (n*64) c2,.slice p2 0 q2,.int .i64 (-1),.bool false,.int .i64 0,.int .i64 0,.int .i64 1,.int .i64 2,.int .i64 1,.int .i64 1,.slice none 0 0,.slice (some ⟨gi,0,none⟩) 6 ci] 0 #[.int .i64 0,.int .i64 0,.slice none 0 0,.slice none 0 0,.int .i64 0,.bool false,.int .i64 0,.int .i64 0,.int .i64 0,.int .i64 0,.int .i64 0,.int .i64 0,.slice none 0 0,.slice none 0 0]=#[.int .i64 1,.int .i64 0,.slice a2 (n*64) c2,.slice p2 0 q2,.int .i64 (-1),.bool false,.int .i64 0,.int .i64 0,.int .i64 1,.int .i64 2,.int .i64 1,.int .i64 1,.slice none 0 0,.slice (some ⟨gi,0,none⟩) 6 ci]:=by simp only [setA,List.setIfInBounds_toArray,List.set_cons_zero,List.set_cons_succ]
 rw [eA] at HB
 clear eA
 go_wp2
 refine bodyPost_ret (v:=.agg #[.int .i64 1,.int .i64 0,.slice a2 (n*64) c2,.slice p2 0 q2,.int .i64 (-1),.bool false,.int .i64 0,.int .i64 0,.int .i64 1,.int .i64 2,.int .i64 1,.int .i64 1,.slice none 0 0,.slice (some ⟨gi,0,none⟩) 6 ci]) ?_ rfl ⟨a2,c2,p2,q2,gi,ci,G,C,Aa,rfl,HB.out.2⟩
 have z0:W9.cell? ⟨rb,0,none⟩=some (.int .i64 1):=HB.out.1.cell 0
 have z1:W9.cell? ⟨rb,1,none⟩=some (.int .i64 0):=HB.out.1.cell 1
 have z2:W9.cell? ⟨rb,2,none⟩=some (.slice a2 (n*64) c2):=HB.out.1.cell 2
 have z3:W9.cell? ⟨rb,3,none⟩=some (.slice p2 0 q2):=HB.out.1.cell 3
 have z4:W9.cell? ⟨rb,4,none⟩=some (.int .i64 (-1)):=HB.out.1.cell 4
 have z5:W9.cell? ⟨rb,5,none⟩=some (.bool false):=HB.out.1.cell 5
 have z6:W9.cell? ⟨rb,6,none⟩=some (.int .i64 0):=HB.out.1.cell 6
 have z7:W9.cell? ⟨rb,7,none⟩=some (.int .i64 0):=HB.out.1.cell 7
 have z8:W9.cell? ⟨rb,8,none⟩=some (.int .i64 1):=HB.out.1.cell 8
 have z9:W9.cell? ⟨rb,9,none⟩=some (.int .i64 2):=HB.out.1.cell 9
 have z10:W9.cell? ⟨rb,10,none⟩=some (.int .i64 1):=HB.out.1.cell 10
 have z11:W9.cell? ⟨rb,11,none⟩=some (.int .i64 1):=HB.out.1.cell 11
 have z12:W9.cell? ⟨rb,12,none⟩=some (.slice none 0 0):=HB.out.1.cell 12
 have z13:W9.cell? ⟨rb,13,none⟩=some (.slice (some ⟨gi,0,none⟩) 6 ci):=HB.out.1.cell 13
 simp [results,Tryz.results4,go_sem,z0,z1,z2,z3,z4,z5,z6,z7,z8,z9,z10,z11,z12,z13]
end Go.Proofs.YtbmffmifemebmaaGreatDoor
