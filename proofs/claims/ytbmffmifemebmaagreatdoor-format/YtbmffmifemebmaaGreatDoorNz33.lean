import Derived.Test.YtbmffmifemebmaaGreatDoorNz30
import Derived.Test.YtbmffmifemebmaaGreatDoorNz32
set_option linter.unusedVariables false
set_option maxRecDepth 100000
namespace Go.Proofs.YtbmffmifemebmaaGreatDoor
open Go.RowKit Go.Deep

structure Ld (w W:World) (rD rI rb db ib B gd gi ci:Nat) (G C:Nat->Nat) (Aa:Nat->Option Addr) (rc dc:Array Value):Prop where
 b1:Bx W rD 30 #[.int .i64 0,.slice none 0 0]
 b2:Bx W rI 33 #[.slice none 0 0]
 b3:Bx W rb 136 rc
 b4:Bx W db 30 dc
 b5:Bx W ib 33 #[.slice (some ⟨gi,0,none⟩) 6 ci]
 ix:IxOk W B gi G C Aa
 pay:∀j,j<9->W.cell? ⟨gd,j,none⟩=some (.int .u8 (pay9 j))
 bel:Below w.heap.size w W
 o:gd<w.heap.size/\w.heap.size<=rD/\rD<rI/\rI<rb/\rb<db/\db<B/\B<=ib
variable {w W W' : World} {rD rI rb db ib B gd gi ci:Nat} {G C:Nat->Nat} {Aa:Nat->Option Addr} {rc dc:Array Value}
theorem Ld.below (h:Ld w W rD rI rb db ib B gd gi ci G C Aa rc dc) (hb:Below W.heap.size W W'):Ld w W' rD rI rb db ib B gd gi ci G C Aa rc dc:=
 ⟨h.b1.below hb,h.b2.below hb,h.b3.below hb,h.b4.below hb,h.b5.below hb,h.ix.keep hb,fun j hj=>(hb.cell (p:=⟨gd,j,none⟩) (World.block_lt_of_cell? _ _ (h.pay j hj))).trans (h.pay j hj),h.bel.trans (hb.mono h.bel.size),h.o⟩
theorem Ld.setR (h:Ld w W rD rI rb db ib B gd gi ci G C Aa rc dc) (i:Nat) (v:Value):Ld w (W.setCell ⟨rb,i,none⟩ v) rD rI rb db ib B gd gi ci G C Aa (rc.setIfInBounds i v) dc:=by
 have ho:=h.o
 refine ⟨h.b1.other (by simp;omega) _,h.b2.other (by simp;omega) _,h.b3.set i v,h.b4.other (by simp;omega) _,h.b5.other (by simp;omega) _,h.ix.setOther (by simp;omega) _,fun j hj=>?_,h.bel.setCell (by simp;omega) _,h.o⟩
 rw [World.cell?_of_block (Below.heap_setCell _ _ _ gd (by simp;omega))]
 exact h.pay j hj
theorem Ld.setD (h:Ld w W rD rI rb db ib B gd gi ci G C Aa rc dc) (i:Nat) (v:Value):Ld w (W.setCell ⟨db,i,none⟩ v) rD rI rb db ib B gd gi ci G C Aa rc (dc.setIfInBounds i v):=by
 have ho:=h.o
 refine ⟨h.b1.other (by simp;omega) _,h.b2.other (by simp;omega) _,h.b3.other (by simp;omega) _,h.b4.set i v,h.b5.other (by simp;omega) _,h.ix.setOther (by simp;omega) _,fun j hj=>?_,h.bel.setCell (by simp;omega) _,h.o⟩
 rw [World.cell?_of_block (Below.heap_setCell _ _ _ gd (by simp;omega))]
 exact h.pay j hj

def RetLd (w:World) (e:Ending) (w' : World):Prop:=∃gi ci G C Aa,e=.returned (.tuple #[.bool true,.agg #[.int .i64 1,.slice none 0 0],.agg #[.slice (some ⟨gi,0,none⟩) 6 ci]])/\IxOk w' w.heap.size gi G C Aa/\Below w.heap.size w w'

set_option maxHeartbeats 8000000 in
theorem l7Load_e (gd C0:Nat) (w:World) (hC:9<=C0) (hrd:∀j,j<9->w.cell? ⟨gd,j,none⟩=some (.int .u8 (pay9 j))) :
  Calls Tryz.prog 43 #[.slice (some ⟨gd,0,none⟩) 9 C0] w (RetLd w):=by
 have HP:Hid (∀j,j<9->w.cell? ⟨gd,j,none⟩=some (.int .u8 (pay9 j))):=hrd
 have T0:Hid (∀W:World,Calls Tryz.prog 89 #[.agg #[.slice (some ⟨gd,0,none⟩) 9 C0,.int .i64 0,.bool false],.int .i64 7] W fun e w'=>e=.returned (.tuple #[.agg #[.slice (some ⟨gd,0,none⟩) 9 C0,.int .i64 7,.bool false],.slice (some ⟨gd,0,none⟩) 7 C0])/\Below W.heap.size W w'):=fun W=>l7Take_0 gd C0 hC W
 have T7:Hid (∀W:World,Calls Tryz.prog 89 #[.agg #[.slice (some ⟨gd,0,none⟩) 9 C0,.int .i64 7,.bool false],.int .i64 2] W fun e w'=>e=.returned (.tuple #[.agg #[.slice (some ⟨gd,0,none⟩) 9 C0,.int .i64 9,.bool false],.slice (some ⟨gd,7,none⟩) 2 (C0-7)])/\Below W.heap.size W w'):=fun W=>l7Take_7 gd C0 hC W
 have hs1:∀W:World,(Instr.sliceAt 22 (.slice (some ⟨gd,0,none⟩) 7 C0) (some (.int .i64 1)) (some (.int .i64 5)) none).run Tryz.prog W=.ok (.slice (some ⟨gd,1,none⟩) 4 (C0-1)) W:=cutMidN gd C0 1 4 5 7 rfl (by omega) (by omega) (by omega)
 have hs2:∀W:World,(Instr.sliceAt 22 (.slice (some ⟨gd,0,none⟩) 7 C0) (some (.int .i64 5)) (some (.int .i64 7)) none).run Tryz.prog W=.ok (.slice (some ⟨gd,5,none⟩) 2 (C0-5)) W:=cutMidN gd C0 5 2 7 7 rfl (by omega) (by omega) (by omega)
 clear hrd hC
 go_enter Tryz.func43,Tryz.ntmps43
 go_wp2_with fail
 refine (specIx _).mono ?_
 rintro e w1 ⟨gi,ci,G,C,Aa,rfl,hix,hb1⟩
 obtain ⟨rD,hrD⟩:∃x,x=w.heap.size:=⟨_,rfl⟩
 obtain ⟨rI,hrI⟩:∃x,x=w.heap.size+1:=⟨_,rfl⟩
 obtain ⟨rb,hrb⟩:∃x,x=w.heap.size+1+1:=⟨_,rfl⟩
 obtain ⟨db,hdb⟩:∃x,x=w.heap.size+1+1+1+1:=⟨_,rfl⟩
 have L1:Hid (Ld w (w1.alloc (.cells #[.slice (some ⟨gi,0,none⟩) 6 ci] 33)) rD rI rb db w1.heap.size (w.heap.size+5) gd gi ci G C Aa #[.slice (some ⟨gd,0,none⟩) 9 C0,.int .i64 0,.bool false] #[.int .i64 0,.slice none 0 0]):=by
  have c1:=Bx.new (w.alloc (.cells #[.int .i64 0,.slice none 0 0] 30)) #[.slice none 0 0] 33
  have c2:=Bx.new ((w.alloc (.cells #[.int .i64 0,.slice none 0 0] 30)).alloc (.cells #[.slice none 0 0] 33)) #[.slice (some ⟨gd,0,none⟩) 9 C0,.int .i64 0,.bool false] 136
  have c4:=Bx.new ((((w.alloc (.cells #[.int .i64 0,.slice none 0 0] 30)).alloc (.cells #[.slice none 0 0] 33)).alloc (.cells #[.slice (some ⟨gd,0,none⟩) 9 C0,.int .i64 0,.bool false] 136)).alloc (.cells #[] 5)) #[.int .i64 0,.slice none 0 0] 30
  simp only [World.size_alloc] at c1 c2 c4
  rw [<- hrI] at c1
  rw [<- hrb] at c2
  rw [<- hdb] at c4
  have hB:Below w.heap.size w (((((w.alloc (.cells #[.int .i64 0,.slice none 0 0] 30)).alloc (.cells #[.slice none 0 0] 33)).alloc (.cells #[.slice (some ⟨gd,0,none⟩) 9 C0,.int .i64 0,.bool false] 136)).alloc (.cells #[] 5)).alloc (.cells #[.int .i64 0,.slice none 0 0] 30)):=((((below_alloc _ _).alloc (by simp) _).alloc (by simp;omega) _).alloc (by simp;omega) _).alloc (by simp;omega) _
  have hz:(((((w.alloc (.cells #[.int .i64 0,.slice none 0 0] 30)).alloc (.cells #[.slice none 0 0] 33)).alloc (.cells #[.slice (some ⟨gd,0,none⟩) 9 C0,.int .i64 0,.bool false] 136)).alloc (.cells #[] 5)).alloc (.cells #[.int .i64 0,.slice none 0 0] 30)).heap.size=w.heap.size+5:=by simp
  have hz1:=hb1.size
  rw [hz] at hz1
  have b0:Bx (((((w.alloc (.cells #[.int .i64 0,.slice none 0 0] 30)).alloc (.cells #[.slice none 0 0] 33)).alloc (.cells #[.slice (some ⟨gd,0,none⟩) 9 C0,.int .i64 0,.bool false] 136)).alloc (.cells #[] 5)).alloc (.cells #[.int .i64 0,.slice none 0 0] 30)) rD 30 #[.int .i64 0,.slice none 0 0]:=by rw [hrD];exact ((((Bx.new _ _ _).alloc _).alloc _).alloc _).alloc _
  have hb1' : Below w.heap.size w w1:=hB.trans (hb1.mono (by rw [hz];omega))
  refine ⟨(b0.below hb1).alloc _,(((((c1.alloc _).alloc _).alloc _)).below hb1).alloc _,((((c2.alloc _).alloc _)).below hb1).alloc _,(c4.below hb1).alloc _,Bx.new _ _ _,(hix.keep (below_alloc _ _)).mono (by rw [hz];exact Nat.le_refl _),fun j hj=>?_,hb1'.alloc hb1'.size _,World.block_lt_of_cell? _ _ (HP.out 0 (by omega)),by omega,by omega,by omega,by omega,by omega,by omega⟩
  have q:=HP.out j hj
  have ql:=World.block_lt_of_cell? _ _ q
  rw [(hb1'.alloc hb1'.size _).cell (p:=⟨gd,j,none⟩) ql]
  exact q
 clear hix hb1 HP
 go_upto_region 5 with fail
 rw [<- hdb,<- hrb,<- hrI,<- hrD]
 have HO:Hid (rD=w.heap.size):=hrD
 clear hdb hrb hrI hrD
 generalize (w1.alloc (.cells #[.slice (some ⟨gi,0,none⟩) 6 ci] 33))=W1 at L1 ⊢
 generalize w1.heap.size=ib at L1 ⊢
 have r0:=L1.out.b3.cell 0
 have r1:=L1.out.b3.cell 1
 have r2:=L1.out.b3.cell 2
 simp at r0 r1 r2
 go_wp2_with fail
 refine (T0.out W1).mono ?_
 rintro e w2 ⟨rfl,hb2⟩
 have L2:Hid (Ld w w2 rD rI rb db ib (w.heap.size+5) gd gi ci G C Aa #[.slice (some ⟨gd,0,none⟩) 9 C0,.int .i64 0,.bool false] #[.int .i64 0,.slice none 0 0]):=L1.out.below hb2
 clear hb2 L1 r0 r1 r2
 have r0:=L2.out.b3.cell 0
 have r1:=L2.out.b3.cell 1
 have r2:=L2.out.b3.cell 2
 have rf:=L2.out.b3.frozen
 have rl:=L2.out.b3.lt
 simp at r0 r1 r2
 go_upto_region 6 with fail
 have L3:Hid (Ld w (((w2.setCell ⟨rb,0,none⟩ (.slice (some ⟨gd,0,none⟩) 9 C0)).setCell ⟨rb,1,none⟩ (.int .i64 7)).setCell ⟨rb,2,none⟩ (.bool false)) rD rI rb db ib (w.heap.size+5) gd gi ci G C Aa #[.slice (some ⟨gd,0,none⟩) 9 C0,.int .i64 7,.bool false] #[.int .i64 0,.slice none 0 0]):=((L2.out.setR 0 _).setR 1 _).setR 2 _
 clear r0 r1 r2 rf rl L2
 generalize (((w2.setCell ⟨rb,0,none⟩ (.slice (some ⟨gd,0,none⟩) 9 C0)).setCell ⟨rb,1,none⟩ (.int .i64 7)).setCell ⟨rb,2,none⟩ (.bool false))=W3 at L3 ⊢
 have r2:=L3.out.b3.cell 2
 have p0:=L3.out.pay 0 (by omega)
 simp at r2
 rw [show pay9 0=83 from rfl] at p0
 have HG:Hid (∀W:World,(∀j,j<9->W.cell? ⟨gd,j,none⟩=some (.int .u8 (pay9 j)))->Calls Tryz.prog 90 #[.slice (some ⟨gd,1,none⟩) 4 (C0-1)] W fun e w'=>e=.returned (.int .i64 1)/\w'=W):=fun W hW=>l2Get_any (some ⟨gd,1,none⟩) 4 (C0-1) (fun i=>pay9 (1+i)) W (Or.inr ⟨gd,1,rfl,fun i hi=>hW (1+i) (by omega)⟩) (fun i _=>pay9_range _) (by omega)
 have HG2:Hid (∀W:World,(∀j,j<9->W.cell? ⟨gd,j,none⟩=some (.int .u8 (pay9 j)))->Calls Tryz.prog 90 #[.slice (some ⟨gd,5,none⟩) 2 (C0-5)] W fun e w'=>e=.returned (.int .i64 0)/\w'=W):=fun W hW=>l2Get_any (some ⟨gd,5,none⟩) 2 (C0-5) (fun i=>pay9 (5+i)) W (Or.inr ⟨gd,5,rfl,fun i hi=>hW (5+i) (by omega)⟩) (fun i _=>pay9_range _) (by omega)
 have HG3:Hid (∀W:World,(∀j,j<9->W.cell? ⟨gd,j,none⟩=some (.int .u8 (pay9 j)))->Calls Tryz.prog 90 #[.slice (some ⟨gd,7,none⟩) 2 (C0-7)] W fun e w'=>e=.returned (.int .i64 0)/\w'=W):=fun W hW=>l2Get_any (some ⟨gd,7,none⟩) 2 (C0-7) (fun i=>pay9 (7+i)) W (Or.inr ⟨gd,7,rfl,fun i hi=>hW (7+i) (by omega)⟩) (fun i _=>pay9_range _) (by omega)
 go_wp2_with fail
 refine (HG.out W3 L3.out.pay).mono ?_
 rintro e w4 ⟨rfl,hw4⟩
 subst hw4
 have d0:=L3.out.b4.cell 0
 have df:=L3.out.b4.frozen
 have dl:=L3.out.b4.lt
 simp at d0
 go_upto_region 9 with fail
 have L5:Hid (Ld w (w4.setCell ⟨db,0,none⟩ (.int .i64 1)) rD rI rb db ib (w.heap.size+5) gd gi ci G C Aa #[.slice (some ⟨gd,0,none⟩) 9 C0,.int .i64 7,.bool false] #[.int .i64 1,.slice none 0 0]):=L3.out.setD 0 _
 clear r2 p0 d0 df dl L3
 generalize (w4.setCell ⟨db,0,none⟩ (.int .i64 1))=W5 at L5 ⊢
 go_wp2_with fail
 refine (HG2.out W5 L5.out.pay).mono ?_
 rintro e w6 ⟨rfl,hw6⟩
 subst hw6
 have r0:=L5.out.b3.cell 0
 have r1:=L5.out.b3.cell 1
 have r2:=L5.out.b3.cell 2
 simp at r0 r1 r2
 go_wp2
 refine wp_loop_rounds 1 ?_
 rw [rounds_succ]
 go_wp2_with fail
 refine (T7.out w6).mono ?_
 rintro e w7 ⟨rfl,hb7⟩
 have L7:Hid (Ld w w7 rD rI rb db ib (w.heap.size+5) gd gi ci G C Aa #[.slice (some ⟨gd,0,none⟩) 9 C0,.int .i64 7,.bool false] #[.int .i64 1,.slice none 0 0]):=L5.out.below hb7
 clear hb7 L5 r0 r1 r2
 have r0:=L7.out.b3.cell 0
 have r1:=L7.out.b3.cell 1
 have r2:=L7.out.b3.cell 2
 have rf:=L7.out.b3.frozen
 have rl:=L7.out.b3.lt
 simp at r0 r1 r2
 go_upto_region 21 with fail
 have L8:Hid (Ld w (((w7.setCell ⟨rb,0,none⟩ (.slice (some ⟨gd,0,none⟩) 9 C0)).setCell ⟨rb,1,none⟩ (.int .i64 9)).setCell ⟨rb,2,none⟩ (.bool false)) rD rI rb db ib (w.heap.size+5) gd gi ci G C Aa #[.slice (some ⟨gd,0,none⟩) 9 C0,.int .i64 9,.bool false] #[.int .i64 1,.slice none 0 0]):=((L7.out.setR 0 _).setR 1 _).setR 2 _
 clear r0 r1 r2 rf rl L7
 generalize (((w7.setCell ⟨rb,0,none⟩ (.slice (some ⟨gd,0,none⟩) 9 C0)).setCell ⟨rb,1,none⟩ (.int .i64 9)).setCell ⟨rb,2,none⟩ (.bool false))=W8 at L8 ⊢
 go_wp2_with fail
 refine (HG3.out W8 L8.out.pay).mono ?_
 rintro e w9 ⟨rfl,hw9⟩
 subst hw9
 go_upto_region 23 with fail
 have L9:Hid (Ld w (w9.alloc (.cells #[] 72)) rD rI rb db ib (w.heap.size+5) gd gi ci G C Aa #[.slice (some ⟨gd,0,none⟩) 9 C0,.int .i64 9,.bool false] #[.int .i64 1,.slice none 0 0]):=L8.out.below (below_alloc _ _)
 clear L8
 generalize (w9.alloc (.cells #[] 72))=W9 at L9 ⊢
 generalize w9.heap.size=qb at ⊢
 have r1:=L9.out.b3.cell 1
 have r2:=L9.out.b3.cell 2
 have d0:=L9.out.b4.cell 0
 have d1:=L9.out.b4.cell 1
 simp at r1 r2 d0 d1
 go_wp2
 refine wp_loop_rounds 1 ?_
 rw [rounds_succ]
 go_wp2_with fail
 refine (specVD_e W9).mono ?_
 rintro e w10 ⟨rfl,hb10⟩
 have L10:Hid (Ld w w10 rD rI rb db ib (w.heap.size+5) gd gi ci G C Aa #[.slice (some ⟨gd,0,none⟩) 9 C0,.int .i64 9,.bool false] #[.int .i64 1,.slice none 0 0]):=L9.out.below hb10
 clear hb10 L9 r1 r2 d0 d1
 have HC:Hid (∀W:World,Below w10.drew.heap.size w10.drew W->(W.cell? ⟨db,0,none⟩=some (.int .i64 1)/\W.cell? ⟨db,1,none⟩=some (.slice none 0 0)/\W.cell? ⟨ib,0,none⟩=some (.slice (some ⟨gi,0,none⟩) 6 ci))/\Ld w W rD rI rb db ib (w.heap.size+5) gd gi ci G C Aa #[.slice (some ⟨gd,0,none⟩) 9 C0,.int .i64 9,.bool false] #[.int .i64 1,.slice none 0 0]):=fun W hW=>by
  have hl:Ld w w10.drew rD rI rb db ib (w.heap.size+5) gd gi ci G C Aa #[.slice (some ⟨gd,0,none⟩) 9 C0,.int .i64 9,.bool false] #[.int .i64 1,.slice none 0 0]:=L10.out.below (Below.refl _ _).drew
  have q:=hl.below hW
  exact ⟨⟨q.b4.cell 0,q.b4.cell 1,q.b5.cell 0⟩,q⟩
 obtain ⟨⟨d0,d1,i0⟩,-⟩:=HC.out w10.drew (Below.refl _ _)
 have ho:=L10.out.o
 have n1:¬ rD=db:=by omega
 have n2:¬ rI=db:=by omega
 have n3:¬ rD=ib:=by omega
 have n4:¬ rI=ib:=by omega
 have n5:¬ db=rD:=by omega
 have n6:¬ db=rI:=by omega
 have n7:¬ ib=rD:=by omega
 have n8:¬ ib=rI:=by omega
 have n9:¬ rD=rI:=by omega
 have n10:¬ rI=rD:=by omega
 clear ho
 go_wp2
 refine wp_loop_rounds 1 ?_
 rw [rounds_succ]
 go_wp2
 go_region_held3 (fun w'=>w'.cell? ⟨db,0,none⟩=some (.int .i64 1)/\w'.cell? ⟨db,1,none⟩=some (.slice none 0 0)/\w'.cell? ⟨ib,0,none⟩=some (.slice (some ⟨gi,0,none⟩) 6 ci)) (go_keep)
  (first
  | (go_at_call 95;refine (l7Fit_e _ w10.drew).mono ?_;rintro e w11 ⟨rfl,hb11⟩;obtain ⟨⟨q0,q1,q2⟩,L11⟩:=HC.out w11 hb11;have y0:=L11.b1.cell 0;have y1:=L11.b1.cell 1;have y2:=L11.b2.cell 0;have yf:=L11.b1.frozen;have yl:=L11.b1.lt;have zf:=L11.b2.frozen;have zl:=L11.b2.lt;simp at y0 y1 y2)
  | fail)
 have HX:Hid (IxOk (((w11.setCell ⟨rD,0,none⟩ (.int .i64 1)).setCell ⟨rD,1,none⟩ (.slice none 0 0)).setCell ⟨rI,0,none⟩ (.slice (some ⟨gi,0,none⟩) 6 ci)) w.heap.size gi G C Aa/\Below w.heap.size w (((w11.setCell ⟨rD,0,none⟩ (.int .i64 1)).setCell ⟨rD,1,none⟩ (.slice none 0 0)).setCell ⟨rI,0,none⟩ (.slice (some ⟨gi,0,none⟩) 6 ci))):=by
  have ho:=L11.o
  exact ⟨(((L11.ix.setOther (x:=⟨rD,0,none⟩) (by simp;omega) _).setOther (x:=⟨rD,1,none⟩) (by simp;omega) _).setOther (x:=⟨rI,0,none⟩) (by simp;omega) _).mono (by omega),((L11.bel.setCell (p:=⟨rD,0,none⟩) (by simp;omega) _).setCell (p:=⟨rD,1,none⟩) (by simp;omega) _).setCell (p:=⟨rI,0,none⟩) (by simp;omega) _⟩
 clear L11 L10 HC hb11
 go_wp2
 exact bodyPost_ret (v:=.tuple #[.bool true,.agg #[.int .i64 1,.slice none 0 0],.agg #[.slice (some ⟨gi,0,none⟩) 6 ci]]) (by simp [results,Tryz.results43,go_sem,y0,y1,y2]) rfl ⟨gi,ci,G,C,Aa,rfl,HX.out⟩
end Go.Proofs.YtbmffmifemebmaaGreatDoor
