import Derived.Test.YtbmffmifemebmaaGreatDoorNz18
set_option linter.unusedVariables false
set_option maxRecDepth 100000
namespace Go.Proofs.YtbmffmifemebmaaGreatDoor
open Go.RowKit Go.Deep

set_option maxHeartbeats 8000000 in
theorem fmtLaw (x:Int) (n il:Nat) (r0 r1 f g0 g1 g2 h0 h1 nx:Int) (V:World->Nat->Option Addr->Nat->Option Addr->Nat->Option Addr->Nat->Prop) (w:World) (hs:(∀W,Calls Tryz.prog 4 #[.int .i64 x] W fun e w'=>∃va vc vp vq vi vj,e=.returned (.agg #[.int .i64 r0,.int .i64 r1,.slice va n vc,.slice vp 0 vq,.int .i64 f,.bool false,.int .i64 g0,.int .i64 g1,.int .i64 g2,.int .i64 h0,.int .i64 h1,.int .i64 nx,.slice none 0 0,.slice vi il vj])/\V w' W.heap.size va vc vp vq vi vj/\Below W.heap.size W w')) (hi:(∀W,Below w.heap.size w W->Calls Tryz.prog 5 #[.int .i64 x] W fun e w'=>∃va vc vp vq vi vj,e=.returned (.agg #[.int .i64 r0,.int .i64 r1,.slice va n vc,.slice vp 0 vq,.int .i64 f,.bool false,.int .i64 g0,.int .i64 g1,.int .i64 g2,.int .i64 h0,.int .i64 h1,.int .i64 nx,.slice none 0 0,.slice vi il vj])/\V w' W.heap.size va vc vp vq vi vj/\Below W.heap.size W w')) (hv:(∀W W' B va vc vp vq vi vj,V W B va vc vp vq vi vj->Below W.heap.size W W'->V W' B va vc vp vq vi vj)) (he:(∀W B B' va vc vp vq vi vj ua uc up uq ui uj,V W B va vc vp vq vi vj->V W B' ua uc up uq ui uj->Calls Tryz.prog 6 #[.agg #[.int .i64 r0,.int .i64 r1,.slice va n vc,.slice vp 0 vq,.int .i64 f,.bool false,.int .i64 g0,.int .i64 g1,.int .i64 g2,.int .i64 h0,.int .i64 h1,.int .i64 nx,.slice none 0 0,.slice vi il vj],.agg #[.int .i64 r0,.int .i64 r1,.slice ua n uc,.slice up 0 uq,.int .i64 f,.bool false,.int .i64 g0,.int .i64 g1,.int .i64 g2,.int .i64 h0,.int .i64 h1,.int .i64 nx,.slice none 0 0,.slice ui il uj]] W fun e w'=>e=.returned (.bool true)/\Below W.heap.size W w')) (hm:(∀W0 W B va vc vp vq vi vj,V W0 B va vc vp vq vi vj->Below W0.heap.size W0 W->Calls Tryz.prog 7 #[.agg #[.int .i64 r0,.int .i64 r1,.slice va n vc,.slice vp 0 vq,.int .i64 f,.bool false,.int .i64 g0,.int .i64 g1,.int .i64 g2,.int .i64 h0,.int .i64 h1,.int .i64 nx,.slice none 0 0,.slice vi il vj],.int .i64 1] W fun e w'=>∃k,e=.returned (.int .i64 k)/\0<=k/\Within B W0.heap.size W w'/\∀W',Below w'.heap.size w' W'->Calls Tryz.prog 8 #[.agg #[.int .i64 r0,.int .i64 r1,.slice va n vc,.slice vp 0 vq,.int .i64 f,.bool false,.int .i64 g0,.int .i64 g1,.int .i64 g2,.int .i64 h0,.int .i64 h1,.int .i64 nx,.slice none 0 0,.slice vi il vj],.int .i64 1] W' fun e w''=>e=.returned (.int .i64 k)/\Below W'.heap.size W' w'')) :
  Calls Tryz.prog 3 #[.int .i64 x] w fun e w'=>e=.returned (.bool true)/\Below w.heap.size w w':=by
 have HH:Hid ((∀W,Calls Tryz.prog 4 #[.int .i64 x] W fun e w'=>∃va vc vp vq vi vj,e=.returned (.agg #[.int .i64 r0,.int .i64 r1,.slice va n vc,.slice vp 0 vq,.int .i64 f,.bool false,.int .i64 g0,.int .i64 g1,.int .i64 g2,.int .i64 h0,.int .i64 h1,.int .i64 nx,.slice none 0 0,.slice vi il vj])/\V w' W.heap.size va vc vp vq vi vj/\Below W.heap.size W w')/\(∀W,Below w.heap.size w W->Calls Tryz.prog 5 #[.int .i64 x] W fun e w'=>∃va vc vp vq vi vj,e=.returned (.agg #[.int .i64 r0,.int .i64 r1,.slice va n vc,.slice vp 0 vq,.int .i64 f,.bool false,.int .i64 g0,.int .i64 g1,.int .i64 g2,.int .i64 h0,.int .i64 h1,.int .i64 nx,.slice none 0 0,.slice vi il vj])/\V w' W.heap.size va vc vp vq vi vj/\Below W.heap.size W w')/\(∀W W' B va vc vp vq vi vj,V W B va vc vp vq vi vj->Below W.heap.size W W'->V W' B va vc vp vq vi vj)/\(∀W B B' va vc vp vq vi vj ua uc up uq ui uj,V W B va vc vp vq vi vj->V W B' ua uc up uq ui uj->Calls Tryz.prog 6 #[.agg #[.int .i64 r0,.int .i64 r1,.slice va n vc,.slice vp 0 vq,.int .i64 f,.bool false,.int .i64 g0,.int .i64 g1,.int .i64 g2,.int .i64 h0,.int .i64 h1,.int .i64 nx,.slice none 0 0,.slice vi il vj],.agg #[.int .i64 r0,.int .i64 r1,.slice ua n uc,.slice up 0 uq,.int .i64 f,.bool false,.int .i64 g0,.int .i64 g1,.int .i64 g2,.int .i64 h0,.int .i64 h1,.int .i64 nx,.slice none 0 0,.slice ui il uj]] W fun e w'=>e=.returned (.bool true)/\Below W.heap.size W w')/\(∀W0 W B va vc vp vq vi vj,V W0 B va vc vp vq vi vj->Below W0.heap.size W0 W->Calls Tryz.prog 7 #[.agg #[.int .i64 r0,.int .i64 r1,.slice va n vc,.slice vp 0 vq,.int .i64 f,.bool false,.int .i64 g0,.int .i64 g1,.int .i64 g2,.int .i64 h0,.int .i64 h1,.int .i64 nx,.slice none 0 0,.slice vi il vj],.int .i64 1] W fun e w'=>∃k,e=.returned (.int .i64 k)/\0<=k/\Within B W0.heap.size W w'/\∀W',Below w'.heap.size w' W'->Calls Tryz.prog 8 #[.agg #[.int .i64 r0,.int .i64 r1,.slice va n vc,.slice vp 0 vq,.int .i64 f,.bool false,.int .i64 g0,.int .i64 g1,.int .i64 g2,.int .i64 h0,.int .i64 h1,.int .i64 nx,.slice none 0 0,.slice vi il vj],.int .i64 1] W' fun e w''=>e=.returned (.int .i64 k)/\Below W'.heap.size W' w'')):=⟨hs,hi,hv,he,hm⟩
 clear hs hi hv he hm
 go_enter Tryz.func3,Tryz.ntmps3
 go_wp2_with fail
 refine (HH.out.1 w).mono ?_
 rintro e w1 ⟨sa,sc,sp,sq,si,sj,rfl,hv1,hb1⟩
 obtain ⟨W1,hW1⟩:∃W,W=w1.alloc (.cells #[.int .i64 r0,.int .i64 r1,.slice sa n sc,.slice sp 0 sq,.int .i64 f,.bool false,.int .i64 g0,.int .i64 g1,.int .i64 g2,.int .i64 h0,.int .i64 h1,.int .i64 nx,.slice none 0 0,.slice si il sj] 37):=⟨_,rfl⟩
 obtain ⟨b1,hb1'⟩:∃b,b=w1.heap.size:=⟨_,rfl⟩
 have H1:Hid (V W1 w.heap.size sa sc sp sq si sj/\Below w.heap.size w W1/\Bx W1 b1 37 #[.int .i64 r0,.int .i64 r1,.slice sa n sc,.slice sp 0 sq,.int .i64 f,.bool false,.int .i64 g0,.int .i64 g1,.int .i64 g2,.int .i64 h0,.int .i64 h1,.int .i64 nx,.slice none 0 0,.slice si il sj]/\w.heap.size<=b1/\W1.heap.size=b1+1/\V w1 w.heap.size sa sc sp sq si sj/\Below w1.heap.size w1 W1):=by
  rw [hW1,hb1']
  exact ⟨HH.out.2.2.1 _ _ _ _ _ _ _ _ _ hv1 (below_alloc _ _),hb1.alloc hb1.size _,Bx.new _ _ _,hb1.size,by simp,hv1,below_alloc _ _⟩
 have KV:Hid (V w1 w.heap.size sa sc sp sq si sj/\b1=w1.heap.size/\Below b1 w1 W1):=by
  have q:=H1.out.2.2.2.2.2
  refine ⟨q.1,hb1',?_⟩
  rw [hb1']
  exact q.2
 clear hv1 hb1
 go_wp2_with fail
 rw [<- hW1,<- hb1']
 clear hW1
 refine (HH.out.2.1 W1 H1.out.2.1).mono ?_
 rintro e w2 ⟨ta,tc,tp,tq,ti,tj,rfl,hv2,hb2⟩
 obtain ⟨W2,hW2⟩:∃W,W=w2.alloc (.cells #[.int .i64 r0,.int .i64 r1,.slice ta n tc,.slice tp 0 tq,.int .i64 f,.bool false,.int .i64 g0,.int .i64 g1,.int .i64 g2,.int .i64 h0,.int .i64 h1,.int .i64 nx,.slice none 0 0,.slice ti il tj] 37):=⟨_,rfl⟩
 obtain ⟨b2,hb2'⟩:∃b,b=w2.heap.size:=⟨_,rfl⟩
 have H2:Hid (V W2 w.heap.size sa sc sp sq si sj/\Below w.heap.size w W2/\Bx W2 b1 37 #[.int .i64 r0,.int .i64 r1,.slice sa n sc,.slice sp 0 sq,.int .i64 f,.bool false,.int .i64 g0,.int .i64 g1,.int .i64 g2,.int .i64 h0,.int .i64 h1,.int .i64 nx,.slice none 0 0,.slice si il sj]/\w.heap.size<=b1/\V w2 (b1+1) ta tc tp tq ti tj/\Below w2.heap.size w2 W2/\Bx W2 b2 37 #[.int .i64 r0,.int .i64 r1,.slice ta n tc,.slice tp 0 tq,.int .i64 f,.bool false,.int .i64 g0,.int .i64 g1,.int .i64 g2,.int .i64 h0,.int .i64 h1,.int .i64 nx,.slice none 0 0,.slice ti il tj]/\b1+1<=b2/\b2=w2.heap.size/\V W2 (b1+1) ta tc tp tq ti tj/\Bx w2 b1 37 #[.int .i64 r0,.int .i64 r1,.slice sa n sc,.slice sp 0 sq,.int .i64 f,.bool false,.int .i64 g0,.int .i64 g1,.int .i64 g2,.int .i64 h0,.int .i64 h1,.int .i64 nx,.slice none 0 0,.slice si il sj]):=by
  rw [hW2,hb2']
  have q:=H1.out
  have z:=hb2.size
  rw [q.2.2.2.2.1] at z hv2
  have hb:Below w.heap.size w w2:=q.2.1.trans (hb2.mono q.2.1.size)
  exact ⟨HH.out.2.2.1 _ _ _ _ _ _ _ _ _ (HH.out.2.2.1 _ _ _ _ _ _ _ _ _ q.1 hb2) (below_alloc _ _),hb.alloc hb.size _,(q.2.2.1.below hb2).alloc _,q.2.2.2.1,hv2,below_alloc _ _,Bx.new _ _ _,z,rfl,HH.out.2.2.1 _ _ _ _ _ _ _ _ _ hv2 (below_alloc _ _),q.2.2.1.below hb2⟩
 have K2:Hid (Below b1 w1 W2):=by
  rw [hW2]
  have hb:Below b1 w1 w2:=KV.out.2.2.trans (hb2.mono (by have:=H1.out.2.2.2.2.1;omega))
  exact hb.alloc (by have:=H1.out.2.2.2.2.1;have:=hb2.size;omega) _
 clear hv2 hb2 H1 hb1'
 have x0:=H2.out.2.2.2.2.2.2.2.2.2.2.cell 0
 have x1:=H2.out.2.2.2.2.2.2.2.2.2.2.cell 1
 have x2:=H2.out.2.2.2.2.2.2.2.2.2.2.cell 2
 have x3:=H2.out.2.2.2.2.2.2.2.2.2.2.cell 3
 have x4:=H2.out.2.2.2.2.2.2.2.2.2.2.cell 4
 have x5:=H2.out.2.2.2.2.2.2.2.2.2.2.cell 5
 have x6:=H2.out.2.2.2.2.2.2.2.2.2.2.cell 6
 have x7:=H2.out.2.2.2.2.2.2.2.2.2.2.cell 7
 have x8:=H2.out.2.2.2.2.2.2.2.2.2.2.cell 8
 have x9:=H2.out.2.2.2.2.2.2.2.2.2.2.cell 9
 have x10:=H2.out.2.2.2.2.2.2.2.2.2.2.cell 10
 have x11:=H2.out.2.2.2.2.2.2.2.2.2.2.cell 11
 have x12:=H2.out.2.2.2.2.2.2.2.2.2.2.cell 12
 have x13:=H2.out.2.2.2.2.2.2.2.2.2.2.cell 13
 simp at x0 x1 x2 x3 x4 x5 x6 x7 x8 x9 x10 x11 x12 x13
 have hlt:b1<w2.heap.size:=by have:=H2.out.2.2.2.2.2.2.2.1;have:=H2.out.2.2.2.2.2.2.2.2.1;omega
 have hne1:¬ b1=w2.heap.size:=by omega
 have hne2:¬ w2.heap.size=b1:=by omega
 go_wp2_with fail
 rw [<- hW2,<- hb2']
 clear hW2 hb2' hlt hne1 hne2 x0 x1 x2 x3 x4 x5 x6 x7 x8 x9 x10 x11 x12 x13
 refine (HH.out.2.2.2.1 W2 _ _ _ _ _ _ _ _ _ _ _ _ _ _ H2.out.2.2.2.2.2.2.2.2.2.1 H2.out.1).mono ?_
 rintro e w3 ⟨rfl,hb3⟩
 have H3:Hid (V w3 w.heap.size sa sc sp sq si sj/\Below w.heap.size w w3/\Bx w3 b1 37 #[.int .i64 r0,.int .i64 r1,.slice sa n sc,.slice sp 0 sq,.int .i64 f,.bool false,.int .i64 g0,.int .i64 g1,.int .i64 g2,.int .i64 h0,.int .i64 h1,.int .i64 nx,.slice none 0 0,.slice si il sj]/\w.heap.size<=b1/\V w2 (b1+1) ta tc tp tq ti tj/\Below w2.heap.size w2 w3/\Bx w3 b2 37 #[.int .i64 r0,.int .i64 r1,.slice ta n tc,.slice tp 0 tq,.int .i64 f,.bool false,.int .i64 g0,.int .i64 g1,.int .i64 g2,.int .i64 h0,.int .i64 h1,.int .i64 nx,.slice none 0 0,.slice ti il tj]/\b1+1<=b2/\b2=w2.heap.size):=by
  have q:=H2.out
  exact ⟨HH.out.2.2.1 _ _ _ _ _ _ _ _ _ q.1 hb3,q.2.1.trans (hb3.mono q.2.1.size),q.2.2.1.below hb3,q.2.2.2.1,q.2.2.2.2.1,q.2.2.2.2.2.1.trans (hb3.mono q.2.2.2.2.2.1.size),q.2.2.2.2.2.2.1.below hb3,q.2.2.2.2.2.2.2.1,q.2.2.2.2.2.2.2.2.1⟩
 have K3:Hid (Below b1 w1 w3):=K2.out.trans (hb3.mono (by have:=H2.out.2.2.1.lt;omega))
 clear hb3 H2 K2
 have x0:=H3.out.2.2.2.2.2.2.1.cell 0
 have x1:=H3.out.2.2.2.2.2.2.1.cell 1
 have x2:=H3.out.2.2.2.2.2.2.1.cell 2
 have x3:=H3.out.2.2.2.2.2.2.1.cell 3
 have x4:=H3.out.2.2.2.2.2.2.1.cell 4
 have x5:=H3.out.2.2.2.2.2.2.1.cell 5
 have x6:=H3.out.2.2.2.2.2.2.1.cell 6
 have x7:=H3.out.2.2.2.2.2.2.1.cell 7
 have x8:=H3.out.2.2.2.2.2.2.1.cell 8
 have x9:=H3.out.2.2.2.2.2.2.1.cell 9
 have x10:=H3.out.2.2.2.2.2.2.1.cell 10
 have x11:=H3.out.2.2.2.2.2.2.1.cell 11
 have x12:=H3.out.2.2.2.2.2.2.1.cell 12
 have x13:=H3.out.2.2.2.2.2.2.1.cell 13
 simp at x0 x1 x2 x3 x4 x5 x6 x7 x8 x9 x10 x11 x12 x13
 go_wp2_with fail
 clear x0 x1 x2 x3 x4 x5 x6 x7 x8 x9 x10 x11 x12 x13
 refine (HH.out.2.2.2.2 w2 w3 _ _ _ _ _ _ _ H3.out.2.2.2.2.1 H3.out.2.2.2.2.2.1).mono ?_
 rintro e w4 ⟨k,rfl,hk0,hw4,hh4⟩
 have H4:Hid (V w3 w.heap.size sa sc sp sq si sj/\Below w.heap.size w w4/\Bx w4 b1 37 #[.int .i64 r0,.int .i64 r1,.slice sa n sc,.slice sp 0 sq,.int .i64 f,.bool false,.int .i64 g0,.int .i64 g1,.int .i64 g2,.int .i64 h0,.int .i64 h1,.int .i64 nx,.slice none 0 0,.slice si il sj]/\w.heap.size<=b1/\Bx w4 b2 37 #[.int .i64 r0,.int .i64 r1,.slice ta n tc,.slice tp 0 tq,.int .i64 f,.bool false,.int .i64 g0,.int .i64 g1,.int .i64 g2,.int .i64 h0,.int .i64 h1,.int .i64 nx,.slice none 0 0,.slice ti il tj]/\b1+1<=b2/\Below (b1+1) w3 w4/\Bx w3 b1 37 #[.int .i64 r0,.int .i64 r1,.slice sa n sc,.slice sp 0 sq,.int .i64 f,.bool false,.int .i64 g0,.int .i64 g1,.int .i64 g2,.int .i64 h0,.int .i64 h1,.int .i64 nx,.slice none 0 0,.slice si il sj]):=by
  have q:=H3.out
  have z3:=q.2.2.2.2.2.2.1.lt
  have hb:=hw4.below (by have:=q.2.2.2.2.2.2.2.1;omega)
  exact ⟨q.1,q.2.1.trans (hb.mono (by have:=q.2.2.2.1;omega)),(hw4.block b1 q.2.2.1.lt (Or.inl (by omega))).trans q.2.2.1,q.2.2.2.1,(hw4.block b2 z3 (Or.inr (by have:=q.2.2.2.2.2.2.2.2;omega))).trans q.2.2.2.2.2.2.1,q.2.2.2.2.2.2.2.1,hb,q.2.2.1⟩
 have HD:Hid (∀W',Below w4.heap.size w4 W'->Calls Tryz.prog 8 #[.agg #[.int .i64 r0,.int .i64 r1,.slice ta n tc,.slice tp 0 tq,.int .i64 f,.bool false,.int .i64 g0,.int .i64 g1,.int .i64 g2,.int .i64 h0,.int .i64 h1,.int .i64 nx,.slice none 0 0,.slice ti il tj],.int .i64 1] W' fun e w''=>e=.returned (.int .i64 k)/\Below W'.heap.size W' w''):=hh4
 have K4:Hid (Below b1 w1 w4):=K3.out.trans (H4.out.2.2.2.2.2.2.1.mono (by omega))
 clear hw4 hh4 H3 K3
 have x0:=H4.out.2.2.2.2.1.cell 0
 have x1:=H4.out.2.2.2.2.1.cell 1
 have x2:=H4.out.2.2.2.2.1.cell 2
 have x3:=H4.out.2.2.2.2.1.cell 3
 have x4:=H4.out.2.2.2.2.1.cell 4
 have x5:=H4.out.2.2.2.2.1.cell 5
 have x6:=H4.out.2.2.2.2.1.cell 6
 have x7:=H4.out.2.2.2.2.1.cell 7
 have x8:=H4.out.2.2.2.2.1.cell 8
 have x9:=H4.out.2.2.2.2.1.cell 9
 have x10:=H4.out.2.2.2.2.1.cell 10
 have x11:=H4.out.2.2.2.2.1.cell 11
 have x12:=H4.out.2.2.2.2.1.cell 12
 have x13:=H4.out.2.2.2.2.1.cell 13
 simp at x0 x1 x2 x3 x4 x5 x6 x7 x8 x9 x10 x11 x12 x13
 go_wp2_with fail
 clear x0 x1 x2 x3 x4 x5 x6 x7 x8 x9 x10 x11 x12 x13
 refine (HD.out w4 (Below.refl _ _)).mono ?_
 rintro e w5 ⟨rfl,hb5⟩
 have H5:Hid (V w3 w.heap.size sa sc sp sq si sj/\Below w.heap.size w w5/\Bx w5 b1 37 #[.int .i64 r0,.int .i64 r1,.slice sa n sc,.slice sp 0 sq,.int .i64 f,.bool false,.int .i64 g0,.int .i64 g1,.int .i64 g2,.int .i64 h0,.int .i64 h1,.int .i64 nx,.slice none 0 0,.slice si il sj]/\w.heap.size<=b1/\Below (b1+1) w3 w5/\Bx w3 b1 37 #[.int .i64 r0,.int .i64 r1,.slice sa n sc,.slice sp 0 sq,.int .i64 f,.bool false,.int .i64 g0,.int .i64 g1,.int .i64 g2,.int .i64 h0,.int .i64 h1,.int .i64 nx,.slice none 0 0,.slice si il sj]):=by
  have q:=H4.out
  exact ⟨q.1,q.2.1.trans (hb5.mono q.2.1.size),q.2.2.1.below hb5,q.2.2.2.1,q.2.2.2.2.2.2.1.trans (hb5.mono (by have:=q.2.2.1.lt;omega)),q.2.2.2.2.2.2.2⟩
 have K5:Hid (Below b1 w1 w5):=K4.out.trans (hb5.mono (by have:=H4.out.2.2.1.lt;omega))
 clear hb5 HD H4 K4
 have hkn:¬ k<0:=by omega
 have hkk:(k != k)=false:=by simp
 go_wp2_with fail
 refine (HH.out.2.1 w5 H5.out.2.1).mono ?_
 rintro e w6 ⟨ya,yc,yp,yq,yi,yj,rfl,hv6,hb6⟩
 obtain ⟨W6,hW6⟩:∃W,W=w6.alloc (.cells #[.int .i64 r0,.int .i64 r1,.slice ya n yc,.slice yp 0 yq,.int .i64 f,.bool false,.int .i64 g0,.int .i64 g1,.int .i64 g2,.int .i64 h0,.int .i64 h1,.int .i64 nx,.slice none 0 0,.slice yi il yj] 37):=⟨_,rfl⟩
 have H6:Hid (V W6 w.heap.size sa sc sp sq si sj/\Below w.heap.size w W6/\Bx w6 b1 37 #[.int .i64 r0,.int .i64 r1,.slice sa n sc,.slice sp 0 sq,.int .i64 f,.bool false,.int .i64 g0,.int .i64 g1,.int .i64 g2,.int .i64 h0,.int .i64 h1,.int .i64 nx,.slice none 0 0,.slice si il sj]/\V W6 w5.heap.size ya yc yp yq yi yj):=by
  rw [hW6]
  have q:=H5.out
  have hb:Below w.heap.size w w6:=q.2.1.trans (hb6.mono q.2.1.size)
  have hk:Below w1.heap.size w1 w6:=by
   rw [<- KV.out.2.1]
   exact K5.out.trans (hb6.mono (by have:=q.2.2.1.lt;omega))
  exact ⟨HH.out.2.2.1 _ _ _ _ _ _ _ _ _ (HH.out.2.2.1 _ _ _ _ _ _ _ _ _ KV.out.1 hk) (below_alloc _ _),hb.alloc hb.size _,q.2.2.1.below hb6,HH.out.2.2.1 _ _ _ _ _ _ _ _ _ hv6 (below_alloc _ _)⟩
 clear hv6 hb6 H5 K5 KV
 have x0:=H6.out.2.2.1.cell 0
 have x1:=H6.out.2.2.1.cell 1
 have x2:=H6.out.2.2.1.cell 2
 have x3:=H6.out.2.2.1.cell 3
 have x4:=H6.out.2.2.1.cell 4
 have x5:=H6.out.2.2.1.cell 5
 have x6:=H6.out.2.2.1.cell 6
 have x7:=H6.out.2.2.1.cell 7
 have x8:=H6.out.2.2.1.cell 8
 have x9:=H6.out.2.2.1.cell 9
 have x10:=H6.out.2.2.1.cell 10
 have x11:=H6.out.2.2.1.cell 11
 have x12:=H6.out.2.2.1.cell 12
 have x13:=H6.out.2.2.1.cell 13
 simp at x0 x1 x2 x3 x4 x5 x6 x7 x8 x9 x10 x11 x12 x13
 have hlt:b1<w6.heap.size:=H6.out.2.2.1.lt
 have hne1:¬ b1=w6.heap.size:=by omega
 have hne2:¬ w6.heap.size=b1:=by omega
 go_wp2_with fail
 rw [<- hW6]
 clear hW6 hlt hne1 hne2 x0 x1 x2 x3 x4 x5 x6 x7 x8 x9 x10 x11 x12 x13
 refine (HH.out.2.2.2.1 W6 _ _ _ _ _ _ _ _ _ _ _ _ _ _ H6.out.2.2.2 H6.out.1).mono ?_
 rintro e w7 ⟨rfl,hb7⟩
 have H7:Hid (Below w.heap.size w w7):=H6.out.2.1.trans (hb7.mono H6.out.2.1.size)
 clear hb7 H6
 go_wp2
 go_ret
 exact ⟨rfl,H7.out⟩
end Go.Proofs.YtbmffmifemebmaaGreatDoor
