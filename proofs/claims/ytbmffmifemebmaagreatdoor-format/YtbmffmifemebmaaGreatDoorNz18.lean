import Derived.Test.YtbmffmifemebmaaGreatDoorNz17
import Derived.Test.YtbmffmifemebmaaGreatDoorNz13
import Derived.Test.YtbmffmifemebmaaGreatDoorNz1
import Derived.Lib.SlBytesConst
import Derived.Test.YtbmffmifemebmaaGreatDoorNz6
set_option linter.unusedVariables false
set_option maxRecDepth 100000
namespace Go.Proofs.YtbmffmifemebmaaGreatDoor
open Go.RowKit Go.Deep

set_option maxHeartbeats 4000000 in
theorem eqStore_h (a p a' p' : Option Addr) (n c q c' q' : Nat) (f g0 g1 g2 h0 h1 nx:Int) (ix ix' : Value) (d:Nat->Int) (w:World) (ha:Rd .u8 w a n d) (ha' : Rd .u8 w a' n d) (hn:n<=1048576) (hx:(∀W:World,Below w.heap.size w W->Calls Tryz.prog 71 #[.agg #[ix],.agg #[ix']] W fun e w'=>e=.returned (.bool true)/\Below W.heap.size W w')) :
  Calls Tryz.prog 24 #[.agg #[.slice a n c,.slice p 0 q,.int .i64 f,.bool false,.int .i64 g0,.int .i64 g1,.int .i64 g2,.int .i64 h0,.int .i64 h1,.int .i64 nx,.slice none 0 0,ix],.agg #[.slice a' n c',.slice p' 0 q',.int .i64 f,.bool false,.int .i64 g0,.int .i64 g1,.int .i64 g2,.int .i64 h0,.int .i64 h1,.int .i64 nx,.slice none 0 0,ix']] w fun e w'=>e=.returned (.bool true)/\Below w.heap.size w w':=by
 have HH:Hid (Rd .u8 w a n d/\Rd .u8 w a' n d/\(∀W:World,Below w.heap.size w W->Calls Tryz.prog 71 #[.agg #[ix],.agg #[ix']] W fun e w'=>e=.returned (.bool true)/\Below W.heap.size W w')):=⟨ha,ha',hx⟩
 clear ha ha' hx
 have e0:(g0 != g0)=false:=by simp
 have e1:(g1 != g1)=false:=by simp
 have e2:(g2 != g2)=false:=by simp
 have e3:(h0 != h0)=false:=by simp
 have e4:(h1 != h1)=false:=by simp
 have e5:(nx != nx)=false:=by simp
 go_enter Tryz.func24,Tryz.ntmps24
 go_wp2_with fail
 have b0:Below w.heap.size w ((w.alloc (.cells #[.slice a n c,.slice p 0 q,.int .i64 f,.bool false,.int .i64 g0,.int .i64 g1,.int .i64 g2,.int .i64 h0,.int .i64 h1,.int .i64 nx,.slice none 0 0,ix] 35)).alloc (.cells #[.slice a' n c',.slice p' 0 q',.int .i64 f,.bool false,.int .i64 g0,.int .i64 g1,.int .i64 g2,.int .i64 h0,.int .i64 h1,.int .i64 nx,.slice none 0 0,ix'] 35)):=(below_alloc _ _).alloc (by simp) _
 have X:Bx ((w.alloc (.cells #[.slice a n c,.slice p 0 q,.int .i64 f,.bool false,.int .i64 g0,.int .i64 g1,.int .i64 g2,.int .i64 h0,.int .i64 h1,.int .i64 nx,.slice none 0 0,ix] 35)).alloc (.cells #[.slice a' n c',.slice p' 0 q',.int .i64 f,.bool false,.int .i64 g0,.int .i64 g1,.int .i64 g2,.int .i64 h0,.int .i64 h1,.int .i64 nx,.slice none 0 0,ix'] 35)) w.heap.size 35 #[.slice a n c,.slice p 0 q,.int .i64 f,.bool false,.int .i64 g0,.int .i64 g1,.int .i64 g2,.int .i64 h0,.int .i64 h1,.int .i64 nx,.slice none 0 0,ix]:=(Bx.new _ _ _).alloc _
 have X':=Bx.new (w.alloc (.cells #[.slice a n c,.slice p 0 q,.int .i64 f,.bool false,.int .i64 g0,.int .i64 g1,.int .i64 g2,.int .i64 h0,.int .i64 h1,.int .i64 nx,.slice none 0 0,ix] 35)) #[.slice a' n c',.slice p' 0 q',.int .i64 f,.bool false,.int .i64 g0,.int .i64 g1,.int .i64 g2,.int .i64 h0,.int .i64 h1,.int .i64 nx,.slice none 0 0,ix'] 35
 rw [World.size_alloc] at X'
 have HB:Hid (Below w.heap.size w ((w.alloc (.cells #[.slice a n c,.slice p 0 q,.int .i64 f,.bool false,.int .i64 g0,.int .i64 g1,.int .i64 g2,.int .i64 h0,.int .i64 h1,.int .i64 nx,.slice none 0 0,ix] 35)).alloc (.cells #[.slice a' n c',.slice p' 0 q',.int .i64 f,.bool false,.int .i64 g0,.int .i64 g1,.int .i64 g2,.int .i64 h0,.int .i64 h1,.int .i64 nx,.slice none 0 0,ix'] 35))/\Bx ((w.alloc (.cells #[.slice a n c,.slice p 0 q,.int .i64 f,.bool false,.int .i64 g0,.int .i64 g1,.int .i64 g2,.int .i64 h0,.int .i64 h1,.int .i64 nx,.slice none 0 0,ix] 35)).alloc (.cells #[.slice a' n c',.slice p' 0 q',.int .i64 f,.bool false,.int .i64 g0,.int .i64 g1,.int .i64 g2,.int .i64 h0,.int .i64 h1,.int .i64 nx,.slice none 0 0,ix'] 35)) w.heap.size 35 #[.slice a n c,.slice p 0 q,.int .i64 f,.bool false,.int .i64 g0,.int .i64 g1,.int .i64 g2,.int .i64 h0,.int .i64 h1,.int .i64 nx,.slice none 0 0,ix]/\Bx ((w.alloc (.cells #[.slice a n c,.slice p 0 q,.int .i64 f,.bool false,.int .i64 g0,.int .i64 g1,.int .i64 g2,.int .i64 h0,.int .i64 h1,.int .i64 nx,.slice none 0 0,ix] 35)).alloc (.cells #[.slice a' n c',.slice p' 0 q',.int .i64 f,.bool false,.int .i64 g0,.int .i64 g1,.int .i64 g2,.int .i64 h0,.int .i64 h1,.int .i64 nx,.slice none 0 0,ix'] 35)) (w.heap.size+1) 35 #[.slice a' n c',.slice p' 0 q',.int .i64 f,.bool false,.int .i64 g0,.int .i64 g1,.int .i64 g2,.int .i64 h0,.int .i64 h1,.int .i64 nx,.slice none 0 0,ix']):=⟨b0,X,X'⟩
 clear b0 X X'
 generalize ((w.alloc (.cells #[.slice a n c,.slice p 0 q,.int .i64 f,.bool false,.int .i64 g0,.int .i64 g1,.int .i64 g2,.int .i64 h0,.int .i64 h1,.int .i64 nx,.slice none 0 0,ix] 35)).alloc (.cells #[.slice a' n c',.slice p' 0 q',.int .i64 f,.bool false,.int .i64 g0,.int .i64 g1,.int .i64 g2,.int .i64 h0,.int .i64 h1,.int .i64 nx,.slice none 0 0,ix'] 35))=W0 at HB ⊢
 obtain ⟨sb,hsb⟩:∃y,y=w.heap.size+1:=⟨_,rfl⟩
 rw [<- hsb] at HB ⊢
 have HB1:Hid (Below w.heap.size w W0/\Bx W0 w.heap.size 35 #[.slice a n c,.slice p 0 q,.int .i64 f,.bool false,.int .i64 g0,.int .i64 g1,.int .i64 g2,.int .i64 h0,.int .i64 h1,.int .i64 nx,.slice none 0 0,ix]/\Bx W0 sb 35 #[.slice a' n c',.slice p' 0 q',.int .i64 f,.bool false,.int .i64 g0,.int .i64 g1,.int .i64 g2,.int .i64 h0,.int .i64 h1,.int .i64 nx,.slice none 0 0,ix']):=HB
 clear HB hsb
 refine (eqDisk_yes a a' n c c' d p p' 0 q q' (fun _=>0) (fun _=>0) (fun _ _=>0) f false W0 (HH.out.1.below HB1.out.1) (HH.out.2.1.below HB1.out.1) (Or.inl rfl) (Or.inl rfl) (by omega) (by omega) (fun i hi=>absurd hi (Nat.not_lt_zero _))).mono ?_
 rintro e w1 ⟨rfl,hb1⟩
 have H1:Hid (Below w.heap.size w w1/\Bx w1 w.heap.size 35 #[.slice a n c,.slice p 0 q,.int .i64 f,.bool false,.int .i64 g0,.int .i64 g1,.int .i64 g2,.int .i64 h0,.int .i64 h1,.int .i64 nx,.slice none 0 0,ix]/\Bx w1 sb 35 #[.slice a' n c',.slice p' 0 q',.int .i64 f,.bool false,.int .i64 g0,.int .i64 g1,.int .i64 g2,.int .i64 h0,.int .i64 h1,.int .i64 nx,.slice none 0 0,ix']):=⟨HB1.out.1.trans (hb1.mono HB1.out.1.size),HB1.out.2.1.below hb1,HB1.out.2.2.below hb1⟩
 clear hb1 HB1
 have x4:=H1.out.2.1.cell 4
 have x5:=H1.out.2.1.cell 5
 have x6:=H1.out.2.1.cell 6
 have y4:=H1.out.2.2.cell 4
 have y5:=H1.out.2.2.cell 5
 have y6:=H1.out.2.2.cell 6
 simp at x4 x5 x6 y4 y5 y6
 go_wp2_with fail
 refine (eqSuper_e g0 g1 g2 w1).mono ?_
 rintro e w2 ⟨rfl,hb2⟩
 have H2:Hid (Below w.heap.size w w2/\Bx w2 w.heap.size 35 #[.slice a n c,.slice p 0 q,.int .i64 f,.bool false,.int .i64 g0,.int .i64 g1,.int .i64 g2,.int .i64 h0,.int .i64 h1,.int .i64 nx,.slice none 0 0,ix]/\Bx w2 sb 35 #[.slice a' n c',.slice p' 0 q',.int .i64 f,.bool false,.int .i64 g0,.int .i64 g1,.int .i64 g2,.int .i64 h0,.int .i64 h1,.int .i64 nx,.slice none 0 0,ix']):=⟨H1.out.1.trans (hb2.mono H1.out.1.size),H1.out.2.1.below hb2,H1.out.2.2.below hb2⟩
 clear hb2 H1 x4 x5 x6 y4 y5 y6
 have x7:=H2.out.2.1.cell 7
 have x8:=H2.out.2.1.cell 8
 have x9:=H2.out.2.1.cell 9
 have x10:=H2.out.2.1.cell 10
 have y7:=H2.out.2.2.cell 7
 have y8:=H2.out.2.2.cell 8
 have y9:=H2.out.2.2.cell 9
 have y10:=H2.out.2.2.cell 10
 simp at x7 x8 x9 x10 y7 y8 y9 y10
 go_wp2_with fail
 refine (eqDict_e nx w2).mono ?_
 rintro e w3 ⟨rfl,hb3⟩
 have H3:Hid (Below w.heap.size w w3/\Bx w3 w.heap.size 35 #[.slice a n c,.slice p 0 q,.int .i64 f,.bool false,.int .i64 g0,.int .i64 g1,.int .i64 g2,.int .i64 h0,.int .i64 h1,.int .i64 nx,.slice none 0 0,ix]/\Bx w3 sb 35 #[.slice a' n c',.slice p' 0 q',.int .i64 f,.bool false,.int .i64 g0,.int .i64 g1,.int .i64 g2,.int .i64 h0,.int .i64 h1,.int .i64 nx,.slice none 0 0,ix']):=⟨H2.out.1.trans (hb3.mono H2.out.1.size),H2.out.2.1.below hb3,H2.out.2.2.below hb3⟩
 clear hb3 H2 x7 x8 x9 x10 y7 y8 y9 y10
 have x11:=H3.out.2.1.cell 11
 have y11:=H3.out.2.2.cell 11
 simp at x11 y11
 go_wp2_with fail
 refine (HH.out.2.2 w3 H3.out.1).mono ?_
 rintro e w4 ⟨rfl,hb4⟩
 have H4:Hid (Below w.heap.size w w4):=H3.out.1.trans (hb4.mono H3.out.1.size)
 clear hb4 H3 x11 y11
 go_wp2
 go_ret
 exact ⟨rfl,H4.out⟩

set_option maxHeartbeats 4000000 in
theorem eqSr_h (r0 r1:Int) (a p a' p' : Option Addr) (n c q c' q' : Nat) (f g0 g1 g2 h0 h1 nx:Int) (ix ix' : Value) (d:Nat->Int) (w:World) (ha:Rd .u8 w a n d) (ha' : Rd .u8 w a' n d) (hn:n<=1048576) (hx:(∀W:World,Below w.heap.size w W->Calls Tryz.prog 71 #[.agg #[ix],.agg #[ix']] W fun e w'=>e=.returned (.bool true)/\Below W.heap.size W w')) :
  Calls Tryz.prog 6 #[.agg #[.int .i64 r0,.int .i64 r1,.slice a n c,.slice p 0 q,.int .i64 f,.bool false,.int .i64 g0,.int .i64 g1,.int .i64 g2,.int .i64 h0,.int .i64 h1,.int .i64 nx,.slice none 0 0,ix],.agg #[.int .i64 r0,.int .i64 r1,.slice a' n c',.slice p' 0 q',.int .i64 f,.bool false,.int .i64 g0,.int .i64 g1,.int .i64 g2,.int .i64 h0,.int .i64 h1,.int .i64 nx,.slice none 0 0,ix']] w fun e w'=>e=.returned (.bool true)/\Below w.heap.size w w':=by
 have HH:Hid (Rd .u8 w a n d/\Rd .u8 w a' n d/\(∀W:World,Below w.heap.size w W->Calls Tryz.prog 71 #[.agg #[ix],.agg #[ix']] W fun e w'=>e=.returned (.bool true)/\Below W.heap.size W w')):=⟨ha,ha',hx⟩
 clear ha ha' hx
 have e0:(r0 != r0)=false:=by simp
 have e1:(r1 != r1)=false:=by simp
 go_enter Tryz.func6,Tryz.ntmps6
 go_wp2_with fail
 have HB:Hid (Below w.heap.size w ((w.alloc (.cells #[.int .i64 r0,.int .i64 r1,.slice a n c,.slice p 0 q,.int .i64 f,.bool false,.int .i64 g0,.int .i64 g1,.int .i64 g2,.int .i64 h0,.int .i64 h1,.int .i64 nx,.slice none 0 0,ix] 37)).alloc (.cells #[.int .i64 r0,.int .i64 r1,.slice a' n c',.slice p' 0 q',.int .i64 f,.bool false,.int .i64 g0,.int .i64 g1,.int .i64 g2,.int .i64 h0,.int .i64 h1,.int .i64 nx,.slice none 0 0,ix'] 37))):=(below_alloc _ _).alloc (by simp) _
 refine (eqStore_h a p a' p' n c q c' q' f g0 g1 g2 h0 h1 nx ix ix' d _ (HH.out.1.below HB.out) (HH.out.2.1.below HB.out) hn (fun W hW=>HH.out.2.2 W (HB.out.trans (hW.mono HB.out.size)))).mono ?_
 rintro e w4 ⟨rfl,hb4⟩
 have H4:Hid (Below w.heap.size w w4):=HB.out.trans (hb4.mono HB.out.size)
 clear hb4 HB
 go_wp2
 go_ret
 exact ⟨rfl,H4.out⟩

set_option maxHeartbeats 4000000 in
theorem markStore_h (a p:Option Addr) (n c q:Nat) (f g0 g1 g2 h0 h1 nx:Int) (ix:Value) (B T:Nat) (k0 k1:Int) (d:Nat->Int) (X Y:World->Prop) (w:World) (ha:OwnB w B a n d) (hT:n≠0->∀x,a=some x->B<=x.block/\x.block<T) (hn:n<=1048576) (hk:0<=k0) (hk' : k0<=1048576) (hX:X w) (hXk:(∀W W' : World,X W->(∃f,OwnB W B a n f)->Fq a n W W'->X W')) (hM:(∀W:World,X W->OwnB W B a n (fun i=>IntKind.u8.wrap (k0+i))->Calls Tryz.prog 74 #[.agg #[ix],.int .i64 (k0+n)] W fun e w'=>e=.returned (.int .i64 k1)/\Y w'/\OwnB w' B a n (fun i=>IntKind.u8.wrap (k0+i))/\Within B T W w')) :
  Calls Tryz.prog 25 #[.agg #[.slice a n c,.slice p 0 q,.int .i64 f,.bool false,.int .i64 g0,.int .i64 g1,.int .i64 g2,.int .i64 h0,.int .i64 h1,.int .i64 nx,.slice none 0 0,ix],.int .i64 k0] w fun e w'=>e=.returned (.int .i64 k1)/\Y w'/\OwnB w' B a n (fun i=>IntKind.u8.wrap (k0+i))/\Within B T w w':=by
 have HH:Hid (OwnB w B a n d/\(n≠0->∀x,a=some x->B<=x.block/\x.block<T)/\X w/\(∀W W' : World,X W->(∃f,OwnB W B a n f)->Fq a n W W'->X W')/\(∀W:World,X W->OwnB W B a n (fun i=>IntKind.u8.wrap (k0+i))->Calls Tryz.prog 74 #[.agg #[ix],.int .i64 (k0+n)] W fun e w'=>e=.returned (.int .i64 k1)/\Y w'/\OwnB w' B a n (fun i=>IntKind.u8.wrap (k0+i))/\Within B T W w')):=⟨ha,hT,hX,hXk,hM⟩
 clear ha hT hX hXk hM
 go_enter Tryz.func25,Tryz.ntmps25
 go_wp2_with fail
 refine (markDisk_e a p n c q B d f false _ k0 (HH.out.1.below (below_alloc _ _)) hn hk hk').mono ?_
 rintro e w1 ⟨rfl,ho1,hf1⟩
 have H1:Hid (Bx w1 w.heap.size 35 #[.slice a n c,.slice p 0 q,.int .i64 f,.bool false,.int .i64 g0,.int .i64 g1,.int .i64 g2,.int .i64 h0,.int .i64 h1,.int .i64 nx,.slice none 0 0,ix]/\OwnB w1 B a n (fun i=>IntKind.u8.wrap (k0+i))/\X w1/\Within B T w w1):=by
  have q:Fq a n w w1:=(Fq.ofBelow (below_alloc _ _)).trans hf1
  exact ⟨hf1.bx (Bx.new _ _ _) (fun hn x e=>by have:=HH.out.1.ltB hn x e;omega),ho1,HH.out.2.2.2.1 w w1 HH.out.2.2.1 ⟨d,HH.out.1⟩ q,q.within HH.out.2.1⟩
 clear ho1 hf1
 have x9:=H1.out.1.cell 9
 have x10:=H1.out.1.cell 10
 simp at x9 x10
 go_wp2_with fail
 refine (markDict_e nx _ w1).mono ?_
 rintro e w2 ⟨rfl,hb2⟩
 have H2:Hid (Bx w2 w.heap.size 35 #[.slice a n c,.slice p 0 q,.int .i64 f,.bool false,.int .i64 g0,.int .i64 g1,.int .i64 g2,.int .i64 h0,.int .i64 h1,.int .i64 nx,.slice none 0 0,ix]/\OwnB w2 B a n (fun i=>IntKind.u8.wrap (k0+i))/\X w2/\Within B T w w2):=
  ⟨H1.out.1.below hb2,H1.out.2.1.below hb2,HH.out.2.2.2.1 w1 w2 H1.out.2.2.1 ⟨_,H1.out.2.1⟩ (Fq.ofBelow hb2),H1.out.2.2.2.trans (Within.ofBelow hb2)⟩
 clear hb2 H1 x9 x10
 have x11:=H2.out.1.cell 11
 simp at x11
 go_wp2_with fail
 refine (HH.out.2.2.2.2 w2 H2.out.2.2.1 H2.out.2.1).mono ?_
 rintro e w3 ⟨rfl,hy3,ho3,hw3⟩
 have H3:Hid (Y w3/\OwnB w3 B a n (fun i=>IntKind.u8.wrap (k0+i))/\Within B T w w3):=⟨hy3,ho3,H2.out.2.2.2.trans hw3⟩
 clear hy3 ho3 hw3 H2 x11
 go_wp2
 go_ret
 exact ⟨rfl,H3.out⟩

set_option maxHeartbeats 4000000 in
theorem markSr_h (r0 r1:Int) (a p:Option Addr) (n c q:Nat) (f g0 g1 g2 h0 h1 nx:Int) (ix:Value) (B T:Nat) (k0 k1:Int) (d:Nat->Int) (X Y:World->Prop) (w:World) (ha:OwnB w B a n d) (hT:n≠0->∀x,a=some x->B<=x.block/\x.block<T) (hn:n<=1048576) (hk:0<=k0) (hk' : k0<=1048576) (hX:X w) (hXk:(∀W W' : World,X W->(∃f,OwnB W B a n f)->Fq a n W W'->X W')) (hM:(∀W:World,X W->OwnB W B a n (fun i=>IntKind.u8.wrap (k0+i))->Calls Tryz.prog 74 #[.agg #[ix],.int .i64 (k0+n)] W fun e w'=>e=.returned (.int .i64 k1)/\Y w'/\OwnB w' B a n (fun i=>IntKind.u8.wrap (k0+i))/\Within B T W w')) :
  Calls Tryz.prog 7 #[.agg #[.int .i64 r0,.int .i64 r1,.slice a n c,.slice p 0 q,.int .i64 f,.bool false,.int .i64 g0,.int .i64 g1,.int .i64 g2,.int .i64 h0,.int .i64 h1,.int .i64 nx,.slice none 0 0,ix],.int .i64 k0] w fun e w'=>e=.returned (.int .i64 k1)/\Y w'/\OwnB w' B a n (fun i=>IntKind.u8.wrap (k0+i))/\Within B T w w':=by
 have HH:Hid (OwnB w B a n d/\(n≠0->∀x,a=some x->B<=x.block/\x.block<T)/\X w/\(∀W W' : World,X W->(∃f,OwnB W B a n f)->Fq a n W W'->X W')/\(∀W:World,X W->OwnB W B a n (fun i=>IntKind.u8.wrap (k0+i))->Calls Tryz.prog 74 #[.agg #[ix],.int .i64 (k0+n)] W fun e w'=>e=.returned (.int .i64 k1)/\Y w'/\OwnB w' B a n (fun i=>IntKind.u8.wrap (k0+i))/\Within B T W w')):=⟨ha,hT,hX,hXk,hM⟩
 clear ha hT hX hXk hM
 go_enter Tryz.func7,Tryz.ntmps7
 go_wp2_with fail
 refine (markStore_h a p n c q f g0 g1 g2 h0 h1 nx ix B T k0 k1 d X Y _ (HH.out.1.below (below_alloc _ _)) HH.out.2.1 hn hk hk' (HH.out.2.2.2.1 _ _ HH.out.2.2.1 ⟨d,HH.out.1⟩ (Fq.ofBelow (below_alloc _ _))) HH.out.2.2.2.1 HH.out.2.2.2.2).mono ?_
 rintro e w3 ⟨rfl,hy3,ho3,hw3⟩
 have H3:Hid (Y w3/\OwnB w3 B a n (fun i=>IntKind.u8.wrap (k0+i))/\Within B T w w3):=⟨hy3,ho3,(Within.ofBelow (below_alloc _ _)).trans hw3⟩
 clear hy3 ho3 hw3
 go_wp2
 go_ret
 exact ⟨rfl,H3.out⟩

set_option maxHeartbeats 4000000 in
theorem heldStore_h (a p:Option Addr) (n c q:Nat) (f g0 g1 g2 h0 h1 nx:Int) (ix:Value) (k0 k1:Int) (Y:World->Prop) (w:World) (ha:Rd .u8 w a n (fun i=>IntKind.u8.wrap (k0+i))) (hn:n<=1048576) (hk:0<=k0) (hk' : k0<=1048576) (hk1:0<=k1) (hY:Y w) (hYk:(∀W W' : World,Y W->Below W.heap.size W W'->Y W')) (hH:(∀W:World,Y W->Calls Tryz.prog 77 #[.agg #[ix],.int .i64 (k0+n)] W fun e w'=>e=.returned (.int .i64 k1)/\Below W.heap.size W w')) :
  Calls Tryz.prog 26 #[.agg #[.slice a n c,.slice p 0 q,.int .i64 f,.bool false,.int .i64 g0,.int .i64 g1,.int .i64 g2,.int .i64 h0,.int .i64 h1,.int .i64 nx,.slice none 0 0,ix],.int .i64 k0] w fun e w'=>e=.returned (.int .i64 k1)/\Below w.heap.size w w':=by
 have HH:Hid (Rd .u8 w a n (fun i=>IntKind.u8.wrap (k0+i))/\Y w/\(∀W W' : World,Y W->Below W.heap.size W W'->Y W')/\(∀W:World,Y W->Calls Tryz.prog 77 #[.agg #[ix],.int .i64 (k0+n)] W fun e w'=>e=.returned (.int .i64 k1)/\Below W.heap.size W w')):=⟨ha,hY,hYk,hH⟩
 clear ha hY hYk hH
 have hneg:¬ (k0+(n:Int)<0):=by omega
 have hneg1:¬ (k1<0):=by omega
 go_enter Tryz.func26,Tryz.ntmps26
 go_wp2_with fail
 refine (heldDisk_yes a p n c 0 q (fun _=>0) f false _ k0 (HH.out.1.below (below_alloc _ _)) (Or.inl rfl) hn (by omega) (fun i hi=>absurd hi (Nat.not_lt_zero _)) hk hk').mono ?_
 rintro e w1 ⟨rfl,hb1⟩
 simp only [koff]
 have H1:Hid (Bx w1 w.heap.size 35 #[.slice a n c,.slice p 0 q,.int .i64 f,.bool false,.int .i64 g0,.int .i64 g1,.int .i64 g2,.int .i64 h0,.int .i64 h1,.int .i64 nx,.slice none 0 0,ix]/\Y w1/\Below w.heap.size w w1):=by
  have q:Below w.heap.size w w1:=(below_alloc _ _).trans (hb1.mono (by simp))
  exact ⟨(Bx.new _ _ _).below hb1,HH.out.2.2.1 w w1 HH.out.2.1 q,q⟩
 clear hb1
 have x9:=H1.out.1.cell 9
 have x10:=H1.out.1.cell 10
 simp at x9 x10
 go_wp2_with fail
 refine (heldDict_e nx _ (by omega) w1).mono ?_
 rintro e w2 ⟨rfl,hb2⟩
 have H2:Hid (Bx w2 w.heap.size 35 #[.slice a n c,.slice p 0 q,.int .i64 f,.bool false,.int .i64 g0,.int .i64 g1,.int .i64 g2,.int .i64 h0,.int .i64 h1,.int .i64 nx,.slice none 0 0,ix]/\Y w2/\Below w.heap.size w w2):=
  ⟨H1.out.1.below hb2,HH.out.2.2.1 w1 w2 H1.out.2.1 hb2,H1.out.2.2.trans (hb2.mono H1.out.2.2.size)⟩
 clear hb2 H1 x9 x10
 have x11:=H2.out.1.cell 11
 simp at x11
 go_wp2_with fail
 refine (HH.out.2.2.2 w2 H2.out.2.1).mono ?_
 rintro e w3 ⟨rfl,hb3⟩
 have H3:Hid (Below w.heap.size w w3):=H2.out.2.2.trans (hb3.mono H2.out.2.2.size)
 clear hb3 H2 x11
 go_wp2
 go_ret
 exact ⟨rfl,H3.out⟩

set_option maxHeartbeats 4000000 in
theorem heldSr_h (r0 r1:Int) (a p:Option Addr) (n c q:Nat) (f g0 g1 g2 h0 h1 nx:Int) (ix:Value) (k0 k1:Int) (Y:World->Prop) (w:World) (ha:Rd .u8 w a n (fun i=>IntKind.u8.wrap (k0+i))) (hn:n<=1048576) (hk:0<=k0) (hk' : k0<=1048576) (hk1:0<=k1) (hY:Y w) (hYk:(∀W W' : World,Y W->Below W.heap.size W W'->Y W')) (hH:(∀W:World,Y W->Calls Tryz.prog 77 #[.agg #[ix],.int .i64 (k0+n)] W fun e w'=>e=.returned (.int .i64 k1)/\Below W.heap.size W w')) :
  Calls Tryz.prog 8 #[.agg #[.int .i64 r0,.int .i64 r1,.slice a n c,.slice p 0 q,.int .i64 f,.bool false,.int .i64 g0,.int .i64 g1,.int .i64 g2,.int .i64 h0,.int .i64 h1,.int .i64 nx,.slice none 0 0,ix],.int .i64 k0] w fun e w'=>e=.returned (.int .i64 k1)/\Below w.heap.size w w':=by
 have HH:Hid (Rd .u8 w a n (fun i=>IntKind.u8.wrap (k0+i))/\Y w/\(∀W W' : World,Y W->Below W.heap.size W W'->Y W')/\(∀W:World,Y W->Calls Tryz.prog 77 #[.agg #[ix],.int .i64 (k0+n)] W fun e w'=>e=.returned (.int .i64 k1)/\Below W.heap.size W w')):=⟨ha,hY,hYk,hH⟩
 clear ha hY hYk hH
 have hneg1:¬ (k1<0):=by omega
 go_enter Tryz.func8,Tryz.ntmps8
 go_wp2_with fail
 refine (heldStore_h a p n c q f g0 g1 g2 h0 h1 nx ix k0 k1 Y _ (HH.out.1.below (below_alloc _ _)) hn hk hk' hk1 (HH.out.2.2.1 _ _ HH.out.2.1 (below_alloc _ _)) HH.out.2.2.1 HH.out.2.2.2).mono ?_
 rintro e w3 ⟨rfl,hb3⟩
 have H3:Hid (Below w.heap.size w w3):=(below_alloc _ _).trans (hb3.mono (by simp))
 clear hb3
 go_wp2
 go_ret
 exact ⟨rfl,H3.out⟩

def ExtM (B:Nat) (w w' : World):Prop:=Below B w w'/\∀(k:Nat) (c:Array Value) (t:TypeId) (fr:Nat × Nat),w.heap[k]?=some (.cells c t fr)->∃fr',w'.heap[k]?=some (.cells c t fr')/\(fr'=fr\/c.size<=2)

theorem ExtM.refl (B:Nat) (w:World):ExtM B w w:=⟨Below.refl _ _,fun k c t fr h=>⟨fr,h,Or.inl rfl⟩⟩
theorem ExtM.trans {B:Nat} {u v w:World} (h:ExtM B u v) (k:ExtM B v w):ExtM B u w:=⟨h.1.trans k.1,fun i c t fr hc=>by
 obtain ⟨f1,h1,e1⟩:=h.2 i c t fr hc
 obtain ⟨f2,h2,e2⟩:=k.2 i c t f1 h1
 refine ⟨f2,h2,?_⟩
 rcases e2 with e2|e2
 ·rcases e1 with e1|e1
  ·exact Or.inl (e2.trans e1)
  ·exact Or.inr e1
 ·exact Or.inr e2⟩
theorem ExtM.ofBelow {B:Nat} {w w' : World} (hB:B<=w.heap.size) (h:Below w.heap.size w w'):ExtM B w w':=
 ⟨h.mono hB,fun k c t fr hc=>⟨fr,(h.block k (Array.getElem?_eq_some_iff.1 hc).1).trans hc,Or.inl rfl⟩⟩
theorem ExtM.cell {B:Nat} {w w' : World} (h:ExtM B w w') {p:Addr} {v:Value} (hc:w.cell? p=some v):w'.cell? p=some v:=by
 cases hb:w.heap[p.block]? with
 | none=>simp [World.cell?,hb] at hc
 | some o=>
  cases o with
  | cells c t fr=>
   obtain ⟨fr',h',_⟩:=h.2 _ _ _ _ hb
   simp [World.cell?,hb] at hc
   simp [World.cell?,h',hc]
  | _=>simp [World.cell?,hb] at hc
theorem ExtM.rd {B:Nat} {w w' : World} (h:ExtM B w w') {a:Option Addr} {n:Nat} {f:Nat->Int} (hr:Rd .u8 w a n f):Rd .u8 w' a n f:=by
 rcases hr with h0|⟨b,o,rfl,hc⟩
 ·exact Or.inl h0
 ·exact Or.inr ⟨b,o,rfl,fun i hi=>h.cell (hc i hi)⟩
theorem ExtM.rdS {B:Nat} {w w' : World} (h:ExtM B w w') {b o m:Nat} {L:Nat->Nat} {F:Nat->Nat->Int} (hr:RdS w b o m L F):RdS w' b o m L F:=fun i hi=>by
 obtain ⟨ad,cp,h1,h2⟩:=hr i hi
 exact ⟨ad,cp,h.cell h1,h.rd h2⟩
theorem ExtM.own {B B' : Nat} {w w' : World} (h:ExtM B w w') {a:Option Addr} {n:Nat} {f:Nat->Int} (hn:3<=n) (hr:OwnB w B' a n f):OwnB w' B' a n f:=by
 rcases hr with h0|⟨g,rfl,hg,cur,hh,hs,hc⟩
 ·exact Or.inl h0
 ·obtain ⟨fr',h',e⟩:=h.2 _ _ _ _ hh
  rcases e with e|e
  ·subst e;exact Or.inr ⟨g,rfl,hg,cur,h',hs,hc⟩
  ·omega

def supPhi (gen ar fi:Int) (B q:Nat):Nat->Value->World->Prop
 | 0,v,_=>v=.pointer (some ⟨q,0,none⟩)
 | 1,v,_=>v=.int .i64 gen
 | 2,v,w=>∃a c,v=.slice a 4 c/\Rd .u8 w a 4 (byteAt gen)
 | 3,v,w=>∃g,v=.slice (some ⟨g,0,none⟩) 2 2/\B<=g/\∃fr,w.heap[g]?=some (.cells #[.int .u8 81,.int .u8 49] 5 fr)
 | 4,v,w=>∃a c,v=.slice a 2 c/\Rd .u8 w a 2 (two 81 49)
 | 5,v,_=>v=.pointer (some ⟨q,1,none⟩)
 | 6,v,_=>v=.int .i64 ar
 | 7,v,_=>v=.int .u8 ar
 | 8,v,w=>∃a c,v=.slice a 2 c/\Rd .u8 w a 2 (two ar 0)
 | 9,v,_=>v=.pointer (some ⟨q,2,none⟩)
 | 10,v,_=>v=.int .i64 fi
 | 11,v,w=>∃a c,v=.slice a 4 c/\Rd .u8 w a 4 (byteAt fi)
 | 12,v,w=>∃a c,v=.slice a 48 c/\Rd .u8 w a 48 (fun _=>0)
 | 13,v,w=>∃g,v=.slice (some ⟨g,0,none⟩) 5 5/\RdS w g 0 5 (five 4 2 2 4 48) (five (byteAt gen) (two 81 49) (two ar 0) (byteAt fi) (fun _=>0))
 | 14,v,w=>∃a c,v=.slice a 60 c/\Rd .u8 w a 60 (superH gen ar fi)
 | _,v,w=>∃a c,v=.slice a 64 c/\OwnB w B a 64 (superF gen ar fi)/\64<=c/\c<=9223372036854775807

theorem supPhi_st {gen ar fi:Int} {B q:Nat}:∀i v w w',supPhi gen ar fi B q i v w->ExtM B w w'->supPhi gen ar fi B q i v w':=by
 intro i v w w' h he
 match i,h with
 | 0,h=>exact h
 | 1,h=>exact h
 | 2,⟨a,c,e,h⟩=>exact ⟨a,c,e,he.rd h⟩
 | 3,⟨g,e,hg,fr,h⟩=>obtain ⟨fr',h',_⟩:=he.2 _ _ _ _ h;exact ⟨g,e,hg,fr',h'⟩
 | 4,⟨a,c,e,h⟩=>exact ⟨a,c,e,he.rd h⟩
 | 5,h=>exact h
 | 6,h=>exact h
 | 7,h=>exact h
 | 8,⟨a,c,e,h⟩=>exact ⟨a,c,e,he.rd h⟩
 | 9,h=>exact h
 | 10,h=>exact h
 | 11,⟨a,c,e,h⟩=>exact ⟨a,c,e,he.rd h⟩
 | 12,⟨a,c,e,h⟩=>exact ⟨a,c,e,he.rd h⟩
 | 13,⟨g,e,h⟩=>exact ⟨g,e,he.rdS h⟩
 | 14,⟨a,c,e,h⟩=>exact ⟨a,c,e,he.rd h⟩
 | n+15,⟨a,c,e,h,h1,h2⟩=>exact ⟨a,c,e,he.own (by omega) h,h1,h2⟩

theorem mk_value {ops:Array Oper} {o:Oper} {a:Act} {w:World} {K:Act->World->Prop} {Q:Exit->Act->World->Prop} {E:Prop} {v:Value} (hg:o.guard=none) (hrun:(execOp a.eval o).run Tryz.prog w=.ok (.value v) w) (h:K (a.put o.dst v) w) :
  if Region.wanted o (yielded ops a.tmps)=true then Oper.wp Tryz.prog o a w K Q else E:=by
 rw [if_pos (by simp [Region.wanted,hg])]
 unfold Oper.wp
 rw [hrun]
 exact h
theorem mk_value' {ops:Array Oper} {o:Oper} {a:Act} {w w' : World} {K:Act->World->Prop} {Q:Exit->Act->World->Prop} {E:Prop} {v:Value} (hg:o.guard=none) (hrun:(execOp a.eval o).run Tryz.prog w=.ok (.value v) w') (h:K (a.put o.dst v) w') :
  if Region.wanted o (yielded ops a.tmps)=true then Oper.wp Tryz.prog o a w K Q else E:=by
 rw [if_pos (by simp [Region.wanted,hg])]
 unfold Oper.wp
 rw [hrun]
 exact h

theorem rdPair {W:World} {g:Nat} (hg:g=W.heap.size) (x y:Int):Rd .u8 (W.alloc (.cells #[.int .u8 x,.int .u8 y] 5)) (some ⟨g,0,none⟩) 2 (two x y):=by
 subst hg
 refine Or.inr ⟨_,0,rfl,fun i hi=>?_⟩
 match i,hi with
 | 0,_=>simp [two]
 | 1,_=>simp [two]
theorem rdMark {w:World} {g:Nat} {fr:Nat × Nat} (h:w.heap[g]?=some (.cells #[.int .u8 81,.int .u8 49] 5 fr)):Rd .u8 w (some ⟨g,0,none⟩) 2 (two 81 49):=by
 refine Or.inr ⟨_,0,rfl,fun i hi=>?_⟩
 match i,hi with
 | 0,_=>simp [two,World.cell?,h]
 | 1,_=>simp [two,World.cell?,h]

theorem convMark {B:Nat} (w:World) (g:Nat) (fr:Nat × Nat) (hg:B<=g) (h:w.heap[g]?=some (.cells #[.int .u8 81,.int .u8 49] 5 fr)) :
  ∃w',(convert 22 22 (.slice (some ⟨g,0,none⟩) 2 2)).run Tryz.prog w=.ok (.slice (some ⟨g,0,none⟩) 2 2) w'/\ExtM B w w':=by
 have hsh:w.shape? g=some (5,2):=by unfold World.shape?;rw [h];rfl
 refine ⟨w.freeze ⟨g,2,none⟩ 1,?_,⟨rfl,rfl,rfl,by simp [World.freeze],fun k hk=>?_⟩,fun k c t f hc=>?_⟩
 ·simp [convert,run_underlying underBytes,run_underlying (show Tryz.prog.underlying 5=some (.int .u8) by kernel_rfl),markStringish,hsh]
 ·unfold World.freeze
  rw [if_neg (by decide)]
  show (w.heap.modify g _)[k]?=_
  rw [Array.getElem?_modify,if_neg (by omega)]
 ·unfold World.freeze
  rw [if_neg (by decide)]
  show ∃fr',(w.heap.modify g _)[k]?=_/\_
  rw [Array.getElem?_modify]
  by_cases e:g=k
  ·subst e
   rw [h] at hc
   injection hc with hc
   injection hc with e1 e2 e3
   subst e1 e2 e3
   rw [if_pos rfl,h]
   exact ⟨_,rfl,Or.inr (Nat.le_refl _)⟩
  ·rw [if_neg e]
   exact ⟨f,hc,Or.inl rfl⟩

set_option maxHeartbeats 4000000 in
theorem l2SuperBytes_any (gen ar fi:Int) (w:World) (g0:0<=gen) (g1:gen<=9223372036854775807) (a0:0<=ar) (a1:ar<2) (f0:0<=fi) (f1:fi<=9223372036854775807) :
  Calls Tryz.prog 47 #[.agg #[.int .i64 gen,.int .i64 ar,.int .i64 fi]] w fun e w'=>RetOwn w e w' 64 (superF gen ar fi):=by
 obtain ⟨W0,hW⟩:∃W,W=w.alloc (.cells #[.int .i64 gen,.int .i64 ar,.int .i64 fi] 27):=⟨_,rfl⟩
 have HC:Hid (W0.cell? ⟨w.heap.size,0,none⟩=some (.int .i64 gen)/\W0.cell? ⟨w.heap.size,1,none⟩=some (.int .i64 ar)/\W0.cell? ⟨w.heap.size,2,none⟩=some (.int .i64 fi)/\Below w.heap.size w W0/\w.heap.size+1=W0.heap.size):=by
  rw [hW]
  exact ⟨by simp,by simp,by simp,below_alloc _ _,by simp⟩
 have HW:Hid (W0=w.alloc (.cells #[.int .i64 gen,.int .i64 ar,.int .i64 fi] 27)):=hW
 clear hW
 go_enter Tryz.func47,Tryz.ntmps47
 go_wp2
 rw [<- HW.out]
 refine wp_region_makers (by kernel_rfl) (ExtM W0.heap.size) (supPhi gen ar fi W0.heap.size w.heap.size) (fun _ _ _ h k=>h.trans k) (ExtM.refl _ _) supPhi_st (by kernel_rfl) ?_ ?_
 ·intro i o ho a w1 hp he hdep K' hK
  have hB:W0.heap.size<=w1.heap.size:=he.1.size
  have ht1' : a.tmps.getD 1 undef=.pointer (some ⟨w.heap.size,0,none⟩):=hp.other 1 (fun j p hj=>by
   have hjl:j<17:=(Array.getElem?_eq_some_iff.1 hj).1
   match j,hj,hjl with
   | 0,hj,_=>have:=Option.some.inj hj;subst this;simp
   | 1,hj,_=>have:=Option.some.inj hj;subst this;simp
   | 2,hj,_=>have:=Option.some.inj hj;subst this;simp
   | 3,hj,_=>have:=Option.some.inj hj;subst this;simp
   | 4,hj,_=>have:=Option.some.inj hj;subst this;simp
   | 5,hj,_=>have:=Option.some.inj hj;subst this;simp
   | 6,hj,_=>have:=Option.some.inj hj;subst this;simp
   | 7,hj,_=>have:=Option.some.inj hj;subst this;simp
   | 8,hj,_=>have:=Option.some.inj hj;subst this;simp
   | 9,hj,_=>have:=Option.some.inj hj;subst this;simp
   | 10,hj,_=>have:=Option.some.inj hj;subst this;simp
   | 11,hj,_=>have:=Option.some.inj hj;subst this;simp
   | 12,hj,_=>have:=Option.some.inj hj;subst this;simp
   | 13,hj,_=>have:=Option.some.inj hj;subst this;simp
   | 14,hj,_=>have:=Option.some.inj hj;subst this;simp
   | 15,hj,_=>have:=Option.some.inj hj;subst this;simp
   | 16,hj,_=>have:=Option.some.inj hj;subst this;simp
   )
  have ht1:a.tmps[1]?.getD undef=.pointer (some ⟨w.heap.size,0,none⟩):=by simpa using ht1'
  have hil:i<17:=(Array.getElem?_eq_some_iff.1 ho).1
  match i,ho,hil,hK with
  | 0,ho,_,hK=>
   have ho':=Option.some.inj ho
   subst ho'
   refine mk_value rfl (v:=.pointer (some ⟨w.heap.size,0,none⟩)) (by simp [execOp,ht1,go_sem]) (hK _ _ (ExtM.refl _ _) rfl)
  | 1,ho,_,hK=>
   have ho':=Option.some.inj ho
   subst ho'
   have d0' : a.tmps.getD 3 undef=.pointer (some ⟨w.heap.size,0,none⟩):=hdep ⟨0,.data⟩ (by simp) rfl
   have d0:a.tmps[3]?.getD undef=.pointer (some ⟨w.heap.size,0,none⟩):=by simpa using d0'
   have hc:w1.cell? ⟨w.heap.size,0,none⟩=some (.int .i64 gen):=he.cell HC.out.1
   refine mk_value rfl (v:=.int .i64 gen) (by simp [execOp,d0,hc,go_sem]) (hK _ _ (ExtM.refl _ _) rfl)
  | 2,ho,_,hK=>
   have ho':=Option.some.inj ho
   subst ho'
   have d1' : a.tmps.getD 4 undef=.int .i64 gen:=hdep ⟨1,.data⟩ (by simp) rfl
   have d1:a.tmps[4]?.getD undef=.int .i64 gen:=by simpa using d1'
   rw [if_pos (by simp [Region.wanted])]
   unfold Oper.wp
   simp [execOp,resolve,invoke,d1,go_sem]
   refine (l2Put_any gen 4 w1 g0 g1 (by omega)).mono ?_
   rintro e w2 ⟨b,c,rfl,ho2,hb2,-,-⟩
   exact hK _ _ (ExtM.ofBelow hB hb2) ⟨b,c,rfl,ho2.rd⟩
  | 3,ho,_,hK=>
   have ho':=Option.some.inj ho
   subst ho'
   refine mk_value' rfl (v:=.slice (some ⟨w1.heap.size,0,none⟩) 2 2) (w':=w1.alloc (.cells #[.int .u8 81,.int .u8 49] 5)) (by simp [execOp,go_sem]) (hK _ _ (ExtM.ofBelow hB (below_alloc _ _)) ⟨_,rfl,hB,_,blk_alloc_new _ _⟩)
  | 4,ho,_,hK=>
   have ho':=Option.some.inj ho
   subst ho'
   have dd:supPhi gen ar fi W0.heap.size w.heap.size 3 (a.tmps.getD 6 undef) w1:=hdep ⟨3,.data⟩ (by simp) rfl
   obtain ⟨g,e3,hg,fr,hh⟩:=dd
   have d3:a.tmps[6]?.getD undef=.slice (some ⟨g,0,none⟩) 2 2:=by simpa using e3
   obtain ⟨w2,hrun,hx2⟩:=convMark (B:=W0.heap.size) w1 g fr hg hh
   refine mk_value' rfl (v:=.slice (some ⟨g,0,none⟩) 2 2) (w':=w2) (by simp [execOp,Act.eval,d3,hrun,Result.andThen]) (hK _ _ hx2 ⟨_,_,rfl,hx2.rd (rdMark hh)⟩)
  | 5,ho,_,hK=>
   have ho':=Option.some.inj ho
   subst ho'
   refine mk_value rfl (v:=.pointer (some ⟨w.heap.size,1,none⟩)) (by simp [execOp,ht1,go_sem]) (hK _ _ (ExtM.refl _ _) rfl)
  | 6,ho,_,hK=>
   have ho':=Option.some.inj ho
   subst ho'
   have d5' : a.tmps.getD 8 undef=.pointer (some ⟨w.heap.size,1,none⟩):=hdep ⟨5,.data⟩ (by simp) rfl
   have d5:a.tmps[8]?.getD undef=.pointer (some ⟨w.heap.size,1,none⟩):=by simpa using d5'
   have hc:w1.cell? ⟨w.heap.size,1,none⟩=some (.int .i64 ar):=he.cell HC.out.2.1
   refine mk_value rfl (v:=.int .i64 ar) (by simp [execOp,d5,hc,go_sem]) (hK _ _ (ExtM.refl _ _) rfl)
  | 7,ho,_,hK=>
   have ho':=Option.some.inj ho
   subst ho'
   have d6' : a.tmps.getD 9 undef=.int .i64 ar:=hdep ⟨6,.data⟩ (by simp) rfl
   have d6:a.tmps[9]?.getD undef=.int .i64 ar:=by simpa using d6'
   have hwr:IntKind.u8.wrap ar=ar:=by rw [IntKind.wrap_u8];omega
   refine mk_value rfl (v:=.int .u8 ar) (by simp [execOp,d6,go_sem,hwr]) (hK _ _ (ExtM.refl _ _) rfl)
  | 8,ho,_,hK=>
   have ho':=Option.some.inj ho
   subst ho'
   have d7' : a.tmps.getD 10 undef=.int .u8 ar:=hdep ⟨7,.data⟩ (by simp) rfl
   have d7:a.tmps[10]?.getD undef=.int .u8 ar:=by simpa using d7'
   refine mk_value' rfl (v:=.slice (some ⟨w1.heap.size,0,none⟩) 2 2) (w':=w1.alloc (.cells #[.int .u8 ar,.int .u8 0] 5)) (by simp [execOp,d7,go_sem]) (hK _ _ (ExtM.ofBelow hB (below_alloc _ _)) ⟨_,_,rfl,rdPair rfl _ _⟩)
  | 9,ho,_,hK=>
   have ho':=Option.some.inj ho
   subst ho'
   refine mk_value rfl (v:=.pointer (some ⟨w.heap.size,2,none⟩)) (by simp [execOp,ht1,go_sem]) (hK _ _ (ExtM.refl _ _) rfl)
  | 10,ho,_,hK=>
   have ho':=Option.some.inj ho
   subst ho'
   have d9' : a.tmps.getD 12 undef=.pointer (some ⟨w.heap.size,2,none⟩):=hdep ⟨9,.data⟩ (by simp) rfl
   have d9:a.tmps[12]?.getD undef=.pointer (some ⟨w.heap.size,2,none⟩):=by simpa using d9'
   have hc:w1.cell? ⟨w.heap.size,2,none⟩=some (.int .i64 fi):=he.cell HC.out.2.2.1
   refine mk_value rfl (v:=.int .i64 fi) (by simp [execOp,d9,hc,go_sem]) (hK _ _ (ExtM.refl _ _) rfl)
  | 11,ho,_,hK=>
   have ho':=Option.some.inj ho
   subst ho'
   have d10' : a.tmps.getD 13 undef=.int .i64 fi:=hdep ⟨10,.data⟩ (by simp) rfl
   have d10:a.tmps[13]?.getD undef=.int .i64 fi:=by simpa using d10'
   rw [if_pos (by simp [Region.wanted])]
   unfold Oper.wp
   simp [execOp,resolve,invoke,d10,go_sem]
   refine (l2Put_any fi 4 w1 f0 f1 (by omega)).mono ?_
   rintro e w2 ⟨b,c,rfl,ho2,hb2,-,-⟩
   exact hK _ _ (ExtM.ofBelow hB hb2) ⟨b,c,rfl,ho2.rd⟩
  | 12,ho,_,hK=>
   have ho':=Option.some.inj ho
   subst ho'
   rw [if_pos (by simp [Region.wanted])]
   unfold Oper.wp
   simp [execOp,resolve,invoke,go_sem]
   refine (zeros_any 48 w1 (by omega)).mono ?_
   rintro e w2 ⟨b,c,rfl,ho2,hb2⟩
   exact hK _ _ (ExtM.ofBelow hB hb2) ⟨b,c,rfl,ho2.rd⟩
  | 13,ho,_,hK=>
   have ho':=Option.some.inj ho
   subst ho'
   have dd:supPhi gen ar fi W0.heap.size w.heap.size 2 (a.tmps.getD 5 undef) w1:=hdep ⟨2,.data⟩ (by simp) rfl
   obtain ⟨b0,c0,e0,r0⟩:=dd
   have dd:supPhi gen ar fi W0.heap.size w.heap.size 4 (a.tmps.getD 7 undef) w1:=hdep ⟨4,.data⟩ (by simp) rfl
   obtain ⟨b1,c1,e1,r1⟩:=dd
   have dd:supPhi gen ar fi W0.heap.size w.heap.size 8 (a.tmps.getD 11 undef) w1:=hdep ⟨8,.data⟩ (by simp) rfl
   obtain ⟨b2,c2,e2,r2⟩:=dd
   have dd:supPhi gen ar fi W0.heap.size w.heap.size 11 (a.tmps.getD 14 undef) w1:=hdep ⟨11,.data⟩ (by simp) rfl
   obtain ⟨b3,c3,e3,r3⟩:=dd
   have dd:supPhi gen ar fi W0.heap.size w.heap.size 12 (a.tmps.getD 15 undef) w1:=hdep ⟨12,.data⟩ (by simp) rfl
   obtain ⟨b4,c4,e4,r4⟩:=dd
   have d0:a.tmps[5]?.getD undef=.slice b0 4 c0:=by simpa using e0
   have d1:a.tmps[7]?.getD undef=.slice b1 2 c1:=by simpa using e1
   have d2:a.tmps[11]?.getD undef=.slice b2 2 c2:=by simpa using e2
   have d3:a.tmps[14]?.getD undef=.slice b3 4 c3:=by simpa using e3
   have d4:a.tmps[15]?.getD undef=.slice b4 48 c4:=by simpa using e4
   refine mk_value' rfl (v:=.slice (some ⟨w1.heap.size,0,none⟩) 5 5) (w':=w1.alloc (.cells #[.slice b0 4 c0,.slice b1 2 c1,.slice b2 2 c2,.slice b3 4 c3,.slice b4 48 c4] 22)) (by simp [execOp,d0,d1,d2,d3,d4,go_sem]) (hK _ _ (ExtM.ofBelow hB (below_alloc _ _)) ⟨_,rfl,rdS_five r0 r1 r2 r3 r4⟩)
  | 14,ho,_,hK=>
   have ho':=Option.some.inj ho
   subst ho'
   have dd:supPhi gen ar fi W0.heap.size w.heap.size 13 (a.tmps.getD 16 undef) w1:=hdep ⟨13,.data⟩ (by simp) rfl
   obtain ⟨g,e,rs⟩:=dd
   have d:a.tmps[16]?.getD undef=.slice (some ⟨g,0,none⟩) 5 5:=by simpa using e
   rw [if_pos (by simp [Region.wanted])]
   unfold Oper.wp
   simp [execOp,resolve,invoke,d,go_sem]
   refine (l2Cat_any g 0 5 5 _ _ w1 rs (by omega) catL_five (fun k hk=>by unfold five;(repeat' split) <;> omega)).mono ?_
   rintro e w2 ⟨b,c,rfl,ho2,hb2,-,-⟩
   exact hK _ _ (ExtM.ofBelow hB hb2) ⟨b,c,rfl,ho2.rd.congr (fun j hj=>super_cat gen ar fi a0 a1 _ _ rfl rfl rfl rfl j hj)⟩
  | 15,ho,_,hK=>
   have ho':=Option.some.inj ho
   subst ho'
   have dd:supPhi gen ar fi W0.heap.size w.heap.size 14 (a.tmps.getD 17 undef) w1:=hdep ⟨14,.data⟩ (by simp) rfl
   obtain ⟨b,c,e,r⟩:=dd
   have d:a.tmps[17]?.getD undef=.slice b 60 c:=by simpa using e
   rw [if_pos (by simp [Region.wanted])]
   unfold Oper.wp
   simp [execOp,resolve,invoke,d,go_sem]
   refine (l2Seal_any b c (superH gen ar fi) w1 r (fun i hi=>superH_range gen ar fi i (by omega))).mono ?_
   rintro e w2 ⟨b2,c2,rfl,ho2,hb2,hl2,hm2⟩
   exact hK _ _ (ExtM.ofBelow hB hb2) ⟨b2,c2,rfl,ho2.mono hB,hl2,hm2⟩
  | 16,ho,_,hK=>
   have ho':=Option.some.inj ho
   subst ho'
   have dd:supPhi gen ar fi W0.heap.size w.heap.size 15 (a.tmps.getD 18 undef) w1:=hdep ⟨15,.data⟩ (by simp) rfl
   obtain ⟨b,c,e,r,r1,r2⟩:=dd
   have d:a.tmps[18]?.getD undef=.slice b 64 c:=by simpa using e
   refine mk_value rfl (v:=.slice b 64 c) (by simp [execOp,d,go_sem]) (hK _ _ (ExtM.refl _ _) ⟨b,c,rfl,r,r1,r2⟩)
 ·intro a w1 hp he hall
  have dd:supPhi gen ar fi W0.heap.size w.heap.size 16 (a.tmps.getD 2 undef) w1:=hall 16 (by decide)
  obtain ⟨b,c,e,r,r1,r2⟩:=dd
  have hd:a.defers=[]:=hp.defers
  have HX:Hid (RetOwn w (.returned (.slice b 64 c)) w1 64 (superF gen ar fi)):=⟨b,c,rfl,r.mono (by have:=HC.out.2.2.2.2;omega),HC.out.2.2.2.1.drew.trans (he.1.mono (by have:=HC.out.2.2.2.2;omega)),r1,r2⟩
  clear r r1 r2 he hall hp
  go_wp2
  refine bodyPost_ret (results_tmp rfl _ _ _) hd ?_
  rw [e]
  exact HX.out

def shA (a:Option Addr) (lo c:Nat):Option Addr:=if c=lo then a else a.map fun x=>x.add lo

theorem run_from (a:Option Addr) (n c lo:Nat) (h1:lo<=n) (h2:n<=c) (w:World):(Instr.sliceAt 22 (.slice a n c) (some (.int .i64 (lo:Int))) none none).run Tryz.prog w=.ok (.slice (shA a lo c) (n-lo) (c-lo)) w:=by
 simp [Instr.sliceAt,Instr.slice,go_sem,shA]
 intro h
 omega

theorem run_upto (a:Option Addr) (n c:Nat) (h1:48<n) (h2:n<=c) (w:World):(Instr.sliceAt 22 (.slice a n c) none (some (.int .i64 48)) none).run Tryz.prog w=.ok (.slice a 48 c) w:=by
 simp [Instr.sliceAt,Instr.slice,go_sem]
 intro h
 omega

theorem rd_shift {w:World} {a:Option Addr} {n lo:Nat} {f:Nat->Int} (c:Nat) (h:Rd .u8 w a n f) (hl:lo<=n) (hc:n<=c):Rd .u8 w (shA a lo c) (n-lo) (fun j=>f (lo+j)):=by
 rcases h with h0|⟨b,o,rfl,hcell⟩
 ·exact Or.inl (by omega)
 ·by_cases e:n=lo
  ·exact Or.inl (by omega)
  ·refine Or.inr ⟨b,o+lo,?_,fun i hi=>?_⟩
   ·unfold shA
    rw [if_neg (by omega)]
    simp only [Option.map_some]
    unfold Addr.add
    by_cases e0:lo=0
    ·subst e0;simp
    ·simp [e0]
   ·have:=hcell (lo+i) (by omega)
    rw [show o+lo+i=o+(lo+i) by omega]
    exact this

def cntOf (n:Nat):Nat:=if n=0 then 1 else (n+47) / 48
theorem cntOf_lt {n i:Nat} (h:i<cntOf n):i*48<=n:=by
 unfold cntOf at h
 split at h <;> omega

set_option maxHeartbeats 1000000 in
theorem specRecS (n:Nat) (hn:n<=30000) (w:World):Calls Tryz.prog 27 #[.int .i64 n] w fun e w'=>e=.returned (.int .i64 (cntOf n))/\w'=w:=by
 have h1:¬ ((n:Int)<0):=by omega
 have h2:¬ (30000<(n:Int)):=by omega
 by_cases h0:n=0
 ·subst h0
  go_enter Tryz.func27,Tryz.ntmps27
  go_wp2
  go_ret
  exact ⟨rfl,rfl⟩
 ·have h3:((n:Int) == 0)=false:=by simp;omega
  have HE:Hid (((n:Int)+48-1) / 48=(cntOf n:Int)):=by show _=_;unfold cntOf;rw [if_neg h0];omega
  go_enter Tryz.func27,Tryz.ntmps27
  go_wp2
  go_ret
  exact ⟨by rw [<- HE.out];rfl,rfl⟩

def three {α:Type} (x0 x1 x2:α) (i:Nat):α:=if i=0 then x0 else if i=1 then x1 else x2
theorem rdS_three {W:World} {a0 a1 a2:Option Addr} {n0 n1 n2 c0 c1 c2:Nat} {f0 f1 f2:Nat->Int} {t:TypeId} (h0:Rd .u8 W a0 n0 f0) (h1:Rd .u8 W a1 n1 f1) (h2:Rd .u8 W a2 n2 f2) :
  RdS (W.alloc (.cells #[.slice a0 n0 c0,.slice a1 n1 c1,.slice a2 n2 c2] t)) W.heap.size 0 3 (three n0 n1 n2) (three f0 f1 f2):=by
 intro i hi
 match i,hi with
 | 0,_=>exact ⟨a0,c0,by simp [three],by simpa [three] using h0.below (below_alloc _ _)⟩
 | 1,_=>exact ⟨a1,c1,by simp [three],by simpa [three] using h1.below (below_alloc _ _)⟩
 | 2,_=>exact ⟨a2,c2,by simp [three],by simpa [three] using h2.below (below_alloc _ _)⟩

theorem head_cat (seq i k L:Int) (j:Nat) (hj:j<12):catF (five 4 2 2 2 2) (five (byteAt seq) (byteAt i) (byteAt k) (byteAt L) (two 82 49)) 5 j=
  if j<4 then byteAt seq j else if j<6 then byteAt i (j-4) else if j<8 then byteAt k (j-6) else if j<10 then byteAt L (j-8) else two 82 49 (j-10):=by
 simp only [catF,catL,five]
 by_cases h1:j<4
 ·simp [h1,show j<10 by omega,show j<8 by omega,show j<6 by omega]
 by_cases h2:j<6
 ·simp [h1,h2,show j<10 by omega,show j<8 by omega]
 by_cases h3:j<8
 ·simp [h1,h2,h3,show j<10 by omega]
 by_cases h4:j<10
 ·simp [h1,h2,h3,h4]
 ·simp [h1,h2,h3,h4]

theorem rec_cat (seq i k:Int) (L:Nat) (pf:Nat->Int) (hL:L<=48) (h:Nat->Int) (hh:∀j,j<12->h j=if j<4 then byteAt seq j else if j<6 then byteAt i (j-4) else if j<8 then byteAt k (j-6) else if j<10 then byteAt L (j-8) else two 82 49 (j-10)) (j:Nat) (hj:j<60) :
  catF (three 12 L (48-L)) (three h pf (fun _=>0)) 3 j=recH seq i k L pf j:=by
 simp only [catF,catL,three]
 unfold recH layN
 by_cases h1:j<12
 ·have q:=hh j h1
  rw [if_neg (by omega:¬ (12<=j/\j<12+L))]
  simp [h1,show j<12+L by omega]
  rw [q]
  unfold putN
  by_cases a4:j<4
  ·simp [a4,show ¬ j=11 by omega,show ¬ j=10 by omega,show ¬ (8<=j/\j<10) by omega,show ¬ (6<=j/\j<8) by omega,show ¬ (4<=j/\j<6) by omega]
  by_cases a6:j<6
  ·simp [a4,a6,show ¬ j=11 by omega,show ¬ j=10 by omega,show ¬ (8<=j/\j<10) by omega,show ¬ (6<=j/\j<8) by omega,show 4<=j by omega]
  by_cases a8:j<8
  ·simp [a4,a6,a8,show ¬ j=11 by omega,show ¬ j=10 by omega,show ¬ (8<=j/\j<10) by omega,show 6<=j by omega]
  by_cases a10:j<10
  ·simp [a4,a6,a8,a10,show ¬ j=11 by omega,show ¬ j=10 by omega,show 8<=j by omega]
  ·have:j=10\/j=11:=by omega
   rcases this with rfl|rfl <;> simp [two]
 ·by_cases h2:j<12+L
  ·rw [if_pos (by omega:12<=j/\j<12+L)]
   simp [h1,h2]
  ·rw [if_neg (by omega:¬ (12<=j/\j<12+L))]
   simp [h2,show ¬ j=11 by omega,show ¬ j=10 by omega]
   unfold putN
   simp [show ¬ (8<=j/\j<10) by omega,show ¬ (6<=j/\j<8) by omega,show ¬ (4<=j/\j<6) by omega,show ¬ j<4 by omega]

end Go.Proofs.YtbmffmifemebmaaGreatDoor
