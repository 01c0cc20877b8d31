import Derived.Test.YtcnollkkigiobaaGreatNd25
import Derived.Test.YtcnollkkigiobaaGreatNd27
set_option linter.unusedVariables false
set_option maxRecDepth 100000
namespace Go.Proofs.YtcnollkkigiobaaGreat
open Go.RowKit Go.Deep

def cutAt (c k:Nat):Nat:=if c=k then 0 else k

set_option maxHeartbeats 1000000 in
theorem cutSF_any (g n c k:Nat) (w:World) (hk:k=n) (hn:n<=c) :
  Calls Tryz.prog 160 #[.slice (some ⟨g,0,none⟩) n c,.int .i64 (k:Int)] w fun e w'=>e=.returned (.tuple #[.slice (some ⟨g,0,none⟩) k k,.slice (some ⟨g,cutAt c k,none⟩) 0 (c-k)])/\w'=w.drew:=by
 have s1:∀W:World,(Instr.sliceAt 88 (.slice (some ⟨g,0,none⟩) n c) none (some (.int .i64 (k:Int))) (some (.int .i64 (k:Int)))).run Tryz.prog W=.ok (.slice (some ⟨g,0,none⟩) k k) W:=by
  intro W
  have hkc:k<=c:=by omega
  simp [Instr.sliceAt,Instr.slice,go_sem,hkc]
 have s2:∀W:World,(Instr.sliceAt 88 (.slice (some ⟨g,0,none⟩) n c) (some (.int .i64 (k:Int))) none none).run Tryz.prog W=.ok (.slice (some ⟨g,cutAt c k,none⟩) 0 (c-k)) W:=by
  intro W
  subst hk
  unfold cutAt
  by_cases hkc:c=k
  ·simp [Instr.sliceAt,Instr.slice,go_sem,hkc]
  ·simp [Instr.sliceAt,Instr.slice,go_sem,hkc]
 clear hk
 go_enter Tryz.func160,Tryz.ntmps160
 go_wp2
 go_region_held3 (fun _=>True) (go_keep) (fail)
 go_wp2
 refine bodyPost_ret (v:=.tuple #[.slice (some ⟨g,0,none⟩) k k,.slice (some ⟨g,cutAt c k,none⟩) 0 (c-k)]) (by simp [results,Tryz.results160,go_sem]) rfl ⟨rfl,rfl⟩

set_option maxHeartbeats 1000000 in
theorem cutNF_any (g n c k:Nat) (w:World) (hk:k=n) (hn:n<=c) :
  Calls Tryz.prog 162 #[.slice (some ⟨g,0,none⟩) n c,.int .i64 (k:Int)] w fun e w'=>e=.returned (.tuple #[.slice (some ⟨g,0,none⟩) k k,.slice (some ⟨g,cutAt c k,none⟩) 0 (c-k)])/\w'=w.drew:=by
 have s1:∀W:World,(Instr.sliceAt 175 (.slice (some ⟨g,0,none⟩) n c) none (some (.int .i64 (k:Int))) (some (.int .i64 (k:Int)))).run Tryz.prog W=.ok (.slice (some ⟨g,0,none⟩) k k) W:=by
  intro W
  have hkc:k<=c:=by omega
  simp [Instr.sliceAt,Instr.slice,go_sem,hkc]
 have s2:∀W:World,(Instr.sliceAt 175 (.slice (some ⟨g,0,none⟩) n c) (some (.int .i64 (k:Int))) none none).run Tryz.prog W=.ok (.slice (some ⟨g,cutAt c k,none⟩) 0 (c-k)) W:=by
  intro W
  subst hk
  unfold cutAt
  by_cases hkc:c=k
  ·simp [Instr.sliceAt,Instr.slice,go_sem,hkc]
  ·simp [Instr.sliceAt,Instr.slice,go_sem,hkc]
 clear hk
 go_enter Tryz.func162,Tryz.ntmps162
 go_wp2
 go_region_held3 (fun _=>True) (go_keep) (fail)
 go_wp2
 refine bodyPost_ret (v:=.tuple #[.slice (some ⟨g,0,none⟩) k k,.slice (some ⟨g,cutAt c k,none⟩) 0 (c-k)]) (by simp [results,Tryz.results162,go_sem]) rfl ⟨rfl,rfl⟩

theorem dealLeafF_end (d:Nat) {b r n1 n2 st gg cc:Nat} {L:List ByteArray} {zs:List Value} {W w3 W4:World} {x0 y0:Int} (hz:zs=strL L) (hn:n1+n2=L.length) (hbr:b≠r) (hbW:b<W.heap.size) (hrW:r<W.heap.size) (hst:st=n1+n2) (hb3:Below W.heap.size W w3) (ho:w3.ownsRow (W.heap.size+1) 9 1 (.slice (some ⟨gg,0,none⟩) (n1+n2) cc) (n1+n2) zs) (hf:Fr2 w3 W4 b r) (x1:Bx W4 b 206 #[.int .i64 x0,.slice (some ⟨gg,0,none⟩) st st]) (x2:Bx W4 r 206 #[.int .i64 y0,.slice (some ⟨gg,cutAt cc st,none⟩) 0 (cc-st)]) :
  Ending.returned (.tuple #[])=.returned (.tuple #[])/\Fr2 W ((W4.setCell ⟨b,0,none⟩ (.int .i64 (st:Int))).setCell ⟨r,0,none⟩ (.int .i64 ((0:Nat):Int))) b r/\TAo (fun x=>x=b\/W.heap.size<=x) ((W4.setCell ⟨b,0,none⟩ (.int .i64 (st:Int))).setCell ⟨r,0,none⟩ (.int .i64 ((0:Nat):Int))) (d+1) (.inl L) (.iface 204 (.pointer (some ⟨b,0,none⟩))):=by
 have hcap:=own_cap ho
 have hgl:=own_lt ho gg rfl
 have f2:=fr2_set2 W4 b r 0 0 (.int .i64 (st:Int)) (.int .i64 ((0:Nat):Int))
 have ft:=hf.trans f2
 have y1:Bx ((W4.setCell ⟨b,0,none⟩ (.int .i64 (st:Int))).setCell ⟨r,0,none⟩ (.int .i64 ((0:Nat):Int))) b 206 #[.int .i64 (st:Int),.slice (some ⟨gg,0,none⟩) st st]:=by
  have q:=(x1.set 0 (.int .i64 (st:Int))).other (p:=⟨r,0,none⟩) hbr (.int .i64 ((0:Nat):Int))
  simpa using q
 have y2:Bx ((W4.setCell ⟨b,0,none⟩ (.int .i64 (st:Int))).setCell ⟨r,0,none⟩ (.int .i64 ((0:Nat):Int))) r 206 #[.int .i64 ((0:Nat):Int),.slice (some ⟨gg,cutAt cc st,none⟩) 0 (cc-st)]:=by
  have q:=(x2.other (p:=⟨b,0,none⟩) hbr.symm (.int .i64 (st:Int))).set 0 (.int .i64 ((0:Nat):Int))
  simpa using q
 generalize (W4.setCell ⟨b,0,none⟩ (.int .i64 (st:Int))).setCell ⟨r,0,none⟩ (.int .i64 ((0:Nat):Int))=W6 at*
 have hs3:=hb3.size
 have hs6:=ft.2.2.2.1
 have gne:∀x,x=b\/x=r->gg≠x:=by
  rintro x (rfl|rfl) <;> omega
 have cell:∀j,j<n1+n2->W6.cell? ⟨gg,j,none⟩=some (.string (gt L j)):=by
  intro j hj
  rw [World.cell?_of_block (a:=⟨gg,j,none⟩) (ft.2.2.2.2 gg hgl.2 (gne b (.inl rfl)) (gne r (.inr rfl))),ho.cellAt j (by omega),hz,strL_get L j (by omega)]
 have l1:L.length=st:=by omega
 refine ⟨rfl,(fr2_of b r hb3).trans ft,⟨b,some ⟨gg,0,none⟩,st,rfl,.inl rfl,by rw [l1];exact y1,by omega,?_⟩⟩
 refine .inr ⟨gg,0,rfl,.inr (by omega),by omega,fun i hi=>?_⟩
 rw [Nat.zero_add,cell i (by omega)]

set_option maxHeartbeats 8000000 in
theorem dealLeafF_any (d b r n1 n2 c1 c2 st:Nat) (a1 a2:Option Addr) (x0 y0:Int) (L1 L2:List ByteArray) (W:World) (hb:Bx W b 206 #[.int .i64 x0,.slice a1 n1 c1]) (hr:Bx W r 206 #[.int .i64 y0,.slice a2 n2 c2]) (hbr:b≠r) (h1:RdV W a1 n1 (strL L1)) (h2:RdV W a2 n2 (strL L2)) (hst:st=n1+n2) (hst0:0<st) (hn:n1+n2<=1000) :
  Calls Tryz.prog 137 #[.iface 204 (.pointer (some ⟨b,0,none⟩)),.iface 204 (.pointer (some ⟨r,0,none⟩)),.int .i64 (st:Int)] W fun e w'=>e=.returned (.tuple #[])/\Fr2 W w' b r/\TAo (fun x=>x=b\/W.heap.size<=x) w' (d+1) (.inl (L1++L2)) (.iface 204 (.pointer (some ⟨b,0,none⟩))):=by
 obtain ⟨xs,hxs⟩:∃xs,xs=strL L1:=⟨_,rfl⟩
 obtain ⟨ys,hys⟩:∃ys,ys=strL L2:=⟨_,rfl⟩
 rw [<- hxs] at h1
 rw [<- hys] at h2
 have HXY:Hid (xs++ys=strL (L1++L2)/\n1+n2=(L1++L2).length):=⟨by rw [hxs,hys,strL_app],by have q1:=h1.1;have q2:=h2.1;rw [hxs,strL_length] at q1;rw [hys,strL_length] at q2;rw [List.length_append];omega⟩
 have HRD:Hid (RdV W a1 n1 xs/\RdV W a2 n2 ys):=⟨h1,h2⟩
 obtain ⟨X0,hX0⟩:∃X0:Value,X0=.int .i64 x0:=⟨_,rfl⟩
 have HX:Hid (Bx W b 206 #[.int .i64 x0,.slice a1 n1 c1]/\Bx W r 206 #[.int .i64 y0,.slice a2 n2 c2]):=⟨hb,hr⟩
 have p1:=hb.cell 1
 have p2:=hr.cell 1
 simp at p1 p2
 have pz1:=hb.lt
 have pz2:=hr.lt
 have hst1:st<=n1+n2:=by omega
 have hst2:n1+n2<=st:=by omega
 clear hst
 clear h1 h2 hb hr hxs hys hX0 X0
 have t1:=ta1 (.pointer (some ⟨b,0,none⟩))
 have t2:=ta2 (.pointer (some ⟨r,0,none⟩))
 go_enter Tryz.func137,Tryz.ntmps137
 go_upto_region 4 with fail
 have HConc:Hid (Calls Tryz.prog 161 #[.slice (some ⟨W.heap.size,0,none⟩) 2 2] (W.alloc (.cells #[.slice a1 n1 c1,.slice a2 n2 c2] 88)).drew fun e w'=>∃gg cc,e=.returned (.slice (some ⟨gg,0,none⟩) (n1+n2) cc)/\w'.ownsRow (W.alloc (.cells #[.slice a1 n1 c1,.slice a2 n2 c2] 88)).drew.heap.size 9 1 (.slice (some ⟨gg,0,none⟩) (n1+n2) cc) (n1+n2) (xs++ys)/\Below (W.alloc (.cells #[.slice a1 n1 c1,.slice a2 n2 c2] 88)).drew.heap.size (W.alloc (.cells #[.slice a1 n1 c1,.slice a2 n2 c2] 88)).drew w'):=by
  have nb:=(Bx.new W #[.slice a1 n1 c1,.slice a2 n2 c2] 88).drew
  have hbl:Below W.heap.size W (W.alloc (.cells #[.slice a1 n1 c1,.slice a2 n2 c2] 88)).drew:=(below_alloc W _).drew
  exact concatS_any W.heap.size 2 n1 n2 c1 c2 a1 a2 xs ys _ ((nb.cell 0).trans (by simp)) ((nb.cell 1).trans (by simp)) (HRD.out.1.below hbl) (HRD.out.2.below hbl) (by omega) hn
 have HB0:Hid (∀w2,Below (W.alloc (.cells #[.slice a1 n1 c1,.slice a2 n2 c2] 88)).drew.heap.size (W.alloc (.cells #[.slice a1 n1 c1,.slice a2 n2 c2] 88)).drew w2->Below W.heap.size W w2):=fun w2 h=>(below_alloc W _).drew.trans (h.mono (by show W.heap.size<=(W.alloc _).heap.size;simp))
 refine wp_region_late (S:=fun _=>True) 22 (by kernel_rfl) trivial (fun hHeld=>?_)
 refine tk 0 .zero (v:=?_) ?_ ?_
 rotate_left
 ·(intro w h;go_simp) <;> with_reducible rfl
 simp only [tkp]
 refine tk 1 (.succ .zero) (v:=?_) ?_ ?_
 rotate_left
 ·(intro w h;go_simp) <;> with_reducible rfl
 simp only [tkp]
 refine tk 2 (.succ (.succ .zero)) (v:=?_) ?_ ?_
 rotate_left
 ·(intro w h;go_simp) <;> with_reducible rfl
 simp only [tkp]
 refine tk 3 (.succ (.succ (.succ .zero))) (v:=?_) ?_ ?_
 rotate_left
 ·(intro w h;go_simp) <;> with_reducible rfl
 simp only [tkp]
 refine tk 4 (.succ (.succ (.succ (.succ .zero)))) (v:=?_) ?_ ?_
 rotate_left
 ·(intro w h;go_simp) <;> with_reducible rfl
 simp only [tkp]
 refine tk 6 (.s5 (.succ .zero)) (v:=?_) ?_ ?_
 rotate_left
 ·(intro w h;go_simp) <;> with_reducible rfl
 simp only [tkp]
 refine tk 7 (.s5 (.succ (.succ .zero))) (v:=?_) ?_ ?_
 rotate_left
 ·(intro w h;go_simp) <;> with_reducible rfl
 simp only [tkp]
 refine tk 8 (.s5 (.succ (.succ (.succ .zero)))) (v:=?_) ?_ ?_
 rotate_left
 ·(intro w h;go_simp) <;> with_reducible rfl
 simp only [tkp]
 refine tk 12 (.s5 (.s5 (.succ (.succ .zero)))) (v:=?_) ?_ ?_
 rotate_left
 ·(intro w h;go_simp) <;> with_reducible rfl
 simp only [tkp]
 refine late_two 5 9 (.s5 .zero) (.s5 (.succ (.succ (.succ (.succ .zero))))) (by kernel_rfl) (fun K hK=>?_) (fun K hK=>?_)
 ·skip
  go_simp
  refine hK.out _ _ ?_ (fun hG=>?_)
  ·(intro _;trivial)
  clear hK K
  replace hHeld:=hG (by decide)
  clear hG
  try simp only [tkp]
  refine tk1 9 (.s5 (.succ (.succ (.succ (.succ .zero))))) (fun K hK=>?_)
  go_simp
  refine hK.out _ _ ?_ (fun hG=>?_)
  ·(intro _;trivial)
  clear hK K
  replace hHeld:=hG (by decide)
  clear hG
  try simp only [tkp]
  refine tk1 10 (.s5 (.s5 .zero)) (fun K hK=>?_)
  go_simp
  refine hK.out _ _ ?_ (fun hG=>?_)
  ·(intro _;trivial)
  clear hK K
  replace hHeld:=hG (by decide)
  clear hG
  try simp only [tkp]
  refine tk1 11 (.s5 (.s5 (.succ .zero))) (fun K hK=>?_)
  refine step_t1 (by rfl) 161 27 _ (by rfl) (.slice (some ⟨W.heap.size,0,none⟩) 2 2) (by rfl) (fun _ _=>by rfl) ?_
  (with_reducible refine HConc.out.mono ?_)
  rintro e w2 ⟨gg,cc,rfl,ho2,hb2⟩
  refine ⟨_,rfl,?_⟩
  have H2:Hid (w2.ownsRow (W.heap.size+1) 9 1 (.slice (some ⟨gg,0,none⟩) (n1+n2) cc) (n1+n2) (xs++ys)/\Below W.heap.size W w2):=⟨by have q:(W.alloc (.cells #[.slice a1 n1 c1,.slice a2 n2 c2] 88)).drew.heap.size=W.heap.size+1:=(show (W.alloc (.cells #[.slice a1 n1 c1,.slice a2 n2 c2] 88)).heap.size=W.heap.size+1 by simp);rw [q] at ho2;exact ho2,HB0.out w2 hb2⟩
  have hcc:=own_cap H2.out.1
  clear ho2 hb2
  refine hK.out _ _ ?_ (fun hG=>?_)
  ·(intro _;trivial)
  clear hK K
  replace hHeld:=hG (by decide)
  clear hG
  try simp only [tkp]
  refine tk1 13 (.s5 (.s5 (.succ (.succ (.succ .zero))))) (fun K hK=>?_)
  have HCut:Hid (Calls Tryz.prog 160 #[.slice (some ⟨gg,0,none⟩) (n1+n2) cc,.int .i64 (st:Int)] w2 fun e w'=>e=.returned (.tuple #[.slice (some ⟨gg,0,none⟩) st st,.slice (some ⟨gg,cutAt cc st,none⟩) 0 (cc-st)])/\w'=w2.drew):=cutSF_any gg (n1+n2) cc st w2 (by omega) hcc.1
  refine step_t2 (by rfl) 160 28 29 _ (by rfl) (.slice (some ⟨gg,0,none⟩) (n1+n2) cc) (.int .i64 (st:Int)) (by rfl) (by rfl) (fun _ _=>by rfl) ?_
  (with_reducible refine HCut.out.mono ?_)
  rintro e w3 ⟨rfl,hw3⟩
  refine ⟨_,rfl,?_⟩
  have H3:Hid (Bx w3 b 206 #[.int .i64 x0,.slice a1 n1 c1]/\Bx w3 r 206 #[.int .i64 y0,.slice a2 n2 c2]/\w3.ownsRow (W.heap.size+1) 9 1 (.slice (some ⟨gg,0,none⟩) (n1+n2) cc) (n1+n2) (xs++ys)/\Below W.heap.size W w3):=by
   subst hw3
   exact ⟨(HX.out.1.below H2.out.2).drew,(HX.out.2.below H2.out.2).drew,own_below H2.out.1 (Below.refl _ _).drew,H2.out.2.drew⟩
  have l1:=H3.out.1.cell 1
  have l2:=H3.out.2.1.cell 1
  simp at l1 l2
  have lf1:=H3.out.1.frozen 1
  have lf2:=H3.out.2.1.frozen 1
  have lz1:=H3.out.1.lt
  have lz2:=H3.out.2.1.lt
  clear hw3 HCut
  refine hK.out _ _ ?_ (fun hG=>?_)
  ·(intro _;trivial)
  clear hK K
  replace hHeld:=hG (by decide)
  clear hG
  try simp only [tkp]
  refine late_one 14 (.s5 (.s5 (.succ (.succ (.succ (.succ .zero)))))) (by kernel_rfl) (fun K hK=>?_)
  go_simp
  refine hK.out _ _ ?_ (fun hG=>?_)
  ·(intro _;trivial)
  clear hK K
  replace hHeld:=hG (by decide)
  clear hG
  try simp only [tkp]
  refine tk 15 (.s5 (.s5 (.s5 .zero))) (v:=?_) ?_ ?_
  rotate_left
  ·(intro w h;go_simp) <;> with_reducible rfl
  simp only [tkp]
  refine tk 16 (.s5 (.s5 (.s5 (.succ .zero)))) (v:=?_) ?_ ?_
  rotate_left
  ·(intro w h;go_simp) <;> with_reducible rfl
  simp only [tkp]
  refine tk 17 (.s5 (.s5 (.s5 (.succ (.succ .zero))))) (v:=?_) ?_ ?_
  rotate_left
  ·(intro w h;go_simp) <;> with_reducible rfl
  simp only [tkp]
  refine late_take 18 (.s5 (.s5 (.s5 (.succ (.succ (.succ .zero)))))) (v:=?_) (by kernel_rfl) (by kernel_rfl) (by kernel_rfl) (by kernel_rfl) (fun _ _ _ h=>h) (by rfl) ?_ (by assumption) ?_
  rotate_left
  ·(intro w h;go_simp) <;> with_reducible rfl
  simp only [tkp]
  refine late_one 19 (.s5 (.s5 (.s5 (.succ (.succ (.succ (.succ .zero))))))) (by kernel_rfl) (fun K hK=>?_)
  go_simp
  refine hK.out _ _ ?_ (fun hG=>?_)
  ·(intro _;trivial)
  clear hK K
  replace hHeld:=hG (by decide)
  clear hG
  try simp only [tkp]
  refine tk1 20 (.s5 (.s5 (.s5 (.s5 .zero)))) (fun K hK=>?_)
  go_simp
  refine hK.out _ _ ?_ (fun hG=>?_)
  ·(intro _;trivial)
  clear hK K
  replace hHeld:=hG (by decide)
  clear hG
  try simp only [tkp]
  refine tk1 21 (.s5 (.s5 (.s5 (.s5 (.succ .zero))))) (fun K hK=>?_)
  go_simp
  refine hK.out _ _ ?_ (fun hG=>?_)
  ·(intro _;trivial)
  clear hK K
  replace hHeld:=hG (by decide)
  clear hG
  try simp only [tkp]
  refine late_one 22 (.s5 (.s5 (.s5 (.s5 (.succ (.succ .zero)))))) (by kernel_rfl) (fun K hK=>?_)
  go_simp
  refine hK.out _ _ ?_ (fun hG=>?_)
  ·(intro hne;exact absurd rfl hne)
  clear hK K hG
  refine wpLate_done (by kernel_rfl) ?_ _
  have HW:Hid (Bx ((w3.setCell ⟨b,1,none⟩ (.slice (some ⟨gg,0,none⟩) st st)).setCell ⟨r,1,none⟩ (.slice (some ⟨gg,cutAt cc st,none⟩) 0 (cc-st))) b 206 #[.int .i64 x0,.slice (some ⟨gg,0,none⟩) st st]/\Bx ((w3.setCell ⟨b,1,none⟩ (.slice (some ⟨gg,0,none⟩) st st)).setCell ⟨r,1,none⟩ (.slice (some ⟨gg,cutAt cc st,none⟩) 0 (cc-st))) r 206 #[.int .i64 y0,.slice (some ⟨gg,cutAt cc st,none⟩) 0 (cc-st)]/\Fr2 w3 ((w3.setCell ⟨b,1,none⟩ (.slice (some ⟨gg,0,none⟩) st st)).setCell ⟨r,1,none⟩ (.slice (some ⟨gg,cutAt cc st,none⟩) 0 (cc-st))) b r):=by
   refine ⟨?_,?_,fr2_set2 _ _ _ _ _ _ _⟩
   ·have q:=(H3.out.1.set 1 (.slice (some ⟨gg,0,none⟩) st st)).other (p:=⟨r,1,none⟩) hbr (.slice (some ⟨gg,cutAt cc st,none⟩) 0 (cc-st))
    simpa using q
   ·have q:=(H3.out.2.1.other (p:=⟨b,1,none⟩) hbr.symm (.slice (some ⟨gg,0,none⟩) st st)).set 1 (.slice (some ⟨gg,cutAt cc st,none⟩) 0 (cc-st))
    simpa using q
  generalize (w3.setCell ⟨b,1,none⟩ (.slice (some ⟨gg,0,none⟩) st st)).setCell ⟨r,1,none⟩ (.slice (some ⟨gg,cutAt cc st,none⟩) 0 (cc-st))=W4 at HW ⊢
  clear l1 l2 lf1 lf2 lz1 lz2 hHeld
  have HR1:Hid (Calls Tryz.prog 156 #[.pointer (some ⟨b,0,none⟩)] W4 fun e w'=>e=.returned (.tuple #[])/\w'=W4.setCell ⟨b,0,none⟩ (.int .i64 (st:Int))):=recountLeaf_any b st st _ x0 W4 HW.out.1
  go_wp2_with fail
  (with_reducible refine HR1.out.mono ?_)
  rintro e w5 ⟨rfl,rfl⟩
  have HX5:Hid (Bx (W4.setCell ⟨b,0,none⟩ (.int .i64 (st:Int))) b 206 #[.int .i64 (st:Int),.slice (some ⟨gg,0,none⟩) st st]/\Bx (W4.setCell ⟨b,0,none⟩ (.int .i64 (st:Int))) r 206 #[.int .i64 y0,.slice (some ⟨gg,cutAt cc st,none⟩) 0 (cc-st)]):=⟨by simpa using HW.out.1.set 0 (.int .i64 (st:Int)),HW.out.2.1.other (p:=⟨b,0,none⟩) hbr.symm _⟩
  have HR2:Hid (Calls Tryz.prog 156 #[.pointer (some ⟨r,0,none⟩)] (W4.setCell ⟨b,0,none⟩ (.int .i64 (st:Int))) fun e w'=>e=.returned (.tuple #[])/\w'=(W4.setCell ⟨b,0,none⟩ (.int .i64 (st:Int))).setCell ⟨r,0,none⟩ (.int .i64 ((0:Nat):Int))):=recountLeaf_any r 0 (cc-st) _ y0 _ HX5.out.2
  go_wp2_with fail
  (with_reducible refine HR2.out.mono ?_)
  rintro e w6 ⟨rfl,rfl⟩
  go_wp2
  go_end0
  exact dealLeafF_end d HXY.out.1 HXY.out.2 hbr pz1 pz2 (by omega) H3.out.2.2.2 H3.out.2.2.1 HW.out.2.2 HW.out.1 HW.out.2.1
 ·skip
  go_simp
  refine hK.out _ _ ?_ (fun hG=>?_)
  ·(intro _;trivial)
  clear hK K
  replace hHeld:=hG (by decide)
  clear hG
  try simp only [tkp]
  refine tk1 5 (.s5 .zero) (fun K hK=>?_)
  go_simp
  refine hK.out _ _ ?_ (fun hG=>?_)
  ·(intro _;trivial)
  clear hK K
  replace hHeld:=hG (by decide)
  clear hG
  try simp only [tkp]
  refine tk1 10 (.s5 (.s5 .zero)) (fun K hK=>?_)
  go_simp
  refine hK.out _ _ ?_ (fun hG=>?_)
  ·(intro _;trivial)
  clear hK K
  replace hHeld:=hG (by decide)
  clear hG
  try simp only [tkp]
  refine tk1 11 (.s5 (.s5 (.succ .zero))) (fun K hK=>?_)
  refine step_t1 (by rfl) 161 27 _ (by rfl) (.slice (some ⟨W.heap.size,0,none⟩) 2 2) (by rfl) (fun _ _=>by rfl) ?_
  (with_reducible refine HConc.out.mono ?_)
  rintro e w2 ⟨gg,cc,rfl,ho2,hb2⟩
  refine ⟨_,rfl,?_⟩
  have H2:Hid (w2.ownsRow (W.heap.size+1) 9 1 (.slice (some ⟨gg,0,none⟩) (n1+n2) cc) (n1+n2) (xs++ys)/\Below W.heap.size W w2):=⟨by have q:(W.alloc (.cells #[.slice a1 n1 c1,.slice a2 n2 c2] 88)).drew.heap.size=W.heap.size+1:=(show (W.alloc (.cells #[.slice a1 n1 c1,.slice a2 n2 c2] 88)).heap.size=W.heap.size+1 by simp);rw [q] at ho2;exact ho2,HB0.out w2 hb2⟩
  have hcc:=own_cap H2.out.1
  clear ho2 hb2
  refine hK.out _ _ ?_ (fun hG=>?_)
  ·(intro _;trivial)
  clear hK K
  replace hHeld:=hG (by decide)
  clear hG
  try simp only [tkp]
  refine tk1 13 (.s5 (.s5 (.succ (.succ (.succ .zero))))) (fun K hK=>?_)
  have HCut:Hid (Calls Tryz.prog 160 #[.slice (some ⟨gg,0,none⟩) (n1+n2) cc,.int .i64 (st:Int)] w2 fun e w'=>e=.returned (.tuple #[.slice (some ⟨gg,0,none⟩) st st,.slice (some ⟨gg,cutAt cc st,none⟩) 0 (cc-st)])/\w'=w2.drew):=cutSF_any gg (n1+n2) cc st w2 (by omega) hcc.1
  refine step_t2 (by rfl) 160 28 29 _ (by rfl) (.slice (some ⟨gg,0,none⟩) (n1+n2) cc) (.int .i64 (st:Int)) (by rfl) (by rfl) (fun _ _=>by rfl) ?_
  (with_reducible refine HCut.out.mono ?_)
  rintro e w3 ⟨rfl,hw3⟩
  refine ⟨_,rfl,?_⟩
  have H3:Hid (Bx w3 b 206 #[.int .i64 x0,.slice a1 n1 c1]/\Bx w3 r 206 #[.int .i64 y0,.slice a2 n2 c2]/\w3.ownsRow (W.heap.size+1) 9 1 (.slice (some ⟨gg,0,none⟩) (n1+n2) cc) (n1+n2) (xs++ys)/\Below W.heap.size W w3):=by
   subst hw3
   exact ⟨(HX.out.1.below H2.out.2).drew,(HX.out.2.below H2.out.2).drew,own_below H2.out.1 (Below.refl _ _).drew,H2.out.2.drew⟩
  have l1:=H3.out.1.cell 1
  have l2:=H3.out.2.1.cell 1
  simp at l1 l2
  have lf1:=H3.out.1.frozen 1
  have lf2:=H3.out.2.1.frozen 1
  have lz1:=H3.out.1.lt
  have lz2:=H3.out.2.1.lt
  clear hw3 HCut
  refine hK.out _ _ ?_ (fun hG=>?_)
  ·(intro _;trivial)
  clear hK K
  replace hHeld:=hG (by decide)
  clear hG
  try simp only [tkp]
  refine late_one 14 (.s5 (.s5 (.succ (.succ (.succ (.succ .zero)))))) (by kernel_rfl) (fun K hK=>?_)
  go_simp
  refine hK.out _ _ ?_ (fun hG=>?_)
  ·(intro _;trivial)
  clear hK K
  replace hHeld:=hG (by decide)
  clear hG
  try simp only [tkp]
  refine tk 15 (.s5 (.s5 (.s5 .zero))) (v:=?_) ?_ ?_
  rotate_left
  ·(intro w h;go_simp) <;> with_reducible rfl
  simp only [tkp]
  refine tk 16 (.s5 (.s5 (.s5 (.succ .zero)))) (v:=?_) ?_ ?_
  rotate_left
  ·(intro w h;go_simp) <;> with_reducible rfl
  simp only [tkp]
  refine tk 17 (.s5 (.s5 (.s5 (.succ (.succ .zero))))) (v:=?_) ?_ ?_
  rotate_left
  ·(intro w h;go_simp) <;> with_reducible rfl
  simp only [tkp]
  refine late_take 18 (.s5 (.s5 (.s5 (.succ (.succ (.succ .zero)))))) (v:=?_) (by kernel_rfl) (by kernel_rfl) (by kernel_rfl) (by kernel_rfl) (fun _ _ _ h=>h) (by rfl) ?_ (by assumption) ?_
  rotate_left
  ·(intro w h;go_simp) <;> with_reducible rfl
  simp only [tkp]
  refine late_one 19 (.s5 (.s5 (.s5 (.succ (.succ (.succ (.succ .zero))))))) (by kernel_rfl) (fun K hK=>?_)
  go_simp
  refine hK.out _ _ ?_ (fun hG=>?_)
  ·(intro _;trivial)
  clear hK K
  replace hHeld:=hG (by decide)
  clear hG
  try simp only [tkp]
  refine tk1 20 (.s5 (.s5 (.s5 (.s5 .zero)))) (fun K hK=>?_)
  go_simp
  refine hK.out _ _ ?_ (fun hG=>?_)
  ·(intro _;trivial)
  clear hK K
  replace hHeld:=hG (by decide)
  clear hG
  try simp only [tkp]
  refine tk1 21 (.s5 (.s5 (.s5 (.s5 (.succ .zero))))) (fun K hK=>?_)
  go_simp
  refine hK.out _ _ ?_ (fun hG=>?_)
  ·(intro _;trivial)
  clear hK K
  replace hHeld:=hG (by decide)
  clear hG
  try simp only [tkp]
  refine late_one 22 (.s5 (.s5 (.s5 (.s5 (.succ (.succ .zero)))))) (by kernel_rfl) (fun K hK=>?_)
  go_simp
  refine hK.out _ _ ?_ (fun hG=>?_)
  ·(intro hne;exact absurd rfl hne)
  clear hK K hG
  refine wpLate_done (by kernel_rfl) ?_ _
  have HW:Hid (Bx ((w3.setCell ⟨b,1,none⟩ (.slice (some ⟨gg,0,none⟩) st st)).setCell ⟨r,1,none⟩ (.slice (some ⟨gg,cutAt cc st,none⟩) 0 (cc-st))) b 206 #[.int .i64 x0,.slice (some ⟨gg,0,none⟩) st st]/\Bx ((w3.setCell ⟨b,1,none⟩ (.slice (some ⟨gg,0,none⟩) st st)).setCell ⟨r,1,none⟩ (.slice (some ⟨gg,cutAt cc st,none⟩) 0 (cc-st))) r 206 #[.int .i64 y0,.slice (some ⟨gg,cutAt cc st,none⟩) 0 (cc-st)]/\Fr2 w3 ((w3.setCell ⟨b,1,none⟩ (.slice (some ⟨gg,0,none⟩) st st)).setCell ⟨r,1,none⟩ (.slice (some ⟨gg,cutAt cc st,none⟩) 0 (cc-st))) b r):=by
   refine ⟨?_,?_,fr2_set2 _ _ _ _ _ _ _⟩
   ·have q:=(H3.out.1.set 1 (.slice (some ⟨gg,0,none⟩) st st)).other (p:=⟨r,1,none⟩) hbr (.slice (some ⟨gg,cutAt cc st,none⟩) 0 (cc-st))
    simpa using q
   ·have q:=(H3.out.2.1.other (p:=⟨b,1,none⟩) hbr.symm (.slice (some ⟨gg,0,none⟩) st st)).set 1 (.slice (some ⟨gg,cutAt cc st,none⟩) 0 (cc-st))
    simpa using q
  generalize (w3.setCell ⟨b,1,none⟩ (.slice (some ⟨gg,0,none⟩) st st)).setCell ⟨r,1,none⟩ (.slice (some ⟨gg,cutAt cc st,none⟩) 0 (cc-st))=W4 at HW ⊢
  clear l1 l2 lf1 lf2 lz1 lz2 hHeld
  have HR1:Hid (Calls Tryz.prog 156 #[.pointer (some ⟨b,0,none⟩)] W4 fun e w'=>e=.returned (.tuple #[])/\w'=W4.setCell ⟨b,0,none⟩ (.int .i64 (st:Int))):=recountLeaf_any b st st _ x0 W4 HW.out.1
  go_wp2_with fail
  (with_reducible refine HR1.out.mono ?_)
  rintro e w5 ⟨rfl,rfl⟩
  have HX5:Hid (Bx (W4.setCell ⟨b,0,none⟩ (.int .i64 (st:Int))) b 206 #[.int .i64 (st:Int),.slice (some ⟨gg,0,none⟩) st st]/\Bx (W4.setCell ⟨b,0,none⟩ (.int .i64 (st:Int))) r 206 #[.int .i64 y0,.slice (some ⟨gg,cutAt cc st,none⟩) 0 (cc-st)]):=⟨by simpa using HW.out.1.set 0 (.int .i64 (st:Int)),HW.out.2.1.other (p:=⟨b,0,none⟩) hbr.symm _⟩
  have HR2:Hid (Calls Tryz.prog 156 #[.pointer (some ⟨r,0,none⟩)] (W4.setCell ⟨b,0,none⟩ (.int .i64 (st:Int))) fun e w'=>e=.returned (.tuple #[])/\w'=(W4.setCell ⟨b,0,none⟩ (.int .i64 (st:Int))).setCell ⟨r,0,none⟩ (.int .i64 ((0:Nat):Int))):=recountLeaf_any r 0 (cc-st) _ y0 _ HX5.out.2
  go_wp2_with fail
  (with_reducible refine HR2.out.mono ?_)
  rintro e w6 ⟨rfl,rfl⟩
  go_wp2
  go_end0
  exact dealLeafF_end d HXY.out.1 HXY.out.2 hbr pz1 pz2 (by omega) H3.out.2.2.2 H3.out.2.2.1 HW.out.2.2 HW.out.1 HW.out.2.1

set_option maxHeartbeats 8000000 in
theorem dealInnerF_any (d b r n1 n2 c1 c2 st:Nat) (a1 a2:Option Addr) (x0 y0:Int) (xs ys:List Value) (l:List (Ro d)) (S:Nat->Prop) (W:World) (hb:Bx W b 179 #[.int .i64 x0,.slice a1 n1 c1]) (hr:Bx W r 179 #[.int .i64 y0,.slice a2 n2 c2]) (hbr:b≠r) (h1:RdV W a1 n1 xs) (h2:RdV W a2 n2 ys) (hl:n1+n2=l.length) (hk:∀k (h:k<l.length),∃u,(xs++ys)[k]?=some u/\TAo S W d l[k] u) (hSb:¬ S b) (hSr:¬ S r) (hkeys:(l.flatMap (keysR d)).length<=1099511627776) (hst:st=n1+n2) (hst0:0<st) (hn:n1+n2<=1000) :
  Calls Tryz.prog 137 #[.iface 174 (.pointer (some ⟨b,0,none⟩)),.iface 174 (.pointer (some ⟨r,0,none⟩)),.int .i64 (st:Int)] W fun e w'=>e=.returned (.tuple #[])/\Fr2 W w' b r/\TAo (fun x=>S x\/x=b\/W.heap.size<=x) w' (d+1) (.inr ((l.drop 0).take st)) (.iface 174 (.pointer (some ⟨b,0,none⟩))):=by
 have HK:Hid ((∀k (h:k<l.length),∃u,(xs++ys)[k]?=some u/\TAo S W d l[k] u)/\¬ S b/\¬ S r):=⟨hk,hSb,hSr⟩
 have HL:Hid (n1+n2=l.length/\(l.flatMap (keysR d)).length<=1099511627776):=⟨hl,hkeys⟩
 have HRD:Hid (RdV W a1 n1 xs/\RdV W a2 n2 ys):=⟨h1,h2⟩
 have HX:Hid (Bx W b 179 #[.int .i64 x0,.slice a1 n1 c1]/\Bx W r 179 #[.int .i64 y0,.slice a2 n2 c2]):=⟨hb,hr⟩
 have p1:=hb.cell 1
 have p2:=hr.cell 1
 simp at p1 p2
 have pz1:=hb.lt
 have pz2:=hr.lt
 have hst1:st<=n1+n2:=by omega
 have hst2:n1+n2<=st:=by omega
 clear hst
 clear h1 h2 hb hr hk hSb hSr hl hkeys
 have t3:=ta3 (.pointer (some ⟨b,0,none⟩))
 have t4:=ta4 (.pointer (some ⟨b,0,none⟩))
 have t5:=ta5 (.pointer (some ⟨r,0,none⟩))
 go_enter Tryz.func137,Tryz.ntmps137
 go_upto_region 8 with fail
 have HConc:Hid (Calls Tryz.prog 163 #[.slice (some ⟨W.heap.size,0,none⟩) 2 2] (W.alloc (.cells #[.slice a1 n1 c1,.slice a2 n2 c2] 175)).drew fun e w'=>∃gg cc,e=.returned (.slice (some ⟨gg,0,none⟩) (n1+n2) cc)/\w'.ownsRow (W.alloc (.cells #[.slice a1 n1 c1,.slice a2 n2 c2] 175)).drew.heap.size 68 1 (.slice (some ⟨gg,0,none⟩) (n1+n2) cc) (n1+n2) (xs++ys)/\Below (W.alloc (.cells #[.slice a1 n1 c1,.slice a2 n2 c2] 175)).drew.heap.size (W.alloc (.cells #[.slice a1 n1 c1,.slice a2 n2 c2] 175)).drew w'):=by
  have nb:=(Bx.new W #[.slice a1 n1 c1,.slice a2 n2 c2] 175).drew
  have hbl:Below W.heap.size W (W.alloc (.cells #[.slice a1 n1 c1,.slice a2 n2 c2] 175)).drew:=(below_alloc W _).drew
  exact concatN_any W.heap.size 2 n1 n2 c1 c2 a1 a2 xs ys _ ((nb.cell 0).trans (by simp)) ((nb.cell 1).trans (by simp)) (HRD.out.1.below hbl) (HRD.out.2.below hbl) (by omega) hn
 have HB0:Hid (∀w2,Below (W.alloc (.cells #[.slice a1 n1 c1,.slice a2 n2 c2] 175)).drew.heap.size (W.alloc (.cells #[.slice a1 n1 c1,.slice a2 n2 c2] 175)).drew w2->Below W.heap.size W w2):=fun w2 h=>(below_alloc W _).drew.trans (h.mono (by show W.heap.size<=(W.alloc _).heap.size;simp))
 refine wp_region_late (S:=fun _=>True) 22 (by kernel_rfl) trivial (fun hHeld=>?_)
 refine tk 0 .zero (v:=?_) ?_ ?_
 rotate_left
 ·(intro w h;go_simp) <;> with_reducible rfl
 simp only [tkp]
 refine tk 1 (.succ .zero) (v:=?_) ?_ ?_
 rotate_left
 ·(intro w h;go_simp) <;> with_reducible rfl
 simp only [tkp]
 refine tk 2 (.succ (.succ .zero)) (v:=?_) ?_ ?_
 rotate_left
 ·(intro w h;go_simp) <;> with_reducible rfl
 simp only [tkp]
 refine tk 3 (.succ (.succ (.succ .zero))) (v:=?_) ?_ ?_
 rotate_left
 ·(intro w h;go_simp) <;> with_reducible rfl
 simp only [tkp]
 refine tk 4 (.succ (.succ (.succ (.succ .zero)))) (v:=?_) ?_ ?_
 rotate_left
 ·(intro w h;go_simp) <;> with_reducible rfl
 simp only [tkp]
 refine tk 6 (.s5 (.succ .zero)) (v:=?_) ?_ ?_
 rotate_left
 ·(intro w h;go_simp) <;> with_reducible rfl
 simp only [tkp]
 refine tk 7 (.s5 (.succ (.succ .zero))) (v:=?_) ?_ ?_
 rotate_left
 ·(intro w h;go_simp) <;> with_reducible rfl
 simp only [tkp]
 refine tk 8 (.s5 (.succ (.succ (.succ .zero)))) (v:=?_) ?_ ?_
 rotate_left
 ·(intro w h;go_simp) <;> with_reducible rfl
 simp only [tkp]
 refine tk 12 (.s5 (.s5 (.succ (.succ .zero)))) (v:=?_) ?_ ?_
 rotate_left
 ·(intro w h;go_simp) <;> with_reducible rfl
 simp only [tkp]
 refine late_two 5 9 (.s5 .zero) (.s5 (.succ (.succ (.succ (.succ .zero))))) (by kernel_rfl) (fun K hK=>?_) (fun K hK=>?_)
 ·skip
  go_simp
  refine hK.out _ _ ?_ (fun hG=>?_)
  ·(intro _;trivial)
  clear hK K
  replace hHeld:=hG (by decide)
  clear hG
  try simp only [tkp]
  refine tk1 9 (.s5 (.succ (.succ (.succ (.succ .zero))))) (fun K hK=>?_)
  go_simp
  refine hK.out _ _ ?_ (fun hG=>?_)
  ·(intro _;trivial)
  clear hK K
  replace hHeld:=hG (by decide)
  clear hG
  try simp only [tkp]
  refine tk1 10 (.s5 (.s5 .zero)) (fun K hK=>?_)
  go_simp
  refine hK.out _ _ ?_ (fun hG=>?_)
  ·(intro _;trivial)
  clear hK K
  replace hHeld:=hG (by decide)
  clear hG
  try simp only [tkp]
  refine tk1 11 (.s5 (.s5 (.succ .zero))) (fun K hK=>?_)
  refine step_t1 (by rfl) 163 53 _ (by rfl) (.slice (some ⟨W.heap.size,0,none⟩) 2 2) (by rfl) (fun _ _=>by rfl) ?_
  (with_reducible refine HConc.out.mono ?_)
  rintro e w2 ⟨gg,cc,rfl,ho2,hb2⟩
  refine ⟨_,rfl,?_⟩
  have H2:Hid (w2.ownsRow (W.heap.size+1) 68 1 (.slice (some ⟨gg,0,none⟩) (n1+n2) cc) (n1+n2) (xs++ys)/\Below W.heap.size W w2):=⟨by have q:(W.alloc (.cells #[.slice a1 n1 c1,.slice a2 n2 c2] 175)).drew.heap.size=W.heap.size+1:=(show (W.alloc (.cells #[.slice a1 n1 c1,.slice a2 n2 c2] 175)).heap.size=W.heap.size+1 by simp);rw [q] at ho2;exact ho2,HB0.out w2 hb2⟩
  have hcc:=own_cap H2.out.1
  clear ho2 hb2
  refine hK.out _ _ ?_ (fun hG=>?_)
  ·(intro _;trivial)
  clear hK K
  replace hHeld:=hG (by decide)
  clear hG
  try simp only [tkp]
  refine tk1 13 (.s5 (.s5 (.succ (.succ (.succ .zero))))) (fun K hK=>?_)
  have HCut:Hid (Calls Tryz.prog 162 #[.slice (some ⟨gg,0,none⟩) (n1+n2) cc,.int .i64 (st:Int)] w2 fun e w'=>e=.returned (.tuple #[.slice (some ⟨gg,0,none⟩) st st,.slice (some ⟨gg,cutAt cc st,none⟩) 0 (cc-st)])/\w'=w2.drew):=cutNF_any gg (n1+n2) cc st w2 (by omega) hcc.1
  refine step_t2 (by rfl) 162 54 55 _ (by rfl) (.slice (some ⟨gg,0,none⟩) (n1+n2) cc) (.int .i64 (st:Int)) (by rfl) (by rfl) (fun _ _=>by rfl) ?_
  (with_reducible refine HCut.out.mono ?_)
  rintro e w3 ⟨rfl,hw3⟩
  refine ⟨_,rfl,?_⟩
  have H3:Hid (Bx w3 b 179 #[.int .i64 x0,.slice a1 n1 c1]/\Bx w3 r 179 #[.int .i64 y0,.slice a2 n2 c2]/\w3.ownsRow (W.heap.size+1) 68 1 (.slice (some ⟨gg,0,none⟩) (n1+n2) cc) (n1+n2) (xs++ys)/\Below W.heap.size W w3):=by
   subst hw3
   exact ⟨(HX.out.1.below H2.out.2).drew,(HX.out.2.below H2.out.2).drew,own_below H2.out.1 (Below.refl _ _).drew,H2.out.2.drew⟩
  have l1:=H3.out.1.cell 1
  have l2:=H3.out.2.1.cell 1
  simp at l1 l2
  have lf1:=H3.out.1.frozen 1
  have lf2:=H3.out.2.1.frozen 1
  have lz1:=H3.out.1.lt
  have lz2:=H3.out.2.1.lt
  clear hw3 HCut
  refine hK.out _ _ ?_ (fun hG=>?_)
  ·(intro _;trivial)
  clear hK K
  replace hHeld:=hG (by decide)
  clear hG
  try simp only [tkp]
  refine late_one 14 (.s5 (.s5 (.succ (.succ (.succ (.succ .zero)))))) (by kernel_rfl) (fun K hK=>?_)
  go_simp
  refine hK.out _ _ ?_ (fun hG=>?_)
  ·(intro _;trivial)
  clear hK K
  replace hHeld:=hG (by decide)
  clear hG
  try simp only [tkp]
  refine tk 15 (.s5 (.s5 (.s5 .zero))) (v:=?_) ?_ ?_
  rotate_left
  ·(intro w h;go_simp) <;> with_reducible rfl
  simp only [tkp]
  refine tk 16 (.s5 (.s5 (.s5 (.succ .zero)))) (v:=?_) ?_ ?_
  rotate_left
  ·(intro w h;go_simp) <;> with_reducible rfl
  simp only [tkp]
  refine tk 17 (.s5 (.s5 (.s5 (.succ (.succ .zero))))) (v:=?_) ?_ ?_
  rotate_left
  ·(intro w h;go_simp) <;> with_reducible rfl
  simp only [tkp]
  refine late_take 18 (.s5 (.s5 (.s5 (.succ (.succ (.succ .zero)))))) (v:=?_) (by kernel_rfl) (by kernel_rfl) (by kernel_rfl) (by kernel_rfl) (fun _ _ _ h=>h) (by rfl) ?_ (by assumption) ?_
  rotate_left
  ·(intro w h;go_simp) <;> with_reducible rfl
  simp only [tkp]
  refine late_one 19 (.s5 (.s5 (.s5 (.succ (.succ (.succ (.succ .zero))))))) (by kernel_rfl) (fun K hK=>?_)
  go_simp
  refine hK.out _ _ ?_ (fun hG=>?_)
  ·(intro _;trivial)
  clear hK K
  replace hHeld:=hG (by decide)
  clear hG
  try simp only [tkp]
  refine tk1 20 (.s5 (.s5 (.s5 (.s5 .zero)))) (fun K hK=>?_)
  go_simp
  refine hK.out _ _ ?_ (fun hG=>?_)
  ·(intro _;trivial)
  clear hK K
  replace hHeld:=hG (by decide)
  clear hG
  try simp only [tkp]
  refine tk1 21 (.s5 (.s5 (.s5 (.s5 (.succ .zero))))) (fun K hK=>?_)
  go_simp
  refine hK.out _ _ ?_ (fun hG=>?_)
  ·(intro _;trivial)
  clear hK K
  replace hHeld:=hG (by decide)
  clear hG
  try simp only [tkp]
  refine late_one 22 (.s5 (.s5 (.s5 (.s5 (.succ (.succ .zero)))))) (by kernel_rfl) (fun K hK=>?_)
  go_simp
  refine hK.out _ _ ?_ (fun hG=>?_)
  ·(intro hne;exact absurd rfl hne)
  clear hK K hG
  refine wpLate_done (by kernel_rfl) ?_ _
  have HW:Hid (Bx ((w3.setCell ⟨b,1,none⟩ (.slice (some ⟨gg,0,none⟩) st st)).setCell ⟨r,1,none⟩ (.slice (some ⟨gg,cutAt cc st,none⟩) 0 (cc-st))) b 179 #[.int .i64 x0,.slice (some ⟨gg,0,none⟩) st st]/\Bx ((w3.setCell ⟨b,1,none⟩ (.slice (some ⟨gg,0,none⟩) st st)).setCell ⟨r,1,none⟩ (.slice (some ⟨gg,cutAt cc st,none⟩) 0 (cc-st))) r 179 #[.int .i64 y0,.slice (some ⟨gg,cutAt cc st,none⟩) 0 (cc-st)]/\Fr2 w3 ((w3.setCell ⟨b,1,none⟩ (.slice (some ⟨gg,0,none⟩) st st)).setCell ⟨r,1,none⟩ (.slice (some ⟨gg,cutAt cc st,none⟩) 0 (cc-st))) b r):=by
   refine ⟨?_,?_,fr2_set2 _ _ _ _ _ _ _⟩
   ·have q:=(H3.out.1.set 1 (.slice (some ⟨gg,0,none⟩) st st)).other (p:=⟨r,1,none⟩) hbr (.slice (some ⟨gg,cutAt cc st,none⟩) 0 (cc-st))
    simpa using q
   ·have q:=(H3.out.2.1.other (p:=⟨b,1,none⟩) hbr.symm (.slice (some ⟨gg,0,none⟩) st st)).set 1 (.slice (some ⟨gg,cutAt cc st,none⟩) 0 (cc-st))
    simpa using q
  generalize (w3.setCell ⟨b,1,none⟩ (.slice (some ⟨gg,0,none⟩) st st)).setCell ⟨r,1,none⟩ (.slice (some ⟨gg,cutAt cc st,none⟩) 0 (cc-st))=W4 at HW ⊢
  clear l1 l2 lf1 lf2 lz1 lz2 hHeld
  have hcc2:st<=cc:=by omega
  have HF:Hid (Fr2 W W4 b r):=(fr2_of b r H3.out.2.2.2).trans HW.out.2.2
  have hgl:=own_lt H3.out.2.2.1 gg rfl
  have HCe:Hid (∀j u,(xs++ys)[j]?=some u->W4.cell? ⟨gg,j,none⟩=some u):=by
   intro j u hj
   have hjl:=(List.getElem?_eq_some_iff.1 hj).1
   have hz:=H3.out.2.2.1.1
   rw [World.cell?_of_block (a:=⟨gg,j,none⟩) (HW.out.2.2.2.2.2.2 gg hgl.2 (by omega) (by omega)),H3.out.2.2.1.cellAt j (by omega)]
   exact hj
  have HR1:Hid (Calls Tryz.prog 118 #[.pointer (some ⟨b,0,none⟩)] W4 fun e w'=>e=.returned (.tuple #[])/\W4.grownBy w' (some b)/\w'.heap.size=W4.heap.size/\Bx w' b 179 #[.int .i64 ((((l.drop 0).take st).flatMap (keysR d)).length:Int),.slice (some ⟨gg,0,none⟩) st st]):=by
   refine recountO_any d b gg 0 st st ((l.drop 0).take st) x0 (((xs++ys).drop 0).take st) W4 HW.out.1 (by rw [List.length_take,List.length_drop,<- HL.out.1];omega) (by omega) ?_ (fun j u hj=>?_) (by omega) (fun k h=>?_)
   ·have:=flat_take_le (keysR d) l st
    rw [List.drop_zero]
    have:=HL.out.2
    omega
   ·rw [List.getElem?_take] at hj
    split at hj
    ·rw [List.getElem?_drop] at hj
     exact HCe.out _ u hj
    ·cases hj
   ·rw [List.length_take,List.length_drop] at h
    obtain ⟨u,bb,q1,q2,q3,q4⟩:=dealIn_kid HK.out.1 HK.out.2.1 HK.out.2.2 HF.out k (by omega)
    refine ⟨u,bb,by rw [List.getElem?_take,if_pos (by omega),List.getElem?_drop,Nat.zero_add];exact q1,q2.1,?_,q4⟩
    rw [q3,List.getElem_take,List.getElem_drop]
    simp
  go_wp2_with fail
  (with_reducible refine HR1.out.mono ?_)
  rintro e w5 ⟨rfl,hg5,hs5,hx5⟩
  have HX5:Hid (W4.grownBy w5 (some b)/\Bx w5 b 179 #[.int .i64 ((((l.drop 0).take st).flatMap (keysR d)).length:Int),.slice (some ⟨gg,0,none⟩) st st]/\Bx w5 r 179 #[.int .i64 y0,.slice (some ⟨gg,cutAt cc st,none⟩) 0 (cc-st)]):=⟨hg5,hx5,HW.out.2.1.grown hg5 (fun e=>hbr (by injection e))⟩
  clear hg5 hs5 hx5 HR1
  have HR2:Hid (Calls Tryz.prog 118 #[.pointer (some ⟨r,0,none⟩)] w5 fun e w'=>e=.returned (.tuple #[])/\w5.grownBy w' (some r)/\w'.heap.size=w5.heap.size/\Bx w' r 179 #[.int .i64 ((([]:List (Ro d)).flatMap (keysR d)).length:Int),.slice (some ⟨gg,cutAt cc st,none⟩) 0 (cc-st)]):=by
   exact recountO_any d r gg (cutAt cc st) 0 (cc-st) [] y0 [] w5 HX5.out.2.2 rfl (by omega) (by simp) (fun j u hj=>by simp at hj) (by omega) (fun k h=>by simp at h)
  go_wp2_with fail
  (with_reducible refine HR2.out.mono ?_)
  rintro e w6 ⟨rfl,hg6,hs6,hx6⟩
  have HX6:Hid (Fr2 W w6 b r/\w5.grownBy w6 (some r)/\Bx w6 b 179 #[.int .i64 ((((l.drop 0).take st).flatMap (keysR d)).length:Int),.slice (some ⟨gg,0,none⟩) st st]/\Bx w6 r 179 #[.int .i64 ((([]:List (Ro d)).flatMap (keysR d)).length:Int),.slice (some ⟨gg,cutAt cc st,none⟩) 0 (cc-st)]):=⟨(HF.out.trans (fr2_grown HX5.out.1)).trans (fr2_grown' hg6),hg6,HX5.out.2.1.grown hg6 (fun e=>hbr (by injection e with e;exact e.symm)),hx6⟩
  clear hg6 hs6 hx6 HR2
  go_wp2
  go_end0
  have hL:=HL.out.1
  have hs4:=HF.out.2.2.2.1
  have hz4:=HW.out.2.2.2.2.2.1
  have hz5:=HX5.out.1.size
  have hz6:=HX6.out.2.1.size
  have hce6:∀j u,(xs++ys)[j]?=some u->w6.cell? ⟨gg,j,none⟩=some u:=fun j u hj=>HX6.out.2.1.cell (HX5.out.1.cell (HCe.out j u hj) (fun e=>by injection e with e;have e' : gg=b:=e;omega)) (fun e=>by injection e with e;have e' : gg=r:=e;omega)
  refine ⟨rfl,HX6.out.1,dealIn_side HK.out.1 HK.out.2.1 HK.out.2.2 HX6.out.1 HX6.out.2.2.1 (by omega) (by omega) (by omega) (by omega) hst0 (by omega) (fun j u hj=>?_)⟩
  rw [List.getElem?_take] at hj
  split at hj
  ·rw [List.getElem?_drop] at hj
   exact hce6 _ u hj
  ·cases hj
 ·skip
  go_simp
  refine hK.out _ _ ?_ (fun hG=>?_)
  ·(intro _;trivial)
  clear hK K
  replace hHeld:=hG (by decide)
  clear hG
  try simp only [tkp]
  refine tk1 5 (.s5 .zero) (fun K hK=>?_)
  go_simp
  refine hK.out _ _ ?_ (fun hG=>?_)
  ·(intro _;trivial)
  clear hK K
  replace hHeld:=hG (by decide)
  clear hG
  try simp only [tkp]
  refine tk1 10 (.s5 (.s5 .zero)) (fun K hK=>?_)
  go_simp
  refine hK.out _ _ ?_ (fun hG=>?_)
  ·(intro _;trivial)
  clear hK K
  replace hHeld:=hG (by decide)
  clear hG
  try simp only [tkp]
  refine tk1 11 (.s5 (.s5 (.succ .zero))) (fun K hK=>?_)
  refine step_t1 (by rfl) 163 53 _ (by rfl) (.slice (some ⟨W.heap.size,0,none⟩) 2 2) (by rfl) (fun _ _=>by rfl) ?_
  (with_reducible refine HConc.out.mono ?_)
  rintro e w2 ⟨gg,cc,rfl,ho2,hb2⟩
  refine ⟨_,rfl,?_⟩
  have H2:Hid (w2.ownsRow (W.heap.size+1) 68 1 (.slice (some ⟨gg,0,none⟩) (n1+n2) cc) (n1+n2) (xs++ys)/\Below W.heap.size W w2):=⟨by have q:(W.alloc (.cells #[.slice a1 n1 c1,.slice a2 n2 c2] 175)).drew.heap.size=W.heap.size+1:=(show (W.alloc (.cells #[.slice a1 n1 c1,.slice a2 n2 c2] 175)).heap.size=W.heap.size+1 by simp);rw [q] at ho2;exact ho2,HB0.out w2 hb2⟩
  have hcc:=own_cap H2.out.1
  clear ho2 hb2
  refine hK.out _ _ ?_ (fun hG=>?_)
  ·(intro _;trivial)
  clear hK K
  replace hHeld:=hG (by decide)
  clear hG
  try simp only [tkp]
  refine tk1 13 (.s5 (.s5 (.succ (.succ (.succ .zero))))) (fun K hK=>?_)
  have HCut:Hid (Calls Tryz.prog 162 #[.slice (some ⟨gg,0,none⟩) (n1+n2) cc,.int .i64 (st:Int)] w2 fun e w'=>e=.returned (.tuple #[.slice (some ⟨gg,0,none⟩) st st,.slice (some ⟨gg,cutAt cc st,none⟩) 0 (cc-st)])/\w'=w2.drew):=cutNF_any gg (n1+n2) cc st w2 (by omega) hcc.1
  refine step_t2 (by rfl) 162 54 55 _ (by rfl) (.slice (some ⟨gg,0,none⟩) (n1+n2) cc) (.int .i64 (st:Int)) (by rfl) (by rfl) (fun _ _=>by rfl) ?_
  (with_reducible refine HCut.out.mono ?_)
  rintro e w3 ⟨rfl,hw3⟩
  refine ⟨_,rfl,?_⟩
  have H3:Hid (Bx w3 b 179 #[.int .i64 x0,.slice a1 n1 c1]/\Bx w3 r 179 #[.int .i64 y0,.slice a2 n2 c2]/\w3.ownsRow (W.heap.size+1) 68 1 (.slice (some ⟨gg,0,none⟩) (n1+n2) cc) (n1+n2) (xs++ys)/\Below W.heap.size W w3):=by
   subst hw3
   exact ⟨(HX.out.1.below H2.out.2).drew,(HX.out.2.below H2.out.2).drew,own_below H2.out.1 (Below.refl _ _).drew,H2.out.2.drew⟩
  have l1:=H3.out.1.cell 1
  have l2:=H3.out.2.1.cell 1
  simp at l1 l2
  have lf1:=H3.out.1.frozen 1
  have lf2:=H3.out.2.1.frozen 1
  have lz1:=H3.out.1.lt
  have lz2:=H3.out.2.1.lt
  clear hw3 HCut
  refine hK.out _ _ ?_ (fun hG=>?_)
  ·(intro _;trivial)
  clear hK K
  replace hHeld:=hG (by decide)
  clear hG
  try simp only [tkp]
  refine late_one 14 (.s5 (.s5 (.succ (.succ (.succ (.succ .zero)))))) (by kernel_rfl) (fun K hK=>?_)
  go_simp
  refine hK.out _ _ ?_ (fun hG=>?_)
  ·(intro _;trivial)
  clear hK K
  replace hHeld:=hG (by decide)
  clear hG
  try simp only [tkp]
  refine tk 15 (.s5 (.s5 (.s5 .zero))) (v:=?_) ?_ ?_
  rotate_left
  ·(intro w h;go_simp) <;> with_reducible rfl
  simp only [tkp]
  refine tk 16 (.s5 (.s5 (.s5 (.succ .zero)))) (v:=?_) ?_ ?_
  rotate_left
  ·(intro w h;go_simp) <;> with_reducible rfl
  simp only [tkp]
  refine tk 17 (.s5 (.s5 (.s5 (.succ (.succ .zero))))) (v:=?_) ?_ ?_
  rotate_left
  ·(intro w h;go_simp) <;> with_reducible rfl
  simp only [tkp]
  refine late_take 18 (.s5 (.s5 (.s5 (.succ (.succ (.succ .zero)))))) (v:=?_) (by kernel_rfl) (by kernel_rfl) (by kernel_rfl) (by kernel_rfl) (fun _ _ _ h=>h) (by rfl) ?_ (by assumption) ?_
  rotate_left
  ·(intro w h;go_simp) <;> with_reducible rfl
  simp only [tkp]
  refine late_one 19 (.s5 (.s5 (.s5 (.succ (.succ (.succ (.succ .zero))))))) (by kernel_rfl) (fun K hK=>?_)
  go_simp
  refine hK.out _ _ ?_ (fun hG=>?_)
  ·(intro _;trivial)
  clear hK K
  replace hHeld:=hG (by decide)
  clear hG
  try simp only [tkp]
  refine tk1 20 (.s5 (.s5 (.s5 (.s5 .zero)))) (fun K hK=>?_)
  go_simp
  refine hK.out _ _ ?_ (fun hG=>?_)
  ·(intro _;trivial)
  clear hK K
  replace hHeld:=hG (by decide)
  clear hG
  try simp only [tkp]
  refine tk1 21 (.s5 (.s5 (.s5 (.s5 (.succ .zero))))) (fun K hK=>?_)
  go_simp
  refine hK.out _ _ ?_ (fun hG=>?_)
  ·(intro _;trivial)
  clear hK K
  replace hHeld:=hG (by decide)
  clear hG
  try simp only [tkp]
  refine late_one 22 (.s5 (.s5 (.s5 (.s5 (.succ (.succ .zero)))))) (by kernel_rfl) (fun K hK=>?_)
  go_simp
  refine hK.out _ _ ?_ (fun hG=>?_)
  ·(intro hne;exact absurd rfl hne)
  clear hK K hG
  refine wpLate_done (by kernel_rfl) ?_ _
  have HW:Hid (Bx ((w3.setCell ⟨b,1,none⟩ (.slice (some ⟨gg,0,none⟩) st st)).setCell ⟨r,1,none⟩ (.slice (some ⟨gg,cutAt cc st,none⟩) 0 (cc-st))) b 179 #[.int .i64 x0,.slice (some ⟨gg,0,none⟩) st st]/\Bx ((w3.setCell ⟨b,1,none⟩ (.slice (some ⟨gg,0,none⟩) st st)).setCell ⟨r,1,none⟩ (.slice (some ⟨gg,cutAt cc st,none⟩) 0 (cc-st))) r 179 #[.int .i64 y0,.slice (some ⟨gg,cutAt cc st,none⟩) 0 (cc-st)]/\Fr2 w3 ((w3.setCell ⟨b,1,none⟩ (.slice (some ⟨gg,0,none⟩) st st)).setCell ⟨r,1,none⟩ (.slice (some ⟨gg,cutAt cc st,none⟩) 0 (cc-st))) b r):=by
   refine ⟨?_,?_,fr2_set2 _ _ _ _ _ _ _⟩
   ·have q:=(H3.out.1.set 1 (.slice (some ⟨gg,0,none⟩) st st)).other (p:=⟨r,1,none⟩) hbr (.slice (some ⟨gg,cutAt cc st,none⟩) 0 (cc-st))
    simpa using q
   ·have q:=(H3.out.2.1.other (p:=⟨b,1,none⟩) hbr.symm (.slice (some ⟨gg,0,none⟩) st st)).set 1 (.slice (some ⟨gg,cutAt cc st,none⟩) 0 (cc-st))
    simpa using q
  generalize (w3.setCell ⟨b,1,none⟩ (.slice (some ⟨gg,0,none⟩) st st)).setCell ⟨r,1,none⟩ (.slice (some ⟨gg,cutAt cc st,none⟩) 0 (cc-st))=W4 at HW ⊢
  clear l1 l2 lf1 lf2 lz1 lz2 hHeld
  have hcc2:st<=cc:=by omega
  have HF:Hid (Fr2 W W4 b r):=(fr2_of b r H3.out.2.2.2).trans HW.out.2.2
  have hgl:=own_lt H3.out.2.2.1 gg rfl
  have HCe:Hid (∀j u,(xs++ys)[j]?=some u->W4.cell? ⟨gg,j,none⟩=some u):=by
   intro j u hj
   have hjl:=(List.getElem?_eq_some_iff.1 hj).1
   have hz:=H3.out.2.2.1.1
   rw [World.cell?_of_block (a:=⟨gg,j,none⟩) (HW.out.2.2.2.2.2.2 gg hgl.2 (by omega) (by omega)),H3.out.2.2.1.cellAt j (by omega)]
   exact hj
  have HR1:Hid (Calls Tryz.prog 118 #[.pointer (some ⟨b,0,none⟩)] W4 fun e w'=>e=.returned (.tuple #[])/\W4.grownBy w' (some b)/\w'.heap.size=W4.heap.size/\Bx w' b 179 #[.int .i64 ((((l.drop 0).take st).flatMap (keysR d)).length:Int),.slice (some ⟨gg,0,none⟩) st st]):=by
   refine recountO_any d b gg 0 st st ((l.drop 0).take st) x0 (((xs++ys).drop 0).take st) W4 HW.out.1 (by rw [List.length_take,List.length_drop,<- HL.out.1];omega) (by omega) ?_ (fun j u hj=>?_) (by omega) (fun k h=>?_)
   ·have:=flat_take_le (keysR d) l st
    rw [List.drop_zero]
    have:=HL.out.2
    omega
   ·rw [List.getElem?_take] at hj
    split at hj
    ·rw [List.getElem?_drop] at hj
     exact HCe.out _ u hj
    ·cases hj
   ·rw [List.length_take,List.length_drop] at h
    obtain ⟨u,bb,q1,q2,q3,q4⟩:=dealIn_kid HK.out.1 HK.out.2.1 HK.out.2.2 HF.out k (by omega)
    refine ⟨u,bb,by rw [List.getElem?_take,if_pos (by omega),List.getElem?_drop,Nat.zero_add];exact q1,q2.1,?_,q4⟩
    rw [q3,List.getElem_take,List.getElem_drop]
    simp
  go_wp2_with fail
  (with_reducible refine HR1.out.mono ?_)
  rintro e w5 ⟨rfl,hg5,hs5,hx5⟩
  have HX5:Hid (W4.grownBy w5 (some b)/\Bx w5 b 179 #[.int .i64 ((((l.drop 0).take st).flatMap (keysR d)).length:Int),.slice (some ⟨gg,0,none⟩) st st]/\Bx w5 r 179 #[.int .i64 y0,.slice (some ⟨gg,cutAt cc st,none⟩) 0 (cc-st)]):=⟨hg5,hx5,HW.out.2.1.grown hg5 (fun e=>hbr (by injection e))⟩
  clear hg5 hs5 hx5 HR1
  have HR2:Hid (Calls Tryz.prog 118 #[.pointer (some ⟨r,0,none⟩)] w5 fun e w'=>e=.returned (.tuple #[])/\w5.grownBy w' (some r)/\w'.heap.size=w5.heap.size/\Bx w' r 179 #[.int .i64 ((([]:List (Ro d)).flatMap (keysR d)).length:Int),.slice (some ⟨gg,cutAt cc st,none⟩) 0 (cc-st)]):=by
   exact recountO_any d r gg (cutAt cc st) 0 (cc-st) [] y0 [] w5 HX5.out.2.2 rfl (by omega) (by simp) (fun j u hj=>by simp at hj) (by omega) (fun k h=>by simp at h)
  go_wp2_with fail
  (with_reducible refine HR2.out.mono ?_)
  rintro e w6 ⟨rfl,hg6,hs6,hx6⟩
  have HX6:Hid (Fr2 W w6 b r/\w5.grownBy w6 (some r)/\Bx w6 b 179 #[.int .i64 ((((l.drop 0).take st).flatMap (keysR d)).length:Int),.slice (some ⟨gg,0,none⟩) st st]/\Bx w6 r 179 #[.int .i64 ((([]:List (Ro d)).flatMap (keysR d)).length:Int),.slice (some ⟨gg,cutAt cc st,none⟩) 0 (cc-st)]):=⟨(HF.out.trans (fr2_grown HX5.out.1)).trans (fr2_grown' hg6),hg6,HX5.out.2.1.grown hg6 (fun e=>hbr (by injection e with e;exact e.symm)),hx6⟩
  clear hg6 hs6 hx6 HR2
  go_wp2
  go_end0
  have hL:=HL.out.1
  have hs4:=HF.out.2.2.2.1
  have hz4:=HW.out.2.2.2.2.2.1
  have hz5:=HX5.out.1.size
  have hz6:=HX6.out.2.1.size
  have hce6:∀j u,(xs++ys)[j]?=some u->w6.cell? ⟨gg,j,none⟩=some u:=fun j u hj=>HX6.out.2.1.cell (HX5.out.1.cell (HCe.out j u hj) (fun e=>by injection e with e;have e' : gg=b:=e;omega)) (fun e=>by injection e with e;have e' : gg=r:=e;omega)
  refine ⟨rfl,HX6.out.1,dealIn_side HK.out.1 HK.out.2.1 HK.out.2.2 HX6.out.1 HX6.out.2.2.1 (by omega) (by omega) (by omega) (by omega) hst0 (by omega) (fun j u hj=>?_)⟩
  rw [List.getElem?_take] at hj
  split at hj
  ·rw [List.getElem?_drop] at hj
   exact hce6 _ u hj
  ·cases hj
end Go.Proofs.YtcnollkkigiobaaGreat
