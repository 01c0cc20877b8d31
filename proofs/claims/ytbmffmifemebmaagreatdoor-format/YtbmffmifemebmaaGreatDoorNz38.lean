import Derived.Test.YtbmffmifemebmaaGreatDoorNz37
import Derived.Test.YtbmffmifemebmaaGreatDoorNz31
import Derived.Test.YtbmffmifemebmaaGreatDoorNz19
set_option linter.unusedVariables false
set_option maxRecDepth 100000
namespace Go.Proofs.YtbmffmifemebmaaGreatDoor
open Go.RowKit Go.Deep

theorem step_f2 {ops:Array Oper} {o:Oper} {a:Act} {w:World} {K:Act->World->Prop} {Q:Exit->Act->World->Prop} {E:Prop} (hgd:o.guard=none) (k:Nat) (i j:Nat) (tys:Array TypeId)
  (ho:o.op=.call { callee:=.value (.func k),args:=#[.tmp i,.tmp j],argTypes:=tys }) (u v:Value) (hx:a.tmps[i]?.getD undef=u) (hy:a.tmps[j]?.getD undef=v) (heg:∀args w,(callFunc k args).run Tryz.prog w=.ok (.enter k args) w)
  (h:Calls Tryz.prog k #[u,v] w fun e w'=>∃r,e=.returned r/\K (a.put o.dst r) w') :
  if Region.wanted o (yielded ops a.tmps)=true then Oper.wp Tryz.prog o a w K Q else E:=by
 have hw:Region.wanted o (yielded ops a.tmps)=true:=by simp [Region.wanted,hgd]
 rw [if_pos hw]
 unfold Oper.wp
 simp [execOp,ho,resolve,invoke,hx,hy,go_sem,heg]
 refine h.mono ?_
 rintro e w' ⟨u,rfl,hk⟩
 exact hk

theorem step_f4 {ops:Array Oper} {o:Oper} {a:Act} {w:World} {K:Act->World->Prop} {Q:Exit->Act->World->Prop} {E:Prop} (hgd:o.guard=none) (k:Nat) (i j l m:Nat) (tys:Array TypeId)
  (ho:o.op=.call { callee:=.value (.func k),args:=#[.tmp i,.tmp j,.tmp l,.tmp m],argTypes:=tys }) (u v x y:Value) (hx:a.tmps[i]?.getD undef=u) (hy:a.tmps[j]?.getD undef=v) (hz:a.tmps[l]?.getD undef=x) (ht:a.tmps[m]?.getD undef=y) (heg:∀args w,(callFunc k args).run Tryz.prog w=.ok (.enter k args) w)
  (h:Calls Tryz.prog k #[u,v,x,y] w fun e w'=>∃r,e=.returned r/\K (a.put o.dst r) w') :
  if Region.wanted o (yielded ops a.tmps)=true then Oper.wp Tryz.prog o a w K Q else E:=by
 have hw:Region.wanted o (yielded ops a.tmps)=true:=by simp [Region.wanted,hgd]
 rw [if_pos hw]
 unfold Oper.wp
 simp [execOp,ho,resolve,invoke,hx,hy,hz,ht,go_sem,heg]
 refine h.mono ?_
 rintro e w' ⟨u,rfl,hk⟩
 exact hk

theorem bx_setNo {b b' : Nat} {t:TypeId} {c:Array Value} (hne:b'≠b):∀{l:List Value} {i:Nat} {w:World},Bx w b' t c->Bx (setN b l i w) b' t c
 | [],_,_,h=>h
 | _::l,i,_,h=>bx_setNo hne (l:=l) ((Below.heap_setCell _ ⟨b,i,none⟩ _ _ hne).trans h)

set_option maxHeartbeats 8000000 in
theorem implFmt_e (n:Nat) (x:Addr) (w:World) (h1:16<=n) (h2:n<=1024) (hg:w.cell? ⟨0,0,none⟩=some (.iface 397 (.pointer (some x)))) :
  Calls Tryz.prog 5 #[.int .i64 n] w (RetSr w w.heap.size (n*64) dk2):=by
 have HG:Hid (w.cell? ⟨0,0,none⟩=some (.iface 397 (.pointer (some x)))):=hg
 clear hg
 have hlo:¬ (n:Int)<16:=by omega
 have hhi:¬ (1024:Int)<(n:Int):=by omega
 go_enter Tryz.func5,Tryz.ntmps5
 go_wp2_with fail
 obtain ⟨rb,hrb⟩:∃y,y=w.heap.size:=⟨_,rfl⟩
 obtain ⟨bs,hbs⟩:∃y,y=w.heap.size+1:=⟨_,rfl⟩
 refine (implDict_e _).mono ?_
 rintro e w1 ⟨rfl,hb1⟩
 have H1:Hid (Bx w1 rb 37 #[.int .i64 0,.int .i64 0,.slice none 0 0,.slice none 0 0,.int .i64 0,.bool false,.int .i64 0,.int .i64 0,.int .i64 0,.int .i64 0,.int .i64 0,.int .i64 0,.slice none 0 0,.slice none 0 0]/\Below w.heap.size w w1/\rb=w.heap.size/\rb<bs/\Bx w1 bs 27 #[.int .i64 0,.int .i64 0,.int .i64 1]):=by
  have b1:=Bx.new (w.alloc (.cells #[.int .i64 0,.int .i64 0,.slice none 0 0,.slice none 0 0,.int .i64 0,.bool false,.int .i64 0,.int .i64 0,.int .i64 0,.int .i64 0,.int .i64 0,.int .i64 0,.slice none 0 0,.slice none 0 0] 37)) #[.int .i64 0,.int .i64 0,.int .i64 1] 27
  simp only [World.size_alloc] at b1
  rw [<- hbs] at b1
  have b0:Bx ((w.alloc (.cells #[.int .i64 0,.int .i64 0,.slice none 0 0,.slice none 0 0,.int .i64 0,.bool false,.int .i64 0,.int .i64 0,.int .i64 0,.int .i64 0,.int .i64 0,.int .i64 0,.slice none 0 0,.slice none 0 0] 37)).alloc (.cells #[.int .i64 0,.int .i64 0,.int .i64 1] 27)) rb 37 #[.int .i64 0,.int .i64 0,.slice none 0 0,.slice none 0 0,.int .i64 0,.bool false,.int .i64 0,.int .i64 0,.int .i64 0,.int .i64 0,.int .i64 0,.int .i64 0,.slice none 0 0,.slice none 0 0]:=by rw [hrb];exact (Bx.new _ _ _).alloc _
  exact ⟨b0.below hb1,((below_alloc _ _).alloc (by simp) _).trans (hb1.mono (by simp;omega)),hrb,by omega,b1.below hb1⟩
 rw [<- hbs,<- hrb]
 clear hb1 hrb hbs hlo hhi
 go_wp2_with fail
 refine (implIx _).mono ?_
 rintro e w2 ⟨gx,cx,Gx,Cx,Ax,rfl,hx2,hb2⟩
 have H2:Hid (Bx (w2.alloc (.cells #[.slice none 0 0,.slice none 0 0,.int .i64 0,.bool false,.int .i64 0,.int .i64 0,.int .i64 0,.int .i64 0,.int .i64 0,.int .i64 1,.slice none 0 0,.slice (some ⟨gx,0,none⟩) 6 cx] 35)) rb 37 #[.int .i64 0,.int .i64 0,.slice none 0 0,.slice none 0 0,.int .i64 0,.bool false,.int .i64 0,.int .i64 0,.int .i64 0,.int .i64 0,.int .i64 0,.int .i64 0,.slice none 0 0,.slice none 0 0]/\Below w.heap.size w (w2.alloc (.cells #[.slice none 0 0,.slice none 0 0,.int .i64 0,.bool false,.int .i64 0,.int .i64 0,.int .i64 0,.int .i64 0,.int .i64 0,.int .i64 1,.slice none 0 0,.slice (some ⟨gx,0,none⟩) 6 cx] 35))/\rb=w.heap.size/\rb<bs/\Bx (w2.alloc (.cells #[.slice none 0 0,.slice none 0 0,.int .i64 0,.bool false,.int .i64 0,.int .i64 0,.int .i64 0,.int .i64 0,.int .i64 0,.int .i64 1,.slice none 0 0,.slice (some ⟨gx,0,none⟩) 6 cx] 35)) bs 27 #[.int .i64 0,.int .i64 0,.int .i64 1]/\bs<w2.heap.size/\Bx (w2.alloc (.cells #[.slice none 0 0,.slice none 0 0,.int .i64 0,.bool false,.int .i64 0,.int .i64 0,.int .i64 0,.int .i64 0,.int .i64 0,.int .i64 1,.slice none 0 0,.slice (some ⟨gx,0,none⟩) 6 cx] 35)) w2.heap.size 35 #[.slice none 0 0,.slice none 0 0,.int .i64 0,.bool false,.int .i64 0,.int .i64 0,.int .i64 0,.int .i64 0,.int .i64 0,.int .i64 1,.slice none 0 0,.slice (some ⟨gx,0,none⟩) 6 cx]/\IxOk (w2.alloc (.cells #[.slice none 0 0,.slice none 0 0,.int .i64 0,.bool false,.int .i64 0,.int .i64 0,.int .i64 0,.int .i64 0,.int .i64 0,.int .i64 1,.slice none 0 0,.slice (some ⟨gx,0,none⟩) 6 cx] 35)) w1.heap.size gx Gx Cx Ax):=by
  have hb:Below w.heap.size w w2:=H1.out.2.1.trans (hb2.mono H1.out.2.1.size)
  exact ⟨(H1.out.1.below hb2).alloc _,hb.alloc hb.size _,H1.out.2.2.1,H1.out.2.2.2.1,(H1.out.2.2.2.2.below hb2).alloc _,(H1.out.2.2.2.2.below hb2).lt,Bx.new _ _ _,hx2.keep (below_alloc _ _)⟩
 clear hx2 hb2 H1
 go_wp2_with fail
 generalize (w2.alloc (.cells #[.slice none 0 0,.slice none 0 0,.int .i64 0,.bool false,.int .i64 0,.int .i64 0,.int .i64 0,.int .i64 0,.int .i64 0,.int .i64 1,.slice none 0 0,.slice (some ⟨gx,0,none⟩) 6 cx] 35))=W2 at H2 ⊢
 generalize w2.heap.size=bt at H2 ⊢
 refine (implNew_good n _ h1 h2).mono ?_
 rintro e w3 ⟨a,c,rfl,ho3,hb3⟩
 go_upto_region 6 with fail
 have H3:Hid (Bx (w3.alloc (.cells #[.slice a (n*64) c,.slice none 0 0,.int .i64 (-1),.bool false] 25)) rb 37 #[.int .i64 0,.int .i64 0,.slice none 0 0,.slice none 0 0,.int .i64 0,.bool false,.int .i64 0,.int .i64 0,.int .i64 0,.int .i64 0,.int .i64 0,.int .i64 0,.slice none 0 0,.slice none 0 0]/\Below w.heap.size w (w3.alloc (.cells #[.slice a (n*64) c,.slice none 0 0,.int .i64 (-1),.bool false] 25))/\rb=w.heap.size/\rb<bs/\Bx (w3.alloc (.cells #[.slice a (n*64) c,.slice none 0 0,.int .i64 (-1),.bool false] 25)) bs 27 #[.int .i64 0,.int .i64 0,.int .i64 1]/\bs<bt/\Bx (w3.alloc (.cells #[.slice a (n*64) c,.slice none 0 0,.int .i64 (-1),.bool false] 25)) bt 35 #[.slice none 0 0,.slice none 0 0,.int .i64 0,.bool false,.int .i64 0,.int .i64 0,.int .i64 0,.int .i64 0,.int .i64 0,.int .i64 1,.slice none 0 0,.slice (some ⟨gx,0,none⟩) 6 cx]/\bt<w3.heap.size/\IxOk (w3.alloc (.cells #[.slice a (n*64) c,.slice none 0 0,.int .i64 (-1),.bool false] 25)) w1.heap.size gx Gx Cx Ax/\Bx (w3.alloc (.cells #[.slice a (n*64) c,.slice none 0 0,.int .i64 (-1),.bool false] 25)) w3.heap.size 25 #[.slice a (n*64) c,.slice none 0 0,.int .i64 (-1),.bool false]/\Rd .u8 (w3.alloc (.cells #[.slice a (n*64) c,.slice none 0 0,.int .i64 (-1),.bool false] 25)) a (n*64) (fun _=>0)):=by
  have q:=H2.out
  have hb:Below w.heap.size w w3:=q.2.1.trans (hb3.mono q.2.1.size)
  exact ⟨(q.1.below hb3).alloc _,hb.alloc hb.size _,q.2.2.1,q.2.2.2.1,(q.2.2.2.2.1.below hb3).alloc _,q.2.2.2.2.2.1,(q.2.2.2.2.2.2.1.below hb3).alloc _,(q.2.2.2.2.2.2.1.below hb3).lt,(q.2.2.2.2.2.2.2.keep hb3).keep (below_alloc _ _),Bx.new _ _ _,ho3.rd.below (below_alloc _ _)⟩
 clear ho3 hb3 H2
 generalize (w3.alloc (.cells #[.slice a (n*64) c,.slice none 0 0,.int .i64 (-1),.bool false] 25))=W3 at H3 ⊢
 generalize w3.heap.size=bd at H3 ⊢
 have HK:Hid (∀W:World,Below W3.drew.heap.size W3.drew W->(W.cell? ⟨bd,0,none⟩=some (.slice a (n*64) c)/\W.cell? ⟨bd,1,none⟩=some (.slice none 0 0)/\W.cell? ⟨bd,2,none⟩=some (.int .i64 (-1))/\W.cell? ⟨bd,3,none⟩=some (.bool false)/\W.cell? ⟨bs,1,none⟩=some (.int .i64 0)/\W.cell? ⟨bs,2,none⟩=some (.int .i64 1)/\W.cell? ⟨bt,0,none⟩=some (.slice none 0 0)/\W.cell? ⟨bt,1,none⟩=some (.slice none 0 0)/\W.cell? ⟨bt,2,none⟩=some (.int .i64 0)/\W.cell? ⟨bt,3,none⟩=some (.bool false)/\W.cell? ⟨bt,4,none⟩=some (.int .i64 0)/\W.cell? ⟨bt,5,none⟩=some (.int .i64 0)/\W.cell? ⟨bt,6,none⟩=some (.int .i64 0)/\W.cell? ⟨bt,7,none⟩=some (.int .i64 0)/\W.cell? ⟨bt,8,none⟩=some (.int .i64 0)/\W.cell? ⟨bt,9,none⟩=some (.int .i64 1)/\W.cell? ⟨bt,10,none⟩=some (.slice none 0 0)/\W.cell? ⟨bt,11,none⟩=some (.slice (some ⟨gx,0,none⟩) 6 cx))/\Bx W rb 37 #[.int .i64 0,.int .i64 0,.slice none 0 0,.slice none 0 0,.int .i64 0,.bool false,.int .i64 0,.int .i64 0,.int .i64 0,.int .i64 0,.int .i64 0,.int .i64 0,.slice none 0 0,.slice none 0 0]/\Bx W bd 25 #[.slice a (n*64) c,.slice none 0 0,.int .i64 (-1),.bool false]/\Bx W bs 27 #[.int .i64 0,.int .i64 0,.int .i64 1]/\IxOk W w1.heap.size gx Gx Cx Ax/\Rd .u8 W a (n*64) (fun _=>0)/\Below w.heap.size w W):=fun W hW=>by
  have q:=H3.out
  have qd:=q.2.2.2.2.2.2.2.2.2.1.drew.below hW
  have qs:=q.2.2.2.2.1.drew.below hW
  have qt:=q.2.2.2.2.2.2.1.drew.below hW
  exact ⟨⟨qd.cell 0,qd.cell 1,qd.cell 2,qd.cell 3,qs.cell 1,qs.cell 2,qt.cell 0,qt.cell 1,qt.cell 2,qt.cell 3,qt.cell 4,qt.cell 5,qt.cell 6,qt.cell 7,qt.cell 8,qt.cell 9,qt.cell 10,qt.cell 11⟩,q.1.drew.below hW,qd,qs,(q.2.2.2.2.2.2.2.2.1.keep (w2:=W3.drew) (Below.refl _ _).drew).keep hW,(q.2.2.2.2.2.2.2.2.2.2.below (w':=W3.drew) (Below.refl _ _).drew).below hW,q.2.1.drew.trans (hW.mono q.2.1.size)⟩
 obtain ⟨⟨r0,r1,r2,r3,r4,r5,r6,r7,r8,r9,r10,r11,r12,r13,r14,r15,r16,r17⟩,-⟩:=HK.out W3.drew (Below.refl _ _)
 have HAR:Hid (∀W:World,Calls Tryz.prog 20 #[.agg #[.slice a (n*64) c,.slice none 0 0,.int .i64 (-1),.bool false],.int .i64 0] W fun e w'=>e=.returned (.int .i64 2)/\Below W.heap.size W w'):=fun W=>by
  refine (areaBegin_any a none (n*64) c 0 0 (-1) false ((n*64 / 64-2) / 2) 0 0 W (by omega) (by omega) rfl rfl (by omega)).mono ?_
  rintro e w' ⟨rfl,hb⟩
  exact ⟨by simp,hb⟩
 refine wp_region_late (S:=(fun w'=>w'.cell? ⟨bd,0,none⟩=some (.slice a (n*64) c)/\w'.cell? ⟨bd,1,none⟩=some (.slice none 0 0)/\w'.cell? ⟨bd,2,none⟩=some (.int .i64 (-1))/\w'.cell? ⟨bd,3,none⟩=some (.bool false)/\w'.cell? ⟨bs,1,none⟩=some (.int .i64 0)/\w'.cell? ⟨bs,2,none⟩=some (.int .i64 1)/\w'.cell? ⟨bt,0,none⟩=some (.slice none 0 0)/\w'.cell? ⟨bt,1,none⟩=some (.slice none 0 0)/\w'.cell? ⟨bt,2,none⟩=some (.int .i64 0)/\w'.cell? ⟨bt,3,none⟩=some (.bool false)/\w'.cell? ⟨bt,4,none⟩=some (.int .i64 0)/\w'.cell? ⟨bt,5,none⟩=some (.int .i64 0)/\w'.cell? ⟨bt,6,none⟩=some (.int .i64 0)/\w'.cell? ⟨bt,7,none⟩=some (.int .i64 0)/\w'.cell? ⟨bt,8,none⟩=some (.int .i64 0)/\w'.cell? ⟨bt,9,none⟩=some (.int .i64 1)/\w'.cell? ⟨bt,10,none⟩=some (.slice none 0 0)/\w'.cell? ⟨bt,11,none⟩=some (.slice (some ⟨gx,0,none⟩) 6 cx))) 10 (by kernel_rfl) ?_ (fun hHeld=>?_)
 ·((try dsimp only);go_keep)
 refine tk 0 .zero (v:=?_) ?_ ?_
 rotate_left
 ·(intro w h;(try dsimp only at h);go_simp) <;> with_reducible rfl
 simp only [tkp]
 refine tk 1 (.succ .zero) (v:=?_) ?_ ?_
 rotate_left
 ·(intro w h;(try dsimp only at h);go_simp) <;> with_reducible rfl
 simp only [tkp]
 refine tk 2 (.succ (.succ .zero)) (v:=?_) ?_ ?_
 rotate_left
 ·(intro w h;(try dsimp only at h);go_simp) <;> with_reducible rfl
 simp only [tkp]
 refine tk 3 (.succ (.succ (.succ .zero))) (v:=?_) ?_ ?_
 rotate_left
 ·(intro w h;(try dsimp only at h);go_simp) <;> with_reducible rfl
 simp only [tkp]
 refine tk 5 (.s5 .zero) (v:=?_) ?_ ?_
 rotate_left
 ·(intro w h;(try dsimp only at h);go_simp) <;> with_reducible rfl
 simp only [tkp]
 refine tk 6 (.s5 (.succ .zero)) (v:=?_) ?_ ?_
 rotate_left
 ·(intro w h;(try dsimp only at h);go_simp) <;> with_reducible rfl
 simp only [tkp]
 refine tk 7 (.s5 (.succ (.succ .zero))) (v:=?_) ?_ ?_
 rotate_left
 ·(intro w h;(try dsimp only at h);go_simp) <;> with_reducible rfl
 simp only [tkp]
 refine tk1 4 (.succ (.succ (.succ (.succ .zero)))) (fun K hK=>?_)
 (refine step_f2 (by rfl) 20 20 22 _ (by rfl) _ _ (by rfl) (by rfl) (fun _ _=>rfl) ?_;refine (HAR.out W3.drew).mono ?_;rintro e w4 ⟨rfl,hb4⟩;refine ⟨_,rfl,?_⟩;obtain ⟨⟨s0,s1,s2,s3,s4,s5,s6,s7,s8,s9,s10,s11,s12,s13,s14,s15,s16,s17⟩,-⟩:=HK.out w4 hb4)
 refine hK.out _ _ ?_ (fun hG=>?_)
 ·(intro _;(try dsimp only);go_keep)
 clear hK K
 replace hHeld:=hG (by decide)
 clear hG
 try simp only [tkp]
 refine tk1 8 (.s5 (.succ (.succ (.succ .zero)))) (fun K hK=>?_)
 (refine step_f1 (by rfl) 21 26 _ (by rfl) _ (by rfl) (fun _ _=>rfl) ?_;refine (snapshot_e gx cx _ Gx Cx Ax w4 (HK.out w4 hb4).2.2.2.2.1).mono ?_;rintro e w5 ⟨ad,cp,rfl,ho5,hb5,hc5,hm5⟩;refine ⟨_,rfl,?_⟩;have b5:=hb4.trans (hb5.mono hb4.size);obtain ⟨⟨t0,t1,t2,t3,t4,t5,t6,t7,t8,t9,t10,t11,t12,t13,t14,t15,t16,t17⟩,-⟩:=HK.out w5 b5)
 refine hK.out _ _ ?_ (fun hG=>?_)
 ·(intro _;(try dsimp only);go_keep)
 clear hK K
 replace hHeld:=hG (by decide)
 clear hG
 try simp only [tkp]
 refine tk1 9 (.s5 (.succ (.succ (.succ (.succ .zero))))) (fun K hK=>?_)
 (refine step_f4 (by rfl) 19 19 23 25 27 _ (by rfl) _ _ _ _ (by rfl) (by rfl) (by rfl) (by rfl) (fun _ _=>rfl) ?_;refine (implRec_e n c 0 cp a none ad w5 h1 h2 (HK.out w5 b5).2.2.2.2.2.1 ho5.rd hc5 hm5).mono ?_;rintro e w6 ⟨a6,c6,p6,q6,A6,rfl,ho6,hb6⟩;refine ⟨_,rfl,?_⟩;have b6:=b5.trans (hb6.mono b5.size);obtain ⟨⟨u0,u1,u2,u3,u4,u5,u6,u7,u8,u9,u10,u11,u12,u13,u14,u15,u16,u17⟩,-⟩:=HK.out w6 b6;have uf:=(HK.out w6 b6).2.2.1.frozen;have ul:=(HK.out w6 b6).2.2.1.lt)
 refine hK.out _ _ ?_ (fun hG=>?_)
 ·(intro _;(try dsimp only);go_keep)
 clear hK K
 replace hHeld:=hG (by decide)
 clear hG
 try simp only [tkp]
 refine tk1 10 (.s5 (.s5 .zero)) (fun K hK=>?_)
 go_simp
 refine hK.out _ _ ?_ (fun hG=>?_)
 ·(intro hne;exact absurd rfl hne)
 clear hK K hG
 refine wpLate_done (by kernel_rfl) ?_ _
 have H6:Hid (Bx (setN bd [.slice a6 (n*64) c6,.slice p6 0 q6,.int .i64 (-1),.bool false] 0 w6) rb 37 #[.int .i64 0,.int .i64 0,.slice none 0 0,.slice none 0 0,.int .i64 0,.bool false,.int .i64 0,.int .i64 0,.int .i64 0,.int .i64 0,.int .i64 0,.int .i64 0,.slice none 0 0,.slice none 0 0]/\Below w.heap.size w (setN bd [.slice a6 (n*64) c6,.slice p6 0 q6,.int .i64 (-1),.bool false] 0 w6)/\rb=w.heap.size/\Bx (setN bd [.slice a6 (n*64) c6,.slice p6 0 q6,.int .i64 (-1),.bool false] 0 w6) bs 27 #[.int .i64 0,.int .i64 0,.int .i64 1]/\Bx (setN bd [.slice a6 (n*64) c6,.slice p6 0 q6,.int .i64 (-1),.bool false] 0 w6) bd 25 (setA [.slice a6 (n*64) c6,.slice p6 0 q6,.int .i64 (-1),.bool false] 0 #[.slice a (n*64) c,.slice none 0 0,.int .i64 (-1),.bool false])/\Rd .u8 (setN bd [.slice a6 (n*64) c6,.slice p6 0 q6,.int .i64 (-1),.bool false] 0 w6) a6 (n*64) dk1):=by
  have q:=H3.out
  have k:=HK.out w6 b6
  have hbd:bd<W3.drew.heap.size:=q.2.2.2.2.2.2.2.2.2.1.drew.lt
  have z4:=hb4.size
  have z5:=hb5.size
  have e1:=q.2.2.1
  have e2:=q.2.2.2.1
  have e3:=q.2.2.2.2.2.1
  have e4:=q.2.2.2.2.2.2.2.1
  exact ⟨bx_setNo (by omega) k.2.1,below_setN (by omega) k.2.2.2.2.2.2,e1,bx_setNo (by omega) k.2.2.2.1,Bx.setN k.2.2.1,(OwnB.setN (by omega) ho6.1).rd⟩
 have eA:setA [.slice a6 (n*64) c6,.slice p6 0 q6,.int .i64 (-1),.bool false] 0 #[.slice a (n*64) c,.slice none 0 0,.int .i64 (-1),.bool false]=#[.slice a6 (n*64) c6,.slice p6 0 q6,.int .i64 (-1),.bool false]:=by simp only [setA,List.setIfInBounds_toArray,List.set_cons_zero,List.set_cons_succ]
 rw [eA] at H6
 obtain ⟨W6,hW6⟩:∃W,W=setN bd [.slice a6 (n*64) c6,.slice p6 0 q6,.int .i64 (-1),.bool false] 0 w6:=⟨_,rfl⟩
 rw [<- hW6] at H6
 have eW:((((w6.setCell ⟨bd,0,none⟩ (.slice a6 (n*64) c6)).setCell ⟨bd,1,none⟩ (.slice p6 0 q6)).setCell ⟨bd,2,none⟩ (.int .i64 (-1))).setCell ⟨bd,3,none⟩ (.bool false))=W6:=hW6.symm
 rw [eW]
 have HZ:Hid (W6.cell? ⟨0,0,none⟩=some (.iface 397 (.pointer (some x)))):=(H6.out.2.1.cell (p:=⟨0,0,none⟩) (World.block_lt_of_cell? _ _ HG.out)).trans HG.out
 clear eW hW6 eA r0 r1 r2 r3 r4 r5 r6 r7 r8 r9 r10 r11 r12 r13 r14 r15 r16 r17 s0 s1 s2 s3 s4 s5 s6 s7 s8 s9 s10 s11 s12 s13 s14 s15 s16 s17 t0 t1 t2 t3 t4 t5 t6 t7 t8 t9 t10 t11 t12 t13 t14 t15 t16 t17 u0 u1 u2 u3 u4 u5 u6 u7 u8 u9 u10 u11 u12 u13 u14 u15 u16 u17 uf ul ho5 hb4 hb5 b5 hc5 hm5 ho6 hb6 b6 HK H3 HAR hHeld HG
 have d0:=H6.out.2.2.2.2.1.cell 0
 have d1:=H6.out.2.2.2.2.1.cell 1
 have d2:=H6.out.2.2.2.2.1.cell 2
 have d3:=H6.out.2.2.2.2.1.cell 3
 have s0:=H6.out.2.2.2.1.cell 0
 have s1:=H6.out.2.2.2.1.cell 1
 have s2:=H6.out.2.2.2.1.cell 2
 simp at d0 d1 d2 d3 s0 s1 s2
 go_wp2_with fail
 refine (implSupW_e n c6 q6 a6 p6 _ h1 h2 H6.out.2.2.2.2.2).mono ?_
 rintro e w7 ⟨a7,c7,p7,q7,A7,rfl,ho7,hb7,hc7,hm7⟩
 have H7:Hid (Bx w7 rb 37 #[.int .i64 0,.int .i64 0,.slice none 0 0,.slice none 0 0,.int .i64 0,.bool false,.int .i64 0,.int .i64 0,.int .i64 0,.int .i64 0,.int .i64 0,.int .i64 0,.slice none 0 0,.slice none 0 0]/\Below w.heap.size w w7/\rb=w.heap.size/\Rd .u8 w7 a7 (n*64) dk2/\n*64<=c7/\c7<=9223372036854775807/\w7.cell? ⟨0,0,none⟩=some (.iface 397 (.pointer (some x)))):=
  ⟨H6.out.1.below hb7,H6.out.2.1.trans (hb7.mono H6.out.2.1.size),H6.out.2.2.1,ho7.1.rd,hc7,hm7,(hb7.cell (p:=⟨0,0,none⟩) (World.block_lt_of_cell? _ _ HZ.out)).trans HZ.out⟩
 clear hb7 H6 ho7 hc7 hm7 HZ d0 d1 d2 d3 s0 s1 s2
 go_wp2_with fail
 refine (implOpen_e n c7 q7 a7 p7 x _ h1 h2 H7.out.2.2.2.1 H7.out.2.2.2.2.1 H7.out.2.2.2.2.2.1 H7.out.2.2.2.2.2.2).mono ?_
 rintro e w9 ⟨a2,c2,p2,q2,gi,ci,G,C,Aa,rfl,ho9,hi9,hb9⟩
 have HE:Hid (Bx w7 rb 37 #[.int .i64 0,.int .i64 0,.slice none 0 0,.slice none 0 0,.int .i64 0,.bool false,.int .i64 0,.int .i64 0,.int .i64 0,.int .i64 0,.int .i64 0,.int .i64 0,.slice none 0 0,.slice none 0 0]/\Below w.heap.size w w7/\rb=w.heap.size):=⟨H7.out.1,H7.out.2.1,H7.out.2.2.1⟩
 clear H7
 have HB:Hid (Bx (setN rb [.int .i64 1,.int .i64 0,.slice a2 (n*64) c2,.slice p2 0 q2,.int .i64 (-1),.bool false,.int .i64 0,.int .i64 0,.int .i64 1,.int .i64 2,.int .i64 1,.int .i64 1,.slice none 0 0,.slice (some ⟨gi,0,none⟩) 6 ci] 0 w9) rb 37 (setA [.int .i64 1,.int .i64 0,.slice a2 (n*64) c2,.slice p2 0 q2,.int .i64 (-1),.bool false,.int .i64 0,.int .i64 0,.int .i64 1,.int .i64 2,.int .i64 1,.int .i64 1,.slice none 0 0,.slice (some ⟨gi,0,none⟩) 6 ci] 0 #[.int .i64 0,.int .i64 0,.slice none 0 0,.slice none 0 0,.int .i64 0,.bool false,.int .i64 0,.int .i64 0,.int .i64 0,.int .i64 0,.int .i64 0,.int .i64 0,.slice none 0 0,.slice none 0 0])/\OwnB (setN rb [.int .i64 1,.int .i64 0,.slice a2 (n*64) c2,.slice p2 0 q2,.int .i64 (-1),.bool false,.int .i64 0,.int .i64 0,.int .i64 1,.int .i64 2,.int .i64 1,.int .i64 1,.slice none 0 0,.slice (some ⟨gi,0,none⟩) 6 ci] 0 w9) w.heap.size a2 (n*64) dk2/\IxOk (setN rb [.int .i64 1,.int .i64 0,.slice a2 (n*64) c2,.slice p2 0 q2,.int .i64 (-1),.bool false,.int .i64 0,.int .i64 0,.int .i64 1,.int .i64 2,.int .i64 1,.int .i64 1,.slice none 0 0,.slice (some ⟨gi,0,none⟩) 6 ci] 0 w9) w.heap.size gi G C Aa/\Below w.heap.size w (setN rb [.int .i64 1,.int .i64 0,.slice a2 (n*64) c2,.slice p2 0 q2,.int .i64 (-1),.bool false,.int .i64 0,.int .i64 0,.int .i64 1,.int .i64 2,.int .i64 1,.int .i64 1,.slice none 0 0,.slice (some ⟨gi,0,none⟩) 6 ci] 0 w9)):=by
  have hrl:=HE.out.1.lt
  have hq:=HE.out.2.2
  have hbb:=HE.out.2.1
  exact ⟨Bx.setN (HE.out.1.below hb9),(OwnB.setN hrl ho9).mono (by omega),(IxOk.setN hrl hi9).mono (by omega),below_setN (by omega) (hbb.trans (hb9.mono hbb.size))⟩
 have X3:=HE.out.1.below hb9
 have y0:=X3.cell 0
 have y1:=X3.cell 1
 have y2:=X3.cell 2
 have y3:=X3.cell 3
 have y4:=X3.cell 4
 have y5:=X3.cell 5
 have y6:=X3.cell 6
 have y7:=X3.cell 7
 have y8:=X3.cell 8
 have y9:=X3.cell 9
 have y10:=X3.cell 10
 have y11:=X3.cell 11
 have y12:=X3.cell 12
 have y13:=X3.cell 13
 have yf:=X3.frozen
 have yl:=X3.lt
 simp at y0 y1 y2 y3 y4 y5 y6 y7 y8 y9 y10 y11 y12 y13
 clear ho9 hi9 hb9 HE X3
 go_wp2_with fail
 clear y0 y1 y2 y3 y4 y5 y6 y7 y8 y9 y10 y11 y12 y13 yf yl
 obtain ⟨W9,hW9⟩:∃W,W=setN rb [.int .i64 1,.int .i64 0,.slice a2 (n*64) c2,.slice p2 0 q2,.int .i64 (-1),.bool false,.int .i64 0,.int .i64 0,.int .i64 1,.int .i64 2,.int .i64 1,.int .i64 1,.slice none 0 0,.slice (some ⟨gi,0,none⟩) 6 ci] 0 w9:=⟨_,rfl⟩
 rw [<- hW9] at HB
 have eW:((((((((((((((w9.setCell ⟨rb,0,none⟩ (.int .i64 1)).setCell ⟨rb,1,none⟩ (.int .i64 0)).setCell ⟨rb,2,none⟩ (.slice a2 (n*64) c2)).setCell ⟨rb,3,none⟩ (.slice p2 0 q2)).setCell ⟨rb,4,none⟩ (.int .i64 (-1))).setCell ⟨rb,5,none⟩ (.bool false)).setCell ⟨rb,6,none⟩ (.int .i64 0)).setCell ⟨rb,7,none⟩ (.int .i64 0)).setCell ⟨rb,8,none⟩ (.int .i64 1)).setCell ⟨rb,9,none⟩ (.int .i64 2)).setCell ⟨rb,10,none⟩ (.int .i64 1)).setCell ⟨rb,11,none⟩ (.int .i64 1)).setCell ⟨rb,12,none⟩ (.slice none 0 0)).setCell ⟨rb,13,none⟩ (.slice (some ⟨gi,0,none⟩) 6 ci))=W9:=hW9.symm
 rw [eW]
 clear eW hW9
 have eA:setA [.int .i64 1,.int .i64 0,.slice a2 (n*64) c2,.slice p2 0 q2,.int .i64 (-1),.bool false,.int .i64 0,.int .i64 0,.int .i64 1,.int .i64 2,.int .i64 1,.int .i64 1,.slice none 0 0,.slice (some ⟨gi,0,none⟩) 6 ci] 0 #[.int .i64 0,.int .i64 0,.slice none 0 0,.slice none 0 0,.int .i64 0,.bool false,.int .i64 0,.int .i64 0,.int .i64 0,.int .i64 0,.int .i64 0,.int .i64 0,.slice none 0 0,.slice none 0 0]=#[.int .i64 1,.int .i64 0,.slice a2 (n*64) c2,.slice p2 0 q2,.int .i64 (-1),.bool false,.int .i64 0,.int .i64 0,.int .i64 1,.int .i64 2,.int .i64 1,.int .i64 1,.slice none 0 0,.slice (some ⟨gi,0,none⟩) 6 ci]:=by simp only [setA,List.setIfInBounds_toArray,List.set_cons_zero,List.set_cons_succ]
 rw [eA] at HB
 clear eA
 go_wp2
 refine bodyPost_ret (v:=.agg #[.int .i64 1,.int .i64 0,.slice a2 (n*64) c2,.slice p2 0 q2,.int .i64 (-1),.bool false,.int .i64 0,.int .i64 0,.int .i64 1,.int .i64 2,.int .i64 1,.int .i64 1,.slice none 0 0,.slice (some ⟨gi,0,none⟩) 6 ci]) ?_ rfl ⟨a2,c2,p2,q2,gi,ci,G,C,Aa,rfl,HB.out.2⟩
 have z0:W9.cell? ⟨rb,0,none⟩=some (.int .i64 1):=HB.out.1.cell 0
 have z1:W9.cell? ⟨rb,1,none⟩=some (.int .i64 0):=HB.out.1.cell 1
 have z2:W9.cell? ⟨rb,2,none⟩=some (.slice a2 (n*64) c2):=HB.out.1.cell 2
 have z3:W9.cell? ⟨rb,3,none⟩=some (.slice p2 0 q2):=HB.out.1.cell 3
 have z4:W9.cell? ⟨rb,4,none⟩=some (.int .i64 (-1)):=HB.out.1.cell 4
 have z5:W9.cell? ⟨rb,5,none⟩=some (.bool false):=HB.out.1.cell 5
 have z6:W9.cell? ⟨rb,6,none⟩=some (.int .i64 0):=HB.out.1.cell 6
 have z7:W9.cell? ⟨rb,7,none⟩=some (.int .i64 0):=HB.out.1.cell 7
 have z8:W9.cell? ⟨rb,8,none⟩=some (.int .i64 1):=HB.out.1.cell 8
 have z9:W9.cell? ⟨rb,9,none⟩=some (.int .i64 2):=HB.out.1.cell 9
 have z10:W9.cell? ⟨rb,10,none⟩=some (.int .i64 1):=HB.out.1.cell 10
 have z11:W9.cell? ⟨rb,11,none⟩=some (.int .i64 1):=HB.out.1.cell 11
 have z12:W9.cell? ⟨rb,12,none⟩=some (.slice none 0 0):=HB.out.1.cell 12
 have z13:W9.cell? ⟨rb,13,none⟩=some (.slice (some ⟨gi,0,none⟩) 6 ci):=HB.out.1.cell 13
 simp [results,Tryz.results5,go_sem,z0,z1,z2,z3,z4,z5,z6,z7,z8,z9,z10,z11,z12,z13]

theorem IxOk.fq {w w' : World} {B B' g n:Nat} {G C:Nat->Nat} {A:Nat->Option Addr} {a:Option Addr} {f:Nat->Int} (h:IxOk w B g G C A) (ho:OwnB w B' a n f) (hf:Fq a n w w'):IxOk w' B g G C A:=
 ⟨h.le,hf.row ho h.row (by decide),fun i hi=>⟨(h.each i hi).1,hf.row ho (h.each i hi).2 (by decide)⟩,h.apart⟩

theorem OwnB.onlyG {w w' : World} {B B' g n:Nat} {G C:Nat->Nat} {A:Nat->Option Addr} {a:Option Addr} {f:Nat->Int} (h:OwnB w B' a n f) (hi:IxOk w B g G C A) (ho:∃o,OnlyG G (w.alloc o) w'):OwnB w' B' a n f:=by
 obtain ⟨o,ho⟩:=ho
 rcases h with h0|⟨gg,rfl,hg,hr⟩
 ·exact Or.inl h0
 ·refine Or.inr ⟨gg,rfl,hg,hr.of_block ?_⟩
  have hl:=hr.lt
  exact (ho.block gg (by simp;omega) (fun j hj e=>by subst e;exact (hi.each j hj).2.ne hr (by decide) rfl)).trans ((below_alloc _ _).block _ hl)

def VG (n:Nat) (W:World) (B:Nat) (a:Option Addr) (c:Nat) (p:Option Addr) (q:Nat) (ia:Option Addr) (ic:Nat):Prop:=
 ∃gi G C Aa,ia=some ⟨gi,0,none⟩/\OwnB W B a (n*64) dk2/\IxOk W B gi G C Aa

theorem fmtGood (n:Nat) (h1:16<=n) (h2:n<=1024) (x:Addr) (w:World) (hg:w.cell? ⟨0,0,none⟩=some (.iface 397 (.pointer (some x)))) :
  Calls Tryz.prog 3 #[.int .i64 n] w fun e w'=>e=.returned (.bool true)/\Below w.heap.size w w':=by
 refine fmtLaw n (n*64) 6 1 0 (-1) 0 0 1 2 1 1 (VG n) w ?_ ?_ ?_ ?_ ?_
 ·intro W
  refine (specFmt_e n W h1 h2).mono ?_
  rintro e w' ⟨a2,c2,p2,q2,gi,ci,G,C,Aa,rfl,ho,hi,hb⟩
  exact ⟨a2,c2,p2,q2,_,ci,rfl,⟨gi,G,C,Aa,rfl,ho,hi⟩,hb⟩
 ·intro W hW
  refine (implFmt_e n x W h1 h2 ((hW.cell (p:=⟨0,0,none⟩) (World.block_lt_of_cell? _ _ hg)).trans hg)).mono ?_
  rintro e w' ⟨a2,c2,p2,q2,gi,ci,G,C,Aa,rfl,ho,hi,hb⟩
  exact ⟨a2,c2,p2,q2,_,ci,rfl,⟨gi,G,C,Aa,rfl,ho,hi⟩,hb⟩
 ·rintro W W' B a c p q ia ic ⟨gi,G,C,Aa,rfl,ho,hi⟩ hb
  exact ⟨gi,G,C,Aa,rfl,ho.below hb,hi.keep hb⟩
 ·rintro W B B' a c p q ia ic a' c' p' q' ia' ic' ⟨gi,G,C,Aa,rfl,ho,hi⟩ ⟨gi',G',C',Aa',rfl,ho',hi'⟩
  exact eqSr_h 1 0 a p a' p' (n*64) c q c' q' (-1) 0 0 1 2 1 1 _ _ dk2 W ho.rd ho'.rd (by omega) (fun W2 hb=>eqIndex_six gi ic _ gi' ic' _ G C G' C' Aa Aa' W2 (hi.keep hb) (hi'.keep hb))
 ·rintro W0 W B a c p q ia ic ⟨gi,G,C,Aa,rfl,ho,hi⟩ hb
  refine (markSr_h 1 0 a p (n*64) c q (-1) 0 0 1 2 1 1 (.slice (some ⟨gi,0,none⟩) 6 ic) B W0.heap.size 1 (1+(n*64:Nat)+12) dk2 (fun W=>IxOk W B gi G C Aa) (fun W=>IxMa W B gi G C Aa (1+(n*64:Nat)) 6) W (ho.below hb) (fun hn x e=>⟨ho.ge hn x e,ho.ltB hn x e⟩) (by omega) (by omega) (by omega) (hi.keep hb) (fun W1 W2 k1 k2 k3=>k2.elim fun f k2=>k1.fq k2 k3) ?_).mono ?_
  ·intro W1 k1 k2
   refine (markIndex_k gi ic B G C Aa _ (by omega) (by omega) W1 k1).mono ?_
   rintro e w2 ⟨rfl,hm,hon⟩
   refine ⟨rfl,hm,k2.onlyG k1 hon,?_⟩
   obtain ⟨o,hon⟩:=hon
   have hz:=hon.size
   simp only [World.size_alloc] at hz
   exact ⟨hon.os,hon.tape,hon.output,by omega,fun b hb1 hc=>(hon.block b (by simp;omega) (fun j hj e=>by
    have e1:=(hi.each j hj).1
    have e2:=(hi.each j hj).2.lt
    omega)).trans ((below_alloc _ _).block _ hb1)⟩
  ·rintro e w2 ⟨rfl,hy,ho2,hw⟩
   refine ⟨_,rfl,by omega,hw,fun W' hb'=>?_⟩
   exact heldSr_h 1 0 a p (n*64) c q (-1) 0 0 1 2 1 1 _ 1 _ (fun W=>IxMa W B gi G C Aa (1+(n*64:Nat)) 6) W' (ho2.rd.below hb') (by omega) (by omega) (by omega) (by omega) (hy.keep hb') (fun _ _ k1 k2=>k1.keep k2) (fun W1 k1=>heldIndex_k gi ic B G C Aa _ (by omega) (by omega) W1 k1)

theorem fmtBad (x:Int) (h:x<16\/1024<x) (w:World) :
  Calls Tryz.prog 3 #[.int .i64 x] w fun e w'=>e=.returned (.bool true)/\Below w.heap.size w w':=by
 refine fmtLaw x 0 0 10 0 0 0 0 0 0 0 0 (fun _ _ _ _ _ _ ia ic=>ia=none/\ic=0) w ?_ ?_ ?_ ?_ ?_
 ·intro W
  refine (specFmt_bad x W h).mono ?_
  rintro e w' ⟨rfl,hb⟩
  exact ⟨none,0,none,0,none,0,rfl,⟨rfl,rfl⟩,hb⟩
 ·intro W hW
  refine (implFmt_bad x W h).mono ?_
  rintro e w' ⟨rfl,hb⟩
  exact ⟨none,0,none,0,none,0,rfl,⟨rfl,rfl⟩,hb⟩
 ·intro W W' B a c p q ia ic h _
  exact h
 ·rintro W B B' a c p q ia ic a' c' p' q' ia' ic' ⟨rfl,rfl⟩ ⟨rfl,rfl⟩
  exact eqSr_h 10 0 a p a' p' 0 c q c' q' 0 0 0 0 0 0 0 _ _ (fun _=>0) W (Or.inl rfl) (Or.inl rfl) (by omega) (fun W2 _=>eqIndex_nil W2)
 ·rintro W0 W B a c p q ia ic ⟨rfl,rfl⟩ hb
  refine (markSr_h 10 0 a p 0 c q 0 0 0 0 0 0 0 (.slice none 0 0) B W0.heap.size 1 1 (fun _=>0) (fun _=>True) (fun _=>True) W (Or.inl rfl) (fun hn=>absurd rfl hn) (by omega) (by omega) (by omega) trivial (fun _ _ _ _ _=>trivial) ?_).mono ?_
  ·intro W1 _ k2
   refine (markIndex_nil _ W1).mono ?_
   rintro e w2 ⟨rfl,hm⟩
   exact ⟨by simp,trivial,Or.inl rfl,Within.ofBelow hm⟩
  ·rintro e w2 ⟨rfl,-,-,hw⟩
   refine ⟨_,rfl,by omega,hw,fun W' hb'=>?_⟩
   refine heldSr_h 10 0 a p 0 c q 0 0 0 0 0 0 0 _ 1 _ (fun _=>True) W' (Or.inl rfl) (by omega) (by omega) (by omega) (by omega) trivial (fun _ _ _ _=>trivial) (fun W1 _=>?_)
   refine (heldIndex_nil _ (by omega) W1).mono ?_
   rintro e w3 ⟨rfl,hb3⟩
   exact ⟨by simp,hb3⟩

theorem fmt_all (x:Int) (y:Addr) (w:World) (hg:w.cell? ⟨0,0,none⟩=some (.iface 397 (.pointer (some y)))) :
  Calls Tryz.prog 3 #[.int .i64 x] w fun e w'=>e=.returned (.bool true)/\Below w.heap.size w w':=by
 by_cases h:x<16\/1024<x
 ·exact fmtBad x h w
 ·obtain ⟨n,rfl⟩:=Int.eq_ofNat_of_zero_le (show 0<=x by omega)
  exact fmtGood n (by omega) (by omega) y w hg
end Go.Proofs.YtbmffmifemebmaaGreatDoor
