import Derived.Test.YtpaomghibppgkaaGreatNv47
import Derived.Test.YtpaomghibppgkaaGreatNv39
import Derived.Test.YtpaomghibppgkaaGreatNv46
import Derived.Deep.CutRange
import Derived.Deep.CutBlock
set_option linter.unusedVariables false
set_option maxRecDepth 100000
namespace Go.Proofs.YtpaomghibppgkaaGreat
open Go.RowKit Go.Deep
set_option linter.unusedSimpArgs false

theorem perm_of_sub {α:Type} [DecidableEq α]:∀(l l2:List α),l.Nodup->(∀x,x∈l->x∈l2)->l2.length=l.length->l.Perm l2
 | [],l2,_,_,h=>by
  rw [List.length_eq_zero_iff.1 h]
 | x::l,l2,hn,hs,h=>by
  have hx:=hs x (List.mem_cons_self ..)
  have hp:=List.perm_cons_erase hx
  have hn':=List.nodup_cons.1 hn
  have ih:=perm_of_sub l (l2.erase x) hn'.2 (fun y hy=>(List.mem_erase_of_ne (fun e=>hn'.1 (by rw [<- e];exact hy))).2 (hs y (List.mem_cons_of_mem _ hy))) (by
   rw [List.length_erase_of_mem hx,h]
   simp)
  exact (ih.cons x).trans hp.symm
theorem same_cnt {M:Nat->Nat} {T:Nat->Nat->Tn} (hv:VI 6 M T) {j:Nat} (hj:j<6) {t t0:Ro 21} (ht:VTt (M j) (T j) t) (ht0:VTt (M 0) (T 0) t0) (f:Qd->Bool) :
  (((keysR 21 t).map (quadOf j)).filter f).length=(((keysR 21 t0).map (quadOf 0)).filter f).length:=by
 by_cases h0:j=0
 ·subst h0
  rw [vtt1 ht ht0]
 ·obtain ⟨hl,hm⟩:=hv.2.2 j (by omega) hj t t0 ht ht0
  obtain ⟨t',ht',hl3,hk⟩:=hv.2.1 j hj
  have e:=vtt1 ht' ht
  subst e
  have hnd:=quads_nodup hj (asc_of_ascK ht.2.2.2.2.1) (fun k hk'=>(hk k hk').1)
  letI:DecidableEq Qd:=Classical.typeDecidableEq Qd
  have hp:((keysR 21 t').map (quadOf j)).Perm ((keysR 21 t0).map (quadOf 0)):=perm_of_sub _ _ hnd (fun x hx=>by
   obtain ⟨k,hk1,rfl⟩:=List.mem_map.1 hx
   exact hm k hk1) (by rw [List.length_map,List.length_map,hl])
  exact (hp.filter f).length_eq
structure WAt (W:World) (tb xb:Nat) (id:ByteArray->Int) (Q:List Qd):Prop where
 tid:∀V x,Below W.heap.size W V->Calls Tryz.prog 107 #[.pointer (some ⟨tb,0,none⟩),.string x] V fun e w'=>e=.returned (.int .i64 (id x))/\Below V.heap.size V w'
 cnt:∀V j p,Below W.heap.size W V->j<6->okTo (ptO j p) 4->Calls Tryz.prog 108 #[.pointer (some ⟨xb,j*2,none⟩),qv p] V fun e w'=>e=.returned (.int .i64 ((Q.filter (fun q=>fitB q p)).length:Int))/\Below V.heap.size V w'
theorem WAt.below {W W' : World} {tb xb:Nat} {id:ByteArray->Int} {Q:List Qd} (h:WAt W tb xb id Q) (hb:Below W.heap.size W W'):WAt W' tb xb id Q:=
 ⟨fun V x hV=>h.tid V x (hb.trans (hV.mono hb.size)),fun V j p hV=>h.cnt V j p (hb.trans (hV.mono hb.size))⟩
theorem cnt_of {w W:World} {a:Option Addr} {c:Nat} {M:Nat->Nat} {T:Nat->Nat->Tn} {A:Array Value} (hI:IS w W a c M T 6 A) (hv:VI 6 M T) {t0:Ro 21} (ht0:VTt (M 0) (T 0) t0) (V:World) (j:Nat) (p:Qd) (hV:Below W.heap.size W V) (hj:j<6) (hok:okTo (ptO j p) 4) :
  Calls Tryz.prog 108 #[.pointer (some ⟨w.heap.size+1,j*2,none⟩),qv p] V fun e w'=>e=.returned (.int .i64 ((((keysR 21 t0).map (quadOf 0)).filter (fun q=>fitB q p)).length:Int))/\Below V.heap.size V w':=by
 have hD:=hI.keep hV
 obtain ⟨h0,t,t',hh,v,q1,q2,q3,q4,q5,q6,q7⟩:=hD.xt j hj
 obtain ⟨s,hs,hl,hg⟩:=hv.2.1 j hj
 have es:=vtt1 hs q1
 subst es
 rw [q2] at hl hg
 rw [<- same_cnt hv hj q1 ht0]
 exact count_any j hj p hok (w.heap.size+1) (j*2) V (M j) t v hh (by rw [hD.xb.cell];exact h0) (by rw [hD.xb.cell];exact q7) (q6.mono (Nat.le_refl _) (fun b _ hlt=>⟨hlt,rfl⟩)) q3 (by rw [<- q2];exact asc_of_ascK q1.2.2.2.2.1) hl (fun k hk=>(hg k hk).1) _ (by rw [q2])
set_option linter.unusedSimpArgs false

theorem tid_impl {w W:World} {dt:Obj} {next:Int} {n:Nat} {I:Nat->Int} {X:Nat->ByteArray} {R:Nat->Int} {P:Nat->Nat} (h:DSt w W dt next I X R n P) (hv:VDt next n I X R) (V:World) (x:ByteArray) (hV:Below W.heap.size W V) :
  Calls Tryz.prog 107 #[.pointer (some ⟨w.heap.size+1+1+1,0,none⟩),.string x] V fun e w'=>e=.returned (.int .i64 (idF n I X x))/\Below V.heap.size V w':=by
 refine (id_any _ _ _ n next I X R P x V ((hV.block _ h.tab.lt).trans h.tab) (MapAt.kept h.m1 (hV.block _ (MapAt.lt h.m1))) (fun j hj=>(hV.block _ (Array.getElem?_eq_some_iff.1 (h.each j hj)).1).trans (h.each j hj)) (fun i j hi hj e=>hv.text_inj hi hj e)).mono ?_
 rintro e w' ⟨hat,hb⟩
 refine ⟨?_,hb⟩
 have hid:=(idF_of hv x).1 hv
 rcases hat with ⟨i,hi,hx,rfl⟩|⟨hno,rfl⟩
 ·rcases hid with ⟨i',hi',hx',e⟩|⟨hno,_⟩
  ·rw [e,hv.text_inj hi' hi (hx'.trans hx.symm)]
  ·exact absurd hx (hno i hi)
 ·rcases hid with ⟨i',hi',hx',e⟩|⟨_,e⟩
  ·exact absurd hx' (hno i' hi')
  ·rw [e]
def RetW (w:World) (next:Int) (dn:Nat) (Id:Nat->Int) (Xd:Nat->ByteArray) (Rd:Nat->Int) (xn:Nat) (M:Nat->Nat) (T:Nat->Nat->Tn) (e:Ending) (w' : World):Prop:=
 Below w.heap.size w w'/\∃wb ok,e=.returned (.tuple #[.pointer (some ⟨wb,0,none⟩),.bool ok])/\(ok=true↔(VDt next dn Id Xd Rd/\VI xn M T))/\(ok=true->∀t,VTt (M 0) (T 0) t->∃tb xb,Bx w' wb 147 #[.pointer (some ⟨tb,0,none⟩),.pointer (some ⟨xb,0,none⟩)]/\WAt w' tb xb (idF dn Id Xd) ((keysR 21 t).map (quadOf 0)))
set_option maxHeartbeats 4000000 in
theorem readWorld_any (next:Int) (da:Option Addr) (dn dc:Nat) (Id:Nat->Int) (Xd:Nat->ByteArray) (Rd:Nat->Int) (xa:Option Addr) (xn xc:Nat) (M:Nat->Nat) (T:Nat->Nat->Tn) (w:World) (hD:RdT w da dn Id Xd Rd) (hdn:dn<=1048576) (hX:RdIx w xa xn M T) (hxn:xn<=1048576) (hxf:IxFit xn M T) :
  Calls Tryz.prog 33 #[.agg #[.int .i64 next,.slice da dn dc],.agg #[.slice xa xn xc]] w (RetW w next dn Id Xd Rd xn M T):=by
 have HD:Hid (RdT w da dn Id Xd Rd):=hD
 have HX:Hid (RdIx w xa xn M T/\IxFit xn M T):=⟨hX,hxf⟩
 clear hD hX hxf
 obtain ⟨W0,hW0⟩:∃W0,W0=(w.alloc (.cells #[.int .i64 next,.slice da dn dc] 42)).alloc (.cells #[.slice xa xn xc] 46):=⟨_,rfl⟩
 have S0:Hid (Bx W0 w.heap.size 42 #[.int .i64 next,.slice da dn dc]/\Bx W0 (w.heap.size+1) 46 #[.slice xa xn xc]/\Below w.heap.size w W0):=by
  rw [hW0]
  have b2:=Bx.new (w.alloc (.cells #[.int .i64 next,.slice da dn dc] 42)) #[.slice xa xn xc] 46
  simp only [World.size_alloc] at b2
  exact ⟨(Bx.new w #[.int .i64 next,.slice da dn dc] 42).alloc _,b2,(below_alloc _ _).alloc (by simp) _⟩
 go_enter Tryz.func33,Tryz.ntmps33
 go_upto_region 1 with fail
 rw [<- hW0]
 clear hW0
 have z0:=S0.out.1.cell 0
 have z1:=S0.out.1.cell 1
 have z2:=S0.out.2.1.cell 0
 simp at z0 z1 z2
 go_wp2_with fail
 with_reducible refine (readDict_any next da dn dc Id Xd Rd W0 (HD.out.below S0.out.2.2) hdn).mono ?_
 rintro e w1 hr
 have HE1:Hid (∃tv ok,e=.returned (.tuple #[tv,.bool ok])/\(∃ad,tv=.pointer ad)/\Below W0.heap.size W0 w1/\(ok=true↔VDt next dn Id Xd Rd)/\(ok=true->∃tb,tv=.pointer (some ⟨tb,0,none⟩)/\∀V x,Below w1.heap.size w1 V->Calls Tryz.prog 107 #[.pointer (some ⟨tb,0,none⟩),.string x] V fun e w'=>e=.returned (.int .i64 (idF dn Id Xd x))/\Below V.heap.size V w')):=by
  rcases hr with ⟨hv,rfl,hb⟩|⟨hv,P,dt,rfl,hst⟩
  ·exact ⟨_,_,rfl,⟨_,rfl⟩,hb,⟨fun q=>(by cases q),fun q=>absurd q hv⟩,fun q=>by cases q⟩
  ·exact ⟨_,_,rfl,⟨_,rfl⟩,hst.below,⟨fun _=>hv,fun _=>rfl⟩,fun _=>⟨_,rfl,fun V x hV=>tid_impl hst hv V x hV⟩⟩
 clear hr
 obtain ⟨tv,ok1,rfl,⟨ta,rfl⟩,hb1,hk1⟩:=HE1.out
 clear HE1
 have K1:Hid ((ok1=true↔VDt next dn Id Xd Rd)/\(ok1=true->∃tb,Value.pointer ta=.pointer (some ⟨tb,0,none⟩)/\∀V x,Below w1.heap.size w1 V->Calls Tryz.prog 107 #[.pointer (some ⟨tb,0,none⟩),.string x] V fun e w'=>e=.returned (.int .i64 (idF dn Id Xd x))/\Below V.heap.size V w')):=hk1
 have S1:Hid (Bx w1 (w.heap.size+1) 46 #[.slice xa xn xc]/\Below w.heap.size w w1):=⟨(hb1.block _ S0.out.2.1.lt).trans S0.out.2.1,S0.out.2.2.trans (hb1.mono S0.out.2.2.size)⟩
 clear hb1 S0 z0 z1 z2 hk1
 have z2:=S1.out.1.cell 0
 simp at z2
 go_wp2_with fail
 with_reducible refine (readIndex_any xa xn xc M T w1 (HX.out.1.below S1.out.2) hxn HX.out.2).mono ?_
 rintro e w2 hr
 have HE2:Hid (∃tv ok,e=.returned (.tuple #[tv,.bool ok])/\(∃ad,tv=.pointer ad)/\Below w1.heap.size w1 w2/\(ok=true↔VI xn M T)/\(ok=true->∃xb,tv=.pointer (some ⟨xb,0,none⟩)/\∀t0,VTt (M 0) (T 0) t0->∀V j p,Below w2.heap.size w2 V->j<6->okTo (ptO j p) 4->Calls Tryz.prog 108 #[.pointer (some ⟨xb,j*2,none⟩),qv p] V fun e w'=>e=.returned (.int .i64 ((((keysR 21 t0).map (quadOf 0)).filter (fun q=>fitB q p)).length:Int))/\Below V.heap.size V w')):=by
  rcases hr with ⟨rfl,hv,hb⟩|⟨rfl,hv,A,hI⟩
  ·exact ⟨_,_,rfl,⟨_,rfl⟩,hb,⟨fun q=>(by cases q),fun q=>absurd q hv⟩,fun q=>by cases q⟩
  ·obtain rfl:xn=6:=hv.1
   exact ⟨_,_,rfl,⟨_,rfl⟩,hI.bel,⟨fun _=>hv,fun _=>rfl⟩,fun _=>⟨_,rfl,fun t0 ht0 V j p hV hj hok=>cnt_of hI hv ht0 V j p hV hj hok⟩⟩
 clear hr
 obtain ⟨tv,ok2,rfl,⟨xaa,rfl⟩,hb2,hk2⟩:=HE2.out
 clear HE2
 have HF:Hid (∀w' wb,Below w2.heap.size w2 w'->Bx w' wb 147 #[.pointer ta,.pointer xaa]->RetW w next dn Id Xd Rd xn M T (.returned (.tuple #[.pointer (some ⟨wb,0,none⟩),.bool (ok1 && ok2)])) w'):=fun w' wb hb hbx=>by
  refine ⟨S1.out.2.trans ((hb2.trans (hb.mono hb2.size)).mono S1.out.2.size),wb,ok1 && ok2,rfl,by rw [Bool.and_eq_true,K1.out.1,hk2.1],fun q t ht=>?_⟩
  rw [Bool.and_eq_true] at q
  obtain ⟨tb,e1,h1⟩:=K1.out.2 q.1
  obtain ⟨xb,e2,h2⟩:=hk2.2 q.2
  rw [e1,e2] at hbx
  refine ⟨tb,xb,hbx,fun V x hV=>h1 V x ((hb2.trans (hb.mono hb2.size)).trans (hV.mono ?_)),fun V j p hV=>h2 t ht V j p (hb.trans (hV.mono hb.size))⟩
  exact (hb2.trans (hb.mono hb2.size)).size
 have HN:Hid (∀O,Below w2.heap.size w2 (w2.alloc O)):=fun O=>below_alloc _ _
 clear hb2 hk2 K1 S1 z2
 cases ok1 <;> cases ok2
 ·go_wp2
  refine bodyPost_ret (v:=.tuple #[.pointer (some ⟨w2.heap.size,0,none⟩),.bool false]) (by simp [results,Tryz.results33,go_sem]) rfl ?_
  exact HF.out _ _ (HN.out _) (Bx.new _ _ _)
 ·go_wp2
  refine bodyPost_ret (v:=.tuple #[.pointer (some ⟨w2.heap.size,0,none⟩),.bool false]) (by simp [results,Tryz.results33,go_sem]) rfl ?_
  exact HF.out _ _ (HN.out _) (Bx.new _ _ _)
 ·go_wp2
  refine bodyPost_ret (v:=.tuple #[.pointer (some ⟨w2.heap.size,0,none⟩),.bool false]) (by simp [results,Tryz.results33,go_sem]) rfl ?_
  exact HF.out _ _ (HN.out _) (Bx.new _ _ _)
 ·go_wp2
  refine bodyPost_ret (v:=.tuple #[.pointer (some ⟨w2.heap.size,0,none⟩),.bool true]) (by simp [results,Tryz.results33,go_sem]) rfl ?_
  exact HF.out _ _ (HN.out _) (Bx.new _ _ _)
set_option linter.unusedSimpArgs false

theorem step_h1 {ops:Array Oper} {o:Oper} {a:Act} {w:World} {K:Act->World->Prop} {Q:Exit->Act->World->Prop} {E:Prop} (hw:Region.wanted o (yielded ops a.tmps)=true) (k:Nat) (i:Nat) (tys:Array TypeId)
  (ho:o.op=.call { callee:=.value (.func k),args:=#[.tmp i],argTypes:=tys }) (u:Value) (hx:a.tmps[i]?.getD undef=u) (heg:∀args w,(callFunc k args).run Tryz.prog w=.ok (.enter k args) w)
  (h:Calls Tryz.prog k #[u] w fun e w'=>∃r,e=.returned r/\K (a.put o.dst r) w') :
  if Region.wanted o (yielded ops a.tmps)=true then Oper.wp Tryz.prog o a w K Q else E:=by
 rw [if_pos hw]
 unfold Oper.wp
 simp [execOp,ho,resolve,invoke,hx,go_sem,heg]
 refine h.mono ?_
 rintro e w' ⟨u,rfl,hk⟩
 exact hk
theorem fsQ_el {p:Qd} (h:∃j,j<6/\elQ j p=true):elQ (fsQ p) p=true:=by
 unfold fsQ
 repeat' split
 all_goals first
  | assumption
  | (
   exfalso
   obtain ⟨j,hj,he⟩:=h
   rcases (show j=0\/j=1\/j=2\/j=3\/j=4\/j=5 by omega) with rfl|rfl|rfl|rfl|rfl|rfl <;> contradiction)
def cntN (Q:List Qd) (lab:Int) (nt:Bool) (p:Qd):Nat:=if nt=true then 0 else (Q.filter (fun q=>fitB q ⟨p.s,p.p,p.o,lab⟩)).length
set_option maxHeartbeats 4000000 in
theorem scopeCount_any (tb xb:Nat) (id:ByteArray->Int) (Q:List Qd) (lab:Int) (nt:Bool) (p:Qd) (w:World) (hW:WAt w tb xb id Q) (hp:nt=false->numQ ⟨p.s,p.p,p.o,lab⟩) :
  Calls Tryz.prog 74 #[.agg #[.pointer (some ⟨xb,0,none⟩),.int .i64 lab,.bool nt],qv p] w fun e w'=>e=.returned (.int .i64 (cntN Q lab nt p:Int))/\Below w.heap.size w w':=by
 have HW:Hid (WAt w tb xb id Q):=hW
 clear hW
 unfold qv
 cases nt with
 | true=>
  have HB:Hid (∀O1 O2,Below w.heap.size w ((w.alloc O1).alloc O2)):=fun _ _=>(below_alloc _ _).alloc (by simp) _
  go_enter Tryz.func74,Tryz.ntmps74
  go_wp2
  go_ret
  exact ⟨rfl,HB.out _ _⟩
 | false=>
 have hnum:=hp rfl
 clear hp
 obtain ⟨j,hjd⟩:∃j,j=fsQ ⟨p.s,p.p,p.o,lab⟩:=⟨_,rfl⟩
 have hj6:j<6:=by rw [hjd];exact fsQ_lt _
 have hok:okTo (ptO j ⟨p.s,p.p,p.o,lab⟩) 4:=(elQ_iff _ _).1 (by rw [hjd];exact fsQ_el (elQ_ex _ hnum))
 have HSO:Hid (∀W,Calls Tryz.prog 77 #[.agg #[.int .i64 p.s,.int .i64 p.p,.int .i64 p.o,.int .i64 lab]] W fun e w'=>e=.returned (.int .i64 (j:Int))/\Below W.heap.size W w'):=fun W=>by
  rw [hjd]
  exact smallestOrder_any ⟨p.s,p.p,p.o,lab⟩ hnum W
 have HCT:Hid (∀W,Below w.heap.size w W->Calls Tryz.prog 108 #[.pointer (some ⟨xb,j*2,none⟩),.agg #[.int .i64 p.s,.int .i64 p.p,.int .i64 p.o,.int .i64 lab]] W fun e w'=>e=.returned (.int .i64 (cntN Q lab false p:Int))/\Below W.heap.size W w'):=fun W hW=>HW.out.cnt W j ⟨p.s,p.p,p.o,lab⟩ hW hj6 hok
 have hji:(j:Int)<6:=by omega
 have hj0:(0:Int)<=(j:Int):=by omega
 clear hok hjd hnum HW
 obtain ⟨W9,hW9⟩:∃W9,W9=(w.alloc (.cells #[.pointer (some ⟨xb,0,none⟩),.int .i64 lab,.bool false] 149)).alloc (.cells #[.int .i64 p.s,.int .i64 p.p,.int .i64 p.o,.int .i64 lab] 122):=⟨_,rfl⟩
 have S9:Hid (Bx W9 w.heap.size 149 #[.pointer (some ⟨xb,0,none⟩),.int .i64 lab,.bool false]/\Bx W9 (w.heap.size+1) 122 #[.int .i64 p.s,.int .i64 p.p,.int .i64 p.o,.int .i64 lab]/\Below w.heap.size w W9):=by
  rw [hW9]
  have b2:=Bx.new (w.alloc (.cells #[.pointer (some ⟨xb,0,none⟩),.int .i64 lab,.bool false] 149)) #[.int .i64 p.s,.int .i64 p.p,.int .i64 p.o,.int .i64 lab] 122
  simp only [World.size_alloc] at b2
  exact ⟨(Bx.new w _ 149).alloc _,b2,(below_alloc _ _).alloc (by simp) _⟩
 have HC:Hid (∀W,Below W9.heap.size W9 W->W.cell? ⟨w.heap.size,0,none⟩=some (.pointer (some ⟨xb,0,none⟩))/\W.cell? ⟨w.heap.size+1,0,none⟩=some (.int .i64 p.s)/\W.cell? ⟨w.heap.size+1,1,none⟩=some (.int .i64 p.p)/\W.cell? ⟨w.heap.size+1,2,none⟩=some (.int .i64 p.o)/\W.cell? ⟨w.heap.size+1,3,none⟩=some (.int .i64 lab)):=fun W hb=>by
  have p0:=Bx.cell ((hb.block _ S9.out.1.lt).trans S9.out.1) 0
  have q:=(hb.block _ S9.out.2.1.lt).trans S9.out.2.1
  have q0:=Bx.cell q 0
  have q1:=Bx.cell q 1
  have q2:=Bx.cell q 2
  have q3:=Bx.cell q 3
  simp at p0 q0 q1 q2 q3
  exact ⟨p0,q0,q1,q2,q3⟩
 go_enter Tryz.func74,Tryz.ntmps74
 go_upto_region 4 with fail
 rw [<- hW9]
 clear hW9
 refine wp_region_lateT (S:=fun W=>Below W9.heap.size W9 W) 8 (by kernel_rfl) (Below.refl _ _).drew (fun W hHeld=>?_)
 refine tk 0 .zero (v:=.pointer (some ⟨w.heap.size,0,none⟩)) (fun w' h=>by clear h;go_simp) ?_
 simp only [tkp]
 refine tk 1 (.succ .zero) (v:=.pointer (some ⟨xb,0,none⟩)) (fun w' h=>by obtain ⟨q0,q1,q2,q3,q4⟩:=HC.out _ h;clear h;go_simp) ?_
 simp only [tkp]
 refine tk 2 (.succ (.succ .zero)) (v:=.agg #[.int .i64 p.s,.int .i64 p.p,.int .i64 p.o,.int .i64 lab]) (fun w' h=>by obtain ⟨q0,q1,q2,q3,q4⟩:=HC.out _ h;clear h;go_simp) ?_
 simp only [tkp]
 refine tk 4 (.succ (.succ (.succ (.succ .zero)))) (v:=.pointer (some ⟨xb,0,none⟩)) (fun w' h=>by clear h;go_simp) ?_
 simp only [tkp]
 refine tk 6 (.s5 (.succ .zero)) (v:=.agg #[.int .i64 p.s,.int .i64 p.p,.int .i64 p.o,.int .i64 lab]) (fun w' h=>by obtain ⟨q0,q1,q2,q3,q4⟩:=HC.out _ h;clear h;go_simp) ?_
 simp only [tkp]
 refine tk1 3 (.succ (.succ (.succ .zero))) (fun K hK=>?_)
 refine step_h1 rfl 77 12 _ rfl (.agg #[.int .i64 p.s,.int .i64 p.p,.int .i64 p.o,.int .i64 lab]) rfl (fun _ _=>rfl) ?_
 refine (HSO.out W).mono ?_
 rintro e w5 ⟨rfl,hbm⟩
 have hb5:Below W9.heap.size W9 w5:=hHeld.trans (hbm.mono hHeld.size)
 refine ⟨_,rfl,hK.out _ _ (fun _=>hb5) (fun hG=>?_)⟩
 clear hK K hG hbm
 simp only [tkp]
 refine tk 5 (.s5 .zero) (v:=.pointer (some ⟨xb,j*2,none⟩)) (fun w' h=>by clear h;go_simp) ?_
 simp only [tkp]
 refine tk1 7 (.s5 (.succ (.succ .zero))) (fun K hK=>?_)
 refine step_h2 rfl 108 15 16 _ rfl (.pointer (some ⟨xb,j*2,none⟩)) (.agg #[.int .i64 p.s,.int .i64 p.p,.int .i64 p.o,.int .i64 lab]) rfl rfl (fun _ _=>rfl) ?_
 refine (HCT.out w5 (S9.out.2.2.trans (hb5.mono S9.out.2.2.size))).mono ?_
 rintro e w6 ⟨rfl,hbm⟩
 have hb6:Below W9.heap.size W9 w6:=hb5.trans (hbm.mono hb5.size)
 refine ⟨_,rfl,hK.out _ _ (fun _=>hb6) (fun hG=>?_)⟩
 clear hK K hG hbm
 simp only [tkp]
 refine tk1 8 (.s5 (.succ (.succ (.succ .zero)))) (fun K hK=>?_)
 go_simp
 refine hK.out _ _ (fun hne=>absurd rfl hne) (fun hG=>?_)
 clear hK K hG
 refine wpLate_done (by kernel_rfl) ?_ _
 have HF:Hid (Below w.heap.size w w6):=S9.out.2.2.trans (hb6.mono S9.out.2.2.size)
 go_wp2
 go_ret
 exact ⟨rfl,HF.out⟩
set_option linter.unusedSimpArgs false

set_option maxHeartbeats 4000000 in
theorem worldScope_any (wb tb xb:Nat) (id:ByteArray->Int) (Q:List Qd) (cb:Bool) (cl:ByteArray) (w:World) (hB:Bx w wb 147 #[.pointer (some ⟨tb,0,none⟩),.pointer (some ⟨xb,0,none⟩)]) (hW:WAt w tb xb id Q) :
  Calls Tryz.prog 73 #[.pointer (some ⟨wb,0,none⟩),.agg #[.bool cb,.string cl]] w fun e w'=>e=.returned (.agg #[.pointer (some ⟨xb,0,none⟩),.int .i64 (id cl),.bool (cb && decide (id cl=0))])/\Below w.heap.size w w':=by
 have HI:Hid (∀W,Below w.heap.size w W->Calls Tryz.prog 107 #[.pointer (some ⟨tb,0,none⟩),.string cl] W fun e w'=>e=.returned (.int .i64 (id cl))/\Below W.heap.size W w'):=fun W hb=>hW.tid W cl hb
 have hwl:=hB.lt
 clear hW
 obtain ⟨W9,hW9⟩:∃W9,W9=(w.alloc (.cells #[.bool cb,.string cl] 85)).alloc (.cells #[.pointer none,.int .i64 0,.bool false] 149):=⟨_,rfl⟩
 have S9:Hid (Bx W9 w.heap.size 85 #[.bool cb,.string cl]/\Bx W9 (w.heap.size+1) 149 #[.pointer none,.int .i64 0,.bool false]/\Bx W9 wb 147 #[.pointer (some ⟨tb,0,none⟩),.pointer (some ⟨xb,0,none⟩)]/\Below w.heap.size w W9):=by
  have hb:Below w.heap.size w W9:=by rw [hW9];exact (below_alloc _ _).alloc (by simp) _
  refine ⟨?_,?_,(hb.block _ hwl).trans hB,hb⟩
  ·rw [hW9]
   exact (Bx.new w _ 85).alloc _
  ·rw [hW9]
   have b2:=Bx.new (w.alloc (.cells #[.bool cb,.string cl] 85)) #[.pointer none,.int .i64 0,.bool false] 149
   simp only [World.size_alloc] at b2
   exact b2
 clear hB
 have HC:Hid (∀W,Below W9.heap.size W9 W->(W.cell? ⟨w.heap.size,0,none⟩=some (.bool cb)/\W.cell? ⟨w.heap.size,1,none⟩=some (.string cl))/\(W.cell? ⟨wb,0,none⟩=some (.pointer (some ⟨tb,0,none⟩))/\W.cell? ⟨wb,1,none⟩=some (.pointer (some ⟨xb,0,none⟩)))/\Bx W (w.heap.size+1) 149 #[.pointer none,.int .i64 0,.bool false]):=fun W hb=>by
  have p:=(hb.block _ S9.out.1.lt).trans S9.out.1
  have q:=(hb.block _ S9.out.2.2.1.lt).trans S9.out.2.2.1
  have p0:=Bx.cell p 0
  have p1:=Bx.cell p 1
  have q0:=Bx.cell q 0
  have q1:=Bx.cell q 1
  simp at p0 p1 q0 q1
  exact ⟨⟨p0,p1⟩,⟨q0,q1⟩,(hb.block _ S9.out.2.1.lt).trans S9.out.2.1⟩
 go_enter Tryz.func73,Tryz.ntmps73
 go_upto_region 1 with fail
 rw [<- hW9]
 clear hW9
 refine wp_region_lateT (S:=fun W=>Below W9.heap.size W9 W) 7 (by kernel_rfl) (Below.refl _ _).drew (fun W hHeld=>?_)
 refine tk 0 .zero (v:=.pointer (some ⟨wb,0,none⟩)) (fun w' h=>by clear h;go_simp) ?_
 simp only [tkp]
 refine tk 1 (.succ .zero) (v:=.pointer (some ⟨wb,0,none⟩)) (fun w' h=>by clear h;go_simp) ?_
 simp only [tkp]
 refine tk 2 (.succ (.succ .zero)) (v:=.pointer (some ⟨wb,0,none⟩)) (fun w' h=>by clear h;go_simp) ?_
 simp only [tkp]
 refine tk 3 (.succ (.succ (.succ .zero))) (v:=.pointer (some ⟨tb,0,none⟩)) (fun w' h=>by obtain ⟨⟨q0,q1⟩,⟨q2,q3⟩,q4⟩:=HC.out _ h;clear h;go_simp) ?_
 simp only [tkp]
 refine tk 4 (.succ (.succ (.succ (.succ .zero)))) (v:=.pointer (some ⟨w.heap.size,1,none⟩)) (fun w' h=>by clear h;go_simp) ?_
 simp only [tkp]
 refine tk 5 (.s5 .zero) (v:=.string cl) (fun w' h=>by obtain ⟨⟨q0,q1⟩,⟨q2,q3⟩,q4⟩:=HC.out _ h;clear h;go_simp) ?_
 simp only [tkp]
 refine tk1 6 (.s5 (.succ .zero)) (fun K hK=>?_)
 refine step_h2 rfl 107 9 11 _ rfl (.pointer (some ⟨tb,0,none⟩)) (.string cl) rfl rfl (fun _ _=>rfl) ?_
 refine (HI.out W (S9.out.2.2.2.trans (hHeld.mono S9.out.2.2.2.size))).mono ?_
 rintro e w5 ⟨rfl,hbm⟩
 have hb5:Below W9.heap.size W9 w5:=hHeld.trans (hbm.mono hHeld.size)
 refine ⟨_,rfl,hK.out _ _ (fun _=>hb5) (fun hG=>?_)⟩
 clear hK K hG hbm
 simp only [tkp]
 refine tk1 7 (.s5 (.succ (.succ .zero))) (fun K hK=>?_)
 go_simp
 refine hK.out _ _ (fun hne=>absurd rfl hne) (fun hG=>?_)
 clear hK K hG
 refine wpLate_done (by kernel_rfl) ?_ _
 obtain ⟨⟨z0,z1⟩,⟨z2,z3⟩,z4⟩:=HC.out _ hb5
 have z5:=z4.cell 0
 have z6:=z4.cell 1
 have z7:=z4.cell 2
 simp at z5 z6 z7
 have z8:∀i,w5.frozen? ⟨w.heap.size+1,i,none⟩=false:=fun i=>by unfold Bx at z4;simp [World.frozen?,z4]
 have f0:=z8 0
 have f1:=z8 1
 have f2:=z8 2
 clear z8
 have HB5:Hid (Below w.heap.size w w5/\w.heap.size+1<w5.heap.size):=⟨S9.out.2.2.2.trans (hb5.mono S9.out.2.2.2.size),z4.lt⟩
 have Z4:Hid (Bx w5 (w.heap.size+1) 149 #[.pointer none,.int .i64 0,.bool false]):=z4
 clear z4 hHeld hb5 HC HI S9
 obtain ⟨lab,hlab⟩:∃lab,lab=id cl:=⟨_,rfl⟩
 have HL:Hid (lab=id cl):=hlab
 rw [<- hlab]
 clear hlab
 have hl:lab=0\/¬ lab=0:=by omega
 rcases hl with hl|hl <;> cases cb
 ·subst hl
  go_wp2
  go_region
  all_goals
   go_wp2
   refine bodyPost_ret (v:=.agg #[.pointer (some ⟨xb,0,none⟩),.int .i64 0,.bool false]) (by simp [results,Tryz.results73,go_sem,z5,z6,z7]) rfl ⟨by rw [<- HL.out];simp,(((HB5.out.1.setCell (by show w.heap.size<=w.heap.size+1;omega) _).setCell (by show w.heap.size<=w.heap.size+1;omega) _).setCell (by show w.heap.size<=w.heap.size+1;omega) _).drew⟩
 ·subst hl
  go_wp2
  go_region
  all_goals
   go_wp2
   refine bodyPost_ret (v:=.agg #[.pointer (some ⟨xb,0,none⟩),.int .i64 0,.bool true]) (by simp [results,Tryz.results73,go_sem,z5,z6,z7]) rfl ⟨by rw [<- HL.out];simp,(((HB5.out.1.setCell (by show w.heap.size<=w.heap.size+1;omega) _).setCell (by show w.heap.size<=w.heap.size+1;omega) _).setCell (by show w.heap.size<=w.heap.size+1;omega) _).drew⟩
 ·have hl' : decide (lab=0)=false:=decide_eq_false hl
  go_wp2
  go_region
  all_goals
   go_wp2
   refine bodyPost_ret (v:=.agg #[.pointer (some ⟨xb,0,none⟩),.int .i64 lab,.bool false]) (by simp [results,Tryz.results73,go_sem,z5,z6,z7,hl]) rfl ⟨by rw [<- HL.out];simp [hl],(((HB5.out.1.setCell (by show w.heap.size<=w.heap.size+1;omega) _).setCell (by show w.heap.size<=w.heap.size+1;omega) _).setCell (by show w.heap.size<=w.heap.size+1;omega) _).drew⟩
 ·have hl' : decide (lab=0)=false:=decide_eq_false hl
  go_wp2
  go_region
  all_goals
   go_wp2
   refine bodyPost_ret (v:=.agg #[.pointer (some ⟨xb,0,none⟩),.int .i64 lab,.bool false]) (by simp [results,Tryz.results73,go_sem,z5,z6,z7,hl]) rfl ⟨by rw [<- HL.out];simp [hl],(((HB5.out.1.setCell (by show w.heap.size<=w.heap.size+1;omega) _).setCell (by show w.heap.size<=w.heap.size+1;omega) _).setCell (by show w.heap.size<=w.heap.size+1;omega) _).drew⟩
set_option linter.unusedSimpArgs false

theorem firstIf_any (b:Bool) (w:World):Calls Tryz.prog 76 #[.bool b] w fun e w'=>e=.returned (.int .i64 (if b=true then 0 else 1))/\w'=w:=by
 cases b
 ·go_enter Tryz.func76,Tryz.ntmps76
  go_wp2
  go_ret
  exact ⟨rfl,rfl⟩
 ·go_enter Tryz.func76,Tryz.ntmps76
  go_wp2
  go_ret
  exact ⟨rfl,rfl⟩
theorem cntN_mtL (id:ByteArray->Int) (Q:List Qd) (cb:Bool) (cl:ByteArray) (p:Qd) (h0:cb=false->id cl=0) (hg:p.g=0) :
  cntN Q (id cl) (cb && decide (id cl=0)) p=(mtL Q ⟨cb,if cb=true then id cl else 0⟩ p).length:=by
 obtain ⟨a,b,c,d⟩:=p
 have hg' : d=0:=hg
 subst hg'
 cases cb with
 | false=>simp [cntN,mtL,noC,inC,h0 rfl]
 | true=>
  by_cases h:id cl=0
  ·simp [cntN,mtL,noC,inC,h]
  ·simp [cntN,mtL,noC,inC,h]
end Go.Proofs.YtpaomghibppgkaaGreat
