import Derived.Test.YtpaomghibppgkaaGreatNv40
import Derived.Test.YtpaomghibppgkaaGreatNv11
import Derived.Test.YtpaomghibppgkaaGreatNv1
import Derived.Deep.CutRange
import Derived.Deep.CutBlock
import Derived.Test.YtpaomghibppgkaaGreatNv41
import Derived.Test.YtpaomghibppgkaaGreatNv10
import Derived.Test.YtpaomghibppgkaaGreatNv33
import Derived.Test.YtpaomghibppgkaaGreatNv35
set_option linter.unusedVariables false
set_option maxRecDepth 100000
namespace Go.Proofs.YtpaomghibppgkaaGreat
open Go.RowKit Go.Deep
set_option linter.unusedSimpArgs false

theorem l6Root_any (b o m c:Nat) (I:Nat->Int) (X R:Nat->ByteArray) (w:World) (h:RdN w (some ⟨b,o,none⟩) (m+1) I X R) (hm:m<=1048576):Calls Tryz.prog 55 #[.slice (some ⟨b,o,none⟩) (m+1) c] w fun e w'=>e=.returned (.agg #[.int .i64 (I m),.string (X m),.string (R m)])/\Below w.heap.size w w':=by
 rcases h with h|⟨b',o',e,hc⟩
 ·omega
 injection e with e
 injection e with e1 e2
 subst e1 e2
 obtain ⟨c0,c1,c2⟩:=hc m (by omega)
 have hw:IntKind.i64.wrap (((m+1:Nat):Int)-1)=(m:Int):=by rw [IntKind.wrap_i64];omega
 have hw2:IntKind.i64.wrap ((m:Int)+1-1)=(m:Int):=by rw [IntKind.wrap_i64];omega
 have hb:=World.block_lt_of_cell? _ _ c0
 clear hc
 go_enter Tryz.func55,Tryz.ntmps55
 go_wp2
 exact bodyPost_ret (v:=.agg #[.int .i64 (I m),.string (X m),.string (R m)]) (by simp [results,Tryz.results55,go_sem]) rfl ⟨rfl,below_alloc _ _⟩
theorem kids_uniq {A:Nat->Nat} {b o c n j r r' : Nat} {ks ks' : List Value} (h:KidsOf A b o c n j r ks) (h' : KidsOf A b o c n j r' ks'):ks'=ks:=by
 rcases h with ⟨h0,_,rfl⟩|⟨h1,h2,rfl⟩|⟨h1,_,s,h2,h3,rfl⟩ <;> rcases h' with ⟨g0,_,rfl⟩|⟨g1,g2,rfl⟩|⟨g1,_,s',g2,g3,rfl⟩ <;> first|(exfalso;omega)|rfl|skip
 ·rw [h2.uniq g2]
 ·rw [h2.uniq g2]
theorem kids_ex {A:Nat->Nat} (b o c m:Nat) (h:Begins A (m+1) 0) (ha:A m<=2):∃r ks,KidsOf A b o c (m+1) (A m) r ks:=by
 rcases kids_math (by omega) h (by exact ha) with ⟨e,_⟩|⟨e,q⟩|⟨e,s,_,q1,q2⟩
 ·rw [Nat.add_sub_cancel] at e
  exact ⟨m,[],.inl ⟨e,rfl,rfl⟩⟩
 ·rw [Nat.add_sub_cancel] at e
  exact ⟨0,_,.inr (.inl ⟨e,q,rfl⟩)⟩
 ·rw [Nat.add_sub_cancel] at e
  exact ⟨0,_,.inr (.inr ⟨e,rfl,s,q1,q2,rfl⟩)⟩
theorem kids_text {b o c base m r:Nat} {ks:List Value} {I:Nat->Int} {X R:Nat->ByteArray} {w:World} (h:KidsOf (fun i=>arOf (I (base+i))) b o c (m+1) (arOf (I (base+m))) r ks) (hR:RdN w (some ⟨b,o,none⟩) (m+1) (fun i=>I (base+i)) (fun i=>X (base+i)) (fun i=>R (base+i))) (hc:m+1<=c) (hb:Begins (fun i=>arOf (I (base+i))) (m+1) 0) :
  ∀i,i<arOf (I (base+m))->∃o' n' c' base',ks[i]?=some (.slice (some ⟨b,o',none⟩) (n'+1) c')/\RdN w (some ⟨b,o',none⟩) (n'+1) (fun i=>I (base'+i)) (fun i=>X (base'+i)) (fun i=>R (base'+i))/\Begins (fun i=>arOf (I (base'+i))) (n'+1) 0/\n'+1<=m/\n'+1<=c'/\c'<=c/\base'+n'=opf (arI I) (base+m) i/\base'+n'<base+m:=by
 intro i hi
 rcases h with ⟨h0,_,_⟩|⟨h1,h2,h3⟩|⟨h1,_,s,h2,h3,h4⟩
 ·omega
 ·rw [Nat.add_sub_cancel] at h2 h3
  have hr0:r=0:=by
   rcases kids_math (by omega) hb (by exact arOf_le _) with ⟨e,_⟩|⟨_,e⟩|⟨e,_⟩
   ·rw [Nat.add_sub_cancel] at e;omega
   ·rw [Nat.add_sub_cancel] at e;exact h2.uniq e
   ·rw [Nat.add_sub_cancel] at e;omega
  subst hr0
  have hi0:i=0:=by omega
  subst hi0
  have hm:=h2.1
  refine ⟨o,m-1,c,base,?_,hR.take (by omega),?_,by omega,by omega,Nat.le_refl _,?_,by omega⟩
  ·rw [h3,show m-1+1=m by omega];simp
  ·rw [show m-1+1=m by omega];exact h2
  ·unfold opf arI
   rw [if_neg (by omega)]
   omega
 ·rw [Nat.add_sub_cancel] at h2 h4
  have hs:=h2.1
  have hs0:=h3.1
  have hi2:i=0\/i=1:=by omega
  rcases hi2 with rfl|rfl
  ·refine ⟨o,s-1,c,base,?_,hR.take (by omega),?_,by omega,by omega,Nat.le_refl _,?_,by omega⟩
   ·rw [h4,show s-1+1=s by omega];rfl
   ·rw [show s-1+1=s by omega];exact h3
   ·have e:=bgF_of (begins_lift (A:=arI I) h2)
    unfold opf
    rw [if_pos ⟨h1,rfl⟩,e]
    omega
  ·refine ⟨o+s*3,m-s-1,c-s,base+s,?_,?_,?_,by omega,by omega,by omega,?_,by omega⟩
   ·rw [h4,show m-s-1+1=m-s by omega];rfl
   ·rw [show m-s-1+1=m-s by omega]
    have:=(hR.shift s).take (show m-s<=m+1-s by omega)
    simpa only [Nat.add_assoc] using this
   ·rw [show m-s-1+1=m-s by omega]
    have:=h2.shift
    simpa only [Nat.add_assoc] using this
   ·unfold opf
    rw [if_neg (by omega)]
    omega

theorem wp_region_lateT {P:Program} {ops:Array Oper} {Q:Exit->Act->World->Prop} {S:World->Prop} {id:Nat} {a:Act} {w:World} (late:Nat) (hm:P.follows .mixedOrders=true) (hS:S w.drew)
  (h:∀W,S W->wpLate P .any ops Q S late ops.size (Array.replicate ops.size false) a W):(Code.region id ops true).wp P Q a w:=wp_region_late late hm hS (fun h'=>h _ h')
theorem step_h3 {ops:Array Oper} {o:Oper} {a:Act} {w:World} {K:Act->World->Prop} {Q:Exit->Act->World->Prop} {E:Prop} (hw:Region.wanted o (yielded ops a.tmps)=true) (k:Nat) (i j l:Nat) (tys:Array TypeId)
  (ho:o.op=.call { callee:=.value (.func k),args:=#[.tmp i,.tmp j,.tmp l],argTypes:=tys }) (u v z:Value) (hx:a.tmps[i]?.getD undef=u) (hy:a.tmps[j]?.getD undef=v) (hz:a.tmps[l]?.getD undef=z) (heg:∀args w,(callFunc k args).run Tryz.prog w=.ok (.enter k args) w)
  (h:Calls Tryz.prog k #[u,v,z] w fun e w'=>∃r,e=.returned r/\K (a.put o.dst r) w') :
  if Region.wanted o (yielded ops a.tmps)=true then Oper.wp Tryz.prog o a w K Q else E:=by
 rw [if_pos hw]
 unfold Oper.wp
 simp [execOp,ho,resolve,invoke,hx,hy,hz,go_sem,heg]
 refine h.mono ?_
 rintro e w' ⟨u,rfl,hk⟩
 exact hk
theorem step_h2 {ops:Array Oper} {o:Oper} {a:Act} {w:World} {K:Act->World->Prop} {Q:Exit->Act->World->Prop} {E:Prop} (hw:Region.wanted o (yielded ops a.tmps)=true) (k:Nat) (i j:Nat) (tys:Array TypeId)
  (ho:o.op=.call { callee:=.value (.func k),args:=#[.tmp i,.tmp j],argTypes:=tys }) (u v:Value) (hx:a.tmps[i]?.getD undef=u) (hy:a.tmps[j]?.getD undef=v) (heg:∀args w,(callFunc k args).run Tryz.prog w=.ok (.enter k args) w)
  (h:Calls Tryz.prog k #[u,v] w fun e w'=>∃r,e=.returned r/\K (a.put o.dst r) w') :
  if Region.wanted o (yielded ops a.tmps)=true then Oper.wp Tryz.prog o a w K Q else E:=by
 rw [if_pos hw]
 unfold Oper.wp
 simp [execOp,ho,resolve,invoke,hx,hy,go_sem,heg]
 refine h.mono ?_
 rintro e w' ⟨u,rfl,hk⟩
 exact hk
set_option linter.unusedSimpArgs false

structure GsS (w W:World) (next:Int) (a:Option Addr) (n c:Nat) (qa:Option Addr) (ll qc:Nat) (xb:Bool) (xg k:Int) (s t:ByteArray) (y:Cx) (ks:List Value) (nb go c9:Nat):Prop where
 wb:Bx W w.heap.size 70 #[.int .i64 next,.slice a n c,.slice qa ll qc]
 cb:Bx W (w.heap.size+1) 72 #[.bool xb,.int .i64 xg]
 nd:Bx W nb 83 #[.int .i64 k,.string s,.string t]
 yb:Bx W c9 72 #[.bool y.b,.int .i64 y.g]
 kd:∀i v,ks[i]?=some v->W.cell? ⟨go,i,none⟩=some v
 bel:Below w.heap.size w W
section
variable {w W W' : World} {next:Int} {a:Option Addr} {n c:Nat} {qa:Option Addr} {ll qc:Nat} {xb:Bool} {xg k:Int} {s t:ByteArray} {y:Cx} {ks:List Value} {nb go c9:Nat}
theorem GsS.keep (h:GsS w W next a n c qa ll qc xb xg k s t y ks nb go c9) (hb:Below W.heap.size W W'):GsS w W' next a n c qa ll qc xb xg k s t y ks nb go c9:=
 ⟨(hb.block _ h.wb.lt).trans h.wb,(hb.block _ h.cb.lt).trans h.cb,(hb.block _ h.nd.lt).trans h.nd,(hb.block _ h.yb.lt).trans h.yb,fun i v hi=>(hb.cell (p:=⟨go,i,none⟩) (World.block_lt_of_cell? _ _ (h.kd i v hi))).trans (h.kd i v hi),h.bel.trans (hb.mono h.bel.size)⟩
theorem GsS.cells (h:GsS w W next a n c qa ll qc xb xg k s t y ks nb go c9) :
  (W.cell? ⟨w.heap.size,0,none⟩=some (.int .i64 next)/\W.cell? ⟨w.heap.size,1,none⟩=some (.slice a n c)/\W.cell? ⟨w.heap.size,2,none⟩=some (.slice qa ll qc))/\(W.cell? ⟨w.heap.size+1,0,none⟩=some (.bool xb)/\W.cell? ⟨w.heap.size+1,1,none⟩=some (.int .i64 xg))/\(W.cell? ⟨nb,0,none⟩=some (.int .i64 k)/\W.cell? ⟨nb,1,none⟩=some (.string s)/\W.cell? ⟨nb,2,none⟩=some (.string t))/\W.cell? ⟨c9,0,none⟩=some (.bool y.b)/\W.cell? ⟨c9,1,none⟩=some (.int .i64 y.g):=by
 have w0:=h.wb.cell 0
 have w1:=h.wb.cell 1
 have w2:=h.wb.cell 2
 have c0:=h.cb.cell 0
 have c1:=h.cb.cell 1
 have n0:=h.nd.cell 0
 have n1:=h.nd.cell 1
 have n2:=h.nd.cell 2
 have y0:=h.yb.cell 0
 have y1:=h.yb.cell 1
 simp at n0 n1 n2 w0 w1 w2 c0 c1 y0 y1
 exact ⟨⟨w0,w1,w2⟩,⟨c0,c1⟩,⟨n0,n1,n2⟩,y0,y1⟩
end
def KidG (w:World) (v:Value) (next:Int) (a:Option Addr) (n c:Nat) (qa:Option Addr) (ll qc:Nat) (G:Cx->Nat):Prop:=∀(W:World) (x:Cx),Below w.heap.size w W->Calls Tryz.prog 60 #[v,.agg #[.int .i64 next,.slice a n c,.slice qa ll qc],.agg #[.bool x.b,.int .i64 x.g]] W fun e w'=>e=.returned (.int .i64 (G x:Int))/\Below W.heap.size W w'
def RtA (w:World) (ns:Value) (k:Int) (s t:ByteArray) (ks:List Value):Prop:=(∀W,Below w.heap.size w W->Calls Tryz.prog 55 #[ns] W fun e w'=>e=.returned (.agg #[.int .i64 k,.string s,.string t])/\Below W.heap.size W w')/\(∀W,Below w.heap.size w W->Calls Tryz.prog 56 #[ns] W fun e w'=>∃go cpo,e=.returned (.slice (some ⟨go,0,none⟩) ks.length cpo)/\(∀i x,ks[i]?=some x->w'.cell? ⟨go,i,none⟩=some x)/\Below W.heap.size W w')
set_option maxHeartbeats 8000000 in
theorem guess_a (ns:Value) (k:Int) (hk:k=1\/k=2) (next:Int) (a:Option Addr) (n c:Nat) (qa:Option Addr) (ll qc:Nat) (LL:List Qd) (id:ByteArray->Int) (xb:Bool) (xg:Int) (s t:ByteArray) (w:World) (y:Cx) (hy:y=dnC id k s ⟨xb,xg⟩) (hns:∃na nl nc,ns=.slice na nl nc) (hT:TidC w next a n c id) (hq:RdQ w qa LL) (hll:ll=LL.length) (hl3:ll<=300) (hR:RtA w ns k s t []) :
  Calls Tryz.prog 60 #[ns,.agg #[.int .i64 next,.slice a n c,.slice qa ll qc],.agg #[.bool xb,.int .i64 xg]] w fun e w'=>e=.returned (.int .i64 (nodeG k (ownN id LL k s t ⟨xb,xg⟩) (mtL LL ⟨xb,xg⟩ ⟨0,0,0,0⟩).length 0 0:Nat))/\Below w.heap.size w w':=by
 obtain ⟨na,nl,nc,rfl⟩:=hns
 have HR:Hid (RtA w (.slice na nl nc) k s t []):=hR
 have HBW:Hid (∀W,Below w.heap.size w W->Calls Tryz.prog 57 #[.agg #[.bool xb,.int .i64 xg],.agg #[.int .i64 next,.slice a n c,.slice qa ll qc],.agg #[.int .i64 k,.string s,.string t]] W fun e w'=>e=.returned (.agg #[.bool y.b,.int .i64 y.g])/\Below W.heap.size W w'):=fun W hW=>by rw [hy];exact l6Below_any next a n c qa ll qc id ⟨xb,xg⟩ k s t W (hT.below hW)
 have HOW:Hid (∀W,Below w.heap.size w W->Calls Tryz.prog 61 #[.agg #[.int .i64 k,.string s,.string t],.agg #[.int .i64 next,.slice a n c,.slice qa ll qc],.agg #[.bool xb,.int .i64 xg]] W fun e w'=>e=.returned (.int .i64 (ownN id LL k s t ⟨xb,xg⟩:Int))/\Below W.heap.size W w'):=fun W hW=>l6Own_any next a n c qa ll qc LL id ⟨xb,xg⟩ k s t W (hT.below hW) (hq.below hW) hll hl3
 have HMA:Hid (∀W,Below w.heap.size w W->Calls Tryz.prog 94 #[.agg #[.int .i64 next,.slice a n c,.slice qa ll qc],.agg #[.bool xb,.int .i64 xg],.agg #[.int .i64 0,.int .i64 0,.int .i64 0,.int .i64 0]] W (RetMt W (mtL LL ⟨xb,xg⟩ ⟨0,0,0,0⟩))):=fun W hW=>l6Match_any next a n c qa ll qc LL ⟨xb,xg⟩ ⟨0,0,0,0⟩ W (hq.below hW) hll hl3
 have hml:(mtL LL ⟨xb,xg⟩ ⟨0,0,0,0⟩).length<=300:=by
  unfold mtL
  split
  ·simp
  ·exact Nat.le_trans (List.length_filter_le _ _) (by omega)
 have HY:Hid (y=dnC id k s ⟨xb,xg⟩):=hy
 clear hR hT hq hll hy
 obtain ⟨W0,hW0⟩:∃W0,W0=(w.alloc (.cells #[.int .i64 next,.slice a n c,.slice qa ll qc] 70)).alloc (.cells #[.bool xb,.int .i64 xg] 72):=⟨_,rfl⟩
 have hb1:Bx W0 w.heap.size 70 #[.int .i64 next,.slice a n c,.slice qa ll qc]:=by
  rw [hW0]
  exact (Bx.new w #[.int .i64 next,.slice a n c,.slice qa ll qc] 70).alloc _
 have hb2:Bx W0 (w.heap.size+1) 72 #[.bool xb,.int .i64 xg]:=by
  rw [hW0]
  have b2:=Bx.new (w.alloc (.cells #[.int .i64 next,.slice a n c,.slice qa ll qc] 70)) #[.bool xb,.int .i64 xg] 72
  simp only [World.size_alloc] at b2
  exact b2
 have hbw:Below w.heap.size w W0:=by rw [hW0];exact (below_alloc _ _).alloc (by simp) _
 have S0:Hid (Bx W0 w.heap.size 70 #[.int .i64 next,.slice a n c,.slice qa ll qc]/\Bx W0 (w.heap.size+1) 72 #[.bool xb,.int .i64 xg]/\Below w.heap.size w W0):=⟨hb1,hb2,hbw⟩
 clear hb1 hb2 hbw
 go_enter Tryz.func60,Tryz.ntmps60
 go_upto_region 1 with fail
 rw [<- hW0]
 clear hW0
 go_wp2_with fail
 refine (HR.out.1 W0 S0.out.2.2).mono ?_
 rintro e w1 ⟨rfl,hb1⟩
 obtain ⟨W1,hW1⟩:∃W1,W1=w1.alloc (.cells #[.int .i64 k,.string s,.string t] 83):=⟨_,rfl⟩
 have hbb:Below w1.heap.size w1 W1:=by rw [hW1];exact below_alloc _ _
 have hb01:Below W0.heap.size W0 W1:=hb1.trans (hbb.mono hb1.size)
 have S1:Hid (Bx W1 w.heap.size 70 #[.int .i64 next,.slice a n c,.slice qa ll qc]/\Bx W1 (w.heap.size+1) 72 #[.bool xb,.int .i64 xg]/\Bx W1 w1.heap.size 83 #[.int .i64 k,.string s,.string t]/\Below w.heap.size w W1):=⟨(hb01.block _ S0.out.1.lt).trans S0.out.1,(hb01.block _ S0.out.2.1.lt).trans S0.out.2.1,by rw [hW1];exact Bx.new _ _ _,S0.out.2.2.trans (hb01.mono S0.out.2.2.size)⟩
 clear hb1 hbb hb01 S0
 go_upto_region 2 with fail
 rw [<- hW1]
 clear hW1
 generalize w1.heap.size=nb at*
 go_wp2_with fail
 refine (HR.out.2 W1 S1.out.2.2.2).mono ?_
 rintro e w2 ⟨go,cpo,rfl,hkd,hb2⟩
 have S2:Hid (Bx w2 w.heap.size 70 #[.int .i64 next,.slice a n c,.slice qa ll qc]/\Bx w2 (w.heap.size+1) 72 #[.bool xb,.int .i64 xg]/\Bx w2 nb 83 #[.int .i64 k,.string s,.string t]/\Below w.heap.size w w2/\(∀i x,([]:List Value)[i]?=some x->w2.cell? ⟨go,i,none⟩=some x)):=⟨(hb2.block _ S1.out.1.lt).trans S1.out.1,(hb2.block _ S1.out.2.1.lt).trans S1.out.2.1,(hb2.block _ S1.out.2.2.1.lt).trans S1.out.2.2.1,S1.out.2.2.2.trans (hb2.mono S1.out.2.2.2.size),hkd⟩
 clear hkd hb2 S1 HR
 have z0:=S2.out.1.cell 0
 have z1:=S2.out.1.cell 1
 have z2:=S2.out.1.cell 2
 have z3:=S2.out.2.1.cell 0
 have z4:=S2.out.2.1.cell 1
 have z5:=S2.out.2.2.1.cell 0
 have z6:=S2.out.2.2.1.cell 1
 have z7:=S2.out.2.2.1.cell 2
 simp at z0 z1 z2 z3 z4 z5 z6 z7
 try simp only [List.length_cons,List.length_nil,Nat.zero_add]
 go_wp2_with fail
 refine (HBW.out w2 S2.out.2.2.2.1).mono ?_
 rintro e w3 ⟨rfl,hb3⟩
 obtain ⟨W9,hW9⟩:∃W9,W9=w3.alloc (.cells #[.bool y.b,.int .i64 y.g] 72):=⟨_,rfl⟩
 have hbb:Below w3.heap.size w3 W9:=by rw [hW9];exact below_alloc _ _
 have hb29:Below w2.heap.size w2 W9:=hb3.trans (hbb.mono hb3.size)
 have S9:Hid (GsS w W9 next a n c qa ll qc xb xg k s t y [] nb go w3.heap.size):=⟨(hb29.block _ S2.out.1.lt).trans S2.out.1,(hb29.block _ S2.out.2.1.lt).trans S2.out.2.1,(hb29.block _ S2.out.2.2.1.lt).trans S2.out.2.2.1,by rw [hW9];exact Bx.new _ _ _,fun i v hi=>(hb29.cell (p:=⟨go,i,none⟩) (World.block_lt_of_cell? _ _ (S2.out.2.2.2.2 i v hi))).trans (S2.out.2.2.2.2 i v hi),S2.out.2.2.2.1.trans (hb29.mono S2.out.2.2.2.1.size)⟩
 clear hb3 hbb hb29 S2 HBW z0 z1 z2 z3 z4 z5 z6 z7
 go_upto_region 4 with fail
 rw [<- hW9]
 clear hW9
 generalize w3.heap.size=c9 at*
 obtain ⟨⟨z0,z1,z2⟩,⟨z3,z4⟩,⟨z5,z6,z7⟩,z8,z9⟩:=S9.out.cells
 rcases hk with rfl|rfl
 ·go_wp2_with fail
  with_reducible refine (HMA.out W9 S9.out.bel).mono ?_
  rintro e w5 ⟨a5,c5,rfl,-,hb5⟩
  have HBZ:Hid (Below w.heap.size w w5):=S9.out.bel.trans (hb5.mono S9.out.bel.size)
  clear hb5
  obtain ⟨LN,hLN⟩:∃LN,LN=(mtL LL ⟨xb,xg⟩ ⟨0,0,0,0⟩).length:=⟨_,rfl⟩
  rw [<- hLN] at hml ⊢
  have HLN:Hid (LN=(mtL LL ⟨xb,xg⟩ ⟨0,0,0,0⟩).length):=hLN
  clear hLN
  obtain ⟨L2,hL2⟩:∃L2:Nat,L2=2*LN:=⟨_,rfl⟩
  have HL2:Hid (L2=2*LN):=hL2
  have hw2:IntKind.i64.wrap (2*(LN:Int))=(L2:Int):=by rw [IntKind.wrap_i64];omega
  have hw3:2*(LN:Int)=(L2:Int):=by omega
  clear hL2
  go_wp2
  go_ret
  exact ⟨congrArg (fun z:Int=>Ending.returned (Value.int .i64 z)) (by have:=HL2.out;have:=HLN.out;show (L2:Int)=((2*(mtL LL ⟨xb,xg⟩ ⟨0,0,0,0⟩).length:Nat):Int);omega),HBZ.out⟩
 ·have HBZ:Hid (Below w.heap.size w W9):=S9.out.bel
  go_wp2
  go_ret
  exact ⟨by rw [HY.out];rfl,HBZ.out⟩
set_option maxHeartbeats 8000000 in
theorem guess_b (ns:Value) (k:Int) (hk:k=3\/k=4\/k=5\/k=9) (next:Int) (a:Option Addr) (n c:Nat) (qa:Option Addr) (ll qc:Nat) (LL:List Qd) (id:ByteArray->Int) (xb:Bool) (xg:Int) (s t:ByteArray) (a0:Option Addr) (l0 k0:Nat) (G0:Cx->Nat) (w:World) (y:Cx) (hy:y=dnC id k s ⟨xb,xg⟩) (hns:∃na nl nc,ns=.slice na nl nc) (hT:TidC w next a n c id) (hq:RdQ w qa LL) (hll:ll=LL.length) (hl3:ll<=300) (hR:RtA w ns k s t [.slice a0 l0 k0]) (hg0:KidG w (.slice a0 l0 k0) next a n c qa ll qc G0) (hb0:∀x,G0 x<=1048576) :
  Calls Tryz.prog 60 #[ns,.agg #[.int .i64 next,.slice a n c,.slice qa ll qc],.agg #[.bool xb,.int .i64 xg]] w fun e w'=>e=.returned (.int .i64 (nodeG k (ownN id LL k s t ⟨xb,xg⟩) (mtL LL ⟨xb,xg⟩ ⟨0,0,0,0⟩).length (G0 y) 0:Nat))/\Below w.heap.size w w':=by
 obtain ⟨na,nl,nc,rfl⟩:=hns
 have HR:Hid (RtA w (.slice na nl nc) k s t [.slice a0 l0 k0]):=hR
 have HBW:Hid (∀W,Below w.heap.size w W->Calls Tryz.prog 57 #[.agg #[.bool xb,.int .i64 xg],.agg #[.int .i64 next,.slice a n c,.slice qa ll qc],.agg #[.int .i64 k,.string s,.string t]] W fun e w'=>e=.returned (.agg #[.bool y.b,.int .i64 y.g])/\Below W.heap.size W w'):=fun W hW=>by rw [hy];exact l6Below_any next a n c qa ll qc id ⟨xb,xg⟩ k s t W (hT.below hW)
 have HOW:Hid (∀W,Below w.heap.size w W->Calls Tryz.prog 61 #[.agg #[.int .i64 k,.string s,.string t],.agg #[.int .i64 next,.slice a n c,.slice qa ll qc],.agg #[.bool xb,.int .i64 xg]] W fun e w'=>e=.returned (.int .i64 (ownN id LL k s t ⟨xb,xg⟩:Int))/\Below W.heap.size W w'):=fun W hW=>l6Own_any next a n c qa ll qc LL id ⟨xb,xg⟩ k s t W (hT.below hW) (hq.below hW) hll hl3
 have HMA:Hid (∀W,Below w.heap.size w W->Calls Tryz.prog 94 #[.agg #[.int .i64 next,.slice a n c,.slice qa ll qc],.agg #[.bool xb,.int .i64 xg],.agg #[.int .i64 0,.int .i64 0,.int .i64 0,.int .i64 0]] W (RetMt W (mtL LL ⟨xb,xg⟩ ⟨0,0,0,0⟩))):=fun W hW=>l6Match_any next a n c qa ll qc LL ⟨xb,xg⟩ ⟨0,0,0,0⟩ W (hq.below hW) hll hl3
 have hml:(mtL LL ⟨xb,xg⟩ ⟨0,0,0,0⟩).length<=300:=by
  unfold mtL
  split
  ·simp
  ·exact Nat.le_trans (List.length_filter_le _ _) (by omega)
 have HG0:Hid (KidG w (.slice a0 l0 k0) next a n c qa ll qc G0):=hg0
 have b0x:=hb0 ⟨xb,xg⟩
 have b0y:=hb0 y
 clear hg0 hb0
 have HY:Hid (y=dnC id k s ⟨xb,xg⟩):=hy
 clear hR hT hq hll hy
 obtain ⟨W0,hW0⟩:∃W0,W0=(w.alloc (.cells #[.int .i64 next,.slice a n c,.slice qa ll qc] 70)).alloc (.cells #[.bool xb,.int .i64 xg] 72):=⟨_,rfl⟩
 have hb1:Bx W0 w.heap.size 70 #[.int .i64 next,.slice a n c,.slice qa ll qc]:=by
  rw [hW0]
  exact (Bx.new w #[.int .i64 next,.slice a n c,.slice qa ll qc] 70).alloc _
 have hb2:Bx W0 (w.heap.size+1) 72 #[.bool xb,.int .i64 xg]:=by
  rw [hW0]
  have b2:=Bx.new (w.alloc (.cells #[.int .i64 next,.slice a n c,.slice qa ll qc] 70)) #[.bool xb,.int .i64 xg] 72
  simp only [World.size_alloc] at b2
  exact b2
 have hbw:Below w.heap.size w W0:=by rw [hW0];exact (below_alloc _ _).alloc (by simp) _
 have S0:Hid (Bx W0 w.heap.size 70 #[.int .i64 next,.slice a n c,.slice qa ll qc]/\Bx W0 (w.heap.size+1) 72 #[.bool xb,.int .i64 xg]/\Below w.heap.size w W0):=⟨hb1,hb2,hbw⟩
 clear hb1 hb2 hbw
 go_enter Tryz.func60,Tryz.ntmps60
 go_upto_region 1 with fail
 rw [<- hW0]
 clear hW0
 go_wp2_with fail
 refine (HR.out.1 W0 S0.out.2.2).mono ?_
 rintro e w1 ⟨rfl,hb1⟩
 obtain ⟨W1,hW1⟩:∃W1,W1=w1.alloc (.cells #[.int .i64 k,.string s,.string t] 83):=⟨_,rfl⟩
 have hbb:Below w1.heap.size w1 W1:=by rw [hW1];exact below_alloc _ _
 have hb01:Below W0.heap.size W0 W1:=hb1.trans (hbb.mono hb1.size)
 have S1:Hid (Bx W1 w.heap.size 70 #[.int .i64 next,.slice a n c,.slice qa ll qc]/\Bx W1 (w.heap.size+1) 72 #[.bool xb,.int .i64 xg]/\Bx W1 w1.heap.size 83 #[.int .i64 k,.string s,.string t]/\Below w.heap.size w W1):=⟨(hb01.block _ S0.out.1.lt).trans S0.out.1,(hb01.block _ S0.out.2.1.lt).trans S0.out.2.1,by rw [hW1];exact Bx.new _ _ _,S0.out.2.2.trans (hb01.mono S0.out.2.2.size)⟩
 clear hb1 hbb hb01 S0
 go_upto_region 2 with fail
 rw [<- hW1]
 clear hW1
 generalize w1.heap.size=nb at*
 go_wp2_with fail
 refine (HR.out.2 W1 S1.out.2.2.2).mono ?_
 rintro e w2 ⟨go,cpo,rfl,hkd,hb2⟩
 have S2:Hid (Bx w2 w.heap.size 70 #[.int .i64 next,.slice a n c,.slice qa ll qc]/\Bx w2 (w.heap.size+1) 72 #[.bool xb,.int .i64 xg]/\Bx w2 nb 83 #[.int .i64 k,.string s,.string t]/\Below w.heap.size w w2/\(∀i x,([.slice a0 l0 k0]:List Value)[i]?=some x->w2.cell? ⟨go,i,none⟩=some x)):=⟨(hb2.block _ S1.out.1.lt).trans S1.out.1,(hb2.block _ S1.out.2.1.lt).trans S1.out.2.1,(hb2.block _ S1.out.2.2.1.lt).trans S1.out.2.2.1,S1.out.2.2.2.trans (hb2.mono S1.out.2.2.2.size),hkd⟩
 clear hkd hb2 S1 HR
 have z0:=S2.out.1.cell 0
 have z1:=S2.out.1.cell 1
 have z2:=S2.out.1.cell 2
 have z3:=S2.out.2.1.cell 0
 have z4:=S2.out.2.1.cell 1
 have z5:=S2.out.2.2.1.cell 0
 have z6:=S2.out.2.2.1.cell 1
 have z7:=S2.out.2.2.1.cell 2
 simp at z0 z1 z2 z3 z4 z5 z6 z7
 try simp only [List.length_cons,List.length_nil,Nat.zero_add]
 go_wp2_with fail
 refine (HBW.out w2 S2.out.2.2.2.1).mono ?_
 rintro e w3 ⟨rfl,hb3⟩
 obtain ⟨W9,hW9⟩:∃W9,W9=w3.alloc (.cells #[.bool y.b,.int .i64 y.g] 72):=⟨_,rfl⟩
 have hbb:Below w3.heap.size w3 W9:=by rw [hW9];exact below_alloc _ _
 have hb29:Below w2.heap.size w2 W9:=hb3.trans (hbb.mono hb3.size)
 have S9:Hid (GsS w W9 next a n c qa ll qc xb xg k s t y [.slice a0 l0 k0] nb go w3.heap.size):=⟨(hb29.block _ S2.out.1.lt).trans S2.out.1,(hb29.block _ S2.out.2.1.lt).trans S2.out.2.1,(hb29.block _ S2.out.2.2.1.lt).trans S2.out.2.2.1,by rw [hW9];exact Bx.new _ _ _,fun i v hi=>(hb29.cell (p:=⟨go,i,none⟩) (World.block_lt_of_cell? _ _ (S2.out.2.2.2.2 i v hi))).trans (S2.out.2.2.2.2 i v hi),S2.out.2.2.2.1.trans (hb29.mono S2.out.2.2.2.1.size)⟩
 clear hb3 hbb hb29 S2 HBW z0 z1 z2 z3 z4 z5 z6 z7
 go_upto_region 4 with fail
 rw [<- hW9]
 clear hW9
 generalize w3.heap.size=c9 at*
 obtain ⟨⟨z0,z1,z2⟩,⟨z3,z4⟩,⟨z5,z6,z7⟩,z8,z9⟩:=S9.out.cells
 have zk0:W9.cell? ⟨go,0,none⟩=some (.slice a0 l0 k0):=S9.out.kd 0 _ rfl
 rcases hk with rfl|rfl|rfl|rfl
 ·go_wp2_with fail
  with_reducible refine (HOW.out W9 S9.out.bel).mono ?_
  rintro e w5 ⟨rfl,hb5⟩
  have HBZ:Hid (Below w.heap.size w w5):=S9.out.bel.trans (hb5.mono S9.out.bel.size)
  clear hb5
  go_wp2
  go_ret
  exact ⟨by rw [HY.out];rfl,HBZ.out⟩
 ·go_wp2_with fail
  with_reducible refine (HOW.out W9 S9.out.bel).mono ?_
  rintro e w5 ⟨rfl,hb5⟩
  have HBZ:Hid (Below w.heap.size w w5):=S9.out.bel.trans (hb5.mono S9.out.bel.size)
  clear hb5
  go_wp2
  go_ret
  exact ⟨by rw [HY.out];rfl,HBZ.out⟩
 ·go_upto_region 10 with fail
  refine wp_region_lateT (S:=fun W=>Below W9.heap.size W9 W) 11 (by kernel_rfl) (Below.refl _ _).drew (fun W hHeld=>?_)
  refine tk 0 .zero (v:=.slice (some ⟨go,0,none⟩) 1 cpo) (fun w' h=>by clear h;go_simp) ?_
  simp only [tkp]
  refine tk 1 (.succ .zero) (v:=.pointer (some ⟨go,0,none⟩)) (fun w' h=>by clear h;go_simp) ?_
  simp only [tkp]
  refine tk 2 (.succ (.succ .zero)) (v:=.slice a0 l0 k0) (fun w' h=>by have q:=(S9.out.keep h).kd 0 _ rfl;clear h;go_simp) ?_
  simp only [tkp]
  refine tk 3 (.succ (.succ (.succ .zero))) (v:=.agg #[.int .i64 next,.slice a n c,.slice qa ll qc]) (fun w' h=>by obtain ⟨⟨q0,q1,q2⟩,⟨q3,q4⟩,⟨q5,q6,q7⟩,q8,q9⟩:=(S9.out.keep h).cells;clear h;go_simp) ?_
  simp only [tkp]
  refine tk 4 (.succ (.succ (.succ (.succ .zero)))) (v:=.agg #[.bool xb,.int .i64 xg]) (fun w' h=>by obtain ⟨⟨q0,q1,q2⟩,⟨q3,q4⟩,⟨q5,q6,q7⟩,q8,q9⟩:=(S9.out.keep h).cells;clear h;go_simp) ?_
  simp only [tkp]
  refine tk 6 (.s5 (.succ .zero)) (v:=.agg #[.int .i64 5,.string s,.string t]) (fun w' h=>by obtain ⟨⟨q0,q1,q2⟩,⟨q3,q4⟩,⟨q5,q6,q7⟩,q8,q9⟩:=(S9.out.keep h).cells;clear h;go_simp) ?_
  simp only [tkp]
  refine tk 7 (.s5 (.succ (.succ .zero))) (v:=.agg #[.int .i64 next,.slice a n c,.slice qa ll qc]) (fun w' h=>by obtain ⟨⟨q0,q1,q2⟩,⟨q3,q4⟩,⟨q5,q6,q7⟩,q8,q9⟩:=(S9.out.keep h).cells;clear h;go_simp) ?_
  simp only [tkp]
  refine tk 8 (.s5 (.succ (.succ (.succ .zero)))) (v:=.agg #[.bool xb,.int .i64 xg]) (fun w' h=>by obtain ⟨⟨q0,q1,q2⟩,⟨q3,q4⟩,⟨q5,q6,q7⟩,q8,q9⟩:=(S9.out.keep h).cells;clear h;go_simp) ?_
  simp only [tkp]
  refine tk1 5 (.s5 .zero) (fun K hK=>?_)
  refine step_h3 rfl 60 34 35 36 _ rfl (.slice a0 l0 k0) (.agg #[.int .i64 next,.slice a n c,.slice qa ll qc]) (.agg #[.bool xb,.int .i64 xg]) rfl rfl rfl (fun _ _=>rfl) ?_
  refine (HG0.out W ⟨xb,xg⟩ (S9.out.keep hHeld).bel).mono ?_
  rintro e w5 ⟨rfl,hbm⟩
  have hb5:Below W9.heap.size W9 w5:=hHeld.trans (hbm.mono hHeld.size)
  refine ⟨_,rfl,hK.out _ _ (fun _=>hb5) (fun hG=>?_)⟩
  clear hK K hG hbm
  simp only [tkp]
  refine tk1 9 (.s5 (.succ (.succ (.succ (.succ .zero))))) (fun K hK=>?_)
  refine step_h3 rfl 61 38 39 40 _ rfl (.agg #[.int .i64 5,.string s,.string t]) (.agg #[.int .i64 next,.slice a n c,.slice qa ll qc]) (.agg #[.bool xb,.int .i64 xg]) rfl rfl rfl (fun _ _=>rfl) ?_
  refine (HOW.out w5 (S9.out.keep hb5).bel).mono ?_
  rintro e w6 ⟨rfl,hbm⟩
  have hb6:Below W9.heap.size W9 w6:=hb5.trans (hbm.mono hb5.size)
  refine ⟨_,rfl,hK.out _ _ (fun _=>hb6) (fun hG=>?_)⟩
  clear hK K hG hbm
  simp only [tkp]
  refine tk1 10 (.s5 (.s5 .zero)) (fun K hK=>?_)
  refine step_h2 rfl 95 37 41 _ rfl (.int .i64 ((G0 ⟨xb,xg⟩):Int)) (.int .i64 ((ownN id LL 5 s t ⟨xb,xg⟩):Int)) rfl rfl (fun _ _=>rfl) ?_
  refine (l6Less_any (G0 ⟨xb,xg⟩) (ownN id LL 5 s t ⟨xb,xg⟩) w6).mono ?_
  rintro e w7 ⟨rfl,rfl⟩
  refine ⟨_,rfl,hK.out _ _ (fun _=>hb6) (fun hG=>?_)⟩
  clear hK K hG
  simp only [tkp]
  refine tk1 11 (.s5 (.s5 (.succ .zero))) (fun K hK=>?_)
  go_simp
  refine hK.out _ _ (fun hne=>absurd rfl hne) (fun hG=>?_)
  clear hK K hG
  refine wpLate_done (by kernel_rfl) ?_ _
  have HBZ:Hid (Below w.heap.size w w7):=(S9.out.keep hb6).bel
  go_wp2
  go_ret
  exact ⟨by rw [HY.out];rfl,HBZ.out⟩
 ·go_upto_region 17 with fail
  refine wp_region_lateT (S:=fun W=>Below W9.heap.size W9 W) 6 (by kernel_rfl) (Below.refl _ _).drew (fun W hHeld=>?_)
  refine tk 0 .zero (v:=.slice (some ⟨go,0,none⟩) 1 cpo) (fun w' h=>by clear h;go_simp) ?_
  simp only [tkp]
  refine tk 1 (.succ .zero) (v:=.pointer (some ⟨go,0,none⟩)) (fun w' h=>by clear h;go_simp) ?_
  simp only [tkp]
  refine tk 2 (.succ (.succ .zero)) (v:=.slice a0 l0 k0) (fun w' h=>by have q:=(S9.out.keep h).kd 0 _ rfl;clear h;go_simp) ?_
  simp only [tkp]
  refine tk 3 (.succ (.succ (.succ .zero))) (v:=.agg #[.int .i64 next,.slice a n c,.slice qa ll qc]) (fun w' h=>by obtain ⟨⟨q0,q1,q2⟩,⟨q3,q4⟩,⟨q5,q6,q7⟩,q8,q9⟩:=(S9.out.keep h).cells;clear h;go_simp) ?_
  simp only [tkp]
  refine tk 4 (.succ (.succ (.succ (.succ .zero)))) (v:=.agg #[.bool y.b,.int .i64 y.g]) (fun w' h=>by obtain ⟨⟨q0,q1,q2⟩,⟨q3,q4⟩,⟨q5,q6,q7⟩,q8,q9⟩:=(S9.out.keep h).cells;clear h;go_simp) ?_
  simp only [tkp]
  refine tk1 5 (.s5 .zero) (fun K hK=>?_)
  refine step_h3 rfl 60 78 79 80 _ rfl (.slice a0 l0 k0) (.agg #[.int .i64 next,.slice a n c,.slice qa ll qc]) (.agg #[.bool y.b,.int .i64 y.g]) rfl rfl rfl (fun _ _=>rfl) ?_
  refine (HG0.out W y (S9.out.keep hHeld).bel).mono ?_
  rintro e w5 ⟨rfl,hbm⟩
  have hb5:Below W9.heap.size W9 w5:=hHeld.trans (hbm.mono hHeld.size)
  refine ⟨_,rfl,hK.out _ _ (fun _=>hb5) (fun hG=>?_)⟩
  clear hK K hG hbm
  simp only [tkp]
  refine tk1 6 (.s5 (.succ .zero)) (fun K hK=>?_)
  go_simp
  refine hK.out _ _ (fun hne=>absurd rfl hne) (fun hG=>?_)
  clear hK K hG
  refine wpLate_done (by kernel_rfl) ?_ _
  have HBZ:Hid (Below w.heap.size w w5):=(S9.out.keep hb5).bel
  go_wp2
  go_ret
  exact ⟨by rw [HY.out];rfl,HBZ.out⟩
set_option maxHeartbeats 8000000 in
theorem guess_c (ns:Value) (k:Int) (hk:k=6\/k=7\/k=8) (next:Int) (a:Option Addr) (n c:Nat) (qa:Option Addr) (ll qc:Nat) (LL:List Qd) (id:ByteArray->Int) (xb:Bool) (xg:Int) (s t:ByteArray) (a0:Option Addr) (l0 k0:Nat) (a1:Option Addr) (l1 k1:Nat) (G0:Cx->Nat) (G1:Cx->Nat) (w:World) (y:Cx) (hy:y=dnC id k s ⟨xb,xg⟩) (hns:∃na nl nc,ns=.slice na nl nc) (hT:TidC w next a n c id) (hq:RdQ w qa LL) (hll:ll=LL.length) (hl3:ll<=300) (hR:RtA w ns k s t [.slice a0 l0 k0,.slice a1 l1 k1]) (hg0:KidG w (.slice a0 l0 k0) next a n c qa ll qc G0) (hb0:∀x,G0 x<=1048576) (hg1:KidG w (.slice a1 l1 k1) next a n c qa ll qc G1) (hb1:∀x,G1 x<=1048576) :
  Calls Tryz.prog 60 #[ns,.agg #[.int .i64 next,.slice a n c,.slice qa ll qc],.agg #[.bool xb,.int .i64 xg]] w fun e w'=>e=.returned (.int .i64 (nodeG k (ownN id LL k s t ⟨xb,xg⟩) (mtL LL ⟨xb,xg⟩ ⟨0,0,0,0⟩).length (G0 y) (G1 y):Nat))/\Below w.heap.size w w':=by
 obtain ⟨na,nl,nc,rfl⟩:=hns
 have HR:Hid (RtA w (.slice na nl nc) k s t [.slice a0 l0 k0,.slice a1 l1 k1]):=hR
 have HBW:Hid (∀W,Below w.heap.size w W->Calls Tryz.prog 57 #[.agg #[.bool xb,.int .i64 xg],.agg #[.int .i64 next,.slice a n c,.slice qa ll qc],.agg #[.int .i64 k,.string s,.string t]] W fun e w'=>e=.returned (.agg #[.bool y.b,.int .i64 y.g])/\Below W.heap.size W w'):=fun W hW=>by rw [hy];exact l6Below_any next a n c qa ll qc id ⟨xb,xg⟩ k s t W (hT.below hW)
 have HOW:Hid (∀W,Below w.heap.size w W->Calls Tryz.prog 61 #[.agg #[.int .i64 k,.string s,.string t],.agg #[.int .i64 next,.slice a n c,.slice qa ll qc],.agg #[.bool xb,.int .i64 xg]] W fun e w'=>e=.returned (.int .i64 (ownN id LL k s t ⟨xb,xg⟩:Int))/\Below W.heap.size W w'):=fun W hW=>l6Own_any next a n c qa ll qc LL id ⟨xb,xg⟩ k s t W (hT.below hW) (hq.below hW) hll hl3
 have HMA:Hid (∀W,Below w.heap.size w W->Calls Tryz.prog 94 #[.agg #[.int .i64 next,.slice a n c,.slice qa ll qc],.agg #[.bool xb,.int .i64 xg],.agg #[.int .i64 0,.int .i64 0,.int .i64 0,.int .i64 0]] W (RetMt W (mtL LL ⟨xb,xg⟩ ⟨0,0,0,0⟩))):=fun W hW=>l6Match_any next a n c qa ll qc LL ⟨xb,xg⟩ ⟨0,0,0,0⟩ W (hq.below hW) hll hl3
 have hml:(mtL LL ⟨xb,xg⟩ ⟨0,0,0,0⟩).length<=300:=by
  unfold mtL
  split
  ·simp
  ·exact Nat.le_trans (List.length_filter_le _ _) (by omega)
 have HG0:Hid (KidG w (.slice a0 l0 k0) next a n c qa ll qc G0):=hg0
 have b0x:=hb0 ⟨xb,xg⟩
 have b0y:=hb0 y
 have HG1:Hid (KidG w (.slice a1 l1 k1) next a n c qa ll qc G1):=hg1
 have b1x:=hb1 ⟨xb,xg⟩
 have b1y:=hb1 y
 clear hg0 hb0 hg1 hb1
 have HY:Hid (y=dnC id k s ⟨xb,xg⟩):=hy
 clear hR hT hq hll hy
 obtain ⟨W0,hW0⟩:∃W0,W0=(w.alloc (.cells #[.int .i64 next,.slice a n c,.slice qa ll qc] 70)).alloc (.cells #[.bool xb,.int .i64 xg] 72):=⟨_,rfl⟩
 have hb1:Bx W0 w.heap.size 70 #[.int .i64 next,.slice a n c,.slice qa ll qc]:=by
  rw [hW0]
  exact (Bx.new w #[.int .i64 next,.slice a n c,.slice qa ll qc] 70).alloc _
 have hb2:Bx W0 (w.heap.size+1) 72 #[.bool xb,.int .i64 xg]:=by
  rw [hW0]
  have b2:=Bx.new (w.alloc (.cells #[.int .i64 next,.slice a n c,.slice qa ll qc] 70)) #[.bool xb,.int .i64 xg] 72
  simp only [World.size_alloc] at b2
  exact b2
 have hbw:Below w.heap.size w W0:=by rw [hW0];exact (below_alloc _ _).alloc (by simp) _
 have S0:Hid (Bx W0 w.heap.size 70 #[.int .i64 next,.slice a n c,.slice qa ll qc]/\Bx W0 (w.heap.size+1) 72 #[.bool xb,.int .i64 xg]/\Below w.heap.size w W0):=⟨hb1,hb2,hbw⟩
 clear hb1 hb2 hbw
 go_enter Tryz.func60,Tryz.ntmps60
 go_upto_region 1 with fail
 rw [<- hW0]
 clear hW0
 go_wp2_with fail
 refine (HR.out.1 W0 S0.out.2.2).mono ?_
 rintro e w1 ⟨rfl,hb1⟩
 obtain ⟨W1,hW1⟩:∃W1,W1=w1.alloc (.cells #[.int .i64 k,.string s,.string t] 83):=⟨_,rfl⟩
 have hbb:Below w1.heap.size w1 W1:=by rw [hW1];exact below_alloc _ _
 have hb01:Below W0.heap.size W0 W1:=hb1.trans (hbb.mono hb1.size)
 have S1:Hid (Bx W1 w.heap.size 70 #[.int .i64 next,.slice a n c,.slice qa ll qc]/\Bx W1 (w.heap.size+1) 72 #[.bool xb,.int .i64 xg]/\Bx W1 w1.heap.size 83 #[.int .i64 k,.string s,.string t]/\Below w.heap.size w W1):=⟨(hb01.block _ S0.out.1.lt).trans S0.out.1,(hb01.block _ S0.out.2.1.lt).trans S0.out.2.1,by rw [hW1];exact Bx.new _ _ _,S0.out.2.2.trans (hb01.mono S0.out.2.2.size)⟩
 clear hb1 hbb hb01 S0
 go_upto_region 2 with fail
 rw [<- hW1]
 clear hW1
 generalize w1.heap.size=nb at*
 go_wp2_with fail
 refine (HR.out.2 W1 S1.out.2.2.2).mono ?_
 rintro e w2 ⟨go,cpo,rfl,hkd,hb2⟩
 have S2:Hid (Bx w2 w.heap.size 70 #[.int .i64 next,.slice a n c,.slice qa ll qc]/\Bx w2 (w.heap.size+1) 72 #[.bool xb,.int .i64 xg]/\Bx w2 nb 83 #[.int .i64 k,.string s,.string t]/\Below w.heap.size w w2/\(∀i x,([.slice a0 l0 k0,.slice a1 l1 k1]:List Value)[i]?=some x->w2.cell? ⟨go,i,none⟩=some x)):=⟨(hb2.block _ S1.out.1.lt).trans S1.out.1,(hb2.block _ S1.out.2.1.lt).trans S1.out.2.1,(hb2.block _ S1.out.2.2.1.lt).trans S1.out.2.2.1,S1.out.2.2.2.trans (hb2.mono S1.out.2.2.2.size),hkd⟩
 clear hkd hb2 S1 HR
 have z0:=S2.out.1.cell 0
 have z1:=S2.out.1.cell 1
 have z2:=S2.out.1.cell 2
 have z3:=S2.out.2.1.cell 0
 have z4:=S2.out.2.1.cell 1
 have z5:=S2.out.2.2.1.cell 0
 have z6:=S2.out.2.2.1.cell 1
 have z7:=S2.out.2.2.1.cell 2
 simp at z0 z1 z2 z3 z4 z5 z6 z7
 try simp only [List.length_cons,List.length_nil,Nat.zero_add]
 go_wp2_with fail
 refine (HBW.out w2 S2.out.2.2.2.1).mono ?_
 rintro e w3 ⟨rfl,hb3⟩
 obtain ⟨W9,hW9⟩:∃W9,W9=w3.alloc (.cells #[.bool y.b,.int .i64 y.g] 72):=⟨_,rfl⟩
 have hbb:Below w3.heap.size w3 W9:=by rw [hW9];exact below_alloc _ _
 have hb29:Below w2.heap.size w2 W9:=hb3.trans (hbb.mono hb3.size)
 have S9:Hid (GsS w W9 next a n c qa ll qc xb xg k s t y [.slice a0 l0 k0,.slice a1 l1 k1] nb go w3.heap.size):=⟨(hb29.block _ S2.out.1.lt).trans S2.out.1,(hb29.block _ S2.out.2.1.lt).trans S2.out.2.1,(hb29.block _ S2.out.2.2.1.lt).trans S2.out.2.2.1,by rw [hW9];exact Bx.new _ _ _,fun i v hi=>(hb29.cell (p:=⟨go,i,none⟩) (World.block_lt_of_cell? _ _ (S2.out.2.2.2.2 i v hi))).trans (S2.out.2.2.2.2 i v hi),S2.out.2.2.2.1.trans (hb29.mono S2.out.2.2.2.1.size)⟩
 clear hb3 hbb hb29 S2 HBW z0 z1 z2 z3 z4 z5 z6 z7
 go_upto_region 4 with fail
 rw [<- hW9]
 clear hW9
 generalize w3.heap.size=c9 at*
 obtain ⟨⟨z0,z1,z2⟩,⟨z3,z4⟩,⟨z5,z6,z7⟩,z8,z9⟩:=S9.out.cells
 have zk0:W9.cell? ⟨go,0,none⟩=some (.slice a0 l0 k0):=S9.out.kd 0 _ rfl
 have zk1:W9.cell? ⟨go,1,none⟩=some (.slice a1 l1 k1):=S9.out.kd 1 _ rfl
 rcases hk with rfl|rfl|rfl
 ·go_upto_region 12 with fail
  refine wp_region_lateT (S:=fun W=>Below W9.heap.size W9 W) 13 (by kernel_rfl) (Below.refl _ _).drew (fun W hHeld=>?_)
  refine tk 0 .zero (v:=.slice (some ⟨go,0,none⟩) 2 cpo) (fun w' h=>by clear h;go_simp) ?_
  simp only [tkp]
  refine tk 1 (.succ .zero) (v:=.pointer (some ⟨go,0,none⟩)) (fun w' h=>by clear h;go_simp) ?_
  simp only [tkp]
  refine tk 2 (.succ (.succ .zero)) (v:=.slice a0 l0 k0) (fun w' h=>by have q:=(S9.out.keep h).kd 0 _ rfl;clear h;go_simp) ?_
  simp only [tkp]
  refine tk 3 (.succ (.succ (.succ .zero))) (v:=.agg #[.int .i64 next,.slice a n c,.slice qa ll qc]) (fun w' h=>by obtain ⟨⟨q0,q1,q2⟩,⟨q3,q4⟩,⟨q5,q6,q7⟩,q8,q9⟩:=(S9.out.keep h).cells;clear h;go_simp) ?_
  simp only [tkp]
  refine tk 4 (.succ (.succ (.succ (.succ .zero)))) (v:=.agg #[.bool xb,.int .i64 xg]) (fun w' h=>by obtain ⟨⟨q0,q1,q2⟩,⟨q3,q4⟩,⟨q5,q6,q7⟩,q8,q9⟩:=(S9.out.keep h).cells;clear h;go_simp) ?_
  simp only [tkp]
  refine tk 6 (.s5 (.succ .zero)) (v:=.slice (some ⟨go,0,none⟩) 2 cpo) (fun w' h=>by clear h;go_simp) ?_
  simp only [tkp]
  refine tk 7 (.s5 (.succ (.succ .zero))) (v:=.pointer (some ⟨go,1,none⟩)) (fun w' h=>by clear h;go_simp) ?_
  simp only [tkp]
  refine tk 8 (.s5 (.succ (.succ (.succ .zero)))) (v:=.slice a1 l1 k1) (fun w' h=>by have q:=(S9.out.keep h).kd 1 _ rfl;clear h;go_simp) ?_
  simp only [tkp]
  refine tk 9 (.s5 (.succ (.succ (.succ (.succ .zero))))) (v:=.agg #[.int .i64 next,.slice a n c,.slice qa ll qc]) (fun w' h=>by obtain ⟨⟨q0,q1,q2⟩,⟨q3,q4⟩,⟨q5,q6,q7⟩,q8,q9⟩:=(S9.out.keep h).cells;clear h;go_simp) ?_
  simp only [tkp]
  refine tk 10 (.s5 (.s5 .zero)) (v:=.agg #[.bool xb,.int .i64 xg]) (fun w' h=>by obtain ⟨⟨q0,q1,q2⟩,⟨q3,q4⟩,⟨q5,q6,q7⟩,q8,q9⟩:=(S9.out.keep h).cells;clear h;go_simp) ?_
  simp only [tkp]
  refine tk1 5 (.s5 .zero) (fun K hK=>?_)
  refine step_h3 rfl 60 47 48 49 _ rfl (.slice a0 l0 k0) (.agg #[.int .i64 next,.slice a n c,.slice qa ll qc]) (.agg #[.bool xb,.int .i64 xg]) rfl rfl rfl (fun _ _=>rfl) ?_
  refine (HG0.out W ⟨xb,xg⟩ (S9.out.keep hHeld).bel).mono ?_
  rintro e w5 ⟨rfl,hbm⟩
  have hb5:Below W9.heap.size W9 w5:=hHeld.trans (hbm.mono hHeld.size)
  refine ⟨_,rfl,hK.out _ _ (fun _=>hb5) (fun hG=>?_)⟩
  clear hK K hG hbm
  simp only [tkp]
  refine tk1 11 (.s5 (.s5 (.succ .zero))) (fun K hK=>?_)
  refine step_h3 rfl 60 53 54 55 _ rfl (.slice a1 l1 k1) (.agg #[.int .i64 next,.slice a n c,.slice qa ll qc]) (.agg #[.bool xb,.int .i64 xg]) rfl rfl rfl (fun _ _=>rfl) ?_
  refine (HG1.out w5 ⟨xb,xg⟩ (S9.out.keep hb5).bel).mono ?_
  rintro e w6 ⟨rfl,hbm⟩
  have hb6:Below W9.heap.size W9 w6:=hb5.trans (hbm.mono hb5.size)
  refine ⟨_,rfl,hK.out _ _ (fun _=>hb6) (fun hG=>?_)⟩
  clear hK K hG hbm
  simp only [tkp]
  refine tk1 12 (.s5 (.s5 (.succ (.succ .zero)))) (fun K hK=>?_)
  refine step_h2 rfl 95 50 56 _ rfl (.int .i64 ((G0 ⟨xb,xg⟩):Int)) (.int .i64 ((G1 ⟨xb,xg⟩):Int)) rfl rfl (fun _ _=>rfl) ?_
  refine (l6Less_any (G0 ⟨xb,xg⟩) (G1 ⟨xb,xg⟩) w6).mono ?_
  rintro e w7 ⟨rfl,rfl⟩
  refine ⟨_,rfl,hK.out _ _ (fun _=>hb6) (fun hG=>?_)⟩
  clear hK K hG
  simp only [tkp]
  refine tk1 13 (.s5 (.s5 (.succ (.succ (.succ .zero))))) (fun K hK=>?_)
  go_simp
  refine hK.out _ _ (fun hne=>absurd rfl hne) (fun hG=>?_)
  clear hK K hG
  refine wpLate_done (by kernel_rfl) ?_ _
  have HBZ:Hid (Below w.heap.size w w7):=(S9.out.keep hb6).bel
  go_wp2
  go_ret
  exact ⟨by rw [HY.out];rfl,HBZ.out⟩
 ·go_upto_region 14 with fail
  refine wp_region_lateT (S:=fun W=>Below W9.heap.size W9 W) 13 (by kernel_rfl) (Below.refl _ _).drew (fun W hHeld=>?_)
  refine tk 0 .zero (v:=.slice (some ⟨go,0,none⟩) 2 cpo) (fun w' h=>by clear h;go_simp) ?_
  simp only [tkp]
  refine tk 1 (.succ .zero) (v:=.pointer (some ⟨go,0,none⟩)) (fun w' h=>by clear h;go_simp) ?_
  simp only [tkp]
  refine tk 2 (.succ (.succ .zero)) (v:=.slice a0 l0 k0) (fun w' h=>by have q:=(S9.out.keep h).kd 0 _ rfl;clear h;go_simp) ?_
  simp only [tkp]
  refine tk 3 (.succ (.succ (.succ .zero))) (v:=.agg #[.int .i64 next,.slice a n c,.slice qa ll qc]) (fun w' h=>by obtain ⟨⟨q0,q1,q2⟩,⟨q3,q4⟩,⟨q5,q6,q7⟩,q8,q9⟩:=(S9.out.keep h).cells;clear h;go_simp) ?_
  simp only [tkp]
  refine tk 4 (.succ (.succ (.succ (.succ .zero)))) (v:=.agg #[.bool xb,.int .i64 xg]) (fun w' h=>by obtain ⟨⟨q0,q1,q2⟩,⟨q3,q4⟩,⟨q5,q6,q7⟩,q8,q9⟩:=(S9.out.keep h).cells;clear h;go_simp) ?_
  simp only [tkp]
  refine tk 6 (.s5 (.succ .zero)) (v:=.slice (some ⟨go,0,none⟩) 2 cpo) (fun w' h=>by clear h;go_simp) ?_
  simp only [tkp]
  refine tk 7 (.s5 (.succ (.succ .zero))) (v:=.pointer (some ⟨go,1,none⟩)) (fun w' h=>by clear h;go_simp) ?_
  simp only [tkp]
  refine tk 8 (.s5 (.succ (.succ (.succ .zero)))) (v:=.slice a1 l1 k1) (fun w' h=>by have q:=(S9.out.keep h).kd 1 _ rfl;clear h;go_simp) ?_
  simp only [tkp]
  refine tk 9 (.s5 (.succ (.succ (.succ (.succ .zero))))) (v:=.agg #[.int .i64 next,.slice a n c,.slice qa ll qc]) (fun w' h=>by obtain ⟨⟨q0,q1,q2⟩,⟨q3,q4⟩,⟨q5,q6,q7⟩,q8,q9⟩:=(S9.out.keep h).cells;clear h;go_simp) ?_
  simp only [tkp]
  refine tk 10 (.s5 (.s5 .zero)) (v:=.agg #[.bool xb,.int .i64 xg]) (fun w' h=>by obtain ⟨⟨q0,q1,q2⟩,⟨q3,q4⟩,⟨q5,q6,q7⟩,q8,q9⟩:=(S9.out.keep h).cells;clear h;go_simp) ?_
  simp only [tkp]
  refine tk1 5 (.s5 .zero) (fun K hK=>?_)
  refine step_h3 rfl 60 62 63 64 _ rfl (.slice a0 l0 k0) (.agg #[.int .i64 next,.slice a n c,.slice qa ll qc]) (.agg #[.bool xb,.int .i64 xg]) rfl rfl rfl (fun _ _=>rfl) ?_
  refine (HG0.out W ⟨xb,xg⟩ (S9.out.keep hHeld).bel).mono ?_
  rintro e w5 ⟨rfl,hbm⟩
  have hb5:Below W9.heap.size W9 w5:=hHeld.trans (hbm.mono hHeld.size)
  refine ⟨_,rfl,hK.out _ _ (fun _=>hb5) (fun hG=>?_)⟩
  clear hK K hG hbm
  simp only [tkp]
  refine tk1 11 (.s5 (.s5 (.succ .zero))) (fun K hK=>?_)
  refine step_h3 rfl 60 68 69 70 _ rfl (.slice a1 l1 k1) (.agg #[.int .i64 next,.slice a n c,.slice qa ll qc]) (.agg #[.bool xb,.int .i64 xg]) rfl rfl rfl (fun _ _=>rfl) ?_
  refine (HG1.out w5 ⟨xb,xg⟩ (S9.out.keep hb5).bel).mono ?_
  rintro e w6 ⟨rfl,hbm⟩
  have hb6:Below W9.heap.size W9 w6:=hb5.trans (hbm.mono hb5.size)
  refine ⟨_,rfl,hK.out _ _ (fun _=>hb6) (fun hG=>?_)⟩
  clear hK K hG hbm
  simp only [tkp]
  have hws:IntKind.i64.wrap ((G0 ⟨xb,xg⟩:Int)+(G1 ⟨xb,xg⟩:Int))=((G0 ⟨xb,xg⟩+G1 ⟨xb,xg⟩:Nat):Int):=by rw [IntKind.wrap_i64];omega
  refine tk 12 (.s5 (.s5 (.succ (.succ .zero)))) (v:=.int .i64 ((G0 ⟨xb,xg⟩+G1 ⟨xb,xg⟩:Nat):Int)) (fun w' h=>by clear h;go_simp) ?_
  simp only [tkp]
  refine tk1 13 (.s5 (.s5 (.succ (.succ (.succ .zero))))) (fun K hK=>?_)
  go_simp
  refine hK.out _ _ (fun hne=>absurd rfl hne) (fun hG=>?_)
  clear hK K hG
  refine wpLate_done (by kernel_rfl) ?_ _
  have HBZ:Hid (Below w.heap.size w w6):=(S9.out.keep hb6).bel
  go_wp2
  go_ret
  exact ⟨by rw [HY.out];rfl,HBZ.out⟩
 ·go_upto_region 17 with fail
  refine wp_region_lateT (S:=fun W=>Below W9.heap.size W9 W) 6 (by kernel_rfl) (Below.refl _ _).drew (fun W hHeld=>?_)
  refine tk 0 .zero (v:=.slice (some ⟨go,0,none⟩) 2 cpo) (fun w' h=>by clear h;go_simp) ?_
  simp only [tkp]
  refine tk 1 (.succ .zero) (v:=.pointer (some ⟨go,0,none⟩)) (fun w' h=>by clear h;go_simp) ?_
  simp only [tkp]
  refine tk 2 (.succ (.succ .zero)) (v:=.slice a0 l0 k0) (fun w' h=>by have q:=(S9.out.keep h).kd 0 _ rfl;clear h;go_simp) ?_
  simp only [tkp]
  refine tk 3 (.succ (.succ (.succ .zero))) (v:=.agg #[.int .i64 next,.slice a n c,.slice qa ll qc]) (fun w' h=>by obtain ⟨⟨q0,q1,q2⟩,⟨q3,q4⟩,⟨q5,q6,q7⟩,q8,q9⟩:=(S9.out.keep h).cells;clear h;go_simp) ?_
  simp only [tkp]
  refine tk 4 (.succ (.succ (.succ (.succ .zero)))) (v:=.agg #[.bool y.b,.int .i64 y.g]) (fun w' h=>by obtain ⟨⟨q0,q1,q2⟩,⟨q3,q4⟩,⟨q5,q6,q7⟩,q8,q9⟩:=(S9.out.keep h).cells;clear h;go_simp) ?_
  simp only [tkp]
  refine tk1 5 (.s5 .zero) (fun K hK=>?_)
  refine step_h3 rfl 60 78 79 80 _ rfl (.slice a0 l0 k0) (.agg #[.int .i64 next,.slice a n c,.slice qa ll qc]) (.agg #[.bool y.b,.int .i64 y.g]) rfl rfl rfl (fun _ _=>rfl) ?_
  refine (HG0.out W y (S9.out.keep hHeld).bel).mono ?_
  rintro e w5 ⟨rfl,hbm⟩
  have hb5:Below W9.heap.size W9 w5:=hHeld.trans (hbm.mono hHeld.size)
  refine ⟨_,rfl,hK.out _ _ (fun _=>hb5) (fun hG=>?_)⟩
  clear hK K hG hbm
  simp only [tkp]
  refine tk1 6 (.s5 (.succ .zero)) (fun K hK=>?_)
  go_simp
  refine hK.out _ _ (fun hne=>absurd rfl hne) (fun hG=>?_)
  clear hK K hG
  refine wpLate_done (by kernel_rfl) ?_ _
  have HBZ:Hid (Below w.heap.size w w5):=(S9.out.keep hb5).bel
  go_wp2
  go_ret
  exact ⟨by rw [HY.out];rfl,HBZ.out⟩

def RetRg (w:World) (n:Nat) (N:Nat->Tn) (lo hi:ByteArray) (e:Ending) (w' : World):Prop:=
 ∃(L:List ByteArray) (a:Option Addr) (c:Nat),e=.returned (.slice a L.length c)/\OwnS w' w.heap.size a L.length (gt L)/\Below w.heap.size w w'/\L.length<=1048576/\((∃t,VTt n N t/\L=fil lo hi (keysR 21 t))\/(¬ VT n N/\L=[]))


theorem pk_inj {k k' : ByteArray} {i:Nat} (h:pk k i=pk k' i):∀n,n<4->kb k (4*i+n)=kb k' (4*i+n):=by
 have e1:∀q:ByteArray,pkn q i 1=kb q (4*i+0):=fun q=>by show 256*0+kb q (4*i+0)=_;omega
 have e2:∀q:ByteArray,pkn q i 2=256*pkn q i 1+kb q (4*i+1):=fun _=>rfl
 have e3:∀q:ByteArray,pkn q i 3=256*pkn q i 2+kb q (4*i+2):=fun _=>rfl
 have e4:∀q:ByteArray,pk q i=256*pkn q i 3+kb q (4*i+3):=fun _=>rfl
 have r:∀(q:ByteArray) (n:Nat),0<=kb q (4*i+n)/\kb q (4*i+n)<256:=fun q n=>kb_range q _
 intro n hn
 have a1:=e1 k;have a2:=e2 k;have a3:=e3 k;have a4:=e4 k
 have b1:=e1 k';have b2:=e2 k';have b3:=e3 k';have b4:=e4 k'
 have r0:=r k 0;have r1:=r k 1;have r2:=r k 2;have r3:=r k 3
 have s0:=r k' 0;have s1:=r k' 1;have s2:=r k' 2;have s3:=r k' 3
 rcases (show n=0\/n=1\/n=2\/n=3 by omega) with rfl|rfl|rfl|rfl <;> omega
theorem posF_onto (perm:Nat) (hp:perm<6) (i:Nat) (hi:i<4):∃s,s<4/\posF perm s=i:=by
 rcases (show perm=0\/perm=1\/perm=2\/perm=3\/perm=4\/perm=5 by omega) with rfl|rfl|rfl|rfl|rfl|rfl <;> rcases (show i=0\/i=1\/i=2\/i=3 by omega) with rfl|rfl|rfl|rfl <;>
  first|exact ⟨0,by omega,rfl⟩|exact ⟨1,by omega,rfl⟩|exact ⟨2,by omega,rfl⟩|exact ⟨3,by omega,rfl⟩
theorem quadOf_inj {perm:Nat} (hp:perm<6) {k k' : ByteArray} (hk:k.size=16) (hk' : k'.size=16) (h:quadOf perm k=quadOf perm k'):k=k':=by
 injection h with h0 h1 h2 h3
 have hall:∀i,i<4->pk k i=pk k' i:=fun i hi=>by
  obtain ⟨s,hs,e⟩:=posF_onto perm hp i hi
  rw [<- e]
  rcases (show s=0\/s=1\/s=2\/s=3 by omega) with rfl|rfl|rfl|rfl
  ·exact h0
  ·exact h1
  ·exact h2
  ·exact h3
 have hb:∀m,m<16->kb k m=kb k' m:=fun m hm=>by
  have:=pk_inj (hall (m / 4) (by omega)) (m % 4) (by omega)
  rw [show 4*(m / 4)+m % 4=m by omega] at this
  exact this
 apply ByteArray.ext
 apply Array.ext
 ·show k.size=k'.size
  rw [hk,hk']
 ·intro m h1 h2
  obtain ⟨x,ex,ebx⟩:=kb_get (k:=k) (i:=m) h1
  obtain ⟨y,ey,eby⟩:=kb_get (k:=k') (i:=m) h2
  have hxy:=hb m (by rw [<- hk];exact h1)
  rw [ebx,eby] at hxy
  have hxy2:x=y:=by
   apply UInt8.toNat_inj.1
   omega
  have gx:k.data[m]?=some x:=by
   rw [<- ex]
   first|rfl|simp
  have gy:k'.data[m]?=some y:=by
   rw [<- ey]
   first|rfl|simp
  rw [Array.getElem?_eq_getElem h1] at gx
  rw [Array.getElem?_eq_getElem h2] at gy
  injection gx with gx
  injection gy with gy
  rw [gx,gy,hxy2]
theorem quads_nodup {perm:Nat} (hp:perm<6) {K:List ByteArray} (hasc:Asc K) (hk:∀k,k∈K->k.size=16):(K.map (quadOf perm)).Nodup:=by
 rw [List.Nodup,List.pairwise_map]
 refine List.Pairwise.imp_of_mem (fun {a b} ha hb hlt e=>?_) hasc
 have:=quadOf_inj hp (hk a ha) (hk b hb) e
 subst this
 rw [less_irrefl] at hlt
 cases hlt

def bnum:List UInt8->Nat
 | []=>0
 | x::l=>x.toNat*256 ^ l.length+bnum l
theorem bnum_lt:∀l:List UInt8,bnum l<256 ^ l.length
 | []=>by simp [bnum]
 | x::l=>by
  have h:=bnum_lt l
  have hx:x.toNat<256:=x.toNat_lt
  show x.toNat*256 ^ l.length+bnum l<256 ^ (l.length+1)
  rw [Nat.pow_succ]
  have:(x.toNat+1)*256 ^ l.length<=256*256 ^ l.length:=Nat.mul_le_mul_right _ hx
  rw [Nat.add_mul] at this
  omega
theorem less_num:∀(a b:List UInt8),a.length=b.length->(Op.bytesLess a b=true↔bnum a<bnum b)
 | [],[],_=>by simp [bnum,Op.bytesLess]
 | [],_::_,h=>by simp at h
 | _::_,[],h=>by simp at h
 | x::a,y::b,h=>by
  have hl:a.length=b.length:=by simpa using h
  have ih:=less_num a b hl
  have ha:=bnum_lt a
  have hb:=bnum_lt b
  show (decide (x<y) || (x == y && Op.bytesLess a b))=true↔x.toNat*256 ^ a.length+bnum a<y.toNat*256 ^ b.length+bnum b
  rw [hl] at ha ⊢
  generalize 256 ^ b.length=P at ha hb ⊢
  rcases Nat.lt_trichotomy x.toNat y.toNat with h1|h1|h1
  ·have e1:x<y:=h1
   have h2:(x.toNat+1)*P<=y.toNat*P:=Nat.mul_le_mul_right _ h1
   rw [Nat.add_mul] at h2
   simp [e1]
   omega
  ·have e1:x=y:=UInt8.toNat_inj.1 h1
   subst e1
   simp [ih]
  ·have e1:¬ x<y:=fun h=>by have h' : x.toNat<y.toNat:=h;omega
   have e2:¬ x=y:=fun h=>by rw [h] at h1;omega
   have h2:(y.toNat+1)*P<=x.toNat*P:=Nat.mul_le_mul_right _ h1
   rw [Nat.add_mul] at h2
   simp [e1,e2]
   omega
theorem bnum_inj:∀(a b:List UInt8),a.length=b.length->bnum a=bnum b->a=b
 | [],[],_,_=>rfl
 | [],_::_,h,_=>by simp at h
 | _::_,[],h,_=>by simp at h
 | x::a,y::b,h,e=>by
  have hl:a.length=b.length:=by simpa using h
  have ha:=bnum_lt a
  have hb:=bnum_lt b
  have e' : x.toNat*256 ^ a.length+bnum a=y.toNat*256 ^ b.length+bnum b:=e
  rw [hl] at ha e'
  have hxy:x.toNat=y.toNat:=by
   generalize 256 ^ b.length=P at ha hb e'
   rcases Nat.lt_trichotomy x.toNat y.toNat with h1|h1|h1
   ·have h2:(x.toNat+1)*P<=y.toNat*P:=Nat.mul_le_mul_right _ h1
    rw [Nat.add_mul] at h2
    omega
   ·exact h1
   ·have h2:(y.toNat+1)*P<=x.toNat*P:=Nat.mul_le_mul_right _ h1
    rw [Nat.add_mul] at h2
    omega
  rw [hxy] at e'
  have e1:x=y:=UInt8.toNat_inj.1 hxy
  subst e1
  rw [bnum_inj a b hl (by omega)]
theorem less_pre:∀(a b r:List UInt8),a.length=b.length->Op.bytesLess (a++r) b=Op.bytesLess a b
 | [],[],r,_=>by cases r <;> rfl
 | [],_::_,_,h=>by simp at h
 | _::_,[],_,h=>by simp at h
 | x::a,y::b,r,h=>by
  show (decide (x<y) || (x == y && Op.bytesLess (a++r) b))=(decide (x<y) || (x == y && Op.bytesLess a b))
  rw [less_pre a b r (by simpa using h)]
theorem between {l lo hi:List UInt8} (hl:lo.length<=l.length) (he:lo.length=hi.length) (hn:bnum hi=bnum lo+1):(Op.bytesLess l lo=false/\Op.bytesLess l hi=true)↔l.take lo.length=lo:=by
 have e:l=l.take lo.length++l.drop lo.length:=(List.take_append_drop _ _).symm
 have hlen:(l.take lo.length).length=lo.length:=by rw [List.length_take];omega
 have h1:Op.bytesLess l lo=Op.bytesLess (l.take lo.length) lo:=by
  conv=>lhs;rw [e]
  exact less_pre _ _ _ hlen
 have h2:Op.bytesLess l hi=Op.bytesLess (l.take lo.length) hi:=by
  conv=>lhs;rw [e]
  exact less_pre _ _ _ (hlen.trans he)
 rw [h1,h2,less_num _ _ (hlen.trans he),hn]
 constructor
 ·rintro ⟨g1,g2⟩
  have g3:¬ bnum (l.take lo.length)<bnum lo:=fun h=>by
   rw [<- less_num _ _ hlen,g1] at h
   cases h
  exact bnum_inj _ _ hlen (by omega)
 ·intro h
  rw [h]
  exact ⟨less_irrefl _,by omega⟩

theorem bnum_app:∀(a b:List UInt8),bnum (a++b)=bnum a*256 ^ b.length+bnum b
 | [],b=>by simp [bnum]
 | x::a,b=>by
  show x.toNat*256 ^ (a++b).length+bnum (a++b)=(x.toNat*256 ^ a.length+bnum a)*256 ^ b.length+bnum b
  rw [bnum_app a b,List.length_append,Nat.pow_add,Nat.add_mul,Nat.mul_assoc,Nat.add_assoc]
def pkL (x:Int):List UInt8:=[UInt8.ofNat (x / 16777216).toNat,UInt8.ofNat (x / 65536 % 256).toNat,UInt8.ofNat (x / 256 % 256).toNat,UInt8.ofNat (x % 256).toNat]
theorem ofNat_small (n:Nat) (h:n<256):(UInt8.ofNat n).toNat=n:=by
 rw [UInt8.toNat_ofNat']
 omega
theorem pkL_num (x:Int) (h0:0<=x) (h1:x<4294967296):(bnum (pkL x):Int)=x:=by
 show (((UInt8.ofNat (x / 16777216).toNat).toNat*256 ^ 3+((UInt8.ofNat (x / 65536 % 256).toNat).toNat*256 ^ 2+((UInt8.ofNat (x / 256 % 256).toNat).toNat*256 ^ 1+((UInt8.ofNat (x % 256).toNat).toNat*256 ^ 0+0))):Nat):Int)=x
 rw [ofNat_small _ (by omega),ofNat_small _ (by omega),ofNat_small _ (by omega),ofNat_small _ (by omega)]
 omega
def spLl (x:Nat->Int):Nat->List UInt8
 | 0=>[]
 | i+1=>spLl x i++pkL (x i)
theorem spL_data (x:Nat->Int):∀i,(spL x i).data.toList=spLl x i
 | 0=>rfl
 | i+1=>by
  show (spL x i++pkB (x i)).data.toList=_
  rw [ByteArray.data_append,Array.toList_append,spL_data x i]
  rfl
theorem spH_data (x:Nat->Int) (i:Nat):(spH x (i+1)).data.toList=spLl x i++pkL (x i+1):=by
 show (spL x i++pkB (x i+1)).data.toList=_
 rw [ByteArray.data_append,Array.toList_append,spL_data x i]
 rfl
theorem spLl_len (x:Nat->Int):∀i,(spLl x i).length=4*i
 | 0=>rfl
 | i+1=>by
  show (spLl x i++pkL (x i)).length=_
  rw [List.length_append,spLl_len x i]
  show 4*i+4=_
  omega
theorem part_list (k:ByteArray) (i:Nat) (h:4*i+4<=k.size):∃q:List UInt8,q.length=4/\(k.data.toList.drop (4*i)).take 4=q/\(bnum q:Int)=pk k i:=by
 obtain ⟨b0,e0,n0⟩:=kb_get (k:=k) (i:=4*i+0) (by omega)
 obtain ⟨b1,e1,n1⟩:=kb_get (k:=k) (i:=4*i+1) (by omega)
 obtain ⟨b2,e2,n2⟩:=kb_get (k:=k) (i:=4*i+2) (by omega)
 obtain ⟨b3,e3,n3⟩:=kb_get (k:=k) (i:=4*i+3) (by omega)
 have g:∀(n:Nat) (b:UInt8),k[4*i+n]?=some b->k.data.toList[4*i+n]?=some b:=fun n b e=>by
  rw [Array.getElem?_toList,<- e]
  first|rfl|simp
 have g0:=g 0 b0 e0
 have g1:=g 1 b1 e1
 have g2:=g 2 b2 e2
 have g3:=g 3 b3 e3
 refine ⟨[b0,b1,b2,b3],rfl,?_,?_⟩
 ·apply List.ext_getElem?
  intro n
  rw [List.getElem?_take,List.getElem?_drop]
  by_cases h4:n<4
  ·rw [if_pos h4]
   rcases (show n=0\/n=1\/n=2\/n=3 by omega) with rfl|rfl|rfl|rfl
   ·exact g0
   ·exact g1
   ·exact g2
   ·exact g3
  ·rw [if_neg h4,List.getElem?_eq_none (by simp;omega)]
 ·show ((b0.toNat*256 ^ 3+(b1.toNat*256 ^ 2+(b2.toNat*256 ^ 1+(b3.toNat*256 ^ 0+0))):Nat):Int)=256*(256*(256*(256*0+kb k (4*i+0))+kb k (4*i+1))+kb k (4*i+2))+kb k (4*i+3)
  rw [n0,n1,n2,n3]
  omega
theorem take_parts (k:ByteArray) (x:Nat->Int):∀m,4*m<=k.size->(∀i,i<m->0<=x i/\x i<4294967296)->(k.data.toList.take (4*m)=spLl x m↔∀i,i<m->pk k i=x i)
 | 0,_,_=>by simp [spLl]
 | m+1,h,hx=>by
  have ih:=take_parts k x m (by omega) (fun i hi=>hx i (by omega))
  obtain ⟨q,q1,q2,q3⟩:=part_list k m (by omega)
  have hxm:=hx m (by omega)
  have hl:(k.data.toList.take (4*m)).length=(spLl x m).length:=by
   rw [List.length_take,spLl_len,Array.length_toList]
   have:k.data.size=k.size:=rfl
   omega
  have hp:q=pkL (x m)↔pk k m=x m:=by
   rw [<- q3]
   constructor
   ·intro e
    rw [e]
    exact pkL_num _ hxm.1 hxm.2
   ·intro e
    refine bnum_inj _ _ q1 ?_
    have:=pkL_num _ hxm.1 hxm.2
    omega
  rw [show 4*(m+1)=4*m+4 by omega,List.take_add,q2]
  show _++q=spLl x m++pkL (x m)↔_
  constructor
  ·intro e
   obtain ⟨a1,a2⟩:=List.append_inj e hl
   intro i hi
   by_cases h' : i=m
   ·rw [h']
    exact hp.1 a2
   ·exact ih.1 a1 i (by omega)
  ·intro e
   rw [ih.2 (fun i hi=>e i (by omega)),hp.2 (e m (by omega))]
end Go.Proofs.YtpaomghibppgkaaGreat
