import Derived.Test.YtpaomghibppgkaaGreatNv43
import Derived.Deep.CutRange
import Derived.Deep.CutBlock
set_option linter.unusedVariables false
set_option maxRecDepth 100000
namespace Go.Proofs.YtpaomghibppgkaaGreat
open Go.RowKit Go.Deep
set_option linter.unusedSimpArgs false

structure DfS (w W:World) (next:Int) (a:Option Addr) (n c:Nat) (qa:Option Addr) (ll qc:Nat) (xb:Bool) (xg k:Int) (s t:ByteArray) (ks:List Value) (nb go:Nat):Prop where
 wb:Bx W w.heap.size 70 #[.int .i64 next,.slice a n c,.slice qa ll qc]
 cb:Bx W (w.heap.size+1) 72 #[.bool xb,.int .i64 xg]
 nd:Bx W nb 83 #[.int .i64 k,.string s,.string t]
 kd:∀i v,ks[i]?=some v->W.cell? ⟨go,i,none⟩=some v
 bel:Below w.heap.size w W
section
variable {w W W' : World} {next:Int} {a:Option Addr} {n c:Nat} {qa:Option Addr} {ll qc:Nat} {xb:Bool} {xg k:Int} {s t:ByteArray} {ks:List Value} {nb go B:Nat}
theorem DfS.keep (h:DfS w W next a n c qa ll qc xb xg k s t ks nb go) (hb:Below W.heap.size W W'):DfS w W' next a n c qa ll qc xb xg k s t ks nb go:=
 ⟨(hb.block _ h.wb.lt).trans h.wb,(hb.block _ h.cb.lt).trans h.cb,(hb.block _ h.nd.lt).trans h.nd,fun i v hi=>(hb.cell (p:=⟨go,i,none⟩) (World.block_lt_of_cell? _ _ (h.kd i v hi))).trans (h.kd i v hi),h.bel.trans (hb.mono h.bel.size)⟩
theorem DfS.cells (h:DfS w W next a n c qa ll qc xb xg k s t ks nb go) :
  (W.cell? ⟨w.heap.size,0,none⟩=some (.int .i64 next)/\W.cell? ⟨w.heap.size,1,none⟩=some (.slice a n c)/\W.cell? ⟨w.heap.size,2,none⟩=some (.slice qa ll qc))/\(W.cell? ⟨w.heap.size+1,0,none⟩=some (.bool xb)/\W.cell? ⟨w.heap.size+1,1,none⟩=some (.int .i64 xg))/\(W.cell? ⟨nb,0,none⟩=some (.int .i64 k)/\W.cell? ⟨nb,1,none⟩=some (.string s)/\W.cell? ⟨nb,2,none⟩=some (.string t)):=by
 have w0:=h.wb.cell 0
 have w1:=h.wb.cell 1
 have w2:=h.wb.cell 2
 have c0:=h.cb.cell 0
 have c1:=h.cb.cell 1
 have n0:=h.nd.cell 0
 have n1:=h.nd.cell 1
 have n2:=h.nd.cell 2
 simp at n0 n1 n2 w0 w1 w2 c0 c1
 exact ⟨⟨w0,w1,w2⟩,⟨c0,c1⟩,⟨n0,n1,n2⟩⟩
end
theorem ch345 {fs:Qd->Nat} {k:Int} {b:Bool} {ow a0:Nat} (hk:k=3\/k=4\/k=5):chN fs k b ow a0 0=if a0<ow then fs (shpQ k 0 b) else 6+fs (shpQ k 1 b):=by
 unfold chN
 rw [if_neg (by omega),if_pos hk]
theorem ch78 {fs:Qd->Nat} {k:Int} {b:Bool} {ow a0 a1:Nat} (hk:k=7\/k=8):chN fs k b ow a0 a1=0:=by
 unfold chN
 rw [if_neg (by omega),if_neg (by omega),if_neg (by omega)]
theorem own_downI {w:World} {B B' : Nat} {e:TypeId} {size:Nat} {v:Value} {n:Nat} {xs:List Value} (h:w.ownsRow B e size v n xs) (hB:B'<=B):w.ownsRow B' e size v n xs:=⟨h.1,h.2.imp (fun q=>q) (fun ⟨g,cap,cur,q1,q2,q3⟩=>⟨g,cap,cur,q1,Nat.le_trans hB q2,q3⟩)⟩
theorem own_shapeI {w:World} {B:Nat} {e:TypeId} {size:Nat} {v:Value} {n:Nat} {xs:List Value} (h:w.ownsRow B e size v n xs):∃a c,v=.slice a n c:=by
 obtain ⟨a,c,e,_⟩:=own_form h
 exact ⟨a,c,e⟩
set_option maxHeartbeats 8000000 in
theorem def_a (ns:Value) (k:Int) (hk:k=1\/k=2) (next:Int) (a:Option Addr) (n c:Nat) (qa:Option Addr) (ll qc:Nat) (LL:List Qd) (id:ByteArray->Int) (xb:Bool) (xg:Int) (s t:ByteArray) (w:World) (y:Cx) (hy:y=dnC id k s ⟨xb,xg⟩) (hns:∃na nl nc,ns=.slice na nl nc) (hT:TidC w next a n c id) (hq:RdQ w qa LL) (hll:ll=LL.length) (hl3:ll<=300) (hR:RtA w ns k s t []) :
  Calls Tryz.prog 27 #[ns,.agg #[.int .i64 next,.slice a n c,.slice qa ll qc],.agg #[.bool xb,.int .i64 xg]] w (RetIl w (([]:List (List Nat)).flatten++[chN fsQ k xb (ownN id LL k s t ⟨xb,xg⟩) 0 0])):=by
 obtain ⟨na,nl,nc,rfl⟩:=hns
 have HR:Hid (RtA w (.slice na nl nc) k s t []):=hR
 have HBW:Hid (∀W,Below w.heap.size w W->Calls Tryz.prog 57 #[.agg #[.bool xb,.int .i64 xg],.agg #[.int .i64 next,.slice a n c,.slice qa ll qc],.agg #[.int .i64 k,.string s,.string t]] W fun e w'=>e=.returned (.agg #[.bool y.b,.int .i64 y.g])/\Below W.heap.size W w'):=fun W hW=>by rw [hy];exact l6Below_any next a n c qa ll qc id ⟨xb,xg⟩ k s t W (hT.below hW)
 have HOW:Hid (∀W,Below w.heap.size w W->Calls Tryz.prog 61 #[.agg #[.int .i64 k,.string s,.string t],.agg #[.int .i64 next,.slice a n c,.slice qa ll qc],.agg #[.bool xb,.int .i64 xg]] W fun e w'=>e=.returned (.int .i64 (ownN id LL k s t ⟨xb,xg⟩:Int))/\Below W.heap.size W w'):=fun W hW=>l6Own_any next a n c qa ll qc LL id ⟨xb,xg⟩ k s t W (hT.below hW) (hq.below hW) hll hl3
 have HY:Hid (y=dnC id k s ⟨xb,xg⟩):=hy
 clear hR hT hq hll hy
 obtain ⟨W0,hW0⟩:∃W0,W0=(w.alloc (.cells #[.int .i64 next,.slice a n c,.slice qa ll qc] 70)).alloc (.cells #[.bool xb,.int .i64 xg] 72):=⟨_,rfl⟩
 have hb1:Bx W0 w.heap.size 70 #[.int .i64 next,.slice a n c,.slice qa ll qc]:=by
  rw [hW0]
  exact (Bx.new w #[.int .i64 next,.slice a n c,.slice qa ll qc] 70).alloc _
 have hb2:Bx W0 (w.heap.size+1) 72 #[.bool xb,.int .i64 xg]:=by
  rw [hW0]
  have b2:=Bx.new (w.alloc (.cells #[.int .i64 next,.slice a n c,.slice qa ll qc] 70)) #[.bool xb,.int .i64 xg] 72
  simp only [World.size_alloc] at b2
  exact b2
 have hbw:Below w.heap.size w W0:=by rw [hW0];exact (below_alloc _ _).alloc (by simp) _
 have S0:Hid (Bx W0 w.heap.size 70 #[.int .i64 next,.slice a n c,.slice qa ll qc]/\Bx W0 (w.heap.size+1) 72 #[.bool xb,.int .i64 xg]/\Below w.heap.size w W0):=⟨hb1,hb2,hbw⟩
 clear hb1 hb2 hbw
 go_enter Tryz.func27,Tryz.ntmps27
 go_upto_region 1 with fail
 rw [<- hW0]
 clear hW0
 go_wp2_with fail
 refine (HR.out.1 W0 S0.out.2.2).mono ?_
 rintro e w1 ⟨rfl,hb1⟩
 obtain ⟨W1,hW1⟩:∃W1,W1=w1.alloc (.cells #[.int .i64 k,.string s,.string t] 83):=⟨_,rfl⟩
 have hbb:Below w1.heap.size w1 W1:=by rw [hW1];exact below_alloc _ _
 have hb01:Below W0.heap.size W0 W1:=hb1.trans (hbb.mono hb1.size)
 have S1:Hid (Bx W1 w.heap.size 70 #[.int .i64 next,.slice a n c,.slice qa ll qc]/\Bx W1 (w.heap.size+1) 72 #[.bool xb,.int .i64 xg]/\Bx W1 w1.heap.size 83 #[.int .i64 k,.string s,.string t]/\Below w.heap.size w W1):=⟨(hb01.block _ S0.out.1.lt).trans S0.out.1,(hb01.block _ S0.out.2.1.lt).trans S0.out.2.1,by rw [hW1];exact Bx.new _ _ _,S0.out.2.2.trans (hb01.mono S0.out.2.2.size)⟩
 clear hb1 hbb hb01 S0
 go_upto_region 2 with fail
 rw [<- hW1]
 clear hW1
 generalize w1.heap.size=nb at*
 go_wp2_with fail
 refine (HR.out.2 W1 S1.out.2.2.2).mono ?_
 rintro e w2 ⟨go,cpo,rfl,hkd,hb2⟩
 have S2:Hid (DfS w w2 next a n c qa ll qc xb xg k s t [] nb go):=⟨(hb2.block _ S1.out.1.lt).trans S1.out.1,(hb2.block _ S1.out.2.1.lt).trans S1.out.2.1,(hb2.block _ S1.out.2.2.1.lt).trans S1.out.2.2.1,hkd,S1.out.2.2.2.trans (hb2.mono S1.out.2.2.2.size)⟩
 clear hkd hb2 S1 HR
 try simp only [List.length_cons,List.length_nil,Nat.zero_add,Nat.reduceAdd]
 go_wp2
 go_loopw [9,10] (fun u i wr=>∃j:Nat,j<=0/\i=.int .i64 (j:Int)/\wr.ownsRow w2.heap.size 2 1 u ((([]:List (List Nat)).take j).flatten).length (il ((([]:List (List Nat)).take j).flatten))/\Below w2.heap.size w2 wr) (fun _ i _=>0-(intOf i).toNat)
 case atStart=>exact ⟨0,Nat.zero_le _,rfl,own_empty w2 2 w2.heap.size 1 (Nat.le_refl _),below_alloc _ _⟩
 case round=>
  obtain ⟨j,hj,rfl,hown,hbel⟩:=hrel
  have HO:Hid (wr.ownsRow w2.heap.size 2 1 u9 ((([]:List (List Nat)).take j).flatten).length (il ((([]:List (List Nat)).take j).flatten))/\Below w2.heap.size w2 wr):=⟨hown,hbel⟩
  have hzr:=hbel.size
  clear hown hbel
  have S9:Hid (DfS w wr next a n c qa ll qc xb xg k s t [] nb go):=S2.out.keep HO.out.2
  obtain ⟨⟨z0,z1,z2⟩,⟨z3,z4⟩,⟨z5,z6,z7⟩⟩:=S9.out.cells
  obtain rfl:j=0:=by omega
  obtain ⟨DL,hDL⟩:∃DL,DL=([]:List (List Nat)).flatten:=⟨_,rfl⟩
  have HOW2:Hid (wr.ownsRow w2.heap.size 2 1 u9 DL.length (il DL)/\DL.length<=3000/\DL=([]:List (List Nat)).flatten):=by
   have q:=HO.out.1
   rw [show ([]:List (List Nat)).take 0=[] from rfl,<- hDL] at q
   refine ⟨q,?_,hDL⟩
   rw [hDL]
   simp
  clear hDL HO
  rcases hk with rfl|rfl
  ·have hSelf:Below wr.heap.size wr wr:=Below.refl _ _
   go_wp2_with fail
   with_reducible refine (l6Shape_any 1 0 xb wr (by simp) (by simp)).mono ?_
   rintro e wp ⟨rfl,hbp⟩
   go_wp2_with fail
   with_reducible refine (l6First_any _ wp).mono ?_
   rintro e wq ⟨rfl,hbq⟩
   have HBx:Hid (Below wr.heap.size wr wq):=(hSelf.trans (hbp.mono hSelf.size)).trans (hbq.mono (hSelf.trans (hbp.mono hSelf.size)).size)
   clear hbp hbq
   obtain ⟨F,hF⟩:∃F,F=fsQ (shpQ 1 0 xb):=⟨_,rfl⟩
   have hF6:F<6:=by rw [hF];exact fsQ_lt _
   rw [<- hF]
   have HF0:Hid (F=fsQ (shpQ 1 0 xb)):=hF
   clear hF
   have HOx:Hid (wq.ownsRow w2.heap.size 2 1 u9 DL.length (il DL)):=own_below HOW2.out.1 HBx.out
   have hDLl:=HOW2.out.2.1
   have hzx:w2.heap.size<=wq.heap.size:=Nat.le_trans hzr HBx.out.size
   go_wp2_with (at_builtin;refine app_il rfl _ _ rfl w2.heap.size u9 DL F rfl HOx.out rfl (by omega) hzx ?_)
   intro v8 w8 hp8 hg8
   have hln:(DL++[chN fsQ 1 xb (ownN id LL 1 s t ⟨xb,xg⟩) 0 0]).length=DL.length+1:=by simp
   have hrs:chN fsQ 1 xb (ownN id LL 1 s t ⟨xb,xg⟩) 0 0=F:=(show chN fsQ 1 xb (ownN id LL 1 s t ⟨xb,xg⟩) 0 0=fsQ (shpQ 1 0 xb) from rfl).trans HF0.out.symm
   have HF:Hid (RetIl w (([]:List (List Nat)).flatten++[chN fsQ 1 xb (ownN id LL 1 s t ⟨xb,xg⟩) 0 0]) (.returned v8) w8):=⟨v8,rfl,by rw [<- HOW2.out.2.2,hln,hrs];exact own_downI hp8 S2.out.bel.size,((S9.out.keep HBx.out).bel.alloc (S9.out.keep HBx.out).bel.size _).grown hg8 (by have:=(S9.out.keep HBx.out).bel.size;simp;omega) (fun g e=>Nat.le_trans S2.out.bel.size (own_lt HOx.out g e).1)⟩
   have hsh:=own_shapeI hp8
   clear hp8 hg8 hln hrs
   obtain ⟨a8,c8,rfl⟩:=hsh
   go_wp2
   go_ret
   exact HF.out
  ·have HBx:Hid (Below wr.heap.size wr wr):=Below.refl _ _
   have HOx:Hid (wr.ownsRow w2.heap.size 2 1 u9 DL.length (il DL)):=own_below HOW2.out.1 HBx.out
   have hDLl:=HOW2.out.2.1
   have hzx:w2.heap.size<=wr.heap.size:=Nat.le_trans hzr HBx.out.size
   go_wp2_with (at_builtin;refine app_il rfl _ _ rfl w2.heap.size u9 DL 0 rfl HOx.out rfl (by omega) hzx ?_)
   intro v8 w8 hp8 hg8
   have hln:(DL++[chN fsQ 2 xb (ownN id LL 2 s t ⟨xb,xg⟩) 0 0]).length=DL.length+1:=by simp
   have hrs:chN fsQ 2 xb (ownN id LL 2 s t ⟨xb,xg⟩) 0 0=0:=rfl
   have HF:Hid (RetIl w (([]:List (List Nat)).flatten++[chN fsQ 2 xb (ownN id LL 2 s t ⟨xb,xg⟩) 0 0]) (.returned v8) w8):=⟨v8,rfl,by rw [<- HOW2.out.2.2,hln,hrs];exact own_downI hp8 S2.out.bel.size,((S9.out.keep HBx.out).bel.alloc (S9.out.keep HBx.out).bel.size _).grown hg8 (by have:=(S9.out.keep HBx.out).bel.size;simp;omega) (fun g e=>Nat.le_trans S2.out.bel.size (own_lt HOx.out g e).1)⟩
   have hsh:=own_shapeI hp8
   clear hp8 hg8 hln hrs
   obtain ⟨a8,c8,rfl⟩:=hsh
   go_wp2
   go_ret
   exact HF.out
set_option maxHeartbeats 8000000 in
theorem def_b (ns:Value) (k:Int) (hk:(k=3\/k=4\/k=5)\/k=9) (next:Int) (a:Option Addr) (n c:Nat) (qa:Option Addr) (ll qc:Nat) (LL:List Qd) (id:ByteArray->Int) (xb:Bool) (xg:Int) (s t:ByteArray) (a0:Option Addr) (l0 k0:Nat) (G0:Cx->Nat) (D0:List Nat) (w:World) (y:Cx) (hy:y=dnC id k s ⟨xb,xg⟩) (hns:∃na nl nc,ns=.slice na nl nc) (hT:TidC w next a n c id) (hq:RdQ w qa LL) (hll:ll=LL.length) (hl3:ll<=300) (hR:RtA w ns k s t [.slice a0 l0 k0]) (hg0:KidG w (.slice a0 l0 k0) next a n c qa ll qc G0) (hd0:KidD w (.slice a0 l0 k0) next a n c qa ll qc y D0) :
  Calls Tryz.prog 27 #[ns,.agg #[.int .i64 next,.slice a n c,.slice qa ll qc],.agg #[.bool xb,.int .i64 xg]] w (RetIl w (([D0]:List (List Nat)).flatten++[chN fsQ k xb (ownN id LL k s t ⟨xb,xg⟩) (G0 y) 0])):=by
 obtain ⟨na,nl,nc,rfl⟩:=hns
 have HR:Hid (RtA w (.slice na nl nc) k s t [.slice a0 l0 k0]):=hR
 have HBW:Hid (∀W,Below w.heap.size w W->Calls Tryz.prog 57 #[.agg #[.bool xb,.int .i64 xg],.agg #[.int .i64 next,.slice a n c,.slice qa ll qc],.agg #[.int .i64 k,.string s,.string t]] W fun e w'=>e=.returned (.agg #[.bool y.b,.int .i64 y.g])/\Below W.heap.size W w'):=fun W hW=>by rw [hy];exact l6Below_any next a n c qa ll qc id ⟨xb,xg⟩ k s t W (hT.below hW)
 have HOW:Hid (∀W,Below w.heap.size w W->Calls Tryz.prog 61 #[.agg #[.int .i64 k,.string s,.string t],.agg #[.int .i64 next,.slice a n c,.slice qa ll qc],.agg #[.bool xb,.int .i64 xg]] W fun e w'=>e=.returned (.int .i64 (ownN id LL k s t ⟨xb,xg⟩:Int))/\Below W.heap.size W w'):=fun W hW=>l6Own_any next a n c qa ll qc LL id ⟨xb,xg⟩ k s t W (hT.below hW) (hq.below hW) hll hl3
 have HG0:Hid (KidG w (.slice a0 l0 k0) next a n c qa ll qc G0):=hg0
 have HD0:Hid (KidD w (.slice a0 l0 k0) next a n c qa ll qc y D0):=hd0
 clear hg0 hd0
 have HY:Hid (y=dnC id k s ⟨xb,xg⟩):=hy
 clear hR hT hq hll hy
 obtain ⟨W0,hW0⟩:∃W0,W0=(w.alloc (.cells #[.int .i64 next,.slice a n c,.slice qa ll qc] 70)).alloc (.cells #[.bool xb,.int .i64 xg] 72):=⟨_,rfl⟩
 have hb1:Bx W0 w.heap.size 70 #[.int .i64 next,.slice a n c,.slice qa ll qc]:=by
  rw [hW0]
  exact (Bx.new w #[.int .i64 next,.slice a n c,.slice qa ll qc] 70).alloc _
 have hb2:Bx W0 (w.heap.size+1) 72 #[.bool xb,.int .i64 xg]:=by
  rw [hW0]
  have b2:=Bx.new (w.alloc (.cells #[.int .i64 next,.slice a n c,.slice qa ll qc] 70)) #[.bool xb,.int .i64 xg] 72
  simp only [World.size_alloc] at b2
  exact b2
 have hbw:Below w.heap.size w W0:=by rw [hW0];exact (below_alloc _ _).alloc (by simp) _
 have S0:Hid (Bx W0 w.heap.size 70 #[.int .i64 next,.slice a n c,.slice qa ll qc]/\Bx W0 (w.heap.size+1) 72 #[.bool xb,.int .i64 xg]/\Below w.heap.size w W0):=⟨hb1,hb2,hbw⟩
 clear hb1 hb2 hbw
 go_enter Tryz.func27,Tryz.ntmps27
 go_upto_region 1 with fail
 rw [<- hW0]
 clear hW0
 go_wp2_with fail
 refine (HR.out.1 W0 S0.out.2.2).mono ?_
 rintro e w1 ⟨rfl,hb1⟩
 obtain ⟨W1,hW1⟩:∃W1,W1=w1.alloc (.cells #[.int .i64 k,.string s,.string t] 83):=⟨_,rfl⟩
 have hbb:Below w1.heap.size w1 W1:=by rw [hW1];exact below_alloc _ _
 have hb01:Below W0.heap.size W0 W1:=hb1.trans (hbb.mono hb1.size)
 have S1:Hid (Bx W1 w.heap.size 70 #[.int .i64 next,.slice a n c,.slice qa ll qc]/\Bx W1 (w.heap.size+1) 72 #[.bool xb,.int .i64 xg]/\Bx W1 w1.heap.size 83 #[.int .i64 k,.string s,.string t]/\Below w.heap.size w W1):=⟨(hb01.block _ S0.out.1.lt).trans S0.out.1,(hb01.block _ S0.out.2.1.lt).trans S0.out.2.1,by rw [hW1];exact Bx.new _ _ _,S0.out.2.2.trans (hb01.mono S0.out.2.2.size)⟩
 clear hb1 hbb hb01 S0
 go_upto_region 2 with fail
 rw [<- hW1]
 clear hW1
 generalize w1.heap.size=nb at*
 go_wp2_with fail
 refine (HR.out.2 W1 S1.out.2.2.2).mono ?_
 rintro e w2 ⟨go,cpo,rfl,hkd,hb2⟩
 have S2:Hid (DfS w w2 next a n c qa ll qc xb xg k s t [.slice a0 l0 k0] nb go):=⟨(hb2.block _ S1.out.1.lt).trans S1.out.1,(hb2.block _ S1.out.2.1.lt).trans S1.out.2.1,(hb2.block _ S1.out.2.2.1.lt).trans S1.out.2.2.1,hkd,S1.out.2.2.2.trans (hb2.mono S1.out.2.2.2.size)⟩
 clear hkd hb2 S1 HR
 try simp only [List.length_cons,List.length_nil,Nat.zero_add,Nat.reduceAdd]
 go_wp2
 go_loopw [9,10] (fun u i wr=>∃j:Nat,j<=1/\i=.int .i64 (j:Int)/\wr.ownsRow w2.heap.size 2 1 u ((([D0]:List (List Nat)).take j).flatten).length (il ((([D0]:List (List Nat)).take j).flatten))/\Below w2.heap.size w2 wr) (fun _ i _=>1-(intOf i).toNat)
 case atStart=>exact ⟨0,Nat.zero_le _,rfl,own_empty w2 2 w2.heap.size 1 (Nat.le_refl _),below_alloc _ _⟩
 case round=>
  obtain ⟨j,hj,rfl,hown,hbel⟩:=hrel
  have HO:Hid (wr.ownsRow w2.heap.size 2 1 u9 ((([D0]:List (List Nat)).take j).flatten).length (il ((([D0]:List (List Nat)).take j).flatten))/\Below w2.heap.size w2 wr):=⟨hown,hbel⟩
  have hzr:=hbel.size
  clear hown hbel
  have S9:Hid (DfS w wr next a n c qa ll qc xb xg k s t [.slice a0 l0 k0] nb go):=S2.out.keep HO.out.2
  obtain ⟨⟨z0,z1,z2⟩,⟨z3,z4⟩,⟨z5,z6,z7⟩⟩:=S9.out.cells
  by_cases hlt:j<1
  ·obtain rfl:j=0:=by omega
   have ho0:wr.drew.ownsRow w2.heap.size 2 1 u9 ([]:List Nat).length (il []):=by
    have q:=own_below HO.out.1 (Below.refl wr.heap.size wr).drew
    simpa using q
   go_wp2
   refine wp_region_late (S:=fun W=>Below w2.heap.size w2 W) 12 (by kernel_rfl) HO.out.2.drew (fun hHeld=>?_)
   clear z0 z1 z2 z3 z4 z5 z6 z7 S9
   generalize wr.drew=W at hHeld ho0 ⊢
   refine tk 0 .zero (v:=u9) (fun w' h=>by clear h;go_simp) ?_
   simp only [tkp]
   refine tk 1 (.succ .zero) (v:=.slice (some ⟨go,0,none⟩) 1 cpo) (fun w' h=>by clear h;go_simp) ?_
   simp only [tkp]
   refine tk 2 (.succ (.succ .zero)) (v:=.int .i64 0) (fun w' h=>by clear h;go_simp) ?_
   simp only [tkp]
   refine tk 3 (.succ (.succ (.succ .zero))) (v:=.pointer (some ⟨go,0,none⟩)) (fun w' h=>by clear h;go_simp) ?_
   simp only [tkp]
   refine tk 4 (.succ (.succ (.succ (.succ .zero)))) (v:=.slice a0 l0 k0) (fun w' h=>by have q:=(S2.out.keep h).kd 0 _ rfl;clear h;go_simp) ?_
   simp only [tkp]
   refine tk 5 (.s5 .zero) (v:=.agg #[.int .i64 next,.slice a n c,.slice qa ll qc]) (fun w' h=>by obtain ⟨⟨q0,q1,q2⟩,⟨q3,q4⟩,⟨q5,q6,q7⟩⟩:=(S2.out.keep h).cells;clear h;go_simp) ?_
   simp only [tkp]
   refine tk 6 (.s5 (.succ .zero)) (v:=.agg #[.bool xb,.int .i64 xg]) (fun w' h=>by obtain ⟨⟨q0,q1,q2⟩,⟨q3,q4⟩,⟨q5,q6,q7⟩⟩:=(S2.out.keep h).cells;clear h;go_simp) ?_
   simp only [tkp]
   refine tk 7 (.s5 (.succ (.succ .zero))) (v:=.agg #[.int .i64 next,.slice a n c,.slice qa ll qc]) (fun w' h=>by obtain ⟨⟨q0,q1,q2⟩,⟨q3,q4⟩,⟨q5,q6,q7⟩⟩:=(S2.out.keep h).cells;clear h;go_simp) ?_
   simp only [tkp]
   refine tk 8 (.s5 (.succ (.succ (.succ .zero)))) (v:=.agg #[.int .i64 k,.string s,.string t]) (fun w' h=>by obtain ⟨⟨q0,q1,q2⟩,⟨q3,q4⟩,⟨q5,q6,q7⟩⟩:=(S2.out.keep h).cells;clear h;go_simp) ?_
   simp only [tkp]
   refine tk1 9 (.s5 (.succ (.succ (.succ (.succ .zero))))) (fun K hK=>?_)
   refine step_h3 rfl 57 30 31 32 _ rfl (.agg #[.bool xb,.int .i64 xg]) (.agg #[.int .i64 next,.slice a n c,.slice qa ll qc]) (.agg #[.int .i64 k,.string s,.string t]) rfl rfl rfl (fun _ _=>rfl) ?_
   refine (HBW.out W (S2.out.keep hHeld).bel).mono ?_
   rintro e w5 ⟨rfl,hbm⟩
   have hb5:Below w2.heap.size w2 w5:=hHeld.trans (hbm.mono hHeld.size)
   refine ⟨_,rfl,hK.out _ _ (fun _=>hb5) (fun hG=>?_)⟩
   clear hK K hG
   have ho5:=own_below ho0 hbm
   clear hbm hHeld ho0
   simp only [tkp]
   refine tk1 10 (.s5 (.s5 .zero)) (fun K hK=>?_)
   refine step_h3 rfl 27 28 29 33 _ rfl (.slice a0 l0 k0) (.agg #[.int .i64 next,.slice a n c,.slice qa ll qc]) (.agg #[.bool y.b,.int .i64 y.g]) rfl rfl rfl (fun _ _=>rfl) ?_
   refine (HD0.out.2.2 w5 (S2.out.keep hb5).bel).mono ?_
   rintro e w6 ⟨vd,rfl,hod,hbm⟩
   have hb6:Below w2.heap.size w2 w6:=hb5.trans (hbm.mono hb5.size)
   refine ⟨_,rfl,hK.out _ _ (fun _=>hb6) (fun hG=>?_)⟩
   clear hK K hG
   have ho6:=own_below ho5 hbm
   clear hbm hb5 ho5
   simp only [tkp]
   have hl0:=HD0.out.2.1
   refine tk1 11 (.s5 (.s5 (.succ .zero))) (fun K hK=>?_)
   refine step_il rfl (.tmp 24) (.tmp 34) rfl w2.heap.size w5.heap.size u9 vd [] D0 rfl ho6 rfl hod HD0.out.1 (by first|(simp;done)|(simp;omega)|omega) hb6.size ?_
   intro v7 w7 hp7 hg7
   have hb7:Below w2.heap.size w2 w7:=hb6.grown hg7 hb6.size (fun g e=>(own_lt ho6 g e).1)
   refine hK.out _ _ (fun _=>hb7) (fun hG=>?_)
   clear hK K hG hg7 ho6 hod hb6
   simp only [tkp]
   refine tk1 12 (.s5 (.s5 (.succ (.succ .zero)))) (fun K hK=>?_)
   go_simp
   refine hK.out _ _ (fun hne=>absurd rfl hne) (fun hG=>?_)
   clear hK K hG
   refine wpLate_done (by kernel_rfl) ?_ _
   have HX7:Hid (w7.ownsRow w2.heap.size 2 1 v7 ((([D0]:List (List Nat)).take 1).flatten).length (il ((([D0]:List (List Nat)).take 1).flatten))/\Below w2.heap.size w2 w7):=⟨by simpa using hp7,hb7⟩
   clear hp7 hb7
   go_wp2
   go_roundw
   case rel=>exact ⟨1,by omega,by go_num,HX7.out⟩
   case measure=>simp [intOf]
  obtain rfl:j=1:=by omega
  obtain ⟨DL,hDL⟩:∃DL,DL=([D0]:List (List Nat)).flatten:=⟨_,rfl⟩
  have HOW2:Hid (wr.ownsRow w2.heap.size 2 1 u9 DL.length (il DL)/\DL.length<=3000/\DL=([D0]:List (List Nat)).flatten):=by
   have q:=HO.out.1
   rw [show ([D0]:List (List Nat)).take 1=[D0] from rfl,<- hDL] at q
   refine ⟨q,?_,hDL⟩
   rw [hDL]
   have h0:=HD0.out.2.1;simp;omega
  clear hDL HO hlt
  have zk0:wr.cell? ⟨go,0,none⟩=some (.slice a0 l0 k0):=S9.out.kd 0 _ rfl
  rcases hk with hk|rfl
  ·have hyc:y=⟨xb,xg⟩:=by rw [HY.out];unfold dnC;rw [if_neg (by omega)]
   clear HY
   subst hyc
   have HK:Hid (k=3\/k=4\/k=5):=hk
   rcases hk with hk|hk|hk
   all_goals
    have e1:(k == 1)=false:=by rw [hk];rfl
    have e2:(k == 2)=false:=by rw [hk];rfl
    (first|have e3:(k == 3)=true:=by rw [hk];rfl|have e3:(k == 3)=false:=by rw [hk];rfl)
    (first|have e4:(k == 4)=true:=by rw [hk];rfl|have e4:(k == 4)=false:=by rw [hk];rfl)
    (first|have e5:(k == 5)=true:=by rw [hk];rfl|have e5:(k == 5)=false:=by rw [hk];rfl)
    clear hk
    by_cases hcmp:G0 ⟨xb,xg⟩<ownN id LL k s t ⟨xb,xg⟩
    ·have HC:Hid (G0 ⟨xb,xg⟩<ownN id LL k s t ⟨xb,xg⟩):=hcmp
     have hcI:(G0 ⟨xb,xg⟩:Int)<(ownN id LL k s t ⟨xb,xg⟩:Int):=by omega
     clear hcmp
     go_upto_region 16 with fail
     refine wp_region_lateT (S:=fun W=>Below wr.heap.size wr W) 10 (by kernel_rfl) (Below.refl _ _).drew (fun W hHeld=>?_)
     refine tk 0 .zero (v:=.slice (some ⟨go,0,none⟩) 1 cpo) (fun w' h=>by clear h;go_simp) ?_
     simp only [tkp]
     refine tk 1 (.succ .zero) (v:=.pointer (some ⟨go,0,none⟩)) (fun w' h=>by clear h;go_simp) ?_
     simp only [tkp]
     refine tk 2 (.succ (.succ .zero)) (v:=.slice a0 l0 k0) (fun w' h=>by have q:=(S9.out.keep h).kd 0 _ rfl;clear h;go_simp) ?_
     simp only [tkp]
     refine tk 3 (.succ (.succ (.succ .zero))) (v:=.agg #[.int .i64 next,.slice a n c,.slice qa ll qc]) (fun w' h=>by obtain ⟨⟨q0,q1,q2⟩,⟨q3,q4⟩,⟨q5,q6,q7⟩⟩:=(S9.out.keep h).cells;clear h;go_simp) ?_
     simp only [tkp]
     refine tk 4 (.succ (.succ (.succ (.succ .zero)))) (v:=.agg #[.bool xb,.int .i64 xg]) (fun w' h=>by obtain ⟨⟨q0,q1,q2⟩,⟨q3,q4⟩,⟨q5,q6,q7⟩⟩:=(S9.out.keep h).cells;clear h;go_simp) ?_
     simp only [tkp]
     refine tk 6 (.s5 (.succ .zero)) (v:=.agg #[.int .i64 k,.string s,.string t]) (fun w' h=>by obtain ⟨⟨q0,q1,q2⟩,⟨q3,q4⟩,⟨q5,q6,q7⟩⟩:=(S9.out.keep h).cells;clear h;go_simp) ?_
     simp only [tkp]
     refine tk 7 (.s5 (.succ (.succ .zero))) (v:=.agg #[.int .i64 next,.slice a n c,.slice qa ll qc]) (fun w' h=>by obtain ⟨⟨q0,q1,q2⟩,⟨q3,q4⟩,⟨q5,q6,q7⟩⟩:=(S9.out.keep h).cells;clear h;go_simp) ?_
     simp only [tkp]
     refine tk 8 (.s5 (.succ (.succ (.succ .zero)))) (v:=.agg #[.bool xb,.int .i64 xg]) (fun w' h=>by obtain ⟨⟨q0,q1,q2⟩,⟨q3,q4⟩,⟨q5,q6,q7⟩⟩:=(S9.out.keep h).cells;clear h;go_simp) ?_
     simp only [tkp]
     refine tk1 5 (.s5 .zero) (fun K hK=>?_)
     refine step_h3 rfl 60 52 53 54 _ rfl (.slice a0 l0 k0) (.agg #[.int .i64 next,.slice a n c,.slice qa ll qc]) (.agg #[.bool xb,.int .i64 xg]) rfl rfl rfl (fun _ _=>rfl) ?_
     refine (HG0.out W ⟨xb,xg⟩ (S9.out.keep hHeld).bel).mono ?_
     rintro e w5 ⟨rfl,hbm⟩
     have hb5:Below wr.heap.size wr w5:=hHeld.trans (hbm.mono hHeld.size)
     refine ⟨_,rfl,hK.out _ _ (fun _=>hb5) (fun hG=>?_)⟩
     clear hK K hG hbm
     simp only [tkp]
     refine tk1 9 (.s5 (.succ (.succ (.succ (.succ .zero))))) (fun K hK=>?_)
     refine step_h3 rfl 61 56 57 58 _ rfl (.agg #[.int .i64 k,.string s,.string t]) (.agg #[.int .i64 next,.slice a n c,.slice qa ll qc]) (.agg #[.bool xb,.int .i64 xg]) rfl rfl rfl (fun _ _=>rfl) ?_
     refine (HOW.out w5 (S9.out.keep hb5).bel).mono ?_
     rintro e w6 ⟨rfl,hbm⟩
     have hb6:Below wr.heap.size wr w6:=hb5.trans (hbm.mono hb5.size)
     refine ⟨_,rfl,hK.out _ _ (fun _=>hb6) (fun hG=>?_)⟩
     clear hK K hG hbm
     simp only [tkp]
     refine tk1 10 (.s5 (.s5 .zero)) (fun K hK=>?_)
     go_simp
     refine hK.out _ _ (fun hne=>absurd rfl hne) (fun hG=>?_)
     clear hK K hG
     refine wpLate_done (by kernel_rfl) ?_ _
     have HB6:Hid (Below wr.heap.size wr w6):=hb6
     clear z0 z1 z2 z3 z4 z5 z6 z7
     obtain ⟨⟨z0,z1,z2⟩,⟨z3,z4⟩,⟨z5,z6,z7⟩⟩:=(S9.out.keep hb6).cells
     go_wp2_with fail
     with_reducible refine (l6Shape_any k 0 xb w6 (.inr HK.out) (by simp)).mono ?_
     rintro e wp ⟨rfl,hbp⟩
     go_wp2_with fail
     with_reducible refine (l6First_any _ wp).mono ?_
     rintro e wq ⟨rfl,hbq⟩
     have HBx:Hid (Below wr.heap.size wr wq):=(HB6.out.trans (hbp.mono HB6.out.size)).trans (hbq.mono (HB6.out.trans (hbp.mono HB6.out.size)).size)
     clear hbp hbq
     obtain ⟨F,hF⟩:∃F,F=fsQ (shpQ k 0 xb):=⟨_,rfl⟩
     have hF6:F<6:=by rw [hF];exact fsQ_lt _
     rw [<- hF]
     have HF0:Hid (F=fsQ (shpQ k 0 xb)):=hF
     clear hF
     have hws:IntKind.i64.wrap (0+(F:Int))=(F:Int):=by rw [IntKind.wrap_i64];omega
     have hw0:(0:Int)+(F:Int)=(F:Int):=by omega
     have HOx:Hid (wq.ownsRow w2.heap.size 2 1 u9 DL.length (il DL)):=own_below HOW2.out.1 HBx.out
     have hDLl:=HOW2.out.2.1
     have hzx:w2.heap.size<=wq.heap.size:=Nat.le_trans hzr HBx.out.size
     go_wp2_with (at_builtin;refine app_il rfl _ _ rfl w2.heap.size u9 DL F rfl HOx.out rfl (by omega) hzx ?_)
     intro v8 w8 hp8 hg8
     have hln:(DL++[chN fsQ k xb (ownN id LL k s t ⟨xb,xg⟩) (G0 ⟨xb,xg⟩) 0]).length=DL.length+1:=by simp
     have hrs:chN fsQ k xb (ownN id LL k s t ⟨xb,xg⟩) (G0 ⟨xb,xg⟩) 0=F:=by rw [ch345 HK.out,if_pos HC.out,<- HF0.out]
     have HF:Hid (RetIl w (([D0]:List (List Nat)).flatten++[chN fsQ k xb (ownN id LL k s t ⟨xb,xg⟩) (G0 ⟨xb,xg⟩) 0]) (.returned v8) w8):=⟨v8,rfl,by rw [<- HOW2.out.2.2,hln,hrs];exact own_downI hp8 S2.out.bel.size,((S9.out.keep HBx.out).bel.alloc (S9.out.keep HBx.out).bel.size _).grown hg8 (by have:=(S9.out.keep HBx.out).bel.size;simp;omega) (fun g e=>Nat.le_trans S2.out.bel.size (own_lt HOx.out g e).1)⟩
     have hsh:=own_shapeI hp8
     clear hp8 hg8 hln hrs
     obtain ⟨a8,c8,rfl⟩:=hsh
     go_wp2
     go_ret
     exact HF.out
    ·have HC:Hid (¬ G0 ⟨xb,xg⟩<ownN id LL k s t ⟨xb,xg⟩):=hcmp
     have hcI:¬ (G0 ⟨xb,xg⟩:Int)<(ownN id LL k s t ⟨xb,xg⟩:Int):=by omega
     clear hcmp
     go_upto_region 16 with fail
     refine wp_region_lateT (S:=fun W=>Below wr.heap.size wr W) 10 (by kernel_rfl) (Below.refl _ _).drew (fun W hHeld=>?_)
     refine tk 0 .zero (v:=.slice (some ⟨go,0,none⟩) 1 cpo) (fun w' h=>by clear h;go_simp) ?_
     simp only [tkp]
     refine tk 1 (.succ .zero) (v:=.pointer (some ⟨go,0,none⟩)) (fun w' h=>by clear h;go_simp) ?_
     simp only [tkp]
     refine tk 2 (.succ (.succ .zero)) (v:=.slice a0 l0 k0) (fun w' h=>by have q:=(S9.out.keep h).kd 0 _ rfl;clear h;go_simp) ?_
     simp only [tkp]
     refine tk 3 (.succ (.succ (.succ .zero))) (v:=.agg #[.int .i64 next,.slice a n c,.slice qa ll qc]) (fun w' h=>by obtain ⟨⟨q0,q1,q2⟩,⟨q3,q4⟩,⟨q5,q6,q7⟩⟩:=(S9.out.keep h).cells;clear h;go_simp) ?_
     simp only [tkp]
     refine tk 4 (.succ (.succ (.succ (.succ .zero)))) (v:=.agg #[.bool xb,.int .i64 xg]) (fun w' h=>by obtain ⟨⟨q0,q1,q2⟩,⟨q3,q4⟩,⟨q5,q6,q7⟩⟩:=(S9.out.keep h).cells;clear h;go_simp) ?_
     simp only [tkp]
     refine tk 6 (.s5 (.succ .zero)) (v:=.agg #[.int .i64 k,.string s,.string t]) (fun w' h=>by obtain ⟨⟨q0,q1,q2⟩,⟨q3,q4⟩,⟨q5,q6,q7⟩⟩:=(S9.out.keep h).cells;clear h;go_simp) ?_
     simp only [tkp]
     refine tk 7 (.s5 (.succ (.succ .zero))) (v:=.agg #[.int .i64 next,.slice a n c,.slice qa ll qc]) (fun w' h=>by obtain ⟨⟨q0,q1,q2⟩,⟨q3,q4⟩,⟨q5,q6,q7⟩⟩:=(S9.out.keep h).cells;clear h;go_simp) ?_
     simp only [tkp]
     refine tk 8 (.s5 (.succ (.succ (.succ .zero)))) (v:=.agg #[.bool xb,.int .i64 xg]) (fun w' h=>by obtain ⟨⟨q0,q1,q2⟩,⟨q3,q4⟩,⟨q5,q6,q7⟩⟩:=(S9.out.keep h).cells;clear h;go_simp) ?_
     simp only [tkp]
     refine tk1 5 (.s5 .zero) (fun K hK=>?_)
     refine step_h3 rfl 60 52 53 54 _ rfl (.slice a0 l0 k0) (.agg #[.int .i64 next,.slice a n c,.slice qa ll qc]) (.agg #[.bool xb,.int .i64 xg]) rfl rfl rfl (fun _ _=>rfl) ?_
     refine (HG0.out W ⟨xb,xg⟩ (S9.out.keep hHeld).bel).mono ?_
     rintro e w5 ⟨rfl,hbm⟩
     have hb5:Below wr.heap.size wr w5:=hHeld.trans (hbm.mono hHeld.size)
     refine ⟨_,rfl,hK.out _ _ (fun _=>hb5) (fun hG=>?_)⟩
     clear hK K hG hbm
     simp only [tkp]
     refine tk1 9 (.s5 (.succ (.succ (.succ (.succ .zero))))) (fun K hK=>?_)
     refine step_h3 rfl 61 56 57 58 _ rfl (.agg #[.int .i64 k,.string s,.string t]) (.agg #[.int .i64 next,.slice a n c,.slice qa ll qc]) (.agg #[.bool xb,.int .i64 xg]) rfl rfl rfl (fun _ _=>rfl) ?_
     refine (HOW.out w5 (S9.out.keep hb5).bel).mono ?_
     rintro e w6 ⟨rfl,hbm⟩
     have hb6:Below wr.heap.size wr w6:=hb5.trans (hbm.mono hb5.size)
     refine ⟨_,rfl,hK.out _ _ (fun _=>hb6) (fun hG=>?_)⟩
     clear hK K hG hbm
     simp only [tkp]
     refine tk1 10 (.s5 (.s5 .zero)) (fun K hK=>?_)
     go_simp
     refine hK.out _ _ (fun hne=>absurd rfl hne) (fun hG=>?_)
     clear hK K hG
     refine wpLate_done (by kernel_rfl) ?_ _
     have HB6:Hid (Below wr.heap.size wr w6):=hb6
     clear z0 z1 z2 z3 z4 z5 z6 z7
     obtain ⟨⟨z0,z1,z2⟩,⟨z3,z4⟩,⟨z5,z6,z7⟩⟩:=(S9.out.keep hb6).cells
     go_wp2_with fail
     with_reducible refine (l6Shape_any k 1 xb w6 (.inr HK.out) (by simp)).mono ?_
     rintro e wp ⟨rfl,hbp⟩
     go_wp2_with fail
     with_reducible refine (l6First_any _ wp).mono ?_
     rintro e wq ⟨rfl,hbq⟩
     have HBx:Hid (Below wr.heap.size wr wq):=(HB6.out.trans (hbp.mono HB6.out.size)).trans (hbq.mono (HB6.out.trans (hbp.mono HB6.out.size)).size)
     clear hbp hbq
     obtain ⟨F,hF⟩:∃F,F=fsQ (shpQ k 1 xb):=⟨_,rfl⟩
     have hF6:F<6:=by rw [hF];exact fsQ_lt _
     rw [<- hF]
     have HF0:Hid (F=fsQ (shpQ k 1 xb)):=hF
     clear hF
     obtain ⟨V,hV⟩:∃V:Nat,V=6+F:=⟨_,rfl⟩
     have hws:IntKind.i64.wrap (6+(F:Int))=(V:Int):=by rw [IntKind.wrap_i64];omega
     have hw0:(6:Int)+(F:Int)=(V:Int):=by omega
     have HV:Hid (V=6+F):=hV
     clear hV
     have HOx:Hid (wq.ownsRow w2.heap.size 2 1 u9 DL.length (il DL)):=own_below HOW2.out.1 HBx.out
     have hDLl:=HOW2.out.2.1
     have hzx:w2.heap.size<=wq.heap.size:=Nat.le_trans hzr HBx.out.size
     go_wp2_with (at_builtin;refine app_il rfl _ _ rfl w2.heap.size u9 DL V rfl HOx.out rfl (by omega) hzx ?_)
     intro v8 w8 hp8 hg8
     have hln:(DL++[chN fsQ k xb (ownN id LL k s t ⟨xb,xg⟩) (G0 ⟨xb,xg⟩) 0]).length=DL.length+1:=by simp
     have hrs:chN fsQ k xb (ownN id LL k s t ⟨xb,xg⟩) (G0 ⟨xb,xg⟩) 0=V:=by rw [ch345 HK.out,if_neg HC.out,<- HF0.out,HV.out]
     have HF:Hid (RetIl w (([D0]:List (List Nat)).flatten++[chN fsQ k xb (ownN id LL k s t ⟨xb,xg⟩) (G0 ⟨xb,xg⟩) 0]) (.returned v8) w8):=⟨v8,rfl,by rw [<- HOW2.out.2.2,hln,hrs];exact own_downI hp8 S2.out.bel.size,((S9.out.keep HBx.out).bel.alloc (S9.out.keep HBx.out).bel.size _).grown hg8 (by have:=(S9.out.keep HBx.out).bel.size;simp;omega) (fun g e=>Nat.le_trans S2.out.bel.size (own_lt HOx.out g e).1)⟩
     have hsh:=own_shapeI hp8
     clear hp8 hg8 hln hrs
     obtain ⟨a8,c8,rfl⟩:=hsh
     go_wp2
     go_ret
     exact HF.out
  ·have HBx:Hid (Below wr.heap.size wr wr):=Below.refl _ _
   have HOx:Hid (wr.ownsRow w2.heap.size 2 1 u9 DL.length (il DL)):=own_below HOW2.out.1 HBx.out
   have hDLl:=HOW2.out.2.1
   have hzx:w2.heap.size<=wr.heap.size:=Nat.le_trans hzr HBx.out.size
   go_wp2_with (at_builtin;refine app_il rfl _ _ rfl w2.heap.size u9 DL 0 rfl HOx.out rfl (by omega) hzx ?_)
   intro v8 w8 hp8 hg8
   have hln:(DL++[chN fsQ 9 xb (ownN id LL 9 s t ⟨xb,xg⟩) (G0 y) 0]).length=DL.length+1:=by simp
   have hrs:chN fsQ 9 xb (ownN id LL 9 s t ⟨xb,xg⟩) (G0 y) 0=0:=rfl
   have HF:Hid (RetIl w (([D0]:List (List Nat)).flatten++[chN fsQ 9 xb (ownN id LL 9 s t ⟨xb,xg⟩) (G0 y) 0]) (.returned v8) w8):=⟨v8,rfl,by rw [<- HOW2.out.2.2,hln,hrs];exact own_downI hp8 S2.out.bel.size,((S9.out.keep HBx.out).bel.alloc (S9.out.keep HBx.out).bel.size _).grown hg8 (by have:=(S9.out.keep HBx.out).bel.size;simp;omega) (fun g e=>Nat.le_trans S2.out.bel.size (own_lt HOx.out g e).1)⟩
   have hsh:=own_shapeI hp8
   clear hp8 hg8 hln hrs
   obtain ⟨a8,c8,rfl⟩:=hsh
   go_wp2
   go_ret
   exact HF.out
set_option maxHeartbeats 8000000 in
theorem def_c (ns:Value) (k:Int) (hk:k=6\/k=7\/k=8) (next:Int) (a:Option Addr) (n c:Nat) (qa:Option Addr) (ll qc:Nat) (LL:List Qd) (id:ByteArray->Int) (xb:Bool) (xg:Int) (s t:ByteArray) (a0:Option Addr) (l0 k0:Nat) (a1:Option Addr) (l1 k1:Nat) (G0:Cx->Nat) (D0:List Nat) (G1:Cx->Nat) (D1:List Nat) (w:World) (y:Cx) (hy:y=dnC id k s ⟨xb,xg⟩) (hns:∃na nl nc,ns=.slice na nl nc) (hT:TidC w next a n c id) (hq:RdQ w qa LL) (hll:ll=LL.length) (hl3:ll<=300) (hR:RtA w ns k s t [.slice a0 l0 k0,.slice a1 l1 k1]) (hg0:KidG w (.slice a0 l0 k0) next a n c qa ll qc G0) (hd0:KidD w (.slice a0 l0 k0) next a n c qa ll qc y D0) (hg1:KidG w (.slice a1 l1 k1) next a n c qa ll qc G1) (hd1:KidD w (.slice a1 l1 k1) next a n c qa ll qc y D1) :
  Calls Tryz.prog 27 #[ns,.agg #[.int .i64 next,.slice a n c,.slice qa ll qc],.agg #[.bool xb,.int .i64 xg]] w (RetIl w (([D0,D1]:List (List Nat)).flatten++[chN fsQ k xb (ownN id LL k s t ⟨xb,xg⟩) (G0 y) (G1 y)])):=by
 obtain ⟨na,nl,nc,rfl⟩:=hns
 have HR:Hid (RtA w (.slice na nl nc) k s t [.slice a0 l0 k0,.slice a1 l1 k1]):=hR
 have HBW:Hid (∀W,Below w.heap.size w W->Calls Tryz.prog 57 #[.agg #[.bool xb,.int .i64 xg],.agg #[.int .i64 next,.slice a n c,.slice qa ll qc],.agg #[.int .i64 k,.string s,.string t]] W fun e w'=>e=.returned (.agg #[.bool y.b,.int .i64 y.g])/\Below W.heap.size W w'):=fun W hW=>by rw [hy];exact l6Below_any next a n c qa ll qc id ⟨xb,xg⟩ k s t W (hT.below hW)
 have HOW:Hid (∀W,Below w.heap.size w W->Calls Tryz.prog 61 #[.agg #[.int .i64 k,.string s,.string t],.agg #[.int .i64 next,.slice a n c,.slice qa ll qc],.agg #[.bool xb,.int .i64 xg]] W fun e w'=>e=.returned (.int .i64 (ownN id LL k s t ⟨xb,xg⟩:Int))/\Below W.heap.size W w'):=fun W hW=>l6Own_any next a n c qa ll qc LL id ⟨xb,xg⟩ k s t W (hT.below hW) (hq.below hW) hll hl3
 have HG0:Hid (KidG w (.slice a0 l0 k0) next a n c qa ll qc G0):=hg0
 have HD0:Hid (KidD w (.slice a0 l0 k0) next a n c qa ll qc y D0):=hd0
 have HG1:Hid (KidG w (.slice a1 l1 k1) next a n c qa ll qc G1):=hg1
 have HD1:Hid (KidD w (.slice a1 l1 k1) next a n c qa ll qc y D1):=hd1
 clear hg0 hd0 hg1 hd1
 have HY:Hid (y=dnC id k s ⟨xb,xg⟩):=hy
 clear hR hT hq hll hy
 obtain ⟨W0,hW0⟩:∃W0,W0=(w.alloc (.cells #[.int .i64 next,.slice a n c,.slice qa ll qc] 70)).alloc (.cells #[.bool xb,.int .i64 xg] 72):=⟨_,rfl⟩
 have hb1:Bx W0 w.heap.size 70 #[.int .i64 next,.slice a n c,.slice qa ll qc]:=by
  rw [hW0]
  exact (Bx.new w #[.int .i64 next,.slice a n c,.slice qa ll qc] 70).alloc _
 have hb2:Bx W0 (w.heap.size+1) 72 #[.bool xb,.int .i64 xg]:=by
  rw [hW0]
  have b2:=Bx.new (w.alloc (.cells #[.int .i64 next,.slice a n c,.slice qa ll qc] 70)) #[.bool xb,.int .i64 xg] 72
  simp only [World.size_alloc] at b2
  exact b2
 have hbw:Below w.heap.size w W0:=by rw [hW0];exact (below_alloc _ _).alloc (by simp) _
 have S0:Hid (Bx W0 w.heap.size 70 #[.int .i64 next,.slice a n c,.slice qa ll qc]/\Bx W0 (w.heap.size+1) 72 #[.bool xb,.int .i64 xg]/\Below w.heap.size w W0):=⟨hb1,hb2,hbw⟩
 clear hb1 hb2 hbw
 go_enter Tryz.func27,Tryz.ntmps27
 go_upto_region 1 with fail
 rw [<- hW0]
 clear hW0
 go_wp2_with fail
 refine (HR.out.1 W0 S0.out.2.2).mono ?_
 rintro e w1 ⟨rfl,hb1⟩
 obtain ⟨W1,hW1⟩:∃W1,W1=w1.alloc (.cells #[.int .i64 k,.string s,.string t] 83):=⟨_,rfl⟩
 have hbb:Below w1.heap.size w1 W1:=by rw [hW1];exact below_alloc _ _
 have hb01:Below W0.heap.size W0 W1:=hb1.trans (hbb.mono hb1.size)
 have S1:Hid (Bx W1 w.heap.size 70 #[.int .i64 next,.slice a n c,.slice qa ll qc]/\Bx W1 (w.heap.size+1) 72 #[.bool xb,.int .i64 xg]/\Bx W1 w1.heap.size 83 #[.int .i64 k,.string s,.string t]/\Below w.heap.size w W1):=⟨(hb01.block _ S0.out.1.lt).trans S0.out.1,(hb01.block _ S0.out.2.1.lt).trans S0.out.2.1,by rw [hW1];exact Bx.new _ _ _,S0.out.2.2.trans (hb01.mono S0.out.2.2.size)⟩
 clear hb1 hbb hb01 S0
 go_upto_region 2 with fail
 rw [<- hW1]
 clear hW1
 generalize w1.heap.size=nb at*
 go_wp2_with fail
 refine (HR.out.2 W1 S1.out.2.2.2).mono ?_
 rintro e w2 ⟨go,cpo,rfl,hkd,hb2⟩
 have S2:Hid (DfS w w2 next a n c qa ll qc xb xg k s t [.slice a0 l0 k0,.slice a1 l1 k1] nb go):=⟨(hb2.block _ S1.out.1.lt).trans S1.out.1,(hb2.block _ S1.out.2.1.lt).trans S1.out.2.1,(hb2.block _ S1.out.2.2.1.lt).trans S1.out.2.2.1,hkd,S1.out.2.2.2.trans (hb2.mono S1.out.2.2.2.size)⟩
 clear hkd hb2 S1 HR
 try simp only [List.length_cons,List.length_nil,Nat.zero_add,Nat.reduceAdd]
 go_wp2
 go_loopw [9,10] (fun u i wr=>∃j:Nat,j<=2/\i=.int .i64 (j:Int)/\wr.ownsRow w2.heap.size 2 1 u ((([D0,D1]:List (List Nat)).take j).flatten).length (il ((([D0,D1]:List (List Nat)).take j).flatten))/\Below w2.heap.size w2 wr) (fun _ i _=>2-(intOf i).toNat)
 case atStart=>exact ⟨0,Nat.zero_le _,rfl,own_empty w2 2 w2.heap.size 1 (Nat.le_refl _),below_alloc _ _⟩
 case round=>
  obtain ⟨j,hj,rfl,hown,hbel⟩:=hrel
  have HO:Hid (wr.ownsRow w2.heap.size 2 1 u9 ((([D0,D1]:List (List Nat)).take j).flatten).length (il ((([D0,D1]:List (List Nat)).take j).flatten))/\Below w2.heap.size w2 wr):=⟨hown,hbel⟩
  have hzr:=hbel.size
  clear hown hbel
  have S9:Hid (DfS w wr next a n c qa ll qc xb xg k s t [.slice a0 l0 k0,.slice a1 l1 k1] nb go):=S2.out.keep HO.out.2
  obtain ⟨⟨z0,z1,z2⟩,⟨z3,z4⟩,⟨z5,z6,z7⟩⟩:=S9.out.cells
  by_cases hlt:j<2
  ·have hj01:j=0\/j=1:=by omega
   rcases hj01 with rfl|rfl
   ·have ho0:wr.drew.ownsRow w2.heap.size 2 1 u9 ([]:List Nat).length (il []):=by
     have q:=own_below HO.out.1 (Below.refl wr.heap.size wr).drew
     simpa using q
    go_wp2
    refine wp_region_late (S:=fun W=>Below w2.heap.size w2 W) 12 (by kernel_rfl) HO.out.2.drew (fun hHeld=>?_)
    clear z0 z1 z2 z3 z4 z5 z6 z7 S9
    generalize wr.drew=W at hHeld ho0 ⊢
    refine tk 0 .zero (v:=u9) (fun w' h=>by clear h;go_simp) ?_
    simp only [tkp]
    refine tk 1 (.succ .zero) (v:=.slice (some ⟨go,0,none⟩) 2 cpo) (fun w' h=>by clear h;go_simp) ?_
    simp only [tkp]
    refine tk 2 (.succ (.succ .zero)) (v:=.int .i64 0) (fun w' h=>by clear h;go_simp) ?_
    simp only [tkp]
    refine tk 3 (.succ (.succ (.succ .zero))) (v:=.pointer (some ⟨go,0,none⟩)) (fun w' h=>by clear h;go_simp) ?_
    simp only [tkp]
    refine tk 4 (.succ (.succ (.succ (.succ .zero)))) (v:=.slice a0 l0 k0) (fun w' h=>by have q:=(S2.out.keep h).kd 0 _ rfl;clear h;go_simp) ?_
    simp only [tkp]
    refine tk 5 (.s5 .zero) (v:=.agg #[.int .i64 next,.slice a n c,.slice qa ll qc]) (fun w' h=>by obtain ⟨⟨q0,q1,q2⟩,⟨q3,q4⟩,⟨q5,q6,q7⟩⟩:=(S2.out.keep h).cells;clear h;go_simp) ?_
    simp only [tkp]
    refine tk 6 (.s5 (.succ .zero)) (v:=.agg #[.bool xb,.int .i64 xg]) (fun w' h=>by obtain ⟨⟨q0,q1,q2⟩,⟨q3,q4⟩,⟨q5,q6,q7⟩⟩:=(S2.out.keep h).cells;clear h;go_simp) ?_
    simp only [tkp]
    refine tk 7 (.s5 (.succ (.succ .zero))) (v:=.agg #[.int .i64 next,.slice a n c,.slice qa ll qc]) (fun w' h=>by obtain ⟨⟨q0,q1,q2⟩,⟨q3,q4⟩,⟨q5,q6,q7⟩⟩:=(S2.out.keep h).cells;clear h;go_simp) ?_
    simp only [tkp]
    refine tk 8 (.s5 (.succ (.succ (.succ .zero)))) (v:=.agg #[.int .i64 k,.string s,.string t]) (fun w' h=>by obtain ⟨⟨q0,q1,q2⟩,⟨q3,q4⟩,⟨q5,q6,q7⟩⟩:=(S2.out.keep h).cells;clear h;go_simp) ?_
    simp only [tkp]
    refine tk1 9 (.s5 (.succ (.succ (.succ (.succ .zero))))) (fun K hK=>?_)
    refine step_h3 rfl 57 30 31 32 _ rfl (.agg #[.bool xb,.int .i64 xg]) (.agg #[.int .i64 next,.slice a n c,.slice qa ll qc]) (.agg #[.int .i64 k,.string s,.string t]) rfl rfl rfl (fun _ _=>rfl) ?_
    refine (HBW.out W (S2.out.keep hHeld).bel).mono ?_
    rintro e w5 ⟨rfl,hbm⟩
    have hb5:Below w2.heap.size w2 w5:=hHeld.trans (hbm.mono hHeld.size)
    refine ⟨_,rfl,hK.out _ _ (fun _=>hb5) (fun hG=>?_)⟩
    clear hK K hG
    have ho5:=own_below ho0 hbm
    clear hbm hHeld ho0
    simp only [tkp]
    refine tk1 10 (.s5 (.s5 .zero)) (fun K hK=>?_)
    refine step_h3 rfl 27 28 29 33 _ rfl (.slice a0 l0 k0) (.agg #[.int .i64 next,.slice a n c,.slice qa ll qc]) (.agg #[.bool y.b,.int .i64 y.g]) rfl rfl rfl (fun _ _=>rfl) ?_
    refine (HD0.out.2.2 w5 (S2.out.keep hb5).bel).mono ?_
    rintro e w6 ⟨vd,rfl,hod,hbm⟩
    have hb6:Below w2.heap.size w2 w6:=hb5.trans (hbm.mono hb5.size)
    refine ⟨_,rfl,hK.out _ _ (fun _=>hb6) (fun hG=>?_)⟩
    clear hK K hG
    have ho6:=own_below ho5 hbm
    clear hbm hb5 ho5
    simp only [tkp]
    have hl0:=HD0.out.2.1
    refine tk1 11 (.s5 (.s5 (.succ .zero))) (fun K hK=>?_)
    refine step_il rfl (.tmp 24) (.tmp 34) rfl w2.heap.size w5.heap.size u9 vd [] D0 rfl ho6 rfl hod HD0.out.1 (by first|(simp;done)|(simp;omega)|omega) hb6.size ?_
    intro v7 w7 hp7 hg7
    have hb7:Below w2.heap.size w2 w7:=hb6.grown hg7 hb6.size (fun g e=>(own_lt ho6 g e).1)
    refine hK.out _ _ (fun _=>hb7) (fun hG=>?_)
    clear hK K hG hg7 ho6 hod hb6
    simp only [tkp]
    refine tk1 12 (.s5 (.s5 (.succ (.succ .zero)))) (fun K hK=>?_)
    go_simp
    refine hK.out _ _ (fun hne=>absurd rfl hne) (fun hG=>?_)
    clear hK K hG
    refine wpLate_done (by kernel_rfl) ?_ _
    have HX7:Hid (w7.ownsRow w2.heap.size 2 1 v7 ((([D0,D1]:List (List Nat)).take 1).flatten).length (il ((([D0,D1]:List (List Nat)).take 1).flatten))/\Below w2.heap.size w2 w7):=⟨by simpa using hp7,hb7⟩
    clear hp7 hb7
    go_wp2
    go_roundw
    case rel=>exact ⟨1,by omega,by go_num,HX7.out⟩
    case measure=>simp [intOf];try omega
   ·have ho0:wr.drew.ownsRow w2.heap.size 2 1 u9 (D0:List Nat).length (il D0):=by
     have q:=own_below HO.out.1 (Below.refl wr.heap.size wr).drew
     simpa using q
    go_wp2
    refine wp_region_late (S:=fun W=>Below w2.heap.size w2 W) 12 (by kernel_rfl) HO.out.2.drew (fun hHeld=>?_)
    clear z0 z1 z2 z3 z4 z5 z6 z7 S9
    generalize wr.drew=W at hHeld ho0 ⊢
    refine tk 0 .zero (v:=u9) (fun w' h=>by clear h;go_simp) ?_
    simp only [tkp]
    refine tk 1 (.succ .zero) (v:=.slice (some ⟨go,0,none⟩) 2 cpo) (fun w' h=>by clear h;go_simp) ?_
    simp only [tkp]
    refine tk 2 (.succ (.succ .zero)) (v:=.int .i64 1) (fun w' h=>by clear h;go_simp) ?_
    simp only [tkp]
    refine tk 3 (.succ (.succ (.succ .zero))) (v:=.pointer (some ⟨go,1,none⟩)) (fun w' h=>by clear h;go_simp) ?_
    simp only [tkp]
    refine tk 4 (.succ (.succ (.succ (.succ .zero)))) (v:=.slice a1 l1 k1) (fun w' h=>by have q:=(S2.out.keep h).kd 1 _ rfl;clear h;go_simp) ?_
    simp only [tkp]
    refine tk 5 (.s5 .zero) (v:=.agg #[.int .i64 next,.slice a n c,.slice qa ll qc]) (fun w' h=>by obtain ⟨⟨q0,q1,q2⟩,⟨q3,q4⟩,⟨q5,q6,q7⟩⟩:=(S2.out.keep h).cells;clear h;go_simp) ?_
    simp only [tkp]
    refine tk 6 (.s5 (.succ .zero)) (v:=.agg #[.bool xb,.int .i64 xg]) (fun w' h=>by obtain ⟨⟨q0,q1,q2⟩,⟨q3,q4⟩,⟨q5,q6,q7⟩⟩:=(S2.out.keep h).cells;clear h;go_simp) ?_
    simp only [tkp]
    refine tk 7 (.s5 (.succ (.succ .zero))) (v:=.agg #[.int .i64 next,.slice a n c,.slice qa ll qc]) (fun w' h=>by obtain ⟨⟨q0,q1,q2⟩,⟨q3,q4⟩,⟨q5,q6,q7⟩⟩:=(S2.out.keep h).cells;clear h;go_simp) ?_
    simp only [tkp]
    refine tk 8 (.s5 (.succ (.succ (.succ .zero)))) (v:=.agg #[.int .i64 k,.string s,.string t]) (fun w' h=>by obtain ⟨⟨q0,q1,q2⟩,⟨q3,q4⟩,⟨q5,q6,q7⟩⟩:=(S2.out.keep h).cells;clear h;go_simp) ?_
    simp only [tkp]
    refine tk1 9 (.s5 (.succ (.succ (.succ (.succ .zero))))) (fun K hK=>?_)
    refine step_h3 rfl 57 30 31 32 _ rfl (.agg #[.bool xb,.int .i64 xg]) (.agg #[.int .i64 next,.slice a n c,.slice qa ll qc]) (.agg #[.int .i64 k,.string s,.string t]) rfl rfl rfl (fun _ _=>rfl) ?_
    refine (HBW.out W (S2.out.keep hHeld).bel).mono ?_
    rintro e w5 ⟨rfl,hbm⟩
    have hb5:Below w2.heap.size w2 w5:=hHeld.trans (hbm.mono hHeld.size)
    refine ⟨_,rfl,hK.out _ _ (fun _=>hb5) (fun hG=>?_)⟩
    clear hK K hG
    have ho5:=own_below ho0 hbm
    clear hbm hHeld ho0
    simp only [tkp]
    refine tk1 10 (.s5 (.s5 .zero)) (fun K hK=>?_)
    refine step_h3 rfl 27 28 29 33 _ rfl (.slice a1 l1 k1) (.agg #[.int .i64 next,.slice a n c,.slice qa ll qc]) (.agg #[.bool y.b,.int .i64 y.g]) rfl rfl rfl (fun _ _=>rfl) ?_
    refine (HD1.out.2.2 w5 (S2.out.keep hb5).bel).mono ?_
    rintro e w6 ⟨vd,rfl,hod,hbm⟩
    have hb6:Below w2.heap.size w2 w6:=hb5.trans (hbm.mono hb5.size)
    refine ⟨_,rfl,hK.out _ _ (fun _=>hb6) (fun hG=>?_)⟩
    clear hK K hG
    have ho6:=own_below ho5 hbm
    clear hbm hb5 ho5
    simp only [tkp]
    have hl1:=HD1.out.2.1
    have hl0:=HD0.out.2.1
    refine tk1 11 (.s5 (.s5 (.succ .zero))) (fun K hK=>?_)
    refine step_il rfl (.tmp 24) (.tmp 34) rfl w2.heap.size w5.heap.size u9 vd D0 D1 rfl ho6 rfl hod HD1.out.1 (by first|(simp;done)|(simp;omega)|omega) hb6.size ?_
    intro v7 w7 hp7 hg7
    have hb7:Below w2.heap.size w2 w7:=hb6.grown hg7 hb6.size (fun g e=>(own_lt ho6 g e).1)
    refine hK.out _ _ (fun _=>hb7) (fun hG=>?_)
    clear hK K hG hg7 ho6 hod hb6
    simp only [tkp]
    refine tk1 12 (.s5 (.s5 (.succ (.succ .zero)))) (fun K hK=>?_)
    go_simp
    refine hK.out _ _ (fun hne=>absurd rfl hne) (fun hG=>?_)
    clear hK K hG
    refine wpLate_done (by kernel_rfl) ?_ _
    have HX7:Hid (w7.ownsRow w2.heap.size 2 1 v7 ((([D0,D1]:List (List Nat)).take 2).flatten).length (il ((([D0,D1]:List (List Nat)).take 2).flatten))/\Below w2.heap.size w2 w7):=⟨by simpa using hp7,hb7⟩
    clear hp7 hb7
    go_wp2
    go_roundw
    case rel=>exact ⟨2,by omega,by go_num,HX7.out⟩
    case measure=>simp [intOf];try omega
  obtain rfl:j=2:=by omega
  obtain ⟨DL,hDL⟩:∃DL,DL=([D0,D1]:List (List Nat)).flatten:=⟨_,rfl⟩
  have HOW2:Hid (wr.ownsRow w2.heap.size 2 1 u9 DL.length (il DL)/\DL.length<=3000/\DL=([D0,D1]:List (List Nat)).flatten):=by
   have q:=HO.out.1
   rw [show ([D0,D1]:List (List Nat)).take 2=[D0,D1] from rfl,<- hDL] at q
   refine ⟨q,?_,hDL⟩
   rw [hDL]
   have h0:=HD0.out.2.1;have h1:=HD1.out.2.1;simp;omega
  clear hDL HO hlt
  have zk0:wr.cell? ⟨go,0,none⟩=some (.slice a0 l0 k0):=S9.out.kd 0 _ rfl
  have zk1:wr.cell? ⟨go,1,none⟩=some (.slice a1 l1 k1):=S9.out.kd 1 _ rfl
  rcases hk with rfl|hk
  ·have hyc:y=⟨xb,xg⟩:=by rw [HY.out];rfl
   clear HY
   subst hyc
   by_cases hcmp:G1 ⟨xb,xg⟩<G0 ⟨xb,xg⟩
   ·have HC:Hid (G1 ⟨xb,xg⟩<G0 ⟨xb,xg⟩):=hcmp
    have hcI:(G1 ⟨xb,xg⟩:Int)<(G0 ⟨xb,xg⟩:Int):=by omega
    clear hcmp
    go_upto_region 20 with fail
    refine wp_region_lateT (S:=fun W=>Below wr.heap.size wr W) 12 (by kernel_rfl) (Below.refl _ _).drew (fun W hHeld=>?_)
    refine tk 0 .zero (v:=.slice (some ⟨go,0,none⟩) 2 cpo) (fun w' h=>by clear h;go_simp) ?_
    simp only [tkp]
    refine tk 1 (.succ .zero) (v:=.pointer (some ⟨go,0,none⟩)) (fun w' h=>by clear h;go_simp) ?_
    simp only [tkp]
    refine tk 2 (.succ (.succ .zero)) (v:=.slice a0 l0 k0) (fun w' h=>by have q:=(S9.out.keep h).kd 0 _ rfl;clear h;go_simp) ?_
    simp only [tkp]
    refine tk 3 (.succ (.succ (.succ .zero))) (v:=.agg #[.int .i64 next,.slice a n c,.slice qa ll qc]) (fun w' h=>by obtain ⟨⟨q0,q1,q2⟩,⟨q3,q4⟩,⟨q5,q6,q7⟩⟩:=(S9.out.keep h).cells;clear h;go_simp) ?_
    simp only [tkp]
    refine tk 4 (.succ (.succ (.succ (.succ .zero)))) (v:=.agg #[.bool xb,.int .i64 xg]) (fun w' h=>by obtain ⟨⟨q0,q1,q2⟩,⟨q3,q4⟩,⟨q5,q6,q7⟩⟩:=(S9.out.keep h).cells;clear h;go_simp) ?_
    simp only [tkp]
    refine tk 6 (.s5 (.succ .zero)) (v:=.slice (some ⟨go,0,none⟩) 2 cpo) (fun w' h=>by clear h;go_simp) ?_
    simp only [tkp]
    refine tk 7 (.s5 (.succ (.succ .zero))) (v:=.pointer (some ⟨go,1,none⟩)) (fun w' h=>by clear h;go_simp) ?_
    simp only [tkp]
    refine tk 8 (.s5 (.succ (.succ (.succ .zero)))) (v:=.slice a1 l1 k1) (fun w' h=>by have q:=(S9.out.keep h).kd 1 _ rfl;clear h;go_simp) ?_
    simp only [tkp]
    refine tk 9 (.s5 (.succ (.succ (.succ (.succ .zero))))) (v:=.agg #[.int .i64 next,.slice a n c,.slice qa ll qc]) (fun w' h=>by obtain ⟨⟨q0,q1,q2⟩,⟨q3,q4⟩,⟨q5,q6,q7⟩⟩:=(S9.out.keep h).cells;clear h;go_simp) ?_
    simp only [tkp]
    refine tk 10 (.s5 (.s5 .zero)) (v:=.agg #[.bool xb,.int .i64 xg]) (fun w' h=>by obtain ⟨⟨q0,q1,q2⟩,⟨q3,q4⟩,⟨q5,q6,q7⟩⟩:=(S9.out.keep h).cells;clear h;go_simp) ?_
    simp only [tkp]
    refine tk1 5 (.s5 .zero) (fun K hK=>?_)
    refine step_h3 rfl 60 75 76 77 _ rfl (.slice a0 l0 k0) (.agg #[.int .i64 next,.slice a n c,.slice qa ll qc]) (.agg #[.bool xb,.int .i64 xg]) rfl rfl rfl (fun _ _=>rfl) ?_
    refine (HG0.out W ⟨xb,xg⟩ (S9.out.keep hHeld).bel).mono ?_
    rintro e w5 ⟨rfl,hbm⟩
    have hb5:Below wr.heap.size wr w5:=hHeld.trans (hbm.mono hHeld.size)
    refine ⟨_,rfl,hK.out _ _ (fun _=>hb5) (fun hG=>?_)⟩
    clear hK K hG hbm
    simp only [tkp]
    refine tk1 11 (.s5 (.s5 (.succ .zero))) (fun K hK=>?_)
    refine step_h3 rfl 60 81 82 83 _ rfl (.slice a1 l1 k1) (.agg #[.int .i64 next,.slice a n c,.slice qa ll qc]) (.agg #[.bool xb,.int .i64 xg]) rfl rfl rfl (fun _ _=>rfl) ?_
    refine (HG1.out w5 ⟨xb,xg⟩ (S9.out.keep hb5).bel).mono ?_
    rintro e w6 ⟨rfl,hbm⟩
    have hb6:Below wr.heap.size wr w6:=hb5.trans (hbm.mono hb5.size)
    refine ⟨_,rfl,hK.out _ _ (fun _=>hb6) (fun hG=>?_)⟩
    clear hK K hG hbm
    simp only [tkp]
    refine tk1 12 (.s5 (.s5 (.succ (.succ .zero)))) (fun K hK=>?_)
    go_simp
    refine hK.out _ _ (fun hne=>absurd rfl hne) (fun hG=>?_)
    clear hK K hG
    refine wpLate_done (by kernel_rfl) ?_ _
    have HB6:Hid (Below wr.heap.size wr w6):=hb6
    clear z0 z1 z2 z3 z4 z5 z6 z7
    obtain ⟨⟨z0,z1,z2⟩,⟨z3,z4⟩,⟨z5,z6,z7⟩⟩:=(S9.out.keep hb6).cells
    have HBx:Hid (Below wr.heap.size wr w6):=HB6.out
    have HOx:Hid (w6.ownsRow w2.heap.size 2 1 u9 DL.length (il DL)):=own_below HOW2.out.1 HBx.out
    have hDLl:=HOW2.out.2.1
    have hzx:w2.heap.size<=w6.heap.size:=Nat.le_trans hzr HBx.out.size
    go_wp2_with (at_builtin;refine app_il rfl _ _ rfl w2.heap.size u9 DL 1 rfl HOx.out rfl (by omega) hzx ?_)
    intro v8 w8 hp8 hg8
    have hln:(DL++[chN fsQ 6 xb (ownN id LL 6 s t ⟨xb,xg⟩) (G0 ⟨xb,xg⟩) (G1 ⟨xb,xg⟩)]).length=DL.length+1:=by simp
    have hrs:chN fsQ 6 xb (ownN id LL 6 s t ⟨xb,xg⟩) (G0 ⟨xb,xg⟩) (G1 ⟨xb,xg⟩)=1:=by rw [show chN fsQ 6 xb (ownN id LL 6 s t ⟨xb,xg⟩) (G0 ⟨xb,xg⟩) (G1 ⟨xb,xg⟩)=(if G1 ⟨xb,xg⟩<G0 ⟨xb,xg⟩ then 1 else 0) from rfl,if_pos HC.out]
    have HF:Hid (RetIl w (([D0,D1]:List (List Nat)).flatten++[chN fsQ 6 xb (ownN id LL 6 s t ⟨xb,xg⟩) (G0 ⟨xb,xg⟩) (G1 ⟨xb,xg⟩)]) (.returned v8) w8):=⟨v8,rfl,by rw [<- HOW2.out.2.2,hln,hrs];exact own_downI hp8 S2.out.bel.size,((S9.out.keep HBx.out).bel.alloc (S9.out.keep HBx.out).bel.size _).grown hg8 (by have:=(S9.out.keep HBx.out).bel.size;simp;omega) (fun g e=>Nat.le_trans S2.out.bel.size (own_lt HOx.out g e).1)⟩
    have hsh:=own_shapeI hp8
    clear hp8 hg8 hln hrs
    obtain ⟨a8,c8,rfl⟩:=hsh
    go_wp2
    go_ret
    exact HF.out
   ·have HC:Hid (¬ G1 ⟨xb,xg⟩<G0 ⟨xb,xg⟩):=hcmp
    have hcI:¬ (G1 ⟨xb,xg⟩:Int)<(G0 ⟨xb,xg⟩:Int):=by omega
    clear hcmp
    go_upto_region 20 with fail
    refine wp_region_lateT (S:=fun W=>Below wr.heap.size wr W) 12 (by kernel_rfl) (Below.refl _ _).drew (fun W hHeld=>?_)
    refine tk 0 .zero (v:=.slice (some ⟨go,0,none⟩) 2 cpo) (fun w' h=>by clear h;go_simp) ?_
    simp only [tkp]
    refine tk 1 (.succ .zero) (v:=.pointer (some ⟨go,0,none⟩)) (fun w' h=>by clear h;go_simp) ?_
    simp only [tkp]
    refine tk 2 (.succ (.succ .zero)) (v:=.slice a0 l0 k0) (fun w' h=>by have q:=(S9.out.keep h).kd 0 _ rfl;clear h;go_simp) ?_
    simp only [tkp]
    refine tk 3 (.succ (.succ (.succ .zero))) (v:=.agg #[.int .i64 next,.slice a n c,.slice qa ll qc]) (fun w' h=>by obtain ⟨⟨q0,q1,q2⟩,⟨q3,q4⟩,⟨q5,q6,q7⟩⟩:=(S9.out.keep h).cells;clear h;go_simp) ?_
    simp only [tkp]
    refine tk 4 (.succ (.succ (.succ (.succ .zero)))) (v:=.agg #[.bool xb,.int .i64 xg]) (fun w' h=>by obtain ⟨⟨q0,q1,q2⟩,⟨q3,q4⟩,⟨q5,q6,q7⟩⟩:=(S9.out.keep h).cells;clear h;go_simp) ?_
    simp only [tkp]
    refine tk 6 (.s5 (.succ .zero)) (v:=.slice (some ⟨go,0,none⟩) 2 cpo) (fun w' h=>by clear h;go_simp) ?_
    simp only [tkp]
    refine tk 7 (.s5 (.succ (.succ .zero))) (v:=.pointer (some ⟨go,1,none⟩)) (fun w' h=>by clear h;go_simp) ?_
    simp only [tkp]
    refine tk 8 (.s5 (.succ (.succ (.succ .zero)))) (v:=.slice a1 l1 k1) (fun w' h=>by have q:=(S9.out.keep h).kd 1 _ rfl;clear h;go_simp) ?_
    simp only [tkp]
    refine tk 9 (.s5 (.succ (.succ (.succ (.succ .zero))))) (v:=.agg #[.int .i64 next,.slice a n c,.slice qa ll qc]) (fun w' h=>by obtain ⟨⟨q0,q1,q2⟩,⟨q3,q4⟩,⟨q5,q6,q7⟩⟩:=(S9.out.keep h).cells;clear h;go_simp) ?_
    simp only [tkp]
    refine tk 10 (.s5 (.s5 .zero)) (v:=.agg #[.bool xb,.int .i64 xg]) (fun w' h=>by obtain ⟨⟨q0,q1,q2⟩,⟨q3,q4⟩,⟨q5,q6,q7⟩⟩:=(S9.out.keep h).cells;clear h;go_simp) ?_
    simp only [tkp]
    refine tk1 5 (.s5 .zero) (fun K hK=>?_)
    refine step_h3 rfl 60 75 76 77 _ rfl (.slice a0 l0 k0) (.agg #[.int .i64 next,.slice a n c,.slice qa ll qc]) (.agg #[.bool xb,.int .i64 xg]) rfl rfl rfl (fun _ _=>rfl) ?_
    refine (HG0.out W ⟨xb,xg⟩ (S9.out.keep hHeld).bel).mono ?_
    rintro e w5 ⟨rfl,hbm⟩
    have hb5:Below wr.heap.size wr w5:=hHeld.trans (hbm.mono hHeld.size)
    refine ⟨_,rfl,hK.out _ _ (fun _=>hb5) (fun hG=>?_)⟩
    clear hK K hG hbm
    simp only [tkp]
    refine tk1 11 (.s5 (.s5 (.succ .zero))) (fun K hK=>?_)
    refine step_h3 rfl 60 81 82 83 _ rfl (.slice a1 l1 k1) (.agg #[.int .i64 next,.slice a n c,.slice qa ll qc]) (.agg #[.bool xb,.int .i64 xg]) rfl rfl rfl (fun _ _=>rfl) ?_
    refine (HG1.out w5 ⟨xb,xg⟩ (S9.out.keep hb5).bel).mono ?_
    rintro e w6 ⟨rfl,hbm⟩
    have hb6:Below wr.heap.size wr w6:=hb5.trans (hbm.mono hb5.size)
    refine ⟨_,rfl,hK.out _ _ (fun _=>hb6) (fun hG=>?_)⟩
    clear hK K hG hbm
    simp only [tkp]
    refine tk1 12 (.s5 (.s5 (.succ (.succ .zero)))) (fun K hK=>?_)
    go_simp
    refine hK.out _ _ (fun hne=>absurd rfl hne) (fun hG=>?_)
    clear hK K hG
    refine wpLate_done (by kernel_rfl) ?_ _
    have HB6:Hid (Below wr.heap.size wr w6):=hb6
    clear z0 z1 z2 z3 z4 z5 z6 z7
    obtain ⟨⟨z0,z1,z2⟩,⟨z3,z4⟩,⟨z5,z6,z7⟩⟩:=(S9.out.keep hb6).cells
    have HBx:Hid (Below wr.heap.size wr w6):=HB6.out
    have HOx:Hid (w6.ownsRow w2.heap.size 2 1 u9 DL.length (il DL)):=own_below HOW2.out.1 HBx.out
    have hDLl:=HOW2.out.2.1
    have hzx:w2.heap.size<=w6.heap.size:=Nat.le_trans hzr HBx.out.size
    go_wp2_with (at_builtin;refine app_il rfl _ _ rfl w2.heap.size u9 DL 0 rfl HOx.out rfl (by omega) hzx ?_)
    intro v8 w8 hp8 hg8
    have hln:(DL++[chN fsQ 6 xb (ownN id LL 6 s t ⟨xb,xg⟩) (G0 ⟨xb,xg⟩) (G1 ⟨xb,xg⟩)]).length=DL.length+1:=by simp
    have hrs:chN fsQ 6 xb (ownN id LL 6 s t ⟨xb,xg⟩) (G0 ⟨xb,xg⟩) (G1 ⟨xb,xg⟩)=0:=by rw [show chN fsQ 6 xb (ownN id LL 6 s t ⟨xb,xg⟩) (G0 ⟨xb,xg⟩) (G1 ⟨xb,xg⟩)=(if G1 ⟨xb,xg⟩<G0 ⟨xb,xg⟩ then 1 else 0) from rfl,if_neg HC.out]
    have HF:Hid (RetIl w (([D0,D1]:List (List Nat)).flatten++[chN fsQ 6 xb (ownN id LL 6 s t ⟨xb,xg⟩) (G0 ⟨xb,xg⟩) (G1 ⟨xb,xg⟩)]) (.returned v8) w8):=⟨v8,rfl,by rw [<- HOW2.out.2.2,hln,hrs];exact own_downI hp8 S2.out.bel.size,((S9.out.keep HBx.out).bel.alloc (S9.out.keep HBx.out).bel.size _).grown hg8 (by have:=(S9.out.keep HBx.out).bel.size;simp;omega) (fun g e=>Nat.le_trans S2.out.bel.size (own_lt HOx.out g e).1)⟩
    have hsh:=own_shapeI hp8
    clear hp8 hg8 hln hrs
    obtain ⟨a8,c8,rfl⟩:=hsh
    go_wp2
    go_ret
    exact HF.out
  ·have HK:Hid (k=7\/k=8):=hk
   rcases hk with hk|hk
   all_goals
    have e1:(k == 1)=false:=by rw [hk];rfl
    have e2:(k == 2)=false:=by rw [hk];rfl
    have e3:(k == 3)=false:=by rw [hk];rfl
    have e4:(k == 4)=false:=by rw [hk];rfl
    have e5:(k == 5)=false:=by rw [hk];rfl
    have e6:(k == 6)=false:=by rw [hk];rfl
    clear hk
    have HBx:Hid (Below wr.heap.size wr wr):=Below.refl _ _
    have HOx:Hid (wr.ownsRow w2.heap.size 2 1 u9 DL.length (il DL)):=own_below HOW2.out.1 HBx.out
    have hDLl:=HOW2.out.2.1
    have hzx:w2.heap.size<=wr.heap.size:=Nat.le_trans hzr HBx.out.size
    go_wp2_with (at_builtin;refine app_il rfl _ _ rfl w2.heap.size u9 DL 0 rfl HOx.out rfl (by omega) hzx ?_)
    intro v8 w8 hp8 hg8
    have hln:(DL++[chN fsQ k xb (ownN id LL k s t ⟨xb,xg⟩) (G0 y) (G1 y)]).length=DL.length+1:=by simp
    have hrs:chN fsQ k xb (ownN id LL k s t ⟨xb,xg⟩) (G0 y) (G1 y)=0:=ch78 HK.out
    have HF:Hid (RetIl w (([D0,D1]:List (List Nat)).flatten++[chN fsQ k xb (ownN id LL k s t ⟨xb,xg⟩) (G0 y) (G1 y)]) (.returned v8) w8):=⟨v8,rfl,by rw [<- HOW2.out.2.2,hln,hrs];exact own_downI hp8 S2.out.bel.size,((S9.out.keep HBx.out).bel.alloc (S9.out.keep HBx.out).bel.size _).grown hg8 (by have:=(S9.out.keep HBx.out).bel.size;simp;omega) (fun g e=>Nat.le_trans S2.out.bel.size (own_lt HOx.out g e).1)⟩
    have hsh:=own_shapeI hp8
    clear hp8 hg8 hln hrs
    obtain ⟨a8,c8,rfl⟩:=hsh
    go_wp2
    go_ret
    exact HF.out
end Go.Proofs.YtpaomghibppgkaaGreat
