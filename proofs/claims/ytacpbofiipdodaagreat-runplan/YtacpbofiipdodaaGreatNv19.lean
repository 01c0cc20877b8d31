import Derived.Test.YtacpbofiipdodaaGreatNv16
import Derived.Test.YtacpbofiipdodaaGreatNv18
set_option linter.unusedVariables false
set_option linter.unusedSimpArgs false
set_option maxRecDepth 100000
set_option maxHeartbeats 90000000
namespace Go.Proofs.YtacpbofiipdodaaGreat
open Go Go.Deep Go.RowKit
variable {I R:Nat->Int}{X:Nat->ByteArray}{n:Nat}{w:World}
def DM (n:Nat) (I:Nat->Int) (X:Nat->ByteArray) (x:ByteArray):Int:=
 match (List.range n).find? (λi=>decide (X i=x)) with
 | some i=>I i
 | none=>0
theorem I7 {next:Int} (hv:C8 next n I X R) (x:ByteArray):Rn n I X R next x (DM n I X x):=by
 refine⟨λ_=>?_,λh=>absurd hv h⟩;unfold DM;split
 .rename_i i hi
  have h1:=List.find?_some hi;have h2:=List.mem_of_find?_eq_some hi;exact .inl ⟨i,List.mem_range.1 h2,of_decide_eq_true h1,rfl⟩
 .rename_i hi
  refine .inr ⟨λi h e=>?_,rfl⟩;have:=List.find?_eq_none.1 hi i (List.mem_range.2 h);exact this (decide_eq_true e)
theorem TL {next:Int} {a:Option Addr} {c:Nat} (hv:C8 next n I X R) (h:E0 w a n I X R) (hn:n<=1048576):Jb w next a n c (DM n I X):=λW x hW=>by
 refine (Nf next a n c I X R x W (h.below hW) hn).mono ?_
 rintro e w' ⟨r,rfl,hid,hb⟩
 rw[hid.same (I7 hv x)]
 exact⟨rfl,hb⟩
theorem Md {k:Int} {s t:ByteArray} (h:Ke k s t=true):1<=k/\k<=9:=by
 unfold Ke at h;split at h;.omega
 .split at h;.omega
  .split at h;.omega
   .cases h
theorem Ly {ops:Array Oper} {o:Oper} {a:Act} {K:Act->World->Prop} {Q:Exit->Act->World->Prop} {E:Prop} (hw:Region.wanted o (yielded ops a.tmps)=true) (k:Nat) (i:Nat) (v:Value) (tys:Array TypeId)
  (ho:o.op=.call { callee:=.value (.func k),args:=#[.tmp i,.const v],argTypes:=tys }) (u:Value) (hx:a.tmps[i]?.getD undef=u) (heg:∀args w,(callFunc k args).run Tryz.prog w=.ok (.enter k args) w)
  (h:WS k #[u,v] w λe w'=>∃r,e=.returned r/\K (a.put o.dst r) w') :
  if Region.wanted o (yielded ops a.tmps)=true then Oper.wp Tryz.prog o a w K Q else E:=by rw[if_pos hw];unfold Oper.wp;simp[execOp,ho,resolve,invoke,hx,go_sem,heg];refine h.mono ?_;rintro e w' ⟨u,rfl,hk⟩;exact hk
structure Lm (w W:World) (pa:Option Addr) (n pc:Nat) (next:Int) (da:Option Addr) (dn dc:Nat) (xa:Option Addr) (xn xc:Nat):Prop where
 pb:Bx W w.heap.size 41 #[.slice pa n pc]
 db:Bx W (w.heap.size+1) 45 #[iv next,.slice da dn dc]
 xb:Bx W (w.heap.size+2) 49 #[.slice xa xn xc]
 bel:Bl w W
section
variable {w W W' : World} {pa:Option Addr} {n pc:Nat} {next:Int} {da:Option Addr} {dn dc:Nat} {xa:Option Addr} {xn xc:Nat}
theorem Lm.keep (h:Lm w W pa n pc next da dn dc xa xn xc) (hb:Bl W W'):Lm w W' pa n pc next da dn dc xa xn xc:=
 ⟨(hb.block _ h.pb.lt).trans h.pb,(hb.block _ h.db.lt).trans h.db,(hb.block _ h.xb.lt).trans h.xb,h.bel.trans (hb.mono h.bel.size)⟩
theorem Lm.cells (h:Lm w W pa n pc next da dn dc xa xn xc) :
  W.cell? (ad w.heap.size 0)=some (.slice pa n pc)/\(W.cell? (ad (w.heap.size+1) 0)=some (iv next)/\W.cell? (ad (w.heap.size+1) 1)=some (.slice da dn dc))/\W.cell? (ad (w.heap.size+2) 0)=some (.slice xa xn xc):=by have p0:=h.pb.cell 0;have d0:=h.db.cell 0;have d1:=h.db.cell 1;have x0:=h.xb.cell 0;simp at p0 d0 d1 x0;exact⟨p0,⟨d0,d1⟩,x0⟩
end
end Go.Proofs.YtacpbofiipdodaaGreat
