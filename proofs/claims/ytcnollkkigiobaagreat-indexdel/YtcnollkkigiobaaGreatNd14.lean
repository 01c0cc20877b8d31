import Derived.Test.YtcnollkkigiobaaGreatNd8
import Derived.Test.YtcnollkkigiobaaGreatNd12
import Derived.Test.YtcnollkkigiobaaGreatNd5
import Derived.OpenShut
import Derived.Lib.SmallJoins
import Derived.ProofKit
import Derived.Test.YtcnollkkigiobaaGreatNd7
import Derived.Test.YtcnollkkigiobaaGreatNd3
set_option linter.unusedVariables false
set_option maxRecDepth 100000


namespace Go.Proofs.YtcnollkkigiobaaGreat
open Go.RowKit Go.Deep

def ptO (j:Nat) (p:Qd) (i:Nat):Int:=partOf p.s p.p p.o p.g (ordF j i)
theorem four {P:Nat->Prop} (h0:P 0) (h1:P 1) (h2:P 2) (h3:P 3):∀i,i<4->P i:=fun i hi=>by
 rcases (show i=0\/i=1\/i=2\/i=3 by omega) with rfl|rfl|rfl|rfl <;> assumption
end Go.Proofs.YtcnollkkigiobaaGreat
namespace Go.Proofs.YtcnollkkigiobaaGreat
open Go.ChangeShapes Go.WideShapes Go.ChangeAt Go.RowKit Go.Deep Go.Joins

def IsQuad (v:Value):Prop:=∃a b c d:Int,v=.agg #[.int .i64 a,.int .i64 b,.int .i64 c,.int .i64 d]

section
variable {H:Type} {enc:TypeId × Value->H} {W:World}

set_option maxRecDepth 100000 in
theorem openQuad {r:Reach} {b0:Nat} {v:Value} {d:DataW H} {p:List MemPlace} (hv:Value.okWide Tryz.prog W r b0 26 v) (h:DataW.Trod enc Tryz.prog W 0 (fun _=>true) true 26 v d p):IsQuad v:=by
 obtain ⟨v0,v1,v2,v3,y0,y1,y2,y3,n,rfl,_,_,h0,h1,h2,h3⟩:=open_agg4 Tryz.underlying26 (by kernel_rfl) (by kernel_rfl) hv h
 obtain ⟨a,e0,_,_⟩:=DataW.trod_int Tryz.underlying2 h0
 obtain ⟨b,e1,_,_⟩:=DataW.trod_int Tryz.underlying2 h1
 obtain ⟨c,e2,_,_⟩:=DataW.trod_int Tryz.underlying2 h2
 obtain ⟨d,e3,_,_⟩:=DataW.trod_int Tryz.underlying2 h3
 simp at e0 e1 e2 e3
 subst e0 e1 e2 e3
 exact ⟨a,b,c,d,rfl⟩
end

end Go.Proofs.YtcnollkkigiobaaGreat
namespace Go.Proofs.YtcnollkkigiobaaGreat
open Go.RowKit Go.Deep

def Kp (w:World) (a:Option Addr) (n c:Nat) (p:Qd) (W:World):Prop:=Below (w.heap.size+2) ((w.alloc (.cells #[.slice a n c] 24)).alloc (.cells #[.int .i64 p.s,.int .i64 p.p,.int .i64 p.o,.int .i64 p.g] 26)) W
theorem Kp.size {w W:World} {a:Option Addr} {n c:Nat} {p:Qd} (h:Kp w a n c p W):w.heap.size+2<=W.heap.size:=by
 have:=Below.size h
 simpa using this
theorem Kp.next {w W W' : World} {a:Option Addr} {n c:Nat} {p:Qd} (h:Kp w a n c p W) (hb:Below W.heap.size W W'):Kp w a n c p W':=Below.trans h (hb.mono h.size)
theorem Kp.below {w W:World} {a:Option Addr} {n c:Nat} {p:Qd} (h:Kp w a n c p W):Below w.heap.size w W:=((below_alloc _ _).alloc (by simp) _).trans (Below.mono h (by omega))
theorem Kp.cells {w W:World} {a:Option Addr} {n c:Nat} {p:Qd} (h:Kp w a n c p W):W.cell? ⟨w.heap.size,0,none⟩=some (.slice a n c)/\W.cell? ⟨w.heap.size+1,0,none⟩=some (.int .i64 p.s)/\W.cell? ⟨w.heap.size+1,1,none⟩=some (.int .i64 p.p)/\W.cell? ⟨w.heap.size+1,2,none⟩=some (.int .i64 p.o)/\W.cell? ⟨w.heap.size+1,3,none⟩=some (.int .i64 p.g):=by
 have b1:=(Bx.new w #[.slice a n c] 24).alloc (.cells #[.int .i64 p.s,.int .i64 p.p,.int .i64 p.o,.int .i64 p.g] 26)
 have b2:=Bx.new (w.alloc (.cells #[.slice a n c] 24)) #[.int .i64 p.s,.int .i64 p.p,.int .i64 p.o,.int .i64 p.g] 26
 simp only [World.size_alloc] at b2
 have c1:Bx W w.heap.size 24 #[.slice a n c]:=(Below.block h _ (by omega)).trans b1
 have c2:Bx W (w.heap.size+1) 26 #[.int .i64 p.s,.int .i64 p.p,.int .i64 p.o,.int .i64 p.g]:=(Below.block h _ (by omega)).trans b2
 exact ⟨c1.cell 0,c2.cell 0,c2.cell 1,c2.cell 2,c2.cell 3⟩
end Go.Proofs.YtcnollkkigiobaaGreat
