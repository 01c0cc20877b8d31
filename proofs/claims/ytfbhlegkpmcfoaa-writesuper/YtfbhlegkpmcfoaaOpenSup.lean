import Derived.Test.YtfbhlegkpmcfoaaOpenDisk
import Derived.Test.YtfbhlegkpmcfoaaXLaw
namespace Go.Proofs.Ytfbhlegkpmcfoaa
open Go.ChangeShapes Go.WideShapes Go.ChangeAt Go.RowKit Go.Deep Go.Joins

section
variable {H : Type} {enc : TypeId × Value → H} {W : World}

set_option maxRecDepth 100000 in
theorem openSuper {r : Reach} {b0 : Nat} {v : Value} {d : DataW H} {p : List MemPlace} (hv : Value.okWide Try.prog W r b0 45 v) (h : DataW.Trod enc Try.prog W 0 (fun _ => true) true 45 v d p) : IsSuper W v := by
  obtain ⟨v0, v1, v2, y0, y1, y2, n, rfl, _, _, h0, h1, h2⟩ := open_agg3 Try.underlying45 (by kernel_rfl) (by kernel_rfl) hv h
  obtain ⟨gen, e0, _, _⟩ := DataW.trod_int Try.underlying2 h0
  obtain ⟨ar, e1, _, _⟩ := DataW.trod_int Try.underlying2 h1
  obtain ⟨fi, e2, _, _⟩ := DataW.trod_int Try.underlying2 h2
  simp at e0 e1 e2
  subst e0 e1 e2
  exact ⟨gen, ar, fi, rfl⟩
end
end Go.Proofs.Ytfbhlegkpmcfoaa
