import Derived.Test.YtlcamfkgkcjehaaDraw2
import Derived.Test.YtlcamfkgkcjehaaDevG
namespace Go.Proofs.Ytlcamfkgkcjehaa
open Go.RowKit Go.Deep
set_option linter.unusedVariables false
set_option maxRecDepth 100000

theorem Drw.below {w w' : World} {g : Nat} {b : Option Addr} {n c : Nat} {f : Nat → Int} (h : Drw w g b n c f) (hb : Below w.heap.size w w') : Drw w' g b n c f := by
  obtain ⟨⟨i, hh, hi, hc⟩, hrd, hne, hn, hf⟩ := h
  exact ⟨⟨i, hh, hi, rowIn.below hc hb⟩, hrd.below hb, hne, hn, hf⟩

theorem OwnB.onlyCur {w w' : World} {g B : Nat} {a : Option Addr} {n : Nat} {f : Nat → Int} {v : Value} {i h : Int} (k : OwnB w B a n f) (hc : Cur w g v i h) (ho : OnlyAt (some ⟨g, 0, none⟩) w w') : OwnB w' B a n f := by
  rcases k with k | ⟨x, rfl, hx, hr⟩
  · exact Or.inl k
  · exact Or.inr ⟨x, rfl, hx, hr.only (hr.ne hc (by decide)) ho⟩

/-- Whether 0 was drawn. -/
def DrawnO (w : World) (e : Ending) (w' : World) (g : Nat) (b : Option Addr) (n c : Nat) (f : Nat → Int) : Prop := ∃ x : Bool, e = .returned (.bool x) ∧ Drw w' g b n c f ∧ OnlyAt (some ⟨g, 0, none⟩) w w'

set_option maxHeartbeats 400000 in
theorem l1Once_any (g : Nat) (b : Option Addr) (n c : Nat) (f : Nat → Int) (k : Int) (w : World) (h : Drw w g b n c f) (hk : 1 ≤ k) (hk2 : k ≤ 2147483647) :
    Calls Try.prog 40 #[.pointer (some ⟨g, 0, none⟩), .int .i64 k] w fun e w' => DrawnO w e w' g b n c f := by
  have H : Hid (Drw w g b n c f) := h
  clear h
  go_enter Try.func40, Try.ntmps40
  go_wp2_with fail
  refine (l1Below_any g b n c f k w H.out hk hk2).mono ?_
  rintro e w1 ⟨x, rfl, h0, h1, hd, ho⟩
  have HX : Hid (Drw w1 g b n c f ∧ OnlyAt (some ⟨g, 0, none⟩) w w1) := ⟨hd, ho⟩
  clear hd ho
  go_wp2
  go_ret
  exact ⟨_, rfl, HX.out⟩
end Go.Proofs.Ytlcamfkgkcjehaa
