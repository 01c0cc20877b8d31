import Derived.Test.YtakemeccigpbaaaMv3Z
import Derived.Test.YtakemeccigpbaaaTgKZ
import Derived.Test.YtakemeccigpbaaaTnSzZ
import Derived.Deep.QuietTactic
import Derived.BigQuiet
import Derived.Deep.RegionWith
import Derived.Test.YtakemeccigpbaaaTnT2Z
import Derived.Test.YtakemeccigpbaaaTrVZ
import Derived.Test.YtakemeccigpbaaaOpenTreeZ
namespace Go.Proofs.Ytakemeccigpbaaa
open Go.RowKit Go.Deep
set_option linter.unusedVariables false
set_option maxRecDepth 100000

theorem tells_four {F : Nat → Tn} {base : Int} : ∀ {d : Nat} {root : Bool} {t : Ro d} {h x : Nat}, Tells F base d t x → BalR d root t h → ∀ i, x ≤ i → i < x + nodesR d t → (F i).kn ≤ 4 ∧ (F i).dn ≤ 4
  | 0, _, _, _, _, h, _, _, _, _ => h.elim
  | d + 1, root, .inl t, h, x, ht, hb, i, hi1, hi2 => by
    have hn : nodesR (d + 1) (.inl t) = 1 := rfl
    have e : i = x := by omega
    subst e
    obtain ⟨_, h2, _, h4, _⟩ := ht
    obtain ⟨_, h5, _⟩ := hb
    exact ⟨by omega, by omega⟩
  | d + 1, root, .inr l, h, x, ht, hb, i, hi1, hi2 => by
    have hn : nodesR (d + 1) (.inr l) = 1 + (l.map (nodesR d)).sum := rfl
    obtain ⟨h1, h2, h3, h4, h5, h6, h7⟩ := ht
    obtain ⟨g1, g2, h', _, hall⟩ := hb
    by_cases e : i = x
    · subst e
      exact ⟨by omega, by omega⟩
    · obtain ⟨k, hk, k1, k2⟩ := offR_find d l (i - (x + 1)) (by omega)
      exact tells_four (h7 k hk) (hall _ (List.getElem_mem hk)) i (by omega) (by omega)

theorem GT.ownTn {w : World} {B g n c : Nat} {N : Nat → Tn} {KA DA : Nat → Option Addr} {KC DC : Nat → Nat} (h : GT w B (.slice (some ⟨g, 0, none⟩) n c) n N KA DA KC DC) : OwnTn w B g n N KA DA KC DC := by
  refine ⟨(own_lt h.row g rfl).1, ?_, h.keys, h.kids, h.apartK, h.apartD⟩
  rcases h.row.2 with ⟨q, _⟩ | ⟨g', cap, cur, q1, q2, q3, q4, q5, q6, q7⟩
  · cases q
  · injection q1 with q1 _ q8
    injection q1 with q1
    injection q1 with q1
    subst q1 q8
    refine ⟨cur, q3, by rw [q6]; exact Nat.mul_le_mul_right 4 q4, fun i hi => ?_⟩
    have q9 : (cur.toList.take (n * 4))[i]? = ((List.range (n * 4)).map (tnCell N KA DA KC DC))[i]? := by rw [q7]
    rw [List.getElem?_take, if_pos hi, Array.getElem?_toList, List.getElem?_map, List.getElem?_range hi] at q9
    exact q9
theorem GT.form {w : World} {B n c : Nat} {a : Option Addr} {N : Nat → Tn} {KA DA : Nat → Option Addr} {KC DC : Nat → Nat} (h : GT w B (.slice a n c) n N KA DA KC DC) (h0 : n ≠ 0) : ∃ g, a = some ⟨g, 0, none⟩ := by
  obtain ⟨a', c', e, hf⟩ := own_form h.row
  injection e with e
  obtain ⟨g, q, _⟩ := hf h0
  exact ⟨g, by rw [e, q]⟩
theorem GT.rd {w : World} {B n c : Nat} {a : Option Addr} {N : Nat → Tn} {KA DA : Nat → Option Addr} {KC DC : Nat → Nat} (h : GT w B (.slice a n c) n N KA DA KC DC) : RdTn w a n N := by
  by_cases h0 : n = 0
  · exact .inl h0
  · obtain ⟨g, rfl⟩ := h.form h0
    exact h.ownTn.rd

theorem RdTn.same {w : World} {a : Option Addr} {n : Nat} {M M' : Nat → Tn} (h : RdTn w a n M) (hs : ∀ i, i < n → SameN (M i) (M' i)) : RdTn w a n M' := by
  rcases h with h | ⟨b, o, rfl, hc⟩
  · exact .inl h
  · refine .inr ⟨b, o, rfl, fun i hi => ?_⟩
    obtain ⟨ka, kc, da, dc, h0, h1, h2, h3, h4, h5⟩ := hc i hi
    obtain ⟨e1, e2, e3, e4, e5, e6⟩ := hs i hi
    refine ⟨ka, kc, da, dc, by rw [← e1]; exact h0, by rw [← e3]; exact h1, by rw [← e4]; exact h2, by rw [← e2]; exact h3, ?_, ?_⟩
    · rw [← e3]; exact h4.congr e5
    · rw [← e4]; exact h5.congr e6

end Go.Proofs.Ytakemeccigpbaaa

namespace Go.Proofs.Ytakemeccigpbaaa
open Go.RowKit Go.Deep
set_option linter.unusedVariables false
set_option maxRecDepth 100000

/-- What the law holds on to once the answer stands. -/
structure InLs (w W3 W : World) (v : Value) (b7 b8 B5 n m : Nat) (g4 : Nat) (ok : Bool) (a5 : Option Addr) (c5 : Nat) (M : Nat → Tn) (KA5 DA5 : Nat → Option Addr) (KC5 DC5 : Nat → Nat) : Prop where
  arg : Below (w.heap.size + 1) (w.alloc (.cells #[v] 41)) W
  sp : Below W3.heap.size W3 W
  bx7 : Bx W b7 25 #[.slice (some ⟨g4, 0, none⟩) n n]
  bx8 : Bx W b8 30 #[.bool ok, .slice a5 m c5]
  gt5 : GT W B5 (.slice a5 m c5) m M KA5 DA5 KC5 DC5

section
variable {w W3 W W' : World} {v : Value} {b7 b8 B5 n m : Nat} {g4 : Nat} {ok : Bool} {a5 : Option Addr} {c5 : Nat} {M : Nat → Tn} {KA5 DA5 : Nat → Option Addr} {KC5 DC5 : Nat → Nat}
theorem InLs.below (h : InLs w W3 W v b7 b8 B5 n m g4 ok a5 c5 M KA5 DA5 KC5 DC5) (hw : w.heap.size + 1 ≤ W3.heap.size) (hb : Below W.heap.size W W') : InLs w W3 W' v b7 b8 B5 n m g4 ok a5 c5 M KA5 DA5 KC5 DC5 := by
  have := h.sp.size
  exact ⟨h.arg.trans (hb.mono (by omega)), h.sp.trans (hb.mono (by omega)), h.bx7.below hb, h.bx8.below hb, h.gt5.below hb⟩
theorem InLs.marked (h : InLs w W3 W v b7 b8 B5 n m g4 ok a5 c5 M KA5 DA5 KC5 DC5) (hw : w.heap.size + 1 ≤ W3.heap.size) (h7 : b7 < b8) (h5 : b7 < B5) (hwi : WiT W3.heap.size b7 W W') : InLs w W3 W' v b7 b8 B5 n m g4 ok a5 c5 M KA5 DA5 KC5 DC5 := by
  have hs := h.sp.size
  have hb := hwi.below (show W3.heap.size ≤ W.heap.size by omega)
  exact ⟨h.arg.trans (hb.mono hw), h.sp.trans hb, h.bx7.of_block (hwi.2.2.2.2 b7 h.bx7.lt (.inr (Nat.le_refl _))), h.bx8.of_block (hwi.2.2.2.2 b8 h.bx8.lt (.inr (by omega))), h.gt5.keep (fun x hx => hwi.2.2.2.2 x (h.gt5.used hx).2 (.inr (by have := (h.gt5.used hx).1; omega)))⟩
end

end Go.Proofs.Ytakemeccigpbaaa
