import Derived.Test.YthcclkeeekppmaaNp19
namespace Go.Proofs.Ythcclkeeekppmaa
open Go.RowKit Go.Deep
set_option linter.unusedVariables false
set_option linter.unusedSimpArgs false
set_option maxRecDepth 100000

/-- A token's cells; the tokens'. -/
def tkC (t : Tok) (p : Nat) : List Value := [.int .i64 (kdT t.c), .string (txT t), .int .i64 (p : Int)]
def tkl (T : Nat → Tok) (A : Nat → Nat) (k : Nat) : List Value := (List.range k).flatMap (fun i => tkC (T i) (A i))
theorem tkl_succ (T : Nat → Tok) (A : Nat → Nat) (k : Nat) : tkl T A (k + 1) = tkl T A k ++ tkC (T k) (A k) := by
  unfold tkl
  rw [List.range_succ, List.flatMap_append]
  simp
theorem tkl_length (T : Nat → Tok) (A : Nat → Nat) : ∀ k, (tkl T A k).length = k * 3
  | 0 => rfl
  | k + 1 => by rw [tkl_succ, List.length_append, tkl_length T A k]; show k * 3 + 3 = _; omega
theorem tkl_get (T : Nat → Tok) (A : Nat → Nat) : ∀ k i j, i < k → j < 3 → (tkl T A k)[i * 3 + j]? = (tkC (T i) (A i))[j]?
  | 0, i, j, h, _ => absurd h (Nat.not_lt_zero _)
  | k + 1, i, j, h, hj => by
    rw [tkl_succ]
    by_cases e : i = k
    · subst e
      rw [List.getElem?_append_right (by rw [tkl_length]; omega), tkl_length, Nat.add_sub_cancel_left]
    · rw [List.getElem?_append_left (by rw [tkl_length]; omega)]
      exact tkl_get T A k i j (by omega) hj
def TkA (w : World) (B : Nat) (v : Value) (k : Nat) (T : Nat → Tok) (A : Nat → Nat) : Prop := w.ownsRow B 116 3 v k (tkl T A k)
theorem TkA.below {w w' : World} {B : Nat} {v : Value} {k : Nat} {T : Nat → Tok} {A : Nat → Nat} (h : TkA w B v k T A) (hb : Below w.heap.size w w') : TkA w' B v k T A := plS_below h hb
/-- What l6Lex gives back. -/
def LexRet (f : Nat → Int) (n : Nat) (w : World) (e : Ending) (w' : World) : Prop :=
  ∃ g m c, e = .returned (.slice (some ⟨g, 0, none⟩) m c) ∧ m ≤ n + 1 ∧ RdK w' g m (tkF f n) (tkPos f n) ∧ LastK (tkF f n) m ∧ Below w.heap.size w w'
theorem TkA.ret {f : Nat → Int} {n k B : Nat} {w w' : World} {v : Value} (h : TkA w' B v (k + 1) (tkF f n) (tkPos f n)) (hk : k ≤ n) (hc : (tkF f n k).c = 0 ∨ (tkF f n k).c = 15) (hb : Below w.heap.size w w') : LexRet f n w (.returned v) w' := by
  obtain ⟨h0, ⟨_, h1⟩ | ⟨g, cap, cur, e, hg, hh, h1, h2, h3, h4⟩⟩ := h
  · omega
  · subst e
    refine ⟨g, k + 1, cap, rfl, by omega, fun i hi => ?_, ⟨by omega, by rw [Nat.add_sub_cancel]; exact hc⟩, hb⟩
    have cell : ∀ j, j < 3 → w'.cell? ⟨g, i * 3 + j, none⟩ = (tkC (tkF f n i) (tkPos f n i))[j]? := by
      intro j hj
      rw [← tkl_get _ _ (k + 1) i j hi hj, ← h4]
      unfold World.cell?
      rw [hh, List.getElem?_take, if_pos (by omega)]
      simp
    exact ⟨cell 0 (by omega), cell 1 (by omega), cell 2 (by omega)⟩
/-- The lexer's loop. -/
structure LexI (f : Nat → Int) (n : Nat) (w : World) (u : Value) (i k : Nat) (wr : World) : Prop where
  le : i ≤ n
  pos : endF isSp f n i = tkPos f n k
  ki : k ≤ i
  row : TkA wr w.heap.size u k (tkF f n) (tkPos f n)
  bel : Below w.heap.size w wr
theorem LexI.next {f : Nat → Int} {n : Nat} {w wr wq : World} {u v : Value} {i k j : Nat} (h : LexI f n w u i k wr) (hp : tkPos f n k = i) (he : (tkF f n k).e = j) (hj : i < j) (hjn : j ≤ n) (hr : TkA wq w.heap.size v (k + 1) (tkF f n) (tkPos f n)) (hb : Below w.heap.size w wq) : LexI f n w v j (k + 1) wq :=
  ⟨hjn, by rw [← he]; rfl, by have := h.ki; omega, hr, hb⟩
end Go.Proofs.Ythcclkeeekppmaa
