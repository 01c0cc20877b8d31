import Derived.Test.YthcclkeeekppmaaNp17
import Derived.Test.YthcclkeeekppmaaPlS
import Derived.Test.YthcclkeeekppmaaNp15
import Derived.Maps.AppendAt
import Derived.Test.YthcclkeeekppmaaNp18
namespace Go.Proofs.Ythcclkeeekppmaa
open Go.RowKit Go.Deep
set_option linter.unusedVariables false
set_option linter.unusedSimpArgs false
set_option maxRecDepth 100000

def NdA (w : World) (B : Nat) (v : Value) (l : List Nd) : Prop := w.ownsRow B 35 3 v l.length (ndR l)
def enC (x : Ent) : List Value := [.int .i64 (x.k : Int), .string (strT x.l)]
def enR (l : List Ent) : List Value := l.flatMap enC
theorem enR_length (l : List Ent) : (enR l).length = l.length * 2 := by
  unfold enR
  induction l with
  | nil => rfl
  | cons a l ih => rw [List.flatMap_cons, List.length_append, ih, List.length_cons]; show 2 + _ = _; omega
/-- The stack, its top at the row's end. -/
def EnA (w : World) (B : Nat) (v : Value) (st : List Ent) : Prop := w.ownsRow B 121 2 v st.length (enR st.reverse)

/-- A row's block: as before, or new. -/
def SmB (z : Nat) (v v' : Value) : Prop := v'.ownBlock = v.ownBlock ∨ ∃ b, z ≤ b ∧ v'.ownBlock = some b
theorem NdA.other {w w' : World} {B : Nat} {v v' : Value} {l : List Nd} {B' : Nat} {s n' : Nat} {t : TypeId} {xs : List Value} (h : NdA w B v l) (hg : w.grownBy w' v'.ownBlock) (hr : w.ownsRow B' t s v' n' xs) (ht : t ≠ 35) : NdA w' B v l := by
  refine plS_keep h (fun g e => hg.block g (h.lt _ e).2 (fun e2 => ?_))
  obtain ⟨cur, hh⟩ := plS_ty h e
  obtain ⟨cur', hh'⟩ := plS_ty hr e2.symm
  exact plS_ne hh' hh ht
theorem EnA.other {w w' : World} {B : Nat} {v v' : Value} {l : List Ent} {B' : Nat} {s n' : Nat} {t : TypeId} {xs : List Value} (h : EnA w B v l) (hg : w.grownBy w' v'.ownBlock) (hr : w.ownsRow B' t s v' n' xs) (ht : t ≠ 121) : EnA w' B v l := by
  refine plS_keep h (fun g e => hg.block g (h.lt _ e).2 (fun e2 => ?_))
  obtain ⟨cur, hh⟩ := plS_ty h e
  obtain ⟨cur', hh'⟩ := plS_ty hr e2.symm
  exact plS_ne hh' hh ht
theorem NdA.below {w w' : World} {B : Nat} {v : Value} {l : List Nd} (h : NdA w B v l) (hb : Below w.heap.size w w') : NdA w' B v l := plS_below h hb
theorem EnA.below {w w' : World} {B : Nat} {v : Value} {l : List Ent} (h : EnA w B v l) (hb : Below w.heap.size w w') : EnA w' B v l := plS_below h hb

/-- A node appended. -/
theorem app_nd {w : World} {ops : Array Oper} {rest : List Oper} {o : Oper} {act : Act} {Q : Exit → Act → World → Prop} (hgd : o.guard = none) (s x : Operand)
    (ho : o.op = .call { callee := .builtin .append, args := #[s, x], argTypes := #[23, 23] })
    (B : Nat) (v : Value) (l : List Nd) (hs : act.eval s = v) (hown : NdA w B v l) (g : Nat) (y : Nd) (hx : act.eval x = .slice (some ⟨g, 0, none⟩) 1 1)
    (hrd : ∀ j u, (ndC y)[j]? = some u → w.cell? (Addr.add ⟨g, 0, none⟩ j) = some u) (hl : l.length ≤ 1048576) (hB : B ≤ w.heap.size)
    (h : ∀ v' w', NdA w' B v' (l ++ [y]) → w.grownBy w' v.ownBlock → SmB w.heap.size v v' → wpList Try.prog ops Q rest (act.put o.dst v') w') : wpList Try.prog ops Q (o :: rest) act w := by
  obtain ⟨i0, hi, hz0, hz1, hz2⟩ := info_parts infoPN
  refine wpList_append_own_at w hgd s x 23 ho B 35 i0 _ 3 40 Try.underlying23 hi hz0 hz1 hz2 rfl (by decide) v l.length (ndR l) hs hown ⟨g, 0, none⟩ 1 1 (ndC y) hx rfl hrd (fun u hu => ndR_one [y] u (by simpa [ndR] using hu)) (by unfold maxLen; omega) (by omega) hB (fun v' w' h1 h2 _ h4 => h v' w' ?_ h2 ?_)
  · unfold NdA
    rw [ndR_app, List.length_append]
    simpa [ndR] using h1
  · rcases h4 with e | e
    · exact .inl e
    · exact .inr ⟨_, Nat.le_refl _, e⟩
/-- The top of the stack, and what is below. -/
theorem EnA.top {w : World} {B : Nat} {v : Value} {x : Ent} {l : List Ent} (h : EnA w B v (x :: l)) : ∃ g cap, v = .slice (some ⟨g, 0, none⟩) (l.length + 1) cap ∧ l.length + 1 ≤ cap ∧ cap ≤ 9223372036854775807 ∧
    w.cell? ⟨g, l.length * 2, none⟩ = some (.int .i64 (x.k : Int)) ∧ w.cell? ⟨g, l.length * 2 + 1, none⟩ = some (.string (strT x.l)) ∧ EnA w B (.slice (some ⟨g, 0, none⟩) l.length cap) l ∧ g < w.heap.size := by
  obtain ⟨h0, ⟨_, h1⟩ | ⟨g, cap, cur, e, hg, hh, h1, h2, h3, h4⟩⟩ := h
  · simp at h1
  · have hlen : (enR l.reverse).length = l.length * 2 := by rw [enR_length, List.length_reverse]
    have e4 : cur.toList.take ((l.length + 1) * 2) = enR l.reverse ++ enC x := by rw [show l.length + 1 = (x :: l).length from rfl, h4]; simp [enR]
    have hg' : g < w.heap.size := by
      have := Array.getElem?_eq_some_iff.1 hh
      exact this.1
    have cell : ∀ j, j < 2 → w.cell? ⟨g, l.length * 2 + j, none⟩ = (enC x)[j]? := by
      intro j hj
      unfold World.cell?
      rw [hh]
      show cur[l.length * 2 + j]? = _
      have := congrArg (fun z => z[l.length * 2 + j]?) e4
      simp only [List.getElem?_take] at this
      rw [if_pos (by omega), List.getElem?_append_right (by omega), hlen, Nat.add_sub_cancel_left] at this
      rw [← this]
      simp
    unfold maxLen at h2
    refine ⟨g, cap, e, h1, h2, cell 0 (by omega), cell 1 (by omega), ⟨hlen, .inr ⟨g, cap, cur, rfl, hg, hh, by have : l.length + 1 ≤ cap := h1; omega, h2, h3, ?_⟩⟩, hg'⟩
    have := congrArg (List.take (l.length * 2)) e4
    rw [List.take_take, Nat.min_eq_left (by omega), List.take_append_of_le_length (by omega)] at this
    rw [this, List.take_of_length_le (by omega)]
def lenV : Value → Nat
  | .slice _ n _ => n
  | _ => 0
theorem EnA.len {w : World} {B : Nat} {v : Value} {l : List Ent} (h : EnA w B v l) : ∃ a c, v = .slice a l.length c ∧ l.length ≤ c ∧ c ≤ 9223372036854775807 := by
  obtain ⟨h0, ⟨e, h1⟩ | ⟨g, cap, cur, e, hg, hh, h1, h2, _⟩⟩ := h
  · rw [h1]; exact ⟨none, 0, e, Nat.le_refl _, by omega⟩
  · exact ⟨_, cap, e, h1, h2⟩
/-- What drains: the rows behind. -/
def DrnRet (B : Nat) (vs vo : Value) (least : Nat) (st : List Ent) (o : List Nd) (w : World) (e : Ending) (w' : World) : Prop :=
  ∃ vs' vo', e = .returned (.tuple #[vs', vo']) ∧ EnA w' B vs' (drn least st o).1 ∧ NdA w' B vo' (drn least st o).2 ∧ w.grownBy w' vo.ownBlock ∧ SmB w.heap.size vo vo' ∧ vs'.ownBlock = vs.ownBlock

end Go.Proofs.Ythcclkeeekppmaa

namespace Go.Proofs.Ythcclkeeekppmaa
set_option linter.unusedVariables false

/-- The end of the tokens is not taken. -/
def LastK (T : Nat → Tok) (m : Nat) : Prop := 0 < m ∧ ((T (m - 1)).c = 0 ∨ (T (m - 1)).c = 15)
section
variable {T : Nat → Tok} {A : Nat → Nat} {m : Nat}
/-- What a step of the parser may do: go on by one, or fail where it stands. -/
def Go1 (m : Nat) (p q : Pr) : Prop := (q.er = 0 → p.er = 0 ∧ p.i < q.i) ∧ p.i ≤ q.i ∧ (p.i < m → q.i < m) ∧ (p.nd ≤ 100 → q.nd ≤ 100)
theorem Go1.trans {p q r : Pr} (h : Go1 m p q) (k : Go1 m q r) : Go1 m p r := by
  obtain ⟨h1, h2, h3, h4⟩ := h
  obtain ⟨k1, k2, k3, k4⟩ := k
  exact ⟨fun e => by have a := k1 e; have b := h1 a.1; exact ⟨b.1, by omega⟩, by omega, fun e => k3 (h3 e), fun e => k4 (h4 e)⟩
def Bd (T : Nat → Tok) (m : Nat) (s : Mc) : Prop := s.p.i < m ∧ s.p.nd ≤ 100 ∧ (∀ x, x ∈ s.st → x.k ≤ 15) ∧ s.o.length + s.st.length ≤ s.p.i + (if s.p.er = 0 then 0 else 1)
def Ms (m : Nat) (p : Pr) : Nat := 2 * (m - p.i) + (if p.er = 0 then 1 else 0)
end
end Go.Proofs.Ythcclkeeekppmaa

namespace Go.Proofs.Ythcclkeeekppmaa
open Go.RowKit Go.Deep
set_option linter.unusedVariables false
set_option linter.unusedSimpArgs false
set_option maxRecDepth 100000

end Go.Proofs.Ythcclkeeekppmaa
