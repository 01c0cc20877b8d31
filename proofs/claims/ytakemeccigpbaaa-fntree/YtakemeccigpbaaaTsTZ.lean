import Derived.Test.YtakemeccigpbaaaTiLZ
namespace Go.Proofs.Ytakemeccigpbaaa
open Go.RowKit Go.Deep
set_option linter.unusedVariables false
set_option maxRecDepth 100000

/-- A tree of the program's own nodes that it may write: keys and children in rows of their own; bs: all its blocks. -/
def TOw (B : Nat) (w : World) : (d : Nat) → Ro d → Value → List Nat → Prop
  | 0, _, _, _ => False
  | d + 1, .inl t, v, bs => ∃ b ka kc, v = .iface 53 (.pointer (some ⟨b, 0, none⟩)) ∧ B ≤ b ∧ Bx w b 57 #[.int .i64 (t.length : Int), .slice ka t.length kc] ∧ w.ownsRow B 9 1 (.slice ka t.length kc) t.length (strL t) ∧ bs = b :: (ka.map (·.block)).toList
  | d + 1, .inr l, v, bs => ∃ (b g kc : Nat) (xs : List Value) (bss : List (List Nat)), v = .iface 91 (.pointer (some ⟨b, 0, none⟩)) ∧ B ≤ b ∧ Bx w b 96 #[.int .i64 ((l.flatMap (keysR d)).length : Int), .slice (some ⟨g, 0, none⟩) l.length kc] ∧ w.ownsRow B 59 1 (.slice (some ⟨g, 0, none⟩) l.length kc) l.length xs ∧ 0 < l.length ∧ bss.length = l.length ∧ bs = b :: g :: bss.flatten ∧
      ∀ k (h : k < l.length), ∃ u us, xs[k]? = some u ∧ bss[k]? = some us ∧ TOw B w d l[k] u us

theorem own_keep {w w' : World} {B : Nat} {e : TypeId} {size : Nat} {v : Value} {n : Nat} {xs : List Value} (h : w.ownsRow B e size v n xs) (hk : ∀ g, v.ownBlock = some g → w'.heap[g]? = w.heap[g]?) : w'.ownsRow B e size v n xs := by
  refine ⟨h.1, ?_⟩
  rcases h.2 with q | ⟨g, cap, cur, q1, q2, q3, q4⟩
  · exact .inl q
  · exact .inr ⟨g, cap, cur, q1, q2, (hk g (by rw [q1]; rfl)).trans q3, q4⟩

theorem TOw.keep {B : Nat} {w w' : World} : ∀ {d : Nat} {t : Ro d} {v : Value} {bs : List Nat}, TOw B w d t v bs → (∀ b, b ∈ bs → w'.heap[b]? = w.heap[b]?) → TOw B w' d t v bs
  | 0, _, _, _, h, _ => h
  | d + 1, .inl t, v, bs, h, hk => by
    obtain ⟨b, ka, kc, rfl, hB, hx, ho, rfl⟩ := h
    refine ⟨b, ka, kc, rfl, hB, hx.of_block (hk b (by simp)), own_keep ho (fun g e => hk g ?_), rfl⟩
    cases ka with
    | none => cases e
    | some p =>
      injection e with e
      subst e
      simp
  | d + 1, .inr l, v, bs, h, hk => by
    obtain ⟨b, g, kc, xs, bss, rfl, hB, hx, ho, hl, hbl, rfl, hall⟩ := h
    refine ⟨b, g, kc, xs, bss, rfl, hB, hx.of_block (hk b (by simp)), own_keep ho (fun g' e => hk g' ?_), hl, hbl, rfl, fun k h => ?_⟩
    · injection e with e
      subst e
      simp
    · obtain ⟨u, us, e1, e2, e3⟩ := hall k h
      refine ⟨u, us, e1, e2, TOw.keep e3 (fun b' hb' => hk b' ?_)⟩
      have : us ∈ bss := List.mem_of_getElem? e2
      simp only [List.mem_cons, List.mem_flatten]
      exact .inr (.inr ⟨us, this, hb'⟩)

theorem TOw.lt {B : Nat} {w : World} : ∀ {d : Nat} {t : Ro d} {v : Value} {bs : List Nat}, TOw B w d t v bs → ∀ b, b ∈ bs → B ≤ b ∧ b < w.heap.size
  | 0, _, _, _, h, _, _ => h.elim
  | d + 1, .inl t, v, bs, h, b', hb' => by
    obtain ⟨b, ka, kc, rfl, hB, hx, ho, rfl⟩ := h
    rw [List.mem_cons] at hb'
    rcases hb' with rfl | hb'
    · exact ⟨hB, hx.lt⟩
    · cases ka with
      | none => simp at hb'
      | some p =>
        simp at hb'
        exact own_lt ho b' (by rw [hb']; rfl)
  | d + 1, .inr l, v, bs, h, b', hb' => by
    obtain ⟨b, g, kc, xs, bss, rfl, hB, hx, ho, hl, hbl, rfl, hall⟩ := h
    rw [List.mem_cons, List.mem_cons] at hb'
    rcases hb' with rfl | rfl | hb'
    · exact ⟨hB, hx.lt⟩
    · exact own_lt ho b' rfl
    · rw [List.mem_flatten] at hb'
      obtain ⟨us, h1, h2⟩ := hb'
      obtain ⟨k, hk, e⟩ := List.getElem_of_mem h1
      obtain ⟨u, us', e1, e2, e3⟩ := hall k (by omega)
      rw [List.getElem?_eq_getElem hk, e] at e2
      injection e2 with e2
      subst e2
      exact TOw.lt e3 b' h2

theorem TOw.below {B : Nat} {w w' : World} {d : Nat} {t : Ro d} {v : Value} {bs : List Nat} (h : TOw B w d t v bs) (hb : Below w.heap.size w w') : TOw B w' d t v bs := h.keep (fun b hm => hb.block b (h.lt b hm).2)

/-- What may be written can be read. -/
theorem TOw.tat {B : Nat} {w : World} : ∀ {d : Nat} {t : Ro d} {v : Value} {bs : List Nat}, TOw B w d t v bs → TAt (fun b => b ∈ bs) w d t v
  | 0, _, _, _, h => h.elim
  | d + 1, .inl t, v, bs, h => by
    obtain ⟨b, ka, kc, rfl, hB, hx, ho, rfl⟩ := h
    refine ⟨b, ka, kc, rfl, by simp, hx, ?_⟩
    rcases ho.2 with ⟨q, q0⟩ | ⟨g, cap, cur, q1, q2, q3, q4⟩
    · exact .inl q0
    · injection q1 with q1 _ q5
      subst q1 q5
      refine .inr ⟨g, rfl, by simp, (own_lt ho g rfl).2, fun i hi => ?_⟩
      rw [ho.cellAt i (by omega), strL_get t i hi]
  | d + 1, .inr l, v, bs, h => by
    obtain ⟨b, g, kc, xs, bss, rfl, hB, hx, ho, hl, hbl, rfl, hall⟩ := h
    have hc := own_cap ho
    refine ⟨b, g, kc, xs, rfl, by simp, hx, by simp, ⟨(own_lt ho g rfl).2, hc.1, hc.2⟩, hl, fun j u hj => ?_, fun k h => ?_⟩
    · have hjl := (List.getElem?_eq_some_iff.1 hj).1
      rw [ho.1] at hjl
      rw [ho.cellAt j hjl]
      exact hj
    · obtain ⟨u, us, e1, e2, e3⟩ := hall k h
      refine ⟨u, e1, TAt.mono (Nat.le_refl _) (fun b' hb' _ => ⟨?_, rfl⟩) (TOw.tat e3)⟩
      have : us ∈ bss := List.mem_of_getElem? e2
      simp only [List.mem_cons, List.mem_flatten]
      exact .inr (.inr ⟨us, this, hb'⟩)
end Go.Proofs.Ytakemeccigpbaaa
