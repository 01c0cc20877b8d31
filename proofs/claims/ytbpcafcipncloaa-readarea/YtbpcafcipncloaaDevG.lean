import Derived.Test.YtbpcafcipncloaaDev
import Derived.Test.YtbpcafcipncloaaVDef
namespace Go.Proofs.Ytbpcafcipncloaa
open Go.RowKit Go.Deep
set_option linter.unusedVariables false
set_option maxRecDepth 100000

theorem Rd.lowB {k : IntKind} {w w' : World} {a : Option Addr} {n B : Nat} {f : Nat → Int} (h : Rd k w a n f) (hlo : ∀ x, a = some x → x.block < B) (hb : Below B w w') : Rd k w' a n f := by
  rcases h with h | ⟨b, o, rfl, hc⟩
  · exact Or.inl h
  · have := hlo _ rfl
    exact Or.inr ⟨b, o, rfl, fun i hi => (hb.cell (p := ⟨b, o + i, none⟩) this).trans (hc i hi)⟩

theorem rowIn.only {w w' : World} {g b : Nat} {t : TypeId} {n : Nat} {F : Nat → Value} (h : rowIn w g t n F) (hne : g ≠ b) (ho : OnlyAt (some ⟨b, 0, none⟩) w w') : rowIn w' g t n F :=
  h.of_block (ho.block g (fun x e => by injection e with e; subst e; exact fun e => hne e.symm))

theorem OwnB.onlyDev {w w' : World} {b B : Nat} {a : Option Addr} {n : Nat} {f : Nat → Int} {v0 v1 : Value} {fuel : Int} {dead : Bool} (h : OwnB w B a n f) (hd : Dev w b v0 v1 fuel dead) (ho : OnlyAt (some ⟨b, 0, none⟩) w w') : OwnB w' B a n f := by
  rcases h with h | ⟨g, rfl, hg, hr⟩
  · exact Or.inl h
  · exact Or.inr ⟨g, rfl, hg, hr.only (hr.ne hd (by decide)) ho⟩

theorem Gath.onlyDev {w w' : World} {b B : Nat} {v : Value} {k : Nat} {S : Nat → Int} {L : Nat → Nat} {F : Nat → Nat → Int} {A : Nat → Option Addr} {C : Nat → Nat} {v0 v1 : Value} {fuel : Int} {dead : Bool} (h : Gath w B v k S L F A C) (hd : Dev w b v0 v1 fuel dead) (ho : OnlyAt (some ⟨b, 0, none⟩) w w') : Gath w' B v k S L F A C := by
  refine ⟨⟨h.row.1, ?_⟩, fun i hi => (h.each i hi).onlyDev hd ho, h.apart⟩
  rcases h.row.2 with h2 | ⟨g, cap, cur, hv, hg, hh, r⟩
  · exact Or.inl h2
  · have hne : g ≠ b := by
      have hr : rowIn w g 81 0 (fun _ => undef) := ⟨cur, hh, Nat.zero_le _, fun i hi => absurd hi (Nat.not_lt_zero _)⟩
      exact hr.ne hd (by decide)
    exact Or.inr ⟨g, cap, cur, hv, hg, (ho.block g (fun x e => by injection e with e; subst e; exact fun e => hne e.symm)).trans hh, r⟩

theorem Gath.notDev {w : World} {b B : Nat} {v : Value} {k : Nat} {S : Nat → Int} {L : Nat → Nat} {F : Nat → Nat → Int} {A : Nat → Option Addr} {C : Nat → Nat} {v0 v1 : Value} {fuel : Int} {dead : Bool} (h : Gath w B v k S L F A C) (hd : Dev w b v0 v1 fuel dead) : v.ownBlock ≠ some b := by
  intro e
  rcases h.row.2 with ⟨h2, _⟩ | ⟨g, cap, cur, hv, hg, hh, r⟩
  · rw [h2] at e; simp [Value.ownBlock] at e
  · rw [hv] at e
    simp [Value.ownBlock] at e
    subst e
    have hr : rowIn w g 81 0 (fun _ => undef) := ⟨cur, hh, Nat.zero_le _, fun i hi => absurd hi (Nat.not_lt_zero _)⟩
    exact hr.ne hd (by decide) rfl

theorem owns_shape {w : World} {B : Nat} {e : TypeId} {size : Nat} {v : Value} {n : Nat} {xs : List Value} (h : w.ownsRow B e size v n xs) : ∃ p q, v = .slice p n q := by
  rcases h.2 with ⟨hv, hn⟩ | ⟨g, cap, cur, hv, _⟩
  · subst hn; exact ⟨none, 0, hv⟩
  · exact ⟨_, cap, hv⟩

/-- Rows of bytes that were there are there. -/
def KeepB (w w' : World) : Prop := ∀ g n F, rowIn w g 5 n F → rowIn w' g 5 n F

theorem KeepB.below {w w' : World} (hb : Below w.heap.size w w') : KeepB w w' := fun g n F hr => hr.below hb
theorem KeepB.trans {a b c : World} (h : KeepB a b) (k : KeepB b c) : KeepB a c := fun g n F hr => k g n F (h g n F hr)
theorem KeepB.grown {w w' : World} {B : Nat} {v : Value} {k : Nat} {xs : List Value} (h : w.ownsRow B 81 2 v k xs) (hg : w.grownBy w' v.ownBlock) : KeepB w w' := by
  intro g n F hr
  refine hr.of_block (hg.block g hr.lt (fun e => ?_))
  rcases h.2 with ⟨hv, _⟩ | ⟨g2, cap, cur, hv, _, hh, _⟩
  · rw [hv] at e; simp [Value.ownBlock] at e
  · rw [hv] at e
    simp [Value.ownBlock] at e
    subst e
    have hr2 : rowIn w g 81 0 (fun _ => undef) := ⟨cur, hh, Nat.zero_le _, fun i hi => absurd hi (Nat.not_lt_zero _)⟩
    exact hr.ne hr2 (by decide) rfl
theorem KeepB.dev {w w' : World} {b : Nat} {v0 v1 : Value} {fuel : Int} {dead : Bool} (hd : Dev w b v0 v1 fuel dead) (ho : OnlyAt (some ⟨b, 0, none⟩) w w') : KeepB w w' := fun g n F hr => hr.only (hr.ne hd (by decide)) ho

theorem below_alloc2' (w : World) (o o' : Obj) : Below w.heap.size w ((w.alloc o).alloc o') := (below_alloc _ _).trans ((below_alloc _ _).mono (by simp))

theorem ans_true' {e : Ending} {p : Prop} (h : AnsB e p) (hp : p) : e = .returned (.bool true) := by
  obtain ⟨b, rfl, hb⟩ := h
  rw [hb.2 hp]
theorem ans_false' {e : Ending} {p : Prop} (h : AnsB e p) (hp : ¬ p) : e = .returned (.bool false) := by
  obtain ⟨b, rfl, hb⟩ := h
  cases b with
  | false => rfl
  | true => exact absurd (hb.1 rfl) hp

theorem lt_cell {w : World} {x : Addr} {v : Value} (h : w.cell? x = some v) : x.block < w.heap.size := by
  rcases Nat.lt_or_ge x.block w.heap.size with h' | h'
  · exact h'
  · unfold World.cell? at h
    rw [Array.getElem?_eq_none h'] at h
    cases h

end Go.Proofs.Ytbpcafcipncloaa
