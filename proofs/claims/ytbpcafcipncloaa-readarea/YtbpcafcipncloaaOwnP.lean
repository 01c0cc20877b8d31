import Derived.Test.YtbpcafcipncloaaOwn
namespace Go.Proofs.Ytbpcafcipncloaa
open Go.RowKit Go.Deep

/-- A slice of pending writes that can be read: sectors S, lengths L, bytes F. -/
def RdP (w : World) (a : Option Addr) (m : Nat) (S : Nat → Int) (L : Nat → Nat) (F : Nat → Nat → Int) : Prop :=
  m = 0 ∨ ∃ b o, a = some ⟨b, o, none⟩ ∧ ∀ i, i < m → w.cell? ⟨b, o + i * 2, none⟩ = some (.int .i64 (S i)) ∧
    ∃ ad cp, w.cell? ⟨b, o + i * 2 + 1, none⟩ = some (.slice ad (L i) cp) ∧ Rd .u8 w ad (L i) (F i)

theorem RdP.below {w w' : World} {a : Option Addr} {m : Nat} {S : Nat → Int} {L : Nat → Nat} {F : Nat → Nat → Int} (h : RdP w a m S L F) (hb : Below w.heap.size w w') : RdP w' a m S L F := by
  rcases h with h | ⟨b, o, rfl, hc⟩
  · exact Or.inl h
  · refine Or.inr ⟨b, o, rfl, fun i hi => ?_⟩
    obtain ⟨h1, ad, cp, h2, h3⟩ := hc i hi
    refine ⟨?_, ad, cp, ?_, h3.below hb⟩
    · rw [hb.cell (p := ⟨b, o + i * 2, none⟩) (World.block_lt_of_cell? _ _ h1)]; exact h1
    · rw [hb.cell (p := ⟨b, o + i * 2 + 1, none⟩) (World.block_lt_of_cell? _ _ h2)]; exact h2

theorem RdP.congr {w : World} {a : Option Addr} {m : Nat} {S S' : Nat → Int} {L : Nat → Nat} {F F' : Nat → Nat → Int} (h : RdP w a m S L F) (hS : ∀ i, i < m → S i = S' i) (hF : ∀ i, i < m → ∀ j, j < L i → F i j = F' i j) : RdP w a m S' L F' := by
  rcases h with h | ⟨b, o, rfl, hc⟩
  · exact Or.inl h
  · refine Or.inr ⟨b, o, rfl, fun i hi => ?_⟩
    obtain ⟨h1, ad, cp, h2, h3⟩ := hc i hi
    exact ⟨by rw [← hS i hi]; exact h1, ad, cp, h2, h3.congr (hF i hi)⟩

/-- The cells of a row of pending writes: two for each. -/
def pendCell (S : Nat → Int) (A : Nat → Option Addr) (L C : Nat → Nat) (c : Nat) : Value :=
  if c % 2 = 0 then .int .i64 (S (c / 2)) else .slice (A (c / 2)) (L (c / 2)) (C (c / 2))

theorem pendCell_even (S : Nat → Int) (A : Nat → Option Addr) (L C : Nat → Nat) (i : Nat) : pendCell S A L C (i * 2) = .int .i64 (S i) := by
  unfold pendCell
  rw [if_pos (by omega), show i * 2 / 2 = i by omega]

theorem pendCell_odd (S : Nat → Int) (A : Nat → Option Addr) (L C : Nat → Nat) (i : Nat) : pendCell S A L C (i * 2 + 1) = .slice (A i) (L i) (C i) := by
  unfold pendCell
  rw [if_neg (by omega), show (i * 2 + 1) / 2 = i by omega]

/-- A slice of pending writes in the call's own memory, each with bytes of its own. -/
structure OwnPA (w : World) (B : Nat) (gC m : Nat) (S : Nat → Int) (L : Nat → Nat) (F : Nat → Nat → Int) (A : Nat → Option Addr) (C : Nat → Nat) : Prop where
  le : B ≤ gC
  row : rowIn w gC 81 (m * 2) (pendCell S A L C)
  each : ∀ i, i < m → OwnB w B (A i) (L i) (F i)
  apart : ∀ i j, i < m → j < m → i ≠ j → L i ≠ 0 → L j ≠ 0 → A i ≠ A j

def OwnP (w : World) (B : Nat) (a : Option Addr) (m : Nat) (S : Nat → Int) (L : Nat → Nat) (F : Nat → Nat → Int) (A : Nat → Option Addr) : Prop :=
  m = 0 ∨ ∃ gC C, a = some ⟨gC, 0, none⟩ ∧ OwnPA w B gC m S L F A C

theorem OwnPA.rd {w : World} {B gC m : Nat} {S : Nat → Int} {L : Nat → Nat} {F : Nat → Nat → Int} {A : Nat → Option Addr} {C : Nat → Nat} (h : OwnPA w B gC m S L F A C) : RdP w (some ⟨gC, 0, none⟩) m S L F := by
  refine Or.inr ⟨gC, 0, rfl, fun i hi => ⟨?_, A i, C i, ?_, (h.each i hi).rd⟩⟩
  · have := h.row.cell (i := i * 2) (by omega)
    rw [pendCell_even] at this
    simpa using this
  · have := h.row.cell (i := i * 2 + 1) (by omega)
    rw [pendCell_odd] at this
    simpa using this

theorem OwnP.rd {w : World} {B : Nat} {a : Option Addr} {m : Nat} {S : Nat → Int} {L : Nat → Nat} {F : Nat → Nat → Int} {A : Nat → Option Addr} (h : OwnP w B a m S L F A) : RdP w a m S L F := by
  rcases h with h | ⟨gC, C, rfl, h⟩
  · exact Or.inl h
  · exact h.rd

theorem OwnP.below {w w' : World} {B : Nat} {a : Option Addr} {m : Nat} {S : Nat → Int} {L : Nat → Nat} {F : Nat → Nat → Int} {A : Nat → Option Addr} (h : OwnP w B a m S L F A) (hb : Below w.heap.size w w') : OwnP w' B a m S L F A := by
  rcases h with h | ⟨gC, C, rfl, h⟩
  · exact Or.inl h
  · exact Or.inr ⟨gC, C, rfl, h.le, h.row.of_block (hb.block gC h.row.lt), fun i hi => (h.each i hi).below hb, h.apart⟩

theorem OwnB.setOther {w : World} {B : Nat} {a : Option Addr} {n : Nat} {f : Nat → Int} (h : OwnB w B a n f) {p : Addr} (hp : p.block < B) (v : Value) : OwnB (w.setCell p v) B a n f := by
  rcases h with h | ⟨g, rfl, hg, hr⟩
  · exact Or.inl h
  · exact Or.inr ⟨g, rfl, hg, hr.of_block (Below.heap_setCell _ _ _ _ (by omega))⟩

theorem OwnP.setOther {w : World} {B : Nat} {a : Option Addr} {m : Nat} {S : Nat → Int} {L : Nat → Nat} {F : Nat → Nat → Int} {A : Nat → Option Addr} (h : OwnP w B a m S L F A) {p : Addr} (hp : p.block < B) (v : Value) : OwnP (w.setCell p v) B a m S L F A := by
  rcases h with h | ⟨gC, C, rfl, h⟩
  · exact Or.inl h
  · exact Or.inr ⟨gC, C, rfl, h.le, h.row.of_block (Below.heap_setCell _ _ _ _ (by have := h.le; omega)), fun i hi => (h.each i hi).setOther hp v, h.apart⟩

theorem OwnP.mono {w : World} {B B' : Nat} {a : Option Addr} {m : Nat} {S : Nat → Int} {L : Nat → Nat} {F : Nat → Nat → Int} {A : Nat → Option Addr} (h : OwnP w B a m S L F A) (hB : B' ≤ B) : OwnP w B' a m S L F A := by
  rcases h with h | ⟨gC, C, rfl, h⟩
  · exact Or.inl h
  · exact Or.inr ⟨gC, C, rfl, by have := h.le; omega, h.row, fun i hi => (h.each i hi).mono hB, h.apart⟩

/-- A disk in the call's own memory. -/
structure OwnD (w : World) (B : Nat) (a : Option Addr) (n : Nat) (d : Nat → Int) (p : Option Addr) (m : Nat) (S : Nat → Int) (L : Nat → Nat) (F : Nat → Nat → Int) (A : Nat → Option Addr) : Prop where
  data : OwnB w B a n d
  cache : OwnP w B p m S L F A
  apart : n ≠ 0 → ∀ i, i < m → L i ≠ 0 → A i ≠ a

theorem OwnD.below {w w' : World} {B : Nat} {a : Option Addr} {n : Nat} {d : Nat → Int} {p : Option Addr} {m : Nat} {S : Nat → Int} {L : Nat → Nat} {F : Nat → Nat → Int} {A : Nat → Option Addr} (h : OwnD w B a n d p m S L F A) (hb : Below w.heap.size w w') : OwnD w' B a n d p m S L F A :=
  ⟨h.data.below hb, h.cache.below hb, h.apart⟩
theorem OwnD.mono {w : World} {B B' : Nat} {a : Option Addr} {n : Nat} {d : Nat → Int} {p : Option Addr} {m : Nat} {S : Nat → Int} {L : Nat → Nat} {F : Nat → Nat → Int} {A : Nat → Option Addr} (h : OwnD w B a n d p m S L F A) (hB : B' ≤ B) : OwnD w B' a n d p m S L F A :=
  ⟨h.data.mono hB, h.cache.mono hB, h.apart⟩
theorem OwnD.setOther {w : World} {B : Nat} {a : Option Addr} {n : Nat} {d : Nat → Int} {p : Option Addr} {m : Nat} {S : Nat → Int} {L : Nat → Nat} {F : Nat → Nat → Int} {A : Nat → Option Addr} (h : OwnD w B a n d p m S L F A) {x : Addr} (hp : x.block < B) (v : Value) : OwnD (w.setCell x v) B a n d p m S L F A :=
  ⟨h.data.setOther hp v, h.cache.setOther hp v, h.apart⟩

/-- A box of four cells that has been laid, later on. -/
theorem box4 {W w' : World} {v0 v1 v2 v3 : Value} {t : TypeId} (hb : Below (W.heap.size + 1) (W.alloc (.cells #[v0, v1, v2, v3] t)) w') :
    w'.cell? ⟨W.heap.size, 0, none⟩ = some v0 ∧ w'.cell? ⟨W.heap.size, 1, none⟩ = some v1 ∧ w'.cell? ⟨W.heap.size, 2, none⟩ = some v2 ∧ w'.cell? ⟨W.heap.size, 3, none⟩ = some v3 ∧ W.heap.size < w'.heap.size := by
  have hs := hb.size
  refine ⟨?_, ?_, ?_, ?_, by simp at hs; omega⟩ <;> (rw [hb.cell (by simp)]; simp)

/-- A slice of bytes handed back, that can be read. -/
def RetRd (w : World) (e : Ending) (w' : World) (r : Nat) (f : Nat → Int) : Prop :=
  ∃ a' c', e = .returned (.slice a' r c') ∧ Rd .u8 w' a' r f ∧ Below w.heap.size w w'
/-- A slice of bytes handed back in new memory. -/
def RetOwn (w : World) (e : Ending) (w' : World) (r : Nat) (f : Nat → Int) : Prop :=
  ∃ a' c', e = .returned (.slice a' r c') ∧ OwnB w' w.heap.size a' r f ∧ Below w.heap.size w w' ∧ r ≤ c' ∧ c' ≤ 9223372036854775807

/-- Where the marks begin: before write i. -/
def koff (L : Nat → Nat) (k0 : Int) : Nat → Int
  | 0 => k0
  | i + 1 => koff L k0 i + 1 + L i

theorem koff_ge (L : Nat → Nat) (k0 : Int) (i : Nat) : k0 + i ≤ koff L k0 i := by
  induction i with
  | zero => simp [koff]
  | succ i ih => simp only [koff]; omega

theorem koff_le (L : Nat → Nat) (k0 : Int) (m : Nat) (b : Nat) (hL : ∀ i, i < m → L i ≤ b) (i : Nat) (hi : i ≤ m) : koff L k0 i ≤ k0 + i * (1 + b) := by
  induction i with
  | zero => simp [koff]
  | succ i ih =>
    have h1 := ih (by omega)
    have h2 := hL i (by omega)
    simp only [koff]
    have e : ((i + 1 : Nat) : Int) * (1 + (b : Int)) = (i : Int) * (1 + (b : Int)) + (1 + (b : Int)) := by
      rw [Int.natCast_add, Int.add_mul]; simp
    rw [e]
    omega
end Go.Proofs.Ytbpcafcipncloaa
