import Derived.Test.YtakemeccigpbaaaTgMZ
namespace Go.Proofs.Ytakemeccigpbaaa
open Go.RowKit Go.Deep
set_option linter.unusedVariables false
set_option maxRecDepth 100000

/-- Of what was there, only blocks from B on and below T have turned. -/
def WiT (B T : Nat) (w w' : World) : Prop := w'.os = w.os ∧ w'.tape = w.tape ∧ w'.output = w.output ∧ w.heap.size ≤ w'.heap.size ∧ ∀ k, k < w.heap.size → (k < B ∨ T ≤ k) → w'.heap[k]? = w.heap[k]?

theorem WiT.refl (B T : Nat) (w : World) : WiT B T w w := ⟨rfl, rfl, rfl, Nat.le_refl _, fun _ _ _ => rfl⟩
theorem WiT.trans {B T : Nat} {a b c : World} (h : WiT B T a b) (k : WiT B T b c) : WiT B T a c :=
  ⟨k.1.trans h.1, k.2.1.trans h.2.1, k.2.2.1.trans h.2.2.1, Nat.le_trans h.2.2.2.1 k.2.2.2.1, fun i hi ho => (k.2.2.2.2 i (Nat.lt_of_lt_of_le hi h.2.2.2.1) ho).trans (h.2.2.2.2 i hi ho)⟩
theorem WiT.grown {B T : Nat} {w w' : World} {r : Option Nat} (h : w.grownBy w' r) (hr : ∀ b, r = some b → B ≤ b ∧ b < T) : WiT B T w w' :=
  ⟨h.os, h.tape, h.output, h.size, fun k hk ho => h.block k hk (fun e => by have := hr k e.symm; omega)⟩
theorem WiT.below {B T : Nat} {w w' : World} (h : WiT B T w w') (hB : B ≤ w.heap.size) : Below B w w' := ⟨h.1, h.2.1, h.2.2.1, h.2.2.2.1, fun k hk => h.2.2.2.2 k (by omega) (.inl hk)⟩

/-- A row of nodes of the call's own, as many keys and children at each as N tells, whatever they are. -/
def MTn (w : World) (B g n : Nat) (N : Nat → Tn) (KA DA : Nat → Option Addr) (KC DC : Nat → Nat) : Prop :=
  ∃ N', OwnTn w B g n N' KA DA KC DC ∧ ∀ i, (N' i).kn = (N i).kn ∧ (N' i).dn = (N i).dn

section
variable {w w' : World} {B g n : Nat} {N : Nat → Tn} {KA DA : Nat → Option Addr} {KC DC : Nat → Nat}

theorem MTn.cells (h : MTn w B g n N KA DA KC DC) {k : Nat} (hk : k < n) : (∃ b, w.cell? ⟨g, k * 4, none⟩ = some (.bool b)) ∧ w.cell? ⟨g, k * 4 + 1, none⟩ = some (.slice (KA k) (N k).kn (KC k)) ∧ w.cell? ⟨g, k * 4 + 2, none⟩ = some (.slice (DA k) (N k).dn (DC k)) ∧ (∃ x, w.cell? ⟨g, k * 4 + 3, none⟩ = some (.int .i64 x)) ∧ w.frozen? ⟨g, k * 4, none⟩ = false ∧ w.frozen? ⟨g, k * 4 + 3, none⟩ = false ∧ g < w.heap.size := by
  obtain ⟨N', h, e⟩ := h
  refine ⟨⟨(N' k).lf, ?_⟩, ?_, ?_, ⟨(N' k).ct, ?_⟩, h.row.frozen _, h.row.frozen _, h.row.lt⟩
  · rw [h.row.cell (i := k * 4) (by omega), tnCell_0]
  · rw [h.row.cell (i := k * 4 + 1) (by omega), tnCell_1, (e k).1]
  · rw [h.row.cell (i := k * 4 + 2) (by omega), tnCell_2, (e k).2]
  · rw [h.row.cell (i := k * 4 + 3) (by omega), tnCell_3]

theorem MTn.of (h : MTn w B g n N KA DA KC DC) (N1 : Nat → Tn) (hrow : rowIn w' g 88 (n * 4) (tnCell N1 KA DA KC DC)) (he : ∀ i, (N1 i).kn = (N i).kn ∧ (N1 i).dn = (N i).dn) (hk : ∀ i, i < n → OwnS w' B (KA i) (N1 i).kn (N1 i).ks) (hd : ∀ i, i < n → OwnI w' B (DA i) (N1 i).dn (N1 i).kd) : MTn w' B g n N KA DA KC DC := by
  obtain ⟨N', h, e⟩ := h
  refine ⟨N1, ⟨h.le, hrow, hk, hd, fun i j hi hj hij h1 h2 => h.apartK i j hi hj hij ?_ ?_, fun i j hi hj hij h1 h2 => h.apartD i j hi hj hij ?_ ?_⟩, he⟩
  · rw [(e i).1, ← (he i).1]; exact h1
  · rw [(e j).1, ← (he j).1]; exact h2
  · rw [(e i).2, ← (he i).2]; exact h1
  · rw [(e j).2, ← (he j).2]; exact h2

theorem MTn.count (h : MTn w B g n N KA DA KC DC) (k : Nat) (v : Int) : MTn (w.setCell ⟨g, k * 4 + 3, none⟩ (.int .i64 v)) B g n N KA DA KC DC := by
  obtain ⟨N', h1, e⟩ := h
  refine MTn.of ⟨N', h1, e⟩ (fun i => if i = k then { N' k with ct := v } else N' i) ((h1.row.set (k * 4 + 3) _).congr (fun c hc => ?_)) (fun i => ?_) (fun i hi => ?_) (fun i hi => ?_)
  · by_cases e1 : c = k * 4 + 3
    · subst e1; rw [if_pos rfl, tnCell_3]; simp
    · rw [if_neg e1]
      unfold tnCell
      by_cases e2 : c / 4 = k
      · have e3 : c % 4 = 0 ∨ c % 4 = 1 ∨ c % 4 = 2 := by omega
        rcases e3 with e3 | e3 | e3 <;> simp [e2, e3]
      · simp [e2]
  · by_cases e1 : i = k
    · subst e1; simpa using e i
    · simpa [e1] using e i
  · have q : OwnS w B (KA i) ((fun i => if i = k then { N' k with ct := v } else N' i) i).kn ((fun i => if i = k then { N' k with ct := v } else N' i) i).ks := by
      by_cases e1 : i = k
      · subst e1; simpa using h1.keys i hi
      · simpa [e1] using h1.keys i hi
    rcases q with q | ⟨b, q1, q2, q3⟩
    · exact .inl q
    · exact .inr ⟨b, q1, q2, q3.of_block (Below.heap_setCell _ _ _ _ (q3.ne h1.row (by decide)))⟩
  · have q : OwnI w B (DA i) ((fun i => if i = k then { N' k with ct := v } else N' i) i).dn ((fun i => if i = k then { N' k with ct := v } else N' i) i).kd := by
      by_cases e1 : i = k
      · subst e1; simpa using h1.kids i hi
      · simpa [e1] using h1.kids i hi
    rcases q with q | ⟨b, q1, q2, q3⟩
    · exact .inl q
    · exact .inr ⟨b, q1, q2, q3.of_block (Below.heap_setCell _ _ _ _ (q3.ne h1.row (by decide)))⟩

/-- Where it lies: all of it below T. -/
def TnB (T g n : Nat) (N : Nat → Tn) (KA DA : Nat → Option Addr) (B : Nat) : Prop :=
  B ≤ g ∧ g < T ∧ (∀ i, i < n → (N i).kn ≠ 0 → ∀ b, (KA i).map (·.block) = some b → B ≤ b ∧ b < T) ∧ (∀ i, i < n → (N i).dn ≠ 0 → ∀ b, (DA i).map (·.block) = some b → B ≤ b ∧ b < T)

theorem OwnTn.bound (h : OwnTn w B g n N KA DA KC DC) : TnB w.heap.size g n N KA DA B := by
  refine ⟨h.le, h.row.lt, fun i hi h0 b hb => ?_, fun i hi h0 b hb => ?_⟩
  · obtain ⟨gi, hA, hgi, hri⟩ := (h.keys i hi).resolve_left h0
    rw [hA] at hb
    injection hb with hb
    subst hb
    exact ⟨hgi, hri.lt⟩
  · obtain ⟨gi, hA, hgi, hri⟩ := (h.kids i hi).resolve_left h0
    rw [hA] at hb
    injection hb with hb
    subst hb
    exact ⟨hgi, hri.lt⟩
end

end Go.Proofs.Ytakemeccigpbaaa
