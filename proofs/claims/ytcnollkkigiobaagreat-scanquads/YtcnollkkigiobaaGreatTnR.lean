import Derived.Test.YtcnollkkigiobaaGreatRows
import Derived.Test.YtcnollkkigiobaaGreatOwn
import Derived.Test.YtcnollkkigiobaaGreatStrO
namespace Go.Proofs.YtcnollkkigiobaaGreat
open Go.RowKit Go.Deep
set_option linter.unusedVariables false
set_option maxRecDepth 100000

/-- A node as it is told: leaf or not, its keys, its children's numbers, its count. -/
structure Tn where
  lf : Bool
  kn : Nat
  ks : Nat → ByteArray
  dn : Nat
  kd : Nat → Int
  ct : Int

/-- The four cells of a node that can be read. -/
def TnAt (w : World) (x : Tn) (v0 v1 v2 v3 : Value) : Prop :=
  v0 = .bool x.lf ∧ v3 = .int .i64 x.ct ∧ ∃ ka kc da dc, v1 = .slice ka x.kn kc ∧ v2 = .slice da x.dn dc ∧ RdS w ka x.kn x.ks ∧ Rd .i64 w da x.dn x.kd

/-- A slice of nodes that can be read. -/
def RdTn (w : World) (a : Option Addr) (n : Nat) (N : Nat → Tn) : Prop :=
  n = 0 ∨ ∃ b o, a = some ⟨b, o, none⟩ ∧ ∀ i, i < n → ∃ ka kc da dc, w.cell? ⟨b, o + i * 4, none⟩ = some (.bool (N i).lf) ∧ w.cell? ⟨b, o + i * 4 + 1, none⟩ = some (.slice ka (N i).kn kc) ∧
    w.cell? ⟨b, o + i * 4 + 2, none⟩ = some (.slice da (N i).dn dc) ∧ w.cell? ⟨b, o + i * 4 + 3, none⟩ = some (.int .i64 (N i).ct) ∧ RdS w ka (N i).kn (N i).ks ∧ Rd .i64 w da (N i).dn (N i).kd

theorem RdTn.below {w w' : World} {a : Option Addr} {n : Nat} {N : Nat → Tn} (h : RdTn w a n N) (hb : Below w.heap.size w w') : RdTn w' a n N := by
  rcases h with h | ⟨b, o, rfl, hc⟩
  · exact Or.inl h
  · refine Or.inr ⟨b, o, rfl, fun i hi => ?_⟩
    obtain ⟨ka, kc, da, dc, h0, h1, h2, h3, h4, h5⟩ := hc i hi
    refine ⟨ka, kc, da, dc, ?_, ?_, ?_, ?_, h4.below hb, h5.below hb⟩
    · rw [hb.cell (World.block_lt_of_cell? _ _ h0)]; exact h0
    · rw [hb.cell (World.block_lt_of_cell? _ _ h1)]; exact h1
    · rw [hb.cell (World.block_lt_of_cell? _ _ h2)]; exact h2
    · rw [hb.cell (World.block_lt_of_cell? _ _ h3)]; exact h3

/-- The cells of a row of nodes: four for each. -/
def tnCell (N : Nat → Tn) (KA DA : Nat → Option Addr) (KC DC : Nat → Nat) (c : Nat) : Value :=
  if c % 4 = 0 then .bool (N (c / 4)).lf else if c % 4 = 1 then .slice (KA (c / 4)) (N (c / 4)).kn (KC (c / 4)) else if c % 4 = 2 then .slice (DA (c / 4)) (N (c / 4)).dn (DC (c / 4)) else .int .i64 (N (c / 4)).ct

section
variable (N : Nat → Tn) (KA DA : Nat → Option Addr) (KC DC : Nat → Nat) (i : Nat)
theorem tnCell_0 : tnCell N KA DA KC DC (i * 4) = .bool (N i).lf := by
  unfold tnCell
  rw [if_pos (by omega), show i * 4 / 4 = i by omega]
theorem tnCell_1 : tnCell N KA DA KC DC (i * 4 + 1) = .slice (KA i) (N i).kn (KC i) := by
  unfold tnCell
  rw [if_neg (by omega), if_pos (by omega), show (i * 4 + 1) / 4 = i by omega]
theorem tnCell_2 : tnCell N KA DA KC DC (i * 4 + 2) = .slice (DA i) (N i).dn (DC i) := by
  unfold tnCell
  rw [if_neg (by omega), if_neg (by omega), if_pos (by omega), show (i * 4 + 2) / 4 = i by omega]
theorem tnCell_3 : tnCell N KA DA KC DC (i * 4 + 3) = .int .i64 (N i).ct := by
  unfold tnCell
  rw [if_neg (by omega), if_neg (by omega), if_neg (by omega), show (i * 4 + 3) / 4 = i by omega]
end

/-- A slice of int64 in the call's own memory. -/
def OwnI (w : World) (B : Nat) (a : Option Addr) (n : Nat) (f : Nat → Int) : Prop :=
  n = 0 ∨ ∃ g, a = some ⟨g, 0, none⟩ ∧ B ≤ g ∧ rowIn w g 2 n (fun i => .int .i64 (f i))

theorem OwnI.rd {w : World} {B : Nat} {a : Option Addr} {n : Nat} {f : Nat → Int} (h : OwnI w B a n f) : Rd .i64 w a n f := by
  rcases h with h | ⟨g, rfl, _, hr⟩
  · exact Or.inl h
  · exact Or.inr ⟨g, 0, rfl, fun i hi => by rw [Nat.zero_add]; exact hr.cell hi⟩
theorem OwnI.mono {w : World} {B B' : Nat} {a : Option Addr} {n : Nat} {f : Nat → Int} (h : OwnI w B a n f) (hB : B' ≤ B) : OwnI w B' a n f := by
  rcases h with h | ⟨g, rfl, hg, hr⟩
  · exact Or.inl h
  · exact Or.inr ⟨g, rfl, by omega, hr⟩
theorem OwnI.below {w w' : World} {B : Nat} {a : Option Addr} {n : Nat} {f : Nat → Int} (h : OwnI w B a n f) (hb : Below w.heap.size w w') : OwnI w' B a n f := by
  rcases h with h | ⟨g, rfl, hg, hr⟩
  · exact Or.inl h
  · exact Or.inr ⟨g, rfl, hg, hr.of_block (hb.block g hr.lt)⟩

/-- A row of nodes in the call's own memory, keys and children's numbers in memory of its own. -/
structure OwnTn (w : World) (B g n : Nat) (N : Nat → Tn) (KA DA : Nat → Option Addr) (KC DC : Nat → Nat) : Prop where
  le : B ≤ g
  row : rowIn w g 168 (n * 4) (tnCell N KA DA KC DC)
  keys : ∀ i, i < n → OwnS w B (KA i) (N i).kn (N i).ks
  kids : ∀ i, i < n → OwnI w B (DA i) (N i).dn (N i).kd
  apartK : ∀ i j, i < n → j < n → i ≠ j → (N i).kn ≠ 0 → (N j).kn ≠ 0 → KA i ≠ KA j
  apartD : ∀ i j, i < n → j < n → i ≠ j → (N i).dn ≠ 0 → (N j).dn ≠ 0 → DA i ≠ DA j

theorem OwnTn.rd {w : World} {B g n : Nat} {N : Nat → Tn} {KA DA : Nat → Option Addr} {KC DC : Nat → Nat} (h : OwnTn w B g n N KA DA KC DC) : RdTn w (some ⟨g, 0, none⟩) n N := by
  refine Or.inr ⟨g, 0, rfl, fun i hi => ⟨KA i, KC i, DA i, DC i, ?_, ?_, ?_, ?_, (h.keys i hi).rd, (h.kids i hi).rd⟩⟩
  · have := h.row.cell (i := i * 4) (by omega)
    rw [tnCell_0] at this
    simpa using this
  · have := h.row.cell (i := i * 4 + 1) (by omega)
    rw [tnCell_1] at this
    simpa using this
  · have := h.row.cell (i := i * 4 + 2) (by omega)
    rw [tnCell_2] at this
    simpa using this
  · have := h.row.cell (i := i * 4 + 3) (by omega)
    rw [tnCell_3] at this
    simpa using this
end Go.Proofs.YtcnollkkigiobaaGreat
