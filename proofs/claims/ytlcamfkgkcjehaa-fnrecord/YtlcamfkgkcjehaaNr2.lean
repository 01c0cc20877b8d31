import Derived.Test.YtlcamfkgkcjehaaNr1
import Derived.Test.YtlcamfkgkcjehaaRows
import Derived.Deep.Upon
import Derived.WalkSpells
import Derived.ProofKit
import Derived.OpenShut
import Derived.Lib.SmallJoins
import Derived.Deep.SlicePairs
namespace Go.Proofs.Ytlcamfkgkcjehaa
open Go.RowKit Go.Deep

/-- A slice of pending writes that can be read: sectors S, lengths L, bytes F. -/
def RdP (w : World) (a : Option Addr) (m : Nat) (S : Nat → Int) (L : Nat → Nat) (F : Nat → Nat → Int) : Prop :=
  m = 0 ∨ ∃ b o, a = some ⟨b, o, none⟩ ∧ ∀ i, i < m → w.cell? ⟨b, o + i * 2, none⟩ = some (.int .i64 (S i)) ∧
    ∃ ad cp, w.cell? ⟨b, o + i * 2 + 1, none⟩ = some (.slice ad (L i) cp) ∧ Rd .u8 w ad (L i) (F i)

theorem RdP.below {w w' : World} {a : Option Addr} {m : Nat} {S : Nat → Int} {L : Nat → Nat} {F : Nat → Nat → Int} (h : RdP w a m S L F) (hb : Below w.heap.size w w') : RdP w' a m S L F := by
  rcases h with h | ⟨b, o, rfl, hc⟩
  · exact Or.inl h
  · refine Or.inr ⟨b, o, rfl, fun i hi => ?_⟩
    obtain ⟨h1, ad, cp, h2, h3⟩ := hc i hi
    refine ⟨?_, ad, cp, ?_, h3.below hb⟩
    · rw [hb.cell (p := ⟨b, o + i * 2, none⟩) (World.block_lt_of_cell? _ _ h1)]; exact h1
    · rw [hb.cell (p := ⟨b, o + i * 2 + 1, none⟩) (World.block_lt_of_cell? _ _ h2)]; exact h2

theorem RdP.congr {w : World} {a : Option Addr} {m : Nat} {S S' : Nat → Int} {L : Nat → Nat} {F F' : Nat → Nat → Int} (h : RdP w a m S L F) (hS : ∀ i, i < m → S i = S' i) (hF : ∀ i, i < m → ∀ j, j < L i → F i j = F' i j) : RdP w a m S' L F' := by
  rcases h with h | ⟨b, o, rfl, hc⟩
  · exact Or.inl h
  · refine Or.inr ⟨b, o, rfl, fun i hi => ?_⟩
    obtain ⟨h1, ad, cp, h2, h3⟩ := hc i hi
    exact ⟨by rw [← hS i hi]; exact h1, ad, cp, h2, h3.congr (hF i hi)⟩

/-- The cells of a row of pending writes: two for each. -/
def pendCell (S : Nat → Int) (A : Nat → Option Addr) (L C : Nat → Nat) (c : Nat) : Value :=
  if c % 2 = 0 then .int .i64 (S (c / 2)) else .slice (A (c / 2)) (L (c / 2)) (C (c / 2))

theorem pendCell_even (S : Nat → Int) (A : Nat → Option Addr) (L C : Nat → Nat) (i : Nat) : pendCell S A L C (i * 2) = .int .i64 (S i) := by
  unfold pendCell
  rw [if_pos (by omega), show i * 2 / 2 = i by omega]

theorem pendCell_odd (S : Nat → Int) (A : Nat → Option Addr) (L C : Nat → Nat) (i : Nat) : pendCell S A L C (i * 2 + 1) = .slice (A i) (L i) (C i) := by
  unfold pendCell
  rw [if_neg (by omega), show (i * 2 + 1) / 2 = i by omega]

/-- A slice of pending writes in the call's own memory, each with bytes of its own. -/
structure OwnPA (w : World) (B : Nat) (gC m : Nat) (S : Nat → Int) (L : Nat → Nat) (F : Nat → Nat → Int) (A : Nat → Option Addr) (C : Nat → Nat) : Prop where
  le : B ≤ gC
  row : rowIn w gC 49 (m * 2) (pendCell S A L C)
  each : ∀ i, i < m → OwnB w B (A i) (L i) (F i)
  apart : ∀ i j, i < m → j < m → i ≠ j → L i ≠ 0 → L j ≠ 0 → A i ≠ A j

def OwnP (w : World) (B : Nat) (a : Option Addr) (m : Nat) (S : Nat → Int) (L : Nat → Nat) (F : Nat → Nat → Int) (A : Nat → Option Addr) : Prop :=
  m = 0 ∨ ∃ gC C, a = some ⟨gC, 0, none⟩ ∧ OwnPA w B gC m S L F A C

theorem OwnPA.rd {w : World} {B gC m : Nat} {S : Nat → Int} {L : Nat → Nat} {F : Nat → Nat → Int} {A : Nat → Option Addr} {C : Nat → Nat} (h : OwnPA w B gC m S L F A C) : RdP w (some ⟨gC, 0, none⟩) m S L F := by
  refine Or.inr ⟨gC, 0, rfl, fun i hi => ⟨?_, A i, C i, ?_, (h.each i hi).rd⟩⟩
  · have := h.row.cell (i := i * 2) (by omega)
    rw [pendCell_even] at this
    simpa using this
  · have := h.row.cell (i := i * 2 + 1) (by omega)
    rw [pendCell_odd] at this
    simpa using this

theorem OwnP.rd {w : World} {B : Nat} {a : Option Addr} {m : Nat} {S : Nat → Int} {L : Nat → Nat} {F : Nat → Nat → Int} {A : Nat → Option Addr} (h : OwnP w B a m S L F A) : RdP w a m S L F := by
  rcases h with h | ⟨gC, C, rfl, h⟩
  · exact Or.inl h
  · exact h.rd

theorem OwnP.below {w w' : World} {B : Nat} {a : Option Addr} {m : Nat} {S : Nat → Int} {L : Nat → Nat} {F : Nat → Nat → Int} {A : Nat → Option Addr} (h : OwnP w B a m S L F A) (hb : Below w.heap.size w w') : OwnP w' B a m S L F A := by
  rcases h with h | ⟨gC, C, rfl, h⟩
  · exact Or.inl h
  · exact Or.inr ⟨gC, C, rfl, h.le, h.row.of_block (hb.block gC h.row.lt), fun i hi => (h.each i hi).below hb, h.apart⟩

theorem OwnB.setOther {w : World} {B : Nat} {a : Option Addr} {n : Nat} {f : Nat → Int} (h : OwnB w B a n f) {p : Addr} (hp : p.block < B) (v : Value) : OwnB (w.setCell p v) B a n f := by
  rcases h with h | ⟨g, rfl, hg, hr⟩
  · exact Or.inl h
  · exact Or.inr ⟨g, rfl, hg, hr.of_block (Below.heap_setCell _ _ _ _ (by omega))⟩

theorem OwnP.setOther {w : World} {B : Nat} {a : Option Addr} {m : Nat} {S : Nat → Int} {L : Nat → Nat} {F : Nat → Nat → Int} {A : Nat → Option Addr} (h : OwnP w B a m S L F A) {p : Addr} (hp : p.block < B) (v : Value) : OwnP (w.setCell p v) B a m S L F A := by
  rcases h with h | ⟨gC, C, rfl, h⟩
  · exact Or.inl h
  · exact Or.inr ⟨gC, C, rfl, h.le, h.row.of_block (Below.heap_setCell _ _ _ _ (by have := h.le; omega)), fun i hi => (h.each i hi).setOther hp v, h.apart⟩

theorem OwnP.mono {w : World} {B B' : Nat} {a : Option Addr} {m : Nat} {S : Nat → Int} {L : Nat → Nat} {F : Nat → Nat → Int} {A : Nat → Option Addr} (h : OwnP w B a m S L F A) (hB : B' ≤ B) : OwnP w B' a m S L F A := by
  rcases h with h | ⟨gC, C, rfl, h⟩
  · exact Or.inl h
  · exact Or.inr ⟨gC, C, rfl, by have := h.le; omega, h.row, fun i hi => (h.each i hi).mono hB, h.apart⟩

/-- A disk in the call's own memory. -/
structure OwnD (w : World) (B : Nat) (a : Option Addr) (n : Nat) (d : Nat → Int) (p : Option Addr) (m : Nat) (S : Nat → Int) (L : Nat → Nat) (F : Nat → Nat → Int) (A : Nat → Option Addr) : Prop where
  data : OwnB w B a n d
  cache : OwnP w B p m S L F A
  apart : n ≠ 0 → ∀ i, i < m → L i ≠ 0 → A i ≠ a

theorem OwnD.below {w w' : World} {B : Nat} {a : Option Addr} {n : Nat} {d : Nat → Int} {p : Option Addr} {m : Nat} {S : Nat → Int} {L : Nat → Nat} {F : Nat → Nat → Int} {A : Nat → Option Addr} (h : OwnD w B a n d p m S L F A) (hb : Below w.heap.size w w') : OwnD w' B a n d p m S L F A :=
  ⟨h.data.below hb, h.cache.below hb, h.apart⟩
theorem OwnD.mono {w : World} {B B' : Nat} {a : Option Addr} {n : Nat} {d : Nat → Int} {p : Option Addr} {m : Nat} {S : Nat → Int} {L : Nat → Nat} {F : Nat → Nat → Int} {A : Nat → Option Addr} (h : OwnD w B a n d p m S L F A) (hB : B' ≤ B) : OwnD w B' a n d p m S L F A :=
  ⟨h.data.mono hB, h.cache.mono hB, h.apart⟩
theorem OwnD.setOther {w : World} {B : Nat} {a : Option Addr} {n : Nat} {d : Nat → Int} {p : Option Addr} {m : Nat} {S : Nat → Int} {L : Nat → Nat} {F : Nat → Nat → Int} {A : Nat → Option Addr} (h : OwnD w B a n d p m S L F A) {x : Addr} (hp : x.block < B) (v : Value) : OwnD (w.setCell x v) B a n d p m S L F A :=
  ⟨h.data.setOther hp v, h.cache.setOther hp v, h.apart⟩

/-- A box of four cells that has been laid, later on. -/
theorem box4 {W w' : World} {v0 v1 v2 v3 : Value} {t : TypeId} (hb : Below (W.heap.size + 1) (W.alloc (.cells #[v0, v1, v2, v3] t)) w') :
    w'.cell? ⟨W.heap.size, 0, none⟩ = some v0 ∧ w'.cell? ⟨W.heap.size, 1, none⟩ = some v1 ∧ w'.cell? ⟨W.heap.size, 2, none⟩ = some v2 ∧ w'.cell? ⟨W.heap.size, 3, none⟩ = some v3 ∧ W.heap.size < w'.heap.size := by
  have hs := hb.size
  refine ⟨?_, ?_, ?_, ?_, by simp at hs; omega⟩ <;> (rw [hb.cell (by simp)]; simp)

/-- A slice of bytes handed back, that can be read. -/
def RetRd (w : World) (e : Ending) (w' : World) (r : Nat) (f : Nat → Int) : Prop :=
  ∃ a' c', e = .returned (.slice a' r c') ∧ Rd .u8 w' a' r f ∧ Below w.heap.size w w'
/-- A slice of bytes handed back in new memory. -/
def RetOwn (w : World) (e : Ending) (w' : World) (r : Nat) (f : Nat → Int) : Prop :=
  ∃ a' c', e = .returned (.slice a' r c') ∧ OwnB w' w.heap.size a' r f ∧ Below w.heap.size w w' ∧ r ≤ c' ∧ c' ≤ 9223372036854775807

/-- Where the marks begin: before write i. -/
def koff (L : Nat → Nat) (k0 : Int) : Nat → Int
  | 0 => k0
  | i + 1 => koff L k0 i + 1 + L i

end Go.Proofs.Ytlcamfkgkcjehaa

namespace Go.Proofs.Ytlcamfkgkcjehaa
open Go.RowKit Go.Deep
set_option maxRecDepth 100000

/-- The cells of a row of bytes. -/
def byteRow (f : Nat → Int) (n : Nat) : List Value := (List.range n).map fun i => .int .u8 (f i)

theorem byteRow_length (f : Nat → Int) (n : Nat) : (byteRow f n).length = n := by simp [byteRow]
theorem byteRow_get (f : Nat → Int) (n i : Nat) (h : i < n) : (byteRow f n)[i]? = some (.int .u8 (f i)) := by simp [byteRow, h]

/-- Bytes that can be read, appended to bytes of the call's own. -/
theorem wpList_append_rd {w : World} {ops : Array Oper} {rest : List Oper} {o : Oper} {act : Act} {Q : Exit → Act → World → Prop} (hgd : o.guard = none) (s x : Operand)
    (ho : o.op = .call { callee := .builtin .append, args := #[s, x], argTypes := #[22, 22] })
    (B : Nat) (v : Value) (n : Nat) (xs : List Value) (hs : act.eval s = v) (hown : w.ownsRow B 5 1 v n xs)
    (a : Option Addr) (m c : Nat) (f : Nat → Int) (hx : act.eval x = .slice a m c) (hrd : Rd .u8 w a m f) (hnm : n + m ≤ 1099511627776) (hB : B ≤ w.heap.size)
    (h : ∀ v' w', w'.ownsRow B 5 1 v' (n + m) (xs ++ byteRow f m) → w.grownBy w' v.ownBlock → wpList Try.prog ops Q rest (act.put o.dst v') w') : wpList Try.prog ops Q (o :: rest) act w := by
  obtain ⟨i0, hi, hz0, hz1, hz2⟩ := info_parts Try.info5
  by_cases hm : m = 0
  · subst hm
    have hsrc : Src Try.prog i0.size 22 (.slice a 0 c) 0 [] w := by
      cases a with
      | none => exact Src.ofNil w Try.underlying22 c
      | some ad => exact Src.ofSlice w Try.underlying22 ad 0 c [] (by simp) (by simp) (by simp)
    have hsh : ∃ b l cap, v = .slice b l cap ∧ l ≤ cap := by
      rcases hown.2 with ⟨rfl, rfl⟩ | ⟨g, cap, cur, rfl, _, _, h1, _⟩
      · exact ⟨none, 0, 0, rfl, Nat.le_refl _⟩
      · exact ⟨_, n, cap, rfl, h1⟩
    obtain ⟨b, l, cap, hvv, hlc⟩ := hsh
    have hrun := run_append_nothing (P := Try.prog) w 22 22 o.type 5 i0 Try.underlying22 hi b l cap hlc (.slice a 0 c) hsrc
    rw [← hvv] at hrun
    refine wpList_plain hgd fun K hK => ?_
    unfold Oper.wp
    simp [execOp, ho, resolve, invoke, builtin, hs, hx, hrun, Result.andThen]
    exact hK _ _ (h v w (by simpa [byteRow] using hown) ⟨rfl, rfl, rfl, Nat.le_refl _, fun _ _ _ => rfl⟩)
  · rcases hrd with h0 | ⟨b, off, rfl, hc⟩
    · exact absurd h0 hm
    · refine wpList_append_own w hgd s x 22 ho B 5 i0 (.int .u8 0) 1 1 Try.underlying22 hi hz0 hz1 hz2 rfl (by decide) v n xs hs hown ⟨b, off, none⟩ m c (byteRow f m) hx (by simp [byteRow]) (fun j u hj => ?_) (fun u hu => ?_) (by unfold maxLen; omega) (by omega) hB (fun v' w' h1 h2 _ => h v' w' h1 h2)
      · have hjm : j < m := by
          have := (List.getElem?_eq_some_iff.1 hj).1
          rwa [byteRow_length] at this
        rw [byteRow_get f m j hjm] at hj
        injection hj with hj
        subst hj
        have e : (Addr.add ⟨b, off, none⟩ j) = ⟨b, off + j, none⟩ := by
          unfold Addr.add
          by_cases h : j = 0
          · subst h; simp
          · simp [h]
        rw [e]
        exact hc j hjm
      · simp only [byteRow, List.mem_map] at hu
        obtain ⟨i, _, rfl⟩ := hu
        rfl

theorem ownB_ofRow {w : World} {B : Nat} {v : Value} {n : Nat} {f : Nat → Int} (h : w.ownsRow B 5 1 v n (byteRow f n)) : ∃ a c, v = .slice a n c ∧ OwnB w B a n f ∧ n ≤ c ∧ c ≤ 9223372036854775807 := by
  obtain ⟨_, h⟩ := h
  rcases h with ⟨rfl, rfl⟩ | ⟨g, cap, cur, rfl, hg, hh, h1, h2, h3, h4⟩
  · exact ⟨none, 0, rfl, Or.inl rfl, Nat.le_refl _, by omega⟩
  · unfold maxLen at h2
    refine ⟨_, cap, rfl, Or.inr ⟨g, rfl, hg, cur, hh, by omega, fun i hi => ?_⟩, h1, h2⟩
    rw [← byteRow_get f n i hi, ← h4]
    have : i < n * 1 := by omega
    rw [List.getElem?_take, if_pos this]
    simp

set_option maxHeartbeats 400000 in
theorem copyBytes_any (a : Option Addr) (n c : Nat) (f : Nat → Int) (w : World) (h : Rd .u8 w a n f) (hn : n ≤ 1048576) :
    Calls Try.prog 25 #[.slice a n c] w fun e w' => RetOwn w e w' n f := by
  have HR : Hid (Rd .u8 w a n f) := h
  clear h
  go_enter Try.func25, Try.ntmps25
  go_wp2_with (at_builtin; refine wpList_append_rd rfl _ _ rfl w.heap.size (.slice none 0 0) 0 [] rfl (World.ownsRow_nil _ _ _ _) a n c f rfl HR.out (by omega) (Nat.le_refl _) ?_)
  intro v' w' ho hg
  have HB : Hid (Below w.heap.size w w') := (Below.refl _ _).grown hg (Nat.le_refl _) (fun k e => by simp [Value.ownBlock] at e)
  obtain ⟨a', c', rfl, h1, h2, h3⟩ := ownB_ofRow ho
  have H1 : Hid (OwnB w' w.heap.size a' n f) := h1
  clear ho hg h1
  go_wp2
  go_ret
  exact ⟨a', c', rfl, H1.out, HB.out, h2, h3⟩
end Go.Proofs.Ytlcamfkgkcjehaa

namespace Go.Proofs.Ytlcamfkgkcjehaa
open Go.RowKit Go.Deep

theorem Try.info49 : (Try.prog.info? 49).map (fun i => (i.zero, i.size, i.bytes)) = some (some (.agg #[.int .i64 0, .slice none 0 0]), 2, 32) := by kernel_rfl

/-- A write put into its place among those that the call has made. -/
theorem OwnPA.put {w w2 : World} {B gC m : Nat} {S : Nat → Int} {L : Nat → Nat} {F : Nat → Nat → Int} {A : Nat → Option Addr} {C : Nat → Nat} (h : OwnPA w B gC m S L F A C) (hB : B ≤ w.heap.size) (hb : Below w.heap.size w w2) (k : Nat) (s : Int) (g n c : Nat) (f : Nat → Int)
    (hg : w.heap.size ≤ g) (hr : rowIn w2 g 5 n (fun i => .int .u8 (f i))) :
    OwnPA ((w2.setCell ⟨gC, k * 2, none⟩ (.int .i64 s)).setCell ⟨gC, k * 2 + 1, none⟩ (.slice (some ⟨g, 0, none⟩) n c)) B gC m (fun i => if i = k then s else S i) (fun i => if i = k then n else L i) (fun i => if i = k then f else F i)
      (fun i => if i = k then some ⟨g, 0, none⟩ else A i) (fun i => if i = k then c else C i) := by
  have hrow2 : rowIn w2 gC 49 (m * 2) (pendCell S A L C) := h.row.of_block (hb.block gC h.row.lt)
  have hne : g ≠ gC := hr.ne hrow2 (by decide)
  refine ⟨h.le, ((hrow2.set (k * 2) _).set (k * 2 + 1) _).congr (fun x hx => ?_), fun i hi => ?_, fun i j hi hj hij hl1 hl2 => ?_⟩
  · unfold pendCell
    by_cases e1 : x = k * 2 + 1
    · subst e1
      have q1 : ¬ (k * 2 + 1) % 2 = 0 := by omega
      have q2 : (k * 2 + 1) / 2 = k := by omega
      simp only [if_true, q1, q2, if_false]
    · by_cases e2 : x = k * 2
      · subst e2
        have q1 : (k * 2) % 2 = 0 := by omega
        have q2 : (k * 2) / 2 = k := by omega
        simp [q1, q2]
      · have q : ¬ x / 2 = k := by omega
        simp only [if_neg e1, if_neg e2, q, if_false]
  · by_cases e : i = k
    · subst e
      simp only [if_true]
      exact Or.inr ⟨g, rfl, by omega, (hr.setOther (by simpa using hne) _).setOther (by simpa using hne) _⟩
    · simp only [if_neg e]
      rcases (h.each i hi).below hb with h0 | ⟨g', hA, hg', hr'⟩
      · exact Or.inl h0
      · have hne' : g' ≠ gC := hr'.ne hrow2 (by decide)
        exact Or.inr ⟨g', hA, hg', (hr'.setOther (by simpa using hne') _).setOther (by simpa using hne') _⟩
  · have key : ∀ j, j < m → L j ≠ 0 → A j ≠ some ⟨g, 0, none⟩ := by
      intro j hj hl e
      rcases h.each j hj with h0 | ⟨g', hA, hg', hr'⟩
      · exact hl h0
      · rw [hA] at e
        injection e with e
        injection e with e
        have := hr'.lt
        omega
    by_cases e1 : i = k
    · by_cases e2 : j = k
      · omega
      · simp only [if_pos e1, if_neg e2] at hl2 ⊢
        exact fun e => key j hj hl2 e.symm
    · by_cases e2 : j = k
      · simp only [if_neg e1, if_pos e2] at hl1 ⊢
        exact key i hi hl1
      · simp only [if_neg e1, if_neg e2] at hl1 hl2 ⊢
        exact h.apart i j hi hj hij hl1 hl2

end Go.Proofs.Ytlcamfkgkcjehaa

namespace Go.Proofs.Ytlcamfkgkcjehaa
open Go.RowKit Go.Deep

/-- w' is w but for the row of writes and their bytes. -/
structure OnlyP (gC m : Nat) (L : Nat → Nat) (A : Nat → Option Addr) (w w' : World) : Prop where
  os : w'.os = w.os
  tape : w'.tape = w.tape
  output : w'.output = w.output
  size : w'.heap.size = w.heap.size
  block : ∀ g, g ≠ gC → (∀ i, i < m → L i ≠ 0 → A i ≠ some ⟨g, 0, none⟩) → w'.heap[g]? = w.heap[g]?

theorem OnlyP.refl (gC m : Nat) (L : Nat → Nat) (A : Nat → Option Addr) (w : World) : OnlyP gC m L A w w := ⟨rfl, rfl, rfl, rfl, fun _ _ _ => rfl⟩

theorem OnlyP.below {B gC m : Nat} {L : Nat → Nat} {A : Nat → Option Addr} {w w' : World} (h : OnlyP gC m L A w w') (hC : B ≤ gC) (hA : ∀ i, i < m → L i ≠ 0 → ∀ x, A i = some x → B ≤ x.block) : Below B w w' :=
  ⟨h.os, h.tape, h.output, by rw [h.size]; exact Nat.le_refl _, fun k hk => h.block k (by omega) (fun i hi hl e => by have := hA i hi hl _ e; simp at this; omega)⟩

end Go.Proofs.Ytlcamfkgkcjehaa

namespace Go.Proofs.Ytlcamfkgkcjehaa
open Go.RowKit Go.Deep

def VH (n m : Nat) (fuel : Int) : Prop := n % 64 = 0 ∧ 16 ≤ n / 64 ∧ n / 64 ≤ 1024 ∧ m ≤ 2000 ∧ -1 ≤ fuel ∧ fuel ≤ 1000000
def VP (n : Nat) (S : Nat → Int) (L : Nat → Nat) (i : Nat) : Prop := 0 ≤ S i ∧ S i < (n : Int) / 64 ∧ L i = 64
/-- A valid disk, as chapter 1 has it. -/
def VD (n m : Nat) (S : Nat → Int) (L : Nat → Nat) (fuel : Int) : Prop := VH n m fuel ∧ ∀ i, i < m → VP n S L i

theorem not_VD_of_VH {n m : Nat} {S : Nat → Int} {L : Nat → Nat} {fuel : Int} (h : ¬ VH n m fuel) : ¬ VD n m S L fuel := fun k => h k.1
theorem not_VD_of_VP {n m : Nat} {S : Nat → Int} {L : Nat → Nat} {fuel : Int} {i : Nat} (hi : i < m) (h : ¬ VP n S L i) : ¬ VD n m S L fuel := fun k => h (k.2 i hi)
/-- The answer says whether p. -/
def AnsB (e : Ending) (p : Prop) : Prop := ∃ b : Bool, e = .returned (.bool b) ∧ (b = true ↔ p)
theorem AnsB.yes {p : Prop} (h : p) : AnsB (.returned (.bool true)) p := ⟨true, rfl, fun _ => h, fun _ => rfl⟩
theorem AnsB.no {p : Prop} (h : ¬ p) : AnsB (.returned (.bool false)) p := ⟨false, rfl, (fun e => by cases e), fun k => absurd k h⟩
theorem AnsB.of {b : Bool} {p : Prop} (h : b = true ↔ p) : AnsB (.returned (.bool b)) p := ⟨b, rfl, h⟩

end Go.Proofs.Ytlcamfkgkcjehaa

namespace Go.Proofs.Ytlcamfkgkcjehaa
open Go.RowKit Go.Deep

theorem ownB_ofOwns {w : World} {B : Nat} {v : Value} {n : Nat} {xs : List Value} {f : Nat → Int} (h : w.ownsRow B 5 1 v n xs) (hx : ∀ i, i < n → xs[i]? = some (.int .u8 (f i))) : ∃ a c, v = .slice a n c ∧ OwnB w B a n f ∧ n ≤ c ∧ c ≤ maxLen := by
  obtain ⟨hl, h⟩ := h
  rcases h with ⟨rfl, rfl⟩ | ⟨g, cap, cur, rfl, hg, hh, h1, h2, h3, h4⟩
  · exact ⟨none, 0, rfl, Or.inl rfl, Nat.le_refl _, Nat.zero_le _⟩
  · refine ⟨_, cap, rfl, Or.inr ⟨g, rfl, hg, cur, hh, by omega, fun i hi => ?_⟩, h1, h2⟩
    rw [← hx i hi, ← h4]
    have : i < n * 1 := by omega
    rw [List.getElem?_take, if_pos this]
    simp

set_option maxHeartbeats 400000 in
theorem zeros_any (n : Nat) (w : World) (hn : n ≤ 1048576) :
    Calls Try.prog 41 #[.int .i64 n] w fun e w' => ∃ a c, e = .returned (.slice a n c) ∧ OwnB w' w.heap.size a n (fun _ => 0) ∧ Below w.heap.size w w' := by
  obtain ⟨i0, hi, hz0, hz1, hz2⟩ := info_parts Try.info5
  have HI : Hid (Try.prog.info? 5 = some i0 ∧ i0.zero = some (.int .u8 0) ∧ i0.size = 1 ∧ i0.bytes = 1) := ⟨hi, hz0, hz1, hz2⟩
  clear hi hz0 hz1 hz2
  go_enter Try.func41, Try.ntmps41
  go_wp2
  go_loopw [3, 4] (fun v i wr => ∃ k : Nat, k ≤ n ∧ i = .int .i64 k ∧ wr.ownsRow w.heap.size 5 1 v k (List.replicate k (.int .u8 0)) ∧ Below w.heap.size w wr) (fun _ i _ => n - (intOf i).toNat)
  case atStart => exact ⟨0, Nat.zero_le _, rfl, World.ownsRow_lit w #[] 0 (Nat.le_refl _) (Nat.zero_le _) rfl, (Below.refl _ _).alloc (Nat.le_refl _) _⟩
  case round =>
    obtain ⟨k, hk, rfl, hown, hbel⟩ := hrel
    by_cases hlt : k < n
    · have hsz := hbel.size
      have HB : Hid (Below w.heap.size w wr) := hbel
      have HO : Hid (wr.ownsRow w.heap.size 5 1 u3 k (List.replicate k (.int .u8 0))) := hown
      clear hbel hown
      go_wp2_with (at_builtin; refine wpList_append_own _ rfl _ _ 22 rfl w.heap.size 5 i0 (.int .u8 0) 1 1 Try.underlying22 HI.out.1 HI.out.2.1 HI.out.2.2.1 HI.out.2.2.2 rfl (by decide) _ k (List.replicate k (.int .u8 0)) rfl (HO.out.alloc _) ⟨wr.heap.size, 0, none⟩ 1 1 [.int .u8 0] rfl rfl ?c1 ?c2 ?c3 ?c4 ?c5 ?_)
      case c1 => exact cell_one_new _ _ _
      case c2 => intro u hu; simp at hu; subst hu; rfl
      case c3 => unfold maxLen; omega
      case c4 => omega
      case c5 => simp; omega
      · intro v' w1 hown' hgrow _
        have HX : Hid (w1.ownsRow w.heap.size 5 1 v' (k + 1) (List.replicate (k + 1) (.int .u8 0)) ∧ Below w.heap.size w w1) :=
          ⟨by rw [List.replicate_succ']; exact hown', (HB.out.alloc hsz _).grown hgrow (by simp; omega) (fun b e => (HO.out.lt b e).1)⟩
        clear hown' hgrow HO HB
        go_wp2
        go_roundw
        case rel => exact ⟨k + 1, by omega, by go_num, HX.out⟩
        case measure => simp [intOf]; omega
    · have e : k = n := by omega
      subst e
      go_wp2
      go_ret
      obtain ⟨a, c, rfl, h1, _⟩ := ownB_ofOwns (f := fun _ => 0) hown (fun i hi => by simp [hi])
      exact ⟨a, c, rfl, h1, hbel⟩

theorem zeros_at (x : Int) (n : Nat) (w : World) (hx : x = (n : Int)) (hn : n ≤ 1048576) :
    Calls Try.prog 41 #[.int .i64 x] w fun e w' => ∃ a c, e = .returned (.slice a n c) ∧ OwnB w' w.heap.size a n (fun _ => 0) ∧ Below w.heap.size w w' := by
  subst hx
  exact zeros_any n w hn
end Go.Proofs.Ytlcamfkgkcjehaa

namespace Go.Proofs.Ytlcamfkgkcjehaa
open Go.RowKit Go.Deep
set_option linter.unusedVariables false
set_option maxRecDepth 100000

set_option maxHeartbeats 400000 in
theorem until_rec (b : Nat) (c1 c2 c3 : Value) (w : World) (R : World → Prop) (h : Calls Try.prog 52 #[.pointer (some ⟨b, 0, none⟩), c1, c2, c3] w fun e w' => Stepped e ∧ R w') :
    Calls Try.prog 57 #[.pointer (some ⟨b, 0, none⟩), .func (.func 52) #[] #[c1, c2, c3]] w fun e w' => e = .returned (.tuple #[]) ∧ ∃ w1, R w1 ∧ Below w1.heap.size w1 w' := by
  have H : Hid (Calls Try.prog 52 #[.pointer (some ⟨b, 0, none⟩), c1, c2, c3] w fun e w' => Stepped e ∧ R w') := h
  clear h
  go_enter_defers Try.func57, Try.ntmps57
  go_wp2_with fail
  refine H.out.mono ?_
  rintro e w1 ⟨he | he, hR⟩
  · subst he
    go_wp2
    refine leaves_cons (f := 69) (args := #[]) (by simp) (by simp [go_sem]) ?_
    refine (catch_idle _).mono ?_
    rintro e u' w'' ⟨rfl, rfl, rfl⟩
    simp [Leaves, settle, results, Try.results57, go_sem]
    exact ⟨_, hR, Below.refl _ _⟩
  · subst he
    go_wp2
    refine leaves_cons (f := 69) (args := #[]) (by simp) (by simp [go_sem]) ?_
    refine (catch_power [] _).mono ?_
    rintro e u' w'' ⟨rfl, rfl, hb⟩
    simp [Leaves, settle, results, Try.results57, go_sem]
    exact ⟨_, hR, hb⟩
end Go.Proofs.Ytlcamfkgkcjehaa

namespace Go.Proofs.Ytlcamfkgkcjehaa
open Go.ChangeShapes Go.WideShapes Go.ChangeAt Go.RowKit Go.Deep Go.Joins
set_option maxRecDepth 100000

section
variable {H : Type} {enc : TypeId × Value → H} {W : World}

theorem spot_of {w : World} {a : Addr} {v : Value} (h : w.cell? (a.add 0) = some v) : a.spot = none := by
  obtain ⟨b, off, spot⟩ := a
  simpa [Addr.add] using World.cell?_spot h

theorem add_eq {b off i : Nat} : (Addr.add ⟨b, off, none⟩ i) = ⟨b, off + i, none⟩ := by
  unfold Addr.add
  by_cases h : i = 0
  · subst h; simp
  · simp [h]

set_option maxRecDepth 100000 in
theorem bytes_of {fuel : Nat} {cs : List Value} {x : DataW H × List MemPlace} (h : DataW.trod enc Try.prog W 0 (fun _ => true) true fuel 22 cs = some x) :
    ∃ a n c f, cs = [.slice a n c] ∧ Rd .u8 W a n f ∧ (∀ i, i < n → 0 ≤ f i ∧ f i < 256) ∧ n ≤ maxLen := by
  rcases open_ints Try.underlying22 Try.underlying5 (by kernel_rfl) h with ⟨hcs, _⟩ | ⟨y, l, c, zs, hcs, _, hl, hm, hz, _, hcell, hwz⟩
  · exact ⟨none, 0, 0, fun _ => 0, hcs, Or.inl rfl, fun i hi => absurd hi (Nat.not_lt_zero _), Nat.zero_le _⟩
  · refine ⟨_, l, c, fun i => zs.getD i 0, hcs, ?_, fun i hi => ?_, by omega⟩
    · by_cases h0 : l = 0
      · exact Or.inl h0
      · simp at hz
        obtain ⟨b, off, spot⟩ := y
        have hs := spot_of (hcell 0 (by omega))
        simp at hs
        subst hs
        exact Or.inr ⟨b, off, rfl, fun i hi => by rw [← add_eq]; exact hcell i (by omega)⟩
    · simp at hz
      have hiz : i < zs.length := by omega
      have hw := hwz (zs.getD i 0) (by rw [List.getD_eq_getElem?_getD, List.getElem?_eq_getElem hiz]; exact List.getElem_mem hiz)
      have := bounds_u8 hw
      show 0 ≤ zs.getD i 0 ∧ zs.getD i 0 < 256
      omega

/-- What the walk is told of a slice of bytes that came in. -/
def IsBytesR (w : World) (v : Value) : Prop := ∃ a n c f, v = .slice a n c ∧ Rd .u8 w a n f ∧ (∀ i, i < n → 0 ≤ f i ∧ f i < 256) ∧ n ≤ maxLen

theorem openByteR {r : Reach} {b0 : Nat} {v : Value} {d : DataW H} {p : List MemPlace} (hv : Value.okWide Try.prog W r b0 22 v) (h : DataW.Trod enc Try.prog W 0 (fun _ => true) true 22 v d p) : IsBytesR W v := by
  obtain ⟨a0, len, cap, rfl⟩ := okWide_slice Try.underlying22 hv
  obtain ⟨fuel, hf⟩ := h
  obtain ⟨a, n, c, f, hcs, h1, h3, h2⟩ := bytes_of hf
  simp [Value.cells] at hcs
  obtain ⟨rfl, rfl, rfl⟩ := hcs
  exact ⟨_, _, _, f, rfl, h1, h3, h2⟩
end
end Go.Proofs.Ytlcamfkgkcjehaa
