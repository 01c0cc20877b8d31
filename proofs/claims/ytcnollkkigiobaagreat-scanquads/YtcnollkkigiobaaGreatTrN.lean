import Derived.Test.YtcnollkkigiobaaGreatTrM
import Derived.WalkKit
import Derived.Handy
import Derived.Deep.Upon
import Derived.Maps.AppendAt
namespace Go.Proofs.YtcnollkkigiobaaGreat
open Go.RowKit Go.Deep
set_option linter.unusedVariables false
set_option maxRecDepth 100000

/-- The cells of a row of nested trees: three for each. -/
def KidL {T : Type} (P : T → Value → Prop) : List T → List Value → Prop
  | [], [] => True
  | t :: ts, x0 :: x1 :: x2 :: xs => P t (.agg #[x0, x1, x2]) ∧ KidL P ts xs
  | _, _ => False

theorem KidL.len {T : Type} {P : T → Value → Prop} : ∀ {ts : List T} {xs : List Value}, KidL P ts xs → xs.length = ts.length * 3
  | [], [], _ => rfl
  | t :: ts, x0 :: x1 :: x2 :: xs, h => by
    have := KidL.len h.2
    simp only [List.length_cons]
    omega
  | [], x :: xs, h => h.elim
  | t :: ts, [], h => h.elim
  | t :: ts, [x0], h => h.elim
  | t :: ts, [x0, x1], h => h.elim

theorem KidL.mono {T : Type} {P Q : T → Value → Prop} (hPQ : ∀ t v, P t v → Q t v) : ∀ {ts : List T} {xs : List Value}, KidL P ts xs → KidL Q ts xs
  | [], [], _ => trivial
  | t :: ts, x0 :: x1 :: x2 :: xs, h => ⟨hPQ _ _ h.1, KidL.mono hPQ h.2⟩
  | [], x :: xs, h => h.elim
  | t :: ts, [], h => h.elim
  | t :: ts, [x0], h => h.elim
  | t :: ts, [x0, x1], h => h.elim

theorem KidL.app {T : Type} {P : T → Value → Prop} {t : T} {x0 x1 x2 : Value} (ht : P t (.agg #[x0, x1, x2])) : ∀ {ts : List T} {xs : List Value}, KidL P ts xs → KidL P (ts ++ [t]) (xs ++ [x0, x1, x2])
  | [], [], _ => ⟨ht, trivial⟩
  | t :: ts, x0 :: x1 :: x2 :: xs, h => ⟨h.1, KidL.app ht h.2⟩
  | [], x :: xs, h => h.elim
  | t :: ts, [], h => h.elim
  | t :: ts, [x0], h => h.elim
  | t :: ts, [x0, x1], h => h.elim

theorem KidL.get {T : Type} {P : T → Value → Prop} : ∀ {ts : List T} {xs : List Value}, KidL P ts xs → ∀ i (h : i < ts.length), ∃ x0 x1 x2, xs[i * 3]? = some x0 ∧ xs[i * 3 + 1]? = some x1 ∧ xs[i * 3 + 2]? = some x2 ∧ P ts[i] (.agg #[x0, x1, x2])
  | [], [], _, i, hi => absurd hi (Nat.not_lt_zero _)
  | t :: ts, x0 :: x1 :: x2 :: xs, h, 0, hi => ⟨x0, x1, x2, rfl, rfl, rfl, h.1⟩
  | t :: ts, x0 :: x1 :: x2 :: xs, h, i + 1, hi => by
    obtain ⟨y0, y1, y2, h0, h1, h2, h3⟩ := KidL.get h.2 i (by simpa using hi)
    refine ⟨y0, y1, y2, ?_, ?_, ?_, by simpa using h3⟩
    · rw [show (i + 1) * 3 = i * 3 + 3 by omega]; simpa using h0
    · rw [show (i + 1) * 3 + 1 = i * 3 + 1 + 3 by omega]; simpa using h1
    · rw [show (i + 1) * 3 + 2 = i * 3 + 2 + 3 by omega]; simpa using h2
  | [], x :: xs, h, _, _ => h.elim
  | t :: ts, [], h, _, _ => h.elim
  | t :: ts, [x0], h, _, _ => h.elim
  | t :: ts, [x0, x1], h, _, _ => h.elim

/-- A leaf as a nested node. K: what can be said of its keys. -/
def LeafV (K : Option Addr → Nat → Nat → (Nat → ByteArray) → Prop) (t : List ByteArray) (v : Value) : Prop :=
  ∃ ka kc ca cc, v = .agg #[.bool true, .slice ka t.length kc, .slice ca 0 cc] ∧ K ka t.length kc (gt t)

/-- A nested tree in memory; its rows of children lie in blocks of which S holds. -/
def NestAt (K : Option Addr → Nat → Nat → (Nat → ByteArray) → Prop) (S : Nat → Prop) (w : World) : (d : Nat) → Ro d → Value → Prop
  | 0, _, _ => False
  | d + 1, .inl t, v => LeafV K t v
  | d + 1, .inr l, v => ∃ ka kc b cc xs, v = .agg #[.bool false, .slice ka 0 kc, .slice (some ⟨b, 0, none⟩) l.length cc] ∧ (S b ∧ l.length ≤ cc ∧ cc ≤ 9223372036854775807) ∧ b < w.heap.size ∧ 0 < l.length ∧ (∀ j u, xs[j]? = some u → w.cell? ⟨b, j, none⟩ = some u) ∧ KidL (fun t v => NestAt K S w d t v) l xs

theorem NestAt.mono {K K' : Option Addr → Nat → Nat → (Nat → ByteArray) → Prop} {S S' : Nat → Prop} {w w' : World} (hK : ∀ a n c X, K a n c X → K' a n c X) (hS : ∀ b, S b → b < w.heap.size → S' b) (hz : w.heap.size ≤ w'.heap.size) (hw : ∀ b j, S b → b < w.heap.size → w'.cell? ⟨b, j, none⟩ = w.cell? ⟨b, j, none⟩) : ∀ {d : Nat} {t : Ro d} {v : Value}, NestAt K S w d t v → NestAt K' S' w' d t v
  | 0, _, _, h => h
  | d + 1, .inl t, v, h => by
    obtain ⟨ka, kc, ca, cc, rfl, hk⟩ := h
    exact ⟨ka, kc, ca, cc, rfl, hK _ _ _ _ hk⟩
  | d + 1, .inr l, v, h => by
    obtain ⟨ka, kc, b, cc, xs, rfl, hs, hb, hl, hx, hk⟩ := h
    exact ⟨ka, kc, b, cc, xs, rfl, ⟨hS b hs.1 hb, hs.2⟩, by omega, hl, fun j u hj => by rw [hw b j hs.1 hb]; exact hx j u hj, hk.mono (fun t v h => NestAt.mono hK hS hz hw h)⟩

theorem NestAt.below {K : Option Addr → Nat → Nat → (Nat → ByteArray) → Prop} {S : Nat → Prop} {w w' : World} {d : Nat} {t : Ro d} {v : Value} (h : NestAt K S w d t v) (hb : Below w.heap.size w w') : NestAt K S w' d t v :=
  h.mono (fun _ _ _ _ h => h) (fun _ h _ => h) hb.size (fun b j _ hlt => hb.cell (p := ⟨b, j, none⟩) hlt)

/-- A nested node has three cells of these forms. -/
theorem NestAt.form {K : Option Addr → Nat → Nat → (Nat → ByteArray) → Prop} {S : Nat → Prop} {w : World} : ∀ {d : Nat} {t : Ro d} {v : Value}, NestAt K S w d t v → ∃ lf ka kn kc ca cn cc, v = .agg #[.bool lf, .slice ka kn kc, .slice ca cn cc]
  | 0, _, _, h => h.elim
  | d + 1, .inl t, v, h => by
    obtain ⟨ka, kc, ca, cc, rfl, hk⟩ := h
    exact ⟨_, _, _, _, _, _, _, rfl⟩
  | d + 1, .inr l, v, h => by
    obtain ⟨ka, kc, b, cc, xs, rfl, hs, hb, hl, hx, hk⟩ := h
    exact ⟨_, _, _, _, _, _, _, rfl⟩

/-- Nodes in memory with the places of their keys and children's numbers. -/
def NsAt (w : World) (b o n : Nat) (N : Nat → Tn) (KA DA : Nat → Option Addr) (KC DC : Nat → Nat) : Prop :=
  ∀ i, i < n → w.cell? ⟨b, o + i * 4, none⟩ = some (.bool (N i).lf) ∧ w.cell? ⟨b, o + i * 4 + 1, none⟩ = some (.slice (KA i) (N i).kn (KC i)) ∧
    w.cell? ⟨b, o + i * 4 + 2, none⟩ = some (.slice (DA i) (N i).dn (DC i)) ∧ w.cell? ⟨b, o + i * 4 + 3, none⟩ = some (.int .i64 (N i).ct) ∧ Rd .i64 w (DA i) (N i).dn (N i).kd

theorem NsAt.below {w w' : World} {b o n : Nat} {N : Nat → Tn} {KA DA : Nat → Option Addr} {KC DC : Nat → Nat} (h : NsAt w b o n N KA DA KC DC) (hb : Below w.heap.size w w') : NsAt w' b o n N KA DA KC DC := by
  intro i hi
  obtain ⟨h0, h1, h2, h3, h5⟩ := h i hi
  refine ⟨?_, ?_, ?_, ?_, h5.below hb⟩
  · rw [hb.cell (World.block_lt_of_cell? _ _ h0)]; exact h0
  · rw [hb.cell (World.block_lt_of_cell? _ _ h1)]; exact h1
  · rw [hb.cell (World.block_lt_of_cell? _ _ h2)]; exact h2
  · rw [hb.cell (World.block_lt_of_cell? _ _ h3)]; exact h3

/-- What l3Nest leaves: a nested node, the number behind it, whether it is one. -/
def RetNest {T : Type} (P : World → (Nat → Prop) → T → Value → Prop) (w : World) (r : Option (T × Nat)) (n : Nat) (e : Ending) (w' : World) : Prop :=
  Below w.heap.size w w' ∧ ∃ lf ka kn kc ca cn cc x ok, e = .returned (.tuple #[.agg #[.bool lf, .slice ka kn kc, .slice ca cn cc], .int .i64 x, .bool ok]) ∧
    ((ok = false ∧ r = none) ∨ (ok = true ∧ ∃ t y, r = some (t, y) ∧ x = (y : Int) ∧ y ≤ n ∧ P w' (fun b => w.heap.size ≤ b) t (.agg #[.bool lf, .slice ka kn kc, .slice ca cn cc])))
end Go.Proofs.YtcnollkkigiobaaGreat
