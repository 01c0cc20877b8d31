import Derived.Test.YtakemeccigpbaaaTkMZ
import Derived.Test.YtakemeccigpbaaaTrK
import Derived.Test.YtakemeccigpbaaaTrVZ
import Derived.Test.YtakemeccigpbaaaLate
import Derived.Test.YtakemeccigpbaaaTrFZ
import Derived.Test.YtakemeccigpbaaaTiUZ
namespace Go.Proofs.Ytakemeccigpbaaa
set_option linter.unusedVariables false

/-- A key put in its place. -/
def insK (key : ByteArray) (L : List ByteArray) : List ByteArray := L.take (cntL key L) ++ key :: L.drop (cntL key L)
/-- One list, or two when it holds more than four. -/
def splL {T : Type} (L : List T) : List (List T) := if L.length ≤ 4 then [L] else [L.take 3, L.drop 3]
/-- The child that a key belongs to. -/
def KidIs {d : Nat} (l : List (Ro d)) (key : ByteArray) (i : Nat) : Prop :=
  i < l.length ∧ (∀ h : i < l.length, 0 < i → Op.bytesLess key.toList (gt (keysR d l[i]) 0).toList = false) ∧ (∀ h : i + 1 < l.length, Op.bytesLess key.toList (gt (keysR d l[i + 1]) 0).toList = true)
/-- What comes of a tree when a key is put in: one tree, or two. -/
def InsR (key : ByteArray) : (d : Nat) → Ro d → List (Ro d) → Prop
  | 0, t, _ => t.elim
  | d + 1, .inl ks, r => r = (splL (insK key ks)).map Sum.inl
  | d + 1, .inr l, r => ∃ i, KidIs l key i ∧ ∃ (h : i < l.length) (r' : List (Ro d)), InsR key d l[i] r' ∧ r = (splL (l.take i ++ r' ++ l.drop (i + 1))).map Sum.inr

theorem InsR_inl (key : ByteArray) (d : Nat) (ks : List ByteArray) (r : List (Ro (d + 1))) : InsR key (d + 1) (.inl ks) r = (r = (splL (insK key ks)).map Sum.inl) := rfl
theorem InsR_inr (key : ByteArray) (d : Nat) (l : List (Ro d)) (r : List (Ro (d + 1))) : InsR key (d + 1) (.inr l) r = ∃ i, KidIs l key i ∧ ∃ (h : i < l.length) (r' : List (Ro d)), InsR key d l[i] r' ∧ r = (splL (l.take i ++ r' ++ l.drop (i + 1))).map Sum.inr := rfl

theorem first_lt {d : Nat} {l : List (Ro d)} (ha : Asc (l.flatMap (keysR d))) (hp : ∀ k (h : k < l.length), 0 < (keysR d l[k]).length) {i j : Nat} (hij : i < j) (hj : j < l.length) : Op.bytesLess (gt (keysR d (l[i]'(by omega))) 0).toList (gt (keysR d l[j]) 0).toList = true := by
  unfold Asc at ha
  rw [List.pairwise_flatMap] at ha
  have q := (List.pairwise_iff_getElem.1 ha.2) i j (by omega) hj hij
  exact q _ (gt_mem (hp i (by omega))) _ (gt_mem (hp j hj))

theorem KidIs.fn {d : Nat} {l : List (Ro d)} {key : ByteArray} (ha : Asc (l.flatMap (keysR d))) (hp : ∀ k (h : k < l.length), 0 < (keysR d l[k]).length) {i j : Nat} (h1 : KidIs l key i) (h2 : KidIs l key j) : i = j := by
  have key1 : ∀ {i j : Nat}, KidIs l key i → KidIs l key j → ¬ i < j := by
    intro i j h1 h2 hij
    have q1 := h1.2.2 (by have := h2.1; omega)
    have q2 := h2.2.1 h2.1 (by omega)
    by_cases e : i + 1 = j
    · subst e
      rw [q1] at q2
      cases q2
    · have q3 := first_lt ha hp (show i + 1 < j by omega) h2.1
      rw [less_trans _ _ _ q1 q3] at q2
      cases q2
  have a1 := key1 h1 h2
  have a2 := key1 h2 h1
  omega

theorem bal_keys : ∀ {d : Nat} {t : Ro d} {h : Nat}, BalR d false t h → 0 < (keysR d t).length
  | 0, t, h, hb => t.elim
  | d + 1, .inl t, h, hb => by
    obtain ⟨_, _, q⟩ := hb
    show 0 < t.length
    rcases q with q | q
    · cases q
    · omega
  | d + 1, .inr l, h, hb => by
    obtain ⟨h2, _, h', _, hall⟩ := hb
    show 0 < (l.flatMap (keysR d)).length
    match l, h2, hall with
    | t :: l', _, hall =>
      have := bal_keys (hall t (by simp))
      rw [List.flatMap_cons, List.length_append]
      omega

/-- What comes of it is told by the tree and the key. -/
theorem InsR.fn {key : ByteArray} : ∀ {d : Nat} {t : Ro d} {root : Bool} {h : Nat} {r r' : List (Ro d)}, BalR d root t h → Asc (keysR d t) → InsR key d t r → InsR key d t r' → r = r'
  | 0, t, _, _, _, _, _, _, _, _ => t.elim
  | d + 1, .inl ks, root, h, r, r', hb, ha, h1, h2 => by
    rw [InsR_inl] at h1 h2
    rw [h1, h2]
  | d + 1, .inr l, root, h, r, r', hb, ha, h1, h2 => by
    obtain ⟨_, _, h', _, hall⟩ := hb
    rw [InsR_inr] at h1 h2
    obtain ⟨i, k1, hi, s, e1, rfl⟩ := h1
    obtain ⟨j, k2, hj, s', e2, rfl⟩ := h2
    have ha' : Asc (l.flatMap (keysR d)) := ha
    have e : i = j := KidIs.fn ha' (fun k hk => bal_keys (hall _ (List.getElem_mem hk))) k1 k2
    subst e
    rw [InsR.fn (hall _ (List.getElem_mem hi)) (asc_kid ha' i hi) e1 e2]

theorem splL_one {T : Type} {L : List T} (h : L.length ≤ 4) : splL L = [L] := by unfold splL; rw [if_pos h]
theorem splL_two {T : Type} {L : List T} (h : ¬ L.length ≤ 4) : splL L = [L.take 3, L.drop 3] := by unfold splL; rw [if_neg h]
theorem insK_length (key : ByteArray) (L : List ByteArray) : (insK key L).length = L.length + 1 := by
  unfold insK
  rw [List.length_append, List.length_cons, List.length_take, List.length_drop]
  have : cntL key L ≤ L.length := List.length_filter_le _ _
  omega

/-- It stays balanced: one tree as high, filled, or two of them. -/
theorem InsR.bal {key : ByteArray} : ∀ {d : Nat} {t : Ro d} {root : Bool} {h : Nat} {r : List (Ro d)}, BalR d root t h → InsR key d t r →
    (∃ y, r = [y] ∧ BalR d root y h) ∨ (∃ y z, r = [y, z] ∧ BalR d false y h ∧ BalR d false z h)
  | 0, t, _, _, _, _, _ => t.elim
  | d + 1, .inl ks, root, h, r, hb, h1 => by
    obtain ⟨rfl, h4, hr⟩ := hb
    rw [InsR_inl] at h1
    have hl := insK_length key ks
    by_cases e : (insK key ks).length ≤ 4
    · rw [splL_one e] at h1
      refine .inl ⟨.inl (insK key ks), h1, rfl, e, ?_⟩
      rcases hr with hr | hr
      · exact .inl hr
      · exact .inr (by omega)
    · rw [splL_two e] at h1
      refine .inr ⟨.inl ((insK key ks).take 3), .inl ((insK key ks).drop 3), h1, ⟨rfl, ?_, .inr ?_⟩, ⟨rfl, ?_, .inr ?_⟩⟩
      · rw [List.length_take]; omega
      · rw [List.length_take]; omega
      · rw [List.length_drop]; omega
      · rw [List.length_drop]; omega
  | d + 1, .inr l, root, h, r, hb, h1 => by
    obtain ⟨h2, h4, h', rfl, hall⟩ := hb
    rw [InsR_inr] at h1
    obtain ⟨i, k1, hi, s, e1, rfl⟩ := h1
    have q := InsR.bal (hall _ (List.getElem_mem hi)) e1
    have hs : (s.length = 1 ∨ s.length = 2) ∧ ∀ t, t ∈ s → BalR d false t h' := by
      rcases q with ⟨y, rfl, hy⟩ | ⟨y, z, rfl, hy, hz⟩
      · exact ⟨.inl rfl, fun t ht => by simp at ht; subst ht; exact hy⟩
      · refine ⟨.inr rfl, fun t ht => ?_⟩
        simp at ht
        rcases ht with rfl | rfl
        · exact hy
        · exact hz
    have hlen : (l.take i ++ s ++ l.drop (i + 1)).length = l.length - 1 + s.length := by
      rw [List.length_append, List.length_append, List.length_take, List.length_drop]
      omega
    have hmem : ∀ t, t ∈ l.take i ++ s ++ l.drop (i + 1) → BalR d false t h' := by
      intro t ht
      rw [List.mem_append, List.mem_append] at ht
      rcases ht with (ht | ht) | ht
      · exact hall t (List.mem_of_mem_take ht)
      · exact hs.2 t ht
      · exact hall t (List.mem_of_mem_drop ht)
    have hs1 := hs.1
    generalize l.take i ++ s ++ l.drop (i + 1) = M at hlen hmem ⊢
    by_cases e : M.length ≤ 4
    · rw [splL_one e]
      exact .inl ⟨.inr M, rfl, by omega, e, h', rfl, hmem⟩
    · rw [splL_two e]
      refine .inr ⟨.inr (M.take 3), .inr (M.drop 3), rfl, ⟨?_, ?_, h', rfl, fun t ht => hmem t (List.mem_of_mem_take ht)⟩, ⟨?_, ?_, h', rfl, fun t ht => hmem t (List.mem_of_mem_drop ht)⟩⟩
      · rw [List.length_take]; omega
      · rw [List.length_take]; omega
      · rw [List.length_drop]; omega
      · rw [List.length_drop]; omega
end Go.Proofs.Ytakemeccigpbaaa

namespace Go.Proofs.Ytakemeccigpbaaa
open Go.RowKit Go.Deep
set_option linter.unusedVariables false
set_option maxRecDepth 100000

/-- The first key of a list's child. -/
def fst1 {d : Nat} (l : List (Ro d)) (k : Nat) : ByteArray := match l[k]? with
  | some t => gt (keysR d t) 0
  | none => { data := #[] }
theorem fst1_at {d : Nat} {l : List (Ro d)} {k : Nat} (h : k < l.length) : fst1 l k = gt (keysR d l[k]) 0 := by
  unfold fst1
  rw [List.getElem?_eq_getElem h]

end Go.Proofs.Ytakemeccigpbaaa

namespace Go.Proofs.Ytakemeccigpbaaa
open Go.RowKit Go.Deep
set_option linter.unusedVariables false
set_option maxRecDepth 100000

end Go.Proofs.Ytakemeccigpbaaa

namespace Go.Proofs.Ytakemeccigpbaaa
open Go.RowKit Go.Deep
set_option linter.unusedVariables false
set_option maxRecDepth 100000

/-- Keys that lie in a block of which S holds, with room. -/
def KS (S : Nat → Prop) (w : World) (a : Option Addr) (n c : Nat) (X : Nat → ByteArray) : Prop :=
  RdS w a n X ∧ (n ≤ c ∧ c ≤ 9223372036854775807) ∧ (n ≠ 0 → ∃ x, a = some x ∧ S x.block ∧ x.block < w.heap.size)
/-- A nested tree all of whose rows lie in blocks of which S holds. -/
def NG (S : Nat → Prop) (w : World) (d : Nat) (t : Ro d) (v : Value) : Prop := NestAt (KS S w) S w d t v

theorem KS.keep {S S' : Nat → Prop} {w w' : World} {a : Option Addr} {n c : Nat} {X : Nat → ByteArray} (hz : w.heap.size ≤ w'.heap.size) (hS : ∀ b, S b → b < w.heap.size → S' b ∧ w'.heap[b]? = w.heap[b]?) (h : KS S w a n c X) : KS S' w' a n c X := by
  obtain ⟨h1, h2, h3⟩ := h
  by_cases h0 : n = 0
  · exact ⟨Or.inl h0, h2, fun h => absurd h0 h⟩
  · obtain ⟨x, rfl, hs, hl⟩ := h3 h0
    obtain ⟨q1, q2⟩ := hS _ hs hl
    rcases h1 with h1 | ⟨b, o, e, hc⟩
    · exact absurd h1 h0
    · injection e with e
      subst e
      exact ⟨Or.inr ⟨b, o, rfl, fun i hi => (World.cell?_of_block (a := ⟨b, o + i, none⟩) q2).trans (hc i hi)⟩, h2, fun _ => ⟨_, rfl, q1, by have : b < w.heap.size := hl; omega⟩⟩

theorem NG.keep {S S' : Nat → Prop} {w w' : World} {d : Nat} {t : Ro d} {v : Value} (h : NG S w d t v) (hz : w.heap.size ≤ w'.heap.size) (hS : ∀ b, S b → b < w.heap.size → S' b ∧ w'.heap[b]? = w.heap[b]?) : NG S' w' d t v :=
  NestAt.mono (fun _ _ _ _ q => q.keep hz hS) (fun b hs hl => (hS b hs hl).1) hz (fun b j hs hl => World.cell?_of_block (a := ⟨b, j, none⟩) (hS b hs hl).2) h

theorem NG.below {S : Nat → Prop} {w w' : World} {d : Nat} {t : Ro d} {v : Value} (h : NG S w d t v) (hb : Below w.heap.size w w') : NG S w' d t v :=
  h.keep hb.size (fun b hs hl => ⟨hs, hb.block b hl⟩)
theorem NG.wide {S S' : Nat → Prop} {w : World} {d : Nat} {t : Ro d} {v : Value} (h : NG S w d t v) (hS : ∀ b, S b → b < w.heap.size → S' b) : NG S' w d t v :=
  h.keep (Nat.le_refl _) (fun b hs hl => ⟨hS b hs hl, rfl⟩)
theorem NG.na {S : Nat → Prop} {w : World} {d : Nat} {t : Ro d} {v : Value} (h : NG S w d t v) : NA w d t v :=
  NestAt.mono (fun _ _ _ _ q => q.1) (fun _ _ _ => trivial) (Nat.le_refl _) (fun _ _ _ _ => rfl) h
theorem NAC.ng {w : World} {d : Nat} {t : Ro d} {v : Value} (h : NAC (fun n c => n ≤ c ∧ c ≤ 9223372036854775807) w d t v) : NG (fun b => b < w.heap.size) w d t v := by
  refine NestAt.mono (fun a n c X q => ⟨q.1, q.2, fun h0 => ?_⟩) (fun b _ hl => hl) (Nat.le_refl _) (fun _ _ _ _ => rfl) h
  rcases q.1 with q1 | ⟨b, o, rfl, hc⟩
  · exact absurd q1 h0
  · have := World.block_lt_of_cell? _ _ (hc 0 (by omega))
    exact ⟨_, rfl, this, this⟩

/-- Appending elsewhere turns nothing in blocks that are not the row's. -/
theorem NG.grown {S : Nat → Prop} {w w' : World} {d : Nat} {t : Ro d} {v vk : Value} (h : NG S w d t v) (hg : w.grownBy w' vk.ownBlock) (hS : ∀ b, S b → b < w.heap.size → vk.ownBlock ≠ some b) : NG S w' d t v :=
  h.keep hg.size (fun b hs hl => ⟨hs, hg.block b hl (fun e => hS b hs hl e.symm)⟩)

theorem KidL.take {T : Type} {P : T → Value → Prop} : ∀ (k : Nat) {ts : List T} {xs : List Value}, KidL P ts xs → KidL P (ts.take k) (xs.take (k * 3))
  | 0, _, _, _ => by simp [KidL]
  | k + 1, [], [], _ => by simp [KidL]
  | k + 1, t :: ts, x0 :: x1 :: x2 :: xs, h => by
    rw [show (k + 1) * 3 = k * 3 + 3 by omega]
    exact ⟨h.1, KidL.take k h.2⟩
  | _ + 1, [], x :: xs, h => h.elim
  | _ + 1, t :: ts, [], h => h.elim
  | _ + 1, t :: ts, [x0], h => h.elim
  | _ + 1, t :: ts, [x0, x1], h => h.elim
theorem KidL.drop {T : Type} {P : T → Value → Prop} : ∀ (k : Nat) {ts : List T} {xs : List Value}, KidL P ts xs → KidL P (ts.drop k) (xs.drop (k * 3))
  | 0, _, _, h => by simpa using h
  | k + 1, [], [], _ => by simp [KidL]
  | k + 1, t :: ts, x0 :: x1 :: x2 :: xs, h => by
    rw [show (k + 1) * 3 = k * 3 + 3 by omega]
    exact KidL.drop k h.2
  | _ + 1, [], x :: xs, h => h.elim
  | _ + 1, t :: ts, [], h => h.elim
  | _ + 1, t :: ts, [x0], h => h.elim
  | _ + 1, t :: ts, [x0, x1], h => h.elim
theorem KidL.cells {T : Type} {P : T → Value → Prop} (hP : ∀ t x0 x1 x2, P t (.agg #[x0, x1, x2]) → x0.oneCell' = true ∧ x1.oneCell' = true ∧ x2.oneCell' = true) : ∀ {ts : List T} {xs : List Value}, KidL P ts xs → ∀ u ∈ xs, u.oneCell' = true
  | [], [], _, u, hu => by cases hu
  | t :: ts, x0 :: x1 :: x2 :: xs, h, u, hu => by
    obtain ⟨a0, a1, a2⟩ := hP _ _ _ _ h.1
    simp only [List.mem_cons] at hu
    rcases hu with rfl | rfl | rfl | hu
    · exact a0
    · exact a1
    · exact a2
    · exact KidL.cells hP h.2 u hu
  | [], x :: xs, h, _, _ => h.elim
  | t :: ts, [], h, _, _ => h.elim
  | t :: ts, [x0], h, _, _ => h.elim
  | t :: ts, [x0, x1], h, _, _ => h.elim
theorem NG.one {S : Nat → Prop} {w : World} {d : Nat} : ∀ (t : Ro d) (x0 x1 x2 : Value), NG S w d t (.agg #[x0, x1, x2]) → x0.oneCell' = true ∧ x1.oneCell' = true ∧ x2.oneCell' = true := by
  intro t x0 x1 x2 h
  obtain ⟨lf, ka, kn, kc, ca, cn, cc, e⟩ := NestAt.form h
  injection e with e
  injection e with e
  injection e with e0 e
  injection e with e1 e
  injection e with e2 e
  subst e0 e1 e2
  exact ⟨rfl, rfl, rfl⟩

/-- What hands back a nested tree: in old blocks of which S holds, or in new ones. -/
def RetG3 (S : Nat → Prop) (w : World) (d : Nat) (t : Ro d) (e : Ending) (w' : World) : Prop :=
  Below w.heap.size w w' ∧ ∃ lf ka kn kc ca cn cc, e = .returned (.agg #[.bool lf, .slice ka kn kc, .slice ca cn cc]) ∧ NG (fun b => S b ∨ w.heap.size ≤ b) w' d t (.agg #[.bool lf, .slice ka kn kc, .slice ca cn cc])
/-- What hands back a row of nested trees. -/
def RetGs (S : Nat → Prop) (w : World) (d : Nat) (ts : List (Ro d)) (e : Ending) (w' : World) : Prop :=
  Below w.heap.size w w' ∧ ∃ g c xs, e = .returned (.slice (some ⟨g, 0, none⟩) ts.length c) ∧ w.heap.size ≤ g ∧ g < w'.heap.size ∧ (ts.length ≤ c ∧ c ≤ 9223372036854775807) ∧ (∀ j u, xs[j]? = some u → w'.cell? ⟨g, j, none⟩ = some u) ∧ KidL (fun t v => NG (fun b => S b ∨ w.heap.size ≤ b) w' d t v) ts xs
end Go.Proofs.Ytakemeccigpbaaa

namespace Go.Proofs.Ytakemeccigpbaaa
open Go.RowKit Go.Deep
set_option linter.unusedVariables false
set_option maxRecDepth 100000

/-- Where a slice's rest begins: elements of sz cells. -/
def shZ (sz b o lo c : Nat) : Option Addr := if c = lo then some ⟨b, o, none⟩ else some ⟨b, o + lo * sz, none⟩

theorem addr_add (b o k : Nat) : Addr.add ⟨b, o, none⟩ k = ⟨b, o + k, none⟩ := by
  unfold Addr.add
  by_cases h : k = 0
  · subst h; simp
  · simp [h]

theorem fromS (a : Option Addr) (n c lo : Nat) (h1 : lo ≤ n) (h2 : n ≤ c) (w : World) : (Instr.sliceAt 27 (.slice a n c) (some (.int .i64 (lo : Int))) none none).run Try.prog w = .ok (.slice (if c = lo then a else a.map fun x => x.add lo) (n - lo) (c - lo)) w := by
  simp [Instr.sliceAt, Instr.slice, go_sem]
  intro h
  omega

end Go.Proofs.Ytakemeccigpbaaa

namespace Go.Proofs.Ytakemeccigpbaaa
open Go.RowKit Go.Deep
set_option linter.unusedVariables false
set_option maxRecDepth 100000

end Go.Proofs.Ytakemeccigpbaaa

namespace Go.Proofs.Ytakemeccigpbaaa
open Go.RowKit Go.Deep
set_option linter.unusedVariables false
set_option maxRecDepth 100000

/-- How many keys or children a node has; some of them; one node or two. -/
def sizR {d : Nat} : Ro (d + 1) → Nat
  | .inl L => L.length
  | .inr l => l.length
def cutR {d : Nat} (lo hi : Nat) : Ro (d + 1) → Ro (d + 1)
  | .inl L => .inl ((L.take hi).drop lo)
  | .inr l => .inr ((l.take hi).drop lo)
def splR {d : Nat} : Ro (d + 1) → List (Ro (d + 1))
  | .inl L => (splL L).map Sum.inl
  | .inr l => (splL l).map Sum.inr
theorem splR_one {d : Nat} {t : Ro (d + 1)} (h : sizR t ≤ 4) : splR t = [t] := by
  match t, h with
  | .inl L, h => show (splL L).map Sum.inl = _; rw [splL_one h]; rfl
  | .inr l, h => show (splL l).map Sum.inr = _; rw [splL_one h]; rfl
theorem splR_two {d : Nat} {t : Ro (d + 1)} (h : sizR t = 5) : splR t = [cutR 0 3 t, cutR 3 5 t] := by
  match t, h with
  | .inl L, h =>
    have h5 : L.length = 5 := h
    show (splL L).map Sum.inl = [Sum.inl _, Sum.inl _]
    rw [splL_two (by omega), List.drop_zero, List.take_of_length_le (by omega : L.length ≤ 5)]
    rfl
  | .inr l, h =>
    have h5 : l.length = 5 := h
    show (splL l).map Sum.inr = [Sum.inr _, Sum.inr _]
    rw [splL_two (by omega), List.drop_zero, List.take_of_length_le (by omega : l.length ≤ 5)]
    rfl

theorem NG.size {S : Nat → Prop} {w : World} {d : Nat} {t : Ro (d + 1)} {lf : Bool} {ka ca : Option Addr} {kn kc cn cc : Nat} (h : NG S w (d + 1) t (.agg #[.bool lf, .slice ka kn kc, .slice ca cn cc])) : (if lf then kn else cn) = sizR t := by
  match t, h with
  | .inl L, h =>
    obtain ⟨_, _, _, _, e, _⟩ := h
    injection e with e
    injection e with e
    injection e with e0 e
    injection e with e1 e
    injection e0 with e0
    injection e1 with _ e1
    subst e0
    exact e1
  | .inr l, h =>
    obtain ⟨_, _, _, _, _, e, _⟩ := h
    injection e with e
    injection e with e
    injection e with e0 e
    injection e with e1 e
    injection e with e2 e
    injection e0 with e0
    injection e2 with _ e2
    subst e0
    exact e2

end Go.Proofs.Ytakemeccigpbaaa

namespace Go.Proofs.Ytakemeccigpbaaa
open Go.RowKit Go.Deep
set_option linter.unusedVariables false
set_option maxRecDepth 100000

end Go.Proofs.Ytakemeccigpbaaa

namespace Go.Proofs.Ytakemeccigpbaaa
open Go.RowKit Go.Deep
set_option linter.unusedVariables false
set_option maxRecDepth 100000

end Go.Proofs.Ytakemeccigpbaaa

namespace Go.Proofs.Ytakemeccigpbaaa
open Go.RowKit Go.Deep
set_option linter.unusedVariables false
set_option maxRecDepth 100000

/-- Two can come up. -/
theorem late_two {l : List Oper} {P : Program} {Q : Exit → Act → World → Prop} {S : World → Prop} {late : Nat} (i j : Nat) {oi oj : Oper} (hpi : Pick i l oi) (hpj : Pick j l oj) {fuel : Nat} {listed : Array Bool} {a : Act} {w : World} (hr : Region.ready .any l.toArray listed = [i, j])
    (hi : ∀ K' : Act → World → Prop, Shut (∀ a w, (i ≠ late → S w) → ((i ≠ late → S w) → wpLate P .any l.toArray Q S late fuel (listed.setIfInBounds i true) a w) → K' a w) → if Region.wanted oi (yielded l.toArray a.tmps) = true then Oper.wp P oi a w K' Q else K' (a.put oi.dst undef) w)
    (hj : ∀ K' : Act → World → Prop, Shut (∀ a w, (j ≠ late → S w) → ((j ≠ late → S w) → wpLate P .any l.toArray Q S late fuel (listed.setIfInBounds j true) a w) → K' a w) → if Region.wanted oj (yielded l.toArray a.tmps) = true then Oper.wp P oj a w K' Q else K' (a.put oj.dst undef) w) :
    wpLate P .any l.toArray Q S late (fuel + 1) listed a w :=
  ⟨fun h0 => (by rw [hr] at h0; cases h0), fun k hk => by
    rw [hr] at hk
    simp only [List.mem_cons, List.not_mem_nil, or_false] at hk
    rcases hk with rfl | rfl
    · exact wpOp_step hpi.get (fun K' hK => hi K' (fun a w hS hW => hK a w ⟨hS, hW hS⟩))
    · exact wpOp_step hpj.get (fun K' hK => hj K' (fun a w hS hW => hK a w ⟨hS, hW hS⟩))⟩

/-- The numbers of a node's children as a list. -/
def kdL (x : Tn) : List Int := (List.range x.dn).map x.kd
theorem kdL_length (x : Tn) : (kdL x).length = x.dn := by simp [kdL]
theorem gi_kdL (x : Tn) (i : Nat) (h : i < x.dn) : gi (kdL x) i = x.kd i := by
  simp [gi, kdL, List.getD_eq_getElem?_getD, h]

/-- A row of nodes appended to nodes of the call's own, as a step of a region that draws its order. -/
theorem step_app_node {w : World} {ops : Array Oper} {o : Oper} {act : Act} {K : Act → World → Prop} {Q : Exit → Act → World → Prop} {E : Prop} (hgd : o.guard = none) (s x : Operand)
    (ho : o.op = .call { callee := .builtin .append, args := #[s, x], argTypes := #[23, 23] })
    (B : Nat) (v : Value) (n : Nat) (xs : List Value) (hs : act.eval s = v) (hown : w.ownsRow B 88 4 v n xs)
    (g c : Nat) (v0 v1 v2 v3 : Value) (hx : act.eval x = .slice (some ⟨g, 0, none⟩) 1 c) (hc : ∀ j u, [v0, v1, v2, v3][j]? = some u → w.cell? ⟨g, j, none⟩ = some u) (h1 : ∀ u ∈ [v0, v1, v2, v3], u.oneCell' = true) (hnm : n ≤ 1048576) (hB : B ≤ w.heap.size)
    (h : ∀ v' w', w'.ownsRow B 88 4 v' (n + 1) (xs ++ [v0, v1, v2, v3]) → w.grownBy w' v.ownBlock → (v'.ownBlock = v.ownBlock ∨ v'.ownBlock = some w.heap.size) → K (act.put o.dst v') w') :
    if Region.wanted o (yielded ops act.tmps) = true then Oper.wp Try.prog o act w K Q else E := by
  have hw : Region.wanted o (yielded ops act.tmps) = true := by simp [Region.wanted, hgd]
  rw [if_pos hw]
  obtain ⟨i0, hi, hz0, hz1, hz2⟩ := info_parts Try.info88
  obtain ⟨v', w', hr, h2, h3, h4, h5⟩ := run_append_own_at (P := Try.prog) w B 23 o.type 88 i0 _ 4 64 Try.underlying23 hi hz0 hz1 hz2 rfl (by decide) v n xs hown ⟨g, 0, none⟩ 1 c [v0, v1, v2, v3] rfl (fun j u hj => by
    have e : (Addr.add ⟨g, 0, none⟩ j) = ⟨g, j, none⟩ := by
      unfold Addr.add
      by_cases h : j = 0
      · subst h; simp
      · simp [h]
    rw [e]
    exact hc j u hj) h1 (by unfold maxLen; omega) (by omega) hB
  unfold Oper.wp execOp
  simp only [ho, resolve, invoke, builtin, Sem.run_bind, Sem.run_pure, Result.andThen_ok, List.map_toArray, List.map_cons, List.map_nil, hs, hx, hr]
  exact h v' w' h2 h3 h5
end Go.Proofs.Ytakemeccigpbaaa

namespace Go.Proofs.Ytakemeccigpbaaa
open Go.RowKit Go.Deep
set_option linter.unusedVariables false
set_option maxRecDepth 100000

theorem FlAt.congr {S : Nat → Prop} {w : World} {n : Nat} {F G : Nat → Tn} {xs : List Value} (h : FlAt S w n F xs) (e : ∀ i, i < n → F i = G i) : FlAt S w n G xs :=
  ⟨h.1, fun i hi => by rw [← e i hi]; exact h.2 i hi⟩

/-- The state of l3Copy's loop. -/
structure CpSt (w wr : World) (v0 : Value) (k : Nat) (N : Nat → Tn) (v : Value) (xs : List Value) : Prop where
  tb : Bx wr w.heap.size 25 #[v0]
  rb : Bx wr (w.heap.size + 1) 25 #[.slice none 0 0]
  ob : Bx wr (w.heap.size + 2) 25 #[v]
  own : wr.ownsRow (w.heap.size + 3) 88 4 v k xs
  fl : FlAt (fun b => w.heap.size + 3 ≤ b ∧ v.ownBlock ≠ some b) wr k N xs
  bel : Below w.heap.size w wr

theorem CpSt.below {w wr w1 : World} {v0 : Value} {k : Nat} {N : Nat → Tn} {v : Value} {xs : List Value} (h : CpSt w wr v0 k N v xs) (hb : Below wr.heap.size wr w1) : CpSt w w1 v0 k N v xs :=
  ⟨h.tb.below hb, h.rb.below hb, h.ob.below hb, own_below h.own hb, h.fl.mono hb.size (fun b hs hl => ⟨hs, hb.block b hl⟩), h.bel.trans (hb.mono h.bel.size)⟩

section
variable {w R W w16 : World} {v0 : Value} {k oc cA cB nb : Nat} {oa aA aB : Option Addr} {N : Nat → Tn} {xs : List Value} {v16 : Value}

end

/-- A row of nodes that lies in blocks from B on. -/
def RowN (B : Nat) (w : World) (a : Option Addr) (n : Nat) (N : Nat → Tn) : Prop :=
  n = 0 ∨ ∃ g xs, a = some ⟨g, 0, none⟩ ∧ B ≤ g ∧ g < w.heap.size ∧ (∀ j u, xs[j]? = some u → w.cell? ⟨g, j, none⟩ = some u) ∧ FlAt (fun b => B ≤ b) w n N xs
theorem RowN.rd {B : Nat} {w : World} {a : Option Addr} {n : Nat} {N : Nat → Tn} (h : RowN B w a n N) : RdTn w a n N := by
  rcases h with h | ⟨g, xs, rfl, _, _, hc, hf⟩
  · exact Or.inl h
  · exact hf.rd hc
theorem RowN.keep {B B' : Nat} {w w' : World} {a : Option Addr} {n : Nat} {N : Nat → Tn} (h : RowN B w a n N) (hB : B' ≤ B) (hz : w.heap.size ≤ w'.heap.size) (hk : ∀ b, B ≤ b → b < w.heap.size → w'.heap[b]? = w.heap[b]?) : RowN B' w' a n N := by
  rcases h with h | ⟨g, xs, rfl, h1, h2, hc, hf⟩
  · exact Or.inl h
  · exact Or.inr ⟨g, xs, rfl, by omega, by omega, fun j u hj => (World.cell?_of_block (a := ⟨g, j, none⟩) (hk g h1 h2)).trans (hc j u hj), hf.mono hz (fun b hs hl => ⟨by omega, hk b hs hl⟩)⟩
theorem RowN.below {B : Nat} {w w' : World} {a : Option Addr} {n : Nat} {N : Nat → Tn} (h : RowN B w a n N) (hb : Below w.heap.size w w') : RowN B w' a n N :=
  h.keep (Nat.le_refl _) hb.size (fun b _ hl => hb.block b hl)
/-- What hands back nodes that can be read, in new memory. -/
def RetNs (w : World) (n : Nat) (N : Nat → Tn) (e : Ending) (w' : World) : Prop :=
  Below w.heap.size w w' ∧ ∃ a c, e = .returned (.agg #[.slice a n c]) ∧ RowN (w.heap.size + 2) w' a n N

end Go.Proofs.Ytakemeccigpbaaa

namespace Go.Proofs.Ytakemeccigpbaaa
open Go.RowKit Go.Deep
set_option linter.unusedVariables false
set_option maxRecDepth 100000

end Go.Proofs.Ytakemeccigpbaaa

namespace Go.Proofs.Ytakemeccigpbaaa
open Go.RowKit Go.Deep
set_option linter.unusedVariables false
set_option maxRecDepth 100000

theorem sum_split {d : Nat} (l : List (Ro d)) (i : Nat) (hi : i < l.length) (r : List (Ro d)) : ((l.take i ++ r ++ l.drop (i + 1)).map (nodesR d)).sum + nodesR d l[i] = (l.map (nodesR d)).sum + (r.map (nodesR d)).sum := by
  have e : l = l.take i ++ [l[i]] ++ l.drop (i + 1) := by
    rw [List.append_assoc, List.singleton_append, List.getElem_cons_drop, List.take_append_drop]
  have e2 : (l.map (nodesR d)).sum = ((l.take i).map (nodesR d)).sum + nodesR d l[i] + ((l.drop (i + 1)).map (nodesR d)).sum := by
    conv => lhs; rw [e]
    rw [List.map_append, List.map_append, List.sum_append, List.sum_append]
    simp
  rw [e2, List.map_append, List.map_append, List.sum_append, List.sum_append]
  omega

/-- How many nodes there are more, at most. -/
theorem InsR.nodes {key : ByteArray} : ∀ {d : Nat} {t : Ro d} {rs : List (Ro d)}, InsR key d t rs → (rs.map (nodesR d)).sum ≤ nodesR d t + d
  | 0, t, _, _ => t.elim
  | d + 1, .inl ks, rs, h => by
    rw [InsR_inl] at h
    subst h
    unfold splL
    split
    · show 1 + 0 ≤ 1 + (d + 1); omega
    · show 1 + (1 + 0) ≤ 1 + (d + 1); omega
  | d + 1, .inr l, rs, h => by
    rw [InsR_inr] at h
    obtain ⟨i, _, hi, r', h1, rfl⟩ := h
    have q := InsR.nodes h1
    have q2 := sum_split l i hi r'
    generalize l.take i ++ r' ++ l.drop (i + 1) = M at q2
    have hn : nodesR (d + 1) (.inr l) = 1 + (l.map (nodesR d)).sum := rfl
    rw [hn]
    unfold splL
    split
    · show (1 + (M.map (nodesR d)).sum) + 0 ≤ _
      omega
    · show (1 + ((M.take 3).map (nodesR d)).sum) + ((1 + ((M.drop 3).map (nodesR d)).sum) + 0) ≤ _
      have e : ((M.take 3).map (nodesR d)).sum + ((M.drop 3).map (nodesR d)).sum = (M.map (nodesR d)).sum := by
        rw [← List.sum_append, ← List.map_append, List.take_append_drop]
      omega

/-- How many nodes the tree has then. -/
def insN (rs : List (Ro 21)) : Nat := if rs.length ≤ 1 then (rs.map (nodesR 21)).sum else 1 + (rs.map (nodesR 21)).sum
/-- The row tells what comes of it. -/
def InsT (M : Nat → Tn) : List (Ro 21) → Prop
  | [y] => Tells M 0 21 y 0
  | [y, z] => Tells M 0 22 (.inr [y, z]) 0
  | _ => False
/-- A key can be put into the tree that the row tells; and the row that tells it then. -/
def InsTo (n : Nat) (N : Nat → Tn) (key : ByteArray) (m : Nat) (M : Nat → Tn) : Prop :=
  ∃ t rs, VTt n N t ∧ key.size ≤ 16 ∧ key ∉ keysR 21 t ∧ InsR key 21 t rs ∧ m = insN rs ∧ m ≤ 5000 ∧ InsT M rs
def InsNo (n : Nat) (N : Nat → Tn) (key : ByteArray) : Prop :=
  ∀ t rs, VTt n N t → key.size ≤ 16 → key ∉ keysR 21 t → InsR key 21 t rs → 5000 < insN rs
/-- What TreeInsert hands back. -/
def RetTr (w : World) (n : Nat) (N : Nat → Tn) (key : ByteArray) (e : Ending) (w' : World) : Prop :=
  Below w.heap.size w w' ∧ ∃ ok a m c M, e = .returned (.agg #[.bool ok, .slice a m c]) ∧ RdTn w' a m M ∧ ((ok = true ∧ InsTo n N key m M) ∨ (ok = false ∧ m = n ∧ M = N ∧ InsNo n N key))

theorem VTt.fn {n : Nat} {N : Nat → Tn} {t t' : Ro 21} (h : VTt n N t) (h' : VTt n N t') : t = t' := by
  have q := h.2.2.1
  rw [h'.2.2.1] at q
  injection q with q
  injection q with q _
  exact q.symm

abbrev capC (n c : Nat) : Prop := n ≤ c ∧ c ≤ 9223372036854775807

end Go.Proofs.Ytakemeccigpbaaa
