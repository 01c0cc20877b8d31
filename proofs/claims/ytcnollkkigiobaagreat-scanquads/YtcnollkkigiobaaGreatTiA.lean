import Derived.Test.YtcnollkkigiobaaGreatTrG
namespace Go.Proofs.YtcnollkkigiobaaGreat
open Go.RowKit Go.Deep
set_option linter.unusedVariables false
set_option maxRecDepth 100000

/-- A tree of the program's own nodes in memory; all its blocks are such that S holds. -/
def TAt (S : Nat → Prop) (w : World) : (d : Nat) → Ro d → Value → Prop
  | 0, _, _ => False
  | d + 1, .inl t, v => ∃ b ka kc, v = .iface 204 (.pointer (some ⟨b, 0, none⟩)) ∧ S b ∧ Bx w b 206 #[.int .i64 (t.length : Int), .slice ka t.length kc] ∧ RdX S w ka t.length (fun i => .string (gt t i))
  | d + 1, .inr l, v => ∃ (b g kc : Nat) (xs : List Value), v = .iface 174 (.pointer (some ⟨b, 0, none⟩)) ∧ S b ∧ Bx w b 179 #[.int .i64 ((l.flatMap (keysR d)).length : Int), .slice (some ⟨g, 0, none⟩) l.length kc] ∧ S g ∧ (g < w.heap.size ∧ l.length ≤ kc ∧ kc ≤ 9223372036854775807) ∧ 0 < l.length ∧ (∀ j u, xs[j]? = some u → w.cell? ⟨g, j, none⟩ = some u) ∧
      ∀ k (h : k < l.length), ∃ u, xs[k]? = some u ∧ TAt S w d l[k] u

theorem TAt.mono {S S' : Nat → Prop} {w w' : World} (hz : w.heap.size ≤ w'.heap.size) (hS : ∀ b, S b → b < w.heap.size → S' b ∧ w'.heap[b]? = w.heap[b]?) : ∀ {d : Nat} {t : Ro d} {v : Value}, TAt S w d t v → TAt S' w' d t v
  | 0, _, _, h => h
  | d + 1, .inl t, v, h => by
    obtain ⟨b, ka, kc, rfl, hb, hx, hr⟩ := h
    obtain ⟨q1, q2⟩ := hS b hb hx.lt
    exact ⟨b, ka, kc, rfl, q1, hx.of_block q2, hr.mono hz hS⟩
  | d + 1, .inr l, v, h => by
    obtain ⟨b, g, kc, xs, rfl, hb, hx, hg, hgl, hl, hc, hk⟩ := h
    obtain ⟨q1, q2⟩ := hS b hb hx.lt
    obtain ⟨q3, q4⟩ := hS g hg hgl.1
    refine ⟨b, g, kc, xs, rfl, q1, hx.of_block q2, q3, ⟨by have := hgl.1; omega, hgl.2⟩, hl, fun j u hj => by rw [World.cell?_of_block (a := ⟨g, j, none⟩) q4]; exact hc j u hj, fun k hk2 => ?_⟩
    obtain ⟨u, e, ht⟩ := hk k hk2
    exact ⟨u, e, TAt.mono hz hS ht⟩

theorem TAt.below {S : Nat → Prop} {w w' : World} {d : Nat} {t : Ro d} {v : Value} (h : TAt S w d t v) (hb : Below w.heap.size w w') : TAt S w' d t v :=
  h.mono hb.size (fun b hs hlt => ⟨hs, hb.block b hlt⟩)

/-- The keys pass one behind the other: hk, lk: whether there was one, and the last. -/
def Chain : Bool → ByteArray → List ByteArray → Bool → ByteArray → Prop
  | hk, lk, [], hk', lk' => hk' = hk ∧ lk' = lk
  | hk, lk, k :: L, hk', lk' => k.size ≤ 16 ∧ (hk = true → Op.bytesLess lk.toList k.toList = true) ∧ Chain true k L hk' lk'

theorem Chain.fn : ∀ {hk : Bool} {lk : ByteArray} {L : List ByteArray} {h1 h2 : Bool} {l1 l2 : ByteArray}, Chain hk lk L h1 l1 → Chain hk lk L h2 l2 → h1 = h2 ∧ l1 = l2
  | hk, lk, [], h1, h2, l1, l2, a, b => ⟨a.1.trans b.1.symm, a.2.trans b.2.symm⟩
  | hk, lk, k :: L, h1, h2, l1, l2, a, b => Chain.fn a.2.2 b.2.2

theorem Chain.app : ∀ {hk : Bool} {lk : ByteArray} {L M : List ByteArray} {h1 h2 : Bool} {l1 l2 : ByteArray}, Chain hk lk L h1 l1 → Chain h1 l1 M h2 l2 → Chain hk lk (L ++ M) h2 l2
  | hk, lk, [], M, h1, h2, l1, l2, a, b => by
    obtain ⟨rfl, rfl⟩ := a
    exact b
  | hk, lk, k :: L, M, h1, h2, l1, l2, a, b => ⟨a.1, a.2.1, Chain.app a.2.2 b⟩

theorem Chain.split : ∀ {hk : Bool} {lk : ByteArray} {L M : List ByteArray} {h2 : Bool} {l2 : ByteArray}, Chain hk lk (L ++ M) h2 l2 → ∃ h1 l1, Chain hk lk L h1 l1 ∧ Chain h1 l1 M h2 l2
  | hk, lk, [], M, h2, l2, a => ⟨hk, lk, ⟨rfl, rfl⟩, a⟩
  | hk, lk, k :: L, M, h2, l2, a => by
    obtain ⟨h1, l1, q1, q2⟩ := Chain.split a.2.2
    exact ⟨h1, l1, ⟨a.1, a.2.1, q1⟩, q2⟩

/-- The number of the leaves' depth: 0 where there is none yet. -/
structure Good (N : Nat → Tn) (n x : Nat) (dep D : Int) (hk : Bool) (lk : ByteArray) (d : Nat) (t : Ro d) (D' : Int) (hk' : Bool) (lk' : ByteArray) : Prop where
  tl : Tells N 0 d t x
  le : x + nodesR d t ≤ n
  bal : ∃ h, BalR d (decide (dep = 0)) t h ∧ D' = dep + (h : Int)
  dd : D = 0 ∨ D = D'
  asc : Chain hk lk (keysR d t) hk' lk'

/-- The reader's box. -/
def RBx (w : World) (rb b o n c x : Nat) (D : Int) (lk : ByteArray) (hk : Bool) : Prop :=
  Bx w rb 161 #[.slice (some ⟨b, o, none⟩) n c, .int .i64 (x : Int), .int .i64 D, .string lk, .bool hk]

/-- What read leaves. -/
def RetRd (N : Nat → Tn) (rb b o n c x : Nat) (dep D : Int) (hk : Bool) (lk : ByteArray) (d : Nat) (w : World) (e : Ending) (w' : World) : Prop :=
  w.grownBy w' (some rb) ∧ ∃ v ok, e = .returned (.tuple #[v, .bool ok]) ∧
    ((ok = true ∧ ∃ t D' hk' lk', Good N n x dep D hk lk d t D' hk' lk' ∧ RBx w' rb b o n c (x + nodesR d t) D' lk' hk' ∧ TAt (fun b => w.heap.size ≤ b) w' d t v) ∨
     (ok = false ∧ ¬ ∃ t D' hk' lk', Good N n x dep D hk lk d t D' hk' lk'))
end Go.Proofs.YtcnollkkigiobaaGreat
