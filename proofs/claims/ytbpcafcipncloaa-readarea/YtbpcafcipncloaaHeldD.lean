import Derived.Test.YtbpcafcipncloaaMarkP
import Derived.Test.YtbpcafcipncloaaEqD
namespace Go.Proofs.Ytbpcafcipncloaa
open Go.RowKit Go.Deep

theorem koff_top (L : Nat → Nat) (k0 : Int) (m : Nat) (hm : m ≤ 1048576) (hL : ∀ i, i < m → L i ≤ 1048576) (h1 : k0 ≤ 1099511627776) (k : Nat) (hk : k ≤ m) : koff L k0 k ≤ 2305843009213693952 := by
  have hk2 := koff_le L k0 m 1048576 hL k hk
  have : (k : Int) * (1 + ((1048576 : Nat) : Int)) ≤ 1048576 * (1 + ((1048576 : Nat) : Int)) := Int.mul_le_mul_of_nonneg_right (by omega) (by omega)
  omega

set_option maxHeartbeats 400000 in
theorem heldPendS_yes (a : Option Addr) (m cap : Nat) (L : Nat → Nat) (w : World) (k0 : Int) (h : RdP w a m (fun i => koff L k0 i) L (fun i j => IntKind.u8.wrap (koff L k0 i + 1 + j))) (hm : m ≤ 1048576) (hL : ∀ i, i < m → L i ≤ 1048576) (h0 : 0 ≤ k0) (h1 : k0 ≤ 1099511627776) :
    Calls Try.prog 56 #[.slice a m cap, .int .i64 k0] w fun e w' => e = .returned (.int .i64 (koff L k0 m)) ∧ w' = w := by
  go_enter Try.func56, Try.ntmps56
  go_wp2
  go_loop [1, 5] (fun q i => ∃ k : Nat, k ≤ m ∧ i = .int .i64 k ∧ q = .int .i64 (koff L k0 k)) (fun _ i => m - (intOf i).toNat)
  case atStart => exact ⟨0, Nat.zero_le _, rfl, rfl⟩
  case round =>
    obtain ⟨k, hk, rfl, rfl⟩ := hrel
    by_cases hlt : k < m
    · have hk1 := koff_ge L k0 k
      have hq1 : 0 ≤ koff L k0 k := by omega
      have hq2 := koff_top L k0 m hm hL h1 k hk
      have HL := hL k hlt
      have HS : Hid (koff L k0 (k + 1) = koff L k0 k + 1 + L k) := rfl
      have hne : ¬ m = 0 := by omega
      rcases h with h | ⟨b, o, rfl, hc⟩
      · exact absurd h hne
      obtain ⟨c1, ad, cp, c2, c3⟩ := hc k hlt
      dsimp only at c1 c3
      have hqq : (koff L k0 k != koff L k0 k) = false := by simp
      have hlz : ¬ koff L k0 k + 1 + (L k : Int) < 0 := by omega
      clear hc hL hk1
      generalize koff L k0 k = q at *
      go_wp2_with fail
      refine (heldByteS_yes ad (L k) cp w (q + 1) c3 (by omega) (by omega) (by omega)).mono ?_
      rintro e w2 ⟨rfl, hw⟩
      subst hw
      go_wp2
      go_round
      case rel => exact ⟨k + 1, by omega, by go_num, by rw [HS.out]⟩
      case measure => simp [intOf]; omega
    · have e : k = m := by omega
      subst e
      go_wp2
      go_ret
      exact ⟨rfl, rfl⟩

theorem markPendS_own (p : Option Addr) (m cap B : Nat) (S : Nat → Int) (L : Nat → Nat) (F : Nat → Nat → Int) (A : Nat → Option Addr) (w : World) (k0 : Int) (h : OwnP w B p m S L F A) (hm : m ≤ 1048576) (hL : ∀ i, i < m → L i ≤ 1048576) (h0 : 0 ≤ k0) (h1 : k0 ≤ 1099511627776) :
    Calls Try.prog 46 #[.slice p m cap, .int .i64 k0] w fun e w' => e = .returned (.int .i64 (koff L k0 m)) ∧
      OwnP w' B p m (fun i => koff L k0 i) L (fun i j => IntKind.u8.wrap (koff L k0 i + 1 + j)) A ∧ (m = 0 → w' = w) ∧ (m ≠ 0 → ∃ gC, p = some ⟨gC, 0, none⟩ ∧ OnlyP gC m L A w w') := by
  by_cases hz : m = 0
  · subst hz
    go_enter Try.func46, Try.ntmps46
    go_wp2
    go_loop [1, 5] (fun q i => i = .int .i64 0 ∧ q = .int .i64 k0) (fun _ _ => 0)
    case atStart => exact ⟨rfl, rfl⟩
    case round =>
      obtain ⟨rfl, rfl⟩ := hrel
      go_wp2
      go_ret
      exact ⟨by simp [koff], Or.inl rfl, by simp⟩
  · rcases h with h | ⟨gC, C, rfl, h⟩
    · exact absurd h hz
    · refine (markPendS_row gC m cap B S L F A C w k0 h hm hL h0 h1).mono ?_
      rintro e w' ⟨rfl, h1, h2⟩
      exact ⟨rfl, Or.inr ⟨gC, C, rfl, h1⟩, fun h => absurd h hz, fun _ => ⟨gC, rfl, h2⟩⟩

theorem OwnP.only {w w1 : World} {B : Nat} {a p : Option Addr} {n m : Nat} {d S : Nat → Int} {L : Nat → Nat} {F : Nat → Nat → Int} {A : Nat → Option Addr} (h : OwnP w B p m S L F A) (ha : OwnB w B a n d) (ho : OnlyAt a w w1) (hz : n = 0 → w1 = w)
    (hx : n ≠ 0 → ∀ i, i < m → L i ≠ 0 → A i ≠ a) : OwnP w1 B p m S L F A := by
  by_cases hn : n = 0
  · rw [hz hn]; exact h
  · rcases ha with h0 | ⟨g, rfl, hg, hr⟩
    · exact absurd h0 hn
    · rcases h with h | ⟨gC, C, rfl, h⟩
      · exact Or.inl h
      · have hne : g ≠ gC := hr.ne h.row (by decide)
        refine Or.inr ⟨gC, C, rfl, h.le, h.row.of_block (ho.block gC (fun x e => by injection e with e; subst e; exact hne)), fun i hi => ?_, h.apart⟩
        refine (h.each i hi).only ho (fun hl x y hx1 hy => ?_)
        injection hy with hy
        subst hy
        intro e
        rcases h.each i hi with h0 | ⟨g', hA', _, _⟩
        · exact hl h0
        · rw [hA'] at hx1; injection hx1 with hx1; subst hx1
          simp at e
          subst e
          exact hx hn i hi hl hA'

theorem OwnB.onlyP {w w1 : World} {B gC : Nat} {a : Option Addr} {n m : Nat} {d : Nat → Int} {S : Nat → Int} {L : Nat → Nat} {A : Nat → Option Addr} {C : Nat → Nat} (ha : OwnB w B a n d) (hr : rowIn w gC 81 (m * 2) (pendCell S A L C)) (ho : OnlyP gC m L A w w1)
    (hx : n ≠ 0 → ∀ i, i < m → L i ≠ 0 → A i ≠ a) : OwnB w1 B a n d := by
  rcases ha with h0 | ⟨g, rfl, hg, hr'⟩
  · exact Or.inl h0
  · by_cases hn : n = 0
    · exact Or.inl hn
    · exact Or.inr ⟨g, rfl, hg, hr'.of_block (ho.block g (hr'.ne hr (by decide)) (fun i hi hl => hx hn i hi hl))⟩

/-- Of the blocks that w has, w' has turned at most those from B to T. -/
structure Within (B T : Nat) (w w' : World) : Prop where
  os : w'.os = w.os
  tape : w'.tape = w.tape
  output : w'.output = w.output
  size : w.heap.size ≤ w'.heap.size
  block : ∀ k, k < w.heap.size → (k < B ∨ T ≤ k) → w'.heap[k]? = w.heap[k]?

theorem Within.below {B T : Nat} {w w' : World} (h : Within B T w w') (hB : B ≤ w.heap.size) : Below B w w' := ⟨h.os, h.tape, h.output, h.size, fun k hk => h.block k (by omega) (Or.inl hk)⟩
theorem Within.cells {B T : Nat} {w w' : World} (h : Within B T w w') : (∀ b o, T ≤ b → b < w.heap.size → w'.cell? ⟨b, o, none⟩ = w.cell? ⟨b, o, none⟩) ∧ (∀ b o, T ≤ b → b < w.heap.size → w'.frozen? ⟨b, o, none⟩ = w.frozen? ⟨b, o, none⟩) :=
  ⟨fun b _ hT hl => World.cell?_of_block (w := w) (h.block b hl (Or.inr hT)), fun b _ hT hl => World.frozen?_of_block (w := w) (h.block b hl (Or.inr hT))⟩
theorem Within.refl (B T : Nat) (w : World) : Within B T w w := ⟨rfl, rfl, rfl, Nat.le_refl _, fun _ _ _ => rfl⟩
theorem Within.trans {B T : Nat} {a b c : World} (h : Within B T a b) (k : Within B T b c) : Within B T a c :=
  ⟨k.os.trans h.os, k.tape.trans h.tape, k.output.trans h.output, Nat.le_trans h.size k.size, fun i hi hx => (k.block i (by have := h.size; omega) hx).trans (h.block i hi hx)⟩
theorem Within.ofBelow {B T : Nat} {w w' : World} (h : Below w.heap.size w w') : Within B T w w' := ⟨h.os, h.tape, h.output, h.size, fun k hk _ => h.block k hk⟩
theorem Within.ofOnly {B T : Nat} {a : Option Addr} {w w' : World} (h : OnlyAt a w w') (hB : ∀ x, a = some x → B ≤ x.block ∧ x.block < T) : Within B T w w' :=
  ⟨h.os, h.tape, h.output, by rw [h.size]; exact Nat.le_refl _, fun k _ hx => h.block k (fun x e => by have := hB x e; omega)⟩
theorem Within.ofOnlyP {B T gC m : Nat} {L : Nat → Nat} {A : Nat → Option Addr} {w w' : World} (h : OnlyP gC m L A w w') (hC : B ≤ gC ∧ gC < T) (hA : ∀ i, i < m → L i ≠ 0 → ∀ x, A i = some x → B ≤ x.block ∧ x.block < T) : Within B T w w' :=
  ⟨h.os, h.tape, h.output, by rw [h.size]; exact Nat.le_refl _, fun k _ hx => h.block k (by omega) (fun i hi hl e => by have := hA i hi hl _ e; simp at this; omega)⟩

/-- The blocks of an answer lie below T. -/
def LtB (T : Nat) (a : Option Addr) (n : Nat) : Prop := n ≠ 0 → ∀ x, a = some x → x.block < T
theorem OwnB.ltB {w : World} {B : Nat} {a : Option Addr} {n : Nat} {f : Nat → Int} (h : OwnB w B a n f) : LtB w.heap.size a n := by
  intro hn x hx
  rcases h with h0 | ⟨g, rfl, hg, hr⟩
  · exact absurd h0 hn
  · injection hx with hx; subst hx; exact hr.lt
theorem OwnB.ge {w : World} {B : Nat} {a : Option Addr} {n : Nat} {f : Nat → Int} (h : OwnB w B a n f) : n ≠ 0 → ∀ x, a = some x → B ≤ x.block := by
  intro hn x hx
  rcases h with h0 | ⟨g, rfl, hg, hr⟩
  · exact absurd h0 hn
  · injection hx with hx; subst hx; exact hg
theorem OwnP.ltB {w : World} {B : Nat} {a : Option Addr} {m : Nat} {S : Nat → Int} {L : Nat → Nat} {F : Nat → Nat → Int} {A : Nat → Option Addr} (h : OwnP w B a m S L F A) : LtB w.heap.size a m ∧ ∀ i, i < m → LtB w.heap.size (A i) (L i) := by
  rcases h with h | ⟨gC, C, rfl, h⟩
  · subst h; exact ⟨fun h => absurd rfl h, fun i hi => absurd hi (Nat.not_lt_zero _)⟩
  · exact ⟨fun _ x e => by injection e with e; subst e; exact h.row.lt, fun i hi => (h.each i hi).ltB⟩

set_option maxHeartbeats 400000 in
theorem markDisk_own (a p : Option Addr) (n c m q B T : Nat) (d : Nat → Int) (S : Nat → Int) (L : Nat → Nat) (F : Nat → Nat → Int) (A : Nat → Option Addr) (fuel : Int) (dead : Bool) (w : World) (k0 : Int)
    (ha : OwnB w B a n d) (hp : OwnP w B p m S L F A) (hx : n ≠ 0 → ∀ i, i < m → L i ≠ 0 → A i ≠ a) (hTa : LtB T a n) (hTp : LtB T p m ∧ ∀ i, i < m → LtB T (A i) (L i)) (hn : n ≤ 1048576) (hm : m ≤ 1048576) (hL : ∀ i, i < m → L i ≤ 1048576) (h0 : 0 ≤ k0) (h1 : k0 ≤ 1048576) :
    Calls Try.prog 20 #[.agg #[.slice a n c, .slice p m q, .int .i64 fuel, .bool dead], .int .i64 k0] w fun e w' => e = .returned (.int .i64 (koff L (k0 + n) m)) ∧
      Rd .u8 w' a n (fun i => IntKind.u8.wrap (k0 + i)) ∧ RdP w' p m (fun i => koff L (k0 + n) i) L (fun i j => IntKind.u8.wrap (koff L (k0 + n) i + 1 + j)) ∧ Within B T w w' := by
  have hbel : ∀ o1, Below w.heap.size w (w.alloc o1) := fun o1 => (Below.refl _ _).alloc (Nat.le_refl _) o1
  have key : ∀ O W1, OnlyAt a (w.alloc O) W1 → (n = 0 → W1 = w.alloc O) → ∀ o, W1.cell? ⟨w.heap.size, o, none⟩ = (w.alloc O).cell? ⟨w.heap.size, o, none⟩ := by
    intro O W1 ho hz o
    by_cases hn : n = 0
    · rw [hz hn]
    · exact World.cell?_of_block (w := w.alloc O) (ho.block _ (fun x e => by have := ha.ltB hn x e; show x.block ≠ w.heap.size; omega))
  have HK : Hid (∀ O W1, OnlyAt a (w.alloc O) W1 → (n = 0 → W1 = w.alloc O) → ∀ o, W1.cell? ⟨w.heap.size, o, none⟩ = (w.alloc O).cell? ⟨w.heap.size, o, none⟩) := key
  have Ha : Hid (OwnB w B a n d ∧ LtB T a n ∧ LtB T p m ∧ ∀ i, i < m → LtB T (A i) (L i)) := ⟨ha, hTa, hTp⟩
  clear key ha hTa hTp
  go_enter Try.func20, Try.ntmps20
  go_wp2_with fail
  refine (markByteS_own a n c B d _ k0 (Ha.out.1.below (hbel _)) (by omega) h0 (by omega)).mono ?_
  rintro e w1 ⟨rfl, hb1, ho1, hz1⟩
  have hcell := HK.out _ _ ho1 hz1
  have HP : Hid (OwnP w1 B p m S L F A) := (hp.below (hbel _)).only (Ha.out.1.below (hbel _)) ho1 hz1 hx
  have HB1 : Hid (Within B T w w1) := by
    by_cases e : n = 0
    · rw [hz1 e]; exact Within.ofBelow (hbel _)
    · exact (Within.ofBelow (hbel _)).trans (Within.ofOnly ho1 (fun x hxa => ⟨Ha.out.1.ge e x hxa, Ha.out.2.1 e x hxa⟩))
  have HX : Hid (n ≠ 0 → ∀ i, i < m → L i ≠ 0 → A i ≠ a) := hx
  have Hb1 : Hid (OwnB w1 B a n (fun i => IntKind.u8.wrap (k0 + i))) := hb1
  clear hx hb1 ho1 hz1 hp HK
  go_wp2_with fail
  refine (markPendS_own p m q B S L F A w1 (k0 + n) HP.out hm hL (by omega) (by omega)).mono ?_
  rintro e w2 ⟨rfl, hp2, hz2, ho2⟩
  have HE : Hid (Rd .u8 w2 a n (fun i => IntKind.u8.wrap (k0 + i)) ∧ RdP w2 p m (fun i => koff L (k0 + n) i) L (fun i j => IntKind.u8.wrap (koff L (k0 + n) i + 1 + j)) ∧ Within B T w w2) := by
    refine ⟨?_, hp2.rd, ?_⟩
    · by_cases e : m = 0
      · rw [hz2 e]; exact Hb1.out.rd
      · obtain ⟨gC, rfl, hoP⟩ := ho2 e
        rcases HP.out with h | ⟨gC', C, hgC, h⟩
        · exact absurd h e
        · injection hgC with hgC
          injection hgC with hgC
          subst hgC
          exact (Hb1.out.onlyP h.row hoP HX.out).rd
    · by_cases e : m = 0
      · rw [hz2 e]; exact HB1.out
      · obtain ⟨gC, rfl, hoP⟩ := ho2 e
        rcases HP.out with h | ⟨gC', C, hgC, h⟩
        · exact absurd h e
        · injection hgC with hgC
          injection hgC with hgC
          subst hgC
          exact HB1.out.trans (Within.ofOnlyP hoP ⟨h.le, Ha.out.2.2.1 e _ rfl⟩ (fun i hi hl x hxx => ⟨(h.each i hi).ge hl x hxx, Ha.out.2.2.2 i hi hl x hxx⟩))
  clear hp2 hz2 ho2 hcell
  go_wp2
  go_ret
  exact ⟨rfl, HE.out⟩

set_option maxHeartbeats 400000 in
theorem heldDisk_yes (a p : Option Addr) (n c m q : Nat) (L : Nat → Nat) (fuel : Int) (dead : Bool) (w : World) (k0 : Int)
    (ha : Rd .u8 w a n (fun i => IntKind.u8.wrap (k0 + i))) (hp : RdP w p m (fun i => koff L (k0 + n) i) L (fun i j => IntKind.u8.wrap (koff L (k0 + n) i + 1 + j))) (hn : n ≤ 1048576) (hm : m ≤ 1048576) (hL : ∀ i, i < m → L i ≤ 1048576) (h0 : 0 ≤ k0) (h1 : k0 ≤ 1048576) :
    Calls Try.prog 26 #[.agg #[.slice a n c, .slice p m q, .int .i64 fuel, .bool dead], .int .i64 k0] w fun e w' => e = .returned (.int .i64 (koff L (k0 + n) m)) ∧ Below w.heap.size w w' := by
  have hbel : ∀ o1, Below w.heap.size w (w.alloc o1) := fun o1 => (Below.refl _ _).alloc (Nat.le_refl _) o1
  have hk1 := koff_ge L (k0 + n) m
  have hz1 : ¬ k0 + (n : Int) < 0 := by omega
  have hz2 : ¬ koff L (k0 + n) m < 0 := by omega
  go_enter Try.func26, Try.ntmps26
  go_wp2_with fail
  refine (heldByteS_yes a n c _ k0 (ha.below (hbel _)) (by omega) h0 (by omega)).mono ?_
  rintro e w1 ⟨rfl, hw⟩
  subst hw
  go_wp2_with fail
  refine (heldPendS_yes p m q L _ (k0 + n) (hp.below (hbel _)) hm hL (by omega) (by omega)).mono ?_
  rintro e w2 ⟨rfl, hw⟩
  subst hw
  go_wp2
  go_ret
  exact ⟨rfl, hbel _⟩

theorem OwnB.within {w w' : World} {B T B' : Nat} {a : Option Addr} {n : Nat} {f : Nat → Int} (h : OwnB w B' a n f) (hT : T ≤ B') (hw : Within B T w w') : OwnB w' B' a n f := by
  rcases h with h | ⟨g, rfl, hg, hr⟩
  · exact Or.inl h
  · exact Or.inr ⟨g, rfl, hg, hr.of_block (hw.block g hr.lt (Or.inr (by omega)))⟩

theorem OwnP.within {w w' : World} {B T B' : Nat} {a : Option Addr} {m : Nat} {S : Nat → Int} {L : Nat → Nat} {F : Nat → Nat → Int} {A : Nat → Option Addr} (h : OwnP w B' a m S L F A) (hT : T ≤ B') (hw : Within B T w w') : OwnP w' B' a m S L F A := by
  rcases h with h | ⟨gC, C, rfl, h⟩
  · exact Or.inl h
  · exact Or.inr ⟨gC, C, rfl, h.le, h.row.of_block (hw.block gC h.row.lt (Or.inr (by have := h.le; omega))), fun i hi => (h.each i hi).within hT hw, h.apart⟩

theorem OwnD.within {w w' : World} {B T B' : Nat} {a : Option Addr} {n : Nat} {d : Nat → Int} {p : Option Addr} {m : Nat} {S : Nat → Int} {L : Nat → Nat} {F : Nat → Nat → Int} {A : Nat → Option Addr} (h : OwnD w B' a n d p m S L F A) (hT : T ≤ B') (hw : Within B T w w') : OwnD w' B' a n d p m S L F A :=
  ⟨h.data.within hT hw, h.cache.within hT hw, h.apart⟩

theorem box4W {W w w' : World} {B : Nat} {v0 v1 v2 v3 : Value} {t : TypeId} (hb : Below (W.heap.size + 1) (W.alloc (.cells #[v0, v1, v2, v3] t)) w) (hw : Within B W.heap.size w w') : Within B W.heap.size w w' ∧
    w'.cell? ⟨W.heap.size, 0, none⟩ = some v0 ∧ w'.cell? ⟨W.heap.size, 1, none⟩ = some v1 ∧ w'.cell? ⟨W.heap.size, 2, none⟩ = some v2 ∧ w'.cell? ⟨W.heap.size, 3, none⟩ = some v3 ∧ W.heap.size < w'.heap.size := by
  obtain ⟨a0, a1, a2, a3, hl⟩ := box4 hb
  have hs := hw.size
  obtain ⟨hc, _⟩ := hw.cells
  refine ⟨hw, ?_, ?_, ?_, ?_, by omega⟩ <;> (rw [hc _ _ (Nat.le_refl _) hl]; assumption)

end Go.Proofs.Ytbpcafcipncloaa
