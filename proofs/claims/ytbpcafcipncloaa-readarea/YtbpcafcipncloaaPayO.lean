import Derived.Test.YtbpcafcipncloaaHeldD
import Derived.Test.YtbpcafcipncloaaPendApp
namespace Go.Proofs.Ytbpcafcipncloaa
open Go.RowKit Go.Deep
set_option linter.unusedVariables false
set_option maxRecDepth 100000

/-- A slice of payloads that can be read: lengths L, bytes F. -/
def RdY (w : World) (a : Option Addr) (m : Nat) (L : Nat → Nat) (F : Nat → Nat → Int) : Prop :=
  m = 0 ∨ ∃ b o, a = some ⟨b, o, none⟩ ∧ ∀ i, i < m → ∃ ad cp, w.cell? ⟨b, o + i, none⟩ = some (.slice ad (L i) cp) ∧ Rd .u8 w ad (L i) (F i)

theorem RdY.below {w w' : World} {a : Option Addr} {m : Nat} {L : Nat → Nat} {F : Nat → Nat → Int} (h : RdY w a m L F) (hb : Below w.heap.size w w') : RdY w' a m L F := by
  rcases h with h | ⟨b, o, rfl, hc⟩
  · exact Or.inl h
  · refine Or.inr ⟨b, o, rfl, fun i hi => ?_⟩
    obtain ⟨ad, cp, h2, h3⟩ := hc i hi
    exact ⟨ad, cp, (hb.cell (p := ⟨b, o + i, none⟩) (World.block_lt_of_cell? _ _ h2)).trans h2, h3.below hb⟩

def payCell (A : Nat → Option Addr) (L C : Nat → Nat) (i : Nat) : Value := .slice (A i) (L i) (C i)

/-- A slice of payloads in the call's own memory, each with bytes of its own. -/
structure OwnYA (w : World) (B : Nat) (g m : Nat) (L : Nat → Nat) (F : Nat → Nat → Int) (A : Nat → Option Addr) (C : Nat → Nat) : Prop where
  le : B ≤ g
  row : rowIn w g 75 m (payCell A L C)
  each : ∀ i, i < m → OwnB w B (A i) (L i) (F i)
  apart : ∀ i j, i < m → j < m → i ≠ j → L i ≠ 0 → L j ≠ 0 → A i ≠ A j

def OwnY (w : World) (B : Nat) (a : Option Addr) (m : Nat) (L : Nat → Nat) (F : Nat → Nat → Int) (A : Nat → Option Addr) : Prop :=
  m = 0 ∨ ∃ g C, a = some ⟨g, 0, none⟩ ∧ OwnYA w B g m L F A C

theorem OwnYA.rd {w : World} {B g m : Nat} {L : Nat → Nat} {F : Nat → Nat → Int} {A : Nat → Option Addr} {C : Nat → Nat} (h : OwnYA w B g m L F A C) : RdY w (some ⟨g, 0, none⟩) m L F := by
  refine Or.inr ⟨g, 0, rfl, fun i hi => ⟨A i, C i, ?_, (h.each i hi).rd⟩⟩
  have := h.row.cell (i := i) hi
  rw [Nat.zero_add]
  exact this
theorem OwnY.rd {w : World} {B : Nat} {a : Option Addr} {m : Nat} {L : Nat → Nat} {F : Nat → Nat → Int} {A : Nat → Option Addr} (h : OwnY w B a m L F A) : RdY w a m L F := by
  rcases h with h | ⟨g, C, rfl, h⟩
  · exact Or.inl h
  · exact h.rd
theorem OwnY.below {w w' : World} {B : Nat} {a : Option Addr} {m : Nat} {L : Nat → Nat} {F : Nat → Nat → Int} {A : Nat → Option Addr} (h : OwnY w B a m L F A) (hb : Below w.heap.size w w') : OwnY w' B a m L F A := by
  rcases h with h | ⟨g, C, rfl, h⟩
  · exact Or.inl h
  · exact Or.inr ⟨g, C, rfl, h.le, h.row.of_block (hb.block g h.row.lt), fun i hi => (h.each i hi).below hb, h.apart⟩
theorem OwnY.setOther {w : World} {B : Nat} {a : Option Addr} {m : Nat} {L : Nat → Nat} {F : Nat → Nat → Int} {A : Nat → Option Addr} (h : OwnY w B a m L F A) {p : Addr} (hp : p.block < B) (v : Value) : OwnY (w.setCell p v) B a m L F A := by
  rcases h with h | ⟨g, C, rfl, h⟩
  · exact Or.inl h
  · exact Or.inr ⟨g, C, rfl, h.le, h.row.of_block (Below.heap_setCell _ _ _ _ (by have := h.le; omega)), fun i hi => (h.each i hi).setOther hp v, h.apart⟩
theorem OwnY.mono {w : World} {B B' : Nat} {a : Option Addr} {m : Nat} {L : Nat → Nat} {F : Nat → Nat → Int} {A : Nat → Option Addr} (h : OwnY w B a m L F A) (hB : B' ≤ B) : OwnY w B' a m L F A := by
  rcases h with h | ⟨g, C, rfl, h⟩
  · exact Or.inl h
  · exact Or.inr ⟨g, C, rfl, by have := h.le; omega, h.row, fun i hi => (h.each i hi).mono hB, h.apart⟩
theorem OwnY.within {w w' : World} {B T B' : Nat} {a : Option Addr} {m : Nat} {L : Nat → Nat} {F : Nat → Nat → Int} {A : Nat → Option Addr} (h : OwnY w B' a m L F A) (hT : T ≤ B') (hw : Within B T w w') : OwnY w' B' a m L F A := by
  rcases h with h | ⟨g, C, rfl, h⟩
  · exact Or.inl h
  · exact Or.inr ⟨g, C, rfl, h.le, h.row.of_block (hw.block g h.row.lt (Or.inr (by have := h.le; omega))), fun i hi => (h.each i hi).within hT hw, h.apart⟩

/-- Where the marks of payload i begin. -/
def yoff (L : Nat → Nat) (k0 : Int) : Nat → Int
  | 0 => k0
  | i + 1 => yoff L k0 i + L i
theorem yoff_ge (L : Nat → Nat) (k0 : Int) (i : Nat) : k0 ≤ yoff L k0 i := by
  induction i with
  | zero => simp [yoff]
  | succ i ih => simp only [yoff]; omega
theorem yoff_le (L : Nat → Nat) (k0 : Int) (m : Nat) (hL : ∀ i, i < m → L i ≤ 1048576) (i : Nat) (hi : i ≤ m) : yoff L k0 i ≤ k0 + i * 1048576 := by
  induction i with
  | zero => simp [yoff]
  | succ i ih =>
    have h1 := ih (by omega)
    have h2 := hL i (by omega)
    simp only [yoff]
    omega

set_option maxHeartbeats 1000000 in
theorem eqPayload_yes (a b : Option Addr) (len ca cb : Nat) (f : Nat → Int) (w : World) (ha : Rd .u8 w a len f) (hb : Rd .u8 w b len f) (hm : len ≤ 1099511627776) :
    Calls Try.prog 81 #[.agg #[.slice a len ca], .agg #[.slice b len cb]] w fun e w' => e = .returned (.bool true) ∧ Below w.heap.size w w' := by
  go_enter Try.func81, Try.ntmps81
  go_wp2_with fail
  have hbel : ∀ o1 o2, Below w.heap.size w ((w.alloc o1).alloc o2) := fun o1 o2 => ((Below.refl _ _).alloc (Nat.le_refl _) o1).alloc (by simp) o2
  refine (eqByteS_yes a b len ca cb f _ (ha.below (hbel _ _)) (hb.below (hbel _ _)) hm).mono ?_
  rintro e w' ⟨rfl, n, rfl⟩
  go_wp2
  go_ret
  exact ⟨rfl, below_drewN (hbel _ _) n⟩

set_option maxHeartbeats 2000000 in
theorem eqPayloadS_yes (a b : Option Addr) (m ca cb : Nat) (L : Nat → Nat) (F : Nat → Nat → Int) (w : World) (ha : RdY w a m L F) (hb : RdY w b m L F) (hm : m ≤ 1048576) (hL : ∀ i, i < m → L i ≤ 1048576) :
    Calls Try.prog 62 #[.slice a m ca, .slice b m cb] w fun e w' => e = .returned (.bool true) ∧ Below w.heap.size w w' := by
  have hll : ((m : Int) != (m : Int)) = false := by simp
  go_enter Try.func62, Try.ntmps62
  go_wp2
  go_loopw [5] (fun i wr => ∃ k : Nat, k ≤ m ∧ i = .int .i64 k ∧ Below w.heap.size w wr) (fun i _ => m - (intOf i).toNat)
  case atStart => exact ⟨0, Nat.zero_le _, rfl, Below.refl _ _⟩
  case round =>
    obtain ⟨k, hk, rfl, hbel⟩ := hrel
    by_cases hlt : k < m
    · have hne : ¬ m = 0 := by omega
      have ha' := ha.below hbel
      have hb' := hb.below hbel
      rcases ha' with h | ⟨ba, oa, rfl, hca⟩
      · exact absurd h hne
      rcases hb' with h | ⟨bb, ob, rfl, hcb⟩
      · exact absurd h hne
      obtain ⟨ad1, cp1, h2, h3⟩ := hca k hlt
      obtain ⟨ad2, cp2, g2, g3⟩ := hcb k hlt
      have HL := hL k hlt
      clear hca hcb ha hb hL
      have hsz := hbel.size
      have HB : Hid (Below w.heap.size w wr) := hbel
      clear hbel
      go_wp2
      go_region_with (go_at_call 81; refine (eqPayload_yes ad1 ad2 (L k) cp1 cp2 (F k) _ (by exact h3) (by exact g3) (by omega)).mono ?_; rintro e w2 ⟨rfl, hb2⟩)
      all_goals
        have HX : Hid (Below w.heap.size w w2) := (HB.out.drew).trans (hb2.mono (by simpa using hsz))
        clear hb2 h2 h3 g2 g3
        go_wp2
        go_roundw
        case rel => exact ⟨k + 1, by omega, by go_num, HX.out⟩
        case measure => simp [intOf]; omega
    · have e : k = m := by omega
      subst e
      go_wp2
      go_ret
      exact ⟨rfl, hbel⟩

set_option maxHeartbeats 400000 in
theorem eqArea_yes (ok : Bool) (a b : Option Addr) (m ca cb : Nat) (L : Nat → Nat) (F : Nat → Nat → Int) (us nx : Int) (w : World) (ha : RdY w a m L F) (hb : RdY w b m L F) (hm : m ≤ 1048576) (hL : ∀ i, i < m → L i ≤ 1048576) :
    Calls Try.prog 29 #[.agg #[.bool ok, .slice a m ca, .int .i64 us, .int .i64 nx], .agg #[.bool ok, .slice b m cb, .int .i64 us, .int .i64 nx]] w fun e w' => e = .returned (.bool true) ∧ Below w.heap.size w w' := by
  have h1 : (ok != ok) = false := by simp
  have h2 : (us != us) = false := by simp
  have h3 : (nx != nx) = false := by simp
  have hbel : ∀ o1 o2, Below w.heap.size w ((w.alloc o1).alloc o2) := fun o1 o2 => ((Below.refl _ _).alloc (Nat.le_refl _) o1).alloc (by simp) o2
  go_enter Try.func29, Try.ntmps29
  go_wp2_with fail
  refine (eqPayloadS_yes a b m ca cb L F _ (ha.below (hbel _ _)) (hb.below (hbel _ _)) hm hL).mono ?_
  rintro e w2 ⟨rfl, hb2⟩
  obtain ⟨hc, hf⟩ := bcell hb2
  clear ha hb
  go_wp2
  go_ret
  exact ⟨rfl, (hbel _ _).trans (hb2.mono (by simp; omega))⟩

/-- w' is w but for the payloads' bytes. -/
structure OnlyY (m : Nat) (L : Nat → Nat) (A : Nat → Option Addr) (w w' : World) : Prop where
  os : w'.os = w.os
  tape : w'.tape = w.tape
  output : w'.output = w.output
  size : w'.heap.size = w.heap.size
  block : ∀ g, (∀ i, i < m → L i ≠ 0 → A i ≠ some ⟨g, 0, none⟩) → w'.heap[g]? = w.heap[g]?

theorem OwnYA.setBytes {w w2 : World} {B gC m : Nat} {L : Nat → Nat} {F : Nat → Nat → Int} {A : Nat → Option Addr} {C : Nat → Nat} (h : OwnYA w B gC m L F A C) (k : Nat) (hk : k < m) (f' : Nat → Int)
    (hb : OwnB w2 B (A k) (L k) f') (ho : OnlyAt (A k) w w2) (hz : L k = 0 → w2 = w) :
    OwnYA w2 B gC m L (fun i => if i = k then f' else F i) A C := by
  by_cases hl : L k = 0
  · have e := hz hl
    subst e
    refine ⟨h.le, h.row, fun i hi => ?_, h.apart⟩
    by_cases e : i = k
    · subst e; exact Or.inl hl
    · simp only [if_neg e]; exact h.each i hi
  · have hbk := h.each k hk
    rcases hbk with h0 | ⟨g, hA, hg, hr⟩
    · exact absurd h0 hl
    · have hne : g ≠ gC := hr.ne h.row (by decide)
      refine ⟨h.le, h.row.of_block (ho.block gC (fun x e => by rw [hA] at e; injection e with e; subst e; exact hne)), fun i hi => ?_, h.apart⟩
      by_cases e : i = k
      · subst e; simp only [if_true]; exact hb
      · simp only [if_neg e]
        refine (h.each i hi).only ho (fun hn x y hx hy => ?_)
        intro hxy
        rcases h.each i hi with h0 | ⟨g', hA', _, _⟩
        · exact hn h0
        · rw [hA] at hy; injection hy with hy; subst hy
          rw [hA'] at hx; injection hx with hx; subst hx
          simp at hxy
          subst hxy
          exact h.apart i k hi hk e hn hl (by rw [hA, hA'])

theorem OnlyY.setBytes {m : Nat} {L : Nat → Nat} {A : Nat → Option Addr} {w w' w2 : World} (h : OnlyY m L A w w') (k : Nat) (hk : k < m) (hz : L k = 0 → w2 = w') (ho : OnlyAt (A k) w' w2) (hA0 : L k ≠ 0 → ∃ g, A k = some ⟨g, 0, none⟩) : OnlyY m L A w w2 := by
  by_cases hl : L k = 0
  · rw [hz hl]; exact h
  · refine ⟨ho.os.trans h.os, ho.tape.trans h.tape, ho.output.trans h.output, ho.size.trans h.size, fun g hA => ?_⟩
    rw [← h.block g hA]
    refine ho.block g (fun x hx e => ?_)
    obtain ⟨g', hg'⟩ := hA0 hl
    rw [hg'] at hx
    injection hx with hx
    subst hx
    simp at e
    subst e
    exact hA k hk hl hg'

set_option maxHeartbeats 2000000 in
theorem markPayS_row (gC m cap B : Nat) (L : Nat → Nat) (F : Nat → Nat → Int) (A : Nat → Option Addr) (C : Nat → Nat) (w : World) (k0 : Int) (h : OwnYA w B gC m L F A C) (hm : m ≤ 1048576) (hL : ∀ i, i < m → L i ≤ 1048576) (h0 : 0 ≤ k0) (h1 : k0 ≤ 1099511627776) :
    Calls Try.prog 63 #[.slice (some ⟨gC, 0, none⟩) m cap, .int .i64 k0] w fun e w' => e = .returned (.int .i64 (yoff L k0 m)) ∧
      OwnYA w' B gC m L (fun i j => IntKind.u8.wrap (yoff L k0 i + j)) A C ∧ OnlyY m L A w w' := by
  go_enter Try.func63, Try.ntmps63
  go_wp2
  go_loopw [1, 5] (fun q i wr => ∃ k : Nat, k ≤ m ∧ i = .int .i64 k ∧ q = .int .i64 (yoff L k0 k) ∧ OwnYA wr B gC m L (fun i j => if i < k then IntKind.u8.wrap (yoff L k0 i + j) else F i j) A C ∧ OnlyY m L A w wr) (fun _ i _ => m - (intOf i).toNat)
  case atStart => exact ⟨0, Nat.zero_le _, rfl, rfl, by simpa using h, ⟨rfl, rfl, rfl, rfl, fun _ _ => rfl⟩⟩
  case round =>
    obtain ⟨k, hk, rfl, rfl, hown, honly⟩ := hrel
    clear h
    have hk1 := yoff_ge L k0 k
    have hk2 := yoff_le L k0 m hL k hk
    by_cases hlt : k < m
    · have hq1 : 0 ≤ yoff L k0 k := by omega
      have hq2 : yoff L k0 k ≤ 2305843009213693952 := by omega
      have hc2 := hown.row.cell (i := k) (by omega)
      unfold payCell at hc2
      have HS : Hid (yoff L k0 (k + 1) = yoff L k0 k + L k) := rfl
      have HO : Hid (OwnYA wr B gC m L (fun i j => if i < k then IntKind.u8.wrap (yoff L k0 i + j) else F i j) A C) := hown
      have HP : Hid (OnlyY m L A w wr) := honly
      have HL := hL k hlt
      clear hown honly hk1 hk2
      go_wp2_with fail
      refine (markByteS_own (A k) (L k) (C k) B _ _ (yoff L k0 k) (HO.out.each k hlt) (by omega) (by omega) (by omega)).mono ?_
      rintro e w2 ⟨rfl, hb2, ho2, hz2⟩
      have HX : Hid (OwnYA w2 B gC m L (fun i j => if i < k + 1 then IntKind.u8.wrap (yoff L k0 i + j) else F i j) A C ∧ OnlyY m L A w w2) := by
        have q1 := HO.out.setBytes k hlt _ hb2 ho2 hz2
        refine ⟨⟨q1.le, q1.row, fun i hi => ?_, q1.apart⟩, HP.out.setBytes k hlt hz2 ho2 (fun hl => ?_)⟩
        · refine (q1.each i hi).congr (fun j _ => ?_)
          by_cases e3 : i = k
          · subst e3; simp
          · by_cases e4 : i < k
            · have : i < k + 1 := by omega
              simp [e3, e4, this]
            · have : ¬ i < k + 1 := by omega
              simp [e3, e4, this]
        · rcases HO.out.each k hlt with h0 | ⟨g, hA, _, _⟩
          · exact absurd h0 hl
          · exact ⟨g, hA⟩
      clear hb2 ho2 hz2 HO HP hc2
      go_wp2
      go_roundw
      case rel => exact ⟨k + 1, by omega, by go_num, by rw [HS.out], HX.out⟩
      case measure => simp [intOf]; omega
    · have e : k = m := by omega
      subst e
      go_wp2
      go_ret
      refine ⟨rfl, ⟨hown.le, hown.row, fun i hi => ?_, hown.apart⟩, honly⟩
      have := hown.each i hi
      simpa [hi] using this

set_option maxHeartbeats 400000 in
theorem heldPayS_yes (a : Option Addr) (m cap : Nat) (L : Nat → Nat) (w : World) (k0 : Int) (h : RdY w a m L (fun i j => IntKind.u8.wrap (yoff L k0 i + j))) (hm : m ≤ 1048576) (hL : ∀ i, i < m → L i ≤ 1048576) (h0 : 0 ≤ k0) (h1 : k0 ≤ 1099511627776) :
    Calls Try.prog 64 #[.slice a m cap, .int .i64 k0] w fun e w' => e = .returned (.int .i64 (yoff L k0 m)) ∧ w' = w := by
  go_enter Try.func64, Try.ntmps64
  go_wp2
  go_loop [1, 5] (fun q i => ∃ k : Nat, k ≤ m ∧ i = .int .i64 k ∧ q = .int .i64 (yoff L k0 k)) (fun _ i => m - (intOf i).toNat)
  case atStart => exact ⟨0, Nat.zero_le _, rfl, rfl⟩
  case round =>
    obtain ⟨k, hk, rfl, rfl⟩ := hrel
    by_cases hlt : k < m
    · have hk1 := yoff_ge L k0 k
      have hk2 := yoff_le L k0 m hL k hk
      have hq1 : 0 ≤ yoff L k0 k := by omega
      have hq2 : yoff L k0 k ≤ 2305843009213693952 := by omega
      have HL := hL k hlt
      have HS : Hid (yoff L k0 (k + 1) = yoff L k0 k + L k) := rfl
      have hne : ¬ m = 0 := by omega
      rcases h with h | ⟨b, o, rfl, hc⟩
      · exact absurd h hne
      obtain ⟨ad, cp, c2, c3⟩ := hc k hlt
      dsimp only at c3
      have hlz : ¬ yoff L k0 k + (L k : Int) < 0 := by omega
      clear hc hL hk1 hk2
      generalize yoff L k0 k = q at *
      go_wp2_with fail
      refine (heldByteS_yes ad (L k) cp w q c3 (by omega) (by omega) (by omega)).mono ?_
      rintro e w2 ⟨rfl, hw⟩
      subst hw
      go_wp2
      go_round
      case rel => exact ⟨k + 1, by omega, by go_num, by rw [HS.out]⟩
      case measure => simp [intOf]; omega
    · have e : k = m := by omega
      subst e
      go_wp2
      go_ret
      exact ⟨rfl, rfl⟩
end Go.Proofs.Ytbpcafcipncloaa
