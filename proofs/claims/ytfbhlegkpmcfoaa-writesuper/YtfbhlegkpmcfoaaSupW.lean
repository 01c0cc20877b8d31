import Derived.Test.YtfbhlegkpmcfoaaSyncD
import Derived.Test.YtfbhlegkpmcfoaaSupD
namespace Go.Proofs.Ytfbhlegkpmcfoaa
open Go.RowKit Go.Deep
set_option linter.unusedVariables false
set_option maxRecDepth 100000

/-- What writing a super does to a device, whatever the world. -/
def SuperDoes (n m : Nat) (d S : Nat → Int) (L : Nat → Nat) (F : Nat → Nat → Int) (fuel : Int) (dead : Bool) (gen ar fi : Int) (d2 : Nat → Int) (m2 : Nat) (S2 : Nat → Int) (L2 : Nat → Nat) (F2 : Nat → Nat → Int) (fuel2 : Int) (dead2 : Bool) : Prop :=
  ∀ (W : World) (b B : Nat) (a' p' : Option Addr) (c' q' : Nat) (A : Nat → Option Addr) (C : Nat → Nat), Dev W b (.slice a' n c') (.slice p' m q') fuel dead → OwnB W B a' n d → Gath W B (.slice p' m q') m S L F A C → (n ≠ 0 → ∀ i, i < m → L i ≠ 0 → A i ≠ a') → n ≤ c' → c' ≤ 9223372036854775807 → B ≤ b →
    Calls Try.prog 45 #[.pointer (some ⟨b, 0, none⟩), .agg #[.int .i64 gen, .int .i64 ar, .int .i64 fi]] W fun e w' => Stepped e ∧ Left W b B n w' d2 m2 S2 L2 F2 fuel2 dead2

theorem Left.before {W W1 : World} {b B n : Nat} {w' : World} {d2 : Nat → Int} {m2 : Nat} {S2 : Nat → Int} {L2 : Nat → Nat} {F2 : Nat → Nat → Int} {fuel2 : Int} {dead2 : Bool} (h : Left W1 b B n w' d2 m2 S2 L2 F2 fuel2 dead2) (hb : Below B W W1) : Left W b B n w' d2 m2 S2 L2 F2 fuel2 dead2 := by
  obtain ⟨a', c', p', q', A', C', h1, h2, h3, h4, h5⟩ := h
  exact ⟨a', c', p', q', A', C', h1, h2, h3, h4, hb.trans h5⟩

theorem super_full (w0 : World) (n : Nat) (d S : Nat → Int) (L : Nat → Nat) (F : Nat → Nat → Int) (fuel : Int) (dead : Bool) (gen ar fi : Int) (d2 : Nat → Int) (m2 : Nat) (S2 : Nat → Int) (L2 : Nat → Nat) (F2 : Nat → Nat → Int) (fuel2 : Int) (dead2 : Bool) (g0 : 0 ≤ gen) (g1 : gen ≤ 2000000000)
    (hs : SyncDoes w0 n 2000 d S L F fuel dead d2 m2 S2 L2 F2 fuel2 dead2) : SuperDoes n 2000 d S L F fuel dead gen ar fi d2 m2 S2 L2 F2 fuel2 dead2 := by
  intro W b B a' p' c' q' A C hd ho hg hx hl hm hBb
  have hbW : b < W.heap.size := hd.cells.2.2.2.2.2
  refine writeSuper_steps b gen ar fi W _ g0 g1 (fun w1 g hb1 hgW hsec => ?_)
  refine (write_full b q' p' _ fuel dead (gen % 2) _ 64 w1 (hd.below hb1)).mono ?_
  rintro e w2 ⟨rfl, hw⟩
  subst hw
  refine Or.inr ⟨rfl, (hs w2 b B a' p' c' q' A C (hd.below hb1) (ho.below hb1) (hg.below hb1) hx hl hm hBb).mono ?_⟩
  rintro e w3 ⟨he, hL⟩
  exact ⟨he, hL.before (hb1.mono (by omega))⟩

theorem super_zero (n m : Nat) (d S : Nat → Int) (L : Nat → Nat) (F : Nat → Nat → Int) (dead : Bool) (gen ar fi : Int) (g0 : 0 ≤ gen) (g1 : gen ≤ 2000000000) (hm2 : m < 2000) : SuperDoes n m d S L F 0 dead gen ar fi d m S L F 0 true := by
  intro W b B a' p' c' q' A C hd ho hg hx hl hm hBb
  have hbW : b < W.heap.size := hd.cells.2.2.2.2.2
  refine writeSuper_steps b gen ar fi W _ g0 g1 (fun w1 g hb1 hgW hsec => ?_)
  refine (write_zero b m q' p' _ dead (gen % 2) _ 64 w1 (hd.below hb1) hm2).mono ?_
  rintro e w2 ⟨rfl, hd', hon⟩
  exact Or.inl ⟨rfl, a', c', p', q', A, C, hd', (ho.below hb1).onlyDev (hd.below hb1) hon, (hg.below hb1).onlyDev (hd.below hb1) hon, hx, (hb1.mono (by omega)).trans (hon.below (fun x e => by injection e with e; subst e; exact hBb))⟩

theorem super_dead (n m : Nat) (d S : Nat → Int) (L : Nat → Nat) (F : Nat → Nat → Int) (fuel : Int) (gen ar fi : Int) (g0 : 0 ≤ gen) (g1 : gen ≤ 2000000000) (hf : fuel ≠ 0) (hm2 : m < 2000) : SuperDoes n m d S L F fuel true gen ar fi d m S L F fuel true := by
  intro W b B a' p' c' q' A C hd ho hg hx hl hm hBb
  have hbW : b < W.heap.size := hd.cells.2.2.2.2.2
  refine writeSuper_steps b gen ar fi W _ g0 g1 (fun w1 g hb1 hgW hsec => ?_)
  refine (write_dead b m q' p' _ fuel (gen % 2) _ 64 w1 (hd.below hb1) hf hm2).mono ?_
  rintro e w2 ⟨rfl, hw⟩
  subst hw
  exact Or.inl ⟨rfl, a', c', p', q', A, C, hd.below hb1, ho.below hb1, hg.below hb1, hx, hb1.mono (by omega)⟩

theorem super_live (w0 : World) (n m : Nat) (d S : Nat → Int) (L : Nat → Nat) (F : Nat → Nat → Int) (fuel : Int) (gen ar fi : Int) (d2 : Nat → Int) (m2 : Nat) (S2 : Nat → Int) (L2 : Nat → Nat) (F2 : Nat → Nat → Int) (fuel2 : Int) (dead2 : Bool) (g0 : 0 ≤ gen) (g1 : gen ≤ 2000000000)
    (hf : fuel ≠ 0) (h1 : -1 ≤ fuel) (h2 : fuel ≤ 1000000) (hm2 : m < 2000)
    (hs : SyncDoes w0 n (m + 1) d (fun i => if i = m then gen % 2 else S i) (fun i => if i = m then 64 else L i) (fun i => if i = m then superF gen ar fi else F i) (fuelAfter fuel) false d2 m2 S2 L2 F2 fuel2 dead2) :
    SuperDoes n m d S L F fuel false gen ar fi d2 m2 S2 L2 F2 fuel2 dead2 := by
  intro W b B a' p' c' q' A C hd ho hg hx hl hm hBb
  have hbW : b < W.heap.size := hd.cells.2.2.2.2.2
  refine writeSuper_steps b gen ar fi W _ g0 g1 (fun w1 g hb1 hgW hsec => ?_)
  have ho1 := ho.below hb1
  refine (write_live0 b m q' B p' _ fuel (gen % 2) (some ⟨g, 0, none⟩) 64 S L F A C (superF gen ar fi) w1 (hd.below hb1) hf h1 h2 hm2 (hg.below hb1) hBb (fun w2 hon => ?_)).mono ?_
  · have hs2 : Sec w2.drew g (superF gen ar fi) := hsec.of_block (hon.block g (fun x e => by injection e with e; subst e; show b ≠ g; omega))
    exact (hs2.rd 0 64 (by omega)).congr (fun i hi => by simp)
  rintro e w' ⟨rfl, v', A', C', hd', hg', hA, hAm, hb', hkb⟩
  obtain ⟨p2, q2, hv⟩ := owns_shape hg'.row
  subst hv
  have ho' : OwnB w' B a' n d := by
    rcases ho1 with h0 | ⟨g, rfl, hgB, hr⟩
    · exact Or.inl h0
    · exact Or.inr ⟨g, rfl, hgB, hkb _ _ _ hr⟩
  refine Or.inr ⟨rfl, (hs w' b B a' p2 c' q2 A' C' hd' ho' hg' (fun hn i hi hl => ?_) hl hm hBb).mono ?_⟩
  · by_cases e : i = m
    · subst e
      intro ea
      rcases ho1 with h0 | ⟨g, rfl, hgB, hr⟩
      · exact hn h0
      · have q1 := hAm _ ea
        have q2 := hr.lt
        simp at q1
        omega
    · have hi' : i < m := by omega
      rw [hA i hi']
      exact hx hn i hi' (by simpa [e] using hl)
  · rintro e w3 ⟨he, hL⟩
    exact ⟨he, hL.before ((hb1.mono (by omega)).trans hb')⟩
end Go.Proofs.Ytfbhlegkpmcfoaa
