import Derived.Test.YtfbhlegkpmcfoaaDevY
import Derived.Test.YtfbhlegkpmcfoaaLeft
namespace Go.Proofs.Ytfbhlegkpmcfoaa
open Go.RowKit Go.Deep
set_option linter.unusedVariables false
set_option maxRecDepth 100000

/-- What a sync does to a device, whatever the world. -/
def SyncDoes (w0 : World) (n m : Nat) (d S : Nat → Int) (L : Nat → Nat) (F : Nat → Nat → Int) (fuel : Int) (dead : Bool) (d2 : Nat → Int) (m2 : Nat) (S2 : Nat → Int) (L2 : Nat → Nat) (F2 : Nat → Nat → Int) (fuel2 : Int) (dead2 : Bool) : Prop :=
  ∀ (W : World) (b B : Nat) (a' p' : Option Addr) (c' q' : Nat) (A : Nat → Option Addr) (C : Nat → Nat), Dev W b (.slice a' n c') (.slice p' m q') fuel dead → OwnB W B a' n d → Gath W B (.slice p' m q') m S L F A C → (n ≠ 0 → ∀ i, i < m → L i ≠ 0 → A i ≠ a') → n ≤ c' → c' ≤ 9223372036854775807 → B ≤ b →
    Calls Try.prog 81 #[.pointer (some ⟨b, 0, none⟩)] W fun e w' => Stepped e ∧ Left W b B n w' d2 m2 S2 L2 F2 fuel2 dead2

theorem syncs_zero (w0 : World) (n m : Nat) (d S : Nat → Int) (L : Nat → Nat) (F : Nat → Nat → Int) (dead : Bool) : SyncDoes w0 n m d S L F 0 dead d m S L F 0 true := by
  intro W b B a' p' c' q' A C hd ho hg hx hl hm hBb
  refine (sync_zero b _ _ dead W hd).mono ?_
  rintro e w' ⟨rfl, hd', hon⟩
  exact ⟨Or.inr rfl, a', c', p', q', A, C, hd', ho.onlyDev hd hon, hg.onlyDev hd hon, hx, hon.below (fun x e => by injection e with e; subst e; exact hBb)⟩

theorem syncs_dead (w0 : World) (n m : Nat) (d S : Nat → Int) (L : Nat → Nat) (F : Nat → Nat → Int) (fuel : Int) (hf : fuel ≠ 0) : SyncDoes w0 n m d S L F fuel true d m S L F fuel true := by
  intro W b B a' p' c' q' A C hd ho hg hx hl hm hBb
  refine (sync_dead b _ _ fuel W hd hf).mono ?_
  rintro e w' ⟨rfl, hw⟩
  subst hw
  exact ⟨Or.inr rfl, a', c', p', q', A, C, hd, ho, hg, hx, Below.refl _ _⟩

theorem syncs_live (w0 : World) (n m : Nat) (d S : Nat → Int) (L : Nat → Nat) (F : Nat → Nat → Int) (fuel : Int) (hf : fuel ≠ 0) (h1 : -1 ≤ fuel) (h2 : fuel ≤ 1000000) (hpos : n ≠ 0) (hn : n ≤ 1048576) (hmm : m ≤ 1048576) (hv : ∀ i, i < m → VP n S L i) (S2 : Nat → Int) (L2 : Nat → Nat) (F2 : Nat → Nat → Int) :
    SyncDoes w0 n m d S L F fuel false (syncTo d S F m) 0 S2 L2 F2 (fuelAfter fuel) false := by
  intro W b B a' p' c' q' A C hd ho hg hx hl hm hBb
  rcases ho with h0 | ⟨g, rfl, hgB, hr⟩
  · exact absurd h0 hpos
  refine (sync_live b m q' B n c' g p' fuel d S L F A C W hd hf h1 h2 hgB hr hg (hx hpos) hv hn hmm hl hm hBb).mono ?_
  rintro e w' ⟨rfl, hd', hr', hb'⟩
  exact ⟨Or.inl rfl, _, c', none, 0, _, _, hd', Or.inr ⟨g, rfl, hgB, hr'⟩, Gath.start _ _ _ _ _, fun _ i hi => absurd hi (Nat.not_lt_zero _), hb'⟩
end Go.Proofs.Ytfbhlegkpmcfoaa
