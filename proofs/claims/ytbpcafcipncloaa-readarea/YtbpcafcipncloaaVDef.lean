import Derived.Test.YtbpcafcipncloaaOwnP
namespace Go.Proofs.Ytbpcafcipncloaa
open Go.RowKit Go.Deep

def VH (n m : Nat) (fuel : Int) : Prop := n % 64 = 0 ∧ 16 ≤ n / 64 ∧ n / 64 ≤ 1024 ∧ m ≤ 2000 ∧ -1 ≤ fuel ∧ fuel ≤ 1000000
def VP (n : Nat) (S : Nat → Int) (L : Nat → Nat) (i : Nat) : Prop := 0 ≤ S i ∧ S i < (n : Int) / 64 ∧ L i = 64
/-- A valid disk, as chapter 1 has it. -/
def VD (n m : Nat) (S : Nat → Int) (L : Nat → Nat) (fuel : Int) : Prop := VH n m fuel ∧ ∀ i, i < m → VP n S L i

theorem not_VD_of_VH {n m : Nat} {S : Nat → Int} {L : Nat → Nat} {fuel : Int} (h : ¬ VH n m fuel) : ¬ VD n m S L fuel := fun k => h k.1
theorem not_VD_of_VP {n m : Nat} {S : Nat → Int} {L : Nat → Nat} {fuel : Int} {i : Nat} (hi : i < m) (h : ¬ VP n S L i) : ¬ VD n m S L fuel := fun k => h (k.2 i hi)
/-- The answer says whether p. -/
def AnsB (e : Ending) (p : Prop) : Prop := ∃ b : Bool, e = .returned (.bool b) ∧ (b = true ↔ p)
theorem AnsB.yes {p : Prop} (h : p) : AnsB (.returned (.bool true)) p := ⟨true, rfl, fun _ => h, fun _ => rfl⟩
theorem AnsB.no {p : Prop} (h : ¬ p) : AnsB (.returned (.bool false)) p := ⟨false, rfl, (fun e => by cases e), fun k => absurd k h⟩
theorem AnsB.of {b : Bool} {p : Prop} (h : b = true ↔ p) : AnsB (.returned (.bool b)) p := ⟨b, rfl, h⟩

end Go.Proofs.Ytbpcafcipncloaa
