import Derived.Test.YtakemeccigpbaaaTiRQ
namespace Go.Proofs.Ytakemeccigpbaaa
open Go.RowKit Go.Deep
set_option linter.unusedVariables false
set_option maxRecDepth 100000

/-- Keys that ascend. -/
def Asc (L : List ByteArray) : Prop := L.Pairwise (fun a b => Op.bytesLess a.toList b.toList = true)
/-- How many keys are less than a key. -/
def cntL (key : ByteArray) (L : List ByteArray) : Nat := (L.filter (fun k => Op.bytesLess k.toList key.toList)).length

theorem asc_of_ascK {L : List ByteArray} (h : AscK L L.length) : Asc L := by
  unfold Asc
  rw [List.pairwise_iff_getElem]
  intro i j hi hj hij
  have q := asc_less (X := gt L) (k := L.length) (fun m hm h0 => (h m hm).2 h0) j hj i hij
  unfold gt at q
  rw [List.getD_eq_getElem?_getD, List.getD_eq_getElem?_getD, List.getElem?_eq_getElem hi, List.getElem?_eq_getElem hj] at q
  exact q

theorem gt_mem {L : List ByteArray} {i : Nat} (h : i < L.length) : gt L i ∈ L := by
  unfold gt
  rw [List.getD_eq_getElem?_getD, List.getElem?_eq_getElem h]
  exact List.getElem_mem h

theorem asc_lt {L : List ByteArray} (h : Asc L) {i j : Nat} (hij : i < j) (hj : j < L.length) : Op.bytesLess (gt L i).toList (gt L j).toList = true := by
  have q := List.pairwise_iff_getElem.1 h i j (by omega) hj hij
  unfold gt
  rw [List.getD_eq_getElem?_getD, List.getD_eq_getElem?_getD, List.getElem?_eq_getElem (by omega), List.getElem?_eq_getElem hj]
  exact q

theorem less_asym {a b : List UInt8} (h : Op.bytesLess a b = true) : Op.bytesLess b a = false := by
  cases e : Op.bytesLess b a with
  | false => rfl
  | true =>
    have := less_trans _ _ _ h e
    rw [less_irrefl] at this
    cases this

theorem asc_kid {d : Nat} {l : List (Ro d)} (ha : Asc (l.flatMap (keysR d))) (i : Nat) (hi : i < l.length) : Asc (keysR d l[i]) := by
  have e : l = l.take i ++ (l[i] :: l.drop (i + 1)) := by
    conv => lhs; rw [← List.take_append_drop (i + 1) l, ← List.take_append_getElem hi]
    simp
  rw [e, List.flatMap_append, List.flatMap_cons] at ha
  unfold Asc at ha ⊢
  rw [List.pairwise_append] at ha
  have := ha.2.1
  rw [List.pairwise_append] at this
  exact this.1
end Go.Proofs.Ytakemeccigpbaaa
