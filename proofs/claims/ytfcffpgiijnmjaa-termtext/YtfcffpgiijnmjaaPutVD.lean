import Derived.Test.YtfcffpgiijnmjaaImplVD
namespace Go.Proofs.Ytfcffpgiijnmjaa
open Go.RowKit Go.Deep Go.MapKept
set_option linter.unusedVariables false
set_option maxRecDepth 100000

/-- A term's own box. -/
def TermAt (w : World) (p : Nat) (i : Int) (x : ByteArray) (r : Int) : Prop := w.heap[p]? = some (.cells #[.int .i64 i, .string x, .int .i64 r] 57)
theorem TermAt.cells {w : World} {p : Nat} {i r : Int} {x : ByteArray} (h : TermAt w p i x r) : w.cell? ⟨p, 0, none⟩ = some (.int .i64 i) ∧ w.cell? ⟨p, 1, none⟩ = some (.string x) ∧ w.cell? ⟨p, 2, none⟩ = some (.int .i64 r) := by
  unfold TermAt at h
  exact ⟨by simp [World.cell?, h], by simp [World.cell?, h], by simp [World.cell?, h]⟩
theorem TermAt.lt {w : World} {p : Nat} {i r : Int} {x : ByteArray} (h : TermAt w p i x r) : p < w.heap.size := (Array.getElem?_eq_some_iff.1 h).1

/-- What 'put' leaves. -/
def PutRet (w : World) (B1 B2 k p : Nat) (i : Int) (x : ByteArray) (I : Nat → Int) (X : Nat → ByteArray) (V : Nat → Nat) (e : Ending) (w' : World) : Prop :=
  (∃ v, e = .returned v) ∧ (∃ w2, w.drew.grownBy w2 (some B1) ∧ w2.drew.grownBy w' (some B2)) ∧
    MapAt w' B1 (k + 1) (fun j => .string (if j = k then x else X j)) (fun j => .pointer (some ⟨if j = k then p else V j, 0, none⟩)) ∧ MapAt w' B2 (k + 1) (fun j => .int .i64 (if j = k then i else I j)) (fun j => .pointer (some ⟨if j = k then p else V j, 0, none⟩))

theorem MapAt.congr {w : World} {B k : Nat} {K V K' V' : Nat → Value} (h : MapAt w B k K V) (hK : ∀ i, i < k → K i = K' i) (hV : ∀ i, i < k → V i = V' i) : MapAt w B k K' V' := by
  obtain ⟨es, clock, h1, hst, h2, h3⟩ := h
  refine ⟨es, clock, h1, hst, h2, fun i hi => ?_⟩
  obtain ⟨e, a, b, c⟩ := h3 i hi
  exact ⟨e, a, b.trans (hK i hi), c.trans (hV i hi)⟩

set_option maxHeartbeats 2000000 in
theorem put_any (tb B1 B2 k p : Nat) (next i r : Int) (x : ByteArray) (I : Nat → Int) (X : Nat → ByteArray) (V : Nat → Nat) (w : World) (ht : TabAt w tb next B1 B2) (hp : TermAt w p i x r) (hB : B1 ≠ B2)
    (h1 : MapAt w B1 k (fun j => .string (X j)) (fun j => .pointer (some ⟨V j, 0, none⟩))) (h2 : MapAt w B2 k (fun j => .int .i64 (I j)) (fun j => .pointer (some ⟨V j, 0, none⟩))) (n1 : ∀ j, j < k → X j ≠ x) (n2 : ∀ j, j < k → I j ≠ i) :
    Calls Try.prog 57 #[.pointer (some ⟨tb, 0, none⟩), .pointer (some ⟨p, 0, none⟩)] w (PutRet w B1 B2 k p i x I X V) := by
  obtain ⟨t0, t1, t2⟩ := ht.cells
  obtain ⟨p0, p1, p2⟩ := hp.cells
  have HC : Hid (∀ (wx w2 : World) (B : Nat), wx.grownBy w2 (some B) → B ≠ tb → B ≠ p → TabAt wx tb next B1 B2 → TermAt wx p i x r → (w2.cell? ⟨tb, 1, none⟩ = some (.map (some B1)) ∧ w2.cell? ⟨tb, 2, none⟩ = some (.map (some B2)) ∧ w2.cell? ⟨p, 0, none⟩ = some (.int .i64 i) ∧ w2.cell? ⟨p, 1, none⟩ = some (.string x)) ∧ TabAt w2 tb next B1 B2 ∧ TermAt w2 p i x r) := by
    intro wx w2 B hg hb1 hb2 ha hb
    have q1 : TabAt w2 tb next B1 B2 := (hg.block tb ha.lt (fun e => hb1 (by injection e with e; exact e.symm))).trans ha
    have q2 : TermAt w2 p i x r := (hg.block p hb.lt (fun e => hb2 (by injection e with e; exact e.symm))).trans hb
    exact ⟨⟨q1.cells.2.1, q1.cells.2.2, q2.cells.1, q2.cells.2.1⟩, q1, q2⟩
  have b1t : B1 ≠ tb := (h1.ne_cells ht).symm
  have b1p : B1 ≠ p := (h1.ne_cells hp).symm
  have b2t : B2 ≠ tb := (h2.ne_cells ht).symm
  have b2p : B2 ≠ p := (h2.ne_cells hp).symm
  have h1' : MapAt w.drew B1 k (fun j => .string (X j)) (fun j => .pointer (some ⟨V j, 0, none⟩)) := h1
  obtain ⟨w2, hrun2, hm2, hg2⟩ := h1'.store_new (t := 86) (kt := 9) (et := 92) (d := .string) (key := .string x) (by kernel_rfl) (by kernel_rfl) trivial (fun _ _ => trivial) (fun j hj e => n1 j hj (by injection e)) (.pointer (some ⟨p, 0, none⟩))
  obtain ⟨⟨y1, y2, y3, y4⟩, yT, yP⟩ := HC.out _ w2 B1 hg2 b1t b1p ht hp
  have h2' : MapAt w2.drew B2 k (fun j => .int .i64 (I j)) (fun j => .pointer (some ⟨V j, 0, none⟩)) := h2.kept (hg2.block B2 h2.lt (fun e => hB (by injection e with e; exact e.symm)))
  obtain ⟨w3, hrun3, hm3, hg3⟩ := h2'.store_new (t := 87) (kt := 2) (et := 92) (d := .int .i64) (key := .int .i64 i) (by kernel_rfl) (by kernel_rfl) rfl (fun _ _ => rfl) (fun j hj e => n2 j hj (by injection e)) (.pointer (some ⟨p, 0, none⟩))
  obtain ⟨⟨z1, z2, z3, z4⟩, zT, zP⟩ := HC.out _ w3 B2 hg3 b2t b2p yT yP
  have HX : Hid ((∃ w2, w.drew.grownBy w2 (some B1) ∧ w2.drew.grownBy w3 (some B2)) ∧
    MapAt w3 B1 (k + 1) (fun j => .string (if j = k then x else X j)) (fun j => .pointer (some ⟨if j = k then p else V j, 0, none⟩)) ∧ MapAt w3 B2 (k + 1) (fun j => .int .i64 (if j = k then i else I j)) (fun j => .pointer (some ⟨if j = k then p else V j, 0, none⟩))) := by
    refine ⟨⟨w2, hg2, hg3⟩, (hm2.kept (hg3.block B1 hm2.lt (fun e => hB (by injection e)))).congr (fun j _ => ?_) (fun j _ => ?_), hm3.congr (fun j _ => ?_) (fun j _ => ?_)⟩
    all_goals (split <;> simp_all)
  clear h1 h2 ht hp n1 n2 t0 p2 HC hm2 hg2 yT yP h1' h2' hm3 hg3 zT zP b1t b1p b2t b2p
  go_enter Try.func57, Try.ntmps57
  go_wp2
  go_region_held3 (fun w' => w'.cell? ⟨tb, 1, none⟩ = some (.map (some B1)) ∧ w'.cell? ⟨tb, 2, none⟩ = some (.map (some B2)) ∧ w'.cell? ⟨p, 0, none⟩ = some (.int .i64 i) ∧ w'.cell? ⟨p, 1, none⟩ = some (.string x)) (go_keep) (fail)
  go_wp2
  go_region_held3 (fun w' => w'.cell? ⟨tb, 1, none⟩ = some (.map (some B1)) ∧ w'.cell? ⟨tb, 2, none⟩ = some (.map (some B2)) ∧ w'.cell? ⟨p, 0, none⟩ = some (.int .i64 i) ∧ w'.cell? ⟨p, 1, none⟩ = some (.string x)) (go_keep) (fail)
  go_wp2
  refine bodyPost_end (v := .tuple #[]) (by simp [results, Try.results57, go_sem]) rfl ⟨⟨_, rfl⟩, HX.out⟩
end Go.Proofs.Ytfcffpgiijnmjaa
