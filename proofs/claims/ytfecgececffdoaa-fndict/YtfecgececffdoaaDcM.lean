import Derived.Test.YtfecgececffdoaaTmAns
namespace Go.Proofs.Ytfecgececffdoaa
open Go.RowKit Go.Deep
set_option linter.unusedVariables false
set_option maxRecDepth 100000

section
variable {next : Int} {n : Nat} {I : Nat → Int} {X : Nat → ByteArray} {R : Nat → Int}

theorem VDt.refs (h : VDt next n I X R) (i : Nat) {r : Int} (h1 : 1 ≤ r) (h2 : r ≤ 2000000000) : VDt next n I X (upd R i r) := by
  refine ⟨h.1, h.2.1, fun j hj => ?_⟩
  obtain ⟨⟨a, b, c, d⟩, e⟩ := h.2.2 j hj
  refine ⟨⟨a, b, ?_, d⟩, e⟩
  by_cases q : j = i
  · subst q; rw [upd_same]; exact ⟨h1, h2⟩
  · rw [upd_ne q]; exact c

theorem VDt.ins {x : ByteArray} {p : Nat} (h : VDt next n I X R) (hp : PosOf n X x p) (hx : txB x = true) (hn : n < 1200) (hm : next < 2000000000) : VDt (next + 1) (n + 1) (insAt I p next) (insAt X p x) (insAt R p 1) := by
  have hb := (by have := h.1; unfold nuB at this; simpa using this : 1 ≤ next ∧ next ≤ 2000000000)
  refine ⟨by unfold nuB; simp; omega, by omega, fun j hj => ?_⟩
  have hxs : 1 ≤ x.size ∧ x.size ≤ 30 := by unfold txB at hx; simp at hx; omega
  have asc := ins_asc h hp
  have hIlt : ∀ m, m < n → I m < next := fun m hm => (h.2.2 m hm).1.2.1.2
  have fr : ∀ i j, i < n → j < n → I i = I j → i = j := fun i j hi hj e => h.id_inj hi hj e
  refine ⟨⟨?_, ?_, ?_, fun h0 => asc (j - 1) j (by omega) hj⟩, fun i hij => ?_⟩
  · rcases Nat.lt_trichotomy j p with q | q | q
    · rw [insAt_lt q]; exact (h.2.2 j (by have := hp.1; omega)).1.1
    · subst q; rw [insAt_at]; exact hxs
    · rw [insAt_gt q]; exact (h.2.2 (j - 1) (by omega)).1.1
  · rcases Nat.lt_trichotomy j p with q | q | q
    · rw [insAt_lt q]; have := (h.2.2 j (by have := hp.1; omega)).1.2.1; omega
    · subst q; rw [insAt_at]; omega
    · rw [insAt_gt q]; have := (h.2.2 (j - 1) (by omega)).1.2.1; omega
  · rcases Nat.lt_trichotomy j p with q | q | q
    · rw [insAt_lt q]; exact (h.2.2 j (by have := hp.1; omega)).1.2.2.1
    · subst q; rw [insAt_at]; omega
    · rw [insAt_gt q]; exact (h.2.2 (j - 1) (by omega)).1.2.2.1
  · have hpn := hp.1
    rcases Nat.lt_trichotomy j p with q | q | q
    · rw [insAt_lt q, insAt_lt (by omega)]
      exact fun e => by have := fr i j (by omega) (by omega) e; omega
    · subst q
      rw [insAt_at, insAt_lt hij]
      have := hIlt i (by omega)
      omega
    · rw [insAt_gt q]
      rcases Nat.lt_trichotomy i p with q2 | q2 | q2
      · rw [insAt_lt q2]
        exact fun e => by have := fr i (j - 1) (by omega) (by omega) e; omega
      · subst q2
        rw [insAt_at]
        have := hIlt (j - 1) (by omega)
        omega
      · rw [insAt_gt q2]
        exact fun e => by have := fr (i - 1) (j - 1) (by omega) (by omega) e; omega

theorem VDt.cut {i : Nat} (h : VDt next n I X R) (hi : i < n) : VDt next (n - 1) (cutAt I i) (cutAt X i) (cutAt R i) := by
  have key : ∀ j, j < n - 1 → ∃ m, m < n ∧ m ≠ i ∧ (j < i → m = j) ∧ (¬ j < i → m = j + 1) ∧ cutAt I i j = I m ∧ cutAt X i j = X m ∧ cutAt R i j = R m := fun j hj => by
    by_cases q : j < i
    · exact ⟨j, by omega, by omega, fun _ => rfl, fun q' => absurd q q', cutAt_lt q, cutAt_lt q, cutAt_lt q⟩
    · exact ⟨j + 1, by omega, by omega, fun q' => absurd q' q, fun _ => rfl, cutAt_ge q, cutAt_ge q, cutAt_ge q⟩
  refine ⟨h.1, by have := h.2.1; omega, fun j hj => ?_⟩
  obtain ⟨m, hm, hmi, e1, e2, e3, e4, e5⟩ := key j hj
  refine ⟨⟨by rw [e4]; exact (h.2.2 m hm).1.1, by rw [e3]; exact (h.2.2 m hm).1.2.1, by rw [e5]; exact (h.2.2 m hm).1.2.2.1, fun h0 => ?_⟩, fun i' hi' => ?_⟩
  · obtain ⟨m', hm', hmi', e1', e2', _, e4', _⟩ := key (j - 1) (by omega)
    rw [e4, e4']
    refine h.asc m' m ?_ hm
    by_cases q : j < i
    · rw [e1 q, e1' (by omega)]; omega
    · rw [e2 q]
      by_cases q' : j - 1 < i
      · rw [e1' q']; omega
      · rw [e2' q']; omega
  · obtain ⟨m', hm', hmi', e1', e2', e3', _, _⟩ := key i' (by omega)
    rw [e3, e3']
    intro e
    have := h.id_inj hm' hm e
    by_cases q : j < i
    · have := e1 q; have := e1' (by omega); omega
    · have := e2 q
      by_cases q' : i' < i
      · have := e1' q'; omega
      · have := e2' q'; omega
end

/-- The law's state after i steps. -/
structure DcI (i : Nat) (given next : Int) (n : Nat) (I : Nat → Int) (X : Nat → ByteArray) (R : Nat → Int) : Prop where
  v : VDt next n I X R
  nx : next ≤ 1 + (i : Int)
  le : n ≤ i
  r : ∀ j, j < n → R j ≤ (i : Int)
  g0 : 0 ≤ given
  g : given < next

section
variable {i : Nat} {given next : Int} {n : Nat} {I : Nat → Int} {X : Nat → ByteArray} {R : Nat → Int} {x : ByteArray}

/-- What a release does. -/
theorem DcI.release (h : DcI i given next n I X R) (hi : i ≤ 40) {id : Int} (hid : IdOf n I X R next x id) {ok : Bool} {id' nx : Int} {n' : Nat} {I' : Nat → Int} {X' : Nat → ByteArray} {R' : Nat → Int} (ha : ReAns next n I X R id ok id' nx n' I' X' R') :
    DcI (i + 1) given nx n' I' X' R' ∧ ok = decide (0 < id) := by
  have hq := hid.1 h.v
  rcases ha with ⟨h1, rfl, rfl, rfl, rfl, rfl, rfl, rfl⟩ | ⟨h1, m, hm, hx, hr, rfl, rfl, rfl, rfl, rfl, rfl, rfl⟩ | ⟨h1, m, hm, hx, hr, rfl, rfl, rfl, rfl, rfl, rfl, rfl⟩
  · refine ⟨⟨h.v, by have := h.nx; omega, by have := h.le; omega, fun j hj => by have := h.r j hj; omega, h.g0, h.g⟩, ?_⟩
    rcases hq with ⟨m, hm, _, rfl⟩ | ⟨_, rfl⟩
    · rcases h1 with h1 | h1
      · exact absurd h.v h1
      · exact absurd rfl (h1 m hm)
    · rfl
  · refine ⟨⟨h.v.refs m ?_ ?_, by have := h.nx; omega, by have := h.le; omega, fun j hj => ?_, h.g0, h.g⟩, ?_⟩
    · have := (h.v.2.2 m hm).1.2.2.1; omega
    · have := (h.v.2.2 m hm).1.2.2.1; omega
    · by_cases q : j = m
      · subst q; rw [upd_same]; have := h.r j hj; omega
      · rw [upd_ne q]; have := h.r j hj; omega
    · have := (h.v.2.2 m hm).1.2.1.1
      rw [hx] at this
      exact (decide_eq_true (by omega)).symm
  · refine ⟨⟨h.v.cut hm, by have := h.nx; omega, by have := h.le; omega, fun j hj => ?_, h.g0, h.g⟩, ?_⟩
    · unfold cutAt
      split
      · have := h.r j (by omega); omega
      · have := h.r (j + 1) (by omega); omega
    · have := (h.v.2.2 m hm).1.2.1.1
      rw [hx] at this
      exact (decide_eq_true (by omega)).symm

/-- What an intern does. -/
theorem DcI.intern (h : DcI i given next n I X R) (hi : i ≤ 40) (hx : txB x = true) {old : Int} (hid : IdOf n I X R next x old) {ok : Bool} {id nx : Int} {n' : Nat} {I' : Nat → Int} {X' : Nat → ByteArray} {R' : Nat → Int} (ha : InAns next n I X R x ok id nx n' I' X' R') :
    ok = true ∧ (0 < old → id = old) ∧ (old = 0 → given < id) ∧ (old = 0 ∨ 0 < old) ∧ (∀ t, TextOf n' I' X' R' nx id t → t = x) ∧ DcI (i + 1) (if given < id then id else given) nx n' I' X' R' := by
  have hq := hid.1 h.v
  rcases ha with ⟨h1, rfl, rfl, rfl, rfl, rfl, rfl, rfl⟩ | ⟨h1, m, hm, hmx, hr, rfl, rfl, rfl, rfl, rfl, rfl, rfl⟩ | ⟨h1, h2, h3, p, hp, rfl, rfl, rfl, rfl, rfl, rfl, rfl⟩
  · rcases h1 with h1 | ⟨m, hm, _, hr⟩ | ⟨_, h1⟩
    · exact absurd h.v h1
    · have := h.r m hm; omega
    · have a1 := h.nx
      have a2 := h.le
      unfold roomB at h1
      rw [hx] at h1
      simp at h1
      omega
  · have hI := (h.v.2.2 m hm).1.2.1
    have hold : old = I' m := by
      rcases hq with ⟨m', hm', hx', rfl⟩ | ⟨hno, _⟩
      · rw [h.v.text_inj hm' hm (hx'.trans hmx.symm)]
      · exact absurd hmx (hno m hm)
    have hv' : VDt nx n' I' X' (upd R m (R m + 1)) := by
      refine h.v.refs m ?_ ?_
      · have := (h.v.2.2 m hm).1.2.2.1; omega
      · have := h.r m hm; omega
    refine ⟨rfl, fun _ => hold.symm, fun q => by omega, by omega, fun t ht => ?_, ⟨hv', by have := h.nx; omega, by have := h.le; omega, fun j hj => ?_, ?_, ?_⟩⟩
    · rcases ht.1 hv' with ⟨m', hm', e, rfl⟩ | ⟨hno, _⟩
      · rw [h.v.id_inj hm' hm e]; exact hmx
      · exact absurd rfl (hno m hm)
    · by_cases q : j = m
      · subst q; rw [upd_same]; have := h.r j hj; omega
      · rw [upd_ne q]; have := h.r j hj; omega
    · have := h.g0; split <;> omega
    · have := h.g; split <;> omega
  · have hold : old = 0 := by
      rcases hq with ⟨m', hm', hx', rfl⟩ | ⟨_, q⟩
      · exact absurd hx' (h2 m' hm')
      · exact q
    have a1 := h.nx
    have a2 := h.le
    have hv' : VDt (id + 1) (n + 1) (insAt I p id) (insAt X p x) (insAt R p 1) := h.v.ins hp hx (by omega) (by omega)
    have hpn := hp.1
    refine ⟨rfl, fun q => by omega, fun _ => h.g, by omega, fun t ht => ?_, ⟨hv', by omega, by omega, fun j hj => ?_, ?_, ?_⟩⟩
    · rcases ht.1 hv' with ⟨m', hm', e, rfl⟩ | ⟨hno, _⟩
      · have e2 : insAt I p id m' = insAt I p id p := by rw [e, insAt_at]
        rw [hv'.id_inj hm' (by omega) e2, insAt_at]
      · exact absurd (insAt_at I p id) (hno p (by omega))
    · rcases Nat.lt_trichotomy j p with q | q | q
      · rw [insAt_lt q]; have := h.r j (by omega); omega
      · subst q; rw [insAt_at]; omega
      · rw [insAt_gt q]; have := h.r (j - 1) (by omega); omega
    · have := h.g0; have := h.g; split <;> omega
    · have := h.g; split <;> omega
end
end Go.Proofs.Ytfecgececffdoaa
