import Derived.Test.YtakemeccigpbaaaTgM
namespace Go.Proofs.Ytakemeccigpbaaa
open Go.RowKit Go.Deep
set_option linter.unusedVariables false
set_option maxRecDepth 100000

/-- Of what was there, only blocks from B on and below T have turned. -/
def WiT (B T : Nat) (w w' : World) : Prop := w'.os = w.os ∧ w'.tape = w.tape ∧ w'.output = w.output ∧ w.heap.size ≤ w'.heap.size ∧ ∀ k, k < w.heap.size → (k < B ∨ T ≤ k) → w'.heap[k]? = w.heap[k]?

theorem WiT.refl (B T : Nat) (w : World) : WiT B T w w := ⟨rfl, rfl, rfl, Nat.le_refl _, fun _ _ _ => rfl⟩
theorem WiT.trans {B T : Nat} {a b c : World} (h : WiT B T a b) (k : WiT B T b c) : WiT B T a c :=
  ⟨k.1.trans h.1, k.2.1.trans h.2.1, k.2.2.1.trans h.2.2.1, Nat.le_trans h.2.2.2.1 k.2.2.2.1, fun i hi ho => (k.2.2.2.2 i (Nat.lt_of_lt_of_le hi h.2.2.2.1) ho).trans (h.2.2.2.2 i hi ho)⟩
theorem WiT.grown {B T : Nat} {w w' : World} {r : Option Nat} (h : w.grownBy w' r) (hr : ∀ b, r = some b → B ≤ b ∧ b < T) : WiT B T w w' :=
  ⟨h.os, h.tape, h.output, h.size, fun k hk ho => h.block k hk (fun e => by have := hr k e.symm; omega)⟩
theorem WiT.below {B T : Nat} {w w' : World} (h : WiT B T w w') (hB : B ≤ w.heap.size) : Below B w w' := ⟨h.1, h.2.1, h.2.2.1, h.2.2.2.1, fun k hk => h.2.2.2.2 k (by omega) (.inl hk)⟩

/-- A row of nodes of the call's own, as many keys and children at each as N tells, whatever they are. -/
def MTn (w : World) (B g n : Nat) (N : Nat → Tn) (KA DA : Nat → Option Addr) (KC DC : Nat → Nat) : Prop :=
  ∃ N', OwnTn w B g n N' KA DA KC DC ∧ ∀ i, (N' i).kn = (N i).kn ∧ (N' i).dn = (N i).dn

section
variable {w w' : World} {B g n : Nat} {N : Nat → Tn} {KA DA : Nat → Option Addr} {KC DC : Nat → Nat}

theorem MTn.cells (h : MTn w B g n N KA DA KC DC) {k : Nat} (hk : k < n) : (∃ b, w.cell? ⟨g, k * 4, none⟩ = some (.bool b)) ∧ w.cell? ⟨g, k * 4 + 1, none⟩ = some (.slice (KA k) (N k).kn (KC k)) ∧ w.cell? ⟨g, k * 4 + 2, none⟩ = some (.slice (DA k) (N k).dn (DC k)) ∧ (∃ x, w.cell? ⟨g, k * 4 + 3, none⟩ = some (.int .i64 x)) ∧ w.frozen? ⟨g, k * 4, none⟩ = false ∧ w.frozen? ⟨g, k * 4 + 3, none⟩ = false ∧ g < w.heap.size := by
  obtain ⟨N', h, e⟩ := h
  refine ⟨⟨(N' k).lf, ?_⟩, ?_, ?_, ⟨(N' k).ct, ?_⟩, h.row.frozen _, h.row.frozen _, h.row.lt⟩
  · rw [h.row.cell (i := k * 4) (by omega), tnCell_0]
  · rw [h.row.cell (i := k * 4 + 1) (by omega), tnCell_1, (e k).1]
  · rw [h.row.cell (i := k * 4 + 2) (by omega), tnCell_2, (e k).2]
  · rw [h.row.cell (i := k * 4 + 3) (by omega), tnCell_3]

theorem MTn.keysV (h : MTn w B g n N KA DA KC DC) {k : Nat} (hk : k < n) : ∃ X : Nat → ByteArray, OwnV w 9 (KA k) (N k).kn (fun i => .string (X i)) := by
  obtain ⟨N', h, e⟩ := h
  have q := h.keys k hk
  rw [(e k).1] at q
  rcases q with q | ⟨b, e1, _, e2⟩
  · exact ⟨(N' k).ks, .inl q⟩
  · exact ⟨(N' k).ks, .inr ⟨b, e1, e2⟩⟩
theorem MTn.kidsV (h : MTn w B g n N KA DA KC DC) {k : Nat} (hk : k < n) : ∃ X : Nat → Int, OwnV w 2 (DA k) (N k).dn (fun i => .int .i64 (X i)) := by
  obtain ⟨N', h, e⟩ := h
  have q := h.kids k hk
  rw [(e k).2] at q
  rcases q with q | ⟨b, e1, _, e2⟩
  · exact ⟨(N' k).kd, .inl q⟩
  · exact ⟨(N' k).kd, .inr ⟨b, e1, e2⟩⟩

theorem MTn.of (h : MTn w B g n N KA DA KC DC) (N1 : Nat → Tn) (hrow : rowIn w' g 88 (n * 4) (tnCell N1 KA DA KC DC)) (he : ∀ i, (N1 i).kn = (N i).kn ∧ (N1 i).dn = (N i).dn) (hk : ∀ i, i < n → OwnS w' B (KA i) (N1 i).kn (N1 i).ks) (hd : ∀ i, i < n → OwnI w' B (DA i) (N1 i).dn (N1 i).kd) : MTn w' B g n N KA DA KC DC := by
  obtain ⟨N', h, e⟩ := h
  refine ⟨N1, ⟨h.le, hrow, hk, hd, fun i j hi hj hij h1 h2 => h.apartK i j hi hj hij ?_ ?_, fun i j hi hj hij h1 h2 => h.apartD i j hi hj hij ?_ ?_⟩, he⟩
  · rw [(e i).1, ← (he i).1]; exact h1
  · rw [(e j).1, ← (he j).1]; exact h2
  · rw [(e i).2, ← (he i).2]; exact h1
  · rw [(e j).2, ← (he j).2]; exact h2

theorem MTn.flag (h : MTn w B g n N KA DA KC DC) (k : Nat) (v : Bool) : MTn (w.setCell ⟨g, k * 4, none⟩ (.bool v)) B g n N KA DA KC DC := by
  obtain ⟨N', h1, e⟩ := h
  refine MTn.of ⟨N', h1, e⟩ (fun i => if i = k then { N' k with lf := v } else N' i) ((h1.row.set (k * 4) _).congr (fun c hc => ?_)) (fun i => ?_) (fun i hi => ?_) (fun i hi => ?_)
  · by_cases e1 : c = k * 4
    · subst e1; rw [if_pos rfl, tnCell_0]; simp
    · rw [if_neg e1]
      unfold tnCell
      by_cases e2 : c / 4 = k
      · have e3 : ¬ c % 4 = 0 := by omega
        simp [e2, e3]
      · simp [e2]
  · by_cases e1 : i = k
    · subst e1; simpa using e i
    · simpa [e1] using e i
  · have q : OwnS w B (KA i) ((fun i => if i = k then { N' k with lf := v } else N' i) i).kn ((fun i => if i = k then { N' k with lf := v } else N' i) i).ks := by
      by_cases e1 : i = k
      · subst e1; simpa using h1.keys i hi
      · simpa [e1] using h1.keys i hi
    rcases q with q | ⟨b, q1, q2, q3⟩
    · exact .inl q
    · exact .inr ⟨b, q1, q2, q3.of_block (Below.heap_setCell _ _ _ _ (q3.ne h1.row (by decide)))⟩
  · have q : OwnI w B (DA i) ((fun i => if i = k then { N' k with lf := v } else N' i) i).dn ((fun i => if i = k then { N' k with lf := v } else N' i) i).kd := by
      by_cases e1 : i = k
      · subst e1; simpa using h1.kids i hi
      · simpa [e1] using h1.kids i hi
    rcases q with q | ⟨b, q1, q2, q3⟩
    · exact .inl q
    · exact .inr ⟨b, q1, q2, q3.of_block (Below.heap_setCell _ _ _ _ (q3.ne h1.row (by decide)))⟩

theorem MTn.count (h : MTn w B g n N KA DA KC DC) (k : Nat) (v : Int) : MTn (w.setCell ⟨g, k * 4 + 3, none⟩ (.int .i64 v)) B g n N KA DA KC DC := by
  obtain ⟨N', h1, e⟩ := h
  refine MTn.of ⟨N', h1, e⟩ (fun i => if i = k then { N' k with ct := v } else N' i) ((h1.row.set (k * 4 + 3) _).congr (fun c hc => ?_)) (fun i => ?_) (fun i hi => ?_) (fun i hi => ?_)
  · by_cases e1 : c = k * 4 + 3
    · subst e1; rw [if_pos rfl, tnCell_3]; simp
    · rw [if_neg e1]
      unfold tnCell
      by_cases e2 : c / 4 = k
      · have e3 : c % 4 = 0 ∨ c % 4 = 1 ∨ c % 4 = 2 := by omega
        rcases e3 with e3 | e3 | e3 <;> simp [e2, e3]
      · simp [e2]
  · by_cases e1 : i = k
    · subst e1; simpa using e i
    · simpa [e1] using e i
  · have q : OwnS w B (KA i) ((fun i => if i = k then { N' k with ct := v } else N' i) i).kn ((fun i => if i = k then { N' k with ct := v } else N' i) i).ks := by
      by_cases e1 : i = k
      · subst e1; simpa using h1.keys i hi
      · simpa [e1] using h1.keys i hi
    rcases q with q | ⟨b, q1, q2, q3⟩
    · exact .inl q
    · exact .inr ⟨b, q1, q2, q3.of_block (Below.heap_setCell _ _ _ _ (q3.ne h1.row (by decide)))⟩
  · have q : OwnI w B (DA i) ((fun i => if i = k then { N' k with ct := v } else N' i) i).dn ((fun i => if i = k then { N' k with ct := v } else N' i) i).kd := by
      by_cases e1 : i = k
      · subst e1; simpa using h1.kids i hi
      · simpa [e1] using h1.kids i hi
    rcases q with q | ⟨b, q1, q2, q3⟩
    · exact .inl q
    · exact .inr ⟨b, q1, q2, q3.of_block (Below.heap_setCell _ _ _ _ (q3.ne h1.row (by decide)))⟩

theorem MTn.setKeys (h : MTn w B g n N KA DA KC DC) {k : Nat} (hk : k < n) (X : Nat → ByteArray) (hg : w.grownBy w' ((KA k).map (·.block))) (hz : (N k).kn = 0 → w' = w) (ho : OwnV w' 9 (KA k) (N k).kn (fun i => .string (X i))) : MTn w' B g n N KA DA KC DC := by
  by_cases hl : (N k).kn = 0
  · rw [hz hl]; exact h
  obtain ⟨N', h1, e⟩ := h
  have hl' : (N' k).kn ≠ 0 := by rw [(e k).1]; exact hl
  obtain ⟨gk, hA, hgB, hrk⟩ := (h1.keys k hk).resolve_left hl'
  rw [hA] at hg
  have hblk : ∀ i, i < w.heap.size → i ≠ gk → w'.heap[i]? = w.heap[i]? := fun i hi hne => hg.block i hi (fun q => by injection q with q; exact hne q)
  refine MTn.of ⟨N', h1, e⟩ (fun i => if i = k then { N' k with ks := X } else N' i) ((h1.row.of_block (hblk g h1.row.lt (fun q => (hrk.ne h1.row (by decide)) q.symm))).congr (fun c hc => ?_)) (fun i => ?_) (fun i hi => ?_) (fun i hi => ?_)
  · unfold tnCell
    by_cases e2 : c / 4 = k
    · simp [e2]
    · simp [e2]
  · by_cases e1 : i = k
    · subst e1; simpa using e i
    · simpa [e1] using e i
  · by_cases e1 : i = k
    · subst e1
      obtain ⟨g2, hA2, hr2⟩ := ho.resolve_left hl
      rw [hA] at hA2
      injection hA2 with hA2
      injection hA2 with hA2
      subst hA2
      simp only [if_true]
      rw [← (e i).1] at hr2
      exact .inr ⟨gk, hA, hgB, hr2⟩
    · simp only [if_neg e1]
      by_cases h0 : (N' i).kn = 0
      · exact .inl h0
      · obtain ⟨gi, hAi, hgi, hri⟩ := (h1.keys i hi).resolve_left h0
        refine .inr ⟨gi, hAi, hgi, hri.of_block (hblk gi hri.lt (fun q => ?_))⟩
        subst q
        exact h1.apartK i k hi hk e1 h0 hl' (by rw [hA, hAi])
  · have q : OwnI w B (DA i) ((fun i => if i = k then { N' k with ks := X } else N' i) i).dn ((fun i => if i = k then { N' k with ks := X } else N' i) i).kd := by
      by_cases e1 : i = k
      · subst e1; simpa using h1.kids i hi
      · simpa [e1] using h1.kids i hi
    rcases q with q | ⟨b, q1, q2, q3⟩
    · exact .inl q
    · exact .inr ⟨b, q1, q2, q3.of_block (hblk b q3.lt (q3.ne hrk (by decide)))⟩

theorem MTn.setKids (h : MTn w B g n N KA DA KC DC) {k : Nat} (hk : k < n) (X : Nat → Int) (hg : w.grownBy w' ((DA k).map (·.block))) (hz : (N k).dn = 0 → w' = w) (ho : OwnV w' 2 (DA k) (N k).dn (fun i => .int .i64 (X i))) : MTn w' B g n N KA DA KC DC := by
  by_cases hl : (N k).dn = 0
  · rw [hz hl]; exact h
  obtain ⟨N', h1, e⟩ := h
  have hl' : (N' k).dn ≠ 0 := by rw [(e k).2]; exact hl
  obtain ⟨gk, hA, hgB, hrk⟩ := (h1.kids k hk).resolve_left hl'
  rw [hA] at hg
  have hblk : ∀ i, i < w.heap.size → i ≠ gk → w'.heap[i]? = w.heap[i]? := fun i hi hne => hg.block i hi (fun q => by injection q with q; exact hne q)
  refine MTn.of ⟨N', h1, e⟩ (fun i => if i = k then { N' k with kd := X } else N' i) ((h1.row.of_block (hblk g h1.row.lt (fun q => (hrk.ne h1.row (by decide)) q.symm))).congr (fun c hc => ?_)) (fun i => ?_) (fun i hi => ?_) (fun i hi => ?_)
  · unfold tnCell
    by_cases e2 : c / 4 = k
    · simp [e2]
    · simp [e2]
  · by_cases e1 : i = k
    · subst e1; simpa using e i
    · simpa [e1] using e i
  · have q : OwnS w B (KA i) ((fun i => if i = k then { N' k with kd := X } else N' i) i).kn ((fun i => if i = k then { N' k with kd := X } else N' i) i).ks := by
      by_cases e1 : i = k
      · subst e1; simpa using h1.keys i hi
      · simpa [e1] using h1.keys i hi
    rcases q with q | ⟨b, q1, q2, q3⟩
    · exact .inl q
    · exact .inr ⟨b, q1, q2, q3.of_block (hblk b q3.lt (q3.ne hrk (by decide)))⟩
  · by_cases e1 : i = k
    · subst e1
      obtain ⟨g2, hA2, hr2⟩ := ho.resolve_left hl
      rw [hA] at hA2
      injection hA2 with hA2
      injection hA2 with hA2
      subst hA2
      simp only [if_true]
      rw [← (e i).2] at hr2
      exact .inr ⟨gk, hA, hgB, hr2⟩
    · simp only [if_neg e1]
      by_cases h0 : (N' i).dn = 0
      · exact .inl h0
      · obtain ⟨gi, hAi, hgi, hri⟩ := (h1.kids i hi).resolve_left h0
        refine .inr ⟨gi, hAi, hgi, hri.of_block (hblk gi hri.lt (fun q => ?_))⟩
        subst q
        exact h1.apartD i k hi hk e1 h0 hl' (by rw [hA, hAi])

/-- Where it lies: all of it below T. -/
def TnB (T g n : Nat) (N : Nat → Tn) (KA DA : Nat → Option Addr) (B : Nat) : Prop :=
  B ≤ g ∧ g < T ∧ (∀ i, i < n → (N i).kn ≠ 0 → ∀ b, (KA i).map (·.block) = some b → B ≤ b ∧ b < T) ∧ (∀ i, i < n → (N i).dn ≠ 0 → ∀ b, (DA i).map (·.block) = some b → B ≤ b ∧ b < T)

theorem OwnTn.bound (h : OwnTn w B g n N KA DA KC DC) : TnB w.heap.size g n N KA DA B := by
  refine ⟨h.le, h.row.lt, fun i hi h0 b hb => ?_, fun i hi h0 b hb => ?_⟩
  · obtain ⟨gi, hA, hgi, hri⟩ := (h.keys i hi).resolve_left h0
    rw [hA] at hb
    injection hb with hb
    subst hb
    exact ⟨hgi, hri.lt⟩
  · obtain ⟨gi, hA, hgi, hri⟩ := (h.kids i hi).resolve_left h0
    rw [hA] at hb
    injection hb with hb
    subst hb
    exact ⟨hgi, hri.lt⟩
end

theorem sumT_le (N : Nat → Tn) : ∀ (m j : Nat), j ≤ m → sumT N j ≤ sumT N m
  | 0, j, h => by have : j = 0 := by omega
                  subst this; exact Nat.le_refl _
  | m + 1, j, h => by
    by_cases e : j = m + 1
    · subst e; exact Nat.le_refl _
    · have := sumT_le N m j (by omega)
      have e2 : sumT N (m + 1) = sumT N m + (N m).kn + (N m).dn := rfl
      omega

theorem markStrsI (x : Int) (a : Option Addr) (n c k : Nat) (hx : x = (k : Int)) (X : Nat → ByteArray) (w : World) (h : OwnV w 9 a n (fun i => .string (X i))) (hk : 1 ≤ k) (hk2 : k + n ≤ 1073741824) :
    Calls Try.prog 27 #[.slice a n c, .int .i64 x] w fun e w' => e = .returned (.int .i64 ((k + n : Nat) : Int)) ∧ w.grownBy w' (a.map (·.block)) ∧ (n = 0 → w' = w) ∧ OwnV w' 9 a n (fun i => .string (mkT (k + i))) := by
  subst hx; exact markStrs_any a n c k X w h hk hk2
theorem markIntsI (x : Int) (a : Option Addr) (n c k : Nat) (hx : x = (k : Int)) (X : Nat → Int) (w : World) (h : OwnV w 2 a n (fun i => .int .i64 (X i))) (hk : 1 ≤ k) (hk2 : k + n ≤ 1073741824) :
    Calls Try.prog 64 #[.slice a n c, .int .i64 x] w fun e w' => e = .returned (.int .i64 ((k + n : Nat) : Int)) ∧ w.grownBy w' (a.map (·.block)) ∧ (n = 0 → w' = w) ∧ ∃ X' : Nat → Int, OwnV w' 2 a n (fun i => .int .i64 (X' i)) := by
  subst hx; exact markInts_any a n c k X w h hk hk2

set_option maxHeartbeats 4000000 in
theorem markTNodeS_any (B T g n c k : Nat) (N : Nat → Tn) (KA DA : Nat → Option Addr) (KC DC : Nat → Nat) (w : World) (h : MTn w B g n N KA DA KC DC) (hT : TnB T g n N KA DA B) (hk : 1 ≤ k) (hk2 : k + 2 * n + sumT N n ≤ 1073741824) :
    Calls Try.prog 44 #[.slice (some ⟨g, 0, none⟩) n c, .int .i64 (k : Int)] w fun e w' => ∃ p : Nat, e = .returned (.int .i64 (p : Int)) ∧ WiT B T w w' := by
  have HR : Hid (MTn w B g n N KA DA KC DC) := h
  have HT : Hid (TnB T g n N KA DA B) := hT
  clear h hT
  go_enter Try.func44, Try.ntmps44
  go_wp2
  go_loopw [1, 5] (fun q i wr => ∃ j p : Nat, j ≤ n ∧ i = .int .i64 j ∧ q = .int .i64 p ∧ p = k + 2 * j + sumT N j ∧ MTn wr B g n N KA DA KC DC ∧ WiT B T w wr) (fun _ i _ => n - (intOf i).toNat)
  case atStart => exact ⟨0, k, Nat.zero_le _, rfl, rfl, rfl, HR.out, WiT.refl _ _ _⟩
  case round =>
    obtain ⟨j, p, hj, rfl, rfl, hp, hm, hw⟩ := hrel
    by_cases hlt : j < n
    · have hsum : sumT N (j + 1) = sumT N j + (N j).kn + (N j).dn := rfl
      have hsl := sumT_le N n (j + 1) (by omega)
      have hp1 : 1 ≤ p := by omega
      have hjb : j < 1073741824 := by omega
      obtain ⟨kn, hkn⟩ : ∃ x, x = (N j).kn := ⟨_, rfl⟩
      obtain ⟨dn, hdn⟩ : ∃ x, x = (N j).dn := ⟨_, rfl⟩
      have hp2 : p + 2 + kn + dn ≤ 1073741824 := by omega
      have HP : Hid (p + 2 + kn + dn = k + 2 * (j + 1) + sumT N (j + 1)) := by
        show p + 2 + kn + dn = k + 2 * (j + 1) + sumT N (j + 1)
        omega
      have HM : Hid (MTn wr B g n N KA DA KC DC ∧ WiT B T w wr) := ⟨hm, hw⟩
      have HK : Hid (kn = (N j).kn ∧ dn = (N j).dn) := ⟨hkn, hdn⟩
      obtain ⟨⟨b0, c0⟩, c1, c2, ⟨x3, c3⟩, f0, f3, lg⟩ := hm.cells hlt
      rw [← hkn] at c1
      rw [← hdn] at c2
      have i0 : (0 : Int) ≤ (j : Int) := by omega
      have i1 : (j : Int) < (n : Int) := by omega
      have HW1 : Hid (∀ v, MTn (wr.setCell ⟨g, j * 4, none⟩ (.bool v)) B g n N KA DA KC DC ∧ WiT B T w (wr.setCell ⟨g, j * 4, none⟩ (.bool v))) := fun v => ⟨HM.out.1.flag j v, HM.out.2.trans (WiT.grown (grown_set _ _ _ _) (fun b e => by injection e with e; subst e; exact ⟨HT.out.1, HT.out.2.1⟩))⟩
      clear hsum hsl hp hm hw hkn hdn hk2
      go_wp2_with fail
      obtain ⟨X1, hX1⟩ := (HW1.out _).1.keysV hlt
      refine (markStrsI _ (KA j) kn (KC j) (p + 1) (by go_num) X1 _ (by rw [HK.out.1]; exact hX1) (by omega) (by omega)).mono ?_
      rintro e w1 ⟨rfl, hg1, hz1, ho1⟩
      have hK0 := HK.out
      have HW2 : Hid (MTn w1 B g n N KA DA KC DC ∧ WiT B T w w1) := by
        have q1 := (HW1.out _).1.setKeys hlt _ hg1 (fun e => hz1 (by rw [hK0.1]; exact e)) (by rw [← hK0.1]; exact ho1)
        refine ⟨q1, (HW1.out ((p : Int) % 3 == 0)).2.trans ?_⟩
        by_cases h0 : kn = 0
        · rw [hz1 h0]; exact WiT.refl _ _ _
        · exact WiT.grown hg1 (HT.out.2.2.1 j hlt (by rw [← hK0.1]; exact h0))
      clear hg1 hz1 ho1 hX1 X1 HW1 c0 c1 c2 c3 f0 f3 lg hK0
      obtain ⟨⟨b0', c0⟩, c1, c2, ⟨x3', c3⟩, f0, f3, lg⟩ := HW2.out.1.cells hlt
      rw [← HK.out.1] at c1
      rw [← HK.out.2] at c2
      go_wp2_with fail
      obtain ⟨X2, hX2⟩ := HW2.out.1.kidsV hlt
      refine (markIntsI _ (DA j) dn (DC j) (p + 1 + kn) (by go_num) X2 _ (by rw [HK.out.2]; exact hX2) (by omega) (by omega)).mono ?_
      rintro e w2 ⟨rfl, hg2, hz2, X3, ho2⟩
      have hK0 := HK.out
      have HW3 : Hid (MTn w2 B g n N KA DA KC DC ∧ WiT B T w w2) := by
        have q1 := HW2.out.1.setKids hlt X3 hg2 (fun e => hz2 (by rw [hK0.2]; exact e)) (by rw [← hK0.2]; exact ho2)
        refine ⟨q1, HW2.out.2.trans ?_⟩
        by_cases h0 : dn = 0
        · rw [hz2 h0]; exact WiT.refl _ _ _
        · exact WiT.grown hg2 (HT.out.2.2.2 j hlt (by rw [← hK0.2]; exact h0))
      clear hg2 hz2 ho2 hX2 X2 X3 HW2 c0 c1 c2 c3 f0 f3 lg hK0
      obtain ⟨⟨b0'', c0⟩, c1, c2, ⟨x3'', c3⟩, f0, f3, lg⟩ := HW3.out.1.cells hlt
      have HW4 : Hid (∀ v, MTn (w2.setCell ⟨g, j * 4 + 3, none⟩ (.int .i64 v)) B g n N KA DA KC DC ∧ WiT B T w (w2.setCell ⟨g, j * 4 + 3, none⟩ (.int .i64 v))) := fun v => ⟨HW3.out.1.count j v, HW3.out.2.trans (WiT.grown (grown_set _ _ _ _) (fun b e => by injection e with e; subst e; exact ⟨HT.out.1, HT.out.2.1⟩))⟩
      clear HW3 c0 c1 c2
      go_wp2
      go_roundw
      case rel => exact ⟨j + 1, p + 2 + kn + dn, by omega, by go_num, by go_num, HP.out, HW4.out _⟩
      case measure => simp [intOf]; omega
    · have e : j = n := by omega
      subst e
      have HM : Hid (WiT B T w wr) := hw
      clear hm hw hp
      go_wp2
      go_ret
      exact ⟨p, rfl, HM.out⟩

set_option maxHeartbeats 2000000 in
theorem markTree_any (B T g n c : Nat) (N : Nat → Tn) (KA DA : Nat → Option Addr) (KC DC : Nat → Nat) (w : World) (h : MTn w B g n N KA DA KC DC) (hT : TnB T g n N KA DA B) (hk2 : n + sumT N n ≤ 1048576) :
    Calls Try.prog 26 #[.agg #[.slice (some ⟨g, 0, none⟩) n c], .int .i64 1] w fun e w' => ∃ p : Nat, e = .returned (.int .i64 (p : Int)) ∧ WiT B T w w' := by
  obtain ⟨N', h1, e1⟩ := h
  have HR : Hid (∀ O : Obj, MTn (w.alloc O) B g n N KA DA KC DC ∧ WiT B T w (w.alloc O)) := fun O => by
    refine ⟨⟨N', ⟨h1.le, h1.row.of_block ((below_alloc _ _).block g h1.row.lt), fun i hi => (h1.keys i hi).below (below_alloc _ _), fun i hi => (h1.kids i hi).below (below_alloc _ _), h1.apartK, h1.apartD⟩, e1⟩, ?_⟩
    exact WiT.grown (grown_below (r := none) (below_alloc _ _)) (fun b e => by cases e)
  have HT : Hid (TnB T g n N KA DA B) := hT
  clear h1 e1 hT
  go_enter Try.func26, Try.ntmps26
  go_wp2_with fail
  refine (markTNodeS_any B T g n c 1 N KA DA KC DC _ (HR.out _).1 HT.out (Nat.le_refl _) (by omega)).mono ?_
  rintro e w1 ⟨p, rfl, hw⟩
  have HW : Hid (WiT B T w w1) := (HR.out _).2.trans hw
  clear hw
  go_wp2
  go_ret
  exact ⟨p, rfl, HW.out⟩
end Go.Proofs.Ytakemeccigpbaaa
