import Derived.Test.YtfcffpgiijnmjaaTermI
namespace Go.Proofs.Ytfcffpgiijnmjaa
open Go.RowKit Go.Deep Go.MapKept
set_option linter.unusedVariables false
set_option maxRecDepth 100000

/-- Where a number stands first. -/
def AtId (w : World) (n : Nat) (I : Nat → Int) (x : Int) (e : Ending) (w' : World) : Prop :=
  ((∃ i, i < n ∧ I i = x ∧ e = .returned (.int .i64 i)) ∨ ((∀ i, i < n → I i ≠ x) ∧ e = .returned (.int .i64 (-1)))) ∧ Below w.heap.size w w'

set_option maxHeartbeats 2000000 in
theorem l4ById_any (next : Int) (a : Option Addr) (n c : Nat) (I : Nat → Int) (X : Nat → ByteArray) (R : Nat → Int) (x : Int) (w : World) (h : RdT w a n I X R) (hn : n ≤ 1048576) :
    Calls Try.prog 41 #[.agg #[.int .i64 next, .slice a n c], .int .i64 x] w (AtId w n I x) := by
  go_enter Try.func41, Try.ntmps41
  go_wp2
  go_loopw [5] (fun i wr => ∃ k : Nat, k ≤ n ∧ i = .int .i64 k ∧ (∀ m, m < k → I m ≠ x) ∧ Below (w.heap.size + 1) (w.alloc (.cells #[.int .i64 next, .slice a n c] 24)) wr) (fun i _ => n - (intOf i).toNat)
  case atStart => exact ⟨0, Nat.zero_le _, rfl, fun m hm => absurd hm (Nat.not_lt_zero _), Below.refl _ _⟩
  case round =>
    obtain ⟨k, hk, rfl, hno, hb0⟩ := hrel
    obtain ⟨d0, d1, dz, hbel⟩ := dbox hb0
    have HO : Hid (∀ m, m < k → I m ≠ x) := hno
    have HB0 : Hid (Below (w.heap.size + 1) (w.alloc (.cells #[.int .i64 next, .slice a n c] 24)) wr) := hb0
    have HB : Hid (Below w.heap.size w wr) := hbel
    clear hno hb0
    by_cases hlt : k < n
    · have hne : ¬ n = 0 := by omega
      have h' := h.below hbel
      clear hbel
      rcases h' with h' | ⟨b, o, rfl, hc⟩
      · exact absurd h' hne
      obtain ⟨c1, c2, c3⟩ := hc k hlt
      clear hc h
      by_cases hx : I k = x
      · have hbx : (I k == x) = true := by rw [hx]; simp
        have HX : Hid (I k = x) := hx
        clear hx
        go_wp2
        go_ret
        exact ⟨.inl ⟨k, hlt, HX.out, rfl⟩, HB.out⟩
      · have hbx : (I k == x) = false := by simp [hx]
        have HX : Hid (I k ≠ x) := hx
        go_wp2
        go_roundw
        case rel =>
          refine ⟨k + 1, by omega, by go_num, fun m hm => ?_, HB0.out⟩
          by_cases e : m = k
          · subst e; exact HX.out
          · exact HO.out m (by omega)
        case measure => simp [intOf]; omega
    · have e : n = k := by omega
      subst e
      clear hbel
      go_wp2
      go_ret
      exact ⟨.inr ⟨HO.out, rfl⟩, HB.out⟩

/-- The text of a number. -/
def TextOf (n : Nat) (I : Nat → Int) (X : Nat → ByteArray) (R : Nat → Int) (next : Int) (x : Int) (r : ByteArray) : Prop :=
  (VDt next n I X R → (∃ i, i < n ∧ I i = x ∧ r = X i) ∨ ((∀ i, i < n → I i ≠ x) ∧ r = { data := #[] })) ∧ (¬ VDt next n I X R → r = { data := #[] })

theorem VDt.id_inj {next : Int} {n : Nat} {I : Nat → Int} {X : Nat → ByteArray} {R : Nat → Int} (h : VDt next n I X R) {i j : Nat} (hi : i < n) (hj : j < n) (e : I i = I j) : i = j :=
  fresh_inj (fun m hm => (h.2.2 m hm).2) i hi j hj e

theorem TextOf.same {next : Int} {n : Nat} {I : Nat → Int} {X : Nat → ByteArray} {R : Nat → Int} {x : Int} {r r' : ByteArray} (h : TextOf n I X R next x r) (h' : TextOf n I X R next x r') : r = r' := by
  by_cases hv : VDt next n I X R
  · rcases h.1 hv with ⟨i, hi, e, rfl⟩ | ⟨ha, rfl⟩
    · rcases h'.1 hv with ⟨j, hj, e', rfl⟩ | ⟨ha', rfl⟩
      · rw [hv.id_inj hi hj (e.trans e'.symm)]
      · exact absurd e (ha' i hi)
    · rcases h'.1 hv with ⟨j, hj, e', rfl⟩ | ⟨ha', rfl⟩
      · exact absurd e' (ha j hj)
      · rfl
  · rw [h.2 hv, h'.2 hv]

def RetText (w : World) (n : Nat) (I : Nat → Int) (X : Nat → ByteArray) (R : Nat → Int) (next : Int) (x : Int) (e : Ending) (w' : World) : Prop :=
  ∃ r, e = .returned (.string r) ∧ TextOf n I X R next x r ∧ Below w.heap.size w w'

set_option maxHeartbeats 2000000 in
theorem specTermText (next : Int) (a : Option Addr) (n c : Nat) (I : Nat → Int) (X : Nat → ByteArray) (R : Nat → Int) (x : Int) (w : World) (h : RdT w a n I X R) (hn : n ≤ 1048576) :
    Calls Try.prog 20 #[.agg #[.int .i64 next, .slice a n c], .int .i64 x] w (RetText w n I X R next x) := by
  have HR : Hid (RdT w a n I X R) := h
  clear h
  go_enter Try.func20, Try.ntmps20
  go_wp2_with fail
  refine (l4ById_any next a n c I X R x _ (HR.out.below (below_alloc _ _)) hn).mono ?_
  rintro e w1 ⟨hat, hb1⟩
  rw [World.size_alloc] at hb1
  have K1 : Hid (Below (w.heap.size + 1) (w.alloc (.cells #[.int .i64 next, .slice a n c] 24)) w1) := hb1
  obtain ⟨d0, d1, dz, hbel⟩ := dbox hb1
  have HB1 : Hid (Below w.heap.size w w1) := hbel
  clear hb1 hbel
  rcases hat with ⟨i, hi, hx, rfl⟩ | ⟨hno, rfl⟩
  · have hi0 : ¬ ((i : Int) < 0) := by omega
    have HX : Hid (I i = x) := hx
    clear hx
    go_wp2_with fail
    refine (specVD next a n c I X R w1 (HR.out.below HB1.out) hn).mono ?_
    rintro e w2 ⟨bv, rfl, hbv, hb2⟩
    have HBV : Hid (bv = true ↔ VDt next n I X R) := hbv
    have K2 : Hid (Below (w.heap.size + 1) (w.alloc (.cells #[.int .i64 next, .slice a n c] 24)) w2) := K1.out.trans (hb2.mono (by omega))
    clear hbv hb2 d0 d1
    obtain ⟨d0, d1, dz2, hbel⟩ := dbox K2.out
    have HB2 : Hid (Below w.heap.size w w2) := hbel
    clear hbel
    cases bv with
    | false =>
      go_wp2
      go_ret
      exact ⟨_, rfl, ⟨fun q => absurd (HBV.out.2 q) (by simp), fun _ => rfl⟩, HB2.out⟩
    | true =>
      have HV : Hid (VDt next n I X R) := HBV.out.1 rfl
      rcases HR.out.below HB2.out with h0 | ⟨b, o, rfl, hc⟩
      · omega
      obtain ⟨c1, c2, c3⟩ := hc i hi
      clear hc
      go_wp2
      go_ret
      exact ⟨X i, rfl, ⟨fun _ => .inl ⟨i, hi, HX.out, rfl⟩, fun q => absurd HV.out q⟩, HB2.out⟩
  · go_wp2
    go_ret
    exact ⟨_, rfl, ⟨fun _ => .inr ⟨hno, rfl⟩, fun _ => rfl⟩, HB1.out⟩

set_option maxHeartbeats 1000000 in
theorem text_any (tb B1 B2 n : Nat) (next : Int) (I : Nat → Int) (X : Nat → ByteArray) (R : Nat → Int) (V : Nat → Nat) (x : Int) (w : World) (ht : TabAt w tb next B1 B2) (hm : MapAt w B2 n (fun j => .int .i64 (I j)) (fun j => .pointer (some ⟨V j, 0, none⟩))) (he : ∀ j, j < n → TermAt w (V j) (I j) (X j) (R j)) (hinj : ∀ i j, i < n → j < n → I i = I j → i = j) :
    Calls Try.prog 42 #[.pointer (some ⟨tb, 0, none⟩), .int .i64 x] w fun e w' => ((∃ i, i < n ∧ I i = x ∧ e = .returned (.string (X i))) ∨ ((∀ i, i < n → I i ≠ x) ∧ e = .returned (.string { data := #[] }))) ∧ Below w.heap.size w w' := by
  obtain ⟨t0, t1, t2⟩ := ht.cells
  by_cases h5 : ∃ j, j < n ∧ I j = x
  · obtain ⟨j, hj, hjx⟩ := h5
    obtain ⟨e0, e1, e2⟩ := (he j hj).cells
    have hl : (Instr.lookup 87 (.map (some B2)) (.int .i64 x) false).run Try.prog w = .ok (.pointer (some ⟨V j, 0, none⟩)) w :=
      hm.look_some (kt := 2) (et := 92) (by kernel_rfl) (by kernel_rfl) (d := .int .i64) (show IsKey (.int .i64) (.int .i64 x) from rfl) (fun j _ => show IsKey (.int .i64) (.int .i64 (I j)) from rfl) hj (by rw [hjx]) (fun q hq e => by
        have : I q = I j := by injection e with _ e; rw [e, hjx]
        rw [hinj q j hq hj this])
    have HJ : Hid (I j = x) := hjx
    clear he hm ht hinj hjx
    go_enter Try.func42, Try.ntmps42
    go_wp2
    go_ret
    exact ⟨.inl ⟨j, hj, HJ.out, rfl⟩, Below.refl _ _⟩
  · have hno : ∀ i, i < n → I i ≠ x := fun i hi e => h5 ⟨i, hi, e⟩
    have hl : (Instr.lookup 87 (.map (some B2)) (.int .i64 x) false).run Try.prog w = .ok (.pointer none) w :=
      hm.look_none (kt := 2) (et := 92) (by kernel_rfl) (by kernel_rfl) (d := .int .i64) (show IsKey (.int .i64) (.int .i64 x) from rfl) (fun j _ => show IsKey (.int .i64) (.int .i64 (I j)) from rfl) (fun j hj e => hno j hj (by injection e)) (by kernel_rfl)
    have HNO : Hid (∀ i, i < n → I i ≠ x) := hno
    clear he hm ht hinj hno h5
    go_enter Try.func42, Try.ntmps42
    go_wp2
    go_ret
    exact ⟨.inr ⟨HNO.out, rfl⟩, Below.refl _ _⟩

set_option maxHeartbeats 1000000 in
theorem implTermText (next : Int) (a : Option Addr) (n c : Nat) (I : Nat → Int) (X : Nat → ByteArray) (R : Nat → Int) (x : Int) (w : World) (h : RdT w a n I X R) (hn : n ≤ 1048576) :
    Calls Try.prog 21 #[.agg #[.int .i64 next, .slice a n c], .int .i64 x] w (RetText w n I X R next x) := by
  go_enter Try.func21, Try.ntmps21
  go_wp2_with fail
  refine (readDict_any next a n c I X R _ (h.below (below_alloc _ _)) hn).mono ?_
  rintro e w1 hr
  have hsz : ∀ O : Obj, (w.alloc O).heap.size = w.heap.size + 1 := fun O => by simp
  rcases hr with ⟨hv, rfl, hb⟩ | ⟨hv, V, dt, rfl, hst⟩
  · have HV : Hid (¬ VDt next n I X R) := hv
    have HB : Hid (Below w.heap.size w w1) := (below_alloc _ _).trans (hb.mono (by rw [hsz]; omega))
    clear hv hb hsz
    go_wp2
    go_ret
    exact ⟨_, rfl, ⟨fun q => absurd q HV.out, fun _ => rfl⟩, HB.out⟩
  · have HV : Hid (VDt next n I X R) := hv
    have HB : Hid (Below w.heap.size w w1) := (below_alloc _ _).trans (hst.below.mono (by rw [hsz]; omega))
    have HS : Hid (∃ w0, DSt w0 w1 dt next I X R n V ∧ w0.heap.size = w.heap.size + 1) := ⟨_, hst, hsz _⟩
    clear hv hst
    rw [hsz]
    clear hsz
    go_wp2_with fail
    obtain ⟨w0, hst, h0⟩ := HS.out
    have ht := hst.tab
    have hm := hst.m2
    rw [h0] at ht hm
    refine (text_any _ _ _ n next I X R V x w1 ht hm hst.each (fun i j hi hj e => HV.out.id_inj hi hj e)).mono ?_
    rintro e w2 ⟨hat, hb2⟩
    have HB2 : Hid (Below w.heap.size w w2) := HB.out.trans (hb2.mono HB.out.size)
    clear hb2 ht hm hst
    rcases hat with ⟨i, hi, hx, rfl⟩ | ⟨hno, rfl⟩
    · have HX : Hid (I i = x) := hx
      clear hx
      go_wp2
      go_ret
      exact ⟨X i, rfl, ⟨fun _ => .inl ⟨i, hi, HX.out, rfl⟩, fun q => absurd HV.out q⟩, HB2.out⟩
    · go_wp2
      go_ret
      exact ⟨_, rfl, ⟨fun _ => .inr ⟨hno, rfl⟩, fun q => absurd HV.out q⟩, HB2.out⟩
end Go.Proofs.Ytfcffpgiijnmjaa
