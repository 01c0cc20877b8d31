import Derived.Test.YtfcffpgiijnmjaaVDict
import Derived.Test.YtfcffpgiijnmjaaReadD
namespace Go.Proofs.Ytfcffpgiijnmjaa
open Go.RowKit Go.Deep Go.MapKept
set_option linter.unusedVariables false
set_option maxRecDepth 100000

theorem bytes_ext {a b : ByteArray} (h : a.toList = b.toList) : a = b := by
  rw [ByteArray.toList_eq, ByteArray.toList_eq] at h
  obtain ⟨⟨x⟩⟩ := a
  obtain ⟨⟨y⟩⟩ := b
  simp at h
  rw [h]

/-- Where a text stands first. -/
def AtText (w : World) (n : Nat) (X : Nat → ByteArray) (x : ByteArray) (e : Ending) (w' : World) : Prop :=
  ((∃ i, i < n ∧ X i = x ∧ e = .returned (.int .i64 i)) ∨ ((∀ i, i < n → X i ≠ x) ∧ e = .returned (.int .i64 (-1)))) ∧ Below w.heap.size w w'

set_option maxHeartbeats 2000000 in
theorem l4ByText_any (next : Int) (a : Option Addr) (n c : Nat) (I : Nat → Int) (X : Nat → ByteArray) (R : Nat → Int) (x : ByteArray) (w : World) (h : RdT w a n I X R) (hn : n ≤ 1048576) :
    Calls Try.prog 39 #[.agg #[.int .i64 next, .slice a n c], .string x] w (AtText w n X x) := by
  go_enter Try.func39, Try.ntmps39
  go_wp2
  go_loopw [5] (fun i wr => ∃ k : Nat, k ≤ n ∧ i = .int .i64 k ∧ (∀ m, m < k → X m ≠ x) ∧ Below (w.heap.size + 1) (w.alloc (.cells #[.int .i64 next, .slice a n c] 24)) wr) (fun i _ => n - (intOf i).toNat)
  case atStart => exact ⟨0, Nat.zero_le _, rfl, fun m hm => absurd hm (Nat.not_lt_zero _), Below.refl _ _⟩
  case round =>
    obtain ⟨k, hk, rfl, hno, hb0⟩ := hrel
    obtain ⟨d0, d1, dz, hbel⟩ := dbox hb0
    have HO : Hid (∀ m, m < k → X m ≠ x) := hno
    have HB0 : Hid (Below (w.heap.size + 1) (w.alloc (.cells #[.int .i64 next, .slice a n c] 24)) wr) := hb0
    have HB : Hid (Below w.heap.size w wr) := hbel
    clear hno hb0
    by_cases hlt : k < n
    · have hne : ¬ n = 0 := by omega
      have h' := h.below hbel
      clear hbel
      rcases h' with h' | ⟨b, o, rfl, hc⟩
      · exact absurd h' hne
      obtain ⟨c1, c2, c3⟩ := hc k hlt
      clear hc h
      by_cases hx : X k = x
      · have hbx : ((X k).toList == x.toList) = true := by rw [hx]; simp
        go_wp2
        go_ret
        exact ⟨.inl ⟨k, hlt, hx, rfl⟩, HB.out⟩
      · have hbx : ((X k).toList == x.toList) = false := by
          rw [beq_eq_false_iff_ne]
          exact fun e => hx (bytes_ext e)
        go_wp2
        go_roundw
        case rel =>
          refine ⟨k + 1, by omega, by go_num, fun m hm => ?_, HB0.out⟩
          by_cases e : m = k
          · subst e; exact hx
          · exact HO.out m (by omega)
        case measure => simp [intOf]; omega
    · have e : n = k := by omega
      subst e
      clear hbel
      go_wp2
      go_ret
      exact ⟨.inr ⟨HO.out, rfl⟩, HB.out⟩

/-- The number of a text. -/
def IdOf (n : Nat) (I : Nat → Int) (X : Nat → ByteArray) (R : Nat → Int) (next : Int) (x : ByteArray) (r : Int) : Prop :=
  (VDt next n I X R → (∃ i, i < n ∧ X i = x ∧ r = I i) ∨ ((∀ i, i < n → X i ≠ x) ∧ r = 0)) ∧ (¬ VDt next n I X R → r = 0)

theorem VDt.text_inj {next : Int} {n : Nat} {I : Nat → Int} {X : Nat → ByteArray} {R : Nat → Int} (h : VDt next n I X R) {i j : Nat} (hi : i < n) (hj : j < n) (e : X i = X j) : i = j := by
  have asc := fun (p : Nat) (hp : p < n) => asc_less (X := X) (k := n) (fun m hm h0 => (h.2.2 m hm).1.2.2.2 h0) p hp
  rcases Nat.lt_trichotomy i j with h1 | h1 | h1
  · exact absurd e (less_ne (asc j hj i h1))
  · exact h1
  · exact absurd e.symm (less_ne (asc i hi j h1))

theorem IdOf.same {next : Int} {n : Nat} {I : Nat → Int} {X : Nat → ByteArray} {R : Nat → Int} {x : ByteArray} {r r' : Int} (h : IdOf n I X R next x r) (h' : IdOf n I X R next x r') : r = r' := by
  by_cases hv : VDt next n I X R
  · rcases h.1 hv with ⟨i, hi, e, rfl⟩ | ⟨ha, rfl⟩
    · rcases h'.1 hv with ⟨j, hj, e', rfl⟩ | ⟨ha', rfl⟩
      · rw [hv.text_inj hi hj (e.trans e'.symm)]
      · exact absurd e (ha' i hi)
    · rcases h'.1 hv with ⟨j, hj, e', rfl⟩ | ⟨ha', rfl⟩
      · exact absurd e' (ha j hj)
      · rfl
  · rw [h.2 hv, h'.2 hv]

def RetId (w : World) (n : Nat) (I : Nat → Int) (X : Nat → ByteArray) (R : Nat → Int) (next : Int) (x : ByteArray) (e : Ending) (w' : World) : Prop :=
  ∃ r, e = .returned (.int .i64 r) ∧ IdOf n I X R next x r ∧ Below w.heap.size w w'

set_option maxHeartbeats 2000000 in
theorem specTermId (next : Int) (a : Option Addr) (n c : Nat) (I : Nat → Int) (X : Nat → ByteArray) (R : Nat → Int) (x : ByteArray) (w : World) (h : RdT w a n I X R) (hn : n ≤ 1048576) :
    Calls Try.prog 18 #[.agg #[.int .i64 next, .slice a n c], .string x] w (RetId w n I X R next x) := by
  have HR : Hid (RdT w a n I X R) := h
  clear h
  go_enter Try.func18, Try.ntmps18
  go_wp2_with fail
  refine (l4ByText_any next a n c I X R x _ (HR.out.below (below_alloc _ _)) hn).mono ?_
  rintro e w1 ⟨hat, hb1⟩
  rw [World.size_alloc] at hb1
  have K1 : Hid (Below (w.heap.size + 1) (w.alloc (.cells #[.int .i64 next, .slice a n c] 24)) w1) := hb1
  obtain ⟨d0, d1, dz, hbel⟩ := dbox hb1
  have HB1 : Hid (Below w.heap.size w w1) := hbel
  clear hb1 hbel
  rcases hat with ⟨i, hi, hx, rfl⟩ | ⟨hno, rfl⟩
  · have hi0 : ¬ ((i : Int) < 0) := by omega
    go_wp2_with fail
    refine (specVD next a n c I X R w1 (HR.out.below HB1.out) hn).mono ?_
    rintro e w2 ⟨bv, rfl, hbv, hb2⟩
    have HBV : Hid (bv = true ↔ VDt next n I X R) := hbv
    have K2 : Hid (Below (w.heap.size + 1) (w.alloc (.cells #[.int .i64 next, .slice a n c] 24)) w2) := K1.out.trans (hb2.mono (by omega))
    clear hbv hb2 d0 d1
    obtain ⟨d0, d1, dz2, hbel⟩ := dbox K2.out
    have HB2 : Hid (Below w.heap.size w w2) := hbel
    clear hbel
    cases bv with
    | false =>
      go_wp2
      go_ret
      exact ⟨0, rfl, ⟨fun q => absurd (HBV.out.2 q) (by simp), fun _ => rfl⟩, HB2.out⟩
    | true =>
      have HV : Hid (VDt next n I X R) := HBV.out.1 rfl
      rcases HR.out.below HB2.out with h0 | ⟨b, o, rfl, hc⟩
      · omega
      obtain ⟨c1, c2, c3⟩ := hc i hi
      clear hc
      go_wp2
      go_ret
      exact ⟨I i, rfl, ⟨fun _ => .inl ⟨i, hi, hx, rfl⟩, fun q => absurd HV.out q⟩, HB2.out⟩
  · go_wp2
    go_ret
    exact ⟨0, rfl, ⟨fun _ => .inr ⟨hno, rfl⟩, fun _ => rfl⟩, HB1.out⟩

set_option maxHeartbeats 1000000 in
theorem id_any (tb B1 B2 n : Nat) (next : Int) (I : Nat → Int) (X : Nat → ByteArray) (R : Nat → Int) (V : Nat → Nat) (x : ByteArray) (w : World) (ht : TabAt w tb next B1 B2) (hm : MapAt w B1 n (fun j => .string (X j)) (fun j => .pointer (some ⟨V j, 0, none⟩))) (he : ∀ j, j < n → TermAt w (V j) (I j) (X j) (R j)) (hinj : ∀ i j, i < n → j < n → X i = X j → i = j) :
    Calls Try.prog 40 #[.pointer (some ⟨tb, 0, none⟩), .string x] w fun e w' => ((∃ i, i < n ∧ X i = x ∧ e = .returned (.int .i64 (I i))) ∨ ((∀ i, i < n → X i ≠ x) ∧ e = .returned (.int .i64 0))) ∧ Below w.heap.size w w' := by
  obtain ⟨t0, t1, t2⟩ := ht.cells
  by_cases h5 : ∃ j, j < n ∧ X j = x
  · obtain ⟨j, hj, hjx⟩ := h5
    obtain ⟨e0, e1, e2⟩ := (he j hj).cells
    have hl : (Instr.lookup 86 (.map (some B1)) (.string x) false).run Try.prog w = .ok (.pointer (some ⟨V j, 0, none⟩)) w :=
      hm.look_some (kt := 9) (et := 92) (by kernel_rfl) (by kernel_rfl) (d := .string) (show IsKey .string (.string x) from trivial) (fun j _ => show IsKey .string (.string (X j)) from trivial) hj (by rw [hjx]) (fun q hq e => by
        have : X q = X j := by injection e with e; rw [e, hjx]
        rw [hinj q j hq hj this])
    clear he hm ht hinj
    go_enter Try.func40, Try.ntmps40
    go_wp2
    go_ret
    exact ⟨.inl ⟨j, hj, hjx, rfl⟩, Below.refl _ _⟩
  · have hno : ∀ i, i < n → X i ≠ x := fun i hi e => h5 ⟨i, hi, e⟩
    have hl : (Instr.lookup 86 (.map (some B1)) (.string x) false).run Try.prog w = .ok (.pointer none) w :=
      hm.look_none (kt := 9) (et := 92) (by kernel_rfl) (by kernel_rfl) (d := .string) (show IsKey .string (.string x) from trivial) (fun j _ => show IsKey .string (.string (X j)) from trivial) (fun j hj e => hno j hj (by injection e)) (by kernel_rfl)
    have HNO : Hid (∀ i, i < n → X i ≠ x) := hno
    clear he hm ht hinj hno h5
    go_enter Try.func40, Try.ntmps40
    go_wp2
    go_ret
    exact ⟨.inr ⟨HNO.out, rfl⟩, Below.refl _ _⟩

set_option maxHeartbeats 1000000 in
theorem implTermId (next : Int) (a : Option Addr) (n c : Nat) (I : Nat → Int) (X : Nat → ByteArray) (R : Nat → Int) (x : ByteArray) (w : World) (h : RdT w a n I X R) (hn : n ≤ 1048576) :
    Calls Try.prog 19 #[.agg #[.int .i64 next, .slice a n c], .string x] w (RetId w n I X R next x) := by
  go_enter Try.func19, Try.ntmps19
  go_wp2_with fail
  refine (readDict_any next a n c I X R _ (h.below (below_alloc _ _)) hn).mono ?_
  rintro e w1 hr
  have hsz : ∀ O : Obj, (w.alloc O).heap.size = w.heap.size + 1 := fun O => by simp
  rcases hr with ⟨hv, rfl, hb⟩ | ⟨hv, V, dt, rfl, hst⟩
  · have HV : Hid (¬ VDt next n I X R) := hv
    have HB : Hid (Below w.heap.size w w1) := (below_alloc _ _).trans (hb.mono (by rw [hsz]; omega))
    clear hv hb hsz
    go_wp2
    go_ret
    exact ⟨0, rfl, ⟨fun q => absurd q HV.out, fun _ => rfl⟩, HB.out⟩
  · have HV : Hid (VDt next n I X R) := hv
    have HB : Hid (Below w.heap.size w w1) := (below_alloc _ _).trans (hst.below.mono (by rw [hsz]; omega))
    have HS : Hid (∃ w0, DSt w0 w1 dt next I X R n V ∧ w0.heap.size = w.heap.size + 1) := ⟨_, hst, hsz _⟩
    clear hv hst
    rw [hsz]
    clear hsz
    go_wp2_with fail
    obtain ⟨w0, hst, h0⟩ := HS.out
    have ht := hst.tab
    have hm := hst.m1
    rw [h0] at ht hm
    refine (id_any _ _ _ n next I X R V x w1 ht hm hst.each (fun i j hi hj e => HV.out.text_inj hi hj e)).mono ?_
    rintro e w2 ⟨hat, hb2⟩
    have HB2 : Hid (Below w.heap.size w w2) := HB.out.trans (hb2.mono HB.out.size)
    clear hb2 ht hm hst
    rcases hat with ⟨i, hi, hx, rfl⟩ | ⟨hno, rfl⟩
    · go_wp2
      go_ret
      exact ⟨I i, rfl, ⟨fun _ => .inl ⟨i, hi, hx, rfl⟩, fun q => absurd HV.out q⟩, HB2.out⟩
    · go_wp2
      go_ret
      exact ⟨0, rfl, ⟨fun _ => .inr ⟨hno, rfl⟩, fun q => absurd HV.out q⟩, HB2.out⟩
end Go.Proofs.Ytfcffpgiijnmjaa
