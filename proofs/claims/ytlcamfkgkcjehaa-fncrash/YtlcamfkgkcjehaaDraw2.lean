import Derived.Test.YtlcamfkgkcjehaaDraw
namespace Go.Proofs.Ytlcamfkgkcjehaa
open Go.RowKit Go.Deep
set_option linter.unusedVariables false
set_option maxRecDepth 100000

theorem OnlyAt.next {a : Option Addr} {w w1 w2 : World} (h : OnlyAt a w w1) (k : OnlyAt a w1 w2) : OnlyAt a w w2 :=
  ⟨k.os.trans h.os, k.tape.trans h.tape, k.output.trans h.output, k.size.trans h.size, fun x hx => (k.block x hx).trans (h.block x hx)⟩
theorem Rd.apart {k : IntKind} {w w' : World} {b : Option Addr} {n g : Nat} {f : Nat → Int} (h : Rd k w b n f) (hne : n ≠ 0 → ∀ x, b = some x → x.block ≠ g) (ho : OnlyAt (some ⟨g, 0, none⟩) w w') : Rd k w' b n f := by
  by_cases hz : n = 0
  · exact Or.inl hz
  rcases h with h0 | ⟨bb, o, rfl, hc⟩
  · exact Or.inl h0
  · exact Or.inr ⟨bb, o, rfl, fun i hi => (World.cell?_of_block (a := ⟨bb, o + i, none⟩) (ho.block bb (fun y e => by injection e with e; subst e; exact fun e => hne hz _ rfl e.symm))).trans (hc i hi)⟩

/-- A cursor with its bytes. -/
structure Drw (w : World) (g : Nat) (b : Option Addr) (n c : Nat) (f : Nat → Int) : Prop where
  cur : ∃ (i : Nat) (h : Int), i ≤ n ∧ Cur w g (.slice b n c) i h
  rd : Rd .u8 w b n f
  ne : n ≠ 0 → ∀ x, b = some x → x.block ≠ g
  len : n ≤ 1048576
  range : ∀ j, j < n → 0 ≤ f j ∧ f j < 256

theorem Drw.byte {w : World} {g : Nat} {b : Option Addr} {n c : Nat} {f : Nat → Int} (h : Drw w g b n c f) :
    Calls Try.prog 61 #[.pointer (some ⟨g, 0, none⟩)] w fun e w' => ∃ x, e = .returned (.int .i64 x) ∧ 0 ≤ x ∧ x < 256 ∧ Drw w' g b n c f ∧ OnlyAt (some ⟨g, 0, none⟩) w w' := by
  obtain ⟨⟨i, hh, hi, hc⟩, hrd, hne, hn, hf⟩ := h
  refine (l1Byte_any g b n c i f hh w hc hrd hi hne hn hf).mono ?_
  rintro e w' ⟨x, i', h', rfl, h0, h1, hi', hc', ho⟩
  exact ⟨x, rfl, h0, h1, ⟨⟨i', h', hi', hc'⟩, hrd.apart hne ho, hne, hn, hf⟩, ho⟩

/-- A number below k drawn. -/
def DrawnN (w : World) (e : Ending) (w' : World) (g : Nat) (b : Option Addr) (n c : Nat) (f : Nat → Int) (k : Int) : Prop := ∃ x, e = .returned (.int .i64 x) ∧ 0 ≤ x ∧ x < k ∧ Drw w' g b n c f ∧ OnlyAt (some ⟨g, 0, none⟩) w w'

set_option maxHeartbeats 1000000 in
theorem l1Below_any (g : Nat) (b : Option Addr) (n c : Nat) (f : Nat → Int) (k : Int) (w : World) (h : Drw w g b n c f) (hk : 1 ≤ k) (hk2 : k ≤ 2147483647) :
    Calls Try.prog 36 #[.pointer (some ⟨g, 0, none⟩), .int .i64 k] w fun e w' => DrawnN w e w' g b n c f k := by
  have H : Hid (Drw w g b n c f) := h
  have hk0 : ¬ k = 0 := by omega
  have hk0' : (k == 0) = false := by simp; omega
  clear h
  by_cases hs : k ≤ 256
  · go_enter Try.func36, Try.ntmps36
    go_wp2_with fail
    refine H.out.byte.mono ?_
    rintro e w1 ⟨x, rfl, h0, h1, hd, ho⟩
    have HX : Hid (Drw w1 g b n c f ∧ OnlyAt (some ⟨g, 0, none⟩) w w1) := ⟨hd, ho⟩
    have hm : x.tmod k = x % k := Int.tmod_eq_emod_of_nonneg h0
    have hm0 : 0 ≤ x % k := Int.emod_nonneg x (by omega)
    have hm1 : x % k < k := Int.emod_lt_of_pos x (by omega)
    clear hd ho
    go_wp2
    go_ret
    exact ⟨x % k, rfl, hm0, hm1, HX.out⟩
  · go_enter Try.func36, Try.ntmps36
    go_wp2_with fail
    refine H.out.byte.mono ?_
    rintro e w1 ⟨x, rfl, h0, h1, hd1, ho1⟩
    have H1 : Hid (Drw w1 g b n c f ∧ OnlyAt (some ⟨g, 0, none⟩) w w1) := ⟨hd1, ho1⟩
    clear hd1 ho1
    go_wp2_with fail
    refine H1.out.1.byte.mono ?_
    rintro e w2 ⟨y, rfl, h2, h3, hd2, ho2⟩
    have H2 : Hid (Drw w2 g b n c f ∧ OnlyAt (some ⟨g, 0, none⟩) w w2) := ⟨hd2, H1.out.2.next ho2⟩
    clear hd2 ho2 H1
    go_wp2_with fail
    refine H2.out.1.byte.mono ?_
    rintro e w3 ⟨z, rfl, h4, h5, hd3, ho3⟩
    have H3 : Hid (Drw w3 g b n c f ∧ OnlyAt (some ⟨g, 0, none⟩) w w3) := ⟨hd3, H2.out.2.next ho3⟩
    clear hd3 ho3 H2
    have hs0 : 0 ≤ x * 65536 + y * 256 + z := by omega
    have hm : (x * 65536 + y * 256 + z).tmod k = (x * 65536 + y * 256 + z) % k := Int.tmod_eq_emod_of_nonneg hs0
    have hm0 : 0 ≤ (x * 65536 + y * 256 + z) % k := Int.emod_nonneg _ (by omega)
    have hm1 : (x * 65536 + y * 256 + z) % k < k := Int.emod_lt_of_pos _ (by omega)
    go_wp2
    go_ret
    exact ⟨(x * 65536 + y * 256 + z) % k, rfl, hm0, hm1, H3.out⟩

theorem Cur.new (w : World) (v : Value) (i h : Int) : Cur (w.alloc (.cells #[v, .int .i64 i, .int .i64 h] 73)) w.heap.size v i h :=
  ⟨_, blk_alloc_new _ _, by simp, fun j hj => by
    match j, hj with
    | 0, _ => rfl
    | 1, _ => rfl
    | 2, _ => rfl⟩

theorem Rd.blockLt {k : IntKind} {w : World} {b : Option Addr} {n : Nat} {f : Nat → Int} (h : Rd k w b n f) (hz : n ≠ 0) : ∀ x, b = some x → x.block < w.heap.size := by
  rcases h with h0 | ⟨bb, o, rfl, hc⟩
  · exact absurd h0 hz
  · intro x e
    injection e with e
    subst e
    exact World.block_lt_of_cell? _ _ (hc 0 (by omega))

/-- A cursor made. -/
def NewCur (w : World) (e : Ending) (w' : World) (b : Option Addr) (n c : Nat) (f : Nat → Int) : Prop := ∃ g, e = .returned (.pointer (some ⟨g, 0, none⟩)) ∧ w.heap.size ≤ g ∧ Drw w' g b n c f ∧ Below w.heap.size w w'

set_option maxHeartbeats 1000000 in
theorem l1New_any (b : Option Addr) (n c : Nat) (f : Nat → Int) (w : World) (hrd : Rd .u8 w b n f) (hn : n ≤ 1048576) (hf : ∀ j, j < n → 0 ≤ f j ∧ f j < 256) :
    Calls Try.prog 21 #[.slice b n c] w fun e w' => NewCur w e w' b n c f := by
  have HRD : Hid (Rd .u8 w b n f) := hrd
  have HF : Hid (∀ j, j < n → 0 ≤ f j ∧ f j < 256) := hf
  clear hrd hf
  go_enter Try.func21, Try.ntmps21
  go_wp2
  go_loopw [3, 4] (fun h i wr => ∃ (k : Nat) (y : Int), k ≤ n ∧ i = .int .i64 k ∧ h = .int .i64 y ∧ wr = w) (fun _ i _ => n - (intOf i).toNat)
  case atStart => exact ⟨0, _, Nat.zero_le _, rfl, rfl, rfl⟩
  case round =>
    obtain ⟨k, y, hk, rfl, rfl, rfl⟩ := hrel
    by_cases hlt : k < n
    · rcases HRD.out with h0 | ⟨bb, o, hb, hc⟩
      · omega
      subst hb
      have hcell := hc k hlt
      have hfk := HF.out k hlt
      clear hc
      generalize f k = fk at *
      go_wp2
      go_roundw
      case rel => exact ⟨k + 1, _, by omega, by go_num, rfl, trivial⟩
      case measure => simp [intOf]; omega
    · have e : k = n := by omega
      subst e
      go_wp2
      go_ret
      exact ⟨_, rfl, Nat.le_refl _, ⟨⟨0, _, Nat.zero_le _, Cur.new _ _ _ _⟩, HRD.out.below (below_alloc _ _), fun hz x e => Nat.ne_of_lt (HRD.out.blockLt hz x e), hn, HF.out⟩, below_alloc _ _⟩
end Go.Proofs.Ytlcamfkgkcjehaa
