import Derived.Test.YtocmbnocdjnfpaaQbI
import Derived.Test.YtocmbnocdjnfpaaConL
import Derived.Test.YtocmbnocdjnfpaaPpL
import Derived.Test.YtocmbnocdjnfpaaPiN
import Derived.Test.YtocmbnocdjnfpaaQbJ
import Derived.Test.YtocmbnocdjnfpaaNh2
import Derived.Test.YtocmbnocdjnfpaaQbD
import Derived.Lib.SmallJoins
import Derived.BigQuiet
import Derived.Test.YtocmbnocdjnfpaaNh1
import Derived.Deep.CutBlock
import Derived.Test.YtocmbnocdjnfpaaPpX
import Derived.Test.YtocmbnocdjnfpaaPnEq
import Derived.Deep.RegionHeld3
import Derived.Test.YtocmbnocdjnfpaaMarkB
import Derived.Test.YtocmbnocdjnfpaaEqByteS
import Derived.Test.YtocmbnocdjnfpaaToByteS
import Derived.Test.YtocmbnocdjnfpaaOpenBy
namespace Go.Proofs.Ytocmbnocdjnfpaa
open Go.RowKit Go.Deep
set_option linter.unusedVariables false
set_option linter.unusedSimpArgs false
set_option maxRecDepth 100000

theorem hx_nat : ∀ k, k < 256 → Lib.indexByte [48, 49, 50, 51, 52, 53, 54, 55, 56, 57, 97, 98, 99, 100, 101, 102] (k : Nat).toUInt8 = hxV (k : Int) := by decide
theorem hex_any (b : Int) (h0 : 0 ≤ b) (h1 : b < 256) (w : World) : Calls Try.prog 165 #[.string { data := #[48, 49, 50, 51, 52, 53, 54, 55, 56, 57, 97, 98, 99, 100, 101, 102] }, .int .u8 b] w fun e w' => e = .returned (.int .i64 (hxV b)) ∧ w' = w := by
  refine (Any.strings_IndexByte lays137 _ b w).mono ?_
  rintro e w' ⟨rfl, rfl⟩
  refine ⟨?_, rfl⟩
  congr 2
  have := hx_nat b.toNat (by omega)
  rw [show ((b.toNat : Nat) : Int) = b by omega] at this
  exact this

theorem or_nat : ∀ a, a < 16 → ∀ b, b < 16 → bits BinOp.or IntKind.i64 ((a : Nat) * 16 : Int) (b : Nat) % 256 = 16 * (a : Nat) + (b : Nat) := by decide
theorem or_hex {x y : Int} (h0 : 0 ≤ x) (h1 : x < 16) (h2 : 0 ≤ y) (h3 : y < 16) : bits BinOp.or IntKind.i64 (x * 16) y % 256 = 16 * x + y := by
  have := or_nat x.toNat (by omega) y.toNat (by omega)
  rw [show ((x.toNat : Nat) : Int) = x by omega, show ((y.toNat : Nat) : Int) = y by omega] at this
  exact this
/-- What readQuoted answers. -/
def pcO (f : Nat → Int) (n j : Nat) : Int × Nat := (pcB f n j).getD (0, 0)

set_option maxHeartbeats 2000000 in
theorem readQuoted_any (b off c n j : Nat) (f : Nat → Int) (w : World) (hj : j < n) (hn : n ≤ 2000) (hc : ∀ k, j + k < n → w.cell? ⟨b, off + k, none⟩ = some (.int .u8 (f (j + k)))) (hf : ∀ i, i < n → 0 ≤ f i ∧ f i < 256) :
    Calls Try.prog 148 #[.slice (some ⟨b, off, none⟩) (n - j) c] w fun e w' => e = .returned (.tuple #[.int .u8 (pcO f n j).1, .int .i64 ((pcO f n j).2 : Int)]) ∧ w' = w := by
  have HC : Hid (∀ k, j + k < n → w.cell? ⟨b, off + k, none⟩ = some (.int .u8 (f (j + k)))) := hc
  have HFB : Hid (∀ i, i < n → 0 ≤ f i ∧ f i < 256) := hf
  have c0 := hc 0 (by omega)
  rw [Nat.add_zero, Nat.add_zero] at c0
  obtain ⟨ln, hln⟩ : ∃ ln, ln = n - j := ⟨_, rfl⟩
  rw [← hln]
  have HLN : Hid (ln = n - j) := hln
  have l0 : (0 : Int) < (ln : Int) := by omega
  have l0' : 0 < ln := by omega
  clear hc hf
  obtain ⟨x, hx⟩ : ∃ x, x = f j := ⟨_, rfl⟩
  have HX : Hid (x = f j) := hx
  have hx0 : 0 ≤ x ∧ x < 256 := by rw [hx]; exact HFB.out j hj
  obtain ⟨hx0, hx1⟩ := hx0
  rw [← hx] at c0
  clear hx
  by_cases h92 : x = 92
  · subst h92
    have HX92 : Hid (f j = 92) := HX.out.symm
    by_cases hl2 : 2 ≤ ln
    · have i2 : (2 : Int) ≤ (ln : Int) := by omega
      have i1 : (1 : Int) < (ln : Int) := by omega
      have i1' : 1 < ln := by omega
      have d2 : decide ((2 : Int) ≤ (ln : Int)) = true := decide_eq_true i2
      have c1 := HC.out 1 (by omega)
      obtain ⟨y, hy⟩ : ∃ y, y = f (j + 1) := ⟨_, rfl⟩
      have HY : Hid (y = f (j + 1)) := hy
      rw [← hy] at c1
      clear hy
      by_cases hy34 : y = 34
      · subst hy34
        have HP : Hid (pcO f n j = (34, 2)) := by show _ = _; unfold pcO pcB; rw [HX92.out, if_pos rfl, ← HY.out, if_pos ⟨by omega, Or.inl rfl⟩]; rfl
        clear hln
        go_enter Try.func148, Try.ntmps148
        go_wp2
        refine bodyPost_ret (v := .tuple #[.int .u8 (34), .int .i64 2]) (by simp [results, Try.results148, go_sem]) rfl ⟨by rw [HP.out]; rfl, rfl⟩
      by_cases hy92 : y = 92
      · subst hy92
        have HP : Hid (pcO f n j = (92, 2)) := by show _ = _; unfold pcO pcB; rw [HX92.out, if_pos rfl, ← HY.out, if_pos ⟨by omega, Or.inr rfl⟩]; rfl
        clear hln
        go_enter Try.func148, Try.ntmps148
        go_wp2
        refine bodyPost_ret (v := .tuple #[.int .u8 (92), .int .i64 2]) (by simp [results, Try.results148, go_sem]) rfl ⟨by rw [HP.out]; rfl, rfl⟩
      have n34 : (y == 34) = false := by simp [hy34]
      have n92 : (y == 92) = false := by simp [hy92]
      by_cases hl4 : ln < 4
      · have i4 : (ln : Int) < 4 := by omega
        have HP : Hid (pcO f n j = (0, 0)) := by show _ = _; unfold pcO pcB; rw [HX92.out, if_pos rfl, ← HY.out, if_neg (by omega), if_neg (by omega)]; rfl
        clear hln
        go_enter Try.func148, Try.ntmps148
        go_wp2
        refine bodyPost_ret (v := .tuple #[.int .u8 (0), .int .i64 0]) (by simp [results, Try.results148, go_sem]) rfl ⟨by rw [HP.out]; rfl, rfl⟩
      have i4 : ¬ (ln : Int) < 4 := by omega
      by_cases h120 : y = 120
      · subst h120
        have c2 := HC.out 2 (by omega)
        have c3 := HC.out 3 (by omega)
        have j2 : (2 : Int) < (ln : Int) := by omega
        have j3 : (3 : Int) < (ln : Int) := by omega
        obtain ⟨y2, hy2⟩ : ∃ y, y = f (j + 2) := ⟨_, rfl⟩
        obtain ⟨y3, hy3⟩ : ∃ y, y = f (j + 3) := ⟨_, rfl⟩
        have HY2 : Hid (y2 = f (j + 2) ∧ y3 = f (j + 3)) := ⟨hy2, hy3⟩
        have HF2 : Hid (∀ W, Calls Try.prog 165 #[.string { data := #[48, 49, 50, 51, 52, 53, 54, 55, 56, 57, 97, 98, 99, 100, 101, 102] }, .int .u8 y2] W fun e w' => e = .returned (.int .i64 (hxV y2)) ∧ w' = W) := fun W => hex_any y2 (by rw [hy2]; exact (HFB.out _ (by omega)).1) (by rw [hy2]; exact (HFB.out _ (by omega)).2) W
        have HF3 : Hid (∀ W, Calls Try.prog 165 #[.string { data := #[48, 49, 50, 51, 52, 53, 54, 55, 56, 57, 97, 98, 99, 100, 101, 102] }, .int .u8 y3] W fun e w' => e = .returned (.int .i64 (hxV y3)) ∧ w' = W) := fun W => hex_any y3 (by rw [hy3]; exact (HFB.out _ (by omega)).1) (by rw [hy3]; exact (HFB.out _ (by omega)).2) W
        rw [← hy2] at c2
        rw [← hy3] at c3
        have g2 := hxV_lt y2
        have g3 := hxV_lt y3
        have HP : Hid (pcO f n j = if 0 ≤ hxV y2 ∧ 0 ≤ hxV y3 then (16 * hxV y2 + hxV y3, 4) else (0, 0)) := by
          show _ = _
          unfold pcO pcB
          rw [HX92.out, if_pos rfl, ← HY.out, if_neg (by omega), ← HY2.out.1, ← HY2.out.2]
          by_cases q : 0 ≤ hxV y2 ∧ 0 ≤ hxV y3
          · rw [if_pos ⟨by omega, rfl, q⟩, if_pos q]; rfl
          · rw [if_neg (fun e => q e.2.2), if_neg q]; rfl
        clear hln hy2 hy3
        generalize hxV y2 = z2 at *
        generalize hxV y3 = z3 at *
        go_enter Try.func148, Try.ntmps148
        go_wp2_with fail
        refine (HF2.out _).mono ?_
        rintro e w8 ⟨rfl, hw8⟩
        rw [hw8]
        clear hw8 w8
        go_wp2_with fail
        refine (HF3.out _).mono ?_
        rintro e w8 ⟨rfl, hw8⟩
        rw [hw8]
        clear hw8 w8
        by_cases q2 : z2 < 0
        · have HP2 : Hid (pcO f n j = (0, 0)) := by show _ = _; rw [HP.out, if_neg (by omega)]
          have dq : decide (z2 < 0) = true := decide_eq_true q2
          go_wp2
          refine bodyPost_ret (v := .tuple #[.int .u8 (0), .int .i64 0]) (by simp [results, Try.results148, go_sem]) rfl ⟨by rw [HP2.out]; rfl, rfl⟩
        have dq2 : decide (z2 < 0) = false := decide_eq_false q2
        by_cases q3 : z3 < 0
        · have HP2 : Hid (pcO f n j = (0, 0)) := by show _ = _; rw [HP.out, if_neg (by omega)]
          have dq : decide (z3 < 0) = true := decide_eq_true q3
          go_wp2
          refine bodyPost_ret (v := .tuple #[.int .u8 (0), .int .i64 0]) (by simp [results, Try.results148, go_sem]) rfl ⟨by rw [HP2.out]; rfl, rfl⟩
        have dq3 : decide (z3 < 0) = false := decide_eq_false q3
        have HP2 : Hid (pcO f n j = (16 * z2 + z3, 4)) := by show _ = _; rw [HP.out, if_pos (by omega)]
        go_wp2
        refine bodyPost_ret (v := .tuple #[.int .u8 (16 * z2 + z3), .int .i64 4]) (by simp [results, Try.results148, go_sem]; exact or_hex q2 g2 q3 g3) rfl ⟨by rw [HP2.out]; rfl, rfl⟩
      have n120 : (y == 120) = false := by simp [h120]
      have HP : Hid (pcO f n j = (0, 0)) := by show _ = _; unfold pcO pcB; rw [HX92.out, if_pos rfl, ← HY.out, if_neg (by omega), if_neg (by omega)]; rfl
      clear hln
      go_enter Try.func148, Try.ntmps148
      go_wp2
      refine bodyPost_ret (v := .tuple #[.int .u8 (0), .int .i64 0]) (by simp [results, Try.results148, go_sem]) rfl ⟨by rw [HP.out]; rfl, rfl⟩
    have i2 : ¬ (2 : Int) ≤ (ln : Int) := by omega
    have i4 : (ln : Int) < 4 := by omega
    have d2 : decide ((2 : Int) ≤ (ln : Int)) = false := decide_eq_false i2
    have HP : Hid (pcO f n j = (0, 0)) := by show _ = _; unfold pcO pcB; rw [HX92.out, if_pos rfl, if_neg (by omega), if_neg (by omega)]; rfl
    clear hln
    go_enter Try.func148, Try.ntmps148
    go_wp2
    refine bodyPost_ret (v := .tuple #[.int .u8 (0), .int .i64 0]) (by simp [results, Try.results148, go_sem]) rfl ⟨by rw [HP.out]; rfl, rfl⟩
  have n92 : (x == 92) = false := by simp [h92]
  obtain ⟨xn, hxn⟩ : ∃ xn : Nat, x = (xn : Int) := ⟨x.toNat, by omega⟩
  have HPl : Hid (∀ W, Calls Try.prog 128 #[.int .u8 x] W fun e w' => e = .returned (.bool (decide (32 ≤ x ∧ x ≤ 126))) ∧ w' = W) := fun W => by
    rw [hxn]
    refine (plain_any xn W).mono ?_
    rintro e w' ⟨rfl, rfl⟩
    refine ⟨?_, rfl⟩
    congr 2
    rw [decide_eq_decide]
    omega
  clear hxn
  clear hln
  go_enter Try.func148, Try.ntmps148
  go_wp2_with fail
  refine (HPl.out _).mono ?_
  rintro e w8 ⟨rfl, hw8⟩
  rw [hw8]
  clear hw8 w8
  by_cases h : 32 ≤ x ∧ x ≤ 126
  · have HP : Hid (pcO f n j = (x, 1)) := by show _ = _; unfold pcO pcB; rw [← HX.out, if_neg h92, if_pos h]; rfl
    rw [decide_eq_true h]
    go_wp2
    refine bodyPost_ret (v := .tuple #[.int .u8 (x), .int .i64 1]) (by simp [results, Try.results148, go_sem]) rfl ⟨by rw [HP.out]; rfl, rfl⟩
  · have HP : Hid (pcO f n j = (0, 0)) := by show _ = _; unfold pcO pcB; rw [← HX.out, if_neg h92, if_neg h]; rfl
    rw [decide_eq_false h]
    go_wp2
    refine bodyPost_ret (v := .tuple #[.int .u8 (0), .int .i64 0]) (by simp [results, Try.results148, go_sem]) rfl ⟨by rw [HP.out]; rfl, rfl⟩
end Go.Proofs.Ytocmbnocdjnfpaa

namespace Go.Proofs.Ytocmbnocdjnfpaa
open Go.RowKit Go.Deep
set_option linter.unusedVariables false
set_option linter.unusedSimpArgs false
set_option maxRecDepth 100000

/-- A token's kind, as the program has it. -/
def kdW (c : Nat) : ByteArray := if c = 0 then { data := #[110, 111, 110, 101] } else if c = 14 then { data := #[83, 84, 82] } else if c = 15 then { data := #[101, 110, 100, 32, 111, 102, 32, 116, 104, 101, 32, 116, 101, 120, 116] } else wdS c
/-- What nodeKind answers. -/
def nkF (q : List Int) : Nat := if q = [97, 108, 108] then 1 else if q = [118] then 2 else if q = [111, 117, 116] then 3 else if q = [105, 110] then 4 else if q = [104, 97, 115] then 5 else if q = [38] then 6 else if q = [124] then 7 else if q = [45] then 8 else if q = [103, 114, 97, 112, 104] then 9 else 0
theorem nodeKind_any (q : List Int) (hq : Byt q) (w : World) : Calls Try.prog 99 #[.string (strT q)] w fun e w' => e = .returned (.int .i64 (nkF q : Int)) ∧ w' = w := by
  by_cases h1 : q = [97, 108, 108]
  · subst h1
    show Calls Try.prog 99 #[.string { data := #[97, 108, 108] }] w _
    go_enter Try.func99, Try.ntmps99
    go_wp2
    go_ret
    exact ⟨rfl, rfl⟩
  by_cases h2 : q = [118]
  · subst h2
    show Calls Try.prog 99 #[.string { data := #[118] }] w _
    go_enter Try.func99, Try.ntmps99
    go_wp2
    go_ret
    exact ⟨rfl, rfl⟩
  by_cases h3 : q = [111, 117, 116]
  · subst h3
    show Calls Try.prog 99 #[.string { data := #[111, 117, 116] }] w _
    go_enter Try.func99, Try.ntmps99
    go_wp2
    go_ret
    exact ⟨rfl, rfl⟩
  by_cases h4 : q = [105, 110]
  · subst h4
    show Calls Try.prog 99 #[.string { data := #[105, 110] }] w _
    go_enter Try.func99, Try.ntmps99
    go_wp2
    go_ret
    exact ⟨rfl, rfl⟩
  by_cases h5 : q = [104, 97, 115]
  · subst h5
    show Calls Try.prog 99 #[.string { data := #[104, 97, 115] }] w _
    go_enter Try.func99, Try.ntmps99
    go_wp2
    go_ret
    exact ⟨rfl, rfl⟩
  by_cases h6 : q = [38]
  · subst h6
    show Calls Try.prog 99 #[.string { data := #[38] }] w _
    go_enter Try.func99, Try.ntmps99
    go_wp2
    go_ret
    exact ⟨rfl, rfl⟩
  by_cases h7 : q = [124]
  · subst h7
    show Calls Try.prog 99 #[.string { data := #[124] }] w _
    go_enter Try.func99, Try.ntmps99
    go_wp2
    go_ret
    exact ⟨rfl, rfl⟩
  by_cases h8 : q = [45]
  · subst h8
    show Calls Try.prog 99 #[.string { data := #[45] }] w _
    go_enter Try.func99, Try.ntmps99
    go_wp2
    go_ret
    exact ⟨rfl, rfl⟩
  by_cases h9 : q = [103, 114, 97, 112, 104]
  · subst h9
    show Calls Try.prog 99 #[.string { data := #[103, 114, 97, 112, 104] }] w _
    go_enter Try.func99, Try.ntmps99
    go_wp2
    go_ret
    exact ⟨rfl, rfl⟩
  have n1 : ¬ (strT q).toList = [97, 108, 108] := strT_nl hq (q := [97, 108, 108]) (byt_lit rfl) h1
  have n2 : ¬ (strT q).toList = [118] := strT_nl hq (q := [118]) (byt_lit rfl) h2
  have n3 : ¬ (strT q).toList = [111, 117, 116] := strT_nl hq (q := [111, 117, 116]) (byt_lit rfl) h3
  have n4 : ¬ (strT q).toList = [105, 110] := strT_nl hq (q := [105, 110]) (byt_lit rfl) h4
  have n5 : ¬ (strT q).toList = [104, 97, 115] := strT_nl hq (q := [104, 97, 115]) (byt_lit rfl) h5
  have n6 : ¬ (strT q).toList = [38] := strT_nl hq (q := [38]) (byt_lit rfl) h6
  have n7 : ¬ (strT q).toList = [124] := strT_nl hq (q := [124]) (byt_lit rfl) h7
  have n8 : ¬ (strT q).toList = [45] := strT_nl hq (q := [45]) (byt_lit rfl) h8
  have n9 : ¬ (strT q).toList = [103, 114, 97, 112, 104] := strT_nl hq (q := [103, 114, 97, 112, 104]) (byt_lit rfl) h9
  have HC : Hid (nkF q = 0) := by
    show _ = _
    unfold nkF
    rw [if_neg h1, if_neg h2, if_neg h3, if_neg h4, if_neg h5, if_neg h6, if_neg h7, if_neg h8, if_neg h9]
  generalize strT q = X at *
  clear h1 h2 h3 h4 h5 h6 h7 h8 h9 hq
  have m1 : (X.toList == [97, 108, 108]) = false := by simp [n1]
  have m2 : (X.toList == [118]) = false := by simp [n2]
  have m3 : (X.toList == [111, 117, 116]) = false := by simp [n3]
  have m4 : (X.toList == [105, 110]) = false := by simp [n4]
  have m5 : (X.toList == [104, 97, 115]) = false := by simp [n5]
  have m6 : (X.toList == [38]) = false := by simp [n6]
  have m7 : (X.toList == [124]) = false := by simp [n7]
  have m8 : (X.toList == [45]) = false := by simp [n8]
  have m9 : (X.toList == [103, 114, 97, 112, 104]) = false := by simp [n9]
  go_enter Try.func99, Try.ntmps99
  go_wp2
  go_ret
  exact ⟨by rw [HC.out]; rfl, rfl⟩
theorem con_no (x : UInt8) (t : List UInt8) (h1 : ¬ x = 46) (h2 : ¬ x = 40) (h3 : ¬ x = 41) (h4 : ¬ x = 44) : Lib.contains [46, 40, 41, 44] (x :: t) = false := by
  simp [Lib.contains, Lib.index, List.isPrefixOf, h1, h2, h3, h4]
theorem con_nat : ∀ k, k < 256 → decide (0 ≤ Lib.indexByte [46, 40, 41, 44] (UInt8.ofNat k)) = decide (k = 46 ∨ k = 40 ∨ k = 41 ∨ k = 44) := by decide
theorem u8_ne {x : Int} (h0 : 97 ≤ x) (h1 : x ≤ 122) : ∀ k : Nat, k < 97 → ¬ UInt8.ofNat x.toNat = UInt8.ofNat k := fun k hk e => by
  have := congrArg UInt8.toNat e
  rw [UInt8.toNat_ofNat', UInt8.toNat_ofNat'] at this
  omega
/-- Whether a word or a sign stands in a short text. -/
theorem con_any (q : List Int) (h : (∃ x, q = [x] ∧ 0 ≤ x ∧ x < 256) ∨ (∃ x t, q = x :: t ∧ 97 ≤ x ∧ x ≤ 122)) (w : World) (hm : ∃ m, w.cell? ⟨0, 0, none⟩ = some (.int .i64 m)) : Calls Try.prog 132 #[.string { data := #[46, 40, 41, 44] }, .string (strT q)] w fun e w' => e = .returned (.bool (decide (q = [46] ∨ q = [40] ∨ q = [41] ∨ q = [44]))) ∧ w' = w := by
  rcases h with ⟨x, rfl, h0, h1⟩ | ⟨x, t, rfl, h0, h1⟩
  · refine (Any.strings_Contains_one lays144 { data := #[46, 40, 41, 44] } (UInt8.ofNat x.toNat) w).mono ?_
    rintro e w' ⟨rfl, rfl⟩
    refine ⟨?_, rfl⟩
    have := con_nat x.toNat (by omega)
    show Ending.returned (.bool (decide (0 ≤ Lib.indexByte [46, 40, 41, 44] (UInt8.ofNat x.toNat)))) = _
    rw [this]
    congr 2
    rw [decide_eq_decide]
    constructor
    · rintro (e | e | e | e)
      · exact .inl (by rw [show x = 46 by omega])
      · exact .inr (.inl (by rw [show x = 40 by omega]))
      · exact .inr (.inr (.inl (by rw [show x = 41 by omega])))
      · exact .inr (.inr (.inr (by rw [show x = 44 by omega])))
    · rintro (e | e | e | e) <;> (injection e with e _; omega)
  · obtain ⟨m, hm⟩ := hm
    refine (Any.strings_Contains lays144 { data := #[46, 40, 41, 44] } (strT (x :: t)) m w (by decide) hm).mono ?_
    rintro e w' ⟨rfl, rfl⟩
    refine ⟨?_, rfl⟩
    have e1 : (strT (x :: t)).data.toList = UInt8.ofNat x.toNat :: t.map (fun x => UInt8.ofNat x.toNat) := by simp [strT]
    rw [e1]
    have := con_no (UInt8.ofNat x.toNat) (t.map (fun x => UInt8.ofNat x.toNat)) (u8_ne h0 h1 46 (by omega)) (u8_ne h0 h1 40 (by omega)) (u8_ne h0 h1 41 (by omega)) (u8_ne h0 h1 44 (by omega))
    show Ending.returned (.bool (Lib.contains [46, 40, 41, 44] _)) = _
    rw [this]
    congr 2
    symm
    rw [decide_eq_false_iff_not]
    rintro (e | e | e | e) <;> (injection e with e _; omega)

/-- A token, as readToken hands it back. -/
def tokV (t : Tok) (p : Nat) : Value := .tuple #[.string (kdW t.c), .string (strT t.q), .int .i64 ((t.e - p : Nat) : Int)]
def TRet (f : Nat → Int) (n p : Nat) (w : World) (e : Ending) (w' : World) : Prop := e = .returned (tokV (tkA f n p) p) ∧ Below w.heap.size w w'
theorem TRet.none {f : Nat → Int} {n p : Nat} {w w' : World} (h : tkA f n p = ⟨0, [], p⟩) (hb : Below w.heap.size w w') : TRet f n p w (.returned (.tuple #[.string { data := #[110, 111, 110, 101] }, .string { data := #[] }, .int .i64 0])) w' := by
  refine ⟨?_, hb⟩
  rw [h]
  unfold tokV
  rw [Nat.sub_self]
  rfl

theorem run_fr (b off n c t : Nat) (h1 : t < n) (h2 : n ≤ c) (hc : c ≤ 9223372036854775807) (w : World) : (Instr.sliceAt 33 (.slice (some ⟨b, off, none⟩) n c) (some (.int .i64 (t : Int))) none none).run Try.prog w = .ok (.slice (some ⟨b, off + t, none⟩) (n - t) (c - t)) w := by
  simp [Instr.sliceAt, Instr.slice, go_sem]
  have e1 : n ≤ c := h2
  have e2 : ¬ c = t := by omega
  have e3 : t ≤ n := by omega
  simp [e1, e2, e3, Addr.add]
set_option maxHeartbeats 4000000 in
theorem readString_any (b off c n p : Nat) (f : Nat → Int) (w : World) (hp : p < n) (hn : n ≤ 2000) (hnc : n - p ≤ c) (hcm : c ≤ 9223372036854775807) (hc : ∀ k, p + k < n → w.cell? ⟨b, off + k, none⟩ = some (.int .u8 (f (p + k)))) (hf : ∀ i, i < n → 0 ≤ f i ∧ f i < 256) (h34 : f p = 34) :
    Calls Try.prog 131 #[.slice (some ⟨b, off, none⟩) (n - p) c] w (TRet f n p w) := by
  have HC : Hid (∀ k, p + k < n → w.cell? ⟨b, off + k, none⟩ = some (.int .u8 (f (p + k)))) := hc
  have HFB : Hid (∀ i, i < n → 0 ≤ f i ∧ f i < 256) := hf
  have H34 : Hid (f p = 34) := h34
  obtain ⟨ln, hln⟩ : ∃ ln, ln = n - p := ⟨_, rfl⟩
  rw [← hln] at hnc ⊢
  have HLN : Hid (ln = n - p) := hln
  have hl1 : 1 ≤ ln := by omega
  have hl2 : ln ≤ 2000 := by omega
  clear hc hf h34 hln
  go_enter Try.func131, Try.ntmps131
  go_wp2
  go_loopw [5, 6] (fun u v wr => ∃ (t : Nat) (q : List Int), v = .int .i64 (t : Int) ∧ 1 ≤ t ∧ t ≤ ln ∧ quoF f n (p + 1) [] = quoF f n (p + t) q ∧ q.length ≤ t ∧ TxA wr w.heap.size u q.length q ∧ Below w.heap.size w wr) (fun _ v _ => ln - (intOf v).toNat)
  case atStart => exact ⟨1, [], rfl, Nat.le_refl _, hl1, rfl, Nat.zero_le _, ⟨rfl, .inl ⟨rfl, .inl ⟨rfl, rfl⟩⟩⟩, Below.refl _ _⟩
  case round =>
    obtain ⟨t, q, rfl, ht1, htl, hq, hql, hown, hbel⟩ := hrel
    have hsz := hbel.size
    have HB : Hid (Below w.heap.size w wr) := hbel
    have HO : Hid (TxA wr w.heap.size u5 q.length q ∧ quoF f n (p + 1) [] = quoF f n (p + t) q) := ⟨hown, hq⟩
    clear hown hbel hq
    have HCW : Hid (∀ W, Below w.heap.size w W → ∀ k, p + k < n → W.cell? ⟨b, off + k, none⟩ = some (.int .u8 (f (p + k)))) := fun W hW k hk => by
      rw [hW.cell (p := ⟨b, off + k, none⟩) (World.block_lt_of_cell? _ _ (HC.out k hk))]; exact HC.out k hk
    have END : Hid (∀ q', quoF f n (p + 1) [] = q' → tkA f n p = match q' with | none => ⟨0, [], p⟩ | some qk => ⟨14, qk.1, qk.2⟩) := fun q' e => by
      subst e
      cases e : quoF f n (p + 1) [] with
      | none => exact tkA_quo0 hp H34.out e
      | some qk => exact tkA_quo hp H34.out e
    by_cases hlt : t < ln
    · have it : (t : Int) < (ln : Int) := by omega
      have it0 : ¬ (t : Int) < 0 := by omega
      have it1 : (0 : Int) ≤ (t : Int) := by omega
      have htn : p + t < n := by have := HLN.out; omega
      have ct := HCW.out wr HB.out t htn
      obtain ⟨x, hx⟩ : ∃ x, x = f (p + t) := ⟨_, rfl⟩
      have HX : Hid (x = f (p + t)) := hx
      rw [← hx] at ct
      clear hx
      by_cases h34 : x = 34
      · subst h34
        obtain ⟨aq, cq, hu, hrd, _⟩ := HO.out.1.rd
        have HE : Hid (tkA f n p = if 1 ≤ q.length ∧ q.length ≤ 30 then ⟨14, q, p + t + 1⟩ else ⟨0, [], p⟩) := by
          show _ = _
          rw [END.out _ rfl, HO.out.2, quoF_end (by omega) (by rw [← HX.out]; exact fun e => e.2 rfl)]
          by_cases h : 1 ≤ q.length ∧ q.length ≤ 30
          · rw [if_pos ⟨htn, h⟩, if_pos h]
          · rw [if_neg (fun e => h e.2), if_neg h]
        have cv1 := conv_T (w := wr) q.length cq rfl hrd
        have cv2 : ∀ k, (convert 33 9 (.slice aq q.length cq)).run Try.prog (wr.drewN k) = .ok (.string (strT q)) (wr.drewN k) := fun k => conv_T (w := wr.drewN k) q.length cq rfl hrd
        have HTX : Hid (∀ W, Calls Try.prog 124 #[.string (strT q)] W fun e w' => e = .returned (.bool (decide (1 ≤ q.length ∧ q.length ≤ 30))) ∧ w' = W) := fun W => by
          rw [← txS_T]
          exact isTxt_any _ W
        have HSS : Hid (∃ Y, Y = strT q) := ⟨_, rfl⟩
        obtain ⟨Y, hY⟩ := HSS.out
        have HYY : Hid (Y = strT q) := hY
        rw [← hY] at cv1 cv2 HTX
        clear hrd hY HSS
        obtain rfl : u5 = .slice aq q.length cq := hu
        obtain ⟨N, hN⟩ : ∃ N, N = q.length := ⟨_, rfl⟩
        have HN : Hid (N = q.length) := hN
        rw [← hN] at cv1 cv2 ⊢
        clear hN
        have itn : ((t : Int) == (ln : Int)) = false := by simp; omega
        have itn' : ¬ (t : Int) = (ln : Int) := by omega
        have itn'' : ¬ t = ln := by omega
        have e1 : IntKind.i64.wrap ((t : Int) + 1) = (t : Int) + 1 := by rw [IntKind.wrap_i64]; omega
        go_wp2_with fail
        refine (HTX.out _).mono ?_
        rintro e w8 ⟨rfl, hw8⟩
        rw [hw8]
        clear hw8 w8
        by_cases h : 1 ≤ q.length ∧ q.length ≤ 30
        · rw [decide_eq_true h]
          have HE2 : Hid (tkA f n p = ⟨14, q, p + t + 1⟩) := by show _ = _; rw [HE.out, if_pos h]
          clear h
          go_wp2_with fail
          go_quiet (fail)
          go_wp2
          refine bodyPost_ret (v := .tuple #[.string { data := #[83, 84, 82] }, .string Y, .int .i64 ((t : Int) + 1)]) (by simp [results, Try.results131, go_sem]) rfl ⟨?_, below_drewN HB.out _⟩
          rw [HE2.out, HYY.out]
          unfold tokV
          rw [show p + t + 1 - p = t + 1 by omega]
          rfl
        · rw [decide_eq_false h]
          have HE2 : Hid (tkA f n p = ⟨0, [], p⟩) := by show _ = _; rw [HE.out, if_neg h]
          clear h
          go_wp2
          refine bodyPost_ret (v := .tuple #[.string { data := #[110, 111, 110, 101] }, .string { data := #[] }, .int .i64 0]) (by simp [results, Try.results131, go_sem]) rfl (TRet.none HE2.out HB.out)
      have n34 : (x == 34) = false := by simp [h34]
      have HQ : Hid (∀ W, Below w.heap.size w W → Calls Try.prog 148 #[.slice (some ⟨b, off + t, none⟩) (ln - t) (c - t)] W fun e w' => e = .returned (.tuple #[.int .u8 (pcO f n (p + t)).1, .int .i64 ((pcO f n (p + t)).2 : Int)]) ∧ w' = W) := fun W hW => by
        have := readQuoted_any b (off + t) (c - t) n (p + t) f W htn hn (fun k hk => by rw [Nat.add_assoc, Nat.add_assoc]; exact HCW.out W hW (t + k) (by omega)) HFB.out
        rw [show n - (p + t) = ln - t by have := HLN.out; omega] at this
        exact this
      have sl := run_fr b off ln c t hlt hnc hcm
      obtain ⟨lt, hlt'⟩ : ∃ lt, lt = ln - t := ⟨_, rfl⟩
      obtain ⟨cp, hcp⟩ : ∃ cp, cp = c - t := ⟨_, rfl⟩
      rw [← hlt', ← hcp] at HQ sl
      clear hlt' hcp
      go_wp2_with fail
      refine (HQ.out _ HB.out).mono ?_
      rintro e w8 ⟨rfl, hw8⟩
      rw [hw8]
      clear hw8 w8 HQ
      cases hpc : pcB f n (p + t) with
      | none =>
        have HE2 : Hid (tkA f n p = ⟨0, [], p⟩) := by show _ = _; rw [END.out _ rfl, HO.out.2, quoF_bad htn (by rw [← HX.out]; exact h34) hpc]
        have e0 : (pcO f n (p + t)).1 = 0 ∧ (pcO f n (p + t)).2 = 0 := by unfold pcO; rw [hpc]; exact ⟨rfl, rfl⟩
        rw [e0.1, e0.2]
        clear hpc e0
        go_wp2
        refine bodyPost_ret (v := .tuple #[.string { data := #[110, 111, 110, 101] }, .string { data := #[] }, .int .i64 0]) (by simp [results, Try.results131, go_sem]) rfl (TRet.none HE2.out HB.out)
      | some cl =>
        obtain ⟨y, l⟩ := cl
        have hpos := pcB_pos hpc htn
        have HGO : Hid (quoF f n (p + 1) [] = quoF f n (p + t + l) (q ++ [y])) := by show _ = _; rw [HO.out.2]; exact quoF_go htn (by rw [← HX.out]; exact h34) hpc
        have e0 : (pcO f n (p + t)).1 = y ∧ (pcO f n (p + t)).2 = l := by unfold pcO; rw [hpc]; exact ⟨rfl, rfl⟩
        rw [e0.1, e0.2]
        obtain ⟨t2, ht2⟩ : ∃ t2, t2 = t + l := ⟨_, rfl⟩
        have HT2 : Hid (t2 = t + l) := ht2
        have e2 : IntKind.i64.wrap ((t : Int) + (l : Int)) = (t2 : Int) := by rw [IntKind.wrap_i64]; omega
        have HL0 : Hid (0 < l ∧ p + t + l ≤ n) := hpos
        have l0 : ((l : Int) == 0) = false := by simp; omega
        have l0' : ¬ (l : Int) = 0 := by omega
        have l0'' : ¬ l = 0 := by omega
        clear hpc e0 ht2 hpos
        go_wp2_with (at_builtin; refine app_b rfl _ _ rfl w.heap.size _ q.length q rfl (HO.out.1.below (below_alloc _ _)) ⟨wr.heap.size, 0, none⟩ 1 1 [y] rfl rfl (by omega) (new_cells _ [.int .u8 y] _) (by omega) (by simp; omega) ?_)
        intro v' wq hown' hgrow
        have HX2 : Hid (TxA wq w.heap.size v' (q.length + 1) (q ++ [y]) ∧ Below w.heap.size w wq) := ⟨hown', (HB.out.alloc hsz _).trans hgrow⟩
        clear hown' hgrow
        go_wp2
        go_roundw
        case rel =>
          have h1 := HL0.out
          have h2 := HT2.out
          have h3 := HLN.out
          refine ⟨t2, q ++ [y], rfl, by omega, by omega, ?_, by rw [List.length_append, List.length_singleton]; omega, ?_, HX2.out.2⟩
          · rw [HGO.out, h2, Nat.add_assoc]
          · rw [List.length_append]
            exact HX2.out.1
        case measure => have := HT2.out; have := HL0.out; simp [intOf]; omega
    have it : ¬ (t : Int) < (ln : Int) := by omega
    have HTE : Hid (t = ln) := by show _ = _; omega
    have HE2 : Hid (tkA f n p = ⟨0, [], p⟩) := by
      show _ = _
      have h1 := HTE.out
      have h2 := HLN.out
      rw [END.out _ rfl, HO.out.2, quoF_end (by omega) (fun e => by omega), if_neg (by omega)]
    have itn : ((t : Int) == (ln : Int)) = true := by simp; omega
    clear htl hlt
    have et : (ln : Int) = (t : Int) := by have := HTE.out; omega
    go_wp2
    refine bodyPost_ret (v := .tuple #[.string { data := #[110, 111, 110, 101] }, .string { data := #[] }, .int .i64 0]) (by simp [results, Try.results131, go_sem]) rfl (TRet.none HE2.out HB.out)
end Go.Proofs.Ytocmbnocdjnfpaa

namespace Go.Proofs.Ytocmbnocdjnfpaa
open Go.RowKit Go.Deep
set_option linter.unusedVariables false
set_option linter.unusedSimpArgs false
set_option maxRecDepth 100000

theorem run_to (b off n c t : Nat) (h1 : t ≤ c) (hc : c ≤ 9223372036854775807) (w : World) : (Instr.sliceAt 33 (.slice (some ⟨b, off, none⟩) n c) none (some (.int .i64 (t : Int))) none).run Try.prog w = .ok (.slice (some ⟨b, off, none⟩) t c) w := by
  simp [Instr.sliceAt, Instr.slice, go_sem]
  intro h
  omega
theorem nk_sym {x : Int} (hx : ¬ (97 ≤ x ∧ x ≤ 122)) : (nkF [x] = 0 ∧ ¬ (([x] : List Int) = [46] ∨ ([x] : List Int) = [40] ∨ ([x] : List Int) = [41] ∨ ([x] : List Int) = [44])) ↔ cdS x = 0 := by
  have e1 : ∀ k : Int, ([x] : List Int) = [k] ↔ x = k := fun k => by simp
  unfold nkF cdS
  have n1 : ¬ ([x] : List Int) = [97, 108, 108] := by simp
  have n2 : ¬ ([x] : List Int) = [118] := by simp; omega
  have n3 : ¬ ([x] : List Int) = [111, 117, 116] := by simp
  have n4 : ¬ ([x] : List Int) = [105, 110] := by simp
  have n5 : ¬ ([x] : List Int) = [104, 97, 115] := by simp
  have n9 : ¬ ([x] : List Int) = [103, 114, 97, 112, 104] := by simp
  rw [if_neg n1, if_neg n2, if_neg n3, if_neg n4, if_neg n5, if_neg n9]
  by_cases h1 : x = 38
  · subst h1; decide
  by_cases h2 : x = 124
  · subst h2; decide
  by_cases h3 : x = 45
  · subst h3; decide
  rw [if_neg (by simp; exact h1), if_neg (by simp; exact h2), if_neg (by simp; exact h3), if_neg h1, if_neg h2, if_neg h3]
  constructor
  · rintro ⟨_, h⟩
    rw [if_neg (fun e => h (.inl (by rw [e]))), if_neg (fun e => h (.inr (.inl (by rw [e])))), if_neg (fun e => h (.inr (.inr (.inl (by rw [e]))))), if_neg (fun e => h (.inr (.inr (.inr (by rw [e])))))]
  · intro h
    refine ⟨rfl, ?_⟩
    rintro (e | e | e | e) <;> (have e' := (e1 _).1 e; subst e'; exact absurd h (by decide))
theorem nk_word {q : List Int} (x : Int) (t : List Int) (e : q = x :: t) (hx : 97 ≤ x ∧ x ≤ 122) : nkF q = cdW q ∧ ¬ (q = [46] ∨ q = [40] ∨ q = [41] ∨ q = [44]) := by
  have hd : ∀ k : Int, k < 97 ∨ 122 < k → ¬ q = [k] := fun k hk e2 => by
    rw [e] at e2
    injection e2 with e2 _
    omega
  refine ⟨?_, ?_⟩
  · unfold nkF cdW
    by_cases h1 : q = [97, 108, 108]
    · rw [if_pos h1, if_pos h1]
    by_cases h2 : q = [118]
    · rw [if_neg h1, if_pos h2, if_neg h1, if_pos h2]
    by_cases h3 : q = [111, 117, 116]
    · rw [if_neg h1, if_neg h2, if_pos h3, if_neg h1, if_neg h2, if_pos h3]
    by_cases h4 : q = [105, 110]
    · rw [if_neg h1, if_neg h2, if_neg h3, if_pos h4, if_neg h1, if_neg h2, if_neg h3, if_pos h4]
    by_cases h5 : q = [104, 97, 115]
    · rw [if_neg h1, if_neg h2, if_neg h3, if_neg h4, if_pos h5, if_neg h1, if_neg h2, if_neg h3, if_neg h4, if_pos h5]
    rw [if_neg h1, if_neg h2, if_neg h3, if_neg h4, if_neg h5, if_neg (hd 38 (by omega)), if_neg (hd 124 (by omega)), if_neg (hd 45 (by omega)), if_neg h1, if_neg h2, if_neg h3, if_neg h4, if_neg h5]
  · rintro (h | h | h | h)
    · exact hd 46 (by omega) h
    · exact hd 40 (by omega) h
    · exact hd 41 (by omega) h
    · exact hd 44 (by omega) h
theorem cdS_kd {x : Int} (h : cdS x ≠ 0) : kdW (cdS x) = strT [x] := by
  rcases cdS_ne h with rfl | rfl | rfl | rfl | rfl | rfl | rfl <;> rfl
theorem cdW_kS {q : List Int} (h : cdW q ≠ 0) : kdW (cdW q) = strT q := by
  obtain ⟨_, h2, h3, h4⟩ := cdW_kd h
  unfold kdW
  rw [if_neg h, if_neg h3, if_neg h4, h2]
theorem seg_cons {f : Nat → Int} {p e : Nat} (h : p < e) : seg f p e = f p :: seg f (p + 1) e := by
  unfold seg
  rw [show e - p = (e - (p + 1)) + 1 by omega, List.range_succ_eq_map]
  simp
  intro a _
  rw [show p + (a + 1) = p + 1 + a by omega]
theorem endF_stay {p : Int → Bool} {f : Nat → Int} {n j : Nat} (h : endF p f n j = j) : ¬ (j < n ∧ p (f j) = true) := by
  have := endF_end (p := p) (f := f) (n := n) (n - j) j (Nat.le_refl _)
  rw [h] at this
  exact this

theorem readToken_end (a : Option Addr) (c n p : Nat) (f : Nat → Int) (w : World) (hp : n ≤ p) : Calls Try.prog 96 #[.slice a 0 c] w (TRet f n p w) := by
  have HE : Hid (TRet f n p w (.returned (.tuple #[.string { data := #[101, 110, 100, 32, 111, 102, 32, 116, 104, 101, 32, 116, 101, 120, 116] }, .string { data := #[] }, .int .i64 0])) w) := by
    refine ⟨?_, Below.refl _ _⟩
    rw [tkA_end hp]
    unfold tokV
    rw [Nat.sub_self]
    rfl
  go_enter Try.func96, Try.ntmps96
  go_wp2
  refine bodyPost_ret (v := .tuple #[.string { data := #[101, 110, 100, 32, 111, 102, 32, 116, 104, 101, 32, 116, 101, 120, 116] }, .string { data := #[] }, .int .i64 0]) (by simp [results, Try.results96, go_sem]) rfl HE.out

set_option maxHeartbeats 4000000 in
theorem readToken_any (b off c n p : Nat) (f : Nat → Int) (w : World) (hp : p < n) (hn : n ≤ 2000) (hnc : n - p ≤ c) (hcm : c ≤ 9223372036854775807) (hc : ∀ k, p + k < n → w.cell? ⟨b, off + k, none⟩ = some (.int .u8 (f (p + k)))) (hf : ∀ i, i < n → 0 ≤ f i ∧ f i < 256) (hm : ∃ m, w.cell? ⟨0, 0, none⟩ = some (.int .i64 m)) :
    Calls Try.prog 96 #[.slice (some ⟨b, off, none⟩) (n - p) c] w (TRet f n p w) := by
  have HS : Hid (f p = 34 → Calls Try.prog 131 #[.slice (some ⟨b, off, none⟩) (n - p) c] w (TRet f n p w)) := fun h => readString_any b off c n p f w hp hn hnc hcm hc hf h
  have HC : Hid (∀ k, p + k < n → w.cell? ⟨b, off + k, none⟩ = some (.int .u8 (f (p + k)))) := hc
  have HFB : Hid (∀ i, i < n → 0 ≤ f i ∧ f i < 256) := hf
  have HM : Hid (∃ m, w.cell? ⟨0, 0, none⟩ = some (.int .i64 m)) := hm
  have c0 := hc 0 (by omega)
  rw [Nat.add_zero, Nat.add_zero] at c0
  obtain ⟨ln, hln⟩ : ∃ ln, ln = n - p := ⟨_, rfl⟩
  rw [← hln] at hnc HS ⊢
  have HLN : Hid (ln = n - p) := hln
  have l0 : (0 : Int) < (ln : Int) := by omega
  have l0' : 0 < ln := by omega
  have l1 : ¬ (ln : Int) = 0 := by omega
  have l1' : ¬ ln = 0 := by omega
  have l2 : ((ln : Int) == 0) = false := by simp; omega
  have hl2 : ln ≤ 2000 := by omega
  clear hc hf hm hln
  obtain ⟨x, hx⟩ : ∃ x, x = f p := ⟨_, rfl⟩
  have HX : Hid (x = f p) := hx
  have hx0 : 0 ≤ x ∧ x < 256 := by rw [hx]; exact HFB.out p hp
  obtain ⟨hx0, hx1⟩ := hx0
  rw [← hx] at c0
  clear hx
  by_cases h34 : x = 34
  · subst h34
    have HS2 : Hid (Calls Try.prog 131 #[.slice (some ⟨b, off, none⟩) ln c] w (TRet f n p w)) := HS.out HX.out.symm
    clear HS
    go_enter Try.func96, Try.ntmps96
    go_wp2_with fail
    refine HS2.out.mono ?_
    rintro e w1 ⟨rfl, hb⟩
    have HB : Hid (Below w.heap.size w w1) := hb
    clear hb HS2
    unfold tokV
    go_wp2
    refine bodyPost_ret (v := tokV (tkA f n p) p) (by simp [tokV, results, Try.results96, go_sem]) rfl ⟨rfl, HB.out⟩
  have n34 : (x == 34) = false := by simp [h34]
  clear HS
  go_enter Try.func96, Try.ntmps96
  go_wp2
  go_loopw [5] (fun v wr => ∃ t : Nat, v = .int .i64 (t : Int) ∧ t ≤ ln ∧ endF isLt f n p = endF isLt f n (p + t) ∧ wr = w) (fun v _ => ln - (intOf v).toNat)
  case atStart => exact ⟨0, rfl, Nat.zero_le _, rfl, rfl⟩
  case round =>
    obtain ⟨t, rfl, htl, hte, hw⟩ := hrel
    subst hw
    have it0 : ¬ (t : Int) < 0 := by omega
    have it1 : (0 : Int) ≤ (t : Int) := by omega
    have REST : endF isLt f n (p + t) = p + t → Hid (∃ t1 q, t1 = max t 1 ∧ t1 ≤ ln ∧ q = seg f p (p + t1) ∧ Byt q ∧ ((∃ x, q = [x] ∧ 0 ≤ x ∧ x < 256) ∨ (∃ x t, q = x :: t ∧ 97 ≤ x ∧ x ≤ 122)) ∧ q.length = t1 ∧
        (tkA f n p = ⟨0, [], p⟩ ∧ nkF q = 0 ∧ ¬ (q = [46] ∨ q = [40] ∨ q = [41] ∨ q = [44]) ∨ tokV (tkA f n p) p = .tuple #[.string (strT q), .string { data := #[] }, .int .i64 (t1 : Int)] ∧ ¬ (nkF q = 0 ∧ ¬ (q = [46] ∨ q = [40] ∨ q = [41] ∨ q = [44])))) := fun he => by
      have hln := HLN.out
      have hj : endF isLt f n p = p + t := by rw [hte, he]
      by_cases ht : t = 0
      · subst ht
        rw [Nat.add_zero] at hj
        have hns := endF_stay hj
        have hnl : ¬ (97 ≤ f p ∧ f p ≤ 122) := fun e => hns ⟨hp, (isLt_iff _).2 e⟩
        have es : seg f p (p + 1) = [f p] := by unfold seg; rw [show p + 1 - p = 1 by omega]; simp
        refine ⟨1, [f p], rfl, by omega, es.symm, ?_, .inl ⟨f p, rfl, HFB.out p hp⟩, rfl, ?_⟩
        · rw [← es]; exact seg_byt HFB.out (by omega)
        · by_cases h0 : cdS (f p) = 0
          · exact .inl ⟨tkA_sym0 hp (by rw [← HX.out]; exact h34) hnl h0, (nk_sym hnl).2 h0⟩
          · refine .inr ⟨?_, fun e => h0 ((nk_sym hnl).1 e)⟩
            rw [tkA_sym hp (by rw [← HX.out]; exact h34) hnl h0]
            unfold tokV
            show Value.tuple #[.string (kdW (cdS (f p))), .string (strT []), .int .i64 ((p + 1 - p : Nat) : Int)] = _
            rw [cdS_kd h0, show p + 1 - p = 1 by omega]
            rfl
      · have hlp : 97 ≤ f p ∧ f p ≤ 122 := by
          have := endF_all (p := isLt) (f := f) (n := n) (n - p) p (Nat.le_refl _) p (Nat.le_refl _) (by omega)
          exact (isLt_iff _).1 this
        have ec := seg_cons (f := f) (p := p) (e := p + t) (by omega)
        obtain ⟨k1, k2⟩ := nk_word _ _ ec hlp
        refine ⟨t, seg f p (p + t), by omega, htl, rfl, seg_byt HFB.out (by omega), .inr ⟨_, _, ec, hlp⟩, by rw [seg_length]; omega, ?_⟩
        by_cases h0 : cdW (seg f p (p + t)) = 0
        · exact .inl ⟨tkA_word0 hp hlp (by rw [hj]; exact h0), by rw [k1]; exact h0, k2⟩
        · refine .inr ⟨?_, fun e => h0 (by rw [← k1]; exact e.1)⟩
          rw [tkA_word hp hlp (by rw [hj]; exact h0), hj]
          unfold tokV
          show Value.tuple #[.string (kdW (cdW (seg f p (p + t)))), .string (strT []), .int .i64 ((p + t - p : Nat) : Int)] = _
          rw [cdW_kS h0, show p + t - p = t by omega]
          rfl
    have GO : Hid (∀ he : endF isLt f n (p + t) = p + t, ∃ t1 q, t1 = max t 1 ∧ t1 ≤ ln ∧ q.length = t1 ∧ (∀ W, W = wr → (convert 33 9 (.slice (some ⟨b, off, none⟩) t1 c)).run Try.prog W = .ok (.string (strT q)) W) ∧ (∀ W, Calls Try.prog 99 #[.string (strT q)] W fun e w' => e = .returned (.int .i64 (nkF q : Int)) ∧ w' = W) ∧ (Calls Try.prog 132 #[.string { data := #[46, 40, 41, 44] }, .string (strT q)] wr fun e w' => e = .returned (.bool (decide (q = [46] ∨ q = [40] ∨ q = [41] ∨ q = [44]))) ∧ w' = wr) ∧
        (tkA f n p = ⟨0, [], p⟩ ∧ nkF q = 0 ∧ ¬ (q = [46] ∨ q = [40] ∨ q = [41] ∨ q = [44]) ∨ tokV (tkA f n p) p = .tuple #[.string (strT q), .string { data := #[] }, .int .i64 (t1 : Int)] ∧ ¬ (nkF q = 0 ∧ ¬ (q = [46] ∨ q = [40] ∨ q = [41] ∨ q = [44])))) := fun he => by
      obtain ⟨t1, q, h1, h2, h3, h4, h5, h6, h7⟩ := (REST he).out
      have hln := HLN.out
      refine ⟨t1, q, h1, h2, h6, fun W hW => ?_, fun W => nodeKind_any q h4 W, con_any q h5 wr HM.out, h7⟩
      subst hW
      refine conv_T t1 c h6.symm (.inr ⟨b, off, rfl, fun k hk => ?_⟩)
      rw [h3, seg_lf f p (p + t1) k (by omega)]
      exact HC.out k (by omega)
    clear REST
    by_cases hlt : t < ln
    · have it : (t : Int) < (ln : Int) := by omega
      have ct := HC.out t (by have := HLN.out; omega)
      obtain ⟨y, hy⟩ : ∃ y, y = f (p + t) := ⟨_, rfl⟩
      have HY : Hid (y = f (p + t)) := hy
      rw [← hy] at ct
      clear hy
      by_cases y97 : 97 ≤ y
      · by_cases y122 : y ≤ 122
        · obtain ⟨t1, ht1⟩ : ∃ t1, t1 = t + 1 := ⟨_, rfl⟩
          have w2 : IntKind.i64.wrap ((t : Int) + 1) = (t1 : Int) := by rw [IntKind.wrap_i64]; omega
          have HJ1 : Hid (t1 = t + 1) := ht1
          have HR2 : Hid (endF isLt f n p = endF isLt f n (p + t1)) := by
            show _ = _
            rw [hte, ht1, ← Nat.add_assoc]
            exact endF_go (by have := HLN.out; omega) ((isLt_iff _).2 (by rw [← HY.out]; exact ⟨y97, y122⟩))
          clear ht1 hte GO
          go_wp2
          go_roundw
          case rel => exact ⟨t1, rfl, by have := HJ1.out; omega, HR2.out, trivial⟩
          case measure => have := HJ1.out; simp [intOf]; omega
        have d122 : decide (y ≤ 122) = false := decide_eq_false y122
        obtain ⟨t1, q, ht1, ht1l, hql, cv0, nk, con, h7⟩ := GO.out (endF_stop (fun e => y122 (by rw [HY.out]; exact ((isLt_iff _).1 e.2).2)))
        have cv := cv0 _ rfl
        have sl := run_to b off ln c t1 (by omega) hcm
        have hmx : max (t : Int) 1 = (t1 : Int) := by omega
        have HNK : Hid (∀ W, Calls Try.prog 99 #[.string (strT q)] W fun e w' => e = .returned (.int .i64 (nkF q : Int)) ∧ w' = W) := nk
        have HCON : Hid (Calls Try.prog 132 #[.string { data := #[46, 40, 41, 44] }, .string (strT q)] wr fun e w' => e = .returned (.bool (decide (q = [46] ∨ q = [40] ∨ q = [41] ∨ q = [44]))) ∧ w' = wr) := con
        have H7 : Hid (tkA f n p = ⟨0, [], p⟩ ∧ nkF q = 0 ∧ ¬ (q = [46] ∨ q = [40] ∨ q = [41] ∨ q = [44]) ∨ tokV (tkA f n p) p = .tuple #[.string (strT q), .string { data := #[] }, .int .i64 (t1 : Int)] ∧ ¬ (nkF q = 0 ∧ ¬ (q = [46] ∨ q = [40] ∨ q = [41] ∨ q = [44]))) := h7
        have hXs : (strT q).size = t1 := by rw [strT_size]; exact hql
        clear cv0 nk con h7 GO hql ht1
        generalize strT q = X at *
        go_wp2_with fail
        refine (HNK.out _).mono ?_
        rintro e w8 ⟨rfl, hw8⟩
        rw [hw8]
        clear hw8 w8 HNK
        by_cases hk0 : nkF q = 0
        · have k1 : ((nkF q : Nat) : Int) = 0 := by omega
          have HK0 : Hid (nkF q = 0) := hk0
          rw [k1]
          clear hk0 k1
          go_wp2_with fail
          refine HCON.out.mono ?_
          rintro e w8 ⟨rfl, hw8⟩
          rw [hw8]
          clear hw8 w8 HCON
          by_cases hcn : q = [46] ∨ q = [40] ∨ q = [41] ∨ q = [44]
          · have HV : Hid (tokV (tkA f n p) p = .tuple #[.string X, .string { data := #[] }, .int .i64 (t1 : Int)]) := by
              rcases H7.out with ⟨_, _, h⟩ | ⟨h, _⟩
              · exact absurd hcn h
              · exact h
            rw [decide_eq_true hcn]
            clear hcn
            go_wp2
            refine bodyPost_ret (v := .tuple #[.string X, .string { data := #[] }, .int .i64 (t1 : Int)]) (by simp [results, Try.results96, go_sem, hXs]) rfl ⟨by rw [HV.out], Below.refl _ _⟩
          · have HV : Hid (tkA f n p = ⟨0, [], p⟩) := by
              rcases H7.out with ⟨h, _⟩ | ⟨_, h⟩
              · exact h
              · exact absurd ⟨HK0.out, hcn⟩ h
            rw [decide_eq_false hcn]
            clear hcn
            go_wp2
            refine bodyPost_ret (v := .tuple #[.string { data := #[110, 111, 110, 101] }, .string { data := #[] }, .int .i64 0]) (by simp [results, Try.results96, go_sem]) rfl (TRet.none HV.out (Below.refl _ _))
        · have HV : Hid (tokV (tkA f n p) p = .tuple #[.string X, .string { data := #[] }, .int .i64 (t1 : Int)]) := by
            rcases H7.out with ⟨_, h, _⟩ | ⟨h, _⟩
            · exact absurd h hk0
            · exact h
          obtain ⟨kk, hkk⟩ : ∃ kk, kk = nkF q := ⟨_, rfl⟩
          rw [← hkk] at hk0 ⊢
          have k0 : ((kk : Int) == 0) = false := by simp; exact hk0
          have k0' : ¬ (kk : Int) = 0 := by omega
          clear hkk H7 HCON
          go_wp2
          refine bodyPost_ret (v := .tuple #[.string X, .string { data := #[] }, .int .i64 (t1 : Int)]) (by simp [results, Try.results96, go_sem, hXs]) rfl ⟨by rw [HV.out], Below.refl _ _⟩
      have d97 : decide (97 ≤ y) = false := decide_eq_false y97
      obtain ⟨t1, q, ht1, ht1l, hql, cv0, nk, con, h7⟩ := GO.out (endF_stop (fun e => y97 (by rw [HY.out]; exact ((isLt_iff _).1 e.2).1)))
      have cv := cv0 _ rfl
      have sl := run_to b off ln c t1 (by omega) hcm
      have hmx : max (t : Int) 1 = (t1 : Int) := by omega
      have HNK : Hid (∀ W, Calls Try.prog 99 #[.string (strT q)] W fun e w' => e = .returned (.int .i64 (nkF q : Int)) ∧ w' = W) := nk
      have HCON : Hid (Calls Try.prog 132 #[.string { data := #[46, 40, 41, 44] }, .string (strT q)] wr fun e w' => e = .returned (.bool (decide (q = [46] ∨ q = [40] ∨ q = [41] ∨ q = [44]))) ∧ w' = wr) := con
      have H7 : Hid (tkA f n p = ⟨0, [], p⟩ ∧ nkF q = 0 ∧ ¬ (q = [46] ∨ q = [40] ∨ q = [41] ∨ q = [44]) ∨ tokV (tkA f n p) p = .tuple #[.string (strT q), .string { data := #[] }, .int .i64 (t1 : Int)] ∧ ¬ (nkF q = 0 ∧ ¬ (q = [46] ∨ q = [40] ∨ q = [41] ∨ q = [44]))) := h7
      have hXs : (strT q).size = t1 := by rw [strT_size]; exact hql
      clear cv0 nk con h7 GO hql ht1
      generalize strT q = X at *
      go_wp2_with fail
      refine (HNK.out _).mono ?_
      rintro e w8 ⟨rfl, hw8⟩
      rw [hw8]
      clear hw8 w8 HNK
      by_cases hk0 : nkF q = 0
      · have k1 : ((nkF q : Nat) : Int) = 0 := by omega
        have HK0 : Hid (nkF q = 0) := hk0
        rw [k1]
        clear hk0 k1
        go_wp2_with fail
        refine HCON.out.mono ?_
        rintro e w8 ⟨rfl, hw8⟩
        rw [hw8]
        clear hw8 w8 HCON
        by_cases hcn : q = [46] ∨ q = [40] ∨ q = [41] ∨ q = [44]
        · have HV : Hid (tokV (tkA f n p) p = .tuple #[.string X, .string { data := #[] }, .int .i64 (t1 : Int)]) := by
            rcases H7.out with ⟨_, _, h⟩ | ⟨h, _⟩
            · exact absurd hcn h
            · exact h
          rw [decide_eq_true hcn]
          clear hcn
          go_wp2
          refine bodyPost_ret (v := .tuple #[.string X, .string { data := #[] }, .int .i64 (t1 : Int)]) (by simp [results, Try.results96, go_sem, hXs]) rfl ⟨by rw [HV.out], Below.refl _ _⟩
        · have HV : Hid (tkA f n p = ⟨0, [], p⟩) := by
            rcases H7.out with ⟨h, _⟩ | ⟨_, h⟩
            · exact h
            · exact absurd ⟨HK0.out, hcn⟩ h
          rw [decide_eq_false hcn]
          clear hcn
          go_wp2
          refine bodyPost_ret (v := .tuple #[.string { data := #[110, 111, 110, 101] }, .string { data := #[] }, .int .i64 0]) (by simp [results, Try.results96, go_sem]) rfl (TRet.none HV.out (Below.refl _ _))
      · have HV : Hid (tokV (tkA f n p) p = .tuple #[.string X, .string { data := #[] }, .int .i64 (t1 : Int)]) := by
          rcases H7.out with ⟨_, h, _⟩ | ⟨h, _⟩
          · exact absurd h hk0
          · exact h
        obtain ⟨kk, hkk⟩ : ∃ kk, kk = nkF q := ⟨_, rfl⟩
        rw [← hkk] at hk0 ⊢
        have k0 : ((kk : Int) == 0) = false := by simp; exact hk0
        have k0' : ¬ (kk : Int) = 0 := by omega
        clear hkk H7 HCON
        go_wp2
        refine bodyPost_ret (v := .tuple #[.string X, .string { data := #[] }, .int .i64 (t1 : Int)]) (by simp [results, Try.results96, go_sem, hXs]) rfl ⟨by rw [HV.out], Below.refl _ _⟩
    have it : ¬ (t : Int) < (ln : Int) := by omega
    obtain ⟨t1, q, ht1, ht1l, hql, cv0, nk, con, h7⟩ := GO.out (endF_stop (fun e => by have := HLN.out; omega))
    have cv := cv0 _ rfl
    have sl := run_to b off ln c t1 (by omega) hcm
    have hmx : max (t : Int) 1 = (t1 : Int) := by omega
    have HNK : Hid (∀ W, Calls Try.prog 99 #[.string (strT q)] W fun e w' => e = .returned (.int .i64 (nkF q : Int)) ∧ w' = W) := nk
    have HCON : Hid (Calls Try.prog 132 #[.string { data := #[46, 40, 41, 44] }, .string (strT q)] wr fun e w' => e = .returned (.bool (decide (q = [46] ∨ q = [40] ∨ q = [41] ∨ q = [44]))) ∧ w' = wr) := con
    have H7 : Hid (tkA f n p = ⟨0, [], p⟩ ∧ nkF q = 0 ∧ ¬ (q = [46] ∨ q = [40] ∨ q = [41] ∨ q = [44]) ∨ tokV (tkA f n p) p = .tuple #[.string (strT q), .string { data := #[] }, .int .i64 (t1 : Int)] ∧ ¬ (nkF q = 0 ∧ ¬ (q = [46] ∨ q = [40] ∨ q = [41] ∨ q = [44]))) := h7
    have hXs : (strT q).size = t1 := by rw [strT_size]; exact hql
    clear cv0 nk con h7 GO hql ht1
    generalize strT q = X at *
    go_wp2_with fail
    refine (HNK.out _).mono ?_
    rintro e w8 ⟨rfl, hw8⟩
    rw [hw8]
    clear hw8 w8 HNK
    by_cases hk0 : nkF q = 0
    · have k1 : ((nkF q : Nat) : Int) = 0 := by omega
      have HK0 : Hid (nkF q = 0) := hk0
      rw [k1]
      clear hk0 k1
      go_wp2_with fail
      refine HCON.out.mono ?_
      rintro e w8 ⟨rfl, hw8⟩
      rw [hw8]
      clear hw8 w8 HCON
      by_cases hcn : q = [46] ∨ q = [40] ∨ q = [41] ∨ q = [44]
      · have HV : Hid (tokV (tkA f n p) p = .tuple #[.string X, .string { data := #[] }, .int .i64 (t1 : Int)]) := by
          rcases H7.out with ⟨_, _, h⟩ | ⟨h, _⟩
          · exact absurd hcn h
          · exact h
        rw [decide_eq_true hcn]
        clear hcn
        go_wp2
        refine bodyPost_ret (v := .tuple #[.string X, .string { data := #[] }, .int .i64 (t1 : Int)]) (by simp [results, Try.results96, go_sem, hXs]) rfl ⟨by rw [HV.out], Below.refl _ _⟩
      · have HV : Hid (tkA f n p = ⟨0, [], p⟩) := by
          rcases H7.out with ⟨h, _⟩ | ⟨_, h⟩
          · exact h
          · exact absurd ⟨HK0.out, hcn⟩ h
        rw [decide_eq_false hcn]
        clear hcn
        go_wp2
        refine bodyPost_ret (v := .tuple #[.string { data := #[110, 111, 110, 101] }, .string { data := #[] }, .int .i64 0]) (by simp [results, Try.results96, go_sem]) rfl (TRet.none HV.out (Below.refl _ _))
    · have HV : Hid (tokV (tkA f n p) p = .tuple #[.string X, .string { data := #[] }, .int .i64 (t1 : Int)]) := by
        rcases H7.out with ⟨_, h, _⟩ | ⟨h, _⟩
        · exact absurd h hk0
        · exact h
      obtain ⟨kk, hkk⟩ : ∃ kk, kk = nkF q := ⟨_, rfl⟩
      rw [← hkk] at hk0 ⊢
      have k0 : ((kk : Int) == 0) = false := by simp; exact hk0
      have k0' : ¬ (kk : Int) = 0 := by omega
      clear hkk H7 HCON
      go_wp2
      refine bodyPost_ret (v := .tuple #[.string X, .string { data := #[] }, .int .i64 (t1 : Int)]) (by simp [results, Try.results96, go_sem, hXs]) rfl ⟨by rw [HV.out], Below.refl _ _⟩
end Go.Proofs.Ytocmbnocdjnfpaa

namespace Go.Proofs.Ytocmbnocdjnfpaa
open Go.RowKit Go.Deep
set_option linter.unusedVariables false
set_option linter.unusedSimpArgs false
set_option maxRecDepth 100000

/-- The reader's box. -/
def RB (w : World) (R : Nat) (L : List Value) : Prop := w.heap[R]? = some (.cells L.toArray 86 (0, 0))
theorem RB.lt {w : World} {R : Nat} {L : List Value} (h : RB w R L) : R < w.heap.size := (Array.getElem?_eq_some_iff.1 h).1
theorem RB.cell {w : World} {R : Nat} {L : List Value} (h : RB w R L) (o : Nat) : w.cell? ⟨R, o, none⟩ = L[o]? := by
  unfold World.cell?
  rw [h]
  show L.toArray[o]? = _
  simp
theorem RB.frozen {w : World} {R : Nat} {L : List Value} (h : RB w R L) (o : Nat) : w.frozen? ⟨R, o, none⟩ = false := by
  have h' : w.heap[R]? = some (.cells L.toArray 86 (0, 0)) := h
  simp [World.frozen?, h']
theorem RB.set {w : World} {R : Nat} {L : List Value} (h : RB w R L) (i : Nat) (u : Value) : RB (w.setCell ⟨R, i, none⟩ u) R (L.set i u) := by
  unfold RB at h ⊢
  rw [Go.Joins.block_setCell h u]
  simp
theorem RB.below {w w' : World} {R : Nat} {L : List Value} (h : RB w R L) (hb : Below w.heap.size w w') : RB w' R L := by
  unfold RB at h ⊢
  rw [hb.block R (RB.lt h)]
  exact h
theorem RB.grown {w w' : World} {R : Nat} {L : List Value} {r : Option Nat} (h : RB w R L) (hg : w.grownBy w' r) (hr : some R ≠ r) : RB w' R L := by
  unfold RB at h ⊢
  rw [hg.block R (RB.lt h) hr]
  exact h
theorem RB.new (w : World) (L : List Value) : RB (w.alloc (.cells L.toArray 86)) w.heap.size L := Array.getElem?_push_size

/-- What stands in the reader's box. -/
def rdL (tv : Value) (bh ta mk er at_ : Int) (kd ct : ByteArray) (vn : Value) : List Value := [tv, .int .i64 bh, .string kd, .int .i64 ta, .string ct, vn, .int .i64 mk, .int .i64 er, .int .i64 at_]
structure RdS (w0 : World) (tv : Value) (w : World) (bh ta mk er at_ : Int) (kd ct : ByteArray) (vn : Value) (N : List Nd) : Prop where
  rb : RB w w0.heap.size (rdL tv bh ta mk er at_ kd ct vn)
  nd : NdA w (w0.heap.size + 1) vn N
  bel : Below w0.heap.size w0 w
theorem RdS.below {w0 w w' : World} {tv vn : Value} {bh ta mk er at_ : Int} {kd ct : ByteArray} {N : List Nd} (h : RdS w0 tv w bh ta mk er at_ kd ct vn N) (hb : Below w.heap.size w w') : RdS w0 tv w' bh ta mk er at_ kd ct vn N :=
  ⟨h.rb.below hb, h.nd.below hb, h.bel.trans (hb.mono (by have := h.rb.lt; omega))⟩
theorem NdA.setLo {w : World} {B : Nat} {v : Value} {l : List Nd} (h : NdA w B v l) {a : Addr} (ha : a.block < B) (u : Value) : NdA (w.setCell a u) B v l :=
  plS_keep h (fun g e => Below.heap_setCell w a u g (by have := (h.lt g e).1; omega))
section
variable {w0 w : World} {tv vn : Value} {bh ta mk er at_ : Int} {kd ct : ByteArray} {N : List Nd}
theorem RdS.put (h : RdS w0 tv w bh ta mk er at_ kd ct vn N) (i : Nat) (u : Value) {bh' ta' mk' er' at' : Int} {kd' ct' : ByteArray} (e : (rdL tv bh ta mk er at_ kd ct vn).set i u = rdL tv bh' ta' mk' er' at' kd' ct' vn) : RdS w0 tv (w.setCell ⟨w0.heap.size, i, none⟩ u) bh' ta' mk' er' at' kd' ct' vn N :=
  ⟨by have := h.rb.set i u; rw [e] at this; exact this, h.nd.setLo (by show w0.heap.size < _; omega) u, h.bel.setCell (Nat.le_refl _) u⟩
theorem RdS.cells (h : RdS w0 tv w bh ta mk er at_ kd ct vn N) : w.cell? ⟨w0.heap.size, 0, none⟩ = some tv ∧ w.cell? ⟨w0.heap.size, 1, none⟩ = some (.int .i64 bh) ∧ w.cell? ⟨w0.heap.size, 2, none⟩ = some (.string kd) ∧ w.cell? ⟨w0.heap.size, 3, none⟩ = some (.int .i64 ta) ∧ w.cell? ⟨w0.heap.size, 4, none⟩ = some (.string ct) ∧ w.cell? ⟨w0.heap.size, 5, none⟩ = some vn ∧ w.cell? ⟨w0.heap.size, 6, none⟩ = some (.int .i64 mk) ∧ w.cell? ⟨w0.heap.size, 7, none⟩ = some (.int .i64 er) ∧ w.cell? ⟨w0.heap.size, 8, none⟩ = some (.int .i64 at_) :=
  ⟨h.rb.cell 0, h.rb.cell 1, h.rb.cell 2, h.rb.cell 3, h.rb.cell 4, h.rb.cell 5, h.rb.cell 6, h.rb.cell 7, h.rb.cell 8⟩
end

/-- The reader's state in memory; p bounds how many nodes there can be. -/
def RS (T : Nat → Tok) (A : Nat → Nat) (m : Nat) (w0 : World) (tv : Value) (p : Nat) (w : World) : (Nat × Nat × List Nd) ⊕ (Int × Int) → Prop
  | .inl s => ∃ vn, RdS w0 tv w ((T s.1).e : Int) (A s.1 : Int) (s.2.1 : Int) 0 0 (kdW (T s.1).c) (strT (T s.1).q) vn s.2.2 ∧ s.2.2.length + (m - s.1) ≤ p ∧ (T s.1).c ≠ 0
  | .inr x => ∃ bh ta mk ct vn N, RdS w0 tv w bh ta mk x.1 x.2 (kdW 0) ct vn N ∧ N.length ≤ p ∧ x.1 ≠ 0
section
variable {T : Nat → Tok} {A : Nat → Nat} {m : Nat} {w0 w : World} {tv : Value} {p p' : Nat} {σ : (Nat × Nat × List Nd) ⊕ (Int × Int)}
theorem RS.more (h : RS T A m w0 tv p w σ) (hp : p ≤ p') : RS T A m w0 tv p' w σ := by
  cases σ with
  | inl s =>
    obtain ⟨vn, h1, h2, h3⟩ := h
    exact ⟨vn, h1, by omega, h3⟩
  | inr x =>
    obtain ⟨bh, ta, mk, ct, vn, N, h1, h2, h3⟩ := h
    exact ⟨bh, ta, mk, ct, vn, N, h1, by omega, h3⟩
theorem RS.bel (h : RS T A m w0 tv p w σ) : Below w0.heap.size w0 w ∧ w0.heap.size < w.heap.size := by
  cases σ with
  | inl s =>
    obtain ⟨vn, h1, _⟩ := h
    exact ⟨h1.bel, h1.rb.lt⟩
  | inr x =>
    obtain ⟨bh, ta, mk, ct, vn, N, h1, _⟩ := h
    exact ⟨h1.bel, h1.rb.lt⟩
theorem RS.kind (h : RS T A m w0 tv p w σ) : w.cell? ⟨w0.heap.size, 2, none⟩ = some (.string (kdW (kdS T σ))) := by
  cases σ with
  | inl s =>
    obtain ⟨vn, h1, _⟩ := h
    exact h1.cells.2.2.1
  | inr x =>
    obtain ⟨bh, ta, mk, ct, vn, N, h1, _⟩ := h
    exact h1.cells.2.2.1
end

set_option maxHeartbeats 1000000 in
/-- fail where there is an error already. -/
theorem fail_no (w0 : World) (tv : Value) (w : World) (bh ta mk er at_ : Int) (kd ct : ByteArray) (vn : Value) (N : List Nd) (e : Int) (h : RdS w0 tv w bh ta mk er at_ kd ct vn N) (he : er ≠ 0) :
    Calls Try.prog 97 #[.pointer (some ⟨w0.heap.size, 0, none⟩), .int .i64 e] w fun r w' => r = .returned (.tuple #[]) ∧ w' = w := by
  obtain ⟨c0, c1, c2, c3, c4, c5, c6, c7, c8⟩ := h.cells
  have ne : (er == 0) = false := by simp [he]
  clear h
  go_enter Try.func97, Try.ntmps97
  go_wp2
  refine bodyPost_end (v := .tuple #[]) (by simp [results, Try.results97, go_sem]) rfl ⟨rfl, rfl⟩
set_option maxHeartbeats 1000000 in
theorem fail_yes (w0 : World) (tv : Value) (w : World) (bh ta mk at_ : Int) (kd ct : ByteArray) (vn : Value) (N : List Nd) (e : Int) (h : RdS w0 tv w bh ta mk 0 at_ kd ct vn N) :
    Calls Try.prog 97 #[.pointer (some ⟨w0.heap.size, 0, none⟩), .int .i64 e] w fun r w' => r = .returned (.tuple #[]) ∧ RdS w0 tv w' bh 0 mk e ta (kdW 0) { data := #[] } vn N := by
  obtain ⟨c0, c1, c2, c3, c4, c5, c6, c7, c8⟩ := h.cells
  have fr := h.rb.frozen
  have HH : Hid (RdS w0 tv w bh ta mk 0 at_ kd ct vn N) := h
  have hlt := h.rb.lt
  clear h
  go_enter Try.func97, Try.ntmps97
  go_wp2
  refine bodyPost_end (v := .tuple #[]) (by simp [results, Try.results97, go_sem]) rfl ⟨rfl, ?_⟩
  have h1 := HH.out.put 7 (.int .i64 e) (er' := e) rfl
  have h2 := h1.put 8 (.int .i64 ta) (at' := ta) rfl
  have h3 := h2.put 2 (.string (kdW 0)) (kd' := kdW 0) rfl
  have h4 := h3.put 3 (.int .i64 0) (ta' := 0) rfl
  exact h4.put 4 (.string { data := #[] }) (ct' := { data := #[] }) rfl
end Go.Proofs.Ytocmbnocdjnfpaa

namespace Go.Proofs.Ytocmbnocdjnfpaa
open Go.RowKit Go.Deep
set_option linter.unusedVariables false
set_option linter.unusedSimpArgs false
set_option maxRecDepth 100000

/-- What the reader reads. -/
structure Env (w0 : World) (a : Option Addr) (n c : Nat) (f : Nat → Int) : Prop where
  rd : Rd .u8 w0 a n f
  n2 : n ≤ 2000
  nc : n ≤ c
  cm : c ≤ 9223372036854775807
  byt : ∀ i, i < n → 0 ≤ f i ∧ f i < 256
  mx : ∃ m, w0.cell? ⟨0, 0, none⟩ = some (.int .i64 m)
theorem kdW_inj : ∀ a, a < 16 → ∀ c, c < 16 → (kdW a).data = (kdW c).data → a = c := by decide
theorem kdW_ne {a c : Nat} (ha : a ≤ 15) (hc : c ≤ 15) (h : a ≠ c) : ((kdW a).toList == (kdW c).toList) = false ∧ ¬ (kdW a).toList = (kdW c).toList := by
  have : ((kdW a).toList == (kdW c).toList) = false := by
    cases e : ((kdW a).toList == (kdW c).toList) with
    | false => rfl
    | true => exact absurd (kdW_inj a (by omega) c (by omega) (by rw [strB_eq.1 e])) h
  exact ⟨this, fun e => by rw [e] at this; simp at this⟩
theorem nk_kd {c : Nat} (h1 : 1 ≤ c) (h2 : c ≤ 15) : ∃ q, Byt q ∧ kdW c = strT q ∧ nkF q = if c ≤ 9 then c else 0 := by
  have : c = 1 ∨ c = 2 ∨ c = 3 ∨ c = 4 ∨ c = 5 ∨ c = 6 ∨ c = 7 ∨ c = 8 ∨ c = 9 ∨ c = 10 ∨ c = 11 ∨ c = 12 ∨ c = 13 ∨ c = 14 ∨ c = 15 := by omega
  rcases this with rfl | rfl | rfl | rfl | rfl | rfl | rfl | rfl | rfl | rfl | rfl | rfl | rfl | rfl | rfl
  · exact ⟨[97, 108, 108], byt_lit rfl, rfl, rfl⟩
  · exact ⟨[118], byt_lit rfl, rfl, rfl⟩
  · exact ⟨[111, 117, 116], byt_lit rfl, rfl, rfl⟩
  · exact ⟨[105, 110], byt_lit rfl, rfl, rfl⟩
  · exact ⟨[104, 97, 115], byt_lit rfl, rfl, rfl⟩
  · exact ⟨[38], byt_lit rfl, rfl, rfl⟩
  · exact ⟨[124], byt_lit rfl, rfl, rfl⟩
  · exact ⟨[45], byt_lit rfl, rfl, rfl⟩
  · exact ⟨[103, 114, 97, 112, 104], byt_lit rfl, rfl, rfl⟩
  · exact ⟨[46], byt_lit rfl, rfl, rfl⟩
  · exact ⟨[40], byt_lit rfl, rfl, rfl⟩
  · exact ⟨[41], byt_lit rfl, rfl, rfl⟩
  · exact ⟨[44], byt_lit rfl, rfl, rfl⟩
  · exact ⟨[83, 84, 82], byt_lit rfl, rfl, rfl⟩
  · exact ⟨[101, 110, 100, 32, 111, 102, 32, 116, 104, 101, 32, 116, 101, 120, 116], byt_lit rfl, rfl, rfl⟩
theorem nodeKind_kd {c : Nat} (h1 : 1 ≤ c) (h2 : c ≤ 15) (w : World) : Calls Try.prog 99 #[.string (kdW c)] w fun e w' => e = .returned (.int .i64 ((if c ≤ 9 then c else 0 : Nat) : Int)) ∧ w' = w := by
  obtain ⟨q, hq, e1, e2⟩ := nk_kd h1 h2
  rw [e1, ← e2]
  exact nodeKind_any q hq w

theorem RdS.grown {w0 w w' : World} {tv vn vn' : Value} {bh ta mk er at_ : Int} {kd ct : ByteArray} {N N' : List Nd} (h : RdS w0 tv w bh ta mk er at_ kd ct vn N) (hg : w.grownBy w' vn.ownBlock) (hn : NdA w' (w0.heap.size + 1) vn' N') : RdS w0 tv (w'.setCell ⟨w0.heap.size, 5, none⟩ vn') bh ta mk er at_ kd ct vn' N' := by
  have hr : some w0.heap.size ≠ vn.ownBlock := fun e => by have := (h.nd.lt _ e.symm).1; omega
  have rb := (h.rb.grown hg hr).set 5 vn'
  refine ⟨rb, hn.setLo (by show w0.heap.size < _; omega) _, ?_⟩
  exact (h.bel.grown hg (by have := h.rb.lt; omega) (fun b e => by have := (h.nd.lt _ e).1; omega)).setCell (Nat.le_refl _) _
set_option maxHeartbeats 1000000 in
theorem emit_any (w0 : World) (tv : Value) (w : World) (bh ta mk er at_ : Int) (kd ct : ByteArray) (vn : Value) (N : List Nd) (x : Nd) (k : Int) (s t : ByteArray) (hk : k = (x.k : Int)) (hs : s = strT x.s) (ht : t = strT x.t) (h : RdS w0 tv w bh ta mk er at_ kd ct vn N) (hN : N.length ≤ 10000) :
    Calls Try.prog 100 #[.pointer (some ⟨w0.heap.size, 0, none⟩), .int .i64 k, .string s, .string t] w fun r w' => r = .returned (.tuple #[]) ∧ ∃ vn', RdS w0 tv w' bh ta mk er at_ kd ct vn' (N ++ [x]) := by
  have c5 := h.cells.2.2.2.2.2.1
  have fr := h.rb.frozen
  have hlt := h.rb.lt
  have HH : Hid (RdS w0 tv w bh ta mk er at_ kd ct vn N) := h
  have HC : Hid (ndC x = [.int .i64 k, .string s, .string t]) := by show _ = _; rw [hk, hs, ht]; rfl
  clear h hk hs ht
  go_enter Try.func100, Try.ntmps100
  go_wp2_with (at_builtin; refine app_nd rfl _ _ rfl (w0.heap.size + 1) _ N rfl (HH.out.nd.below (below_alloc _ _)) w.heap.size x rfl (by rw [HC.out]; exact new_cells _ [.int .i64 k, .string s, .string t] _) (by omega) (by simp; omega) ?_)
  intro v' wq hown' hgrow _
  have HX : Hid (RdS w0 tv (wq.setCell ⟨w0.heap.size, 5, none⟩ v') bh ta mk er at_ kd ct v' (N ++ [x])) := (HH.out.below (below_alloc _ _)).grown hgrow hown'
  have rb2 : RB wq w0.heap.size (rdL tv bh ta mk er at_ kd ct vn) := (HH.out.rb.below (below_alloc _ _)).grown hgrow (fun e => by have := (HH.out.nd.lt _ e.symm).1; omega)
  have d5 : wq.cell? ⟨w0.heap.size, 5, none⟩ = some vn := rb2.cell 5
  have df := rb2.frozen
  have dl := rb2.lt
  have HO : Hid (v'.oneCell' = true) := by
    obtain ⟨_, ⟨e, _⟩ | ⟨g, cap, cur, e, _⟩⟩ := hown'
    · rw [e]; rfl
    · rw [e]; rfl
  obtain ⟨av, nv, cv, ev⟩ : ∃ a n c, v' = .slice a n c := by
    obtain ⟨_, ⟨e, _⟩ | ⟨g, cap, cur, e, _⟩⟩ := hown'
    · exact ⟨_, _, _, e⟩
    · exact ⟨_, _, _, e⟩
  subst ev
  clear hown' hgrow rb2
  go_wp2
  refine bodyPost_end (v := .tuple #[]) (by simp [results, Try.results100, go_sem]) rfl ⟨rfl, _, HX.out⟩
/-- emit, on a state. -/
theorem emit_rs {T : Nat → Tok} {A : Nat → Nat} {m : Nat} {w0 : World} {tv : Value} {p : Nat} {w : World} {σ : (Nat × Nat × List Nd) ⊕ (Int × Int)} (h : RS T A m w0 tv p w σ) (hp : p ≤ 10000) (x : Nd) (k : Int) (s t : ByteArray) (hk : k = (x.k : Int)) (hs : (∃ s', σ = .inl s') → s = strT x.s) (ht : (∃ s', σ = .inl s') → t = strT x.t) (hb : ∃ s' t', s = strT s' ∧ t = strT t') :
    Calls Try.prog 100 #[.pointer (some ⟨w0.heap.size, 0, none⟩), .int .i64 k, .string s, .string t] w fun r w' => r = .returned (.tuple #[]) ∧ RS T A m w0 tv (p + 1) w' (emP x σ) := by
  cases σ with
  | inl s1 =>
    obtain ⟨vn, h1, h2, h3⟩ := h
    refine (emit_any w0 tv w _ _ _ _ _ _ _ vn _ x k s t hk (hs ⟨_, rfl⟩) (ht ⟨_, rfl⟩) h1 (by omega)).mono ?_
    rintro e w' ⟨rfl, vn', h4⟩
    refine ⟨rfl, vn', h4, ?_, h3⟩
    show (s1.2.2 ++ [x]).length + _ ≤ _
    rw [List.length_append, List.length_singleton]
    show s1.2.2.length + 1 + (m - s1.1) ≤ _
    omega
  | inr y =>
    obtain ⟨bh, ta, mk, ct, vn, N, h1, h2, h3⟩ := h
    obtain ⟨s', t', rfl, rfl⟩ := hb
    refine (emit_any w0 tv w _ _ _ _ _ _ _ vn _ ⟨x.k, s', t'⟩ k _ _ hk rfl rfl h1 (by omega)).mono ?_
    rintro e w' ⟨rfl, vn', h4⟩
    exact ⟨rfl, bh, ta, mk, ct, vn', _, h4, by rw [List.length_append, List.length_singleton]; omega, h3⟩
end Go.Proofs.Ytocmbnocdjnfpaa

namespace Go.Proofs.Ytocmbnocdjnfpaa
open Go.RowKit Go.Deep
set_option linter.unusedVariables false
set_option linter.unusedSimpArgs false
set_option maxRecDepth 100000

theorem kdW_list (c : Nat) (L : List UInt8) (h : (kdW c).data.toList = L) : (kdW c).toList = L := by rw [ByteArray.toList_eq]; exact h
theorem run_ends (a : Option Addr) (n c : Nat) (h : n ≤ c) (hc : c ≤ 9223372036854775807) : ∃ a', ∀ w, (Instr.sliceAt 33 (.slice a n c) (some (.int .i64 (n : Int))) none none).run Try.prog w = .ok (.slice a' 0 (c - n)) w := by
  cases a with
  | none =>
    refine ⟨none, fun w => ?_⟩
    simp [Instr.sliceAt, Instr.slice, go_sem, h]
  | some x =>
    by_cases e : c = n
    · refine ⟨some x, fun w => ?_⟩
      subst e
      simp [Instr.sliceAt, Instr.slice, go_sem]
    · refine ⟨some (x.add n), fun w => ?_⟩
      simp [Instr.sliceAt, Instr.slice, go_sem, h, e]

set_option maxHeartbeats 4000000 in
theorem advance_any {w0 : World} {a : Option Addr} {n c : Nat} {f : Nat → Int} (E : Env w0 a n c f) (w : World) (m p0 nd k p : Nat) (ta : Int) (kd ct : ByteArray) (vn : Value) (N : List Nd) (h : RdS w0 (.slice a n c) w (p0 : Int) ta (nd : Int) 0 0 kd ct vn N) (hp0 : p0 ≤ n) (hk : endF isSp f n p0 = tkPos f n k) (hN : N.length + (m - k) ≤ p) :
    Calls Try.prog 54 #[.pointer (some ⟨w0.heap.size, 0, none⟩)] w fun r w' => r = .returned (.tuple #[]) ∧ RS (tkF f n) (tkPos f n) m w0 (.slice a n c) p w' (nrm (tkF f n) (tkPos f n) k nd N) := by
  have HE : Hid (Env w0 a n c f) := E
  have hn2 := E.n2
  have hnc := E.nc
  have hcm := E.cm
  have HH : Hid (RdS w0 (.slice a n c) w (p0 : Int) ta (nd : Int) 0 0 kd ct vn N ∧ endF isSp f n p0 = tkPos f n k) := ⟨h, hk⟩
  clear h hk E
  go_enter Try.func54, Try.ntmps54
  go_wp2
  go_loopw [] (fun wr => ∃ j : Nat, j ≤ n ∧ RdS w0 (.slice a n c) wr (j : Int) ta (nd : Int) 0 0 kd ct vn N ∧ endF isSp f n j = tkPos f n k) (fun wr => n - (intOf ((wr.cell? ⟨w0.heap.size, 1, none⟩).getD undef)).toNat)
  case atStart => exact ⟨p0, hp0, HH.out.1, HH.out.2⟩
  case round =>
    obtain ⟨j, hj, hR, hjk⟩ := hrel
    have HR : Hid (RdS w0 (.slice a n c) wr (j : Int) ta (nd : Int) 0 0 kd ct vn N) := hR
    have HJK : Hid (endF isSp f n j = tkPos f n k) := hjk
    obtain ⟨c0, c1, c2, c3, c4, c5, c6, c7, c8⟩ := hR.cells
    have fr := hR.rb.frozen
    have hlt0 := hR.rb.lt
    clear hR hjk c2 c3 c4 c5 c6 c7 c8
    have ij0 : ¬ (j : Int) < 0 := by omega
    have ij1 : (0 : Int) ≤ (j : Int) := by omega
    by_cases hlt : j < n
    · obtain ⟨b, off, ea, hc⟩ : ∃ b off, a = some ⟨b, off, none⟩ ∧ ∀ i, i < n → w0.cell? ⟨b, off + i, none⟩ = some (.int .u8 (f i)) := by
        rcases HE.out.rd with h0 | ⟨b, off, e, hc⟩
        · omega
        · exact ⟨b, off, e, hc⟩
      subst ea
      have HCL : Hid (∀ k, k < n → wr.cell? ⟨b, off + k, none⟩ = some (.int .u8 (f k))) := fun k hk => by
        rw [HR.out.bel.cell (p := ⟨b, off + k, none⟩) (World.block_lt_of_cell? _ _ (hc k hk))]; exact hc k hk
      have HCW : Hid (∀ W, Below w0.heap.size w0 W → ∀ k, k < n → W.cell? ⟨b, off + k, none⟩ = some (.int .u8 (f k))) := fun W hW k hk => by
        rw [hW.cell (p := ⟨b, off + k, none⟩) (World.block_lt_of_cell? _ _ (hc k hk))]; exact hc k hk
      clear hc
      have cj := HCL.out j hlt
      have ij : (j : Int) < (n : Int) := by omega
      have dlt : decide ((j : Int) < (n : Int)) = true := decide_eq_true ij
      have dlt' : decide (j < n) = true := decide_eq_true hlt
      obtain ⟨x, hx⟩ : ∃ x, x = f j := ⟨_, rfl⟩
      have HX : Hid (x = f j) := hx
      rw [← hx] at cj
      clear hx
      by_cases h32 : x = 32
      · subst h32
        obtain ⟨j1, hj1⟩ : ∃ j1, j1 = j + 1 := ⟨_, rfl⟩
        have w1 : IntKind.i64.wrap ((j : Int) + 1) = (j1 : Int) := by rw [IntKind.wrap_i64]; omega
        have HJ1 : Hid (j1 = j + 1) := hj1
        clear hj1
        have HNEW : Hid (∀ q, RdS w0 (.slice (some ⟨b, off, none⟩) n c) ((wr.drewN q).setCell ⟨w0.heap.size, 1, none⟩ (.int .i64 (j1 : Int))) (j1 : Int) ta (nd : Int) 0 0 kd ct vn N) := fun q => (HR.out.below (below_drewN (Below.refl _ _) q)).put 1 (.int .i64 (j1 : Int)) (bh' := (j1 : Int)) rfl
        go_wp2_with fail
        go_quiet (fail)
        go_wp2
        go_roundw
        case rel =>
          refine ⟨j1, by have := HJ1.out; omega, ?_, by rw [HJ1.out, ← endSp_go hlt HX.out.symm]; exact HJK.out⟩
          exact HNEW.out _
        case measure =>
          have := HJ1.out
          rw [(HNEW.out _).cells.2.1, c1]
          simp [intOf]
          omega
      have n32 : (x == 32) = false := by simp [h32]
      have HP : Hid (tkPos f n k = j) := by show _ = _; rw [← HJK.out]; exact endSp_at (by rw [← HX.out]; exact h32)
      have HT : Hid (∀ W, RdS w0 (.slice (some ⟨b, off, none⟩) n c) W (j : Int) ta (nd : Int) 0 0 kd ct vn N → Calls Try.prog 96 #[.slice (some ⟨b, off + j, none⟩) (n - j) (c - j)] W (TRet f n j W)) := fun W hW => by
        have hcW : ∀ k, k < n → W.cell? ⟨b, off + k, none⟩ = some (.int .u8 (f k)) := HCW.out W hW.bel
        refine readToken_any b (off + j) (c - j) n j f W hlt hn2 (by omega) (by omega) (fun k hk => by rw [Nat.add_assoc]; exact hcW (j + k) hk) HE.out.byt ?_
        obtain ⟨mx, hmx⟩ := HE.out.mx
        exact ⟨mx, by rw [hW.bel.cell (p := ⟨0, 0, none⟩) (World.block_lt_of_cell? _ _ hmx)]; exact hmx⟩
      have sl := run_fr b off n c j hlt hnc hcm
      obtain ⟨lj, hlj⟩ : ∃ lj, lj = n - j := ⟨_, rfl⟩
      obtain ⟨cj', hcj'⟩ : ∃ cj', cj' = c - j := ⟨_, rfl⟩
      rw [← hlj, ← hcj'] at HT sl
      clear hlj hcj' HCL HCW
      go_wp2_with fail
      go_quiet (fail)
      go_wp2_with fail
      go_quiet (fail)
      go_wp2_with fail
      refine (HT.out _ (HR.out.below (below_drewN (Below.refl _ _) _))).mono ?_
      rintro e w2 ⟨rfl, hb2⟩
      have HR2 : Hid (RdS w0 (.slice (some ⟨b, off, none⟩) n c) w2 (j : Int) ta (nd : Int) 0 0 kd ct vn N) := (HR.out.below (below_drewN (Below.refl _ _) _)).below hb2
      clear hb2
      obtain ⟨c0, c1, c2, c3, c4, c5, c6, c7, c8⟩ := HR2.out.cells
      have fr := HR2.out.rb.frozen
      have hlt0 := HR2.out.rb.lt
      have hle := tkA_le (f := f) hj
      have hc15 := tkA_c f n j
      unfold tokV
      obtain ⟨t, ht⟩ : ∃ t, t = tkA f n j := ⟨_, rfl⟩
      rw [← ht] at hle hc15 ⊢
      have HTT : Hid (tkF f n k = t) := by show tkA f n (tkPos f n k) = t; rw [HP.out, ht]
      clear ht HT
      obtain ⟨tc, tq, te⟩ := t
      dsimp only at hle hc15 ⊢
      have e1 : IntKind.i64.wrap ((j : Int) + ((te - j : Nat) : Int)) = (te : Int) := by rw [IntKind.wrap_i64]; omega
      obtain ⟨CT, hCT⟩ : ∃ CT, CT = strT tq := ⟨_, rfl⟩
      rw [← hCT]
      have HCT : Hid (CT = strT tq) := hCT
      clear hCT
      obtain ⟨ln, hln⟩ : ∃ ln, ln = te - j := ⟨_, rfl⟩
      rw [← hln] at e1 ⊢
      clear hln
      have HW : Hid (∀ KD, KD = kdW tc → RdS w0 (.slice (some ⟨b, off, none⟩) n c) ((((w2.setCell ⟨w0.heap.size, 2, none⟩ (.string KD)).setCell ⟨w0.heap.size, 3, none⟩ (.int .i64 (j : Int))).setCell ⟨w0.heap.size, 4, none⟩ (.string CT)).setCell ⟨w0.heap.size, 1, none⟩ (.int .i64 (te : Int))) (te : Int) (j : Int) (nd : Int) 0 0 KD CT vn N) := fun KD _ => by
        have h1 := HR2.out.put 2 (.string KD) (kd' := KD) rfl
        have h2 := h1.put 3 (.int .i64 (j : Int)) (ta' := (j : Int)) rfl
        have h3 := h2.put 4 (.string CT) (ct' := CT) rfl
        exact h3.put 1 (.int .i64 (te : Int)) (bh' := (te : Int)) rfl
      by_cases hz : tc = 0
      · subst hz
        have HF : Hid (nrm (tkF f n) (tkPos f n) k nd N = .inr (2, (tkPos f n k : Int))) := by show _ = _; unfold nrm; rw [if_pos (by rw [HTT.out])]
        have HW2 : Hid (RdS w0 (.slice (some ⟨b, off, none⟩) n c) ((((w2.setCell ⟨w0.heap.size, 2, none⟩ (.string { data := #[110, 111, 110, 101] })).setCell ⟨w0.heap.size, 3, none⟩ (.int .i64 (j : Int))).setCell ⟨w0.heap.size, 4, none⟩ (.string CT)).setCell ⟨w0.heap.size, 1, none⟩ (.int .i64 (te : Int))) (te : Int) (j : Int) (nd : Int) 0 0 { data := #[110, 111, 110, 101] } CT vn N) := HW.out _ rfl
        have e0 : kdW 0 = { data := #[110, 111, 110, 101] } := rfl
        rw [e0]
        clear HW e0
        go_wp2_with fail
        refine (fail_yes w0 _ _ _ _ _ _ _ _ _ _ 2 HW2.out).mono ?_
        rintro e w3 ⟨rfl, h3⟩
        have HFIN : Hid (RS (tkF f n) (tkPos f n) m w0 (.slice (some ⟨b, off, none⟩) n c) p w3 (nrm (tkF f n) (tkPos f n) k nd N)) := by
          show RS _ _ _ _ _ _ _ _
          rw [HF.out]
          exact ⟨_, _, _, _, _, _, by rw [HP.out]; exact h3, by omega, by show (2 : Int) ≠ 0; omega⟩
        clear h3
        go_wp2
        refine bodyPost_end (v := .tuple #[]) (by simp [results, Try.results54, go_sem]) rfl ⟨rfl, HFIN.out⟩
      · have HF : Hid (nrm (tkF f n) (tkPos f n) k nd N = .inl (k, nd, N)) := by show _ = _; unfold nrm; rw [if_neg (by rw [HTT.out]; exact hz)]
        have hne := (kdW_ne hc15 (c := 0) (by omega) hz).2
        obtain ⟨KD, hKD⟩ : ∃ KD, KD = kdW tc := ⟨_, rfl⟩
        have HKD : Hid (KD = kdW tc) := hKD
        rw [← hKD] at hne ⊢
        have nk : ¬ KD.toList = [110, 111, 110, 101] := by rw [← kdW_list 0 [110, 111, 110, 101] rfl]; exact hne
        have nk' : (KD.toList == [110, 111, 110, 101]) = false := by simp [nk]
        clear hKD hne
        have HFIN : Hid (RS (tkF f n) (tkPos f n) m w0 (.slice (some ⟨b, off, none⟩) n c) p ((((w2.setCell ⟨w0.heap.size, 2, none⟩ (.string KD)).setCell ⟨w0.heap.size, 3, none⟩ (.int .i64 (j : Int))).setCell ⟨w0.heap.size, 4, none⟩ (.string CT)).setCell ⟨w0.heap.size, 1, none⟩ (.int .i64 (te : Int))) (nrm (tkF f n) (tkPos f n) k nd N)) := by
          show RS _ _ _ _ _ _ _ _
          rw [HF.out]
          refine ⟨vn, ?_, hN, by show (tkF f n k).c ≠ 0; rw [HTT.out]; exact hz⟩
          show RdS w0 _ _ ((tkF f n k).e : Int) (tkPos f n k : Int) (nd : Int) 0 0 (kdW (tkF f n k).c) (strT (tkF f n k).q) vn N
          rw [HTT.out, HP.out, ← HKD.out, ← HCT.out]
          exact HW.out KD HKD.out
        clear HW
        go_wp2
        refine bodyPost_end (v := .tuple #[]) (by simp [results, Try.results54, go_sem]) rfl ⟨rfl, HFIN.out⟩
    have ij : ¬ (j : Int) < (n : Int) := by omega
    have dlt : decide ((j : Int) < (n : Int)) = false := decide_eq_false ij
    have dlt' : decide (j < n) = false := decide_eq_false hlt
    have HJN : Hid (j = n) := by show _ = _; omega
    have HP : Hid (tkPos f n k = j) := by
      show _ = _
      rw [← HJK.out]
      exact endF_stop (fun e => hlt e.1)
    obtain ⟨a', sl0⟩ := run_ends a n c hnc hcm
    have HT : Hid (∀ W, RdS w0 (.slice a n c) W (j : Int) ta (nd : Int) 0 0 kd ct vn N → Calls Try.prog 96 #[.slice a' 0 (c - n)] W (TRet f n j W)) := fun W _ => readToken_end a' (c - n) n j f W (by have := HJN.out; omega)
    have sl : ∀ w, (Instr.sliceAt 33 (.slice a n c) (some (.int .i64 (j : Int))) none none).run Try.prog w = .ok (.slice a' 0 (c - n)) w := fun w => by rw [show ((j : Nat) : Int) = (n : Int) by have := HJN.out; omega]; exact sl0 w
    obtain ⟨cj', hcj'⟩ : ∃ cj', cj' = c - n := ⟨_, rfl⟩
    rw [← hcj'] at HT sl
    clear hcj' sl0
    go_wp2_with fail
    go_quiet (fail)
    go_wp2_with fail
    go_quiet (fail)
    go_wp2_with fail
    refine (HT.out _ (HR.out.below (below_drewN (Below.refl _ _) _))).mono ?_
    rintro e w2 ⟨rfl, hb2⟩
    have HR2 : Hid (RdS w0 (.slice a n c) w2 (j : Int) ta (nd : Int) 0 0 kd ct vn N) := (HR.out.below (below_drewN (Below.refl _ _) _)).below hb2
    clear hb2
    obtain ⟨c0, c1, c2, c3, c4, c5, c6, c7, c8⟩ := HR2.out.cells
    have fr := HR2.out.rb.frozen
    have hlt0 := HR2.out.rb.lt
    have hle := tkA_le (f := f) hj
    have hc15 := tkA_c f n j
    unfold tokV
    obtain ⟨t, ht⟩ : ∃ t, t = tkA f n j := ⟨_, rfl⟩
    rw [← ht] at hle hc15 ⊢
    have HTT : Hid (tkF f n k = t) := by show tkA f n (tkPos f n k) = t; rw [HP.out, ht]
    clear ht HT
    obtain ⟨tc, tq, te⟩ := t
    dsimp only at hle hc15 ⊢
    have e1 : IntKind.i64.wrap ((j : Int) + ((te - j : Nat) : Int)) = (te : Int) := by rw [IntKind.wrap_i64]; omega
    obtain ⟨CT, hCT⟩ : ∃ CT, CT = strT tq := ⟨_, rfl⟩
    rw [← hCT]
    have HCT : Hid (CT = strT tq) := hCT
    clear hCT
    obtain ⟨ln, hln⟩ : ∃ ln, ln = te - j := ⟨_, rfl⟩
    rw [← hln] at e1 ⊢
    clear hln
    have HW : Hid (∀ KD, KD = kdW tc → RdS w0 (.slice a n c) ((((w2.setCell ⟨w0.heap.size, 2, none⟩ (.string KD)).setCell ⟨w0.heap.size, 3, none⟩ (.int .i64 (j : Int))).setCell ⟨w0.heap.size, 4, none⟩ (.string CT)).setCell ⟨w0.heap.size, 1, none⟩ (.int .i64 (te : Int))) (te : Int) (j : Int) (nd : Int) 0 0 KD CT vn N) := fun KD _ => by
      have h1 := HR2.out.put 2 (.string KD) (kd' := KD) rfl
      have h2 := h1.put 3 (.int .i64 (j : Int)) (ta' := (j : Int)) rfl
      have h3 := h2.put 4 (.string CT) (ct' := CT) rfl
      exact h3.put 1 (.int .i64 (te : Int)) (bh' := (te : Int)) rfl
    by_cases hz : tc = 0
    · subst hz
      have HF : Hid (nrm (tkF f n) (tkPos f n) k nd N = .inr (2, (tkPos f n k : Int))) := by show _ = _; unfold nrm; rw [if_pos (by rw [HTT.out])]
      have HW2 : Hid (RdS w0 (.slice a n c) ((((w2.setCell ⟨w0.heap.size, 2, none⟩ (.string { data := #[110, 111, 110, 101] })).setCell ⟨w0.heap.size, 3, none⟩ (.int .i64 (j : Int))).setCell ⟨w0.heap.size, 4, none⟩ (.string CT)).setCell ⟨w0.heap.size, 1, none⟩ (.int .i64 (te : Int))) (te : Int) (j : Int) (nd : Int) 0 0 { data := #[110, 111, 110, 101] } CT vn N) := HW.out _ rfl
      have e0 : kdW 0 = { data := #[110, 111, 110, 101] } := rfl
      rw [e0]
      clear HW e0
      go_wp2_with fail
      refine (fail_yes w0 _ _ _ _ _ _ _ _ _ _ 2 HW2.out).mono ?_
      rintro e w3 ⟨rfl, h3⟩
      have HFIN : Hid (RS (tkF f n) (tkPos f n) m w0 (.slice a n c) p w3 (nrm (tkF f n) (tkPos f n) k nd N)) := by
        show RS _ _ _ _ _ _ _ _
        rw [HF.out]
        exact ⟨_, _, _, _, _, _, by rw [HP.out]; exact h3, by omega, by show (2 : Int) ≠ 0; omega⟩
      clear h3
      go_wp2
      refine bodyPost_end (v := .tuple #[]) (by simp [results, Try.results54, go_sem]) rfl ⟨rfl, HFIN.out⟩
    · have HF : Hid (nrm (tkF f n) (tkPos f n) k nd N = .inl (k, nd, N)) := by show _ = _; unfold nrm; rw [if_neg (by rw [HTT.out]; exact hz)]
      have hne := (kdW_ne hc15 (c := 0) (by omega) hz).2
      obtain ⟨KD, hKD⟩ : ∃ KD, KD = kdW tc := ⟨_, rfl⟩
      have HKD : Hid (KD = kdW tc) := hKD
      rw [← hKD] at hne ⊢
      have nk : ¬ KD.toList = [110, 111, 110, 101] := by rw [← kdW_list 0 [110, 111, 110, 101] rfl]; exact hne
      have nk' : (KD.toList == [110, 111, 110, 101]) = false := by simp [nk]
      clear hKD hne
      have HFIN : Hid (RS (tkF f n) (tkPos f n) m w0 (.slice a n c) p ((((w2.setCell ⟨w0.heap.size, 2, none⟩ (.string KD)).setCell ⟨w0.heap.size, 3, none⟩ (.int .i64 (j : Int))).setCell ⟨w0.heap.size, 4, none⟩ (.string CT)).setCell ⟨w0.heap.size, 1, none⟩ (.int .i64 (te : Int))) (nrm (tkF f n) (tkPos f n) k nd N)) := by
        show RS _ _ _ _ _ _ _ _
        rw [HF.out]
        refine ⟨vn, ?_, hN, by show (tkF f n k).c ≠ 0; rw [HTT.out]; exact hz⟩
        show RdS w0 _ _ ((tkF f n k).e : Int) (tkPos f n k : Int) (nd : Int) 0 0 (kdW (tkF f n k).c) (strT (tkF f n k).q) vn N
        rw [HTT.out, HP.out, ← HKD.out, ← HCT.out]
        exact HW.out KD HKD.out
      clear HW
      go_wp2
      refine bodyPost_end (v := .tuple #[]) (by simp [results, Try.results54, go_sem]) rfl ⟨rfl, HFIN.out⟩
end Go.Proofs.Ytocmbnocdjnfpaa

namespace Go.Proofs.Ytocmbnocdjnfpaa
open Go.RowKit Go.Deep
set_option linter.unusedVariables false
set_option linter.unusedSimpArgs false
set_option maxRecDepth 100000

def dl : (Nat × Nat × List Nd) ⊕ (Int × Int) → Nat
  | .inl _ => 1
  | .inr _ => 0
/-- What take gives back. -/
def TkRet (T : Nat → Tok) (A : Nat → Nat) (m : Nat) (w0 : World) (tv : Value) (p c : Nat) (σ : (Nat × Nat × List Nd) ⊕ (Int × Int)) (e : Ending) (w' : World) : Prop :=
  ∃ q, e = .returned (.string (strT q)) ∧ (c = 14 → q = tkQ T σ) ∧ RS T A m w0 tv (p - dl σ) w' (tkP T A c σ)

set_option maxHeartbeats 2000000 in
theorem take_rs {w0 : World} {a : Option Addr} {n c : Nat} {f : Nat → Int} (E : Env w0 a n c f) {m : Nat} (k : Nat) (kind : ByteArray) (hkd : kind = kdW k) (hk1 : 1 ≤ k) (hk2 : k ≤ 15) (w : World) (p : Nat) (σ : (Nat × Nat × List Nd) ⊕ (Int × Int)) (h : RS (tkF f n) (tkPos f n) m w0 (.slice a n c) p w σ) (hok : ∀ s, σ = .inl s → s.1 < m ∧ s.2.1 ≤ 100) :
    Calls Try.prog 56 #[.pointer (some ⟨w0.heap.size, 0, none⟩), .string kind] w (TkRet (tkF f n) (tkPos f n) m w0 (.slice a n c) p k σ) := by
  subst hkd
  cases σ with
  | inr x =>
    obtain ⟨bh, ta, mk, ct, vn, N, h1, h2, h3⟩ := h
    have hne := kdW_ne (a := 0) (c := k) (by omega) hk2 (by omega)
    have c2 := h1.cells.2.2.1
    have HF : Hid (Calls Try.prog 97 #[.pointer (some ⟨w0.heap.size, 0, none⟩), .int .i64 3] w fun r w' => r = .returned (.tuple #[]) ∧ w' = w) := fail_no w0 _ w bh ta mk x.1 x.2 _ ct vn N 3 h1 h3
    have HX : Hid (TkRet (tkF f n) (tkPos f n) m w0 (.slice a n c) p k (.inr x) (.returned (.string (strT []))) w) := ⟨[], rfl, fun _ => rfl, bh, ta, mk, ct, vn, N, h1, by simpa [dl] using h2, h3⟩
    clear h1 h2 h3 hok E
    obtain ⟨n1, n2⟩ := hne
    generalize kdW k = K at *
    generalize kdW 0 = Z at *
    go_enter Try.func56, Try.ntmps56
    go_wp2_with fail
    refine HF.out.mono ?_
    rintro e w1 ⟨rfl, hw⟩
    rw [hw]
    clear hw w1
    go_wp2
    refine bodyPost_ret (v := .string { data := #[] }) (by simp [results, Try.results56, go_sem]) rfl HX.out
  | inl s =>
    obtain ⟨i, nd, N⟩ := s
    obtain ⟨vn, h1, h2, h3⟩ := h
    obtain ⟨him, hnd⟩ := hok _ rfl
    have him' : i < m := him
    have hnd' : nd ≤ 100 := hnd
    have h2' : N.length + (m - i) ≤ p := h2
    have h1' : RdS w0 (.slice a n c) w ((tkF f n i).e : Int) (tkPos f n i : Int) (nd : Int) 0 0 (kdW (tkF f n i).c) (strT (tkF f n i).q) vn N := h1
    obtain ⟨c0, c1, c2, c3, c4, c5, c6, c7, c8⟩ := h1'.cells
    have fr := h1'.rb.frozen
    have hlt := h1'.rb.lt
    have HH : Hid (RdS w0 (.slice a n c) w ((tkF f n i).e : Int) (tkPos f n i : Int) (nd : Int) 0 0 (kdW (tkF f n i).c) (strT (tkF f n i).q) vn N) := h1'
    have HE : Hid (Env w0 a n c f) := E
    have h15 := tkc15 f n i
    clear h1 h2 h3 hok E him hnd h1' c0 c1 c3 c5 c7 c8
    by_cases hc : (tkF f n i).c = k
    · have HK : Hid (∀ W, Calls Try.prog 99 #[.string (kdW k)] W fun e w' => e = .returned (.int .i64 ((if k ≤ 9 then k else 0 : Nat) : Int)) ∧ w' = W) := fun W => nodeKind_kd hk1 hk2 W
      have HTE : Hid ((tkF f n i).e ≤ n ∧ endF isSp f n (tkF f n i).e = tkPos f n (i + 1)) := ⟨(tkA_le (tkPos_le f n i)).2, rfl⟩
      have HADV : Hid (∀ W (nd2 : Nat), RdS w0 (.slice a n c) W ((tkF f n i).e : Int) (tkPos f n i : Int) (nd2 : Int) 0 0 (kdW (tkF f n i).c) (strT (tkF f n i).q) vn N → Calls Try.prog 54 #[.pointer (some ⟨w0.heap.size, 0, none⟩)] W fun r w' => r = .returned (.tuple #[]) ∧ RS (tkF f n) (tkPos f n) m w0 (.slice a n c) (p - 1) w' (nrm (tkF f n) (tkPos f n) (i + 1) nd2 N)) := fun W nd2 hW => advance_any HE.out W m _ nd2 (i + 1) (p - 1) _ _ _ vn N hW HTE.out.1 HTE.out.2 (by omega)
      have HQ : Hid (k = 14 → (tkF f n i).q = tkQ (tkF f n) (.inl (i, nd, N))) := fun e => by rw [tk_q, if_pos (by rw [hc]; exact e)]
      rw [hc] at c2
      obtain ⟨K, hK⟩ : ∃ K, K = kdW k := ⟨_, rfl⟩
      obtain ⟨X, hX⟩ : ∃ X, X = strT (tkF f n i).q := ⟨_, rfl⟩
      have HXX : Hid (X = strT (tkF f n i).q) := hX
      rw [← hK] at c2 HK ⊢
      rw [← hX] at c4
      have HC : Hid ((tkF f n i).c = k) := hc
      clear hK hX hc
      by_cases h9 : k ≤ 9
      · have e9 : ((if k ≤ 9 then k else 0 : Nat) : Int) = (k : Int) := by rw [if_pos h9]
        rw [e9] at HK
        have nk : ((k : Int) == 0) = false := by simp; omega
        have nk' : ¬ (k : Int) = 0 := by omega
        have e1 : IntKind.i64.wrap ((nd : Int) + 1) = ((nd + 1 : Nat) : Int) := by rw [IntKind.wrap_i64]; omega
        obtain ⟨nd1, hnd1⟩ : ∃ nd1, nd1 = nd + 1 := ⟨_, rfl⟩
        rw [← hnd1] at e1
        have HND : Hid (nd1 = nd + 1) := hnd1
        have HW : Hid (RdS w0 (.slice a n c) (w.setCell ⟨w0.heap.size, 6, none⟩ (.int .i64 (nd1 : Int))) ((tkF f n i).e : Int) (tkPos f n i : Int) (nd1 : Int) 0 0 (kdW (tkF f n i).c) (strT (tkF f n i).q) vn N) := HH.out.put 6 (.int .i64 (nd1 : Int)) (mk' := (nd1 : Int)) rfl
        by_cases h100 : nd = 100
        · have i100 : (100 : Int) < (nd1 : Int) := by omega
          have HT : Hid (tkP (tkF f n) (tkPos f n) k (.inl (i, nd, N)) = .inr (4, (tkPos f n i : Int))) := by
            show (if (tkF f n i).c = k then (if 1 ≤ k ∧ k ≤ 9 then (if nd = 100 then _ else _) else _) else _) = _
            rw [if_pos HC.out, if_pos ⟨hk1, h9⟩, if_pos h100]
          clear hnd1 h100
          go_enter Try.func56, Try.ntmps56
          go_wp2_with fail
          refine (HK.out _).mono ?_
          rintro e w1 ⟨rfl, hw⟩
          rw [hw]
          clear hw w1
          go_wp2_with fail
          refine (fail_yes w0 _ _ _ _ _ _ _ _ _ _ 4 HW.out).mono ?_
          rintro e w3 ⟨rfl, hR3⟩
          have HX : Hid (TkRet (tkF f n) (tkPos f n) m w0 (.slice a n c) p k (.inl (i, nd, N)) (.returned (.string { data := #[] })) w3) := ⟨[], rfl, fun e => by omega, by rw [HT.out]; exact ⟨_, _, _, _, _, _, hR3, by show N.length ≤ p - 1; omega, by show (4 : Int) ≠ 0; omega⟩⟩
          clear hR3
          go_wp2
          refine bodyPost_ret (v := .string { data := #[] }) (by simp [results, Try.results56, go_sem]) rfl HX.out
        · have i100 : ¬ (100 : Int) < (nd1 : Int) := by omega
          have HT : Hid (tkP (tkF f n) (tkPos f n) k (.inl (i, nd, N)) = nrm (tkF f n) (tkPos f n) (i + 1) nd1 N) := by
            show (if (tkF f n i).c = k then (if 1 ≤ k ∧ k ≤ 9 then (if nd = 100 then _ else _) else _) else _) = _
            rw [if_pos HC.out, if_pos ⟨hk1, h9⟩, if_neg h100, HND.out]
          clear hnd1 h100
          go_enter Try.func56, Try.ntmps56
          go_wp2_with fail
          refine (HK.out _).mono ?_
          rintro e w1 ⟨rfl, hw⟩
          rw [hw]
          clear hw w1
          go_wp2_with fail
          refine (HADV.out _ nd1 HW.out).mono ?_
          rintro e w3 ⟨rfl, hR3⟩
          have HX : Hid (TkRet (tkF f n) (tkPos f n) m w0 (.slice a n c) p k (.inl (i, nd, N)) (.returned (.string X)) w3) := ⟨_, by rw [HXX.out], HQ.out, by rw [HT.out]; exact hR3⟩
          clear hR3
          go_wp2
          refine bodyPost_ret (v := .string X) (by simp [results, Try.results56, go_sem]) rfl HX.out
      · have e9 : ((if k ≤ 9 then k else 0 : Nat) : Int) = 0 := by rw [if_neg h9]; rfl
        rw [e9] at HK
        have i100 : ¬ (100 : Int) < (nd : Int) := by omega
        have HT : Hid (tkP (tkF f n) (tkPos f n) k (.inl (i, nd, N)) = nrm (tkF f n) (tkPos f n) (i + 1) nd N) := by
          show (if (tkF f n i).c = k then (if 1 ≤ k ∧ k ≤ 9 then (if nd = 100 then _ else _) else _) else _) = _
          rw [if_pos HC.out, if_neg (by omega)]
        go_enter Try.func56, Try.ntmps56
        go_wp2_with fail
        refine (HK.out _).mono ?_
        rintro e w1 ⟨rfl, hw⟩
        rw [hw]
        clear hw w1
        go_wp2_with fail
        refine (HADV.out _ nd HH.out).mono ?_
        rintro e w3 ⟨rfl, hR3⟩
        have HX : Hid (TkRet (tkF f n) (tkPos f n) m w0 (.slice a n c) p k (.inl (i, nd, N)) (.returned (.string X)) w3) := ⟨_, by rw [HXX.out], HQ.out, by rw [HT.out]; exact hR3⟩
        clear hR3
        go_wp2
        refine bodyPost_ret (v := .string X) (by simp [results, Try.results56, go_sem]) rfl HX.out
    · have hne := kdW_ne (a := (tkF f n i).c) (c := k) h15 hk2 hc
      have HT : Hid (tkP (tkF f n) (tkPos f n) k (.inl (i, nd, N)) = .inr (3, (tkPos f n i : Int))) := by
        show (if (tkF f n i).c = k then _ else _) = _
        rw [if_neg hc]
      have HQ : Hid (k = 14 → ([] : List Int) = tkQ (tkF f n) (.inl (i, nd, N))) := fun e => by rw [tk_q, if_neg (by rw [← e]; exact hc)]
      obtain ⟨n1, n2⟩ := hne
      clear hc
      obtain ⟨Z, hZ⟩ : ∃ Z, Z = kdW (tkF f n i).c := ⟨_, rfl⟩
      rw [← hZ] at c2 n1 n2
      clear hZ
      generalize kdW k = K at *
      go_enter Try.func56, Try.ntmps56
      go_wp2_with fail
      refine (fail_yes w0 _ _ _ _ _ _ _ _ _ _ 3 HH.out).mono ?_
      rintro e w3 ⟨rfl, hR3⟩
      have HX : Hid (TkRet (tkF f n) (tkPos f n) m w0 (.slice a n c) p k (.inl (i, nd, N)) (.returned (.string { data := #[] })) w3) := ⟨[], rfl, HQ.out, by rw [HT.out]; exact ⟨_, _, _, _, _, _, hR3, by show N.length ≤ p - 1; omega, by show (3 : Int) ≠ 0; omega⟩⟩
      clear hR3
      go_wp2
      refine bodyPost_ret (v := .string { data := #[] }) (by simp [results, Try.results56, go_sem]) rfl HX.out
end Go.Proofs.Ytocmbnocdjnfpaa

namespace Go.Proofs.Ytocmbnocdjnfpaa
open Go.RowKit Go.Deep
set_option linter.unusedVariables false
set_option linter.unusedSimpArgs false
set_option maxRecDepth 100000

def OkS (T : Nat → Tok) (m i0 : Nat) (σ : (Nat × Nat × List Nd) ⊕ (Int × Int)) : Prop := ∀ s, σ = .inl s → Okk T m s ∧ i0 ≤ s.1
theorem OkS.up {T : Nat → Tok} {m i0 a : Nat} {σ σ' : (Nat × Nat × List Nd) ⊕ (Int × Int)} (h : OkS T m i0 σ) (hu : Up T m a σ σ') : OkS T m (i0 + a) σ' := fun s' e => by
  obtain ⟨s, e0, h1, h2⟩ := hu s' e
  obtain ⟨k1, k2⟩ := h s e0
  exact ⟨h2 k1, by omega⟩
theorem OkS.less {T : Nat → Tok} {m i0 i1 : Nat} {σ : (Nat × Nat × List Nd) ⊕ (Int × Int)} (h : OkS T m i0 σ) (hi : i1 ≤ i0) : OkS T m i1 σ := fun s e => ⟨(h s e).1, by have := (h s e).2; omega⟩
theorem OkS.two {T : Nat → Tok} {m i0 : Nat} {σ : (Nat × Nat × List Nd) ⊕ (Int × Int)} (h : OkS T m i0 σ) : ∀ s, σ = .inl s → s.1 < m ∧ s.2.1 ≤ 100 := fun s e => ⟨(h s e).1.1, (h s e).1.2.2⟩
/-- What the reader's functions give back. -/
def FRet (T : Nat → Tok) (A : Nat → Nat) (m : Nat) (w0 : World) (tv : Value) (p : Nat) (σ : (Nat × Nat × List Nd) ⊕ (Int × Int)) (e : Ending) (w' : World) : Prop := e = .returned (.tuple #[]) ∧ RS T A m w0 tv p w' σ
theorem RS.pos {T : Nat → Tok} {A : Nat → Nat} {m : Nat} {w0 w : World} {tv : Value} {p i0 : Nat} {s : Nat × Nat × List Nd} (h : RS T A m w0 tv p w (.inl s)) (ho : OkS T m i0 (.inl s)) : 1 ≤ p := by
  obtain ⟨vn, h1, h2, h3⟩ := h
  have := (ho s rfl).1.1
  omega

section
variable {w0 : World} {a : Option Addr} {n c : Nat} {f : Nat → Int} {m : Nat}
set_option maxHeartbeats 1000000 in
theorem call_rs (E : Env w0 a n c f) (hl : LastK (tkF f n) m) (k : Nat) (kind : ByteArray) (hkd : kind = kdW k) (hk1 : 1 ≤ k) (hk2 : k ≤ 9) (w : World) (p i0 : Nat) (hp : p ≤ 9000) (σ : (Nat × Nat × List Nd) ⊕ (Int × Int)) (h : RS (tkF f n) (tkPos f n) m w0 (.slice a n c) p w σ) (hok : OkS (tkF f n) m i0 σ) :
    Calls Try.prog 167 #[.pointer (some ⟨w0.heap.size, 0, none⟩), .string kind] w (FRet (tkF f n) (tkPos f n) m w0 (.slice a n c) (p - dl σ + 1) (callF (tkF f n) (tkPos f n) k σ)) := by
  have ok1 := hok.up (up_tk (A := tkPos f n) hl (c := k) (by omega) (by omega) σ)
  have ok2 := ok1.up (up_tk (A := tkPos f n) hl (c := 11) (by omega) (by omega) _)
  have ok3 := ok2.up (up_tk (A := tkPos f n) hl (c := 14) (by omega) (by omega) _)
  have H1 : Hid (Calls Try.prog 56 #[.pointer (some ⟨w0.heap.size, 0, none⟩), .string kind] w (TkRet (tkF f n) (tkPos f n) m w0 (.slice a n c) p k σ)) := take_rs E k kind hkd hk1 (by omega) w p σ h hok.two
  have H2 : Hid (∀ W, RS (tkF f n) (tkPos f n) m w0 (.slice a n c) (p - dl σ) W (tkP (tkF f n) (tkPos f n) k σ) → Calls Try.prog 56 #[.pointer (some ⟨w0.heap.size, 0, none⟩), .string { data := #[40] }] W (TkRet (tkF f n) (tkPos f n) m w0 (.slice a n c) (p - dl σ) 11 (tkP (tkF f n) (tkPos f n) k σ))) := fun W hW => take_rs E 11 _ rfl (by omega) (by omega) W _ _ hW ok1.two
  have H3 : Hid (∀ W p', RS (tkF f n) (tkPos f n) m w0 (.slice a n c) p' W (tkP (tkF f n) (tkPos f n) 11 (tkP (tkF f n) (tkPos f n) k σ)) → Calls Try.prog 56 #[.pointer (some ⟨w0.heap.size, 0, none⟩), .string { data := #[83, 84, 82] }] W (TkRet (tkF f n) (tkPos f n) m w0 (.slice a n c) p' 14 (tkP (tkF f n) (tkPos f n) 11 (tkP (tkF f n) (tkPos f n) k σ)))) := fun W p' hW => take_rs E 14 _ rfl (by omega) (by omega) W _ _ hW ok2.two
  have H4 : Hid (∀ W p', RS (tkF f n) (tkPos f n) m w0 (.slice a n c) p' W (tkP (tkF f n) (tkPos f n) 14 (tkP (tkF f n) (tkPos f n) 11 (tkP (tkF f n) (tkPos f n) k σ))) → Calls Try.prog 56 #[.pointer (some ⟨w0.heap.size, 0, none⟩), .string { data := #[41] }] W (TkRet (tkF f n) (tkPos f n) m w0 (.slice a n c) p' 12 (tkP (tkF f n) (tkPos f n) 14 (tkP (tkF f n) (tkPos f n) 11 (tkP (tkF f n) (tkPos f n) k σ))))) := fun W p' hW => take_rs E 12 _ rfl (by omega) (by omega) W _ _ hW ok3.two
  have HK : Hid (∀ W, Calls Try.prog 99 #[.string kind] W fun e w' => e = .returned (.int .i64 (k : Int)) ∧ w' = W) := fun W => by
    have := nodeKind_kd hk1 (by omega) W
    rw [if_pos hk2, ← hkd] at this
    exact this
  have H5 : Hid (∀ W q, RS (tkF f n) (tkPos f n) m w0 (.slice a n c) (p - dl σ) W (tkP (tkF f n) (tkPos f n) 12 (tkP (tkF f n) (tkPos f n) 14 (tkP (tkF f n) (tkPos f n) 11 (tkP (tkF f n) (tkPos f n) k σ)))) → q = tkQ (tkF f n) (tkP (tkF f n) (tkPos f n) 11 (tkP (tkF f n) (tkPos f n) k σ)) → Calls Try.prog 100 #[.pointer (some ⟨w0.heap.size, 0, none⟩), .int .i64 (k : Int), .string (strT q), .string { data := #[] }] W (FRet (tkF f n) (tkPos f n) m w0 (.slice a n c) (p - dl σ + 1) (callF (tkF f n) (tkPos f n) k σ))) := fun W q hW hq => by
    subst hq
    exact emit_rs hW (by omega) ⟨k, tkQ (tkF f n) (tkP (tkF f n) (tkPos f n) 11 (tkP (tkF f n) (tkPos f n) k σ)), []⟩ _ _ _ rfl (fun _ => rfl) (fun _ => rfl) ⟨_, [], rfl, rfl⟩
  clear ok1 ok2 ok3 hok h E hl hkd
  go_enter Try.func167, Try.ntmps167
  go_wp2_with fail
  refine H1.out.mono ?_
  rintro e w1 ⟨q1, rfl, _, h1⟩
  have G1 : Hid (RS (tkF f n) (tkPos f n) m w0 (.slice a n c) (p - dl σ) w1 (tkP (tkF f n) (tkPos f n) k σ)) := h1
  clear h1 H1
  go_wp2_with fail
  refine (H2.out w1 G1.out).mono ?_
  rintro e w2 ⟨q2, rfl, _, h2⟩
  have G2 : Hid (RS (tkF f n) (tkPos f n) m w0 (.slice a n c) (p - dl σ) w2 (tkP (tkF f n) (tkPos f n) 11 (tkP (tkF f n) (tkPos f n) k σ))) := h2.more (by omega)
  clear h2 H2 G1
  go_wp2_with fail
  refine (H3.out w2 _ G2.out).mono ?_
  rintro e w3 ⟨q3, rfl, hq3, h3⟩
  have HQ : Hid (q3 = tkQ (tkF f n) (tkP (tkF f n) (tkPos f n) 11 (tkP (tkF f n) (tkPos f n) k σ))) := hq3 rfl
  have G3 : Hid (RS (tkF f n) (tkPos f n) m w0 (.slice a n c) (p - dl σ) w3 (tkP (tkF f n) (tkPos f n) 14 (tkP (tkF f n) (tkPos f n) 11 (tkP (tkF f n) (tkPos f n) k σ)))) := h3.more (by omega)
  clear h3 H3 G2 hq3
  go_wp2_with fail
  refine (H4.out w3 _ G3.out).mono ?_
  rintro e w4 ⟨q4, rfl, _, h4⟩
  have G4 : Hid (RS (tkF f n) (tkPos f n) m w0 (.slice a n c) (p - dl σ) w4 (tkP (tkF f n) (tkPos f n) 12 (tkP (tkF f n) (tkPos f n) 14 (tkP (tkF f n) (tkPos f n) 11 (tkP (tkF f n) (tkPos f n) k σ))))) := h4.more (by omega)
  clear h4 H4 G3
  go_wp2_with fail
  refine (HK.out _).mono ?_
  rintro e w8 ⟨rfl, hw8⟩
  rw [hw8]
  clear hw8 w8 HK
  go_wp2_with fail
  refine (H5.out w4 q3 G4.out HQ.out).mono ?_
  rintro e w5 ⟨rfl, h5⟩
  have G5 : Hid (RS (tkF f n) (tkPos f n) m w0 (.slice a n c) (p - dl σ + 1) w5 (callF (tkF f n) (tkPos f n) k σ)) := h5
  clear h5 H5 G4
  go_wp2
  refine bodyPost_end (v := .tuple #[]) (by simp [results, Try.results167, go_sem]) rfl ⟨rfl, G5.out⟩
end
end Go.Proofs.Ytocmbnocdjnfpaa

namespace Go.Proofs.Ytocmbnocdjnfpaa
open Go.RowKit Go.Deep
set_option linter.unusedVariables false
set_option linter.unusedSimpArgs false
set_option maxRecDepth 100000

theorem kdW_no {c k : Nat} (L : List UInt8) (hL : (kdW k).data.toList = L) (hc : c ≤ 15) (hk : k ≤ 15) (h : c ≠ k) : ¬ (kdW c).toList = L ∧ ((kdW c).toList == L) = false := by
  have := (kdW_ne hc hk h).2
  rw [kdW_list k L hL] at this
  exact ⟨this, by simp [this]⟩
theorem kdS_le (f : Nat → Int) (n : Nat) (σ : (Nat × Nat × List Nd) ⊕ (Int × Int)) : kdS (tkF f n) σ ≤ 15 := by
  cases σ with
  | inl s => exact tkc15 f n s.1
  | inr x => exact Nat.zero_le _
theorem kdS_inl {T : Nat → Tok} {σ : (Nat × Nat × List Nd) ⊕ (Int × Int)} (h : kdS T σ ≠ 0) : ∃ s, σ = .inl s := by
  cases σ with
  | inl s => exact ⟨s, rfl⟩
  | inr x => exact absurd rfl h
theorem FRet.more {T : Nat → Tok} {A : Nat → Nat} {m : Nat} {w0 : World} {tv : Value} {p p' : Nat} {σ : (Nat × Nat × List Nd) ⊕ (Int × Int)} {e : Ending} {w' : World} (h : FRet T A m w0 tv p σ e w') (hp : p ≤ p') : FRet T A m w0 tv p' σ e w' := ⟨h.1, h.2.more hp⟩

section
variable {w0 : World} {a : Option Addr} {n c : Nat} {f : Nat → Int} {m : Nat}
/-- take, on a state. -/
theorem tk_rs (E : Env w0 a n c f) {i0 p : Nat} (k : Nat) (kind : ByteArray) (hkd : kind = kdW k) (hk1 : 1 ≤ k) (hk2 : k ≤ 15) (w : World) (σ : (Nat × Nat × List Nd) ⊕ (Int × Int)) (h : RS (tkF f n) (tkPos f n) m w0 (.slice a n c) p w σ) (hok : OkS (tkF f n) m i0 σ) :
    Calls Try.prog 56 #[.pointer (some ⟨w0.heap.size, 0, none⟩), .string kind] w fun e w' => ∃ q, e = .returned (.string (strT q)) ∧ (k = 14 → q = tkQ (tkF f n) σ) ∧ RS (tkF f n) (tkPos f n) m w0 (.slice a n c) (p - dl σ) w' (tkP (tkF f n) (tkPos f n) k σ) := take_rs E k kind hkd hk1 hk2 w p σ h hok.two
set_option maxHeartbeats 1000000 in
theorem move_rs (E : Env w0 a n c f) (hl : LastK (tkF f n) m) (w : World) (p i0 : Nat) (hp : p ≤ 9000) (σ : (Nat × Nat × List Nd) ⊕ (Int × Int)) (h : RS (tkF f n) (tkPos f n) m w0 (.slice a n c) p w σ) (hok : OkS (tkF f n) m i0 σ) :
    Calls Try.prog 151 #[.pointer (some ⟨w0.heap.size, 0, none⟩)] w (FRet (tkF f n) (tkPos f n) m w0 (.slice a n c) (p - dl σ + 1) (moveF (tkF f n) (tkPos f n) σ)) := by
  have HE : Hid (Env w0 a n c f) := E
  have HL : Hid (LastK (tkF f n) m) := hl
  have HS : Hid (RS (tkF f n) (tkPos f n) m w0 (.slice a n c) p w σ) := h
  have HO : Hid (OkS (tkF f n) m i0 σ) := hok
  have c2 := h.kind
  have hlt := h.bel.2
  have h15 := kdS_le f n σ
  clear h hok E hl
  by_cases h4 : kdS (tkF f n) σ = 4
  · have HM : Hid (moveF (tkF f n) (tkPos f n) σ = callF (tkF f n) (tkPos f n) 4 σ) := by show _ = _; unfold moveF; rw [if_pos h4]
    rw [h4] at c2
    have c2' : w.cell? ⟨w0.heap.size, 2, none⟩ = some (.string { data := #[105, 110] }) := c2
    clear c2 h4
    go_enter Try.func151, Try.ntmps151
    go_wp2_with fail
    refine (call_rs HE.out HL.out 4 _ rfl (by omega) (by omega) w p i0 hp σ HS.out HO.out).mono ?_
    rintro e w1 ⟨rfl, h1⟩
    have GL : Hid (RS (tkF f n) (tkPos f n) m w0 (.slice a n c) (p - dl σ + 1) w1 (moveF (tkF f n) (tkPos f n) σ)) := by show RS _ _ _ _ _ _ _ _; rw [HM.out]; exact h1
    clear h1
    go_wp2
    refine bodyPost_end (v := .tuple #[]) (by simp [results, Try.results151, go_sem]) rfl ⟨rfl, GL.out⟩
  by_cases h5 : kdS (tkF f n) σ = 5
  · have HM : Hid (moveF (tkF f n) (tkPos f n) σ = hasF (tkF f n) (tkPos f n) σ) := by show _ = _; unfold moveF; rw [if_neg h4, if_pos h5]
    rw [h5] at c2
    have c2' : w.cell? ⟨w0.heap.size, 2, none⟩ = some (.string { data := #[104, 97, 115] }) := c2
    clear c2 h5 h4
    go_enter Try.func151, Try.ntmps151
    go_wp2_with fail
    refine (tk_rs HE.out 5 { data := #[104, 97, 115] } rfl (by omega) (by omega) w σ HS.out HO.out).mono ?_
    rintro e v0 ⟨q0, rfl, hq0, h0⟩
    have HS0 : Hid (RS (tkF f n) (tkPos f n) m w0 (.slice a n c) (p - dl σ) v0 (tkP (tkF f n) (tkPos f n) 5 σ)) := h0.more (by first | omega | (simp [dl]; done) | exact Nat.le_refl _)
    have HO0 : Hid (OkS (tkF f n) m (i0 + 1) (tkP (tkF f n) (tkPos f n) 5 σ)) := (HO.out.up (up_tk (A := (tkPos f n)) HL.out (c := 5) (by omega) (by omega) σ)).less (by omega)
    clear h0 hq0
    go_wp2_with fail
    refine (tk_rs HE.out 11 { data := #[40] } rfl (by omega) (by omega) v0 (tkP (tkF f n) (tkPos f n) 5 σ) HS0.out HO0.out).mono ?_
    rintro e v1 ⟨q1, rfl, hq1, h1⟩
    have HS1 : Hid (RS (tkF f n) (tkPos f n) m w0 (.slice a n c) (p - dl σ) v1 (tkP (tkF f n) (tkPos f n) 11 (tkP (tkF f n) (tkPos f n) 5 σ))) := h1.more (by omega)
    have HO1 : Hid (OkS (tkF f n) m (i0 + 1) (tkP (tkF f n) (tkPos f n) 11 (tkP (tkF f n) (tkPos f n) 5 σ))) := (HO0.out.up (up_tk (A := (tkPos f n)) HL.out (c := 11) (by omega) (by omega) (tkP (tkF f n) (tkPos f n) 5 σ))).less (by omega)
    clear h1 hq1
    go_wp2_with fail
    refine (tk_rs HE.out 14 { data := #[83, 84, 82] } rfl (by omega) (by omega) v1 (tkP (tkF f n) (tkPos f n) 11 (tkP (tkF f n) (tkPos f n) 5 σ)) HS1.out HO1.out).mono ?_
    rintro e v2 ⟨q2, rfl, hq2, h2⟩
    have HS2 : Hid (RS (tkF f n) (tkPos f n) m w0 (.slice a n c) (p - dl σ) v2 (tkP (tkF f n) (tkPos f n) 14 (tkP (tkF f n) (tkPos f n) 11 (tkP (tkF f n) (tkPos f n) 5 σ)))) := h2.more (by omega)
    have HO2 : Hid (OkS (tkF f n) m (i0 + 1) (tkP (tkF f n) (tkPos f n) 14 (tkP (tkF f n) (tkPos f n) 11 (tkP (tkF f n) (tkPos f n) 5 σ)))) := (HO1.out.up (up_tk (A := (tkPos f n)) HL.out (c := 14) (by omega) (by omega) (tkP (tkF f n) (tkPos f n) 11 (tkP (tkF f n) (tkPos f n) 5 σ)))).less (by omega)
    have HQ2 : Hid (q2 = tkQ (tkF f n) (tkP (tkF f n) (tkPos f n) 11 (tkP (tkF f n) (tkPos f n) 5 σ))) := hq2 rfl
    clear h2 hq2
    go_wp2_with fail
    refine (tk_rs HE.out 13 { data := #[44] } rfl (by omega) (by omega) v2 (tkP (tkF f n) (tkPos f n) 14 (tkP (tkF f n) (tkPos f n) 11 (tkP (tkF f n) (tkPos f n) 5 σ))) HS2.out HO2.out).mono ?_
    rintro e v3 ⟨q3, rfl, hq3, h3⟩
    have HS3 : Hid (RS (tkF f n) (tkPos f n) m w0 (.slice a n c) (p - dl σ) v3 (tkP (tkF f n) (tkPos f n) 13 (tkP (tkF f n) (tkPos f n) 14 (tkP (tkF f n) (tkPos f n) 11 (tkP (tkF f n) (tkPos f n) 5 σ))))) := h3.more (by omega)
    have HO3 : Hid (OkS (tkF f n) m (i0 + 1) (tkP (tkF f n) (tkPos f n) 13 (tkP (tkF f n) (tkPos f n) 14 (tkP (tkF f n) (tkPos f n) 11 (tkP (tkF f n) (tkPos f n) 5 σ))))) := (HO2.out.up (up_tk (A := (tkPos f n)) HL.out (c := 13) (by omega) (by omega) (tkP (tkF f n) (tkPos f n) 14 (tkP (tkF f n) (tkPos f n) 11 (tkP (tkF f n) (tkPos f n) 5 σ))))).less (by omega)
    clear h3 hq3
    go_wp2_with fail
    refine (tk_rs HE.out 14 { data := #[83, 84, 82] } rfl (by omega) (by omega) v3 (tkP (tkF f n) (tkPos f n) 13 (tkP (tkF f n) (tkPos f n) 14 (tkP (tkF f n) (tkPos f n) 11 (tkP (tkF f n) (tkPos f n) 5 σ)))) HS3.out HO3.out).mono ?_
    rintro e v4 ⟨q4, rfl, hq4, h4⟩
    have HS4 : Hid (RS (tkF f n) (tkPos f n) m w0 (.slice a n c) (p - dl σ) v4 (tkP (tkF f n) (tkPos f n) 14 (tkP (tkF f n) (tkPos f n) 13 (tkP (tkF f n) (tkPos f n) 14 (tkP (tkF f n) (tkPos f n) 11 (tkP (tkF f n) (tkPos f n) 5 σ)))))) := h4.more (by omega)
    have HO4 : Hid (OkS (tkF f n) m (i0 + 1) (tkP (tkF f n) (tkPos f n) 14 (tkP (tkF f n) (tkPos f n) 13 (tkP (tkF f n) (tkPos f n) 14 (tkP (tkF f n) (tkPos f n) 11 (tkP (tkF f n) (tkPos f n) 5 σ)))))) := (HO3.out.up (up_tk (A := (tkPos f n)) HL.out (c := 14) (by omega) (by omega) (tkP (tkF f n) (tkPos f n) 13 (tkP (tkF f n) (tkPos f n) 14 (tkP (tkF f n) (tkPos f n) 11 (tkP (tkF f n) (tkPos f n) 5 σ)))))).less (by omega)
    have HQ4 : Hid (q4 = tkQ (tkF f n) (tkP (tkF f n) (tkPos f n) 13 (tkP (tkF f n) (tkPos f n) 14 (tkP (tkF f n) (tkPos f n) 11 (tkP (tkF f n) (tkPos f n) 5 σ))))) := hq4 rfl
    clear h4 hq4
    go_wp2_with fail
    refine (tk_rs HE.out 12 { data := #[41] } rfl (by omega) (by omega) v4 (tkP (tkF f n) (tkPos f n) 14 (tkP (tkF f n) (tkPos f n) 13 (tkP (tkF f n) (tkPos f n) 14 (tkP (tkF f n) (tkPos f n) 11 (tkP (tkF f n) (tkPos f n) 5 σ))))) HS4.out HO4.out).mono ?_
    rintro e v5 ⟨q5, rfl, hq5, h5⟩
    have HS5 : Hid (RS (tkF f n) (tkPos f n) m w0 (.slice a n c) (p - dl σ) v5 (tkP (tkF f n) (tkPos f n) 12 (tkP (tkF f n) (tkPos f n) 14 (tkP (tkF f n) (tkPos f n) 13 (tkP (tkF f n) (tkPos f n) 14 (tkP (tkF f n) (tkPos f n) 11 (tkP (tkF f n) (tkPos f n) 5 σ))))))) := h5.more (by omega)
    have HO5 : Hid (OkS (tkF f n) m (i0 + 1) (tkP (tkF f n) (tkPos f n) 12 (tkP (tkF f n) (tkPos f n) 14 (tkP (tkF f n) (tkPos f n) 13 (tkP (tkF f n) (tkPos f n) 14 (tkP (tkF f n) (tkPos f n) 11 (tkP (tkF f n) (tkPos f n) 5 σ))))))) := (HO4.out.up (up_tk (A := (tkPos f n)) HL.out (c := 12) (by omega) (by omega) (tkP (tkF f n) (tkPos f n) 14 (tkP (tkF f n) (tkPos f n) 13 (tkP (tkF f n) (tkPos f n) 14 (tkP (tkF f n) (tkPos f n) 11 (tkP (tkF f n) (tkPos f n) 5 σ))))))).less (by omega)
    clear h5 hq5
    go_wp2_with fail
    refine (emit_rs HS5.out (by omega) ⟨5, tkQ (tkF f n) (tkP (tkF f n) (tkPos f n) 11 (tkP (tkF f n) (tkPos f n) 5 σ)), tkQ (tkF f n) (tkP (tkF f n) (tkPos f n) 13 (tkP (tkF f n) (tkPos f n) 14 (tkP (tkF f n) (tkPos f n) 11 (tkP (tkF f n) (tkPos f n) 5 σ))))⟩ 5 (strT q2) (strT q4) rfl (fun _ => by rw [HQ2.out]) (fun _ => by rw [HQ4.out]) ⟨_, _, rfl, rfl⟩).mono ?_
    rintro e w1 ⟨rfl, h1⟩
    have GL : Hid (RS (tkF f n) (tkPos f n) m w0 (.slice a n c) (p - dl σ + 1) w1 (moveF (tkF f n) (tkPos f n) σ)) := by show RS _ _ _ _ _ _ _ _; rw [HM.out]; exact h1
    clear h1
    go_wp2
    refine bodyPost_end (v := .tuple #[]) (by simp [results, Try.results151, go_sem]) rfl ⟨rfl, GL.out⟩
  have HM : Hid (moveF (tkF f n) (tkPos f n) σ = callF (tkF f n) (tkPos f n) 3 σ) := by show _ = _; unfold moveF; rw [if_neg h4, if_neg h5]
  obtain ⟨n4, n4'⟩ := kdW_no [105, 110] (k := 4) rfl h15 (by omega) h4
  obtain ⟨n5, n5'⟩ := kdW_no [104, 97, 115] (k := 5) rfl h15 (by omega) h5
  generalize kdW (kdS (tkF f n) σ) = K at *
  clear h4 h5 h15
  go_enter Try.func151, Try.ntmps151
  go_wp2_with fail
  refine (call_rs HE.out HL.out 3 _ rfl (by omega) (by omega) w p i0 hp σ HS.out HO.out).mono ?_
  rintro e w1 ⟨rfl, h1⟩
  have GL : Hid (RS (tkF f n) (tkPos f n) m w0 (.slice a n c) (p - dl σ + 1) w1 (moveF (tkF f n) (tkPos f n) σ)) := by show RS _ _ _ _ _ _ _ _; rw [HM.out]; exact h1
  clear h1
  go_wp2
  refine bodyPost_end (v := .tuple #[]) (by simp [results, Try.results151, go_sem]) rfl ⟨rfl, GL.out⟩
set_option maxHeartbeats 1000000 in
theorem inner_rs (E : Env w0 a n c f) (hl : LastK (tkF f n) m) (rec : (Nat × Nat × List Nd) ⊕ (Int × Int) → (Nat × Nat × List Nd) ⊕ (Int × Int)) (hr : ∀ σ, Up (tkF f n) m 0 σ (rec σ)) (i0 : Nat) (hrec : (∀ W p' s, i0 < s.1 → Okk (tkF f n) m s → p' ≤ 9000 → RS (tkF f n) (tkPos f n) m w0 (.slice a n c) p' W (.inl s) → Calls Try.prog 55 #[.pointer (some ⟨w0.heap.size, 0, none⟩)] W (FRet (tkF f n) (tkPos f n) m w0 (.slice a n c) p' (rec (.inl s))))) (w : World) (p : Nat) (hp : p ≤ 9000) (σ : (Nat × Nat × List Nd) ⊕ (Int × Int)) (h : RS (tkF f n) (tkPos f n) m w0 (.slice a n c) p w σ) (hok : OkS (tkF f n) m i0 σ) :
    Calls Try.prog 168 #[.pointer (some ⟨w0.heap.size, 0, none⟩)] w (FRet (tkF f n) (tkPos f n) m w0 (.slice a n c) p (innerF (tkF f n) (tkPos f n) rec σ)) := by
  have HE : Hid (Env w0 a n c f) := E
  have HL : Hid (LastK (tkF f n) m) := hl
  have HS : Hid (RS (tkF f n) (tkPos f n) m w0 (.slice a n c) p w σ) := h
  have HO : Hid (OkS (tkF f n) m i0 σ) := hok
  have HREC : Hid (∀ W p' s, i0 < s.1 → Okk (tkF f n) m s → p' ≤ 9000 → RS (tkF f n) (tkPos f n) m w0 (.slice a n c) p' W (.inl s) → Calls Try.prog 55 #[.pointer (some ⟨w0.heap.size, 0, none⟩)] W (FRet (tkF f n) (tkPos f n) m w0 (.slice a n c) p' (rec (.inl s)))) := hrec
  have HUP : Hid (∀ σ, Up (tkF f n) m 0 σ (rec σ)) := hr
  clear h hok E hl hrec hr
  go_enter Try.func168, Try.ntmps168
  go_wp2_with fail
  refine (tk_rs HE.out 11 { data := #[40] } rfl (by omega) (by omega) w σ HS.out HO.out).mono ?_
  rintro e w1 ⟨q1, rfl, _, h1⟩
  have HS1 : Hid (RS (tkF f n) (tkPos f n) m w0 (.slice a n c) p w1 (tkP (tkF f n) (tkPos f n) 11 σ)) := h1.more (by omega)
  have HO1 : Hid (OkS (tkF f n) m (i0 + 1) (tkP (tkF f n) (tkPos f n) 11 σ)) := HO.out.up (up_tk (A := (tkPos f n)) HL.out (c := 11) (by omega) (by omega) σ)
  clear h1
  obtain ⟨σ1, hσ1⟩ : ∃ σ1, σ1 = (tkP (tkF f n) (tkPos f n) 11 σ) := ⟨_, rfl⟩
  have HI : Hid (innerF (tkF f n) (tkPos f n) rec σ = tkP (tkF f n) (tkPos f n) 12 (recF rec σ1)) := by show _ = _; rw [hσ1]; rfl
  rw [← hσ1] at HS1 HO1
  clear hσ1
  have hlt := HS1.out.bel.2
  cases σ1 with
  | inl s =>
    have c7 : w1.cell? ⟨w0.heap.size, 7, none⟩ = some (.int .i64 0) := by
      obtain ⟨vn, g1, _⟩ := HS1.out
      exact g1.cells.2.2.2.2.2.2.2.1
    have HP : Hid (Calls Try.prog 55 #[.pointer (some ⟨w0.heap.size, 0, none⟩)] w1 (FRet (tkF f n) (tkPos f n) m w0 (.slice a n c) p (rec (.inl s)))) := HREC.out w1 p s (by have := (HO1.out s rfl).2; omega) (HO1.out s rfl).1 hp HS1.out
    have HO2 : Hid (OkS (tkF f n) m (i0 + 1) (rec (.inl s))) := HO1.out.up (HUP.out _)
    clear HREC HUP
    go_wp2_with fail
    refine HP.out.mono ?_
    rintro e w2 ⟨rfl, h2⟩
    have HS2 : Hid (RS (tkF f n) (tkPos f n) m w0 (.slice a n c) p w2 (rec (.inl s))) := h2
    clear h2 HP c7
    go_wp2_with fail
    refine (tk_rs HE.out 12 { data := #[41] } rfl (by omega) (by omega) w2 (rec (.inl s)) HS2.out HO2.out).mono ?_
    rintro e w3 ⟨q3, rfl, _, h3⟩
    have GL : Hid (RS (tkF f n) (tkPos f n) m w0 (.slice a n c) p w3 (innerF (tkF f n) (tkPos f n) rec σ)) := by show RS _ _ _ _ _ _ _ _; rw [HI.out]; exact h3.more (by omega)
    clear h3
    go_wp2
    refine bodyPost_end (v := .tuple #[]) (by simp [results, Try.results168, go_sem]) rfl ⟨rfl, GL.out⟩
  | inr x =>
    obtain ⟨e7, c7, n7⟩ : ∃ e : Int, w1.cell? ⟨w0.heap.size, 7, none⟩ = some (.int .i64 e) ∧ e ≠ 0 := by
      obtain ⟨bh, ta, mk, ct, vn, N, g1, _, g3⟩ := HS1.out
      exact ⟨_, g1.cells.2.2.2.2.2.2.2.1, g3⟩
    have n7' : (e7 == 0) = false := by simp [n7]
    clear HREC HUP
    go_wp2_with fail
    refine (tk_rs HE.out 12 { data := #[41] } rfl (by omega) (by omega) w1 (.inr x) HS1.out HO1.out).mono ?_
    rintro e w3 ⟨q3, rfl, _, h3⟩
    have GL : Hid (RS (tkF f n) (tkPos f n) m w0 (.slice a n c) p w3 (innerF (tkF f n) (tkPos f n) rec σ)) := by show RS _ _ _ _ _ _ _ _; rw [HI.out]; exact h3.more (by omega)
    clear h3
    go_wp2
    refine bodyPost_end (v := .tuple #[]) (by simp [results, Try.results168, go_sem]) rfl ⟨rfl, GL.out⟩
set_option maxHeartbeats 1000000 in
theorem prim_rs (E : Env w0 a n c f) (hl : LastK (tkF f n) m) (rec : (Nat × Nat × List Nd) ⊕ (Int × Int) → (Nat × Nat × List Nd) ⊕ (Int × Int)) (hr : ∀ σ, Up (tkF f n) m 0 σ (rec σ)) (i0 : Nat) (hrec : (∀ W p' s, i0 < s.1 → Okk (tkF f n) m s → p' ≤ 9000 → RS (tkF f n) (tkPos f n) m w0 (.slice a n c) p' W (.inl s) → Calls Try.prog 55 #[.pointer (some ⟨w0.heap.size, 0, none⟩)] W (FRet (tkF f n) (tkPos f n) m w0 (.slice a n c) p' (rec (.inl s))))) (w : World) (p : Nat) (hp : p ≤ 9000) (σ : (Nat × Nat × List Nd) ⊕ (Int × Int)) (h : RS (tkF f n) (tkPos f n) m w0 (.slice a n c) p w σ) (hok : OkS (tkF f n) m i0 σ) :
    Calls Try.prog 150 #[.pointer (some ⟨w0.heap.size, 0, none⟩)] w (FRet (tkF f n) (tkPos f n) m w0 (.slice a n c) p (primF (tkF f n) (tkPos f n) rec σ)) := by
  have HE : Hid (Env w0 a n c f) := E
  have HL : Hid (LastK (tkF f n) m) := hl
  have HS : Hid (RS (tkF f n) (tkPos f n) m w0 (.slice a n c) p w σ) := h
  have HO : Hid (OkS (tkF f n) m i0 σ) := hok
  have c2 := h.kind
  have hlt := h.bel.2
  have h15 := kdS_le f n σ
  have HIN : Hid (∀ W p' σ', p' ≤ 9000 → RS (tkF f n) (tkPos f n) m w0 (.slice a n c) p' W σ' → OkS (tkF f n) m i0 σ' → Calls Try.prog 168 #[.pointer (some ⟨w0.heap.size, 0, none⟩)] W (FRet (tkF f n) (tkPos f n) m w0 (.slice a n c) p' (innerF (tkF f n) (tkPos f n) rec σ'))) := fun W p' σ' q1 q2 q3 => inner_rs HE.out HL.out rec hr i0 hrec W p' q1 σ' q2 q3
  have HPP : Hid (kdS (tkF f n) σ ≠ 0 → 1 ≤ p ∧ dl σ = 1) := fun e => by
    obtain ⟨s, rfl⟩ := kdS_inl e
    exact ⟨HS.out.pos HO.out, rfl⟩
  clear h hok E hl hrec hr
  by_cases h1 : kdS (tkF f n) σ = 1
  · obtain ⟨p1, p2⟩ := HPP.out (by omega)
    have HM : Hid (primF (tkF f n) (tkPos f n) rec σ = emP ⟨1, [], []⟩ (tkP (tkF f n) (tkPos f n) 1 σ)) := by show _ = _; unfold primF; rw [if_pos h1]
    rw [h1] at c2
    have c2' : w.cell? ⟨w0.heap.size, 2, none⟩ = some (.string { data := #[97, 108, 108] }) := c2
    clear c2 h1 HIN
    go_enter Try.func150, Try.ntmps150
    go_wp2_with fail
    refine (tk_rs HE.out 1 { data := #[97, 108, 108] } rfl (by omega) (by omega) w σ HS.out HO.out).mono ?_
    rintro e v0 ⟨q0, rfl, hq0, h0⟩
    have HS0 : Hid (RS (tkF f n) (tkPos f n) m w0 (.slice a n c) (p - 1) v0 (tkP (tkF f n) (tkPos f n) 1 σ)) := h0.more (by first | omega | (simp [dl]; done) | exact Nat.le_refl _)
    have HO0 : Hid (OkS (tkF f n) m (i0 + 1) (tkP (tkF f n) (tkPos f n) 1 σ)) := (HO.out.up (up_tk (A := (tkPos f n)) HL.out (c := 1) (by omega) (by omega) σ)).less (by omega)
    clear h0 hq0
    go_wp2_with fail
    refine (emit_rs HS0.out (by omega) ⟨1, [], []⟩ 1 { data := #[] } { data := #[] } rfl (fun _ => rfl) (fun _ => rfl) ⟨[], [], rfl, rfl⟩).mono ?_
    rintro e w1 ⟨rfl, h1⟩
    have GL : Hid (RS (tkF f n) (tkPos f n) m w0 (.slice a n c) p w1 (primF (tkF f n) (tkPos f n) rec σ)) := by show RS _ _ _ _ _ _ _ _; rw [HM.out]; exact h1.more (by omega)
    clear h1
    go_wp2
    refine bodyPost_end (v := .tuple #[]) (by simp [results, Try.results150, go_sem]) rfl ⟨rfl, GL.out⟩
  by_cases h2 : kdS (tkF f n) σ = 2
  · obtain ⟨p1, p2⟩ := HPP.out (by omega)
    have HM : Hid (primF (tkF f n) (tkPos f n) rec σ = callF (tkF f n) (tkPos f n) 2 σ) := by show _ = _; unfold primF; rw [if_neg h1, if_pos h2]
    rw [h2] at c2
    have c2' : w.cell? ⟨w0.heap.size, 2, none⟩ = some (.string { data := #[118] }) := c2
    clear c2 h1 h2 HIN
    go_enter Try.func150, Try.ntmps150
    go_wp2_with fail
    refine (call_rs HE.out HL.out 2 _ rfl (by omega) (by omega) w p i0 hp σ HS.out HO.out).mono ?_
    rintro e w1 ⟨rfl, h1⟩
    have GL : Hid (RS (tkF f n) (tkPos f n) m w0 (.slice a n c) p w1 (primF (tkF f n) (tkPos f n) rec σ)) := by show RS _ _ _ _ _ _ _ _; rw [HM.out]; exact h1.more (by omega)
    clear h1
    go_wp2
    refine bodyPost_end (v := .tuple #[]) (by simp [results, Try.results150, go_sem]) rfl ⟨rfl, GL.out⟩
  by_cases h9 : kdS (tkF f n) σ = 9
  · obtain ⟨p1, p2⟩ := HPP.out (by omega)
    have HM : Hid (primF (tkF f n) (tkPos f n) rec σ = emP ⟨9, tkQ (tkF f n) (tkP (tkF f n) (tkPos f n) 9 σ), []⟩ (innerF (tkF f n) (tkPos f n) rec (tkP (tkF f n) (tkPos f n) 14 (tkP (tkF f n) (tkPos f n) 9 σ)))) := by show _ = _; unfold primF; rw [if_neg h1, if_neg h2, if_pos h9]
    rw [h9] at c2
    have c2' : w.cell? ⟨w0.heap.size, 2, none⟩ = some (.string { data := #[103, 114, 97, 112, 104] }) := c2
    clear c2 h1 h2 h9
    go_enter Try.func150, Try.ntmps150
    go_wp2_with fail
    refine (tk_rs HE.out 9 { data := #[103, 114, 97, 112, 104] } rfl (by omega) (by omega) w σ HS.out HO.out).mono ?_
    rintro e v0 ⟨q0, rfl, hq0, h0⟩
    have HS0 : Hid (RS (tkF f n) (tkPos f n) m w0 (.slice a n c) (p - 1) v0 (tkP (tkF f n) (tkPos f n) 9 σ)) := h0.more (by first | omega | (simp [dl]; done) | exact Nat.le_refl _)
    have HO0 : Hid (OkS (tkF f n) m (i0 + 1) (tkP (tkF f n) (tkPos f n) 9 σ)) := (HO.out.up (up_tk (A := (tkPos f n)) HL.out (c := 9) (by omega) (by omega) σ)).less (by omega)
    clear h0 hq0
    go_wp2_with fail
    refine (tk_rs HE.out 14 { data := #[83, 84, 82] } rfl (by omega) (by omega) v0 (tkP (tkF f n) (tkPos f n) 9 σ) HS0.out HO0.out).mono ?_
    rintro e v1 ⟨q1, rfl, hq1, h1⟩
    have HS1 : Hid (RS (tkF f n) (tkPos f n) m w0 (.slice a n c) (p - 1) v1 (tkP (tkF f n) (tkPos f n) 14 (tkP (tkF f n) (tkPos f n) 9 σ))) := h1.more (by omega)
    have HO1 : Hid (OkS (tkF f n) m (i0 + 1) (tkP (tkF f n) (tkPos f n) 14 (tkP (tkF f n) (tkPos f n) 9 σ))) := (HO0.out.up (up_tk (A := (tkPos f n)) HL.out (c := 14) (by omega) (by omega) (tkP (tkF f n) (tkPos f n) 9 σ))).less (by omega)
    have HQ1 : Hid (q1 = tkQ (tkF f n) (tkP (tkF f n) (tkPos f n) 9 σ)) := hq1 rfl
    clear h1 hq1
    go_wp2_with fail
    refine (HIN.out v1 (p - 1) (tkP (tkF f n) (tkPos f n) 14 (tkP (tkF f n) (tkPos f n) 9 σ)) (by omega) HS1.out (HO1.out.less (by omega))).mono ?_
    rintro e w5 ⟨rfl, h5⟩
    have HS5 : Hid (RS (tkF f n) (tkPos f n) m w0 (.slice a n c) (p - 1) w5 (innerF (tkF f n) (tkPos f n) rec (tkP (tkF f n) (tkPos f n) 14 (tkP (tkF f n) (tkPos f n) 9 σ)))) := h5
    clear h5 HIN
    go_wp2_with fail
    refine (emit_rs HS5.out (by omega) ⟨9, tkQ (tkF f n) (tkP (tkF f n) (tkPos f n) 9 σ), []⟩ 9 (strT q1) { data := #[] } rfl (fun _ => by rw [HQ1.out]) (fun _ => rfl) ⟨_, [], rfl, rfl⟩).mono ?_
    rintro e w1 ⟨rfl, h1⟩
    have GL : Hid (RS (tkF f n) (tkPos f n) m w0 (.slice a n c) p w1 (primF (tkF f n) (tkPos f n) rec σ)) := by show RS _ _ _ _ _ _ _ _; rw [HM.out]; exact h1.more (by omega)
    clear h1
    go_wp2
    refine bodyPost_end (v := .tuple #[]) (by simp [results, Try.results150, go_sem]) rfl ⟨rfl, GL.out⟩
  have HM : Hid (primF (tkF f n) (tkPos f n) rec σ = innerF (tkF f n) (tkPos f n) rec σ) := by show _ = _; unfold primF; rw [if_neg h1, if_neg h2, if_neg h9]
  obtain ⟨n1, n1'⟩ := kdW_no [97, 108, 108] (k := 1) rfl h15 (by omega) h1
  obtain ⟨n2, n2'⟩ := kdW_no [118] (k := 2) rfl h15 (by omega) h2
  obtain ⟨n9, n9'⟩ := kdW_no [103, 114, 97, 112, 104] (k := 9) rfl h15 (by omega) h9
  generalize kdW (kdS (tkF f n) σ) = K at *
  clear h1 h2 h9 h15
  go_enter Try.func150, Try.ntmps150
  go_wp2_with fail
  refine (HIN.out w p σ hp HS.out HO.out).mono ?_
  rintro e w1 ⟨rfl, h1⟩
  have GL : Hid (RS (tkF f n) (tkPos f n) m w0 (.slice a n c) p w1 (primF (tkF f n) (tkPos f n) rec σ)) := by show RS _ _ _ _ _ _ _ _; rw [HM.out]; exact h1
  clear h1
  go_wp2
  refine bodyPost_end (v := .tuple #[]) (by simp [results, Try.results150, go_sem]) rfl ⟨rfl, GL.out⟩
end
end Go.Proofs.Ytocmbnocdjnfpaa

namespace Go.Proofs.Ytocmbnocdjnfpaa
open Go.RowKit Go.Deep
set_option linter.unusedVariables false
set_option linter.unusedSimpArgs false
set_option maxRecDepth 100000

theorem pos_mono (f : Nat → Int) (n : Nat) {i : Nat} : ∀ j, i ≤ j → tkPos f n i ≤ tkPos f n j
  | 0, h => by rw [show i = 0 by omega]; exact Nat.le_refl _
  | j + 1, h => by
    by_cases e : i = j + 1
    · subst e; exact Nat.le_refl _
    · have h1 := pos_mono f n (i := i) j (by omega)
      have h2 := (tkA_le (f := f) (tkPos_le f n j)).1
      have h3 := endF_ge isSp f n (tkA f n (tkPos f n j)).e
      show tkPos f n i ≤ endF isSp f n (tkA f n (tkPos f n j)).e
      omega
theorem pos_up {f : Nat → Int} {n i j : Nat} (h : i < j) (h0 : (tkF f n i).c ≠ 0) (h1 : (tkF f n i).c ≠ 15) : tkPos f n i < tkPos f n j := Nat.lt_of_lt_of_le (tkPos_up h0 h1) (pos_mono f n j h)
/-- How far a loop of the reader still has to go. -/
def mzr (n R : Nat) (w : World) : Nat := if intOf ((w.cell? ⟨R, 7, none⟩).getD undef) = 0 then 1 + (n + 1 - (intOf ((w.cell? ⟨R, 3, none⟩).getD undef)).toNat) else 0
section
variable {w0 : World} {a : Option Addr} {n c : Nat} {f : Nat → Int} {m : Nat}
theorem mzr_inl {p : Nat} {w : World} {s : Nat × Nat × List Nd} (h : RS (tkF f n) (tkPos f n) m w0 (.slice a n c) p w (.inl s)) : mzr n w0.heap.size w = 1 + (n + 1 - tkPos f n s.1) := by
  obtain ⟨vn, h1, _⟩ := h
  unfold mzr
  rw [h1.cells.2.2.2.1, h1.cells.2.2.2.2.2.2.2.1]
  simp [intOf]
theorem mzr_inr {p : Nat} {w : World} {x : Int × Int} (h : RS (tkF f n) (tkPos f n) m w0 (.slice a n c) p w (.inr x)) : mzr n w0.heap.size w = 0 := by
  obtain ⟨bh, ta, mk, ct, vn, N, h1, _, h3⟩ := h
  unfold mzr
  rw [h1.cells.2.2.2.2.2.2.2.1]
  simp [intOf, h3]
theorem mzr_less {p p' : Nat} {w w' : World} {s : Nat × Nat × List Nd} {σ' : (Nat × Nat × List Nd) ⊕ (Int × Int)} (h : RS (tkF f n) (tkPos f n) m w0 (.slice a n c) p w (.inl s)) (h' : RS (tkF f n) (tkPos f n) m w0 (.slice a n c) p' w' σ') (hu : Up (tkF f n) m 1 (.inl s) σ') (h15 : ((tkF f n) s.1).c ≠ 15) : mzr n w0.heap.size w' < mzr n w0.heap.size w := by
  rw [mzr_inl h]
  cases σ' with
  | inr x => rw [mzr_inr h']; omega
  | inl s' =>
    rw [mzr_inl h']
    obtain ⟨s0, e0, k1, _⟩ := hu s' rfl
    cases e0
    obtain ⟨vn, _, _, hz⟩ := h
    have := pos_up (show s.1 < s'.1 by omega) hz h15
    have := tkPos_le f n s'.1
    omega
/-- The loop's state: what is still to be done. -/
def LpI {w0 : World} (tv : Value) (f : Nat → Int) (n m i0 p : Nat) (t : Nat → Bool) (body : Nat → (Nat × Nat × List Nd) ⊕ (Int × Int) → (Nat × Nat × List Nd) ⊕ (Int × Int)) (fin : (Nat × Nat × List Nd) ⊕ (Int × Int)) (wr : World) : Prop :=
  ∃ g σ, RS (tkF f n) (tkPos f n) m w0 tv p wr σ ∧ OkS (tkF f n) m i0 σ ∧ loopF (tkF f n) t body g σ = fin ∧ ∀ s, σ = .inl s → m ≤ g + s.1
theorem lp_stop {t : Nat → Bool} {body : Nat → (Nat × Nat × List Nd) ⊕ (Int × Int) → (Nat × Nat × List Nd) ⊕ (Int × Int)} {g : Nat} {σ fin : (Nat × Nat × List Nd) ⊕ (Int × Int)} (h : loopF (tkF f n) t body g σ = fin) (ht : t (kdS (tkF f n) σ) = false) : fin = σ := by
  cases g with
  | zero => exact h.symm
  | succ g =>
    have h' : (if t (kdS (tkF f n) σ) = true then _ else σ) = fin := h
    rw [ht] at h'
    exact h'.symm
theorem lp_go {t : Nat → Bool} {body : Nat → (Nat × Nat × List Nd) ⊕ (Int × Int) → (Nat × Nat × List Nd) ⊕ (Int × Int)} {g i0 : Nat} {s : Nat × Nat × List Nd} {fin : (Nat × Nat × List Nd) ⊕ (Int × Int)} (h : loopF (tkF f n) t body g (.inl s) = fin) (ht : t ((tkF f n) s.1).c = true) (ho : OkS (tkF f n) m i0 (.inl s)) (hm : ∀ s', (Sum.inl s : (Nat × Nat × List Nd) ⊕ (Int × Int)) = .inl s' → m ≤ g + s'.1) (hu : Up (tkF f n) m 1 (.inl s) (body ((tkF f n) s.1).c (.inl s))) : ∃ g', loopF (tkF f n) t body g' (body ((tkF f n) s.1).c (.inl s)) = fin ∧ ∀ s', body ((tkF f n) s.1).c (.inl s) = .inl s' → m ≤ g' + s'.1 := by
  have h1 := hm s rfl
  have h2 := (ho s rfl).1.1
  cases g with
  | zero => omega
  | succ g =>
    have h' : (if t ((tkF f n) s.1).c = true then loopF (tkF f n) t body g (body ((tkF f n) s.1).c (.inl s)) else .inl s) = fin := h
    rw [ht] at h'
    refine ⟨g, h', fun s' e => ?_⟩
    obtain ⟨s0, e0, k1, _⟩ := hu s' e
    cases e0
    omega

set_option maxHeartbeats 2000000 in
theorem step_rs (E : Env w0 a n c f) (hl : LastK (tkF f n) m) (rec : (Nat × Nat × List Nd) ⊕ (Int × Int) → (Nat × Nat × List Nd) ⊕ (Int × Int)) (hr : ∀ σ, Up (tkF f n) m 0 σ (rec σ)) (i0 : Nat) (hrec : (∀ W p' s, i0 < s.1 → Okk (tkF f n) m s → p' ≤ 9000 → RS (tkF f n) (tkPos f n) m w0 (.slice a n c) p' W (.inl s) → Calls Try.prog 55 #[.pointer (some ⟨w0.heap.size, 0, none⟩)] W (FRet (tkF f n) (tkPos f n) m w0 (.slice a n c) p' (rec (.inl s))))) (w : World) (p : Nat) (hp : p ≤ 9000) (σ : (Nat × Nat × List Nd) ⊕ (Int × Int)) (h : RS (tkF f n) (tkPos f n) m w0 (.slice a n c) p w σ) (hok : OkS (tkF f n) m i0 σ) :
    Calls Try.prog 133 #[.pointer (some ⟨w0.heap.size, 0, none⟩)] w (FRet (tkF f n) (tkPos f n) m w0 (.slice a n c) p (stepF (tkF f n) (tkPos f n) m rec σ)) := by
  have HE : Hid (Env w0 a n c f) := E
  have HL : Hid (LastK (tkF f n) m) := hl
  have HUP : Hid (∀ σ, Up (tkF f n) m 0 σ (rec σ)) := hr
  have HF1 : Hid (∀ W p' σ', p' ≤ 9000 → RS (tkF f n) (tkPos f n) m w0 (.slice a n c) p' W σ' → OkS (tkF f n) m i0 σ' → Calls Try.prog 150 #[.pointer (some ⟨w0.heap.size, 0, none⟩)] W (FRet (tkF f n) (tkPos f n) m w0 (.slice a n c) p' (primF (tkF f n) (tkPos f n) rec σ'))) := fun W p' σ' q1 q2 q3 => prim_rs HE.out HL.out rec hr i0 hrec W p' q1 σ' q2 q3
  have HO1 : Hid (OkS (tkF f n) m i0 (primF (tkF f n) (tkPos f n) rec σ)) := (hok.up (up_prim (A := (tkPos f n)) hl hr σ)).less (by omega)
  have HBU : Hid (∀ σ, (fun c => decide (c = 10)) (kdS (tkF f n) σ) = true → Up (tkF f n) m 1 σ ((fun _ σ => moveF (tkF f n) (tkPos f n) (tkP (tkF f n) (tkPos f n) 10 σ)) (kdS (tkF f n) σ) σ)) := fun σ hb => ((up_tk HL.out (by omega) (by omega) σ).trans (up_move HL.out _)).less (by omega)
  have HFIN : Hid (∃ fin, fin = stepF (tkF f n) (tkPos f n) m rec σ) := ⟨_, rfl⟩
  obtain ⟨fin, hfin⟩ := HFIN.out
  rw [← hfin]
  have HLP : Hid (loopF (tkF f n) (fun c => decide (c = 10)) (fun _ σ => moveF (tkF f n) (tkPos f n) (tkP (tkF f n) (tkPos f n) 10 σ)) m (primF (tkF f n) (tkPos f n) rec σ) = fin) := by show _ = _; rw [hfin]; first | done | rfl
  have HS : Hid (RS (tkF f n) (tkPos f n) m w0 (.slice a n c) p w σ ∧ OkS (tkF f n) m i0 σ) := ⟨h, hok⟩
  clear h hok E hl hrec hr hfin HFIN
  go_enter Try.func133, Try.ntmps133
  go_wp2_with fail
  refine (HF1.out w p σ hp HS.out.1 HS.out.2).mono ?_
  rintro e w1 ⟨rfl, h1⟩
  have HS1 : Hid (RS (tkF f n) (tkPos f n) m w0 (.slice a n c) p w1 (primF (tkF f n) (tkPos f n) rec σ)) := h1
  clear h1 HS
  go_wp2_with fail
  go_loopw [] (fun wr => LpI (w0 := w0) (.slice a n c) f n m i0 p (fun c => decide (c = 10)) (fun _ σ => moveF (tkF f n) (tkPos f n) (tkP (tkF f n) (tkPos f n) 10 σ)) fin wr) (fun wr => mzr n w0.heap.size wr)
  case atStart => exact ⟨m, _, HS1.out, HO1.out, HLP.out, fun s _ => Nat.le_add_right _ _⟩
  case round =>
    obtain ⟨g, τ, hS, hO, hL, hM⟩ := hrel
    have HS2 : Hid (RS (tkF f n) (tkPos f n) m w0 (.slice a n c) p wr τ ∧ OkS (tkF f n) m i0 τ) := ⟨hS, hO⟩
    have HG : Hid (loopF (tkF f n) (fun c => decide (c = 10)) (fun _ σ => moveF (tkF f n) (tkPos f n) (tkP (tkF f n) (tkPos f n) 10 σ)) g τ = fin ∧ ∀ s, τ = .inl s → m ≤ g + s.1) := ⟨hL, hM⟩
    have c2 := hS.kind
    have hlt := hS.bel.2
    have h15 := kdS_le f n τ
    clear hS hO hL hM HS1 HLP HO1
    by_cases hk : kdS (tkF f n) τ = 10
    · skip
      obtain ⟨s, rfl⟩ : ∃ s, τ = .inl s := kdS_inl (T := (tkF f n)) (by rw [hk]; omega)
      have hks : ((tkF f n) s.1).c = 10 := hk
      have p1 := HS2.out.1.pos HS2.out.2
      have HN : Hid (∃ g', loopF (tkF f n) (fun c => decide (c = 10)) (fun _ σ => moveF (tkF f n) (tkPos f n) (tkP (tkF f n) (tkPos f n) 10 σ)) g' ((fun _ σ => moveF (tkF f n) (tkPos f n) (tkP (tkF f n) (tkPos f n) 10 σ)) ((tkF f n) s.1).c (.inl s)) = fin ∧ ∀ s', (fun _ σ => moveF (tkF f n) (tkPos f n) (tkP (tkF f n) (tkPos f n) 10 σ)) ((tkF f n) s.1).c (.inl s) = .inl s' → m ≤ g' + s'.1) := lp_go HG.out.1 (by show decide _ = true; exact decide_eq_true (by omega)) HS2.out.2 HG.out.2 (HBU.out (.inl s) (by show decide _ = true; exact decide_eq_true (by omega)))
      have HUB : Hid (Up (tkF f n) m 1 (.inl s) ((fun _ σ => moveF (tkF f n) (tkPos f n) (tkP (tkF f n) (tkPos f n) 10 σ)) ((tkF f n) s.1).c (.inl s))) := HBU.out (.inl s) (by show decide _ = true; exact decide_eq_true (by omega))
      have HS3 : Hid (RS (tkF f n) (tkPos f n) m w0 (.slice a n c) p wr (.inl s)) := HS2.out.1
      have HO3 : Hid (OkS (tkF f n) m i0 (.inl s)) := HS2.out.2
      have HKS : Hid (((tkF f n) s.1).c = 10) := hks
      rw [hk] at c2
      have c2' : wr.cell? ⟨w0.heap.size, 2, none⟩ = some (.string { data := #[46] }) := c2
      clear c2 hks hk HG HS2 HBU
      go_wp2_with fail
      refine (tk_rs HE.out 10 { data := #[46] } rfl (by omega) (by omega) wr (.inl s) HS3.out HO3.out).mono ?_
      rintro e w2 ⟨q2, rfl, _, h2⟩
      have HS4 : Hid (RS (tkF f n) (tkPos f n) m w0 (.slice a n c) (p - 1) w2 (tkP (tkF f n) (tkPos f n) 10 (.inl s))) := h2
      have HO4 : Hid (OkS (tkF f n) m (i0 + 1) (tkP (tkF f n) (tkPos f n) 10 (.inl s))) := HO3.out.up (up_tk (A := (tkPos f n)) HL.out (c := 10) (by omega) (by omega) _)
      clear h2
      go_wp2_with fail
      refine (move_rs HE.out HL.out w2 (p - 1) (i0 + 1) (by omega) (tkP (tkF f n) (tkPos f n) 10 (.inl s)) HS4.out HO4.out).mono ?_
      rintro e w3 ⟨rfl, h3⟩
      have HSB : Hid (RS (tkF f n) (tkPos f n) m w0 (.slice a n c) p w3 ((fun _ σ => moveF (tkF f n) (tkPos f n) (tkP (tkF f n) (tkPos f n) 10 σ)) ((tkF f n) s.1).c (.inl s))) := h3.more (by omega)
      clear h3
      go_wp2
      go_roundw
      case rel =>
        obtain ⟨g', e1, e2⟩ := HN.out
        exact ⟨g', _, HSB.out, (HO3.out.up HUB.out).less (by omega), e1, e2⟩
      case measure => exact mzr_less HS3.out HSB.out HUB.out (by rw [HKS.out]; omega)
    obtain ⟨n1, n1'⟩ := kdW_no [46] (k := 10) rfl h15 (by omega) hk
    have HE2 : Hid (fin = τ) := lp_stop HG.out.1 (by show decide _ = false; exact decide_eq_false (by omega))
    generalize kdW (kdS (tkF f n) τ) = K at *
    have GL : Hid (RS (tkF f n) (tkPos f n) m w0 (.slice a n c) p wr fin) := by show RS _ _ _ _ _ _ _ _; rw [HE2.out]; exact HS2.out.1
    go_wp2
    refine bodyPost_end (v := .tuple #[]) (by simp [results, Try.results133, go_sem]) rfl ⟨rfl, GL.out⟩
set_option maxHeartbeats 2000000 in
theorem meet_rs (E : Env w0 a n c f) (hl : LastK (tkF f n) m) (rec : (Nat × Nat × List Nd) ⊕ (Int × Int) → (Nat × Nat × List Nd) ⊕ (Int × Int)) (hr : ∀ σ, Up (tkF f n) m 0 σ (rec σ)) (i0 : Nat) (hrec : (∀ W p' s, i0 < s.1 → Okk (tkF f n) m s → p' ≤ 9000 → RS (tkF f n) (tkPos f n) m w0 (.slice a n c) p' W (.inl s) → Calls Try.prog 55 #[.pointer (some ⟨w0.heap.size, 0, none⟩)] W (FRet (tkF f n) (tkPos f n) m w0 (.slice a n c) p' (rec (.inl s))))) (w : World) (p : Nat) (hp : p ≤ 9000) (σ : (Nat × Nat × List Nd) ⊕ (Int × Int)) (h : RS (tkF f n) (tkPos f n) m w0 (.slice a n c) p w σ) (hok : OkS (tkF f n) m i0 σ) :
    Calls Try.prog 98 #[.pointer (some ⟨w0.heap.size, 0, none⟩)] w (FRet (tkF f n) (tkPos f n) m w0 (.slice a n c) p (meetF (tkF f n) (tkPos f n) m rec σ)) := by
  have HE : Hid (Env w0 a n c f) := E
  have HL : Hid (LastK (tkF f n) m) := hl
  have HUP : Hid (∀ σ, Up (tkF f n) m 0 σ (rec σ)) := hr
  have HF1 : Hid (∀ W p' σ', p' ≤ 9000 → RS (tkF f n) (tkPos f n) m w0 (.slice a n c) p' W σ' → OkS (tkF f n) m i0 σ' → Calls Try.prog 133 #[.pointer (some ⟨w0.heap.size, 0, none⟩)] W (FRet (tkF f n) (tkPos f n) m w0 (.slice a n c) p' (stepF (tkF f n) (tkPos f n) m rec σ'))) := fun W p' σ' q1 q2 q3 => step_rs HE.out HL.out rec hr i0 hrec W p' q1 σ' q2 q3
  have HO1 : Hid (OkS (tkF f n) m i0 (stepF (tkF f n) (tkPos f n) m rec σ)) := (hok.up (up_step (A := (tkPos f n)) hl hr σ)).less (by omega)
  have HBU : Hid (∀ σ, (fun c => decide (c = 6)) (kdS (tkF f n) σ) = true → Up (tkF f n) m 1 σ ((fun _ σ => emP ⟨6, [], []⟩ (stepF (tkF f n) (tkPos f n) m rec (tkP (tkF f n) (tkPos f n) 6 σ))) (kdS (tkF f n) σ) σ)) := fun σ hb => (((up_tk HL.out (by omega) (by omega) σ).trans (up_step HL.out HUP.out _)).em _).less (by omega)
  have HFIN : Hid (∃ fin, fin = meetF (tkF f n) (tkPos f n) m rec σ) := ⟨_, rfl⟩
  obtain ⟨fin, hfin⟩ := HFIN.out
  rw [← hfin]
  have HLP : Hid (loopF (tkF f n) (fun c => decide (c = 6)) (fun _ σ => emP ⟨6, [], []⟩ (stepF (tkF f n) (tkPos f n) m rec (tkP (tkF f n) (tkPos f n) 6 σ))) m (stepF (tkF f n) (tkPos f n) m rec σ) = fin) := by show _ = _; rw [hfin]; first | done | rfl
  have HS : Hid (RS (tkF f n) (tkPos f n) m w0 (.slice a n c) p w σ ∧ OkS (tkF f n) m i0 σ) := ⟨h, hok⟩
  clear h hok E hl hrec hr hfin HFIN
  go_enter Try.func98, Try.ntmps98
  go_wp2_with fail
  refine (HF1.out w p σ hp HS.out.1 HS.out.2).mono ?_
  rintro e w1 ⟨rfl, h1⟩
  have HS1 : Hid (RS (tkF f n) (tkPos f n) m w0 (.slice a n c) p w1 (stepF (tkF f n) (tkPos f n) m rec σ)) := h1
  clear h1 HS
  go_wp2_with fail
  go_loopw [] (fun wr => LpI (w0 := w0) (.slice a n c) f n m i0 p (fun c => decide (c = 6)) (fun _ σ => emP ⟨6, [], []⟩ (stepF (tkF f n) (tkPos f n) m rec (tkP (tkF f n) (tkPos f n) 6 σ))) fin wr) (fun wr => mzr n w0.heap.size wr)
  case atStart => exact ⟨m, _, HS1.out, HO1.out, HLP.out, fun s _ => Nat.le_add_right _ _⟩
  case round =>
    obtain ⟨g, τ, hS, hO, hL, hM⟩ := hrel
    have HS2 : Hid (RS (tkF f n) (tkPos f n) m w0 (.slice a n c) p wr τ ∧ OkS (tkF f n) m i0 τ) := ⟨hS, hO⟩
    have HG : Hid (loopF (tkF f n) (fun c => decide (c = 6)) (fun _ σ => emP ⟨6, [], []⟩ (stepF (tkF f n) (tkPos f n) m rec (tkP (tkF f n) (tkPos f n) 6 σ))) g τ = fin ∧ ∀ s, τ = .inl s → m ≤ g + s.1) := ⟨hL, hM⟩
    have c2 := hS.kind
    have hlt := hS.bel.2
    have h15 := kdS_le f n τ
    clear hS hO hL hM HS1 HLP HO1
    by_cases hk : kdS (tkF f n) τ = 6
    · skip
      obtain ⟨s, rfl⟩ : ∃ s, τ = .inl s := kdS_inl (T := (tkF f n)) (by rw [hk]; omega)
      have hks : ((tkF f n) s.1).c = 6 := hk
      have p1 := HS2.out.1.pos HS2.out.2
      have HN : Hid (∃ g', loopF (tkF f n) (fun c => decide (c = 6)) (fun _ σ => emP ⟨6, [], []⟩ (stepF (tkF f n) (tkPos f n) m rec (tkP (tkF f n) (tkPos f n) 6 σ))) g' ((fun _ σ => emP ⟨6, [], []⟩ (stepF (tkF f n) (tkPos f n) m rec (tkP (tkF f n) (tkPos f n) 6 σ))) ((tkF f n) s.1).c (.inl s)) = fin ∧ ∀ s', (fun _ σ => emP ⟨6, [], []⟩ (stepF (tkF f n) (tkPos f n) m rec (tkP (tkF f n) (tkPos f n) 6 σ))) ((tkF f n) s.1).c (.inl s) = .inl s' → m ≤ g' + s'.1) := lp_go HG.out.1 (by show decide _ = true; exact decide_eq_true (by omega)) HS2.out.2 HG.out.2 (HBU.out (.inl s) (by show decide _ = true; exact decide_eq_true (by omega)))
      have HUB : Hid (Up (tkF f n) m 1 (.inl s) ((fun _ σ => emP ⟨6, [], []⟩ (stepF (tkF f n) (tkPos f n) m rec (tkP (tkF f n) (tkPos f n) 6 σ))) ((tkF f n) s.1).c (.inl s))) := HBU.out (.inl s) (by show decide _ = true; exact decide_eq_true (by omega))
      have HS3 : Hid (RS (tkF f n) (tkPos f n) m w0 (.slice a n c) p wr (.inl s)) := HS2.out.1
      have HO3 : Hid (OkS (tkF f n) m i0 (.inl s)) := HS2.out.2
      have HKS : Hid (((tkF f n) s.1).c = 6) := hks
      rw [hk] at c2
      have c2' : wr.cell? ⟨w0.heap.size, 2, none⟩ = some (.string { data := #[38] }) := c2
      clear c2 hks hk HG HS2 HBU
      go_wp2_with fail
      refine (tk_rs HE.out 6 { data := #[38] } rfl (by omega) (by omega) wr (.inl s) HS3.out HO3.out).mono ?_
      rintro e w2 ⟨q2, rfl, _, h2⟩
      have HS4 : Hid (RS (tkF f n) (tkPos f n) m w0 (.slice a n c) (p - 1) w2 (tkP (tkF f n) (tkPos f n) 6 (.inl s))) := h2
      have HO4 : Hid (OkS (tkF f n) m i0 (tkP (tkF f n) (tkPos f n) 6 (.inl s))) := (HO3.out.up (up_tk (A := (tkPos f n)) HL.out (c := 6) (by omega) (by omega) _)).less (by omega)
      clear h2
      go_wp2_with fail
      refine (HF1.out w2 (p - 1) (tkP (tkF f n) (tkPos f n) 6 (.inl s)) (by omega) HS4.out HO4.out).mono ?_
      rintro e w3 ⟨rfl, h3⟩
      have HS5 : Hid (RS (tkF f n) (tkPos f n) m w0 (.slice a n c) (p - 1) w3 (stepF (tkF f n) (tkPos f n) m rec (tkP (tkF f n) (tkPos f n) 6 (.inl s)))) := h3
      clear h3
      go_wp2_with fail
      refine (emit_rs HS5.out (by omega) ⟨6, [], []⟩ 6 { data := #[] } { data := #[] } rfl (fun _ => rfl) (fun _ => rfl) ⟨[], [], rfl, rfl⟩).mono ?_
      rintro e w4 ⟨rfl, h4⟩
      have HSB : Hid (RS (tkF f n) (tkPos f n) m w0 (.slice a n c) p w4 ((fun _ σ => emP ⟨6, [], []⟩ (stepF (tkF f n) (tkPos f n) m rec (tkP (tkF f n) (tkPos f n) 6 σ))) ((tkF f n) s.1).c (.inl s))) := h4.more (by omega)
      clear h4
      go_wp2
      go_roundw
      case rel =>
        obtain ⟨g', e1, e2⟩ := HN.out
        exact ⟨g', _, HSB.out, (HO3.out.up HUB.out).less (by omega), e1, e2⟩
      case measure => exact mzr_less HS3.out HSB.out HUB.out (by rw [HKS.out]; omega)
    obtain ⟨n1, n1'⟩ := kdW_no [38] (k := 6) rfl h15 (by omega) hk
    have HE2 : Hid (fin = τ) := lp_stop HG.out.1 (by show decide _ = false; exact decide_eq_false (by omega))
    generalize kdW (kdS (tkF f n) τ) = K at *
    have GL : Hid (RS (tkF f n) (tkPos f n) m w0 (.slice a n c) p wr fin) := by show RS _ _ _ _ _ _ _ _; rw [HE2.out]; exact HS2.out.1
    go_wp2
    refine bodyPost_end (v := .tuple #[]) (by simp [results, Try.results98, go_sem]) rfl ⟨rfl, GL.out⟩
set_option maxHeartbeats 2000000 in
theorem path_once (E : Env w0 a n c f) (hl : LastK (tkF f n) m) (rec : (Nat × Nat × List Nd) ⊕ (Int × Int) → (Nat × Nat × List Nd) ⊕ (Int × Int)) (hr : ∀ σ, Up (tkF f n) m 0 σ (rec σ)) (i0 : Nat) (hrec : (∀ W p' s, i0 < s.1 → Okk (tkF f n) m s → p' ≤ 9000 → RS (tkF f n) (tkPos f n) m w0 (.slice a n c) p' W (.inl s) → Calls Try.prog 55 #[.pointer (some ⟨w0.heap.size, 0, none⟩)] W (FRet (tkF f n) (tkPos f n) m w0 (.slice a n c) p' (rec (.inl s))))) (w : World) (p : Nat) (hp : p ≤ 9000) (σ : (Nat × Nat × List Nd) ⊕ (Int × Int)) (h : RS (tkF f n) (tkPos f n) m w0 (.slice a n c) p w σ) (hok : OkS (tkF f n) m i0 σ) :
    Calls Try.prog 55 #[.pointer (some ⟨w0.heap.size, 0, none⟩)] w (FRet (tkF f n) (tkPos f n) m w0 (.slice a n c) p ((fun σ => loopF (tkF f n) (fun c => decide (c = 7 ∨ c = 8)) (fun c σ => emP ⟨c, [], []⟩ (meetF (tkF f n) (tkPos f n) m rec (tkP (tkF f n) (tkPos f n) c σ))) m (meetF (tkF f n) (tkPos f n) m rec σ)) σ)) := by
  have HE : Hid (Env w0 a n c f) := E
  have HL : Hid (LastK (tkF f n) m) := hl
  have HUP : Hid (∀ σ, Up (tkF f n) m 0 σ (rec σ)) := hr
  have HF1 : Hid (∀ W p' σ', p' ≤ 9000 → RS (tkF f n) (tkPos f n) m w0 (.slice a n c) p' W σ' → OkS (tkF f n) m i0 σ' → Calls Try.prog 98 #[.pointer (some ⟨w0.heap.size, 0, none⟩)] W (FRet (tkF f n) (tkPos f n) m w0 (.slice a n c) p' (meetF (tkF f n) (tkPos f n) m rec σ'))) := fun W p' σ' q1 q2 q3 => meet_rs HE.out HL.out rec hr i0 hrec W p' q1 σ' q2 q3
  have HO1 : Hid (OkS (tkF f n) m i0 (meetF (tkF f n) (tkPos f n) m rec σ)) := (hok.up (up_meet (A := (tkPos f n)) hl hr σ)).less (by omega)
  have HBU : Hid (∀ σ, (fun c => decide (c = 7 ∨ c = 8)) (kdS (tkF f n) σ) = true → Up (tkF f n) m 1 σ ((fun c σ => emP ⟨c, [], []⟩ (meetF (tkF f n) (tkPos f n) m rec (tkP (tkF f n) (tkPos f n) c σ))) (kdS (tkF f n) σ) σ)) := fun σ hb => (((up_tk HL.out (by have := of_decide_eq_true hb; omega) (by have := of_decide_eq_true hb; omega) σ).trans (up_meet HL.out HUP.out _)).em _).less (by omega)
  have HFIN : Hid (∃ fin, fin = (fun σ => loopF (tkF f n) (fun c => decide (c = 7 ∨ c = 8)) (fun c σ => emP ⟨c, [], []⟩ (meetF (tkF f n) (tkPos f n) m rec (tkP (tkF f n) (tkPos f n) c σ))) m (meetF (tkF f n) (tkPos f n) m rec σ)) σ) := ⟨_, rfl⟩
  obtain ⟨fin, hfin⟩ := HFIN.out
  rw [← hfin]
  have HLP : Hid (loopF (tkF f n) (fun c => decide (c = 7 ∨ c = 8)) (fun c σ => emP ⟨c, [], []⟩ (meetF (tkF f n) (tkPos f n) m rec (tkP (tkF f n) (tkPos f n) c σ))) m (meetF (tkF f n) (tkPos f n) m rec σ) = fin) := by show _ = _; rw [hfin]; first | done | rfl
  have HS : Hid (RS (tkF f n) (tkPos f n) m w0 (.slice a n c) p w σ ∧ OkS (tkF f n) m i0 σ) := ⟨h, hok⟩
  clear h hok E hl hrec hr hfin HFIN
  go_enter Try.func55, Try.ntmps55
  go_wp2_with fail
  refine (HF1.out w p σ hp HS.out.1 HS.out.2).mono ?_
  rintro e w1 ⟨rfl, h1⟩
  have HS1 : Hid (RS (tkF f n) (tkPos f n) m w0 (.slice a n c) p w1 (meetF (tkF f n) (tkPos f n) m rec σ)) := h1
  clear h1 HS
  go_wp2_with fail
  go_loopw [] (fun wr => LpI (w0 := w0) (.slice a n c) f n m i0 p (fun c => decide (c = 7 ∨ c = 8)) (fun c σ => emP ⟨c, [], []⟩ (meetF (tkF f n) (tkPos f n) m rec (tkP (tkF f n) (tkPos f n) c σ))) fin wr) (fun wr => mzr n w0.heap.size wr)
  case atStart => exact ⟨m, _, HS1.out, HO1.out, HLP.out, fun s _ => Nat.le_add_right _ _⟩
  case round =>
    obtain ⟨g, τ, hS, hO, hL, hM⟩ := hrel
    have HS2 : Hid (RS (tkF f n) (tkPos f n) m w0 (.slice a n c) p wr τ ∧ OkS (tkF f n) m i0 τ) := ⟨hS, hO⟩
    have HG : Hid (loopF (tkF f n) (fun c => decide (c = 7 ∨ c = 8)) (fun c σ => emP ⟨c, [], []⟩ (meetF (tkF f n) (tkPos f n) m rec (tkP (tkF f n) (tkPos f n) c σ))) g τ = fin ∧ ∀ s, τ = .inl s → m ≤ g + s.1) := ⟨hL, hM⟩
    have c2 := hS.kind
    have hlt := hS.bel.2
    have h15 := kdS_le f n τ
    clear hS hO hL hM HS1 HLP HO1
    by_cases hk : kdS (tkF f n) τ = 7
    · skip
      obtain ⟨s, rfl⟩ : ∃ s, τ = .inl s := kdS_inl (T := (tkF f n)) (by rw [hk]; omega)
      have hks : ((tkF f n) s.1).c = 7 := hk
      have p1 := HS2.out.1.pos HS2.out.2
      have HN : Hid (∃ g', loopF (tkF f n) (fun c => decide (c = 7 ∨ c = 8)) (fun c σ => emP ⟨c, [], []⟩ (meetF (tkF f n) (tkPos f n) m rec (tkP (tkF f n) (tkPos f n) c σ))) g' ((fun c σ => emP ⟨c, [], []⟩ (meetF (tkF f n) (tkPos f n) m rec (tkP (tkF f n) (tkPos f n) c σ))) ((tkF f n) s.1).c (.inl s)) = fin ∧ ∀ s', (fun c σ => emP ⟨c, [], []⟩ (meetF (tkF f n) (tkPos f n) m rec (tkP (tkF f n) (tkPos f n) c σ))) ((tkF f n) s.1).c (.inl s) = .inl s' → m ≤ g' + s'.1) := lp_go HG.out.1 (by show decide _ = true; exact decide_eq_true (by omega)) HS2.out.2 HG.out.2 (HBU.out (.inl s) (by show decide _ = true; exact decide_eq_true (by omega)))
      have HUB : Hid (Up (tkF f n) m 1 (.inl s) ((fun c σ => emP ⟨c, [], []⟩ (meetF (tkF f n) (tkPos f n) m rec (tkP (tkF f n) (tkPos f n) c σ))) ((tkF f n) s.1).c (.inl s))) := HBU.out (.inl s) (by show decide _ = true; exact decide_eq_true (by omega))
      have HS3 : Hid (RS (tkF f n) (tkPos f n) m w0 (.slice a n c) p wr (.inl s)) := HS2.out.1
      have HO3 : Hid (OkS (tkF f n) m i0 (.inl s)) := HS2.out.2
      have HKS : Hid (((tkF f n) s.1).c = 7) := hks
      rw [hk] at c2
      have c2' : wr.cell? ⟨w0.heap.size, 2, none⟩ = some (.string { data := #[124] }) := c2
      clear c2 hks hk HG HS2 HBU
      go_wp2_with fail
      refine (nodeKind_kd (c := 7) (by omega) (by omega) _).mono ?_
      rintro e w8 ⟨rfl, hw8⟩
      rw [hw8]
      clear hw8 w8
      go_wp2_with fail
      refine (tk_rs HE.out 7 { data := #[124] } rfl (by omega) (by omega) wr (.inl s) HS3.out HO3.out).mono ?_
      rintro e w2 ⟨q2, rfl, _, h2⟩
      have HS4 : Hid (RS (tkF f n) (tkPos f n) m w0 (.slice a n c) (p - 1) w2 (tkP (tkF f n) (tkPos f n) 7 (.inl s))) := h2
      have HO4 : Hid (OkS (tkF f n) m i0 (tkP (tkF f n) (tkPos f n) 7 (.inl s))) := (HO3.out.up (up_tk (A := (tkPos f n)) HL.out (c := 7) (by omega) (by omega) _)).less (by omega)
      clear h2
      go_wp2_with fail
      refine (HF1.out w2 (p - 1) (tkP (tkF f n) (tkPos f n) 7 (.inl s)) (by omega) HS4.out HO4.out).mono ?_
      rintro e w3 ⟨rfl, h3⟩
      have HS5 : Hid (RS (tkF f n) (tkPos f n) m w0 (.slice a n c) (p - 1) w3 (meetF (tkF f n) (tkPos f n) m rec (tkP (tkF f n) (tkPos f n) 7 (.inl s)))) := h3
      clear h3
      go_wp2_with fail
      refine (emit_rs HS5.out (by omega) ⟨7, [], []⟩ 7 { data := #[] } { data := #[] } rfl (fun _ => rfl) (fun _ => rfl) ⟨[], [], rfl, rfl⟩).mono ?_
      rintro e w4 ⟨rfl, h4⟩
      have HSB : Hid (RS (tkF f n) (tkPos f n) m w0 (.slice a n c) p w4 ((fun c σ => emP ⟨c, [], []⟩ (meetF (tkF f n) (tkPos f n) m rec (tkP (tkF f n) (tkPos f n) c σ))) ((tkF f n) s.1).c (.inl s))) := by show RS _ _ _ _ _ _ _ _; rw [HKS.out]; exact h4.more (by omega)
      clear h4
      go_wp2
      go_roundw
      case rel =>
        obtain ⟨g', e1, e2⟩ := HN.out
        exact ⟨g', _, HSB.out, (HO3.out.up HUB.out).less (by omega), e1, e2⟩
      case measure => exact mzr_less HS3.out HSB.out HUB.out (by rw [HKS.out]; omega)
    by_cases hk8 : kdS (tkF f n) τ = 8
    · have hk := hk8
      obtain ⟨s, rfl⟩ : ∃ s, τ = .inl s := kdS_inl (T := (tkF f n)) (by rw [hk]; omega)
      have hks : ((tkF f n) s.1).c = 8 := hk
      have p1 := HS2.out.1.pos HS2.out.2
      have HN : Hid (∃ g', loopF (tkF f n) (fun c => decide (c = 7 ∨ c = 8)) (fun c σ => emP ⟨c, [], []⟩ (meetF (tkF f n) (tkPos f n) m rec (tkP (tkF f n) (tkPos f n) c σ))) g' ((fun c σ => emP ⟨c, [], []⟩ (meetF (tkF f n) (tkPos f n) m rec (tkP (tkF f n) (tkPos f n) c σ))) ((tkF f n) s.1).c (.inl s)) = fin ∧ ∀ s', (fun c σ => emP ⟨c, [], []⟩ (meetF (tkF f n) (tkPos f n) m rec (tkP (tkF f n) (tkPos f n) c σ))) ((tkF f n) s.1).c (.inl s) = .inl s' → m ≤ g' + s'.1) := lp_go HG.out.1 (by show decide _ = true; exact decide_eq_true (by omega)) HS2.out.2 HG.out.2 (HBU.out (.inl s) (by show decide _ = true; exact decide_eq_true (by omega)))
      have HUB : Hid (Up (tkF f n) m 1 (.inl s) ((fun c σ => emP ⟨c, [], []⟩ (meetF (tkF f n) (tkPos f n) m rec (tkP (tkF f n) (tkPos f n) c σ))) ((tkF f n) s.1).c (.inl s))) := HBU.out (.inl s) (by show decide _ = true; exact decide_eq_true (by omega))
      have HS3 : Hid (RS (tkF f n) (tkPos f n) m w0 (.slice a n c) p wr (.inl s)) := HS2.out.1
      have HO3 : Hid (OkS (tkF f n) m i0 (.inl s)) := HS2.out.2
      have HKS : Hid (((tkF f n) s.1).c = 8) := hks
      rw [hk] at c2
      have c2' : wr.cell? ⟨w0.heap.size, 2, none⟩ = some (.string { data := #[45] }) := c2
      clear c2 hks hk HG HS2 HBU
      go_wp2_with fail
      refine (nodeKind_kd (c := 8) (by omega) (by omega) _).mono ?_
      rintro e w8 ⟨rfl, hw8⟩
      rw [hw8]
      clear hw8 w8
      go_wp2_with fail
      refine (tk_rs HE.out 8 { data := #[45] } rfl (by omega) (by omega) wr (.inl s) HS3.out HO3.out).mono ?_
      rintro e w2 ⟨q2, rfl, _, h2⟩
      have HS4 : Hid (RS (tkF f n) (tkPos f n) m w0 (.slice a n c) (p - 1) w2 (tkP (tkF f n) (tkPos f n) 8 (.inl s))) := h2
      have HO4 : Hid (OkS (tkF f n) m i0 (tkP (tkF f n) (tkPos f n) 8 (.inl s))) := (HO3.out.up (up_tk (A := (tkPos f n)) HL.out (c := 8) (by omega) (by omega) _)).less (by omega)
      clear h2
      go_wp2_with fail
      refine (HF1.out w2 (p - 1) (tkP (tkF f n) (tkPos f n) 8 (.inl s)) (by omega) HS4.out HO4.out).mono ?_
      rintro e w3 ⟨rfl, h3⟩
      have HS5 : Hid (RS (tkF f n) (tkPos f n) m w0 (.slice a n c) (p - 1) w3 (meetF (tkF f n) (tkPos f n) m rec (tkP (tkF f n) (tkPos f n) 8 (.inl s)))) := h3
      clear h3
      go_wp2_with fail
      refine (emit_rs HS5.out (by omega) ⟨8, [], []⟩ 8 { data := #[] } { data := #[] } rfl (fun _ => rfl) (fun _ => rfl) ⟨[], [], rfl, rfl⟩).mono ?_
      rintro e w4 ⟨rfl, h4⟩
      have HSB : Hid (RS (tkF f n) (tkPos f n) m w0 (.slice a n c) p w4 ((fun c σ => emP ⟨c, [], []⟩ (meetF (tkF f n) (tkPos f n) m rec (tkP (tkF f n) (tkPos f n) c σ))) ((tkF f n) s.1).c (.inl s))) := by show RS _ _ _ _ _ _ _ _; rw [HKS.out]; exact h4.more (by omega)
      clear h4
      go_wp2
      go_roundw
      case rel =>
        obtain ⟨g', e1, e2⟩ := HN.out
        exact ⟨g', _, HSB.out, (HO3.out.up HUB.out).less (by omega), e1, e2⟩
      case measure => exact mzr_less HS3.out HSB.out HUB.out (by rw [HKS.out]; omega)
    obtain ⟨n1, n1'⟩ := kdW_no [124] (k := 7) rfl h15 (by omega) hk
    obtain ⟨n2, n2'⟩ := kdW_no [45] (k := 8) rfl h15 (by omega) hk8
    have HE2 : Hid (fin = τ) := lp_stop HG.out.1 (by show decide _ = false; exact decide_eq_false (by omega))
    generalize kdW (kdS (tkF f n) τ) = K at *
    have GL : Hid (RS (tkF f n) (tkPos f n) m w0 (.slice a n c) p wr fin) := by show RS _ _ _ _ _ _ _ _; rw [HE2.out]; exact HS2.out.1
    go_wp2
    refine bodyPost_end (v := .tuple #[]) (by simp [results, Try.results55, go_sem]) rfl ⟨rfl, GL.out⟩
/-- The whole reader, by induction on how many tokens are left. -/
theorem path_rs (E : Env w0 a n c f) (hl : LastK (tkF f n) m) : ∀ (g : Nat) (w : World) (p : Nat) (σ : (Nat × Nat × List Nd) ⊕ (Int × Int)), p ≤ 9000 → RS (tkF f n) (tkPos f n) m w0 (.slice a n c) p w σ → OkS (tkF f n) m 0 σ → 1 ≤ g → (∀ s, σ = .inl s → m ≤ g + s.1) →
    Calls Try.prog 55 #[.pointer (some ⟨w0.heap.size, 0, none⟩)] w (FRet (tkF f n) (tkPos f n) m w0 (.slice a n c) p (pathF (tkF f n) (tkPos f n) m g σ))
  | 0, _, _, _, _, _, _, h, _ => absurd h (by omega)
  | g + 1, w, p, σ, hp, h, ho, _, hm => by
    cases σ with
    | inr x =>
      exact path_once E hl (pathF (tkF f n) (tkPos f n) m g) (up_path hl g) m (fun W p' s q1 q2 _ _ => absurd q2.1 (by omega)) w p hp (.inr x) h (fun s e => by cases e)
    | inl s =>
      have hms := hm s rfl
      refine path_once E hl (pathF (tkF f n) (tkPos f n) m g) (up_path hl g) s.1 (fun W p' s' q1 q2 q3 q4 => ?_) w p hp (.inl s) h (fun s' e => by cases e; exact ⟨(ho s rfl).1, Nat.le_refl _⟩)
      have := q2.1
      exact path_rs E hl g W p' (.inl s') q3 q4 (fun s2 e => by cases e; exact ⟨q2, Nat.zero_le _⟩) (by omega) (fun s2 e => by cases e; omega)
end
end Go.Proofs.Ytocmbnocdjnfpaa

namespace Go.Proofs.Ytocmbnocdjnfpaa
open Go.RowKit Go.Deep
set_option linter.unusedVariables false
set_option linter.unusedSimpArgs false
set_option maxRecDepth 100000

set_option maxHeartbeats 2000000 in
theorem implPa (a : Option Addr) (n c m : Nat) (f : Nat → Int) (w : World) (h : Rd .u8 w a n f) (hnc : n ≤ c) (hcm : c ≤ 9223372036854775807) (hf : ∀ i, i < n → 0 ≤ f i ∧ f i < 256) (hmx : ∃ m, w.cell? ⟨0, 0, none⟩ = some (.int .i64 m)) (hl : LastK (tkF f n) m) (hmn : m ≤ n + 1) :
    Calls Try.prog 22 #[.slice a n c] w (PaRet f n m w) := by
  by_cases hn : 2000 < n
  · have hn' : (2000 : Int) < (n : Int) := by omega
    have HF : Hid (∀ o, PaRet f n m w (.returned (PVal 1 0 (.slice none 0 0))) (w.alloc o)) := fun o => ⟨1, 0, _, [], rfl, .inl ⟨hn, rfl, rfl, rfl⟩, NdA.nil _ _, below_alloc _ _⟩
    clear h hf hmx hl
    go_enter Try.func22, Try.ntmps22
    go_wp2
    refine bodyPost_ret (v := PVal 1 0 (.slice none 0 0)) (by simp [PVal, results, Try.results22, go_sem]) rfl (HF.out _)
  · have hn' : ¬ (2000 : Int) < (n : Int) := by omega
    obtain ⟨w1, hw1⟩ : ∃ w1, w1 = w.alloc (.cells #[.int .i64 0, .int .i64 0, .slice none 0 0] 40) := ⟨_, rfl⟩
    have hb1 : Below w.heap.size w w1 := by rw [hw1]; exact below_alloc _ _
    have hz1 : w1.heap.size = w.heap.size + 1 := by rw [hw1]; simp
    have k0 : w1.cell? ⟨w.heap.size, 0, none⟩ = some (.int .i64 0) := by rw [hw1]; simp
    have k1 : w1.cell? ⟨w.heap.size, 1, none⟩ = some (.int .i64 0) := by rw [hw1]; simp
    have k2 : w1.cell? ⟨w.heap.size, 2, none⟩ = some (.slice none 0 0) := by rw [hw1]; simp
    have kf : ∀ o, w1.frozen? ⟨w.heap.size, o, none⟩ = false := fun o => by rw [hw1]; simp
    have HEnv : Hid (Env w1 a n c f) := ⟨h.below hb1, by omega, hnc, hcm, hf, by
      obtain ⟨mx, hm⟩ := hmx
      exact ⟨mx, by rw [hb1.cell (p := ⟨0, 0, none⟩) (World.block_lt_of_cell? _ _ hm)]; exact hm⟩⟩
    have HL : Hid (LastK (tkF f n) m) := hl
    have hm0 : 0 < m := hl.1
    have hm1 : m ≤ 2001 := by omega
    have HB1 : Hid (Below w.heap.size w w1 ∧ w1.heap.size = w.heap.size + 1) := ⟨hb1, hz1⟩
    have R0 : RdS w1 (.slice a n c) (w1.alloc (.cells #[.slice a n c, .int .i64 0, .string { data := #[] }, .int .i64 0, .string { data := #[] }, .slice none 0 0, .int .i64 0, .int .i64 0, .int .i64 0] 86)) ((0 : Nat) : Int) 0 ((0 : Nat) : Int) 0 0 { data := #[] } { data := #[] } (.slice none 0 0) [] := ⟨RB.new _ _, NdA.nil _ _, below_alloc _ _⟩
    have HA : Hid (Calls Try.prog 54 #[.pointer (some ⟨w1.heap.size, 0, none⟩)] (w1.alloc (.cells #[.slice a n c, .int .i64 0, .string { data := #[] }, .int .i64 0, .string { data := #[] }, .slice none 0 0, .int .i64 0, .int .i64 0, .int .i64 0] 86)) fun r w' => r = .returned (.tuple #[]) ∧ RS (tkF f n) (tkPos f n) m w1 (.slice a n c) m w' (nrm (tkF f n) (tkPos f n) 0 0 [])) := advance_any HEnv.out _ m 0 0 0 m 0 _ _ _ [] R0 (Nat.zero_le _) rfl (by simp)
    have HO0 : Hid (OkS (tkF f n) m 0 (nrm (tkF f n) (tkPos f n) 0 0 [])) := fun s e => by
      obtain ⟨rfl, h0⟩ := nrm_inv e
      exact ⟨⟨hm0, h0, by show 0 ≤ 100; omega⟩, Nat.zero_le _⟩
    have HP : Hid (∀ W, RS (tkF f n) (tkPos f n) m w1 (.slice a n c) m W (nrm (tkF f n) (tkPos f n) 0 0 []) → Calls Try.prog 55 #[.pointer (some ⟨w1.heap.size, 0, none⟩)] W (FRet (tkF f n) (tkPos f n) m w1 (.slice a n c) m (pathF (tkF f n) (tkPos f n) m m (nrm (tkF f n) (tkPos f n) 0 0 [])))) := fun W hW => path_rs HEnv.out HL.out m W m _ (by omega) hW HO0.out (by omega) (fun s _ => Nat.le_add_right _ _)
    have HO1 : Hid (OkS (tkF f n) m 0 (pathF (tkF f n) (tkPos f n) m m (nrm (tkF f n) (tkPos f n) 0 0 []))) := HO0.out.up (up_path HL.out m _)
    have HT : Hid (∀ W, RS (tkF f n) (tkPos f n) m w1 (.slice a n c) m W (pathF (tkF f n) (tkPos f n) m m (nrm (tkF f n) (tkPos f n) 0 0 [])) → Calls Try.prog 56 #[.pointer (some ⟨w1.heap.size, 0, none⟩), .string { data := #[101, 110, 100, 32, 111, 102, 32, 116, 104, 101, 32, 116, 101, 120, 116] }] W fun e w' => ∃ q, e = .returned (.string (strT q)) ∧ (15 = 14 → q = tkQ (tkF f n) (pathF (tkF f n) (tkPos f n) m m (nrm (tkF f n) (tkPos f n) 0 0 []))) ∧ RS (tkF f n) (tkPos f n) m w1 (.slice a n c) (m - dl (pathF (tkF f n) (tkPos f n) m m (nrm (tkF f n) (tkPos f n) 0 0 []))) w' (topF (tkF f n) (tkPos f n) m)) := fun W hW => tk_rs HEnv.out 15 _ rfl (by omega) (by omega) W _ hW HO1.out
    have HTOP : Hid (∀ s, topF (tkF f n) (tkPos f n) m = .inl s → Tr s.2.2 ∧ (∀ x, x ∈ s.2.2 → gdN x) ∧ s.2.2.length ≤ 100) := fun s e => by
      obtain ⟨i3, nd3, N3, e3, _, q3, _⟩ := tk_inv e
      have hpc : ∃ z, nrm (tkF f n) (tkPos f n) 0 0 [] = .inl z := by
        cases hz : nrm (tkF f n) (tkPos f n) 0 0 [] with
        | inl z => exact ⟨z, rfl⟩
        | inr x =>
          rw [hz] at e3
          have : pathF (tkF f n) (tkPos f n) m m (.inr x) = .inr x := by
            cases m with
            | zero => rfl
            | succ g => rfl
          rw [this] at e3
          cases e3
      obtain ⟨z, hz⟩ := hpc
      obtain ⟨rfl, h0⟩ := nrm_inv hz
      rw [hz] at e3
      have pc := pc_pathF (tk14 HEnv.out.byt) HL.out m 0 0 [] hm0 (by omega) h0 (by omega) (A := (tkPos f n))
      rw [e3] at pc
      obtain ⟨d, g1, g2, g3, g4, g5, _⟩ := pc
      have g1' : N3 = d := by have : N3 = [] ++ d := g1; simpa using this
      have g4' : nd3 = 0 + d.length := g4
      have g5' : nd3 ≤ 100 := g5
      rw [q3]
      show Tr N3 ∧ (∀ x, x ∈ N3 → gdN x) ∧ N3.length ≤ 100
      rw [g1']
      exact ⟨g2, g3, by omega⟩
    clear h hf hmx hl R0 hb1 HO0 HO1 hz1
    go_enter Try.func22, Try.ntmps22
    go_upto_region 3 with fail
    rw [← hw1]
    clear hw1
    go_upto_region 4 with fail
    go_wp2_with fail
    refine HA.out.mono ?_
    rintro e w3 ⟨rfl, h3⟩
    have G3 : Hid (RS (tkF f n) (tkPos f n) m w1 (.slice a n c) m w3 (nrm (tkF f n) (tkPos f n) 0 0 [])) := h3
    clear h3 HA
    go_wp2_with fail
    refine (HP.out w3 G3.out).mono ?_
    rintro e w4 ⟨rfl, h4⟩
    have G4 : Hid (RS (tkF f n) (tkPos f n) m w1 (.slice a n c) m w4 (pathF (tkF f n) (tkPos f n) m m (nrm (tkF f n) (tkPos f n) 0 0 []))) := h4
    clear h4 HP G3
    go_wp2_with fail
    refine (HT.out w4 G4.out).mono ?_
    rintro e w5 ⟨q5, rfl, _, h5⟩
    have G5 : Hid (RS (tkF f n) (tkPos f n) m w1 (.slice a n c) m w5 (topF (tkF f n) (tkPos f n) m)) := h5.more (by omega)
    clear h5 HT G4
    have e1 : w1.heap.size = w.heap.size + 1 := HB1.out.2
    have hb5 := G5.out.bel
    have HB5 : Hid (Below w.heap.size w w5) := HB1.out.1.trans (hb5.1.mono (by omega))
    have z5 : w.heap.size + 1 < w5.heap.size := by have := hb5.2; omega
    have j0 : w5.cell? ⟨w.heap.size, 0, none⟩ = some (.int .i64 0) := by rw [hb5.1.cell (p := ⟨w.heap.size, 0, none⟩) (by show w.heap.size < _; omega)]; exact k0
    have j1 : w5.cell? ⟨w.heap.size, 1, none⟩ = some (.int .i64 0) := by rw [hb5.1.cell (p := ⟨w.heap.size, 1, none⟩) (by show w.heap.size < _; omega)]; exact k1
    have j2 : w5.cell? ⟨w.heap.size, 2, none⟩ = some (.slice none 0 0) := by rw [hb5.1.cell (p := ⟨w.heap.size, 2, none⟩) (by show w.heap.size < _; omega)]; exact k2
    have jf : ∀ o, w5.frozen? ⟨w.heap.size, o, none⟩ = false := fun o => by rw [hb5.1.frozen (p := ⟨w.heap.size, o, none⟩) (by show w.heap.size < _; omega)]; exact kf o
    clear hb5 k0 k1 k2 kf
    cases htop : topF (tkF f n) (tkPos f n) m with
    | inr x =>
      have G6 : RS (tkF f n) (tkPos f n) m w1 (.slice a n c) m w5 (.inr x) := by rw [← htop]; exact G5.out
      obtain ⟨bh, ta, mk, ct, vn, N, g1, _, g3⟩ := G6
      obtain ⟨c0, c1, c2, c3, c4, c5, c6, c7, c8⟩ := g1.cells
      rw [e1] at c7 c8 ⊢
      obtain ⟨er, at_⟩ := x
      have d7 : w5.cell? ⟨w.heap.size + 1, 7, none⟩ = some (.int .i64 er) := c7
      have d8 : w5.cell? ⟨w.heap.size + 1, 8, none⟩ = some (.int .i64 at_) := c8
      have her : ¬ er = 0 := g3
      have der : (er == 0) = false := by simp [her]
      have HF : Hid (∀ w', Below w.heap.size w w' → PaRet f n m w (.returned (PVal er at_ (.slice none 0 0))) w') := fun w' hb => ⟨er, at_, _, [], rfl, .inr (.inl ⟨by omega, _, htop, her, rfl, rfl, rfl⟩), NdA.nil _ _, hb⟩
      clear c0 c1 c2 c3 c4 c5 c6 c7 c8 g1 g3 htop HTOP G5 e1
      go_wp2_with fail
      refine wp_region_late (S := fun W => W.cell? ⟨w.heap.size + 1, 7, none⟩ = some (.int .i64 er) ∧ W.cell? ⟨w.heap.size + 1, 8, none⟩ = some (.int .i64 at_)) 9 (by kernel_rfl) ⟨d7, d8⟩ (fun hHeld => ?_)
      refine tk 0 .zero (v := ?_) ?_ ?_
      rotate_left
      · (intro wz hSw; obtain ⟨z7, z8⟩ := hSw; go_simp) <;> with_reducible rfl
      simp only [tkp]
      refine tk 1 (.succ .zero) (v := ?_) ?_ ?_
      rotate_left
      · (intro wz hSw; obtain ⟨z7, z8⟩ := hSw; go_simp) <;> with_reducible rfl
      simp only [tkp]
      refine tk 2 (.succ (.succ .zero)) (v := ?_) ?_ ?_
      rotate_left
      · (intro wz hSw; obtain ⟨z7, z8⟩ := hSw; go_simp) <;> with_reducible rfl
      simp only [tkp]
      refine tk 3 (.succ (.succ (.succ .zero))) (v := ?_) ?_ ?_
      rotate_left
      · (intro wz hSw; obtain ⟨z7, z8⟩ := hSw; go_simp) <;> with_reducible rfl
      simp only [tkp]
      refine tk 4 (.succ (.succ (.succ (.succ .zero)))) (v := ?_) ?_ ?_
      rotate_left
      · (intro wz hSw; obtain ⟨z7, z8⟩ := hSw; go_simp) <;> with_reducible rfl
      simp only [tkp]
      refine tk 5 (.succ (.succ (.succ (.succ (.succ .zero))))) (v := ?_) ?_ ?_
      rotate_left
      · (intro wz hSw; obtain ⟨z7, z8⟩ := hSw; go_simp) <;> with_reducible rfl
      simp only [tkp]
      refine tk 6 (.succ (.succ (.succ (.succ (.succ (.succ .zero)))))) (v := ?_) ?_ ?_
      rotate_left
      · (intro wz hSw; obtain ⟨z7, z8⟩ := hSw; go_simp) <;> with_reducible rfl
      simp only [tkp]
      refine tk 7 (.succ (.succ (.succ (.succ (.succ (.succ (.succ .zero))))))) (v := ?_) ?_ ?_
      rotate_left
      · (intro wz hSw; obtain ⟨z7, z8⟩ := hSw; go_simp) <;> with_reducible rfl
      simp only [tkp]
      refine tk 8 (.succ (.succ (.succ (.succ (.succ (.succ (.succ (.succ .zero)))))))) (v := ?_) ?_ ?_
      rotate_left
      · (intro wz hSw; obtain ⟨z7, z8⟩ := hSw; go_simp) <;> with_reducible rfl
      simp only [tkp]
      refine tk1 9 (.succ (.succ (.succ (.succ (.succ (.succ (.succ (.succ (.succ .zero))))))))) (fun K hK => ?_)
      go_simp
      refine hK.out _ _ (fun hne => absurd rfl hne) (fun _ => ?_)
      clear hK K
      try simp only [tkp]
      refine wpLate_done (by kernel_rfl) ?_ _
      go_wp2
      refine bodyPost_ret (v := PVal er at_ (.slice none 0 0)) (by simp [PVal, results, Try.results22, go_sem, j0, j1, j2]) rfl (HF.out _ ?_)
      exact (((HB5.out.drew).setCell (by simp) _).setCell (by simp) _).setCell (by simp) _
    | inl s =>
      obtain ⟨hT1, hT2, hT3⟩ := HTOP.out s htop
      have G6 : RS (tkF f n) (tkPos f n) m w1 (.slice a n c) m w5 (.inl s) := by rw [← htop]; exact G5.out
      obtain ⟨vn, g1, _, _⟩ := G6
      obtain ⟨c0, c1, c2, c3, c4, c5, c6, c7, c8⟩ := g1.cells
      obtain ⟨i, nd, N⟩ := s
      have hnd : NdA w5 (w1.heap.size + 1) vn N := g1.nd
      have hlen : N.length ≤ 100 := hT3
      obtain ⟨av, cv, ev, hlc, hcm2, hrd⟩ := hnd.rd
      subst ev
      rw [e1] at c5 c7 hnd ⊢
      have d5 : w5.cell? ⟨w.heap.size + 1, 5, none⟩ = some (.slice av N.length cv) := c5
      have d7 : w5.cell? ⟨w.heap.size + 1, 7, none⟩ = some (.int .i64 0) := c7
      have HND : Hid (NdA w5 (w.heap.size + 1 + 1) (.slice av N.length cv) N ∧ RdN w5 av N.length (nI N) (nX N) (nR N)) := ⟨hnd, hrd⟩
      have HTT : Hid (topF (tkF f n) (tkPos f n) m = .inl (i, nd, N)) := htop
      clear c0 c1 c2 c3 c4 c5 c6 c7 c8 g1 htop HTOP G5 e1 hnd hrd hT1 hT2 hT3
      obtain ⟨L, hL⟩ : ∃ L, L = N.length := ⟨_, rfl⟩
      have HLL : Hid (L = N.length) := hL
      rw [← hL] at d5 hlc HND hlen
      clear hL
      have HV : Hid (∀ W, Below w5.heap.size w5 W → Calls Try.prog 12 #[.agg #[.slice av L cv]] W (AnsN W (VPth L (nI N) (nX N) (nR N)))) := fun W hW => implVP av L cv _ _ _ W (HND.out.2.below hW) (by omega) hlc hcm2
      go_wp2_with fail
      refine (HV.out _ (below_alloc _ _)).mono ?_
      rintro e w6 ⟨bb, rfl, hbb, hb6⟩
      have HB6 : Hid (Below w.heap.size w w6) := (HB5.out.alloc (by omega) _).trans (hb6.mono (by simp; omega))
      have hb56 : Below w5.heap.size w5 w6 := (below_alloc _ _).trans (hb6.mono (by simp))
      have z6 : w5.heap.size < w6.heap.size := by have := hb6.size; simp at this; omega
      have HN6 : Hid (NdA w6 (w.heap.size + 1 + 1) (.slice av L cv) N) := HND.out.1.below hb56
      have p0 : w6.cell? ⟨w5.heap.size, 0, none⟩ = some (.slice av L cv) := by rw [hb6.cell (p := ⟨w5.heap.size, 0, none⟩) (by simp)]; simp
      have s0 : w6.cell? ⟨w.heap.size, 0, none⟩ = some (.int .i64 0) := by rw [hb56.cell (p := ⟨w.heap.size, 0, none⟩) (by show w.heap.size < _; omega)]; exact j0
      have s1 : w6.cell? ⟨w.heap.size, 1, none⟩ = some (.int .i64 0) := by rw [hb56.cell (p := ⟨w.heap.size, 1, none⟩) (by show w.heap.size < _; omega)]; exact j1
      have s2 : w6.cell? ⟨w.heap.size, 2, none⟩ = some (.slice none 0 0) := by rw [hb56.cell (p := ⟨w.heap.size, 2, none⟩) (by show w.heap.size < _; omega)]; exact j2
      have sf : ∀ o, w6.frozen? ⟨w.heap.size, o, none⟩ = false := fun o => by rw [hb56.frozen (p := ⟨w.heap.size, o, none⟩) (by show w.heap.size < _; omega)]; exact jf o
      clear hb6 hb56 HV HND j0 j1 j2 jf d5 d7
      generalize w5.heap.size = b5 at *
      cases bb with
      | false =>
        have HF : Hid (∀ w', Below w.heap.size w w' → PaRet f n m w (.returned (PVal 5 n (.slice none 0 0))) w') := fun w' hb => ⟨5, n, _, [], rfl, .inr (.inr (.inl ⟨by omega, _, HTT.out, fun hv => absurd (hbb.2 (by rw [HLL.out]; exact hv)) (by decide), rfl, rfl, rfl⟩)), NdA.nil _ _, hb⟩
        clear hbb
        go_wp2
        refine bodyPost_ret (v := PVal 5 n (.slice none 0 0)) (by simp [PVal, results, Try.results22, go_sem, s0, s1, s2]) rfl (HF.out _ ?_)
        exact ((HB6.out.setCell (by simp) _).setCell (by simp) _).setCell (by simp) _
      | true =>
        have HF : Hid (∀ w', Below w.heap.size w w' → NdA w' (w.heap.size + 1 + 1) (.slice av L cv) N → PaRet f n m w (.returned (PVal 0 0 (.slice av L cv))) w') := fun w' hb hnd => ⟨0, 0, _, N, rfl, .inr (.inr (.inr ⟨by omega, _, HTT.out, by have := hbb.1 rfl; rw [HLL.out] at this; exact this, rfl, rfl, rfl⟩)), hnd.mono (by omega), hb⟩
        clear hbb
        have HBL : Hid (∀ u0 u1 u2 : Value, NdA (((w6.setCell ⟨w.heap.size, 0, none⟩ u0).setCell ⟨w.heap.size, 1, none⟩ u1).setCell ⟨w.heap.size, 2, none⟩ u2) (w.heap.size + 1 + 1) (.slice av L cv) N) := fun u0 u1 u2 => ((HN6.out.setLow (by show w.heap.size < _; omega) _).setLow (by show w.heap.size < _; omega) _).setLow (by show w.heap.size < _; omega) _
        go_wp2
        refine bodyPost_ret (v := PVal 0 0 (.slice av L cv)) (by simp [PVal, results, Try.results22, go_sem, s0, s1, s2]) rfl (HF.out _ ?_ ?_)
        · exact ((HB6.out.setCell (by simp) _).setCell (by simp) _).setCell (by simp) _
        · exact HBL.out _ _ _
end Go.Proofs.Ytocmbnocdjnfpaa

namespace Go.Proofs.Ytocmbnocdjnfpaa
open Go.RowKit Go.Deep
set_option linter.unusedVariables false
set_option linter.unusedSimpArgs false
set_option maxRecDepth 100000

def updI (I : Nat → Int) (j : Nat) (v : Int) : Nat → Int := fun i => if i = j then v else I i
def updX (X : Nat → ByteArray) (j : Nat) (v : ByteArray) : Nat → ByteArray := fun i => if i = j then v else X i
theorem row_set0 {w : World} {g n j : Nat} {I : Nat → Int} {X R : Nat → ByteArray} (h : rowIn w g 61 (n * 3) (pnCell I X R)) (v : Int) : rowIn (w.setCell ⟨g, j * 3, none⟩ (.int .i64 v)) g 61 (n * 3) (pnCell (updI I j v) X R) := by
  refine (h.set (j * 3) _).congr (fun c hc => ?_)
  obtain ⟨q, hq⟩ : ∃ q, c = q * 3 ∨ c = q * 3 + 1 ∨ c = q * 3 + 2 := ⟨c / 3, by omega⟩
  rcases hq with rfl | rfl | rfl
  · rw [pnCell_0, pnCell_0]
    unfold updI
    by_cases e : q = j
    · subst e; rw [if_pos rfl, if_pos rfl]
    · rw [if_neg (by omega), if_neg e]
  · rw [if_neg (by omega), pnCell_1, pnCell_1]
  · rw [if_neg (by omega), pnCell_2, pnCell_2]
theorem row_set1 {w : World} {g n j : Nat} {I : Nat → Int} {X R : Nat → ByteArray} (h : rowIn w g 61 (n * 3) (pnCell I X R)) (v : ByteArray) : rowIn (w.setCell ⟨g, j * 3 + 1, none⟩ (.string v)) g 61 (n * 3) (pnCell I (updX X j v) R) := by
  refine (h.set (j * 3 + 1) _).congr (fun c hc => ?_)
  obtain ⟨q, hq⟩ : ∃ q, c = q * 3 ∨ c = q * 3 + 1 ∨ c = q * 3 + 2 := ⟨c / 3, by omega⟩
  rcases hq with rfl | rfl | rfl
  · rw [if_neg (by omega), pnCell_0, pnCell_0]
  · rw [pnCell_1, pnCell_1]
    unfold updX
    by_cases e : q = j
    · subst e; rw [if_pos rfl, if_pos rfl]
    · rw [if_neg (by omega), if_neg e]
  · rw [if_neg (by omega), pnCell_2, pnCell_2]
theorem row_set2 {w : World} {g n j : Nat} {I : Nat → Int} {X R : Nat → ByteArray} (h : rowIn w g 61 (n * 3) (pnCell I X R)) (v : ByteArray) : rowIn (w.setCell ⟨g, j * 3 + 2, none⟩ (.string v)) g 61 (n * 3) (pnCell I X (updX R j v)) := by
  refine (h.set (j * 3 + 2) _).congr (fun c hc => ?_)
  obtain ⟨q, hq⟩ : ∃ q, c = q * 3 ∨ c = q * 3 + 1 ∨ c = q * 3 + 2 := ⟨c / 3, by omega⟩
  rcases hq with rfl | rfl | rfl
  · rw [if_neg (by omega), pnCell_0, pnCell_0]
  · rw [if_neg (by omega), pnCell_1, pnCell_1]
  · rw [pnCell_2, pnCell_2]
    unfold updX
    by_cases e : q = j
    · subst e; rw [if_pos rfl, if_pos rfl]
    · rw [if_neg (by omega), if_neg e]
/-- The first j nodes are marked. -/
def Mkd (j : Nat) (I : Nat → Int) (X R : Nat → ByteArray) : Prop := ∀ i, i < j → I i = 1 + 3 * (i : Int) ∧ X i = mkT (2 + 3 * i) ∧ R i = mkT (3 + 3 * i)
theorem Mkd.up {j : Nat} {I : Nat → Int} {X R : Nat → ByteArray} (h : Mkd j I X R) {x : Int} (hx : x = 1 + 3 * (j : Int)) {k1 k2 : Nat} (h1 : k1 = 2 + 3 * j) (h2 : k2 = 3 + 3 * j) : Mkd (j + 1) (updI I j x) (updX X j (mkT k1)) (updX R j (mkT k2)) := fun i hi => by
  unfold updI updX
  by_cases e : i = j
  · subst e; rw [if_pos rfl, if_pos rfl, if_pos rfl, hx, h1, h2]; exact ⟨rfl, rfl, rfl⟩
  · rw [if_neg e, if_neg e, if_neg e]; exact h i (by omega)
theorem markTx_i (x : Int) (k : Nat) (hx : x = (k : Int)) (w : World) (hk : 1 ≤ k) (hk2 : k ≤ 1073741824) : Calls Try.prog 69 #[.int .i64 x] w fun e w' => e = .returned (.string (mkT k)) ∧ Below w.heap.size w w' := by
  subst hx
  exact markText_any k w hk hk2

set_option maxHeartbeats 2000000 in
theorem markPNodeS_c (g n c : Nat) (I : Nat → Int) (X R : Nat → ByteArray) (w : World) (h : rowIn w g 61 (n * 3) (pnCell I X R)) (hn : n ≤ 1048577) :
    Calls Try.prog 51 #[.slice (some ⟨g, 0, none⟩) n c, .int .i64 1] w fun e w' => e = .returned (.int .i64 (1 + 3 * (n : Int))) ∧ w.grownBy w' (some g) ∧ ∃ I X R, rowIn w' g 61 (n * 3) (pnCell I X R) ∧ Mkd n I X R := by
  have HR : Hid (rowIn w g 61 (n * 3) (pnCell I X R)) := h
  clear h
  go_enter Try.func51, Try.ntmps51
  go_wp2
  go_loopw [1, 5] (fun q i wr => ∃ (j : Nat) (x : Int), j ≤ n ∧ i = .int .i64 j ∧ q = .int .i64 x ∧ x = 1 + 3 * (j : Int) ∧ (∃ I X R, rowIn wr g 61 (n * 3) (pnCell I X R) ∧ Mkd j I X R) ∧ w.grownBy wr (some g)) (fun _ i _ => n - (intOf i).toNat)
  case atStart => exact ⟨0, 1, Nat.zero_le _, rfl, rfl, by omega, ⟨I, X, R, HR.out, fun i hi => absurd hi (Nat.not_lt_zero _)⟩, ⟨rfl, rfl, rfl, Nat.le_refl _, fun _ _ _ => rfl⟩⟩
  case round =>
    obtain ⟨j, x, hj, rfl, rfl, hx, ⟨I, X, R, hrow, hmk⟩, hgr⟩ := hrel
    have HX : Hid (x = 1 + 3 * (j : Int)) := hx
    have HW : Hid (rowIn wr g 61 (n * 3) (pnCell I X R) ∧ w.grownBy wr (some g) ∧ Mkd j I X R) := ⟨hrow, hgr, hmk⟩
    have hx0 : 0 ≤ x := by omega
    have hx1 : x ≤ 3145732 := by omega
    obtain ⟨k1, hk1⟩ : ∃ k1 : Nat, k1 = 2 + 3 * j := ⟨_, rfl⟩
    obtain ⟨k2, hk2⟩ : ∃ k2 : Nat, k2 = 3 + 3 * j := ⟨_, rfl⟩
    have HK : Hid (k1 = 2 + 3 * j ∧ k2 = 3 + 3 * j) := ⟨hk1, hk2⟩
    have HM1 : Hid (∀ W, Calls Try.prog 69 #[.int .i64 (x + 1)] W fun e w' => e = .returned (.string (mkT k1)) ∧ Below W.heap.size W w') := fun W => markTx_i (x + 1) k1 (by omega) W (by omega) (by omega)
    have HM2 : Hid (∀ W, Calls Try.prog 69 #[.int .i64 (x + 1 + 1)] W fun e w' => e = .returned (.string (mkT k2)) ∧ Below W.heap.size W w') := fun W => markTx_i (x + 1 + 1) k2 (by omega) W (by omega) (by omega)
    clear hx hrow hgr hmk hk1 hk2
    by_cases hlt : j < n
    · obtain ⟨i0, x0, r0, c0, c1, c2, hfz, hgl⟩ := NRow.cells ⟨I, X, R, HW.out.1⟩ hlt
      obtain ⟨W1, hW1⟩ : ∃ W1, W1 = wr.setCell ⟨g, j * 3, none⟩ (.int .i64 x) := ⟨_, rfl⟩
      have HW1 : Hid (rowIn W1 g 61 (n * 3) (pnCell (updI I j x) X R) ∧ w.grownBy W1 (some g)) := by
        rw [hW1]
        exact ⟨row_set0 HW.out.1 x, grownN_trans HW.out.2.1 grownN_set⟩
      clear c1 c2
      go_upto_region 6 with fail
      rw [← hW1]
      clear hW1 c0 hfz hgl i0 x0 r0
      go_wp2_with fail
      refine (HM1.out W1).mono ?_
      rintro e w2 ⟨rfl, hb2⟩
      have HW2 : Hid (rowIn w2 g 61 (n * 3) (pnCell (updI I j x) X R) ∧ w.grownBy w2 (some g)) := ⟨HW1.out.1.of_block (hb2.block g HW1.out.1.lt), grownN_trans HW1.out.2 (grownN_below hb2 _)⟩
      clear hb2 HW1
      obtain ⟨i0, x0, r0, c0, c1, c2, hfz, hgl⟩ := NRow.cells ⟨_, _, _, HW2.out.1⟩ hlt
      obtain ⟨W3, hW3⟩ : ∃ W3, W3 = w2.setCell ⟨g, j * 3 + 1, none⟩ (.string (mkT k1)) := ⟨_, rfl⟩
      have HW3 : Hid (rowIn W3 g 61 (n * 3) (pnCell (updI I j x) (updX X j (mkT k1)) R) ∧ w.grownBy W3 (some g)) := by
        rw [hW3]
        exact ⟨row_set1 HW2.out.1 _, grownN_trans HW2.out.2 grownN_set⟩
      clear c0 c2
      generalize hY1 : mkT k1 = Y1 at *
      have HY1 : Hid (mkT k1 = Y1) := hY1
      clear hY1
      go_upto_region 8 with fail
      rw [← hW3]
      clear hW3 c1 hfz hgl HW2 i0 x0 r0
      go_wp2_with fail
      refine (HM2.out W3).mono ?_
      rintro e w4 ⟨rfl, hb4⟩
      have HW4 : Hid (rowIn w4 g 61 (n * 3) (pnCell (updI I j x) (updX X j Y1) R) ∧ w.grownBy w4 (some g)) := ⟨HW3.out.1.of_block (hb4.block g HW3.out.1.lt), grownN_trans HW3.out.2 (grownN_below hb4 _)⟩
      clear hb4 HW3
      obtain ⟨i0, x0, r0, c0, c1, c2, hfz, hgl⟩ := NRow.cells ⟨_, _, _, HW4.out.1⟩ hlt
      have HZ : Hid (rowIn (w4.setCell ⟨g, j * 3 + 2, none⟩ (.string (mkT k2))) g 61 (n * 3) (pnCell (updI I j x) (updX X j Y1) (updX R j (mkT k2))) ∧ w.grownBy (w4.setCell ⟨g, j * 3 + 2, none⟩ (.string (mkT k2))) (some g)) := ⟨row_set2 HW4.out.1 _, grownN_trans HW4.out.2 grownN_set⟩
      clear c0 c1 HW4
      generalize hY2 : mkT k2 = Y2 at *
      have HY2 : Hid (mkT k2 = Y2) := hY2
      clear hY2
      go_wp2
      go_roundw
      case rel => exact ⟨j + 1, _, by omega, by go_num, rfl, by rw [HX.out]; omega, ⟨_, _, _, HZ.out.1, by rw [← HY1.out, ← HY2.out]; exact HW.out.2.2.up HX.out HK.out.1 HK.out.2⟩, HZ.out.2⟩
      case measure => simp [intOf]; omega
    · obtain rfl : j = n := by omega
      go_wp2
      go_ret
      exact ⟨by rw [HX.out]; rfl, HW.out.2.1, I, X, R, HW.out.1, HW.out.2.2⟩
set_option maxHeartbeats 2000000 in
theorem heldPNodeS_c (a : Option Addr) (n c : Nat) (I : Nat → Int) (X R : Nat → ByteArray) (w : World) (h : RdN w a n I X R) (hm : Mkd n I X R) (hn : n ≤ 1048577) :
    Calls Try.prog 112 #[.slice a n c, .int .i64 1] w fun e w' => e = .returned (.int .i64 (1 + 3 * (n : Int))) ∧ Below w.heap.size w w' := by
  have HR : Hid (RdN w a n I X R ∧ Mkd n I X R) := ⟨h, hm⟩
  clear h hm
  go_enter Try.func112, Try.ntmps112
  go_wp2
  go_loopw [1, 5] (fun q i wr => ∃ (j : Nat) (x : Int), j ≤ n ∧ i = .int .i64 j ∧ q = .int .i64 x ∧ x = 1 + 3 * (j : Int) ∧ Below w.heap.size w wr) (fun _ i _ => n - (intOf i).toNat)
  case atStart => exact ⟨0, 1, Nat.zero_le _, rfl, rfl, by omega, Below.refl _ _⟩
  case round =>
    obtain ⟨j, x, hj, rfl, rfl, hx, hbel⟩ := hrel
    have HX : Hid (x = 1 + 3 * (j : Int)) := hx
    have HB : Hid (Below w.heap.size w wr) := hbel
    have hx0 : 0 ≤ x := by omega
    have hx1 : x ≤ 3145732 := by omega
    by_cases hlt : j < n
    · obtain ⟨b, o, rfl, hc⟩ : ∃ b o, a = some ⟨b, o, none⟩ ∧ ∀ i, i < n → wr.cell? ⟨b, o + i * 3, none⟩ = some (.int .i64 (I i)) ∧ wr.cell? ⟨b, o + i * 3 + 1, none⟩ = some (.string (X i)) ∧ wr.cell? ⟨b, o + i * 3 + 2, none⟩ = some (.string (R i)) := by
        rcases HR.out.1.below hbel with q | ⟨b, o, e, hc⟩
        · omega
        · exact ⟨b, o, e, hc⟩
      obtain ⟨e1, e2, e3⟩ := HR.out.2 j hlt
      obtain ⟨k1, hk1⟩ : ∃ k1 : Nat, k1 = 2 + 3 * j := ⟨_, rfl⟩
      obtain ⟨k2, hk2⟩ : ∃ k2 : Nat, k2 = 3 + 3 * j := ⟨_, rfl⟩
      have c0 : wr.cell? ⟨b, o + j * 3, none⟩ = some (.int .i64 x) := by rw [(hc j hlt).1, e1, hx]
      have c1 : wr.cell? ⟨b, o + j * 3 + 1, none⟩ = some (.string (mkT k1)) := by rw [(hc j hlt).2.1, e2, hk1]
      have c2 : wr.cell? ⟨b, o + j * 3 + 2, none⟩ = some (.string (mkT k2)) := by rw [(hc j hlt).2.2, e3, hk2]
      have HM1 : Hid (∀ W, Calls Try.prog 69 #[.int .i64 (x + 1)] W fun e w' => e = .returned (.string (mkT k1)) ∧ Below W.heap.size W w') := fun W => markTx_i (x + 1) k1 (by omega) W (by omega) (by omega)
      have HM2 : Hid (∀ W, Calls Try.prog 69 #[.int .i64 (x + 1 + 1)] W fun e w' => e = .returned (.string (mkT k2)) ∧ Below W.heap.size W w') := fun W => markTx_i (x + 1 + 1) k2 (by omega) W (by omega) (by omega)
      have hbl : b < wr.heap.size := World.block_lt_of_cell? _ _ c0
      have HC1 : Hid (∀ w1 : World, Below wr.drew.heap.size wr.drew w1 → w1.cell? ⟨b, o + j * 3 + 1, none⟩ = some (.string (mkT k1))) := fun w1 hb1 => by
        rw [hb1.cell (p := ⟨b, o + j * 3 + 1, none⟩) hbl]; exact c1
      have HC2 : Hid (∀ w1 : World, Below wr.heap.size wr w1 → w1.cell? ⟨b, o + j * 3 + 2, none⟩ = some (.string (mkT k2))) := fun w1 hb1 => by
        rw [hb1.cell (p := ⟨b, o + j * 3 + 2, none⟩) hbl]; exact c2
      have i0 : (0 : Int) ≤ (j : Int) := by omega
      have i1 : (j : Int) < (n : Int) := by omega
      clear hc e1 e2 e3 hk1 hk2 hx hbel
      generalize mkT k1 = Y1 at *
      generalize mkT k2 = Y2 at *
      have hq1 : (Y1.toList == Y1.toList) = true := by simp
      have hq2 : (Y2.toList == Y2.toList) = true := by simp
      have hxx : (x != x) = false := by simp
      clear c2
      go_wp2_with fail
      go_region_held3 (fun w' => w'.cell? ⟨b, o + j * 3 + 1, none⟩ = some (.string Y1)) (go_keep) (first | (go_at_call 69; refine (HM1.out _).mono ?_; rintro e w1 ⟨rfl, hb1⟩; have k1 := HC1.out w1 hb1) | fail)
      have hb01 : Below wr.heap.size wr w1 := (Below.refl _ _).drew.trans hb1
      have c3 := HC2.out w1 hb01
      have HB1 : Hid (Below w.heap.size w w1 ∧ Below wr.heap.size wr w1) := ⟨HB.out.trans (hb01.mono HB.out.size), hb01⟩
      have HC3 : Hid (∀ w2 : World, Below w1.drew.heap.size w1.drew w2 → w2.cell? ⟨b, o + j * 3 + 2, none⟩ = some (.string Y2)) := fun w2 hb2 => by
        rw [hb2.cell (p := ⟨b, o + j * 3 + 2, none⟩) (World.block_lt_of_cell? _ _ c3)]; exact c3
      clear hb01 hb1 k1 c0 c1 HC1 HC2 hbl
      go_wp2_with fail
      go_region_held3 (fun w' => w'.cell? ⟨b, o + j * 3 + 2, none⟩ = some (.string Y2)) (go_keep) (first | (go_at_call 69; refine (HM2.out _).mono ?_; rintro e w2 ⟨rfl, hb2⟩; have k2 := HC3.out w2 hb2) | fail)
      have HB2 : Hid (Below w.heap.size w w2) := HB1.out.1.trans ((show Below w1.heap.size w1 w2 from (Below.refl _ _).drew.trans hb2).mono HB1.out.1.size)
      clear hb2 k2 c3 HC3 HB1
      go_wp2
      go_roundw
      case rel => exact ⟨j + 1, _, by omega, by go_num, rfl, by rw [HX.out]; omega, HB2.out⟩
      case measure => simp [intOf]; omega
    · obtain rfl : j = n := by omega
      go_wp2
      go_ret
      exact ⟨by rw [HX.out]; rfl, HB.out⟩
end Go.Proofs.Ytocmbnocdjnfpaa

namespace Go.Proofs.Ytocmbnocdjnfpaa
open Go.RowKit Go.Deep
set_option linter.unusedVariables false
set_option linter.unusedSimpArgs false
set_option maxRecDepth 100000

theorem NdA.row {w : World} {B : Nat} {v : Value} {l : List Nd} (h : NdA w B v l) : (v = .slice none 0 0 ∧ l = []) ∨ ∃ g c, v = .slice (some ⟨g, 0, none⟩) l.length c ∧ B ≤ g ∧ rowIn w g 61 (l.length * 3) (pnCell (nI l) (nX l) (nR l)) := by
  obtain ⟨h0, ⟨e, h1⟩ | ⟨g, cap, cur, e, hg, hh, h1, h2, h3, h4⟩⟩ := h
  · exact .inl ⟨e, List.length_eq_zero_iff.1 h1⟩
  · refine .inr ⟨g, cap, e, hg, cur, hh, by rw [h3]; exact Nat.mul_le_mul_right 3 h1, fun i hi => ?_⟩
    have e4 : cur[i]? = (ndR l)[i]? := by
      rw [← h4, List.getElem?_take, if_pos hi]
      simp
    rw [e4]
    have hi3 : i = (i / 3) * 3 + i % 3 := by omega
    have := ndR_get l (i / 3) (i % 3) (by omega) (by omega)
    rw [← hi3] at this
    rw [this]
    unfold pnCell
    have h3 : i % 3 = 0 ∨ i % 3 = 1 ∨ i % 3 = 2 := by omega
    rcases h3 with q | q | q
    · rw [q, if_pos rfl]; rfl
    · rw [q, if_neg (by omega), if_pos rfl]; rfl
    · rw [q, if_neg (by omega), if_neg (by omega)]; rfl

/-- A row that is marked, and what else has turned. -/
def MkRet (v : Value) (n : Nat) (w : World) (w' : World) : Prop := ∃ row, w.grownBy w' row ∧ (∀ g, row = some g → v.ownBlock = some g) ∧ ∃ a c I X R, v = .slice a n c ∧ RdN w' a n I X R ∧ Mkd n I X R
set_option maxHeartbeats 1000000 in
theorem markPNodeS_v {w : World} {B : Nat} {v : Value} {l : List Nd} (h : NdA w B v l) (hl : l.length ≤ 1000) :
    Calls Try.prog 51 #[v, .int .i64 1] w fun e w' => e = .returned (.int .i64 (1 + 3 * (l.length : Int))) ∧ MkRet v l.length w w' := by
  rcases h.row with ⟨rfl, rfl⟩ | ⟨g, c, rfl, hg, hr⟩
  · go_enter Try.func51, Try.ntmps51
    go_wp2
    go_rounds 1
    go_ret
    exact ⟨rfl, none, ⟨rfl, rfl, rfl, Nat.le_refl _, fun _ _ _ => rfl⟩, (fun g e => by cases e), none, 0, fun _ => 0, fun _ => { data := #[] }, fun _ => { data := #[] }, rfl, .inl rfl, fun i hi => absurd hi (Nat.not_lt_zero _)⟩
  · refine (markPNodeS_c g l.length c _ _ _ w hr (by omega)).mono ?_
    rintro e w' ⟨rfl, hgr, I, X, R, h1, h2⟩
    exact ⟨rfl, some g, hgr, fun g' e => e, _, _, I, X, R, rfl, rdN_row h1, h2⟩
theorem MkRet.under {v : Value} {n : Nat} {w w1 w' : World} (h : MkRet v n w1 w') (hb : Below w.heap.size w w1) : MkRet v n w w' := by
  obtain ⟨row, h1, h2⟩ := h
  exact ⟨row, grownN_trans (grownN_below hb _) h1, h2⟩
set_option maxHeartbeats 1000000 in
theorem markPath_v {w : World} {B : Nat} {v : Value} {l : List Nd} (h : NdA w B v l) (hl : l.length ≤ 1000) :
    Calls Try.prog 17 #[.agg #[v], .int .i64 1] w fun e w' => e = .returned (.int .i64 (1 + 3 * (l.length : Int))) ∧ MkRet v l.length w w' := by
  have HR : Hid (NdA w B v l) := h
  obtain ⟨a, c, rfl, _⟩ := h.rd
  clear h
  go_enter Try.func17, Try.ntmps17
  go_wp2_with fail
  refine (markPNodeS_v (HR.out.below (below_alloc _ _)) hl).mono ?_
  rintro e w1 ⟨rfl, hm⟩
  have HM : Hid (MkRet (.slice a l.length c) l.length w w1) := hm.under (below_alloc _ _)
  clear hm
  go_wp2
  go_ret
  exact ⟨rfl, HM.out⟩
set_option maxHeartbeats 1000000 in
theorem markPR {w : World} {B : Nat} {v : Value} {l : List Nd} (er at_ : Int) (h : NdA w B v l) (hl : l.length ≤ 1000) :
    Calls Try.prog 27 #[PVal er at_ v, .int .i64 1] w fun e w' => e = .returned (.int .i64 (1 + 3 * (l.length : Int))) ∧ MkRet v l.length w w' := by
  have HR : Hid (NdA w B v l) := h
  obtain ⟨a, c, rfl, _⟩ := h.rd
  clear h
  unfold PVal
  go_enter Try.func27, Try.ntmps27
  go_wp2_with fail
  refine (markPath_v (HR.out.below (below_alloc _ _)) hl).mono ?_
  rintro e w1 ⟨rfl, hm⟩
  have HM : Hid (MkRet (.slice a l.length c) l.length w w1) := hm.under (below_alloc _ _)
  clear hm
  go_wp2
  go_ret
  exact ⟨rfl, HM.out⟩
set_option maxHeartbeats 1000000 in
theorem heldPath_v (a : Option Addr) (n c : Nat) (I : Nat → Int) (X R : Nat → ByteArray) (w : World) (h : RdN w a n I X R) (hm : Mkd n I X R) (hn : n ≤ 1000) :
    Calls Try.prog 59 #[.agg #[.slice a n c], .int .i64 1] w fun e w' => e = .returned (.int .i64 (1 + 3 * (n : Int))) ∧ Below w.heap.size w w' := by
  have HR : Hid (RdN w a n I X R ∧ Mkd n I X R) := ⟨h, hm⟩
  clear h hm
  have n0 : ¬ (1 + 3 * (n : Int) < 0) := by omega
  go_enter Try.func59, Try.ntmps59
  go_wp2_with fail
  refine (heldPNodeS_c a n c I X R _ (HR.out.1.below (below_alloc _ _)) HR.out.2 (by omega)).mono ?_
  rintro e w1 ⟨rfl, hb⟩
  have HB : Hid (Below w.heap.size w w1) := (below_alloc _ _).trans (hb.mono (by simp))
  clear hb
  go_wp2
  go_ret
  exact ⟨rfl, HB.out⟩
set_option maxHeartbeats 1000000 in
theorem heldPR (er at_ : Int) (a : Option Addr) (n c : Nat) (I : Nat → Int) (X R : Nat → ByteArray) (w : World) (h : RdN w a n I X R) (hm : Mkd n I X R) (hn : n ≤ 1000) :
    Calls Try.prog 28 #[PVal er at_ (.slice a n c), .int .i64 1] w fun e w' => e = .returned (.int .i64 (1 + 3 * (n : Int))) ∧ Below w.heap.size w w' := by
  have HR : Hid (RdN w a n I X R ∧ Mkd n I X R) := ⟨h, hm⟩
  clear h hm
  have n0 : ¬ (1 + 3 * (n : Int) < 0) := by omega
  unfold PVal
  go_enter Try.func28, Try.ntmps28
  go_wp2_with fail
  refine (heldPath_v a n c I X R _ (HR.out.1.below (below_alloc _ _)) HR.out.2 (by omega)).mono ?_
  rintro e w1 ⟨rfl, hb⟩
  have HB : Hid (Below w.heap.size w w1) := (below_alloc _ _).trans (hb.mono (by simp))
  clear hb
  go_wp2
  go_ret
  exact ⟨rfl, HB.out⟩
set_option maxHeartbeats 1000000 in
theorem eqPR (er at_ : Int) (a b : Option Addr) (n ca cb : Nat) (I : Nat → Int) (X R : Nat → ByteArray) (w : World) (ha : RdN w a n I X R) (hb : RdN w b n I X R) (hn : n ≤ 1000) :
    Calls Try.prog 26 #[PVal er at_ (.slice a n ca), PVal er at_ (.slice b n cb)] w fun e w' => e = .returned (.bool true) ∧ Below w.heap.size w w' := by
  have HR : Hid (RdN w a n I X R ∧ RdN w b n I X R) := ⟨ha, hb⟩
  clear ha hb
  have HB0 : Hid (∀ o1 o2, Below w.heap.size w ((w.alloc o1).alloc o2)) := fun o1 o2 => (below_alloc _ _).alloc (by simp) _
  have e1 : (er != er) = false := by simp
  have e2 : (at_ != at_) = false := by simp
  unfold PVal
  go_enter Try.func26, Try.ntmps26
  go_wp2_with fail
  refine (eqPath_yes a b n ca cb I X R _ (HR.out.1.below (HB0.out _ _)) (HR.out.2.below (HB0.out _ _)) (by omega)).mono ?_
  rintro e w1 ⟨rfl, hb⟩
  have HB : Hid (Below w.heap.size w w1) := (HB0.out _ _).trans (hb.mono (by simp; omega))
  clear hb
  go_wp2
  go_ret
  exact ⟨rfl, HB.out⟩
end Go.Proofs.Ytocmbnocdjnfpaa

namespace Go.Proofs.Ytocmbnocdjnfpaa
open Go.RowKit Go.Deep
set_option linter.unusedVariables false
set_option linter.unusedSimpArgs false
set_option maxRecDepth 100000

/-- What the law holds on to. -/
structure LPs (w W : World) (B3 b4 B5 : Nat) (er at_ : Int) (vS vG : Value) (l : List Nd) : Prop where
  k : Below w.heap.size w W
  h3 : w.heap.size ≤ B3 ∧ B3 < b4 ∧ b4 < B5
  b3 : W.heap[B3]? = some (.cells #[.int .i64 er, .int .i64 at_, vS] 40 (0, 0))
  b5 : W.heap[B5]? = some (.cells #[.int .i64 er, .int .i64 at_, vG] 40 (0, 0))
  s : NdA W w.heap.size vS l
  sb : ∀ g, vS.ownBlock = some g → g < B3
  gb : ∀ g, vG.ownBlock = some g → b4 < g ∧ g < B5
section
variable {w W W' : World} {B3 b4 B5 : Nat} {er at_ : Int} {vS vG : Value} {l : List Nd}
theorem blk_lt {W : World} {B : Nat} {o : Obj} (h : W.heap[B]? = some o) : B < W.heap.size := (Array.getElem?_eq_some_iff.1 h).1
theorem LPs.keep (h : LPs w W B3 b4 B5 er at_ vS vG l) (hb : Below W.heap.size W W') : LPs w W' B3 b4 B5 er at_ vS vG l :=
  ⟨h.k.trans (hb.mono h.k.size), h.h3, (hb.block _ (blk_lt h.b3)).trans h.b3, (hb.block _ (blk_lt h.b5)).trans h.b5, h.s.below hb, h.sb, h.gb⟩
theorem LPs.grown (h : LPs w W B3 b4 B5 er at_ vS vG l) {row : Option Nat} (hg : W.grownBy W' row) (hr : ∀ g, row = some g → g = b4 ∨ vG.ownBlock = some g) : LPs w W' B3 b4 B5 er at_ vS vG l := by
  have h3 := h.h3
  refine ⟨?_, h.h3, ?_, ?_, ?_, h.sb, h.gb⟩
  · refine ⟨hg.os.trans h.k.os, hg.tape.trans h.k.tape, hg.output.trans h.k.output, Nat.le_trans h.k.size hg.size, fun b hb => (hg.block b (by have := h.k.size; omega) (fun e => ?_)).trans (h.k.block b hb)⟩
    rcases hr b e.symm with e | e
    · omega
    · have := h.gb b e; omega
  · refine (hg.block B3 (blk_lt h.b3) (fun e => ?_)).trans h.b3
    rcases hr B3 e.symm with e | e
    · omega
    · have := h.gb B3 e; omega
  · refine (hg.block B5 (blk_lt h.b5) (fun e => ?_)).trans h.b5
    rcases hr B5 e.symm with e | e
    · omega
    · have := h.gb B5 e; omega
  · refine plS_keep h.s (fun g e => hg.block g (h.s.lt g e).2 (fun q => ?_))
    have hs := h.sb g e
    rcases hr g q.symm with q | q
    · omega
    · have := h.gb g q; omega
theorem LPs.cells (h : LPs w W B3 b4 B5 er at_ vS vG l) : (W.cell? ⟨B3, 0, none⟩ = some (.int .i64 er) ∧ W.cell? ⟨B3, 1, none⟩ = some (.int .i64 at_) ∧ W.cell? ⟨B3, 2, none⟩ = some vS) ∧ W.cell? ⟨B5, 0, none⟩ = some (.int .i64 er) ∧ W.cell? ⟨B5, 1, none⟩ = some (.int .i64 at_) ∧ W.cell? ⟨B5, 2, none⟩ = some vG := by
  have h3 := h.b3
  have h5 := h.b5
  refine ⟨⟨?_, ?_, ?_⟩, ?_, ?_, ?_⟩ <;> simp [World.cell?, h3, h5]
end
theorem rowIn_rd {w : World} {g n : Nat} {f : Nat → Int} (h : rowIn w g 5 n (fun i => .int .u8 (f i))) : Rd .u8 w (some ⟨g, 0, none⟩) n f := .inr ⟨g, 0, rfl, fun i hi => by rw [Nat.zero_add]; exact h.cell hi⟩
theorem PAns.len {f : Nat → Int} {n m : Nat} {er at_ : Int} {l : List Nd} (h : PAns f n m er at_ l) : l.length ≤ 100 := by
  rcases h with ⟨_, _, _, rfl⟩ | ⟨_, x, _, _, _, _, rfl⟩ | ⟨_, r, _, _, _, _, rfl⟩ | ⟨_, r, _, hv, _, _, rfl⟩
  · exact Nat.zero_le _
  · exact Nat.zero_le _
  · exact Nat.zero_le _
  · exact hv.1.2

set_option maxHeartbeats 4000000 in
theorem pqLaw0 (a : Option Addr) (n c : Nat) (f : Nat → Int) (w : World) (ha : Rd .u8 w a n f) (hf : ∀ i, i < n → 0 ≤ f i ∧ f i < 256) (hn : n ≤ maxLen) (hmx : ∃ m, w.cell? ⟨0, 0, none⟩ = some (.int .i64 m)) :
    Calls Try.prog 6 #[.slice a n c] w fun e w' => e = .returned (.bool true) ∧ Below w.heap.size w w' := by
  by_cases hbig : 1048576 < n
  · have hb' : (1048576 : Int) < (n : Int) := by omega
    clear ha hf hmx
    go_enter Try.func6, Try.ntmps6
    go_wp2
    go_ret
    exact ⟨rfl, Below.refl _ _⟩
  have hb' : ¬ (1048576 : Int) < (n : Int) := by omega
  have HA : Hid (Rd .u8 w a n f) := ha
  have HFB : Hid (∀ i, i < n → 0 ≤ f i ∧ f i < 256) := hf
  have HMX : Hid (∀ W, Below w.heap.size w W → ∃ m, W.cell? ⟨0, 0, none⟩ = some (.int .i64 m)) := fun W hW => by
    obtain ⟨m, hm⟩ := hmx
    exact ⟨m, by rw [hW.cell (p := ⟨0, 0, none⟩) (World.block_lt_of_cell? _ _ hm)]; exact hm⟩
  clear ha hf hmx
  go_enter Try.func6, Try.ntmps6
  go_wp2_with fail
  refine (toByteS_any a n c f w HA.out (by omega)).mono ?_
  rintro e w1 ⟨rfl, hr1, hb1, hs1⟩
  have HS1 : Hid (Below w.heap.size w w1 ∧ w1.heap.size = w.heap.size + 1) := ⟨hb1, hs1⟩
  have HSP : Hid (Calls Try.prog 24 #[.slice (some ⟨w.heap.size, 0, none⟩) n n] w1 fun e w' => ∃ m, LastK (tkF f n) m ∧ m ≤ n + 1 ∧ PaRet f n m w1 e w') := specPa _ n n f w1 (Rd.ofRow hr1) (Nat.le_refl _) (by unfold maxLen at hn; omega) HFB.out
  clear hr1 hb1 hs1
  go_wp2_with fail
  refine HSP.out.mono ?_
  rintro e w2 ⟨m, hlk, hm, er, at_, vS, l, rfl, hans, hndS, hb2⟩
  obtain ⟨aS, cS, rfl, hlc, hcm, -⟩ := hndS.rd
  have HAN : Hid (LastK (tkF f n) m ∧ m ≤ n + 1 ∧ PAns f n m er at_ l) := ⟨hlk, hm, hans⟩
  have hl100 := hans.len
  have HK2 : Hid (Below w.heap.size w w2) := HS1.out.1.trans (hb2.mono (by have := HS1.out.2; omega))
  have HN2 : Hid (NdA w2 w1.heap.size (.slice aS l.length cS) l) := hndS
  clear hb2 hndS hlk hm hans HSP
  unfold PVal
  go_upto_region 4 with fail
  obtain ⟨w3, hw3⟩ : ∃ w3, w3 = w2.alloc (.cells #[.int .i64 er, .int .i64 at_, .slice aS l.length cS] 40) := ⟨_, rfl⟩
  rw [← hw3]
  have HK3 : Hid (Below w.heap.size w w3) := by rw [hw3]; exact HK2.out.alloc HK2.out.size _
  have HB3 : Hid (w3.heap[w2.heap.size]? = some (.cells #[.int .i64 er, .int .i64 at_, .slice aS l.length cS] 40 (0, 0)) ∧ w3.heap.size = w2.heap.size + 1 ∧ w.heap.size ≤ w2.heap.size ∧ NdA w3 w.heap.size (.slice aS l.length cS) l ∧ (∀ g, (Value.slice aS l.length cS).ownBlock = some g → g < w2.heap.size)) := by
    rw [hw3]
    exact ⟨Array.getElem?_push_size, by simp, HK2.out.size, (HN2.out.below (below_alloc _ _)).mono (by have := HS1.out.2; omega), fun g e => (HN2.out.lt g e).2⟩
  clear hw3 HN2 HK2 HS1
  generalize w2.heap.size = B3 at *
  clear w2
  go_wp2_with fail
  refine (toByteS_any a n c f w3 (HA.out.below HK3.out) (by omega)).mono ?_
  rintro e w4 ⟨rfl, hr4, hb4, hs4⟩
  have HI4 : Hid (Calls Try.prog 22 #[.slice (some ⟨w3.heap.size, 0, none⟩) n n] w4 (PaRet f n m w4)) := implPa _ n n m f w4 (Rd.ofRow hr4) (Nat.le_refl _) (by unfold maxLen at hn; omega) HFB.out (HMX.out _ (HK3.out.trans (hb4.mono HK3.out.size))) HAN.out.1 HAN.out.2.1
  have H4 : Hid (Below w3.heap.size w3 w4 ∧ w4.heap.size = w3.heap.size + 1 ∧ rowIn w4 w3.heap.size 5 n (fun i => .int .u8 (f i))) := ⟨hb4, hs4, rowIn.ofIs hr4⟩
  clear hr4 hb4 hs4
  go_wp2_with fail
  refine HI4.out.mono ?_
  rintro e w5 ⟨er', at', vG, l', rfl, hans5, hndG, hb5⟩
  obtain ⟨rfl, rfl, rfl⟩ := HAN.out.2.2.same hans5
  obtain ⟨aG, cG, rfl, hlcG, hcmG, -⟩ := hndG.rd
  obtain ⟨b4, hb4⟩ : ∃ b4, b4 = w3.heap.size := ⟨_, rfl⟩
  have HX5 : Hid (rowIn w5 b4 5 n (fun i => .int .u8 (f i))) := by
    rw [hb4]
    exact H4.out.2.2.of_block (hb5.block _ H4.out.2.2.lt)
  have HB4 : Hid (b4 = w3.heap.size) := hb4
  clear hb4
  unfold PVal
  go_upto_region 6 with fail
  have hb4 := HB4.out
  rw [← hb4]
  obtain ⟨w6, hw6⟩ : ∃ w6, w6 = w5.alloc (.cells #[.int .i64 er, .int .i64 at_, .slice aG l.length cG] 40) := ⟨_, rfl⟩
  rw [← hw6]
  have HP6 : Hid (LPs w w6 B3 b4 w5.heap.size er at_ (.slice aS l.length cS) (.slice aG l.length cG) l ∧ rowIn w6 b4 5 n (fun i => .int .u8 (f i)) ∧ NdA w6 (b4 + 1) (.slice aG l.length cG) l) := by
    have z4 := H4.out.2.1
    have z5 := hb5.size
    have z3 := HB3.out.2.1
    have b46 : Below w4.heap.size w4 w6 := by rw [hw6]; exact (hb5.alloc hb5.size _)
    have b36 : Below w3.heap.size w3 w6 := H4.out.1.trans (b46.mono (by omega))
    refine ⟨⟨HK3.out.trans (b36.mono HK3.out.size), ⟨HB3.out.2.2.1, by omega, by omega⟩, (b36.block _ (by omega)).trans HB3.out.1, by rw [hw6]; exact Array.getElem?_push_size, HB3.out.2.2.2.1.below b36, HB3.out.2.2.2.2, fun g e => ?_⟩, ?_, ?_⟩
    · have := hndG.lt g e
      omega
    · rw [hw6]
      exact HX5.out.of_block ((below_alloc _ _).block _ HX5.out.lt)
    · rw [hw6]
      exact (hndG.below (below_alloc _ _)).mono (by omega)
  clear hw6 hb5 hndG hans5 HX5 H4 HI4 HB3 HK3 hb4 HB4
  generalize w5.heap.size = B5 at *
  clear w5 w3 w4
  -- the first comparison
  obtain ⟨⟨c30, c31, c32⟩, c50, c51, c52⟩ := HP6.out.1.cells
  go_wp2_with fail
  refine (eqPR er at_ aG aS l.length cG cS _ _ _ w6 (by obtain ⟨a1, c1, e1, _, _, h1⟩ := HP6.out.2.2.rd; cases e1; exact h1) (by obtain ⟨a1, c1, e1, _, _, h1⟩ := HP6.out.1.s.rd; cases e1; exact h1) (by omega)).mono ?_
  rintro e w7 ⟨rfl, hb7⟩
  have HP7 : Hid (LPs w w7 B3 b4 B5 er at_ (.slice aS l.length cS) (.slice aG l.length cG) l ∧ rowIn w7 b4 5 n (fun i => .int .u8 (f i)) ∧ NdA w7 (b4 + 1) (.slice aG l.length cG) l) := ⟨HP6.out.1.keep hb7, HP6.out.2.1.of_block (hb7.block _ HP6.out.2.1.lt), HP6.out.2.2.below hb7⟩
  clear hb7 HP6 c30 c31 c32 c50 c51 c52
  -- the argument is as before
  go_wp2_with fail
  refine (toByteS_any a n c f w7 (HA.out.below HP7.out.1.k) (by omega)).mono ?_
  rintro e w8 ⟨rfl, hr8, hb8, hs8⟩
  have HP8 : Hid (LPs w w8 B3 b4 B5 er at_ (.slice aS l.length cS) (.slice aG l.length cG) l ∧ rowIn w8 b4 5 n (fun i => .int .u8 (f i)) ∧ NdA w8 (b4 + 1) (.slice aG l.length cG) l ∧ Rd .u8 w8 (some ⟨w7.heap.size, 0, none⟩) n f) := ⟨HP7.out.1.keep hb8, HP7.out.2.1.of_block (hb8.block _ HP7.out.2.1.lt), HP7.out.2.2.below hb8, Rd.ofRow hr8⟩
  clear hr8 hb8 hs8 HP7
  go_wp2_with fail
  refine (eqByteS_yes (some ⟨b4, 0, none⟩) (some ⟨w7.heap.size, 0, none⟩) n n n f w8 (rowIn_rd HP8.out.2.1) HP8.out.2.2.2 (by omega)).mono ?_
  rintro e w9 ⟨rfl, nq, hw9⟩
  have hb9 : Below w8.heap.size w8 w9 := by rw [hw9]; exact below_drewN (Below.refl _ _) nq
  have HP9 : Hid (LPs w w9 B3 b4 B5 er at_ (.slice aS l.length cS) (.slice aG l.length cG) l ∧ rowIn w9 b4 5 n (fun i => .int .u8 (f i)) ∧ NdA w9 (b4 + 1) (.slice aG l.length cG) l) := ⟨HP8.out.1.keep hb9, HP8.out.2.1.of_block (hb9.block _ HP8.out.2.1.lt), HP8.out.2.2.1.below hb9⟩
  clear hw9 hb9 HP8
  go_wp2_with fail
  refine (markByteS_row b4 n n f w9 1 HP9.out.2.1 (by omega) (by omega) (by omega)).mono ?_
  rintro e w10 ⟨rfl, -, ho10⟩
  have hg10 : w9.grownBy w10 (some b4) := ⟨ho10.os, ho10.tape, ho10.output, by rw [ho10.size]; exact Nat.le_refl _, fun b hb hne => ho10.block b (fun x e q => hne (by injection e with e; rw [← e] at q; rw [← q]))⟩
  have HP10 : Hid (LPs w w10 B3 b4 B5 er at_ (.slice aS l.length cS) (.slice aG l.length cG) l ∧ NdA w10 (b4 + 1) (.slice aG l.length cG) l) := ⟨HP9.out.1.grown hg10 (fun g e => .inl (by injection e with e; exact e.symm)), plS_keep HP9.out.2.2 (fun g e => hg10.block g (HP9.out.2.2.lt g e).2 (fun q => by
    injection q with q
    have := (HP9.out.2.2.lt g e).1
    omega))⟩
  clear ho10 hg10 HP9
  have hneg : ¬ (1 + (n : Int) < 0) := by omega
  obtain ⟨⟨c30, c31, c32⟩, c50, c51, c52⟩ := HP10.out.1.cells
  go_wp2_with fail
  refine (eqPR er at_ aG aS l.length cG cS _ _ _ w10 (by obtain ⟨a1, c1, e1, _, _, h1⟩ := HP10.out.2.rd; cases e1; exact h1) (by obtain ⟨a1, c1, e1, _, _, h1⟩ := HP10.out.1.s.rd; cases e1; exact h1) (by omega)).mono ?_
  rintro e w11 ⟨rfl, hb11⟩
  have HP11 : Hid (LPs w w11 B3 b4 B5 er at_ (.slice aS l.length cS) (.slice aG l.length cG) l ∧ NdA w11 (b4 + 1) (.slice aG l.length cG) l) := ⟨HP10.out.1.keep hb11, HP10.out.2.below hb11⟩
  clear hb11 HP10 c30 c31 c32 c50 c51 c52
  obtain ⟨⟨c30, c31, c32⟩, c50, c51, c52⟩ := HP11.out.1.cells
  go_wp2_with fail
  refine (markPR er at_ HP11.out.2 (by omega)).mono ?_
  rintro e w12 ⟨rfl, row, hg12, hr12, a12, c12, I, X, R, e12, hrd12, hmk12⟩
  cases e12
  have HP12 : Hid (LPs w w12 B3 b4 B5 er at_ (.slice aS l.length cS) (.slice aG l.length cG) l ∧ RdN w12 aG l.length I X R ∧ Mkd l.length I X R) := ⟨HP11.out.1.grown hg12 (fun g e => .inr (hr12 g e)), hrd12, hmk12⟩
  clear hg12 hr12 hrd12 hmk12 HP11 c30 c31 c32 c50 c51 c52
  obtain ⟨⟨c30, c31, c32⟩, c50, c51, c52⟩ := HP12.out.1.cells
  go_wp2_with fail
  refine (heldPR er at_ aG l.length cG I X R w12 HP12.out.2.1 HP12.out.2.2 (by omega)).mono ?_
  rintro e w13 ⟨rfl, hb13⟩
  have HP13 : Hid (LPs w w13 B3 b4 B5 er at_ (.slice aS l.length cS) (.slice aG l.length cG) l) := HP12.out.1.keep hb13
  clear hb13 HP12 c30 c31 c32 c50 c51 c52
  have hneg2 : ¬ (1 + 3 * (l.length : Int) < 0) := by omega
  have hbb : (1 + 3 * (l.length : Int) != 1 + 3 * (l.length : Int)) = false := by simp
  go_wp2_with fail
  refine (toByteS_any a n c f w13 (HA.out.below HP13.out.k) (by omega)).mono ?_
  rintro e w14 ⟨rfl, hr14, hb14, hs14⟩
  have HI14 : Hid (Calls Try.prog 22 #[.slice (some ⟨w13.heap.size, 0, none⟩) n n] w14 (PaRet f n m w14)) := implPa _ n n m f w14 (Rd.ofRow hr14) (Nat.le_refl _) (by unfold maxLen at hn; omega) HFB.out (HMX.out _ (HP13.out.keep hb14).k) HAN.out.1 HAN.out.2.1
  have HP14 : Hid (LPs w w14 B3 b4 B5 er at_ (.slice aS l.length cS) (.slice aG l.length cG) l) := HP13.out.keep hb14
  clear hr14 hb14 hs14 HP13
  go_wp2_with fail
  refine HI14.out.mono ?_
  rintro e w15 ⟨er', at', vH, l', rfl, hans15, hndH, hb15⟩
  obtain ⟨rfl, rfl, rfl⟩ := HAN.out.2.2.same hans15
  obtain ⟨aH, cH, rfl, hlcH, hcmH, hrdH⟩ := hndH.rd
  have HP15 : Hid (LPs w w15 B3 b4 B5 er at_ (.slice aS l.length cS) (.slice aG l.length cG) l ∧ RdN w15 aH l.length (nI l) (nX l) (nR l)) := ⟨HP14.out.keep hb15, hrdH⟩
  clear hb15 hndH hrdH hans15 HP14 HI14
  unfold PVal
  go_upto_region 23 with fail
  obtain ⟨w16, hw16⟩ : ∃ w16, w16 = w15.alloc (.cells #[.int .i64 er, .int .i64 at_, .slice aH l.length cH] 40) := ⟨_, rfl⟩
  rw [← hw16]
  have hb16 : Below w15.heap.size w15 w16 := by rw [hw16]; exact below_alloc _ _
  have HP16 : Hid (LPs w w16 B3 b4 B5 er at_ (.slice aS l.length cS) (.slice aG l.length cG) l ∧ RdN w16 aH l.length (nI l) (nX l) (nR l)) := ⟨HP15.out.1.keep hb16, HP15.out.2.below hb16⟩
  have d0 : w16.cell? ⟨w15.heap.size, 0, none⟩ = some (.int .i64 er) := by rw [hw16]; simp
  have d1 : w16.cell? ⟨w15.heap.size, 1, none⟩ = some (.int .i64 at_) := by rw [hw16]; simp
  have d2 : w16.cell? ⟨w15.heap.size, 2, none⟩ = some (.slice aH l.length cH) := by rw [hw16]; simp
  clear hw16 hb16 HP15
  obtain ⟨⟨c30, c31, c32⟩, c50, c51, c52⟩ := HP16.out.1.cells
  go_wp2_with fail
  refine (eqPR er at_ aH aS l.length cH cS _ _ _ w16 HP16.out.2 (by obtain ⟨a1, c1, e1, _, _, h1⟩ := HP16.out.1.s.rd; cases e1; exact h1) (by omega)).mono ?_
  rintro e w17 ⟨rfl, hb17⟩
  have HE : Hid (Below w.heap.size w w17) := (HP16.out.1.keep hb17).k
  clear hb17 HP16 c30 c31 c32 c50 c51 c52
  go_wp2
  go_ret
  exact ⟨rfl, HE.out⟩
end Go.Proofs.Ytocmbnocdjnfpaa

namespace Go.Proofs.Ytocmbnocdjnfpaa
open Go.RowKit Go.Deep
set_option linter.unusedVariables false
set_option maxRecDepth 100000

/-- '/openByteR'. -/
theorem pqLaw (v : Value) (w : World) (hv : IsBytesR w v) (hmx : ∃ m, w.cell? ⟨0, 0, none⟩ = some (.int .i64 m)) : Calls Try.prog 6 #[v] w fun e w' => e = .returned (.bool true) ∧ Below w.heap.size w w' := by
  obtain ⟨a, n, c, f, rfl, h1, h2, h3⟩ := hv
  exact pqLaw0 a n c f w h1 h2 h3 hmx
end Go.Proofs.Ytocmbnocdjnfpaa
