import Derived.Test.YtocmbnocdjnfpaaNl7
import Derived.Test.YtocmbnocdjnfpaaNl2
import Derived.Test.YtocmbnocdjnfpaaQbD
import Derived.Lib.SmallJoins
import Derived.BigQuiet
namespace Go.Proofs.Ytocmbnocdjnfpaa
open Go.RowKit Go.Deep
set_option linter.unusedVariables false
set_option linter.unusedSimpArgs false
set_option maxRecDepth 100000

theorem run_to (b off n c t : Nat) (h1 : t ≤ c) (hc : c ≤ 9223372036854775807) (w : World) : (Instr.sliceAt 33 (.slice (some ⟨b, off, none⟩) n c) none (some (.int .i64 (t : Int))) none).run Try.prog w = .ok (.slice (some ⟨b, off, none⟩) t c) w := by
  simp [Instr.sliceAt, Instr.slice, go_sem]
  intro h
  omega
theorem nk_sym {x : Int} (hx : ¬ (97 ≤ x ∧ x ≤ 122)) : (nkF [x] = 0 ∧ ¬ (([x] : List Int) = [46] ∨ ([x] : List Int) = [40] ∨ ([x] : List Int) = [41] ∨ ([x] : List Int) = [44])) ↔ cdS x = 0 := by
  have e1 : ∀ k : Int, ([x] : List Int) = [k] ↔ x = k := fun k => by simp
  unfold nkF cdS
  have n1 : ¬ ([x] : List Int) = [97, 108, 108] := by simp
  have n2 : ¬ ([x] : List Int) = [118] := by simp; omega
  have n3 : ¬ ([x] : List Int) = [111, 117, 116] := by simp
  have n4 : ¬ ([x] : List Int) = [105, 110] := by simp
  have n5 : ¬ ([x] : List Int) = [104, 97, 115] := by simp
  have n9 : ¬ ([x] : List Int) = [103, 114, 97, 112, 104] := by simp
  rw [if_neg n1, if_neg n2, if_neg n3, if_neg n4, if_neg n5, if_neg n9]
  by_cases h1 : x = 38
  · subst h1; decide
  by_cases h2 : x = 124
  · subst h2; decide
  by_cases h3 : x = 45
  · subst h3; decide
  rw [if_neg (by simp; exact h1), if_neg (by simp; exact h2), if_neg (by simp; exact h3), if_neg h1, if_neg h2, if_neg h3]
  constructor
  · rintro ⟨_, h⟩
    rw [if_neg (fun e => h (.inl (by rw [e]))), if_neg (fun e => h (.inr (.inl (by rw [e])))), if_neg (fun e => h (.inr (.inr (.inl (by rw [e]))))), if_neg (fun e => h (.inr (.inr (.inr (by rw [e])))))]
  · intro h
    refine ⟨rfl, ?_⟩
    rintro (e | e | e | e) <;> (have e' := (e1 _).1 e; subst e'; exact absurd h (by decide))
theorem nk_word {q : List Int} (x : Int) (t : List Int) (e : q = x :: t) (hx : 97 ≤ x ∧ x ≤ 122) : nkF q = cdW q ∧ ¬ (q = [46] ∨ q = [40] ∨ q = [41] ∨ q = [44]) := by
  have hd : ∀ k : Int, k < 97 ∨ 122 < k → ¬ q = [k] := fun k hk e2 => by
    rw [e] at e2
    injection e2 with e2 _
    omega
  refine ⟨?_, ?_⟩
  · unfold nkF cdW
    by_cases h1 : q = [97, 108, 108]
    · rw [if_pos h1, if_pos h1]
    by_cases h2 : q = [118]
    · rw [if_neg h1, if_pos h2, if_neg h1, if_pos h2]
    by_cases h3 : q = [111, 117, 116]
    · rw [if_neg h1, if_neg h2, if_pos h3, if_neg h1, if_neg h2, if_pos h3]
    by_cases h4 : q = [105, 110]
    · rw [if_neg h1, if_neg h2, if_neg h3, if_pos h4, if_neg h1, if_neg h2, if_neg h3, if_pos h4]
    by_cases h5 : q = [104, 97, 115]
    · rw [if_neg h1, if_neg h2, if_neg h3, if_neg h4, if_pos h5, if_neg h1, if_neg h2, if_neg h3, if_neg h4, if_pos h5]
    rw [if_neg h1, if_neg h2, if_neg h3, if_neg h4, if_neg h5, if_neg (hd 38 (by omega)), if_neg (hd 124 (by omega)), if_neg (hd 45 (by omega)), if_neg h1, if_neg h2, if_neg h3, if_neg h4, if_neg h5]
  · rintro (h | h | h | h)
    · exact hd 46 (by omega) h
    · exact hd 40 (by omega) h
    · exact hd 41 (by omega) h
    · exact hd 44 (by omega) h
theorem cdS_kd {x : Int} (h : cdS x ≠ 0) : kdW (cdS x) = strT [x] := by
  rcases cdS_ne h with rfl | rfl | rfl | rfl | rfl | rfl | rfl <;> rfl
theorem cdW_kS {q : List Int} (h : cdW q ≠ 0) : kdW (cdW q) = strT q := by
  obtain ⟨_, h2, h3, h4⟩ := cdW_kd h
  unfold kdW
  rw [if_neg h, if_neg h3, if_neg h4, h2]
theorem seg_cons {f : Nat → Int} {p e : Nat} (h : p < e) : seg f p e = f p :: seg f (p + 1) e := by
  unfold seg
  rw [show e - p = (e - (p + 1)) + 1 by omega, List.range_succ_eq_map]
  simp
  intro a _
  rw [show p + (a + 1) = p + 1 + a by omega]
theorem endF_stay {p : Int → Bool} {f : Nat → Int} {n j : Nat} (h : endF p f n j = j) : ¬ (j < n ∧ p (f j) = true) := by
  have := endF_end (p := p) (f := f) (n := n) (n - j) j (Nat.le_refl _)
  rw [h] at this
  exact this

theorem readToken_end (a : Option Addr) (c n p : Nat) (f : Nat → Int) (w : World) (hp : n ≤ p) : Calls Try.prog 96 #[.slice a 0 c] w (TRet f n p w) := by
  have HE : Hid (TRet f n p w (.returned (.tuple #[.string { data := #[101, 110, 100, 32, 111, 102, 32, 116, 104, 101, 32, 116, 101, 120, 116] }, .string { data := #[] }, .int .i64 0])) w) := by
    refine ⟨?_, Below.refl _ _⟩
    rw [tkA_end hp]
    unfold tokV
    rw [Nat.sub_self]
    rfl
  go_enter Try.func96, Try.ntmps96
  go_wp2
  refine bodyPost_ret (v := .tuple #[.string { data := #[101, 110, 100, 32, 111, 102, 32, 116, 104, 101, 32, 116, 101, 120, 116] }, .string { data := #[] }, .int .i64 0]) (by simp [results, Try.results96, go_sem]) rfl HE.out

set_option maxHeartbeats 4000000 in
theorem readToken_any (b off c n p : Nat) (f : Nat → Int) (w : World) (hp : p < n) (hn : n ≤ 2000) (hnc : n - p ≤ c) (hcm : c ≤ 9223372036854775807) (hc : ∀ k, p + k < n → w.cell? ⟨b, off + k, none⟩ = some (.int .u8 (f (p + k)))) (hf : ∀ i, i < n → 0 ≤ f i ∧ f i < 256) (hm : ∃ m, w.cell? ⟨0, 0, none⟩ = some (.int .i64 m)) :
    Calls Try.prog 96 #[.slice (some ⟨b, off, none⟩) (n - p) c] w (TRet f n p w) := by
  have HS : Hid (f p = 34 → Calls Try.prog 131 #[.slice (some ⟨b, off, none⟩) (n - p) c] w (TRet f n p w)) := fun h => readString_any b off c n p f w hp hn hnc hcm hc hf h
  have HC : Hid (∀ k, p + k < n → w.cell? ⟨b, off + k, none⟩ = some (.int .u8 (f (p + k)))) := hc
  have HFB : Hid (∀ i, i < n → 0 ≤ f i ∧ f i < 256) := hf
  have HM : Hid (∃ m, w.cell? ⟨0, 0, none⟩ = some (.int .i64 m)) := hm
  have c0 := hc 0 (by omega)
  rw [Nat.add_zero, Nat.add_zero] at c0
  obtain ⟨ln, hln⟩ : ∃ ln, ln = n - p := ⟨_, rfl⟩
  rw [← hln] at hnc HS ⊢
  have HLN : Hid (ln = n - p) := hln
  have l0 : (0 : Int) < (ln : Int) := by omega
  have l0' : 0 < ln := by omega
  have l1 : ¬ (ln : Int) = 0 := by omega
  have l1' : ¬ ln = 0 := by omega
  have l2 : ((ln : Int) == 0) = false := by simp; omega
  have hl2 : ln ≤ 2000 := by omega
  clear hc hf hm hln
  obtain ⟨x, hx⟩ : ∃ x, x = f p := ⟨_, rfl⟩
  have HX : Hid (x = f p) := hx
  have hx0 : 0 ≤ x ∧ x < 256 := by rw [hx]; exact HFB.out p hp
  obtain ⟨hx0, hx1⟩ := hx0
  rw [← hx] at c0
  clear hx
  by_cases h34 : x = 34
  · subst h34
    have HS2 : Hid (Calls Try.prog 131 #[.slice (some ⟨b, off, none⟩) ln c] w (TRet f n p w)) := HS.out HX.out.symm
    clear HS
    go_enter Try.func96, Try.ntmps96
    go_wp2_with fail
    refine HS2.out.mono ?_
    rintro e w1 ⟨rfl, hb⟩
    have HB : Hid (Below w.heap.size w w1) := hb
    clear hb HS2
    unfold tokV
    go_wp2
    refine bodyPost_ret (v := tokV (tkA f n p) p) (by simp [tokV, results, Try.results96, go_sem]) rfl ⟨rfl, HB.out⟩
  have n34 : (x == 34) = false := by simp [h34]
  clear HS
  go_enter Try.func96, Try.ntmps96
  go_wp2
  go_loopw [5] (fun v wr => ∃ t : Nat, v = .int .i64 (t : Int) ∧ t ≤ ln ∧ endF isLt f n p = endF isLt f n (p + t) ∧ wr = w) (fun v _ => ln - (intOf v).toNat)
  case atStart => exact ⟨0, rfl, Nat.zero_le _, rfl, rfl⟩
  case round =>
    obtain ⟨t, rfl, htl, hte, hw⟩ := hrel
    subst hw
    have it0 : ¬ (t : Int) < 0 := by omega
    have it1 : (0 : Int) ≤ (t : Int) := by omega
    have REST : endF isLt f n (p + t) = p + t → Hid (∃ t1 q, t1 = max t 1 ∧ t1 ≤ ln ∧ q = seg f p (p + t1) ∧ Byt q ∧ ((∃ x, q = [x] ∧ 0 ≤ x ∧ x < 256) ∨ (∃ x t, q = x :: t ∧ 97 ≤ x ∧ x ≤ 122)) ∧ q.length = t1 ∧
        (tkA f n p = ⟨0, [], p⟩ ∧ nkF q = 0 ∧ ¬ (q = [46] ∨ q = [40] ∨ q = [41] ∨ q = [44]) ∨ tokV (tkA f n p) p = .tuple #[.string (strT q), .string { data := #[] }, .int .i64 (t1 : Int)] ∧ ¬ (nkF q = 0 ∧ ¬ (q = [46] ∨ q = [40] ∨ q = [41] ∨ q = [44])))) := fun he => by
      have hln := HLN.out
      have hj : endF isLt f n p = p + t := by rw [hte, he]
      by_cases ht : t = 0
      · subst ht
        rw [Nat.add_zero] at hj
        have hns := endF_stay hj
        have hnl : ¬ (97 ≤ f p ∧ f p ≤ 122) := fun e => hns ⟨hp, (isLt_iff _).2 e⟩
        have es : seg f p (p + 1) = [f p] := by unfold seg; rw [show p + 1 - p = 1 by omega]; simp
        refine ⟨1, [f p], rfl, by omega, es.symm, ?_, .inl ⟨f p, rfl, HFB.out p hp⟩, rfl, ?_⟩
        · rw [← es]; exact seg_byt HFB.out (by omega)
        · by_cases h0 : cdS (f p) = 0
          · exact .inl ⟨tkA_sym0 hp (by rw [← HX.out]; exact h34) hnl h0, (nk_sym hnl).2 h0⟩
          · refine .inr ⟨?_, fun e => h0 ((nk_sym hnl).1 e)⟩
            rw [tkA_sym hp (by rw [← HX.out]; exact h34) hnl h0]
            unfold tokV
            show Value.tuple #[.string (kdW (cdS (f p))), .string (strT []), .int .i64 ((p + 1 - p : Nat) : Int)] = _
            rw [cdS_kd h0, show p + 1 - p = 1 by omega]
            rfl
      · have hlp : 97 ≤ f p ∧ f p ≤ 122 := by
          have := endF_all (p := isLt) (f := f) (n := n) (n - p) p (Nat.le_refl _) p (Nat.le_refl _) (by omega)
          exact (isLt_iff _).1 this
        have ec := seg_cons (f := f) (p := p) (e := p + t) (by omega)
        obtain ⟨k1, k2⟩ := nk_word _ _ ec hlp
        refine ⟨t, seg f p (p + t), by omega, htl, rfl, seg_byt HFB.out (by omega), .inr ⟨_, _, ec, hlp⟩, by rw [seg_length]; omega, ?_⟩
        by_cases h0 : cdW (seg f p (p + t)) = 0
        · exact .inl ⟨tkA_word0 hp hlp (by rw [hj]; exact h0), by rw [k1]; exact h0, k2⟩
        · refine .inr ⟨?_, fun e => h0 (by rw [← k1]; exact e.1)⟩
          rw [tkA_word hp hlp (by rw [hj]; exact h0), hj]
          unfold tokV
          show Value.tuple #[.string (kdW (cdW (seg f p (p + t)))), .string (strT []), .int .i64 ((p + t - p : Nat) : Int)] = _
          rw [cdW_kS h0, show p + t - p = t by omega]
          rfl
    have GO : Hid (∀ he : endF isLt f n (p + t) = p + t, ∃ t1 q, t1 = max t 1 ∧ t1 ≤ ln ∧ q.length = t1 ∧ (∀ W, W = wr → (convert 33 9 (.slice (some ⟨b, off, none⟩) t1 c)).run Try.prog W = .ok (.string (strT q)) W) ∧ (∀ W, Calls Try.prog 99 #[.string (strT q)] W fun e w' => e = .returned (.int .i64 (nkF q : Int)) ∧ w' = W) ∧ (Calls Try.prog 132 #[.string { data := #[46, 40, 41, 44] }, .string (strT q)] wr fun e w' => e = .returned (.bool (decide (q = [46] ∨ q = [40] ∨ q = [41] ∨ q = [44]))) ∧ w' = wr) ∧
        (tkA f n p = ⟨0, [], p⟩ ∧ nkF q = 0 ∧ ¬ (q = [46] ∨ q = [40] ∨ q = [41] ∨ q = [44]) ∨ tokV (tkA f n p) p = .tuple #[.string (strT q), .string { data := #[] }, .int .i64 (t1 : Int)] ∧ ¬ (nkF q = 0 ∧ ¬ (q = [46] ∨ q = [40] ∨ q = [41] ∨ q = [44])))) := fun he => by
      obtain ⟨t1, q, h1, h2, h3, h4, h5, h6, h7⟩ := (REST he).out
      have hln := HLN.out
      refine ⟨t1, q, h1, h2, h6, fun W hW => ?_, fun W => nodeKind_any q h4 W, con_any q h5 wr HM.out, h7⟩
      subst hW
      refine conv_T t1 c h6.symm (.inr ⟨b, off, rfl, fun k hk => ?_⟩)
      rw [h3, seg_lf f p (p + t1) k (by omega)]
      exact HC.out k (by omega)
    clear REST
    by_cases hlt : t < ln
    · have it : (t : Int) < (ln : Int) := by omega
      have ct := HC.out t (by have := HLN.out; omega)
      obtain ⟨y, hy⟩ : ∃ y, y = f (p + t) := ⟨_, rfl⟩
      have HY : Hid (y = f (p + t)) := hy
      rw [← hy] at ct
      clear hy
      by_cases y97 : 97 ≤ y
      · by_cases y122 : y ≤ 122
        · obtain ⟨t1, ht1⟩ : ∃ t1, t1 = t + 1 := ⟨_, rfl⟩
          have w2 : IntKind.i64.wrap ((t : Int) + 1) = (t1 : Int) := by rw [IntKind.wrap_i64]; omega
          have HJ1 : Hid (t1 = t + 1) := ht1
          have HR2 : Hid (endF isLt f n p = endF isLt f n (p + t1)) := by
            show _ = _
            rw [hte, ht1, ← Nat.add_assoc]
            exact endF_go (by have := HLN.out; omega) ((isLt_iff _).2 (by rw [← HY.out]; exact ⟨y97, y122⟩))
          clear ht1 hte GO
          go_wp2
          go_roundw
          case rel => exact ⟨t1, rfl, by have := HJ1.out; omega, HR2.out, trivial⟩
          case measure => have := HJ1.out; simp [intOf]; omega
        have d122 : decide (y ≤ 122) = false := decide_eq_false y122
        obtain ⟨t1, q, ht1, ht1l, hql, cv0, nk, con, h7⟩ := GO.out (endF_stop (fun e => y122 (by rw [HY.out]; exact ((isLt_iff _).1 e.2).2)))
        have cv := cv0 _ rfl
        have sl := run_to b off ln c t1 (by omega) hcm
        have hmx : max (t : Int) 1 = (t1 : Int) := by omega
        have HNK : Hid (∀ W, Calls Try.prog 99 #[.string (strT q)] W fun e w' => e = .returned (.int .i64 (nkF q : Int)) ∧ w' = W) := nk
        have HCON : Hid (Calls Try.prog 132 #[.string { data := #[46, 40, 41, 44] }, .string (strT q)] wr fun e w' => e = .returned (.bool (decide (q = [46] ∨ q = [40] ∨ q = [41] ∨ q = [44]))) ∧ w' = wr) := con
        have H7 : Hid (tkA f n p = ⟨0, [], p⟩ ∧ nkF q = 0 ∧ ¬ (q = [46] ∨ q = [40] ∨ q = [41] ∨ q = [44]) ∨ tokV (tkA f n p) p = .tuple #[.string (strT q), .string { data := #[] }, .int .i64 (t1 : Int)] ∧ ¬ (nkF q = 0 ∧ ¬ (q = [46] ∨ q = [40] ∨ q = [41] ∨ q = [44]))) := h7
        have hXs : (strT q).size = t1 := by rw [strT_size]; exact hql
        clear cv0 nk con h7 GO hql ht1
        generalize strT q = X at *
        go_wp2_with fail
        refine (HNK.out _).mono ?_
        rintro e w8 ⟨rfl, hw8⟩
        rw [hw8]
        clear hw8 w8 HNK
        by_cases hk0 : nkF q = 0
        · have k1 : ((nkF q : Nat) : Int) = 0 := by omega
          have HK0 : Hid (nkF q = 0) := hk0
          rw [k1]
          clear hk0 k1
          go_wp2_with fail
          refine HCON.out.mono ?_
          rintro e w8 ⟨rfl, hw8⟩
          rw [hw8]
          clear hw8 w8 HCON
          by_cases hcn : q = [46] ∨ q = [40] ∨ q = [41] ∨ q = [44]
          · have HV : Hid (tokV (tkA f n p) p = .tuple #[.string X, .string { data := #[] }, .int .i64 (t1 : Int)]) := by
              rcases H7.out with ⟨_, _, h⟩ | ⟨h, _⟩
              · exact absurd hcn h
              · exact h
            rw [decide_eq_true hcn]
            clear hcn
            go_wp2
            refine bodyPost_ret (v := .tuple #[.string X, .string { data := #[] }, .int .i64 (t1 : Int)]) (by simp [results, Try.results96, go_sem, hXs]) rfl ⟨by rw [HV.out], Below.refl _ _⟩
          · have HV : Hid (tkA f n p = ⟨0, [], p⟩) := by
              rcases H7.out with ⟨h, _⟩ | ⟨_, h⟩
              · exact h
              · exact absurd ⟨HK0.out, hcn⟩ h
            rw [decide_eq_false hcn]
            clear hcn
            go_wp2
            refine bodyPost_ret (v := .tuple #[.string { data := #[110, 111, 110, 101] }, .string { data := #[] }, .int .i64 0]) (by simp [results, Try.results96, go_sem]) rfl (TRet.none HV.out (Below.refl _ _))
        · have HV : Hid (tokV (tkA f n p) p = .tuple #[.string X, .string { data := #[] }, .int .i64 (t1 : Int)]) := by
            rcases H7.out with ⟨_, h, _⟩ | ⟨h, _⟩
            · exact absurd h hk0
            · exact h
          obtain ⟨kk, hkk⟩ : ∃ kk, kk = nkF q := ⟨_, rfl⟩
          rw [← hkk] at hk0 ⊢
          have k0 : ((kk : Int) == 0) = false := by simp; exact hk0
          have k0' : ¬ (kk : Int) = 0 := by omega
          clear hkk H7 HCON
          go_wp2
          refine bodyPost_ret (v := .tuple #[.string X, .string { data := #[] }, .int .i64 (t1 : Int)]) (by simp [results, Try.results96, go_sem, hXs]) rfl ⟨by rw [HV.out], Below.refl _ _⟩
      have d97 : decide (97 ≤ y) = false := decide_eq_false y97
      obtain ⟨t1, q, ht1, ht1l, hql, cv0, nk, con, h7⟩ := GO.out (endF_stop (fun e => y97 (by rw [HY.out]; exact ((isLt_iff _).1 e.2).1)))
      have cv := cv0 _ rfl
      have sl := run_to b off ln c t1 (by omega) hcm
      have hmx : max (t : Int) 1 = (t1 : Int) := by omega
      have HNK : Hid (∀ W, Calls Try.prog 99 #[.string (strT q)] W fun e w' => e = .returned (.int .i64 (nkF q : Int)) ∧ w' = W) := nk
      have HCON : Hid (Calls Try.prog 132 #[.string { data := #[46, 40, 41, 44] }, .string (strT q)] wr fun e w' => e = .returned (.bool (decide (q = [46] ∨ q = [40] ∨ q = [41] ∨ q = [44]))) ∧ w' = wr) := con
      have H7 : Hid (tkA f n p = ⟨0, [], p⟩ ∧ nkF q = 0 ∧ ¬ (q = [46] ∨ q = [40] ∨ q = [41] ∨ q = [44]) ∨ tokV (tkA f n p) p = .tuple #[.string (strT q), .string { data := #[] }, .int .i64 (t1 : Int)] ∧ ¬ (nkF q = 0 ∧ ¬ (q = [46] ∨ q = [40] ∨ q = [41] ∨ q = [44]))) := h7
      have hXs : (strT q).size = t1 := by rw [strT_size]; exact hql
      clear cv0 nk con h7 GO hql ht1
      generalize strT q = X at *
      go_wp2_with fail
      refine (HNK.out _).mono ?_
      rintro e w8 ⟨rfl, hw8⟩
      rw [hw8]
      clear hw8 w8 HNK
      by_cases hk0 : nkF q = 0
      · have k1 : ((nkF q : Nat) : Int) = 0 := by omega
        have HK0 : Hid (nkF q = 0) := hk0
        rw [k1]
        clear hk0 k1
        go_wp2_with fail
        refine HCON.out.mono ?_
        rintro e w8 ⟨rfl, hw8⟩
        rw [hw8]
        clear hw8 w8 HCON
        by_cases hcn : q = [46] ∨ q = [40] ∨ q = [41] ∨ q = [44]
        · have HV : Hid (tokV (tkA f n p) p = .tuple #[.string X, .string { data := #[] }, .int .i64 (t1 : Int)]) := by
            rcases H7.out with ⟨_, _, h⟩ | ⟨h, _⟩
            · exact absurd hcn h
            · exact h
          rw [decide_eq_true hcn]
          clear hcn
          go_wp2
          refine bodyPost_ret (v := .tuple #[.string X, .string { data := #[] }, .int .i64 (t1 : Int)]) (by simp [results, Try.results96, go_sem, hXs]) rfl ⟨by rw [HV.out], Below.refl _ _⟩
        · have HV : Hid (tkA f n p = ⟨0, [], p⟩) := by
            rcases H7.out with ⟨h, _⟩ | ⟨_, h⟩
            · exact h
            · exact absurd ⟨HK0.out, hcn⟩ h
          rw [decide_eq_false hcn]
          clear hcn
          go_wp2
          refine bodyPost_ret (v := .tuple #[.string { data := #[110, 111, 110, 101] }, .string { data := #[] }, .int .i64 0]) (by simp [results, Try.results96, go_sem]) rfl (TRet.none HV.out (Below.refl _ _))
      · have HV : Hid (tokV (tkA f n p) p = .tuple #[.string X, .string { data := #[] }, .int .i64 (t1 : Int)]) := by
          rcases H7.out with ⟨_, h, _⟩ | ⟨h, _⟩
          · exact absurd h hk0
          · exact h
        obtain ⟨kk, hkk⟩ : ∃ kk, kk = nkF q := ⟨_, rfl⟩
        rw [← hkk] at hk0 ⊢
        have k0 : ((kk : Int) == 0) = false := by simp; exact hk0
        have k0' : ¬ (kk : Int) = 0 := by omega
        clear hkk H7 HCON
        go_wp2
        refine bodyPost_ret (v := .tuple #[.string X, .string { data := #[] }, .int .i64 (t1 : Int)]) (by simp [results, Try.results96, go_sem, hXs]) rfl ⟨by rw [HV.out], Below.refl _ _⟩
    have it : ¬ (t : Int) < (ln : Int) := by omega
    obtain ⟨t1, q, ht1, ht1l, hql, cv0, nk, con, h7⟩ := GO.out (endF_stop (fun e => by have := HLN.out; omega))
    have cv := cv0 _ rfl
    have sl := run_to b off ln c t1 (by omega) hcm
    have hmx : max (t : Int) 1 = (t1 : Int) := by omega
    have HNK : Hid (∀ W, Calls Try.prog 99 #[.string (strT q)] W fun e w' => e = .returned (.int .i64 (nkF q : Int)) ∧ w' = W) := nk
    have HCON : Hid (Calls Try.prog 132 #[.string { data := #[46, 40, 41, 44] }, .string (strT q)] wr fun e w' => e = .returned (.bool (decide (q = [46] ∨ q = [40] ∨ q = [41] ∨ q = [44]))) ∧ w' = wr) := con
    have H7 : Hid (tkA f n p = ⟨0, [], p⟩ ∧ nkF q = 0 ∧ ¬ (q = [46] ∨ q = [40] ∨ q = [41] ∨ q = [44]) ∨ tokV (tkA f n p) p = .tuple #[.string (strT q), .string { data := #[] }, .int .i64 (t1 : Int)] ∧ ¬ (nkF q = 0 ∧ ¬ (q = [46] ∨ q = [40] ∨ q = [41] ∨ q = [44]))) := h7
    have hXs : (strT q).size = t1 := by rw [strT_size]; exact hql
    clear cv0 nk con h7 GO hql ht1
    generalize strT q = X at *
    go_wp2_with fail
    refine (HNK.out _).mono ?_
    rintro e w8 ⟨rfl, hw8⟩
    rw [hw8]
    clear hw8 w8 HNK
    by_cases hk0 : nkF q = 0
    · have k1 : ((nkF q : Nat) : Int) = 0 := by omega
      have HK0 : Hid (nkF q = 0) := hk0
      rw [k1]
      clear hk0 k1
      go_wp2_with fail
      refine HCON.out.mono ?_
      rintro e w8 ⟨rfl, hw8⟩
      rw [hw8]
      clear hw8 w8 HCON
      by_cases hcn : q = [46] ∨ q = [40] ∨ q = [41] ∨ q = [44]
      · have HV : Hid (tokV (tkA f n p) p = .tuple #[.string X, .string { data := #[] }, .int .i64 (t1 : Int)]) := by
          rcases H7.out with ⟨_, _, h⟩ | ⟨h, _⟩
          · exact absurd hcn h
          · exact h
        rw [decide_eq_true hcn]
        clear hcn
        go_wp2
        refine bodyPost_ret (v := .tuple #[.string X, .string { data := #[] }, .int .i64 (t1 : Int)]) (by simp [results, Try.results96, go_sem, hXs]) rfl ⟨by rw [HV.out], Below.refl _ _⟩
      · have HV : Hid (tkA f n p = ⟨0, [], p⟩) := by
          rcases H7.out with ⟨h, _⟩ | ⟨_, h⟩
          · exact h
          · exact absurd ⟨HK0.out, hcn⟩ h
        rw [decide_eq_false hcn]
        clear hcn
        go_wp2
        refine bodyPost_ret (v := .tuple #[.string { data := #[110, 111, 110, 101] }, .string { data := #[] }, .int .i64 0]) (by simp [results, Try.results96, go_sem]) rfl (TRet.none HV.out (Below.refl _ _))
    · have HV : Hid (tokV (tkA f n p) p = .tuple #[.string X, .string { data := #[] }, .int .i64 (t1 : Int)]) := by
        rcases H7.out with ⟨_, h, _⟩ | ⟨h, _⟩
        · exact absurd h hk0
        · exact h
      obtain ⟨kk, hkk⟩ : ∃ kk, kk = nkF q := ⟨_, rfl⟩
      rw [← hkk] at hk0 ⊢
      have k0 : ((kk : Int) == 0) = false := by simp; exact hk0
      have k0' : ¬ (kk : Int) = 0 := by omega
      clear hkk H7 HCON
      go_wp2
      refine bodyPost_ret (v := .tuple #[.string X, .string { data := #[] }, .int .i64 (t1 : Int)]) (by simp [results, Try.results96, go_sem, hXs]) rfl ⟨by rw [HV.out], Below.refl _ _⟩
end Go.Proofs.Ytocmbnocdjnfpaa

namespace Go.Proofs.Ytocmbnocdjnfpaa
open Go.RowKit Go.Deep
set_option linter.unusedVariables false
set_option linter.unusedSimpArgs false
set_option maxRecDepth 100000

/-- The reader's box. -/
def RB (w : World) (R : Nat) (L : List Value) : Prop := w.heap[R]? = some (.cells L.toArray 86 (0, 0))
theorem RB.lt {w : World} {R : Nat} {L : List Value} (h : RB w R L) : R < w.heap.size := (Array.getElem?_eq_some_iff.1 h).1
theorem RB.cell {w : World} {R : Nat} {L : List Value} (h : RB w R L) (o : Nat) : w.cell? ⟨R, o, none⟩ = L[o]? := by
  unfold World.cell?
  rw [h]
  show L.toArray[o]? = _
  simp
theorem RB.frozen {w : World} {R : Nat} {L : List Value} (h : RB w R L) (o : Nat) : w.frozen? ⟨R, o, none⟩ = false := by
  have h' : w.heap[R]? = some (.cells L.toArray 86 (0, 0)) := h
  simp [World.frozen?, h']
theorem RB.set {w : World} {R : Nat} {L : List Value} (h : RB w R L) (i : Nat) (u : Value) : RB (w.setCell ⟨R, i, none⟩ u) R (L.set i u) := by
  unfold RB at h ⊢
  rw [Go.Joins.block_setCell h u]
  simp
theorem RB.below {w w' : World} {R : Nat} {L : List Value} (h : RB w R L) (hb : Below w.heap.size w w') : RB w' R L := by
  unfold RB at h ⊢
  rw [hb.block R (RB.lt h)]
  exact h
theorem RB.grown {w w' : World} {R : Nat} {L : List Value} {r : Option Nat} (h : RB w R L) (hg : w.grownBy w' r) (hr : some R ≠ r) : RB w' R L := by
  unfold RB at h ⊢
  rw [hg.block R (RB.lt h) hr]
  exact h
theorem RB.new (w : World) (L : List Value) : RB (w.alloc (.cells L.toArray 86)) w.heap.size L := Array.getElem?_push_size

/-- What stands in the reader's box. -/
def rdL (tv : Value) (bh ta mk er at_ : Int) (kd ct : ByteArray) (vn : Value) : List Value := [tv, .int .i64 bh, .string kd, .int .i64 ta, .string ct, vn, .int .i64 mk, .int .i64 er, .int .i64 at_]
structure RdS (w0 : World) (tv : Value) (w : World) (bh ta mk er at_ : Int) (kd ct : ByteArray) (vn : Value) (N : List Nd) : Prop where
  rb : RB w w0.heap.size (rdL tv bh ta mk er at_ kd ct vn)
  nd : NdA w (w0.heap.size + 1) vn N
  bel : Below w0.heap.size w0 w
theorem RdS.below {w0 w w' : World} {tv vn : Value} {bh ta mk er at_ : Int} {kd ct : ByteArray} {N : List Nd} (h : RdS w0 tv w bh ta mk er at_ kd ct vn N) (hb : Below w.heap.size w w') : RdS w0 tv w' bh ta mk er at_ kd ct vn N :=
  ⟨h.rb.below hb, h.nd.below hb, h.bel.trans (hb.mono (by have := h.rb.lt; omega))⟩
theorem NdA.setLo {w : World} {B : Nat} {v : Value} {l : List Nd} (h : NdA w B v l) {a : Addr} (ha : a.block < B) (u : Value) : NdA (w.setCell a u) B v l :=
  plS_keep h (fun g e => Below.heap_setCell w a u g (by have := (h.lt g e).1; omega))
section
variable {w0 w : World} {tv vn : Value} {bh ta mk er at_ : Int} {kd ct : ByteArray} {N : List Nd}
theorem RdS.put (h : RdS w0 tv w bh ta mk er at_ kd ct vn N) (i : Nat) (u : Value) {bh' ta' mk' er' at' : Int} {kd' ct' : ByteArray} (e : (rdL tv bh ta mk er at_ kd ct vn).set i u = rdL tv bh' ta' mk' er' at' kd' ct' vn) : RdS w0 tv (w.setCell ⟨w0.heap.size, i, none⟩ u) bh' ta' mk' er' at' kd' ct' vn N :=
  ⟨by have := h.rb.set i u; rw [e] at this; exact this, h.nd.setLo (by show w0.heap.size < _; omega) u, h.bel.setCell (Nat.le_refl _) u⟩
theorem RdS.cells (h : RdS w0 tv w bh ta mk er at_ kd ct vn N) : w.cell? ⟨w0.heap.size, 0, none⟩ = some tv ∧ w.cell? ⟨w0.heap.size, 1, none⟩ = some (.int .i64 bh) ∧ w.cell? ⟨w0.heap.size, 2, none⟩ = some (.string kd) ∧ w.cell? ⟨w0.heap.size, 3, none⟩ = some (.int .i64 ta) ∧ w.cell? ⟨w0.heap.size, 4, none⟩ = some (.string ct) ∧ w.cell? ⟨w0.heap.size, 5, none⟩ = some vn ∧ w.cell? ⟨w0.heap.size, 6, none⟩ = some (.int .i64 mk) ∧ w.cell? ⟨w0.heap.size, 7, none⟩ = some (.int .i64 er) ∧ w.cell? ⟨w0.heap.size, 8, none⟩ = some (.int .i64 at_) :=
  ⟨h.rb.cell 0, h.rb.cell 1, h.rb.cell 2, h.rb.cell 3, h.rb.cell 4, h.rb.cell 5, h.rb.cell 6, h.rb.cell 7, h.rb.cell 8⟩
end

/-- The reader's state in memory; p bounds how many nodes there can be. -/
def RS (T : Nat → Tok) (A : Nat → Nat) (m : Nat) (w0 : World) (tv : Value) (p : Nat) (w : World) : (Nat × Nat × List Nd) ⊕ (Int × Int) → Prop
  | .inl s => ∃ vn, RdS w0 tv w ((T s.1).e : Int) (A s.1 : Int) (s.2.1 : Int) 0 0 (kdW (T s.1).c) (strT (T s.1).q) vn s.2.2 ∧ s.2.2.length + (m - s.1) ≤ p ∧ (T s.1).c ≠ 0
  | .inr x => ∃ bh ta mk ct vn N, RdS w0 tv w bh ta mk x.1 x.2 (kdW 0) ct vn N ∧ N.length ≤ p ∧ x.1 ≠ 0
section
variable {T : Nat → Tok} {A : Nat → Nat} {m : Nat} {w0 w : World} {tv : Value} {p p' : Nat} {σ : (Nat × Nat × List Nd) ⊕ (Int × Int)}
theorem RS.more (h : RS T A m w0 tv p w σ) (hp : p ≤ p') : RS T A m w0 tv p' w σ := by
  cases σ with
  | inl s =>
    obtain ⟨vn, h1, h2, h3⟩ := h
    exact ⟨vn, h1, by omega, h3⟩
  | inr x =>
    obtain ⟨bh, ta, mk, ct, vn, N, h1, h2, h3⟩ := h
    exact ⟨bh, ta, mk, ct, vn, N, h1, by omega, h3⟩
theorem RS.bel (h : RS T A m w0 tv p w σ) : Below w0.heap.size w0 w ∧ w0.heap.size < w.heap.size := by
  cases σ with
  | inl s =>
    obtain ⟨vn, h1, _⟩ := h
    exact ⟨h1.bel, h1.rb.lt⟩
  | inr x =>
    obtain ⟨bh, ta, mk, ct, vn, N, h1, _⟩ := h
    exact ⟨h1.bel, h1.rb.lt⟩
theorem RS.kind (h : RS T A m w0 tv p w σ) : w.cell? ⟨w0.heap.size, 2, none⟩ = some (.string (kdW (kdS T σ))) := by
  cases σ with
  | inl s =>
    obtain ⟨vn, h1, _⟩ := h
    exact h1.cells.2.2.1
  | inr x =>
    obtain ⟨bh, ta, mk, ct, vn, N, h1, _⟩ := h
    exact h1.cells.2.2.1
end

set_option maxHeartbeats 1000000 in
/-- fail where there is an error already. -/
theorem fail_no (w0 : World) (tv : Value) (w : World) (bh ta mk er at_ : Int) (kd ct : ByteArray) (vn : Value) (N : List Nd) (e : Int) (h : RdS w0 tv w bh ta mk er at_ kd ct vn N) (he : er ≠ 0) :
    Calls Try.prog 97 #[.pointer (some ⟨w0.heap.size, 0, none⟩), .int .i64 e] w fun r w' => r = .returned (.tuple #[]) ∧ w' = w := by
  obtain ⟨c0, c1, c2, c3, c4, c5, c6, c7, c8⟩ := h.cells
  have ne : (er == 0) = false := by simp [he]
  clear h
  go_enter Try.func97, Try.ntmps97
  go_wp2
  refine bodyPost_end (v := .tuple #[]) (by simp [results, Try.results97, go_sem]) rfl ⟨rfl, rfl⟩
set_option maxHeartbeats 1000000 in
theorem fail_yes (w0 : World) (tv : Value) (w : World) (bh ta mk at_ : Int) (kd ct : ByteArray) (vn : Value) (N : List Nd) (e : Int) (h : RdS w0 tv w bh ta mk 0 at_ kd ct vn N) :
    Calls Try.prog 97 #[.pointer (some ⟨w0.heap.size, 0, none⟩), .int .i64 e] w fun r w' => r = .returned (.tuple #[]) ∧ RdS w0 tv w' bh 0 mk e ta (kdW 0) { data := #[] } vn N := by
  obtain ⟨c0, c1, c2, c3, c4, c5, c6, c7, c8⟩ := h.cells
  have fr := h.rb.frozen
  have HH : Hid (RdS w0 tv w bh ta mk 0 at_ kd ct vn N) := h
  have hlt := h.rb.lt
  clear h
  go_enter Try.func97, Try.ntmps97
  go_wp2
  refine bodyPost_end (v := .tuple #[]) (by simp [results, Try.results97, go_sem]) rfl ⟨rfl, ?_⟩
  have h1 := HH.out.put 7 (.int .i64 e) (er' := e) rfl
  have h2 := h1.put 8 (.int .i64 ta) (at' := ta) rfl
  have h3 := h2.put 2 (.string (kdW 0)) (kd' := kdW 0) rfl
  have h4 := h3.put 3 (.int .i64 0) (ta' := 0) rfl
  exact h4.put 4 (.string { data := #[] }) (ct' := { data := #[] }) rfl
end Go.Proofs.Ytocmbnocdjnfpaa

namespace Go.Proofs.Ytocmbnocdjnfpaa
open Go.RowKit Go.Deep
set_option linter.unusedVariables false
set_option linter.unusedSimpArgs false
set_option maxRecDepth 100000

/-- What the reader reads. -/
structure Env (w0 : World) (a : Option Addr) (n c : Nat) (f : Nat → Int) : Prop where
  rd : Rd .u8 w0 a n f
  n2 : n ≤ 2000
  nc : n ≤ c
  cm : c ≤ 9223372036854775807
  byt : ∀ i, i < n → 0 ≤ f i ∧ f i < 256
  mx : ∃ m, w0.cell? ⟨0, 0, none⟩ = some (.int .i64 m)
theorem kdW_inj : ∀ a, a < 16 → ∀ c, c < 16 → (kdW a).data = (kdW c).data → a = c := by decide
theorem kdW_ne {a c : Nat} (ha : a ≤ 15) (hc : c ≤ 15) (h : a ≠ c) : ((kdW a).toList == (kdW c).toList) = false ∧ ¬ (kdW a).toList = (kdW c).toList := by
  have : ((kdW a).toList == (kdW c).toList) = false := by
    cases e : ((kdW a).toList == (kdW c).toList) with
    | false => rfl
    | true => exact absurd (kdW_inj a (by omega) c (by omega) (by rw [strB_eq.1 e])) h
  exact ⟨this, fun e => by rw [e] at this; simp at this⟩
theorem nk_kd {c : Nat} (h1 : 1 ≤ c) (h2 : c ≤ 15) : ∃ q, Byt q ∧ kdW c = strT q ∧ nkF q = if c ≤ 9 then c else 0 := by
  have : c = 1 ∨ c = 2 ∨ c = 3 ∨ c = 4 ∨ c = 5 ∨ c = 6 ∨ c = 7 ∨ c = 8 ∨ c = 9 ∨ c = 10 ∨ c = 11 ∨ c = 12 ∨ c = 13 ∨ c = 14 ∨ c = 15 := by omega
  rcases this with rfl | rfl | rfl | rfl | rfl | rfl | rfl | rfl | rfl | rfl | rfl | rfl | rfl | rfl | rfl
  · exact ⟨[97, 108, 108], byt_lit rfl, rfl, rfl⟩
  · exact ⟨[118], byt_lit rfl, rfl, rfl⟩
  · exact ⟨[111, 117, 116], byt_lit rfl, rfl, rfl⟩
  · exact ⟨[105, 110], byt_lit rfl, rfl, rfl⟩
  · exact ⟨[104, 97, 115], byt_lit rfl, rfl, rfl⟩
  · exact ⟨[38], byt_lit rfl, rfl, rfl⟩
  · exact ⟨[124], byt_lit rfl, rfl, rfl⟩
  · exact ⟨[45], byt_lit rfl, rfl, rfl⟩
  · exact ⟨[103, 114, 97, 112, 104], byt_lit rfl, rfl, rfl⟩
  · exact ⟨[46], byt_lit rfl, rfl, rfl⟩
  · exact ⟨[40], byt_lit rfl, rfl, rfl⟩
  · exact ⟨[41], byt_lit rfl, rfl, rfl⟩
  · exact ⟨[44], byt_lit rfl, rfl, rfl⟩
  · exact ⟨[83, 84, 82], byt_lit rfl, rfl, rfl⟩
  · exact ⟨[101, 110, 100, 32, 111, 102, 32, 116, 104, 101, 32, 116, 101, 120, 116], byt_lit rfl, rfl, rfl⟩
theorem nodeKind_kd {c : Nat} (h1 : 1 ≤ c) (h2 : c ≤ 15) (w : World) : Calls Try.prog 99 #[.string (kdW c)] w fun e w' => e = .returned (.int .i64 ((if c ≤ 9 then c else 0 : Nat) : Int)) ∧ w' = w := by
  obtain ⟨q, hq, e1, e2⟩ := nk_kd h1 h2
  rw [e1, ← e2]
  exact nodeKind_any q hq w

theorem RdS.grown {w0 w w' : World} {tv vn vn' : Value} {bh ta mk er at_ : Int} {kd ct : ByteArray} {N N' : List Nd} (h : RdS w0 tv w bh ta mk er at_ kd ct vn N) (hg : w.grownBy w' vn.ownBlock) (hn : NdA w' (w0.heap.size + 1) vn' N') : RdS w0 tv (w'.setCell ⟨w0.heap.size, 5, none⟩ vn') bh ta mk er at_ kd ct vn' N' := by
  have hr : some w0.heap.size ≠ vn.ownBlock := fun e => by have := (h.nd.lt _ e.symm).1; omega
  have rb := (h.rb.grown hg hr).set 5 vn'
  refine ⟨rb, hn.setLo (by show w0.heap.size < _; omega) _, ?_⟩
  exact (h.bel.grown hg (by have := h.rb.lt; omega) (fun b e => by have := (h.nd.lt _ e).1; omega)).setCell (Nat.le_refl _) _
set_option maxHeartbeats 1000000 in
theorem emit_any (w0 : World) (tv : Value) (w : World) (bh ta mk er at_ : Int) (kd ct : ByteArray) (vn : Value) (N : List Nd) (x : Nd) (k : Int) (s t : ByteArray) (hk : k = (x.k : Int)) (hs : s = strT x.s) (ht : t = strT x.t) (h : RdS w0 tv w bh ta mk er at_ kd ct vn N) (hN : N.length ≤ 10000) :
    Calls Try.prog 100 #[.pointer (some ⟨w0.heap.size, 0, none⟩), .int .i64 k, .string s, .string t] w fun r w' => r = .returned (.tuple #[]) ∧ ∃ vn', RdS w0 tv w' bh ta mk er at_ kd ct vn' (N ++ [x]) := by
  have c5 := h.cells.2.2.2.2.2.1
  have fr := h.rb.frozen
  have hlt := h.rb.lt
  have HH : Hid (RdS w0 tv w bh ta mk er at_ kd ct vn N) := h
  have HC : Hid (ndC x = [.int .i64 k, .string s, .string t]) := by show _ = _; rw [hk, hs, ht]; rfl
  clear h hk hs ht
  go_enter Try.func100, Try.ntmps100
  go_wp2_with (at_builtin; refine app_nd rfl _ _ rfl (w0.heap.size + 1) _ N rfl (HH.out.nd.below (below_alloc _ _)) w.heap.size x rfl (by rw [HC.out]; exact new_cells _ [.int .i64 k, .string s, .string t] _) (by omega) (by simp; omega) ?_)
  intro v' wq hown' hgrow _
  have HX : Hid (RdS w0 tv (wq.setCell ⟨w0.heap.size, 5, none⟩ v') bh ta mk er at_ kd ct v' (N ++ [x])) := (HH.out.below (below_alloc _ _)).grown hgrow hown'
  have rb2 : RB wq w0.heap.size (rdL tv bh ta mk er at_ kd ct vn) := (HH.out.rb.below (below_alloc _ _)).grown hgrow (fun e => by have := (HH.out.nd.lt _ e.symm).1; omega)
  have d5 : wq.cell? ⟨w0.heap.size, 5, none⟩ = some vn := rb2.cell 5
  have df := rb2.frozen
  have dl := rb2.lt
  have HO : Hid (v'.oneCell' = true) := by
    obtain ⟨_, ⟨e, _⟩ | ⟨g, cap, cur, e, _⟩⟩ := hown'
    · rw [e]; rfl
    · rw [e]; rfl
  obtain ⟨av, nv, cv, ev⟩ : ∃ a n c, v' = .slice a n c := by
    obtain ⟨_, ⟨e, _⟩ | ⟨g, cap, cur, e, _⟩⟩ := hown'
    · exact ⟨_, _, _, e⟩
    · exact ⟨_, _, _, e⟩
  subst ev
  clear hown' hgrow rb2
  go_wp2
  refine bodyPost_end (v := .tuple #[]) (by simp [results, Try.results100, go_sem]) rfl ⟨rfl, _, HX.out⟩
/-- emit, on a state. -/
theorem emit_rs {T : Nat → Tok} {A : Nat → Nat} {m : Nat} {w0 : World} {tv : Value} {p : Nat} {w : World} {σ : (Nat × Nat × List Nd) ⊕ (Int × Int)} (h : RS T A m w0 tv p w σ) (hp : p ≤ 10000) (x : Nd) (k : Int) (s t : ByteArray) (hk : k = (x.k : Int)) (hs : (∃ s', σ = .inl s') → s = strT x.s) (ht : (∃ s', σ = .inl s') → t = strT x.t) (hb : ∃ s' t', s = strT s' ∧ t = strT t') :
    Calls Try.prog 100 #[.pointer (some ⟨w0.heap.size, 0, none⟩), .int .i64 k, .string s, .string t] w fun r w' => r = .returned (.tuple #[]) ∧ RS T A m w0 tv (p + 1) w' (emP x σ) := by
  cases σ with
  | inl s1 =>
    obtain ⟨vn, h1, h2, h3⟩ := h
    refine (emit_any w0 tv w _ _ _ _ _ _ _ vn _ x k s t hk (hs ⟨_, rfl⟩) (ht ⟨_, rfl⟩) h1 (by omega)).mono ?_
    rintro e w' ⟨rfl, vn', h4⟩
    refine ⟨rfl, vn', h4, ?_, h3⟩
    show (s1.2.2 ++ [x]).length + _ ≤ _
    rw [List.length_append, List.length_singleton]
    show s1.2.2.length + 1 + (m - s1.1) ≤ _
    omega
  | inr y =>
    obtain ⟨bh, ta, mk, ct, vn, N, h1, h2, h3⟩ := h
    obtain ⟨s', t', rfl, rfl⟩ := hb
    refine (emit_any w0 tv w _ _ _ _ _ _ _ vn _ ⟨x.k, s', t'⟩ k _ _ hk rfl rfl h1 (by omega)).mono ?_
    rintro e w' ⟨rfl, vn', h4⟩
    exact ⟨rfl, bh, ta, mk, ct, vn', _, h4, by rw [List.length_append, List.length_singleton]; omega, h3⟩
end Go.Proofs.Ytocmbnocdjnfpaa

namespace Go.Proofs.Ytocmbnocdjnfpaa
open Go.RowKit Go.Deep
set_option linter.unusedVariables false
set_option linter.unusedSimpArgs false
set_option maxRecDepth 100000

theorem kdW_list (c : Nat) (L : List UInt8) (h : (kdW c).data.toList = L) : (kdW c).toList = L := by rw [ByteArray.toList_eq]; exact h
theorem run_ends (a : Option Addr) (n c : Nat) (h : n ≤ c) (hc : c ≤ 9223372036854775807) : ∃ a', ∀ w, (Instr.sliceAt 33 (.slice a n c) (some (.int .i64 (n : Int))) none none).run Try.prog w = .ok (.slice a' 0 (c - n)) w := by
  cases a with
  | none =>
    refine ⟨none, fun w => ?_⟩
    simp [Instr.sliceAt, Instr.slice, go_sem, h]
  | some x =>
    by_cases e : c = n
    · refine ⟨some x, fun w => ?_⟩
      subst e
      simp [Instr.sliceAt, Instr.slice, go_sem]
    · refine ⟨some (x.add n), fun w => ?_⟩
      simp [Instr.sliceAt, Instr.slice, go_sem, h, e]

set_option maxHeartbeats 4000000 in
theorem advance_any {w0 : World} {a : Option Addr} {n c : Nat} {f : Nat → Int} (E : Env w0 a n c f) (w : World) (m p0 nd k p : Nat) (ta : Int) (kd ct : ByteArray) (vn : Value) (N : List Nd) (h : RdS w0 (.slice a n c) w (p0 : Int) ta (nd : Int) 0 0 kd ct vn N) (hp0 : p0 ≤ n) (hk : endF isSp f n p0 = tkPos f n k) (hN : N.length + (m - k) ≤ p) :
    Calls Try.prog 54 #[.pointer (some ⟨w0.heap.size, 0, none⟩)] w fun r w' => r = .returned (.tuple #[]) ∧ RS (tkF f n) (tkPos f n) m w0 (.slice a n c) p w' (nrm (tkF f n) (tkPos f n) k nd N) := by
  have HE : Hid (Env w0 a n c f) := E
  have hn2 := E.n2
  have hnc := E.nc
  have hcm := E.cm
  have HH : Hid (RdS w0 (.slice a n c) w (p0 : Int) ta (nd : Int) 0 0 kd ct vn N ∧ endF isSp f n p0 = tkPos f n k) := ⟨h, hk⟩
  clear h hk E
  go_enter Try.func54, Try.ntmps54
  go_wp2
  go_loopw [] (fun wr => ∃ j : Nat, j ≤ n ∧ RdS w0 (.slice a n c) wr (j : Int) ta (nd : Int) 0 0 kd ct vn N ∧ endF isSp f n j = tkPos f n k) (fun wr => n - (intOf ((wr.cell? ⟨w0.heap.size, 1, none⟩).getD undef)).toNat)
  case atStart => exact ⟨p0, hp0, HH.out.1, HH.out.2⟩
  case round =>
    obtain ⟨j, hj, hR, hjk⟩ := hrel
    have HR : Hid (RdS w0 (.slice a n c) wr (j : Int) ta (nd : Int) 0 0 kd ct vn N) := hR
    have HJK : Hid (endF isSp f n j = tkPos f n k) := hjk
    obtain ⟨c0, c1, c2, c3, c4, c5, c6, c7, c8⟩ := hR.cells
    have fr := hR.rb.frozen
    have hlt0 := hR.rb.lt
    clear hR hjk c2 c3 c4 c5 c6 c7 c8
    have ij0 : ¬ (j : Int) < 0 := by omega
    have ij1 : (0 : Int) ≤ (j : Int) := by omega
    by_cases hlt : j < n
    · obtain ⟨b, off, ea, hc⟩ : ∃ b off, a = some ⟨b, off, none⟩ ∧ ∀ i, i < n → w0.cell? ⟨b, off + i, none⟩ = some (.int .u8 (f i)) := by
        rcases HE.out.rd with h0 | ⟨b, off, e, hc⟩
        · omega
        · exact ⟨b, off, e, hc⟩
      subst ea
      have HCL : Hid (∀ k, k < n → wr.cell? ⟨b, off + k, none⟩ = some (.int .u8 (f k))) := fun k hk => by
        rw [HR.out.bel.cell (p := ⟨b, off + k, none⟩) (World.block_lt_of_cell? _ _ (hc k hk))]; exact hc k hk
      have HCW : Hid (∀ W, Below w0.heap.size w0 W → ∀ k, k < n → W.cell? ⟨b, off + k, none⟩ = some (.int .u8 (f k))) := fun W hW k hk => by
        rw [hW.cell (p := ⟨b, off + k, none⟩) (World.block_lt_of_cell? _ _ (hc k hk))]; exact hc k hk
      clear hc
      have cj := HCL.out j hlt
      have ij : (j : Int) < (n : Int) := by omega
      have dlt : decide ((j : Int) < (n : Int)) = true := decide_eq_true ij
      have dlt' : decide (j < n) = true := decide_eq_true hlt
      obtain ⟨x, hx⟩ : ∃ x, x = f j := ⟨_, rfl⟩
      have HX : Hid (x = f j) := hx
      rw [← hx] at cj
      clear hx
      by_cases h32 : x = 32
      · subst h32
        obtain ⟨j1, hj1⟩ : ∃ j1, j1 = j + 1 := ⟨_, rfl⟩
        have w1 : IntKind.i64.wrap ((j : Int) + 1) = (j1 : Int) := by rw [IntKind.wrap_i64]; omega
        have HJ1 : Hid (j1 = j + 1) := hj1
        clear hj1
        have HNEW : Hid (∀ q, RdS w0 (.slice (some ⟨b, off, none⟩) n c) ((wr.drewN q).setCell ⟨w0.heap.size, 1, none⟩ (.int .i64 (j1 : Int))) (j1 : Int) ta (nd : Int) 0 0 kd ct vn N) := fun q => (HR.out.below (below_drewN (Below.refl _ _) q)).put 1 (.int .i64 (j1 : Int)) (bh' := (j1 : Int)) rfl
        go_wp2_with fail
        go_quiet (fail)
        go_wp2
        go_roundw
        case rel =>
          refine ⟨j1, by have := HJ1.out; omega, ?_, by rw [HJ1.out, ← endSp_go hlt HX.out.symm]; exact HJK.out⟩
          exact HNEW.out _
        case measure =>
          have := HJ1.out
          rw [(HNEW.out _).cells.2.1, c1]
          simp [intOf]
          omega
      have n32 : (x == 32) = false := by simp [h32]
      have HP : Hid (tkPos f n k = j) := by show _ = _; rw [← HJK.out]; exact endSp_at (by rw [← HX.out]; exact h32)
      have HT : Hid (∀ W, RdS w0 (.slice (some ⟨b, off, none⟩) n c) W (j : Int) ta (nd : Int) 0 0 kd ct vn N → Calls Try.prog 96 #[.slice (some ⟨b, off + j, none⟩) (n - j) (c - j)] W (TRet f n j W)) := fun W hW => by
        have hcW : ∀ k, k < n → W.cell? ⟨b, off + k, none⟩ = some (.int .u8 (f k)) := HCW.out W hW.bel
        refine readToken_any b (off + j) (c - j) n j f W hlt hn2 (by omega) (by omega) (fun k hk => by rw [Nat.add_assoc]; exact hcW (j + k) hk) HE.out.byt ?_
        obtain ⟨mx, hmx⟩ := HE.out.mx
        exact ⟨mx, by rw [hW.bel.cell (p := ⟨0, 0, none⟩) (World.block_lt_of_cell? _ _ hmx)]; exact hmx⟩
      have sl := run_fr b off n c j hlt hnc hcm
      obtain ⟨lj, hlj⟩ : ∃ lj, lj = n - j := ⟨_, rfl⟩
      obtain ⟨cj', hcj'⟩ : ∃ cj', cj' = c - j := ⟨_, rfl⟩
      rw [← hlj, ← hcj'] at HT sl
      clear hlj hcj' HCL HCW
      go_wp2_with fail
      go_quiet (fail)
      go_wp2_with fail
      go_quiet (fail)
      go_wp2_with fail
      refine (HT.out _ (HR.out.below (below_drewN (Below.refl _ _) _))).mono ?_
      rintro e w2 ⟨rfl, hb2⟩
      have HR2 : Hid (RdS w0 (.slice (some ⟨b, off, none⟩) n c) w2 (j : Int) ta (nd : Int) 0 0 kd ct vn N) := (HR.out.below (below_drewN (Below.refl _ _) _)).below hb2
      clear hb2
      obtain ⟨c0, c1, c2, c3, c4, c5, c6, c7, c8⟩ := HR2.out.cells
      have fr := HR2.out.rb.frozen
      have hlt0 := HR2.out.rb.lt
      have hle := tkA_le (f := f) hj
      have hc15 := tkA_c f n j
      unfold tokV
      obtain ⟨t, ht⟩ : ∃ t, t = tkA f n j := ⟨_, rfl⟩
      rw [← ht] at hle hc15 ⊢
      have HTT : Hid (tkF f n k = t) := by show tkA f n (tkPos f n k) = t; rw [HP.out, ht]
      clear ht HT
      obtain ⟨tc, tq, te⟩ := t
      dsimp only at hle hc15 ⊢
      have e1 : IntKind.i64.wrap ((j : Int) + ((te - j : Nat) : Int)) = (te : Int) := by rw [IntKind.wrap_i64]; omega
      obtain ⟨CT, hCT⟩ : ∃ CT, CT = strT tq := ⟨_, rfl⟩
      rw [← hCT]
      have HCT : Hid (CT = strT tq) := hCT
      clear hCT
      obtain ⟨ln, hln⟩ : ∃ ln, ln = te - j := ⟨_, rfl⟩
      rw [← hln] at e1 ⊢
      clear hln
      have HW : Hid (∀ KD, KD = kdW tc → RdS w0 (.slice (some ⟨b, off, none⟩) n c) ((((w2.setCell ⟨w0.heap.size, 2, none⟩ (.string KD)).setCell ⟨w0.heap.size, 3, none⟩ (.int .i64 (j : Int))).setCell ⟨w0.heap.size, 4, none⟩ (.string CT)).setCell ⟨w0.heap.size, 1, none⟩ (.int .i64 (te : Int))) (te : Int) (j : Int) (nd : Int) 0 0 KD CT vn N) := fun KD _ => by
        have h1 := HR2.out.put 2 (.string KD) (kd' := KD) rfl
        have h2 := h1.put 3 (.int .i64 (j : Int)) (ta' := (j : Int)) rfl
        have h3 := h2.put 4 (.string CT) (ct' := CT) rfl
        exact h3.put 1 (.int .i64 (te : Int)) (bh' := (te : Int)) rfl
      by_cases hz : tc = 0
      · subst hz
        have HF : Hid (nrm (tkF f n) (tkPos f n) k nd N = .inr (2, (tkPos f n k : Int))) := by show _ = _; unfold nrm; rw [if_pos (by rw [HTT.out])]
        have HW2 : Hid (RdS w0 (.slice (some ⟨b, off, none⟩) n c) ((((w2.setCell ⟨w0.heap.size, 2, none⟩ (.string { data := #[110, 111, 110, 101] })).setCell ⟨w0.heap.size, 3, none⟩ (.int .i64 (j : Int))).setCell ⟨w0.heap.size, 4, none⟩ (.string CT)).setCell ⟨w0.heap.size, 1, none⟩ (.int .i64 (te : Int))) (te : Int) (j : Int) (nd : Int) 0 0 { data := #[110, 111, 110, 101] } CT vn N) := HW.out _ rfl
        have e0 : kdW 0 = { data := #[110, 111, 110, 101] } := rfl
        rw [e0]
        clear HW e0
        go_wp2_with fail
        refine (fail_yes w0 _ _ _ _ _ _ _ _ _ _ 2 HW2.out).mono ?_
        rintro e w3 ⟨rfl, h3⟩
        have HFIN : Hid (RS (tkF f n) (tkPos f n) m w0 (.slice (some ⟨b, off, none⟩) n c) p w3 (nrm (tkF f n) (tkPos f n) k nd N)) := by
          show RS _ _ _ _ _ _ _ _
          rw [HF.out]
          exact ⟨_, _, _, _, _, _, by rw [HP.out]; exact h3, by omega, by show (2 : Int) ≠ 0; omega⟩
        clear h3
        go_wp2
        refine bodyPost_end (v := .tuple #[]) (by simp [results, Try.results54, go_sem]) rfl ⟨rfl, HFIN.out⟩
      · have HF : Hid (nrm (tkF f n) (tkPos f n) k nd N = .inl (k, nd, N)) := by show _ = _; unfold nrm; rw [if_neg (by rw [HTT.out]; exact hz)]
        have hne := (kdW_ne hc15 (c := 0) (by omega) hz).2
        obtain ⟨KD, hKD⟩ : ∃ KD, KD = kdW tc := ⟨_, rfl⟩
        have HKD : Hid (KD = kdW tc) := hKD
        rw [← hKD] at hne ⊢
        have nk : ¬ KD.toList = [110, 111, 110, 101] := by rw [← kdW_list 0 [110, 111, 110, 101] rfl]; exact hne
        have nk' : (KD.toList == [110, 111, 110, 101]) = false := by simp [nk]
        clear hKD hne
        have HFIN : Hid (RS (tkF f n) (tkPos f n) m w0 (.slice (some ⟨b, off, none⟩) n c) p ((((w2.setCell ⟨w0.heap.size, 2, none⟩ (.string KD)).setCell ⟨w0.heap.size, 3, none⟩ (.int .i64 (j : Int))).setCell ⟨w0.heap.size, 4, none⟩ (.string CT)).setCell ⟨w0.heap.size, 1, none⟩ (.int .i64 (te : Int))) (nrm (tkF f n) (tkPos f n) k nd N)) := by
          show RS _ _ _ _ _ _ _ _
          rw [HF.out]
          refine ⟨vn, ?_, hN, by show (tkF f n k).c ≠ 0; rw [HTT.out]; exact hz⟩
          show RdS w0 _ _ ((tkF f n k).e : Int) (tkPos f n k : Int) (nd : Int) 0 0 (kdW (tkF f n k).c) (strT (tkF f n k).q) vn N
          rw [HTT.out, HP.out, ← HKD.out, ← HCT.out]
          exact HW.out KD HKD.out
        clear HW
        go_wp2
        refine bodyPost_end (v := .tuple #[]) (by simp [results, Try.results54, go_sem]) rfl ⟨rfl, HFIN.out⟩
    have ij : ¬ (j : Int) < (n : Int) := by omega
    have dlt : decide ((j : Int) < (n : Int)) = false := decide_eq_false ij
    have dlt' : decide (j < n) = false := decide_eq_false hlt
    have HJN : Hid (j = n) := by show _ = _; omega
    have HP : Hid (tkPos f n k = j) := by
      show _ = _
      rw [← HJK.out]
      exact endF_stop (fun e => hlt e.1)
    obtain ⟨a', sl0⟩ := run_ends a n c hnc hcm
    have HT : Hid (∀ W, RdS w0 (.slice a n c) W (j : Int) ta (nd : Int) 0 0 kd ct vn N → Calls Try.prog 96 #[.slice a' 0 (c - n)] W (TRet f n j W)) := fun W _ => readToken_end a' (c - n) n j f W (by have := HJN.out; omega)
    have sl : ∀ w, (Instr.sliceAt 33 (.slice a n c) (some (.int .i64 (j : Int))) none none).run Try.prog w = .ok (.slice a' 0 (c - n)) w := fun w => by rw [show ((j : Nat) : Int) = (n : Int) by have := HJN.out; omega]; exact sl0 w
    obtain ⟨cj', hcj'⟩ : ∃ cj', cj' = c - n := ⟨_, rfl⟩
    rw [← hcj'] at HT sl
    clear hcj' sl0
    go_wp2_with fail
    go_quiet (fail)
    go_wp2_with fail
    go_quiet (fail)
    go_wp2_with fail
    refine (HT.out _ (HR.out.below (below_drewN (Below.refl _ _) _))).mono ?_
    rintro e w2 ⟨rfl, hb2⟩
    have HR2 : Hid (RdS w0 (.slice a n c) w2 (j : Int) ta (nd : Int) 0 0 kd ct vn N) := (HR.out.below (below_drewN (Below.refl _ _) _)).below hb2
    clear hb2
    obtain ⟨c0, c1, c2, c3, c4, c5, c6, c7, c8⟩ := HR2.out.cells
    have fr := HR2.out.rb.frozen
    have hlt0 := HR2.out.rb.lt
    have hle := tkA_le (f := f) hj
    have hc15 := tkA_c f n j
    unfold tokV
    obtain ⟨t, ht⟩ : ∃ t, t = tkA f n j := ⟨_, rfl⟩
    rw [← ht] at hle hc15 ⊢
    have HTT : Hid (tkF f n k = t) := by show tkA f n (tkPos f n k) = t; rw [HP.out, ht]
    clear ht HT
    obtain ⟨tc, tq, te⟩ := t
    dsimp only at hle hc15 ⊢
    have e1 : IntKind.i64.wrap ((j : Int) + ((te - j : Nat) : Int)) = (te : Int) := by rw [IntKind.wrap_i64]; omega
    obtain ⟨CT, hCT⟩ : ∃ CT, CT = strT tq := ⟨_, rfl⟩
    rw [← hCT]
    have HCT : Hid (CT = strT tq) := hCT
    clear hCT
    obtain ⟨ln, hln⟩ : ∃ ln, ln = te - j := ⟨_, rfl⟩
    rw [← hln] at e1 ⊢
    clear hln
    have HW : Hid (∀ KD, KD = kdW tc → RdS w0 (.slice a n c) ((((w2.setCell ⟨w0.heap.size, 2, none⟩ (.string KD)).setCell ⟨w0.heap.size, 3, none⟩ (.int .i64 (j : Int))).setCell ⟨w0.heap.size, 4, none⟩ (.string CT)).setCell ⟨w0.heap.size, 1, none⟩ (.int .i64 (te : Int))) (te : Int) (j : Int) (nd : Int) 0 0 KD CT vn N) := fun KD _ => by
      have h1 := HR2.out.put 2 (.string KD) (kd' := KD) rfl
      have h2 := h1.put 3 (.int .i64 (j : Int)) (ta' := (j : Int)) rfl
      have h3 := h2.put 4 (.string CT) (ct' := CT) rfl
      exact h3.put 1 (.int .i64 (te : Int)) (bh' := (te : Int)) rfl
    by_cases hz : tc = 0
    · subst hz
      have HF : Hid (nrm (tkF f n) (tkPos f n) k nd N = .inr (2, (tkPos f n k : Int))) := by show _ = _; unfold nrm; rw [if_pos (by rw [HTT.out])]
      have HW2 : Hid (RdS w0 (.slice a n c) ((((w2.setCell ⟨w0.heap.size, 2, none⟩ (.string { data := #[110, 111, 110, 101] })).setCell ⟨w0.heap.size, 3, none⟩ (.int .i64 (j : Int))).setCell ⟨w0.heap.size, 4, none⟩ (.string CT)).setCell ⟨w0.heap.size, 1, none⟩ (.int .i64 (te : Int))) (te : Int) (j : Int) (nd : Int) 0 0 { data := #[110, 111, 110, 101] } CT vn N) := HW.out _ rfl
      have e0 : kdW 0 = { data := #[110, 111, 110, 101] } := rfl
      rw [e0]
      clear HW e0
      go_wp2_with fail
      refine (fail_yes w0 _ _ _ _ _ _ _ _ _ _ 2 HW2.out).mono ?_
      rintro e w3 ⟨rfl, h3⟩
      have HFIN : Hid (RS (tkF f n) (tkPos f n) m w0 (.slice a n c) p w3 (nrm (tkF f n) (tkPos f n) k nd N)) := by
        show RS _ _ _ _ _ _ _ _
        rw [HF.out]
        exact ⟨_, _, _, _, _, _, by rw [HP.out]; exact h3, by omega, by show (2 : Int) ≠ 0; omega⟩
      clear h3
      go_wp2
      refine bodyPost_end (v := .tuple #[]) (by simp [results, Try.results54, go_sem]) rfl ⟨rfl, HFIN.out⟩
    · have HF : Hid (nrm (tkF f n) (tkPos f n) k nd N = .inl (k, nd, N)) := by show _ = _; unfold nrm; rw [if_neg (by rw [HTT.out]; exact hz)]
      have hne := (kdW_ne hc15 (c := 0) (by omega) hz).2
      obtain ⟨KD, hKD⟩ : ∃ KD, KD = kdW tc := ⟨_, rfl⟩
      have HKD : Hid (KD = kdW tc) := hKD
      rw [← hKD] at hne ⊢
      have nk : ¬ KD.toList = [110, 111, 110, 101] := by rw [← kdW_list 0 [110, 111, 110, 101] rfl]; exact hne
      have nk' : (KD.toList == [110, 111, 110, 101]) = false := by simp [nk]
      clear hKD hne
      have HFIN : Hid (RS (tkF f n) (tkPos f n) m w0 (.slice a n c) p ((((w2.setCell ⟨w0.heap.size, 2, none⟩ (.string KD)).setCell ⟨w0.heap.size, 3, none⟩ (.int .i64 (j : Int))).setCell ⟨w0.heap.size, 4, none⟩ (.string CT)).setCell ⟨w0.heap.size, 1, none⟩ (.int .i64 (te : Int))) (nrm (tkF f n) (tkPos f n) k nd N)) := by
        show RS _ _ _ _ _ _ _ _
        rw [HF.out]
        refine ⟨vn, ?_, hN, by show (tkF f n k).c ≠ 0; rw [HTT.out]; exact hz⟩
        show RdS w0 _ _ ((tkF f n k).e : Int) (tkPos f n k : Int) (nd : Int) 0 0 (kdW (tkF f n k).c) (strT (tkF f n k).q) vn N
        rw [HTT.out, HP.out, ← HKD.out, ← HCT.out]
        exact HW.out KD HKD.out
      clear HW
      go_wp2
      refine bodyPost_end (v := .tuple #[]) (by simp [results, Try.results54, go_sem]) rfl ⟨rfl, HFIN.out⟩
end Go.Proofs.Ytocmbnocdjnfpaa

namespace Go.Proofs.Ytocmbnocdjnfpaa
open Go.RowKit Go.Deep
set_option linter.unusedVariables false
set_option linter.unusedSimpArgs false
set_option maxRecDepth 100000

def dl : (Nat × Nat × List Nd) ⊕ (Int × Int) → Nat
  | .inl _ => 1
  | .inr _ => 0
/-- What take gives back. -/
def TkRet (T : Nat → Tok) (A : Nat → Nat) (m : Nat) (w0 : World) (tv : Value) (p c : Nat) (σ : (Nat × Nat × List Nd) ⊕ (Int × Int)) (e : Ending) (w' : World) : Prop :=
  ∃ q, e = .returned (.string (strT q)) ∧ (c = 14 → q = tkQ T σ) ∧ RS T A m w0 tv (p - dl σ) w' (tkP T A c σ)

set_option maxHeartbeats 2000000 in
theorem take_rs {w0 : World} {a : Option Addr} {n c : Nat} {f : Nat → Int} (E : Env w0 a n c f) {m : Nat} (k : Nat) (kind : ByteArray) (hkd : kind = kdW k) (hk1 : 1 ≤ k) (hk2 : k ≤ 15) (w : World) (p : Nat) (σ : (Nat × Nat × List Nd) ⊕ (Int × Int)) (h : RS (tkF f n) (tkPos f n) m w0 (.slice a n c) p w σ) (hok : ∀ s, σ = .inl s → s.1 < m ∧ s.2.1 ≤ 100) :
    Calls Try.prog 56 #[.pointer (some ⟨w0.heap.size, 0, none⟩), .string kind] w (TkRet (tkF f n) (tkPos f n) m w0 (.slice a n c) p k σ) := by
  subst hkd
  cases σ with
  | inr x =>
    obtain ⟨bh, ta, mk, ct, vn, N, h1, h2, h3⟩ := h
    have hne := kdW_ne (a := 0) (c := k) (by omega) hk2 (by omega)
    have c2 := h1.cells.2.2.1
    have HF : Hid (Calls Try.prog 97 #[.pointer (some ⟨w0.heap.size, 0, none⟩), .int .i64 3] w fun r w' => r = .returned (.tuple #[]) ∧ w' = w) := fail_no w0 _ w bh ta mk x.1 x.2 _ ct vn N 3 h1 h3
    have HX : Hid (TkRet (tkF f n) (tkPos f n) m w0 (.slice a n c) p k (.inr x) (.returned (.string (strT []))) w) := ⟨[], rfl, fun _ => rfl, bh, ta, mk, ct, vn, N, h1, by simpa [dl] using h2, h3⟩
    clear h1 h2 h3 hok E
    obtain ⟨n1, n2⟩ := hne
    generalize kdW k = K at *
    generalize kdW 0 = Z at *
    go_enter Try.func56, Try.ntmps56
    go_wp2_with fail
    refine HF.out.mono ?_
    rintro e w1 ⟨rfl, hw⟩
    rw [hw]
    clear hw w1
    go_wp2
    refine bodyPost_ret (v := .string { data := #[] }) (by simp [results, Try.results56, go_sem]) rfl HX.out
  | inl s =>
    obtain ⟨i, nd, N⟩ := s
    obtain ⟨vn, h1, h2, h3⟩ := h
    obtain ⟨him, hnd⟩ := hok _ rfl
    have him' : i < m := him
    have hnd' : nd ≤ 100 := hnd
    have h2' : N.length + (m - i) ≤ p := h2
    have h1' : RdS w0 (.slice a n c) w ((tkF f n i).e : Int) (tkPos f n i : Int) (nd : Int) 0 0 (kdW (tkF f n i).c) (strT (tkF f n i).q) vn N := h1
    obtain ⟨c0, c1, c2, c3, c4, c5, c6, c7, c8⟩ := h1'.cells
    have fr := h1'.rb.frozen
    have hlt := h1'.rb.lt
    have HH : Hid (RdS w0 (.slice a n c) w ((tkF f n i).e : Int) (tkPos f n i : Int) (nd : Int) 0 0 (kdW (tkF f n i).c) (strT (tkF f n i).q) vn N) := h1'
    have HE : Hid (Env w0 a n c f) := E
    have h15 := tkc15 f n i
    clear h1 h2 h3 hok E him hnd h1' c0 c1 c3 c5 c7 c8
    by_cases hc : (tkF f n i).c = k
    · have HK : Hid (∀ W, Calls Try.prog 99 #[.string (kdW k)] W fun e w' => e = .returned (.int .i64 ((if k ≤ 9 then k else 0 : Nat) : Int)) ∧ w' = W) := fun W => nodeKind_kd hk1 hk2 W
      have HTE : Hid ((tkF f n i).e ≤ n ∧ endF isSp f n (tkF f n i).e = tkPos f n (i + 1)) := ⟨(tkA_le (tkPos_le f n i)).2, rfl⟩
      have HADV : Hid (∀ W (nd2 : Nat), RdS w0 (.slice a n c) W ((tkF f n i).e : Int) (tkPos f n i : Int) (nd2 : Int) 0 0 (kdW (tkF f n i).c) (strT (tkF f n i).q) vn N → Calls Try.prog 54 #[.pointer (some ⟨w0.heap.size, 0, none⟩)] W fun r w' => r = .returned (.tuple #[]) ∧ RS (tkF f n) (tkPos f n) m w0 (.slice a n c) (p - 1) w' (nrm (tkF f n) (tkPos f n) (i + 1) nd2 N)) := fun W nd2 hW => advance_any HE.out W m _ nd2 (i + 1) (p - 1) _ _ _ vn N hW HTE.out.1 HTE.out.2 (by omega)
      have HQ : Hid (k = 14 → (tkF f n i).q = tkQ (tkF f n) (.inl (i, nd, N))) := fun e => by rw [tk_q, if_pos (by rw [hc]; exact e)]
      rw [hc] at c2
      obtain ⟨K, hK⟩ : ∃ K, K = kdW k := ⟨_, rfl⟩
      obtain ⟨X, hX⟩ : ∃ X, X = strT (tkF f n i).q := ⟨_, rfl⟩
      have HXX : Hid (X = strT (tkF f n i).q) := hX
      rw [← hK] at c2 HK ⊢
      rw [← hX] at c4
      have HC : Hid ((tkF f n i).c = k) := hc
      clear hK hX hc
      by_cases h9 : k ≤ 9
      · have e9 : ((if k ≤ 9 then k else 0 : Nat) : Int) = (k : Int) := by rw [if_pos h9]
        rw [e9] at HK
        have nk : ((k : Int) == 0) = false := by simp; omega
        have nk' : ¬ (k : Int) = 0 := by omega
        have e1 : IntKind.i64.wrap ((nd : Int) + 1) = ((nd + 1 : Nat) : Int) := by rw [IntKind.wrap_i64]; omega
        obtain ⟨nd1, hnd1⟩ : ∃ nd1, nd1 = nd + 1 := ⟨_, rfl⟩
        rw [← hnd1] at e1
        have HND : Hid (nd1 = nd + 1) := hnd1
        have HW : Hid (RdS w0 (.slice a n c) (w.setCell ⟨w0.heap.size, 6, none⟩ (.int .i64 (nd1 : Int))) ((tkF f n i).e : Int) (tkPos f n i : Int) (nd1 : Int) 0 0 (kdW (tkF f n i).c) (strT (tkF f n i).q) vn N) := HH.out.put 6 (.int .i64 (nd1 : Int)) (mk' := (nd1 : Int)) rfl
        by_cases h100 : nd = 100
        · have i100 : (100 : Int) < (nd1 : Int) := by omega
          have HT : Hid (tkP (tkF f n) (tkPos f n) k (.inl (i, nd, N)) = .inr (4, (tkPos f n i : Int))) := by
            show (if (tkF f n i).c = k then (if 1 ≤ k ∧ k ≤ 9 then (if nd = 100 then _ else _) else _) else _) = _
            rw [if_pos HC.out, if_pos ⟨hk1, h9⟩, if_pos h100]
          clear hnd1 h100
          go_enter Try.func56, Try.ntmps56
          go_wp2_with fail
          refine (HK.out _).mono ?_
          rintro e w1 ⟨rfl, hw⟩
          rw [hw]
          clear hw w1
          go_wp2_with fail
          refine (fail_yes w0 _ _ _ _ _ _ _ _ _ _ 4 HW.out).mono ?_
          rintro e w3 ⟨rfl, hR3⟩
          have HX : Hid (TkRet (tkF f n) (tkPos f n) m w0 (.slice a n c) p k (.inl (i, nd, N)) (.returned (.string { data := #[] })) w3) := ⟨[], rfl, fun e => by omega, by rw [HT.out]; exact ⟨_, _, _, _, _, _, hR3, by show N.length ≤ p - 1; omega, by show (4 : Int) ≠ 0; omega⟩⟩
          clear hR3
          go_wp2
          refine bodyPost_ret (v := .string { data := #[] }) (by simp [results, Try.results56, go_sem]) rfl HX.out
        · have i100 : ¬ (100 : Int) < (nd1 : Int) := by omega
          have HT : Hid (tkP (tkF f n) (tkPos f n) k (.inl (i, nd, N)) = nrm (tkF f n) (tkPos f n) (i + 1) nd1 N) := by
            show (if (tkF f n i).c = k then (if 1 ≤ k ∧ k ≤ 9 then (if nd = 100 then _ else _) else _) else _) = _
            rw [if_pos HC.out, if_pos ⟨hk1, h9⟩, if_neg h100, HND.out]
          clear hnd1 h100
          go_enter Try.func56, Try.ntmps56
          go_wp2_with fail
          refine (HK.out _).mono ?_
          rintro e w1 ⟨rfl, hw⟩
          rw [hw]
          clear hw w1
          go_wp2_with fail
          refine (HADV.out _ nd1 HW.out).mono ?_
          rintro e w3 ⟨rfl, hR3⟩
          have HX : Hid (TkRet (tkF f n) (tkPos f n) m w0 (.slice a n c) p k (.inl (i, nd, N)) (.returned (.string X)) w3) := ⟨_, by rw [HXX.out], HQ.out, by rw [HT.out]; exact hR3⟩
          clear hR3
          go_wp2
          refine bodyPost_ret (v := .string X) (by simp [results, Try.results56, go_sem]) rfl HX.out
      · have e9 : ((if k ≤ 9 then k else 0 : Nat) : Int) = 0 := by rw [if_neg h9]; rfl
        rw [e9] at HK
        have i100 : ¬ (100 : Int) < (nd : Int) := by omega
        have HT : Hid (tkP (tkF f n) (tkPos f n) k (.inl (i, nd, N)) = nrm (tkF f n) (tkPos f n) (i + 1) nd N) := by
          show (if (tkF f n i).c = k then (if 1 ≤ k ∧ k ≤ 9 then (if nd = 100 then _ else _) else _) else _) = _
          rw [if_pos HC.out, if_neg (by omega)]
        go_enter Try.func56, Try.ntmps56
        go_wp2_with fail
        refine (HK.out _).mono ?_
        rintro e w1 ⟨rfl, hw⟩
        rw [hw]
        clear hw w1
        go_wp2_with fail
        refine (HADV.out _ nd HH.out).mono ?_
        rintro e w3 ⟨rfl, hR3⟩
        have HX : Hid (TkRet (tkF f n) (tkPos f n) m w0 (.slice a n c) p k (.inl (i, nd, N)) (.returned (.string X)) w3) := ⟨_, by rw [HXX.out], HQ.out, by rw [HT.out]; exact hR3⟩
        clear hR3
        go_wp2
        refine bodyPost_ret (v := .string X) (by simp [results, Try.results56, go_sem]) rfl HX.out
    · have hne := kdW_ne (a := (tkF f n i).c) (c := k) h15 hk2 hc
      have HT : Hid (tkP (tkF f n) (tkPos f n) k (.inl (i, nd, N)) = .inr (3, (tkPos f n i : Int))) := by
        show (if (tkF f n i).c = k then _ else _) = _
        rw [if_neg hc]
      have HQ : Hid (k = 14 → ([] : List Int) = tkQ (tkF f n) (.inl (i, nd, N))) := fun e => by rw [tk_q, if_neg (by rw [← e]; exact hc)]
      obtain ⟨n1, n2⟩ := hne
      clear hc
      obtain ⟨Z, hZ⟩ : ∃ Z, Z = kdW (tkF f n i).c := ⟨_, rfl⟩
      rw [← hZ] at c2 n1 n2
      clear hZ
      generalize kdW k = K at *
      go_enter Try.func56, Try.ntmps56
      go_wp2_with fail
      refine (fail_yes w0 _ _ _ _ _ _ _ _ _ _ 3 HH.out).mono ?_
      rintro e w3 ⟨rfl, hR3⟩
      have HX : Hid (TkRet (tkF f n) (tkPos f n) m w0 (.slice a n c) p k (.inl (i, nd, N)) (.returned (.string { data := #[] })) w3) := ⟨[], rfl, HQ.out, by rw [HT.out]; exact ⟨_, _, _, _, _, _, hR3, by show N.length ≤ p - 1; omega, by show (3 : Int) ≠ 0; omega⟩⟩
      clear hR3
      go_wp2
      refine bodyPost_ret (v := .string { data := #[] }) (by simp [results, Try.results56, go_sem]) rfl HX.out
end Go.Proofs.Ytocmbnocdjnfpaa

namespace Go.Proofs.Ytocmbnocdjnfpaa
open Go.RowKit Go.Deep
set_option linter.unusedVariables false
set_option linter.unusedSimpArgs false
set_option maxRecDepth 100000

def OkS (T : Nat → Tok) (m i0 : Nat) (σ : (Nat × Nat × List Nd) ⊕ (Int × Int)) : Prop := ∀ s, σ = .inl s → Okk T m s ∧ i0 ≤ s.1
theorem OkS.up {T : Nat → Tok} {m i0 a : Nat} {σ σ' : (Nat × Nat × List Nd) ⊕ (Int × Int)} (h : OkS T m i0 σ) (hu : Up T m a σ σ') : OkS T m (i0 + a) σ' := fun s' e => by
  obtain ⟨s, e0, h1, h2⟩ := hu s' e
  obtain ⟨k1, k2⟩ := h s e0
  exact ⟨h2 k1, by omega⟩
theorem OkS.less {T : Nat → Tok} {m i0 i1 : Nat} {σ : (Nat × Nat × List Nd) ⊕ (Int × Int)} (h : OkS T m i0 σ) (hi : i1 ≤ i0) : OkS T m i1 σ := fun s e => ⟨(h s e).1, by have := (h s e).2; omega⟩
theorem OkS.two {T : Nat → Tok} {m i0 : Nat} {σ : (Nat × Nat × List Nd) ⊕ (Int × Int)} (h : OkS T m i0 σ) : ∀ s, σ = .inl s → s.1 < m ∧ s.2.1 ≤ 100 := fun s e => ⟨(h s e).1.1, (h s e).1.2.2⟩
/-- What the reader's functions give back. -/
def FRet (T : Nat → Tok) (A : Nat → Nat) (m : Nat) (w0 : World) (tv : Value) (p : Nat) (σ : (Nat × Nat × List Nd) ⊕ (Int × Int)) (e : Ending) (w' : World) : Prop := e = .returned (.tuple #[]) ∧ RS T A m w0 tv p w' σ
theorem RS.pos {T : Nat → Tok} {A : Nat → Nat} {m : Nat} {w0 w : World} {tv : Value} {p i0 : Nat} {s : Nat × Nat × List Nd} (h : RS T A m w0 tv p w (.inl s)) (ho : OkS T m i0 (.inl s)) : 1 ≤ p := by
  obtain ⟨vn, h1, h2, h3⟩ := h
  have := (ho s rfl).1.1
  omega

section
variable {w0 : World} {a : Option Addr} {n c : Nat} {f : Nat → Int} {m : Nat}
set_option maxHeartbeats 1000000 in
theorem call_rs (E : Env w0 a n c f) (hl : LastK (tkF f n) m) (k : Nat) (kind : ByteArray) (hkd : kind = kdW k) (hk1 : 1 ≤ k) (hk2 : k ≤ 9) (w : World) (p i0 : Nat) (hp : p ≤ 9000) (σ : (Nat × Nat × List Nd) ⊕ (Int × Int)) (h : RS (tkF f n) (tkPos f n) m w0 (.slice a n c) p w σ) (hok : OkS (tkF f n) m i0 σ) :
    Calls Try.prog 167 #[.pointer (some ⟨w0.heap.size, 0, none⟩), .string kind] w (FRet (tkF f n) (tkPos f n) m w0 (.slice a n c) (p - dl σ + 1) (callF (tkF f n) (tkPos f n) k σ)) := by
  have ok1 := hok.up (up_tk (A := tkPos f n) hl (c := k) (by omega) (by omega) σ)
  have ok2 := ok1.up (up_tk (A := tkPos f n) hl (c := 11) (by omega) (by omega) _)
  have ok3 := ok2.up (up_tk (A := tkPos f n) hl (c := 14) (by omega) (by omega) _)
  have H1 : Hid (Calls Try.prog 56 #[.pointer (some ⟨w0.heap.size, 0, none⟩), .string kind] w (TkRet (tkF f n) (tkPos f n) m w0 (.slice a n c) p k σ)) := take_rs E k kind hkd hk1 (by omega) w p σ h hok.two
  have H2 : Hid (∀ W, RS (tkF f n) (tkPos f n) m w0 (.slice a n c) (p - dl σ) W (tkP (tkF f n) (tkPos f n) k σ) → Calls Try.prog 56 #[.pointer (some ⟨w0.heap.size, 0, none⟩), .string { data := #[40] }] W (TkRet (tkF f n) (tkPos f n) m w0 (.slice a n c) (p - dl σ) 11 (tkP (tkF f n) (tkPos f n) k σ))) := fun W hW => take_rs E 11 _ rfl (by omega) (by omega) W _ _ hW ok1.two
  have H3 : Hid (∀ W p', RS (tkF f n) (tkPos f n) m w0 (.slice a n c) p' W (tkP (tkF f n) (tkPos f n) 11 (tkP (tkF f n) (tkPos f n) k σ)) → Calls Try.prog 56 #[.pointer (some ⟨w0.heap.size, 0, none⟩), .string { data := #[83, 84, 82] }] W (TkRet (tkF f n) (tkPos f n) m w0 (.slice a n c) p' 14 (tkP (tkF f n) (tkPos f n) 11 (tkP (tkF f n) (tkPos f n) k σ)))) := fun W p' hW => take_rs E 14 _ rfl (by omega) (by omega) W _ _ hW ok2.two
  have H4 : Hid (∀ W p', RS (tkF f n) (tkPos f n) m w0 (.slice a n c) p' W (tkP (tkF f n) (tkPos f n) 14 (tkP (tkF f n) (tkPos f n) 11 (tkP (tkF f n) (tkPos f n) k σ))) → Calls Try.prog 56 #[.pointer (some ⟨w0.heap.size, 0, none⟩), .string { data := #[41] }] W (TkRet (tkF f n) (tkPos f n) m w0 (.slice a n c) p' 12 (tkP (tkF f n) (tkPos f n) 14 (tkP (tkF f n) (tkPos f n) 11 (tkP (tkF f n) (tkPos f n) k σ))))) := fun W p' hW => take_rs E 12 _ rfl (by omega) (by omega) W _ _ hW ok3.two
  have HK : Hid (∀ W, Calls Try.prog 99 #[.string kind] W fun e w' => e = .returned (.int .i64 (k : Int)) ∧ w' = W) := fun W => by
    have := nodeKind_kd hk1 (by omega) W
    rw [if_pos hk2, ← hkd] at this
    exact this
  have H5 : Hid (∀ W q, RS (tkF f n) (tkPos f n) m w0 (.slice a n c) (p - dl σ) W (tkP (tkF f n) (tkPos f n) 12 (tkP (tkF f n) (tkPos f n) 14 (tkP (tkF f n) (tkPos f n) 11 (tkP (tkF f n) (tkPos f n) k σ)))) → q = tkQ (tkF f n) (tkP (tkF f n) (tkPos f n) 11 (tkP (tkF f n) (tkPos f n) k σ)) → Calls Try.prog 100 #[.pointer (some ⟨w0.heap.size, 0, none⟩), .int .i64 (k : Int), .string (strT q), .string { data := #[] }] W (FRet (tkF f n) (tkPos f n) m w0 (.slice a n c) (p - dl σ + 1) (callF (tkF f n) (tkPos f n) k σ))) := fun W q hW hq => by
    subst hq
    exact emit_rs hW (by omega) ⟨k, tkQ (tkF f n) (tkP (tkF f n) (tkPos f n) 11 (tkP (tkF f n) (tkPos f n) k σ)), []⟩ _ _ _ rfl (fun _ => rfl) (fun _ => rfl) ⟨_, [], rfl, rfl⟩
  clear ok1 ok2 ok3 hok h E hl hkd
  go_enter Try.func167, Try.ntmps167
  go_wp2_with fail
  refine H1.out.mono ?_
  rintro e w1 ⟨q1, rfl, _, h1⟩
  have G1 : Hid (RS (tkF f n) (tkPos f n) m w0 (.slice a n c) (p - dl σ) w1 (tkP (tkF f n) (tkPos f n) k σ)) := h1
  clear h1 H1
  go_wp2_with fail
  refine (H2.out w1 G1.out).mono ?_
  rintro e w2 ⟨q2, rfl, _, h2⟩
  have G2 : Hid (RS (tkF f n) (tkPos f n) m w0 (.slice a n c) (p - dl σ) w2 (tkP (tkF f n) (tkPos f n) 11 (tkP (tkF f n) (tkPos f n) k σ))) := h2.more (by omega)
  clear h2 H2 G1
  go_wp2_with fail
  refine (H3.out w2 _ G2.out).mono ?_
  rintro e w3 ⟨q3, rfl, hq3, h3⟩
  have HQ : Hid (q3 = tkQ (tkF f n) (tkP (tkF f n) (tkPos f n) 11 (tkP (tkF f n) (tkPos f n) k σ))) := hq3 rfl
  have G3 : Hid (RS (tkF f n) (tkPos f n) m w0 (.slice a n c) (p - dl σ) w3 (tkP (tkF f n) (tkPos f n) 14 (tkP (tkF f n) (tkPos f n) 11 (tkP (tkF f n) (tkPos f n) k σ)))) := h3.more (by omega)
  clear h3 H3 G2 hq3
  go_wp2_with fail
  refine (H4.out w3 _ G3.out).mono ?_
  rintro e w4 ⟨q4, rfl, _, h4⟩
  have G4 : Hid (RS (tkF f n) (tkPos f n) m w0 (.slice a n c) (p - dl σ) w4 (tkP (tkF f n) (tkPos f n) 12 (tkP (tkF f n) (tkPos f n) 14 (tkP (tkF f n) (tkPos f n) 11 (tkP (tkF f n) (tkPos f n) k σ))))) := h4.more (by omega)
  clear h4 H4 G3
  go_wp2_with fail
  refine (HK.out _).mono ?_
  rintro e w8 ⟨rfl, hw8⟩
  rw [hw8]
  clear hw8 w8 HK
  go_wp2_with fail
  refine (H5.out w4 q3 G4.out HQ.out).mono ?_
  rintro e w5 ⟨rfl, h5⟩
  have G5 : Hid (RS (tkF f n) (tkPos f n) m w0 (.slice a n c) (p - dl σ + 1) w5 (callF (tkF f n) (tkPos f n) k σ)) := h5
  clear h5 H5 G4
  go_wp2
  refine bodyPost_end (v := .tuple #[]) (by simp [results, Try.results167, go_sem]) rfl ⟨rfl, G5.out⟩
end
end Go.Proofs.Ytocmbnocdjnfpaa

namespace Go.Proofs.Ytocmbnocdjnfpaa
open Go.RowKit Go.Deep
set_option linter.unusedVariables false
set_option linter.unusedSimpArgs false
set_option maxRecDepth 100000

theorem kdW_no {c k : Nat} (L : List UInt8) (hL : (kdW k).data.toList = L) (hc : c ≤ 15) (hk : k ≤ 15) (h : c ≠ k) : ¬ (kdW c).toList = L ∧ ((kdW c).toList == L) = false := by
  have := (kdW_ne hc hk h).2
  rw [kdW_list k L hL] at this
  exact ⟨this, by simp [this]⟩
theorem kdS_le (f : Nat → Int) (n : Nat) (σ : (Nat × Nat × List Nd) ⊕ (Int × Int)) : kdS (tkF f n) σ ≤ 15 := by
  cases σ with
  | inl s => exact tkc15 f n s.1
  | inr x => exact Nat.zero_le _
theorem kdS_inl {T : Nat → Tok} {σ : (Nat × Nat × List Nd) ⊕ (Int × Int)} (h : kdS T σ ≠ 0) : ∃ s, σ = .inl s := by
  cases σ with
  | inl s => exact ⟨s, rfl⟩
  | inr x => exact absurd rfl h
theorem FRet.more {T : Nat → Tok} {A : Nat → Nat} {m : Nat} {w0 : World} {tv : Value} {p p' : Nat} {σ : (Nat × Nat × List Nd) ⊕ (Int × Int)} {e : Ending} {w' : World} (h : FRet T A m w0 tv p σ e w') (hp : p ≤ p') : FRet T A m w0 tv p' σ e w' := ⟨h.1, h.2.more hp⟩

section
variable {w0 : World} {a : Option Addr} {n c : Nat} {f : Nat → Int} {m : Nat}
/-- take, on a state. -/
theorem tk_rs (E : Env w0 a n c f) {i0 p : Nat} (k : Nat) (kind : ByteArray) (hkd : kind = kdW k) (hk1 : 1 ≤ k) (hk2 : k ≤ 15) (w : World) (σ : (Nat × Nat × List Nd) ⊕ (Int × Int)) (h : RS (tkF f n) (tkPos f n) m w0 (.slice a n c) p w σ) (hok : OkS (tkF f n) m i0 σ) :
    Calls Try.prog 56 #[.pointer (some ⟨w0.heap.size, 0, none⟩), .string kind] w fun e w' => ∃ q, e = .returned (.string (strT q)) ∧ (k = 14 → q = tkQ (tkF f n) σ) ∧ RS (tkF f n) (tkPos f n) m w0 (.slice a n c) (p - dl σ) w' (tkP (tkF f n) (tkPos f n) k σ) := take_rs E k kind hkd hk1 hk2 w p σ h hok.two
set_option maxHeartbeats 1000000 in
theorem move_rs (E : Env w0 a n c f) (hl : LastK (tkF f n) m) (w : World) (p i0 : Nat) (hp : p ≤ 9000) (σ : (Nat × Nat × List Nd) ⊕ (Int × Int)) (h : RS (tkF f n) (tkPos f n) m w0 (.slice a n c) p w σ) (hok : OkS (tkF f n) m i0 σ) :
    Calls Try.prog 151 #[.pointer (some ⟨w0.heap.size, 0, none⟩)] w (FRet (tkF f n) (tkPos f n) m w0 (.slice a n c) (p - dl σ + 1) (moveF (tkF f n) (tkPos f n) σ)) := by
  have HE : Hid (Env w0 a n c f) := E
  have HL : Hid (LastK (tkF f n) m) := hl
  have HS : Hid (RS (tkF f n) (tkPos f n) m w0 (.slice a n c) p w σ) := h
  have HO : Hid (OkS (tkF f n) m i0 σ) := hok
  have c2 := h.kind
  have hlt := h.bel.2
  have h15 := kdS_le f n σ
  clear h hok E hl
  by_cases h4 : kdS (tkF f n) σ = 4
  · have HM : Hid (moveF (tkF f n) (tkPos f n) σ = callF (tkF f n) (tkPos f n) 4 σ) := by show _ = _; unfold moveF; rw [if_pos h4]
    rw [h4] at c2
    have c2' : w.cell? ⟨w0.heap.size, 2, none⟩ = some (.string { data := #[105, 110] }) := c2
    clear c2 h4
    go_enter Try.func151, Try.ntmps151
    go_wp2_with fail
    refine (call_rs HE.out HL.out 4 _ rfl (by omega) (by omega) w p i0 hp σ HS.out HO.out).mono ?_
    rintro e w1 ⟨rfl, h1⟩
    have GL : Hid (RS (tkF f n) (tkPos f n) m w0 (.slice a n c) (p - dl σ + 1) w1 (moveF (tkF f n) (tkPos f n) σ)) := by show RS _ _ _ _ _ _ _ _; rw [HM.out]; exact h1
    clear h1
    go_wp2
    refine bodyPost_end (v := .tuple #[]) (by simp [results, Try.results151, go_sem]) rfl ⟨rfl, GL.out⟩
  by_cases h5 : kdS (tkF f n) σ = 5
  · have HM : Hid (moveF (tkF f n) (tkPos f n) σ = hasF (tkF f n) (tkPos f n) σ) := by show _ = _; unfold moveF; rw [if_neg h4, if_pos h5]
    rw [h5] at c2
    have c2' : w.cell? ⟨w0.heap.size, 2, none⟩ = some (.string { data := #[104, 97, 115] }) := c2
    clear c2 h5 h4
    go_enter Try.func151, Try.ntmps151
    go_wp2_with fail
    refine (tk_rs HE.out 5 { data := #[104, 97, 115] } rfl (by omega) (by omega) w σ HS.out HO.out).mono ?_
    rintro e v0 ⟨q0, rfl, hq0, h0⟩
    have HS0 : Hid (RS (tkF f n) (tkPos f n) m w0 (.slice a n c) (p - dl σ) v0 (tkP (tkF f n) (tkPos f n) 5 σ)) := h0.more (by first | omega | (simp [dl]; done) | exact Nat.le_refl _)
    have HO0 : Hid (OkS (tkF f n) m (i0 + 1) (tkP (tkF f n) (tkPos f n) 5 σ)) := (HO.out.up (up_tk (A := (tkPos f n)) HL.out (c := 5) (by omega) (by omega) σ)).less (by omega)
    clear h0 hq0
    go_wp2_with fail
    refine (tk_rs HE.out 11 { data := #[40] } rfl (by omega) (by omega) v0 (tkP (tkF f n) (tkPos f n) 5 σ) HS0.out HO0.out).mono ?_
    rintro e v1 ⟨q1, rfl, hq1, h1⟩
    have HS1 : Hid (RS (tkF f n) (tkPos f n) m w0 (.slice a n c) (p - dl σ) v1 (tkP (tkF f n) (tkPos f n) 11 (tkP (tkF f n) (tkPos f n) 5 σ))) := h1.more (by omega)
    have HO1 : Hid (OkS (tkF f n) m (i0 + 1) (tkP (tkF f n) (tkPos f n) 11 (tkP (tkF f n) (tkPos f n) 5 σ))) := (HO0.out.up (up_tk (A := (tkPos f n)) HL.out (c := 11) (by omega) (by omega) (tkP (tkF f n) (tkPos f n) 5 σ))).less (by omega)
    clear h1 hq1
    go_wp2_with fail
    refine (tk_rs HE.out 14 { data := #[83, 84, 82] } rfl (by omega) (by omega) v1 (tkP (tkF f n) (tkPos f n) 11 (tkP (tkF f n) (tkPos f n) 5 σ)) HS1.out HO1.out).mono ?_
    rintro e v2 ⟨q2, rfl, hq2, h2⟩
    have HS2 : Hid (RS (tkF f n) (tkPos f n) m w0 (.slice a n c) (p - dl σ) v2 (tkP (tkF f n) (tkPos f n) 14 (tkP (tkF f n) (tkPos f n) 11 (tkP (tkF f n) (tkPos f n) 5 σ)))) := h2.more (by omega)
    have HO2 : Hid (OkS (tkF f n) m (i0 + 1) (tkP (tkF f n) (tkPos f n) 14 (tkP (tkF f n) (tkPos f n) 11 (tkP (tkF f n) (tkPos f n) 5 σ)))) := (HO1.out.up (up_tk (A := (tkPos f n)) HL.out (c := 14) (by omega) (by omega) (tkP (tkF f n) (tkPos f n) 11 (tkP (tkF f n) (tkPos f n) 5 σ)))).less (by omega)
    have HQ2 : Hid (q2 = tkQ (tkF f n) (tkP (tkF f n) (tkPos f n) 11 (tkP (tkF f n) (tkPos f n) 5 σ))) := hq2 rfl
    clear h2 hq2
    go_wp2_with fail
    refine (tk_rs HE.out 13 { data := #[44] } rfl (by omega) (by omega) v2 (tkP (tkF f n) (tkPos f n) 14 (tkP (tkF f n) (tkPos f n) 11 (tkP (tkF f n) (tkPos f n) 5 σ))) HS2.out HO2.out).mono ?_
    rintro e v3 ⟨q3, rfl, hq3, h3⟩
    have HS3 : Hid (RS (tkF f n) (tkPos f n) m w0 (.slice a n c) (p - dl σ) v3 (tkP (tkF f n) (tkPos f n) 13 (tkP (tkF f n) (tkPos f n) 14 (tkP (tkF f n) (tkPos f n) 11 (tkP (tkF f n) (tkPos f n) 5 σ))))) := h3.more (by omega)
    have HO3 : Hid (OkS (tkF f n) m (i0 + 1) (tkP (tkF f n) (tkPos f n) 13 (tkP (tkF f n) (tkPos f n) 14 (tkP (tkF f n) (tkPos f n) 11 (tkP (tkF f n) (tkPos f n) 5 σ))))) := (HO2.out.up (up_tk (A := (tkPos f n)) HL.out (c := 13) (by omega) (by omega) (tkP (tkF f n) (tkPos f n) 14 (tkP (tkF f n) (tkPos f n) 11 (tkP (tkF f n) (tkPos f n) 5 σ))))).less (by omega)
    clear h3 hq3
    go_wp2_with fail
    refine (tk_rs HE.out 14 { data := #[83, 84, 82] } rfl (by omega) (by omega) v3 (tkP (tkF f n) (tkPos f n) 13 (tkP (tkF f n) (tkPos f n) 14 (tkP (tkF f n) (tkPos f n) 11 (tkP (tkF f n) (tkPos f n) 5 σ)))) HS3.out HO3.out).mono ?_
    rintro e v4 ⟨q4, rfl, hq4, h4⟩
    have HS4 : Hid (RS (tkF f n) (tkPos f n) m w0 (.slice a n c) (p - dl σ) v4 (tkP (tkF f n) (tkPos f n) 14 (tkP (tkF f n) (tkPos f n) 13 (tkP (tkF f n) (tkPos f n) 14 (tkP (tkF f n) (tkPos f n) 11 (tkP (tkF f n) (tkPos f n) 5 σ)))))) := h4.more (by omega)
    have HO4 : Hid (OkS (tkF f n) m (i0 + 1) (tkP (tkF f n) (tkPos f n) 14 (tkP (tkF f n) (tkPos f n) 13 (tkP (tkF f n) (tkPos f n) 14 (tkP (tkF f n) (tkPos f n) 11 (tkP (tkF f n) (tkPos f n) 5 σ)))))) := (HO3.out.up (up_tk (A := (tkPos f n)) HL.out (c := 14) (by omega) (by omega) (tkP (tkF f n) (tkPos f n) 13 (tkP (tkF f n) (tkPos f n) 14 (tkP (tkF f n) (tkPos f n) 11 (tkP (tkF f n) (tkPos f n) 5 σ)))))).less (by omega)
    have HQ4 : Hid (q4 = tkQ (tkF f n) (tkP (tkF f n) (tkPos f n) 13 (tkP (tkF f n) (tkPos f n) 14 (tkP (tkF f n) (tkPos f n) 11 (tkP (tkF f n) (tkPos f n) 5 σ))))) := hq4 rfl
    clear h4 hq4
    go_wp2_with fail
    refine (tk_rs HE.out 12 { data := #[41] } rfl (by omega) (by omega) v4 (tkP (tkF f n) (tkPos f n) 14 (tkP (tkF f n) (tkPos f n) 13 (tkP (tkF f n) (tkPos f n) 14 (tkP (tkF f n) (tkPos f n) 11 (tkP (tkF f n) (tkPos f n) 5 σ))))) HS4.out HO4.out).mono ?_
    rintro e v5 ⟨q5, rfl, hq5, h5⟩
    have HS5 : Hid (RS (tkF f n) (tkPos f n) m w0 (.slice a n c) (p - dl σ) v5 (tkP (tkF f n) (tkPos f n) 12 (tkP (tkF f n) (tkPos f n) 14 (tkP (tkF f n) (tkPos f n) 13 (tkP (tkF f n) (tkPos f n) 14 (tkP (tkF f n) (tkPos f n) 11 (tkP (tkF f n) (tkPos f n) 5 σ))))))) := h5.more (by omega)
    have HO5 : Hid (OkS (tkF f n) m (i0 + 1) (tkP (tkF f n) (tkPos f n) 12 (tkP (tkF f n) (tkPos f n) 14 (tkP (tkF f n) (tkPos f n) 13 (tkP (tkF f n) (tkPos f n) 14 (tkP (tkF f n) (tkPos f n) 11 (tkP (tkF f n) (tkPos f n) 5 σ))))))) := (HO4.out.up (up_tk (A := (tkPos f n)) HL.out (c := 12) (by omega) (by omega) (tkP (tkF f n) (tkPos f n) 14 (tkP (tkF f n) (tkPos f n) 13 (tkP (tkF f n) (tkPos f n) 14 (tkP (tkF f n) (tkPos f n) 11 (tkP (tkF f n) (tkPos f n) 5 σ))))))).less (by omega)
    clear h5 hq5
    go_wp2_with fail
    refine (emit_rs HS5.out (by omega) ⟨5, tkQ (tkF f n) (tkP (tkF f n) (tkPos f n) 11 (tkP (tkF f n) (tkPos f n) 5 σ)), tkQ (tkF f n) (tkP (tkF f n) (tkPos f n) 13 (tkP (tkF f n) (tkPos f n) 14 (tkP (tkF f n) (tkPos f n) 11 (tkP (tkF f n) (tkPos f n) 5 σ))))⟩ 5 (strT q2) (strT q4) rfl (fun _ => by rw [HQ2.out]) (fun _ => by rw [HQ4.out]) ⟨_, _, rfl, rfl⟩).mono ?_
    rintro e w1 ⟨rfl, h1⟩
    have GL : Hid (RS (tkF f n) (tkPos f n) m w0 (.slice a n c) (p - dl σ + 1) w1 (moveF (tkF f n) (tkPos f n) σ)) := by show RS _ _ _ _ _ _ _ _; rw [HM.out]; exact h1
    clear h1
    go_wp2
    refine bodyPost_end (v := .tuple #[]) (by simp [results, Try.results151, go_sem]) rfl ⟨rfl, GL.out⟩
  have HM : Hid (moveF (tkF f n) (tkPos f n) σ = callF (tkF f n) (tkPos f n) 3 σ) := by show _ = _; unfold moveF; rw [if_neg h4, if_neg h5]
  obtain ⟨n4, n4'⟩ := kdW_no [105, 110] (k := 4) rfl h15 (by omega) h4
  obtain ⟨n5, n5'⟩ := kdW_no [104, 97, 115] (k := 5) rfl h15 (by omega) h5
  generalize kdW (kdS (tkF f n) σ) = K at *
  clear h4 h5 h15
  go_enter Try.func151, Try.ntmps151
  go_wp2_with fail
  refine (call_rs HE.out HL.out 3 _ rfl (by omega) (by omega) w p i0 hp σ HS.out HO.out).mono ?_
  rintro e w1 ⟨rfl, h1⟩
  have GL : Hid (RS (tkF f n) (tkPos f n) m w0 (.slice a n c) (p - dl σ + 1) w1 (moveF (tkF f n) (tkPos f n) σ)) := by show RS _ _ _ _ _ _ _ _; rw [HM.out]; exact h1
  clear h1
  go_wp2
  refine bodyPost_end (v := .tuple #[]) (by simp [results, Try.results151, go_sem]) rfl ⟨rfl, GL.out⟩
set_option maxHeartbeats 1000000 in
theorem inner_rs (E : Env w0 a n c f) (hl : LastK (tkF f n) m) (rec : (Nat × Nat × List Nd) ⊕ (Int × Int) → (Nat × Nat × List Nd) ⊕ (Int × Int)) (hr : ∀ σ, Up (tkF f n) m 0 σ (rec σ)) (i0 : Nat) (hrec : (∀ W p' s, i0 < s.1 → Okk (tkF f n) m s → p' ≤ 9000 → RS (tkF f n) (tkPos f n) m w0 (.slice a n c) p' W (.inl s) → Calls Try.prog 55 #[.pointer (some ⟨w0.heap.size, 0, none⟩)] W (FRet (tkF f n) (tkPos f n) m w0 (.slice a n c) p' (rec (.inl s))))) (w : World) (p : Nat) (hp : p ≤ 9000) (σ : (Nat × Nat × List Nd) ⊕ (Int × Int)) (h : RS (tkF f n) (tkPos f n) m w0 (.slice a n c) p w σ) (hok : OkS (tkF f n) m i0 σ) :
    Calls Try.prog 168 #[.pointer (some ⟨w0.heap.size, 0, none⟩)] w (FRet (tkF f n) (tkPos f n) m w0 (.slice a n c) p (innerF (tkF f n) (tkPos f n) rec σ)) := by
  have HE : Hid (Env w0 a n c f) := E
  have HL : Hid (LastK (tkF f n) m) := hl
  have HS : Hid (RS (tkF f n) (tkPos f n) m w0 (.slice a n c) p w σ) := h
  have HO : Hid (OkS (tkF f n) m i0 σ) := hok
  have HREC : Hid (∀ W p' s, i0 < s.1 → Okk (tkF f n) m s → p' ≤ 9000 → RS (tkF f n) (tkPos f n) m w0 (.slice a n c) p' W (.inl s) → Calls Try.prog 55 #[.pointer (some ⟨w0.heap.size, 0, none⟩)] W (FRet (tkF f n) (tkPos f n) m w0 (.slice a n c) p' (rec (.inl s)))) := hrec
  have HUP : Hid (∀ σ, Up (tkF f n) m 0 σ (rec σ)) := hr
  clear h hok E hl hrec hr
  go_enter Try.func168, Try.ntmps168
  go_wp2_with fail
  refine (tk_rs HE.out 11 { data := #[40] } rfl (by omega) (by omega) w σ HS.out HO.out).mono ?_
  rintro e w1 ⟨q1, rfl, _, h1⟩
  have HS1 : Hid (RS (tkF f n) (tkPos f n) m w0 (.slice a n c) p w1 (tkP (tkF f n) (tkPos f n) 11 σ)) := h1.more (by omega)
  have HO1 : Hid (OkS (tkF f n) m (i0 + 1) (tkP (tkF f n) (tkPos f n) 11 σ)) := HO.out.up (up_tk (A := (tkPos f n)) HL.out (c := 11) (by omega) (by omega) σ)
  clear h1
  obtain ⟨σ1, hσ1⟩ : ∃ σ1, σ1 = (tkP (tkF f n) (tkPos f n) 11 σ) := ⟨_, rfl⟩
  have HI : Hid (innerF (tkF f n) (tkPos f n) rec σ = tkP (tkF f n) (tkPos f n) 12 (recF rec σ1)) := by show _ = _; rw [hσ1]; rfl
  rw [← hσ1] at HS1 HO1
  clear hσ1
  have hlt := HS1.out.bel.2
  cases σ1 with
  | inl s =>
    have c7 : w1.cell? ⟨w0.heap.size, 7, none⟩ = some (.int .i64 0) := by
      obtain ⟨vn, g1, _⟩ := HS1.out
      exact g1.cells.2.2.2.2.2.2.2.1
    have HP : Hid (Calls Try.prog 55 #[.pointer (some ⟨w0.heap.size, 0, none⟩)] w1 (FRet (tkF f n) (tkPos f n) m w0 (.slice a n c) p (rec (.inl s)))) := HREC.out w1 p s (by have := (HO1.out s rfl).2; omega) (HO1.out s rfl).1 hp HS1.out
    have HO2 : Hid (OkS (tkF f n) m (i0 + 1) (rec (.inl s))) := HO1.out.up (HUP.out _)
    clear HREC HUP
    go_wp2_with fail
    refine HP.out.mono ?_
    rintro e w2 ⟨rfl, h2⟩
    have HS2 : Hid (RS (tkF f n) (tkPos f n) m w0 (.slice a n c) p w2 (rec (.inl s))) := h2
    clear h2 HP c7
    go_wp2_with fail
    refine (tk_rs HE.out 12 { data := #[41] } rfl (by omega) (by omega) w2 (rec (.inl s)) HS2.out HO2.out).mono ?_
    rintro e w3 ⟨q3, rfl, _, h3⟩
    have GL : Hid (RS (tkF f n) (tkPos f n) m w0 (.slice a n c) p w3 (innerF (tkF f n) (tkPos f n) rec σ)) := by show RS _ _ _ _ _ _ _ _; rw [HI.out]; exact h3.more (by omega)
    clear h3
    go_wp2
    refine bodyPost_end (v := .tuple #[]) (by simp [results, Try.results168, go_sem]) rfl ⟨rfl, GL.out⟩
  | inr x =>
    obtain ⟨e7, c7, n7⟩ : ∃ e : Int, w1.cell? ⟨w0.heap.size, 7, none⟩ = some (.int .i64 e) ∧ e ≠ 0 := by
      obtain ⟨bh, ta, mk, ct, vn, N, g1, _, g3⟩ := HS1.out
      exact ⟨_, g1.cells.2.2.2.2.2.2.2.1, g3⟩
    have n7' : (e7 == 0) = false := by simp [n7]
    clear HREC HUP
    go_wp2_with fail
    refine (tk_rs HE.out 12 { data := #[41] } rfl (by omega) (by omega) w1 (.inr x) HS1.out HO1.out).mono ?_
    rintro e w3 ⟨q3, rfl, _, h3⟩
    have GL : Hid (RS (tkF f n) (tkPos f n) m w0 (.slice a n c) p w3 (innerF (tkF f n) (tkPos f n) rec σ)) := by show RS _ _ _ _ _ _ _ _; rw [HI.out]; exact h3.more (by omega)
    clear h3
    go_wp2
    refine bodyPost_end (v := .tuple #[]) (by simp [results, Try.results168, go_sem]) rfl ⟨rfl, GL.out⟩
set_option maxHeartbeats 1000000 in
theorem prim_rs (E : Env w0 a n c f) (hl : LastK (tkF f n) m) (rec : (Nat × Nat × List Nd) ⊕ (Int × Int) → (Nat × Nat × List Nd) ⊕ (Int × Int)) (hr : ∀ σ, Up (tkF f n) m 0 σ (rec σ)) (i0 : Nat) (hrec : (∀ W p' s, i0 < s.1 → Okk (tkF f n) m s → p' ≤ 9000 → RS (tkF f n) (tkPos f n) m w0 (.slice a n c) p' W (.inl s) → Calls Try.prog 55 #[.pointer (some ⟨w0.heap.size, 0, none⟩)] W (FRet (tkF f n) (tkPos f n) m w0 (.slice a n c) p' (rec (.inl s))))) (w : World) (p : Nat) (hp : p ≤ 9000) (σ : (Nat × Nat × List Nd) ⊕ (Int × Int)) (h : RS (tkF f n) (tkPos f n) m w0 (.slice a n c) p w σ) (hok : OkS (tkF f n) m i0 σ) :
    Calls Try.prog 150 #[.pointer (some ⟨w0.heap.size, 0, none⟩)] w (FRet (tkF f n) (tkPos f n) m w0 (.slice a n c) p (primF (tkF f n) (tkPos f n) rec σ)) := by
  have HE : Hid (Env w0 a n c f) := E
  have HL : Hid (LastK (tkF f n) m) := hl
  have HS : Hid (RS (tkF f n) (tkPos f n) m w0 (.slice a n c) p w σ) := h
  have HO : Hid (OkS (tkF f n) m i0 σ) := hok
  have c2 := h.kind
  have hlt := h.bel.2
  have h15 := kdS_le f n σ
  have HIN : Hid (∀ W p' σ', p' ≤ 9000 → RS (tkF f n) (tkPos f n) m w0 (.slice a n c) p' W σ' → OkS (tkF f n) m i0 σ' → Calls Try.prog 168 #[.pointer (some ⟨w0.heap.size, 0, none⟩)] W (FRet (tkF f n) (tkPos f n) m w0 (.slice a n c) p' (innerF (tkF f n) (tkPos f n) rec σ'))) := fun W p' σ' q1 q2 q3 => inner_rs HE.out HL.out rec hr i0 hrec W p' q1 σ' q2 q3
  have HPP : Hid (kdS (tkF f n) σ ≠ 0 → 1 ≤ p ∧ dl σ = 1) := fun e => by
    obtain ⟨s, rfl⟩ := kdS_inl e
    exact ⟨HS.out.pos HO.out, rfl⟩
  clear h hok E hl hrec hr
  by_cases h1 : kdS (tkF f n) σ = 1
  · obtain ⟨p1, p2⟩ := HPP.out (by omega)
    have HM : Hid (primF (tkF f n) (tkPos f n) rec σ = emP ⟨1, [], []⟩ (tkP (tkF f n) (tkPos f n) 1 σ)) := by show _ = _; unfold primF; rw [if_pos h1]
    rw [h1] at c2
    have c2' : w.cell? ⟨w0.heap.size, 2, none⟩ = some (.string { data := #[97, 108, 108] }) := c2
    clear c2 h1 HIN
    go_enter Try.func150, Try.ntmps150
    go_wp2_with fail
    refine (tk_rs HE.out 1 { data := #[97, 108, 108] } rfl (by omega) (by omega) w σ HS.out HO.out).mono ?_
    rintro e v0 ⟨q0, rfl, hq0, h0⟩
    have HS0 : Hid (RS (tkF f n) (tkPos f n) m w0 (.slice a n c) (p - 1) v0 (tkP (tkF f n) (tkPos f n) 1 σ)) := h0.more (by first | omega | (simp [dl]; done) | exact Nat.le_refl _)
    have HO0 : Hid (OkS (tkF f n) m (i0 + 1) (tkP (tkF f n) (tkPos f n) 1 σ)) := (HO.out.up (up_tk (A := (tkPos f n)) HL.out (c := 1) (by omega) (by omega) σ)).less (by omega)
    clear h0 hq0
    go_wp2_with fail
    refine (emit_rs HS0.out (by omega) ⟨1, [], []⟩ 1 { data := #[] } { data := #[] } rfl (fun _ => rfl) (fun _ => rfl) ⟨[], [], rfl, rfl⟩).mono ?_
    rintro e w1 ⟨rfl, h1⟩
    have GL : Hid (RS (tkF f n) (tkPos f n) m w0 (.slice a n c) p w1 (primF (tkF f n) (tkPos f n) rec σ)) := by show RS _ _ _ _ _ _ _ _; rw [HM.out]; exact h1.more (by omega)
    clear h1
    go_wp2
    refine bodyPost_end (v := .tuple #[]) (by simp [results, Try.results150, go_sem]) rfl ⟨rfl, GL.out⟩
  by_cases h2 : kdS (tkF f n) σ = 2
  · obtain ⟨p1, p2⟩ := HPP.out (by omega)
    have HM : Hid (primF (tkF f n) (tkPos f n) rec σ = callF (tkF f n) (tkPos f n) 2 σ) := by show _ = _; unfold primF; rw [if_neg h1, if_pos h2]
    rw [h2] at c2
    have c2' : w.cell? ⟨w0.heap.size, 2, none⟩ = some (.string { data := #[118] }) := c2
    clear c2 h1 h2 HIN
    go_enter Try.func150, Try.ntmps150
    go_wp2_with fail
    refine (call_rs HE.out HL.out 2 _ rfl (by omega) (by omega) w p i0 hp σ HS.out HO.out).mono ?_
    rintro e w1 ⟨rfl, h1⟩
    have GL : Hid (RS (tkF f n) (tkPos f n) m w0 (.slice a n c) p w1 (primF (tkF f n) (tkPos f n) rec σ)) := by show RS _ _ _ _ _ _ _ _; rw [HM.out]; exact h1.more (by omega)
    clear h1
    go_wp2
    refine bodyPost_end (v := .tuple #[]) (by simp [results, Try.results150, go_sem]) rfl ⟨rfl, GL.out⟩
  by_cases h9 : kdS (tkF f n) σ = 9
  · obtain ⟨p1, p2⟩ := HPP.out (by omega)
    have HM : Hid (primF (tkF f n) (tkPos f n) rec σ = emP ⟨9, tkQ (tkF f n) (tkP (tkF f n) (tkPos f n) 9 σ), []⟩ (innerF (tkF f n) (tkPos f n) rec (tkP (tkF f n) (tkPos f n) 14 (tkP (tkF f n) (tkPos f n) 9 σ)))) := by show _ = _; unfold primF; rw [if_neg h1, if_neg h2, if_pos h9]
    rw [h9] at c2
    have c2' : w.cell? ⟨w0.heap.size, 2, none⟩ = some (.string { data := #[103, 114, 97, 112, 104] }) := c2
    clear c2 h1 h2 h9
    go_enter Try.func150, Try.ntmps150
    go_wp2_with fail
    refine (tk_rs HE.out 9 { data := #[103, 114, 97, 112, 104] } rfl (by omega) (by omega) w σ HS.out HO.out).mono ?_
    rintro e v0 ⟨q0, rfl, hq0, h0⟩
    have HS0 : Hid (RS (tkF f n) (tkPos f n) m w0 (.slice a n c) (p - 1) v0 (tkP (tkF f n) (tkPos f n) 9 σ)) := h0.more (by first | omega | (simp [dl]; done) | exact Nat.le_refl _)
    have HO0 : Hid (OkS (tkF f n) m (i0 + 1) (tkP (tkF f n) (tkPos f n) 9 σ)) := (HO.out.up (up_tk (A := (tkPos f n)) HL.out (c := 9) (by omega) (by omega) σ)).less (by omega)
    clear h0 hq0
    go_wp2_with fail
    refine (tk_rs HE.out 14 { data := #[83, 84, 82] } rfl (by omega) (by omega) v0 (tkP (tkF f n) (tkPos f n) 9 σ) HS0.out HO0.out).mono ?_
    rintro e v1 ⟨q1, rfl, hq1, h1⟩
    have HS1 : Hid (RS (tkF f n) (tkPos f n) m w0 (.slice a n c) (p - 1) v1 (tkP (tkF f n) (tkPos f n) 14 (tkP (tkF f n) (tkPos f n) 9 σ))) := h1.more (by omega)
    have HO1 : Hid (OkS (tkF f n) m (i0 + 1) (tkP (tkF f n) (tkPos f n) 14 (tkP (tkF f n) (tkPos f n) 9 σ))) := (HO0.out.up (up_tk (A := (tkPos f n)) HL.out (c := 14) (by omega) (by omega) (tkP (tkF f n) (tkPos f n) 9 σ))).less (by omega)
    have HQ1 : Hid (q1 = tkQ (tkF f n) (tkP (tkF f n) (tkPos f n) 9 σ)) := hq1 rfl
    clear h1 hq1
    go_wp2_with fail
    refine (HIN.out v1 (p - 1) (tkP (tkF f n) (tkPos f n) 14 (tkP (tkF f n) (tkPos f n) 9 σ)) (by omega) HS1.out (HO1.out.less (by omega))).mono ?_
    rintro e w5 ⟨rfl, h5⟩
    have HS5 : Hid (RS (tkF f n) (tkPos f n) m w0 (.slice a n c) (p - 1) w5 (innerF (tkF f n) (tkPos f n) rec (tkP (tkF f n) (tkPos f n) 14 (tkP (tkF f n) (tkPos f n) 9 σ)))) := h5
    clear h5 HIN
    go_wp2_with fail
    refine (emit_rs HS5.out (by omega) ⟨9, tkQ (tkF f n) (tkP (tkF f n) (tkPos f n) 9 σ), []⟩ 9 (strT q1) { data := #[] } rfl (fun _ => by rw [HQ1.out]) (fun _ => rfl) ⟨_, [], rfl, rfl⟩).mono ?_
    rintro e w1 ⟨rfl, h1⟩
    have GL : Hid (RS (tkF f n) (tkPos f n) m w0 (.slice a n c) p w1 (primF (tkF f n) (tkPos f n) rec σ)) := by show RS _ _ _ _ _ _ _ _; rw [HM.out]; exact h1.more (by omega)
    clear h1
    go_wp2
    refine bodyPost_end (v := .tuple #[]) (by simp [results, Try.results150, go_sem]) rfl ⟨rfl, GL.out⟩
  have HM : Hid (primF (tkF f n) (tkPos f n) rec σ = innerF (tkF f n) (tkPos f n) rec σ) := by show _ = _; unfold primF; rw [if_neg h1, if_neg h2, if_neg h9]
  obtain ⟨n1, n1'⟩ := kdW_no [97, 108, 108] (k := 1) rfl h15 (by omega) h1
  obtain ⟨n2, n2'⟩ := kdW_no [118] (k := 2) rfl h15 (by omega) h2
  obtain ⟨n9, n9'⟩ := kdW_no [103, 114, 97, 112, 104] (k := 9) rfl h15 (by omega) h9
  generalize kdW (kdS (tkF f n) σ) = K at *
  clear h1 h2 h9 h15
  go_enter Try.func150, Try.ntmps150
  go_wp2_with fail
  refine (HIN.out w p σ hp HS.out HO.out).mono ?_
  rintro e w1 ⟨rfl, h1⟩
  have GL : Hid (RS (tkF f n) (tkPos f n) m w0 (.slice a n c) p w1 (primF (tkF f n) (tkPos f n) rec σ)) := by show RS _ _ _ _ _ _ _ _; rw [HM.out]; exact h1
  clear h1
  go_wp2
  refine bodyPost_end (v := .tuple #[]) (by simp [results, Try.results150, go_sem]) rfl ⟨rfl, GL.out⟩
end
end Go.Proofs.Ytocmbnocdjnfpaa
