import Derived.Test.YtocmbnocdjnfpaaNl1
import Derived.Test.YtocmbnocdjnfpaaQaD
import Derived.Test.YtocmbnocdjnfpaaNm1
import Derived.Test.YtocmbnocdjnfpaaQbD
namespace Go.Proofs.Ytocmbnocdjnfpaa
open Go.RowKit Go.Deep
set_option linter.unusedVariables false
set_option linter.unusedSimpArgs false
set_option maxRecDepth 100000

theorem tkA_end {f : Nat → Int} {n p : Nat} (h : n ≤ p) : tkA f n p = ⟨15, [], p⟩ := by unfold tkA; rw [if_pos h]
theorem tkA_quo0 {f : Nat → Int} {n p : Nat} (h : p < n) (h1 : f p = 34) (h2 : quoF f n (p + 1) [] = none) : tkA f n p = ⟨0, [], p⟩ := by unfold tkA; rw [if_neg (by omega), if_pos h1, h2]
theorem tkA_quo {f : Nat → Int} {n p k : Nat} {q : List Int} (h : p < n) (h1 : f p = 34) (h2 : quoF f n (p + 1) [] = some (q, k)) : tkA f n p = ⟨14, q, k⟩ := by unfold tkA; rw [if_neg (by omega), if_pos h1, h2]
theorem isLt_iff (x : Int) : isLt x = true ↔ 97 ≤ x ∧ x ≤ 122 := by unfold isLt; simp
theorem tkA_word0 {f : Nat → Int} {n p : Nat} (h : p < n) (h1 : 97 ≤ f p ∧ f p ≤ 122) (h2 : cdW (seg f p (endF isLt f n p)) = 0) : tkA f n p = ⟨0, [], p⟩ := by
  unfold tkA; rw [if_neg (by omega), if_neg (by omega), if_pos ((isLt_iff _).2 h1), if_pos h2]
theorem tkA_word {f : Nat → Int} {n p : Nat} (h : p < n) (h1 : 97 ≤ f p ∧ f p ≤ 122) (h2 : cdW (seg f p (endF isLt f n p)) ≠ 0) : tkA f n p = ⟨cdW (seg f p (endF isLt f n p)), [], endF isLt f n p⟩ := by
  unfold tkA; rw [if_neg (by omega), if_neg (by omega), if_pos ((isLt_iff _).2 h1), if_neg h2]
theorem tkA_sym0 {f : Nat → Int} {n p : Nat} (h : p < n) (h0 : f p ≠ 34) (h1 : ¬ (97 ≤ f p ∧ f p ≤ 122)) (h2 : cdS (f p) = 0) : tkA f n p = ⟨0, [], p⟩ := by
  unfold tkA; rw [if_neg (by omega), if_neg h0, if_neg (fun e => h1 ((isLt_iff _).1 e)), if_pos h2]
theorem tkA_sym {f : Nat → Int} {n p : Nat} (h : p < n) (h0 : f p ≠ 34) (h1 : ¬ (97 ≤ f p ∧ f p ≤ 122)) (h2 : cdS (f p) ≠ 0) : tkA f n p = ⟨cdS (f p), [], p + 1⟩ := by
  unfold tkA; rw [if_neg (by omega), if_neg h0, if_neg (fun e => h1 ((isLt_iff _).1 e)), if_neg h2]
theorem endSp_at {f : Nat → Int} {n i : Nat} (h : ¬ f i = 32) : endF isSp f n i = i := endF_stop (fun e => h (by have := e.2; unfold isSp at this; simpa using this))
theorem endSp_go {f : Nat → Int} {n i : Nat} (hi : i < n) (h : f i = 32) : endF isSp f n i = endF isSp f n (i + 1) := endF_go hi (by unfold isSp; simpa using h)
theorem cdW_kd {q : List Int} (h : cdW q ≠ 0) : kdT (cdW q) = 1 ∧ wdS (cdW q) = strT q ∧ cdW q ≠ 14 ∧ cdW q ≠ 15 := by
  unfold cdW at h ⊢
  split
  · rename_i e; subst e; exact ⟨rfl, rfl, by decide, by decide⟩
  · split
    · rename_i e; subst e; exact ⟨rfl, rfl, by decide, by decide⟩
    · split
      · rename_i e; subst e; exact ⟨rfl, rfl, by decide, by decide⟩
      · split
        · rename_i e; subst e; exact ⟨rfl, rfl, by decide, by decide⟩
        · split
          · rename_i e; subst e; exact ⟨rfl, rfl, by decide, by decide⟩
          · split
            · rename_i e; subst e; exact ⟨rfl, rfl, by decide, by decide⟩
            · rename_i h1 h2 h3 h4 h5 h6
              rw [if_neg h1, if_neg h2, if_neg h3, if_neg h4, if_neg h5, if_neg h6] at h
              exact absurd rfl h
theorem cdS_ne {x : Int} (h : cdS x ≠ 0) : x = 46 ∨ x = 40 ∨ x = 41 ∨ x = 44 ∨ x = 38 ∨ x = 124 ∨ x = 45 := by
  unfold cdS at h
  repeat (first | omega | split at h)
theorem seg_byt {f : Nat → Int} {n i j : Nat} (hf : ∀ i, i < n → 0 ≤ f i ∧ f i < 256) (hj : j ≤ n) : Byt (seg f i j) := by
  intro x hx
  unfold seg at hx
  obtain ⟨k, hk, rfl⟩ := List.mem_map.1 hx
  have := List.mem_range.1 hk
  exact hf _ (by omega)
theorem seg_lf (f : Nat → Int) (i j k : Nat) (h : k < j - i) : lf (seg f i j) k = f (i + k) := by
  unfold lf seg
  rw [List.getD_eq_getElem?_getD, List.getElem?_map, List.getElem?_range h]
  rfl

/-- A token's cells; the tokens'. -/
def tkC (t : Tok) (p : Nat) : List Value := [.int .i64 (kdT t.c), .string (txT t), .int .i64 (p : Int)]
def tkl (T : Nat → Tok) (A : Nat → Nat) (k : Nat) : List Value := (List.range k).flatMap (fun i => tkC (T i) (A i))
theorem tkl_succ (T : Nat → Tok) (A : Nat → Nat) (k : Nat) : tkl T A (k + 1) = tkl T A k ++ tkC (T k) (A k) := by
  unfold tkl
  rw [List.range_succ, List.flatMap_append]
  simp
theorem tkl_length (T : Nat → Tok) (A : Nat → Nat) : ∀ k, (tkl T A k).length = k * 3
  | 0 => rfl
  | k + 1 => by rw [tkl_succ, List.length_append, tkl_length T A k]; show k * 3 + 3 = _; omega
theorem tkl_get (T : Nat → Tok) (A : Nat → Nat) : ∀ k i j, i < k → j < 3 → (tkl T A k)[i * 3 + j]? = (tkC (T i) (A i))[j]?
  | 0, i, j, h, _ => absurd h (Nat.not_lt_zero _)
  | k + 1, i, j, h, hj => by
    rw [tkl_succ]
    by_cases e : i = k
    · subst e
      rw [List.getElem?_append_right (by rw [tkl_length]; omega), tkl_length, Nat.add_sub_cancel_left]
    · rw [List.getElem?_append_left (by rw [tkl_length]; omega)]
      exact tkl_get T A k i j (by omega) hj
def TkA (w : World) (B : Nat) (v : Value) (k : Nat) (T : Nat → Tok) (A : Nat → Nat) : Prop := w.ownsRow B 144 3 v k (tkl T A k)
theorem TkA.below {w w' : World} {B : Nat} {v : Value} {k : Nat} {T : Nat → Tok} {A : Nat → Nat} (h : TkA w B v k T A) (hb : Below w.heap.size w w') : TkA w' B v k T A := plS_below h hb
theorem new_cellsN (w : World) (cs : List Value) (t : TypeId) (b : Nat) (hb : w.heap.size = b) : ∀ j u, cs[j]? = some u → (w.alloc (.cells cs.toArray t)).cell? (Addr.add ⟨b, 0, none⟩ j) = some u := by
  subst hb
  exact new_cells w cs t
/-- A token appended. -/
theorem app_tk {w : World} {ops : Array Oper} {rest : List Oper} {o : Oper} {act : Act} {Q : Exit → Act → World → Prop} (hgd : o.guard = none) (s x : Operand)
    (ho : o.op = .call { callee := .builtin .append, args := #[s, x], argTypes := #[88, 88] })
    (B : Nat) (v : Value) (k : Nat) {T : Nat → Tok} {A : Nat → Nat} (hs : act.eval s = v) (hown : TkA w B v k T A) (g : Nat) (hx : act.eval x = .slice (some ⟨g, 0, none⟩) 1 1)
    (cs : List Value) (hcs : tkC (T k) (A k) = cs) (hrd : ∀ j u, cs[j]? = some u → w.cell? (Addr.add ⟨g, 0, none⟩ j) = some u) (hl : k ≤ 1048576) (hB : B ≤ w.heap.size)
    (h : ∀ v' w', TkA w' B v' (k + 1) T A → Below B w w' → wpList Try.prog ops Q rest (act.put o.dst v') w') : wpList Try.prog ops Q (o :: rest) act w := by
  obtain ⟨i0, hi, hz0, hz1, hz2⟩ := info_parts infoTK
  subst hcs
  refine wpList_append_own_at w hgd s x 88 ho B 144 i0 _ 3 32 Try.underlying88 hi hz0 hz1 hz2 rfl (by decide) v k (tkl T A k) hs hown ⟨g, 0, none⟩ 1 1 (tkC (T k) (A k)) hx rfl hrd (fun u hu => by simp [tkC] at hu; rcases hu with rfl | rfl | rfl <;> rfl) (by unfold maxLen; omega) (by omega) hB (fun v' w' h1 h2 _ _ => h v' w' ?_ ((Below.refl _ _).grown h2 hB (fun b e => (hown.lt b e).1)))
  unfold TkA
  rw [tkl_succ]
  exact h1

/-- What l6Lex gives back. -/
def LexRet (f : Nat → Int) (n : Nat) (w : World) (e : Ending) (w' : World) : Prop :=
  ∃ g m c, e = .returned (.slice (some ⟨g, 0, none⟩) m c) ∧ m ≤ n + 1 ∧ RdK w' g m (tkF f n) (tkPos f n) ∧ LastK (tkF f n) m ∧ Below w.heap.size w w'
theorem TkA.ret {f : Nat → Int} {n k B : Nat} {w w' : World} {v : Value} (h : TkA w' B v (k + 1) (tkF f n) (tkPos f n)) (hk : k ≤ n) (hc : (tkF f n k).c = 0 ∨ (tkF f n k).c = 15) (hb : Below w.heap.size w w') : LexRet f n w (.returned v) w' := by
  obtain ⟨h0, ⟨_, h1⟩ | ⟨g, cap, cur, e, hg, hh, h1, h2, h3, h4⟩⟩ := h
  · omega
  · subst e
    refine ⟨g, k + 1, cap, rfl, by omega, fun i hi => ?_, ⟨by omega, by rw [Nat.add_sub_cancel]; exact hc⟩, hb⟩
    have cell : ∀ j, j < 3 → w'.cell? ⟨g, i * 3 + j, none⟩ = (tkC (tkF f n i) (tkPos f n i))[j]? := by
      intro j hj
      rw [← tkl_get _ _ (k + 1) i j hi hj, ← h4]
      unfold World.cell?
      rw [hh, List.getElem?_take, if_pos (by omega)]
      simp
    exact ⟨cell 0 (by omega), cell 1 (by omega), cell 2 (by omega)⟩
/-- The lexer's loop. -/
structure LexI (f : Nat → Int) (n : Nat) (w : World) (u : Value) (i k : Nat) (wr : World) : Prop where
  le : i ≤ n
  pos : endF isSp f n i = tkPos f n k
  ki : k ≤ i
  row : TkA wr w.heap.size u k (tkF f n) (tkPos f n)
  bel : Below w.heap.size w wr
theorem LexI.next {f : Nat → Int} {n : Nat} {w wr wq : World} {u v : Value} {i k j : Nat} (h : LexI f n w u i k wr) (hp : tkPos f n k = i) (he : (tkF f n k).e = j) (hj : i < j) (hjn : j ≤ n) (hr : TkA wq w.heap.size v (k + 1) (tkF f n) (tkPos f n)) (hb : Below w.heap.size w wq) : LexI f n w v j (k + 1) wq :=
  ⟨hjn, by rw [← he]; rfl, by have := h.ki; omega, hr, hb⟩
theorem run_sl (b off n c i j : Nat) (h1 : i < j) (h2 : j ≤ n) (h3 : n ≤ c) (hc : c ≤ 9223372036854775807) (w : World) : (Instr.sliceAt 33 (.slice (some ⟨b, off, none⟩) n c) (some (.int .i64 (i : Int))) (some (.int .i64 (j : Int))) none).run Try.prog w = .ok (.slice (some ⟨b, off + i, none⟩) (j - i) (c - i)) w := by
  simp [Instr.sliceAt, Instr.slice, go_sem]
  have e1 : j ≤ c := by omega
  have e2 : ¬ c = i := by omega
  simp [e1, e2, Addr.add]
  omega
theorem conv_sl {w : World} (b off n c i j : Nat) (f : Nat → Int) (h1 : i < j) (h2 : j ≤ n) (hc : ∀ k, k < n → w.cell? ⟨b, off + k, none⟩ = some (.int .u8 (f k))) : (convert 33 9 (.slice (some ⟨b, off + i, none⟩) (j - i) (c - i))).run Try.prog w = .ok (.string (strT (seg f i j))) w := by
  refine conv_T (j - i) (c - i) (seg_length f i j).symm (.inr ⟨b, off + i, rfl, fun k hk => ?_⟩)
  rw [seg_lf f i j k hk, Nat.add_assoc]
  exact hc _ (by omega)

set_option maxHeartbeats 4000000 in
theorem l6Lex_any (a : Option Addr) (n c : Nat) (f : Nat → Int) (w : World) (h : Rd .u8 w a n f) (hn : n ≤ 2000) (hnc : n ≤ c) (hcm : c ≤ 9223372036854775807) (hf : ∀ i, i < n → 0 ≤ f i ∧ f i < 256) :
    Calls Try.prog 58 #[.slice a n c] w (LexRet f n w) := by
  have HR : Hid (Rd .u8 w a n f) := h
  have HFB : Hid (∀ i, i < n → 0 ≤ f i ∧ f i < 256) := hf
  clear h hf
  go_enter Try.func58, Try.ntmps58
  go_wp2
  go_loopw [3, 4] (fun u v wr => ∃ i k : Nat, v = .int .i64 (i : Int) ∧ LexI f n w u i k wr) (fun _ v _ => n - (intOf v).toNat)
  case atStart => exact ⟨0, 0, rfl, ⟨Nat.zero_le _, rfl, Nat.le_refl _, World.ownsRow_lit w #[] 0 (Nat.le_refl _) (Nat.zero_le _) rfl, (Below.refl _ _).alloc (Nat.le_refl _) _⟩⟩
  case round =>
    obtain ⟨i, k, rfl, hI⟩ := hrel
    have HI : Hid (LexI f n w u3 i k wr) := hI
    have hi := hI.le
    have hk : k ≤ n := Nat.le_trans hI.ki hI.le
    have hsz := hI.bel.size
    clear hI
    by_cases hlt : i < n
    · obtain ⟨b, off, ea, hc⟩ : ∃ b off, a = some ⟨b, off, none⟩ ∧ ∀ i, i < n → w.cell? ⟨b, off + i, none⟩ = some (.int .u8 (f i)) := by
        rcases HR.out with h0 | ⟨b, off, e, hc⟩
        · omega
        · exact ⟨b, off, e, hc⟩
      subst ea
      have HCL : Hid (∀ W, Below w.heap.size w W → ∀ k, k < n → W.cell? ⟨b, off + k, none⟩ = some (.int .u8 (f k))) := fun W hW k hk => by
        rw [hW.cell (p := ⟨b, off + k, none⟩) (World.block_lt_of_cell? _ _ (hc k hk))]; exact hc k hk
      have hbs : b < w.heap.size := World.block_lt_of_cell? _ _ (hc i hlt)
      clear hc
      have ij : (i : Int) < (n : Int) := by omega
      have ij0 : ¬ (i : Int) < 0 := by omega
      have ij1 : (0 : Int) ≤ (i : Int) := by omega
      have ci := HCL.out wr HI.out.bel i hlt
      obtain ⟨i1, hi1⟩ : ∃ i1, i1 = i + 1 := ⟨_, rfl⟩
      have HI1 : Hid (i1 = i + 1) := hi1
      have w1 : IntKind.i64.wrap ((i : Int) + 1) = (i1 : Int) := by rw [IntKind.wrap_i64]; omega
      have hi1n : i1 ≤ n := by omega
      clear hi1
      obtain ⟨x, hx⟩ : ∃ x, x = f i := ⟨_, rfl⟩
      have HX : Hid (x = f i) := hx
      have hx0 : 0 ≤ x ∧ x < 256 := by rw [hx]; exact HFB.out i hlt
      obtain ⟨hx0, hx1⟩ := hx0
      rw [← hx] at ci
      clear hx
      have HPos : Hid (¬ x = 32 → tkPos f n k = i) := fun e => by rw [← HI.out.pos]; exact endSp_at (by rw [← HX.out]; exact e)
      by_cases hle : 97 ≤ x ∧ x ≤ 122
      · obtain ⟨g97, g122⟩ := hle
        have HP : Hid (tkPos f n k = i) := HPos.out (by omega)
        obtain ⟨wk, rfl⟩ : ∃ x, x = wr := ⟨_, rfl⟩
        go_wp2_with fail
        go_loopw [7] (fun v wz => ∃ j : Nat, v = .int .i64 (j : Int) ∧ i < j ∧ j ≤ n ∧ endF isLt f n i = endF isLt f n j ∧ Below wk.heap.size wk wz ∧ wk.heap.size < wz.heap.size ∧ wz.cell? ⟨wk.heap.size, 0, none⟩ = some (.int .i64 5) ∧ wz.cell? ⟨wk.heap.size, 1, none⟩ = some (.string { data := #[] }) ∧ wz.cell? ⟨wk.heap.size, 2, none⟩ = some (.int .i64 (i : Int))) (fun v _ => n - (intOf v).toNat)
        case atStart =>
          refine ⟨i1, rfl, by have := HI1.out; omega, hi1n, ?_, ?_, ?_, ?_, ?_, ?_⟩
          · rw [HI1.out]; exact endF_go hlt ((isLt_iff _).2 (by rw [← HX.out]; exact ⟨g97, g122⟩))
          · exact below_alloc _ _
          · simp
          · simp
          · simp
          · simp
        case round =>
          obtain ⟨j, rfl, hij, hjn, hje, hbz, hz, b0, b1, b2⟩ := hrel
          by_cases hjl : j < n
          · have jj : (j : Int) < (n : Int) := by omega
            have jj0 : ¬ (j : Int) < 0 := by omega
            have jj1 : (0 : Int) ≤ (j : Int) := by omega
            have cj := HCL.out wr (HI.out.bel.trans (hbz.mono hsz)) j hjl
            obtain ⟨y, hy⟩ : ∃ y, y = f j := ⟨_, rfl⟩
            have HY : Hid (y = f j) := hy
            rw [← hy] at cj
            clear hy
            by_cases y97 : 97 ≤ y
            · by_cases y122 : y ≤ 122
              · obtain ⟨j1, hj1⟩ : ∃ j1, j1 = j + 1 := ⟨_, rfl⟩
                have w2 : IntKind.i64.wrap ((j : Int) + 1) = (j1 : Int) := by rw [IntKind.wrap_i64]; omega
                have HJ1 : Hid (j1 = j + 1) := hj1
                have HR2 : Hid (endF isLt f n i = endF isLt f n j1 ∧ Below wk.heap.size wk wr) := ⟨by rw [hje, hj1]; exact endF_go hjl ((isLt_iff _).2 (by rw [← HY.out]; exact ⟨y97, y122⟩)), hbz⟩
                have HB3 : Hid (wr.cell? ⟨wk.heap.size, 0, none⟩ = some (.int .i64 5) ∧ wr.cell? ⟨wk.heap.size, 1, none⟩ = some (.string { data := #[] }) ∧ wr.cell? ⟨wk.heap.size, 2, none⟩ = some (.int .i64 (i : Int))) := ⟨b0, b1, b2⟩
                clear hj1 hje hbz
                go_wp2
                go_roundw
                case rel => exact ⟨j1, rfl, by have := HJ1.out; omega, by have := HJ1.out; omega, HR2.out.1, HR2.out.2, hz, HB3.out⟩
                case measure => have := HJ1.out; simp [intOf]; omega
              have d122 : decide (y ≤ 122) = false := decide_eq_false y122
              have hje' : endF isLt f n i = j := by rw [hje]; exact endF_stop (fun e => y122 (by rw [HY.out]; exact ((isLt_iff _).1 e.2).2))
              have HJ : Hid (endF isLt f n i = j) := hje'
              clear hje hje'
              have HBW : Hid (Below w.heap.size w wr) := HI.out.bel.trans (hbz.mono hsz)
              have HBZ : Hid (Below wk.heap.size wk wr) := hbz
              have hszw := HBW.out.size
              have hq := seg_byt (i := i) HFB.out hjn
              have cv := conv_sl (w := wr) b off n c i j f hij hjn (HCL.out wr HBW.out)
              have sl := run_sl b off n c i j hij hjn hnc hcm
              obtain ⟨ln, hln⟩ : ∃ ln, ln = j - i := ⟨_, rfl⟩
              obtain ⟨cp, hcp⟩ : ∃ cp, cp = c - i := ⟨_, rfl⟩
              rw [← hln, ← hcp] at cv sl
              clear hln hcp hbz
              have HWD : Hid (∀ W, Calls Try.prog 110 #[.string (strT (seg f i j))] W fun e w' => e = .returned (.bool (decide (cdW (seg f i j) ≠ 0))) ∧ w' = W) := fun W => l6Word_any _ hq W
              clear hq
              obtain ⟨X, hX⟩ : ∃ X, X = strT (seg f i j) := ⟨_, rfl⟩
              have HXX : Hid (X = strT (seg f i j)) := hX
              rw [← hX] at cv HWD
              clear hX
              go_wp2_with fail
              refine (HWD.out _).mono ?_
              rintro e w8 ⟨rfl, hw8⟩
              rw [hw8]
              clear hw8 w8
              by_cases hw : cdW (seg f i j) = 0
              · have HT : Hid (tkF f n k = ⟨0, [], i⟩) := by
                  show tkA f n (tkPos f n k) = _
                  rw [HP.out]
                  exact tkA_word0 hlt (by rw [← HX.out]; exact ⟨g97, g122⟩) (by rw [HJ.out]; exact hw)
                rw [decide_eq_false (fun e => e hw)]
                clear hw
                go_wp2_with (at_builtin; refine app_tk rfl _ _ rfl w.heap.size _ k rfl ((HI.out.row.below HBZ.out).below (below_alloc _ _)) wr.heap.size rfl [.int .i64 5, .string { data := #[] }, .int .i64 (i : Int)] (by rw [HT.out, HP.out]; rfl) (new_cells _ [.int .i64 5, .string { data := #[] }, .int .i64 (i : Int)] _) (by omega) (by simp; omega) ?_)
                intro v' wq hown' hgrow
                have HX2 : Hid (TkA wq w.heap.size v' (k + 1) (tkF f n) (tkPos f n) ∧ Below w.heap.size w wq) := ⟨hown', (HBW.out.alloc hszw _).trans hgrow⟩
                clear hown' hgrow
                go_wp2
                refine bodyPost_ret (v := v') (by simp [results, Try.results58, go_sem]) rfl ?_
                exact HX2.out.1.ret hk (by rw [HT.out]; exact .inl rfl) HX2.out.2
              · have HT : Hid (tkF f n k = ⟨cdW (seg f i j), [], j⟩) := by
                  show tkA f n (tkPos f n k) = _
                  rw [HP.out, tkA_word hlt (by rw [← HX.out]; exact ⟨g97, g122⟩) (by rw [HJ.out]; exact hw), HJ.out]
                have HK : Hid (kdT (cdW (seg f i j)) = 1 ∧ wdS (cdW (seg f i j)) = strT (seg f i j) ∧ cdW (seg f i j) ≠ 14) := ⟨(cdW_kd hw).1, (cdW_kd hw).2.1, (cdW_kd hw).2.2.1⟩
                have HC3 : Hid (tkC (tkF f n k) (tkPos f n k) = [.int .i64 1, .string X, .int .i64 (i : Int)]) := by
                  show _ = _
                  rw [HT.out, HP.out]
                  unfold tkC txT
                  show [Value.int .i64 (kdT (cdW (seg f i j))), Value.string (if cdW (seg f i j) = 14 then _ else wdS (cdW (seg f i j))), _] = _
                  rw [if_neg HK.out.2.2, HK.out.1, HK.out.2.1, HXX.out]
                rw [decide_eq_true hw]
                clear hw
                go_wp2_with (at_builtin; refine app_tk rfl _ _ rfl w.heap.size _ k rfl ((HI.out.row.below HBZ.out).below (below_alloc _ _)) wr.heap.size rfl [.int .i64 1, .string X, .int .i64 (i : Int)] HC3.out (new_cells _ [.int .i64 1, .string X, .int .i64 (i : Int)] _) (by omega) (by simp; omega) ?_)
                intro v' wq hown' hgrow
                have HX2 : Hid (TkA wq w.heap.size v' (k + 1) (tkF f n) (tkPos f n) ∧ Below w.heap.size w wq) := ⟨hown', (HBW.out.alloc hszw _).trans hgrow⟩
                clear hown' hgrow
                go_wp2
                go_roundw
                case rel => exact ⟨j, k + 1, rfl, HI.out.next HP.out (by rw [HT.out]) hij hjn HX2.out.1 HX2.out.2⟩
                case measure => simp [intOf]; omega
            have d97 : decide (97 ≤ y) = false := decide_eq_false y97
            have hje' : endF isLt f n i = j := by rw [hje]; exact endF_stop (fun e => y97 (by rw [HY.out]; exact ((isLt_iff _).1 e.2).1))
            have HJ : Hid (endF isLt f n i = j) := hje'
            clear hje hje'
            have HBW : Hid (Below w.heap.size w wr) := HI.out.bel.trans (hbz.mono hsz)
            have HBZ : Hid (Below wk.heap.size wk wr) := hbz
            have hszw := HBW.out.size
            have hq := seg_byt (i := i) HFB.out hjn
            have cv := conv_sl (w := wr) b off n c i j f hij hjn (HCL.out wr HBW.out)
            have sl := run_sl b off n c i j hij hjn hnc hcm
            obtain ⟨ln, hln⟩ : ∃ ln, ln = j - i := ⟨_, rfl⟩
            obtain ⟨cp, hcp⟩ : ∃ cp, cp = c - i := ⟨_, rfl⟩
            rw [← hln, ← hcp] at cv sl
            clear hln hcp hbz
            have HWD : Hid (∀ W, Calls Try.prog 110 #[.string (strT (seg f i j))] W fun e w' => e = .returned (.bool (decide (cdW (seg f i j) ≠ 0))) ∧ w' = W) := fun W => l6Word_any _ hq W
            clear hq
            obtain ⟨X, hX⟩ : ∃ X, X = strT (seg f i j) := ⟨_, rfl⟩
            have HXX : Hid (X = strT (seg f i j)) := hX
            rw [← hX] at cv HWD
            clear hX
            go_wp2_with fail
            refine (HWD.out _).mono ?_
            rintro e w8 ⟨rfl, hw8⟩
            rw [hw8]
            clear hw8 w8
            by_cases hw : cdW (seg f i j) = 0
            · have HT : Hid (tkF f n k = ⟨0, [], i⟩) := by
                show tkA f n (tkPos f n k) = _
                rw [HP.out]
                exact tkA_word0 hlt (by rw [← HX.out]; exact ⟨g97, g122⟩) (by rw [HJ.out]; exact hw)
              rw [decide_eq_false (fun e => e hw)]
              clear hw
              go_wp2_with (at_builtin; refine app_tk rfl _ _ rfl w.heap.size _ k rfl ((HI.out.row.below HBZ.out).below (below_alloc _ _)) wr.heap.size rfl [.int .i64 5, .string { data := #[] }, .int .i64 (i : Int)] (by rw [HT.out, HP.out]; rfl) (new_cells _ [.int .i64 5, .string { data := #[] }, .int .i64 (i : Int)] _) (by omega) (by simp; omega) ?_)
              intro v' wq hown' hgrow
              have HX2 : Hid (TkA wq w.heap.size v' (k + 1) (tkF f n) (tkPos f n) ∧ Below w.heap.size w wq) := ⟨hown', (HBW.out.alloc hszw _).trans hgrow⟩
              clear hown' hgrow
              go_wp2
              refine bodyPost_ret (v := v') (by simp [results, Try.results58, go_sem]) rfl ?_
              exact HX2.out.1.ret hk (by rw [HT.out]; exact .inl rfl) HX2.out.2
            · have HT : Hid (tkF f n k = ⟨cdW (seg f i j), [], j⟩) := by
                show tkA f n (tkPos f n k) = _
                rw [HP.out, tkA_word hlt (by rw [← HX.out]; exact ⟨g97, g122⟩) (by rw [HJ.out]; exact hw), HJ.out]
              have HK : Hid (kdT (cdW (seg f i j)) = 1 ∧ wdS (cdW (seg f i j)) = strT (seg f i j) ∧ cdW (seg f i j) ≠ 14) := ⟨(cdW_kd hw).1, (cdW_kd hw).2.1, (cdW_kd hw).2.2.1⟩
              have HC3 : Hid (tkC (tkF f n k) (tkPos f n k) = [.int .i64 1, .string X, .int .i64 (i : Int)]) := by
                show _ = _
                rw [HT.out, HP.out]
                unfold tkC txT
                show [Value.int .i64 (kdT (cdW (seg f i j))), Value.string (if cdW (seg f i j) = 14 then _ else wdS (cdW (seg f i j))), _] = _
                rw [if_neg HK.out.2.2, HK.out.1, HK.out.2.1, HXX.out]
              rw [decide_eq_true hw]
              clear hw
              go_wp2_with (at_builtin; refine app_tk rfl _ _ rfl w.heap.size _ k rfl ((HI.out.row.below HBZ.out).below (below_alloc _ _)) wr.heap.size rfl [.int .i64 1, .string X, .int .i64 (i : Int)] HC3.out (new_cells _ [.int .i64 1, .string X, .int .i64 (i : Int)] _) (by omega) (by simp; omega) ?_)
              intro v' wq hown' hgrow
              have HX2 : Hid (TkA wq w.heap.size v' (k + 1) (tkF f n) (tkPos f n) ∧ Below w.heap.size w wq) := ⟨hown', (HBW.out.alloc hszw _).trans hgrow⟩
              clear hown' hgrow
              go_wp2
              go_roundw
              case rel => exact ⟨j, k + 1, rfl, HI.out.next HP.out (by rw [HT.out]) hij hjn HX2.out.1 HX2.out.2⟩
              case measure => simp [intOf]; omega
          have jj : ¬ (j : Int) < (n : Int) := by omega
          have hje' : endF isLt f n i = j := by rw [hje]; exact endF_stop (fun e => hjl e.1)
          have HJ : Hid (endF isLt f n i = j) := hje'
          clear hje hje'
          have HBW : Hid (Below w.heap.size w wr) := HI.out.bel.trans (hbz.mono hsz)
          have HBZ : Hid (Below wk.heap.size wk wr) := hbz
          have hszw := HBW.out.size
          have hq := seg_byt (i := i) HFB.out hjn
          have cv := conv_sl (w := wr) b off n c i j f hij hjn (HCL.out wr HBW.out)
          have sl := run_sl b off n c i j hij hjn hnc hcm
          obtain ⟨ln, hln⟩ : ∃ ln, ln = j - i := ⟨_, rfl⟩
          obtain ⟨cp, hcp⟩ : ∃ cp, cp = c - i := ⟨_, rfl⟩
          rw [← hln, ← hcp] at cv sl
          clear hln hcp hbz
          have HWD : Hid (∀ W, Calls Try.prog 110 #[.string (strT (seg f i j))] W fun e w' => e = .returned (.bool (decide (cdW (seg f i j) ≠ 0))) ∧ w' = W) := fun W => l6Word_any _ hq W
          clear hq
          obtain ⟨X, hX⟩ : ∃ X, X = strT (seg f i j) := ⟨_, rfl⟩
          have HXX : Hid (X = strT (seg f i j)) := hX
          rw [← hX] at cv HWD
          clear hX
          go_wp2_with fail
          refine (HWD.out _).mono ?_
          rintro e w8 ⟨rfl, hw8⟩
          rw [hw8]
          clear hw8 w8
          by_cases hw : cdW (seg f i j) = 0
          · have HT : Hid (tkF f n k = ⟨0, [], i⟩) := by
              show tkA f n (tkPos f n k) = _
              rw [HP.out]
              exact tkA_word0 hlt (by rw [← HX.out]; exact ⟨g97, g122⟩) (by rw [HJ.out]; exact hw)
            rw [decide_eq_false (fun e => e hw)]
            clear hw
            go_wp2_with (at_builtin; refine app_tk rfl _ _ rfl w.heap.size _ k rfl ((HI.out.row.below HBZ.out).below (below_alloc _ _)) wr.heap.size rfl [.int .i64 5, .string { data := #[] }, .int .i64 (i : Int)] (by rw [HT.out, HP.out]; rfl) (new_cells _ [.int .i64 5, .string { data := #[] }, .int .i64 (i : Int)] _) (by omega) (by simp; omega) ?_)
            intro v' wq hown' hgrow
            have HX2 : Hid (TkA wq w.heap.size v' (k + 1) (tkF f n) (tkPos f n) ∧ Below w.heap.size w wq) := ⟨hown', (HBW.out.alloc hszw _).trans hgrow⟩
            clear hown' hgrow
            go_wp2
            refine bodyPost_ret (v := v') (by simp [results, Try.results58, go_sem]) rfl ?_
            exact HX2.out.1.ret hk (by rw [HT.out]; exact .inl rfl) HX2.out.2
          · have HT : Hid (tkF f n k = ⟨cdW (seg f i j), [], j⟩) := by
              show tkA f n (tkPos f n k) = _
              rw [HP.out, tkA_word hlt (by rw [← HX.out]; exact ⟨g97, g122⟩) (by rw [HJ.out]; exact hw), HJ.out]
            have HK : Hid (kdT (cdW (seg f i j)) = 1 ∧ wdS (cdW (seg f i j)) = strT (seg f i j) ∧ cdW (seg f i j) ≠ 14) := ⟨(cdW_kd hw).1, (cdW_kd hw).2.1, (cdW_kd hw).2.2.1⟩
            have HC3 : Hid (tkC (tkF f n k) (tkPos f n k) = [.int .i64 1, .string X, .int .i64 (i : Int)]) := by
              show _ = _
              rw [HT.out, HP.out]
              unfold tkC txT
              show [Value.int .i64 (kdT (cdW (seg f i j))), Value.string (if cdW (seg f i j) = 14 then _ else wdS (cdW (seg f i j))), _] = _
              rw [if_neg HK.out.2.2, HK.out.1, HK.out.2.1, HXX.out]
            rw [decide_eq_true hw]
            clear hw
            go_wp2_with (at_builtin; refine app_tk rfl _ _ rfl w.heap.size _ k rfl ((HI.out.row.below HBZ.out).below (below_alloc _ _)) wr.heap.size rfl [.int .i64 1, .string X, .int .i64 (i : Int)] HC3.out (new_cells _ [.int .i64 1, .string X, .int .i64 (i : Int)] _) (by omega) (by simp; omega) ?_)
            intro v' wq hown' hgrow
            have HX2 : Hid (TkA wq w.heap.size v' (k + 1) (tkF f n) (tkPos f n) ∧ Below w.heap.size w wq) := ⟨hown', (HBW.out.alloc hszw _).trans hgrow⟩
            clear hown' hgrow
            go_wp2
            go_roundw
            case rel => exact ⟨j, k + 1, rfl, HI.out.next HP.out (by rw [HT.out]) hij hjn HX2.out.1 HX2.out.2⟩
            case measure => simp [intOf]; omega
      by_cases h34 : x = 34
      · subst h34
        have HP : Hid (tkPos f n k = i) := HPos.out (by omega)
        have HF : Hid (∀ W, Below w.heap.size w W → Calls Try.prog 111 #[.slice (some ⟨b, off, none⟩) n c, .int .i64 (i : Int)] W (QRet f n i W)) := fun W hW => l6Quoted_any _ n c i f W (.inr ⟨b, off, rfl, HCL.out W hW⟩) hn hlt HFB.out
        obtain ⟨wk, rfl⟩ : ∃ x, x = wr := ⟨_, rfl⟩
        go_wp2_with fail
        refine (HF.out _ (HI.out.bel.alloc hsz _)).mono ?_
        rintro e wr ⟨ok, sx, kx, rfl, hb, hq⟩
        have HBW : Hid (Below w.heap.size w wr) := (HI.out.bel.alloc hsz _).trans (hb.mono (by simp; omega))
        have HBZ : Hid (Below wk.heap.size wk wr) := (below_alloc _ _).trans (hb.mono (by simp))
        have hszw := HBW.out.size
        have hz : wk.heap.size < wr.heap.size := by have := hb.size; simp at this; omega
        have b0 : wr.cell? ⟨wk.heap.size, 0, none⟩ = some (.int .i64 5) := by rw [hb.cell (p := ⟨wk.heap.size, 0, none⟩) (by simp)]; simp
        have b1 : wr.cell? ⟨wk.heap.size, 1, none⟩ = some (.string { data := #[] }) := by rw [hb.cell (p := ⟨wk.heap.size, 1, none⟩) (by simp)]; simp
        have b2 : wr.cell? ⟨wk.heap.size, 2, none⟩ = some (.int .i64 (i : Int)) := by rw [hb.cell (p := ⟨wk.heap.size, 2, none⟩) (by simp)]; simp
        clear hb HF
        rcases hq with ⟨q, k', hq, rfl, rfl, rfl⟩ | ⟨hq, rfl⟩
        · have HT : Hid (tkF f n k = ⟨14, q, k'⟩) := by
            show tkA f n (tkPos f n k) = _
            rw [HP.out]
            exact tkA_quo hlt HX.out.symm hq
          have HKN : Hid (i < k' ∧ k' ≤ n) := by
            have := quoF_le _ _ _ _ _ (Nat.le_refl _) (by omega) hq
            exact ⟨by omega, by omega⟩
          have HC3 : Hid (tkC (tkF f n k) (tkPos f n k) = [.int .i64 2, .string (strT q), .int .i64 (i : Int)]) := by
            show _ = _
            rw [HT.out, HP.out]
            rfl
          clear hq
          generalize strT q = X at *
          go_wp2_with (at_builtin; refine app_tk rfl _ _ rfl w.heap.size _ k rfl ((HI.out.row.below HBZ.out).below (below_alloc _ _)) wr.heap.size rfl [.int .i64 2, .string X, .int .i64 (i : Int)] HC3.out (new_cells _ [.int .i64 2, .string X, .int .i64 (i : Int)] _) (by omega) (by simp; omega) ?_)
          intro v' wq hown' hgrow
          have HX2 : Hid (TkA wq w.heap.size v' (k + 1) (tkF f n) (tkPos f n) ∧ Below w.heap.size w wq) := ⟨hown', (HBW.out.alloc hszw _).trans hgrow⟩
          clear hown' hgrow
          go_wp2
          go_roundw
          case rel => exact ⟨k', k + 1, rfl, HI.out.next HP.out (by rw [HT.out]) HKN.out.1 HKN.out.2 HX2.out.1 HX2.out.2⟩
          case measure => have := HKN.out; simp [intOf]; omega
        · have HT : Hid (tkF f n k = ⟨0, [], i⟩) := by
            show tkA f n (tkPos f n k) = _
            rw [HP.out]
            exact tkA_quo0 hlt HX.out.symm hq
          clear hq
          go_wp2_with (at_builtin; refine app_tk rfl _ _ rfl w.heap.size _ k rfl ((HI.out.row.below HBZ.out).below (below_alloc _ _)) wr.heap.size rfl [.int .i64 5, .string { data := #[] }, .int .i64 (i : Int)] (by rw [HT.out, HP.out]; rfl) (new_cells _ [.int .i64 5, .string { data := #[] }, .int .i64 (i : Int)] _) (by omega) (by simp; omega) ?_)
          intro v' wq hown' hgrow
          have HX2 : Hid (TkA wq w.heap.size v' (k + 1) (tkF f n) (tkPos f n) ∧ Below w.heap.size w wq) := ⟨hown', (HBW.out.alloc hszw _).trans hgrow⟩
          clear hown' hgrow
          go_wp2
          refine bodyPost_ret (v := v') (by simp [results, Try.results58, go_sem]) rfl ?_
          exact HX2.out.1.ret hk (by rw [HT.out]; exact .inl rfl) HX2.out.2
      have n34 : (x == 34) = false := by simp [h34]
      have HNL : Hid (¬ (97 ≤ f i ∧ f i ≤ 122)) := by rw [← HX.out]; exact hle
      have d97 : decide (97 ≤ x) = false ∨ decide (x ≤ 122) = false := by
        by_cases h : 97 ≤ x
        · exact .inr (decide_eq_false (fun e => hle ⟨h, e⟩))
        · exact .inl (decide_eq_false h)
      by_cases s46 : x = 46
      · subst s46
        have HP : Hid (tkPos f n k = i) := HPos.out (by omega)
        have HT : Hid (tkF f n k = ⟨10, [], i1⟩) := by
          show tkA f n (tkPos f n k) = _
          rw [HP.out, tkA_sym hlt (by rw [← HX.out]; decide) HNL.out (by rw [← HX.out]; decide), ← HX.out, HI1.out]
          rfl
        have HCL1 : Hid (∀ W, Below w.heap.size w W → (convert 33 9 (.slice (some ⟨b, off + i, none⟩) (i1 - i) (c - i))).run Try.prog W = .ok (.string (strT (seg f i i1))) W) := fun W hW => conv_sl b off n c i i1 f (by have := HI1.out; omega) hi1n (HCL.out W hW)
        have es : seg f i i1 = [46] := by
          rw [HI1.out]
          unfold seg
          rw [show i + 1 - i = 1 by omega]
          simp
          exact HX.out.symm
        rw [es] at HCL1
        have cv := HCL1.out ((wr.alloc (.cells #[.int .i64 5, .string { data := #[] }, .int .i64 (i : Int)] 144))) (HI.out.bel.alloc hsz _)
        have sl := run_sl b off n c i i1 (by have := HI1.out; omega) hi1n hnc hcm
        obtain ⟨ln, hln⟩ : ∃ ln, ln = i1 - i := ⟨_, rfl⟩
        obtain ⟨cp, hcp⟩ : ∃ cp, cp = c - i := ⟨_, rfl⟩
        rw [← hln, ← hcp] at cv sl
        clear hln hcp es HCL1 d97
        go_wp2_with (at_builtin; refine app_tk rfl _ _ rfl w.heap.size _ k rfl ((HI.out.row.below (below_alloc _ _)).below (below_alloc _ _)) (wr.heap.size + 1) rfl [.int .i64 3, .string (strT [46]), .int .i64 (i : Int)] (by rw [HT.out, HP.out]; rfl) (new_cellsN _ [.int .i64 3, .string (strT [46]), .int .i64 (i : Int)] _ _ (by simp)) (by omega) (by simp; omega) ?_)
        intro v' wq hown' hgrow
        have HX2 : Hid (TkA wq w.heap.size v' (k + 1) (tkF f n) (tkPos f n) ∧ Below w.heap.size w wq) := ⟨hown', ((HI.out.bel.alloc hsz _).alloc (by simp; omega) _).trans hgrow⟩
        clear hown' hgrow
        go_wp2
        go_roundw
        case rel => exact ⟨i1, k + 1, rfl, HI.out.next HP.out (by rw [HT.out]) (by have := HI1.out; omega) hi1n HX2.out.1 HX2.out.2⟩
        case measure => have := HI1.out; simp [intOf]; omega
      have n46 : (x == 46) = false := by simp [s46]
      by_cases s40 : x = 40
      · subst s40
        have HP : Hid (tkPos f n k = i) := HPos.out (by omega)
        have HT : Hid (tkF f n k = ⟨11, [], i1⟩) := by
          show tkA f n (tkPos f n k) = _
          rw [HP.out, tkA_sym hlt (by rw [← HX.out]; decide) HNL.out (by rw [← HX.out]; decide), ← HX.out, HI1.out]
          rfl
        have HCL1 : Hid (∀ W, Below w.heap.size w W → (convert 33 9 (.slice (some ⟨b, off + i, none⟩) (i1 - i) (c - i))).run Try.prog W = .ok (.string (strT (seg f i i1))) W) := fun W hW => conv_sl b off n c i i1 f (by have := HI1.out; omega) hi1n (HCL.out W hW)
        have es : seg f i i1 = [40] := by
          rw [HI1.out]
          unfold seg
          rw [show i + 1 - i = 1 by omega]
          simp
          exact HX.out.symm
        rw [es] at HCL1
        have cv := HCL1.out ((wr.alloc (.cells #[.int .i64 5, .string { data := #[] }, .int .i64 (i : Int)] 144))) (HI.out.bel.alloc hsz _)
        have sl := run_sl b off n c i i1 (by have := HI1.out; omega) hi1n hnc hcm
        obtain ⟨ln, hln⟩ : ∃ ln, ln = i1 - i := ⟨_, rfl⟩
        obtain ⟨cp, hcp⟩ : ∃ cp, cp = c - i := ⟨_, rfl⟩
        rw [← hln, ← hcp] at cv sl
        clear hln hcp es HCL1 d97
        go_wp2_with (at_builtin; refine app_tk rfl _ _ rfl w.heap.size _ k rfl ((HI.out.row.below (below_alloc _ _)).below (below_alloc _ _)) (wr.heap.size + 1) rfl [.int .i64 3, .string (strT [40]), .int .i64 (i : Int)] (by rw [HT.out, HP.out]; rfl) (new_cellsN _ [.int .i64 3, .string (strT [40]), .int .i64 (i : Int)] _ _ (by simp)) (by omega) (by simp; omega) ?_)
        intro v' wq hown' hgrow
        have HX2 : Hid (TkA wq w.heap.size v' (k + 1) (tkF f n) (tkPos f n) ∧ Below w.heap.size w wq) := ⟨hown', ((HI.out.bel.alloc hsz _).alloc (by simp; omega) _).trans hgrow⟩
        clear hown' hgrow
        go_wp2
        go_roundw
        case rel => exact ⟨i1, k + 1, rfl, HI.out.next HP.out (by rw [HT.out]) (by have := HI1.out; omega) hi1n HX2.out.1 HX2.out.2⟩
        case measure => have := HI1.out; simp [intOf]; omega
      have n40 : (x == 40) = false := by simp [s40]
      by_cases s41 : x = 41
      · subst s41
        have HP : Hid (tkPos f n k = i) := HPos.out (by omega)
        have HT : Hid (tkF f n k = ⟨12, [], i1⟩) := by
          show tkA f n (tkPos f n k) = _
          rw [HP.out, tkA_sym hlt (by rw [← HX.out]; decide) HNL.out (by rw [← HX.out]; decide), ← HX.out, HI1.out]
          rfl
        have HCL1 : Hid (∀ W, Below w.heap.size w W → (convert 33 9 (.slice (some ⟨b, off + i, none⟩) (i1 - i) (c - i))).run Try.prog W = .ok (.string (strT (seg f i i1))) W) := fun W hW => conv_sl b off n c i i1 f (by have := HI1.out; omega) hi1n (HCL.out W hW)
        have es : seg f i i1 = [41] := by
          rw [HI1.out]
          unfold seg
          rw [show i + 1 - i = 1 by omega]
          simp
          exact HX.out.symm
        rw [es] at HCL1
        have cv := HCL1.out ((wr.alloc (.cells #[.int .i64 5, .string { data := #[] }, .int .i64 (i : Int)] 144))) (HI.out.bel.alloc hsz _)
        have sl := run_sl b off n c i i1 (by have := HI1.out; omega) hi1n hnc hcm
        obtain ⟨ln, hln⟩ : ∃ ln, ln = i1 - i := ⟨_, rfl⟩
        obtain ⟨cp, hcp⟩ : ∃ cp, cp = c - i := ⟨_, rfl⟩
        rw [← hln, ← hcp] at cv sl
        clear hln hcp es HCL1 d97
        go_wp2_with (at_builtin; refine app_tk rfl _ _ rfl w.heap.size _ k rfl ((HI.out.row.below (below_alloc _ _)).below (below_alloc _ _)) (wr.heap.size + 1) rfl [.int .i64 3, .string (strT [41]), .int .i64 (i : Int)] (by rw [HT.out, HP.out]; rfl) (new_cellsN _ [.int .i64 3, .string (strT [41]), .int .i64 (i : Int)] _ _ (by simp)) (by omega) (by simp; omega) ?_)
        intro v' wq hown' hgrow
        have HX2 : Hid (TkA wq w.heap.size v' (k + 1) (tkF f n) (tkPos f n) ∧ Below w.heap.size w wq) := ⟨hown', ((HI.out.bel.alloc hsz _).alloc (by simp; omega) _).trans hgrow⟩
        clear hown' hgrow
        go_wp2
        go_roundw
        case rel => exact ⟨i1, k + 1, rfl, HI.out.next HP.out (by rw [HT.out]) (by have := HI1.out; omega) hi1n HX2.out.1 HX2.out.2⟩
        case measure => have := HI1.out; simp [intOf]; omega
      have n41 : (x == 41) = false := by simp [s41]
      by_cases s44 : x = 44
      · subst s44
        have HP : Hid (tkPos f n k = i) := HPos.out (by omega)
        have HT : Hid (tkF f n k = ⟨13, [], i1⟩) := by
          show tkA f n (tkPos f n k) = _
          rw [HP.out, tkA_sym hlt (by rw [← HX.out]; decide) HNL.out (by rw [← HX.out]; decide), ← HX.out, HI1.out]
          rfl
        have HCL1 : Hid (∀ W, Below w.heap.size w W → (convert 33 9 (.slice (some ⟨b, off + i, none⟩) (i1 - i) (c - i))).run Try.prog W = .ok (.string (strT (seg f i i1))) W) := fun W hW => conv_sl b off n c i i1 f (by have := HI1.out; omega) hi1n (HCL.out W hW)
        have es : seg f i i1 = [44] := by
          rw [HI1.out]
          unfold seg
          rw [show i + 1 - i = 1 by omega]
          simp
          exact HX.out.symm
        rw [es] at HCL1
        have cv := HCL1.out ((wr.alloc (.cells #[.int .i64 5, .string { data := #[] }, .int .i64 (i : Int)] 144))) (HI.out.bel.alloc hsz _)
        have sl := run_sl b off n c i i1 (by have := HI1.out; omega) hi1n hnc hcm
        obtain ⟨ln, hln⟩ : ∃ ln, ln = i1 - i := ⟨_, rfl⟩
        obtain ⟨cp, hcp⟩ : ∃ cp, cp = c - i := ⟨_, rfl⟩
        rw [← hln, ← hcp] at cv sl
        clear hln hcp es HCL1 d97
        go_wp2_with (at_builtin; refine app_tk rfl _ _ rfl w.heap.size _ k rfl ((HI.out.row.below (below_alloc _ _)).below (below_alloc _ _)) (wr.heap.size + 1) rfl [.int .i64 3, .string (strT [44]), .int .i64 (i : Int)] (by rw [HT.out, HP.out]; rfl) (new_cellsN _ [.int .i64 3, .string (strT [44]), .int .i64 (i : Int)] _ _ (by simp)) (by omega) (by simp; omega) ?_)
        intro v' wq hown' hgrow
        have HX2 : Hid (TkA wq w.heap.size v' (k + 1) (tkF f n) (tkPos f n) ∧ Below w.heap.size w wq) := ⟨hown', ((HI.out.bel.alloc hsz _).alloc (by simp; omega) _).trans hgrow⟩
        clear hown' hgrow
        go_wp2
        go_roundw
        case rel => exact ⟨i1, k + 1, rfl, HI.out.next HP.out (by rw [HT.out]) (by have := HI1.out; omega) hi1n HX2.out.1 HX2.out.2⟩
        case measure => have := HI1.out; simp [intOf]; omega
      have n44 : (x == 44) = false := by simp [s44]
      by_cases s38 : x = 38
      · subst s38
        have HP : Hid (tkPos f n k = i) := HPos.out (by omega)
        have HT : Hid (tkF f n k = ⟨6, [], i1⟩) := by
          show tkA f n (tkPos f n k) = _
          rw [HP.out, tkA_sym hlt (by rw [← HX.out]; decide) HNL.out (by rw [← HX.out]; decide), ← HX.out, HI1.out]
          rfl
        have HCL1 : Hid (∀ W, Below w.heap.size w W → (convert 33 9 (.slice (some ⟨b, off + i, none⟩) (i1 - i) (c - i))).run Try.prog W = .ok (.string (strT (seg f i i1))) W) := fun W hW => conv_sl b off n c i i1 f (by have := HI1.out; omega) hi1n (HCL.out W hW)
        have es : seg f i i1 = [38] := by
          rw [HI1.out]
          unfold seg
          rw [show i + 1 - i = 1 by omega]
          simp
          exact HX.out.symm
        rw [es] at HCL1
        have cv := HCL1.out ((wr.alloc (.cells #[.int .i64 5, .string { data := #[] }, .int .i64 (i : Int)] 144))) (HI.out.bel.alloc hsz _)
        have sl := run_sl b off n c i i1 (by have := HI1.out; omega) hi1n hnc hcm
        obtain ⟨ln, hln⟩ : ∃ ln, ln = i1 - i := ⟨_, rfl⟩
        obtain ⟨cp, hcp⟩ : ∃ cp, cp = c - i := ⟨_, rfl⟩
        rw [← hln, ← hcp] at cv sl
        clear hln hcp es HCL1 d97
        go_wp2_with (at_builtin; refine app_tk rfl _ _ rfl w.heap.size _ k rfl ((HI.out.row.below (below_alloc _ _)).below (below_alloc _ _)) (wr.heap.size + 1) rfl [.int .i64 3, .string (strT [38]), .int .i64 (i : Int)] (by rw [HT.out, HP.out]; rfl) (new_cellsN _ [.int .i64 3, .string (strT [38]), .int .i64 (i : Int)] _ _ (by simp)) (by omega) (by simp; omega) ?_)
        intro v' wq hown' hgrow
        have HX2 : Hid (TkA wq w.heap.size v' (k + 1) (tkF f n) (tkPos f n) ∧ Below w.heap.size w wq) := ⟨hown', ((HI.out.bel.alloc hsz _).alloc (by simp; omega) _).trans hgrow⟩
        clear hown' hgrow
        go_wp2
        go_roundw
        case rel => exact ⟨i1, k + 1, rfl, HI.out.next HP.out (by rw [HT.out]) (by have := HI1.out; omega) hi1n HX2.out.1 HX2.out.2⟩
        case measure => have := HI1.out; simp [intOf]; omega
      have n38 : (x == 38) = false := by simp [s38]
      by_cases s124 : x = 124
      · subst s124
        have HP : Hid (tkPos f n k = i) := HPos.out (by omega)
        have HT : Hid (tkF f n k = ⟨7, [], i1⟩) := by
          show tkA f n (tkPos f n k) = _
          rw [HP.out, tkA_sym hlt (by rw [← HX.out]; decide) HNL.out (by rw [← HX.out]; decide), ← HX.out, HI1.out]
          rfl
        have HCL1 : Hid (∀ W, Below w.heap.size w W → (convert 33 9 (.slice (some ⟨b, off + i, none⟩) (i1 - i) (c - i))).run Try.prog W = .ok (.string (strT (seg f i i1))) W) := fun W hW => conv_sl b off n c i i1 f (by have := HI1.out; omega) hi1n (HCL.out W hW)
        have es : seg f i i1 = [124] := by
          rw [HI1.out]
          unfold seg
          rw [show i + 1 - i = 1 by omega]
          simp
          exact HX.out.symm
        rw [es] at HCL1
        have cv := HCL1.out ((wr.alloc (.cells #[.int .i64 5, .string { data := #[] }, .int .i64 (i : Int)] 144))) (HI.out.bel.alloc hsz _)
        have sl := run_sl b off n c i i1 (by have := HI1.out; omega) hi1n hnc hcm
        obtain ⟨ln, hln⟩ : ∃ ln, ln = i1 - i := ⟨_, rfl⟩
        obtain ⟨cp, hcp⟩ : ∃ cp, cp = c - i := ⟨_, rfl⟩
        rw [← hln, ← hcp] at cv sl
        clear hln hcp es HCL1 d97
        go_wp2_with (at_builtin; refine app_tk rfl _ _ rfl w.heap.size _ k rfl ((HI.out.row.below (below_alloc _ _)).below (below_alloc _ _)) (wr.heap.size + 1) rfl [.int .i64 3, .string (strT [124]), .int .i64 (i : Int)] (by rw [HT.out, HP.out]; rfl) (new_cellsN _ [.int .i64 3, .string (strT [124]), .int .i64 (i : Int)] _ _ (by simp)) (by omega) (by simp; omega) ?_)
        intro v' wq hown' hgrow
        have HX2 : Hid (TkA wq w.heap.size v' (k + 1) (tkF f n) (tkPos f n) ∧ Below w.heap.size w wq) := ⟨hown', ((HI.out.bel.alloc hsz _).alloc (by simp; omega) _).trans hgrow⟩
        clear hown' hgrow
        go_wp2
        go_roundw
        case rel => exact ⟨i1, k + 1, rfl, HI.out.next HP.out (by rw [HT.out]) (by have := HI1.out; omega) hi1n HX2.out.1 HX2.out.2⟩
        case measure => have := HI1.out; simp [intOf]; omega
      have n124 : (x == 124) = false := by simp [s124]
      by_cases s45 : x = 45
      · subst s45
        have HP : Hid (tkPos f n k = i) := HPos.out (by omega)
        have HT : Hid (tkF f n k = ⟨8, [], i1⟩) := by
          show tkA f n (tkPos f n k) = _
          rw [HP.out, tkA_sym hlt (by rw [← HX.out]; decide) HNL.out (by rw [← HX.out]; decide), ← HX.out, HI1.out]
          rfl
        have HCL1 : Hid (∀ W, Below w.heap.size w W → (convert 33 9 (.slice (some ⟨b, off + i, none⟩) (i1 - i) (c - i))).run Try.prog W = .ok (.string (strT (seg f i i1))) W) := fun W hW => conv_sl b off n c i i1 f (by have := HI1.out; omega) hi1n (HCL.out W hW)
        have es : seg f i i1 = [45] := by
          rw [HI1.out]
          unfold seg
          rw [show i + 1 - i = 1 by omega]
          simp
          exact HX.out.symm
        rw [es] at HCL1
        have cv := HCL1.out ((wr.alloc (.cells #[.int .i64 5, .string { data := #[] }, .int .i64 (i : Int)] 144))) (HI.out.bel.alloc hsz _)
        have sl := run_sl b off n c i i1 (by have := HI1.out; omega) hi1n hnc hcm
        obtain ⟨ln, hln⟩ : ∃ ln, ln = i1 - i := ⟨_, rfl⟩
        obtain ⟨cp, hcp⟩ : ∃ cp, cp = c - i := ⟨_, rfl⟩
        rw [← hln, ← hcp] at cv sl
        clear hln hcp es HCL1 d97
        go_wp2_with (at_builtin; refine app_tk rfl _ _ rfl w.heap.size _ k rfl ((HI.out.row.below (below_alloc _ _)).below (below_alloc _ _)) (wr.heap.size + 1) rfl [.int .i64 3, .string (strT [45]), .int .i64 (i : Int)] (by rw [HT.out, HP.out]; rfl) (new_cellsN _ [.int .i64 3, .string (strT [45]), .int .i64 (i : Int)] _ _ (by simp)) (by omega) (by simp; omega) ?_)
        intro v' wq hown' hgrow
        have HX2 : Hid (TkA wq w.heap.size v' (k + 1) (tkF f n) (tkPos f n) ∧ Below w.heap.size w wq) := ⟨hown', ((HI.out.bel.alloc hsz _).alloc (by simp; omega) _).trans hgrow⟩
        clear hown' hgrow
        go_wp2
        go_roundw
        case rel => exact ⟨i1, k + 1, rfl, HI.out.next HP.out (by rw [HT.out]) (by have := HI1.out; omega) hi1n HX2.out.1 HX2.out.2⟩
        case measure => have := HI1.out; simp [intOf]; omega
      have n45 : (x == 45) = false := by simp [s45]
      by_cases h32 : x = 32
      · subst h32
        clear d97
        go_wp2
        go_roundw
        case rel => exact ⟨i1, k, rfl, ⟨hi1n, by rw [← HI.out.pos, HI1.out, ← endSp_go hlt HX.out.symm], by have := HI1.out; have := HI.out.ki; omega, HI.out.row.below (below_alloc _ _), HI.out.bel.alloc hsz _⟩⟩
        case measure => have := HI1.out; simp [intOf]; omega
      have n32 : (x == 32) = false := by simp [h32]
      have HP : Hid (tkPos f n k = i) := HPos.out h32
      have HT : Hid (tkF f n k = ⟨0, [], i⟩) := by
        show tkA f n (tkPos f n k) = _
        rw [HP.out]
        exact tkA_sym0 hlt (by rw [← HX.out]; exact h34) HNL.out (by unfold cdS; rw [← HX.out, if_neg s38, if_neg s124, if_neg s45, if_neg s46, if_neg s40, if_neg s41, if_neg s44])
      rcases d97 with d97 | d97
      · have b97 : ¬ 97 ≤ x := by simpa using d97
        go_wp2_with (at_builtin; refine app_tk rfl _ _ rfl w.heap.size _ k rfl ((HI.out.row.below (below_alloc _ _)).below (below_alloc _ _)) (wr.heap.size + 1) rfl [.int .i64 5, .string { data := #[] }, .int .i64 (i : Int)] (by rw [HT.out, HP.out]; rfl) (new_cellsN _ [.int .i64 5, .string { data := #[] }, .int .i64 (i : Int)] _ _ (by simp)) (by omega) (by simp; omega) ?_)
        intro v' wq hown' hgrow
        have HX2 : Hid (TkA wq w.heap.size v' (k + 1) (tkF f n) (tkPos f n) ∧ Below w.heap.size w wq) := ⟨hown', ((HI.out.bel.alloc hsz _).alloc (by simp; omega) _).trans hgrow⟩
        clear hown' hgrow
        go_wp2
        refine bodyPost_ret (v := v') (by simp [results, Try.results58, go_sem]) rfl ?_
        exact HX2.out.1.ret hk (by rw [HT.out]; exact .inl rfl) HX2.out.2
      · have b122 : ¬ x ≤ 122 := by simpa using d97
        have b97 : 97 ≤ x := by omega
        go_wp2_with (at_builtin; refine app_tk rfl _ _ rfl w.heap.size _ k rfl ((HI.out.row.below (below_alloc _ _)).below (below_alloc _ _)) (wr.heap.size + 1) rfl [.int .i64 5, .string { data := #[] }, .int .i64 (i : Int)] (by rw [HT.out, HP.out]; rfl) (new_cellsN _ [.int .i64 5, .string { data := #[] }, .int .i64 (i : Int)] _ _ (by simp)) (by omega) (by simp; omega) ?_)
        intro v' wq hown' hgrow
        have HX2 : Hid (TkA wq w.heap.size v' (k + 1) (tkF f n) (tkPos f n) ∧ Below w.heap.size w wq) := ⟨hown', ((HI.out.bel.alloc hsz _).alloc (by simp; omega) _).trans hgrow⟩
        clear hown' hgrow
        go_wp2
        refine bodyPost_ret (v := v') (by simp [results, Try.results58, go_sem]) rfl ?_
        exact HX2.out.1.ret hk (by rw [HT.out]; exact .inl rfl) HX2.out.2
    have ij : ¬ (i : Int) < (n : Int) := by omega
    have HP : Hid (tkPos f n k = n) := by
      show _ = _
      rw [← HI.out.pos]
      have := endF_ge isSp f n i
      have := endF_le (p := isSp) (f := f) hi
      omega
    have HT : Hid (tkF f n k = ⟨15, [], n⟩) := by
      show tkA f n (tkPos f n k) = _
      rw [HP.out]
      exact tkA_end (Nat.le_refl _)
    go_wp2_with (at_builtin; refine app_tk rfl _ _ rfl w.heap.size _ k rfl (HI.out.row.below (below_alloc _ _)) wr.heap.size rfl [.int .i64 4, .string { data := #[] }, .int .i64 (n : Int)] (by rw [HT.out, HP.out]; rfl) (new_cells _ [.int .i64 4, .string { data := #[] }, .int .i64 (n : Int)] _) (by omega) (by simp; omega) ?_)
    intro v' wq hown' hgrow
    have HX2 : Hid (TkA wq w.heap.size v' (k + 1) (tkF f n) (tkPos f n) ∧ Below w.heap.size w wq) := ⟨hown', (HI.out.bel.alloc hsz _).trans hgrow⟩
    clear hown' hgrow
    go_wp2
    refine bodyPost_ret (v := v') (by simp [results, Try.results58, go_sem]) rfl ?_
    exact HX2.out.1.ret hk (by rw [HT.out]; exact .inr rfl) HX2.out.2
end Go.Proofs.Ytocmbnocdjnfpaa

namespace Go.Proofs.Ytocmbnocdjnfpaa
set_option linter.unusedVariables false

/-- The reader, told as a function of its state. -/
def kdS (T : Nat → Tok) : (Nat × Nat × List Nd) ⊕ (Int × Int) → Nat
  | .inl s => (T s.1).c
  | .inr _ => 0
/-- What taking a string gives. -/
def tkQ (T : Nat → Tok) : (Nat × Nat × List Nd) ⊕ (Int × Int) → List Int
  | .inl s => if (T s.1).c = 14 then (T s.1).q else []
  | .inr _ => []
def loopF (T : Nat → Tok) (t : Nat → Bool) (body : Nat → (Nat × Nat × List Nd) ⊕ (Int × Int) → (Nat × Nat × List Nd) ⊕ (Int × Int)) : Nat → (Nat × Nat × List Nd) ⊕ (Int × Int) → (Nat × Nat × List Nd) ⊕ (Int × Int)
  | 0, σ => σ
  | g + 1, σ => if t (kdS T σ) = true then loopF T t body g (body (kdS T σ) σ) else σ

section
variable (T : Nat → Tok) (A : Nat → Nat)
def callF (c : Nat) (σ : (Nat × Nat × List Nd) ⊕ (Int × Int)) : (Nat × Nat × List Nd) ⊕ (Int × Int) :=
  emP ⟨c, tkQ T (tkP T A 11 (tkP T A c σ)), []⟩ (tkP T A 12 (tkP T A 14 (tkP T A 11 (tkP T A c σ))))
def hasF (σ : (Nat × Nat × List Nd) ⊕ (Int × Int)) : (Nat × Nat × List Nd) ⊕ (Int × Int) :=
  emP ⟨5, tkQ T (tkP T A 11 (tkP T A 5 σ)), tkQ T (tkP T A 13 (tkP T A 14 (tkP T A 11 (tkP T A 5 σ))))⟩ (tkP T A 12 (tkP T A 14 (tkP T A 13 (tkP T A 14 (tkP T A 11 (tkP T A 5 σ))))))
def moveF (σ : (Nat × Nat × List Nd) ⊕ (Int × Int)) : (Nat × Nat × List Nd) ⊕ (Int × Int) :=
  if kdS T σ = 4 then callF T A 4 σ else if kdS T σ = 5 then hasF T A σ else callF T A 3 σ
def recF (rec : (Nat × Nat × List Nd) ⊕ (Int × Int) → (Nat × Nat × List Nd) ⊕ (Int × Int)) : (Nat × Nat × List Nd) ⊕ (Int × Int) → (Nat × Nat × List Nd) ⊕ (Int × Int)
  | .inl s => rec (.inl s)
  | .inr x => .inr x
def innerF (rec : (Nat × Nat × List Nd) ⊕ (Int × Int) → (Nat × Nat × List Nd) ⊕ (Int × Int)) (σ : (Nat × Nat × List Nd) ⊕ (Int × Int)) : (Nat × Nat × List Nd) ⊕ (Int × Int) := tkP T A 12 (recF rec (tkP T A 11 σ))
def primF (rec : (Nat × Nat × List Nd) ⊕ (Int × Int) → (Nat × Nat × List Nd) ⊕ (Int × Int)) (σ : (Nat × Nat × List Nd) ⊕ (Int × Int)) : (Nat × Nat × List Nd) ⊕ (Int × Int) :=
  if kdS T σ = 1 then emP ⟨1, [], []⟩ (tkP T A 1 σ) else if kdS T σ = 2 then callF T A 2 σ
  else if kdS T σ = 9 then emP ⟨9, tkQ T (tkP T A 9 σ), []⟩ (innerF T A rec (tkP T A 14 (tkP T A 9 σ))) else innerF T A rec σ
def stepF (m : Nat) (rec : (Nat × Nat × List Nd) ⊕ (Int × Int) → (Nat × Nat × List Nd) ⊕ (Int × Int)) (σ : (Nat × Nat × List Nd) ⊕ (Int × Int)) : (Nat × Nat × List Nd) ⊕ (Int × Int) :=
  loopF T (fun c => decide (c = 10)) (fun _ σ => moveF T A (tkP T A 10 σ)) m (primF T A rec σ)
def meetF (m : Nat) (rec : (Nat × Nat × List Nd) ⊕ (Int × Int) → (Nat × Nat × List Nd) ⊕ (Int × Int)) (σ : (Nat × Nat × List Nd) ⊕ (Int × Int)) : (Nat × Nat × List Nd) ⊕ (Int × Int) :=
  loopF T (fun c => decide (c = 6)) (fun _ σ => emP ⟨6, [], []⟩ (stepF T A m rec (tkP T A 6 σ))) m (stepF T A m rec σ)
def pathF (m : Nat) : Nat → (Nat × Nat × List Nd) ⊕ (Int × Int) → (Nat × Nat × List Nd) ⊕ (Int × Int)
  | 0, σ => σ
  | g + 1, σ => loopF T (fun c => decide (c = 7 ∨ c = 8)) (fun c σ => emP ⟨c, [], []⟩ (meetF T A m (pathF m g) (tkP T A c σ))) m (meetF T A m (pathF m g) σ)
variable {T A}

theorem symP_got (p : Pr) (c : Nat) : (symP T A p c).got = p.got := by
  unfold symP
  split
  · rfl
  · unfold failP; split <;> rfl
theorem tk_q {i nd : Nat} {N : List Nd} : tkQ T (.inl (i, nd, N)) = if (T i).c = 14 then (T i).q else [] := rfl
theorem rp_got {p : Pr} {σ : (Nat × Nat × List Nd) ⊕ (Int × Int)} (h : RP T A p σ) {s' : Nat × Nat × List Nd} (e : tkP T A 14 σ = .inl s') : (strP T A p).got = tkQ T σ := by
  obtain ⟨i, nd, N, rfl, h1, _⟩ := tk_inv e
  rw [(rp_str h).2 i nd N s' rfl e, tk_q, if_pos h1]

theorem txL_of {i : Nat} (hq : ∀ i, (T i).c = 14 → txL (T i).q) {σ : (Nat × Nat × List Nd) ⊕ (Int × Int)} {s' : Nat × Nat × List Nd} (e : tkP T A 14 σ = .inl s') : txL (tkQ T σ) := by
  obtain ⟨i, nd, N, rfl, h1, _⟩ := tk_inv e
  rw [tk_q, if_pos h1]
  exact hq i h1

/-- A call of one string: v("..") and the steps. -/
theorem call_inv {c i nd : Nat} {N : List Nd} (hc1 : 1 ≤ c) (hc9 : c ≤ 9) {s' : Nat × Nat × List Nd} (e : tkP T A 12 (tkP T A 14 (tkP T A 11 (tkP T A c (.inl (i, nd, N))))) = .inl s') :
    (T i).c = c ∧ s' = (i + 4, nd + 1, N) ∧ nd ≠ 100 ∧ (T (i + 4)).c ≠ 0 := by
  obtain ⟨i3, nd3, N3, e3, h3, rfl, _, g3⟩ := tk_inv e
  obtain ⟨i2, nd2, N2, e2, h2, q2, _, _⟩ := tk_inv e3
  obtain ⟨i1, nd1, N1, e1, h1, q1, _, _⟩ := tk_inv e2
  obtain ⟨i0, nd0, N0, e0, h0, q0, k0, _⟩ := tk_inv e1
  cases e0
  rw [if_pos ⟨hc1, hc9⟩] at q0
  cases q0
  rw [if_neg (by omega)] at q1
  cases q1
  rw [if_neg (by omega)] at q2
  cases q2
  rw [if_neg (by omega)]
  exact ⟨h0, rfl, k0 ⟨hc1, hc9⟩, g3⟩
theorem rp_call {c i nd : Nat} {N : List Nd} {p : Pr} (h : RP T A p (.inl (i, nd, N))) (hc : (T i).c = c) (hc1 : 1 ≤ c) (hc9 : c ≤ 9) :
    RP T A (symP T A (strP T A (symP T A (mkP T A p) 11)) 12) (tkP T A 12 (tkP T A 14 (tkP T A 11 (tkP T A c (.inl (i, nd, N)))))) ∧
    ∀ s', tkP T A 12 (tkP T A 14 (tkP T A 11 (tkP T A c (.inl (i, nd, N))))) = .inl s' → (strP T A (symP T A (mkP T A p) 11)).got = tkQ T (tkP T A 11 (tkP T A c (.inl (i, nd, N)))) := by
  have h1 := rp_mk h hc hc1 hc9
  have h2 := rp_sym h1 (c := 11) (by omega)
  have h3 := (rp_str h2).1
  refine ⟨rp_sym h3 (c := 12) (by omega), fun s' e => ?_⟩
  obtain ⟨i3, nd3, N3, e3, _⟩ := tk_inv e
  exact rp_got h2 e3

variable {m : Nat}
theorem pc_prim (hq : ∀ i, (T i).c = 14 → txL (T i).q) (hl : LastK T m) {rec : (Nat × Nat × List Nd) ⊕ (Int × Int) → (Nat × Nat × List Nd) ⊕ (Int × Int)} {i nd : Nat} {N : List Nd} (hi : i < m) (h0 : (T i).c ≠ 0) (hnd : nd ≤ 100)
    (hrec : ∀ i' nd' N', i < i' → i' < m → nd' ≤ 100 → (T i').c ≠ 0 → (tkP T A 11 (.inl (i, nd, N)) = .inl (i', nd', N') ∨ tkP T A 11 (tkP T A 14 (tkP T A 9 (.inl (i, nd, N)))) = .inl (i', nd', N')) → PC T A 1 1 i' nd' N' (rec (.inl (i', nd', N')))) : PC T A 3 4 i nd N (primF T A rec (.inl (i, nd, N))) := by
  have rp0 : ∀ p : Pr, p.er = 0 → p.i = i → p.nd = nd → RP T A p (.inl (i, nd, N)) := fun p h1 h2 h3 => ⟨h1, h2, h3, h0⟩
  have hk : kdS T (.inl (i, nd, N)) = (T i).c := rfl
  unfold primF
  rw [hk]
  by_cases c1 : (T i).c = 1
  · rw [if_pos c1]
    refine pc_leaf (fun p => mkP T A p) (fun _ => ⟨1, [], []⟩) (fun p o st h1 h2 h3 => ⟨?_, rp_mk (rp0 p h1 h2 h3) c1 (by omega) (by omega), fun _ _ => rfl⟩) (fun s' e => ?_)
    · unfold bodyM
      simp only [h2, c1, if_true]
    · obtain ⟨i0, nd0, N0, e0, g0, q0, k0, g1⟩ := tk_inv e
      cases e0
      rw [if_pos ⟨by omega, by omega⟩] at q0
      cases q0
      exact ⟨Nat.lt_succ_self _, rfl, by have := k0 ⟨by omega, by omega⟩; show nd + 1 ≤ 100; omega, rfl, g1, ⟨⟨by show 1 ≤ 1; omega, by show 1 ≤ 9; omega⟩, fun _ => ⟨rfl, rfl⟩, fun e => by exfalso; have e' : 1 = 2 ∨ 1 = 3 ∨ 1 = 4 ∨ 1 = 9 := e; omega, fun e => by exfalso; have e' : 1 = 5 := e; omega⟩, rfl⟩
  rw [if_neg c1]
  by_cases c2 : (T i).c = 2
  · rw [if_pos c2]
    refine pc_leaf (fun p => symP T A (strP T A (symP T A (mkP T A p) 11)) 12) (fun p => ⟨2, (symP T A (strP T A (symP T A (mkP T A p) 11)) 12).got, []⟩) (fun p o st h1 h2 h3 => ⟨?_, (rp_call (rp0 p h1 h2 h3) c2 (by omega) (by omega)).1, fun s' e => ?_⟩) (fun s' e => ?_)
    · unfold bodyM
      simp only [h2, c2, if_true]
      rw [if_neg (by omega)]
    · rw [symP_got, (rp_call (rp0 p h1 h2 h3) c2 (by omega) (by omega)).2 s' e]
    · obtain ⟨_, rfl, k0, g1⟩ := call_inv (by omega) (by omega) e
      obtain ⟨_, _, _, e3, _⟩ := tk_inv e
      exact ⟨by show i < i + 4; omega, rfl, by show nd + 1 ≤ 100; omega, rfl, g1, ⟨⟨by show 1 ≤ 2; omega, by show 2 ≤ 9; omega⟩, fun e => by exfalso; have e' : 2 = 1 ∨ 2 = 6 ∨ 2 = 7 ∨ 2 = 8 := e; omega, fun _ => ⟨txL_of (i := i) hq e3, rfl⟩, fun e => by exfalso; have e' : 2 = 5 := e; omega⟩, rfl⟩
  rw [if_neg c2]
  by_cases c9 : (T i).c = 9
  · rw [if_pos c9]
    have key := pc_in (T := T) (A := A) (i := i) (nd := nd) (N := N) (σ2 := tkP T A 11 (tkP T A 14 (tkP T A 9 (.inl (i, nd, N))))) (σ3 := recF rec (tkP T A 11 (tkP T A 14 (tkP T A 9 (.inl (i, nd, N)))))) (e := ⟨9, tkQ T (tkP T A 9 (.inl (i, nd, N)))⟩)
      (fun p => symP T A (strP T A (mkP T A p)) 11) (fun p => ⟨9, (symP T A (strP T A (mkP T A p)) 11).got⟩) ?_ ?_ (Or.inr rfl) ?_ ?_ ?_
    · rw [if_pos rfl] at key
      exact key
    · intro p o st h1 h2 h3
      have r1 := rp_mk (rp0 p h1 h2 h3) c9 (by omega) (by omega)
      have r2 := (rp_str r1).1
      refine ⟨?_, rp_sym r2 (c := 11) (by omega), fun s' e => ?_⟩
      · unfold bodyM
        simp only [h2, c9, if_true]
        rw [if_neg (by omega), if_neg (by omega)]
      · rw [symP_got]
        obtain ⟨_, _, _, e3, _⟩ := tk_inv e
        rw [rp_got r1 e3]
    · intro s' e
      obtain ⟨i2, nd2, N2, e2, h2, q2, _, _⟩ := tk_inv e
      obtain ⟨i1, nd1, N1, e1, h1, q1, _, _⟩ := tk_inv e2
      obtain ⟨i0, nd0, N0, e0, g0, q0, k0, _⟩ := tk_inv e1
      cases e0
      rw [if_pos ⟨by omega, by omega⟩] at q0
      cases q0
      rw [if_neg (by omega)] at q1
      cases q1
      rw [if_neg (by omega)] at q2
      cases q2
      exact ⟨by show i < i + 1 + 1 + 1; omega, by rw [if_pos rfl], rfl⟩
    · intro s' e _
      obtain ⟨i2, nd2, N2, e2, _⟩ := tk_inv e
      exact txL_of (i := i) hq e2
    · intro x e
      rw [e]; rfl
    · intro i2 nd2 N2 e
      have e' := e
      rw [e]
      obtain ⟨j2, d2, M2, e2, h2, q2, _, z2⟩ := tk_inv e
      obtain ⟨j1, d1, M1, e1, h1, q1, _, _⟩ := tk_inv e2
      obtain ⟨j0, d0, M0, e0, g0, q0, k0, _⟩ := tk_inv e1
      cases e0
      rw [if_pos ⟨by omega, by omega⟩] at q0
      cases q0
      rw [if_neg (by omega)] at q1
      cases q1
      rw [if_neg (by omega)] at q2
      cases q2
      have l1 := last_lt hl hi g0 (by omega) (by omega)
      have l2 := last_lt hl l1 h1 (by omega) (by omega)
      have l3 := last_lt hl l2 h2 (by omega) (by omega)
      exact hrec _ _ _ (by omega) l3 (by have := k0 ⟨by omega, by omega⟩; omega) z2 (Or.inr e')
  rw [if_neg c9]
  by_cases c11 : (T i).c = 11
  · have key := pc_in (T := T) (A := A) (i := i) (nd := nd) (N := N) (σ2 := tkP T A 11 (.inl (i, nd, N))) (σ3 := recF rec (tkP T A 11 (.inl (i, nd, N)))) (e := ⟨0, []⟩)
      (fun p => { p with i := p.i + 1 }) (fun p => ⟨0, []⟩) ?_ ?_ (Or.inl rfl) ?_ ?_ ?_
    · rw [if_neg (by decide)] at key
      exact key
    · intro p o st h1 h2 h3
      refine ⟨?_, ?_, fun _ _ => rfl⟩
      · unfold bodyM
        simp only [h2, c11, if_true]
        rw [if_neg (by omega), if_neg (by omega), if_neg (by omega)]
      · have := rp_sym (rp0 p h1 h2 h3) (c := 11) (by omega)
        unfold symP at this
        rw [if_pos ⟨h1, by rw [h2]; exact c11⟩] at this
        exact this
    · intro s' e
      obtain ⟨i2, nd2, N2, e2, h2, q2, _, _⟩ := tk_inv e
      cases e2
      rw [if_neg (by omega)] at q2
      cases q2
      exact ⟨Nat.lt_succ_self _, by rw [if_neg (by decide)], rfl⟩
    · intro s' e h9
      exact absurd h9 (by decide)
    · intro x e
      rw [e]; rfl
    · intro i2 nd2 N2 e
      have e' := e
      rw [e]
      obtain ⟨j2, d2, M2, e2, h2, q2, _, z2⟩ := tk_inv e
      cases e2
      rw [if_neg (by omega)] at q2
      cases q2
      exact hrec _ _ _ (Nat.lt_succ_self _) (last_lt hl hi h2 (by omega) (by omega)) hnd z2 (Or.inl e')
  · have e : tkP T A 11 (.inl (i, nd, N)) = .inr (3, (A i : Int)) := by
      show (if (T i).c = 11 then _ else _) = _
      rw [if_neg c11]
    unfold innerF
    rw [e]
    show PC T A 3 4 i nd N (.inr (3, (A i : Int)))
    refine ⟨by show (3 : Int) ≠ 0; omega, fun p o st h1 h2 h3 _ => ?_⟩
    have rf := rp_fail (e := 3) (rp0 p h1 h2 h3) (by omega)
    have bd : bodyM T A ⟨p, o, st, true, false⟩ = ⟨failP T A p 3, o, st, true, false⟩ := by
      unfold bodyM
      simp only [h2, if_true]
      rw [if_neg c1, if_neg c2, if_neg c9, if_neg c11]
    obtain ⟨t, t1, t2⟩ := end_err (T := T) (A := A) ⟨failP T A p 3, o, st, true, false⟩ rf rfl
    exact ⟨t, (Rch.one h1 rfl bd).trans t1, t2⟩

/-- A step behind a point. -/
theorem pc_move (hq : ∀ i, (T i).c = 14 → txL (T i).q) {i nd i1 nd1 : Nat} {N N1 : List Nd} (h : PC T A 3 4 i nd N (.inl (i1, nd1, N1))) (hc : (T i1).c = 10) : PC T A 3 4 i nd N (moveF T A (tkP T A 10 (.inl (i1, nd1, N1)))) := by
  have bd : ∀ (p : Pr) o st, p.i = i1 → bodyM T A ⟨p, o, st, false, false⟩ = ⟨(stepP T A p).1, o ++ [(stepP T A p).2], st, false, false⟩ := fun p o st h2 => by
    unfold bodyM
    simp only [h2, hc]
    rw [if_neg (by simp), if_pos trivial]
  have h7 : (T i1).c ≠ 0 := by omega
  have hnd : nd1 ≤ 100 := by obtain ⟨d, _, _, _, _, h5, _⟩ := h; exact h5
  have ht : tkP T A 10 (.inl (i1, nd1, N1)) = nrm T A (i1 + 1) nd1 N1 := by
    show (if (T i1).c = 10 then (if 1 ≤ 10 ∧ 10 ≤ 9 then _ else nrm T A (i1 + 1) nd1 N1) else _) = _
    rw [if_pos hc, if_neg (by omega)]
  have rp1 : ∀ p : Pr, p.er = 0 → p.i = i1 → p.nd = nd1 → RP T A { p with i := p.i + 1 } (tkP T A 10 (.inl (i1, nd1, N1))) := fun p h1 h2 h3 => by
    rw [ht]
    refine rp_nrm ?_ ?_ ?_ N1
    · exact h1
    · show p.i + 1 = i1 + 1; rw [h2]
    · exact h3
  by_cases z : (T (i1 + 1)).c = 0
  · have e : tkP T A 10 (.inl (i1, nd1, N1)) = .inr (2, (A (i1 + 1) : Int)) := by rw [ht]; unfold nrm; rw [if_pos z]
    have em : moveF T A (tkP T A 10 (.inl (i1, nd1, N1))) = emP ⟨3, [], []⟩ (.inr (2, (A (i1 + 1) : Int))) := by
      rw [e]
      unfold moveF
      rw [if_neg (by show ¬ (0 : Nat) = 4; omega), if_neg (by show ¬ (0 : Nat) = 5; omega)]
      rfl
    rw [em]
    refine pc_step h (fun p => (stepP T A p).1) (fun p => (stepP T A p).2) (fun p o st h1 h2 h3 => ⟨bd p o st h2, ?_, fun s' e => by cases e⟩) (fun s' e => by cases e)
    have r1 := rp1 p h1 h2 h3
    rw [e] at r1
    have k3 : stepK T { p with i := p.i + 1 } = 3 := by
      unfold stepK
      rw [if_neg (rp_not r1 (by omega)), if_neg (rp_not r1 (by omega))]
    unfold stepP stepQ
    rw [if_pos ⟨k3, rp_not r1 (by omega)⟩]
    exact (rp_err r1 3).1
  · have e : tkP T A 10 (.inl (i1, nd1, N1)) = .inl (i1 + 1, nd1, N1) := by rw [ht]; unfold nrm; rw [if_neg z]
    rw [e] at rp1 ⊢
    have kk : kdS T (.inl (i1 + 1, nd1, N1)) = (T (i1 + 1)).c := rfl
    have pi : ∀ p : Pr, p.i = i1 → ({ p with i := p.i + 1 } : Pr).i = i1 + 1 := fun p h2 => by show p.i + 1 = _; rw [h2]
    unfold moveF
    rw [kk]
    -- in and out: a call of one string
    have one : ∀ c, (c = 4 ∨ c = 3) → (T (i1 + 1)).c = c → PC T A 3 4 i nd N (callF T A c (.inl (i1 + 1, nd1, N1))) := by
      intro c hc43 hcc
      refine pc_step h (fun p => (stepP T A p).1) (fun p => (stepP T A p).2) (fun p o st h1 h2 h3 => ⟨bd p o st h2, ?_⟩) (fun s' e => ?_)
      · have r1 := rp1 p h1 h2 h3
        have rc := rp_call (c := c) r1 hcc (by omega) (by omega)
        have k3 : stepK T { p with i := p.i + 1 } = c := by
          unfold stepK
          rw [pi p h2, hcc]
          rcases hc43 with rfl | rfl
          · rw [if_pos ⟨h1, rfl⟩]
          · rw [if_neg (by omega), if_neg (by omega)]
        have e1 : stepP T A p = (symP T A (strP T A (symP T A (mkP T A { p with i := p.i + 1 }) 11)) 12, ⟨c, (strP T A (symP T A (mkP T A { p with i := p.i + 1 }) 11)).got, []⟩) := by
          unfold stepP stepQ
          rw [if_neg (fun e => e.2 ⟨h1, by rw [pi p h2, hcc, ← k3, e.1]⟩), if_neg (by rw [k3]; omega), k3]
        rw [e1]
        exact ⟨rc.1, fun s' e => by rw [← rc.2 s' e]⟩
      · obtain ⟨_, rfl, k0, g1⟩ := call_inv (by omega) (by omega) e
        obtain ⟨_, _, _, e3, _⟩ := tk_inv e
        refine ⟨by show i1 < i1 + 1 + 4; omega, rfl, by show nd1 + 1 ≤ 100; omega, rfl, g1, ⟨⟨by show 1 ≤ c; omega, by show c ≤ 9; omega⟩, fun e => by exfalso; have e' : c = 1 ∨ c = 6 ∨ c = 7 ∨ c = 8 := e; omega, fun _ => ⟨txL_of (i := i) hq e3, rfl⟩, fun e => by exfalso; have e' : c = 5 := e; omega⟩, ?_⟩
        show arN c = 1
        unfold arN
        rw [if_neg (by omega), if_neg (by omega)]
    by_cases c4 : (T (i1 + 1)).c = 4
    · rw [if_pos c4]
      exact one 4 (Or.inl rfl) c4
    rw [if_neg c4]
    by_cases c5 : (T (i1 + 1)).c = 5
    · rw [if_pos c5]
      refine pc_step h (fun p => (stepP T A p).1) (fun p => (stepP T A p).2) (fun p o st h1 h2 h3 => ⟨bd p o st h2, ?_⟩) (fun s' e => ?_)
      · have r1 := rp1 p h1 h2 h3
        have s1 := rp_mk r1 c5 (by omega) (by omega)
        have s2 := rp_sym s1 (c := 11) (by omega)
        have s3 := (rp_str s2).1
        have s4 := rp_sym s3 (c := 13) (by omega)
        have s5 := (rp_str s4).1
        have s6 := rp_sym s5 (c := 12) (by omega)
        have k3 : stepK T { p with i := p.i + 1 } = 5 := by
          unfold stepK
          rw [pi p h2, c5]
          rw [if_neg (by omega), if_pos ⟨h1, rfl⟩]
        have e1 : stepP T A p = (symP T A (strP T A (symP T A (strP T A (symP T A (mkP T A { p with i := p.i + 1 }) 11)) 13)) 12, ⟨5, (strP T A (symP T A (mkP T A { p with i := p.i + 1 }) 11)).got, (strP T A (symP T A (strP T A (symP T A (mkP T A { p with i := p.i + 1 }) 11)) 13)).got⟩) := by
          unfold stepP stepQ
          rw [if_neg (fun e => by rw [k3] at e; omega), if_pos k3]
        rw [e1]
        refine ⟨s6, fun s' e => ?_⟩
        obtain ⟨_, _, _, e5, _⟩ := tk_inv e
        obtain ⟨_, _, _, e4, _⟩ := tk_inv e5
        obtain ⟨_, _, _, e3, _⟩ := tk_inv e4
        rw [rp_got s4 e5, rp_got s2 e3]
      · obtain ⟨i5, nd5, N5, e5, h5, rfl, _, g5⟩ := tk_inv e
        obtain ⟨i4, nd4, N4, e4, h4, q4, _, _⟩ := tk_inv e5
        obtain ⟨i3, nd3, N3, e3, h3, q3, _, _⟩ := tk_inv e4
        obtain ⟨i2, nd2, N2, e2, h2, q2, _, _⟩ := tk_inv e3
        obtain ⟨j1, d1, M1, e1, h1, q1, _, _⟩ := tk_inv e2
        obtain ⟨j0, d0, M0, e0, h0, q0, k0, _⟩ := tk_inv e1
        have t5 := txL_of (i := i) hq e5
        have t3 := txL_of (i := i) hq e3
        cases e0
        rw [if_pos ⟨by omega, by omega⟩] at q0
        cases q0
        rw [if_neg (by omega)] at q1
        cases q1
        rw [if_neg (by omega)] at q2
        cases q2
        rw [if_neg (by omega)] at q3
        cases q3
        rw [if_neg (by omega)] at q4
        cases q4
        refine ⟨by show i1 < i1 + 1 + 1 + 1 + 1 + 1 + 1 + 1; omega, by show nd1 + 1 + 0 + 0 + 0 + 0 + _ = _; rw [if_neg (by omega)], by have := k0 ⟨by omega, by omega⟩; show nd1 + 1 + 0 + 0 + 0 + 0 + _ ≤ 100; rw [if_neg (by omega)]; omega, rfl, g5, ⟨⟨by show 1 ≤ 5; omega, by show 5 ≤ 9; omega⟩, fun e => by exfalso; have e' : 5 = 1 ∨ 5 = 6 ∨ 5 = 7 ∨ 5 = 8 := e; omega, fun e => by exfalso; have e' : 5 = 2 ∨ 5 = 3 ∨ 5 = 4 ∨ 5 = 9 := e; omega, fun _ => ⟨t3, t5⟩⟩, rfl⟩
    rw [if_neg c5]
    by_cases c3 : (T (i1 + 1)).c = 3
    · exact one 3 (Or.inr rfl) c3
    · have e3 : tkP T A 3 (.inl (i1 + 1, nd1, N1)) = .inr (3, (A (i1 + 1) : Int)) := by
        show (if (T (i1 + 1)).c = 3 then _ else _) = _
        rw [if_neg c3]
      have em : callF T A 3 (.inl (i1 + 1, nd1, N1)) = emP ⟨3, [], []⟩ (.inr (3, (A (i1 + 1) : Int))) := by
        unfold callF
        rw [e3]; rfl
      rw [em]
      refine pc_step h (fun p => (stepP T A p).1) (fun p => (stepP T A p).2) (fun p o st h1 h2 h3 => ⟨bd p o st h2, ?_, fun s' e => by cases e⟩) (fun s' e => by cases e)
      have r1 := rp1 p h1 h2 h3
      have k3 : stepK T { p with i := p.i + 1 } = 3 := by
        unfold stepK
        rw [pi p h2, if_neg (fun e => c4 e.2), if_neg (fun e => c5 e.2)]
      unfold stepP stepQ
      rw [if_pos ⟨k3, fun e => c3 (by rw [pi p h2] at e; exact e.2)⟩]
      exact rp_fail (N := N1) r1 (by omega)
end
end Go.Proofs.Ytocmbnocdjnfpaa

namespace Go.Proofs.Ytocmbnocdjnfpaa
set_option linter.unusedVariables false

section
variable {T : Nat → Tok} {A : Nat → Nat} {m : Nat}
/-- A good state of the reader. -/
def Okk (T : Nat → Tok) (m : Nat) (s : Nat × Nat × List Nd) : Prop := s.1 < m ∧ (T s.1).c ≠ 0 ∧ s.2.1 ≤ 100
/-- What comes out lies at least a tokens behind. -/
def Up (T : Nat → Tok) (m a : Nat) (σ σ' : (Nat × Nat × List Nd) ⊕ (Int × Int)) : Prop := ∀ s', σ' = .inl s' → ∃ s, σ = .inl s ∧ s.1 + a ≤ s'.1 ∧ (Okk T m s → Okk T m s')
theorem Up.refl (σ : (Nat × Nat × List Nd) ⊕ (Int × Int)) : Up T m 0 σ σ := fun s' e => ⟨s', e, Nat.le_refl _, id⟩
theorem Up.trans {a b : Nat} {σ σ1 σ2 : (Nat × Nat × List Nd) ⊕ (Int × Int)} (h : Up T m a σ σ1) (k : Up T m b σ1 σ2) : Up T m (a + b) σ σ2 := fun s' e => by
  obtain ⟨s1, e1, k1, k2⟩ := k s' e
  obtain ⟨s, e0, h1, h2⟩ := h s1 e1
  exact ⟨s, e0, by omega, fun q => k2 (h2 q)⟩
theorem Up.less {a b : Nat} {σ σ' : (Nat × Nat × List Nd) ⊕ (Int × Int)} (h : Up T m a σ σ') (hb : b ≤ a) : Up T m b σ σ' := fun s' e => by
  obtain ⟨s, e0, h1, h2⟩ := h s' e
  exact ⟨s, e0, by omega, h2⟩
theorem Up.em {a : Nat} {σ σ' : (Nat × Nat × List Nd) ⊕ (Int × Int)} (h : Up T m a σ σ') (x : Nd) : Up T m a σ (emP x σ') := fun s' e => by
  cases σ' with
  | inr y => cases e
  | inl s1 =>
    cases e
    obtain ⟨s, e0, h1, h2⟩ := h s1 rfl
    exact ⟨s, e0, h1, fun q => h2 q⟩
theorem up_tk (hl : LastK T m) {c : Nat} (h1 : 1 ≤ c) (h2 : c < 15) (σ : (Nat × Nat × List Nd) ⊕ (Int × Int)) : Up T m 1 σ (tkP T A c σ) := fun s' e => by
  obtain ⟨i, nd, N, rfl, h3, rfl, h4, h5⟩ := tk_inv e
  refine ⟨_, rfl, Nat.le_refl _, fun q => ⟨last_lt hl q.1 h3 h1 h2, h5, ?_⟩⟩
  have := q.2.2
  have : nd ≤ 100 := this
  show nd + (if 1 ≤ c ∧ c ≤ 9 then 1 else 0) ≤ 100
  split
  · rename_i q9
    have := h4 q9
    omega
  · omega
theorem up_call (hl : LastK T m) {c : Nat} (h1 : 1 ≤ c) (h2 : c < 15) (σ : (Nat × Nat × List Nd) ⊕ (Int × Int)) : Up T m 1 σ (callF T A c σ) :=
  ((((up_tk hl h1 h2 σ).trans (up_tk hl (by omega) (by omega) _)).trans (up_tk hl (by omega) (by omega) _)).trans (up_tk hl (by omega) (by omega) _)).em _ |>.less (by omega)
theorem up_has (hl : LastK T m) (σ : (Nat × Nat × List Nd) ⊕ (Int × Int)) : Up T m 1 σ (hasF T A σ) :=
  ((((((up_tk hl (by omega) (by omega) σ).trans (up_tk hl (by omega) (by omega) _)).trans (up_tk hl (by omega) (by omega) _)).trans (up_tk hl (by omega) (by omega) _)).trans (up_tk hl (by omega) (by omega) _)).trans (up_tk hl (by omega) (by omega) _)).em _ |>.less (by omega)
theorem up_move (hl : LastK T m) (σ : (Nat × Nat × List Nd) ⊕ (Int × Int)) : Up T m 1 σ (moveF T A σ) := by
  unfold moveF
  split
  · exact up_call hl (by omega) (by omega) σ
  · split
    · exact up_has hl σ
    · exact up_call hl (by omega) (by omega) σ
theorem up_rec {rec : (Nat × Nat × List Nd) ⊕ (Int × Int) → (Nat × Nat × List Nd) ⊕ (Int × Int)} (hr : ∀ σ, Up T m 0 σ (rec σ)) (σ : (Nat × Nat × List Nd) ⊕ (Int × Int)) : Up T m 0 σ (recF rec σ) := by
  cases σ with
  | inl s => exact hr _
  | inr x => exact Up.refl _
theorem up_inner (hl : LastK T m) {rec : (Nat × Nat × List Nd) ⊕ (Int × Int) → (Nat × Nat × List Nd) ⊕ (Int × Int)} (hr : ∀ σ, Up T m 0 σ (rec σ)) (σ : (Nat × Nat × List Nd) ⊕ (Int × Int)) : Up T m 1 σ (innerF T A rec σ) :=
  (((up_tk hl (by omega) (by omega) σ).trans (up_rec hr _)).trans (up_tk hl (by omega) (by omega) _)).less (by omega)
theorem up_prim (hl : LastK T m) {rec : (Nat × Nat × List Nd) ⊕ (Int × Int) → (Nat × Nat × List Nd) ⊕ (Int × Int)} (hr : ∀ σ, Up T m 0 σ (rec σ)) (σ : (Nat × Nat × List Nd) ⊕ (Int × Int)) : Up T m 1 σ (primF T A rec σ) := by
  unfold primF
  split
  · exact (up_tk hl (by omega) (by omega) σ).em _
  · split
    · exact up_call hl (by omega) (by omega) σ
    · split
      · exact ((((up_tk hl (by omega) (by omega) σ).trans (up_tk hl (by omega) (by omega) _)).trans (up_inner hl hr _)).em _).less (by omega)
      · exact up_inner hl hr σ
theorem up_loop {t : Nat → Bool} {body : Nat → (Nat × Nat × List Nd) ⊕ (Int × Int) → (Nat × Nat × List Nd) ⊕ (Int × Int)} (hb : ∀ σ, t (kdS T σ) = true → Up T m 0 σ (body (kdS T σ) σ)) : ∀ g σ, Up T m 0 σ (loopF T t body g σ)
  | 0, σ => Up.refl _
  | g + 1, σ => by
    show Up T m 0 σ (if t (kdS T σ) = true then loopF T t body g (body (kdS T σ) σ) else σ)
    split
    · rename_i h; exact (hb σ h).trans (up_loop hb g _)
    · exact Up.refl _
theorem up_step (hl : LastK T m) {rec : (Nat × Nat × List Nd) ⊕ (Int × Int) → (Nat × Nat × List Nd) ⊕ (Int × Int)} (hr : ∀ σ, Up T m 0 σ (rec σ)) (σ : (Nat × Nat × List Nd) ⊕ (Int × Int)) : Up T m 1 σ (stepF T A m rec σ) :=
  (up_prim hl hr σ).trans (up_loop (fun σ _ => ((up_tk hl (by omega) (by omega) σ).trans (up_move hl _)).less (by omega)) m _)
theorem up_meet (hl : LastK T m) {rec : (Nat × Nat × List Nd) ⊕ (Int × Int) → (Nat × Nat × List Nd) ⊕ (Int × Int)} (hr : ∀ σ, Up T m 0 σ (rec σ)) (σ : (Nat × Nat × List Nd) ⊕ (Int × Int)) : Up T m 1 σ (meetF T A m rec σ) :=
  (up_step hl hr σ).trans (up_loop (fun σ _ => (((up_tk hl (by omega) (by omega) σ).trans (up_step hl hr _)).em _).less (by omega)) m _)
theorem up_path (hl : LastK T m) : ∀ g σ, Up T m 0 σ (pathF T A m g σ)
  | 0, σ => Up.refl _
  | g + 1, σ => ((up_meet hl (up_path hl g) σ).trans (up_loop (fun σ h => (((up_tk hl (by have := of_decide_eq_true h; omega) (by have := of_decide_eq_true h; omega) σ).trans (up_meet hl (up_path hl g) _)).em _).less (by omega)) m _)).less (by omega)

theorem PC.okk {s u i nd : Nat} {N : List Nd} {r : Nat × Nat × List Nd} (h : PC T A s u i nd N (.inl r)) : (T r.1).c ≠ 0 ∧ r.2.1 ≤ 100 := by
  obtain ⟨d, _, _, _, _, h5, _, h7, _⟩ := h
  exact ⟨h7, h5⟩
/-- A loop of the reader. -/
theorem pc_loop {s u u' i nd : Nat} {N : List Nd} {t : Nat → Bool} {body : Nat → (Nat × Nat × List Nd) ⊕ (Int × Int) → (Nat × Nat × List Nd) ⊕ (Int × Int)} (h0 : t 0 = false)
    (hb : ∀ r : Nat × Nat × List Nd, r.1 < m → PC T A s u i nd N (.inl r) → t (T r.1).c = true → PC T A s u i nd N (body (T r.1).c (.inl r)))
    (hu : ∀ σ, t (kdS T σ) = true → Up T m 1 σ (body (kdS T σ) σ))
    (hst : ∀ c, t c = false → stopC u c → stopC u' c) : ∀ g σ, PC T A s u i nd N σ → (∀ r, σ = .inl r → r.1 < m ∧ m ≤ g + r.1) → PC T A s u' i nd N (loopF T t body g σ)
  | g, .inr x, h, _ => by
    have e : loopF T t body g (.inr x) = .inr x := by
      cases g with
      | zero => rfl
      | succ g =>
        show (if t 0 = true then _ else _) = _
        rw [h0]; rfl
    rw [e]
    exact PC.err h (Nat.le_refl _)
  | 0, .inl r, h, hm => by have := hm r rfl; omega
  | g + 1, .inl r, h, hm => by
    obtain ⟨m1, m2⟩ := hm r rfl
    show PC T A s u' i nd N (if t (T r.1).c = true then loopF T t body g (body (T r.1).c (.inl r)) else .inl r)
    cases e : t (T r.1).c with
    | false =>
      rw [if_neg (by simp)]
      refine PC.stop h (hst _ e ?_)
      obtain ⟨d, _, _, _, _, _, _, _, h8, _⟩ := h
      exact h8
    | true =>
      rw [if_pos rfl]
      have e' : t (kdS T (.inl r)) = true := e
      refine pc_loop h0 hb hu hst g _ (hb r m1 h e) (fun r' e2 => ?_)
      obtain ⟨s0, e0, k1, k2⟩ := hu (.inl r) e' r' e2
      cases e0
      have := (k2 ⟨m1, PC.okk h⟩).1
      exact ⟨this, by omega⟩

theorem pc_stepF (hq : ∀ i, (T i).c = 14 → txL (T i).q) (hl : LastK T m) {rec : (Nat × Nat × List Nd) ⊕ (Int × Int) → (Nat × Nat × List Nd) ⊕ (Int × Int)} (hr : ∀ σ, Up T m 0 σ (rec σ)) {i nd : Nat} {N : List Nd} (hi : i < m) (h0 : (T i).c ≠ 0) (hnd : nd ≤ 100)
    (hrec : ∀ i' nd' N', i < i' → i' < m → nd' ≤ 100 → (T i').c ≠ 0 → PC T A 1 1 i' nd' N' (rec (.inl (i', nd', N')))) : PC T A 3 3 i nd N (stepF T A m rec (.inl (i, nd, N))) := by
  have hp := pc_prim hq hl hi h0 hnd (fun i' nd' N' q1 q2 q3 q4 _ => hrec i' nd' N' q1 q2 q3 q4) (N := N)
  refine pc_loop rfl (fun r hr1 h hc => ?_) (fun σ _ => ((up_tk hl (by omega) (by omega) σ).trans (up_move hl _)).less (by omega)) (fun c hc h => ⟨fun _ e => absurd hc (by rw [e]; decide), fun e => absurd e (by omega), fun e => absurd e (by omega)⟩) m _ hp (fun r e => ?_)
  · exact pc_move hq h (of_decide_eq_true hc)
  · obtain ⟨s, e0, k1, k2⟩ := up_prim hl hr _ r e
    cases e0
    exact ⟨(k2 ⟨hi, h0, hnd⟩).1, Nat.le_add_right _ _⟩
theorem pc_meetF (hq : ∀ i, (T i).c = 14 → txL (T i).q) (hl : LastK T m) {rec : (Nat × Nat × List Nd) ⊕ (Int × Int) → (Nat × Nat × List Nd) ⊕ (Int × Int)} (hr : ∀ σ, Up T m 0 σ (rec σ)) {i nd : Nat} {N : List Nd} (hi : i < m) (h0 : (T i).c ≠ 0) (hnd : nd ≤ 100)
    (hrec : ∀ i' nd' N', i < i' → i' < m → nd' ≤ 100 → (T i').c ≠ 0 → PC T A 1 1 i' nd' N' (rec (.inl (i', nd', N')))) : PC T A 2 2 i nd N (meetF T A m rec (.inl (i, nd, N))) := by
  have hp := (pc_stepF hq hl hr hi h0 hnd hrec (N := N)).up (s' := 2) (by omega)
  refine pc_loop rfl (fun r hr1 h hc => ?_) (fun σ _ => (((up_tk hl (by omega) (by omega) σ).trans (up_step hl hr _)).em _).less (by omega)) (fun c hc h => ⟨fun _ => h.1 (by omega), fun _ e => absurd hc (by rw [e]; decide), fun e => absurd e (by omega)⟩) m _ hp (fun r e => ?_)
  · obtain ⟨i1, nd1, N1⟩ := r
    have h6 : (T i1).c = 6 := of_decide_eq_true hc
    have hii : i < i1 := by obtain ⟨d, _, _, _, _, _, h6, _⟩ := h; exact h6
    refine pc_two h h6 (by omega) (by omega) rfl (fun x e => ?_) (fun i2 nd2 N2 e => ?_)
    · have e' : tkP T A 6 (.inl (i1, nd1, N1)) = .inr x := e
      have e2 : stepF T A m rec (.inr x) = .inr x := by
        unfold stepF
        have e3 : primF T A rec (.inr x) = .inr x := rfl
        rw [e3]
        cases m with
        | zero => rfl
        | succ g => rfl
      show stepF T A m rec (tkP T A 6 (.inl (i1, nd1, N1))) = _
      rw [e', e2]
    · have e' : tkP T A 6 (.inl (i1, nd1, N1)) = .inl (i2, nd2, N2) := e
      have ok := up_tk (A := A) hl (c := 6) (by omega) (by omega) (.inl (i1, nd1, N1)) _ e'
      obtain ⟨s, e0, k1, k2⟩ := ok
      cases e0
      obtain ⟨o1, o2, o3⟩ := k2 ⟨hr1, PC.okk h⟩
      have k1' : i1 + 1 ≤ i2 := k1
      show PC T A 3 3 i2 nd2 N2 (stepF T A m rec (tkP T A 6 (.inl (i1, nd1, N1))))
      rw [e']
      exact pc_stepF hq hl hr o1 o2 o3 (fun i' nd' N' q1 q2 q3 q4 => hrec i' nd' N' (by omega) q2 q3 q4)
  · obtain ⟨s, e0, k1, k2⟩ := up_step hl hr _ r e
    cases e0
    exact ⟨(k2 ⟨hi, h0, hnd⟩).1, Nat.le_add_right _ _⟩
theorem pc_pathF (hq : ∀ i, (T i).c = 14 → txL (T i).q) (hl : LastK T m) : ∀ (g i nd : Nat) (N : List Nd), i < m → m ≤ g + i → (T i).c ≠ 0 → nd ≤ 100 → PC T A 1 1 i nd N (pathF T A m g (.inl (i, nd, N)))
  | 0, i, nd, N, hi, hg, _, _ => by omega
  | g + 1, i, nd, N, hi, hg, h0, hnd => by
    have hr : ∀ σ, Up T m 0 σ (pathF T A m g σ) := up_path hl g
    have hrec : ∀ i' nd' N', i < i' → i' < m → nd' ≤ 100 → (T i').c ≠ 0 → PC T A 1 1 i' nd' N' (pathF T A m g (.inl (i', nd', N'))) := fun i' nd' N' q1 q2 q3 q4 => pc_pathF hq hl g i' nd' N' q2 (by omega) q4 q3
    have hp := (pc_meetF hq hl hr hi h0 hnd hrec (N := N)).up (s' := 1) (by omega)
    refine pc_loop rfl (fun r hr1 h hc => ?_) (fun σ h => (((up_tk hl (by have := of_decide_eq_true h; omega) (by have := of_decide_eq_true h; omega) σ).trans (up_meet hl hr _)).em _).less (by omega)) (fun c hc h => ⟨fun _ => h.1 (by omega), fun _ => h.2.1 (by omega), fun _ => ⟨fun e => absurd hc (by rw [e]; decide), fun e => absurd hc (by rw [e]; decide)⟩⟩) m _ hp (fun r e => ?_)
    · obtain ⟨i1, nd1, N1⟩ := r
      have h6 : (T i1).c = 7 ∨ (T i1).c = 8 := of_decide_eq_true hc
      have hii : i < i1 := by obtain ⟨d, _, _, _, _, _, h6, _⟩ := h; exact h6
      refine pc_two h rfl (by show 6 ≤ (T i1).c; omega) (by show (T i1).c ≤ 8; omega) (by show stg (T i1).c = 1; unfold stg; rw [if_neg (by omega), if_pos h6]) (fun x e => ?_) (fun i2 nd2 N2 e => ?_)
      · have e' : tkP T A (T i1).c (.inl (i1, nd1, N1)) = .inr x := e
        have e2 : meetF T A m (pathF T A m g) (.inr x) = .inr x := by
          have e3 : primF T A (pathF T A m g) (.inr x) = .inr x := rfl
          unfold meetF stepF
          rw [e3]
          cases m with
          | zero => rfl
          | succ g => rfl
        show meetF T A m (pathF T A m g) (tkP T A (T i1).c (.inl (i1, nd1, N1))) = _
        rw [e', e2]
      · have e' : tkP T A (T i1).c (.inl (i1, nd1, N1)) = .inl (i2, nd2, N2) := e
        have ok := up_tk (A := A) hl (c := (T i1).c) (by omega) (by omega) (.inl (i1, nd1, N1)) _ e'
        obtain ⟨s, e0, k1, k2⟩ := ok
        cases e0
        obtain ⟨o1, o2, o3⟩ := k2 ⟨hr1, PC.okk h⟩
        have k1' : i1 + 1 ≤ i2 := k1
        show PC T A 2 2 i2 nd2 N2 (meetF T A m (pathF T A m g) (tkP T A (T i1).c (.inl (i1, nd1, N1))))
        rw [e']
        exact pc_meetF hq hl hr o1 o2 o3 (fun i' nd' N' q1 q2 q3 q4 => hrec i' nd' N' (by omega) q2 q3 q4)
    · obtain ⟨s, e0, k1, k2⟩ := up_meet hl hr _ r e
      cases e0
      exact ⟨(k2 ⟨hi, h0, hnd⟩).1, Nat.le_add_right _ _⟩
/-- The whole: what the reader has made. -/
def topF (T : Nat → Tok) (A : Nat → Nat) (m : Nat) : (Nat × Nat × List Nd) ⊕ (Int × Int) := tkP T A 15 (pathF T A m m (nrm T A 0 0 []))
/-- The machine ends where the reader ends. -/
theorem top_same (hq : ∀ i, (T i).c = 14 → txL (T i).q) (hl : LastK T m) (h15 : ∀ i, (T i).c = 15 → (T (i + 1)).c = 15) {s : Mc} (hs : Rch T A ⟨⟨0, 0, 0, 0, []⟩, [], [], true, false⟩ s) (ht : Term s) :
    (∀ x, topF T A m = .inr x → x.1 ≠ 0 ∧ s.p.er = x.1 ∧ s.p.at_ = x.2) ∧ (∀ r, topF T A m = .inl r → s.p.er = 0 ∧ s.o = r.2.2 ∧ Tr s.o ∧ (∀ x, x ∈ s.o → gdN x) ∧ s.o.length ≤ 100) := by
  have hm : 0 < m := hl.1
  have err : ∀ x : Int × Int, x.1 ≠ 0 → (∃ t, Rch T A ⟨⟨0, 0, 0, 0, []⟩, [], [], true, false⟩ t ∧ t.p.er = x.1 ∧ t.p.at_ = x.2) → x.1 ≠ 0 ∧ s.p.er = x.1 ∧ s.p.at_ = x.2 := by
    rintro x hx ⟨t, t1, t2, t3⟩
    have := Rch.same hs t1 ht (Or.inl (by rw [t2]; exact hx))
    rw [this]
    exact ⟨hx, t2, t3⟩
  unfold topF
  by_cases h0 : (T 0).c = 0
  · have e : nrm T A 0 0 [] = .inr (2, (A 0 : Int)) := by unfold nrm; rw [if_pos h0]
    have e2 : pathF T A m m (.inr (2, (A 0 : Int))) = .inr (2, (A 0 : Int)) := by
      cases m with
      | zero => rfl
      | succ g => rfl
    rw [e, e2]
    refine ⟨fun x e => ?_, fun r e => by cases e⟩
    cases e
    exact err _ (by show (2 : Int) ≠ 0; omega) (end_err (T := T) (A := A) (x := (2, (A 0 : Int))) ⟨⟨0, 0, 0, 0, []⟩, [], [], true, false⟩ ⟨by show (2 : Int) ≠ 0; omega, Or.inr ⟨rfl, h0, rfl, rfl⟩⟩ rfl)
  · have e : nrm T A 0 0 [] = .inl (0, 0, []) := by unfold nrm; rw [if_neg h0]
    rw [e]
    have pc := pc_pathF hq hl m 0 0 [] hm (by omega) h0 (by omega) (A := A)
    cases hσ : pathF T A m m (.inl (0, 0, [])) with
    | inr x =>
      rw [hσ] at pc
      refine ⟨fun y e => ?_, fun r e => by cases e⟩
      cases e
      obtain ⟨p1, p2⟩ := pc
      exact err x p1 (p2 ⟨0, 0, 0, 0, []⟩ [] [] rfl rfl rfl (by show 0 < 1; omega))
    | inl r =>
      rw [hσ] at pc
      obtain ⟨i3, nd3, N3⟩ := r
      obtain ⟨d, g1, g2, g3, g4, g5, g6, g7, g8, g9⟩ := pc
      obtain ⟨p', o1, pend, q1, q2, q3, q4, q5, q6⟩ := g9 ⟨0, 0, 0, 0, []⟩ [] [] rfl rfl rfl (by show 0 < 1; omega)
      have g1' : N3 = d := by have : N3 = [] ++ d := g1; simpa using this
      have q2' : p'.i = i3 := q2
      have hd := drn_all (least := 1) (st := []) (by show 0 < 1; omega) pend o1 q5
      rw [q4] at hd
      have g8' : stopC 1 (T i3).c := g8
      obtain ⟨s1, s2, s3⟩ := g8'
      have s1' := s1 (by omega)
      have s2' := s2 (by omega)
      have s3' := s3 (by omega)
      have body : bodyM T A ⟨p', o1, pend ++ [], false, false⟩ = if (T i3).c = 15 then ⟨p', d, [], false, true⟩ else ⟨failP T A p' 3, d, [], false, false⟩ := by
        unfold bodyM
        simp only [q2']
        rw [if_neg (by simp), if_neg s1', if_neg (by omega), hd]
        simp
      by_cases h5 : (T i3).c = 15
      · rw [if_pos h5] at body
        have tk : tkP T A 15 (.inl (i3, nd3, N3)) = .inl (i3 + 1, nd3, N3) := by
          show (if (T i3).c = 15 then (if 1 ≤ 15 ∧ 15 ≤ 9 then _ else nrm T A (i3 + 1) nd3 N3) else _) = _
          rw [if_pos h5, if_neg (by omega)]
          unfold nrm
          rw [if_neg (by rw [h15 _ h5]; omega)]
        rw [tk]
        refine ⟨fun x e => (by cases e), fun r e => ?_⟩
        cases e
        have := Rch.same hs (q6.trans (Rch.one q1 rfl body)) ht (Or.inr rfl)
        rw [this]
        exact ⟨q1, g1'.symm, g2, g3, by have e4 : nd3 = 0 + d.length := g4; have e5 : nd3 ≤ 100 := g5; show d.length ≤ 100; omega⟩
      · rw [if_neg h5] at body
        have tk : tkP T A 15 (.inl (i3, nd3, N3)) = .inr (3, (A i3 : Int)) := by
          show (if (T i3).c = 15 then _ else _) = _
          rw [if_neg h5]
        rw [tk]
        refine ⟨fun x e => ?_, fun r e => (by cases e)⟩
        cases e
        refine err _ (by show (3 : Int) ≠ 0; omega) ?_
        have rf := rp_fail (T := T) (A := A) (p := p') (N := []) (e := 3) ⟨q1, q2, q3, g7⟩ (by omega)
        obtain ⟨t, t1, t2⟩ := end_err (T := T) (A := A) ⟨failP T A p' 3, d, [], false, false⟩ rf rfl
        exact ⟨t, q6.trans ((Rch.one q1 rfl body).trans t1), t2⟩
end
end Go.Proofs.Ytocmbnocdjnfpaa

namespace Go.Proofs.Ytocmbnocdjnfpaa
open Go.RowKit Go.Deep
set_option linter.unusedVariables false
set_option maxRecDepth 100000

theorem tkA_c15 {f : Nat → Int} {n p : Nat} (h : (tkA f n p).c = 15) : n ≤ p := by
  by_cases hn : n ≤ p
  · exact hn
  exfalso
  unfold tkA at h
  rw [if_neg hn] at h
  split at h
  · split at h
    · have h' : (0 : Nat) = 15 := h; omega
    · have h' : (14 : Nat) = 15 := h; omega
  · split at h
    · split at h
      · have h' : (0 : Nat) = 15 := h; omega
      · have h' : cdW (seg f p (endF isLt f n p)) = 15 := h
        unfold cdW at h'
        repeat (first | omega | split at h')
    · split at h
      · have h' : (0 : Nat) = 15 := h; omega
      · have h' : cdS (f p) = 15 := h
        unfold cdS at h'
        repeat (first | omega | split at h')
theorem tk15 (f : Nat → Int) (n i : Nat) (h : (tkF f n i).c = 15) : (tkF f n (i + 1)).c = 15 := by
  have h1 : n ≤ tkPos f n i := tkA_c15 h
  have h2 := (tkA_le (f := f) (tkPos_le f n i)).1
  have h3 := endF_ge isSp f n (tkA f n (tkPos f n i)).e
  have h4 : n ≤ tkPos f n (i + 1) := by show n ≤ endF isSp f n (tkA f n (tkPos f n i)).e; omega
  show (tkA f n (tkPos f n (i + 1))).c = 15
  unfold tkA
  rw [if_pos h4]
theorem tk14 {f : Nat → Int} {n : Nat} (hf : ∀ i, i < n → 0 ≤ f i ∧ f i < 256) (i : Nat) (h : (tkF f n i).c = 14) : txL (tkF f n i).q := by
  show txL (tkA f n (tkPos f n i)).q
  have h' : (tkA f n (tkPos f n i)).c = 14 := h
  generalize tkPos f n i = p at *
  unfold tkA at h' ⊢
  split at h'
  · have h'' : (15 : Nat) = 14 := h'; omega
  · rename_i hp
    rw [if_neg hp]
    split at h'
    · rename_i h34
      rw [if_pos h34]
      split at h'
      · have h'' : (0 : Nat) = 14 := h'; omega
      · rename_i qk e
        have h1 := quoF_le _ _ _ qk.1 qk.2 (Nat.le_refl _) (by omega) e
        have h2 := quoF_byt hf _ _ _ qk.1 qk.2 (Nat.le_refl _) (by omega) (fun x hx => absurd hx List.not_mem_nil) e
        exact ⟨h1.2.2.1, h1.2.2.2, h2⟩
    · exfalso
      split at h'
      · split at h'
        · have h'' : (0 : Nat) = 14 := h'; omega
        · have h'' : cdW (seg f p (endF isLt f n p)) = 14 := h'
          unfold cdW at h''
          repeat (first | omega | split at h'')
      · split at h'
        · have h'' : (0 : Nat) = 14 := h'; omega
        · have h'' : cdS (f p) = 14 := h'
          unfold cdS at h''
          repeat (first | omega | split at h'')
theorem tkc15 (f : Nat → Int) (n i : Nat) : (tkF f n i).c ≤ 15 := tkA_c f n _

/-- A list of nodes, told by its places. -/
def nI (l : List Nd) (i : Nat) : Int := ((l.getD i ⟨0, [], []⟩).k : Int)
def nX (l : List Nd) (i : Nat) : ByteArray := strT (l.getD i ⟨0, [], []⟩).s
def nR (l : List Nd) (i : Nat) : ByteArray := strT (l.getD i ⟨0, [], []⟩).t
theorem ndR_get : ∀ (l : List Nd) (i j : Nat), i < l.length → j < 3 → (ndR l)[i * 3 + j]? = (ndC (l.getD i ⟨0, [], []⟩))[j]?
  | [], i, j, h, _ => absurd h (Nat.not_lt_zero _)
  | x :: l, 0, j, h, hj => by
    show (ndC x ++ ndR l)[0 * 3 + j]? = _
    rw [List.getElem?_append_left (by rw [ndC_length]; omega), Nat.zero_mul, Nat.zero_add]
    rfl
  | x :: l, i + 1, j, h, hj => by
    show (ndC x ++ ndR l)[(i + 1) * 3 + j]? = _
    rw [List.getElem?_append_right (by rw [ndC_length]; omega), ndC_length, show (i + 1) * 3 + j - 3 = i * 3 + j by omega]
    rw [ndR_get l i j (by simpa using h) hj]
    rfl
theorem NdA.rd {w : World} {B : Nat} {v : Value} {l : List Nd} (h : NdA w B v l) : ∃ a c, v = .slice a l.length c ∧ l.length ≤ c ∧ c ≤ 9223372036854775807 ∧ RdN w a l.length (nI l) (nX l) (nR l) := by
  obtain ⟨h0, ⟨e, h1⟩ | ⟨g, cap, cur, e, hg, hh, h1, h2, h3, h4⟩⟩ := h
  · exact ⟨none, 0, by rw [h1]; exact e, by omega, by omega, .inl h1⟩
  · refine ⟨_, cap, e, h1, h2, .inr ⟨g, 0, rfl, fun i hi => ?_⟩⟩
    have cell : ∀ j, j < 3 → w.cell? ⟨g, i * 3 + j, none⟩ = (ndC (l.getD i ⟨0, [], []⟩))[j]? := by
      intro j hj
      rw [← ndR_get l i j hi hj, ← h4]
      unfold World.cell?
      rw [hh, List.getElem?_take, if_pos (by omega)]
      simp
    rw [Nat.zero_add]
    exact ⟨cell 0 (by omega), cell 1 (by omega), cell 2 (by omega)⟩
theorem runD_dep {l : List Nd} {s r : Nat} (A : Nat → Nat) (hA : ∀ i, i < l.length → A i = arN (l.getD i ⟨0, [], []⟩).k) (h : runD l s = some r) : ∀ k, k ≤ l.length → ∃ rk, runD (l.take k) s = some rk ∧ (rk : Int) = s + dep A k ∧ ∀ i, i < k → (A i : Int) ≤ s + dep A i
  | 0, _ => ⟨s, rfl, by show (s : Int) = s + 0; omega, fun i hi => absurd hi (Nat.not_lt_zero _)⟩
  | k + 1, hk => by
    obtain ⟨rk, e1, e2, e3⟩ := runD_dep A hA h k (by omega)
    have hx : l[k]? = some (l.getD k ⟨0, [], []⟩) := by
      rw [List.getD_eq_getElem?_getD, List.getElem?_eq_getElem (by omega)]; rfl
    have ht : l.take (k + 1) = l.take k ++ [l.getD k ⟨0, [], []⟩] := by rw [List.take_add_one, hx]; rfl
    have hr : runD (l.take (k + 1)) s = if A k ≤ rk then some (rk - A k + 1) else none := by
      rw [ht, runD_app, e1, hA k (by omega)]
      rfl
    by_cases hle : A k ≤ rk
    · rw [if_pos hle] at hr
      refine ⟨_, hr, by rw [dep_succ]; omega, fun i hi => ?_⟩
      by_cases e : i = k
      · subst e; omega
      · exact e3 i (by omega)
    · rw [if_neg hle] at hr
      have hw := runD_app (l.take (k + 1)) (l.drop (k + 1)) s
      rw [List.take_append_drop, hr, h] at hw
      cases hw
theorem arN_of {k : Nat} (h1 : 1 ≤ k) (h2 : k ≤ 9) : arOf (k : Int) = arN k := by
  have : k = 1 ∨ k = 2 ∨ k = 3 ∨ k = 4 ∨ k = 5 ∨ k = 6 ∨ k = 7 ∨ k = 8 ∨ k = 9 := by omega
  rcases this with rfl | rfl | rfl | rfl | rfl | rfl | rfl | rfl | rfl <;> rfl
theorem tr_begins {l : List Nd} (h : Tr l) (hg : ∀ x, x ∈ l → gdN x) : 0 < l.length ∧ Begins (fun i => arOf (nI l i)) l.length 0 := by
  have h0 : 0 < l.length := by
    cases l with
    | nil => have := h 0; cases this
    | cons x l => exact Nat.zero_lt_succ _
  have hA : ∀ i, i < l.length → arOf (nI l i) = arN (l.getD i ⟨0, [], []⟩).k := fun i hi => by
    have hm : l.getD i ⟨0, [], []⟩ ∈ l := by
      rw [List.getD_eq_getElem?_getD, List.getElem?_eq_getElem hi]
      exact List.getElem_mem hi
    have := (hg _ hm).1
    exact arN_of this.1 this.2
  obtain ⟨rk, e1, e2, e3⟩ := runD_dep (fun i => arOf (nI l i)) hA (h 0) l.length (Nat.le_refl _)
  rw [List.take_length, h 0] at e1
  cases e1
  refine ⟨h0, (whole_iff _ _ h0).2 ⟨fun i hi => ?_, ?_⟩⟩
  · have := e3 i hi
    simpa using this
  · have e2' : ((0 + 1 : Nat) : Int) = ((0 : Nat) : Int) + dep (fun i => arOf (nI l i)) l.length := e2
    omega
theorem emS_nil : emS (strT []) = true := by unfold emS; rw [ByteArray.toList_eq]; rfl
theorem gd_gn {x : Nd} (h : gdN x) : gnB (x.k : Int) (strT x.s) (strT x.t) = true := by
  obtain ⟨⟨h1, h2⟩, h3, h4, h5⟩ := h
  have tx : ∀ q, txL q → txS (strT q) = true := fun q hq => by rw [txS_T]; exact decide_eq_true ⟨hq.1, hq.2.1⟩
  unfold gnB
  by_cases c1 : x.k = 1 ∨ x.k = 6 ∨ x.k = 7 ∨ x.k = 8
  · rw [if_pos (by omega), (h3 c1).1, (h3 c1).2, emS_nil]; rfl
  · rw [if_neg (by omega)]
    by_cases c2 : x.k = 2 ∨ x.k = 3 ∨ x.k = 4 ∨ x.k = 9
    · rw [if_pos (by omega), tx _ (h4 c2).1, (h4 c2).2, emS_nil]; rfl
    · rw [if_neg (by omega), if_pos (by omega), tx _ (h5 (by omega)).1, tx _ (h5 (by omega)).2]; rfl
/-- A path that was parsed is valid just if it is not too high. -/
theorem tr_valid {l : List Nd} (h : Tr l) (hg : ∀ x, x ∈ l → gdN x) (hl : l.length ≤ 100) : VPth l.length (nI l) (nX l) (nR l) ↔ htF 100 (fun i => arOf (nI l i)) l.length ≤ 64 := by
  obtain ⟨h0, hb⟩ := tr_begins h hg
  refine ⟨fun e => e.2.2.2, fun e => ⟨⟨h0, hl⟩, fun i hi => ?_, hb, e⟩⟩
  refine gd_gn (hg _ ?_)
  rw [List.getD_eq_getElem?_getD, List.getElem?_eq_getElem hi]
  exact List.getElem_mem hi

/-- What ParsePath answers. -/
def PAns (f : Nat → Int) (n m : Nat) (er at_ : Int) (l : List Nd) : Prop :=
  (2000 < n ∧ er = 1 ∧ at_ = 0 ∧ l = []) ∨
  (n ≤ 2000 ∧ ∃ x, topF (tkF f n) (tkPos f n) m = .inr x ∧ x.1 ≠ 0 ∧ er = x.1 ∧ at_ = x.2 ∧ l = []) ∨
  (n ≤ 2000 ∧ ∃ r, topF (tkF f n) (tkPos f n) m = .inl r ∧ ¬ VPth r.2.2.length (nI r.2.2) (nX r.2.2) (nR r.2.2) ∧ er = 5 ∧ at_ = n ∧ l = []) ∨
  (n ≤ 2000 ∧ ∃ r, topF (tkF f n) (tkPos f n) m = .inl r ∧ VPth r.2.2.length (nI r.2.2) (nX r.2.2) (nR r.2.2) ∧ er = 0 ∧ at_ = 0 ∧ l = r.2.2)
theorem PAns.same {f : Nat → Int} {n m : Nat} {er at_ er' at' : Int} {l l' : List Nd} (h : PAns f n m er at_ l) (h' : PAns f n m er' at' l') : er = er' ∧ at_ = at' ∧ l = l' := by
  rcases h with ⟨h0, rfl, rfl, rfl⟩ | ⟨h0, x, e, hx, rfl, rfl, rfl⟩ | ⟨h0, r, e, hv, rfl, rfl, rfl⟩ | ⟨h0, r, e, hv, rfl, rfl, rfl⟩
  · rcases h' with ⟨k0, rfl, rfl, rfl⟩ | ⟨k0, _⟩ | ⟨k0, _⟩ | ⟨k0, _⟩
    · exact ⟨rfl, rfl, rfl⟩
    all_goals omega
  · rcases h' with ⟨k0, _⟩ | ⟨k0, x', e', hx', rfl, rfl, rfl⟩ | ⟨k0, r', e', _⟩ | ⟨k0, r', e', _⟩
    · omega
    · rw [e] at e'; cases e'; exact ⟨rfl, rfl, rfl⟩
    · rw [e] at e'; cases e'
    · rw [e] at e'; cases e'
  · rcases h' with ⟨k0, _⟩ | ⟨k0, x', e', _⟩ | ⟨k0, r', e', hv', rfl, rfl, rfl⟩ | ⟨k0, r', e', hv', _⟩
    · omega
    · rw [e] at e'; cases e'
    · exact ⟨rfl, rfl, rfl⟩
    · rw [e] at e'; cases e'; exact absurd hv' hv
  · rcases h' with ⟨k0, _⟩ | ⟨k0, x', e', _⟩ | ⟨k0, r', e', hv', _⟩ | ⟨k0, r', e', hv', rfl, rfl, rfl⟩
    · omega
    · rw [e] at e'; cases e'
    · rw [e] at e'; cases e'; exact absurd hv hv'
    · rw [e] at e'; cases e'; exact ⟨rfl, rfl, rfl⟩
end Go.Proofs.Ytocmbnocdjnfpaa
