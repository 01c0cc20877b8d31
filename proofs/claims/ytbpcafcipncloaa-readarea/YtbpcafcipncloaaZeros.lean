import Derived.Test.YtbpcafcipncloaaOwnP
import Derived.Test.YtbpcafcipncloaaToByteS
import Derived.WalkSpells
namespace Go.Proofs.Ytbpcafcipncloaa
open Go.RowKit Go.Deep

theorem ownB_ofOwns {w : World} {B : Nat} {v : Value} {n : Nat} {xs : List Value} {f : Nat → Int} (h : w.ownsRow B 5 1 v n xs) (hx : ∀ i, i < n → xs[i]? = some (.int .u8 (f i))) : ∃ a c, v = .slice a n c ∧ OwnB w B a n f ∧ n ≤ c ∧ c ≤ maxLen := by
  obtain ⟨hl, h⟩ := h
  rcases h with ⟨rfl, rfl⟩ | ⟨g, cap, cur, rfl, hg, hh, h1, h2, h3, h4⟩
  · exact ⟨none, 0, rfl, Or.inl rfl, Nat.le_refl _, Nat.zero_le _⟩
  · refine ⟨_, cap, rfl, Or.inr ⟨g, rfl, hg, cur, hh, by omega, fun i hi => ?_⟩, h1, h2⟩
    rw [← hx i hi, ← h4]
    have : i < n * 1 := by omega
    rw [List.getElem?_take, if_pos this]
    simp

set_option maxHeartbeats 400000 in
theorem zeros_any (n : Nat) (w : World) (hn : n ≤ 1048576) :
    Calls Try.prog 68 #[.int .i64 n] w fun e w' => ∃ a c, e = .returned (.slice a n c) ∧ OwnB w' w.heap.size a n (fun _ => 0) ∧ Below w.heap.size w w' := by
  obtain ⟨i0, hi, hz0, hz1, hz2⟩ := info_parts Try.info5
  have HI : Hid (Try.prog.info? 5 = some i0 ∧ i0.zero = some (.int .u8 0) ∧ i0.size = 1 ∧ i0.bytes = 1) := ⟨hi, hz0, hz1, hz2⟩
  clear hi hz0 hz1 hz2
  go_enter Try.func68, Try.ntmps68
  go_wp2
  go_loopw [3, 4] (fun v i wr => ∃ k : Nat, k ≤ n ∧ i = .int .i64 k ∧ wr.ownsRow w.heap.size 5 1 v k (List.replicate k (.int .u8 0)) ∧ Below w.heap.size w wr) (fun _ i _ => n - (intOf i).toNat)
  case atStart => exact ⟨0, Nat.zero_le _, rfl, World.ownsRow_lit w #[] 0 (Nat.le_refl _) (Nat.zero_le _) rfl, (Below.refl _ _).alloc (Nat.le_refl _) _⟩
  case round =>
    obtain ⟨k, hk, rfl, hown, hbel⟩ := hrel
    by_cases hlt : k < n
    · have hsz := hbel.size
      have HB : Hid (Below w.heap.size w wr) := hbel
      have HO : Hid (wr.ownsRow w.heap.size 5 1 u3 k (List.replicate k (.int .u8 0))) := hown
      clear hbel hown
      go_wp2_with (at_builtin; refine wpList_append_own _ rfl _ _ 24 rfl w.heap.size 5 i0 (.int .u8 0) 1 1 Try.underlying24 HI.out.1 HI.out.2.1 HI.out.2.2.1 HI.out.2.2.2 rfl (by decide) _ k (List.replicate k (.int .u8 0)) rfl (HO.out.alloc _) ⟨wr.heap.size, 0, none⟩ 1 1 [.int .u8 0] rfl rfl ?c1 ?c2 ?c3 ?c4 ?c5 ?_)
      case c1 => exact cell_one_new _ _ _
      case c2 => intro u hu; simp at hu; subst hu; rfl
      case c3 => unfold maxLen; omega
      case c4 => omega
      case c5 => simp; omega
      · intro v' w1 hown' hgrow _
        have HX : Hid (w1.ownsRow w.heap.size 5 1 v' (k + 1) (List.replicate (k + 1) (.int .u8 0)) ∧ Below w.heap.size w w1) :=
          ⟨by rw [List.replicate_succ']; exact hown', (HB.out.alloc hsz _).grown hgrow (by simp; omega) (fun b e => (HO.out.lt b e).1)⟩
        clear hown' hgrow HO HB
        go_wp2
        go_roundw
        case rel => exact ⟨k + 1, by omega, by go_num, HX.out⟩
        case measure => simp [intOf]; omega
    · have e : k = n := by omega
      subst e
      go_wp2
      go_ret
      obtain ⟨a, c, rfl, h1, _⟩ := ownB_ofOwns (f := fun _ => 0) hown (fun i hi => by simp [hi])
      exact ⟨a, c, rfl, h1, hbel⟩

theorem zeros_at (x : Int) (n : Nat) (w : World) (hx : x = (n : Int)) (hn : n ≤ 1048576) :
    Calls Try.prog 68 #[.int .i64 x] w fun e w' => ∃ a c, e = .returned (.slice a n c) ∧ OwnB w' w.heap.size a n (fun _ => 0) ∧ Below w.heap.size w w' := by
  subst hx
  exact zeros_any n w hn
end Go.Proofs.Ytbpcafcipncloaa
