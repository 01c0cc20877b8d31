import Derived.Test.YtocmbnocdjnfpaaPpM
namespace Go.Proofs.Ytocmbnocdjnfpaa
open Go.RowKit Go.Deep
set_option linter.unusedVariables false
set_option maxRecDepth 100000

theorem infoS : (Try.prog.info? 9).map (fun i => (i.zero, i.size, i.bytes)) = some (some (.string { data := #[] }), 1, 16) := by kernel_rfl
def picks (Y : Nat → ByteArray) (F : Nat → Nat) (q : Nat) : List Value := (List.range q).map (fun j => Value.string (Y (F j)))
theorem picks_succ (Y : Nat → ByteArray) (F : Nat → Nat) (q : Nat) : picks Y F (q + 1) = picks Y F q ++ [.string (Y (F q))] := by unfold picks; rw [List.range_succ, List.map_append]; rfl

set_option maxHeartbeats 1000000 in
theorem pickS_any (gt n ct : Nat) (Y : Nat → ByteArray) (aa : Option Addr) (q ca : Nat) (F : Nat → Nat) (w : World) (h1 : ∀ i, i < n → w.cell? ⟨gt, i, none⟩ = some (.string (Y i))) (h2 : Rd .i64 w aa q (fun j => (F j : Int))) (hF : ∀ j, j < q → F j < n) (hq : q ≤ 1000) (hn : n ≤ 1000) :
    Calls Try.prog 49 #[.slice (some ⟨gt, 0, none⟩) n ct, .slice aa q ca] w fun e w' => ∃ v, e = .returned v ∧ w'.ownsRow w.heap.size 9 1 v q (picks Y F q) ∧ Below w.heap.size w w' := by
  have HR : Hid ((∀ i, i < n → w.cell? ⟨gt, i, none⟩ = some (.string (Y i))) ∧ Rd .i64 w aa q (fun j => (F j : Int)) ∧ ∀ j, j < q → F j < n) := ⟨h1, h2, hF⟩
  clear h1 h2 hF
  obtain ⟨i0, hi, hz0, hz1, hz2⟩ := info_parts infoS
  have HI : Hid (Try.prog.info? 9 = some i0 ∧ i0.zero = some (.string { data := #[] }) ∧ i0.size = 1 ∧ i0.bytes = 16) := ⟨hi, hz0, hz1, hz2⟩
  clear hi hz0 hz1 hz2
  go_enter Try.func49, Try.ntmps49
  go_wp2
  go_loopw [5, 7, 10] (fun u _ i wr => ∃ k : Nat, k ≤ q ∧ i = .int .i64 k ∧ wr.ownsRow w.heap.size 9 1 u k (picks Y F k) ∧ Below w.heap.size w wr) (fun _ _ i _ => q - (intOf i).toNat)
  case atStart => exact ⟨0, Nat.zero_le _, rfl, ⟨rfl, .inl ⟨rfl, rfl⟩⟩, Below.refl _ _⟩
  case round =>
    obtain ⟨k, hk, rfl, hown, hbr⟩ := hrel
    have HO : Hid (wr.ownsRow w.heap.size 9 1 u5 k (picks Y F k) ∧ Below w.heap.size w wr) := ⟨hown, hbr⟩
    have hsz := hbr.size
    clear hown hbr
    by_cases hlt : k < q
    · rcases HR.out.2.1 with h0 | ⟨ba, oa, ea, hca⟩
      · omega
      subst ea
      have c1 : wr.cell? ⟨ba, oa + k, none⟩ = some (.int .i64 (F k : Int)) := (HO.out.2.cell (World.block_lt_of_cell? _ _ (hca k hlt))).trans (hca k hlt)
      have hFk := HR.out.2.2 k hlt
      have c2 : wr.cell? ⟨gt, F k, none⟩ = some (.string (Y (F k))) := (HO.out.2.cell (World.block_lt_of_cell? _ _ (HR.out.1 _ hFk))).trans (HR.out.1 _ hFk)
      obtain ⟨fk, hfk⟩ : ∃ fk, fk = F k := ⟨_, rfl⟩
      rw [← hfk] at c1 c2 hFk
      have HF2 : Hid (fk = F k) := hfk
      clear hca hfk
      have k0 : (0 : Int) ≤ (k : Int) := by omega
      have k1 : (k : Int) < (q : Int) := by omega
      have f0 : (0 : Int) ≤ (fk : Int) := by omega
      have f1 : (fk : Int) < (n : Int) := by omega
      go_wp2_with (at_builtin; refine wpList_append_own _ rfl _ _ 49 rfl w.heap.size 9 i0 (.string { data := #[] }) 1 16 (by kernel_rfl) HI.out.1 HI.out.2.1 HI.out.2.2.1 HI.out.2.2.2 rfl (by decide) u5 k (picks Y F k) rfl (HO.out.1.alloc _) ⟨wr.heap.size, 0, none⟩ 1 1 [.string (Y fk)] rfl rfl (new_cells _ [.string (Y fk)] _) (fun u hu => by simp at hu; subst hu; rfl) (by unfold maxLen; omega) (by omega) (by simp; omega) ?_)
      intro v' w1 ho hg _
      have HX : Hid (w1.ownsRow w.heap.size 9 1 v' (k + 1) (picks Y F (k + 1)) ∧ Below w.heap.size w w1) := by
        rw [picks_succ, ← HF2.out]
        exact ⟨ho, (HO.out.2.alloc hsz _).grown hg (by simp; omega) (fun b e => (HO.out.1.lt b e).1)⟩
      clear ho hg HO c1 c2
      go_wp2
      go_roundw
      case rel => exact ⟨k + 1, by omega, by go_num, HX.out⟩
      case measure => simp [intOf]; omega
    · have e : k = q := by omega
      subst e
      have l1 : ¬ (k : Int) < (k : Int) := by omega
      go_wp2
      go_ret
      exact ⟨_, rfl, HO.out⟩
set_option maxHeartbeats 400000 in
theorem lastS_any (gt n ct : Nat) (y : ByteArray) (w : World) (h : w.cell? ⟨gt, n, none⟩ = some (.string y)) (hn : n ≤ 1000) : Calls Try.prog 50 #[.slice (some ⟨gt, 0, none⟩) (n + 1) ct] w fun e w' => e = .returned (.string y) ∧ w' = w := by
  have hw : IntKind.i64.wrap (((n + 1 : Nat) : Int) - 1) = (n : Int) := by rw [IntKind.wrap_i64]; omega
  have hw2 : IntKind.i64.wrap ((n : Int) + 1 - 1) = (n : Int) := by rw [IntKind.wrap_i64]; omega
  go_enter Try.func50, Try.ntmps50
  go_wp2
  go_ret
  exact ⟨rfl, rfl⟩
end Go.Proofs.Ytocmbnocdjnfpaa
