import Derived.Test.YtocmbnocdjnfpaaPpO
import Derived.Test.YtocmbnocdjnfpaaPlA
namespace Go.Proofs.Ytocmbnocdjnfpaa
open Go.RowKit Go.Deep
set_option linter.unusedVariables false
set_option maxRecDepth 100000

theorem app_pl {ops : Array Oper} {rest : List Oper} {o : Oper} {a : Act} {w2 : World} {Q : Exit → Act → World → Prop} (hgd : o.guard = none) (x y : Operand)
    (ho : o.op = .call { callee := .builtin .append, args := #[x, y], argTypes := #[65, 65] })
    (B k : Nat) (v : Value) (xs : List Value) (p : Plc) (hx : a.eval x = v) (hown : w2.ownsRow B 73 7 v k xs) (hy : a.eval y = .slice (some ⟨w2.heap.size, 0, none⟩) 1 1)
    (hk : k ≤ 1048576) (hB : B ≤ w2.heap.size)
    (h : ∀ v' w', w'.ownsRow B 73 7 v' (k + 1) (xs ++ p.cells) → (w2.alloc (.cells #[.int .i64 p.kind, .string p.s, .string p.t, .bool p.bound, .string p.label, .slice p.ad p.cnt p.cap, .int .i64 p.height] 73)).grownBy w' v.ownBlock → wpList Try.prog ops Q rest (a.put o.dst v') w') :
    wpList Try.prog ops Q (o :: rest) a (w2.alloc (.cells #[.int .i64 p.kind, .string p.s, .string p.t, .bool p.bound, .string p.label, .slice p.ad p.cnt p.cap, .int .i64 p.height] 73)) := by
  obtain ⟨i0, hi, hz0, hz1, hz2⟩ := info_parts infoPl
  exact wpList_append_own _ hgd x y 65 ho B 73 i0 _ 7 96 underPls hi hz0 hz1 hz2 rfl (by decide) v k xs hx (hown.alloc _) ⟨w2.heap.size, 0, none⟩ 1 1 p.cells hy rfl (plc_new w2 p) (plc_one p) (by unfold maxLen; omega) (by omega) (by simp; omega) (fun v' w' q1 q2 _ => h v' w' q1 q2)

set_option maxHeartbeats 2000000 in
theorem pickP_any (gp n ct : Nat) (f : Nat → Plc) (aa : Option Addr) (q ca : Nat) (F : Nat → Nat) (w : World) (h1 : PlAt w gp n f) (h2 : Rd .i64 w aa q (fun j => (F j : Int))) (hF : ∀ j, j < q → F j < n) (hq : q ≤ 1000) (hn : n ≤ 1000) :
    Calls Try.prog 48 #[.slice (some ⟨gp, 0, none⟩) n ct, .slice aa q ca] w fun e w' => ∃ v, e = .returned v ∧ w'.ownsRow w.heap.size 73 7 v q (plRow (fun j => f (F j)) q) ∧ Below w.heap.size w w' := by
  have HR : Hid (PlAt w gp n f ∧ Rd .i64 w aa q (fun j => (F j : Int)) ∧ ∀ j, j < q → F j < n) := ⟨h1, h2, hF⟩
  clear h1 h2 hF
  go_enter Try.func48, Try.ntmps48
  go_wp2
  go_loopw [5, 7, 10] (fun u _ i wr => ∃ k : Nat, k ≤ q ∧ i = .int .i64 k ∧ wr.ownsRow w.heap.size 73 7 u k (plRow (fun j => f (F j)) k) ∧ Below w.heap.size w wr) (fun _ _ i _ => q - (intOf i).toNat)
  case atStart => exact ⟨0, Nat.zero_le _, rfl, ⟨rfl, .inl ⟨rfl, rfl⟩⟩, Below.refl _ _⟩
  case round =>
    obtain ⟨k, hk, rfl, hown, hbr⟩ := hrel
    have HO : Hid (wr.ownsRow w.heap.size 73 7 u5 k (plRow (fun j => f (F j)) k) ∧ Below w.heap.size w wr) := ⟨hown, hbr⟩
    have hsz := hbr.size
    clear hown hbr
    by_cases hlt : k < q
    · rcases HR.out.2.1 with h0 | ⟨ba, oa, ea, hca⟩
      · omega
      subst ea
      have c1 : wr.cell? ⟨ba, oa + k, none⟩ = some (.int .i64 (F k : Int)) := (HO.out.2.cell (World.block_lt_of_cell? _ _ (hca k hlt))).trans (hca k hlt)
      have hFk := HR.out.2.2 k hlt
      obtain ⟨fk, hfk⟩ : ∃ fk, fk = F k := ⟨_, rfl⟩
      rw [← hfk] at c1 hFk
      have HF2 : Hid (fk = F k) := hfk
      have hp := HR.out.1.below (HO.out.2.mono (Nat.le_refl _))
      obtain ⟨p, hpp⟩ : ∃ p, p = f fk := ⟨_, rfl⟩
      have cc : ∀ r, r < 7 → wr.cell? ⟨gp, fk * 7 + r, none⟩ = p.cells[r]? := fun r hr => by rw [hpp]; exact hp.cell hFk hr
      have d0 := cc 0 (by omega)
      have d1 := cc 1 (by omega)
      have d2 := cc 2 (by omega)
      have d3 := cc 3 (by omega)
      have d4 := cc 4 (by omega)
      have d5 := cc 5 (by omega)
      have d6 := cc 6 (by omega)
      simp [Plc.cells] at d0 d1 d2 d3 d4 d5 d6
      have HP : Hid (p = f (F k)) := by show _ = _; rw [hpp, hfk]
      clear hca hfk hp cc hpp
      have k0 : (0 : Int) ≤ (k : Int) := by omega
      have k1 : (k : Int) < (q : Int) := by omega
      have f0 : (0 : Int) ≤ (fk : Int) := by omega
      have f1 : (fk : Int) < (n : Int) := by omega
      go_wp2_with (at_builtin; refine app_pl rfl _ _ rfl w.heap.size k u5 (plRow (fun j => f (F j)) k) p rfl HO.out.1 rfl (by omega) hsz ?_)
      intro v' w1 ho hg
      have HX : Hid (w1.ownsRow w.heap.size 73 7 v' (k + 1) (plRow (fun j => f (F j)) (k + 1)) ∧ Below w.heap.size w w1) := by
        rw [plRow_succ, ← HP.out]
        exact ⟨ho, (HO.out.2.alloc hsz _).grown hg (by simp; omega) (fun b e => (HO.out.1.lt b e).1)⟩
      clear ho hg HO c1 d0 d1 d2 d3 d4 d5 d6
      go_wp2
      go_roundw
      case rel => exact ⟨k + 1, by omega, by go_num, HX.out⟩
      case measure => simp [intOf]; omega
    · have e : k = q := by omega
      subst e
      have l1 : ¬ (k : Int) < (k : Int) := by omega
      go_wp2
      go_ret
      exact ⟨_, rfl, HO.out⟩
end Go.Proofs.Ytocmbnocdjnfpaa
