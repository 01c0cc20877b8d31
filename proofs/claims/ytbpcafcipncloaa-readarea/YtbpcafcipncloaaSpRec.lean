import Derived.Test.YtbpcafcipncloaaL2Sw
import Derived.Test.YtbpcafcipncloaaRecW
import Derived.Maps.AppendAt
namespace Go.Proofs.Ytbpcafcipncloaa
open Go.RowKit Go.Deep
set_option linter.unusedVariables false
set_option maxRecDepth 100000

/-- Readable bytes appended to a row of the call's own, and where the row lies then. -/
theorem wpList_append_rd_at {w : World} {ops : Array Oper} {rest : List Oper} {o : Oper} {act : Act} {Q : Exit → Act → World → Prop} (hgd : o.guard = none) (s x : Operand)
    (ho : o.op = .call { callee := .builtin .append, args := #[s, x], argTypes := #[24, 24] })
    (B : Nat) (v : Value) (n : Nat) (xs : List Value) (hs : act.eval s = v) (hown : w.ownsRow B 5 1 v n xs)
    (a : Option Addr) (m c : Nat) (f : Nat → Int) (hx : act.eval x = .slice a m c) (hrd : Rd .u8 w a m f) (hnm : n + m ≤ 1099511627776) (hB : B ≤ w.heap.size)
    (h : ∀ v' w', w'.ownsRow B 5 1 v' (n + m) (xs ++ byteRow f m) → w.grownBy w' v.ownBlock → (v'.ownBlock = v.ownBlock ∨ v'.ownBlock = some w.heap.size) → wpList Try.prog ops Q rest (act.put o.dst v') w') : wpList Try.prog ops Q (o :: rest) act w := by
  obtain ⟨i0, hi, hz0, hz1, hz2⟩ := info_parts Try.info5
  by_cases hm : m = 0
  · subst hm
    have hsrc : Src Try.prog i0.size 24 (.slice a 0 c) 0 [] w := by
      cases a with
      | none => exact Src.ofNil w Try.underlying24 c
      | some ad => exact Src.ofSlice w Try.underlying24 ad 0 c [] (by simp) (by simp) (by simp)
    have hsh : ∃ b l cap, v = .slice b l cap ∧ l ≤ cap := by
      rcases hown.2 with ⟨rfl, rfl⟩ | ⟨g, cap, cur, rfl, _, _, h1, _⟩
      · exact ⟨none, 0, 0, rfl, Nat.le_refl _⟩
      · exact ⟨_, n, cap, rfl, h1⟩
    obtain ⟨b, l, cap, hvv, hlc⟩ := hsh
    have hrun := run_append_nothing (P := Try.prog) w 24 24 o.type 5 i0 Try.underlying24 hi b l cap hlc (.slice a 0 c) hsrc
    rw [← hvv] at hrun
    refine wpList_plain hgd fun K hK => ?_
    unfold Oper.wp
    simp [execOp, ho, resolve, invoke, builtin, hs, hx, hrun, Result.andThen]
    exact hK _ _ (h v w (by simpa [byteRow] using hown) ⟨rfl, rfl, rfl, Nat.le_refl _, fun _ _ _ => rfl⟩ (Or.inl rfl))
  · rcases hrd with h0 | ⟨b, off, rfl, hc⟩
    · exact absurd h0 hm
    · refine wpList_append_own_at w hgd s x 24 ho B 5 i0 (.int .u8 0) 1 1 Try.underlying24 hi hz0 hz1 hz2 rfl (by decide) v n xs hs hown ⟨b, off, none⟩ m c (byteRow f m) hx (by simp [byteRow]) (fun j u hj => ?_) (fun u hu => ?_) (by unfold maxLen; omega) (by omega) hB (fun v' w' h1 h2 _ h4 => h v' w' h1 h2 h4)
      · have hjm : j < m := by
          have := (List.getElem?_eq_some_iff.1 hj).1
          rwa [byteRow_length] at this
        rw [byteRow_get f m j hjm] at hj
        injection hj with hj
        subst hj
        have e : (Addr.add ⟨b, off, none⟩ j) = ⟨b, off + j, none⟩ := by
          unfold Addr.add
          by_cases h : j = 0
          · subst h; simp
          · simp [h]
        rw [e]
        exact hc j hjm
      · simp only [byteRow, List.mem_map] at hu
        obtain ⟨i, _, rfl⟩ := hu
        rfl

theorem run_mid (a : Option Addr) (n c lo hi : Nat) (h1 : lo ≤ hi) (h2 : hi ≤ c) (w : World) : (Instr.sliceAt 24 (.slice a n c) (some (.int .i64 (lo : Int))) (some (.int .i64 (hi : Int))) none).run Try.prog w = .ok (.slice (shA a lo c) (hi - lo) (c - lo)) w := by
  simp [Instr.sliceAt, Instr.slice, go_sem, shA]
  by_cases e1 : hi ≤ c
  · simp [e1]
    intro h
    omega
  · omega

theorem rd_mid {w : World} {a : Option Addr} {n lo hi : Nat} {f : Nat → Int} (c : Nat) (h : Rd .u8 w a n f) (h1 : lo ≤ hi) (h2 : hi ≤ n) (hc : n ≤ c) : Rd .u8 w (shA a lo c) (hi - lo) (fun j => f (lo + j)) :=
  rd_take (rd_shift c h (by omega) hc) (by omega)

theorem horn_at2 (f : Nat → Int) (o : Nat) : hornN (fun i => f (o + i)) 2 2 = getN f o 2 := by
  simp [hornN, getN]
  omega

theorem getN2_range {f : Nat → Int} {o : Nat} (h : ∀ i, i < 64 → 0 ≤ f i ∧ f i < 256) (ho : o + 1 < 64) : 0 ≤ getN f o 2 ∧ getN f o 2 < 65536 := by
  have h0 := h o (by omega)
  have h1 := h (o + 1) (by omega)
  simp [getN]
  omega

/-- The state of spec.ReadRec behind x sectors. -/
structure RrSt (B : Nat) (wr : World) (G : Nat → Nat → Int) (x : Nat) (v u : Value) : Prop where
  pay : wr.ownsRow B 5 1 v (catL (recLz G) x) (byteRow (catF (recLz G) (recFz G) x) (catL (recLz G) x))
  raw : wr.ownsRow B 5 1 u (catL (fun _ => 64) x) (byteRow (catF (fun _ => 64) G x) (catL (fun _ => 64) x))
  apart : ∀ g, v.ownBlock = some g → u.ownBlock = some g → False
  le : B ≤ wr.heap.size

theorem catL64 (x : Nat) : catL (fun _ => 64) x = 64 * x := by
  induction x with
  | zero => rfl
  | succ x ih => simp only [catL, ih]; omega

theorem ownsRow_in {w : World} {B t s n g : Nat} {v : Value} {xs : List Value} (h : w.ownsRow B t s v n xs) (hg : v.ownBlock = some g) : B ≤ g ∧ g < w.heap.size := by
  rcases h.2 with ⟨hv, _⟩ | ⟨g', cap, cur, hv, hle, hh, _⟩
  · rw [hv] at hg; simp [Value.ownBlock] at hg
  · rw [hv] at hg
    simp [Value.ownBlock] at hg
    subst hg
    exact ⟨hle, (Array.getElem?_eq_some_iff.1 hh).1⟩

theorem ownsRow_kept {w w' : World} {B t s n : Nat} {v : Value} {xs : List Value} {row : Option Nat} (h : w.ownsRow B t s v n xs) (hg : w.grownBy w' row) (hne : ∀ g, v.ownBlock = some g → row = some g → False) : w'.ownsRow B t s v n xs := by
  refine ⟨h.1, ?_⟩
  rcases h.2 with h0 | ⟨g, cap, cur, hv, hle, hh, q⟩
  · exact Or.inl h0
  · refine Or.inr ⟨g, cap, cur, hv, hle, (hg.block g (Array.getElem?_eq_some_iff.1 hh).1 (fun e => hne g (by rw [hv]; rfl) e.symm)).trans hh, q⟩

theorem ownsRow_below {w w' : World} {B t s n : Nat} {v : Value} {xs : List Value} (h : w.ownsRow B t s v n xs) (hb : Below w.heap.size w w') : w'.ownsRow B t s v n xs := by
  refine ⟨h.1, ?_⟩
  rcases h.2 with h0 | ⟨g, cap, cur, hv, hle, hh, q⟩
  · exact Or.inl h0
  · exact Or.inr ⟨g, cap, cur, hv, hle, (hb.block g (Array.getElem?_eq_some_iff.1 hh).1).trans hh, q⟩

theorem RrSt.below {B : Nat} {wr w2 : World} {G : Nat → Nat → Int} {x : Nat} {v u : Value} (h : RrSt B wr G x v u) (hb : Below wr.heap.size wr w2) : RrSt B w2 G x v u :=
  ⟨ownsRow_below h.pay hb, ownsRow_below h.raw hb, h.apart, Nat.le_trans h.le hb.size⟩

theorem RrSt.next {B : Nat} {wr w1 w2 : World} {G : Nat → Nat → Int} {x : Nat} {v u v' u' : Value} (h : RrSt B wr G x v u)
    (o1 : w1.ownsRow B 5 1 v' (catL (recLz G) x + recLz G x) (byteRow (catF (recLz G) (recFz G) x) (catL (recLz G) x) ++ byteRow (recFz G x) (recLz G x))) (g1 : wr.grownBy w1 v.ownBlock) (l1 : v'.ownBlock = v.ownBlock ∨ v'.ownBlock = some wr.heap.size)
    (o2 : w2.ownsRow B 5 1 u' (catL (fun _ => 64) x + 64) (byteRow (catF (fun _ => 64) G x) (catL (fun _ => 64) x) ++ byteRow (G x) 64)) (g2 : w1.grownBy w2 u.ownBlock) (l2 : u'.ownBlock = u.ownBlock ∨ u'.ownBlock = some w1.heap.size) :
    RrSt B w2 G (x + 1) v' u' := by
  have ap1 : ∀ g, v'.ownBlock = some g → u.ownBlock = some g → False := by
    intro g h1 h2
    rcases l1 with l1 | l1
    · exact h.apart g (l1.symm.trans h1) h2
    · rw [l1] at h1
      injection h1 with h1
      have := (ownsRow_in h.raw h2).2
      omega
  have p2 := ownsRow_kept o1 g2 (fun g e1 e2 => ap1 g e1 e2)
  refine ⟨?_, ?_, ?_, Nat.le_trans h.le (Nat.le_trans g1.size g2.size)⟩
  · show w2.ownsRow B 5 1 v' (catL (recLz G) x + recLz G x) (byteRow (fun j => if j < catL (recLz G) x then catF (recLz G) (recFz G) x j else recFz G x (j - catL (recLz G) x)) (catL (recLz G) x + recLz G x))
    rw [← byteRow_cat]
    exact p2
  · show w2.ownsRow B 5 1 u' (catL (fun _ => 64) x + 64) (byteRow (fun j => if j < catL (fun _ => 64) x then catF (fun _ => 64) G x j else G x (j - catL (fun _ => 64) x)) (catL (fun _ => 64) x + 64))
    rw [← byteRow_cat]
    exact o2
  · intro g h1 h2
    rcases l2 with l2 | l2
    · exact ap1 g h1 (l2.symm.trans h2)
    · rw [l2] at h2
      injection h2 with h2
      have := (ownsRow_in o1 h1).2
      omega
end Go.Proofs.Ytbpcafcipncloaa
