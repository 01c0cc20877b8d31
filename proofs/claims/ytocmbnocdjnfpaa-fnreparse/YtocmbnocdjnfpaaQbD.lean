import Derived.Test.YtocmbnocdjnfpaaQbC
import Derived.Test.YtocmbnocdjnfpaaPlS
import Derived.Test.YtocmbnocdjnfpaaPpX
import Derived.Maps.AppendAt
namespace Go.Proofs.Ytocmbnocdjnfpaa
open Go.RowKit Go.Deep
set_option linter.unusedVariables false
set_option linter.unusedSimpArgs false
set_option maxRecDepth 100000

def NdA (w : World) (B : Nat) (v : Value) (l : List Nd) : Prop := w.ownsRow B 61 3 v l.length (ndR l)
def enC (x : Ent) : List Value := [.int .i64 (x.k : Int), .string (strT x.l)]
def enR (l : List Ent) : List Value := l.flatMap enC
theorem enR_length (l : List Ent) : (enR l).length = l.length * 2 := by
  unfold enR
  induction l with
  | nil => rfl
  | cons a l ih => rw [List.flatMap_cons, List.length_append, ih, List.length_cons]; show 2 + _ = _; omega
theorem enR_one (l : List Ent) : ∀ u ∈ enR l, u.oneCell' = true := by
  intro u hu
  unfold enR at hu
  obtain ⟨x, _, hx⟩ := List.mem_flatMap.1 hu
  simp [enC] at hx
  rcases hx with rfl | rfl <;> rfl
/-- The stack, its top at the row's end. -/
def EnA (w : World) (B : Nat) (v : Value) (st : List Ent) : Prop := w.ownsRow B 149 2 v st.length (enR st.reverse)

/-- A row's block: as before, or new. -/
def SmB (z : Nat) (v v' : Value) : Prop := v'.ownBlock = v.ownBlock ∨ ∃ b, z ≤ b ∧ v'.ownBlock = some b
theorem grown_step {w w1 w2 : World} {v v1 : Value} (h : w.grownBy w1 v.ownBlock) (hb : SmB w.heap.size v v1) (k : w1.grownBy w2 v1.ownBlock) : w.grownBy w2 v.ownBlock := by
  refine ⟨k.os.trans h.os, k.tape.trans h.tape, k.output.trans h.output, Nat.le_trans h.size k.size, fun b hb' hne => ?_⟩
  rw [k.block b (Nat.lt_of_lt_of_le hb' h.size) ?_, h.block b hb' hne]
  rcases hb with e | ⟨b', h1, e⟩
  · rw [e]; exact hne
  · rw [e]
    intro e'
    injection e' with e'
    omega
theorem smB_step {z z1 : Nat} {v v1 v2 : Value} (h : SmB z v v1) (hz : z ≤ z1) (k : SmB z1 v1 v2) : SmB z v v2 := by
  rcases k with e | ⟨b, h1, e⟩
  · rcases h with e2 | ⟨b, h1, e2⟩
    · exact .inl (e.trans e2)
    · exact .inr ⟨b, h1, e.trans e2⟩
  · exact .inr ⟨b, by omega, e⟩
theorem grown_refl (w : World) (r : Option Nat) : w.grownBy w r := ⟨rfl, rfl, rfl, Nat.le_refl _, fun _ _ _ => rfl⟩
theorem grown_alloc {w w1 : World} {r : Option Nat} (h : w.grownBy w1 r) (o : Obj) : w.grownBy (w1.alloc o) r := grownN_trans h (grownN_below (below_alloc _ _) r)

theorem NdA.other {w w' : World} {B : Nat} {v v' : Value} {l : List Nd} {B' : Nat} {s n' : Nat} {t : TypeId} {xs : List Value} (h : NdA w B v l) (hg : w.grownBy w' v'.ownBlock) (hr : w.ownsRow B' t s v' n' xs) (ht : t ≠ 61) : NdA w' B v l := by
  refine plS_keep h (fun g e => hg.block g (h.lt _ e).2 (fun e2 => ?_))
  obtain ⟨cur, hh⟩ := plS_ty h e
  obtain ⟨cur', hh'⟩ := plS_ty hr e2.symm
  exact plS_ne hh' hh ht
theorem EnA.other {w w' : World} {B : Nat} {v v' : Value} {l : List Ent} {B' : Nat} {s n' : Nat} {t : TypeId} {xs : List Value} (h : EnA w B v l) (hg : w.grownBy w' v'.ownBlock) (hr : w.ownsRow B' t s v' n' xs) (ht : t ≠ 149) : EnA w' B v l := by
  refine plS_keep h (fun g e => hg.block g (h.lt _ e).2 (fun e2 => ?_))
  obtain ⟨cur, hh⟩ := plS_ty h e
  obtain ⟨cur', hh'⟩ := plS_ty hr e2.symm
  exact plS_ne hh' hh ht
theorem NdA.below {w w' : World} {B : Nat} {v : Value} {l : List Nd} (h : NdA w B v l) (hb : Below w.heap.size w w') : NdA w' B v l := plS_below h hb
theorem EnA.below {w w' : World} {B : Nat} {v : Value} {l : List Ent} (h : EnA w B v l) (hb : Below w.heap.size w w') : EnA w' B v l := plS_below h hb

/-- A node appended. -/
theorem app_nd {w : World} {ops : Array Oper} {rest : List Oper} {o : Oper} {act : Act} {Q : Exit → Act → World → Prop} (hgd : o.guard = none) (s x : Operand)
    (ho : o.op = .call { callee := .builtin .append, args := #[s, x], argTypes := #[27, 27] })
    (B : Nat) (v : Value) (l : List Nd) (hs : act.eval s = v) (hown : NdA w B v l) (g : Nat) (y : Nd) (hx : act.eval x = .slice (some ⟨g, 0, none⟩) 1 1)
    (hrd : ∀ j u, (ndC y)[j]? = some u → w.cell? (Addr.add ⟨g, 0, none⟩ j) = some u) (hl : l.length ≤ 1048576) (hB : B ≤ w.heap.size)
    (h : ∀ v' w', NdA w' B v' (l ++ [y]) → w.grownBy w' v.ownBlock → SmB w.heap.size v v' → wpList Try.prog ops Q rest (act.put o.dst v') w') : wpList Try.prog ops Q (o :: rest) act w := by
  obtain ⟨i0, hi, hz0, hz1, hz2⟩ := info_parts infoPN
  refine wpList_append_own_at w hgd s x 27 ho B 61 i0 _ 3 40 Try.underlying27 hi hz0 hz1 hz2 rfl (by decide) v l.length (ndR l) hs hown ⟨g, 0, none⟩ 1 1 (ndC y) hx rfl hrd (fun u hu => ndR_one [y] u (by simpa [ndR] using hu)) (by unfold maxLen; omega) (by omega) hB (fun v' w' h1 h2 _ h4 => h v' w' ?_ h2 ?_)
  · unfold NdA
    rw [ndR_app, List.length_append]
    simpa [ndR] using h1
  · rcases h4 with e | e
    · exact .inl e
    · exact .inr ⟨_, Nat.le_refl _, e⟩
/-- Something pushed. -/
theorem app_en {w : World} {ops : Array Oper} {rest : List Oper} {o : Oper} {act : Act} {Q : Exit → Act → World → Prop} (hgd : o.guard = none) (s x : Operand)
    (ho : o.op = .call { callee := .builtin .append, args := #[s, x], argTypes := #[142, 142] })
    (B : Nat) (v : Value) (l : List Ent) (hs : act.eval s = v) (hown : EnA w B v l) (g : Nat) (y : Ent) (hx : act.eval x = .slice (some ⟨g, 0, none⟩) 1 1)
    (hrd : ∀ j u, (enC y)[j]? = some u → w.cell? (Addr.add ⟨g, 0, none⟩ j) = some u) (hl : l.length ≤ 1048576) (hB : B ≤ w.heap.size)
    (h : ∀ v' w', EnA w' B v' (y :: l) → w.grownBy w' v.ownBlock → SmB w.heap.size v v' → wpList Try.prog ops Q rest (act.put o.dst v') w') : wpList Try.prog ops Q (o :: rest) act w := by
  obtain ⟨i0, hi, hz0, hz1, hz2⟩ := info_parts infoEN
  refine wpList_append_own_at w hgd s x 142 ho B 149 i0 _ 2 24 Try.underlying142 hi hz0 hz1 hz2 rfl (by decide) v l.length (enR l.reverse) hs hown ⟨g, 0, none⟩ 1 1 (enC y) hx rfl hrd (fun u hu => enR_one [y] u (by simpa [enR] using hu)) (by unfold maxLen; omega) (by omega) hB (fun v' w' h1 h2 _ h4 => h v' w' ?_ h2 ?_)
  · unfold EnA
    have e : enR (y :: l).reverse = enR l.reverse ++ enC y := by simp [enR]
    rw [e]
    exact h1
  · rcases h4 with e | e
    · exact .inl e
    · exact .inr ⟨_, Nat.le_refl _, e⟩

/-- The top of the stack, and what is below. -/
theorem EnA.top {w : World} {B : Nat} {v : Value} {x : Ent} {l : List Ent} (h : EnA w B v (x :: l)) : ∃ g cap, v = .slice (some ⟨g, 0, none⟩) (l.length + 1) cap ∧ l.length + 1 ≤ cap ∧ cap ≤ 9223372036854775807 ∧
    w.cell? ⟨g, l.length * 2, none⟩ = some (.int .i64 (x.k : Int)) ∧ w.cell? ⟨g, l.length * 2 + 1, none⟩ = some (.string (strT x.l)) ∧ EnA w B (.slice (some ⟨g, 0, none⟩) l.length cap) l ∧ g < w.heap.size := by
  obtain ⟨h0, ⟨_, h1⟩ | ⟨g, cap, cur, e, hg, hh, h1, h2, h3, h4⟩⟩ := h
  · simp at h1
  · have hlen : (enR l.reverse).length = l.length * 2 := by rw [enR_length, List.length_reverse]
    have e4 : cur.toList.take ((l.length + 1) * 2) = enR l.reverse ++ enC x := by rw [show l.length + 1 = (x :: l).length from rfl, h4]; simp [enR]
    have hg' : g < w.heap.size := by
      have := Array.getElem?_eq_some_iff.1 hh
      exact this.1
    have cell : ∀ j, j < 2 → w.cell? ⟨g, l.length * 2 + j, none⟩ = (enC x)[j]? := by
      intro j hj
      unfold World.cell?
      rw [hh]
      show cur[l.length * 2 + j]? = _
      have := congrArg (fun z => z[l.length * 2 + j]?) e4
      simp only [List.getElem?_take] at this
      rw [if_pos (by omega), List.getElem?_append_right (by omega), hlen, Nat.add_sub_cancel_left] at this
      rw [← this]
      simp
    unfold maxLen at h2
    refine ⟨g, cap, e, h1, h2, cell 0 (by omega), cell 1 (by omega), ⟨hlen, .inr ⟨g, cap, cur, rfl, hg, hh, by have : l.length + 1 ≤ cap := h1; omega, h2, h3, ?_⟩⟩, hg'⟩
    have := congrArg (List.take (l.length * 2)) e4
    rw [List.take_take, Nat.min_eq_left (by omega), List.take_append_of_le_length (by omega)] at this
    rw [this, List.take_of_length_le (by omega)]
def lenV : Value → Nat
  | .slice _ n _ => n
  | _ => 0
theorem EnA.len {w : World} {B : Nat} {v : Value} {l : List Ent} (h : EnA w B v l) : ∃ a c, v = .slice a l.length c ∧ l.length ≤ c ∧ c ≤ 9223372036854775807 := by
  obtain ⟨h0, ⟨e, h1⟩ | ⟨g, cap, cur, e, hg, hh, h1, h2, _⟩⟩ := h
  · rw [h1]; exact ⟨none, 0, e, Nat.le_refl _, by omega⟩
  · exact ⟨_, cap, e, h1, h2⟩
theorem runToE (b r c hi : Nat) (h1 : hi ≤ c) (hc : c ≤ 9223372036854775807) (w : World) : (Instr.sliceAt 142 (.slice (some ⟨b, 0, none⟩) r c) none (some (.int .i64 (hi : Int))) none).run Try.prog w = .ok (.slice (some ⟨b, 0, none⟩) hi c) w := by
  simp [Instr.sliceAt, Instr.slice, go_sem]
  intro h
  omega

/-- What drains: the rows behind. -/
def DrnRet (B : Nat) (vs vo : Value) (least : Nat) (st : List Ent) (o : List Nd) (w : World) (e : Ending) (w' : World) : Prop :=
  ∃ vs' vo', e = .returned (.tuple #[vs', vo']) ∧ EnA w' B vs' (drn least st o).1 ∧ NdA w' B vo' (drn least st o).2 ∧ w.grownBy w' vo.ownBlock ∧ SmB w.heap.size vo vo' ∧ vs'.ownBlock = vs.ownBlock

set_option maxHeartbeats 2000000 in
theorem l6Drain_any (B : Nat) (vs vo : Value) (least : Nat) (st : List Ent) (o : List Nd) (w : World) (hs : EnA w B vs st) (ho : NdA w B vo o) (hB : B ≤ w.heap.size) (hn : o.length + st.length ≤ 10000) (hk : ∀ x, x ∈ st → x.k ≤ 15) :
    Calls Try.prog 108 #[vs, vo, .int .i64 (least : Int)] w (DrnRet B vs vo least st o w) := by
  have HS : Hid (EnA w B vs st) := hs
  have HO : Hid (NdA w B vo o) := ho
  have HK : Hid (∀ x, x ∈ st → x.k ≤ 15) := hk
  clear hs ho hk
  go_enter Try.func108, Try.ntmps108
  go_wp2
  go_loopw [0, 1] (fun us uo wr => ∃ (st' : List Ent) (o' : List Nd), EnA wr B us st' ∧ NdA wr B uo o' ∧ drn least st' o' = drn least st o ∧ o'.length + st'.length = o.length + st.length ∧ (∀ x, x ∈ st' → x.k ≤ 15) ∧ w.grownBy wr vo.ownBlock ∧ SmB w.heap.size vo uo ∧ us.ownBlock = vs.ownBlock) (fun us _ _ => lenV us)
  case atStart => exact ⟨st, o, HS.out, HO.out, rfl, rfl, HK.out, grown_refl _ _, .inl rfl, rfl⟩
  case round =>
    obtain ⟨st', o', hs, ho, hd, hn', hk, hg, hb, hv⟩ := hrel
    have H : Hid (NdA wr B u1 o' ∧ drn least st' o' = drn least st o ∧ o'.length + st'.length = o.length + st.length ∧ (∀ x, x ∈ st' → x.k ≤ 15) ∧ w.grownBy wr vo.ownBlock ∧ SmB w.heap.size vo u1 ∧ u0.ownBlock = vs.ownBlock) := ⟨ho, hd, hn', hk, hg, hb, hv⟩
    have hsz := hg.size
    have hl : o'.length + st'.length ≤ 10000 := by omega
    clear ho hd hn' hk hg hb hv
    cases st' with
    | nil =>
      obtain ⟨a, c, rfl, _⟩ := hs.len
      have HSS : Hid (EnA wr B (.slice a 0 c) []) := hs
      clear hs
      go_wp2
      refine bodyPost_ret (v := .tuple #[.slice a 0 c, u1]) (by simp [results, Try.results108, go_sem]) rfl ?_
      obtain ⟨ho, hd, hn', hk, hg, hb, hv⟩ := H.out
      refine ⟨_, _, rfl, ?_, ?_, hg, hb, hv⟩
      · rw [← hd]; exact HSS.out
      · rw [← hd]; exact ho
    | cons x l =>
      obtain ⟨g, cap, rfl, hc1, hc2, t1, t2, ht, hgl⟩ := hs.top
      have HT : Hid (EnA wr B (.slice (some ⟨g, 0, none⟩) l.length cap) l) := ht
      have HSS : Hid (EnA wr B (.slice (some ⟨g, 0, none⟩) (l.length + 1) cap) (x :: l)) := hs
      obtain ⟨n, hn9⟩ : ∃ n, n = l.length := ⟨_, rfl⟩
      have HN : Hid (n = l.length) := hn9
      have hl2 : o'.length + (n + 1) ≤ 10000 := by rw [hn9]; exact hl
      rw [← hn9] at t1 t2 hc1 ⊢
      clear hs ht hn9 hl
      have xk : x.k ≤ 15 := H.out.2.2.2.1 x (List.mem_cons_self ..)
      have e1 : IntKind.i64.wrap (((n + 1 : Nat) : Int) - 1) = (n : Int) := by rw [IntKind.wrap_i64]; omega
      have e1' : IntKind.i64.wrap ((n : Int) + 1 - 1) = (n : Int) := by rw [IntKind.wrap_i64]; omega
      have ek : IntKind.i64.wrap (n : Int) = (n : Int) := by rw [IntKind.wrap_i64]; omega
      have i1 : (0 : Int) < ((n + 1 : Nat) : Int) := by omega
      have i2 : (0 : Int) < (n : Int) + 1 := by omega
      have i3 : (n : Int) < (n : Int) + 1 := by omega
      have i4 : ¬ (n : Int) < 0 := by omega
      have i5 : (0 : Int) ≤ (n : Int) := by omega
      have rt := runToE g (n + 1) cap n (by omega) hc2
      obtain ⟨xk', hxk⟩ : ∃ k, k = x.k := ⟨_, rfl⟩
      have HX : Hid (xk' = x.k) := hxk
      rw [← hxk] at t1 xk
      clear hxk
      generalize strT x.l = X at *
      go_wp2_with fail
      refine (l6Stg_any xk' wr xk).mono ?_
      rintro e w1 ⟨rfl, hw1⟩
      rw [hw1]
      clear hw1
      by_cases hle : least ≤ stg xk'
      · have dl : decide ((least : Int) ≤ (stg xk' : Int)) = true := decide_eq_true (by omega)
        have dl2 : (least : Int) ≤ (stg xk' : Int) := by omega
        have HLE : Hid (least ≤ stg x.k) := by show least ≤ stg x.k; rw [← HX.out]; exact hle
        generalize stg xk' = sx at *
        go_wp2_with (at_builtin; refine app_nd rfl _ _ rfl B u1 o' rfl (H.out.1.below (below_alloc _ _)) wr.heap.size ⟨xk', [], []⟩ rfl (new_cells _ [.int .i64 (xk' : Int), .string { data := #[] }, .string { data := #[] }] _) (by omega) (by simp; omega) ?_)
        intro v' w2 hown' hgrow hsm
        have HX2 : Hid (NdA w2 B v' (o' ++ [⟨xk', [], []⟩]) ∧ wr.grownBy w2 u1.ownBlock ∧ SmB wr.heap.size u1 v') := by
          refine ⟨hown', grownN_trans (grownN_below (below_alloc _ _) _) hgrow, ?_⟩
          rcases hsm with e | ⟨b, h1, e⟩
          · exact .inl e
          · exact .inr ⟨b, Nat.le_trans (by simp) h1, e⟩
        clear hown' hgrow hsm
        go_wp2
        go_roundw
        case rel =>
          obtain ⟨ho, hd, hn', hk, hg, hb, hv⟩ := H.out
          refine ⟨l, o' ++ [⟨xk', [], []⟩], ?_, HX2.out.1, ?_, ?_, fun y hy => hk y (List.mem_cons_of_mem _ hy), grown_step hg hb HX2.out.2.1, smB_step hb hsz HX2.out.2.2, hv⟩
          · rw [HN.out]
            exact HT.out.other HX2.out.2.1 ho (by decide)
          · rw [← hd]
            show _ = (if least ≤ stg x.k then drn least l (o' ++ [⟨x.k, [], []⟩]) else _)
            rw [if_pos HLE.out, HX.out]
          · rw [List.length_append]
            simp at hn' ⊢
            omega
        case measure => simp [lenV]
      · have dl : decide ((least : Int) ≤ (stg xk' : Int)) = false := decide_eq_false (by omega)
        have dl2 : ¬ (least : Int) ≤ (stg xk' : Int) := by omega
        have HLE : Hid (¬ least ≤ stg x.k) := by show ¬ least ≤ stg x.k; rw [← HX.out]; exact hle
        generalize stg xk' = sx at *
        go_wp2
        refine bodyPost_ret (v := .tuple #[.slice (some ⟨g, 0, none⟩) (n + 1) cap, u1]) (by simp [results, Try.results108, go_sem]) rfl ?_
        obtain ⟨ho, hd, hn', hk, hg, hb, hv⟩ := H.out
        have e : drn least (x :: l) o' = (x :: l, o') := by
          show (if least ≤ stg x.k then _ else _) = _
          rw [if_neg HLE.out]
        rw [e] at hd
        refine ⟨_, _, rfl, ?_, ?_, hg, hb, hv⟩
        · rw [← hd, HN.out]; exact HSS.out
        · rw [← hd]; exact ho
end Go.Proofs.Ytocmbnocdjnfpaa
