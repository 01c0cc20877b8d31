import Derived.Test.YtcnollkkigiobaaGreatTrN
import Derived.Test.YtcnollkkigiobaaGreatTrB
import Derived.Test.YtcnollkkigiobaaGreatTnTo
import Derived.Deep.CutBlock
namespace Go.Proofs.YtcnollkkigiobaaGreat
open Go.RowKit Go.Deep
set_option linter.unusedVariables false
set_option maxRecDepth 100000

/-- A nested tree that can be read. -/
abbrev KR (w : World) (a : Option Addr) (n _c : Nat) (X : Nat → ByteArray) : Prop := RdS w a n X
def NA (w : World) (d : Nat) (t : Ro d) (v : Value) : Prop := NestAt (KR w) (fun _ => True) w d t v
/-- The same with what can be said of the keys' capacities. -/
def NAC (C : Nat → Nat → Prop) (w : World) (d : Nat) (t : Ro d) (v : Value) : Prop := NestAt (fun a n c X => RdS w a n X ∧ C n c) (fun _ => True) w d t v
theorem NAC.na {C : Nat → Nat → Prop} {w : World} {d : Nat} {t : Ro d} {v : Value} (h : NAC C w d t v) : NA w d t v :=
  NestAt.mono (fun _ _ _ _ q => q.1) (fun _ q _ => q) (Nat.le_refl _) (fun _ _ _ _ => rfl) h
theorem NAC.below {C : Nat → Nat → Prop} {w w' : World} {d : Nat} {t : Ro d} {v : Value} (h : NAC C w d t v) (hb : Below w.heap.size w w') : NAC C w' d t v :=
  NestAt.mono (fun _ _ _ _ q => ⟨q.1.below hb, q.2⟩) (fun _ q _ => q) hb.size (fun b j _ hlt => hb.cell (p := ⟨b, j, none⟩) hlt) h

theorem NA.below {w w' : World} {d : Nat} {t : Ro d} {v : Value} (h : NA w d t v) (hb : Below w.heap.size w w') : NA w' d t v :=
  NestAt.mono (fun _ _ _ _ q => q.below hb) (fun _ q _ => q) hb.size (fun b j _ hlt => hb.cell (p := ⟨b, j, none⟩) hlt) h

/-- The cells of a list of strings. -/
def strL (L : List ByteArray) : List Value := L.map .string
theorem strL_length (L : List ByteArray) : (strL L).length = L.length := by simp [strL]
theorem strL_app (L M : List ByteArray) : strL (L ++ M) = strL L ++ strL M := by simp [strL]
theorem strL_row (L : List ByteArray) : strL L = strRow (gt L) L.length := by
  apply List.ext_getElem?
  intro i
  by_cases h : i < L.length
  · rw [strRow_get _ _ _ h]
    simp [strL, gt, List.getD_eq_getElem?_getD, h]
  · have h1 : (strL L)[i]? = none := List.getElem?_eq_none (by rw [strL_length]; omega)
    have h2 : (strRow (gt L) L.length)[i]? = none := List.getElem?_eq_none (by rw [strRow_length]; omega)
    rw [h1, h2]

/-- Strings that can be read, appended to strings of the call's own. -/
theorem wpList_append_strs {w : World} {ops : Array Oper} {rest : List Oper} {o : Oper} {act : Act} {Q : Exit → Act → World → Prop} (hgd : o.guard = none) (s x : Operand)
    (ho : o.op = .call { callee := .builtin .append, args := #[s, x], argTypes := #[88, 88] })
    (B : Nat) (v : Value) (n : Nat) (xs : List Value) (hs : act.eval s = v) (hown : w.ownsRow B 9 1 v n xs)
    (a : Option Addr) (m c : Nat) (L : List ByteArray) (hx : act.eval x = .slice a m c) (hm : m = L.length) (hrd : RdS w a m (gt L)) (hnm : n + m ≤ 1099511627776) (hB : B ≤ w.heap.size)
    (h : ∀ v' w', w'.ownsRow B 9 1 v' (n + m) (xs ++ strL L) → w.grownBy w' v.ownBlock → (v'.ownBlock = v.ownBlock ∨ v'.ownBlock = some w.heap.size) → wpList Tryz.prog ops Q rest (act.put o.dst v') w') : wpList Tryz.prog ops Q (o :: rest) act w := by
  obtain ⟨i0, hi, hz0, hz1, hz2⟩ := info_parts Tryz.info9
  by_cases hm0 : m = 0
  · subst hm0
    have hL : L = [] := List.length_eq_zero_iff.1 hm.symm
    subst hL
    have hsrc : Src Tryz.prog i0.size 88 (.slice a 0 c) 0 [] w := by
      cases a with
      | none => exact Src.ofNil w Tryz.underlying88 c
      | some ad => exact Src.ofSlice w Tryz.underlying88 ad 0 c [] (by simp) (by simp) (by simp)
    have hsh : ∃ b l cap, v = .slice b l cap ∧ l ≤ cap := by
      rcases hown.2 with ⟨rfl, rfl⟩ | ⟨g, cap, cur, rfl, _, _, h1, _⟩
      · exact ⟨none, 0, 0, rfl, Nat.le_refl _⟩
      · exact ⟨_, n, cap, rfl, h1⟩
    obtain ⟨b, l, cap, hvv, hlc⟩ := hsh
    have hrun := run_append_nothing (P := Tryz.prog) w 88 88 o.type 9 i0 Tryz.underlying88 hi b l cap hlc (.slice a 0 c) hsrc
    rw [← hvv] at hrun
    refine wpList_plain hgd fun K hK => ?_
    unfold Oper.wp
    simp [execOp, ho, resolve, invoke, builtin, hs, hx, hrun, Result.andThen]
    exact hK _ _ (h v w (by simpa [strL] using hown) ⟨rfl, rfl, rfl, Nat.le_refl _, fun _ _ _ => rfl⟩ (Or.inl rfl))
  · rcases hrd with h0 | ⟨b, off, rfl, hc⟩
    · exact absurd h0 hm0
    · refine wpList_append_own_at w hgd s x 88 ho B 9 i0 (.string { data := #[] }) 1 16 Tryz.underlying88 hi hz0 hz1 hz2 rfl (by decide) v n xs hs hown ⟨b, off, none⟩ m c (strL L) hx (by rw [strL_length]; omega) (fun j u hj => ?_) (fun u hu => ?_) (by unfold maxLen; omega) (by omega) hB (fun v' w' h1 h2 _ h4 => h v' w' h1 h2 h4)
      · have hjm : j < m := by
          have := (List.getElem?_eq_some_iff.1 hj).1
          rw [strL_length] at this
          omega
        rw [strL_row, ← hm, strRow_get _ _ _ hjm] at hj
        injection hj with hj
        subst hj
        have e : (Addr.add ⟨b, off, none⟩ j) = ⟨b, off + j, none⟩ := by
          unfold Addr.add
          by_cases h : j = 0
          · subst h; simp
          · simp [h]
        rw [e]
        exact hc j hjm
      · simp only [strL, List.mem_map] at hu
        obtain ⟨i, _, rfl⟩ := hu
        rfl

/-- A list of strings handed back in new memory. -/
def RetStrs (w : World) (L : List ByteArray) (e : Ending) (w' : World) : Prop :=
  ∃ a c, e = .returned (.slice a L.length c) ∧ OwnS w' w.heap.size a L.length (gt L) ∧ Below w.heap.size w w' ∧ L.length ≤ c ∧ c ≤ 9223372036854775807

set_option maxHeartbeats 400000 in
theorem size_any (lf : Bool) (ka ca : Option Addr) (kn kc cn cc : Nat) (w : World) : Calls Tryz.prog 122 #[.agg #[.bool lf, .slice ka kn kc, .slice ca cn cc]] w fun e w' => e = .returned (.int .i64 (if lf = true then (kn : Int) else (cn : Int))) ∧ Below w.heap.size w w' := by
  cases lf with
  | true =>
    go_enter Tryz.func122, Tryz.ntmps122
    go_wp2
    go_ret
    exact ⟨rfl, below_alloc _ _⟩
  | false =>
    go_enter Tryz.func122, Tryz.ntmps122
    go_wp2
    go_ret
    exact ⟨rfl, below_alloc _ _⟩

theorem own_empty (W : World) (t : TypeId) (B size : Nat) (hB : B ≤ W.heap.size) : (W.alloc (.cells #[] t)).ownsRow B t size (.slice (some ⟨W.heap.size, 0, none⟩) 0 0) 0 [] :=
  ⟨by simp, Or.inr ⟨W.heap.size, 0, #[], rfl, hB, blk_alloc_new _ _, Nat.le_refl _, Nat.zero_le _, by simp, by simp⟩⟩

theorem ownS_strL {w : World} {B : Nat} {v : Value} {n : Nat} {L : List ByteArray} (h : w.ownsRow B 9 1 v n (strL L)) (hn : n = L.length) : ∃ a c, v = .slice a n c ∧ OwnS w B a L.length (gt L) ∧ n ≤ c ∧ c ≤ 9223372036854775807 := by
  subst hn
  rw [strL_row] at h
  exact ownS_ofRow h

/-- The cells of a child in its row, and the child itself. -/
theorem kid_at {K : Option Addr → Nat → Nat → (Nat → ByteArray) → Prop} {S : Nat → Prop} {w : World} {d b : Nat} {l : List (Ro d)} {xs : List Value} (hx : ∀ j u, xs[j]? = some u → w.cell? ⟨b, j, none⟩ = some u) (hk : KidL (fun t v => NestAt K S w d t v) l xs) (k : Nat) (h : k < l.length) :
    ∃ lf ka kn kc ca cn cc, w.cell? ⟨b, k * 3, none⟩ = some (.bool lf) ∧ w.cell? ⟨b, k * 3 + 1, none⟩ = some (.slice ka kn kc) ∧ w.cell? ⟨b, k * 3 + 2, none⟩ = some (.slice ca cn cc) ∧ NestAt K S w d l[k] (.agg #[.bool lf, .slice ka kn kc, .slice ca cn cc]) := by
  obtain ⟨x0, x1, x2, h0, h1, h2, h3⟩ := hk.get k h
  obtain ⟨lf, ka, kn, kc, ca, cn, cc, e⟩ := h3.form
  injection e with e
  simp at e
  obtain ⟨rfl, rfl, rfl⟩ := e
  exact ⟨lf, ka, kn, kc, ca, cn, cc, hx _ _ h0, hx _ _ h1, hx _ _ h2, h3⟩

theorem flat_take {T : Type} (f : T → List ByteArray) (l : List T) (k : Nat) (h : k < l.length) : (l.take (k + 1)).flatMap f = (l.take k).flatMap f ++ f l[k] := by
  rw [← List.take_append_getElem h, List.flatMap_append]
  simp
theorem flat_take_le {T : Type} (f : T → List ByteArray) (l : List T) (k : Nat) : ((l.take k).flatMap f).length ≤ (l.flatMap f).length := by
  conv => rhs; rw [← List.take_append_drop k l]
  rw [List.flatMap_append, List.length_append]
  omega

theorem nodes_pos : ∀ (d : Nat) (t : Ro d), 1 ≤ nodesR d t
  | 0, t => t.elim
  | d + 1, .inl _ => Nat.le_refl _
  | d + 1, .inr l => by
    show 1 ≤ 1 + (l.map (nodesR d)).sum
    omega
theorem kids_le (d : Nat) (l : List (Ro d)) : l.length + 1 ≤ nodesR (d + 1) (.inr l) := by
  have h := sum_ge (l := l.map (nodesR d)) (k := 1) (fun x hx => by
    obtain ⟨t, _, rfl⟩ := List.mem_map.1 hx
    exact nodes_pos d t)
  rw [List.length_map] at h
  show l.length + 1 ≤ 1 + (l.map (nodesR d)).sum
  omega
theorem sum_mem {l : List Nat} {x : Nat} (h : x ∈ l) : x ≤ l.sum := by
  induction l with
  | nil => cases h
  | cons y l ih =>
    rw [List.sum_cons]
    rcases List.mem_cons.1 h with rfl | h
    · omega
    · have := ih h
      omega
theorem kid_le (d : Nat) (l : List (Ro d)) (k : Nat) (h : k < l.length) : nodesR d l[k] + 1 ≤ nodesR (d + 1) (.inr l) := by
  have h1 := sum_mem (l := l.map (nodesR d)) (x := nodesR d l[k]) (List.mem_map.2 ⟨_, List.getElem_mem h, rfl⟩)
  show nodesR d l[k] + 1 ≤ 1 + (l.map (nodesR d)).sum
  omega

set_option maxHeartbeats 2000000 in
theorem keys_any : ∀ (d : Nat) (t : Ro d) (v : Value) (w : World), NA w d t v → nodesR d t ≤ 5000 → (keysR d t).length ≤ 1099511627776 → Calls Tryz.prog 58 #[v] w (RetStrs w (keysR d t)) := by
  intro d
  induction d with
  | zero => intro t; exact t.elim
  | succ d ih =>
    intro t v w hv hnod hlen
    rcases t with t | l
    · obtain ⟨ka, kc, ca, cc, rfl, hk⟩ := hv
      have HO : Hid (∀ O : Obj, ((w.alloc O).alloc (.cells #[] 9)).ownsRow (w.heap.size + 1) 9 1 (.slice (some ⟨w.heap.size + 1, 0, none⟩) 0 0) 0 []) := fun O => by simpa using own_empty (w.alloc O) 9 (w.heap.size + 1) 1 (by simp)
      have hl : t.length ≤ 1099511627776 := hlen
      clear hlen
      obtain ⟨m, hm⟩ : ∃ m, m = t.length := ⟨_, rfl⟩
      rw [← hm] at hk hl ⊢
      have HK : Hid (RdS w ka m (gt t)) := hk
      have HM : Hid (m = t.length) := hm
      clear hk ih hm
      go_enter Tryz.func58, Tryz.ntmps58
      go_wp2_with (at_builtin; refine wpList_append_strs rfl _ _ rfl (w.heap.size + 1) (.slice (some ⟨w.heap.size + 1, 0, none⟩) 0 0) 0 [] rfl (HO.out _) ka m kc t rfl HM.out (HK.out.below ((below_alloc _ _).alloc (by simp) _)) (by omega) (by simp) ?_)
      intro v' w' ho hg hat
      have HB : Hid (Below w.heap.size w w') := (((below_alloc _ _).alloc (by simp) _).grown hg (by simp; omega) (fun k e => by simp [Value.ownBlock] at e; omega))
      obtain ⟨a', c', rfl, h1, h2, h3⟩ := ownS_strL (L := t) ho HM.out
      have HE : Hid (OwnS w' (w.heap.size + 1) a' t.length (gt t)) := h1
      clear ho hg h1
      go_wp2
      go_ret
      refine ⟨a', c', by rw [← show m = (keysR (d + 1) (Sum.inl t)).length from HM.out]; rfl, HE.out.mono (by omega), HB.out, ?_, h3⟩
      rw [← show m = (keysR (d + 1) (Sum.inl t)).length from HM.out]
      exact h2
    · obtain ⟨ka, kc, b, cc, xs, rfl, _, hb, hl0, hx, hk⟩ := hv
      have HX : Hid ((∀ j u, xs[j]? = some u → w.cell? ⟨b, j, none⟩ = some u) ∧ KidL (fun t v => NestAt (KR w) (fun _ => True) w d t v) l xs) := ⟨hx, hk⟩
      have HKid : Hid (∀ W : World, Below w.heap.size w W → ∀ k (h : k < l.length), ∃ lf ka kn kc ca cn cc, W.cell? ⟨b, k * 3, none⟩ = some (.bool lf) ∧ W.cell? ⟨b, k * 3 + 1, none⟩ = some (.slice ka kn kc) ∧ W.cell? ⟨b, k * 3 + 2, none⟩ = some (.slice ca cn cc) ∧ NA W d l[k] (.agg #[.bool lf, .slice ka kn kc, .slice ca cn cc])) := by
        intro W hW k h
        obtain ⟨lf, ka, kn, kc, ca, cn, cc, h0, h1, h2, h3⟩ := kid_at hx hk k h
        exact ⟨lf, ka, kn, kc, ca, cn, cc, (hW.cell (p := ⟨b, _, none⟩) hb).trans h0, (hW.cell (p := ⟨b, _, none⟩) hb).trans h1, (hW.cell (p := ⟨b, _, none⟩) hb).trans h2, NA.below h3 hW⟩
      have HLen : Hid ((l.flatMap (keysR d)).length ≤ 1099511627776) := hlen
      have HIH : Hid (∀ (t : Ro d) (v : Value) (w : World), NA w d t v → nodesR d t ≤ 5000 → (keysR d t).length ≤ 1099511627776 → Calls Tryz.prog 58 #[v] w (RetStrs w (keysR d t))) := ih
      have hl63 : l.length ≤ 5000 := by have := kids_le d l; omega
      have HNod : Hid (∀ k (h : k < l.length), nodesR d l[k] ≤ 5000) := fun k h => by have := kid_le d l k h; omega
      clear hnod
      clear hx hk hlen ih
      obtain ⟨ln, hln⟩ : ∃ ln, ln = l.length := ⟨_, rfl⟩
      rw [← hln] at hl0 hl63 ⊢
      have HLn : Hid (ln = l.length) := hln
      clear hln
      go_enter Tryz.func58, Tryz.ntmps58
      go_upto_region 4 with fail
      have S1 : Hid (Bx ((w.alloc (.cells #[.bool false, .slice ka 0 kc, .slice (some ⟨b, 0, none⟩) ln cc] 91)).alloc (.cells #[] 9)) w.heap.size 91 #[.bool false, .slice ka 0 kc, .slice (some ⟨b, 0, none⟩) ln cc] ∧ ((w.alloc (.cells #[.bool false, .slice ka 0 kc, .slice (some ⟨b, 0, none⟩) ln cc] 91)).alloc (.cells #[] 9)).ownsRow (w.heap.size + 1) 9 1 (.slice (some ⟨w.heap.size + 1, 0, none⟩) 0 0) 0 [] ∧ Below w.heap.size w ((w.alloc (.cells #[.bool false, .slice ka 0 kc, .slice (some ⟨b, 0, none⟩) ln cc] 91)).alloc (.cells #[] 9))) :=
        ⟨(Bx.new _ _ _).alloc _, by simpa using own_empty (w.alloc (.cells #[.bool false, .slice ka 0 kc, .slice (some ⟨b, 0, none⟩) ln cc] 91)) 9 (w.heap.size + 1) 1 (by simp), (below_alloc _ _).alloc (by simp) _⟩
      generalize ((w.alloc (.cells #[.bool false, .slice ka 0 kc, .slice (some ⟨b, 0, none⟩) ln cc] 91)).alloc (.cells #[] 9)) = W at S1 ⊢
      go_wp2
      go_loopw [3, 4] (fun q i wr => ∃ k nk : Nat, k ≤ ln ∧ i = .int .i64 k ∧ nk = ((l.take k).flatMap (keysR d)).length ∧ Bx wr w.heap.size 91 #[.bool false, .slice ka 0 kc, .slice (some ⟨b, 0, none⟩) ln cc] ∧ wr.ownsRow (w.heap.size + 1) 9 1 q nk (strL ((l.take k).flatMap (keysR d))) ∧ Below w.heap.size w wr) (fun _ i _ => ln - (intOf i).toNat)
      case atStart => exact ⟨0, 0, Nat.zero_le _, rfl, by simp, S1.out.1, S1.out.2.1, S1.out.2.2⟩
      case round =>
        obtain ⟨k, nk, hk, rfl, hnk, hbx, hown, hbel⟩ := hrel
        clear S1
        obtain ⟨qa, qc, rfl, _⟩ := own_form hown
        have HST : Hid (Bx wr w.heap.size 91 #[.bool false, .slice ka 0 kc, .slice (some ⟨b, 0, none⟩) ln cc] ∧ wr.ownsRow (w.heap.size + 1) 9 1 (.slice qa nk qc) nk (strL ((l.take k).flatMap (keysR d))) ∧ Below w.heap.size w wr) := ⟨hbx, hown, hbel⟩
        have HNK : Hid (nk = ((l.take k).flatMap (keysR d)).length) := hnk
        have hnl : nk ≤ 1099511627776 := by have := flat_take_le (keysR d) l k; have := HLen.out; omega
        have y2 := hbx.cell 2
        simp at y2
        have hz := hbx.lt
        clear hbx hown hbel hnk
        by_cases hlt : k < ln
        · have hlk : k < l.length := by rw [← HLn.out]; exact hlt
          obtain ⟨lf1, ka1, kn1, kc1, ca1, cn1, cc1, c0, c1, c2, hna⟩ := HKid.out wr HST.out.2.2 k hlk
          have HNA : Hid (NA wr d l[k] (.agg #[.bool lf1, .slice ka1 kn1 kc1, .slice ca1 cn1 cc1])) := hna
          have e12 := flat_take (keysR d) l k hlk
          have HKL : Hid (nk + (keysR d l[k]).length ≤ 1099511627776) := by
            have h1 := flat_take_le (keysR d) l (k + 1)
            rw [e12, List.length_append, ← HNK.out] at h1
            have := HLen.out
            show nk + (keysR d l[k]).length ≤ 1099511627776
            omega
          have hk0 : (0 : Int) ≤ (k : Int) := by omega
          have hkn : (k : Int) < (ln : Int) := by omega
          clear hna
          go_wp2_with fail
          refine (HIH.out l[k] _ _ HNA.out (HNod.out k hlk) (by have := HKL.out; omega)).mono ?_
          rintro e w2 ⟨a2, cz2, he, ho2, hb2, hcc1, hcc2⟩
          have HM : Hid (((l.take (k + 1)).flatMap (keysR d)) = ((l.take k).flatMap (keysR d)) ++ keysR d l[k]) := e12
          have HL2 : Hid (RdS w2 a2 (keysR d l[k]).length (gt (keysR d l[k]))) := ho2.rd
          clear ho2 e12 HNA
          generalize hLk : keysR d l[k] = L2 at *
          obtain ⟨n2, hn2⟩ : ∃ n2, n2 = L2.length := ⟨_, rfl⟩
          rw [← hn2] at he
          subst he
          have HN2 : Hid (n2 = L2.length ∧ nk + n2 ≤ 1099511627776) := ⟨hn2, by rw [hn2]; exact HKL.out⟩
          have HS2 : Hid (Bx w2 w.heap.size 91 #[.bool false, .slice ka 0 kc, .slice (some ⟨b, 0, none⟩) ln cc] ∧ w2.ownsRow (w.heap.size + 1) 9 1 (.slice qa nk qc) nk (strL ((l.take k).flatMap (keysR d))) ∧ Below w.heap.size w w2) := ⟨HST.out.1.below hb2, own_below HST.out.2.1 hb2, HST.out.2.2.trans (hb2.mono HST.out.2.2.size)⟩
          clear hn2 hLk HKL HST hb2 c0 c1 c2 y2
          have hz2 := HS2.out.1.lt
          go_wp2_with (at_builtin; refine wpList_append_strs rfl _ _ rfl (w.heap.size + 1) (.slice qa nk qc) nk _ rfl HS2.out.2.1 a2 n2 cz2 L2 rfl HN2.out.1 (by rw [HN2.out.1]; exact HL2.out) HN2.out.2 (by omega) ?_)
          intro v' w5 ho hg hat
          have HG : Hid (Bx w5 w.heap.size 91 #[.bool false, .slice ka 0 kc, .slice (some ⟨b, 0, none⟩) ln cc] ∧ w5.ownsRow (w.heap.size + 1) 9 1 v' (nk + n2) (strL ((l.take (k + 1)).flatMap (keysR d))) ∧ Below w.heap.size w w5) := by
            refine ⟨HS2.out.1.grown hg (fun e => by have := own_lt HS2.out.2.1 _ e; omega), ?_, HS2.out.2.2.grown hg (by omega) (fun g e => by have := own_lt HS2.out.2.1 _ e; omega)⟩
            rw [HM.out, strL_app]
            exact ho
          obtain ⟨va, vc, rfl, _⟩ := own_form ho
          clear ho hg hat HS2
          go_wp2
          go_roundw
          case rel => exact ⟨k + 1, nk + n2, by omega, by go_num, by rw [HM.out, List.length_append, ← HNK.out, ← HN2.out.1], HG.out.1, HG.out.2.1, HG.out.2.2⟩
          case measure => simp [intOf]; omega
        · have e : k = ln := by omega
          subst e
          have HEq : Hid ((l.take k).flatMap (keysR d) = l.flatMap (keysR d)) := by
            show (l.take k).flatMap (keysR d) = l.flatMap (keysR d)
            rw [HLn.out, List.take_length]
          go_wp2
          go_ret
          obtain ⟨a', c', e', h1, h2, h3⟩ := ownS_strL HST.out.2.1 HNK.out
          injection e' with e1 _ e2
          subst e1
          subst e2
          rw [HEq.out] at h1
          refine ⟨qa, qc, ?_, h1.mono (by omega), HST.out.2.2, ?_, h3⟩
          · show Ending.returned (.slice qa nk qc) = Ending.returned (.slice qa (l.flatMap (keysR d)).length qc)
            rw [← HEq.out, ← HNK.out]
          · show (l.flatMap (keysR d)).length ≤ qc
            rw [← HEq.out, ← HNK.out]
            exact h2
end Go.Proofs.YtcnollkkigiobaaGreat
