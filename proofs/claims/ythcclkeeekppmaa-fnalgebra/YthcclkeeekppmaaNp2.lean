import Derived.Test.YthcclkeeekppmaaNp1
import Derived.Test.YthcclkeeekppmaaRows
import Derived.Test.YthcclkeeekppmaaOwn
import Derived.Deep.Upon
import Derived.WalkSpells
import Derived.Deep.RegionHeld3
namespace Go.Proofs.Ythcclkeeekppmaa
open Go.RowKit Go.Deep
set_option linter.unusedVariables false
set_option maxRecDepth 100000

/-- A fact. -/
structure Fc where
  s : ByteArray
  p : ByteArray
  o : ByteArray
  g : ByteArray
def Fc.cells (x : Fc) : List Value := [.string x.s, .string x.p, .string x.o, .string x.g]
def fcRow (fs : List Fc) : List Value := fs.flatMap Fc.cells
theorem fcRow_app (fs gs : List Fc) : fcRow (fs ++ gs) = fcRow fs ++ fcRow gs := by simp [fcRow]
theorem fcRow_get : ∀ (fs : List Fc) (i r : Nat) (x : Fc), fs[i]? = some x → r < 4 → (fcRow fs)[i * 4 + r]? = x.cells[r]?
  | [], i, _, _, h, _ => by simp at h
  | y :: fs, 0, r, x, h, hr => by
    simp at h
    subst h
    show (y.cells ++ fcRow fs)[0 * 4 + r]? = _
    rw [List.getElem?_append_left (by show 0 * 4 + r < 4; omega), Nat.zero_mul, Nat.zero_add]
  | y :: fs, i + 1, r, x, h, hr => by
    show (y.cells ++ fcRow fs)[(i + 1) * 4 + r]? = _
    rw [List.getElem?_append_right (by show 4 ≤ _; omega)]
    show (fcRow fs)[(i + 1) * 4 + r - 4]? = _
    rw [show (i + 1) * 4 + r - 4 = i * 4 + r by omega]
    exact fcRow_get fs i r x (by simpa using h) hr
/-- Facts that can be read. -/
def RdF (w : World) (a : Option Addr) (fs : List Fc) : Prop := fs = [] ∨ ∃ b o, a = some ⟨b, o, none⟩ ∧ ∀ i x, fs[i]? = some x → w.cell? ⟨b, o + i * 4, none⟩ = some (.string x.s) ∧ w.cell? ⟨b, o + i * 4 + 1, none⟩ = some (.string x.p) ∧ w.cell? ⟨b, o + i * 4 + 2, none⟩ = some (.string x.o) ∧ w.cell? ⟨b, o + i * 4 + 3, none⟩ = some (.string x.g)
theorem RdF.below {w w' : World} {a : Option Addr} {fs : List Fc} (h : RdF w a fs) (hb : Below w.heap.size w w') : RdF w' a fs := by
  rcases h with h | ⟨b, o, e, hc⟩
  · exact .inl h
  · refine .inr ⟨b, o, e, fun i x hx => ?_⟩
    obtain ⟨h0, h1, h2, h3⟩ := hc i x hx
    exact ⟨(hb.cell (World.block_lt_of_cell? _ _ h0)).trans h0, (hb.cell (World.block_lt_of_cell? _ _ h1)).trans h1, (hb.cell (World.block_lt_of_cell? _ _ h2)).trans h2, (hb.cell (World.block_lt_of_cell? _ _ h3)).trans h3⟩
theorem RdF.at {w : World} {a : Option Addr} {fs : List Fc} (h : RdF w a fs) {i : Nat} (hi : i < fs.length) : ∃ b o, a = some ⟨b, o, none⟩ ∧ w.cell? ⟨b, o + i * 4, none⟩ = some (.string (fs[i]).s) ∧ w.cell? ⟨b, o + i * 4 + 1, none⟩ = some (.string (fs[i]).p) ∧ w.cell? ⟨b, o + i * 4 + 2, none⟩ = some (.string (fs[i]).o) ∧ w.cell? ⟨b, o + i * 4 + 3, none⟩ = some (.string (fs[i]).g) := by
  rcases h with h | ⟨b, o, e, hc⟩
  · rw [h] at hi; cases hi
  · exact ⟨b, o, e, hc i _ (List.getElem?_eq_getElem hi)⟩
theorem infoFc : (Try.prog.info? 38).map (fun i => (i.zero, i.size, i.bytes)) = some (some (.agg #[.string { data := #[] }, .string { data := #[] }, .string { data := #[] }, .string { data := #[] }]), 4, 64) := by kernel_rfl
theorem underFcs : Try.prog.underlying 26 = some (.slice 38) := by kernel_rfl
/-- A row of facts of the call's own can be read. -/
theorem rdF_own {w : World} {B : Nat} {v : Value} {n : Nat} {fs : List Fc} (h : w.ownsRow B 38 4 v n (fcRow fs)) (hn : n = fs.length) : ∃ a c, v = .slice a n c ∧ RdF w a fs ∧ n ≤ c ∧ c ≤ 9223372036854775807 := by
  rcases h.2 with ⟨rfl, h0⟩ | ⟨g, cap, cur, rfl, hg, hb, h1, h2, h3, h4⟩
  · refine ⟨none, 0, by rw [h0], .inl (List.length_eq_zero_iff.1 (by omega)), by omega, by omega⟩
  · refine ⟨_, cap, rfl, .inr ⟨g, 0, rfl, fun i x hx => ?_⟩, h1, by unfold maxLen at h2; exact h2⟩
    have hi : i < fs.length := (List.getElem?_eq_some_iff.1 hx).1
    have key : ∀ r, r < 4 → w.cell? ⟨g, 0 + i * 4 + r, none⟩ = x.cells[r]? := fun r hr => by
      have e := fcRow_get fs i r x hx hr
      rw [← h4, List.getElem?_take_of_lt (by omega), Array.getElem?_toList] at e
      simp only [World.cell?, hb, Nat.zero_add]
      exact e
    exact ⟨key 0 (by omega), key 1 (by omega), key 2 (by omega), key 3 (by omega)⟩
theorem app_fc {ops : Array Oper} {rest : List Oper} {o : Oper} {a : Act} {w2 : World} {Q : Exit → Act → World → Prop} (hgd : o.guard = none) (x y : Operand)
    (ho : o.op = .call { callee := .builtin .append, args := #[x, y], argTypes := #[26, 26] })
    (B k : Nat) (v : Value) (fs : List Fc) (p : Fc) (hx : a.eval x = v) (hown : w2.ownsRow B 38 4 v k (fcRow fs)) (hy : a.eval y = .slice (some ⟨w2.heap.size, 0, none⟩) 1 1)
    (hk : k ≤ 1048576) (hB : B ≤ w2.heap.size)
    (h : ∀ v' w', w'.ownsRow B 38 4 v' (k + 1) (fcRow (fs ++ [p])) → (w2.alloc (.cells #[.string p.s, .string p.p, .string p.o, .string p.g] 38)).grownBy w' v.ownBlock → wpList Try.prog ops Q rest (a.put o.dst v') w') :
    wpList Try.prog ops Q (o :: rest) a (w2.alloc (.cells #[.string p.s, .string p.p, .string p.o, .string p.g] 38)) := by
  obtain ⟨i0, hi, hz0, hz1, hz2⟩ := info_parts infoFc
  refine wpList_append_own _ hgd x y 26 ho B 38 i0 _ 4 64 underFcs hi hz0 hz1 hz2 rfl (by decide) v k (fcRow fs) hx (own_below hown (below_alloc _ _)) ⟨w2.heap.size, 0, none⟩ 1 1 p.cells hy rfl (fun j u hj => ?_) (fun u hu => ?_) (by unfold maxLen; omega) (by omega) (by simp; omega) (fun v' w' q1 q2 _ => h v' w' (by rw [fcRow_app]; simpa [fcRow] using q1) q2)
  · rw [addrS]
    match j, hj with
    | 0, hj => injection hj with hj; subst hj; simp
    | 1, hj => injection hj with hj; subst hj; simp
    | 2, hj => injection hj with hj; subst hj; simp
    | 3, hj => injection hj with hj; subst hj; simp
  · simp only [Fc.cells, List.mem_cons, List.not_mem_nil, or_false] at hu
    rcases hu with rfl | rfl | rfl | rfl <;> rfl

/-- Whether a fact counts in a context. -/
def cntB (bound : Bool) (g : ByteArray) (x : Fc) : Bool := !bound || (x.g.toList == g.toList)
set_option maxHeartbeats 2000000 in
theorem l6Facts_any (a : Option Addr) (c : Nat) (fs : List Fc) (bound : Bool) (g : ByteArray) (w : World) (h : RdF w a fs) (hn : fs.length ≤ 1048576) :
    Calls Try.prog 71 #[.slice a fs.length c, .bool bound, .string g] w fun e w' => ∃ a' c', e = .returned (.slice a' (fs.filter (cntB bound g)).length c') ∧ RdF w' a' (fs.filter (cntB bound g)) ∧ Below w.heap.size w w' := by
  have HR : Hid (RdF w a fs) := h
  obtain ⟨n, hnn⟩ : ∃ n, n = fs.length := ⟨_, rfl⟩
  rw [← hnn] at hn ⊢
  have HN : Hid (n = fs.length) := hnn
  clear h hnn
  go_enter Try.func71, Try.ntmps71
  go_wp2
  go_loopw [7, 8] (fun u i wr => ∃ k : Nat, k ≤ n ∧ i = .int .i64 k ∧ wr.ownsRow w.heap.size 38 4 u ((fs.take k).filter (cntB bound g)).length (fcRow ((fs.take k).filter (cntB bound g))) ∧ Below w.heap.size w wr) (fun _ i _ => n - (intOf i).toNat)
  case atStart => exact ⟨0, Nat.zero_le _, rfl, by simpa [fcRow] using own_empty w 38 w.heap.size 4 (Nat.le_refl _), below_alloc _ _⟩
  case round =>
    obtain ⟨k, hk, rfl, hown, hb⟩ := hrel
    have HO : Hid (wr.ownsRow w.heap.size 38 4 u7 ((fs.take k).filter (cntB bound g)).length (fcRow ((fs.take k).filter (cntB bound g))) ∧ Below w.heap.size w wr) := ⟨hown, hb⟩
    have hz := hb.size
    clear hown hb
    by_cases hlt : k < n
    · have hkl : k < fs.length := by rw [← HN.out]; exact hlt
      obtain ⟨bb, o, rfl, s0, s1, s2, s3⟩ := (HR.out.below HO.out.2).at hkl
      obtain ⟨x, hx⟩ : ∃ x, x = fs[k] := ⟨_, rfl⟩
      rw [← hx] at s0 s1 s2 s3
      have i0 : (0 : Int) ≤ (k : Int) := by omega
      have i1 : (k : Int) < (n : Int) := by omega
      have etk : fs.take (k + 1) = fs.take k ++ [x] := by rw [List.take_add_one, List.getElem?_eq_getElem hkl, ← hx]; rfl
      obtain ⟨m, hm⟩ : ∃ m, m = ((fs.take k).filter (cntB bound g)).length := ⟨_, rfl⟩
      rw [← hm] at HO
      have hm2 : m ≤ n := by rw [hm]; exact Nat.le_trans (List.length_filter_le _ _) (by rw [List.length_take]; omega)
      have HE : Hid (m = ((fs.take k).filter (cntB bound g)).length ∧ fs.take (k + 1) = fs.take k ++ [x]) := ⟨hm, etk⟩
      clear hx hm etk
      cases hcb : cntB bound g x with
      | false =>
        have HX : Hid (wr.ownsRow w.heap.size 38 4 u7 ((fs.take (k + 1)).filter (cntB bound g)).length (fcRow ((fs.take (k + 1)).filter (cntB bound g))) ∧ Below w.heap.size w wr) := by
          rw [HE.out.2, List.filter_append, List.filter_cons_of_neg (by rw [hcb]; simp), List.filter_nil, List.append_nil, ← HE.out.1]
          exact HO.out
        cases bound with
        | false => exact absurd hcb (by simp [cntB])
        | true =>
          have hq : (x.g.toList == g.toList) = false := by simpa [cntB] using hcb
          clear hcb HO
          go_wp2
          go_roundw
          case rel => exact ⟨k + 1, by omega, by go_num, HX.out⟩
          case measure => simp [intOf]; omega
      | true =>
        have HX : Hid (∀ (v' : Value) (w' : World), w'.ownsRow w.heap.size 38 4 v' (m + 1) (fcRow ((fs.take k).filter (cntB bound g) ++ [x])) → w'.ownsRow w.heap.size 38 4 v' ((fs.take (k + 1)).filter (cntB bound g)).length (fcRow ((fs.take (k + 1)).filter (cntB bound g)))) := fun v' w' q => by
          rw [HE.out.2, List.filter_append, List.filter_cons_of_pos (by rw [hcb]), List.filter_nil, List.length_append, ← HE.out.1]
          exact q
        cases bound with
        | false =>
          clear hcb
          go_wp2_with (at_builtin; refine app_fc rfl _ _ rfl w.heap.size m u7 _ x rfl HO.out.1 rfl (by omega) hz ?_)
          intro v' w1 ho hg
          have HY : Hid (w1.ownsRow w.heap.size 38 4 v' ((fs.take (k + 1)).filter (cntB false g)).length (fcRow ((fs.take (k + 1)).filter (cntB false g))) ∧ Below w.heap.size w w1) := ⟨HX.out v' w1 ho, (HO.out.2.alloc hz _).grown hg (by simp; omega) (fun b e => (own_lt HO.out.1 b e).1)⟩
          clear ho hg HO
          go_wp2
          go_roundw
          case rel => exact ⟨k + 1, by omega, by go_num, HY.out⟩
          case measure => simp [intOf]; omega
        | true =>
          have hq : (x.g.toList == g.toList) = true := by simpa [cntB] using hcb
          clear hcb
          go_wp2_with (at_builtin; refine app_fc rfl _ _ rfl w.heap.size m u7 _ x rfl HO.out.1 rfl (by omega) hz ?_)
          intro v' w1 ho hg
          have HY : Hid (w1.ownsRow w.heap.size 38 4 v' ((fs.take (k + 1)).filter (cntB true g)).length (fcRow ((fs.take (k + 1)).filter (cntB true g))) ∧ Below w.heap.size w w1) := ⟨HX.out v' w1 ho, (HO.out.2.alloc hz _).grown hg (by simp; omega) (fun b e => (own_lt HO.out.1 b e).1)⟩
          clear ho hg HO
          go_wp2
          go_roundw
          case rel => exact ⟨k + 1, by omega, by go_num, HY.out⟩
          case measure => simp [intOf]; omega
    · have e : k = n := by omega
      subst e
      obtain ⟨a', c', rfl, h1, h2, h3⟩ := rdF_own HO.out.1 rfl
      have ett : fs.take k = fs := by rw [HN.out]; exact List.take_length
      have HF : Hid (∃ a'' c'', Ending.returned (.slice a' ((fs.take k).filter (cntB bound g)).length c') = .returned (.slice a'' (fs.filter (cntB bound g)).length c'') ∧ RdF wr a'' (fs.filter (cntB bound g)) ∧ Below w.heap.size w wr) := by
        rw [ett] at h1 ⊢
        exact ⟨a', c', rfl, h1, HO.out.2⟩
      clear h1 HO ett
      go_wp2
      go_ret
      exact HF.out
end Go.Proofs.Ythcclkeeekppmaa

namespace Go.Proofs.Ythcclkeeekppmaa
open Go.RowKit Go.Deep
set_option maxRecDepth 100000

/-- The cells of a row of bytes. -/
def byteRow (f : Nat → Int) (n : Nat) : List Value := (List.range n).map fun i => .int .u8 (f i)

theorem byteRow_get (f : Nat → Int) (n i : Nat) (h : i < n) : (byteRow f n)[i]? = some (.int .u8 (f i)) := by simp [byteRow, h]

theorem infoB : (Try.prog.info? 5).map (fun i => (i.zero, i.size, i.bytes)) = some (some (.int .u8 0), 1, 1) := by kernel_rfl
theorem ownB_ofRow {w : World} {B : Nat} {v : Value} {n : Nat} {f : Nat → Int} (h : w.ownsRow B 5 1 v n (byteRow f n)) : ∃ a c, v = .slice a n c ∧ OwnB w B a n f ∧ n ≤ c ∧ c ≤ 9223372036854775807 := by
  obtain ⟨_, h⟩ := h
  rcases h with ⟨rfl, rfl⟩ | ⟨g, cap, cur, rfl, hg, hh, h1, h2, h3, h4⟩
  · exact ⟨none, 0, rfl, Or.inl rfl, Nat.le_refl _, by omega⟩
  · unfold maxLen at h2
    refine ⟨_, cap, rfl, Or.inr ⟨g, rfl, hg, cur, hh, by omega, fun i hi => ?_⟩, h1, h2⟩
    rw [← byteRow_get f n i hi, ← h4]
    have : i < n * 1 := by omega
    rw [List.getElem?_take, if_pos this]
    simp
end Go.Proofs.Ythcclkeeekppmaa

namespace Go.Proofs.Ythcclkeeekppmaa
open Go.RowKit Go.Deep
set_option linter.unusedVariables false
set_option maxRecDepth 100000

/-- A text's bytes. -/
def lf (l : List Int) (i : Nat) : Int := l.getD i 0
def bv (l : List Int) : List Value := l.map (fun x => Value.int .u8 x)
theorem bv_app (l m : List Int) : bv (l ++ m) = bv l ++ bv m := List.map_append
theorem bv_length (l : List Int) : (bv l).length = l.length := List.length_map ..
theorem bv_row (l : List Int) : byteRow (lf l) l.length = bv l := by
  unfold byteRow bv lf
  apply List.ext_getElem (by simp)
  intro i h1 h2
  simp at h1 h2 ⊢
  rw [List.getElem?_eq_getElem h1]
  rfl
/-- A []byte that can be read as a text. -/
def RdL (w : World) (a : Option Addr) (l : List Int) : Prop := Rd .u8 w a l.length (lf l)
theorem RdL.below {w w' : World} {a : Option Addr} {l : List Int} (h : RdL w a l) (hb : Below w.heap.size w w') : RdL w' a l := Rd.below h hb
/-- A text handed back. -/
def RetL (w : World) (l : List Int) (e : Ending) (w' : World) : Prop :=
  ∃ a' c', e = .returned (.slice a' l.length c') ∧ RdL w' a' l ∧ Below w.heap.size w w' ∧ (0 < l.length → ∀ p, a' = some p → w.heap.size ≤ p.block) ∧ l.length ≤ c' ∧ c' ≤ 9223372036854775807
theorem own_bv {w : World} {B : Nat} {v : Value} {l : List Int} {n : Nat} (hn : n = l.length) (h : w.ownsRow B 5 1 v n (bv l)) : ∃ a c, v = .slice a n c ∧ OwnB w B a n (lf l) ∧ n ≤ c ∧ c ≤ 9223372036854775807 := by
  subst hn
  rw [← bv_row] at h
  exact ownB_ofRow h
/-- Texts side by side. -/
def RdSL (w : World) (b o : Nat) (PL : List (List Int)) : Prop :=
  ∀ i p, PL[i]? = some p → ∃ ad cp, w.cell? ⟨b, o + i, none⟩ = some (.slice ad p.length cp) ∧ RdL w ad p
theorem RdSL.below {w w' : World} {b o : Nat} {PL : List (List Int)} (h : RdSL w b o PL) (hb : Below w.heap.size w w') : RdSL w' b o PL := fun i p hi => by
  obtain ⟨ad, cp, h1, h2⟩ := h i p hi
  exact ⟨ad, cp, (hb.cell (p := ⟨b, o + i, none⟩) (World.block_lt_of_cell? _ _ h1)).trans h1, h2.below hb⟩
end Go.Proofs.Ythcclkeeekppmaa

namespace Go.Proofs.Ythcclkeeekppmaa
open Go

/-! A drawn region whose last operation writes a cell that the region reads: what holds of the world is asked behind every operation but that one. -/
section
variable {P : Program} {ops : Array Oper} {Q : Exit → Act → World → Prop} {md : Region.Mode} {S : World → Prop} {late : Nat}

def wpLate (P : Program) (md : Region.Mode) (ops : Array Oper) (Q : Exit → Act → World → Prop) (S : World → Prop) (late : Nat) : Nat → Array Bool → Act → World → Prop
  | 0, listed, a, w => Region.ready md ops listed = [] ∧ Q .normal a w
  | fuel + 1, listed, a, w => (Region.ready md ops listed = [] → Q .normal a w) ∧
    ∀ i ∈ Region.ready md ops listed, wpOp P ops Q i (fun a' w' => (i ≠ late → S w') ∧ wpLate P md ops Q S late fuel (listed.setIfInBounds i true) a' w') a w

theorem wpAny_of_late : ∀ (fuel : Nat) (listed : Array Bool) (a : Act) (w : World), wpLate P md ops Q S late fuel listed a w → wpAny P md ops Q fuel listed a w
  | 0, _, _, _, h => h
  | fuel + 1, _, _, _, h => ⟨h.1, fun i hi => wpOp_mono (fun a' w' h' => wpAny_of_late fuel _ a' w' h'.2) (h.2 i hi)⟩

/-- Operations that wait for one another down to number i, none of which has come up: as long as i hasn't, none of them can. -/
def Waits (md : Region.Mode) (ops : Array Oper) (i : Nat) (ch : List Nat) : Prop :=
  ∀ c ∈ ch, c = i ∨ ∃ o, ops[c]? = some o ∧ ∃ e ∈ o.after, Region.binds md e = true ∧ e.on ∈ ch

theorem Waits.not_ready {i : Nat} {ch : List Nat} (h : Waits md ops i ch) {listed : Array Bool} (hl : ∀ c ∈ ch, listed.getD c true = false) {j : Nat} (hj : j ∈ Region.ready md ops listed) (hji : j ≠ i) : j ∉ ch := fun hm => by
  rcases h j hm with h | ⟨o, ho, e, he, hb, hc⟩
  · exact hji h
  · obtain ⟨_, oj, hoj, hall⟩ := mem_ready.1 hj
    rw [ho] at hoj
    injection hoj with hoj
    subst hoj
    have h1 := hall e he hb
    have h2 := hl _ hc
    rcases Nat.lt_or_ge e.on listed.size with h' | h'
    · simp [h'] at h1 h2
      rw [h2] at h1
      cases h1
    · simp [Array.getElem?_eq_none h'] at h1

theorem wpLate_first {i : Nat} {oi : Oper} {v : Value} {ch : List Nat} (hi : ops[i]? = some oi) (hsel : ∀ (j : Nat) (o : Oper) cs b, ops[j]? = some o → o.op ≠ .select cs b)
    (hQ : ∀ c a w, Q (.panic c) (a.put oi.dst v) w → Q (.panic c) a w) (hw : Waits md ops i ch) (hlate : late ∈ ch) (hil : i ≠ late) :
    ∀ (fuel : Nat) (listed : Array Bool) (a : Act) (w : World),
      (∀ j oj, ops[j]? = some oj → j ≠ i → listed.getD j true = false → (∀ e ∈ oj.after, Region.binds md e = true → e.on ≠ i) → oi.apart ops oj = true) →
      (∀ c ∈ ch, listed.getD c true = false) →
      i ∈ Region.ready md ops listed → YieldsIf P ops S oi v a → S w →
      wpLate P md ops Q S late fuel (listed.setIfInBounds i true) (a.put oi.dst v) w → wpLate P md ops Q S late (fuel + 1) listed a w := by
  intro fuel
  induction fuel with
  | zero =>
    intro listed a w _ _ hr hy hS H
    refine ⟨fun h => (by rw [h] at hr; cases hr), fun j hj => ?_⟩
    by_cases hji : j = i
    · subst hji; exact hy.wpOp hi hS ⟨fun _ => hS, H⟩
    · have := ready_mono hj hji
      rw [H.1] at this
      cases this
  | succ fuel ih =>
    intro listed a w hfree hch hr hy hS H
    refine ⟨fun h => (by rw [h] at hr; cases hr), fun j hj => ?_⟩
    by_cases hji : j = i
    · subst hji; exact hy.wpOp hi hS ⟨fun _ => hS, H⟩
    · have hjc := hw.not_ready hch hj hji
      have hjl : j ≠ late := fun e => hjc (e ▸ hlate)
      have h1 := H.2 j (ready_mono hj hji)
      obtain ⟨hjun, oj, hoj, hall⟩ := mem_ready.1 hj
      have hnot : ∀ e ∈ oj.after, Region.binds md e = true → e.on ≠ i := fun e he hb heq => by
        have h1 := hall e he hb
        have h0 := (mem_ready.1 hr).1
        rw [heq] at h1
        rcases Nat.lt_or_ge i listed.size with h' | h'
        · simp [h'] at h0 h1; rw [h0] at h1; cases h1
        · simp [Array.getElem?_eq_none h'] at h1
      have h2 := wpOp_putIf hoj (hfree j oj hoj hji hjun hnot) (fun cs b => hsel i oi cs b hi) (fun cs b => hsel j oj cs b hoj) hQ hy h1
      have hfree' : ∀ k ok, ops[k]? = some ok → k ≠ i → (listed.setIfInBounds j true).getD k true = false →
          (∀ e ∈ ok.after, Region.binds md e = true → e.on ≠ i) → oi.apart ops ok = true := fun k ok hk hki hun hno => by
        refine hfree k ok hk hki ?_ hno
        by_cases hjk : j = k
        · subst hjk; exact hjun
        · rw [getD_set_ne true hjk] at hun; exact hun
      have hch' : ∀ c ∈ ch, (listed.setIfInBounds j true).getD c true = false := fun c hc => by
        have hjk : j ≠ c := fun e => hjc (e ▸ hc)
        rw [getD_set_ne true hjk]
        exact hch c hc
      refine wpOp_mono (fun a' w' h3 => ⟨fun _ => h3.2.1 hjl, ih (listed.setIfInBounds j true) a' w' hfree' hch' (ready_mono hr (Ne.symm hji)) h3.1 (h3.2.1 hjl) ?_⟩) h2
      rw [Array.setIfInBounds_comm _ _ hji]
      exact h3.2.2

/-- The operations that wait for number i, down the line. -/
def behind (ops : Array Oper) (i : Nat) : Nat → List Nat
  | 0 => [i]
  | n + 1 => let l := behind ops i n
    l ++ (List.range ops.size).filter fun j => !l.contains j && (match ops[j]? with | some o => o.after.any fun e => Region.binds .any e && l.contains e.on | none => false)
def waitsB (ops : Array Oper) (listed : Array Bool) (i late : Nat) (ch : List Nat) : Bool :=
  ch.contains late && i != late && ch.all fun c => !(listed.getD c true) && (c == i || (match ops[c]? with | some o => o.after.any fun e => Region.binds .any e && ch.contains e.on | none => false))

theorem waitsB_spec {listed : Array Bool} {i : Nat} {ch : List Nat} (h : waitsB ops listed i late ch = true) : late ∈ ch ∧ i ≠ late ∧ Waits .any ops i ch ∧ ∀ c ∈ ch, listed.getD c true = false := by
  unfold waitsB at h
  simp only [Bool.and_eq_true, List.all_eq_true, Bool.not_eq_true', Bool.or_eq_true, bne_iff_ne, ne_eq, List.contains_iff_mem, beq_iff_eq] at h
  obtain ⟨⟨h1, h2⟩, h3⟩ := h
  refine ⟨h1, h2, fun c hc => ?_, fun c hc => (h3 c hc).1⟩
  rcases (h3 c hc).2 with h | h
  · exact Or.inl h
  · cases ho : ops[c]? with
    | none => rw [ho] at h; cases h
    | some o =>
      rw [ho] at h
      simp only [Array.any_eq_true', Bool.and_eq_true, List.contains_iff_mem] at h
      obtain ⟨e, he, hb, hm⟩ := h
      exact Or.inr ⟨o, rfl, e, he, hb, hm⟩

theorem wpLate_take {i : Nat} {oi : Oper} {v : Value} {fuel : Nat} {listed : Array Bool} {a : Act} {w : World} (n : Nat) (hi : ops[i]? = some oi)
    (hs : Region.noSelect ops = true) (hf : Region.free .any ops listed i = true) (hr : (Region.ready .any ops listed).contains i = true) (hwt : waitsB ops listed i late (behind ops i n) = true)
    (hQ : ∀ c a w, Q (.panic c) (a.put oi.dst v) w → Q (.panic c) a w) (hy : YieldsIf P ops S oi v a) (hS : S w)
    (h : wpLate P .any ops Q S late fuel (listed.setIfInBounds i true) (a.put oi.dst v) w) : wpLate P .any ops Q S late (fuel + 1) listed a w := by
  obtain ⟨h1, h2, h3, h4⟩ := waitsB_spec hwt
  exact wpLate_first hi (Region.noSelect_spec hs) hQ h3 h1 h2 fuel listed a w (Region.free_spec hi hf) h4 (by simpa using hr) hy hS h

/-- One alone can come up. -/
theorem wpLate_one {i : Nat} {o : Oper} {fuel : Nat} {listed : Array Bool} {a : Act} {w : World} (hr : Region.ready md ops listed = [i]) (ho : ops[i]? = some o)
    (h : ∀ K' : Act → World → Prop, Shut (∀ a w, (i ≠ late → S w) → ((i ≠ late → S w) → wpLate P md ops Q S late fuel (listed.setIfInBounds i true) a w) → K' a w) → if Region.wanted o (yielded ops a.tmps) = true then Oper.wp P o a w K' Q else K' (a.put o.dst undef) w) :
    wpLate P md ops Q S late (fuel + 1) listed a w :=
  ⟨fun h0 => (by rw [hr] at h0; cases h0), fun j hj => by
    rw [hr] at hj
    have : j = i := by simpa using hj
    subst this
    exact wpOp_step ho (fun K' hK => h K' (fun a w hS hW => hK a w ⟨hS, hW hS⟩))⟩

theorem wpLate_done {listed : Array Bool} {a : Act} {w : World} (hr : Region.ready md ops listed = []) (h : Q .normal a w) : ∀ fuel, wpLate P md ops Q S late fuel listed a w
  | 0 => ⟨hr, h⟩
  | _ + 1 => ⟨fun _ => h, by rw [hr]; simp⟩

theorem wp_region_late {id : Nat} {a : Act} {w : World} (late : Nat) (hm : P.follows .mixedOrders = true) (hS : S w.drew)
    (h : S w.drew → wpLate P .any ops Q S late ops.size (Array.replicate ops.size false) a w.drew) : (Code.region id ops true).wp P Q a w :=
  wp_region_any hm (wpAny_of_late _ _ _ _ (h hS))
end


/-- The operation at a place of a list that is written out. -/
def Pick : Nat → List Oper → Oper → Prop
  | 0, y :: _, x => y = x
  | k + 1, _ :: l, x => Pick k l x
  | _, [], _ => False
theorem Pick.zero {x : Oper} {l : List Oper} : Pick 0 (x :: l) x := rfl
theorem Pick.succ {k : Nat} {x y : Oper} {l : List Oper} (h : Pick k l x) : Pick (k + 1) (y :: l) x := h
theorem Pick.get : ∀ {k : Nat} {l : List Oper} {x : Oper}, Pick k l x → l.toArray[k]? = some x
  | 0, y :: l, x, h => by
    have e : y = x := h
    simp [e]
  | k + 1, y :: l, x, h => by
    have e : Pick k l x := h
    simpa using e.get
  | 0, [], _, h => h.elim
  | k + 1, [], _, h => h.elim

theorem late_take {l : List Oper} {P : Program} {Q : Exit → Act → World → Prop} {S : World → Prop} {late : Nat} (i : Nat) {oi : Oper} (hp : Pick i l oi) {v : Value} {fuel : Nat} {listed : Array Bool} {a : Act} {w : World} 
    (hs : Region.noSelect l.toArray = true) (hf : Region.free .any l.toArray listed i = true) (hr : (Region.ready .any l.toArray listed).contains i = true) (hwt : waitsB l.toArray listed i late (behind l.toArray i 8) = true)
    (hQ : ∀ c a w, Q (.panic c) (a.put oi.dst v) w → Q (.panic c) a w) (hw : Region.wanted oi (yielded l.toArray a.tmps) = true) (hy : ∀ w, S w → (execOp a.eval oi).run P w = .ok (.value v) w) (hS : S w)
    (h : wpLate P .any l.toArray Q S late fuel (listed.setIfInBounds i true) (a.put oi.dst v) w) : wpLate P .any l.toArray Q S late (fuel + 1) listed a w :=
  wpLate_take 8 hp.get hs hf hr hwt hQ (Or.inl ⟨hw, hy⟩) hS h

theorem late_one {l : List Oper} {P : Program} {Q : Exit → Act → World → Prop} {S : World → Prop} {late : Nat} (i : Nat) {o : Oper} (hp : Pick i l o) {fuel : Nat} {listed : Array Bool} {a : Act} {w : World} (hr : Region.ready .any l.toArray listed = [i]) 
    (h : ∀ K' : Act → World → Prop, Shut (∀ a w, (i ≠ late → S w) → ((i ≠ late → S w) → wpLate P .any l.toArray Q S late fuel (listed.setIfInBounds i true) a w) → K' a w) → if Region.wanted o (yielded l.toArray a.tmps) = true then Oper.wp P o a w K' Q else K' (a.put o.dst undef) w) :
    wpLate P .any l.toArray Q S late (fuel + 1) listed a w := wpLate_one hr hp.get h
theorem Pick.s5 {k : Nat} {x a b c d e : Oper} {l : List Oper} (h : Pick k l x) : Pick (k + 5) (a :: b :: c :: d :: e :: l) x := h
theorem tk {l : List Oper} {P : Program} {Q : Exit → Act → World → Prop} {S : World → Prop} {late : Nat} (i : Nat) {oi : Oper} (hp : Pick i l oi) {v : Value} {fuel : Nat} {listed : Array Bool} {a : Act} {w : World}
    (hy : ∀ w, S w → (execOp a.eval oi).run P w = .ok (.value v) w) (h : wpLate P .any l.toArray Q S late fuel (listed.setIfInBounds i true) (a.put oi.dst v) w) (hs : Region.noSelect l.toArray = true := by kernel_rfl) (hf : Region.free .any l.toArray listed i = true := by kernel_rfl) (hr : (Region.ready .any l.toArray listed).contains i = true := by kernel_rfl) (hwt : waitsB l.toArray listed i late (behind l.toArray i 8) = true := by kernel_rfl)
    (hQ : ∀ c a w, Q (.panic c) (a.put oi.dst v) w → Q (.panic c) a w := by exact fun _ _ _ h => h) (hw : Region.wanted oi (yielded l.toArray a.tmps) = true := by rfl) (hS : S w := by assumption) : wpLate P .any l.toArray Q S late (fuel + 1) listed a w := late_take i hp hs hf hr hwt hQ hw hy hS h
theorem tk1 {l : List Oper} {P : Program} {Q : Exit → Act → World → Prop} {S : World → Prop} {late : Nat} (i : Nat) {o : Oper} (hp : Pick i l o) {fuel : Nat} {listed : Array Bool} {a : Act} {w : World}
    (h : ∀ K' : Act → World → Prop, Shut (∀ a w, (i ≠ late → S w) → ((i ≠ late → S w) → wpLate P .any l.toArray Q S late fuel (listed.setIfInBounds i true) a w) → K' a w) → if Region.wanted o (yielded l.toArray a.tmps) = true then Oper.wp P o a w K' Q else K' (a.put o.dst undef) w) (hr : Region.ready .any l.toArray listed = [i] := by kernel_rfl) :
    wpLate P .any l.toArray Q S late (fuel + 1) listed a w := late_one i hp hr h
theorem tkp : (∀ (a : Act) (d : Tmp) (v : Value), a.put (some d) v = { a with tmps := a.tmps.setIfInBounds d v }) ∧ (∀ (a : Act) (v : Value), a.put none v = a) ∧ (∀ (l : List Value) (i : Nat) (x : Value), l.toArray.setIfInBounds i x = (l.set i x).toArray) ∧ (∀ (l : List Value) (x y : Value), (x :: l).set 0 y = y :: l) ∧ (∀ (l : List Value) (x y : Value) (n : Nat), (x :: l).set (n + 1) y = x :: l.set n y) := ⟨fun _ _ _ => rfl, fun _ _ => rfl, fun _ _ _ => List.setIfInBounds_toArray .., fun _ _ _ => rfl, fun _ _ _ _ => rfl⟩
end Go.Proofs.Ythcclkeeekppmaa
