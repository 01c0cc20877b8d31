import Derived.Test.YtakemeccigpbaaaTkMQ
import Derived.Test.YtakemeccigpbaaaTrK
import Derived.Test.YtakemeccigpbaaaTrV
import Derived.Test.YtakemeccigpbaaaLate
import Derived.Test.YtakemeccigpbaaaTrF
import Derived.Test.YtakemeccigpbaaaTiUQ
namespace Go.Proofs.Ytakemeccigpbaaa
set_option linter.unusedVariables false

/-- A key put in its place. -/
def insK (key : ByteArray) (L : List ByteArray) : List ByteArray := L.take (cntL key L) ++ key :: L.drop (cntL key L)
/-- One list, or two when it holds more than four. -/
def splL {T : Type} (L : List T) : List (List T) := if L.length ≤ 4 then [L] else [L.take 3, L.drop 3]
/-- The child that a key belongs to. -/
def KidIs {d : Nat} (l : List (Ro d)) (key : ByteArray) (i : Nat) : Prop :=
  i < l.length ∧ (∀ h : i < l.length, 0 < i → Op.bytesLess key.toList (gt (keysR d l[i]) 0).toList = false) ∧ (∀ h : i + 1 < l.length, Op.bytesLess key.toList (gt (keysR d l[i + 1]) 0).toList = true)
/-- What comes of a tree when a key is put in: one tree, or two. -/
def InsR (key : ByteArray) : (d : Nat) → Ro d → List (Ro d) → Prop
  | 0, t, _ => t.elim
  | d + 1, .inl ks, r => r = (splL (insK key ks)).map Sum.inl
  | d + 1, .inr l, r => ∃ i, KidIs l key i ∧ ∃ (h : i < l.length) (r' : List (Ro d)), InsR key d l[i] r' ∧ r = (splL (l.take i ++ r' ++ l.drop (i + 1))).map Sum.inr

theorem InsR_inl (key : ByteArray) (d : Nat) (ks : List ByteArray) (r : List (Ro (d + 1))) : InsR key (d + 1) (.inl ks) r = (r = (splL (insK key ks)).map Sum.inl) := rfl
theorem InsR_inr (key : ByteArray) (d : Nat) (l : List (Ro d)) (r : List (Ro (d + 1))) : InsR key (d + 1) (.inr l) r = ∃ i, KidIs l key i ∧ ∃ (h : i < l.length) (r' : List (Ro d)), InsR key d l[i] r' ∧ r = (splL (l.take i ++ r' ++ l.drop (i + 1))).map Sum.inr := rfl

theorem first_lt {d : Nat} {l : List (Ro d)} (ha : Asc (l.flatMap (keysR d))) (hp : ∀ k (h : k < l.length), 0 < (keysR d l[k]).length) {i j : Nat} (hij : i < j) (hj : j < l.length) : Op.bytesLess (gt (keysR d (l[i]'(by omega))) 0).toList (gt (keysR d l[j]) 0).toList = true := by
  unfold Asc at ha
  rw [List.pairwise_flatMap] at ha
  have q := (List.pairwise_iff_getElem.1 ha.2) i j (by omega) hj hij
  exact q _ (gt_mem (hp i (by omega))) _ (gt_mem (hp j hj))

theorem KidIs.fn {d : Nat} {l : List (Ro d)} {key : ByteArray} (ha : Asc (l.flatMap (keysR d))) (hp : ∀ k (h : k < l.length), 0 < (keysR d l[k]).length) {i j : Nat} (h1 : KidIs l key i) (h2 : KidIs l key j) : i = j := by
  have key1 : ∀ {i j : Nat}, KidIs l key i → KidIs l key j → ¬ i < j := by
    intro i j h1 h2 hij
    have q1 := h1.2.2 (by have := h2.1; omega)
    have q2 := h2.2.1 h2.1 (by omega)
    by_cases e : i + 1 = j
    · subst e
      rw [q1] at q2
      cases q2
    · have q3 := first_lt ha hp (show i + 1 < j by omega) h2.1
      rw [less_trans _ _ _ q1 q3] at q2
      cases q2
  have a1 := key1 h1 h2
  have a2 := key1 h2 h1
  omega

theorem bal_keys : ∀ {d : Nat} {t : Ro d} {h : Nat}, BalR d false t h → 0 < (keysR d t).length
  | 0, t, h, hb => t.elim
  | d + 1, .inl t, h, hb => by
    obtain ⟨_, _, q⟩ := hb
    show 0 < t.length
    rcases q with q | q
    · cases q
    · omega
  | d + 1, .inr l, h, hb => by
    obtain ⟨h2, _, h', _, hall⟩ := hb
    show 0 < (l.flatMap (keysR d)).length
    match l, h2, hall with
    | t :: l', _, hall =>
      have := bal_keys (hall t (by simp))
      rw [List.flatMap_cons, List.length_append]
      omega

/-- What comes of it is told by the tree and the key. -/
theorem InsR.fn {key : ByteArray} : ∀ {d : Nat} {t : Ro d} {root : Bool} {h : Nat} {r r' : List (Ro d)}, BalR d root t h → Asc (keysR d t) → InsR key d t r → InsR key d t r' → r = r'
  | 0, t, _, _, _, _, _, _, _, _ => t.elim
  | d + 1, .inl ks, root, h, r, r', hb, ha, h1, h2 => by
    rw [InsR_inl] at h1 h2
    rw [h1, h2]
  | d + 1, .inr l, root, h, r, r', hb, ha, h1, h2 => by
    obtain ⟨_, _, h', _, hall⟩ := hb
    rw [InsR_inr] at h1 h2
    obtain ⟨i, k1, hi, s, e1, rfl⟩ := h1
    obtain ⟨j, k2, hj, s', e2, rfl⟩ := h2
    have ha' : Asc (l.flatMap (keysR d)) := ha
    have e : i = j := KidIs.fn ha' (fun k hk => bal_keys (hall _ (List.getElem_mem hk))) k1 k2
    subst e
    rw [InsR.fn (hall _ (List.getElem_mem hi)) (asc_kid ha' i hi) e1 e2]

theorem splL_one {T : Type} {L : List T} (h : L.length ≤ 4) : splL L = [L] := by unfold splL; rw [if_pos h]
theorem splL_two {T : Type} {L : List T} (h : ¬ L.length ≤ 4) : splL L = [L.take 3, L.drop 3] := by unfold splL; rw [if_neg h]
theorem insK_length (key : ByteArray) (L : List ByteArray) : (insK key L).length = L.length + 1 := by
  unfold insK
  rw [List.length_append, List.length_cons, List.length_take, List.length_drop]
  have : cntL key L ≤ L.length := List.length_filter_le _ _
  omega

/-- It stays balanced: one tree as high, filled, or two of them. -/
theorem InsR.bal {key : ByteArray} : ∀ {d : Nat} {t : Ro d} {root : Bool} {h : Nat} {r : List (Ro d)}, BalR d root t h → InsR key d t r →
    (∃ y, r = [y] ∧ BalR d root y h) ∨ (∃ y z, r = [y, z] ∧ BalR d false y h ∧ BalR d false z h)
  | 0, t, _, _, _, _, _ => t.elim
  | d + 1, .inl ks, root, h, r, hb, h1 => by
    obtain ⟨rfl, h4, hr⟩ := hb
    rw [InsR_inl] at h1
    have hl := insK_length key ks
    by_cases e : (insK key ks).length ≤ 4
    · rw [splL_one e] at h1
      refine .inl ⟨.inl (insK key ks), h1, rfl, e, ?_⟩
      rcases hr with hr | hr
      · exact .inl hr
      · exact .inr (by omega)
    · rw [splL_two e] at h1
      refine .inr ⟨.inl ((insK key ks).take 3), .inl ((insK key ks).drop 3), h1, ⟨rfl, ?_, .inr ?_⟩, ⟨rfl, ?_, .inr ?_⟩⟩
      · rw [List.length_take]; omega
      · rw [List.length_take]; omega
      · rw [List.length_drop]; omega
      · rw [List.length_drop]; omega
  | d + 1, .inr l, root, h, r, hb, h1 => by
    obtain ⟨h2, h4, h', rfl, hall⟩ := hb
    rw [InsR_inr] at h1
    obtain ⟨i, k1, hi, s, e1, rfl⟩ := h1
    have q := InsR.bal (hall _ (List.getElem_mem hi)) e1
    have hs : (s.length = 1 ∨ s.length = 2) ∧ ∀ t, t ∈ s → BalR d false t h' := by
      rcases q with ⟨y, rfl, hy⟩ | ⟨y, z, rfl, hy, hz⟩
      · exact ⟨.inl rfl, fun t ht => by simp at ht; subst ht; exact hy⟩
      · refine ⟨.inr rfl, fun t ht => ?_⟩
        simp at ht
        rcases ht with rfl | rfl
        · exact hy
        · exact hz
    have hlen : (l.take i ++ s ++ l.drop (i + 1)).length = l.length - 1 + s.length := by
      rw [List.length_append, List.length_append, List.length_take, List.length_drop]
      omega
    have hmem : ∀ t, t ∈ l.take i ++ s ++ l.drop (i + 1) → BalR d false t h' := by
      intro t ht
      rw [List.mem_append, List.mem_append] at ht
      rcases ht with (ht | ht) | ht
      · exact hall t (List.mem_of_mem_take ht)
      · exact hs.2 t ht
      · exact hall t (List.mem_of_mem_drop ht)
    have hs1 := hs.1
    generalize l.take i ++ s ++ l.drop (i + 1) = M at hlen hmem ⊢
    by_cases e : M.length ≤ 4
    · rw [splL_one e]
      exact .inl ⟨.inr M, rfl, by omega, e, h', rfl, hmem⟩
    · rw [splL_two e]
      refine .inr ⟨.inr (M.take 3), .inr (M.drop 3), rfl, ⟨?_, ?_, h', rfl, fun t ht => hmem t (List.mem_of_mem_take ht)⟩, ⟨?_, ?_, h', rfl, fun t ht => hmem t (List.mem_of_mem_drop ht)⟩⟩
      · rw [List.length_take]; omega
      · rw [List.length_take]; omega
      · rw [List.length_drop]; omega
      · rw [List.length_drop]; omega
end Go.Proofs.Ytakemeccigpbaaa

namespace Go.Proofs.Ytakemeccigpbaaa
open Go.RowKit Go.Deep
set_option linter.unusedVariables false
set_option maxRecDepth 100000

/-- The first key of a list's child. -/
def fst1 {d : Nat} (l : List (Ro d)) (k : Nat) : ByteArray := match l[k]? with
  | some t => gt (keysR d t) 0
  | none => { data := #[] }
theorem fst1_at {d : Nat} {l : List (Ro d)} {k : Nat} (h : k < l.length) : fst1 l k = gt (keysR d l[k]) 0 := by
  unfold fst1
  rw [List.getElem?_eq_getElem h]

set_option maxHeartbeats 4000000 in
theorem child_any (d : Nat) (l : List (Ro d)) (v : Value) (key : ByteArray) (w : World) (hv : NA w (d + 1) (.inr l) v) (hp : ∀ k (h : k < l.length), 0 < (keysR d l[k]).length) (hnod : nodesR (d + 1) (.inr l) ≤ 5000) (hlen : ∀ k (h : k < l.length), (keysR d l[k]).length ≤ 1099511627776) :
    Calls Try.prog 66 #[v, .string key] w fun e w' => ∃ i : Nat, e = .returned (.int .i64 (i : Int)) ∧ KidIs l key i ∧ Below w.heap.size w w' := by
  obtain ⟨ka, kc, b, cc, xs, rfl, _, hb, hl0, hx, hk⟩ := hv
  have HKid : Hid (∀ W : World, Below w.heap.size w W → ∀ k (h : k < l.length), ∃ lf ka kn kc ca cn cc, W.cell? ⟨b, k * 3, none⟩ = some (.bool lf) ∧ W.cell? ⟨b, k * 3 + 1, none⟩ = some (.slice ka kn kc) ∧ W.cell? ⟨b, k * 3 + 2, none⟩ = some (.slice ca cn cc) ∧ NA W d l[k] (.agg #[.bool lf, .slice ka kn kc, .slice ca cn cc])) := by
    intro W hW k h
    obtain ⟨lf, ka, kn, kc, ca, cn, cc, h0, h1, h2, h3⟩ := kid_at hx hk k h
    exact ⟨lf, ka, kn, kc, ca, cn, cc, (hW.cell (p := ⟨b, _, none⟩) hb).trans h0, (hW.cell (p := ⟨b, _, none⟩) hb).trans h1, (hW.cell (p := ⟨b, _, none⟩) hb).trans h2, NA.below h3 hW⟩
  have HNod : Hid ((∀ k (h : k < l.length), nodesR d l[k] ≤ 5000) ∧ (∀ k (h : k < l.length), (keysR d l[k]).length ≤ 1099511627776) ∧ ∀ k (h : k < l.length), 0 < (keysR d l[k]).length) := ⟨fun k h => by have := kid_le d l k h; omega, hlen, hp⟩
  have hl63 : l.length ≤ 5000 := by have := kids_le d l; omega
  obtain ⟨ln, hln⟩ : ∃ ln, ln = l.length := ⟨_, rfl⟩
  rw [← hln] at hl0 hl63 ⊢
  have HLn : Hid (ln = l.length) := hln
  clear hnod hlen hp hx hk hln
  go_enter Try.func66, Try.ntmps66
  go_upto_region 3 with fail
  have S1 : Hid (Bx (w.alloc (.cells #[.bool false, .slice ka 0 kc, .slice (some ⟨b, 0, none⟩) ln cc] 67)) w.heap.size 67 #[.bool false, .slice ka 0 kc, .slice (some ⟨b, 0, none⟩) ln cc] ∧ Below w.heap.size w (w.alloc (.cells #[.bool false, .slice ka 0 kc, .slice (some ⟨b, 0, none⟩) ln cc] 67))) := ⟨Bx.new _ _ _, below_alloc _ _⟩
  generalize (w.alloc (.cells #[.bool false, .slice ka 0 kc, .slice (some ⟨b, 0, none⟩) ln cc] 67)) = W at S1 ⊢
  go_loopw [5, 6] (fun q i wr => ∃ k p : Nat, k ≤ ln ∧ 1 ≤ k ∧ i = .int .i64 k ∧ q = .int .i64 p ∧ p < k ∧ (0 < p → Op.bytesLess key.toList (fst1 l p).toList = false) ∧ (∀ j, p < j → j < k → Op.bytesLess key.toList (fst1 l j).toList = true) ∧ Bx wr w.heap.size 67 #[.bool false, .slice ka 0 kc, .slice (some ⟨b, 0, none⟩) ln cc] ∧ Below w.heap.size w wr) (fun _ i _ => ln - (intOf i).toNat)
  case atStart => exact ⟨1, 0, by omega, by omega, rfl, rfl, by omega, fun h => absurd h (by omega), fun j h1 h2 => absurd h1 (by omega), S1.out.1, S1.out.2⟩
  case round =>
    obtain ⟨k, p, hk, hk1, rfl, rfl, hpk, hp1, hp2, hbx, hbel⟩ := hrel
    clear S1
    have HS : Hid ((0 < p → Op.bytesLess key.toList (fst1 l p).toList = false) ∧ (∀ j, p < j → j < k → Op.bytesLess key.toList (fst1 l j).toList = true) ∧ Bx wr w.heap.size 67 #[.bool false, .slice ka 0 kc, .slice (some ⟨b, 0, none⟩) ln cc] ∧ Below w.heap.size w wr) := ⟨hp1, hp2, hbx, hbel⟩
    have y2 := hbx.cell 2
    simp at y2
    have hz := hbx.lt
    clear hbx hbel hp1 hp2
    by_cases hlt : k < ln
    · have hlk : k < l.length := by rw [← HLn.out]; exact hlt
      obtain ⟨lf1, ka1, kn1, kc1, ca1, cn1, cc1, c0, c1, c2, hna⟩ := HKid.out wr HS.out.2.2.2 k hlk
      have HNA : Hid (NA wr d l[k] (.agg #[.bool lf1, .slice ka1 kn1 kc1, .slice ca1 cn1 cc1])) := hna
      have HK : Hid (Calls Try.prog 43 #[.agg #[.bool lf1, .slice ka1 kn1 kc1, .slice ca1 cn1 cc1]] wr (RetStrs wr (keysR d l[k]))) := keys_any d l[k] _ wr HNA.out (HNod.out.1 k hlk) (HNod.out.2.1 k hlk)
      have hk0 : (0 : Int) ≤ (k : Int) := by omega
      have hk2 : (k : Int) < (ln : Int) := by omega
      clear hna
      go_wp2_with fail
      refine HK.out.mono ?_
      rintro e w1 ⟨a1, cc2, rfl, ho1, hb1, _, _⟩
      have hpos := HNod.out.2.2 k hlk
      obtain ⟨g1, rfl, _, hr1⟩ := ho1.resolve_left (by omega)
      have s1 := hr1.cell hpos
      have hf := fst1_at hlk
      rw [← hf] at s1
      have HB : Hid (Bx w1 w.heap.size 67 #[.bool false, .slice ka 0 kc, .slice (some ⟨b, 0, none⟩) ln cc] ∧ Below w.heap.size w w1) := ⟨HS.out.2.2.1.below hb1, HS.out.2.2.2.trans (hb1.mono HS.out.2.2.2.size)⟩
      generalize (keysR d l[k]).length = m at hpos s1 ⊢
      have hm0 : (0 : Int) < (m : Int) := by omega
      have htot := less_total key.toList (fst1 l k).toList
      clear hr1 hb1 c0 c1 c2 y2 HK HNA hf
      cases hl : Op.bytesLess key.toList (fst1 l k).toList with
      | true =>
        rw [hl] at htot
        have ht2 : (Op.bytesLess (fst1 l k).toList key.toList || (fst1 l k).toList == key.toList) = false := htot
        have HN : Hid (∀ j, p < j → j < k + 1 → Op.bytesLess key.toList (fst1 l j).toList = true) := fun j h1 h2 => by
          by_cases e : j = k
          · subst e; exact hl
          · exact HS.out.2.1 j h1 (by omega)
        clear htot hl
        go_wp2
        go_roundw
        case rel => exact ⟨k + 1, p, by omega, by omega, by go_num, rfl, by omega, HS.out.1, HN.out, HB.out⟩
        case measure => simp [intOf]; omega
      | false =>
        rw [hl] at htot
        have ht2 : (Op.bytesLess (fst1 l k).toList key.toList || (fst1 l k).toList == key.toList) = true := htot
        have HN : Hid (Op.bytesLess key.toList (fst1 l k).toList = false) := hl
        clear htot hl
        go_wp2
        go_roundw
        case rel => exact ⟨k + 1, k, by omega, by omega, by go_num, rfl, by omega, fun _ => HN.out, fun j h1 h2 => absurd h1 (by omega), HB.out⟩
        case measure => simp [intOf]; omega
    · have e : k = ln := by omega
      have HF : Hid (KidIs l key p) := by
        have hn := HLn.out
        refine ⟨by omega, fun h h0 => ?_, fun h => ?_⟩
        · rw [← fst1_at h]; exact HS.out.1 h0
        · rw [← fst1_at h]; exact HS.out.2.1 (p + 1) (by omega) (by omega)
      subst e
      go_wp2
      go_ret
      exact ⟨p, rfl, HF.out, HS.out.2.2.2⟩
end Go.Proofs.Ytakemeccigpbaaa

namespace Go.Proofs.Ytakemeccigpbaaa
open Go.RowKit Go.Deep
set_option linter.unusedVariables false
set_option maxRecDepth 100000

theorem mem_gt {L : List ByteArray} {k : ByteArray} (h : k ∈ L) : ∃ i, i < L.length ∧ gt L i = k := by
  obtain ⟨i, hi, e⟩ := List.getElem_of_mem h
  refine ⟨i, hi, ?_⟩
  unfold gt
  rw [List.getD_eq_getElem?_getD, List.getElem?_eq_getElem hi]
  exact e

set_option maxHeartbeats 2000000 in
theorem holds_any (a : Option Addr) (n c : Nat) (L : List ByteArray) (key : ByteArray) (w : World) (h : RdS w a n (gt L)) (hn : n = L.length) (hn2 : n ≤ 1048576) :
    Calls Try.prog 46 #[.slice a n c, .string key] w fun e w' => ∃ b : Bool, e = .returned (.bool b) ∧ (b = true ↔ key ∈ L) ∧ Below w.heap.size w w' := by
  have HR : Hid (RdS w a n (gt L) ∧ n = L.length) := ⟨h, hn⟩
  clear h hn
  go_enter Try.func46, Try.ntmps46
  go_wp2
  go_loopw [5] (fun i wr => ∃ k : Nat, k ≤ n ∧ i = .int .i64 k ∧ (∀ j, j < k → gt L j ≠ key) ∧ Below w.heap.size w wr) (fun i _ => n - (intOf i).toNat)
  case atStart => exact ⟨0, Nat.zero_le _, rfl, fun j hj => absurd hj (Nat.not_lt_zero _), Below.refl _ _⟩
  case round =>
    obtain ⟨k, hk, rfl, hall, hbel⟩ := hrel
    have HS : Hid ((∀ j, j < k → gt L j ≠ key) ∧ Below w.heap.size w wr) := ⟨hall, hbel⟩
    by_cases hlt : k < n
    · rcases HR.out.1.below hbel with q | ⟨b, o, rfl, hc⟩
      · omega
      have s1 := hc k hlt
      have i0 : (0 : Int) ≤ (k : Int) := by omega
      have i1 : (k : Int) < (n : Int) := by omega
      clear hc hall hbel
      by_cases he : gt L k = key
      · have HY : Hid (key ∈ L) := by
          show key ∈ L
          rw [← he]
          exact gt_mem (by rw [← HR.out.2]; exact hlt)
        rw [he] at s1
        have hq : (key.toList == key.toList) = true := by simp
        go_wp2
        go_ret
        exact ⟨true, rfl, by simp [HY.out], HS.out.2⟩
      · have hq : ((gt L k).toList == key.toList) = false := by
          rw [beq_eq_false_iff_ne]
          intro e
          exact he (str_inj e)
        have HN : Hid (∀ j, j < k + 1 → gt L j ≠ key) := fun j hj => by
          by_cases e : j = k
          · subst e; exact he
          · exact HS.out.1 j (by omega)
        clear he
        go_wp2
        go_roundw
        case rel => exact ⟨k + 1, by omega, by go_num, HN.out, HS.out.2⟩
        case measure => simp [intOf]; omega
    · have e : k = n := by omega
      subst e
      have HN : Hid (¬ key ∈ L) := fun hm => by
        obtain ⟨i, hi, e⟩ := mem_gt hm
        exact HS.out.1 i (by rw [HR.out.2]; exact hi) e
      clear hall hbel
      go_wp2
      go_ret
      exact ⟨false, rfl, by simp [HN.out], HS.out.2⟩
end Go.Proofs.Ytakemeccigpbaaa

namespace Go.Proofs.Ytakemeccigpbaaa
open Go.RowKit Go.Deep
set_option linter.unusedVariables false
set_option maxRecDepth 100000

/-- Keys that lie in a block of which S holds, with room. -/
def KS (S : Nat → Prop) (w : World) (a : Option Addr) (n c : Nat) (X : Nat → ByteArray) : Prop :=
  RdS w a n X ∧ (n ≤ c ∧ c ≤ 9223372036854775807) ∧ (n ≠ 0 → ∃ x, a = some x ∧ S x.block ∧ x.block < w.heap.size)
/-- A nested tree all of whose rows lie in blocks of which S holds. -/
def NG (S : Nat → Prop) (w : World) (d : Nat) (t : Ro d) (v : Value) : Prop := NestAt (KS S w) S w d t v

theorem KS.keep {S S' : Nat → Prop} {w w' : World} {a : Option Addr} {n c : Nat} {X : Nat → ByteArray} (hz : w.heap.size ≤ w'.heap.size) (hS : ∀ b, S b → b < w.heap.size → S' b ∧ w'.heap[b]? = w.heap[b]?) (h : KS S w a n c X) : KS S' w' a n c X := by
  obtain ⟨h1, h2, h3⟩ := h
  by_cases h0 : n = 0
  · exact ⟨Or.inl h0, h2, fun h => absurd h0 h⟩
  · obtain ⟨x, rfl, hs, hl⟩ := h3 h0
    obtain ⟨q1, q2⟩ := hS _ hs hl
    rcases h1 with h1 | ⟨b, o, e, hc⟩
    · exact absurd h1 h0
    · injection e with e
      subst e
      exact ⟨Or.inr ⟨b, o, rfl, fun i hi => (World.cell?_of_block (a := ⟨b, o + i, none⟩) q2).trans (hc i hi)⟩, h2, fun _ => ⟨_, rfl, q1, by have : b < w.heap.size := hl; omega⟩⟩

theorem NG.keep {S S' : Nat → Prop} {w w' : World} {d : Nat} {t : Ro d} {v : Value} (h : NG S w d t v) (hz : w.heap.size ≤ w'.heap.size) (hS : ∀ b, S b → b < w.heap.size → S' b ∧ w'.heap[b]? = w.heap[b]?) : NG S' w' d t v :=
  NestAt.mono (fun _ _ _ _ q => q.keep hz hS) (fun b hs hl => (hS b hs hl).1) hz (fun b j hs hl => World.cell?_of_block (a := ⟨b, j, none⟩) (hS b hs hl).2) h

theorem NG.below {S : Nat → Prop} {w w' : World} {d : Nat} {t : Ro d} {v : Value} (h : NG S w d t v) (hb : Below w.heap.size w w') : NG S w' d t v :=
  h.keep hb.size (fun b hs hl => ⟨hs, hb.block b hl⟩)
theorem NG.wide {S S' : Nat → Prop} {w : World} {d : Nat} {t : Ro d} {v : Value} (h : NG S w d t v) (hS : ∀ b, S b → b < w.heap.size → S' b) : NG S' w d t v :=
  h.keep (Nat.le_refl _) (fun b hs hl => ⟨hS b hs hl, rfl⟩)
theorem NG.na {S : Nat → Prop} {w : World} {d : Nat} {t : Ro d} {v : Value} (h : NG S w d t v) : NA w d t v :=
  NestAt.mono (fun _ _ _ _ q => q.1) (fun _ _ _ => trivial) (Nat.le_refl _) (fun _ _ _ _ => rfl) h
theorem NAC.ng {w : World} {d : Nat} {t : Ro d} {v : Value} (h : NAC (fun n c => n ≤ c ∧ c ≤ 9223372036854775807) w d t v) : NG (fun b => b < w.heap.size) w d t v := by
  refine NestAt.mono (fun a n c X q => ⟨q.1, q.2, fun h0 => ?_⟩) (fun b _ hl => hl) (Nat.le_refl _) (fun _ _ _ _ => rfl) h
  rcases q.1 with q1 | ⟨b, o, rfl, hc⟩
  · exact absurd q1 h0
  · have := World.block_lt_of_cell? _ _ (hc 0 (by omega))
    exact ⟨_, rfl, this, this⟩

/-- Appending elsewhere turns nothing in blocks that are not the row's. -/
theorem NG.grown {S : Nat → Prop} {w w' : World} {d : Nat} {t : Ro d} {v vk : Value} (h : NG S w d t v) (hg : w.grownBy w' vk.ownBlock) (hS : ∀ b, S b → b < w.heap.size → vk.ownBlock ≠ some b) : NG S w' d t v :=
  h.keep hg.size (fun b hs hl => ⟨hs, hg.block b hl (fun e => hS b hs hl e.symm)⟩)

theorem KidL.cat {T : Type} {P : T → Value → Prop} {us : List T} {ys : List Value} (hu : KidL P us ys) : ∀ {ts : List T} {xs : List Value}, KidL P ts xs → KidL P (ts ++ us) (xs ++ ys)
  | [], [], _ => hu
  | t :: ts, x0 :: x1 :: x2 :: xs, h => ⟨h.1, KidL.cat hu h.2⟩
  | [], x :: xs, h => h.elim
  | t :: ts, [], h => h.elim
  | t :: ts, [x0], h => h.elim
  | t :: ts, [x0, x1], h => h.elim
theorem KidL.take {T : Type} {P : T → Value → Prop} : ∀ (k : Nat) {ts : List T} {xs : List Value}, KidL P ts xs → KidL P (ts.take k) (xs.take (k * 3))
  | 0, _, _, _ => by simp [KidL]
  | k + 1, [], [], _ => by simp [KidL]
  | k + 1, t :: ts, x0 :: x1 :: x2 :: xs, h => by
    rw [show (k + 1) * 3 = k * 3 + 3 by omega]
    exact ⟨h.1, KidL.take k h.2⟩
  | _ + 1, [], x :: xs, h => h.elim
  | _ + 1, t :: ts, [], h => h.elim
  | _ + 1, t :: ts, [x0], h => h.elim
  | _ + 1, t :: ts, [x0, x1], h => h.elim
theorem KidL.drop {T : Type} {P : T → Value → Prop} : ∀ (k : Nat) {ts : List T} {xs : List Value}, KidL P ts xs → KidL P (ts.drop k) (xs.drop (k * 3))
  | 0, _, _, h => by simpa using h
  | k + 1, [], [], _ => by simp [KidL]
  | k + 1, t :: ts, x0 :: x1 :: x2 :: xs, h => by
    rw [show (k + 1) * 3 = k * 3 + 3 by omega]
    exact KidL.drop k h.2
  | _ + 1, [], x :: xs, h => h.elim
  | _ + 1, t :: ts, [], h => h.elim
  | _ + 1, t :: ts, [x0], h => h.elim
  | _ + 1, t :: ts, [x0, x1], h => h.elim
theorem KidL.cells {T : Type} {P : T → Value → Prop} (hP : ∀ t x0 x1 x2, P t (.agg #[x0, x1, x2]) → x0.oneCell' = true ∧ x1.oneCell' = true ∧ x2.oneCell' = true) : ∀ {ts : List T} {xs : List Value}, KidL P ts xs → ∀ u ∈ xs, u.oneCell' = true
  | [], [], _, u, hu => by cases hu
  | t :: ts, x0 :: x1 :: x2 :: xs, h, u, hu => by
    obtain ⟨a0, a1, a2⟩ := hP _ _ _ _ h.1
    simp only [List.mem_cons] at hu
    rcases hu with rfl | rfl | rfl | hu
    · exact a0
    · exact a1
    · exact a2
    · exact KidL.cells hP h.2 u hu
  | [], x :: xs, h, _, _ => h.elim
  | t :: ts, [], h, _, _ => h.elim
  | t :: ts, [x0], h, _, _ => h.elim
  | t :: ts, [x0, x1], h, _, _ => h.elim
theorem NG.one {S : Nat → Prop} {w : World} {d : Nat} : ∀ (t : Ro d) (x0 x1 x2 : Value), NG S w d t (.agg #[x0, x1, x2]) → x0.oneCell' = true ∧ x1.oneCell' = true ∧ x2.oneCell' = true := by
  intro t x0 x1 x2 h
  obtain ⟨lf, ka, kn, kc, ca, cn, cc, e⟩ := NestAt.form h
  injection e with e
  injection e with e
  injection e with e0 e
  injection e with e1 e
  injection e with e2 e
  subst e0 e1 e2
  exact ⟨rfl, rfl, rfl⟩

/-- What hands back a nested tree: in old blocks of which S holds, or in new ones. -/
def RetG3 (S : Nat → Prop) (w : World) (d : Nat) (t : Ro d) (e : Ending) (w' : World) : Prop :=
  Below w.heap.size w w' ∧ ∃ lf ka kn kc ca cn cc, e = .returned (.agg #[.bool lf, .slice ka kn kc, .slice ca cn cc]) ∧ NG (fun b => S b ∨ w.heap.size ≤ b) w' d t (.agg #[.bool lf, .slice ka kn kc, .slice ca cn cc])
/-- What hands back a row of nested trees. -/
def RetGs (S : Nat → Prop) (w : World) (d : Nat) (ts : List (Ro d)) (e : Ending) (w' : World) : Prop :=
  Below w.heap.size w w' ∧ ∃ g c xs, e = .returned (.slice (some ⟨g, 0, none⟩) ts.length c) ∧ w.heap.size ≤ g ∧ g < w'.heap.size ∧ (ts.length ≤ c ∧ c ≤ 9223372036854775807) ∧ (∀ j u, xs[j]? = some u → w'.cell? ⟨g, j, none⟩ = some u) ∧ KidL (fun t v => NG (fun b => S b ∨ w.heap.size ≤ b) w' d t v) ts xs
end Go.Proofs.Ytakemeccigpbaaa

namespace Go.Proofs.Ytakemeccigpbaaa
open Go.RowKit Go.Deep
set_option linter.unusedVariables false
set_option maxRecDepth 100000

/-- Where a slice's rest begins: elements of sz cells. -/
def shZ (sz b o lo c : Nat) : Option Addr := if c = lo then some ⟨b, o, none⟩ else some ⟨b, o + lo * sz, none⟩

theorem addr_add (b o k : Nat) : Addr.add ⟨b, o, none⟩ k = ⟨b, o + k, none⟩ := by
  unfold Addr.add
  by_cases h : k = 0
  · subst h; simp
  · simp [h]

theorem cutS (b o n c lo hi : Nat) (h0 : lo ≤ hi) (h1 : hi ≤ n) (h2 : n ≤ c) (w : World) : (Instr.sliceAt 27 (.slice (some ⟨b, o, none⟩) n c) (some (.int .i64 (lo : Int))) (some (.int .i64 (hi : Int))) none).run Try.prog w = .ok (.slice (shZ 1 b o lo c) (hi - lo) (c - lo)) w := by
  have hc : hi ≤ c := by omega
  simp [Instr.sliceAt, Instr.slice, go_sem, shZ, addr_add, hc, h0]

theorem cutK (b o n c lo hi : Nat) (h0 : lo ≤ hi) (h1 : hi ≤ n) (h2 : n ≤ c) (w : World) : (Instr.sliceAt 65 (.slice (some ⟨b, o, none⟩) n c) (some (.int .i64 (lo : Int))) (some (.int .i64 (hi : Int))) none).run Try.prog w = .ok (.slice (shZ 3 b o lo c) (hi - lo) (c - lo)) w := by
  have hc : hi ≤ c := by omega
  simp [Instr.sliceAt, Instr.slice, go_sem, shZ, addr_add, hc, h0]

theorem uptoK (b o n c hi : Nat) (h1 : hi ≤ n) (h2 : n ≤ c) (w : World) : (Instr.sliceAt 65 (.slice (some ⟨b, o, none⟩) n c) none (some (.int .i64 (hi : Int))) none).run Try.prog w = .ok (.slice (some ⟨b, o, none⟩) hi c) w := by
  simp [Instr.sliceAt, Instr.slice, go_sem]
  intro h
  omega

theorem fromK (b o n c lo : Nat) (h1 : lo ≤ n) (h2 : n ≤ c) (w : World) : (Instr.sliceAt 65 (.slice (some ⟨b, o, none⟩) n c) (some (.int .i64 (lo : Int))) none none).run Try.prog w = .ok (.slice (shZ 3 b o lo c) (n - lo) (c - lo)) w := by
  simp [Instr.sliceAt, Instr.slice, go_sem, shZ, addr_add, h1]
end Go.Proofs.Ytakemeccigpbaaa

namespace Go.Proofs.Ytakemeccigpbaaa
open Go.RowKit Go.Deep
set_option linter.unusedVariables false
set_option maxRecDepth 100000

theorem rdS_cut {w : World} {b o n c lo hi : Nat} {L : List ByteArray} (h : RdS w (some ⟨b, o, none⟩) n (gt L)) (hn : n = L.length) (h0 : lo < hi) (h1 : hi ≤ n) (h2 : n ≤ c) : RdS w (shZ 1 b o lo c) (hi - lo) (gt ((L.take hi).drop lo)) := by
  rcases h with h | ⟨b', o', e, hc⟩
  · exact absurd h (by omega)
  · injection e with e
    injection e with e1 e2
    subst e1 e2
    refine Or.inr ⟨b, o + lo, by unfold shZ; rw [if_neg (by omega), Nat.mul_one], fun i hi' => ?_⟩
    have := hc (lo + i) (by omega)
    rw [show o + lo + i = o + (lo + i) by omega, this]
    congr 2
    unfold gt
    rw [List.getD_eq_getElem?_getD, List.getD_eq_getElem?_getD, List.getElem?_drop, List.getElem?_take, if_pos (by omega)]

theorem set3_block (w : World) (r : Nat) (v0 v1 v2 : Value) (b : Nat) (h : b ≠ r) : (((w.setCell ⟨r, 0, none⟩ v0).setCell ⟨r, 1, none⟩ v1).setCell ⟨r, 2, none⟩ v2).heap[b]? = w.heap[b]? := by
  rw [Below.heap_setCell _ _ _ _ h, Below.heap_setCell _ _ _ _ h, Below.heap_setCell _ _ _ _ h]
theorem set3_size (w : World) (r : Nat) (v0 v1 v2 : Value) : (((w.setCell ⟨r, 0, none⟩ v0).setCell ⟨r, 1, none⟩ v1).setCell ⟨r, 2, none⟩ v2).heap.size = w.heap.size := by simp [World.setCell]
theorem set3_below {B : Nat} {w0 w : World} (h : Below B w0 w) (r : Nat) (hr : B ≤ r) (v0 v1 v2 : Value) : Below B w0 (((w.setCell ⟨r, 0, none⟩ v0).setCell ⟨r, 1, none⟩ v1).setCell ⟨r, 2, none⟩ v2) :=
  ((h.setCell (by simpa using hr) _).setCell (by simpa using hr) _).setCell (by simpa using hr) _

theorem ks_own {S : Nat → Prop} {w : World} {B c : Nat} {a : Option Addr} {L : List ByteArray} (h : OwnS w B a L.length (gt L)) (hc : L.length ≤ c ∧ c ≤ 9223372036854775807) (hS : ∀ b, B ≤ b → S b) : KS S w a L.length c (gt L) := by
  refine ⟨h.rd, hc, fun h0 => ?_⟩
  rcases h with h | ⟨g, rfl, hg, hr⟩
  · exact absurd h h0
  · exact ⟨_, rfl, hS _ hg, hr.lt⟩

set_option maxHeartbeats 1000000 in
theorem part_leaf (d : Nat) (L : List ByteArray) (v : Value) (lo hi : Nat) (S : Nat → Prop) (w : World) (hv : NG S w (d + 1) (.inl L) v) (h0 : lo < hi) (h1 : hi ≤ L.length) (hL : L.length ≤ 1000) :
    Calls Try.prog 70 #[v, .int .i64 (lo : Int), .int .i64 (hi : Int)] w (RetG3 S w (d + 1) (.inl ((L.take hi).drop lo))) := by
  obtain ⟨ka, kc, ca, cc, rfl, hrd, hcap, hblk⟩ := hv
  obtain ⟨⟨b, o, x⟩, rfl, hs, hbl⟩ := hblk (by omega)
  obtain rfl : x = none := by
    rcases hrd with h | ⟨b', o', e, _⟩
    · exact absurd h (by omega)
    · injection e with e
      injection e
  obtain ⟨n, hn⟩ : ∃ n, n = L.length := ⟨_, rfl⟩
  rw [← hn] at hrd hcap h1 hL ⊢
  have HR : Hid (RdS w (shZ 1 b o lo kc) (hi - lo) (gt ((L.take hi).drop lo))) := rdS_cut hrd hn h0 h1 hcap.1
  have HLen : Hid (hi - lo = ((L.take hi).drop lo).length) := by show _ = _; rw [List.length_drop, List.length_take]; omega
  have hsl : ∀ W : World, (Instr.sliceAt 27 (.slice (some ⟨b, o, none⟩) n kc) (some (.int .i64 (lo : Int))) (some (.int .i64 (hi : Int))) none).run Try.prog W = .ok (.slice (shZ 1 b o lo kc) (hi - lo) (kc - lo)) W := cutS b o n kc lo hi (by omega) h1 hcap.1
  have HO : Hid (∀ O1 O2 : Obj, (((w.alloc O1).alloc O2).alloc (.cells #[] 9)).ownsRow (w.heap.size + 2) 9 1 (.slice (some ⟨w.heap.size + 2, 0, none⟩) 0 0) 0 []) := fun O1 O2 => by simpa using own_empty ((w.alloc O1).alloc O2) 9 (w.heap.size + 2) 1 (by simp)
  have HB3 : Hid (∀ O1 O2 O3 : Obj, Below w.heap.size w (((w.alloc O1).alloc O2).alloc O3)) := fun _ _ _ => ((below_alloc _ _).alloc (by simp) _).alloc (by simp; omega) _
  have hlen : hi - lo ≤ 1000 := by omega
  clear hrd hn hblk hs hbl h0 h1 hcap
  go_enter Try.func70, Try.ntmps70
  go_wp2_with (at_builtin; refine wpList_append_strs rfl _ _ rfl (w.heap.size + 2) (.slice (some ⟨w.heap.size + 2, 0, none⟩) 0 0) 0 [] rfl (HO.out _ _) (shZ 1 b o lo kc) (hi - lo) (kc - lo) _ rfl HLen.out (HR.out.below (HB3.out _ _ _)) (by omega) (by simp) ?_)
  intro v' w' ho hg hat
  have HB : Hid (Below w.heap.size w w') := ((HB3.out _ _ _).grown hg (by simp; omega) (fun k e => by simp [Value.ownBlock] at e; omega))
  have hz : w.heap.size + 3 ≤ w'.heap.size := by have := hg.size; simpa using this
  have hbx : Bx w' (w.heap.size + 1) 67 #[.bool false, .slice none 0 0, .slice none 0 0] := by
    have q := (Bx.new (w.alloc (.cells #[.bool true, .slice (some ⟨b, o, none⟩) n kc, .slice ca 0 cc] 67)) #[.bool false, .slice none 0 0, .slice none 0 0] 67).alloc (.cells #[] 9)
    simp only [World.size_alloc] at q
    exact q.of_block (hg.block _ q.lt (by simp [Value.ownBlock]))
  obtain ⟨a', c', rfl, h1, h2, h3⟩ := ownS_strL ho HLen.out
  have HK : Hid (KS (fun b => w.heap.size + 2 ≤ b) w' a' ((L.take hi).drop lo).length c' (gt ((L.take hi).drop lo))) := ks_own h1 ⟨by rw [← HLen.out]; exact h2, h3⟩ (fun b hb => hb)
  have r0 := hbx.cell 0
  have r1 := hbx.cell 1
  have r2 := hbx.cell 2
  simp at r0 r1 r2
  have hf := fun i => hbx.frozen i
  clear ho hg hat h1 hbx
  go_wp2
  refine bodyPost_ret (v := .agg #[.bool true, .slice a' (hi - lo) c', .slice none 0 0]) (by simp [results, Try.results70, go_sem, r0, r1, r2]) rfl ⟨set3_below HB.out _ (by omega) _ _ _, _, _, _, _, _, _, _, rfl, a', c', none, 0, by rw [HLen.out], ?_⟩
  exact HK.out.keep (by rw [set3_size]; exact Nat.le_refl _) (fun b hb _ => ⟨Or.inr (by omega), set3_block _ _ _ _ _ _ (by omega)⟩)

set_option maxHeartbeats 1000000 in
theorem part_inner (d : Nat) (l : List (Ro d)) (v : Value) (lo hi : Nat) (S : Nat → Prop) (w : World) (hv : NG S w (d + 1) (.inr l) v) (h0 : lo < hi) (h1 : hi ≤ l.length) (hL : l.length ≤ 1000) :
    Calls Try.prog 70 #[v, .int .i64 (lo : Int), .int .i64 (hi : Int)] w (RetG3 S w (d + 1) (.inr ((l.take hi).drop lo))) := by
  obtain ⟨ka, kc, b, cc, xs, rfl, ⟨hs, hcap⟩, hb, hl, hx, hk⟩ := hv
  obtain ⟨n, hn⟩ : ∃ n, n = l.length := ⟨_, rfl⟩
  have HLx : Hid (xs.length = n * 3) := by have := hk.len; rw [← hn] at this; exact this
  rw [← hn] at hcap h1 hL hl ⊢
  have HKid : Hid (KidL (fun t v => NG S w d t v) ((l.take hi).drop lo) ((xs.take (hi * 3)).drop (lo * 3))) := (KidL.take hi hk).drop lo
  have HLen : Hid (hi - lo = ((l.take hi).drop lo).length) := by show _ = _; rw [List.length_drop, List.length_take]; omega
  have HC : Hid (∀ j u, ((xs.take (hi * 3)).drop (lo * 3))[j]? = some u → w.cell? ⟨b, lo * 3 + j, none⟩ = some u) := by
    intro j u hj
    rw [List.getElem?_drop, List.getElem?_take] at hj
    split at hj
    · exact hx _ _ hj
    · cases hj
  have HLy : Hid (((xs.take (hi * 3)).drop (lo * 3)).length = (hi - lo) * 3) := by
    show _ = _
    rw [List.length_drop, List.length_take, HLx.out]
    omega
  have HOne : Hid (∀ u ∈ ((xs.take (hi * 3)).drop (lo * 3)), u.oneCell' = true) := HKid.out.cells NG.one
  have hsl : ∀ W : World, (Instr.sliceAt 65 (.slice (some ⟨b, 0, none⟩) n cc) (some (.int .i64 (lo : Int))) (some (.int .i64 (hi : Int))) none).run Try.prog W = .ok (.slice (some ⟨b, lo * 3, none⟩) (hi - lo) (cc - lo)) W := by
    intro W
    have := cutK b 0 n cc lo hi (by omega) h1 hcap.1 W
    unfold shZ at this
    rw [if_neg (by omega), Nat.zero_add] at this
    exact this
  have HO : Hid (∀ O1 O2 : Obj, (((w.alloc O1).alloc O2).alloc (.cells #[] 67)).ownsRow (w.heap.size + 2) 67 3 (.slice (some ⟨w.heap.size + 2, 0, none⟩) 0 0) 0 []) := fun O1 O2 => by simpa using own_empty ((w.alloc O1).alloc O2) 67 (w.heap.size + 2) 3 (by simp)
  have HB3 : Hid (∀ O1 O2 O3 : Obj, Below w.heap.size w (((w.alloc O1).alloc O2).alloc O3)) := fun _ _ _ => ((below_alloc _ _).alloc (by simp) _).alloc (by simp; omega) _
  have HBl : Hid (S b ∧ b < w.heap.size) := ⟨hs, hb⟩
  have hlen : hi - lo ≤ 1000 := by omega
  have hlen0 : 0 < hi - lo := by omega
  generalize hys : (xs.take (hi * 3)).drop (lo * 3) = ys at HKid HC HLy HOne
  obtain ⟨i0, hi0, hz0, hz1, hz2⟩ := info_parts Try.info67
  have HI : Hid (Try.prog.info? 67 = some i0 ∧ i0.zero = some (.agg #[.bool false, .slice none 0 0, .slice none 0 0]) ∧ i0.size = 3 ∧ i0.bytes = 56) := ⟨hi0, hz0, hz1, hz2⟩
  clear hx hk hn hs hb h0 h1 hcap hi0 hz0 hz1 hz2 HLx hys
  go_enter Try.func70, Try.ntmps70
  go_wp2_with (at_builtin; refine wpList_append_own_at _ rfl _ _ 65 rfl (w.heap.size + 2) 67 i0 _ 3 56 Try.underlying65 HI.out.1 HI.out.2.1 HI.out.2.2.1 HI.out.2.2.2 rfl (by decide) (.slice (some ⟨w.heap.size + 2, 0, none⟩) 0 0) 0 [] rfl (HO.out _ _) ⟨b, lo * 3, none⟩ (hi - lo) (cc - lo) ys rfl HLy.out (fun j u hj => by rw [addr_add]; exact ((HB3.out _ _ _).cell (p := ⟨b, _, none⟩) HBl.out.2).trans (HC.out j u hj)) HOne.out (by unfold maxLen; omega) (by omega) (by simp) ?_)
  intro v' w' ho hg _ hat
  have HB : Hid (Below w.heap.size w w') := ((HB3.out _ _ _).grown hg (by simp; omega) (fun k e => by simp [Value.ownBlock] at e; omega))
  have hz : w.heap.size + 3 ≤ w'.heap.size := by have := hg.size; simpa using this
  have hbx : Bx w' (w.heap.size + 1) 67 #[.bool false, .slice none 0 0, .slice none 0 0] := by
    have q := (Bx.new (w.alloc (.cells #[.bool false, .slice ka 0 kc, .slice (some ⟨b, 0, none⟩) n cc] 67)) #[.bool false, .slice none 0 0, .slice none 0 0] 67).alloc (.cells #[] 67)
    simp only [World.size_alloc] at q
    exact q.of_block (hg.block _ q.lt (by simp [Value.ownBlock]))
  obtain ⟨a', c', rfl, hf'⟩ := own_form ho
  have hcap := own_cap ho
  obtain ⟨g, rfl, hg1, hg2, hg3⟩ := hf' (by omega)
  have HG : Hid ((w.heap.size + 2 ≤ g ∧ g < w'.heap.size) ∧ (∀ j u, ys[j]? = some u → w'.cell? ⟨g, j, none⟩ = some u) ∧ (hi - lo ≤ c' ∧ c' ≤ 9223372036854775807)) := ⟨⟨hg1, hg2⟩, hg3, hcap⟩
  have r0 := hbx.cell 0
  have r1 := hbx.cell 1
  have r2 := hbx.cell 2
  simp at r0 r1 r2
  have hf := fun i => hbx.frozen i
  clear ho hg hat hbx hg1 hg2 hg3 hcap
  go_wp2
  refine bodyPost_ret (v := .agg #[.bool false, .slice none 0 0, .slice (some ⟨g, 0, none⟩) (hi - lo) c']) (by simp [results, Try.results70, go_sem, r0, r1, r2]) rfl ⟨set3_below HB.out _ (by omega) _ _ _, _, _, _, _, _, _, _, rfl, none, 0, g, c', ys, by rw [HLen.out], ⟨Or.inr (by have := HG.out.1; omega), by rw [← HLen.out]; exact HG.out.2.2⟩, by rw [set3_size]; exact HG.out.1.2, by rw [← HLen.out]; exact hlen0, fun j u hj => ?_, HKid.out.mono (fun t v q => ?_)⟩
  · have := HG.out.1
    rw [World.cell?_of_block (a := ⟨g, j, none⟩) (set3_block _ _ _ _ _ _ (show g ≠ w.heap.size + 1 by omega))]
    exact HG.out.2.1 j u hj
  · refine q.keep (by rw [set3_size]; exact HB.out.size) (fun b hs hl => ⟨Or.inl hs, (set3_block _ _ _ _ _ _ (by omega)).trans (HB.out.block b hl)⟩)
end Go.Proofs.Ytakemeccigpbaaa

namespace Go.Proofs.Ytakemeccigpbaaa
open Go.RowKit Go.Deep
set_option linter.unusedVariables false
set_option maxRecDepth 100000

/-- How many keys or children a node has; some of them; one node or two. -/
def sizR {d : Nat} : Ro (d + 1) → Nat
  | .inl L => L.length
  | .inr l => l.length
def cutR {d : Nat} (lo hi : Nat) : Ro (d + 1) → Ro (d + 1)
  | .inl L => .inl ((L.take hi).drop lo)
  | .inr l => .inr ((l.take hi).drop lo)
def splR {d : Nat} : Ro (d + 1) → List (Ro (d + 1))
  | .inl L => (splL L).map Sum.inl
  | .inr l => (splL l).map Sum.inr
theorem part_any (d : Nat) (t : Ro (d + 1)) (v : Value) (lo hi : Nat) (S : Nat → Prop) (w : World) (hv : NG S w (d + 1) t v) (h0 : lo < hi) (h1 : hi ≤ sizR t) (hL : sizR t ≤ 1000) :
    Calls Try.prog 70 #[v, .int .i64 (lo : Int), .int .i64 (hi : Int)] w (RetG3 S w (d + 1) (cutR lo hi t)) := by
  match t, hv, h1, hL with
  | .inl L, hv, h1, hL => exact part_leaf d L v lo hi S w hv h0 h1 hL
  | .inr l, hv, h1, hL => exact part_inner d l v lo hi S w hv h0 h1 hL

theorem NG.size {S : Nat → Prop} {w : World} {d : Nat} {t : Ro (d + 1)} {lf : Bool} {ka ca : Option Addr} {kn kc cn cc : Nat} (h : NG S w (d + 1) t (.agg #[.bool lf, .slice ka kn kc, .slice ca cn cc])) : (if lf then kn else cn) = sizR t := by
  match t, h with
  | .inl L, h =>
    obtain ⟨_, _, _, _, e, _⟩ := h
    injection e with e
    injection e with e
    injection e with e0 e
    injection e with e1 e
    injection e0 with e0
    injection e1 with _ e1
    subst e0
    exact e1
  | .inr l, h =>
    obtain ⟨_, _, _, _, _, e, _⟩ := h
    injection e with e
    injection e with e
    injection e with e0 e
    injection e with e1 e
    injection e with e2 e
    injection e0 with e0
    injection e2 with _ e2
    subst e0
    exact e2

end Go.Proofs.Ytakemeccigpbaaa

namespace Go.Proofs.Ytakemeccigpbaaa
open Go.RowKit Go.Deep
set_option linter.unusedVariables false
set_option maxRecDepth 100000

end Go.Proofs.Ytakemeccigpbaaa

namespace Go.Proofs.Ytakemeccigpbaaa
open Go.RowKit Go.Deep
set_option linter.unusedVariables false
set_option maxRecDepth 100000

theorem shZ_form (sz b o lo c n : Nat) (h : n ≤ c) (h2 : lo ≤ n) : ∃ oo, shZ sz b o lo c = some ⟨b, oo, none⟩ ∧ (lo < n → oo = o + lo * sz) := by
  unfold shZ
  split
  · exact ⟨o, rfl, fun h => by omega⟩
  · exact ⟨_, rfl, fun _ => rfl⟩

end Go.Proofs.Ytakemeccigpbaaa

namespace Go.Proofs.Ytakemeccigpbaaa
open Go.RowKit Go.Deep
set_option linter.unusedVariables false
set_option maxRecDepth 100000

/-- Two can come up. -/
theorem late_two {l : List Oper} {P : Program} {Q : Exit → Act → World → Prop} {S : World → Prop} {late : Nat} (i j : Nat) {oi oj : Oper} (hpi : Pick i l oi) (hpj : Pick j l oj) {fuel : Nat} {listed : Array Bool} {a : Act} {w : World} (hr : Region.ready .any l.toArray listed = [i, j])
    (hi : ∀ K' : Act → World → Prop, Shut (∀ a w, (i ≠ late → S w) → ((i ≠ late → S w) → wpLate P .any l.toArray Q S late fuel (listed.setIfInBounds i true) a w) → K' a w) → if Region.wanted oi (yielded l.toArray a.tmps) = true then Oper.wp P oi a w K' Q else K' (a.put oi.dst undef) w)
    (hj : ∀ K' : Act → World → Prop, Shut (∀ a w, (j ≠ late → S w) → ((j ≠ late → S w) → wpLate P .any l.toArray Q S late fuel (listed.setIfInBounds j true) a w) → K' a w) → if Region.wanted oj (yielded l.toArray a.tmps) = true then Oper.wp P oj a w K' Q else K' (a.put oj.dst undef) w) :
    wpLate P .any l.toArray Q S late (fuel + 1) listed a w :=
  ⟨fun h0 => (by rw [hr] at h0; cases h0), fun k hk => by
    rw [hr] at hk
    simp only [List.mem_cons, List.not_mem_nil, or_false] at hk
    rcases hk with rfl | rfl
    · exact wpOp_step hpi.get (fun K' hK => hi K' (fun a w hS hW => hK a w ⟨hS, hW hS⟩))
    · exact wpOp_step hpj.get (fun K' hK => hj K' (fun a w hS hW => hK a w ⟨hS, hW hS⟩))⟩

theorem step_app_strs {w : World} {ops : Array Oper} {o : Oper} {act : Act} {K : Act → World → Prop} {Q : Exit → Act → World → Prop} {E : Prop} (hgd : o.guard = none) (s x : Operand)
    (ho : o.op = .call { callee := .builtin .append, args := #[s, x], argTypes := #[27, 27] })
    (B : Nat) (v : Value) (n : Nat) (xs : List Value) (hs : act.eval s = v) (hown : w.ownsRow B 9 1 v n xs)
    (a : Option Addr) (m c : Nat) (L : List ByteArray) (hx : act.eval x = .slice a m c) (hm : m = L.length) (hrd : RdS w a m (gt L)) (hnm : n + m ≤ 1099511627776) (hB : B ≤ w.heap.size)
    (h : ∀ v' w', w'.ownsRow B 9 1 v' (n + m) (xs ++ strL L) → w.grownBy w' v.ownBlock → K (act.put o.dst v') w') :
    if Region.wanted o (yielded ops act.tmps) = true then Oper.wp Try.prog o act w K Q else E := by
  have hw : Region.wanted o (yielded ops act.tmps) = true := by simp [Region.wanted, hgd]
  rw [if_pos hw]
  obtain ⟨i0, hi, hz0, hz1, hz2⟩ := info_parts Try.info9
  by_cases hm0 : m = 0
  · subst hm0
    have hL : L = [] := List.length_eq_zero_iff.1 hm.symm
    subst hL
    have hsrc : Src Try.prog i0.size 27 (.slice a 0 c) 0 [] w := by
      cases a with
      | none => exact Src.ofNil w Try.underlying27 c
      | some ad => exact Src.ofSlice w Try.underlying27 ad 0 c [] (by simp) (by simp) (by simp)
    have hsh : ∃ b l cap, v = .slice b l cap ∧ l ≤ cap := by
      rcases hown.2 with ⟨rfl, rfl⟩ | ⟨g, cap, cur, rfl, _, _, h1, _⟩
      · exact ⟨none, 0, 0, rfl, Nat.le_refl _⟩
      · exact ⟨_, n, cap, rfl, h1⟩
    obtain ⟨b, l, cap, hvv, hlc⟩ := hsh
    have hrun := run_append_nothing (P := Try.prog) w 27 27 o.type 9 i0 Try.underlying27 hi b l cap hlc (.slice a 0 c) hsrc
    rw [← hvv] at hrun
    unfold Oper.wp
    simp [execOp, ho, resolve, invoke, builtin, hs, hx, hrun, Result.andThen]
    exact h v w (by simpa [strL] using hown) ⟨rfl, rfl, rfl, Nat.le_refl _, fun _ _ _ => rfl⟩
  · rcases hrd with h0 | ⟨b, off, rfl, hc⟩
    · exact absurd h0 hm0
    · refine wp_append_own w s x 27 ho B 9 i0 (.string { data := #[] }) 1 16 Try.underlying27 hi hz0 hz1 hz2 rfl (by decide) v n xs hs hown ⟨b, off, none⟩ m c (strL L) hx (by rw [strL_length]; omega) (fun j u hj => ?_) (fun u hu => ?_) (by unfold maxLen; omega) (by omega) hB (fun v' w' h1 h2 _ => h v' w' h1 h2)
      · have hjm : j < m := by
          have := (List.getElem?_eq_some_iff.1 hj).1
          rw [strL_length] at this
          omega
        rw [strL_get L j (by omega)] at hj
        injection hj with hj
        subst hj
        have e : (Addr.add ⟨b, off, none⟩ j) = ⟨b, off + j, none⟩ := by
          unfold Addr.add
          by_cases h : j = 0
          · subst h; simp
          · simp [h]
        rw [e]
        exact hc j hjm
      · unfold strL at hu
        simp only [List.mem_map] at hu
        obtain ⟨i, _, rfl⟩ := hu
        rfl

/-- The numbers of a node's children as a list. -/
def kdL (x : Tn) : List Int := (List.range x.dn).map x.kd
theorem kdL_length (x : Tn) : (kdL x).length = x.dn := by simp [kdL]
theorem gi_kdL (x : Tn) (i : Nat) (h : i < x.dn) : gi (kdL x) i = x.kd i := by
  simp [gi, kdL, List.getD_eq_getElem?_getD, h]

theorem step_app_ints {w : World} {ops : Array Oper} {o : Oper} {act : Act} {K : Act → World → Prop} {Q : Exit → Act → World → Prop} {E : Prop} (hgd : o.guard = none) (s x : Operand)
    (ho : o.op = .call { callee := .builtin .append, args := #[s, x], argTypes := #[86, 86] })
    (B : Nat) (v : Value) (n : Nat) (xs : List Value) (hs : act.eval s = v) (hown : w.ownsRow B 2 1 v n xs)
    (a : Option Addr) (m c : Nat) (L : List Int) (hx : act.eval x = .slice a m c) (hm : m = L.length) (hrd : Rd .i64 w a m (gi L)) (hnm : n + m ≤ 1099511627776) (hB : B ≤ w.heap.size)
    (h : ∀ v' w', w'.ownsRow B 2 1 v' (n + m) (xs ++ intL L) → w.grownBy w' v.ownBlock → K (act.put o.dst v') w') :
    if Region.wanted o (yielded ops act.tmps) = true then Oper.wp Try.prog o act w K Q else E := by
  have hw : Region.wanted o (yielded ops act.tmps) = true := by simp [Region.wanted, hgd]
  rw [if_pos hw]
  obtain ⟨i0, hi, hz0, hz1, hz2⟩ := info_parts Try.info2
  by_cases hm0 : m = 0
  · subst hm0
    have hL : L = [] := List.length_eq_zero_iff.1 hm.symm
    subst hL
    have hsrc : Src Try.prog i0.size 86 (.slice a 0 c) 0 [] w := by
      cases a with
      | none => exact Src.ofNil w Try.underlying86 c
      | some ad => exact Src.ofSlice w Try.underlying86 ad 0 c [] (by simp) (by simp) (by simp)
    have hsh : ∃ b l cap, v = .slice b l cap ∧ l ≤ cap := by
      rcases hown.2 with ⟨rfl, rfl⟩ | ⟨g, cap, cur, rfl, _, _, h1, _⟩
      · exact ⟨none, 0, 0, rfl, Nat.le_refl _⟩
      · exact ⟨_, n, cap, rfl, h1⟩
    obtain ⟨b, l, cap, hvv, hlc⟩ := hsh
    have hrun := run_append_nothing (P := Try.prog) w 86 86 o.type 2 i0 Try.underlying86 hi b l cap hlc (.slice a 0 c) hsrc
    rw [← hvv] at hrun
    unfold Oper.wp
    simp [execOp, ho, resolve, invoke, builtin, hs, hx, hrun, Result.andThen]
    exact h v w (by simpa [intL] using hown) ⟨rfl, rfl, rfl, Nat.le_refl _, fun _ _ _ => rfl⟩
  · rcases hrd with h0 | ⟨b, off, rfl, hc⟩
    · exact absurd h0 hm0
    · refine wp_append_own w s x 86 ho B 2 i0 (.int .i64 0) 1 8 Try.underlying86 hi hz0 hz1 hz2 rfl (by decide) v n xs hs hown ⟨b, off, none⟩ m c (intL L) hx (by rw [intL_length]; omega) (fun j u hj => ?_) (fun u hu => ?_) (by unfold maxLen; omega) (by omega) hB (fun v' w' h1 h2 _ => h v' w' h1 h2)
      · have hjm : j < m := by
          have := (List.getElem?_eq_some_iff.1 hj).1
          rw [intL_length] at this
          omega
        rw [intL_get L j (by omega)] at hj
        injection hj with hj
        subst hj
        have e : (Addr.add ⟨b, off, none⟩ j) = ⟨b, off + j, none⟩ := by
          unfold Addr.add
          by_cases h : j = 0
          · subst h; simp
          · simp [h]
        rw [e]
        exact hc j hjm
      · unfold intL at hu
        simp only [List.mem_map] at hu
        obtain ⟨i, _, rfl⟩ := hu
        rfl

/-- Appending to one row leaves a row of another type alone. -/
theorem own_other {w w' : World} {b1 b2 : Nat} {e1 e2 : TypeId} {s1 s2 : Nat} {v1 v2 : Value} {n1 n2 : Nat} {x1 x2 : List Value} (h1 : w.ownsRow b1 e1 s1 v1 n1 x1) (h2 : w.ownsRow b2 e2 s2 v2 n2 x2) (he : e1 ≠ e2) (hg : w.grownBy w' v2.ownBlock) : w'.ownsRow b1 e1 s1 v1 n1 x1 := by
  have hne := own_ne h1 h2 he
  refine ⟨h1.1, ?_⟩
  rcases h1.2 with q | ⟨g, cap, cur, q1, q2, q3, q4⟩
  · exact Or.inl q
  · refine Or.inr ⟨g, cap, cur, q1, q2, ?_, q4⟩
    rw [hg.block g (Array.getElem?_eq_some_iff.1 q3).1 (fun e => hne g (by rw [q1]; rfl) e.symm)]
    exact q3

theorem ownS_rdX {w : World} {B n : Nat} {v : Value} {L : List ByteArray} (h : w.ownsRow B 9 1 v n (strL L)) (hn : n = L.length) (X : Nat → ByteArray) (hX : ∀ i, i < n → gt L i = X i) : ∃ a c, v = .slice a n c ∧ ∀ S : Nat → Prop, (∀ b, v.ownBlock = some b → S b) → RdX S w a n (fun i => .string (X i)) := by
  obtain ⟨a, c, rfl, hf⟩ := own_form h
  refine ⟨a, c, rfl, fun S hS => ?_⟩
  by_cases h0 : n = 0
  · exact Or.inl h0
  · obtain ⟨g, rfl, _, hg2, hg3⟩ := hf h0
    exact Or.inr ⟨g, rfl, hS g rfl, hg2, fun i hi => by show _ = some (Value.string (X i)); rw [← hX i hi]; exact hg3 i _ (strL_get L i (by omega))⟩
theorem ownI_rdX {w : World} {B n : Nat} {v : Value} {L : List Int} (h : w.ownsRow B 2 1 v n (intL L)) (hn : n = L.length) (X : Nat → Int) (hX : ∀ i, i < n → gi L i = X i) : ∃ a c, v = .slice a n c ∧ ∀ S : Nat → Prop, (∀ b, v.ownBlock = some b → S b) → RdX S w a n (fun i => .int .i64 (X i)) := by
  obtain ⟨a, c, rfl, hf⟩ := own_form h
  refine ⟨a, c, rfl, fun S hS => ?_⟩
  by_cases h0 : n = 0
  · exact Or.inl h0
  · obtain ⟨g, rfl, _, hg2, hg3⟩ := hf h0
    exact Or.inr ⟨g, rfl, hS g rfl, hg2, fun i hi => by show _ = some (Value.int .i64 (X i)); rw [← hX i hi]; exact hg3 i _ (intL_get L i (by omega))⟩

/-- A row of nodes appended to nodes of the call's own, as a step of a region that draws its order. -/
theorem step_app_node {w : World} {ops : Array Oper} {o : Oper} {act : Act} {K : Act → World → Prop} {Q : Exit → Act → World → Prop} {E : Prop} (hgd : o.guard = none) (s x : Operand)
    (ho : o.op = .call { callee := .builtin .append, args := #[s, x], argTypes := #[23, 23] })
    (B : Nat) (v : Value) (n : Nat) (xs : List Value) (hs : act.eval s = v) (hown : w.ownsRow B 88 4 v n xs)
    (g c : Nat) (v0 v1 v2 v3 : Value) (hx : act.eval x = .slice (some ⟨g, 0, none⟩) 1 c) (hc : ∀ j u, [v0, v1, v2, v3][j]? = some u → w.cell? ⟨g, j, none⟩ = some u) (h1 : ∀ u ∈ [v0, v1, v2, v3], u.oneCell' = true) (hnm : n ≤ 1048576) (hB : B ≤ w.heap.size)
    (h : ∀ v' w', w'.ownsRow B 88 4 v' (n + 1) (xs ++ [v0, v1, v2, v3]) → w.grownBy w' v.ownBlock → (v'.ownBlock = v.ownBlock ∨ v'.ownBlock = some w.heap.size) → K (act.put o.dst v') w') :
    if Region.wanted o (yielded ops act.tmps) = true then Oper.wp Try.prog o act w K Q else E := by
  have hw : Region.wanted o (yielded ops act.tmps) = true := by simp [Region.wanted, hgd]
  rw [if_pos hw]
  obtain ⟨i0, hi, hz0, hz1, hz2⟩ := info_parts Try.info88
  obtain ⟨v', w', hr, h2, h3, h4, h5⟩ := run_append_own_at (P := Try.prog) w B 23 o.type 88 i0 _ 4 64 Try.underlying23 hi hz0 hz1 hz2 rfl (by decide) v n xs hown ⟨g, 0, none⟩ 1 c [v0, v1, v2, v3] rfl (fun j u hj => by
    have e : (Addr.add ⟨g, 0, none⟩ j) = ⟨g, j, none⟩ := by
      unfold Addr.add
      by_cases h : j = 0
      · subst h; simp
      · simp [h]
    rw [e]
    exact hc j u hj) h1 (by unfold maxLen; omega) (by omega) hB
  unfold Oper.wp execOp
  simp only [ho, resolve, invoke, builtin, Sem.run_bind, Sem.run_pure, Result.andThen_ok, List.map_toArray, List.map_cons, List.map_nil, hs, hx, hr]
  exact h v' w' h2 h3 h5
end Go.Proofs.Ytakemeccigpbaaa

namespace Go.Proofs.Ytakemeccigpbaaa
open Go.RowKit Go.Deep
set_option linter.unusedVariables false
set_option maxRecDepth 100000

theorem FlAt.congr {S : Nat → Prop} {w : World} {n : Nat} {F G : Nat → Tn} {xs : List Value} (h : FlAt S w n F xs) (e : ∀ i, i < n → F i = G i) : FlAt S w n G xs :=
  ⟨h.1, fun i hi => by rw [← e i hi]; exact h.2 i hi⟩

/-- The state of l3Copy's loop. -/
structure CpSt (w wr : World) (v0 : Value) (k : Nat) (N : Nat → Tn) (v : Value) (xs : List Value) : Prop where
  tb : Bx wr w.heap.size 25 #[v0]
  rb : Bx wr (w.heap.size + 1) 25 #[.slice none 0 0]
  ob : Bx wr (w.heap.size + 2) 25 #[v]
  own : wr.ownsRow (w.heap.size + 3) 88 4 v k xs
  fl : FlAt (fun b => w.heap.size + 3 ≤ b ∧ v.ownBlock ≠ some b) wr k N xs
  bel : Below w.heap.size w wr

theorem CpSt.below {w wr w1 : World} {v0 : Value} {k : Nat} {N : Nat → Tn} {v : Value} {xs : List Value} (h : CpSt w wr v0 k N v xs) (hb : Below wr.heap.size wr w1) : CpSt w w1 v0 k N v xs :=
  ⟨h.tb.below hb, h.rb.below hb, h.ob.below hb, own_below h.own hb, h.fl.mono hb.size (fun b hs hl => ⟨hs, hb.block b hl⟩), h.bel.trans (hb.mono h.bel.size)⟩

section
variable {w R W w16 : World} {v0 : Value} {k oc cA cB nb : Nat} {oa aA aB : Option Addr} {N : Nat → Tn} {xs : List Value} {v16 : Value}

theorem cp_blk (hst : CpSt w R v0 k N (.slice oa k oc) xs) (hz : w.heap.size + 3 ≤ nb ∧ nb < R.heap.size ∧ ∀ g, (Value.slice oa k oc).ownBlock = some g → g < nb) (hb : Below R.heap.size R W) {O : Obj} (hg : (W.alloc O).grownBy w16 (Value.slice oa k oc).ownBlock) (b : Nat) (hb1 : b < R.heap.size) (hb2 : (Value.slice oa k oc).ownBlock ≠ some b) : w16.heap[b]? = R.heap[b]? := by
  have hs := hb.size
  rw [hg.block b (by simp; omega) (fun e => hb2 e.symm)]
  exact ((hb.alloc hb.size O).block b hb1)

theorem cp_next (hst : CpSt w R v0 k N (.slice oa k oc) xs) (hz : w.heap.size + 3 ≤ nb ∧ nb < R.heap.size ∧ ∀ g, (Value.slice oa k oc).ownBlock = some g → g < nb) (hb : Below R.heap.size R W)
    (hrA : ∀ S : Nat → Prop, (∀ b, (Value.slice aA (N k).kn cA).ownBlock = some b → S b) → RdX S W aA (N k).kn (fun i => .string ((N k).ks i))) (hrB : ∀ S : Nat → Prop, (∀ b, (Value.slice aB (N k).dn cB).ownBlock = some b → S b) → RdX S W aB (N k).dn (fun i => .int .i64 ((N k).kd i)))
    (ltA : ∀ g, (Value.slice aA (N k).kn cA).ownBlock = some g → R.heap.size ≤ g ∧ g < W.heap.size) (ltB : ∀ g, (Value.slice aB (N k).dn cB).ownBlock = some g → R.heap.size ≤ g ∧ g < W.heap.size)
    {O : Obj} (ho : w16.ownsRow (w.heap.size + 3) 88 4 v16 (k + 1) (xs ++ [.bool (N k).lf, .slice aA (N k).kn cA, .slice aB (N k).dn cB, .int .i64 (N k).ct])) (hg : (W.alloc O).grownBy w16 (Value.slice oa k oc).ownBlock) (hat : v16.ownBlock = (Value.slice oa k oc).ownBlock ∨ v16.ownBlock = some (W.alloc O).heap.size) :
    CpSt w (w16.setCell ⟨w.heap.size + 2, 0, none⟩ v16) v0 (k + 1) N v16 (xs ++ [.bool (N k).lf, .slice aA (N k).kn cA, .slice aB (N k).dn cB, .int .i64 (N k).ct]) ∧ w16.cell? ⟨w.heap.size + 2, 0, none⟩ = some (.slice oa k oc) ∧ Bx w16 (w.heap.size + 2) 25 #[.slice oa k oc] := by
  obtain ⟨z1, z2, z3⟩ := hz
  have hs := hb.size
  have hlt := own_lt hst.own
  have blk := cp_blk hst ⟨z1, z2, z3⟩ hb hg
  have hne : ∀ b, b < w.heap.size + 3 → (Value.slice oa k oc).ownBlock ≠ some b := fun b hb e => by have := (hlt b e).1; omega
  have ob16 : Bx w16 (w.heap.size + 2) 25 #[.slice oa k oc] := hst.ob.of_block (blk _ (by omega) (hne _ (by omega)))
  have hgs := hg.size
  simp at hgs
  have hnew : ∀ b, b < W.heap.size → (Value.slice oa k oc).ownBlock ≠ some b → v16.ownBlock ≠ some b := fun b h1 h2 e => by
    rcases hat with h | h
    · rw [h] at e; exact h2 e
    · rw [h] at e
      injection e with e
      simp at e
      omega
  have hset : ∀ b, b ≠ w.heap.size + 2 → (w16.setCell ⟨w.heap.size + 2, 0, none⟩ v16).heap[b]? = w16.heap[b]? := fun b h => Below.heap_setCell _ _ _ _ h
  have hsz : (w16.setCell ⟨w.heap.size + 2, 0, none⟩ v16).heap.size = w16.heap.size := by simp [World.setCell]
  refine ⟨⟨?_, ?_, ?_, ?_, ?_, ?_⟩, by have := ob16.cell 0; simpa using this, ob16⟩
  · exact hst.tb.of_block ((hset _ (by omega)).trans (blk _ (by omega) (hne _ (by omega))))
  · exact hst.rb.of_block ((hset _ (by omega)).trans (blk _ (by omega) (hne _ (by omega))))
  · have := ob16.set 0 v16
    simpa using this
  · exact own_set ho _ _ (by simp)
  · refine FlAt.congr (F := catN k N (fun _ => N k)) (FlAt.app ?_ (FlAt.one (F := fun _ => N k) ?_)) (fun i hi => ?_)
    · refine hst.fl.mono (by rw [hsz]; omega) (fun b hs1 hl => ⟨⟨hs1.1, hnew b (by omega) hs1.2⟩, ?_⟩)
      exact (hset b (by omega)).trans (blk b hl hs1.2)
    · have keep : ∀ b, R.heap.size ≤ b ∧ b < W.heap.size → (w.heap.size + 3 ≤ b ∧ v16.ownBlock ≠ some b) ∧ (w16.setCell ⟨w.heap.size + 2, 0, none⟩ v16).heap[b]? = W.heap[b]? := by
        intro b hb1
        have hne2 : (Value.slice oa k oc).ownBlock ≠ some b := fun e => by have := (hlt b e).2; omega
        refine ⟨⟨by omega, hnew b hb1.2 hne2⟩, ?_⟩
        rw [hset b (by omega), hg.block b (by simp; omega) (fun e => hne2 e.symm)]
        exact (below_alloc W O).block b hb1.2
      refine ⟨rfl, rfl, aA, cA, aB, cB, rfl, rfl, ?_, ?_⟩
      · exact (hrA (fun b => R.heap.size ≤ b ∧ b < W.heap.size) (fun b e => ltA b e)).mono (by rw [hsz]; omega) (fun b hs1 _ => keep b hs1)
      · exact (hrB (fun b => R.heap.size ≤ b ∧ b < W.heap.size) (fun b e => ltB b e)).mono (by rw [hsz]; omega) (fun b hs1 _ => keep b hs1)
    · unfold catN
      by_cases e : i < k
      · rw [if_pos e]
      · rw [if_neg e, show i = k by omega]
  · refine (((hst.bel.trans (hb.mono hst.bel.size)).alloc (by have := hst.bel.size; omega) O).grown hg (by have := hst.bel.size; simp; omega) (fun g e => by have := (hlt g e).1; omega)).setCell (by simp) _

theorem cp_held {A0 A1 A2 A3 : Value} (hst : CpSt w R v0 k N (.slice oa k oc) xs) (hz : w.heap.size + 3 ≤ nb ∧ nb < R.heap.size ∧ ∀ g, (Value.slice oa k oc).ownBlock = some g → g < nb) (hb : Below R.heap.size R W) (hk : ∀ W', Below R.heap.size R W' → W'.cell? ⟨w.heap.size + 2, 0, none⟩ = some (.slice oa k oc) ∧ W'.cell? ⟨nb, 0, none⟩ = some A0 ∧ W'.cell? ⟨nb, 1, none⟩ = some A1 ∧ W'.cell? ⟨nb, 2, none⟩ = some A2 ∧ W'.cell? ⟨nb, 3, none⟩ = some A3) {O : Obj} (hg : (W.alloc O).grownBy w16 (Value.slice oa k oc).ownBlock) :
    w16.cell? ⟨w.heap.size + 2, 0, none⟩ = some (.slice oa k oc) ∧ w16.cell? ⟨nb, 0, none⟩ = some A0 ∧ w16.cell? ⟨nb, 1, none⟩ = some A1 ∧ w16.cell? ⟨nb, 2, none⟩ = some A2 ∧ w16.cell? ⟨nb, 3, none⟩ = some A3 := by
  obtain ⟨h0, h1, h2, h3, h4⟩ := hk R (Below.refl _ _)
  have hlt := own_lt hst.own
  have hz2 := hst.ob.lt
  have b1 := cp_blk hst hz hb hg (w.heap.size + 2) hz2 (fun e => by have := (hlt _ e).1; omega)
  have b2 := cp_blk hst hz hb hg nb hz.2.1 (fun e => by have := hz.2.2 _ e; omega)
  exact ⟨(World.cell?_of_block (a := ⟨w.heap.size + 2, 0, none⟩) b1).trans h0, (World.cell?_of_block (a := ⟨nb, 0, none⟩) b2).trans h1, (World.cell?_of_block (a := ⟨nb, 1, none⟩) b2).trans h2, (World.cell?_of_block (a := ⟨nb, 2, none⟩) b2).trans h3, (World.cell?_of_block (a := ⟨nb, 3, none⟩) b2).trans h4⟩
end

/-- A row of nodes that lies in blocks from B on. -/
def RowN (B : Nat) (w : World) (a : Option Addr) (n : Nat) (N : Nat → Tn) : Prop :=
  n = 0 ∨ ∃ g xs, a = some ⟨g, 0, none⟩ ∧ B ≤ g ∧ g < w.heap.size ∧ (∀ j u, xs[j]? = some u → w.cell? ⟨g, j, none⟩ = some u) ∧ FlAt (fun b => B ≤ b) w n N xs
theorem RowN.rd {B : Nat} {w : World} {a : Option Addr} {n : Nat} {N : Nat → Tn} (h : RowN B w a n N) : RdTn w a n N := by
  rcases h with h | ⟨g, xs, rfl, _, _, hc, hf⟩
  · exact Or.inl h
  · exact hf.rd hc
theorem RowN.keep {B B' : Nat} {w w' : World} {a : Option Addr} {n : Nat} {N : Nat → Tn} (h : RowN B w a n N) (hB : B' ≤ B) (hz : w.heap.size ≤ w'.heap.size) (hk : ∀ b, B ≤ b → b < w.heap.size → w'.heap[b]? = w.heap[b]?) : RowN B' w' a n N := by
  rcases h with h | ⟨g, xs, rfl, h1, h2, hc, hf⟩
  · exact Or.inl h
  · exact Or.inr ⟨g, xs, rfl, by omega, by omega, fun j u hj => (World.cell?_of_block (a := ⟨g, j, none⟩) (hk g h1 h2)).trans (hc j u hj), hf.mono hz (fun b hs hl => ⟨by omega, hk b hs hl⟩)⟩
theorem RowN.below {B : Nat} {w w' : World} {a : Option Addr} {n : Nat} {N : Nat → Tn} (h : RowN B w a n N) (hb : Below w.heap.size w w') : RowN B w' a n N :=
  h.keep (Nat.le_refl _) hb.size (fun b _ hl => hb.block b hl)
theorem FlAt.rowN {B : Nat} {w : World} {n c : Nat} {a : Option Addr} {N : Nat → Tn} {xs : List Value} (ho : w.ownsRow B 88 4 (.slice a n c) n xs) (hf : FlAt (fun b => B ≤ b) w n N xs) : RowN B w a n N := by
  obtain ⟨a', c', e, h⟩ := own_form ho
  injection e with e1 _ e2
  subst e1 e2
  by_cases h0 : n = 0
  · exact Or.inl h0
  · obtain ⟨g, rfl, h1, h2, h3⟩ := h h0
    exact Or.inr ⟨g, xs, rfl, h1, h2, h3, hf⟩
/-- What hands back nodes that can be read, in new memory. -/
def RetNs (w : World) (n : Nat) (N : Nat → Tn) (e : Ending) (w' : World) : Prop :=
  Below w.heap.size w w' ∧ ∃ a c, e = .returned (.agg #[.slice a n c]) ∧ RowN (w.heap.size + 2) w' a n N

set_option maxHeartbeats 8000000 in
theorem copyS_any (a : Option Addr) (n c : Nat) (N : Nat → Tn) (w : World) (h : RdTn w a n N) (hn : n ≤ 1048576) (hN : ∀ i, i < n → TnFit (N i)) :
    Calls Try.prog 47 #[.agg #[.slice a n c]] w (RetNs w n N) := by
  have HR : Hid (RdTn w a n N ∧ ∀ i, i < n → TnFit (N i)) := ⟨h, hN⟩
  clear h hN
  go_enter Try.func47, Try.ntmps47
  go_wp2
  have S0 : Hid (CpSt w (((w.alloc (.cells #[.slice a n c] 25)).alloc (.cells #[.slice none 0 0] 25)).alloc (.cells #[.slice none 0 0] 25)) (.slice a n c) 0 N (.slice none 0 0) []) := by
    refine ⟨((Bx.new w _ _).alloc _).alloc _, ?_, ?_, ⟨rfl, Or.inl ⟨rfl, rfl⟩⟩, ⟨rfl, fun i hi => absurd hi (Nat.not_lt_zero _)⟩, ((below_alloc _ _).alloc (by simp) _).alloc (by simp; omega) _⟩
    · have := (Bx.new (w.alloc (.cells #[.slice a n c] 25)) #[.slice none 0 0] 25).alloc (.cells #[.slice none 0 0] 25)
      simpa using this
    · have := Bx.new ((w.alloc (.cells #[.slice a n c] 25)).alloc (.cells #[.slice none 0 0] 25)) #[.slice none 0 0] 25
      simpa using this
  go_loopw [4] (fun i wr => ∃ (k : Nat) (oa : Option Addr) (oc : Nat) (xs : List Value), k ≤ n ∧ i = .int .i64 k ∧ CpSt w wr (.slice a n c) k N (.slice oa k oc) xs) (fun i _ => n - (intOf i).toNat)
  case atStart => exact ⟨0, none, 0, [], Nat.zero_le _, rfl, S0.out⟩
  case round =>
    obtain ⟨k, oa, oc, xs, hk, rfl, hst⟩ := hrel
    clear S0
    have x0 := hst.tb.cell 0
    simp at x0
    have xz := hst.tb.lt
    have o0 := hst.ob.cell 0
    simp at o0
    have oz := hst.ob.lt
    have H0 : Hid (CpSt w wr (.slice a n c) k N (.slice oa k oc) xs) := hst
    clear hst
    by_cases hlt : k < n
    · obtain ⟨b, o, rfl, hc⟩ := (HR.out.1.below H0.out.bel : RdTn wr a n N).resolve_left (by omega)
      obtain ⟨ka, kc, da, dc, c0, c1, c2, c3, c4, c5⟩ := hc k hlt
      have hfit := HR.out.2 k hlt
      have i0 : (0 : Int) ≤ (k : Int) := by omega
      have i1 : (k : Int) < (n : Int) := by omega
      have HRK0 : Hid (RdS wr ka (N k).kn (gt (ksL (N k))) ∧ Rd .i64 wr da (N k).dn (gi (kdL (N k)))) := ⟨c4.congr (fun j hj => (gt_ksL (N k) j hj).symm), c5.congr (fun j hj => (gi_kdL (N k) j hj).symm)⟩
      have hk20 : k ≤ 1048576 := by omega
      have HFit : Hid ((N k).kn ≤ 1048576 ∧ (N k).dn ≤ 1048576) := ⟨hfit.1, hfit.2⟩
      clear hc c4 c5 hfit
      go_upto_region 6 with fail
      obtain ⟨nb, hnb⟩ : ∃ nb, nb = wr.heap.size := ⟨_, rfl⟩
      rw [← hnb]
      have hbx : Bx (wr.alloc (.cells #[.bool (N k).lf, .slice ka (N k).kn kc, .slice da (N k).dn dc, .int .i64 (N k).ct] 88)) nb 88 #[.bool (N k).lf, .slice ka (N k).kn kc, .slice da (N k).dn dc, .int .i64 (N k).ct] := by rw [hnb]; exact Bx.new _ _ _
      have hb0 : Below wr.heap.size wr (wr.alloc (.cells #[.bool (N k).lf, .slice ka (N k).kn kc, .slice da (N k).dn dc, .int .i64 (N k).ct] 88)) := below_alloc _ _
      generalize hW1 : wr.alloc (.cells #[.bool (N k).lf, .slice ka (N k).kn kc, .slice da (N k).dn dc, .int .i64 (N k).ct] 88) = W1 at hbx hb0 ⊢
      have HST : Hid (CpSt w W1.drew (.slice (some ⟨b, o, none⟩) n c) k N (.slice oa k oc) xs) := (H0.out.below hb0).below (Below.refl _ _).drew
      have HZ : Hid (w.heap.size + 3 ≤ nb ∧ nb < W1.drew.heap.size ∧ ∀ g, (Value.slice oa k oc).ownBlock = some g → g < nb) := ⟨by rw [hnb]; exact oz, hbx.lt, fun g e => by rw [hnb]; exact (own_lt H0.out.own g e).2⟩
      have HRK : Hid (RdS W1.drew ka (N k).kn (gt (ksL (N k))) ∧ Rd .i64 W1.drew da (N k).dn (gi (kdL (N k)))) := ⟨(HRK0.out.1.below hb0).below (Below.refl _ _).drew, (HRK0.out.2.below hb0).below (Below.refl _ _).drew⟩
      have HKeep : Hid (∀ W', Below W1.drew.heap.size W1.drew W' → W'.cell? ⟨w.heap.size + 2, 0, none⟩ = some (.slice oa k oc) ∧ W'.cell? ⟨nb, 0, none⟩ = some (.bool (N k).lf) ∧ W'.cell? ⟨nb, 1, none⟩ = some (.slice ka (N k).kn kc) ∧ W'.cell? ⟨nb, 2, none⟩ = some (.slice da (N k).dn dc) ∧ W'.cell? ⟨nb, 3, none⟩ = some (.int .i64 (N k).ct)) := by
        intro W' hW'
        have q := hbx.drew.below hW'
        have q2 := HST.out.ob.below hW'
        exact ⟨by simpa using q2.cell 0, by simpa using q.cell 0, by simpa using q.cell 1, by simpa using q.cell 2, by simpa using q.cell 3⟩
      clear hbx hb0 HRK0 H0 x0 o0 c0 c1 c2 c3 hW1 hnb xz oz
      generalize hR : W1.drew = R at HST HZ HRK HKeep
      refine wp_region_late (S := (fun w' => w'.cell? ⟨w.heap.size + 2, 0, none⟩ = some (.slice oa k oc) ∧ w'.cell? ⟨nb, 0, none⟩ = some (.bool (N k).lf) ∧ w'.cell? ⟨nb, 1, none⟩ = some (.slice ka (N k).kn kc) ∧ w'.cell? ⟨nb, 2, none⟩ = some (.slice da (N k).dn dc) ∧ w'.cell? ⟨nb, 3, none⟩ = some (.int .i64 (N k).ct))) 18 (by kernel_rfl) ?_ (fun hHeld => ?_)
      · (rw [hR]; exact HKeep.out _ (Below.refl _ _))
      rw [hR] at hHeld ⊢
      clear hR
      refine late_take 0 .zero (v := ?_) (by kernel_rfl) (by kernel_rfl) (by kernel_rfl) (by kernel_rfl) (fun _ _ _ h => h) (by rfl) ?_ (by assumption) ?_
      rotate_left
      · (intro w hSw; (try dsimp only at hSw); go_simp) <;> with_reducible rfl
      simp only [Act.put, List.setIfInBounds_toArray, List.set_cons_zero, List.set_cons_succ]
      refine late_take 1 (.succ .zero) (v := ?_) (by kernel_rfl) (by kernel_rfl) (by kernel_rfl) (by kernel_rfl) (fun _ _ _ h => h) (by rfl) ?_ (by assumption) ?_
      rotate_left
      · (intro w hSw; (try dsimp only at hSw); go_simp) <;> with_reducible rfl
      simp only [Act.put, List.setIfInBounds_toArray, List.set_cons_zero, List.set_cons_succ]
      refine late_take 2 (.succ (.succ .zero)) (v := ?_) (by kernel_rfl) (by kernel_rfl) (by kernel_rfl) (by kernel_rfl) (fun _ _ _ h => h) (by rfl) ?_ (by assumption) ?_
      rotate_left
      · (intro w hSw; (try dsimp only at hSw); go_simp) <;> with_reducible rfl
      simp only [Act.put, List.setIfInBounds_toArray, List.set_cons_zero, List.set_cons_succ]
      refine late_take 3 (.succ (.succ (.succ .zero))) (v := ?_) (by kernel_rfl) (by kernel_rfl) (by kernel_rfl) (by kernel_rfl) (fun _ _ _ h => h) (by rfl) ?_ (by assumption) ?_
      rotate_left
      · (intro w hSw; (try dsimp only at hSw); go_simp) <;> with_reducible rfl
      simp only [Act.put, List.setIfInBounds_toArray, List.set_cons_zero, List.set_cons_succ]
      refine late_take 5 (.succ (.succ (.succ (.succ (.succ .zero))))) (v := ?_) (by kernel_rfl) (by kernel_rfl) (by kernel_rfl) (by kernel_rfl) (fun _ _ _ h => h) (by rfl) ?_ (by assumption) ?_
      rotate_left
      · (intro w hSw; (try dsimp only at hSw); go_simp) <;> with_reducible rfl
      simp only [Act.put, List.setIfInBounds_toArray, List.set_cons_zero, List.set_cons_succ]
      refine late_take 6 (.succ (.succ (.succ (.succ (.succ (.succ .zero)))))) (v := ?_) (by kernel_rfl) (by kernel_rfl) (by kernel_rfl) (by kernel_rfl) (fun _ _ _ h => h) (by rfl) ?_ (by assumption) ?_
      rotate_left
      · (intro w hSw; (try dsimp only at hSw); go_simp) <;> with_reducible rfl
      simp only [Act.put, List.setIfInBounds_toArray, List.set_cons_zero, List.set_cons_succ]
      refine late_take 9 (.succ (.succ (.succ (.succ (.succ (.succ (.succ (.succ (.succ .zero))))))))) (v := ?_) (by kernel_rfl) (by kernel_rfl) (by kernel_rfl) (by kernel_rfl) (fun _ _ _ h => h) (by rfl) ?_ (by assumption) ?_
      rotate_left
      · (intro w hSw; (try dsimp only at hSw); go_simp) <;> with_reducible rfl
      simp only [Act.put, List.setIfInBounds_toArray, List.set_cons_zero, List.set_cons_succ]
      refine late_take 10 (.succ (.succ (.succ (.succ (.succ (.succ (.succ (.succ (.succ (.succ .zero)))))))))) (v := ?_) (by kernel_rfl) (by kernel_rfl) (by kernel_rfl) (by kernel_rfl) (fun _ _ _ h => h) (by rfl) ?_ (by assumption) ?_
      rotate_left
      · (intro w hSw; (try dsimp only at hSw); go_simp) <;> with_reducible rfl
      simp only [Act.put, List.setIfInBounds_toArray, List.set_cons_zero, List.set_cons_succ]
      refine late_take 12 (.succ (.succ (.succ (.succ (.succ (.succ (.succ (.succ (.succ (.succ (.succ (.succ .zero)))))))))))) (v := ?_) (by kernel_rfl) (by kernel_rfl) (by kernel_rfl) (by kernel_rfl) (fun _ _ _ h => h) (by rfl) ?_ (by assumption) ?_
      rotate_left
      · (intro w hSw; (try dsimp only at hSw); go_simp) <;> with_reducible rfl
      simp only [Act.put, List.setIfInBounds_toArray, List.set_cons_zero, List.set_cons_succ]
      refine late_take 13 (.succ (.succ (.succ (.succ (.succ (.succ (.succ (.succ (.succ (.succ (.succ (.succ (.succ .zero))))))))))))) (v := ?_) (by kernel_rfl) (by kernel_rfl) (by kernel_rfl) (by kernel_rfl) (fun _ _ _ h => h) (by rfl) ?_ (by assumption) ?_
      rotate_left
      · (intro w hSw; (try dsimp only at hSw); go_simp) <;> with_reducible rfl
      simp only [Act.put, List.setIfInBounds_toArray, List.set_cons_zero, List.set_cons_succ]
      refine late_two 4 8 (.succ (.succ (.succ (.succ .zero)))) (.succ (.succ (.succ (.succ (.succ (.succ (.succ (.succ .zero)))))))) (by kernel_rfl) (fun K hK => ?_) (fun K hK => ?_)
      · skip
        go_simp
        have bel_4 : Below R.heap.size R (R.alloc (.cells #[] 9)) := (Below.refl R.heap.size R).alloc (Below.refl R.heap.size R).size _
        have ownA_4 : (R.alloc (.cells #[] 9)).ownsRow R.heap.size 9 1 (.slice (some ⟨R.heap.size, 0, none⟩) 0 0) 0 [] := by simpa using own_empty R 9 R.heap.size 1 (Below.refl R.heap.size R).size
        refine hK.out _ _ ?_ (fun hHeld2 => ?_)
        · (intro _; exact HKeep.out _ bel_4)
        clear hK K
        replace hHeld := hHeld2 (by decide)
        clear hHeld2
        try simp only [Act.put, List.setIfInBounds_toArray, List.set_cons_zero, List.set_cons_succ]
        refine late_two 7 8 (.succ (.succ (.succ (.succ (.succ (.succ (.succ .zero))))))) (.succ (.succ (.succ (.succ (.succ (.succ (.succ (.succ .zero)))))))) (by kernel_rfl) (fun K hK => ?_) (fun K hK => ?_)
        · skip
          refine step_app_strs (by rfl) (.tmp 23) (.tmp 25) (by rfl) R.heap.size (.slice (some ⟨R.heap.size, 0, none⟩) 0 0) 0 [] (by rfl) ownA_4 ka (N k).kn kc (ksL (N k)) (by rfl) (ksL_length _).symm (HRK.out.1.below (bel_4)) (by have := HFit.out; omega) bel_4.size ?_
          intro v7_4_7 w7_4_7 ho_4_7 hg_4_7
          rw [Nat.zero_add, List.nil_append] at ho_4_7
          have bel_4_7 : Below R.heap.size R w7_4_7 := bel_4.grown hg_4_7 bel_4.size (fun g e => (own_lt ownA_4 g e).1)
          refine hK.out _ _ ?_ (fun hHeld2 => ?_)
          · (intro _; exact HKeep.out _ bel_4_7)
          clear hK K
          replace hHeld := hHeld2 (by decide)
          clear hHeld2
          try simp only [Act.put, List.setIfInBounds_toArray, List.set_cons_zero, List.set_cons_succ]
          refine late_one 8 (.succ (.succ (.succ (.succ (.succ (.succ (.succ (.succ .zero)))))))) (by kernel_rfl) (fun K hK => ?_)
          go_simp
          have bel_4_7_8 : Below R.heap.size R (w7_4_7.alloc (.cells #[] 2)) := bel_4_7.alloc bel_4_7.size _
          have ownB_4_7_8 : (w7_4_7.alloc (.cells #[] 2)).ownsRow R.heap.size 2 1 (.slice (some ⟨w7_4_7.heap.size, 0, none⟩) 0 0) 0 [] := by simpa using own_empty w7_4_7 2 R.heap.size 1 bel_4_7.size
          have ownA_4_7_8 := own_below ho_4_7 (below_alloc w7_4_7 (.cells #[] 2))
          refine hK.out _ _ ?_ (fun hHeld2 => ?_)
          · (intro _; exact HKeep.out _ bel_4_7_8)
          clear hK K
          replace hHeld := hHeld2 (by decide)
          clear hHeld2
          try simp only [Act.put, List.setIfInBounds_toArray, List.set_cons_zero, List.set_cons_succ]
          refine late_one 11 (.succ (.succ (.succ (.succ (.succ (.succ (.succ (.succ (.succ (.succ (.succ .zero))))))))))) (by kernel_rfl) (fun K hK => ?_)
          refine step_app_ints (by rfl) (.tmp 27) (.tmp 29) (by rfl) R.heap.size (.slice (some ⟨w7_4_7.heap.size, 0, none⟩) 0 0) 0 [] (by rfl) ownB_4_7_8 da (N k).dn dc (kdL (N k)) (by rfl) (kdL_length _).symm (HRK.out.2.below (bel_4_7_8)) (by have := HFit.out; omega) bel_4_7_8.size ?_
          intro v11_4_7_8_11 w11_4_7_8_11 ho_4_7_8_11 hg_4_7_8_11
          rw [Nat.zero_add, List.nil_append] at ho_4_7_8_11
          have bel_4_7_8_11 : Below R.heap.size R w11_4_7_8_11 := bel_4_7_8.grown hg_4_7_8_11 bel_4_7_8.size (fun g e => (own_lt ownB_4_7_8 g e).1)
          have ownA_4_7_8_11 := own_other ownA_4_7_8 ownB_4_7_8 (by decide) hg_4_7_8_11
          refine hK.out _ _ ?_ (fun hHeld2 => ?_)
          · (intro _; exact HKeep.out _ bel_4_7_8_11)
          clear hK K
          replace hHeld := hHeld2 (by decide)
          clear hHeld2
          try simp only [Act.put, List.setIfInBounds_toArray, List.set_cons_zero, List.set_cons_succ]
          obtain ⟨aA, cA, eA, hrA⟩ := ownS_rdX ownA_4_7_8_11 (ksL_length _).symm (N k).ks (fun i hi => gt_ksL (N k) i hi)
          obtain ⟨aB, cB, eB, hrB⟩ := ownI_rdX ho_4_7_8_11 (kdL_length _).symm (N k).kd (fun i hi => gi_kdL (N k) i hi)
          have ltA := own_lt ownA_4_7_8_11
          have ltB := own_lt ho_4_7_8_11
          rw [eA] at hrA ltA
          rw [eB] at hrB ltB
          subst eA eB
          refine late_one 14 (.succ (.succ (.succ (.succ (.succ (.succ (.succ (.succ (.succ (.succ (.succ (.succ (.succ (.succ .zero)))))))))))))) (by kernel_rfl) (fun K hK => ?_)
          go_simp
          refine hK.out _ _ ?_ (fun hHeld2 => ?_)
          · (intro _; exact HKeep.out _ bel_4_7_8_11)
          clear hK K
          replace hHeld := hHeld2 (by decide)
          clear hHeld2
          try simp only [Act.put, List.setIfInBounds_toArray, List.set_cons_zero, List.set_cons_succ]
          refine late_one 15 (.succ (.succ (.succ (.succ (.succ (.succ (.succ (.succ (.succ (.succ (.succ (.succ (.succ (.succ (.succ .zero))))))))))))))) (by kernel_rfl) (fun K hK => ?_)
          go_simp
          refine hK.out _ _ ?_ (fun hHeld2 => ?_)
          · (intro _; exact HKeep.out _ (bel_4_7_8_11.alloc bel_4_7_8_11.size _))
          clear hK K
          replace hHeld := hHeld2 (by decide)
          clear hHeld2
          try simp only [Act.put, List.setIfInBounds_toArray, List.set_cons_zero, List.set_cons_succ]
          refine late_one 16 (.succ (.succ (.succ (.succ (.succ (.succ (.succ (.succ (.succ (.succ (.succ (.succ (.succ (.succ (.succ (.succ .zero)))))))))))))))) (by kernel_rfl) (fun K hK => ?_)
          have bel16 : Below R.heap.size R (w11_4_7_8_11.alloc (.cells #[.bool (N k).lf, .slice aA (N k).kn cA, .slice aB (N k).dn cB, .int .i64 (N k).ct] 88)) := bel_4_7_8_11.alloc bel_4_7_8_11.size _
          refine step_app_node (by rfl) (.tmp 20) (.tmp 34) (by rfl) (w.heap.size + 3) (.slice oa k oc) k xs (by rfl) (own_below HST.out.own bel16) w11_4_7_8_11.heap.size 1 (.bool (N k).lf) (.slice aA (N k).kn cA) (.slice aB (N k).dn cB) (.int .i64 (N k).ct) (by rfl) (fun j u hj => by rw [(Bx.new w11_4_7_8_11 #[.bool (N k).lf, .slice aA (N k).kn cA, .slice aB (N k).dn cB, .int .i64 (N k).ct] 88).cell j]; simpa using hj) (by intro u hu; simp at hu; rcases hu with rfl | rfl | rfl | rfl <;> rfl) hk20 (by have := bel16.size; have := HZ.out; omega) ?_
          intro v16 w16 ho16 hg16 hat16
          obtain ⟨a16, c16, e16, _⟩ := own_form ho16
          subst e16
          have HNX : Hid (CpSt w (w16.setCell ⟨w.heap.size + 2, 0, none⟩ (.slice a16 (k + 1) c16)) (.slice (some ⟨b, o, none⟩) n c) (k + 1) N (.slice a16 (k + 1) c16) (xs ++ [.bool (N k).lf, .slice aA (N k).kn cA, .slice aB (N k).dn cB, .int .i64 (N k).ct]) ∧ w16.cell? ⟨w.heap.size + 2, 0, none⟩ = some (.slice oa k oc) ∧ Bx w16 (w.heap.size + 2) 25 #[.slice oa k oc]) := cp_next HST.out HZ.out bel_4_7_8_11 (hrA) (hrB) ltA ltB ho16 hg16 hat16
          have x16 := HNX.out.2.1
          refine hK.out _ _ ?_ (fun hHeld2 => ?_)
          · (intro _; exact cp_held HST.out HZ.out bel_4_7_8_11 HKeep.out hg16)
          clear hK K
          replace hHeld := hHeld2 (by decide)
          clear hHeld2
          try simp only [Act.put, List.setIfInBounds_toArray, List.set_cons_zero, List.set_cons_succ]
          have f16 : w16.frozen? ⟨w.heap.size + 2, 0, none⟩ = false := HNX.out.2.2.frozen 0
          refine late_one 17 (.succ (.succ (.succ (.succ (.succ (.succ (.succ (.succ (.succ (.succ (.succ (.succ (.succ (.succ (.succ (.succ (.succ .zero))))))))))))))))) (by kernel_rfl) (fun K hK => ?_)
          go_simp
          refine hK.out _ _ ?_ (fun hHeld2 => ?_)
          · (intro _; exact hHeld)
          clear hK K
          replace hHeld := hHeld2 (by decide)
          clear hHeld2
          try simp only [Act.put, List.setIfInBounds_toArray, List.set_cons_zero, List.set_cons_succ]
          refine late_one 18 (.succ (.succ (.succ (.succ (.succ (.succ (.succ (.succ (.succ (.succ (.succ (.succ (.succ (.succ (.succ (.succ (.succ (.succ .zero)))))))))))))))))) (by kernel_rfl) (fun K hK => ?_)
          go_simp
          refine hK.out _ _ ?_ (fun hHeld2 => ?_)
          · (intro hne; exact absurd rfl hne)
          clear hK K hHeld2
          refine wpLate_done (by kernel_rfl) ?_ _
          clear ho16 hg16 hat16 hHeld
          go_wp2
          go_roundw
          case rel => exact ⟨k + 1, a16, c16, _, by omega, by go_num, HNX.out.1⟩
          case measure => simp [intOf]; omega
        · skip
          go_simp
          have bel_4_8 : Below R.heap.size R ((R.alloc (.cells #[] 9)).alloc (.cells #[] 2)) := bel_4.alloc bel_4.size _
          have ownB_4_8 : ((R.alloc (.cells #[] 9)).alloc (.cells #[] 2)).ownsRow R.heap.size 2 1 (.slice (some ⟨R.heap.size + 1, 0, none⟩) 0 0) 0 [] := by simpa using own_empty (R.alloc (.cells #[] 9)) 2 R.heap.size 1 bel_4.size
          have ownA_4_8 := own_below ownA_4 (below_alloc (R.alloc (.cells #[] 9)) (.cells #[] 2))
          refine hK.out _ _ ?_ (fun hHeld2 => ?_)
          · (intro _; exact HKeep.out _ bel_4_8)
          clear hK K
          replace hHeld := hHeld2 (by decide)
          clear hHeld2
          try simp only [Act.put, List.setIfInBounds_toArray, List.set_cons_zero, List.set_cons_succ]
          refine late_one 7 (.succ (.succ (.succ (.succ (.succ (.succ (.succ .zero))))))) (by kernel_rfl) (fun K hK => ?_)
          refine step_app_strs (by rfl) (.tmp 23) (.tmp 25) (by rfl) R.heap.size (.slice (some ⟨R.heap.size, 0, none⟩) 0 0) 0 [] (by rfl) ownA_4_8 ka (N k).kn kc (ksL (N k)) (by rfl) (ksL_length _).symm (HRK.out.1.below (bel_4_8)) (by have := HFit.out; omega) bel_4_8.size ?_
          intro v7_4_8_7 w7_4_8_7 ho_4_8_7 hg_4_8_7
          rw [Nat.zero_add, List.nil_append] at ho_4_8_7
          have bel_4_8_7 : Below R.heap.size R w7_4_8_7 := bel_4_8.grown hg_4_8_7 bel_4_8.size (fun g e => (own_lt ownA_4_8 g e).1)
          have ownB_4_8_7 := own_other ownB_4_8 ownA_4_8 (by decide) hg_4_8_7
          refine hK.out _ _ ?_ (fun hHeld2 => ?_)
          · (intro _; exact HKeep.out _ bel_4_8_7)
          clear hK K
          replace hHeld := hHeld2 (by decide)
          clear hHeld2
          try simp only [Act.put, List.setIfInBounds_toArray, List.set_cons_zero, List.set_cons_succ]
          refine late_one 11 (.succ (.succ (.succ (.succ (.succ (.succ (.succ (.succ (.succ (.succ (.succ .zero))))))))))) (by kernel_rfl) (fun K hK => ?_)
          refine step_app_ints (by rfl) (.tmp 27) (.tmp 29) (by rfl) R.heap.size (.slice (some ⟨R.heap.size + 1, 0, none⟩) 0 0) 0 [] (by rfl) ownB_4_8_7 da (N k).dn dc (kdL (N k)) (by rfl) (kdL_length _).symm (HRK.out.2.below (bel_4_8_7)) (by have := HFit.out; omega) bel_4_8_7.size ?_
          intro v11_4_8_7_11 w11_4_8_7_11 ho_4_8_7_11 hg_4_8_7_11
          rw [Nat.zero_add, List.nil_append] at ho_4_8_7_11
          have bel_4_8_7_11 : Below R.heap.size R w11_4_8_7_11 := bel_4_8_7.grown hg_4_8_7_11 bel_4_8_7.size (fun g e => (own_lt ownB_4_8_7 g e).1)
          have ownA_4_8_7_11 := own_other ho_4_8_7 ownB_4_8_7 (by decide) hg_4_8_7_11
          refine hK.out _ _ ?_ (fun hHeld2 => ?_)
          · (intro _; exact HKeep.out _ bel_4_8_7_11)
          clear hK K
          replace hHeld := hHeld2 (by decide)
          clear hHeld2
          try simp only [Act.put, List.setIfInBounds_toArray, List.set_cons_zero, List.set_cons_succ]
          obtain ⟨aA, cA, eA, hrA⟩ := ownS_rdX ownA_4_8_7_11 (ksL_length _).symm (N k).ks (fun i hi => gt_ksL (N k) i hi)
          obtain ⟨aB, cB, eB, hrB⟩ := ownI_rdX ho_4_8_7_11 (kdL_length _).symm (N k).kd (fun i hi => gi_kdL (N k) i hi)
          have ltA := own_lt ownA_4_8_7_11
          have ltB := own_lt ho_4_8_7_11
          rw [eA] at hrA ltA
          rw [eB] at hrB ltB
          subst eA eB
          refine late_one 14 (.succ (.succ (.succ (.succ (.succ (.succ (.succ (.succ (.succ (.succ (.succ (.succ (.succ (.succ .zero)))))))))))))) (by kernel_rfl) (fun K hK => ?_)
          go_simp
          refine hK.out _ _ ?_ (fun hHeld2 => ?_)
          · (intro _; exact HKeep.out _ bel_4_8_7_11)
          clear hK K
          replace hHeld := hHeld2 (by decide)
          clear hHeld2
          try simp only [Act.put, List.setIfInBounds_toArray, List.set_cons_zero, List.set_cons_succ]
          refine late_one 15 (.succ (.succ (.succ (.succ (.succ (.succ (.succ (.succ (.succ (.succ (.succ (.succ (.succ (.succ (.succ .zero))))))))))))))) (by kernel_rfl) (fun K hK => ?_)
          go_simp
          refine hK.out _ _ ?_ (fun hHeld2 => ?_)
          · (intro _; exact HKeep.out _ (bel_4_8_7_11.alloc bel_4_8_7_11.size _))
          clear hK K
          replace hHeld := hHeld2 (by decide)
          clear hHeld2
          try simp only [Act.put, List.setIfInBounds_toArray, List.set_cons_zero, List.set_cons_succ]
          refine late_one 16 (.succ (.succ (.succ (.succ (.succ (.succ (.succ (.succ (.succ (.succ (.succ (.succ (.succ (.succ (.succ (.succ .zero)))))))))))))))) (by kernel_rfl) (fun K hK => ?_)
          have bel16 : Below R.heap.size R (w11_4_8_7_11.alloc (.cells #[.bool (N k).lf, .slice aA (N k).kn cA, .slice aB (N k).dn cB, .int .i64 (N k).ct] 88)) := bel_4_8_7_11.alloc bel_4_8_7_11.size _
          refine step_app_node (by rfl) (.tmp 20) (.tmp 34) (by rfl) (w.heap.size + 3) (.slice oa k oc) k xs (by rfl) (own_below HST.out.own bel16) w11_4_8_7_11.heap.size 1 (.bool (N k).lf) (.slice aA (N k).kn cA) (.slice aB (N k).dn cB) (.int .i64 (N k).ct) (by rfl) (fun j u hj => by rw [(Bx.new w11_4_8_7_11 #[.bool (N k).lf, .slice aA (N k).kn cA, .slice aB (N k).dn cB, .int .i64 (N k).ct] 88).cell j]; simpa using hj) (by intro u hu; simp at hu; rcases hu with rfl | rfl | rfl | rfl <;> rfl) hk20 (by have := bel16.size; have := HZ.out; omega) ?_
          intro v16 w16 ho16 hg16 hat16
          obtain ⟨a16, c16, e16, _⟩ := own_form ho16
          subst e16
          have HNX : Hid (CpSt w (w16.setCell ⟨w.heap.size + 2, 0, none⟩ (.slice a16 (k + 1) c16)) (.slice (some ⟨b, o, none⟩) n c) (k + 1) N (.slice a16 (k + 1) c16) (xs ++ [.bool (N k).lf, .slice aA (N k).kn cA, .slice aB (N k).dn cB, .int .i64 (N k).ct]) ∧ w16.cell? ⟨w.heap.size + 2, 0, none⟩ = some (.slice oa k oc) ∧ Bx w16 (w.heap.size + 2) 25 #[.slice oa k oc]) := cp_next HST.out HZ.out bel_4_8_7_11 (hrA) (hrB) ltA ltB ho16 hg16 hat16
          have x16 := HNX.out.2.1
          refine hK.out _ _ ?_ (fun hHeld2 => ?_)
          · (intro _; exact cp_held HST.out HZ.out bel_4_8_7_11 HKeep.out hg16)
          clear hK K
          replace hHeld := hHeld2 (by decide)
          clear hHeld2
          try simp only [Act.put, List.setIfInBounds_toArray, List.set_cons_zero, List.set_cons_succ]
          have f16 : w16.frozen? ⟨w.heap.size + 2, 0, none⟩ = false := HNX.out.2.2.frozen 0
          refine late_one 17 (.succ (.succ (.succ (.succ (.succ (.succ (.succ (.succ (.succ (.succ (.succ (.succ (.succ (.succ (.succ (.succ (.succ .zero))))))))))))))))) (by kernel_rfl) (fun K hK => ?_)
          go_simp
          refine hK.out _ _ ?_ (fun hHeld2 => ?_)
          · (intro _; exact hHeld)
          clear hK K
          replace hHeld := hHeld2 (by decide)
          clear hHeld2
          try simp only [Act.put, List.setIfInBounds_toArray, List.set_cons_zero, List.set_cons_succ]
          refine late_one 18 (.succ (.succ (.succ (.succ (.succ (.succ (.succ (.succ (.succ (.succ (.succ (.succ (.succ (.succ (.succ (.succ (.succ (.succ .zero)))))))))))))))))) (by kernel_rfl) (fun K hK => ?_)
          go_simp
          refine hK.out _ _ ?_ (fun hHeld2 => ?_)
          · (intro hne; exact absurd rfl hne)
          clear hK K hHeld2
          refine wpLate_done (by kernel_rfl) ?_ _
          clear ho16 hg16 hat16 hHeld
          go_wp2
          go_roundw
          case rel => exact ⟨k + 1, a16, c16, _, by omega, by go_num, HNX.out.1⟩
          case measure => simp [intOf]; omega
      · skip
        go_simp
        have bel_8 : Below R.heap.size R (R.alloc (.cells #[] 2)) := (Below.refl R.heap.size R).alloc (Below.refl R.heap.size R).size _
        have ownB_8 : (R.alloc (.cells #[] 2)).ownsRow R.heap.size 2 1 (.slice (some ⟨R.heap.size, 0, none⟩) 0 0) 0 [] := by simpa using own_empty R 2 R.heap.size 1 (Below.refl R.heap.size R).size
        refine hK.out _ _ ?_ (fun hHeld2 => ?_)
        · (intro _; exact HKeep.out _ bel_8)
        clear hK K
        replace hHeld := hHeld2 (by decide)
        clear hHeld2
        try simp only [Act.put, List.setIfInBounds_toArray, List.set_cons_zero, List.set_cons_succ]
        refine late_one 4 (.succ (.succ (.succ (.succ .zero)))) (by kernel_rfl) (fun K hK => ?_)
        go_simp
        have bel_8_4 : Below R.heap.size R ((R.alloc (.cells #[] 2)).alloc (.cells #[] 9)) := bel_8.alloc bel_8.size _
        have ownA_8_4 : ((R.alloc (.cells #[] 2)).alloc (.cells #[] 9)).ownsRow R.heap.size 9 1 (.slice (some ⟨R.heap.size + 1, 0, none⟩) 0 0) 0 [] := by simpa using own_empty (R.alloc (.cells #[] 2)) 9 R.heap.size 1 bel_8.size
        have ownB_8_4 := own_below ownB_8 (below_alloc (R.alloc (.cells #[] 2)) (.cells #[] 9))
        refine hK.out _ _ ?_ (fun hHeld2 => ?_)
        · (intro _; exact HKeep.out _ bel_8_4)
        clear hK K
        replace hHeld := hHeld2 (by decide)
        clear hHeld2
        try simp only [Act.put, List.setIfInBounds_toArray, List.set_cons_zero, List.set_cons_succ]
        refine late_one 7 (.succ (.succ (.succ (.succ (.succ (.succ (.succ .zero))))))) (by kernel_rfl) (fun K hK => ?_)
        refine step_app_strs (by rfl) (.tmp 23) (.tmp 25) (by rfl) R.heap.size (.slice (some ⟨R.heap.size + 1, 0, none⟩) 0 0) 0 [] (by rfl) ownA_8_4 ka (N k).kn kc (ksL (N k)) (by rfl) (ksL_length _).symm (HRK.out.1.below (bel_8_4)) (by have := HFit.out; omega) bel_8_4.size ?_
        intro v7_8_4_7 w7_8_4_7 ho_8_4_7 hg_8_4_7
        rw [Nat.zero_add, List.nil_append] at ho_8_4_7
        have bel_8_4_7 : Below R.heap.size R w7_8_4_7 := bel_8_4.grown hg_8_4_7 bel_8_4.size (fun g e => (own_lt ownA_8_4 g e).1)
        have ownB_8_4_7 := own_other ownB_8_4 ownA_8_4 (by decide) hg_8_4_7
        refine hK.out _ _ ?_ (fun hHeld2 => ?_)
        · (intro _; exact HKeep.out _ bel_8_4_7)
        clear hK K
        replace hHeld := hHeld2 (by decide)
        clear hHeld2
        try simp only [Act.put, List.setIfInBounds_toArray, List.set_cons_zero, List.set_cons_succ]
        refine late_one 11 (.succ (.succ (.succ (.succ (.succ (.succ (.succ (.succ (.succ (.succ (.succ .zero))))))))))) (by kernel_rfl) (fun K hK => ?_)
        refine step_app_ints (by rfl) (.tmp 27) (.tmp 29) (by rfl) R.heap.size (.slice (some ⟨R.heap.size, 0, none⟩) 0 0) 0 [] (by rfl) ownB_8_4_7 da (N k).dn dc (kdL (N k)) (by rfl) (kdL_length _).symm (HRK.out.2.below (bel_8_4_7)) (by have := HFit.out; omega) bel_8_4_7.size ?_
        intro v11_8_4_7_11 w11_8_4_7_11 ho_8_4_7_11 hg_8_4_7_11
        rw [Nat.zero_add, List.nil_append] at ho_8_4_7_11
        have bel_8_4_7_11 : Below R.heap.size R w11_8_4_7_11 := bel_8_4_7.grown hg_8_4_7_11 bel_8_4_7.size (fun g e => (own_lt ownB_8_4_7 g e).1)
        have ownA_8_4_7_11 := own_other ho_8_4_7 ownB_8_4_7 (by decide) hg_8_4_7_11
        refine hK.out _ _ ?_ (fun hHeld2 => ?_)
        · (intro _; exact HKeep.out _ bel_8_4_7_11)
        clear hK K
        replace hHeld := hHeld2 (by decide)
        clear hHeld2
        try simp only [Act.put, List.setIfInBounds_toArray, List.set_cons_zero, List.set_cons_succ]
        obtain ⟨aA, cA, eA, hrA⟩ := ownS_rdX ownA_8_4_7_11 (ksL_length _).symm (N k).ks (fun i hi => gt_ksL (N k) i hi)
        obtain ⟨aB, cB, eB, hrB⟩ := ownI_rdX ho_8_4_7_11 (kdL_length _).symm (N k).kd (fun i hi => gi_kdL (N k) i hi)
        have ltA := own_lt ownA_8_4_7_11
        have ltB := own_lt ho_8_4_7_11
        rw [eA] at hrA ltA
        rw [eB] at hrB ltB
        subst eA eB
        refine late_one 14 (.succ (.succ (.succ (.succ (.succ (.succ (.succ (.succ (.succ (.succ (.succ (.succ (.succ (.succ .zero)))))))))))))) (by kernel_rfl) (fun K hK => ?_)
        go_simp
        refine hK.out _ _ ?_ (fun hHeld2 => ?_)
        · (intro _; exact HKeep.out _ bel_8_4_7_11)
        clear hK K
        replace hHeld := hHeld2 (by decide)
        clear hHeld2
        try simp only [Act.put, List.setIfInBounds_toArray, List.set_cons_zero, List.set_cons_succ]
        refine late_one 15 (.succ (.succ (.succ (.succ (.succ (.succ (.succ (.succ (.succ (.succ (.succ (.succ (.succ (.succ (.succ .zero))))))))))))))) (by kernel_rfl) (fun K hK => ?_)
        go_simp
        refine hK.out _ _ ?_ (fun hHeld2 => ?_)
        · (intro _; exact HKeep.out _ (bel_8_4_7_11.alloc bel_8_4_7_11.size _))
        clear hK K
        replace hHeld := hHeld2 (by decide)
        clear hHeld2
        try simp only [Act.put, List.setIfInBounds_toArray, List.set_cons_zero, List.set_cons_succ]
        refine late_one 16 (.succ (.succ (.succ (.succ (.succ (.succ (.succ (.succ (.succ (.succ (.succ (.succ (.succ (.succ (.succ (.succ .zero)))))))))))))))) (by kernel_rfl) (fun K hK => ?_)
        have bel16 : Below R.heap.size R (w11_8_4_7_11.alloc (.cells #[.bool (N k).lf, .slice aA (N k).kn cA, .slice aB (N k).dn cB, .int .i64 (N k).ct] 88)) := bel_8_4_7_11.alloc bel_8_4_7_11.size _
        refine step_app_node (by rfl) (.tmp 20) (.tmp 34) (by rfl) (w.heap.size + 3) (.slice oa k oc) k xs (by rfl) (own_below HST.out.own bel16) w11_8_4_7_11.heap.size 1 (.bool (N k).lf) (.slice aA (N k).kn cA) (.slice aB (N k).dn cB) (.int .i64 (N k).ct) (by rfl) (fun j u hj => by rw [(Bx.new w11_8_4_7_11 #[.bool (N k).lf, .slice aA (N k).kn cA, .slice aB (N k).dn cB, .int .i64 (N k).ct] 88).cell j]; simpa using hj) (by intro u hu; simp at hu; rcases hu with rfl | rfl | rfl | rfl <;> rfl) hk20 (by have := bel16.size; have := HZ.out; omega) ?_
        intro v16 w16 ho16 hg16 hat16
        obtain ⟨a16, c16, e16, _⟩ := own_form ho16
        subst e16
        have HNX : Hid (CpSt w (w16.setCell ⟨w.heap.size + 2, 0, none⟩ (.slice a16 (k + 1) c16)) (.slice (some ⟨b, o, none⟩) n c) (k + 1) N (.slice a16 (k + 1) c16) (xs ++ [.bool (N k).lf, .slice aA (N k).kn cA, .slice aB (N k).dn cB, .int .i64 (N k).ct]) ∧ w16.cell? ⟨w.heap.size + 2, 0, none⟩ = some (.slice oa k oc) ∧ Bx w16 (w.heap.size + 2) 25 #[.slice oa k oc]) := cp_next HST.out HZ.out bel_8_4_7_11 (hrA) (hrB) ltA ltB ho16 hg16 hat16
        have x16 := HNX.out.2.1
        refine hK.out _ _ ?_ (fun hHeld2 => ?_)
        · (intro _; exact cp_held HST.out HZ.out bel_8_4_7_11 HKeep.out hg16)
        clear hK K
        replace hHeld := hHeld2 (by decide)
        clear hHeld2
        try simp only [Act.put, List.setIfInBounds_toArray, List.set_cons_zero, List.set_cons_succ]
        have f16 : w16.frozen? ⟨w.heap.size + 2, 0, none⟩ = false := HNX.out.2.2.frozen 0
        refine late_one 17 (.succ (.succ (.succ (.succ (.succ (.succ (.succ (.succ (.succ (.succ (.succ (.succ (.succ (.succ (.succ (.succ (.succ .zero))))))))))))))))) (by kernel_rfl) (fun K hK => ?_)
        go_simp
        refine hK.out _ _ ?_ (fun hHeld2 => ?_)
        · (intro _; exact hHeld)
        clear hK K
        replace hHeld := hHeld2 (by decide)
        clear hHeld2
        try simp only [Act.put, List.setIfInBounds_toArray, List.set_cons_zero, List.set_cons_succ]
        refine late_one 18 (.succ (.succ (.succ (.succ (.succ (.succ (.succ (.succ (.succ (.succ (.succ (.succ (.succ (.succ (.succ (.succ (.succ (.succ .zero)))))))))))))))))) (by kernel_rfl) (fun K hK => ?_)
        go_simp
        refine hK.out _ _ ?_ (fun hHeld2 => ?_)
        · (intro hne; exact absurd rfl hne)
        clear hK K hHeld2
        refine wpLate_done (by kernel_rfl) ?_ _
        clear ho16 hg16 hat16 hHeld
        go_wp2
        go_roundw
        case rel => exact ⟨k + 1, a16, c16, _, by omega, by go_num, HNX.out.1⟩
        case measure => simp [intOf]; omega
    · have e : k = n := by omega
      subst e
      have y0 := H0.out.ob.cell 0
      have z0 := H0.out.rb.cell 0
      simp at y0 z0
      have zf := H0.out.rb.frozen 0
      have zl := H0.out.rb.lt
      go_wp2
      refine bodyPost_ret (v := .agg #[.slice oa k oc]) (by simp [results, Try.results47, go_sem, z0]) rfl ⟨H0.out.bel.setCell (by simp) _, oa, oc, rfl, ?_⟩
      refine (FlAt.rowN (B := w.heap.size + 3) H0.out.own (H0.out.fl.mono (Nat.le_refl _) (fun b hs _ => ⟨hs.1, rfl⟩))).keep (by omega) (by simp [World.setCell]) (fun b hb _ => Below.heap_setCell _ _ _ _ (show b ≠ w.heap.size + 1 by omega))
end Go.Proofs.Ytakemeccigpbaaa

namespace Go.Proofs.Ytakemeccigpbaaa
open Go.RowKit Go.Deep
set_option linter.unusedVariables false
set_option maxRecDepth 100000

set_option maxHeartbeats 2000000 in
theorem keys_any6 : ∀ (d : Nat) (t : Ro d) (v : Value) (w : World), NA w d t v → nodesR d t ≤ 6000 → (keysR d t).length ≤ 1099511627776 → Calls Try.prog 43 #[v] w (RetStrs w (keysR d t)) := by
  intro d
  induction d with
  | zero => intro t; exact t.elim
  | succ d ih =>
    intro t v w hv hnod hlen
    rcases t with t | l
    · obtain ⟨ka, kc, ca, cc, rfl, hk⟩ := hv
      have HO : Hid (∀ O : Obj, ((w.alloc O).alloc (.cells #[] 9)).ownsRow (w.heap.size + 1) 9 1 (.slice (some ⟨w.heap.size + 1, 0, none⟩) 0 0) 0 []) := fun O => by simpa using own_empty (w.alloc O) 9 (w.heap.size + 1) 1 (by simp)
      have hl : t.length ≤ 1099511627776 := hlen
      clear hlen
      obtain ⟨m, hm⟩ : ∃ m, m = t.length := ⟨_, rfl⟩
      rw [← hm] at hk hl ⊢
      have HK : Hid (RdS w ka m (gt t)) := hk
      have HM : Hid (m = t.length) := hm
      clear hk ih hm
      go_enter Try.func43, Try.ntmps43
      go_wp2_with (at_builtin; refine wpList_append_strs rfl _ _ rfl (w.heap.size + 1) (.slice (some ⟨w.heap.size + 1, 0, none⟩) 0 0) 0 [] rfl (HO.out _) ka m kc t rfl HM.out (HK.out.below ((below_alloc _ _).alloc (by simp) _)) (by omega) (by simp) ?_)
      intro v' w' ho hg hat
      have HB : Hid (Below w.heap.size w w') := (((below_alloc _ _).alloc (by simp) _).grown hg (by simp; omega) (fun k e => by simp [Value.ownBlock] at e; omega))
      obtain ⟨a', c', rfl, h1, h2, h3⟩ := ownS_strL (L := t) ho HM.out
      have HE : Hid (OwnS w' (w.heap.size + 1) a' t.length (gt t)) := h1
      clear ho hg h1
      go_wp2
      go_ret
      refine ⟨a', c', by rw [← show m = (keysR (d + 1) (Sum.inl t)).length from HM.out]; rfl, HE.out.mono (by omega), HB.out, ?_, h3⟩
      rw [← show m = (keysR (d + 1) (Sum.inl t)).length from HM.out]
      exact h2
    · obtain ⟨ka, kc, b, cc, xs, rfl, _, hb, hl0, hx, hk⟩ := hv
      have HX : Hid ((∀ j u, xs[j]? = some u → w.cell? ⟨b, j, none⟩ = some u) ∧ KidL (fun t v => NestAt (KR w) (fun _ => True) w d t v) l xs) := ⟨hx, hk⟩
      have HKid : Hid (∀ W : World, Below w.heap.size w W → ∀ k (h : k < l.length), ∃ lf ka kn kc ca cn cc, W.cell? ⟨b, k * 3, none⟩ = some (.bool lf) ∧ W.cell? ⟨b, k * 3 + 1, none⟩ = some (.slice ka kn kc) ∧ W.cell? ⟨b, k * 3 + 2, none⟩ = some (.slice ca cn cc) ∧ NA W d l[k] (.agg #[.bool lf, .slice ka kn kc, .slice ca cn cc])) := by
        intro W hW k h
        obtain ⟨lf, ka, kn, kc, ca, cn, cc, h0, h1, h2, h3⟩ := kid_at hx hk k h
        exact ⟨lf, ka, kn, kc, ca, cn, cc, (hW.cell (p := ⟨b, _, none⟩) hb).trans h0, (hW.cell (p := ⟨b, _, none⟩) hb).trans h1, (hW.cell (p := ⟨b, _, none⟩) hb).trans h2, NA.below h3 hW⟩
      have HLen : Hid ((l.flatMap (keysR d)).length ≤ 1099511627776) := hlen
      have HIH : Hid (∀ (t : Ro d) (v : Value) (w : World), NA w d t v → nodesR d t ≤ 6000 → (keysR d t).length ≤ 1099511627776 → Calls Try.prog 43 #[v] w (RetStrs w (keysR d t))) := ih
      have hl63 : l.length ≤ 6000 := by have := kids_le d l; omega
      have HNod : Hid (∀ k (h : k < l.length), nodesR d l[k] ≤ 6000) := fun k h => by have := kid_le d l k h; omega
      clear hnod
      clear hx hk hlen ih
      obtain ⟨ln, hln⟩ : ∃ ln, ln = l.length := ⟨_, rfl⟩
      rw [← hln] at hl0 hl63 ⊢
      have HLn : Hid (ln = l.length) := hln
      clear hln
      go_enter Try.func43, Try.ntmps43
      go_upto_region 4 with fail
      have S1 : Hid (Bx ((w.alloc (.cells #[.bool false, .slice ka 0 kc, .slice (some ⟨b, 0, none⟩) ln cc] 67)).alloc (.cells #[] 9)) w.heap.size 67 #[.bool false, .slice ka 0 kc, .slice (some ⟨b, 0, none⟩) ln cc] ∧ ((w.alloc (.cells #[.bool false, .slice ka 0 kc, .slice (some ⟨b, 0, none⟩) ln cc] 67)).alloc (.cells #[] 9)).ownsRow (w.heap.size + 1) 9 1 (.slice (some ⟨w.heap.size + 1, 0, none⟩) 0 0) 0 [] ∧ Below w.heap.size w ((w.alloc (.cells #[.bool false, .slice ka 0 kc, .slice (some ⟨b, 0, none⟩) ln cc] 67)).alloc (.cells #[] 9))) :=
        ⟨(Bx.new _ _ _).alloc _, by simpa using own_empty (w.alloc (.cells #[.bool false, .slice ka 0 kc, .slice (some ⟨b, 0, none⟩) ln cc] 67)) 9 (w.heap.size + 1) 1 (by simp), (below_alloc _ _).alloc (by simp) _⟩
      generalize ((w.alloc (.cells #[.bool false, .slice ka 0 kc, .slice (some ⟨b, 0, none⟩) ln cc] 67)).alloc (.cells #[] 9)) = W at S1 ⊢
      go_wp2
      go_loopw [3, 4] (fun q i wr => ∃ k nk : Nat, k ≤ ln ∧ i = .int .i64 k ∧ nk = ((l.take k).flatMap (keysR d)).length ∧ Bx wr w.heap.size 67 #[.bool false, .slice ka 0 kc, .slice (some ⟨b, 0, none⟩) ln cc] ∧ wr.ownsRow (w.heap.size + 1) 9 1 q nk (strL ((l.take k).flatMap (keysR d))) ∧ Below w.heap.size w wr) (fun _ i _ => ln - (intOf i).toNat)
      case atStart => exact ⟨0, 0, Nat.zero_le _, rfl, by simp, S1.out.1, S1.out.2.1, S1.out.2.2⟩
      case round =>
        obtain ⟨k, nk, hk, rfl, hnk, hbx, hown, hbel⟩ := hrel
        clear S1
        obtain ⟨qa, qc, rfl, _⟩ := own_form hown
        have HST : Hid (Bx wr w.heap.size 67 #[.bool false, .slice ka 0 kc, .slice (some ⟨b, 0, none⟩) ln cc] ∧ wr.ownsRow (w.heap.size + 1) 9 1 (.slice qa nk qc) nk (strL ((l.take k).flatMap (keysR d))) ∧ Below w.heap.size w wr) := ⟨hbx, hown, hbel⟩
        have HNK : Hid (nk = ((l.take k).flatMap (keysR d)).length) := hnk
        have hnl : nk ≤ 1099511627776 := by have := flat_take_le (keysR d) l k; have := HLen.out; omega
        have y2 := hbx.cell 2
        simp at y2
        have hz := hbx.lt
        clear hbx hown hbel hnk
        by_cases hlt : k < ln
        · have hlk : k < l.length := by rw [← HLn.out]; exact hlt
          obtain ⟨lf1, ka1, kn1, kc1, ca1, cn1, cc1, c0, c1, c2, hna⟩ := HKid.out wr HST.out.2.2 k hlk
          have HNA : Hid (NA wr d l[k] (.agg #[.bool lf1, .slice ka1 kn1 kc1, .slice ca1 cn1 cc1])) := hna
          have e12 := flat_take (keysR d) l k hlk
          have HKL : Hid (nk + (keysR d l[k]).length ≤ 1099511627776) := by
            have h1 := flat_take_le (keysR d) l (k + 1)
            rw [e12, List.length_append, ← HNK.out] at h1
            have := HLen.out
            show nk + (keysR d l[k]).length ≤ 1099511627776
            omega
          have hk0 : (0 : Int) ≤ (k : Int) := by omega
          have hkn : (k : Int) < (ln : Int) := by omega
          clear hna
          go_wp2_with fail
          refine (HIH.out l[k] _ _ HNA.out (HNod.out k hlk) (by have := HKL.out; omega)).mono ?_
          rintro e w2 ⟨a2, cz2, he, ho2, hb2, hcc1, hcc2⟩
          have HM : Hid (((l.take (k + 1)).flatMap (keysR d)) = ((l.take k).flatMap (keysR d)) ++ keysR d l[k]) := e12
          have HL2 : Hid (RdS w2 a2 (keysR d l[k]).length (gt (keysR d l[k]))) := ho2.rd
          clear ho2 e12 HNA
          generalize hLk : keysR d l[k] = L2 at *
          obtain ⟨n2, hn2⟩ : ∃ n2, n2 = L2.length := ⟨_, rfl⟩
          rw [← hn2] at he
          subst he
          have HN2 : Hid (n2 = L2.length ∧ nk + n2 ≤ 1099511627776) := ⟨hn2, by rw [hn2]; exact HKL.out⟩
          have HS2 : Hid (Bx w2 w.heap.size 67 #[.bool false, .slice ka 0 kc, .slice (some ⟨b, 0, none⟩) ln cc] ∧ w2.ownsRow (w.heap.size + 1) 9 1 (.slice qa nk qc) nk (strL ((l.take k).flatMap (keysR d))) ∧ Below w.heap.size w w2) := ⟨HST.out.1.below hb2, own_below HST.out.2.1 hb2, HST.out.2.2.trans (hb2.mono HST.out.2.2.size)⟩
          clear hn2 hLk HKL HST hb2 c0 c1 c2 y2
          have hz2 := HS2.out.1.lt
          go_wp2_with (at_builtin; refine wpList_append_strs rfl _ _ rfl (w.heap.size + 1) (.slice qa nk qc) nk _ rfl HS2.out.2.1 a2 n2 cz2 L2 rfl HN2.out.1 (by rw [HN2.out.1]; exact HL2.out) HN2.out.2 (by omega) ?_)
          intro v' w5 ho hg hat
          have HG : Hid (Bx w5 w.heap.size 67 #[.bool false, .slice ka 0 kc, .slice (some ⟨b, 0, none⟩) ln cc] ∧ w5.ownsRow (w.heap.size + 1) 9 1 v' (nk + n2) (strL ((l.take (k + 1)).flatMap (keysR d))) ∧ Below w.heap.size w w5) := by
            refine ⟨HS2.out.1.grown hg (fun e => by have := own_lt HS2.out.2.1 _ e; omega), ?_, HS2.out.2.2.grown hg (by omega) (fun g e => by have := own_lt HS2.out.2.1 _ e; omega)⟩
            rw [HM.out, strL_app]
            exact ho
          obtain ⟨va, vc, rfl, _⟩ := own_form ho
          clear ho hg hat HS2
          go_wp2
          go_roundw
          case rel => exact ⟨k + 1, nk + n2, by omega, by go_num, by rw [HM.out, List.length_append, ← HNK.out, ← HN2.out.1], HG.out.1, HG.out.2.1, HG.out.2.2⟩
          case measure => simp [intOf]; omega
        · have e : k = ln := by omega
          subst e
          have HEq : Hid ((l.take k).flatMap (keysR d) = l.flatMap (keysR d)) := by
            show (l.take k).flatMap (keysR d) = l.flatMap (keysR d)
            rw [HLn.out, List.take_length]
          go_wp2
          go_ret
          obtain ⟨a', c', e', h1, h2, h3⟩ := ownS_strL HST.out.2.1 HNK.out
          injection e' with e1 _ e2
          subst e1
          subst e2
          rw [HEq.out] at h1
          refine ⟨qa, qc, ?_, h1.mono (by omega), HST.out.2.2, ?_, h3⟩
          · show Ending.returned (.slice qa nk qc) = Ending.returned (.slice qa (l.flatMap (keysR d)).length qc)
            rw [← HEq.out, ← HNK.out]
          · show (l.flatMap (keysR d)).length ≤ qc
            rw [← HEq.out, ← HNK.out]
            exact h2

set_option maxHeartbeats 8000000 in
theorem flat_any6 : ∀ (d : Nat) (t : Ro d) (v : Value) (root : Bool) (h : Nat) (a : Int) (w : World), NA w d t v → nodesR d t ≤ 6000 → (keysR d t).length ≤ 1099511627776 → BalR d root t h → 0 ≤ a → a + (nodesR d t : Int) ≤ 100000 → Calls Try.prog 49 #[v, .int .i64 a] w (RetFlat w d t a) := by
  intro d
  induction d with
  | zero => intro t; exact t.elim
  | succ d ih =>
    intro t v root h a w hv hnod hlen hbal ha0 ha1
    obtain ⟨lf, ka0, kn0, kc0, ca0, cn0, cc0, hform⟩ := NestAt.form hv
    have HKeys : Hid (∀ W, Below w.heap.size w W → Calls Try.prog 43 #[.agg #[.bool lf, .slice ka0 kn0 kc0, .slice ca0 cn0 cc0]] W (RetStrs W (keysR (d + 1) t))) := fun W hW => by
      have q := keys_any6 (d + 1) t v W (NA.below hv hW) hnod hlen
      rw [hform] at q
      exact q
    subst hform
    obtain ⟨m, hm⟩ : ∃ m, m = (keysR (d + 1) t).length := ⟨_, rfl⟩
    have HK : Hid (∀ W, Below w.heap.size w W → Calls Try.prog 43 #[.agg #[.bool lf, .slice ka0 kn0 kc0, .slice ca0 cn0 cc0]] W (fun e w' => ∃ a1 c1, e = .returned (.slice a1 m c1) ∧ Below W.heap.size W w')) := fun W hW => (HKeys.out W hW).mono (fun e w' hr => by
      obtain ⟨a1, c1, e1, _, hb, _⟩ := hr
      exact ⟨a1, c1, by rw [hm]; exact e1, hb⟩)
    clear HKeys
    have HM : Hid (m = (keysR (d + 1) t).length) := hm
    have hm40 : m ≤ 1099511627776 := by rw [hm]; exact hlen
    clear hm hlen
    have HV : Hid (NA w (d + 1) t (.agg #[.bool lf, .slice ka0 kn0 kc0, .slice ca0 cn0 cc0])) := hv
    have HBal : Hid (BalR (d + 1) root t h) := hbal
    have HNod : Hid (nodesR (d + 1) t ≤ 6000 ∧ a + (nodesR (d + 1) t : Int) ≤ 100000) := ⟨hnod, ha1⟩
    have HIH : Hid (∀ (t : Ro d) (v : Value) (h : Nat) (a : Int) (w : World), NA w d t v → nodesR d t ≤ 6000 → (keysR d t).length ≤ 1099511627776 → BalR d false t h → 0 ≤ a → a + (nodesR d t : Int) ≤ 100000 → Calls Try.prog 49 #[v, .int .i64 a] w (RetFlat w d t a)) := fun t v h a w => ih t v false h a w
    have ha2 : a ≤ 100000 := by omega
    clear hv hnod hbal ih ha1
    have HA1 : Hid (∀ w1 : World, Below (w.alloc (.cells #[.bool lf, .slice ka0 kn0 kc0, .slice ca0 cn0 cc0] 67)).drew.heap.size (w.alloc (.cells #[.bool lf, .slice ka0 kn0 kc0, .slice ca0 cn0 cc0] 67)).drew w1 → Bx w1 w.heap.size 67 #[.bool lf, .slice ka0 kn0 kc0, .slice ca0 cn0 cc0] ∧ Below w.heap.size w w1) := fun w1 hb => ⟨(Bx.new _ _ _).below (below_undrew hb), (below_alloc _ _).trans ((below_undrew hb).mono (by simp))⟩
    have HA2 : Hid (∀ w1 : World, Below ((w.alloc (.cells #[.bool lf, .slice ka0 kn0 kc0, .slice ca0 cn0 cc0] 67)).alloc (.cells #[.bool false, .slice none 0 0, .slice none 0 0, .int .i64 0] 88)).drew.heap.size ((w.alloc (.cells #[.bool lf, .slice ka0 kn0 kc0, .slice ca0 cn0 cc0] 67)).alloc (.cells #[.bool false, .slice none 0 0, .slice none 0 0, .int .i64 0] 88)).drew w1 → Bx w1 w.heap.size 67 #[.bool lf, .slice ka0 kn0 kc0, .slice ca0 cn0 cc0] ∧ Bx w1 (w.heap.size + 1) 88 #[.bool false, .slice none 0 0, .slice none 0 0, .int .i64 0] ∧ Below w.heap.size w w1) := fun w1 hb => by
      refine ⟨((Bx.new _ _ _).alloc _).below (below_undrew hb), ?_, ((below_alloc _ _).alloc (by simp) _).trans ((below_undrew hb).mono (by simp; omega))⟩
      have q := (Bx.new (w.alloc (.cells #[.bool lf, .slice ka0 kn0 kc0, .slice ca0 cn0 cc0] 67)) #[.bool false, .slice none 0 0, .slice none 0 0, .int .i64 0] 88).below (below_undrew hb)
      simpa using q
    go_enter Try.func49, Try.ntmps49
    go_wp2
    go_cut [5] from 8 to 13 (fun s5 wx => FlBox w wx #[.bool lf, .slice ka0 kn0 kc0, .slice ca0 cn0 cc0] lf m s5)
    case first =>
      go_region_held3 (fun w' => w'.cell? ⟨w.heap.size, 0, none⟩ = some (.bool lf) ∧ w'.cell? ⟨w.heap.size, 1, none⟩ = some (.slice ka0 kn0 kc0) ∧ w'.cell? ⟨w.heap.size, 2, none⟩ = some (.slice ca0 cn0 cc0)) (go_keep)
        (first
        | (go_at_call 43; refine (HK.out (w.alloc (.cells #[.bool lf, .slice ka0 kn0 kc0, .slice ca0 cn0 cc0] 67)).drew (below_alloc _ _).drew).mono ?_; rintro e w1 ⟨a1, c1, rfl, hb1⟩; have y0 := (HA1.out w1 hb1).1.cell 0; have y1 := (HA1.out w1 hb1).1.cell 1; have y2 := (HA1.out w1 hb1).1.cell 2; simp at y0 y1 y2)
        | (go_at_call 43; refine (HK.out ((w.alloc (.cells #[.bool lf, .slice ka0 kn0 kc0, .slice ca0 cn0 cc0] 67)).alloc (.cells #[.bool false, .slice none 0 0, .slice none 0 0, .int .i64 0] 88)).drew ((below_alloc _ _).alloc (by simp) _).drew).mono ?_; rintro e w1 ⟨a1, c1, rfl, hb1⟩; have y0 := (HA2.out w1 hb1).1.cell 0; have y1 := (HA2.out w1 hb1).1.cell 1; have y2 := (HA2.out w1 hb1).1.cell 2; have r0 := (HA2.out w1 hb1).2.1.cell 0; have r1 := (HA2.out w1 hb1).2.1.cell 1; have r2 := (HA2.out w1 hb1).2.1.cell 2; have r3 := (HA2.out w1 hb1).2.1.cell 3; have rf0 := (HA2.out w1 hb1).2.1.frozen 0; have rf1 := (HA2.out w1 hb1).2.1.frozen 1; have rf2 := (HA2.out w1 hb1).2.1.frozen 2; have rf3 := (HA2.out w1 hb1).2.1.frozen 3; have rl := (HA2.out w1 hb1).2.1.lt; simp at y0 y1 y2 r0 r1 r2 r3))
      · go_wp2
        go_meet
        case rel => exact ⟨_, rfl, (HA1.out w1 hb1).1.lt, (HA1.out w1 hb1).1.alloc _, Bx.new _ _ _, (HA1.out w1 hb1).2.alloc (HA1.out w1 hb1).2.size _⟩
      · go_wp2
        go_meet
        case rel =>
          obtain ⟨q1, q2, q3⟩ := HA2.out w1 hb1
          exact ⟨_, rfl, by simp, (((q1.other (by simp) _).other (by simp) _).other (by simp) _).other (by simp) _, ((((q2.set 0 _).set 1 _).set 2 _).set 3 _), (((q3.setCell (by simp) _).setCell (by simp) _).setCell (by simp) _).setCell (by simp) _⟩
    case rest =>
      obtain ⟨nb, rfl, hnb, htb, hnbx, hbel⟩ := hcut
      clear HA1 HA2 HK
      have HC : Hid (Bx wc w.heap.size 67 #[.bool lf, .slice ka0 kn0 kc0, .slice ca0 cn0 cc0] ∧ Bx wc nb 88 #[.bool lf, .slice none 0 0, .slice none 0 0, .int .i64 (m : Int)] ∧ Below w.heap.size w wc) := ⟨htb, hnbx, hbel⟩
      have hz := htb.lt
      have hzn := hnbx.lt
      rcases t with t | l
      · obtain ⟨ka1, kc1, ca1, cc1, e1, hk1⟩ := HV.out
        injection e1 with e1
        simp at e1
        obtain ⟨rfl, ⟨rfl, rfl, rfl⟩, ⟨rfl, rfl, rfl⟩⟩ := e1
        have HKs : Hid (RdS w ka0 t.length (gt t)) := hk1
        have hm2 : m = t.length := HM.out
        rw [← hm2] at HKs htb HC ⊢
        have y0 := htb.cell 0
        have y1 := htb.cell 1
        have z0 := hnbx.cell 0
        have z1 := hnbx.cell 1
        have z2 := hnbx.cell 2
        have z3 := hnbx.cell 3
        have zf := hnbx.frozen 1
        simp at y0 y1 z0 z1 z2 z3
        have HO : Hid ((wc.alloc (.cells #[] 9)).ownsRow wc.heap.size 9 1 (.slice (some ⟨wc.heap.size, 0, none⟩) 0 0) 0 []) := own_empty wc 9 wc.heap.size 1 (Nat.le_refl _)
        clear htb hnbx hbel hm2 hk1 HV HIH
        go_wp2_with (at_builtin; refine wpList_append_strs rfl _ _ rfl wc.heap.size (.slice (some ⟨wc.heap.size, 0, none⟩) 0 0) 0 [] rfl HO.out ka0 m kc0 t rfl HM.out (HKs.out.below (HC.out.2.2.trans ((below_alloc _ _).mono HC.out.2.2.size))) (by omega) (by simp) ?_)
        intro v' w5 ho hg hat
        have hown : ∀ g, (Value.slice (some ⟨wc.heap.size, 0, none⟩) 0 0).ownBlock = some g → g = wc.heap.size := fun g e => by simpa [Value.ownBlock] using e.symm
        have hx5 := (HC.out.2.1.alloc (.cells #[] 9)).grown hg (fun e => by have := hown _ e; omega)
        have z0 := hx5.cell 0
        have z1 := hx5.cell 1
        have z2 := hx5.cell 2
        have z3 := hx5.cell 3
        have zf := hx5.frozen 1
        have zl := hx5.lt
        simp at z0 z1 z2 z3
        obtain ⟨a', c', rfl, _⟩ := own_form ho
        have H5 : Hid (Below w.heap.size w w5 ∧ RdX (fun b => wc.heap.size ≤ b) w5 a' m (fun i => .string (gt t i)) ∧ Bx w5 nb 88 #[.bool true, .slice none 0 0, .slice none 0 0, .int .i64 (m : Int)]) :=
          ⟨(HC.out.2.2.trans ((below_alloc _ _).mono HC.out.2.2.size)).grown hg (by simp; omega) (fun g e => by have := hown g e; omega), own_rdS ho HM.out (fun b hb => hb), hx5⟩
        have HWT : Hid (w.heap.size < nb) := hnb
        clear ho hg hat hx5 y0 y1 HO hown HC
        go_wp2
        go_ret
        have hn1 : nodesR (d + 1) (.inl t) = 1 := rfl
        refine ⟨some ⟨w5.heap.size, 0, none⟩, 1, fun _ => ⟨true, t.length, gt t, 0, fun _ => 0, (t.length : Int)⟩, [.bool true, .slice a' m c', .slice none 0 0, .int .i64 (m : Int)], by rw [hn1]; rfl, ?_, ?_, ?_, ?_⟩
        · exact ((H5.out.1.setCell (by show w.heap.size ≤ nb; omega) _).alloc (by simp [World.setCell]; have := H5.out.1.size; omega) _)
        · rw [hn1]
          refine ⟨rfl, Or.inr ⟨w5.heap.size, 1, #[.bool true, .slice a' m c', .slice none 0 0, .int .i64 (m : Int)], rfl, H5.out.1.size, ?_, Nat.le_refl _, by unfold maxLen; omega, rfl, rfl⟩⟩
          have q := Bx.new (w5.setCell ⟨nb, 1, none⟩ (.slice a' m c')) #[.bool true, .slice a' m c', .slice none 0 0, .int .i64 (m : Int)] 88
          rw [show (w5.setCell ⟨nb, 1, none⟩ (.slice a' m c')).heap.size = w5.heap.size by simp [World.setCell]] at q
          exact q
        · rw [hn1]
          refine FlAt.one ⟨rfl, by rw [← show m = t.length from HM.out], a', c', none, 0, by rw [← show m = t.length from HM.out], rfl, ?_, Or.inl rfl⟩
          have q := H5.out.2.1
          rw [show m = t.length from HM.out] at q
          refine q.mono (by simp [World.setCell]) (fun b hs hlt => ⟨by show w.heap.size ≤ b; omega, ?_⟩)
          rw [Below.heap_alloc _ _ _ (by simpa [World.setCell] using hlt), Below.heap_setCell _ _ _ _ (show b ≠ nb by omega)]
        · exact ⟨rfl, rfl, fun j _ => rfl, rfl, rfl⟩
      · obtain ⟨ka1, kc1, b, cc1, xs0, e1, _, hbl, hl0, hx, hk⟩ := HV.out
        injection e1 with e1
        simp at e1
        obtain ⟨rfl, ⟨rfl, rfl, rfl⟩, ⟨rfl, rfl, rfl⟩⟩ := e1
        have hl63 : l.length ≤ 6000 := by have := kids_le d l; have := HNod.out.1; omega
        have HKid : Hid (∀ W : World, Below w.heap.size w W → ∀ k (h : k < l.length), ∃ lf ka kn kc ca cn cc, W.cell? ⟨b, k * 3, none⟩ = some (.bool lf) ∧ W.cell? ⟨b, k * 3 + 1, none⟩ = some (.slice ka kn kc) ∧ W.cell? ⟨b, k * 3 + 2, none⟩ = some (.slice ca cn cc) ∧ NA W d l[k] (.agg #[.bool lf, .slice ka kn kc, .slice ca cn cc])) := by
          intro W hW k h
          obtain ⟨lf, ka, kn, kc, ca, cn, cc, h0, h1, h2, h3⟩ := kid_at hx hk k h
          exact ⟨lf, ka, kn, kc, ca, cn, cc, (hW.cell (p := ⟨b, _, none⟩) hbl).trans h0, (hW.cell (p := ⟨b, _, none⟩) hbl).trans h1, (hW.cell (p := ⟨b, _, none⟩) hbl).trans h2, NA.below h3 hW⟩
        have HBk : Hid (∀ k (h : k < l.length), ∃ h', BalR d false l[k] h') := by
          obtain ⟨_, _, h', _, hall⟩ := HBal.out
          exact fun k hk => ⟨h', hall _ (List.getElem_mem hk)⟩
        have HML : Hid (m = (l.flatMap (keysR d)).length) := HM.out
        have HNs : Hid (1 + (l.map (nodesR d)).sum ≤ 6000 ∧ a + ((1 + (l.map (nodesR d)).sum : Nat) : Int) ≤ 100000) := HNod.out
        clear hx hk HV HNod HM HBal
        obtain ⟨ln, hln⟩ : ∃ ln, ln = l.length := ⟨_, rfl⟩
        rw [← hln] at hl0 hl63 htb HC ⊢
        have HLn : Hid (ln = l.length) := hln
        clear hln
        have y0 := htb.cell 0
        simp at y0
        go_upto_region 6 with fail
        clear y0
        have S1 : Hid (FlSt w (wc.alloc (.cells #[] 88)) nb #[.bool false, .slice ka0 0 kc0, .slice (some ⟨b, 0, none⟩) ln cc0] (m : Int) none 0 0 none 0 0 (some ⟨wc.heap.size, 0, none⟩) 0 0 (hdL d l 0) (stL a d l 0) (fun _ => zTn) []) := by
          refine ⟨HC.out.1.alloc _, HC.out.2.1.alloc _, hnb, ?_, ?_, own_empty wc 88 (nb + 1) 4 (by omega), ⟨rfl, fun i hi => absurd hi (Nat.not_lt_zero _)⟩, HC.out.2.2.trans ((below_alloc _ _).mono HC.out.2.2.size)⟩
          · exact World.ownsRow_nil _ _ _ _
          · exact World.ownsRow_nil _ _ _ _
        clear HC htb hnbx hbel hz hzn
        generalize (wc.alloc (.cells #[] 88)) = W at S1 ⊢
        generalize wc.heap.size = g0 at S1 ⊢
        go_wp2
        go_loopw [6, 7] (fun q i wr => ∃ (k kn rn : Nat) (ka da ra : Option Addr) (kc dc rc : Nat) (R : Nat → Tn) (xs : List Value), k ≤ ln ∧ i = .int .i64 k ∧ q = .slice ra rn rc ∧ rn = offR d l k ∧ kn = k - 1 ∧ FlSt w wr nb #[.bool false, .slice ka0 0 kc0, .slice (some ⟨b, 0, none⟩) ln cc0] (m : Int) ka kn kc da k dc ra rn rc (hdL d l k) (stL a d l k) R xs ∧ ∀ j (h : j < l.length), j < k → Tells R (a + 1) d l[j] (offR d l j)) (fun _ i _ => ln - (intOf i).toNat)
        case atStart => exact ⟨0, 0, 0, _, _, _, _, _, _, _, _, Nat.zero_le _, rfl, rfl, (offR_zero d l).symm, rfl, S1.out, fun j _ h => absurd h (Nat.not_lt_zero _)⟩
        case round =>
          obtain ⟨k, kn, rn, ka, da, ra, kc, dc, rc, R, xs, hk, rfl, rfl, hrn, hkn, hst, htells⟩ := hrel
          clear S1
          have HST : Hid (FlSt w wr nb #[.bool false, .slice ka0 0 kc0, .slice (some ⟨b, 0, none⟩) ln cc0] (m : Int) ka kn kc da k dc ra rn rc (hdL d l k) (stL a d l k) R xs) := hst
          have HT : Hid (∀ j (h : j < l.length), j < k → Tells R (a + 1) d l[j] (offR d l j)) := htells
          have HP : Hid (rn = offR d l k ∧ kn = k - 1) := ⟨hrn, hkn⟩
          have y2 := hst.tb.cell 2
          have z0 := hst.nbx.cell 0
          have z1 := hst.nbx.cell 1
          have z2 := hst.nbx.cell 2
          have z3 := hst.nbx.cell 3
          have zf2 := hst.nbx.frozen 2
          have zl := hst.nbx.lt
          have zt := hst.tb.lt
          simp at y2 z0 z1 z2 z3
          have hrn5 : rn ≤ 6000 := by
            have h1 := offR_mono d l (j := k) (k := l.length) (by rw [← HLn.out]; exact hk) (Nat.le_refl _)
            rw [offR_all] at h1
            have := HNs.out.1
            omega
          clear hst htells hrn hkn
          by_cases hlt : k < ln
          · have hlk : k < l.length := by rw [← HLn.out]; exact hlt
            have hk0 : (0 : Int) ≤ (k : Int) := by omega
            have hkl : (k : Int) < (ln : Int) := by omega
            obtain ⟨i0, hi, hz0, hz1, hz2⟩ := info_parts Try.info2
            have HI : Hid (Try.prog.info? 2 = some i0 ∧ i0.zero = some (.int .i64 0) ∧ i0.size = 1 ∧ i0.bytes = 8) := ⟨hi, hz0, hz1, hz2⟩
            clear hi hz0 hz1 hz2
            have HO : Hid ((wr.alloc (.cells #[.int .i64 (a + 1 + (rn : Int))] 2)).ownsRow (nb + 1) 2 1 (.slice da k dc) k (intL (stL a d l k))) := own_below HST.out.own2 (below_alloc _ _)
            go_wp2_with (at_builtin; refine wpList_append_own_at _ rfl _ _ 86 rfl (nb + 1) 2 i0 (.int .i64 0) 1 8 Try.underlying86 HI.out.1 HI.out.2.1 HI.out.2.2.1 HI.out.2.2.2 rfl (by decide) (.slice da k dc) k _ rfl HO.out ⟨wr.heap.size, 0, none⟩ 1 1 [.int .i64 (a + 1 + (rn : Int))] rfl rfl (cell_one_new _ _ _) (by intro u hu; simp at hu; subst hu; rfl) (by unfold maxLen; omega) (by omega) (by simp; omega) ?_)
            intro v' w5 ho hg _ hat
            obtain ⟨a5, c5, rfl, _⟩ := own_form ho
            have hx5 := (HST.out.nbx.alloc (.cells #[.int .i64 (a + 1 + (rn : Int))] 2)).grown hg (fun e => by have := own_lt HST.out.own2 _ e; omega)
            have u2 := hx5.cell 2
            have uf := hx5.frozen 2
            have ul := hx5.lt
            simp at u2
            have H9 : Hid (FlSt w (w5.setCell ⟨nb, 2, none⟩ (.slice a5 (k + 1) c5)) nb #[.bool false, .slice ka0 0 kc0, .slice (some ⟨b, 0, none⟩) ln cc0] (m : Int) ka kn kc a5 (k + 1) c5 ra rn rc (hdL d l k) (stL a d l (k + 1)) R xs) := by
              refine (HST.out.below (below_alloc _ _)).growD hg ?_ (by simpa using hat)
              rw [stL_succ, intL_app]
              have e : (a + 1 + (rn : Int)) = a + ((1 + offR d l k : Nat) : Int) := by rw [HP.out.1]; omega
              rw [e] at ho
              exact ho
            clear ho hg hat hx5 HO HST y2 z0 z1 z2 z3 zf2 zl zt
            go_upto_region 10 with fail
            generalize (w5.setCell ⟨nb, 2, none⟩ (.slice a5 (k + 1) c5)) = W9 at H9 ⊢
            clear u2 uf ul
            by_cases hk00 : k = 0
            · have hq : decide ((0 : Int) < (k : Int)) = false := decide_eq_false (by omega)
              have hq2 : ¬ (0 : Int) < (k : Int) := by omega
              have HE : Hid (hdL d l (k + 1) = hdL d l k ∧ kn = k + 1 - 1) := ⟨by rw [hk00]; rfl, by have := HP.out.2; omega⟩
              clear hk00
              go_upto_region 12 with fail
              obtain ⟨ka', kn', kc', hkn', hst'⟩ : ∃ (ka' : Option Addr) (kn' kc' : Nat), kn' = k + 1 - 1 ∧ FlSt w W9 nb #[.bool false, .slice ka0 0 kc0, .slice (some ⟨b, 0, none⟩) ln cc0] (m : Int) ka' kn' kc' a5 (k + 1) c5 ra rn rc (hdL d l (k + 1)) (stL a d l (k + 1)) R xs := ⟨ka, kn, kc, HE.out.2, by rw [HE.out.1]; exact H9.out⟩
              have HS' : Hid (FlSt w W9 nb #[.bool false, .slice ka0 0 kc0, .slice (some ⟨b, 0, none⟩) ln cc0] (m : Int) ka' kn' kc' a5 (k + 1) c5 ra rn rc (hdL d l (k + 1)) (stL a d l (k + 1)) R xs) := hst'
              have HKn : Hid (kn' = k + 1 - 1) := hkn'
              have y2 := hst'.tb.cell 2
              have zt := hst'.tb.lt
              simp at y2
              obtain ⟨lf1, ka1, kn1, kc1, ca1, cn1, cc1, c0, c1, c2, hna⟩ := HKid.out W9 hst'.bel k hlk
              have HNA : Hid (NA W9 d l[k] (.agg #[.bool lf1, .slice ka1 kn1 kc1, .slice ca1 cn1 cc1])) := hna
              have hoff := offR_le d l k hlk
              have HSum : Hid (rn + nodesR d l[k] ≤ (l.map (nodesR d)).sum) := by
                show rn + nodesR d l[k] ≤ (l.map (nodesR d)).sum
                rw [HP.out.1]
                exact hoff
              have HCall : Hid (∀ W, NA W d l[k] (.agg #[.bool lf1, .slice ka1 kn1 kc1, .slice ca1 cn1 cc1]) → Calls Try.prog 49 #[.agg #[.bool lf1, .slice ka1 kn1 kc1, .slice ca1 cn1 cc1], .int .i64 (a + 1 + (rn : Int))] W (RetFlat W d l[k] (a + 1 + (rn : Int)))) := fun W hW => by
                obtain ⟨h', hb'⟩ := HBk.out k hlk
                refine HIH.out l[k] _ h' _ W hW ?_ ?_ hb' (by omega) ?_
                · have := HNs.out.1
                  omega
                · have := kid_keys_le d l k hlk
                  have := HML.out
                  omega
                · have := HNs.out.2
                  have := HSum.out
                  omega
              clear hst' hkn' hna hoff H9
              go_wp2_with fail
              refine (HCall.out _ HNA.out).mono ?_
              rintro e w2 ⟨ra2, rc2, G, ys, he, hb2, ho2, hf2, ht2⟩
              obtain ⟨n2, hn2⟩ : ∃ n2, n2 = nodesR d l[k] := ⟨_, rfl⟩
              have hn20 : n2 ≠ 0 := by have := nodes_pos d l[k]; omega
              rw [← hn2] at he ho2 hf2
              subst he
              obtain ⟨a6, c6, e6, hfo⟩ := own_form ho2
              obtain ⟨g2, eg2, hg21, hg22, hg23⟩ := hfo hn20
              injection e6 with e6 e62 e63
              clear e62 e63
              rw [← e6] at eg2
              subst eg2
              have HTG : Hid (Tells G (a + 1 + (rn : Int)) d l[k] 0 ∧ n2 = nodesR d l[k]) := ⟨ht2, hn2⟩
              have HF2 : Hid (FlAt (fun b => W9.heap.size ≤ b) w2 n2 G ys) := hf2
              have HCe : Hid (∀ j u, ys[j]? = some u → w2.cell? ((⟨g2, 0, none⟩ : Addr).add j) = some u) := fun j u hj => by
                rw [add0_eq]
                exact hg23 j u hj
              have HB2 : Hid (Below W9.heap.size W9 w2) := hb2
              have hn2b : n2 ≤ 6000 := by have := HSum.out; have := HNs.out.1; omega
              have hzz := HS'.out.nbx.lt
              have hzz2 := hb2.size
              obtain ⟨i1, hi, hz0, hz1, hz2⟩ := info_parts Try.info88
              have HI1 : Hid (Try.prog.info? 88 = some i1 ∧ i1.zero = some (.agg #[.bool false, .slice none 0 0, .slice none 0 0, .int .i64 0]) ∧ i1.size = 4 ∧ i1.bytes = 64) := ⟨hi, hz0, hz1, hz2⟩
              clear hi hz0 hz1 hz2 hb2 ho2 hf2 ht2 hfo hg23 hn2 y2 c0 c1 c2 HCall HNA e6
              go_wp2_with (at_builtin; (refine wpList_append_own_at _ rfl _ _ 23 rfl (nb + 1) 88 i1 _ 4 64 Try.underlying23 HI1.out.1 HI1.out.2.1 HI1.out.2.2.1 HI1.out.2.2.2 rfl (by decide) (.slice ra rn rc) rn xs rfl (HS'.out.below HB2.out).own3 ⟨g2, 0, none⟩ n2 rc2 ys rfl HF2.out.1 HCe.out HF2.out.oneCell (by unfold maxLen; omega) (by omega) (by omega) ?_))
              intro v' w5' ho hg _ hat
              obtain ⟨a7, c7, rfl, _⟩ := own_form ho
              have HX : Hid (FlSt w w5' nb #[.bool false, .slice ka0 0 kc0, .slice (some ⟨b, 0, none⟩) ln cc0] (m : Int) ka' kn' kc' a5 (k + 1) c5 a7 (rn + n2) c7 (hdL d l (k + 1)) (stL a d l (k + 1)) (catN rn R G) (xs ++ ys)) := HS'.out.growR HB2.out hg HF2.out ho hat
              have HTT : Hid (∀ j (h : j < l.length), j < k + 1 → Tells (catN rn R G) (a + 1) d l[j] (offR d l j)) := by
                intro j hj hjk
                by_cases e : j = k
                · subst e
                  have q := Tells.shift (F := catN rn R G) (G := G) (base := a + 1) (s := rn) (x := 0) (fun i _ hi => by
                    unfold catN
                    rw [if_neg (by omega), show i + rn - rn = i by omega]
                    exact SameN.refl _) HTG.out.1
                  rw [← HP.out.1]
                  simpa using q
                · refine Tells.congr (fun i _ hi => ?_) (HT.out j hj (by omega))
                  have h1 := offR_succ d l j hj
                  have h2 := offR_mono d l (j := j + 1) (k := k) (by omega) (by omega)
                  have h3 := HP.out.1
                  unfold catN
                  rw [if_pos (by omega)]
                  exact SameN.refl _
              have HRN : Hid (rn + n2 = offR d l (k + 1)) := by
                show rn + n2 = offR d l (k + 1)
                rw [offR_succ d l k hlk, HP.out.1, HTG.out.2]
              clear ho hg hat HS' HT HTG HF2 HCe HB2
              go_wp2
              go_roundw
              case rel => exact ⟨k + 1, kn', rn + n2, ka', a5, a7, kc', c5, c7, catN rn R G, xs ++ ys, by omega, by go_num, rfl, HRN.out, HKn.out, HX.out, HTT.out⟩
              case measure => simp [intOf]; omega
            · have hq : decide ((0 : Int) < (k : Int)) = true := decide_eq_true (by omega)
              have hq2 : (0 : Int) < (k : Int) := by omega
              have hq3 : 0 < k := by omega
              have hq4 : decide (0 < k) = true := decide_eq_true hq3
              have HE : Hid (hdL d l (k + 1) = hdL d l k ++ [hd d l k] ∧ kn + 1 = k + 1 - 1) := ⟨hdL_succ d l k (by omega), by have := HP.out.2; omega⟩
              have hkn9 : kn ≤ 6000 := by have := HP.out.2; omega
              have y2 := H9.out.tb.cell 2
              have z1 := H9.out.nbx.cell 1
              have zf1 := H9.out.nbx.frozen 1
              have zl := H9.out.nbx.lt
              have zt := H9.out.tb.lt
              simp at y2 z1
              obtain ⟨lf1, ka1, kn1, kc1, ca1, cn1, cc1, c0, c1, c2, hna⟩ := HKid.out W9 H9.out.bel k hlk
              obtain ⟨mk, hmk⟩ : ∃ mk, mk = (keysR d l[k]).length := ⟨_, rfl⟩
              have hmk0 : 0 < mk := by
                obtain ⟨h', hb'⟩ := HBk.out k hlk
                rw [hmk]
                exact bal_pos hb'
              have hmkI : (0 : Int) < (mk : Int) := by omega
              have HKK : Hid (∀ W, Below W9.heap.size W9 W → Calls Try.prog 43 #[.agg #[.bool lf1, .slice ka1 kn1 kc1, .slice ca1 cn1 cc1]] W (fun e w' => ∃ g2 c2, e = .returned (.slice (some ⟨g2, 0, none⟩) mk c2) ∧ Below W.heap.size W w' ∧ w'.cell? ⟨g2, 0, none⟩ = some (.string (hd d l k)))) := fun W hW => by
                refine (keys_any6 d l[k] _ W (NA.below hna hW) ?_ ?_).mono (fun e w' hr => ?_)
                · have h1 := offR_le d l k hlk
                  have := HNs.out.1
                  omega
                · have := kid_keys_le d l k hlk
                  have := HML.out
                  omega
                · obtain ⟨a1, c1, e1, ho1, hb1, _⟩ := hr
                  rw [← hmk] at e1 ho1
                  rcases ho1 with h0 | ⟨g, rfl, _, hrow⟩
                  · omega
                  · refine ⟨g, c1, e1, hb1, ?_⟩
                    rw [hd_get d l k hlk]
                    exact hrow.cell hmk0
              have hbW : b < W9.heap.size := World.block_lt_of_cell? _ _ c0
              have HF : Hid (∀ W, Below W9.heap.size W9 W → W.cell? ⟨nb, 1, none⟩ = some (.slice ka kn kc) ∧ W.cell? ⟨w.heap.size, 2, none⟩ = some (.slice (some ⟨b, 0, none⟩) ln cc0) ∧ W.cell? ⟨b, k * 3, none⟩ = some (.bool lf1) ∧ W.cell? ⟨b, k * 3 + 1, none⟩ = some (.slice ka1 kn1 kc1) ∧ W.cell? ⟨b, k * 3 + 2, none⟩ = some (.slice ca1 cn1 cc1)) := fun W hW => ⟨(hW.cell (p := ⟨nb, _, none⟩) zl).trans z1, (hW.cell (p := ⟨w.heap.size, _, none⟩) zt).trans y2, (hW.cell (p := ⟨b, _, none⟩) hbW).trans c0, (hW.cell (p := ⟨b, _, none⟩) hbW).trans c1, (hW.cell (p := ⟨b, _, none⟩) hbW).trans c2⟩
              have hbw : b < w.heap.size := hbl
              have HF2 : Hid (∀ Wa Wb, Below W9.heap.size W9 Wa → Wa.grownBy Wb (Value.slice ka kn kc).ownBlock → Wb.cell? ⟨nb, 1, none⟩ = some (.slice ka kn kc) ∧ Wb.cell? ⟨w.heap.size, 2, none⟩ = some (.slice (some ⟨b, 0, none⟩) ln cc0) ∧ Wb.cell? ⟨b, k * 3, none⟩ = some (.bool lf1) ∧ Wb.cell? ⟨b, k * 3 + 1, none⟩ = some (.slice ka1 kn1 kc1) ∧ Wb.cell? ⟨b, k * 3 + 2, none⟩ = some (.slice ca1 cn1 cc1)) := fun Wa Wb hW hg => by
                obtain ⟨q1, q2, q3, q4, q5⟩ := HF.out Wa hW
                have hs := hW.size
                have hlo := own_lt H9.out.own1
                have hlt9 := H9.out.lt
                exact ⟨hg.cell q1 (fun e => by have := hlo nb e.symm; omega), hg.cell q2 (fun e => by have := hlo w.heap.size e.symm; omega), hg.cell q3 (fun e => by have := hlo b e.symm; omega), hg.cell q4 (fun e => by have := hlo b e.symm; omega), hg.cell q5 (fun e => by have := hlo b e.symm; omega)⟩
              have HW : Hid (FlSt w W9 nb #[.bool false, .slice ka0 0 kc0, .slice (some ⟨b, 0, none⟩) ln cc0] (m : Int) ka kn kc a5 (k + 1) c5 ra rn rc (hdL d l k) (stL a d l (k + 1)) R xs) := H9.out
              clear hna hmk
              go_wp2
              refine wp_region_late (S := fun w' => w'.cell? ⟨nb, 1, none⟩ = some (.slice ka kn kc) ∧ w'.cell? ⟨w.heap.size, 2, none⟩ = some (.slice (some ⟨b, 0, none⟩) ln cc0) ∧ w'.cell? ⟨b, k * 3, none⟩ = some (.bool lf1) ∧ w'.cell? ⟨b, k * 3 + 1, none⟩ = some (.slice ka1 kn1 kc1) ∧ w'.cell? ⟨b, k * 3 + 2, none⟩ = some (.slice ca1 cn1 cc1)) 13 (by kernel_rfl) ?_ (fun hHeld => ?_)
              · ((try dsimp only); (first | exact HF.out _ (Below.refl _ _).drew | exact HF.out _ HB2.out | exact HF.out _ (HB2.out.trans ((below_alloc _ _).mono HB2.out.size)) | exact HF2.out _ _ (HB2.out.trans ((below_alloc _ _).mono HB2.out.size)) hg3))
              refine late_take 0 .zero (v := ?_) (by kernel_rfl) (by kernel_rfl) (by kernel_rfl) (by kernel_rfl) (fun _ _ _ h => h) (by rfl) ?_ (by assumption) ?_
              rotate_left
              · (intro w hSw; (try dsimp only at hSw); go_simp) <;> with_reducible rfl
              simp only [Act.put, List.setIfInBounds_toArray, List.set_cons_zero, List.set_cons_succ]
              refine late_take 1 (.succ .zero) (v := ?_) (by kernel_rfl) (by kernel_rfl) (by kernel_rfl) (by kernel_rfl) (fun _ _ _ h => h) (by rfl) ?_ (by assumption) ?_
              rotate_left
              · (intro w hSw; (try dsimp only at hSw); go_simp) <;> with_reducible rfl
              simp only [Act.put, List.setIfInBounds_toArray, List.set_cons_zero, List.set_cons_succ]
              refine late_take 2 (.succ (.succ .zero)) (v := ?_) (by kernel_rfl) (by kernel_rfl) (by kernel_rfl) (by kernel_rfl) (fun _ _ _ h => h) (by rfl) ?_ (by assumption) ?_
              rotate_left
              · (intro w hSw; (try dsimp only at hSw); go_simp) <;> with_reducible rfl
              simp only [Act.put, List.setIfInBounds_toArray, List.set_cons_zero, List.set_cons_succ]
              refine late_take 3 (.succ (.succ (.succ .zero))) (v := ?_) (by kernel_rfl) (by kernel_rfl) (by kernel_rfl) (by kernel_rfl) (fun _ _ _ h => h) (by rfl) ?_ (by assumption) ?_
              rotate_left
              · (intro w hSw; (try dsimp only at hSw); go_simp) <;> with_reducible rfl
              simp only [Act.put, List.setIfInBounds_toArray, List.set_cons_zero, List.set_cons_succ]
              refine late_take 4 (.succ (.succ (.succ (.succ .zero)))) (v := ?_) (by kernel_rfl) (by kernel_rfl) (by kernel_rfl) (by kernel_rfl) (fun _ _ _ h => h) (by rfl) ?_ (by assumption) ?_
              rotate_left
              · (intro w hSw; (try dsimp only at hSw); go_simp) <;> with_reducible rfl
              simp only [Act.put, List.setIfInBounds_toArray, List.set_cons_zero, List.set_cons_succ]
              refine late_take 5 (.succ (.succ (.succ (.succ (.succ .zero))))) (v := ?_) (by kernel_rfl) (by kernel_rfl) (by kernel_rfl) (by kernel_rfl) (fun _ _ _ h => h) (by rfl) ?_ (by assumption) ?_
              rotate_left
              · (intro w hSw; (try dsimp only at hSw); go_simp) <;> with_reducible rfl
              simp only [Act.put, List.setIfInBounds_toArray, List.set_cons_zero, List.set_cons_succ]
              refine late_take 6 (.succ (.succ (.succ (.succ (.succ (.succ .zero)))))) (v := ?_) (by kernel_rfl) (by kernel_rfl) (by kernel_rfl) (by kernel_rfl) (fun _ _ _ h => h) (by rfl) ?_ (by assumption) ?_
              rotate_left
              · (intro w hSw; (try dsimp only at hSw); go_simp) <;> with_reducible rfl
              simp only [Act.put, List.setIfInBounds_toArray, List.set_cons_zero, List.set_cons_succ]
              refine late_one 7 (.succ (.succ (.succ (.succ (.succ (.succ (.succ .zero))))))) (by kernel_rfl) (fun K hK => ?_)
              refine step_t1 (by rfl) 43 49 _ (by rfl) (.agg #[.bool lf1, .slice ka1 kn1 kc1, .slice ca1 cn1 cc1]) (by rfl) (fun _ _ => by rfl) ?_
              refine (HKK.out _ (Below.refl _ _).drew).mono ?_
              rintro e w2 ⟨gz2, cz2, rfl, hb2, hk0c⟩
              refine ⟨_, rfl, ?_⟩
              have HB2 : Hid (Below W9.heap.size W9 w2) := (Below.refl _ _).drew.trans hb2
              have hsz2 := HB2.out.size
              refine hK.out _ _ ?_ (fun hHeld2 => ?_)
              · (intro _; (try dsimp only); (first | exact HF.out _ (Below.refl _ _).drew | exact HF.out _ HB2.out | exact HF.out _ (HB2.out.trans ((below_alloc _ _).mono HB2.out.size)) | exact HF2.out _ _ (HB2.out.trans ((below_alloc _ _).mono HB2.out.size)) hg3))
              clear hK K
              replace hHeld := hHeld2 (by decide)
              clear hHeld2
              try simp only [Act.put, List.setIfInBounds_toArray, List.set_cons_zero, List.set_cons_succ]
              refine late_take 8 (.succ (.succ (.succ (.succ (.succ (.succ (.succ (.succ .zero)))))))) (v := ?_) (by kernel_rfl) (by kernel_rfl) (by kernel_rfl) (by kernel_rfl) (fun _ _ _ h => h) (by rfl) ?_ (by assumption) ?_
              rotate_left
              · (intro w hSw; (try dsimp only at hSw); go_simp) <;> with_reducible rfl
              simp only [Act.put, List.setIfInBounds_toArray, List.set_cons_zero, List.set_cons_succ]
              refine late_one 9 (.succ (.succ (.succ (.succ (.succ (.succ (.succ (.succ (.succ .zero))))))))) (by kernel_rfl) (fun K hK => ?_)
              go_simp
              refine hK.out _ _ ?_ (fun hHeld2 => ?_)
              · (intro _; (try dsimp only); (first | exact HF.out _ (Below.refl _ _).drew | exact HF.out _ HB2.out | exact HF.out _ (HB2.out.trans ((below_alloc _ _).mono HB2.out.size)) | exact HF2.out _ _ (HB2.out.trans ((below_alloc _ _).mono HB2.out.size)) hg3))
              clear hK K
              replace hHeld := hHeld2 (by decide)
              clear hHeld2
              try simp only [Act.put, List.setIfInBounds_toArray, List.set_cons_zero, List.set_cons_succ]
              refine late_one 10 (.succ (.succ (.succ (.succ (.succ (.succ (.succ (.succ (.succ (.succ .zero)))))))))) (by kernel_rfl) (fun K hK => ?_)
              go_simp
              refine hK.out _ _ ?_ (fun hHeld2 => ?_)
              · (intro _; (try dsimp only); (first | exact HF.out _ (Below.refl _ _).drew | exact HF.out _ HB2.out | exact HF.out _ (HB2.out.trans ((below_alloc _ _).mono HB2.out.size)) | exact HF2.out _ _ (HB2.out.trans ((below_alloc _ _).mono HB2.out.size)) hg3))
              clear hK K
              replace hHeld := hHeld2 (by decide)
              clear hHeld2
              try simp only [Act.put, List.setIfInBounds_toArray, List.set_cons_zero, List.set_cons_succ]
              refine late_one 11 (.succ (.succ (.succ (.succ (.succ (.succ (.succ (.succ (.succ (.succ (.succ .zero))))))))))) (by kernel_rfl) (fun K hK => ?_)
              refine step_append_str (by rfl) (.tmp 44) (.tmp 53) (by rfl) (nb + 1) (.slice ka kn kc) kn _ (by rfl) (own_below (HW.out.below HB2.out).own1 (below_alloc _ _)) ⟨w2.heap.size, 0, none⟩ (hd d l k) (by rfl) (cell_one_new w2 (.string (hd d l k)) 9 0 _ rfl) (by omega) (by simp; omega) ?_
              intro v3 w3 ho3 hg3 hat3
              obtain ⟨a3, c3, rfl, _⟩ := own_form ho3
              have HW3 : Hid (Below W9.heap.size W9 (w2.alloc (.cells #[.string (hd d l k)] 9))) := HB2.out.trans ((below_alloc _ _).mono HB2.out.size)
              have hx3 := ((HW.out.below HW3.out).nbx.grown hg3 (fun e => by have := own_lt HW.out.own1 _ e; omega))
              have c31 := hx3.cell 1
              have f31 := hx3.frozen 1
              have l31 := hx3.lt
              simp at c31
              refine hK.out _ _ ?_ (fun hHeld2 => ?_)
              · (intro _; (try dsimp only); (first | exact HF.out _ (Below.refl _ _).drew | exact HF.out _ HB2.out | exact HF.out _ (HB2.out.trans ((below_alloc _ _).mono HB2.out.size)) | exact HF2.out _ _ (HB2.out.trans ((below_alloc _ _).mono HB2.out.size)) hg3))
              clear hK K
              replace hHeld := hHeld2 (by decide)
              clear hHeld2
              try simp only [Act.put, List.setIfInBounds_toArray, List.set_cons_zero, List.set_cons_succ]
              refine late_take 12 (.succ (.succ (.succ (.succ (.succ (.succ (.succ (.succ (.succ (.succ (.succ (.succ .zero)))))))))))) (v := ?_) (by kernel_rfl) (by kernel_rfl) (by kernel_rfl) (by kernel_rfl) (fun _ _ _ h => h) (by rfl) ?_ (by assumption) ?_
              rotate_left
              · (intro w hSw; (try dsimp only at hSw); go_simp) <;> with_reducible rfl
              simp only [Act.put, List.setIfInBounds_toArray, List.set_cons_zero, List.set_cons_succ]
              refine late_one 13 (.succ (.succ (.succ (.succ (.succ (.succ (.succ (.succ (.succ (.succ (.succ (.succ (.succ .zero))))))))))))) (by kernel_rfl) (fun K hK => ?_)
              go_simp
              refine hK.out _ _ ?_ (fun hHeld2 => ?_)
              · (intro hne; exact absurd rfl hne)
              clear hK K hHeld2
              refine wpLate_done (by kernel_rfl) ?_ _
              have HX : Hid (FlSt w (w3.setCell ⟨nb, 1, none⟩ (.slice a3 (kn + 1) c3)) nb #[.bool false, .slice ka0 0 kc0, .slice (some ⟨b, 0, none⟩) ln cc0] (m : Int) a3 (kn + 1) c3 a5 (k + 1) c5 ra rn rc (hdL d l (k + 1)) (stL a d l (k + 1)) R xs) := by
                refine (HW.out.below HW3.out).growK hg3 ?_ (by simpa using hat3)
                rw [HE.out.1, strL_app]
                exact ho3
              clear ho3 hg3 hat3 hx3
              clear hHeld
              go_upto_region 12 with fail
              obtain ⟨ka', kn', kc', hkn', hst'⟩ : ∃ (ka' : Option Addr) (kn' kc' : Nat), kn' = k + 1 - 1 ∧ FlSt w (w3.setCell ⟨nb, 1, none⟩ (.slice a3 (kn + 1) c3)) nb #[.bool false, .slice ka0 0 kc0, .slice (some ⟨b, 0, none⟩) ln cc0] (m : Int) ka' kn' kc' a5 (k + 1) c5 ra rn rc (hdL d l (k + 1)) (stL a d l (k + 1)) R xs := ⟨a3, kn + 1, c3, HE.out.2, HX.out⟩
              clear HX HW HW3 HF HF2 HKK HB2 c31 f31 l31 y2 z1 zf1 zl zt c0 c1 c2 hk0c hb2 hsz2 hmk0 hmkI
              clear H9
              have H9 : Hid True := trivial
              generalize (w3.setCell ⟨nb, 1, none⟩ (.slice a3 (kn + 1) c3)) = WX at hst' ⊢
              have HS' : Hid (FlSt w WX nb #[.bool false, .slice ka0 0 kc0, .slice (some ⟨b, 0, none⟩) ln cc0] (m : Int) ka' kn' kc' a5 (k + 1) c5 ra rn rc (hdL d l (k + 1)) (stL a d l (k + 1)) R xs) := hst'
              have HKn : Hid (kn' = k + 1 - 1) := hkn'
              have y2 := hst'.tb.cell 2
              have zt := hst'.tb.lt
              simp at y2
              obtain ⟨lf1, ka1, kn1, kc1, ca1, cn1, cc1, c0, c1, c2, hna⟩ := HKid.out WX hst'.bel k hlk
              have HNA : Hid (NA WX d l[k] (.agg #[.bool lf1, .slice ka1 kn1 kc1, .slice ca1 cn1 cc1])) := hna
              have hoff := offR_le d l k hlk
              have HSum : Hid (rn + nodesR d l[k] ≤ (l.map (nodesR d)).sum) := by
                show rn + nodesR d l[k] ≤ (l.map (nodesR d)).sum
                rw [HP.out.1]
                exact hoff
              have HCall : Hid (∀ W, NA W d l[k] (.agg #[.bool lf1, .slice ka1 kn1 kc1, .slice ca1 cn1 cc1]) → Calls Try.prog 49 #[.agg #[.bool lf1, .slice ka1 kn1 kc1, .slice ca1 cn1 cc1], .int .i64 (a + 1 + (rn : Int))] W (RetFlat W d l[k] (a + 1 + (rn : Int)))) := fun W hW => by
                obtain ⟨h', hb'⟩ := HBk.out k hlk
                refine HIH.out l[k] _ h' _ W hW ?_ ?_ hb' (by omega) ?_
                · have := HNs.out.1
                  omega
                · have := kid_keys_le d l k hlk
                  have := HML.out
                  omega
                · have := HNs.out.2
                  have := HSum.out
                  omega
              clear hst' hkn' hna hoff H9
              go_wp2_with fail
              refine (HCall.out _ HNA.out).mono ?_
              rintro e w2 ⟨ra2, rc2, G, ys, he, hb2, ho2, hf2, ht2⟩
              obtain ⟨n2, hn2⟩ : ∃ n2, n2 = nodesR d l[k] := ⟨_, rfl⟩
              have hn20 : n2 ≠ 0 := by have := nodes_pos d l[k]; omega
              rw [← hn2] at he ho2 hf2
              subst he
              obtain ⟨a6, c6, e6, hfo⟩ := own_form ho2
              obtain ⟨g2, eg2, hg21, hg22, hg23⟩ := hfo hn20
              injection e6 with e6 e62 e63
              clear e62 e63
              rw [← e6] at eg2
              subst eg2
              have HTG : Hid (Tells G (a + 1 + (rn : Int)) d l[k] 0 ∧ n2 = nodesR d l[k]) := ⟨ht2, hn2⟩
              have HF2 : Hid (FlAt (fun b => WX.heap.size ≤ b) w2 n2 G ys) := hf2
              have HCe : Hid (∀ j u, ys[j]? = some u → w2.cell? ((⟨g2, 0, none⟩ : Addr).add j) = some u) := fun j u hj => by
                rw [add0_eq]
                exact hg23 j u hj
              have HB2 : Hid (Below WX.heap.size WX w2) := hb2
              have hn2b : n2 ≤ 6000 := by have := HSum.out; have := HNs.out.1; omega
              have hzz := HS'.out.nbx.lt
              have hzz2 := hb2.size
              obtain ⟨i1, hi, hz0, hz1, hz2⟩ := info_parts Try.info88
              have HI1 : Hid (Try.prog.info? 88 = some i1 ∧ i1.zero = some (.agg #[.bool false, .slice none 0 0, .slice none 0 0, .int .i64 0]) ∧ i1.size = 4 ∧ i1.bytes = 64) := ⟨hi, hz0, hz1, hz2⟩
              clear hi hz0 hz1 hz2 hb2 ho2 hf2 ht2 hfo hg23 hn2 y2 c0 c1 c2 HCall HNA e6
              go_wp2_with (at_builtin; (refine wpList_append_own_at _ rfl _ _ 23 rfl (nb + 1) 88 i1 _ 4 64 Try.underlying23 HI1.out.1 HI1.out.2.1 HI1.out.2.2.1 HI1.out.2.2.2 rfl (by decide) (.slice ra rn rc) rn xs rfl (HS'.out.below HB2.out).own3 ⟨g2, 0, none⟩ n2 rc2 ys rfl HF2.out.1 HCe.out HF2.out.oneCell (by unfold maxLen; omega) (by omega) (by omega) ?_))
              intro v' w5' ho hg _ hat
              obtain ⟨a7, c7, rfl, _⟩ := own_form ho
              have HX : Hid (FlSt w w5' nb #[.bool false, .slice ka0 0 kc0, .slice (some ⟨b, 0, none⟩) ln cc0] (m : Int) ka' kn' kc' a5 (k + 1) c5 a7 (rn + n2) c7 (hdL d l (k + 1)) (stL a d l (k + 1)) (catN rn R G) (xs ++ ys)) := HS'.out.growR HB2.out hg HF2.out ho hat
              have HTT : Hid (∀ j (h : j < l.length), j < k + 1 → Tells (catN rn R G) (a + 1) d l[j] (offR d l j)) := by
                intro j hj hjk
                by_cases e : j = k
                · subst e
                  have q := Tells.shift (F := catN rn R G) (G := G) (base := a + 1) (s := rn) (x := 0) (fun i _ hi => by
                    unfold catN
                    rw [if_neg (by omega), show i + rn - rn = i by omega]
                    exact SameN.refl _) HTG.out.1
                  rw [← HP.out.1]
                  simpa using q
                · refine Tells.congr (fun i _ hi => ?_) (HT.out j hj (by omega))
                  have h1 := offR_succ d l j hj
                  have h2 := offR_mono d l (j := j + 1) (k := k) (by omega) (by omega)
                  have h3 := HP.out.1
                  unfold catN
                  rw [if_pos (by omega)]
                  exact SameN.refl _
              have HRN : Hid (rn + n2 = offR d l (k + 1)) := by
                show rn + n2 = offR d l (k + 1)
                rw [offR_succ d l k hlk, HP.out.1, HTG.out.2]
              clear ho hg hat HS' HT HTG HF2 HCe HB2
              go_wp2
              go_roundw
              case rel => exact ⟨k + 1, kn', rn + n2, ka', a5, a7, kc', c5, c7, catN rn R G, xs ++ ys, by omega, by go_num, rfl, HRN.out, HKn.out, HX.out, HTT.out⟩
              case measure => simp [intOf]; omega
          · have e : k = ln := by omega
            subst e
            have hkf : ¬ (k : Int) < (k : Int) := by omega
            have hrn0 : rn ≠ 0 := by
              have h1 := HP.out.1
              rw [HLn.out, offR_all] at h1
              have h2 := kids_le d l
              have h3 : nodesR (d + 1) (.inr l) = 1 + (l.map (nodesR d)).sum := rfl
              have h4 := HLn.out
              omega
            obtain ⟨a6, c6, e6, hfo⟩ := own_form HST.out.own3
            obtain ⟨g3, eg3, hg31, hg32, hg33⟩ := hfo hrn0
            injection e6 with e6 e62 e63
            clear e62 e63
            rw [← e6] at eg3
            subst eg3
            have HO : Hid ((wr.alloc (.cells #[.bool false, .slice ka kn kc, .slice da k dc, .int .i64 (m : Int)] 88)).ownsRow wr.heap.size 88 4 (.slice (some ⟨wr.heap.size, 0, none⟩) 1 1) 1 [.bool false, .slice ka kn kc, .slice da k dc, .int .i64 (m : Int)]) :=
              ⟨rfl, Or.inr ⟨wr.heap.size, 1, #[.bool false, .slice ka kn kc, .slice da k dc, .int .i64 (m : Int)], rfl, Nat.le_refl _, blk_alloc_new _ _, Nat.le_refl _, by unfold maxLen; omega, rfl, rfl⟩⟩
            have HCe : Hid (∀ j u, xs[j]? = some u → (wr.alloc (.cells #[.bool false, .slice ka kn kc, .slice da k dc, .int .i64 (m : Int)] 88)).cell? ((⟨g3, 0, none⟩ : Addr).add j) = some u) := fun j u hj => by
              rw [add0_eq, (below_alloc wr _).cell (p := ⟨g3, j, none⟩) hg32]
              exact hg33 j u hj
            obtain ⟨i1, hi, hz0, hz1, hz2⟩ := info_parts Try.info88
            have HI1 : Hid (Try.prog.info? 88 = some i1 ∧ i1.zero = some (.agg #[.bool false, .slice none 0 0, .slice none 0 0, .int .i64 0]) ∧ i1.size = 4 ∧ i1.bytes = 64) := ⟨hi, hz0, hz1, hz2⟩
            clear hi hz0 hz1 hz2 hfo hg33 e6 hlt hk
            go_wp2_with (at_builtin; refine wpList_append_own_at _ rfl _ _ 23 rfl wr.heap.size 88 i1 _ 4 64 Try.underlying23 HI1.out.1 HI1.out.2.1 HI1.out.2.2.1 HI1.out.2.2.2 rfl (by decide) (.slice (some ⟨wr.heap.size, 0, none⟩) 1 1) 1 _ rfl HO.out ⟨g3, 0, none⟩ rn rc xs rfl HST.out.fl.1 HCe.out HST.out.fl.oneCell (by unfold maxLen; omega) (by omega) (by simp) ?_)
            intro v' w5 ho hg _ hat
            obtain ⟨a7, c7, rfl, _⟩ := own_form ho
            have hns : nodesR (d + 1) (.inr l) = 1 + rn := by
              have h1 := HP.out.1
              rw [HLn.out, offR_all] at h1
              rw [h1]
              rfl
            have HB5 : Hid (Below wr.heap.size wr w5) := (below_alloc _ _).grown hg (by simp) (fun g e => by simp [Value.ownBlock] at e; omega)
            have HO5 : Hid (w5.ownsRow wr.heap.size 88 4 (.slice a7 (1 + rn) c7) (1 + rn) ([.bool false, .slice ka kn kc, .slice da k dc, .int .i64 (m : Int)] ++ xs)) := ho
            have HNs2 : Hid (nodesR (d + 1) (.inr l) = 1 + rn) := hns
            clear ho hg hat hns HO HCe y2 z0 z1 z2 z3 zf2
            go_wp2
            go_ret
            have hst := HST.out
            have hb5 := HB5.out
            have hl1 := hst.lt
            have hkl : k = l.length := HLn.out
            have hkn : kn = k - 1 := HP.out.2
            rw [show RetFlat w (d + 1) (.inr l) a = RetFlat w (d + 1) (Sum.inr l : Ro (d + 1)) a from rfl]
            refine ⟨a7, c7, catN 1 (fun _ => ⟨false, kn, gt (hdL d l k), k, gi (stL a d l k), (m : Int)⟩) R, [.bool false, .slice ka kn kc, .slice da k dc, .int .i64 (m : Int)] ++ xs, by rw [HNs2.out]; rfl, hst.bel.trans (hb5.mono hst.bel.size), ?_, ?_, ?_⟩
            · rw [HNs2.out]
              obtain ⟨q1, q2⟩ := HO5.out
              refine ⟨q1, ?_⟩
              rcases q2 with q2 | ⟨g, cap, cur, r1, r2, r3⟩
              · exact Or.inl q2
              · exact Or.inr ⟨g, cap, cur, r1, by have := hst.bel.size; omega, r3⟩
            · rw [HNs2.out]
              refine FlAt.app (FlAt.one ⟨rfl, rfl, ka, kc, da, dc, rfl, rfl, ?_, ?_⟩) (hst.fl.mono hb5.size (fun b hs hlt => ⟨by have := hs.1; show w.heap.size ≤ b; omega, hb5.block b hlt⟩))
              · exact (own_rdS (S := fun b => nb + 1 ≤ b) hst.own1 (by rw [hdL_length]; exact hkn) (fun b hb => hb)).mono hb5.size (fun b hs hlt => ⟨by show w.heap.size ≤ b; omega, hb5.block b hlt⟩)
              · exact (own_rdI (S := fun b => nb + 1 ≤ b) hst.own2 (by rw [stL_length]) (fun b hb => hb)).mono hb5.size (fun b hs hlt => ⟨by show w.heap.size ≤ b; omega, hb5.block b hlt⟩)
            · refine ⟨rfl, hkl, ?_, ?_, fun j hj => ?_, fun j hj => ?_, fun j hj => ?_⟩
              · show (m : Int) = ((l.flatMap (keysR d)).length : Int)
                rw [HML.out]
              · show kn + 1 = l.length
                omega
              · show gi (stL a d l k) j = a + ((0 + 1 + offR d l j : Nat) : Int)
                rw [gi_stL a d l k j (by omega), Nat.zero_add]
              · show gt (hdL d l k) j = gt (keysR d l[j + 1]) 0
                rw [gt_hdL d l k j (by omega), hd_get d l (j + 1) hj]
              · have q := Tells.shift (F := catN 1 (fun _ => ⟨false, kn, gt (hdL d l k), k, gi (stL a d l k), (m : Int)⟩) R) (G := R) (base := a) (s := 1) (x := offR d l j) (fun i _ _ => by
                  unfold catN
                  rw [if_neg (by omega), show i + 1 - 1 = i by omega]
                  exact SameN.refl _) (HT.out j hj (by omega))
                rw [show 0 + 1 + offR d l j = offR d l j + 1 by omega]
                exact q
end Go.Proofs.Ytakemeccigpbaaa

namespace Go.Proofs.Ytakemeccigpbaaa
open Go.RowKit Go.Deep
set_option linter.unusedVariables false
set_option maxRecDepth 100000

theorem sum_split {d : Nat} (l : List (Ro d)) (i : Nat) (hi : i < l.length) (r : List (Ro d)) : ((l.take i ++ r ++ l.drop (i + 1)).map (nodesR d)).sum + nodesR d l[i] = (l.map (nodesR d)).sum + (r.map (nodesR d)).sum := by
  have e : l = l.take i ++ [l[i]] ++ l.drop (i + 1) := by
    rw [List.append_assoc, List.singleton_append, List.getElem_cons_drop, List.take_append_drop]
  have e2 : (l.map (nodesR d)).sum = ((l.take i).map (nodesR d)).sum + nodesR d l[i] + ((l.drop (i + 1)).map (nodesR d)).sum := by
    conv => lhs; rw [e]
    rw [List.map_append, List.map_append, List.sum_append, List.sum_append]
    simp
  rw [e2, List.map_append, List.map_append, List.sum_append, List.sum_append]
  omega

/-- How many nodes there are more, at most. -/
theorem InsR.nodes {key : ByteArray} : ∀ {d : Nat} {t : Ro d} {rs : List (Ro d)}, InsR key d t rs → (rs.map (nodesR d)).sum ≤ nodesR d t + d
  | 0, t, _, _ => t.elim
  | d + 1, .inl ks, rs, h => by
    rw [InsR_inl] at h
    subst h
    unfold splL
    split
    · show 1 + 0 ≤ 1 + (d + 1); omega
    · show 1 + (1 + 0) ≤ 1 + (d + 1); omega
  | d + 1, .inr l, rs, h => by
    rw [InsR_inr] at h
    obtain ⟨i, _, hi, r', h1, rfl⟩ := h
    have q := InsR.nodes h1
    have q2 := sum_split l i hi r'
    generalize l.take i ++ r' ++ l.drop (i + 1) = M at q2
    have hn : nodesR (d + 1) (.inr l) = 1 + (l.map (nodesR d)).sum := rfl
    rw [hn]
    unfold splL
    split
    · show (1 + (M.map (nodesR d)).sum) + 0 ≤ _
      omega
    · show (1 + ((M.take 3).map (nodesR d)).sum) + ((1 + ((M.drop 3).map (nodesR d)).sum) + 0) ≤ _
      have e : ((M.take 3).map (nodesR d)).sum + ((M.drop 3).map (nodesR d)).sum = (M.map (nodesR d)).sum := by
        rw [← List.sum_append, ← List.map_append, List.take_append_drop]
      omega

/-- How many nodes the tree has then. -/
def insN (rs : List (Ro 21)) : Nat := if rs.length ≤ 1 then (rs.map (nodesR 21)).sum else 1 + (rs.map (nodesR 21)).sum
/-- The row tells what comes of it. -/
def InsT (M : Nat → Tn) : List (Ro 21) → Prop
  | [y] => Tells M 0 21 y 0
  | [y, z] => Tells M 0 22 (.inr [y, z]) 0
  | _ => False
/-- A key can be put into the tree that the row tells; and the row that tells it then. -/
def InsTo (n : Nat) (N : Nat → Tn) (key : ByteArray) (m : Nat) (M : Nat → Tn) : Prop :=
  ∃ t rs, VTt n N t ∧ key.size ≤ 16 ∧ key ∉ keysR 21 t ∧ InsR key 21 t rs ∧ m = insN rs ∧ m ≤ 5000 ∧ InsT M rs
def InsNo (n : Nat) (N : Nat → Tn) (key : ByteArray) : Prop :=
  ∀ t rs, VTt n N t → key.size ≤ 16 → key ∉ keysR 21 t → InsR key 21 t rs → 5000 < insN rs
/-- What TreeInsert hands back. -/
def RetTr (w : World) (n : Nat) (N : Nat → Tn) (key : ByteArray) (e : Ending) (w' : World) : Prop :=
  Below w.heap.size w w' ∧ ∃ ok a m c M, e = .returned (.agg #[.bool ok, .slice a m c]) ∧ RdTn w' a m M ∧ ((ok = true ∧ InsTo n N key m M) ∨ (ok = false ∧ m = n ∧ M = N ∧ InsNo n N key))

theorem VTt.fn {n : Nat} {N : Nat → Tn} {t t' : Ro 21} (h : VTt n N t) (h' : VTt n N t') : t = t' := by
  have q := h.2.2.1
  rw [h'.2.2.1] at q
  injection q with q
  injection q with q _
  exact q.symm

abbrev capC (n c : Nat) : Prop := n ≤ c ∧ c ≤ 9223372036854775807

end Go.Proofs.Ytakemeccigpbaaa
