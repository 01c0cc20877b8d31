import Derived.Test.YtcnollkkigiobaaGreatTiR
import Derived.Deep.RegionHeld3
import Derived.Test.YtcnollkkigiobaaGreatXqS
namespace Go.Proofs.YtcnollkkigiobaaGreat
open Go.RowKit Go.Deep
set_option linter.unusedVariables false
set_option maxRecDepth 100000

/-- Keys that ascend. -/
def Asc (L : List ByteArray) : Prop := L.Pairwise (fun a b => Op.bytesLess a.toList b.toList = true)
/-- How many keys are less than a key. -/
def cntL (key : ByteArray) (L : List ByteArray) : Nat := (L.filter (fun k => Op.bytesLess k.toList key.toList)).length

theorem asc_of_ascK {L : List ByteArray} (h : AscK L L.length) : Asc L := by
  unfold Asc
  rw [List.pairwise_iff_getElem]
  intro i j hi hj hij
  have q := asc_less (X := gt L) (k := L.length) (fun m hm h0 => (h m hm).2 h0) j hj i hij
  unfold gt at q
  rw [List.getD_eq_getElem?_getD, List.getD_eq_getElem?_getD, List.getElem?_eq_getElem hi, List.getElem?_eq_getElem hj] at q
  exact q

theorem cntL_app (key : ByteArray) (L M : List ByteArray) : cntL key (L ++ M) = cntL key L + cntL key M := by
  unfold cntL
  rw [List.filter_append, List.length_append]
theorem cntL_all {key : ByteArray} {L : List ByteArray} (h : ∀ k, k ∈ L → Op.bytesLess k.toList key.toList = true) : cntL key L = L.length := by
  unfold cntL
  rw [List.filter_eq_self.2 h]
theorem cntL_none {key : ByteArray} {L : List ByteArray} (h : ∀ k, k ∈ L → Op.bytesLess k.toList key.toList = false) : cntL key L = 0 := by
  unfold cntL
  rw [List.length_eq_zero_iff, List.filter_eq_nil_iff]
  intro k hk
  rw [h k hk]
  simp

/-- Where less and not less part, the count is the place. -/
theorem cntL_at {key : ByteArray} {L : List ByteArray} {i : Nat} (hi : i ≤ L.length) (h1 : ∀ j, j < i → Op.bytesLess (gt L j).toList key.toList = true) (h2 : ∀ j, i ≤ j → j < L.length → Op.bytesLess (gt L j).toList key.toList = false) : cntL key L = i := by
  rw [← List.take_append_drop i L, cntL_app, cntL_all, cntL_none, List.length_take]
  · omega
  · intro k hk
    obtain ⟨j, hj, rfl⟩ := List.getElem_of_mem hk
    rw [List.length_drop] at hj
    have q := h2 (i + j) (by omega) (by omega)
    unfold gt at q
    rw [List.getD_eq_getElem?_getD, List.getElem?_eq_getElem (by omega)] at q
    rw [List.getElem_drop]
    exact q
  · intro k hk
    obtain ⟨j, hj, rfl⟩ := List.getElem_of_mem hk
    rw [List.length_take] at hj
    have q := h1 j (by omega)
    unfold gt at q
    rw [List.getD_eq_getElem?_getD, List.getElem?_eq_getElem (by omega)] at q
    rw [List.getElem_take]
    exact q

theorem gt_mem {L : List ByteArray} {i : Nat} (h : i < L.length) : gt L i ∈ L := by
  unfold gt
  rw [List.getD_eq_getElem?_getD, List.getElem?_eq_getElem h]
  exact List.getElem_mem h

theorem asc_lt {L : List ByteArray} (h : Asc L) {i j : Nat} (hij : i < j) (hj : j < L.length) : Op.bytesLess (gt L i).toList (gt L j).toList = true := by
  have q := List.pairwise_iff_getElem.1 h i j (by omega) hj hij
  unfold gt
  rw [List.getD_eq_getElem?_getD, List.getD_eq_getElem?_getD, List.getElem?_eq_getElem (by omega), List.getElem?_eq_getElem hj]
  exact q

theorem less_asym {a b : List UInt8} (h : Op.bytesLess a b = true) : Op.bytesLess b a = false := by
  cases e : Op.bytesLess b a with
  | false => rfl
  | true =>
    have := less_trans _ _ _ h e
    rw [less_irrefl] at this
    cases this

/-- 'not key < x' and 'x < y' : 'not key <= ..'. -/
theorem less_of_le {x y z : List UInt8} (h : Op.bytesLess y x = false) (h2 : Op.bytesLess y z = true) : Op.bytesLess x z = true := by
  have t := less_total x y
  cases e : Op.bytesLess x y with
  | true => exact less_trans _ _ _ e h2
  | false =>
    rw [h, e] at t
    simp at t
    rw [← t]
    exact h2
theorem less_of_lt_le {x y z : List UInt8} (h : Op.bytesLess x y = true) (h2 : Op.bytesLess z y = false) : Op.bytesLess x z = true := by
  have t := less_total y z
  cases e : Op.bytesLess y z with
  | true => exact less_trans _ _ _ h e
  | false =>
    rw [h2, e] at t
    simp at t
    rw [t]
    exact h

/-- The child that a key belongs to counts for all: those in front are less, those behind are not. -/
theorem cntL_kid {d : Nat} {l : List (Ro d)} {key : ByteArray} {i : Nat} (hi : i < l.length) (ha : Asc (l.flatMap (keysR d))) (hp : ∀ k (h : k < l.length), 0 < (keysR d l[k]).length) (h1 : 0 < i → Op.bytesLess key.toList (gt (keysR d l[i]) 0).toList = false) (h2 : ∀ h : i + 1 < l.length, Op.bytesLess key.toList (gt (keysR d l[i + 1]) 0).toList = true) :
    cntL key (l.flatMap (keysR d)) = ((l.take i).flatMap (keysR d)).length + cntL key (keysR d l[i]) := by
  have e : l = l.take i ++ (l[i] :: l.drop (i + 1)) := by
    conv => lhs; rw [← List.take_append_drop (i + 1) l, ← List.take_append_getElem hi]
    simp
  have ef : l.flatMap (keysR d) = (l.take i).flatMap (keysR d) ++ (keysR d l[i] ++ (l.drop (i + 1)).flatMap (keysR d)) := by
    conv => lhs; rw [e]
    rw [List.flatMap_append, List.flatMap_cons]
  rw [ef] at ha ⊢
  unfold Asc at ha
  rw [List.pairwise_append] at ha
  obtain ⟨_, ha2, ha3⟩ := ha
  rw [List.pairwise_append] at ha2
  obtain ⟨_, ha4, ha5⟩ := ha2
  rw [cntL_app, cntL_app, cntL_all, cntL_none (L := (l.drop (i + 1)).flatMap (keysR d))]
  · rfl
  · intro k hk
    by_cases hl : i + 1 < l.length
    · have h3 := h2 hl
      have hd : l.drop (i + 1) = l[i + 1] :: l.drop (i + 2) := List.drop_eq_getElem_cons hl
      rw [hd, List.flatMap_cons] at hk ha4
      rw [List.pairwise_append] at ha4
      obtain ⟨q1, _, q3⟩ := ha4
      have hf : gt (keysR d l[i + 1]) 0 ∈ keysR d l[i + 1] := gt_mem (hp (i + 1) hl)
      rcases List.mem_append.1 hk with hk | hk
      · obtain ⟨j, hj, rfl⟩ := List.getElem_of_mem hk
        by_cases e0 : j = 0
        · subst e0
          have : (keysR d l[i + 1])[0] = gt (keysR d l[i + 1]) 0 := by
            unfold gt
            rw [List.getD_eq_getElem?_getD, List.getElem?_eq_getElem hj]
            rfl
          rw [this]
          exact less_asym h3
        · have := asc_lt q1 (show 0 < j by omega) hj
          have e1 : (keysR d l[i + 1])[j] = gt (keysR d l[i + 1]) j := by
            unfold gt
            rw [List.getD_eq_getElem?_getD, List.getElem?_eq_getElem hj]
            rfl
          rw [e1]
          exact less_asym (less_trans _ _ _ h3 this)
      · exact less_asym (less_trans _ _ _ h3 (q3 _ hf _ hk))
    · rw [List.drop_eq_nil_of_le (by omega)] at hk
      simp at hk
  · intro k hk
    by_cases h0 : 0 < i
    · have hf : gt (keysR d l[i]) 0 ∈ keysR d l[i] := gt_mem (hp i hi)
      have := ha3 k hk (gt (keysR d l[i]) 0) (List.mem_append_left _ hf)
      exact less_of_lt_le this (h1 h0)
    · have : i = 0 := by omega
      subst this
      simp at hk

theorem asc_kid {d : Nat} {l : List (Ro d)} (ha : Asc (l.flatMap (keysR d))) (i : Nat) (hi : i < l.length) : Asc (keysR d l[i]) := by
  have e : l = l.take i ++ (l[i] :: l.drop (i + 1)) := by
    conv => lhs; rw [← List.take_append_drop (i + 1) l, ← List.take_append_getElem hi]
    simp
  rw [e, List.flatMap_append, List.flatMap_cons] at ha
  unfold Asc at ha ⊢
  rw [List.pairwise_append] at ha
  have := ha.2.1
  rw [List.pairwise_append] at this
  exact this.1
end Go.Proofs.YtcnollkkigiobaaGreat

namespace Go.Proofs.YtcnollkkigiobaaGreat
open Go.RowKit Go.Deep
set_option linter.unusedVariables false
set_option maxRecDepth 100000

set_option maxHeartbeats 400000 in
theorem nanC_any (x : ByteArray) (w : World) : Calls Tryz.prog 218 #[.string x] w fun e w' => e = .returned (.bool false) ∧ w' = w := by
  go_enter Tryz.func218, Tryz.ntmps218
  go_wp2
  go_ret
  exact ⟨by simp, rfl⟩

set_option maxHeartbeats 400000 in
theorem nanS_any (x : ByteArray) (w : World) : Calls Tryz.prog 215 #[.string x] w fun e w' => e = .returned (.bool false) ∧ w' = w := by
  go_enter Tryz.func215, Tryz.ntmps215
  go_wp2
  go_ret
  exact ⟨by simp, rfl⟩

set_option maxHeartbeats 400000 in
theorem lessS_any (x y : ByteArray) (w : World) : Calls Tryz.prog 214 #[.string x, .string y] w fun e w' => e = .returned (.bool (Op.bytesLess x.toList y.toList)) ∧ w' = w := by
  go_enter Tryz.func214, Tryz.ntmps214
  go_wp2_with fail
  refine (nanC_any x _).mono ?_
  rintro e w1 ⟨rfl, rfl⟩
  go_wp2
  go_ret
  exact ⟨by simp, rfl⟩

/-- What BinarySearch gives. -/
def RetBs (L : List ByteArray) (key : ByteArray) (w : World) (e : Ending) (w' : World) : Prop :=
  ∃ (i : Nat) (ok : Bool), e = .returned (.tuple #[.int .i64 (i : Int), .bool ok]) ∧ w' = w ∧ i ≤ L.length ∧ (∀ j, j < i → Op.bytesLess (gt L j).toList key.toList = true) ∧ (∀ j, i ≤ j → j < L.length → Op.bytesLess (gt L j).toList key.toList = false) ∧ (ok = true ↔ i < L.length ∧ gt L i = key)

set_option maxHeartbeats 4000000 in
theorem bs_any (a : Option Addr) (n c : Nat) (L : List ByteArray) (key : ByteArray) (w : World) (h : RdS w a n (gt L)) (hn : n = L.length) (hn2 : n ≤ 1048576) (ha : Asc L) :
    Calls Tryz.prog 211 #[.slice a n c, .string key] w (RetBs L key w) := by
  have HR : Hid (RdS w a n (gt L) ∧ n = L.length ∧ Asc L) := ⟨h, hn, ha⟩
  clear h hn ha
  go_enter Tryz.func211, Tryz.ntmps211
  go_wp2
  go_loopw [7, 8] (fun p q wr => ∃ i j : Nat, i ≤ j ∧ j ≤ n ∧ p = .int .i64 i ∧ q = .int .i64 j ∧ wr = w ∧ (∀ k, k < i → Op.bytesLess (gt L k).toList key.toList = true) ∧ (∀ k, j ≤ k → k < n → Op.bytesLess (gt L k).toList key.toList = false)) (fun p q _ => (intOf q).toNat - (intOf p).toNat)
  case atStart => exact ⟨0, n, Nat.zero_le _, Nat.le_refl _, rfl, rfl, rfl, fun k hk => absurd hk (Nat.not_lt_zero _), fun k h1 h2 => by omega⟩
  case round =>
    obtain ⟨i, j, hij, hjn, rfl, rfl, rfl, h1, h2⟩ := hrel
    have H12 : Hid ((∀ k, k < i → Op.bytesLess (gt L k).toList key.toList = true) ∧ (∀ k, j ≤ k → k < n → Op.bytesLess (gt L k).toList key.toList = false)) := ⟨h1, h2⟩
    clear h1 h2
    by_cases hlt : i < j
    · obtain ⟨m, hm⟩ : ∃ m : Nat, ((i : Int) + (j : Int)) / 2 = (m : Int) := ⟨(i + j) / 2, by omega⟩
      have hm1 : i ≤ m ∧ m < j := by omega
      have hmn : m < n := by omega
      rcases HR.out.1 with q | ⟨bk, ok, rfl, hc⟩
      · omega
      have s1 := hc m hmn
      have hm0 : (0 : Int) ≤ (m : Int) := by omega
      have hmI : (m : Int) < (n : Int) := by omega
      have HL : Hid (m < L.length ∧ n = L.length) := ⟨by rw [← HR.out.2.1]; exact hmn, HR.out.2.1⟩
      clear hc
      go_upto_region 5 with fail
      clear hm
      go_wp2_with fail
      refine (lessS_any (gt L m) key _).mono ?_
      rintro e w1 ⟨rfl, rfl⟩
      cases hls : Op.bytesLess (gt L m).toList key.toList with
      | true =>
        have HN : Hid (∀ k, k < m + 1 → Op.bytesLess (gt L k).toList key.toList = true) := by
          intro k hk
          by_cases e : k = m
          · subst e; exact hls
          · exact less_trans _ _ _ (asc_lt HR.out.2.2 (show k < m by omega) HL.out.1) hls
        go_wp2
        go_roundw
        case rel => exact ⟨m + 1, j, by omega, hjn, by go_num, rfl, trivial, HN.out, H12.out.2⟩
        case measure => simp [intOf]; omega
      | false =>
        have HN : Hid (∀ k, m ≤ k → k < n → Op.bytesLess (gt L k).toList key.toList = false) := by
          intro k hk1 hk2
          by_cases e : k = m
          · subst e; exact hls
          · have q := asc_lt HR.out.2.2 (show m < k by omega) (by rw [← HL.out.2]; exact hk2)
            cases e2 : Op.bytesLess (gt L k).toList key.toList with
            | false => rfl
            | true =>
              have := less_trans _ _ _ q e2
              rw [hls] at this
              cases this
        go_wp2
        go_roundw
        case rel => exact ⟨i, m, by omega, by omega, rfl, rfl, trivial, H12.out.1, HN.out⟩
        case measure => simp [intOf]; omega
    · have e : i = j := by omega
      subst e
      have HB : Hid (i ≤ L.length ∧ (∀ j, j < i → Op.bytesLess (gt L j).toList key.toList = true) ∧ (∀ j, i ≤ j → j < L.length → Op.bytesLess (gt L j).toList key.toList = false)) := ⟨by rw [← HR.out.2.1]; exact hjn, H12.out.1, fun j h1 h2 => H12.out.2 j h1 (by rw [HR.out.2.1]; exact h2)⟩
      have HN : Hid (n = L.length) := HR.out.2.1
      have hif : ¬ (i : Int) < (i : Int) := by omega
      clear H12 hlt hij
      by_cases hin : i < n
      · have i1 : (i : Int) < (n : Int) := by omega
        have i1' : decide ((i : Int) < (n : Int)) = true := decide_eq_true i1
        have i2' : decide (i < n) = true := decide_eq_true hin
        have i0 : (0 : Int) ≤ (i : Int) := by omega
        rcases HR.out.1 with q | ⟨bk, ok, rfl, hc⟩
        · omega
        have s1 := hc i hin
        clear hc
        by_cases heq : gt L i = key
        · have HOk : Hid (∀ q : Bool, q = true → (q = true ↔ i < L.length ∧ gt L i = key)) := fun q hq => ⟨fun _ => ⟨by rw [← HN.out]; exact hin, heq⟩, fun _ => hq⟩
          have hq : ((gt L i).toList == key.toList) = true := by rw [heq]; simp
          clear heq
          go_wp2
          refine bodyPost_ret (v := .tuple #[.int .i64 (i : Int), .bool true]) (by simp [results, Tryz.results211, go_sem]) rfl ⟨i, true, rfl, rfl, HB.out.1, HB.out.2.1, HB.out.2.2, HOk.out _ rfl⟩
        · have HOk : Hid (∀ q : Bool, q = false → (q = true ↔ i < L.length ∧ gt L i = key)) := fun q hq => ⟨fun h => (by rw [hq] at h; cases h), fun h => absurd h.2 heq⟩
          have hq : ((gt L i).toList == key.toList) = false := by
            rw [beq_eq_false_iff_ne]
            exact fun h => heq (str_inj h)
          clear heq
          go_wp2_with fail
          refine (nanS_any (gt L i) _).mono ?_
          rintro e w1 ⟨rfl, rfl⟩
          go_wp2
          refine bodyPost_ret (v := .tuple #[.int .i64 (i : Int), .bool false]) (by simp [results, Tryz.results211, go_sem]) rfl ⟨i, false, rfl, rfl, HB.out.1, HB.out.2.1, HB.out.2.2, HOk.out _ rfl⟩
      · have i1 : ¬ (i : Int) < (n : Int) := by omega
        have i1' : decide ((i : Int) < (n : Int)) = false := decide_eq_false i1
        have i2' : decide (i < n) = false := decide_eq_false hin
        have HOk : Hid (∀ q : Bool, q = false → (q = true ↔ i < L.length ∧ gt L i = key)) := fun q hq => ⟨fun h => (by rw [hq] at h; cases h), fun h => absurd h.1 (by rw [← HN.out]; exact hin)⟩
        go_wp2
        refine bodyPost_ret (v := .tuple #[.int .i64 (i : Int), .bool false]) (by simp [results, Tryz.results211, go_sem]) rfl ⟨i, false, rfl, rfl, HB.out.1, HB.out.2.1, HB.out.2.2, HOk.out _ rfl⟩

set_option maxHeartbeats 1000000 in
theorem rankLeaf_any (b n kc : Nat) (ka : Option Addr) (v0 : Value) (L : List ByteArray) (key : ByteArray) (w : World) (h : Bx w b 206 #[v0, .slice ka n kc]) (hr : RdS w ka n (gt L)) (hn : n = L.length) (hn2 : n ≤ 1048576) (ha : Asc L) :
    Calls Tryz.prog 206 #[.pointer (some ⟨b, 0, none⟩), .string key] w fun e w' => e = .returned (.int .i64 (cntL key L : Int)) ∧ w' = w := by
  have c1 := h.cell 1
  simp at c1
  have HR : Hid (RdS w ka n (gt L) ∧ n = L.length ∧ Asc L) := ⟨hr, hn, ha⟩
  clear h hr hn ha
  go_enter Tryz.func206, Tryz.ntmps206
  go_wp2_with fail
  refine (bs_any ka n kc L key w HR.out.1 HR.out.2.1 hn2 HR.out.2.2).mono ?_
  rintro e w1 ⟨i, ok, rfl, rfl, h1, h2, h3, _⟩
  have HE : Hid (cntL key L = i) := cntL_at h1 h2 h3
  have hi : i ≤ 1048576 := by have := HR.out.2.1; omega
  clear h1 h2 h3
  go_wp2
  go_ret
  exact ⟨by rw [HE.out]; rfl, rfl⟩

/-- What kidFor gives. -/
def RetKf {d : Nat} (l : List (Ro d)) (key : ByteArray) (w : World) (e : Ending) (w' : World) : Prop :=
  ∃ i : Nat, e = .returned (.int .i64 (i : Int)) ∧ w' = w ∧ i < l.length ∧ (∀ h : i < l.length, 0 < i → Op.bytesLess key.toList (gt (keysR d l[i]) 0).toList = false) ∧ (∀ h : i + 1 < l.length, Op.bytesLess key.toList (gt (keysR d l[i + 1]) 0).toList = true)

set_option maxHeartbeats 4000000 in
theorem kidFor_any (d b : Nat) (l : List (Ro d)) (S : Nat → Prop) (h : Nat) (key : ByteArray) (w : World) (ht : TAt S w (d + 1) (.inr l) (.iface 174 (.pointer (some ⟨b, 0, none⟩)))) (hb : ∀ t, t ∈ l → BalR d false t h) (hl4 : l.length ≤ 4) :
    Calls Tryz.prog 193 #[.pointer (some ⟨b, 0, none⟩), .string key] w (RetKf l key w) := by
  obtain ⟨b', g, kc, xs, e, _, hx, _, _, hl, hc, hk⟩ := ht
  injection e with e1 e
  injection e with e
  injection e with e
  injection e with e e3 e4
  clear e1 e3 e4
  subst e
  have HK : Hid (∀ k (h : k < l.length), ∃ u, w.cell? ⟨g, k, none⟩ = some u ∧ ((∃ p, u = .iface 204 (.pointer (some p)) ∧ Calls Tryz.prog 205 #[.pointer (some p)] w fun e w' => e = .returned (.string (gt (keysR d l[k]) 0)) ∧ w' = w) ∨ (∃ p, u = .iface 174 (.pointer (some p)) ∧ Calls Tryz.prog 188 #[.pointer (some p)] w fun e w' => e = .returned (.string (gt (keysR d l[k]) 0)) ∧ w' = w))) := by
    intro k hkl
    obtain ⟨u, hu, ht⟩ := hk k hkl
    refine ⟨u, hc k u hu, ?_⟩
    rcases least_call ht (hb _ (List.getElem_mem hkl)) with ⟨p, e, q⟩ | ⟨p, e, q⟩
    · exact Or.inl ⟨p, e, q w (Below.refl _ _)⟩
    · exact Or.inr ⟨p, e, q w (Below.refl _ _)⟩
  have c1 := hx.cell 1
  simp at c1
  obtain ⟨ln, hln⟩ : ∃ ln, ln = l.length := ⟨_, rfl⟩
  rw [← hln] at c1 hl hl4
  have HLn : Hid (ln = l.length) := hln
  clear hx hc hk hb hln
  go_enter Tryz.func193, Tryz.ntmps193
  go_wp2
  go_loopw [5] (fun i wr => ∃ k : Nat, k < ln ∧ i = .int .i64 k ∧ wr = w ∧ (∀ h : k + 1 < l.length, Op.bytesLess key.toList (gt (keysR d l[k + 1]) 0).toList = true)) (fun i _ => (intOf i).toNat)
  case atStart => exact ⟨ln - 1, by omega, by congr 1; omega, rfl, fun h => by have := HLn.out; omega⟩
  case round =>
    obtain ⟨k, hk, rfl, rfl, hq⟩ := hrel
    have HQ : Hid (∀ h : k + 1 < l.length, Op.bytesLess key.toList (gt (keysR d l[k + 1]) 0).toList = true) := hq
    clear hq
    have hlk : k < l.length := by rw [← HLn.out]; exact hk
    by_cases h0 : k = 0
    · subst h0
      have HX : Hid (∀ h : 0 < l.length, 0 < 0 → Op.bytesLess key.toList (gt (keysR d l[0]) 0).toList = false) := fun _ h => absurd h (Nat.lt_irrefl _)
      go_wp2
      go_ret
      exact ⟨0, rfl, rfl, hlk, HX.out, HQ.out⟩
    · have i0 : (0 : Int) < (k : Int) := by omega
      have i0' : decide ((0 : Int) < (k : Int)) = true := decide_eq_true i0
      have n0 : 0 < k := by omega
      have n0' : decide (0 < k) = true := decide_eq_true n0
      have ik0 : (0 : Int) ≤ (k : Int) := by omega
      have ikl : (k : Int) < (ln : Int) := by omega
      obtain ⟨u, hu, hform⟩ := HK.out k hlk
      have htot := less_total key.toList (gt (keysR d l[k]) 0).toList
      obtain ⟨least, hle⟩ : ∃ least, gt (keysR d l[k]) 0 = least := ⟨_, rfl⟩
      rw [hle] at hform htot
      have HLe : Hid (gt (keysR d l[k]) 0 = least) := hle
      clear hle
      have HQ2 : Hid (Op.bytesLess key.toList least.toList = true → ∀ h : k - 1 + 1 < l.length, Op.bytesLess key.toList (gt (keysR d l[k - 1 + 1]) 0).toList = true) := by
        intro q h
        have e : k - 1 + 1 = k := by omega
        simp only [e]
        rw [HLe.out]
        exact q
      have HQ3 : Hid (Op.bytesLess key.toList least.toList = false → ∀ h : k < l.length, 0 < k → Op.bytesLess key.toList (gt (keysR d l[k]) 0).toList = false) := fun q _ _ => by rw [HLe.out]; exact q
      cases hls : Op.bytesLess key.toList least.toList with
      | true =>
        rw [hls] at htot
        have ht2 : (Op.bytesLess least.toList key.toList || least.toList == key.toList) = false := htot
        have hg : Hid (∀ h : k - 1 + 1 < l.length, Op.bytesLess key.toList (gt (keysR d l[k - 1 + 1]) 0).toList = true) := HQ2.out hls
        clear htot HQ2 HQ3 hls
        rcases hform with ⟨p, rfl, hcall⟩ | ⟨p, rfl, hcall⟩
        · have HC : Hid (Calls Tryz.prog 205 #[.pointer (some p)] wr fun e w' => e = .returned (.string least) ∧ w' = wr) := hcall
          clear hcall
          go_wp2_with fail
          refine HC.out.mono ?_
          rintro e w1 ⟨rfl, rfl⟩
          go_wp2
          go_roundw
          case rel => exact ⟨k - 1, by omega, by go_num, trivial, hg.out⟩
          case measure => simp [intOf]; omega
        · have HC : Hid (Calls Tryz.prog 188 #[.pointer (some p)] wr fun e w' => e = .returned (.string least) ∧ w' = wr) := hcall
          clear hcall
          go_wp2_with fail
          refine HC.out.mono ?_
          rintro e w1 ⟨rfl, rfl⟩
          go_wp2
          go_roundw
          case rel => exact ⟨k - 1, by omega, by go_num, trivial, hg.out⟩
          case measure => simp [intOf]; omega
      | false =>
        rw [hls] at htot
        have ht2 : (Op.bytesLess least.toList key.toList || least.toList == key.toList) = true := htot
        have HG : Hid (∀ h : k < l.length, 0 < k → Op.bytesLess key.toList (gt (keysR d l[k]) 0).toList = false) := HQ3.out hls
        clear htot HQ2 HQ3 hls
        rcases hform with ⟨p, rfl, hcall⟩ | ⟨p, rfl, hcall⟩
        · have HC : Hid (Calls Tryz.prog 205 #[.pointer (some p)] wr fun e w' => e = .returned (.string least) ∧ w' = wr) := hcall
          clear hcall
          go_wp2_with fail
          refine HC.out.mono ?_
          rintro e w1 ⟨rfl, rfl⟩
          go_wp2
          go_ret
          exact ⟨k, rfl, rfl, hlk, HG.out, HQ.out⟩
        · have HC : Hid (Calls Tryz.prog 188 #[.pointer (some p)] wr fun e w' => e = .returned (.string least) ∧ w' = wr) := hcall
          clear hcall
          go_wp2_with fail
          refine HC.out.mono ?_
          rintro e w1 ⟨rfl, rfl⟩
          go_wp2
          go_ret
          exact ⟨k, rfl, rfl, hlk, HG.out, HQ.out⟩
end Go.Proofs.YtcnollkkigiobaaGreat

namespace Go.Proofs.YtcnollkkigiobaaGreat
open Go.RowKit Go.Deep
set_option linter.unusedVariables false
set_option maxRecDepth 100000

/-- What rank gives, at a leaf or an inner node. -/
def RankC (w : World) (v : Value) (key : ByteArray) (r : Nat) : Prop :=
  (∃ p, v = .iface 204 (.pointer (some p)) ∧ Calls Tryz.prog 206 #[.pointer (some p), .string key] w fun e w' => e = .returned (.int .i64 (r : Int)) ∧ w' = w) ∨
  (∃ p, v = .iface 174 (.pointer (some p)) ∧ Calls Tryz.prog 189 #[.pointer (some p), .string key] w fun e w' => e = .returned (.int .i64 (r : Int)) ∧ w' = w)

set_option maxHeartbeats 4000000 in
theorem rank_any (key : ByteArray) (w : World) (S : Nat → Prop) : ∀ (d : Nat) (t : Ro d) (v : Value) (root : Bool) (h : Nat), TAt S w d t v → BalR d root t h → Asc (keysR d t) → (keysR d t).length ≤ 1048576 → RankC w v key (cntL key (keysR d t)) := by
  intro d
  induction d with
  | zero => intro t; exact t.elim
  | succ d ih =>
    intro t v root h ht hb ha hlen
    rcases t with t | l
    · obtain ⟨b, ka, kc, rfl, _, hx, hr⟩ := ht
      exact Or.inl ⟨_, rfl, rankLeaf_any b t.length kc ka _ t key w hx hr.rdS rfl hlen ha⟩
    · have ht2 := ht
      obtain ⟨b, g, kc, xs, rfl, _, hx, _, hgl, hl, hc, hk⟩ := ht2
      obtain ⟨hb1, hb2, h', _, hall⟩ := hb
      refine Or.inr ⟨_, rfl, ?_⟩
      have ha' : Asc (l.flatMap (keysR d)) := ha
      have hlen' : (l.flatMap (keysR d)).length ≤ 1048576 := hlen
      have HKf : Hid (Calls Tryz.prog 193 #[.pointer (some ⟨b, 0, none⟩), .string key] w (RetKf l key w)) := kidFor_any d b l S h' key w ht hall hb2
      have HRk : Hid (∀ k (hk : k < l.length), ∃ u, w.cell? ⟨g, k, none⟩ = some u ∧ RankC w u key (cntL key (keysR d l[k]))) := by
        intro k hkl
        obtain ⟨u, hu, hut⟩ := hk k hkl
        exact ⟨u, hc k u hu, ih l[k] u false h' hut (hall _ (List.getElem_mem hkl)) (asc_kid ha' k hkl) (by have := kid_keys_le d l k hkl; omega)⟩
      have HCt : Hid (∀ k (hk : k < l.length), ∃ u bb, w.cell? ⟨g, k, none⟩ = some u ∧ w.cell? ⟨bb, 0, none⟩ = some (.int .i64 ((keysR d l[k]).length : Int)) ∧ (u = .iface 204 (.pointer (some ⟨bb, 0, none⟩)) ∨ u = .iface 174 (.pointer (some ⟨bb, 0, none⟩)))) := by
        intro k hkl
        obtain ⟨u, hu, hut⟩ := hk k hkl
        obtain ⟨bb, _, _, q1, q2⟩ := hut.count
        exact ⟨u, bb, hc k u hu, q1, q2⟩
      have HMath : Hid (∀ i (hi : i < l.length), (∀ h : i < l.length, 0 < i → Op.bytesLess key.toList (gt (keysR d l[i]) 0).toList = false) → (∀ h : i + 1 < l.length, Op.bytesLess key.toList (gt (keysR d l[i + 1]) 0).toList = true) → cntL key (l.flatMap (keysR d)) = ((l.take i).flatMap (keysR d)).length + cntL key (keysR d l[i])) := fun i hi q1 q2 => cntL_kid hi ha' (fun k hk => bal_pos (hall _ (List.getElem_mem hk))) (fun h0 => q1 hi h0) q2
      have HLe : Hid ((l.flatMap (keysR d)).length ≤ 1048576) := hlen'
      have c1 := hx.cell 1
      simp at c1
      obtain ⟨ln, hln⟩ : ∃ ln, ln = l.length := ⟨_, rfl⟩
      obtain ⟨_, hcap, hcapm⟩ := hgl
      rw [← hln] at c1 hl hb2 hcap
      have HLn : Hid (ln = l.length) := hln
      clear hx hc hk hall ih ht ha hlen ha' hlen' hln hb1
      have HGoal : Hid (cntL key (keysR (d + 1) (.inr l)) = cntL key (l.flatMap (keysR d))) := rfl
      go_enter Tryz.func189, Tryz.ntmps189
      go_wp2_with fail
      refine HKf.out.mono ?_
      rintro e w1 ⟨i, rfl, rfl, hi, q1, q2⟩
      have HM : Hid (cntL key (l.flatMap (keysR d)) = ((l.take i).flatMap (keysR d)).length + cntL key (keysR d l[i])) := HMath.out i hi q1 q2
      obtain ⟨u, hu, hrank⟩ := HRk.out i hi
      have hin : i < ln := by rw [HLn.out]; exact hi
      have i0 : (0 : Int) ≤ (i : Int) := by omega
      have i1 : (i : Int) < (ln : Int) := by omega
      have ic : (i : Int) ≤ (kc : Int) := by omega
      have icn : i ≤ kc := by omega
      obtain ⟨R, hR⟩ : ∃ R, R = cntL key (keysR d l[i]) := ⟨_, rfl⟩
      rw [← hR] at hrank
      have HR : Hid (R = cntL key (keysR d l[i]) ∧ R ≤ 1048576) := by
        refine ⟨hR, ?_⟩
        have h1 : cntL key (keysR d l[i]) ≤ (keysR d l[i]).length := List.length_filter_le _ _
        have h2 := kid_keys_le d l i hi
        have := HLe.out
        omega
      have hRb := HR.out.2
      clear q1 q2 HKf HMath HRk hR
      rcases hrank with ⟨p, rfl, hcall⟩ | ⟨p, rfl, hcall⟩
      · have HC : Hid (Calls Tryz.prog 206 #[.pointer (some p), .string key] w1 fun e w' => e = .returned (.int .i64 (R : Int)) ∧ w' = w1) := hcall
        clear hcall
        go_wp2_with fail
        refine HC.out.mono ?_
        rintro e w2 ⟨rfl, rfl⟩
        go_wp2
        go_loopw [6, 28] (fun q k wr => ∃ j A : Nat, j ≤ i ∧ k = .int .i64 j ∧ q = .int .i64 (A : Int) ∧ A = R + ((l.take j).flatMap (keysR d)).length ∧ wr = w2) (fun _ k _ => i - (intOf k).toNat)
        case atStart => exact ⟨0, R, Nat.zero_le _, rfl, rfl, by simp, rfl⟩
        case round =>
          obtain ⟨j, A, hj, rfl, rfl, hA, rfl⟩ := hrel
          have HA : Hid (A = R + ((l.take j).flatMap (keysR d)).length) := hA
          have hAb : A ≤ 4194304 := by
            have := flat_take_le (keysR d) l j
            have := HLe.out
            omega
          clear hA
          by_cases hlt : j < i
          · have hjl : j < l.length := by omega
            obtain ⟨u, bb, hcu, hcc, hform⟩ := HCt.out j hjl
            have j0 : (0 : Int) ≤ (j : Int) := by omega
            have j1 : (j : Int) < (i : Int) := by omega
            obtain ⟨C, hC⟩ : ∃ C : Nat, C = (keysR d l[j]).length := ⟨_, rfl⟩
            rw [← hC] at hcc
            have HC2 : Hid (C = (keysR d l[j]).length) := hC
            have hCb : C ≤ 1048576 := by
              have := kid_keys_le d l j hjl
              have := HLe.out
              omega
            have HN : Hid (A + C = R + ((l.take (j + 1)).flatMap (keysR d)).length) := by
              show A + C = R + ((l.take (j + 1)).flatMap (keysR d)).length
              rw [flat_len_take l j hjl, HA.out, HC2.out]
              omega
            clear hC
            have HB : Hid (Calls Tryz.prog 157 #[.pointer (some ⟨bb, 0, none⟩)] wr fun e w' => e = .returned (.int .i64 (C : Int)) ∧ w' = wr) := below_any bb (C : Int) wr hcc
            rcases hform with rfl | rfl
            · go_wp2_with fail
              refine HB.out.mono ?_
              rintro e w3 ⟨rfl, rfl⟩
              go_wp2
              go_roundw
              case rel => exact ⟨j + 1, A + C, by omega, by go_num, by go_num, HN.out, trivial⟩
              case measure => simp [intOf]; omega
            · go_wp2_with fail
              refine HB.out.mono ?_
              rintro e w3 ⟨rfl, rfl⟩
              go_wp2
              go_roundw
              case rel => exact ⟨j + 1, A + C, by omega, by go_num, by go_num, HN.out, trivial⟩
              case measure => simp [intOf]; omega
          · have e : j = i := by omega
            subst e
            have hjf : ¬ (j : Int) < (j : Int) := by omega
            have HEnd : Hid (cntL key (keysR (d + 1) (.inr l)) = A) := by
              show cntL key (keysR (d + 1) (.inr l)) = A
              rw [HGoal.out, HM.out, HA.out, HR.out.1]
              omega
            go_wp2
            go_ret
            exact ⟨by rw [HEnd.out]; rfl, rfl⟩
      · have HC : Hid (Calls Tryz.prog 189 #[.pointer (some p), .string key] w1 fun e w' => e = .returned (.int .i64 (R : Int)) ∧ w' = w1) := hcall
        clear hcall
        go_wp2_with fail
        refine HC.out.mono ?_
        rintro e w2 ⟨rfl, rfl⟩
        go_wp2
        go_loopw [6, 28] (fun q k wr => ∃ j A : Nat, j ≤ i ∧ k = .int .i64 j ∧ q = .int .i64 (A : Int) ∧ A = R + ((l.take j).flatMap (keysR d)).length ∧ wr = w2) (fun _ k _ => i - (intOf k).toNat)
        case atStart => exact ⟨0, R, Nat.zero_le _, rfl, rfl, by simp, rfl⟩
        case round =>
          obtain ⟨j, A, hj, rfl, rfl, hA, rfl⟩ := hrel
          have HA : Hid (A = R + ((l.take j).flatMap (keysR d)).length) := hA
          have hAb : A ≤ 4194304 := by
            have := flat_take_le (keysR d) l j
            have := HLe.out
            omega
          clear hA
          by_cases hlt : j < i
          · have hjl : j < l.length := by omega
            obtain ⟨u, bb, hcu, hcc, hform⟩ := HCt.out j hjl
            have j0 : (0 : Int) ≤ (j : Int) := by omega
            have j1 : (j : Int) < (i : Int) := by omega
            obtain ⟨C, hC⟩ : ∃ C : Nat, C = (keysR d l[j]).length := ⟨_, rfl⟩
            rw [← hC] at hcc
            have HC2 : Hid (C = (keysR d l[j]).length) := hC
            have hCb : C ≤ 1048576 := by
              have := kid_keys_le d l j hjl
              have := HLe.out
              omega
            have HN : Hid (A + C = R + ((l.take (j + 1)).flatMap (keysR d)).length) := by
              show A + C = R + ((l.take (j + 1)).flatMap (keysR d)).length
              rw [flat_len_take l j hjl, HA.out, HC2.out]
              omega
            clear hC
            have HB : Hid (Calls Tryz.prog 157 #[.pointer (some ⟨bb, 0, none⟩)] wr fun e w' => e = .returned (.int .i64 (C : Int)) ∧ w' = wr) := below_any bb (C : Int) wr hcc
            rcases hform with rfl | rfl
            · go_wp2_with fail
              refine HB.out.mono ?_
              rintro e w3 ⟨rfl, rfl⟩
              go_wp2
              go_roundw
              case rel => exact ⟨j + 1, A + C, by omega, by go_num, by go_num, HN.out, trivial⟩
              case measure => simp [intOf]; omega
            · go_wp2_with fail
              refine HB.out.mono ?_
              rintro e w3 ⟨rfl, rfl⟩
              go_wp2
              go_roundw
              case rel => exact ⟨j + 1, A + C, by omega, by go_num, by go_num, HN.out, trivial⟩
              case measure => simp [intOf]; omega
          · have e : j = i := by omega
            subst e
            have hjf : ¬ (j : Int) < (j : Int) := by omega
            have HEnd : Hid (cntL key (keysR (d + 1) (.inr l)) = A) := by
              show cntL key (keysR (d + 1) (.inr l)) = A
              rw [HGoal.out, HM.out, HA.out, HR.out.1]
              omega
            go_wp2
            go_ret
            exact ⟨by rw [HEnd.out]; rfl, rfl⟩
end Go.Proofs.YtcnollkkigiobaaGreat

namespace Go.Proofs.YtcnollkkigiobaaGreat
open Go.RowKit Go.Deep
set_option linter.unusedVariables false
set_option maxRecDepth 100000

/-- What TreeRank answers. -/
def RetRk (w : World) (n : Nat) (N : Nat → Tn) (key : ByteArray) (e : Ending) (w' : World) : Prop :=
  ∃ r : Nat, e = .returned (.int .i64 (r : Int)) ∧ Below w.heap.size w w' ∧ ((∃ t, VTt n N t ∧ r = cntL key (keysR 21 t)) ∨ (¬ VT n N ∧ r = 0))

theorem vtt_fn {n : Nat} {N : Nat → Tn} {t t' : Ro 21} (h : VTt n N t) (h' : VTt n N t') : t = t' := by
  have q := h.2.2.1
  rw [h'.2.2.1] at q
  injection q with q
  injection q with q _
  exact q.symm

set_option maxHeartbeats 1000000 in
theorem keys_zero (w : World) : Calls Tryz.prog 58 #[.agg #[.bool false, .slice none 0 0, .slice none 0 0]] w fun e w' => ∃ a c, e = .returned (.slice a 0 c) ∧ Below w.heap.size w w' := by
  go_enter Tryz.func58, Tryz.ntmps58
  go_wp2
  go_loopw [3, 4] (fun q i wr => i = .int .i64 0 ∧ q = .slice (some ⟨w.heap.size + 1, 0, none⟩) 0 0 ∧ wr = ((w.alloc (.cells #[.bool false, .slice none 0 0, .slice none 0 0] 91)).alloc (.cells #[] 9))) (fun _ i _ => 1 - (intOf i).toNat)
  case atStart => exact ⟨rfl, by simp, rfl⟩
  case round =>
    obtain ⟨rfl, rfl, rfl⟩ := hrel
    go_wp2
    go_ret
    exact ⟨_, _, rfl, (below_alloc _ _).alloc (by simp) _⟩

theorem cntL_take {key : ByteArray} {L : List ByteArray} {k : Nat} (h : k < L.length) : cntL key (L.take (k + 1)) = cntL key (L.take k) + (if Op.bytesLess (gt L k).toList key.toList = true then 1 else 0) := by
  rw [chain_take h, cntL_app]
  congr 1
  unfold cntL
  rw [List.filter_cons, List.filter_nil]
  cases Op.bytesLess (gt L k).toList key.toList <;> rfl

end Go.Proofs.YtcnollkkigiobaaGreat


namespace Go.Proofs.YtcnollkkigiobaaGreat
open Go.RowKit Go.Deep
set_option linter.unusedVariables false
set_option maxRecDepth 100000

/-- Whether a key lies between two. -/
def inR (lo hi k : ByteArray) : Bool := !(Op.bytesLess k.toList lo.toList) && (hi.toList.isEmpty || Op.bytesLess k.toList hi.toList)
def fil (lo hi : ByteArray) (L : List ByteArray) : List ByteArray := L.filter (inR lo hi)
theorem fil_app (lo hi : ByteArray) (L M : List ByteArray) : fil lo hi (L ++ M) = fil lo hi L ++ fil lo hi M := List.filter_append ..
theorem fil_le (lo hi : ByteArray) (L : List ByteArray) : (fil lo hi L).length ≤ L.length := List.length_filter_le _ _
theorem fil_take {lo hi : ByteArray} {L : List ByteArray} {k : Nat} (h : k < L.length) : fil lo hi (L.take (k + 1)) = fil lo hi (L.take k) ++ (if inR lo hi (gt L k) = true then [gt L k] else []) := by
  rw [chain_take h, fil_app]
  congr 1
  unfold fil
  rw [List.filter_cons, List.filter_nil]
theorem fil_none {lo hi : ByteArray} {L : List ByteArray} (h : ∀ k, k ∈ L → inR lo hi k = false) : fil lo hi L = [] := by
  unfold fil
  rw [List.filter_eq_nil_iff]
  intro k hk
  rw [h k hk]
  simp

/-- Keys gathered behind others, in memory from B on. -/
def RetGa (B : Nat) (w : World) (L : List ByteArray) (e : Ending) (w' : World) : Prop :=
  ∃ a c, e = .returned (.slice a L.length c) ∧ w'.ownsRow B 9 1 (.slice a L.length c) L.length (strL L) ∧ Below B w w'

set_option maxHeartbeats 4000000 in
theorem gaLeaf_any (B b n kc : Nat) (ka : Option Addr) (v0 : Value) (L L0 : List ByteArray) (lo hi : ByteArray) (a0 : Option Addr) (n0 c0 : Nat) (w : World) (hx : Bx w b 206 #[v0, .slice ka n kc]) (hbB : b < B) (hr : ∀ W : World, Below B w W → RdS W ka n (gt L)) (hn : n = L.length) (hn2 : n ≤ 1048576) (h0 : w.ownsRow B 9 1 (.slice a0 n0 c0) n0 (strL L0)) (hn0 : n0 = L0.length) (hn3 : n0 ≤ 1073741824) (hB : B ≤ w.heap.size) :
    Calls Tryz.prog 203 #[.pointer (some ⟨b, 0, none⟩), .slice a0 n0 c0, .string lo, .string hi] w (RetGa B w (L0 ++ fil lo hi L)) := by
  have HR : Hid ((∀ W : World, Below B w W → RdS W ka n (gt L)) ∧ n = L.length) := ⟨hr, hn⟩
  have H0 : Hid (w.ownsRow B 9 1 (.slice a0 n0 c0) n0 (strL L0) ∧ n0 = L0.length) := ⟨h0, hn0⟩
  have c1 := hx.cell 1
  simp at c1
  clear hx hr hn h0 hn0
  go_enter Tryz.func203, Tryz.ntmps203
  go_wp2
  go_loopw [1, 16] (fun q i wr => ∃ (k m : Nat) (a : Option Addr) (c : Nat), k ≤ n ∧ i = .int .i64 k ∧ q = .slice a m c ∧ m = (L0 ++ fil lo hi (L.take k)).length ∧ wr.ownsRow B 9 1 (.slice a m c) m (strL (L0 ++ fil lo hi (L.take k))) ∧ Below B w wr) (fun _ i _ => n - (intOf i).toNat)
  case atStart => exact ⟨0, n0, a0, c0, Nat.zero_le _, rfl, rfl, by simp [fil, H0.out.2], by simpa [fil] using H0.out.1, Below.refl _ _⟩
  case round =>
    obtain ⟨k, m, a, c, hk, rfl, rfl, hm, hown, hbel⟩ := hrel
    clear c1
    have HS : Hid (m = (L0 ++ fil lo hi (L.take k)).length ∧ wr.ownsRow B 9 1 (.slice a m c) m (strL (L0 ++ fil lo hi (L.take k))) ∧ Below B w wr) := ⟨hm, hown, hbel⟩
    have hmb : m ≤ 2147483648 := by
      rw [List.length_append] at hm
      have h1 := fil_le lo hi (L.take k)
      have h2 : (L.take k).length ≤ L.length := List.length_take_le' _ _
      have := HR.out.2
      have := H0.out.2
      omega
    have hz := hbel.size
    clear hm hown hbel
    by_cases hlt : k < n
    · have hlk : k < L.length := by rw [← HR.out.2]; exact hlt
      rcases HR.out.1 wr HS.out.2.2 with q | ⟨b3, o3, rfl, hc3⟩
      · omega
      have s1 := hc3 k hlt
      have i0 : (0 : Int) ≤ (k : Int) := by omega
      have i1 : (k : Int) < (n : Int) := by omega
      have htk := fil_take (lo := lo) (hi := hi) hlk
      have hbz : b < wr.heap.size := by omega
      clear hc3
      have htot := less_total (gt L k).toList lo.toList
      have HYes : inR lo hi (gt L k) = true → Hid (∀ (v' : Value) (w5 : World), w5.ownsRow B 9 1 v' (m + 1) (strL (L0 ++ fil lo hi (L.take k)) ++ [.string (gt L k)]) → w5.ownsRow B 9 1 v' (m + 1) (strL (L0 ++ fil lo hi (L.take (k + 1)))) ∧ m + 1 = (L0 ++ fil lo hi (L.take (k + 1))).length) := by
        intro hin v' w5 ho
        rw [htk, hin, if_pos rfl, ← List.append_assoc]
        constructor
        · rw [strL_app]; exact ho
        · rw [List.length_append, ← HS.out.1]; rfl
      have HNot : inR lo hi (gt L k) = false → Hid (m = (L0 ++ fil lo hi (L.take (k + 1))).length ∧ wr.ownsRow B 9 1 (.slice a m c) m (strL (L0 ++ fil lo hi (L.take (k + 1)))) ∧ Below B w wr) := by
        intro hin
        rw [htk, hin, if_neg (by simp), List.append_nil]
        exact HS.out
      obtain ⟨i9, hi9, hz0, hz1, hz2⟩ := info_parts Tryz.info9
      have HI : Hid (Tryz.prog.info? 9 = some i9 ∧ i9.zero = some (.string { data := #[] }) ∧ i9.size = 1 ∧ i9.bytes = 16) := ⟨hi9, hz0, hz1, hz2⟩
      clear hi9 hz0 hz1 hz2 htk
      have HO : Hid ((wr.alloc (.cells #[.string (gt L k)] 9)).ownsRow B 9 1 (.slice a m c) m (strL (L0 ++ fil lo hi (L.take k)))) := own_below HS.out.2.1 (below_alloc _ _)
      cases hl : Op.bytesLess (gt L k).toList lo.toList with
      | true =>
        rw [hl] at htot
        have ht2 : (Op.bytesLess lo.toList (gt L k).toList || lo.toList == (gt L k).toList) = false := htot
        have HN := HNot (by unfold inR; rw [hl]; rfl)
        clear htot HYes HNot
        go_wp2
        go_roundw
        case rel => exact ⟨k + 1, m, a, c, by omega, by go_num, rfl, HN.out⟩
        case measure => simp [intOf]; omega
      | false =>
        rw [hl] at htot
        have ht2 : (Op.bytesLess lo.toList (gt L k).toList || lo.toList == (gt L k).toList) = true := htot
        by_cases hem : hi.toList = []
        · have HY := HYes (by unfold inR; rw [hl, hem]; rfl)
          clear htot HYes HNot
          go_wp2_with (at_builtin; refine wpList_append_own_at _ rfl _ _ 88 rfl B 9 i9 _ 1 16 Tryz.underlying88 HI.out.1 HI.out.2.1 HI.out.2.2.1 HI.out.2.2.2 rfl (by decide) (.slice a m c) m _ rfl HO.out ⟨wr.heap.size, 0, none⟩ 1 1 [.string (gt L k)] rfl rfl (cell_one_new _ _ _) (by intro u hu; simp at hu; subst hu; rfl) (by unfold maxLen; omega) (by omega) (by simp; omega) ?_)
          intro v' w5 ho hg _ hat
          have HB5 : Hid (Below B w w5) := (HS.out.2.2.trans ((below_alloc _ _).mono (by omega))).grown hg (by simp; omega) (fun g e => (own_lt HS.out.2.1 g e).1)
          obtain ⟨q1, q2⟩ := HY.out v' w5 ho
          obtain ⟨a5, c5, rfl, _⟩ := own_form ho
          have HX : Hid (m + 1 = (L0 ++ fil lo hi (L.take (k + 1))).length ∧ w5.ownsRow B 9 1 (.slice a5 (m + 1) c5) (m + 1) (strL (L0 ++ fil lo hi (L.take (k + 1)))) ∧ Below B w w5) := ⟨q2, q1, HB5.out⟩
          clear ho hg hat q1 q2 HO
          go_wp2
          go_roundw
          case rel => exact ⟨k + 1, m + 1, a5, c5, by omega, by go_num, rfl, HX.out⟩
          case measure => simp [intOf]; omega
        · have hem' : hi.toList.isEmpty = false := by simpa using hem
          cases hh : Op.bytesLess (gt L k).toList hi.toList with
          | true =>
            have HY := HYes (by unfold inR; rw [hl, hh]; simp)
            clear htot HYes HNot
            go_wp2_with (at_builtin; refine wpList_append_own_at _ rfl _ _ 88 rfl B 9 i9 _ 1 16 Tryz.underlying88 HI.out.1 HI.out.2.1 HI.out.2.2.1 HI.out.2.2.2 rfl (by decide) (.slice a m c) m _ rfl HO.out ⟨wr.heap.size, 0, none⟩ 1 1 [.string (gt L k)] rfl rfl (cell_one_new _ _ _) (by intro u hu; simp at hu; subst hu; rfl) (by unfold maxLen; omega) (by omega) (by simp; omega) ?_)
            intro v' w5 ho hg _ hat
            have HB5 : Hid (Below B w w5) := (HS.out.2.2.trans ((below_alloc _ _).mono (by omega))).grown hg (by simp; omega) (fun g e => (own_lt HS.out.2.1 g e).1)
            obtain ⟨q1, q2⟩ := HY.out v' w5 ho
            obtain ⟨a5, c5, rfl, _⟩ := own_form ho
            have HX : Hid (m + 1 = (L0 ++ fil lo hi (L.take (k + 1))).length ∧ w5.ownsRow B 9 1 (.slice a5 (m + 1) c5) (m + 1) (strL (L0 ++ fil lo hi (L.take (k + 1)))) ∧ Below B w w5) := ⟨q2, q1, HB5.out⟩
            clear ho hg hat q1 q2 HO
            go_wp2
            go_roundw
            case rel => exact ⟨k + 1, m + 1, a5, c5, by omega, by go_num, rfl, HX.out⟩
            case measure => simp [intOf]; omega
          | false =>
            have HN := HNot (by unfold inR; rw [hl, hh]; simp [hem])
            clear htot HYes HNot
            go_wp2
            go_roundw
            case rel => exact ⟨k + 1, m, a, c, by omega, by go_num, rfl, HN.out⟩
            case measure => simp [intOf]; omega
    · have e : k = n := by omega
      subst e
      have HE : Hid (L.take k = L) := by
        show L.take k = L
        rw [HR.out.2, List.take_length]
      go_wp2
      go_ret
      have q := HS.out
      rw [HE.out] at q
      refine ⟨a, c, by rw [← q.1]; rfl, by rw [← q.1]; exact q.2.1, q.2.2⟩
end Go.Proofs.YtcnollkkigiobaaGreat

namespace Go.Proofs.YtcnollkkigiobaaGreat
open Go.RowKit Go.Deep
set_option linter.unusedVariables false
set_option maxRecDepth 100000

theorem fil_before {d : Nat} {l : List (Ro d)} {lo hi : ByteArray} {i : Nat} (hi' : i < l.length) (ha : Asc (l.flatMap (keysR d))) (hp : 0 < (keysR d l[i]).length) (h1 : 0 < i → Op.bytesLess lo.toList (gt (keysR d l[i]) 0).toList = false) : fil lo hi ((l.take i).flatMap (keysR d)) = [] := by
  refine fil_none (fun k hk => ?_)
  have e : l = l.take i ++ (l[i] :: l.drop (i + 1)) := by
    conv => lhs; rw [← List.take_append_drop (i + 1) l, ← List.take_append_getElem hi']
    simp
  rw [e, List.flatMap_append, List.flatMap_cons] at ha
  unfold Asc at ha
  rw [List.pairwise_append] at ha
  by_cases h0 : 0 < i
  · have q := ha.2.2 k hk (gt (keysR d l[i]) 0) (List.mem_append_left _ (gt_mem hp))
    have := less_of_lt_le q (h1 h0)
    unfold inR
    rw [this]
    rfl
  · have : i = 0 := by omega
    subst this
    simp at hk

theorem fil_after {d : Nat} {l : List (Ro d)} {lo hi : ByteArray} {k : Nat} (hk : k < l.length) (ha : Asc (l.flatMap (keysR d))) (hp : 0 < (keysR d l[k]).length) (h1 : ¬ hi.toList = []) (h2 : Op.bytesLess (gt (keysR d l[k]) 0).toList hi.toList = false) : fil lo hi (l.flatMap (keysR d)) = fil lo hi ((l.take k).flatMap (keysR d)) := by
  have e : l = l.take k ++ (l[k] :: l.drop (k + 1)) := by
    conv => lhs; rw [← List.take_append_drop (k + 1) l, ← List.take_append_getElem hk]
    simp
  have ef : l.flatMap (keysR d) = (l.take k).flatMap (keysR d) ++ (keysR d l[k] ++ (l.drop (k + 1)).flatMap (keysR d)) := by
    conv => lhs; rw [e]
    rw [List.flatMap_append, List.flatMap_cons]
  rw [ef] at ha ⊢
  unfold Asc at ha
  rw [List.pairwise_append] at ha
  obtain ⟨_, ha2, _⟩ := ha
  rw [fil_app, fil_none (L := keysR d l[k] ++ _), List.append_nil]
  intro x hx
  rw [List.pairwise_append] at ha2
  obtain ⟨q1, _, q3⟩ := ha2
  have hle : Op.bytesLess x.toList hi.toList = false := by
    have hcase : x = gt (keysR d l[k]) 0 ∨ Op.bytesLess (gt (keysR d l[k]) 0).toList x.toList = true := by
      rcases List.mem_append.1 hx with hx | hx
      · obtain ⟨j, hj, rfl⟩ := List.getElem_of_mem hx
        have e1 : (keysR d l[k])[j] = gt (keysR d l[k]) j := by
          unfold gt
          rw [List.getD_eq_getElem?_getD, List.getElem?_eq_getElem hj]
          rfl
        rw [e1]
        by_cases e0 : j = 0
        · subst e0; exact Or.inl rfl
        · exact Or.inr (asc_lt q1 (show 0 < j by omega) hj)
      · exact Or.inr (q3 _ (gt_mem hp) _ hx)
    rcases hcase with rfl | h3
    · exact h2
    · cases e : Op.bytesLess x.toList hi.toList with
      | false => rfl
      | true =>
        have := less_trans _ _ _ h3 e
        rw [h2] at this
        cases this
  unfold inR
  rw [hle]
  have : hi.toList.isEmpty = false := by simpa using h1
  rw [this]
  simp

/-- What gather gives, at a leaf or an inner node. -/
def GaC (B : Nat) (w : World) (v : Value) (lo hi : ByteArray) (K : List ByteArray) : Prop :=
  (∃ p, v = .iface 204 (.pointer (some p)) ∧ ∀ (W : World) (a0 : Option Addr) (n0 c0 : Nat) (L0 : List ByteArray), Below B w W → B ≤ W.heap.size → W.ownsRow B 9 1 (.slice a0 n0 c0) n0 (strL L0) → n0 = L0.length → n0 ≤ 1073741824 → Calls Tryz.prog 203 #[.pointer (some p), .slice a0 n0 c0, .string lo, .string hi] W (RetGa B W (L0 ++ fil lo hi K))) ∨
  (∃ p, v = .iface 174 (.pointer (some p)) ∧ ∀ (W : World) (a0 : Option Addr) (n0 c0 : Nat) (L0 : List ByteArray), Below B w W → B ≤ W.heap.size → W.ownsRow B 9 1 (.slice a0 n0 c0) n0 (strL L0) → n0 = L0.length → n0 + K.length ≤ 1073741824 → Calls Tryz.prog 186 #[.pointer (some p), .slice a0 n0 c0, .string lo, .string hi] W (RetGa B W (L0 ++ fil lo hi K)))

set_option maxHeartbeats 8000000 in
theorem gather_any (lo hi : ByteArray) (B : Nat) (w : World) : ∀ (d : Nat) (t : Ro d) (v : Value) (root : Bool) (h : Nat), TAt (fun bb => bb < B) w d t v → BalR d root t h → Asc (keysR d t) → (keysR d t).length ≤ 1048576 → GaC B w v lo hi (keysR d t) := by
  intro d
  induction d with
  | zero => intro t; exact t.elim
  | succ d ih =>
    intro t v root h ht hb ha hlen
    rcases t with t | l
    · obtain ⟨b, ka, kc, rfl, hbB, hx, hr⟩ := ht
      refine Or.inl ⟨_, rfl, fun W a0 n0 c0 L0 hW hBW ho h1 h2 => ?_⟩
      refine gaLeaf_any B b t.length kc ka _ t L0 lo hi a0 n0 c0 W (hx.below' hW hbB) hbB (fun W' hW' => ?_) rfl hlen ho h1 h2 hBW
      exact (hr.mono (w' := W') (S' := fun _ => True) (by have := hW.size; have := hW'.size; omega) (fun bb hs _ => ⟨trivial, ((hW.trans hW').block bb hs)⟩)).rdS
    · have ht2 := ht
      obtain ⟨b, g, kc, xs, rfl, hbB, hx, hgB, ⟨_, hcap, hcapm⟩, hl, hc, hk⟩ := ht2
      obtain ⟨hb1, hb2, h', _, hall⟩ := hb
      refine Or.inr ⟨_, rfl, fun W a0 n0 c0 L0 hW hBW ho h1 h2 => ?_⟩
      have htW : TAt (fun bb => bb < B) W (d + 1) (.inr l) (.iface 174 (.pointer (some ⟨b, 0, none⟩))) := ht.mono hW.size (fun bb hs _ => ⟨hs, hW.block bb hs⟩)
      have ha' : Asc (l.flatMap (keysR d)) := ha
      have hlen' : (l.flatMap (keysR d)).length ≤ 1048576 := hlen
      have HKf : Hid (Calls Tryz.prog 193 #[.pointer (some ⟨b, 0, none⟩), .string lo] W.drew (RetKf l lo W.drew)) := kidFor_any d b l _ h' lo W.drew (htW.below (Below.refl _ _).drew) hall hb2
      have HKid : Hid (∀ k (hk : k < l.length), ∃ u, (∀ W', Below B w W' → W'.cell? ⟨g, k, none⟩ = some u) ∧ GaC B w u lo hi (keysR d l[k]) ∧ ((∃ p, u = .iface 204 (.pointer (some p)) ∧ ∀ W', Below B w W' → Calls Tryz.prog 205 #[.pointer (some p)] W' fun e w' => e = .returned (.string (gt (keysR d l[k]) 0)) ∧ w' = W') ∨ (∃ p, u = .iface 174 (.pointer (some p)) ∧ ∀ W', Below B w W' → Calls Tryz.prog 188 #[.pointer (some p)] W' fun e w' => e = .returned (.string (gt (keysR d l[k]) 0)) ∧ w' = W'))) := by
        intro k hkl
        obtain ⟨u, hu, hut⟩ := hk k hkl
        refine ⟨u, fun W' hW' => by rw [hW'.cell (p := ⟨g, k, none⟩) hgB]; exact hc k u hu, ih l[k] u false h' hut (hall _ (List.getElem_mem hkl)) (asc_kid ha' k hkl) (by have := kid_keys_le d l k hkl; omega), ?_⟩
        have hW2 : ∀ W', Below B w W' → TAt (fun bb => bb < B) W' d l[k] u := fun W' hW' => hut.mono hW'.size (fun bb hs _ => ⟨hs, hW'.block bb hs⟩)
        rcases least_call hut (hall _ (List.getElem_mem hkl)) with ⟨p, rfl, _⟩ | ⟨p, rfl, _⟩
        · refine Or.inl ⟨p, rfl, fun W' hW' => ?_⟩
          rcases least_call (hW2 W' hW') (hall _ (List.getElem_mem hkl)) with ⟨p', e', q⟩ | ⟨p', e', q⟩
          · injection e' with _ e'
            injection e' with e'
            injection e' with e'
            subst e'
            exact q W' (Below.refl _ _)
          · injection e' with e' _
            exact absurd e' (by decide)
        · refine Or.inr ⟨p, rfl, fun W' hW' => ?_⟩
          rcases least_call (hW2 W' hW') (hall _ (List.getElem_mem hkl)) with ⟨p', e', q⟩ | ⟨p', e', q⟩
          · injection e' with e' _
            exact absurd e' (by decide)
          · injection e' with _ e'
            injection e' with e'
            injection e' with e'
            subst e'
            exact q W' (Below.refl _ _)
      have HMath : Hid (∀ i (hi' : i < l.length), (∀ h : i < l.length, 0 < i → Op.bytesLess lo.toList (gt (keysR d l[i]) 0).toList = false) → fil lo hi ((l.take i).flatMap (keysR d)) = []) := fun i hi' q => fil_before hi' ha' (bal_pos (hall _ (List.getElem_mem hi'))) (q hi')
      have HAft : Hid (∀ k (hk : k < l.length), ¬ hi.toList = [] → Op.bytesLess (gt (keysR d l[k]) 0).toList hi.toList = false → fil lo hi (l.flatMap (keysR d)) = fil lo hi ((l.take k).flatMap (keysR d))) := fun k hk q1 q2 => fil_after hk ha' (bal_pos (hall _ (List.getElem_mem hk))) q1 q2
      have HLe : Hid ((l.flatMap (keysR d)).length ≤ 1048576) := hlen'
      have HO : Hid (W.ownsRow B 9 1 (.slice a0 n0 c0) n0 (strL L0) ∧ n0 = L0.length ∧ Below B w W) := ⟨ho, h1, hW⟩
      have h2' : n0 + (l.flatMap (keysR d)).length ≤ 1073741824 := h2
      have H2 : Hid (n0 + (l.flatMap (keysR d)).length ≤ 1073741824) := h2'
      have hxW : Bx W b 179 #[.int .i64 ((l.flatMap (keysR d)).length : Int), .slice (some ⟨g, 0, none⟩) l.length kc] := hx.below' hW hbB
      have c1 := hxW.cell 1
      simp at c1
      obtain ⟨ln, hln⟩ : ∃ ln, ln = l.length := ⟨_, rfl⟩
      rw [← hln] at c1 hl hb2 hcap
      have HLn : Hid (ln = l.length) := hln
      clear hx hxW hc hk hall ih ht htW ha hlen ha' hlen' hln hb1 ho h1 h2 h2'
      go_enter Tryz.func186, Tryz.ntmps186
      go_wp2
      go_region_held3 (fun w' => w'.cell? ⟨b, 1, none⟩ = some (.slice (some ⟨g, 0, none⟩) ln kc)) (go_keep) (first | (go_at_call 193; refine HKf.out.mono ?_; rintro e w1 ⟨i, rfl, rfl, hi1, q1, q2⟩; have i0 : (0 : Int) ≤ (i : Int) := (by omega); have i1 : (i : Int) ≤ (ln : Int) := (by rw [HLn.out]; omega); have hkci : ¬ kc = i := (by have := HLn.out; omega)) | fail)
      have HPre : Hid (fil lo hi ((l.take i).flatMap (keysR d)) = []) := HMath.out i hi1 q1
      obtain ⟨rl, hrl⟩ : ∃ rl, rl = ln - i := ⟨_, rfl⟩
      have hrl2 : i + rl = ln := by have := HLn.out; omega
      go_wp2
      rw [← hrl]
      have HRl : Hid (i + rl = ln) := hrl2
      have hrlb : rl ≤ 4 := by omega
      clear hrl hrl2 q1 q2 HKf
      go_loopw [1, 20] (fun q k wr => ∃ (j m : Nat) (a : Option Addr) (c : Nat), j ≤ rl ∧ k = .int .i64 j ∧ q = .slice a m c ∧ m = (L0 ++ fil lo hi ((l.take (i + j)).flatMap (keysR d))).length ∧ wr.ownsRow B 9 1 (.slice a m c) m (strL (L0 ++ fil lo hi ((l.take (i + j)).flatMap (keysR d)))) ∧ Below B W wr) (fun _ k _ => rl - (intOf k).toNat)
      case atStart => exact ⟨0, n0, a0, c0, Nat.zero_le _, rfl, rfl, by rw [Nat.add_zero, HPre.out, List.append_nil]; exact HO.out.2.1, by rw [Nat.add_zero, HPre.out, List.append_nil]; exact HO.out.1, (Below.refl _ _).drew⟩
      case round =>
        obtain ⟨j, m, a, c, hj, rfl, rfl, hm, hown, hbel⟩ := hrel
        have HS : Hid (m = (L0 ++ fil lo hi ((l.take (i + j)).flatMap (keysR d))).length ∧ wr.ownsRow B 9 1 (.slice a m c) m (strL (L0 ++ fil lo hi ((l.take (i + j)).flatMap (keysR d)))) ∧ Below B W wr) := ⟨hm, hown, hbel⟩
        have hz := hbel.size
        have hml : m ≤ n0 + ((l.take (i + j)).flatMap (keysR d)).length := by
          rw [List.length_append] at hm
          have := fil_le lo hi ((l.take (i + j)).flatMap (keysR d))
          have := HO.out.2.1
          omega
        clear hm hown hbel
        by_cases hlt : j < rl
        · have hkl : i + j < l.length := by have := HLn.out; have := HRl.out; omega
          obtain ⟨u, hcu, hgc, hleast⟩ := HKid.out (i + j) hkl
          have cu := hcu wr (HO.out.2.2.trans HS.out.2.2)
          have j0 : (0 : Int) ≤ (j : Int) := by omega
          have j1 : (j : Int) < (rl : Int) := by omega
          have hft := flat_len_take l (i + j) hkl
          have hfl := flat_take_le (keysR d) l (i + j + 1)
          have hgb2 : m + (keysR d l[i + j]).length ≤ 1073741824 := by have := H2.out; omega
          have hgb1 : m ≤ 1073741824 := by omega
          have HNext : Hid (L0 ++ fil lo hi ((l.take (i + j)).flatMap (keysR d)) ++ fil lo hi (keysR d l[i + j]) = L0 ++ fil lo hi ((l.take (i + j + 1)).flatMap (keysR d))) := by
            show L0 ++ fil lo hi ((l.take (i + j)).flatMap (keysR d)) ++ fil lo hi (keysR d l[i + j]) = L0 ++ fil lo hi ((l.take (i + j + 1)).flatMap (keysR d))
            rw [flat_take (keysR d) l (i + j) hkl, fil_app, List.append_assoc]
          obtain ⟨least, hle⟩ : ∃ least, gt (keysR d l[i + j]) 0 = least := ⟨_, rfl⟩
          rw [hle] at hleast
          have HLst : Hid (gt (keysR d l[i + j]) 0 = least) := hle
          have HBm : Hid (m + (keysR d l[i + j]).length ≤ 1073741824) := hgb2
          clear hft hfl hle hcu hgb2
          rcases hleast with ⟨p, rfl, hls⟩ | ⟨p, rfl, hls⟩
          · rcases hgc with ⟨p', e', hgq⟩ | ⟨p', e', hgq⟩
            · injection e' with e1 e'
              injection e' with e'
              injection e' with e'
              clear e1
              subst e'
              have HG : Hid (∀ (W : World) (a0 : Option Addr) (n0 c0 : Nat) (L0 : List ByteArray), Below B w W → B ≤ W.heap.size → W.ownsRow B 9 1 (.slice a0 n0 c0) n0 (strL L0) → n0 = L0.length → n0 ≤ 1073741824 → Calls Tryz.prog 203 #[.pointer (some p), .slice a0 n0 c0, .string lo, .string hi] W (RetGa B W (L0 ++ fil lo hi (keysR d l[i + j])))) := hgq
              have hgb := hgb1
              clear hgq
              have HLs : Hid (∀ W', Below B w W' → Calls Tryz.prog 205 #[.pointer (some p)] W' fun e w' => e = .returned (.string least) ∧ w' = W') := hls
              clear hls
              by_cases hem : hi.toList = []
              · have hem2 : hi.toList.isEmpty = true := by simpa using hem
                go_wp2_with fail
                refine (HG.out wr a m c (L0 ++ fil lo hi ((l.take (i + j)).flatMap (keysR d))) (HO.out.2.2.trans HS.out.2.2) (by omega) HS.out.2.1 HS.out.1 hgb).mono ?_
                rintro e w5 ⟨a5, c5, he, ho5, hb5⟩
                rw [HNext.out] at he ho5
                obtain ⟨m5, hm5⟩ : ∃ m5, m5 = (L0 ++ fil lo hi ((l.take (i + j + 1)).flatMap (keysR d))).length := ⟨_, rfl⟩
                rw [← hm5] at he ho5
                subst he
                have HX : Hid (m5 = (L0 ++ fil lo hi ((l.take (i + (j + 1))).flatMap (keysR d))).length ∧ w5.ownsRow B 9 1 (.slice a5 m5 c5) m5 (strL (L0 ++ fil lo hi ((l.take (i + (j + 1))).flatMap (keysR d)))) ∧ Below B W wr → Below B W w5) := fun h => h.2.2.trans hb5
                have HX2 : Hid (m5 = (L0 ++ fil lo hi ((l.take (i + (j + 1))).flatMap (keysR d))).length ∧ w5.ownsRow B 9 1 (.slice a5 m5 c5) m5 (strL (L0 ++ fil lo hi ((l.take (i + (j + 1))).flatMap (keysR d)))) ∧ Below B W w5) := ⟨hm5, ho5, HS.out.2.2.trans hb5⟩
                clear hm5 ho5 hb5 HX
                go_wp2
                go_roundw
                case rel => exact ⟨j + 1, m5, a5, c5, by omega, by go_num, rfl, HX2.out⟩
                case measure => simp [intOf]; omega
              · have hem2 : hi.toList.isEmpty = false := by simpa using hem
                cases hlh : Op.bytesLess least.toList hi.toList with
                | true =>
                  go_wp2_with fail
                  refine (HLs.out wr (HO.out.2.2.trans HS.out.2.2)).mono ?_
                  rintro e w4 ⟨rfl, rfl⟩
                  go_wp2_with fail
                  refine (HG.out w4 a m c (L0 ++ fil lo hi ((l.take (i + j)).flatMap (keysR d))) (HO.out.2.2.trans HS.out.2.2) (by omega) HS.out.2.1 HS.out.1 hgb).mono ?_
                  rintro e w5 ⟨a5, c5, he, ho5, hb5⟩
                  rw [HNext.out] at he ho5
                  obtain ⟨m5, hm5⟩ : ∃ m5, m5 = (L0 ++ fil lo hi ((l.take (i + j + 1)).flatMap (keysR d))).length := ⟨_, rfl⟩
                  rw [← hm5] at he ho5
                  subst he
                  have HX : Hid (m5 = (L0 ++ fil lo hi ((l.take (i + (j + 1))).flatMap (keysR d))).length ∧ w5.ownsRow B 9 1 (.slice a5 m5 c5) m5 (strL (L0 ++ fil lo hi ((l.take (i + (j + 1))).flatMap (keysR d)))) ∧ Below B W w4 → Below B W w5) := fun h => h.2.2.trans hb5
                  have HX2 : Hid (m5 = (L0 ++ fil lo hi ((l.take (i + (j + 1))).flatMap (keysR d))).length ∧ w5.ownsRow B 9 1 (.slice a5 m5 c5) m5 (strL (L0 ++ fil lo hi ((l.take (i + (j + 1))).flatMap (keysR d)))) ∧ Below B W w5) := ⟨hm5, ho5, HS.out.2.2.trans hb5⟩
                  clear hm5 ho5 hb5 HX
                  go_wp2
                  go_roundw
                  case rel => exact ⟨j + 1, m5, a5, c5, by omega, by go_num, rfl, HX2.out⟩
                  case measure => simp [intOf]; omega
                | false =>
                  have HEnd : Hid (fil lo hi (l.flatMap (keysR d)) = fil lo hi ((l.take (i + j)).flatMap (keysR d))) := HAft.out (i + j) hkl hem (by rw [HLst.out]; exact hlh)
                  go_wp2_with fail
                  refine (HLs.out wr (HO.out.2.2.trans HS.out.2.2)).mono ?_
                  rintro e w4 ⟨rfl, rfl⟩
                  go_wp2
                  go_ret
                  have q := HS.out
                  rw [← HEnd.out] at q
                  exact ⟨a, c, by rw [show (L0 ++ fil lo hi (keysR (d + 1) (.inr l))).length = m from q.1.symm]; rfl, by rw [show (L0 ++ fil lo hi (keysR (d + 1) (.inr l))).length = m from q.1.symm]; exact q.2.1, q.2.2⟩
            · injection e' with e' _
              exact absurd e' (by decide)
          · rcases hgc with ⟨p', e', hgq⟩ | ⟨p', e', hgq⟩
            · injection e' with e' _
              exact absurd e' (by decide)
            · injection e' with e1 e'
              injection e' with e'
              injection e' with e'
              clear e1
              subst e'
              have HG : Hid (∀ (W : World) (a0 : Option Addr) (n0 c0 : Nat) (L0 : List ByteArray), Below B w W → B ≤ W.heap.size → W.ownsRow B 9 1 (.slice a0 n0 c0) n0 (strL L0) → n0 = L0.length → n0 + (keysR d l[i + j]).length ≤ 1073741824 → Calls Tryz.prog 186 #[.pointer (some p), .slice a0 n0 c0, .string lo, .string hi] W (RetGa B W (L0 ++ fil lo hi (keysR d l[i + j])))) := hgq
              clear hgq
              have HLs : Hid (∀ W', Below B w W' → Calls Tryz.prog 188 #[.pointer (some p)] W' fun e w' => e = .returned (.string least) ∧ w' = W') := hls
              clear hls
              by_cases hem : hi.toList = []
              · have hem2 : hi.toList.isEmpty = true := by simpa using hem
                go_wp2_with fail
                refine (HG.out wr a m c (L0 ++ fil lo hi ((l.take (i + j)).flatMap (keysR d))) (HO.out.2.2.trans HS.out.2.2) (by omega) HS.out.2.1 HS.out.1 HBm.out).mono ?_
                rintro e w5 ⟨a5, c5, he, ho5, hb5⟩
                rw [HNext.out] at he ho5
                obtain ⟨m5, hm5⟩ : ∃ m5, m5 = (L0 ++ fil lo hi ((l.take (i + j + 1)).flatMap (keysR d))).length := ⟨_, rfl⟩
                rw [← hm5] at he ho5
                subst he
                have HX : Hid (m5 = (L0 ++ fil lo hi ((l.take (i + (j + 1))).flatMap (keysR d))).length ∧ w5.ownsRow B 9 1 (.slice a5 m5 c5) m5 (strL (L0 ++ fil lo hi ((l.take (i + (j + 1))).flatMap (keysR d)))) ∧ Below B W wr → Below B W w5) := fun h => h.2.2.trans hb5
                have HX2 : Hid (m5 = (L0 ++ fil lo hi ((l.take (i + (j + 1))).flatMap (keysR d))).length ∧ w5.ownsRow B 9 1 (.slice a5 m5 c5) m5 (strL (L0 ++ fil lo hi ((l.take (i + (j + 1))).flatMap (keysR d)))) ∧ Below B W w5) := ⟨hm5, ho5, HS.out.2.2.trans hb5⟩
                clear hm5 ho5 hb5 HX
                go_wp2
                go_roundw
                case rel => exact ⟨j + 1, m5, a5, c5, by omega, by go_num, rfl, HX2.out⟩
                case measure => simp [intOf]; omega
              · have hem2 : hi.toList.isEmpty = false := by simpa using hem
                cases hlh : Op.bytesLess least.toList hi.toList with
                | true =>
                  go_wp2_with fail
                  refine (HLs.out wr (HO.out.2.2.trans HS.out.2.2)).mono ?_
                  rintro e w4 ⟨rfl, rfl⟩
                  go_wp2_with fail
                  refine (HG.out w4 a m c (L0 ++ fil lo hi ((l.take (i + j)).flatMap (keysR d))) (HO.out.2.2.trans HS.out.2.2) (by omega) HS.out.2.1 HS.out.1 HBm.out).mono ?_
                  rintro e w5 ⟨a5, c5, he, ho5, hb5⟩
                  rw [HNext.out] at he ho5
                  obtain ⟨m5, hm5⟩ : ∃ m5, m5 = (L0 ++ fil lo hi ((l.take (i + j + 1)).flatMap (keysR d))).length := ⟨_, rfl⟩
                  rw [← hm5] at he ho5
                  subst he
                  have HX : Hid (m5 = (L0 ++ fil lo hi ((l.take (i + (j + 1))).flatMap (keysR d))).length ∧ w5.ownsRow B 9 1 (.slice a5 m5 c5) m5 (strL (L0 ++ fil lo hi ((l.take (i + (j + 1))).flatMap (keysR d)))) ∧ Below B W w4 → Below B W w5) := fun h => h.2.2.trans hb5
                  have HX2 : Hid (m5 = (L0 ++ fil lo hi ((l.take (i + (j + 1))).flatMap (keysR d))).length ∧ w5.ownsRow B 9 1 (.slice a5 m5 c5) m5 (strL (L0 ++ fil lo hi ((l.take (i + (j + 1))).flatMap (keysR d)))) ∧ Below B W w5) := ⟨hm5, ho5, HS.out.2.2.trans hb5⟩
                  clear hm5 ho5 hb5 HX
                  go_wp2
                  go_roundw
                  case rel => exact ⟨j + 1, m5, a5, c5, by omega, by go_num, rfl, HX2.out⟩
                  case measure => simp [intOf]; omega
                | false =>
                  have HEnd : Hid (fil lo hi (l.flatMap (keysR d)) = fil lo hi ((l.take (i + j)).flatMap (keysR d))) := HAft.out (i + j) hkl hem (by rw [HLst.out]; exact hlh)
                  go_wp2_with fail
                  refine (HLs.out wr (HO.out.2.2.trans HS.out.2.2)).mono ?_
                  rintro e w4 ⟨rfl, rfl⟩
                  go_wp2
                  go_ret
                  have q := HS.out
                  rw [← HEnd.out] at q
                  exact ⟨a, c, by rw [show (L0 ++ fil lo hi (keysR (d + 1) (.inr l))).length = m from q.1.symm]; rfl, by rw [show (L0 ++ fil lo hi (keysR (d + 1) (.inr l))).length = m from q.1.symm]; exact q.2.1, q.2.2⟩
        · have e : j = rl := by omega
          subst e
          have HEnd : Hid ((l.take (i + j)).flatMap (keysR d) = l.flatMap (keysR d)) := by
            show (l.take (i + j)).flatMap (keysR d) = l.flatMap (keysR d)
            rw [HRl.out, HLn.out, List.take_length]
          go_wp2
          go_ret
          have q := HS.out
          rw [HEnd.out] at q
          exact ⟨a, c, by rw [show (L0 ++ fil lo hi (keysR (d + 1) (.inr l))).length = m from q.1.symm]; rfl, by rw [show (L0 ++ fil lo hi (keysR (d + 1) (.inr l))).length = m from q.1.symm]; exact q.2.1, q.2.2⟩
end Go.Proofs.YtcnollkkigiobaaGreat

namespace Go.Proofs.YtcnollkkigiobaaGreat
open Go.RowKit Go.Deep
set_option linter.unusedVariables false
set_option maxRecDepth 100000

/-- What TreeRange answers. -/
def RetRg (w : World) (n : Nat) (N : Nat → Tn) (lo hi : ByteArray) (e : Ending) (w' : World) : Prop :=
  ∃ (L : List ByteArray) (a : Option Addr) (c : Nat), e = .returned (.slice a L.length c) ∧ OwnS w' w.heap.size a L.length (gt L) ∧ Below w.heap.size w w' ∧ L.length ≤ 1048576 ∧ ((∃ t, VTt n N t ∧ L = fil lo hi (keysR 21 t)) ∨ (¬ VT n N ∧ L = []))

end Go.Proofs.YtcnollkkigiobaaGreat


namespace Go.Proofs.YtcnollkkigiobaaGreat
open Go.RowKit Go.Deep
set_option linter.unusedVariables false
set_option maxRecDepth 100000

theorem pk_inj {k k' : ByteArray} {i : Nat} (h : pk k i = pk k' i) : ∀ n, n < 4 → kb k (4 * i + n) = kb k' (4 * i + n) := by
  have e1 : ∀ q : ByteArray, pkn q i 1 = kb q (4 * i + 0) := fun q => by show 256 * 0 + kb q (4 * i + 0) = _; omega
  have e2 : ∀ q : ByteArray, pkn q i 2 = 256 * pkn q i 1 + kb q (4 * i + 1) := fun _ => rfl
  have e3 : ∀ q : ByteArray, pkn q i 3 = 256 * pkn q i 2 + kb q (4 * i + 2) := fun _ => rfl
  have e4 : ∀ q : ByteArray, pk q i = 256 * pkn q i 3 + kb q (4 * i + 3) := fun _ => rfl
  have r : ∀ (q : ByteArray) (n : Nat), 0 ≤ kb q (4 * i + n) ∧ kb q (4 * i + n) < 256 := fun q n => kb_range q _
  intro n hn
  have a1 := e1 k; have a2 := e2 k; have a3 := e3 k; have a4 := e4 k
  have b1 := e1 k'; have b2 := e2 k'; have b3 := e3 k'; have b4 := e4 k'
  have r0 := r k 0; have r1 := r k 1; have r2 := r k 2; have r3 := r k 3
  have s0 := r k' 0; have s1 := r k' 1; have s2 := r k' 2; have s3 := r k' 3
  rcases (show n = 0 ∨ n = 1 ∨ n = 2 ∨ n = 3 by omega) with rfl | rfl | rfl | rfl <;> omega
theorem posF_onto (perm : Nat) (hp : perm < 6) (i : Nat) (hi : i < 4) : ∃ s, s < 4 ∧ posF perm s = i := by
  rcases (show perm = 0 ∨ perm = 1 ∨ perm = 2 ∨ perm = 3 ∨ perm = 4 ∨ perm = 5 by omega) with rfl | rfl | rfl | rfl | rfl | rfl <;> rcases (show i = 0 ∨ i = 1 ∨ i = 2 ∨ i = 3 by omega) with rfl | rfl | rfl | rfl <;>
    first | exact ⟨0, by omega, rfl⟩ | exact ⟨1, by omega, rfl⟩ | exact ⟨2, by omega, rfl⟩ | exact ⟨3, by omega, rfl⟩
theorem quadOf_inj {perm : Nat} (hp : perm < 6) {k k' : ByteArray} (hk : k.size = 16) (hk' : k'.size = 16) (h : quadOf perm k = quadOf perm k') : k = k' := by
  injection h with h0 h1 h2 h3
  have hall : ∀ i, i < 4 → pk k i = pk k' i := fun i hi => by
    obtain ⟨s, hs, e⟩ := posF_onto perm hp i hi
    rw [← e]
    rcases (show s = 0 ∨ s = 1 ∨ s = 2 ∨ s = 3 by omega) with rfl | rfl | rfl | rfl
    · exact h0
    · exact h1
    · exact h2
    · exact h3
  have hb : ∀ m, m < 16 → kb k m = kb k' m := fun m hm => by
    have := pk_inj (hall (m / 4) (by omega)) (m % 4) (by omega)
    rw [show 4 * (m / 4) + m % 4 = m by omega] at this
    exact this
  apply ByteArray.ext
  apply Array.ext
  · show k.size = k'.size
    rw [hk, hk']
  · intro m h1 h2
    obtain ⟨x, ex, ebx⟩ := kb_get (k := k) (i := m) h1
    obtain ⟨y, ey, eby⟩ := kb_get (k := k') (i := m) h2
    have hxy := hb m (by rw [← hk]; exact h1)
    rw [ebx, eby] at hxy
    have hxy2 : x = y := by
      apply UInt8.toNat_inj.1
      omega
    have gx : k.data[m]? = some x := by
      rw [← ex]
      first | rfl | simp
    have gy : k'.data[m]? = some y := by
      rw [← ey]
      first | rfl | simp
    rw [Array.getElem?_eq_getElem h1] at gx
    rw [Array.getElem?_eq_getElem h2] at gy
    injection gx with gx
    injection gy with gy
    rw [gx, gy, hxy2]
theorem quads_nodup {perm : Nat} (hp : perm < 6) {K : List ByteArray} (hasc : Asc K) (hk : ∀ k, k ∈ K → k.size = 16) : (K.map (quadOf perm)).Nodup := by
  rw [List.Nodup, List.pairwise_map]
  refine List.Pairwise.imp_of_mem (fun {a b} ha hb hlt e => ?_) hasc
  have := quadOf_inj hp (hk a ha) (hk b hb) e
  subst this
  rw [less_irrefl] at hlt
  cases hlt
end Go.Proofs.YtcnollkkigiobaaGreat
