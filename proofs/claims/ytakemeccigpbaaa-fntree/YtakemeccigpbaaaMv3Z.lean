import Derived.Test.YtakemeccigpbaaaTsTZ
import Derived.Test.YtakemeccigpbaaaTrXZ
import Derived.Test.YtakemeccigpbaaaTrTZ
import Derived.Test.YtakemeccigpbaaaMv2Z
import Derived.Test.YtakemeccigpbaaaMv1Z
import Derived.Test.YtakemeccigpbaaaMo1Z
import Derived.Test.YtakemeccigpbaaaMu1Z
namespace Go.Proofs.Ytakemeccigpbaaa
open Go.RowKit Go.Deep
set_option linter.unusedVariables false

/-- The same tree, whatever it is counted as. -/
def SmR : (d e : Nat) → Ro d → Ro e → Prop
  | d + 1, e + 1, .inl L, .inl L' => L = L'
  | d + 1, e + 1, .inr l, .inr l' => l.length = l'.length ∧ ∀ k (h : k < l.length) (h' : k < l'.length), SmR d e l[k] l'[k]
  | _, _, _, _ => False

theorem SmR.nodes : ∀ {d e : Nat} {t : Ro d} {t' : Ro e}, SmR d e t t' → nodesR d t = nodesR e t'
  | 0, _, t, _, _ => t.elim
  | _ + 1, 0, _, t', _ => t'.elim
  | d + 1, e + 1, .inl L, .inl L', h => rfl
  | d + 1, e + 1, .inr l, .inr l', h => by
    have q := off_congr (fun j h1 h2 => SmR.nodes (h.2 j h1 h2)) l.length (Nat.le_refl _) (by rw [h.1]; exact Nat.le_refl _)
    rw [offR_all] at q
    rw [h.1, offR_all] at q
    show 1 + _ = 1 + _
    rw [q]
  | d + 1, e + 1, .inl L, .inr l', h => h.elim
  | d + 1, e + 1, .inr L, .inl l', h => h.elim

theorem SmR.keys : ∀ {d e : Nat} {t : Ro d} {t' : Ro e}, SmR d e t t' → keysR d t = keysR e t'
  | 0, _, t, _, _ => t.elim
  | _ + 1, 0, _, t', _ => t'.elim
  | d + 1, e + 1, .inl L, .inl L', h => h
  | d + 1, e + 1, .inr l, .inr l', h => flat_congr (keysR d) (keysR e) l l' h.1 (fun k h1 h2 => SmR.keys (h.2 k h1 h2))
  | d + 1, e + 1, .inl L, .inr l', h => h.elim
  | d + 1, e + 1, .inr L, .inl l', h => h.elim

theorem smR_of {N : Nat → Tn} : ∀ {d e : Nat} {t : Ro d} {t' : Ro e} {x : Nat}, Tells N 0 d t x → Tells N 0 e t' x → SmR d e t t'
  | 0, _, t, _, _, _, _ => t.elim
  | _ + 1, 0, _, t', _, _, _ => t'.elim
  | d + 1, e + 1, .inl L, .inl L', x, h, h' => by
    show L = L'
    obtain ⟨_, h2, h3, _⟩ := h
    obtain ⟨_, g2, g3, _⟩ := h'
    apply List.ext_getElem (by omega)
    intro i h1 h4
    have q1 := h3 i h1
    rw [g3 i h4] at q1
    unfold gt at q1
    rw [List.getD_eq_getElem?_getD, List.getD_eq_getElem?_getD, List.getElem?_eq_getElem h1, List.getElem?_eq_getElem h4] at q1
    exact q1.symm
  | d + 1, e + 1, .inl L, .inr l', x, h, h' => by
    have q := h.1
    rw [h'.1] at q
    cases q
  | d + 1, e + 1, .inr l, .inl L', x, h, h' => by
    have q := h.1
    rw [h'.1] at q
    cases q
  | d + 1, e + 1, .inr l, .inr l', x, h, h' => by
    have hl : l.length = l'.length := h.2.1.symm.trans h'.2.1
    have t1 := h.2.2.2.2.2.2
    have t2 := h'.2.2.2.2.2.2
    have key : ∀ k, k ≤ l.length → offR d l k = offR e l' k ∧ ∀ j (h : j < l.length) (h' : j < l'.length), j < k → SmR d e l[j] l'[j] := by
      intro k
      induction k with
      | zero => intro _; exact ⟨by rw [offR_zero, offR_zero], fun j _ _ hj => absurd hj (Nat.not_lt_zero _)⟩
      | succ k ih =>
        intro hk
        obtain ⟨q1, q2⟩ := ih (by omega)
        have sk : SmR d e (l[k]'(by omega)) (l'[k]'(by omega)) := smR_of (t1 k (by omega)) (by rw [q1]; exact t2 k (by omega))
        refine ⟨by rw [offR_succ d l k (by omega), offR_succ e l' k (by omega), q1, sk.nodes], fun j h1 h2 hj => ?_⟩
        by_cases e : j = k
        · subst e; exact sk
        · exact q2 j h1 h2 (by omega)
    exact ⟨hl, fun k h1 h2 => (key l.length (Nat.le_refl _)).2 k h1 h2 h1⟩

theorem SmR.tow {B : Nat} {w : World} : ∀ {d e : Nat} {t : Ro d} {t' : Ro e} {v : Value} {bs : List Nat}, SmR d e t t' → TOw B w d t v bs → TOw B w e t' v bs
  | 0, _, t, _, _, _, _, _ => t.elim
  | _ + 1, 0, _, t', _, _, _, _ => t'.elim
  | d + 1, e + 1, .inl L, .inl L', v, bs, h, ho => by
    have h' : L = L' := h
    subst h'
    exact ho
  | d + 1, e + 1, .inr l, .inr l', v, bs, h, ho => by
    have hk := SmR.keys (d := d + 1) (e := e + 1) (t := .inr l) (t' := .inr l') h
    have hk' : l.flatMap (keysR d) = l'.flatMap (keysR e) := hk
    obtain ⟨b, g, kc, xs, bss, rfl, hB, hx, hr, hl, hbl, rfl, hall⟩ := ho
    have hl' := h.1
    rw [hk', hl'] at hx
    rw [hl'] at hr hl hbl
    refine ⟨b, g, kc, xs, bss, rfl, hB, hx, hr, hl, hbl, rfl, fun k hk => ?_⟩
    obtain ⟨u, us, e1, e2, e3⟩ := hall k (by omega)
    exact ⟨u, us, e1, e2, SmR.tow (h.2 k (by omega) hk) e3⟩
  | d + 1, e + 1, .inl L, .inr l', _, _, h, _ => h.elim
  | d + 1, e + 1, .inr L, .inl l', _, _, h, _ => h.elim
end Go.Proofs.Ytakemeccigpbaaa

namespace Go.Proofs.Ytakemeccigpbaaa
open Go.RowKit Go.Deep
set_option linter.unusedVariables false
set_option maxRecDepth 100000

/-- What tellTree hands back. -/
def RetTt (w : World) (d : Nat) (y : Ro d) (e : Ending) (w' : World) : Prop :=
  Below w.heap.size w w' ∧ ∃ a c N' KA DA KC DC, e = .returned (.agg #[.slice a (nodesR d y) c]) ∧ GT w' (w.heap.size + 1) (.slice a (nodesR d y) c) (nodesR d y) N' KA DA KC DC ∧ Tells N' 0 d y 0

set_option maxHeartbeats 2000000 in
theorem tellTree_any (d : Nat) (y : Ro d) (v : Value) (S : Nat → Prop) (w : World) (root : Bool) (h : Nat) (ht : TAo S w d y v) (hb : BalR d root y h) (hS : ∀ x, S x → x < w.heap.size) (hn : nodesR d y ≤ 100000) : Calls Try.prog 34 #[v] w (RetTt w d y) := by
  have hct := tellO d y v S (w.alloc (.cells #[.slice none 0 0] 25)) root h (w.heap.size + 1) 0 0 none (fun _ => ⟨false, 0, fun _ => { data := #[] }, 0, fun _ => 0, 0⟩) (fun _ => none) (fun _ => none) (fun _ => 0) (fun _ => 0) (ht.below (below_alloc _ _)) hb (GT.nil _ _ _ _ _ _ _) (by simp) (fun x hx => by have := hS x hx; omega) (by omega)
  obtain ⟨m, hm⟩ : ∃ m, m = nodesR d y := ⟨_, rfl⟩
  have HM : Hid (m = nodesR d y) := hm
  obtain ⟨bb, _, _, _, hform⟩ := ht.count
  rcases hform with rfl | rfl
  · have HC : Hid (Calls Try.prog 110 #[.pointer (some ⟨bb, 0, none⟩), .slice none 0 0] (w.alloc (.cells #[.slice none 0 0] 25)) (RetTl (w.alloc (.cells #[.slice none 0 0] 25)) (w.heap.size + 1) (.slice none 0 0) 0 (fun _ => ⟨false, 0, fun _ => { data := #[] }, 0, fun _ => 0, 0⟩) (fun _ => none) (fun _ => none) m (fun N' => Tells N' 0 d y 0))) := by
      rw [hm]
      exact callT_leaf hct
    clear hct ht hb hS hn hm
    go_enter Try.func34, Try.ntmps34
    go_wp2_with fail
    (with_reducible refine HC.out.mono ?_)
    rintro e w1 ⟨v', N', KA', DA', KC', DC', rfl, q1, q2, q3, q4, q5, q6⟩
    rw [Nat.zero_add] at q1
    obtain ⟨a1, c1, e1, _⟩ := own_form q1.row
    subst e1
    have hz := q2.size
    have hbx : Bx w1 w.heap.size 25 #[.slice none 0 0] := (Bx.new w #[.slice none 0 0] 25).grown q2 (fun e => by cases e)
    have HX : Hid (GT w1 (w.heap.size + 1) (.slice a1 m c1) m N' KA' DA' KC' DC' ∧ Tells N' 0 d y 0 ∧ Below w.heap.size w w1 ∧ Bx w1 w.heap.size 25 #[.slice none 0 0]) := ⟨q1, q6, (below_alloc _ _).grown q2 (by simp) (fun g e => by cases e), hbx⟩
    have z0 := hbx.cell 0
    simp at z0
    have zf := hbx.frozen 0
    have zl := hbx.lt
    clear q1 q2 q3 q4 q5 q6 hbx hz HC
    go_wp2
    refine bodyPost_ret (v := .agg #[.slice a1 m c1]) (by simp [results, Try.results34, go_sem, z0]) rfl ⟨HX.out.2.2.1.setCell (by simp) _, a1, c1, N', KA', DA', KC', DC', by rw [HM.out], ?_, HX.out.2.1⟩
    rw [← HM.out]
    exact HX.out.1.keep (fun x hx => Below.heap_setCell _ _ _ _ (by have := (HX.out.1.used hx).1; show x ≠ w.heap.size; omega))
  · have HC : Hid (Calls Try.prog 127 #[.pointer (some ⟨bb, 0, none⟩), .slice none 0 0] (w.alloc (.cells #[.slice none 0 0] 25)) (RetTl (w.alloc (.cells #[.slice none 0 0] 25)) (w.heap.size + 1) (.slice none 0 0) 0 (fun _ => ⟨false, 0, fun _ => { data := #[] }, 0, fun _ => 0, 0⟩) (fun _ => none) (fun _ => none) m (fun N' => Tells N' 0 d y 0))) := by
      rw [hm]
      exact callT_inner hct
    clear hct ht hb hS hn hm
    go_enter Try.func34, Try.ntmps34
    go_wp2_with fail
    (with_reducible refine HC.out.mono ?_)
    rintro e w1 ⟨v', N', KA', DA', KC', DC', rfl, q1, q2, q3, q4, q5, q6⟩
    rw [Nat.zero_add] at q1
    obtain ⟨a1, c1, e1, _⟩ := own_form q1.row
    subst e1
    have hz := q2.size
    have hbx : Bx w1 w.heap.size 25 #[.slice none 0 0] := (Bx.new w #[.slice none 0 0] 25).grown q2 (fun e => by cases e)
    have HX : Hid (GT w1 (w.heap.size + 1) (.slice a1 m c1) m N' KA' DA' KC' DC' ∧ Tells N' 0 d y 0 ∧ Below w.heap.size w w1 ∧ Bx w1 w.heap.size 25 #[.slice none 0 0]) := ⟨q1, q6, (below_alloc _ _).grown q2 (by simp) (fun g e => by cases e), hbx⟩
    have z0 := hbx.cell 0
    simp at z0
    have zf := hbx.frozen 0
    have zl := hbx.lt
    clear q1 q2 q3 q4 q5 q6 hbx hz HC
    go_wp2
    refine bodyPost_ret (v := .agg #[.slice a1 m c1]) (by simp [results, Try.results34, go_sem, z0]) rfl ⟨HX.out.2.2.1.setCell (by simp) _, a1, c1, N', KA', DA', KC', DC', by rw [HM.out], ?_, HX.out.2.1⟩
    rw [← HM.out]
    exact HX.out.1.keep (fun x hx => Below.heap_setCell _ _ _ _ (by have := (HX.out.1.used hx).1; show x ≠ w.heap.size; omega))
/-- What TreeInsert hands back, in memory of its own. -/
def RetTi (w : World) (n : Nat) (N : Nat → Tn) (key : ByteArray) (e : Ending) (w' : World) : Prop :=
  Below w.heap.size w w' ∧ ∃ ok a m c M KA DA KC DC, e = .returned (.agg #[.bool ok, .slice a m c]) ∧ GT w' w.heap.size (.slice a m c) m M KA DA KC DC ∧ ((ok = true ∧ InsTo n N key m M) ∨ (ok = false ∧ m = n ∧ M = N ∧ InsNo n N key))

theorem GT.mono {w : World} {B B' : Nat} {v : Value} {n : Nat} {N : Nat → Tn} {KA DA : Nat → Option Addr} {KC DC : Nat → Nat} (h : GT w B v n N KA DA KC DC) (hB : B' ≤ B) : GT w B' v n N KA DA KC DC :=
  ⟨own_mono h.row hB, fun i hi => (h.keys i hi).mono hB, fun i hi => (h.kids i hi).mono hB, h.apartK, h.apartD⟩

/-- What grownRoot leaves, whichever way it goes. -/
def RetGo (key : ByteArray) (t : Ro 21) (w : World) (b : Nat) (e : Ending) (w' : World) : Prop :=
  ∃ (D : Nat) (y : Ro D) (v' : Value) (S : Nat → Prop) (hh : Nat) (rs : List (Ro 21)), e = .returned v' ∧ Fr2 w w' b b ∧ TAo S w' D y v' ∧ (∀ x, S x → x < w'.heap.size) ∧ BalR D true y hh ∧ InsR key 21 t rs ∧ nodesR D y = insN rs ∧ nodesR D y ≤ 6000 ∧ ∀ M, Tells M 0 D y 0 → InsT M rs

theorem grown_any (key : ByteArray) (t u : Ro 21) (v : Value) (b hh : Nat) (S : Nat → Prop) (w : World) (h : NdI S w b 21 u v) (hb : ¬ S b) (hS : ∀ x, S x → x < w.heap.size) (hbw : b < w.heap.size) (hu : InsU key 21 t u) (hbal : BalR 21 true t hh) (hn : nodesR 21 t ≤ 5000) : Calls Try.prog 38 #[v] w (RetGo key t w b) := by
  have h5 := sizU_le hbal hu
  have hk := keysU_len hbal hu hn (by omega)
  have hnod := hu.insR.nodes
  by_cases h4 : sizR u ≤ 4
  · refine (grown_small 20 b u v S w h h4).mono ?_
    rintro e w' ⟨rfl, rfl⟩
    have hrs : splU 21 u = [u] := splR_one h4
    have hbu : BalR 21 true u hh := by
      rcases InsR.bal hbal hu.insR with ⟨y, e, hy⟩ | ⟨y, z, e, _⟩
      · rw [hrs] at e
        injection e with e
        rw [e]
        exact hy
      · rw [hrs] at e
        injection e with _ e
        cases e
    rw [hrs] at hnod
    simp only [List.map_cons, List.map_nil, List.sum_cons, List.sum_nil] at hnod
    refine ⟨21, u, v, _, hh, [u], rfl, ⟨rfl, rfl, rfl, Nat.le_refl _, fun _ _ _ _ => rfl⟩, h.tao hb, fun x hx => ?_, hbu, by rw [← hrs]; exact hu.insR, by simp [insN], by omega, fun M hM => hM⟩
    rcases hx with hx | hx
    · exact hS x hx
    · omega
  · have h5' : sizR u = 5 := by omega
    refine (grown_big 20 b u v S w h hb hS h5' hk).mono ?_
    rintro e w' ⟨v', rfl, hf, ht⟩
    have hrs : splU 21 u = [cutR 0 3 u, cutR 3 5 u] := splR_two h5'
    have hbu : BalR 22 true (.inr [cutR 0 3 u, cutR 3 5 u]) (hh + 1) := by
      rcases InsR.bal hbal hu.insR with ⟨y, e, hy⟩ | ⟨y, z, e, hy, hz⟩
      · rw [hrs] at e
        injection e with _ e
        cases e
      · rw [hrs] at e
        injection e with e1 e
        injection e with e2 e
        refine ⟨by simp, by simp, hh, rfl, fun t ht => ?_⟩
        simp at ht
        rcases ht with rfl | rfl
        · rw [e1]; exact hy
        · rw [e2]; exact hz
    rw [hrs] at hnod
    refine ⟨22, _, v', fun x => (S x ∨ x = b ∨ w.heap.size ≤ x) ∧ x < w'.heap.size, hh + 1, [cutR 0 3 u, cutR 3 5 u], rfl, hf, TAo.keep (Nat.le_refl _) (fun x hx hl => ⟨⟨hx, hl⟩, rfl⟩) ht, fun x hx => hx.2, hbu, by rw [← hrs]; exact hu.insR, rfl, ?_, fun M hM => hM⟩
    show 1 + (([cutR 0 3 u, cutR 3 5 u] : List (Ro 21)).map (nodesR 21)).sum ≤ 6000
    omega

set_option maxHeartbeats 8000000 in
theorem implIns (a : Option Addr) (n c : Nat) (N : Nat → Tn) (key : ByteArray) (w : World) (h : RdTn w a n N) (hn : n ≤ 1048576) (hN : ∀ i, i < n → TnFit (N i)) (hkey : key.size ≤ maxLen) :
    Calls Try.prog 13 #[.agg #[.slice a n c], .string key] w (RetTi w n N key) := by
  have HR : Hid (RdTn w a n N ∧ ∀ i, i < n → TnFit (N i)) := ⟨h, hN⟩
  clear h hN
  have HB0 : Hid (∀ O1 O2 : Obj, Below w.heap.size w ((w.alloc O1).alloc O2)) := fun _ _ => (below_alloc _ _).alloc (by simp) _
  have HRd : Hid (∀ W, Below w.heap.size w W → Calls Try.prog 35 #[.agg #[.slice a n c]] W (RetTreO W n N)) := fun W hW => readTreeO_any a n c N W (HR.out.1.below hW) hn HR.out.2
  go_enter Try.func13, Try.ntmps13
  go_wp2_with fail
  (with_reducible refine (HRd.out _ (HB0.out _ _)).mono ?_)
  rintro e w1 ⟨hb1, v, ok, rfl, hr⟩
  have htb := ((Bx.new w #[.slice a n c] 25).alloc (.cells #[.bool false, .slice none 0 0] 30)).below hb1
  have hrb : Bx w1 (w.heap.size + 1) 30 #[.bool false, .slice none 0 0] := by
    have q := (Bx.new (w.alloc (.cells #[.slice a n c] 25)) #[.bool false, .slice none 0 0] 30).below hb1
    simpa using q
  have HB1 : Hid (Below w.heap.size w w1) := (HB0.out _ _).trans (hb1.mono (by simp; omega))
  have hz1 : w.heap.size + 2 ≤ w1.heap.size := by have := hrb.lt; omega
  have BT1 : Hid (∀ W, Below (w.heap.size + 2) w1 W → Below w.heap.size w W ∧ W.cell? ⟨w.heap.size, 0, none⟩ = some (.slice a n c) ∧ w.heap.size < W.heap.size ∧ Bx W (w.heap.size + 1) 30 #[.bool false, .slice none 0 0]) := fun W hW => ⟨HB1.out.trans (hW.mono (by omega)), by simpa using (htb.below' hW (by omega)).cell 0, (htb.below' hW (by omega)).lt, hrb.below' hW (by omega)⟩
  have HRR : Hid ((ok = true ∧ ∃ (t : Ro n) (t' : Ro 21) (h : Nat), VTt n N t' ∧ keysR 21 t' = keysR n t ∧ BalR n true t h ∧ Tells N 0 n t 0 ∧ nodesR n t = n ∧ TOx (w.heap.size + 2) w1 n t v) ∨ (ok = false ∧ ¬ VT n N)) := by rw [World.size_alloc, World.size_alloc] at hr; exact hr
  clear hr hb1 htb hrb HRd
  cases ok with
  | false =>
    have HNo : Hid (InsNo n N key) := by
      intro t rs hv
      rcases HRR.out with ⟨q, _⟩ | ⟨_, q⟩
      · cases q
      · exact absurd ⟨t, hv⟩ q
    clear HRR
    have HBQ : Hid (Below w.heap.size w w1) := (BT1.out w1 (Below.refl _ _)).1
    have HBT : Hid (w1.cell? ⟨w.heap.size, 0, none⟩ = some (.slice a n c) ∧ w.heap.size < w1.heap.size ∧ Bx w1 (w.heap.size + 1) 30 #[.bool false, .slice none 0 0]) := (BT1.out w1 (Below.refl _ _)).2
    have HCp : Hid (Calls Try.prog 36 #[.agg #[.slice a n c]] w1 (RetOt w1 n N)) := copyI_any a n c N w1 (HR.out.1.below HBQ.out) hn HR.out.2
    have t0 := HBT.out.1
    have tz := HBT.out.2.1
    go_wp2_with fail
    (with_reducible refine HCp.out.mono ?_)
    rintro e wz ⟨hbz, az, cz, KZ, DZ, KCZ, DCZ, rfl, hrz⟩
    have HZb : Hid (Below w.heap.size w wz ∧ Bx wz (w.heap.size + 1) 30 #[.bool false, .slice none 0 0] ∧ GT wz (w.heap.size + 2) (.slice az n cz) n N KZ DZ KCZ DCZ) := ⟨HBQ.out.trans (hbz.mono HBQ.out.size), HBT.out.2.2.below hbz, hrz.mono (by have := HBT.out.2.2.lt; omega)⟩
    have r0 := HZb.out.2.1.cell 0
    have r1 := HZb.out.2.1.cell 1
    simp at r0 r1
    have rz := HZb.out.2.1.lt
    have rf := fun i => HZb.out.2.1.frozen i
    clear hbz hrz t0 tz
    go_wp2
    refine bodyPost_ret (v := .agg #[.bool false, .slice az n cz]) (by simp [results, Try.results13, go_sem, r0, r1]) rfl ⟨(HZb.out.1.setCell (by simp) _).setCell (by simp) _, false, az, n, cz, N, KZ, DZ, KCZ, DCZ, rfl, ?_, .inr ⟨rfl, rfl, rfl, HNo.out⟩⟩
    exact (HZb.out.2.2.keep (fun x hx => by rw [Below.heap_setCell _ _ _ _ (show x ≠ w.heap.size + 1 by have := (HZb.out.2.2.used hx).1; omega), Below.heap_setCell _ _ _ _ (show x ≠ w.heap.size + 1 by have := (HZb.out.2.2.used hx).1; omega)])).mono (by omega)
  | true =>
    obtain ⟨t, t', hh0, hvt, k1, k2, htl, k3, hox⟩ : ∃ (t : Ro n) (t' : Ro 21) (h : Nat), VTt n N t' ∧ keysR 21 t' = keysR n t ∧ BalR n true t h ∧ Tells N 0 n t 0 ∧ nodesR n t = n ∧ TOx (w.heap.size + 2) w1 n t v := by
      rcases HRR.out with ⟨_, q⟩ | ⟨q, _⟩
      · exact q
      · cases q
    obtain ⟨bs, hnd, how⟩ := hox
    have hsm := smR_of htl hvt.2.2.2.2.2
    have HOw : Hid (TOw (w.heap.size + 2) w1 21 t' v bs ∧ bs.Nodup) := ⟨hsm.tow how, hnd⟩
    have HVT : Hid (VTt n N t') := hvt
    obtain ⟨g1, g2, g3, ⟨hh, g4⟩, g5, g6⟩ := hvt
    have hend := nestR_end g3
    have HF : Hid (nodesR 21 t' ≤ 5000 ∧ BalR 21 true t' hh ∧ Asc (keysR 21 t')) := ⟨by omega, g4, asc_of_ascK g5⟩
    clear HRR htl how hnd hsm k1 k2 k3 g1 g2 g3 g4 g5 g6 hend t hh0
    by_cases hk16 : 16 < key.size
    · have i16 : (16 : Int) < (key.size : Int) := by omega
      have i16d : decide ((16 : Int) < (key.size : Int)) = true := decide_eq_true i16
      have HNo : Hid (InsNo n N key) := fun t rs _ q => absurd q (by omega)
      clear HVT HF HOw
      have HBQ : Hid (Below w.heap.size w w1) := (BT1.out w1 (Below.refl _ _)).1
      have HBT : Hid (w1.cell? ⟨w.heap.size, 0, none⟩ = some (.slice a n c) ∧ w.heap.size < w1.heap.size ∧ Bx w1 (w.heap.size + 1) 30 #[.bool false, .slice none 0 0]) := (BT1.out w1 (Below.refl _ _)).2
      have HCp : Hid (Calls Try.prog 36 #[.agg #[.slice a n c]] w1 (RetOt w1 n N)) := copyI_any a n c N w1 (HR.out.1.below HBQ.out) hn HR.out.2
      have t0 := HBT.out.1
      have tz := HBT.out.2.1
      go_wp2_with fail
      (with_reducible refine HCp.out.mono ?_)
      rintro e wz ⟨hbz, az, cz, KZ, DZ, KCZ, DCZ, rfl, hrz⟩
      have HZb : Hid (Below w.heap.size w wz ∧ Bx wz (w.heap.size + 1) 30 #[.bool false, .slice none 0 0] ∧ GT wz (w.heap.size + 2) (.slice az n cz) n N KZ DZ KCZ DCZ) := ⟨HBQ.out.trans (hbz.mono HBQ.out.size), HBT.out.2.2.below hbz, hrz.mono (by have := HBT.out.2.2.lt; omega)⟩
      have r0 := HZb.out.2.1.cell 0
      have r1 := HZb.out.2.1.cell 1
      simp at r0 r1
      have rz := HZb.out.2.1.lt
      have rf := fun i => HZb.out.2.1.frozen i
      clear hbz hrz t0 tz
      go_wp2
      refine bodyPost_ret (v := .agg #[.bool false, .slice az n cz]) (by simp [results, Try.results13, go_sem, r0, r1]) rfl ⟨(HZb.out.1.setCell (by simp) _).setCell (by simp) _, false, az, n, cz, N, KZ, DZ, KCZ, DCZ, rfl, ?_, .inr ⟨rfl, rfl, rfl, HNo.out⟩⟩
      exact (HZb.out.2.2.keep (fun x hx => by rw [Below.heap_setCell _ _ _ _ (show x ≠ w.heap.size + 1 by have := (HZb.out.2.2.used hx).1; omega), Below.heap_setCell _ _ _ _ (show x ≠ w.heap.size + 1 by have := (HZb.out.2.2.used hx).1; omega)])).mono (by omega)
    · have i16 : ¬ (16 : Int) < (key.size : Int) := by omega
      have i16d : decide ((16 : Int) < (key.size : Int)) = false := decide_eq_false i16
      have HK16 : Hid (key.size ≤ 16) := by show _ ≤ _; omega
      clear hk16
      have hci := insO key 21 t' v bs true hh (w.heap.size + 2) w1 HOw.out.1 HOw.out.2 HF.out.2.1 HF.out.2.2 HF.out.1 (by omega) hz1
      rcases hci with ⟨kb, rfl, hcall⟩ | ⟨kb, rfl, hcall⟩
      · have HC : Hid (Calls Try.prog 106 #[.pointer (some ⟨kb, 0, none⟩), .string key] w1 (RetO key 21 t' (.iface 53 (.pointer (some ⟨kb, 0, none⟩))) bs w1)) := hcall
        clear hcall
        go_wp2_with fail
        (with_reducible refine HC.out.mono ?_)
        rintro e w2 (⟨hm, rfl, hb2⟩ | ⟨hm, rfl, hf2, u, b, hbm, hu, hnd⟩)
        · have HNo : Hid (InsNo n N key) := fun t'' rs hv _ q => absurd (by rw [hv.fn HVT.out]; exact hm) q
          have HB2 : Hid (Below (w.heap.size + 2) w1 w2) := hb2.mono hz1
          clear hm hb2 HC HVT HF HOw
          have HBQ : Hid (Below w.heap.size w w2) := (BT1.out w2 HB2.out).1
          have HBT : Hid (w2.cell? ⟨w.heap.size, 0, none⟩ = some (.slice a n c) ∧ w.heap.size < w2.heap.size ∧ Bx w2 (w.heap.size + 1) 30 #[.bool false, .slice none 0 0]) := (BT1.out w2 HB2.out).2
          have HCp : Hid (Calls Try.prog 36 #[.agg #[.slice a n c]] w2 (RetOt w2 n N)) := copyI_any a n c N w2 (HR.out.1.below HBQ.out) hn HR.out.2
          have t0 := HBT.out.1
          have tz := HBT.out.2.1
          go_wp2_with fail
          (with_reducible refine HCp.out.mono ?_)
          rintro e wz ⟨hbz, az, cz, KZ, DZ, KCZ, DCZ, rfl, hrz⟩
          have HZb : Hid (Below w.heap.size w wz ∧ Bx wz (w.heap.size + 1) 30 #[.bool false, .slice none 0 0] ∧ GT wz (w.heap.size + 2) (.slice az n cz) n N KZ DZ KCZ DCZ) := ⟨HBQ.out.trans (hbz.mono HBQ.out.size), HBT.out.2.2.below hbz, hrz.mono (by have := HBT.out.2.2.lt; omega)⟩
          have r0 := HZb.out.2.1.cell 0
          have r1 := HZb.out.2.1.cell 1
          simp at r0 r1
          have rz := HZb.out.2.1.lt
          have rf := fun i => HZb.out.2.1.frozen i
          clear hbz hrz t0 tz
          go_wp2
          refine bodyPost_ret (v := .agg #[.bool false, .slice az n cz]) (by simp [results, Try.results13, go_sem, r0, r1]) rfl ⟨(HZb.out.1.setCell (by simp) _).setCell (by simp) _, false, az, n, cz, N, KZ, DZ, KCZ, DCZ, rfl, ?_, .inr ⟨rfl, rfl, rfl, HNo.out⟩⟩
          exact (HZb.out.2.2.keep (fun x hx => by rw [Below.heap_setCell _ _ _ _ (show x ≠ w.heap.size + 1 by have := (HZb.out.2.2.used hx).1; omega), Below.heap_setCell _ _ _ _ (show x ≠ w.heap.size + 1 by have := (HZb.out.2.2.used hx).1; omega)])).mono (by omega)
        · have hlt := HOw.out.1.lt
          have HF2 : Hid (Below (w.heap.size + 2) w1 w2) := hf2.below hz1 (fun x hx => (hlt x hx).1)
          have hbl := hlt b hbm
          have hz2 := hf2.2.2.2.1
          have HGr : Hid (Calls Try.prog 38 #[.iface 53 (.pointer (some ⟨kb, 0, none⟩))] w2 (RetGo key t' w2 b)) := grown_any key t' u _ b hh (fun x => ((x ∈ bs ∧ x ≠ b) ∨ w1.heap.size ≤ x) ∧ x < w2.heap.size) w2 (NdI.keep (Nat.le_refl _) rfl (fun x hx hl => ⟨⟨hx, hl⟩, rfl⟩) hnd) (fun q => by rcases q.1 with q | q; exact q.2 rfl; omega) (fun x hx => hx.2) (by omega) hu HF.out.2.1 HF.out.1
          have HNin : Hid (key ∉ keysR 21 t') := hm
          have hbB : w.heap.size + 2 ≤ b := hbl.1
          clear hnd hu hm hf2 HC hlt hbm HOw hbl
          go_wp2_with fail
          (with_reducible refine HGr.out.mono ?_)
          rintro e w3 ⟨D, y, v', S, h3, rs, rfl, hf3, hta, hS3, hby, hin, hnr, hn6, htM⟩
          have HT : Hid (InsR key 21 t' rs ∧ nodesR D y = insN rs ∧ ∀ M, Tells M 0 D y 0 → InsT M rs) := ⟨hin, hnr, htM⟩
          have HB3 : Hid (Below (w.heap.size + 2) w1 w3) := HF2.out.trans ⟨hf3.1, hf3.2.1, hf3.2.2.1, hf3.2.2.2.1, fun k hk => hf3.2.2.2.2 k (by have := HF2.out.size; omega) (by omega) (by omega)⟩
          have HTt : Hid (Calls Try.prog 34 #[v'] w3 (RetTt w3 D y)) := tellTree_any D y v' S w3 true h3 hta hby hS3 (by omega)
          obtain ⟨ty, pv, hvf⟩ : ∃ ty pv, v' = .iface ty pv := by
            obtain ⟨bb, _, _, _, q⟩ := hta.count
            rcases q with q | q <;> exact ⟨_, _, q⟩
          subst hvf
          clear hf3 hta hS3 hby hin hnr htM HGr
          go_wp2_with fail
          (with_reducible refine HTt.out.mono ?_)
          rintro e w4 ⟨hb4, a4, c4, M, K4, D4, KC4, DC4, rfl, hg4, htl4⟩
          obtain ⟨m, hm⟩ : ∃ m, m = nodesR D y := ⟨_, rfl⟩
          rw [← hm] at hg4 ⊢
          have hm6 : m ≤ 6000 := by omega
          have HM : Hid (m = insN rs) := hm.trans HT.out.2.1
          have HX4 : Hid (Below (w.heap.size + 2) w1 w4 ∧ GT w4 (w3.heap.size + 1) (.slice a4 m c4) m M K4 D4 KC4 DC4 ∧ InsT M rs) := ⟨HB3.out.trans (hb4.mono (by have := HB3.out.size; omega)), hg4, HT.out.2.2 M htl4⟩
          have hz3 := HB3.out.size
          clear hb4 hg4 htl4 HTt hm hn6
          have HB5 : Hid (Below (w.heap.size + 2) w1 (w4.alloc (.cells #[.slice a4 m c4] 25)) ∧ GT (w4.alloc (.cells #[.slice a4 m c4] 25)) (w.heap.size + 2) (.slice a4 m c4) m M K4 D4 KC4 DC4 ∧ Bx (w4.alloc (.cells #[.slice a4 m c4] 25)) w4.heap.size 25 #[.slice a4 m c4]) := ⟨HX4.out.1.alloc (by have := HX4.out.1.size; omega) _, (HX4.out.2.1.below (below_alloc _ _)).mono (by omega), Bx.new _ _ _⟩
          by_cases h5 : 5000 < m
          · have i5 : (5000 : Int) < (m : Int) := by omega
            have i5d : decide ((5000 : Int) < (m : Int)) = true := decide_eq_true i5
            have HNo : Hid (InsNo n N key) := by
              intro t'' rs' hv _ _ hi'
              obtain rfl := hv.fn HVT.out
              rw [InsR.fn HF.out.2.1 HF.out.2.2 hi' HT.out.1, ← HM.out]
              exact h5
            clear HVT HF HT HX4
            go_upto_region 6 with fail
            generalize w4.alloc (.cells #[.slice a4 m c4] 25) = W5 at HB5 ⊢
            have HBQ : Hid (Below w.heap.size w W5) := (BT1.out W5 HB5.out.1).1
            have HBT : Hid (W5.cell? ⟨w.heap.size, 0, none⟩ = some (.slice a n c) ∧ w.heap.size < W5.heap.size ∧ Bx W5 (w.heap.size + 1) 30 #[.bool false, .slice none 0 0]) := (BT1.out W5 HB5.out.1).2
            have HCp : Hid (Calls Try.prog 36 #[.agg #[.slice a n c]] W5 (RetOt W5 n N)) := copyI_any a n c N W5 (HR.out.1.below HBQ.out) hn HR.out.2
            have t0 := HBT.out.1
            have tz := HBT.out.2.1
            go_wp2_with fail
            (with_reducible refine HCp.out.mono ?_)
            rintro e wz ⟨hbz, az, cz, KZ, DZ, KCZ, DCZ, rfl, hrz⟩
            have HZb : Hid (Below w.heap.size w wz ∧ Bx wz (w.heap.size + 1) 30 #[.bool false, .slice none 0 0] ∧ GT wz (w.heap.size + 2) (.slice az n cz) n N KZ DZ KCZ DCZ) := ⟨HBQ.out.trans (hbz.mono HBQ.out.size), HBT.out.2.2.below hbz, hrz.mono (by have := HBT.out.2.2.lt; omega)⟩
            have r0 := HZb.out.2.1.cell 0
            have r1 := HZb.out.2.1.cell 1
            simp at r0 r1
            have rz := HZb.out.2.1.lt
            have rf := fun i => HZb.out.2.1.frozen i
            clear hbz hrz t0 tz
            go_wp2
            refine bodyPost_ret (v := .agg #[.bool false, .slice az n cz]) (by simp [results, Try.results13, go_sem, r0, r1]) rfl ⟨(HZb.out.1.setCell (by simp) _).setCell (by simp) _, false, az, n, cz, N, KZ, DZ, KCZ, DCZ, rfl, ?_, .inr ⟨rfl, rfl, rfl, HNo.out⟩⟩
            exact (HZb.out.2.2.keep (fun x hx => by rw [Below.heap_setCell _ _ _ _ (show x ≠ w.heap.size + 1 by have := (HZb.out.2.2.used hx).1; omega), Below.heap_setCell _ _ _ _ (show x ≠ w.heap.size + 1 by have := (HZb.out.2.2.used hx).1; omega)])).mono (by omega)
          · have i5 : ¬ (5000 : Int) < (m : Int) := by omega
            have i5d : decide ((5000 : Int) < (m : Int)) = false := decide_eq_false i5
            have hm5 : m ≤ 5000 := by omega
            go_upto_region 7 with fail
            generalize w4.alloc (.cells #[.slice a4 m c4] 25) = W5 at HB5 ⊢
            have HRB : Hid (Bx W5 (w.heap.size + 1) 30 #[.bool false, .slice none 0 0] ∧ Below w.heap.size w W5) := ⟨(BT1.out W5 HB5.out.1).2.2.2, (BT1.out W5 HB5.out.1).1⟩
            have y0 := HB5.out.2.2.cell 0
            simp at y0
            have yz := HB5.out.2.2.lt
            have r0 := HRB.out.1.cell 0
            have r1 := HRB.out.1.cell 1
            simp at r0 r1
            have rz := HRB.out.1.lt
            have rf := fun i => HRB.out.1.frozen i
            go_wp2
            refine bodyPost_ret (v := .agg #[.bool true, .slice a4 m c4]) (by simp [results, Try.results13, go_sem, r0, r1]) rfl ⟨(HRB.out.2.setCell (by simp) _).setCell (by simp) _, true, a4, m, c4, M, K4, D4, KC4, DC4, rfl, ?_, .inl ⟨rfl, t', rs, HVT.out, HK16.out, HNin.out, HT.out.1, HM.out, hm5, HX4.out.2.2⟩⟩
            exact (HB5.out.2.1.keep (fun x hx => by rw [Below.heap_setCell _ _ _ _ (show x ≠ w.heap.size + 1 by have := (HB5.out.2.1.used hx).1; omega), Below.heap_setCell _ _ _ _ (show x ≠ w.heap.size + 1 by have := (HB5.out.2.1.used hx).1; omega)])).mono (by omega)
      · have HC : Hid (Calls Try.prog 123 #[.pointer (some ⟨kb, 0, none⟩), .string key] w1 (RetO key 21 t' (.iface 91 (.pointer (some ⟨kb, 0, none⟩))) bs w1)) := hcall
        clear hcall
        go_wp2_with fail
        (with_reducible refine HC.out.mono ?_)
        rintro e w2 (⟨hm, rfl, hb2⟩ | ⟨hm, rfl, hf2, u, b, hbm, hu, hnd⟩)
        · have HNo : Hid (InsNo n N key) := fun t'' rs hv _ q => absurd (by rw [hv.fn HVT.out]; exact hm) q
          have HB2 : Hid (Below (w.heap.size + 2) w1 w2) := hb2.mono hz1
          clear hm hb2 HC HVT HF HOw
          have HBQ : Hid (Below w.heap.size w w2) := (BT1.out w2 HB2.out).1
          have HBT : Hid (w2.cell? ⟨w.heap.size, 0, none⟩ = some (.slice a n c) ∧ w.heap.size < w2.heap.size ∧ Bx w2 (w.heap.size + 1) 30 #[.bool false, .slice none 0 0]) := (BT1.out w2 HB2.out).2
          have HCp : Hid (Calls Try.prog 36 #[.agg #[.slice a n c]] w2 (RetOt w2 n N)) := copyI_any a n c N w2 (HR.out.1.below HBQ.out) hn HR.out.2
          have t0 := HBT.out.1
          have tz := HBT.out.2.1
          go_wp2_with fail
          (with_reducible refine HCp.out.mono ?_)
          rintro e wz ⟨hbz, az, cz, KZ, DZ, KCZ, DCZ, rfl, hrz⟩
          have HZb : Hid (Below w.heap.size w wz ∧ Bx wz (w.heap.size + 1) 30 #[.bool false, .slice none 0 0] ∧ GT wz (w.heap.size + 2) (.slice az n cz) n N KZ DZ KCZ DCZ) := ⟨HBQ.out.trans (hbz.mono HBQ.out.size), HBT.out.2.2.below hbz, hrz.mono (by have := HBT.out.2.2.lt; omega)⟩
          have r0 := HZb.out.2.1.cell 0
          have r1 := HZb.out.2.1.cell 1
          simp at r0 r1
          have rz := HZb.out.2.1.lt
          have rf := fun i => HZb.out.2.1.frozen i
          clear hbz hrz t0 tz
          go_wp2
          refine bodyPost_ret (v := .agg #[.bool false, .slice az n cz]) (by simp [results, Try.results13, go_sem, r0, r1]) rfl ⟨(HZb.out.1.setCell (by simp) _).setCell (by simp) _, false, az, n, cz, N, KZ, DZ, KCZ, DCZ, rfl, ?_, .inr ⟨rfl, rfl, rfl, HNo.out⟩⟩
          exact (HZb.out.2.2.keep (fun x hx => by rw [Below.heap_setCell _ _ _ _ (show x ≠ w.heap.size + 1 by have := (HZb.out.2.2.used hx).1; omega), Below.heap_setCell _ _ _ _ (show x ≠ w.heap.size + 1 by have := (HZb.out.2.2.used hx).1; omega)])).mono (by omega)
        · have hlt := HOw.out.1.lt
          have HF2 : Hid (Below (w.heap.size + 2) w1 w2) := hf2.below hz1 (fun x hx => (hlt x hx).1)
          have hbl := hlt b hbm
          have hz2 := hf2.2.2.2.1
          have HGr : Hid (Calls Try.prog 38 #[.iface 91 (.pointer (some ⟨kb, 0, none⟩))] w2 (RetGo key t' w2 b)) := grown_any key t' u _ b hh (fun x => ((x ∈ bs ∧ x ≠ b) ∨ w1.heap.size ≤ x) ∧ x < w2.heap.size) w2 (NdI.keep (Nat.le_refl _) rfl (fun x hx hl => ⟨⟨hx, hl⟩, rfl⟩) hnd) (fun q => by rcases q.1 with q | q; exact q.2 rfl; omega) (fun x hx => hx.2) (by omega) hu HF.out.2.1 HF.out.1
          have HNin : Hid (key ∉ keysR 21 t') := hm
          have hbB : w.heap.size + 2 ≤ b := hbl.1
          clear hnd hu hm hf2 HC hlt hbm HOw hbl
          go_wp2_with fail
          (with_reducible refine HGr.out.mono ?_)
          rintro e w3 ⟨D, y, v', S, h3, rs, rfl, hf3, hta, hS3, hby, hin, hnr, hn6, htM⟩
          have HT : Hid (InsR key 21 t' rs ∧ nodesR D y = insN rs ∧ ∀ M, Tells M 0 D y 0 → InsT M rs) := ⟨hin, hnr, htM⟩
          have HB3 : Hid (Below (w.heap.size + 2) w1 w3) := HF2.out.trans ⟨hf3.1, hf3.2.1, hf3.2.2.1, hf3.2.2.2.1, fun k hk => hf3.2.2.2.2 k (by have := HF2.out.size; omega) (by omega) (by omega)⟩
          have HTt : Hid (Calls Try.prog 34 #[v'] w3 (RetTt w3 D y)) := tellTree_any D y v' S w3 true h3 hta hby hS3 (by omega)
          obtain ⟨ty, pv, hvf⟩ : ∃ ty pv, v' = .iface ty pv := by
            obtain ⟨bb, _, _, _, q⟩ := hta.count
            rcases q with q | q <;> exact ⟨_, _, q⟩
          subst hvf
          clear hf3 hta hS3 hby hin hnr htM HGr
          go_wp2_with fail
          (with_reducible refine HTt.out.mono ?_)
          rintro e w4 ⟨hb4, a4, c4, M, K4, D4, KC4, DC4, rfl, hg4, htl4⟩
          obtain ⟨m, hm⟩ : ∃ m, m = nodesR D y := ⟨_, rfl⟩
          rw [← hm] at hg4 ⊢
          have hm6 : m ≤ 6000 := by omega
          have HM : Hid (m = insN rs) := hm.trans HT.out.2.1
          have HX4 : Hid (Below (w.heap.size + 2) w1 w4 ∧ GT w4 (w3.heap.size + 1) (.slice a4 m c4) m M K4 D4 KC4 DC4 ∧ InsT M rs) := ⟨HB3.out.trans (hb4.mono (by have := HB3.out.size; omega)), hg4, HT.out.2.2 M htl4⟩
          have hz3 := HB3.out.size
          clear hb4 hg4 htl4 HTt hm hn6
          have HB5 : Hid (Below (w.heap.size + 2) w1 (w4.alloc (.cells #[.slice a4 m c4] 25)) ∧ GT (w4.alloc (.cells #[.slice a4 m c4] 25)) (w.heap.size + 2) (.slice a4 m c4) m M K4 D4 KC4 DC4 ∧ Bx (w4.alloc (.cells #[.slice a4 m c4] 25)) w4.heap.size 25 #[.slice a4 m c4]) := ⟨HX4.out.1.alloc (by have := HX4.out.1.size; omega) _, (HX4.out.2.1.below (below_alloc _ _)).mono (by omega), Bx.new _ _ _⟩
          by_cases h5 : 5000 < m
          · have i5 : (5000 : Int) < (m : Int) := by omega
            have i5d : decide ((5000 : Int) < (m : Int)) = true := decide_eq_true i5
            have HNo : Hid (InsNo n N key) := by
              intro t'' rs' hv _ _ hi'
              obtain rfl := hv.fn HVT.out
              rw [InsR.fn HF.out.2.1 HF.out.2.2 hi' HT.out.1, ← HM.out]
              exact h5
            clear HVT HF HT HX4
            go_upto_region 6 with fail
            generalize w4.alloc (.cells #[.slice a4 m c4] 25) = W5 at HB5 ⊢
            have HBQ : Hid (Below w.heap.size w W5) := (BT1.out W5 HB5.out.1).1
            have HBT : Hid (W5.cell? ⟨w.heap.size, 0, none⟩ = some (.slice a n c) ∧ w.heap.size < W5.heap.size ∧ Bx W5 (w.heap.size + 1) 30 #[.bool false, .slice none 0 0]) := (BT1.out W5 HB5.out.1).2
            have HCp : Hid (Calls Try.prog 36 #[.agg #[.slice a n c]] W5 (RetOt W5 n N)) := copyI_any a n c N W5 (HR.out.1.below HBQ.out) hn HR.out.2
            have t0 := HBT.out.1
            have tz := HBT.out.2.1
            go_wp2_with fail
            (with_reducible refine HCp.out.mono ?_)
            rintro e wz ⟨hbz, az, cz, KZ, DZ, KCZ, DCZ, rfl, hrz⟩
            have HZb : Hid (Below w.heap.size w wz ∧ Bx wz (w.heap.size + 1) 30 #[.bool false, .slice none 0 0] ∧ GT wz (w.heap.size + 2) (.slice az n cz) n N KZ DZ KCZ DCZ) := ⟨HBQ.out.trans (hbz.mono HBQ.out.size), HBT.out.2.2.below hbz, hrz.mono (by have := HBT.out.2.2.lt; omega)⟩
            have r0 := HZb.out.2.1.cell 0
            have r1 := HZb.out.2.1.cell 1
            simp at r0 r1
            have rz := HZb.out.2.1.lt
            have rf := fun i => HZb.out.2.1.frozen i
            clear hbz hrz t0 tz
            go_wp2
            refine bodyPost_ret (v := .agg #[.bool false, .slice az n cz]) (by simp [results, Try.results13, go_sem, r0, r1]) rfl ⟨(HZb.out.1.setCell (by simp) _).setCell (by simp) _, false, az, n, cz, N, KZ, DZ, KCZ, DCZ, rfl, ?_, .inr ⟨rfl, rfl, rfl, HNo.out⟩⟩
            exact (HZb.out.2.2.keep (fun x hx => by rw [Below.heap_setCell _ _ _ _ (show x ≠ w.heap.size + 1 by have := (HZb.out.2.2.used hx).1; omega), Below.heap_setCell _ _ _ _ (show x ≠ w.heap.size + 1 by have := (HZb.out.2.2.used hx).1; omega)])).mono (by omega)
          · have i5 : ¬ (5000 : Int) < (m : Int) := by omega
            have i5d : decide ((5000 : Int) < (m : Int)) = false := decide_eq_false i5
            have hm5 : m ≤ 5000 := by omega
            go_upto_region 7 with fail
            generalize w4.alloc (.cells #[.slice a4 m c4] 25) = W5 at HB5 ⊢
            have HRB : Hid (Bx W5 (w.heap.size + 1) 30 #[.bool false, .slice none 0 0] ∧ Below w.heap.size w W5) := ⟨(BT1.out W5 HB5.out.1).2.2.2, (BT1.out W5 HB5.out.1).1⟩
            have y0 := HB5.out.2.2.cell 0
            simp at y0
            have yz := HB5.out.2.2.lt
            have r0 := HRB.out.1.cell 0
            have r1 := HRB.out.1.cell 1
            simp at r0 r1
            have rz := HRB.out.1.lt
            have rf := fun i => HRB.out.1.frozen i
            go_wp2
            refine bodyPost_ret (v := .agg #[.bool true, .slice a4 m c4]) (by simp [results, Try.results13, go_sem, r0, r1]) rfl ⟨(HRB.out.2.setCell (by simp) _).setCell (by simp) _, true, a4, m, c4, M, K4, D4, KC4, DC4, rfl, ?_, .inl ⟨rfl, t', rs, HVT.out, HK16.out, HNin.out, HT.out.1, HM.out, hm5, HX4.out.2.2⟩⟩
            exact (HB5.out.2.1.keep (fun x hx => by rw [Below.heap_setCell _ _ _ _ (show x ≠ w.heap.size + 1 by have := (HB5.out.2.1.used hx).1; omega), Below.heap_setCell _ _ _ _ (show x ≠ w.heap.size + 1 by have := (HB5.out.2.1.used hx).1; omega)])).mono (by omega)
end Go.Proofs.Ytakemeccigpbaaa
