import Derived.Test.YtakemeccigpbaaaTsT
import Derived.Test.YtakemeccigpbaaaTrXQ
import Derived.Test.YtakemeccigpbaaaTrT
import Derived.Test.YtakemeccigpbaaaMv2Q
import Derived.Test.YtakemeccigpbaaaMv1Q
import Derived.Test.YtakemeccigpbaaaMo1Q
import Derived.Test.YtakemeccigpbaaaMu1Q
namespace Go.Proofs.Ytakemeccigpbaaa
open Go.RowKit Go.Deep
set_option linter.unusedVariables false

/-- The same tree, whatever it is counted as. -/
def SmR : (d e : Nat) → Ro d → Ro e → Prop
  | d + 1, e + 1, .inl L, .inl L' => L = L'
  | d + 1, e + 1, .inr l, .inr l' => l.length = l'.length ∧ ∀ k (h : k < l.length) (h' : k < l'.length), SmR d e l[k] l'[k]
  | _, _, _, _ => False

theorem SmR.nodes : ∀ {d e : Nat} {t : Ro d} {t' : Ro e}, SmR d e t t' → nodesR d t = nodesR e t'
  | 0, _, t, _, _ => t.elim
  | _ + 1, 0, _, t', _ => t'.elim
  | d + 1, e + 1, .inl L, .inl L', h => rfl
  | d + 1, e + 1, .inr l, .inr l', h => by
    have q := off_congr (fun j h1 h2 => SmR.nodes (h.2 j h1 h2)) l.length (Nat.le_refl _) (by rw [h.1]; exact Nat.le_refl _)
    rw [offR_all] at q
    rw [h.1, offR_all] at q
    show 1 + _ = 1 + _
    rw [q]
  | d + 1, e + 1, .inl L, .inr l', h => h.elim
  | d + 1, e + 1, .inr L, .inl l', h => h.elim

theorem SmR.keys : ∀ {d e : Nat} {t : Ro d} {t' : Ro e}, SmR d e t t' → keysR d t = keysR e t'
  | 0, _, t, _, _ => t.elim
  | _ + 1, 0, _, t', _ => t'.elim
  | d + 1, e + 1, .inl L, .inl L', h => h
  | d + 1, e + 1, .inr l, .inr l', h => flat_congr (keysR d) (keysR e) l l' h.1 (fun k h1 h2 => SmR.keys (h.2 k h1 h2))
  | d + 1, e + 1, .inl L, .inr l', h => h.elim
  | d + 1, e + 1, .inr L, .inl l', h => h.elim

theorem smR_of {N : Nat → Tn} : ∀ {d e : Nat} {t : Ro d} {t' : Ro e} {x : Nat}, Tells N 0 d t x → Tells N 0 e t' x → SmR d e t t'
  | 0, _, t, _, _, _, _ => t.elim
  | _ + 1, 0, _, t', _, _, _ => t'.elim
  | d + 1, e + 1, .inl L, .inl L', x, h, h' => by
    show L = L'
    obtain ⟨_, h2, h3, _⟩ := h
    obtain ⟨_, g2, g3, _⟩ := h'
    apply List.ext_getElem (by omega)
    intro i h1 h4
    have q1 := h3 i h1
    rw [g3 i h4] at q1
    unfold gt at q1
    rw [List.getD_eq_getElem?_getD, List.getD_eq_getElem?_getD, List.getElem?_eq_getElem h1, List.getElem?_eq_getElem h4] at q1
    exact q1.symm
  | d + 1, e + 1, .inl L, .inr l', x, h, h' => by
    have q := h.1
    rw [h'.1] at q
    cases q
  | d + 1, e + 1, .inr l, .inl L', x, h, h' => by
    have q := h.1
    rw [h'.1] at q
    cases q
  | d + 1, e + 1, .inr l, .inr l', x, h, h' => by
    have hl : l.length = l'.length := h.2.1.symm.trans h'.2.1
    have t1 := h.2.2.2.2.2.2
    have t2 := h'.2.2.2.2.2.2
    have key : ∀ k, k ≤ l.length → offR d l k = offR e l' k ∧ ∀ j (h : j < l.length) (h' : j < l'.length), j < k → SmR d e l[j] l'[j] := by
      intro k
      induction k with
      | zero => intro _; exact ⟨by rw [offR_zero, offR_zero], fun j _ _ hj => absurd hj (Nat.not_lt_zero _)⟩
      | succ k ih =>
        intro hk
        obtain ⟨q1, q2⟩ := ih (by omega)
        have sk : SmR d e (l[k]'(by omega)) (l'[k]'(by omega)) := smR_of (t1 k (by omega)) (by rw [q1]; exact t2 k (by omega))
        refine ⟨by rw [offR_succ d l k (by omega), offR_succ e l' k (by omega), q1, sk.nodes], fun j h1 h2 hj => ?_⟩
        by_cases e : j = k
        · subst e; exact sk
        · exact q2 j h1 h2 (by omega)
    exact ⟨hl, fun k h1 h2 => (key l.length (Nat.le_refl _)).2 k h1 h2 h1⟩

theorem SmR.tow {B : Nat} {w : World} : ∀ {d e : Nat} {t : Ro d} {t' : Ro e} {v : Value} {bs : List Nat}, SmR d e t t' → TOw B w d t v bs → TOw B w e t' v bs
  | 0, _, t, _, _, _, _, _ => t.elim
  | _ + 1, 0, _, t', _, _, _, _ => t'.elim
  | d + 1, e + 1, .inl L, .inl L', v, bs, h, ho => by
    have h' : L = L' := h
    subst h'
    exact ho
  | d + 1, e + 1, .inr l, .inr l', v, bs, h, ho => by
    have hk := SmR.keys (d := d + 1) (e := e + 1) (t := .inr l) (t' := .inr l') h
    have hk' : l.flatMap (keysR d) = l'.flatMap (keysR e) := hk
    obtain ⟨b, g, kc, xs, bss, rfl, hB, hx, hr, hl, hbl, rfl, hall⟩ := ho
    have hl' := h.1
    rw [hk', hl'] at hx
    rw [hl'] at hr hl hbl
    refine ⟨b, g, kc, xs, bss, rfl, hB, hx, hr, hl, hbl, rfl, fun k hk => ?_⟩
    obtain ⟨u, us, e1, e2, e3⟩ := hall k (by omega)
    exact ⟨u, us, e1, e2, SmR.tow (h.2 k (by omega) hk) e3⟩
  | d + 1, e + 1, .inl L, .inr l', _, _, h, _ => h.elim
  | d + 1, e + 1, .inr L, .inl l', _, _, h, _ => h.elim
end Go.Proofs.Ytakemeccigpbaaa

namespace Go.Proofs.Ytakemeccigpbaaa
open Go.RowKit Go.Deep
set_option linter.unusedVariables false
set_option maxRecDepth 100000

/-- What tellTree hands back. -/
def RetTt (w : World) (d : Nat) (y : Ro d) (e : Ending) (w' : World) : Prop :=
  Below w.heap.size w w' ∧ ∃ a c N' KA DA KC DC, e = .returned (.agg #[.slice a (nodesR d y) c]) ∧ GT w' (w.heap.size + 1) (.slice a (nodesR d y) c) (nodesR d y) N' KA DA KC DC ∧ Tells N' 0 d y 0

set_option maxHeartbeats 2000000 in
theorem tellTree_any (d : Nat) (y : Ro d) (v : Value) (S : Nat → Prop) (w : World) (root : Bool) (h : Nat) (ht : TAo S w d y v) (hb : BalR d root y h) (hS : ∀ x, S x → x < w.heap.size) (hn : nodesR d y ≤ 100000) : Calls Try.prog 34 #[v] w (RetTt w d y) := by
  have hct := tellO d y v S (w.alloc (.cells #[.slice none 0 0] 25)) root h (w.heap.size + 1) 0 0 none (fun _ => ⟨false, 0, fun _ => { data := #[] }, 0, fun _ => 0, 0⟩) (fun _ => none) (fun _ => none) (fun _ => 0) (fun _ => 0) (ht.below (below_alloc _ _)) hb (GT.nil _ _ _ _ _ _ _) (by simp) (fun x hx => by have := hS x hx; omega) (by omega)
  obtain ⟨m, hm⟩ : ∃ m, m = nodesR d y := ⟨_, rfl⟩
  have HM : Hid (m = nodesR d y) := hm
  obtain ⟨bb, _, _, _, hform⟩ := ht.count
  rcases hform with rfl | rfl
  · have HC : Hid (Calls Try.prog 110 #[.pointer (some ⟨bb, 0, none⟩), .slice none 0 0] (w.alloc (.cells #[.slice none 0 0] 25)) (RetTl (w.alloc (.cells #[.slice none 0 0] 25)) (w.heap.size + 1) (.slice none 0 0) 0 (fun _ => ⟨false, 0, fun _ => { data := #[] }, 0, fun _ => 0, 0⟩) (fun _ => none) (fun _ => none) m (fun N' => Tells N' 0 d y 0))) := by
      rw [hm]
      exact callT_leaf hct
    clear hct ht hb hS hn hm
    go_enter Try.func34, Try.ntmps34
    go_wp2_with fail
    (with_reducible refine HC.out.mono ?_)
    rintro e w1 ⟨v', N', KA', DA', KC', DC', rfl, q1, q2, q3, q4, q5, q6⟩
    rw [Nat.zero_add] at q1
    obtain ⟨a1, c1, e1, _⟩ := own_form q1.row
    subst e1
    have hz := q2.size
    have hbx : Bx w1 w.heap.size 25 #[.slice none 0 0] := (Bx.new w #[.slice none 0 0] 25).grown q2 (fun e => by cases e)
    have HX : Hid (GT w1 (w.heap.size + 1) (.slice a1 m c1) m N' KA' DA' KC' DC' ∧ Tells N' 0 d y 0 ∧ Below w.heap.size w w1 ∧ Bx w1 w.heap.size 25 #[.slice none 0 0]) := ⟨q1, q6, (below_alloc _ _).grown q2 (by simp) (fun g e => by cases e), hbx⟩
    have z0 := hbx.cell 0
    simp at z0
    have zf := hbx.frozen 0
    have zl := hbx.lt
    clear q1 q2 q3 q4 q5 q6 hbx hz HC
    go_wp2
    refine bodyPost_ret (v := .agg #[.slice a1 m c1]) (by simp [results, Try.results34, go_sem, z0]) rfl ⟨HX.out.2.2.1.setCell (by simp) _, a1, c1, N', KA', DA', KC', DC', by rw [HM.out], ?_, HX.out.2.1⟩
    rw [← HM.out]
    exact HX.out.1.keep (fun x hx => Below.heap_setCell _ _ _ _ (by have := (HX.out.1.used hx).1; show x ≠ w.heap.size; omega))
  · have HC : Hid (Calls Try.prog 127 #[.pointer (some ⟨bb, 0, none⟩), .slice none 0 0] (w.alloc (.cells #[.slice none 0 0] 25)) (RetTl (w.alloc (.cells #[.slice none 0 0] 25)) (w.heap.size + 1) (.slice none 0 0) 0 (fun _ => ⟨false, 0, fun _ => { data := #[] }, 0, fun _ => 0, 0⟩) (fun _ => none) (fun _ => none) m (fun N' => Tells N' 0 d y 0))) := by
      rw [hm]
      exact callT_inner hct
    clear hct ht hb hS hn hm
    go_enter Try.func34, Try.ntmps34
    go_wp2_with fail
    (with_reducible refine HC.out.mono ?_)
    rintro e w1 ⟨v', N', KA', DA', KC', DC', rfl, q1, q2, q3, q4, q5, q6⟩
    rw [Nat.zero_add] at q1
    obtain ⟨a1, c1, e1, _⟩ := own_form q1.row
    subst e1
    have hz := q2.size
    have hbx : Bx w1 w.heap.size 25 #[.slice none 0 0] := (Bx.new w #[.slice none 0 0] 25).grown q2 (fun e => by cases e)
    have HX : Hid (GT w1 (w.heap.size + 1) (.slice a1 m c1) m N' KA' DA' KC' DC' ∧ Tells N' 0 d y 0 ∧ Below w.heap.size w w1 ∧ Bx w1 w.heap.size 25 #[.slice none 0 0]) := ⟨q1, q6, (below_alloc _ _).grown q2 (by simp) (fun g e => by cases e), hbx⟩
    have z0 := hbx.cell 0
    simp at z0
    have zf := hbx.frozen 0
    have zl := hbx.lt
    clear q1 q2 q3 q4 q5 q6 hbx hz HC
    go_wp2
    refine bodyPost_ret (v := .agg #[.slice a1 m c1]) (by simp [results, Try.results34, go_sem, z0]) rfl ⟨HX.out.2.2.1.setCell (by simp) _, a1, c1, N', KA', DA', KC', DC', by rw [HM.out], ?_, HX.out.2.1⟩
    rw [← HM.out]
    exact HX.out.1.keep (fun x hx => Below.heap_setCell _ _ _ _ (by have := (HX.out.1.used hx).1; show x ≠ w.heap.size; omega))
/-- What TreeInsert hands back, in memory of its own. -/
def RetTi (w : World) (n : Nat) (N : Nat → Tn) (key : ByteArray) (e : Ending) (w' : World) : Prop :=
  Below w.heap.size w w' ∧ ∃ ok a m c M KA DA KC DC, e = .returned (.agg #[.bool ok, .slice a m c]) ∧ GT w' w.heap.size (.slice a m c) m M KA DA KC DC ∧ ((ok = true ∧ InsTo n N key m M) ∨ (ok = false ∧ m = n ∧ M = N ∧ InsNo n N key))

theorem GT.mono {w : World} {B B' : Nat} {v : Value} {n : Nat} {N : Nat → Tn} {KA DA : Nat → Option Addr} {KC DC : Nat → Nat} (h : GT w B v n N KA DA KC DC) (hB : B' ≤ B) : GT w B' v n N KA DA KC DC :=
  ⟨own_mono h.row hB, fun i hi => (h.keys i hi).mono hB, fun i hi => (h.kids i hi).mono hB, h.apartK, h.apartD⟩

/-- What grownRoot leaves, whichever way it goes. -/
def RetGo (key : ByteArray) (t : Ro 21) (w : World) (b : Nat) (e : Ending) (w' : World) : Prop :=
  ∃ (D : Nat) (y : Ro D) (v' : Value) (S : Nat → Prop) (hh : Nat) (rs : List (Ro 21)), e = .returned v' ∧ Fr2 w w' b b ∧ TAo S w' D y v' ∧ (∀ x, S x → x < w'.heap.size) ∧ BalR D true y hh ∧ InsR key 21 t rs ∧ nodesR D y = insN rs ∧ nodesR D y ≤ 6000 ∧ ∀ M, Tells M 0 D y 0 → InsT M rs

end Go.Proofs.Ytakemeccigpbaaa
