import Derived.Test.YtakemeccigpbaaaTnR
import Derived.Test.YtakemeccigpbaaaTrGZ
import Derived.Test.YtakemeccigpbaaaTsTZ
import Derived.Test.YtakemeccigpbaaaMv1Z
import Derived.Test.YtakemeccigpbaaaMu1Z
import Derived.Test.YtakemeccigpbaaaTrTZ
import Derived.Test.YtakemeccigpbaaaTiUZ
namespace Go.Proofs.Ytakemeccigpbaaa
open Go.RowKit Go.Deep
set_option linter.unusedVariables false
set_option maxRecDepth 100000

/-- Which blocks a row of nodes uses. -/
def UsedT (v : Value) (n : Nat) (N : Nat → Tn) (KA DA : Nat → Option Addr) (x : Nat) : Prop :=
  v.ownBlock = some x ∨ (∃ i, i < n ∧ (N i).kn ≠ 0 ∧ KA i = some ⟨x, 0, none⟩) ∨ (∃ i, i < n ∧ (N i).dn ≠ 0 ∧ DA i = some ⟨x, 0, none⟩)
/-- A row of nodes of the call's own that may grow. -/
structure GT (w : World) (B : Nat) (v : Value) (n : Nat) (N : Nat → Tn) (KA DA : Nat → Option Addr) (KC DC : Nat → Nat) : Prop where
  row : w.ownsRow B 88 4 v n ((List.range (n * 4)).map (tnCell N KA DA KC DC))
  keys : ∀ i, i < n → OwnS w B (KA i) (N i).kn (N i).ks
  kids : ∀ i, i < n → OwnI w B (DA i) (N i).dn (N i).kd
  apartK : ∀ i j, i < n → j < n → i ≠ j → (N i).kn ≠ 0 → (N j).kn ≠ 0 → KA i ≠ KA j
  apartD : ∀ i j, i < n → j < n → i ≠ j → (N i).dn ≠ 0 → (N j).dn ≠ 0 → DA i ≠ DA j

theorem GT.keep {w w' : World} {B : Nat} {v : Value} {n : Nat} {N : Nat → Tn} {KA DA : Nat → Option Addr} {KC DC : Nat → Nat} (h : GT w B v n N KA DA KC DC) (hk : ∀ x, UsedT v n N KA DA x → w'.heap[x]? = w.heap[x]?) : GT w' B v n N KA DA KC DC := by
  refine ⟨own_keep h.row (fun g e => hk g (.inl e)), fun i hi => ?_, fun i hi => ?_, h.apartK, h.apartD⟩
  · rcases h.keys i hi with q | ⟨g, e, hg, hr⟩
    · exact .inl q
    · by_cases h0 : (N i).kn = 0
      · exact .inl h0
      · exact .inr ⟨g, e, hg, hr.of_block (hk g (.inr (.inl ⟨i, hi, h0, e⟩)))⟩
  · rcases h.kids i hi with q | ⟨g, e, hg, hr⟩
    · exact .inl q
    · by_cases h0 : (N i).dn = 0
      · exact .inl h0
      · exact .inr ⟨g, e, hg, hr.of_block (hk g (.inr (.inr ⟨i, hi, h0, e⟩)))⟩

theorem GT.used {w : World} {B : Nat} {v : Value} {n : Nat} {N : Nat → Tn} {KA DA : Nat → Option Addr} {KC DC : Nat → Nat} (h : GT w B v n N KA DA KC DC) {x : Nat} (hx : UsedT v n N KA DA x) : B ≤ x ∧ x < w.heap.size := by
  rcases hx with hx | ⟨i, hi, h0, e⟩ | ⟨i, hi, h0, e⟩
  · exact own_lt h.row x hx
  · rcases h.keys i hi with q | ⟨g, e', hg, hr⟩
    · exact absurd q h0
    · rw [e] at e'
      injection e' with e'
      injection e' with e'
      subst e'
      exact ⟨hg, hr.lt⟩
  · rcases h.kids i hi with q | ⟨g, e', hg, hr⟩
    · exact absurd q h0
    · rw [e] at e'
      injection e' with e'
      injection e' with e'
      subst e'
      exact ⟨hg, hr.lt⟩
theorem GT.below {w w' : World} {B : Nat} {v : Value} {n : Nat} {N : Nat → Tn} {KA DA : Nat → Option Addr} {KC DC : Nat → Nat} (h : GT w B v n N KA DA KC DC) (hb : Below w.heap.size w w') : GT w' B v n N KA DA KC DC := h.keep (fun x hx => hb.block x (h.used hx).2)

/-- A row of a given type lies in no block that holds another type. -/
theorem row_not {w : World} {B : Nat} {e t : TypeId} {sz n m : Nat} {v : Value} {xs : List Value} {f : Nat → Value} {g : Nat} (ho : w.ownsRow B e sz v n xs) (hr : rowIn w g t m f) (hne : e ≠ t) : v.ownBlock ≠ some g := by
  intro q
  rcases ho.2 with ⟨rfl, _⟩ | ⟨g', cap, cur, rfl, hb, hh, _⟩
  · cases q
  · injection q with q
    have q' : g' = g := q
    subst q'
    obtain ⟨c, hc, _⟩ := hr
    rw [hh] at hc
    injection hc with hc
    injection hc with _ hc _
    exact hne hc

/-- One more node behind those that there are. -/
theorem GT.push {w w' : World} {B : Nat} {v v' : Value} {n : Nat} {N : Nat → Tn} {KA DA : Nat → Option Addr} {KC DC : Nat → Nat} (h : GT w B v n N KA DA KC DC) (x : Tn) (ka da : Option Addr) (kc dc : Nat) (hk : OwnS w B ka x.kn x.ks) (hd : OwnI w B da x.dn x.kd) (hka : ∀ i, i < n → (N i).kn ≠ 0 → x.kn ≠ 0 → KA i ≠ ka) (hda : ∀ i, i < n → (N i).dn ≠ 0 → x.dn ≠ 0 → DA i ≠ da)
    (ho : w'.ownsRow B 88 4 v' (n + 1) ((List.range (n * 4)).map (tnCell N KA DA KC DC) ++ [.bool x.lf, .slice ka x.kn kc, .slice da x.dn dc, .int .i64 x.ct])) (hg : w.grownBy w' v.ownBlock) :
    GT w' B v' (n + 1) (fun i => if i = n then x else N i) (fun i => if i = n then ka else KA i) (fun i => if i = n then da else DA i) (fun i => if i = n then kc else KC i) (fun i => if i = n then dc else DC i) := by
  have hS : ∀ (a : Option Addr) (m : Nat) (X : Nat → ByteArray), OwnS w B a m X → OwnS w' B a m X := by
    intro a m X q
    rcases q with q | ⟨g, rfl, hgB, hr⟩
    · exact .inl q
    · exact .inr ⟨g, rfl, hgB, hr.of_block (hg.block g hr.lt (fun e => row_not h.row hr (by decide) e.symm))⟩
  have hI : ∀ (a : Option Addr) (m : Nat) (X : Nat → Int), OwnI w B a m X → OwnI w' B a m X := by
    intro a m X q
    rcases q with q | ⟨g, rfl, hgB, hr⟩
    · exact .inl q
    · exact .inr ⟨g, rfl, hgB, hr.of_block (hg.block g hr.lt (fun e => row_not h.row hr (by decide) e.symm))⟩
  refine ⟨?_, fun i hi => ?_, fun i hi => ?_, fun i j hi hj hij h1 h2 => ?_, fun i j hi hj hij h1 h2 => ?_⟩
  · have e : (List.range ((n + 1) * 4)).map (tnCell (fun i => if i = n then x else N i) (fun i => if i = n then ka else KA i) (fun i => if i = n then da else DA i) (fun i => if i = n then kc else KC i) (fun i => if i = n then dc else DC i)) = (List.range (n * 4)).map (tnCell N KA DA KC DC) ++ [.bool x.lf, .slice ka x.kn kc, .slice da x.dn dc, .int .i64 x.ct] := by
      rw [show (n + 1) * 4 = n * 4 + 1 + 1 + 1 + 1 by omega, List.range_succ, List.range_succ, List.range_succ, List.range_succ]
      simp only [List.map_append, List.map_cons, List.map_nil, List.append_assoc, List.cons_append, List.nil_append]
      rw [show n * 4 + 1 + 1 + 1 = n * 4 + 3 by omega, show n * 4 + 1 + 1 = n * 4 + 2 by omega, tnCell_0, tnCell_1, tnCell_2, tnCell_3]
      simp only [if_true]
      congr 1
      refine List.map_congr_left (fun c hc => ?_)
      have hc' : c < n * 4 := List.mem_range.1 hc
      unfold tnCell
      have : c / 4 ≠ n := by omega
      simp only [this, if_false]
    rw [e]
    exact ho
  · by_cases e : i = n
    · subst e; simp only [if_true]; exact hS _ _ _ hk
    · simp only [e, if_false]; exact hS _ _ _ (h.keys i (by omega))
  · by_cases e : i = n
    · subst e; simp only [if_true]; exact hI _ _ _ hd
    · simp only [e, if_false]; exact hI _ _ _ (h.kids i (by omega))
  · by_cases e1 : i = n
    · have e2 : j ≠ n := by omega
      subst e1
      simp only [if_true, e2, if_false] at h1 h2 ⊢
      exact fun q => hka j (by omega) h2 h1 q.symm
    · by_cases e2 : j = n
      · subst e2
        simp only [if_true, e1, if_false] at h1 h2 ⊢
        exact hka i (by omega) h1 h2
      · simp only [e1, e2, if_false] at h1 h2 ⊢
        exact h.apartK i j (by omega) (by omega) hij h1 h2
  · by_cases e1 : i = n
    · have e2 : j ≠ n := by omega
      subst e1
      simp only [if_true, e2, if_false] at h1 h2 ⊢
      exact fun q => hda j (by omega) h2 h1 q.symm
    · by_cases e2 : j = n
      · subst e2
        simp only [if_true, e1, if_false] at h1 h2 ⊢
        exact hda i (by omega) h1 h2
      · simp only [e1, e2, if_false] at h1 h2 ⊢
        exact h.apartD i j (by omega) (by omega) hij h1 h2
end Go.Proofs.Ytakemeccigpbaaa

namespace Go.Proofs.Ytakemeccigpbaaa
open Go.RowKit Go.Deep
set_option linter.unusedVariables false
set_option maxRecDepth 100000

/-- What tells a tree behind the nodes that there are: m nodes more. -/
def RetTl (w : World) (B : Nat) (v : Value) (n : Nat) (N : Nat → Tn) (KA DA : Nat → Option Addr) (m : Nat) (P : (Nat → Tn) → Prop) (e : Ending) (w' : World) : Prop :=
  ∃ v' N' KA' DA' KC' DC', e = .returned v' ∧ GT w' B v' (n + m) N' KA' DA' KC' DC' ∧ w.grownBy w' v.ownBlock ∧ (v'.ownBlock = v.ownBlock ∨ ∃ g, v'.ownBlock = some g ∧ w.heap.size ≤ g) ∧ (∀ i, i < n → N' i = N i ∧ KA' i = KA i ∧ DA' i = DA i) ∧
    (∀ i, n ≤ i → i < n + m → ((N' i).kn ≠ 0 → ∃ g, KA' i = some ⟨g, 0, none⟩ ∧ w.heap.size ≤ g) ∧ ((N' i).dn ≠ 0 → ∃ g, DA' i = some ⟨g, 0, none⟩ ∧ w.heap.size ≤ g)) ∧ P N'

theorem own_ownS {w : World} {B n c : Nat} {a : Option Addr} {L : List ByteArray} (h : w.ownsRow B 9 1 (.slice a n c) n (strL L)) (hn : n = L.length) : OwnS w B a n (gt L) := by
  obtain ⟨a', c', e, q, _⟩ := ownS_strL h hn
  injection e with e
  subst e
  rw [hn]
  exact q

/-- One more node, told. -/
theorem GT.more {w w1 w' : World} {B : Nat} {ra : Option Addr} {rc : Nat} {v' : Value} {n : Nat} {N : Nat → Tn} {KA DA : Nat → Option Addr} {KC DC : Nat → Nat} (h : GT w B (.slice ra n rc) n N KA DA KC DC) (hB : B ≤ w.heap.size) (hb : Below w.heap.size w w1) (x : Tn) (ka da : Option Addr) (kc dc : Nat) (hk : OwnS w1 w.heap.size ka x.kn x.ks) (hd : OwnI w1 w.heap.size da x.dn x.kd)
    (ho : w'.ownsRow B 88 4 v' (n + 1) ((List.range (n * 4)).map (tnCell N KA DA KC DC) ++ [.bool x.lf, .slice ka x.kn kc, .slice da x.dn dc, .int .i64 x.ct])) {O : Obj} (hg : (w1.alloc O).grownBy w' (Value.slice ra n rc).ownBlock) (hat : v'.ownBlock = (Value.slice ra n rc).ownBlock ∨ v'.ownBlock = some (w1.alloc O).heap.size) {P : (Nat → Tn) → Prop} (hP : P (fun i => if i = n then x else N i)) :
    RetTl w B (.slice ra n rc) n N KA DA 1 P (.returned v') w' := by
  have hs := hb.size
  have hbA : Below w.heap.size w (w1.alloc O) := hb.alloc hs O
  have newK : x.kn ≠ 0 → ∃ g, ka = some ⟨g, 0, none⟩ ∧ w.heap.size ≤ g := fun h0 => by
    obtain ⟨g, e, hg, _⟩ := hk.resolve_left h0
    exact ⟨g, e, hg⟩
  have newD : x.dn ≠ 0 → ∃ g, da = some ⟨g, 0, none⟩ ∧ w.heap.size ≤ g := fun h0 => by
    obtain ⟨g, e, hg, _⟩ := hd.resolve_left h0
    exact ⟨g, e, hg⟩
  have gt1 := (h.below hbA).push x ka da kc dc ((hk.below (below_alloc _ _)).mono hB) ((hd.below (below_alloc _ _)).mono hB) (fun i hi h1 h2 e => by
      obtain ⟨g, e2, hg2⟩ := newK h2
      have := (h.used (.inr (.inl ⟨i, hi, h1, by rw [e, e2]⟩))).2
      omega) (fun i hi h1 h2 e => by
      obtain ⟨g, e2, hg2⟩ := newD h2
      have := (h.used (.inr (.inr ⟨i, hi, h1, by rw [e, e2]⟩))).2
      omega) ho hg
  refine ⟨v', _, _, _, _, _, rfl, gt1, ⟨hg.os.trans hbA.os, hg.tape.trans hbA.tape, hg.output.trans hbA.output, by have := hg.size; have := hbA.size; omega, fun k hk hne => (hg.block k (by have := hbA.size; omega) hne).trans (hbA.block k hk)⟩, ?_, fun i hi => ?_, fun i h1 h2 => ?_, hP⟩
  · rcases hat with e | e
    · exact .inl e
    · exact .inr ⟨_, e, hbA.size⟩
  · have : i ≠ n := by omega
    simp only [this, if_false]
    exact ⟨trivial, trivial, trivial⟩
  · have : i = n := by omega
    subst this
    simp only [if_true]
    exact ⟨newK, newD⟩

set_option maxHeartbeats 8000000 in
theorem tellLeaf_any (d b : Nat) (t : List ByteArray) (S : Nat → Prop) (w : World) (h : TAo S w (d + 1) (.inl t) (.iface 53 (.pointer (some ⟨b, 0, none⟩)))) (B n rc : Nat) (ra : Option Addr) (N : Nat → Tn) (KA DA : Nat → Option Addr) (KC DC : Nat → Nat) (hg : GT w B (.slice ra n rc) n N KA DA KC DC) (hB : B ≤ w.heap.size) (ht : t.length ≤ 1000) (hn : n ≤ 100000) :
    Calls Try.prog 110 #[.pointer (some ⟨b, 0, none⟩), .slice ra n rc] w (RetTl w B (.slice ra n rc) n N KA DA 1 (fun N' => Tells N' 0 (d + 1) (.inl t) n)) := by
  obtain ⟨b', ka, kc, e, _, hx, hcap, hr⟩ := h
  injection e with _ e
  injection e with e
  injection e with e
  injection e with e
  subst e
  obtain ⟨m, hm⟩ : ∃ m, m = t.length := ⟨_, rfl⟩
  rw [← hm] at hx hr hcap ht
  have HX : Hid (Bx w b 57 #[.int .i64 (m : Int), .slice ka m kc] ∧ RdS w ka m (gt t)) := ⟨hx, hr.rdS⟩
  have HM : Hid (m = t.length) := hm
  have HG : Hid (GT w B (.slice ra n rc) n N KA DA KC DC) := hg
  have HCp : Hid (Calls Try.prog 53 #[.slice ka m kc] w.drew fun e w' => ∃ a' c', e = .returned (.slice a' m c') ∧ w'.ownsRow w.drew.heap.size 9 1 (.slice a' m c') m (strL t) ∧ Below w.drew.heap.size w.drew w') := copyStrs_any ka m kc t w.drew (hr.rdS.below (Below.refl _ _).drew) hm (by omega)
  have c0 : w.drew.cell? ⟨b, 0, none⟩ = some (.int .i64 (m : Int)) := by have := hx.cell 0; simpa using this
  have c1 : w.drew.cell? ⟨b, 1, none⟩ = some (.slice ka m kc) := by have := hx.cell 1; simpa using this
  have cz := hx.lt
  clear hx hr hg hm hcap
  go_enter Try.func110, Try.ntmps110
  go_upto_region 1 with fail
  refine wp_region_late (S := fun w' => w'.cell? ⟨b, 0, none⟩ = some (.int .i64 (m : Int)) ∧ w'.cell? ⟨b, 1, none⟩ = some (.slice ka m kc)) 13 (by kernel_rfl) ⟨c0, c1⟩ (fun hHeld => ?_)
  refine late_take 0 .zero (v := ?_) (by kernel_rfl) (by kernel_rfl) (by kernel_rfl) (by kernel_rfl) (fun _ _ _ h => h) (by rfl) ?_ (by assumption) ?_
  rotate_left
  · (intro w hSw; (try dsimp only at hSw); go_simp) <;> with_reducible rfl
  simp only [Act.put, List.setIfInBounds_toArray, List.set_cons_zero, List.set_cons_succ]
  refine late_take 1 (.succ .zero) (v := ?_) (by kernel_rfl) (by kernel_rfl) (by kernel_rfl) (by kernel_rfl) (fun _ _ _ h => h) (by rfl) ?_ (by assumption) ?_
  rotate_left
  · (intro w hSw; (try dsimp only at hSw); go_simp) <;> with_reducible rfl
  simp only [Act.put, List.setIfInBounds_toArray, List.set_cons_zero, List.set_cons_succ]
  refine late_take 2 (.succ (.succ .zero)) (v := ?_) (by kernel_rfl) (by kernel_rfl) (by kernel_rfl) (by kernel_rfl) (fun _ _ _ h => h) (by rfl) ?_ (by assumption) ?_
  rotate_left
  · (intro w hSw; (try dsimp only at hSw); go_simp) <;> with_reducible rfl
  simp only [Act.put, List.setIfInBounds_toArray, List.set_cons_zero, List.set_cons_succ]
  refine late_take 3 (.succ (.succ (.succ .zero))) (v := ?_) (by kernel_rfl) (by kernel_rfl) (by kernel_rfl) (by kernel_rfl) (fun _ _ _ h => h) (by rfl) ?_ (by assumption) ?_
  rotate_left
  · (intro w hSw; (try dsimp only at hSw); go_simp) <;> with_reducible rfl
  simp only [Act.put, List.setIfInBounds_toArray, List.set_cons_zero, List.set_cons_succ]
  refine late_take 4 (.succ (.succ (.succ (.succ .zero)))) (v := ?_) (by kernel_rfl) (by kernel_rfl) (by kernel_rfl) (by kernel_rfl) (fun _ _ _ h => h) (by rfl) ?_ (by assumption) ?_
  rotate_left
  · (intro w hSw; (try dsimp only at hSw); go_simp) <;> with_reducible rfl
  simp only [Act.put, List.setIfInBounds_toArray, List.set_cons_zero, List.set_cons_succ]
  refine late_take 6 (.succ (.succ (.succ (.succ (.succ (.succ .zero)))))) (v := ?_) (by kernel_rfl) (by kernel_rfl) (by kernel_rfl) (by kernel_rfl) (fun _ _ _ h => h) (by rfl) ?_ (by assumption) ?_
  rotate_left
  · (intro w hSw; (try dsimp only at hSw); go_simp) <;> with_reducible rfl
  simp only [Act.put, List.setIfInBounds_toArray, List.set_cons_zero, List.set_cons_succ]
  refine late_take 7 (.succ (.succ (.succ (.succ (.succ (.succ (.succ .zero))))))) (v := ?_) (by kernel_rfl) (by kernel_rfl) (by kernel_rfl) (by kernel_rfl) (fun _ _ _ h => h) (by rfl) ?_ (by assumption) ?_
  rotate_left
  · (intro w hSw; (try dsimp only at hSw); go_simp) <;> with_reducible rfl
  simp only [Act.put, List.setIfInBounds_toArray, List.set_cons_zero, List.set_cons_succ]
  refine late_take 8 (.succ (.succ (.succ (.succ (.succ (.succ (.succ (.succ .zero)))))))) (v := ?_) (by kernel_rfl) (by kernel_rfl) (by kernel_rfl) (by kernel_rfl) (fun _ _ _ h => h) (by rfl) ?_ (by assumption) ?_
  rotate_left
  · (intro w hSw; (try dsimp only at hSw); go_simp) <;> with_reducible rfl
  simp only [Act.put, List.setIfInBounds_toArray, List.set_cons_zero, List.set_cons_succ]
  refine late_one 5 (.succ (.succ (.succ (.succ (.succ .zero))))) (by kernel_rfl) (fun K hK => ?_)
  refine step_t1 (by rfl) 53 9 _ (by rfl) (.slice ka m kc) (by rfl) (fun _ _ => by rfl) ?_
  (with_reducible refine HCp.out.mono ?_)
  rintro e w1 ⟨a1, c1', rfl, ho1, hb1⟩
  refine ⟨_, rfl, ?_⟩
  have H1 : Hid (w1.ownsRow w.heap.size 9 1 (.slice a1 m c1') m (strL t) ∧ Below w.heap.size w w1) := ⟨ho1, below_undrew hb1⟩
  have d0 : w1.cell? ⟨b, 0, none⟩ = some (.int .i64 (m : Int)) := (H1.out.2.cell (p := ⟨b, 0, none⟩) cz).trans c0
  have d1 : w1.cell? ⟨b, 1, none⟩ = some (.slice ka m kc) := (H1.out.2.cell (p := ⟨b, 1, none⟩) cz).trans c1
  clear ho1 hb1
  refine hK.out _ _ ?_ (fun hHeld2 => ?_)
  · (intro _; exact ⟨d0, d1⟩)
  clear hK K
  replace hHeld := hHeld2 (by decide)
  clear hHeld2
  try simp only [Act.put, List.setIfInBounds_toArray, List.set_cons_zero, List.set_cons_succ]
  refine late_one 9 (.succ (.succ (.succ (.succ (.succ (.succ (.succ (.succ (.succ .zero))))))))) (by kernel_rfl) (fun K hK => ?_)
  refine step_t1 (by rfl) 83 13 _ (by rfl) (.pointer (some ⟨b, 0, none⟩)) (by rfl) (fun _ _ => by rfl) ?_
  refine (below_any b (m : Int) w1 d0).mono ?_
  rintro e w2 ⟨rfl, hw2⟩
  subst hw2
  refine ⟨_, rfl, ?_⟩
  refine hK.out _ _ ?_ (fun hHeld2 => ?_)
  · (intro _; exact ⟨d0, d1⟩)
  clear hK K
  replace hHeld := hHeld2 (by decide)
  clear hHeld2
  try simp only [Act.put, List.setIfInBounds_toArray, List.set_cons_zero, List.set_cons_succ]
  refine late_one 10 (.succ (.succ (.succ (.succ (.succ (.succ (.succ (.succ (.succ (.succ .zero)))))))))) (by kernel_rfl) (fun K hK => ?_)
  go_simp
  refine hK.out _ _ ?_ (fun hHeld2 => ?_)
  · (intro _; exact hHeld)
  clear hK K
  replace hHeld := hHeld2 (by decide)
  clear hHeld2
  try simp only [Act.put, List.setIfInBounds_toArray, List.set_cons_zero, List.set_cons_succ]
  refine late_one 11 (.succ (.succ (.succ (.succ (.succ (.succ (.succ (.succ (.succ (.succ (.succ .zero))))))))))) (by kernel_rfl) (fun K hK => ?_)
  go_simp
  refine hK.out _ _ ?_ (fun hHeld2 => ?_)
  · (intro _; exact ⟨((below_alloc w2 _).cell (p := ⟨b, 0, none⟩) (by have := H1.out.2.size; show b < w2.heap.size; omega)).trans d0, ((below_alloc w2 _).cell (p := ⟨b, 1, none⟩) (by have := H1.out.2.size; show b < w2.heap.size; omega)).trans d1⟩)
  clear hK K
  replace hHeld := hHeld2 (by decide)
  clear hHeld2
  try simp only [Act.put, List.setIfInBounds_toArray, List.set_cons_zero, List.set_cons_succ]
  refine late_one 12 (.succ (.succ (.succ (.succ (.succ (.succ (.succ (.succ (.succ (.succ (.succ (.succ .zero)))))))))))) (by kernel_rfl) (fun K hK => ?_)
  refine step_app_node (by rfl) (.tmp 5) (.tmp 16) (by rfl) B (.slice ra n rc) n _ (by rfl) (own_below (own_below HG.out.row H1.out.2) (below_alloc _ _)) w2.heap.size 1 (.bool true) (.slice a1 m c1') (.slice none 0 0) (.int .i64 (m : Int)) (by rfl) (fun j u hj => by rw [(Bx.new w2 #[.bool true, .slice a1 m c1', .slice none 0 0, .int .i64 (m : Int)] 88).cell j]; simpa using hj) (by intro u hu; simp at hu; rcases hu with rfl | rfl | rfl | rfl <;> rfl) (by omega) (by have := H1.out.2.size; simp; omega) ?_
  intro v3 w3 ho3 hg3 hat3
  have HR : Hid (RetTl w B (.slice ra n rc) n N KA DA 1 (fun N' => Tells N' 0 (d + 1) (.inl t) n) (.returned v3) w3) := by
    refine GT.more HG.out hB H1.out.2 ⟨true, m, gt t, 0, fun _ => 0, (m : Int)⟩ a1 none c1' 0 (own_ownS H1.out.1 HM.out) (.inl rfl) ho3 hg3 hat3 ?_
    refine ⟨by simp, by simp; exact HM.out, fun j hj => by simp, by simp, by simp; rw [← HM.out]⟩
  have k3 : w3.cell? ⟨b, 0, none⟩ = some (.int .i64 (m : Int)) ∧ w3.cell? ⟨b, 1, none⟩ = some (.slice ka m kc) := by
    have bx : rowIn w2 b 57 0 (fun _ => undef) := by
      have q := HX.out.1.below H1.out.2
      exact ⟨_, q, Nat.zero_le _, fun i hi => absurd hi (Nat.not_lt_zero _)⟩
    have hne := row_not (own_below HG.out.row H1.out.2) bx (by decide)
    have q := ((HX.out.1.below H1.out.2).alloc (.cells #[.bool true, .slice a1 m c1', .slice none 0 0, .int .i64 (m : Int)] 88)).grown hg3 hne
    exact ⟨by simpa using q.cell 0, by simpa using q.cell 1⟩
  clear ho3 hg3 hat3
  refine hK.out _ _ ?_ (fun hHeld2 => ?_)
  · (intro _; exact k3)
  clear hK K
  replace hHeld := hHeld2 (by decide)
  clear hHeld2
  try simp only [Act.put, List.setIfInBounds_toArray, List.set_cons_zero, List.set_cons_succ]
  refine late_one 13 (.succ (.succ (.succ (.succ (.succ (.succ (.succ (.succ (.succ (.succ (.succ (.succ (.succ .zero))))))))))))) (by kernel_rfl) (fun K hK => ?_)
  go_simp
  refine hK.out _ _ ?_ (fun hHeld2 => ?_)
  · (intro hne; exact absurd rfl hne)
  clear hK K hHeld2
  refine wpLate_done (by kernel_rfl) ?_ _
  go_wp2
  go_ret
  exact HR.out
end Go.Proofs.Ytakemeccigpbaaa

namespace Go.Proofs.Ytakemeccigpbaaa
open Go.RowKit Go.Deep
set_option linter.unusedVariables false
set_option maxRecDepth 100000

theorem wpList_append_ints {w : World} {ops : Array Oper} {rest : List Oper} {o : Oper} {act : Act} {Q : Exit → Act → World → Prop} (hgd : o.guard = none) (s x : Operand)
    (ho : o.op = .call { callee := .builtin .append, args := #[s, x], argTypes := #[86, 86] })
    (B : Nat) (v : Value) (n : Nat) (xs : List Value) (hs : act.eval s = v) (hown : w.ownsRow B 2 1 v n xs)
    (a : Option Addr) (m c : Nat) (L : List Int) (hx : act.eval x = .slice a m c) (hm : m = L.length) (hrd : Rd .i64 w a m (gi L)) (hnm : n + m ≤ 1099511627776) (hB : B ≤ w.heap.size)
    (h : ∀ v' w', w'.ownsRow B 2 1 v' (n + m) (xs ++ intL L) → w.grownBy w' v.ownBlock → (v'.ownBlock = v.ownBlock ∨ v'.ownBlock = some w.heap.size) → wpList Try.prog ops Q rest (act.put o.dst v') w') : wpList Try.prog ops Q (o :: rest) act w := by
  obtain ⟨i0, hi, hz0, hz1, hz2⟩ := info_parts Try.info2
  by_cases hm0 : m = 0
  · subst hm0
    have hL : L = [] := List.length_eq_zero_iff.1 hm.symm
    subst hL
    have hsrc : Src Try.prog i0.size 86 (.slice a 0 c) 0 [] w := by
      cases a with
      | none => exact Src.ofNil w Try.underlying86 c
      | some ad => exact Src.ofSlice w Try.underlying86 ad 0 c [] (by simp) (by simp) (by simp)
    have hsh : ∃ b l cap, v = .slice b l cap ∧ l ≤ cap := by
      rcases hown.2 with ⟨rfl, rfl⟩ | ⟨g, cap, cur, rfl, _, _, h1, _⟩
      · exact ⟨none, 0, 0, rfl, Nat.le_refl _⟩
      · exact ⟨_, n, cap, rfl, h1⟩
    obtain ⟨b, l, cap, hvv, hlc⟩ := hsh
    have hrun := run_append_nothing (P := Try.prog) w 86 86 o.type 2 i0 Try.underlying86 hi b l cap hlc (.slice a 0 c) hsrc
    rw [← hvv] at hrun
    refine wpList_plain hgd fun K hK => ?_
    unfold Oper.wp
    simp [execOp, ho, resolve, invoke, builtin, hs, hx, hrun, Result.andThen]
    exact hK _ _ (h v w (by simpa [intL] using hown) ⟨rfl, rfl, rfl, Nat.le_refl _, fun _ _ _ => rfl⟩ (Or.inl rfl))
  · rcases hrd with h0 | ⟨b, off, rfl, hc⟩
    · exact absurd h0 hm0
    · refine wpList_append_own_at w hgd s x 86 ho B 2 i0 (.int .i64 0) 1 8 Try.underlying86 hi hz0 hz1 hz2 rfl (by decide) v n xs hs hown ⟨b, off, none⟩ m c (intL L) hx (by rw [intL_length]; omega) (fun j u hj => ?_) (fun u hu => ?_) (by unfold maxLen; omega) (by omega) hB (fun v' w' h1 h2 _ h4 => h v' w' h1 h2 h4)
      · have hjm : j < m := by
          have := (List.getElem?_eq_some_iff.1 hj).1
          rw [intL_length] at this
          omega
        rw [intL_get L j (by omega)] at hj
        injection hj with hj
        subst hj
        have e : (Addr.add ⟨b, off, none⟩ j) = ⟨b, off + j, none⟩ := by
          unfold Addr.add
          by_cases h : j = 0
          · subst h; simp
          · simp [h]
        rw [e]
        exact hc j hjm
      · simp only [intL, List.mem_map] at hu
        obtain ⟨i, _, rfl⟩ := hu
        rfl

set_option maxHeartbeats 400000 in
theorem copyInts_any (a : Option Addr) (n c : Nat) (L : List Int) (w : World) (h : Rd .i64 w a n (gi L)) (hn : n = L.length) (hn2 : n ≤ 1048576) :
    Calls Try.prog 54 #[.slice a n c] w fun e w' => ∃ a' c', e = .returned (.slice a' n c') ∧ w'.ownsRow w.heap.size 2 1 (.slice a' n c') n (intL L) ∧ Below w.heap.size w w' := by
  have HR : Hid (Rd .i64 w a n (gi L) ∧ n = L.length) := ⟨h, hn⟩
  clear h hn
  go_enter Try.func54, Try.ntmps54
  go_wp2_with (at_builtin; refine wpList_append_ints rfl _ _ rfl w.heap.size (.slice none 0 0) 0 [] rfl (World.ownsRow_nil _ _ _ _) a n c L rfl HR.out.2 HR.out.1 (by omega) (Nat.le_refl _) ?_)
  intro v' w' ho hg hat
  have HB : Hid (Below w.heap.size w w') := (Below.refl _ _).grown hg (Nat.le_refl _) (fun k e => by simp [Value.ownBlock] at e)
  obtain ⟨a', c', rfl, _⟩ := own_form ho
  have HO : Hid (w'.ownsRow w.heap.size 2 1 (.slice a' n c') n (intL L)) := ho
  clear ho hg hat
  go_wp2
  go_ret
  exact ⟨a', c', rfl, HO.out, HB.out⟩

theorem own_ownI {w : World} {B n c : Nat} {a : Option Addr} {L : List Int} (h : w.ownsRow B 2 1 (.slice a n c) n (intL L)) (hn : n = L.length) (X : Nat → Int) (hX : ∀ i, i < n → gi L i = X i) : OwnI w B a n X := by
  by_cases h0 : n = 0
  · exact .inl h0
  · rcases h.2 with ⟨_, q⟩ | ⟨g, cap, cur, q1, q2, q3, q4, q5, q6, q7⟩
    · exact absurd q h0
    · injection q1 with q1
      refine .inr ⟨g, q1, q2, cur, q3, by omega, fun i hi => ?_⟩
      have q8 : (cur.toList.take (n * 1))[i]? = (intL L)[i]? := by rw [q7]
      rw [List.getElem?_take, if_pos (by omega), Array.getElem?_toList, intL_get L i (by omega), hX i hi] at q8
      exact q8

theorem GT.congr {w : World} {B : Nat} {v : Value} {n : Nat} {N N' : Nat → Tn} {KA DA : Nat → Option Addr} {KC DC : Nat → Nat} (h : GT w B v n N KA DA KC DC) (e : ∀ i, i < n → N i = N' i) : GT w B v n N' KA DA KC DC := by
  refine ⟨?_, fun i hi => by rw [← e i hi]; exact h.keys i hi, fun i hi => by rw [← e i hi]; exact h.kids i hi, fun i j hi hj hij h1 h2 => h.apartK i j hi hj hij (by rw [e i hi]; exact h1) (by rw [e j hj]; exact h2), fun i j hi hj hij h1 h2 => h.apartD i j hi hj hij (by rw [e i hi]; exact h1) (by rw [e j hj]; exact h2)⟩
  have q : (List.range (n * 4)).map (tnCell N' KA DA KC DC) = (List.range (n * 4)).map (tnCell N KA DA KC DC) := List.map_congr_left (fun c hc => by
    have hc' : c < n * 4 := List.mem_range.1 hc
    unfold tnCell
    rw [e (c / 4) (by omega)])
  rw [q]
  exact h.row

theorem GT.nil (w : World) (B : Nat) (N : Nat → Tn) (KA DA : Nat → Option Addr) (KC DC : Nat → Nat) : GT w B (.slice none 0 0) 0 N KA DA KC DC :=
  ⟨⟨rfl, .inl ⟨rfl, rfl⟩⟩, fun i hi => absurd hi (Nat.not_lt_zero _), fun i hi => absurd hi (Nat.not_lt_zero _), fun i j hi => absurd hi (Nat.not_lt_zero _), fun i j hi => absurd hi (Nat.not_lt_zero _)⟩

theorem own_mono {w : World} {B B' : Nat} {e : TypeId} {size : Nat} {v : Value} {n : Nat} {xs : List Value} (h : w.ownsRow B e size v n xs) (hB : B' ≤ B) : w.ownsRow B' e size v n xs := by
  refine ⟨h.1, ?_⟩
  rcases h.2 with q | ⟨g, cap, cur, q1, q2, q3⟩
  · exact .inl q
  · exact .inr ⟨g, cap, cur, q1, by omega, q3⟩

/-- What hands back nodes of its own. -/
def RetOt (w : World) (n : Nat) (N : Nat → Tn) (e : Ending) (w' : World) : Prop :=
  Below w.heap.size w w' ∧ ∃ a c KA DA KC DC, e = .returned (.agg #[.slice a n c]) ∧ GT w' (w.heap.size + 1) (.slice a n c) n N KA DA KC DC

set_option maxHeartbeats 8000000 in
theorem copyI_any (a : Option Addr) (n c : Nat) (N : Nat → Tn) (w : World) (h : RdTn w a n N) (hn : n ≤ 1048576) (hN : ∀ i, i < n → TnFit (N i)) :
    Calls Try.prog 36 #[.agg #[.slice a n c]] w (RetOt w n N) := by
  have HR : Hid (RdTn w a n N ∧ ∀ i, i < n → TnFit (N i)) := ⟨h, hN⟩
  clear h hN
  go_enter Try.func36, Try.ntmps36
  go_wp2
  have S0 : Hid (Bx ((w.alloc (.cells #[.slice a n c] 25)).alloc (.cells #[.slice none 0 0] 25)) (w.heap.size + 1) 25 #[.slice none 0 0] ∧ Below w.heap.size w ((w.alloc (.cells #[.slice a n c] 25)).alloc (.cells #[.slice none 0 0] 25))) := by
    refine ⟨?_, (below_alloc _ _).alloc (by simp) _⟩
    have := Bx.new (w.alloc (.cells #[.slice a n c] 25)) #[.slice none 0 0] 25
    rw [World.size_alloc] at this
    exact this
  generalize (w.alloc (.cells #[.slice a n c] 25)).alloc (.cells #[.slice none 0 0] 25) = W0 at S0 ⊢
  go_loopw [3, 9] (fun q i wr => ∃ (k : Nat) (ra : Option Addr) (rc : Nat) (KA DA : Nat → Option Addr) (KC DC : Nat → Nat), k ≤ n ∧ i = .int .i64 k ∧ q = .slice ra k rc ∧ GT wr (w.heap.size + 2) (.slice ra k rc) k N KA DA KC DC ∧ Bx wr (w.heap.size + 1) 25 #[.slice none 0 0] ∧ Below w.heap.size w wr) (fun _ i _ => n - (intOf i).toNat)
  case atStart => exact ⟨0, none, 0, fun _ => none, fun _ => none, fun _ => 0, fun _ => 0, Nat.zero_le _, rfl, rfl, GT.nil _ _ _ _ _ _ _, S0.out.1, S0.out.2⟩
  case round =>
    obtain ⟨k, ra, rc, KA, DA, KC, DC, hk, rfl, rfl, hgt, hbx, hbel⟩ := hrel
    clear S0
    have H0 : Hid (GT wr (w.heap.size + 2) (.slice ra k rc) k N KA DA KC DC ∧ Bx wr (w.heap.size + 1) 25 #[.slice none 0 0] ∧ Below w.heap.size w wr) := ⟨hgt, hbx, hbel⟩
    have hz0 := hbx.lt
    clear hgt hbx hbel
    by_cases hlt : k < n
    · obtain ⟨b, o, rfl, hc⟩ := (HR.out.1.below H0.out.2.2 : RdTn wr a n N).resolve_left (by omega)
      obtain ⟨ka, kc, da, dc, c0, c1, c2, c3, c4, c5⟩ := hc k hlt
      have hfit := HR.out.2 k hlt
      have i0 : (0 : Int) ≤ (k : Int) := by omega
      have i1 : (k : Int) < (n : Int) := by omega
      have HRK0 : Hid (RdS wr ka (N k).kn (gt (ksL (N k))) ∧ Rd .i64 wr da (N k).dn (gi (kdL (N k)))) := ⟨c4.congr (fun j hj => (gt_ksL (N k) j hj).symm), c5.congr (fun j hj => (gi_kdL (N k) j hj).symm)⟩
      have HFit : Hid ((N k).kn ≤ 1048576 ∧ (N k).dn ≤ 1048576) := ⟨hfit.1, hfit.2⟩
      clear hc c4 c5 hfit
      go_upto_region 5 with fail
      obtain ⟨nb, hnb⟩ : ∃ nb, nb = wr.heap.size := ⟨_, rfl⟩
      rw [← hnb]
      have hbx : Bx (wr.alloc (.cells #[.bool (N k).lf, .slice ka (N k).kn kc, .slice da (N k).dn dc, .int .i64 (N k).ct] 88)) nb 88 #[.bool (N k).lf, .slice ka (N k).kn kc, .slice da (N k).dn dc, .int .i64 (N k).ct] := by rw [hnb]; exact Bx.new _ _ _
      have hb0 : Below wr.heap.size wr (wr.alloc (.cells #[.bool (N k).lf, .slice ka (N k).kn kc, .slice da (N k).dn dc, .int .i64 (N k).ct] 88)) := below_alloc _ _
      generalize hW1 : wr.alloc (.cells #[.bool (N k).lf, .slice ka (N k).kn kc, .slice da (N k).dn dc, .int .i64 (N k).ct] 88) = W1 at hbx hb0 ⊢
      have HG : Hid (GT W1.drew (w.heap.size + 2) (.slice ra k rc) k N KA DA KC DC ∧ Bx W1.drew (w.heap.size + 1) 25 #[.slice none 0 0] ∧ Below w.heap.size w W1.drew ∧ w.heap.size + 2 ≤ W1.drew.heap.size) := ⟨(H0.out.1.below hb0).below (Below.refl _ _).drew, (H0.out.2.1.below hb0).drew, (H0.out.2.2.trans (hb0.mono H0.out.2.2.size)).drew, by have := hb0.size; show w.heap.size + 2 ≤ W1.heap.size; omega⟩
      have HRK : Hid (RdS W1.drew ka (N k).kn (gt (ksL (N k))) ∧ Rd .i64 W1.drew da (N k).dn (gi (kdL (N k)))) := ⟨(HRK0.out.1.below hb0).below (Below.refl _ _).drew, (HRK0.out.2.below hb0).below (Below.refl _ _).drew⟩
      have HKeep : Hid (∀ W', Below W1.drew.heap.size W1.drew W' → W'.cell? ⟨nb, 0, none⟩ = some (.bool (N k).lf) ∧ W'.cell? ⟨nb, 1, none⟩ = some (.slice ka (N k).kn kc) ∧ W'.cell? ⟨nb, 2, none⟩ = some (.slice da (N k).dn dc) ∧ W'.cell? ⟨nb, 3, none⟩ = some (.int .i64 (N k).ct)) := by
        intro W' hW'
        have q := hbx.drew.below hW'
        exact ⟨by simpa using q.cell 0, by simpa using q.cell 1, by simpa using q.cell 2, by simpa using q.cell 3⟩
      have HNb : Hid (Bx W1.drew nb 88 #[.bool (N k).lf, .slice ka (N k).kn kc, .slice da (N k).dn dc, .int .i64 (N k).ct] ∧ ∀ g, (Value.slice ra k rc).ownBlock = some g → g ≠ nb) := ⟨hbx.drew, fun g e => by have := (own_lt H0.out.1.row g e).2; omega⟩
      have HCS : Hid (Calls Try.prog 53 #[.slice ka (N k).kn kc] W1.drew fun e w' => ∃ a' c', e = .returned (.slice a' (N k).kn c') ∧ w'.ownsRow W1.drew.heap.size 9 1 (.slice a' (N k).kn c') (N k).kn (strL (ksL (N k))) ∧ Below W1.drew.heap.size W1.drew w') := copyStrs_any ka (N k).kn kc (ksL (N k)) W1.drew HRK.out.1 (ksL_length _).symm HFit.out.1
      have HCI : Hid (∀ W', Below W1.drew.heap.size W1.drew W' → Calls Try.prog 54 #[.slice da (N k).dn dc] W' fun e w' => ∃ a' c', e = .returned (.slice a' (N k).dn c') ∧ w'.ownsRow W'.heap.size 2 1 (.slice a' (N k).dn c') (N k).dn (intL (kdL (N k))) ∧ Below W'.heap.size W' w') := fun W' hW' => copyInts_any da (N k).dn dc (kdL (N k)) W' (HRK.out.2.below hW') (kdL_length _).symm HFit.out.2
      clear hbx hb0 HRK0 H0 c0 c1 c2 c3 hW1 hnb
      generalize hR : W1.drew = R at HG HRK HKeep HCS HCI HNb
      refine wp_region_late (S := fun w' => w'.cell? ⟨nb, 0, none⟩ = some (.bool (N k).lf) ∧ w'.cell? ⟨nb, 1, none⟩ = some (.slice ka (N k).kn kc) ∧ w'.cell? ⟨nb, 2, none⟩ = some (.slice da (N k).dn dc) ∧ w'.cell? ⟨nb, 3, none⟩ = some (.int .i64 (N k).ct)) 14 (by kernel_rfl) ?_ (fun hHeld => ?_)
      · (rw [hR]; exact HKeep.out _ (Below.refl _ _))
      rw [hR] at hHeld ⊢
      clear hR
      refine late_take 0 .zero (v := ?_) (by kernel_rfl) (by kernel_rfl) (by kernel_rfl) (by kernel_rfl) (fun _ _ _ h => h) (by rfl) ?_ (by assumption) ?_
      rotate_left
      · (intro w hSw; (try dsimp only at hSw); go_simp) <;> with_reducible rfl
      simp only [Act.put, List.setIfInBounds_toArray, List.set_cons_zero, List.set_cons_succ]
      refine late_take 1 (.succ .zero) (v := ?_) (by kernel_rfl) (by kernel_rfl) (by kernel_rfl) (by kernel_rfl) (fun _ _ _ h => h) (by rfl) ?_ (by assumption) ?_
      rotate_left
      · (intro w hSw; (try dsimp only at hSw); go_simp) <;> with_reducible rfl
      simp only [Act.put, List.setIfInBounds_toArray, List.set_cons_zero, List.set_cons_succ]
      refine late_take 2 (.succ (.succ .zero)) (v := ?_) (by kernel_rfl) (by kernel_rfl) (by kernel_rfl) (by kernel_rfl) (fun _ _ _ h => h) (by rfl) ?_ (by assumption) ?_
      rotate_left
      · (intro w hSw; (try dsimp only at hSw); go_simp) <;> with_reducible rfl
      simp only [Act.put, List.setIfInBounds_toArray, List.set_cons_zero, List.set_cons_succ]
      refine late_take 3 (.succ (.succ (.succ .zero))) (v := ?_) (by kernel_rfl) (by kernel_rfl) (by kernel_rfl) (by kernel_rfl) (fun _ _ _ h => h) (by rfl) ?_ (by assumption) ?_
      rotate_left
      · (intro w hSw; (try dsimp only at hSw); go_simp) <;> with_reducible rfl
      simp only [Act.put, List.setIfInBounds_toArray, List.set_cons_zero, List.set_cons_succ]
      refine late_take 4 (.succ (.succ (.succ (.succ .zero)))) (v := ?_) (by kernel_rfl) (by kernel_rfl) (by kernel_rfl) (by kernel_rfl) (fun _ _ _ h => h) (by rfl) ?_ (by assumption) ?_
      rotate_left
      · (intro w hSw; (try dsimp only at hSw); go_simp) <;> with_reducible rfl
      simp only [Act.put, List.setIfInBounds_toArray, List.set_cons_zero, List.set_cons_succ]
      refine late_take 6 (.succ (.succ (.succ (.succ (.succ (.succ .zero)))))) (v := ?_) (by kernel_rfl) (by kernel_rfl) (by kernel_rfl) (by kernel_rfl) (fun _ _ _ h => h) (by rfl) ?_ (by assumption) ?_
      rotate_left
      · (intro w hSw; (try dsimp only at hSw); go_simp) <;> with_reducible rfl
      simp only [Act.put, List.setIfInBounds_toArray, List.set_cons_zero, List.set_cons_succ]
      refine late_take 7 (.succ (.succ (.succ (.succ (.succ (.succ (.succ .zero))))))) (v := ?_) (by kernel_rfl) (by kernel_rfl) (by kernel_rfl) (by kernel_rfl) (fun _ _ _ h => h) (by rfl) ?_ (by assumption) ?_
      rotate_left
      · (intro w hSw; (try dsimp only at hSw); go_simp) <;> with_reducible rfl
      simp only [Act.put, List.setIfInBounds_toArray, List.set_cons_zero, List.set_cons_succ]
      refine late_take 9 (.succ (.succ (.succ (.succ (.succ (.succ (.succ (.succ (.succ .zero))))))))) (v := ?_) (by kernel_rfl) (by kernel_rfl) (by kernel_rfl) (by kernel_rfl) (fun _ _ _ h => h) (by rfl) ?_ (by assumption) ?_
      rotate_left
      · (intro w hSw; (try dsimp only at hSw); go_simp) <;> with_reducible rfl
      simp only [Act.put, List.setIfInBounds_toArray, List.set_cons_zero, List.set_cons_succ]
      refine late_take 10 (.succ (.succ (.succ (.succ (.succ (.succ (.succ (.succ (.succ (.succ .zero)))))))))) (v := ?_) (by kernel_rfl) (by kernel_rfl) (by kernel_rfl) (by kernel_rfl) (fun _ _ _ h => h) (by rfl) ?_ (by assumption) ?_
      rotate_left
      · (intro w hSw; (try dsimp only at hSw); go_simp) <;> with_reducible rfl
      simp only [Act.put, List.setIfInBounds_toArray, List.set_cons_zero, List.set_cons_succ]
      refine late_one 5 (.succ (.succ (.succ (.succ (.succ .zero))))) (by kernel_rfl) (fun K hK => ?_)
      refine step_t1 (by rfl) 53 17 _ (by rfl) (.slice ka (N k).kn kc) (by rfl) (fun _ _ => by rfl) ?_
      (with_reducible refine HCS.out.mono ?_)
      rintro e w1 ⟨a1, c1', rfl, ho1, hb1⟩
      refine ⟨_, rfl, ?_⟩
      have H1 : Hid (w1.ownsRow R.heap.size 9 1 (.slice a1 (N k).kn c1') (N k).kn (strL (ksL (N k))) ∧ Below R.heap.size R w1) := ⟨ho1, hb1⟩
      clear ho1 hb1
      refine hK.out _ _ ?_ (fun hHeld2 => ?_)
      · (intro _; exact HKeep.out _ H1.out.2)
      clear hK K
      replace hHeld := hHeld2 (by decide)
      clear hHeld2
      try simp only [Act.put, List.setIfInBounds_toArray, List.set_cons_zero, List.set_cons_succ]
      refine late_one 8 (.succ (.succ (.succ (.succ (.succ (.succ (.succ (.succ .zero)))))))) (by kernel_rfl) (fun K hK => ?_)
      have HCI1 : Hid (Calls Try.prog 54 #[.slice da (N k).dn dc] w1 fun e w' => ∃ a' c', e = .returned (.slice a' (N k).dn c') ∧ w'.ownsRow w1.heap.size 2 1 (.slice a' (N k).dn c') (N k).dn (intL (kdL (N k))) ∧ Below w1.heap.size w1 w') := HCI.out w1 H1.out.2
      refine step_t1 (by rfl) 54 20 _ (by rfl) (.slice da (N k).dn dc) (by rfl) (fun _ _ => by rfl) ?_
      (with_reducible refine HCI1.out.mono ?_)
      rintro e w2 ⟨a2, c2', rfl, ho2, hb2⟩
      refine ⟨_, rfl, ?_⟩
      have H2 : Hid (OwnS w2 R.heap.size a1 (N k).kn (N k).ks ∧ OwnI w2 R.heap.size a2 (N k).dn (N k).kd ∧ Below R.heap.size R w2) := by
        have q1 := own_ownS (own_below H1.out.1 hb2) (ksL_length _).symm
        refine ⟨?_, (own_ownI ho2 (kdL_length _).symm (N k).kd (fun i hi => gi_kdL (N k) i hi)).mono H1.out.2.size, H1.out.2.trans (hb2.mono H1.out.2.size)⟩
        rcases q1 with q | ⟨g, e, hg, hr⟩
        · exact .inl q
        · exact .inr ⟨g, e, hg, hr.congr (fun i hi => by rw [gt_ksL (N k) i hi])⟩
      clear ho2 hb2 HCI1
      refine hK.out _ _ ?_ (fun hHeld2 => ?_)
      · (intro _; exact HKeep.out _ H2.out.2.2)
      clear hK K
      replace hHeld := hHeld2 (by decide)
      clear hHeld2
      try simp only [Act.put, List.setIfInBounds_toArray, List.set_cons_zero, List.set_cons_succ]
      refine late_one 11 (.succ (.succ (.succ (.succ (.succ (.succ (.succ (.succ (.succ (.succ (.succ .zero))))))))))) (by kernel_rfl) (fun K hK => ?_)
      go_simp
      refine hK.out _ _ ?_ (fun hHeld2 => ?_)
      · (intro _; exact hHeld)
      clear hK K
      replace hHeld := hHeld2 (by decide)
      clear hHeld2
      try simp only [Act.put, List.setIfInBounds_toArray, List.set_cons_zero, List.set_cons_succ]
      refine late_one 12 (.succ (.succ (.succ (.succ (.succ (.succ (.succ (.succ (.succ (.succ (.succ (.succ .zero)))))))))))) (by kernel_rfl) (fun K hK => ?_)
      go_simp
      refine hK.out _ _ ?_ (fun hHeld2 => ?_)
      · (intro _; exact HKeep.out _ (H2.out.2.2.alloc H2.out.2.2.size _))
      clear hK K
      replace hHeld := hHeld2 (by decide)
      clear hHeld2
      try simp only [Act.put, List.setIfInBounds_toArray, List.set_cons_zero, List.set_cons_succ]
      refine late_one 13 (.succ (.succ (.succ (.succ (.succ (.succ (.succ (.succ (.succ (.succ (.succ (.succ (.succ .zero))))))))))))) (by kernel_rfl) (fun K hK => ?_)
      refine step_app_node (by rfl) (.tmp 13) (.tmp 25) (by rfl) (w.heap.size + 2) (.slice ra k rc) k _ (by rfl) (own_below (own_below HG.out.1.row H2.out.2.2) (below_alloc _ _)) w2.heap.size 1 (.bool (N k).lf) (.slice a1 (N k).kn c1') (.slice a2 (N k).dn c2') (.int .i64 (N k).ct) (by rfl) (fun j u hj => by rw [(Bx.new w2 #[.bool (N k).lf, .slice a1 (N k).kn c1', .slice a2 (N k).dn c2', .int .i64 (N k).ct] 88).cell j]; simpa using hj) (by intro u hu; simp at hu; rcases hu with rfl | rfl | rfl | rfl <;> rfl) (by omega) (by have := H2.out.2.2.size; have := HG.out.2.2.2; simp; omega) ?_
      intro v3 w3 ho3 hg3 hat3
      obtain ⟨a3, c3', e3, _⟩ := own_form ho3
      subst e3
      have HX : Hid (∃ KA' DA' KC' DC', GT w3 (w.heap.size + 2) (.slice a3 (k + 1) c3') (k + 1) N KA' DA' KC' DC' ∧ Bx w3 (w.heap.size + 1) 25 #[.slice none 0 0] ∧ Below w.heap.size w w3) := by
        obtain ⟨v', N', KA', DA', KC', DC', e, q1, q2, q3, q4, q5, q6⟩ := GT.more HG.out.1 HG.out.2.2.2 H2.out.2.2 (N k) a1 a2 c1' c2' H2.out.1 H2.out.2.1 ho3 hg3 hat3 (P := fun N' => N' k = N k) (by simp)
        injection e with e
        subst e
        have hlt := own_lt HG.out.1.row
        refine ⟨KA', DA', KC', DC', q1.congr (fun i hi => ?_), HG.out.2.1.grown q2 (fun e => by have := (hlt _ e).1; omega), HG.out.2.2.1.grown q2 (by have := HG.out.2.2.2; omega) (fun g e => by have := (hlt g e).1; omega)⟩
        by_cases e : i = k
        · subst e; exact q6
        · exact (q4 i (by omega)).1
      have k3 := HKeep.out _ H2.out.2.2
      have k4 : w3.cell? ⟨nb, 0, none⟩ = some (.bool (N k).lf) ∧ w3.cell? ⟨nb, 1, none⟩ = some (.slice ka (N k).kn kc) ∧ w3.cell? ⟨nb, 2, none⟩ = some (.slice da (N k).dn dc) ∧ w3.cell? ⟨nb, 3, none⟩ = some (.int .i64 (N k).ct) := by
        have q := ((HNb.out.1.below H2.out.2.2).alloc (.cells #[.bool (N k).lf, .slice a1 (N k).kn c1', .slice a2 (N k).dn c2', .int .i64 (N k).ct] 88)).grown hg3 (fun e => HNb.out.2 _ e rfl)
        exact ⟨by simpa using q.cell 0, by simpa using q.cell 1, by simpa using q.cell 2, by simpa using q.cell 3⟩
      clear ho3 hg3 hat3 k3
      refine hK.out _ _ ?_ (fun hHeld2 => ?_)
      · (intro _; exact k4)
      clear hK K
      replace hHeld := hHeld2 (by decide)
      clear hHeld2
      try simp only [Act.put, List.setIfInBounds_toArray, List.set_cons_zero, List.set_cons_succ]
      refine late_one 14 (.succ (.succ (.succ (.succ (.succ (.succ (.succ (.succ (.succ (.succ (.succ (.succ (.succ (.succ .zero)))))))))))))) (by kernel_rfl) (fun K hK => ?_)
      go_simp
      refine hK.out _ _ ?_ (fun hHeld2 => ?_)
      · (intro hne; exact absurd rfl hne)
      clear hK K hHeld2
      refine wpLate_done (by kernel_rfl) ?_ _
      obtain ⟨KA', DA', KC', DC', hx⟩ := HX.out
      have HX2 : Hid (GT w3 (w.heap.size + 2) (.slice a3 (k + 1) c3') (k + 1) N KA' DA' KC' DC' ∧ Bx w3 (w.heap.size + 1) 25 #[.slice none 0 0] ∧ Below w.heap.size w w3) := hx
      clear hx hHeld k4
      go_wp2
      go_roundw
      case rel => exact ⟨k + 1, a3, c3', KA', DA', KC', DC', by omega, by go_num, rfl, HX2.out⟩
      case measure => simp [intOf]; omega
    · have e : k = n := by omega
      subst e
      have z0 := H0.out.2.1.cell 0
      simp at z0
      have zf := H0.out.2.1.frozen 0
      go_wp2
      refine bodyPost_ret (v := .agg #[.slice ra k rc]) (by simp [results, Try.results36, go_sem, z0]) rfl ⟨H0.out.2.2.setCell (by simp) _, ra, rc, KA, DA, KC, DC, rfl, ?_⟩
      have q := H0.out.1.keep (w' := wr.setCell ⟨w.heap.size + 1, 0, none⟩ (.slice ra k rc)) (fun x hx => Below.heap_setCell _ _ _ _ (by have := (H0.out.1.used hx).1; show x ≠ w.heap.size + 1; omega))
      exact ⟨own_mono q.row (by omega), fun i hi => (q.keys i hi).mono (by omega), fun i hi => (q.kids i hi).mono (by omega), q.apartK, q.apartD⟩
end Go.Proofs.Ytakemeccigpbaaa

namespace Go.Proofs.Ytakemeccigpbaaa
open Go.RowKit Go.Deep
set_option linter.unusedVariables false
set_option maxRecDepth 100000

/-- The state of inner.tell's loop. -/
structure TlSt (w wr : World) (B n m : Nat) (v q : Value) (N : Nat → Tn) (KA DA : Nat → Option Addr) (N' : Nat → Tn) (KA' DA' : Nat → Option Addr) (KC' DC' : Nat → Nat) (tb : Nat) (C : Int) (ka : Option Addr) (kn kc : Nat) (da : Option Addr) (dn dc : Nat) (LK : List ByteArray) (LD : List Int) : Prop where
  gt : GT wr B q m N' KA' DA' KC' DC'
  old : ∀ i, i < n → N' i = N i ∧ KA' i = KA i ∧ DA' i = DA i
  new : ∀ i, n ≤ i → i < m → ((N' i).kn ≠ 0 → ∃ g, KA' i = some ⟨g, 0, none⟩ ∧ w.heap.size ≤ g) ∧ ((N' i).dn ≠ 0 → ∃ g, DA' i = some ⟨g, 0, none⟩ ∧ w.heap.size ≤ g)
  zero : (N' n).kn = 0 ∧ (N' n).dn = 0 ∧ n < m
  box : Bx wr tb 88 #[.bool false, .slice ka kn kc, .slice da dn dc, .int .i64 C]
  tbw : w.heap.size ≤ tb ∧ ¬ UsedT q m N' KA' DA' tb
  own1 : wr.ownsRow B 9 1 (.slice ka kn kc) kn (strL LK) ∧ kn = LK.length
  own2 : wr.ownsRow B 2 1 (.slice da dn dc) dn (intL LD) ∧ dn = LD.length
  far1 : ∀ g, (Value.slice ka kn kc).ownBlock = some g → (w.heap.size ≤ g ∧ g ≠ tb) ∧ ¬ UsedT q m N' KA' DA' g
  far2 : ∀ g, (Value.slice da dn dc).ownBlock = some g → (w.heap.size ≤ g ∧ g ≠ tb) ∧ ¬ UsedT q m N' KA' DA' g
  fr : w.grownBy wr v.ownBlock
  qat : q.ownBlock = v.ownBlock ∨ ∃ g, q.ownBlock = some g ∧ w.heap.size ≤ g

section
variable {w wr w1 w2 : World} {B n m : Nat} {v q : Value} {N : Nat → Tn} {KA DA : Nat → Option Addr} {N' : Nat → Tn} {KA' DA' : Nat → Option Addr} {KC' DC' : Nat → Nat} {tb : Nat} {C : Int} {ka : Option Addr} {kn kc : Nat} {da : Option Addr} {dn dc : Nat} {LK : List ByteArray} {LD : List Int}

/-- One key more in the node that is told. -/
theorem TlSt.key (h : TlSt w wr B n m v q N KA DA N' KA' DA' KC' DC' tb C ka kn kc da dn dc LK LD) (hb : Below wr.heap.size wr w1) {ka2 : Option Addr} {kc2 : Nat} {s : ByteArray} (ho : w2.ownsRow B 9 1 (.slice ka2 (kn + 1) kc2) (kn + 1) (strL LK ++ [.string s])) (hg : w1.grownBy w2 (Value.slice ka kn kc).ownBlock) (hat : (Value.slice ka2 (kn + 1) kc2).ownBlock = (Value.slice ka kn kc).ownBlock ∨ (Value.slice ka2 (kn + 1) kc2).ownBlock = some w1.heap.size) :
    TlSt w (w2.setCell ⟨tb, 1, none⟩ (.slice ka2 (kn + 1) kc2)) B n m v q N KA DA N' KA' DA' KC' DC' tb C ka2 (kn + 1) kc2 da dn dc (LK ++ [s]) LD ∧ Bx w2 tb 88 #[.bool false, .slice ka kn kc, .slice da dn dc, .int .i64 C] := by
  have hs := hb.size
  have hs2 := hg.size
  have hzw : w.heap.size ≤ wr.heap.size := h.fr.size
  have blk : ∀ x, x < wr.heap.size → (Value.slice ka kn kc).ownBlock ≠ some x → w2.heap[x]? = wr.heap[x]? := fun x hx hne => (hg.block x (by omega) (fun e => hne e.symm)).trans (hb.block x hx)
  have blk2 : ∀ x, x < wr.heap.size → (Value.slice ka kn kc).ownBlock ≠ some x → x ≠ tb → (w2.setCell ⟨tb, 1, none⟩ (.slice ka2 (kn + 1) kc2)).heap[x]? = wr.heap[x]? := fun x hx hne ht => (Below.heap_setCell _ _ _ _ (show x ≠ tb from ht)).trans (blk x hx hne)
  have tblt := h.box.lt
  have bx2 : Bx w2 tb 88 #[.bool false, .slice ka kn kc, .slice da dn dc, .int .i64 C] := h.box.of_block (blk tb tblt (fun e => (h.far1 tb e).1.2 rfl))
  have hlt1 := own_lt h.own1.1
  have n2 : ∀ g, (Value.slice da dn dc).ownBlock = some g → (Value.slice ka kn kc).ownBlock ≠ some g := fun g e => own_ne h.own2.1 h.own1.1 (by decide) g e
  have two : ∀ g, (Value.slice ka2 (kn + 1) kc2).ownBlock = some g → (Value.slice ka kn kc).ownBlock = some g ∨ wr.heap.size ≤ g := fun g e => by
    rcases hat with h1 | h1
    · rw [h1] at e; exact .inl e
    · rw [h1] at e; injection e with e; exact .inr (by omega)
  refine ⟨⟨h.gt.keep (fun x hx => blk2 x (h.gt.used hx).2 (fun e => (h.far1 x e).2 hx) (fun e => h.tbw.2 (e ▸ hx))), h.old, h.new, h.zero, ?_, h.tbw, ⟨?_, by rw [List.length_append, ← h.own1.2]; rfl⟩, ⟨own_keep h.own2.1 (fun g e => blk2 g (own_lt h.own2.1 g e).2 (n2 g e) (h.far2 g e).1.2), h.own2.2⟩, fun g e => ?_, h.far2, ?_, h.qat⟩, bx2⟩
  · exact bx2.set 1 _
  · rw [strL_app]
    refine own_keep ho (fun g e => Below.heap_setCell _ _ _ _ (show g ≠ tb from ?_))
    rcases two g e with h1 | h1
    · exact (h.far1 g h1).1.2
    · omega
  · rcases two g e with h1 | h1
    · exact h.far1 g h1
    · exact ⟨⟨by omega, by omega⟩, fun q => by have := (h.gt.used q).2; omega⟩
  · refine ⟨hg.os.trans (hb.os.trans h.fr.os), hg.tape.trans (hb.tape.trans h.fr.tape), hg.output.trans (hb.output.trans h.fr.output), by simp [World.setCell]; omega, fun k hk hne => ?_⟩
    exact (blk2 k (by omega) (fun e => by have := (h.far1 k e).1; omega) (by have := h.tbw.1; omega)).trans (h.fr.block k hk hne)

/-- One child's number more. -/
theorem TlSt.kid (h : TlSt w wr B n m v q N KA DA N' KA' DA' KC' DC' tb C ka kn kc da dn dc LK LD) (hb : Below wr.heap.size wr w1) {da2 : Option Addr} {dc2 : Nat} {s : Int} (ho : w2.ownsRow B 2 1 (.slice da2 (dn + 1) dc2) (dn + 1) (intL LD ++ [.int .i64 s])) (hg : w1.grownBy w2 (Value.slice da dn dc).ownBlock) (hat : (Value.slice da2 (dn + 1) dc2).ownBlock = (Value.slice da dn dc).ownBlock ∨ (Value.slice da2 (dn + 1) dc2).ownBlock = some w1.heap.size) :
    TlSt w (w2.setCell ⟨tb, 2, none⟩ (.slice da2 (dn + 1) dc2)) B n m v q N KA DA N' KA' DA' KC' DC' tb C ka kn kc da2 (dn + 1) dc2 LK (LD ++ [s]) ∧ Bx w2 tb 88 #[.bool false, .slice ka kn kc, .slice da dn dc, .int .i64 C] := by
  have hs := hb.size
  have hs2 := hg.size
  have hzw : w.heap.size ≤ wr.heap.size := h.fr.size
  have blk : ∀ x, x < wr.heap.size → (Value.slice da dn dc).ownBlock ≠ some x → w2.heap[x]? = wr.heap[x]? := fun x hx hne => (hg.block x (by omega) (fun e => hne e.symm)).trans (hb.block x hx)
  have blk2 : ∀ x, x < wr.heap.size → (Value.slice da dn dc).ownBlock ≠ some x → x ≠ tb → (w2.setCell ⟨tb, 2, none⟩ (.slice da2 (dn + 1) dc2)).heap[x]? = wr.heap[x]? := fun x hx hne ht => (Below.heap_setCell _ _ _ _ (show x ≠ tb from ht)).trans (blk x hx hne)
  have tblt := h.box.lt
  have bx2 : Bx w2 tb 88 #[.bool false, .slice ka kn kc, .slice da dn dc, .int .i64 C] := h.box.of_block (blk tb tblt (fun e => (h.far2 tb e).1.2 rfl))
  have n2 : ∀ g, (Value.slice ka kn kc).ownBlock = some g → (Value.slice da dn dc).ownBlock ≠ some g := fun g e => own_ne h.own1.1 h.own2.1 (by decide) g e
  have two : ∀ g, (Value.slice da2 (dn + 1) dc2).ownBlock = some g → (Value.slice da dn dc).ownBlock = some g ∨ wr.heap.size ≤ g := fun g e => by
    rcases hat with h1 | h1
    · rw [h1] at e; exact .inl e
    · rw [h1] at e; injection e with e; exact .inr (by omega)
  refine ⟨⟨h.gt.keep (fun x hx => blk2 x (h.gt.used hx).2 (fun e => (h.far2 x e).2 hx) (fun e => h.tbw.2 (e ▸ hx))), h.old, h.new, h.zero, ?_, h.tbw, ⟨own_keep h.own1.1 (fun g e => blk2 g (own_lt h.own1.1 g e).2 (n2 g e) (h.far1 g e).1.2), h.own1.2⟩, ⟨?_, by rw [List.length_append, ← h.own2.2]; rfl⟩, h.far1, fun g e => ?_, ?_, h.qat⟩, bx2⟩
  · exact bx2.set 2 _
  · rw [intL_app]
    refine own_keep ho (fun g e => Below.heap_setCell _ _ _ _ (show g ≠ tb from ?_))
    rcases two g e with h1 | h1
    · exact (h.far2 g h1).1.2
    · omega
  · rcases two g e with h1 | h1
    · exact h.far2 g h1
    · exact ⟨⟨by omega, by omega⟩, fun q => by have := (h.gt.used q).2; omega⟩
  · refine ⟨hg.os.trans (hb.os.trans h.fr.os), hg.tape.trans (hb.tape.trans h.fr.tape), hg.output.trans (hb.output.trans h.fr.output), by simp [World.setCell]; omega, fun k hk hne => ?_⟩
    exact (blk2 k (by omega) (fun e => by have := (h.far2 k e).1; omega) (by have := h.tbw.1; omega)).trans (h.fr.block k hk hne)

/-- A child told. -/
theorem TlSt.told (h : TlSt w wr B n m v q N KA DA N' KA' DA' KC' DC' tb C ka kn kc da dn dc LK LD) {c : Nat} {P : (Nat → Tn) → Prop} {e : Ending} (hr : RetTl wr B q m N' KA' DA' c P e w1) :
    ∃ q2 N2 KA2 DA2 KC2 DC2, e = .returned q2 ∧ TlSt w w1 B n (m + c) v q2 N KA DA N2 KA2 DA2 KC2 DC2 tb C ka kn kc da dn dc LK LD ∧ (∀ i, i < m → N2 i = N' i) ∧ P N2 := by
  obtain ⟨q2, N2, KA2, DA2, KC2, DC2, rfl, g2, f2, at2, old2, new2, hP⟩ := hr
  have hzw : w.heap.size ≤ wr.heap.size := h.fr.size
  have used2 : ∀ x, x < wr.heap.size → UsedT q2 (m + c) N2 KA2 DA2 x → UsedT q m N' KA' DA' x := by
    intro x hx hu
    rcases hu with hu | ⟨i, hi, h0, e⟩ | ⟨i, hi, h0, e⟩
    · rcases at2 with h1 | ⟨g, h1, h2⟩
      · exact .inl (by rw [← h1]; exact hu)
      · rw [h1] at hu; injection hu with hu; omega
    · by_cases hm : i < m
      · obtain ⟨q1, q3, _⟩ := old2 i hm
        exact .inr (.inl ⟨i, hm, by rw [← q1]; exact h0, by rw [← q3]; exact e⟩)
      · obtain ⟨g, q1, q3⟩ := (new2 i (by omega) hi).1 h0
        rw [e] at q1; injection q1 with q1; injection q1 with q1; omega
    · by_cases hm : i < m
      · obtain ⟨q1, _, q3⟩ := old2 i hm
        exact .inr (.inr ⟨i, hm, by rw [← q1]; exact h0, by rw [← q3]; exact e⟩)
      · obtain ⟨g, q1, q3⟩ := (new2 i (by omega) hi).2 h0
        rw [e] at q1; injection q1 with q1; injection q1 with q1; omega
  have qn : ∀ x, q.ownBlock = some x → UsedT q m N' KA' DA' x := fun x e => .inl e
  have k1 := own_lt h.own1.1
  have k2 := own_lt h.own2.1
  have hz := h.zero
  refine ⟨q2, N2, KA2, DA2, KC2, DC2, rfl, ⟨g2, fun i hi => ?_, fun i h1 h2 => ?_, ?_, h.box.grown f2 (fun e => h.tbw.2 (qn tb e)), ⟨h.tbw.1, fun u => h.tbw.2 (used2 tb h.box.lt u)⟩, ⟨own_keep h.own1.1 (fun g e => f2.block g (k1 g e).2 (fun e2 => (h.far1 g e).2 (qn g e2.symm))), h.own1.2⟩, ⟨own_keep h.own2.1 (fun g e => f2.block g (k2 g e).2 (fun e2 => (h.far2 g e).2 (qn g e2.symm))), h.own2.2⟩, fun g e => ⟨(h.far1 g e).1, fun u => (h.far1 g e).2 (used2 g (k1 g e).2 u)⟩, fun g e => ⟨(h.far2 g e).1, fun u => (h.far2 g e).2 (used2 g (k2 g e).2 u)⟩, ?_, ?_⟩, fun i hi => (old2 i hi).1, hP⟩
  · obtain ⟨a1, a2, a3⟩ := old2 i (by omega)
    obtain ⟨b1, b2, b3⟩ := h.old i hi
    exact ⟨a1.trans b1, a2.trans b2, a3.trans b3⟩
  · by_cases hm : i < m
    · obtain ⟨a1, a2, a3⟩ := old2 i hm
      rw [a1, a2, a3]
      exact h.new i h1 hm
    · obtain ⟨a1, a2⟩ := new2 i (by omega) h2
      exact ⟨fun q => by obtain ⟨g, e, hg⟩ := a1 q; exact ⟨g, e, by omega⟩, fun q => by obtain ⟨g, e, hg⟩ := a2 q; exact ⟨g, e, by omega⟩⟩
  · rw [(old2 n hz.2.2).1]
    exact ⟨hz.1, hz.2.1, by omega⟩
  · refine ⟨f2.os.trans h.fr.os, f2.tape.trans h.fr.tape, f2.output.trans h.fr.output, by have := f2.size; omega, fun k hk hne => ?_⟩
    refine (f2.block k (by omega) (fun e => ?_)).trans (h.fr.block k hk hne)
    rcases h.qat with h1 | ⟨g, h1, h2⟩
    · exact hne (by rw [← h1]; exact e)
    · rw [h1] at e; injection e with e; omega
  · rcases at2 with h1 | ⟨g, h1, h2⟩
    · rw [h1]; exact h.qat
    · exact .inr ⟨g, h1, by omega⟩
end
end Go.Proofs.Ytakemeccigpbaaa

namespace Go.Proofs.Ytakemeccigpbaaa
open Go.RowKit Go.Deep
set_option linter.unusedVariables false
set_option maxRecDepth 100000

theorem own_setIn {w : World} {B : Nat} {e : TypeId} {sz n c g j : Nat} {xs : List Value} (h : w.ownsRow B e sz (.slice (some ⟨g, 0, none⟩) n c) n xs) (hj : j < n * sz) (u : Value) : (w.setCell ⟨g, j, none⟩ u).ownsRow B e sz (.slice (some ⟨g, 0, none⟩) n c) n (xs.set j u) := by
  refine ⟨by rw [List.length_set]; exact h.1, ?_⟩
  rcases h.2 with ⟨q, _⟩ | ⟨g', cap, cur, q1, q2, q3, q4, q5, q6, q7⟩
  · cases q
  · injection q1 with q1 _ q8
    injection q1 with q1
    injection q1 with q1
    subst q1 q8
    refine .inr ⟨g, c, cur.setIfInBounds j u, rfl, q2, ?_, q4, q5, by simp [q6], ?_⟩
    · simp [World.setCell, Array.getElem?_modify, q3]
    · rw [Array.toList_setIfInBounds, List.take_set, q7]

def toldN (kn : Nat) (LK : List ByteArray) (dn : Nat) (LD : List Int) (C : Int) : Tn := ⟨false, kn, gt LK, dn, gi LD, C⟩

theorem set4_map (N' : Nat → Tn) (KA' DA' : Nat → Option Addr) (KC' DC' : Nat → Nat) (n m : Nat) (hn : n < m) (x : Tn) (ka da : Option Addr) (kc dc : Nat) :
    (((((List.range (m * 4)).map (tnCell N' KA' DA' KC' DC')).set (n * 4) (.bool x.lf)).set (n * 4 + 1) (.slice ka x.kn kc)).set (n * 4 + 2) (.slice da x.dn dc)).set (n * 4 + 3) (.int .i64 x.ct) = (List.range (m * 4)).map (tnCell (fun i => if i = n then x else N' i) (fun i => if i = n then ka else KA' i) (fun i => if i = n then da else DA' i) (fun i => if i = n then kc else KC' i) (fun i => if i = n then dc else DC' i)) := by
  apply List.ext_getElem?
  intro j
  by_cases hj : j < m * 4
  · simp only [List.getElem?_set, List.length_set, List.length_map, List.length_range, List.getElem?_map, List.getElem?_range hj, Option.map_some]
    by_cases e3 : n * 4 + 3 = j
    · subst e3
      rw [if_pos rfl, if_pos hj, tnCell_3]
      simp
    · rw [if_neg e3]
      by_cases e2 : n * 4 + 2 = j
      · subst e2
        rw [if_pos rfl, if_pos hj, tnCell_2]
        simp
      · rw [if_neg e2]
        by_cases e1 : n * 4 + 1 = j
        · subst e1
          rw [if_pos rfl, if_pos hj, tnCell_1]
          simp
        · rw [if_neg e1]
          by_cases e0 : n * 4 = j
          · subst e0
            rw [if_pos rfl, if_pos hj, tnCell_0]
            simp
          · rw [if_neg e0]
            unfold tnCell
            have : j / 4 ≠ n := by omega
            simp only [this, if_false]
  · rw [List.getElem?_eq_none (by simp; omega), List.getElem?_eq_none (by simp; omega)]

theorem tlst_fin {w wr : World} {B n m g rc : Nat} {v : Value} {N : Nat → Tn} {KA DA : Nat → Option Addr} {N' : Nat → Tn} {KA' DA' : Nat → Option Addr} {KC' DC' : Nat → Nat} {tb : Nat} {C : Int} {ka : Option Addr} {kn kc : Nat} {da : Option Addr} {dn dc : Nat} {LK : List ByteArray} {LD : List Int}
    (h : TlSt w wr B n m v (.slice (some ⟨g, 0, none⟩) m rc) N KA DA N' KA' DA' KC' DC' tb C ka kn kc da dn dc LK LD) {P : (Nat → Tn) → Prop} (hP : P (fun i => if i = n then toldN kn LK dn LD C else N' i)) {c : Nat} (hc : m = n + c) :
    RetTl w B v n N KA DA c P (.returned (.slice (some ⟨g, 0, none⟩) m rc)) ((((wr.setCell ⟨g, n * 4, none⟩ (.bool false)).setCell ⟨g, n * 4 + 1, none⟩ (.slice ka kn kc)).setCell ⟨g, n * 4 + 2, none⟩ (.slice da dn dc)).setCell ⟨g, n * 4 + 3, none⟩ (.int .i64 C)) := by
  have hz := h.zero.2.2
  have row := own_setIn (own_setIn (own_setIn (own_setIn h.gt.row (j := n * 4) (by omega) (.bool false)) (j := n * 4 + 1) (by omega) (.slice ka kn kc)) (j := n * 4 + 2) (by omega) (.slice da dn dc)) (j := n * 4 + 3) (by omega) (.int .i64 C)
  rw [show (Value.bool false) = .bool (toldN kn LK dn LD C).lf from rfl, show (Value.slice ka kn kc) = .slice ka (toldN kn LK dn LD C).kn kc from rfl, show (Value.slice da dn dc) = .slice da (toldN kn LK dn LD C).dn dc from rfl, show (Value.int .i64 C) = .int .i64 (toldN kn LK dn LD C).ct from rfl, set4_map N' KA' DA' KC' DC' n m hz] at row
  have blk : ∀ x, x ≠ g → ((((wr.setCell ⟨g, n * 4, none⟩ (.bool false)).setCell ⟨g, n * 4 + 1, none⟩ (.slice ka kn kc)).setCell ⟨g, n * 4 + 2, none⟩ (.slice da dn dc)).setCell ⟨g, n * 4 + 3, none⟩ (.int .i64 C)).heap[x]? = wr.heap[x]? := fun x hx => by
    rw [Below.heap_setCell _ _ _ _ (show x ≠ g from hx), Below.heap_setCell _ _ _ _ (show x ≠ g from hx), Below.heap_setCell _ _ _ _ (show x ≠ g from hx), Below.heap_setCell _ _ _ _ (show x ≠ g from hx)]
  have hsz : ((((wr.setCell ⟨g, n * 4, none⟩ (.bool false)).setCell ⟨g, n * 4 + 1, none⟩ (.slice ka kn kc)).setCell ⟨g, n * 4 + 2, none⟩ (.slice da dn dc)).setCell ⟨g, n * 4 + 3, none⟩ (.int .i64 C)).heap.size = wr.heap.size := by simp [World.setCell]
  have hos : ((((wr.setCell ⟨g, n * 4, none⟩ (.bool false)).setCell ⟨g, n * 4 + 1, none⟩ (.slice ka kn kc)).setCell ⟨g, n * 4 + 2, none⟩ (.slice da dn dc)).setCell ⟨g, n * 4 + 3, none⟩ (.int .i64 C)).os = wr.os ∧ ((((wr.setCell ⟨g, n * 4, none⟩ (.bool false)).setCell ⟨g, n * 4 + 1, none⟩ (.slice ka kn kc)).setCell ⟨g, n * 4 + 2, none⟩ (.slice da dn dc)).setCell ⟨g, n * 4 + 3, none⟩ (.int .i64 C)).tape = wr.tape ∧ ((((wr.setCell ⟨g, n * 4, none⟩ (.bool false)).setCell ⟨g, n * 4 + 1, none⟩ (.slice ka kn kc)).setCell ⟨g, n * 4 + 2, none⟩ (.slice da dn dc)).setCell ⟨g, n * 4 + 3, none⟩ (.int .i64 C)).output = wr.output := ⟨rfl, rfl, rfl⟩
  simp only [toldN] at row
  generalize (((wr.setCell ⟨g, n * 4, none⟩ (.bool false)).setCell ⟨g, n * 4 + 1, none⟩ (.slice ka kn kc)).setCell ⟨g, n * 4 + 2, none⟩ (.slice da dn dc)).setCell ⟨g, n * 4 + 3, none⟩ (.int .i64 C) = W at row blk hsz hos ⊢
  have hS : ∀ (a : Option Addr) (k : Nat) (X : Nat → ByteArray), OwnS wr B a k X → OwnS W B a k X := by
    intro a k X q
    rcases q with q | ⟨x, rfl, hxB, hr⟩
    · exact .inl q
    · exact .inr ⟨x, rfl, hxB, hr.of_block (blk x (fun e => row_not h.gt.row hr (by decide) (by rw [e]; rfl)))⟩
  have hI : ∀ (a : Option Addr) (k : Nat) (X : Nat → Int), OwnI wr B a k X → OwnI W B a k X := by
    intro a k X q
    rcases q with q | ⟨x, rfl, hxB, hr⟩
    · exact .inl q
    · exact .inr ⟨x, rfl, hxB, hr.of_block (blk x (fun e => row_not h.gt.row hr (by decide) (by rw [e]; rfl)))⟩
  have oS : OwnS wr B ka kn (gt LK) := own_ownS h.own1.1 h.own1.2
  have oI : OwnI wr B da dn (gi LD) := own_ownI h.own2.1 h.own2.2 _ (fun i _ => rfl)
  have nK : ∀ i, i < m → (N' i).kn ≠ 0 → kn ≠ 0 → KA' i ≠ ka := fun i hi h0 hk e => by
    obtain ⟨x, ex, _, _⟩ := oS.resolve_left hk
    exact (h.far1 x (by rw [ex]; rfl)).2 (.inr (.inl ⟨i, hi, h0, by rw [e, ex]⟩))
  have nD : ∀ i, i < m → (N' i).dn ≠ 0 → dn ≠ 0 → DA' i ≠ da := fun i hi h0 hk e => by
    obtain ⟨x, ex, _, _⟩ := oI.resolve_left hk
    exact (h.far2 x (by rw [ex]; rfl)).2 (.inr (.inr ⟨i, hi, h0, by rw [e, ex]⟩))
  subst hc
  refine ⟨_, _, _, _, _, _, rfl, ⟨row, fun i hi => ?_, fun i hi => ?_, fun i j hi hj hij h1 h2 => ?_, fun i j hi hj hij h1 h2 => ?_⟩, ?_, h.qat, fun i hi => ?_, fun i h1 h2 => ?_, hP⟩
  · by_cases e : i = n
    · subst e; simp only [if_true]; exact hS _ _ _ oS
    · simp only [e, if_false]; exact hS _ _ _ (h.gt.keys i hi)
  · by_cases e : i = n
    · subst e; simp only [if_true]; exact hI _ _ _ oI
    · simp only [e, if_false]; exact hI _ _ _ (h.gt.kids i hi)
  · by_cases e1 : i = n
    · have e2 : j ≠ n := by omega
      simp only [e1, if_true, e2, if_false] at h1 h2 ⊢
      exact fun q => nK j hj h2 h1 q.symm
    · by_cases e2 : j = n
      · simp only [e2, if_true, e1, if_false] at h1 h2 ⊢
        exact nK i hi h1 h2
      · simp only [e1, e2, if_false] at h1 h2 ⊢
        exact h.gt.apartK i j hi hj hij h1 h2
  · by_cases e1 : i = n
    · have e2 : j ≠ n := by omega
      simp only [e1, if_true, e2, if_false] at h1 h2 ⊢
      exact fun q => nD j hj h2 h1 q.symm
    · by_cases e2 : j = n
      · simp only [e2, if_true, e1, if_false] at h1 h2 ⊢
        exact nD i hi h1 h2
      · simp only [e1, e2, if_false] at h1 h2 ⊢
        exact h.gt.apartD i j hi hj hij h1 h2
  · refine ⟨hos.1.trans h.fr.os, hos.2.1.trans h.fr.tape, hos.2.2.trans h.fr.output, by rw [hsz]; exact h.fr.size, fun k hk hne => (blk k (fun e => ?_)).trans (h.fr.block k hk hne)⟩
    rcases h.qat with h1 | ⟨g', h1, h2⟩
    · exact hne (by rw [← h1, e]; rfl)
    · injection h1 with h1; have h1' : g = g' := h1; omega
  · have e : i ≠ n := by omega
    simp only [e, if_false]
    exact h.old i hi
  · by_cases e : i = n
    · subst e
      simp only [if_true]
      refine ⟨fun h0 => ?_, fun h0 => ?_⟩
      · obtain ⟨x, ex, _, _⟩ := oS.resolve_left h0
        exact ⟨x, ex, (h.far1 x (by rw [ex]; rfl)).1.1⟩
      · obtain ⟨x, ex, _, _⟩ := oI.resolve_left h0
        exact ⟨x, ex, (h.far2 x (by rw [ex]; rfl)).1.1⟩
    · simp only [e, if_false]
      exact h.new i h1 h2
end Go.Proofs.Ytakemeccigpbaaa

namespace Go.Proofs.Ytakemeccigpbaaa
open Go.RowKit Go.Deep
set_option linter.unusedVariables false
set_option maxRecDepth 100000

/-- A call of a node's tell. -/
def CallT (v nodes : Value) (w : World) (Q : Ending → World → Prop) : Prop :=
  (∃ b, v = .iface 53 (.pointer (some ⟨b, 0, none⟩)) ∧ Calls Try.prog 110 #[.pointer (some ⟨b, 0, none⟩), nodes] w Q) ∨
  (∃ b, v = .iface 91 (.pointer (some ⟨b, 0, none⟩)) ∧ Calls Try.prog 127 #[.pointer (some ⟨b, 0, none⟩), nodes] w Q)
def CallL (v : Value) (w : World) (Q : Ending → World → Prop) : Prop :=
  (∃ b, v = .iface 53 (.pointer (some ⟨b, 0, none⟩)) ∧ Calls Try.prog 107 #[.pointer (some ⟨b, 0, none⟩)] w Q) ∨
  (∃ b, v = .iface 91 (.pointer (some ⟨b, 0, none⟩)) ∧ Calls Try.prog 124 #[.pointer (some ⟨b, 0, none⟩)] w Q)

theorem least_o {d : Nat} {t : Ro d} {v : Value} {S : Nat → Prop} {w : World} {h : Nat} (ht : TAo S w d t v) (hb : BalR d false t h) : CallL v w fun e w' => e = .returned (.string (gt (keysR d t) 0)) ∧ w' = w := by
  match d, t, ht, hb with
  | d + 1, .inl L, ht, hb =>
    have hp := bal_keys hb
    obtain ⟨b, ka, kc, rfl, _, hx, _, hr⟩ := ht
    exact .inl ⟨b, rfl, leastLeaf_any b L.length kc ka _ (gt L) w hx hr.rdS hp⟩
  | d + 1, .inr l, ht, hb =>
    have ht2 := ht
    obtain ⟨b, g, o, kc, xs, rfl, _⟩ := ht2
    obtain ⟨_, _, h', _, hall⟩ := hb
    exact .inr ⟨b, rfl, leastO_any d l S b h' w ht hall⟩

theorem if_inj {t : TypeId} {a b : Nat} (e : Value.iface t (.pointer (some ⟨a, 0, none⟩)) = .iface t (.pointer (some ⟨b, 0, none⟩))) : a = b := by
  injection e with _ e
  injection e with e
  injection e with e
  injection e with e
theorem if_ne {t s : TypeId} {a b : Value} (e : Value.iface t a = .iface s b) : t = s := by
  injection e with e _
theorem callT_leaf {kb : Nat} {x : Value}{w : World} {Q : Ending → World → Prop} (h : CallT (.iface 53 (.pointer (some ⟨kb, 0, none⟩))) x w Q) : Calls Try.prog 110 #[.pointer (some ⟨kb, 0, none⟩), x] w Q := by
  rcases h with ⟨b1, e, hcall⟩ | ⟨b1, e, hcall⟩
  · exact (by rw [if_inj e]; exact hcall)
  · exact absurd (if_ne e) (by decide)
theorem callT_inner {kb : Nat} {x : Value}{w : World} {Q : Ending → World → Prop} (h : CallT (.iface 91 (.pointer (some ⟨kb, 0, none⟩))) x w Q) : Calls Try.prog 127 #[.pointer (some ⟨kb, 0, none⟩), x] w Q := by
  rcases h with ⟨b1, e, hcall⟩ | ⟨b1, e, hcall⟩
  · exact absurd (if_ne e) (by decide)
  · exact (by rw [if_inj e]; exact hcall)
theorem callL_leaf {kb : Nat} {w : World} {Q : Ending → World → Prop} (h : CallL (.iface 53 (.pointer (some ⟨kb, 0, none⟩))) w Q) : Calls Try.prog 107 #[.pointer (some ⟨kb, 0, none⟩)] w Q := by
  rcases h with ⟨b1, e, hcall⟩ | ⟨b1, e, hcall⟩
  · exact (by rw [if_inj e]; exact hcall)
  · exact absurd (if_ne e) (by decide)
theorem callL_inner {kb : Nat} {w : World} {Q : Ending → World → Prop} (h : CallL (.iface 91 (.pointer (some ⟨kb, 0, none⟩))) w Q) : Calls Try.prog 124 #[.pointer (some ⟨kb, 0, none⟩)] w Q := by
  rcases h with ⟨b1, e, hcall⟩ | ⟨b1, e, hcall⟩
  · exact absurd (if_ne e) (by decide)
  · exact (by rw [if_inj e]; exact hcall)

theorem step_inv {ops : Array Oper} {o : Oper} {a : Act} {w : World} {K : Act → World → Prop} {Q : Exit → Act → World → Prop} {E : Prop} (hgd : o.guard = none) (k : Nat) (i : Nat) (nm : String) (ty : TypeId) (p : Value)
    (ho : o.op = .call { callee := .invoke (.tmp i) nm, args := #[], argTypes := #[] }) (hx : a.tmps[i]?.getD undef = .iface ty p) (hm : ∀ w, (method 259 ty p nm).run Try.prog w = .ok (k, p) w) (heg : ∀ args w, (callFunc k args).run Try.prog w = .ok (.enter k args) w)
    (h : Calls Try.prog k #[p] w fun e w' => ∃ r, e = .returned r ∧ K (a.put o.dst r) w') :
    if Region.wanted o (yielded ops a.tmps) = true then Oper.wp Try.prog o a w K Q else E := by
  have hw : Region.wanted o (yielded ops a.tmps) = true := by simp [Region.wanted, hgd]
  rw [if_pos hw]
  unfold Oper.wp
  simp [execOp, ho, resolve, invoke, hx, go_sem, hm, heg]
  refine h.mono ?_
  rintro e w' ⟨u, rfl, hk⟩
  exact hk

def LKs {d : Nat} (l : List (Ro d)) (k : Nat) : List ByteArray := (List.range (k - 1)).map (fun j => fst1 l (j + 1))
def LDs (d : Nat) (l : List (Ro d)) (n k : Nat) : List Int := (List.range k).map (fun j => ((n + 1 + offR d l j : Nat) : Int))
theorem LKs_succ {d : Nat} (l : List (Ro d)) (k : Nat) (h : 0 < k) : LKs l (k + 1) = LKs l k ++ [fst1 l k] := by
  unfold LKs
  obtain ⟨j, rfl⟩ : ∃ j, k = j + 1 := ⟨k - 1, by omega⟩
  simp [List.range_succ]
theorem LDs_succ (d : Nat) (l : List (Ro d)) (n k : Nat) : LDs d l n (k + 1) = LDs d l n k ++ [((n + 1 + offR d l k : Nat) : Int)] := by
  unfold LDs
  simp [List.range_succ]

/-- What the row tells when the node itself stands in it. -/
theorem tells_in {d n : Nat} {l : List (Ro d)} {N' : Nat → Tn} (hl : 0 < l.length) (h : ∀ j (h : j < l.length), Tells N' 0 d l[j] (n + 1 + offR d l j)) (kn dn : Nat) (hk : kn = (LKs l l.length).length) (hd : dn = l.length) : Tells (fun i => if i = n then toldN kn (LKs l l.length) dn (LDs d l n l.length) ((l.flatMap (keysR d)).length : Int) else N' i) 0 (d + 1) (.inr l) n := by
  have hkl : (LKs l l.length).length = l.length - 1 := by simp [LKs]
  refine ⟨by simp [toldN], by simp [toldN, hd], by simp [toldN], by simp [toldN]; omega, fun k hk => ?_, fun k hk => ?_, fun k hk => ?_⟩
  · simp [toldN]
    unfold LDs gi
    rw [List.getD_eq_getElem?_getD, List.getElem?_map, List.getElem?_range hk]
    simp
  · simp [toldN]
    unfold LKs gt
    rw [List.getD_eq_getElem?_getD, List.getElem?_map, List.getElem?_range (by omega)]
    simp only [Option.map_some, Option.getD_some]
    rw [fst1_at (by omega)]
    rfl
  · refine Tells.congr (fun i h1 h2 => ?_) (h k hk)
    have : i ≠ n := by omega
    simp only [this, if_false]
    exact ⟨rfl, rfl, rfl, rfl, fun _ _ => rfl, fun _ _ => rfl⟩

set_option maxHeartbeats 16000000 in
theorem tellInner_any (d b : Nat) (l : List (Ro d)) (S : Nat → Prop) (w : World) (h0 : TAo S w (d + 1) (.inr l) (.iface 91 (.pointer (some ⟨b, 0, none⟩)))) (h : Nat) (hbal : ∀ t, t ∈ l → BalR d false t h) (B n rc : Nat) (ra : Option Addr) (N : Nat → Tn) (KA DA : Nat → Option Addr) (KC DC : Nat → Nat) (hg : GT w B (.slice ra n rc) n N KA DA KC DC) (hB : B ≤ w.heap.size) (hSB : ∀ x, S x → x < B) (hl5 : l.length ≤ 1000) (hn : n + nodesR (d + 1) (.inr l) ≤ 100000)
    (ih : ∀ k (hk : k < l.length) (u : Value) (wr : World) (m rc' : Nat) (ra' : Option Addr) (N' : Nat → Tn) (KA' DA' : Nat → Option Addr) (KC' DC' : Nat → Nat), TAo S wr d l[k] u → GT wr B (.slice ra' m rc') m N' KA' DA' KC' DC' → B ≤ wr.heap.size → m + nodesR d l[k] ≤ 100000 → CallT u (.slice ra' m rc') wr (RetTl wr B (.slice ra' m rc') m N' KA' DA' (nodesR d l[k]) (fun N2 => Tells N2 0 d l[k] m))) :
    Calls Try.prog 127 #[.pointer (some ⟨b, 0, none⟩), .slice ra n rc] w (RetTl w B (.slice ra n rc) n N KA DA (nodesR (d + 1) (.inr l)) (fun N' => Tells N' 0 (d + 1) (.inr l) n)) := by
  obtain ⟨b', g, o, kc, xs, e, hsb, hx, ⟨hsg, hgb⟩, ⟨hgl, hcap⟩, hl0, hcc, hkk⟩ := h0
  injection e with _ e
  injection e with e
  injection e with e
  injection e with e
  subst e
  obtain ⟨ln, hln⟩ : ∃ ln, ln = l.length := ⟨_, rfl⟩
  obtain ⟨C, hC⟩ : ∃ C : Int, C = ((l.flatMap (keysR d)).length : Int) := ⟨_, rfl⟩
  have HLn : Hid (ln = l.length ∧ C = ((l.flatMap (keysR d)).length : Int)) := ⟨hln, hC⟩
  rw [← hln, ← hC] at hx
  rw [← hln] at hcap hl0 hl5
  have HX : Hid (Bx w b 96 #[.int .i64 C, .slice (some ⟨g, o, none⟩) ln kc]) := hx
  have HK : Hid (∀ W, Below B w W → ∀ k (h : k < l.length), ∃ u, W.cell? ⟨g, o + k, none⟩ = some u ∧ TAo S W d l[k] u) := by
    intro W hW k hk
    obtain ⟨u, q1, q2⟩ := hkk k hk
    exact ⟨u, (hW.cell (p := ⟨g, o + k, none⟩) (hSB g hsg)).trans (hcc k u q1), TAo.keep hW.size (fun x hx _ => ⟨hx, hW.block x (hSB x hx)⟩) q2⟩
  have HG : Hid (GT w B (.slice ra n rc) n N KA DA KC DC) := hg
  have HBal : Hid ((∀ t, t ∈ l → BalR d false t h) ∧ n + nodesR (d + 1) (.inr l) ≤ 100000) := ⟨hbal, hn⟩
  have HIH : Hid (∀ k (hk : k < l.length) (u : Value) (wr : World) (m rc' : Nat) (ra' : Option Addr) (N' : Nat → Tn) (KA' DA' : Nat → Option Addr) (KC' DC' : Nat → Nat), TAo S wr d l[k] u → GT wr B (.slice ra' m rc') m N' KA' DA' KC' DC' → B ≤ wr.heap.size → m + nodesR d l[k] ≤ 100000 → CallT u (.slice ra' m rc') wr (RetTl wr B (.slice ra' m rc') m N' KA' DA' (nodesR d l[k]) (fun N2 => Tells N2 0 d l[k] m))) := ih
  have HBb : Hid (∀ W : World, w.grownBy W (Value.slice ra n rc).ownBlock → Below B w W) := fun W hW => (Below.refl B w).grown hW hB (fun g e => (own_lt hg.row g e).1)
  have hbB : b < B := hSB b hsb
  have hgB : g < B := hSB g hsg
  have hn1 : n ≤ 100000 := by omega
  obtain ⟨i1, hi1, hz0, hz1, hz2⟩ := info_parts Try.info88
  have HI1 : Hid (Try.prog.info? 88 = some i1 ∧ i1.zero = some (.agg #[.bool false, .slice none 0 0, .slice none 0 0, .int .i64 0]) ∧ i1.size = 4 ∧ i1.bytes = 64) := ⟨hi1, hz0, hz1, hz2⟩
  obtain ⟨i2, hi2, hy0, hy1, hy2⟩ := info_parts Try.info2
  have HI2 : Hid (Try.prog.info? 2 = some i2 ∧ i2.zero = some (.int .i64 0) ∧ i2.size = 1 ∧ i2.bytes = 8) := ⟨hi2, hy0, hy1, hy2⟩
  have HO : Hid ((w.alloc (.cells #[.bool false, .slice none 0 0, .slice none 0 0, .int .i64 0] 88)).ownsRow B 88 4 (.slice ra n rc) n ((List.range (n * 4)).map (tnCell N KA DA KC DC))) := own_below hg.row (below_alloc _ _)
  have HCe : Hid (∀ j u, [Value.bool false, .slice none 0 0, .slice none 0 0, .int .i64 0][j]? = some u → (w.alloc (.cells #[.bool false, .slice none 0 0, .slice none 0 0, .int .i64 0] 88)).cell? ⟨w.heap.size, j, none⟩ = some u) := fun j u hj => by rw [(Bx.new w #[.bool false, .slice none 0 0, .slice none 0 0, .int .i64 0] 88).cell j]; simpa using hj
  clear hx hcc hkk hg hbal hn ih hln hC hi1 hz0 hz1 hz2 hi2 hy0 hy1 hy2
  go_enter Try.func127, Try.ntmps127
  go_wp2_with (at_builtin; refine wpList_append_own_at _ rfl _ _ 23 rfl B 88 i1 _ 4 64 Try.underlying23 HI1.out.1 HI1.out.2.1 HI1.out.2.2.1 HI1.out.2.2.2 rfl (by decide) (.slice ra n rc) n _ rfl HO.out ⟨w.heap.size, 0, none⟩ 1 1 [.bool false, .slice none 0 0, .slice none 0 0, .int .i64 0] rfl rfl (fun j u hj => by rw [Addr.add_lit, Nat.zero_add]; exact HCe.out j u hj) (by intro u hu; simp at hu; rcases hu with rfl | rfl | rfl <;> rfl) (by unfold maxLen; omega) (by omega) (by simp; omega) ?_)
  intro v1 w1 ho1 hg1 _ hat1
  obtain ⟨a1, c1, e1, _⟩ := own_form ho1
  subst e1
  have HM1 : Hid (RetTl w B (.slice ra n rc) n N KA DA 1 (fun N' => (N' n).kn = 0 ∧ (N' n).dn = 0) (.returned (.slice a1 (n + 1) c1)) w1) := GT.more HG.out hB (Below.refl _ _) ⟨false, 0, fun _ => { data := #[] }, 0, fun _ => 0, 0⟩ none none 0 0 (.inl rfl) (.inl rfl) ho1 hg1 (by simpa using hat1) (by simp)
  clear ho1 hg1 hat1 HO HCe
  obtain ⟨v1', N1, KA1, DA1, KC1, DC1, e1, q1, q2, q3, q4, q5, q6⟩ := HM1.out
  injection e1 with e1
  subst e1
  have HB1 : Hid (Below B w w1) := HBb.out w1 q2
  have x0 : w1.cell? ⟨b, 0, none⟩ = some (.int .i64 C) := (HB1.out.cell (p := ⟨b, 0, none⟩) hbB).trans (by simpa using HX.out.cell 0)
  have x1 : w1.cell? ⟨b, 1, none⟩ = some (.slice (some ⟨g, o, none⟩) ln kc) := (HB1.out.cell (p := ⟨b, 1, none⟩) hbB).trans (by simpa using HX.out.cell 1)
  have xz : b < w1.heap.size := World.block_lt_of_cell? _ _ x0
  have S1 : Hid (TlSt w (w1.alloc (.cells #[.bool false, .slice none 0 0, .slice none 0 0, .int .i64 C] 88)) B n (n + 1) (.slice ra n rc) (.slice a1 (n + 1) c1) N KA DA N1 KA1 DA1 KC1 DC1 w1.heap.size C none 0 0 none 0 0 [] []) := by
    have g2 := q2.size
    refine ⟨q1.below (below_alloc _ _), q4, q5, ⟨q6.1, q6.2, by omega⟩, Bx.new _ _ _, ⟨g2, fun u => by have := (q1.used u).2; omega⟩, ⟨⟨rfl, .inl ⟨rfl, rfl⟩⟩, rfl⟩, ⟨⟨rfl, .inl ⟨rfl, rfl⟩⟩, rfl⟩, fun g e => (by cases e), fun g e => (by cases e), ?_, q3⟩
    exact ⟨q2.os, q2.tape, q2.output, by simp; omega, fun k hk hne => ((below_alloc w1 _).block k (by omega)).trans (q2.block k hk hne)⟩
  have HBl : Hid (Calls Try.prog 83 #[.pointer (some ⟨b, 0, none⟩)] w1 fun e w' => e = .returned (.int .i64 C) ∧ w' = w1) := below_any b C w1 x0
  clear q1 q2 q3 q4 q5 q6 HM1
  go_wp2_with fail
  (with_reducible refine HBl.out.mono ?_)
  rintro e w2 ⟨rfl, hw2⟩
  subst hw2
  obtain ⟨tb, htb⟩ : ∃ tb, tb = w2.heap.size := ⟨_, rfl⟩
  have HTB : Hid (tb = w2.heap.size) := htb
  go_wp2
  rw [← htb] at S1 ⊢
  generalize (w2.alloc (.cells #[.bool false, .slice none 0 0, .slice none 0 0, .int .i64 C] 88)) = W3 at S1 ⊢
  clear htb
  go_loopw [1, 25] (fun q i wr => ∃ (k m kn kc' dc rc' : Nat) (ra' ka da : Option Addr) (N' : Nat → Tn) (KA' DA' : Nat → Option Addr) (KC' DC' : Nat → Nat), k ≤ ln ∧ i = .int .i64 k ∧ q = .slice ra' m rc' ∧ m = n + 1 + offR d l k ∧ TlSt w wr B n m (.slice ra n rc) (.slice ra' m rc') N KA DA N' KA' DA' KC' DC' tb C ka kn kc' da k dc (LKs l k) (LDs d l n k) ∧ ∀ j (h : j < l.length), j < k → Tells N' 0 d l[j] (n + 1 + offR d l j)) (fun _ i _ => ln - (intOf i).toNat)
  case atStart => exact ⟨0, n + 1, 0, 0, 0, c1, a1, none, none, N1, KA1, DA1, KC1, DC1, Nat.zero_le _, rfl, rfl, by rw [offR_zero], S1.out, fun j _ hj => absurd hj (Nat.not_lt_zero _)⟩
  case round =>
    obtain ⟨k, m, kn, kc', dc, rc', ra', ka, da, N', KA', DA', KC', DC', hk, rfl, rfl, hm, hst, htl⟩ := hrel
    clear S1 HBl x0 x1 xz
    have H0 : Hid (m = n + 1 + offR d l k ∧ TlSt w wr B n m (.slice ra n rc) (.slice ra' m rc') N KA DA N' KA' DA' KC' DC' tb C ka kn kc' da k dc (LKs l k) (LDs d l n k) ∧ ∀ j (h : j < l.length), j < k → Tells N' 0 d l[j] (n + 1 + offR d l j)) := ⟨hm, hst, htl⟩
    have HBw : Hid (Below B w wr ∧ B ≤ wr.heap.size) := ⟨HBb.out wr hst.fr, Nat.le_trans hB hst.fr.size⟩
    have t0 := hst.box.cell 0
    have t1 := hst.box.cell 1
    have t2 := hst.box.cell 2
    have t3 := hst.box.cell 3
    simp at t0 t1 t2 t3
    have tz := hst.box.lt
    have tf := fun i => hst.box.frozen i
    have hmb : m ≤ 100000 := by
      have q : nodesR (d + 1) (.inr l) = 1 + (l.map (nodesR d)).sum := rfl
      have := HBal.out.2
      have := offR_mono d l (show k ≤ l.length by rw [← HLn.out.1]; exact hk) (Nat.le_refl _)
      rw [offR_all] at this
      omega
    clear hm hst htl
    by_cases hlt : k < ln
    · have hkl : k < l.length := by rw [← HLn.out.1]; exact hlt
      obtain ⟨u, cu, htu⟩ := HK.out wr HBw.out.1 k hkl
      have HTu : Hid (TAo S wr d l[k] u) := htu
      have j0 : (0 : Int) ≤ (k : Int) := by omega
      have j1 : (k : Int) < (ln : Int) := by omega
      obtain ⟨bb, _, _, _, hfm⟩ := htu.count
      have hform : (∃ kb, u = .iface 53 (.pointer (some ⟨kb, 0, none⟩))) ∨ (∃ kb, u = .iface 91 (.pointer (some ⟨kb, 0, none⟩))) := by
        rcases hfm with h | h
        · exact .inl ⟨_, h⟩
        · exact .inr ⟨_, h⟩
      clear htu hfm
      by_cases hk0 : k = 0
      · rcases hform with ⟨kb, rfl⟩ | ⟨kb, rfl⟩
        · have HK0 : Hid (k = 0) := hk0
          have kz : ¬ (0 : Int) < (k : Int) := by omega
          have kzd : decide ((0 : Int) < (k : Int)) = false := decide_eq_false kz
          clear hk0
          have HO9 : Hid ((wr.alloc (.cells #[.int .i64 (m : Int)] 2)).ownsRow B 2 1 (.slice da k dc) k (intL (LDs d l n k))) := own_below H0.out.2.1.own2.1 (below_alloc _ _)
          have hBz : B ≤ wr.heap.size := Nat.le_trans hB H0.out.2.1.fr.size
          go_wp2_with (at_builtin; refine wpList_append_own_at _ rfl _ _ 86 rfl B 2 i2 _ 1 8 Try.underlying86 HI2.out.1 HI2.out.2.1 HI2.out.2.2.1 HI2.out.2.2.2 rfl (by decide) (.slice da k dc) k _ rfl HO9.out ⟨wr.heap.size, 0, none⟩ 1 1 [.int .i64 (m : Int)] rfl rfl (cell_one_new _ _ _) (by intro u hu; simp at hu; subst hu; rfl) (by unfold maxLen; omega) (by omega) (by simp; omega) ?_)
          intro v9 w9 ho9 hg9 _ hat9
          obtain ⟨a9, c9, e9, _⟩ := own_form ho9
          subst e9
          have H9 : Hid (TlSt w (w9.setCell ⟨tb, 2, none⟩ (.slice a9 (k + 1) c9)) B n m (.slice ra n rc) (.slice ra' m rc') N KA DA N' KA' DA' KC' DC' tb C ka kn kc' a9 (k + 1) c9 (LKs l k) (LDs d l n (k + 1)) ∧ Bx w9 tb 88 #[.bool false, .slice ka kn kc', .slice da k dc, .int .i64 C]) := by
            have q := TlSt.kid H0.out.2.1 (below_alloc _ _) ho9 hg9 (by simpa using hat9)
            rw [LDs_succ, ← H0.out.1]
            exact q
          have s2 := H9.out.2.cell 2
          simp at s2
          have sz := H9.out.2.lt
          have sf := fun i => H9.out.2.frozen i
          have HC : Hid (Calls Try.prog 110 #[.pointer (some ⟨kb, 0, none⟩), .slice ra' m rc'] (w9.setCell ⟨tb, 2, none⟩ (.slice a9 (k + 1) c9)) (RetTl (w9.setCell ⟨tb, 2, none⟩ (.slice a9 (k + 1) c9)) B (.slice ra' m rc') m N' KA' DA' (nodesR d l[k]) (fun N2 => Tells N2 0 d l[k] m))) := by
            have hb9 := HBb.out _ H9.out.1.fr
            obtain ⟨u', cu', htu'⟩ := HK.out _ hb9 k hkl
            have eu : u' = .iface 53 (.pointer (some ⟨kb, 0, none⟩)) := by
              have q : (w9.setCell ⟨tb, 2, none⟩ (.slice a9 (k + 1) c9)).cell? ⟨g, o + k, none⟩ = wr.cell? ⟨g, o + k, none⟩ := (hb9.cell (p := ⟨g, o + k, none⟩) hgB).trans (HBw.out.1.cell (p := ⟨g, o + k, none⟩) hgB).symm
              rw [q, cu] at cu'
              injection cu' with cu'
              exact cu'.symm
            rw [eu] at htu'
            have hct := HIH.out k hkl _ _ m rc' ra' N' KA' DA' KC' DC' htu' H9.out.1.gt (Nat.le_trans hB H9.out.1.fr.size) (by
              have q : nodesR (d + 1) (.inr l) = 1 + (l.map (nodesR d)).sum := rfl
              have := HBal.out.2
              have := offR_le d l k hkl
              have := H0.out.1
              omega)
            exact callT_leaf hct
          clear ho9 hg9 hat9 HO9 t0 t1 t2 t3 tf cu
          go_wp2_with fail
          (with_reducible refine HC.out.mono ?_)
          intro e w11 hr
          obtain ⟨q2, N2, KA2, DA2, KC2, DC2, e2, st2, old2, tl2⟩ := TlSt.told H9.out.1 hr
          obtain ⟨a11, c11, e11, _⟩ := own_form st2.gt.row
          subst e11
          subst e2
          have HE : Hid (m + nodesR d l[k] = n + 1 + offR d l (k + 1) ∧ TlSt w w11 B n (m + nodesR d l[k]) (.slice ra n rc) (.slice a11 (m + nodesR d l[k]) c11) N KA DA N2 KA2 DA2 KC2 DC2 tb C ka kn kc' a9 (k + 1) c9 (LKs l k) (LDs d l n (k + 1)) ∧ ∀ j (h : j < l.length), j < k + 1 → Tells N2 0 d l[j] (n + 1 + offR d l j)) := by
            have hm := H0.out.1
            refine ⟨by rw [offR_succ d l k hkl]; omega, st2, fun j hj hjk => ?_⟩
            by_cases e : j = k
            · subst e
              rw [← hm]
              exact tl2
            · refine Tells.congr (fun i h1 h2 => ?_) (H0.out.2.2 j hj (by omega))
              have q1 := offR_succ d l j hj
              have q2 := offR_mono d l (show j + 1 ≤ k by omega) (by omega)
              rw [old2 i (by omega)]
              exact ⟨rfl, rfl, rfl, rfl, fun _ _ => rfl, fun _ _ => rfl⟩
          obtain ⟨m2, hm2⟩ : ∃ m2, m2 = m + nodesR d l[k] := ⟨_, rfl⟩
          rw [← hm2] at HE ⊢
          clear st2 old2 tl2 hr HC s2 sz sf hm2 H9
          go_wp2
          go_roundw
          case rel => exact ⟨k + 1, m2, _, _, c9, c11, a11, _, a9, N2, KA2, DA2, KC2, DC2, by omega, by go_num, rfl, HE.out.1, (by rw [show LKs l (k + 1) = LKs l k by rw [HK0.out]; rfl]; exact HE.out.2.1), HE.out.2.2⟩
          case measure => simp [intOf]; omega
        · have HK0 : Hid (k = 0) := hk0
          have kz : ¬ (0 : Int) < (k : Int) := by omega
          have kzd : decide ((0 : Int) < (k : Int)) = false := decide_eq_false kz
          clear hk0
          have HO9 : Hid ((wr.alloc (.cells #[.int .i64 (m : Int)] 2)).ownsRow B 2 1 (.slice da k dc) k (intL (LDs d l n k))) := own_below H0.out.2.1.own2.1 (below_alloc _ _)
          have hBz : B ≤ wr.heap.size := Nat.le_trans hB H0.out.2.1.fr.size
          go_wp2_with (at_builtin; refine wpList_append_own_at _ rfl _ _ 86 rfl B 2 i2 _ 1 8 Try.underlying86 HI2.out.1 HI2.out.2.1 HI2.out.2.2.1 HI2.out.2.2.2 rfl (by decide) (.slice da k dc) k _ rfl HO9.out ⟨wr.heap.size, 0, none⟩ 1 1 [.int .i64 (m : Int)] rfl rfl (cell_one_new _ _ _) (by intro u hu; simp at hu; subst hu; rfl) (by unfold maxLen; omega) (by omega) (by simp; omega) ?_)
          intro v9 w9 ho9 hg9 _ hat9
          obtain ⟨a9, c9, e9, _⟩ := own_form ho9
          subst e9
          have H9 : Hid (TlSt w (w9.setCell ⟨tb, 2, none⟩ (.slice a9 (k + 1) c9)) B n m (.slice ra n rc) (.slice ra' m rc') N KA DA N' KA' DA' KC' DC' tb C ka kn kc' a9 (k + 1) c9 (LKs l k) (LDs d l n (k + 1)) ∧ Bx w9 tb 88 #[.bool false, .slice ka kn kc', .slice da k dc, .int .i64 C]) := by
            have q := TlSt.kid H0.out.2.1 (below_alloc _ _) ho9 hg9 (by simpa using hat9)
            rw [LDs_succ, ← H0.out.1]
            exact q
          have s2 := H9.out.2.cell 2
          simp at s2
          have sz := H9.out.2.lt
          have sf := fun i => H9.out.2.frozen i
          have HC : Hid (Calls Try.prog 127 #[.pointer (some ⟨kb, 0, none⟩), .slice ra' m rc'] (w9.setCell ⟨tb, 2, none⟩ (.slice a9 (k + 1) c9)) (RetTl (w9.setCell ⟨tb, 2, none⟩ (.slice a9 (k + 1) c9)) B (.slice ra' m rc') m N' KA' DA' (nodesR d l[k]) (fun N2 => Tells N2 0 d l[k] m))) := by
            have hb9 := HBb.out _ H9.out.1.fr
            obtain ⟨u', cu', htu'⟩ := HK.out _ hb9 k hkl
            have eu : u' = .iface 91 (.pointer (some ⟨kb, 0, none⟩)) := by
              have q : (w9.setCell ⟨tb, 2, none⟩ (.slice a9 (k + 1) c9)).cell? ⟨g, o + k, none⟩ = wr.cell? ⟨g, o + k, none⟩ := (hb9.cell (p := ⟨g, o + k, none⟩) hgB).trans (HBw.out.1.cell (p := ⟨g, o + k, none⟩) hgB).symm
              rw [q, cu] at cu'
              injection cu' with cu'
              exact cu'.symm
            rw [eu] at htu'
            have hct := HIH.out k hkl _ _ m rc' ra' N' KA' DA' KC' DC' htu' H9.out.1.gt (Nat.le_trans hB H9.out.1.fr.size) (by
              have q : nodesR (d + 1) (.inr l) = 1 + (l.map (nodesR d)).sum := rfl
              have := HBal.out.2
              have := offR_le d l k hkl
              have := H0.out.1
              omega)
            exact callT_inner hct
          clear ho9 hg9 hat9 HO9 t0 t1 t2 t3 tf cu
          go_wp2_with fail
          (with_reducible refine HC.out.mono ?_)
          intro e w11 hr
          obtain ⟨q2, N2, KA2, DA2, KC2, DC2, e2, st2, old2, tl2⟩ := TlSt.told H9.out.1 hr
          obtain ⟨a11, c11, e11, _⟩ := own_form st2.gt.row
          subst e11
          subst e2
          have HE : Hid (m + nodesR d l[k] = n + 1 + offR d l (k + 1) ∧ TlSt w w11 B n (m + nodesR d l[k]) (.slice ra n rc) (.slice a11 (m + nodesR d l[k]) c11) N KA DA N2 KA2 DA2 KC2 DC2 tb C ka kn kc' a9 (k + 1) c9 (LKs l k) (LDs d l n (k + 1)) ∧ ∀ j (h : j < l.length), j < k + 1 → Tells N2 0 d l[j] (n + 1 + offR d l j)) := by
            have hm := H0.out.1
            refine ⟨by rw [offR_succ d l k hkl]; omega, st2, fun j hj hjk => ?_⟩
            by_cases e : j = k
            · subst e
              rw [← hm]
              exact tl2
            · refine Tells.congr (fun i h1 h2 => ?_) (H0.out.2.2 j hj (by omega))
              have q1 := offR_succ d l j hj
              have q2 := offR_mono d l (show j + 1 ≤ k by omega) (by omega)
              rw [old2 i (by omega)]
              exact ⟨rfl, rfl, rfl, rfl, fun _ _ => rfl, fun _ _ => rfl⟩
          obtain ⟨m2, hm2⟩ : ∃ m2, m2 = m + nodesR d l[k] := ⟨_, rfl⟩
          rw [← hm2] at HE ⊢
          clear st2 old2 tl2 hr HC s2 sz sf hm2 H9
          go_wp2
          go_roundw
          case rel => exact ⟨k + 1, m2, _, _, c9, c11, a11, _, a9, N2, KA2, DA2, KC2, DC2, by omega, by go_num, rfl, HE.out.1, (by rw [show LKs l (k + 1) = LKs l k by rw [HK0.out]; rfl]; exact HE.out.2.1), HE.out.2.2⟩
          case measure => simp [intOf]; omega
      · rcases hform with ⟨kb, rfl⟩ | ⟨kb, rfl⟩
        · have kz : (0 : Int) < (k : Int) := by omega
          have HLs : Hid (Calls Try.prog 107 #[.pointer (some ⟨kb, 0, none⟩)] wr.drew fun e w' => e = .returned (.string (fst1 l k)) ∧ w' = wr.drew) := by
            have hcl := least_o (HTu.out.below (Below.refl _ _).drew) (HBal.out.1 _ (List.getElem_mem hkl))
            rw [← fst1_at hkl] at hcl
            exact callL_leaf hcl
          have HO8 : Hid ((wr.alloc (.cells #[.string (fst1 l k)] 9)).drew.ownsRow B 9 1 (.slice ka kn kc') kn (strL (LKs l k))) := own_below H0.out.2.1.own1.1 (below_alloc _ _).drew
          have t1d : wr.drew.cell? ⟨tb, 1, none⟩ = some (.slice ka kn kc') := t1
          go_upto_region 8 with fail
          refine wp_region_late (S := fun w' => w'.cell? ⟨tb, 1, none⟩ = some (.slice ka kn kc')) 7 (by kernel_rfl) t1d (fun hHeld => ?_)
          refine late_take 0 .zero (v := ?_) (by kernel_rfl) (by kernel_rfl) (by kernel_rfl) (by kernel_rfl) (fun _ _ _ h => h) (by rfl) ?_ (by assumption) ?_
          rotate_left
          · (intro w hSw; (try dsimp only at hSw); go_simp) <;> with_reducible rfl
          simp only [Act.put, List.setIfInBounds_toArray, List.set_cons_zero, List.set_cons_succ]
          refine late_take 1 (.succ .zero) (v := ?_) (by kernel_rfl) (by kernel_rfl) (by kernel_rfl) (by kernel_rfl) (fun _ _ _ h => h) (by rfl) ?_ (by assumption) ?_
          rotate_left
          · (intro w hSw; (try dsimp only at hSw); go_simp) <;> with_reducible rfl
          simp only [Act.put, List.setIfInBounds_toArray, List.set_cons_zero, List.set_cons_succ]
          refine late_take 2 (.succ (.succ .zero)) (v := ?_) (by kernel_rfl) (by kernel_rfl) (by kernel_rfl) (by kernel_rfl) (fun _ _ _ h => h) (by rfl) ?_ (by assumption) ?_
          rotate_left
          · (intro w hSw; (try dsimp only at hSw); go_simp) <;> with_reducible rfl
          simp only [Act.put, List.setIfInBounds_toArray, List.set_cons_zero, List.set_cons_succ]
          refine late_one 3 (.succ (.succ (.succ .zero))) (by kernel_rfl) (fun K hK => ?_)
          refine step_inv (by rfl) 107 34 _ 53 (.pointer (some ⟨kb, 0, none⟩)) (by rfl) (by rfl) (fun _ => by kernel_rfl) (fun _ _ => by rfl) ?_
          (with_reducible refine HLs.out.mono ?_)
          rintro e w4 ⟨rfl, hw4⟩
          subst hw4
          refine ⟨_, rfl, ?_⟩
          refine hK.out _ _ ?_ (fun hHeld2 => ?_)
          · (intro _; exact t1d)
          clear hK K
          replace hHeld := hHeld2 (by decide)
          clear hHeld2
          try simp only [Act.put, List.setIfInBounds_toArray, List.set_cons_zero, List.set_cons_succ]
          refine late_one 4 (.succ (.succ (.succ (.succ .zero)))) (by kernel_rfl) (fun K hK => ?_)
          go_simp
          refine hK.out _ _ ?_ (fun hHeld2 => ?_)
          · (intro _; exact ((below_alloc wr _).drew.cell (p := ⟨tb, 1, none⟩) tz).trans t1)
          clear hK K
          replace hHeld := hHeld2 (by decide)
          clear hHeld2
          try simp only [Act.put, List.setIfInBounds_toArray, List.set_cons_zero, List.set_cons_succ]
          refine late_one 5 (.succ (.succ (.succ (.succ (.succ .zero))))) (by kernel_rfl) (fun K hK => ?_)
          refine step_append_str (by rfl) (.tmp 33) (.tmp 36) (by rfl) B (.slice ka kn kc') kn (strL (LKs l k)) (by rfl) HO8.out ⟨wr.heap.size, 0, none⟩ (fst1 l k) (by rfl) (by rw [Addr.add_lit]; exact (Bx.new wr #[.string (fst1 l k)] 9).drew.cell 0) (by have := H0.out.2.1.own1.2; simp [LKs] at this; omega) (by have := HBw.out.2; show B ≤ (wr.alloc _).heap.size; simp; omega) ?_
          intro v5 w5 ho5 hg5 hat5
          obtain ⟨a5, c5, e5, _⟩ := own_form ho5
          subst e5
          have H8 : Hid (TlSt w (w5.setCell ⟨tb, 1, none⟩ (.slice a5 (kn + 1) c5)) B n m (.slice ra n rc) (.slice ra' m rc') N KA DA N' KA' DA' KC' DC' tb C a5 (kn + 1) c5 da k dc (LKs l (k + 1)) (LDs d l n k) ∧ Bx w5 tb 88 #[.bool false, .slice ka kn kc', .slice da k dc, .int .i64 C]) := by
            have q := TlSt.key H0.out.2.1 (below_alloc _ _).drew ho5 hg5 hat5
            rw [LKs_succ l k (by omega)]
            exact q
          have s1 := H8.out.2.cell 1
          simp at s1
          have sz1 := H8.out.2.lt
          have sf1 := fun i => H8.out.2.frozen i
          clear ho5 hg5 hat5
          refine hK.out _ _ ?_ (fun hHeld2 => ?_)
          · (intro _; exact s1)
          clear hK K
          replace hHeld := hHeld2 (by decide)
          clear hHeld2
          try simp only [Act.put, List.setIfInBounds_toArray, List.set_cons_zero, List.set_cons_succ]
          refine late_one 6 (.succ (.succ (.succ (.succ (.succ (.succ .zero)))))) (by kernel_rfl) (fun K hK => ?_)
          go_simp
          refine hK.out _ _ ?_ (fun hHeld2 => ?_)
          · (intro _; exact hHeld)
          clear hK K
          replace hHeld := hHeld2 (by decide)
          clear hHeld2
          try simp only [Act.put, List.setIfInBounds_toArray, List.set_cons_zero, List.set_cons_succ]
          refine late_one 7 (.succ (.succ (.succ (.succ (.succ (.succ (.succ .zero))))))) (by kernel_rfl) (fun K hK => ?_)
          go_simp
          refine hK.out _ _ ?_ (fun hHeld2 => ?_)
          · (intro hne; exact absurd rfl hne)
          clear hK K hHeld2
          refine wpLate_done (by kernel_rfl) ?_ _
          have H8a : Hid (TlSt w (w5.setCell ⟨tb, 1, none⟩ (.slice a5 (kn + 1) c5)) B n m (.slice ra n rc) (.slice ra' m rc') N KA DA N' KA' DA' KC' DC' tb C a5 (kn + 1) c5 da k dc (LKs l (k + 1)) (LDs d l n k)) := H8.out.1
          clear hHeld s1 sz1 sf1 t1d t0 t1 t2 t3 tf tz H8 HO8 HLs
          generalize w5.setCell ⟨tb, 1, none⟩ (.slice a5 (kn + 1) c5) = W8 at H8a ⊢
          have t0 := H8a.out.box.cell 0
          have t1 := H8a.out.box.cell 1
          have t2 := H8a.out.box.cell 2
          have t3 := H8a.out.box.cell 3
          simp at t0 t1 t2 t3
          have tz := H8a.out.box.lt
          have tf := fun i => H8a.out.box.frozen i
          have HO9 : Hid ((W8.alloc (.cells #[.int .i64 (m : Int)] 2)).ownsRow B 2 1 (.slice da k dc) k (intL (LDs d l n k))) := own_below H8a.out.own2.1 (below_alloc _ _)
          have hBz : B ≤ W8.heap.size := Nat.le_trans hB H8a.out.fr.size
          go_wp2_with (at_builtin; refine wpList_append_own_at _ rfl _ _ 86 rfl B 2 i2 _ 1 8 Try.underlying86 HI2.out.1 HI2.out.2.1 HI2.out.2.2.1 HI2.out.2.2.2 rfl (by decide) (.slice da k dc) k _ rfl HO9.out ⟨W8.heap.size, 0, none⟩ 1 1 [.int .i64 (m : Int)] rfl rfl (cell_one_new _ _ _) (by intro u hu; simp at hu; subst hu; rfl) (by unfold maxLen; omega) (by omega) (by simp; omega) ?_)
          intro v9 w9 ho9 hg9 _ hat9
          obtain ⟨a9, c9, e9, _⟩ := own_form ho9
          subst e9
          have H9 : Hid (TlSt w (w9.setCell ⟨tb, 2, none⟩ (.slice a9 (k + 1) c9)) B n m (.slice ra n rc) (.slice ra' m rc') N KA DA N' KA' DA' KC' DC' tb C a5 (kn + 1) c5 a9 (k + 1) c9 (LKs l (k + 1)) (LDs d l n (k + 1)) ∧ Bx w9 tb 88 #[.bool false, .slice a5 (kn + 1) c5, .slice da k dc, .int .i64 C]) := by
            have q := TlSt.kid H8a.out (below_alloc _ _) ho9 hg9 (by simpa using hat9)
            rw [LDs_succ, ← H0.out.1]
            exact q
          have s2 := H9.out.2.cell 2
          simp at s2
          have sz := H9.out.2.lt
          have sf := fun i => H9.out.2.frozen i
          have HC : Hid (Calls Try.prog 110 #[.pointer (some ⟨kb, 0, none⟩), .slice ra' m rc'] (w9.setCell ⟨tb, 2, none⟩ (.slice a9 (k + 1) c9)) (RetTl (w9.setCell ⟨tb, 2, none⟩ (.slice a9 (k + 1) c9)) B (.slice ra' m rc') m N' KA' DA' (nodesR d l[k]) (fun N2 => Tells N2 0 d l[k] m))) := by
            have hb9 := HBb.out _ H9.out.1.fr
            obtain ⟨u', cu', htu'⟩ := HK.out _ hb9 k hkl
            have eu : u' = .iface 53 (.pointer (some ⟨kb, 0, none⟩)) := by
              have q : (w9.setCell ⟨tb, 2, none⟩ (.slice a9 (k + 1) c9)).cell? ⟨g, o + k, none⟩ = wr.cell? ⟨g, o + k, none⟩ := (hb9.cell (p := ⟨g, o + k, none⟩) hgB).trans (HBw.out.1.cell (p := ⟨g, o + k, none⟩) hgB).symm
              rw [q, cu] at cu'
              injection cu' with cu'
              exact cu'.symm
            rw [eu] at htu'
            have hct := HIH.out k hkl _ _ m rc' ra' N' KA' DA' KC' DC' htu' H9.out.1.gt (Nat.le_trans hB H9.out.1.fr.size) (by
              have q : nodesR (d + 1) (.inr l) = 1 + (l.map (nodesR d)).sum := rfl
              have := HBal.out.2
              have := offR_le d l k hkl
              have := H0.out.1
              omega)
            exact callT_leaf hct
          clear ho9 hg9 hat9 HO9 t0 t1 t2 t3 tf cu
          go_wp2_with fail
          (with_reducible refine HC.out.mono ?_)
          intro e w11 hr
          obtain ⟨q2, N2, KA2, DA2, KC2, DC2, e2, st2, old2, tl2⟩ := TlSt.told H9.out.1 hr
          obtain ⟨a11, c11, e11, _⟩ := own_form st2.gt.row
          subst e11
          subst e2
          have HE : Hid (m + nodesR d l[k] = n + 1 + offR d l (k + 1) ∧ TlSt w w11 B n (m + nodesR d l[k]) (.slice ra n rc) (.slice a11 (m + nodesR d l[k]) c11) N KA DA N2 KA2 DA2 KC2 DC2 tb C a5 (kn + 1) c5 a9 (k + 1) c9 (LKs l (k + 1)) (LDs d l n (k + 1)) ∧ ∀ j (h : j < l.length), j < k + 1 → Tells N2 0 d l[j] (n + 1 + offR d l j)) := by
            have hm := H0.out.1
            refine ⟨by rw [offR_succ d l k hkl]; omega, st2, fun j hj hjk => ?_⟩
            by_cases e : j = k
            · subst e
              rw [← hm]
              exact tl2
            · refine Tells.congr (fun i h1 h2 => ?_) (H0.out.2.2 j hj (by omega))
              have q1 := offR_succ d l j hj
              have q2 := offR_mono d l (show j + 1 ≤ k by omega) (by omega)
              rw [old2 i (by omega)]
              exact ⟨rfl, rfl, rfl, rfl, fun _ _ => rfl, fun _ _ => rfl⟩
          obtain ⟨m2, hm2⟩ : ∃ m2, m2 = m + nodesR d l[k] := ⟨_, rfl⟩
          rw [← hm2] at HE ⊢
          clear st2 old2 tl2 hr HC s2 sz sf hm2 H9
          go_wp2
          go_roundw
          case rel => exact ⟨k + 1, m2, _, _, c9, c11, a11, _, a9, N2, KA2, DA2, KC2, DC2, by omega, by go_num, rfl, HE.out.1, HE.out.2.1, HE.out.2.2⟩
          case measure => simp [intOf]; omega
        · have kz : (0 : Int) < (k : Int) := by omega
          have HLs : Hid (Calls Try.prog 124 #[.pointer (some ⟨kb, 0, none⟩)] wr.drew fun e w' => e = .returned (.string (fst1 l k)) ∧ w' = wr.drew) := by
            have hcl := least_o (HTu.out.below (Below.refl _ _).drew) (HBal.out.1 _ (List.getElem_mem hkl))
            rw [← fst1_at hkl] at hcl
            exact callL_inner hcl
          have HO8 : Hid ((wr.alloc (.cells #[.string (fst1 l k)] 9)).drew.ownsRow B 9 1 (.slice ka kn kc') kn (strL (LKs l k))) := own_below H0.out.2.1.own1.1 (below_alloc _ _).drew
          have t1d : wr.drew.cell? ⟨tb, 1, none⟩ = some (.slice ka kn kc') := t1
          go_upto_region 8 with fail
          refine wp_region_late (S := fun w' => w'.cell? ⟨tb, 1, none⟩ = some (.slice ka kn kc')) 7 (by kernel_rfl) t1d (fun hHeld => ?_)
          refine late_take 0 .zero (v := ?_) (by kernel_rfl) (by kernel_rfl) (by kernel_rfl) (by kernel_rfl) (fun _ _ _ h => h) (by rfl) ?_ (by assumption) ?_
          rotate_left
          · (intro w hSw; (try dsimp only at hSw); go_simp) <;> with_reducible rfl
          simp only [Act.put, List.setIfInBounds_toArray, List.set_cons_zero, List.set_cons_succ]
          refine late_take 1 (.succ .zero) (v := ?_) (by kernel_rfl) (by kernel_rfl) (by kernel_rfl) (by kernel_rfl) (fun _ _ _ h => h) (by rfl) ?_ (by assumption) ?_
          rotate_left
          · (intro w hSw; (try dsimp only at hSw); go_simp) <;> with_reducible rfl
          simp only [Act.put, List.setIfInBounds_toArray, List.set_cons_zero, List.set_cons_succ]
          refine late_take 2 (.succ (.succ .zero)) (v := ?_) (by kernel_rfl) (by kernel_rfl) (by kernel_rfl) (by kernel_rfl) (fun _ _ _ h => h) (by rfl) ?_ (by assumption) ?_
          rotate_left
          · (intro w hSw; (try dsimp only at hSw); go_simp) <;> with_reducible rfl
          simp only [Act.put, List.setIfInBounds_toArray, List.set_cons_zero, List.set_cons_succ]
          refine late_one 3 (.succ (.succ (.succ .zero))) (by kernel_rfl) (fun K hK => ?_)
          refine step_inv (by rfl) 124 34 _ 91 (.pointer (some ⟨kb, 0, none⟩)) (by rfl) (by rfl) (fun _ => by kernel_rfl) (fun _ _ => by rfl) ?_
          (with_reducible refine HLs.out.mono ?_)
          rintro e w4 ⟨rfl, hw4⟩
          subst hw4
          refine ⟨_, rfl, ?_⟩
          refine hK.out _ _ ?_ (fun hHeld2 => ?_)
          · (intro _; exact t1d)
          clear hK K
          replace hHeld := hHeld2 (by decide)
          clear hHeld2
          try simp only [Act.put, List.setIfInBounds_toArray, List.set_cons_zero, List.set_cons_succ]
          refine late_one 4 (.succ (.succ (.succ (.succ .zero)))) (by kernel_rfl) (fun K hK => ?_)
          go_simp
          refine hK.out _ _ ?_ (fun hHeld2 => ?_)
          · (intro _; exact ((below_alloc wr _).drew.cell (p := ⟨tb, 1, none⟩) tz).trans t1)
          clear hK K
          replace hHeld := hHeld2 (by decide)
          clear hHeld2
          try simp only [Act.put, List.setIfInBounds_toArray, List.set_cons_zero, List.set_cons_succ]
          refine late_one 5 (.succ (.succ (.succ (.succ (.succ .zero))))) (by kernel_rfl) (fun K hK => ?_)
          refine step_append_str (by rfl) (.tmp 33) (.tmp 36) (by rfl) B (.slice ka kn kc') kn (strL (LKs l k)) (by rfl) HO8.out ⟨wr.heap.size, 0, none⟩ (fst1 l k) (by rfl) (by rw [Addr.add_lit]; exact (Bx.new wr #[.string (fst1 l k)] 9).drew.cell 0) (by have := H0.out.2.1.own1.2; simp [LKs] at this; omega) (by have := HBw.out.2; show B ≤ (wr.alloc _).heap.size; simp; omega) ?_
          intro v5 w5 ho5 hg5 hat5
          obtain ⟨a5, c5, e5, _⟩ := own_form ho5
          subst e5
          have H8 : Hid (TlSt w (w5.setCell ⟨tb, 1, none⟩ (.slice a5 (kn + 1) c5)) B n m (.slice ra n rc) (.slice ra' m rc') N KA DA N' KA' DA' KC' DC' tb C a5 (kn + 1) c5 da k dc (LKs l (k + 1)) (LDs d l n k) ∧ Bx w5 tb 88 #[.bool false, .slice ka kn kc', .slice da k dc, .int .i64 C]) := by
            have q := TlSt.key H0.out.2.1 (below_alloc _ _).drew ho5 hg5 hat5
            rw [LKs_succ l k (by omega)]
            exact q
          have s1 := H8.out.2.cell 1
          simp at s1
          have sz1 := H8.out.2.lt
          have sf1 := fun i => H8.out.2.frozen i
          clear ho5 hg5 hat5
          refine hK.out _ _ ?_ (fun hHeld2 => ?_)
          · (intro _; exact s1)
          clear hK K
          replace hHeld := hHeld2 (by decide)
          clear hHeld2
          try simp only [Act.put, List.setIfInBounds_toArray, List.set_cons_zero, List.set_cons_succ]
          refine late_one 6 (.succ (.succ (.succ (.succ (.succ (.succ .zero)))))) (by kernel_rfl) (fun K hK => ?_)
          go_simp
          refine hK.out _ _ ?_ (fun hHeld2 => ?_)
          · (intro _; exact hHeld)
          clear hK K
          replace hHeld := hHeld2 (by decide)
          clear hHeld2
          try simp only [Act.put, List.setIfInBounds_toArray, List.set_cons_zero, List.set_cons_succ]
          refine late_one 7 (.succ (.succ (.succ (.succ (.succ (.succ (.succ .zero))))))) (by kernel_rfl) (fun K hK => ?_)
          go_simp
          refine hK.out _ _ ?_ (fun hHeld2 => ?_)
          · (intro hne; exact absurd rfl hne)
          clear hK K hHeld2
          refine wpLate_done (by kernel_rfl) ?_ _
          have H8a : Hid (TlSt w (w5.setCell ⟨tb, 1, none⟩ (.slice a5 (kn + 1) c5)) B n m (.slice ra n rc) (.slice ra' m rc') N KA DA N' KA' DA' KC' DC' tb C a5 (kn + 1) c5 da k dc (LKs l (k + 1)) (LDs d l n k)) := H8.out.1
          clear hHeld s1 sz1 sf1 t1d t0 t1 t2 t3 tf tz H8 HO8 HLs
          generalize w5.setCell ⟨tb, 1, none⟩ (.slice a5 (kn + 1) c5) = W8 at H8a ⊢
          have t0 := H8a.out.box.cell 0
          have t1 := H8a.out.box.cell 1
          have t2 := H8a.out.box.cell 2
          have t3 := H8a.out.box.cell 3
          simp at t0 t1 t2 t3
          have tz := H8a.out.box.lt
          have tf := fun i => H8a.out.box.frozen i
          have HO9 : Hid ((W8.alloc (.cells #[.int .i64 (m : Int)] 2)).ownsRow B 2 1 (.slice da k dc) k (intL (LDs d l n k))) := own_below H8a.out.own2.1 (below_alloc _ _)
          have hBz : B ≤ W8.heap.size := Nat.le_trans hB H8a.out.fr.size
          go_wp2_with (at_builtin; refine wpList_append_own_at _ rfl _ _ 86 rfl B 2 i2 _ 1 8 Try.underlying86 HI2.out.1 HI2.out.2.1 HI2.out.2.2.1 HI2.out.2.2.2 rfl (by decide) (.slice da k dc) k _ rfl HO9.out ⟨W8.heap.size, 0, none⟩ 1 1 [.int .i64 (m : Int)] rfl rfl (cell_one_new _ _ _) (by intro u hu; simp at hu; subst hu; rfl) (by unfold maxLen; omega) (by omega) (by simp; omega) ?_)
          intro v9 w9 ho9 hg9 _ hat9
          obtain ⟨a9, c9, e9, _⟩ := own_form ho9
          subst e9
          have H9 : Hid (TlSt w (w9.setCell ⟨tb, 2, none⟩ (.slice a9 (k + 1) c9)) B n m (.slice ra n rc) (.slice ra' m rc') N KA DA N' KA' DA' KC' DC' tb C a5 (kn + 1) c5 a9 (k + 1) c9 (LKs l (k + 1)) (LDs d l n (k + 1)) ∧ Bx w9 tb 88 #[.bool false, .slice a5 (kn + 1) c5, .slice da k dc, .int .i64 C]) := by
            have q := TlSt.kid H8a.out (below_alloc _ _) ho9 hg9 (by simpa using hat9)
            rw [LDs_succ, ← H0.out.1]
            exact q
          have s2 := H9.out.2.cell 2
          simp at s2
          have sz := H9.out.2.lt
          have sf := fun i => H9.out.2.frozen i
          have HC : Hid (Calls Try.prog 127 #[.pointer (some ⟨kb, 0, none⟩), .slice ra' m rc'] (w9.setCell ⟨tb, 2, none⟩ (.slice a9 (k + 1) c9)) (RetTl (w9.setCell ⟨tb, 2, none⟩ (.slice a9 (k + 1) c9)) B (.slice ra' m rc') m N' KA' DA' (nodesR d l[k]) (fun N2 => Tells N2 0 d l[k] m))) := by
            have hb9 := HBb.out _ H9.out.1.fr
            obtain ⟨u', cu', htu'⟩ := HK.out _ hb9 k hkl
            have eu : u' = .iface 91 (.pointer (some ⟨kb, 0, none⟩)) := by
              have q : (w9.setCell ⟨tb, 2, none⟩ (.slice a9 (k + 1) c9)).cell? ⟨g, o + k, none⟩ = wr.cell? ⟨g, o + k, none⟩ := (hb9.cell (p := ⟨g, o + k, none⟩) hgB).trans (HBw.out.1.cell (p := ⟨g, o + k, none⟩) hgB).symm
              rw [q, cu] at cu'
              injection cu' with cu'
              exact cu'.symm
            rw [eu] at htu'
            have hct := HIH.out k hkl _ _ m rc' ra' N' KA' DA' KC' DC' htu' H9.out.1.gt (Nat.le_trans hB H9.out.1.fr.size) (by
              have q : nodesR (d + 1) (.inr l) = 1 + (l.map (nodesR d)).sum := rfl
              have := HBal.out.2
              have := offR_le d l k hkl
              have := H0.out.1
              omega)
            exact callT_inner hct
          clear ho9 hg9 hat9 HO9 t0 t1 t2 t3 tf cu
          go_wp2_with fail
          (with_reducible refine HC.out.mono ?_)
          intro e w11 hr
          obtain ⟨q2, N2, KA2, DA2, KC2, DC2, e2, st2, old2, tl2⟩ := TlSt.told H9.out.1 hr
          obtain ⟨a11, c11, e11, _⟩ := own_form st2.gt.row
          subst e11
          subst e2
          have HE : Hid (m + nodesR d l[k] = n + 1 + offR d l (k + 1) ∧ TlSt w w11 B n (m + nodesR d l[k]) (.slice ra n rc) (.slice a11 (m + nodesR d l[k]) c11) N KA DA N2 KA2 DA2 KC2 DC2 tb C a5 (kn + 1) c5 a9 (k + 1) c9 (LKs l (k + 1)) (LDs d l n (k + 1)) ∧ ∀ j (h : j < l.length), j < k + 1 → Tells N2 0 d l[j] (n + 1 + offR d l j)) := by
            have hm := H0.out.1
            refine ⟨by rw [offR_succ d l k hkl]; omega, st2, fun j hj hjk => ?_⟩
            by_cases e : j = k
            · subst e
              rw [← hm]
              exact tl2
            · refine Tells.congr (fun i h1 h2 => ?_) (H0.out.2.2 j hj (by omega))
              have q1 := offR_succ d l j hj
              have q2 := offR_mono d l (show j + 1 ≤ k by omega) (by omega)
              rw [old2 i (by omega)]
              exact ⟨rfl, rfl, rfl, rfl, fun _ _ => rfl, fun _ _ => rfl⟩
          obtain ⟨m2, hm2⟩ : ∃ m2, m2 = m + nodesR d l[k] := ⟨_, rfl⟩
          rw [← hm2] at HE ⊢
          clear st2 old2 tl2 hr HC s2 sz sf hm2 H9
          go_wp2
          go_roundw
          case rel => exact ⟨k + 1, m2, _, _, c9, c11, a11, _, a9, N2, KA2, DA2, KC2, DC2, by omega, by go_num, rfl, HE.out.1, HE.out.2.1, HE.out.2.2⟩
          case measure => simp [intOf]; omega
    · have e : k = ln := by omega
      subst e
      obtain ⟨ar, cr, er, hfr⟩ := own_form H0.out.2.1.gt.row
      injection er with er1 _ er2
      subst er1 er2
      obtain ⟨gr, rfl, hgr1, hgr2, hgr3⟩ := hfr (by have := H0.out.1; omega)
      have hnm : n < m := H0.out.2.1.zero.2.2
      have rr : ∀ j, j < m * 4 → wr.cell? ⟨gr, j, none⟩ = some (tnCell N' KA' DA' KC' DC' j) := fun j hj => hgr3 j _ (by simp [hj])
      have r0 := rr (n * 4) (by omega)
      have r1 := rr (n * 4 + 1) (by omega)
      have r2 := rr (n * 4 + 2) (by omega)
      have r3 := rr (n * 4 + 3) (by omega)
      have rf : ∀ j, wr.frozen? ⟨gr, j, none⟩ = false := by
        intro j
        rcases H0.out.2.1.gt.row.2 with ⟨q, _⟩ | ⟨g', cap, cur, q1, q2, q3, _⟩
        · cases q
        · injection q1 with q1
          injection q1 with q1
          injection q1 with q1
          subst q1
          exact (show Bx wr gr 88 cur from q3).frozen j
      have jn0 : (0 : Int) ≤ (n : Int) := by omega
      have jn1 : (n : Int) < (m : Int) := by omega
      have HEnd : Hid (RetTl w B (.slice ra n rc) n N KA DA (nodesR (d + 1) (.inr l)) (fun N' => Tells N' 0 (d + 1) (.inr l) n) (.returned (.slice (some ⟨gr, 0, none⟩) m rc')) ((((wr.setCell ⟨gr, n * 4, none⟩ (.bool false)).setCell ⟨gr, n * 4 + 1, none⟩ (.slice ka kn kc')).setCell ⟨gr, n * 4 + 2, none⟩ (.slice da k dc)).setCell ⟨gr, n * 4 + 3, none⟩ (.int .i64 C))) := by
        have hkL := HLn.out.1
        have st := H0.out.2.1
        have hm := H0.out.1
        rw [HLn.out.1] at hm
        rw [HLn.out.1, HLn.out.2] at st
        have hkl0 : kn = (LKs l l.length).length := st.own1.2
        have := tlst_fin st (P := fun N' => Tells N' 0 (d + 1) (.inr l) n) (tells_in (by omega) (fun j hj => H0.out.2.2 j hj (by omega)) kn l.length hkl0 rfl) (c := nodesR (d + 1) (.inr l)) (by rw [hm, offR_all]; show n + 1 + _ = n + (1 + _); omega)
        rw [← HLn.out.1, ← HLn.out.2] at this
        exact this
      clear rr hgr3
      go_wp2
      go_ret
      exact HEnd.out

theorem tellO : ∀ (d : Nat) (t : Ro d) (v : Value) (S : Nat → Prop) (w : World) (root : Bool) (h B n rc : Nat) (ra : Option Addr) (N : Nat → Tn) (KA DA : Nat → Option Addr) (KC DC : Nat → Nat), TAo S w d t v → BalR d root t h → GT w B (.slice ra n rc) n N KA DA KC DC → B ≤ w.heap.size → (∀ x, S x → x < B) → n + nodesR d t ≤ 100000 → CallT v (.slice ra n rc) w (RetTl w B (.slice ra n rc) n N KA DA (nodesR d t) (fun N' => Tells N' 0 d t n))
  | 0, t, _, _, _, _, _, _, _, _, _, _, _, _, _, _, ht, _, _, _, _, _ => ht.elim
  | d + 1, .inl L, v, S, w, root, h, B, n, rc, ra, N, KA, DA, KC, DC, ht, hb, hg, hB, hS, hn => by
    have ht2 := ht
    obtain ⟨b, ka, kc, rfl, _⟩ := ht2
    exact .inl ⟨b, rfl, tellLeaf_any d b L S w ht B n rc ra N KA DA KC DC hg hB (by have := hb.2.1; omega) (by omega)⟩
  | d + 1, .inr l, v, S, w, root, h, B, n, rc, ra, N, KA, DA, KC, DC, ht, hb, hg, hB, hS, hn => by
    have ht2 := ht
    obtain ⟨b, g, o, kc, xs, rfl, _⟩ := ht2
    obtain ⟨b2, b4, h', _, hall⟩ := hb
    exact .inr ⟨b, rfl, tellInner_any d b l S w ht h' hall B n rc ra N KA DA KC DC hg hB hS (by omega) hn (fun k hk u wr m rc' ra' N' KA' DA' KC' DC' h1 h2 h3 h4 => tellO d l[k] u S wr false h' B m rc' ra' N' KA' DA' KC' DC' h1 (hall _ (List.getElem_mem hk)) h2 h3 hS h4)⟩
end Go.Proofs.Ytakemeccigpbaaa
