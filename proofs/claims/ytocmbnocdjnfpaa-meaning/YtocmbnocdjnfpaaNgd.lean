import Derived.Test.YtocmbnocdjnfpaaNg1
import Derived.Test.YtocmbnocdjnfpaaPpC
import Derived.Deep.RegionHeld3
import Derived.Deep.CutBlock
namespace Go.Proofs.Ytocmbnocdjnfpaa
open Go.RowKit Go.Deep
set_option linter.unusedVariables false
set_option maxRecDepth 100000

/-- What a node means over the facts that count, A and B being its operands' meanings. -/
def nodeM (k : Int) (s t : ByteArray) (F : List Fc) (A B : ByteArray → Prop) (x : ByteArray) : Prop :=
  if k = 1 then ∃ f, f ∈ F ∧ (x = f.s ∨ x = f.o)
  else if k = 2 then ∃ f, f ∈ F ∧ (f.s = s ∨ f.o = s) ∧ x = s
  else if k = 3 then ∃ f, f ∈ F ∧ f.p = s ∧ A f.s ∧ x = f.o
  else if k = 4 then ∃ f, f ∈ F ∧ f.p = s ∧ A f.o ∧ x = f.s
  else if k = 5 then ∃ f, f ∈ F ∧ f.p = s ∧ f.o = t ∧ A f.s ∧ x = f.s
  else if k = 6 then A x ∧ B x
  else if k = 7 then A x ∨ B x
  else if k = 8 then A x ∧ ¬ B x
  else A x
theorem nodeM_congr {k : Int} {s t : ByteArray} {F : List Fc} {A A' B B' : ByteArray → Prop} (hk : 1 ≤ k ∧ k ≤ 9) (hA : 1 ≤ arOf k → ∀ x, A x ↔ A' x) (hB : arOf k = 2 → ∀ x, B x ↔ B' x) (x : ByteArray) : nodeM k s t F A B x ↔ nodeM k s t F A' B' x := by
  have h9 : k = 1 ∨ k = 2 ∨ k = 3 ∨ k = 4 ∨ k = 5 ∨ k = 6 ∨ k = 7 ∨ k = 8 ∨ k = 9 := by omega
  rcases h9 with rfl | rfl | rfl | rfl | rfl | rfl | rfl | rfl | rfl
  all_goals
    simp [nodeM, arOf] at hA hB ⊢
    try simp [hA]
    try simp [hB]
/-- The context of a node's operands. -/
def dnB (k : Int) (bd : Bool) : Bool := if k = 9 then true else bd
def dnG (k : Int) (s g : ByteArray) : ByteArray := if k = 9 then s else g
/-- What a node means, f being large enough. -/
def MSF (I : Nat → Int) (X R : Nat → ByteArray) (fs : List Fc) : Nat → Nat → Bool → ByteArray → ByteArray → Prop
  | 0, _, _, _, _ => False
  | f + 1, i, bd, g, x => nodeM (I i) (X i) (R i) (fs.filter (cntB bd g)) (fun y => opf (arI I) i 0 < i ∧ MSF I X R fs f (opf (arI I) i 0) (dnB (I i) bd) (dnG (I i) (X i) g) y) (fun y => opf (arI I) i 1 < i ∧ MSF I X R fs f (opf (arI I) i 1) (dnB (I i) bd) (dnG (I i) (X i) g) y) x
theorem nodeM_imp {k : Int} {s t : ByteArray} {F : List Fc} {A A' B B' : ByteArray → Prop} (hA : A = A') (hB : B = B') (x : ByteArray) : nodeM k s t F A B x ↔ nodeM k s t F A' B' x := by rw [hA, hB]
theorem MSF_any (I : Nat → Int) (X R : Nat → ByteArray) (fs : List Fc) : ∀ (f h i : Nat), i < f → i < h → ∀ bd g x, MSF I X R fs f i bd g x ↔ MSF I X R fs h i bd g x
  | 0, _, _, q, _, _, _, _ => absurd q (Nat.not_lt_zero _)
  | _ + 1, 0, _, _, q, _, _, _ => absurd q (Nat.not_lt_zero _)
  | f + 1, h + 1, i, h1, h2, bd, g, x => by
    have e : ∀ j, (fun y => opf (arI I) i j < i ∧ MSF I X R fs f (opf (arI I) i j) (dnB (I i) bd) (dnG (I i) (X i) g) y) = (fun y => opf (arI I) i j < i ∧ MSF I X R fs h (opf (arI I) i j) (dnB (I i) bd) (dnG (I i) (X i) g) y) := fun j => by
      funext y
      apply propext
      constructor
      · rintro ⟨q1, q2⟩
        exact ⟨q1, (MSF_any I X R fs f h _ (by omega) (by omega) _ _ _).1 q2⟩
      · rintro ⟨q1, q2⟩
        exact ⟨q1, (MSF_any I X R fs f h _ (by omega) (by omega) _ _ _).2 q2⟩
    exact nodeM_imp (e 0) (e 1) x
/-- What a node means in a context. -/
def MS (I : Nat → Int) (X R : Nat → ByteArray) (fs : List Fc) (i : Nat) (bd : Bool) (g x : ByteArray) : Prop := MSF I X R fs (i + 1) i bd g x
theorem MS_eq {I : Nat → Int} {X R : Nat → ByteArray} {fs : List Fc} {i : Nat} (hk : 1 ≤ I i ∧ I i ≤ 9) (h0 : 1 ≤ arOf (I i) → opf (arI I) i 0 < i) (h1 : arOf (I i) = 2 → opf (arI I) i 1 < i) (bd : Bool) (g x : ByteArray) :
    MS I X R fs i bd g x ↔ nodeM (I i) (X i) (R i) (fs.filter (cntB bd g)) (MS I X R fs (opf (arI I) i 0) (dnB (I i) bd) (dnG (I i) (X i) g)) (MS I X R fs (opf (arI I) i 1) (dnB (I i) bd) (dnG (I i) (X i) g)) x := by
  show nodeM (I i) (X i) (R i) (fs.filter (cntB bd g)) (fun y => opf (arI I) i 0 < i ∧ MSF I X R fs i (opf (arI I) i 0) (dnB (I i) bd) (dnG (I i) (X i) g) y) (fun y => opf (arI I) i 1 < i ∧ MSF I X R fs i (opf (arI I) i 1) (dnB (I i) bd) (dnG (I i) (X i) g) y) x ↔ _
  refine nodeM_congr hk (fun ha y => ?_) (fun ha y => ?_) x
  · have := h0 ha
    constructor
    · rintro ⟨_, q⟩
      exact (MSF_any I X R fs _ _ _ this (by omega) _ _ _).1 q
    · intro q
      exact ⟨this, (MSF_any I X R fs _ _ _ (by omega) this _ _ _).1 q⟩
  · have := h1 ha
    constructor
    · rintro ⟨_, q⟩
      exact (MSF_any I X R fs _ _ _ this (by omega) _ _ _).1 q
    · intro q
      exact ⟨this, (MSF_any I X R fs _ _ _ (by omega) this _ _ _).1 q⟩

/-- A value that is a list of strings: it ascends, and these are its members. -/
def LstA (W : World) (v : Value) (N : Nat) (P : ByteArray → Prop) : Prop := ∃ (a : Option Addr) (c : Nat) (L : List ByteArray), v = .slice a L.length c ∧ RdG W a L ∧ Asc L ∧ (∀ x, x ∈ L ↔ P x) ∧ L.length ≤ N ∧ L.length ≤ c ∧ c ≤ 9223372036854775807
theorem LstA.below {W W' : World} {v : Value} {N : Nat} {P : ByteArray → Prop} (h : LstA W v N P) (hb : Below W.heap.size W W') : LstA W' v N P := by
  obtain ⟨a, c, L, h1, h2, r⟩ := h
  exact ⟨a, c, L, h1, h2.below hb, r⟩
theorem LstA.congr {W : World} {v : Value} {N N' : Nat} {P P' : ByteArray → Prop} (h : LstA W v N P) (e : ∀ x, P x ↔ P' x) (hN : N ≤ N') : LstA W v N' P' := by
  obtain ⟨a, c, L, h1, h2, h3, h4, h5, r⟩ := h
  exact ⟨a, c, L, h1, h2, h3, fun x => (h4 x).trans (e x), Nat.le_trans h5 hN, r⟩
theorem RetM.lst {w w' : World} {m : Nat} {P : ByteArray → Prop} {e : Ending} (h : RetM w m P e w') : ∃ v, e = .returned v ∧ LstA w' v m P ∧ Below w.heap.size w w' := by
  obtain ⟨a, c, L, h1, h2, h3, h4, h5, h6, h7, h8⟩ := h
  exact ⟨_, h1, ⟨a, c, L, rfl, h2, h3, h4, h5, h6, h7⟩, h8⟩
theorem LstA.ret {w w' : World} {v : Value} {m : Nat} {P : ByteArray → Prop} (h : LstA w' v m P) (hb : Below w.heap.size w w') : RetM w m P (.returned v) w' := by
  obtain ⟨a, c, L, rfl, h2, h3, h4, h5, h6, h7⟩ := h
  exact ⟨a, c, L, rfl, h2, h3, h4, h5, h6, h7, hb⟩
/-- The empty list, newly built. -/
theorem LstA.nil (w : World) (P : ByteArray → Prop) (h : ∀ x, ¬ P x) : LstA (w.alloc (.cells #[] 9)) (.slice (some ⟨w.heap.size, 0, none⟩) 0 0) 0 P :=
  ⟨some ⟨w.heap.size, 0, none⟩, 0, [], rfl, .inl rfl, List.Pairwise.nil, fun x => ⟨(fun q => by cases q), fun q => absurd q (h x)⟩, Nat.le_refl _, Nat.le_refl _, by omega⟩
theorem l6Add_v (v : Value) (N : Nat) (P : ByteArray → Prop) (t : ByteArray) (w : World) (h : LstA w v N P) (hN : N ≤ 1048576) :
    Calls Try.prog 115 #[v, .string t] w fun e w' => ∃ v', e = .returned v' ∧ LstA w' v' (N + 1) (fun x => P x ∨ x = t) ∧ Below w.heap.size w w' := by
  obtain ⟨a, c, L, rfl, h2, h3, h4, h5, h6, h7⟩ := h
  refine (l6Add_any a c L t w h2 h3 (by omega) h6 h7).mono ?_
  intro e w' hr
  obtain ⟨v', e1, e2, e3⟩ := hr.lst
  exact ⟨v', e1, e2.congr (fun x => by rw [h4]) (by omega), e3⟩
theorem l6In_v (v : Value) (N : Nat) (P : ByteArray → Prop) (t : ByteArray) (w : World) (h : LstA w v N P) (hN : N ≤ 1048576) :
    Calls Try.prog 114 #[v, .string t] w fun e w' => ∃ b : Bool, e = .returned (.bool b) ∧ (b = true ↔ P t) ∧ w' = w := by
  obtain ⟨a, c, L, rfl, h2, h3, h4, h5, h6, h7⟩ := h
  refine (l6In_any a c L t w h2 (by omega)).mono ?_
  rintro e w' ⟨b, rfl, hb, hw⟩
  exact ⟨b, rfl, hb.trans (h4 t), hw⟩
/-- One fact more. -/
def stepM (k : Int) (s t : ByteArray) (A : ByteArray → Prop) (f : Fc) (x : ByteArray) : Prop :=
  if k = 1 then x = f.s ∨ x = f.o
  else if k = 2 then (f.s = s ∨ f.o = s) ∧ x = s
  else if k = 3 then f.p = s ∧ A f.s ∧ x = f.o
  else if k = 4 then f.p = s ∧ A f.o ∧ x = f.s
  else f.p = s ∧ f.o = t ∧ A f.s ∧ x = f.s
theorem nodeM_nil {k : Int} (hk : 1 ≤ k ∧ k ≤ 5) (s t : ByteArray) (A B : ByteArray → Prop) (x : ByteArray) : ¬ nodeM k s t [] A B x := by
  have h5 : k = 1 ∨ k = 2 ∨ k = 3 ∨ k = 4 ∨ k = 5 := by omega
  rcases h5 with rfl | rfl | rfl | rfl | rfl <;> simp [nodeM]
theorem nodeM_app {k : Int} (hk : 1 ≤ k ∧ k ≤ 5) (s t : ByteArray) (F : List Fc) (f : Fc) (A B : ByteArray → Prop) (x : ByteArray) : nodeM k s t (F ++ [f]) A B x ↔ nodeM k s t F A B x ∨ stepM k s t A f x := by
  have h5 : k = 1 ∨ k = 2 ∨ k = 3 ∨ k = 4 ∨ k = 5 := by omega
  have key : ∀ (Q : Fc → Prop), (∃ y, y ∈ F ++ [f] ∧ Q y) ↔ (∃ y, y ∈ F ∧ Q y) ∨ Q f := fun Q => by
    constructor
    · rintro ⟨y, hy, hq⟩
      rw [List.mem_append, List.mem_singleton] at hy
      rcases hy with hy | rfl
      · exact .inl ⟨y, hy, hq⟩
      · exact .inr hq
    · rintro (⟨y, hy, hq⟩ | hq)
      · exact ⟨y, List.mem_append_left _ hy, hq⟩
      · exact ⟨f, List.mem_append_right _ (List.mem_singleton.2 rfl), hq⟩
  rcases h5 with rfl | rfl | rfl | rfl | rfl
  · exact key (fun y => x = y.s ∨ x = y.o)
  · exact key (fun y => (y.s = s ∨ y.o = s) ∧ x = s)
  · exact key (fun y => y.p = s ∧ A y.s ∧ x = y.o)
  · exact key (fun y => y.p = s ∧ A y.o ∧ x = y.s)
  · exact key (fun y => y.p = s ∧ y.o = t ∧ A y.s ∧ x = y.s)
end Go.Proofs.Ytocmbnocdjnfpaa

namespace Go.Proofs.Ytocmbnocdjnfpaa
open Go.RowKit Go.Deep
set_option linter.unusedVariables false
set_option maxRecDepth 100000

/-- What l6Mean has of its node: the root, its operands, the facts. -/
structure MnA (w : World) (b o mm c : Nat) (k : Int) (s t : ByteArray) (ks : List Value) (fa : Option Addr) (fn fc : Nat) (fs : List Fc) : Prop where
  ro : Calls Try.prog 86 #[.slice (some ⟨b, o, none⟩) mm c] w fun e w' => e = .returned (.agg #[.int .i64 k, .string s, .string t]) ∧ Below w.heap.size w w'
  kd : ∀ W, Below w.heap.size w W → Calls Try.prog 77 #[.slice (some ⟨b, o, none⟩) mm c] W fun e w' => ∃ go cpo, e = .returned (.slice (some ⟨go, 0, none⟩) ks.length cpo) ∧ (∀ i x, ks[i]? = some x → w'.cell? ⟨go, i, none⟩ = some x) ∧ Below W.heap.size W w'
  rf : RdF w fa fs
  fl : fn = fs.length
  f3 : fs.length ≤ 300
/-- A call of l6Mean on an operand. -/
def KidM (w : World) (v : Value) (fa : Option Addr) (fn fc N : Nat) (P : Bool → ByteArray → ByteArray → Prop) : Prop := ∀ (W : World) (bd : Bool) (g : ByteArray), Below w.heap.size w W → Calls Try.prog 61 #[v, .slice fa fn fc, .bool bd, .string g] W (RetM W N (P bd g))
set_option maxHeartbeats 4000000 in
theorem mean_9 (b o mm c : Nat) (s t : ByteArray) (v0 : Value) (fa : Option Addr) (fn fc : Nat) (fs : List Fc) (N0 : Nat) (A : Bool → ByteArray → ByteArray → Prop) (bd : Bool) (g : ByteArray) (w : World) (h : MnA w b o mm c 9 s t [v0] fa fn fc fs) (k0 : KidM w v0 fa fn fc N0 A) :
    Calls Try.prog 61 #[.slice (some ⟨b, o, none⟩) mm c, .slice fa fn fc, .bool bd, .string g] w (RetM w (N0) (nodeM 9 s t (fs.filter (cntB bd g)) (A true s) (fun _ => False))) := by
  have HM : Hid (MnA w b o mm c 9 s t [v0] fa fn fc fs) := h
  clear h
  have e9 : nodeM 9 s t (fs.filter (cntB bd g)) (A true s) (fun _ => False) = A true s := by funext x; simp [nodeM]
  rw [e9]
  clear e9
  go_enter Try.func61, Try.ntmps61
  go_wp2_with fail
  refine HM.out.ro.mono ?_
  rintro e w1 ⟨rfl, hb1⟩
  have HB1 : Hid (Below w.heap.size w (w1.alloc (.cells #[.int .i64 9, .string s, .string t] 61))) := hb1.trans ((below_alloc _ _).mono hb1.size)
  clear hb1
  go_wp2_with fail
  refine (HM.out.kd _ HB1.out).mono ?_
  rintro e w2 ⟨go, cpo, rfl, hks, hb2⟩
  have HB2 : Hid (Below w.heap.size w w2) := HB1.out.trans (hb2.mono HB1.out.size)
  have HBx : Hid (∀ W, Below w2.heap.size w2 W → (W.cell? ⟨w1.heap.size, 0, none⟩ = some (.int .i64 9) ∧ W.cell? ⟨w1.heap.size, 1, none⟩ = some (.string s) ∧ W.cell? ⟨w1.heap.size, 2, none⟩ = some (.string t)) ∧ w1.heap.size < W.heap.size ∧ W.cell? ⟨go, 0, none⟩ = some v0) := fun W hW => by
    have hz : w1.heap.size < w2.heap.size := by have := hb2.size; simp at this; omega
    have hh : W.heap[w1.heap.size]? = some (.cells #[.int .i64 9, .string s, .string t] 61) := (hW.block _ hz).trans ((hb2.block _ (by simp)).trans Array.getElem?_push_size)
    have hz2 := hW.size
    refine ⟨⟨?_, ?_, ?_⟩, by omega, (hW.cell (World.block_lt_of_cell? _ _ (hks 0 v0 rfl))).trans (hks 0 v0 rfl)⟩ <;> simp [World.cell?, hh]
  clear hks hb2 HB1
  obtain ⟨b3, hb3⟩ : ∃ b3, b3 = w1.heap.size := ⟨_, rfl⟩
  rw [← hb3] at HBx ⊢
  clear hb3
  obtain ⟨⟨x0, x1, x2⟩, xl, x3⟩ := HBx.out w2 (Below.refl _ _)
  have HK0 : Hid (KidM w v0 fa fn fc N0 A) := k0
  clear k0
  have HW3 : Hid (∀ O, Below w2.heap.size w2 (w2.alloc O)) := fun O => below_alloc _ _
  have HC : Hid (∀ W, Below w2.heap.size w2 W → Calls Try.prog 61 #[v0, .slice fa fn fc, .bool true, .string s] W (RetM W N0 (A true s))) := fun W hW => HK0.out W true s (HB2.out.trans (hW.mono HB2.out.size))
  go_upto_region 5 with fail
  obtain ⟨W3, hW3⟩ : ∃ W3, W3 = w2.alloc (.cells #[] 9) := ⟨_, rfl⟩
  have H3 : Hid (Below w2.heap.size w2 W3) := by rw [hW3]; exact HW3.out _
  rw [← hW3]
  clear hW3 x0 x1 x2 x3 xl
  obtain ⟨⟨x0, x1, x2⟩, xl, x3⟩ := HBx.out W3 H3.out
  have J0 : Hid (Below w2.heap.size w2 W3.drew) := H3.out.drew
  have JR : Hid (∀ e w', RetM W3.drew N0 (A true s) e w' → RetM w N0 (A true s) e w') := fun e w' hr => by
    obtain ⟨v, e1, e2, e3⟩ := hr.lst
    rw [e1]
    have hb := HB2.out.trans (J0.out.mono HB2.out.size)
    exact e2.ret (hb.trans (e3.mono hb.size))
  go_region_held3 (fun w' => w'.cell? ⟨b3, 1, none⟩ = some (.string s) ∧ w'.cell? ⟨go, 0, none⟩ = some v0) (first | exact ⟨(HBx.out _ J4.out.1).1.2.1, (HBx.out _ J4.out.1).2.2⟩ | go_keep)
    (first
    | (go_at_call 61; (with_reducible refine (HC.out _ J0.out).mono ?_); intro e w4 hr; have hr2 := JR.out e w4 hr; obtain ⟨v4, rfl, hl4, hb4⟩ := hr.lst; have J4 : Hid (Below w2.heap.size w2 w4 ∧ RetM w N0 (A true s) (.returned v4) w4) := ⟨J0.out.trans (hb4.mono J0.out.size), hr2⟩; clear hr hr2 hl4 hb4)
    | fail)
  go_wp2
  go_ret
  exact J4.out.2
end Go.Proofs.Ytocmbnocdjnfpaa
