import Derived.Test.YtlcamfkgkcjehaaNr5
import Derived.Test.YtlcamfkgkcjehaaNr1
import Derived.Test.YtlcamfkgkcjehaaNr2
import Derived.Test.YtlcamfkgkcjehaaNr6
namespace Go.Proofs.Ytlcamfkgkcjehaa
open Go.RowKit Go.Deep
set_option linter.unusedVariables false
set_option maxRecDepth 100000

/-- The cells of a device. -/
def devCell (v0 v1 : Value) (fuel : Int) (dead : Bool) (i : Nat) : Value := if i = 0 then v0 else if i = 1 then v1 else if i = 2 then .int .i64 fuel else .bool dead

/-- The device, in block b. -/
def Dev (w : World) (b : Nat) (v0 v1 : Value) (fuel : Int) (dead : Bool) : Prop := rowIn w b 75 4 (devCell v0 v1 fuel dead)

theorem Dev.cells {w : World} {b : Nat} {v0 v1 : Value} {fuel : Int} {dead : Bool} (h : Dev w b v0 v1 fuel dead) :
    w.cell? ⟨b, 0, none⟩ = some v0 ∧ w.cell? ⟨b, 1, none⟩ = some v1 ∧ w.cell? ⟨b, 2, none⟩ = some (.int .i64 fuel) ∧ w.cell? ⟨b, 3, none⟩ = some (.bool dead) ∧ (∀ o, w.frozen? ⟨b, o, none⟩ = false) ∧ b < w.heap.size :=
  ⟨by simpa [devCell] using rowIn.cell h (i := 0) (by omega), by simpa [devCell] using rowIn.cell h (i := 1) (by omega), by simpa [devCell] using rowIn.cell h (i := 2) (by omega), by simpa [devCell] using rowIn.cell h (i := 3) (by omega), fun o => rowIn.frozen h o, rowIn.lt h⟩

theorem Dev.setFuel {w : World} {b : Nat} {v0 v1 : Value} {fuel : Int} {dead : Bool} (h : Dev w b v0 v1 fuel dead) (x : Int) : Dev (w.setCell ⟨b, 2, none⟩ (.int .i64 x)) b v0 v1 x dead :=
  (rowIn.set h 2 _).congr (fun i hi => by
    unfold devCell
    by_cases e : i = 2
    · subst e; simp
    · simp [e])

theorem Dev.setDead {w : World} {b : Nat} {v0 v1 : Value} {fuel : Int} {dead : Bool} (h : Dev w b v0 v1 fuel dead) (x : Bool) : Dev (w.setCell ⟨b, 3, none⟩ (.bool x)) b v0 v1 fuel x :=
  (rowIn.set h 3 _).congr (fun i hi => by
    unfold devCell
    by_cases e : i = 3
    · subst e; simp
    · have : i < 3 := by omega
      by_cases e0 : i = 0
      · simp [e0]
      · by_cases e1 : i = 1
        · simp [e1]
        · have e2 : i = 2 := by omega
          simp [e2])

theorem Dev.setCache {w : World} {b : Nat} {v0 v1 : Value} {fuel : Int} {dead : Bool} (h : Dev w b v0 v1 fuel dead) (x : Value) : Dev (w.setCell ⟨b, 1, none⟩ x) b v0 x fuel dead :=
  (rowIn.set h 1 _).congr (fun i hi => by
    unfold devCell
    by_cases e : i = 1
    · subst e; simp
    · simp [e])

theorem Dev.below {w w' : World} {b : Nat} {v0 v1 : Value} {fuel : Int} {dead : Bool} (h : Dev w b v0 v1 fuel dead) (hb : Below w.heap.size w w') : Dev w' b v0 v1 fuel dead := rowIn.below h hb

/-- The fuel behind a step. -/
def fuelAfter (fuel : Int) : Int := if fuel = -1 then -1 else fuel - 1

set_option maxHeartbeats 400000 in
theorem spend_zero (b : Nat) (v0 v1 : Value) (dead : Bool) (w : World) (h : Dev w b v0 v1 0 dead) :
    Calls Try.prog 58 #[.pointer (some ⟨b, 0, none⟩)] w fun e w' => e = .panicked [{ v := .iface 88 (.agg #[]), recovered := false }] ∧ Dev w' b v0 v1 0 true ∧ OnlyAt (some ⟨b, 0, none⟩) w w' := by
  obtain ⟨c0, c1, c2, c3, cf, cl⟩ := h.cells
  have HE : Hid (Dev (w.setCell ⟨b, 3, none⟩ (.bool true)) b v0 v1 0 true ∧ OnlyAt (some ⟨b, 0, none⟩) w (w.setCell ⟨b, 3, none⟩ (.bool true))) := ⟨h.setDead true, (OnlyAt.refl _ _).setCell 3 _⟩
  clear h
  go_enter Try.func58, Try.ntmps58
  go_wp2
  exact ⟨rfl, rfl, HE.out⟩

set_option maxHeartbeats 400000 in
theorem spend_dead (b : Nat) (v0 v1 : Value) (fuel : Int) (w : World) (h : Dev w b v0 v1 fuel true) (hf : fuel ≠ 0) :
    Calls Try.prog 58 #[.pointer (some ⟨b, 0, none⟩)] w fun e w' => e = .panicked [{ v := .iface 88 (.agg #[]), recovered := false }] ∧ w' = w := by
  obtain ⟨c0, c1, c2, c3, cf, cl⟩ := h.cells
  have hf' : (fuel == 0) = false := by simp [hf]
  clear h hf
  go_enter Try.func58, Try.ntmps58
  go_wp2
  exact ⟨rfl, rfl, rfl⟩

set_option maxHeartbeats 400000 in
theorem spend_live (b : Nat) (v0 v1 : Value) (fuel : Int) (w : World) (h : Dev w b v0 v1 fuel false) (hf : fuel ≠ 0) (h1 : -1 ≤ fuel) (h2 : fuel ≤ 1000000) :
    Calls Try.prog 58 #[.pointer (some ⟨b, 0, none⟩)] w fun e w' => e = .returned (.tuple #[]) ∧ Dev w' b v0 v1 (fuelAfter fuel) false ∧ OnlyAt (some ⟨b, 0, none⟩) w w' := by
  obtain ⟨c0, c1, c2, c3, cf, cl⟩ := h.cells
  have hf' : (fuel == 0) = false := by simp [hf]
  by_cases hm : fuel = -1
  · subst hm
    have HE : Hid (Dev w b v0 v1 (fuelAfter (-1)) false) := h
    clear h
    go_enter Try.func58, Try.ntmps58
    go_wp2
    go_end0
    exact ⟨rfl, HE.out, OnlyAt.refl _ _⟩
  · have hm' : (fuel != -1) = true := by simp [hm]
    have HE : Hid (Dev (w.setCell ⟨b, 2, none⟩ (.int .i64 (fuel - 1))) b v0 v1 (fuelAfter fuel) false ∧ OnlyAt (some ⟨b, 0, none⟩) w (w.setCell ⟨b, 2, none⟩ (.int .i64 (fuel - 1)))) := ⟨by unfold fuelAfter; rw [if_neg hm]; exact h.setFuel _, (OnlyAt.refl _ _).setCell 2 _⟩
    clear h hm
    go_enter Try.func58, Try.ntmps58
    go_wp2
    all_goals go_end0
    all_goals exact ⟨rfl, HE.out⟩
end Go.Proofs.Ytlcamfkgkcjehaa

namespace Go.Proofs.Ytlcamfkgkcjehaa
open Go.RowKit Go.Deep
set_option linter.unusedVariables false
set_option maxRecDepth 100000

theorem rowIn.only {w w' : World} {g b : Nat} {t : TypeId} {n : Nat} {F : Nat → Value} (h : rowIn w g t n F) (hne : g ≠ b) (ho : OnlyAt (some ⟨b, 0, none⟩) w w') : rowIn w' g t n F :=
  h.of_block (ho.block g (fun x e => by injection e with e; subst e; exact fun e => hne e.symm))

theorem OwnB.onlyDev {w w' : World} {b B : Nat} {a : Option Addr} {n : Nat} {f : Nat → Int} {v0 v1 : Value} {fuel : Int} {dead : Bool} (h : OwnB w B a n f) (hd : Dev w b v0 v1 fuel dead) (ho : OnlyAt (some ⟨b, 0, none⟩) w w') : OwnB w' B a n f := by
  rcases h with h | ⟨g, rfl, hg, hr⟩
  · exact Or.inl h
  · exact Or.inr ⟨g, rfl, hg, hr.only (hr.ne hd (by decide)) ho⟩

theorem Gath.onlyDev {w w' : World} {b B : Nat} {v : Value} {k : Nat} {S : Nat → Int} {L : Nat → Nat} {F : Nat → Nat → Int} {A : Nat → Option Addr} {C : Nat → Nat} {v0 v1 : Value} {fuel : Int} {dead : Bool} (h : Gath w B v k S L F A C) (hd : Dev w b v0 v1 fuel dead) (ho : OnlyAt (some ⟨b, 0, none⟩) w w') : Gath w' B v k S L F A C := by
  refine ⟨⟨h.row.1, ?_⟩, fun i hi => (h.each i hi).onlyDev hd ho, h.apart⟩
  rcases h.row.2 with h2 | ⟨g, cap, cur, hv, hg, hh, r⟩
  · exact Or.inl h2
  · have hne : g ≠ b := by
      have hr : rowIn w g 49 0 (fun _ => undef) := ⟨cur, hh, Nat.zero_le _, fun i hi => absurd hi (Nat.not_lt_zero _)⟩
      exact hr.ne hd (by decide)
    exact Or.inr ⟨g, cap, cur, hv, hg, (ho.block g (fun x e => by injection e with e; subst e; exact fun e => hne e.symm)).trans hh, r⟩

theorem Gath.notDev {w : World} {b B : Nat} {v : Value} {k : Nat} {S : Nat → Int} {L : Nat → Nat} {F : Nat → Nat → Int} {A : Nat → Option Addr} {C : Nat → Nat} {v0 v1 : Value} {fuel : Int} {dead : Bool} (h : Gath w B v k S L F A C) (hd : Dev w b v0 v1 fuel dead) : v.ownBlock ≠ some b := by
  intro e
  rcases h.row.2 with ⟨h2, _⟩ | ⟨g, cap, cur, hv, hg, hh, r⟩
  · rw [h2] at e; simp [Value.ownBlock] at e
  · rw [hv] at e
    simp [Value.ownBlock] at e
    subst e
    have hr : rowIn w g 49 0 (fun _ => undef) := ⟨cur, hh, Nat.zero_le _, fun i hi => absurd hi (Nat.not_lt_zero _)⟩
    exact hr.ne hd (by decide) rfl

theorem owns_shape {w : World} {B : Nat} {e : TypeId} {size : Nat} {v : Value} {n : Nat} {xs : List Value} (h : w.ownsRow B e size v n xs) : ∃ p q, v = .slice p n q := by
  rcases h.2 with ⟨hv, hn⟩ | ⟨g, cap, cur, hv, _⟩
  · subst hn; exact ⟨none, 0, hv⟩
  · exact ⟨_, cap, hv⟩

/-- Rows of bytes that were there are there. -/
def KeepB (w w' : World) : Prop := ∀ g n F, rowIn w g 5 n F → rowIn w' g 5 n F

theorem KeepB.below {w w' : World} (hb : Below w.heap.size w w') : KeepB w w' := fun g n F hr => hr.below hb
theorem KeepB.trans {a b c : World} (h : KeepB a b) (k : KeepB b c) : KeepB a c := fun g n F hr => k g n F (h g n F hr)
theorem KeepB.grown {w w' : World} {B : Nat} {v : Value} {k : Nat} {xs : List Value} (h : w.ownsRow B 49 2 v k xs) (hg : w.grownBy w' v.ownBlock) : KeepB w w' := by
  intro g n F hr
  refine hr.of_block (hg.block g hr.lt (fun e => ?_))
  rcases h.2 with ⟨hv, _⟩ | ⟨g2, cap, cur, hv, _, hh, _⟩
  · rw [hv] at e; simp [Value.ownBlock] at e
  · rw [hv] at e
    simp [Value.ownBlock] at e
    subst e
    have hr2 : rowIn w g 49 0 (fun _ => undef) := ⟨cur, hh, Nat.zero_le _, fun i hi => absurd hi (Nat.not_lt_zero _)⟩
    exact hr.ne hr2 (by decide) rfl
theorem KeepB.dev {w w' : World} {b : Nat} {v0 v1 : Value} {fuel : Int} {dead : Bool} (hd : Dev w b v0 v1 fuel dead) (ho : OnlyAt (some ⟨b, 0, none⟩) w w') : KeepB w w' := fun g n F hr => hr.only (hr.ne hd (by decide)) ho

theorem below_alloc2' (w : World) (o o' : Obj) : Below w.heap.size w ((w.alloc o).alloc o') := (below_alloc _ _).trans ((below_alloc _ _).mono (by simp))

theorem ans_true' {e : Ending} {p : Prop} (h : AnsB e p) (hp : p) : e = .returned (.bool true) := by
  obtain ⟨b, rfl, hb⟩ := h
  rw [hb.2 hp]
theorem ans_false' {e : Ending} {p : Prop} (h : AnsB e p) (hp : ¬ p) : e = .returned (.bool false) := by
  obtain ⟨b, rfl, hb⟩ := h
  cases b with
  | false => rfl
  | true => exact absurd (hb.1 rfl) hp

theorem lt_cell {w : World} {x : Addr} {v : Value} (h : w.cell? x = some v) : x.block < w.heap.size := by
  rcases Nat.lt_or_ge x.block w.heap.size with h' | h'
  · exact h'
  · unfold World.cell? at h
    rw [Array.getElem?_eq_none h'] at h
    cases h

end Go.Proofs.Ytlcamfkgkcjehaa

namespace Go.Proofs.Ytlcamfkgkcjehaa
open Go.RowKit Go.Deep
set_option linter.unusedVariables false
set_option maxRecDepth 100000

/-- What the steps leave in the device. -/
def Left (W : World) (b B n : Nat) (w' : World) (d2 : Nat → Int) (m2 : Nat) (S2 : Nat → Int) (L2 : Nat → Nat) (F2 : Nat → Nat → Int) (fuel2 : Int) (dead2 : Bool) : Prop :=
  ∃ a' c' p' q' A' C', Dev w' b (.slice a' n c') (.slice p' m2 q') fuel2 dead2 ∧ OwnB w' B a' n d2 ∧ Gath w' B (.slice p' m2 q') m2 S2 L2 F2 A' C' ∧ (n ≠ 0 → ∀ i, i < m2 → L2 i ≠ 0 → A' i ≠ a') ∧ Below B W w'

theorem devNew (W : World) (v0 v1 : Value) (fuel : Int) (dead : Bool) : Dev (W.alloc (.cells #[v0, v1, .int .i64 fuel, .bool dead] 75)) W.heap.size v0 v1 fuel dead := by
  refine ⟨_, blk_alloc_new _ _, by simp, fun i hi => ?_⟩
  match i, hi with
  | 0, _ => rfl
  | 1, _ => rfl
  | 2, _ => rfl
  | 3, _ => rfl
end Go.Proofs.Ytlcamfkgkcjehaa

namespace Go.Proofs.Ytlcamfkgkcjehaa
open Go.RowKit Go.Deep
set_option linter.unusedVariables false
set_option maxRecDepth 100000

theorem OnlyAt.next {a : Option Addr} {w w1 w2 : World} (h : OnlyAt a w w1) (k : OnlyAt a w1 w2) : OnlyAt a w w2 :=
  ⟨k.os.trans h.os, k.tape.trans h.tape, k.output.trans h.output, k.size.trans h.size, fun x hx => (k.block x hx).trans (h.block x hx)⟩
theorem Rd.apart {k : IntKind} {w w' : World} {b : Option Addr} {n g : Nat} {f : Nat → Int} (h : Rd k w b n f) (hne : n ≠ 0 → ∀ x, b = some x → x.block ≠ g) (ho : OnlyAt (some ⟨g, 0, none⟩) w w') : Rd k w' b n f := by
  by_cases hz : n = 0
  · exact Or.inl hz
  rcases h with h0 | ⟨bb, o, rfl, hc⟩
  · exact Or.inl h0
  · exact Or.inr ⟨bb, o, rfl, fun i hi => (World.cell?_of_block (a := ⟨bb, o + i, none⟩) (ho.block bb (fun y e => by injection e with e; subst e; exact fun e => hne hz _ rfl e.symm))).trans (hc i hi)⟩

/-- A cursor with its bytes. -/
structure Drw (w : World) (g : Nat) (b : Option Addr) (n c : Nat) (f : Nat → Int) : Prop where
  cur : ∃ (i : Nat) (h : Int), i ≤ n ∧ Cur w g (.slice b n c) i h
  rd : Rd .u8 w b n f
  ne : n ≠ 0 → ∀ x, b = some x → x.block ≠ g
  len : n ≤ 1048576
  range : ∀ j, j < n → 0 ≤ f j ∧ f j < 256

theorem Drw.byte {w : World} {g : Nat} {b : Option Addr} {n c : Nat} {f : Nat → Int} (h : Drw w g b n c f) :
    Calls Try.prog 61 #[.pointer (some ⟨g, 0, none⟩)] w fun e w' => ∃ x, e = .returned (.int .i64 x) ∧ 0 ≤ x ∧ x < 256 ∧ Drw w' g b n c f ∧ OnlyAt (some ⟨g, 0, none⟩) w w' := by
  obtain ⟨⟨i, hh, hi, hc⟩, hrd, hne, hn, hf⟩ := h
  refine (l1Byte_any g b n c i f hh w hc hrd hi hne hn hf).mono ?_
  rintro e w' ⟨x, i', h', rfl, h0, h1, hi', hc', ho⟩
  exact ⟨x, rfl, h0, h1, ⟨⟨i', h', hi', hc'⟩, hrd.apart hne ho, hne, hn, hf⟩, ho⟩

/-- A number below k drawn. -/
def DrawnN (w : World) (e : Ending) (w' : World) (g : Nat) (b : Option Addr) (n c : Nat) (f : Nat → Int) (k : Int) : Prop := ∃ x, e = .returned (.int .i64 x) ∧ 0 ≤ x ∧ x < k ∧ Drw w' g b n c f ∧ OnlyAt (some ⟨g, 0, none⟩) w w'

set_option maxHeartbeats 1000000 in
theorem l1Below_any (g : Nat) (b : Option Addr) (n c : Nat) (f : Nat → Int) (k : Int) (w : World) (h : Drw w g b n c f) (hk : 1 ≤ k) (hk2 : k ≤ 2147483647) :
    Calls Try.prog 36 #[.pointer (some ⟨g, 0, none⟩), .int .i64 k] w fun e w' => DrawnN w e w' g b n c f k := by
  have H : Hid (Drw w g b n c f) := h
  have hk0 : ¬ k = 0 := by omega
  have hk0' : (k == 0) = false := by simp; omega
  clear h
  by_cases hs : k ≤ 256
  · go_enter Try.func36, Try.ntmps36
    go_wp2_with fail
    refine H.out.byte.mono ?_
    rintro e w1 ⟨x, rfl, h0, h1, hd, ho⟩
    have HX : Hid (Drw w1 g b n c f ∧ OnlyAt (some ⟨g, 0, none⟩) w w1) := ⟨hd, ho⟩
    have hm : x.tmod k = x % k := Int.tmod_eq_emod_of_nonneg h0
    have hm0 : 0 ≤ x % k := Int.emod_nonneg x (by omega)
    have hm1 : x % k < k := Int.emod_lt_of_pos x (by omega)
    clear hd ho
    go_wp2
    go_ret
    exact ⟨x % k, rfl, hm0, hm1, HX.out⟩
  · go_enter Try.func36, Try.ntmps36
    go_wp2_with fail
    refine H.out.byte.mono ?_
    rintro e w1 ⟨x, rfl, h0, h1, hd1, ho1⟩
    have H1 : Hid (Drw w1 g b n c f ∧ OnlyAt (some ⟨g, 0, none⟩) w w1) := ⟨hd1, ho1⟩
    clear hd1 ho1
    go_wp2_with fail
    refine H1.out.1.byte.mono ?_
    rintro e w2 ⟨y, rfl, h2, h3, hd2, ho2⟩
    have H2 : Hid (Drw w2 g b n c f ∧ OnlyAt (some ⟨g, 0, none⟩) w w2) := ⟨hd2, H1.out.2.next ho2⟩
    clear hd2 ho2 H1
    go_wp2_with fail
    refine H2.out.1.byte.mono ?_
    rintro e w3 ⟨z, rfl, h4, h5, hd3, ho3⟩
    have H3 : Hid (Drw w3 g b n c f ∧ OnlyAt (some ⟨g, 0, none⟩) w w3) := ⟨hd3, H2.out.2.next ho3⟩
    clear hd3 ho3 H2
    have hs0 : 0 ≤ x * 65536 + y * 256 + z := by omega
    have hm : (x * 65536 + y * 256 + z).tmod k = (x * 65536 + y * 256 + z) % k := Int.tmod_eq_emod_of_nonneg hs0
    have hm0 : 0 ≤ (x * 65536 + y * 256 + z) % k := Int.emod_nonneg _ (by omega)
    have hm1 : (x * 65536 + y * 256 + z) % k < k := Int.emod_lt_of_pos _ (by omega)
    go_wp2
    go_ret
    exact ⟨(x * 65536 + y * 256 + z) % k, rfl, hm0, hm1, H3.out⟩

theorem Cur.new (w : World) (v : Value) (i h : Int) : Cur (w.alloc (.cells #[v, .int .i64 i, .int .i64 h] 73)) w.heap.size v i h :=
  ⟨_, blk_alloc_new _ _, by simp, fun j hj => by
    match j, hj with
    | 0, _ => rfl
    | 1, _ => rfl
    | 2, _ => rfl⟩

theorem Rd.blockLt {k : IntKind} {w : World} {b : Option Addr} {n : Nat} {f : Nat → Int} (h : Rd k w b n f) (hz : n ≠ 0) : ∀ x, b = some x → x.block < w.heap.size := by
  rcases h with h0 | ⟨bb, o, rfl, hc⟩
  · exact absurd h0 hz
  · intro x e
    injection e with e
    subst e
    exact World.block_lt_of_cell? _ _ (hc 0 (by omega))

/-- A cursor made. -/
def NewCur (w : World) (e : Ending) (w' : World) (b : Option Addr) (n c : Nat) (f : Nat → Int) : Prop := ∃ g, e = .returned (.pointer (some ⟨g, 0, none⟩)) ∧ w.heap.size ≤ g ∧ Drw w' g b n c f ∧ Below w.heap.size w w'

set_option maxHeartbeats 1000000 in
theorem l1New_any (b : Option Addr) (n c : Nat) (f : Nat → Int) (w : World) (hrd : Rd .u8 w b n f) (hn : n ≤ 1048576) (hf : ∀ j, j < n → 0 ≤ f j ∧ f j < 256) :
    Calls Try.prog 21 #[.slice b n c] w fun e w' => NewCur w e w' b n c f := by
  have HRD : Hid (Rd .u8 w b n f) := hrd
  have HF : Hid (∀ j, j < n → 0 ≤ f j ∧ f j < 256) := hf
  clear hrd hf
  go_enter Try.func21, Try.ntmps21
  go_wp2
  go_loopw [3, 4] (fun h i wr => ∃ (k : Nat) (y : Int), k ≤ n ∧ i = .int .i64 k ∧ h = .int .i64 y ∧ wr = w) (fun _ i _ => n - (intOf i).toNat)
  case atStart => exact ⟨0, _, Nat.zero_le _, rfl, rfl, rfl⟩
  case round =>
    obtain ⟨k, y, hk, rfl, rfl, rfl⟩ := hrel
    by_cases hlt : k < n
    · rcases HRD.out with h0 | ⟨bb, o, hb, hc⟩
      · omega
      subst hb
      have hcell := hc k hlt
      have hfk := HF.out k hlt
      clear hc
      generalize f k = fk at *
      go_wp2
      go_roundw
      case rel => exact ⟨k + 1, _, by omega, by go_num, rfl, trivial⟩
      case measure => simp [intOf]; omega
    · have e : k = n := by omega
      subst e
      go_wp2
      go_ret
      exact ⟨_, rfl, Nat.le_refl _, ⟨⟨0, _, Nat.zero_le _, Cur.new _ _ _ _⟩, HRD.out.below (below_alloc _ _), fun hz x e => Nat.ne_of_lt (HRD.out.blockLt hz x e), hn, HF.out⟩, below_alloc _ _⟩
end Go.Proofs.Ytlcamfkgkcjehaa

namespace Go.Proofs.Ytlcamfkgkcjehaa
open Go.RowKit Go.Deep
set_option linter.unusedVariables false
set_option maxRecDepth 100000

theorem Drw.below {w w' : World} {g : Nat} {b : Option Addr} {n c : Nat} {f : Nat → Int} (h : Drw w g b n c f) (hb : Below w.heap.size w w') : Drw w' g b n c f := by
  obtain ⟨⟨i, hh, hi, hc⟩, hrd, hne, hn, hf⟩ := h
  exact ⟨⟨i, hh, hi, rowIn.below hc hb⟩, hrd.below hb, hne, hn, hf⟩

/-- Whether 0 was drawn. -/
def DrawnO (w : World) (e : Ending) (w' : World) (g : Nat) (b : Option Addr) (n c : Nat) (f : Nat → Int) : Prop := ∃ x : Bool, e = .returned (.bool x) ∧ Drw w' g b n c f ∧ OnlyAt (some ⟨g, 0, none⟩) w w'

set_option maxHeartbeats 400000 in
theorem l1Once_any (g : Nat) (b : Option Addr) (n c : Nat) (f : Nat → Int) (k : Int) (w : World) (h : Drw w g b n c f) (hk : 1 ≤ k) (hk2 : k ≤ 2147483647) :
    Calls Try.prog 40 #[.pointer (some ⟨g, 0, none⟩), .int .i64 k] w fun e w' => DrawnO w e w' g b n c f := by
  have H : Hid (Drw w g b n c f) := h
  clear h
  go_enter Try.func40, Try.ntmps40
  go_wp2_with fail
  refine (l1Below_any g b n c f k w H.out hk hk2).mono ?_
  rintro e w1 ⟨x, rfl, h0, h1, hd, ho⟩
  have HX : Hid (Drw w1 g b n c f ∧ OnlyAt (some ⟨g, 0, none⟩) w w1) := ⟨hd, ho⟩
  clear hd ho
  go_wp2
  go_ret
  exact ⟨_, rfl, HX.out⟩
end Go.Proofs.Ytlcamfkgkcjehaa

namespace Go.Proofs.Ytlcamfkgkcjehaa
open Go.RowKit Go.Deep
set_option linter.unusedVariables false
set_option maxRecDepth 100000

set_option maxHeartbeats 1000000 in
theorem runSteps_rec (a p : Option Addr) (n c m q : Nat) (d S : Nat → Int) (L : Nat → Nat) (F : Nat → Nat → Int) (fuel : Int) (dead : Bool) (k1 k2 k3 : Value) (w : World) (ha : Rd .u8 w a n d) (hp : RdP w p m S L F) (hn : n ≤ 1048576) (hm : m ≤ 1048576) (hL : ∀ i, i < m → L i ≤ 1048576)
    (d2 : Nat → Int) (m2 : Nat) (S2 : Nat → Int) (L2 : Nat → Nat) (F2 : Nat → Nat → Int) (fuel2 : Int) (dead2 : Bool)
    (hst : ∀ (W : World) (b B : Nat) (a' p' : Option Addr) (c' q' : Nat) (A C), Dev W b (.slice a' n c') (.slice p' m q') fuel dead → OwnB W B a' n d → Gath W B (.slice p' m q') m S L F A C → (n ≠ 0 → ∀ i, i < m → L i ≠ 0 → A i ≠ a') → n ≤ c' → c' ≤ 9223372036854775807 → B ≤ b → w.heap.size + 2 ≤ B → Below w.heap.size w W →
      Calls Try.prog 52 #[.pointer (some ⟨b, 0, none⟩), k1, k2, k3] W fun e w' => Stepped e ∧ Left W b B n w' d2 m2 S2 L2 F2 fuel2 dead2) :
    Calls Try.prog 32 #[.agg #[.slice a n c, .slice p m q, .int .i64 fuel, .bool dead], .func (.func 52) #[] #[k1, k2, k3]] w fun e w' => RetD w e w' n d2 m2 S2 L2 F2 fuel2 dead2 := by
  have HA : Hid (Rd .u8 w a n d) := ha
  have HP : Hid (RdP w p m S L F) := hp
  have HST : Hid (∀ (W : World) (b B : Nat) (a' p' : Option Addr) (c' q' : Nat) (A C), Dev W b (.slice a' n c') (.slice p' m q') fuel dead → OwnB W B a' n d → Gath W B (.slice p' m q') m S L F A C → (n ≠ 0 → ∀ i, i < m → L i ≠ 0 → A i ≠ a') → n ≤ c' → c' ≤ 9223372036854775807 → B ≤ b → w.heap.size + 2 ≤ B → Below w.heap.size w W →
      Calls Try.prog 52 #[.pointer (some ⟨b, 0, none⟩), k1, k2, k3] W fun e w' => Stepped e ∧ Left W b B n w' d2 m2 S2 L2 F2 fuel2 dead2) := hst
  have HLL : Hid (∀ i, i < m → L i ≤ 1048576) := hL
  clear ha hp hst hL
  go_enter Try.func32, Try.ntmps32
  go_wp2_with fail
  refine (copyDisk_gath a p n c m q d S L F fuel dead _ (HA.out.below (below_alloc2' _ _ _)) (HP.out.below (below_alloc2' _ _ _)) hn hm HLL.out).mono ?_
  rintro e w1 ⟨a1, c1, p1, q1, A1, C1, rfl, ho1, hg1, hx1, hb1, hl1, hm1⟩
  have E2 : ∀ O O', ((w.alloc O).alloc O').heap.size = w.heap.size + 2 := fun O O' => by simp
  rw [E2] at ho1 hg1 hb1
  have z1 : w.heap.size + 2 ≤ w1.heap.size := by have := hb1.size; simpa using this
  have B1 : Hid (Below w.heap.size w w1) := (below_alloc2' _ _ _).trans (hb1.mono (by omega))
  have K1 : Hid (Below (w.heap.size + 2) ((w.alloc _).alloc _) w1) := hb1
  have HC : Hid (Calls Try.prog 52 #[.pointer (some ⟨w1.heap.size, 0, none⟩), k1, k2, k3] (w1.alloc (.cells #[.slice a1 n c1, .slice p1 m q1, .int .i64 fuel, .bool dead] 75)) fun e w' => Stepped e ∧ Left (w1.alloc (.cells #[.slice a1 n c1, .slice p1 m q1, .int .i64 fuel, .bool dead] 75)) w1.heap.size (w.heap.size + 2) n w' d2 m2 S2 L2 F2 fuel2 dead2) :=
    HST.out _ _ _ a1 p1 c1 q1 A1 C1 (devNew w1 _ _ _ _) (ho1.below (below_alloc _ _)) (hg1.below (below_alloc _ _)) hx1 hl1 hm1 z1 (Nat.le_refl _) (B1.out.alloc B1.out.size _)
  clear ho1 hg1 hx1 hb1 E2
  go_wp2_with fail
  refine (until_rec w1.heap.size k1 k2 k3 _ (fun w' => Left (w1.alloc (.cells #[.slice a1 n c1, .slice p1 m q1, .int .i64 fuel, .bool dead] 75)) w1.heap.size (w.heap.size + 2) n w' d2 m2 S2 L2 F2 fuel2 dead2) HC.out).mono ?_
  rintro e w3 ⟨rfl, w2, ⟨a2, c2, p2, q2, A2, C2, hd2, ho2, hg2, hx2, hb2⟩, hb3⟩
  have z2 := hb2.size
  rw [alloc_size] at z2
  have D3 := (hd2.below hb3).cells
  obtain ⟨y0, y1, y2, y3, yf, yl⟩ := D3
  have K3 : Below (w.heap.size + 2) ((w.alloc _).alloc _) w3 := ((K1.out.alloc (by simpa using z1) _).trans hb2).trans (hb3.mono (by omega))
  have hc3 : ∀ b o, b < w.heap.size + 2 → w3.cell? ⟨b, o, none⟩ = _ := fun b o hb => K3.cell (p := ⟨b, o, none⟩) hb
  have hf3 : ∀ b o, b < w.heap.size + 2 → w3.frozen? ⟨b, o, none⟩ = _ := fun b o hb => K3.frozen (p := ⟨b, o, none⟩) hb
  obtain ⟨p3, q3, hv3, hp3⟩ := hg2.ownP
  injection hv3 with e1 _ e3
  subst e1 e3
  have HX : Hid (OwnD w3 (w.heap.size + 2) a2 n d2 p2 m2 S2 L2 F2 A2 ∧ Below w.heap.size w w3) :=
    ⟨(OwnD.mk ho2 hp3 hx2).below hb3, ((B1.out.alloc B1.out.size _).trans (hb2.mono (by omega))).trans (hb3.mono (by omega))⟩
  have hz3 : w.heap.size + 1 < w3.heap.size := by have := hb3.size; omega
  clear hd2 ho2 hg2 hx2 hb2 hb3 K3 hp3
  go_wp2
  refine bodyPost_ret (v := .agg #[.slice a2 n c2, .slice p2 m2 q2, .int .i64 fuel2, .bool dead2]) (by simp [results, Try.results32, go_sem, hc3]) rfl ⟨a2, c2, p2, q2, A2, rfl, ?_, ?_⟩
  · exact ((((HX.out.1.setOther (by simp) _).setOther (by simp) _).setOther (by simp) _).setOther (by simp) _).mono (by omega)
  · exact (((HX.out.2.setCell (by simp) _).setCell (by simp) _).setCell (by simp) _).setCell (by simp) _
end Go.Proofs.Ytlcamfkgkcjehaa
