import Derived.Test.YtocmbnocdjnfpaaNg1
import Derived.Maps.OwnSet
import Derived.Maps.RangeWalk
import Derived.Maps.Ext
import Derived.Deep.QuietTactic
import Derived.BigQuiet
import Derived.Test.YtocmbnocdjnfpaaNgd
namespace Go.Proofs.Ytocmbnocdjnfpaa
open Go.RowKit Go.Deep Go.Maps
set_option linter.unusedVariables false
set_option maxRecDepth 100000

theorem undStr : Try.prog.underlying 9 = some .string := by kernel_rfl
theorem undSet : Try.prog.underlying 102 = some (.map 9 109) := by kernel_rfl
theorem strK : Keyed Try.prog 9 := string_keyed undStr
theorem zeroU (w : World) : (zeroValue 109).run Try.prog w = .ok (.agg #[]) w := by kernel_rfl
/-- A text's key. -/
def kS (x : ByteArray) : Lit := .string x.data.toList
theorem kS_inj {x y : ByteArray} (h : kS x = kS y) : x = y := by
  unfold kS at h
  injection h with h
  obtain ⟨⟨x⟩⟩ := x
  obtain ⟨⟨y⟩⟩ := y
  simp at h
  rw [h]
theorem kS_key {x : ByteArray} (h : x.size ≤ maxLen) : keyOf Try.prog 9 (.string x) = some (kS x) := Go.WideMaps.keyOf_string_mk undStr h
theorem kS_lit (x : ByteArray) : WideAt.IsKeyLit (kS x) := by unfold kS; trivial
/-- Block B is a set whose members are just the texts of which P holds; there are at most N. -/
def SSet (w : World) (B N : Nat) (P : ByteArray → Prop) : Prop := ∃ D : DataW Unit, w.ownsMap Try.prog 9 unitElem B N D ∧ ∀ x : ByteArray, Maps.has D (kS x) = true ↔ P x
theorem SSet.lt {w : World} {B N : Nat} {P : ByteArray → Prop} (h : SSet w B N P) : B < w.heap.size := by
  obtain ⟨D, h, _⟩ := h
  exact h.lt
theorem SSet.kept {w w' : World} {B N : Nat} {P : ByteArray → Prop} {row : Option Nat} (h : SSet w B N P) (hg : w.grownBy w' row) (hne : some B ≠ row) : SSet w' B N P := by
  obtain ⟨D, h, q⟩ := h
  exact ⟨D, h.kept hg hne, q⟩
theorem SSet.below {w w' : World} {B N : Nat} {P : ByteArray → Prop} (h : SSet w B N P) (hb : Below w.heap.size w w') : SSet w' B N P :=
  h.kept (row := none) ⟨hb.os, hb.tape, hb.output, hb.size, fun k hk _ => hb.block k hk⟩ (by simp)
theorem SSet.congr {w : World} {B N N' : Nat} {P P' : ByteArray → Prop} (h : SSet w B N P) (e : ∀ x, P x ↔ P' x) (hN : N ≤ N') : SSet w B N' P' := by
  obtain ⟨D, h, q⟩ := h
  exact ⟨D, h.mono hN, fun x => (q x).trans (e x)⟩
theorem sset_new (w : World) (P : ByteArray → Prop) (h : ∀ x, ¬ P x) : SSet (w.alloc (.map #[] 0)) w.heap.size 0 P :=
  ⟨.map [], World.ownsMap_made _ _ _ _, fun x => ⟨(fun q => by cases q), fun q => absurd q (h x)⟩⟩
theorem has_put (D : DataW Unit) (hD : IsMap D) (x y : ByteArray) (d : DataW Unit) : Maps.has (D.put (kS x) d) (kS y) = true ↔ Maps.has D (kS y) = true ∨ y = x := by
  by_cases e : y = x
  · subst e
    exact ⟨fun _ => .inr rfl, fun _ => Maps.has_put_same hD (kS_lit y) d⟩
  · rw [Maps.has_put_other (fun q => e (kS_inj q)) d]
    exact ⟨fun q => .inl q, fun q => q.resolve_right e⟩
set_option maxHeartbeats 1000000 in
theorem add_any (B N : Nat) (P : ByteArray → Prop) (x : ByteArray) (w : World) (h : SSet w B N P) (hN : N ≤ 1048576) (hx : x.size ≤ maxLen) :
    Calls Try.prog 136 #[.map (some B), .string x] w fun e w' => e = .returned (.tuple #[]) ∧ SSet w' B (N + 1) (fun y => P y ∨ y = x) ∧ w.grownBy w' (some B) := by
  obtain ⟨D, hown, hP⟩ := h
  go_enter Try.func136, Try.ntmps136
  go_wp2_with (first
    | (at_mapUpdate; refine wpList_mapUpdate_own _ rfl _ _ _ 102 rfl 9 109 strK undSet unitElem B N D rfl hown (by unfold maxLen; omega) _ _ (kS x) rfl rfl (kS_key hx) _ [] unitElem_mk ?_; intro w1 hown1 hg1)
    | go_in)
  have HF : Hid (SSet w1 B (N + 1) (fun y => P y ∨ y = x) ∧ w.grownBy w1 (some B)) := ⟨⟨_, hown1, fun y => by rw [has_put D hown.isMap x y, hP]⟩, hg1⟩
  clear hown1 hg1
  go_wp2
  go_end0
  exact ⟨rfl, HF.out⟩
set_option maxHeartbeats 1000000 in
theorem has_any (B N : Nat) (P : ByteArray → Prop) (x : ByteArray) (w : World) (h : SSet w B N P) (hx : x.size ≤ maxLen) :
    Calls Try.prog 139 #[.map (some B), .string x] w fun e w' => ∃ b : Bool, e = .returned (.bool b) ∧ (b = true ↔ P x) ∧ Below w.heap.size w w' := by
  obtain ⟨D, hown, hP⟩ := h
  go_enter Try.func139, Try.ntmps139
  go_wp2_with (first
    | (at_lookup; refine wpList_lookup_own_unit _ rfl _ _ 102 rfl 9 109 strK undSet (zeroU _) B N D rfl hown _ _ rfl (kS_key hx) ?_)
    | go_in)
  go_ret
  exact ⟨Maps.has D (kS x), rfl, hP x, below_alloc _ _⟩
set_option maxHeartbeats 1000000 in
theorem counts_any (bd : Bool) (g : ByteArray) (f : Fc) (w : World) :
    Calls Try.prog 135 #[.agg #[.bool bd, .string g], .agg #[.string f.s, .string f.p, .string f.o, .string f.g]] w fun e w' => e = .returned (.bool (cntB bd g f)) ∧ Below w.heap.size w w' := by
  have HB : Hid (∀ o1 o2, Below w.heap.size w ((w.alloc o1).alloc o2)) := fun o1 o2 => (below_alloc _ _).alloc (by simp) _
  cases bd with
  | false =>
    go_enter Try.func135, Try.ntmps135
    go_wp2
    go_ret
    exact ⟨by simp [cntB], HB.out _ _⟩
  | true =>
    cases hq : (f.g.toList == g.toList) with
    | false =>
      go_enter Try.func135, Try.ntmps135
      go_wp2
      go_ret
      exact ⟨by simp [cntB, hq], HB.out _ _⟩
    | true =>
      go_enter Try.func135, Try.ntmps135
      go_wp2
      go_ret
      exact ⟨by simp [cntB, hq], HB.out _ _⟩
end Go.Proofs.Ytocmbnocdjnfpaa

namespace Go.Proofs.Ytocmbnocdjnfpaa
open Go.RowKit Go.Deep Go.Maps
set_option linter.unusedVariables false
set_option maxRecDepth 100000

theorem SSet.cell {w w' : World} {B N : Nat} {P : ByteArray → Prop} (h : SSet w B N P) (hg : w.grownBy w' (some B)) {b o : Nat} {v : Value} (hc : w.cell? ⟨b, o, none⟩ = some v) : w'.cell? ⟨b, o, none⟩ = some v := by
  obtain ⟨D, ⟨es, clock, hb, _⟩, _⟩ := h
  have hne : b ≠ B := by
    rintro rfl
    simp [World.cell?, hb] at hc
  rw [World.cell?_of_block (a := ⟨b, o, none⟩) (hg.block b (World.block_lt_of_cell? _ _ hc) (fun e => hne (by injection e)))]
  exact hc
theorem SSet.rdF {w w' : World} {B N : Nat} {P : ByteArray → Prop} (h : SSet w B N P) (hg : w.grownBy w' (some B)) {a : Option Addr} {fs : List Fc} (hr : RdF w a fs) : RdF w' a fs := by
  rcases hr with q | ⟨b, o, rfl, hc⟩
  · exact .inl q
  · exact .inr ⟨b, o, rfl, fun i x hx => ⟨h.cell hg (hc i x hx).1, h.cell hg (hc i x hx).2.1, h.cell hg (hc i x hx).2.2.1, h.cell hg (hc i x hx).2.2.2⟩⟩
theorem gr_refl (B : Nat) (w : World) : w.grownBy w (some B) := ⟨rfl, rfl, rfl, Nat.le_refl _, fun _ _ _ => rfl⟩
theorem gr_trans {B : Nat} {w w1 w2 : World} (h : w.grownBy w1 (some B)) (k : w1.grownBy w2 (some B)) : w.grownBy w2 (some B) := h.andThen k (fun j e => .inr e)
theorem gr_below {B : Nat} {w w1 w2 : World} (h : w.grownBy w1 (some B)) (hb : Below w1.heap.size w1 w2) : w.grownBy w2 (some B) :=
  h.andThen (row' := none) ⟨hb.os, hb.tape, hb.output, hb.size, fun k hk _ => hb.block k hk⟩ (fun j e => by cases e)
theorem below_gr {B b : Nat} {w w1 w2 : World} (h : Below b w w1) (hb : b ≤ w1.heap.size) (hg : w1.grownBy w2 (some B)) (hB : b ≤ B) : Below b w w2 := h.grown hg hb (fun k e => by injection e with e; omega)
/-- Facts whose texts can be keys. -/
def FcOk (fs : List Fc) : Prop := ∀ f, f ∈ fs → f.s.size ≤ maxLen ∧ f.o.size ≤ maxLen
/-- A new set handed back. -/
def RetS (w : World) (N : Nat) (P : ByteArray → Prop) (e : Ending) (w' : World) : Prop := ∃ B, e = .returned (.map (some B)) ∧ w.heap.size ≤ B ∧ SSet w' B N P ∧ Below w.heap.size w w'
theorem take_filter {fs : List Fc} {j : Nat} {f : Fc} (p : Fc → Bool) (hf : fs[j]? = some f) : (fs.take (j + 1)).filter p = (fs.take j).filter p ++ (if p f = true then [f] else []) := by
  rw [List.take_add_one, hf, List.filter_append]
  cases h : p f <;> simp [h]
end Go.Proofs.Ytocmbnocdjnfpaa
