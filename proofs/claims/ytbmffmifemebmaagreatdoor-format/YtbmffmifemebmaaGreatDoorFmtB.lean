import Derived.Test.YtbmffmifemebmaaGreatDoorNz38
import Derived.Test.YtbmffmifemebmaaGreatDoorFmtW
import Derived.WalkKit
import Derived.ProofKit
import Derived.OpenShut
import Derived.ChangeOld
import Derived.Below
import Derived.LaidMore
import Derived.LaidHandle
import Derived.Stop.LaidErr
namespace Go.Proofs.YtbmffmifemebmaaGreatDoor.fnExactFormat
open Go.ChangeShapes Go.WideShapes Go.ChangeAt Go.RowKit
set_option linter.unusedVariables false

theorem own : ownKnob Tryz.prog.godebug = none := by kernel_rfl
theorem gv0 : Tryz.prog.globalNamed "loop.example/s01136/impl.errUnfitDisk" = some 0 := by kernel_rfl
theorem gt0 : (Tryz.prog.globals[0]?).map (·.type) = some 105 := by kernel_rfl
theorem gv1 : Tryz.prog.globalNamed "loop.example/s01136/impl.errNoSuper" = some 1 := by kernel_rfl
theorem gt1 : (Tryz.prog.globals[1]?).map (·.type) = some 105 := by kernel_rfl
theorem gv2 : Tryz.prog.globalNamed "loop.example/s01136/impl.errNoRecord" = some 2 := by kernel_rfl
theorem gt2 : (Tryz.prog.globals[2]?).map (·.type) = some 105 := by kernel_rfl
theorem gv3 : Tryz.prog.globalNamed "loop.example/s01136/impl.errNoSnapshot" = some 3 := by kernel_rfl
theorem gt3 : (Tryz.prog.globals[3]?).map (·.type) = some 105 := by kernel_rfl
theorem gv4 : Tryz.prog.globalNamed "loop.example/s01136/impl.errNoBatch" = some 4 := by kernel_rfl
theorem gt4 : (Tryz.prog.globals[4]?).map (·.type) = some 105 := by kernel_rfl
theorem cells431 : Tryz.prog.cellsOf 431 = 1 := by kernel_rfl
theorem cells9 : Tryz.prog.cellsOf 9 = 1 := by kernel_rfl
theorem star : "*" ++ "errors.errorString" = "*errors.errorString" := by decide
theorem row397 (u : TypeId) (h : Tryz.prog.typeName? 3 u = some "*errors.errorString") : u = 397 :=
  typeName_ptr_named (nm := "errors.errorString") (by rw [star]; kernel_rfl) (by kernel_rfl) (by decide) u (by rw [star]; exact h)

theorem varKept {P : Program} {w w' : World} {n : String} {cs : Array Value} (h : w.var? P n = some cs) (hb : Below w.heap.size w w') : w'.var? P n = some cs := by
  unfold World.var? at h ⊢
  cases hg : P.globalNamed n with
  | none => simp [hg] at h
  | some g =>
    simp only [hg, Option.bind_some] at h ⊢
    have hlt : g < w.heap.size := by
      rcases Nat.lt_or_ge g w.heap.size with h' | h'
      · exact h'
      · simp [Array.getElem?_eq_none h'] at h
    rw [hb.block g hlt]
    exact h

set_option maxRecDepth 100000 in
theorem lifted (os : Go.Os) (started : os.Started) (H : Type) (enc : TypeId × Value → H) :
    ReturnsInHanded {} Tryz.checked os 3 .any (fun w args => (Rows.fnExactFormatSpec.pre enc Tryz.prog Tryz.f3 [] false w args ∧ laidMetH Tryz.prog Rows.fnExactFormatRow.laid w) ∧ sizedMet enc Tryz.prog Tryz.f3 (OpenSpec.ofChange Rows.fnExactFormatSpec) false w args)
      (Rows.fnExactFormatSpec.post enc Tryz.prog Tryz.f3 false true false false) := by
  refine returnsInHanded_of_change_and (C := Tryz.checked) (X := fun w _ => laidMetH Tryz.prog Rows.fnExactFormatRow.laid w) (fun _ _ _ hh h => h.of_heap hh) own started (by kernel_rfl) Tryz.func3
    (ChangeSpec.witness_shaped (enc := enc) (C := Tryz.checked) (os := os) (X := fun w _ => laidMetH Tryz.prog Rows.fnExactFormatRow.laid w) false (World.doorLaid Tryz.prog 400 os) #[.int .i64 0] 8 rfl (World.shaped_of_RefB (by kernel_rfl) (by kernel_rfl)) (by kernel_rfl) (by kernel_rfl) (by kernel_rfl) (door_met os _)) ?_
  intro W base args ds gs before hval0 hW _ _ hL _
  have hval : ∀ (j : Nat) t v, Tryz.f3.params[j]? = some t → args[j]? = some v → Value.okWide Tryz.prog W .any base t v := hval0
  have hW' := hW
  obtain ⟨p, q, hA0, hV0, rfl, hfz, hnd⟩ := hW
  have hA : DataW.TrodAll enc Tryz.prog W 0 (fun _ => true) true Tryz.f3.params.toList args.toList ds p := hA0
  have hV : DataW.TrodVars enc Tryz.prog W (fun _ => true) ["loop.example/s01136/impl.errUnfitDisk", "loop.example/s01136/impl.errNoSuper", "loop.example/s01136/impl.errNoRecord", "loop.example/s01136/impl.errNoSnapshot", "loop.example/s01136/impl.errNoBatch"] gs q := hV0
  rw [Tryz.params3] at hA hval
  obtain ⟨v0, d0, rfl, rfl, h0⟩ := trodAll_one hA
  obtain ⟨a0, rfl, rfl, rfl, w0⟩ := open_int Tryz.underlying2 (hval 0 2 v0 rfl rfl) h0
  have l : laidMet Tryz.prog Rows.fnExactFormatRow.laid W := by
    have h := hL
    rw [MakeChecks.laidMetH_plain _ _ _ (by kernel_rfl)] at h
    exact h
  obtain ⟨b0, _, hv0, -, -, -⟩ := laid_sentinel (l.tail.tail.tail) gv0 gt0 Tryz.underlying105 row397 Tryz.underlying397 Tryz.underlying431 rfl rfl Tryz.underlying9 cells431 cells9
  obtain ⟨b1, _, hv1, -, -, -⟩ := laid_sentinel (l.tail.tail.tail.tail) gv1 gt1 Tryz.underlying105 row397 Tryz.underlying397 Tryz.underlying431 rfl rfl Tryz.underlying9 cells431 cells9
  obtain ⟨b2, _, hv2, -, -, -⟩ := laid_sentinel (l.tail.tail.tail.tail.tail) gv2 gt2 Tryz.underlying105 row397 Tryz.underlying397 Tryz.underlying431 rfl rfl Tryz.underlying9 cells431 cells9
  obtain ⟨b3, _, hv3, -, -, -⟩ := laid_sentinel (l.tail.tail.tail.tail.tail.tail) gv3 gt3 Tryz.underlying105 row397 Tryz.underlying397 Tryz.underlying431 rfl rfl Tryz.underlying9 cells431 cells9
  obtain ⟨b4, _, hv4, -, -, -⟩ := laid_sentinel (l.tail.tail.tail.tail.tail.tail.tail) gv4 gt4 Tryz.underlying105 row397 Tryz.underlying397 Tryz.underlying431 rfl rfl Tryz.underlying9 cells431 cells9
  have vr : ∀ {X : World} (x0 : X.var? Tryz.prog "loop.example/s01136/impl.errUnfitDisk" = some #[.iface 397 (.pointer (some b0))]) (x1 : X.var? Tryz.prog "loop.example/s01136/impl.errNoSuper" = some #[.iface 397 (.pointer (some b1))]) (x2 : X.var? Tryz.prog "loop.example/s01136/impl.errNoRecord" = some #[.iface 397 (.pointer (some b2))]) (x3 : X.var? Tryz.prog "loop.example/s01136/impl.errNoSnapshot" = some #[.iface 397 (.pointer (some b3))]) (x4 : X.var? Tryz.prog "loop.example/s01136/impl.errNoBatch" = some #[.iface 397 (.pointer (some b4))]) (sp : Nat → Bool), DataW.TrodVars enc Tryz.prog X sp ["loop.example/s01136/impl.errUnfitDisk", "loop.example/s01136/impl.errNoSuper", "loop.example/s01136/impl.errNoRecord", "loop.example/s01136/impl.errNoSnapshot", "loop.example/s01136/impl.errNoBatch"] [tok enc (.iface 397 (.pointer (some b0))), tok enc (.iface 397 (.pointer (some b1))), tok enc (.iface 397 (.pointer (some b2))), tok enc (.iface 397 (.pointer (some b3))), tok enc (.iface 397 (.pointer (some b4)))] [.cell 0 0, .cell 1 0, .cell 2 0, .cell 3 0, .cell 4 0] := by
    intro X x0 x1 x2 x3 x4 sp
    exact ⟨0, 105, #[.iface 397 (.pointer (some b0))], 1, [], [.cell 1 0, .cell 2 0, .cell 3 0, .cell 4 0], gv0, gt0, x0, trod_held Tryz.underlying105 (v := .iface 397 (.pointer (some b0))) trivial 0, ⟨1, 105, #[.iface 397 (.pointer (some b1))], 1, [], [.cell 2 0, .cell 3 0, .cell 4 0], gv1, gt1, x1, trod_held Tryz.underlying105 (v := .iface 397 (.pointer (some b1))) trivial 0, ⟨2, 105, #[.iface 397 (.pointer (some b2))], 1, [], [.cell 3 0, .cell 4 0], gv2, gt2, x2, trod_held Tryz.underlying105 (v := .iface 397 (.pointer (some b2))) trivial 0, ⟨3, 105, #[.iface 397 (.pointer (some b3))], 1, [], [.cell 4 0], gv3, gt3, x3, trod_held Tryz.underlying105 (v := .iface 397 (.pointer (some b3))) trivial 0, ⟨4, 105, #[.iface 397 (.pointer (some b4))], 1, [], [], gv4, gt4, x4, trod_held Tryz.underlying105 (v := .iface 397 (.pointer (some b4))) trivial 0, rfl, rfl⟩, rfl⟩, rfl⟩, rfl⟩, rfl⟩
  obtain ⟨rfl, rfl⟩ := hV.unique (vr hv0 hv1 hv2 hv3 hv4 _)
  clear hA0 hV0 hval0
  have hg0 : W.cell? ⟨0, 0, none⟩ = some (.iface 397 (.pointer (some b0))) := by simpa using World.var?_cell gv0 hv0 0
  refine (fmt_all a0 b0 W hg0).mono fun e W' ⟨he, bel⟩ => ?_
  subst he
  exact ⟨_, rfl, _, _, _, [], _, [.cell 0 0, .cell 1 0, .cell 2 0, .cell 3 0, .cell 4 0], hW', trodAll_mk1 (shut_bool Tryz.underlying4 _), trodAll_mk1 (shut_int Tryz.underlying2 w0), vr (varKept hv0 bel) (varKept hv1 bel) (varKept hv2 bel) (varKept hv3 bel) (varKept hv4 bel) _, bel.frame _, fun h => by cases h⟩
end Go.Proofs.YtbmffmifemebmaaGreatDoor.fnExactFormat
