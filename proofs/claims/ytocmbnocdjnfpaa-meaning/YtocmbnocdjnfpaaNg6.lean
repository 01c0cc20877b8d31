import Derived.Test.YtocmbnocdjnfpaaNg5
import Derived.Test.YtocmbnocdjnfpaaPpB
import Derived.Shelf.SlMaps.Clone
import Derived.Laws.Externs
import Derived.MapKept
import Derived.Test.YtocmbnocdjnfpaaNg4
import Derived.Test.YtocmbnocdjnfpaaNg7
import Derived.Test.YtocmbnocdjnfpaaPpN0
import Derived.Test.YtocmbnocdjnfpaaOwn
namespace Go.Proofs.Ytocmbnocdjnfpaa
open Go.RowKit Go.Deep Go.Maps
set_option linter.unusedVariables false
set_option maxRecDepth 100000
set_option linter.unusedSimpArgs false

/-- Who stands in a list each once stands in it at most as often as it is long. -/
theorem pigeonL {α : Type} : ∀ (l l' : List α), l.Nodup → (∀ x, x ∈ l → x ∈ l') → l.length ≤ l'.length
  | [], l', _, _ => Nat.zero_le _
  | a :: t, l', hd, hs => by
    obtain ⟨s1, s2, e⟩ := List.append_of_mem (hs a (by simp))
    subst e
    have hd' := List.nodup_cons.1 hd
    have hs' : ∀ y, y ∈ t → y ∈ s1 ++ s2 := fun y hy => by
      have q := hs y (List.mem_cons_of_mem _ hy)
      simp only [List.mem_append, List.mem_cons] at q ⊢
      rcases q with q | q | q
      · exact .inl q
      · subst q; exact absurd hy hd'.1
      · exact .inr q
    have ih := pigeonL t (s1 ++ s2) hd'.2 hs'
    simp at ih ⊢
    omega
/-- A set whose members are among L has at most as many. -/
theorem SSet.fit {w : World} {B N : Nat} {P : ByteArray → Prop} (h : SSet w B N P) (L : List ByteArray) (hL : ∀ x, P x → x ∈ L) : SSet w B L.length P := by
  obtain ⟨D, ⟨es, clock, hb, F, hs, hD⟩, hP⟩ := h
  refine ⟨D, ⟨es, clock, hb, F, ?_, hD⟩, hP⟩
  have hap := fit_apart strK F
  have hnd : ((es.toList.map (WideElems.rg (H := Unit) Try.prog 9 unitElem)).map (fun p => p.1)).Nodup := by
    unfold List.Nodup
    rw [List.pairwise_map]
    exact hap
  have := pigeonL _ (L.map kS) hnd (fun k hk => by
    obtain ⟨p, hp, rfl⟩ := List.mem_map.1 hk
    obtain ⟨x, hx, rfl⟩ := List.mem_map.1 hp
    obtain ⟨y, hy⟩ := F.reads x hx
    have hkey := WideElems.rd_key hy
    obtain ⟨z, hz⟩ := key_inv hkey
    rw [hz] at hkey
    have e := (key_str hkey).1
    have e2 : (WideElems.rg (H := Unit) Try.prog 9 unitElem x).1 = kS z := by rw [WideElems.rg_of hy, e]
    have hh : Maps.has D (kS z) = true := by
      rw [hD, Maps.has_eq, List.any_eq_true]
      refine ⟨WideElems.rg (H := Unit) Try.prog 9 unitElem x, ((WideShapes.sorted_perm _).mem_iff).2 (List.mem_map.2 ⟨x, hx, rfl⟩), ?_⟩
      rw [e2, kS_same]
    rw [e2]
    exact List.mem_map.2 ⟨z, hL z ((hP z).1 hh), rfl⟩)
  simpa using this
theorem infoM : (Try.prog.info? 102).map (fun i => (i.zero, i.size, i.bytes)) = some (some (.map none), 1, 8) := by kernel_rfl
def picksM (Y : Nat → Option Nat) (F : Nat → Nat) (q : Nat) : List Value := (List.range q).map (fun j => Value.map (Y (F j)))
theorem picksM_succ (Y : Nat → Option Nat) (F : Nat → Nat) (q : Nat) : picksM Y F (q + 1) = picksM Y F q ++ [.map (Y (F q))] := by unfold picksM; rw [List.range_succ, List.map_append]; rfl
set_option maxHeartbeats 1000000 in
theorem pickM_any (gt n ct : Nat) (Y : Nat → Option Nat) (aa : Option Addr) (q ca : Nat) (F : Nat → Nat) (w : World) (h1 : ∀ i, i < n → w.cell? ⟨gt, i, none⟩ = some (.map (Y i))) (h2 : Rd .i64 w aa q (fun j => (F j : Int))) (hF : ∀ j, j < q → F j < n) (hq : q ≤ 1000) (hn : n ≤ 1000) :
    Calls Try.prog 64 #[.slice (some ⟨gt, 0, none⟩) n ct, .slice aa q ca] w fun e w' => ∃ v, e = .returned v ∧ w'.ownsRow w.heap.size 102 1 v q (picksM Y F q) ∧ Below w.heap.size w w' := by
  have HR : Hid ((∀ i, i < n → w.cell? ⟨gt, i, none⟩ = some (.map (Y i))) ∧ Rd .i64 w aa q (fun j => (F j : Int)) ∧ ∀ j, j < q → F j < n) := ⟨h1, h2, hF⟩
  clear h1 h2 hF
  obtain ⟨i0, hi, hz0, hz1, hz2⟩ := info_parts infoM
  have HI : Hid (Try.prog.info? 102 = some i0 ∧ i0.zero = some (.map none) ∧ i0.size = 1 ∧ i0.bytes = 8) := ⟨hi, hz0, hz1, hz2⟩
  clear hi hz0 hz1 hz2
  go_enter Try.func64, Try.ntmps64
  go_wp2
  go_loopw [5, 7, 10] (fun u _ i wr => ∃ k : Nat, k ≤ q ∧ i = .int .i64 k ∧ wr.ownsRow w.heap.size 102 1 u k (picksM Y F k) ∧ Below w.heap.size w wr) (fun _ _ i _ => q - (intOf i).toNat)
  case atStart => exact ⟨0, Nat.zero_le _, rfl, ⟨rfl, .inl ⟨rfl, rfl⟩⟩, Below.refl _ _⟩
  case round =>
    obtain ⟨k, hk, rfl, hown, hbr⟩ := hrel
    have HO : Hid (wr.ownsRow w.heap.size 102 1 u5 k (picksM Y F k) ∧ Below w.heap.size w wr) := ⟨hown, hbr⟩
    have hsz := hbr.size
    clear hown hbr
    by_cases hlt : k < q
    · rcases HR.out.2.1 with h0 | ⟨ba, oa, ea, hca⟩
      · omega
      subst ea
      have c1 : wr.cell? ⟨ba, oa + k, none⟩ = some (.int .i64 (F k : Int)) := (HO.out.2.cell (World.block_lt_of_cell? _ _ (hca k hlt))).trans (hca k hlt)
      have hFk := HR.out.2.2 k hlt
      have c2 : wr.cell? ⟨gt, F k, none⟩ = some (.map (Y (F k))) := (HO.out.2.cell (World.block_lt_of_cell? _ _ (HR.out.1 _ hFk))).trans (HR.out.1 _ hFk)
      obtain ⟨fk, hfk⟩ : ∃ fk, fk = F k := ⟨_, rfl⟩
      rw [← hfk] at c1 c2 hFk
      have HF2 : Hid (fk = F k) := hfk
      clear hca hfk
      have k0 : (0 : Int) ≤ (k : Int) := by omega
      have k1 : (k : Int) < (q : Int) := by omega
      have f0 : (0 : Int) ≤ (fk : Int) := by omega
      have f1 : (fk : Int) < (n : Int) := by omega
      go_wp2_with (at_builtin; refine wpList_append_own _ rfl _ _ 100 rfl w.heap.size 102 i0 (.map none) 1 8 (by kernel_rfl) HI.out.1 HI.out.2.1 HI.out.2.2.1 HI.out.2.2.2 rfl (by decide) u5 k (picksM Y F k) rfl (HO.out.1.alloc _) ⟨wr.heap.size, 0, none⟩ 1 1 [.map (Y fk)] rfl rfl (new_cells _ [.map (Y fk)] _) (fun u hu => by simp at hu; subst hu; rfl) (by unfold maxLen; omega) (by omega) (by simp; omega) ?_)
      intro v' w1 ho hg _
      have HX : Hid (w1.ownsRow w.heap.size 102 1 v' (k + 1) (picksM Y F (k + 1)) ∧ Below w.heap.size w w1) := by
        rw [picksM_succ, ← HF2.out]
        exact ⟨ho, (HO.out.2.alloc hsz _).grown hg (by simp; omega) (fun b e => (HO.out.1.lt b e).1)⟩
      clear ho hg HO c1 c2
      go_wp2
      go_roundw
      case rel => exact ⟨k + 1, by omega, by go_num, HX.out⟩
      case measure => simp [intOf]; omega
    · have e : k = q := by omega
      subst e
      have l1 : ¬ (k : Int) < (k : Int) := by omega
      go_wp2
      go_ret
      exact ⟨_, rfl, HO.out⟩
set_option maxHeartbeats 400000 in
theorem lastM_any (gt n ct : Nat) (y : Option Nat) (w : World) (h : w.cell? ⟨gt, n, none⟩ = some (.map y)) (hn : n ≤ 1000) : Calls Try.prog 67 #[.slice (some ⟨gt, 0, none⟩) (n + 1) ct] w fun e w' => e = .returned (.map y) ∧ w' = w := by
  have hw : IntKind.i64.wrap (((n + 1 : Nat) : Int) - 1) = (n : Int) := by rw [IntKind.wrap_i64]; omega
  have hw2 : IntKind.i64.wrap ((n : Int) + 1 - 1) = (n : Int) := by rw [IntKind.wrap_i64]; omega
  go_enter Try.func67, Try.ntmps67
  go_wp2
  go_ret
  exact ⟨rfl, rfl⟩
end Go.Proofs.Ytocmbnocdjnfpaa

namespace Go.Proofs.Ytocmbnocdjnfpaa
open Go.RowKit Go.Deep Go.Maps
set_option linter.unusedVariables false
set_option maxRecDepth 100000
set_option linter.unusedSimpArgs false

set_option maxHeartbeats 2000000 in
theorem clone_any (B N : Nat) (P : ByteArray → Prop) (w : World) (h : SSet w B N P) :
    Calls Try.prog 137 #[.map (some B)] w fun e w' => e = .returned (.map (some w.heap.size)) ∧ SSet w' w.heap.size N P ∧ Below w.heap.size w w' := by
  obtain ⟨D, ⟨es, clock, hb, F, hs, hD⟩, hP⟩ := h
  have hq := fun W => run_eql_map_nil_sl (P := Try.prog) W 102 _ _ (some B) undSet
  have HF : Hid (SSet (w.alloc (.map es clock)) w.heap.size N P ∧ Below w.heap.size w (w.alloc (.map es clock))) := ⟨⟨D, ⟨es, clock, blk_alloc_new _ _, F, hs, hD⟩, hP⟩, below_alloc _ _⟩
  go_enter Try.func137, Try.ntmps137
  go_wp2
  rw [run_callFunc_extern Try.func152 (by kernel_rfl) (by kernel_rfl) (by kernel_rfl) (e := Extern.MapsClone.clone) (by kernel_rfl), run_maps_clone_sl w 102 hb]
  simp only [Result.andThen]
  rw [Oper.upon_value]
  go_wp2
  rw [run_typeAssert_map_sl _ 102 _ _ _ _ undSet]
  simp only [Result.andThen]
  rw [Oper.upon_value]
  go_wp2
  go_ret
  exact ⟨rfl, HF.out⟩
set_option maxHeartbeats 2000000 in
theorem copy_any (Bd Nd Bs Ns : Nat) (P A : ByteArray → Prop) (w : World) (hd : SSet w Bd Nd P) (ha : SSet w Bs Ns A) (hne : Bd ≠ Bs) (hN : Nd + Ns ≤ 1048576) :
    Calls Try.prog 138 #[.map (some Bd), .map (some Bs)] w fun e w' => e = .returned (.tuple #[]) ∧ SSet w' Bd (Nd + Ns) (fun x => P x ∨ A x) ∧ w.grownBy w' (some Bd) := by
  have hBd := hd.lt
  have hBs := ha.lt
  obtain ⟨DA, hDA, hA⟩ := ha
  have HA : Hid (∀ x, Maps.has DA (kS x) = true ↔ A x) := hA
  have HD : Hid (SSet w Bd Nd P) := hd
  have hsz := hDA.size_le
  clear hA hd
  go_enter Try.func138, Try.ntmps138
  go_wp2_with (first
    | (at_range; refine wpList_range_own _ rfl _ 102 rfl 9 109 strK undSet unitElem Bs Ns DA rfl hDA ?_; intro w0 hrg0 hg0 hs0)
    | go_in)
  go_frame
  have H0 : Hid (w0.ranges Try.prog 9 unitElem Bs w.heap.size Ns DA (Maps.has DA) (Maps.size DA) ∧ SSet w0 Bd (Nd + (Ns - Maps.size DA)) (fun z0 => P z0 ∨ (A z0 ∧ Maps.has DA (kS z0) = false)) ∧ w.grownBy w0 (some Bd)) :=
    ⟨hrg0, (HD.out.kept hg0 (by simp)).congr (fun x => ⟨.inl, fun q => q.elim id (fun q => by have := (HA.out x).2 q.1; rw [q.2] at this; cases this)⟩) (by omega), hg0.but _⟩
  clear hrg0 hg0
  go_loopw [4] (fun _ wr => ∃ (left : Lit → Bool) (cnt : Nat), cnt ≤ Ns ∧ wr.ranges Try.prog 9 unitElem Bs w.heap.size Ns DA left cnt ∧ SSet wr Bd (Nd + (Ns - cnt)) (fun z0 => P z0 ∨ (A z0 ∧ left (kS z0) = false)) ∧ w.grownBy wr (some Bd)) (fun _ wr => wr.rangeLeft Bs w.heap.size)
  case atStart => exact ⟨_, _, hsz, H0.out⟩
  case round =>
    obtain ⟨left, cnt, hcn, hrg, hs, hbl⟩ := hrel
    have HI : Hid (wr.ranges Try.prog 9 unitElem Bs w.heap.size Ns DA left cnt ∧ SSet wr Bd (Nd + (Ns - cnt)) (fun z0 => P z0 ∨ (A z0 ∧ left (kS z0) = false)) ∧ w.grownBy wr (some Bd)) := ⟨hrg, hs, hbl⟩
    clear hrg hs hbl H0
    go_wp2_with (first
      | (at_next; refine wpList_next_ranges _ rfl _ rfl 9 strK unitElem Value.string (fun _ : Unit => .agg #[]) (fun _ _ h => key_inv h) (fun _ _ h => unit_inv h) Bs w.heap.size Ns DA _ _ rfl HI.out.1 ?_ ?_)
      | go_in)
    · intro hc0 hl0
      have HF : Hid (SSet wr Bd (Nd + Ns) (fun x => P x ∨ A x) ∧ w.grownBy wr (some Bd)) := by
        refine ⟨HI.out.2.1.congr (fun x => ?_) (by omega), HI.out.2.2⟩
        rw [hl0]
        simp
      clear HI hc0 hl0
      go_wp2
      go_end0
      exact ⟨rfl, HF.out⟩
    · intro x _ kl y w1 cnt1 hkey hlk hv hat hrg1 hlt hg1 hs1 hen
      obtain ⟨rfl, hxs⟩ := key_str hkey
      have hAx : A x := (HA.out x).1 (has_true_of_atKey hat)
      have HCL : Hid (wr.rangeLeft Bs w.heap.size = cnt) := HI.out.1.left_eq
      have hzr := HI.out.2.2.size
      have HH : Hid (w1.ranges Try.prog 9 unitElem Bs w.heap.size Ns DA (fun z => left z && !z.sameKey (kS x)) cnt1 ∧ SSet w1 Bd (Nd + (Ns - cnt)) (fun z0 => P z0 ∨ (A z0 ∧ left (kS z0) = false)) ∧ w.grownBy w1 (some Bd)) :=
        ⟨hrg1, HI.out.2.1.kept hg1 (fun e => by injection e with e; omega), HI.out.2.2.andThen hg1 (fun j e => .inl (by injection e with e; omega))⟩
      have HAx : Hid (A x) := hAx
      clear hlk hat hrg1 hg1 HI hAx
      obtain ⟨D1, hown1, hP1⟩ := (HH.out.2.1.below (below_alloc w1 (.cells #[] 109)))
      go_wp2_with (first
        | (at_mapUpdate; refine wpList_mapUpdate_own _ rfl _ _ _ 102 rfl 9 109 strK undSet unitElem Bd _ D1 rfl hown1 (by unfold maxLen; omega) _ _ (kS x) rfl rfl (kS_key hxs) _ [] unitElem_mk ?_; intro w2 hown2 hg2; go_frame)
        | go_in)
      have HX : Hid (w2.ranges Try.prog 9 unitElem Bs w.heap.size Ns DA (fun z => left z && !z.sameKey (kS x)) cnt1 ∧ SSet w2 Bd (Nd + (Ns - cnt1)) (fun z0 => P z0 ∨ (A z0 ∧ (fun z => left z && !z.sameKey (kS x)) (kS z0) = false)) ∧ w.grownBy w2 (some Bd)) := by
        refine ⟨(HH.out.1.alloc _).kept hg2 (fun e => by injection e with e; omega) (fun e => by injection e with e; omega), (SSet.congr (N := Nd + (Ns - cnt) + 1) ⟨_, hown2, fun y => by rw [has_put D1 hown1.isMap x y, hP1]⟩ (fun y => ?_) (by omega)), gr_trans (gr_below HH.out.2.2 (below_alloc _ _)) hg2⟩
        show _ ↔ P y ∨ A y ∧ (left (kS y) && !(kS y).sameKey (kS x)) = false
        rw [left_step]
        have ha := HAx.out
        by_cases e : y = x
        · subst e
          simp [ha]
        · simp [e]
      clear hown2 hg2 hown1 hP1 HH
      go_roundw
      case rel => exact ⟨_, cnt1, by omega, HX.out⟩
      case measure => rw [HX.out.1.left_eq, HCL.out]; exact hlt
set_option maxHeartbeats 2000000 in
theorem combined_7 (s t : ByteArray) (bd : Bool) (lb : ByteArray) (aa : Option Addr) (oc cc : Nat) (hh : Int) (Ba Na Bb Nb : Nat) (A Q : ByteArray → Prop) (F : List Fc) (w : World) (ha : SSet w Ba Na A) (hb : SSet w Bb Nb Q) (hN : Na + Nb ≤ 1048576) :
    Calls Try.prog 117 #[.agg #[.int .i64 7, .string s, .string t, .bool bd, .string lb, .slice aa oc cc, .int .i64 hh], .map (some Ba), .map (some Bb)] w (RetS w (Na + Nb) (nodeM 7 s t F A Q)) := by
  have hBb := hb.lt
  have HS : Hid (∀ o, SSet (w.alloc o) Ba Na A ∧ SSet (w.alloc o) Bb Nb Q) := fun o => ⟨ha.below (below_alloc _ _), hb.below (below_alloc _ _)⟩
  clear ha hb
  go_enter Try.func117, Try.ntmps117
  go_wp2_with fail
  refine (clone_any Ba Na A _ (HS.out _).1).mono ?_
  rintro e w1 ⟨rfl, hs1, hb1⟩
  have H1 : Hid (SSet w1 (w.heap.size + 1) Na A ∧ SSet w1 Bb Nb Q ∧ Below w.heap.size w w1 ∧ w.heap.size + 1 ≤ w1.heap.size) := by
    refine ⟨by simpa using hs1, ((HS.out _).2.below hb1), (below_alloc _ _).trans (hb1.mono (by simp)), by have := hb1.size; simpa using this⟩
  rw [World.size_alloc]
  clear hs1 hb1
  go_wp2_with fail
  refine (copy_any (w.heap.size + 1) Na Bb Nb A Q w1 H1.out.1 H1.out.2.1 (by omega) hN).mono ?_
  rintro e w2 ⟨rfl, hs2, hg2⟩
  have HF : Hid (RetS w (Na + Nb) (nodeM 7 s t F A Q) (.returned (.map (some (w.heap.size + 1)))) w2) := ⟨_, rfl, by omega, hs2.congr (fun x => by simp [nodeM]) (by omega), below_gr H1.out.2.2.1 (by have := H1.out.2.2.2; omega) hg2 (by omega)⟩
  clear hs2 hg2 H1
  go_wp2
  go_ret
  exact HF.out
end Go.Proofs.Ytocmbnocdjnfpaa

namespace Go.Proofs.Ytocmbnocdjnfpaa
open Go.RowKit Go.Deep Go.Maps
set_option linter.unusedVariables false
set_option maxRecDepth 100000
set_option linter.unusedSimpArgs false

/-- The texts at the ends of facts. -/
def UL (fs : List Fc) : List ByteArray := fs.flatMap (fun f => [f.s, f.o])
theorem UL_length (fs : List Fc) : (UL fs).length = 2 * fs.length := by
  induction fs with
  | nil => rfl
  | cons f fs ih => simp [UL] at ih ⊢; omega
theorem UL_mem {fs : List Fc} {f : Fc} (h : f ∈ fs) : f.s ∈ UL fs ∧ f.o ∈ UL fs := by
  unfold UL
  exact ⟨List.mem_flatMap.2 ⟨f, h, by simp⟩, List.mem_flatMap.2 ⟨f, h, by simp⟩⟩
/-- A set of ends of facts. -/
def SSU (w : World) (B : Nat) (fs : List Fc) (P : ByteArray → Prop) : Prop := SSet w B 600 P ∧ ∀ x, P x → x ∈ UL fs
theorem SSU.below {w w' : World} {B : Nat} {fs : List Fc} {P : ByteArray → Prop} (h : SSU w B fs P) (hb : Below w.heap.size w w') : SSU w' B fs P := ⟨h.1.below hb, h.2⟩
theorem SSU.congr {w : World} {B : Nat} {fs : List Fc} {P P' : ByteArray → Prop} (h : SSU w B fs P) (e : ∀ x, P x ↔ P' x) : SSU w B fs P' := ⟨h.1.congr e (Nat.le_refl _), fun x q => h.2 x ((e x).2 q)⟩
def RetU (w : World) (fs : List Fc) (P : ByteArray → Prop) (e : Ending) (w' : World) : Prop := ∃ B, e = .returned (.map (some B)) ∧ SSU w' B fs P ∧ Below w.heap.size w w'
theorem nodeM_in {k : Int} {s t : ByteArray} {fs : List Fc} {p : Fc → Bool} {A Q : ByteArray → Prop} (hk : 1 ≤ k ∧ k ≤ 9) (hA : 1 ≤ arOf k → ∀ x, A x → x ∈ UL fs) (hQ : arOf k = 2 → ∀ x, Q x → x ∈ UL fs) (x : ByteArray) (h : nodeM k s t (fs.filter p) A Q x) : x ∈ UL fs := by
  have h9 : k = 1 ∨ k = 2 ∨ k = 3 ∨ k = 4 ∨ k = 5 ∨ k = 6 ∨ k = 7 ∨ k = 8 ∨ k = 9 := by omega
  rcases h9 with rfl | rfl | rfl | rfl | rfl | rfl | rfl | rfl | rfl
  · obtain ⟨f, hf, h⟩ := (show ∃ f, f ∈ fs.filter p ∧ (x = f.s ∨ x = f.o) from h)
    have := UL_mem (List.mem_filter.1 hf).1
    rcases h with rfl | rfl
    · exact this.1
    · exact this.2
  · obtain ⟨f, hf, h, rfl⟩ := (show ∃ f, f ∈ fs.filter p ∧ (f.s = s ∨ f.o = s) ∧ x = s from h)
    have := UL_mem (List.mem_filter.1 hf).1
    rcases h with h | h
    · rw [← h]; exact this.1
    · rw [← h]; exact this.2
  · obtain ⟨f, hf, _, _, rfl⟩ := (show ∃ f, f ∈ fs.filter p ∧ f.p = s ∧ A f.s ∧ x = f.o from h)
    exact (UL_mem (List.mem_filter.1 hf).1).2
  · obtain ⟨f, hf, _, _, rfl⟩ := (show ∃ f, f ∈ fs.filter p ∧ f.p = s ∧ A f.o ∧ x = f.s from h)
    exact (UL_mem (List.mem_filter.1 hf).1).1
  · obtain ⟨f, hf, _, _, _, rfl⟩ := (show ∃ f, f ∈ fs.filter p ∧ f.p = s ∧ f.o = t ∧ A f.s ∧ x = f.s from h)
    exact (UL_mem (List.mem_filter.1 hf).1).1
  · exact hA (by decide) x (show A x ∧ Q x from h).1
  · rcases (show A x ∨ Q x from h) with h | h
    · exact hA (by decide) x h
    · exact hQ (by decide) x h
  · exact hA (by decide) x (show A x ∧ ¬ Q x from h).1
  · exact hA (by decide) x (show A x from h)
theorem RetS.u {w w0 w' : World} {N : Nat} {fs : List Fc} {P : ByteArray → Prop} {e : Ending} (h : RetS w N P e w') (hb : Below w0.heap.size w0 w) (hl : fs.length ≤ 300) (hP : ∀ x, P x → x ∈ UL fs) : RetU w0 fs P e w' := by
  obtain ⟨B, rfl, _, hs, hb2⟩ := h
  refine ⟨B, rfl, ⟨(hs.fit (UL fs) hP).congr (fun _ => Iff.rfl) (by rw [UL_length]; omega), hP⟩, hb.trans (hb2.mono hb.size)⟩
theorem RetS.drew {w w' : World} {N : Nat} {P : ByteArray → Prop} {e : Ending} (h : RetS w.drew N P e w') : Below w.heap.size w w' := by
  obtain ⟨B, _, _, _, hb⟩ := h
  exact ((Below.refl _ _).drew).trans hb
set_option maxHeartbeats 2000000 in
theorem meaning_1 (s t : ByteArray) (bd : Bool) (lb : ByteArray) (aa : Option Addr) (oc cc : Nat) (hh : Int) (fa : Option Addr) (fc : Nat) (fs : List Fc) (oa : Option Addr) (on ocp : Nat) (w : World) (hF : RdF w fa fs) (hl : fs.length ≤ 300) (hok : FcOk fs) :
    Calls Try.prog 63 #[.agg #[.int .i64 1, .string s, .string t, .bool bd, .string lb, .slice aa oc cc, .int .i64 hh], .slice fa fs.length fc, .slice oa on ocp] w (RetU w fs (nodeM 1 s t (fs.filter (cntB bd lb)) (fun _ => False) (fun _ => False))) := by
  have hlt : w.heap.size < (w.alloc (.cells #[.int .i64 1, .string s, .string t, .bool bd, .string lb, .slice aa oc cc, .int .i64 hh] 73)).heap.size := by simp
  obtain ⟨W1, hW1⟩ : ∃ W1, W1 = (w.alloc (.cells #[.int .i64 1, .string s, .string t, .bool bd, .string lb, .slice aa oc cc, .int .i64 hh] 73)) := ⟨_, rfl⟩
  have hcl : W1.cell? ⟨w.heap.size, 0, none⟩ = some (.int .i64 1) ∧ W1.cell? ⟨w.heap.size, 1, none⟩ = some (.string s) ∧ W1.cell? ⟨w.heap.size, 2, none⟩ = some (.string t) ∧ W1.cell? ⟨w.heap.size, 3, none⟩ = some (.bool bd) ∧ W1.cell? ⟨w.heap.size, 4, none⟩ = some (.string lb) ∧ W1.cell? ⟨w.heap.size, 5, none⟩ = some (.slice aa oc cc) ∧ W1.cell? ⟨w.heap.size, 6, none⟩ = some (.int .i64 hh) := by
    have e := blk_alloc_new w (.cells #[.int .i64 1, .string s, .string t, .bool bd, .string lb, .slice aa oc cc, .int .i64 hh] 73)
    rw [← hW1] at e
    refine ⟨?_, ?_, ?_, ?_, ?_, ?_, ?_⟩ <;> simp [World.cell?, e]
  have hb1 : Below w.heap.size w W1 := by rw [hW1]; exact below_alloc _ _
  have HB : Hid (Below w.heap.size w W1) := hb1
  rw [← hW1] at hlt
  obtain ⟨n, hn⟩ : ∃ n, n = fs.length := ⟨_, rfl⟩
  have HC : Hid (Calls Try.prog 116 #[.agg #[.int .i64 1, .string s, .string t, .bool bd, .string lb, .slice aa oc cc, .int .i64 hh], .slice fa n fc] W1 (RetU w fs (nodeM 1 s t (fs.filter (cntB bd lb)) (fun _ => False) (fun _ => False)))) := by
    rw [hn]
    exact (vertices_1 s t bd lb aa oc cc hh fa fc fs W1 (hF.below hb1) hl hok).mono fun e w' hr => hr.u hb1 hl (nodeM_in (by omega) (fun q => absurd q (by decide)) (fun q => absurd q (by decide)))
  rw [← hn]
  clear hn
  obtain ⟨x0, x1, x2, x3, x4, x5, x6⟩ := hcl
  clear hF hok hb1
  go_enter Try.func63, Try.ntmps63
  go_upto_region 1 with fail
  rw [← hW1]
  clear hW1
  go_wp2_with fail
  refine HC.out.mono ?_
  rintro e w2 ⟨B, rfl, hs, hb⟩
  have HF : Hid (RetU w fs (nodeM 1 s t (fs.filter (cntB bd lb)) (fun _ => False) (fun _ => False)) (.returned (.map (some B))) w2) := ⟨B, rfl, hs, hb⟩
  clear hs hb
  go_wp2
  go_ret
  exact HF.out
set_option maxHeartbeats 2000000 in
theorem meaning_2 (s t : ByteArray) (bd : Bool) (lb : ByteArray) (aa : Option Addr) (oc cc : Nat) (hh : Int) (fa : Option Addr) (fc : Nat) (fs : List Fc) (oa : Option Addr) (on ocp : Nat) (w : World) (hF : RdF w fa fs) (hl : fs.length ≤ 300) (hok : FcOk fs) :
    Calls Try.prog 63 #[.agg #[.int .i64 2, .string s, .string t, .bool bd, .string lb, .slice aa oc cc, .int .i64 hh], .slice fa fs.length fc, .slice oa on ocp] w (RetU w fs (nodeM 2 s t (fs.filter (cntB bd lb)) (fun _ => False) (fun _ => False))) := by
  have hlt : w.heap.size < (w.alloc (.cells #[.int .i64 2, .string s, .string t, .bool bd, .string lb, .slice aa oc cc, .int .i64 hh] 73)).heap.size := by simp
  obtain ⟨W1, hW1⟩ : ∃ W1, W1 = (w.alloc (.cells #[.int .i64 2, .string s, .string t, .bool bd, .string lb, .slice aa oc cc, .int .i64 hh] 73)) := ⟨_, rfl⟩
  have hcl : W1.cell? ⟨w.heap.size, 0, none⟩ = some (.int .i64 2) ∧ W1.cell? ⟨w.heap.size, 1, none⟩ = some (.string s) ∧ W1.cell? ⟨w.heap.size, 2, none⟩ = some (.string t) ∧ W1.cell? ⟨w.heap.size, 3, none⟩ = some (.bool bd) ∧ W1.cell? ⟨w.heap.size, 4, none⟩ = some (.string lb) ∧ W1.cell? ⟨w.heap.size, 5, none⟩ = some (.slice aa oc cc) ∧ W1.cell? ⟨w.heap.size, 6, none⟩ = some (.int .i64 hh) := by
    have e := blk_alloc_new w (.cells #[.int .i64 2, .string s, .string t, .bool bd, .string lb, .slice aa oc cc, .int .i64 hh] 73)
    rw [← hW1] at e
    refine ⟨?_, ?_, ?_, ?_, ?_, ?_, ?_⟩ <;> simp [World.cell?, e]
  have hb1 : Below w.heap.size w W1 := by rw [hW1]; exact below_alloc _ _
  have HB : Hid (Below w.heap.size w W1) := hb1
  rw [← hW1] at hlt
  obtain ⟨n, hn⟩ : ∃ n, n = fs.length := ⟨_, rfl⟩
  have HC : Hid (Calls Try.prog 116 #[.agg #[.int .i64 2, .string s, .string t, .bool bd, .string lb, .slice aa oc cc, .int .i64 hh], .slice fa n fc] W1 (RetU w fs (nodeM 2 s t (fs.filter (cntB bd lb)) (fun _ => False) (fun _ => False)))) := by
    rw [hn]
    exact (vertices_2 s t bd lb aa oc cc hh fa fc fs W1 (hF.below hb1) hl hok).mono fun e w' hr => hr.u hb1 hl (nodeM_in (by omega) (fun q => absurd q (by decide)) (fun q => absurd q (by decide)))
  rw [← hn]
  clear hn
  obtain ⟨x0, x1, x2, x3, x4, x5, x6⟩ := hcl
  clear hF hok hb1
  go_enter Try.func63, Try.ntmps63
  go_upto_region 1 with fail
  rw [← hW1]
  clear hW1
  go_wp2_with fail
  refine HC.out.mono ?_
  rintro e w2 ⟨B, rfl, hs, hb⟩
  have HF : Hid (RetU w fs (nodeM 2 s t (fs.filter (cntB bd lb)) (fun _ => False) (fun _ => False)) (.returned (.map (some B))) w2) := ⟨B, rfl, hs, hb⟩
  clear hs hb
  go_wp2
  go_ret
  exact HF.out
set_option maxHeartbeats 2000000 in
theorem meaning_3 (s t : ByteArray) (bd : Bool) (lb : ByteArray) (aa : Option Addr) (oc cc : Nat) (hh : Int) (fa : Option Addr) (fc : Nat) (fs : List Fc) (go ocp : Nat) (B0 : Nat) (A : ByteArray → Prop) (w : World) (hF : RdF w fa fs) (hl : fs.length ≤ 300) (hok : FcOk fs) (hc0 : w.cell? ⟨go, 0, none⟩ = some (.map (some B0))) (h0 : SSU w B0 fs A) :
    Calls Try.prog 63 #[.agg #[.int .i64 3, .string s, .string t, .bool bd, .string lb, .slice aa oc cc, .int .i64 hh], .slice fa fs.length fc, .slice (some ⟨go, 0, none⟩) 1 ocp] w (RetU w fs (nodeM 3 s t (fs.filter (cntB bd lb)) A (fun _ => False))) := by
  have hlt : w.heap.size < (w.alloc (.cells #[.int .i64 3, .string s, .string t, .bool bd, .string lb, .slice aa oc cc, .int .i64 hh] 73)).heap.size := by simp
  obtain ⟨W1, hW1⟩ : ∃ W1, W1 = (w.alloc (.cells #[.int .i64 3, .string s, .string t, .bool bd, .string lb, .slice aa oc cc, .int .i64 hh] 73)) := ⟨_, rfl⟩
  have hcl : W1.cell? ⟨w.heap.size, 0, none⟩ = some (.int .i64 3) ∧ W1.cell? ⟨w.heap.size, 1, none⟩ = some (.string s) ∧ W1.cell? ⟨w.heap.size, 2, none⟩ = some (.string t) ∧ W1.cell? ⟨w.heap.size, 3, none⟩ = some (.bool bd) ∧ W1.cell? ⟨w.heap.size, 4, none⟩ = some (.string lb) ∧ W1.cell? ⟨w.heap.size, 5, none⟩ = some (.slice aa oc cc) ∧ W1.cell? ⟨w.heap.size, 6, none⟩ = some (.int .i64 hh) := by
    have e := blk_alloc_new w (.cells #[.int .i64 3, .string s, .string t, .bool bd, .string lb, .slice aa oc cc, .int .i64 hh] 73)
    rw [← hW1] at e
    refine ⟨?_, ?_, ?_, ?_, ?_, ?_, ?_⟩ <;> simp [World.cell?, e]
  have hb1 : Below w.heap.size w W1 := by rw [hW1]; exact below_alloc _ _
  have HB : Hid (Below w.heap.size w W1) := hb1
  rw [← hW1] at hlt
  have hbd : Below w.heap.size w W1.drew := hb1.drew
  obtain ⟨n, hn⟩ : ∃ n, n = fs.length := ⟨_, rfl⟩
  have JC : Hid (Calls Try.prog 118 #[.agg #[.int .i64 3, .string s, .string t, .bool bd, .string lb, .slice aa oc cc, .int .i64 hh], .slice fa n fc, .map (some B0)] W1.drew (fun e w' => RetU w fs (nodeM 3 s t (fs.filter (cntB bd lb)) A (fun _ => False)) e w' ∧ Below W1.heap.size W1 w')) := by
    rw [hn]
    exact (reached_3 s t bd lb aa oc cc hh fa fc fs B0 600 A W1.drew (hF.below hbd) hl hok (h0.1.below hbd)).mono fun e w' hr => ⟨hr.u hbd hl (nodeM_in (by omega) (fun _ => h0.2) (fun q => absurd q (by decide))), hr.drew⟩
  rw [← hn]
  clear hn
  have y0 : W1.cell? ⟨go, 0, none⟩ = some (.map (some B0)) := (hb1.cell (World.block_lt_of_cell? _ _ hc0)).trans hc0

  obtain ⟨x0, x1, x2, x3, x4, x5, x6⟩ := hcl
  have HX : Hid (∀ w', Below W1.heap.size W1 w' → w'.cell? ⟨w.heap.size, 0, none⟩ = some (.int .i64 3) ∧ w'.cell? ⟨w.heap.size, 1, none⟩ = some (.string s) ∧ w'.cell? ⟨w.heap.size, 2, none⟩ = some (.string t) ∧ w'.cell? ⟨w.heap.size, 3, none⟩ = some (.bool bd) ∧ w'.cell? ⟨w.heap.size, 4, none⟩ = some (.string lb) ∧ w'.cell? ⟨w.heap.size, 5, none⟩ = some (.slice aa oc cc) ∧ w'.cell? ⟨w.heap.size, 6, none⟩ = some (.int .i64 hh) ∧ w'.cell? ⟨go, 0, none⟩ = some (.map (some B0))) := fun w' hw => by
    have c : ∀ (b o : Nat) (v : Value), W1.cell? ⟨b, o, none⟩ = some v → w'.cell? ⟨b, o, none⟩ = some v := fun b o v q => (hw.cell (World.block_lt_of_cell? _ _ q)).trans q
    exact ⟨c _ _ _ x0, c _ _ _ x1, c _ _ _ x2, c _ _ _ x3, c _ _ _ x4, c _ _ _ x5, c _ _ _ x6, c _ _ _ y0⟩
  clear hF hok hb1 h0 hc0 hbd
  go_enter Try.func63, Try.ntmps63
  go_upto_region 1 with fail
  rw [← hW1]
  clear hW1
  go_upto_region 11 with fail
  have J0 : Hid (Below W1.heap.size W1 W1.drew) := (Below.refl _ _).drew
  go_region_held3 (fun w' => w'.cell? ⟨w.heap.size, 0, none⟩ = some (.int .i64 3) ∧ w'.cell? ⟨w.heap.size, 1, none⟩ = some (.string s) ∧ w'.cell? ⟨w.heap.size, 2, none⟩ = some (.string t) ∧ w'.cell? ⟨w.heap.size, 3, none⟩ = some (.bool bd) ∧ w'.cell? ⟨w.heap.size, 4, none⟩ = some (.string lb) ∧ w'.cell? ⟨w.heap.size, 5, none⟩ = some (.slice aa oc cc) ∧ w'.cell? ⟨w.heap.size, 6, none⟩ = some (.int .i64 hh) ∧ w'.cell? ⟨go, 0, none⟩ = some (.map (some B0))) (first | exact HX.out _ J5.out.2 | exact HX.out _ J0.out | go_keep)
    (first
    | (go_at_call 118; (with_reducible refine JC.out.mono ?_); rintro e w5 ⟨⟨B5, rfl, hs5, hb5⟩, hb6⟩; have J5 : Hid (RetU w fs (nodeM 3 s t (fs.filter (cntB bd lb)) A (fun _ => False)) (.returned (.map (some B5))) w5 ∧ Below W1.heap.size W1 w5) := ⟨⟨B5, rfl, hs5, hb5⟩, hb6⟩; clear hs5 hb5 hb6)
    | fail)
  go_wp2
  go_ret
  exact J5.out.1
set_option maxHeartbeats 2000000 in
theorem meaning_4 (s t : ByteArray) (bd : Bool) (lb : ByteArray) (aa : Option Addr) (oc cc : Nat) (hh : Int) (fa : Option Addr) (fc : Nat) (fs : List Fc) (go ocp : Nat) (B0 : Nat) (A : ByteArray → Prop) (w : World) (hF : RdF w fa fs) (hl : fs.length ≤ 300) (hok : FcOk fs) (hc0 : w.cell? ⟨go, 0, none⟩ = some (.map (some B0))) (h0 : SSU w B0 fs A) :
    Calls Try.prog 63 #[.agg #[.int .i64 4, .string s, .string t, .bool bd, .string lb, .slice aa oc cc, .int .i64 hh], .slice fa fs.length fc, .slice (some ⟨go, 0, none⟩) 1 ocp] w (RetU w fs (nodeM 4 s t (fs.filter (cntB bd lb)) A (fun _ => False))) := by
  have hlt : w.heap.size < (w.alloc (.cells #[.int .i64 4, .string s, .string t, .bool bd, .string lb, .slice aa oc cc, .int .i64 hh] 73)).heap.size := by simp
  obtain ⟨W1, hW1⟩ : ∃ W1, W1 = (w.alloc (.cells #[.int .i64 4, .string s, .string t, .bool bd, .string lb, .slice aa oc cc, .int .i64 hh] 73)) := ⟨_, rfl⟩
  have hcl : W1.cell? ⟨w.heap.size, 0, none⟩ = some (.int .i64 4) ∧ W1.cell? ⟨w.heap.size, 1, none⟩ = some (.string s) ∧ W1.cell? ⟨w.heap.size, 2, none⟩ = some (.string t) ∧ W1.cell? ⟨w.heap.size, 3, none⟩ = some (.bool bd) ∧ W1.cell? ⟨w.heap.size, 4, none⟩ = some (.string lb) ∧ W1.cell? ⟨w.heap.size, 5, none⟩ = some (.slice aa oc cc) ∧ W1.cell? ⟨w.heap.size, 6, none⟩ = some (.int .i64 hh) := by
    have e := blk_alloc_new w (.cells #[.int .i64 4, .string s, .string t, .bool bd, .string lb, .slice aa oc cc, .int .i64 hh] 73)
    rw [← hW1] at e
    refine ⟨?_, ?_, ?_, ?_, ?_, ?_, ?_⟩ <;> simp [World.cell?, e]
  have hb1 : Below w.heap.size w W1 := by rw [hW1]; exact below_alloc _ _
  have HB : Hid (Below w.heap.size w W1) := hb1
  rw [← hW1] at hlt
  have hbd : Below w.heap.size w W1.drew := hb1.drew
  obtain ⟨n, hn⟩ : ∃ n, n = fs.length := ⟨_, rfl⟩
  have JC : Hid (Calls Try.prog 118 #[.agg #[.int .i64 4, .string s, .string t, .bool bd, .string lb, .slice aa oc cc, .int .i64 hh], .slice fa n fc, .map (some B0)] W1.drew (fun e w' => RetU w fs (nodeM 4 s t (fs.filter (cntB bd lb)) A (fun _ => False)) e w' ∧ Below W1.heap.size W1 w')) := by
    rw [hn]
    exact (reached_4 s t bd lb aa oc cc hh fa fc fs B0 600 A W1.drew (hF.below hbd) hl hok (h0.1.below hbd)).mono fun e w' hr => ⟨hr.u hbd hl (nodeM_in (by omega) (fun _ => h0.2) (fun q => absurd q (by decide))), hr.drew⟩
  rw [← hn]
  clear hn
  have y0 : W1.cell? ⟨go, 0, none⟩ = some (.map (some B0)) := (hb1.cell (World.block_lt_of_cell? _ _ hc0)).trans hc0

  obtain ⟨x0, x1, x2, x3, x4, x5, x6⟩ := hcl
  have HX : Hid (∀ w', Below W1.heap.size W1 w' → w'.cell? ⟨w.heap.size, 0, none⟩ = some (.int .i64 4) ∧ w'.cell? ⟨w.heap.size, 1, none⟩ = some (.string s) ∧ w'.cell? ⟨w.heap.size, 2, none⟩ = some (.string t) ∧ w'.cell? ⟨w.heap.size, 3, none⟩ = some (.bool bd) ∧ w'.cell? ⟨w.heap.size, 4, none⟩ = some (.string lb) ∧ w'.cell? ⟨w.heap.size, 5, none⟩ = some (.slice aa oc cc) ∧ w'.cell? ⟨w.heap.size, 6, none⟩ = some (.int .i64 hh) ∧ w'.cell? ⟨go, 0, none⟩ = some (.map (some B0))) := fun w' hw => by
    have c : ∀ (b o : Nat) (v : Value), W1.cell? ⟨b, o, none⟩ = some v → w'.cell? ⟨b, o, none⟩ = some v := fun b o v q => (hw.cell (World.block_lt_of_cell? _ _ q)).trans q
    exact ⟨c _ _ _ x0, c _ _ _ x1, c _ _ _ x2, c _ _ _ x3, c _ _ _ x4, c _ _ _ x5, c _ _ _ x6, c _ _ _ y0⟩
  clear hF hok hb1 h0 hc0 hbd
  go_enter Try.func63, Try.ntmps63
  go_upto_region 1 with fail
  rw [← hW1]
  clear hW1
  go_upto_region 11 with fail
  have J0 : Hid (Below W1.heap.size W1 W1.drew) := (Below.refl _ _).drew
  go_region_held3 (fun w' => w'.cell? ⟨w.heap.size, 0, none⟩ = some (.int .i64 4) ∧ w'.cell? ⟨w.heap.size, 1, none⟩ = some (.string s) ∧ w'.cell? ⟨w.heap.size, 2, none⟩ = some (.string t) ∧ w'.cell? ⟨w.heap.size, 3, none⟩ = some (.bool bd) ∧ w'.cell? ⟨w.heap.size, 4, none⟩ = some (.string lb) ∧ w'.cell? ⟨w.heap.size, 5, none⟩ = some (.slice aa oc cc) ∧ w'.cell? ⟨w.heap.size, 6, none⟩ = some (.int .i64 hh) ∧ w'.cell? ⟨go, 0, none⟩ = some (.map (some B0))) (first | exact HX.out _ J5.out.2 | exact HX.out _ J0.out | go_keep)
    (first
    | (go_at_call 118; (with_reducible refine JC.out.mono ?_); rintro e w5 ⟨⟨B5, rfl, hs5, hb5⟩, hb6⟩; have J5 : Hid (RetU w fs (nodeM 4 s t (fs.filter (cntB bd lb)) A (fun _ => False)) (.returned (.map (some B5))) w5 ∧ Below W1.heap.size W1 w5) := ⟨⟨B5, rfl, hs5, hb5⟩, hb6⟩; clear hs5 hb5 hb6)
    | fail)
  go_wp2
  go_ret
  exact J5.out.1
set_option maxHeartbeats 2000000 in
theorem meaning_5 (s t : ByteArray) (bd : Bool) (lb : ByteArray) (aa : Option Addr) (oc cc : Nat) (hh : Int) (fa : Option Addr) (fc : Nat) (fs : List Fc) (go ocp : Nat) (B0 : Nat) (A : ByteArray → Prop) (w : World) (hF : RdF w fa fs) (hl : fs.length ≤ 300) (hok : FcOk fs) (hc0 : w.cell? ⟨go, 0, none⟩ = some (.map (some B0))) (h0 : SSU w B0 fs A) :
    Calls Try.prog 63 #[.agg #[.int .i64 5, .string s, .string t, .bool bd, .string lb, .slice aa oc cc, .int .i64 hh], .slice fa fs.length fc, .slice (some ⟨go, 0, none⟩) 1 ocp] w (RetU w fs (nodeM 5 s t (fs.filter (cntB bd lb)) A (fun _ => False))) := by
  have hlt : w.heap.size < (w.alloc (.cells #[.int .i64 5, .string s, .string t, .bool bd, .string lb, .slice aa oc cc, .int .i64 hh] 73)).heap.size := by simp
  obtain ⟨W1, hW1⟩ : ∃ W1, W1 = (w.alloc (.cells #[.int .i64 5, .string s, .string t, .bool bd, .string lb, .slice aa oc cc, .int .i64 hh] 73)) := ⟨_, rfl⟩
  have hcl : W1.cell? ⟨w.heap.size, 0, none⟩ = some (.int .i64 5) ∧ W1.cell? ⟨w.heap.size, 1, none⟩ = some (.string s) ∧ W1.cell? ⟨w.heap.size, 2, none⟩ = some (.string t) ∧ W1.cell? ⟨w.heap.size, 3, none⟩ = some (.bool bd) ∧ W1.cell? ⟨w.heap.size, 4, none⟩ = some (.string lb) ∧ W1.cell? ⟨w.heap.size, 5, none⟩ = some (.slice aa oc cc) ∧ W1.cell? ⟨w.heap.size, 6, none⟩ = some (.int .i64 hh) := by
    have e := blk_alloc_new w (.cells #[.int .i64 5, .string s, .string t, .bool bd, .string lb, .slice aa oc cc, .int .i64 hh] 73)
    rw [← hW1] at e
    refine ⟨?_, ?_, ?_, ?_, ?_, ?_, ?_⟩ <;> simp [World.cell?, e]
  have hb1 : Below w.heap.size w W1 := by rw [hW1]; exact below_alloc _ _
  have HB : Hid (Below w.heap.size w W1) := hb1
  rw [← hW1] at hlt
  have hbd : Below w.heap.size w W1.drew := hb1.drew
  obtain ⟨n, hn⟩ : ∃ n, n = fs.length := ⟨_, rfl⟩
  have JC : Hid (Calls Try.prog 118 #[.agg #[.int .i64 5, .string s, .string t, .bool bd, .string lb, .slice aa oc cc, .int .i64 hh], .slice fa n fc, .map (some B0)] W1.drew (fun e w' => RetU w fs (nodeM 5 s t (fs.filter (cntB bd lb)) A (fun _ => False)) e w' ∧ Below W1.heap.size W1 w')) := by
    rw [hn]
    exact (reached_5 s t bd lb aa oc cc hh fa fc fs B0 600 A W1.drew (hF.below hbd) hl hok (h0.1.below hbd)).mono fun e w' hr => ⟨hr.u hbd hl (nodeM_in (by omega) (fun _ => h0.2) (fun q => absurd q (by decide))), hr.drew⟩
  rw [← hn]
  clear hn
  have y0 : W1.cell? ⟨go, 0, none⟩ = some (.map (some B0)) := (hb1.cell (World.block_lt_of_cell? _ _ hc0)).trans hc0

  obtain ⟨x0, x1, x2, x3, x4, x5, x6⟩ := hcl
  have HX : Hid (∀ w', Below W1.heap.size W1 w' → w'.cell? ⟨w.heap.size, 0, none⟩ = some (.int .i64 5) ∧ w'.cell? ⟨w.heap.size, 1, none⟩ = some (.string s) ∧ w'.cell? ⟨w.heap.size, 2, none⟩ = some (.string t) ∧ w'.cell? ⟨w.heap.size, 3, none⟩ = some (.bool bd) ∧ w'.cell? ⟨w.heap.size, 4, none⟩ = some (.string lb) ∧ w'.cell? ⟨w.heap.size, 5, none⟩ = some (.slice aa oc cc) ∧ w'.cell? ⟨w.heap.size, 6, none⟩ = some (.int .i64 hh) ∧ w'.cell? ⟨go, 0, none⟩ = some (.map (some B0))) := fun w' hw => by
    have c : ∀ (b o : Nat) (v : Value), W1.cell? ⟨b, o, none⟩ = some v → w'.cell? ⟨b, o, none⟩ = some v := fun b o v q => (hw.cell (World.block_lt_of_cell? _ _ q)).trans q
    exact ⟨c _ _ _ x0, c _ _ _ x1, c _ _ _ x2, c _ _ _ x3, c _ _ _ x4, c _ _ _ x5, c _ _ _ x6, c _ _ _ y0⟩
  clear hF hok hb1 h0 hc0 hbd
  go_enter Try.func63, Try.ntmps63
  go_upto_region 1 with fail
  rw [← hW1]
  clear hW1
  go_upto_region 11 with fail
  have J0 : Hid (Below W1.heap.size W1 W1.drew) := (Below.refl _ _).drew
  go_region_held3 (fun w' => w'.cell? ⟨w.heap.size, 0, none⟩ = some (.int .i64 5) ∧ w'.cell? ⟨w.heap.size, 1, none⟩ = some (.string s) ∧ w'.cell? ⟨w.heap.size, 2, none⟩ = some (.string t) ∧ w'.cell? ⟨w.heap.size, 3, none⟩ = some (.bool bd) ∧ w'.cell? ⟨w.heap.size, 4, none⟩ = some (.string lb) ∧ w'.cell? ⟨w.heap.size, 5, none⟩ = some (.slice aa oc cc) ∧ w'.cell? ⟨w.heap.size, 6, none⟩ = some (.int .i64 hh) ∧ w'.cell? ⟨go, 0, none⟩ = some (.map (some B0))) (first | exact HX.out _ J5.out.2 | exact HX.out _ J0.out | go_keep)
    (first
    | (go_at_call 118; (with_reducible refine JC.out.mono ?_); rintro e w5 ⟨⟨B5, rfl, hs5, hb5⟩, hb6⟩; have J5 : Hid (RetU w fs (nodeM 5 s t (fs.filter (cntB bd lb)) A (fun _ => False)) (.returned (.map (some B5))) w5 ∧ Below W1.heap.size W1 w5) := ⟨⟨B5, rfl, hs5, hb5⟩, hb6⟩; clear hs5 hb5 hb6)
    | fail)
  go_wp2
  go_ret
  exact J5.out.1
set_option maxHeartbeats 2000000 in
theorem meaning_6 (s t : ByteArray) (bd : Bool) (lb : ByteArray) (aa : Option Addr) (oc cc : Nat) (hh : Int) (fa : Option Addr) (fc : Nat) (fs : List Fc) (go ocp : Nat) (B0 B1 : Nat) (A Q : ByteArray → Prop) (w : World) (hF : RdF w fa fs) (hl : fs.length ≤ 300) (hok : FcOk fs) (hc0 : w.cell? ⟨go, 0, none⟩ = some (.map (some B0))) (hc1 : w.cell? ⟨go, 1, none⟩ = some (.map (some B1))) (h0 : SSU w B0 fs A) (h1 : SSU w B1 fs Q) :
    Calls Try.prog 63 #[.agg #[.int .i64 6, .string s, .string t, .bool bd, .string lb, .slice aa oc cc, .int .i64 hh], .slice fa fs.length fc, .slice (some ⟨go, 0, none⟩) 2 ocp] w (RetU w fs (nodeM 6 s t (fs.filter (cntB bd lb)) A Q)) := by
  have hlt : w.heap.size < (w.alloc (.cells #[.int .i64 6, .string s, .string t, .bool bd, .string lb, .slice aa oc cc, .int .i64 hh] 73)).heap.size := by simp
  obtain ⟨W1, hW1⟩ : ∃ W1, W1 = (w.alloc (.cells #[.int .i64 6, .string s, .string t, .bool bd, .string lb, .slice aa oc cc, .int .i64 hh] 73)) := ⟨_, rfl⟩
  have hcl : W1.cell? ⟨w.heap.size, 0, none⟩ = some (.int .i64 6) ∧ W1.cell? ⟨w.heap.size, 1, none⟩ = some (.string s) ∧ W1.cell? ⟨w.heap.size, 2, none⟩ = some (.string t) ∧ W1.cell? ⟨w.heap.size, 3, none⟩ = some (.bool bd) ∧ W1.cell? ⟨w.heap.size, 4, none⟩ = some (.string lb) ∧ W1.cell? ⟨w.heap.size, 5, none⟩ = some (.slice aa oc cc) ∧ W1.cell? ⟨w.heap.size, 6, none⟩ = some (.int .i64 hh) := by
    have e := blk_alloc_new w (.cells #[.int .i64 6, .string s, .string t, .bool bd, .string lb, .slice aa oc cc, .int .i64 hh] 73)
    rw [← hW1] at e
    refine ⟨?_, ?_, ?_, ?_, ?_, ?_, ?_⟩ <;> simp [World.cell?, e]
  have hb1 : Below w.heap.size w W1 := by rw [hW1]; exact below_alloc _ _
  have HB : Hid (Below w.heap.size w W1) := hb1
  rw [← hW1] at hlt
  have hbd : Below w.heap.size w W1.drew := hb1.drew
  obtain ⟨n, hn⟩ : ∃ n, n = fs.length := ⟨_, rfl⟩
  have JC : Hid (Calls Try.prog 117 #[.agg #[.int .i64 6, .string s, .string t, .bool bd, .string lb, .slice aa oc cc, .int .i64 hh], .map (some B0), .map (some B1)] W1.drew (fun e w' => RetU w fs (nodeM 6 s t (fs.filter (cntB bd lb)) A Q) e w' ∧ Below W1.heap.size W1 w')) := by
    skip
    exact (combined_6 s t bd lb aa oc cc hh B0 600 B1 600 A Q (fs.filter (cntB bd lb)) W1.drew (h0.1.below hbd) (h1.1.below hbd) (by omega)).mono fun e w' hr => ⟨hr.u hbd hl (nodeM_in (by omega) (fun _ => h0.2) (fun _ => h1.2)), hr.drew⟩
  rw [← hn]
  clear hn
  have y0 : W1.cell? ⟨go, 0, none⟩ = some (.map (some B0)) := (hb1.cell (World.block_lt_of_cell? _ _ hc0)).trans hc0
  have y1 : W1.cell? ⟨go, 1, none⟩ = some (.map (some B1)) := (hb1.cell (World.block_lt_of_cell? _ _ hc1)).trans hc1
  obtain ⟨x0, x1, x2, x3, x4, x5, x6⟩ := hcl
  have HX : Hid (∀ w', Below W1.heap.size W1 w' → w'.cell? ⟨w.heap.size, 0, none⟩ = some (.int .i64 6) ∧ w'.cell? ⟨w.heap.size, 1, none⟩ = some (.string s) ∧ w'.cell? ⟨w.heap.size, 2, none⟩ = some (.string t) ∧ w'.cell? ⟨w.heap.size, 3, none⟩ = some (.bool bd) ∧ w'.cell? ⟨w.heap.size, 4, none⟩ = some (.string lb) ∧ w'.cell? ⟨w.heap.size, 5, none⟩ = some (.slice aa oc cc) ∧ w'.cell? ⟨w.heap.size, 6, none⟩ = some (.int .i64 hh) ∧ w'.cell? ⟨go, 0, none⟩ = some (.map (some B0)) ∧ w'.cell? ⟨go, 1, none⟩ = some (.map (some B1))) := fun w' hw => by
    have c : ∀ (b o : Nat) (v : Value), W1.cell? ⟨b, o, none⟩ = some v → w'.cell? ⟨b, o, none⟩ = some v := fun b o v q => (hw.cell (World.block_lt_of_cell? _ _ q)).trans q
    exact ⟨c _ _ _ x0, c _ _ _ x1, c _ _ _ x2, c _ _ _ x3, c _ _ _ x4, c _ _ _ x5, c _ _ _ x6, c _ _ _ y0, c _ _ _ y1⟩
  clear hF hok hb1 h0 hc0 hbd h1 hc1
  go_enter Try.func63, Try.ntmps63
  go_upto_region 1 with fail
  rw [← hW1]
  clear hW1
  go_upto_region 8 with fail
  have J0 : Hid (Below W1.heap.size W1 W1.drew) := (Below.refl _ _).drew
  go_region_held3 (fun w' => w'.cell? ⟨w.heap.size, 0, none⟩ = some (.int .i64 6) ∧ w'.cell? ⟨w.heap.size, 1, none⟩ = some (.string s) ∧ w'.cell? ⟨w.heap.size, 2, none⟩ = some (.string t) ∧ w'.cell? ⟨w.heap.size, 3, none⟩ = some (.bool bd) ∧ w'.cell? ⟨w.heap.size, 4, none⟩ = some (.string lb) ∧ w'.cell? ⟨w.heap.size, 5, none⟩ = some (.slice aa oc cc) ∧ w'.cell? ⟨w.heap.size, 6, none⟩ = some (.int .i64 hh) ∧ w'.cell? ⟨go, 0, none⟩ = some (.map (some B0)) ∧ w'.cell? ⟨go, 1, none⟩ = some (.map (some B1))) (first | exact HX.out _ J5.out.2 | exact HX.out _ J0.out | go_keep)
    (first
    | (go_at_call 117; (with_reducible refine JC.out.mono ?_); rintro e w5 ⟨⟨B5, rfl, hs5, hb5⟩, hb6⟩; have J5 : Hid (RetU w fs (nodeM 6 s t (fs.filter (cntB bd lb)) A Q) (.returned (.map (some B5))) w5 ∧ Below W1.heap.size W1 w5) := ⟨⟨B5, rfl, hs5, hb5⟩, hb6⟩; clear hs5 hb5 hb6)
    | fail)
  go_wp2
  go_ret
  exact J5.out.1
set_option maxHeartbeats 2000000 in
theorem meaning_7 (s t : ByteArray) (bd : Bool) (lb : ByteArray) (aa : Option Addr) (oc cc : Nat) (hh : Int) (fa : Option Addr) (fc : Nat) (fs : List Fc) (go ocp : Nat) (B0 B1 : Nat) (A Q : ByteArray → Prop) (w : World) (hF : RdF w fa fs) (hl : fs.length ≤ 300) (hok : FcOk fs) (hc0 : w.cell? ⟨go, 0, none⟩ = some (.map (some B0))) (hc1 : w.cell? ⟨go, 1, none⟩ = some (.map (some B1))) (h0 : SSU w B0 fs A) (h1 : SSU w B1 fs Q) :
    Calls Try.prog 63 #[.agg #[.int .i64 7, .string s, .string t, .bool bd, .string lb, .slice aa oc cc, .int .i64 hh], .slice fa fs.length fc, .slice (some ⟨go, 0, none⟩) 2 ocp] w (RetU w fs (nodeM 7 s t (fs.filter (cntB bd lb)) A Q)) := by
  have hlt : w.heap.size < (w.alloc (.cells #[.int .i64 7, .string s, .string t, .bool bd, .string lb, .slice aa oc cc, .int .i64 hh] 73)).heap.size := by simp
  obtain ⟨W1, hW1⟩ : ∃ W1, W1 = (w.alloc (.cells #[.int .i64 7, .string s, .string t, .bool bd, .string lb, .slice aa oc cc, .int .i64 hh] 73)) := ⟨_, rfl⟩
  have hcl : W1.cell? ⟨w.heap.size, 0, none⟩ = some (.int .i64 7) ∧ W1.cell? ⟨w.heap.size, 1, none⟩ = some (.string s) ∧ W1.cell? ⟨w.heap.size, 2, none⟩ = some (.string t) ∧ W1.cell? ⟨w.heap.size, 3, none⟩ = some (.bool bd) ∧ W1.cell? ⟨w.heap.size, 4, none⟩ = some (.string lb) ∧ W1.cell? ⟨w.heap.size, 5, none⟩ = some (.slice aa oc cc) ∧ W1.cell? ⟨w.heap.size, 6, none⟩ = some (.int .i64 hh) := by
    have e := blk_alloc_new w (.cells #[.int .i64 7, .string s, .string t, .bool bd, .string lb, .slice aa oc cc, .int .i64 hh] 73)
    rw [← hW1] at e
    refine ⟨?_, ?_, ?_, ?_, ?_, ?_, ?_⟩ <;> simp [World.cell?, e]
  have hb1 : Below w.heap.size w W1 := by rw [hW1]; exact below_alloc _ _
  have HB : Hid (Below w.heap.size w W1) := hb1
  rw [← hW1] at hlt
  have hbd : Below w.heap.size w W1.drew := hb1.drew
  obtain ⟨n, hn⟩ : ∃ n, n = fs.length := ⟨_, rfl⟩
  have JC : Hid (Calls Try.prog 117 #[.agg #[.int .i64 7, .string s, .string t, .bool bd, .string lb, .slice aa oc cc, .int .i64 hh], .map (some B0), .map (some B1)] W1.drew (fun e w' => RetU w fs (nodeM 7 s t (fs.filter (cntB bd lb)) A Q) e w' ∧ Below W1.heap.size W1 w')) := by
    skip
    exact (combined_7 s t bd lb aa oc cc hh B0 600 B1 600 A Q (fs.filter (cntB bd lb)) W1.drew (h0.1.below hbd) (h1.1.below hbd) (by omega)).mono fun e w' hr => ⟨hr.u hbd hl (nodeM_in (by omega) (fun _ => h0.2) (fun _ => h1.2)), hr.drew⟩
  rw [← hn]
  clear hn
  have y0 : W1.cell? ⟨go, 0, none⟩ = some (.map (some B0)) := (hb1.cell (World.block_lt_of_cell? _ _ hc0)).trans hc0
  have y1 : W1.cell? ⟨go, 1, none⟩ = some (.map (some B1)) := (hb1.cell (World.block_lt_of_cell? _ _ hc1)).trans hc1
  obtain ⟨x0, x1, x2, x3, x4, x5, x6⟩ := hcl
  have HX : Hid (∀ w', Below W1.heap.size W1 w' → w'.cell? ⟨w.heap.size, 0, none⟩ = some (.int .i64 7) ∧ w'.cell? ⟨w.heap.size, 1, none⟩ = some (.string s) ∧ w'.cell? ⟨w.heap.size, 2, none⟩ = some (.string t) ∧ w'.cell? ⟨w.heap.size, 3, none⟩ = some (.bool bd) ∧ w'.cell? ⟨w.heap.size, 4, none⟩ = some (.string lb) ∧ w'.cell? ⟨w.heap.size, 5, none⟩ = some (.slice aa oc cc) ∧ w'.cell? ⟨w.heap.size, 6, none⟩ = some (.int .i64 hh) ∧ w'.cell? ⟨go, 0, none⟩ = some (.map (some B0)) ∧ w'.cell? ⟨go, 1, none⟩ = some (.map (some B1))) := fun w' hw => by
    have c : ∀ (b o : Nat) (v : Value), W1.cell? ⟨b, o, none⟩ = some v → w'.cell? ⟨b, o, none⟩ = some v := fun b o v q => (hw.cell (World.block_lt_of_cell? _ _ q)).trans q
    exact ⟨c _ _ _ x0, c _ _ _ x1, c _ _ _ x2, c _ _ _ x3, c _ _ _ x4, c _ _ _ x5, c _ _ _ x6, c _ _ _ y0, c _ _ _ y1⟩
  clear hF hok hb1 h0 hc0 hbd h1 hc1
  go_enter Try.func63, Try.ntmps63
  go_upto_region 1 with fail
  rw [← hW1]
  clear hW1
  go_upto_region 8 with fail
  have J0 : Hid (Below W1.heap.size W1 W1.drew) := (Below.refl _ _).drew
  go_region_held3 (fun w' => w'.cell? ⟨w.heap.size, 0, none⟩ = some (.int .i64 7) ∧ w'.cell? ⟨w.heap.size, 1, none⟩ = some (.string s) ∧ w'.cell? ⟨w.heap.size, 2, none⟩ = some (.string t) ∧ w'.cell? ⟨w.heap.size, 3, none⟩ = some (.bool bd) ∧ w'.cell? ⟨w.heap.size, 4, none⟩ = some (.string lb) ∧ w'.cell? ⟨w.heap.size, 5, none⟩ = some (.slice aa oc cc) ∧ w'.cell? ⟨w.heap.size, 6, none⟩ = some (.int .i64 hh) ∧ w'.cell? ⟨go, 0, none⟩ = some (.map (some B0)) ∧ w'.cell? ⟨go, 1, none⟩ = some (.map (some B1))) (first | exact HX.out _ J5.out.2 | exact HX.out _ J0.out | go_keep)
    (first
    | (go_at_call 117; (with_reducible refine JC.out.mono ?_); rintro e w5 ⟨⟨B5, rfl, hs5, hb5⟩, hb6⟩; have J5 : Hid (RetU w fs (nodeM 7 s t (fs.filter (cntB bd lb)) A Q) (.returned (.map (some B5))) w5 ∧ Below W1.heap.size W1 w5) := ⟨⟨B5, rfl, hs5, hb5⟩, hb6⟩; clear hs5 hb5 hb6)
    | fail)
  go_wp2
  go_ret
  exact J5.out.1
set_option maxHeartbeats 2000000 in
theorem meaning_8 (s t : ByteArray) (bd : Bool) (lb : ByteArray) (aa : Option Addr) (oc cc : Nat) (hh : Int) (fa : Option Addr) (fc : Nat) (fs : List Fc) (go ocp : Nat) (B0 B1 : Nat) (A Q : ByteArray → Prop) (w : World) (hF : RdF w fa fs) (hl : fs.length ≤ 300) (hok : FcOk fs) (hc0 : w.cell? ⟨go, 0, none⟩ = some (.map (some B0))) (hc1 : w.cell? ⟨go, 1, none⟩ = some (.map (some B1))) (h0 : SSU w B0 fs A) (h1 : SSU w B1 fs Q) :
    Calls Try.prog 63 #[.agg #[.int .i64 8, .string s, .string t, .bool bd, .string lb, .slice aa oc cc, .int .i64 hh], .slice fa fs.length fc, .slice (some ⟨go, 0, none⟩) 2 ocp] w (RetU w fs (nodeM 8 s t (fs.filter (cntB bd lb)) A Q)) := by
  have hlt : w.heap.size < (w.alloc (.cells #[.int .i64 8, .string s, .string t, .bool bd, .string lb, .slice aa oc cc, .int .i64 hh] 73)).heap.size := by simp
  obtain ⟨W1, hW1⟩ : ∃ W1, W1 = (w.alloc (.cells #[.int .i64 8, .string s, .string t, .bool bd, .string lb, .slice aa oc cc, .int .i64 hh] 73)) := ⟨_, rfl⟩
  have hcl : W1.cell? ⟨w.heap.size, 0, none⟩ = some (.int .i64 8) ∧ W1.cell? ⟨w.heap.size, 1, none⟩ = some (.string s) ∧ W1.cell? ⟨w.heap.size, 2, none⟩ = some (.string t) ∧ W1.cell? ⟨w.heap.size, 3, none⟩ = some (.bool bd) ∧ W1.cell? ⟨w.heap.size, 4, none⟩ = some (.string lb) ∧ W1.cell? ⟨w.heap.size, 5, none⟩ = some (.slice aa oc cc) ∧ W1.cell? ⟨w.heap.size, 6, none⟩ = some (.int .i64 hh) := by
    have e := blk_alloc_new w (.cells #[.int .i64 8, .string s, .string t, .bool bd, .string lb, .slice aa oc cc, .int .i64 hh] 73)
    rw [← hW1] at e
    refine ⟨?_, ?_, ?_, ?_, ?_, ?_, ?_⟩ <;> simp [World.cell?, e]
  have hb1 : Below w.heap.size w W1 := by rw [hW1]; exact below_alloc _ _
  have HB : Hid (Below w.heap.size w W1) := hb1
  rw [← hW1] at hlt
  have hbd : Below w.heap.size w W1.drew := hb1.drew
  obtain ⟨n, hn⟩ : ∃ n, n = fs.length := ⟨_, rfl⟩
  have JC : Hid (Calls Try.prog 117 #[.agg #[.int .i64 8, .string s, .string t, .bool bd, .string lb, .slice aa oc cc, .int .i64 hh], .map (some B0), .map (some B1)] W1.drew (fun e w' => RetU w fs (nodeM 8 s t (fs.filter (cntB bd lb)) A Q) e w' ∧ Below W1.heap.size W1 w')) := by
    skip
    exact (combined_8 s t bd lb aa oc cc hh B0 600 B1 600 A Q (fs.filter (cntB bd lb)) W1.drew (h0.1.below hbd) (h1.1.below hbd) (by omega)).mono fun e w' hr => ⟨hr.u hbd hl (nodeM_in (by omega) (fun _ => h0.2) (fun _ => h1.2)), hr.drew⟩
  rw [← hn]
  clear hn
  have y0 : W1.cell? ⟨go, 0, none⟩ = some (.map (some B0)) := (hb1.cell (World.block_lt_of_cell? _ _ hc0)).trans hc0
  have y1 : W1.cell? ⟨go, 1, none⟩ = some (.map (some B1)) := (hb1.cell (World.block_lt_of_cell? _ _ hc1)).trans hc1
  obtain ⟨x0, x1, x2, x3, x4, x5, x6⟩ := hcl
  have HX : Hid (∀ w', Below W1.heap.size W1 w' → w'.cell? ⟨w.heap.size, 0, none⟩ = some (.int .i64 8) ∧ w'.cell? ⟨w.heap.size, 1, none⟩ = some (.string s) ∧ w'.cell? ⟨w.heap.size, 2, none⟩ = some (.string t) ∧ w'.cell? ⟨w.heap.size, 3, none⟩ = some (.bool bd) ∧ w'.cell? ⟨w.heap.size, 4, none⟩ = some (.string lb) ∧ w'.cell? ⟨w.heap.size, 5, none⟩ = some (.slice aa oc cc) ∧ w'.cell? ⟨w.heap.size, 6, none⟩ = some (.int .i64 hh) ∧ w'.cell? ⟨go, 0, none⟩ = some (.map (some B0)) ∧ w'.cell? ⟨go, 1, none⟩ = some (.map (some B1))) := fun w' hw => by
    have c : ∀ (b o : Nat) (v : Value), W1.cell? ⟨b, o, none⟩ = some v → w'.cell? ⟨b, o, none⟩ = some v := fun b o v q => (hw.cell (World.block_lt_of_cell? _ _ q)).trans q
    exact ⟨c _ _ _ x0, c _ _ _ x1, c _ _ _ x2, c _ _ _ x3, c _ _ _ x4, c _ _ _ x5, c _ _ _ x6, c _ _ _ y0, c _ _ _ y1⟩
  clear hF hok hb1 h0 hc0 hbd h1 hc1
  go_enter Try.func63, Try.ntmps63
  go_upto_region 1 with fail
  rw [← hW1]
  clear hW1
  go_upto_region 8 with fail
  have J0 : Hid (Below W1.heap.size W1 W1.drew) := (Below.refl _ _).drew
  go_region_held3 (fun w' => w'.cell? ⟨w.heap.size, 0, none⟩ = some (.int .i64 8) ∧ w'.cell? ⟨w.heap.size, 1, none⟩ = some (.string s) ∧ w'.cell? ⟨w.heap.size, 2, none⟩ = some (.string t) ∧ w'.cell? ⟨w.heap.size, 3, none⟩ = some (.bool bd) ∧ w'.cell? ⟨w.heap.size, 4, none⟩ = some (.string lb) ∧ w'.cell? ⟨w.heap.size, 5, none⟩ = some (.slice aa oc cc) ∧ w'.cell? ⟨w.heap.size, 6, none⟩ = some (.int .i64 hh) ∧ w'.cell? ⟨go, 0, none⟩ = some (.map (some B0)) ∧ w'.cell? ⟨go, 1, none⟩ = some (.map (some B1))) (first | exact HX.out _ J5.out.2 | exact HX.out _ J0.out | go_keep)
    (first
    | (go_at_call 117; (with_reducible refine JC.out.mono ?_); rintro e w5 ⟨⟨B5, rfl, hs5, hb5⟩, hb6⟩; have J5 : Hid (RetU w fs (nodeM 8 s t (fs.filter (cntB bd lb)) A Q) (.returned (.map (some B5))) w5 ∧ Below W1.heap.size W1 w5) := ⟨⟨B5, rfl, hs5, hb5⟩, hb6⟩; clear hs5 hb5 hb6)
    | fail)
  go_wp2
  go_ret
  exact J5.out.1
set_option maxHeartbeats 2000000 in
theorem meaning_9 (s t : ByteArray) (bd : Bool) (lb : ByteArray) (aa : Option Addr) (oc cc : Nat) (hh : Int) (fa : Option Addr) (fc : Nat) (fs : List Fc) (go ocp : Nat) (B0 : Nat) (A : ByteArray → Prop) (w : World) (hF : RdF w fa fs) (hl : fs.length ≤ 300) (hok : FcOk fs) (hc0 : w.cell? ⟨go, 0, none⟩ = some (.map (some B0))) (h0 : SSU w B0 fs A) :
    Calls Try.prog 63 #[.agg #[.int .i64 9, .string s, .string t, .bool bd, .string lb, .slice aa oc cc, .int .i64 hh], .slice fa fs.length fc, .slice (some ⟨go, 0, none⟩) 1 ocp] w (RetU w fs (nodeM 9 s t (fs.filter (cntB bd lb)) A (fun _ => False))) := by
  have hlt : w.heap.size < (w.alloc (.cells #[.int .i64 9, .string s, .string t, .bool bd, .string lb, .slice aa oc cc, .int .i64 hh] 73)).heap.size := by simp
  obtain ⟨W1, hW1⟩ : ∃ W1, W1 = (w.alloc (.cells #[.int .i64 9, .string s, .string t, .bool bd, .string lb, .slice aa oc cc, .int .i64 hh] 73)) := ⟨_, rfl⟩
  have hcl : W1.cell? ⟨w.heap.size, 0, none⟩ = some (.int .i64 9) ∧ W1.cell? ⟨w.heap.size, 1, none⟩ = some (.string s) ∧ W1.cell? ⟨w.heap.size, 2, none⟩ = some (.string t) ∧ W1.cell? ⟨w.heap.size, 3, none⟩ = some (.bool bd) ∧ W1.cell? ⟨w.heap.size, 4, none⟩ = some (.string lb) ∧ W1.cell? ⟨w.heap.size, 5, none⟩ = some (.slice aa oc cc) ∧ W1.cell? ⟨w.heap.size, 6, none⟩ = some (.int .i64 hh) := by
    have e := blk_alloc_new w (.cells #[.int .i64 9, .string s, .string t, .bool bd, .string lb, .slice aa oc cc, .int .i64 hh] 73)
    rw [← hW1] at e
    refine ⟨?_, ?_, ?_, ?_, ?_, ?_, ?_⟩ <;> simp [World.cell?, e]
  have hb1 : Below w.heap.size w W1 := by rw [hW1]; exact below_alloc _ _
  have HB : Hid (Below w.heap.size w W1) := hb1
  rw [← hW1] at hlt
  have HF : Hid (RetU w fs (nodeM 9 s t (fs.filter (cntB bd lb)) A (fun _ => False)) (.returned (.map (some B0))) W1) := ⟨B0, rfl, (h0.below hb1).congr (fun x => by simp [nodeM]), hb1⟩
  obtain ⟨x0, x1, x2, x3, x4, x5, x6⟩ := hcl
  have y0 : W1.cell? ⟨go, 0, none⟩ = some (.map (some B0)) := (hb1.cell (World.block_lt_of_cell? _ _ hc0)).trans hc0
  clear hF hok hb1 h0 hc0
  go_enter Try.func63, Try.ntmps63
  go_upto_region 1 with fail
  rw [← hW1]
  clear hW1
  go_wp2
  go_ret
  exact HF.out
end Go.Proofs.Ytocmbnocdjnfpaa

namespace Go.Proofs.Ytocmbnocdjnfpaa
open Go.RowKit Go.Deep Go.Maps
set_option linter.unusedVariables false
set_option maxRecDepth 100000
set_option linter.unusedSimpArgs false

theorem vp_opf_lt {n : Nat} {I : Nat → Int} {X R : Nat → ByteArray} (hv : VPth n I X R) {i j : Nat} (hi : i < n) (hj : j < arOf (I i)) : opf (arI I) i j < i := by
  have hs : StackOk (arI I) n := ((whole_iff _ n (by omega)).1 hv.2.2.1).1
  exact Go.Proofs.Ytocmbnocdjnfpaa.opf_lt hs hi (arI_le _ _) hj
theorem pkM_of {w : World} {B q : Nat} {v : Value} {Y : Nat → Option Nat} {F : Nat → Nat} (h : w.ownsRow B 102 1 v q (picksM Y F q)) : ∃ ap cp, v = .slice ap q cp ∧ (0 < q → ∃ g, ap = some ⟨g, 0, none⟩ ∧ ∀ j, j < q → w.cell? ⟨g, j, none⟩ = some (.map (Y (F j)))) := by
  obtain ⟨_, ⟨rfl, h0⟩ | ⟨g, cap, cur, rfl, hg, hb, h1, h2, h3, h4⟩⟩ := h
  · exact ⟨none, 0, by rw [h0], fun q => by omega⟩
  · refine ⟨_, _, rfl, fun _ => ⟨g, rfl, fun i hi => ?_⟩⟩
    have e : (picksM Y F q)[i]? = some (.map (Y (F i))) := by
      unfold picksM
      rw [List.getElem?_map, List.getElem?_range hi]
      rfl
    rw [← h4, List.getElem?_take_of_lt (by omega), Array.getElem?_toList] at e
    simp only [World.cell?, hb]
    exact e
/-- place.meaning, whatever the kind, its operands' sets being known. -/
theorem meaning_node {k : Int} {q : Nat} (hk : 1 ≤ k ∧ k ≤ 9) (hq : q = arOf k) (s t : ByteArray) (bd : Bool) (lb : ByteArray) (aa : Option Addr) (oc cc : Nat) (hh : Int) (fa : Option Addr) (fc : Nat) (fs : List Fc) (ap : Option Addr) (cp : Nat) (Bo : Nat → Nat) (P : Nat → ByteArray → Prop) (w : World) (hF : RdF w fa fs) (hl : fs.length ≤ 300) (hok : FcOk fs)
    (hc : 0 < q → ∃ g, ap = some ⟨g, 0, none⟩ ∧ ∀ j, j < q → w.cell? ⟨g, j, none⟩ = some (.map (some (Bo j)))) (hs : ∀ j, j < q → SSU w (Bo j) fs (P j)) :
    Calls Try.prog 63 #[.agg #[.int .i64 k, .string s, .string t, .bool bd, .string lb, .slice aa oc cc, .int .i64 hh], .slice fa fs.length fc, .slice ap q cp] w (RetU w fs (nodeM k s t (fs.filter (cntB bd lb)) (P 0) (P 1))) := by
  have fin : ∀ (A Q : ByteArray → Prop) (e : Ending) (w' : World), (∀ x, nodeM k s t (fs.filter (cntB bd lb)) A Q x ↔ nodeM k s t (fs.filter (cntB bd lb)) (P 0) (P 1) x) → RetU w fs (nodeM k s t (fs.filter (cntB bd lb)) A Q) e w' → RetU w fs (nodeM k s t (fs.filter (cntB bd lb)) (P 0) (P 1)) e w' := fun A Q e w' h hr => by
    obtain ⟨B, rfl, h1, h2⟩ := hr
    exact ⟨B, rfl, h1.congr h, h2⟩
  have h9 : k = 1 ∨ k = 2 ∨ k = 3 ∨ k = 4 ∨ k = 5 ∨ k = 6 ∨ k = 7 ∨ k = 8 ∨ k = 9 := by omega
  rcases h9 with rfl | rfl | rfl | rfl | rfl | rfl | rfl | rfl | rfl
  · subst hq
    exact (meaning_1 s t bd lb aa oc cc hh fa fc fs ap 0 cp w hF hl hok).mono fun e w' hr => fin _ _ e w' (fun x => nodeM_congr (by omega) (fun q => absurd q (by decide)) (fun q => absurd q (by decide)) x) hr
  · subst hq
    exact (meaning_2 s t bd lb aa oc cc hh fa fc fs ap 0 cp w hF hl hok).mono fun e w' hr => fin _ _ e w' (fun x => nodeM_congr (by omega) (fun q => absurd q (by decide)) (fun q => absurd q (by decide)) x) hr
  · subst hq
    obtain ⟨g, rfl, hcc⟩ := hc (by decide)
    exact (meaning_3 s t bd lb aa oc cc hh fa fc fs g cp (Bo 0) (P 0) w hF hl hok (hcc 0 (by decide)) (hs 0 (by decide))).mono fun e w' hr => fin _ _ e w' (fun x => nodeM_congr (by omega) (fun _ x => Iff.rfl) (fun q => absurd q (by decide)) x) hr
  · subst hq
    obtain ⟨g, rfl, hcc⟩ := hc (by decide)
    exact (meaning_4 s t bd lb aa oc cc hh fa fc fs g cp (Bo 0) (P 0) w hF hl hok (hcc 0 (by decide)) (hs 0 (by decide))).mono fun e w' hr => fin _ _ e w' (fun x => nodeM_congr (by omega) (fun _ x => Iff.rfl) (fun q => absurd q (by decide)) x) hr
  · subst hq
    obtain ⟨g, rfl, hcc⟩ := hc (by decide)
    exact (meaning_5 s t bd lb aa oc cc hh fa fc fs g cp (Bo 0) (P 0) w hF hl hok (hcc 0 (by decide)) (hs 0 (by decide))).mono fun e w' hr => fin _ _ e w' (fun x => nodeM_congr (by omega) (fun _ x => Iff.rfl) (fun q => absurd q (by decide)) x) hr
  · subst hq
    obtain ⟨g, rfl, hcc⟩ := hc (by decide)
    exact (meaning_6 s t bd lb aa oc cc hh fa fc fs g cp (Bo 0) (Bo 1) (P 0) (P 1) w hF hl hok (hcc 0 (by decide)) (hcc 1 (by decide)) (hs 0 (by decide)) (hs 1 (by decide))).mono fun e w' hr => hr
  · subst hq
    obtain ⟨g, rfl, hcc⟩ := hc (by decide)
    exact (meaning_7 s t bd lb aa oc cc hh fa fc fs g cp (Bo 0) (Bo 1) (P 0) (P 1) w hF hl hok (hcc 0 (by decide)) (hcc 1 (by decide)) (hs 0 (by decide)) (hs 1 (by decide))).mono fun e w' hr => hr
  · subst hq
    obtain ⟨g, rfl, hcc⟩ := hc (by decide)
    exact (meaning_8 s t bd lb aa oc cc hh fa fc fs g cp (Bo 0) (Bo 1) (P 0) (P 1) w hF hl hok (hcc 0 (by decide)) (hcc 1 (by decide)) (hs 0 (by decide)) (hs 1 (by decide))).mono fun e w' hr => hr
  · subst hq
    obtain ⟨g, rfl, hcc⟩ := hc (by decide)
    exact (meaning_9 s t bd lb aa oc cc hh fa fc fs g cp (Bo 0) (P 0) w hF hl hok (hcc 0 (by decide)) (hs 0 (by decide))).mono fun e w' hr => fin _ _ e w' (fun x => nodeM_congr (by omega) (fun _ x => Iff.rfl) (fun q => absurd q (by decide)) x) hr
end Go.Proofs.Ytocmbnocdjnfpaa
