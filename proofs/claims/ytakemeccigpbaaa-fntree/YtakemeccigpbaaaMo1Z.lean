import Derived.Test.YtakemeccigpbaaaTiFZ
import Derived.Test.YtakemeccigpbaaaTsTZ
import Derived.Test.YtakemeccigpbaaaTiIZ
import Derived.Deep.QuietTactic
import Derived.BigQuiet
import Derived.Test.YtakemeccigpbaaaTiRZ
namespace Go.Proofs.Ytakemeccigpbaaa
open Go.RowKit Go.Deep
set_option linter.unusedVariables false
set_option maxRecDepth 100000

/-- What read leaves: a tree that may be written. -/
def RetRo (N : Nat → Tn) (rb b o n c x : Nat) (dep D : Int) (hk : Bool) (lk : ByteArray) (d : Nat) (w : World) (e : Ending) (w' : World) : Prop :=
  w.grownBy w' (some rb) ∧ ∃ v ok, e = .returned (.tuple #[v, .bool ok]) ∧
    ((ok = true ∧ ∃ t D' hk' lk', Good N n x dep D hk lk d t D' hk' lk' ∧ RBx w' rb b o n c (x + nodesR d t) D' lk' hk' ∧ ∃ bs : List Nat, bs.Nodup ∧ TOw w.heap.size w' d t v bs) ∨
     (ok = false ∧ ¬ ∃ t D' hk' lk', Good N n x dep D hk lk d t D' hk' lk'))

theorem leaf_apart {w : World} {b B n c : Nat} {a : Option Addr} {cur : Array Value} {xs : List Value} (hx : Bx w b 57 cur) (ho : w.ownsRow B 9 1 (.slice a n c) n xs) : (b :: (a.map (·.block)).toList).Nodup := by
  cases a with
  | none => simp
  | some p =>
    simp
    intro e
    rcases ho.2 with ⟨q, _⟩ | ⟨g, cap, cur2, q, _, hg, _⟩
    · cases q
    · injection q with q _ _
      injection q with q
      subst q
      subst e
      unfold Bx at hx
      have e2 := hg.symm.trans hx
      injection e2 with e2
      injection e2 with _ e2 _
      exact absurd e2 (by decide)

set_option maxHeartbeats 4000000 in
theorem readLeafO_any (N : Nat → Tn) (rb b o n c x : Nat) (dep D : Int) (hk : Bool) (lk : ByteArray) (d : Nat) (w : World) (ka da : Option Addr) (kc dc : Nat) (h : RBx w rb b o n c (x + 1) D lk hk) (hx : x < n) (hlf : (N x).lf = true) (hfit : TnFit (N x)) (hK : ∀ W : World, Below rb w W → RdS W ka (N x).kn (N x).ks) (hd0 : 0 ≤ dep) :
    Calls Try.prog 71 #[.pointer (some ⟨rb, 0, none⟩), .agg #[.bool true, .slice ka (N x).kn kc, .slice da (N x).dn dc, .int .i64 (N x).ct], .int .i64 dep] w (RetRo N rb b o n c x dep D hk lk (d + 1) w) := by
  have HR : Hid (RBx w rb b o n c (x + 1) D lk hk) := h
  have hrl := h.lt
  have HK : Hid (∀ W : World, Below rb w W → RdS W ka (N x).kn (gt (ksL (N x)))) := fun W hW => (hK W hW).congr (fun j hj => (gt_ksL (N x) j hj).symm)
  have HGL : Hid (∀ (t : Ro (d + 1)) D' hk' lk', Good N n x dep D hk lk (d + 1) t D' hk' lk' → (N x).kn ≤ 4 ∧ (dep = 0 ∨ 2 ≤ (N x).kn) ∧ (N x).dn = 0 ∧ (D = 0 ∨ D = dep) ∧ Chain hk lk (ksL (N x)) hk' lk' ∧ (N x).ct = ((N x).kn : Int)) := fun t D' hk' lk' g => good_leaf hlf g
  have hm2 : (N x).kn ≤ 1048576 := hfit.1
  have hd2 : (N x).dn ≤ 1048576 := hfit.2
  have HML : Hid ((N x).kn = (ksL (N x)).length) := (ksL_length _).symm
  have HYes : Hid (∀ hk' lk', (N x).kn ≤ 4 → (dep = 0 ∨ 2 ≤ (N x).kn) → (N x).dn = 0 → (D = 0 ∨ D = dep) → Chain hk lk (ksL (N x)) hk' lk' → (N x).ct = ((N x).kn : Int) → Good N n x dep D hk lk (d + 1) (.inl (ksL (N x))) dep hk' lk') := by
    intro hk' lk' a1 a2 a3 a4 a5 a6
    refine ⟨⟨hlf, (ksL_length _).symm, fun j hj => (gt_ksL _ _ (by rw [ksL_length] at hj; exact hj)).symm, a3, by rw [ksL_length]; exact a6⟩, ?_, ⟨0, ⟨rfl, by rw [ksL_length]; exact a1, ?_⟩, by simp⟩, a4, a5⟩
    · have : nodesR (d + 1) (.inl (ksL (N x))) = 1 := rfl
      omega
    · rw [ksL_length]
      rcases a2 with a2 | a2
      · exact Or.inl (by simpa using a2)
      · exact Or.inr a2
  clear h hK hlf hfit
  generalize (N x).kn = m at HK HGL hm2 HML HYes ⊢
  generalize (N x).dn = dn at HGL hd2 HYes ⊢
  generalize (N x).ct = ct at HGL HYes ⊢
  generalize ksL (N x) = L at HK HGL HML HYes ⊢
  have HNo : Hid (∀ w' : World, w.grownBy w' (some rb) → ¬ (∃ (t : Ro (d + 1)) (D' : Int) (hk' : Bool) (lk' : ByteArray), Good N n x dep D hk lk (d + 1) t D' hk' lk') → ∀ v, RetRo N rb b o n c x dep D hk lk (d + 1) w (.returned (.tuple #[v, .bool false])) w') := fun w' hg hn v => ⟨hg, v, false, rfl, Or.inr ⟨rfl, hn⟩⟩
  by_cases h4 : 4 < m
  · have i4 : (4 : Int) < (m : Int) := by omega
    have i4' : decide ((4 : Int) < (m : Int)) = true := decide_eq_true i4
    have n4' : decide (4 < m) = true := decide_eq_true h4
    go_enter Try.func71, Try.ntmps71
    go_wp2
    refine bodyPost_ret (v := .tuple #[.nilIface, .bool false]) (by simp [results, Try.results71, go_sem]) rfl (HNo.out _ (grown_below (below_alloc _ _)) (fun ⟨t, D', hk', lk', g⟩ => by have := HGL.out t D' hk' lk' g; omega) _)
  · have i4 : ¬ (4 : Int) < (m : Int) := by omega
    have i4' : decide ((4 : Int) < (m : Int)) = false := decide_eq_false i4
    have n4' : decide (4 < m) = false := decide_eq_false h4
    by_cases h2 : m < 2 ∧ 0 < dep
    · have i2 : (m : Int) < 2 := by omega
      have i2' : decide ((m : Int) < 2) = true := decide_eq_true i2
      have n2' : decide (m < 2) = true := decide_eq_true h2.1
      have id : (0 : Int) < dep := h2.2
      have id' : decide ((0 : Int) < dep) = true := decide_eq_true id
      have H2 : Hid (m < 2 ∧ 0 < dep) := h2
      clear h2
      go_enter Try.func71, Try.ntmps71
      go_wp2
      refine bodyPost_ret (v := .tuple #[.nilIface, .bool false]) (by simp [results, Try.results71, go_sem]) rfl (HNo.out _ (grown_below (below_alloc _ _)) (fun ⟨t, D', hk', lk', g⟩ => by have := HGL.out t D' hk' lk' g; have := H2.out; omega) _)
    · have HB2 : Hid (dep = 0 ∨ 2 ≤ m) := by
        show dep = 0 ∨ 2 ≤ m
        omega
      have hpick : Hid (∀ b1 b2 : Bool, b1 = decide ((m : Int) < 2) → b2 = decide ((0 : Int) < dep) → (b1 && b2) = false) := by
        rintro b1 b2 rfl rfl
        rw [Bool.and_eq_false_iff]
        simp
        omega
      by_cases hm2' : m < 2
      · have i2 : (m : Int) < 2 := by omega
        have i2' : decide ((m : Int) < 2) = true := decide_eq_true i2
        have n2' : decide (m < 2) = true := decide_eq_true hm2'
        have id : ¬ (0 : Int) < dep := by omega
        have id' : decide ((0 : Int) < dep) = false := decide_eq_false id
        clear h2 hpick
        go_enter Try.func71, Try.ntmps71
        go_upto_region 3 with fail
        have S1 : Hid (Bx (w.alloc (.cells #[.bool true, .slice ka m kc, .slice da dn dc, .int .i64 ct] 88)) w.heap.size 88 #[.bool true, .slice ka m kc, .slice da dn dc, .int .i64 ct] ∧ RBx (w.alloc (.cells #[.bool true, .slice ka m kc, .slice da dn dc, .int .i64 ct] 88)) rb b o n c (x + 1) D lk hk ∧ Below w.heap.size w (w.alloc (.cells #[.bool true, .slice ka m kc, .slice da dn dc, .int .i64 ct] 88))) := ⟨Bx.new _ _ _, HR.out.alloc _, below_alloc _ _⟩
        clear HR
        generalize (w.alloc (.cells #[.bool true, .slice ka m kc, .slice da dn dc, .int .i64 ct] 88)) = W at S1 ⊢
        have g2 := S1.out.1.cell 2
        have hWl := S1.out.1.lt
        simp at g2
        by_cases hdn0 : 0 < dn
        · have id0 : (0 : Int) < (dn : Int) := by omega
          have id0' : decide ((0 : Int) < (dn : Int)) = true := decide_eq_true id0
          have nd0' : decide (0 < dn) = true := decide_eq_true hdn0
          go_wp2
          refine bodyPost_ret (v := .tuple #[.nilIface, .bool false]) (by simp [results, Try.results71, go_sem]) rfl (HNo.out _ (grown_below S1.out.2.2) (fun ⟨t, D', hk', lk', g⟩ => by have := HGL.out t D' hk' lk' g; omega) _)
        · have id0 : ¬ (0 : Int) < (dn : Int) := by omega
          have id0' : decide ((0 : Int) < (dn : Int)) = false := decide_eq_false id0
          have nd0' : decide (0 < dn) = false := decide_eq_false hdn0
          go_wp2_with fail
          refine (leafDepth_any rb b o n c (x + 1) dep D lk hk _ S1.out.2.1 hd0).mono ?_
          rintro e w1 ⟨ok, rfl, hg1, hs1, hr1⟩
          have HG1 : Hid (w.grownBy w1 (some rb) ∧ Bx w1 w.heap.size 88 #[.bool true, .slice ka m kc, .slice da dn dc, .int .i64 ct]) := ⟨grown_trans (grown_below S1.out.2.2) hg1, S1.out.1.grown hg1 (fun e => by injection e with e; omega)⟩
          have HR1 : Hid ((ok = true ∧ (D = 0 ∨ D = dep) ∧ RBx w1 rb b o n c (x + 1) dep lk hk) ∨ (ok = false ∧ ¬ (D = 0 ∨ D = dep))) := hr1
          clear hg1 hs1 hr1 g2 S1
          have g1 := HG1.out.2.cell 1
          have hWl1 := HG1.out.2.lt
          simp at g1
          cases ok with
          | false =>
            go_wp2
            refine bodyPost_ret (v := .tuple #[.nilIface, .bool false]) (by simp [results, Try.results71, go_sem]) rfl (HNo.out _ HG1.out.1 (fun ⟨t, D', hk', lk', g⟩ => ?_) _)
            have q := HGL.out t D' hk' lk' g
            rcases HR1.out with ⟨e, _⟩ | ⟨_, e⟩
            · cases e
            · exact e q.2.2.2.1
          | true =>
            have HD : Hid ((D = 0 ∨ D = dep) ∧ RBx w1 rb b o n c (x + 1) dep lk hk) := by
              rcases HR1.out with ⟨_, e⟩ | ⟨e, _⟩
              · exact e
              · cases e
            clear HR1
            go_wp2_with fail
            refine (passKeys_any rb b o n c (x + 1) m kc ka dep lk hk L w1 HD.out.2 HML.out hm2 (fun W' hW' => HK.out W' (below_grown (grown_trans HG1.out.1 hW') (by omega) (Nat.le_refl _)))).mono ?_
            rintro e w2 ⟨ok2, rfl, hg2, hs2, hr2⟩
            have HG2 : Hid (w.grownBy w2 (some rb) ∧ Bx w2 w.heap.size 88 #[.bool true, .slice ka m kc, .slice da dn dc, .int .i64 ct]) := ⟨grown_trans HG1.out.1 hg2, HG1.out.2.grown hg2 (fun e => by injection e with e; omega)⟩
            have HR2 : Hid ((ok2 = true ∧ ∃ hk' lk', Chain hk lk L hk' lk' ∧ RBx w2 rb b o n c (x + 1) dep lk' hk') ∨ (ok2 = false ∧ ∀ hk' lk', ¬ Chain hk lk L hk' lk')) := hr2
            clear hg2 hs2 hr2 g1 HG1
            have g1 := HG2.out.2.cell 1
            have hWl2 := HG2.out.2.lt
            simp at g1
            cases ok2 with
            | false =>
              go_wp2
              refine bodyPost_ret (v := .tuple #[.nilIface, .bool false]) (by simp [results, Try.results71, go_sem]) rfl (HNo.out _ HG2.out.1 (fun ⟨t, D', hk', lk', g⟩ => ?_) _)
              have q := HGL.out t D' hk' lk' g
              rcases HR2.out with ⟨e, _⟩ | ⟨_, e⟩
              · cases e
              · exact e _ _ q.2.2.2.2.1
            | true =>
              obtain ⟨hk', lk', hch, hrb⟩ : ∃ hk' lk', Chain hk lk L hk' lk' ∧ RBx w2 rb b o n c (x + 1) dep lk' hk' := by
                rcases HR2.out with ⟨_, e⟩ | ⟨e, _⟩
                · exact e
                · cases e
              have HC : Hid (Chain hk lk L hk' lk' ∧ RBx w2 rb b o n c (x + 1) dep lk' hk') := ⟨hch, hrb⟩
              clear HR2 hch hrb
              go_wp2_with fail
              refine (copyStrs_any ka m kc L w2 (HK.out w2 (below_grown HG2.out.1 (by omega) (Nat.le_refl _))) HML.out hm2).mono ?_
              rintro e w3 ⟨a3, c3, rfl, ho3, hb3⟩
              have HO3 : Hid (w3.ownsRow w2.heap.size 9 1 (.slice a3 m c3) m (strL L)) := ho3
              have H3 : Hid (Below w2.heap.size w2 w3) := hb3
              clear ho3 hb3 g1
              go_upto_region 6 with fail
              have S4 : Hid (Bx (w3.alloc (.cells #[.int .i64 0, .slice a3 m c3] 57)) w3.heap.size 57 #[.int .i64 0, .slice a3 m c3] ∧ Below w2.heap.size w2 (w3.alloc (.cells #[.int .i64 0, .slice a3 m c3] 57)) ∧ (w3.alloc (.cells #[.int .i64 0, .slice a3 m c3] 57)).ownsRow w2.heap.size 9 1 (.slice a3 m c3) m (strL L) ∧ w2.heap.size ≤ w3.heap.size) := ⟨Bx.new _ _ _, H3.out.trans ((below_alloc _ _).mono H3.out.size), own_below HO3.out (below_alloc _ _), H3.out.size⟩
              clear HO3
              generalize (w3.alloc (.cells #[.int .i64 0, .slice a3 m c3] 57)) = w4 at S4 ⊢
              generalize w3.heap.size = nb at S4 ⊢
              clear H3
              go_wp2_with fail
              refine (recountLeaf_any nb m c3 a3 0 w4 S4.out.1).mono ?_
              rintro e w5 ⟨rfl, hw5⟩
              have hnb := S4.out.2.2.2
              have HX5 : Hid (Bx w5 nb 57 #[.int .i64 (m : Int), .slice a3 m c3] ∧ Below w2.heap.size w2 w5 ∧ w5.ownsRow w2.heap.size 9 1 (.slice a3 m c3) m (strL L) ∧ Bx w5 w.heap.size 88 #[.bool true, .slice ka m kc, .slice da dn dc, .int .i64 ct]) := by
                subst hw5
                refine ⟨S4.out.1.set 0 _, S4.out.2.1.setCell hnb _, ?_, (HG2.out.2.below S4.out.2.1).other (by simp; omega) _⟩
                have q := S4.out.2.2.1
                refine ⟨q.1, ?_⟩
                rcases q.2 with q | ⟨g, cap, cur, q1, q2, q3, q4⟩
                · exact Or.inl q
                · refine Or.inr ⟨g, cap, cur, q1, q2, ?_, q4⟩
                  rw [Below.heap_setCell _ _ _ _ (show g ≠ nb from fun e => ?_)]
                  · exact q3
                  · subst e
                    have := S4.out.1
                    unfold Bx at this
                    rw [q3] at this
                    injection this with this
                    injection this with _ this _
                    exact absurd this (by decide)
              clear hw5 S4
              have z0 := HX5.out.1.cell 0
              have g3 := HX5.out.2.2.2.cell 3
              simp at z0 g3
              have HTA : Hid (∃ bs : List Nat, bs.Nodup ∧ TOw w.heap.size w5 (d + 1) (.inl L) (.iface 53 (.pointer (some ⟨nb, 0, none⟩))) bs) := by
                have hz2 := HG2.out.1.size
                refine ⟨nb :: (a3.map (·.block)).toList, leaf_apart HX5.out.1 HX5.out.2.2.1, nb, a3, c3, rfl, by omega, ?_, ?_, rfl⟩
                · rw [← HML.out]; exact HX5.out.1
                · rw [← HML.out]; exact HX5.out.2.2.1.mono hz2
              have HRB : Hid (RBx w5.drew rb b o n c (x + 1) dep lk' hk' ∧ w.grownBy w5.drew (some rb)) := ⟨HC.out.2.below HX5.out.2.1.drew, grown_trans HG2.out.1 (grown_below HX5.out.2.1.drew)⟩
              have HB : Hid (∀ W : World, W.cell? ⟨nb, 0, none⟩ = some (.int .i64 (m : Int)) → Calls Try.prog 83 #[.pointer (some ⟨nb, 0, none⟩)] W fun e w' => e = .returned (.int .i64 (m : Int)) ∧ w' = W) := fun W hW => below_any nb (m : Int) W hW
              by_cases hct : ct = (m : Int)
              · subst hct
                have hq : ((m : Int) == (m : Int)) = true := by simp
                go_upto_region 7 with fail
                go_region_held3 (fun w' => w'.cell? ⟨nb, 0, none⟩ = some (.int .i64 (m : Int)) ∧ w'.cell? ⟨w.heap.size, 3, none⟩ = some (.int .i64 (m : Int))) (go_keep) (first | (go_at_call 83; refine (HB.out _ (by simpa using z0)).mono ?_; rintro e w6 ⟨rfl, rfl⟩) | fail)
                all_goals
                  go_wp2
                  refine bodyPost_ret (v := .tuple #[.iface 53 (.pointer (some ⟨nb, 0, none⟩)), .bool true]) (by simp [results, Try.results71, go_sem]) rfl ⟨HRB.out.2, _, true, rfl, .inl ⟨rfl, .inl L, dep, hk', lk', HYes.out hk' lk' (by omega) HB2.out (by omega) HD.out.1 HC.out.1 trivial, HRB.out.1, (let ⟨bs, h1, h2⟩ := HTA.out; ⟨bs, h1, h2.below (Below.refl _ _).drew⟩)⟩⟩
              · have hq : ((m : Int) == ct) = false := by simp; omega
                go_upto_region 7 with fail
                go_region_held3 (fun w' => w'.cell? ⟨nb, 0, none⟩ = some (.int .i64 (m : Int)) ∧ w'.cell? ⟨w.heap.size, 3, none⟩ = some (.int .i64 ct)) (go_keep) (first | (go_at_call 83; refine (HB.out _ (by simpa using z0)).mono ?_; rintro e w6 ⟨rfl, rfl⟩) | fail)
                all_goals
                  go_wp2
                  refine bodyPost_ret (v := .tuple #[.iface 53 (.pointer (some ⟨nb, 0, none⟩)), .bool false]) (by simp [results, Try.results71, go_sem]) rfl (HNo.out _ HRB.out.2 (fun ⟨t, D', hk', lk', g⟩ => ?_) _)
                  have q := HGL.out t D' hk' lk' g
                  exact hct q.2.2.2.2.2
      · have i2 : ¬ (m : Int) < 2 := by omega
        have i2' : decide ((m : Int) < 2) = false := decide_eq_false i2
        have n2' : decide (m < 2) = false := decide_eq_false hm2'
        clear h2 hpick
        go_enter Try.func71, Try.ntmps71
        go_upto_region 3 with fail
        have S1 : Hid (Bx (w.alloc (.cells #[.bool true, .slice ka m kc, .slice da dn dc, .int .i64 ct] 88)) w.heap.size 88 #[.bool true, .slice ka m kc, .slice da dn dc, .int .i64 ct] ∧ RBx (w.alloc (.cells #[.bool true, .slice ka m kc, .slice da dn dc, .int .i64 ct] 88)) rb b o n c (x + 1) D lk hk ∧ Below w.heap.size w (w.alloc (.cells #[.bool true, .slice ka m kc, .slice da dn dc, .int .i64 ct] 88))) := ⟨Bx.new _ _ _, HR.out.alloc _, below_alloc _ _⟩
        clear HR
        generalize (w.alloc (.cells #[.bool true, .slice ka m kc, .slice da dn dc, .int .i64 ct] 88)) = W at S1 ⊢
        have g2 := S1.out.1.cell 2
        have hWl := S1.out.1.lt
        simp at g2
        by_cases hdn0 : 0 < dn
        · have id0 : (0 : Int) < (dn : Int) := by omega
          have id0' : decide ((0 : Int) < (dn : Int)) = true := decide_eq_true id0
          have nd0' : decide (0 < dn) = true := decide_eq_true hdn0
          go_wp2
          refine bodyPost_ret (v := .tuple #[.nilIface, .bool false]) (by simp [results, Try.results71, go_sem]) rfl (HNo.out _ (grown_below S1.out.2.2) (fun ⟨t, D', hk', lk', g⟩ => by have := HGL.out t D' hk' lk' g; omega) _)
        · have id0 : ¬ (0 : Int) < (dn : Int) := by omega
          have id0' : decide ((0 : Int) < (dn : Int)) = false := decide_eq_false id0
          have nd0' : decide (0 < dn) = false := decide_eq_false hdn0
          go_wp2_with fail
          refine (leafDepth_any rb b o n c (x + 1) dep D lk hk _ S1.out.2.1 hd0).mono ?_
          rintro e w1 ⟨ok, rfl, hg1, hs1, hr1⟩
          have HG1 : Hid (w.grownBy w1 (some rb) ∧ Bx w1 w.heap.size 88 #[.bool true, .slice ka m kc, .slice da dn dc, .int .i64 ct]) := ⟨grown_trans (grown_below S1.out.2.2) hg1, S1.out.1.grown hg1 (fun e => by injection e with e; omega)⟩
          have HR1 : Hid ((ok = true ∧ (D = 0 ∨ D = dep) ∧ RBx w1 rb b o n c (x + 1) dep lk hk) ∨ (ok = false ∧ ¬ (D = 0 ∨ D = dep))) := hr1
          clear hg1 hs1 hr1 g2 S1
          have g1 := HG1.out.2.cell 1
          have hWl1 := HG1.out.2.lt
          simp at g1
          cases ok with
          | false =>
            go_wp2
            refine bodyPost_ret (v := .tuple #[.nilIface, .bool false]) (by simp [results, Try.results71, go_sem]) rfl (HNo.out _ HG1.out.1 (fun ⟨t, D', hk', lk', g⟩ => ?_) _)
            have q := HGL.out t D' hk' lk' g
            rcases HR1.out with ⟨e, _⟩ | ⟨_, e⟩
            · cases e
            · exact e q.2.2.2.1
          | true =>
            have HD : Hid ((D = 0 ∨ D = dep) ∧ RBx w1 rb b o n c (x + 1) dep lk hk) := by
              rcases HR1.out with ⟨_, e⟩ | ⟨e, _⟩
              · exact e
              · cases e
            clear HR1
            go_wp2_with fail
            refine (passKeys_any rb b o n c (x + 1) m kc ka dep lk hk L w1 HD.out.2 HML.out hm2 (fun W' hW' => HK.out W' (below_grown (grown_trans HG1.out.1 hW') (by omega) (Nat.le_refl _)))).mono ?_
            rintro e w2 ⟨ok2, rfl, hg2, hs2, hr2⟩
            have HG2 : Hid (w.grownBy w2 (some rb) ∧ Bx w2 w.heap.size 88 #[.bool true, .slice ka m kc, .slice da dn dc, .int .i64 ct]) := ⟨grown_trans HG1.out.1 hg2, HG1.out.2.grown hg2 (fun e => by injection e with e; omega)⟩
            have HR2 : Hid ((ok2 = true ∧ ∃ hk' lk', Chain hk lk L hk' lk' ∧ RBx w2 rb b o n c (x + 1) dep lk' hk') ∨ (ok2 = false ∧ ∀ hk' lk', ¬ Chain hk lk L hk' lk')) := hr2
            clear hg2 hs2 hr2 g1 HG1
            have g1 := HG2.out.2.cell 1
            have hWl2 := HG2.out.2.lt
            simp at g1
            cases ok2 with
            | false =>
              go_wp2
              refine bodyPost_ret (v := .tuple #[.nilIface, .bool false]) (by simp [results, Try.results71, go_sem]) rfl (HNo.out _ HG2.out.1 (fun ⟨t, D', hk', lk', g⟩ => ?_) _)
              have q := HGL.out t D' hk' lk' g
              rcases HR2.out with ⟨e, _⟩ | ⟨_, e⟩
              · cases e
              · exact e _ _ q.2.2.2.2.1
            | true =>
              obtain ⟨hk', lk', hch, hrb⟩ : ∃ hk' lk', Chain hk lk L hk' lk' ∧ RBx w2 rb b o n c (x + 1) dep lk' hk' := by
                rcases HR2.out with ⟨_, e⟩ | ⟨e, _⟩
                · exact e
                · cases e
              have HC : Hid (Chain hk lk L hk' lk' ∧ RBx w2 rb b o n c (x + 1) dep lk' hk') := ⟨hch, hrb⟩
              clear HR2 hch hrb
              go_wp2_with fail
              refine (copyStrs_any ka m kc L w2 (HK.out w2 (below_grown HG2.out.1 (by omega) (Nat.le_refl _))) HML.out hm2).mono ?_
              rintro e w3 ⟨a3, c3, rfl, ho3, hb3⟩
              have HO3 : Hid (w3.ownsRow w2.heap.size 9 1 (.slice a3 m c3) m (strL L)) := ho3
              have H3 : Hid (Below w2.heap.size w2 w3) := hb3
              clear ho3 hb3 g1
              go_upto_region 6 with fail
              have S4 : Hid (Bx (w3.alloc (.cells #[.int .i64 0, .slice a3 m c3] 57)) w3.heap.size 57 #[.int .i64 0, .slice a3 m c3] ∧ Below w2.heap.size w2 (w3.alloc (.cells #[.int .i64 0, .slice a3 m c3] 57)) ∧ (w3.alloc (.cells #[.int .i64 0, .slice a3 m c3] 57)).ownsRow w2.heap.size 9 1 (.slice a3 m c3) m (strL L) ∧ w2.heap.size ≤ w3.heap.size) := ⟨Bx.new _ _ _, H3.out.trans ((below_alloc _ _).mono H3.out.size), own_below HO3.out (below_alloc _ _), H3.out.size⟩
              clear HO3
              generalize (w3.alloc (.cells #[.int .i64 0, .slice a3 m c3] 57)) = w4 at S4 ⊢
              generalize w3.heap.size = nb at S4 ⊢
              clear H3
              go_wp2_with fail
              refine (recountLeaf_any nb m c3 a3 0 w4 S4.out.1).mono ?_
              rintro e w5 ⟨rfl, hw5⟩
              have hnb := S4.out.2.2.2
              have HX5 : Hid (Bx w5 nb 57 #[.int .i64 (m : Int), .slice a3 m c3] ∧ Below w2.heap.size w2 w5 ∧ w5.ownsRow w2.heap.size 9 1 (.slice a3 m c3) m (strL L) ∧ Bx w5 w.heap.size 88 #[.bool true, .slice ka m kc, .slice da dn dc, .int .i64 ct]) := by
                subst hw5
                refine ⟨S4.out.1.set 0 _, S4.out.2.1.setCell hnb _, ?_, (HG2.out.2.below S4.out.2.1).other (by simp; omega) _⟩
                have q := S4.out.2.2.1
                refine ⟨q.1, ?_⟩
                rcases q.2 with q | ⟨g, cap, cur, q1, q2, q3, q4⟩
                · exact Or.inl q
                · refine Or.inr ⟨g, cap, cur, q1, q2, ?_, q4⟩
                  rw [Below.heap_setCell _ _ _ _ (show g ≠ nb from fun e => ?_)]
                  · exact q3
                  · subst e
                    have := S4.out.1
                    unfold Bx at this
                    rw [q3] at this
                    injection this with this
                    injection this with _ this _
                    exact absurd this (by decide)
              clear hw5 S4
              have z0 := HX5.out.1.cell 0
              have g3 := HX5.out.2.2.2.cell 3
              simp at z0 g3
              have HTA : Hid (∃ bs : List Nat, bs.Nodup ∧ TOw w.heap.size w5 (d + 1) (.inl L) (.iface 53 (.pointer (some ⟨nb, 0, none⟩))) bs) := by
                have hz2 := HG2.out.1.size
                refine ⟨nb :: (a3.map (·.block)).toList, leaf_apart HX5.out.1 HX5.out.2.2.1, nb, a3, c3, rfl, by omega, ?_, ?_, rfl⟩
                · rw [← HML.out]; exact HX5.out.1
                · rw [← HML.out]; exact HX5.out.2.2.1.mono hz2
              have HRB : Hid (RBx w5.drew rb b o n c (x + 1) dep lk' hk' ∧ w.grownBy w5.drew (some rb)) := ⟨HC.out.2.below HX5.out.2.1.drew, grown_trans HG2.out.1 (grown_below HX5.out.2.1.drew)⟩
              have HB : Hid (∀ W : World, W.cell? ⟨nb, 0, none⟩ = some (.int .i64 (m : Int)) → Calls Try.prog 83 #[.pointer (some ⟨nb, 0, none⟩)] W fun e w' => e = .returned (.int .i64 (m : Int)) ∧ w' = W) := fun W hW => below_any nb (m : Int) W hW
              by_cases hct : ct = (m : Int)
              · subst hct
                have hq : ((m : Int) == (m : Int)) = true := by simp
                go_upto_region 7 with fail
                go_region_held3 (fun w' => w'.cell? ⟨nb, 0, none⟩ = some (.int .i64 (m : Int)) ∧ w'.cell? ⟨w.heap.size, 3, none⟩ = some (.int .i64 (m : Int))) (go_keep) (first | (go_at_call 83; refine (HB.out _ (by simpa using z0)).mono ?_; rintro e w6 ⟨rfl, rfl⟩) | fail)
                all_goals
                  go_wp2
                  refine bodyPost_ret (v := .tuple #[.iface 53 (.pointer (some ⟨nb, 0, none⟩)), .bool true]) (by simp [results, Try.results71, go_sem]) rfl ⟨HRB.out.2, _, true, rfl, .inl ⟨rfl, .inl L, dep, hk', lk', HYes.out hk' lk' (by omega) HB2.out (by omega) HD.out.1 HC.out.1 trivial, HRB.out.1, (let ⟨bs, h1, h2⟩ := HTA.out; ⟨bs, h1, h2.below (Below.refl _ _).drew⟩)⟩⟩
              · have hq : ((m : Int) == ct) = false := by simp; omega
                go_upto_region 7 with fail
                go_region_held3 (fun w' => w'.cell? ⟨nb, 0, none⟩ = some (.int .i64 (m : Int)) ∧ w'.cell? ⟨w.heap.size, 3, none⟩ = some (.int .i64 ct)) (go_keep) (first | (go_at_call 83; refine (HB.out _ (by simpa using z0)).mono ?_; rintro e w6 ⟨rfl, rfl⟩) | fail)
                all_goals
                  go_wp2
                  refine bodyPost_ret (v := .tuple #[.iface 53 (.pointer (some ⟨nb, 0, none⟩)), .bool false]) (by simp [results, Try.results71, go_sem]) rfl (HNo.out _ HRB.out.2 (fun ⟨t, D', hk', lk', g⟩ => ?_) _)
                  have q := HGL.out t D' hk' lk' g
                  exact hct q.2.2.2.2.2
end Go.Proofs.Ytakemeccigpbaaa

namespace Go.Proofs.Ytakemeccigpbaaa
open Go.RowKit Go.Deep
set_option linter.unusedVariables false
set_option maxRecDepth 100000

theorem TOw.mono {B B' : Nat} {w : World} (hB : B' ≤ B) : ∀ {d : Nat} {t : Ro d} {v : Value} {bs : List Nat}, TOw B w d t v bs → TOw B' w d t v bs
  | 0, _, _, _, h => h
  | d + 1, .inl t, v, bs, h => by
    obtain ⟨b, ka, kc, rfl, hb, hx, ho, rfl⟩ := h
    exact ⟨b, ka, kc, rfl, by omega, hx, ho.mono hB, rfl⟩
  | d + 1, .inr l, v, bs, h => by
    obtain ⟨b, g, kc, xs, bss, rfl, hb, hx, ho, hl, hbl, rfl, hall⟩ := h
    refine ⟨b, g, kc, xs, bss, rfl, by omega, hx, ho.mono hB, hl, hbl, rfl, fun k h => ?_⟩
    obtain ⟨u, us, e1, e2, e3⟩ := hall k h
    exact ⟨u, us, e1, e2, TOw.mono hB e3⟩

/-- The memory of readInner's loop, its children owned. -/
structure InSo (w wr : World) (rb nb : Nat) (nd : Array Value) (d : Nat) (ts : List (Ro d)) (k : Nat) (ca : Option Addr) (cc : Nat) (xs : List Value) (bss : List (List Nat)) : Prop where
  st : InSt w wr rb nb nd d ts k ca cc xs
  bl : bss.length = ts.length
  ndp : bss.flatten.Nodup
  av : ∀ bb, bb ∈ bss.flatten → nb + 1 ≤ bb ∧ bb < wr.heap.size ∧ (Value.slice ca k cc).ownBlock ≠ some bb
  own : ∀ j (h : j < ts.length), ∃ u us, xs[j]? = some u ∧ bss[j]? = some us ∧ TOw (nb + 1) wr d ts[j] u us

theorem mem_flat {bss : List (List Nat)} {us : List Nat} {j : Nat} (h : bss[j]? = some us) {b : Nat} (hb : b ∈ us) : b ∈ bss.flatten := by
  rw [List.mem_flatten]
  exact ⟨us, List.mem_of_getElem? h, hb⟩

theorem InSo.read {w wr w1 : World} {rb nb : Nat} {nd : Array Value} {d : Nat} {ts : List (Ro d)} {k : Nat} {ca : Option Addr} {cc : Nat} {xs : List Value} {bss : List (List Nat)} (h : InSo w wr rb nb nd d ts k ca cc xs bss) (hg : wr.grownBy w1 (some rb)) : InSo w w1 rb nb nd d ts k ca cc xs bss := by
  have h1 := h.st.rlt
  have h2 := h.st.lt
  have hz := hg.size
  refine ⟨h.st.read hg, h.bl, h.ndp, fun bb hb => ?_, fun j hj => ?_⟩
  · obtain ⟨q1, q2, q3⟩ := h.av bb hb
    exact ⟨q1, by omega, q3⟩
  · obtain ⟨u, us, e1, e2, e3⟩ := h.own j hj
    refine ⟨u, us, e1, e2, e3.keep (fun bb hb => ?_)⟩
    obtain ⟨q1, q2, q3⟩ := h.av bb (mem_flat e2 hb)
    exact hg.block bb q2 (fun e => by injection e with e; omega)

theorem InSo.grow {w wr w1 w5 : World} {rb nb : Nat} {nd : Array Value} {d : Nat} {ts : List (Ro d)} {k : Nat} {ca : Option Addr} {cc : Nat} {xs : List Value} {bss : List (List Nat)} (h : InSo w wr rb nb nd d ts k ca cc xs bss) (hg0 : wr.grownBy w1 (some rb)) {t : Ro d} {v : Value} {us0 : List Nat} (ht : TOw wr.heap.size w1 d t v us0) (hnd : us0.Nodup) {O : Obj} (hg : (w1.alloc O).grownBy w5 (Value.slice ca k cc).ownBlock) {a' : Option Addr} {c' : Nat}
    (ho : w5.ownsRow (nb + 1) 59 1 (.slice a' (k + 1) c') (k + 1) (xs ++ [v])) (hat : (Value.slice a' (k + 1) c').ownBlock = (Value.slice ca k cc).ownBlock ∨ (Value.slice a' (k + 1) c').ownBlock = some (w1.alloc O).heap.size) :
    InSo w (w5.setCell ⟨nb, 1, none⟩ (.slice a' (k + 1) c')) rb nb nd d (ts ++ [t]) (k + 1) a' c' (xs ++ [v]) (bss ++ [us0]) := by
  have h1 := h.st.rlt
  have h2 := h.st.lt
  have hr := h.read hg0
  have hlo := own_lt h.st.own
  have hz0 := hg0.size
  have hz := hg.size
  have hnl := h.st.nbx.lt
  have hza : (w1.alloc O).heap.size = w1.heap.size + 1 := by simp
  have hlt0 := TOw.lt ht
  have hb5 : ∀ bb, bb < w1.heap.size → (Value.slice ca k cc).ownBlock ≠ some bb → bb ≠ nb → (w5.setCell ⟨nb, 1, none⟩ (.slice a' (k + 1) c')).heap[bb]? = w1.heap[bb]? := fun bb hlt hn1 hn2 => by
    rw [Below.heap_setCell _ _ _ _ (show bb ≠ nb from hn2), hg.block bb (by omega) (fun e => hn1 e.symm), Below.heap_alloc _ _ _ hlt]
  have hs5 : (w5.setCell ⟨nb, 1, none⟩ (.slice a' (k + 1) c')).heap.size = w5.heap.size := by simp [World.setCell]
  have hnew : ∀ bb, bb < w1.heap.size → (Value.slice ca k cc).ownBlock ≠ some bb → (Value.slice a' (k + 1) c').ownBlock ≠ some bb := fun bb hlt hn => by
    rcases hat with e | e
    · rw [e]; exact hn
    · rw [e]
      intro q
      injection q with q
      omega
  have hold : ∀ bb, wr.heap.size ≤ bb → (Value.slice ca k cc).ownBlock ≠ some bb := fun bb hle e => by have := hlo bb e; omega
  refine ⟨h.st.grow hg0 (TAt.mono (Nat.le_refl _) (fun bb hb _ => ⟨(hlt0 bb hb).1, rfl⟩) (TOw.tat ht)) hg ho hat, by rw [List.length_append, List.length_append, h.bl]; rfl, ?_, fun bb hb => ?_, fun j hj => ?_⟩
  · rw [List.flatten_append, List.nodup_append]
    refine ⟨h.ndp, by simpa using hnd, fun x hx y hy e => ?_⟩
    subst e
    have q1 := (h.av x hx).2.1
    have q2 := (hlt0 x (by simpa using hy)).1
    omega
  · rw [List.flatten_append, List.mem_append] at hb
    rcases hb with hb | hb
    · obtain ⟨q1, q2, q3⟩ := hr.av bb hb
      exact ⟨q1, by rw [hs5]; omega, hnew bb q2 q3⟩
    · obtain ⟨q1, q2⟩ := hlt0 bb (by simpa using hb)
      exact ⟨by omega, by rw [hs5]; omega, hnew bb q2 (hold bb q1)⟩
  · rw [List.length_append] at hj
    simp at hj
    have hxl : xs.length = k := by have := h.st.own.1; omega
    have hlen := h.st.len
    by_cases e : j = ts.length
    · subst e
      refine ⟨v, us0, by rw [hlen, List.getElem?_append_right (by omega), hxl]; simp, by rw [List.getElem?_append_right (by rw [h.bl]; omega), h.bl]; simp, ?_⟩
      rw [List.getElem_append_right (by omega)]
      simp only [Nat.sub_self, List.getElem_cons_zero]
      refine TOw.mono (by omega) (TOw.keep ht (fun bb hb => ?_))
      obtain ⟨q1, q2⟩ := hlt0 bb hb
      exact hb5 bb q2 (hold bb q1) (by omega)
    · obtain ⟨u, us, e1, e2, e3⟩ := hr.own j (by omega)
      refine ⟨u, us, by rw [List.getElem?_append_left (by omega)]; exact e1, by rw [List.getElem?_append_left (by rw [h.bl]; omega)]; exact e2, ?_⟩
      rw [List.getElem_append_left (by omega)]
      refine TOw.keep e3 (fun bb hb => ?_)
      obtain ⟨q1, q2, q3⟩ := hr.av bb (mem_flat e2 hb)
      exact hb5 bb q2 q3 (by omega)

/-- .. whatever its blocks. -/
def TOx (B : Nat) (w : World) (d : Nat) (t : Ro d) (v : Value) : Prop := ∃ bs : List Nat, bs.Nodup ∧ TOw B w d t v bs
theorem TOx.below {B : Nat} {w w' : World} {d : Nat} {t : Ro d} {v : Value} (h : TOx B w d t v) (hb : Below w.heap.size w w') : TOx B w' d t v :=
  let ⟨bs, h1, h2⟩ := h
  ⟨bs, h1, h2.below hb⟩
theorem TOx.tat {B : Nat} {w : World} {d : Nat} {t : Ro d} {v : Value} (h : TOx B w d t v) : TAt (fun b => B ≤ b) w d t v :=
  let ⟨bs, h1, h2⟩ := h
  TAt.mono (Nat.le_refl _) (fun bb hb _ => ⟨(TOw.lt h2 bb hb).1, rfl⟩) (TOw.tat h2)
def InSx (w wr : World) (rb nb : Nat) (nd : Array Value) (d : Nat) (ts : List (Ro d)) (k : Nat) (ca : Option Addr) (cc : Nat) (xs : List Value) : Prop := ∃ bss, InSo w wr rb nb nd d ts k ca cc xs bss

section
variable {w wr w1 w2 w5 : World} {rb nb : Nat} {nd : Array Value} {d : Nat} {ts : List (Ro d)} {k : Nat} {ca : Option Addr} {cc : Nat} {xs : List Value}
theorem InSx.st (h : InSx w wr rb nb nd d ts k ca cc xs) : InSt w wr rb nb nd d ts k ca cc xs := let ⟨_, h⟩ := h; h.st
theorem InSx.read (h : InSx w wr rb nb nd d ts k ca cc xs) (hg : wr.grownBy w1 (some rb)) : InSx w w1 rb nb nd d ts k ca cc xs := let ⟨bss, h⟩ := h; ⟨bss, h.read hg⟩
theorem InSx.nil (h : InSt w wr rb nb nd d [] 0 none 0 []) : InSx w wr rb nb nd d [] 0 none 0 [] := ⟨[], h, rfl, by simp, fun bb hb => by simp at hb, fun j hj => absurd hj (Nat.not_lt_zero _)⟩
theorem InSx.grow (h : InSx w wr rb nb nd d ts k ca cc xs) (hg0 : wr.grownBy w1 (some rb)) {t : Ro d} {v : Value} (ht : TOx wr.heap.size w1 d t v) {O : Obj} (hg : (w1.alloc O).grownBy w5 (Value.slice ca k cc).ownBlock) {a' : Option Addr} {c' : Nat}
    (ho : w5.ownsRow (nb + 1) 59 1 (.slice a' (k + 1) c') (k + 1) (xs ++ [v])) (hat : (Value.slice a' (k + 1) c').ownBlock = (Value.slice ca k cc).ownBlock ∨ (Value.slice a' (k + 1) c').ownBlock = some (w1.alloc O).heap.size) :
    InSx w (w5.setCell ⟨nb, 1, none⟩ (.slice a' (k + 1) c')) rb nb nd d (ts ++ [t]) (k + 1) a' c' (xs ++ [v]) :=
  let ⟨bss, h⟩ := h
  let ⟨us, h1, h2⟩ := ht
  ⟨bss ++ [us], h.grow hg0 h2 h1 hg ho hat⟩
theorem InSx.fin {g : Nat} {A : Int} (h : InSx w wr rb nb nd d ts k (some ⟨g, 0, none⟩) cc xs) (hgr : wr.grownBy w2 (some nb)) (hx : Bx w2 nb 96 #[.int .i64 A, .slice (some ⟨g, 0, none⟩) k cc]) (hA : A = ((ts.flatMap (keysR d)).length : Int)) (hk : 0 < k) : TOx w.heap.size w2.drew (d + 1) (.inr ts) (.iface 91 (.pointer (some ⟨nb, 0, none⟩))) := by
  obtain ⟨bss, h⟩ := h
  have hlt := h.st.lt
  have hgo := own_lt h.st.own g rfl
  have hlen := h.st.len
  refine ⟨nb :: g :: bss.flatten, ?_, nb, g, cc, xs, bss, rfl, by omega, ?_, ?_, by omega, h.bl, rfl, fun j hj => ?_⟩
  · rw [List.nodup_cons, List.nodup_cons]
    refine ⟨fun hm => ?_, fun hm => (h.av g hm).2.2 rfl, h.ndp⟩
    rw [List.mem_cons] at hm
    rcases hm with hm | hm
    · omega
    · have := (h.av nb hm).1
      omega
  · rw [← hA, hlen]
    exact hx
  · rw [hlen]
    refine World.ownsRow.mono (base := nb + 1) (own_keep h.st.own (fun g' e => ?_)) (by omega)
    injection e with e
    subst e
    exact hgr.block g hgo.2 (fun e => by injection e with e; omega)
  · obtain ⟨u, us, e1, e2, e3⟩ := h.own j hj
    refine ⟨u, us, e1, e2, TOw.mono (show w.heap.size ≤ nb + 1 by omega) (TOw.keep e3 (fun bb hb => ?_))⟩
    obtain ⟨q1, q2, q3⟩ := h.av bb (mem_flat e2 hb)
    exact hgr.block bb q2 (fun e => by injection e with e; omega)
end
end Go.Proofs.Ytakemeccigpbaaa

namespace Go.Proofs.Ytakemeccigpbaaa
open Go.RowKit Go.Deep
set_option linter.unusedVariables false
set_option maxRecDepth 100000

set_option maxHeartbeats 8000000 in
theorem readInnerO_any (N : Nat → Tn) (rb b o n c x : Nat) (dep D : Int) (hk : Bool) (lk : ByteArray) (d : Nat) (w : World) (ka da : Option Addr) (kc dc : Nat) (h : RBx w rb b o n c (x + 1) D lk hk) (hx : x < n) (hn : n ≤ 5000) (hlf : (N x).lf = false) (hfit : TnFit (N x)) (hK : ∀ W : World, Below rb w W → RdS W ka (N x).kn (N x).ks) (hKd : ∀ W : World, Below rb w W → Rd .i64 W da (N x).dn (N x).kd) (hd0 : 0 ≤ dep) (hd1 : dep + 1 ≤ 100000)
    (hread : ∀ (W : World) (y : Nat) (D2 : Int) (lk2 : ByteArray) (hk2 : Bool), Below rb w W → x + 1 ≤ y → y ≤ n → RBx W rb b o n c y D2 lk2 hk2 → Calls Try.prog 52 #[.pointer (some ⟨rb, 0, none⟩), .int .i64 (dep + 1)] W (RetRo N rb b o n c y (dep + 1) D2 hk2 lk2 d W)) :
    Calls Try.prog 72 #[.pointer (some ⟨rb, 0, none⟩), .agg #[.bool false, .slice ka (N x).kn kc, .slice da (N x).dn dc, .int .i64 (N x).ct], .int .i64 dep] w (RetRo N rb b o n c x dep D hk lk (d + 1) w) := by
  have HR : Hid (RBx w rb b o n c (x + 1) D lk hk) := h
  have hrl := h.lt
  have HK : Hid ((∀ W : World, Below rb w W → RdS W ka (N x).kn (N x).ks) ∧ (∀ W : World, Below rb w W → Rd .i64 W da (N x).dn (N x).kd)) := ⟨hK, hKd⟩
  have HRead : Hid (∀ (W : World) (y : Nat) (D2 : Int) (lk2 : ByteArray) (hk2 : Bool), Below rb w W → x + 1 ≤ y → y ≤ n → RBx W rb b o n c y D2 lk2 hk2 → Calls Try.prog 52 #[.pointer (some ⟨rb, 0, none⟩), .int .i64 (dep + 1)] W (RetRo N rb b o n c y (dep + 1) D2 hk2 lk2 d W)) := hread
  have HGI : Hid (∀ (t : Ro (d + 1)) D' hk' lk', Good N n x dep D hk lk (d + 1) t D' hk' lk' → ∃ l : List (Ro d), t = .inr l ∧ l.length = (N x).dn ∧ 2 ≤ l.length ∧ l.length ≤ 4 ∧ (N x).kn + 1 = l.length ∧ (N x).ct = ((l.flatMap (keysR d)).length : Int)) := fun t D' hk' lk' g => good_inner hlf g
  have HLf : Hid ((N x).lf = false) := hlf
  have hm2 : (N x).kn ≤ 1048576 := hfit.1
  have hd2 : (N x).dn ≤ 1048576 := hfit.2
  have HNo : Hid (∀ w' : World, w.grownBy w' (some rb) → ¬ (∃ (t : Ro (d + 1)) (D' : Int) (hk' : Bool) (lk' : ByteArray), Good N n x dep D hk lk (d + 1) t D' hk' lk') → ∀ v, RetRo N rb b o n c x dep D hk lk (d + 1) w (.returned (.tuple #[v, .bool false])) w') := fun w' hg hn v => ⟨hg, v, false, rfl, Or.inr ⟨rfl, hn⟩⟩
  obtain ⟨m, hm⟩ : ∃ m, (N x).kn = m := ⟨_, rfl⟩
  obtain ⟨dn, hdn⟩ : ∃ dn, (N x).dn = dn := ⟨_, rfl⟩
  obtain ⟨ct, hct⟩ : ∃ ct, (N x).ct = ct := ⟨_, rfl⟩
  have HEq : Hid ((N x).kn = m ∧ (N x).dn = dn ∧ (N x).ct = ct) := ⟨hm, hdn, hct⟩
  rw [hm] at hm2
  rw [hdn] at hd2
  rw [hm, hdn, hct]
  rw [hm, hdn] at HK
  clear h hK hKd hread hlf hfit hm hdn hct
  by_cases hbad : dn < 2 ∨ 4 < dn ∨ m + 1 ≠ dn
  · have HNG : Hid (¬ (∃ (t : Ro (d + 1)) (D' : Int) (hk' : Bool) (lk' : ByteArray), Good N n x dep D hk lk (d + 1) t D' hk' lk')) := by
      rintro ⟨t, D', hk', lk', g⟩
      obtain ⟨l, _, e1, e2, e3, e4, _⟩ := HGI.out t D' hk' lk' g
      obtain ⟨q1, q2, _⟩ := HEq.out
      omega
    have hcases : (dn < 2) ∨ (¬ dn < 2 ∧ 4 < dn) ∨ (¬ dn < 2 ∧ ¬ 4 < dn ∧ m + 1 ≠ dn) := by omega
    clear hbad
    rcases hcases with h1 | ⟨h1, h2⟩ | ⟨h1, h2, h3⟩
    · have i1 : (dn : Int) < 2 := by omega
      have i1' : decide ((dn : Int) < 2) = true := decide_eq_true i1
      have n1' : decide (dn < 2) = true := decide_eq_true h1
      go_enter Try.func72, Try.ntmps72
      go_wp2
      refine bodyPost_ret (v := .tuple #[.nilIface, .bool false]) (by simp [results, Try.results72, go_sem]) rfl (HNo.out _ (grown_below (below_alloc _ _)) HNG.out _)
    · have i1 : ¬ (dn : Int) < 2 := by omega
      have i1' : decide ((dn : Int) < 2) = false := decide_eq_false i1
      have n1' : decide (dn < 2) = false := decide_eq_false h1
      have i2 : (4 : Int) < (dn : Int) := by omega
      have i2' : decide ((4 : Int) < (dn : Int)) = true := decide_eq_true i2
      have n2' : decide (4 < dn) = true := decide_eq_true h2
      go_enter Try.func72, Try.ntmps72
      go_wp2
      refine bodyPost_ret (v := .tuple #[.nilIface, .bool false]) (by simp [results, Try.results72, go_sem]) rfl (HNo.out _ (grown_below (below_alloc _ _)) HNG.out _)
    · have i1 : ¬ (dn : Int) < 2 := by omega
      have i1' : decide ((dn : Int) < 2) = false := decide_eq_false i1
      have n1' : decide (dn < 2) = false := decide_eq_false h1
      have i2 : ¬ (4 : Int) < (dn : Int) := by omega
      have i2' : decide ((4 : Int) < (dn : Int)) = false := decide_eq_false i2
      have n2' : decide (4 < dn) = false := decide_eq_false h2
      have hwr : IntKind.i64.wrap ((dn : Int) - 1) = (dn : Int) - 1 := by rw [IntKind.wrap_i64]; omega
      have i3 : ((m : Int) != (dn : Int) - 1) = true := by simp; omega
      go_enter Try.func72, Try.ntmps72
      go_wp2
      refine bodyPost_ret (v := .tuple #[.nilIface, .bool false]) (by simp [results, Try.results72, go_sem]) rfl (HNo.out _ (grown_below (below_alloc _ _)) HNG.out _)
  · have h1 : ¬ dn < 2 := by omega
    have h2 : ¬ 4 < dn := by omega
    have h3 : m + 1 = dn := by omega
    have i1 : ¬ (dn : Int) < 2 := by omega
    have i1' : decide ((dn : Int) < 2) = false := decide_eq_false i1
    have n1' : decide (dn < 2) = false := decide_eq_false h1
    have i2 : ¬ (4 : Int) < (dn : Int) := by omega
    have i2' : decide ((4 : Int) < (dn : Int)) = false := decide_eq_false i2
    have n2' : decide (4 < dn) = false := decide_eq_false h2
    have hwr : IntKind.i64.wrap ((dn : Int) - 1) = (dn : Int) - 1 := by rw [IntKind.wrap_i64]; omega
    have i3 : ((m : Int) != (dn : Int) - 1) = false := by simp; omega
    have H3 : Hid (m + 1 = dn) := h3
    clear hbad h3
    obtain ⟨bd, od, rfl⟩ : ∃ bd od, da = some ⟨bd, od, none⟩ := by
      rcases HK.out.2 w (Below.refl _ _) with q | ⟨bd, od, e, _⟩
      · omega
      · exact ⟨bd, od, e⟩
    have HKd2 : Hid (∀ W : World, Below rb w W → ∀ i, i < dn → W.cell? ⟨bd, od + i, none⟩ = some (.int .i64 ((N x).kd i))) := by
      intro W hW i hi
      rcases HK.out.2 W hW with q | ⟨bd', od', e, hc⟩
      · omega
      · injection e with e
        injection e with e1 e2
        subst e1
        subst e2
        exact hc i hi
    obtain ⟨bk, oo, rfl⟩ : ∃ bk oo, ka = some ⟨bk, oo, none⟩ := by
      rcases HK.out.1 w (Below.refl _ _) with q | ⟨bk, oo, e, _⟩
      · have := H3.out
        omega
      · exact ⟨bk, oo, e⟩
    go_enter Try.func72, Try.ntmps72
    go_upto_region 5 with fail
    have S1 : Hid (InSx w ((w.alloc (.cells #[.bool false, .slice (some ⟨bk, oo, none⟩) m kc, .slice (some ⟨bd, od, none⟩) dn dc, .int .i64 ct] 88)).alloc (.cells #[.int .i64 0, .slice none 0 0] 96)) rb (w.heap.size + 1) #[.bool false, .slice (some ⟨bk, oo, none⟩) m kc, .slice (some ⟨bd, od, none⟩) dn dc, .int .i64 ct] d [] 0 none 0 [] ∧ RBx ((w.alloc (.cells #[.bool false, .slice (some ⟨bk, oo, none⟩) m kc, .slice (some ⟨bd, od, none⟩) dn dc, .int .i64 ct] 88)).alloc (.cells #[.int .i64 0, .slice none 0 0] 96)) rb b o n c (x + 1) D lk hk) := by
      refine ⟨InSx.nil ⟨(Bx.new _ _ _).alloc _, ?_, by omega, hrl, World.ownsRow_nil _ _ _ _, fun j hj => absurd hj (Nat.not_lt_zero _), grown_below ((below_alloc _ _).alloc (by simp) _), rfl⟩, (HR.out.alloc _).alloc _⟩
      have q := Bx.new (w.alloc (.cells #[.bool false, .slice (some ⟨bk, oo, none⟩) m kc, .slice (some ⟨bd, od, none⟩) dn dc, .int .i64 ct] 88)) #[.int .i64 0, .slice none 0 0] 96
      simpa using q
    clear HR
    generalize ((w.alloc (.cells #[.bool false, .slice (some ⟨bk, oo, none⟩) m kc, .slice (some ⟨bd, od, none⟩) dn dc, .int .i64 ct] 88)).alloc (.cells #[.int .i64 0, .slice none 0 0] 96)) = W at S1 ⊢
    have g2 := S1.out.1.st.gb.cell 2
    have gl := S1.out.1.st.gb.lt
    simp at g2
    go_wp2
    go_loopw [36] (fun i wr => ∃ (k : Nat) (ts : List (Ro d)) (Dk : Int) (hkk : Bool) (lkk : ByteArray) (ca : Option Addr) (cc : Nat) (xs : List Value), k ≤ dn ∧ i = .int .i64 k ∧ InSx w wr rb (w.heap.size + 1) #[.bool false, .slice (some ⟨bk, oo, none⟩) m kc, .slice (some ⟨bd, od, none⟩) dn dc, .int .i64 ct] d ts k ca cc xs ∧ RBx wr rb b o n c (x + 1 + (ts.map (nodesR d)).sum) Dk lkk hkk ∧ KGood N n x dep D hk lk d ts Dk hkk lkk) (fun i _ => dn - (intOf i).toNat)
    case atStart => exact ⟨0, [], D, hk, lk, none, 0, [], Nat.zero_le _, rfl, S1.out.1, S1.out.2, ⟨by simp; omega, fun j hj => absurd hj (Nat.not_lt_zero _), fun j hj => absurd hj (Nat.not_lt_zero _), fun j hj => absurd hj (Nat.not_lt_zero _), .inl ⟨rfl, rfl⟩, ⟨rfl, rfl⟩⟩⟩
    case round =>
      obtain ⟨k, ts, Dk, hkk, lkk, ca, cc, xs, hkd, rfl, hst, hrb, hkg⟩ := hrel
      clear S1 g2 gl
      have HST : Hid (InSx w wr rb (w.heap.size + 1) #[.bool false, .slice (some ⟨bk, oo, none⟩) m kc, .slice (some ⟨bd, od, none⟩) dn dc, .int .i64 ct] d ts k ca cc xs ∧ RBx wr rb b o n c (x + 1 + (ts.map (nodesR d)).sum) Dk lkk hkk) := ⟨hst, hrb⟩
      have HKG : Hid (KGood N n x dep D hk lk d ts Dk hkk lkk) := hkg
      have r1 := hrb.cell 1
      have hrl2 := hrb.lt
      have hle := hkg.le
      obtain ⟨y, hy⟩ : ∃ y, y = x + 1 + (ts.map (nodesR d)).sum := ⟨_, rfl⟩
      rw [← hy] at r1 hle
      have r1' : wr.cell? ⟨rb, 1, none⟩ = some (.int .i64 (y : Int)) := r1
      have HY : Hid (y = x + 1 + (ts.map (nodesR d)).sum) := hy
      clear r1 hst hrb hkg hy
      by_cases hlt : k < dn
      · have hk0 : (0 : Int) ≤ (k : Int) := by omega
        have hkI : (k : Int) < (dn : Int) := by omega
        have ck := HKd2.out wr (below_grown HST.out.1.st.gr (by omega) (Nat.le_refl _)) k hlt
        by_cases hnum : (N x).kd k = (y : Int)
        · have HKd : Hid ((N x).kd ts.length = ((x + 1 + (ts.map (nodesR d)).sum : Nat) : Int)) := by
            show (N x).kd ts.length = ((x + 1 + (ts.map (nodesR d)).sum : Nat) : Int)
            rw [HST.out.1.st.len, hnum, HY.out]
          rw [hnum] at ck
          clear hnum
          go_wp2_with fail
          refine (HRead.out wr y Dk lkk hkk (below_grown HST.out.1.st.gr (by omega) (Nat.le_refl _)) (by have := HY.out; omega) (by omega) (by rw [HY.out]; exact HST.out.2)).mono ?_
          rintro e w1 ⟨hg1, v, ok, rfl, hr⟩
          have HS1 : Hid (InSx w w1 rb (w.heap.size + 1) #[.bool false, .slice (some ⟨bk, oo, none⟩) m kc, .slice (some ⟨bd, od, none⟩) dn dc, .int .i64 ct] d ts k ca cc xs) := HST.out.1.read hg1
          cases ok with
          | false =>
            have HNG : Hid (¬ (∃ (t : Ro (d + 1)) (D' : Int) (hk' : Bool) (lk' : ByteArray), Good N n x dep D hk lk (d + 1) t D' hk' lk')) := by
              rintro ⟨t2, D2, hk2, lk2, g⟩
              obtain ⟨l, rfl, e1, _⟩ := HGI.out t2 D2 hk2 lk2 g
              have hlt2 : ts.length < l.length := by rw [HST.out.1.st.len, e1, HEq.out.2.1]; exact hlt
              obtain ⟨_, q2, h2, l2, q3⟩ := good_next hd0 g HKG.out hlt2
              rcases hr with ⟨e, _⟩ | ⟨_, e⟩
              · cases e
              · rw [HY.out] at e
                exact e ⟨_, _, _, _, q3⟩
            have HNd : Hid (∀ z, w.grownBy (w1.drewN z) (some rb)) := fun z => grown_trans (grown_trans HST.out.1.st.gr hg1) (grown_below (below_drewN (Below.refl _ _) z))
            clear hr hg1 r1' ck
            go_wp2
            go_quiet (fail)
            go_wp2
            refine bodyPost_ret (v := .tuple #[.nilIface, .bool false]) (by simp [results, Try.results72, go_sem]) rfl (HNo.out _ (HNd.out _) HNG.out _)
          | true =>
            obtain ⟨t, D', hk', lk', hgood, hrb1, hta⟩ : ∃ (t : Ro d) (D' : Int) (hk' : Bool) (lk' : ByteArray), Good N n y (dep + 1) Dk hkk lkk d t D' hk' lk' ∧ RBx w1 rb b o n c (y + nodesR d t) D' lk' hk' ∧ TOx wr.heap.size w1 d t v := by
              rcases hr with ⟨_, e⟩ | ⟨e, _⟩
              · exact e
              · cases e
            rw [HY.out] at hgood hrb1
            have HG1 : Hid (wr.grownBy w1 (some rb) ∧ Good N n (x + 1 + (ts.map (nodesR d)).sum) (dep + 1) Dk hkk lkk d t D' hk' lk' ∧ RBx w1 rb b o n c (x + 1 + (ts.map (nodesR d)).sum + nodesR d t) D' lk' hk' ∧ TOx wr.heap.size w1 d t v) := ⟨hg1, hgood, hrb1, hta⟩
            have HNd : Hid (∀ z, w.grownBy (w1.drewN z) (some rb)) := fun z => grown_trans (grown_trans HST.out.1.st.gr hg1) (grown_below (below_drewN (Below.refl _ _) z))
            clear hr hg1 r1' ck hgood hrb1 hta
            have g1 := HS1.out.st.gb.cell 1
            have hgl1 := HS1.out.st.gb.lt
            simp at g1
            obtain ⟨hh, hbal, _⟩ := HG1.out.2.1.bal
            rw [show decide (dep + 1 = 0) = false from decide_eq_false (by omega)] at hbal
            by_cases hk00 : k = 0
            · have jk : ¬ (0 : Int) < (k : Int) := by omega
              have jk' : decide ((0 : Int) < (k : Int)) = false := decide_eq_false jk
              have nk' : decide (0 < k) = false := decide_eq_false (by omega)
              have HKG2 : Hid (KGood N n x dep D hk lk d (ts ++ [t]) D' hk' lk') := HKG.out.more hd0 HG1.out.2.1 HKd.out (fun hne => absurd (HST.out.1.st.len.trans hk00) hne)
              obtain ⟨p, ev⟩ : ∃ p, v = .iface 53 (.pointer (some p)) ∨ v = .iface 91 (.pointer (some p)) := by
                rcases least_call (TOx.tat HG1.out.2.2.2) hbal with ⟨p, e, _⟩ | ⟨p, e, _⟩
                · exact ⟨p, Or.inl e⟩
                · exact ⟨p, Or.inr e⟩
              clear hbal hk00
              rcases ev with rfl | rfl
              · go_wp2
                go_quiet (fail)
                have HS2 : Hid (InSx w (w1.drewN nq) rb (w.heap.size + 1) #[.bool false, .slice (some ⟨bk, oo, none⟩) m kc, .slice (some ⟨bd, od, none⟩) dn dc, .int .i64 ct] d ts k ca cc xs) := HS1.out.read (grown_below (below_drewN (Below.refl _ _) nq))
                have HG2 : Hid (wr.grownBy (w1.drewN nq) (some rb) ∧ Good N n (x + 1 + (ts.map (nodesR d)).sum) (dep + 1) Dk hkk lkk d t D' hk' lk' ∧ RBx (w1.drewN nq) rb b o n c (x + 1 + (ts.map (nodesR d)).sum + nodesR d t) D' lk' hk' ∧ TOx wr.heap.size (w1.drewN nq) d t (.iface 53 (.pointer (some p)))) := ⟨grown_trans HG1.out.1 (grown_below (below_drewN (Below.refl _ _) nq)), HG1.out.2.1, HG1.out.2.2.1.below (below_drewN (Below.refl _ _) nq), HG1.out.2.2.2.below (below_drewN (Below.refl _ _) nq)⟩
                clear HS1 HG1 HNd g1 hgl1
                generalize (w1.drewN nq) = w2 at HS2 HG2 ⊢
                obtain ⟨i0, hi, hz0, hz1, hz2⟩ := info_parts Try.info59
                have HI : Hid (Try.prog.info? 59 = some i0 ∧ i0.zero = some .nilIface ∧ i0.size = 1 ∧ i0.bytes = 16) := ⟨hi, hz0, hz1, hz2⟩
                clear hi hz0 hz1 hz2
                have n1 := HS2.out.st.nbx.cell 1
                have nf := HS2.out.st.nbx.frozen 1
                have nl := HS2.out.st.nbx.lt
                simp at n1
                have HO : Hid ((w2.alloc (.cells #[.iface 53 (.pointer (some p))] 59)).ownsRow (w.heap.size + 1 + 1) 59 1 (.slice ca k cc) k xs) := own_below HS2.out.st.own (below_alloc _ _)
                go_wp2_with (at_builtin; refine wpList_append_own_at _ rfl _ _ 94 rfl (w.heap.size + 1 + 1) 59 i0 .nilIface 1 16 Try.underlying94 HI.out.1 HI.out.2.1 HI.out.2.2.1 HI.out.2.2.2 rfl (by decide) (.slice ca k cc) k xs rfl HO.out ⟨w2.heap.size, 0, none⟩ 1 1 [.iface 53 (.pointer (some p))] rfl rfl (cell_one_new _ _ _) (by intro u hu; simp at hu; subst hu; rfl) (by unfold maxLen; omega) (by omega) (by simp; omega) ?_)
                intro v' w5 ho hg _ hat
                obtain ⟨a5, c5, rfl, _⟩ := own_form ho
                have hx5 := (HS2.out.st.nbx.alloc (.cells #[.iface 53 (.pointer (some p))] 59)).grown hg (fun e => by have := own_lt HS2.out.st.own _ e; omega)
                have u1 := hx5.cell 1
                have uf := hx5.frozen 1
                have ul := hx5.lt
                simp at u1
                have HX : Hid (InSx w (w5.setCell ⟨w.heap.size + 1, 1, none⟩ (.slice a5 (k + 1) c5)) rb (w.heap.size + 1) #[.bool false, .slice (some ⟨bk, oo, none⟩) m kc, .slice (some ⟨bd, od, none⟩) dn dc, .int .i64 ct] d (ts ++ [t]) (k + 1) a5 c5 (xs ++ [.iface 53 (.pointer (some p))]) ∧ RBx (w5.setCell ⟨w.heap.size + 1, 1, none⟩ (.slice a5 (k + 1) c5)) rb b o n c (x + 1 + ((ts ++ [t]).map (nodesR d)).sum) D' lk' hk') := by
                  refine ⟨HST.out.1.grow HG2.out.1 HG2.out.2.2.2 hg ho (by simpa using hat), ?_⟩
                  have q := ((HG2.out.2.2.1.alloc (.cells #[.iface 53 (.pointer (some p))] 59)).grown hg (fun e => by have := own_lt HS2.out.st.own _ e; have := HST.out.1.st.rlt; omega)).other (p := ⟨w.heap.size + 1, 1, none⟩) (by simp; have := HST.out.1.st.rlt; omega) (.slice a5 (k + 1) c5)
                  have e : x + 1 + (ts.map (nodesR d)).sum + nodesR d t = x + 1 + ((ts ++ [t]).map (nodesR d)).sum := by
                    rw [List.map_append, List.sum_append]
                    simp
                    omega
                  rw [← e]
                  exact q
                clear ho hg hat hx5 HO HST HS2 HG2 n1 nf nl
                go_wp2
                go_roundw
                case rel => exact ⟨k + 1, ts ++ [t], D', hk', lk', a5, c5, _, by omega, by go_num, HX.out.1, HX.out.2, HKG2.out⟩
                case measure => simp [intOf]; omega

              · go_wp2
                go_quiet (fail)
                have HS2 : Hid (InSx w (w1.drewN nq) rb (w.heap.size + 1) #[.bool false, .slice (some ⟨bk, oo, none⟩) m kc, .slice (some ⟨bd, od, none⟩) dn dc, .int .i64 ct] d ts k ca cc xs) := HS1.out.read (grown_below (below_drewN (Below.refl _ _) nq))
                have HG2 : Hid (wr.grownBy (w1.drewN nq) (some rb) ∧ Good N n (x + 1 + (ts.map (nodesR d)).sum) (dep + 1) Dk hkk lkk d t D' hk' lk' ∧ RBx (w1.drewN nq) rb b o n c (x + 1 + (ts.map (nodesR d)).sum + nodesR d t) D' lk' hk' ∧ TOx wr.heap.size (w1.drewN nq) d t (.iface 91 (.pointer (some p)))) := ⟨grown_trans HG1.out.1 (grown_below (below_drewN (Below.refl _ _) nq)), HG1.out.2.1, HG1.out.2.2.1.below (below_drewN (Below.refl _ _) nq), HG1.out.2.2.2.below (below_drewN (Below.refl _ _) nq)⟩
                clear HS1 HG1 HNd g1 hgl1
                generalize (w1.drewN nq) = w2 at HS2 HG2 ⊢
                obtain ⟨i0, hi, hz0, hz1, hz2⟩ := info_parts Try.info59
                have HI : Hid (Try.prog.info? 59 = some i0 ∧ i0.zero = some .nilIface ∧ i0.size = 1 ∧ i0.bytes = 16) := ⟨hi, hz0, hz1, hz2⟩
                clear hi hz0 hz1 hz2
                have n1 := HS2.out.st.nbx.cell 1
                have nf := HS2.out.st.nbx.frozen 1
                have nl := HS2.out.st.nbx.lt
                simp at n1
                have HO : Hid ((w2.alloc (.cells #[.iface 91 (.pointer (some p))] 59)).ownsRow (w.heap.size + 1 + 1) 59 1 (.slice ca k cc) k xs) := own_below HS2.out.st.own (below_alloc _ _)
                go_wp2_with (at_builtin; refine wpList_append_own_at _ rfl _ _ 94 rfl (w.heap.size + 1 + 1) 59 i0 .nilIface 1 16 Try.underlying94 HI.out.1 HI.out.2.1 HI.out.2.2.1 HI.out.2.2.2 rfl (by decide) (.slice ca k cc) k xs rfl HO.out ⟨w2.heap.size, 0, none⟩ 1 1 [.iface 91 (.pointer (some p))] rfl rfl (cell_one_new _ _ _) (by intro u hu; simp at hu; subst hu; rfl) (by unfold maxLen; omega) (by omega) (by simp; omega) ?_)
                intro v' w5 ho hg _ hat
                obtain ⟨a5, c5, rfl, _⟩ := own_form ho
                have hx5 := (HS2.out.st.nbx.alloc (.cells #[.iface 91 (.pointer (some p))] 59)).grown hg (fun e => by have := own_lt HS2.out.st.own _ e; omega)
                have u1 := hx5.cell 1
                have uf := hx5.frozen 1
                have ul := hx5.lt
                simp at u1
                have HX : Hid (InSx w (w5.setCell ⟨w.heap.size + 1, 1, none⟩ (.slice a5 (k + 1) c5)) rb (w.heap.size + 1) #[.bool false, .slice (some ⟨bk, oo, none⟩) m kc, .slice (some ⟨bd, od, none⟩) dn dc, .int .i64 ct] d (ts ++ [t]) (k + 1) a5 c5 (xs ++ [.iface 91 (.pointer (some p))]) ∧ RBx (w5.setCell ⟨w.heap.size + 1, 1, none⟩ (.slice a5 (k + 1) c5)) rb b o n c (x + 1 + ((ts ++ [t]).map (nodesR d)).sum) D' lk' hk') := by
                  refine ⟨HST.out.1.grow HG2.out.1 HG2.out.2.2.2 hg ho (by simpa using hat), ?_⟩
                  have q := ((HG2.out.2.2.1.alloc (.cells #[.iface 91 (.pointer (some p))] 59)).grown hg (fun e => by have := own_lt HS2.out.st.own _ e; have := HST.out.1.st.rlt; omega)).other (p := ⟨w.heap.size + 1, 1, none⟩) (by simp; have := HST.out.1.st.rlt; omega) (.slice a5 (k + 1) c5)
                  have e : x + 1 + (ts.map (nodesR d)).sum + nodesR d t = x + 1 + ((ts ++ [t]).map (nodesR d)).sum := by
                    rw [List.map_append, List.sum_append]
                    simp
                    omega
                  rw [← e]
                  exact q
                clear ho hg hat hx5 HO HST HS2 HG2 n1 nf nl
                go_wp2
                go_roundw
                case rel => exact ⟨k + 1, ts ++ [t], D', hk', lk', a5, c5, _, by omega, by go_num, HX.out.1, HX.out.2, HKG2.out⟩
                case measure => simp [intOf]; omega

            · obtain ⟨p0, hp0⟩ : ∃ p0, k = p0 + 1 := ⟨k - 1, by omega⟩
              have jk : (0 : Int) < (k : Int) := by omega
              have jk' : decide ((0 : Int) < (k : Int)) = true := decide_eq_true jk
              have nk0 : 0 < k := by omega
              have nk' : decide (0 < k) = true := decide_eq_true nk0
              have hp1 : p0 < m := by have := H3.out; omega
              have HP0 : Hid (k = p0 + 1) := hp0
              have hwrk : IntKind.i64.wrap ((k : Int) - 1) = (k : Int) - 1 := by rw [IntKind.wrap_i64]; omega
              have hsb0 : (0 : Int) ≤ (k : Int) - 1 := by omega
              have hsb1 : (k : Int) - 1 < (m : Int) := by omega
              have htn : ((k : Int) - 1).toNat = p0 := by omega
              have hix : ∀ wz, (Instr.indexAt 27 (.slice (some ⟨bk, oo, none⟩) m kc) (.int .i64 ((k : Int) - 1))).run Try.prog wz = .ok (.pointer (some ⟨bk, oo + p0, none⟩)) wz := fun wz => by rw [show (k : Int) - 1 = (p0 : Int) by omega]; exact idxS bk oo m kc p0 hp1 wz
              rcases HK.out.1 w1 (below_grown (grown_trans HST.out.1.st.gr HG1.out.1) (by omega) (Nat.le_refl _)) with q | ⟨bk', ok', eka, hck⟩
              · omega
              have s1 := hck p0 hp1
              injection eka with eka
              injection eka with eka1 eka2
              subst eka1
              subst eka2
              clear hck hk00 hp0
              rcases least_call (TOx.tat HG1.out.2.2.2) hbal with ⟨p, rfl, hcall⟩ | ⟨p, rfl, hcall⟩
              · clear hbal
                have HL : Hid (∀ W : World, Below w1.heap.size w1 W → Calls Try.prog 107 #[.pointer (some p)] W fun e w' => e = .returned (.string (gt (keysR d t) 0)) ∧ w' = W) := hcall
                clear hcall
                by_cases hseq : gt (keysR d t) 0 = (N x).ks p0
                · have HKG2 : Hid (KGood N n x dep D hk lk d (ts ++ [t]) D' hk' lk') := HKG.out.more hd0 HG1.out.2.1 HKd.out (fun _ => by rw [HST.out.1.st.len, show k - 1 = p0 by have := HP0.out; omega]; exact hseq.symm)
                  rw [← hseq] at s1
                  clear hseq
                  go_wp2
                  go_region_held3 (fun w' => w'.cell? ⟨w.heap.size, 1, none⟩ = some (.slice (some ⟨bk, oo, none⟩) m kc) ∧ w'.cell? ⟨bk, oo + p0, none⟩ = some (.string (gt (keysR d t) 0))) (go_keep) (first | (go_at_call 107; refine (HL.out _ (by first | exact Below.refl _ _ | exact (Below.refl _ _).drew)).mono ?_; rintro e w6 ⟨rfl, rfl⟩) | fail)
                  have HS2 : Hid (InSx w w1.drew rb (w.heap.size + 1) #[.bool false, .slice (some ⟨bk, oo, none⟩) m kc, .slice (some ⟨bd, od, none⟩) dn dc, .int .i64 ct] d ts k ca cc xs) := HS1.out.read (grown_below (Below.refl _ _).drew)
                  have HG2 : Hid (wr.grownBy w1.drew (some rb) ∧ Good N n (x + 1 + (ts.map (nodesR d)).sum) (dep + 1) Dk hkk lkk d t D' hk' lk' ∧ RBx w1.drew rb b o n c (x + 1 + (ts.map (nodesR d)).sum + nodesR d t) D' lk' hk' ∧ TOx wr.heap.size w1.drew d t (.iface 53 (.pointer (some p)))) := ⟨grown_trans HG1.out.1 (grown_below (Below.refl _ _).drew), HG1.out.2.1, HG1.out.2.2.1.below (Below.refl _ _).drew, HG1.out.2.2.2.below (Below.refl _ _).drew⟩
                  clear HS1 HG1 HNd g1 hgl1
                  generalize w1.drew = w2 at HS2 HG2 ⊢
                  obtain ⟨i0, hi, hz0, hz1, hz2⟩ := info_parts Try.info59
                  have HI : Hid (Try.prog.info? 59 = some i0 ∧ i0.zero = some .nilIface ∧ i0.size = 1 ∧ i0.bytes = 16) := ⟨hi, hz0, hz1, hz2⟩
                  clear hi hz0 hz1 hz2
                  have n1 := HS2.out.st.nbx.cell 1
                  have nf := HS2.out.st.nbx.frozen 1
                  have nl := HS2.out.st.nbx.lt
                  simp at n1
                  have HO : Hid ((w2.alloc (.cells #[.iface 53 (.pointer (some p))] 59)).ownsRow (w.heap.size + 1 + 1) 59 1 (.slice ca k cc) k xs) := own_below HS2.out.st.own (below_alloc _ _)
                  go_wp2_with (at_builtin; refine wpList_append_own_at _ rfl _ _ 94 rfl (w.heap.size + 1 + 1) 59 i0 .nilIface 1 16 Try.underlying94 HI.out.1 HI.out.2.1 HI.out.2.2.1 HI.out.2.2.2 rfl (by decide) (.slice ca k cc) k xs rfl HO.out ⟨w2.heap.size, 0, none⟩ 1 1 [.iface 53 (.pointer (some p))] rfl rfl (cell_one_new _ _ _) (by intro u hu; simp at hu; subst hu; rfl) (by unfold maxLen; omega) (by omega) (by simp; omega) ?_)
                  intro v' w5 ho hg _ hat
                  obtain ⟨a5, c5, rfl, _⟩ := own_form ho
                  have hx5 := (HS2.out.st.nbx.alloc (.cells #[.iface 53 (.pointer (some p))] 59)).grown hg (fun e => by have := own_lt HS2.out.st.own _ e; omega)
                  have u1 := hx5.cell 1
                  have uf := hx5.frozen 1
                  have ul := hx5.lt
                  simp at u1
                  have HX : Hid (InSx w (w5.setCell ⟨w.heap.size + 1, 1, none⟩ (.slice a5 (k + 1) c5)) rb (w.heap.size + 1) #[.bool false, .slice (some ⟨bk, oo, none⟩) m kc, .slice (some ⟨bd, od, none⟩) dn dc, .int .i64 ct] d (ts ++ [t]) (k + 1) a5 c5 (xs ++ [.iface 53 (.pointer (some p))]) ∧ RBx (w5.setCell ⟨w.heap.size + 1, 1, none⟩ (.slice a5 (k + 1) c5)) rb b o n c (x + 1 + ((ts ++ [t]).map (nodesR d)).sum) D' lk' hk') := by
                    refine ⟨HST.out.1.grow HG2.out.1 HG2.out.2.2.2 hg ho (by simpa using hat), ?_⟩
                    have q := ((HG2.out.2.2.1.alloc (.cells #[.iface 53 (.pointer (some p))] 59)).grown hg (fun e => by have := own_lt HS2.out.st.own _ e; have := HST.out.1.st.rlt; omega)).other (p := ⟨w.heap.size + 1, 1, none⟩) (by simp; have := HST.out.1.st.rlt; omega) (.slice a5 (k + 1) c5)
                    have e : x + 1 + (ts.map (nodesR d)).sum + nodesR d t = x + 1 + ((ts ++ [t]).map (nodesR d)).sum := by
                      rw [List.map_append, List.sum_append]
                      simp
                      omega
                    rw [← e]
                    exact q
                  clear ho hg hat hx5 HO HST HS2 HG2 n1 nf nl
                  go_wp2
                  go_roundw
                  case rel => exact ⟨k + 1, ts ++ [t], D', hk', lk', a5, c5, _, by omega, by go_num, HX.out.1, HX.out.2, HKG2.out⟩
                  case measure => simp [intOf]; omega
                · have HNG : Hid (¬ (∃ (t : Ro (d + 1)) (D' : Int) (hk' : Bool) (lk' : ByteArray), Good N n x dep D hk lk (d + 1) t D' hk' lk')) := by
                    rintro ⟨t2, D2, hk2, lk2, g⟩
                    obtain ⟨l, rfl, e1, _⟩ := HGI.out t2 D2 hk2 lk2 g
                    have hlt2 : ts.length < l.length := by rw [HST.out.1.st.len, e1, HEq.out.2.1]; exact hlt
                    obtain ⟨_, q2, h2, l2, q3⟩ := good_next hd0 g HKG.out hlt2
                    have e := tells_uniq _ _ _ q3.tl HG1.out.2.1.tl
                    have hkl := HST.out.1.st.len
                    have hkp := HP0.out
                    have q : (N x).ks p0 = gt (keysR d t) 0 := by
                      rw [← e, ← q2 (by omega), show ts.length - 1 = p0 by omega]
                    exact hseq q.symm
                  have hsq : ((gt (keysR d t) 0).toList == ((N x).ks p0).toList) = false := by
                    rw [beq_eq_false_iff_ne]
                    exact fun h => hseq (str_inj h)
                  have hsq2 : (!((gt (keysR d t) 0).toList == ((N x).ks p0).toList)) = true := by rw [hsq]; rfl
                  go_wp2
                  go_region_held3 (fun w' => w'.cell? ⟨w.heap.size, 1, none⟩ = some (.slice (some ⟨bk, oo, none⟩) m kc) ∧ w'.cell? ⟨bk, oo + p0, none⟩ = some (.string ((N x).ks p0))) (go_keep) (first | (go_at_call 107; refine (HL.out _ (by first | exact Below.refl _ _ | exact (Below.refl _ _).drew)).mono ?_; rintro e w6 ⟨rfl, rfl⟩) | fail)
                  go_wp2
                  refine bodyPost_ret (v := .tuple #[.nilIface, .bool false]) (by simp [results, Try.results72, go_sem]) rfl (HNo.out _ (grown_trans (grown_trans HST.out.1.st.gr HG1.out.1) (grown_below (Below.refl _ _).drew)) HNG.out _)

              · clear hbal
                have HL : Hid (∀ W : World, Below w1.heap.size w1 W → Calls Try.prog 124 #[.pointer (some p)] W fun e w' => e = .returned (.string (gt (keysR d t) 0)) ∧ w' = W) := hcall
                clear hcall
                by_cases hseq : gt (keysR d t) 0 = (N x).ks p0
                · have HKG2 : Hid (KGood N n x dep D hk lk d (ts ++ [t]) D' hk' lk') := HKG.out.more hd0 HG1.out.2.1 HKd.out (fun _ => by rw [HST.out.1.st.len, show k - 1 = p0 by have := HP0.out; omega]; exact hseq.symm)
                  rw [← hseq] at s1
                  clear hseq
                  go_wp2
                  go_region_held3 (fun w' => w'.cell? ⟨w.heap.size, 1, none⟩ = some (.slice (some ⟨bk, oo, none⟩) m kc) ∧ w'.cell? ⟨bk, oo + p0, none⟩ = some (.string (gt (keysR d t) 0))) (go_keep) (first | (go_at_call 124; refine (HL.out _ (by first | exact Below.refl _ _ | exact (Below.refl _ _).drew)).mono ?_; rintro e w6 ⟨rfl, rfl⟩) | fail)
                  have HS2 : Hid (InSx w w1.drew rb (w.heap.size + 1) #[.bool false, .slice (some ⟨bk, oo, none⟩) m kc, .slice (some ⟨bd, od, none⟩) dn dc, .int .i64 ct] d ts k ca cc xs) := HS1.out.read (grown_below (Below.refl _ _).drew)
                  have HG2 : Hid (wr.grownBy w1.drew (some rb) ∧ Good N n (x + 1 + (ts.map (nodesR d)).sum) (dep + 1) Dk hkk lkk d t D' hk' lk' ∧ RBx w1.drew rb b o n c (x + 1 + (ts.map (nodesR d)).sum + nodesR d t) D' lk' hk' ∧ TOx wr.heap.size w1.drew d t (.iface 91 (.pointer (some p)))) := ⟨grown_trans HG1.out.1 (grown_below (Below.refl _ _).drew), HG1.out.2.1, HG1.out.2.2.1.below (Below.refl _ _).drew, HG1.out.2.2.2.below (Below.refl _ _).drew⟩
                  clear HS1 HG1 HNd g1 hgl1
                  generalize w1.drew = w2 at HS2 HG2 ⊢
                  obtain ⟨i0, hi, hz0, hz1, hz2⟩ := info_parts Try.info59
                  have HI : Hid (Try.prog.info? 59 = some i0 ∧ i0.zero = some .nilIface ∧ i0.size = 1 ∧ i0.bytes = 16) := ⟨hi, hz0, hz1, hz2⟩
                  clear hi hz0 hz1 hz2
                  have n1 := HS2.out.st.nbx.cell 1
                  have nf := HS2.out.st.nbx.frozen 1
                  have nl := HS2.out.st.nbx.lt
                  simp at n1
                  have HO : Hid ((w2.alloc (.cells #[.iface 91 (.pointer (some p))] 59)).ownsRow (w.heap.size + 1 + 1) 59 1 (.slice ca k cc) k xs) := own_below HS2.out.st.own (below_alloc _ _)
                  go_wp2_with (at_builtin; refine wpList_append_own_at _ rfl _ _ 94 rfl (w.heap.size + 1 + 1) 59 i0 .nilIface 1 16 Try.underlying94 HI.out.1 HI.out.2.1 HI.out.2.2.1 HI.out.2.2.2 rfl (by decide) (.slice ca k cc) k xs rfl HO.out ⟨w2.heap.size, 0, none⟩ 1 1 [.iface 91 (.pointer (some p))] rfl rfl (cell_one_new _ _ _) (by intro u hu; simp at hu; subst hu; rfl) (by unfold maxLen; omega) (by omega) (by simp; omega) ?_)
                  intro v' w5 ho hg _ hat
                  obtain ⟨a5, c5, rfl, _⟩ := own_form ho
                  have hx5 := (HS2.out.st.nbx.alloc (.cells #[.iface 91 (.pointer (some p))] 59)).grown hg (fun e => by have := own_lt HS2.out.st.own _ e; omega)
                  have u1 := hx5.cell 1
                  have uf := hx5.frozen 1
                  have ul := hx5.lt
                  simp at u1
                  have HX : Hid (InSx w (w5.setCell ⟨w.heap.size + 1, 1, none⟩ (.slice a5 (k + 1) c5)) rb (w.heap.size + 1) #[.bool false, .slice (some ⟨bk, oo, none⟩) m kc, .slice (some ⟨bd, od, none⟩) dn dc, .int .i64 ct] d (ts ++ [t]) (k + 1) a5 c5 (xs ++ [.iface 91 (.pointer (some p))]) ∧ RBx (w5.setCell ⟨w.heap.size + 1, 1, none⟩ (.slice a5 (k + 1) c5)) rb b o n c (x + 1 + ((ts ++ [t]).map (nodesR d)).sum) D' lk' hk') := by
                    refine ⟨HST.out.1.grow HG2.out.1 HG2.out.2.2.2 hg ho (by simpa using hat), ?_⟩
                    have q := ((HG2.out.2.2.1.alloc (.cells #[.iface 91 (.pointer (some p))] 59)).grown hg (fun e => by have := own_lt HS2.out.st.own _ e; have := HST.out.1.st.rlt; omega)).other (p := ⟨w.heap.size + 1, 1, none⟩) (by simp; have := HST.out.1.st.rlt; omega) (.slice a5 (k + 1) c5)
                    have e : x + 1 + (ts.map (nodesR d)).sum + nodesR d t = x + 1 + ((ts ++ [t]).map (nodesR d)).sum := by
                      rw [List.map_append, List.sum_append]
                      simp
                      omega
                    rw [← e]
                    exact q
                  clear ho hg hat hx5 HO HST HS2 HG2 n1 nf nl
                  go_wp2
                  go_roundw
                  case rel => exact ⟨k + 1, ts ++ [t], D', hk', lk', a5, c5, _, by omega, by go_num, HX.out.1, HX.out.2, HKG2.out⟩
                  case measure => simp [intOf]; omega
                · have HNG : Hid (¬ (∃ (t : Ro (d + 1)) (D' : Int) (hk' : Bool) (lk' : ByteArray), Good N n x dep D hk lk (d + 1) t D' hk' lk')) := by
                    rintro ⟨t2, D2, hk2, lk2, g⟩
                    obtain ⟨l, rfl, e1, _⟩ := HGI.out t2 D2 hk2 lk2 g
                    have hlt2 : ts.length < l.length := by rw [HST.out.1.st.len, e1, HEq.out.2.1]; exact hlt
                    obtain ⟨_, q2, h2, l2, q3⟩ := good_next hd0 g HKG.out hlt2
                    have e := tells_uniq _ _ _ q3.tl HG1.out.2.1.tl
                    have hkl := HST.out.1.st.len
                    have hkp := HP0.out
                    have q : (N x).ks p0 = gt (keysR d t) 0 := by
                      rw [← e, ← q2 (by omega), show ts.length - 1 = p0 by omega]
                    exact hseq q.symm
                  have hsq : ((gt (keysR d t) 0).toList == ((N x).ks p0).toList) = false := by
                    rw [beq_eq_false_iff_ne]
                    exact fun h => hseq (str_inj h)
                  have hsq2 : (!((gt (keysR d t) 0).toList == ((N x).ks p0).toList)) = true := by rw [hsq]; rfl
                  go_wp2
                  go_region_held3 (fun w' => w'.cell? ⟨w.heap.size, 1, none⟩ = some (.slice (some ⟨bk, oo, none⟩) m kc) ∧ w'.cell? ⟨bk, oo + p0, none⟩ = some (.string ((N x).ks p0))) (go_keep) (first | (go_at_call 124; refine (HL.out _ (by first | exact Below.refl _ _ | exact (Below.refl _ _).drew)).mono ?_; rintro e w6 ⟨rfl, rfl⟩) | fail)
                  go_wp2
                  refine bodyPost_ret (v := .tuple #[.nilIface, .bool false]) (by simp [results, Try.results72, go_sem]) rfl (HNo.out _ (grown_trans (grown_trans HST.out.1.st.gr HG1.out.1) (grown_below (Below.refl _ _).drew)) HNG.out _)

        · have HNG : Hid (¬ (∃ (t : Ro (d + 1)) (D' : Int) (hk' : Bool) (lk' : ByteArray), Good N n x dep D hk lk (d + 1) t D' hk' lk')) := by
            rintro ⟨t2, D2, hk2, lk2, g⟩
            obtain ⟨l, rfl, e1, _⟩ := HGI.out t2 D2 hk2 lk2 g
            have hlt2 : ts.length < l.length := by rw [HST.out.1.st.len, e1, HEq.out.2.1]; exact hlt
            obtain ⟨q1, _⟩ := good_next hd0 g HKG.out hlt2
            rw [HST.out.1.st.len, ← HY.out] at q1
            exact hnum q1
          have hnn : ((N x).kd k != (y : Int)) = true := by simpa using hnum
          go_wp2
          refine bodyPost_ret (v := .tuple #[.nilIface, .bool false]) (by simp [results, Try.results72, go_sem]) rfl (HNo.out _ HST.out.1.st.gr HNG.out _)
      · have e : k = dn := by omega
        subst e
        have hlen := HST.out.1.st.len
        have hk2 : k ≠ 0 := by omega
        obtain ⟨a6, c6, e6, hfo⟩ := own_form HST.out.1.st.own
        obtain ⟨g, eg, hg1, hg2, hg3⟩ := hfo hk2
        injection e6 with e6 e62 e63
        clear e62 e63
        rw [← e6] at eg
        subst eg
        obtain ⟨h', hball, hDk, hDD⟩ : ∃ h' : Nat, (∀ t, t ∈ ts → BalR d false t h') ∧ Dk = dep + 1 + (h' : Int) ∧ (D = 0 ∨ D = Dk) := by
          rcases HKG.out.bal with ⟨e, _⟩ | ⟨_, e⟩
          · rw [e] at hlen; simp at hlen; omega
          · exact e
        have HB : Hid ((∀ t, t ∈ ts → BalR d false t h') ∧ Dk = dep + 1 + (h' : Int) ∧ (D = 0 ∨ D = Dk)) := ⟨hball, hDk, hDD⟩
        have HLen : Hid (ts.length = k ∧ (ts.flatMap (keysR d)).length ≤ 1099511627776) := by
          refine ⟨hlen, ?_⟩
          have h1 := flat_fit (M := 4) (keysR d) (nodesR d) ts (fun t ht => fit_len (bal_fit (hball t ht)))
          have h2 := HKG.out.le
          omega
        have HRec : Hid (Calls Try.prog 57 #[.pointer (some ⟨w.heap.size + 1, 0, none⟩)] wr fun e w' => e = .returned (.tuple #[]) ∧ wr.grownBy w' (some (w.heap.size + 1)) ∧ w'.heap.size = wr.heap.size ∧ Bx w' (w.heap.size + 1) 96 #[.int .i64 ((ts.flatMap (keysR d)).length : Int), .slice (some ⟨g, 0, none⟩) k cc]) :=
          recountInner_any d (w.heap.size + 1) g k cc ts 0 _ xs wr HST.out.1.st.nbx hlen.symm (by omega) HLen.out.2 hg3 (by omega) (fun q => by have := q.1; omega) HST.out.1.st.kids
        have HGc : Hid (∀ j u, xs[j]? = some u → wr.cell? ⟨g, j, none⟩ = some u) := hg3
        clear hfo hg3 hball hDk hDD e6 hlen
        go_wp2_with fail
        refine HRec.out.mono ?_
        rintro e w2 ⟨rfl, hgr2, hsz2, hbx2⟩
        obtain ⟨A, hA⟩ : ∃ A : Int, A = ((ts.flatMap (keysR d)).length : Int) := ⟨_, rfl⟩
        rw [← hA] at hbx2
        have HA : Hid (A = ((ts.flatMap (keysR d)).length : Int)) := hA
        have hrlt := HST.out.1.st.rlt
        have HF : Hid (wr.grownBy w2 (some (w.heap.size + 1)) ∧ w2.heap.size = wr.heap.size ∧ Bx w2 (w.heap.size + 1) 96 #[.int .i64 A, .slice (some ⟨g, 0, none⟩) k cc]) := ⟨hgr2, hsz2, hbx2⟩
        have HFr : Hid (w.grownBy w2.drew (some rb) ∧ RBx w2.drew rb b o n c (x + 1 + (ts.map (nodesR d)).sum) Dk lkk hkk) := by
          have hgw := HST.out.1.st.gr.size
          have hnl := HST.out.1.st.nbx.lt
          have q : RBx w2 rb b o n c (x + 1 + (ts.map (nodesR d)).sum) Dk lkk hkk := HST.out.2.grown hgr2 (fun e => by injection e with e; omega)
          refine ⟨⟨hgr2.os.trans HST.out.1.st.gr.os, hgr2.tape.trans HST.out.1.st.gr.tape, hgr2.output.trans HST.out.1.st.gr.output, Nat.le_trans hgw hgr2.size, fun bb hbb hne => ?_⟩, q.drew⟩
          exact (hgr2.block bb (by omega) (fun e => by injection e with e; omega)).trans (HST.out.1.st.gr.block bb hbb hne)
        have z0 := hbx2.cell 0
        have g3 := (HST.out.1.st.gb.grown hgr2 (fun e => by injection e with e; omega)).cell 3
        simp at z0 g3
        clear hgr2 hsz2 hbx2 hA
        have HBel : Hid (∀ W : World, W.cell? ⟨w.heap.size + 1, 0, none⟩ = some (.int .i64 A) → Calls Try.prog 83 #[.pointer (some ⟨w.heap.size + 1, 0, none⟩)] W fun e w' => e = .returned (.int .i64 A) ∧ w' = W) := fun W hW => below_any (w.heap.size + 1) A W hW
        by_cases hctA : ct = A
        · subst hctA
          have hq : (ct == ct) = true := by simp
          have HGood : Hid (Good N n x dep D hk lk (d + 1) (.inr ts) Dk hkk lkk) := by
            have hkg := HKG.out
            obtain ⟨q1, q2, q3⟩ := HEq.out
            refine ⟨⟨HLf.out, by rw [q2, HLen.out.1], by rw [q3, HA.out], by rw [q1, HLen.out.1]; exact H3.out, fun j hj => by rw [hkg.kd j hj]; omega, fun j hj => hkg.ks j hj, fun j hj => hkg.tl j hj⟩, ?_, ⟨h' + 1, ⟨by rw [HLen.out.1]; omega, by rw [HLen.out.1]; omega, h', rfl, HB.out.1⟩, by have := HB.out.2.1; omega⟩, HB.out.2.2, hkg.asc⟩
            have e : nodesR (d + 1) (.inr ts) = 1 + (ts.map (nodesR d)).sum := rfl
            have := hkg.le
            omega
          have HTA : Hid (TOx w.heap.size w2.drew (d + 1) (.inr ts) (.iface 91 (.pointer (some ⟨w.heap.size + 1, 0, none⟩)))) := HST.out.1.fin HF.out.1 HF.out.2.2 HA.out (by omega)
          go_upto_region 16 with fail
          go_region_held3 (fun w' => w'.cell? ⟨w.heap.size + 1, 0, none⟩ = some (.int .i64 ct) ∧ w'.cell? ⟨w.heap.size, 3, none⟩ = some (.int .i64 ct)) (go_keep) (first | (go_at_call 83; refine (HBel.out _ (by simpa using z0)).mono ?_; rintro e w6 ⟨rfl, rfl⟩) | fail)
          go_wp2
          refine bodyPost_ret (v := .tuple #[.iface 91 (.pointer (some ⟨w.heap.size + 1, 0, none⟩)), .bool true]) (by simp [results, Try.results72, go_sem]) rfl ⟨HFr.out.1, _, true, rfl, .inl ⟨rfl, .inr ts, Dk, hkk, lkk, HGood.out, ?_, HTA.out⟩⟩
          have e : x + nodesR (d + 1) (.inr ts) = x + 1 + (ts.map (nodesR d)).sum := by
            have e : nodesR (d + 1) (.inr ts) = 1 + (ts.map (nodesR d)).sum := rfl
            omega
          rw [e]
          exact HFr.out.2
        · have hq : (A == ct) = false := by simpa using fun e => hctA (Eq.symm e)
          have HNG : Hid (¬ (∃ (t : Ro (d + 1)) (D' : Int) (hk' : Bool) (lk' : ByteArray), Good N n x dep D hk lk (d + 1) t D' hk' lk')) := by
            rintro ⟨t2, D2, hk2, lk2, gg⟩
            obtain ⟨l, rfl, e1, _, _, _, e5⟩ := HGI.out t2 D2 hk2 lk2 gg
            have hl : ts.length = l.length := by rw [HLen.out.1, e1, HEq.out.2.1]
            have hp := good_prefix gg HKG.out (by omega)
            rw [hl, List.take_length] at hp
            subst hp
            rw [HEq.out.2.2, ← HA.out] at e5
            exact hctA e5
          go_upto_region 16 with fail
          go_region_held3 (fun w' => w'.cell? ⟨w.heap.size + 1, 0, none⟩ = some (.int .i64 A) ∧ w'.cell? ⟨w.heap.size, 3, none⟩ = some (.int .i64 ct)) (go_keep) (first | (go_at_call 83; refine (HBel.out _ (by simpa using z0)).mono ?_; rintro e w6 ⟨rfl, rfl⟩) | fail)
          go_wp2
          refine bodyPost_ret (v := .tuple #[.iface 91 (.pointer (some ⟨w.heap.size + 1, 0, none⟩)), .bool false]) (by simp [results, Try.results72, go_sem]) rfl (HNo.out _ HFr.out.1 HNG.out _)
end Go.Proofs.Ytakemeccigpbaaa

namespace Go.Proofs.Ytakemeccigpbaaa
open Go.RowKit Go.Deep
set_option linter.unusedVariables false
set_option maxRecDepth 100000

theorem TOx.mono {B B' : Nat} {w : World} {d : Nat} {t : Ro d} {v : Value} (h : TOx B w d t v) (hB : B' ≤ B) : TOx B' w d t v :=
  let ⟨bs, h1, h2⟩ := h
  ⟨bs, h1, TOw.mono hB h2⟩

theorem RetRo.from {N : Nat → Tn} {rb b o n c x : Nat} {dep D : Int} {hk : Bool} {lk : ByteArray} {d : Nat} {w W : World} {e : Ending} {w' : World} (h : RetRo N rb b o n c x dep D hk lk d W e w') (hg : w.grownBy W (some rb)) : RetRo N rb b o n c x dep D hk lk d w e w' := by
  obtain ⟨h1, v, ok, e1, h2⟩ := h
  refine ⟨grown_trans hg h1, v, ok, e1, ?_⟩
  rcases h2 with ⟨q1, t, D', hk', lk', q2, q3, q4⟩ | q
  · exact Or.inl ⟨q1, t, D', hk', lk', q2, q3, TOx.mono q4 hg.size⟩
  · exact Or.inr q

set_option maxHeartbeats 4000000 in
theorem readO_any (N : Nat → Tn) (rb b o n c : Nat) (hn : n ≤ 5000) (hbr : b < rb) (hN : ∀ i, i < n → TnFit (N i)) : ∀ (d x : Nat) (dep D : Int) (hk : Bool) (lk : ByteArray) (w : World), n ≤ x + d → x ≤ n → 0 ≤ dep → dep ≤ (x : Int) → RBx w rb b o n c x D lk hk → (∀ W : World, Below rb w W → RdTn W (some ⟨b, o, none⟩) n N) →
    Calls Try.prog 52 #[.pointer (some ⟨rb, 0, none⟩), .int .i64 dep] w (RetRo N rb b o n c x dep D hk lk d w) := by
  intro d
  induction d with
  | zero =>
    intro x dep D hk lk w hf hx hd0 hd1 h hRd
    have e : x = n := by omega
    subst e
    have c0 := h.cell 0
    have c1 := h.cell 1
    simp at c0 c1
    have hq : ((x : Int) == (x : Int)) = true := by simp
    clear h hRd hf hN
    go_enter Try.func52, Try.ntmps52
    go_wp2
    go_quiet (fail)
    go_wp2
    refine bodyPost_ret (v := .tuple #[.nilIface, .bool false]) (by simp [results, Try.results52, go_sem]) rfl ⟨grown_below (below_drewN (Below.refl _ _) _), _, false, rfl, Or.inr ⟨rfl, fun ⟨t, _⟩ => t.elim⟩⟩
  | succ d ih =>
    intro x dep D hk lk w hf hx hd0 hd1 h hRd
    have hrl := h.lt
    by_cases hxn : x = n
    · subst hxn
      have c0 := h.cell 0
      have c1 := h.cell 1
      simp at c0 c1
      have hq : ((x : Int) == (x : Int)) = true := by simp
      clear h hRd hf hN ih
      go_enter Try.func52, Try.ntmps52
      go_wp2
      go_quiet (fail)
      go_wp2
      refine bodyPost_ret (v := .tuple #[.nilIface, .bool false]) (by simp [results, Try.results52, go_sem]) rfl ⟨grown_below (below_drewN (Below.refl _ _) _), _, false, rfl, Or.inr ⟨rfl, fun ⟨t, D', hk', lk', g⟩ => ?_⟩⟩
      have h1 := g.le
      have h2 := nodes_pos (d + 1) t
      omega
    · have hlt : x < n := by omega
      have HR : Hid (RBx w rb b o n c x D lk hk) := h
      have HRd : Hid (∀ W : World, Below rb w W → RdTn W (some ⟨b, o, none⟩) n N) := hRd
      have HIH : Hid (∀ (W : World) (y : Nat) (D2 : Int) (lk2 : ByteArray) (hk2 : Bool), Below rb w W → x + 1 ≤ y → y ≤ n → RBx W rb b o n c y D2 lk2 hk2 → Calls Try.prog 52 #[.pointer (some ⟨rb, 0, none⟩), .int .i64 (dep + 1)] W (RetRo N rb b o n c y (dep + 1) D2 hk2 lk2 d W)) := fun W y D2 lk2 hk2 hW hy hyn hrb => ih y (dep + 1) D2 hk2 lk2 W (by omega) hyn (by omega) (by omega) hrb (fun W' hW' => hRd W' (hW.trans hW'))
      have HFit : Hid (TnFit (N x)) := hN x hlt
      obtain ⟨ka, kc, da, dc, hcells⟩ : ∃ ka kc da dc, ∀ W : World, Below rb w W → W.cell? ⟨b, o + x * 4, none⟩ = some (.bool (N x).lf) ∧ W.cell? ⟨b, o + x * 4 + 1, none⟩ = some (.slice ka (N x).kn kc) ∧ W.cell? ⟨b, o + x * 4 + 2, none⟩ = some (.slice da (N x).dn dc) ∧ W.cell? ⟨b, o + x * 4 + 3, none⟩ = some (.int .i64 (N x).ct) ∧ RdS W ka (N x).kn (N x).ks ∧ Rd .i64 W da (N x).dn (N x).kd := by
        rcases hRd w (Below.refl _ _) with q | ⟨b', o', e, hc⟩
        · omega
        injection e with e
        injection e with e1 e2
        subst e1
        subst e2
        obtain ⟨ka, kc, da, dc, h0, h1, h2, h3, h4, h5⟩ := hc x hlt
        refine ⟨ka, kc, da, dc, fun W hW => ?_⟩
        rcases hRd W hW with q | ⟨b', o', e, hc'⟩
        · omega
        injection e with e
        injection e with e1 e2
        subst e1
        subst e2
        obtain ⟨ka', kc', da', dc', g0, g1, g2, g3, g4, g5⟩ := hc' x hlt
        have hbb : b < rb := hbr
        have e1 := (hW.cell (p := ⟨b, o + x * 4 + 1, none⟩) hbb)
        have e2 := (hW.cell (p := ⟨b, o + x * 4 + 2, none⟩) hbb)
        rw [g1, h1] at e1
        rw [g2, h2] at e2
        injection e1 with e1
        injection e1 with e1 _ e3
        injection e2 with e2
        injection e2 with e2 _ e4
        subst e1
        subst e2
        subst e3
        subst e4
        exact ⟨g0, g1, g2, g3, g4, g5⟩
      have HC : Hid (∀ W : World, Below rb w W → W.cell? ⟨b, o + x * 4, none⟩ = some (.bool (N x).lf) ∧ W.cell? ⟨b, o + x * 4 + 1, none⟩ = some (.slice ka (N x).kn kc) ∧ W.cell? ⟨b, o + x * 4 + 2, none⟩ = some (.slice da (N x).dn dc) ∧ W.cell? ⟨b, o + x * 4 + 3, none⟩ = some (.int .i64 (N x).ct) ∧ RdS W ka (N x).kn (N x).ks ∧ Rd .i64 W da (N x).dn (N x).kd) := hcells
      have c0 := h.cell 0
      have c1 := h.cell 1
      have f1 := h.frozen 1
      simp at c0 c1
      obtain ⟨d0, d1, d2, d3, _, _⟩ := hcells w (Below.refl _ _)
      have hq : ((x : Int) == (n : Int)) = false := by simp; omega
      have hx0 : (0 : Int) ≤ (x : Int) := by omega
      have hxI : (x : Int) < (n : Int) := by omega
      clear h hRd ih hcells hN
      go_enter Try.func52, Try.ntmps52
      go_wp2
      go_quiet (fail)
      go_wp2
      have H1 : Hid (Below w.heap.size w (w.drewN nq)) := below_drewN (Below.refl _ _) nq
      clear c0 c1 f1 d0 d1 d2 d3
      generalize w.drewN nq = w1 at H1 ⊢
      have HR1 : Hid (RBx w1 rb b o n c x D lk hk) := HR.out.below H1.out
      have c0 := HR1.out.cell 0
      have c1 := HR1.out.cell 1
      have f1 := HR1.out.frozen 1
      have hl1 := HR1.out.lt
      simp at c0 c1
      obtain ⟨d0, d1, d2, d3, _, _⟩ := HC.out w1 (H1.out.mono (by omega))
      have hbl : b < w1.heap.size := World.block_lt_of_cell? _ _ d0
      go_region_held3 (fun w' => w'.cell? ⟨rb, 0, none⟩ = some (.slice (some ⟨b, o, none⟩) n c) ∧ w'.cell? ⟨rb, 1, none⟩ = some (.int .i64 (x : Int)) ∧ w'.cell? ⟨b, o + x * 4, none⟩ = some (.bool (N x).lf) ∧ w'.cell? ⟨b, o + x * 4 + 1, none⟩ = some (.slice ka (N x).kn kc) ∧ w'.cell? ⟨b, o + x * 4 + 2, none⟩ = some (.slice da (N x).dn dc) ∧ w'.cell? ⟨b, o + x * 4 + 3, none⟩ = some (.int .i64 (N x).ct)) (go_keep) (fail)
      go_upto_region 4 with fail
      have S2 : Hid (Bx (w1.alloc (.cells #[.bool (N x).lf, .slice ka (N x).kn kc, .slice da (N x).dn dc, .int .i64 (N x).ct] 88)).drew w1.heap.size 88 #[.bool (N x).lf, .slice ka (N x).kn kc, .slice da (N x).dn dc, .int .i64 (N x).ct] ∧ RBx (w1.alloc (.cells #[.bool (N x).lf, .slice ka (N x).kn kc, .slice da (N x).dn dc, .int .i64 (N x).ct] 88)).drew rb b o n c x D lk hk ∧ Below w1.heap.size w1 (w1.alloc (.cells #[.bool (N x).lf, .slice ka (N x).kn kc, .slice da (N x).dn dc, .int .i64 (N x).ct] 88)).drew) := ⟨(Bx.new _ _ _).drew, (HR1.out.alloc _).drew, (below_alloc _ _).drew⟩
      clear c0 c1 f1 d0 d1 d2 d3
      generalize (w1.alloc (.cells #[.bool (N x).lf, .slice ka (N x).kn kc, .slice da (N x).dn dc, .int .i64 (N x).ct] 88)).drew = w2 at S2 ⊢
      have hz1 := H1.out.size
      have c1 := S2.out.2.1.cell 1
      have f1 := S2.out.2.1.frozen 1
      have hl2 := S2.out.2.1.lt
      have hl3 := S2.out.1.lt
      simp at c1
      go_upto_region 5 with fail
      have S3 : Hid (Bx (w2.setCell ⟨rb, 1, none⟩ (.int .i64 ((x : Int) + 1))) w1.heap.size 88 #[.bool (N x).lf, .slice ka (N x).kn kc, .slice da (N x).dn dc, .int .i64 (N x).ct] ∧ RBx (w2.setCell ⟨rb, 1, none⟩ (.int .i64 ((x : Int) + 1))) rb b o n c (x + 1) D lk hk ∧ w.grownBy (w2.setCell ⟨rb, 1, none⟩ (.int .i64 ((x : Int) + 1))) (some rb) ∧ Below rb w (w2.setCell ⟨rb, 1, none⟩ (.int .i64 ((x : Int) + 1)))) := by
        have hg : w.grownBy (w2.setCell ⟨rb, 1, none⟩ (.int .i64 ((x : Int) + 1))) (some rb) := grown_trans (grown_below (H1.out.trans (S2.out.2.2.mono H1.out.size))) (grown_set _ _ _ _)
        refine ⟨S2.out.1.other (by simp; omega) _, ?_, hg, below_grown hg (by omega) (Nat.le_refl _)⟩
        have q := S2.out.2.1.set 1 (.int .i64 ((x : Int) + 1))
        exact q
      clear c1 f1 S2 HR1 HR
      generalize (w2.setCell ⟨rb, 1, none⟩ (.int .i64 ((x : Int) + 1))) = w3 at S3 ⊢
      cases hlf : (N x).lf with
      | true =>
        rw [hlf] at S3
        have g0 := S3.out.1.cell 0
        have g1 := S3.out.1.cell 1
        have g2 := S3.out.1.cell 2
        have g3 := S3.out.1.cell 3
        simp at g0 g1 g2 g3
        go_wp2_with fail
        refine (readLeafO_any N rb b o n c x dep D hk lk d w3 ka da kc dc S3.out.2.1 hlt hlf HFit.out (fun W hW => (HC.out W (S3.out.2.2.2.trans hW)).2.2.2.2.1) hd0).mono ?_
        rintro e w4 hret
        have HRet := hret.from S3.out.2.2.1
        obtain ⟨hg4, v, ok, rfl, hr4⟩ := HRet
        have HF : Hid (RetRo N rb b o n c x dep D hk lk (d + 1) w (.returned (.tuple #[v, .bool ok])) w4) := ⟨hg4, v, ok, rfl, hr4⟩
        clear hret hg4 hr4 g0 g1 g2 g3
        go_wp2
        refine bodyPost_ret (v := .tuple #[v, .bool ok]) (by simp [results, Try.results52, go_sem]) rfl HF.out
      | false =>
        rw [hlf] at S3
        have g0 := S3.out.1.cell 0
        have g1 := S3.out.1.cell 1
        have g2 := S3.out.1.cell 2
        have g3 := S3.out.1.cell 3
        simp at g0 g1 g2 g3
        go_wp2_with fail
        refine (readInnerO_any N rb b o n c x dep D hk lk d w3 ka da kc dc S3.out.2.1 hlt hn hlf HFit.out (fun W hW => (HC.out W (S3.out.2.2.2.trans hW)).2.2.2.2.1) (fun W hW => (HC.out W (S3.out.2.2.2.trans hW)).2.2.2.2.2) hd0 (by omega) (fun W y D2 lk2 hk2 hW => HIH.out W y D2 lk2 hk2 (S3.out.2.2.2.trans hW))).mono ?_
        rintro e w4 hret
        have HRet := hret.from S3.out.2.2.1
        obtain ⟨hg4, v, ok, rfl, hr4⟩ := HRet
        have HF : Hid (RetRo N rb b o n c x dep D hk lk (d + 1) w (.returned (.tuple #[v, .bool ok])) w4) := ⟨hg4, v, ok, rfl, hr4⟩
        clear hret hg4 hr4 g0 g1 g2 g3
        go_wp2
        refine bodyPost_ret (v := .tuple #[v, .bool ok]) (by simp [results, Try.results52, go_sem]) rfl HF.out

set_option maxHeartbeats 1000000 in
theorem readO_none (a : Option Addr) (rb c : Nat) (D : Int) (hk : Bool) (lk : ByteArray) (w : World) (h : Bx w rb 84 #[.slice a 0 c, .int .i64 0, .int .i64 D, .string lk, .bool hk]) :
    Calls Try.prog 52 #[.pointer (some ⟨rb, 0, none⟩), .int .i64 0] w fun e w' => e = .returned (.tuple #[.nilIface, .bool false]) ∧ Below w.heap.size w w' := by
  have c0 := h.cell 0
  have c1 := h.cell 1
  simp at c0 c1
  clear h
  go_enter Try.func52, Try.ntmps52
  go_wp2
  go_quiet (fail)
  go_wp2
  refine bodyPost_ret (v := .tuple #[.nilIface, .bool false]) (by simp [results, Try.results52, go_sem]) rfl ⟨rfl, below_drewN (Below.refl _ _) _⟩

/-- What readTree leaves: the tree in memory where there is one. -/
def RetTreO (w : World) (n : Nat) (N : Nat → Tn) (e : Ending) (w' : World) : Prop :=
  Below w.heap.size w w' ∧ ∃ v ok, e = .returned (.tuple #[v, .bool ok]) ∧
    ((ok = true ∧ ∃ (t : Ro n) (t' : Ro 21) (h : Nat), VTt n N t' ∧ keysR 21 t' = keysR n t ∧ BalR n true t h ∧ Tells N 0 n t 0 ∧ nodesR n t = n ∧ TOx w.heap.size w' n t v) ∨ (ok = false ∧ ¬ VT n N))

set_option maxHeartbeats 4000000 in
theorem readTreeO_any (a : Option Addr) (n c : Nat) (N : Nat → Tn) (w : World) (h : RdTn w a n N) (hn : n ≤ 1048576) (hN : ∀ i, i < n → TnFit (N i)) :
    Calls Try.prog 35 #[.agg #[.slice a n c]] w (RetTreO w n N) := by
  by_cases h5 : 5000 < n
  · have i5 : (5000 : Int) < (n : Int) := by omega
    have i5' : decide ((5000 : Int) < (n : Int)) = true := decide_eq_true i5
    have n5' : decide (5000 < n) = true := decide_eq_true h5
    have HNo : Hid (¬ VT n N) := fun ⟨t, hv⟩ => by have := hv.2.1; omega
    clear h hN
    go_enter Try.func35, Try.ntmps35
    go_wp2
    refine bodyPost_ret (v := .tuple #[.nilIface, .bool false]) (by simp [results, Try.results35, go_sem]) rfl ⟨below_alloc _ _, _, false, rfl, .inr ⟨rfl, HNo.out⟩⟩
  · have i5 : ¬ (5000 : Int) < (n : Int) := by omega
    have i5' : decide ((5000 : Int) < (n : Int)) = false := decide_eq_false i5
    have n5' : decide (5000 < n) = false := decide_eq_false h5
    by_cases h0 : n = 0
    · subst h0
      have HNo : Hid (¬ VT 0 N) := fun ⟨t, hv⟩ => by have := hv.1; omega
      clear h hN
      go_enter Try.func35, Try.ntmps35
      go_upto_region 4 with fail
      have S1 : Hid (Bx ((w.alloc (.cells #[.slice a 0 c] 25)).alloc (.cells #[.slice a 0 c, .int .i64 0, .int .i64 0, .string { data := #[] }, .bool false] 84)) (w.heap.size + 1) 84 #[.slice a 0 c, .int .i64 0, .int .i64 0, .string { data := #[] }, .bool false] ∧ Below w.heap.size w ((w.alloc (.cells #[.slice a 0 c] 25)).alloc (.cells #[.slice a 0 c, .int .i64 0, .int .i64 0, .string { data := #[] }, .bool false] 84))) := by
        refine ⟨?_, (below_alloc _ _).alloc (by simp) _⟩
        have q := Bx.new (w.alloc (.cells #[.slice a 0 c] 25)) #[.slice a 0 c, .int .i64 0, .int .i64 0, .string { data := #[] }, .bool false] 84
        simpa using q
      generalize ((w.alloc (.cells #[.slice a 0 c] 25)).alloc (.cells #[.slice a 0 c, .int .i64 0, .int .i64 0, .string { data := #[] }, .bool false] 84)) = W at S1 ⊢
      go_wp2_with fail
      refine (readO_none a (w.heap.size + 1) c 0 false _ W S1.out.1).mono ?_
      rintro e w1 ⟨rfl, hb1⟩
      have HB : Hid (Below w.heap.size w w1) := S1.out.2.trans (hb1.mono S1.out.2.size)
      clear hb1 S1
      go_wp2
      go_quiet (fail)
      go_wp2
      refine bodyPost_ret (v := .tuple #[.nilIface, .bool false]) (by simp [results, Try.results35, go_sem]) rfl ⟨below_drewN HB.out _, _, false, rfl, .inr ⟨rfl, HNo.out⟩⟩
    · obtain ⟨b, o, rfl, hbw⟩ : ∃ b o, a = some ⟨b, o, none⟩ ∧ b < w.heap.size := by
        rcases h with q | ⟨b, o, e, hc⟩
        · exact absurd q h0
        · obtain ⟨_, _, _, _, q, _⟩ := hc 0 (by omega)
          exact ⟨b, o, e, World.block_lt_of_cell? _ _ q⟩
      have HR : Hid (RdTn w (some ⟨b, o, none⟩) n N ∧ ∀ i, i < n → TnFit (N i)) := ⟨h, hN⟩
      clear h hN
      go_enter Try.func35, Try.ntmps35
      go_upto_region 4 with fail
      have S1 : Hid (RBx ((w.alloc (.cells #[.slice (some ⟨b, o, none⟩) n c] 25)).alloc (.cells #[.slice (some ⟨b, o, none⟩) n c, .int .i64 0, .int .i64 0, .string { data := #[] }, .bool false] 84)) (w.heap.size + 1) b o n c 0 0 { data := #[] } false ∧ Bx ((w.alloc (.cells #[.slice (some ⟨b, o, none⟩) n c] 25)).alloc (.cells #[.slice (some ⟨b, o, none⟩) n c, .int .i64 0, .int .i64 0, .string { data := #[] }, .bool false] 84)) w.heap.size 25 #[.slice (some ⟨b, o, none⟩) n c] ∧ Below w.heap.size w ((w.alloc (.cells #[.slice (some ⟨b, o, none⟩) n c] 25)).alloc (.cells #[.slice (some ⟨b, o, none⟩) n c, .int .i64 0, .int .i64 0, .string { data := #[] }, .bool false] 84)) ∧ ((w.alloc (.cells #[.slice (some ⟨b, o, none⟩) n c] 25)).alloc (.cells #[.slice (some ⟨b, o, none⟩) n c, .int .i64 0, .int .i64 0, .string { data := #[] }, .bool false] 84)).heap.size = w.heap.size + 2) := by
        refine ⟨?_, (Bx.new _ _ _).alloc _, (below_alloc _ _).alloc (by simp) _, by simp⟩
        have q := Bx.new (w.alloc (.cells #[.slice (some ⟨b, o, none⟩) n c] 25)) #[.slice (some ⟨b, o, none⟩) n c, .int .i64 0, .int .i64 0, .string { data := #[] }, .bool false] 84
        simp only [World.size_alloc] at q
        exact q
      generalize ((w.alloc (.cells #[.slice (some ⟨b, o, none⟩) n c] 25)).alloc (.cells #[.slice (some ⟨b, o, none⟩) n c, .int .i64 0, .int .i64 0, .string { data := #[] }, .bool false] 84)) = W at S1 ⊢
      go_wp2_with fail
      refine (readO_any N (w.heap.size + 1) b o n c (by omega) (by omega) HR.out.2 n 0 0 0 false _ W (by omega) (by omega) (by omega) (by omega) S1.out.1 (fun W' hW' => HR.out.1.below (S1.out.2.2.1.trans (hW'.mono (by omega))))).mono ?_
      rintro e w1 ⟨hg1, v, ok, rfl, hr⟩
      have hsW := S1.out.2.2.2
      have HB : Hid (Below w.heap.size w w1) := S1.out.2.2.1.trans (below_grown hg1 (by omega) (by omega))
      have HT : Hid (Bx w1 w.heap.size 25 #[.slice (some ⟨b, o, none⟩) n c]) := S1.out.2.1.grown hg1 (fun e => by injection e with e; omega)
      have HRR : Hid ((ok = true ∧ ∃ t D' hk' lk', Good N n 0 0 0 false { data := #[] } n t D' hk' lk' ∧ RBx w1 (w.heap.size + 1) b o n c (0 + nodesR n t) D' lk' hk' ∧ TOx W.heap.size w1 n t v) ∨ (ok = false ∧ ¬ ∃ t D' hk' lk', Good N n 0 0 0 false { data := #[] } n t D' hk' lk')) := hr
      have HWs : Hid (w.heap.size ≤ W.heap.size) := by
        show w.heap.size ≤ W.heap.size
        omega
      clear hg1 hr S1 hsW
      cases ok with
      | false =>
        have HNo : Hid (¬ VT n N) := by
          rintro ⟨t, hv⟩
          obtain ⟨t2, D', hk', lk', g, _⟩ := vt_good hv (Nat.le_refl n)
          rcases HRR.out with ⟨q, _⟩ | ⟨_, q⟩
          · cases q
          · exact q ⟨t2, D', hk', lk', g⟩
        go_wp2
        go_quiet (fail)
        go_wp2
        refine bodyPost_ret (v := .tuple #[.nilIface, .bool false]) (by simp [results, Try.results35, go_sem]) rfl ⟨below_drewN HB.out _, _, false, rfl, .inr ⟨rfl, HNo.out⟩⟩
      | true =>
        obtain ⟨t, D', hk', lk', hgood, hrb, hta⟩ : ∃ t D' hk' lk', Good N n 0 0 0 false { data := #[] } n t D' hk' lk' ∧ RBx w1 (w.heap.size + 1) b o n c (0 + nodesR n t) D' lk' hk' ∧ TOx W.heap.size w1 n t v := by
          rcases HRR.out with ⟨_, q⟩ | ⟨q, _⟩
          · exact q
          · cases q
        have HG : Hid (Good N n 0 0 0 false { data := #[] } n t D' hk' lk' ∧ TOx W.heap.size w1 n t v) := ⟨hgood, hta⟩
        have y0 := HT.out.cell 0
        have hle := hgood.le
        rw [Nat.zero_add] at hrb hle
        obtain ⟨m, hm⟩ : ∃ m, m = nodesR n t := ⟨_, rfl⟩
        rw [← hm] at hrb hle
        have r1 := hrb.cell 1
        have HM : Hid (m = nodesR n t) := hm
        simp at y0 r1
        clear HRR hgood hrb hta hm
        obtain ⟨vb, hvf⟩ : ∃ p, v = .iface 53 (.pointer (some p)) ∨ v = .iface 91 (.pointer (some p)) := by
          obtain ⟨bb, _, _, _, hv⟩ := (TOx.tat HG.out.2).count
          exact ⟨_, hv⟩
        by_cases hmn : m = n
        · have HOut : Hid (∃ (t : Ro n) (t' : Ro 21) (h : Nat), VTt n N t' ∧ keysR 21 t' = keysR n t ∧ BalR n true t h ∧ Tells N 0 n t 0 ∧ nodesR n t = n ∧ TOx w.heap.size w1 n t v) := by
            have hnt : nodesR n t = n := by rw [← HM.out]; exact hmn
            obtain ⟨t', q1, q2⟩ := good_vt (by omega) HG.out.1 hnt
            obtain ⟨hh, hb, _⟩ := HG.out.1.bal
            exact ⟨t, t', hh, q1, q2, by simpa using hb, HG.out.1.tl, hnt, TOx.mono HG.out.2 (by have := HWs.out; omega)⟩
          subst hmn
          have hq : ((m : Int) != (m : Int)) = false := by simp
          rcases hvf with rfl | rfl
          · go_wp2
            go_quiet (fail)
            go_wp2
            refine bodyPost_ret (v := .tuple #[.iface 53 (.pointer (some vb)), .bool true]) (by simp [results, Try.results35, go_sem]) rfl ⟨below_drewN HB.out _, _, true, rfl, .inl ⟨rfl, ?_⟩⟩
            obtain ⟨t, t', hh, q1, q2, q3, q4, q5, q6⟩ := HOut.out
            exact ⟨t, t', hh, q1, q2, q3, q4, q5, q6.below (below_drewN (Below.refl _ _) _)⟩
          · go_wp2
            go_quiet (fail)
            go_wp2
            refine bodyPost_ret (v := .tuple #[.iface 91 (.pointer (some vb)), .bool true]) (by simp [results, Try.results35, go_sem]) rfl ⟨below_drewN HB.out _, _, true, rfl, .inl ⟨rfl, ?_⟩⟩
            obtain ⟨t, t', hh, q1, q2, q3, q4, q5, q6⟩ := HOut.out
            exact ⟨t, t', hh, q1, q2, q3, q4, q5, q6.below (below_drewN (Below.refl _ _) _)⟩
        · have hq : ((m : Int) != (n : Int)) = true := by simp; omega
          have HNo : Hid (¬ VT n N) := by
            rintro ⟨t2, hv⟩
            obtain ⟨t3, D3, hk3, lk3, g3, e3⟩ := vt_good hv (Nat.le_refl n)
            have e := tells_uniq _ _ _ g3.tl HG.out.1.tl
            rw [e, ← HM.out] at e3
            exact hmn e3
          rcases hvf with rfl | rfl
          · go_wp2
            go_quiet (fail)
            go_wp2
            refine bodyPost_ret (v := .tuple #[.nilIface, .bool false]) (by simp [results, Try.results35, go_sem]) rfl ⟨below_drewN HB.out _, _, false, rfl, .inr ⟨rfl, HNo.out⟩⟩
          · go_wp2
            go_quiet (fail)
            go_wp2
            refine bodyPost_ret (v := .tuple #[.nilIface, .bool false]) (by simp [results, Try.results35, go_sem]) rfl ⟨below_drewN HB.out _, _, false, rfl, .inr ⟨rfl, HNo.out⟩⟩

end Go.Proofs.Ytakemeccigpbaaa
