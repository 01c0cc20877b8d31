import Derived.Test.YtcnollkkigiobaaTkI
namespace Go.Proofs.Ytcnollkkigiobaa
open Go.RowKit Go.Deep
set_option linter.unusedVariables false
set_option maxRecDepth 100000

/-- What rank gives, at a leaf or an inner node. -/
def RankC (w : World) (v : Value) (key : ByteArray) (r : Nat) : Prop :=
  (∃ p, v = .iface 135 (.pointer (some p)) ∧ Calls Try.prog 100 #[.pointer (some p), .string key] w fun e w' => e = .returned (.int .i64 (r : Int)) ∧ w' = w) ∨
  (∃ p, v = .iface 140 (.pointer (some p)) ∧ Calls Try.prog 112 #[.pointer (some p), .string key] w fun e w' => e = .returned (.int .i64 (r : Int)) ∧ w' = w)

set_option maxHeartbeats 4000000 in
theorem rank_any (key : ByteArray) (w : World) (S : Nat → Prop) : ∀ (d : Nat) (t : Ro d) (v : Value) (root : Bool) (h : Nat), TAt S w d t v → BalR d root t h → Asc (keysR d t) → (keysR d t).length ≤ 1048576 → RankC w v key (cntL key (keysR d t)) := by
  intro d
  induction d with
  | zero => intro t; exact t.elim
  | succ d ih =>
    intro t v root h ht hb ha hlen
    rcases t with t | l
    · obtain ⟨b, ka, kc, rfl, _, hx, hr⟩ := ht
      exact Or.inl ⟨_, rfl, rankLeaf_any b t.length kc ka _ t key w hx hr.rdS rfl hlen ha⟩
    · have ht2 := ht
      obtain ⟨b, g, kc, xs, rfl, _, hx, _, hgl, hl, hc, hk⟩ := ht2
      obtain ⟨hb1, hb2, h', _, hall⟩ := hb
      refine Or.inr ⟨_, rfl, ?_⟩
      have ha' : Asc (l.flatMap (keysR d)) := ha
      have hlen' : (l.flatMap (keysR d)).length ≤ 1048576 := hlen
      have HKf : Hid (Calls Try.prog 117 #[.pointer (some ⟨b, 0, none⟩), .string key] w (RetKf l key w)) := kidFor_any d b l S h' key w ht hall hb2
      have HRk : Hid (∀ k (hk : k < l.length), ∃ u, w.cell? ⟨g, k, none⟩ = some u ∧ RankC w u key (cntL key (keysR d l[k]))) := by
        intro k hkl
        obtain ⟨u, hu, hut⟩ := hk k hkl
        exact ⟨u, hc k u hu, ih l[k] u false h' hut (hall _ (List.getElem_mem hkl)) (asc_kid ha' k hkl) (by have := kid_keys_le d l k hkl; omega)⟩
      have HCt : Hid (∀ k (hk : k < l.length), ∃ u bb, w.cell? ⟨g, k, none⟩ = some u ∧ w.cell? ⟨bb, 0, none⟩ = some (.int .i64 ((keysR d l[k]).length : Int)) ∧ (u = .iface 135 (.pointer (some ⟨bb, 0, none⟩)) ∨ u = .iface 140 (.pointer (some ⟨bb, 0, none⟩)))) := by
        intro k hkl
        obtain ⟨u, hu, hut⟩ := hk k hkl
        obtain ⟨bb, _, _, q1, q2⟩ := hut.count
        exact ⟨u, bb, hc k u hu, q1, q2⟩
      have HMath : Hid (∀ i (hi : i < l.length), (∀ h : i < l.length, 0 < i → Op.bytesLess key.toList (gt (keysR d l[i]) 0).toList = false) → (∀ h : i + 1 < l.length, Op.bytesLess key.toList (gt (keysR d l[i + 1]) 0).toList = true) → cntL key (l.flatMap (keysR d)) = ((l.take i).flatMap (keysR d)).length + cntL key (keysR d l[i])) := fun i hi q1 q2 => cntL_kid hi ha' (fun k hk => bal_pos (hall _ (List.getElem_mem hk))) (fun h0 => q1 hi h0) q2
      have HLe : Hid ((l.flatMap (keysR d)).length ≤ 1048576) := hlen'
      have c1 := hx.cell 1
      simp at c1
      obtain ⟨ln, hln⟩ : ∃ ln, ln = l.length := ⟨_, rfl⟩
      obtain ⟨_, hcap, hcapm⟩ := hgl
      rw [← hln] at c1 hl hb2 hcap
      have HLn : Hid (ln = l.length) := hln
      clear hx hc hk hall ih ht ha hlen ha' hlen' hln hb1
      have HGoal : Hid (cntL key (keysR (d + 1) (.inr l)) = cntL key (l.flatMap (keysR d))) := rfl
      go_enter Try.func112, Try.ntmps112
      go_wp2_with fail
      refine HKf.out.mono ?_
      rintro e w1 ⟨i, rfl, rfl, hi, q1, q2⟩
      have HM : Hid (cntL key (l.flatMap (keysR d)) = ((l.take i).flatMap (keysR d)).length + cntL key (keysR d l[i])) := HMath.out i hi q1 q2
      obtain ⟨u, hu, hrank⟩ := HRk.out i hi
      have hin : i < ln := by rw [HLn.out]; exact hi
      have i0 : (0 : Int) ≤ (i : Int) := by omega
      have i1 : (i : Int) < (ln : Int) := by omega
      have ic : (i : Int) ≤ (kc : Int) := by omega
      have icn : i ≤ kc := by omega
      obtain ⟨R, hR⟩ : ∃ R, R = cntL key (keysR d l[i]) := ⟨_, rfl⟩
      rw [← hR] at hrank
      have HR : Hid (R = cntL key (keysR d l[i]) ∧ R ≤ 1048576) := by
        refine ⟨hR, ?_⟩
        have h1 : cntL key (keysR d l[i]) ≤ (keysR d l[i]).length := List.length_filter_le _ _
        have h2 := kid_keys_le d l i hi
        have := HLe.out
        omega
      have hRb := HR.out.2
      clear q1 q2 HKf HMath HRk hR
      rcases hrank with ⟨p, rfl, hcall⟩ | ⟨p, rfl, hcall⟩
      · have HC : Hid (Calls Try.prog 100 #[.pointer (some p), .string key] w1 fun e w' => e = .returned (.int .i64 (R : Int)) ∧ w' = w1) := hcall
        clear hcall
        go_wp2_with fail
        refine HC.out.mono ?_
        rintro e w2 ⟨rfl, rfl⟩
        go_wp2
        go_loopw [6, 28] (fun q k wr => ∃ j A : Nat, j ≤ i ∧ k = .int .i64 j ∧ q = .int .i64 (A : Int) ∧ A = R + ((l.take j).flatMap (keysR d)).length ∧ wr = w2) (fun _ k _ => i - (intOf k).toNat)
        case atStart => exact ⟨0, R, Nat.zero_le _, rfl, rfl, by simp, rfl⟩
        case round =>
          obtain ⟨j, A, hj, rfl, rfl, hA, rfl⟩ := hrel
          have HA : Hid (A = R + ((l.take j).flatMap (keysR d)).length) := hA
          have hAb : A ≤ 4194304 := by
            have := flat_take_le (keysR d) l j
            have := HLe.out
            omega
          clear hA
          by_cases hlt : j < i
          · have hjl : j < l.length := by omega
            obtain ⟨u, bb, hcu, hcc, hform⟩ := HCt.out j hjl
            have j0 : (0 : Int) ≤ (j : Int) := by omega
            have j1 : (j : Int) < (i : Int) := by omega
            obtain ⟨C, hC⟩ : ∃ C : Nat, C = (keysR d l[j]).length := ⟨_, rfl⟩
            rw [← hC] at hcc
            have HC2 : Hid (C = (keysR d l[j]).length) := hC
            have hCb : C ≤ 1048576 := by
              have := kid_keys_le d l j hjl
              have := HLe.out
              omega
            have HN : Hid (A + C = R + ((l.take (j + 1)).flatMap (keysR d)).length) := by
              show A + C = R + ((l.take (j + 1)).flatMap (keysR d)).length
              rw [flat_len_take l j hjl, HA.out, HC2.out]
              omega
            clear hC
            have HB : Hid (Calls Try.prog 76 #[.pointer (some ⟨bb, 0, none⟩)] wr fun e w' => e = .returned (.int .i64 (C : Int)) ∧ w' = wr) := below_any bb (C : Int) wr hcc
            rcases hform with rfl | rfl
            · go_wp2_with fail
              refine HB.out.mono ?_
              rintro e w3 ⟨rfl, rfl⟩
              go_wp2
              go_roundw
              case rel => exact ⟨j + 1, A + C, by omega, by go_num, by go_num, HN.out, trivial⟩
              case measure => simp [intOf]; omega
            · go_wp2_with fail
              refine HB.out.mono ?_
              rintro e w3 ⟨rfl, rfl⟩
              go_wp2
              go_roundw
              case rel => exact ⟨j + 1, A + C, by omega, by go_num, by go_num, HN.out, trivial⟩
              case measure => simp [intOf]; omega
          · have e : j = i := by omega
            subst e
            have hjf : ¬ (j : Int) < (j : Int) := by omega
            have HEnd : Hid (cntL key (keysR (d + 1) (.inr l)) = A) := by
              show cntL key (keysR (d + 1) (.inr l)) = A
              rw [HGoal.out, HM.out, HA.out, HR.out.1]
              omega
            go_wp2
            go_ret
            exact ⟨by rw [HEnd.out]; rfl, rfl⟩
      · have HC : Hid (Calls Try.prog 112 #[.pointer (some p), .string key] w1 fun e w' => e = .returned (.int .i64 (R : Int)) ∧ w' = w1) := hcall
        clear hcall
        go_wp2_with fail
        refine HC.out.mono ?_
        rintro e w2 ⟨rfl, rfl⟩
        go_wp2
        go_loopw [6, 28] (fun q k wr => ∃ j A : Nat, j ≤ i ∧ k = .int .i64 j ∧ q = .int .i64 (A : Int) ∧ A = R + ((l.take j).flatMap (keysR d)).length ∧ wr = w2) (fun _ k _ => i - (intOf k).toNat)
        case atStart => exact ⟨0, R, Nat.zero_le _, rfl, rfl, by simp, rfl⟩
        case round =>
          obtain ⟨j, A, hj, rfl, rfl, hA, rfl⟩ := hrel
          have HA : Hid (A = R + ((l.take j).flatMap (keysR d)).length) := hA
          have hAb : A ≤ 4194304 := by
            have := flat_take_le (keysR d) l j
            have := HLe.out
            omega
          clear hA
          by_cases hlt : j < i
          · have hjl : j < l.length := by omega
            obtain ⟨u, bb, hcu, hcc, hform⟩ := HCt.out j hjl
            have j0 : (0 : Int) ≤ (j : Int) := by omega
            have j1 : (j : Int) < (i : Int) := by omega
            obtain ⟨C, hC⟩ : ∃ C : Nat, C = (keysR d l[j]).length := ⟨_, rfl⟩
            rw [← hC] at hcc
            have HC2 : Hid (C = (keysR d l[j]).length) := hC
            have hCb : C ≤ 1048576 := by
              have := kid_keys_le d l j hjl
              have := HLe.out
              omega
            have HN : Hid (A + C = R + ((l.take (j + 1)).flatMap (keysR d)).length) := by
              show A + C = R + ((l.take (j + 1)).flatMap (keysR d)).length
              rw [flat_len_take l j hjl, HA.out, HC2.out]
              omega
            clear hC
            have HB : Hid (Calls Try.prog 76 #[.pointer (some ⟨bb, 0, none⟩)] wr fun e w' => e = .returned (.int .i64 (C : Int)) ∧ w' = wr) := below_any bb (C : Int) wr hcc
            rcases hform with rfl | rfl
            · go_wp2_with fail
              refine HB.out.mono ?_
              rintro e w3 ⟨rfl, rfl⟩
              go_wp2
              go_roundw
              case rel => exact ⟨j + 1, A + C, by omega, by go_num, by go_num, HN.out, trivial⟩
              case measure => simp [intOf]; omega
            · go_wp2_with fail
              refine HB.out.mono ?_
              rintro e w3 ⟨rfl, rfl⟩
              go_wp2
              go_roundw
              case rel => exact ⟨j + 1, A + C, by omega, by go_num, by go_num, HN.out, trivial⟩
              case measure => simp [intOf]; omega
          · have e : j = i := by omega
            subst e
            have hjf : ¬ (j : Int) < (j : Int) := by omega
            have HEnd : Hid (cntL key (keysR (d + 1) (.inr l)) = A) := by
              show cntL key (keysR (d + 1) (.inr l)) = A
              rw [HGoal.out, HM.out, HA.out, HR.out.1]
              omega
            go_wp2
            go_ret
            exact ⟨by rw [HEnd.out]; rfl, rfl⟩
end Go.Proofs.Ytcnollkkigiobaa
