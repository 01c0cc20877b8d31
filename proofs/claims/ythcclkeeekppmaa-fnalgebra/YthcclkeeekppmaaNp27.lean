import Derived.Test.YthcclkeeekppmaaNp1
import Derived.Test.YthcclkeeekppmaaNp3
import Derived.Deep.CutBlock
import Derived.Test.YthcclkeeekppmaaNp7
import Derived.Test.YthcclkeeekppmaaPaS
import Derived.Test.YthcclkeeekppmaaPlS
import Derived.Test.YthcclkeeekppmaaNp2
import Derived.Maps.AppendAt
namespace Go.Proofs.Ythcclkeeekppmaa
open Go.RowKit Go.Deep
set_option linter.unusedVariables false
set_option linter.unusedSimpArgs false
set_option maxRecDepth 100000

set_option maxHeartbeats 1000000 in
theorem lwHas_any (a : Option Addr) (c : Nat) (L : List ByteArray) (key : ByteArray) (w : World) (h : RdG w a L) (hn : L.length ≤ 1048576) :
    Calls Try.prog 9 #[.slice a L.length c, .string key] w fun e w' => ∃ b : Bool, e = .returned (.bool b) ∧ (b = true ↔ key ∈ L) ∧ w' = w := by
  have HR : Hid (RdG w a L) := h
  obtain ⟨n, hnn⟩ : ∃ n, n = L.length := ⟨_, rfl⟩
  rw [← hnn] at hn ⊢
  have HN : Hid (n = L.length) := hnn
  clear h hnn
  go_enter Try.func9, Try.ntmps9
  go_wp2
  go_loopw [5] (fun i wr => ∃ k : Nat, k ≤ n ∧ i = .int .i64 k ∧ (∀ j, j < k → gt L j ≠ key) ∧ wr = w) (fun i _ => n - (intOf i).toNat)
  case atStart => exact ⟨0, Nat.zero_le _, rfl, fun j hj => absurd hj (Nat.not_lt_zero _), rfl⟩
  case round =>
    obtain ⟨k, hk, rfl, hall, rfl⟩ := hrel
    have HS : Hid (∀ j, j < k → gt L j ≠ key) := hall
    clear hall
    by_cases hlt : k < n
    · obtain ⟨b, o, rfl, s1⟩ := HR.out.cell (i := k) (by rw [← HN.out]; exact hlt)
      have i0 : (0 : Int) ≤ (k : Int) := by omega
      have i1 : (k : Int) < (n : Int) := by omega
      by_cases heq : gt L k = key
      · have hb : ((gt L k).toList == key.toList) = true := str_eq.2 heq
        have HM : Hid (key ∈ L) := by rw [← heq]; exact gt_mem (by rw [← HN.out]; exact hlt)
        clear heq
        go_wp2
        go_ret
        exact ⟨true, rfl, ⟨fun _ => HM.out, fun _ => rfl⟩, rfl⟩
      · have hb : ((gt L k).toList == key.toList) = false := by
          cases hq : ((gt L k).toList == key.toList) with
          | false => rfl
          | true => exact absurd (str_eq.1 hq) heq
        have HX : Hid (∀ j, j < k + 1 → gt L j ≠ key) := fun j hj => by
          by_cases e : j = k
          · rw [e]; exact heq
          · exact HS.out j (by omega)
        clear heq
        go_wp2
        go_roundw
        case rel => exact ⟨k + 1, by omega, by go_num, HX.out, by first | rfl | trivial⟩
        case measure => simp [intOf]; omega
    · have e : k = n := by omega
      subst e
      have HM : Hid (¬ key ∈ L) := fun hm => by
        obtain ⟨i, hi, e⟩ := mem_gt hm
        exact HS.out i (by rw [HN.out]; exact hi) e
      go_wp2
      go_ret
      exact ⟨false, rfl, ⟨(fun q => by cases q), fun q => absurd q HM.out⟩, rfl⟩
set_option maxHeartbeats 2000000 in
theorem lwPut_any (a : Option Addr) (c : Nat) (L : List ByteArray) (t : ByteArray) (w : World) (h : RdG w a L) (hA : Asc L) (hn : L.length ≤ 1048576) (hc : L.length ≤ c) (hcm : c ≤ 9223372036854775807) :
    Calls Try.prog 10 #[.slice a L.length c, .string t] w (RetM w (L.length + 1) (fun x => x ∈ L ∨ x = t)) := by
  have HR : Hid (RdG w a L ∧ Asc L) := ⟨h, hA⟩
  obtain ⟨n, hnn⟩ : ∃ n, n = L.length := ⟨_, rfl⟩
  have HIn : Hid (Calls Try.prog 9 #[.slice a n c, .string t] w fun e w' => ∃ b : Bool, e = .returned (.bool b) ∧ (b = true ↔ t ∈ L) ∧ w' = w) := by rw [hnn]; exact lwHas_any a c L t w h hn
  rw [← hnn] at hn hc ⊢
  have HN : Hid (n = L.length) := hnn
  clear h hA hnn
  go_enter Try.func10, Try.ntmps10
  go_wp2_with fail
  refine HIn.out.mono ?_
  rintro e w1 ⟨b, rfl, hb, hw1⟩
  subst hw1
  cases b with
  | true =>
    have HM : Hid (t ∈ L) := hb.1 rfl
    have HF : Hid (RetM w1 (n + 1) (fun x => x ∈ L ∨ x = t) (.returned (.slice a n c)) w1) := by
      refine ⟨a, c, L, by rw [HN.out], HR.out.1, HR.out.2, fun x => ⟨fun q => .inl q, fun q => ?_⟩, by have := HN.out; omega, by rw [← HN.out]; exact hc, hcm, Below.refl _ _⟩
      rcases q with q | q
      · exact q
      · rw [q]; exact HM.out
    clear hb
    go_wp2
    go_ret
    exact HF.out
  | false =>
    have HM : Hid (¬ t ∈ L) := fun q => by have := hb.2 q; cases this
    clear hb HIn
    go_wp2
    go_loopw [5] (fun i wr => ∃ k : Nat, k ≤ n ∧ i = .int .i64 k ∧ (∀ j, j < k → Op.bytesLess (gt L j).toList t.toList = true) ∧ wr = w1) (fun i _ => n - (intOf i).toNat)
    case atStart => exact ⟨0, Nat.zero_le _, rfl, fun j hj => absurd hj (Nat.not_lt_zero _), rfl⟩
    case round =>
      obtain ⟨k, hk, rfl, hall, rfl⟩ := hrel
      have HS : Hid (∀ j, j < k → Op.bytesLess (gt L j).toList t.toList = true) := hall
      clear hall
      have hEnd : (k < n → Op.bytesLess (gt L k).toList t.toList = false) → Asc (L.take k ++ t :: L.drop k) := fun h2 => asc_ins HR.out.2 (by rw [← HN.out]; exact hk) HS.out (by rw [← HN.out]; exact h2) HM.out
      have HEnd : Hid ((k < n → Op.bytesLess (gt L k).toList t.toList = false) → Asc (L.take k ++ t :: L.drop k)) := hEnd
      clear hEnd
      have hup : ∀ W : World, (Instr.sliceAt 30 (.slice a n c) none (some (.int .i64 (k : Int))) none).run Try.prog W = .ok (.slice a k c) W := fun W => uptoS a n c k hk hc W
      obtain ⟨ra, hra⟩ : ∃ ra : Option Addr, ra = (if c = k then a else a.map fun x => x.add k) := ⟨_, rfl⟩
      have hfr : ∀ W : World, (Instr.sliceAt 30 (.slice a n c) (some (.int .i64 (k : Int))) none none).run Try.prog W = .ok (.slice ra (n - k) (c - k)) W := fun W => by rw [hra]; exact fromS a n c k hk hc W
      have HRA : Hid (∀ W, Below wr.heap.size wr W → RdS W ra (n - k) (gt (L.drop k)) ∧ RdS W a k (gt (L.take k))) := fun W hW => by
        have q := HR.out.1.below hW
        have hkl : k ≤ L.length := by rw [← HN.out]; exact hk
        refine ⟨?_, q.take k hkl⟩
        rw [hra, HN.out]
        exact q.drop k c hkl (by rw [← HN.out]; exact hc)
      clear hra
      have HIF : Hid (Try.prog.info? 9 = some (Classical.choose (Option.map_eq_some_iff.1 infoStr))) := (Classical.choose_spec (Option.map_eq_some_iff.1 infoStr)).1
      have HBODY : Hid (Asc (L.take k ++ t :: L.drop k) → ∀ (v3 : Value) (w3 : World), w3.ownsRow wr.heap.size 9 1 v3 (k + 1 + (n - k)) (strL (L.take k ++ t :: L.drop k)) → Below wr.heap.size wr w3 → RetM wr (n + 1) (fun x => x ∈ L ∨ x = t) (.returned v3) w3) := fun hA v3 w3 ho hb => by
        have hlen : k + 1 + (n - k) = (L.take k ++ t :: L.drop k).length := by rw [List.length_append, List.length_cons, List.length_take, List.length_drop, ← HN.out]; omega
        obtain ⟨a3, c3, rfl, h1, h2, h3⟩ := ownS_strL ho hlen
        refine ⟨a3, c3, _, by rw [hlen], h1.rd, hA, fun x => ?_, by rw [← hlen]; omega, by rw [← hlen]; exact h2, h3, hb⟩
        rw [List.mem_append, List.mem_cons]
        constructor
        · rintro (q | q | q)
          · exact .inl (List.mem_of_mem_take q)
          · exact .inr q
          · exact .inl (List.mem_of_mem_drop q)
        · rintro (q | q)
          · rw [← List.take_append_drop k L, List.mem_append] at q
            rcases q with q | q
            · exact .inl q
            · exact .inr (.inr q)
          · exact .inr (.inl q)
      have tail : True := trivial
      by_cases hlt : k < n
      · obtain ⟨bb, o, rfl, s1⟩ := HR.out.1.cell (i := k) (by rw [← HN.out]; exact hlt)
        have i0 : (0 : Int) ≤ (k : Int) := by omega
        have i1 : (k : Int) < (n : Int) := by omega
        cases hcmp : Op.bytesLess (gt L k).toList t.toList with
        | true =>
          have HX : Hid (∀ j, j < k + 1 → Op.bytesLess (gt L j).toList t.toList = true) := fun j hj => by
            by_cases e : j = k
            · rw [e]; exact hcmp
            · exact HS.out j (by omega)
          clear hup hfr
          go_wp2
          go_roundw
          case rel => exact ⟨k + 1, by omega, by go_num, HX.out, by first | rfl | trivial⟩
          case measure => simp [intOf]; omega
        | false =>
          have HA := HEnd.out (fun _ => hcmp)
          have HB9 : Hid (∀ (v3 : Value) (w3 : World), w3.ownsRow wr.heap.size 9 1 v3 (k + 1 + (n - k)) (strL (L.take k ++ t :: L.drop k)) → Below wr.heap.size wr w3 → RetM wr (n + 1) (fun x => x ∈ L ∨ x = t) (.returned v3) w3) := HBODY.out HA
          clear HA HBODY HEnd
          go_wp2_with (at_builtin; refine wpList_append_strs rfl _ _ rfl wr.heap.size (.slice (some ⟨wr.heap.size, 0, none⟩) 0 0) 0 [] rfl (own_empty wr 9 wr.heap.size 1 (Nat.le_refl _)) (some ⟨bb, o, none⟩) k c (L.take k) rfl (by rw [List.length_take, ← HN.out]; omega) (HRA.out _ (below_alloc _ _)).2 (by omega) (by simp) ?_)
          intro v1 w2 ho1 hg1 _
          have H1 : Hid (w2.ownsRow wr.heap.size 9 1 v1 k (strL (L.take k)) ∧ Below wr.heap.size wr w2) := ⟨by simpa using ho1, (below_alloc _ _).grown hg1 (by simp) (fun g e => by simp [Value.ownBlock] at e; omega)⟩
          clear ho1 hg1
          obtain ⟨va, vc, rfl⟩ := own_shape H1.out.1
          have z2 := H1.out.2.size
          obtain ⟨i0, hi, hz0, hz1, hz2⟩ := info_parts infoStr
          have HI : Hid (Try.prog.info? 9 = some i0 ∧ i0.zero = some (.string { data := #[] }) ∧ i0.size = 1 ∧ i0.bytes = 16) := ⟨hi, hz0, hz1, hz2⟩
          clear hi hz0 hz1 hz2
          have H1a : Hid ((w2.alloc (.cells #[.string t] 9)).ownsRow wr.heap.size 9 1 (.slice va k vc) k (strL (L.take k))) := own_below H1.out.1 (below_alloc _ _)
          go_wp2_with (at_builtin; refine wpList_append_own_at _ rfl _ _ 30 rfl wr.heap.size 9 i0 (.string { data := #[] }) 1 16 Try.underlying30 HI.out.1 HI.out.2.1 HI.out.2.2.1 HI.out.2.2.2 rfl (by decide) (.slice va k vc) k _ rfl H1a.out ⟨w2.heap.size, 0, none⟩ 1 1 [.string t] rfl rfl (cell_one_new _ _ _) (by intro u hu; simp at hu; subst hu; rfl) (by unfold maxLen; omega) (by omega) (by simp; omega) ?_)
          intro v2 w3 ho2 hg2 _ _
          have H2 : Hid (w3.ownsRow wr.heap.size 9 1 v2 (k + 1) (strL (L.take k ++ [t])) ∧ Below wr.heap.size wr w3) := ⟨by rw [strL_app]; exact ho2, (H1.out.2.alloc z2 _).grown hg2 (by simp; omega) (fun g e => (own_lt H1.out.1 g e).1)⟩
          clear ho2 hg2 H1 H1a HI
          obtain ⟨vb, vd, rfl⟩ := own_shape H2.out.1
          have z3 := H2.out.2.size
          go_wp2_with (at_builtin; refine wpList_append_strs rfl _ _ rfl wr.heap.size (.slice vb (k + 1) vd) (k + 1) _ rfl H2.out.1 ra (n - k) (c - k) (L.drop k) rfl (by rw [List.length_drop, ← HN.out]) (HRA.out _ H2.out.2).1 (by omega) z3 ?_)
          intro v3 w4 ho3 hg3 _
          have H3 : Hid (RetM wr (n + 1) (fun x => x ∈ L ∨ x = t) (.returned v3) w4) := HB9.out v3 w4 (by rw [← strL_app] at ho3; simpa using ho3) (H2.out.2.grown hg3 z3 (fun g e => (own_lt H2.out.1 g e).1))
          clear ho3 hg3 H2
          go_wp2
          go_ret
          exact H3.out
      · have i1 : ¬ (k : Int) < (n : Int) := by omega
        have HA := HEnd.out (fun q => absurd q hlt)
        have HB9 : Hid (∀ (v3 : Value) (w3 : World), w3.ownsRow wr.heap.size 9 1 v3 (k + 1 + (n - k)) (strL (L.take k ++ t :: L.drop k)) → Below wr.heap.size wr w3 → RetM wr (n + 1) (fun x => x ∈ L ∨ x = t) (.returned v3) w3) := HBODY.out HA
        clear HA HBODY HEnd
        go_wp2_with (at_builtin; refine wpList_append_strs rfl _ _ rfl wr.heap.size (.slice (some ⟨wr.heap.size, 0, none⟩) 0 0) 0 [] rfl (own_empty wr 9 wr.heap.size 1 (Nat.le_refl _)) a k c (L.take k) rfl (by rw [List.length_take, ← HN.out]; omega) (HRA.out _ (below_alloc _ _)).2 (by omega) (by simp) ?_)
        intro v1 w2 ho1 hg1 _
        have H1 : Hid (w2.ownsRow wr.heap.size 9 1 v1 k (strL (L.take k)) ∧ Below wr.heap.size wr w2) := ⟨by simpa using ho1, (below_alloc _ _).grown hg1 (by simp) (fun g e => by simp [Value.ownBlock] at e; omega)⟩
        clear ho1 hg1
        obtain ⟨va, vc, rfl⟩ := own_shape H1.out.1
        have z2 := H1.out.2.size
        obtain ⟨i0, hi, hz0, hz1, hz2⟩ := info_parts infoStr
        have HI : Hid (Try.prog.info? 9 = some i0 ∧ i0.zero = some (.string { data := #[] }) ∧ i0.size = 1 ∧ i0.bytes = 16) := ⟨hi, hz0, hz1, hz2⟩
        clear hi hz0 hz1 hz2
        have H1a : Hid ((w2.alloc (.cells #[.string t] 9)).ownsRow wr.heap.size 9 1 (.slice va k vc) k (strL (L.take k))) := own_below H1.out.1 (below_alloc _ _)
        go_wp2_with (at_builtin; refine wpList_append_own_at _ rfl _ _ 30 rfl wr.heap.size 9 i0 (.string { data := #[] }) 1 16 Try.underlying30 HI.out.1 HI.out.2.1 HI.out.2.2.1 HI.out.2.2.2 rfl (by decide) (.slice va k vc) k _ rfl H1a.out ⟨w2.heap.size, 0, none⟩ 1 1 [.string t] rfl rfl (cell_one_new _ _ _) (by intro u hu; simp at hu; subst hu; rfl) (by unfold maxLen; omega) (by omega) (by simp; omega) ?_)
        intro v2 w3 ho2 hg2 _ _
        have H2 : Hid (w3.ownsRow wr.heap.size 9 1 v2 (k + 1) (strL (L.take k ++ [t])) ∧ Below wr.heap.size wr w3) := ⟨by rw [strL_app]; exact ho2, (H1.out.2.alloc z2 _).grown hg2 (by simp; omega) (fun g e => (own_lt H1.out.1 g e).1)⟩
        clear ho2 hg2 H1 H1a HI
        obtain ⟨vb, vd, rfl⟩ := own_shape H2.out.1
        have z3 := H2.out.2.size
        go_wp2_with (at_builtin; refine wpList_append_strs rfl _ _ rfl wr.heap.size (.slice vb (k + 1) vd) (k + 1) _ rfl H2.out.1 ra (n - k) (c - k) (L.drop k) rfl (by rw [List.length_drop, ← HN.out]) (HRA.out _ H2.out.2).1 (by omega) z3 ?_)
        intro v3 w4 ho3 hg3 _
        have H3 : Hid (RetM wr (n + 1) (fun x => x ∈ L ∨ x = t) (.returned v3) w4) := HB9.out v3 w4 (by rw [← strL_app] at ho3; simpa using ho3) (H2.out.2.grown hg3 z3 (fun g e => (own_lt H2.out.1 g e).1))
        clear ho3 hg3 H2
        go_wp2
        go_ret
        exact H3.out
set_option maxHeartbeats 1000000 in
theorem lwTexts_any (a a' : Option Addr) (n n' c c' : Nat) (L : List ByteArray) (hnn : n = L.length) (hn' : n' = L.length) (w : World) (h : RdG w a L) (h' : RdG w a' L) (hn : n ≤ 1048576) :
    Calls Try.prog 11 #[.slice a n c, .slice a' n' c'] w fun e w' => e = .returned (.bool true) ∧ Below w.heap.size w w' := by
  obtain rfl : n' = n := by omega
  have H : Hid (RdG w a L ∧ RdG w a' L ∧ n' = L.length) := ⟨h, h', hnn⟩
  clear h h' hn' hnn
  have hne : ((n' : Int) != (n' : Int)) = false := by simp
  go_enter Try.func11, Try.ntmps11
  go_wp2
  go_loopw [5] (fun i wr => ∃ k : Nat, k ≤ n' ∧ i = .int .i64 k ∧ Below w.heap.size w wr) (fun i _ => n' - (intOf i).toNat)
  case atStart => exact ⟨0, Nat.zero_le _, rfl, Below.refl _ _⟩
  case round =>
    obtain ⟨k, hk, rfl, hbel⟩ := hrel
    have HB : Hid (Below w.heap.size w wr) := hbel
    by_cases hlt : k < n'
    · have i0 : (0 : Int) ≤ (k : Int) := by omega
      have i1 : (k : Int) < (n' : Int) := by omega
      obtain ⟨b1, o1, rfl, s1⟩ := (H.out.1.below hbel).cell (i := k) (by rw [← H.out.2.2]; exact hlt)
      obtain ⟨b2, o2, rfl, s2⟩ := (H.out.2.1.below hbel).cell (i := k) (by rw [← H.out.2.2]; exact hlt)
      have HX : Hid (∀ q, Below w.heap.size w (wr.drewN q)) := fun q => below_drewN hbel q
      have e1 : ((gt L k).toList == (gt L k).toList) = true := by simp
      have e2 : ((gt L k).toList != (gt L k).toList) = false := by simp
      clear hbel
      generalize gt L k = y at *
      go_wp2
      go_region
      go_wp2
      go_roundw
      case rel => exact ⟨k + 1, by omega, by go_num, by first | exact HB.out | exact HX.out _⟩
      case measure => simp [intOf]; omega
    · have i1 : ¬ (k : Int) < (n' : Int) := by omega
      clear hbel
      go_wp2
      go_ret
      exact ⟨rfl, HB.out⟩
end Go.Proofs.Ythcclkeeekppmaa

namespace Go.Proofs.Ythcclkeeekppmaa
open Go.RowKit Go.Deep
set_option linter.unusedVariables false
set_option linter.unusedSimpArgs false
set_option maxRecDepth 100000

/-- Two rows of nodes hold the same tree, at one place and at another. -/
structure SmT (I I' : Nat → Int) (X X' R R' : Nat → ByteArray) (b b' m : Nat) : Prop where
  i : ∀ j, j ≤ m → I (b + j) = I' (b' + j)
  x : ∀ j, j ≤ m → X (b + j) = X' (b' + j)
  r : ∀ j, j ≤ m → R (b + j) = R' (b' + j)
  k : ∀ j, j ≤ m → 1 ≤ I (b + j) ∧ I (b + j) ≤ 9
theorem SmT.sub {I I' : Nat → Int} {X X' R R' : Nat → ByteArray} {b b' m : Nat} (h : SmT I I' X X' R R' b b' m) {s q : Nat} (hq : s + q ≤ m) : SmT I I' X X' R R' (b + s) (b' + s) q :=
  ⟨fun j hj => by have := h.i (s + j) (by omega); simpa only [Nat.add_assoc] using this, fun j hj => by have := h.x (s + j) (by omega); simpa only [Nat.add_assoc] using this, fun j hj => by have := h.r (s + j) (by omega); simpa only [Nat.add_assoc] using this, fun j hj => by have := h.k (s + j) (by omega); simpa only [Nat.add_assoc] using this⟩
theorem begins_same {A B : Nat → Nat} {e s : Nat} (h : ∀ i, i < e → A i = B i) (hb : Begins A e s) : Begins B e s := by
  have hd : ∀ j, j ≤ e → dep A j = dep B j := fun j hj => by
    induction j with
    | zero => rfl
    | succ j ih => show _ = _; unfold dep; rw [ih (by omega), h j (by omega)]
  obtain ⟨h1, h2, h3⟩ := hb
  refine ⟨h1, ?_, fun j q1 q2 => ?_⟩
  · unfold need at h2 ⊢
    rw [← hd e (Nat.le_refl _), ← hd s (by omega)]
    exact h2
  · have := h3 j q1 q2
    unfold need at this ⊢
    rw [← hd e (Nat.le_refl _), ← hd j q2]
    exact this
/-- The operands of a tree's root. -/
theorem ops_of {I : Nat → Int} {base m : Nat} (hb : Begins (fun i => arOf (I (base + i))) (m + 1) 0) :
    arOf (I (base + m)) = 0 ∨ (arOf (I (base + m)) = 1 ∧ 0 < m ∧ opf (arI I) (base + m) 0 = base + (m - 1) ∧ Begins (fun i => arOf (I (base + i))) (m - 1 + 1) 0) ∨
    (arOf (I (base + m)) = 2 ∧ ∃ s, 0 < s ∧ s < m ∧ opf (arI I) (base + m) 0 = base + (s - 1) ∧ opf (arI I) (base + m) 1 = (base + s) + (m - s - 1) ∧ Begins (fun i => arOf (I (base + i))) (s - 1 + 1) 0 ∧ Begins (fun i => arOf (I (base + s + i))) (m - s - 1 + 1) 0) := by
  have hk := kids_math (n := m + 1) (by omega) hb (by exact arOf_le _)
  rw [Nat.add_sub_cancel] at hk
  rcases hk with ⟨e, hm⟩ | ⟨e, h1⟩ | ⟨e, s, hs, h1, h2⟩
  · exact .inl e
  · have hm := h1.1
    refine .inr (.inl ⟨e, hm, ?_, by rw [show m - 1 + 1 = m by omega]; exact h1⟩)
    unfold opf arI
    rw [if_neg (by omega)]
    omega
  · have hm := h1.1
    have hs2 := h2.1
    refine .inr (.inr ⟨e, s, hs2, hm, ?_, ?_, by rw [show s - 1 + 1 = s by omega]; exact h2, ?_⟩)
    · have q := bgF_of (Begins.lift (A := arI I) h1)
      unfold opf
      rw [if_pos ⟨e, rfl⟩, q]
      omega
    · unfold opf
      rw [if_neg (by omega)]
      omega
    · rw [show m - s - 1 + 1 = m - s by omega]
      have := h1.shift
      simpa only [Nat.add_assoc] using this
/-- The same tree means the same. -/
theorem MS_same {I I' : Nat → Int} {X X' R R' : Nat → ByteArray} {fs : List Fc} : ∀ (f b b' m : Nat), m + 1 ≤ f → SmT I I' X X' R R' b b' m → Begins (fun i => arOf (I (b + i))) (m + 1) 0 → ∀ bd g x, MS I X R fs (b + m) bd g x ↔ MS I' X' R' fs (b' + m) bd g x
  | 0, b, b', m, hf, _, _ => absurd hf (by omega)
  | f + 1, b, b', m, hf, hS, hb => by
    intro bd g x
    have hb' : Begins (fun i => arOf (I' (b' + i))) (m + 1) 0 := begins_same (fun i hi => by show arOf _ = arOf _; rw [hS.i i (by omega)]) hb
    have ei := hS.i m (Nat.le_refl _)
    have ex := hS.x m (Nat.le_refl _)
    have er := hS.r m (Nat.le_refl _)
    have hk := hS.k m (Nat.le_refl _)
    have o := ops_of hb
    have o' := ops_of hb'
    have hk' := hk
    rw [ei] at hk'
    rw [← ei] at o'
    rcases o with e | ⟨e, h0, e0, g0⟩ | ⟨e, s, h0, h1, e0, e1, g0, g1⟩
    · rw [MS_eq hk (by omega) (by omega), MS_eq hk' (by rw [← ei]; omega) (by rw [← ei]; omega), ← ei, ← ex, ← er]
      exact nodeM_congr hk (by omega) (by omega) x
    · rcases o' with e' | ⟨_, _, e0', g0'⟩ | ⟨e', _⟩
      · omega
      · rw [MS_eq hk (by omega) (by omega), MS_eq hk' (by rw [← ei]; omega) (by rw [← ei]; omega), ← ei, ← ex, ← er, e0, e0']
        refine nodeM_congr hk (fun _ y => ?_) (by omega) x
        exact MS_same f b b' (m - 1) (by omega) (by have := hS.sub (s := 0) (q := m - 1) (by omega); simpa using this) g0 _ _ y
      · omega
    · rcases o' with e' | ⟨e', _⟩ | ⟨_, s', h0', h1', e0', e1', g0', g1'⟩
      · omega
      · omega
      · have hss : s = s' := by
          have q1 : Begins (fun i => arOf (I (b + i))) m s := by
            have hk2 := kids_math (n := m + 1) (by omega) hb (by exact arOf_le _)
            rw [Nat.add_sub_cancel] at hk2
            rcases hk2 with ⟨q, _⟩ | ⟨q, _⟩ | ⟨_, t, _, q, _⟩
            · omega
            · omega
            · have : opf (arI I) (b + m) 0 = b + (t - 1) := by
                have q := bgF_of (Begins.lift (A := arI I) q)
                unfold opf
                rw [if_pos ⟨e, rfl⟩, q]
                have := h0; omega
              have hts : t = s := by
                by_cases ht : t = 0
                · subst ht
                  have := q.2.2
                  omega
                · omega
              rw [← hts]
              exact q
          have q2 : Begins (fun i => arOf (I (b + i))) m s' := by
            have hk2 := kids_math (n := m + 1) (by omega) hb' (by exact arOf_le _)
            rw [Nat.add_sub_cancel] at hk2
            rcases hk2 with ⟨q, _⟩ | ⟨q, _⟩ | ⟨_, t, _, q, _⟩
            · rw [← ei] at q; omega
            · rw [← ei] at q; omega
            · have : opf (arI I') (b' + m) 0 = b' + (t - 1) := by
                have q := bgF_of (Begins.lift (A := arI I') q)
                unfold opf
                rw [if_pos ⟨by show arOf _ = 2; rw [← ei]; exact e, rfl⟩, q]
                omega
              have hts : t = s' := by
                by_cases ht : t = 0
                · subst ht; omega
                · omega
              rw [← hts]
              exact begins_same (fun i hi => by show arOf _ = arOf _; rw [hS.i i (by omega)]) q
          exact q1.uniq q2
        subst hss
        rw [MS_eq hk (by omega) (by omega), MS_eq hk' (by rw [← ei]; omega) (by rw [← ei]; omega), ← ei, ← ex, ← er, e0, e0', e1, e1']
        refine nodeM_congr hk (fun _ y => ?_) (fun _ y => ?_) x
        · exact MS_same f b b' (s - 1) (by omega) (by have := hS.sub (s := 0) (q := s - 1) (by omega); simpa using this) g0 _ _ y
        · exact MS_same f (b + s) (b' + s) (m - s - 1) (by omega) (hS.sub (s := s) (q := m - s - 1) (by omega)) g1 _ _ y
theorem filter_idem (fs : List Fc) (g g' : ByteArray) : ((fs.filter (cntB true g)).filter (cntB false g')) = fs.filter (cntB true g) := by
  rw [List.filter_eq_self]
  intro a _
  rfl
/-- A tree without contexts of its own means in a context what it means over the context's facts. -/
theorem MS_graph {I : Nat → Int} {X R : Nat → ByteArray} {fs : List Fc} {g g' : ByteArray} : ∀ (f b m : Nat), m + 1 ≤ f → (∀ j, j ≤ m → 1 ≤ I (b + j) ∧ I (b + j) ≤ 8) → Begins (fun i => arOf (I (b + i))) (m + 1) 0 → ∀ x, MS I X R fs (b + m) true g x ↔ MS I X R (fs.filter (cntB true g)) (b + m) false g' x
  | 0, b, m, hf, _, _ => absurd hf (by omega)
  | f + 1, b, m, hf, hS, hb => by
    intro x
    have hk8 := hS m (Nat.le_refl _)
    have hk : 1 ≤ I (b + m) ∧ I (b + m) ≤ 9 := by omega
    have d1 : dnB (I (b + m)) true = true := by unfold dnB; rw [if_neg (by omega)]
    have d2 : dnB (I (b + m)) false = false := by unfold dnB; rw [if_neg (by omega)]
    have d3 : ∀ g, dnG (I (b + m)) (X (b + m)) g = g := fun g => by unfold dnG; rw [if_neg (by omega)]
    rcases ops_of hb with e | ⟨e, h0, e0, g0⟩ | ⟨e, s, h0, h1, e0, e1, g0, g1⟩
    · rw [MS_eq hk (by omega) (by omega), MS_eq hk (by omega) (by omega), filter_idem]
      exact nodeM_congr hk (by omega) (by omega) x
    · rw [MS_eq hk (by omega) (by omega), MS_eq hk (by omega) (by omega), filter_idem, d1, d2, d3, d3, e0]
      refine nodeM_congr hk (fun _ y => ?_) (by omega) x
      exact MS_graph f b (m - 1) (by omega) (fun j hj => hS j (by omega)) g0 y
    · rw [MS_eq hk (by omega) (by omega), MS_eq hk (by omega) (by omega), filter_idem, d1, d2, d3, d3, e0, e1]
      refine nodeM_congr hk (fun _ y => ?_) (fun _ y => ?_) x
      · exact MS_graph f b (s - 1) (by omega) (fun j hj => hS j (by omega)) g0 y
      · exact MS_graph f (b + s) (m - s - 1) (by omega) (fun j hj => by have := hS (s + j) (by omega); simpa only [Nat.add_assoc] using this) g1 y
end Go.Proofs.Ythcclkeeekppmaa

namespace Go.Proofs.Ythcclkeeekppmaa
open Go.RowKit Go.Deep
set_option linter.unusedVariables false
set_option linter.unusedSimpArgs false
set_option maxRecDepth 100000

/-- A row of nodes, cell by cell. -/
def pnL (I : Nat → Int) (X R : Nat → ByteArray) (n : Nat) : List Value := (List.range n).flatMap fun i => [.int .i64 (I i), .string (X i), .string (R i)]
def catF {α : Type} (n : Nat) (F G : Nat → α) : Nat → α := fun j => if j < n then F j else G (j - n)
theorem pnL_len (I : Nat → Int) (X R : Nat → ByteArray) (n : Nat) : (pnL I X R n).length = n * 3 := by
  unfold pnL
  induction n with
  | zero => rfl
  | succ n ih => rw [List.range_succ, List.flatMap_append, List.length_append, ih]; simp; omega
theorem pnL_congr {I I' : Nat → Int} {X X' R R' : Nat → ByteArray} {n : Nat} (h : ∀ i, i < n → I i = I' i ∧ X i = X' i ∧ R i = R' i) : pnL I X R n = pnL I' X' R' n := by
  unfold pnL
  induction n with
  | zero => rfl
  | succ n ih =>
    rw [List.range_succ, List.flatMap_append, List.flatMap_append, ih (fun i hi => h i (by omega))]
    obtain ⟨e1, e2, e3⟩ := h n (by omega)
    simp [e1, e2, e3]
theorem pnL_cat (I I' : Nat → Int) (X X' R R' : Nat → ByteArray) (n m : Nat) : pnL I X R n ++ pnL I' X' R' m = pnL (catF n I I') (catF n X X') (catF n R R') (n + m) := by
  have e1 : pnL I X R n = pnL (catF n I I') (catF n X X') (catF n R R') n := pnL_congr fun i hi => by unfold catF; rw [if_pos hi, if_pos hi, if_pos hi]; exact ⟨rfl, rfl, rfl⟩
  rw [e1]
  induction m with
  | zero => simp [pnL]
  | succ m ih =>
    have e2 : pnL I' X' R' (m + 1) = pnL I' X' R' m ++ [.int .i64 (I' m), .string (X' m), .string (R' m)] := by unfold pnL; rw [List.range_succ, List.flatMap_append]; simp
    have e3 : ∀ k, pnL (catF n I I') (catF n X X') (catF n R R') (k + 1) = pnL (catF n I I') (catF n X X') (catF n R R') k ++ [.int .i64 (catF n I I' k), .string (catF n X X' k), .string (catF n R R' k)] := fun k => by unfold pnL; rw [List.range_succ, List.flatMap_append]; simp
    rw [e2, ← List.append_assoc, ih, show n + (m + 1) = (n + m) + 1 by omega, e3 (n + m)]
    unfold catF
    rw [if_neg (by omega), if_neg (by omega), if_neg (by omega), show n + m - n = m by omega]
theorem pnL_one (I : Nat → Int) (X R : Nat → ByteArray) (n : Nat) : ∀ u ∈ pnL I X R n, u.oneCell' = true := by
  intro u hu
  unfold pnL at hu
  obtain ⟨i, _, hi⟩ := List.mem_flatMap.1 hu
  simp only [List.mem_cons, List.not_mem_nil, or_false] at hi
  rcases hi with rfl | rfl | rfl <;> rfl
theorem pnL_get (I : Nat → Int) (X R : Nat → ByteArray) {n i : Nat} (h : i < n) : (pnL I X R n)[i * 3]? = some (.int .i64 (I i)) ∧ (pnL I X R n)[i * 3 + 1]? = some (.string (X i)) ∧ (pnL I X R n)[i * 3 + 2]? = some (.string (R i)) := by
  induction n with
  | zero => omega
  | succ n ih =>
    have e : pnL I X R (n + 1) = pnL I X R n ++ [.int .i64 (I n), .string (X n), .string (R n)] := by unfold pnL; rw [List.range_succ, List.flatMap_append]; simp
    rw [e]
    by_cases hi : i < n
    · rw [List.getElem?_append_left (by rw [pnL_len]; omega), List.getElem?_append_left (by rw [pnL_len]; omega), List.getElem?_append_left (by rw [pnL_len]; omega)]
      exact ih hi
    · obtain rfl : i = n := by omega
      rw [List.getElem?_append_right (by rw [pnL_len]; omega), List.getElem?_append_right (by rw [pnL_len]; omega), List.getElem?_append_right (by rw [pnL_len]; omega), pnL_len]
      simp
theorem addP (b o j : Nat) : (Addr.add ⟨b, o, none⟩ j) = ⟨b, o + j, none⟩ := by
  unfold Addr.add
  by_cases h : j = 0
  · subst h; simp
  · simp [h]
/-- What can be read as nodes, cell by cell. -/
theorem RdN.pn {w : World} {b o n : Nat} {I : Nat → Int} {X R : Nat → ByteArray} (h : RdN w (some ⟨b, o, none⟩) n I X R) : ∀ j u, (pnL I X R n)[j]? = some u → w.cell? (Addr.add ⟨b, o, none⟩ j) = some u := by
  intro j u hj
  have hl : j < n * 3 := by rw [← pnL_len I X R n]; exact (List.getElem?_eq_some_iff.1 hj).1
  rcases h with h | ⟨b', o', e, hc⟩
  · omega
  · injection e with e
    injection e with e1 e2
    subst e1 e2
    rw [addP]
    obtain ⟨c0, c1, c2⟩ := hc (j / 3) (by omega)
    obtain ⟨g0, g1, g2⟩ := pnL_get I X R (show j / 3 < n by omega)
    have h3 : j % 3 = 0 ∨ j % 3 = 1 ∨ j % 3 = 2 := by omega
    rcases h3 with q | q | q
    · rw [show j = j / 3 * 3 by omega, g0] at hj
      injection hj with hj
      rw [← hj, show o + j = o + j / 3 * 3 by omega]
      exact c0
    · rw [show j = j / 3 * 3 + 1 by omega, g1] at hj
      injection hj with hj
      rw [← hj, show o + j = o + j / 3 * 3 + 1 by omega]
      exact c1
    · rw [show j = j / 3 * 3 + 2 by omega, g2] at hj
      injection hj with hj
      rw [← hj, show o + j = o + j / 3 * 3 + 2 by omega]
      exact c2
/-- A row of nodes of the call's own, by its cells. -/
def PnO (w : World) (B : Nat) (v : Value) (n : Nat) (I : Nat → Int) (X R : Nat → ByteArray) : Prop := w.ownsRow B 35 3 v n (pnL I X R n)
theorem PnO.below {w w' : World} {B n : Nat} {v : Value} {I : Nat → Int} {X R : Nat → ByteArray} (h : PnO w B v n I X R) (hb : Below w.heap.size w w') : PnO w' B v n I X R := plS_below h hb
theorem PnO.rd {w : World} {B n : Nat} {v : Value} {I : Nat → Int} {X R : Nat → ByteArray} (h : PnO w B v n I X R) (hn : 0 < n) : ∃ g c, v = .slice (some ⟨g, 0, none⟩) n c ∧ B ≤ g ∧ RdN w (some ⟨g, 0, none⟩) n I X R ∧ n ≤ c ∧ c ≤ 9223372036854775807 := by
  obtain ⟨h0, ⟨_, h1⟩ | ⟨g, cap, cur, e, hg, hh, h1, h2, h3, h4⟩⟩ := h
  · omega
  · refine ⟨g, cap, e, hg, .inr ⟨g, 0, rfl, fun i hi => ?_⟩, h1, by unfold maxLen at h2; exact h2⟩
    have key : ∀ r u, r < n * 3 → (pnL I X R n)[r]? = some u → w.cell? ⟨g, 0 + r, none⟩ = some u := fun r u hr hu => by
      rw [← h4, List.getElem?_take_of_lt hr, Array.getElem?_toList] at hu
      simp only [World.cell?, hh, Nat.zero_add]
      exact hu
    obtain ⟨g0, g1, g2⟩ := pnL_get I X R hi
    exact ⟨key _ _ (by omega) g0, key _ _ (by omega) g1, key _ _ (by omega) g2⟩
theorem infoPN2 : (Try.prog.info? 35).map (fun i => (i.zero, i.size, i.bytes)) = some (some (.agg #[.int .i64 0, .string { data := #[] }, .string { data := #[] }]), 3, 40) := by kernel_rfl
theorem PnO.nil (w : World) (B : Nat) (hB : B ≤ w.heap.size) (I : Nat → Int) (X R : Nat → ByteArray) : PnO (w.alloc (.cells #[] 35)) B (.slice (some ⟨w.heap.size, 0, none⟩) 0 0) 0 I X R := World.ownsRow_lit w #[] 0 (by omega) (Nat.zero_le _) rfl
/-- Nodes appended to a row of the call's own. -/
theorem app_pn {w : World} {ops : Array Oper} {rest : List Oper} {o : Oper} {act : Act} {Q : Exit → Act → World → Prop} (hgd : o.guard = none) (s x : Operand)
    (ho : o.op = .call { callee := .builtin .append, args := #[s, x], argTypes := #[23, 23] })
    (B : Nat) (v : Value) (n : Nat) (I : Nat → Int) (X R : Nat → ByteArray) (hs : act.eval s = v) (hown : PnO w B v n I X R) (b of m c : Nat) (I' : Nat → Int) (X' R' : Nat → ByteArray) (hx : act.eval x = .slice (some ⟨b, of, none⟩) m c)
    (hrd : RdN w (some ⟨b, of, none⟩) m I' X' R') (hm : 0 < m) (hl : n + m ≤ 1048576) (hB : B ≤ w.heap.size)
    (h : ∀ v' w', PnO w' B v' (n + m) (catF n I I') (catF n X X') (catF n R R') → w.grownBy w' v.ownBlock → wpList Try.prog ops Q rest (act.put o.dst v') w') : wpList Try.prog ops Q (o :: rest) act w := by
  obtain ⟨i0, hi, hz0, hz1, hz2⟩ := info_parts infoPN2
  refine wpList_append_own w hgd s x 23 ho B 35 i0 _ 3 40 Try.underlying23 hi hz0 hz1 hz2 rfl (by decide) v n (pnL I X R n) hs hown ⟨b, of, none⟩ m c (pnL I' X' R' m) hx (pnL_len _ _ _ _) hrd.pn (pnL_one _ _ _ _) (by unfold maxLen; omega) (by omega) hB (fun v' w' h1 h2 _ => h v' w' ?_ h2)
  unfold PnO
  rw [← pnL_cat]
  exact h1
/-- The same, as a step of a drawn region. -/
theorem step_pn {ops : Array Oper} {o : Oper} {a : Act} {w : World} {K : Act → World → Prop} {Q : Exit → Act → World → Prop} {E : Prop} (hgd : o.guard = none) (s x : Operand)
    (ho : o.op = .call { callee := .builtin .append, args := #[s, x], argTypes := #[23, 23] })
    (B : Nat) (v : Value) (n : Nat) (I : Nat → Int) (X R : Nat → ByteArray) (hs : a.eval s = v) (hown : PnO w B v n I X R) (b of m c : Nat) (I' : Nat → Int) (X' R' : Nat → ByteArray) (hx : a.eval x = .slice (some ⟨b, of, none⟩) m c)
    (hrd : RdN w (some ⟨b, of, none⟩) m I' X' R') (hm : 0 < m) (hl : n + m ≤ 1048576) (hB : B ≤ w.heap.size)
    (h : ∀ v' w', PnO w' B v' (n + m) (catF n I I') (catF n X X') (catF n R R') → w.grownBy w' v.ownBlock → K (a.put o.dst v') w') :
    if Region.wanted o (yielded ops a.tmps) = true then Oper.wp Try.prog o a w K Q else E := by
  have hw : Region.wanted o (yielded ops a.tmps) = true := by simp [Region.wanted, hgd]
  rw [if_pos hw]
  obtain ⟨i0, hi, hz0, hz1, hz2⟩ := info_parts infoPN2
  refine wp_append_own w s x 23 ho B 35 i0 _ 3 40 Try.underlying23 hi hz0 hz1 hz2 rfl (by decide) v n (pnL I X R n) hs hown ⟨b, of, none⟩ m c (pnL I' X' R' m) hx (pnL_len _ _ _ _) hrd.pn (pnL_one _ _ _ _) (by unfold maxLen; omega) (by omega) hB (fun v' w' h1 h2 _ => h v' w' ?_ h2)
  unfold PnO
  rw [← pnL_cat]
  exact h1
/-- A node newly built. -/
theorem rdN_lit (w : World) (k : Int) (s t : ByteArray) : RdN (w.alloc (.cells #[.int .i64 k, .string s, .string t] 35)) (some ⟨w.heap.size, 0, none⟩) 1 (fun _ => k) (fun _ => s) (fun _ => t) := by
  refine .inr ⟨w.heap.size, 0, rfl, fun i hi => ?_⟩
  obtain rfl : i = 0 := by omega
  refine ⟨?_, ?_, ?_⟩ <;> simp
end Go.Proofs.Ythcclkeeekppmaa

namespace Go.Proofs.Ythcclkeeekppmaa
open Go.RowKit Go.Deep
set_option linter.unusedVariables false
set_option linter.unusedSimpArgs false
set_option maxRecDepth 100000

/-- Two paths and an operator behind them. -/
def catE {α : Type} (na nb : Nat) (F G : Nat → α) (z : α) : Nat → α := catF (na + nb) (catF na F G) (fun _ => z)
theorem catE_a {α : Type} {na nb : Nat} {F G : Nat → α} {z : α} {j : Nat} (h : j < na) : catE na nb F G z j = F j := by
  unfold catE catF
  rw [if_pos (by omega), if_pos h]
theorem catE_b {α : Type} {na nb : Nat} {F G : Nat → α} {z : α} {j : Nat} (h : j < nb) : catE na nb F G z (na + j) = G j := by
  unfold catE catF
  rw [if_pos (by omega), if_neg (by omega), show na + j - na = j by omega]
theorem catE_z {α : Type} {na nb : Nat} {F G : Nat → α} {z : α} : catE na nb F G z (na + nb) = z := by
  unfold catE catF
  rw [if_neg (by omega)]
theorem catE_ar (na nb : Nat) (Ia Ib : Nat → Int) {k k' : Int} (h : arOf k = arOf k') (i : Nat) : arOf (catE na nb Ia Ib k i) = arOf (catE na nb Ia Ib k' i) := by
  show arOf (if _ then _ else _) = arOf (if _ then _ else _)
  split
  · rfl
  · exact h
def eB : ByteArray := { data := #[] }
theorem emS_e : emS eB = true := by unfold emS eB; rw [ByteArray.toList_eq]; rfl
theorem vp_op {na nb : Nat} {Ia Ib : Nat → Int} {Xa Xb Ra Rb : Nat → ByteArray} {k k' : Int} (hk : k = 6 ∨ k = 7 ∨ k = 8) (hk' : k' = 6 ∨ k' = 7 ∨ k' = 8) (h : VPth (na + nb + 1) (catE na nb Ia Ib k) (catE na nb Xa Xb eB) (catE na nb Ra Rb eB)) : VPth (na + nb + 1) (catE na nb Ia Ib k') (catE na nb Xa Xb eB) (catE na nb Ra Rb eB) := by
  have ha : arOf k = arOf k' := by rcases hk with rfl | rfl | rfl <;> rcases hk' with rfl | rfl | rfl <;> rfl
  have e : (fun i => arOf (catE na nb Ia Ib k i)) = (fun i => arOf (catE na nb Ia Ib k' i)) := funext (catE_ar na nb Ia Ib ha)
  obtain ⟨h1, h2, h3, h4⟩ := h
  rw [e] at h3 h4
  refine ⟨h1, fun i hi => ?_, h3, h4⟩
  have hi2 := h2 i hi
  by_cases hl : i = na + nb
  · subst hl
    rw [catE_z, catE_z, catE_z]
    rcases hk' with rfl | rfl | rfl <;> simp [gnB, emS_e]
  · have e2 : catE na nb Ia Ib k' i = catE na nb Ia Ib k i := by
      show (if i < na + nb then _ else _) = (if i < na + nb then _ else _)
      rw [if_pos (by omega), if_pos (by omega)]
    rw [e2]
    exact hi2
theorem MnP.ms {n : Nat} {I : Nat → Int} {X R : Nat → ByteArray} {fs : List Fc} (hv : VPth n I X R) (hl : fs.length ≤ 300) (x : ByteArray) : MnP n I X R fs x ↔ MS I X R fs (n - 1) false eB x := ⟨fun h => h.2.2, fun h => ⟨hv, hl, h⟩⟩
/-- An operator's meaning, out of its operands'. -/
theorem mean_op {na nb : Nat} {Ia Ib : Nat → Int} {Xa Xb Ra Rb : Nat → ByteArray} {k : Int} {fs : List Fc} (hk : k = 6 ∨ k = 7 ∨ k = 8) (hA : VPth na Ia Xa Ra) (hB : VPth nb Ib Xb Rb) (hV : VPth (na + nb + 1) (catE na nb Ia Ib k) (catE na nb Xa Xb eB) (catE na nb Ra Rb eB)) (hl : fs.length ≤ 300) (x : ByteArray) :
    MnP (na + nb + 1) (catE na nb Ia Ib k) (catE na nb Xa Xb eB) (catE na nb Ra Rb eB) fs x ↔ nodeM k eB eB [] (MnP na Ia Xa Ra fs) (MnP nb Ib Xb Rb fs) x := by
  have ga := hA.gd
  have gb := hB.gd
  have hna := hA.1.1
  have hnb := hB.1.1
  have hz : catE na nb Ia Ib k (na + nb) = k := catE_z
  have ha2 : arOf k = 2 := by rcases hk with rfl | rfl | rfl <;> rfl
  have hbA : Begins (fun i => arOf (catE na nb Ia Ib k (0 + i))) (na - 1 + 1) 0 := by
    rw [show na - 1 + 1 = na by omega]
    exact begins_same (fun i hi => by show arOf _ = arOf _; rw [Nat.zero_add, catE_a hi]) hA.2.2.1
  have hbB : Begins (fun i => arOf (catE na nb Ia Ib k (na + i))) (nb - 1 + 1) 0 := by
    rw [show nb - 1 + 1 = nb by omega]
    exact begins_same (fun i hi => by show arOf _ = arOf _; rw [catE_b hi]) hB.2.2.1
  have o0 : opf (arI (catE na nb Ia Ib k)) (na + nb) 0 = 0 + (na - 1) := by
    have q := bgF_of (Begins.lift (A := arI (catE na nb Ia Ib k)) hbB)
    rw [show na + (nb - 1 + 1) = na + nb by omega] at q
    unfold opf
    rw [if_pos ⟨by show arOf _ = 2; rw [hz]; exact ha2, rfl⟩, q]
    omega
  have o1 : opf (arI (catE na nb Ia Ib k)) (na + nb) 1 = na + (nb - 1) := by
    unfold opf
    rw [if_neg (by omega)]
    omega
  rw [MnP.ms hV hl, show na + nb + 1 - 1 = na + nb by omega, MS_eq (by rw [hz]; rcases hk with rfl | rfl | rfl <;> decide) (by rw [o0]; omega) (by rw [o1]; omega), hz, o0, o1]
  have d1 : dnB k false = false := by unfold dnB; rw [if_neg (by rcases hk with rfl | rfl | rfl <;> decide)]
  have d2 : dnG k (catE na nb Xa Xb eB (na + nb)) eB = eB := by unfold dnG; rw [if_neg (by rcases hk with rfl | rfl | rfl <;> decide)]
  rw [d1, d2]
  have eA : ∀ y, MS (catE na nb Ia Ib k) (catE na nb Xa Xb eB) (catE na nb Ra Rb eB) fs (0 + (na - 1)) false eB y ↔ MnP na Ia Xa Ra fs y := fun y => by
    rw [MnP.ms hA hl]
    have := MS_same (I := catE na nb Ia Ib k) (I' := Ia) (X := catE na nb Xa Xb eB) (X' := Xa) (R := catE na nb Ra Rb eB) (R' := Ra) (fs := fs) (na + 1) 0 0 (na - 1) (by omega) ⟨fun j hj => by rw [Nat.zero_add]; exact catE_a (by omega), fun j hj => by rw [Nat.zero_add]; exact catE_a (by omega), fun j hj => by rw [Nat.zero_add]; exact catE_a (by omega), fun j hj => by rw [Nat.zero_add, catE_a (by omega)]; exact (ga j (by omega)).1⟩ hbA false eB y
    rw [this, Nat.zero_add]
  have eB' : ∀ y, MS (catE na nb Ia Ib k) (catE na nb Xa Xb eB) (catE na nb Ra Rb eB) fs (na + (nb - 1)) false eB y ↔ MnP nb Ib Xb Rb fs y := fun y => by
    rw [MnP.ms hB hl]
    have := MS_same (I := catE na nb Ia Ib k) (I' := Ib) (X := catE na nb Xa Xb eB) (X' := Xb) (R := catE na nb Ra Rb eB) (R' := Rb) (fs := fs) (nb + 1) na 0 (nb - 1) (by omega) ⟨fun j hj => by rw [Nat.zero_add]; exact catE_b (by omega), fun j hj => by rw [Nat.zero_add]; exact catE_b (by omega), fun j hj => by rw [Nat.zero_add]; exact catE_b (by omega), fun j hj => by rw [catE_b (by omega)]; exact (gb j (by omega)).1⟩ hbB false eB y
    rw [this, Nat.zero_add]
  rcases hk with rfl | rfl | rfl
  · show (_ ∧ _) ↔ (_ ∧ _)
    rw [eA, eB']
  · show (_ ∨ _) ↔ (_ ∨ _)
    rw [eA, eB']
  · show (_ ∧ ¬ _) ↔ (_ ∧ ¬ _)
    rw [eA, eB']
/-- A path and a context around it. -/
def catG {α : Type} (na : Nat) (F : Nat → α) (z : α) : Nat → α := catF na F (fun _ => z)
theorem catG_a {α : Type} {na : Nat} {F : Nat → α} {z : α} {j : Nat} (h : j < na) : catG na F z j = F j := by
  unfold catG catF
  rw [if_pos h]
theorem catG_z {α : Type} {na : Nat} {F : Nat → α} {z : α} : catG na F z na = z := by
  unfold catG catF
  rw [if_neg (by omega)]
theorem mean_gr {na : Nat} {Ia : Nat → Int} {Xa Ra : Nat → ByteArray} {g : ByteArray} {fs : List Fc} (hA : VPth na Ia Xa Ra) (h8 : ∀ i, i < na → Ia i ≠ 9) (hV : VPth (na + 1) (catG na Ia 9) (catG na Xa g) (catG na Ra eB)) (hl : fs.length ≤ 300) (x : ByteArray) :
    MnP (na + 1) (catG na Ia 9) (catG na Xa g) (catG na Ra eB) fs x ↔ MnP na Ia Xa Ra (fs.filter (cntB true g)) x := by
  have ga := hA.gd
  have hna := hA.1.1
  have hz : catG na Ia 9 na = 9 := catG_z
  have hzx : catG na Xa g na = g := catG_z
  have hbA0 : Begins (fun i => arOf (Ia (0 + i))) (na - 1 + 1) 0 := by
    rw [show na - 1 + 1 = na by omega]
    exact begins_same (fun i hi => by show arOf _ = arOf _; rw [Nat.zero_add]) hA.2.2.1
  have hbA : Begins (fun i => arOf (catG na Ia 9 (0 + i))) (na - 1 + 1) 0 := begins_same (fun i hi => by show arOf _ = arOf _; rw [Nat.zero_add, catG_a (by omega)]) hbA0
  have o0 : opf (arI (catG na Ia 9)) na 0 = 0 + (na - 1) := by
    unfold opf
    rw [if_neg (by rintro ⟨e, _⟩; change arOf _ = 2 at e; rw [hz] at e; revert e; decide)]
    omega
  have hl2 : (fs.filter (cntB true g)).length ≤ 300 := Nat.le_trans (List.length_filter_le _ _) hl
  rw [MnP.ms hV hl, show na + 1 - 1 = na by omega, MS_eq (by rw [hz]; decide) (by rw [o0]; omega) (by rw [hz]; intro e; cases e), hz, o0, hzx, MnP.ms hA hl2]
  show MS _ _ _ fs (0 + (na - 1)) true g x ↔ _
  rw [MS_same (I := catG na Ia 9) (I' := Ia) (X := catG na Xa g) (X' := Xa) (R := catG na Ra eB) (R' := Ra) (fs := fs) (na + 1) 0 0 (na - 1) (by omega) ⟨fun j hj => by rw [Nat.zero_add]; exact catG_a (by omega), fun j hj => by rw [Nat.zero_add]; exact catG_a (by omega), fun j hj => by rw [Nat.zero_add]; exact catG_a (by omega), fun j hj => by rw [Nat.zero_add, catG_a (by omega)]; exact (ga j (by omega)).1⟩ hbA true g x]
  rw [MS_graph (I := Ia) (X := Xa) (R := Ra) (fs := fs) (g := g) (g' := eB) (na + 1) 0 (na - 1) (by omega) (fun j hj => by rw [Nat.zero_add]; have := (ga j (by omega)).1; have := h8 j (by omega); omega) hbA0 x, Nat.zero_add]
end Go.Proofs.Ythcclkeeekppmaa
