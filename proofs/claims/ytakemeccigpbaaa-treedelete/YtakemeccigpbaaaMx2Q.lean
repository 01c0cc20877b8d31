import Derived.Test.YtakemeccigpbaaaMv3Q
import Derived.Test.YtakemeccigpbaaaMx1Q
import Derived.Test.YtakemeccigpbaaaMw1Q
import Derived.Test.YtakemeccigpbaaaMv4Q
namespace Go.Proofs.Ytakemeccigpbaaa
open Go.RowKit Go.Deep
set_option linter.unusedVariables false
set_option maxRecDepth 100000

theorem ta6 (p : Value) (W : World) : (Instr.typeAssert (.iface 53 p) 59 91 true).run Try.prog W = .ok (.tuple #[.pointer none, .bool false]) W := by kernel_rfl

/-- What loweredRoot hands back. -/
def RetLw (u : Ro 21) (w : World) (e : Ending) (w' : World) : Prop :=
  w' = w ∧ ∃ (D : Nat) (y : Ro D) (v' : Value) (S : Nat → Prop) (h : Nat), e = .returned v' ∧ TAo S w D y v' ∧ (∀ x, S x → x < w.heap.size) ∧ BalR D true y h ∧ nodesR D y ≤ nodesR 21 u ∧ ∀ M m, m = nodesR D y → Tells M 0 D y 0 → DelT m M u

set_option maxHeartbeats 2000000 in
theorem lowered_any (u : Ro 21) (v : Value) (b hh : Nat) (S : Nat → Prop) (w : World) (h : NdI S w b 21 u v) (hb : ¬ S b) (hS : ∀ x, S x → x < w.heap.size) (hbw : b < w.heap.size) (hU : BalU 21 u hh) : Calls Try.prog 37 #[v] w (RetLw u w) := by
  have hall := h.tao hb
  have hS' : ∀ x, S x ∨ x = b → x < w.heap.size := fun x hx => by
    rcases hx with q | q
    · exact hS x q
    · omega
  match u, h, hU, hall with
  | .inl ks, h, hU, hall =>
    obtain ⟨rfl, ka, kc, hx, hc, hr⟩ := h
    have HF : Hid (RetLw (.inl ks) w (.returned (.iface 53 (.pointer (some ⟨b, 0, none⟩)))) w) := ⟨rfl, 21, .inl ks, _, _, hh, rfl, hall, hS', ⟨hU.1, hU.2, Or.inl rfl⟩, Nat.le_refl _, fun M m hm ht => .inr ⟨fun y e => (by cases e), hm, ht⟩⟩
    have t6 := ta6 (.pointer (some ⟨b, 0, none⟩))
    clear hall hx hc hr hU
    go_enter Try.func37, Try.ntmps37
    go_wp2
    go_ret
    exact HF.out
  | .inr l, h, hU, hall =>
    obtain ⟨rfl, g, o, kc, xs, hx, hg, hc, h0, hcc, hk⟩ := h
    obtain ⟨b1, b4, h', rfl, hb'⟩ := hU
    have t4 := ta4 (.pointer (some ⟨b, 0, none⟩))
    obtain ⟨ln, hln⟩ : ∃ ln, ln = l.length := ⟨_, rfl⟩
    rw [← hln] at hx
    have HSz : Hid (Calls Try.prog 55 #[.pointer (some ⟨b, 0, none⟩)] w fun e w' => e = .returned (.int .i64 (ln : Int)) ∧ w' = w) := sizeInner_any b ln kc _ _ w hx
    by_cases h1 : l.length = 1
    · obtain ⟨y, ey⟩ : ∃ y, l = [y] := List.length_eq_one_iff.1 h1
      subst ey
      have e1 : ln = 1 := hln
      subst e1
      obtain ⟨u', hu', ht'⟩ := hk 0 (by simp)
      have HF : Hid (RetLw (.inr [y]) w (.returned u') w) := by
        have hby := hb' y (by simp)
        refine ⟨rfl, 20, y, u', S, h', rfl, ht', hS, (BalU.of hby).full true hby.siz, ?_, fun M m hm ht => .inl ⟨y, rfl, hm, ht⟩⟩
        have q2 : nodesR 21 (.inr [y]) = 1 + (nodesR 20 y + 0) := rfl
        omega
      have c1 := hx.cell 1
      simp at c1
      have z0 := hcc 0 u' hu'
      rw [Nat.add_zero] at z0
      have hgl := hc.1
      have hcap := hc.2
      clear hall hx hc hk hcc hb' ht' h0 hln
      go_enter Try.func37, Try.ntmps37
      go_wp2_with fail
      (with_reducible refine HSz.out.mono ?_)
      rintro e w1 ⟨rfl, hw1⟩
      subst w1
      go_wp2
      go_ret
      exact HF.out
    · have HF : Hid (RetLw (.inr l) w (.returned (.iface 91 (.pointer (some ⟨b, 0, none⟩)))) w) := by
        have hbu : BalU 21 (.inr l) (h' + 1) := ⟨b1, b4, h', rfl, hb'⟩
        refine ⟨rfl, 21, .inr l, _, _, h' + 1, rfl, hall, hS', hbu.full true (by show 2 ≤ l.length; omega), Nat.le_refl _, fun M m hm ht => .inr ⟨fun y e => ?_, hm, ht⟩⟩
        injection e with e
        rw [e] at h1
        exact h1 rfl
      have hd1 : decide ((ln : Int) = 1) = false := decide_eq_false (by omega)
      have hi1 : ¬ (ln : Int) = 1 := by omega
      clear hall hx hc hk hcc hb' h0 hln h1
      go_enter Try.func37, Try.ntmps37
      go_wp2_with fail
      (with_reducible refine HSz.out.mono ?_)
      rintro e w1 ⟨rfl, hw1⟩
      subst w1
      go_wp2
      go_ret
      exact HF.out

/-- What TreeDelete hands back, in memory of its own. -/
def RetTd (w : World) (n : Nat) (N : Nat → Tn) (key : ByteArray) (e : Ending) (w' : World) : Prop :=
  Below w.heap.size w w' ∧ ∃ ok a m c M KA DA KC DC, e = .returned (.agg #[.bool ok, .slice a m c]) ∧ GT w' w.heap.size (.slice a m c) m M KA DA KC DC ∧ ((ok = true ∧ DelTo n N key m M) ∨ (ok = false ∧ m = n ∧ M = N ∧ DelNo n N key))

set_option maxHeartbeats 8000000 in
theorem implDel (a : Option Addr) (n c : Nat) (N : Nat → Tn) (key : ByteArray) (w : World) (h : RdTn w a n N) (hn : n ≤ 1048576) (hN : ∀ i, i < n → TnFit (N i)) (hkey : key.size ≤ maxLen) :
    Calls Try.prog 11 #[.agg #[.slice a n c], .string key] w (RetTd w n N key) := by
  have HR : Hid (RdTn w a n N ∧ ∀ i, i < n → TnFit (N i)) := ⟨h, hN⟩
  clear h hN
  have HB0 : Hid (∀ O1 O2 : Obj, Below w.heap.size w ((w.alloc O1).alloc O2)) := fun _ _ => (below_alloc _ _).alloc (by simp) _
  have HRd : Hid (∀ W, Below w.heap.size w W → Calls Try.prog 35 #[.agg #[.slice a n c]] W (RetTreO W n N)) := fun W hW => readTreeO_any a n c N W (HR.out.1.below hW) hn HR.out.2
  go_enter Try.func11, Try.ntmps11
  go_wp2_with fail
  (with_reducible refine (HRd.out _ (HB0.out _ _)).mono ?_)
  rintro e w1 ⟨hb1, v, ok, rfl, hr⟩
  have htb := ((Bx.new w #[.slice a n c] 25).alloc (.cells #[.bool false, .slice none 0 0] 30)).below hb1
  have hrb : Bx w1 (w.heap.size + 1) 30 #[.bool false, .slice none 0 0] := by
    have q := (Bx.new (w.alloc (.cells #[.slice a n c] 25)) #[.bool false, .slice none 0 0] 30).below hb1
    simpa using q
  have HB1 : Hid (Below w.heap.size w w1) := (HB0.out _ _).trans (hb1.mono (by simp; omega))
  have hz1 : w.heap.size + 2 ≤ w1.heap.size := by have := hrb.lt; omega
  have BT1 : Hid (∀ W, Below (w.heap.size + 2) w1 W → Below w.heap.size w W ∧ W.cell? ⟨w.heap.size, 0, none⟩ = some (.slice a n c) ∧ w.heap.size < W.heap.size ∧ Bx W (w.heap.size + 1) 30 #[.bool false, .slice none 0 0]) := fun W hW => ⟨HB1.out.trans (hW.mono (by omega)), by simpa using (htb.below' hW (by omega)).cell 0, (htb.below' hW (by omega)).lt, hrb.below' hW (by omega)⟩
  have HRR : Hid ((ok = true ∧ ∃ (t : Ro n) (t' : Ro 21) (h : Nat), VTt n N t' ∧ keysR 21 t' = keysR n t ∧ BalR n true t h ∧ Tells N 0 n t 0 ∧ nodesR n t = n ∧ TOx (w.heap.size + 2) w1 n t v) ∨ (ok = false ∧ ¬ VT n N)) := by rw [World.size_alloc, World.size_alloc] at hr; exact hr
  clear hr hb1 htb hrb HRd
  cases ok with
  | false =>
    have HNo : Hid (DelNo n N key) := by
      intro t hv
      rcases HRR.out with ⟨q, _⟩ | ⟨_, q⟩
      · cases q
      · exact absurd ⟨t, hv⟩ q
    clear HRR
    have HBQ : Hid (Below w.heap.size w w1) := (BT1.out w1 (Below.refl _ _)).1
    have HBT : Hid (w1.cell? ⟨w.heap.size, 0, none⟩ = some (.slice a n c) ∧ w.heap.size < w1.heap.size ∧ Bx w1 (w.heap.size + 1) 30 #[.bool false, .slice none 0 0]) := (BT1.out w1 (Below.refl _ _)).2
    have HCp : Hid (Calls Try.prog 36 #[.agg #[.slice a n c]] w1 (RetOt w1 n N)) := copyI_any a n c N w1 (HR.out.1.below HBQ.out) hn HR.out.2
    have t0 := HBT.out.1
    have tz := HBT.out.2.1
    go_wp2_with fail
    (with_reducible refine HCp.out.mono ?_)
    rintro e wz ⟨hbz, az, cz, KZ, DZ, KCZ, DCZ, rfl, hrz⟩
    have HZb : Hid (Below w.heap.size w wz ∧ Bx wz (w.heap.size + 1) 30 #[.bool false, .slice none 0 0] ∧ GT wz (w.heap.size + 2) (.slice az n cz) n N KZ DZ KCZ DCZ) := ⟨HBQ.out.trans (hbz.mono HBQ.out.size), HBT.out.2.2.below hbz, hrz.mono (by have := HBT.out.2.2.lt; omega)⟩
    have r0 := HZb.out.2.1.cell 0
    have r1 := HZb.out.2.1.cell 1
    simp at r0 r1
    have rz := HZb.out.2.1.lt
    have rf := fun i => HZb.out.2.1.frozen i
    clear hbz hrz t0 tz
    go_wp2
    refine bodyPost_ret (v := .agg #[.bool false, .slice az n cz]) (by simp [results, Try.results11, go_sem, r0, r1]) rfl ⟨(HZb.out.1.setCell (by simp) _).setCell (by simp) _, false, az, n, cz, N, KZ, DZ, KCZ, DCZ, rfl, ?_, .inr ⟨rfl, rfl, rfl, HNo.out⟩⟩
    exact (HZb.out.2.2.keep (fun x hx => by rw [Below.heap_setCell _ _ _ _ (show x ≠ w.heap.size + 1 by have := (HZb.out.2.2.used hx).1; omega), Below.heap_setCell _ _ _ _ (show x ≠ w.heap.size + 1 by have := (HZb.out.2.2.used hx).1; omega)])).mono (by omega)
  | true =>
    obtain ⟨t, t', hh0, hvt, k1, k2, htl, k3, hox⟩ : ∃ (t : Ro n) (t' : Ro 21) (h : Nat), VTt n N t' ∧ keysR 21 t' = keysR n t ∧ BalR n true t h ∧ Tells N 0 n t 0 ∧ nodesR n t = n ∧ TOx (w.heap.size + 2) w1 n t v := by
      rcases HRR.out with ⟨_, q⟩ | ⟨q, _⟩
      · exact q
      · cases q
    obtain ⟨bs, hnd, how⟩ := hox
    have hsm := smR_of htl hvt.2.2.2.2.2
    have HOw : Hid (TOw (w.heap.size + 2) w1 21 t' v bs ∧ bs.Nodup) := ⟨hsm.tow how, hnd⟩
    have HVT : Hid (VTt n N t') := hvt
    obtain ⟨g1, g2, g3, ⟨hh, g4⟩, g5, g6⟩ := hvt
    have hend := nestR_end g3
    have HF : Hid (nodesR 21 t' ≤ 5000 ∧ BalR 21 true t' hh ∧ Asc (keysR 21 t')) := ⟨by omega, g4, asc_of_ascK g5⟩
    clear HRR htl how hnd hsm k1 k2 k3 g1 g2 g3 g4 g5 g6 hend t hh0
    have hci := remO key 21 t' v bs true hh (w.heap.size + 2) w1 HOw.out.1 HOw.out.2 HF.out.2.1 HF.out.2.2 HF.out.1
    rcases hci with ⟨kb, rfl, hcall⟩ | ⟨kb, rfl, hcall⟩
    · have HC : Hid (Calls Try.prog 109 #[.pointer (some ⟨kb, 0, none⟩), .string key] w1 (RetR key 21 t' (.iface 53 (.pointer (some ⟨kb, 0, none⟩))) bs w1)) := hcall
      clear hcall
      go_wp2_with fail
      (with_reducible refine HC.out.mono ?_)
      rintro e w2 (⟨hm, rfl, hb2⟩ | ⟨hm, rfl, hf2, u, b, hbm, hu, hnd⟩)
      · have HNo : Hid (DelNo n N key) := fun t'' hv q => hm (by rw [← hv.fn HVT.out]; exact q)
        have HB2 : Hid (Below (w.heap.size + 2) w1 w2) := hb2.mono hz1
        clear hm hb2 HC HVT HF HOw
        have HBQ : Hid (Below w.heap.size w w2) := (BT1.out w2 (HB2.out)).1
        have HBT : Hid (w2.cell? ⟨w.heap.size, 0, none⟩ = some (.slice a n c) ∧ w.heap.size < w2.heap.size ∧ Bx w2 (w.heap.size + 1) 30 #[.bool false, .slice none 0 0]) := (BT1.out w2 (HB2.out)).2
        have HCp : Hid (Calls Try.prog 36 #[.agg #[.slice a n c]] w2 (RetOt w2 n N)) := copyI_any a n c N w2 (HR.out.1.below HBQ.out) hn HR.out.2
        have t0 := HBT.out.1
        have tz := HBT.out.2.1
        go_wp2_with fail
        (with_reducible refine HCp.out.mono ?_)
        rintro e wz ⟨hbz, az, cz, KZ, DZ, KCZ, DCZ, rfl, hrz⟩
        have HZb : Hid (Below w.heap.size w wz ∧ Bx wz (w.heap.size + 1) 30 #[.bool false, .slice none 0 0] ∧ GT wz (w.heap.size + 2) (.slice az n cz) n N KZ DZ KCZ DCZ) := ⟨HBQ.out.trans (hbz.mono HBQ.out.size), HBT.out.2.2.below hbz, hrz.mono (by have := HBT.out.2.2.lt; omega)⟩
        have r0 := HZb.out.2.1.cell 0
        have r1 := HZb.out.2.1.cell 1
        simp at r0 r1
        have rz := HZb.out.2.1.lt
        have rf := fun i => HZb.out.2.1.frozen i
        clear hbz hrz t0 tz
        go_wp2
        refine bodyPost_ret (v := .agg #[.bool false, .slice az n cz]) (by simp [results, Try.results11, go_sem, r0, r1]) rfl ⟨(HZb.out.1.setCell (by simp) _).setCell (by simp) _, false, az, n, cz, N, KZ, DZ, KCZ, DCZ, rfl, ?_, .inr ⟨rfl, rfl, rfl, HNo.out⟩⟩
        exact (HZb.out.2.2.keep (fun x hx => by rw [Below.heap_setCell _ _ _ _ (show x ≠ w.heap.size + 1 by have := (HZb.out.2.2.used hx).1; omega), Below.heap_setCell _ _ _ _ (show x ≠ w.heap.size + 1 by have := (HZb.out.2.2.used hx).1; omega)])).mono (by omega)
      · have hlt := HOw.out.1.lt
        have HF2 : Hid (Below (w.heap.size + 2) w1 w2) := hf2.below hz1 (fun x hx => (hlt x hx).1)
        have hbl := hlt b hbm
        have hz2 := hf2.2.2.2.1
        have HGr : Hid (Calls Try.prog 37 #[.iface 53 (.pointer (some ⟨kb, 0, none⟩))] w2 (RetLw u w2)) := lowered_any u _ b hh (fun x => ((x ∈ bs ∧ x ≠ b) ∨ w1.heap.size ≤ x) ∧ x < w2.heap.size) w2 (NdI.keep (Nat.le_refl _) rfl (fun x hx hl => ⟨⟨hx, hl⟩, rfl⟩) hnd) (fun q => by rcases q.1 with q | q; exact q.2 rfl; omega) (fun x hx => hx.2) (by omega) (DelR.bal HF.out.2.1 HF.out.2.2 hu).1
        have HU : Hid (key ∈ keysR 21 t' ∧ DelR key 21 t' u ∧ nodesR 21 u ≤ 5000) := ⟨hm, hu, by have := DelR.nodes HF.out.2.1 HF.out.2.2 hu; have := HF.out.1; omega⟩
        clear hnd hu hm hf2 HC hlt hbm HOw hbl
        go_wp2_with fail
        (with_reducible refine HGr.out.mono ?_)
        rintro e w3 ⟨hw3, D, y, v', S, h3, rfl, hta, hS3, hby, hn6, htM⟩
        subst w3
        have HT : Hid (∀ M m, m = nodesR D y → Tells M 0 D y 0 → DelT m M u) := htM
        have hn7 : nodesR D y ≤ 5000 := by have := HU.out.2.2; omega
        have HTt : Hid (Calls Try.prog 34 #[v'] w2 (RetTt w2 D y)) := tellTree_any D y v' S w2 true h3 hta hby hS3 (by omega)
        obtain ⟨ty, pv, hvf⟩ : ∃ ty pv, v' = .iface ty pv := by
          obtain ⟨bb, _, _, _, q⟩ := hta.count
          rcases q with q | q <;> exact ⟨_, _, q⟩
        subst hvf
        clear hta hS3 hby htM HGr hn6
        go_wp2_with fail
        (with_reducible refine HTt.out.mono ?_)
        rintro e w4 ⟨hb4, a4, c4, M, K4, D4, KC4, DC4, rfl, hg4, htl4⟩
        obtain ⟨m, hm⟩ : ∃ m, m = nodesR D y := ⟨_, rfl⟩
        rw [← hm] at hg4 ⊢
        have hm5 : m ≤ 5000 := by omega
        have HX4 : Hid (Below (w.heap.size + 2) w1 w4 ∧ GT w4 (w.heap.size + 2) (.slice a4 m c4) m M K4 D4 KC4 DC4 ∧ DelT m M u) := ⟨HF2.out.trans (hb4.mono (by have := HF2.out.size; omega)), hg4.mono (by have := HF2.out.size; omega), HT.out M m hm htl4⟩
        clear hb4 hg4 htl4 HTt hm hn7
        have HRB : Hid (Bx w4 (w.heap.size + 1) 30 #[.bool false, .slice none 0 0] ∧ Below w.heap.size w w4) := ⟨(BT1.out w4 HX4.out.1).2.2.2, (BT1.out w4 HX4.out.1).1⟩
        have r0 := HRB.out.1.cell 0
        have r1 := HRB.out.1.cell 1
        simp at r0 r1
        have rz := HRB.out.1.lt
        have rf := fun i => HRB.out.1.frozen i
        go_wp2
        refine bodyPost_ret (v := .agg #[.bool true, .slice a4 m c4]) (by simp [results, Try.results11, go_sem, r0, r1]) rfl ⟨(HRB.out.2.setCell (by simp) _).setCell (by simp) _, true, a4, m, c4, M, K4, D4, KC4, DC4, rfl, ?_, .inl ⟨rfl, t', u, HVT.out, HU.out.1, HU.out.2.1, hm5, HX4.out.2.2⟩⟩
        exact (HX4.out.2.1.keep (fun x hx => by rw [Below.heap_setCell _ _ _ _ (show x ≠ w.heap.size + 1 by have := (HX4.out.2.1.used hx).1; omega), Below.heap_setCell _ _ _ _ (show x ≠ w.heap.size + 1 by have := (HX4.out.2.1.used hx).1; omega)])).mono (by omega)
    · have HC : Hid (Calls Try.prog 126 #[.pointer (some ⟨kb, 0, none⟩), .string key] w1 (RetR key 21 t' (.iface 91 (.pointer (some ⟨kb, 0, none⟩))) bs w1)) := hcall
      clear hcall
      go_wp2_with fail
      (with_reducible refine HC.out.mono ?_)
      rintro e w2 (⟨hm, rfl, hb2⟩ | ⟨hm, rfl, hf2, u, b, hbm, hu, hnd⟩)
      · have HNo : Hid (DelNo n N key) := fun t'' hv q => hm (by rw [← hv.fn HVT.out]; exact q)
        have HB2 : Hid (Below (w.heap.size + 2) w1 w2) := hb2.mono hz1
        clear hm hb2 HC HVT HF HOw
        have HBQ : Hid (Below w.heap.size w w2) := (BT1.out w2 (HB2.out)).1
        have HBT : Hid (w2.cell? ⟨w.heap.size, 0, none⟩ = some (.slice a n c) ∧ w.heap.size < w2.heap.size ∧ Bx w2 (w.heap.size + 1) 30 #[.bool false, .slice none 0 0]) := (BT1.out w2 (HB2.out)).2
        have HCp : Hid (Calls Try.prog 36 #[.agg #[.slice a n c]] w2 (RetOt w2 n N)) := copyI_any a n c N w2 (HR.out.1.below HBQ.out) hn HR.out.2
        have t0 := HBT.out.1
        have tz := HBT.out.2.1
        go_wp2_with fail
        (with_reducible refine HCp.out.mono ?_)
        rintro e wz ⟨hbz, az, cz, KZ, DZ, KCZ, DCZ, rfl, hrz⟩
        have HZb : Hid (Below w.heap.size w wz ∧ Bx wz (w.heap.size + 1) 30 #[.bool false, .slice none 0 0] ∧ GT wz (w.heap.size + 2) (.slice az n cz) n N KZ DZ KCZ DCZ) := ⟨HBQ.out.trans (hbz.mono HBQ.out.size), HBT.out.2.2.below hbz, hrz.mono (by have := HBT.out.2.2.lt; omega)⟩
        have r0 := HZb.out.2.1.cell 0
        have r1 := HZb.out.2.1.cell 1
        simp at r0 r1
        have rz := HZb.out.2.1.lt
        have rf := fun i => HZb.out.2.1.frozen i
        clear hbz hrz t0 tz
        go_wp2
        refine bodyPost_ret (v := .agg #[.bool false, .slice az n cz]) (by simp [results, Try.results11, go_sem, r0, r1]) rfl ⟨(HZb.out.1.setCell (by simp) _).setCell (by simp) _, false, az, n, cz, N, KZ, DZ, KCZ, DCZ, rfl, ?_, .inr ⟨rfl, rfl, rfl, HNo.out⟩⟩
        exact (HZb.out.2.2.keep (fun x hx => by rw [Below.heap_setCell _ _ _ _ (show x ≠ w.heap.size + 1 by have := (HZb.out.2.2.used hx).1; omega), Below.heap_setCell _ _ _ _ (show x ≠ w.heap.size + 1 by have := (HZb.out.2.2.used hx).1; omega)])).mono (by omega)
      · have hlt := HOw.out.1.lt
        have HF2 : Hid (Below (w.heap.size + 2) w1 w2) := hf2.below hz1 (fun x hx => (hlt x hx).1)
        have hbl := hlt b hbm
        have hz2 := hf2.2.2.2.1
        have HGr : Hid (Calls Try.prog 37 #[.iface 91 (.pointer (some ⟨kb, 0, none⟩))] w2 (RetLw u w2)) := lowered_any u _ b hh (fun x => ((x ∈ bs ∧ x ≠ b) ∨ w1.heap.size ≤ x) ∧ x < w2.heap.size) w2 (NdI.keep (Nat.le_refl _) rfl (fun x hx hl => ⟨⟨hx, hl⟩, rfl⟩) hnd) (fun q => by rcases q.1 with q | q; exact q.2 rfl; omega) (fun x hx => hx.2) (by omega) (DelR.bal HF.out.2.1 HF.out.2.2 hu).1
        have HU : Hid (key ∈ keysR 21 t' ∧ DelR key 21 t' u ∧ nodesR 21 u ≤ 5000) := ⟨hm, hu, by have := DelR.nodes HF.out.2.1 HF.out.2.2 hu; have := HF.out.1; omega⟩
        clear hnd hu hm hf2 HC hlt hbm HOw hbl
        go_wp2_with fail
        (with_reducible refine HGr.out.mono ?_)
        rintro e w3 ⟨hw3, D, y, v', S, h3, rfl, hta, hS3, hby, hn6, htM⟩
        subst w3
        have HT : Hid (∀ M m, m = nodesR D y → Tells M 0 D y 0 → DelT m M u) := htM
        have hn7 : nodesR D y ≤ 5000 := by have := HU.out.2.2; omega
        have HTt : Hid (Calls Try.prog 34 #[v'] w2 (RetTt w2 D y)) := tellTree_any D y v' S w2 true h3 hta hby hS3 (by omega)
        obtain ⟨ty, pv, hvf⟩ : ∃ ty pv, v' = .iface ty pv := by
          obtain ⟨bb, _, _, _, q⟩ := hta.count
          rcases q with q | q <;> exact ⟨_, _, q⟩
        subst hvf
        clear hta hS3 hby htM HGr hn6
        go_wp2_with fail
        (with_reducible refine HTt.out.mono ?_)
        rintro e w4 ⟨hb4, a4, c4, M, K4, D4, KC4, DC4, rfl, hg4, htl4⟩
        obtain ⟨m, hm⟩ : ∃ m, m = nodesR D y := ⟨_, rfl⟩
        rw [← hm] at hg4 ⊢
        have hm5 : m ≤ 5000 := by omega
        have HX4 : Hid (Below (w.heap.size + 2) w1 w4 ∧ GT w4 (w.heap.size + 2) (.slice a4 m c4) m M K4 D4 KC4 DC4 ∧ DelT m M u) := ⟨HF2.out.trans (hb4.mono (by have := HF2.out.size; omega)), hg4.mono (by have := HF2.out.size; omega), HT.out M m hm htl4⟩
        clear hb4 hg4 htl4 HTt hm hn7
        have HRB : Hid (Bx w4 (w.heap.size + 1) 30 #[.bool false, .slice none 0 0] ∧ Below w.heap.size w w4) := ⟨(BT1.out w4 HX4.out.1).2.2.2, (BT1.out w4 HX4.out.1).1⟩
        have r0 := HRB.out.1.cell 0
        have r1 := HRB.out.1.cell 1
        simp at r0 r1
        have rz := HRB.out.1.lt
        have rf := fun i => HRB.out.1.frozen i
        go_wp2
        refine bodyPost_ret (v := .agg #[.bool true, .slice a4 m c4]) (by simp [results, Try.results11, go_sem, r0, r1]) rfl ⟨(HRB.out.2.setCell (by simp) _).setCell (by simp) _, true, a4, m, c4, M, K4, D4, KC4, DC4, rfl, ?_, .inl ⟨rfl, t', u, HVT.out, HU.out.1, HU.out.2.1, hm5, HX4.out.2.2⟩⟩
        exact (HX4.out.2.1.keep (fun x hx => by rw [Below.heap_setCell _ _ _ _ (show x ≠ w.heap.size + 1 by have := (HX4.out.2.1.used hx).1; omega), Below.heap_setCell _ _ _ _ (show x ≠ w.heap.size + 1 by have := (HX4.out.2.1.used hx).1; omega)])).mono (by omega)
end Go.Proofs.Ytakemeccigpbaaa

namespace Go.Proofs.Ytakemeccigpbaaa
open Go.RowKit Go.Deep
set_option linter.unusedVariables false
set_option maxRecDepth 100000

theorem DelOut_t {n : Nat} {N : Nat → Tn} {key : ByteArray} {m : Nat} {M : Nat → Tn} (h : DelTo n N key m M) : ∃ (D : Nat) (y : Ro D) (hh : Nat), m = nodesR D y ∧ m ≤ 5000 ∧ Tells M 0 D y 0 ∧ BalR D true y hh := by
  obtain ⟨t, r, hv, _, hr, h5, hT⟩ := h
  obtain ⟨_, _, _, ⟨hh, g4⟩, g5, _⟩ := hv
  have hU := (DelR.bal g4 (asc_of_ascK g5) hr).1
  rcases hT with ⟨y, rfl, hm, ht⟩ | ⟨hne, hm, ht⟩
  · obtain ⟨_, _, h', _, hall⟩ := hU
    have hy := hall y (by simp)
    exact ⟨20, y, h', hm, h5, ht, (BalU.of hy).full true hy.siz⟩
  · refine ⟨21, r, hh, hm, h5, ht, ?_⟩
    rcases r with ks | l
    · exact ⟨hU.1, hU.2, Or.inl rfl⟩
    · refine hU.full true ?_
      show 2 ≤ l.length
      have h1 := hU.1
      by_cases e : l.length = 1
      · obtain ⟨y, rfl⟩ := List.length_eq_one_iff.1 e
        exact absurd rfl (hne y)
      · omega

theorem del_agree {n : Nat} {N : Nat → Tn} {key : ByteArray} {ok ok' : Bool} {m m' : Nat} {M M' : Nat → Tn} (h : (ok = true ∧ DelTo n N key m M) ∨ (ok = false ∧ m = n ∧ M = N ∧ DelNo n N key)) (h' : (ok' = true ∧ DelTo n N key m' M') ∨ (ok' = false ∧ m' = n ∧ M' = N ∧ DelNo n N key)) : ok = ok' ∧ m = m' ∧ ∀ i, i < m → SameN (M i) (M' i) := by
  rcases h with ⟨rfl, t, r, hv, hk, hr, h5, hT⟩ | ⟨rfl, rfl, rfl, hno⟩
  · rcases h' with ⟨rfl, t', r', hv', hk', hr', h5', hT'⟩ | ⟨rfl, rfl, rfl, hno'⟩
    · obtain rfl := hv.fn hv'
      obtain ⟨_, _, _, ⟨hh, g4⟩, g5, _⟩ := hv
      have e := DelR.fn g4 (asc_of_ascK g5) hr hr'
      subst e
      rcases hT with ⟨y, e1, hm, ht⟩ | ⟨hne, hm, ht⟩
      · rcases hT' with ⟨y', e2, hm', ht'⟩ | ⟨hne', hm', ht'⟩
        · rw [e1] at e2
          injection e2 with e2
          injection e2 with e2
          subst e2
          exact ⟨rfl, by omega, fun i hi => Tells.same ht ht' i (Nat.zero_le _) (by omega)⟩
        · exact absurd e1 (hne' y)
      · rcases hT' with ⟨y', e2, hm', ht'⟩ | ⟨hne', hm', ht'⟩
        · exact absurd e2 (hne y')
        · exact ⟨rfl, by omega, fun i hi => Tells.same ht ht' i (Nat.zero_le _) (by omega)⟩
    · exact absurd hk (hno' t hv)
  · rcases h' with ⟨rfl, t', r', hv', hk', hr', h5', hT'⟩ | ⟨rfl, rfl, rfl, hno'⟩
    · exact absurd hk' (hno t' hv')
    · exact ⟨rfl, rfl, fun i _ => SameN.refl _⟩

theorem del_fit {n : Nat} {N : Nat → Tn} {key : ByteArray} {ok : Bool} {m : Nat} {M : Nat → Tn} (h : (ok = true ∧ DelTo n N key m M) ∨ (ok = false ∧ m = n ∧ M = N ∧ DelNo n N key)) (hN : ∀ i, i < n → TnFit (N i)) (hs : n + sumT N n ≤ 1048576) : (∀ i, i < m → TnFit (M i)) ∧ m + sumT M m ≤ 1048576 := by
  rcases h with ⟨_, h⟩ | ⟨_, rfl, rfl, _⟩
  · obtain ⟨D, y, hh, hm, h5, hT, hb⟩ := DelOut_t h
    have f := fun i (hi : i < m) => tells_four hT hb i (Nat.zero_le _) (by omega)
    have s := sum_four M m f
    exact ⟨fun i hi => ⟨by have := f i hi; omega, by have := f i hi; omega⟩, by omega⟩
  · exact ⟨hN, hs⟩

set_option maxHeartbeats 8000000 in
theorem dlLaw0 (key : ByteArray) (hkey : key.size ≤ maxLen) (a : Option Addr) (n c : Nat) (N : Nat → Tn) (w : World) (ha : RdTn w a n N) (hX : ∀ i, i < n → TnBig (N i)) (hn : n ≤ maxLen) :
    Calls Try.prog 8 #[.agg #[.slice a n c], .string key] w fun e w' => e = .returned (.bool true) ∧ Below w.heap.size w w' := by
  have HA : Hid (RdTn w a n N) := ha
  have HXs : Hid (∀ i, i < n → TnBig (N i)) := hX
  clear ha hX
  have HKey : Hid (key.size ≤ maxLen) := hkey
  unfold maxLen at hkey
  by_cases hkb : 1048576 < key.size
  · have ik : (1048576 : Int) < (key.size : Int) := by omega
    have ik' : decide ((1048576 : Int) < (key.size : Int)) = true := decide_eq_true ik
    have nk' : decide (1048576 < key.size) = true := decide_eq_true hkb
    go_enter Try.func8, Try.ntmps8
    go_wp2
    go_ret
    exact ⟨rfl, below_alloc _ _⟩
  have ik : ¬ (1048576 : Int) < (key.size : Int) := by omega
  have ik' : decide ((1048576 : Int) < (key.size : Int)) = false := decide_eq_false ik
  have nk' : decide (1048576 < key.size) = false := decide_eq_false hkb
  go_enter Try.func8, Try.ntmps8
  go_wp2_with fail
  refine (szTree_sum a n c N _ (HA.out.below (below_alloc _ _)) hn HXs.out).mono ?_
  rintro e w1 ⟨r, rfl, hr, hb1⟩
  rw [show ∀ O, (w.alloc O).heap.size = w.heap.size + 1 from fun O => by simp] at hb1
  have K1 : Hid (Below (w.heap.size + 1) (w.alloc (.cells #[.slice a n c] 41)) w1) := hb1
  have HJ : Hid (∀ {W : World}, Below (w.heap.size + 1) (w.alloc (.cells #[.slice a n c] 41)) W → Below w.heap.size w W) := fun h => (below_alloc _ _).trans (h.mono (by omega))
  obtain ⟨x0, xz1⟩ := pbox hb1
  clear hb1
  rcases hr with rfl | ⟨hr0, hsum⟩
  · clear x0
    go_wp2
    go_ret
    exact ⟨rfl, HJ.out K1.out⟩
  have hr1 : ¬ r < 0 := by omega
  have hn1 : n ≤ 1048576 := by omega
  have HF : Hid (∀ i, i < n → TnFit (N i)) := fun i hi => by
    have := sumT_get N n i hi
    exact ⟨by omega, by omega⟩
  have HSum : Hid (n + sumT N n ≤ 1048576) := hsum
  clear hn hsum
  go_wp2_with fail
  refine (toTreeC_any a n c N w1 (HA.out.below (HJ.out K1.out)) hn1 HF.out).mono ?_
  rintro e w2 ⟨g2, KA2, DA2, KC2, DC2, rfl, hg2, hr2, hb2, hcp2⟩
  have K2 : Hid (Below (w.heap.size + 1) (w.alloc (.cells #[.slice a n c] 41)) w2) := K1.out.trans (hb2.mono (by omega))
  have HSp : Hid (Calls Try.prog 33 #[.agg #[.slice (some ⟨g2, 0, none⟩) n n], .string key] w2 (RetDl w2 n N key)) := specDel (some ⟨g2, 0, none⟩) n n N key w2 (hr2.rdC capC (fun i hi => by rw [hcp2 i hi]; have := (HF.out i hi).1; exact ⟨Nat.le_refl _, by omega⟩)) hn1 HF.out HKey.out
  clear x0 hr2 hb2 hcp2
  go_wp2_with fail
  (with_reducible refine HSp.out.mono ?_)
  rintro e w3 ⟨hb3, ok3, a3, m3, c3, M3, rfl, hrd3, hd3⟩
  have K3 : Hid (Below (w.heap.size + 1) (w.alloc (.cells #[.slice a n c] 41)) (w3.alloc (.cells #[.bool ok3, .slice a3 m3 c3] 30))) := (K2.out.trans (hb3.mono (by have := K2.out.size; simp at this; omega))).alloc (by have := K2.out.size; have := hb3.size; simp at this ⊢; simp at *; omega) _
  have S3 : Hid (RdTn (w3.alloc (.cells #[.bool ok3, .slice a3 m3 c3] 30)) a3 m3 M3 ∧ ((ok3 = true ∧ DelTo n N key m3 M3) ∨ (ok3 = false ∧ m3 = n ∧ M3 = N ∧ DelNo n N key))) := ⟨hrd3.below (below_alloc _ _), hd3⟩
  obtain ⟨b6, hb6⟩ : ∃ b6, b6 = w3.heap.size := ⟨_, rfl⟩
  have X3 : Hid (Bx (w3.alloc (.cells #[.bool ok3, .slice a3 m3 c3] 30)) b6 30 #[.bool ok3, .slice a3 m3 c3]) := by rw [hb6]; exact Bx.new _ _ _
  clear hb3 hrd3 hd3 HSp
  go_upto_region 8 with fail
  rw [← hb6]
  generalize w3.alloc (.cells #[.bool ok3, .slice a3 m3 c3] 30) = W3 at K3 S3 X3 ⊢
  clear hb6
  have HwW : Hid (w.heap.size + 1 ≤ W3.heap.size) := by have := K3.out.size; show _ ≤ _; simpa using this
  obtain ⟨x0, xz3⟩ := pbox K3.out
  go_wp2_with fail
  refine (toTree_any a n c N W3 (HA.out.below (HJ.out K3.out)) hn1 HF.out).mono ?_
  rintro e w4 ⟨g4, KA4, DA4, KC4, DC4, rfl, hg4, hr4, hb4⟩
  obtain ⟨b7, hb7⟩ : ∃ b7, b7 = w4.heap.size := ⟨_, rfl⟩
  have O4 : Hid (OwnTn w4 W3.heap.size g4 n N KA4 DA4 KC4 DC4 ∧ Below W3.heap.size W3 w4) := ⟨hr4, hb4⟩
  have X4 : Hid (Bx (w4.alloc (.cells #[.slice (some ⟨g4, 0, none⟩) n n] 25)) b7 25 #[.slice (some ⟨g4, 0, none⟩) n n] ∧ Below W3.heap.size W3 (w4.alloc (.cells #[.slice (some ⟨g4, 0, none⟩) n n] 25)) ∧ OwnTn (w4.alloc (.cells #[.slice (some ⟨g4, 0, none⟩) n n] 25)) W3.heap.size g4 n N KA4 DA4 KC4 DC4 ∧ TnB b7 g4 n N KA4 DA4 W3.heap.size ∧ (w4.alloc (.cells #[.slice (some ⟨g4, 0, none⟩) n n] 25)).heap.size = b7 + 1 ∧ W3.heap.size ≤ b7) := by
    rw [hb7]
    exact ⟨Bx.new _ _ _, hb4.alloc hb4.size _, hr4.under (below_alloc _ _), hr4.bound, by simp, hb4.size⟩
  clear x0 hr4 hb4 O4
  go_upto_region 9 with fail
  rw [← hb7]
  generalize w4.alloc (.cells #[.slice (some ⟨g4, 0, none⟩) n n] 25) = W4 at X4 ⊢
  clear hb7
  have HIm : Hid (Calls Try.prog 11 #[.agg #[.slice (some ⟨g4, 0, none⟩) n n], .string key] W4 (RetTd W4 n N key)) := implDel (some ⟨g4, 0, none⟩) n n N key W4 X4.out.2.2.1.rd hn1 HF.out HKey.out
  have y0 := X4.out.1.cell 0
  simp at y0
  have yz := X4.out.1.lt
  go_wp2_with fail
  (with_reducible refine HIm.out.mono ?_)
  rintro e w5 ⟨hb5, ok5, a5, m5, c5, M5, KA5, DA5, KC5, DC5, rfl, hgt5, hd5⟩
  obtain ⟨eok, em, hsame⟩ := del_agree hd5 S3.out.2
  subst eok
  subst em
  obtain ⟨hfit5, hsum5⟩ := del_fit hd5 HF.out HSum.out
  have HM : Hid ((∀ i, i < m5 → TnFit (M5 i)) ∧ m5 + sumT M5 m5 ≤ 1048576) := ⟨hfit5, hsum5⟩
  have hm20 : m5 ≤ 1048576 := by omega
  have R3 : Hid (∀ W, Below W3.heap.size W3 W → RdTn W a3 m5 M5) := fun W hW => ((S3.out.1).below hW).same (fun i hi => by obtain ⟨e1, e2, e3, e4, e5, e6⟩ := hsame i hi; exact ⟨e1.symm, e2.symm, e3.symm, e4.symm, fun j hj => (e5 j (by omega)).symm, fun j hj => (e6 j (by omega)).symm⟩)
  have HD5 : Hid ((ok5 = true ∧ DelTo n N key m5 M5) ∨ (ok5 = false ∧ m5 = n ∧ M5 = N ∧ DelNo n N key)) := hd5
  obtain ⟨b8, hb8⟩ : ∃ b8, b8 = w5.heap.size := ⟨_, rfl⟩
  have L5 : Hid (InLs w W3 (w5.alloc (.cells #[.bool ok5, .slice a5 m5 c5] 30)) (.slice a n c) b7 b8 (b7 + 1) n m5 g4 ok5 a5 c5 M5 KA5 DA5 KC5 DC5 ∧ b7 < b8 ∧ OwnTn (w5.alloc (.cells #[.bool ok5, .slice a5 m5 c5] 30)) W3.heap.size g4 n N KA4 DA4 KC4 DC4 ∧ (∀ x, UsedT (.slice a5 m5 c5) m5 M5 KA5 DA5 x → x < b8)) := by
    have h45 := hb5.size
    have hq := X4.out.2.2.2.2
    have sp5 : Below W3.heap.size W3 w5 := X4.out.2.1.trans (hb5.mono (by omega))
    have bl := hb5.alloc h45 (.cells #[.bool ok5, .slice a5 m5 c5] 30)
    rw [hb8]
    refine ⟨⟨K3.out.trans ((sp5.alloc sp5.size _).mono HwW.out), sp5.alloc sp5.size _, X4.out.1.below bl, Bx.new _ _ _, ?_⟩, by omega, X4.out.2.2.1.under bl, fun x hx => (hgt5.used hx).2⟩
    have q := hgt5.below (below_alloc w5 (.cells #[.bool ok5, .slice a5 m5 c5] 30))
    rw [hq.1] at q
    exact q
  clear hb5 hgt5 hd5 hsame hfit5 hsum5 HIm y0 yz
  go_upto_region 10 with fail
  rw [← hb8]
  generalize w5.alloc (.cells #[.bool ok5, .slice a5 m5 c5] 30) = W5 at L5 ⊢
  clear hb8
  have z0 := L5.out.1.bx8.cell 0
  have z1 := L5.out.1.bx8.cell 1
  have s0 := (X3.out.below L5.out.1.sp).cell 0
  have s1 := (X3.out.below L5.out.1.sp).cell 1
  simp at z0 z1 s0 s1
  have HEq : Hid (∀ W, Below W3.heap.size W3 W → RdTn W a5 m5 M5 → Calls Try.prog 30 #[.agg #[.bool ok5, .slice a5 m5 c5], .agg #[.bool ok5, .slice a3 m5 c3]] W fun e w' => e = .returned (.bool true) ∧ Below W.heap.size W w') := fun W hW hr => eqTreeRes_yes ok5 a5 a3 m5 c5 c3 M5 W hr (R3.out W hW) hm20 HM.out.1
  go_wp2_with fail
  (with_reducible refine (HEq.out W5 L5.out.1.sp L5.out.1.gt5.rd).mono ?_)
  rintro e w6 ⟨rfl, hb6⟩
  have L6 : Hid (InLs w W3 w6 (.slice a n c) b7 b8 (b7 + 1) n m5 g4 ok5 a5 c5 M5 KA5 DA5 KC5 DC5 ∧ OwnTn w6 W3.heap.size g4 n N KA4 DA4 KC4 DC4) := ⟨L5.out.1.below HwW.out hb6, L5.out.2.2.1.under hb6⟩
  have C5 : Hid (b7 < b8 ∧ (∀ x, UsedT (.slice a5 m5 c5) m5 M5 KA5 DA5 x → x < b8)) := ⟨L5.out.2.1, L5.out.2.2.2⟩
  clear hb6 z0 z1 s0 s1 L5
  have R6 : Hid (RdTn w6.drew a n N) := (HA.out.below (HJ.out L6.out.1.arg)).below (Below.refl _ _).drew
  obtain ⟨x0, xz6⟩ := pbox L6.out.1.arg
  have y0 := L6.out.1.bx7.cell 0
  simp at y0
  go_wp2
  go_region_with (first
    | (go_at_call 21; refine (toTree_any a n c N _ (by exact R6.out) hn1 HF.out).mono ?_; rintro e w6a ⟨g6, KA6, DA6, KC6, DC6, rfl, hg6, hr6, hb6⟩; have z6 := (L6.out.1.bx7.below (below_undrew hb6)).cell 0; simp at z6; have z7 := (pbox (L6.out.1.arg.trans ((below_undrew hb6).mono (by have := L6.out.1.arg.size; simpa using this)))).1)
    | (go_at_call 22; refine (eqTree_yes (some ⟨g4, 0, none⟩) (some ⟨g6, 0, none⟩) n n n N _ ((L6.out.2.under (below_undrew hb6)).rd) hr6.rd hn1 HF.out).mono ?_; rintro e w7 ⟨rfl, hb7⟩))
  all_goals
    have L7 : Hid (InLs w W3 w7 (.slice a n c) b7 b8 (b7 + 1) n m5 g4 ok5 a5 c5 M5 KA5 DA5 KC5 DC5 ∧ MTn w7 W3.heap.size g4 n N KA4 DA4 KC4 DC4) := by
      have q1 := below_undrew hb6
      have q2 : Below w6.heap.size w6 w7 := q1.trans (hb7.mono q1.size)
      exact ⟨L6.out.1.below HwW.out q2, ⟨N, L6.out.2.under q2, fun i => ⟨rfl, rfl⟩⟩⟩
    clear hb6 hb7 z6 z7 x0 y0 xz6 L6 R6 hr6
    have y0 := L7.out.1.bx7.cell 0
    simp at y0
    go_wp2_with fail
    refine (markTree_any W3.heap.size b7 g4 n n N KA4 DA4 KC4 DC4 w7 L7.out.2 X4.out.2.2.2.1 HSum.out).mono ?_
    rintro e w8 ⟨k8, rfl, hw8⟩
    have L8 : Hid (InLs w W3 w8 (.slice a n c) b7 b8 (b7 + 1) n m5 g4 ok5 a5 c5 M5 KA5 DA5 KC5 DC5) := L7.out.1.marked HwW.out C5.out.1 (Nat.lt_succ_self _) hw8
    have hk8 : ¬ (k8 : Int) < 0 := by omega
    have hk8' : decide ((k8 : Int) < 0) = false := decide_eq_false hk8
    clear hw8 y0 L7
    have z0 := L8.out.bx8.cell 0
    have z1 := L8.out.bx8.cell 1
    have s0 := (X3.out.below L8.out.sp).cell 0
    have s1 := (X3.out.below L8.out.sp).cell 1
    simp at z0 z1 s0 s1
    go_wp2_with fail
    (with_reducible refine (HEq.out w8 L8.out.sp L8.out.gt5.rd).mono ?_)
    rintro e w9 ⟨rfl, hb9⟩
    have L9 : Hid (InLs w W3 w9 (.slice a n c) b7 b8 (b7 + 1) n m5 g4 ok5 a5 c5 M5 KA5 DA5 KC5 DC5) := L8.out.below HwW.out hb9
    clear hb9 z0 z1 s0 s1 L8
    have z0 := L9.out.bx8.cell 0
    have z1 := L9.out.bx8.cell 1
    simp at z0 z1
    obtain ⟨KO, hKO⟩ : ∃ KO : Nat, KO = koT 1 M5 m5 := ⟨_, rfl⟩
    have HKO : Hid (KO = koT 1 M5 m5) := hKO
    have HMk : Hid (Calls Try.prog 31 #[.agg #[.bool ok5, .slice a5 m5 c5], .int .i64 1] w9 fun e w' => e = .returned (.int .i64 (KO : Int)) ∧ (Below (w.heap.size + 1) (w.alloc (.cells #[.slice a n c] 41)) w' ∧ Below W3.heap.size W3 w') ∧ Bx w' b8 30 #[.bool ok5, .slice a5 m5 c5] ∧ RdTn w' a5 m5 (mkN 1 M5)) := by
      by_cases h0 : m5 = 0
      · subst h0
        refine (markRes_zero ok5 a5 c5 w9).mono ?_
        rintro e w' ⟨rfl, hb⟩
        have q := L9.out.below HwW.out hb
        exact ⟨by rw [hKO]; rfl, ⟨q.arg, q.sp⟩, q.bx8, .inl rfl⟩
      · obtain ⟨g5, rfl⟩ := L9.out.gt5.form h0
        have o5 := L9.out.gt5.ownTn
        have tb : TnB b8 g5 m5 M5 KA5 DA5 (b7 + 1) := by
          refine ⟨o5.le, C5.out.2 g5 (.inl rfl), fun i hi h1 x hx => ?_, fun i hi h1 x hx => ?_⟩
          · obtain ⟨gi, e, hgi, _⟩ := (o5.keys i hi).resolve_left h1
            rw [e] at hx
            injection hx with hx
            have hx' : gi = x := hx
            subst hx'
            exact ⟨hgi, C5.out.2 gi (.inr (.inl ⟨i, hi, h1, e⟩))⟩
          · obtain ⟨gi, e, hgi, _⟩ := (o5.kids i hi).resolve_left h1
            rw [e] at hx
            injection hx with hx
            have hx' : gi = x := hx
            subst hx'
            exact ⟨hgi, C5.out.2 gi (.inr (.inr ⟨i, hi, h1, e⟩))⟩
        refine (markTreeRes_eq ok5 (b7 + 1) b8 g5 m5 c5 M5 KA5 DA5 KC5 DC5 w9 o5 tb HM.out.2).mono ?_
        rintro e w' ⟨rfl, hw, ho⟩
        have q7 := X4.out.2.2.2.2
        have hs9 := L9.out.sp.size
        have hbb := hw.below (show b7 + 1 ≤ w9.heap.size by have := L9.out.bx7.lt; omega)
        exact ⟨by rw [hKO], ⟨L9.out.arg.trans (hbb.mono (by have := HwW.out; omega)), L9.out.sp.trans (hbb.mono (by omega))⟩, L9.out.bx8.of_block (hw.2.2.2.2 b8 L9.out.bx8.lt (.inr (Nat.le_refl _))), ho.rd⟩
    clear hKO
    go_wp2_with fail
    (with_reducible refine HMk.out.mono ?_)
    rintro e w10 ⟨rfl, hk10, hx10, hr10⟩
    have K10 : Hid ((Below (w.heap.size + 1) (w.alloc (.cells #[.slice a n c] 41)) w10 ∧ Below W3.heap.size W3 w10) ∧ Bx w10 b8 30 #[.bool ok5, .slice a5 m5 c5]) := ⟨hk10, hx10⟩
    have HHe : Hid (Calls Try.prog 32 #[.agg #[.bool ok5, .slice a5 m5 c5], .int .i64 1] w10 fun e w' => e = .returned (.int .i64 (KO : Int)) ∧ Below w10.heap.size w10 w') := by
      rw [HKO.out]
      exact heldTreeRes_any ok5 a5 m5 c5 M5 w10 hr10 HM.out.2
    clear hk10 hx10 hr10 HMk z0 z1 L9
    have z0 := K10.out.2.cell 0
    have z1 := K10.out.2.cell 1
    simp at z0 z1
    go_wp2_with fail
    (with_reducible refine HHe.out.mono ?_)
    rintro e w11 ⟨rfl, hb11⟩
    have K11 : Hid (Below (w.heap.size + 1) (w.alloc (.cells #[.slice a n c] 41)) w11 ∧ Below W3.heap.size W3 w11) := ⟨K10.out.1.1.trans (hb11.mono (by have := K10.out.1.1.size; simpa using this)), K10.out.1.2.trans (hb11.mono K10.out.1.2.size)⟩
    clear hb11 K10 HHe z0 z1
    obtain ⟨x0, xz11⟩ := pbox K11.out.1
    have hM0 : ¬ (KO : Int) < 0 := by omega
    have hM1 : ((KO : Int) != (KO : Int)) = false := by simp
    go_wp2_with fail
    refine (toTree_any a n c N w11 (HA.out.below (HJ.out K11.out.1)) hn1 HF.out).mono ?_
    rintro e w12 ⟨g12, KA12, DA12, KC12, DC12, rfl, hg12, hr12, hb12⟩
    have K12 : Hid (Below w.heap.size w w12 ∧ Below W3.heap.size W3 w12) := ⟨(HJ.out K11.out.1).trans (hb12.mono (HJ.out K11.out.1).size), K11.out.2.trans (hb12.mono K11.out.2.size)⟩
    have HIm2 : Hid (Calls Try.prog 11 #[.agg #[.slice (some ⟨g12, 0, none⟩) n n], .string key] w12 (RetTd w12 n N key)) := implDel (some ⟨g12, 0, none⟩) n n N key w12 hr12.rd hn1 HF.out HKey.out
    clear x0 hr12 hb12 K11
    go_wp2_with fail
    (with_reducible refine HIm2.out.mono ?_)
    rintro e w13 ⟨hb13, ok13, a13, m13, c13, M13, KA13, DA13, KC13, DC13, rfl, hgt13, hd13⟩
    obtain ⟨eok, em, hsame⟩ := del_agree hd13 HD5.out
    subst eok
    subst em
    obtain ⟨b12, hb12⟩ : ∃ b12, b12 = w13.heap.size := ⟨_, rfl⟩
    have K13 : Hid (Below w.heap.size w (w13.alloc (.cells #[.bool ok13, .slice a13 m13 c13] 30)) ∧ Below W3.heap.size W3 (w13.alloc (.cells #[.bool ok13, .slice a13 m13 c13] 30)) ∧ RdTn (w13.alloc (.cells #[.bool ok13, .slice a13 m13 c13] 30)) a13 m13 M5 ∧ Bx (w13.alloc (.cells #[.bool ok13, .slice a13 m13 c13] 30)) b12 30 #[.bool ok13, .slice a13 m13 c13]) := by
      have q1 := K12.out.1.trans (hb13.mono K12.out.1.size)
      have q2 := K12.out.2.trans (hb13.mono K12.out.2.size)
      rw [hb12]
      exact ⟨q1.alloc q1.size _, q2.alloc q2.size _, (hgt13.rd.same hsame).below (below_alloc _ _), Bx.new _ _ _⟩
    clear hb13 hgt13 hd13 hsame K12 HIm2
    go_upto_region 27 with fail
    rw [← hb12]
    generalize w13.alloc (.cells #[.bool ok13, .slice a13 m13 c13] 30) = W13 at K13 ⊢
    clear hb12
    have z0 := K13.out.2.2.2.cell 0
    have z1 := K13.out.2.2.2.cell 1
    have s0 := (X3.out.below K13.out.2.1).cell 0
    have s1 := (X3.out.below K13.out.2.1).cell 1
    simp at z0 z1 s0 s1
    have HEq2 : Hid (Calls Try.prog 30 #[.agg #[.bool ok13, .slice a13 m13 c13], .agg #[.bool ok13, .slice a3 m13 c3]] W13 fun e w' => e = .returned (.bool true) ∧ Below W13.heap.size W13 w') := eqTreeRes_yes ok13 a13 a3 m13 c13 c3 M5 W13 K13.out.2.2.1 (R3.out W13 K13.out.2.1) hm20 HM.out.1
    go_wp2_with fail
    (with_reducible refine HEq2.out.mono ?_)
    rintro e w14 ⟨rfl, hb14⟩
    have K14 : Hid (Below w.heap.size w w14) := K13.out.1.trans (hb14.mono K13.out.1.size)
    clear hb14 z0 z1 s0 s1
    go_wp2
    go_ret
    exact ⟨rfl, K14.out⟩

theorem dlLawV (v : Value) (key : ByteArray) (w : World) (hv : IsTree w v) (h1 : key.size ≤ maxLen) : Calls Try.prog 8 #[v, .string key] w fun e w' => e = .returned (.bool true) ∧ Below w.heap.size w w' := by
  obtain ⟨a, n, c, N, rfl, ha, hX, hn⟩ := hv
  exact dlLaw0 key h1 a n c N w ha hX hn
end Go.Proofs.Ytakemeccigpbaaa
