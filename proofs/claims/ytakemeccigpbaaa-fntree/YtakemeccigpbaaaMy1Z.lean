import Derived.Test.YtakemeccigpbaaaMv3Z
import Derived.Test.YtakemeccigpbaaaMx1Z
import Derived.Test.YtakemeccigpbaaaMw1Z
import Derived.Test.YtakemeccigpbaaaTrXZ
import Derived.Test.YtakemeccigpbaaaOpenBy
import Derived.Test.YtakemeccigpbaaaMv4Z
import Derived.Test.YtakemeccigpbaaaMg1Z
import Derived.Test.YtakemeccigpbaaaMk1Z
namespace Go.Proofs.Ytakemeccigpbaaa
open Go.RowKit Go.Deep
set_option linter.unusedVariables false
set_option maxRecDepth 100000

theorem ta6 (p : Value) (W : World) : (Instr.typeAssert (.iface 53 p) 59 91 true).run Try.prog W = .ok (.tuple #[.pointer none, .bool false]) W := by kernel_rfl

/-- What loweredRoot hands back. -/
def RetLw (u : Ro 21) (w : World) (e : Ending) (w' : World) : Prop :=
  w' = w ∧ ∃ (D : Nat) (y : Ro D) (v' : Value) (S : Nat → Prop) (h : Nat), e = .returned v' ∧ TAo S w D y v' ∧ (∀ x, S x → x < w.heap.size) ∧ BalR D true y h ∧ nodesR D y ≤ nodesR 21 u ∧ ∀ M m, m = nodesR D y → Tells M 0 D y 0 → DelT m M u

set_option maxHeartbeats 2000000 in
theorem lowered_any (u : Ro 21) (v : Value) (b hh : Nat) (S : Nat → Prop) (w : World) (h : NdI S w b 21 u v) (hb : ¬ S b) (hS : ∀ x, S x → x < w.heap.size) (hbw : b < w.heap.size) (hU : BalU 21 u hh) : Calls Try.prog 37 #[v] w (RetLw u w) := by
  have hall := h.tao hb
  have hS' : ∀ x, S x ∨ x = b → x < w.heap.size := fun x hx => by
    rcases hx with q | q
    · exact hS x q
    · omega
  match u, h, hU, hall with
  | .inl ks, h, hU, hall =>
    obtain ⟨rfl, ka, kc, hx, hc, hr⟩ := h
    have HF : Hid (RetLw (.inl ks) w (.returned (.iface 53 (.pointer (some ⟨b, 0, none⟩)))) w) := ⟨rfl, 21, .inl ks, _, _, hh, rfl, hall, hS', ⟨hU.1, hU.2, Or.inl rfl⟩, Nat.le_refl _, fun M m hm ht => .inr ⟨fun y e => (by cases e), hm, ht⟩⟩
    have t6 := ta6 (.pointer (some ⟨b, 0, none⟩))
    clear hall hx hc hr hU
    go_enter Try.func37, Try.ntmps37
    go_wp2
    go_ret
    exact HF.out
  | .inr l, h, hU, hall =>
    obtain ⟨rfl, g, o, kc, xs, hx, hg, hc, h0, hcc, hk⟩ := h
    obtain ⟨b1, b4, h', rfl, hb'⟩ := hU
    have t4 := ta4 (.pointer (some ⟨b, 0, none⟩))
    obtain ⟨ln, hln⟩ : ∃ ln, ln = l.length := ⟨_, rfl⟩
    rw [← hln] at hx
    have HSz : Hid (Calls Try.prog 55 #[.pointer (some ⟨b, 0, none⟩)] w fun e w' => e = .returned (.int .i64 (ln : Int)) ∧ w' = w) := sizeInner_any b ln kc _ _ w hx
    by_cases h1 : l.length = 1
    · obtain ⟨y, ey⟩ : ∃ y, l = [y] := List.length_eq_one_iff.1 h1
      subst ey
      have e1 : ln = 1 := hln
      subst e1
      obtain ⟨u', hu', ht'⟩ := hk 0 (by simp)
      have HF : Hid (RetLw (.inr [y]) w (.returned u') w) := by
        have hby := hb' y (by simp)
        refine ⟨rfl, 20, y, u', S, h', rfl, ht', hS, (BalU.of hby).full true hby.siz, ?_, fun M m hm ht => .inl ⟨y, rfl, hm, ht⟩⟩
        have q2 : nodesR 21 (.inr [y]) = 1 + (nodesR 20 y + 0) := rfl
        omega
      have c1 := hx.cell 1
      simp at c1
      have z0 := hcc 0 u' hu'
      rw [Nat.add_zero] at z0
      have hgl := hc.1
      have hcap := hc.2
      clear hall hx hc hk hcc hb' ht' h0 hln
      go_enter Try.func37, Try.ntmps37
      go_wp2_with fail
      (with_reducible refine HSz.out.mono ?_)
      rintro e w1 ⟨rfl, hw1⟩
      subst w1
      go_wp2
      go_ret
      exact HF.out
    · have HF : Hid (RetLw (.inr l) w (.returned (.iface 91 (.pointer (some ⟨b, 0, none⟩)))) w) := by
        have hbu : BalU 21 (.inr l) (h' + 1) := ⟨b1, b4, h', rfl, hb'⟩
        refine ⟨rfl, 21, .inr l, _, _, h' + 1, rfl, hall, hS', hbu.full true (by show 2 ≤ l.length; omega), Nat.le_refl _, fun M m hm ht => .inr ⟨fun y e => ?_, hm, ht⟩⟩
        injection e with e
        rw [e] at h1
        exact h1 rfl
      have hd1 : decide ((ln : Int) = 1) = false := decide_eq_false (by omega)
      have hi1 : ¬ (ln : Int) = 1 := by omega
      clear hall hx hc hk hcc hb' h0 hln h1
      go_enter Try.func37, Try.ntmps37
      go_wp2_with fail
      (with_reducible refine HSz.out.mono ?_)
      rintro e w1 ⟨rfl, hw1⟩
      subst w1
      go_wp2
      go_ret
      exact HF.out

/-- What TreeDelete hands back, in memory of its own. -/
def RetTd (w : World) (n : Nat) (N : Nat → Tn) (key : ByteArray) (e : Ending) (w' : World) : Prop :=
  Below w.heap.size w w' ∧ ∃ ok a m c M KA DA KC DC, e = .returned (.agg #[.bool ok, .slice a m c]) ∧ GT w' w.heap.size (.slice a m c) m M KA DA KC DC ∧ ((ok = true ∧ DelTo n N key m M) ∨ (ok = false ∧ m = n ∧ M = N ∧ DelNo n N key))

set_option maxHeartbeats 8000000 in
theorem implDel (a : Option Addr) (n c : Nat) (N : Nat → Tn) (key : ByteArray) (w : World) (h : RdTn w a n N) (hn : n ≤ 1048576) (hN : ∀ i, i < n → TnFit (N i)) (hkey : key.size ≤ maxLen) :
    Calls Try.prog 11 #[.agg #[.slice a n c], .string key] w (RetTd w n N key) := by
  have HR : Hid (RdTn w a n N ∧ ∀ i, i < n → TnFit (N i)) := ⟨h, hN⟩
  clear h hN
  have HB0 : Hid (∀ O1 O2 : Obj, Below w.heap.size w ((w.alloc O1).alloc O2)) := fun _ _ => (below_alloc _ _).alloc (by simp) _
  have HRd : Hid (∀ W, Below w.heap.size w W → Calls Try.prog 35 #[.agg #[.slice a n c]] W (RetTreO W n N)) := fun W hW => readTreeO_any a n c N W (HR.out.1.below hW) hn HR.out.2
  go_enter Try.func11, Try.ntmps11
  go_wp2_with fail
  (with_reducible refine (HRd.out _ (HB0.out _ _)).mono ?_)
  rintro e w1 ⟨hb1, v, ok, rfl, hr⟩
  have htb := ((Bx.new w #[.slice a n c] 25).alloc (.cells #[.bool false, .slice none 0 0] 30)).below hb1
  have hrb : Bx w1 (w.heap.size + 1) 30 #[.bool false, .slice none 0 0] := by
    have q := (Bx.new (w.alloc (.cells #[.slice a n c] 25)) #[.bool false, .slice none 0 0] 30).below hb1
    simpa using q
  have HB1 : Hid (Below w.heap.size w w1) := (HB0.out _ _).trans (hb1.mono (by simp; omega))
  have hz1 : w.heap.size + 2 ≤ w1.heap.size := by have := hrb.lt; omega
  have BT1 : Hid (∀ W, Below (w.heap.size + 2) w1 W → Below w.heap.size w W ∧ W.cell? ⟨w.heap.size, 0, none⟩ = some (.slice a n c) ∧ w.heap.size < W.heap.size ∧ Bx W (w.heap.size + 1) 30 #[.bool false, .slice none 0 0]) := fun W hW => ⟨HB1.out.trans (hW.mono (by omega)), by simpa using (htb.below' hW (by omega)).cell 0, (htb.below' hW (by omega)).lt, hrb.below' hW (by omega)⟩
  have HRR : Hid ((ok = true ∧ ∃ (t : Ro n) (t' : Ro 21) (h : Nat), VTt n N t' ∧ keysR 21 t' = keysR n t ∧ BalR n true t h ∧ Tells N 0 n t 0 ∧ nodesR n t = n ∧ TOx (w.heap.size + 2) w1 n t v) ∨ (ok = false ∧ ¬ VT n N)) := by rw [World.size_alloc, World.size_alloc] at hr; exact hr
  clear hr hb1 htb hrb HRd
  cases ok with
  | false =>
    have HNo : Hid (DelNo n N key) := by
      intro t hv
      rcases HRR.out with ⟨q, _⟩ | ⟨_, q⟩
      · cases q
      · exact absurd ⟨t, hv⟩ q
    clear HRR
    have HBQ : Hid (Below w.heap.size w w1) := (BT1.out w1 (Below.refl _ _)).1
    have HBT : Hid (w1.cell? ⟨w.heap.size, 0, none⟩ = some (.slice a n c) ∧ w.heap.size < w1.heap.size ∧ Bx w1 (w.heap.size + 1) 30 #[.bool false, .slice none 0 0]) := (BT1.out w1 (Below.refl _ _)).2
    have HCp : Hid (Calls Try.prog 36 #[.agg #[.slice a n c]] w1 (RetOt w1 n N)) := copyI_any a n c N w1 (HR.out.1.below HBQ.out) hn HR.out.2
    have t0 := HBT.out.1
    have tz := HBT.out.2.1
    go_wp2_with fail
    (with_reducible refine HCp.out.mono ?_)
    rintro e wz ⟨hbz, az, cz, KZ, DZ, KCZ, DCZ, rfl, hrz⟩
    have HZb : Hid (Below w.heap.size w wz ∧ Bx wz (w.heap.size + 1) 30 #[.bool false, .slice none 0 0] ∧ GT wz (w.heap.size + 2) (.slice az n cz) n N KZ DZ KCZ DCZ) := ⟨HBQ.out.trans (hbz.mono HBQ.out.size), HBT.out.2.2.below hbz, hrz.mono (by have := HBT.out.2.2.lt; omega)⟩
    have r0 := HZb.out.2.1.cell 0
    have r1 := HZb.out.2.1.cell 1
    simp at r0 r1
    have rz := HZb.out.2.1.lt
    have rf := fun i => HZb.out.2.1.frozen i
    clear hbz hrz t0 tz
    go_wp2
    refine bodyPost_ret (v := .agg #[.bool false, .slice az n cz]) (by simp [results, Try.results11, go_sem, r0, r1]) rfl ⟨(HZb.out.1.setCell (by simp) _).setCell (by simp) _, false, az, n, cz, N, KZ, DZ, KCZ, DCZ, rfl, ?_, .inr ⟨rfl, rfl, rfl, HNo.out⟩⟩
    exact (HZb.out.2.2.keep (fun x hx => by rw [Below.heap_setCell _ _ _ _ (show x ≠ w.heap.size + 1 by have := (HZb.out.2.2.used hx).1; omega), Below.heap_setCell _ _ _ _ (show x ≠ w.heap.size + 1 by have := (HZb.out.2.2.used hx).1; omega)])).mono (by omega)
  | true =>
    obtain ⟨t, t', hh0, hvt, k1, k2, htl, k3, hox⟩ : ∃ (t : Ro n) (t' : Ro 21) (h : Nat), VTt n N t' ∧ keysR 21 t' = keysR n t ∧ BalR n true t h ∧ Tells N 0 n t 0 ∧ nodesR n t = n ∧ TOx (w.heap.size + 2) w1 n t v := by
      rcases HRR.out with ⟨_, q⟩ | ⟨q, _⟩
      · exact q
      · cases q
    obtain ⟨bs, hnd, how⟩ := hox
    have hsm := smR_of htl hvt.2.2.2.2.2
    have HOw : Hid (TOw (w.heap.size + 2) w1 21 t' v bs ∧ bs.Nodup) := ⟨hsm.tow how, hnd⟩
    have HVT : Hid (VTt n N t') := hvt
    obtain ⟨g1, g2, g3, ⟨hh, g4⟩, g5, g6⟩ := hvt
    have hend := nestR_end g3
    have HF : Hid (nodesR 21 t' ≤ 5000 ∧ BalR 21 true t' hh ∧ Asc (keysR 21 t')) := ⟨by omega, g4, asc_of_ascK g5⟩
    clear HRR htl how hnd hsm k1 k2 k3 g1 g2 g3 g4 g5 g6 hend t hh0
    have hci := remO key 21 t' v bs true hh (w.heap.size + 2) w1 HOw.out.1 HOw.out.2 HF.out.2.1 HF.out.2.2 HF.out.1
    rcases hci with ⟨kb, rfl, hcall⟩ | ⟨kb, rfl, hcall⟩
    · have HC : Hid (Calls Try.prog 109 #[.pointer (some ⟨kb, 0, none⟩), .string key] w1 (RetR key 21 t' (.iface 53 (.pointer (some ⟨kb, 0, none⟩))) bs w1)) := hcall
      clear hcall
      go_wp2_with fail
      (with_reducible refine HC.out.mono ?_)
      rintro e w2 (⟨hm, rfl, hb2⟩ | ⟨hm, rfl, hf2, u, b, hbm, hu, hnd⟩)
      · have HNo : Hid (DelNo n N key) := fun t'' hv q => hm (by rw [← hv.fn HVT.out]; exact q)
        have HB2 : Hid (Below (w.heap.size + 2) w1 w2) := hb2.mono hz1
        clear hm hb2 HC HVT HF HOw
        have HBQ : Hid (Below w.heap.size w w2) := (BT1.out w2 (HB2.out)).1
        have HBT : Hid (w2.cell? ⟨w.heap.size, 0, none⟩ = some (.slice a n c) ∧ w.heap.size < w2.heap.size ∧ Bx w2 (w.heap.size + 1) 30 #[.bool false, .slice none 0 0]) := (BT1.out w2 (HB2.out)).2
        have HCp : Hid (Calls Try.prog 36 #[.agg #[.slice a n c]] w2 (RetOt w2 n N)) := copyI_any a n c N w2 (HR.out.1.below HBQ.out) hn HR.out.2
        have t0 := HBT.out.1
        have tz := HBT.out.2.1
        go_wp2_with fail
        (with_reducible refine HCp.out.mono ?_)
        rintro e wz ⟨hbz, az, cz, KZ, DZ, KCZ, DCZ, rfl, hrz⟩
        have HZb : Hid (Below w.heap.size w wz ∧ Bx wz (w.heap.size + 1) 30 #[.bool false, .slice none 0 0] ∧ GT wz (w.heap.size + 2) (.slice az n cz) n N KZ DZ KCZ DCZ) := ⟨HBQ.out.trans (hbz.mono HBQ.out.size), HBT.out.2.2.below hbz, hrz.mono (by have := HBT.out.2.2.lt; omega)⟩
        have r0 := HZb.out.2.1.cell 0
        have r1 := HZb.out.2.1.cell 1
        simp at r0 r1
        have rz := HZb.out.2.1.lt
        have rf := fun i => HZb.out.2.1.frozen i
        clear hbz hrz t0 tz
        go_wp2
        refine bodyPost_ret (v := .agg #[.bool false, .slice az n cz]) (by simp [results, Try.results11, go_sem, r0, r1]) rfl ⟨(HZb.out.1.setCell (by simp) _).setCell (by simp) _, false, az, n, cz, N, KZ, DZ, KCZ, DCZ, rfl, ?_, .inr ⟨rfl, rfl, rfl, HNo.out⟩⟩
        exact (HZb.out.2.2.keep (fun x hx => by rw [Below.heap_setCell _ _ _ _ (show x ≠ w.heap.size + 1 by have := (HZb.out.2.2.used hx).1; omega), Below.heap_setCell _ _ _ _ (show x ≠ w.heap.size + 1 by have := (HZb.out.2.2.used hx).1; omega)])).mono (by omega)
      · have hlt := HOw.out.1.lt
        have HF2 : Hid (Below (w.heap.size + 2) w1 w2) := hf2.below hz1 (fun x hx => (hlt x hx).1)
        have hbl := hlt b hbm
        have hz2 := hf2.2.2.2.1
        have HGr : Hid (Calls Try.prog 37 #[.iface 53 (.pointer (some ⟨kb, 0, none⟩))] w2 (RetLw u w2)) := lowered_any u _ b hh (fun x => ((x ∈ bs ∧ x ≠ b) ∨ w1.heap.size ≤ x) ∧ x < w2.heap.size) w2 (NdI.keep (Nat.le_refl _) rfl (fun x hx hl => ⟨⟨hx, hl⟩, rfl⟩) hnd) (fun q => by rcases q.1 with q | q; exact q.2 rfl; omega) (fun x hx => hx.2) (by omega) (DelR.bal HF.out.2.1 HF.out.2.2 hu).1
        have HU : Hid (key ∈ keysR 21 t' ∧ DelR key 21 t' u ∧ nodesR 21 u ≤ 5000) := ⟨hm, hu, by have := DelR.nodes HF.out.2.1 HF.out.2.2 hu; have := HF.out.1; omega⟩
        clear hnd hu hm hf2 HC hlt hbm HOw hbl
        go_wp2_with fail
        (with_reducible refine HGr.out.mono ?_)
        rintro e w3 ⟨hw3, D, y, v', S, h3, rfl, hta, hS3, hby, hn6, htM⟩
        subst w3
        have HT : Hid (∀ M m, m = nodesR D y → Tells M 0 D y 0 → DelT m M u) := htM
        have hn7 : nodesR D y ≤ 5000 := by have := HU.out.2.2; omega
        have HTt : Hid (Calls Try.prog 34 #[v'] w2 (RetTt w2 D y)) := tellTree_any D y v' S w2 true h3 hta hby hS3 (by omega)
        obtain ⟨ty, pv, hvf⟩ : ∃ ty pv, v' = .iface ty pv := by
          obtain ⟨bb, _, _, _, q⟩ := hta.count
          rcases q with q | q <;> exact ⟨_, _, q⟩
        subst hvf
        clear hta hS3 hby htM HGr hn6
        go_wp2_with fail
        (with_reducible refine HTt.out.mono ?_)
        rintro e w4 ⟨hb4, a4, c4, M, K4, D4, KC4, DC4, rfl, hg4, htl4⟩
        obtain ⟨m, hm⟩ : ∃ m, m = nodesR D y := ⟨_, rfl⟩
        rw [← hm] at hg4 ⊢
        have hm5 : m ≤ 5000 := by omega
        have HX4 : Hid (Below (w.heap.size + 2) w1 w4 ∧ GT w4 (w.heap.size + 2) (.slice a4 m c4) m M K4 D4 KC4 DC4 ∧ DelT m M u) := ⟨HF2.out.trans (hb4.mono (by have := HF2.out.size; omega)), hg4.mono (by have := HF2.out.size; omega), HT.out M m hm htl4⟩
        clear hb4 hg4 htl4 HTt hm hn7
        have HRB : Hid (Bx w4 (w.heap.size + 1) 30 #[.bool false, .slice none 0 0] ∧ Below w.heap.size w w4) := ⟨(BT1.out w4 HX4.out.1).2.2.2, (BT1.out w4 HX4.out.1).1⟩
        have r0 := HRB.out.1.cell 0
        have r1 := HRB.out.1.cell 1
        simp at r0 r1
        have rz := HRB.out.1.lt
        have rf := fun i => HRB.out.1.frozen i
        go_wp2
        refine bodyPost_ret (v := .agg #[.bool true, .slice a4 m c4]) (by simp [results, Try.results11, go_sem, r0, r1]) rfl ⟨(HRB.out.2.setCell (by simp) _).setCell (by simp) _, true, a4, m, c4, M, K4, D4, KC4, DC4, rfl, ?_, .inl ⟨rfl, t', u, HVT.out, HU.out.1, HU.out.2.1, hm5, HX4.out.2.2⟩⟩
        exact (HX4.out.2.1.keep (fun x hx => by rw [Below.heap_setCell _ _ _ _ (show x ≠ w.heap.size + 1 by have := (HX4.out.2.1.used hx).1; omega), Below.heap_setCell _ _ _ _ (show x ≠ w.heap.size + 1 by have := (HX4.out.2.1.used hx).1; omega)])).mono (by omega)
    · have HC : Hid (Calls Try.prog 126 #[.pointer (some ⟨kb, 0, none⟩), .string key] w1 (RetR key 21 t' (.iface 91 (.pointer (some ⟨kb, 0, none⟩))) bs w1)) := hcall
      clear hcall
      go_wp2_with fail
      (with_reducible refine HC.out.mono ?_)
      rintro e w2 (⟨hm, rfl, hb2⟩ | ⟨hm, rfl, hf2, u, b, hbm, hu, hnd⟩)
      · have HNo : Hid (DelNo n N key) := fun t'' hv q => hm (by rw [← hv.fn HVT.out]; exact q)
        have HB2 : Hid (Below (w.heap.size + 2) w1 w2) := hb2.mono hz1
        clear hm hb2 HC HVT HF HOw
        have HBQ : Hid (Below w.heap.size w w2) := (BT1.out w2 (HB2.out)).1
        have HBT : Hid (w2.cell? ⟨w.heap.size, 0, none⟩ = some (.slice a n c) ∧ w.heap.size < w2.heap.size ∧ Bx w2 (w.heap.size + 1) 30 #[.bool false, .slice none 0 0]) := (BT1.out w2 (HB2.out)).2
        have HCp : Hid (Calls Try.prog 36 #[.agg #[.slice a n c]] w2 (RetOt w2 n N)) := copyI_any a n c N w2 (HR.out.1.below HBQ.out) hn HR.out.2
        have t0 := HBT.out.1
        have tz := HBT.out.2.1
        go_wp2_with fail
        (with_reducible refine HCp.out.mono ?_)
        rintro e wz ⟨hbz, az, cz, KZ, DZ, KCZ, DCZ, rfl, hrz⟩
        have HZb : Hid (Below w.heap.size w wz ∧ Bx wz (w.heap.size + 1) 30 #[.bool false, .slice none 0 0] ∧ GT wz (w.heap.size + 2) (.slice az n cz) n N KZ DZ KCZ DCZ) := ⟨HBQ.out.trans (hbz.mono HBQ.out.size), HBT.out.2.2.below hbz, hrz.mono (by have := HBT.out.2.2.lt; omega)⟩
        have r0 := HZb.out.2.1.cell 0
        have r1 := HZb.out.2.1.cell 1
        simp at r0 r1
        have rz := HZb.out.2.1.lt
        have rf := fun i => HZb.out.2.1.frozen i
        clear hbz hrz t0 tz
        go_wp2
        refine bodyPost_ret (v := .agg #[.bool false, .slice az n cz]) (by simp [results, Try.results11, go_sem, r0, r1]) rfl ⟨(HZb.out.1.setCell (by simp) _).setCell (by simp) _, false, az, n, cz, N, KZ, DZ, KCZ, DCZ, rfl, ?_, .inr ⟨rfl, rfl, rfl, HNo.out⟩⟩
        exact (HZb.out.2.2.keep (fun x hx => by rw [Below.heap_setCell _ _ _ _ (show x ≠ w.heap.size + 1 by have := (HZb.out.2.2.used hx).1; omega), Below.heap_setCell _ _ _ _ (show x ≠ w.heap.size + 1 by have := (HZb.out.2.2.used hx).1; omega)])).mono (by omega)
      · have hlt := HOw.out.1.lt
        have HF2 : Hid (Below (w.heap.size + 2) w1 w2) := hf2.below hz1 (fun x hx => (hlt x hx).1)
        have hbl := hlt b hbm
        have hz2 := hf2.2.2.2.1
        have HGr : Hid (Calls Try.prog 37 #[.iface 91 (.pointer (some ⟨kb, 0, none⟩))] w2 (RetLw u w2)) := lowered_any u _ b hh (fun x => ((x ∈ bs ∧ x ≠ b) ∨ w1.heap.size ≤ x) ∧ x < w2.heap.size) w2 (NdI.keep (Nat.le_refl _) rfl (fun x hx hl => ⟨⟨hx, hl⟩, rfl⟩) hnd) (fun q => by rcases q.1 with q | q; exact q.2 rfl; omega) (fun x hx => hx.2) (by omega) (DelR.bal HF.out.2.1 HF.out.2.2 hu).1
        have HU : Hid (key ∈ keysR 21 t' ∧ DelR key 21 t' u ∧ nodesR 21 u ≤ 5000) := ⟨hm, hu, by have := DelR.nodes HF.out.2.1 HF.out.2.2 hu; have := HF.out.1; omega⟩
        clear hnd hu hm hf2 HC hlt hbm HOw hbl
        go_wp2_with fail
        (with_reducible refine HGr.out.mono ?_)
        rintro e w3 ⟨hw3, D, y, v', S, h3, rfl, hta, hS3, hby, hn6, htM⟩
        subst w3
        have HT : Hid (∀ M m, m = nodesR D y → Tells M 0 D y 0 → DelT m M u) := htM
        have hn7 : nodesR D y ≤ 5000 := by have := HU.out.2.2; omega
        have HTt : Hid (Calls Try.prog 34 #[v'] w2 (RetTt w2 D y)) := tellTree_any D y v' S w2 true h3 hta hby hS3 (by omega)
        obtain ⟨ty, pv, hvf⟩ : ∃ ty pv, v' = .iface ty pv := by
          obtain ⟨bb, _, _, _, q⟩ := hta.count
          rcases q with q | q <;> exact ⟨_, _, q⟩
        subst hvf
        clear hta hS3 hby htM HGr hn6
        go_wp2_with fail
        (with_reducible refine HTt.out.mono ?_)
        rintro e w4 ⟨hb4, a4, c4, M, K4, D4, KC4, DC4, rfl, hg4, htl4⟩
        obtain ⟨m, hm⟩ : ∃ m, m = nodesR D y := ⟨_, rfl⟩
        rw [← hm] at hg4 ⊢
        have hm5 : m ≤ 5000 := by omega
        have HX4 : Hid (Below (w.heap.size + 2) w1 w4 ∧ GT w4 (w.heap.size + 2) (.slice a4 m c4) m M K4 D4 KC4 DC4 ∧ DelT m M u) := ⟨HF2.out.trans (hb4.mono (by have := HF2.out.size; omega)), hg4.mono (by have := HF2.out.size; omega), HT.out M m hm htl4⟩
        clear hb4 hg4 htl4 HTt hm hn7
        have HRB : Hid (Bx w4 (w.heap.size + 1) 30 #[.bool false, .slice none 0 0] ∧ Below w.heap.size w w4) := ⟨(BT1.out w4 HX4.out.1).2.2.2, (BT1.out w4 HX4.out.1).1⟩
        have r0 := HRB.out.1.cell 0
        have r1 := HRB.out.1.cell 1
        simp at r0 r1
        have rz := HRB.out.1.lt
        have rf := fun i => HRB.out.1.frozen i
        go_wp2
        refine bodyPost_ret (v := .agg #[.bool true, .slice a4 m c4]) (by simp [results, Try.results11, go_sem, r0, r1]) rfl ⟨(HRB.out.2.setCell (by simp) _).setCell (by simp) _, true, a4, m, c4, M, K4, D4, KC4, DC4, rfl, ?_, .inl ⟨rfl, t', u, HVT.out, HU.out.1, HU.out.2.1, hm5, HX4.out.2.2⟩⟩
        exact (HX4.out.2.1.keep (fun x hx => by rw [Below.heap_setCell _ _ _ _ (show x ≠ w.heap.size + 1 by have := (HX4.out.2.1.used hx).1; omega), Below.heap_setCell _ _ _ _ (show x ≠ w.heap.size + 1 by have := (HX4.out.2.1.used hx).1; omega)])).mono (by omega)
end Go.Proofs.Ytakemeccigpbaaa

namespace Go.Proofs.Ytakemeccigpbaaa
open Go.RowKit Go.Deep
set_option linter.unusedVariables false

theorem kid_left {d : Nat} {l : List (Ro d)} {key : ByteArray} {i : Nat} (ha : Asc (l.flatMap (keysR d))) (hp : ∀ k (h : k < l.length), 0 < (keysR d l[k]).length) (h : KidIs l key i) : ∀ x, x ∈ (l.take i).flatMap (keysR d) → Op.bytesLess x.toList key.toList = true := by
  intro x hx
  rw [List.mem_flatMap] at hx
  obtain ⟨t, ht, hk⟩ := hx
  obtain ⟨j, hj, rfl⟩ := List.getElem_of_mem ht
  rw [List.length_take] at hj
  rw [List.getElem_take] at hk
  unfold Asc at ha
  rw [List.pairwise_flatMap] at ha
  have q := List.pairwise_iff_getElem.1 ha.2 j i (by omega) h.1 (by omega) x hk _ (gt_mem (hp i h.1))
  exact less_of_lt_le q (h.2.1 h.1 (by omega))
theorem kid_right {d : Nat} {l : List (Ro d)} {key : ByteArray} {i : Nat} (ha : Asc (l.flatMap (keysR d))) (hp : ∀ k (h : k < l.length), 0 < (keysR d l[k]).length) (h : KidIs l key i) : ∀ x, x ∈ (l.drop (i + 1)).flatMap (keysR d) → Op.bytesLess key.toList x.toList = true := by
  intro x hx
  rw [List.mem_flatMap] at hx
  obtain ⟨t, ht, hk⟩ := hx
  obtain ⟨j, hj, rfl⟩ := List.getElem_of_mem ht
  rw [List.length_drop] at hj
  rw [List.getElem_drop] at hk
  have hi1 : i + 1 < l.length := by omega
  have q1 := h.2.2 hi1
  unfold Asc at ha
  rw [List.pairwise_flatMap] at ha
  by_cases e : j = 0
  · subst e
    obtain ⟨m, hm, e2⟩ := List.getElem_of_mem hk
    have eg : gt (keysR d l[i + 1 + 0]) m = x := by
      unfold gt
      rw [List.getD_eq_getElem?_getD, List.getElem?_eq_getElem hm]
      exact e2
    by_cases m0 : m = 0
    · subst m0
      rw [← eg]
      exact q1
    · have q2 := asc_lt (ha.1 _ (List.getElem_mem hi1)) (show 0 < m by omega) hm
      rw [← eg]
      exact less_trans _ _ _ q1 q2
  · have q := List.pairwise_iff_getElem.1 ha.2 (i + 1) (i + 1 + j) hi1 (by omega) (by omega) _ (gt_mem (hp _ hi1)) x hk
    exact less_trans _ _ _ q1 q
theorem kid_three {d : Nat} (l : List (Ro d)) (i : Nat) (hi : i < l.length) : l.flatMap (keysR d) = (l.take i).flatMap (keysR d) ++ (keysR d l[i] ++ (l.drop (i + 1)).flatMap (keysR d)) := by
  have e : l = l.take i ++ l[i] :: l.drop (i + 1) := by rw [List.getElem_cons_drop, List.take_append_drop]
  conv => lhs; rw [e]
  rw [List.flatMap_append, List.flatMap_cons]

theorem cntL_le (key : ByteArray) (A : List ByteArray) : cntL key A ≤ A.length := List.length_filter_le _ _
theorem insK_three {key : ByteArray} {A L C : List ByteArray} (hA : ∀ x, x ∈ A → Op.bytesLess x.toList key.toList = true) (hC : ∀ x, x ∈ C → Op.bytesLess key.toList x.toList = true) : insK key (A ++ (L ++ C)) = A ++ (insK key L ++ C) := by
  unfold insK
  rw [cntL_app, cntL_app, cntL_all hA, cntL_none (fun x hx => less_asym (hC x hx)), Nat.add_zero]
  have hl := cntL_le key L
  rw [List.take_length_add_append, List.drop_length_add_append, List.take_append_of_le_length hl, List.drop_append_of_le_length hl]
  simp
theorem delK_app (key : ByteArray) (A C : List ByteArray) : delK key (A ++ C) = delK key A ++ delK key C := by
  unfold delK
  rw [List.filter_append]
theorem delK_keepl {key : ByteArray} {A : List ByteArray} (hA : ∀ x, x ∈ A → Op.bytesLess x.toList key.toList = true) : delK key A = A := by
  unfold delK
  rw [List.filter_eq_self]
  intro x hx
  have hlt := hA x hx
  have hne : x.toList ≠ key.toList := fun e => by
    rw [e, less_irrefl] at hlt
    cases hlt
  simpa using hne
theorem delK_keepr {key : ByteArray} {A : List ByteArray} (hA : ∀ x, x ∈ A → Op.bytesLess key.toList x.toList = true) : delK key A = A := by
  unfold delK
  rw [List.filter_eq_self]
  intro x hx
  have hlt := hA x hx
  have hne : x.toList ≠ key.toList := fun e => by
    rw [e, less_irrefl] at hlt
    cases hlt
  simpa using hne

theorem spl_flat {T : Type} (L : List T) : (splL L).flatten = L := by
  unfold splL
  split
  · simp
  · simp [List.take_append_drop]
theorem flat_inl {d : Nat} : ∀ (Ls : List (List ByteArray)), List.flatMap (keysR (d + 1)) (Ls.map (Sum.inl : List ByteArray → Ro (d + 1))) = Ls.flatten
  | [] => rfl
  | L :: Ls => by
    show L ++ List.flatMap (keysR (d + 1)) (Ls.map (Sum.inl : List ByteArray → Ro (d + 1))) = L ++ Ls.flatten
    rw [flat_inl Ls]
theorem flat_inr {d : Nat} : ∀ (Ls : List (List (Ro d))), List.flatMap (keysR (d + 1)) (Ls.map (Sum.inr : List (Ro d) → Ro (d + 1))) = Ls.flatten.flatMap (keysR d)
  | [] => rfl
  | L :: Ls => by
    show L.flatMap (keysR d) ++ List.flatMap (keysR (d + 1)) (Ls.map (Sum.inr : List (Ro d) → Ro (d + 1))) = (L ++ Ls.flatten).flatMap (keysR d)
    rw [flat_inr Ls, List.flatMap_append]

/-- The keys of it: the key put in its place. -/
theorem InsR.keys {key : ByteArray} : ∀ {d : Nat} {t : Ro d} {root : Bool} {h : Nat} {r : List (Ro d)}, BalR d root t h → Asc (keysR d t) → InsR key d t r → r.flatMap (keysR d) = insK key (keysR d t)
  | 0, t, _, _, _, _, _, _ => t.elim
  | d + 1, .inl ks, root, h, r, hb, ha, h1 => by
    rw [InsR_inl] at h1
    subst h1
    refine (flat_inl (d := d) (splL (insK key ks))).trans ?_
    rw [spl_flat]
    rfl
  | d + 1, .inr l, root, h, r, hb, ha, h1 => by
    obtain ⟨_, _, h', _, hall⟩ := hb
    rw [InsR_inr] at h1
    obtain ⟨i, k1, hi, s, e1, rfl⟩ := h1
    have ha' : Asc (l.flatMap (keysR d)) := ha
    have hp : ∀ k (h : k < l.length), 0 < (keysR d l[k]).length := fun k hk => bal_keys (hall _ (List.getElem_mem hk))
    have q := InsR.keys (hall _ (List.getElem_mem hi)) (asc_kid ha' i hi) e1
    refine (flat_inr (d := d) (splL (l.take i ++ s ++ l.drop (i + 1)))).trans ?_
    rw [spl_flat, List.flatMap_append, List.flatMap_append, q]
    show _ = insK key (l.flatMap (keysR d))
    rw [kid_three l i hi, insK_three (kid_left ha' hp k1) (kid_right ha' hp k1), List.append_assoc]

theorem joinD_keys : ∀ {d : Nat} {t u : Ro d} {h : Nat}, BalU d t h → BalU d u h → keysR d (joinD t u) = keysR d t ++ keysR d u
  | 0, t, _, _, _, _ => t.elim
  | d + 1, .inl L, .inl M, h, _, _ => rfl
  | d + 1, .inr l, .inr m, h, _, _ => by
    show (l ++ m).flatMap (keysR d) = l.flatMap (keysR d) ++ m.flatMap (keysR d)
    rw [List.flatMap_append]
  | d + 1, .inl L, .inr m, h, hb, hc => by
    obtain ⟨_, _, h2, e2, _⟩ := hc
    have := hb.1
    omega
  | d + 1, .inr l, .inl M, h, hb, hc => by
    obtain ⟨_, _, h2, e2, _⟩ := hb
    have := hc.1
    omega
theorem cutD_keys : ∀ {d : Nat} {t : Ro d} (k : Nat), k ≤ sizD t → keysR d (cutD 0 k t) ++ keysR d (cutD k (sizD t) t) = keysR d t
  | 0, t, _, _ => t.elim
  | d + 1, .inl L, k, hk => by
    show (L.take k).drop 0 ++ (L.take L.length).drop k = L
    rw [List.drop_zero, List.take_length, List.take_append_drop]
  | d + 1, .inr l, k, hk => by
    show ((l.take k).drop 0).flatMap (keysR d) ++ ((l.take l.length).drop k).flatMap (keysR d) = l.flatMap (keysR d)
    rw [List.drop_zero, List.take_length, ← List.flatMap_append, List.take_append_drop]
theorem two_split {T : Type} (l : List T) (m : Nat) (u v : T) (hm : 1 ≤ m) (hu : l[m - 1]? = some u) (hv : l[m]? = some v) : l = l.take (m - 1) ++ u :: v :: l.drop (m + 1) := by
  have hl := (List.getElem?_eq_some_iff.1 hv).1
  have e1 : l.drop m = v :: l.drop (m + 1) := by
    rw [List.drop_eq_getElem_cons hl]
    have := (List.getElem?_eq_some_iff.1 hv).2
    rw [this]
  have e2 : l.drop (m - 1) = u :: l.drop m := by
    rw [List.drop_eq_getElem_cons (show m - 1 < l.length by omega)]
    have := (List.getElem?_eq_some_iff.1 hu).2
    rw [this, show m - 1 + 1 = m by omega]
  rw [← e1, ← e2, List.take_append_drop]
theorem set_two {T : Type} (l : List T) (m : Nat) (u v a b : T) (hm : 1 ≤ m) (hu : l[m - 1]? = some u) (hv : l[m]? = some v) : (l.set m b).set (m - 1) a = l.take (m - 1) ++ a :: b :: l.drop (m + 1) := by
  have hl := (List.getElem?_eq_some_iff.1 hv).1
  have h1 := two_split ((l.set m b).set (m - 1) a) m a b hm (by rw [List.getElem?_set_self (by rw [List.length_set]; omega)]) (by rw [List.getElem?_set_ne (by omega), List.getElem?_set_self hl])
  rw [List.take_set_of_le (by omega), List.take_set_of_le (by omega), List.drop_set_of_lt (by omega), List.drop_set_of_lt (by omega)] at h1
  exact h1

theorem fixD_keys {d : Nat} {l : List (Ro d)} {i h : Nat} {y : Ro d} (hi : i < l.length) (hy : l[i]? = some y) (hU : BalU d y h) (h1 : 1 ≤ sizD y) (hall : ∀ j t, l[j]? = some t → j ≠ i → BalR d false t h) (h2 : 2 ≤ l.length) :
    (fixD l i).flatMap (keysR d) = l.flatMap (keysR d) := by
  by_cases hf : 2 ≤ sizD y
  · rw [fixD_full hy hf]
  · by_cases hl : 0 < i ∧ 2 < sizO l[i - 1]?
    · obtain ⟨hi0, hz3⟩ := hl
      have hz : l[i - 1]? = some (l[i - 1]'(by omega)) := List.getElem?_eq_getElem (by omega)
      generalize l[i - 1]'(by omega) = z at hz
      rw [hz] at hz3
      have hz3' : 2 < sizD z := hz3
      rw [fixD_left hy hf hi0 hz hz3']
      have hzU := BalU.of (hall (i - 1) z hz (by omega))
      have c1 := hzU.cut (lo := sizD z - 1) (hi := sizD z) (by omega) (Nat.le_refl _)
      have n1 := joinD_keys c1.1 hU
      have n2 := cutD_keys (t := z) (sizD z - 1) (by omega)
      rw [set_two l i z y _ _ hi0 hz hy]
      conv => rhs; rw [two_split l i z y hi0 hz hy]
      simp only [List.flatMap_append, List.flatMap_cons]
      rw [n1, ← n2]
      simp
    · by_cases hr : 2 < sizO l[i + 1]?
      · have hlt : i + 1 < l.length := by
          by_cases q : i + 1 < l.length
          · exact q
          · rw [List.getElem?_eq_none (by omega)] at hr
            exact absurd hr (by simp [sizO])
        have hz : l[i + 1]? = some l[i + 1] := List.getElem?_eq_getElem hlt
        generalize l[i + 1] = z at hz
        rw [hz] at hr
        have hz3' : 2 < sizD z := hr
        rw [fixD_right hy hf hl hz hz3']
        have hzU := BalU.of (hall (i + 1) z hz (by omega))
        have c1 := hzU.cut (lo := 0) (hi := 1) (by omega) (by omega)
        have n1 := joinD_keys hU c1.1
        have n2 := cutD_keys (t := z) 1 (by omega)
        have e := set_two l (i + 1) y z (joinD y (cutD 0 1 z)) (cutD 1 (sizD z) z) (by omega) (by simpa using hy) hz
        rw [Nat.add_sub_cancel] at e
        have ec : (l.set i (joinD y (cutD 0 1 z))).set (i + 1) (cutD 1 (sizD z) z) = (l.set (i + 1) (cutD 1 (sizD z) z)).set i (joinD y (cutD 0 1 z)) := List.set_comm _ _ (by omega)
        rw [ec, e]
        conv => rhs; rw [two_split l (i + 1) y z (by omega) (by simpa using hy) hz]
        simp only [List.flatMap_append, List.flatMap_cons, Nat.add_sub_cancel]
        rw [n1, ← n2]
        simp
      · obtain ⟨m, hm⟩ : ∃ m, m = max i 1 := ⟨_, rfl⟩
        have hm1 : 1 ≤ m ∧ m < l.length ∧ (m = i ∨ (i = 0 ∧ m = 1)) := by omega
        have hu : l[m - 1]? = some (l[m - 1]'(by omega)) := List.getElem?_eq_getElem (by omega)
        have hv : l[m]? = some (l[m]'(by omega)) := List.getElem?_eq_getElem (by omega)
        generalize l[m - 1]'(by omega) = u at hu
        generalize l[m]'(by omega) = v at hv
        rw [fixD_join hy hf hl hr (u := u) (v := v) (by rw [← hm]; exact hu) (by rw [← hm]; exact hv), ← hm]
        have huv : BalU d u h ∧ BalU d v h := by
          rcases hm1.2.2 with e | ⟨e1, e2⟩
          · subst e
            rw [hv] at hy
            injection hy with hy
            subst hy
            exact ⟨BalU.of (hall (m - 1) u hu (by omega)), hU⟩
          · subst e1 e2
            rw [hu] at hy
            injection hy with hy
            subst hy
            exact ⟨hU, BalU.of (hall 1 v hv (by omega))⟩
        have n1 := joinD_keys huv.1 huv.2
        conv => rhs; rw [two_split l m u v hm1.1 hu hv]
        simp only [List.flatMap_append, List.flatMap_cons]
        rw [n1]
        simp

/-- The keys of it: the key taken out. -/
theorem DelR.keysD {key : ByteArray} : ∀ {d : Nat} {t : Ro d} {root : Bool} {h : Nat} {r : Ro d}, BalR d root t h → Asc (keysR d t) → DelR key d t r → keysR d r = delK key (keysR d t)
  | 0, t, _, _, _, _, _, _ => t.elim
  | d + 1, .inl ks, root, h, r, hb, ha, h1 => by
    rw [DelR_inl] at h1
    subst h1
    rfl
  | d + 1, .inr l, root, h, r, hb, ha, h1 => by
    obtain ⟨h2, h4, h', rfl, hall⟩ := hb
    rw [DelR_inr] at h1
    obtain ⟨i, k1, hi, y, e1, rfl⟩ := h1
    have ha' : Asc (l.flatMap (keysR d)) := ha
    have hli := hall _ (List.getElem_mem hi)
    have hp : ∀ k (h : k < l.length), 0 < (keysR d l[k]).length := fun k hk => bal_keys (hall _ (List.getElem_mem hk))
    have q := DelR.bal hli (asc_kid ha' i hi) e1
    have q2 := hli.siz
    have q3 := DelR.keysD hli (asc_kid ha' i hi) e1
    have f := fixD_keys (l := l.set i y) (i := i) (h := h') (y := y) (by simpa using hi) (by simp [hi]) q.1 (by omega) (fun j t ht hj => by
      rw [List.getElem?_set_ne (by omega)] at ht
      exact hall t (List.mem_of_getElem? ht)) (by simpa using h2)
    show (fixD (l.set i y) i).flatMap (keysR d) = delK key (l.flatMap (keysR d))
    rw [f, kid_three l i hi, delK_app, delK_app, delK_keepl (kid_left ha' hp k1), delK_keepr (kid_right ha' hp k1), ← q3]
    have e := kid_three (l.set i y) i (by simpa using hi)
    rw [List.getElem_set_self, List.take_set_of_le (Nat.le_refl _), List.drop_set_of_lt (by omega)] at e
    exact e

theorem flat_nodes {d : Nat} : ∀ l : List (Ro d), (∀ t, t ∈ l → nodesR d t + 1 ≤ (keysR d t).length) → (l.map (nodesR d)).sum + l.length ≤ (l.flatMap (keysR d)).length
  | [], _ => by simp
  | t :: l, h => by
    have h1 := h t (by simp)
    have h2 := flat_nodes l (fun t' ht => h t' (by simp [ht]))
    rw [List.map_cons, List.sum_cons, List.flatMap_cons, List.length_append, List.length_cons]
    omega
theorem BalR.few : ∀ {d : Nat} {t : Ro d} {h : Nat}, BalR d false t h → nodesR d t + 1 ≤ (keysR d t).length
  | 0, t, _, _ => t.elim
  | d + 1, .inl L, h, hb => by
    obtain ⟨_, _, q⟩ := hb
    rcases q with q | q
    · cases q
    · exact q
  | d + 1, .inr l, h, hb => by
    obtain ⟨h2, _, h', _, hall⟩ := hb
    have := flat_nodes l (fun t ht => BalR.few (hall t ht))
    show (1 + (l.map (nodesR d)).sum) + 1 ≤ (l.flatMap (keysR d)).length
    omega
theorem BalR.few' : ∀ {d : Nat} {t : Ro d} {root : Bool} {h : Nat}, BalR d root t h → nodesR d t ≤ (keysR d t).length + 1
  | 0, t, _, _, _ => t.elim
  | d + 1, .inl L, root, h, hb => by
    show 1 ≤ L.length + 1
    omega
  | d + 1, .inr l, root, h, hb => by
    obtain ⟨h2, _, h', _, hall⟩ := hb
    have := flat_nodes l (fun t ht => BalR.few (hall t ht))
    show (1 + (l.map (nodesR d)).sum) ≤ (l.flatMap (keysR d)).length + 1
    omega

theorem ascK_of {L : List ByteArray} (ha : Asc L) (hs : ∀ x, x ∈ L → x.size ≤ 16) : AscK L L.length := by
  intro i hi
  refine ⟨hs _ (gt_mem hi), fun h0 => ?_⟩
  exact asc_lt ha (by omega) hi
/-- A row that tells a balanced tree is a valid tree. -/
theorem vt_of_tells {M : Nat → Tn} {m D hh : Nat} {y : Ro D} (hm : m = nodesR D y) (h5 : m ≤ 5000) (ht : Tells M 0 D y 0) (hb : BalR D true y hh) (ha : Asc (keysR D y)) (hs : ∀ x, x ∈ keysR D y → x.size ≤ 16) : ∃ t', VTt m M t' ∧ keysR 21 t' = keysR D y := by
  have hlow := hb.low (by omega)
  obtain ⟨t', q1, q2, q3, q4, q5⟩ := tells_nest (n := m) (d' := 21) ht (by omega) hb (by omega)
  rw [← hm] at q1
  have hp := nodes_pos D y
  refine ⟨t', ⟨by omega, h5, by simpa using q1, ⟨hh, q4⟩, ?_, q5⟩, q2⟩
  rw [q2]
  exact ascK_of ha hs
end Go.Proofs.Ytakemeccigpbaaa

namespace Go.Proofs.Ytakemeccigpbaaa
open Go.RowKit Go.Deep
set_option linter.unusedVariables false
set_option maxRecDepth 100000

set_option maxHeartbeats 1000000 in
theorem lwAt_any (a : Option Addr) (n c i : Nat) (f : Nat → Int) (w : World) (h : Rd .u8 w a n f) (hf : ∀ i, i < n → 0 ≤ f i ∧ f i < 256) (hn : n ≤ 1048576) (hi : i ≤ 1000) :
    Calls Try.prog 10 #[.slice a n c, .int .i64 i] w fun e w' => ∃ v : Int, e = .returned (.int .i64 v) ∧ (0 ≤ v ∧ v < 256) ∧ w' = w := by
  by_cases hlt : i < n
  · rcases h with h0 | ⟨b, o, rfl, hc⟩
    · omega
    have hci := hc i hlt
    have hr := hf i hlt
    clear hc hf
    go_enter Try.func10, Try.ntmps10
    go_wp2
    go_ret
    exact ⟨_, rfl, by omega, rfl⟩
  · clear h hf
    go_enter Try.func10, Try.ntmps10
    go_wp2
    go_ret
    exact ⟨_, rfl, by omega, rfl⟩

theorem RdV.str {w : World} {a : Option Addr} {n : Nat} {L : List ByteArray} (h : RdV w a n (strL L)) (i : Nat) (hi : i < n) : ∃ b o, a = some ⟨b, o, none⟩ ∧ w.cell? ⟨b, o + i, none⟩ = some (.string (gt L i)) := by
  have hl := h.1
  rw [strL_length] at hl
  rcases h.2.2 with q | ⟨b, o, rfl, _, hc⟩
  · omega
  · exact ⟨b, o, rfl, hc i _ (strL_get L i (by omega))⟩

set_option maxHeartbeats 2000000 in
theorem lwHas_any (a : Option Addr) (n c : Nat) (L : List ByteArray) (key : ByteArray) (w : World) (h : RdV w a n (strL L)) (hn2 : n ≤ 1048576) :
    Calls Try.prog 12 #[.slice a n c, .string key] w fun e w' => ∃ b : Bool, e = .returned (.bool b) ∧ (b = true ↔ key ∈ L) ∧ w' = w := by
  have HR : Hid (RdV w a n (strL L) ∧ n = L.length) := ⟨h, by have := h.1; rw [strL_length] at this; exact this.symm⟩
  clear h
  go_enter Try.func12, Try.ntmps12
  go_wp2
  go_loopw [5] (fun i wr => ∃ k : Nat, k ≤ n ∧ i = .int .i64 k ∧ (∀ j, j < k → gt L j ≠ key) ∧ wr = w) (fun i _ => n - (intOf i).toNat)
  case atStart => exact ⟨0, Nat.zero_le _, rfl, fun j hj => absurd hj (Nat.not_lt_zero _), rfl⟩
  case round =>
    obtain ⟨k, hk, rfl, hall, rfl⟩ := hrel
    have HS : Hid (∀ j, j < k → gt L j ≠ key) := hall
    by_cases hlt : k < n
    · obtain ⟨b, o, rfl, s1⟩ := HR.out.1.str k hlt
      have i0 : (0 : Int) ≤ (k : Int) := by omega
      have i1 : (k : Int) < (n : Int) := by omega
      clear hall
      by_cases he : gt L k = key
      · have HY : Hid (key ∈ L) := by
          show key ∈ L
          rw [← he]
          exact gt_mem (by rw [← HR.out.2]; exact hlt)
        rw [he] at s1
        have hq : (key.toList == key.toList) = true := by simp
        go_wp2
        go_ret
        exact ⟨true, rfl, by simp [HY.out], rfl⟩
      · have hq : ((gt L k).toList == key.toList) = false := by
          rw [beq_eq_false_iff_ne]
          intro e
          exact he (str_inj e)
        have HN : Hid (∀ j, j < k + 1 → gt L j ≠ key) := fun j hj => by
          by_cases e : j = k
          · subst e; exact he
          · exact HS.out j (by omega)
        clear he
        go_wp2
        go_roundw
        case rel => exact ⟨k + 1, by omega, by go_num, HN.out, by first | rfl | trivial⟩
        case measure => simp [intOf]; omega
    · obtain rfl : k = n := by omega
      have HN : Hid (key ∉ L) := fun hm => by
        obtain ⟨j, hj, e⟩ := List.getElem_of_mem hm
        refine HS.out j (by rw [HR.out.2]; exact hj) ?_
        unfold gt
        rw [List.getD_eq_getElem?_getD, List.getElem?_eq_getElem hj]
        exact e
      clear hall
      go_wp2
      go_ret
      exact ⟨false, rfl, by simp [HN.out], rfl⟩

/-- What lwPut hands back. -/
def RetPut (a0 : Option Addr) (L : List ByteArray) (key : ByteArray) (w : World) (e : Ending) (w' : World) : Prop :=
  ∃ (a : Option Addr) (c : Nat) (L' : List ByteArray), e = .returned (.slice a L'.length c) ∧ RdV w' a L'.length (strL L') ∧ (L'.length ≤ c ∧ c ≤ 9223372036854775807) ∧ Below w.heap.size w w' ∧ ((key ∈ L ∧ L' = L ∧ a = a0) ∨ (key ∉ L ∧ L' = insK key L ∧ ∀ b o, a = some ⟨b, o, none⟩ → w.heap.size ≤ b))

theorem RdV.up {w : World} {a : Option Addr} {n : Nat} {xs : List Value} (h : RdV w a n xs) (k : Nat) (hk : k ≤ n) : RdV w a k (xs.take k) := by
  refine ⟨by rw [List.length_take, h.1]; omega, fun u hu => h.2.1 u (List.mem_of_mem_take hu), ?_⟩
  rcases h.2.2 with q | ⟨b, o, rfl, hl, hc⟩
  · exact .inl (by omega)
  · refine .inr ⟨b, o, rfl, hl, fun j u hj => hc j u ?_⟩
    rw [List.getElem?_take] at hj
    split at hj
    · exact hj
    · cases hj
theorem RdV.dn {w : World} {a : Option Addr} {n c : Nat} {xs : List Value} (h : RdV w a n xs) (k : Nat) (hk : k ≤ n) (hn : n ≤ c) : RdV w (if c = k then a else a.map fun x => x.add k) (n - k) (xs.drop k) := by
  refine ⟨by rw [List.length_drop, h.1], fun u hu => h.2.1 u (List.mem_of_mem_drop hu), ?_⟩
  by_cases e : n = k
  · exact .inl (by omega)
  · rcases h.2.2 with q | ⟨b, o, rfl, hl, hc⟩
    · omega
    · rw [if_neg (by omega)]
      refine .inr ⟨b, o + k, ?_, hl, fun j u hj => ?_⟩
      · show some (Addr.add ⟨b, o, none⟩ k) = _
        rw [addr_add]
      · rw [List.getElem?_drop] at hj
        rw [Nat.add_assoc]
        exact hc (k + j) u hj
theorem own_rdv {w : World} {B : Nat} {a : Option Addr} {n c : Nat} {L : List ByteArray} (h : w.ownsRow B 9 1 (.slice a n c) n (strL L)) : RdV w a n (strL L) := by
  refine ⟨by have := h.1; omega, strL_one L, ?_⟩
  obtain ⟨a', c', e, hf⟩ := own_form h
  injection e with e
  subst e
  by_cases h0 : n = 0
  · exact .inl h0
  · obtain ⟨g, rfl, _, hl, hc⟩ := hf h0
    exact .inr ⟨g, 0, rfl, hl, fun j u hj => by rw [Nat.zero_add]; exact hc j u hj⟩

set_option maxHeartbeats 4000000 in
theorem lwPut_any (a : Option Addr) (n c : Nat) (L : List ByteArray) (key : ByteArray) (w : World) (h : RdV w a n (strL L)) (hn2 : n ≤ 1000) (hcap : n ≤ c ∧ c ≤ 9223372036854775807) (ha : Asc L) :
    Calls Try.prog 14 #[.slice a n c, .string key] w (RetPut a L key w) := by
  have hnl : n = L.length := by have := h.1; rw [strL_length] at this; exact this.symm
  have HR : Hid (RdV w a n (strL L) ∧ n = L.length ∧ Asc L) := ⟨h, hnl, ha⟩
  have HH : Hid (Calls Try.prog 12 #[.slice a n c, .string key] w fun e w' => ∃ b : Bool, e = .returned (.bool b) ∧ (b = true ↔ key ∈ L) ∧ w' = w) := lwHas_any a n c L key w h (by omega)
  clear h ha hnl
  go_enter Try.func14, Try.ntmps14
  go_wp2_with fail
  (with_reducible refine HH.out.mono ?_)
  rintro e w1 ⟨bb, rfl, hbb, hw1⟩
  subst w1
  have HBB : Hid (bb = true ↔ key ∈ L) := hbb
  clear hbb HH
  cases bb with
  | true =>
    have HF : Hid (RetPut a L key w (.returned (.slice a n c)) w) := ⟨a, c, L, by rw [HR.out.2.1], by rw [← HR.out.2.1]; exact HR.out.1, by rw [← HR.out.2.1]; exact hcap, Below.refl _ _, .inl ⟨HBB.out.1 rfl, rfl, rfl⟩⟩
    go_wp2
    go_ret
    exact HF.out
  | false =>
    have HN : Hid (key ∉ L) := fun q => by have q2 : false = true := HBB.out.2 q; cases q2
    clear HBB
    go_wp2
    go_loopw [5] (fun i wr => ∃ k : Nat, k ≤ n ∧ i = .int .i64 k ∧ (∀ j, j < k → Op.bytesLess (gt L j).toList key.toList = true) ∧ wr = w) (fun i _ => n - (intOf i).toNat)
    case atStart => exact ⟨0, Nat.zero_le _, rfl, fun j hj => absurd hj (Nat.not_lt_zero _), rfl⟩
    case round =>
      obtain ⟨k, hk, rfl, hall, rfl⟩ := hrel
      have HS : Hid (∀ j, j < k → Op.bytesLess (gt L j).toList key.toList = true) := hall
      clear hall
      have i0 : (0 : Int) ≤ (k : Int) := by omega
      by_cases hgo : k < n ∧ Op.bytesLess (gt L k).toList key.toList = true
      · obtain ⟨hlt, hls⟩ := hgo
        obtain ⟨b, o, rfl, s1⟩ := HR.out.1.str k hlt
        have i1 : (k : Int) < (n : Int) := by omega
        have HN2 : Hid (∀ j, j < k + 1 → Op.bytesLess (gt L j).toList key.toList = true) := fun j hj => by
          by_cases e : j = k
          · subst e; exact hls
          · exact HS.out j (by omega)
        go_wp2
        go_roundw
        case rel => exact ⟨k + 1, by omega, by go_num, HN2.out, by first | rfl | trivial⟩
        case measure => simp [intOf]; omega
      · have HK : Hid (cntL key L = k) := by
          refine cntL_at (by rw [← HR.out.2.1]; exact hk) HS.out (fun j hj1 hj2 => ?_)
          by_cases hlt : k < n
          · have q : Op.bytesLess (gt L k).toList key.toList = false := by
              by_cases q : Op.bytesLess (gt L k).toList key.toList = true
              · exact absurd ⟨hlt, q⟩ hgo
              · simpa using q
            by_cases e : j = k
            · subst e; exact q
            · by_cases q2 : Op.bytesLess (gt L j).toList key.toList = true
              · rw [less_trans _ _ _ (asc_lt HR.out.2.2 (show k < j by omega) hj2) q2] at q
                cases q
              · simpa using q2
          · have := HR.out.2.1
            omega
        have HO : Hid ((wr.alloc (.cells #[] 9)).ownsRow wr.heap.size 9 1 (.slice (some ⟨wr.heap.size, 0, none⟩) 0 0) 0 []) := own_empty wr 9 wr.heap.size 1 (Nat.le_refl _)
        have hs1 : ∀ W : World, (Instr.sliceAt 27 (.slice a n c) none (some (.int .i64 (k : Int))) none).run Try.prog W = .ok (.slice a k c) W := fun W => by
          have h1 : k ≤ c := by omega
          simp [Instr.sliceAt, Instr.slice, go_sem, h1]
        have HP1 : Hid (RdV (wr.alloc (.cells #[] 9)) a k ((strL L).take k)) := (HR.out.1.up k hk).below (below_alloc _ _)
        have hlast : ∀ W : World, (Instr.sliceAt 27 (.slice a n c) (some (.int .i64 (k : Int))) none none).run Try.prog W = .ok (.slice (if c = k then a else a.map fun x => x.add k) (n - k) (c - k)) W := fun W => fromS a n c k hk hcap.1 W
        obtain ⟨ra, hra⟩ : ∃ ra, ra = (if c = k then a else a.map fun x => x.add k) := ⟨_, rfl⟩
        rw [← hra] at hlast
        have HP3 : Hid (RdV wr ra (n - k) ((strL L).drop k)) := by rw [hra]; exact HR.out.1.dn k hk hcap.1
        clear hra
        rcases Nat.lt_or_ge k n with hlt | hge
        · have hls : Op.bytesLess (gt L k).toList key.toList = false := by
            by_cases q : Op.bytesLess (gt L k).toList key.toList = true
            · exact absurd ⟨hlt, q⟩ hgo
            · simpa using q
          obtain ⟨b, o, ea, s1⟩ := HR.out.1.str k hlt
          subst ea
          have i1 : (k : Int) < (n : Int) := by omega
          clear hgo
          go_wp2_with (at_builtin; refine wpList_append_vS rfl _ _ rfl wr.heap.size (.slice (some ⟨wr.heap.size, 0, none⟩) 0 0) 0 [] rfl HO.out _ k c ((strL L).take k) rfl HP1.out (by omega) (by simp) ?_)
          intro v3 w3 ho3 hg3
          obtain ⟨a3, c3, e3, _⟩ := own_form ho3
          subst e3
          have hb3 : Below wr.heap.size wr w3 := (below_alloc _ _).grown hg3 (by simp) (fun g e => by simp [Value.ownBlock] at e; omega)
          have H3 : Hid (w3.ownsRow wr.heap.size 9 1 (.slice a3 k c3) k ((strL L).take k) ∧ Below wr.heap.size wr w3) := ⟨by simpa using ho3, hb3⟩
          have hz3 := hb3.size
          have HO3 : Hid ((w3.alloc (.cells #[.string key] 9)).ownsRow wr.heap.size 9 1 (.slice a3 k c3) k ((strL L).take k) ∧ RdV (w3.alloc (.cells #[.string key] 9)) (some ⟨w3.heap.size, 0, none⟩) 1 (strL [key])) := by
            refine ⟨own_below H3.out.1 (below_alloc _ _), rfl, strL_one _, .inr ⟨w3.heap.size, 0, rfl, by simp, fun j u hj => ?_⟩⟩
            rw [Nat.zero_add, (Bx.new w3 #[.string key] 9).cell j]
            simpa [strL] using hj
          clear ho3 hg3 hb3 HO HP1 hs1
          go_wp2_with (at_builtin; refine wpList_append_vS rfl _ _ rfl wr.heap.size (.slice a3 k c3) k _ rfl HO3.out.1 _ 1 1 (strL [key]) rfl HO3.out.2 (by omega) (by simp; omega) ?_)
          intro v4 w4 ho4 hg4
          obtain ⟨a4, c4, e4, _⟩ := own_form ho4
          subst e4
          have hb4 : Below wr.heap.size wr w4 := (H3.out.2.alloc hz3 _).grown hg4 (by simp; omega) (fun g e => (own_lt HO3.out.1 g e).1)
          have hz4 := hb4.size
          have H4 : Hid (w4.ownsRow wr.heap.size 9 1 (.slice a4 (k + 1) c4) (k + 1) ((strL L).take k ++ strL [key]) ∧ Below wr.heap.size wr w4 ∧ RdV w4 ra (n - k) ((strL L).drop k)) := ⟨ho4, hb4, HP3.out.below hb4⟩
          clear ho4 hg4 hb4 H3 HO3 HP3
          go_wp2_with (at_builtin; refine wpList_append_vS rfl _ _ rfl wr.heap.size (.slice a4 (k + 1) c4) (k + 1) _ rfl H4.out.1 ra (n - k) (c - k) _ rfl H4.out.2.2 (by omega) hz4 ?_)
          intro v5 w5 ho5 hg5
          obtain ⟨a5, c5, e5, _⟩ := own_form ho5
          subst e5
          have HF : Hid (RetPut (some ⟨b, o, none⟩) L key wr (.returned (.slice a5 (k + 1 + (n - k)) c5)) w5) := by
            have hb5 : Below wr.heap.size wr w5 := H4.out.2.1.grown hg5 hz4 (fun g e => (own_lt H4.out.1 g e).1)
            have hl : (insK key L).length = k + 1 + (n - k) := by rw [insK_length, ← HR.out.2.1]; omega
            have he : (strL L).take k ++ (strL [key] ++ (strL L).drop k) = strL (insK key L) := by
              rw [strL_take, strL_drop, ← strL_app, ← strL_app]
              unfold insK
              rw [HK.out]
              rfl
            rw [he] at ho5
            refine ⟨a5, c5, insK key L, by rw [hl], ?_, by rw [hl]; exact own_cap ho5, hb5, .inr ⟨HN.out, rfl, fun b o e => ?_⟩⟩
            · rw [hl]
              exact own_rdv ho5
            · obtain ⟨a6, c6, e6, hf6⟩ := own_form ho5
              injection e6 with e6
              obtain ⟨g6, e7, hg6, _⟩ := hf6 (by omega)
              rw [e6, e7] at e
              injection e with e
              injection e with e
              omega
          clear ho5 hg5 H4
          go_wp2
          go_ret
          exact HF.out
        · have i1 : ¬ (k : Int) < (n : Int) := by omega
          have i1d : decide ((k : Int) < (n : Int)) = false := decide_eq_false i1
          clear hgo
          go_wp2_with (at_builtin; refine wpList_append_vS rfl _ _ rfl wr.heap.size (.slice (some ⟨wr.heap.size, 0, none⟩) 0 0) 0 [] rfl HO.out _ k c ((strL L).take k) rfl HP1.out (by omega) (by simp) ?_)
          intro v3 w3 ho3 hg3
          clear i1 i1d hge
          obtain ⟨a3, c3, e3, _⟩ := own_form ho3
          subst e3
          have hb3 : Below wr.heap.size wr w3 := (below_alloc _ _).grown hg3 (by simp) (fun g e => by simp [Value.ownBlock] at e; omega)
          have H3 : Hid (w3.ownsRow wr.heap.size 9 1 (.slice a3 k c3) k ((strL L).take k) ∧ Below wr.heap.size wr w3) := ⟨by simpa using ho3, hb3⟩
          have hz3 := hb3.size
          have HO3 : Hid ((w3.alloc (.cells #[.string key] 9)).ownsRow wr.heap.size 9 1 (.slice a3 k c3) k ((strL L).take k) ∧ RdV (w3.alloc (.cells #[.string key] 9)) (some ⟨w3.heap.size, 0, none⟩) 1 (strL [key])) := by
            refine ⟨own_below H3.out.1 (below_alloc _ _), rfl, strL_one _, .inr ⟨w3.heap.size, 0, rfl, by simp, fun j u hj => ?_⟩⟩
            rw [Nat.zero_add, (Bx.new w3 #[.string key] 9).cell j]
            simpa [strL] using hj
          clear ho3 hg3 hb3 HO HP1 hs1
          go_wp2_with (at_builtin; refine wpList_append_vS rfl _ _ rfl wr.heap.size (.slice a3 k c3) k _ rfl HO3.out.1 _ 1 1 (strL [key]) rfl HO3.out.2 (by omega) (by simp; omega) ?_)
          intro v4 w4 ho4 hg4
          obtain ⟨a4, c4, e4, _⟩ := own_form ho4
          subst e4
          have hb4 : Below wr.heap.size wr w4 := (H3.out.2.alloc hz3 _).grown hg4 (by simp; omega) (fun g e => (own_lt HO3.out.1 g e).1)
          have hz4 := hb4.size
          have H4 : Hid (w4.ownsRow wr.heap.size 9 1 (.slice a4 (k + 1) c4) (k + 1) ((strL L).take k ++ strL [key]) ∧ Below wr.heap.size wr w4 ∧ RdV w4 ra (n - k) ((strL L).drop k)) := ⟨ho4, hb4, HP3.out.below hb4⟩
          clear ho4 hg4 hb4 H3 HO3 HP3
          go_wp2_with (at_builtin; refine wpList_append_vS rfl _ _ rfl wr.heap.size (.slice a4 (k + 1) c4) (k + 1) _ rfl H4.out.1 ra (n - k) (c - k) _ rfl H4.out.2.2 (by omega) hz4 ?_)
          intro v5 w5 ho5 hg5
          obtain ⟨a5, c5, e5, _⟩ := own_form ho5
          subst e5
          have HF : Hid (RetPut a L key wr (.returned (.slice a5 (k + 1 + (n - k)) c5)) w5) := by
            have hb5 : Below wr.heap.size wr w5 := H4.out.2.1.grown hg5 hz4 (fun g e => (own_lt H4.out.1 g e).1)
            have hl : (insK key L).length = k + 1 + (n - k) := by rw [insK_length, ← HR.out.2.1]; omega
            have he : (strL L).take k ++ (strL [key] ++ (strL L).drop k) = strL (insK key L) := by
              rw [strL_take, strL_drop, ← strL_app, ← strL_app]
              unfold insK
              rw [HK.out]
              rfl
            rw [he] at ho5
            refine ⟨a5, c5, insK key L, by rw [hl], ?_, by rw [hl]; exact own_cap ho5, hb5, .inr ⟨HN.out, rfl, fun b o e => ?_⟩⟩
            · rw [hl]
              exact own_rdv ho5
            · obtain ⟨a6, c6, e6, hf6⟩ := own_form ho5
              injection e6 with e6
              obtain ⟨g6, e7, hg6, _⟩ := hf6 (by omega)
              rw [e6, e7] at e
              injection e with e
              injection e with e
              omega
          clear ho5 hg5 H4
          go_wp2
          go_ret
          exact HF.out

/-- A tree in memory of the call's own that is valid, and its keys. -/
def VK (w : World) (B : Nat) (v : Value) (m : Nat) (K : List ByteArray) : Prop :=
  ∃ a c M KA DA KC DC t, v = .slice a m c ∧ GT w B v m M KA DA KC DC ∧ VTt m M t ∧ keysR 21 t = K
/-- What TreeNew hands back. -/
def RetNew (w : World) (e : Ending) (w' : World) : Prop :=
  Below w.heap.size w w' ∧ ∃ a c, e = .returned (.agg #[.slice a 1 c]) ∧ VK w' w.heap.size (.slice a 1 c) 1 []

set_option maxHeartbeats 2000000 in
theorem treeNew_any (w : World) : Calls Try.prog 9 #[] w (RetNew w) := by
  obtain ⟨W, hW⟩ : ∃ W, W = (w.alloc (.cells #[.slice none 0 0] 25)).alloc (.cells #[.int .i64 0, .slice none 0 0] 57) := ⟨_, rfl⟩
  have hbl : Bx W (w.heap.size + 1) 57 #[.int .i64 0, .slice none 0 0] := by
    have q := Bx.new (w.alloc (.cells #[.slice none 0 0] 25)) #[.int .i64 0, .slice none 0 0] 57
    rw [World.size_alloc] at q
    rw [hW]
    exact q
  have hbt : Bx W w.heap.size 25 #[.slice none 0 0] := by
    rw [hW]
    exact (Bx.new w #[.slice none 0 0] 25).alloc _
  have hbw : Below w.heap.size w W := by
    rw [hW]
    exact (below_alloc _ _).alloc (by simp) _
  have hzW : W.heap.size = w.heap.size + 2 := by rw [hW]; simp
  have HTt : Hid (Calls Try.prog 34 #[.iface 53 (.pointer (some ⟨w.heap.size + 1, 0, none⟩))] ((w.alloc (.cells #[.slice none 0 0] 25)).alloc (.cells #[.int .i64 0, .slice none 0 0] 57)) (RetTt W 1 (.inl []))) := by
    rw [← hW]
    exact tellTree_any 1 (.inl []) _ (fun x => x = w.heap.size + 1) W true 0 ⟨w.heap.size + 1, none, 0, rfl, rfl, hbl, ⟨Nat.le_refl _, by omega⟩, .inl rfl⟩ ⟨rfl, by simp, .inl rfl⟩ (fun x hx => by rw [hx]; exact hbl.lt) (by show 1 ≤ 100000; omega)
  have HB : Hid (Bx W w.heap.size 25 #[.slice none 0 0] ∧ Below w.heap.size w W ∧ W.heap.size = w.heap.size + 2) := ⟨hbt, hbw, hzW⟩
  clear hbl hbt hbw hzW hW
  go_enter Try.func9, Try.ntmps9
  go_wp2_with fail
  (with_reducible refine HTt.out.mono ?_)
  rintro e w1 ⟨hb1, a, c, N', KA, DA, KC, DC, rfl, hg1, ht1⟩
  have HX : Hid (Bx w1 w.heap.size 25 #[.slice none 0 0] ∧ Below w.heap.size w w1 ∧ GT w1 (w.heap.size + 3) (.slice a 1 c) 1 N' KA DA KC DC ∧ Tells N' 0 1 (.inl []) 0) := ⟨HB.out.1.below hb1, HB.out.2.1.trans (hb1.mono HB.out.2.1.size), by have := HB.out.2.2; rw [this] at hg1; exact hg1, ht1⟩
  clear hb1 hg1 ht1 HB HTt
  have r0 := HX.out.1.cell 0
  simp at r0
  have rz := HX.out.1.lt
  have rf := HX.out.1.frozen 0
  have e1 : nodesR 1 (.inl []) = 1 := rfl
  rw [e1]
  clear e1
  go_wp2
  refine bodyPost_ret (v := .agg #[.slice a 1 c]) (by simp [results, Try.results9, go_sem, r0]) rfl ⟨HX.out.2.1.setCell (by simp) _, a, c, rfl, ?_⟩
  obtain ⟨t, hv, hk⟩ := vt_of_tells (D := 1) (m := 1) (y := .inl []) (hh := 0) rfl (by omega) HX.out.2.2.2 ⟨rfl, by simp, .inl rfl⟩ List.Pairwise.nil (fun x hx => by cases hx)
  refine ⟨a, c, N', KA, DA, KC, DC, t, rfl, (HX.out.2.2.1.keep (fun x hx => Below.heap_setCell _ _ _ _ (by have := (HX.out.2.2.1.used hx).1; show x ≠ w.heap.size; omega))).mono (by omega), hv, hk⟩
end Go.Proofs.Ytakemeccigpbaaa

namespace Go.Proofs.Ytakemeccigpbaaa
open Go.RowKit Go.Deep
set_option linter.unusedVariables false
set_option maxRecDepth 100000

theorem VTt.asc {n : Nat} {N : Nat → Tn} {t : Ro 21} (h : VTt n N t) : Asc (keysR 21 t) := asc_of_ascK h.2.2.2.2.1
theorem VTt.siz {n : Nat} {N : Nat → Tn} {t : Ro 21} (h : VTt n N t) : ∀ x, x ∈ keysR 21 t → x.size ≤ 16 := fun x hx => by
  obtain ⟨i, hi, e⟩ := List.getElem_of_mem hx
  have q := (h.2.2.2.2.1 i hi).1
  have eg : gt (keysR 21 t) i = x := by
    unfold gt
    rw [List.getD_eq_getElem?_getD, List.getElem?_eq_getElem hi]
    exact e
  rw [eg] at q
  exact q
theorem VTt.fit {n : Nat} {N : Nat → Tn} {t : Ro 21} (h : VTt n N t) : ∀ i, i < n → TnFit (N i) := fun i hi => by
  obtain ⟨h1, h2, h3, ⟨hh, h4⟩, h5, h6⟩ := h
  have he := nestR_end h3
  have q := tells_four h6 h4 i (Nat.zero_le _) (by omega)
  exact ⟨by omega, by omega⟩
theorem VTt.few {n : Nat} {N : Nat → Tn} {t : Ro 21} (h : VTt n N t) : n ≤ (keysR 21 t).length + 1 := by
  obtain ⟨h1, h2, h3, ⟨hh, h4⟩, h5, h6⟩ := h
  have he := nestR_end h3
  have := h4.few'
  omega

/-- What a change of a tree hands back. -/
def RetV (w : World) (K : List ByteArray) (p : Prop) (e : Ending) (w' : World) : Prop :=
  Below w.heap.size w w' ∧ ∃ ok a m c, e = .returned (.agg #[.bool ok, .slice a m c]) ∧ (ok = true ↔ p) ∧ m ≤ 5000 ∧ VK w' w.heap.size (.slice a m c) m K

theorem delK_not {key : ByteArray} {K : List ByteArray} (h : key ∉ K) : delK key K = K := by
  unfold delK
  rw [List.filter_eq_self]
  intro x hx
  have hne : x.toList ≠ key.toList := fun e => h (by rw [← str_inj e]; exact hx)
  simpa using hne
theorem delK_asc {key : ByteArray} {K : List ByteArray} (h : Asc K) : Asc (delK key K) := List.Pairwise.filter _ h
theorem delK_mem {key x : ByteArray} {K : List ByteArray} (h : x ∈ delK key K) : x ∈ K := (List.mem_filter.1 h).1
theorem insK_mem {key x : ByteArray} {K : List ByteArray} (h : x ∈ insK key K) : x = key ∨ x ∈ K := by
  unfold insK at h
  rw [List.mem_append, List.mem_cons] at h
  rcases h with h | h | h
  · exact .inr (List.mem_of_mem_take h)
  · exact .inl h
  · exact .inr (List.mem_of_mem_drop h)
theorem cntL_ge {key : ByteArray} : ∀ {L : List ByteArray}, Asc L → (∀ x, x ∈ L.take (cntL key L) → Op.bytesLess x.toList key.toList = true) ∧ (∀ x, x ∈ L.drop (cntL key L) → Op.bytesLess x.toList key.toList = false)
  | [], _ => ⟨fun x hx => by simp at hx, fun x hx => by simp at hx⟩
  | y :: L, h => by
    have h' := List.pairwise_cons.1 h
    obtain ⟨q1, q2⟩ := cntL_ge (key := key) (show Asc L from h'.2)
    by_cases hy : Op.bytesLess y.toList key.toList = true
    · have e : cntL key (y :: L) = cntL key L + 1 := by
        unfold cntL
        rw [List.filter_cons_of_pos (by simpa using hy)]
        rfl
      rw [e]
      refine ⟨fun x hx => ?_, fun x hx => q2 x (by simpa using hx)⟩
      rw [List.take_succ_cons, List.mem_cons] at hx
      rcases hx with rfl | hx
      · exact hy
      · exact q1 x hx
    · have hy' : Op.bytesLess y.toList key.toList = false := by simpa using hy
      have hall : ∀ x, x ∈ y :: L → Op.bytesLess x.toList key.toList = false := fun x hx => by
        rw [List.mem_cons] at hx
        rcases hx with rfl | hx
        · exact hy'
        · by_cases q : Op.bytesLess x.toList key.toList = true
          · rw [less_trans _ _ _ (h'.1 x hx) q] at hy'
            cases hy'
          · simpa using q
      have e : cntL key (y :: L) = 0 := cntL_none hall
      rw [e]
      exact ⟨fun x hx => by simp at hx, fun x hx => hall x (by simpa using hx)⟩
theorem insK_asc {key : ByteArray} {K : List ByteArray} (h : Asc K) (hk : key ∉ K) : Asc (insK key K) := by
  obtain ⟨q1, q2⟩ := cntL_ge (key := key) h
  unfold insK
  have h' : Asc (K.take (cntL key K) ++ K.drop (cntL key K)) := by rw [List.take_append_drop]; exact h
  have h3 := List.pairwise_append.1 h'
  refine List.pairwise_append.2 ⟨h3.1, List.pairwise_cons.2 ⟨fun x hx => ?_, h3.2.1⟩, fun x hx y hy => ?_⟩
  · have q := q2 x hx
    by_cases e : Op.bytesLess key.toList x.toList = true
    · exact e
    · exfalso
      have e' : Op.bytesLess key.toList x.toList = false := by simpa using e
      have t := less_total x.toList key.toList
      rw [e', q] at t
      have t2 : (key.toList == x.toList) = true := by simpa using t
      have t3 : key.toList = x.toList := by simpa using t2
      exact hk (by rw [str_inj t3]; exact List.mem_of_mem_drop hx)
  · rw [List.mem_cons] at hy
    rcases hy with rfl | hy
    · exact q1 x hx
    · exact h3.2.2 x hx y hy

theorem last_such {P : Nat → Prop} (hP : ∀ i, P i ∨ ¬ P i) : ∀ n, P 0 → 0 < n → ∃ i, i < n ∧ P i ∧ ∀ j, i < j → j < n → ¬ P j
  | 0, _, h => absurd h (Nat.lt_irrefl _)
  | n + 1, h0, _ => by
    rcases hP n with h | h
    · exact ⟨n, by omega, h, fun j h1 h2 => by omega⟩
    · by_cases hn : 0 < n
      · obtain ⟨i, h1, h2, h3⟩ := last_such hP n h0 hn
        exact ⟨i, by omega, h2, fun j j1 j2 => by
          by_cases e : j = n
          · subst e; exact h
          · exact h3 j j1 (by omega)⟩
      · obtain rfl : n = 0 := by omega
        exact absurd h0 h
theorem KidIs.ex {d : Nat} (l : List (Ro d)) (key : ByteArray) (h0 : 0 < l.length) : ∃ i, KidIs l key i := by
  obtain ⟨i, h1, h2, h3⟩ := last_such (P := fun i => i = 0 ∨ ∃ h : i < l.length, Op.bytesLess key.toList (gt (keysR d l[i]) 0).toList = false) (fun i => Classical.em _) l.length (.inl rfl) h0
  refine ⟨i, h1, fun h hi => ?_, fun h => ?_⟩
  · rcases h2 with q | ⟨_, q⟩
    · omega
    · exact q
  · by_cases q : Op.bytesLess key.toList (gt (keysR d l[i + 1]) 0).toList = true
    · exact q
    · exact absurd (.inr ⟨h, by simpa using q⟩) (h3 (i + 1) (by omega) h)
theorem InsR.ex (key : ByteArray) : ∀ {d : Nat} {t : Ro d} {root : Bool} {h : Nat}, BalR d root t h → ∃ rs, InsR key d t rs
  | 0, t, _, _, _ => t.elim
  | d + 1, .inl ks, root, h, hb => ⟨_, rfl⟩
  | d + 1, .inr l, root, h, hb => by
    obtain ⟨h2, h4, h', rfl, hall⟩ := hb
    obtain ⟨i, hk⟩ := KidIs.ex l key (by omega)
    obtain ⟨rs, hr⟩ := InsR.ex key (hall _ (List.getElem_mem hk.1))
    exact ⟨_, i, hk, hk.1, rs, hr, rfl⟩

theorem delV_any (key : ByteArray) (v : Value) (m B : Nat) (K : List ByteArray) (w : World) (h : VK w B v m K) (hkey : key.size ≤ 16) : Calls Try.prog 11 #[.agg #[v], .string key] w (RetV w (delK key K) (key ∈ K)) := by
  obtain ⟨a, c, M, KA, DA, KC, DC, t, rfl, hg, hv, rfl⟩ := h
  have hm5 := hv.2.1
  refine (implDel a m c M key w hg.rd (by omega) hv.fit (by unfold maxLen; omega)).mono ?_
  rintro e w' ⟨hb, ok, a', m', c', M', KA', DA', KC', DC', rfl, hg', hd⟩
  refine ⟨hb, ok, a', m', c', rfl, ?_⟩
  rcases hd with ⟨rfl, t', r, hv', hk, hr, h5, hT⟩ | ⟨rfl, rfl, rfl, hno⟩
  · obtain rfl := hv'.fn hv
    obtain ⟨hh, hbal⟩ := hv.2.2.2.1
    have hkr := DelR.keysD hbal hv.asc hr
    have hU := (DelR.bal hbal hv.asc hr).1
    have hasc : Asc (keysR 21 r) := by rw [hkr]; exact delK_asc hv.asc
    have hsz : ∀ x, x ∈ keysR 21 r → x.size ≤ 16 := fun x hx => hv.siz x (by rw [hkr] at hx; exact delK_mem hx)
    refine ⟨by simp [hk], h5, ?_⟩
    rcases hT with ⟨y, rfl, hm, ht⟩ | ⟨hne, hm, ht⟩
    · obtain ⟨_, _, h', _, hall⟩ := hU
      have hy := hall y (by simp)
      have ek : keysR 20 y = keysR 21 (.inr [y]) := by
        show keysR 20 y = keysR 20 y ++ []
        rw [List.append_nil]
      obtain ⟨t2, q1, q2⟩ := vt_of_tells hm h5 ht ((BalU.of hy).full true hy.siz) (by rw [ek]; exact hasc) (by rw [ek]; exact hsz)
      exact ⟨a', c', M', KA', DA', KC', DC', t2, rfl, hg', q1, by rw [q2, ek, hkr]⟩
    · have hbr : BalR 21 true r hh := by
        rcases r with ks | l
        · exact ⟨hU.1, hU.2, Or.inl rfl⟩
        · refine hU.full true ?_
          show 2 ≤ l.length
          have h1 := hU.1
          by_cases e : l.length = 1
          · obtain ⟨y, rfl⟩ := List.length_eq_one_iff.1 e
            exact absurd rfl (hne y)
          · omega
      obtain ⟨t2, q1, q2⟩ := vt_of_tells hm h5 ht hbr hasc hsz
      exact ⟨a', c', M', KA', DA', KC', DC', t2, rfl, hg', q1, by rw [q2, hkr]⟩
  · have hk := hno t hv
    exact ⟨by simp [hk], hm5, a', c', _, KA', DA', KC', DC', t, rfl, hg', hv, (delK_not hk).symm⟩

/-- The keys with one more. -/
def putK (key : ByteArray) (K K' : List ByteArray) : Prop := (key ∈ K ∧ K' = K) ∨ (key ∉ K ∧ K' = insK key K)
theorem insV_any (key : ByteArray) (v : Value) (m B : Nat) (K : List ByteArray) (w : World) (h : VK w B v m K) (hkey : key.size ≤ 16) (hK : K.length ≤ 1000) : Calls Try.prog 13 #[.agg #[v], .string key] w (fun e w' => ∃ K', putK key K K' ∧ RetV w K' (key ∉ K) e w') := by
  obtain ⟨a, c, M, KA, DA, KC, DC, t, rfl, hg, hv, rfl⟩ := h
  have hm5 := hv.2.1
  refine (implIns a m c M key w hg.rd (by omega) hv.fit (by unfold maxLen; omega)).mono ?_
  rintro e w' ⟨hb, ok, a', m', c', M', KA', DA', KC', DC', rfl, hg', hd⟩
  obtain ⟨hh, hbal⟩ := hv.2.2.2.1
  rcases hd with ⟨rfl, t', rs, hv', hk16, hk, hr, hm, h5, hT⟩ | ⟨rfl, rfl, rfl, hno⟩
  · obtain rfl := hv'.fn hv
    have hkr := InsR.keys hbal hv.asc hr
    have hasc : Asc (rs.flatMap (keysR 21)) := by rw [hkr]; exact insK_asc hv.asc hk
    have hsz : ∀ x, x ∈ rs.flatMap (keysR 21) → x.size ≤ 16 := fun x hx => by
      rw [hkr] at hx
      rcases insK_mem hx with rfl | q
      · exact hkey
      · exact hv.siz x q
    refine ⟨insK key (keysR 21 t'), .inr ⟨hk, rfl⟩, hb, true, a', m', c', rfl, by simp [hk], h5, ?_⟩
    rcases InsR.bal hbal hr with ⟨y, rfl, hy⟩ | ⟨y, z, rfl, hy, hz⟩
    · have ek : keysR 21 y = [y].flatMap (keysR 21) := by
        show keysR 21 y = keysR 21 y ++ []
        rw [List.append_nil]
      obtain ⟨t2, q1, q2⟩ := vt_of_tells (D := 21) (y := y) (by rw [hm]; simp [insN]) h5 hT hy (by rw [ek]; exact hasc) (by rw [ek]; exact hsz)
      exact ⟨a', c', M', KA', DA', KC', DC', t2, rfl, hg', q1, by rw [q2, ek, hkr]⟩
    · have hb2 : BalR 22 true (.inr [y, z]) (hh + 1) := ⟨by simp, by simp, hh, rfl, fun t ht => by
        simp at ht
        rcases ht with rfl | rfl
        · exact hy
        · exact hz⟩
      obtain ⟨t2, q1, q2⟩ := vt_of_tells (D := 22) (y := .inr [y, z]) (by rw [hm]; rfl) h5 hT hb2 hasc hsz
      exact ⟨a', c', M', KA', DA', KC', DC', t2, rfl, hg', q1, q2.trans hkr⟩
  · by_cases hk : key ∈ keysR 21 t
    · exact ⟨keysR 21 t, .inl ⟨hk, rfl⟩, hb, false, a', m', c', rfl, by simp [hk], hm5, a', c', _, KA', DA', KC', DC', t, rfl, hg', hv, rfl⟩
    · exfalso
      obtain ⟨rs, hr⟩ := InsR.ex key hbal
      have q := hno t rs hv hkey hk hr
      have hkr := InsR.keys hbal hv.asc hr
      have hl : (rs.flatMap (keysR 21)).length ≤ 1001 := by rw [hkr, insK_length]; omega
      rcases InsR.bal hbal hr with ⟨y, rfl, hy⟩ | ⟨y, z, rfl, hy, hz⟩
      · have f := hy.few'
        have e : insN [y] = nodesR 21 y := by simp [insN]
        have e2 : ([y].flatMap (keysR 21)).length = (keysR 21 y).length := by simp
        omega
      · have f1 := hy.few
        have f2 := hz.few
        have e : insN [y, z] = 1 + (nodesR 21 y + (nodesR 21 z + 0)) := rfl
        have e2 : ([y, z].flatMap (keysR 21)).length = (keysR 21 y).length + (keysR 21 z).length := by simp
        omega

theorem validS_any (v : Value) (m B : Nat) (K : List ByteArray) (w : World) (h : VK w B v m K) : Calls Try.prog 15 #[.agg #[v]] w fun e w' => e = .returned (.bool true) ∧ Below w.heap.size w w' := by
  obtain ⟨a, c, M, KA, DA, KC, DC, t, rfl, hg, hv, rfl⟩ := h
  have hm5 := hv.2.1
  refine (specVT a m c M w hg.rd (by omega) hv.fit).mono ?_
  rintro e w' ⟨b, rfl, hb, hbe⟩
  exact ⟨by rw [hb.2 ⟨t, hv⟩], hbe⟩
theorem validI_any (v : Value) (m B : Nat) (K : List ByteArray) (w : World) (h : VK w B v m K) : Calls Try.prog 16 #[.agg #[v]] w fun e w' => e = .returned (.bool true) ∧ Below w.heap.size w w' := by
  obtain ⟨a, c, M, KA, DA, KC, DC, t, rfl, hg, hv, rfl⟩ := h
  have hm5 := hv.2.1
  refine (implVT a m c M w hg.rd (by omega) hv.fit).mono ?_
  rintro e w' ⟨b, rfl, hb, hbe⟩
  exact ⟨by rw [hb.2 ⟨t, hv⟩], hbe⟩
theorem rankV_any (lo : ByteArray) (v : Value) (m B : Nat) (K : List ByteArray) (w : World) (h : VK w B v m K) : Calls Try.prog 19 #[.agg #[v], .string lo] w fun e w' => e = .returned (.int .i64 (cntL lo K : Int)) ∧ Below w.heap.size w w' := by
  obtain ⟨a, c, M, KA, DA, KC, DC, t, rfl, hg, hv, rfl⟩ := h
  have hm5 := hv.2.1
  refine (implRk a m c M lo w hg.rd (by omega) hv.fit).mono ?_
  rintro e w' ⟨r, rfl, hbe, hr⟩
  rcases hr with ⟨t', hv', hr⟩ | ⟨hn, _⟩
  · obtain rfl := hv'.fn hv
    exact ⟨by rw [hr], hbe⟩
  · exact absurd ⟨t, hv⟩ hn
end Go.Proofs.Ytakemeccigpbaaa

namespace Go.Proofs.Ytakemeccigpbaaa
open Go.RowKit Go.Deep
set_option linter.unusedVariables false
set_option maxRecDepth 100000

theorem run_conv2 (w : World) (d e : Int) : (convert 22 9 (.slice (some ⟨w.heap.size, 0, none⟩) 2 2)).run Try.prog (w.alloc (.cells #[.int .u8 d, .int .u8 e] 5)) = .ok (.string (strOfNums [d, e])) (w.alloc (.cells #[.int .u8 d, .int .u8 e] 5)) :=
  run_convert_bytes_arg (w.alloc (.cells #[.int .u8 d, .int .u8 e] 5)) 22 5 (by kernel_rfl) (by kernel_rfl) w.heap.size 0 2 2 [d, e] rfl (fun i hi => by
    rcases (show i = 0 ∨ i = 1 by omega) with rfl | rfl <;> simp) 9 (by kernel_rfl)
theorem less_nil : ∀ l : List UInt8, Op.bytesLess l [] = false
  | [] => rfl
  | _ :: _ => rfl
theorem fil_whole (K : List ByteArray) : fil { data := #[] } { data := #[] } K = K := by
  unfold fil
  rw [List.filter_eq_self]
  intro x _
  unfold inR
  have e : ({ data := #[] } : ByteArray).toList = [] := by unfold ByteArray.toList; unfold ByteArray.toList.loop; rfl
  rw [e, less_nil]
  rfl

theorem rangeV_any (lo hi : ByteArray) (v : Value) (m B : Nat) (K : List ByteArray) (w : World) (h : VK w B v m K) (F : List ByteArray) (hF : F = fil lo hi K) : Calls Try.prog 18 #[.agg #[v], .string lo, .string hi] w fun e w' => ∃ a c, e = .returned (.slice a F.length c) ∧ RdS w' a F.length (gt F) ∧ Below w.heap.size w w' := by
  obtain ⟨a, c, M, KA, DA, KC, DC, t, rfl, hg, hv, rfl⟩ := h
  have hm5 := hv.2.1
  subst hF
  refine (implRg a m c M lo hi w hg.rd (by omega) hv.fit).mono ?_
  rintro e w' ⟨L, a', c', rfl, ho, hb, _, hr⟩
  rcases hr with ⟨t', hv', rfl⟩ | ⟨hn, _⟩
  · obtain rfl := hv'.fn hv
    exact ⟨a', c', rfl, ho.rd, hb⟩
  · exact absurd ⟨t, hv⟩ hn
theorem RdV.rdS {w : World} {a : Option Addr} {L : List ByteArray} (h : RdV w a L.length (strL L)) : RdS w a L.length (gt L) := by
  rcases h.2.2 with q | ⟨b, o, rfl, _, hc⟩
  · exact .inl q
  · exact .inr ⟨b, o, rfl, fun i hi => hc i _ (strL_get L i hi)⟩

set_option maxHeartbeats 2000000 in
theorem lwTexts_rd (a a2 : Option Addr) (n c c2 : Nat) (L : List ByteArray) (w : World) (h : RdS w a n (gt L)) (h2 : RdS w a2 n (gt L)) (hn2 : n ≤ 1048576) :
    Calls Try.prog 17 #[.slice a n c, .slice a2 n c2] w fun e w' => e = .returned (.bool true) ∧ Below w.heap.size w w' := by
  have HR : Hid (RdS w a n (gt L) ∧ RdS w a2 n (gt L)) := ⟨h, h2⟩
  clear h h2
  have hnn : ((n : Int) != (n : Int)) = false := by simp
  go_enter Try.func17, Try.ntmps17
  go_wp2
  go_loopw [5] (fun i wr => ∃ k : Nat, k ≤ n ∧ i = .int .i64 k ∧ Below w.heap.size w wr) (fun i _ => n - (intOf i).toNat)
  case atStart => exact ⟨0, Nat.zero_le _, rfl, Below.refl _ _⟩
  case round =>
    obtain ⟨k, hk, rfl, hbel⟩ := hrel
    have HB : Hid (Below w.heap.size w wr) := hbel
    by_cases hlt : k < n
    · rcases HR.out.1.below hbel with q | ⟨b, o, rfl, s1⟩
      · omega
      rcases HR.out.2.below hbel with q | ⟨b2, o2, rfl, s2⟩
      · omega
      replace s1 := s1 k hlt
      replace s2 := s2 k hlt
      have i0 : (0 : Int) ≤ (k : Int) := by omega
      have i1 : (k : Int) < (n : Int) := by omega
      have hq : ((gt L k).toList == (gt L k).toList) = true := by simp
      clear hbel
      go_wp2
      go_region
      go_wp2
      go_roundw
      case rel => exact ⟨k + 1, by omega, by go_num, HB.out.drew⟩
      case measure => simp [intOf]; omega
    · obtain rfl : k = n := by omega
      clear hbel
      go_wp2
      go_ret
      exact ⟨rfl, HB.out⟩

/-- The law's world: the tree's box, the tree, the keys' row. -/
structure FtW (w W : World) (bt : Nat) (v : Value) (m : Nat) (K : List ByteArray) : Prop where
  bx : Bx W bt 25 #[v]
  gb : w.heap.size ≤ bt
  bel : Below w.heap.size w W
  vk : ∃ a c M KA DA KC DC t, v = .slice a m c ∧ GT W w.heap.size v m M KA DA KC DC ∧ (∀ x, UsedT v m M KA DA x → x ≠ bt) ∧ VTt m M t ∧ keysR 21 t = K
/-- The keys' row. -/
def KyR (W : World) (bt : Nat) (a : Option Addr) (L : List ByteArray) : Prop := RdV W a L.length (strL L) ∧ ∀ b o, a = some ⟨b, o, none⟩ → L.length ≠ 0 → b ≠ bt

section
variable {w W W' : World} {bt m : Nat} {v : Value} {K : List ByteArray}
theorem FtW.below (h : FtW w W bt v m K) (hb : Below W.heap.size W W') : FtW w W' bt v m K := by
  obtain ⟨a, c, M, KA, DA, KC, DC, t, q1, q2, q3, q4, q5⟩ := h.vk
  exact ⟨h.bx.below hb, h.gb, h.bel.trans (hb.mono h.bel.size), a, c, M, KA, DA, KC, DC, t, q1, q2.below hb, q3, q4, q5⟩
theorem FtW.VK (h : FtW w W bt v m K) : VK W w.heap.size v m K := by
  obtain ⟨a, c, M, KA, DA, KC, DC, t, q1, q2, q3, q4, q5⟩ := h.vk
  exact ⟨a, c, M, KA, DA, KC, DC, t, q1, q2, q4, q5⟩
theorem FtW.set (h : FtW w W bt v m K) {B m' : Nat} {v' : Value} {K' : List ByteArray} (hB : bt < B) (hk : Go.Proofs.Ytakemeccigpbaaa.VK W B v' m' K') : FtW w (W.setCell ⟨bt, 0, none⟩ v') bt v' m' K' := by
  obtain ⟨a, c, M, KA, DA, KC, DC, t, q1, q2, q4, q5⟩ := hk
  have hu : ∀ x, UsedT v' m' M KA DA x → x ≠ bt := fun x hx => by have := (q2.used hx).1; omega
  refine ⟨by simpa using h.bx.set 0 v', h.gb, h.bel.setCell h.gb _, a, c, M, KA, DA, KC, DC, t, q1, (q2.keep (fun x hx => Below.heap_setCell _ _ _ _ (hu x hx))).mono (by have := h.gb; omega), hu, q4, q5⟩
theorem KyR.below {a : Option Addr} {L : List ByteArray} (h : KyR W bt a L) (hb : Below W.heap.size W W') : KyR W' bt a L := ⟨h.1.below hb, h.2⟩
theorem KyR.set {a : Option Addr} {L : List ByteArray} (h : KyR W bt a L) (u : Value) : KyR (W.setCell ⟨bt, 0, none⟩ u) bt a L := by
  refine ⟨⟨h.1.1, h.1.2.1, ?_⟩, h.2⟩
  rcases h.1.2.2 with q | ⟨b, o, rfl, hl, hc⟩
  · exact .inl q
  · by_cases h0 : L.length = 0
    · exact .inl h0
    · refine .inr ⟨b, o, rfl, by simpa [World.setCell] using hl, fun j x hj => ?_⟩
      rw [World.cell?_of_block (a := ⟨b, o + j, none⟩) (Below.heap_setCell _ _ _ _ (h.2 b o rfl h0))]
      exact hc j x hj
end

theorem bool_same {a b : Bool} {p : Prop} (h : a = true ↔ p) (h' : b = true ↔ p) : a = b := by
  cases a <;> cases b <;> simp_all
theorem bool_not' {a b : Bool} {p : Prop} (h : a = true ↔ p) (h' : b = true ↔ ¬ p) : a = !b := by
  cases a <;> cases b <;> simp_all
theorem FtW.form {w W : World} {bt m : Nat} {v : Value} {K : List ByteArray} (h : FtW w W bt v m K) : ∃ a c, v = .slice a m c := by
  obtain ⟨a, c, M, KA, DA, KC, DC, t, q1, _⟩ := h.vk
  exact ⟨a, c, q1⟩

theorem VK.below {w w' : World} {B m : Nat} {v : Value} {K : List ByteArray} (h : VK w B v m K) (hb : Below w.heap.size w w') : VK w' B v m K := by
  obtain ⟨q1, q2, q3, q4, q5, q6, q7, q8, q9, q10, q11, q12⟩ := h
  exact ⟨q1, q2, q3, q4, q5, q6, q7, q8, q9, q10.below hb, q11, q12⟩
theorem own_ky {W : World} {B bt : Nat} {a : Option Addr} {c : Nat} {L : List ByteArray} (h : W.ownsRow B 9 1 (.slice a L.length c) L.length (strL L)) (hB : bt < B) : KyR W bt a L := by
  refine ⟨own_rdv h, fun b o e h0 => ?_⟩
  obtain ⟨a', c', e', hf⟩ := own_form h
  injection e' with e'
  obtain ⟨g, e2, hg, _⟩ := hf h0
  rw [e', e2] at e
  injection e with e
  injection e with e
  omega
theorem own_one {W : World} {u : ByteArray} : RdV (W.alloc (.cells #[.string u] 9)) (some ⟨W.heap.size, 0, none⟩) 1 (strL [u]) := by
  refine ⟨rfl, strL_one _, .inr ⟨W.heap.size, 0, rfl, by simp, fun j x hj => ?_⟩⟩
  rw [Nat.zero_add, (Bx.new W #[.string u] 9).cell j]
  simpa [strL] using hj
theorem delK_all (key : ByteArray) (K : List ByteArray) {n : Nat} (h : n = K.length) : delK key (K.take n) = delK key K := by rw [h, List.take_length]

theorem cntL_tk {lo : ByteArray} {K : List ByteArray} {j : Nat} (h : j < K.length) : cntL lo (K.take (j + 1)) = cntL lo (K.take j) + (if Op.bytesLess (gt K j).toList lo.toList = true then 1 else 0) := by
  rw [chain_take h, cntL_app]
  congr 1
  unfold cntL
  by_cases q : Op.bytesLess (gt K j).toList lo.toList = true
  · rw [if_pos q, List.filter_cons_of_pos (by simpa using q)]
    rfl
  · rw [if_neg q, List.filter_cons_of_neg (by simpa using q)]
    rfl
theorem inR_lo (lo x : ByteArray) : inR lo { data := #[] } x = !(Op.bytesLess x.toList lo.toList) := by
  have e : ({ data := #[] } : ByteArray).toList = [] := by unfold ByteArray.toList; unfold ByteArray.toList.loop; rfl
  unfold inR
  rw [e]
  simp
theorem fil_yes {lo : ByteArray} {K : List ByteArray} {j : Nat} (h : j < K.length) (q : Op.bytesLess (gt K j).toList lo.toList = false) : fil lo { data := #[] } (K.take (j + 1)) = fil lo { data := #[] } (K.take j) ++ [gt K j] := by
  rw [fil_take h, inR_lo, q]
  rfl
theorem fil_no {lo : ByteArray} {K : List ByteArray} {j : Nat} (h : j < K.length) (q : Op.bytesLess (gt K j).toList lo.toList = true) : fil lo { data := #[] } (K.take (j + 1)) = fil lo { data := #[] } (K.take j) := by
  rw [fil_take h, inR_lo, q]
  simp

/-- The state of the law's loop. -/
def FtS (w W : World) (bt : Nat) (ks : Value) (k : Nat) (K : List ByteArray) : Prop :=
  ∃ a c m v, ks = .slice a K.length c ∧ FtW w W bt v m K ∧ KyR W bt a K ∧ (K.length ≤ c ∧ c ≤ 9223372036854775807) ∧ Asc K ∧ K.length ≤ k

set_option maxHeartbeats 16000000 in
theorem ftLaw (v v2 : Value) (w : World) (hv : IsBytesR w v) (hv2 : IsBytesR w v2) :
    Calls Try.prog 3 #[v, v2] w fun e w' => e = .returned (.bool true) ∧ Below w.heap.size w w' := by
  obtain ⟨a, n0, c, f, rfl, ha, hf, hn0⟩ := hv
  obtain ⟨a2, n2, c2, f2, rfl, ha2, hf2, hn2⟩ := hv2
  unfold maxLen at hn0 hn2
  by_cases hbig : 1048576 < n0
  · have hb' : (1048576 : Int) < (n0 : Int) := by omega
    have hb'd : decide ((1048576 : Int) < (n0 : Int)) = true := decide_eq_true hb'
    go_enter Try.func3, Try.ntmps3
    go_wp2
    go_ret
    exact ⟨rfl, Below.refl _ _⟩
  have hb' : ¬ (1048576 : Int) < (n0 : Int) := by omega
  have hb'd : decide ((1048576 : Int) < (n0 : Int)) = false := decide_eq_false hb'
  by_cases hbig2 : 1048576 < n2
  · have hb2 : (1048576 : Int) < (n2 : Int) := by omega
    have hb2d : decide ((1048576 : Int) < (n2 : Int)) = true := decide_eq_true hb2
    go_enter Try.func3, Try.ntmps3
    go_wp2
    go_ret
    exact ⟨rfl, Below.refl _ _⟩
  have hb2 : ¬ (1048576 : Int) < (n2 : Int) := by omega
  have hb2d : decide ((1048576 : Int) < (n2 : Int)) = false := decide_eq_false hb2
  have HA : Hid (Rd .u8 w a n0 f ∧ (∀ i, i < n0 → 0 ≤ f i ∧ f i < 256) ∧ Rd .u8 w a2 n2 f2 ∧ ∀ i, i < n2 → 0 ≤ f2 i ∧ f2 i < 256) := ⟨ha, hf, ha2, hf2⟩
  clear ha hf ha2 hf2
  have HT : Hid (Calls Try.prog 9 #[] w (RetNew w)) := treeNew_any w
  go_enter Try.func3, Try.ntmps3
  go_wp2_with fail
  (with_reducible refine HT.out.mono ?_)
  rintro e w1 ⟨hb1, a1, c1, rfl, hvk1⟩
  have S0 : Hid (FtW w ((w1.alloc (.cells #[.slice a1 1 c1] 25)).alloc (.cells #[] 9)) w1.heap.size (.slice a1 1 c1) 1 []) := by
    obtain ⟨a', c', M, KA, DA, KC, DC, t, e1, q2, q4, q5⟩ := hvk1
    have hbb : Below w1.heap.size w1 ((w1.alloc (.cells #[.slice a1 1 c1] 25)).alloc (.cells #[] 9)) := (below_alloc _ _).alloc (by simp) _
    exact ⟨(Bx.new w1 #[.slice a1 1 c1] 25).alloc _, hb1.size, hb1.trans (hbb.mono hb1.size), a', c', M, KA, DA, KC, DC, t, e1, q2.below hbb, fun x hx => by have := (q2.used hx).2; omega, q4, q5⟩
  obtain ⟨bt, hbt⟩ : ∃ bt, bt = w1.heap.size := ⟨_, rfl⟩
  rw [← hbt] at S0
  clear hb1 hvk1 HT
  by_cases h30 : n0 < 30
  · have h30d : decide ((n0 : Int) < 30) = true := decide_eq_true (by omega)
    have h30i : (n0 : Int) < 30 := by omega
    go_upto_region 8 with fail
    have K0 : Hid (KyR ((w1.alloc (.cells #[.slice a1 1 c1] 25)).alloc (.cells #[] 9)) bt (some ⟨bt + 1, 0, none⟩) []) := ⟨⟨rfl, strL_one [], .inl rfl⟩, fun _ _ _ h => absurd rfl h⟩
    rw [← hbt]
    generalize (w1.alloc (.cells #[.slice a1 1 c1] 25)).alloc (.cells #[] 9) = W0 at S0 K0 ⊢
    have hcv := run_conv2
    have hcv1 := run_conv1
    clear hbt h30d h30i
    go_wp2
    go_loopw [6, 8, 9, 10, 11, 12, 13, 14] (fun ks i _ _ _ _ _ _ wr => ∃ (k : Nat) (K : List ByteArray), k ≤ 90 ∧ i = .int .i64 k ∧ FtS w wr bt ks k K) (fun _ i _ _ _ _ _ _ _ => 90 - (intOf i).toNat)
    case atStart => exact ⟨0, [], by omega, rfl, _, 0, 1, _, rfl, S0.out, K0.out, ⟨Nat.le_refl _, by omega⟩, List.Pairwise.nil, Nat.le_refl _⟩
    case round =>
      obtain ⟨k, K, hk, rfl, ak, ck, m, vt, rfl, hW, hKy, hck, hasc, hKk⟩ := hrel
      have SW : Hid (FtW w wr bt vt m K ∧ KyR wr bt ak K ∧ Asc K) := ⟨hW, hKy, hasc⟩
      clear hW hKy hasc S0 K0
      obtain ⟨kl, hkl⟩ : ∃ kl, kl = K.length := ⟨_, rfl⟩
      have HKL : Hid (kl = K.length) := hkl
      rw [← hkl] at hck hKk ⊢
      clear hkl
      have k0 : (0 : Int) ≤ (k : Int) := by omega
      by_cases hlt : k < 30 ∧ k < 90
      case neg =>
        have hlt1 : ¬ k < 30 := by omega
        have l1 : ¬ (k : Int) < 30 := by omega
        have l1d : decide ((k : Int) < 30) = false := decide_eq_false l1
        clear hlt
        have HL3 : Hid (Calls Try.prog 10 #[.slice a2 n2 c2, .int .i64 1] wr fun e w' => ∃ v : Int, e = .returned (.int .i64 v) ∧ (0 ≤ v ∧ v < 256) ∧ w' = wr) := lwAt_any a2 n2 c2 1 f2 wr (HA.out.2.2.1.below SW.out.1.bel) HA.out.2.2.2 (by omega) (by omega)
        go_wp2_with fail
        (with_reducible refine HL3.out.mono ?_)
        rintro e w2 ⟨x, rfl, ⟨hx0, hx1⟩, hw2⟩
        subst w2
        go_upto_region 33 with fail
        have S2 : Hid (FtW w (wr.alloc (.cells #[.int .u8 (97 + x % 8)] 5)) bt vt m K ∧ KyR (wr.alloc (.cells #[.int .u8 (97 + x % 8)] 5)) bt ak K ∧ Asc K) := ⟨SW.out.1.below (below_alloc _ _), SW.out.2.1.below (below_alloc _ _), SW.out.2.2⟩
        generalize wr.alloc (.cells #[.int .u8 (97 + x % 8)] 5) = W2 at S2 ⊢
        generalize strOfNums [97 + x % 8] = lo at ⊢
        clear SW hcv hcv1 HL3
        obtain ⟨av, cv, rfl⟩ := S2.out.1.form
        have HO : Hid ((W2.alloc (.cells #[] 9)).ownsRow W2.heap.size 9 1 (.slice (some ⟨W2.heap.size, 0, none⟩) 0 0) 0 [] ∧ Below W2.heap.size W2 (W2.alloc (.cells #[] 9))) := ⟨own_empty W2 9 W2.heap.size 1 (Nat.le_refl _), below_alloc _ _⟩
        have RS : Hid (∀ W, Below W2.heap.size W2 W → FtW w W bt (.slice av m cv) m K ∧ KyR W bt ak K) := fun W hW => ⟨S2.out.1.below hW, S2.out.2.1.below hW⟩
        clear S2
        go_wp2
        go_loopw [16, 17, 18] (fun ins rk i wr => ∃ (j : Nat) (F : List ByteArray), j ≤ kl ∧ i = .int .i64 j ∧ rk = .int .i64 (cntL lo (K.take j) : Int) ∧ F = fil lo { data := #[] } (K.take j) ∧ wr.ownsRow W2.heap.size 9 1 ins F.length (strL F) ∧ Below W2.heap.size W2 wr) (fun _ _ i _ => kl - (intOf i).toNat)
        case atStart => exact ⟨0, [], Nat.zero_le _, rfl, rfl, rfl, HO.out.1, HO.out.2⟩
        case round =>
          obtain ⟨j, F, hj, rfl, rfl, hF, hown, hbq⟩ := hrel
          obtain ⟨ar, cr, er, _⟩ := own_form hown
          subst er
          have HQ : Hid (wr.ownsRow W2.heap.size 9 1 (.slice ar F.length cr) F.length (strL F) ∧ Below W2.heap.size W2 wr ∧ F = fil lo { data := #[] } (K.take j)) := ⟨hown, hbq, hF⟩
          have hFl : F.length ≤ j := by
            have := fil_le lo { data := #[] } (K.take j)
            rw [hF]
            rw [List.length_take] at this
            omega
          obtain ⟨fl, hfl⟩ : ∃ fl, fl = F.length := ⟨_, rfl⟩
          have HFl : Hid (fl = F.length) := hfl
          rw [← hfl] at hFl HQ ⊢
          obtain ⟨rk, hrk⟩ : ∃ rk, rk = cntL lo (K.take j) := ⟨_, rfl⟩
          have HRk : Hid (rk = cntL lo (K.take j)) := hrk
          have hrkj : rk ≤ j := by
            have := cntL_le lo (K.take j)
            rw [List.length_take] at this
            omega
          rw [← hrk]
          clear hown hbq hF HO hfl hrk
          have j0 : (0 : Int) ≤ (j : Int) := by omega
          by_cases hjl : j < kl
          · have j1 : (j : Int) < (kl : Int) := by omega
            have j1d : decide ((j : Int) < (kl : Int)) = true := decide_eq_true j1
            have hky := (RS.out wr HQ.out.2.1).2
            obtain ⟨bb, oo, ea, s1⟩ := hky.1.str j (by rw [← HKL.out]; exact hjl)
            have hjK : j < K.length := by rw [← HKL.out]; exact hjl
            clear hky
            by_cases hq : Op.bytesLess (gt K j).toList lo.toList = true
            · have HN : Hid (F = fil lo { data := #[] } (K.take (j + 1)) ∧ cntL lo (K.take (j + 1)) = rk + 1) := ⟨by rw [fil_no hjK hq]; exact HQ.out.2.2, by rw [cntL_tk hjK, if_pos hq, HRk.out]⟩
              subst ea
              go_wp2
              go_roundw
              case rel => exact ⟨j + 1, F, by omega, by go_num, by rw [HN.out.2]; go_num, HN.out.1, by rw [← HFl.out]; exact HQ.out.1, HQ.out.2.1⟩
              case measure => simp [intOf]; omega
            · have hq' : Op.bytesLess (gt K j).toList lo.toList = false := by simpa using hq
              have HN : Hid (F ++ [gt K j] = fil lo { data := #[] } (K.take (j + 1)) ∧ cntL lo (K.take (j + 1)) = rk) := ⟨by rw [fil_yes hjK hq', ← HQ.out.2.2], by rw [cntL_tk hjK, if_neg hq, HRk.out]; rfl⟩
              have HO3 : Hid ((wr.alloc (.cells #[.string (gt K j)] 9)).ownsRow W2.heap.size 9 1 (.slice ar fl cr) fl (strL F) ∧ RdV (wr.alloc (.cells #[.string (gt K j)] 9)) (some ⟨wr.heap.size, 0, none⟩) 1 (strL [gt K j])) := ⟨own_below HQ.out.1 (below_alloc _ _), own_one⟩
              have hzq := HQ.out.2.1.size
              subst ea
              clear hq
              go_wp2_with (at_builtin; refine wpList_append_vS rfl _ _ rfl W2.heap.size (.slice ar fl cr) fl _ rfl HO3.out.1 _ 1 1 _ rfl HO3.out.2 (by omega) (by simp; omega) ?_)
              intro v7 w7 ho7 hg7
              have H7 : Hid (w7.ownsRow W2.heap.size 9 1 v7 (F ++ [gt K j]).length (strL (F ++ [gt K j])) ∧ Below W2.heap.size W2 w7) := by
                refine ⟨?_, (HQ.out.2.1.alloc hzq _).grown hg7 (by simp; omega) (fun g e => (own_lt HO3.out.1 g e).1)⟩
                rw [strL_app, List.length_append, ← HFl.out]
                exact ho7
              obtain ⟨a7, c7, e7, _⟩ := own_form ho7
              subst e7
              clear ho7 hg7 HO3
              go_wp2
              go_roundw
              case rel => exact ⟨j + 1, F ++ [gt K j], by omega, by go_num, by rw [HN.out.2], HN.out.1, H7.out.1, H7.out.2⟩
              case measure => simp [intOf]; omega
          · obtain rfl : j = kl := by omega
            have j1 : ¬ (j : Int) < (j : Int) := by omega
            have HR2 : Hid (F = fil lo { data := #[] } K ∧ rk = cntL lo K) := by
              have e : K.take j = K := by rw [HKL.out, List.take_length]
              exact ⟨by rw [HQ.out.2.2, e], by rw [HRk.out, e]⟩
            have SN : Hid (FtW w wr bt (.slice av m cv) m K ∧ RdS wr ak j (gt K) ∧ RdS wr ar fl (gt F)) := by
              have q := RS.out wr HQ.out.2.1
              have ho := HQ.out.1
              refine ⟨q.1, by rw [HKL.out]; exact q.2.1.rdS, ?_⟩
              rw [HFl.out] at ho ⊢
              exact (own_rdv ho).rdS
            have y0 := SN.out.1.bx.cell 0
            simp at y0
            have HVi : Hid (Calls Try.prog 16 #[.agg #[.slice av m cv]] wr fun e w' => e = .returned (.bool true) ∧ Below wr.heap.size wr w') := validI_any _ m _ _ _ SN.out.1.VK
            clear RS HQ
            go_wp2_with fail
            (with_reducible refine HVi.out.mono ?_)
            rintro e w3 ⟨rfl, hb3⟩
            have S3 : Hid (FtW w w3 bt (.slice av m cv) m K ∧ RdS w3 ak j (gt K) ∧ RdS w3 ar fl (gt F)) := ⟨SN.out.1.below hb3, SN.out.2.1.below hb3, SN.out.2.2.below hb3⟩
            clear hb3 y0 SN HVi
            have y0 := S3.out.1.bx.cell 0
            simp at y0
            have HRg : Hid (Calls Try.prog 18 #[.agg #[.slice av m cv], .string { data := #[] }, .string { data := #[] }] w3 fun e w' => ∃ a c, e = .returned (.slice a j c) ∧ RdS w' a j (gt K) ∧ Below w3.heap.size w3 w') := by
              rw [HKL.out]
              exact rangeV_any _ _ _ m _ K w3 S3.out.1.VK K (fil_whole K).symm
            go_wp2_with fail
            (with_reducible refine HRg.out.mono ?_)
            rintro e w4 ⟨a4, c4, rfl, hr4, hb4⟩
            have S4 : Hid (FtW w w4 bt (.slice av m cv) m K ∧ RdS w4 ak j (gt K) ∧ RdS w4 ar fl (gt F)) := ⟨S3.out.1.below hb4, S3.out.2.1.below hb4, S3.out.2.2.below hb4⟩
            have HTx : Hid (Calls Try.prog 17 #[.slice a4 j c4, .slice ak j ck] w4 fun e w' => e = .returned (.bool true) ∧ Below w4.heap.size w4 w') := lwTexts_rd a4 ak j c4 ck K w4 hr4 S4.out.2.1 (by omega)
            clear hr4 hb4 y0 S3 HRg
            go_wp2_with fail
            (with_reducible refine HTx.out.mono ?_)
            rintro e w5 ⟨rfl, hb5⟩
            have S5 : Hid (FtW w w5 bt (.slice av m cv) m K ∧ RdS w5 ar fl (gt F)) := ⟨S4.out.1.below hb5, S4.out.2.2.below hb5⟩
            clear hb5 S4 HTx
            have y0 := S5.out.1.bx.cell 0
            simp at y0
            have HRh : Hid (Calls Try.prog 18 #[.agg #[.slice av m cv], .string lo, .string { data := #[] }] w5 fun e w' => ∃ a c, e = .returned (.slice a fl c) ∧ RdS w' a fl (gt F) ∧ Below w5.heap.size w5 w') := by
              rw [HFl.out]
              exact rangeV_any _ _ _ m _ K w5 S5.out.1.VK F HR2.out.1
            go_wp2_with fail
            (with_reducible refine HRh.out.mono ?_)
            rintro e w6 ⟨a6, c6, rfl, hr6, hb6⟩
            have S6 : Hid (FtW w w6 bt (.slice av m cv) m K) := S5.out.1.below hb6
            have HTy : Hid (Calls Try.prog 17 #[.slice a6 fl c6, .slice ar fl cr] w6 fun e w' => e = .returned (.bool true) ∧ Below w6.heap.size w6 w') := lwTexts_rd a6 ar fl c6 cr F w6 hr6 (S5.out.2.below hb6) (by omega)
            clear hr6 hb6 y0 S5 HRh
            go_wp2_with fail
            (with_reducible refine HTy.out.mono ?_)
            rintro e w7 ⟨rfl, hb7⟩
            have S7 : Hid (FtW w w7 bt (.slice av m cv) m K) := S6.out.below hb7
            clear hb7 S6 HTy
            have y0 := S7.out.bx.cell 0
            simp at y0
            have HRk2 : Hid (Calls Try.prog 19 #[.agg #[.slice av m cv], .string lo] w7 fun e w' => e = .returned (.int .i64 (rk : Int)) ∧ Below w7.heap.size w7 w') := by
              rw [HR2.out.2]
              exact rankV_any lo _ m _ K w7 S7.out.VK
            go_wp2_with fail
            (with_reducible refine HRk2.out.mono ?_)
            rintro e w8 ⟨rfl, hb8⟩
            have HE : Hid (Below w.heap.size w w8) := S7.out.bel.trans (hb8.mono S7.out.bel.size)
            have hrr : ((rk : Int) == (rk : Int)) = true := by simp
            clear hb8 y0 S7 HRk2
            go_wp2
            go_ret
            exact ⟨rfl, HE.out⟩
      case pos =>
        obtain ⟨hlt1, hlt2⟩ := hlt
        have l1 : (k : Int) < 30 := by omega
        have l2 : (k : Int) < 90 := by omega
        have l1d : decide ((k : Int) < 30) = true := decide_eq_true l1
        have l2d : decide ((k : Int) < 90) = true := decide_eq_true l2
        have HL1 : Hid (Calls Try.prog 10 #[.slice a n0 c, .int .i64 k] wr fun e w' => ∃ v : Int, e = .returned (.int .i64 v) ∧ (0 ≤ v ∧ v < 256) ∧ w' = wr) := lwAt_any a n0 c k f wr (HA.out.1.below SW.out.1.bel) HA.out.2.1 (by omega) (by omega)
        have HL2 : Hid (Calls Try.prog 10 #[.slice a2 n2 c2, .int .i64 k] wr fun e w' => ∃ v : Int, e = .returned (.int .i64 v) ∧ (0 ≤ v ∧ v < 256) ∧ w' = wr) := lwAt_any a2 n2 c2 k f2 wr (HA.out.2.2.1.below SW.out.1.bel) HA.out.2.2.2 (by omega) (by omega)
        go_wp2_with fail
        (with_reducible refine HL1.out.mono ?_)
        rintro e w2 ⟨x, rfl, ⟨hx0, hx1⟩, hw2⟩
        subst w2
        go_wp2_with fail
        (with_reducible refine HL2.out.mono ?_)
        rintro e w2 ⟨x2, rfl, ⟨hy0, hy1⟩, hw2⟩
        subst w2
        clear HL1 HL2 l1 l2 l1d l2d
        go_upto_region 13 with fail
        have S2 : Hid (FtW w (wr.alloc (.cells #[.int .u8 (97 + x % 8), .int .u8 (97 + x2 % 4)] 5)) bt vt m K ∧ KyR (wr.alloc (.cells #[.int .u8 (97 + x % 8), .int .u8 (97 + x2 % 4)] 5)) bt ak K ∧ Asc K) := ⟨SW.out.1.below (below_alloc _ _), SW.out.2.1.below (below_alloc _ _), SW.out.2.2⟩
        have HKS : Hid ((strOfNums [97 + x % 8, 97 + x2 % 4]).size ≤ 16) := by show 2 ≤ 16; omega
        generalize wr.alloc (.cells #[.int .u8 (97 + x % 8), .int .u8 (97 + x2 % 4)] 5) = W2 at S2 ⊢
        generalize strOfNums [97 + x % 8, 97 + x2 % 4] = key at HKS ⊢
        clear SW hcv hcv1
        obtain ⟨av, cv, rfl⟩ := S2.out.1.form
        have y0 := S2.out.1.bx.cell 0
        simp at y0
        have yl := S2.out.1.bx.lt
        have yf := S2.out.1.bx.frozen 0
        have HLh : Hid (∀ W, KyR W bt ak K → Calls Try.prog 12 #[.slice ak kl ck, .string key] W fun e w' => ∃ b : Bool, e = .returned (.bool b) ∧ (b = true ↔ key ∈ K) ∧ w' = W) := fun W hW => lwHas_any ak kl ck K key W (by rw [HKL.out]; exact hW.1) (by omega)
        cases hbr : (x / 8 % 3 == 0) with
        | true =>
          have HDv : Hid (Calls Try.prog 11 #[.agg #[.slice av m cv], .string key] W2 (RetV W2 (delK key K) (key ∈ K))) := delV_any key _ m _ K W2 S2.out.1.VK HKS.out
          go_wp2_with fail
          (with_reducible refine HDv.out.mono ?_)
          rintro e w3 ⟨hb3, ok, a3, m3, c3, rfl, hok, hm3, hvk3⟩
          have S3 : Hid (FtW w (w3.alloc (.cells #[.bool ok, .slice a3 m3 c3] 30)) bt (.slice av m cv) m K ∧ KyR (w3.alloc (.cells #[.bool ok, .slice a3 m3 c3] 30)) bt ak K ∧ VK (w3.alloc (.cells #[.bool ok, .slice a3 m3 c3] 30)) W2.heap.size (.slice a3 m3 c3) m3 (delK key K) ∧ bt < W2.heap.size) := by
            obtain ⟨q1, q2, q3, q4, q5, q6, q7, q8, q9, q10, q11, q12⟩ := hvk3
            exact ⟨(S2.out.1.below hb3).below (below_alloc _ _), (S2.out.2.1.below hb3).below (below_alloc _ _), ⟨q1, q2, q3, q4, q5, q6, q7, q8, q9, q10.below (below_alloc _ _), q11, q12⟩, yl⟩
          have BR : Hid (Bx (w3.alloc (.cells #[.bool ok, .slice a3 m3 c3] 30)) w3.heap.size 30 #[.bool ok, .slice a3 m3 c3] ∧ bt ≠ w3.heap.size) := ⟨Bx.new _ _ _, by have := hb3.size; omega⟩
          have HOk : Hid (ok = true ↔ key ∈ K) := hok
          clear y0 yl yf hb3 hvk3 hok HDv
          go_upto_region 15 with fail
          generalize w3.alloc (.cells #[.bool ok, .slice a3 m3 c3] 30) = W5 at S3 BR ⊢
          generalize w3.heap.size = br at BR ⊢
          have r0 := BR.out.1.cell 0
          have r1 := BR.out.1.cell 1
          simp at r0 r1
          have rl := BR.out.1.lt
          have r0' : W5.drew.cell? ⟨br, 0, none⟩ = some (.bool ok) := r0
          refine wp_region_late (S := fun w' => w'.cell? ⟨br, 0, none⟩ = some (.bool ok)) 5 (by kernel_rfl) r0' (fun hHeld => ?_)
          refine late_take 0 .zero (v := ?_) (by kernel_rfl) (by kernel_rfl) (by kernel_rfl) (by kernel_rfl) (fun _ _ _ h => h) (by rfl) ?_ (by assumption) ?_
          rotate_left
          · (intro w hSw; (try dsimp only at hSw); go_simp) <;> with_reducible rfl
          simp only [Act.put, List.setIfInBounds_toArray, List.set_cons_zero, List.set_cons_succ]
          refine late_take 1 (.succ .zero) (v := ?_) (by kernel_rfl) (by kernel_rfl) (by kernel_rfl) (by kernel_rfl) (fun _ _ _ h => h) (by rfl) ?_ (by assumption) ?_
          rotate_left
          · (intro w hSw; (try dsimp only at hSw); go_simp) <;> with_reducible rfl
          simp only [Act.put, List.setIfInBounds_toArray, List.set_cons_zero, List.set_cons_succ]
          refine late_take 2 (.succ (.succ .zero)) (v := ?_) (by kernel_rfl) (by kernel_rfl) (by kernel_rfl) (by kernel_rfl) (fun _ _ _ h => h) (by rfl) ?_ (by assumption) ?_
          rotate_left
          · (intro w hSw; (try dsimp only at hSw); go_simp) <;> with_reducible rfl
          simp only [Act.put, List.setIfInBounds_toArray, List.set_cons_zero, List.set_cons_succ]
          refine late_take 3 (.succ (.succ (.succ .zero))) (v := ?_) (by kernel_rfl) (by kernel_rfl) (by kernel_rfl) (by kernel_rfl) (fun _ _ _ h => h) (by rfl) ?_ (by assumption) ?_
          rotate_left
          · (intro w hSw; (try dsimp only at hSw); go_simp) <;> with_reducible rfl
          simp only [Act.put, List.setIfInBounds_toArray, List.set_cons_zero, List.set_cons_succ]
          refine late_one 4 (.succ (.succ (.succ (.succ .zero)))) (by kernel_rfl) (fun K hK => ?_)
          refine step_t2 (by rfl) 12 66 67 _ (by rfl) (.slice ak kl ck) (.string key) (by rfl) (by rfl) (fun _ _ => by rfl) ?_
          refine (HLh.out _ (S3.out.2.1.below (Below.refl _ _).drew)).mono ?_
          rintro e w6 ⟨hh, rfl, hhb, hw6⟩
          have ehh : hh = ok := bool_same hhb HOk.out
          subst hh
          subst w6
          refine ⟨_, rfl, ?_⟩
          refine hK.out _ _ ?_ (fun hHeld2 => ?_)
          · (intro _; exact hHeld)
          clear hK K
          replace hHeld := hHeld2 (by decide)
          clear hHeld2
          try simp only [Act.put, List.setIfInBounds_toArray, List.set_cons_zero, List.set_cons_succ]
          refine late_one 5 (.succ (.succ (.succ (.succ (.succ .zero))))) (by kernel_rfl) (fun K hK => ?_)
          go_simp
          refine hK.out _ _ ?_ (fun hHeld2 => ?_)
          · (intro hne; exact absurd rfl hne)
          clear hK K hHeld2
          refine wpLate_done (by kernel_rfl) ?_ _
          clear hHeld hhb r0'
          have RS : Hid (∀ W, Below W5.heap.size W5 W → Bx W br 30 #[.bool ok, .slice a3 m3 c3] ∧ FtW w W bt (.slice av m cv) m K ∧ KyR W bt ak K ∧ VK W W2.heap.size (.slice a3 m3 c3) m3 (delK key K)) := fun W hW => ⟨BR.out.1.below hW, S3.out.1.below hW, S3.out.2.1.below hW, S3.out.2.2.1.below hW⟩
          have hbt5 : bt < W5.heap.size := S3.out.1.bx.lt
          have HO : Hid ((W5.drew.alloc (.cells #[] 9)).ownsRow W5.heap.size 9 1 (.slice (some ⟨W5.heap.size, 0, none⟩) 0 0) 0 [] ∧ Below W5.heap.size W5 (W5.drew.alloc (.cells #[] 9))) := ⟨own_empty W5.drew 9 W5.heap.size 1 (Nat.le_refl _), (Below.refl _ _).drew.alloc (Nat.le_refl _) _⟩
          have HB2 : Hid (bt < W2.heap.size) := S3.out.2.2.2
          clear r0 r1 rl S3 BR HLh HOk
          go_wp2
          go_loopw [12, 13] (fun rs i wr => ∃ (j : Nat) (R : List ByteArray), j ≤ kl ∧ i = .int .i64 j ∧ R = delK key (K.take j) ∧ wr.ownsRow W5.heap.size 9 1 rs R.length (strL R) ∧ Below W5.heap.size W5 wr) (fun _ i _ => kl - (intOf i).toNat)
          case atStart => exact ⟨0, [], Nat.zero_le _, rfl, rfl, HO.out.1, HO.out.2⟩
          case round =>
            obtain ⟨j, R, hj, rfl, hR, hown, hbq⟩ := hrel
            obtain ⟨ar, cr, er, _⟩ := own_form hown
            subst er
            have HQ : Hid (wr.ownsRow W5.heap.size 9 1 (.slice ar R.length cr) R.length (strL R) ∧ Below W5.heap.size W5 wr ∧ R = delK key (K.take j)) := ⟨hown, hbq, hR⟩
            have hRl : R.length ≤ j := by
              have := delK_length key (K.take j)
              rw [hR]
              rw [List.length_take] at this
              omega
            obtain ⟨rl, hrl⟩ : ∃ rl, rl = R.length := ⟨_, rfl⟩
            have HRl : Hid (rl = R.length) := hrl
            rw [← hrl] at hRl HQ ⊢
            clear hown hbq hR HO hrl
            have j0 : (0 : Int) ≤ (j : Int) := by omega
            by_cases hjl : j < kl
            · have j1 : (j : Int) < (kl : Int) := by omega
              have j1d : decide ((j : Int) < (kl : Int)) = true := decide_eq_true j1
              have hky := (RS.out wr HQ.out.2.1).2.2.1
              obtain ⟨bb, oo, ea, s1⟩ := hky.1.str j (by rw [← HKL.out]; exact hjl)
              have hjK : j < K.length := by rw [← HKL.out]; exact hjl
              clear hky
              by_cases hq : ((gt K j).toList == key.toList) = true
              · have HN : Hid (R = delK key (K.take (j + 1))) := by rw [delK_drop hjK hq]; exact HQ.out.2.2
                subst ea
                go_wp2
                go_roundw
                case rel => exact ⟨j + 1, R, by omega, by go_num, HN.out, by rw [← HRl.out]; exact HQ.out.1, HQ.out.2.1⟩
                case measure => simp [intOf]; omega
              · have hq' : ((gt K j).toList == key.toList) = false := by simpa using hq
                have HN : Hid (R ++ [gt K j] = delK key (K.take (j + 1))) := by show _ = _; rw [delK_keep hjK hq', ← HQ.out.2.2]
                have HO3 : Hid ((wr.alloc (.cells #[.string (gt K j)] 9)).ownsRow W5.heap.size 9 1 (.slice ar rl cr) rl (strL R) ∧ RdV (wr.alloc (.cells #[.string (gt K j)] 9)) (some ⟨wr.heap.size, 0, none⟩) 1 (strL [gt K j])) := ⟨own_below HQ.out.1 (below_alloc _ _), own_one⟩
                have hzq := HQ.out.2.1.size
                subst ea
                clear hq
                go_wp2_with (at_builtin; refine wpList_append_vS rfl _ _ rfl W5.heap.size (.slice ar rl cr) rl _ rfl HO3.out.1 _ 1 1 _ rfl HO3.out.2 (by omega) (by simp; omega) ?_)
                intro v7 w7 ho7 hg7
                have H7 : Hid (w7.ownsRow W5.heap.size 9 1 v7 (R ++ [gt K j]).length (strL (R ++ [gt K j])) ∧ Below W5.heap.size W5 w7) := by
                  refine ⟨?_, (HQ.out.2.1.alloc hzq _).grown hg7 (by simp; omega) (fun g e => (own_lt HO3.out.1 g e).1)⟩
                  rw [strL_app, List.length_append, ← HRl.out]
                  exact ho7
                obtain ⟨a7, c7, e7, _⟩ := own_form ho7
                subst e7
                clear ho7 hg7 HO3
                go_wp2
                go_roundw
                case rel => exact ⟨j + 1, R ++ [gt K j], by omega, by go_num, HN.out, H7.out.1, H7.out.2⟩
                case measure => simp [intOf]; omega
            · obtain rfl : j = kl := by omega
              have j1 : ¬ (j : Int) < (j : Int) := by omega
              have HR2 : Hid (R = delK key K) := by rw [HQ.out.2.2]; exact delK_all key K HKL.out
              have SN : Hid (FtW w (wr.setCell ⟨bt, 0, none⟩ (.slice a3 m3 c3)) bt (.slice a3 m3 c3) m3 (delK key K) ∧ KyR (wr.setCell ⟨bt, 0, none⟩ (.slice a3 m3 c3)) bt ar (delK key K) ∧ rl ≤ cr ∧ cr ≤ 9223372036854775807) := by
                have q := RS.out wr HQ.out.2.1
                have ho := HQ.out.1
                have hcp := own_cap ho
                refine ⟨q.2.1.set HB2.out q.2.2.2, ?_, hcp.1, hcp.2⟩
                rw [← HR2.out]
                exact (own_ky (by rw [← HRl.out]; exact ho) hbt5).set _
              have q := RS.out wr HQ.out.2.1
              have r1 := q.1.cell 1
              have y0 := q.2.1.bx.cell 0
              simp at r1 y0
              have yl := q.2.1.bx.lt
              have yf := q.2.1.bx.frozen 0
              have rl' := q.1.lt
              clear q RS HQ
              go_upto_region 30 with fail
              generalize wr.setCell ⟨bt, 0, none⟩ (.slice a3 m3 c3) = WS at SN ⊢
              clear r1 y0 yl yf rl'
              have y0 := SN.out.1.bx.cell 0
              simp at y0
              have HVs : Hid (Calls Try.prog 15 #[.agg #[.slice a3 m3 c3]] WS fun e w' => e = .returned (.bool true) ∧ Below WS.heap.size WS w') := validS_any _ m3 _ _ _ SN.out.1.VK
              go_wp2_with fail
              (with_reducible refine HVs.out.mono ?_)
              rintro e w8 ⟨rfl, hb8⟩
              have S8 : Hid (FtS w w8 bt (.slice ar rl cr) (k + 1) (delK key K)) := ⟨ar, cr, m3, _, by rw [← HR2.out, HRl.out], SN.out.1.below hb8, SN.out.2.1.below hb8, by rw [← HR2.out, ← HRl.out]; exact SN.out.2.2, delK_asc S2.out.2.2, by rw [← HR2.out, ← HRl.out]; omega⟩
              clear hb8 y0 HVs SN
              go_wp2
              go_roundw
              case rel => exact ⟨k + 1, delK key K, by omega, by go_num, S8.out⟩
              case measure => simp [intOf]; omega
        | false =>
          have HDv : Hid (Calls Try.prog 13 #[.agg #[.slice av m cv], .string key] W2 (fun e w' => ∃ K', putK key K K' ∧ RetV W2 K' (key ∉ K) e w')) := insV_any key _ m _ K W2 S2.out.1.VK HKS.out (by rw [← HKL.out]; omega)
          go_wp2_with fail
          (with_reducible refine HDv.out.mono ?_)
          rintro e w3 ⟨K', hput, hb3, ok, a3, m3, c3, rfl, hok, hm3, hvk3⟩
          have HPut : Hid (putK key K K') := hput
          clear hput
          have S3 : Hid (FtW w (w3.alloc (.cells #[.bool ok, .slice a3 m3 c3] 30)) bt (.slice av m cv) m K ∧ KyR (w3.alloc (.cells #[.bool ok, .slice a3 m3 c3] 30)) bt ak K ∧ VK (w3.alloc (.cells #[.bool ok, .slice a3 m3 c3] 30)) W2.heap.size (.slice a3 m3 c3) m3 (K') ∧ bt < W2.heap.size) := by
            obtain ⟨q1, q2, q3, q4, q5, q6, q7, q8, q9, q10, q11, q12⟩ := hvk3
            exact ⟨(S2.out.1.below hb3).below (below_alloc _ _), (S2.out.2.1.below hb3).below (below_alloc _ _), ⟨q1, q2, q3, q4, q5, q6, q7, q8, q9, q10.below (below_alloc _ _), q11, q12⟩, yl⟩
          have BR : Hid (Bx (w3.alloc (.cells #[.bool ok, .slice a3 m3 c3] 30)) w3.heap.size 30 #[.bool ok, .slice a3 m3 c3] ∧ bt ≠ w3.heap.size) := ⟨Bx.new _ _ _, by have := hb3.size; omega⟩
          have HOk : Hid (ok = true ↔ key ∉ K) := hok
          clear y0 yl yf hb3 hvk3 hok HDv
          go_upto_region 26 with fail
          generalize w3.alloc (.cells #[.bool ok, .slice a3 m3 c3] 30) = W5 at S3 BR ⊢
          generalize w3.heap.size = br at BR ⊢
          have r0 := BR.out.1.cell 0
          have r1 := BR.out.1.cell 1
          simp at r0 r1
          have rl := BR.out.1.lt
          have r0' : W5.drew.cell? ⟨br, 0, none⟩ = some (.bool ok) := r0
          refine wp_region_late (S := fun w' => w'.cell? ⟨br, 0, none⟩ = some (.bool ok)) 5 (by kernel_rfl) r0' (fun hHeld => ?_)
          refine late_take 0 .zero (v := ?_) (by kernel_rfl) (by kernel_rfl) (by kernel_rfl) (by kernel_rfl) (fun _ _ _ h => h) (by rfl) ?_ (by assumption) ?_
          rotate_left
          · (intro w hSw; (try dsimp only at hSw); go_simp) <;> with_reducible rfl
          simp only [Act.put, List.setIfInBounds_toArray, List.set_cons_zero, List.set_cons_succ]
          refine late_take 1 (.succ .zero) (v := ?_) (by kernel_rfl) (by kernel_rfl) (by kernel_rfl) (by kernel_rfl) (fun _ _ _ h => h) (by rfl) ?_ (by assumption) ?_
          rotate_left
          · (intro w hSw; (try dsimp only at hSw); go_simp) <;> with_reducible rfl
          simp only [Act.put, List.setIfInBounds_toArray, List.set_cons_zero, List.set_cons_succ]
          refine late_take 2 (.succ (.succ .zero)) (v := ?_) (by kernel_rfl) (by kernel_rfl) (by kernel_rfl) (by kernel_rfl) (fun _ _ _ h => h) (by rfl) ?_ (by assumption) ?_
          rotate_left
          · (intro w hSw; (try dsimp only at hSw); go_simp) <;> with_reducible rfl
          simp only [Act.put, List.setIfInBounds_toArray, List.set_cons_zero, List.set_cons_succ]
          refine late_take 3 (.succ (.succ (.succ .zero))) (v := ?_) (by kernel_rfl) (by kernel_rfl) (by kernel_rfl) (by kernel_rfl) (fun _ _ _ h => h) (by rfl) ?_ (by assumption) ?_
          rotate_left
          · (intro w hSw; (try dsimp only at hSw); go_simp) <;> with_reducible rfl
          simp only [Act.put, List.setIfInBounds_toArray, List.set_cons_zero, List.set_cons_succ]
          refine late_one 4 (.succ (.succ (.succ (.succ .zero)))) (by kernel_rfl) (fun K hK => ?_)
          refine step_t2 (by rfl) 12 98 99 _ (by rfl) (.slice ak kl ck) (.string key) (by rfl) (by rfl) (fun _ _ => by rfl) ?_
          refine (HLh.out _ (S3.out.2.1.below (Below.refl _ _).drew)).mono ?_
          rintro e w6 ⟨hh, rfl, hhb, hw6⟩
          have ehh : hh = !ok := bool_not' hhb HOk.out
          subst hh
          subst w6
          refine ⟨_, rfl, ?_⟩
          refine hK.out _ _ ?_ (fun hHeld2 => ?_)
          · (intro _; exact hHeld)
          clear hK K
          replace hHeld := hHeld2 (by decide)
          clear hHeld2
          try simp only [Act.put, List.setIfInBounds_toArray, List.set_cons_zero, List.set_cons_succ]
          refine late_one 5 (.succ (.succ (.succ (.succ (.succ .zero))))) (by kernel_rfl) (fun K hK => ?_)
          go_simp
          refine hK.out _ _ ?_ (fun hHeld2 => ?_)
          · (intro hne; exact absurd rfl hne)
          clear hK K hHeld2
          refine wpLate_done (by kernel_rfl) ?_ _
          clear hHeld hhb r0'
          have HPu : Hid (Calls Try.prog 14 #[.slice ak kl ck, .string key] W5.drew (RetPut ak K key W5.drew)) := lwPut_any ak kl ck K key W5.drew (by rw [HKL.out]; exact (S3.out.2.1.below (Below.refl _ _).drew).1) (by omega) hck S2.out.2.2
          have RS : Hid (∀ W, Below W5.heap.size W5 W → Bx W br 30 #[.bool ok, .slice a3 m3 c3] ∧ FtW w W bt (.slice av m cv) m K ∧ KyR W bt ak K ∧ VK W W2.heap.size (.slice a3 m3 c3) m3 K') := fun W hW => ⟨BR.out.1.below hW, S3.out.1.below hW, S3.out.2.1.below hW, S3.out.2.2.1.below hW⟩
          have hbt5 : bt < W5.heap.size := S3.out.1.bx.lt
          have HB2 : Hid (bt < W2.heap.size) := S3.out.2.2.2
          clear r0 r1 rl S3 BR HLh HOk
          go_wp2_with fail
          (with_reducible refine HPu.out.mono ?_)
          rintro e w7 ⟨a7, c7, L7, rfl, hrd7, hcp7, hb7, hd7⟩
          have hb7' : Below W5.heap.size W5 w7 := (Below.refl _ _).drew.trans hb7
          have HL7 : Hid (L7 = K' ∧ Asc K' ∧ K'.length ≤ k + 1) := by
            rcases HPut.out with ⟨p1, p2⟩ | ⟨p1, p2⟩
            · rcases hd7 with ⟨d1, d2, _⟩ | ⟨d1, _⟩
              · exact ⟨by rw [d2, p2], by rw [p2]; exact S2.out.2.2, by rw [p2, ← HKL.out]; omega⟩
              · exact absurd p1 d1
            · rcases hd7 with ⟨d1, _⟩ | ⟨d1, d2, _⟩
              · exact absurd d1 p1
              · exact ⟨by rw [d2, p2], by rw [p2]; exact insK_asc S2.out.2.2 p1, by rw [p2, insK_length, ← HKL.out]; omega⟩
          have SN : Hid (FtW w (w7.setCell ⟨bt, 0, none⟩ (.slice a3 m3 c3)) bt (.slice a3 m3 c3) m3 K' ∧ KyR (w7.setCell ⟨bt, 0, none⟩ (.slice a3 m3 c3)) bt a7 K' ∧ K'.length ≤ c7 ∧ c7 ≤ 9223372036854775807) := by
            have q := RS.out w7 hb7'
            refine ⟨q.2.1.set HB2.out q.2.2.2, ?_, by rw [← HL7.out.1]; exact hcp7.1, hcp7.2⟩
            rw [← HL7.out.1]
            refine KyR.set ⟨hrd7, fun b o e h0 => ?_⟩ _
            rcases hd7 with ⟨d1, d2, d3⟩ | ⟨d1, d2, d3⟩
            · rw [d2] at h0
              exact q.2.2.1.2 b o (by rw [← d3]; exact e) h0
            · have := d3 b o e
              have hz : W5.drew.heap.size = W5.heap.size := rfl
              omega
          obtain ⟨l7, hl7⟩ : ∃ l7, l7 = L7.length := ⟨_, rfl⟩
          have Hl7 : Hid (l7 = K'.length) := by rw [hl7, HL7.out.1]; rfl
          rw [← hl7]
          have q := RS.out w7 hb7'
          have r1 := q.1.cell 1
          have y0 := q.2.1.bx.cell 0
          simp at r1 y0
          have yl := q.2.1.bx.lt
          have yf := q.2.1.bx.frozen 0
          have rl' := q.1.lt
          clear q RS hrd7 hcp7 hb7 hd7 hb7' HPu hl7
          go_upto_region 30 with fail
          generalize w7.setCell ⟨bt, 0, none⟩ (.slice a3 m3 c3) = WS at SN ⊢
          clear r1 y0 yl yf rl'
          have y0 := SN.out.1.bx.cell 0
          simp at y0
          have HVs : Hid (Calls Try.prog 15 #[.agg #[.slice a3 m3 c3]] WS fun e w' => e = .returned (.bool true) ∧ Below WS.heap.size WS w') := validS_any _ m3 _ _ _ SN.out.1.VK
          go_wp2_with fail
          (with_reducible refine HVs.out.mono ?_)
          rintro e w8 ⟨rfl, hb8⟩
          have S8 : Hid (FtS w w8 bt (.slice a7 l7 c7) (k + 1) K') := ⟨a7, c7, m3, _, by rw [Hl7.out], SN.out.1.below hb8, SN.out.2.1.below hb8, SN.out.2.2, HL7.out.2.1, HL7.out.2.2⟩
          clear hb8 y0 HVs SN
          go_wp2
          go_roundw
          case rel => exact ⟨k + 1, K', by omega, by go_num, S8.out⟩
          case measure => simp [intOf]; omega

  · have h30d : decide ((n0 : Int) < 30) = false := decide_eq_false (by omega)
    have h30i : ¬ (n0 : Int) < 30 := by omega
    go_upto_region 8 with fail
    have K0 : Hid (KyR ((w1.alloc (.cells #[.slice a1 1 c1] 25)).alloc (.cells #[] 9)) bt (some ⟨bt + 1, 0, none⟩) []) := ⟨⟨rfl, strL_one [], .inl rfl⟩, fun _ _ _ h => absurd rfl h⟩
    rw [← hbt]
    generalize (w1.alloc (.cells #[.slice a1 1 c1] 25)).alloc (.cells #[] 9) = W0 at S0 K0 ⊢
    have hcv := run_conv2
    have hcv1 := run_conv1
    clear hbt h30d h30i
    go_wp2
    go_loopw [6, 8, 9, 10, 11, 12, 13, 14] (fun ks i _ _ _ _ _ _ wr => ∃ (k : Nat) (K : List ByteArray), k ≤ 90 ∧ i = .int .i64 k ∧ FtS w wr bt ks k K) (fun _ i _ _ _ _ _ _ _ => 90 - (intOf i).toNat)
    case atStart => exact ⟨0, [], by omega, rfl, _, 0, 1, _, rfl, S0.out, K0.out, ⟨Nat.le_refl _, by omega⟩, List.Pairwise.nil, Nat.le_refl _⟩
    case round =>
      obtain ⟨k, K, hk, rfl, ak, ck, m, vt, rfl, hW, hKy, hck, hasc, hKk⟩ := hrel
      have SW : Hid (FtW w wr bt vt m K ∧ KyR wr bt ak K ∧ Asc K) := ⟨hW, hKy, hasc⟩
      clear hW hKy hasc S0 K0
      obtain ⟨kl, hkl⟩ : ∃ kl, kl = K.length := ⟨_, rfl⟩
      have HKL : Hid (kl = K.length) := hkl
      rw [← hkl] at hck hKk ⊢
      clear hkl
      have k0 : (0 : Int) ≤ (k : Int) := by omega
      by_cases hlt : k < n0 ∧ k < 90
      case neg =>
        by_cases hlt1 : k < n0
        · have l1 : (k : Int) < (n0 : Int) := by omega
          have l1d : decide ((k : Int) < (n0 : Int)) = true := decide_eq_true l1
          have l2 : ¬ (k : Int) < 90 := by omega
          have l2d : decide ((k : Int) < 90) = false := decide_eq_false l2
          clear hlt
          have HL3 : Hid (Calls Try.prog 10 #[.slice a2 n2 c2, .int .i64 1] wr fun e w' => ∃ v : Int, e = .returned (.int .i64 v) ∧ (0 ≤ v ∧ v < 256) ∧ w' = wr) := lwAt_any a2 n2 c2 1 f2 wr (HA.out.2.2.1.below SW.out.1.bel) HA.out.2.2.2 (by omega) (by omega)
          go_wp2_with fail
          (with_reducible refine HL3.out.mono ?_)
          rintro e w2 ⟨x, rfl, ⟨hx0, hx1⟩, hw2⟩
          subst w2
          go_upto_region 33 with fail
          have S2 : Hid (FtW w (wr.alloc (.cells #[.int .u8 (97 + x % 8)] 5)) bt vt m K ∧ KyR (wr.alloc (.cells #[.int .u8 (97 + x % 8)] 5)) bt ak K ∧ Asc K) := ⟨SW.out.1.below (below_alloc _ _), SW.out.2.1.below (below_alloc _ _), SW.out.2.2⟩
          generalize wr.alloc (.cells #[.int .u8 (97 + x % 8)] 5) = W2 at S2 ⊢
          generalize strOfNums [97 + x % 8] = lo at ⊢
          clear SW hcv hcv1 HL3
          obtain ⟨av, cv, rfl⟩ := S2.out.1.form
          have HO : Hid ((W2.alloc (.cells #[] 9)).ownsRow W2.heap.size 9 1 (.slice (some ⟨W2.heap.size, 0, none⟩) 0 0) 0 [] ∧ Below W2.heap.size W2 (W2.alloc (.cells #[] 9))) := ⟨own_empty W2 9 W2.heap.size 1 (Nat.le_refl _), below_alloc _ _⟩
          have RS : Hid (∀ W, Below W2.heap.size W2 W → FtW w W bt (.slice av m cv) m K ∧ KyR W bt ak K) := fun W hW => ⟨S2.out.1.below hW, S2.out.2.1.below hW⟩
          clear S2
          go_wp2
          go_loopw [16, 17, 18] (fun ins rk i wr => ∃ (j : Nat) (F : List ByteArray), j ≤ kl ∧ i = .int .i64 j ∧ rk = .int .i64 (cntL lo (K.take j) : Int) ∧ F = fil lo { data := #[] } (K.take j) ∧ wr.ownsRow W2.heap.size 9 1 ins F.length (strL F) ∧ Below W2.heap.size W2 wr) (fun _ _ i _ => kl - (intOf i).toNat)
          case atStart => exact ⟨0, [], Nat.zero_le _, rfl, rfl, rfl, HO.out.1, HO.out.2⟩
          case round =>
            obtain ⟨j, F, hj, rfl, rfl, hF, hown, hbq⟩ := hrel
            obtain ⟨ar, cr, er, _⟩ := own_form hown
            subst er
            have HQ : Hid (wr.ownsRow W2.heap.size 9 1 (.slice ar F.length cr) F.length (strL F) ∧ Below W2.heap.size W2 wr ∧ F = fil lo { data := #[] } (K.take j)) := ⟨hown, hbq, hF⟩
            have hFl : F.length ≤ j := by
              have := fil_le lo { data := #[] } (K.take j)
              rw [hF]
              rw [List.length_take] at this
              omega
            obtain ⟨fl, hfl⟩ : ∃ fl, fl = F.length := ⟨_, rfl⟩
            have HFl : Hid (fl = F.length) := hfl
            rw [← hfl] at hFl HQ ⊢
            obtain ⟨rk, hrk⟩ : ∃ rk, rk = cntL lo (K.take j) := ⟨_, rfl⟩
            have HRk : Hid (rk = cntL lo (K.take j)) := hrk
            have hrkj : rk ≤ j := by
              have := cntL_le lo (K.take j)
              rw [List.length_take] at this
              omega
            rw [← hrk]
            clear hown hbq hF HO hfl hrk
            have j0 : (0 : Int) ≤ (j : Int) := by omega
            by_cases hjl : j < kl
            · have j1 : (j : Int) < (kl : Int) := by omega
              have j1d : decide ((j : Int) < (kl : Int)) = true := decide_eq_true j1
              have hky := (RS.out wr HQ.out.2.1).2
              obtain ⟨bb, oo, ea, s1⟩ := hky.1.str j (by rw [← HKL.out]; exact hjl)
              have hjK : j < K.length := by rw [← HKL.out]; exact hjl
              clear hky
              by_cases hq : Op.bytesLess (gt K j).toList lo.toList = true
              · have HN : Hid (F = fil lo { data := #[] } (K.take (j + 1)) ∧ cntL lo (K.take (j + 1)) = rk + 1) := ⟨by rw [fil_no hjK hq]; exact HQ.out.2.2, by rw [cntL_tk hjK, if_pos hq, HRk.out]⟩
                subst ea
                go_wp2
                go_roundw
                case rel => exact ⟨j + 1, F, by omega, by go_num, by rw [HN.out.2]; go_num, HN.out.1, by rw [← HFl.out]; exact HQ.out.1, HQ.out.2.1⟩
                case measure => simp [intOf]; omega
              · have hq' : Op.bytesLess (gt K j).toList lo.toList = false := by simpa using hq
                have HN : Hid (F ++ [gt K j] = fil lo { data := #[] } (K.take (j + 1)) ∧ cntL lo (K.take (j + 1)) = rk) := ⟨by rw [fil_yes hjK hq', ← HQ.out.2.2], by rw [cntL_tk hjK, if_neg hq, HRk.out]; rfl⟩
                have HO3 : Hid ((wr.alloc (.cells #[.string (gt K j)] 9)).ownsRow W2.heap.size 9 1 (.slice ar fl cr) fl (strL F) ∧ RdV (wr.alloc (.cells #[.string (gt K j)] 9)) (some ⟨wr.heap.size, 0, none⟩) 1 (strL [gt K j])) := ⟨own_below HQ.out.1 (below_alloc _ _), own_one⟩
                have hzq := HQ.out.2.1.size
                subst ea
                clear hq
                go_wp2_with (at_builtin; refine wpList_append_vS rfl _ _ rfl W2.heap.size (.slice ar fl cr) fl _ rfl HO3.out.1 _ 1 1 _ rfl HO3.out.2 (by omega) (by simp; omega) ?_)
                intro v7 w7 ho7 hg7
                have H7 : Hid (w7.ownsRow W2.heap.size 9 1 v7 (F ++ [gt K j]).length (strL (F ++ [gt K j])) ∧ Below W2.heap.size W2 w7) := by
                  refine ⟨?_, (HQ.out.2.1.alloc hzq _).grown hg7 (by simp; omega) (fun g e => (own_lt HO3.out.1 g e).1)⟩
                  rw [strL_app, List.length_append, ← HFl.out]
                  exact ho7
                obtain ⟨a7, c7, e7, _⟩ := own_form ho7
                subst e7
                clear ho7 hg7 HO3
                go_wp2
                go_roundw
                case rel => exact ⟨j + 1, F ++ [gt K j], by omega, by go_num, by rw [HN.out.2], HN.out.1, H7.out.1, H7.out.2⟩
                case measure => simp [intOf]; omega
            · obtain rfl : j = kl := by omega
              have j1 : ¬ (j : Int) < (j : Int) := by omega
              have HR2 : Hid (F = fil lo { data := #[] } K ∧ rk = cntL lo K) := by
                have e : K.take j = K := by rw [HKL.out, List.take_length]
                exact ⟨by rw [HQ.out.2.2, e], by rw [HRk.out, e]⟩
              have SN : Hid (FtW w wr bt (.slice av m cv) m K ∧ RdS wr ak j (gt K) ∧ RdS wr ar fl (gt F)) := by
                have q := RS.out wr HQ.out.2.1
                have ho := HQ.out.1
                refine ⟨q.1, by rw [HKL.out]; exact q.2.1.rdS, ?_⟩
                rw [HFl.out] at ho ⊢
                exact (own_rdv ho).rdS
              have y0 := SN.out.1.bx.cell 0
              simp at y0
              have HVi : Hid (Calls Try.prog 16 #[.agg #[.slice av m cv]] wr fun e w' => e = .returned (.bool true) ∧ Below wr.heap.size wr w') := validI_any _ m _ _ _ SN.out.1.VK
              clear RS HQ
              go_wp2_with fail
              (with_reducible refine HVi.out.mono ?_)
              rintro e w3 ⟨rfl, hb3⟩
              have S3 : Hid (FtW w w3 bt (.slice av m cv) m K ∧ RdS w3 ak j (gt K) ∧ RdS w3 ar fl (gt F)) := ⟨SN.out.1.below hb3, SN.out.2.1.below hb3, SN.out.2.2.below hb3⟩
              clear hb3 y0 SN HVi
              have y0 := S3.out.1.bx.cell 0
              simp at y0
              have HRg : Hid (Calls Try.prog 18 #[.agg #[.slice av m cv], .string { data := #[] }, .string { data := #[] }] w3 fun e w' => ∃ a c, e = .returned (.slice a j c) ∧ RdS w' a j (gt K) ∧ Below w3.heap.size w3 w') := by
                rw [HKL.out]
                exact rangeV_any _ _ _ m _ K w3 S3.out.1.VK K (fil_whole K).symm
              go_wp2_with fail
              (with_reducible refine HRg.out.mono ?_)
              rintro e w4 ⟨a4, c4, rfl, hr4, hb4⟩
              have S4 : Hid (FtW w w4 bt (.slice av m cv) m K ∧ RdS w4 ak j (gt K) ∧ RdS w4 ar fl (gt F)) := ⟨S3.out.1.below hb4, S3.out.2.1.below hb4, S3.out.2.2.below hb4⟩
              have HTx : Hid (Calls Try.prog 17 #[.slice a4 j c4, .slice ak j ck] w4 fun e w' => e = .returned (.bool true) ∧ Below w4.heap.size w4 w') := lwTexts_rd a4 ak j c4 ck K w4 hr4 S4.out.2.1 (by omega)
              clear hr4 hb4 y0 S3 HRg
              go_wp2_with fail
              (with_reducible refine HTx.out.mono ?_)
              rintro e w5 ⟨rfl, hb5⟩
              have S5 : Hid (FtW w w5 bt (.slice av m cv) m K ∧ RdS w5 ar fl (gt F)) := ⟨S4.out.1.below hb5, S4.out.2.2.below hb5⟩
              clear hb5 S4 HTx
              have y0 := S5.out.1.bx.cell 0
              simp at y0
              have HRh : Hid (Calls Try.prog 18 #[.agg #[.slice av m cv], .string lo, .string { data := #[] }] w5 fun e w' => ∃ a c, e = .returned (.slice a fl c) ∧ RdS w' a fl (gt F) ∧ Below w5.heap.size w5 w') := by
                rw [HFl.out]
                exact rangeV_any _ _ _ m _ K w5 S5.out.1.VK F HR2.out.1
              go_wp2_with fail
              (with_reducible refine HRh.out.mono ?_)
              rintro e w6 ⟨a6, c6, rfl, hr6, hb6⟩
              have S6 : Hid (FtW w w6 bt (.slice av m cv) m K) := S5.out.1.below hb6
              have HTy : Hid (Calls Try.prog 17 #[.slice a6 fl c6, .slice ar fl cr] w6 fun e w' => e = .returned (.bool true) ∧ Below w6.heap.size w6 w') := lwTexts_rd a6 ar fl c6 cr F w6 hr6 (S5.out.2.below hb6) (by omega)
              clear hr6 hb6 y0 S5 HRh
              go_wp2_with fail
              (with_reducible refine HTy.out.mono ?_)
              rintro e w7 ⟨rfl, hb7⟩
              have S7 : Hid (FtW w w7 bt (.slice av m cv) m K) := S6.out.below hb7
              clear hb7 S6 HTy
              have y0 := S7.out.bx.cell 0
              simp at y0
              have HRk2 : Hid (Calls Try.prog 19 #[.agg #[.slice av m cv], .string lo] w7 fun e w' => e = .returned (.int .i64 (rk : Int)) ∧ Below w7.heap.size w7 w') := by
                rw [HR2.out.2]
                exact rankV_any lo _ m _ K w7 S7.out.VK
              go_wp2_with fail
              (with_reducible refine HRk2.out.mono ?_)
              rintro e w8 ⟨rfl, hb8⟩
              have HE : Hid (Below w.heap.size w w8) := S7.out.bel.trans (hb8.mono S7.out.bel.size)
              have hrr : ((rk : Int) == (rk : Int)) = true := by simp
              clear hb8 y0 S7 HRk2
              go_wp2
              go_ret
              exact ⟨rfl, HE.out⟩
        · have l1 : ¬ (k : Int) < (n0 : Int) := by omega
          have l1d : decide ((k : Int) < (n0 : Int)) = false := decide_eq_false l1
          clear hlt
          have HL3 : Hid (Calls Try.prog 10 #[.slice a2 n2 c2, .int .i64 1] wr fun e w' => ∃ v : Int, e = .returned (.int .i64 v) ∧ (0 ≤ v ∧ v < 256) ∧ w' = wr) := lwAt_any a2 n2 c2 1 f2 wr (HA.out.2.2.1.below SW.out.1.bel) HA.out.2.2.2 (by omega) (by omega)
          go_wp2_with fail
          (with_reducible refine HL3.out.mono ?_)
          rintro e w2 ⟨x, rfl, ⟨hx0, hx1⟩, hw2⟩
          subst w2
          go_upto_region 33 with fail
          have S2 : Hid (FtW w (wr.alloc (.cells #[.int .u8 (97 + x % 8)] 5)) bt vt m K ∧ KyR (wr.alloc (.cells #[.int .u8 (97 + x % 8)] 5)) bt ak K ∧ Asc K) := ⟨SW.out.1.below (below_alloc _ _), SW.out.2.1.below (below_alloc _ _), SW.out.2.2⟩
          generalize wr.alloc (.cells #[.int .u8 (97 + x % 8)] 5) = W2 at S2 ⊢
          generalize strOfNums [97 + x % 8] = lo at ⊢
          clear SW hcv hcv1 HL3
          obtain ⟨av, cv, rfl⟩ := S2.out.1.form
          have HO : Hid ((W2.alloc (.cells #[] 9)).ownsRow W2.heap.size 9 1 (.slice (some ⟨W2.heap.size, 0, none⟩) 0 0) 0 [] ∧ Below W2.heap.size W2 (W2.alloc (.cells #[] 9))) := ⟨own_empty W2 9 W2.heap.size 1 (Nat.le_refl _), below_alloc _ _⟩
          have RS : Hid (∀ W, Below W2.heap.size W2 W → FtW w W bt (.slice av m cv) m K ∧ KyR W bt ak K) := fun W hW => ⟨S2.out.1.below hW, S2.out.2.1.below hW⟩
          clear S2
          go_wp2
          go_loopw [16, 17, 18] (fun ins rk i wr => ∃ (j : Nat) (F : List ByteArray), j ≤ kl ∧ i = .int .i64 j ∧ rk = .int .i64 (cntL lo (K.take j) : Int) ∧ F = fil lo { data := #[] } (K.take j) ∧ wr.ownsRow W2.heap.size 9 1 ins F.length (strL F) ∧ Below W2.heap.size W2 wr) (fun _ _ i _ => kl - (intOf i).toNat)
          case atStart => exact ⟨0, [], Nat.zero_le _, rfl, rfl, rfl, HO.out.1, HO.out.2⟩
          case round =>
            obtain ⟨j, F, hj, rfl, rfl, hF, hown, hbq⟩ := hrel
            obtain ⟨ar, cr, er, _⟩ := own_form hown
            subst er
            have HQ : Hid (wr.ownsRow W2.heap.size 9 1 (.slice ar F.length cr) F.length (strL F) ∧ Below W2.heap.size W2 wr ∧ F = fil lo { data := #[] } (K.take j)) := ⟨hown, hbq, hF⟩
            have hFl : F.length ≤ j := by
              have := fil_le lo { data := #[] } (K.take j)
              rw [hF]
              rw [List.length_take] at this
              omega
            obtain ⟨fl, hfl⟩ : ∃ fl, fl = F.length := ⟨_, rfl⟩
            have HFl : Hid (fl = F.length) := hfl
            rw [← hfl] at hFl HQ ⊢
            obtain ⟨rk, hrk⟩ : ∃ rk, rk = cntL lo (K.take j) := ⟨_, rfl⟩
            have HRk : Hid (rk = cntL lo (K.take j)) := hrk
            have hrkj : rk ≤ j := by
              have := cntL_le lo (K.take j)
              rw [List.length_take] at this
              omega
            rw [← hrk]
            clear hown hbq hF HO hfl hrk
            have j0 : (0 : Int) ≤ (j : Int) := by omega
            by_cases hjl : j < kl
            · have j1 : (j : Int) < (kl : Int) := by omega
              have j1d : decide ((j : Int) < (kl : Int)) = true := decide_eq_true j1
              have hky := (RS.out wr HQ.out.2.1).2
              obtain ⟨bb, oo, ea, s1⟩ := hky.1.str j (by rw [← HKL.out]; exact hjl)
              have hjK : j < K.length := by rw [← HKL.out]; exact hjl
              clear hky
              by_cases hq : Op.bytesLess (gt K j).toList lo.toList = true
              · have HN : Hid (F = fil lo { data := #[] } (K.take (j + 1)) ∧ cntL lo (K.take (j + 1)) = rk + 1) := ⟨by rw [fil_no hjK hq]; exact HQ.out.2.2, by rw [cntL_tk hjK, if_pos hq, HRk.out]⟩
                subst ea
                go_wp2
                go_roundw
                case rel => exact ⟨j + 1, F, by omega, by go_num, by rw [HN.out.2]; go_num, HN.out.1, by rw [← HFl.out]; exact HQ.out.1, HQ.out.2.1⟩
                case measure => simp [intOf]; omega
              · have hq' : Op.bytesLess (gt K j).toList lo.toList = false := by simpa using hq
                have HN : Hid (F ++ [gt K j] = fil lo { data := #[] } (K.take (j + 1)) ∧ cntL lo (K.take (j + 1)) = rk) := ⟨by rw [fil_yes hjK hq', ← HQ.out.2.2], by rw [cntL_tk hjK, if_neg hq, HRk.out]; rfl⟩
                have HO3 : Hid ((wr.alloc (.cells #[.string (gt K j)] 9)).ownsRow W2.heap.size 9 1 (.slice ar fl cr) fl (strL F) ∧ RdV (wr.alloc (.cells #[.string (gt K j)] 9)) (some ⟨wr.heap.size, 0, none⟩) 1 (strL [gt K j])) := ⟨own_below HQ.out.1 (below_alloc _ _), own_one⟩
                have hzq := HQ.out.2.1.size
                subst ea
                clear hq
                go_wp2_with (at_builtin; refine wpList_append_vS rfl _ _ rfl W2.heap.size (.slice ar fl cr) fl _ rfl HO3.out.1 _ 1 1 _ rfl HO3.out.2 (by omega) (by simp; omega) ?_)
                intro v7 w7 ho7 hg7
                have H7 : Hid (w7.ownsRow W2.heap.size 9 1 v7 (F ++ [gt K j]).length (strL (F ++ [gt K j])) ∧ Below W2.heap.size W2 w7) := by
                  refine ⟨?_, (HQ.out.2.1.alloc hzq _).grown hg7 (by simp; omega) (fun g e => (own_lt HO3.out.1 g e).1)⟩
                  rw [strL_app, List.length_append, ← HFl.out]
                  exact ho7
                obtain ⟨a7, c7, e7, _⟩ := own_form ho7
                subst e7
                clear ho7 hg7 HO3
                go_wp2
                go_roundw
                case rel => exact ⟨j + 1, F ++ [gt K j], by omega, by go_num, by rw [HN.out.2], HN.out.1, H7.out.1, H7.out.2⟩
                case measure => simp [intOf]; omega
            · obtain rfl : j = kl := by omega
              have j1 : ¬ (j : Int) < (j : Int) := by omega
              have HR2 : Hid (F = fil lo { data := #[] } K ∧ rk = cntL lo K) := by
                have e : K.take j = K := by rw [HKL.out, List.take_length]
                exact ⟨by rw [HQ.out.2.2, e], by rw [HRk.out, e]⟩
              have SN : Hid (FtW w wr bt (.slice av m cv) m K ∧ RdS wr ak j (gt K) ∧ RdS wr ar fl (gt F)) := by
                have q := RS.out wr HQ.out.2.1
                have ho := HQ.out.1
                refine ⟨q.1, by rw [HKL.out]; exact q.2.1.rdS, ?_⟩
                rw [HFl.out] at ho ⊢
                exact (own_rdv ho).rdS
              have y0 := SN.out.1.bx.cell 0
              simp at y0
              have HVi : Hid (Calls Try.prog 16 #[.agg #[.slice av m cv]] wr fun e w' => e = .returned (.bool true) ∧ Below wr.heap.size wr w') := validI_any _ m _ _ _ SN.out.1.VK
              clear RS HQ
              go_wp2_with fail
              (with_reducible refine HVi.out.mono ?_)
              rintro e w3 ⟨rfl, hb3⟩
              have S3 : Hid (FtW w w3 bt (.slice av m cv) m K ∧ RdS w3 ak j (gt K) ∧ RdS w3 ar fl (gt F)) := ⟨SN.out.1.below hb3, SN.out.2.1.below hb3, SN.out.2.2.below hb3⟩
              clear hb3 y0 SN HVi
              have y0 := S3.out.1.bx.cell 0
              simp at y0
              have HRg : Hid (Calls Try.prog 18 #[.agg #[.slice av m cv], .string { data := #[] }, .string { data := #[] }] w3 fun e w' => ∃ a c, e = .returned (.slice a j c) ∧ RdS w' a j (gt K) ∧ Below w3.heap.size w3 w') := by
                rw [HKL.out]
                exact rangeV_any _ _ _ m _ K w3 S3.out.1.VK K (fil_whole K).symm
              go_wp2_with fail
              (with_reducible refine HRg.out.mono ?_)
              rintro e w4 ⟨a4, c4, rfl, hr4, hb4⟩
              have S4 : Hid (FtW w w4 bt (.slice av m cv) m K ∧ RdS w4 ak j (gt K) ∧ RdS w4 ar fl (gt F)) := ⟨S3.out.1.below hb4, S3.out.2.1.below hb4, S3.out.2.2.below hb4⟩
              have HTx : Hid (Calls Try.prog 17 #[.slice a4 j c4, .slice ak j ck] w4 fun e w' => e = .returned (.bool true) ∧ Below w4.heap.size w4 w') := lwTexts_rd a4 ak j c4 ck K w4 hr4 S4.out.2.1 (by omega)
              clear hr4 hb4 y0 S3 HRg
              go_wp2_with fail
              (with_reducible refine HTx.out.mono ?_)
              rintro e w5 ⟨rfl, hb5⟩
              have S5 : Hid (FtW w w5 bt (.slice av m cv) m K ∧ RdS w5 ar fl (gt F)) := ⟨S4.out.1.below hb5, S4.out.2.2.below hb5⟩
              clear hb5 S4 HTx
              have y0 := S5.out.1.bx.cell 0
              simp at y0
              have HRh : Hid (Calls Try.prog 18 #[.agg #[.slice av m cv], .string lo, .string { data := #[] }] w5 fun e w' => ∃ a c, e = .returned (.slice a fl c) ∧ RdS w' a fl (gt F) ∧ Below w5.heap.size w5 w') := by
                rw [HFl.out]
                exact rangeV_any _ _ _ m _ K w5 S5.out.1.VK F HR2.out.1
              go_wp2_with fail
              (with_reducible refine HRh.out.mono ?_)
              rintro e w6 ⟨a6, c6, rfl, hr6, hb6⟩
              have S6 : Hid (FtW w w6 bt (.slice av m cv) m K) := S5.out.1.below hb6
              have HTy : Hid (Calls Try.prog 17 #[.slice a6 fl c6, .slice ar fl cr] w6 fun e w' => e = .returned (.bool true) ∧ Below w6.heap.size w6 w') := lwTexts_rd a6 ar fl c6 cr F w6 hr6 (S5.out.2.below hb6) (by omega)
              clear hr6 hb6 y0 S5 HRh
              go_wp2_with fail
              (with_reducible refine HTy.out.mono ?_)
              rintro e w7 ⟨rfl, hb7⟩
              have S7 : Hid (FtW w w7 bt (.slice av m cv) m K) := S6.out.below hb7
              clear hb7 S6 HTy
              have y0 := S7.out.bx.cell 0
              simp at y0
              have HRk2 : Hid (Calls Try.prog 19 #[.agg #[.slice av m cv], .string lo] w7 fun e w' => e = .returned (.int .i64 (rk : Int)) ∧ Below w7.heap.size w7 w') := by
                rw [HR2.out.2]
                exact rankV_any lo _ m _ K w7 S7.out.VK
              go_wp2_with fail
              (with_reducible refine HRk2.out.mono ?_)
              rintro e w8 ⟨rfl, hb8⟩
              have HE : Hid (Below w.heap.size w w8) := S7.out.bel.trans (hb8.mono S7.out.bel.size)
              have hrr : ((rk : Int) == (rk : Int)) = true := by simp
              clear hb8 y0 S7 HRk2
              go_wp2
              go_ret
              exact ⟨rfl, HE.out⟩
      case pos =>
        obtain ⟨hlt1, hlt2⟩ := hlt
        have l1 : (k : Int) < (n0 : Int) := by omega
        have l2 : (k : Int) < 90 := by omega
        have l1d : decide ((k : Int) < (n0 : Int)) = true := decide_eq_true l1
        have l2d : decide ((k : Int) < 90) = true := decide_eq_true l2
        have HL1 : Hid (Calls Try.prog 10 #[.slice a n0 c, .int .i64 k] wr fun e w' => ∃ v : Int, e = .returned (.int .i64 v) ∧ (0 ≤ v ∧ v < 256) ∧ w' = wr) := lwAt_any a n0 c k f wr (HA.out.1.below SW.out.1.bel) HA.out.2.1 (by omega) (by omega)
        have HL2 : Hid (Calls Try.prog 10 #[.slice a2 n2 c2, .int .i64 k] wr fun e w' => ∃ v : Int, e = .returned (.int .i64 v) ∧ (0 ≤ v ∧ v < 256) ∧ w' = wr) := lwAt_any a2 n2 c2 k f2 wr (HA.out.2.2.1.below SW.out.1.bel) HA.out.2.2.2 (by omega) (by omega)
        go_wp2_with fail
        (with_reducible refine HL1.out.mono ?_)
        rintro e w2 ⟨x, rfl, ⟨hx0, hx1⟩, hw2⟩
        subst w2
        go_wp2_with fail
        (with_reducible refine HL2.out.mono ?_)
        rintro e w2 ⟨x2, rfl, ⟨hy0, hy1⟩, hw2⟩
        subst w2
        clear HL1 HL2 l1 l2 l1d l2d
        go_upto_region 13 with fail
        have S2 : Hid (FtW w (wr.alloc (.cells #[.int .u8 (97 + x % 8), .int .u8 (97 + x2 % 4)] 5)) bt vt m K ∧ KyR (wr.alloc (.cells #[.int .u8 (97 + x % 8), .int .u8 (97 + x2 % 4)] 5)) bt ak K ∧ Asc K) := ⟨SW.out.1.below (below_alloc _ _), SW.out.2.1.below (below_alloc _ _), SW.out.2.2⟩
        have HKS : Hid ((strOfNums [97 + x % 8, 97 + x2 % 4]).size ≤ 16) := by show 2 ≤ 16; omega
        generalize wr.alloc (.cells #[.int .u8 (97 + x % 8), .int .u8 (97 + x2 % 4)] 5) = W2 at S2 ⊢
        generalize strOfNums [97 + x % 8, 97 + x2 % 4] = key at HKS ⊢
        clear SW hcv hcv1
        obtain ⟨av, cv, rfl⟩ := S2.out.1.form
        have y0 := S2.out.1.bx.cell 0
        simp at y0
        have yl := S2.out.1.bx.lt
        have yf := S2.out.1.bx.frozen 0
        have HLh : Hid (∀ W, KyR W bt ak K → Calls Try.prog 12 #[.slice ak kl ck, .string key] W fun e w' => ∃ b : Bool, e = .returned (.bool b) ∧ (b = true ↔ key ∈ K) ∧ w' = W) := fun W hW => lwHas_any ak kl ck K key W (by rw [HKL.out]; exact hW.1) (by omega)
        cases hbr : (x / 8 % 3 == 0) with
        | true =>
          have HDv : Hid (Calls Try.prog 11 #[.agg #[.slice av m cv], .string key] W2 (RetV W2 (delK key K) (key ∈ K))) := delV_any key _ m _ K W2 S2.out.1.VK HKS.out
          go_wp2_with fail
          (with_reducible refine HDv.out.mono ?_)
          rintro e w3 ⟨hb3, ok, a3, m3, c3, rfl, hok, hm3, hvk3⟩
          have S3 : Hid (FtW w (w3.alloc (.cells #[.bool ok, .slice a3 m3 c3] 30)) bt (.slice av m cv) m K ∧ KyR (w3.alloc (.cells #[.bool ok, .slice a3 m3 c3] 30)) bt ak K ∧ VK (w3.alloc (.cells #[.bool ok, .slice a3 m3 c3] 30)) W2.heap.size (.slice a3 m3 c3) m3 (delK key K) ∧ bt < W2.heap.size) := by
            obtain ⟨q1, q2, q3, q4, q5, q6, q7, q8, q9, q10, q11, q12⟩ := hvk3
            exact ⟨(S2.out.1.below hb3).below (below_alloc _ _), (S2.out.2.1.below hb3).below (below_alloc _ _), ⟨q1, q2, q3, q4, q5, q6, q7, q8, q9, q10.below (below_alloc _ _), q11, q12⟩, yl⟩
          have BR : Hid (Bx (w3.alloc (.cells #[.bool ok, .slice a3 m3 c3] 30)) w3.heap.size 30 #[.bool ok, .slice a3 m3 c3] ∧ bt ≠ w3.heap.size) := ⟨Bx.new _ _ _, by have := hb3.size; omega⟩
          have HOk : Hid (ok = true ↔ key ∈ K) := hok
          clear y0 yl yf hb3 hvk3 hok HDv
          go_upto_region 15 with fail
          generalize w3.alloc (.cells #[.bool ok, .slice a3 m3 c3] 30) = W5 at S3 BR ⊢
          generalize w3.heap.size = br at BR ⊢
          have r0 := BR.out.1.cell 0
          have r1 := BR.out.1.cell 1
          simp at r0 r1
          have rl := BR.out.1.lt
          have r0' : W5.drew.cell? ⟨br, 0, none⟩ = some (.bool ok) := r0
          refine wp_region_late (S := fun w' => w'.cell? ⟨br, 0, none⟩ = some (.bool ok)) 5 (by kernel_rfl) r0' (fun hHeld => ?_)
          refine late_take 0 .zero (v := ?_) (by kernel_rfl) (by kernel_rfl) (by kernel_rfl) (by kernel_rfl) (fun _ _ _ h => h) (by rfl) ?_ (by assumption) ?_
          rotate_left
          · (intro w hSw; (try dsimp only at hSw); go_simp) <;> with_reducible rfl
          simp only [Act.put, List.setIfInBounds_toArray, List.set_cons_zero, List.set_cons_succ]
          refine late_take 1 (.succ .zero) (v := ?_) (by kernel_rfl) (by kernel_rfl) (by kernel_rfl) (by kernel_rfl) (fun _ _ _ h => h) (by rfl) ?_ (by assumption) ?_
          rotate_left
          · (intro w hSw; (try dsimp only at hSw); go_simp) <;> with_reducible rfl
          simp only [Act.put, List.setIfInBounds_toArray, List.set_cons_zero, List.set_cons_succ]
          refine late_take 2 (.succ (.succ .zero)) (v := ?_) (by kernel_rfl) (by kernel_rfl) (by kernel_rfl) (by kernel_rfl) (fun _ _ _ h => h) (by rfl) ?_ (by assumption) ?_
          rotate_left
          · (intro w hSw; (try dsimp only at hSw); go_simp) <;> with_reducible rfl
          simp only [Act.put, List.setIfInBounds_toArray, List.set_cons_zero, List.set_cons_succ]
          refine late_take 3 (.succ (.succ (.succ .zero))) (v := ?_) (by kernel_rfl) (by kernel_rfl) (by kernel_rfl) (by kernel_rfl) (fun _ _ _ h => h) (by rfl) ?_ (by assumption) ?_
          rotate_left
          · (intro w hSw; (try dsimp only at hSw); go_simp) <;> with_reducible rfl
          simp only [Act.put, List.setIfInBounds_toArray, List.set_cons_zero, List.set_cons_succ]
          refine late_one 4 (.succ (.succ (.succ (.succ .zero)))) (by kernel_rfl) (fun K hK => ?_)
          refine step_t2 (by rfl) 12 66 67 _ (by rfl) (.slice ak kl ck) (.string key) (by rfl) (by rfl) (fun _ _ => by rfl) ?_
          refine (HLh.out _ (S3.out.2.1.below (Below.refl _ _).drew)).mono ?_
          rintro e w6 ⟨hh, rfl, hhb, hw6⟩
          have ehh : hh = ok := bool_same hhb HOk.out
          subst hh
          subst w6
          refine ⟨_, rfl, ?_⟩
          refine hK.out _ _ ?_ (fun hHeld2 => ?_)
          · (intro _; exact hHeld)
          clear hK K
          replace hHeld := hHeld2 (by decide)
          clear hHeld2
          try simp only [Act.put, List.setIfInBounds_toArray, List.set_cons_zero, List.set_cons_succ]
          refine late_one 5 (.succ (.succ (.succ (.succ (.succ .zero))))) (by kernel_rfl) (fun K hK => ?_)
          go_simp
          refine hK.out _ _ ?_ (fun hHeld2 => ?_)
          · (intro hne; exact absurd rfl hne)
          clear hK K hHeld2
          refine wpLate_done (by kernel_rfl) ?_ _
          clear hHeld hhb r0'
          have RS : Hid (∀ W, Below W5.heap.size W5 W → Bx W br 30 #[.bool ok, .slice a3 m3 c3] ∧ FtW w W bt (.slice av m cv) m K ∧ KyR W bt ak K ∧ VK W W2.heap.size (.slice a3 m3 c3) m3 (delK key K)) := fun W hW => ⟨BR.out.1.below hW, S3.out.1.below hW, S3.out.2.1.below hW, S3.out.2.2.1.below hW⟩
          have hbt5 : bt < W5.heap.size := S3.out.1.bx.lt
          have HO : Hid ((W5.drew.alloc (.cells #[] 9)).ownsRow W5.heap.size 9 1 (.slice (some ⟨W5.heap.size, 0, none⟩) 0 0) 0 [] ∧ Below W5.heap.size W5 (W5.drew.alloc (.cells #[] 9))) := ⟨own_empty W5.drew 9 W5.heap.size 1 (Nat.le_refl _), (Below.refl _ _).drew.alloc (Nat.le_refl _) _⟩
          have HB2 : Hid (bt < W2.heap.size) := S3.out.2.2.2
          clear r0 r1 rl S3 BR HLh HOk
          go_wp2
          go_loopw [12, 13] (fun rs i wr => ∃ (j : Nat) (R : List ByteArray), j ≤ kl ∧ i = .int .i64 j ∧ R = delK key (K.take j) ∧ wr.ownsRow W5.heap.size 9 1 rs R.length (strL R) ∧ Below W5.heap.size W5 wr) (fun _ i _ => kl - (intOf i).toNat)
          case atStart => exact ⟨0, [], Nat.zero_le _, rfl, rfl, HO.out.1, HO.out.2⟩
          case round =>
            obtain ⟨j, R, hj, rfl, hR, hown, hbq⟩ := hrel
            obtain ⟨ar, cr, er, _⟩ := own_form hown
            subst er
            have HQ : Hid (wr.ownsRow W5.heap.size 9 1 (.slice ar R.length cr) R.length (strL R) ∧ Below W5.heap.size W5 wr ∧ R = delK key (K.take j)) := ⟨hown, hbq, hR⟩
            have hRl : R.length ≤ j := by
              have := delK_length key (K.take j)
              rw [hR]
              rw [List.length_take] at this
              omega
            obtain ⟨rl, hrl⟩ : ∃ rl, rl = R.length := ⟨_, rfl⟩
            have HRl : Hid (rl = R.length) := hrl
            rw [← hrl] at hRl HQ ⊢
            clear hown hbq hR HO hrl
            have j0 : (0 : Int) ≤ (j : Int) := by omega
            by_cases hjl : j < kl
            · have j1 : (j : Int) < (kl : Int) := by omega
              have j1d : decide ((j : Int) < (kl : Int)) = true := decide_eq_true j1
              have hky := (RS.out wr HQ.out.2.1).2.2.1
              obtain ⟨bb, oo, ea, s1⟩ := hky.1.str j (by rw [← HKL.out]; exact hjl)
              have hjK : j < K.length := by rw [← HKL.out]; exact hjl
              clear hky
              by_cases hq : ((gt K j).toList == key.toList) = true
              · have HN : Hid (R = delK key (K.take (j + 1))) := by rw [delK_drop hjK hq]; exact HQ.out.2.2
                subst ea
                go_wp2
                go_roundw
                case rel => exact ⟨j + 1, R, by omega, by go_num, HN.out, by rw [← HRl.out]; exact HQ.out.1, HQ.out.2.1⟩
                case measure => simp [intOf]; omega
              · have hq' : ((gt K j).toList == key.toList) = false := by simpa using hq
                have HN : Hid (R ++ [gt K j] = delK key (K.take (j + 1))) := by show _ = _; rw [delK_keep hjK hq', ← HQ.out.2.2]
                have HO3 : Hid ((wr.alloc (.cells #[.string (gt K j)] 9)).ownsRow W5.heap.size 9 1 (.slice ar rl cr) rl (strL R) ∧ RdV (wr.alloc (.cells #[.string (gt K j)] 9)) (some ⟨wr.heap.size, 0, none⟩) 1 (strL [gt K j])) := ⟨own_below HQ.out.1 (below_alloc _ _), own_one⟩
                have hzq := HQ.out.2.1.size
                subst ea
                clear hq
                go_wp2_with (at_builtin; refine wpList_append_vS rfl _ _ rfl W5.heap.size (.slice ar rl cr) rl _ rfl HO3.out.1 _ 1 1 _ rfl HO3.out.2 (by omega) (by simp; omega) ?_)
                intro v7 w7 ho7 hg7
                have H7 : Hid (w7.ownsRow W5.heap.size 9 1 v7 (R ++ [gt K j]).length (strL (R ++ [gt K j])) ∧ Below W5.heap.size W5 w7) := by
                  refine ⟨?_, (HQ.out.2.1.alloc hzq _).grown hg7 (by simp; omega) (fun g e => (own_lt HO3.out.1 g e).1)⟩
                  rw [strL_app, List.length_append, ← HRl.out]
                  exact ho7
                obtain ⟨a7, c7, e7, _⟩ := own_form ho7
                subst e7
                clear ho7 hg7 HO3
                go_wp2
                go_roundw
                case rel => exact ⟨j + 1, R ++ [gt K j], by omega, by go_num, HN.out, H7.out.1, H7.out.2⟩
                case measure => simp [intOf]; omega
            · obtain rfl : j = kl := by omega
              have j1 : ¬ (j : Int) < (j : Int) := by omega
              have HR2 : Hid (R = delK key K) := by rw [HQ.out.2.2]; exact delK_all key K HKL.out
              have SN : Hid (FtW w (wr.setCell ⟨bt, 0, none⟩ (.slice a3 m3 c3)) bt (.slice a3 m3 c3) m3 (delK key K) ∧ KyR (wr.setCell ⟨bt, 0, none⟩ (.slice a3 m3 c3)) bt ar (delK key K) ∧ rl ≤ cr ∧ cr ≤ 9223372036854775807) := by
                have q := RS.out wr HQ.out.2.1
                have ho := HQ.out.1
                have hcp := own_cap ho
                refine ⟨q.2.1.set HB2.out q.2.2.2, ?_, hcp.1, hcp.2⟩
                rw [← HR2.out]
                exact (own_ky (by rw [← HRl.out]; exact ho) hbt5).set _
              have q := RS.out wr HQ.out.2.1
              have r1 := q.1.cell 1
              have y0 := q.2.1.bx.cell 0
              simp at r1 y0
              have yl := q.2.1.bx.lt
              have yf := q.2.1.bx.frozen 0
              have rl' := q.1.lt
              clear q RS HQ
              go_upto_region 30 with fail
              generalize wr.setCell ⟨bt, 0, none⟩ (.slice a3 m3 c3) = WS at SN ⊢
              clear r1 y0 yl yf rl'
              have y0 := SN.out.1.bx.cell 0
              simp at y0
              have HVs : Hid (Calls Try.prog 15 #[.agg #[.slice a3 m3 c3]] WS fun e w' => e = .returned (.bool true) ∧ Below WS.heap.size WS w') := validS_any _ m3 _ _ _ SN.out.1.VK
              go_wp2_with fail
              (with_reducible refine HVs.out.mono ?_)
              rintro e w8 ⟨rfl, hb8⟩
              have S8 : Hid (FtS w w8 bt (.slice ar rl cr) (k + 1) (delK key K)) := ⟨ar, cr, m3, _, by rw [← HR2.out, HRl.out], SN.out.1.below hb8, SN.out.2.1.below hb8, by rw [← HR2.out, ← HRl.out]; exact SN.out.2.2, delK_asc S2.out.2.2, by rw [← HR2.out, ← HRl.out]; omega⟩
              clear hb8 y0 HVs SN
              go_wp2
              go_roundw
              case rel => exact ⟨k + 1, delK key K, by omega, by go_num, S8.out⟩
              case measure => simp [intOf]; omega
        | false =>
          have HDv : Hid (Calls Try.prog 13 #[.agg #[.slice av m cv], .string key] W2 (fun e w' => ∃ K', putK key K K' ∧ RetV W2 K' (key ∉ K) e w')) := insV_any key _ m _ K W2 S2.out.1.VK HKS.out (by rw [← HKL.out]; omega)
          go_wp2_with fail
          (with_reducible refine HDv.out.mono ?_)
          rintro e w3 ⟨K', hput, hb3, ok, a3, m3, c3, rfl, hok, hm3, hvk3⟩
          have HPut : Hid (putK key K K') := hput
          clear hput
          have S3 : Hid (FtW w (w3.alloc (.cells #[.bool ok, .slice a3 m3 c3] 30)) bt (.slice av m cv) m K ∧ KyR (w3.alloc (.cells #[.bool ok, .slice a3 m3 c3] 30)) bt ak K ∧ VK (w3.alloc (.cells #[.bool ok, .slice a3 m3 c3] 30)) W2.heap.size (.slice a3 m3 c3) m3 (K') ∧ bt < W2.heap.size) := by
            obtain ⟨q1, q2, q3, q4, q5, q6, q7, q8, q9, q10, q11, q12⟩ := hvk3
            exact ⟨(S2.out.1.below hb3).below (below_alloc _ _), (S2.out.2.1.below hb3).below (below_alloc _ _), ⟨q1, q2, q3, q4, q5, q6, q7, q8, q9, q10.below (below_alloc _ _), q11, q12⟩, yl⟩
          have BR : Hid (Bx (w3.alloc (.cells #[.bool ok, .slice a3 m3 c3] 30)) w3.heap.size 30 #[.bool ok, .slice a3 m3 c3] ∧ bt ≠ w3.heap.size) := ⟨Bx.new _ _ _, by have := hb3.size; omega⟩
          have HOk : Hid (ok = true ↔ key ∉ K) := hok
          clear y0 yl yf hb3 hvk3 hok HDv
          go_upto_region 26 with fail
          generalize w3.alloc (.cells #[.bool ok, .slice a3 m3 c3] 30) = W5 at S3 BR ⊢
          generalize w3.heap.size = br at BR ⊢
          have r0 := BR.out.1.cell 0
          have r1 := BR.out.1.cell 1
          simp at r0 r1
          have rl := BR.out.1.lt
          have r0' : W5.drew.cell? ⟨br, 0, none⟩ = some (.bool ok) := r0
          refine wp_region_late (S := fun w' => w'.cell? ⟨br, 0, none⟩ = some (.bool ok)) 5 (by kernel_rfl) r0' (fun hHeld => ?_)
          refine late_take 0 .zero (v := ?_) (by kernel_rfl) (by kernel_rfl) (by kernel_rfl) (by kernel_rfl) (fun _ _ _ h => h) (by rfl) ?_ (by assumption) ?_
          rotate_left
          · (intro w hSw; (try dsimp only at hSw); go_simp) <;> with_reducible rfl
          simp only [Act.put, List.setIfInBounds_toArray, List.set_cons_zero, List.set_cons_succ]
          refine late_take 1 (.succ .zero) (v := ?_) (by kernel_rfl) (by kernel_rfl) (by kernel_rfl) (by kernel_rfl) (fun _ _ _ h => h) (by rfl) ?_ (by assumption) ?_
          rotate_left
          · (intro w hSw; (try dsimp only at hSw); go_simp) <;> with_reducible rfl
          simp only [Act.put, List.setIfInBounds_toArray, List.set_cons_zero, List.set_cons_succ]
          refine late_take 2 (.succ (.succ .zero)) (v := ?_) (by kernel_rfl) (by kernel_rfl) (by kernel_rfl) (by kernel_rfl) (fun _ _ _ h => h) (by rfl) ?_ (by assumption) ?_
          rotate_left
          · (intro w hSw; (try dsimp only at hSw); go_simp) <;> with_reducible rfl
          simp only [Act.put, List.setIfInBounds_toArray, List.set_cons_zero, List.set_cons_succ]
          refine late_take 3 (.succ (.succ (.succ .zero))) (v := ?_) (by kernel_rfl) (by kernel_rfl) (by kernel_rfl) (by kernel_rfl) (fun _ _ _ h => h) (by rfl) ?_ (by assumption) ?_
          rotate_left
          · (intro w hSw; (try dsimp only at hSw); go_simp) <;> with_reducible rfl
          simp only [Act.put, List.setIfInBounds_toArray, List.set_cons_zero, List.set_cons_succ]
          refine late_one 4 (.succ (.succ (.succ (.succ .zero)))) (by kernel_rfl) (fun K hK => ?_)
          refine step_t2 (by rfl) 12 98 99 _ (by rfl) (.slice ak kl ck) (.string key) (by rfl) (by rfl) (fun _ _ => by rfl) ?_
          refine (HLh.out _ (S3.out.2.1.below (Below.refl _ _).drew)).mono ?_
          rintro e w6 ⟨hh, rfl, hhb, hw6⟩
          have ehh : hh = !ok := bool_not' hhb HOk.out
          subst hh
          subst w6
          refine ⟨_, rfl, ?_⟩
          refine hK.out _ _ ?_ (fun hHeld2 => ?_)
          · (intro _; exact hHeld)
          clear hK K
          replace hHeld := hHeld2 (by decide)
          clear hHeld2
          try simp only [Act.put, List.setIfInBounds_toArray, List.set_cons_zero, List.set_cons_succ]
          refine late_one 5 (.succ (.succ (.succ (.succ (.succ .zero))))) (by kernel_rfl) (fun K hK => ?_)
          go_simp
          refine hK.out _ _ ?_ (fun hHeld2 => ?_)
          · (intro hne; exact absurd rfl hne)
          clear hK K hHeld2
          refine wpLate_done (by kernel_rfl) ?_ _
          clear hHeld hhb r0'
          have HPu : Hid (Calls Try.prog 14 #[.slice ak kl ck, .string key] W5.drew (RetPut ak K key W5.drew)) := lwPut_any ak kl ck K key W5.drew (by rw [HKL.out]; exact (S3.out.2.1.below (Below.refl _ _).drew).1) (by omega) hck S2.out.2.2
          have RS : Hid (∀ W, Below W5.heap.size W5 W → Bx W br 30 #[.bool ok, .slice a3 m3 c3] ∧ FtW w W bt (.slice av m cv) m K ∧ KyR W bt ak K ∧ VK W W2.heap.size (.slice a3 m3 c3) m3 K') := fun W hW => ⟨BR.out.1.below hW, S3.out.1.below hW, S3.out.2.1.below hW, S3.out.2.2.1.below hW⟩
          have hbt5 : bt < W5.heap.size := S3.out.1.bx.lt
          have HB2 : Hid (bt < W2.heap.size) := S3.out.2.2.2
          clear r0 r1 rl S3 BR HLh HOk
          go_wp2_with fail
          (with_reducible refine HPu.out.mono ?_)
          rintro e w7 ⟨a7, c7, L7, rfl, hrd7, hcp7, hb7, hd7⟩
          have hb7' : Below W5.heap.size W5 w7 := (Below.refl _ _).drew.trans hb7
          have HL7 : Hid (L7 = K' ∧ Asc K' ∧ K'.length ≤ k + 1) := by
            rcases HPut.out with ⟨p1, p2⟩ | ⟨p1, p2⟩
            · rcases hd7 with ⟨d1, d2, _⟩ | ⟨d1, _⟩
              · exact ⟨by rw [d2, p2], by rw [p2]; exact S2.out.2.2, by rw [p2, ← HKL.out]; omega⟩
              · exact absurd p1 d1
            · rcases hd7 with ⟨d1, _⟩ | ⟨d1, d2, _⟩
              · exact absurd d1 p1
              · exact ⟨by rw [d2, p2], by rw [p2]; exact insK_asc S2.out.2.2 p1, by rw [p2, insK_length, ← HKL.out]; omega⟩
          have SN : Hid (FtW w (w7.setCell ⟨bt, 0, none⟩ (.slice a3 m3 c3)) bt (.slice a3 m3 c3) m3 K' ∧ KyR (w7.setCell ⟨bt, 0, none⟩ (.slice a3 m3 c3)) bt a7 K' ∧ K'.length ≤ c7 ∧ c7 ≤ 9223372036854775807) := by
            have q := RS.out w7 hb7'
            refine ⟨q.2.1.set HB2.out q.2.2.2, ?_, by rw [← HL7.out.1]; exact hcp7.1, hcp7.2⟩
            rw [← HL7.out.1]
            refine KyR.set ⟨hrd7, fun b o e h0 => ?_⟩ _
            rcases hd7 with ⟨d1, d2, d3⟩ | ⟨d1, d2, d3⟩
            · rw [d2] at h0
              exact q.2.2.1.2 b o (by rw [← d3]; exact e) h0
            · have := d3 b o e
              have hz : W5.drew.heap.size = W5.heap.size := rfl
              omega
          obtain ⟨l7, hl7⟩ : ∃ l7, l7 = L7.length := ⟨_, rfl⟩
          have Hl7 : Hid (l7 = K'.length) := by rw [hl7, HL7.out.1]; rfl
          rw [← hl7]
          have q := RS.out w7 hb7'
          have r1 := q.1.cell 1
          have y0 := q.2.1.bx.cell 0
          simp at r1 y0
          have yl := q.2.1.bx.lt
          have yf := q.2.1.bx.frozen 0
          have rl' := q.1.lt
          clear q RS hrd7 hcp7 hb7 hd7 hb7' HPu hl7
          go_upto_region 30 with fail
          generalize w7.setCell ⟨bt, 0, none⟩ (.slice a3 m3 c3) = WS at SN ⊢
          clear r1 y0 yl yf rl'
          have y0 := SN.out.1.bx.cell 0
          simp at y0
          have HVs : Hid (Calls Try.prog 15 #[.agg #[.slice a3 m3 c3]] WS fun e w' => e = .returned (.bool true) ∧ Below WS.heap.size WS w') := validS_any _ m3 _ _ _ SN.out.1.VK
          go_wp2_with fail
          (with_reducible refine HVs.out.mono ?_)
          rintro e w8 ⟨rfl, hb8⟩
          have S8 : Hid (FtS w w8 bt (.slice a7 l7 c7) (k + 1) K') := ⟨a7, c7, m3, _, by rw [Hl7.out], SN.out.1.below hb8, SN.out.2.1.below hb8, SN.out.2.2, HL7.out.2.1, HL7.out.2.2⟩
          clear hb8 y0 HVs SN
          go_wp2
          go_roundw
          case rel => exact ⟨k + 1, K', by omega, by go_num, S8.out⟩
          case measure => simp [intOf]; omega

end Go.Proofs.Ytakemeccigpbaaa
