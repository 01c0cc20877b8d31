import Derived.Test.YtlcamfkgkcjehaaNr21
import Derived.Test.YtlcamfkgkcjehaaNr6
import Derived.Test.YtlcamfkgkcjehaaNr20
import Derived.Maps.AppendAt
namespace Go.Proofs.Ytlcamfkgkcjehaa
open Go.RowKit Go.Deep
set_option linter.unusedVariables false
set_option maxRecDepth 100000

set_option maxHeartbeats 400000 in
theorem writeRecSector_any (t : Stt) (b B n : Nat) (at_ seq : Int) (i : Nat) (ad : Option Addr) (N cp : Nat) (f : Nat → Int) (w : World) (h : DevSt w b B n t) (hv : t.ok n) (hBb : B ≤ b) (hrd : Rd .u8 w ad N f) (hf : ∀ j, j < N → 0 ≤ f j ∧ f j < 256) (hN : N ≤ 30000) (hcp : N ≤ cp) (hcm : cp ≤ 9223372036854775807) (hi : i < cntOf N) (a0 : 0 ≤ at_) (a1 : at_ ≤ 1024) :
    Calls Try.prog 65 #[.pointer (some ⟨b, 0, none⟩), .int .i64 at_, .int .i64 seq, .int .i64 i, .slice ad N cp] w (StepTo w b B n (t.write (at_ + i) (secW N seq f i))) := by
  have HD : Hid (DevSt w b B n t) := h
  have HRD : Hid (Rd .u8 w ad N f) := hrd
  have HF : Hid (∀ j, j < N → 0 ≤ f j ∧ f j < 256) := hf
  clear h hrd hf
  have hi2 : i < 626 := by unfold cntOf at hi; split at hi <;> omega
  have e0 : IntKind.i64.wrap (N : Int) = (N : Int) := by rw [IntKind.wrap_i64]; omega
  have e1 : IntKind.i64.wrap ((i : Int) * 48) = (i : Int) * 48 := by rw [IntKind.wrap_i64]; omega
  have e2 : IntKind.i64.wrap ((i : Int) + 1) = (i : Int) + 1 := by rw [IntKind.wrap_i64]; omega
  have e3 : IntKind.i64.wrap (((i : Int) + 1) * 48) = ((i : Int) + 1) * 48 := by rw [IntKind.wrap_i64]; omega
  have e4 : IntKind.i64.wrap (at_ + (i : Int)) = at_ + (i : Int) := by rw [IntKind.wrap_i64]; omega
  have hlo : 0 ≤ (i : Int) * 48 ∧ (i : Int) * 48 ≤ (N : Int) := by have := cntOf_lt hi; omega
  obtain ⟨x, hx⟩ : ∃ x : Int, x = (i : Int) := ⟨_, rfl⟩
  rw [← hx] at e1 e2 e3 e4 hlo ⊢
  have HX : Hid (x = (i : Int) ∧ i < 626 ∧ i < cntOf N) := ⟨hx, hi2, hi⟩
  clear hx hi2 hi
  by_cases c : (N : Int) ≤ (x + 1) * 48
  all_goals have c2 := hlo.2
  · have c6 : x * 48 ≤ (N : Int) ∧ (N : Int) ≤ (cp : Int) := by omega
    have c7 : (N : Int) ≤ (cp : Int) := by omega
    go_enter Try.func65, Try.ntmps65
    go_wp2_with fail
    all_goals
      refine (recSectors_of _ N rfl hN w).mono ?_
      rintro e w1 ⟨rfl, rfl⟩
      go_wp2_with fail
      obtain ⟨hx, hi2, hi⟩ := HX.out
      have hs := rd_shift (lo := i * 48) cp HRD.out (by omega) hcp
      have e5 : (x * 48).toNat = i * 48 := by omega
      refine (recSector_any seq x (cntOf N) _ (N - (x * 48).toNat) _ (fun j => f (i * 48 + j)) _ ?_ (fun j hj => HF.out _ (by omega)) (by omega)).mono ?_
      · rw [e5]
        unfold shA at hs
        first
          | (rw [if_neg (by omega)] at hs; exact hs)
          | (rw [if_pos (by omega)] at hs; exact hs)
      rintro e w2 ⟨rfl, hb2⟩
      have hw : recF seq x (cntOf N) (N - (x * 48).toNat) (fun j => f (i * 48 + j)) = secW N seq f i := by
        unfold secW
        rw [hx, show plen N i = N - i * 48 by unfold plen; rw [if_neg (by omega)], show ((i : Int) * 48).toNat = i * 48 by omega]
      rw [hw]
      obtain ⟨g, hg⟩ : ∃ g, g = secW N seq f i := ⟨_, rfl⟩
      rw [← hg]
      have HG : Hid (g = secW N seq f i) := hg
      clear hw hs hg hx hi2 hi e5
      have D2 : Hid (DevSt w2 b B n t) := HD.out.below hb2
      have B2 : Hid (Below w1.heap.size w1 w2) := hb2
      have z1 : b < w1.heap.size := by obtain ⟨_, _, _, _, _, _, hd, _⟩ := HD.out; exact hd.cells.2.2.2.2.2
      have z2 : w1.heap.size ≤ w2.heap.size := hb2.size
      clear hb2
      go_wp2_with (first | (with_reducible refine wpList_alloc_sec ?_) | ((with_reducible refine wpList_store_sec w2.heap.size (fun _ => 0) g ?_ ?_ (Sec.new w2 _) ?_); rfl; rfl))
      intro w3 hs3 ho3
      have S3 : Hid (Sec w3 w2.heap.size g) := hs3
      have B3 : Hid (Below w1.heap.size w1 w3) := ((B2.out.trans ((below_alloc _ _).mono (by omega))).trans (ho3.below (fun y e => by injection e with e; subst e; show w1.heap.size ≤ w2.heap.size; omega)))
      clear hs3 ho3 B2 D2
      go_wp2_with fail
      refine (devW_st t b B n (at_ + x) (some ⟨w2.heap.size, 0, none⟩) 64 g w3 (HD.out.below B3.out) hv hBb (fun w4 hon => ?_)).mono ?_
      · have hs2 : Sec w4.drew w2.heap.size g := S3.out.of_block (hon.block w2.heap.size (fun x e => by injection e with e; subst e; show b ≠ w2.heap.size; omega))
        exact (hs2.rd 0 64 (by omega)).congr (fun i hi => by simp)
      rintro e w4 ⟨h1, h2, he⟩
      have hR : DevSt w4 b B n (t.write (at_ + x) (secW N seq f i)) ∧ Below B w1 w4 := by
        rw [← HG.out]
        exact ⟨h1, (B3.out.mono (by omega)).trans h2⟩
      rw [HG.out] at he
      clear h1 h2
      rcases he with rfl | ⟨rfl, hdead⟩
      · go_wp2
        go_end0
        exact ⟨hR.1, hR.2, Or.inl rfl⟩
      · go_wp2
        exact ⟨rfl, hR.1, hR.2, Or.inr ⟨rfl, hdead⟩⟩
  have c3 : x * 48 ≤ (x + 1) * 48 ∧ (x + 1) * 48 ≤ (N : Int) := by omega
  have c4 : 0 ≤ (x + 1) * 48 ∧ (x + 1) * 48 ≤ (cp : Int) := by omega
  go_enter Try.func65, Try.ntmps65
  go_wp2_with fail
  refine (recSectors_of _ N rfl hN w).mono ?_
  rintro e w1 ⟨rfl, rfl⟩
  go_wp2_with fail
  obtain ⟨hx, hi2, hi⟩ := HX.out
  have hs := rd_take (L := 48) (rd_shift (lo := i * 48) cp HRD.out (by omega) hcp) (by omega)
  have ea : Option.map (fun x_3 => Addr.add x_3 (x * 48).toNat) ad = shA ad (i * 48) cp := by
    unfold shA
    rw [if_neg (by omega)]
    congr 1
    funext y
    congr 1
    omega
  rw [ea, show ((x + 1) * 48).toNat - (x * 48).toNat = 48 by omega]
  refine (recSector_any seq x (cntOf N) _ 48 _ _ _ hs (fun j hj => HF.out _ (by omega)) (by omega)).mono ?_
  rintro e w2 ⟨rfl, hb2⟩
  have hw : recF seq x (cntOf N) 48 (fun j => f (i * 48 + j)) = secW N seq f i := by
    unfold secW
    rw [hx, show plen N i = 48 by unfold plen; rw [if_pos (by omega)]]
  rw [hw]
  obtain ⟨g, hg⟩ : ∃ g, g = secW N seq f i := ⟨_, rfl⟩
  rw [← hg]
  have HG : Hid (g = secW N seq f i) := hg
  clear hw ea hs hg hx hi2 hi
  have D2 : Hid (DevSt w2 b B n t) := HD.out.below hb2
  have B2 : Hid (Below w1.heap.size w1 w2) := hb2
  have z1 : b < w1.heap.size := by obtain ⟨_, _, _, _, _, _, hd, _⟩ := HD.out; exact hd.cells.2.2.2.2.2
  have z2 : w1.heap.size ≤ w2.heap.size := hb2.size
  clear hb2
  go_wp2_with (first | (with_reducible refine wpList_alloc_sec ?_) | ((with_reducible refine wpList_store_sec w2.heap.size (fun _ => 0) g ?_ ?_ (Sec.new w2 _) ?_); rfl; rfl))
  intro w3 hs3 ho3
  have S3 : Hid (Sec w3 w2.heap.size g) := hs3
  have B3 : Hid (Below w1.heap.size w1 w3) := ((B2.out.trans ((below_alloc _ _).mono (by omega))).trans (ho3.below (fun y e => by injection e with e; subst e; show w1.heap.size ≤ w2.heap.size; omega)))
  clear hs3 ho3 B2 D2
  go_wp2_with fail
  refine (devW_st t b B n (at_ + x) (some ⟨w2.heap.size, 0, none⟩) 64 g w3 (HD.out.below B3.out) hv hBb (fun w4 hon => ?_)).mono ?_
  · have hs2 : Sec w4.drew w2.heap.size g := S3.out.of_block (hon.block w2.heap.size (fun x e => by injection e with e; subst e; show b ≠ w2.heap.size; omega))
    exact (hs2.rd 0 64 (by omega)).congr (fun i hi => by simp)
  rintro e w4 ⟨h1, h2, he⟩
  have hR : DevSt w4 b B n (t.write (at_ + x) (secW N seq f i)) ∧ Below B w1 w4 := by
    rw [← HG.out]
    exact ⟨h1, (B3.out.mono (by omega)).trans h2⟩
  rw [HG.out] at he
  clear h1 h2
  rcases he with rfl | ⟨rfl, hdead⟩
  · go_wp2
    go_end0
    exact ⟨hR.1, hR.2, Or.inl rfl⟩
  · go_wp2
    exact ⟨rfl, hR.1, hR.2, Or.inr ⟨rfl, hdead⟩⟩
end Go.Proofs.Ytlcamfkgkcjehaa

namespace Go.Proofs.Ytlcamfkgkcjehaa
open Go.RowKit Go.Deep
set_option linter.unusedVariables false
set_option maxRecDepth 100000

set_option maxHeartbeats 1000000 in
theorem implReadRec_in (a p : Option Addr) (n c m q : Nat) (d S : Nat → Int) (L : Nat → Nat) (F : Nat → Nat → Int) (fuel : Int) (dead : Bool) (s : Nat) (seq : Int) (w : World) (ha : Rd .u8 w a n d) (hp : RdP w p m S L F) (hv : VD n m S L fuel) (hq : numB seq = true) (hs : s < n / 64) (hn : n ≤ 1048576) (hnc : n ≤ c) (hcm : c ≤ 9223372036854775807) (hm : m ≤ 1048576) (hr : ∀ s i, i < 64 → 0 ≤ secF d S F m s i ∧ secF d S F m s i < 256) :
    Calls Try.prog 20 #[.agg #[.slice a n c, .slice p m q, .int .i64 fuel, .bool dead], .int .i64 s, .int .i64 seq] w fun e w' => RecRet w e w' (fun i => secF d S F m (s + i)) ((n : Int) / 64 - s) seq := by
  have HFIN : Hid (∀ W : World, Below (w.heap.size + 2) ((w.alloc (.cells #[.slice a n c, .slice p m q, .int .i64 fuel, .bool dead] 25)).alloc (.cells #[.bool false, .slice none 0 0, .int .i64 0] 38)) W → Below w.heap.size w W) := fun W h => ((below_alloc _ _).trans ((below_alloc _ _).mono (by simp))).trans (h.mono (by omega))
  have HE2 : Hid (∀ o1 o2, ((w.alloc o1).alloc o2).heap.size = w.heap.size + 2) := fun _ _ => by simp
  have HA : Hid (Rd .u8 w a n d) := ha
  have HP : Hid (RdP w p m S L F) := hp
  have HV : Hid (VD n m S L fuel) := hv
  have HQ : Hid (numB seq = true) := hq
  have HR : Hid (∀ s i, i < 64 → 0 ≤ secF d S F m s i ∧ secF d S F m s i < 256) := hr
  clear ha hp hv hq hr
  go_enter Try.func20, Try.ntmps20
  go_wp2_with fail
  refine (implValid_any a p n c m q S L F fuel dead _ (HP.out.below ((below_alloc _ _).trans ((below_alloc _ _).mono (by simp)))) hn hm).mono ?_
  rintro e w1 ⟨h1, hb1⟩
  have := ans_true' h1 HV.out
  subst this
  rw [HE2.out] at hb1
  have K1 : Hid (Below (w.heap.size + 2) ((w.alloc (.cells #[.slice a n c, .slice p m q, .int .i64 fuel, .bool dead] 25)).alloc (.cells #[.bool false, .slice none 0 0, .int .i64 0] 38)) w1) := hb1
  have z1 : w.heap.size + 2 ≤ w1.heap.size := by have := hb1.size; rw [HE2.out] at this; exact this
  clear hb1 h1
  go_wp2_with fail
  refine (isNumber_any seq w1).mono ?_
  rintro e w2 ⟨he, hw⟩
  subst hw
  rw [HQ.out] at he
  subst he
  have hc1 : ∀ b o, b < w.heap.size + 2 → w2.cell? ⟨b, o, none⟩ = _ := fun b o hb => K1.out.cell (p := ⟨b, o, none⟩) hb
  go_wp2_with fail
  refine (readRec_any a p n c m q d S L F fuel dead s seq w2 (HA.out.below (HFIN.out _ K1.out)) (HP.out.below (HFIN.out _ K1.out)) HV.out hs hn hnc hcm hm HR.out).mono ?_
  rintro e w3 ⟨hb3, hres⟩
  have KB : Hid (Below (w.heap.size + 2) ((w.alloc (.cells #[.slice a n c, .slice p m q, .int .i64 fuel, .bool dead] 25)).alloc (.cells #[.bool false, .slice none 0 0, .int .i64 0] 38)) w3) := K1.out.trans (hb3.mono z1)
  have hc9 : ∀ b o, b < w.heap.size + 2 → w3.cell? ⟨b, o, none⟩ = _ := fun b o hb => KB.out.cell (p := ⟨b, o, none⟩) hb
  have hf9 : ∀ b o, b < w.heap.size + 2 → w3.frozen? ⟨b, o, none⟩ = _ := fun b o hb => KB.out.frozen (p := ⟨b, o, none⟩) hb
  have hz9 : w.heap.size + 1 < w3.heap.size := by have := KB.out.size; rw [HE2.out] at this; omega
  have HBB : Hid (Below w.heap.size w w3) := HFIN.out _ KB.out
  clear hb3 hc1
  rcases hres with ⟨hok, a9, c9, rfl, ho9, h2, h3⟩ | ⟨hno, rfl⟩
  · have HOK : Hid (recOk (fun i => secF d S F m (s + i)) ((n : Int) / 64 - s) seq) := hok
    have HO : Hid (OwnB w3 w2.heap.size a9 _ _) := ho9
    have H2 : Hid (_ ≤ c9) := h2
    clear hok ho9 h2
    go_wp2
    refine bodyPost_ret (v := .agg #[.bool true, .slice a9 _ c9, .int .i64 _]) (by simp [results, Try.results20, go_sem, hc9]) rfl ⟨?_, Or.inl ⟨HOK.out, a9, c9, rfl, ?_, H2.out, h3⟩⟩
    · exact (((HBB.out.setCell (by simp; try omega) _).setCell (by simp; try omega) _).setCell (by simp; try omega) _)
    · exact ((((HO.out.mono z1).setOther (by simp) _).setOther (by simp) _).setOther (by simp) _).mono (by omega)
  · have HNO : Hid (¬ recOk (fun i => secF d S F m (s + i)) ((n : Int) / 64 - s) seq) := hno
    clear hno
    go_wp2
    refine bodyPost_ret (v := .agg #[.bool false, .slice none 0 0, .int .i64 0]) (by simp [results, Try.results20, go_sem, hc9]) rfl ⟨?_, Or.inr ⟨HNO.out, rfl⟩⟩
    exact (((HBB.out.setCell (by simp; try omega) _).setCell (by simp; try omega) _).setCell (by simp; try omega) _)
end Go.Proofs.Ytlcamfkgkcjehaa

namespace Go.Proofs.Ytlcamfkgkcjehaa
open Go.RowKit Go.Deep
set_option linter.unusedVariables false
set_option maxRecDepth 100000

/-- Readable bytes appended to a row of the call's own, and where the row lies then. -/
theorem wpList_append_rd_at {w : World} {ops : Array Oper} {rest : List Oper} {o : Oper} {act : Act} {Q : Exit → Act → World → Prop} (hgd : o.guard = none) (s x : Operand)
    (ho : o.op = .call { callee := .builtin .append, args := #[s, x], argTypes := #[22, 22] })
    (B : Nat) (v : Value) (n : Nat) (xs : List Value) (hs : act.eval s = v) (hown : w.ownsRow B 5 1 v n xs)
    (a : Option Addr) (m c : Nat) (f : Nat → Int) (hx : act.eval x = .slice a m c) (hrd : Rd .u8 w a m f) (hnm : n + m ≤ 1099511627776) (hB : B ≤ w.heap.size)
    (h : ∀ v' w', w'.ownsRow B 5 1 v' (n + m) (xs ++ byteRow f m) → w.grownBy w' v.ownBlock → (v'.ownBlock = v.ownBlock ∨ v'.ownBlock = some w.heap.size) → wpList Try.prog ops Q rest (act.put o.dst v') w') : wpList Try.prog ops Q (o :: rest) act w := by
  obtain ⟨i0, hi, hz0, hz1, hz2⟩ := info_parts Try.info5
  by_cases hm : m = 0
  · subst hm
    have hsrc : Src Try.prog i0.size 22 (.slice a 0 c) 0 [] w := by
      cases a with
      | none => exact Src.ofNil w Try.underlying22 c
      | some ad => exact Src.ofSlice w Try.underlying22 ad 0 c [] (by simp) (by simp) (by simp)
    have hsh : ∃ b l cap, v = .slice b l cap ∧ l ≤ cap := by
      rcases hown.2 with ⟨rfl, rfl⟩ | ⟨g, cap, cur, rfl, _, _, h1, _⟩
      · exact ⟨none, 0, 0, rfl, Nat.le_refl _⟩
      · exact ⟨_, n, cap, rfl, h1⟩
    obtain ⟨b, l, cap, hvv, hlc⟩ := hsh
    have hrun := run_append_nothing (P := Try.prog) w 22 22 o.type 5 i0 Try.underlying22 hi b l cap hlc (.slice a 0 c) hsrc
    rw [← hvv] at hrun
    refine wpList_plain hgd fun K hK => ?_
    unfold Oper.wp
    simp [execOp, ho, resolve, invoke, builtin, hs, hx, hrun, Result.andThen]
    exact hK _ _ (h v w (by simpa [byteRow] using hown) ⟨rfl, rfl, rfl, Nat.le_refl _, fun _ _ _ => rfl⟩ (Or.inl rfl))
  · rcases hrd with h0 | ⟨b, off, rfl, hc⟩
    · exact absurd h0 hm
    · refine wpList_append_own_at w hgd s x 22 ho B 5 i0 (.int .u8 0) 1 1 Try.underlying22 hi hz0 hz1 hz2 rfl (by decide) v n xs hs hown ⟨b, off, none⟩ m c (byteRow f m) hx (by simp [byteRow]) (fun j u hj => ?_) (fun u hu => ?_) (by unfold maxLen; omega) (by omega) hB (fun v' w' h1 h2 _ h4 => h v' w' h1 h2 h4)
      · have hjm : j < m := by
          have := (List.getElem?_eq_some_iff.1 hj).1
          rwa [byteRow_length] at this
        rw [byteRow_get f m j hjm] at hj
        injection hj with hj
        subst hj
        have e : (Addr.add ⟨b, off, none⟩ j) = ⟨b, off + j, none⟩ := by
          unfold Addr.add
          by_cases h : j = 0
          · subst h; simp
          · simp [h]
        rw [e]
        exact hc j hjm
      · simp only [byteRow, List.mem_map] at hu
        obtain ⟨i, _, rfl⟩ := hu
        rfl

theorem run_mid (a : Option Addr) (n c lo hi : Nat) (h1 : lo ≤ hi) (h2 : hi ≤ c) (w : World) : (Instr.sliceAt 22 (.slice a n c) (some (.int .i64 (lo : Int))) (some (.int .i64 (hi : Int))) none).run Try.prog w = .ok (.slice (shA a lo c) (hi - lo) (c - lo)) w := by
  simp [Instr.sliceAt, Instr.slice, go_sem, shA]
  by_cases e1 : hi ≤ c
  · simp [e1]
    intro h
    omega
  · omega

theorem rd_mid {w : World} {a : Option Addr} {n lo hi : Nat} {f : Nat → Int} (c : Nat) (h : Rd .u8 w a n f) (h1 : lo ≤ hi) (h2 : hi ≤ n) (hc : n ≤ c) : Rd .u8 w (shA a lo c) (hi - lo) (fun j => f (lo + j)) :=
  rd_take (rd_shift c h (by omega) hc) (by omega)

theorem horn_at2 (f : Nat → Int) (o : Nat) : hornN (fun i => f (o + i)) 2 2 = getN f o 2 := by
  simp [hornN, getN]
  omega

theorem getN2_range {f : Nat → Int} {o : Nat} (h : ∀ i, i < 64 → 0 ≤ f i ∧ f i < 256) (ho : o + 1 < 64) : 0 ≤ getN f o 2 ∧ getN f o 2 < 65536 := by
  have h0 := h o (by omega)
  have h1 := h (o + 1) (by omega)
  simp [getN]
  omega

/-- The state of spec.ReadRec behind x sectors. -/
structure RrSt (B : Nat) (wr : World) (G : Nat → Nat → Int) (x : Nat) (v u : Value) : Prop where
  pay : wr.ownsRow B 5 1 v (catL (recLz G) x) (byteRow (catF (recLz G) (recFz G) x) (catL (recLz G) x))
  raw : wr.ownsRow B 5 1 u (catL (fun _ => 64) x) (byteRow (catF (fun _ => 64) G x) (catL (fun _ => 64) x))
  apart : ∀ g, v.ownBlock = some g → u.ownBlock = some g → False
  le : B ≤ wr.heap.size

theorem catL64 (x : Nat) : catL (fun _ => 64) x = 64 * x := by
  induction x with
  | zero => rfl
  | succ x ih => simp only [catL, ih]; omega

theorem ownsRow_in {w : World} {B t s n g : Nat} {v : Value} {xs : List Value} (h : w.ownsRow B t s v n xs) (hg : v.ownBlock = some g) : B ≤ g ∧ g < w.heap.size := by
  rcases h.2 with ⟨hv, _⟩ | ⟨g', cap, cur, hv, hle, hh, _⟩
  · rw [hv] at hg; simp [Value.ownBlock] at hg
  · rw [hv] at hg
    simp [Value.ownBlock] at hg
    subst hg
    exact ⟨hle, (Array.getElem?_eq_some_iff.1 hh).1⟩

theorem ownsRow_kept {w w' : World} {B t s n : Nat} {v : Value} {xs : List Value} {row : Option Nat} (h : w.ownsRow B t s v n xs) (hg : w.grownBy w' row) (hne : ∀ g, v.ownBlock = some g → row = some g → False) : w'.ownsRow B t s v n xs := by
  refine ⟨h.1, ?_⟩
  rcases h.2 with h0 | ⟨g, cap, cur, hv, hle, hh, q⟩
  · exact Or.inl h0
  · refine Or.inr ⟨g, cap, cur, hv, hle, (hg.block g (Array.getElem?_eq_some_iff.1 hh).1 (fun e => hne g (by rw [hv]; rfl) e.symm)).trans hh, q⟩

theorem ownsRow_below {w w' : World} {B t s n : Nat} {v : Value} {xs : List Value} (h : w.ownsRow B t s v n xs) (hb : Below w.heap.size w w') : w'.ownsRow B t s v n xs := by
  refine ⟨h.1, ?_⟩
  rcases h.2 with h0 | ⟨g, cap, cur, hv, hle, hh, q⟩
  · exact Or.inl h0
  · exact Or.inr ⟨g, cap, cur, hv, hle, (hb.block g (Array.getElem?_eq_some_iff.1 hh).1).trans hh, q⟩

theorem RrSt.below {B : Nat} {wr w2 : World} {G : Nat → Nat → Int} {x : Nat} {v u : Value} (h : RrSt B wr G x v u) (hb : Below wr.heap.size wr w2) : RrSt B w2 G x v u :=
  ⟨ownsRow_below h.pay hb, ownsRow_below h.raw hb, h.apart, Nat.le_trans h.le hb.size⟩

theorem RrSt.next {B : Nat} {wr w1 w2 : World} {G : Nat → Nat → Int} {x : Nat} {v u v' u' : Value} (h : RrSt B wr G x v u)
    (o1 : w1.ownsRow B 5 1 v' (catL (recLz G) x + recLz G x) (byteRow (catF (recLz G) (recFz G) x) (catL (recLz G) x) ++ byteRow (recFz G x) (recLz G x))) (g1 : wr.grownBy w1 v.ownBlock) (l1 : v'.ownBlock = v.ownBlock ∨ v'.ownBlock = some wr.heap.size)
    (o2 : w2.ownsRow B 5 1 u' (catL (fun _ => 64) x + 64) (byteRow (catF (fun _ => 64) G x) (catL (fun _ => 64) x) ++ byteRow (G x) 64)) (g2 : w1.grownBy w2 u.ownBlock) (l2 : u'.ownBlock = u.ownBlock ∨ u'.ownBlock = some w1.heap.size) :
    RrSt B w2 G (x + 1) v' u' := by
  have ap1 : ∀ g, v'.ownBlock = some g → u.ownBlock = some g → False := by
    intro g h1 h2
    rcases l1 with l1 | l1
    · exact h.apart g (l1.symm.trans h1) h2
    · rw [l1] at h1
      injection h1 with h1
      have := (ownsRow_in h.raw h2).2
      omega
  have p2 := ownsRow_kept o1 g2 (fun g e1 e2 => ap1 g e1 e2)
  refine ⟨?_, ?_, ?_, Nat.le_trans h.le (Nat.le_trans g1.size g2.size)⟩
  · show w2.ownsRow B 5 1 v' (catL (recLz G) x + recLz G x) (byteRow (fun j => if j < catL (recLz G) x then catF (recLz G) (recFz G) x j else recFz G x (j - catL (recLz G) x)) (catL (recLz G) x + recLz G x))
    rw [← byteRow_cat]
    exact p2
  · show w2.ownsRow B 5 1 u' (catL (fun _ => 64) x + 64) (byteRow (fun j => if j < catL (fun _ => 64) x then catF (fun _ => 64) G x j else G x (j - catL (fun _ => 64) x)) (catL (fun _ => 64) x + 64))
    rw [← byteRow_cat]
    exact o2
  · intro g h1 h2
    rcases l2 with l2 | l2
    · exact ap1 g h1 (l2.symm.trans h2)
    · rw [l2] at h2
      injection h2 with h2
      have := (ownsRow_in o1 h1).2
      omega
end Go.Proofs.Ytlcamfkgkcjehaa
