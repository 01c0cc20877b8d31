import Derived.Test.YtlcamfkgkcjehaaNr22
import Derived.Test.YtlcamfkgkcjehaaNr16
import Derived.Test.YtlcamfkgkcjehaaNr19
import Derived.Test.YtlcamfkgkcjehaaNr2
import Derived.Test.YtlcamfkgkcjehaaNr17
import Derived.Test.YtlcamfkgkcjehaaNr21
import Derived.Test.YtlcamfkgkcjehaaNr13
import Derived.Test.YtlcamfkgkcjehaaNr3
namespace Go.Proofs.Ytlcamfkgkcjehaa
open Go.RowKit Go.Deep
set_option linter.unusedVariables false
set_option maxRecDepth 100000

theorem cntOf_pos (N : Nat) : 1 ≤ cntOf N := by unfold cntOf; split <;> omega
theorem cntOf_le {N : Nat} (h : N ≤ 30000) : cntOf N ≤ 625 := by unfold cntOf; split <;> omega

set_option maxHeartbeats 2000000 in
theorem writeRec_any (t : Stt) (b B n : Nat) (at_ seq : Int) (ad : Option Addr) (N cp last : Nat) (f : Nat → Int) (w : World) (h : DevSt w b B n t) (hv : t.ok n) (hBb : B ≤ b) (hrd : ∀ W, Below B w W → Rd .u8 W ad N f) (hf : ∀ j, j < N → 0 ≤ f j ∧ f j < 256) (hN : N ≤ 30000) (hcp : N ≤ cp) (hcm : cp ≤ 9223372036854775807) (hl : cntOf N = last + 1) (a0 : 2 ≤ at_) (a1 : at_ + last < (n : Int) / 64) :
    Calls Try.prog 53 #[.pointer (some ⟨b, 0, none⟩), .int .i64 at_, .int .i64 seq, .slice ad N cp] w (StepTo w b B n (t.recd at_ (secW N seq f) last)) := by
  have HD : Hid (DevSt w b B n t) := h
  have HV : Hid (t.ok n) := hv
  have HRD : Hid (∀ W, Below B w W → Rd .u8 W ad N f) := hrd
  have HF : Hid (∀ j, j < N → 0 ≤ f j ∧ f j < 256) := hf
  have HL : Hid (cntOf N = last + 1) := hl
  have hl6 : last ≤ 624 := by have := cntOf_le hN; omega
  have hn6 : (n : Int) / 64 ≤ 1024 := by have := hv.1; unfold VH at this; omega
  obtain ⟨G, hG⟩ : ∃ G : Nat → Nat → Int, G = secW N seq f := ⟨_, rfl⟩
  rw [← hG]
  have HG : Hid (G = secW N seq f) := hG
  have e0 : IntKind.i64.wrap (N : Int) = (N : Int) := by rw [IntKind.wrap_i64]; omega
  have e1 : IntKind.i64.wrap ((last : Int) + 1 - 1) = (last : Int) := by rw [IntKind.wrap_i64]; omega
  have e2 : IntKind.i64.wrap (last : Int) = (last : Int) := by rw [IntKind.wrap_i64]; omega
  clear h hrd hf hv hG hl
  go_enter Try.func53, Try.ntmps53
  go_wp2_with fail
  refine (recSectors_of _ N rfl hN w).mono ?_
  rintro e w1 ⟨rfl, rfl⟩
  rw [HL.out]
  rw [show (((last + 1 : Nat)) : Int) = (last : Int) + 1 from by simp]
  go_wp2
  go_loopw [9, 15] (fun _ i wr => ∃ j : Nat, j ≤ last ∧ i = .int .i64 j ∧ DevSt wr b B n (t.writes at_ G j) ∧ Below B w1 wr) (fun _ i _ => last - (intOf i).toNat)
  case atStart => exact ⟨0, Nat.zero_le _, rfl, HD.out, Below.refl _ _⟩
  case round =>
    obtain ⟨j, hj, rfl, hdv, hbel⟩ := hrel
    have HDJ : Hid (DevSt wr b B n (t.writes at_ G j)) := hdv
    have HBJ : Hid (Below B w1 wr) := hbel
    clear hdv hbel
    by_cases hlt : j < last
    · go_wp2_with fail
      refine (writeRecSector_any (t.writes at_ G j) b B n at_ seq j ad N cp f wr HDJ.out (HV.out.writes j (by omega) (by omega)) hBb (HRD.out _ HBJ.out) HF.out hN hcp hcm (by rw [HL.out]; omega) (by omega) (by omega)).mono ?_
      rintro e w2 ⟨h1, h2, he⟩
      rw [← HG.out] at h1 he
      have HX : Hid (DevSt w2 b B n (t.writes at_ G (j + 1)) ∧ Below B w1 w2) := ⟨h1, HBJ.out.trans h2⟩
      clear h1 h2 HDJ HBJ
      rcases he with rfl | ⟨rfl, hdead⟩
      · go_wp2
        go_roundw
        case rel => exact ⟨j + 1, by omega, by go_num, HX.out⟩
        case measure => simp [intOf]; omega
      · have hdd : (t.writes at_ G (j + 1)).dead = true := hdead
        have hrc := Stt.recd_dead (last := last) (i := j + 1) (by omega) hdd
        have HZ : Hid (StepTo w1 b B n (t.recd at_ G last) (.panicked [{ v := .iface 88 (.agg #[]), recovered := false }]) w2) := by
          refine ⟨?_, HX.out.2, Or.inr ⟨rfl, ?_⟩⟩
          · rw [hrc]; exact HX.out.1
          · rw [hrc]; exact hdd
        clear hdead hdd hrc
        go_wp2
        exact ⟨rfl, HZ.out⟩
    · have e : j = last := by omega
      subst e
      have HOW : Hid ((t.writes at_ G j).ok n) := HV.out.writes j (by omega) (by omega)
      obtain ⟨t2, ht2⟩ : ∃ t2, t2 = (if 0 < j then (t.writes at_ G j).sync else t.writes at_ G j) := ⟨_, rfl⟩
      have HREC : Hid (t.recd at_ G j = (t2.write (at_ + j) (G j)).sync) := by rw [ht2]; rfl
      have HT2 : Hid (t2.ok n) := by
        show t2.ok n
        rw [ht2]
        split
        · exact HOW.out.sync
        · exact HOW.out
      have HEND : Hid (∀ wr2, DevSt wr2 b B n t2 → Below B w1 wr2 → Calls Try.prog 65 #[.pointer (some ⟨b, 0, none⟩), .int .i64 at_, .int .i64 seq, .int .i64 j, .slice ad N cp] wr2 (StepTo wr2 b B n (t2.write (at_ + j) (G j)))) := fun wr2 h1 h2 => by
        have := writeRecSector_any t2 b B n at_ seq j ad N cp f wr2 h1 HT2.out hBb (HRD.out _ h2) HF.out hN hcp hcm (by rw [HL.out]; omega) (by omega) (by omega)
        rw [← HG.out] at this
        exact this
      have HT3 : Hid ((t2.write (at_ + j) (G j)).ok n) := HT2.out.write _ (by omega) (by omega)
      have HMID : Hid (t2.dead = true → t.recd at_ G j = t2) := fun h => by rw [HREC.out, Stt.write_dead h, Stt.sync_dead h]
      by_cases hj0 : 0 < j
      · have hj0' : (0 : Int) < (j : Int) := by omega
        rw [if_pos hj0] at ht2
        have HT2E : Hid (t2 = (t.writes at_ G j).sync) := ht2
        clear ht2
        go_wp2_with fail
        refine (devY_st (t.writes at_ G j) b B n wr HDJ.out HOW.out hBb).mono ?_
        rintro e w2 ⟨h1, h2, he⟩
        rw [← HT2E.out] at h1 he
        have HX : Hid (DevSt w2 b B n t2 ∧ Below B w1 w2) := ⟨h1, HBJ.out.trans h2⟩
        clear h1 h2 HDJ HBJ
        rcases he with rfl | ⟨rfl, hdead⟩
        · go_wp2_with fail
          refine (HEND.out w2 HX.out.1 HX.out.2).mono ?_
          rintro e w3 ⟨h1, h2, he⟩
          have HX3 : Hid (DevSt w3 b B n (t2.write (at_ + j) (G j)) ∧ Below B w1 w3) := ⟨h1, HX.out.2.trans h2⟩
          clear h1 h2
          rcases he with rfl | ⟨rfl, hdead⟩
          · go_wp2_with fail
            refine (devY_st _ b B n w3 HX3.out.1 HT3.out hBb).mono ?_
            rintro e w4 ⟨h1, h2, he⟩
            have HX4 : Hid (DevSt w4 b B n (t.recd at_ G j) ∧ Below B w1 w4) := ⟨by rw [HREC.out]; exact h1, HX3.out.2.trans h2⟩
            rw [← HREC.out] at he
            clear h1 h2
            rcases he with rfl | ⟨rfl, hdead⟩
            · go_wp2
              go_end0
              exact ⟨HX4.out.1, HX4.out.2, Or.inl rfl⟩
            · go_wp2
              exact ⟨rfl, HX4.out.1, HX4.out.2, Or.inr ⟨rfl, hdead⟩⟩
          · have HRR : Hid (t.recd at_ G j = t2.write (at_ + j) (G j)) := by
              show _ = _
              rw [HREC.out, Stt.sync_dead hdead]
            go_wp2
            exact ⟨rfl, by rw [HRR.out]; exact HX3.out.1, HX3.out.2, Or.inr ⟨rfl, by rw [HRR.out]; exact hdead⟩⟩
        · have hrc := HMID.out hdead
          have HZ : Hid (StepTo w1 b B n (t.recd at_ G j) (.panicked [{ v := .iface 88 (.agg #[]), recovered := false }]) w2) := by
            refine ⟨?_, HX.out.2, Or.inr ⟨rfl, ?_⟩⟩
            · rw [hrc]; exact HX.out.1
            · rw [hrc]; exact hdead
          clear hdead hrc
          go_wp2
          exact ⟨rfl, HZ.out⟩
      · have hj0' : ¬ (0 : Int) < (j : Int) := by omega
        rw [if_neg hj0] at ht2
        have HX : Hid (DevSt wr b B n t2 ∧ Below B w1 wr) := ⟨by rw [ht2]; exact HDJ.out, HBJ.out⟩
        clear ht2 HDJ HBJ
        go_wp2_with fail
        refine (HEND.out wr HX.out.1 HX.out.2).mono ?_
        rintro e w3 ⟨h1, h2, he⟩
        have HX3 : Hid (DevSt w3 b B n (t2.write (at_ + j) (G j)) ∧ Below B w1 w3) := ⟨h1, HX.out.2.trans h2⟩
        clear h1 h2
        rcases he with rfl | ⟨rfl, hdead⟩
        · go_wp2_with fail
          refine (devY_st _ b B n w3 HX3.out.1 HT3.out hBb).mono ?_
          rintro e w4 ⟨h1, h2, he⟩
          have HX4 : Hid (DevSt w4 b B n (t.recd at_ G j) ∧ Below B w1 w4) := ⟨by rw [HREC.out]; exact h1, HX3.out.2.trans h2⟩
          rw [← HREC.out] at he
          clear h1 h2
          rcases he with rfl | ⟨rfl, hdead⟩
          · go_wp2
            go_end0
            exact ⟨HX4.out.1, HX4.out.2, Or.inl rfl⟩
          · go_wp2
            exact ⟨rfl, HX4.out.1, HX4.out.2, Or.inr ⟨rfl, hdead⟩⟩
        · have HRR : Hid (t.recd at_ G j = t2.write (at_ + j) (G j)) := by
            show _ = _
            rw [HREC.out, Stt.sync_dead hdead]
          go_wp2
          exact ⟨rfl, by rw [HRR.out]; exact HX3.out.1, HX3.out.2, Or.inr ⟨rfl, by rw [HRR.out]; exact hdead⟩⟩
end Go.Proofs.Ytlcamfkgkcjehaa

namespace Go.Proofs.Ytlcamfkgkcjehaa
open Go.RowKit Go.Deep
set_option linter.unusedVariables false
set_option maxRecDepth 100000

/-- A disk in the call's own memory whose cache can grow. -/
structure OwnQ (w : World) (B : Nat) (a : Option Addr) (n c : Nat) (d : Nat → Int) (p : Option Addr) (m q : Nat) (S : Nat → Int) (L : Nat → Nat) (F : Nat → Nat → Int) (A : Nat → Option Addr) : Prop where
  data : OwnB w B a n d
  cache : ∃ C, Gath w B (.slice p m q) m S L F A C
  apart : n ≠ 0 → ∀ i, i < m → L i ≠ 0 → A i ≠ a
  caps : n ≤ c ∧ c ≤ 9223372036854775807

section
variable {w w' : World} {B B' g b o n c m q : Nat} {a p : Option Addr} {d S : Nat → Int} {L : Nat → Nat} {F : Nat → Nat → Int} {A : Nat → Option Addr} {v0 v1 : Value} {fuel : Int} {dead : Bool}

theorem gath_keep {v : Value} {C : Nat → Nat} (h : Gath w B v m S L F A C) (hk : ∀ k, B ≤ k → k < w.heap.size → (∃ c, w.heap[k]? = some (.cells c 49 (0, 0))) ∨ (∃ c, w.heap[k]? = some (.cells c 5 (0, 0))) → w'.heap[k]? = w.heap[k]?) : Gath w' B v m S L F A C := by
  refine ⟨⟨h.row.1, ?_⟩, fun i hi => ?_, h.apart⟩
  · rcases h.row.2 with h2 | ⟨g, cap, cur, hv, hg, hh, r⟩
    · exact Or.inl h2
    · exact Or.inr ⟨g, cap, cur, hv, hg, (hk g hg (Array.getElem?_eq_some_iff.1 hh).1 (Or.inl ⟨cur, hh⟩)).trans hh, r⟩
  · rcases h.each i hi with h2 | ⟨g, e, hg, hr⟩
    · exact Or.inl h2
    · obtain ⟨cur, hh, q1, q2⟩ := hr
      exact Or.inr ⟨g, e, hg, cur, (hk g hg (Array.getElem?_eq_some_iff.1 hh).1 (Or.inr ⟨cur, hh⟩)).trans hh, q1, q2⟩

theorem OwnQ.own (h : OwnQ w B a n c d p m q S L F A) : OwnD w B a n d p m S L F A := by
  obtain ⟨C, hc⟩ := h.cache
  obtain ⟨p', q', e, ho⟩ := hc.ownP
  injection e with e1 e2 e3
  subst e1
  exact ⟨h.data, ho, h.apart⟩
theorem OwnQ.below (h : OwnQ w B a n c d p m q S L F A) (hb : Below w.heap.size w w') : OwnQ w' B a n c d p m q S L F A := by
  obtain ⟨C, hc⟩ := h.cache
  exact ⟨h.data.below hb, ⟨C, hc.below hb⟩, h.apart, h.caps⟩
theorem OwnQ.mono (h : OwnQ w B a n c d p m q S L F A) (hB : B' ≤ B) : OwnQ w B' a n c d p m q S L F A := by
  obtain ⟨C, hc⟩ := h.cache
  exact ⟨h.data.mono hB, ⟨C, hc.mono hB⟩, h.apart, h.caps⟩
theorem OwnQ.setOther (h : OwnQ w B a n c d p m q S L F A) {x : Addr} (hx : x.block < B) (v : Value) : OwnQ (w.setCell x v) B a n c d p m q S L F A := by
  obtain ⟨C, hc⟩ := h.cache
  exact ⟨h.data.setOther hx v, ⟨C, hc.setOther hx v⟩, h.apart, h.caps⟩
theorem OwnQ.belC (h : OwnQ w B a n c d p m q S L F A) (hg : g < B) (hb : BelC w.heap.size g w w') : OwnQ w' B a n c d p m q S L F A := by
  obtain ⟨C, hc⟩ := h.cache
  exact ⟨h.data.belC hg hb, ⟨C, gath_keep hc (fun k hk hl _ => hb.block k hl (by omega))⟩, h.apart, h.caps⟩
theorem OwnQ.onlyDk (h : OwnQ w B a n c d p m q S L F A) (hd : DkRow w b v0 v1 fuel dead) (ho : OnlyAt (some ⟨b, 0, none⟩) w w') : OwnQ w' B a n c d p m q S L F A := by
  obtain ⟨C, hc⟩ := h.cache
  exact ⟨h.data.onlyDk hd ho, ⟨C, hc.onlyDk hd ho⟩, h.apart, h.caps⟩
end

/-- A disk handed back whose cache can grow. -/
def Stt.retQ (t : Stt) (n : Nat) (w : World) (e : Ending) (w' : World) : Prop :=
  ∃ a c p q A, e = .returned (.agg #[.slice a n c, .slice p t.m q, .int .i64 t.fuel, .bool t.dead]) ∧ OwnQ w' w.heap.size a n c t.d p t.m q t.S t.L t.F A ∧ Below w.heap.size w w'
/-- A disk that lives, its fuel unbounded. -/
def Stt.live (j : Nat) (t : Stt) : Prop := t.dead = false ∧ t.fuel = -1 ∧ t.m ≤ j

theorem Stt.live.write {j : Nat} {t : Stt} (h : t.live j) (hj : j < 2000) (s : Int) (f : Nat → Int) : t.write s f = t.push s f ∧ (t.push s f).live (j + 1) := by
  obtain ⟨h1, h2, h3⟩ := h
  refine ⟨?_, rfl, ?_, by show t.m + 1 ≤ j + 1; omega⟩
  · unfold Stt.write
    rw [if_neg (by rw [h1]; decide), if_neg (by omega), if_neg (by rw [h2]; decide)]
  · show fuelAfter t.fuel = -1
    rw [h2]; rfl
theorem Stt.live.sync {j : Nat} {t : Stt} (h : t.live j) : t.sync = t.flush ∧ t.flush.live j := by
  obtain ⟨h1, h2, h3⟩ := h
  refine ⟨?_, rfl, ?_, Nat.zero_le _⟩
  · unfold Stt.sync
    rw [if_neg (by rw [h1]; decide), if_neg (by rw [h2]; decide)]
  · show fuelAfter t.fuel = -1
    rw [h2]; rfl

theorem specY_q (t : Stt) (a p : Option Addr) (n c q : Nat) (w : World) (ha : Rd .u8 w a n t.d) (hp : RdP w p t.m t.S t.L t.F) (hv : t.ok n) (j : Nat) (hl : t.live j) :
    Calls Try.prog 49 #[.agg #[.slice a n c, .slice p t.m q, .int .i64 t.fuel, .bool t.dead]] w (t.flush.retQ n w) := by
  obtain ⟨d, m, S, L, F, fuel, dead⟩ := t
  have hv' : VD n m S L fuel := hv
  obtain ⟨hn, hm, hL⟩ := stt_vd_lens hv'
  obtain ⟨h1, h2, h3⟩ := hl
  dsimp only at h1 h2 h3
  subst h1 h2
  refine (specY_liveG a p n c m q d S L F (-1) w ha hp hn hm hL hv' (by omega) (by omega) (by omega) (fun _ => 0) (fun _ => 0) (fun _ _ => 0)).mono ?_
  rintro e w' ⟨a', c', p', q', A', C', he, q1, q2, q3, q4, q5, q6⟩
  exact ⟨a', c', p', q', A', he, ⟨q1, ⟨C', q2⟩, q3, q5, q6⟩, q4⟩

set_option maxHeartbeats 400000 in
theorem zeros_c (n : Nat) (w : World) (hn : n ≤ 1048576) :
    Calls Try.prog 41 #[.int .i64 n] w fun e w' => ∃ a c, e = .returned (.slice a n c) ∧ OwnB w' w.heap.size a n (fun _ => 0) ∧ Below w.heap.size w w' ∧ n ≤ c ∧ c ≤ 9223372036854775807 := by
  obtain ⟨i0, hi, hz0, hz1, hz2⟩ := info_parts Try.info5
  have HI : Hid (Try.prog.info? 5 = some i0 ∧ i0.zero = some (.int .u8 0) ∧ i0.size = 1 ∧ i0.bytes = 1) := ⟨hi, hz0, hz1, hz2⟩
  clear hi hz0 hz1 hz2
  go_enter Try.func41, Try.ntmps41
  go_wp2
  go_loopw [3, 4] (fun v i wr => ∃ k : Nat, k ≤ n ∧ i = .int .i64 k ∧ wr.ownsRow w.heap.size 5 1 v k (List.replicate k (.int .u8 0)) ∧ Below w.heap.size w wr) (fun _ i _ => n - (intOf i).toNat)
  case atStart => exact ⟨0, Nat.zero_le _, rfl, World.ownsRow_lit w #[] 0 (Nat.le_refl _) (Nat.zero_le _) rfl, (Below.refl _ _).alloc (Nat.le_refl _) _⟩
  case round =>
    obtain ⟨k, hk, rfl, hown, hbel⟩ := hrel
    by_cases hlt : k < n
    · have hsz := hbel.size
      have HB : Hid (Below w.heap.size w wr) := hbel
      have HO : Hid (wr.ownsRow w.heap.size 5 1 u3 k (List.replicate k (.int .u8 0))) := hown
      clear hbel hown
      go_wp2_with (at_builtin; refine wpList_append_own _ rfl _ _ 22 rfl w.heap.size 5 i0 (.int .u8 0) 1 1 Try.underlying22 HI.out.1 HI.out.2.1 HI.out.2.2.1 HI.out.2.2.2 rfl (by decide) _ k (List.replicate k (.int .u8 0)) rfl (HO.out.alloc _) ⟨wr.heap.size, 0, none⟩ 1 1 [.int .u8 0] rfl rfl ?c1 ?c2 ?c3 ?c4 ?c5 ?_)
      case c1 => exact cell_one_new _ _ _
      case c2 => intro u hu; simp at hu; subst hu; rfl
      case c3 => unfold maxLen; omega
      case c4 => omega
      case c5 => simp; omega
      · intro v' w1 hown' hgrow _
        have HX : Hid (w1.ownsRow w.heap.size 5 1 v' (k + 1) (List.replicate (k + 1) (.int .u8 0)) ∧ Below w.heap.size w w1) :=
          ⟨by rw [List.replicate_succ']; exact hown', (HB.out.alloc hsz _).grown hgrow (by simp; omega) (fun b e => (HO.out.lt b e).1)⟩
        clear hown' hgrow HO HB
        go_wp2
        go_roundw
        case rel => exact ⟨k + 1, by omega, by go_num, HX.out⟩
        case measure => simp [intOf]; omega
    · have e : k = n := by omega
      subst e
      go_wp2
      go_ret
      obtain ⟨a, c, rfl, h1, h2, h3⟩ := ownB_ofOwns (f := fun _ => 0) hown (fun i hi => by simp [hi])
      exact ⟨a, c, rfl, h1, hbel, h2, h3⟩

theorem zeros_cat (x : Int) (n : Nat) (w : World) (hx : x = (n : Int)) (hn : n ≤ 1048576) :
    Calls Try.prog 41 #[.int .i64 x] w fun e w' => ∃ a c, e = .returned (.slice a n c) ∧ OwnB w' w.heap.size a n (fun _ => 0) ∧ Below w.heap.size w w' ∧ n ≤ c ∧ c ≤ 9223372036854775807 := by
  subst hx
  exact zeros_c n w hn

set_option maxHeartbeats 400000 in
theorem specNew_c (n : Nat) (w : World) (h1 : 16 ≤ n) (h2 : n ≤ 1024) :
    Calls Try.prog 59 #[.int .i64 n] w fun e w' => ∃ a c, e = .returned (.agg #[.slice a (n * 64) c, .slice none 0 0, .int .i64 (-1), .bool false]) ∧ OwnB w' w.heap.size a (n * 64) (fun _ => 0) ∧ Below w.heap.size w w' ∧ n * 64 ≤ c ∧ c ≤ 9223372036854775807 := by
  have hlo : ¬ (n : Int) < 16 := by omega
  have hhi : ¬ (1024 : Int) < (n : Int) := by omega
  go_enter Try.func59, Try.ntmps59
  go_wp2_with fail
  refine (zeros_cat _ (n * 64) _ (by omega) (by omega)).mono ?_
  rintro e w1 ⟨a, c, rfl, ho, hb, hc1, hc2⟩
  have HO : Hid (OwnB w1 w.heap.size a (n * 64) (fun _ => 0)) := ho.mono (by simp)
  have hz : w.heap.size < w1.heap.size := by have := hb.size; simp at this; omega
  have HB : Hid (Below w.heap.size w w1) := ((Below.refl _ _).alloc (Nat.le_refl _) _).trans (hb.mono (by simp))
  obtain ⟨hc, hf⟩ := bcell hb
  have HO1 : Hid (OwnB w1 (w.heap.size + 1) a (n * 64) (fun _ => 0)) := ho.mono (by simp)
  clear ho hb
  go_wp2
  refine bodyPost_ret (v := .agg #[.slice a (n * 64) c, .slice none 0 0, .int .i64 (-1), .bool false]) (by simp [results, Try.results59, go_sem, hc]) rfl ⟨a, c, rfl, ?_, ?_, hc1, hc2⟩
  · exact ((((HO1.out.setOther (by simp) _).setOther (by simp) _).setOther (by simp) _).setOther (by simp) _).mono (by omega)
  · exact (((HB.out.setCell (by simp) _).setCell (by simp) _).setCell (by simp) _).setCell (by simp) _

theorem specNew_cat (y : Int) (n : Nat) (w : World) (hy : y = (n : Int)) (h1 : 16 ≤ n) (h2 : n ≤ 1024) :
    Calls Try.prog 59 #[.int .i64 y] w fun e w' => ∃ a c, e = .returned (.agg #[.slice a (n * 64) c, .slice none 0 0, .int .i64 (-1), .bool false]) ∧ OwnB w' w.heap.size a (n * 64) (fun _ => 0) ∧ Below w.heap.size w w' ∧ n * 64 ≤ c ∧ c ≤ 9223372036854775807 := by
  subst hy
  exact specNew_c n w h1 h2
end Go.Proofs.Ytlcamfkgkcjehaa

namespace Go.Proofs.Ytlcamfkgkcjehaa
open Go.RowKit Go.Deep
set_option linter.unusedVariables false
set_option maxRecDepth 100000

theorem catL_mono (L : Nat → Nat) {i k : Nat} (h : i ≤ k) : catL L i ≤ catL L k := by
  induction k with
  | zero => have : i = 0 := by omega
            subst this; exact Nat.le_refl _
  | succ k ih =>
    by_cases e : i = k + 1
    · subst e; exact Nat.le_refl _
    · have := ih (by omega)
      simp only [catL]
      omega

theorem cat_pos (L : Nat → Nat) (F : Nat → Nat → Int) : ∀ (k i j : Nat), i < k → j < L i → catF L F k (catL L i + j) = F i j
  | 0, _, _, h, _ => absurd h (Nat.not_lt_zero _)
  | k + 1, i, j, h, hj => by
    simp only [catF]
    by_cases e : i = k
    · subst e
      rw [if_neg (by omega), show catL L i + j - catL L i = j by omega]
    · have h1 : catL L (i + 1) ≤ catL L k := catL_mono L (by omega)
      simp only [catL] at h1
      rw [if_pos (by omega)]
      exact cat_pos L F k i j (by omega) hj

theorem catL_const (L : Nat → Nat) (i : Nat) (h : ∀ j, j < i → L j = 48) : catL L i = 48 * i := by
  induction i with
  | zero => rfl
  | succ i ih =>
    simp only [catL]
    rw [ih (fun j hj => h j (by omega)), h i (by omega)]
    omega

theorem byteAt_two (L : Nat) (h : L < 65536) : byteAt (L : Int) 0 + byteAt (L : Int) 1 * 256 = L := by
  unfold byteAt
  simp
  omega

theorem recF_at (seq i k : Int) (L : Nat) (g : Nat → Int) (hL : L ≤ 48) (j : Nat) (hj : j < 60) : recF seq i k L g j = recH seq i k L g j := by
  unfold recF sealF putN
  rw [if_neg (by omega)]

theorem recF_len (seq i k : Int) (L : Nat) (g : Nat → Int) (hL : L ≤ 48) : getN (recF seq i k L g) 8 2 = L := by
  simp only [getN]
  rw [recF_at seq i k L g hL 8 (by omega), recF_at seq i k L g hL 9 (by omega)]
  unfold recH layN putN
  simp
  exact byteAt_two L (by omega)

theorem recF_piece (seq i k : Int) (L : Nat) (g : Nat → Int) (hL : L ≤ 48) (j : Nat) (hj : j < L) : recF seq i k L g (12 + j) = g j := by
  rw [recF_at seq i k L g hL (12 + j) (by omega)]
  unfold recH layN
  rw [if_pos (by omega), show 12 + j - 12 = j by omega]

theorem recF_congr (seq i k : Int) (L : Nat) (g g' : Nat → Int) (h : ∀ j, j < L → g j = g' j) : recF seq i k L g = recF seq i k L g' := by
  have : recH seq i k L g = recH seq i k L g' := by
    funext j
    unfold recH layN
    split
    · rename_i hj
      exact h _ (by omega)
    · rfl
  unfold recF
  rw [this]

/-- When a record's bytes are those that were read. -/
theorem rec_same (G : Nat → Nat → Int) (r seq : Int) (k : Nat) (hG : getN (G 0) 6 2 = k) (hk1 : 1 ≤ k) (hkr : (k : Int) ≤ r) (hn0 : ∀ i, 0 ≤ getN (G i) 8 2) (hN : ∀ i, i < k → getN (G i) 8 2 ≤ 48) (hP : catL (recLz G) k ≤ 30000) :
    recOk G r seq ↔ (cntOf (catL (recLz G) k) = k ∧ ∀ i, i < k → ∀ j, j < 64 → secW (catL (recLz G) k) seq (catF (recLz G) (recFz G) k) i j = G i j) := by
  constructor
  · intro h
    obtain ⟨_, h2, _, h4⟩ := h
    rw [hG] at h2 h4
    have each : ∀ i, i < k → leastV i k ≤ getN (G i) 8 2 ∧ sameB (G i) (recF seq i k (getN (G i) 8 2).toNat (fun j => G i (12 + j))) = true := fun i hi => by
      have q := h4 i (by omega)
      unfold pieceB at q
      simp only [Bool.and_eq_true, decide_eq_true_eq] at q
      exact ⟨q.1.1, q.2⟩
    have l48 : ∀ i, i + 1 < k → recLz G i = 48 := fun i hi => by
      have q := (each i (by omega)).1
      have q2 := hN i (by omega)
      unfold leastV at q
      rw [if_pos (by omega)] at q
      unfold recLz
      omega
    obtain ⟨k', rfl⟩ : ∃ k', k = k' + 1 := ⟨k - 1, by omega⟩
    have hc : catL (recLz G) k' = 48 * k' := catL_const _ k' (fun j hj => l48 j (by omega))
    have hP' : catL (recLz G) (k' + 1) = 48 * k' + recLz G k' := by simp only [catL]; rw [hc]
    have last := each k' (by omega)
    have ll : recLz G k' ≤ 48 := by have := hN k' (by omega); unfold recLz; omega
    have l1 : 1 ≤ k' → 1 ≤ recLz G k' := fun h1 => by
      have q := last.1
      unfold leastV at q
      rw [if_neg (by omega), if_pos (by omega)] at q
      unfold recLz
      omega
    have hcnt : cntOf (48 * k' + recLz G k') = k' + 1 := by
      unfold cntOf
      split <;> omega
    rw [hP']
    refine ⟨hcnt, fun i hi j hj => ?_⟩
    have hpos : catL (recLz G) i = 48 * i := catL_const _ i (fun j hj => l48 j (by omega))
    have hpl : plen (48 * k' + recLz G k') i = recLz G i := by
      unfold plen
      by_cases e : i = k'
      · subst e
        split <;> omega
      · rw [l48 i (by omega)]
        rw [if_pos (by omega)]
    unfold secW
    rw [hpl, hcnt]
    have hs := (sameB_iff _ _).1 (each i hi).2 j hj
    rw [hs]
    have hz : recLz G i = (getN (G i) 8 2).toNat := rfl
    rw [← hz]
    have e : recF seq i ((k' + 1 : Nat) : Int) (recLz G i) (fun j => catF (recLz G) (recFz G) (k' + 1) (i * 48 + j)) = recF seq i ((k' + 1 : Nat) : Int) (recLz G i) (fun j => G i (12 + j)) := recF_congr _ _ _ _ _ _ (fun j hj => by
      have := cat_pos (recLz G) (recFz G) (k' + 1) i j hi hj
      rw [hpos, show 48 * i = i * 48 by omega] at this
      exact this)
    rw [e]
  · rintro ⟨hcnt, hs⟩
    refine ⟨by omega, ?_, by omega, fun i hi => ?_⟩
    · rw [hG]
      have : cntOf (catL (recLz G) k) ≤ 625 := by unfold cntOf; split <;> omega
      omega
    · rw [hG] at hi ⊢
      have hik : i < k := by omega
      have hpl := plen_le (catL (recLz G) k) i
      have hGi : ∀ j, j < 64 → G i j = recF seq i k (plen (catL (recLz G) k) i) (fun j => catF (recLz G) (recFz G) k (i * 48 + j)) j := fun j hj => by
        have := hs i hik j hj
        unfold secW at this
        rw [hcnt] at this
        exact this.symm
      have hN8 : getN (G i) 8 2 = plen (catL (recLz G) k) i := by
        have q := recF_len seq i k (plen (catL (recLz G) k) i) (fun j => catF (recLz G) (recFz G) k (i * 48 + j)) hpl
        simp only [getN] at q ⊢
        rw [hGi (8 + 0) (by omega), hGi (8 + 1) (by omega)]
        exact q
      unfold pieceB
      simp only [Bool.and_eq_true, decide_eq_true_eq]
      refine ⟨⟨?_, by omega⟩, (sameB_iff _ _).2 (fun j hj => ?_)⟩
      · rw [hN8]
        unfold leastV plen
        unfold cntOf at hcnt
        split at hcnt <;> (repeat' split) <;> omega
      · rw [hN8, hGi j hj, Int.toNat_natCast]
        have e := recF_congr seq i k (plen (catL (recLz G) k) i) (fun j => catF (recLz G) (recFz G) k (i * 48 + j)) (fun j => G i (12 + j)) (fun j hj => by
          rw [hGi (12 + j) (by omega), recF_piece _ _ _ _ _ hpl j hj])
        rw [e]
end Go.Proofs.Ytlcamfkgkcjehaa

namespace Go.Proofs.Ytlcamfkgkcjehaa
open Go.RowKit Go.Deep
set_option linter.unusedVariables false
set_option maxRecDepth 100000

theorem over_sec (d : Nat → Int) (s : Nat) (f : Nat → Int) (i j : Nat) (hj : j < 64) : over d s f (i * 64 + j) = if i = s then f j else d (i * 64 + j) := by
  unfold over
  by_cases e : i = s
  · subst e
    rw [if_neg (by omega), if_pos (by omega), if_pos rfl]
    congr 1
    omega
  · rw [if_neg e]
    split
    · rfl
    · rw [if_neg (by omega)]

/-- Sector i of two disks is the same. -/
def SameS (d d' : Nat → Int) (i : Nat) : Prop := ∀ j, j < 64 → d (i * 64 + j) = d' (i * 64 + j)
/-- Sector i reads as f. -/
def IsS (d : Nat → Int) (i : Nat) (f : Nat → Int) : Prop := ∀ j, j < 64 → d (i * 64 + j) = f j
theorem SameS.refl (d : Nat → Int) (i : Nat) : SameS d d i := fun _ _ => rfl

/-- Each of the cache's writes is a sector A + x of the record, P x being so. -/
def CacheR (A : Nat) (G : Nat → Nat → Int) (P : Nat → Prop) (t : Stt) : Prop := ∀ i, i < t.m → ∃ x, P x ∧ t.S i = ((A + x : Nat) : Int) ∧ t.F i = G x

theorem crash_sec {A : Nat} {G : Nat → Nat → Int} {P : Nat → Prop} {t : Stt} (K : Nat → Bool) (nk : Nat) : ∀ m, m ≤ t.m → CacheR A G P t → ∀ i, SameS (crashTo t.d t.S t.F K nk m) t.d i ∨ ∃ x, P x ∧ i = A + x ∧ IsS (crashTo t.d t.S t.F K nk m) i (G x)
  | 0, _, _, i => .inl (SameS.refl _ _)
  | m + 1, hm, h, i => by
    have ih := crash_sec K nk m (by omega) h i
    by_cases hk : m < nk ∧ K m = true
    · rw [crashTo_hit hk.1 hk.2]
      obtain ⟨x, hx, e1, e2⟩ := h m (by omega)
      rw [e1, e2, Int.toNat_natCast]
      by_cases e : i = A + x
      · exact .inr ⟨x, hx, e, fun j hj => by rw [over_sec _ _ _ _ _ hj, if_pos e]⟩
      · rcases ih with ih | ⟨y, hy, ey, hs⟩
        · exact .inl (fun j hj => by rw [over_sec _ _ _ _ _ hj, if_neg e]; exact ih j hj)
        · exact .inr ⟨y, hy, ey, fun j hj => by rw [over_sec _ _ _ _ _ hj, if_neg e]; exact hs j hj⟩
    · rw [crashTo_miss hk]
      exact ih
theorem sync_sec {A : Nat} {G : Nat → Nat → Int} {P : Nat → Prop} {t : Stt} : ∀ m, m ≤ t.m → CacheR A G P t → ∀ i, (SameS (syncTo t.d t.S t.F m) t.d i ∧ ∀ k, k < m → t.S k ≠ (i : Int)) ∨ ∃ x, P x ∧ i = A + x ∧ IsS (syncTo t.d t.S t.F m) i (G x)
  | 0, _, _, i => .inl ⟨SameS.refl _ _, fun k hk => absurd hk (Nat.not_lt_zero _)⟩
  | m + 1, hm, h, i => by
    have ih := sync_sec m (by omega) h i
    show (SameS (over (syncTo t.d t.S t.F m) (t.S m).toNat (t.F m)) t.d i ∧ _) ∨ ∃ x, P x ∧ i = A + x ∧ IsS (over (syncTo t.d t.S t.F m) (t.S m).toNat (t.F m)) i (G x)
    obtain ⟨x, hx, e1, e2⟩ := h m (by omega)
    rw [e1, e2, Int.toNat_natCast]
    by_cases e : i = A + x
    · exact .inr ⟨x, hx, e, fun j hj => by rw [over_sec _ _ _ _ _ hj, if_pos e]⟩
    · rcases ih with ⟨ih, ik⟩ | ⟨y, hy, ey, hs⟩
      · refine .inl ⟨fun j hj => by rw [over_sec _ _ _ _ _ hj, if_neg e]; exact ih j hj, fun k hk => ?_⟩
        by_cases ek : k = m
        · subst ek; rw [e1]; omega
        · exact ik k (by omega)
      · exact .inr ⟨y, hy, ey, fun j hj => by rw [over_sec _ _ _ _ _ hj, if_neg e]; exact hs j hj⟩

/-- Before the sectors ahead of the last one are durable. -/
def Q1 (d : Nat → Int) (A last : Nat) (G : Nat → Nat → Int) (t : Stt) : Prop := t.d = d ∧ CacheR A G (fun x => x < last) t
/-- They are durable, the last one is not. -/
def Q2 (d : Nat → Int) (A last : Nat) (G : Nat → Nat → Int) (t : Stt) : Prop := (∀ i, (∃ x, x < last ∧ i = A + x ∧ IsS t.d i (G x)) ∨ ((i < A ∨ A + last ≤ i) ∧ SameS t.d d i)) ∧ CacheR A G (fun x => x = last) t
/-- All is durable. -/
def Q3 (d : Nat → Int) (A last : Nat) (G : Nat → Nat → Int) (t : Stt) : Prop := (∀ i, (∃ x, x ≤ last ∧ i = A + x ∧ IsS t.d i (G x)) ∨ ((i < A ∨ A + last < i) ∧ SameS t.d d i)) ∧ t.m = 0

theorem writes_q {t : Stt} {A last : Nat} {G : Nat → Nat → Int} (h0 : t.m = 0) : ∀ k, k ≤ last → last ≤ 1000 → Q1 t.d A last G (t.writes A G k) ∧ (t.writes A G k).m ≤ k ∧ ((t.writes A G k).dead = false → ∀ x, x < k → ∃ i, i < (t.writes A G k).m ∧ (t.writes A G k).S i = ((A + x : Nat) : Int))
  | 0, _, _ => ⟨⟨rfl, fun i hi => by show ∃ x, _; have : i < t.m := hi; omega⟩, by show t.m ≤ 0; omega, fun _ x hx => absurd hx (Nat.not_lt_zero _)⟩
  | k + 1, hk, hl => by
    obtain ⟨⟨h1, h2⟩, h3, h4⟩ := writes_q h0 (G := G) (A := A) k (by omega) hl
    show Q1 t.d A last G ((t.writes A G k).write ((A : Int) + k) (G k)) ∧ ((t.writes A G k).write ((A : Int) + k) (G k)).m ≤ k + 1 ∧ (((t.writes A G k).write ((A : Int) + k) (G k)).dead = false → ∀ x, x < k + 1 → ∃ i, i < ((t.writes A G k).write ((A : Int) + k) (G k)).m ∧ ((t.writes A G k).write ((A : Int) + k) (G k)).S i = ((A + x : Nat) : Int))
    generalize t.writes A G k = u at h1 h2 h3 h4 ⊢
    unfold Stt.write
    by_cases hd : u.dead = true
    · rw [if_pos hd]
      exact ⟨⟨h1, h2⟩, by omega, fun q => by rw [hd] at q; cases q⟩
    rw [if_neg hd, if_neg (by omega)]
    by_cases hf : u.fuel = 0
    · rw [if_pos hf]
      exact ⟨⟨h1, h2⟩, by show u.m ≤ k + 1; omega, fun q => by cases q⟩
    rw [if_neg hf]
    refine ⟨⟨h1, fun i hi => ?_⟩, by show u.m + 1 ≤ k + 1; omega, fun _ x hx => ?_⟩
    · have hi' : i < u.m + 1 := hi
      show ∃ x, x < last ∧ (if i = u.m then (A : Int) + k else u.S i) = _ ∧ (if i = u.m then G k else u.F i) = _
      by_cases e : i = u.m
      · refine ⟨k, by omega, ?_, ?_⟩
        · rw [if_pos e]; omega
        · rw [if_pos e]
      · rw [if_neg e, if_neg e]
        exact h2 i (by omega)
    · show ∃ i, i < u.m + 1 ∧ (if i = u.m then (A : Int) + k else u.S i) = _
      by_cases e : x = k
      · exact ⟨u.m, by omega, by rw [if_pos rfl, e]; omega⟩
      · obtain ⟨i, hi, hs⟩ := h4 (by cases h : u.dead with | true => exact absurd h hd | false => rfl) x (by omega)
        exact ⟨i, by omega, by rw [if_neg (by omega)]; exact hs⟩

theorem recd_q {t : Stt} {A last : Nat} {G : Nat → Nat → Int} (h0 : t.m = 0) (hl : last ≤ 1000) : (Q1 t.d A last G (t.recd A G last) ∨ Q2 t.d A last G (t.recd A G last) ∨ Q3 t.d A last G (t.recd A G last)) ∧ ((t.recd A G last).dead = false → Q3 t.d A last G (t.recd A G last)) := by
  obtain ⟨⟨h1, h2⟩, h3, h4⟩ := writes_q h0 (G := G) (A := A) last (Nat.le_refl _) hl
  -- behind the first sync
  have key : ∀ u : Stt, u = (if 0 < last then (t.writes A G last).sync else t.writes A G last) → (u.dead = true ∧ Q1 t.d A last G u) ∨ (Q2 t.d A last G u ∧ u.m = 0) := by
    intro u hu
    by_cases hz : 0 < last
    · rw [if_pos hz] at hu
      generalize t.writes A G last = v at h1 h2 h3 h4 hu
      subst hu
      unfold Stt.sync
      by_cases hd : v.dead = true
      · rw [if_pos hd]; exact .inl ⟨hd, h1, h2⟩
      rw [if_neg hd]
      by_cases hf : v.fuel = 0
      · rw [if_pos hf]; exact .inl ⟨rfl, h1, h2⟩
      rw [if_neg hf]
      refine .inr ⟨⟨fun i => ?_, fun i hi => absurd hi (Nat.not_lt_zero _)⟩, rfl⟩
      have hdf : v.dead = false := by cases h : v.dead with | true => exact absurd h hd | false => rfl
      rcases sync_sec (t := v) v.m (Nat.le_refl _) h2 i with ⟨q1, q2⟩ | ⟨x, hx, e, q⟩
      · right
        refine ⟨?_, fun j hj => by rw [← h1]; exact q1 j hj⟩
        by_cases hi : i < A ∨ A + last ≤ i
        · exact hi
        · obtain ⟨k, hk, hs⟩ := h4 hdf (i - A) (by omega)
          exact absurd (by rw [hs]; omega) (q2 k hk)
      · exact .inl ⟨x, hx, e, q⟩
    · rw [if_neg hz] at hu
      have e0 : last = 0 := by omega
      subst e0
      have hu' : u = t := hu
      subst hu'
      exact .inr ⟨⟨fun i => .inr ⟨by omega, SameS.refl _ _⟩, fun i hi => by omega⟩, h0⟩
  unfold Stt.recd
  dsimp only
  generalize hu : (if 0 < last then (t.writes A G last).sync else t.writes A G last) = u
  rcases key u hu.symm with ⟨hd, hq⟩ | ⟨hq, hm⟩
  · rw [Stt.write_dead hd, Stt.sync_dead hd]
    exact ⟨.inl hq, fun e => by rw [hd] at e; cases e⟩
  · -- the last write
    have hw : ∀ v : Stt, v = u.write ((A : Int) + last) (G last) → Q2 t.d A last G v ∧ (v.dead = false → ∃ i, i < v.m ∧ v.S i = ((A + last : Nat) : Int)) := by
      intro v hv
      subst hv
      unfold Stt.write
      by_cases hd : u.dead = true
      · rw [if_pos hd]; exact ⟨hq, fun e => by rw [hd] at e; cases e⟩
      rw [if_neg hd, if_neg (by omega)]
      by_cases hf : u.fuel = 0
      · rw [if_pos hf]; exact ⟨hq, fun e => by cases e⟩
      rw [if_neg hf]
      refine ⟨⟨hq.1, fun i hi => ?_⟩, fun _ => ⟨u.m, by show u.m < u.m + 1; omega, ?_⟩⟩
      · have hi' : i < u.m + 1 := hi
        show ∃ x, x = last ∧ (if i = u.m then (A : Int) + last else u.S i) = _ ∧ (if i = u.m then G last else u.F i) = _
        rw [if_pos (by omega), if_pos (by omega)]
        exact ⟨last, rfl, by omega, rfl⟩
      · show (if u.m = u.m then (A : Int) + last else u.S u.m) = _
        rw [if_pos rfl]
        omega
    generalize hv : u.write ((A : Int) + last) (G last) = v
    obtain ⟨q1, q2⟩ := hw v hv.symm
    unfold Stt.sync
    by_cases hd : v.dead = true
    · rw [if_pos hd]; exact ⟨.inr (.inl q1), fun e => by rw [hd] at e; cases e⟩
    rw [if_neg hd]
    by_cases hf : v.fuel = 0
    · rw [if_pos hf]; exact ⟨.inr (.inl q1), fun e => by cases e⟩
    rw [if_neg hf]
    have hdf : v.dead = false := by cases h : v.dead with | true => exact absurd h hd | false => rfl
    have q3 : Q3 t.d A last G v.flush := by
      refine ⟨fun i => ?_, rfl⟩
      rcases sync_sec (t := v) v.m (Nat.le_refl _) q1.2 i with ⟨s1, s2⟩ | ⟨x, hx, e, s⟩
      · rcases q1.1 i with ⟨x, hx, e, s⟩ | ⟨e, s⟩
        · exact .inl ⟨x, by omega, e, fun j hj => (s1 j hj).trans (s j hj)⟩
        · refine .inr ⟨?_, fun j hj => (s1 j hj).trans (s j hj)⟩
          obtain ⟨k, hk, hs⟩ := q2 hdf
          have := s2 k hk
          rw [hs] at this
          omega
      · exact .inl ⟨x, by omega, e, s⟩
    exact ⟨.inr (.inr q3), fun _ => q3⟩

/-- What a crash leaves of a record: all its sectors, or not the last one; else nothing has changed. -/
def Torn (d c : Nat → Int) (A last : Nat) (G : Nat → Nat → Int) : Prop :=
  (∀ i, i < A ∨ A + last < i → SameS c d i) ∧ ((∀ x, x ≤ last → IsS c (A + x) (G x)) ∨ (SameS c d (A + last) ∧ ∀ x, x < last → SameS c d (A + x) ∨ IsS c (A + x) (G x)))
theorem crash_q {t u : Stt} {A last : Nat} {G : Nat → Nat → Int} (K : Nat → Bool) (nk : Nat) (h : Q1 t.d A last G u ∨ Q2 t.d A last G u ∨ Q3 t.d A last G u) : Torn t.d (crashTo u.d u.S u.F K nk u.m) A last G := by
  rcases h with ⟨h1, h2⟩ | ⟨h1, h2⟩ | ⟨h1, h2⟩
  · have h := crash_sec K nk u.m (Nat.le_refl _) h2
    rw [h1] at h ⊢
    refine ⟨fun i hi => ?_, .inr ⟨?_, fun x hx => ?_⟩⟩
    · rcases h i with q | ⟨x, hx, e, _⟩
      · exact q
      · omega
    · rcases h (A + last) with q | ⟨x, hx, e, _⟩
      · exact q
      · omega
    · rcases h (A + x) with q | ⟨y, hy, e, q⟩
      · exact .inl q
      · have : x = y := by omega
        subst this
        exact .inr q
  · have h := crash_sec K nk u.m (Nat.le_refl _) h2
    have hx : ∀ x, x < last → IsS (crashTo u.d u.S u.F K nk u.m) (A + x) (G x) := fun x hx => by
      rcases h (A + x) with q | ⟨y, hy, e, _⟩
      · rcases h1 (A + x) with ⟨y, hy, e, s⟩ | ⟨e, _⟩
        · have : x = y := by omega
          subst this
          exact fun j hj => (q j hj).trans (s j hj)
        · omega
      · omega
    refine ⟨fun i hi => ?_, ?_⟩
    · rcases h i with q | ⟨x, hx, e, _⟩
      · rcases h1 i with ⟨y, hy, e, s⟩ | ⟨e, s⟩
        · omega
        · exact fun j hj => (q j hj).trans (s j hj)
      · omega
    · rcases h (A + last) with q | ⟨x, hx2, e, q⟩
      · right
        refine ⟨?_, fun x h => .inr (hx x h)⟩
        rcases h1 (A + last) with ⟨y, hy, e, s⟩ | ⟨e, s⟩
        · omega
        · exact fun j hj => (q j hj).trans (s j hj)
      · left
        intro y hy
        by_cases e2 : y = last
        · subst e2; rw [hx2] at q; exact q
        · exact hx y (by omega)
  · have e : crashTo u.d u.S u.F K nk u.m = u.d := by rw [h2]; rfl
    rw [e]
    refine ⟨fun i hi => ?_, .inl (fun x hx => ?_)⟩
    · rcases h1 i with ⟨y, hy, e, s⟩ | ⟨e, s⟩
      · omega
      · exact s
    · rcases h1 (A + x) with ⟨y, hy, e, s⟩ | ⟨e, s⟩
      · have : x = y := by omega
        subst this
        exact s
      · omega
end Go.Proofs.Ytlcamfkgkcjehaa

namespace Go.Proofs.Ytlcamfkgkcjehaa
open Go.RowKit Go.Deep
set_option linter.unusedVariables false
set_option maxRecDepth 100000

/-- A slice of bools in the call's own memory. -/
def OwnBl (w : World) (B : Nat) (a : Option Addr) (n : Nat) (f : Nat → Bool) : Prop :=
  n = 0 ∨ ∃ g, a = some ⟨g, 0, none⟩ ∧ B ≤ g ∧ rowIn w g 4 n (fun i => .bool (f i))
theorem OwnBl.rd {w : World} {B n : Nat} {a : Option Addr} {f : Nat → Bool} (h : OwnBl w B a n f) : RdBl w a n f := by
  rcases h with h | ⟨g, rfl, _, hr⟩
  · exact Or.inl h
  · exact RdBl.ofRow hr
theorem OwnBl.below {w w' : World} {B n : Nat} {a : Option Addr} {f : Nat → Bool} (h : OwnBl w B a n f) (hb : Below w.heap.size w w') : OwnBl w' B a n f := by
  rcases h with h | ⟨g, rfl, hg, hr⟩
  · exact Or.inl h
  · exact Or.inr ⟨g, rfl, hg, hr.below hb⟩

def boolRow (f : Nat → Bool) (k : Nat) : List Value := (List.range k).map (fun i => .bool (f i))

theorem boolRow_succ (f : Nat → Bool) (k : Nat) (o : Bool) : boolRow f k ++ [.bool o] = boolRow (fun i => if i = k then o else f i) (k + 1) := by
  unfold boolRow
  rw [List.range_succ, List.map_append]
  congr 1
  · refine List.map_congr_left (fun j hj => ?_)
    have := List.mem_range.1 hj
    simp only [if_neg (show ¬ j = k by omega)]
  · simp
theorem owns_onlyLow {w w' : World} {B g o k : Nat} {e : TypeId} {z : Nat} {v : Value} {xs : List Value} (h : w.ownsRow B e z v k xs) (hg : g < B) (ho : OnlyAt (some ⟨g, o, none⟩) w w') : w'.ownsRow B e z v k xs := by
  refine ⟨h.1, ?_⟩
  rcases h.2 with h2 | ⟨g2, cap, cur, hv, hB, hh, r⟩
  · exact Or.inl h2
  · exact Or.inr ⟨g2, cap, cur, hv, hB, (ho.block g2 (fun x e => by injection e with e; subst e; show g ≠ g2; omega)).trans hh, r⟩
theorem owns_blockGe {w : World} {B k : Nat} {e : TypeId} {z : Nat} {v : Value} {xs : List Value} (h : w.ownsRow B e z v k xs) : ∀ g, v.ownBlock = some g → B ≤ g := by
  intro g eg
  rcases h.2 with ⟨hv, _⟩ | ⟨g2, cap, cur, hv, hB, _⟩
  · rw [hv] at eg; simp [Value.ownBlock] at eg
  · rw [hv] at eg
    simp [Value.ownBlock] at eg
    omega
theorem ownBl_ofRow {w : World} {B k : Nat} {v : Value} {K : Nat → Bool} (h : w.ownsRow B 4 1 v k (boolRow K k)) : ∃ a cp, v = .slice a k cp ∧ OwnBl w B a k K := by
  rcases h.2 with ⟨hv, hk⟩ | ⟨g, cap, cur, hv, hg, hh, h1, h2, h3, h4⟩
  · subst hk; exact ⟨none, 0, hv, Or.inl rfl⟩
  · refine ⟨_, cap, hv, Or.inr ⟨g, rfl, hg, ⟨cur, hh, by omega, fun i hi => ?_⟩⟩⟩
    have e : cur[i]? = (cur.toList.take (k * 1))[i]? := by rw [List.getElem?_take, if_pos (by omega)]; simp
    rw [e, h4]
    unfold boolRow
    rw [List.getElem?_map, List.getElem?_range hi]
    rfl

/-- What l1Keep hands back. -/
def RetKeep (w : World) (g : Nat) (b : Option Addr) (n c : Nat) (f : Nat → Int) (M : Nat) (e : Ending) (w' : World) : Prop :=
  ∃ (k : Nat) (a : Option Addr) (cp : Nat) (K : Nat → Bool), e = .returned (.slice a k cp) ∧ k ≤ M + 1 ∧ OwnBl w' w.heap.size a k K ∧ Drw w' g b n c f ∧ BelC w.heap.size g w w'

end Go.Proofs.Ytlcamfkgkcjehaa
