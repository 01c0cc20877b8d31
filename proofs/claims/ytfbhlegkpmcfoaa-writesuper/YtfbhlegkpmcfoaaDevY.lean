import Derived.Test.YtfbhlegkpmcfoaaDevG
import Derived.Test.YtfbhlegkpmcfoaaSettle
import Derived.Test.YtfbhlegkpmcfoaaValid
namespace Go.Proofs.Ytfbhlegkpmcfoaa
open Go.RowKit Go.Deep
set_option linter.unusedVariables false
set_option maxRecDepth 100000

/-- What is durable after the first k writes have been settled. -/
def syncTo (d S : Nat → Int) (F : Nat → Nat → Int) : Nat → Nat → Int
  | 0 => d
  | k + 1 => over (syncTo d S F k) (S k).toNat (F k)

theorem sectorFits {n s : Nat} {S : Nat → Int} {L : Nat → Nat} {i : Nat} (h : VP n S L i) (hs : S i = (s : Int)) : s * 64 + 64 ≤ n := by
  obtain ⟨h0, h1, _⟩ := h
  omega

set_option maxHeartbeats 400000 in
theorem sync_zero (b : Nat) (v0 v1 : Value) (dead : Bool) (w : World) (h : Dev w b v0 v1 0 dead) :
    Calls Try.prog 81 #[.pointer (some ⟨b, 0, none⟩)] w fun e w' => e = .panicked [{ v := .iface 111 (.agg #[]), recovered := false }] ∧ Dev w' b v0 v1 0 true ∧ OnlyAt (some ⟨b, 0, none⟩) w w' := by
  have H : Hid (Dev w b v0 v1 0 dead) := h
  clear h
  go_enter Try.func81, Try.ntmps81
  go_wp2_with fail
  refine (spend_zero b v0 v1 dead w H.out).mono ?_
  rintro e w1 ⟨rfl, hd, ho⟩
  have HE : Hid (Dev w1 b v0 v1 0 true ∧ OnlyAt (some ⟨b, 0, none⟩) w w1) := ⟨hd, ho⟩
  clear hd ho
  go_wp2
  exact ⟨rfl, rfl, HE.out⟩

set_option maxHeartbeats 400000 in
theorem sync_dead (b : Nat) (v0 v1 : Value) (fuel : Int) (w : World) (h : Dev w b v0 v1 fuel true) (hf : fuel ≠ 0) :
    Calls Try.prog 81 #[.pointer (some ⟨b, 0, none⟩)] w fun e w' => e = .panicked [{ v := .iface 111 (.agg #[]), recovered := false }] ∧ w' = w := by
  have H : Hid (Dev w b v0 v1 fuel true) := h
  clear h
  go_enter Try.func81, Try.ntmps81
  go_wp2_with fail
  refine (spend_dead b v0 v1 fuel w H.out hf).mono ?_
  rintro e w1 ⟨rfl, hw⟩
  subst hw
  go_wp2
  exact ⟨rfl, rfl, rfl⟩

theorem rowIn.other {w w' : World} {g k : Nat} {t : TypeId} {n : Nat} {F : Nat → Value} (h : rowIn w k t n F) (hne : k ≠ g) (hw : Within g (g + 1) w w') : rowIn w' k t n F :=
  h.within (by omega) hw

/-- A pending write, while the data's block alone turns. -/
theorem pend_read {w wr : World} {B g n m q k : Nat} {p : Option Addr} {S : Nat → Int} {L : Nat → Nat} {F : Nat → Nat → Int} {A : Nat → Option Addr} {C : Nat → Nat} {f : Nat → Value} (hg : Gath w B (.slice p m q) m S L F A C) (hrow : rowIn w g 5 n f) (hw : Within g (g + 1) w wr) (hk : k < m) (hl : L k ≠ 0) (hap : A k ≠ some ⟨g, 0, none⟩) :
    ∃ b o, p = some ⟨b, o, none⟩ ∧ wr.cell? ⟨b, o + k * 2, none⟩ = some (.int .i64 (S k)) ∧ wr.cell? ⟨b, o + k * 2 + 1, none⟩ = some (.slice (A k) (L k) (C k)) ∧ Rd .u8 wr (A k) (L k) (F k) ∧ b < wr.heap.size := by
  rcases hg.row.2 with ⟨_, h0⟩ | ⟨gp, cap, cur, hv, hgB, hh, h1, h2, h3, h4⟩
  · omega
  · injection hv with e1 _ _
    subst e1
    have hrp : rowIn w gp 86 (m * 2) (pendCell S A L C) := ⟨cur, hh, by omega, fun i hi => by
      rw [← pendRow_get S A L C m i hi, ← h4, List.getElem?_take, if_pos hi]
      simp⟩
    have hne : gp ≠ g := hrp.ne hrow (by decide)
    have hrp' := hrp.other hne hw
    refine ⟨gp, 0, rfl, ?_, ?_, ?_, hrp'.lt⟩
    · have := hrp'.cell (i := k * 2) (by omega)
      rw [pendCell_even] at this
      simpa using this
    · have := hrp'.cell (i := k * 2 + 1) (by omega)
      rw [pendCell_odd] at this
      simpa using this
    · rcases hg.each k hk with h0 | ⟨gk, hA, hgk, hrk⟩
      · exact absurd h0 hl
      · have hnk : gk ≠ g := fun e => hap (by rw [hA, e])
        have := hrk.other hnk hw
        rw [hA]
        exact Or.inr ⟨gk, 0, rfl, fun i hi => by rw [Nat.zero_add]; exact this.cell hi⟩

set_option maxHeartbeats 2000000 in
theorem sync_live (b m q B n c' g : Nat) (p : Option Addr) (fuel : Int) (d S : Nat → Int) (L : Nat → Nat) (F : Nat → Nat → Int) (A : Nat → Option Addr) (C : Nat → Nat) (w : World)
    (h : Dev w b (.slice (some ⟨g, 0, none⟩) n c') (.slice p m q) fuel false) (hf : fuel ≠ 0) (h1 : -1 ≤ fuel) (h2 : fuel ≤ 1000000)
    (hgB : B ≤ g) (hr : rowIn w g 5 n (fun i => .int .u8 (d i))) (hg : Gath w B (.slice p m q) m S L F A C) (hap : ∀ i, i < m → L i ≠ 0 → A i ≠ some ⟨g, 0, none⟩) (hv : ∀ i, i < m → VP n S L i) (hn : n ≤ 1048576) (hm : m ≤ 1048576) (hnc : n ≤ c') (hcm : c' ≤ 9223372036854775807) (hBb : B ≤ b) :
    Calls Try.prog 81 #[.pointer (some ⟨b, 0, none⟩)] w fun e w' => e = .returned (.tuple #[]) ∧ Dev w' b (.slice (some ⟨g, 0, none⟩) n c') (.slice none 0 0) (fuelAfter fuel) false ∧ rowIn w' g 5 n (fun i => .int .u8 (syncTo d S F m i)) ∧ Below B w w' := by
  have H : Hid (Dev w b (.slice (some ⟨g, 0, none⟩) n c') (.slice p m q) fuel false) := h
  have HG : Hid (Gath w B (.slice p m q) m S L F A C) := hg
  have HAP : Hid (∀ i, i < m → L i ≠ 0 → A i ≠ some ⟨g, 0, none⟩) := hap
  have HV : Hid (∀ i, i < m → VP n S L i) := hv
  have HR : Hid (rowIn w g 5 n (fun i => .int .u8 (d i))) := hr
  clear h hg hap hv hr
  go_enter Try.func81, Try.ntmps81
  go_wp2_with fail
  refine (spend_live b _ _ fuel w H.out hf h1 h2).mono ?_
  rintro e w1 ⟨rfl, hd1, ho1⟩
  have D1 : Hid (Dev w1 b (.slice (some ⟨g, 0, none⟩) n c') (.slice p m q) (fuelAfter fuel) false) := hd1
  have G1 : Hid (Gath w1 B (.slice p m q) m S L F A C) := HG.out.onlyDev H.out ho1
  have R1 : Hid (rowIn w1 g 5 n (fun i => .int .u8 (d i))) := HR.out.only (HR.out.ne H.out (by decide)) ho1
  have HB1 : Hid (Below B w w1) := ho1.below (fun x e => by injection e with e; subst e; exact hBb)
  have hgb : g ≠ b := R1.out.ne D1.out (by decide)
  have hgl := R1.out.lt
  clear hd1 ho1
  obtain ⟨c0, c1, c2, c3, cf, cl⟩ := D1.out.cells
  go_wp2
  go_loopw [3, 12] (fun _ i wr => ∃ k : Nat, k ≤ m ∧ i = .int .i64 k ∧ rowIn wr g 5 n (fun j => .int .u8 (syncTo d S F k j)) ∧ Within g (g + 1) w1 wr) (fun _ i _ => m - (intOf i).toNat)
  case atStart => exact ⟨0, Nat.zero_le _, rfl, R1.out, Within.refl _ _ _⟩
  case round =>
    clear c0 c1 c2 c3 cf cl
    obtain ⟨k, hkm, rfl, hrow, hwi⟩ := hrel
    have hz := hwi.size
    have HW : Hid (Within g (g + 1) w1 wr) := hwi
    have HRW : Hid (rowIn wr g 5 n (fun j => .int .u8 (syncTo d S F k j))) := hrow
    have DR : Hid (Dev wr b (.slice (some ⟨g, 0, none⟩) n c') (.slice p m q) (fuelAfter fuel) false) := rowIn.other D1.out (fun e => hgb e.symm) hwi
    clear hwi hrow
    obtain ⟨c0, c1, c2, c3, cf, cl⟩ := DR.out.cells
    by_cases hlt : k < m
    · have hvp := HV.out k hlt
      have hl64 : L k = 64 := hvp.2.2
      obtain ⟨pb, po, hpa, e1, e2, e3, hpl⟩ := pend_read G1.out R1.out HW.out hlt (by omega) (HAP.out k hlt (by omega))
      subst hpa
      rw [hl64] at e2 e3
      obtain ⟨s, hs⟩ := Int.eq_ofNat_of_zero_le hvp.1
      have hfit := sectorFits hvp hs
      have HS : Hid (S k = (s : Int)) := hs
      rw [hs] at e1
      have HT : Hid (syncTo d S F (k + 1) = over (syncTo d S F k) s (F k)) := by
        show over _ _ _ = _
        rw [HS.out, Int.toNat_natCast]
      have E3 : Hid (Rd .u8 (wr.alloc (.cells #[.int .i64 s, .slice (A k) 64 (C k)] 86)).drew (A k) 64 (F k)) := e3.below (below_alloc _ _).drew
      have HRA : Hid (rowIn (wr.alloc (.cells #[.int .i64 s, .slice (A k) 64 (C k)] 86)).drew g 5 n (fun j => .int .u8 (syncTo d S F k j))) := HRW.out.of_block (Below.heap_alloc _ _ _ HRW.out.lt)
      clear hvp hs e3 hl64
      have HC : Hid (∀ (w3 : World) (O : Obj), OnlyAt (some ⟨g, 0, none⟩) ((wr.alloc (.cells #[.int .i64 s, .slice (A k) 64 (C k)] 86)).drew.alloc O) w3 → w3.cell? ⟨b, 0, none⟩ = some (.slice (some ⟨g, 0, none⟩) n c') ∧ w3.cell? ⟨wr.heap.size, 0, none⟩ = some (.int .i64 s) ∧ w3.cell? ⟨wr.heap.size, 1, none⟩ = some (.slice (A k) 64 (C k))) := by
        intro w3 O ho
        have hgr := HRW.out.lt
        have q1 : ∀ x, x ≠ g → x < wr.heap.size + 1 → w3.heap[x]? = ((wr.alloc (.cells #[.int .i64 s, .slice (A k) 64 (C k)] 86)).drew).heap[x]? := fun x hx hl =>
          (ho.block x (fun y e => by injection e with e; subst e; exact fun e => hx e.symm)).trans (Below.heap_alloc _ _ _ (by simpa using hl))
        refine ⟨?_, ?_, ?_⟩
        · rw [World.cell?_of_block (a := ⟨b, 0, none⟩) (q1 b (fun e => hgb e.symm) (by omega)), (below_alloc wr _).drew.cell (p := ⟨b, 0, none⟩) cl]
          exact c0
        · rw [World.cell?_of_block (a := ⟨wr.heap.size, 0, none⟩) (q1 wr.heap.size (by omega) (by omega))]; simp
        · rw [World.cell?_of_block (a := ⟨wr.heap.size, 1, none⟩) (q1 wr.heap.size (by omega) (by omega))]; simp
      go_wp2
      go_region_held3 (fun w' => w'.cell? ⟨b, 0, none⟩ = some (.slice (some ⟨g, 0, none⟩) n c') ∧ w'.cell? ⟨wr.heap.size, 0, none⟩ = some (.int .i64 s) ∧ w'.cell? ⟨wr.heap.size, 1, none⟩ = some (.slice (A k) 64 (C k))) (go_keep)
        (first
        | (go_at_call 89; refine (settle_any g n c' s (C k) (A k) _ (F k) (wr.alloc (.cells #[.int .i64 s, .slice (A k) 64 (C k)] 86)).drew HRA.out E3.out hfit hnc hcm hn).mono ?_; rintro e w3 ⟨rfl, hr3, ho3⟩; obtain ⟨k0, k1, k2⟩ := HC.out w3 _ ho3))
      have HX : Hid (rowIn w3 g 5 n (fun j => .int .u8 (syncTo d S F (k + 1) j)) ∧ Within g (g + 1) w1 w3) :=
        ⟨by rw [HT.out]; exact hr3, ((HW.out.trans (Within.ofBelow (below_alloc _ _).drew)).trans (Within.ofBelow (below_alloc _ _))).trans (Within.ofOnly ho3 (fun x e => by injection e with e; subst e; exact ⟨Nat.le_refl _, Nat.lt_succ_self _⟩))⟩
      clear hr3 ho3 k0 k1 k2 HC e1 e2 c0 c1 c2 c3 cf E3 HRA
      go_wp2
      go_roundw
      case rel => exact ⟨k + 1, by omega, by go_num, HX.out⟩
      case measure => simp [intOf]; omega
    · have e : k = m := by omega
      subst e
      have HB : Hid (Below B w wr) := HB1.out.trans ((HW.out.below (by omega)).mono hgB)
      go_wp2
      go_end0
      exact ⟨rfl, DR.out.setCache _, HRW.out.setOther (by simpa using hgb) _, HB.out.setCell (by simpa using hBb) _⟩
end Go.Proofs.Ytfbhlegkpmcfoaa
