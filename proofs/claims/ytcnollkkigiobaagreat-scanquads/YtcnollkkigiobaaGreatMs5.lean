import Derived.Test.YtcnollkkigiobaaGreatMkTx
import Derived.Test.YtcnollkkigiobaaGreatTnT2
import Derived.Test.YtcnollkkigiobaaGreatTnSs
import Derived.Test.YtcnollkkigiobaaGreatTiP
import Derived.Deep.RegionHeld3
import Derived.Test.YtcnollkkigiobaaGreatMs4
import Derived.Test.YtcnollkkigiobaaGreatXqV
namespace Go.Proofs.YtcnollkkigiobaaGreat
open Go.RowKit Go.Deep
set_option linter.unusedVariables false
set_option maxRecDepth 100000

set_option maxHeartbeats 400000 in
theorem markTextI (x : Int) (k : Nat) (h : x = (k : Int)) (w : World) (hk : 1 ≤ k) (hk2 : k ≤ 1073741824) :
    Calls Tryz.prog 136 #[.int .i64 x] w fun e w' => e = .returned (.string (mkT k)) ∧ Below w.heap.size w w' := by
  subst h
  exact markText_any k w hk hk2

/-- A slice whose cells the call may write. -/
def OwnV (w : World) (t : TypeId) (a : Option Addr) (n : Nat) (f : Nat → Value) : Prop := n = 0 ∨ ∃ g, a = some ⟨g, 0, none⟩ ∧ rowIn w g t n f

set_option maxHeartbeats 2000000 in
theorem markStrs_any (a : Option Addr) (n c k : Nat) (X : Nat → ByteArray) (w : World) (h : OwnV w 9 a n (fun i => .string (X i))) (hk : 1 ≤ k) (hk2 : k + n ≤ 1073741824) :
    Calls Tryz.prog 112 #[.slice a n c, .int .i64 (k : Int)] w fun e w' => e = .returned (.int .i64 ((k + n : Nat) : Int)) ∧ w.grownBy w' (a.map (·.block)) ∧ (n = 0 → w' = w) ∧ OwnV w' 9 a n (fun i => .string (mkT (k + i))) := by
  by_cases hn0 : n = 0
  · subst hn0
    go_enter Tryz.func112, Tryz.ntmps112
    go_wp2
    go_loopw [1, 5] (fun q i wr => q = .int .i64 (k : Int) ∧ i = .int .i64 0 ∧ wr = w) (fun _ i _ => 1 - (intOf i).toNat)
    case atStart => exact ⟨rfl, rfl, rfl⟩
    case round =>
      obtain ⟨rfl, rfl, rfl⟩ := hrel
      go_wp2
      go_ret
      exact ⟨by simp, grown_refl _ _, fun _ => rfl, .inl rfl⟩
  · obtain ⟨g, rfl, hrow⟩ := h.resolve_left hn0
    have HR : Hid (rowIn w g 9 n (fun i => .string (X i))) := hrow
    clear hrow h
    have HN0 : Hid (¬ n = 0) := hn0
    clear hn0
    go_enter Tryz.func112, Tryz.ntmps112
    go_wp2
    go_loopw [1, 5] (fun q i wr => ∃ j p : Nat, j ≤ n ∧ i = .int .i64 j ∧ q = .int .i64 p ∧ p = k + j ∧ w.grownBy wr (some g) ∧ rowIn wr g 9 n (fun i => .string (if i < j then mkT (k + i) else X i))) (fun _ i _ => n - (intOf i).toNat)
    case atStart => exact ⟨0, k, Nat.zero_le _, rfl, rfl, rfl, grown_refl _ _, HR.out.congr (fun i _ => by simp)⟩
    case round =>
      obtain ⟨j, p, hj, rfl, rfl, hp, hgr, hrow⟩ := hrel
      have HS : Hid (p = k + j ∧ w.grownBy wr (some g) ∧ rowIn wr g 9 n (fun i => .string (if i < j then mkT (k + i) else X i))) := ⟨hp, hgr, hrow⟩
      by_cases hlt : j < n
      · have hpb : 1 ≤ p ∧ p ≤ 1073741824 := by omega
        have i0 : (0 : Int) ≤ (j : Int) := by omega
        have i1 : (j : Int) < (n : Int) := by omega
        clear hp hgr hrow HR
        go_wp2_with fail
        refine (markTextI _ p rfl wr hpb.1 hpb.2).mono ?_
        rintro e w1 ⟨rfl, hb1⟩
        have hrow1 := HS.out.2.2.of_block (hb1.block g HS.out.2.2.lt)
        have c1 := hrow1.cell hlt
        have f1 := hrow1.frozen j
        have l1 := hrow1.lt
        have HX : Hid (w.grownBy (w1.setCell ⟨g, j, none⟩ (.string (mkT p))) (some g) ∧ rowIn (w1.setCell ⟨g, j, none⟩ (.string (mkT p))) g 9 n (fun i => .string (if i < j + 1 then mkT (k + i) else X i))) := by
          refine ⟨grown_trans (grown_trans HS.out.2.1 (grown_below hb1)) (grown_set _ _ _ _), (hrow1.set j _).congr (fun i hi => ?_)⟩
          by_cases e : i = j
          · subst e; simp [HS.out.1]
          · by_cases e2 : i < j
            · have : i < j + 1 := by omega
              simp [e, e2, this]
            · have : ¬ i < j + 1 := by omega
              simp [e, e2, this]
        have HP : Hid (p + 1 = k + (j + 1)) := by
          show p + 1 = k + (j + 1)
          have := HS.out.1
          omega
        clear hrow1 hb1 HS
        go_wp2
        go_roundw
        case rel => exact ⟨j + 1, p + 1, by omega, by go_num, by go_num, HP.out, HX.out⟩
        case measure => simp [intOf]; omega
      · have e : j = n := by omega
        subst e
        clear hp hgr hrow
        go_wp2
        go_ret
        exact ⟨by rw [HS.out.1]; rfl, HS.out.2.1, fun h => absurd h HN0.out, .inr ⟨g, rfl, HS.out.2.2.congr (fun i hi => by simp [hi])⟩⟩

set_option maxHeartbeats 2000000 in
theorem markInts_any (a : Option Addr) (n c k : Nat) (X : Nat → Int) (w : World) (h : OwnV w 2 a n (fun i => .int .i64 (X i))) (hk : 1 ≤ k) (hk2 : k + n ≤ 1073741824) :
    Calls Tryz.prog 113 #[.slice a n c, .int .i64 (k : Int)] w fun e w' => e = .returned (.int .i64 ((k + n : Nat) : Int)) ∧ w.grownBy w' (a.map (·.block)) ∧ (n = 0 → w' = w) ∧ ∃ X' : Nat → Int, OwnV w' 2 a n (fun i => .int .i64 (X' i)) := by
  by_cases hn0 : n = 0
  · subst hn0
    go_enter Tryz.func113, Tryz.ntmps113
    go_wp2
    go_loopw [1, 5] (fun q i wr => q = .int .i64 (k : Int) ∧ i = .int .i64 0 ∧ wr = w) (fun _ i _ => 1 - (intOf i).toNat)
    case atStart => exact ⟨rfl, rfl, rfl⟩
    case round =>
      obtain ⟨rfl, rfl, rfl⟩ := hrel
      go_wp2
      go_ret
      exact ⟨by simp, grown_refl _ _, fun _ => rfl, X, .inl rfl⟩
  · obtain ⟨g, rfl, hrow⟩ := h.resolve_left hn0
    have HR : Hid (rowIn w g 2 n (fun i => .int .i64 (X i))) := hrow
    clear hrow h
    have HN0 : Hid (¬ n = 0) := hn0
    clear hn0
    go_enter Tryz.func113, Tryz.ntmps113
    go_wp2
    go_loopw [1, 5] (fun q i wr => ∃ (j p : Nat) (Y : Nat → Int), j ≤ n ∧ i = .int .i64 j ∧ q = .int .i64 p ∧ p = k + j ∧ w.grownBy wr (some g) ∧ rowIn wr g 2 n (fun i => .int .i64 (Y i))) (fun _ i _ => n - (intOf i).toNat)
    case atStart => exact ⟨0, k, X, Nat.zero_le _, rfl, rfl, rfl, grown_refl _ _, HR.out⟩
    case round =>
      obtain ⟨j, p, Y, hj, rfl, rfl, hp, hgr, hrow⟩ := hrel
      have HS : Hid (p = k + j ∧ w.grownBy wr (some g) ∧ rowIn wr g 2 n (fun i => .int .i64 (Y i))) := ⟨hp, hgr, hrow⟩
      by_cases hlt : j < n
      · have hpb : 1 ≤ p ∧ p ≤ 1073741824 := by omega
        have i0 : (0 : Int) ≤ (j : Int) := by omega
        have i1 : (j : Int) < (n : Int) := by omega
        have c1 := hrow.cell hlt
        have f1 := hrow.frozen j
        have l1 := hrow.lt
        have HX : Hid (w.grownBy (wr.setCell ⟨g, j, none⟩ (.int .i64 (p : Int))) (some g) ∧ rowIn (wr.setCell ⟨g, j, none⟩ (.int .i64 (p : Int))) g 2 n (fun i => .int .i64 (if i = j then (p : Int) else Y i))) := by
          refine ⟨grown_trans HS.out.2.1 (grown_set _ _ _ _), (hrow.set j _).congr (fun i hi => ?_)⟩
          by_cases e : i = j
          · subst e; simp
          · simp [e]
        have HP : Hid (p + 1 = k + (j + 1)) := by
          show p + 1 = k + (j + 1)
          have := HS.out.1
          omega
        clear hp hgr hrow HR HS
        go_wp2
        go_roundw
        case rel => exact ⟨j + 1, p + 1, _, by omega, by go_num, by go_num, HP.out, HX.out⟩
        case measure => simp [intOf]; omega
      · have e : j = n := by omega
        subst e
        clear hp hgr hrow
        go_wp2
        go_ret
        exact ⟨by rw [HS.out.1]; rfl, HS.out.2.1, fun h => absurd h HN0.out, Y, .inr ⟨g, rfl, HS.out.2.2⟩⟩

set_option maxHeartbeats 2000000 in
theorem heldStrs_any (a : Option Addr) (n c k : Nat) (w : World) (h : RdS w a n (fun i => mkT (k + i))) (hk : 1 ≤ k) (hk2 : k + n ≤ 1073741824) :
    Calls Tryz.prog 138 #[.slice a n c, .int .i64 (k : Int)] w fun e w' => e = .returned (.int .i64 ((k + n : Nat) : Int)) ∧ Below w.heap.size w w' := by
  have HR : Hid (RdS w a n (fun i => mkT (k + i))) := h
  clear h
  go_enter Tryz.func138, Tryz.ntmps138
  go_wp2
  go_loopw [1, 5] (fun q i wr => ∃ j p : Nat, j ≤ n ∧ i = .int .i64 j ∧ q = .int .i64 p ∧ p = k + j ∧ Below w.heap.size w wr) (fun _ i _ => n - (intOf i).toNat)
  case atStart => exact ⟨0, k, Nat.zero_le _, rfl, rfl, rfl, Below.refl _ _⟩
  case round =>
    obtain ⟨j, p, hj, rfl, rfl, hp, hbel⟩ := hrel
    have HS : Hid (p = k + j ∧ Below w.heap.size w wr) := ⟨hp, hbel⟩
    have hpb : 1 ≤ p ∧ p ≤ 1073741824 := by omega
    by_cases hlt : j < n
    · rcases HR.out.below hbel with q | ⟨b, o, rfl, hc⟩
      · omega
      have s1 : wr.cell? ⟨b, o + j, none⟩ = some (.string (mkT p)) := by rw [hp]; exact hc j hlt
      have i0 : (0 : Int) ≤ (j : Int) := by omega
      have i1 : (j : Int) < (n : Int) := by omega
      have hbl : b < wr.heap.size := World.block_lt_of_cell? _ _ s1
      have HM : Hid (∀ W : World, Calls Tryz.prog 136 #[.int .i64 (p : Int)] W fun e w' => e = .returned (.string (mkT p)) ∧ Below W.heap.size W w') := fun W => markTextI _ p rfl W hpb.1 hpb.2
      have HC : Hid (∀ w1 : World, Below wr.drew.heap.size wr.drew w1 → w1.cell? ⟨b, o + j, none⟩ = some (.string (mkT p))) := fun w1 hb1 => by
        rw [hb1.cell (p := ⟨b, o + j, none⟩) hbl]
        exact s1
      obtain ⟨T, hT⟩ : ∃ T, mkT p = T := ⟨_, rfl⟩
      rw [hT] at s1 HM HC
      clear hc hp hbel hT
      have hq : (T.toList == T.toList) = true := by simp
      go_wp2
      go_region_held3 (fun w' => w'.cell? ⟨b, o + j, none⟩ = some (.string T)) (go_keep) (first | (go_at_call 136; refine (HM.out _).mono ?_; rintro e w1 ⟨rfl, hb1⟩; have k1 := HC.out w1 hb1) | fail)
      have HB : Hid (Below w.heap.size w w1) := HS.out.2.trans ((show Below wr.heap.size wr w1 from (Below.refl _ _).drew.trans hb1).mono HS.out.2.size)
      have HP : Hid (p + 1 = k + (j + 1)) := by
        show p + 1 = k + (j + 1)
        have := HS.out.1
        omega
      clear hb1 k1 HS
      go_wp2
      go_roundw
      case rel => exact ⟨j + 1, p + 1, by omega, by go_num, by go_num, HP.out, HB.out⟩
      case measure => simp [intOf]; omega
    · have e : j = n := by omega
      subst e
      clear hp hbel
      go_wp2
      go_ret
      exact ⟨by rw [HS.out.1]; rfl, HS.out.2⟩
end Go.Proofs.YtcnollkkigiobaaGreat

namespace Go.Proofs.YtcnollkkigiobaaGreat
open Go.RowKit Go.Deep
set_option linter.unusedVariables false
set_option maxRecDepth 100000

/-- Of what was there, only blocks from B on and below T have turned. -/
def WiT (B T : Nat) (w w' : World) : Prop := w'.os = w.os ∧ w'.tape = w.tape ∧ w'.output = w.output ∧ w.heap.size ≤ w'.heap.size ∧ ∀ k, k < w.heap.size → (k < B ∨ T ≤ k) → w'.heap[k]? = w.heap[k]?

theorem WiT.refl (B T : Nat) (w : World) : WiT B T w w := ⟨rfl, rfl, rfl, Nat.le_refl _, fun _ _ _ => rfl⟩
theorem WiT.trans {B T : Nat} {a b c : World} (h : WiT B T a b) (k : WiT B T b c) : WiT B T a c :=
  ⟨k.1.trans h.1, k.2.1.trans h.2.1, k.2.2.1.trans h.2.2.1, Nat.le_trans h.2.2.2.1 k.2.2.2.1, fun i hi ho => (k.2.2.2.2 i (Nat.lt_of_lt_of_le hi h.2.2.2.1) ho).trans (h.2.2.2.2 i hi ho)⟩
theorem WiT.grown {B T : Nat} {w w' : World} {r : Option Nat} (h : w.grownBy w' r) (hr : ∀ b, r = some b → B ≤ b ∧ b < T) : WiT B T w w' :=
  ⟨h.os, h.tape, h.output, h.size, fun k hk ho => h.block k hk (fun e => by have := hr k e.symm; omega)⟩
theorem WiT.below {B T : Nat} {w w' : World} (h : WiT B T w w') (hB : B ≤ w.heap.size) : Below B w w' := ⟨h.1, h.2.1, h.2.2.1, h.2.2.2.1, fun k hk => h.2.2.2.2 k (by omega) (.inl hk)⟩

/-- A row of nodes of the call's own, as many keys and children at each as N tells, whatever they are. -/
def MTn (w : World) (B g n : Nat) (N : Nat → Tn) (KA DA : Nat → Option Addr) (KC DC : Nat → Nat) : Prop :=
  ∃ N', OwnTn w B g n N' KA DA KC DC ∧ ∀ i, (N' i).kn = (N i).kn ∧ (N' i).dn = (N i).dn

section
variable {w w' : World} {B g n : Nat} {N : Nat → Tn} {KA DA : Nat → Option Addr} {KC DC : Nat → Nat}

theorem MTn.cells (h : MTn w B g n N KA DA KC DC) {k : Nat} (hk : k < n) : (∃ b, w.cell? ⟨g, k * 4, none⟩ = some (.bool b)) ∧ w.cell? ⟨g, k * 4 + 1, none⟩ = some (.slice (KA k) (N k).kn (KC k)) ∧ w.cell? ⟨g, k * 4 + 2, none⟩ = some (.slice (DA k) (N k).dn (DC k)) ∧ (∃ x, w.cell? ⟨g, k * 4 + 3, none⟩ = some (.int .i64 x)) ∧ w.frozen? ⟨g, k * 4, none⟩ = false ∧ w.frozen? ⟨g, k * 4 + 3, none⟩ = false ∧ g < w.heap.size := by
  obtain ⟨N', h, e⟩ := h
  refine ⟨⟨(N' k).lf, ?_⟩, ?_, ?_, ⟨(N' k).ct, ?_⟩, h.row.frozen _, h.row.frozen _, h.row.lt⟩
  · rw [h.row.cell (i := k * 4) (by omega), tnCell_0]
  · rw [h.row.cell (i := k * 4 + 1) (by omega), tnCell_1, (e k).1]
  · rw [h.row.cell (i := k * 4 + 2) (by omega), tnCell_2, (e k).2]
  · rw [h.row.cell (i := k * 4 + 3) (by omega), tnCell_3]

theorem MTn.keysV (h : MTn w B g n N KA DA KC DC) {k : Nat} (hk : k < n) : ∃ X : Nat → ByteArray, OwnV w 9 (KA k) (N k).kn (fun i => .string (X i)) := by
  obtain ⟨N', h, e⟩ := h
  have q := h.keys k hk
  rw [(e k).1] at q
  rcases q with q | ⟨b, e1, _, e2⟩
  · exact ⟨(N' k).ks, .inl q⟩
  · exact ⟨(N' k).ks, .inr ⟨b, e1, e2⟩⟩
theorem MTn.kidsV (h : MTn w B g n N KA DA KC DC) {k : Nat} (hk : k < n) : ∃ X : Nat → Int, OwnV w 2 (DA k) (N k).dn (fun i => .int .i64 (X i)) := by
  obtain ⟨N', h, e⟩ := h
  have q := h.kids k hk
  rw [(e k).2] at q
  rcases q with q | ⟨b, e1, _, e2⟩
  · exact ⟨(N' k).kd, .inl q⟩
  · exact ⟨(N' k).kd, .inr ⟨b, e1, e2⟩⟩

theorem MTn.of (h : MTn w B g n N KA DA KC DC) (N1 : Nat → Tn) (hrow : rowIn w' g 168 (n * 4) (tnCell N1 KA DA KC DC)) (he : ∀ i, (N1 i).kn = (N i).kn ∧ (N1 i).dn = (N i).dn) (hk : ∀ i, i < n → OwnS w' B (KA i) (N1 i).kn (N1 i).ks) (hd : ∀ i, i < n → OwnI w' B (DA i) (N1 i).dn (N1 i).kd) : MTn w' B g n N KA DA KC DC := by
  obtain ⟨N', h, e⟩ := h
  refine ⟨N1, ⟨h.le, hrow, hk, hd, fun i j hi hj hij h1 h2 => h.apartK i j hi hj hij ?_ ?_, fun i j hi hj hij h1 h2 => h.apartD i j hi hj hij ?_ ?_⟩, he⟩
  · rw [(e i).1, ← (he i).1]; exact h1
  · rw [(e j).1, ← (he j).1]; exact h2
  · rw [(e i).2, ← (he i).2]; exact h1
  · rw [(e j).2, ← (he j).2]; exact h2

theorem MTn.flag (h : MTn w B g n N KA DA KC DC) (k : Nat) (v : Bool) : MTn (w.setCell ⟨g, k * 4, none⟩ (.bool v)) B g n N KA DA KC DC := by
  obtain ⟨N', h1, e⟩ := h
  refine MTn.of ⟨N', h1, e⟩ (fun i => if i = k then { N' k with lf := v } else N' i) ((h1.row.set (k * 4) _).congr (fun c hc => ?_)) (fun i => ?_) (fun i hi => ?_) (fun i hi => ?_)
  · by_cases e1 : c = k * 4
    · subst e1; rw [if_pos rfl, tnCell_0]; simp
    · rw [if_neg e1]
      unfold tnCell
      by_cases e2 : c / 4 = k
      · have e3 : ¬ c % 4 = 0 := by omega
        simp [e2, e3]
      · simp [e2]
  · by_cases e1 : i = k
    · subst e1; simpa using e i
    · simpa [e1] using e i
  · have q : OwnS w B (KA i) ((fun i => if i = k then { N' k with lf := v } else N' i) i).kn ((fun i => if i = k then { N' k with lf := v } else N' i) i).ks := by
      by_cases e1 : i = k
      · subst e1; simpa using h1.keys i hi
      · simpa [e1] using h1.keys i hi
    rcases q with q | ⟨b, q1, q2, q3⟩
    · exact .inl q
    · exact .inr ⟨b, q1, q2, q3.of_block (Below.heap_setCell _ _ _ _ (q3.ne h1.row (by decide)))⟩
  · have q : OwnI w B (DA i) ((fun i => if i = k then { N' k with lf := v } else N' i) i).dn ((fun i => if i = k then { N' k with lf := v } else N' i) i).kd := by
      by_cases e1 : i = k
      · subst e1; simpa using h1.kids i hi
      · simpa [e1] using h1.kids i hi
    rcases q with q | ⟨b, q1, q2, q3⟩
    · exact .inl q
    · exact .inr ⟨b, q1, q2, q3.of_block (Below.heap_setCell _ _ _ _ (q3.ne h1.row (by decide)))⟩

theorem MTn.count (h : MTn w B g n N KA DA KC DC) (k : Nat) (v : Int) : MTn (w.setCell ⟨g, k * 4 + 3, none⟩ (.int .i64 v)) B g n N KA DA KC DC := by
  obtain ⟨N', h1, e⟩ := h
  refine MTn.of ⟨N', h1, e⟩ (fun i => if i = k then { N' k with ct := v } else N' i) ((h1.row.set (k * 4 + 3) _).congr (fun c hc => ?_)) (fun i => ?_) (fun i hi => ?_) (fun i hi => ?_)
  · by_cases e1 : c = k * 4 + 3
    · subst e1; rw [if_pos rfl, tnCell_3]; simp
    · rw [if_neg e1]
      unfold tnCell
      by_cases e2 : c / 4 = k
      · have e3 : c % 4 = 0 ∨ c % 4 = 1 ∨ c % 4 = 2 := by omega
        rcases e3 with e3 | e3 | e3 <;> simp [e2, e3]
      · simp [e2]
  · by_cases e1 : i = k
    · subst e1; simpa using e i
    · simpa [e1] using e i
  · have q : OwnS w B (KA i) ((fun i => if i = k then { N' k with ct := v } else N' i) i).kn ((fun i => if i = k then { N' k with ct := v } else N' i) i).ks := by
      by_cases e1 : i = k
      · subst e1; simpa using h1.keys i hi
      · simpa [e1] using h1.keys i hi
    rcases q with q | ⟨b, q1, q2, q3⟩
    · exact .inl q
    · exact .inr ⟨b, q1, q2, q3.of_block (Below.heap_setCell _ _ _ _ (q3.ne h1.row (by decide)))⟩
  · have q : OwnI w B (DA i) ((fun i => if i = k then { N' k with ct := v } else N' i) i).dn ((fun i => if i = k then { N' k with ct := v } else N' i) i).kd := by
      by_cases e1 : i = k
      · subst e1; simpa using h1.kids i hi
      · simpa [e1] using h1.kids i hi
    rcases q with q | ⟨b, q1, q2, q3⟩
    · exact .inl q
    · exact .inr ⟨b, q1, q2, q3.of_block (Below.heap_setCell _ _ _ _ (q3.ne h1.row (by decide)))⟩

theorem MTn.setKeys (h : MTn w B g n N KA DA KC DC) {k : Nat} (hk : k < n) (X : Nat → ByteArray) (hg : w.grownBy w' ((KA k).map (·.block))) (hz : (N k).kn = 0 → w' = w) (ho : OwnV w' 9 (KA k) (N k).kn (fun i => .string (X i))) : MTn w' B g n N KA DA KC DC := by
  by_cases hl : (N k).kn = 0
  · rw [hz hl]; exact h
  obtain ⟨N', h1, e⟩ := h
  have hl' : (N' k).kn ≠ 0 := by rw [(e k).1]; exact hl
  obtain ⟨gk, hA, hgB, hrk⟩ := (h1.keys k hk).resolve_left hl'
  rw [hA] at hg
  have hblk : ∀ i, i < w.heap.size → i ≠ gk → w'.heap[i]? = w.heap[i]? := fun i hi hne => hg.block i hi (fun q => by injection q with q; exact hne q)
  refine MTn.of ⟨N', h1, e⟩ (fun i => if i = k then { N' k with ks := X } else N' i) ((h1.row.of_block (hblk g h1.row.lt (fun q => (hrk.ne h1.row (by decide)) q.symm))).congr (fun c hc => ?_)) (fun i => ?_) (fun i hi => ?_) (fun i hi => ?_)
  · unfold tnCell
    by_cases e2 : c / 4 = k
    · simp [e2]
    · simp [e2]
  · by_cases e1 : i = k
    · subst e1; simpa using e i
    · simpa [e1] using e i
  · by_cases e1 : i = k
    · subst e1
      obtain ⟨g2, hA2, hr2⟩ := ho.resolve_left hl
      rw [hA] at hA2
      injection hA2 with hA2
      injection hA2 with hA2
      subst hA2
      simp only [if_true]
      rw [← (e i).1] at hr2
      exact .inr ⟨gk, hA, hgB, hr2⟩
    · simp only [if_neg e1]
      by_cases h0 : (N' i).kn = 0
      · exact .inl h0
      · obtain ⟨gi, hAi, hgi, hri⟩ := (h1.keys i hi).resolve_left h0
        refine .inr ⟨gi, hAi, hgi, hri.of_block (hblk gi hri.lt (fun q => ?_))⟩
        subst q
        exact h1.apartK i k hi hk e1 h0 hl' (by rw [hA, hAi])
  · have q : OwnI w B (DA i) ((fun i => if i = k then { N' k with ks := X } else N' i) i).dn ((fun i => if i = k then { N' k with ks := X } else N' i) i).kd := by
      by_cases e1 : i = k
      · subst e1; simpa using h1.kids i hi
      · simpa [e1] using h1.kids i hi
    rcases q with q | ⟨b, q1, q2, q3⟩
    · exact .inl q
    · exact .inr ⟨b, q1, q2, q3.of_block (hblk b q3.lt (q3.ne hrk (by decide)))⟩

theorem MTn.setKids (h : MTn w B g n N KA DA KC DC) {k : Nat} (hk : k < n) (X : Nat → Int) (hg : w.grownBy w' ((DA k).map (·.block))) (hz : (N k).dn = 0 → w' = w) (ho : OwnV w' 2 (DA k) (N k).dn (fun i => .int .i64 (X i))) : MTn w' B g n N KA DA KC DC := by
  by_cases hl : (N k).dn = 0
  · rw [hz hl]; exact h
  obtain ⟨N', h1, e⟩ := h
  have hl' : (N' k).dn ≠ 0 := by rw [(e k).2]; exact hl
  obtain ⟨gk, hA, hgB, hrk⟩ := (h1.kids k hk).resolve_left hl'
  rw [hA] at hg
  have hblk : ∀ i, i < w.heap.size → i ≠ gk → w'.heap[i]? = w.heap[i]? := fun i hi hne => hg.block i hi (fun q => by injection q with q; exact hne q)
  refine MTn.of ⟨N', h1, e⟩ (fun i => if i = k then { N' k with kd := X } else N' i) ((h1.row.of_block (hblk g h1.row.lt (fun q => (hrk.ne h1.row (by decide)) q.symm))).congr (fun c hc => ?_)) (fun i => ?_) (fun i hi => ?_) (fun i hi => ?_)
  · unfold tnCell
    by_cases e2 : c / 4 = k
    · simp [e2]
    · simp [e2]
  · by_cases e1 : i = k
    · subst e1; simpa using e i
    · simpa [e1] using e i
  · have q : OwnS w B (KA i) ((fun i => if i = k then { N' k with kd := X } else N' i) i).kn ((fun i => if i = k then { N' k with kd := X } else N' i) i).ks := by
      by_cases e1 : i = k
      · subst e1; simpa using h1.keys i hi
      · simpa [e1] using h1.keys i hi
    rcases q with q | ⟨b, q1, q2, q3⟩
    · exact .inl q
    · exact .inr ⟨b, q1, q2, q3.of_block (hblk b q3.lt (q3.ne hrk (by decide)))⟩
  · by_cases e1 : i = k
    · subst e1
      obtain ⟨g2, hA2, hr2⟩ := ho.resolve_left hl
      rw [hA] at hA2
      injection hA2 with hA2
      injection hA2 with hA2
      subst hA2
      simp only [if_true]
      rw [← (e i).2] at hr2
      exact .inr ⟨gk, hA, hgB, hr2⟩
    · simp only [if_neg e1]
      by_cases h0 : (N' i).dn = 0
      · exact .inl h0
      · obtain ⟨gi, hAi, hgi, hri⟩ := (h1.kids i hi).resolve_left h0
        refine .inr ⟨gi, hAi, hgi, hri.of_block (hblk gi hri.lt (fun q => ?_))⟩
        subst q
        exact h1.apartD i k hi hk e1 h0 hl' (by rw [hA, hAi])

/-- Where it lies: all of it below T. -/
def TnB (T g n : Nat) (N : Nat → Tn) (KA DA : Nat → Option Addr) (B : Nat) : Prop :=
  B ≤ g ∧ g < T ∧ (∀ i, i < n → (N i).kn ≠ 0 → ∀ b, (KA i).map (·.block) = some b → B ≤ b ∧ b < T) ∧ (∀ i, i < n → (N i).dn ≠ 0 → ∀ b, (DA i).map (·.block) = some b → B ≤ b ∧ b < T)

theorem OwnTn.bound (h : OwnTn w B g n N KA DA KC DC) : TnB w.heap.size g n N KA DA B := by
  refine ⟨h.le, h.row.lt, fun i hi h0 b hb => ?_, fun i hi h0 b hb => ?_⟩
  · obtain ⟨gi, hA, hgi, hri⟩ := (h.keys i hi).resolve_left h0
    rw [hA] at hb
    injection hb with hb
    subst hb
    exact ⟨hgi, hri.lt⟩
  · obtain ⟨gi, hA, hgi, hri⟩ := (h.kids i hi).resolve_left h0
    rw [hA] at hb
    injection hb with hb
    subst hb
    exact ⟨hgi, hri.lt⟩
end

theorem sumT_le (N : Nat → Tn) : ∀ (m j : Nat), j ≤ m → sumT N j ≤ sumT N m
  | 0, j, h => by have : j = 0 := by omega
                  subst this; exact Nat.le_refl _
  | m + 1, j, h => by
    by_cases e : j = m + 1
    · subst e; exact Nat.le_refl _
    · have := sumT_le N m j (by omega)
      have e2 : sumT N (m + 1) = sumT N m + (N m).kn + (N m).dn := rfl
      omega

theorem markStrsI (x : Int) (a : Option Addr) (n c k : Nat) (hx : x = (k : Int)) (X : Nat → ByteArray) (w : World) (h : OwnV w 9 a n (fun i => .string (X i))) (hk : 1 ≤ k) (hk2 : k + n ≤ 1073741824) :
    Calls Tryz.prog 112 #[.slice a n c, .int .i64 x] w fun e w' => e = .returned (.int .i64 ((k + n : Nat) : Int)) ∧ w.grownBy w' (a.map (·.block)) ∧ (n = 0 → w' = w) ∧ OwnV w' 9 a n (fun i => .string (mkT (k + i))) := by
  subst hx; exact markStrs_any a n c k X w h hk hk2
theorem markIntsI (x : Int) (a : Option Addr) (n c k : Nat) (hx : x = (k : Int)) (X : Nat → Int) (w : World) (h : OwnV w 2 a n (fun i => .int .i64 (X i))) (hk : 1 ≤ k) (hk2 : k + n ≤ 1073741824) :
    Calls Tryz.prog 113 #[.slice a n c, .int .i64 x] w fun e w' => e = .returned (.int .i64 ((k + n : Nat) : Int)) ∧ w.grownBy w' (a.map (·.block)) ∧ (n = 0 → w' = w) ∧ ∃ X' : Nat → Int, OwnV w' 2 a n (fun i => .int .i64 (X' i)) := by
  subst hx; exact markInts_any a n c k X w h hk hk2

set_option maxHeartbeats 4000000 in
theorem markTNodeS_any (B T g n c k : Nat) (N : Nat → Tn) (KA DA : Nat → Option Addr) (KC DC : Nat → Nat) (w : World) (h : MTn w B g n N KA DA KC DC) (hT : TnB T g n N KA DA B) (hk : 1 ≤ k) (hk2 : k + 2 * n + sumT N n ≤ 1073741824) :
    Calls Tryz.prog 75 #[.slice (some ⟨g, 0, none⟩) n c, .int .i64 (k : Int)] w fun e w' => ∃ p : Nat, e = .returned (.int .i64 (p : Int)) ∧ WiT B T w w' ∧ p = k + 2 * n + sumT N n := by
  have HR : Hid (MTn w B g n N KA DA KC DC) := h
  have HT : Hid (TnB T g n N KA DA B) := hT
  clear h hT
  go_enter Tryz.func75, Tryz.ntmps75
  go_wp2
  go_loopw [1, 5] (fun q i wr => ∃ j p : Nat, j ≤ n ∧ i = .int .i64 j ∧ q = .int .i64 p ∧ p = k + 2 * j + sumT N j ∧ MTn wr B g n N KA DA KC DC ∧ WiT B T w wr) (fun _ i _ => n - (intOf i).toNat)
  case atStart => exact ⟨0, k, Nat.zero_le _, rfl, rfl, rfl, HR.out, WiT.refl _ _ _⟩
  case round =>
    obtain ⟨j, p, hj, rfl, rfl, hp, hm, hw⟩ := hrel
    by_cases hlt : j < n
    · have hsum : sumT N (j + 1) = sumT N j + (N j).kn + (N j).dn := rfl
      have hsl := sumT_le N n (j + 1) (by omega)
      have hp1 : 1 ≤ p := by omega
      have hjb : j < 1073741824 := by omega
      obtain ⟨kn, hkn⟩ : ∃ x, x = (N j).kn := ⟨_, rfl⟩
      obtain ⟨dn, hdn⟩ : ∃ x, x = (N j).dn := ⟨_, rfl⟩
      have hp2 : p + 2 + kn + dn ≤ 1073741824 := by omega
      have HP : Hid (p + 2 + kn + dn = k + 2 * (j + 1) + sumT N (j + 1)) := by
        show p + 2 + kn + dn = k + 2 * (j + 1) + sumT N (j + 1)
        omega
      have HM : Hid (MTn wr B g n N KA DA KC DC ∧ WiT B T w wr) := ⟨hm, hw⟩
      have HK : Hid (kn = (N j).kn ∧ dn = (N j).dn) := ⟨hkn, hdn⟩
      obtain ⟨⟨b0, c0⟩, c1, c2, ⟨x3, c3⟩, f0, f3, lg⟩ := hm.cells hlt
      rw [← hkn] at c1
      rw [← hdn] at c2
      have i0 : (0 : Int) ≤ (j : Int) := by omega
      have i1 : (j : Int) < (n : Int) := by omega
      have HW1 : Hid (∀ v, MTn (wr.setCell ⟨g, j * 4, none⟩ (.bool v)) B g n N KA DA KC DC ∧ WiT B T w (wr.setCell ⟨g, j * 4, none⟩ (.bool v))) := fun v => ⟨HM.out.1.flag j v, HM.out.2.trans (WiT.grown (grown_set _ _ _ _) (fun b e => by injection e with e; subst e; exact ⟨HT.out.1, HT.out.2.1⟩))⟩
      clear hsum hsl hp hm hw hkn hdn hk2
      go_wp2_with fail
      obtain ⟨X1, hX1⟩ := (HW1.out _).1.keysV hlt
      refine (markStrsI _ (KA j) kn (KC j) (p + 1) (by go_num) X1 _ (by rw [HK.out.1]; exact hX1) (by omega) (by omega)).mono ?_
      rintro e w1 ⟨rfl, hg1, hz1, ho1⟩
      have hK0 := HK.out
      have HW2 : Hid (MTn w1 B g n N KA DA KC DC ∧ WiT B T w w1) := by
        have q1 := (HW1.out _).1.setKeys hlt _ hg1 (fun e => hz1 (by rw [hK0.1]; exact e)) (by rw [← hK0.1]; exact ho1)
        refine ⟨q1, (HW1.out ((p : Int) % 3 == 0)).2.trans ?_⟩
        by_cases h0 : kn = 0
        · rw [hz1 h0]; exact WiT.refl _ _ _
        · exact WiT.grown hg1 (HT.out.2.2.1 j hlt (by rw [← hK0.1]; exact h0))
      clear hg1 hz1 ho1 hX1 X1 HW1 c0 c1 c2 c3 f0 f3 lg hK0
      obtain ⟨⟨b0', c0⟩, c1, c2, ⟨x3', c3⟩, f0, f3, lg⟩ := HW2.out.1.cells hlt
      rw [← HK.out.1] at c1
      rw [← HK.out.2] at c2
      go_wp2_with fail
      obtain ⟨X2, hX2⟩ := HW2.out.1.kidsV hlt
      refine (markIntsI _ (DA j) dn (DC j) (p + 1 + kn) (by go_num) X2 _ (by rw [HK.out.2]; exact hX2) (by omega) (by omega)).mono ?_
      rintro e w2 ⟨rfl, hg2, hz2, X3, ho2⟩
      have hK0 := HK.out
      have HW3 : Hid (MTn w2 B g n N KA DA KC DC ∧ WiT B T w w2) := by
        have q1 := HW2.out.1.setKids hlt X3 hg2 (fun e => hz2 (by rw [hK0.2]; exact e)) (by rw [← hK0.2]; exact ho2)
        refine ⟨q1, HW2.out.2.trans ?_⟩
        by_cases h0 : dn = 0
        · rw [hz2 h0]; exact WiT.refl _ _ _
        · exact WiT.grown hg2 (HT.out.2.2.2 j hlt (by rw [← hK0.2]; exact h0))
      clear hg2 hz2 ho2 hX2 X2 X3 HW2 c0 c1 c2 c3 f0 f3 lg hK0
      obtain ⟨⟨b0'', c0⟩, c1, c2, ⟨x3'', c3⟩, f0, f3, lg⟩ := HW3.out.1.cells hlt
      have HW4 : Hid (∀ v, MTn (w2.setCell ⟨g, j * 4 + 3, none⟩ (.int .i64 v)) B g n N KA DA KC DC ∧ WiT B T w (w2.setCell ⟨g, j * 4 + 3, none⟩ (.int .i64 v))) := fun v => ⟨HW3.out.1.count j v, HW3.out.2.trans (WiT.grown (grown_set _ _ _ _) (fun b e => by injection e with e; subst e; exact ⟨HT.out.1, HT.out.2.1⟩))⟩
      clear HW3 c0 c1 c2
      go_wp2
      go_roundw
      case rel => exact ⟨j + 1, p + 2 + kn + dn, by omega, by go_num, by go_num, HP.out, HW4.out _⟩
      case measure => simp [intOf]; omega
    · have e : j = n := by omega
      subst e
      have HM : Hid (WiT B T w wr ∧ p = k + 2 * j + sumT N j) := ⟨hw, hp⟩
      clear hm hw hp
      go_wp2
      go_ret
      exact ⟨p, rfl, HM.out⟩

end Go.Proofs.YtcnollkkigiobaaGreat


namespace Go.Proofs.YtcnollkkigiobaaGreat
open Go.RowKit Go.Deep
set_option linter.unusedVariables false
set_option maxRecDepth 100000

theorem OwnTn.low {w : World} {B B' g n : Nat} {N : Nat → Tn} {KA DA : Nat → Option Addr} {KC DC : Nat → Nat} (q : OwnTn w B g n N KA DA KC DC) (h : B' ≤ B) : OwnTn w B' g n N KA DA KC DC := by
  have hle := q.le
  exact ⟨by omega, q.row, fun j hj => (q.keys j hj).mono h, fun j hj => (q.kids j hj).mono h, q.apartK, q.apartD⟩
/-- Kept where its own blocks are. -/
theorem OwnTn.wit {w w' : World} {B T g n : Nat} {N : Nat → Tn} {KA DA : Nat → Option Addr} {KC DC : Nat → Nat} (q : OwnTn w B g n N KA DA KC DC) (hT : TnB T g n N KA DA B) (hk : ∀ b, B ≤ b → b < T → b < w.heap.size → w'.heap[b]? = w.heap[b]?) : OwnTn w' B g n N KA DA KC DC := by
  refine ⟨q.le, q.row.of_block (hk g hT.1 hT.2.1 q.row.lt), fun i hi => ?_, fun i hi => ?_, q.apartK, q.apartD⟩
  · by_cases h0 : (N i).kn = 0
    · exact .inl h0
    · obtain ⟨gi, hA, hgi, hri⟩ := (q.keys i hi).resolve_left h0
      have := hT.2.2.1 i hi h0 gi (by rw [hA]; rfl)
      exact .inr ⟨gi, hA, hgi, hri.of_block (hk gi this.1 this.2 hri.lt)⟩
  · by_cases h0 : (N i).dn = 0
    · exact .inl h0
    · obtain ⟨gi, hA, hgi, hri⟩ := (q.kids i hi).resolve_left h0
      have := hT.2.2.2 i hi h0 gi (by rw [hA]; rfl)
      exact .inr ⟨gi, hA, hgi, hri.of_block (hk gi this.1 this.2 hri.lt)⟩
/-- A row of trees of the call's own, each in blocks of its own; those from j on and below k are there. -/
def OwnIr (w : World) (B g n j k : Nat) (M : Nat → Nat) (T : Nat → Nat → Tn) (R : Nat → Nat) : Prop :=
  g < B ∧ B ≤ R 0 ∧ R k ≤ w.heap.size ∧ (∀ i i', i ≤ i' → i' ≤ k → R i ≤ R i') ∧ ∃ cur : Array Value, Bx w g 59 cur ∧ cur.size = n ∧ ∀ i, j ≤ i → i < k → ∃ gi KA DA KC DC, cur[i]? = some (.slice (some ⟨gi, 0, none⟩) (M i) (M i)) ∧ OwnTn w (R i) gi (M i) (T i) KA DA KC DC ∧ TnB (R (i + 1)) gi (M i) (T i) KA DA (R i)
theorem OwnIr.rd {w : World} {B g n : Nat} {M : Nat → Nat} {T : Nat → Nat → Tn} {R : Nat → Nat} (h : OwnIr w B g n 0 n M T R) : RdIx w (some ⟨g, 0, none⟩) n M T := by
  obtain ⟨_, _, _, _, cur, h1, h2, h3⟩ := h
  refine .inr ⟨g, 0, rfl, fun i hi => ?_⟩
  obtain ⟨gi, KA, DA, KC, DC, q1, q2, _⟩ := h3 i (Nat.zero_le _) hi
  exact ⟨some ⟨gi, 0, none⟩, M i, by rw [Nat.zero_add, h1.cell i]; exact q1, q2.rd⟩
theorem OwnIr.put {w w1 : World} {B g n k : Nat} {M : Nat → Nat} {T : Nat → Nat → Tn} {R : Nat → Nat} (h : OwnIr w B g n 0 k M T R) (hk : k < n) (hb : Below w.heap.size w w1) {gk : Nat} {KA DA : Nat → Option Addr} {KC DC : Nat → Nat} (ho : OwnTn w1 w.heap.size gk (M k) (T k) KA DA KC DC) : ∃ R', OwnIr (w1.setCell ⟨g, k, none⟩ (.slice (some ⟨gk, 0, none⟩) (M k) (M k))) B g n 0 (k + 1) M T R' := by
  obtain ⟨hg, hB, hR, hm, cur, h1, h2, h3⟩ := h
  have h1' : Bx w1 g 59 cur := h1.below hb
  have hs := h1'.set k (.slice (some ⟨gk, 0, none⟩) (M k) (M k))
  have hz := hb.size
  have hR0 := hm 0 k (Nat.zero_le _) (Nat.le_refl _)
  have hbd : ∀ i', i' ≤ k → R i' ≤ w1.heap.size := fun i' hi => by
    have := hm i' k hi (Nat.le_refl _)
    omega
  obtain ⟨R', hR'⟩ : ∃ R' : Nat → Nat, ∀ i, R' i = if i ≤ k then R i else w1.heap.size := ⟨_, fun _ => rfl⟩
  refine ⟨R', hg, by rw [hR', if_pos (Nat.zero_le _)]; exact hB, by rw [hR', if_neg (by omega), World.size_setCell]; exact Nat.le_refl _, fun i i' hi hi' => ?_, _, hs, by simpa using h2, fun i _ hi => ?_⟩
  · rw [hR', hR']
    by_cases e : i' ≤ k
    · rw [if_pos (by omega), if_pos e]
      exact hm i i' hi e
    · rw [if_neg e]
      by_cases e2 : i ≤ k
      · rw [if_pos e2]; exact hbd i e2
      · rw [if_neg e2]; exact Nat.le_refl _
  · by_cases e : i = k
    · subst e
      have q := (ho.setO (p := ⟨g, i, none⟩) (by show g < w.heap.size; omega) (.slice (some ⟨gk, 0, none⟩) (M i) (M i))).low hR
      have qb := q.bound
      rw [World.size_setCell] at qb
      refine ⟨gk, KA, DA, KC, DC, by simp [h2, hk], ?_, ?_⟩
      · rw [hR', if_pos (Nat.le_refl _)]; exact q
      · rw [hR', hR', if_neg (by omega), if_pos (Nat.le_refl _)]; exact qb
    · obtain ⟨gi, KA', DA', KC', DC', q1, q2, q3⟩ := h3 i (Nat.zero_le _) (by omega)
      have h0i := hm 0 i (Nat.zero_le _) (by omega)
      refine ⟨gi, KA', DA', KC', DC', ?_, ?_, ?_⟩
      · rw [Array.getElem?_setIfInBounds_ne (by omega)]
        exact q1
      · rw [hR', if_pos (by omega)]
        exact (q2.und hb).setO (p := ⟨g, k, none⟩) (by show g < R i; omega) _
      · rw [hR', hR', if_pos (by omega), if_pos (by omega)]
        exact q3
theorem OwnIr.setO {w : World} {B g n : Nat} {M : Nat → Nat} {T : Nat → Nat → Tn} {R : Nat → Nat} (h : OwnIr w B g n 0 n M T R) {p : Addr} (hp : p.block < g) (v : Value) : OwnIr (w.setCell p v) B g n 0 n M T R := by
  obtain ⟨hg, hB, hR, hm, cur, h1, h2, h3⟩ := h
  refine ⟨hg, hB, by rw [World.size_setCell]; exact hR, hm, cur, (Below.heap_setCell _ _ _ _ (show g ≠ p.block by omega)).trans h1, h2, fun i h0 hi => ?_⟩
  obtain ⟨gi, KA', DA', KC', DC', q1, q2, q3⟩ := h3 i h0 hi
  have h0i := hm 0 i (Nat.zero_le _) (by omega)
  exact ⟨gi, KA', DA', KC', DC', q1, q2.setO (by omega) _, q3⟩
theorem OwnIr.below {w w' : World} {B g n : Nat} {M : Nat → Nat} {T : Nat → Nat → Tn} {R : Nat → Nat} (h : OwnIr w B g n 0 n M T R) (hb : Below w.heap.size w w') : OwnIr w' B g n 0 n M T R := by
  obtain ⟨hg, hB, hR, hm, cur, h1, h2, h3⟩ := h
  refine ⟨hg, hB, Nat.le_trans hR hb.size, hm, cur, h1.below hb, h2, fun i h0 hi => ?_⟩
  obtain ⟨gi, KA', DA', KC', DC', q1, q2, q3⟩ := h3 i h0 hi
  exact ⟨gi, KA', DA', KC', DC', q1, q2.und hb, q3⟩
/-- When the first has been marked the others are as they were. -/
theorem OwnIr.next {w w' : World} {B g n j : Nat} {M : Nat → Nat} {T : Nat → Nat → Tn} {R : Nat → Nat} (h : OwnIr w B g n j n M T R) (hj : j < n) (hw : WiT (R j) (R (j + 1)) w w') : OwnIr w' B g n (j + 1) n M T R := by
  obtain ⟨hg, hB, hR, hm, cur, h1, h2, h3⟩ := h
  have h0j := hm 0 j (Nat.zero_le _) (by omega)
  refine ⟨hg, hB, Nat.le_trans hR hw.2.2.2.1, hm, cur, (hw.2.2.2.2 g h1.lt (.inl (by omega))).trans h1, h2, fun i h0 hi => ?_⟩
  obtain ⟨gi, KA', DA', KC', DC', q1, q2, q3⟩ := h3 i (by omega) hi
  have hji := hm (j + 1) i h0 (by omega)
  exact ⟨gi, KA', DA', KC', DC', q1, q2.wit q3 (fun b b1 b2 b3 => hw.2.2.2.2 b b3 (.inr (by omega))), q3⟩

set_option maxHeartbeats 2000000 in
theorem toTreeR_any (a : Option Addr) (m c : Nat) (M : Nat → Nat) (T : Nat → Nat → Tn) (w : World) (h : RdIx w a m M T) (hm : m ≤ 1048576) (hN : IxFit m M T) :
    Calls Tryz.prog 35 #[.slice a m c] w fun e w' => e = .returned (.slice (some ⟨w.heap.size, 0, none⟩) m m) ∧ (∃ R, OwnIr w' (w.heap.size + 1) w.heap.size m 0 m M T R) ∧ Below w.heap.size w w' := by
  have hmk : ∀ w : World, (Instr.makeSlice 30 (.int .i64 (m : Int)) (.int .i64 (m : Int))).run Tryz.prog w = .ok (.slice (some ⟨w.heap.size, 0, none⟩) m m) (w.alloc (.cells (madeCells #[.slice none 0 0] m) 59)) := by
    intro w
    obtain ⟨i0, hi, hz0, hz1, hz2⟩ := info_parts Tryz.info59
    have := run_make (P := Tryz.prog) w 30 59 i0 _ Tryz.underlying30 hi hz0 .i64 .i64 m m (by omega) (by omega) (by rw [hz2]; omega) (by omega)
    rw [hz1, show (Value.agg #[.slice none 0 0]).cells = #[.slice none 0 0] from rfl, Nat.mul_one] at this
    simpa using this
  have H0 : Hid (∃ R, OwnIr (w.alloc (.cells (madeCells #[.slice none 0 0] m) 59)) (w.heap.size + 1) w.heap.size m 0 0 M T R) := ⟨fun _ => w.heap.size + 1, by omega, Nat.le_refl _, by simp, fun _ _ _ _ => Nat.le_refl _, _, Bx.new w _ 59, by simp [madeCells], fun i _ hi => absurd hi (Nat.not_lt_zero _)⟩
  have HR : Hid (RdIx w a m M T ∧ IxFit m M T) := ⟨h, hN⟩
  clear h hN
  go_enter Tryz.func35, Tryz.ntmps35
  go_wp2
  go_loopw [4] (fun i wr => ∃ (k : Nat), k ≤ m ∧ i = .int .i64 k ∧ (∃ R, OwnIr wr (w.heap.size + 1) w.heap.size m 0 k M T R) ∧ Below w.heap.size w wr) (fun i _ => m - (intOf i).toNat)
  case atStart => exact ⟨0, Nat.zero_le _, rfl, H0.out, below_alloc _ _⟩
  case round =>
    obtain ⟨k, hk, rfl, hown, hbel⟩ := hrel
    clear H0
    by_cases hlt : k < m
    · have hne : ¬ m = 0 := by omega
      have h' := HR.out.1.below hbel
      have HB : Hid (Below w.heap.size w wr) := hbel
      have HO : Hid (∃ R, OwnIr wr (w.heap.size + 1) w.heap.size m 0 k M T R) := hown
      have hsz := hbel.size
      rcases h' with h' | ⟨b, o, rfl, hc⟩
      · exact absurd h' hne
      obtain ⟨ai, ci, c0, c4⟩ := hc k hlt
      have HL := HR.out.2 k hlt
      have HK : Hid (RdTn wr ai (M k) (T k)) := c4
      clear hc hbel hown hmk c4
      go_wp2_with fail
      refine (toTree_any ai (M k) ci (T k) _ HK.out HL.1 HL.2).mono ?_
      rintro e w1 ⟨gk, KA, DA, KC, DC, rfl, hgk, ho1, hb1⟩
      obtain ⟨R, _, _, _, _, cur, q1, q2, _⟩ := HO.out
      have q3 : Bx w1 w.heap.size 59 cur := q1.below hb1
      obtain ⟨u0, hu0⟩ : ∃ u0, cur[k]? = some u0 := ⟨_, Array.getElem?_eq_getElem (by omega)⟩
      have hc1 : w1.cell? ⟨w.heap.size, k, none⟩ = some u0 := by rw [q3.cell k]; exact hu0
      have hf1 := q3.frozen k
      have hl1 := q3.lt
      have HX : Hid ((∃ R, OwnIr (w1.setCell ⟨w.heap.size, k, none⟩ (.slice (some ⟨gk, 0, none⟩) (M k) (M k))) (w.heap.size + 1) w.heap.size m 0 (k + 1) M T R) ∧ Below w.heap.size w (w1.setCell ⟨w.heap.size, k, none⟩ (.slice (some ⟨gk, 0, none⟩) (M k) (M k)))) := by
        obtain ⟨R, hO⟩ := HO.out
        exact ⟨hO.put hlt hb1 ho1, (HB.out.trans (hb1.mono hsz)).setCell (Nat.le_refl _) _⟩
      clear ho1 hb1 HO HB c0 q1 q2 q3 hu0
      go_wp2
      go_roundw
      case rel => exact ⟨k + 1, by omega, by go_num, HX.out⟩
      case measure => simp [intOf]; omega
    · have e : k = m := by omega
      subst e
      have HO : Hid (∃ R, OwnIr wr (w.heap.size + 1) w.heap.size k 0 k M T R) := hown
      clear hown
      go_wp2
      go_ret
      exact ⟨rfl, HO.out, hbel⟩

set_option maxHeartbeats 400000 in
theorem toIndexR_any (a : Option Addr) (m c : Nat) (M : Nat → Nat) (T : Nat → Nat → Tn) (w : World) (h : RdIx w a m M T) (hm : m ≤ 1048576) (hN : IxFit m M T) :
    Calls Tryz.prog 9 #[.agg #[.slice a m c]] w fun e w' => ∃ g R, e = .returned (.agg #[.slice (some ⟨g, 0, none⟩) m m]) ∧ w.heap.size ≤ g ∧ OwnIr w' (g + 1) g m 0 m M T R ∧ Below w.heap.size w w' := by
  have HH : Hid ((∀ o1 o2 o3, Below w.heap.size w (((w.alloc o1).alloc o2).alloc o3)) ∧ (∀ o1 o2 o3, (((w.alloc o1).alloc o2).alloc o3).heap.size = w.heap.size + 3) ∧ RdIx w a m M T ∧ IxFit m M T) := ⟨fun o1 o2 o3 => (((below_alloc _ _).alloc (by simp) _).alloc (by simp; omega) _), fun o1 o2 o3 => by simp, h, hN⟩
  clear h hN
  go_enter Tryz.func9, Tryz.ntmps9
  go_wp2_with fail
  refine (toTreeR_any a m c M T _ (HH.out.2.2.1.below (HH.out.1 _ _ _)) hm HH.out.2.2.2).mono ?_
  rintro e w1 ⟨rfl, ⟨R, ho1⟩, hb1⟩
  rw [HH.out.2.1] at ho1 hb1 ⊢
  have hz : w.heap.size + 2 < w1.heap.size := by have := hb1.size; rw [HH.out.2.1] at this; omega
  have hc : ∀ b o, b < w.heap.size + 3 → w1.cell? ⟨b, o, none⟩ = _ := fun b o hb => hb1.cell (p := ⟨b, o, none⟩) hb
  have hfz : ∀ b o, b < w.heap.size + 3 → w1.frozen? ⟨b, o, none⟩ = _ := fun b o hb => hb1.frozen (p := ⟨b, o, none⟩) hb
  have HE : Hid (OwnIr w1 (w.heap.size + 3 + 1) (w.heap.size + 3) m 0 m M T R ∧ Below w.heap.size w w1) := ⟨ho1, (HH.out.1 _ _ _).trans (hb1.mono (by omega))⟩
  clear ho1 hb1
  go_wp2
  refine bodyPost_ret (v := .agg #[.slice (some ⟨w.heap.size + 3, 0, none⟩) m m]) (by simp [results, Tryz.results9, go_sem, hc]) rfl ⟨_, R, rfl, by omega, ?_, ?_⟩
  · exact (HE.out.1.setO (p := ⟨w.heap.size + 2, 0, none⟩) (by simp) _).setO (p := ⟨w.heap.size + 1, 0, none⟩) (by simp) _
  · exact (HE.out.2.setCell (by simp; try omega) _).setCell (by simp; try omega) _

theorem sumI_le (M : Nat → Nat) (T : Nat → Nat → Tn) : ∀ (m j : Nat), j ≤ m → sumI M T j ≤ sumI M T m
  | 0, j, h => by have : j = 0 := by omega
                  subst this; exact Nat.le_refl _
  | m + 1, j, h => by
    by_cases e : j = m + 1
    · subst e; exact Nat.le_refl _
    · have := sumI_le M T m j (by omega)
      have e2 : sumI M T (m + 1) = sumI M T m + M m + sumT (T m) (M m) := rfl
      omega
theorem WiT.wide {B T B' T' : Nat} {w w' : World} (h : WiT B T w w') (h1 : B' ≤ B) (h2 : T ≤ T') : WiT B' T' w w' := ⟨h.1, h.2.1, h.2.2.1, h.2.2.2.1, fun k hk ho => h.2.2.2.2 k hk (by omega)⟩

set_option maxHeartbeats 2000000 in
theorem markTreeS_any (B g n c : Nat) (M : Nat → Nat) (T : Nat → Nat → Tn) (R : Nat → Nat) (w : World) (h : OwnIr w B g n 0 n M T R) (hs : n + sumI M T n ≤ 1048576) :
    Calls Tryz.prog 40 #[.slice (some ⟨g, 0, none⟩) n c, .int .i64 1] w fun e w' => ∃ p : Nat, e = .returned (.int .i64 (p : Int)) ∧ WiT (R 0) (R n) w w' := by
  have HR : Hid (OwnIr w B g n 0 n M T R) := h
  clear h
  go_enter Tryz.func40, Tryz.ntmps40
  go_wp2
  go_loopw [1, 5] (fun q i wr => ∃ j p : Nat, j ≤ n ∧ i = .int .i64 j ∧ q = .int .i64 p ∧ 1 ≤ p ∧ p ≤ 1 + 2 * sumI M T j ∧ OwnIr wr B g n j n M T R ∧ WiT (R 0) (R n) w wr) (fun _ i _ => n - (intOf i).toNat)
  case atStart => exact ⟨0, 1, Nat.zero_le _, rfl, rfl, Nat.le_refl _, by omega, HR.out, WiT.refl _ _ _⟩
  case round =>
    obtain ⟨j, p, hj, rfl, rfl, hp0, hp1, ho, hw⟩ := hrel
    clear HR
    have HW : Hid (WiT (R 0) (R n) w wr) := hw
    clear hw
    by_cases hlt : j < n
    · have hsum : sumI M T (j + 1) = sumI M T j + M j + sumT (T j) (M j) := rfl
      have hsl := sumI_le M T n (j + 1) (by omega)
      have HO : Hid (OwnIr wr B g n j n M T R) := ho
      obtain ⟨hg, hB, hRn, hm, cur, h1, h2, h3⟩ := ho
      obtain ⟨gi, KA, DA, KC, DC, q1, q2, q3⟩ := h3 j (Nat.le_refl _) hlt
      have HM : Hid (MTn wr (R j) gi (M j) (T j) KA DA KC DC ∧ TnB (R (j + 1)) gi (M j) (T j) KA DA (R j)) := ⟨⟨T j, q2, fun _ => ⟨rfl, rfl⟩⟩, q3⟩
      have HWd : Hid (R 0 ≤ R j ∧ R (j + 1) ≤ R n) := ⟨hm 0 j (Nat.zero_le _) (by omega), hm (j + 1) n hlt (Nat.le_refl _)⟩
      have c1 := h1.cell j
      rw [q1] at c1
      have i0 : (0 : Int) ≤ (j : Int) := by omega
      have i1 : (j : Int) < (n : Int) := by omega
      have hjb : j < 1073741824 := by omega
      obtain ⟨Mj, hMj⟩ : ∃ x, x = M j := ⟨_, rfl⟩
      obtain ⟨Sj, hSj⟩ : ∃ x, x = sumT (T j) (M j) := ⟨_, rfl⟩
      have HC : Hid (Calls Tryz.prog 75 #[.slice (some ⟨gi, 0, none⟩) Mj Mj, .int .i64 (p : Int)] wr fun e w' => ∃ p' : Nat, e = .returned (.int .i64 (p' : Int)) ∧ WiT (R j) (R (j + 1)) wr w' ∧ p' = p + 2 * Mj + Sj) := by
        rw [hMj, hSj]
        exact markTNodeS_any (R j) (R (j + 1)) gi (M j) (M j) p (T j) KA DA KC DC wr HM.out.1 HM.out.2 hp0 (by omega)
      rw [← hMj] at c1
      have HP : Hid (p + 2 * Mj + Sj ≤ 1 + 2 * sumI M T (j + 1)) := by
        show _ ≤ _
        omega
      clear hg hB hRn hm h1 h2 h3 q1 q2 q3 HM hsum hsl hMj hSj
      go_wp2_with fail
      (with_reducible refine HC.out.mono ?_)
      rintro e w1 ⟨p', rfl, hw1, hp'⟩
      have HX : Hid (OwnIr w1 B g n (j + 1) n M T R ∧ WiT (R 0) (R n) w w1) := ⟨HO.out.next hlt hw1, HW.out.trans (hw1.wide HWd.out.1 HWd.out.2)⟩
      have HP' : Hid (1 ≤ p' ∧ p' ≤ 1 + 2 * sumI M T (j + 1)) := ⟨by omega, by rw [hp']; exact HP.out⟩
      clear hw1 HC HO HW c1 hp' HP
      go_wp2
      go_roundw
      case rel => exact ⟨j + 1, p', by omega, by go_num, rfl, HP'.out.1, HP'.out.2, HX.out⟩
      case measure => simp [intOf]; omega
    · have e : j = n := by omega
      subst e
      clear ho
      go_wp2
      go_ret
      exact ⟨p, rfl, HW.out⟩

set_option maxHeartbeats 1000000 in
theorem markIndex_any (B g n c : Nat) (M : Nat → Nat) (T : Nat → Nat → Tn) (R : Nat → Nat) (w : World) (h : OwnIr w B g n 0 n M T R) (hs : n + sumI M T n ≤ 1048576) :
    Calls Tryz.prog 14 #[.agg #[.slice (some ⟨g, 0, none⟩) n c], .int .i64 1] w fun e w' => ∃ p : Nat, e = .returned (.int .i64 (p : Int)) ∧ WiT (R 0) (R n) w w' := by
  have HR : Hid (∀ O : Obj, OwnIr (w.alloc O) B g n 0 n M T R ∧ WiT (R 0) (R n) w (w.alloc O)) := fun O => ⟨h.below (below_alloc _ _), WiT.grown (grown_below (r := none) (below_alloc _ _)) (fun b e => by cases e)⟩
  clear h
  go_enter Tryz.func14, Tryz.ntmps14
  go_wp2_with fail
  (with_reducible refine (markTreeS_any B g n c M T R _ (HR.out _).1 hs).mono ?_)
  rintro e w1 ⟨p, rfl, hw⟩
  have HW : Hid (WiT (R 0) (R n) w w1) := (HR.out _).2.trans hw
  clear hw
  go_wp2
  go_ret
  exact ⟨p, rfl, HW.out⟩
end Go.Proofs.YtcnollkkigiobaaGreat

namespace Go.Proofs.YtcnollkkigiobaaGreat
open Go.RowKit Go.Deep
set_option linter.unusedVariables false
set_option maxRecDepth 100000

/-- A row of quads of the call's own, cell by cell. -/
def OwQ (w : World) (B : Nat) (a : Option Addr) (n : Nat) (X : Nat → Int) : Prop := n = 0 ∨ ∃ g, a = some ⟨g, 0, none⟩ ∧ B ≤ g ∧ rowIn w g 34 (n * 4) (fun i => .int .i64 (X i))
/-- The cells of a list of quads. -/
def qcF (L : List Qd) (i : Nat) : Int := match L[i / 4]? with
  | some q => if i % 4 = 0 then q.s else if i % 4 = 1 then q.p else if i % 4 = 2 then q.o else q.g
  | none => 0
theorem qcF_get (L : List Qd) (i : Nat) (h : i < L.length) : qcF L (i * 4) = L[i].s ∧ qcF L (i * 4 + 1) = L[i].p ∧ qcF L (i * 4 + 2) = L[i].o ∧ qcF L (i * 4 + 3) = L[i].g := by
  have e0 : i * 4 / 4 = i ∧ i * 4 % 4 = 0 := by omega
  have e1 : (i * 4 + 1) / 4 = i ∧ (i * 4 + 1) % 4 = 1 := by omega
  have e2 : (i * 4 + 2) / 4 = i ∧ (i * 4 + 2) % 4 = 2 := by omega
  have e3 : (i * 4 + 3) / 4 = i ∧ (i * 4 + 3) % 4 = 3 := by omega
  unfold qcF
  rw [e0.1, e0.2, e1.1, e1.2, e2.1, e2.2, e3.1, e3.2, List.getElem?_eq_getElem h]
  exact ⟨rfl, rfl, rfl, rfl⟩
theorem quadL_cell (L : List Qd) (i : Nat) (h : i < L.length * 4) : (quadL L)[i]? = some (.int .i64 (qcF L i)) := by
  have hl : i / 4 < L.length := by omega
  obtain ⟨q0, q1, q2, q3⟩ := quadL_get L (i / 4) hl
  obtain ⟨f0, f1, f2, f3⟩ := qcF_get L (i / 4) hl
  rcases (show i = i / 4 * 4 ∨ i = i / 4 * 4 + 1 ∨ i = i / 4 * 4 + 2 ∨ i = i / 4 * 4 + 3 by omega) with e | e | e | e
  · rw [e, f0]; exact q0
  · rw [e, f1]; exact q1
  · rw [e, f2]; exact q2
  · rw [e, f3]; exact q3
theorem own_owq {w : World} {B : Nat} {a : Option Addr} {c : Nat} {L : List Qd} (h : w.ownsRow B 34 4 (.slice a L.length c) L.length (quadL L)) : OwQ w B a L.length (qcF L) := by
  rcases h.2 with ⟨h1, h2⟩ | ⟨g, cap, cur, h1, hb, hh, q1, q2, q3, q4⟩
  · injection h1 with _ h1
    exact .inl h1
  · injection h1 with h1
    subst h1
    refine .inr ⟨g, rfl, hb, cur, hh, ?_, fun i hi => ?_⟩
    · rw [q3]
      exact Nat.mul_le_mul_right 4 q1
    · have hlt : ∀ (m : Nat) (u : Value), (cur.toList.take m)[i]? = some u → cur[i]? = some u := fun m u h => by
        rw [List.getElem?_take] at h
        by_cases e : i < m
        · rw [if_pos e] at h; simpa using h
        · rw [if_neg e] at h; cases h
      have hl := quadL_cell L i hi
      rw [← q4] at hl
      exact hlt _ _ hl
theorem OwQ.below {w w' : World} {B n : Nat} {a : Option Addr} {X : Nat → Int} (h : OwQ w B a n X) (hb : Below w.heap.size w w') : OwQ w' B a n X := by
  rcases h with h | ⟨g, e, hg, hr⟩
  · exact .inl h
  · exact .inr ⟨g, e, hg, hr.of_block (hb.block g hr.lt)⟩
theorem OwQ.keep {w w' : World} {B n : Nat} {a : Option Addr} {X : Nat → Int} (h : OwQ w B a n X) (hk : ∀ b, B ≤ b → b < w.heap.size → w'.heap[b]? = w.heap[b]?) : OwQ w' B a n X := by
  rcases h with h | ⟨g, e, hg, hr⟩
  · exact .inl h
  · exact .inr ⟨g, e, hg, hr.of_block (hk g hg hr.lt)⟩
theorem OwQ.rd {w : World} {B : Nat} {a : Option Addr} {L : List Qd} (h : OwQ w B a L.length (qcF L)) : RdQ w a L := by
  rcases h with h | ⟨g, e, hg, hr⟩
  · exact .inl h
  · refine .inr ⟨g, e, fun i hi => ?_⟩
    obtain ⟨f0, f1, f2, f3⟩ := qcF_get L i hi
    refine ⟨?_, ?_, ?_, ?_⟩
    · rw [hr.cell (i := i * 4) (by omega), f0]
    · rw [hr.cell (i := i * 4 + 1) (by omega), f1]
    · rw [hr.cell (i := i * 4 + 2) (by omega), f2]
    · rw [hr.cell (i := i * 4 + 3) (by omega), f3]

set_option maxHeartbeats 1000000 in
theorem eqQuad_yes (q : Qd) (w : World) : Calls Tryz.prog 38 #[.agg #[.int .i64 q.s, .int .i64 q.p, .int .i64 q.o, .int .i64 q.g], .agg #[.int .i64 q.s, .int .i64 q.p, .int .i64 q.o, .int .i64 q.g]] w fun e w' => e = .returned (.bool true) ∧ Below w.heap.size w w' := by
  go_enter Tryz.func38, Tryz.ntmps38
  go_wp2
  go_ret
  exact ⟨rfl, (below_alloc _ _).alloc (by simp) _⟩

set_option maxHeartbeats 2000000 in
theorem eqQuadS_yes (a b : Option Addr) (m ca cb : Nat) (L : List Qd) (w : World) (ha : RdQ w a L) (hb : RdQ w b L) (hm : m = L.length) (hm2 : m ≤ 1048576) :
    Calls Tryz.prog 12 #[.slice a m ca, .slice b m cb] w fun e w' => e = .returned (.bool true) ∧ Below w.heap.size w w' := by
  have hll : ((m : Int) != (m : Int)) = false := by simp
  have HR : Hid (RdQ w a L ∧ RdQ w b L ∧ m = L.length) := ⟨ha, hb, hm⟩
  clear ha hb hm
  go_enter Tryz.func12, Tryz.ntmps12
  go_wp2
  go_loopw [5] (fun i wr => ∃ k : Nat, k ≤ m ∧ i = .int .i64 k ∧ Below w.heap.size w wr) (fun i _ => m - (intOf i).toNat)
  case atStart => exact ⟨0, Nat.zero_le _, rfl, Below.refl _ _⟩
  case round =>
    obtain ⟨k, hk, rfl, hbel⟩ := hrel
    by_cases hlt : k < m
    · have hkL : k < L.length := by rw [← HR.out.2.2]; exact hlt
      rcases HR.out.1.below hbel with h | ⟨ba, rfl, hca⟩
      · omega
      rcases HR.out.2.1.below hbel with h | ⟨bb, rfl, hcb⟩
      · omega
      obtain ⟨s0, s1, s2, s3⟩ := hca k hkL
      obtain ⟨t0, t1, t2, t3⟩ := hcb k hkL
      obtain ⟨x, hx⟩ : ∃ x, x = L[k] := ⟨_, rfl⟩
      rw [← hx] at s0 s1 s2 s3 t0 t1 t2 t3
      have HE : Hid (∀ W : World, Calls Tryz.prog 38 #[.agg #[.int .i64 x.s, .int .i64 x.p, .int .i64 x.o, .int .i64 x.g], .agg #[.int .i64 x.s, .int .i64 x.p, .int .i64 x.o, .int .i64 x.g]] W fun e w' => e = .returned (.bool true) ∧ Below W.heap.size W w') := fun W => eqQuad_yes x W
      have i0 : (0 : Int) ≤ (k : Int) := by omega
      have i1 : (k : Int) < (m : Int) := by omega
      have HB : Hid (Below w.heap.size w wr) := hbel
      clear hca hcb hx hbel hkL
      go_wp2
      go_region_with (go_at_call 38; (with_reducible refine (HE.out _).mono ?_); rintro e w2 ⟨rfl, hb2⟩)
      all_goals
        have HX : Hid (Below w.heap.size w w2) := (HB.out.drew).trans (hb2.mono HB.out.drew.size)
        clear hb2 s0 s1 s2 s3 t0 t1 t2 t3
        go_wp2
        go_roundw
        case rel => exact ⟨k + 1, by omega, by go_num, HX.out⟩
        case measure => simp [intOf]; omega
    · have e : k = m := by omega
      subst e
      go_wp2
      go_ret
      exact ⟨rfl, hbel⟩

set_option maxHeartbeats 2000000 in
theorem markQuadS_any (B : Nat) (a : Option Addr) (n c : Nat) (X : Nat → Int) (w : World) (h : OwQ w B a n X) (hn : n ≤ 1048576) :
    Calls Tryz.prog 15 #[.slice a n c, .int .i64 1] w fun e w' => e = .returned (.int .i64 ((1 + 4 * n : Nat) : Int)) ∧ OwQ w' B a n (fun i => ((1 + i : Nat) : Int)) ∧ Below B w w' := by
  by_cases hn0 : n = 0
  · subst hn0
    go_enter Tryz.func15, Tryz.ntmps15
    go_wp2
    go_loopw [1, 5] (fun q i wr => q = .int .i64 1 ∧ i = .int .i64 0 ∧ wr = w) (fun _ i _ => 1 - (intOf i).toNat)
    case atStart => exact ⟨rfl, rfl, rfl⟩
    case round =>
      obtain ⟨rfl, rfl, rfl⟩ := hrel
      go_wp2
      go_ret
      exact ⟨rfl, .inl rfl, Below.refl _ _⟩
  · obtain ⟨g, rfl, hgB, hrow⟩ := h.resolve_left hn0
    have HR : Hid (rowIn w g 34 (n * 4) (fun i => .int .i64 (X i)) ∧ B ≤ g) := ⟨hrow, hgB⟩
    clear hrow h hgB hn0
    go_enter Tryz.func15, Tryz.ntmps15
    go_wp2
    go_loopw [1, 5] (fun q i wr => ∃ (j p : Nat), j ≤ n ∧ i = .int .i64 j ∧ q = .int .i64 p ∧ p = 1 + 4 * j ∧ Below B w wr ∧ rowIn wr g 34 (n * 4) (fun i => .int .i64 (if i < j * 4 then ((1 + i : Nat) : Int) else X i))) (fun _ i _ => n - (intOf i).toNat)
    case atStart => exact ⟨0, 1, Nat.zero_le _, rfl, rfl, rfl, Below.refl _ _, HR.out.1.congr (fun i _ => by simp)⟩
    case round =>
      obtain ⟨j, p, hj, rfl, rfl, hp, hbel, hrow⟩ := hrel
      by_cases hlt : j < n
      · have i0 : (0 : Int) ≤ (j : Int) := by omega
        have i1 : (j : Int) < (n : Int) := by omega
        have hpb : p ≤ 1073741824 := by omega
        have c0 := hrow.cell (i := j * 4) (by omega)
        have c1 := hrow.cell (i := j * 4 + 1) (by omega)
        have c2 := hrow.cell (i := j * 4 + 2) (by omega)
        have c3 := hrow.cell (i := j * 4 + 3) (by omega)
        have f0 := hrow.frozen (j * 4)
        have f1 := hrow.frozen (j * 4 + 1)
        have f2 := hrow.frozen (j * 4 + 2)
        have f3 := hrow.frozen (j * 4 + 3)
        have l1 := hrow.lt
        have HX : Hid (∀ v0 v1 v2 v3 : Int, v0 = (p : Int) → v1 = (p : Int) + 1 → v2 = (p : Int) + 2 → v3 = (p : Int) + 3 → Below B w ((((wr.setCell ⟨g, j * 4, none⟩ (.int .i64 v0)).setCell ⟨g, j * 4 + 1, none⟩ (.int .i64 v1)).setCell ⟨g, j * 4 + 2, none⟩ (.int .i64 v2)).setCell ⟨g, j * 4 + 3, none⟩ (.int .i64 v3)) ∧ rowIn ((((wr.setCell ⟨g, j * 4, none⟩ (.int .i64 v0)).setCell ⟨g, j * 4 + 1, none⟩ (.int .i64 v1)).setCell ⟨g, j * 4 + 2, none⟩ (.int .i64 v2)).setCell ⟨g, j * 4 + 3, none⟩ (.int .i64 v3)) g 34 (n * 4) (fun i => .int .i64 (if i < (j + 1) * 4 then ((1 + i : Nat) : Int) else X i))) := by
          intro v0 v1 v2 v3 h0 h1 h2 h3
          have hg := HR.out.2
          refine ⟨(((hbel.setCell (by exact hg) _).setCell (by exact hg) _).setCell (by exact hg) _).setCell (by exact hg) _, ((((hrow.set (j * 4) (.int .i64 v0)).set (j * 4 + 1) (.int .i64 v1)).set (j * 4 + 2) (.int .i64 v2)).set (j * 4 + 3) (.int .i64 v3)).congr (fun i hi => ?_)⟩
          by_cases e3 : i = j * 4 + 3
          · subst e3
            have : j * 4 + 3 < (j + 1) * 4 := by omega
            simp only [if_true, if_pos this]
            congr 1
            omega
          by_cases e2 : i = j * 4 + 2
          · subst e2
            have : j * 4 + 2 < (j + 1) * 4 := by omega
            simp only [if_neg e3, if_true, if_pos this]
            congr 1
            omega
          by_cases e1 : i = j * 4 + 1
          · subst e1
            have : j * 4 + 1 < (j + 1) * 4 := by omega
            simp only [if_neg e3, if_neg e2, if_true, if_pos this]
            congr 1
            omega
          by_cases e0 : i = j * 4
          · subst e0
            have : j * 4 < (j + 1) * 4 := by omega
            simp only [if_neg e3, if_neg e2, if_neg e1, if_true, if_pos this]
            congr 1
            omega
          simp only [if_neg e3, if_neg e2, if_neg e1, if_neg e0]
          by_cases e : i < j * 4
          · rw [if_pos e, if_pos (by omega)]
          · rw [if_neg e, if_neg (by omega)]
        have HP : Hid (p + 4 = 1 + 4 * (j + 1)) := by
          show _ = _
          omega
        clear hrow hbel hp
        go_wp2
        go_roundw
        case rel => exact ⟨j + 1, p + 4, by omega, by go_num, by go_num, HP.out, HX.out _ _ _ _ rfl (by omega) (by omega) (by omega)⟩
        case measure => simp [intOf]; omega
      · have e : j = n := by omega
        subst e
        have HS : Hid (p = 1 + 4 * j ∧ Below B w wr ∧ rowIn wr g 34 (j * 4) (fun i => .int .i64 ((1 + i : Nat) : Int))) := ⟨hp, hbel, hrow.congr (fun i hi => by simp [hi])⟩
        clear hp hbel hrow
        go_wp2
        go_ret
        exact ⟨by rw [HS.out.1]; rfl, .inr ⟨g, rfl, HR.out.2, HS.out.2.2⟩, HS.out.2.1⟩

set_option maxHeartbeats 2000000 in
theorem heldQuadS_any (B : Nat) (a : Option Addr) (n c : Nat) (w : World) (h : OwQ w B a n (fun i => ((1 + i : Nat) : Int))) (hn : n ≤ 1048576) :
    Calls Tryz.prog 16 #[.slice a n c, .int .i64 1] w fun e w' => e = .returned (.int .i64 ((1 + 4 * n : Nat) : Int)) ∧ w' = w := by
  have HR : Hid (OwQ w B a n (fun i => ((1 + i : Nat) : Int))) := h
  clear h
  go_enter Tryz.func16, Tryz.ntmps16
  go_wp2
  go_loopw [1, 5] (fun q i wr => ∃ j p : Nat, j ≤ n ∧ i = .int .i64 j ∧ q = .int .i64 p ∧ p = 1 + 4 * j ∧ wr = w) (fun _ i _ => n - (intOf i).toNat)
  case atStart => exact ⟨0, 1, Nat.zero_le _, rfl, rfl, rfl, rfl⟩
  case round =>
    obtain ⟨j, p, hj, rfl, rfl, hp, rfl⟩ := hrel
    by_cases hlt : j < n
    · rcases HR.out with h | ⟨g, rfl, _, hrow⟩
      · omega
      have i0 : (0 : Int) ≤ (j : Int) := by omega
      have i1 : (j : Int) < (n : Int) := by omega
      have hpb : p ≤ 1073741824 := by omega
      have c0 := hrow.cell (i := j * 4) (by omega)
      have c1 := hrow.cell (i := j * 4 + 1) (by omega)
      have c2 := hrow.cell (i := j * 4 + 2) (by omega)
      have c3 := hrow.cell (i := j * 4 + 3) (by omega)
      have e0 : ((1 + j * 4 : Nat) : Int) = (p : Int) := by omega
      have e1 : ((1 + (j * 4 + 1) : Nat) : Int) = (p : Int) + 1 := by omega
      have e2 : ((1 + (j * 4 + 2) : Nat) : Int) = (p : Int) + 1 + 1 := by omega
      have e3 : ((1 + (j * 4 + 3) : Nat) : Int) = (p : Int) + 1 + 1 + 1 := by omega
      simp only [e0] at c0
      simp only [e1] at c1
      simp only [e2] at c2
      simp only [e3] at c3
      have HP : Hid (p + 4 = 1 + 4 * (j + 1)) := by
        show _ = _
        omega
      clear hrow hp e0 e1 e2 e3
      go_wp2
      go_roundw
      case rel => exact ⟨j + 1, p + 4, by omega, by go_num, by go_num, HP.out, trivial⟩
      case measure => simp [intOf]; omega
    · have e : j = n := by omega
      subst e
      have HS : Hid (p = 1 + 4 * j) := hp
      clear hp
      go_wp2
      go_ret
      exact ⟨by rw [HS.out]; rfl, rfl⟩
end Go.Proofs.YtcnollkkigiobaaGreat
