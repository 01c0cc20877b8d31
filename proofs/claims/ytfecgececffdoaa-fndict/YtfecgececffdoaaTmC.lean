import Derived.Test.YtfecgececffdoaaTmA
import Derived.Test.YtfecgececffdoaaVDefs
namespace Go.Proofs.Ytfecgececffdoaa
open Go.RowKit Go.Deep
set_option linter.unusedVariables false
set_option maxRecDepth 100000

/-- A dictionary handed back in new memory. -/
def RetDct (w : World) (next : Int) (n : Nat) (I : Nat → Int) (X : Nat → ByteArray) (R : Nat → Int) (e : Ending) (w' : World) : Prop :=
  ∃ a c, e = .returned (.agg #[.int .i64 next, .slice a n c]) ∧ OwnT w' w.heap.size a n I X R ∧ Below w.heap.size w w' ∧ n ≤ c

theorem ownT_of0 {w : World} {B : Nat} {v : Value} {n : Nat} {I : Nat → Int} {X : Nat → ByteArray} {R : Nat → Int} (h : w.ownsRow B 51 3 v (0 + n) ([] ++ termRow I X R n)) : ∃ a c, v = .slice a n c ∧ OwnT w B a n I X R ∧ n ≤ c := by
  rw [Nat.zero_add, List.nil_append] at h
  obtain ⟨a, c, h1, h2, h3⟩ := ownT_ofRow h
  exact ⟨a, c, h1, h2, h3⟩

/-- Two boxes of two cells that have been laid, later on. -/
theorem dbox2 {W w' : World} {u0 u1 v0 v1 : Value} {t s : TypeId} (hb : Below (W.heap.size + 2) ((W.alloc (.cells #[u0, u1] t)).alloc (.cells #[v0, v1] s)) w') :
    (w'.cell? ⟨W.heap.size, 0, none⟩ = some u0 ∧ w'.cell? ⟨W.heap.size, 1, none⟩ = some u1) ∧ (w'.cell? ⟨W.heap.size + 1, 0, none⟩ = some v0 ∧ w'.cell? ⟨W.heap.size + 1, 1, none⟩ = some v1 ∧ ∀ o, w'.frozen? ⟨W.heap.size + 1, o, none⟩ = false) ∧ W.heap.size + 1 < w'.heap.size ∧ Below W.heap.size W w' := by
  have hs := hb.size
  simp only [World.size_alloc] at hs
  have g0 : w'.heap[W.heap.size]? = some (.cells #[u0, u1] t) := (hb.block W.heap.size (by omega)).trans (((below_alloc _ _).block _ (by simp)).trans (blk_alloc_new W _))
  have g1 : w'.heap[W.heap.size + 1]? = some (.cells #[v0, v1] s) := by
    have := blk_alloc_new (W.alloc (.cells #[u0, u1] t)) (.cells #[v0, v1] s)
    rw [World.size_alloc] at this
    exact (hb.block _ (by omega)).trans this
  refine ⟨⟨by simp [World.cell?, g0], by simp [World.cell?, g0]⟩, ⟨by simp [World.cell?, g1], by simp [World.cell?, g1], fun o => by simp [World.frozen?, g1]⟩, by omega, ?_⟩
  exact ((below_alloc _ _).trans ((below_alloc _ _).mono (by simp))).trans (hb.mono (by omega))

set_option maxHeartbeats 1000000 in
theorem copyDict_any (next : Int) (a : Option Addr) (n c : Nat) (I : Nat → Int) (X : Nat → ByteArray) (R : Nat → Int) (w : World) (h : RdT w a n I X R) (hn : n ≤ 1048576) :
    Calls Try.prog 31 #[.agg #[.int .i64 next, .slice a n c]] w (RetDct w next n I X R) := by
  have HW : Hid (∀ o o', RdT ((w.alloc o).alloc o').drew a n I X R) := fun o o' => h.below ((below_alloc _ _).trans ((below_alloc _ _).mono (by simp))).drew
  clear h
  have HC : Hid (∀ w2 : World, Below ((w.alloc (.cells #[.int .i64 next, .slice a n c] 28)).alloc (.cells #[.int .i64 0, .slice none 0 0] 28)).drew.heap.size ((w.alloc (.cells #[.int .i64 next, .slice a n c] 28)).alloc (.cells #[.int .i64 0, .slice none 0 0] 28)).drew w2 → Below (w.heap.size + 2) ((w.alloc (.cells #[.int .i64 next, .slice a n c] 28)).alloc (.cells #[.int .i64 0, .slice none 0 0] 28)) w2) := fun w2 hb => ((Below.refl _ _).drew).trans (hb.mono (by simp))
  go_enter Try.func31, Try.ntmps31
  go_wp2
  go_region_held3 (fun w' => w'.cell? ⟨w.heap.size, 0, none⟩ = some (.int .i64 next) ∧ w'.cell? ⟨w.heap.size, 1, none⟩ = some (.slice a n c)) (go_keep)
    (first
    | (go_at_call 47; refine (copyTerms_any a n c I X R ((w.alloc (.cells #[.int .i64 next, .slice a n c] 28)).alloc (.cells #[.int .i64 0, .slice none 0 0] 28)).drew (HW.out _ _) hn).mono ?_; rintro e w2 ⟨a2, c2, rfl, ho2, hb2, hcc⟩; obtain ⟨⟨y0, y1⟩, ⟨z0, z1, zf⟩, zz, hbel⟩ := dbox2 (HC.out w2 hb2)))
  have HX : Hid (OwnT w2 (w.heap.size + 2) a2 n I X R ∧ Below w.heap.size w w2) := ⟨ho2.mono (by simp), hbel⟩
  clear ho2 hb2 hbel HC HW
  go_wp2
  refine bodyPost_ret (v := .agg #[.int .i64 next, .slice a2 n c2]) (by simp [results, Try.results31, go_sem, z0, z1]) rfl ⟨a2, c2, rfl, ?_, ?_, hcc⟩
  · exact ((HX.out.1.setOther (by simp) _).setOther (by simp) _).mono (by omega)
  · exact (HX.out.2.setCell (by simp) _).setCell (by simp) _

set_option maxHeartbeats 1000000 in
theorem l4Copy_any (next : Int) (a : Option Addr) (n c : Nat) (I : Nat → Int) (X : Nat → ByteArray) (R : Nat → Int) (w : World) (h : RdT w a n I X R) (hn : n ≤ 1048576) :
    Calls Try.prog 26 #[.agg #[.int .i64 next, .slice a n c]] w (RetDct w next n I X R) := by
  have HW : Hid (∀ o o' o'', RdT (((w.alloc o).alloc o').alloc o'').drew a n I X R) := fun o o' o'' => h.below (((below_alloc _ _).trans ((below_alloc _ _).mono (by simp))).alloc (by simp; omega) _).drew
  clear h
  have HO : Hid (((((w.alloc (.cells #[.int .i64 next, .slice a n c] 28)).alloc (.cells #[.int .i64 0, .slice none 0 0] 28)).alloc (.cells #[] 51)).drew).ownsRow (w.heap.size + 2) 51 3 (.slice (some ⟨w.heap.size + 1 + 1, 0, none⟩) 0 0) 0 []) := by
    have := World.ownsRow_lit (base := w.heap.size + 2) (e := 51) (size := 3) ((w.alloc (.cells #[.int .i64 next, .slice a n c] 28)).alloc (.cells #[.int .i64 0, .slice none 0 0] 28)) #[] 0 (by simp) (Nat.zero_le _) rfl
    rw [World.size_alloc, World.size_alloc] at this
    exact this
  have HG : Hid (∀ w2 : World, ((((w.alloc (.cells #[.int .i64 next, .slice a n c] 28)).alloc (.cells #[.int .i64 0, .slice none 0 0] 28)).alloc (.cells #[] 51)).drew).grownBy w2 (Value.slice (some ⟨w.heap.size + 1 + 1, 0, none⟩) 0 0).ownBlock → Below (w.heap.size + 2) ((w.alloc (.cells #[.int .i64 next, .slice a n c] 28)).alloc (.cells #[.int .i64 0, .slice none 0 0] 28)) w2) := fun w2 hg =>
    (((Below.refl _ _).alloc (by simp) _).drew).grown hg (by simp) (fun k e => by simp [Value.ownBlock] at e; omega)
  have HZ : Hid (w.heap.size + 2 ≤ ((((w.alloc (.cells #[.int .i64 next, .slice a n c] 28)).alloc (.cells #[.int .i64 0, .slice none 0 0] 28)).alloc (.cells #[] 51)).drew).heap.size) := by show _ ≤ _; simp
  go_enter Try.func26, Try.ntmps26
  go_wp2
  go_region_held3 (fun w' => w'.cell? ⟨w.heap.size, 0, none⟩ = some (.int .i64 next) ∧ w'.cell? ⟨w.heap.size, 1, none⟩ = some (.slice a n c)) (go_keep)
    (first
    | (refine step_append_T (by rfl) (.tmp 5) (.tmp 7) (by rfl) (w.heap.size + 2) (.slice (some ⟨w.heap.size + 1 + 1, 0, none⟩) 0 0) 0 [] (by rfl) HO.out a n c I X R (by rfl) (HW.out _ _ _) (by omega) HZ.out ?_; intro v2 w2 ho2 hg2; obtain ⟨⟨y0, y1⟩, ⟨z0, z1, zf⟩, zz, hbel⟩ := dbox2 (HG.out w2 hg2); obtain ⟨a2, c2, rfl, ho3, hcc⟩ := ownT_of0 ho2))
  have HX : Hid (OwnT w2 (w.heap.size + 2) a2 n I X R ∧ Below w.heap.size w w2) := ⟨ho3, hbel⟩
  clear ho2 ho3 hg2 hbel HG HW HO
  go_wp2
  refine bodyPost_ret (v := .agg #[.int .i64 next, .slice a2 n c2]) (by simp [results, Try.results26, go_sem, z0, z1]) rfl ⟨a2, c2, rfl, ?_, ?_, hcc⟩
  · exact ((HX.out.1.setOther (by simp) _).setOther (by simp) _).mono (by omega)
  · exact (HX.out.2.setCell (by simp) _).setCell (by simp) _
end Go.Proofs.Ytfecgececffdoaa
