import Derived.Test.YtlcamfkgkcjehaaFcB
import Derived.Test.YtlcamfkgkcjehaaDrawK
import Derived.Laws.BytesArg
namespace Go.Proofs.Ytlcamfkgkcjehaa
open Go.RowKit Go.Deep
set_option linter.unusedVariables false
set_option maxRecDepth 100000

theorem RdDk.set4 {w : World} {B b : Nat} {x v0 v1 : Value} {fuel : Int} {dead : Bool} (h : RdDk w B x) (hbB : b < B) : RdDk (set4 w b v0 v1 fuel dead) B x := by
  unfold Go.Proofs.Ytlcamfkgkcjehaa.set4
  refine h.keep (fun k hk _ => ?_)
  rw [Below.heap_setCell _ _ _ _ (by show k ≠ b; omega), Below.heap_setCell _ _ _ _ (by show k ≠ b; omega), Below.heap_setCell _ _ _ _ (by show k ≠ b; omega), Below.heap_setCell _ _ _ _ (by show k ≠ b; omega)]

/-- What l1AnyDisk hands back. -/
def RetAny (w : World) (g : Nat) (b : Option Addr) (n c : Nat) (f : Nat → Int) (e : Ending) (w' : World) : Prop :=
  ∃ v, e = .returned v ∧ RdDk w' (w.heap.size + 1) v ∧ Drw w' g b n c f ∧ BelC w.heap.size g w w'

set_option maxHeartbeats 2000000 in
theorem l1AnyDisk_any (g : Nat) (b : Option Addr) (n c : Nat) (f : Nat → Int) (w : World) (h : Drw w g b n c f) :
    Calls Try.prog 22 #[.pointer (some ⟨g, 0, none⟩)] w (RetAny w g b n c f) := by
  have HW : Hid (DrwL w w.heap.size g b n c f) := DrwL.of h
  clear h
  have hgw := HW.out.cur
  go_enter Try.func22, Try.ntmps22
  go_wp2_with fail
  refine (l1Disk_q g b n c f _ (HW.out.drw.below (below_alloc _ _))).mono ?_
  rintro e w2 ⟨nn, t, a, p, c', q, A, rfl, hoq, hok, hd2, hbc⟩
  rw [show ∀ O, (w.alloc O).heap.size = w.heap.size + 1 from fun O => by simp] at hoq hbc
  have z2 : w.heap.size + 1 ≤ w2.heap.size := by have := hbc.size; simpa using this
  have R2 : Hid (DkRow w2 w.heap.size (.slice none 0 0) (.slice none 0 0) 0 false) := rowIn.of_block (rowInNew w _ _ _ _) (hbc.block w.heap.size (by omega) (by omega))
  have HOK : Hid (t.ok nn) := hok
  have S3 : Hid (OwnQ (w2.alloc (.cells #[.slice a nn c', .slice p t.m q, .int .i64 t.fuel, .bool t.dead] 25)) (w.heap.size + 1) a nn c' t.d p t.m q t.S t.L t.F A ∧ DkRow (w2.alloc (.cells #[.slice a nn c', .slice p t.m q, .int .i64 t.fuel, .bool t.dead] 25)) w.heap.size (.slice none 0 0) (.slice none 0 0) 0 false ∧ DkRow (w2.alloc (.cells #[.slice a nn c', .slice p t.m q, .int .i64 t.fuel, .bool t.dead] 25)) w2.heap.size (.slice a nn c') (.slice p t.m q) t.fuel t.dead ∧ Drw (w2.alloc (.cells #[.slice a nn c', .slice p t.m q, .int .i64 t.fuel, .bool t.dead] 25)) g b n c f ∧ BelC w.heap.size g w (w2.alloc (.cells #[.slice a nn c', .slice p t.m q, .int .i64 t.fuel, .bool t.dead] 25)) ∧ w.heap.size + 1 ≤ (w2.alloc (.cells #[.slice a nn c', .slice p t.m q, .int .i64 t.fuel, .bool t.dead] 25)).heap.size) := by
    refine ⟨hoq.below (below_alloc _ _), R2.out.below (below_alloc _ _), rowInNew _ _ _ _ _, hd2.below (below_alloc _ _), ?_, by simp; omega⟩
    exact (((BelC.ofBelow (below_alloc _ _) (Nat.le_refl _)).trans (hbc.mono (by omega))).alloc (by omega) _)
  clear hoq hok hd2 hbc R2
  go_wp2_with fail
  generalize (w2.alloc (.cells #[.slice a nn c', .slice p t.m q, .int .i64 t.fuel, .bool t.dead] 25)) = W3 at S3 ⊢
  generalize w2.heap.size = bx at S3 z2 ⊢
  refine (l1Once_any g b n c f 12 W3 S3.out.2.2.2.1 (by omega) (by omega)).mono ?_
  rintro e w4 ⟨o, rfl, hd4, ho4⟩
  have hz4 : w4.heap.size = W3.heap.size := ho4.size
  have S4 : Hid (OwnQ w4 (w.heap.size + 1) a nn c' t.d p t.m q t.S t.L t.F A ∧ DkRow w4 w.heap.size (.slice none 0 0) (.slice none 0 0) 0 false ∧ DkRow w4 bx (.slice a nn c') (.slice p t.m q) t.fuel t.dead ∧ Drw w4 g b n c f ∧ BelC w.heap.size g w w4 ∧ w.heap.size + 1 ≤ w4.heap.size) := by
    obtain ⟨s1, s2, s3, s4, s5, s6⟩ := S3.out
    exact ⟨s1.belC (by omega) (BelC.ofOnly ho4), rowIn.of_block s2 (ho4.block _ (fun x e => by injection e with e; subst e; show g ≠ w.heap.size; omega)), rowIn.of_block s3 (ho4.block _ (fun x e => by injection e with e; subst e; show g ≠ bx; omega)), hd4, s5.trans (BelC.ofOnly ho4), by omega⟩
  clear hd4 ho4 S3 hz4
  obtain ⟨hn, hm, hL⟩ := stt_vd_lens HOK.out
  have hVH := HOK.out.1
  unfold VH at hVH
  have HLL : Hid (∀ i, i < t.m → t.L i ≤ 1048576) := hL
  clear hL
  obtain ⟨y0, y1, y2, y3, yf, yl⟩ := S4.out.2.2.1.cells
  obtain ⟨r0, r1, r2, r3, rf, rl⟩ := S4.out.2.1.cells
  have hnb : ¬ (bx = w.heap.size) := by omega
  cases o with
  | false =>
    go_wp2
    refine bodyPost_ret (v := .agg #[.slice a nn c', .slice p t.m q, .int .i64 t.fuel, .bool t.dead]) (by simp [results, Try.results22, go_sem, r0, r1, r2, r3]) rfl ⟨_, rfl, ?_, ?_, ?_⟩
    · exact (S4.out.1.rdDk hn (by omega) HLL.out _ _).set4 (by omega)
    · exact (DrwL.below (T := w.heap.size) ⟨S4.out.2.2.2.1, hgw, HW.out.bytes⟩ (((((Below.refl _ _).setCell (by show w.heap.size ≤ w.heap.size; omega) _).setCell (by show w.heap.size ≤ w.heap.size; omega) _).setCell (by show w.heap.size ≤ w.heap.size; omega) _).setCell (by show w.heap.size ≤ w.heap.size; omega) _)).drw
    · exact ((((S4.out.2.2.2.2.1.setCell (by show w.heap.size ≤ w.heap.size; omega) _).setCell (by show w.heap.size ≤ w.heap.size; omega) _).setCell (by show w.heap.size ≤ w.heap.size; omega) _).setCell (by show w.heap.size ≤ w.heap.size; omega) _)
  | true =>
    go_wp2_with fail
    refine (l1Spoil_any (w.heap.size + 1) g b n c f a p nn c' t.m q t.d t.S t.L t.F A t.fuel t.dead w4 ⟨S4.out.2.2.2.1, by omega, fun h0 x hx => by have := HW.out.bytes h0 x hx; omega⟩ S4.out.1 S4.out.2.2.2.2.2 (by omega) hn (by omega) HLL.out).mono ?_
    rintro e w5 ⟨v, rfl, hrd, hd5, hb5⟩
    obtain ⟨a', p', n', cc, m', q', d', S', L', F', fuel', dead', rfl, hr⟩ := hrd
    have S5 : Hid (RdDk w5 (w.heap.size + 1) (.agg #[.slice a' n' cc, .slice p' m' q', .int .i64 fuel', .bool dead']) ∧ DkRow w5 w.heap.size (.slice none 0 0) (.slice none 0 0) 0 false ∧ Drw w5 g b n c f ∧ BelC w.heap.size g w w5) :=
      ⟨⟨a', p', n', cc, m', q', d', S', L', F', fuel', dead', rfl, hr⟩, rowIn.of_block S4.out.2.1 (hb5.block _ (by omega) (by omega)), hd5, S4.out.2.2.2.2.1.trans (hb5.mono (by omega))⟩
    clear hr hd5 hb5 y0 y1 y2 y3 yf yl r0 r1 r2 r3 rf rl S4
    obtain ⟨r0, r1, r2, r3, rf, rl⟩ := S5.out.2.1.cells
    go_wp2
    refine bodyPost_ret (v := .agg #[.slice a' n' cc, .slice p' m' q', .int .i64 fuel', .bool dead']) (by simp [results, Try.results22, go_sem, r0, r1, r2, r3]) rfl ⟨_, rfl, ?_, ?_, ?_⟩
    · exact S5.out.1.set4 (by omega)
    · exact (DrwL.below (T := w.heap.size) ⟨S5.out.2.2.1, hgw, HW.out.bytes⟩ (((((Below.refl _ _).setCell (by show w.heap.size ≤ w.heap.size; omega) _).setCell (by show w.heap.size ≤ w.heap.size; omega) _).setCell (by show w.heap.size ≤ w.heap.size; omega) _).setCell (by show w.heap.size ≤ w.heap.size; omega) _)).drw
    · exact ((((S5.out.2.2.2.setCell (by show w.heap.size ≤ w.heap.size; omega) _).setCell (by show w.heap.size ≤ w.heap.size; omega) _).setCell (by show w.heap.size ≤ w.heap.size; omega) _).setCell (by show w.heap.size ≤ w.heap.size; omega) _)
end Go.Proofs.Ytlcamfkgkcjehaa

namespace Go.Proofs.Ytlcamfkgkcjehaa
open Go.RowKit Go.Deep
set_option linter.unusedVariables false
set_option maxRecDepth 100000

theorem OwnBl.setOther {w : World} {B n : Nat} {a : Option Addr} {f : Nat → Bool} (h : OwnBl w B a n f) {x : Addr} (hx : x.block < B) (v : Value) : OwnBl (w.setCell x v) B a n f := by
  rcases h with h | ⟨g, e, hg, hr⟩
  · exact Or.inl h
  · exact Or.inr ⟨g, e, hg, hr.setOther (by omega) v⟩

/-- What DrawDiskCrash hands back. -/
def RetDdc (w : World) (e : Ending) (w' : World) : Prop :=
  ∃ (a p : Option Addr) (n c m q : Nat) (d S : Nat → Int) (L : Nat → Nat) (F : Nat → Nat → Int) (fuel : Int) (dead : Bool) (ka : Option Addr) (nk kc : Nat) (K : Nat → Bool),
    e = .returned (.tuple #[.agg #[.slice a n c, .slice p m q, .int .i64 fuel, .bool dead], .slice ka nk kc]) ∧ Rd .u8 w' a n d ∧ RdP w' p m S L F ∧ (n ≤ 1048576 ∧ n ≤ c ∧ c ≤ 9223372036854775807 ∧ m ≤ 4000 ∧ ∀ i, i < m → L i ≤ 1048576) ∧ RdBl w' ka nk K ∧ nk ≤ 1048576 ∧ Below w.heap.size w w'

set_option maxHeartbeats 2000000 in
theorem drawDC_any (b : Option Addr) (n c : Nat) (f : Nat → Int) (w : World) (hrd : Rd .u8 w b n f) (hn : n ≤ 1048576) (hf : ∀ j, j < n → 0 ≤ f j ∧ f j < 256) :
    Calls Try.prog 5 #[.slice b n c] w (RetDdc w) := by
  have HRD : Hid (Rd .u8 w b n f) := hrd
  have HF : Hid (∀ j, j < n → 0 ≤ f j ∧ f j < 256) := hf
  clear hrd hf
  go_enter Try.func5, Try.ntmps5
  go_wp2_with fail
  refine (l1New_any b n c f _ (HRD.out.below (below_alloc _ _)) hn HF.out).mono ?_
  rintro e w1 ⟨g, rfl, hg, hd1, hb1⟩
  rw [show ∀ O, (w.alloc O).heap.size = w.heap.size + 1 from fun O => by simp] at hg hb1
  have z1 := hb1.size
  rw [show ∀ O, (w.alloc O).heap.size = w.heap.size + 1 from fun O => by simp] at z1
  have S1 : Hid (Drw w1 g b n c f ∧ DkRow w1 w.heap.size (.slice none 0 0) (.slice none 0 0) 0 false ∧ Below w.heap.size w w1) := ⟨hd1, rowIn.of_block (rowInNew w _ _ _ _) (hb1.block w.heap.size (by omega)), (below_alloc _ _).trans (hb1.mono (by omega))⟩
  have hgl : g < w1.heap.size := (DrwL.of hd1).cur
  clear hd1 hb1
  go_wp2_with fail
  refine (l1AnyDisk_any g b n c f w1 S1.out.1).mono ?_
  rintro e w2 ⟨v, rfl, hrd, hd2, hb2⟩
  obtain ⟨a, p, n', c', m, q, d, S, L, F, fuel, dead, rfl, h1, h2, r1, r2, r3, r4, r5⟩ := hrd
  have z2 : w1.heap.size ≤ w2.heap.size := hb2.size
  have S2 : Hid (RdDk (w2.alloc (.cells #[.slice a n' c', .slice p m q, .int .i64 fuel, .bool dead] 25)) (w1.heap.size + 1) (.agg #[.slice a n' c', .slice p m q, .int .i64 fuel, .bool dead]) ∧ DkRow (w2.alloc (.cells #[.slice a n' c', .slice p m q, .int .i64 fuel, .bool dead] 25)) w.heap.size (.slice none 0 0) (.slice none 0 0) 0 false ∧ Drw (w2.alloc (.cells #[.slice a n' c', .slice p m q, .int .i64 fuel, .bool dead] 25)) g b n c f ∧ Below w.heap.size w (w2.alloc (.cells #[.slice a n' c', .slice p m q, .int .i64 fuel, .bool dead] 25)) ∧ DkRow (w2.alloc (.cells #[.slice a n' c', .slice p m q, .int .i64 fuel, .bool dead] 25)) w2.heap.size (.slice a n' c') (.slice p m q) fuel dead) := by
    refine ⟨RdDk.below ⟨a, p, n', c', m, q, d, S, L, F, fuel, dead, rfl, h1, h2, r1, r2, r3, r4, r5⟩ (below_alloc _ _), (rowIn.of_block S1.out.2.1 (hb2.block _ (by omega) (by omega))).below (below_alloc _ _), hd2.below (below_alloc _ _), ?_, rowInNew _ _ _ _ _⟩
    have hb : Below w.heap.size w w2 := S1.out.2.2.trans (BelC.below (hb2.mono (by omega)) (by omega))
    exact hb.alloc (by omega) _
  clear h1 h2 hd2 hb2 S1
  go_wp2_with fail
  generalize (w2.alloc (.cells #[.slice a n' c', .slice p m q, .int .i64 fuel, .bool dead] 25)) = W2 at S2 ⊢
  generalize w2.heap.size = bx at S2 z2 ⊢
  refine (l1Keep_any g b n c f (m : Int) m W2 S2.out.2.2.1 rfl (by omega)).mono ?_
  rintro e w3 ⟨k, ka, kc, K, rfl, hk, hob, hd3, hb3⟩
  have zW : W2.heap.size ≤ w3.heap.size := hb3.size
  have hbxW := rowIn.lt S2.out.2.2.2.2
  have hB3 : BelC W2.heap.size g W2 w3 := hb3
  have S3 : Hid (DkRow w3 w.heap.size (.slice none 0 0) (.slice none 0 0) 0 false ∧ DkRow w3 bx (.slice a n' c') (.slice p m q) fuel dead ∧ Below w.heap.size w w3) :=
    ⟨rowIn.of_block S2.out.2.1 (hb3.block _ (by omega) (by omega)), rowIn.of_block S2.out.2.2.2.2 (hb3.block _ hbxW (by omega)), S2.out.2.2.2.1.trans (BelC.below (hb3.mono (by omega)) (by omega))⟩
  have S4 : Hid (RdDk w3 (w1.heap.size + 1) (.agg #[.slice a n' c', .slice p m q, .int .i64 fuel, .bool dead]) ∧ OwnBl w3 W2.heap.size ka k K) := ⟨S2.out.1.keep (fun x hx hl => hb3.block x hl (by omega)), hob⟩
  clear hob hd3 hb3 hB3 S2
  obtain ⟨y0, y1, y2, y3, yf, yl⟩ := S3.out.2.1.cells
  obtain ⟨r0, r1, r2, r3, rf, rl⟩ := S3.out.1.cells
  go_wp2
  refine bodyPost_ret (v := .tuple #[.agg #[.slice a n' c', .slice p m q, .int .i64 fuel, .bool dead], .slice ka k kc]) (by simp [results, Try.results5, go_sem, r0, r1, r2, r3]) rfl ?_
  have hf := S4.out.1.set4 (b := w.heap.size) (v0 := .slice a n' c') (v1 := .slice p m q) (fuel := fuel) (dead := dead) (by omega)
  obtain ⟨a2, p2, n2, c2, m2, q2, d2, S2, L2, F2, fuel2, dead2, e, h1, h2, s1, s2, s3, s4, s5⟩ := hf
  cases e
  refine ⟨a, p, n', c', m, q, d2, S2, L2, F2, fuel, dead, ka, k, kc, K, rfl, h1.rd, h2.rd, ⟨s1, s2, s3, s4, s5⟩, ?_, by omega, ?_⟩
  · exact OwnBl.rd ((((S4.out.2.setOther (by show w.heap.size < W2.heap.size; omega) _).setOther (by show w.heap.size < W2.heap.size; omega) _).setOther (by show w.heap.size < W2.heap.size; omega) _).setOther (by show w.heap.size < W2.heap.size; omega) _)
  · exact ((((S3.out.2.2.setCell (by show w.heap.size ≤ w.heap.size; omega) _).setCell (by show w.heap.size ≤ w.heap.size; omega) _).setCell (by show w.heap.size ≤ w.heap.size; omega) _).setCell (by show w.heap.size ≤ w.heap.size; omega) _)
end Go.Proofs.Ytlcamfkgkcjehaa

namespace Go.Proofs.Ytlcamfkgkcjehaa
open Go.RowKit Go.Deep
set_option linter.unusedVariables false
set_option maxRecDepth 100000

/-- The text that bytes make. -/
def txtOf (f : Nat → Int) (n : Nat) : ByteArray := strOfNums ((List.range n).map f)

theorem conv_rd {a : Option Addr} {n : Nat} {f : Nat → Int} {w : World} (h : Rd .u8 w a n f) (hn : n ≠ 0) (c : Nat) : (convert 22 9 (.slice a n c)).run Try.prog w = .ok (.string (txtOf f n)) w := by
  rcases h with h0 | ⟨b, off, rfl, hc⟩
  · exact absurd h0 hn
  · exact run_convert_bytes_arg (P := Try.prog) w 22 5 (by kernel_rfl) (by kernel_rfl) b off n c ((List.range n).map f) (by simp) (fun i hi => by rw [hc i hi]; simp [List.getD, hi]) 9 (by kernel_rfl)

theorem txtOf_congr {f g : Nat → Int} {n : Nat} (h : ∀ i, i < n → f i = g i) : txtOf f n = txtOf g n := by
  unfold txtOf
  congr 1
  exact List.map_congr_left (fun i hi => h i (List.mem_range.1 hi))

set_option maxHeartbeats 400000 in
theorem lwBytes_yes (a b : Option Addr) (n c c' : Nat) (f g : Nat → Int) (w : World) (ha : Rd .u8 w a n f) (hb : Rd .u8 w b n g) (hn : n ≠ 0) (he : ∀ i, i < n → f i = g i) :
    Calls Try.prog 10 #[.slice a n c, .slice b n c'] w fun e w' => e = .returned (.bool true) ∧ w' = w := by
  have h1 := conv_rd ha hn c
  have h2 := conv_rd hb hn c'
  rw [← txtOf_congr he] at h2
  generalize txtOf f n = x at h1 h2
  clear ha hb hn he
  go_enter Try.func10, Try.ntmps10
  go_wp2
  go_ret
  exact ⟨by simp, rfl⟩
end Go.Proofs.Ytlcamfkgkcjehaa
