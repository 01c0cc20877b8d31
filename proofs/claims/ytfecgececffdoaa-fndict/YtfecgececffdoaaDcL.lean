import Derived.Test.YtfecgececffdoaaDcM
import Derived.Test.YtfecgececffdoaaDxS
import Derived.Test.YtfecgececffdoaaTmSp
import Derived.Test.YtfecgececffdoaaTmSpR
import Derived.Test.YtfecgececffdoaaTmImpR
import Derived.Test.YtfecgececffdoaaDvLaw
import Derived.Test.YtfecgececffdoaaOpenBy
import Derived.Laws.StructEq
namespace Go.Proofs.Ytfecgececffdoaa
open Go.RowKit Go.Deep
set_option linter.unusedVariables false
set_option maxRecDepth 100000

set_option maxHeartbeats 1000000 in
theorem lwAt_any (a : Option Addr) (n c i : Nat) (f : Nat → Int) (w : World) (h : Rd .u8 w a n f) (hf : ∀ i, i < n → 0 ≤ f i ∧ f i < 256) (hn : n ≤ 1048576) (hi : i ≤ 1000) :
    Calls Try.prog 19 #[.slice a n c, .int .i64 i] w fun e w' => ∃ v : Int, e = .returned (.int .i64 v) ∧ (0 ≤ v ∧ v < 256) ∧ w' = w := by
  by_cases hlt : i < n
  · rcases h with h0 | ⟨b, o, rfl, hc⟩
    · omega
    have hci := hc i hlt
    have hr := hf i hlt
    clear hc hf
    go_enter Try.func19, Try.ntmps19
    go_wp2
    go_ret
    exact ⟨_, rfl, by omega, rfl⟩
  · clear h hf
    go_enter Try.func19, Try.ntmps19
    go_wp2
    go_ret
    exact ⟨_, rfl, by omega, rfl⟩

theorem fieldsTm : (Try.prog.fieldsOf 51).toList = [{ name := "Id", type := 2, offset := 0, embedded := false, tag := "", pkgPath := "", byteOffset := 0 }, { name := "Text", type := 9, offset := 1, embedded := false, tag := "", pkgPath := "", byteOffset := 8 }, { name := "Refs", type := 2, offset := 2, embedded := false, tag := "", pkgPath := "", byteOffset := 24 }] := by kernel_rfl
theorem eqTm (i r : Int) (x : ByteArray) (w : World) : (Op.equalIn 10000 51 (.agg #[.int .i64 i, .string x, .int .i64 r]) (.agg #[.int .i64 i, .string x, .int .i64 r])).run Try.prog w = .ok true w := by
  rw [show (10000 : Nat) = 9999 + 1 from rfl, run_equalIn_struct (P := Try.prog) w 9999 51 _ _ (by kernel_rfl) (by kernel_rfl), fieldsTm]
  simp [Op.eqFields, go_sem]

set_option maxHeartbeats 2000000 in
theorem lwDict_yes (next : Int) (a b : Option Addr) (n ca cb : Nat) (I : Nat → Int) (X : Nat → ByteArray) (R : Nat → Int) (w : World) (ha : RdT w a n I X R) (hb : RdT w b n I X R) (hn : n ≤ 1048576) :
    Calls Try.prog 23 #[.agg #[.int .i64 next, .slice a n ca], .agg #[.int .i64 next, .slice b n cb]] w fun e w' => e = .returned (.bool true) ∧ Below w.heap.size w w' := by
  have HA : Hid (RdT w a n I X R ∧ RdT w b n I X R) := ⟨ha, hb⟩
  clear ha hb
  have hnn : (next != next) = false := by simp
  have hll : ((n : Int) != (n : Int)) = false := by simp
  go_enter Try.func23, Try.ntmps23
  go_wp2
  go_loopw [5] (fun i wr => ∃ k : Nat, k ≤ n ∧ i = .int .i64 k ∧ Below (w.heap.size + 2) ((w.alloc (.cells #[.int .i64 next, .slice a n ca] 28)).alloc (.cells #[.int .i64 next, .slice b n cb] 28)) wr) (fun i _ => n - (intOf i).toNat)
  case atStart => exact ⟨0, Nat.zero_le _, rfl, Below.refl _ _⟩
  case round =>
    obtain ⟨k, hk, rfl, hbel⟩ := hrel
    have HB : Hid (Below (w.heap.size + 2) ((w.alloc (.cells #[.int .i64 next, .slice a n ca] 28)).alloc (.cells #[.int .i64 next, .slice b n cb] 28)) wr) := hbel
    obtain ⟨⟨y0, y1⟩, ⟨z0, z1, zf⟩, zz, hbw⟩ := dbox2 hbel
    have HBW : Hid (Below w.heap.size w wr) := hbw
    clear hbel hbw
    by_cases hlt : k < n
    · rcases HA.out.1.below HBW.out with h | ⟨ba, oa, rfl, hca⟩
      · omega
      rcases HA.out.2.below HBW.out with h | ⟨bb, ob, rfl, hcb⟩
      · omega
      obtain ⟨h1, h2, h3⟩ := hca k hlt
      obtain ⟨g1, g2, g3⟩ := hcb k hlt
      have hEq := eqTm (I k) (R k) (X k)
      have hk0 : (0 : Int) ≤ (k : Int) := by omega
      clear hca hcb
      go_wp2
      go_region
      go_wp2
      go_roundw
      case rel => exact ⟨k + 1, by omega, by go_num, HB.out.drew⟩
      case measure => simp [intOf]; omega
    · obtain rfl : k = n := by omega
      go_wp2
      go_ret
      exact ⟨rfl, HBW.out⟩

theorem Bx.set2 {W : World} {b : Nat} {u0 u1 v0 v1 : Value} {t : TypeId} (h : Bx W b #[u0, u1] t) : Bx ((W.setCell ⟨b, 0, none⟩ v0).setCell ⟨b, 1, none⟩ v1) b #[v0, v1] t := by
  unfold Bx at h ⊢
  simp [World.setCell, Array.getElem?_modify, h]
theorem Bx.other {W : World} {b b' i : Nat} {cs : Array Value} {v : Value} {t : TypeId} (h : Bx W b' cs t) (hne : b' ≠ b) : Bx (W.setCell ⟨b, i, none⟩ v) b' cs t := (Below.heap_setCell _ _ _ _ hne).trans h
theorem OwnT.setBx {W : World} {B b i : Nat} {a : Option Addr} {n : Nat} {I : Nat → Int} {X : Nat → ByteArray} {R : Nat → Int} {v : Value} (h : OwnT W B a n I X R) {cs : Array Value} {t : TypeId} {fr : Nat × Nat} (hb : W.heap[b]? = some (.cells cs t fr)) (ht : t ≠ 51) : OwnT (W.setCell ⟨b, i, none⟩ v) B a n I X R := by
  rcases h with h0 | ⟨g, e, hg, hr⟩
  · exact Or.inl h0
  · refine Or.inr ⟨g, e, hg, hr.of_block (Below.heap_setCell _ _ _ _ (fun e2 => ?_))⟩
    have e3 : g = b := e2
    subst e3
    obtain ⟨cur, hc, _⟩ := hr
    rw [hb] at hc
    injection hc with hc
    injection hc with _ q _
    exact ht q

theorem fieldDict (v0 v1 v2 v3 : Value) (w : World) : (Instr.field 30 (.agg #[v0, v1, v2, v3]) 2).run Try.prog w = .ok (.agg #[v2, v3]) w := by kernel_rfl

/-- The law's world: both dictionaries' boxes and rows. -/
structure DcW (w W : World) (bd bm : Nat) (next : Int) (n : Nat) (I : Nat → Int) (X : Nat → ByteArray) (R : Nat → Int) (next2 : Int) (n2 : Nat) (I2 : Nat → Int) (X2 : Nat → ByteArray) (R2 : Nat → Int) (ad : Option Addr) (cd : Nat) (am : Option Addr) (cm : Nat) : Prop where
  d : Bx W bd #[.int .i64 next, .slice ad n cd] 28
  m : Bx W bm #[.int .i64 next2, .slice am n2 cm] 28
  ne : bd ≠ bm
  gd : w.heap.size ≤ bd
  gm : w.heap.size ≤ bm
  rd : OwnT W w.heap.size ad n I X R
  rm : OwnT W w.heap.size am n2 I2 X2 R2
  bel : Below w.heap.size w W

section
variable {w W W' : World} {bd bm : Nat} {next next2 : Int} {n n2 : Nat} {I I2 : Nat → Int} {X X2 : Nat → ByteArray} {R R2 : Nat → Int} {ad : Option Addr} {cd : Nat} {am : Option Addr} {cm : Nat}
theorem DcW.keep (h : DcW w W bd bm next n I X R next2 n2 I2 X2 R2 ad cd am cm) (hb : Below W.heap.size W W') : DcW w W' bd bm next n I X R next2 n2 I2 X2 R2 ad cd am cm :=
  ⟨h.d.keep hb, h.m.keep hb, h.ne, h.gd, h.gm, h.rd.below hb, h.rm.below hb, h.bel.trans (hb.mono h.bel.size)⟩
theorem DcW.cells (h : DcW w W bd bm next n I X R next2 n2 I2 X2 R2 ad cd am cm) : (W.cell? ⟨bd, 0, none⟩ = some (.int .i64 next) ∧ W.cell? ⟨bd, 1, none⟩ = some (.slice ad n cd) ∧ (∀ o, W.frozen? ⟨bd, o, none⟩ = false) ∧ bd < W.heap.size) ∧ (W.cell? ⟨bm, 0, none⟩ = some (.int .i64 next2) ∧ W.cell? ⟨bm, 1, none⟩ = some (.slice am n2 cm) ∧ (∀ o, W.frozen? ⟨bm, o, none⟩ = false) ∧ bm < W.heap.size) := by
  refine ⟨⟨by rw [h.d.cell]; rfl, by rw [h.d.cell]; rfl, fun o => ?_, h.d.lt⟩, ⟨by rw [h.m.cell]; rfl, by rw [h.m.cell]; rfl, fun o => ?_, h.m.lt⟩⟩
  · have := h.d; unfold Bx at this; simp [World.frozen?, this]
  · have := h.m; unfold Bx at this; simp [World.frozen?, this]
theorem DcW.setD (h : DcW w W bd bm next n I X R next2 n2 I2 X2 R2 ad cd am cm) {nx : Int} {n' : Nat} {a' : Option Addr} {c' : Nat} {I' : Nat → Int} {X' : Nat → ByteArray} {R' : Nat → Int} (ho : OwnT W w.heap.size a' n' I' X' R') :
    DcW w ((W.setCell ⟨bd, 0, none⟩ (.int .i64 nx)).setCell ⟨bd, 1, none⟩ (.slice a' n' c')) bd bm nx n' I' X' R' next2 n2 I2 X2 R2 a' c' am cm := by
  have h1 : (W.setCell ⟨bd, 0, none⟩ (.int .i64 nx)).heap[bd]? = some (.cells #[.int .i64 nx, .slice ad n cd] 28) := by have := h.d; unfold Bx at this; simp [World.setCell, Array.getElem?_modify, this]
  exact ⟨h.d.set2, (h.m.other h.ne.symm).other h.ne.symm, h.ne, h.gd, h.gm, (ho.setBx h.d (by decide)).setBx h1 (by decide), (h.rm.setBx h.d (by decide)).setBx h1 (by decide), (h.bel.setCell h.gd _).setCell h.gd _⟩
theorem DcW.setM (h : DcW w W bd bm next n I X R next2 n2 I2 X2 R2 ad cd am cm) {nx : Int} {n' : Nat} {a' : Option Addr} {c' : Nat} {I' : Nat → Int} {X' : Nat → ByteArray} {R' : Nat → Int} (ho : OwnT W w.heap.size a' n' I' X' R') :
    DcW w ((W.setCell ⟨bm, 0, none⟩ (.int .i64 nx)).setCell ⟨bm, 1, none⟩ (.slice a' n' c')) bd bm next n I X R nx n' I' X' R' ad cd a' c' := by
  have h1 : (W.setCell ⟨bm, 0, none⟩ (.int .i64 nx)).heap[bm]? = some (.cells #[.int .i64 nx, .slice am n2 cm] 28) := by have := h.m; unfold Bx at this; simp [World.setCell, Array.getElem?_modify, this]
  exact ⟨(h.d.other h.ne).other h.ne, h.m.set2, h.ne, h.gd, h.gm, (h.rd.setBx h.m (by decide)).setBx h1 (by decide), (ho.setBx h.m (by decide)).setBx h1 (by decide), (h.bel.setCell h.gm _).setCell h.gm _⟩
end

set_option maxHeartbeats 16000000 in
theorem dcLaw (v : Value) (w : World) (hv : IsBytesR w v) :
    Calls Try.prog 5 #[v] w fun e w' => e = .returned (.bool true) ∧ Below w.heap.size w w' := by
  obtain ⟨a, n0, c, f, rfl, ha, hf, hn0⟩ := hv
  unfold maxLen at hn0
  by_cases hbig : 1048576 < n0
  · have hb' : (1048576 : Int) < (n0 : Int) := by omega
    go_enter Try.func5, Try.ntmps5
    go_wp2
    go_ret
    exact ⟨rfl, Below.refl _ _⟩
  have hb' : ¬ (1048576 : Int) < (n0 : Int) := by omega
  have HA : Hid (Rd .u8 w a n0 f ∧ ∀ i, i < n0 → 0 ≤ f i ∧ f i < 256) := ⟨ha, hf⟩
  clear ha hf
  have hcv := run_conv1
  have hfd := fieldDict
  go_enter Try.func5, Try.ntmps5
  go_upto_region 5 with go_in
  have S0 : Hid (DcW w ((((w.alloc (.cells #[.int .i64 1, .slice none 0 0] 28)).alloc (.cells #[.int .i64 1, .slice none 0 0] 28)).alloc (.cells #[.int .i64 1, .slice none 0 0] 28)).alloc (.cells #[.int .i64 1, .slice none 0 0] 28)) (w.heap.size + 1) (w.heap.size + 1 + 1 + 1) 1 0 (fun _ => 0) (fun _ => { data := #[] }) (fun _ => 0) 1 0 (fun _ => 0) (fun _ => { data := #[] }) (fun _ => 0) none 0 none 0) := by
    have b1 := Bx.new (w.alloc (.cells #[.int .i64 1, .slice none 0 0] 28)) #[.int .i64 1, .slice none 0 0] 28
    have b3 := Bx.new (((w.alloc (.cells #[.int .i64 1, .slice none 0 0] 28)).alloc (.cells #[.int .i64 1, .slice none 0 0] 28)).alloc (.cells #[.int .i64 1, .slice none 0 0] 28)) #[.int .i64 1, .slice none 0 0] 28
    simp only [World.size_alloc] at b1 b3
    exact ⟨(b1.keep (below_alloc _ _)).keep (below_alloc _ _), b3, by omega, by omega, by omega, Or.inl rfl, Or.inl rfl, (((below_alloc _ _).alloc (by simp) _).alloc (by simp; omega) _).alloc (by simp; omega) _⟩
  have G0 : Hid (DcI 0 0 1 0 (fun _ => 0) (fun _ => { data := #[] }) (fun _ => 0)) := ⟨⟨rfl, by omega, fun j hj => absurd hj (Nat.not_lt_zero _)⟩, by omega, by omega, fun j hj => absurd hj (Nat.not_lt_zero _), by omega, by omega⟩
  generalize ((((w.alloc (.cells #[.int .i64 1, .slice none 0 0] 28)).alloc (.cells #[.int .i64 1, .slice none 0 0] 28)).alloc (.cells #[.int .i64 1, .slice none 0 0] 28)).alloc (.cells #[.int .i64 1, .slice none 0 0] 28)) = W0 at S0 ⊢
  generalize w.heap.size + 1 + 1 + 1 = bm at S0 ⊢
  generalize w.heap.size + 1 = bd at S0 ⊢
  go_wp2
  go_loopw [5, 6, 7, 8, 9, 10, 11, 12] (fun g i _ _ _ _ _ _ wr => ∃ (k : Nat) (given next : Int) (n : Nat) (I : Nat → Int) (X : Nat → ByteArray) (R : Nat → Int) (ad : Option Addr) (cd : Nat) (am : Option Addr) (cm : Nat), k ≤ 40 ∧ i = .int .i64 k ∧ g = .int .i64 given ∧ DcI k given next n I X R ∧ DcW w wr bd bm next n I X R next n I X R ad cd am cm ∧ n ≤ cm) (fun _ i _ _ _ _ _ _ _ => 40 - (intOf i).toNat)
  case atStart => exact ⟨0, 0, 1, 0, _, _, _, _, _, _, _, by omega, rfl, rfl, G0.out, S0.out, Nat.le_refl _⟩
  case round =>
    obtain ⟨k, given, next, n, I, X, R, ad, cd, am, cm, hk, rfl, rfl, hG, hS, hcm⟩ := hrel
    have GI : Hid (DcI k given next n I X R) := hG
    have S1 : Hid (DcW w wr bd bm next n I X R next n I X R ad cd am cm) := hS
    have hn40 := hG.le
    clear hG hS S0 G0
    by_cases hlt : k < 40
    case neg =>
      obtain ⟨⟨y0, y1, yf, yl⟩, ⟨z0, z1, zf, zl⟩⟩ := S1.out.cells
      go_wp2_with fail
      refine (lwDict_yes next ad am n cd cm I X R wr S1.out.rd.rd S1.out.rm.rd (by omega)).mono ?_
      rintro e w2 ⟨rfl, hb2⟩
      have S2 : Hid (DcW w w2 bd bm next n I X R next n I X R ad cd am cm) := S1.out.keep hb2
      clear y0 y1 yf yl z0 z1 zf zl hb2 S1
      obtain ⟨⟨y0, y1, yf, yl⟩, -⟩ := S2.out.cells
      go_wp2_with fail
      refine (implVD next ad n cd I X R w2 S2.out.rd.rd (by omega)).mono ?_
      rintro e w3 ⟨bv, rfl, hbv, hb3⟩
      obtain rfl : bv = true := hbv.2 GI.out.v
      have HE : Hid (Below w.heap.size w w3) := S2.out.bel.trans (hb3.mono S2.out.bel.size)
      clear y0 y1 yf yl hb3 hbv
      go_wp2
      go_ret
      exact ⟨rfl, HE.out⟩
    case pos =>
    have B1 : Hid (Below w.heap.size w wr) := S1.out.bel
    go_wp2_with fail
    refine (lwAt_any a n0 c k f wr (HA.out.1.below B1.out) HA.out.2 (by omega) (by omega)).mono ?_
    rintro e w1 ⟨x, rfl, hx, rfl⟩
    obtain ⟨hx0, hx1⟩ := hx
    go_upto_region 11 with fail
    have S2 : Hid (DcW w (w1.alloc (.cells #[.int .u8 (97 + x % 6)] 5)) bd bm next n I X R next n I X R ad cd am cm) := S1.out.keep (below_alloc _ _)
    generalize w1.alloc (.cells #[.int .u8 (97 + x % 6)] 5) = W2 at S2 ⊢
    have htx : txB (strOfNums [97 + x % 6]) = true := rfl
    generalize strOfNums [97 + x % 6] = tx at htx ⊢
    clear S1 B1 hcv
    obtain ⟨⟨y0, y1, yf, yl⟩, ⟨z0, z1, zf, zl⟩⟩ := S2.out.cells
    cases hbr : (x / 6 % 3 == 0) with
    | true =>
      go_wp2_with fail
      refine (implTermId next ad n cd I X R tx W2 S2.out.rd.rd (by omega)).mono ?_
      rintro e w3 ⟨id, rfl, hid, hb3⟩
      have S3 : Hid (DcW w w3 bd bm next n I X R next n I X R ad cd am cm) := S2.out.keep hb3
      have HID : Hid (IdOf n I X R next tx id) := hid
      clear y0 y1 yf yl z0 z1 zf zl hb3 hid S2
      obtain ⟨⟨y0, y1, yf, yl⟩, ⟨z0, z1, zf, zl⟩⟩ := S3.out.cells
      go_wp2_with fail
      refine (specTermId next am n cm I X R tx w3 S3.out.rm.rd (by omega)).mono ?_
      rintro e w4 ⟨id2, rfl, hid2, hb4⟩
      obtain rfl : id2 = id := hid2.same HID.out
      have S4 : Hid (DcW w w4 bd bm next n I X R next n I X R ad cd am cm) := S3.out.keep hb4
      have hii : (id2 != id2) = false := by simp
      clear y0 y1 yf yl z0 z1 zf zl hb4 hid2 S3
      obtain ⟨⟨y0, y1, yf, yl⟩, ⟨z0, z1, zf, zl⟩⟩ := S4.out.cells
      go_wp2_with fail
      refine (implRelease next ad n cd I X R id2 w4 S4.out.rd.rd (by omega)).mono ?_
      rintro e w5 ⟨ok5, id5, nx5, n5, I5, X5, R5, hans, aG, cG, rfl, ho5, hb5, -⟩
      have HANS : Hid (ReAns next n I X R id2 ok5 id5 nx5 n5 I5 X5 R5) := hans
      obtain ⟨hG', hok⟩ := GI.out.release (by omega) HID.out hans
      have GNEW : Hid (DcI (k + 1) given nx5 n5 I5 X5 R5) := hG'
      rcases Int.lt_or_le 0 id2 with hpos | hpos
      · have e5 : ok5 = true := by rw [hok]; exact decide_eq_true hpos
        subst e5
        clear hok
        have S5 : Hid (DcW w (w5.alloc (.cells #[.bool true, .int .i64 id5, .int .i64 nx5, .slice aG n5 cG] 30)) bd bm next n I X R next n I X R ad cd am cm ∧ OwnT (w5.alloc (.cells #[.bool true, .int .i64 id5, .int .i64 nx5, .slice aG n5 cG] 30)) w.heap.size aG n5 I5 X5 R5) := ⟨(S4.out.keep hb5).keep (below_alloc _ _), (ho5.mono S4.out.bel.size).below (below_alloc _ _)⟩
        have BR : Hid (Bx (w5.alloc (.cells #[.bool true, .int .i64 id5, .int .i64 nx5, .slice aG n5 cG] 30)) w5.heap.size #[.bool true, .int .i64 id5, .int .i64 nx5, .slice aG n5 cG] 30 ∧ ¬ bd = w5.heap.size) := ⟨Bx.new _ _ _, by have := (S4.out.keep hb5).d.lt; omega⟩
        clear y0 y1 yf yl z0 z1 zf zl hb5 ho5 hans hG' S4
        go_upto_region 16 with fail
        generalize w5.alloc (.cells #[.bool true, .int .i64 id5, .int .i64 nx5, .slice aG n5 cG] 30) = W5 at S5 BR ⊢
        generalize w5.heap.size = br at BR ⊢
        obtain ⟨⟨y0, y1, yf, yl⟩, ⟨z0, z1, zf, zl⟩⟩ := S5.out.1.cells
        have r0 : W5.cell? ⟨br, 0, none⟩ = some (.bool true) := by rw [BR.out.1.cell]; rfl
        have r2 : W5.cell? ⟨br, 2, none⟩ = some (.int .i64 nx5) := by rw [BR.out.1.cell]; rfl
        have r3 : W5.cell? ⟨br, 3, none⟩ = some (.slice aG n5 cG) := by rw [BR.out.1.cell]; rfl
        have hne2 : ¬ br = bd := fun e => BR.out.2 e.symm
        go_upto_region 19 with fail
        have S6 : Hid (DcW w ((W5.setCell ⟨bd, 0, none⟩ (.int .i64 nx5)).setCell ⟨bd, 1, none⟩ (.slice aG n5 cG)) bd bm nx5 n5 I5 X5 R5 next n I X R aG cG am cm) := S5.out.1.setD S5.out.2
        generalize (W5.setCell ⟨bd, 0, none⟩ (.int .i64 nx5)).setCell ⟨bd, 1, none⟩ (.slice aG n5 cG) = W6 at S6 ⊢
        clear S5 y0 y1 yf yl z0 z1 zf zl r0 r2 r3 BR hne2
        obtain ⟨⟨y0, y1, yf, yl⟩, ⟨z0, z1, zf, zl⟩⟩ := S6.out.cells
        go_wp2_with fail
        refine (specRelease next am n cm I X R id2 W6 S6.out.rm.rd (by omega) hcm).mono ?_
        rintro e w7 ⟨ok7, id7, nx7, n7, I7, X7, R7, hans, aS, cS, rfl, ho7, hb7, hcS⟩
        obtain ⟨rfl, rfl, rfl, rfl, rfl, rfl, rfl⟩ := hans.same HANS.out
        have S7 : Hid (DcW w ((w7.setCell ⟨bm, 0, none⟩ (.int .i64 nx7)).setCell ⟨bm, 1, none⟩ (.slice aS n7 cS)) bd bm nx7 n7 I7 X7 R7 nx7 n7 I7 X7 R7 aG cG aS cS) := (S6.out.keep hb7).setM (ho7.mono S6.out.bel.size)
        obtain ⟨⟨y0', y1', yf', yl'⟩, ⟨z0', z1', zf', zl'⟩⟩ := (S6.out.keep hb7).cells
        clear y0 y1 yf yl z0 z1 zf zl ho7 hb7 hans S6
        have HC7 : Hid (n7 ≤ cS) := hcS
        clear hcS
        go_wp2
        go_roundw
        case rel => exact ⟨k + 1, given, nx7, n7, I7, X7, R7, aG, cG, aS, cS, by omega, by go_num, rfl, GNEW.out, S7.out, HC7.out⟩
        case measure => simp [intOf]; omega
      · have hpos2 : ¬ 0 < id2 := by omega
        have e5 : ok5 = false := by rw [hok]; exact decide_eq_false hpos2
        subst e5
        clear hok
        have S5 : Hid (DcW w (w5.alloc (.cells #[.bool false, .int .i64 id5, .int .i64 nx5, .slice aG n5 cG] 30)) bd bm next n I X R next n I X R ad cd am cm ∧ OwnT (w5.alloc (.cells #[.bool false, .int .i64 id5, .int .i64 nx5, .slice aG n5 cG] 30)) w.heap.size aG n5 I5 X5 R5) := ⟨(S4.out.keep hb5).keep (below_alloc _ _), (ho5.mono S4.out.bel.size).below (below_alloc _ _)⟩
        have BR : Hid (Bx (w5.alloc (.cells #[.bool false, .int .i64 id5, .int .i64 nx5, .slice aG n5 cG] 30)) w5.heap.size #[.bool false, .int .i64 id5, .int .i64 nx5, .slice aG n5 cG] 30 ∧ ¬ bd = w5.heap.size) := ⟨Bx.new _ _ _, by have := (S4.out.keep hb5).d.lt; omega⟩
        clear y0 y1 yf yl z0 z1 zf zl hb5 ho5 hans hG' S4
        go_upto_region 16 with fail
        generalize w5.alloc (.cells #[.bool false, .int .i64 id5, .int .i64 nx5, .slice aG n5 cG] 30) = W5 at S5 BR ⊢
        generalize w5.heap.size = br at BR ⊢
        obtain ⟨⟨y0, y1, yf, yl⟩, ⟨z0, z1, zf, zl⟩⟩ := S5.out.1.cells
        have r0 : W5.cell? ⟨br, 0, none⟩ = some (.bool false) := by rw [BR.out.1.cell]; rfl
        have r2 : W5.cell? ⟨br, 2, none⟩ = some (.int .i64 nx5) := by rw [BR.out.1.cell]; rfl
        have r3 : W5.cell? ⟨br, 3, none⟩ = some (.slice aG n5 cG) := by rw [BR.out.1.cell]; rfl
        have hne2 : ¬ br = bd := fun e => BR.out.2 e.symm
        go_upto_region 19 with fail
        have S6 : Hid (DcW w ((W5.setCell ⟨bd, 0, none⟩ (.int .i64 nx5)).setCell ⟨bd, 1, none⟩ (.slice aG n5 cG)) bd bm nx5 n5 I5 X5 R5 next n I X R aG cG am cm) := S5.out.1.setD S5.out.2
        generalize (W5.setCell ⟨bd, 0, none⟩ (.int .i64 nx5)).setCell ⟨bd, 1, none⟩ (.slice aG n5 cG) = W6 at S6 ⊢
        clear S5 y0 y1 yf yl z0 z1 zf zl r0 r2 r3 BR hne2
        obtain ⟨⟨y0, y1, yf, yl⟩, ⟨z0, z1, zf, zl⟩⟩ := S6.out.cells
        go_wp2_with fail
        refine (specRelease next am n cm I X R id2 W6 S6.out.rm.rd (by omega) hcm).mono ?_
        rintro e w7 ⟨ok7, id7, nx7, n7, I7, X7, R7, hans, aS, cS, rfl, ho7, hb7, hcS⟩
        obtain ⟨rfl, rfl, rfl, rfl, rfl, rfl, rfl⟩ := hans.same HANS.out
        have S7 : Hid (DcW w ((w7.setCell ⟨bm, 0, none⟩ (.int .i64 nx7)).setCell ⟨bm, 1, none⟩ (.slice aS n7 cS)) bd bm nx7 n7 I7 X7 R7 nx7 n7 I7 X7 R7 aG cG aS cS) := (S6.out.keep hb7).setM (ho7.mono S6.out.bel.size)
        obtain ⟨⟨y0', y1', yf', yl'⟩, ⟨z0', z1', zf', zl'⟩⟩ := (S6.out.keep hb7).cells
        clear y0 y1 yf yl z0 z1 zf zl ho7 hb7 hans S6
        have HC7 : Hid (n7 ≤ cS) := hcS
        clear hcS
        go_wp2
        go_roundw
        case rel => exact ⟨k + 1, given, nx7, n7, I7, X7, R7, aG, cG, aS, cS, by omega, by go_num, rfl, GNEW.out, S7.out, HC7.out⟩
        case measure => simp [intOf]; omega
    | false =>
      go_wp2_with fail
      refine (specTermId next am n cm I X R tx W2 S2.out.rm.rd (by omega)).mono ?_
      rintro e w3 ⟨old, rfl, hid, hb3⟩
      have S3 : Hid (DcW w w3 bd bm next n I X R next n I X R ad cd am cm) := S2.out.keep hb3
      have HID : Hid (IdOf n I X R next tx old) := hid
      clear y0 y1 yf yl z0 z1 zf zl hb3 hid S2
      obtain ⟨⟨y0, y1, yf, yl⟩, ⟨z0, z1, zf, zl⟩⟩ := S3.out.cells
      go_wp2_with fail
      refine (implIntern next ad n cd I X R tx w3 S3.out.rd.rd (by omega)).mono ?_
      rintro e w5 ⟨ok5, id5, nx5, n5, I5, X5, R5, hans, aG, cG, rfl, ho5, hb5, -⟩
      have HANS : Hid (InAns next n I X R tx ok5 id5 nx5 n5 I5 X5 R5) := hans
      have hn5 : n5 ≤ 1048576 := hans.le (by omega)
      obtain ⟨rfl, hold1, hold2, hold3, htext, hG'⟩ := GI.out.intern (by omega) htx HID.out hans
      have GN0 : Hid (DcI (k + 1) (if given < id5 then id5 else given) nx5 n5 I5 X5 R5) := hG'
      have HTX : Hid (∀ t, TextOf n5 I5 X5 R5 nx5 id5 t → t = tx) := htext
      have S5 : Hid (DcW w (w5.alloc (.cells #[.bool true, .int .i64 id5, .int .i64 nx5, .slice aG n5 cG] 30)) bd bm next n I X R next n I X R ad cd am cm ∧ OwnT (w5.alloc (.cells #[.bool true, .int .i64 id5, .int .i64 nx5, .slice aG n5 cG] 30)) w.heap.size aG n5 I5 X5 R5) := ⟨(S3.out.keep hb5).keep (below_alloc _ _), (ho5.mono S3.out.bel.size).below (below_alloc _ _)⟩
      have BR : Hid (Bx (w5.alloc (.cells #[.bool true, .int .i64 id5, .int .i64 nx5, .slice aG n5 cG] 30)) w5.heap.size #[.bool true, .int .i64 id5, .int .i64 nx5, .slice aG n5 cG] 30 ∧ ¬ bd = w5.heap.size) := ⟨Bx.new _ _ _, by have := (S3.out.keep hb5).d.lt; omega⟩
      clear y0 y1 yf yl z0 z1 zf zl hb5 ho5 hans hG' htext S3
      go_upto_region 22 with fail
      generalize w5.alloc (.cells #[.bool true, .int .i64 id5, .int .i64 nx5, .slice aG n5 cG] 30) = W5 at S5 BR ⊢
      generalize w5.heap.size = br at BR ⊢
      have r0 : W5.cell? ⟨br, 0, none⟩ = some (.bool true) := by rw [BR.out.1.cell]; rfl
      have r1 : W5.cell? ⟨br, 1, none⟩ = some (.int .i64 id5) := by rw [BR.out.1.cell]; rfl
      have r2 : W5.cell? ⟨br, 2, none⟩ = some (.int .i64 nx5) := by rw [BR.out.1.cell]; rfl
      have r3 : W5.cell? ⟨br, 3, none⟩ = some (.slice aG n5 cG) := by rw [BR.out.1.cell]; rfl
      have hne2 : ¬ br = bd := fun e => BR.out.2 e.symm
      have htt : (tx.toList == tx.toList) = true := by simp
      rcases hold3 with ho0 | ho1
      · have q1 : ¬ (0 < old) := by omega
        have q2 : (old == 0) = true := by rw [ho0]; rfl
        have q3 : ¬ id5 ≤ given := by have := hold2 ho0; omega
        have q4 : given < id5 := by omega
        have GNEW : Hid (DcI (k + 1) id5 nx5 n5 I5 X5 R5) := by have := GN0.out; rw [if_pos q4] at this; exact this
        clear ho0 hold1 hold2 GN0
        go_wp2_with fail
        refine (implTermText nx5 aG n5 cG I5 X5 R5 id5 W5 S5.out.2.rd hn5).mono ?_
        rintro e w6 ⟨tt, rfl, hto, hb6⟩
        obtain rfl : tt = tx := HTX.out tt hto
        have S6 : Hid (DcW w w6 bd bm next n I X R next n I X R ad cd am cm ∧ OwnT w6 w.heap.size aG n5 I5 X5 R5) := ⟨S5.out.1.keep hb6, S5.out.2.below hb6⟩
        have BR6 : Hid (Bx w6 br #[.bool true, .int .i64 id5, .int .i64 nx5, .slice aG n5 cG] 30) := BR.out.1.keep hb6
        clear r0 r1 r2 r3 S5 BR hb6 hto
        have r0 : w6.cell? ⟨br, 0, none⟩ = some (.bool true) := by rw [BR6.out.cell]; rfl
        have r1 : w6.cell? ⟨br, 1, none⟩ = some (.int .i64 id5) := by rw [BR6.out.cell]; rfl
        have r2 : w6.cell? ⟨br, 2, none⟩ = some (.int .i64 nx5) := by rw [BR6.out.cell]; rfl
        have r3 : w6.cell? ⟨br, 3, none⟩ = some (.slice aG n5 cG) := by rw [BR6.out.cell]; rfl
        obtain ⟨⟨y0, y1, yf, yl⟩, ⟨z0, z1, zf, zl⟩⟩ := S6.out.1.cells
        go_upto_region 27 with fail
        have S7 : Hid (DcW w ((w6.setCell ⟨bd, 0, none⟩ (.int .i64 nx5)).setCell ⟨bd, 1, none⟩ (.slice aG n5 cG)) bd bm nx5 n5 I5 X5 R5 next n I X R aG cG am cm) := S6.out.1.setD S6.out.2
        generalize (w6.setCell ⟨bd, 0, none⟩ (.int .i64 nx5)).setCell ⟨bd, 1, none⟩ (.slice aG n5 cG) = W7 at S7 ⊢
        clear S6 BR6 y0 y1 yf yl z0 z1 zf zl r0 r1 r2 r3 hne2
        obtain ⟨⟨y0, y1, yf, yl⟩, ⟨z0, z1, zf, zl⟩⟩ := S7.out.cells
        go_wp2_with fail
        refine (specIntern next am n cm I X R tt W7 S7.out.rm.rd (by omega) hcm).mono ?_
        rintro e w8 ⟨ok7, id7, nx7, n7, I7, X7, R7, hans, aS, cS, rfl, ho7, hb7, hcS⟩
        obtain ⟨rfl, rfl, rfl, rfl, rfl, rfl, rfl⟩ := hans.same HANS.out
        have S8 : Hid (DcW w ((w8.setCell ⟨bm, 0, none⟩ (.int .i64 nx7)).setCell ⟨bm, 1, none⟩ (.slice aS n7 cS)) bd bm nx7 n7 I7 X7 R7 nx7 n7 I7 X7 R7 aG cG aS cS) := (S7.out.keep hb7).setM (ho7.mono S7.out.bel.size)
        obtain ⟨⟨y0', y1', yf', yl'⟩, ⟨z0', z1', zf', zl'⟩⟩ := (S7.out.keep hb7).cells
        clear y0 y1 yf yl z0 z1 zf zl ho7 hb7 hans S7
        have HC7 : Hid (n7 ≤ cS) := hcS
        clear hcS
        go_wp2
        go_roundw
        case rel => exact ⟨k + 1, id7, nx7, n7, I7, X7, R7, aG, cG, aS, cS, by omega, by go_num, rfl, GNEW.out, S8.out, HC7.out⟩
        case measure => simp [intOf]; omega
      · have q1 : 0 < old := ho1
        have q2 : (old == 0) = false := by simp; omega
        have q3 : id5 = old := hold1 ho1
        have q5 : (id5 != old) = false := by rw [q3]; simp
        clear q3 ho1 hold1 hold2
        by_cases q4 : given < id5
        · have GNEW : Hid (DcI (k + 1) id5 nx5 n5 I5 X5 R5) := by have := GN0.out; rw [if_pos q4] at this; exact this
          clear GN0
          go_wp2_with fail
          refine (implTermText nx5 aG n5 cG I5 X5 R5 id5 W5 S5.out.2.rd hn5).mono ?_
          rintro e w6 ⟨tt, rfl, hto, hb6⟩
          obtain rfl : tt = tx := HTX.out tt hto
          have S6 : Hid (DcW w w6 bd bm next n I X R next n I X R ad cd am cm ∧ OwnT w6 w.heap.size aG n5 I5 X5 R5) := ⟨S5.out.1.keep hb6, S5.out.2.below hb6⟩
          have BR6 : Hid (Bx w6 br #[.bool true, .int .i64 id5, .int .i64 nx5, .slice aG n5 cG] 30) := BR.out.1.keep hb6
          clear r0 r1 r2 r3 S5 BR hb6 hto
          have r0 : w6.cell? ⟨br, 0, none⟩ = some (.bool true) := by rw [BR6.out.cell]; rfl
          have r1 : w6.cell? ⟨br, 1, none⟩ = some (.int .i64 id5) := by rw [BR6.out.cell]; rfl
          have r2 : w6.cell? ⟨br, 2, none⟩ = some (.int .i64 nx5) := by rw [BR6.out.cell]; rfl
          have r3 : w6.cell? ⟨br, 3, none⟩ = some (.slice aG n5 cG) := by rw [BR6.out.cell]; rfl
          obtain ⟨⟨y0, y1, yf, yl⟩, ⟨z0, z1, zf, zl⟩⟩ := S6.out.1.cells
          go_upto_region 27 with fail
          have S7 : Hid (DcW w ((w6.setCell ⟨bd, 0, none⟩ (.int .i64 nx5)).setCell ⟨bd, 1, none⟩ (.slice aG n5 cG)) bd bm nx5 n5 I5 X5 R5 next n I X R aG cG am cm) := S6.out.1.setD S6.out.2
          generalize (w6.setCell ⟨bd, 0, none⟩ (.int .i64 nx5)).setCell ⟨bd, 1, none⟩ (.slice aG n5 cG) = W7 at S7 ⊢
          clear S6 BR6 y0 y1 yf yl z0 z1 zf zl r0 r1 r2 r3 hne2
          obtain ⟨⟨y0, y1, yf, yl⟩, ⟨z0, z1, zf, zl⟩⟩ := S7.out.cells
          go_wp2_with fail
          refine (specIntern next am n cm I X R tt W7 S7.out.rm.rd (by omega) hcm).mono ?_
          rintro e w8 ⟨ok7, id7, nx7, n7, I7, X7, R7, hans, aS, cS, rfl, ho7, hb7, hcS⟩
          obtain ⟨rfl, rfl, rfl, rfl, rfl, rfl, rfl⟩ := hans.same HANS.out
          have S8 : Hid (DcW w ((w8.setCell ⟨bm, 0, none⟩ (.int .i64 nx7)).setCell ⟨bm, 1, none⟩ (.slice aS n7 cS)) bd bm nx7 n7 I7 X7 R7 nx7 n7 I7 X7 R7 aG cG aS cS) := (S7.out.keep hb7).setM (ho7.mono S7.out.bel.size)
          obtain ⟨⟨y0', y1', yf', yl'⟩, ⟨z0', z1', zf', zl'⟩⟩ := (S7.out.keep hb7).cells
          clear y0 y1 yf yl z0 z1 zf zl ho7 hb7 hans S7
          have HC7 : Hid (n7 ≤ cS) := hcS
          clear hcS
          go_wp2
          go_roundw
          case rel => exact ⟨k + 1, id7, nx7, n7, I7, X7, R7, aG, cG, aS, cS, by omega, by go_num, rfl, GNEW.out, S8.out, HC7.out⟩
          case measure => simp [intOf]; omega
        · have GNEW : Hid (DcI (k + 1) given nx5 n5 I5 X5 R5) := by have := GN0.out; rw [if_neg q4] at this; exact this
          clear GN0
          go_wp2_with fail
          refine (implTermText nx5 aG n5 cG I5 X5 R5 id5 W5 S5.out.2.rd hn5).mono ?_
          rintro e w6 ⟨tt, rfl, hto, hb6⟩
          obtain rfl : tt = tx := HTX.out tt hto
          have S6 : Hid (DcW w w6 bd bm next n I X R next n I X R ad cd am cm ∧ OwnT w6 w.heap.size aG n5 I5 X5 R5) := ⟨S5.out.1.keep hb6, S5.out.2.below hb6⟩
          have BR6 : Hid (Bx w6 br #[.bool true, .int .i64 id5, .int .i64 nx5, .slice aG n5 cG] 30) := BR.out.1.keep hb6
          clear r0 r1 r2 r3 S5 BR hb6 hto
          have r0 : w6.cell? ⟨br, 0, none⟩ = some (.bool true) := by rw [BR6.out.cell]; rfl
          have r1 : w6.cell? ⟨br, 1, none⟩ = some (.int .i64 id5) := by rw [BR6.out.cell]; rfl
          have r2 : w6.cell? ⟨br, 2, none⟩ = some (.int .i64 nx5) := by rw [BR6.out.cell]; rfl
          have r3 : w6.cell? ⟨br, 3, none⟩ = some (.slice aG n5 cG) := by rw [BR6.out.cell]; rfl
          obtain ⟨⟨y0, y1, yf, yl⟩, ⟨z0, z1, zf, zl⟩⟩ := S6.out.1.cells
          go_upto_region 27 with fail
          have S7 : Hid (DcW w ((w6.setCell ⟨bd, 0, none⟩ (.int .i64 nx5)).setCell ⟨bd, 1, none⟩ (.slice aG n5 cG)) bd bm nx5 n5 I5 X5 R5 next n I X R aG cG am cm) := S6.out.1.setD S6.out.2
          generalize (w6.setCell ⟨bd, 0, none⟩ (.int .i64 nx5)).setCell ⟨bd, 1, none⟩ (.slice aG n5 cG) = W7 at S7 ⊢
          clear S6 BR6 y0 y1 yf yl z0 z1 zf zl r0 r1 r2 r3 hne2
          obtain ⟨⟨y0, y1, yf, yl⟩, ⟨z0, z1, zf, zl⟩⟩ := S7.out.cells
          go_wp2_with fail
          refine (specIntern next am n cm I X R tt W7 S7.out.rm.rd (by omega) hcm).mono ?_
          rintro e w8 ⟨ok7, id7, nx7, n7, I7, X7, R7, hans, aS, cS, rfl, ho7, hb7, hcS⟩
          obtain ⟨rfl, rfl, rfl, rfl, rfl, rfl, rfl⟩ := hans.same HANS.out
          have S8 : Hid (DcW w ((w8.setCell ⟨bm, 0, none⟩ (.int .i64 nx7)).setCell ⟨bm, 1, none⟩ (.slice aS n7 cS)) bd bm nx7 n7 I7 X7 R7 nx7 n7 I7 X7 R7 aG cG aS cS) := (S7.out.keep hb7).setM (ho7.mono S7.out.bel.size)
          obtain ⟨⟨y0', y1', yf', yl'⟩, ⟨z0', z1', zf', zl'⟩⟩ := (S7.out.keep hb7).cells
          clear y0 y1 yf yl z0 z1 zf zl ho7 hb7 hans S7
          have HC7 : Hid (n7 ≤ cS) := hcS
          clear hcS
          go_wp2
          go_roundw
          case rel => exact ⟨k + 1, given, nx7, n7, I7, X7, R7, aG, cG, aS, cS, by omega, by go_num, rfl, GNEW.out, S8.out, HC7.out⟩
          case measure => simp [intOf]; omega
end Go.Proofs.Ytfecgececffdoaa
