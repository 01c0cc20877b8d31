import Derived.Test.YtbpcafcipncloaaAppRd
import Derived.Deep.WholeRow
import Derived.ChangeKeysEq
import Derived.Handy
namespace Go.Proofs.Ytbpcafcipncloaa
open Go.RowKit Go.Deep
set_option linter.unusedVariables false
set_option maxRecDepth 100000

/-- A sector as a value: 64 bytes. -/
def secA (f : Nat → Int) : Array Value := (byteRow f 64).toArray
theorem secA_size (f : Nat → Int) : (secA f).size = 64 := by simp [secA, byteRow_length]
theorem secA_get (f : Nat → Int) (i : Nat) (h : i < 64) : (secA f)[i]? = some (.int .u8 (f i)) := by
  show (byteRow f 64).toArray[i]? = _
  rw [List.getElem?_toArray, byteRow_get f 64 i h]
theorem secA_congr {f g : Nat → Int} (h : ∀ i, i < 64 → f i = g i) : secA f = secA g := by
  apply Array.ext_getElem?
  intro i
  by_cases hi : i < 64
  · rw [secA_get f i hi, secA_get g i hi, h i hi]
  · rw [Array.getElem?_eq_none (by rw [secA_size]; omega), Array.getElem?_eq_none (by rw [secA_size]; omega)]
theorem secA_ofRow {cur : Array Value} {f : Nat → Int} (hs : cur.size = 64) (h : ∀ i, i < 64 → cur[i]? = some (.int .u8 (f i))) : cur = secA f := by
  apply Array.ext_getElem?
  intro i
  by_cases hi : i < 64
  · rw [secA_get f i hi, h i hi]
  · rw [Array.getElem?_eq_none (by omega), Array.getElem?_eq_none (by rw [secA_size]; omega)]
theorem secA_cells (f : Nat → Int) : (secA f).all (·.oneCell') = true := by
  rw [Array.all_eq_true_iff_forall_mem]
  intro v hv
  simp only [secA, byteRow, List.mem_toArray, List.mem_map] at hv
  obtain ⟨i, _, rfl⟩ := hv
  rfl

/-- A variable that holds a sector. -/
def Sec (w : World) (g : Nat) (f : Nat → Int) : Prop := w.heap[g]? = some (.cells (secA f) 87 (0, 0))

theorem Sec.row {w : World} {g : Nat} {f : Nat → Int} (h : Sec w g f) : rowIn w g 87 64 (fun i => .int .u8 (f i)) := ⟨secA f, h, by rw [secA_size]; exact Nat.le_refl _, fun i hi => secA_get f i hi⟩
theorem Sec.lt {w : World} {g : Nat} {f : Nat → Int} (h : Sec w g f) : g < w.heap.size := h.row.lt
theorem Sec.cell {w : World} {g : Nat} {f : Nat → Int} (h : Sec w g f) {i : Nat} (hi : i < 64) : w.cell? ⟨g, i, none⟩ = some (.int .u8 (f i)) := h.row.cell hi
theorem Sec.frozen {w : World} {g : Nat} {f : Nat → Int} (h : Sec w g f) (i : Nat) : w.frozen? ⟨g, i, none⟩ = false := h.row.frozen i
theorem Sec.of_block {w w' : World} {g : Nat} {f : Nat → Int} (h : Sec w g f) (e : w'.heap[g]? = w.heap[g]?) : Sec w' g f := e.trans h
theorem Sec.below {w w' : World} {g : Nat} {f : Nat → Int} (h : Sec w g f) (hb : Below w.heap.size w w') : Sec w' g f := h.of_block (hb.block g h.lt)
theorem Sec.congr {w : World} {g : Nat} {f f' : Nat → Int} (h : Sec w g f) (e : ∀ i, i < 64 → f i = f' i) : Sec w g f' := by
  unfold Sec
  rw [← secA_congr e]
  exact h
theorem Sec.set {w : World} {g : Nat} {f : Nat → Int} (h : Sec w g f) (i : Nat) (v : Int) : Sec (w.setCell ⟨g, i, none⟩ (.int .u8 v)) g (fun j => if j = i then v else f j) := by
  have e : (w.setCell ⟨g, i, none⟩ (.int .u8 v)).heap[g]? = some (.cells ((secA f).setIfInBounds i (.int .u8 v)) 87 (0, 0)) := by
    have h' : w.heap[g]? = some (.cells (secA f) 87 (0, 0)) := h
    simp [World.setCell, Array.getElem?_modify, h']
  unfold Sec
  rw [e]
  congr 2
  refine secA_ofRow (by simp [secA_size]) (fun j hj => ?_)
  rw [Array.getElem?_setIfInBounds]
  by_cases ej : j = i
  · subst ej
    simp [secA_size, hj]
  · rw [if_neg (fun h => ej h.symm), secA_get f j hj]
    simp [ej]
theorem Sec.rd {w : World} {g : Nat} {f : Nat → Int} (h : Sec w g f) (k n : Nat) (hk : k + n ≤ 64) : Rd .u8 w (some ⟨g, k, none⟩) n (fun i => f (k + i)) :=
  Or.inr ⟨g, k, rfl, fun i hi => h.cell (by omega)⟩
theorem Sec.new (w : World) (f : Nat → Int) : Sec (w.alloc (.cells (secA f) 87)) w.heap.size f := heap_alloc_last w _
theorem Sec.load {w : World} {g : Nat} {f : Nat → Int} (h : Sec w g f) : (Instr.loadAt 87 (.pointer (some ⟨g, 0, none⟩))).run Try.prog w = .ok (.agg (secA f)) w := by
  simp only [Instr.loadAt, Instr.sureAddr, Sem.run_bind, Sem.run_pure, Result.andThen]
  exact run_loadVar_row w g 87 87 (secA f) (0, 0) (.array 64 5) h (by kernel_rfl) rfl (by rw [secA_size]; kernel_rfl)
theorem Sec.store {w : World} {g : Nat} {f : Nat → Int} (h : Sec w g f) (f' : Nat → Int) : (Instr.storeAt 87 (.pointer (some ⟨g, 0, none⟩)) (.agg (secA f'))).run Try.prog w = .ok () (w.setRow g (secA f')) := by
  simp only [Instr.storeAt, Instr.sureAddr, Sem.run_bind, Sem.run_pure, Result.andThen]
  exact run_storeVar_row w g 87 87 (secA f) (secA f') h (by rw [secA_size]; kernel_rfl) (by rw [secA_size, secA_size]) (secA_cells f')

theorem Sec.setRow {w : World} {g : Nat} {f : Nat → Int} (h : Sec w g f) (f' : Nat → Int) : Sec (w.setRow g (secA f')) g f' ∧ OnlyAt (some ⟨g, 0, none⟩) w (w.setRow g (secA f')) :=
  ⟨setRow_heap w g _ _ _ _ h, ⟨rfl, rfl, rfl, by simp [World.setRow], fun k hk => setRow_other w g k _ (fun e => hk _ rfl (by simp [e]))⟩⟩

/-- A sector taken out of its variable. -/
theorem wpList_load_sec {w : World} {ops : Array Oper} {rest : List Oper} {act : Act} {Q : Exit → Act → World → Prop} {dst : Option Nat} {p : Operand} {ty : TypeId} {ps : String} {af : Array Edge} (g : Nat) (f : Nat → Int) (hp : act.eval p = .pointer (some ⟨g, 0, none⟩)) (hs : Sec w g f)
    (h : wpList Try.prog ops Q rest (act.put dst (.agg (secA f))) w) : wpList Try.prog ops Q ({ dst := dst, op := .load 87 p, type := ty, pos := ps, after := af, guard := none } :: rest) act w := by
  refine wpList_plain rfl fun K hK => ?_
  unfold Oper.wp
  simp [execOp, hp, hs.load, Result.andThen]
  exact hK _ _ h

/-- A sector laid into a variable. -/
theorem wpList_store_sec {w : World} {ops : Array Oper} {rest : List Oper} {act : Act} {Q : Exit → Act → World → Prop} {p v : Operand} {ty : TypeId} {ps : String} {af : Array Edge} (g : Nat) (f f' : Nat → Int) (hp : act.eval p = .pointer (some ⟨g, 0, none⟩)) (hv : act.eval v = .agg (secA f')) (hs : Sec w g f)
    (h : ∀ w', Sec w' g f' → OnlyAt (some ⟨g, 0, none⟩) w w' → wpList Try.prog ops Q rest act w') : wpList Try.prog ops Q ({ dst := none, op := .store 87 p v, type := ty, pos := ps, after := af, guard := none } :: rest) act w := by
  refine wpList_plain rfl fun K hK => ?_
  unfold Oper.wp
  simp [execOp, hp, hv, hs.store, Result.andThen]
  exact hK _ _ (h _ (hs.setRow f').1 (hs.setRow f').2)

/-- A sector handed back. -/
theorem retSec {fn : Func} {p : Tmp} (h : fn.results = #[.cell p 87]) (tmps : Array Value) (w : World) (g : Nat) (hp : tmps.getD p undef = .pointer (some ⟨g, 0, none⟩)) {f : Nat → Int} (hs : Sec w g f) : (results fn tmps).run Try.prog w = .ok (.agg (secA f)) w :=
  results_cell_row h tmps w g 87 (secA f) (0, 0) (.array 64 5) hp hs (by kernel_rfl) rfl (by rw [secA_size]; kernel_rfl)

/-- Byte i of a number, the lowest first. -/
def byteAt (v : Int) (i : Nat) : Int := v / 256 ^ i % 256
theorem byteAt_range (v : Int) (i : Nat) : 0 ≤ byteAt v i ∧ byteAt v i < 256 := by unfold byteAt; omega

theorem pow256 (j : Nat) : (2 : Int) ^ (8 * j) = 256 ^ j := by rw [Int.pow_mul]; rfl

/-- A number written into bytes. -/
def putN (f : Nat → Int) (o k : Nat) (v : Int) : Nat → Int := fun j => if o ≤ j ∧ j < o + k then byteAt v (j - o) else f j
theorem putN_zero (f : Nat → Int) (o : Nat) (v : Int) : putN f o 0 v = f := by
  funext j
  unfold putN
  rw [if_neg (by omega)]
theorem putN_succ (f : Nat → Int) (o k : Nat) (v : Int) : putN f o (k + 1) v = fun j => if j = o + k then byteAt v k else putN f o k v j := by
  funext j
  unfold putN
  by_cases e : j = o + k
  · subst e
    rw [if_pos (by omega), if_pos rfl, show o + k - o = k by omega]
  · rw [if_neg e]
    by_cases h : o ≤ j ∧ j < o + k
    · rw [if_pos (by omega), if_pos h]
    · rw [if_neg (by omega), if_neg h]

/-- A number read from bytes. -/
def getN (f : Nat → Int) (o : Nat) : Nat → Int
  | 0 => 0
  | k + 1 => getN f o k + f (o + k) * 256 ^ k

set_option maxHeartbeats 1000000 in
theorem putNumber_any (g o k : Nat) (v : Int) (f : Nat → Int) (w : World) (h : Sec w g f) (hk : k ≤ 4) (hf : o + k ≤ 64) :
    Calls Try.prog 90 #[.pointer (some ⟨g, 0, none⟩), .int .i64 o, .int .i64 k, .int .i64 v] w fun e w' => e = .returned (.tuple #[]) ∧ Sec w' g (putN f o k v) ∧ OnlyAt (some ⟨g, 0, none⟩) w w' := by
  have H : Hid (Sec w g f) := h
  clear h
  go_enter Try.func90, Try.ntmps90
  go_wp2
  go_loopw [8, 10] (fun _ i wr => ∃ j : Nat, j ≤ k ∧ i = .int .i64 j ∧ Sec wr g (putN f o j v) ∧ OnlyAt (some ⟨g, 0, none⟩) w wr) (fun _ i _ => k - (intOf i).toNat)
  case atStart => exact ⟨0, Nat.zero_le _, rfl, by rw [putN_zero]; exact H.out, OnlyAt.refl _ _⟩
  case round =>
    obtain ⟨j, hj, rfl, hs, ho⟩ := hrel
    by_cases hlt : j < k
    · have hcell := hs.cell (i := o + j) (by omega)
      have hfz := hs.frozen
      have hgl := hs.lt
      have HS : Hid (Sec wr g (putN f o j v) ∧ OnlyAt (some ⟨g, 0, none⟩) w wr) := ⟨hs, ho⟩
      clear hs ho
      go_wp2
      go_region
      have HX : Hid (Sec (wr.setCell ⟨g, o + j, none⟩ (.int .u8 (v / 2 ^ (8 * j) % 256))).drew g (putN f o (j + 1) v) ∧ OnlyAt (some ⟨g, 0, none⟩) w (wr.setCell ⟨g, o + j, none⟩ (.int .u8 (v / 2 ^ (8 * j) % 256))).drew) := by
        have ho2 := HS.out.2.setCell (o + j) (.int .u8 (v / 2 ^ (8 * j) % 256))
        refine ⟨?_, ⟨ho2.os, ho2.tape, ho2.output, ho2.size, ho2.block⟩⟩
        rw [putN_succ]
        unfold byteAt
        rw [← pow256]
        exact HS.out.1.set (o + j) _
      clear hcell hfz HS
      go_wp2
      go_roundw
      case rel => exact ⟨j + 1, by omega, by go_num, HX.out⟩
      case measure => simp [intOf]; omega
    · have e : j = k := by omega
      subst e
      have HS : Hid (Sec wr g (putN f o j v) ∧ OnlyAt (some ⟨g, 0, none⟩) w wr) := ⟨hs, ho⟩
      clear hs ho
      go_wp2
      go_end0
      exact ⟨rfl, HS.out⟩

theorem ofInt_i64 (a : Nat) (ha : a < 4294967296) : (BitVec.ofInt 64 (a : Int)).toNat = a := by
  rw [BitVec.ofInt_natCast, BitVec.toNat_ofNat]; exact Nat.mod_eq_of_lt (by omega)
theorem i64_or_nat (a b : Nat) (ha : a < 4294967296) (hb : b < 4294967296) : bits .or .i64 (a : Int) (b : Int) = ((a ||| b : Nat) : Int) := by
  have h1 : (a ||| b) < 2 ^ 32 := Nat.or_lt_two_pow (n := 32) ha hb
  show IntKind.i64.wrap ((BitVec.ofInt 64 (a : Int) ||| BitVec.ofInt 64 (b : Int)).toNat : Int) = _
  rw [BitVec.toNat_or, ofInt_i64 a ha, ofInt_i64 b hb, IntKind.wrap_i64]
  omega
theorem nat_add_or (x b j : Nat) (hx : x < 2 ^ (8 * j)) : x ||| b * 2 ^ (8 * j) = x + b * 2 ^ (8 * j) := by
  have h := Nat.shiftLeft_add_eq_or_of_lt hx b
  rw [Nat.shiftLeft_eq] at h
  rw [Nat.or_comm, ← h]
  omega

theorem pow_cases {j : Nat} (h : j < 4) : (j = 0 ∧ (2 : Nat) ^ (8 * j) = 1 ∧ (2 : Int) ^ (8 * j) = 1 ∧ (256 : Int) ^ j = 1) ∨ (j = 1 ∧ (2 : Nat) ^ (8 * j) = 256 ∧ (2 : Int) ^ (8 * j) = 256 ∧ (256 : Int) ^ j = 256) ∨ (j = 2 ∧ (2 : Nat) ^ (8 * j) = 65536 ∧ (2 : Int) ^ (8 * j) = 65536 ∧ (256 : Int) ^ j = 65536) ∨ (j = 3 ∧ (2 : Nat) ^ (8 * j) = 16777216 ∧ (2 : Int) ^ (8 * j) = 16777216 ∧ (256 : Int) ^ j = 16777216) := by
  match j, h with
  | 0, _ => exact Or.inl ⟨rfl, rfl, rfl, rfl⟩
  | 1, _ => exact Or.inr (Or.inl ⟨rfl, rfl, rfl, rfl⟩)
  | 2, _ => exact Or.inr (Or.inr (Or.inl ⟨rfl, rfl, rfl, rfl⟩))
  | 3, _ => exact Or.inr (Or.inr (Or.inr ⟨rfl, rfl, rfl, rfl⟩))

theorem or_add (x b : Int) (j : Nat) (hj : j < 4) (h0 : 0 ≤ x) (h1 : x < 256 ^ j) (h2 : 0 ≤ b) (h3 : b < 256) : bits .or .i64 x (wrap64 (b * 2 ^ (8 * j))) = x + b * 256 ^ j := by
  obtain ⟨X, rfl⟩ := Int.eq_ofNat_of_zero_le h0
  obtain ⟨B, rfl⟩ := Int.eq_ofNat_of_zero_le h2
  have key : ∀ p : Nat, (2 : Nat) ^ (8 * j) = p → (2 : Int) ^ (8 * j) = p → (256 : Int) ^ j = p → p ≤ 16777216 → bits .or .i64 X (wrap64 ((B : Int) * 2 ^ (8 * j))) = (X : Int) + (B : Int) * 256 ^ j := by
    intro p e1 e2 e3 hp
    rw [e2, e3]
    rw [e3] at h1
    have hB : B < 256 := by omega
    have hXp : X < p := by omega
    have hm : B * p ≤ 255 * 16777216 := Nat.mul_le_mul (by omega) hp
    have hw : wrap64 ((B : Int) * (p : Int)) = ((B * p : Nat) : Int) := by
      rw [← Int.natCast_mul]
      unfold wrap64
      omega
    rw [hw, i64_or_nat X (B * p) (by omega) (by omega), ← e1, nat_add_or X B j (by omega)]
    simp
  rcases pow_cases hj with ⟨_, e1, e2, e3⟩ | ⟨_, e1, e2, e3⟩ | ⟨_, e1, e2, e3⟩ | ⟨_, e1, e2, e3⟩
  · exact key 1 e1 e2 e3 (by omega)
  · exact key 256 e1 e2 e3 (by omega)
  · exact key 65536 e1 e2 e3 (by omega)
  · exact key 16777216 e1 e2 e3 (by omega)

theorem getN_range (f : Nat → Int) (o k : Nat) (hr : ∀ i, i < k → 0 ≤ f (o + i) ∧ f (o + i) < 256) : 0 ≤ getN f o k ∧ getN f o k < 256 ^ k := by
  induction k with
  | zero => simp [getN]
  | succ k ih =>
    have h := ih (fun i hi => hr i (by omega))
    have hb := hr k (by omega)
    have hp : (0 : Int) < 256 ^ k := Int.pow_pos (by omega)
    unfold getN
    rw [Int.pow_succ]
    have h1 : 0 ≤ f (o + k) * 256 ^ k := Int.mul_nonneg hb.1 (by omega)
    have h2 : f (o + k) * 256 ^ k ≤ 255 * 256 ^ k := Int.mul_le_mul_of_nonneg_right (by omega) (by omega)
    omega

set_option maxHeartbeats 1000000 in
theorem littleEndian_any (g o n c : Nat) (f : Nat → Int) (w : World) (hc : ∀ j, j < n → w.cell? ⟨g, o + j, none⟩ = some (.int .u8 (f (o + j)))) (hr : ∀ j, j < n → 0 ≤ f (o + j) ∧ f (o + j) < 256) (hn : n ≤ 4) :
    Calls Try.prog 83 #[.slice (some ⟨g, o, none⟩) n c] w fun e w' => e = .returned (.int .i64 (getN f o n)) ∧ w' = w := by
  have H : Hid (∀ j, j < n → w.cell? ⟨g, o + j, none⟩ = some (.int .u8 (f (o + j)))) := hc
  have HR : Hid (∀ j, j < n → 0 ≤ f (o + j) ∧ f (o + j) < 256) := hr
  clear hc hr
  go_enter Try.func83, Try.ntmps83
  go_wp2
  go_loop [3, 4, 5, 8] (fun x _ _ i => ∃ j : Nat, j ≤ n ∧ i = .int .i64 j ∧ x = .int .i64 (getN f o j)) (fun _ _ _ i => n - (intOf i).toNat)
  case atStart => exact ⟨0, Nat.zero_le _, rfl, rfl⟩
  case round =>
    obtain ⟨j, hj, rfl, rfl⟩ := hrel
    by_cases hlt : j < n
    · have hcell := H.out j hlt
      have hb := HR.out j hlt
      have HN : Hid (getN f o (j + 1) = getN f o j + f (o + j) * 256 ^ j) := rfl
      have hx := getN_range f o j (fun i hi => HR.out i (by omega))
      have HO : Hid (bits .or .i64 (getN f o j) (wrap64 (f (o + j) * 2 ^ (8 * j))) = getN f o j + f (o + j) * 256 ^ j) := or_add _ _ j (by omega) hx.1 hx.2 hb.1 hb.2
      clear hx
      generalize getN f o j = x0 at *
      generalize f (o + j) = b0 at *
      go_wp2
      go_round
      case rel => exact ⟨j + 1, by omega, by go_num, by rw [HN.out, HO.out]⟩
      case measure => simp [intOf]; omega
    · have e : j = n := by omega
      subst e
      go_wp2
      go_ret
      exact ⟨rfl, rfl⟩

theorem run_secSlice (g o k : Nat) (ho : o < 64) (hk : o + k ≤ 64) (w : World) : (Instr.sliceAt 87 (.pointer (some ⟨g, 0, none⟩)) (some (.int .i64 (o : Int))) (some (.int .i64 ((o : Int) + (k : Int)))) none).run Try.prog w = .ok (.slice (some ⟨g, o, none⟩) k (64 - o)) w := by
  have h1 : ((o : Int) + (k : Int)).toNat = o + k := by omega
  have h3 : ¬ (64 = o) := by omega
  simp [Instr.sliceAt, go_sem]
  rw [if_pos (by omega), if_pos (by omega), if_neg h3, h1, Nat.add_sub_cancel_left]

set_option maxHeartbeats 1000000 in
theorem number_any (g o k : Nat) (f : Nat → Int) (w : World) (h : Sec w g f) (hr : ∀ i, i < 64 → 0 ≤ f i ∧ f i < 256) (hk : k ≤ 4) (hf : o + k ≤ 64) (ho : o < 64) :
    Calls Try.prog 72 #[.pointer (some ⟨g, 0, none⟩), .int .i64 o, .int .i64 k] w fun e w' => e = .returned (.int .i64 (getN f o k)) ∧ w' = w := by
  have H : Hid (∀ j, j < k → w.cell? ⟨g, o + j, none⟩ = some (.int .u8 (f (o + j)))) := fun j hj => h.cell (by omega)
  have HR : Hid (∀ j, j < k → 0 ≤ f (o + j) ∧ f (o + j) < 256) := fun j hj => hr _ (by omega)
  have hsl := run_secSlice g o k ho hf
  clear h hr
  go_enter Try.func72, Try.ntmps72
  go_wp2_with fail
  refine (littleEndian_any g o k (64 - o) f w H.out HR.out hk).mono ?_
  rintro e w1 ⟨rfl, rfl⟩
  go_wp2
  go_ret
  exact ⟨rfl, rfl⟩
end Go.Proofs.Ytbpcafcipncloaa
