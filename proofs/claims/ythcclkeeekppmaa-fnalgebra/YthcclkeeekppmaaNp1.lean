import Derived.Test.YthcclkeeekppmaaRows
import Derived.Test.YthcclkeeekppmaaOwn
import Derived.WalkKit
import Derived.Deep.Upon
import Derived.Laws.Cover1
import Derived.Maps.AppendAt
import Derived.Handy
import Derived.Deep.CutBlock
namespace Go.Proofs.Ythcclkeeekppmaa
open Go.RowKit Go.Deep
set_option linter.unusedVariables false
set_option maxRecDepth 100000

/-- A slice of strings that can be read. -/
def RdS (w : World) (a : Option Addr) (n : Nat) (X : Nat → ByteArray) : Prop :=
  n = 0 ∨ ∃ b o, a = some ⟨b, o, none⟩ ∧ ∀ i, i < n → w.cell? ⟨b, o + i, none⟩ = some (.string (X i))
/-- A slice of strings in the call's own memory. -/
def OwnS (w : World) (B : Nat) (a : Option Addr) (n : Nat) (X : Nat → ByteArray) : Prop :=
  n = 0 ∨ ∃ g, a = some ⟨g, 0, none⟩ ∧ B ≤ g ∧ rowIn w g 9 n (fun i => .string (X i))
/-- The cells of a row of strings. -/
def strRow (X : Nat → ByteArray) (n : Nat) : List Value := (List.range n).map fun j => .string (X j)
theorem strRow_length (X : Nat → ByteArray) (n : Nat) : (strRow X n).length = n := by simp [strRow]
theorem strRow_get (X : Nat → ByteArray) (n i : Nat) (h : i < n) : (strRow X n)[i]? = some (.string (X i)) := by simp [strRow, h]

section
variable {w w' : World} {B B' : Nat} {a : Option Addr} {n : Nat} {X X' : Nat → ByteArray}
theorem RdS.below (h : RdS w a n X) (hb : Below w.heap.size w w') : RdS w' a n X := by
  rcases h with h | ⟨b, o, rfl, hc⟩
  · exact Or.inl h
  · refine Or.inr ⟨b, o, rfl, fun i hi => ?_⟩
    rw [hb.cell (p := ⟨b, o + i, none⟩) (World.block_lt_of_cell? _ _ (hc i hi))]
    exact hc i hi
theorem RdS.congr (h : RdS w a n X) (e : ∀ i, i < n → X i = X' i) : RdS w a n X' := by
  rcases h with h | ⟨b, o, rfl, hc⟩
  · exact Or.inl h
  · exact Or.inr ⟨b, o, rfl, fun i hi => by rw [hc i hi, e i hi]⟩
theorem OwnS.rd (h : OwnS w B a n X) : RdS w a n X := by
  rcases h with h | ⟨g, rfl, _, hr⟩
  · exact Or.inl h
  · exact Or.inr ⟨g, 0, rfl, fun i hi => by rw [Nat.zero_add]; exact hr.cell hi⟩
theorem OwnS.mono (h : OwnS w B a n X) (hB : B' ≤ B) : OwnS w B' a n X := by
  rcases h with h | ⟨g, rfl, hg, hr⟩
  · exact Or.inl h
  · exact Or.inr ⟨g, rfl, by omega, hr⟩
theorem OwnS.below (h : OwnS w B a n X) (hb : Below w.heap.size w w') : OwnS w' B a n X := by
  rcases h with h | ⟨g, rfl, hg, hr⟩
  · exact Or.inl h
  · exact Or.inr ⟨g, rfl, hg, hr.of_block (hb.block g hr.lt)⟩
theorem OwnS.congr (h : OwnS w B a n X) (e : ∀ i, i < n → X i = X' i) : OwnS w B a n X' := by
  rcases h with h | ⟨g, rfl, hg, hr⟩
  · exact Or.inl h
  · exact Or.inr ⟨g, rfl, hg, hr.congr (fun i hi => by rw [e i hi])⟩
theorem OwnS.setOther (h : OwnS w B a n X) {p : Addr} (hp : p.block < B) (v : Value) : OwnS (w.setCell p v) B a n X := by
  rcases h with h | ⟨g, rfl, hg, hr⟩
  · exact Or.inl h
  · exact Or.inr ⟨g, rfl, hg, hr.of_block (Below.heap_setCell _ _ _ _ (by omega))⟩
theorem ownS_ofRow {v : Value} (h : w.ownsRow B 9 1 v n (strRow X n)) : ∃ a c, v = .slice a n c ∧ OwnS w B a n X ∧ n ≤ c ∧ c ≤ 9223372036854775807 := by
  obtain ⟨_, h⟩ := h
  rcases h with ⟨rfl, rfl⟩ | ⟨g, cap, cur, rfl, hg, hh, h1, h2, h3, h4⟩
  · exact ⟨none, 0, rfl, Or.inl rfl, Nat.le_refl _, by omega⟩
  · unfold maxLen at h2
    refine ⟨_, cap, rfl, Or.inr ⟨g, rfl, hg, cur, hh, by omega, fun i hi => ?_⟩, h1, h2⟩
    rw [← strRow_get X n i hi, ← h4]
    have : i < n * 1 := by omega
    rw [List.getElem?_take, if_pos this]
    simp
end
end Go.Proofs.Ythcclkeeekppmaa

namespace Go.Proofs.Ythcclkeeekppmaa
open Go.RowKit Go.Deep
set_option linter.unusedVariables false
set_option maxRecDepth 100000

theorem infoStr : (Try.prog.info? 9).map (fun i => (i.zero, i.size, i.bytes)) = some (some (.string { data := #[] }), 1, 16) := by kernel_rfl
def gt (l : List ByteArray) (i : Nat) : ByteArray := l.getD i { data := #[] }
/-- The cells of a list of strings. -/
def strL (L : List ByteArray) : List Value := L.map .string
theorem strL_length (L : List ByteArray) : (strL L).length = L.length := by simp [strL]
theorem strL_app (L M : List ByteArray) : strL (L ++ M) = strL L ++ strL M := by simp [strL]
theorem strL_row (L : List ByteArray) : strL L = strRow (gt L) L.length := by
  apply List.ext_getElem?
  intro i
  by_cases h : i < L.length
  · rw [strRow_get _ _ _ h]
    simp [strL, gt, List.getD_eq_getElem?_getD, h]
  · have h1 : (strL L)[i]? = none := List.getElem?_eq_none (by rw [strL_length]; omega)
    have h2 : (strRow (gt L) L.length)[i]? = none := List.getElem?_eq_none (by rw [strRow_length]; omega)
    rw [h1, h2]

/-- Strings that can be read, appended to strings of the call's own. -/
theorem wpList_append_strs {w : World} {ops : Array Oper} {rest : List Oper} {o : Oper} {act : Act} {Q : Exit → Act → World → Prop} (hgd : o.guard = none) (s x : Operand)
    (ho : o.op = .call { callee := .builtin .append, args := #[s, x], argTypes := #[30, 30] })
    (B : Nat) (v : Value) (n : Nat) (xs : List Value) (hs : act.eval s = v) (hown : w.ownsRow B 9 1 v n xs)
    (a : Option Addr) (m c : Nat) (L : List ByteArray) (hx : act.eval x = .slice a m c) (hm : m = L.length) (hrd : RdS w a m (gt L)) (hnm : n + m ≤ 1099511627776) (hB : B ≤ w.heap.size)
    (h : ∀ v' w', w'.ownsRow B 9 1 v' (n + m) (xs ++ strL L) → w.grownBy w' v.ownBlock → (v'.ownBlock = v.ownBlock ∨ v'.ownBlock = some w.heap.size) → wpList Try.prog ops Q rest (act.put o.dst v') w') : wpList Try.prog ops Q (o :: rest) act w := by
  obtain ⟨i0, hi, hz0, hz1, hz2⟩ := info_parts infoStr
  by_cases hm0 : m = 0
  · subst hm0
    have hL : L = [] := List.length_eq_zero_iff.1 hm.symm
    subst hL
    have hsrc : Src Try.prog i0.size 30 (.slice a 0 c) 0 [] w := by
      cases a with
      | none => exact Src.ofNil w Try.underlying30 c
      | some ad => exact Src.ofSlice w Try.underlying30 ad 0 c [] (by simp) (by simp) (by simp)
    have hsh : ∃ b l cap, v = .slice b l cap ∧ l ≤ cap := by
      rcases hown.2 with ⟨rfl, rfl⟩ | ⟨g, cap, cur, rfl, _, _, h1, _⟩
      · exact ⟨none, 0, 0, rfl, Nat.le_refl _⟩
      · exact ⟨_, n, cap, rfl, h1⟩
    obtain ⟨b, l, cap, hvv, hlc⟩ := hsh
    have hrun := run_append_nothing (P := Try.prog) w 30 30 o.type 9 i0 Try.underlying30 hi b l cap hlc (.slice a 0 c) hsrc
    rw [← hvv] at hrun
    refine wpList_plain hgd fun K hK => ?_
    unfold Oper.wp
    simp [execOp, ho, resolve, invoke, builtin, hs, hx, hrun, Result.andThen]
    exact hK _ _ (h v w (by simpa [strL] using hown) ⟨rfl, rfl, rfl, Nat.le_refl _, fun _ _ _ => rfl⟩ (Or.inl rfl))
  · rcases hrd with h0 | ⟨b, off, rfl, hc⟩
    · exact absurd h0 hm0
    · refine wpList_append_own_at w hgd s x 30 ho B 9 i0 (.string { data := #[] }) 1 16 Try.underlying30 hi hz0 hz1 hz2 rfl (by decide) v n xs hs hown ⟨b, off, none⟩ m c (strL L) hx (by rw [strL_length]; omega) (fun j u hj => ?_) (fun u hu => ?_) (by unfold maxLen; omega) (by omega) hB (fun v' w' h1 h2 _ h4 => h v' w' h1 h2 h4)
      · have hjm : j < m := by
          have := (List.getElem?_eq_some_iff.1 hj).1
          rw [strL_length] at this
          omega
        rw [strL_row, ← hm, strRow_get _ _ _ hjm] at hj
        injection hj with hj
        subst hj
        have e : (Addr.add ⟨b, off, none⟩ j) = ⟨b, off + j, none⟩ := by
          unfold Addr.add
          by_cases h : j = 0
          · subst h; simp
          · simp [h]
        rw [e]
        exact hc j hjm
      · simp only [strL, List.mem_map] at hu
        obtain ⟨i, _, rfl⟩ := hu
        rfl

theorem own_empty (W : World) (t : TypeId) (B size : Nat) (hB : B ≤ W.heap.size) : (W.alloc (.cells #[] t)).ownsRow B t size (.slice (some ⟨W.heap.size, 0, none⟩) 0 0) 0 [] :=
  ⟨by simp, Or.inr ⟨W.heap.size, 0, #[], rfl, hB, blk_alloc_new _ _, Nat.le_refl _, Nat.zero_le _, by simp, by simp⟩⟩

theorem ownS_strL {w : World} {B : Nat} {v : Value} {n : Nat} {L : List ByteArray} (h : w.ownsRow B 9 1 v n (strL L)) (hn : n = L.length) : ∃ a c, v = .slice a n c ∧ OwnS w B a L.length (gt L) ∧ n ≤ c ∧ c ≤ 9223372036854775807 := by
  subst hn
  rw [strL_row] at h
  exact ownS_ofRow h

theorem less_irrefl : ∀ l : List UInt8, Op.bytesLess l l = false
  | [] => rfl
  | a :: x => by simp [Op.bytesLess, less_irrefl x]

theorem less_trans : ∀ a b c : List UInt8, Op.bytesLess a b = true → Op.bytesLess b c = true → Op.bytesLess a c = true
  | _, [], _, h, _ => by simp [Op.bytesLess] at h
  | _, _ :: _, [], _, h => by simp [Op.bytesLess] at h
  | [], _ :: _, _ :: _, _, _ => rfl
  | a :: x, b :: y, c :: z, h1, h2 => by
    simp only [Op.bytesLess, Bool.or_eq_true, Bool.and_eq_true, decide_eq_true_eq, beq_iff_eq] at h1 h2 ⊢
    rcases h1 with h1 | ⟨rfl, h1⟩
    · rcases h2 with h2 | ⟨rfl, h2⟩
      · exact .inl (UInt8.lt_trans h1 h2)
      · exact .inl h1
    · rcases h2 with h2 | ⟨rfl, h2⟩
      · exact .inl h2
      · exact .inr ⟨rfl, less_trans x y z h1 h2⟩

/-- 'b <= a' is 'not a < b'. -/
theorem less_total : ∀ a b : List UInt8, (Op.bytesLess b a || b == a) = !Op.bytesLess a b
  | [], [] => rfl
  | [], _ :: _ => rfl
  | _ :: _, [] => rfl
  | a :: x, b :: y => by
    have ih := less_total x y
    simp only [Op.bytesLess]
    by_cases h : a = b
    · subst h
      have e1 : ((a :: y) == (a :: x)) = (y == x) := by simp
      rw [e1]
      simp
      simpa using ih
    · have h' : ¬ b = a := fun e => h e.symm
      have e0 : (a == b) = false := by simp [h]
      have e1 : (b == a) = false := by simp [h']
      have e2 : ((b :: y) == (a :: x)) = false := by simp [h']
      rw [e0, e1, e2]
      simp
      by_cases hl : a < b
      · simp [hl]
        exact UInt8.le_of_lt hl
      · simp [hl]
        have := UInt8.not_lt.1 hl
        exact UInt8.lt_of_le_of_ne this h'


/-- A slice of strings that reads as a list. -/
def RdG (w : World) (a : Option Addr) (L : List ByteArray) : Prop := RdS w a L.length (gt L)
theorem RdG.below {w w' : World} {a : Option Addr} {L : List ByteArray} (h : RdG w a L) (hb : Below w.heap.size w w') : RdG w' a L := RdS.below h hb
theorem gt_get {L : List ByteArray} {i : Nat} (h : i < L.length) : L[i]? = some (gt L i) := by
  unfold gt
  rw [List.getD_eq_getElem?_getD, List.getElem?_eq_getElem h]
  rfl
theorem gt_mem {L : List ByteArray} {i : Nat} (h : i < L.length) : gt L i ∈ L := List.mem_of_getElem? (gt_get h)
theorem mem_gt {L : List ByteArray} {x : ByteArray} (h : x ∈ L) : ∃ i, i < L.length ∧ gt L i = x := by
  obtain ⟨i, hi, e⟩ := List.getElem_of_mem h
  refine ⟨i, hi, ?_⟩
  have := gt_get hi
  rw [List.getElem?_eq_getElem hi, e] at this
  injection this with this
  exact this.symm
theorem RdG.cell {w : World} {a : Option Addr} {L : List ByteArray} (h : RdG w a L) {i : Nat} (hi : i < L.length) : ∃ b o, a = some ⟨b, o, none⟩ ∧ w.cell? ⟨b, o + i, none⟩ = some (.string (gt L i)) := by
  rcases h with h0 | ⟨b, o, e, hc⟩
  · omega
  · exact ⟨b, o, e, hc i hi⟩
/-- Strings that ascend. -/
def Asc (L : List ByteArray) : Prop := L.Pairwise (fun a b => Op.bytesLess a.toList b.toList = true)
theorem str_eq {x y : ByteArray} : (x.toList == y.toList) = true ↔ x = y := by
  rw [beq_iff_eq]
  constructor
  · intro h
    rw [ByteArray.toList_eq, ByteArray.toList_eq] at h
    cases x; cases y
    simp at h
    rw [h]
  · intro h; rw [h]
theorem less_ne {x y : ByteArray} (h : Op.bytesLess x.toList y.toList = true) : x ≠ y := by
  intro e
  subst e
  rw [less_irrefl] at h
  cases h
theorem less_or {x y : ByteArray} (h : Op.bytesLess x.toList y.toList = false) (hn : x ≠ y) : Op.bytesLess y.toList x.toList = true := by
  have := less_total x.toList y.toList
  rw [h] at this
  have e : (y.toList == x.toList) = false := by
    cases hb : (y.toList == x.toList) with
    | false => rfl
    | true => exact absurd (str_eq.1 hb).symm hn
  rw [e] at this
  simpa using this
/-- Two lists that ascend and have the same members are one. -/
theorem asc_ext : ∀ {L M : List ByteArray}, Asc L → Asc M → (∀ x, x ∈ L ↔ x ∈ M) → L = M
  | [], [], _, _, _ => rfl
  | [], y :: M, _, _, h => by have := (h y).2 (by simp); cases this
  | x :: L, [], _, _, h => by have := (h x).1 (by simp); cases this
  | x :: L, y :: M, h1, h2, h => by
    have a1 := List.pairwise_cons.1 h1
    have a2 := List.pairwise_cons.1 h2
    have e : x = y := by
      rcases List.mem_cons.1 ((h x).1 (by simp)) with q | q
      · exact q
      · rcases List.mem_cons.1 ((h y).2 (by simp)) with r | r
        · exact r.symm
        · have l1 := a2.1 x q
          have l2 := a1.1 y r
          have := less_trans _ _ _ l1 l2
          rw [less_irrefl] at this
          cases this
    subst e
    congr 1
    refine asc_ext a1.2 a2.2 (fun z => ?_)
    constructor
    · intro hz
      rcases List.mem_cons.1 ((h z).1 (List.mem_cons_of_mem _ hz)) with q | q
      · exact absurd q.symm (less_ne (a1.1 z hz))
      · exact q
    · intro hz
      rcases List.mem_cons.1 ((h z).2 (List.mem_cons_of_mem _ hz)) with q | q
      · exact absurd q.symm (less_ne (a2.1 z hz))
      · exact q

set_option maxHeartbeats 1000000 in
theorem l6In_any (a : Option Addr) (c : Nat) (L : List ByteArray) (key : ByteArray) (w : World) (h : RdG w a L) (hn : L.length ≤ 1048576) :
    Calls Try.prog 72 #[.slice a L.length c, .string key] w fun e w' => ∃ b : Bool, e = .returned (.bool b) ∧ (b = true ↔ key ∈ L) ∧ w' = w := by
  have HR : Hid (RdG w a L) := h
  obtain ⟨n, hnn⟩ : ∃ n, n = L.length := ⟨_, rfl⟩
  rw [← hnn] at hn ⊢
  have HN : Hid (n = L.length) := hnn
  clear h hnn
  go_enter Try.func72, Try.ntmps72
  go_wp2
  go_loopw [5] (fun i wr => ∃ k : Nat, k ≤ n ∧ i = .int .i64 k ∧ (∀ j, j < k → gt L j ≠ key) ∧ wr = w) (fun i _ => n - (intOf i).toNat)
  case atStart => exact ⟨0, Nat.zero_le _, rfl, fun j hj => absurd hj (Nat.not_lt_zero _), rfl⟩
  case round =>
    obtain ⟨k, hk, rfl, hall, rfl⟩ := hrel
    have HS : Hid (∀ j, j < k → gt L j ≠ key) := hall
    clear hall
    by_cases hlt : k < n
    · obtain ⟨b, o, rfl, s1⟩ := HR.out.cell (i := k) (by rw [← HN.out]; exact hlt)
      have i0 : (0 : Int) ≤ (k : Int) := by omega
      have i1 : (k : Int) < (n : Int) := by omega
      by_cases heq : gt L k = key
      · have hb : ((gt L k).toList == key.toList) = true := str_eq.2 heq
        have HM : Hid (key ∈ L) := by rw [← heq]; exact gt_mem (by rw [← HN.out]; exact hlt)
        clear heq
        go_wp2
        go_ret
        exact ⟨true, rfl, ⟨fun _ => HM.out, fun _ => rfl⟩, rfl⟩
      · have hb : ((gt L k).toList == key.toList) = false := by
          cases hq : ((gt L k).toList == key.toList) with
          | false => rfl
          | true => exact absurd (str_eq.1 hq) heq
        have HX : Hid (∀ j, j < k + 1 → gt L j ≠ key) := fun j hj => by
          by_cases e : j = k
          · rw [e]; exact heq
          · exact HS.out j (by omega)
        clear heq
        go_wp2
        go_roundw
        case rel => exact ⟨k + 1, by omega, by go_num, HX.out, by first | rfl | trivial⟩
        case measure => simp [intOf]; omega
    · have e : k = n := by omega
      subst e
      have HM : Hid (¬ key ∈ L) := fun hm => by
        obtain ⟨i, hi, e⟩ := mem_gt hm
        exact HS.out i (by rw [HN.out]; exact hi) e
      go_wp2
      go_ret
      exact ⟨false, rfl, ⟨(fun q => by cases q), fun q => absurd q HM.out⟩, rfl⟩
end Go.Proofs.Ythcclkeeekppmaa

namespace Go.Proofs.Ythcclkeeekppmaa
open Go.RowKit Go.Deep
set_option linter.unusedVariables false
set_option maxRecDepth 100000

theorem addrS (b o k : Nat) : Addr.add ⟨b, o, none⟩ k = ⟨b, o + k, none⟩ := by
  unfold Addr.add
  by_cases h : k = 0
  · subst h; simp
  · simp [h]
theorem fromS (a : Option Addr) (n c lo : Nat) (h1 : lo ≤ n) (h2 : n ≤ c) (w : World) : (Instr.sliceAt 30 (.slice a n c) (some (.int .i64 (lo : Int))) none none).run Try.prog w = .ok (.slice (if c = lo then a else a.map fun x => x.add lo) (n - lo) (c - lo)) w := by
  simp [Instr.sliceAt, Instr.slice, go_sem]
  intro h
  omega
theorem uptoS (a : Option Addr) (n c hi : Nat) (h1 : hi ≤ n) (h2 : n ≤ c) (w : World) : (Instr.sliceAt 30 (.slice a n c) none (some (.int .i64 (hi : Int))) none).run Try.prog w = .ok (.slice a hi c) w := by
  have hc : hi ≤ c := by omega
  cases a <;> simp [Instr.sliceAt, Instr.slice, go_sem, hc]
theorem own_lt {w : World} {base : Nat} {e : TypeId} {size : Nat} {v : Value} {n : Nat} {xs : List Value} (h : w.ownsRow base e size v n xs) : ∀ g, v.ownBlock = some g → base ≤ g ∧ g < w.heap.size := by
  intro g hg
  rcases h.2 with ⟨rfl, _⟩ | ⟨g', cap, cur, rfl, hb, hh, _⟩
  · simp [Value.ownBlock] at hg
  · simp [Value.ownBlock] at hg
    subst hg
    exact ⟨hb, (Array.getElem?_eq_some_iff.1 hh).1⟩
theorem own_below {w w' : World} {base : Nat} {e : TypeId} {size : Nat} {v : Value} {n : Nat} {xs : List Value} (h : w.ownsRow base e size v n xs) (hb : Below w.heap.size w w') : w'.ownsRow base e size v n xs :=
  h.kept (w' := w') (row := none) ⟨hb.os, hb.tape, hb.output, hb.size, fun k hk _ => hb.block k hk⟩ (by cases hv : v.ownBlock <;> simp)
theorem own_shape {w : World} {base : Nat} {e : TypeId} {size : Nat} {v : Value} {n : Nat} {xs : List Value} (h : w.ownsRow base e size v n xs) : ∃ a c, v = .slice a n c := by
  rcases h.2 with ⟨rfl, rfl⟩ | ⟨g', cap, cur, rfl, _⟩
  · exact ⟨none, 0, rfl⟩
  · exact ⟨_, _, rfl⟩
theorem RdG.take {w : World} {a : Option Addr} {L : List ByteArray} (h : RdG w a L) (k : Nat) (hk : k ≤ L.length) : RdS w a k (gt (L.take k)) := by
  rcases h with h0 | ⟨b, o, e, hc⟩
  · exact .inl (by omega)
  · refine .inr ⟨b, o, e, fun i hi => ?_⟩
    rw [hc i (by omega)]
    congr 2
    unfold gt
    rw [List.getD_eq_getElem?_getD, List.getD_eq_getElem?_getD, List.getElem?_take, if_pos hi]
theorem RdG.drop {w : World} {a : Option Addr} {L : List ByteArray} (h : RdG w a L) (k c : Nat) (hk : k ≤ L.length) (hc : L.length ≤ c) : RdS w (if c = k then a else a.map fun x => x.add k) (L.length - k) (gt (L.drop k)) := by
  by_cases hz : L.length = k
  · exact .inl (by omega)
  rcases h with h0 | ⟨b, o, rfl, hcc⟩
  · exact .inl (by omega)
  · refine .inr ⟨b, o + k, by rw [if_neg (by omega)]; simp [addrS], fun i hi => ?_⟩
    rw [Nat.add_assoc, hcc (k + i) (by omega)]
    congr 2
    unfold gt
    rw [List.getD_eq_getElem?_getD, List.getD_eq_getElem?_getD, List.getElem?_drop]

/-- A list of strings handed back: it ascends, and these are its members. -/
def RetM (w : World) (m : Nat) (P : ByteArray → Prop) (e : Ending) (w' : World) : Prop :=
  ∃ (a : Option Addr) (c : Nat) (L : List ByteArray), e = .returned (.slice a L.length c) ∧ RdG w' a L ∧ Asc L ∧ (∀ x, x ∈ L ↔ P x) ∧ L.length ≤ m ∧ L.length ≤ c ∧ c ≤ 9223372036854775807 ∧ Below w.heap.size w w'
theorem asc_ins {L : List ByteArray} {t : ByteArray} {k : Nat} (h : Asc L) (hk : k ≤ L.length) (h1 : ∀ j, j < k → Op.bytesLess (gt L j).toList t.toList = true) (h2 : k < L.length → Op.bytesLess (gt L k).toList t.toList = false) (hn : ¬ t ∈ L) : Asc (L.take k ++ t :: L.drop k) := by
  have hd := h
  rw [← List.take_append_drop k L] at hd
  unfold Asc at hd ⊢
  rw [List.pairwise_append] at hd ⊢
  have hlow : ∀ x, x ∈ L.take k → Op.bytesLess x.toList t.toList = true := fun x hx => by
    obtain ⟨j, hj, e⟩ := List.getElem_of_mem hx
    rw [List.length_take] at hj
    rw [List.getElem_take] at e
    have := h1 j (by omega)
    unfold gt at this
    rw [List.getD_eq_getElem?_getD, List.getElem?_eq_getElem (by omega)] at this
    rw [← e]
    exact this
  have hhigh : ∀ y, y ∈ L.drop k → Op.bytesLess t.toList y.toList = true := fun y hy => by
    obtain ⟨j, hj, e⟩ := List.getElem_of_mem hy
    rw [List.length_drop] at hj
    have q := h2 (by omega)
    have g1 : gt L k ≠ t := fun e => hn (by rw [← e]; exact gt_mem (by omega))
    have l1 := less_or q g1
    rw [List.getElem_drop] at e
    by_cases ej : j = 0
    · subst ej
      rw [← e]
      unfold gt at l1
      rw [List.getD_eq_getElem?_getD, List.getElem?_eq_getElem (by omega)] at l1
      exact l1
    · have l2 := (List.pairwise_iff_getElem.1 h) k (k + j) (by omega) (by omega) (by omega)
      unfold gt at l1
      rw [List.getD_eq_getElem?_getD, List.getElem?_eq_getElem (by omega)] at l1
      rw [← e]
      exact less_trans _ _ _ l1 l2
  refine ⟨hd.1, List.pairwise_cons.2 ⟨hhigh, hd.2.1⟩, fun x hx y hy => ?_⟩
  rcases List.mem_cons.1 hy with rfl | hy
  · exact hlow x hx
  · exact less_trans _ _ _ (hlow x hx) (hhigh y hy)

set_option maxHeartbeats 2000000 in
theorem l6Add_any (a : Option Addr) (c : Nat) (L : List ByteArray) (t : ByteArray) (w : World) (h : RdG w a L) (hA : Asc L) (hn : L.length ≤ 1048576) (hc : L.length ≤ c) (hcm : c ≤ 9223372036854775807) :
    Calls Try.prog 73 #[.slice a L.length c, .string t] w (RetM w (L.length + 1) (fun x => x ∈ L ∨ x = t)) := by
  have HR : Hid (RdG w a L ∧ Asc L) := ⟨h, hA⟩
  obtain ⟨n, hnn⟩ : ∃ n, n = L.length := ⟨_, rfl⟩
  have HIn : Hid (Calls Try.prog 72 #[.slice a n c, .string t] w fun e w' => ∃ b : Bool, e = .returned (.bool b) ∧ (b = true ↔ t ∈ L) ∧ w' = w) := by rw [hnn]; exact l6In_any a c L t w h hn
  rw [← hnn] at hn hc ⊢
  have HN : Hid (n = L.length) := hnn
  clear h hA hnn
  go_enter Try.func73, Try.ntmps73
  go_wp2_with fail
  refine HIn.out.mono ?_
  rintro e w1 ⟨b, rfl, hb, hw1⟩
  subst hw1
  cases b with
  | true =>
    have HM : Hid (t ∈ L) := hb.1 rfl
    have HF : Hid (RetM w1 (n + 1) (fun x => x ∈ L ∨ x = t) (.returned (.slice a n c)) w1) := by
      refine ⟨a, c, L, by rw [HN.out], HR.out.1, HR.out.2, fun x => ⟨fun q => .inl q, fun q => ?_⟩, by have := HN.out; omega, by rw [← HN.out]; exact hc, hcm, Below.refl _ _⟩
      rcases q with q | q
      · exact q
      · rw [q]; exact HM.out
    clear hb
    go_wp2
    go_ret
    exact HF.out
  | false =>
    have HM : Hid (¬ t ∈ L) := fun q => by have := hb.2 q; cases this
    clear hb HIn
    go_wp2
    go_loopw [5] (fun i wr => ∃ k : Nat, k ≤ n ∧ i = .int .i64 k ∧ (∀ j, j < k → Op.bytesLess (gt L j).toList t.toList = true) ∧ wr = w1) (fun i _ => n - (intOf i).toNat)
    case atStart => exact ⟨0, Nat.zero_le _, rfl, fun j hj => absurd hj (Nat.not_lt_zero _), rfl⟩
    case round =>
      obtain ⟨k, hk, rfl, hall, rfl⟩ := hrel
      have HS : Hid (∀ j, j < k → Op.bytesLess (gt L j).toList t.toList = true) := hall
      clear hall
      have hEnd : (k < n → Op.bytesLess (gt L k).toList t.toList = false) → Asc (L.take k ++ t :: L.drop k) := fun h2 => asc_ins HR.out.2 (by rw [← HN.out]; exact hk) HS.out (by rw [← HN.out]; exact h2) HM.out
      have HEnd : Hid ((k < n → Op.bytesLess (gt L k).toList t.toList = false) → Asc (L.take k ++ t :: L.drop k)) := hEnd
      clear hEnd
      have hup : ∀ W : World, (Instr.sliceAt 30 (.slice a n c) none (some (.int .i64 (k : Int))) none).run Try.prog W = .ok (.slice a k c) W := fun W => uptoS a n c k hk hc W
      obtain ⟨ra, hra⟩ : ∃ ra : Option Addr, ra = (if c = k then a else a.map fun x => x.add k) := ⟨_, rfl⟩
      have hfr : ∀ W : World, (Instr.sliceAt 30 (.slice a n c) (some (.int .i64 (k : Int))) none none).run Try.prog W = .ok (.slice ra (n - k) (c - k)) W := fun W => by rw [hra]; exact fromS a n c k hk hc W
      have HRA : Hid (∀ W, Below wr.heap.size wr W → RdS W ra (n - k) (gt (L.drop k)) ∧ RdS W a k (gt (L.take k))) := fun W hW => by
        have q := HR.out.1.below hW
        have hkl : k ≤ L.length := by rw [← HN.out]; exact hk
        refine ⟨?_, q.take k hkl⟩
        rw [hra, HN.out]
        exact q.drop k c hkl (by rw [← HN.out]; exact hc)
      clear hra
      have HIF : Hid (Try.prog.info? 9 = some (Classical.choose (Option.map_eq_some_iff.1 infoStr))) := (Classical.choose_spec (Option.map_eq_some_iff.1 infoStr)).1
      have HBODY : Hid (Asc (L.take k ++ t :: L.drop k) → ∀ (v3 : Value) (w3 : World), w3.ownsRow wr.heap.size 9 1 v3 (k + 1 + (n - k)) (strL (L.take k ++ t :: L.drop k)) → Below wr.heap.size wr w3 → RetM wr (n + 1) (fun x => x ∈ L ∨ x = t) (.returned v3) w3) := fun hA v3 w3 ho hb => by
        have hlen : k + 1 + (n - k) = (L.take k ++ t :: L.drop k).length := by rw [List.length_append, List.length_cons, List.length_take, List.length_drop, ← HN.out]; omega
        obtain ⟨a3, c3, rfl, h1, h2, h3⟩ := ownS_strL ho hlen
        refine ⟨a3, c3, _, by rw [hlen], h1.rd, hA, fun x => ?_, by rw [← hlen]; omega, by rw [← hlen]; exact h2, h3, hb⟩
        rw [List.mem_append, List.mem_cons]
        constructor
        · rintro (q | q | q)
          · exact .inl (List.mem_of_mem_take q)
          · exact .inr q
          · exact .inl (List.mem_of_mem_drop q)
        · rintro (q | q)
          · rw [← List.take_append_drop k L, List.mem_append] at q
            rcases q with q | q
            · exact .inl q
            · exact .inr (.inr q)
          · exact .inr (.inl q)
      have tail : True := trivial
      by_cases hlt : k < n
      · obtain ⟨bb, o, rfl, s1⟩ := HR.out.1.cell (i := k) (by rw [← HN.out]; exact hlt)
        have i0 : (0 : Int) ≤ (k : Int) := by omega
        have i1 : (k : Int) < (n : Int) := by omega
        cases hcmp : Op.bytesLess (gt L k).toList t.toList with
        | true =>
          have HX : Hid (∀ j, j < k + 1 → Op.bytesLess (gt L j).toList t.toList = true) := fun j hj => by
            by_cases e : j = k
            · rw [e]; exact hcmp
            · exact HS.out j (by omega)
          clear hup hfr
          go_wp2
          go_roundw
          case rel => exact ⟨k + 1, by omega, by go_num, HX.out, by first | rfl | trivial⟩
          case measure => simp [intOf]; omega
        | false =>
          have HA := HEnd.out (fun _ => hcmp)
          have HB9 : Hid (∀ (v3 : Value) (w3 : World), w3.ownsRow wr.heap.size 9 1 v3 (k + 1 + (n - k)) (strL (L.take k ++ t :: L.drop k)) → Below wr.heap.size wr w3 → RetM wr (n + 1) (fun x => x ∈ L ∨ x = t) (.returned v3) w3) := HBODY.out HA
          clear HA HBODY HEnd
          go_wp2_with (at_builtin; refine wpList_append_strs rfl _ _ rfl wr.heap.size (.slice (some ⟨wr.heap.size, 0, none⟩) 0 0) 0 [] rfl (own_empty wr 9 wr.heap.size 1 (Nat.le_refl _)) (some ⟨bb, o, none⟩) k c (L.take k) rfl (by rw [List.length_take, ← HN.out]; omega) (HRA.out _ (below_alloc _ _)).2 (by omega) (by simp) ?_)
          intro v1 w2 ho1 hg1 _
          have H1 : Hid (w2.ownsRow wr.heap.size 9 1 v1 k (strL (L.take k)) ∧ Below wr.heap.size wr w2) := ⟨by simpa using ho1, (below_alloc _ _).grown hg1 (by simp) (fun g e => by simp [Value.ownBlock] at e; omega)⟩
          clear ho1 hg1
          obtain ⟨va, vc, rfl⟩ := own_shape H1.out.1
          have z2 := H1.out.2.size
          obtain ⟨i0, hi, hz0, hz1, hz2⟩ := info_parts infoStr
          have HI : Hid (Try.prog.info? 9 = some i0 ∧ i0.zero = some (.string { data := #[] }) ∧ i0.size = 1 ∧ i0.bytes = 16) := ⟨hi, hz0, hz1, hz2⟩
          clear hi hz0 hz1 hz2
          have H1a : Hid ((w2.alloc (.cells #[.string t] 9)).ownsRow wr.heap.size 9 1 (.slice va k vc) k (strL (L.take k))) := own_below H1.out.1 (below_alloc _ _)
          go_wp2_with (at_builtin; refine wpList_append_own_at _ rfl _ _ 30 rfl wr.heap.size 9 i0 (.string { data := #[] }) 1 16 Try.underlying30 HI.out.1 HI.out.2.1 HI.out.2.2.1 HI.out.2.2.2 rfl (by decide) (.slice va k vc) k _ rfl H1a.out ⟨w2.heap.size, 0, none⟩ 1 1 [.string t] rfl rfl (cell_one_new _ _ _) (by intro u hu; simp at hu; subst hu; rfl) (by unfold maxLen; omega) (by omega) (by simp; omega) ?_)
          intro v2 w3 ho2 hg2 _ _
          have H2 : Hid (w3.ownsRow wr.heap.size 9 1 v2 (k + 1) (strL (L.take k ++ [t])) ∧ Below wr.heap.size wr w3) := ⟨by rw [strL_app]; exact ho2, (H1.out.2.alloc z2 _).grown hg2 (by simp; omega) (fun g e => (own_lt H1.out.1 g e).1)⟩
          clear ho2 hg2 H1 H1a HI
          obtain ⟨vb, vd, rfl⟩ := own_shape H2.out.1
          have z3 := H2.out.2.size
          go_wp2_with (at_builtin; refine wpList_append_strs rfl _ _ rfl wr.heap.size (.slice vb (k + 1) vd) (k + 1) _ rfl H2.out.1 ra (n - k) (c - k) (L.drop k) rfl (by rw [List.length_drop, ← HN.out]) (HRA.out _ H2.out.2).1 (by omega) z3 ?_)
          intro v3 w4 ho3 hg3 _
          have H3 : Hid (RetM wr (n + 1) (fun x => x ∈ L ∨ x = t) (.returned v3) w4) := HB9.out v3 w4 (by rw [← strL_app] at ho3; simpa using ho3) (H2.out.2.grown hg3 z3 (fun g e => (own_lt H2.out.1 g e).1))
          clear ho3 hg3 H2
          go_wp2
          go_ret
          exact H3.out
      · have i1 : ¬ (k : Int) < (n : Int) := by omega
        have HA := HEnd.out (fun q => absurd q hlt)
        have HB9 : Hid (∀ (v3 : Value) (w3 : World), w3.ownsRow wr.heap.size 9 1 v3 (k + 1 + (n - k)) (strL (L.take k ++ t :: L.drop k)) → Below wr.heap.size wr w3 → RetM wr (n + 1) (fun x => x ∈ L ∨ x = t) (.returned v3) w3) := HBODY.out HA
        clear HA HBODY HEnd
        go_wp2_with (at_builtin; refine wpList_append_strs rfl _ _ rfl wr.heap.size (.slice (some ⟨wr.heap.size, 0, none⟩) 0 0) 0 [] rfl (own_empty wr 9 wr.heap.size 1 (Nat.le_refl _)) a k c (L.take k) rfl (by rw [List.length_take, ← HN.out]; omega) (HRA.out _ (below_alloc _ _)).2 (by omega) (by simp) ?_)
        intro v1 w2 ho1 hg1 _
        have H1 : Hid (w2.ownsRow wr.heap.size 9 1 v1 k (strL (L.take k)) ∧ Below wr.heap.size wr w2) := ⟨by simpa using ho1, (below_alloc _ _).grown hg1 (by simp) (fun g e => by simp [Value.ownBlock] at e; omega)⟩
        clear ho1 hg1
        obtain ⟨va, vc, rfl⟩ := own_shape H1.out.1
        have z2 := H1.out.2.size
        obtain ⟨i0, hi, hz0, hz1, hz2⟩ := info_parts infoStr
        have HI : Hid (Try.prog.info? 9 = some i0 ∧ i0.zero = some (.string { data := #[] }) ∧ i0.size = 1 ∧ i0.bytes = 16) := ⟨hi, hz0, hz1, hz2⟩
        clear hi hz0 hz1 hz2
        have H1a : Hid ((w2.alloc (.cells #[.string t] 9)).ownsRow wr.heap.size 9 1 (.slice va k vc) k (strL (L.take k))) := own_below H1.out.1 (below_alloc _ _)
        go_wp2_with (at_builtin; refine wpList_append_own_at _ rfl _ _ 30 rfl wr.heap.size 9 i0 (.string { data := #[] }) 1 16 Try.underlying30 HI.out.1 HI.out.2.1 HI.out.2.2.1 HI.out.2.2.2 rfl (by decide) (.slice va k vc) k _ rfl H1a.out ⟨w2.heap.size, 0, none⟩ 1 1 [.string t] rfl rfl (cell_one_new _ _ _) (by intro u hu; simp at hu; subst hu; rfl) (by unfold maxLen; omega) (by omega) (by simp; omega) ?_)
        intro v2 w3 ho2 hg2 _ _
        have H2 : Hid (w3.ownsRow wr.heap.size 9 1 v2 (k + 1) (strL (L.take k ++ [t])) ∧ Below wr.heap.size wr w3) := ⟨by rw [strL_app]; exact ho2, (H1.out.2.alloc z2 _).grown hg2 (by simp; omega) (fun g e => (own_lt H1.out.1 g e).1)⟩
        clear ho2 hg2 H1 H1a HI
        obtain ⟨vb, vd, rfl⟩ := own_shape H2.out.1
        have z3 := H2.out.2.size
        go_wp2_with (at_builtin; refine wpList_append_strs rfl _ _ rfl wr.heap.size (.slice vb (k + 1) vd) (k + 1) _ rfl H2.out.1 ra (n - k) (c - k) (L.drop k) rfl (by rw [List.length_drop, ← HN.out]) (HRA.out _ H2.out.2).1 (by omega) z3 ?_)
        intro v3 w4 ho3 hg3 _
        have H3 : Hid (RetM wr (n + 1) (fun x => x ∈ L ∨ x = t) (.returned v3) w4) := HB9.out v3 w4 (by rw [← strL_app] at ho3; simpa using ho3) (H2.out.2.grown hg3 z3 (fun g e => (own_lt H2.out.1 g e).1))
        clear ho3 hg3 H2
        go_wp2
        go_ret
        exact H3.out
end Go.Proofs.Ythcclkeeekppmaa
