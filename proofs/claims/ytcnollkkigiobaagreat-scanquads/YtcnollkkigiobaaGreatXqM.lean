import Derived.Test.YtcnollkkigiobaaGreatTrK
import Derived.Test.YtcnollkkigiobaaGreatTrB
namespace Go.Proofs.YtcnollkkigiobaaGreat
open Go.RowKit Go.Deep
set_option linter.unusedVariables false
set_option maxRecDepth 100000

/-- Byte i of a key. -/
def kb (k : ByteArray) (i : Nat) : Int := match k[i]? with
  | some b => (b.toNat : Int)
  | none => 0
theorem kb_get {k : ByteArray} {i : Nat} (h : i < k.size) : ∃ b : UInt8, k[i]? = some b ∧ kb k i = (b.toNat : Int) := by
  have e : k[i]? = some k[i] := getElem?_pos k i h
  exact ⟨k[i], e, by unfold kb; rw [e]⟩
theorem kb_range (k : ByteArray) (i : Nat) : 0 ≤ kb k i ∧ kb k i < 256 := by
  unfold kb
  split
  · rename_i b _
    have := b.toNat_lt
    omega
  · omega
/-- The first n of the four bytes of part i, as a number. -/
def pkn (k : ByteArray) (i : Nat) : Nat → Int
  | 0 => 0
  | n + 1 => 256 * pkn k i n + kb k (4 * i + n)
/-- Part i of a key. -/
def pk (k : ByteArray) (i : Nat) : Int := pkn k i 4
theorem pkn_range (k : ByteArray) (i : Nat) : ∀ n, n ≤ 4 → 0 ≤ pkn k i n ∧ pkn k i n < 4294967296 := by
  intro n hn
  have h0 : pkn k i 0 = 0 := rfl
  have h1 : pkn k i 1 = 256 * pkn k i 0 + kb k (4 * i + 0) := rfl
  have h2 : pkn k i 2 = 256 * pkn k i 1 + kb k (4 * i + 1) := rfl
  have h3 : pkn k i 3 = 256 * pkn k i 2 + kb k (4 * i + 2) := rfl
  have h4 : pkn k i 4 = 256 * pkn k i 3 + kb k (4 * i + 3) := rfl
  have b0 := kb_range k (4 * i + 0)
  have b1 := kb_range k (4 * i + 1)
  have b2 := kb_range k (4 * i + 2)
  have b3 := kb_range k (4 * i + 3)
  rcases (show n = 0 ∨ n = 1 ∨ n = 2 ∨ n = 3 ∨ n = 4 by omega) with rfl | rfl | rfl | rfl | rfl <;> omega

/-- A quad. -/
structure Qd where
  s : Int
  p : Int
  o : Int
  g : Int
def qv (q : Qd) : Value := .agg #[.int .i64 q.s, .int .i64 q.p, .int .i64 q.o, .int .i64 q.g]
/-- Where the parts of a key go: 0 S, 1 P, 2 O, 3 G. -/
def ordF (perm i : Nat) : Nat :=
  match perm, i with
  | 0, i => i
  | 1, 0 => 1 | 1, 1 => 2 | 1, 2 => 0 | 1, _ => 3
  | 2, 0 => 2 | 2, 1 => 0 | 2, 2 => 1 | 2, _ => 3
  | 3, 0 => 3 | 3, 1 => 0 | 3, 2 => 1 | 3, _ => 2
  | 4, 0 => 3 | 4, 1 => 1 | 4, 2 => 2 | 4, _ => 0
  | _, 0 => 3 | _, 1 => 2 | _, 2 => 0 | _, _ => 1
/-- Where part s of a quad stands in the key. -/
def posF (perm s : Nat) : Nat :=
  match perm, s with
  | 0, s => s
  | 1, 0 => 2 | 1, 1 => 0 | 1, 2 => 1 | 1, _ => 3
  | 2, 0 => 1 | 2, 1 => 2 | 2, 2 => 0 | 2, _ => 3
  | 3, 0 => 1 | 3, 1 => 2 | 3, 2 => 3 | 3, _ => 0
  | 4, 0 => 3 | 4, 1 => 1 | 4, 2 => 2 | 4, _ => 0
  | _, 0 => 2 | _, 1 => 3 | _, 2 => 1 | _, _ => 0
/-- The quad of a key. -/
def quadOf (perm : Nat) (k : ByteArray) : Qd := ⟨pk k (posF perm 0), pk k (posF perm 1), pk k (posF perm 2), pk k (posF perm 3)⟩
/-- Part s once the first i parts of the key were taken. -/
def ptF (perm : Nat) (k : ByteArray) (i s : Nat) : Int := if posF perm s < i then pk k (posF perm s) else 0
theorem ptF_zero (perm : Nat) (k : ByteArray) (s : Nat) : ptF perm k 0 s = 0 := rfl
theorem ptF_succ (perm : Nat) (hp : perm < 6) (k : ByteArray) (i : Nat) (hi : i < 4) : ∀ s, s < 4 → ptF perm k (i + 1) s = if s = ordF perm i then pk k i else ptF perm k i s := by
  intro s hs
  rcases (show perm = 0 ∨ perm = 1 ∨ perm = 2 ∨ perm = 3 ∨ perm = 4 ∨ perm = 5 by omega) with rfl | rfl | rfl | rfl | rfl | rfl <;>
  rcases (show i = 0 ∨ i = 1 ∨ i = 2 ∨ i = 3 by omega) with rfl | rfl | rfl | rfl <;>
  rcases (show s = 0 ∨ s = 1 ∨ s = 2 ∨ s = 3 by omega) with rfl | rfl | rfl | rfl <;> rfl
theorem ptF_all (perm : Nat) (hp : perm < 6) (k : ByteArray) (s : Nat) (hs : s < 4) : ptF perm k 4 s = pk k (posF perm s) := by
  have : posF perm s < 4 := by
    rcases (show perm = 0 ∨ perm = 1 ∨ perm = 2 ∨ perm = 3 ∨ perm = 4 ∨ perm = 5 by omega) with rfl | rfl | rfl | rfl | rfl | rfl <;>
    rcases (show s = 0 ∨ s = 1 ∨ s = 2 ∨ s = 3 by omega) with rfl | rfl | rfl | rfl <;> decide
  unfold ptF
  rw [if_pos this]
theorem ordF_lt (perm : Nat) (hp : perm < 6) (i : Nat) (hi : i < 4) : ordF perm i < 4 := by
  rcases (show perm = 0 ∨ perm = 1 ∨ perm = 2 ∨ perm = 3 ∨ perm = 4 ∨ perm = 5 by omega) with rfl | rfl | rfl | rfl | rfl | rfl <;>
  rcases (show i = 0 ∨ i = 1 ∨ i = 2 ∨ i = 3 by omega) with rfl | rfl | rfl | rfl <;> decide

/-- A good part of a quad. -/
def numB (x : Int) : Bool := decide (1 ≤ x) && decide (x ≤ 2000000000)
def quadB (q : Qd) : Bool := numB q.s && numB q.p && numB q.o && numB q.g

set_option maxHeartbeats 1000000 in
theorem l5Order_any (perm : Nat) (hp : perm < 6) (w : World) : Calls Tryz.prog 64 #[.int .i64 (perm : Int)] w fun e w' => e = .returned (.slice (some ⟨w.heap.size, 0, none⟩) 4 4) ∧ w' = w.alloc (.cells #[.int .i64 (ordF perm 0 : Int), .int .i64 (ordF perm 1 : Int), .int .i64 (ordF perm 2 : Int), .int .i64 (ordF perm 3 : Int)] 3) := by
  rcases (show perm = 0 ∨ perm = 1 ∨ perm = 2 ∨ perm = 3 ∨ perm = 4 ∨ perm = 5 by omega) with rfl | rfl | rfl | rfl | rfl | rfl
  all_goals
    go_enter Tryz.func64, Tryz.ntmps64
    go_wp2
    go_ret
    exact ⟨rfl, rfl⟩

set_option maxHeartbeats 1000000 in
theorem l2Number_any (x : Int) (w : World) : Calls Tryz.prog 76 #[.int .i64 x] w fun e w' => e = .returned (.bool (numB x)) ∧ w' = w := by
  by_cases h1 : 1 ≤ x
  · have h1d : decide (1 ≤ x) = true := decide_eq_true h1
    by_cases h2 : x ≤ 2000000000
    · have h2d : decide (x ≤ 2000000000) = true := decide_eq_true h2
      have hd : numB x = true := by unfold numB; rw [h1d, h2d]; rfl
      rw [hd]
      clear hd
      go_enter Tryz.func76, Tryz.ntmps76
      go_wp2
      go_ret
      exact ⟨rfl, rfl⟩
    · have h2d : decide (x ≤ 2000000000) = false := decide_eq_false h2
      have hd : numB x = false := by unfold numB; rw [h1d, h2d]; rfl
      rw [hd]
      clear hd
      go_enter Tryz.func76, Tryz.ntmps76
      go_wp2
      go_ret
      exact ⟨rfl, rfl⟩
  · have h1d : decide (1 ≤ x) = false := decide_eq_false h1
    have hd : numB x = false := by unfold numB; rw [h1d]; rfl
    rw [hd]
    clear hd
    go_enter Tryz.func76, Tryz.ntmps76
    go_wp2
    go_ret
    exact ⟨rfl, rfl⟩
end Go.Proofs.YtcnollkkigiobaaGreat
