import Derived.Test.YtcnollkkigiobaaXqV
import Derived.Maps.Own
import Derived.MapKept
import Derived.Test.YtcnollkkigiobaaXqQ
import Derived.Test.YtcnollkkigiobaaTiP
import Derived.Test.YtcnollkkigiobaaXqS
import Derived.Test.YtcnollkkigiobaaElig2
import Derived.Lib.ConvBytes
import Derived.Test.YtcnollkkigiobaaTgC
import Derived.Test.YtcnollkkigiobaaXqW
import Derived.Test.YtcnollkkigiobaaElig1
import Derived.Laws.EntriesVeiled
import Derived.Test.YtcnollkkigiobaaXiL
import Derived.Test.YtcnollkkigiobaaXiT
namespace Go.Proofs.Ytcnollkkigiobaa
open Go.RowKit Go.Deep Go.MapKept Go.ChangeMaps
set_option linter.unusedVariables false
set_option maxRecDepth 100000

theorem undQ : Try.prog.underlying 36 = some (.struct #[{ name := "S", type := 2, offset := 0, embedded := false, tag := "", pkgPath := "", byteOffset := 0 }, { name := "P", type := 2, offset := 1, embedded := false, tag := "", pkgPath := "", byteOffset := 8 }, { name := "O", type := 2, offset := 2, embedded := false, tag := "", pkgPath := "", byteOffset := 16 }, { name := "G", type := 2, offset := 3, embedded := false, tag := "", pkgPath := "", byteOffset := 24 }]) := by kernel_rfl

theorem undI : Try.prog.underlying 2 = some (.int .i64) := by kernel_rfl
theorem checkI (e : Bool) (n : Nat) (x : Int) (w : World) : (Instr.checkKey e (n + 1) 2 (.int .i64 x)).run Try.prog w = .ok () w := run_checkKey undI (by simp [IsKey]) e n
theorem partI (x y z u : Int) (i : Nat) (hi : i < 4) (w : World) : ∃ r, (part 2 #[.int .i64 x, .int .i64 y, .int .i64 z, .int .i64 u] i).run Try.prog w = .ok (.int .i64 r) w := by
  rcases (show i = 0 ∨ i = 1 ∨ i = 2 ∨ i = 3 by omega) with rfl | rfl | rfl | rfl
  · exact ⟨x, by simp [go_sem]⟩
  · exact ⟨y, by simp [go_sem]⟩
  · exact ⟨z, by simp [go_sem]⟩
  · exact ⟨u, by simp [go_sem]⟩
set_option maxHeartbeats 400000 in
theorem checkQ' (e : Bool) (n : Nat) (q : Qd) (w : World) : (Instr.checkKey e (n + 1 + 1) 36 (qv q)).run Try.prog w = .ok () w := by
  unfold qv
  obtain ⟨r0, p0⟩ := partI q.s q.p q.o q.g 0 (by omega) w
  obtain ⟨r1, p1⟩ := partI q.s q.p q.o q.g 1 (by omega) w
  obtain ⟨r2, p2⟩ := partI q.s q.p q.o q.g 2 (by omega) w
  obtain ⟨r3, p3⟩ := partI q.s q.p q.o q.g 3 (by omega) w
  rw [Instr.checkKey]
  simp only [Sem.run_bind, run_underlying undQ, Result.andThen_ok]
  rw [← Array.forIn_toList]
  simp only [List.forIn_cons, List.forIn_nil, Sem.run_bind, Sem.run_ite, Sem.run_pure, Result.andThen_ok, p0, checkI]
  simp [p1, p2, p3, checkI]
theorem checkQ (e : Bool) (q : Qd) (w : World) : (Instr.checkKey e 10000 36 (qv q)).run Try.prog w = .ok () w := checkQ' e 9998 q w
theorem equalQ_yes (x : Qd) (w : World) : (Op.equal 36 (qv x) (qv x)).run Try.prog w = .ok true w := by
  show (Op.equalIn 10000 36 (qv x) (qv x)).run Try.prog w = _
  unfold qv
  rw [eqQ, (qd_eq (x := x) (y := x)).2 rfl]
theorem equalQ_no {x y : Qd} (h : x ≠ y) (w : World) : (Op.equal 36 (qv x) (qv y)).run Try.prog w = .ok false w := by
  show (Op.equalIn 10000 36 (qv x) (qv y)).run Try.prog w = _
  unfold qv
  rw [eqQ]
  cases hb : (x.s == y.s && (x.p == y.p && (x.o == y.o && x.g == y.g))) with
  | false => rfl
  | true => exact absurd (qd_eq.1 hb) h
/-- A map's entries are these quads. -/
def EsQ (es : List MapEntry) (L : List Qd) : Prop := es.map (fun e => (e.key, e.val)) = L.map (fun q => (qv q, .agg #[]))
theorem find_q (q : Qd) (w : World) : ∀ (es : List MapEntry) (L : List Qd) (i : Nat), EsQ es L →
    (q ∉ L ∧ (Instr.findAsking 36 (qv q) es i).run Try.prog w = .ok none w) ∨ (q ∈ L ∧ ∃ j, (Instr.findAsking 36 (qv q) es i).run Try.prog w = .ok (some (j, .agg #[])) w)
  | [], [], i, _ => .inl ⟨by simp, by rw [Instr.findAsking]; rfl⟩
  | [], x :: L, i, h => by simp [EsQ] at h
  | e :: es, [], i, h => by simp [EsQ] at h
  | e :: es, x :: L, i, h => by
    have h2 : e.key = qv x ∧ e.val = .agg #[] ∧ EsQ es L := by
      unfold EsQ at h
      rw [List.map_cons, List.map_cons] at h
      injection h with h1 h2
      injection h1 with h1 h3
      exact ⟨h1, h3, h2⟩
    obtain ⟨h3, h4, h5⟩ := h2
    by_cases e0 : q = x
    · refine .inr ⟨by simp [e0], i, ?_⟩
      rw [Instr.findAsking, h3, h4, e0]
      simp [equalQ_yes]
    · rcases find_q q w es L (i + 1) h5 with ⟨m, r⟩ | ⟨m, j, r⟩
      · refine .inl ⟨by simp [e0, m], ?_⟩
        rw [Instr.findAsking, h3]
        simp [equalQ_no e0, r]
      · refine .inr ⟨by simp [m], j, ?_⟩
        rw [Instr.findAsking, h3]
        simp [equalQ_no e0, r]
theorem findK_q (q : Qd) (w : World) (es : List MapEntry) (L : List Qd) (h : EsQ es L) :
    (q ∉ L ∧ (Instr.findKey 36 (qv q) es).run Try.prog w = .ok none w) ∨ (q ∈ L ∧ ∃ j, (Instr.findKey 36 (qv q) es).run Try.prog w = .ok (some (j, .agg #[])) w) := by
  have hk : (Instr.findKey 36 (qv q) es).run Try.prog w = (Instr.findAsking 36 (qv q) es).run Try.prog w := by
    unfold Instr.findKey
    simp only [Sem.run_bind, run_underlying undQ, Result.andThen_ok]
    cases es with
    | nil => rfl
    | cons e es => rfl
  rw [hk]
  exact find_q q w es L 0 h
/-- Block B is a map whose keys are the quads L. -/
def QMap (w : World) (B : Nat) (L : List Qd) : Prop := ∃ es clock, w.heap[B]? = some (.map es clock) ∧ EsQ es.toList L
theorem QMap.lt {w : World} {B : Nat} {L : List Qd} (h : QMap w B L) : B < w.heap.size := by
  obtain ⟨es, c, h, _⟩ := h
  exact (Array.getElem?_eq_some_iff.1 h).1
theorem QMap.kept {w w' : World} {B : Nat} {L : List Qd} (h : QMap w B L) (hb : w'.heap[B]? = w.heap[B]?) : QMap w' B L := by
  obtain ⟨es, c, h, q⟩ := h
  exact ⟨es, c, hb.trans h, q⟩
theorem QMap.below {w w' : World} {B : Nat} {L : List Qd} (h : QMap w B L) (hb : Below w.heap.size w w') : QMap w' B L := h.kept (hb.block _ h.lt)
theorem qmap_new (w : World) : QMap (w.alloc (.map #[] 0)) w.heap.size [] := ⟨#[], 0, blk_alloc_new _ _, rfl⟩

theorem undM : Try.prog.underlying 86 = some (.map 36 117) := by kernel_rfl
theorem QMap.look {w : World} {B : Nat} {L : List Qd} (h : QMap w B L) (q : Qd) : ∃ b, (b = true ↔ q ∈ L) ∧ (Instr.lookup 86 (.map (some B)) (qv q) true).run Try.prog w = .ok (.tuple #[.agg #[], .bool b]) w := by
  obtain ⟨es, c, hb, he⟩ := h
  rcases findK_q q w es.toList L he with ⟨m, r⟩ | ⟨m, j, r⟩
  · exact ⟨false, by simp [m], by simp [Instr.lookup, run_underlying undM, MapKept.run_getObj_map hb, checkQ, r, Result.andThen]⟩
  · exact ⟨true, by simp [m], by simp [Instr.lookup, run_underlying undM, MapKept.run_getObj_map hb, checkQ, r, Result.andThen]⟩
theorem QMap.put {w : World} {B : Nat} {L : List Qd} (h : QMap w B L) (q : Qd) (hn : q ∉ L) : ∃ w', (Instr.mapUpdate 86 (.map (some B)) (qv q) (.agg #[])).run Try.prog w = .ok () w' ∧ QMap w' B (L ++ [q]) ∧ w.grownBy w' (some B) := by
  obtain ⟨es, clock, hb, he⟩ := h
  rcases findK_q q w es.toList L he with ⟨m, r⟩ | ⟨m, _⟩
  · refine ⟨setBlock w B (.map (es.push { key := qv q, val := .agg #[], born := clock }) (clock + 1)), ?_, ⟨_, _, heap_setBlock_same hb _, ?_⟩, ⟨rfl, rfl, rfl, by simp [setBlock], fun i _ hi => heap_setBlock_other hb _ (fun e => hi (by rw [e]))⟩⟩
    · simp [Instr.mapUpdate, run_underlying undM, MapKept.run_getObj_map hb, checkQ, r, MapKept.run_setObj_map _ hb, Result.andThen, setBlock]
    · unfold EsQ at he ⊢
      rw [Array.toList_push, List.map_append, List.map_append, he]
      rfl
  · exact absurd m hn
theorem QMap.len {w : World} {B : Nat} {L : List Qd} (h : QMap w B L) (ty : TypeId) : (Builtin.len_ #[86] ty #[.map (some B)]).run Try.prog w = .ok (.int .i64 L.length) w := by
  obtain ⟨es, clock, hb, he⟩ := h
  have hs : es.size = L.length := by
    have := congrArg List.length he
    simpa using this
  simp [Builtin.len_, run_underlying undM, MapKept.run_getObj_map hb, Result.andThen, hs, goInt]
end Go.Proofs.Ytcnollkkigiobaa

namespace Go.Proofs.Ytcnollkkigiobaa
open Go.RowKit Go.Deep Go.MapKept Go.ChangeMaps
set_option linter.unusedVariables false
set_option maxRecDepth 100000

theorem take_more {L : List Qd} {k : Nat} (h : k < L.length) : L.take (k + 1) = L.take k ++ [L[k]] := by
  rw [List.take_add_one, List.getElem?_eq_getElem h]
  rfl
theorem take_not {L : List Qd} {k : Nat} (hn : L.Nodup) (h : k < L.length) : L[k] ∉ L.take k := by
  intro hm
  have e : L = L.take k ++ (L[k] :: L.drop (k + 1)) := by
    rw [List.getElem_cons_drop, List.take_append_drop]
  rw [e] at hn
  have := (List.nodup_append.1 hn).2.2 _ hm _ (List.mem_cons_self ..)
  exact this rfl

set_option maxHeartbeats 2000000 in
theorem setOf_any (a : Option Addr) (n c : Nat) (L : List Qd) (w : World) (h : RdQ w a L) (hn : n = L.length) (hn2 : n ≤ 1048576) (hnd : L.Nodup) :
    Calls Try.prog 37 #[.slice a n c] w fun e w' => ∃ B, e = .returned (.map (some B)) ∧ QMap w' B L ∧ Below w.heap.size w w' ∧ w.heap.size ≤ B := by
  have HR : Hid (RdQ w a L ∧ n = L.length ∧ L.Nodup) := ⟨h, hn, hnd⟩
  clear h hn hnd
  have hmm := @run_makeMap Try.prog
  go_enter Try.func37, Try.ntmps37
  go_wp2
  go_loopw [5, 9] (fun _ i wr => ∃ k : Nat, k ≤ n ∧ i = .int .i64 k ∧ QMap wr w.heap.size (L.take k) ∧ Below w.heap.size w wr) (fun _ i _ => n - (intOf i).toNat)
  case atStart => exact ⟨0, Nat.zero_le _, rfl, qmap_new w, below_alloc _ _⟩
  case round =>
    obtain ⟨k, hk, rfl, hq, hbel⟩ := hrel
    have HS : Hid (QMap wr w.heap.size (L.take k) ∧ Below w.heap.size w wr) := ⟨hq, hbel⟩
    by_cases hlt : k < n
    · have hkL : k < L.length := by rw [← HR.out.2.1]; exact hlt
      rcases HR.out.1.below hbel with h0 | ⟨b, rfl, hc⟩
      · omega
      obtain ⟨s0, s1, s2, s3⟩ := hc k hkL
      have i0 : (0 : Int) ≤ (k : Int) := by omega
      have i1 : (k : Int) < (n : Int) := by omega
      have hx0 := take_not HR.out.2.2 hkL
      have hx1 := take_more hkL
      obtain ⟨x, hx⟩ : ∃ x, x = L[k] := ⟨_, rfl⟩
      rw [← hx] at s0 s1 s2 s3 hx0 hx1
      obtain ⟨w7, hrun, hm7, hg7⟩ := (hq.below (below_alloc wr (.cells #[.int .i64 x.s, .int .i64 x.p, .int .i64 x.o, .int .i64 x.g] 36))).put x hx0
      have H7 : Hid (QMap w7 w.heap.size (L.take (k + 1)) ∧ Below w.heap.size w w7) := by
        refine ⟨by rw [hx1]; exact hm7, ?_⟩
        have h1 := hbel.trans ((below_alloc wr (.cells #[.int .i64 x.s, .int .i64 x.p, .int .i64 x.o, .int .i64 x.g] 36)).mono hbel.size)
        exact h1.trans (below_grown hg7 h1.size (Nat.le_refl _))
      unfold qv at hrun
      clear hc hq hbel hx hx0 hx1 hm7 hg7
      go_wp2
      go_roundw
      case rel => exact ⟨k + 1, by omega, by go_num, H7.out⟩
      case measure => simp [intOf]; omega
    · obtain rfl : k = n := by omega
      have k1 : ¬ (k : Int) < (k : Int) := by omega
      clear hq hbel
      go_wp2
      go_ret
      refine ⟨w.heap.size, rfl, ?_, HS.out.2, Nat.le_refl _⟩
      have e : L.take k = L := by rw [HR.out.2.1, List.take_length]
      rw [← e]
      exact HS.out.1

/-- Whether the quads L are the map's M. -/
def RetIs (w : World) (L M : List Qd) (e : Ending) (w' : World) : Prop := ∃ b : Bool, e = .returned (.bool b) ∧ (b = true ↔ (L.length = M.length ∧ ∀ q, q ∈ L → q ∈ M)) ∧ Below w.heap.size w w'

set_option maxHeartbeats 2000000 in
theorem isOf_any (B : Nat) (a : Option Addr) (n c : Nat) (L M : List Qd) (w : World) (hm : QMap w B M) (h : RdQ w a L) (hn : n = L.length) (hn2 : n ≤ 1048576) :
    Calls Try.prog 38 #[.map (some B), .slice a n c] w (RetIs w L M) := by
  have HR : Hid (RdQ w a L ∧ n = L.length ∧ QMap w B M) := ⟨h, hn, hm⟩
  clear h hn hm
  go_enter Try.func38, Try.ntmps38
  go_wp2
  go_loopw [6, 7, 8, 11] (fun _ _ _ i wr => ∃ k : Nat, k ≤ n ∧ i = .int .i64 k ∧ (∀ j (h : j < L.length), j < k → L[j] ∈ M) ∧ Below w.heap.size w wr) (fun _ _ _ i _ => n - (intOf i).toNat)
  case atStart => exact ⟨0, Nat.zero_le _, rfl, fun j _ hj => absurd hj (Nat.not_lt_zero _), Below.refl _ _⟩
  case round =>
    obtain ⟨k, hk, rfl, hall, hbel⟩ := hrel
    have HS : Hid ((∀ j (h : j < L.length), j < k → L[j] ∈ M) ∧ Below w.heap.size w wr) := ⟨hall, hbel⟩
    by_cases hlt : k < n
    · have hkL : k < L.length := by rw [← HR.out.2.1]; exact hlt
      rcases HR.out.1.below hbel with h0 | ⟨b, rfl, hc⟩
      · omega
      obtain ⟨s0, s1, s2, s3⟩ := hc k hkL
      have i0 : (0 : Int) ≤ (k : Int) := by omega
      have i1 : (k : Int) < (n : Int) := by omega
      obtain ⟨x, hx⟩ : ∃ x, x = L[k] := ⟨_, rfl⟩
      have HXk : Hid (L[k] = x) := hx.symm
      rw [← hx] at s0 s1 s2 s3
      obtain ⟨bk, hbk, hl⟩ := ((HR.out.2.2.below hbel).below (below_alloc wr (.cells #[.int .i64 x.s, .int .i64 x.p, .int .i64 x.o, .int .i64 x.g] 36))).look x
      have HBk : Hid (bk = true ↔ x ∈ M) := hbk
      unfold qv at hl
      clear hc hall hbel hx hbk
      cases bk with
      | false =>
        go_wp2
        go_ret
        refine ⟨false, rfl, ?_, ?_⟩
        · constructor
          · intro h
            cases h
          · rintro ⟨_, hq⟩
            have := HBk.out.2 (by rw [← HXk.out]; exact hq _ (List.getElem_mem hkL))
            cases this
        · exact HS.out.2.trans (((below_alloc _ _).alloc (by simp) _).mono HS.out.2.size)
      | true =>
        go_wp2
        go_roundw
        case rel =>
          refine ⟨k + 1, by omega, by go_num, fun j hj hjk => ?_, HS.out.2.trans (((below_alloc _ _).alloc (by simp) _).mono HS.out.2.size)⟩
          by_cases e : j = k
          · subst e
            rw [HXk.out]
            exact HBk.out.1 rfl
          · exact HS.out.1 j hj (by omega)
        case measure => simp [intOf]; omega
    · obtain rfl : k = n := by omega
      have k1 : ¬ (k : Int) < (k : Int) := by omega
      have hln := (HR.out.2.2.below hbel).len
      clear hall hbel
      go_wp2
      go_ret
      refine ⟨((M.length : Int) == (k : Int)), rfl, ?_, HS.out.2⟩
      constructor
      · intro h
        have h1 : (M.length : Int) = (k : Int) := by simpa using h
        refine ⟨by have := HR.out.2.1; omega, fun q hq => ?_⟩
        obtain ⟨j, hj, e⟩ := List.getElem_of_mem hq
        rw [← e]
        exact HS.out.1 j hj (by have := HR.out.2.1; omega)
      · rintro ⟨h1, _⟩
        have h2 : (M.length : Int) = (k : Int) := by have := HR.out.2.1; omega
        simpa using h2
end Go.Proofs.Ytcnollkkigiobaa

namespace Go.Proofs.Ytcnollkkigiobaa
open Go.RowKit Go.Deep
set_option linter.unusedVariables false
set_option maxRecDepth 100000

/-- The program's orders. -/
def layF (perm : Nat) : Nat := match perm with
  | 0 => 48 | 1 => 49 | 2 => 50 | 3 => 51 | 4 => 52 | _ => 53
theorem lay_any (perm : Nat) (hp : perm < 6) (g : Nat) (w : World) : Calls Try.prog (layF perm) #[.pointer (some ⟨g, 0, none⟩)] w fun e w' => e = .returned (.agg #[.pointer (some ⟨g, ordF perm 0, none⟩), .pointer (some ⟨g, ordF perm 1, none⟩), .pointer (some ⟨g, ordF perm 2, none⟩), .pointer (some ⟨g, ordF perm 3, none⟩)]) ∧ Below w.heap.size w w' := by
  rcases (show perm = 0 ∨ perm = 1 ∨ perm = 2 ∨ perm = 3 ∨ perm = 4 ∨ perm = 5 by omega) with rfl | rfl | rfl | rfl | rfl | rfl
  · exact lay_1 g w
  · exact lay_2 g w
  · exact lay_3 g w
  · exact lay_4 g w
  · exact lay_5 g w
  · exact lay_6 g w

set_option maxHeartbeats 1000000 in
theorem isNumber_any (x : Int) (w : World) : Calls Try.prog 66 #[.int .i64 x] w fun e w' => e = .returned (.bool (numB x)) ∧ w' = w := by
  by_cases h1 : 1 ≤ x
  · have h1d : decide (1 ≤ x) = true := decide_eq_true h1
    by_cases h2 : x ≤ 2000000000
    · have h2d : decide (x ≤ 2000000000) = true := decide_eq_true h2
      have hd : numB x = true := by unfold numB; rw [h1d, h2d]; rfl
      rw [hd]
      clear hd
      go_enter Try.func66, Try.ntmps66
      go_wp2
      go_ret
      exact ⟨rfl, rfl⟩
    · have h2d : decide (x ≤ 2000000000) = false := decide_eq_false h2
      have hd : numB x = false := by unfold numB; rw [h1d, h2d]; rfl
      rw [hd]
      clear hd
      go_enter Try.func66, Try.ntmps66
      go_wp2
      go_ret
      exact ⟨rfl, rfl⟩
  · have h1d : decide (1 ≤ x) = false := decide_eq_false h1
    have hd : numB x = false := by unfold numB; rw [h1d]; rfl
    rw [hd]
    clear hd
    go_enter Try.func66, Try.ntmps66
    go_wp2
    go_ret
    exact ⟨rfl, rfl⟩

set_option maxHeartbeats 1000000 in
theorem isQuad_any (q : Qd) (w : World) : Calls Try.prog 56 #[qv q] w fun e w' => e = .returned (.bool (quadB q)) ∧ Below w.heap.size w w' := by
  unfold quadB qv
  have hs : numB q.s = false ∨ (numB q.s = true ∧ numB q.p = false) ∨ (numB q.s = true ∧ numB q.p = true ∧ numB q.o = false) ∨ (numB q.s = true ∧ numB q.p = true ∧ numB q.o = true ∧ numB q.g = false) ∨ (numB q.s = true ∧ numB q.p = true ∧ numB q.o = true ∧ numB q.g = true) := by
    cases numB q.s <;> cases numB q.p <;> cases numB q.o <;> cases numB q.g <;> simp
  rcases hs with ha | ⟨ha, hb⟩ | ⟨ha, hb, hc⟩ | ⟨ha, hb, hc, hd⟩ | ⟨ha, hb, hc, hd⟩
  all_goals
    have HA := ha
    go_enter Try.func56, Try.ntmps56
    go_wp2_with (first
      | (go_at_call 66; refine (isNumber_any _ _).mono ?_; rintro e w1 ⟨rfl, rfl⟩)
      | go_in)
    go_ret
    exact ⟨by simp_all, (below_alloc _ _).trans ((below_alloc _ _).mono (by simp))⟩
end Go.Proofs.Ytcnollkkigiobaa

namespace Go.Proofs.Ytcnollkkigiobaa
open Go.RowKit Go.Deep
set_option linter.unusedVariables false
set_option maxRecDepth 100000

theorem ptF_own (perm : Nat) (hp : perm < 6) (k : ByteArray) (i : Nat) (hi : i < 4) : ptF perm k i (ordF perm i) = 0 := by
  unfold ptF
  rw [if_neg]
  rcases (show perm = 0 ∨ perm = 1 ∨ perm = 2 ∨ perm = 3 ∨ perm = 4 ∨ perm = 5 by omega) with rfl | rfl | rfl | rfl | rfl | rfl <;> rcases (show i = 0 ∨ i = 1 ∨ i = 2 ∨ i = 3 by omega) with rfl | rfl | rfl | rfl <;> decide
/-- The quad once i of the key's parts were taken and n bytes of the next. -/
def pnA (perm : Nat) (k : ByteArray) (i n : Nat) : Array Value := (ptA perm k i).setIfInBounds (ordF perm i) (.int .i64 (pkn k i n))
theorem pnA_zero (perm : Nat) (hp : perm < 6) (k : ByteArray) (i : Nat) (hi : i < 4) : pnA perm k i 0 = ptA perm k i := by
  have h := ptF_own perm hp k i hi
  have ho := ordF_lt perm hp i hi
  unfold pnA
  show (ptA perm k i).setIfInBounds (ordF perm i) (.int .i64 0) = _
  rw [← h]
  unfold ptA
  generalize ordF perm i = o at ho ⊢
  rcases (show o = 0 ∨ o = 1 ∨ o = 2 ∨ o = 3 by omega) with rfl | rfl | rfl | rfl <;> simp
theorem pnA_four (perm : Nat) (hp : perm < 6) (k : ByteArray) (i : Nat) (hi : i < 4) : pnA perm k i 4 = ptA perm k (i + 1) := ptA_set perm hp k i hi
theorem pnA_get (perm : Nat) (hp : perm < 6) (k : ByteArray) (i : Nat) (hi : i < 4) (n : Nat) : (pnA perm k i n)[ordF perm i]? = some (.int .i64 (pkn k i n)) := by
  have ho := ordF_lt perm hp i hi
  unfold pnA
  rw [Array.getElem?_setIfInBounds_self_of_lt (by simpa [ptA] using ho)]
theorem pnA_set (perm : Nat) (k : ByteArray) (i n : Nat) : (pnA perm k i n).setIfInBounds (ordF perm i) (.int .i64 (pkn k i (n + 1))) = pnA perm k i (n + 1) := by
  unfold pnA
  simp

/-- A number moved by eight bits, and a byte put in. -/
theorem shl_or (x b : Int) (h0 : 0 ≤ x) (h1 : x < 4294967296) (hb0 : 0 ≤ b) (hb1 : b < 256) : bits .or .i64 (x * 256) b = 256 * x + b := by
  obtain ⟨X, rfl⟩ : ∃ X : Nat, x = (X : Int) := ⟨x.toNat, by omega⟩
  obtain ⟨B, rfl⟩ : ∃ B : Nat, b = (B : Int) := ⟨b.toNat, by omega⟩
  have oi : ∀ a : Nat, a < 1099511627776 → (BitVec.ofInt 64 (a : Int)).toNat = a := fun a ha => by
    rw [BitVec.ofInt_natCast, BitVec.toNat_ofNat]
    exact Nat.mod_eq_of_lt (by omega)
  have e0 : ((X : Int) * 256) = ((X * 256 : Nat) : Int) := by omega
  rw [e0]
  show IntKind.i64.wrap ((BitVec.ofInt 64 ((X * 256 : Nat) : Int) ||| BitVec.ofInt 64 (B : Int)).toNat : Int) = _
  rw [BitVec.toNat_or, oi _ (by omega), oi _ (by omega), IntKind.wrap_i64]
  have h := Nat.shiftLeft_add_eq_or_of_lt (i := 8) (b := B) (by omega) X
  rw [Nat.shiftLeft_eq, show (2 : Nat) ^ 8 = 256 by rfl] at h
  rw [← h]
  omega
/-- The memory of an order's quad. -/
structure QPt (w W : World) (A : Array Value) : Prop where
  rb : Bx W w.heap.size 36 #[.int .i64 0, .int .i64 0, .int .i64 0, .int .i64 0]
  qb : Bx W (w.heap.size + 1) 36 A
  bel : Below w.heap.size w W
theorem QPt.keep {w W W' : World} {A : Array Value} (h : QPt w W A) (hb : Below W.heap.size W W') : QPt w W' A :=
  ⟨(hb.block _ h.rb.lt).trans h.rb, (hb.block _ h.qb.lt).trans h.qb, h.bel.trans (hb.mono h.bel.size)⟩
theorem bytes_below (w : World) (e : TypeId) (s : ByteArray) : Below w.heap.size w (Go.Lib.bytesWorld w e s) :=
  ⟨rfl, rfl, rfl, by rw [Go.Lib.bytesWorld_size]; omega, fun k hk => Go.Lib.bytesWorld_at_old w e s k hk⟩
theorem kb_sub (k : ByteArray) (i j : Nat) (hj : j < 4) (hk : (i + 1) * 4 ≤ k.size) : kb k (4 * i + j) = (((k.extract (i * 4) ((i + 1) * 4)).data.toList.getD j 0).toNat : Int) := by
  obtain ⟨b, e, eb⟩ := kb_get (k := k) (i := 4 * i + j) (by omega)
  rw [eb]
  have e2 : k.data[4 * i + j]? = some b := by
    rw [← e]
    first | rfl | simp
  have e1 : (k.extract (i * 4) ((i + 1) * 4)).data.toList.getD j 0 = b := by
    simp only [ByteArray.data_extract, List.getD_eq_getElem?_getD, Array.getElem?_toList, Array.getElem?_extract]
    rw [if_pos (by have : k.data.size = k.size := rfl; omega), show i * 4 + j = 4 * i + j by omega, e2]
    rfl
  rw [e1]
def ptrA (perm g : Nat) : Array Value := #[.pointer (some ⟨g, ordF perm 0, none⟩), .pointer (some ⟨g, ordF perm 1, none⟩), .pointer (some ⟨g, ordF perm 2, none⟩), .pointer (some ⟨g, ordF perm 3, none⟩)]

set_option maxHeartbeats 4000000 in
theorem quad_any (perm : Nat) (hp : perm < 6) (key : ByteArray) (hk : key.size = 16) (w : World) : Calls Try.prog 55 #[.func (.func (layF perm)) #[] #[], .string key] w fun e w' => e = .returned (qv (quadOf perm key)) ∧ Below w.heap.size w w' := by
  have HL : Hid (∀ W : World, Calls Try.prog (layF perm) #[.pointer (some ⟨w.heap.size + 1, 0, none⟩)] W fun e w' => e = .returned (.agg (ptrA perm (w.heap.size + 1))) ∧ Below W.heap.size W w') := fun W => lay_any perm hp _ W
  have HK : Hid (key.size = 16 ∧ perm < 6) := ⟨hk, hp⟩
  have heg : ∀ args W, (callFunc (layF perm) args).run Try.prog W = .ok (.enter (layF perm) args) W := fun args W => by
    rcases (show perm = 0 ∨ perm = 1 ∨ perm = 2 ∨ perm = 3 ∨ perm = 4 ∨ perm = 5 by omega) with rfl | rfl | rfl | rfl | rfl | rfl <;> rfl
  clear hp
  go_enter Try.func55, Try.ntmps55
  go_wp2_with fail
  (with_reducible refine (HL.out _).mono ?_)
  rintro e w1 ⟨rfl, hw1⟩
  have Q0 : Hid (QPt w w1 (ptA perm key 0)) := by
    have b1 := Bx.new w #[.int .i64 0, .int .i64 0, .int .i64 0, .int .i64 0] 36
    have b2 := Bx.new (w.alloc (.cells #[.int .i64 0, .int .i64 0, .int .i64 0, .int .i64 0] 36)) #[.int .i64 0, .int .i64 0, .int .i64 0, .int .i64 0] 36
    simp only [World.size_alloc] at b2
    exact ⟨(hw1.block _ (by simp; omega)).trans (b1.alloc _), (hw1.block _ (by simp)).trans b2, (((below_alloc _ _).alloc (by simp) _)).trans (hw1.mono (by simp; omega))⟩
  clear hw1 HL
  go_wp2_with fail
  go_loopw [6, 7, 9, 12] (fun _ _ _ i wr => ∃ ii : Nat, ii ≤ 4 ∧ i = .int .i64 ii ∧ QPt w wr (ptA perm key ii)) (fun _ _ _ i _ => 4 - (intOf i).toNat)
  case atStart => exact ⟨0, by omega, rfl, Q0.out⟩
  case round =>
    obtain ⟨i, hi, rfl, hq⟩ := hrel
    obtain ⟨W1, rfl⟩ : ∃ W1, W1 = wr := ⟨_, rfl⟩
    have QI : Hid (QPt w W1 (ptA perm key i)) := hq
    clear hq Q0
    by_cases hlt : i < 4
    · have hixp : ∀ W : World, (Instr.index 110 (.agg (ptrA perm (w.heap.size + 1))) (.int .i64 (i : Int))).run Try.prog W = .ok (.pointer (some ⟨w.heap.size + 1, ordF perm i, none⟩)) W := fun W => by
        rcases (show i = 0 ∨ i = 1 ∨ i = 2 ∨ i = 3 by omega) with rfl | rfl | rfl | rfl <;> rfl
      have e4 : ((i : Int) * 4).toNat = i * 4 := by omega
      have e5 : (((i : Int) + 1) * 4).toNat = (i + 1) * 4 := by omega
      have hsl : ∀ W : World, (Instr.slice 9 (.string key) (some (.int .i64 ((i : Int) * 4))) (some (.int .i64 (((i : Int) + 1) * 4))) none).run Try.prog W = .ok (.string (key.extract (i * 4) ((i + 1) * 4))) W := fun W => by
        have g1 : (0 : Int) ≤ (i : Int) * 4 := by omega
        have g2 : (0 : Int) ≤ ((i : Int) + 1) * 4 := by omega
        have g3 : ((i : Int) + 1) * 4 ≤ (key.size : Int) := by rw [HK.out.1]; omega
        have g4 : (i : Int) ≤ (i : Int) + 1 := by omega
        simp [Instr.slice, go_sem, e4, e5, g1, g2, g3, g4]
      obtain ⟨sub, hsub⟩ : ∃ sub, sub = key.extract (i * 4) ((i + 1) * 4) := ⟨_, rfl⟩
      rw [← hsub] at hsl
      have hss : sub.size = 4 := by rw [hsub, ByteArray.size_extract, HK.out.1]; omega
      have hcv : ∀ W : World, (convert 9 126 (.string sub)).run Try.prog W = .ok (.slice (some ⟨W.heap.size, 0, none⟩) 4 (grownCap W 4 0 5)) (Go.Lib.bytesWorld W 5 sub) := fun W => by
        have h := Go.Lib.run_convert_string_bytes (P := Try.prog) W 9 126 5 sub rfl rfl rfl
        rw [hss] at h
        exact h
      have HSub : Hid (sub = key.extract (i * 4) ((i + 1) * 4) ∧ sub.size = 4) := ⟨hsub, hss⟩
      clear hsub hss e4 e5
      go_wp2
      have HS0 : Hid (QPt w (Go.Lib.bytesWorld W1 5 sub) (pnA perm key i 0) ∧ ∀ j, j < 4 → (Go.Lib.bytesWorld W1 5 sub).cell? ⟨W1.heap.size, j, none⟩ = some (.int .u8 (kb key (4 * i + j)))) := by
        refine ⟨?_, fun j hj => ?_⟩
        · rw [pnA_zero perm HK.out.2 key i hlt]
          exact QI.out.keep (bytes_below _ _ _)
        · rw [Go.Lib.bytesWorld_cell _ _ _ _ (by rw [HSub.out.2]; exact hj), HSub.out.1]
          exact congrArg (fun x => some (Value.int .u8 x)) (kb_sub key i j hj (by rw [HK.out.1]; omega)).symm
      obtain ⟨g, hg⟩ : ∃ g, g = W1.heap.size := ⟨_, rfl⟩
      have HG : Hid (w.heap.size + 1 < g) := by
        rw [hg]
        exact QI.out.qb.lt
      rw [← hg] at HS0 ⊢
      clear hg
      obtain ⟨cp, hcp⟩ : ∃ cp, cp = grownCap W1 4 0 5 := ⟨_, rfl⟩
      rw [← hcp]
      clear hcp hcv hsl hixp
      generalize Go.Lib.bytesWorld W1 5 sub = W2 at HS0 ⊢
      go_loopw [9, 25] (fun _ n wr => ∃ nn : Nat, nn ≤ 4 ∧ n = .int .i64 nn ∧ QPt w wr (pnA perm key i nn) ∧ ∀ j, j < 4 → wr.cell? ⟨g, j, none⟩ = some (.int .u8 (kb key (4 * i + j)))) (fun _ n _ => 4 - (intOf n).toNat)
      case atStart => exact ⟨0, by omega, rfl, HS0.out.1, HS0.out.2⟩
      case round =>
        obtain ⟨n, hn, rfl, hq, hc⟩ := hrel
        obtain ⟨W3, rfl⟩ : ∃ W3, W3 = wr := ⟨_, rfl⟩
        have QJ : Hid (QPt w W3 (pnA perm key i n) ∧ ∀ j, j < 4 → W3.cell? ⟨g, j, none⟩ = some (.int .u8 (kb key (4 * i + j)))) := ⟨hq, hc⟩
        clear hq hc HS0
        by_cases hln : n < 4
        · have c1 := QJ.out.2 n hln
          have hbr := kb_range key (4 * i + n)
          obtain ⟨b, hb⟩ : ∃ b, b = kb key (4 * i + n) := ⟨_, rfl⟩
          have HBb : Hid (b = kb key (4 * i + n)) := hb
          rw [← hb] at c1 hbr
          clear hb
          have c2 := QJ.out.1.qb.cell (ordF perm i)
          rw [pnA_get perm HK.out.2 key i hlt n] at c2
          have hxr := pkn_range key i n hn
          obtain ⟨x, hx⟩ : ∃ x, x = pkn key i n := ⟨_, rfl⟩
          have HX : Hid (x = pkn key i n) := hx
          rw [← hx] at hxr c2
          clear hx
          have f2 := QJ.out.1.qb.frozen (ordF perm i)
          have l2 := QJ.out.1.qb.lt
          have n0 : (0 : Int) ≤ (n : Int) := by omega
          have n1 : (n : Int) < 4 := by omega
          have HN : Hid (256 * x + b = pkn key i (n + 1)) := by
            show 256 * x + b = pkn key i (n + 1)
            rw [HX.out, HBb.out]
            rfl
          obtain ⟨hx0, hx1⟩ := hxr
          obtain ⟨hb0, hb1⟩ := hbr
          go_wp2
          go_roundw
          case rel =>
            refine ⟨n + 1, by omega, by go_num, ?_, fun j hj => ?_⟩
            · rw [shl_or x b hx0 hx1 hb0 hb1, HN.out]
              have q := QJ.out.1
              refine ⟨q.rb.other (by simp) _, ?_, q.bel.setCell (by simp) _⟩
              have e := q.qb.set (ordF perm i) (.int .i64 (pkn key i (n + 1)))
              rw [pnA_set] at e
              exact e
            · rw [← QJ.out.2 j hj]
              exact World.cell?_of_block (a := ⟨g, j, none⟩) (Below.heap_setCell _ _ _ _ (by have := HG.out; simp; omega))
          case measure => simp [intOf]; omega
        · obtain rfl : n = 4 := by omega
          go_wp2
          go_roundw
          case rel =>
            refine ⟨i + 1, by omega, by go_num, ?_⟩
            rw [← pnA_four perm HK.out.2 key i hlt]
            exact QJ.out.1
          case measure => simp [intOf]; omega
    · obtain rfl : i = 4 := by omega
      have p0 := QI.out.qb.cell 0
      have p1 := QI.out.qb.cell 1
      have p2 := QI.out.qb.cell 2
      have p3 := QI.out.qb.cell 3
      rw [ptA_get perm key 4 0 (by omega), ptF_all perm HK.out.2 key 0 (by omega)] at p0
      rw [ptA_get perm key 4 1 (by omega), ptF_all perm HK.out.2 key 1 (by omega)] at p1
      rw [ptA_get perm key 4 2 (by omega), ptF_all perm HK.out.2 key 2 (by omega)] at p2
      rw [ptA_get perm key 4 3 (by omega), ptF_all perm HK.out.2 key 3 (by omega)] at p3
      obtain ⟨q0, hq0⟩ : ∃ q0, q0 = pk key (posF perm 0) := ⟨_, rfl⟩
      obtain ⟨q1, hq1⟩ : ∃ q1, q1 = pk key (posF perm 1) := ⟨_, rfl⟩
      obtain ⟨q2, hq2⟩ : ∃ q2, q2 = pk key (posF perm 2) := ⟨_, rfl⟩
      obtain ⟨q3, hq3⟩ : ∃ q3, q3 = pk key (posF perm 3) := ⟨_, rfl⟩
      rw [← hq0] at p0
      rw [← hq1] at p1
      rw [← hq2] at p2
      rw [← hq3] at p3
      have HV : Hid (qv (quadOf perm key) = .agg #[.int .i64 q0, .int .i64 q1, .int .i64 q2, .int .i64 q3]) := by
        show qv (quadOf perm key) = _
        rw [hq0, hq1, hq2, hq3]
        rfl
      clear hq0 hq1 hq2 hq3
      have z0 := QI.out.rb.cell 0
      have z1 := QI.out.rb.cell 1
      have z2 := QI.out.rb.cell 2
      have z3 := QI.out.rb.cell 3
      simp at z0 z1 z2 z3
      have zf := fun i => QI.out.rb.frozen i
      have zl := QI.out.rb.lt
      have HB : Hid (Below w.heap.size w W1) := QI.out.bel
      go_wp2
      refine bodyPost_ret (v := .agg #[.int .i64 q0, .int .i64 q1, .int .i64 q2, .int .i64 q3]) (by simp [results, Try.results55, go_sem, z0, z1, z2, z3]) rfl ⟨by rw [HV.out], ?_⟩
      exact (((HB.out.setCell (by simp) _).setCell (by simp) _).setCell (by simp) _).setCell (by simp) _
end Go.Proofs.Ytcnollkkigiobaa

namespace Go.Proofs.Ytcnollkkigiobaa
open Go.RowKit Go.Deep
set_option linter.unusedVariables false
set_option maxRecDepth 100000

theorem fil_all (K : List ByteArray) : fil { data := #[] } { data := #[] } K = K := by
  unfold fil
  rw [List.filter_eq_self]
  intro k _
  have e : (({ data := #[] } : ByteArray)).toList = [] := by unfold ByteArray.toList; unfold ByteArray.toList.loop; rfl
  unfold inR
  rw [e]
  cases k.toList <;> rfl
/-- The keys of a tree are good for an order. -/
def GoodK (perm : Nat) (K : List ByteArray) : Prop := ∀ k, k ∈ K → k.size = 16 ∧ quadB (quadOf perm k) = true
/-- What quads leaves. -/
def RetQs (w : World) (perm : Nat) (K : List ByteArray) (e : Ending) (w' : World) : Prop :=
  ∃ (ok : Bool) (a : Option Addr) (c : Nat) (L : List Qd), e = .returned (.tuple #[.slice a L.length c, .bool ok]) ∧ Below w.heap.size w w' ∧ RdQ w' a L ∧ ((ok = true ∧ L = K.map (quadOf perm) ∧ GoodK perm K) ∨ (ok = false ∧ L = [] ∧ ¬ GoodK perm K))

set_option maxHeartbeats 8000000 in
theorem quads_any (perm : Nat) (hp : perm < 6) (b o : Nat) (w : World) (n : Nat) (t : Ro n) (v : Value) (hh : Nat) (hc0 : w.cell? ⟨b, o, none⟩ = some (.func (.func (layF perm)) #[] #[])) (hc1 : w.cell? ⟨b, o + 1, none⟩ = some v)
    (ht : TAt (fun bb => bb < w.heap.size) w n t v) (hb : BalR n true t hh) (hasc : Asc (keysR n t)) (hlen : (keysR n t).length ≤ 300) :
    Calls Try.prog 36 #[.pointer (some ⟨b, o, none⟩)] w (RetQs w perm (keysR n t)) := by
  have hga := gather_any { data := #[] } { data := #[] } w.heap.size w n t v true hh ht hb hasc (by omega)
  obtain ⟨K, hK⟩ : ∃ K, K = keysR n t := ⟨_, rfl⟩
  rw [← hK] at hga hlen ⊢
  have HP : Hid (perm < 6 ∧ w.cell? ⟨b, o, none⟩ = some (.func (.func (layF perm)) #[] #[]) ∧ b < w.heap.size) := ⟨hp, hc0, World.block_lt_of_cell? _ _ hc0⟩
  clear ht hb hasc hK hp hc0 hh t n
  obtain ⟨i0, hi0, hz0, hz1, hz2⟩ := info_parts Try.info36
  have HI : Hid (Try.prog.info? 36 = some i0 ∧ i0.zero = some (.agg #[.int .i64 0, .int .i64 0, .int .i64 0, .int .i64 0]) ∧ i0.size = 4 ∧ i0.bytes = 32) := ⟨hi0, hz0, hz1, hz2⟩
  clear hi0 hz0 hz1 hz2
  rcases hga with ⟨p, rfl, hcall⟩ | ⟨p, rfl, hcall⟩
  · have HC : Hid (Calls Try.prog 97 #[.pointer (some p), .slice none 0 0, .string { data := #[] }, .string { data := #[] }] w (RetGa w.heap.size w ([] ++ fil { data := #[] } { data := #[] } K))) := hcall w none 0 0 [] (Below.refl _ _) (Nat.le_refl _) (World.ownsRow_nil _ _ _ _) rfl (by omega)
    clear hcall
    rw [List.nil_append, fil_all] at HC
    go_enter Try.func36, Try.ntmps36
    go_wp2_with fail
    (with_reducible refine HC.out.mono ?_)
    rintro e w3 ⟨a3, c3, rfl, ho3, hb3⟩
    obtain ⟨kl, hkl⟩ : ∃ kl, kl = K.length := ⟨_, rfl⟩
    have HKL : Hid (kl = K.length) := hkl
    have S3 : Hid (RdS w3 a3 kl (gt K) ∧ Below w.heap.size w w3) := by
      obtain ⟨a6, c6, e6, q, _⟩ := ownS_strL ho3 rfl
      injection e6 with e6 _ _
      subst e6
      exact ⟨by rw [hkl]; exact q.rd, hb3⟩
    rw [← hkl] at hlen ⊢
    clear hkl ho3 hb3 HC
    go_wp2
    go_loopw [4, 6, 7, 14] (fun out _ _ i wr => ∃ (k : Nat) (R : List Qd), k ≤ kl ∧ i = .int .i64 k ∧ R = (K.take k).map (quadOf perm) ∧ GoodK perm (K.take k) ∧ wr.ownsRow w3.heap.size 36 4 out R.length (quadL R) ∧ Below w3.heap.size w3 wr) (fun _ _ _ i _ => kl - (intOf i).toNat)
    case atStart => exact ⟨0, [], Nat.zero_le _, rfl, rfl, (fun k hk => by simp at hk), World.ownsRow_nil _ _ _ _, Below.refl _ _⟩
    case round =>
      obtain ⟨k, R, hk, rfl, hR, hgd, hown, hbel⟩ := hrel
      obtain ⟨ar, cr, er, _⟩ := own_form hown
      subst er
      have hRl : R.length = k := by rw [hR, List.length_map, List.length_take, ← HKL.out]; omega
      have HQ : Hid (wr.ownsRow w3.heap.size 36 4 (.slice ar R.length cr) R.length (quadL R) ∧ Below w3.heap.size w3 wr ∧ R = (K.take k).map (quadOf perm) ∧ GoodK perm (K.take k) ∧ R.length = k) := ⟨hown, hbel, hR, hgd, hRl⟩
      clear hown hbel hR hgd hRl
      obtain ⟨rl, hrl⟩ : ∃ rl, rl = R.length := ⟨_, rfl⟩
      have HRl : Hid (rl = R.length) := hrl
      have hrlk : rl = k := hrl.trans HQ.out.2.2.2.2
      have hrlk1 : rl ≤ k := by omega
      rw [← hrl] at HQ ⊢
      clear hrl hrlk
      have k0 : (0 : Int) ≤ (k : Int) := by omega
      have HBw : Hid (Below w.heap.size w wr) := S3.out.2.trans (HQ.out.2.1.mono S3.out.2.size)
      by_cases hlt : k < kl
      · have k1 : (k : Int) < (kl : Int) := by omega
        have hkK : k < K.length := by rw [← HKL.out]; exact hlt
        obtain ⟨bb, oo, ea2, s1⟩ := (S3.out.1.below HQ.out.2.1).cellOf k hlt
        obtain ⟨key, hkey⟩ : ∃ key, key = gt K k := ⟨_, rfl⟩
        rw [← hkey] at s1
        have HKy : Hid (key = K[k] ∧ key ∈ K) := by
          have e : key = K[k] := by rw [hkey, gt_in hkK]
          exact ⟨e, by rw [e]; exact List.getElem_mem hkK⟩
        have l0 : wr.cell? ⟨b, o, none⟩ = some (.func (.func (layF perm)) #[] #[]) := by
          rw [HBw.out.cell (show b < w.heap.size from HP.out.2.2)]
          exact HP.out.2.1
        clear hkey hc1
        subst ea2
        by_cases hsz : key.size = 16
        · have hszi : (key.size : Int) = 16 := by omega
          have HQd : Hid (Calls Try.prog 55 #[.func (.func (layF perm)) #[] #[], .string key] wr fun e w' => e = .returned (qv (quadOf perm key)) ∧ Below wr.heap.size wr w') := quad_any perm HP.out.1 key hsz wr
          go_wp2_with fail
          (with_reducible refine HQd.out.mono ?_)
          rintro e w5 ⟨rfl, hb5⟩
          obtain ⟨qd, hqd⟩ : ∃ qd, qd = quadOf perm key := ⟨_, rfl⟩
          have HQq : Hid (qd = quadOf perm key) := hqd
          have HIs : Hid (∀ W : World, Calls Try.prog 56 #[.agg #[.int .i64 qd.s, .int .i64 qd.p, .int .i64 qd.o, .int .i64 qd.g]] W fun e w' => e = .returned (.bool (quadB qd)) ∧ Below W.heap.size W w') := fun W => isQuad_any qd W
          rw [← hqd]
          clear hqd
          unfold qv
          go_wp2_with fail
          (with_reducible refine (HIs.out _).mono ?_)
          rintro e w6 ⟨rfl, hb6⟩
          have z := (Bx.new w5 #[.int .i64 qd.s, .int .i64 qd.p, .int .i64 qd.o, .int .i64 qd.g] 36)
          have hz5 := hb5.size
          have hz6 := hb6.size
          have hz3 := HQ.out.2.1.size
          simp only [World.size_alloc] at hz6
          have hb56 : Below w5.heap.size w5 w6 := (below_alloc w5 (.cells #[.int .i64 qd.s, .int .i64 qd.p, .int .i64 qd.o, .int .i64 qd.g] 36)).trans (hb6.mono (by simp))
          have z6 : Bx w6 w5.heap.size 36 #[.int .i64 qd.s, .int .i64 qd.p, .int .i64 qd.o, .int .i64 qd.g] := (hb6.block _ (by simp)).trans z
          have y0 := z6.cell 0
          have y1 := z6.cell 1
          have y2 := z6.cell 2
          have y3 := z6.cell 3
          simp at y0 y1 y2 y3
          have HO6 : Hid (w6.ownsRow w3.heap.size 36 4 (.slice ar rl cr) rl (quadL R) ∧ Below w3.heap.size w3 w6 ∧ Below w.heap.size w w6) := by
            have q1 : Below wr.heap.size wr w6 := hb5.trans (hb56.mono hz5)
            have q2 : Below w3.heap.size w3 w6 := HQ.out.2.1.trans (q1.mono hz3)
            exact ⟨own_below HQ.out.1 q1, q2, S3.out.2.trans (q2.mono S3.out.2.size)⟩
          cases hq : quadB qd with
          | false =>
            have HNo : Hid (¬ GoodK perm K) := fun h => by
              have := (h key HKy.out.2).2
              rw [← HQq.out, hq] at this
              cases this
            clear hb5 hb6 hb56 z z6 HQd HIs
            go_wp2
            refine bodyPost_ret (v := .tuple #[.slice none 0 0, .bool false]) (by simp [results, Try.results36, go_sem]) rfl ?_
            exact ⟨false, none, 0, [], rfl, HO6.out.2.2, .inl rfl, .inr ⟨rfl, rfl, HNo.out⟩⟩
          | true =>
            have HG1 : Hid (GoodK perm (K.take (k + 1))) := by
              intro x hx
              rw [List.take_add_one, List.getElem?_eq_getElem hkK] at hx
              rcases List.mem_append.1 hx with hx | hx
              · exact HQ.out.2.2.2.1 x hx
              · have e : x = K[k] := by simpa using hx
                rw [e, ← HKy.out.1]
                exact ⟨hsz, by rw [← HQq.out]; exact hq⟩
            have hz3r : w3.heap.size ≤ w6.heap.size := by omega
            have HO7 : Hid ((w6.alloc (.cells #[.int .i64 qd.s, .int .i64 qd.p, .int .i64 qd.o, .int .i64 qd.g] 36)).ownsRow w3.heap.size 36 4 (.slice ar rl cr) rl (quadL R) ∧ (∀ j u, (quadL [qd])[j]? = some u → (w6.alloc (.cells #[.int .i64 qd.s, .int .i64 qd.p, .int .i64 qd.o, .int .i64 qd.g] 36)).cell? ⟨w6.heap.size, j, none⟩ = some u)) := by
              refine ⟨own_below HO6.out.1 (below_alloc _ _), fun j u hj => ?_⟩
              rw [(Bx.new w6 #[.int .i64 qd.s, .int .i64 qd.p, .int .i64 qd.o, .int .i64 qd.g] 36).cell j]
              simpa [quadL] using hj
            clear hb5 hb6 hb56 z z6 HQd HIs
            go_wp2_with (at_builtin; refine wpList_append_own_at _ rfl _ _ 52 rfl w3.heap.size 36 i0 _ 4 32 Try.underlying52 HI.out.1 HI.out.2.1 HI.out.2.2.1 HI.out.2.2.2 rfl (by decide) (.slice ar rl cr) rl (quadL R) rfl HO7.out.1 ⟨w6.heap.size, 0, none⟩ 1 1 (quadL [qd]) rfl rfl (fun j u hj => by rw [Addr.add_lit, Nat.zero_add]; exact HO7.out.2 j u hj) (by intro u hu; simp [quadL] at hu; rcases hu with rfl | rfl | rfl | rfl <;> rfl) (by unfold maxLen; omega) (by omega) (by simp; omega) ?_)
            intro v7 w7 ho7 hg7 _ hat7
            have H7 : Hid (GoodK perm (K.take (k + 1)) ∧ w7.ownsRow w3.heap.size 36 4 v7 (R ++ [qd]).length (quadL (R ++ [qd])) ∧ Below w3.heap.size w3 w7) := by
              refine ⟨HG1.out, by rw [quadL_app, List.length_append, ← HRl.out]; exact ho7, ?_⟩
              exact (HO6.out.2.1.trans ((below_alloc _ _).mono hz3r)).grown hg7 (by simp; omega) (fun g e => (own_lt HQ.out.1 g e).1)
            have HN : Hid (R ++ [qd] = (K.take (k + 1)).map (quadOf perm)) := by
              show R ++ [qd] = _
              rw [List.take_add_one, List.getElem?_eq_getElem hkK, List.map_append, ← HQ.out.2.2.1, HQq.out, HKy.out.1]
              rfl
            obtain ⟨a7, c7, e7, _⟩ := own_form ho7
            subst e7
            clear ho7 hg7 hat7 HO7
            go_wp2
            go_roundw
            case rel => exact ⟨k + 1, R ++ [qd], by omega, by go_num, HN.out, H7.out⟩
            case measure => simp [intOf]; omega
        · have hszi : ¬ (key.size : Int) = 16 := by omega
          have HNo : Hid (¬ GoodK perm K) := fun h => hsz (h key HKy.out.2).1
          go_wp2
          refine bodyPost_ret (v := .tuple #[.slice none 0 0, .bool false]) (by simp [results, Try.results36, go_sem]) rfl ?_
          exact ⟨false, none, 0, [], rfl, HBw.out, .inl rfl, .inr ⟨rfl, rfl, HNo.out⟩⟩
      · obtain rfl : k = kl := by omega
        have k1 : ¬ (k : Int) < (k : Int) := by omega
        have HF : Hid (RdQ wr ar R ∧ rl = R.length ∧ R = K.map (quadOf perm) ∧ GoodK perm K) := by
          have ho := HQ.out.1
          rw [HRl.out] at ho
          have e : K.take k = K := by rw [HKL.out, List.take_length]
          refine ⟨own_rdq ho, HRl.out, ?_, ?_⟩
          · rw [HQ.out.2.2.1, e]
          · have := HQ.out.2.2.2.1
            rw [e] at this
            exact this
        go_wp2
        refine bodyPost_ret (v := .tuple #[.slice ar rl cr, .bool true]) (by simp [results, Try.results36, go_sem]) rfl ?_
        exact ⟨true, ar, cr, R, by rw [← HF.out.2.1], HBw.out, HF.out.1, .inl ⟨rfl, HF.out.2.2.1, HF.out.2.2.2⟩⟩
  · have HC : Hid (Calls Try.prog 109 #[.pointer (some p), .slice none 0 0, .string { data := #[] }, .string { data := #[] }] w (RetGa w.heap.size w ([] ++ fil { data := #[] } { data := #[] } K))) := hcall w none 0 0 [] (Below.refl _ _) (Nat.le_refl _) (World.ownsRow_nil _ _ _ _) rfl (by omega)
    clear hcall
    rw [List.nil_append, fil_all] at HC
    go_enter Try.func36, Try.ntmps36
    go_wp2_with fail
    (with_reducible refine HC.out.mono ?_)
    rintro e w3 ⟨a3, c3, rfl, ho3, hb3⟩
    obtain ⟨kl, hkl⟩ : ∃ kl, kl = K.length := ⟨_, rfl⟩
    have HKL : Hid (kl = K.length) := hkl
    have S3 : Hid (RdS w3 a3 kl (gt K) ∧ Below w.heap.size w w3) := by
      obtain ⟨a6, c6, e6, q, _⟩ := ownS_strL ho3 rfl
      injection e6 with e6 _ _
      subst e6
      exact ⟨by rw [hkl]; exact q.rd, hb3⟩
    rw [← hkl] at hlen ⊢
    clear hkl ho3 hb3 HC
    go_wp2
    go_loopw [4, 6, 7, 14] (fun out _ _ i wr => ∃ (k : Nat) (R : List Qd), k ≤ kl ∧ i = .int .i64 k ∧ R = (K.take k).map (quadOf perm) ∧ GoodK perm (K.take k) ∧ wr.ownsRow w3.heap.size 36 4 out R.length (quadL R) ∧ Below w3.heap.size w3 wr) (fun _ _ _ i _ => kl - (intOf i).toNat)
    case atStart => exact ⟨0, [], Nat.zero_le _, rfl, rfl, (fun k hk => by simp at hk), World.ownsRow_nil _ _ _ _, Below.refl _ _⟩
    case round =>
      obtain ⟨k, R, hk, rfl, hR, hgd, hown, hbel⟩ := hrel
      obtain ⟨ar, cr, er, _⟩ := own_form hown
      subst er
      have hRl : R.length = k := by rw [hR, List.length_map, List.length_take, ← HKL.out]; omega
      have HQ : Hid (wr.ownsRow w3.heap.size 36 4 (.slice ar R.length cr) R.length (quadL R) ∧ Below w3.heap.size w3 wr ∧ R = (K.take k).map (quadOf perm) ∧ GoodK perm (K.take k) ∧ R.length = k) := ⟨hown, hbel, hR, hgd, hRl⟩
      clear hown hbel hR hgd hRl
      obtain ⟨rl, hrl⟩ : ∃ rl, rl = R.length := ⟨_, rfl⟩
      have HRl : Hid (rl = R.length) := hrl
      have hrlk : rl = k := hrl.trans HQ.out.2.2.2.2
      have hrlk1 : rl ≤ k := by omega
      rw [← hrl] at HQ ⊢
      clear hrl hrlk
      have k0 : (0 : Int) ≤ (k : Int) := by omega
      have HBw : Hid (Below w.heap.size w wr) := S3.out.2.trans (HQ.out.2.1.mono S3.out.2.size)
      by_cases hlt : k < kl
      · have k1 : (k : Int) < (kl : Int) := by omega
        have hkK : k < K.length := by rw [← HKL.out]; exact hlt
        obtain ⟨bb, oo, ea2, s1⟩ := (S3.out.1.below HQ.out.2.1).cellOf k hlt
        obtain ⟨key, hkey⟩ : ∃ key, key = gt K k := ⟨_, rfl⟩
        rw [← hkey] at s1
        have HKy : Hid (key = K[k] ∧ key ∈ K) := by
          have e : key = K[k] := by rw [hkey, gt_in hkK]
          exact ⟨e, by rw [e]; exact List.getElem_mem hkK⟩
        have l0 : wr.cell? ⟨b, o, none⟩ = some (.func (.func (layF perm)) #[] #[]) := by
          rw [HBw.out.cell (show b < w.heap.size from HP.out.2.2)]
          exact HP.out.2.1
        clear hkey hc1
        subst ea2
        by_cases hsz : key.size = 16
        · have hszi : (key.size : Int) = 16 := by omega
          have HQd : Hid (Calls Try.prog 55 #[.func (.func (layF perm)) #[] #[], .string key] wr fun e w' => e = .returned (qv (quadOf perm key)) ∧ Below wr.heap.size wr w') := quad_any perm HP.out.1 key hsz wr
          go_wp2_with fail
          (with_reducible refine HQd.out.mono ?_)
          rintro e w5 ⟨rfl, hb5⟩
          obtain ⟨qd, hqd⟩ : ∃ qd, qd = quadOf perm key := ⟨_, rfl⟩
          have HQq : Hid (qd = quadOf perm key) := hqd
          have HIs : Hid (∀ W : World, Calls Try.prog 56 #[.agg #[.int .i64 qd.s, .int .i64 qd.p, .int .i64 qd.o, .int .i64 qd.g]] W fun e w' => e = .returned (.bool (quadB qd)) ∧ Below W.heap.size W w') := fun W => isQuad_any qd W
          rw [← hqd]
          clear hqd
          unfold qv
          go_wp2_with fail
          (with_reducible refine (HIs.out _).mono ?_)
          rintro e w6 ⟨rfl, hb6⟩
          have z := (Bx.new w5 #[.int .i64 qd.s, .int .i64 qd.p, .int .i64 qd.o, .int .i64 qd.g] 36)
          have hz5 := hb5.size
          have hz6 := hb6.size
          have hz3 := HQ.out.2.1.size
          simp only [World.size_alloc] at hz6
          have hb56 : Below w5.heap.size w5 w6 := (below_alloc w5 (.cells #[.int .i64 qd.s, .int .i64 qd.p, .int .i64 qd.o, .int .i64 qd.g] 36)).trans (hb6.mono (by simp))
          have z6 : Bx w6 w5.heap.size 36 #[.int .i64 qd.s, .int .i64 qd.p, .int .i64 qd.o, .int .i64 qd.g] := (hb6.block _ (by simp)).trans z
          have y0 := z6.cell 0
          have y1 := z6.cell 1
          have y2 := z6.cell 2
          have y3 := z6.cell 3
          simp at y0 y1 y2 y3
          have HO6 : Hid (w6.ownsRow w3.heap.size 36 4 (.slice ar rl cr) rl (quadL R) ∧ Below w3.heap.size w3 w6 ∧ Below w.heap.size w w6) := by
            have q1 : Below wr.heap.size wr w6 := hb5.trans (hb56.mono hz5)
            have q2 : Below w3.heap.size w3 w6 := HQ.out.2.1.trans (q1.mono hz3)
            exact ⟨own_below HQ.out.1 q1, q2, S3.out.2.trans (q2.mono S3.out.2.size)⟩
          cases hq : quadB qd with
          | false =>
            have HNo : Hid (¬ GoodK perm K) := fun h => by
              have := (h key HKy.out.2).2
              rw [← HQq.out, hq] at this
              cases this
            clear hb5 hb6 hb56 z z6 HQd HIs
            go_wp2
            refine bodyPost_ret (v := .tuple #[.slice none 0 0, .bool false]) (by simp [results, Try.results36, go_sem]) rfl ?_
            exact ⟨false, none, 0, [], rfl, HO6.out.2.2, .inl rfl, .inr ⟨rfl, rfl, HNo.out⟩⟩
          | true =>
            have HG1 : Hid (GoodK perm (K.take (k + 1))) := by
              intro x hx
              rw [List.take_add_one, List.getElem?_eq_getElem hkK] at hx
              rcases List.mem_append.1 hx with hx | hx
              · exact HQ.out.2.2.2.1 x hx
              · have e : x = K[k] := by simpa using hx
                rw [e, ← HKy.out.1]
                exact ⟨hsz, by rw [← HQq.out]; exact hq⟩
            have hz3r : w3.heap.size ≤ w6.heap.size := by omega
            have HO7 : Hid ((w6.alloc (.cells #[.int .i64 qd.s, .int .i64 qd.p, .int .i64 qd.o, .int .i64 qd.g] 36)).ownsRow w3.heap.size 36 4 (.slice ar rl cr) rl (quadL R) ∧ (∀ j u, (quadL [qd])[j]? = some u → (w6.alloc (.cells #[.int .i64 qd.s, .int .i64 qd.p, .int .i64 qd.o, .int .i64 qd.g] 36)).cell? ⟨w6.heap.size, j, none⟩ = some u)) := by
              refine ⟨own_below HO6.out.1 (below_alloc _ _), fun j u hj => ?_⟩
              rw [(Bx.new w6 #[.int .i64 qd.s, .int .i64 qd.p, .int .i64 qd.o, .int .i64 qd.g] 36).cell j]
              simpa [quadL] using hj
            clear hb5 hb6 hb56 z z6 HQd HIs
            go_wp2_with (at_builtin; refine wpList_append_own_at _ rfl _ _ 52 rfl w3.heap.size 36 i0 _ 4 32 Try.underlying52 HI.out.1 HI.out.2.1 HI.out.2.2.1 HI.out.2.2.2 rfl (by decide) (.slice ar rl cr) rl (quadL R) rfl HO7.out.1 ⟨w6.heap.size, 0, none⟩ 1 1 (quadL [qd]) rfl rfl (fun j u hj => by rw [Addr.add_lit, Nat.zero_add]; exact HO7.out.2 j u hj) (by intro u hu; simp [quadL] at hu; rcases hu with rfl | rfl | rfl | rfl <;> rfl) (by unfold maxLen; omega) (by omega) (by simp; omega) ?_)
            intro v7 w7 ho7 hg7 _ hat7
            have H7 : Hid (GoodK perm (K.take (k + 1)) ∧ w7.ownsRow w3.heap.size 36 4 v7 (R ++ [qd]).length (quadL (R ++ [qd])) ∧ Below w3.heap.size w3 w7) := by
              refine ⟨HG1.out, by rw [quadL_app, List.length_append, ← HRl.out]; exact ho7, ?_⟩
              exact (HO6.out.2.1.trans ((below_alloc _ _).mono hz3r)).grown hg7 (by simp; omega) (fun g e => (own_lt HQ.out.1 g e).1)
            have HN : Hid (R ++ [qd] = (K.take (k + 1)).map (quadOf perm)) := by
              show R ++ [qd] = _
              rw [List.take_add_one, List.getElem?_eq_getElem hkK, List.map_append, ← HQ.out.2.2.1, HQq.out, HKy.out.1]
              rfl
            obtain ⟨a7, c7, e7, _⟩ := own_form ho7
            subst e7
            clear ho7 hg7 hat7 HO7
            go_wp2
            go_roundw
            case rel => exact ⟨k + 1, R ++ [qd], by omega, by go_num, HN.out, H7.out⟩
            case measure => simp [intOf]; omega
        · have hszi : ¬ (key.size : Int) = 16 := by omega
          have HNo : Hid (¬ GoodK perm K) := fun h => hsz (h key HKy.out.2).1
          go_wp2
          refine bodyPost_ret (v := .tuple #[.slice none 0 0, .bool false]) (by simp [results, Try.results36, go_sem]) rfl ?_
          exact ⟨false, none, 0, [], rfl, HBw.out, .inl rfl, .inr ⟨rfl, rfl, HNo.out⟩⟩
      · obtain rfl : k = kl := by omega
        have k1 : ¬ (k : Int) < (k : Int) := by omega
        have HF : Hid (RdQ wr ar R ∧ rl = R.length ∧ R = K.map (quadOf perm) ∧ GoodK perm K) := by
          have ho := HQ.out.1
          rw [HRl.out] at ho
          have e : K.take k = K := by rw [HKL.out, List.take_length]
          refine ⟨own_rdq ho, HRl.out, ?_, ?_⟩
          · rw [HQ.out.2.2.1, e]
          · have := HQ.out.2.2.2.1
            rw [e] at this
            exact this
        go_wp2
        refine bodyPost_ret (v := .tuple #[.slice ar rl cr, .bool true]) (by simp [results, Try.results36, go_sem]) rfl ?_
        exact ⟨true, ar, cr, R, by rw [← HF.out.2.1], HBw.out, HF.out.1, .inl ⟨rfl, HF.out.2.2.1, HF.out.2.2.2⟩⟩
end Go.Proofs.Ytcnollkkigiobaa

namespace Go.Proofs.Ytcnollkkigiobaa
open Go.RowKit Go.Deep
set_option linter.unusedVariables false
set_option maxRecDepth 100000

theorem pk_inj {k k' : ByteArray} {i : Nat} (h : pk k i = pk k' i) : ∀ n, n < 4 → kb k (4 * i + n) = kb k' (4 * i + n) := by
  have e1 : ∀ q : ByteArray, pkn q i 1 = kb q (4 * i + 0) := fun q => by show 256 * 0 + kb q (4 * i + 0) = _; omega
  have e2 : ∀ q : ByteArray, pkn q i 2 = 256 * pkn q i 1 + kb q (4 * i + 1) := fun _ => rfl
  have e3 : ∀ q : ByteArray, pkn q i 3 = 256 * pkn q i 2 + kb q (4 * i + 2) := fun _ => rfl
  have e4 : ∀ q : ByteArray, pk q i = 256 * pkn q i 3 + kb q (4 * i + 3) := fun _ => rfl
  have r : ∀ (q : ByteArray) (n : Nat), 0 ≤ kb q (4 * i + n) ∧ kb q (4 * i + n) < 256 := fun q n => kb_range q _
  intro n hn
  have a1 := e1 k; have a2 := e2 k; have a3 := e3 k; have a4 := e4 k
  have b1 := e1 k'; have b2 := e2 k'; have b3 := e3 k'; have b4 := e4 k'
  have r0 := r k 0; have r1 := r k 1; have r2 := r k 2; have r3 := r k 3
  have s0 := r k' 0; have s1 := r k' 1; have s2 := r k' 2; have s3 := r k' 3
  rcases (show n = 0 ∨ n = 1 ∨ n = 2 ∨ n = 3 by omega) with rfl | rfl | rfl | rfl <;> omega
theorem posF_onto (perm : Nat) (hp : perm < 6) (i : Nat) (hi : i < 4) : ∃ s, s < 4 ∧ posF perm s = i := by
  rcases (show perm = 0 ∨ perm = 1 ∨ perm = 2 ∨ perm = 3 ∨ perm = 4 ∨ perm = 5 by omega) with rfl | rfl | rfl | rfl | rfl | rfl <;> rcases (show i = 0 ∨ i = 1 ∨ i = 2 ∨ i = 3 by omega) with rfl | rfl | rfl | rfl <;>
    first | exact ⟨0, by omega, rfl⟩ | exact ⟨1, by omega, rfl⟩ | exact ⟨2, by omega, rfl⟩ | exact ⟨3, by omega, rfl⟩
theorem quadOf_inj {perm : Nat} (hp : perm < 6) {k k' : ByteArray} (hk : k.size = 16) (hk' : k'.size = 16) (h : quadOf perm k = quadOf perm k') : k = k' := by
  injection h with h0 h1 h2 h3
  have hall : ∀ i, i < 4 → pk k i = pk k' i := fun i hi => by
    obtain ⟨s, hs, e⟩ := posF_onto perm hp i hi
    rw [← e]
    rcases (show s = 0 ∨ s = 1 ∨ s = 2 ∨ s = 3 by omega) with rfl | rfl | rfl | rfl
    · exact h0
    · exact h1
    · exact h2
    · exact h3
  have hb : ∀ m, m < 16 → kb k m = kb k' m := fun m hm => by
    have := pk_inj (hall (m / 4) (by omega)) (m % 4) (by omega)
    rw [show 4 * (m / 4) + m % 4 = m by omega] at this
    exact this
  apply ByteArray.ext
  apply Array.ext
  · show k.size = k'.size
    rw [hk, hk']
  · intro m h1 h2
    obtain ⟨x, ex, ebx⟩ := kb_get (k := k) (i := m) h1
    obtain ⟨y, ey, eby⟩ := kb_get (k := k') (i := m) h2
    have hxy := hb m (by rw [← hk]; exact h1)
    rw [ebx, eby] at hxy
    have hxy2 : x = y := by
      apply UInt8.toNat_inj.1
      omega
    have gx : k.data[m]? = some x := by
      rw [← ex]
      first | rfl | simp
    have gy : k'.data[m]? = some y := by
      rw [← ey]
      first | rfl | simp
    rw [Array.getElem?_eq_getElem h1] at gx
    rw [Array.getElem?_eq_getElem h2] at gy
    injection gx with gx
    injection gy with gy
    rw [gx, gy, hxy2]
theorem quads_nodup {perm : Nat} (hp : perm < 6) {K : List ByteArray} (hasc : Asc K) (hk : ∀ k, k ∈ K → k.size = 16) : (K.map (quadOf perm)).Nodup := by
  rw [List.Nodup, List.pairwise_map]
  refine List.Pairwise.imp_of_mem (fun {a b} ha hb hlt e => ?_) hasc
  have := quadOf_inj hp (hk a ha) (hk b hb) e
  subst this
  rw [less_irrefl] at hlt
  cases hlt
end Go.Proofs.Ytcnollkkigiobaa

namespace Go.Proofs.Ytcnollkkigiobaa
open Go.RowKit Go.Deep
set_option linter.unusedVariables false
set_option maxRecDepth 100000

/-- The orders, as a row. -/
def layA : Array Value := #[.func (.func 48) #[] #[], .func (.func 49) #[] #[], .func (.func 50) #[] #[], .func (.func 51) #[] #[], .func (.func 52) #[] #[], .func (.func 53) #[] #[]]
theorem lay_idx (j : Nat) (hj : j < 6) (w : World) : (Instr.index 87 (.agg layA) (.int .i64 (j : Int))).run Try.prog w = .ok (.func (.func (layF j)) #[] #[]) w := by
  rcases (show j = 0 ∨ j = 1 ∨ j = 2 ∨ j = 3 ∨ j = 4 ∨ j = 5 by omega) with rfl | rfl | rfl | rfl | rfl | rfl
  · exact idx_0 w
  · exact idx_1 w
  · exact idx_2 w
  · exact idx_3 w
  · exact idx_4 w
  · exact idx_5 w
/-- Tree q of an index that was read. -/
def XT (B : Nat) (w : World) (A : Array Value) (M : Nat → Nat) (T : Nat → Nat → Tn) (q : Nat) : Prop :=
  A[q * 2]? = some (.func (.func (layF q)) #[] #[]) ∧ ∃ (t : Ro (M q)) (t' : Ro 21) (h : Nat) (v : Value), VTt (M q) (T q) t' ∧ keysR 21 t' = keysR (M q) t ∧ BalR (M q) true t h ∧ Tells (T q) 0 (M q) t 0 ∧ nodesR (M q) t = M q ∧ TAt (fun b => B ≤ b) w (M q) t v ∧ A[q * 2 + 1]? = some v
theorem XT.keep {B : Nat} {w w' : World} {A : Array Value} {M : Nat → Nat} {T : Nat → Nat → Tn} {q : Nat} (h : XT B w A M T q) (hz : w.heap.size ≤ w'.heap.size) (hb : ∀ k, k < w.heap.size → B ≤ k → w'.heap[k]? = w.heap[k]?) : XT B w' A M T q := by
  obtain ⟨h0, t, t', hh, v, h1, h2, h3, h4, h5, h6, h7⟩ := h
  exact ⟨h0, t, t', hh, v, h1, h2, h3, h4, h5, h6.mono hz (fun b hB hlt => ⟨hB, hb b hlt hB⟩), h7⟩
/-- The memory of readIndex once j trees were read. -/
structure IS (w W : World) (a : Option Addr) (c : Nat) (M : Nat → Nat) (T : Nat → Nat → Tn) (j : Nat) (A : Array Value) : Prop where
  ib : Bx W w.heap.size 29 #[.slice a 6 c]
  xb : Bx W (w.heap.size + 1) 84 A
  sz : A.size = 12
  bel : Below w.heap.size w W
  xt : ∀ q, q < j → XT (w.heap.size + 2) W A M T q
theorem IS.keep {w W W' : World} {a : Option Addr} {c : Nat} {M : Nat → Nat} {T : Nat → Nat → Tn} {j : Nat} {A : Array Value} (h : IS w W a c M T j A) (hb : Below W.heap.size W W') : IS w W' a c M T j A :=
  ⟨(hb.block _ h.ib.lt).trans h.ib, (hb.block _ h.xb.lt).trans h.xb, h.sz, h.bel.trans (hb.mono h.bel.size), fun q hq => (h.xt q hq).keep hb.size (fun k hk _ => hb.block k hk)⟩
theorem IS.put {w W : World} {a : Option Addr} {c : Nat} {M : Nat → Nat} {T : Nat → Nat → Tn} {j : Nat} {A : Array Value} (h : IS w W a c M T j A) (hj : j < 6) {t : Ro (M j)} {t' : Ro 21} {hh : Nat} {v : Value} (h1 : VTt (M j) (T j) t') (h2 : keysR 21 t' = keysR (M j) t) (h3 : BalR (M j) true t hh) (h4 : Tells (T j) 0 (M j) t 0) (h5 : nodesR (M j) t = M j) (h6 : TAt (fun b => w.heap.size + 2 ≤ b) W (M j) t v) :
    IS w ((W.setCell ⟨w.heap.size + 1, j * 2, none⟩ (.func (.func (layF j)) #[] #[])).setCell ⟨w.heap.size + 1, j * 2 + 1, none⟩ v) a c M T (j + 1) ((A.setIfInBounds (j * 2) (.func (.func (layF j)) #[] #[])).setIfInBounds (j * 2 + 1) v) := by
  have hz := h.sz
  have hk : ∀ k, w.heap.size + 2 ≤ k → ((W.setCell ⟨w.heap.size + 1, j * 2, none⟩ (.func (.func (layF j)) #[] #[])).setCell ⟨w.heap.size + 1, j * 2 + 1, none⟩ v).heap[k]? = W.heap[k]? := fun k hk => (Below.heap_setCell _ _ _ _ (by simp; omega)).trans (Below.heap_setCell _ _ _ _ (by simp; omega))
  refine ⟨(h.ib.other (by simp) _).other (by simp) _, (h.xb.set _ _).set _ _, by simp [hz], (h.bel.setCell (by simp) _).setCell (by simp) _, fun q hq => ?_⟩
  by_cases e : q = j
  · subst e
    refine ⟨?_, t, t', hh, v, h1, h2, h3, h4, h5, h6.mono (by simp) (fun b hB hlt => ⟨hB, hk b hB⟩), ?_⟩
    · rw [Array.getElem?_setIfInBounds_ne (by omega), Array.getElem?_setIfInBounds_self_of_lt (by omega)]
    · rw [Array.getElem?_setIfInBounds_self_of_lt (by simp; omega)]
  · obtain ⟨g0, s, s', sh, u, g1, g2, g3, g4, g5, g6, g7⟩ := h.xt q (by omega)
    refine ⟨?_, s, s', sh, u, g1, g2, g3, g4, g5, g6.mono (by simp) (fun b hB hlt => ⟨hB, hk b hB⟩), ?_⟩
    · rw [Array.getElem?_setIfInBounds_ne (by omega), Array.getElem?_setIfInBounds_ne (by omega)]
      exact g0
    · rw [Array.getElem?_setIfInBounds_ne (by omega), Array.getElem?_setIfInBounds_ne (by omega)]
      exact g7
theorem same_of {j m m0 : Nat} {N N0 : Nat → Tn} {t t0 : Ro 21} (hv : VTt m N t) (hv0 : VTt m0 N0 t0) {K : List ByteArray} (hK : keysR 21 t = K) : ((K.map (quadOf j)).length = ((keysR 21 t0).map (quadOf 0)).length ∧ ∀ q, q ∈ K.map (quadOf j) → q ∈ (keysR 21 t0).map (quadOf 0)) ↔ SameQ j m N m0 N0 := by
  subst hK
  constructor
  · rintro ⟨h1, h2⟩ s s0 hs hs0
    have e := vtt1 hv hs
    have e0 := vtt1 hv0 hs0
    subst e
    subst e0
    exact ⟨by simpa using h1, fun k hk => h2 _ (List.mem_map_of_mem hk)⟩
  · intro h
    obtain ⟨h1, h2⟩ := h t t0 hv hv0
    refine ⟨by simpa using h1, fun q hq => ?_⟩
    obtain ⟨k, hk, rfl⟩ := List.mem_map.1 hq
    exact h2 k hk
/-- The quads of the first tree. -/
def Fst (W : World) (M : Nat → Nat) (T : Nat → Nat → Tn) (j : Nat) (f : Value) : Prop :=
  1 ≤ j → ∃ (B : Nat) (t : Ro 21), f = .map (some B) ∧ VTt (M 0) (T 0) t ∧ QMap W B ((keysR 21 t).map (quadOf 0))
theorem Fst.keep {W W' : World} {M : Nat → Nat} {T : Nat → Nat → Tn} {j : Nat} {f : Value} (h : Fst W M T j f) (hb : Below W.heap.size W W') : Fst W' M T j f := fun hj => by
  obtain ⟨B, t, h1, h2, h3⟩ := h hj
  exact ⟨B, t, h1, h2, h3.below hb⟩
theorem Fst.put {W : World} {M : Nat → Nat} {T : Nat → Nat → Tn} {j b i i' : Nat} {f u u' : Value} {A : Array Value} {ty : TypeId} (h : Fst W M T j f) (hx : Bx W b ty A) : Fst ((W.setCell ⟨b, i, none⟩ u).setCell ⟨b, i', none⟩ u') M T j f := fun hj => by
  obtain ⟨B, t, h1, h2, h3⟩ := h hj
  refine ⟨B, t, h1, h2, h3.kept ?_⟩
  have hne : B ≠ b := by
    rintro rfl
    obtain ⟨es, cl, g, _⟩ := h3
    have hx' : W.heap[B]? = _ := hx
    rw [g] at hx'
    cases hx'
  exact (Below.heap_setCell _ _ _ _ hne).trans (Below.heap_setCell _ _ _ _ hne)
/-- What was found good in the first j trees. -/
def VIj (M : Nat → Nat) (T : Nat → Nat → Tn) (j : Nat) : Prop := (∀ q, q < j → OkT q (M q) (T q)) ∧ ∀ i, 1 ≤ i → i < j → SameQ i (M i) (T i) (M 0) (T 0)
/-- What readIndex leaves. -/
def RetIx (w : World) (a : Option Addr) (n c : Nat) (M : Nat → Nat) (T : Nat → Nat → Tn) (e : Ending) (w' : World) : Prop :=
  (e = .returned (.tuple #[.pointer none, .bool false]) ∧ ¬ VI n M T ∧ Below w.heap.size w w') ∨ (e = .returned (.tuple #[.pointer (some ⟨w.heap.size + 1, 0, none⟩), .bool true]) ∧ VI n M T ∧ ∃ A, IS w w' a c M T 6 A)

set_option maxHeartbeats 16000000 in
theorem readIndex_any (a : Option Addr) (n c : Nat) (M : Nat → Nat) (T : Nat → Nat → Tn) (w : World) (h : RdIx w a n M T) (hn : n ≤ 1048576) (hN : IxFit n M T) :
    Calls Try.prog 21 #[.agg #[.slice a n c]] w (RetIx w a n c M T) := by
  by_cases h6 : n = 6
  case neg =>
    have h6i : ¬ (n : Int) = 6 := by omega
    have h6d : ((n : Int) != 6) = true := by simp; omega
    have HF : Hid (¬ VI n M T) := fun q => h6 q.1
    clear h hN
    go_enter Try.func21, Try.ntmps21
    go_wp2
    refine bodyPost_ret (v := .tuple #[.pointer none, .bool false]) (by simp [results, Try.results21, go_sem]) rfl ?_
    exact .inl ⟨rfl, HF.out, below_alloc _ _⟩
  case pos =>
  subst h6
  have HR : Hid (RdIx w a 6 M T ∧ IxFit 6 M T) := ⟨h, hN⟩
  have HOr : Hid (∀ W : World, Calls Try.prog 34 #[] W fun e w' => e = .returned (.agg layA) ∧ Below W.heap.size W w') := orders_any
  clear h hN hn
  go_enter Try.func21, Try.ntmps21
  go_wp2_with fail
  (with_reducible refine (HOr.out _).mono ?_)
  rintro e w0 ⟨rfl, hb0⟩
  have I0 : Hid (∃ A, IS w w0 a c M T 0 A) := by
    have b1 := Bx.new w #[.slice a 6 c] 29
    have b2 := Bx.new (w.alloc (.cells #[.slice a 6 c] 29)) #[.nilFunc, .nilIface, .nilFunc, .nilIface, .nilFunc, .nilIface, .nilFunc, .nilIface, .nilFunc, .nilIface, .nilFunc, .nilIface] 84
    simp only [World.size_alloc] at b2
    exact ⟨_, (hb0.block _ (by simp; omega)).trans (b1.alloc _), (hb0.block _ (by simp)).trans b2, rfl, ((below_alloc _ _).alloc (by simp) _).trans (hb0.mono (by simp; omega)), fun q hq => absurd hq (Nat.not_lt_zero _)⟩
  clear hb0 HOr
  go_wp2_with fail
  go_loopw [5, 6, 7, 8, 9, 10, 18] (fun f _ _ _ _ _ i wr => ∃ (j : Nat) (A : Array Value), j ≤ 6 ∧ i = .int .i64 j ∧ IS w wr a c M T j A ∧ Fst wr M T j f ∧ VIj M T j) (fun _ _ _ _ _ _ i _ => 6 - (intOf i).toNat)
  case atStart =>
    obtain ⟨A, h⟩ := I0.out
    exact ⟨0, A, by omega, rfl, h, fun h => absurd h (by omega), fun q hq => absurd hq (Nat.not_lt_zero _), fun i _ h2 => absurd h2 (by omega)⟩
  case round =>
    obtain ⟨j, A, hj, rfl, hIS, hF, hV⟩ := hrel
    have HS : Hid (IS w wr a c M T j A ∧ VIj M T j) := ⟨hIS, hV⟩
    have HFs : Hid (Fst wr M T j u5) := hF
    have j0 : (0 : Int) ≤ (j : Int) := by omega
    clear hF hV I0
    by_cases hlt : j < 6
    · have j1 : (j : Int) < 6 := by omega
      have b0 := hIS.ib.cell 0
      simp at b0
      have bl := hIS.ib.lt
      have hix := lay_idx j hlt
      rcases HR.out.1.below hIS.bel with q | ⟨bb, oo, ea, hc⟩
      · omega
      obtain ⟨aj, cj, s0, hrd⟩ := hc j hlt
      have hfit := HR.out.2 j hlt
      obtain ⟨m, hm⟩ : ∃ m, m = M j := ⟨_, rfl⟩
      have HM : Hid (m = M j) := hm
      have HRt : Hid (Calls Try.prog 35 #[.agg #[.slice aj m cj]] wr (RetTree wr (M j) (T j))) := by
        rw [hm]
        exact readTree_any aj (M j) cj (T j) wr hrd hfit.1 hfit.2
      rw [← hm] at s0
      subst ea
      clear hc hrd hfit hm hIS
      go_wp2_with fail
      (with_reducible refine HRt.out.mono ?_)
      rintro e w1 ⟨hb1, v, ok, rfl, hr⟩
      have H1 : Hid (IS w w1 (some ⟨bb, oo, none⟩) c M T j A ∧ Fst w1 M T j u5 ∧ VIj M T j ∧ wr.heap.size ≤ w1.heap.size ∧ w.heap.size + 2 ≤ wr.heap.size) := ⟨HS.out.1.keep hb1, HFs.out.keep hb1, HS.out.2, hb1.size, HS.out.1.xb.lt⟩
      clear hb1 HRt b0 bl s0 hix HFs
      cases ok with
      | false =>
        have HF : Hid (¬ VI 6 M T) := fun q => by
          obtain ⟨t, ht, _⟩ := q.2.1 j hlt
          rcases hr with ⟨q, _⟩ | ⟨_, hno⟩
          · cases q
          · exact hno ⟨t, ht⟩
        clear hr
        go_wp2
        refine bodyPost_ret (v := .tuple #[.pointer none, .bool false]) (by simp [results, Try.results21, go_sem]) rfl ?_
        exact .inl ⟨rfl, HF.out, H1.out.1.bel⟩
      | true =>
        obtain ⟨t, t', hh, q1, q2, q3, q4, q5, q6⟩ : ∃ (t : Ro (M j)) (t' : Ro 21) (h : Nat), VTt (M j) (T j) t' ∧ keysR 21 t' = keysR (M j) t ∧ BalR (M j) true t h ∧ Tells (T j) 0 (M j) t 0 ∧ nodesR (M j) t = M j ∧ TAt (fun b => wr.heap.size ≤ b) w1 (M j) t v := by
          rcases hr with ⟨_, q⟩ | ⟨q, _⟩
          · exact q
          · cases q
        have HT : Hid (VTt (M j) (T j) t' ∧ keysR 21 t' = keysR (M j) t ∧ BalR (M j) true t hh ∧ Tells (T j) 0 (M j) t 0 ∧ nodesR (M j) t = M j ∧ TAt (fun b => wr.heap.size ≤ b) w1 (M j) t v) := ⟨q1, q2, q3, q4, q5, q6⟩
        obtain ⟨nb, _, hnb, c0, hv⟩ := q6.count
        obtain ⟨kl, hkl⟩ : ∃ kl, kl = (keysR (M j) t).length := ⟨_, rfl⟩
        have HKL : Hid (kl = (keysR (M j) t).length) := hkl
        rw [← hkl] at c0
        have HBe : Hid (Calls Try.prog 76 #[.pointer (some ⟨nb, 0, none⟩)] w1 fun e w' => e = .returned (.int .i64 (kl : Int)) ∧ w' = w1) := below_any nb kl w1 c0
        clear hr q1 q2 q3 q4 q5 q6 hkl hnb c0
        rcases hv with rfl | rfl
        · go_wp2_with fail
          (with_reducible refine HBe.out.mono ?_)
          rintro e w2 ⟨rfl, hw2⟩
          subst hw2
          by_cases h300 : 300 < kl
          · have i300 : (300 : Int) < (kl : Int) := by omega
            have i300d : decide ((300 : Int) < (kl : Int)) = true := decide_eq_true i300
            have HF : Hid (¬ VI 6 M T) := fun q => by
              obtain ⟨t2, ht2, hl2, _⟩ := q.2.1 j hlt
              have e := vtt1 ht2 HT.out.1
              subst e
              rw [HT.out.2.1, ← HKL.out] at hl2
              omega
            go_wp2
            refine bodyPost_ret (v := .tuple #[.pointer none, .bool false]) (by simp [results, Try.results21, go_sem]) rfl ?_
            exact .inl ⟨rfl, HF.out, H1.out.1.bel⟩
          · have i300 : ¬ (300 : Int) < (kl : Int) := by omega
            have i300d : decide ((300 : Int) < (kl : Int)) = false := decide_eq_false i300
            have hx12 := H1.out.1.sz
            obtain ⟨y0, x0⟩ : ∃ y, w2.cell? ⟨w.heap.size + 1, j * 2, none⟩ = some y := ⟨A[j * 2], by rw [H1.out.1.xb.cell, Array.getElem?_eq_getElem (by omega)]⟩
            obtain ⟨y1, x1⟩ : ∃ y, w2.cell? ⟨w.heap.size + 1, j * 2 + 1, none⟩ = some y := ⟨A[j * 2 + 1], by rw [H1.out.1.xb.cell, Array.getElem?_eq_getElem (by omega)]⟩
            have f0 := H1.out.1.xb.frozen (j * 2)
            have f1 := H1.out.1.xb.frozen (j * 2 + 1)
            have xl := H1.out.1.xb.lt
            obtain ⟨W2, hW2⟩ : ∃ W2, W2 = (w2.setCell ⟨w.heap.size + 1, j * 2, none⟩ (.func (.func (layF j)) #[] #[])).setCell ⟨w.heap.size + 1, j * 2 + 1, none⟩ (.iface 135 (.pointer (some ⟨nb, 0, none⟩))) := ⟨_, rfl⟩
            have H2 : Hid (∃ A', IS w W2 (some ⟨bb, oo, none⟩) c M T (j + 1) A' ∧ Fst W2 M T j u5 ∧ Calls Try.prog 36 #[.pointer (some ⟨w.heap.size + 1, j * 2, none⟩)] W2 (RetQs W2 j (keysR (M j) t))) := by
              have q6 : TAt (fun b => w.heap.size + 2 ≤ b) w2 (M j) t (.iface 135 (.pointer (some ⟨nb, 0, none⟩))) := HT.out.2.2.2.2.2.mono (Nat.le_refl _) (fun b hB _ => ⟨Nat.le_trans H1.out.2.2.2.2 hB, rfl⟩)
              have hput := H1.out.1.put hlt HT.out.1 HT.out.2.1 HT.out.2.2.1 HT.out.2.2.2.1 HT.out.2.2.2.2.1 q6
              rw [← hW2] at hput
              refine ⟨_, hput, by rw [hW2]; exact H1.out.2.1.put H1.out.1.xb, ?_⟩
              refine quads_any j hlt (w.heap.size + 1) (j * 2) W2 (M j) t (.iface 135 (.pointer (some ⟨nb, 0, none⟩))) hh ?_ ?_ ?_ HT.out.2.2.1 ?_ (by rw [← HKL.out]; omega)
              · rw [hput.xb.cell, Array.getElem?_setIfInBounds_ne (by omega), Array.getElem?_setIfInBounds_self_of_lt (by omega)]
              · rw [hput.xb.cell, Array.getElem?_setIfInBounds_self_of_lt (by simp; omega)]
              · refine q6.mono (by rw [hW2]; simp) (fun b hB hlt => ⟨by rw [hW2]; simpa using hlt, ?_⟩)
                rw [hW2]
                exact (Below.heap_setCell _ _ _ _ (by simp; omega)).trans (Below.heap_setCell _ _ _ _ (by simp; omega))
              · rw [← HT.out.2.1]
                exact asc_of_ascK HT.out.1.2.2.2.2.1
            go_wp2_with fail
            rw [← hW2]
            clear hW2 x0 x1 f0 f1 xl hx12
            obtain ⟨A', g1, g2, g3⟩ := H2.out
            have HA : Hid (IS w W2 (some ⟨bb, oo, none⟩) c M T (j + 1) A' ∧ Fst W2 M T j u5) := ⟨g1, g2⟩
            have HQs : Hid (Calls Try.prog 36 #[.pointer (some ⟨w.heap.size + 1, j * 2, none⟩)] W2 (RetQs W2 j (keysR (M j) t))) := g3
            clear g1 g2 g3 H2
            (with_reducible refine HQs.out.mono ?_)
            rintro e w3 ⟨ok3, a3, c3, L, rfl, hb3, hrq, hr3⟩
            obtain ⟨l, hl⟩ : ∃ l, l = L.length := ⟨_, rfl⟩
            have H3 : Hid (IS w w3 (some ⟨bb, oo, none⟩) c M T (j + 1) A' ∧ Fst w3 M T j u5 ∧ RdQ w3 a3 L ∧ l = L.length) := ⟨HA.out.1.keep hb3, HA.out.2.keep hb3, hrq, hl⟩
            have hl3 : l ≤ 300 := by
              rcases hr3 with ⟨_, q, _⟩ | ⟨_, q, _⟩
              · rw [hl, q, List.length_map, ← HKL.out]; omega
              · rw [hl, q]; simp
            rw [← hl]
            clear hb3 hrq hl HA HQs
            cases ok3 with
            | false =>
              have HF : Hid (¬ VI 6 M T ∧ L.Nodup) := by
                rcases hr3 with ⟨q, _⟩ | ⟨_, q, hno⟩
                · cases q
                · refine ⟨fun q => ?_, by rw [q]; exact List.nodup_nil⟩
                  obtain ⟨t2, ht2, _, hg2⟩ := q.2.1 j hlt
                  have e := vtt1 ht2 HT.out.1
                  subst e
                  rw [HT.out.2.1] at hg2
                  exact hno hg2
              clear hr3
              by_cases hj0 : j = 0
              · have hj0i : (j : Int) = 0 := by omega
                have hj0b : ((j : Int) == 0) = true := by simp; omega
                have HSet : Hid (Calls Try.prog 37 #[.slice a3 l c3] w3 fun e w' => ∃ B, e = .returned (.map (some B)) ∧ QMap w' B L ∧ Below w3.heap.size w3 w' ∧ w3.heap.size ≤ B) := setOf_any a3 l c3 L w3 H3.out.2.2.1 H3.out.2.2.2 (by omega) HF.out.2
                go_wp2_with fail
                (with_reducible refine HSet.out.mono ?_)
                rintro e w4 ⟨Bm, rfl, hqm, hb4, _⟩
                have H4 : Hid (Below w.heap.size w w4) := H3.out.1.bel.trans (hb4.mono H3.out.1.bel.size)
                clear hb4 hqm
                go_wp2
                refine bodyPost_ret (v := .tuple #[.pointer none, .bool false]) (by simp [results, Try.results21, go_sem]) rfl ?_
                exact .inl ⟨rfl, HF.out.1, H4.out⟩
              · have hj0i : ¬ (j : Int) = 0 := by omega
                have hj0b : ((j : Int) == 0) = false := by simp; omega
                go_wp2
                refine bodyPost_ret (v := .tuple #[.pointer none, .bool false]) (by simp [results, Try.results21, go_sem]) rfl ?_
                exact .inl ⟨rfl, HF.out.1, H3.out.1.bel⟩
            | true =>
              have HG : Hid (L = (keysR (M j) t).map (quadOf j) ∧ GoodK j (keysR (M j) t) ∧ L.Nodup ∧ OkT j (M j) (T j)) := by
                rcases hr3 with ⟨_, q, hgd⟩ | ⟨q, _⟩
                · refine ⟨q, hgd, ?_, t', HT.out.1, by rw [HT.out.2.1, ← HKL.out]; omega, by rw [HT.out.2.1]; exact hgd⟩
                  rw [q]
                  refine quads_nodup hlt ?_ (fun k hk => (hgd k hk).1)
                  rw [← HT.out.2.1]
                  exact asc_of_ascK HT.out.1.2.2.2.2.1
                · cases q
              clear hr3
              by_cases hj0 : j = 0
              · have hj0i : (j : Int) = 0 := by omega
                have hj0b : ((j : Int) == 0) = true := by simp; omega
                have HSet : Hid (Calls Try.prog 37 #[.slice a3 l c3] w3 fun e w' => ∃ B, e = .returned (.map (some B)) ∧ QMap w' B L ∧ Below w3.heap.size w3 w' ∧ w3.heap.size ≤ B) := setOf_any a3 l c3 L w3 H3.out.2.2.1 H3.out.2.2.2 (by omega) HG.out.2.2.1
                go_wp2_with fail
                (with_reducible refine HSet.out.mono ?_)
                rintro e w4 ⟨Bm, rfl, hqm, hb4, _⟩
                have H4 : Hid (IS w w4 (some ⟨bb, oo, none⟩) c M T (j + 1) A' ∧ QMap w4 Bm L) := ⟨H3.out.1.keep hb4, hqm⟩
                have HIs : Hid (Calls Try.prog 38 #[.map (some Bm), .slice a3 l c3] w4 (RetIs w4 L L)) := isOf_any Bm a3 l c3 L L w4 hqm (H3.out.2.2.1.below hb4) H3.out.2.2.2 (by omega)
                clear hb4 hqm HSet
                go_wp2_with fail
                (with_reducible refine HIs.out.mono ?_)
                rintro e w5 ⟨bq, rfl, hbq, hb5⟩
                have ebq : bq = true := hbq.2 ⟨rfl, fun q hq => hq⟩
                subst ebq
                have H5 : Hid (IS w w5 (some ⟨bb, oo, none⟩) c M T (j + 1) A' ∧ Fst w5 M T (j + 1) (.map (some Bm)) ∧ VIj M T (j + 1)) := by
                  refine ⟨H4.out.1.keep hb5, fun _ => ⟨Bm, ?_⟩, fun q hq => ?_, fun i h1 h2 => ?_⟩
                  · have q1 := HT.out.1
                    have q2 := HT.out.2.1
                    have q3 := HG.out.1
                    have q4 := H4.out.2.below hb5
                    rw [← q2] at q3
                    rw [q3] at q4
                    clear HT HKL HBe HG H4 HIs H3 H1 HS HM hbq
                    subst hj0
                    exact ⟨t', rfl, q1, q4⟩
                  · have e : q = j := by omega
                    rw [e]
                    exact HG.out.2.2.2
                  · omega
                clear hb5 hbq
                go_wp2
                go_roundw
                case rel => exact ⟨j + 1, A', by omega, by go_num, H5.out⟩
                case measure => simp [intOf]; omega
              · have hj0i : ¬ (j : Int) = 0 := by omega
                have hj0b : ((j : Int) == 0) = false := by simp; omega
                obtain ⟨Bm, t0, ef, hv0, hqm⟩ := H3.out.2.1 (by omega)
                subst ef
                have HIs : Hid (Calls Try.prog 38 #[.map (some Bm), .slice a3 l c3] w3 (RetIs w3 L ((keysR 21 t0).map (quadOf 0)))) := isOf_any Bm a3 l c3 L _ w3 hqm H3.out.2.2.1 H3.out.2.2.2 (by omega)
                have HV0 : Hid (VTt (M 0) (T 0) t0) := hv0
                clear hqm hv0
                go_wp2_with fail
                (with_reducible refine HIs.out.mono ?_)
                rintro e w5 ⟨bq, rfl, hbq, hb5⟩
                have HB : Hid (bq = true ↔ SameQ j (M j) (T j) (M 0) (T 0)) := by
                  rw [HG.out.1, same_of HT.out.1 HV0.out HT.out.2.1] at hbq
                  exact hbq
                have H5 : Hid (IS w w5 (some ⟨bb, oo, none⟩) c M T (j + 1) A' ∧ Fst w5 M T j (.map (some Bm))) := ⟨H3.out.1.keep hb5, H3.out.2.1.keep hb5⟩
                clear hb5 hbq HIs
                cases bq with
                | false =>
                  have HF : Hid (¬ VI 6 M T) := fun q => by
                    have := HB.out.2 (q.2.2 j (by omega) hlt)
                    cases this
                  go_wp2
                  refine bodyPost_ret (v := .tuple #[.pointer none, .bool false]) (by simp [results, Try.results21, go_sem]) rfl ?_
                  exact .inl ⟨rfl, HF.out, H5.out.1.bel⟩
                | true =>
                  have H6 : Hid (Fst w5 M T (j + 1) (.map (some Bm)) ∧ VIj M T (j + 1)) := by
                    refine ⟨fun _ => H5.out.2 (by omega), fun q hq => ?_, fun i h1 h2 => ?_⟩
                    · by_cases e : q = j
                      · rw [e]
                        exact HG.out.2.2.2
                      · exact H1.out.2.2.1.1 q (by omega)
                    · by_cases e : i = j
                      · rw [e]
                        exact HB.out.1 rfl
                      · exact H1.out.2.2.1.2 i h1 (by omega)
                  go_wp2
                  go_roundw
                  case rel => exact ⟨j + 1, A', by omega, by go_num, H5.out.1, H6.out⟩
                  case measure => simp [intOf]; omega
        · go_wp2_with fail
          (with_reducible refine HBe.out.mono ?_)
          rintro e w2 ⟨rfl, hw2⟩
          subst hw2
          by_cases h300 : 300 < kl
          · have i300 : (300 : Int) < (kl : Int) := by omega
            have i300d : decide ((300 : Int) < (kl : Int)) = true := decide_eq_true i300
            have HF : Hid (¬ VI 6 M T) := fun q => by
              obtain ⟨t2, ht2, hl2, _⟩ := q.2.1 j hlt
              have e := vtt1 ht2 HT.out.1
              subst e
              rw [HT.out.2.1, ← HKL.out] at hl2
              omega
            go_wp2
            refine bodyPost_ret (v := .tuple #[.pointer none, .bool false]) (by simp [results, Try.results21, go_sem]) rfl ?_
            exact .inl ⟨rfl, HF.out, H1.out.1.bel⟩
          · have i300 : ¬ (300 : Int) < (kl : Int) := by omega
            have i300d : decide ((300 : Int) < (kl : Int)) = false := decide_eq_false i300
            have hx12 := H1.out.1.sz
            obtain ⟨y0, x0⟩ : ∃ y, w2.cell? ⟨w.heap.size + 1, j * 2, none⟩ = some y := ⟨A[j * 2], by rw [H1.out.1.xb.cell, Array.getElem?_eq_getElem (by omega)]⟩
            obtain ⟨y1, x1⟩ : ∃ y, w2.cell? ⟨w.heap.size + 1, j * 2 + 1, none⟩ = some y := ⟨A[j * 2 + 1], by rw [H1.out.1.xb.cell, Array.getElem?_eq_getElem (by omega)]⟩
            have f0 := H1.out.1.xb.frozen (j * 2)
            have f1 := H1.out.1.xb.frozen (j * 2 + 1)
            have xl := H1.out.1.xb.lt
            obtain ⟨W2, hW2⟩ : ∃ W2, W2 = (w2.setCell ⟨w.heap.size + 1, j * 2, none⟩ (.func (.func (layF j)) #[] #[])).setCell ⟨w.heap.size + 1, j * 2 + 1, none⟩ (.iface 140 (.pointer (some ⟨nb, 0, none⟩))) := ⟨_, rfl⟩
            have H2 : Hid (∃ A', IS w W2 (some ⟨bb, oo, none⟩) c M T (j + 1) A' ∧ Fst W2 M T j u5 ∧ Calls Try.prog 36 #[.pointer (some ⟨w.heap.size + 1, j * 2, none⟩)] W2 (RetQs W2 j (keysR (M j) t))) := by
              have q6 : TAt (fun b => w.heap.size + 2 ≤ b) w2 (M j) t (.iface 140 (.pointer (some ⟨nb, 0, none⟩))) := HT.out.2.2.2.2.2.mono (Nat.le_refl _) (fun b hB _ => ⟨Nat.le_trans H1.out.2.2.2.2 hB, rfl⟩)
              have hput := H1.out.1.put hlt HT.out.1 HT.out.2.1 HT.out.2.2.1 HT.out.2.2.2.1 HT.out.2.2.2.2.1 q6
              rw [← hW2] at hput
              refine ⟨_, hput, by rw [hW2]; exact H1.out.2.1.put H1.out.1.xb, ?_⟩
              refine quads_any j hlt (w.heap.size + 1) (j * 2) W2 (M j) t (.iface 140 (.pointer (some ⟨nb, 0, none⟩))) hh ?_ ?_ ?_ HT.out.2.2.1 ?_ (by rw [← HKL.out]; omega)
              · rw [hput.xb.cell, Array.getElem?_setIfInBounds_ne (by omega), Array.getElem?_setIfInBounds_self_of_lt (by omega)]
              · rw [hput.xb.cell, Array.getElem?_setIfInBounds_self_of_lt (by simp; omega)]
              · refine q6.mono (by rw [hW2]; simp) (fun b hB hlt => ⟨by rw [hW2]; simpa using hlt, ?_⟩)
                rw [hW2]
                exact (Below.heap_setCell _ _ _ _ (by simp; omega)).trans (Below.heap_setCell _ _ _ _ (by simp; omega))
              · rw [← HT.out.2.1]
                exact asc_of_ascK HT.out.1.2.2.2.2.1
            go_wp2_with fail
            rw [← hW2]
            clear hW2 x0 x1 f0 f1 xl hx12
            obtain ⟨A', g1, g2, g3⟩ := H2.out
            have HA : Hid (IS w W2 (some ⟨bb, oo, none⟩) c M T (j + 1) A' ∧ Fst W2 M T j u5) := ⟨g1, g2⟩
            have HQs : Hid (Calls Try.prog 36 #[.pointer (some ⟨w.heap.size + 1, j * 2, none⟩)] W2 (RetQs W2 j (keysR (M j) t))) := g3
            clear g1 g2 g3 H2
            (with_reducible refine HQs.out.mono ?_)
            rintro e w3 ⟨ok3, a3, c3, L, rfl, hb3, hrq, hr3⟩
            obtain ⟨l, hl⟩ : ∃ l, l = L.length := ⟨_, rfl⟩
            have H3 : Hid (IS w w3 (some ⟨bb, oo, none⟩) c M T (j + 1) A' ∧ Fst w3 M T j u5 ∧ RdQ w3 a3 L ∧ l = L.length) := ⟨HA.out.1.keep hb3, HA.out.2.keep hb3, hrq, hl⟩
            have hl3 : l ≤ 300 := by
              rcases hr3 with ⟨_, q, _⟩ | ⟨_, q, _⟩
              · rw [hl, q, List.length_map, ← HKL.out]; omega
              · rw [hl, q]; simp
            rw [← hl]
            clear hb3 hrq hl HA HQs
            cases ok3 with
            | false =>
              have HF : Hid (¬ VI 6 M T ∧ L.Nodup) := by
                rcases hr3 with ⟨q, _⟩ | ⟨_, q, hno⟩
                · cases q
                · refine ⟨fun q => ?_, by rw [q]; exact List.nodup_nil⟩
                  obtain ⟨t2, ht2, _, hg2⟩ := q.2.1 j hlt
                  have e := vtt1 ht2 HT.out.1
                  subst e
                  rw [HT.out.2.1] at hg2
                  exact hno hg2
              clear hr3
              by_cases hj0 : j = 0
              · have hj0i : (j : Int) = 0 := by omega
                have hj0b : ((j : Int) == 0) = true := by simp; omega
                have HSet : Hid (Calls Try.prog 37 #[.slice a3 l c3] w3 fun e w' => ∃ B, e = .returned (.map (some B)) ∧ QMap w' B L ∧ Below w3.heap.size w3 w' ∧ w3.heap.size ≤ B) := setOf_any a3 l c3 L w3 H3.out.2.2.1 H3.out.2.2.2 (by omega) HF.out.2
                go_wp2_with fail
                (with_reducible refine HSet.out.mono ?_)
                rintro e w4 ⟨Bm, rfl, hqm, hb4, _⟩
                have H4 : Hid (Below w.heap.size w w4) := H3.out.1.bel.trans (hb4.mono H3.out.1.bel.size)
                clear hb4 hqm
                go_wp2
                refine bodyPost_ret (v := .tuple #[.pointer none, .bool false]) (by simp [results, Try.results21, go_sem]) rfl ?_
                exact .inl ⟨rfl, HF.out.1, H4.out⟩
              · have hj0i : ¬ (j : Int) = 0 := by omega
                have hj0b : ((j : Int) == 0) = false := by simp; omega
                go_wp2
                refine bodyPost_ret (v := .tuple #[.pointer none, .bool false]) (by simp [results, Try.results21, go_sem]) rfl ?_
                exact .inl ⟨rfl, HF.out.1, H3.out.1.bel⟩
            | true =>
              have HG : Hid (L = (keysR (M j) t).map (quadOf j) ∧ GoodK j (keysR (M j) t) ∧ L.Nodup ∧ OkT j (M j) (T j)) := by
                rcases hr3 with ⟨_, q, hgd⟩ | ⟨q, _⟩
                · refine ⟨q, hgd, ?_, t', HT.out.1, by rw [HT.out.2.1, ← HKL.out]; omega, by rw [HT.out.2.1]; exact hgd⟩
                  rw [q]
                  refine quads_nodup hlt ?_ (fun k hk => (hgd k hk).1)
                  rw [← HT.out.2.1]
                  exact asc_of_ascK HT.out.1.2.2.2.2.1
                · cases q
              clear hr3
              by_cases hj0 : j = 0
              · have hj0i : (j : Int) = 0 := by omega
                have hj0b : ((j : Int) == 0) = true := by simp; omega
                have HSet : Hid (Calls Try.prog 37 #[.slice a3 l c3] w3 fun e w' => ∃ B, e = .returned (.map (some B)) ∧ QMap w' B L ∧ Below w3.heap.size w3 w' ∧ w3.heap.size ≤ B) := setOf_any a3 l c3 L w3 H3.out.2.2.1 H3.out.2.2.2 (by omega) HG.out.2.2.1
                go_wp2_with fail
                (with_reducible refine HSet.out.mono ?_)
                rintro e w4 ⟨Bm, rfl, hqm, hb4, _⟩
                have H4 : Hid (IS w w4 (some ⟨bb, oo, none⟩) c M T (j + 1) A' ∧ QMap w4 Bm L) := ⟨H3.out.1.keep hb4, hqm⟩
                have HIs : Hid (Calls Try.prog 38 #[.map (some Bm), .slice a3 l c3] w4 (RetIs w4 L L)) := isOf_any Bm a3 l c3 L L w4 hqm (H3.out.2.2.1.below hb4) H3.out.2.2.2 (by omega)
                clear hb4 hqm HSet
                go_wp2_with fail
                (with_reducible refine HIs.out.mono ?_)
                rintro e w5 ⟨bq, rfl, hbq, hb5⟩
                have ebq : bq = true := hbq.2 ⟨rfl, fun q hq => hq⟩
                subst ebq
                have H5 : Hid (IS w w5 (some ⟨bb, oo, none⟩) c M T (j + 1) A' ∧ Fst w5 M T (j + 1) (.map (some Bm)) ∧ VIj M T (j + 1)) := by
                  refine ⟨H4.out.1.keep hb5, fun _ => ⟨Bm, ?_⟩, fun q hq => ?_, fun i h1 h2 => ?_⟩
                  · have q1 := HT.out.1
                    have q2 := HT.out.2.1
                    have q3 := HG.out.1
                    have q4 := H4.out.2.below hb5
                    rw [← q2] at q3
                    rw [q3] at q4
                    clear HT HKL HBe HG H4 HIs H3 H1 HS HM hbq
                    subst hj0
                    exact ⟨t', rfl, q1, q4⟩
                  · have e : q = j := by omega
                    rw [e]
                    exact HG.out.2.2.2
                  · omega
                clear hb5 hbq
                go_wp2
                go_roundw
                case rel => exact ⟨j + 1, A', by omega, by go_num, H5.out⟩
                case measure => simp [intOf]; omega
              · have hj0i : ¬ (j : Int) = 0 := by omega
                have hj0b : ((j : Int) == 0) = false := by simp; omega
                obtain ⟨Bm, t0, ef, hv0, hqm⟩ := H3.out.2.1 (by omega)
                subst ef
                have HIs : Hid (Calls Try.prog 38 #[.map (some Bm), .slice a3 l c3] w3 (RetIs w3 L ((keysR 21 t0).map (quadOf 0)))) := isOf_any Bm a3 l c3 L _ w3 hqm H3.out.2.2.1 H3.out.2.2.2 (by omega)
                have HV0 : Hid (VTt (M 0) (T 0) t0) := hv0
                clear hqm hv0
                go_wp2_with fail
                (with_reducible refine HIs.out.mono ?_)
                rintro e w5 ⟨bq, rfl, hbq, hb5⟩
                have HB : Hid (bq = true ↔ SameQ j (M j) (T j) (M 0) (T 0)) := by
                  rw [HG.out.1, same_of HT.out.1 HV0.out HT.out.2.1] at hbq
                  exact hbq
                have H5 : Hid (IS w w5 (some ⟨bb, oo, none⟩) c M T (j + 1) A' ∧ Fst w5 M T j (.map (some Bm))) := ⟨H3.out.1.keep hb5, H3.out.2.1.keep hb5⟩
                clear hb5 hbq HIs
                cases bq with
                | false =>
                  have HF : Hid (¬ VI 6 M T) := fun q => by
                    have := HB.out.2 (q.2.2 j (by omega) hlt)
                    cases this
                  go_wp2
                  refine bodyPost_ret (v := .tuple #[.pointer none, .bool false]) (by simp [results, Try.results21, go_sem]) rfl ?_
                  exact .inl ⟨rfl, HF.out, H5.out.1.bel⟩
                | true =>
                  have H6 : Hid (Fst w5 M T (j + 1) (.map (some Bm)) ∧ VIj M T (j + 1)) := by
                    refine ⟨fun _ => H5.out.2 (by omega), fun q hq => ?_, fun i h1 h2 => ?_⟩
                    · by_cases e : q = j
                      · rw [e]
                        exact HG.out.2.2.2
                      · exact H1.out.2.2.1.1 q (by omega)
                    · by_cases e : i = j
                      · rw [e]
                        exact HB.out.1 rfl
                      · exact H1.out.2.2.1.2 i h1 (by omega)
                  go_wp2
                  go_roundw
                  case rel => exact ⟨j + 1, A', by omega, by go_num, H5.out.1, H6.out⟩
                  case measure => simp [intOf]; omega
    · obtain rfl : j = 6 := by omega
      have j1 : ¬ (6 : Int) < 6 := by omega
      have HFin : Hid (VI 6 M T ∧ ∃ A, IS w wr a c M T 6 A) := ⟨⟨rfl, HS.out.2.1, HS.out.2.2⟩, A, HS.out.1⟩
      clear hIS
      go_wp2
      refine bodyPost_ret (v := .tuple #[.pointer (some ⟨w.heap.size + 1, 0, none⟩), .bool true]) (by simp [results, Try.results21, go_sem]) rfl ?_
      exact .inr ⟨rfl, HFin.out⟩
end Go.Proofs.Ytcnollkkigiobaa

namespace Go.Proofs.Ytcnollkkigiobaa
open Go.RowKit Go.Deep
set_option linter.unusedVariables false
set_option maxRecDepth 100000

set_option maxHeartbeats 1000000 in
theorem implVI (a : Option Addr) (n c : Nat) (M : Nat → Nat) (T : Nat → Nat → Tn) (w : World) (h : RdIx w a n M T) (hn : n ≤ 1048576) (hN : IxFit n M T) :
    Calls Try.prog 8 #[.agg #[.slice a n c]] w (AnsN w (VI n M T)) := by
  have HC : Hid (∀ W : World, Below w.heap.size w W → Calls Try.prog 21 #[.agg #[.slice a n c]] W (RetIx W a n c M T)) := fun W hb => readIndex_any a n c M T W (h.below hb) hn hN
  have HB : Hid (∀ O : Obj, Below w.heap.size w (w.alloc O)) := fun O => below_alloc _ _
  clear h hN
  go_enter Try.func8, Try.ntmps8
  go_wp2_with fail
  (with_reducible refine (HC.out _ (HB.out _)).mono ?_)
  rintro e w1 hr
  rcases hr with ⟨rfl, hno, hb⟩ | ⟨rfl, hv, A, hI⟩
  · have HF : Hid (¬ VI n M T ∧ Below w.heap.size w w1) := ⟨hno, (HB.out _).trans (hb.mono (by simp))⟩
    clear hno hb
    go_wp2
    go_ret
    exact ⟨false, rfl, by simp [HF.out.1], HF.out.2⟩
  · have HF : Hid (VI n M T ∧ Below w.heap.size w w1) := ⟨hv, (HB.out _).trans (hI.bel.mono (by simp))⟩
    clear hv hI
    go_wp2
    go_ret
    exact ⟨true, rfl, by simp [HF.out.1], HF.out.2⟩

theorem viLawA (a : Option Addr) (n c : Nat) (M : Nat → Nat) (T : Nat → Nat → Tn) (w : World) (ha : RdIx w a n M T) (hX : ∀ i, i < n → M i ≤ maxLen ∧ ∀ j, j < M i → TnBig (T i j)) (hn : n ≤ maxLen) :
    Calls Try.prog 3 #[.agg #[.slice a n c]] w fun e w' => e = .returned (.bool true) ∧ Below w.heap.size w w' :=
  viLaw0 (VI n M T) a n c M T w ha hX hn (fun h1 h2 W a' h => specVI a' n n M T W h h1 h2) (fun h1 h2 W a' h => implVI a' n n M T W h h1 h2)
theorem viLawV (v : Value) (w : World) (hv : IsIndex w v) : Calls Try.prog 3 #[v] w fun e w' => e = .returned (.bool true) ∧ Below w.heap.size w w' := by
  obtain ⟨a, n, c, M, T, rfl, ha, hX, hn⟩ := hv
  exact viLawA a n c M T w ha hX hn
end Go.Proofs.Ytcnollkkigiobaa
