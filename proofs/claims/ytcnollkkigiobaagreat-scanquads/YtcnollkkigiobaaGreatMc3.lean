import Derived.Test.YtcnollkkigiobaaGreatXqV
import Derived.Maps.Own
import Derived.MapKept
import Derived.Test.YtcnollkkigiobaaGreatXqQ
import Derived.Test.YtcnollkkigiobaaGreatTiP
import Derived.Test.YtcnollkkigiobaaGreatXoQ
import Derived.Test.YtcnollkkigiobaaGreatMc2
import Derived.Test.YtcnollkkigiobaaGreatVtLaw
import Derived.Test.YtcnollkkigiobaaGreatTiU
import Derived.Test.YtcnollkkigiobaaGreatElig1
import Derived.Laws.EntriesVeiled
import Derived.Test.YtcnollkkigiobaaGreatMc1
import Derived.Test.YtcnollkkigiobaaGreatXcF
namespace Go.Proofs.YtcnollkkigiobaaGreat
open Go.RowKit Go.Deep Go.MapKept Go.ChangeMaps
set_option linter.unusedVariables false
set_option maxRecDepth 100000

theorem undQ : Tryz.prog.underlying 34 = some (.struct #[{ name := "S", type := 2, offset := 0, embedded := false, tag := "", pkgPath := "", byteOffset := 0 }, { name := "P", type := 2, offset := 1, embedded := false, tag := "", pkgPath := "", byteOffset := 8 }, { name := "O", type := 2, offset := 2, embedded := false, tag := "", pkgPath := "", byteOffset := 16 }, { name := "G", type := 2, offset := 3, embedded := false, tag := "", pkgPath := "", byteOffset := 24 }]) := by kernel_rfl

theorem undI : Tryz.prog.underlying 2 = some (.int .i64) := by kernel_rfl
theorem checkI (e : Bool) (n : Nat) (x : Int) (w : World) : (Instr.checkKey e (n + 1) 2 (.int .i64 x)).run Tryz.prog w = .ok () w := run_checkKey undI (by simp [IsKey]) e n
theorem partI (x y z u : Int) (i : Nat) (hi : i < 4) (w : World) : ∃ r, (part 2 #[.int .i64 x, .int .i64 y, .int .i64 z, .int .i64 u] i).run Tryz.prog w = .ok (.int .i64 r) w := by
  rcases (show i = 0 ∨ i = 1 ∨ i = 2 ∨ i = 3 by omega) with rfl | rfl | rfl | rfl
  · exact ⟨x, by simp [go_sem]⟩
  · exact ⟨y, by simp [go_sem]⟩
  · exact ⟨z, by simp [go_sem]⟩
  · exact ⟨u, by simp [go_sem]⟩
set_option maxHeartbeats 400000 in
theorem checkQ' (e : Bool) (n : Nat) (q : Qd) (w : World) : (Instr.checkKey e (n + 1 + 1) 34 (qv q)).run Tryz.prog w = .ok () w := by
  unfold qv
  obtain ⟨r0, p0⟩ := partI q.s q.p q.o q.g 0 (by omega) w
  obtain ⟨r1, p1⟩ := partI q.s q.p q.o q.g 1 (by omega) w
  obtain ⟨r2, p2⟩ := partI q.s q.p q.o q.g 2 (by omega) w
  obtain ⟨r3, p3⟩ := partI q.s q.p q.o q.g 3 (by omega) w
  rw [Instr.checkKey]
  simp only [Sem.run_bind, run_underlying undQ, Result.andThen_ok]
  rw [← Array.forIn_toList]
  simp only [List.forIn_cons, List.forIn_nil, Sem.run_bind, Sem.run_ite, Sem.run_pure, Result.andThen_ok, p0, checkI]
  simp [p1, p2, p3, checkI]
theorem checkQ (e : Bool) (q : Qd) (w : World) : (Instr.checkKey e 10000 34 (qv q)).run Tryz.prog w = .ok () w := checkQ' e 9998 q w
theorem equalQ_yes (x : Qd) (w : World) : (Op.equal 34 (qv x) (qv x)).run Tryz.prog w = .ok true w := by
  show (Op.equalIn 10000 34 (qv x) (qv x)).run Tryz.prog w = _
  unfold qv
  rw [eqQ, (qd_eq (x := x) (y := x)).2 rfl]
theorem equalQ_no {x y : Qd} (h : x ≠ y) (w : World) : (Op.equal 34 (qv x) (qv y)).run Tryz.prog w = .ok false w := by
  show (Op.equalIn 10000 34 (qv x) (qv y)).run Tryz.prog w = _
  unfold qv
  rw [eqQ]
  cases hb : (x.s == y.s && (x.p == y.p && (x.o == y.o && x.g == y.g))) with
  | false => rfl
  | true => exact absurd (qd_eq.1 hb) h
/-- A map's entries are these quads. -/
def EsQ (es : List MapEntry) (L : List Qd) : Prop := es.map (fun e => (e.key, e.val)) = L.map (fun q => (qv q, .agg #[]))
theorem find_q (q : Qd) (w : World) : ∀ (es : List MapEntry) (L : List Qd) (i : Nat), EsQ es L →
    (q ∉ L ∧ (Instr.findAsking 34 (qv q) es i).run Tryz.prog w = .ok none w) ∨ (q ∈ L ∧ ∃ j, (Instr.findAsking 34 (qv q) es i).run Tryz.prog w = .ok (some (j, .agg #[])) w)
  | [], [], i, _ => .inl ⟨by simp, by rw [Instr.findAsking]; rfl⟩
  | [], x :: L, i, h => by simp [EsQ] at h
  | e :: es, [], i, h => by simp [EsQ] at h
  | e :: es, x :: L, i, h => by
    have h2 : e.key = qv x ∧ e.val = .agg #[] ∧ EsQ es L := by
      unfold EsQ at h
      rw [List.map_cons, List.map_cons] at h
      injection h with h1 h2
      injection h1 with h1 h3
      exact ⟨h1, h3, h2⟩
    obtain ⟨h3, h4, h5⟩ := h2
    by_cases e0 : q = x
    · refine .inr ⟨by simp [e0], i, ?_⟩
      rw [Instr.findAsking, h3, h4, e0]
      simp [equalQ_yes]
    · rcases find_q q w es L (i + 1) h5 with ⟨m, r⟩ | ⟨m, j, r⟩
      · refine .inl ⟨by simp [e0, m], ?_⟩
        rw [Instr.findAsking, h3]
        simp [equalQ_no e0, r]
      · refine .inr ⟨by simp [m], j, ?_⟩
        rw [Instr.findAsking, h3]
        simp [equalQ_no e0, r]
theorem findK_q (q : Qd) (w : World) (es : List MapEntry) (L : List Qd) (h : EsQ es L) :
    (q ∉ L ∧ (Instr.findKey 34 (qv q) es).run Tryz.prog w = .ok none w) ∨ (q ∈ L ∧ ∃ j, (Instr.findKey 34 (qv q) es).run Tryz.prog w = .ok (some (j, .agg #[])) w) := by
  have hk : (Instr.findKey 34 (qv q) es).run Tryz.prog w = (Instr.findAsking 34 (qv q) es).run Tryz.prog w := by
    unfold Instr.findKey
    simp only [Sem.run_bind, run_underlying undQ, Result.andThen_ok]
    cases es with
    | nil => rfl
    | cons e es => rfl
  rw [hk]
  exact find_q q w es L 0 h
/-- Block B is a map whose keys are the quads L. -/
def QMap (w : World) (B : Nat) (L : List Qd) : Prop := ∃ es clock, w.heap[B]? = some (.map es clock) ∧ EsQ es.toList L
theorem QMap.lt {w : World} {B : Nat} {L : List Qd} (h : QMap w B L) : B < w.heap.size := by
  obtain ⟨es, c, h, _⟩ := h
  exact (Array.getElem?_eq_some_iff.1 h).1
theorem QMap.kept {w w' : World} {B : Nat} {L : List Qd} (h : QMap w B L) (hb : w'.heap[B]? = w.heap[B]?) : QMap w' B L := by
  obtain ⟨es, c, h, q⟩ := h
  exact ⟨es, c, hb.trans h, q⟩
theorem QMap.below {w w' : World} {B : Nat} {L : List Qd} (h : QMap w B L) (hb : Below w.heap.size w w') : QMap w' B L := h.kept (hb.block _ h.lt)
theorem qmap_new (w : World) : QMap (w.alloc (.map #[] 0)) w.heap.size [] := ⟨#[], 0, blk_alloc_new _ _, rfl⟩

theorem undM : Tryz.prog.underlying 111 = some (.map 34 163) := by kernel_rfl
theorem QMap.look {w : World} {B : Nat} {L : List Qd} (h : QMap w B L) (q : Qd) : ∃ b, (b = true ↔ q ∈ L) ∧ (Instr.lookup 111 (.map (some B)) (qv q) true).run Tryz.prog w = .ok (.tuple #[.agg #[], .bool b]) w := by
  obtain ⟨es, c, hb, he⟩ := h
  rcases findK_q q w es.toList L he with ⟨m, r⟩ | ⟨m, j, r⟩
  · exact ⟨false, by simp [m], by simp [Instr.lookup, run_underlying undM, MapKept.run_getObj_map hb, checkQ, r, Result.andThen]⟩
  · exact ⟨true, by simp [m], by simp [Instr.lookup, run_underlying undM, MapKept.run_getObj_map hb, checkQ, r, Result.andThen]⟩
theorem QMap.put {w : World} {B : Nat} {L : List Qd} (h : QMap w B L) (q : Qd) (hn : q ∉ L) : ∃ w', (Instr.mapUpdate 111 (.map (some B)) (qv q) (.agg #[])).run Tryz.prog w = .ok () w' ∧ QMap w' B (L ++ [q]) ∧ w.grownBy w' (some B) := by
  obtain ⟨es, clock, hb, he⟩ := h
  rcases findK_q q w es.toList L he with ⟨m, r⟩ | ⟨m, _⟩
  · refine ⟨setBlock w B (.map (es.push { key := qv q, val := .agg #[], born := clock }) (clock + 1)), ?_, ⟨_, _, heap_setBlock_same hb _, ?_⟩, ⟨rfl, rfl, rfl, by simp [setBlock], fun i _ hi => heap_setBlock_other hb _ (fun e => hi (by rw [e]))⟩⟩
    · simp [Instr.mapUpdate, run_underlying undM, MapKept.run_getObj_map hb, checkQ, r, MapKept.run_setObj_map _ hb, Result.andThen, setBlock]
    · unfold EsQ at he ⊢
      rw [Array.toList_push, List.map_append, List.map_append, he]
      rfl
  · exact absurd m hn
theorem QMap.len {w : World} {B : Nat} {L : List Qd} (h : QMap w B L) (ty : TypeId) : (Builtin.len_ #[111] ty #[.map (some B)]).run Tryz.prog w = .ok (.int .i64 L.length) w := by
  obtain ⟨es, clock, hb, he⟩ := h
  have hs : es.size = L.length := by
    have := congrArg List.length he
    simpa using this
  simp [Builtin.len_, run_underlying undM, MapKept.run_getObj_map hb, Result.andThen, hs, goInt]
end Go.Proofs.YtcnollkkigiobaaGreat

namespace Go.Proofs.YtcnollkkigiobaaGreat
open Go.RowKit Go.Deep Go.MapKept Go.ChangeMaps
set_option linter.unusedVariables false
set_option maxRecDepth 100000

theorem take_more {L : List Qd} {k : Nat} (h : k < L.length) : L.take (k + 1) = L.take k ++ [L[k]] := by
  rw [List.take_add_one, List.getElem?_eq_getElem h]
  rfl
theorem take_not {L : List Qd} {k : Nat} (hn : L.Nodup) (h : k < L.length) : L[k] ∉ L.take k := by
  intro hm
  have e : L = L.take k ++ (L[k] :: L.drop (k + 1)) := by
    rw [List.getElem_cons_drop, List.take_append_drop]
  rw [e] at hn
  have := (List.nodup_append.1 hn).2.2 _ hm _ (List.mem_cons_self ..)
  exact this rfl

set_option maxHeartbeats 2000000 in
theorem setOf_any (a : Option Addr) (n c : Nat) (L : List Qd) (w : World) (h : RdQ w a L) (hn : n = L.length) (hn2 : n ≤ 1048576) (hnd : L.Nodup) :
    Calls Tryz.prog 70 #[.slice a n c] w fun e w' => ∃ B, e = .returned (.map (some B)) ∧ QMap w' B L ∧ Below w.heap.size w w' ∧ w.heap.size ≤ B := by
  have HR : Hid (RdQ w a L ∧ n = L.length ∧ L.Nodup) := ⟨h, hn, hnd⟩
  clear h hn hnd
  have hmm := @run_makeMap Tryz.prog
  go_enter Tryz.func70, Tryz.ntmps70
  go_wp2
  go_loopw [5, 9] (fun _ i wr => ∃ k : Nat, k ≤ n ∧ i = .int .i64 k ∧ QMap wr w.heap.size (L.take k) ∧ Below w.heap.size w wr) (fun _ i _ => n - (intOf i).toNat)
  case atStart => exact ⟨0, Nat.zero_le _, rfl, qmap_new w, below_alloc _ _⟩
  case round =>
    obtain ⟨k, hk, rfl, hq, hbel⟩ := hrel
    have HS : Hid (QMap wr w.heap.size (L.take k) ∧ Below w.heap.size w wr) := ⟨hq, hbel⟩
    by_cases hlt : k < n
    · have hkL : k < L.length := by rw [← HR.out.2.1]; exact hlt
      rcases HR.out.1.below hbel with h0 | ⟨b, rfl, hc⟩
      · omega
      obtain ⟨s0, s1, s2, s3⟩ := hc k hkL
      have i0 : (0 : Int) ≤ (k : Int) := by omega
      have i1 : (k : Int) < (n : Int) := by omega
      have hx0 := take_not HR.out.2.2 hkL
      have hx1 := take_more hkL
      obtain ⟨x, hx⟩ : ∃ x, x = L[k] := ⟨_, rfl⟩
      rw [← hx] at s0 s1 s2 s3 hx0 hx1
      obtain ⟨w7, hrun, hm7, hg7⟩ := (hq.below (below_alloc wr (.cells #[.int .i64 x.s, .int .i64 x.p, .int .i64 x.o, .int .i64 x.g] 34))).put x hx0
      have H7 : Hid (QMap w7 w.heap.size (L.take (k + 1)) ∧ Below w.heap.size w w7) := by
        refine ⟨by rw [hx1]; exact hm7, ?_⟩
        have h1 := hbel.trans ((below_alloc wr (.cells #[.int .i64 x.s, .int .i64 x.p, .int .i64 x.o, .int .i64 x.g] 34)).mono hbel.size)
        exact h1.trans (below_grown hg7 h1.size (Nat.le_refl _))
      unfold qv at hrun
      clear hc hq hbel hx hx0 hx1 hm7 hg7
      go_wp2
      go_roundw
      case rel => exact ⟨k + 1, by omega, by go_num, H7.out⟩
      case measure => simp [intOf]; omega
    · obtain rfl : k = n := by omega
      have k1 : ¬ (k : Int) < (k : Int) := by omega
      clear hq hbel
      go_wp2
      go_ret
      refine ⟨w.heap.size, rfl, ?_, HS.out.2, Nat.le_refl _⟩
      have e : L.take k = L := by rw [HR.out.2.1, List.take_length]
      rw [← e]
      exact HS.out.1

/-- Whether the quads L are the map's M. -/
def RetIs (w : World) (L M : List Qd) (e : Ending) (w' : World) : Prop := ∃ b : Bool, e = .returned (.bool b) ∧ (b = true ↔ (L.length = M.length ∧ ∀ q, q ∈ L → q ∈ M)) ∧ Below w.heap.size w w'

set_option maxHeartbeats 2000000 in
theorem isOf_any (B : Nat) (a : Option Addr) (n c : Nat) (L M : List Qd) (w : World) (hm : QMap w B M) (h : RdQ w a L) (hn : n = L.length) (hn2 : n ≤ 1048576) :
    Calls Tryz.prog 71 #[.map (some B), .slice a n c] w (RetIs w L M) := by
  have HR : Hid (RdQ w a L ∧ n = L.length ∧ QMap w B M) := ⟨h, hn, hm⟩
  clear h hn hm
  go_enter Tryz.func71, Tryz.ntmps71
  go_wp2
  go_loopw [6, 7, 8, 11] (fun _ _ _ i wr => ∃ k : Nat, k ≤ n ∧ i = .int .i64 k ∧ (∀ j (h : j < L.length), j < k → L[j] ∈ M) ∧ Below w.heap.size w wr) (fun _ _ _ i _ => n - (intOf i).toNat)
  case atStart => exact ⟨0, Nat.zero_le _, rfl, fun j _ hj => absurd hj (Nat.not_lt_zero _), Below.refl _ _⟩
  case round =>
    obtain ⟨k, hk, rfl, hall, hbel⟩ := hrel
    have HS : Hid ((∀ j (h : j < L.length), j < k → L[j] ∈ M) ∧ Below w.heap.size w wr) := ⟨hall, hbel⟩
    by_cases hlt : k < n
    · have hkL : k < L.length := by rw [← HR.out.2.1]; exact hlt
      rcases HR.out.1.below hbel with h0 | ⟨b, rfl, hc⟩
      · omega
      obtain ⟨s0, s1, s2, s3⟩ := hc k hkL
      have i0 : (0 : Int) ≤ (k : Int) := by omega
      have i1 : (k : Int) < (n : Int) := by omega
      obtain ⟨x, hx⟩ : ∃ x, x = L[k] := ⟨_, rfl⟩
      have HXk : Hid (L[k] = x) := hx.symm
      rw [← hx] at s0 s1 s2 s3
      obtain ⟨bk, hbk, hl⟩ := ((HR.out.2.2.below hbel).below (below_alloc wr (.cells #[.int .i64 x.s, .int .i64 x.p, .int .i64 x.o, .int .i64 x.g] 34))).look x
      have HBk : Hid (bk = true ↔ x ∈ M) := hbk
      unfold qv at hl
      clear hc hall hbel hx hbk
      cases bk with
      | false =>
        go_wp2
        go_ret
        refine ⟨false, rfl, ?_, ?_⟩
        · constructor
          · intro h
            cases h
          · rintro ⟨_, hq⟩
            have := HBk.out.2 (by rw [← HXk.out]; exact hq _ (List.getElem_mem hkL))
            cases this
        · exact HS.out.2.trans (((below_alloc _ _).alloc (by simp) _).mono HS.out.2.size)
      | true =>
        go_wp2
        go_roundw
        case rel =>
          refine ⟨k + 1, by omega, by go_num, fun j hj hjk => ?_, HS.out.2.trans (((below_alloc _ _).alloc (by simp) _).mono HS.out.2.size)⟩
          by_cases e : j = k
          · subst e
            rw [HXk.out]
            exact HBk.out.1 rfl
          · exact HS.out.1 j hj (by omega)
        case measure => simp [intOf]; omega
    · obtain rfl : k = n := by omega
      have k1 : ¬ (k : Int) < (k : Int) := by omega
      have hln := (HR.out.2.2.below hbel).len
      clear hall hbel
      go_wp2
      go_ret
      refine ⟨((M.length : Int) == (k : Int)), rfl, ?_, HS.out.2⟩
      constructor
      · intro h
        have h1 : (M.length : Int) = (k : Int) := by simpa using h
        refine ⟨by have := HR.out.2.1; omega, fun q hq => ?_⟩
        obtain ⟨j, hj, e⟩ := List.getElem_of_mem hq
        rw [← e]
        exact HS.out.1 j hj (by have := HR.out.2.1; omega)
      · rintro ⟨h1, _⟩
        have h2 : (M.length : Int) = (k : Int) := by have := HR.out.2.1; omega
        simpa using h2
end Go.Proofs.YtcnollkkigiobaaGreat

namespace Go.Proofs.YtcnollkkigiobaaGreat
open Go.RowKit Go.Deep
set_option linter.unusedVariables false
set_option maxRecDepth 100000

theorem fil_all (K : List ByteArray) : fil { data := #[] } { data := #[] } K = K := by
  unfold fil
  rw [List.filter_eq_self]
  intro k _
  have e : (({ data := #[] } : ByteArray)).toList = [] := by unfold ByteArray.toList; unfold ByteArray.toList.loop; rfl
  unfold inR
  rw [e]
  cases k.toList <;> rfl
/-- The keys of a tree are good for an order. -/
def GoodK (perm : Nat) (K : List ByteArray) : Prop := ∀ k, k ∈ K → k.size = 16 ∧ quadB (quadOf perm k) = true
/-- What quads leaves. -/
def RetQs (w : World) (perm : Nat) (K : List ByteArray) (e : Ending) (w' : World) : Prop :=
  ∃ (ok : Bool) (a : Option Addr) (c : Nat) (L : List Qd), e = .returned (.tuple #[.slice a L.length c, .bool ok]) ∧ Below w.heap.size w w' ∧ RdQ w' a L ∧ ((ok = true ∧ L = K.map (quadOf perm) ∧ GoodK perm K) ∨ (ok = false ∧ L = [] ∧ ¬ GoodK perm K))

set_option maxHeartbeats 8000000 in
theorem quads_any (perm : Nat) (hp : perm < 6) (b o : Nat) (w : World) (n : Nat) (t : Ro n) (v : Value) (hh : Nat) (hc0 : w.cell? ⟨b, o, none⟩ = some (.func (.func (layF perm)) #[] #[])) (hc1 : w.cell? ⟨b, o + 1, none⟩ = some v)
    (ht : TAt (fun bb => bb < w.heap.size) w n t v) (hb : BalR n true t hh) (hasc : Asc (keysR n t)) (hlen : (keysR n t).length ≤ 300) :
    Calls Tryz.prog 69 #[.pointer (some ⟨b, o, none⟩)] w (RetQs w perm (keysR n t)) := by
  have hga := gather_any { data := #[] } { data := #[] } w.heap.size w n t v true hh ht hb hasc (by omega)
  obtain ⟨K, hK⟩ : ∃ K, K = keysR n t := ⟨_, rfl⟩
  rw [← hK] at hga hlen ⊢
  have HP : Hid (perm < 6 ∧ w.cell? ⟨b, o, none⟩ = some (.func (.func (layF perm)) #[] #[]) ∧ b < w.heap.size) := ⟨hp, hc0, World.block_lt_of_cell? _ _ hc0⟩
  clear ht hb hasc hK hp hc0 hh t n
  obtain ⟨i0, hi0, hz0, hz1, hz2⟩ := info_parts Tryz.info34
  have HI : Hid (Tryz.prog.info? 34 = some i0 ∧ i0.zero = some (.agg #[.int .i64 0, .int .i64 0, .int .i64 0, .int .i64 0]) ∧ i0.size = 4 ∧ i0.bytes = 32) := ⟨hi0, hz0, hz1, hz2⟩
  clear hi0 hz0 hz1 hz2
  rcases hga with ⟨p, rfl, hcall⟩ | ⟨p, rfl, hcall⟩
  · have HC : Hid (Calls Tryz.prog 203 #[.pointer (some p), .slice none 0 0, .string { data := #[] }, .string { data := #[] }] w (RetGa w.heap.size w ([] ++ fil { data := #[] } { data := #[] } K))) := hcall w none 0 0 [] (Below.refl _ _) (Nat.le_refl _) (World.ownsRow_nil _ _ _ _) rfl (by omega)
    clear hcall
    rw [List.nil_append, fil_all] at HC
    go_enter Tryz.func69, Tryz.ntmps69
    go_wp2_with fail
    (with_reducible refine HC.out.mono ?_)
    rintro e w3 ⟨a3, c3, rfl, ho3, hb3⟩
    obtain ⟨kl, hkl⟩ : ∃ kl, kl = K.length := ⟨_, rfl⟩
    have HKL : Hid (kl = K.length) := hkl
    have S3 : Hid (RdS w3 a3 kl (gt K) ∧ Below w.heap.size w w3) := by
      obtain ⟨a6, c6, e6, q, _⟩ := ownS_strL ho3 rfl
      injection e6 with e6 _ _
      subst e6
      exact ⟨by rw [hkl]; exact q.rd, hb3⟩
    rw [← hkl] at hlen ⊢
    clear hkl ho3 hb3 HC
    go_wp2
    go_loopw [4, 6, 7, 14] (fun out _ _ i wr => ∃ (k : Nat) (R : List Qd), k ≤ kl ∧ i = .int .i64 k ∧ R = (K.take k).map (quadOf perm) ∧ GoodK perm (K.take k) ∧ wr.ownsRow w3.heap.size 34 4 out R.length (quadL R) ∧ Below w3.heap.size w3 wr) (fun _ _ _ i _ => kl - (intOf i).toNat)
    case atStart => exact ⟨0, [], Nat.zero_le _, rfl, rfl, (fun k hk => by simp at hk), World.ownsRow_nil _ _ _ _, Below.refl _ _⟩
    case round =>
      obtain ⟨k, R, hk, rfl, hR, hgd, hown, hbel⟩ := hrel
      obtain ⟨ar, cr, er, _⟩ := own_form hown
      subst er
      have hRl : R.length = k := by rw [hR, List.length_map, List.length_take, ← HKL.out]; omega
      have HQ : Hid (wr.ownsRow w3.heap.size 34 4 (.slice ar R.length cr) R.length (quadL R) ∧ Below w3.heap.size w3 wr ∧ R = (K.take k).map (quadOf perm) ∧ GoodK perm (K.take k) ∧ R.length = k) := ⟨hown, hbel, hR, hgd, hRl⟩
      clear hown hbel hR hgd hRl
      obtain ⟨rl, hrl⟩ : ∃ rl, rl = R.length := ⟨_, rfl⟩
      have HRl : Hid (rl = R.length) := hrl
      have hrlk : rl = k := hrl.trans HQ.out.2.2.2.2
      have hrlk1 : rl ≤ k := by omega
      rw [← hrl] at HQ ⊢
      clear hrl hrlk
      have k0 : (0 : Int) ≤ (k : Int) := by omega
      have HBw : Hid (Below w.heap.size w wr) := S3.out.2.trans (HQ.out.2.1.mono S3.out.2.size)
      by_cases hlt : k < kl
      · have k1 : (k : Int) < (kl : Int) := by omega
        have hkK : k < K.length := by rw [← HKL.out]; exact hlt
        obtain ⟨bb, oo, ea2, s1⟩ := (S3.out.1.below HQ.out.2.1).cellOf k hlt
        obtain ⟨key, hkey⟩ : ∃ key, key = gt K k := ⟨_, rfl⟩
        rw [← hkey] at s1
        have HKy : Hid (key = K[k] ∧ key ∈ K) := by
          have e : key = K[k] := by rw [hkey, gt_in hkK]
          exact ⟨e, by rw [e]; exact List.getElem_mem hkK⟩
        have l0 : wr.cell? ⟨b, o, none⟩ = some (.func (.func (layF perm)) #[] #[]) := by
          rw [HBw.out.cell (show b < w.heap.size from HP.out.2.2)]
          exact HP.out.2.1
        clear hkey hc1
        subst ea2
        by_cases hsz : key.size = 16
        · have hszi : (key.size : Int) = 16 := by omega
          have HQd : Hid (Calls Tryz.prog 73 #[.func (.func (layF perm)) #[] #[], .string key] wr fun e w' => e = .returned (qv (quadOf perm key)) ∧ Below wr.heap.size wr w') := quad_any perm HP.out.1 key hsz wr
          go_wp2_with fail
          (with_reducible refine HQd.out.mono ?_)
          rintro e w5 ⟨rfl, hb5⟩
          obtain ⟨qd, hqd⟩ : ∃ qd, qd = quadOf perm key := ⟨_, rfl⟩
          have HQq : Hid (qd = quadOf perm key) := hqd
          have HIs : Hid (∀ W : World, Calls Tryz.prog 81 #[.agg #[.int .i64 qd.s, .int .i64 qd.p, .int .i64 qd.o, .int .i64 qd.g]] W fun e w' => e = .returned (.bool (quadB qd)) ∧ Below W.heap.size W w') := fun W => isQuad_any qd W
          rw [← hqd]
          clear hqd
          unfold qv
          go_wp2_with fail
          (with_reducible refine (HIs.out _).mono ?_)
          rintro e w6 ⟨rfl, hb6⟩
          have z := (Bx.new w5 #[.int .i64 qd.s, .int .i64 qd.p, .int .i64 qd.o, .int .i64 qd.g] 34)
          have hz5 := hb5.size
          have hz6 := hb6.size
          have hz3 := HQ.out.2.1.size
          simp only [World.size_alloc] at hz6
          have hb56 : Below w5.heap.size w5 w6 := (below_alloc w5 (.cells #[.int .i64 qd.s, .int .i64 qd.p, .int .i64 qd.o, .int .i64 qd.g] 34)).trans (hb6.mono (by simp))
          have z6 : Bx w6 w5.heap.size 34 #[.int .i64 qd.s, .int .i64 qd.p, .int .i64 qd.o, .int .i64 qd.g] := (hb6.block _ (by simp)).trans z
          have y0 := z6.cell 0
          have y1 := z6.cell 1
          have y2 := z6.cell 2
          have y3 := z6.cell 3
          simp at y0 y1 y2 y3
          have HO6 : Hid (w6.ownsRow w3.heap.size 34 4 (.slice ar rl cr) rl (quadL R) ∧ Below w3.heap.size w3 w6 ∧ Below w.heap.size w w6) := by
            have q1 : Below wr.heap.size wr w6 := hb5.trans (hb56.mono hz5)
            have q2 : Below w3.heap.size w3 w6 := HQ.out.2.1.trans (q1.mono hz3)
            exact ⟨own_below HQ.out.1 q1, q2, S3.out.2.trans (q2.mono S3.out.2.size)⟩
          cases hq : quadB qd with
          | false =>
            have HNo : Hid (¬ GoodK perm K) := fun h => by
              have := (h key HKy.out.2).2
              rw [← HQq.out, hq] at this
              cases this
            clear hb5 hb6 hb56 z z6 HQd HIs
            go_wp2
            refine bodyPost_ret (v := .tuple #[.slice none 0 0, .bool false]) (by simp [results, Tryz.results69, go_sem]) rfl ?_
            exact ⟨false, none, 0, [], rfl, HO6.out.2.2, .inl rfl, .inr ⟨rfl, rfl, HNo.out⟩⟩
          | true =>
            have HG1 : Hid (GoodK perm (K.take (k + 1))) := by
              intro x hx
              rw [List.take_add_one, List.getElem?_eq_getElem hkK] at hx
              rcases List.mem_append.1 hx with hx | hx
              · exact HQ.out.2.2.2.1 x hx
              · have e : x = K[k] := by simpa using hx
                rw [e, ← HKy.out.1]
                exact ⟨hsz, by rw [← HQq.out]; exact hq⟩
            have hz3r : w3.heap.size ≤ w6.heap.size := by omega
            have HO7 : Hid ((w6.alloc (.cells #[.int .i64 qd.s, .int .i64 qd.p, .int .i64 qd.o, .int .i64 qd.g] 34)).ownsRow w3.heap.size 34 4 (.slice ar rl cr) rl (quadL R) ∧ (∀ j u, (quadL [qd])[j]? = some u → (w6.alloc (.cells #[.int .i64 qd.s, .int .i64 qd.p, .int .i64 qd.o, .int .i64 qd.g] 34)).cell? ⟨w6.heap.size, j, none⟩ = some u)) := by
              refine ⟨own_below HO6.out.1 (below_alloc _ _), fun j u hj => ?_⟩
              rw [(Bx.new w6 #[.int .i64 qd.s, .int .i64 qd.p, .int .i64 qd.o, .int .i64 qd.g] 34).cell j]
              simpa [quadL] using hj
            clear hb5 hb6 hb56 z z6 HQd HIs
            go_wp2_with (at_builtin; refine wpList_append_own_at _ rfl _ _ 28 rfl w3.heap.size 34 i0 _ 4 32 Tryz.underlying28 HI.out.1 HI.out.2.1 HI.out.2.2.1 HI.out.2.2.2 rfl (by decide) (.slice ar rl cr) rl (quadL R) rfl HO7.out.1 ⟨w6.heap.size, 0, none⟩ 1 1 (quadL [qd]) rfl rfl (fun j u hj => by rw [Addr.add_lit, Nat.zero_add]; exact HO7.out.2 j u hj) (by intro u hu; simp [quadL] at hu; rcases hu with rfl | rfl | rfl | rfl <;> rfl) (by unfold maxLen; omega) (by omega) (by simp; omega) ?_)
            intro v7 w7 ho7 hg7 _ hat7
            have H7 : Hid (GoodK perm (K.take (k + 1)) ∧ w7.ownsRow w3.heap.size 34 4 v7 (R ++ [qd]).length (quadL (R ++ [qd])) ∧ Below w3.heap.size w3 w7) := by
              refine ⟨HG1.out, by rw [quadL_app, List.length_append, ← HRl.out]; exact ho7, ?_⟩
              exact (HO6.out.2.1.trans ((below_alloc _ _).mono hz3r)).grown hg7 (by simp; omega) (fun g e => (own_lt HQ.out.1 g e).1)
            have HN : Hid (R ++ [qd] = (K.take (k + 1)).map (quadOf perm)) := by
              show R ++ [qd] = _
              rw [List.take_add_one, List.getElem?_eq_getElem hkK, List.map_append, ← HQ.out.2.2.1, HQq.out, HKy.out.1]
              rfl
            obtain ⟨a7, c7, e7, _⟩ := own_form ho7
            subst e7
            clear ho7 hg7 hat7 HO7
            go_wp2
            go_roundw
            case rel => exact ⟨k + 1, R ++ [qd], by omega, by go_num, HN.out, H7.out⟩
            case measure => simp [intOf]; omega
        · have hszi : ¬ (key.size : Int) = 16 := by omega
          have HNo : Hid (¬ GoodK perm K) := fun h => hsz (h key HKy.out.2).1
          go_wp2
          refine bodyPost_ret (v := .tuple #[.slice none 0 0, .bool false]) (by simp [results, Tryz.results69, go_sem]) rfl ?_
          exact ⟨false, none, 0, [], rfl, HBw.out, .inl rfl, .inr ⟨rfl, rfl, HNo.out⟩⟩
      · obtain rfl : k = kl := by omega
        have k1 : ¬ (k : Int) < (k : Int) := by omega
        have HF : Hid (RdQ wr ar R ∧ rl = R.length ∧ R = K.map (quadOf perm) ∧ GoodK perm K) := by
          have ho := HQ.out.1
          rw [HRl.out] at ho
          have e : K.take k = K := by rw [HKL.out, List.take_length]
          refine ⟨own_rdq ho, HRl.out, ?_, ?_⟩
          · rw [HQ.out.2.2.1, e]
          · have := HQ.out.2.2.2.1
            rw [e] at this
            exact this
        go_wp2
        refine bodyPost_ret (v := .tuple #[.slice ar rl cr, .bool true]) (by simp [results, Tryz.results69, go_sem]) rfl ?_
        exact ⟨true, ar, cr, R, by rw [← HF.out.2.1], HBw.out, HF.out.1, .inl ⟨rfl, HF.out.2.2.1, HF.out.2.2.2⟩⟩
  · have HC : Hid (Calls Tryz.prog 186 #[.pointer (some p), .slice none 0 0, .string { data := #[] }, .string { data := #[] }] w (RetGa w.heap.size w ([] ++ fil { data := #[] } { data := #[] } K))) := hcall w none 0 0 [] (Below.refl _ _) (Nat.le_refl _) (World.ownsRow_nil _ _ _ _) rfl (by omega)
    clear hcall
    rw [List.nil_append, fil_all] at HC
    go_enter Tryz.func69, Tryz.ntmps69
    go_wp2_with fail
    (with_reducible refine HC.out.mono ?_)
    rintro e w3 ⟨a3, c3, rfl, ho3, hb3⟩
    obtain ⟨kl, hkl⟩ : ∃ kl, kl = K.length := ⟨_, rfl⟩
    have HKL : Hid (kl = K.length) := hkl
    have S3 : Hid (RdS w3 a3 kl (gt K) ∧ Below w.heap.size w w3) := by
      obtain ⟨a6, c6, e6, q, _⟩ := ownS_strL ho3 rfl
      injection e6 with e6 _ _
      subst e6
      exact ⟨by rw [hkl]; exact q.rd, hb3⟩
    rw [← hkl] at hlen ⊢
    clear hkl ho3 hb3 HC
    go_wp2
    go_loopw [4, 6, 7, 14] (fun out _ _ i wr => ∃ (k : Nat) (R : List Qd), k ≤ kl ∧ i = .int .i64 k ∧ R = (K.take k).map (quadOf perm) ∧ GoodK perm (K.take k) ∧ wr.ownsRow w3.heap.size 34 4 out R.length (quadL R) ∧ Below w3.heap.size w3 wr) (fun _ _ _ i _ => kl - (intOf i).toNat)
    case atStart => exact ⟨0, [], Nat.zero_le _, rfl, rfl, (fun k hk => by simp at hk), World.ownsRow_nil _ _ _ _, Below.refl _ _⟩
    case round =>
      obtain ⟨k, R, hk, rfl, hR, hgd, hown, hbel⟩ := hrel
      obtain ⟨ar, cr, er, _⟩ := own_form hown
      subst er
      have hRl : R.length = k := by rw [hR, List.length_map, List.length_take, ← HKL.out]; omega
      have HQ : Hid (wr.ownsRow w3.heap.size 34 4 (.slice ar R.length cr) R.length (quadL R) ∧ Below w3.heap.size w3 wr ∧ R = (K.take k).map (quadOf perm) ∧ GoodK perm (K.take k) ∧ R.length = k) := ⟨hown, hbel, hR, hgd, hRl⟩
      clear hown hbel hR hgd hRl
      obtain ⟨rl, hrl⟩ : ∃ rl, rl = R.length := ⟨_, rfl⟩
      have HRl : Hid (rl = R.length) := hrl
      have hrlk : rl = k := hrl.trans HQ.out.2.2.2.2
      have hrlk1 : rl ≤ k := by omega
      rw [← hrl] at HQ ⊢
      clear hrl hrlk
      have k0 : (0 : Int) ≤ (k : Int) := by omega
      have HBw : Hid (Below w.heap.size w wr) := S3.out.2.trans (HQ.out.2.1.mono S3.out.2.size)
      by_cases hlt : k < kl
      · have k1 : (k : Int) < (kl : Int) := by omega
        have hkK : k < K.length := by rw [← HKL.out]; exact hlt
        obtain ⟨bb, oo, ea2, s1⟩ := (S3.out.1.below HQ.out.2.1).cellOf k hlt
        obtain ⟨key, hkey⟩ : ∃ key, key = gt K k := ⟨_, rfl⟩
        rw [← hkey] at s1
        have HKy : Hid (key = K[k] ∧ key ∈ K) := by
          have e : key = K[k] := by rw [hkey, gt_in hkK]
          exact ⟨e, by rw [e]; exact List.getElem_mem hkK⟩
        have l0 : wr.cell? ⟨b, o, none⟩ = some (.func (.func (layF perm)) #[] #[]) := by
          rw [HBw.out.cell (show b < w.heap.size from HP.out.2.2)]
          exact HP.out.2.1
        clear hkey hc1
        subst ea2
        by_cases hsz : key.size = 16
        · have hszi : (key.size : Int) = 16 := by omega
          have HQd : Hid (Calls Tryz.prog 73 #[.func (.func (layF perm)) #[] #[], .string key] wr fun e w' => e = .returned (qv (quadOf perm key)) ∧ Below wr.heap.size wr w') := quad_any perm HP.out.1 key hsz wr
          go_wp2_with fail
          (with_reducible refine HQd.out.mono ?_)
          rintro e w5 ⟨rfl, hb5⟩
          obtain ⟨qd, hqd⟩ : ∃ qd, qd = quadOf perm key := ⟨_, rfl⟩
          have HQq : Hid (qd = quadOf perm key) := hqd
          have HIs : Hid (∀ W : World, Calls Tryz.prog 81 #[.agg #[.int .i64 qd.s, .int .i64 qd.p, .int .i64 qd.o, .int .i64 qd.g]] W fun e w' => e = .returned (.bool (quadB qd)) ∧ Below W.heap.size W w') := fun W => isQuad_any qd W
          rw [← hqd]
          clear hqd
          unfold qv
          go_wp2_with fail
          (with_reducible refine (HIs.out _).mono ?_)
          rintro e w6 ⟨rfl, hb6⟩
          have z := (Bx.new w5 #[.int .i64 qd.s, .int .i64 qd.p, .int .i64 qd.o, .int .i64 qd.g] 34)
          have hz5 := hb5.size
          have hz6 := hb6.size
          have hz3 := HQ.out.2.1.size
          simp only [World.size_alloc] at hz6
          have hb56 : Below w5.heap.size w5 w6 := (below_alloc w5 (.cells #[.int .i64 qd.s, .int .i64 qd.p, .int .i64 qd.o, .int .i64 qd.g] 34)).trans (hb6.mono (by simp))
          have z6 : Bx w6 w5.heap.size 34 #[.int .i64 qd.s, .int .i64 qd.p, .int .i64 qd.o, .int .i64 qd.g] := (hb6.block _ (by simp)).trans z
          have y0 := z6.cell 0
          have y1 := z6.cell 1
          have y2 := z6.cell 2
          have y3 := z6.cell 3
          simp at y0 y1 y2 y3
          have HO6 : Hid (w6.ownsRow w3.heap.size 34 4 (.slice ar rl cr) rl (quadL R) ∧ Below w3.heap.size w3 w6 ∧ Below w.heap.size w w6) := by
            have q1 : Below wr.heap.size wr w6 := hb5.trans (hb56.mono hz5)
            have q2 : Below w3.heap.size w3 w6 := HQ.out.2.1.trans (q1.mono hz3)
            exact ⟨own_below HQ.out.1 q1, q2, S3.out.2.trans (q2.mono S3.out.2.size)⟩
          cases hq : quadB qd with
          | false =>
            have HNo : Hid (¬ GoodK perm K) := fun h => by
              have := (h key HKy.out.2).2
              rw [← HQq.out, hq] at this
              cases this
            clear hb5 hb6 hb56 z z6 HQd HIs
            go_wp2
            refine bodyPost_ret (v := .tuple #[.slice none 0 0, .bool false]) (by simp [results, Tryz.results69, go_sem]) rfl ?_
            exact ⟨false, none, 0, [], rfl, HO6.out.2.2, .inl rfl, .inr ⟨rfl, rfl, HNo.out⟩⟩
          | true =>
            have HG1 : Hid (GoodK perm (K.take (k + 1))) := by
              intro x hx
              rw [List.take_add_one, List.getElem?_eq_getElem hkK] at hx
              rcases List.mem_append.1 hx with hx | hx
              · exact HQ.out.2.2.2.1 x hx
              · have e : x = K[k] := by simpa using hx
                rw [e, ← HKy.out.1]
                exact ⟨hsz, by rw [← HQq.out]; exact hq⟩
            have hz3r : w3.heap.size ≤ w6.heap.size := by omega
            have HO7 : Hid ((w6.alloc (.cells #[.int .i64 qd.s, .int .i64 qd.p, .int .i64 qd.o, .int .i64 qd.g] 34)).ownsRow w3.heap.size 34 4 (.slice ar rl cr) rl (quadL R) ∧ (∀ j u, (quadL [qd])[j]? = some u → (w6.alloc (.cells #[.int .i64 qd.s, .int .i64 qd.p, .int .i64 qd.o, .int .i64 qd.g] 34)).cell? ⟨w6.heap.size, j, none⟩ = some u)) := by
              refine ⟨own_below HO6.out.1 (below_alloc _ _), fun j u hj => ?_⟩
              rw [(Bx.new w6 #[.int .i64 qd.s, .int .i64 qd.p, .int .i64 qd.o, .int .i64 qd.g] 34).cell j]
              simpa [quadL] using hj
            clear hb5 hb6 hb56 z z6 HQd HIs
            go_wp2_with (at_builtin; refine wpList_append_own_at _ rfl _ _ 28 rfl w3.heap.size 34 i0 _ 4 32 Tryz.underlying28 HI.out.1 HI.out.2.1 HI.out.2.2.1 HI.out.2.2.2 rfl (by decide) (.slice ar rl cr) rl (quadL R) rfl HO7.out.1 ⟨w6.heap.size, 0, none⟩ 1 1 (quadL [qd]) rfl rfl (fun j u hj => by rw [Addr.add_lit, Nat.zero_add]; exact HO7.out.2 j u hj) (by intro u hu; simp [quadL] at hu; rcases hu with rfl | rfl | rfl | rfl <;> rfl) (by unfold maxLen; omega) (by omega) (by simp; omega) ?_)
            intro v7 w7 ho7 hg7 _ hat7
            have H7 : Hid (GoodK perm (K.take (k + 1)) ∧ w7.ownsRow w3.heap.size 34 4 v7 (R ++ [qd]).length (quadL (R ++ [qd])) ∧ Below w3.heap.size w3 w7) := by
              refine ⟨HG1.out, by rw [quadL_app, List.length_append, ← HRl.out]; exact ho7, ?_⟩
              exact (HO6.out.2.1.trans ((below_alloc _ _).mono hz3r)).grown hg7 (by simp; omega) (fun g e => (own_lt HQ.out.1 g e).1)
            have HN : Hid (R ++ [qd] = (K.take (k + 1)).map (quadOf perm)) := by
              show R ++ [qd] = _
              rw [List.take_add_one, List.getElem?_eq_getElem hkK, List.map_append, ← HQ.out.2.2.1, HQq.out, HKy.out.1]
              rfl
            obtain ⟨a7, c7, e7, _⟩ := own_form ho7
            subst e7
            clear ho7 hg7 hat7 HO7
            go_wp2
            go_roundw
            case rel => exact ⟨k + 1, R ++ [qd], by omega, by go_num, HN.out, H7.out⟩
            case measure => simp [intOf]; omega
        · have hszi : ¬ (key.size : Int) = 16 := by omega
          have HNo : Hid (¬ GoodK perm K) := fun h => hsz (h key HKy.out.2).1
          go_wp2
          refine bodyPost_ret (v := .tuple #[.slice none 0 0, .bool false]) (by simp [results, Tryz.results69, go_sem]) rfl ?_
          exact ⟨false, none, 0, [], rfl, HBw.out, .inl rfl, .inr ⟨rfl, rfl, HNo.out⟩⟩
      · obtain rfl : k = kl := by omega
        have k1 : ¬ (k : Int) < (k : Int) := by omega
        have HF : Hid (RdQ wr ar R ∧ rl = R.length ∧ R = K.map (quadOf perm) ∧ GoodK perm K) := by
          have ho := HQ.out.1
          rw [HRl.out] at ho
          have e : K.take k = K := by rw [HKL.out, List.take_length]
          refine ⟨own_rdq ho, HRl.out, ?_, ?_⟩
          · rw [HQ.out.2.2.1, e]
          · have := HQ.out.2.2.2.1
            rw [e] at this
            exact this
        go_wp2
        refine bodyPost_ret (v := .tuple #[.slice ar rl cr, .bool true]) (by simp [results, Tryz.results69, go_sem]) rfl ?_
        exact ⟨true, ar, cr, R, by rw [← HF.out.2.1], HBw.out, HF.out.1, .inl ⟨rfl, HF.out.2.2.1, HF.out.2.2.2⟩⟩
end Go.Proofs.YtcnollkkigiobaaGreat

namespace Go.Proofs.YtcnollkkigiobaaGreat
open Go.RowKit Go.Deep
set_option linter.unusedVariables false
set_option maxRecDepth 100000

/-- A tree all of whose keys are quads' keys in an order. -/
def OkT (perm m : Nat) (N : Nat → Tn) : Prop := ∃ t, VTt m N t ∧ (keysR 21 t).length ≤ 300 ∧ ∀ k, k ∈ keysR 21 t → k.size = 16 ∧ quadB (quadOf perm k) = true
/-- A tree holds the quads of the first. -/
def SameQ (i m : Nat) (N : Nat → Tn) (m0 : Nat) (N0 : Nat → Tn) : Prop := ∀ t t0, VTt m N t → VTt m0 N0 t0 → (keysR 21 t).length = (keysR 21 t0).length ∧ ∀ k, k ∈ keysR 21 t → quadOf i k ∈ (keysR 21 t0).map (quadOf 0)
/-- A valid index. -/
def VI (n : Nat) (M : Nat → Nat) (T : Nat → Nat → Tn) : Prop := n = 6 ∧ (∀ j, j < 6 → OkT j (M j) (T j)) ∧ ∀ i, 1 ≤ i → i < 6 → SameQ i (M i) (T i) (M 0) (T 0)
theorem vtt1 {n : Nat} {N : Nat → Tn} {t t' : Ro 21} (h : VTt n N t) (h' : VTt n N t') : t = t' := by
  have q := h.2.2.1
  rw [h'.2.2.1] at q
  injection q with q
  injection q with q _
  exact q.symm

set_option maxHeartbeats 8000000 in
theorem specVI (a : Option Addr) (n c : Nat) (M : Nat → Nat) (T : Nat → Nat → Tn) (w : World) (h : RdIx w a n M T) (hn : n ≤ 1048576) (hN : IxFit n M T) :
    Calls Tryz.prog 25 #[.agg #[.slice a n c]] w (AnsN w (VI n M T)) := by
  by_cases h6 : n = 6
  case neg =>
    have h6i : ¬ (n : Int) = 6 := by omega
    have h6d : ((n : Int) != 6) = true := by simp; omega
    have HF : Hid (¬ VI n M T) := fun q => h6 q.1
    clear h hN
    go_enter Tryz.func25, Tryz.ntmps25
    go_wp2
    go_ret
    exact ⟨false, rfl, by simp [HF.out], below_alloc _ _⟩
  case pos =>
  subst h6
  have HR : Hid (RdIx w a 6 M T ∧ IxFit 6 M T) := ⟨h, hN⟩
  clear h hN hn
  go_enter Tryz.func25, Tryz.ntmps25
  go_wp2
  go_loopw [3, 4, 5, 6, 7] (fun i _ _ _ _ wr => ∃ j : Nat, j ≤ 6 ∧ i = .int .i64 j ∧ (∀ q, q < j → OkT q (M q) (T q)) ∧ Below w.heap.size w wr ∧ Bx wr w.heap.size 32 #[.slice a 6 c]) (fun i _ _ _ _ _ => 6 - (intOf i).toNat)
  case atStart => exact ⟨0, by omega, rfl, fun q hq => absurd hq (Nat.not_lt_zero _), below_alloc _ _, Bx.new _ _ _⟩
  case round =>
    obtain ⟨j, hj, rfl, hok, hbel, hbx⟩ := hrel
    have HS : Hid ((∀ q, q < j → OkT q (M q) (T q)) ∧ Below w.heap.size w wr ∧ Bx wr w.heap.size 32 #[.slice a 6 c]) := ⟨hok, hbel, hbx⟩
    have b0 := hbx.cell 0
    simp at b0
    have bl := hbx.lt
    have j0 : (0 : Int) ≤ (j : Int) := by omega
    by_cases hlt : j < 6
    · have j1 : (j : Int) < 6 := by omega
      rcases HR.out.1.below hbel with q | ⟨bb, oo, ea, hc⟩
      · omega
      obtain ⟨aj, cj, s0, hrd⟩ := hc j hlt
      have hfit := HR.out.2 j hlt
      obtain ⟨m, hm⟩ : ∃ m, m = M j := ⟨_, rfl⟩
      have HM : Hid (m = M j) := hm
      have HOf : Hid (Calls Tryz.prog 57 #[.agg #[.slice aj m cj]] wr (RetOf wr (M j) (T j))) := by
        rw [hm]
        exact of_any aj (M j) cj (T j) wr hrd hfit.1 hfit.2
      rw [← hm] at s0
      subst ea
      clear hok hbel hbx hc hrd hfit hm
      go_wp2_with fail
      (with_reducible refine HOf.out.mono ?_)
      rintro e w1 ⟨hb1, lf, ka, kn, kc, ca, cn, cc, ok, rfl, hr⟩
      have H1 : Hid (Below w.heap.size w w1 ∧ Bx w1 w.heap.size 32 #[.slice (some ⟨bb, oo, none⟩) 6 c]) := ⟨HS.out.2.1.trans (hb1.mono HS.out.2.1.size), HS.out.2.2.below hb1⟩
      clear hb1 HOf b0 bl s0
      cases ok with
      | false =>
        have HF : Hid (¬ VI 6 M T) := fun q => by
          obtain ⟨t, ht, _⟩ := q.2.1 j hlt
          rcases hr with ⟨_, hno, _⟩ | ⟨q, _⟩
          · exact hno ⟨t, ht⟩
          · cases q
        clear hr
        go_wp2
        go_ret
        exact ⟨false, rfl, by simp [HF.out], H1.out.1.alloc H1.out.1.size _⟩
      | true =>
        obtain ⟨t, hvt, hna⟩ : ∃ t, VTt (M j) (T j) t ∧ NA w1 21 t (.agg #[.bool lf, .slice ka kn kc, .slice ca cn cc]) := by
          rcases hr with ⟨q, _⟩ | ⟨_, q⟩
          · cases q
          · exact q
        have hend := nestR_end hvt.2.2.1
        have hm5 := hvt.2.1
        obtain ⟨hh, hbal⟩ := hvt.2.2.2.1
        have hfl := fit_len (bal_fit hbal)
        have HV : Hid (VTt (M j) (T j) t) := hvt
        have HKeys : Hid (∀ W, Below w1.heap.size w1 W → Calls Tryz.prog 58 #[.agg #[.bool lf, .slice ka kn kc, .slice ca cn cc]] W (RetStrs W (keysR 21 t))) := fun W hW => keys_any 21 t _ W (hna.below hW) (by omega) (by omega)
        have hk20 : (keysR 21 t).length ≤ 20000 := by omega
        clear hr hna hvt hend hm5 hbal hfl
        go_wp2_with fail
        (with_reducible refine (HKeys.out _ (below_alloc _ _)).mono ?_)
        rintro e w3 ⟨a3, c3, rfl, ho3, hb3, _, _⟩
        obtain ⟨kl, hkl⟩ : ∃ kl, kl = (keysR 21 t).length := ⟨_, rfl⟩
        have HKL : Hid (kl = (keysR 21 t).length) := hkl
        have H3 : Hid (Below w.heap.size w w3 ∧ Bx w3 w.heap.size 32 #[.slice (some ⟨bb, oo, none⟩) 6 c] ∧ RdS w3 a3 kl (gt (keysR 21 t))) := by
          have q := H1.out.1.alloc H1.out.1.size (.cells #[.bool lf, .slice ka kn kc, .slice ca cn cc] 91)
          exact ⟨q.trans (hb3.mono q.size), (H1.out.2.alloc _).below hb3, by rw [hkl]; exact ho3.rd⟩
        rw [← hkl] at hk20 ⊢
        clear hkl ho3 hb3 HKeys H1
        by_cases h300 : 300 < kl
        · have h3i : (300 : Int) < (kl : Int) := by omega
          have h3d : decide ((300 : Int) < (kl : Int)) = true := decide_eq_true h3i
          have HF : Hid (¬ VI 6 M T) := fun q => by
            obtain ⟨t', ht', hl', _⟩ := q.2.1 j hlt
            rw [vtt1 ht' HV.out, ← HKL.out] at hl'
            omega
          go_wp2
          go_ret
          exact ⟨false, rfl, by simp [HF.out], H3.out.1⟩
        · have h3i : ¬ (300 : Int) < (kl : Int) := by omega
          have h3d : decide ((300 : Int) < (kl : Int)) = false := decide_eq_false h3i
          go_wp2
          go_loopw [7] (fun i wr => ∃ k : Nat, k ≤ kl ∧ i = .int .i64 k ∧ (∀ x, x < k → (gt (keysR 21 t) x).size = 16 ∧ quadB (quadOf j (gt (keysR 21 t) x)) = true) ∧ Below w3.heap.size w3 wr) (fun i _ => kl - (intOf i).toNat)
          case atStart => exact ⟨0, Nat.zero_le _, rfl, fun x hx => absurd hx (Nat.not_lt_zero _), Below.refl _ _⟩
          case round =>
            obtain ⟨k, hk, rfl, hall, hbq⟩ := hrel
            have HQ : Hid ((∀ x, x < k → (gt (keysR 21 t) x).size = 16 ∧ quadB (quadOf j (gt (keysR 21 t) x)) = true) ∧ Below w3.heap.size w3 wr ∧ Below w.heap.size w wr ∧ Bx wr w.heap.size 32 #[.slice (some ⟨bb, oo, none⟩) 6 c]) := ⟨hall, hbq, H3.out.1.trans (hbq.mono H3.out.1.size), H3.out.2.1.below hbq⟩
            have k0 : (0 : Int) ≤ (k : Int) := by omega
            by_cases hkl : k < kl
            · have k1 : (k : Int) < (kl : Int) := by omega
              obtain ⟨b5, o5, ea, s1⟩ := (H3.out.2.2.below hbq).cellOf k hkl
              obtain ⟨key, hkey⟩ : ∃ key, key = gt (keysR 21 t) k := ⟨_, rfl⟩
              have HKy : Hid (key = gt (keysR 21 t) k ∧ key ∈ keysR 21 t) := ⟨hkey, by rw [hkey]; exact gt_mem (by rw [← HKL.out]; exact hkl)⟩
              rw [← hkey] at s1
              clear hkey hall hbq
              subst ea
              by_cases hs : key.size = 16
              · have hsi : (key.size : Int) = 16 := by omega
                have hsd : ((key.size : Int) != 16) = false := by simp [hsi]
                have HQd : Hid (Calls Tryz.prog 59 #[.string key, .int .i64 (j : Int)] wr fun e w' => e = .returned (qv (quadOf j key)) ∧ Below wr.heap.size wr w') := l5Quad_any j hlt key hs wr
                have HSz : Hid (key.size = 16) := hs
                clear hs hsi
                go_wp2_with fail
                (with_reducible refine HQd.out.mono ?_)
                rintro e w5 ⟨rfl, hb5⟩
                have HG : Hid (∀ W, Calls Tryz.prog 41 #[qv (quadOf j key)] W fun e w' => e = .returned (.bool (quadB (quadOf j key))) ∧ Below W.heap.size W w') := fun W => l5Good_any _ W
                have H5 : Hid (Below w3.heap.size w3 w5 ∧ Below w.heap.size w w5) := ⟨HQ.out.2.1.trans (hb5.mono HQ.out.2.1.size), HQ.out.2.2.1.trans (hb5.mono HQ.out.2.2.1.size)⟩
                have HQB : Hid (∀ b, b = quadB (quadOf j key) → b = quadB (quadOf j (gt (keysR 21 t) k))) := fun b hb => by rw [hb, HKy.out.1]
                generalize hqv : qv (quadOf j key) = qq at HG ⊢
                unfold qv at hqv
                subst hqv
                clear hb5 HQd
                go_wp2_with fail
                (with_reducible refine (HG.out _).mono ?_)
                rintro e w6 ⟨rfl, hb6⟩
                have H6 : Hid (Below w3.heap.size w3 w6 ∧ Below w.heap.size w w6) := ⟨H5.out.1.trans (hb6.mono H5.out.1.size), H5.out.2.trans (hb6.mono H5.out.2.size)⟩
                clear hb6 HG
                cases hqb : quadB (quadOf j key) with
                | false =>
                  have HF : Hid (¬ VI 6 M T) := fun q => by
                    obtain ⟨t', ht', _, hg'⟩ := q.2.1 j hlt
                    rw [vtt1 ht' HV.out] at hg'
                    have q2 := (hg' key HKy.out.2).2
                    rw [hqb] at q2
                    cases q2
                  go_wp2
                  go_ret
                  exact ⟨false, rfl, by simp [HF.out], H6.out.2⟩
                | true =>
                  have HN : Hid (∀ x, x < k + 1 → (gt (keysR 21 t) x).size = 16 ∧ quadB (quadOf j (gt (keysR 21 t) x)) = true) := fun x hx => by
                    by_cases e : x = k
                    · subst e
                      rw [← HKy.out.1]
                      exact ⟨HSz.out, hqb⟩
                    · exact HQ.out.1 x (by omega)
                  go_wp2
                  go_roundw
                  case rel => exact ⟨k + 1, by omega, by go_num, HN.out, H6.out.1⟩
                  case measure => simp [intOf]; omega
              · have hsi : ¬ (key.size : Int) = 16 := by omega
                have hsd : ((key.size : Int) != 16) = true := by simp; omega
                have HF : Hid (¬ VI 6 M T) := fun q => by
                  obtain ⟨t', ht', _, hg'⟩ := q.2.1 j hlt
                  rw [vtt1 ht' HV.out] at hg'
                  exact hs (hg' key HKy.out.2).1
                go_wp2
                go_ret
                exact ⟨false, rfl, by simp [HF.out], HQ.out.2.2.1⟩
            · obtain rfl : k = kl := by omega
              have HN : Hid (∀ q, q < j + 1 → OkT q (M q) (T q)) := fun q hq => by
                by_cases e : q = j
                · subst e
                  refine ⟨t, HV.out, by rw [← HKL.out]; omega, fun x hx => ?_⟩
                  obtain ⟨y, hy, e⟩ := List.getElem_of_mem hx
                  have q2 := HQ.out.1 y (by rw [HKL.out]; exact hy)
                  rw [gt_in hy, e] at q2
                  exact q2
                · exact HS.out.1 q (by omega)
              clear hall hbq
              go_wp2
              go_roundw
              case rel => exact ⟨j + 1, by omega, by go_num, HN.out, HQ.out.2.2⟩
              case measure => simp [intOf]; omega
    · obtain rfl : j = 6 := by omega
      have HOk : Hid (∀ q, q < 6 → OkT q (M q) (T q)) := hok
      have HRd : Hid (∀ (W : World) (i : Nat), Below w.heap.size w W → i < 6 → ∃ bb oo ai ci, a = some ⟨bb, oo, none⟩ ∧ W.cell? ⟨bb, oo + i, none⟩ = some (.slice ai (M i) ci) ∧ RdTn W ai (M i) (T i)) := fun W i hW hi => by
        rcases HR.out.1.below hW with q | ⟨bb, oo, ea, hc⟩
        · omega
        · obtain ⟨ai, ci, q1, q2⟩ := hc i hi
          exact ⟨bb, oo, ai, ci, ea, q1, q2⟩
      have HQs : Hid (∀ (W : World) (i : Nat) (ai : Option Addr) (ci : Nat) (t : Ro 21) (L : List Qd), i < 6 → RdTn W ai (M i) (T i) → VTt (M i) (T i) t → L = (keysR 21 t).map (quadOf i) → Calls Tryz.prog 33 #[.agg #[.slice ai (M i) ci], .int .i64 (i : Int)] W fun e w' => ∃ a' c', e = .returned (.slice a' L.length c') ∧ RdQ w' a' L ∧ Below W.heap.size W w') := fun W i ai ci t L hi hr hv hL => by
        obtain ⟨t', ht', hl', hg'⟩ := HOk.out i hi
        rw [vtt1 ht' hv] at hl' hg'
        exact l5Quads_any i hi ai (M i) ci (T i) t W hr hv (HR.out.2 i hi).2 (fun k hk => (hg' k hk).1) hl' L hL
      obtain ⟨t0, hv0, hl0, hg0⟩ := hok 0 (by omega)
      obtain ⟨L0, hL0⟩ : ∃ L0, L0 = (keysR 21 t0).map (quadOf 0) := ⟨_, rfl⟩
      obtain ⟨bb, oo, a0, c0, ea, s0, hrd0⟩ := HRd.out wr 0 hbel (by omega)
      have HQ0 : Hid (Calls Tryz.prog 33 #[.agg #[.slice a0 (M 0) c0], .int .i64 0] wr fun e w' => ∃ a' c', e = .returned (.slice a' L0.length c') ∧ RdQ w' a' L0 ∧ Below wr.heap.size wr w') := HQs.out wr 0 a0 c0 t0 L0 (by omega) hrd0 hv0 hL0
      have H0 : Hid (VTt (M 0) (T 0) t0 ∧ L0 = (keysR 21 t0).map (quadOf 0) ∧ L0.length ≤ 300) := ⟨hv0, hL0, by rw [hL0, List.length_map]; exact hl0⟩
      clear hv0 hl0 hg0 hL0 hrd0 hok hbel hbx
      rw [Nat.add_zero] at s0
      subst ea
      go_wp2_with fail
      (with_reducible refine HQ0.out.mono ?_)
      rintro e w1 ⟨a1, c1, rfl, hq1, hb1⟩
      obtain ⟨l0, hl0⟩ : ∃ l0, l0 = L0.length := ⟨_, rfl⟩
      have HL0 : Hid (l0 = L0.length) := hl0
      have hl300 : l0 ≤ 300 := by rw [hl0]; exact H0.out.2.2
      have H1 : Hid (Below w.heap.size w w1 ∧ Bx w1 w.heap.size 32 #[.slice (some ⟨bb, oo, none⟩) 6 c] ∧ RdQ w1 a1 L0) := ⟨HS.out.2.1.trans (hb1.mono HS.out.2.1.size), HS.out.2.2.below hb1, hq1⟩
      rw [← hl0]
      clear hq1 hb1 HQ0 hl0 s0 b0 bl
      go_wp2
      go_loopw [9, 10, 11] (fun i _ _ wr => ∃ x : Nat, 1 ≤ x ∧ x ≤ 6 ∧ i = .int .i64 x ∧ (∀ q, 1 ≤ q → q < x → SameQ q (M q) (T q) (M 0) (T 0)) ∧ Below w1.heap.size w1 wr) (fun i _ _ _ => 6 - (intOf i).toNat)
      case atStart => exact ⟨1, by omega, by omega, rfl, fun q h1 h2 => by omega, Below.refl _ _⟩
      case round =>
        obtain ⟨x, hx1, hx6, rfl, hsm, hbq⟩ := hrel
        have hbw : Below w.heap.size w wr := H1.out.1.trans (hbq.mono H1.out.1.size)
        have HQ : Hid ((∀ q, 1 ≤ q → q < x → SameQ q (M q) (T q) (M 0) (T 0)) ∧ Below w1.heap.size w1 wr ∧ Below w.heap.size w wr) := ⟨hsm, hbq, hbw⟩
        have x0 : (0 : Int) ≤ (x : Int) := by omega
        by_cases hxl : x < 6
        · have x1 : (x : Int) < 6 := by omega
          obtain ⟨t, hvt, hlt, hgt⟩ := HOk.out x hxl
          obtain ⟨L, hL⟩ : ∃ L, L = (keysR 21 t).map (quadOf x) := ⟨_, rfl⟩
          obtain ⟨bb', oo', ax, cx, ea, s0, hrdx⟩ := HRd.out wr x hbw hxl
          injection ea with ea
          injection ea with ea1 ea2
          subst ea1 ea2
          obtain ⟨m, hm⟩ : ∃ m, m = M x := ⟨_, rfl⟩
          have HQx : Hid (Calls Tryz.prog 33 #[.agg #[.slice ax m cx], .int .i64 (x : Int)] wr fun e w' => ∃ a' c', e = .returned (.slice a' L.length c') ∧ RdQ w' a' L ∧ Below wr.heap.size wr w') := by
            rw [hm]
            exact HQs.out wr x ax cx t L hxl hrdx hvt hL
          rw [← hm] at s0
          have HT : Hid (VTt (M x) (T x) t ∧ L = (keysR 21 t).map (quadOf x) ∧ L.length ≤ 300) := ⟨hvt, hL, by rw [hL, List.length_map]; exact hlt⟩
          have hbxr := H1.out.2.1.below hbq
          have b0 := hbxr.cell 0
          simp at b0
          have bl := hbxr.lt
          clear hvt hlt hgt hL hrdx hm hsm hbq hbw hbxr
          go_wp2_with fail
          (with_reducible refine HQx.out.mono ?_)
          rintro e w3 ⟨a3, c3, rfl, hq3, hb3⟩
          obtain ⟨l3, hl3⟩ : ∃ l3, l3 = L.length := ⟨_, rfl⟩
          have HL3 : Hid (l3 = L.length) := hl3
          have hl33 : l3 ≤ 300 := by rw [hl3]; exact HT.out.2.2
          have H3 : Hid (Below w1.heap.size w1 w3 ∧ Below w.heap.size w w3 ∧ RdQ w3 a3 L) := ⟨HQ.out.2.1.trans (hb3.mono HQ.out.2.1.size), HQ.out.2.2.trans (hb3.mono HQ.out.2.2.size), hq3⟩
          rw [← hl3]
          clear hq3 hb3 HQx hl3 s0 b0 bl
          by_cases hne : l3 = l0
          · have hned : ((l3 : Int) != (l0 : Int)) = false := by simp [hne]
            have HNe : Hid (l3 = l0) := hne
            clear hne
            go_wp2
            go_loopw [11] (fun i wr => ∃ k : Nat, k ≤ l3 ∧ i = .int .i64 k ∧ (∀ y (h : y < L.length), y < k → L[y] ∈ L0) ∧ Below w3.heap.size w3 wr) (fun i _ => l3 - (intOf i).toNat)
            case atStart => exact ⟨0, Nat.zero_le _, rfl, fun y _ hy => absurd hy (Nat.not_lt_zero _), Below.refl _ _⟩
            case round =>
              obtain ⟨k, hk, rfl, hall, hbr⟩ := hrel
              have HK : Hid ((∀ y (h : y < L.length), y < k → L[y] ∈ L0) ∧ Below w1.heap.size w1 wr ∧ Below w.heap.size w wr ∧ Below w3.heap.size w3 wr) := ⟨hall, H3.out.1.trans (hbr.mono H3.out.1.size), H3.out.2.1.trans (hbr.mono H3.out.2.1.size), hbr⟩
              have k0 : (0 : Int) ≤ (k : Int) := by omega
              by_cases hkl : k < l3
              · have k1 : (k : Int) < (l3 : Int) := by omega
                have hkL : k < L.length := by rw [← HL3.out]; exact hkl
                rcases H3.out.2.2.below hbr with q | ⟨gb, ea, hc⟩
                · omega
                obtain ⟨s0, s1, s2, s3⟩ := hc k hkL
                obtain ⟨qd, hqd⟩ : ∃ qd, qd = L[k] := ⟨_, rfl⟩
                have HQd : Hid (L[k] = qd) := hqd.symm
                rw [← hqd] at s0 s1 s2 s3
                have HHs : Hid (Calls Tryz.prog 43 #[.slice a1 l0 c1, .agg #[.int .i64 qd.s, .int .i64 qd.p, .int .i64 qd.o, .int .i64 qd.g]] wr fun e w' => ∃ b : Bool, e = .returned (.bool b) ∧ (b = true ↔ qd ∈ L0) ∧ Below wr.heap.size wr w') := l5Has_any a1 l0 c1 L0 qd wr (H1.out.2.2.below HK.out.2.1) HL0.out (by omega)
                subst ea
                clear hc hqd hall hbr
                go_wp2_with fail
                (with_reducible refine HHs.out.mono ?_)
                rintro e w5 ⟨b5, rfl, hb5, hbe5⟩
                have H5 : Hid (Below w3.heap.size w3 w5 ∧ Below w.heap.size w w5 ∧ (b5 = true ↔ qd ∈ L0)) := ⟨HK.out.2.2.2.trans (hbe5.mono HK.out.2.2.2.size), HK.out.2.2.1.trans (hbe5.mono HK.out.2.2.1.size), hb5⟩
                clear hb5 hbe5 HHs
                cases b5 with
                | false =>
                  have HF : Hid (¬ VI 6 M T) := fun q => by
                    have q2 := (q.2.2 x hx1 hxl t t0 HT.out.1 H0.out.1).2
                    have hkt : k < (keysR 21 t).length := by
                      have := HT.out.2.1
                      rw [this, List.length_map] at hkL
                      exact hkL
                    have q3 := q2 _ (List.getElem_mem hkt)
                    have e : L[k] = quadOf x (keysR 21 t)[k] := by
                      have e0 := HT.out.2.1
                      subst e0
                      rw [List.getElem_map]
                    rw [← e, HQd.out, ← H0.out.2.1] at q3
                    have q4 : false = true := H5.out.2.2.2 q3
                    cases q4
                  go_wp2
                  go_ret
                  exact ⟨false, rfl, by simp [HF.out], H5.out.2.1⟩
                | true =>
                  have HN : Hid (∀ y (h : y < L.length), y < k + 1 → L[y] ∈ L0) := fun y hy hy2 => by
                    by_cases e : y = k
                    · subst e
                      rw [HQd.out]
                      exact H5.out.2.2.1 rfl
                    · exact HK.out.1 y hy (by omega)
                  go_wp2
                  go_roundw
                  case rel => exact ⟨k + 1, by omega, by go_num, HN.out, H5.out.1⟩
                  case measure => simp [intOf]; omega
              · obtain rfl : k = l3 := by omega
                have HN : Hid (∀ q, 1 ≤ q → q < x + 1 → SameQ q (M q) (T q) (M 0) (T 0)) := fun q h1 h2 => by
                  by_cases e : q = x
                  · subst e
                    intro t' t0' ht' ht0'
                    rw [vtt1 ht' HT.out.1, vtt1 ht0' H0.out.1]
                    have eL := HT.out.2.1
                    have eL0 := H0.out.2.1
                    have e3 := HL3.out
                    have e0 := HL0.out
                    have ee := HNe.out
                    refine ⟨by rw [eL, List.length_map] at e3; rw [eL0, List.length_map] at e0; omega, fun ky hky => ?_⟩
                    obtain ⟨y, hy, e⟩ := List.getElem_of_mem hky
                    have hyL : y < L.length := by rw [eL, List.length_map]; exact hy
                    have q2 := HK.out.1 y hyL (by omega)
                    rw [← eL0]
                    have e4 : L[y] = quadOf q ky := by
                      subst eL
                      rw [List.getElem_map, e]
                    rw [← e4]
                    exact q2
                  · exact HQ.out.1 q h1 (by omega)
                clear hall hbr
                go_wp2
                go_roundw
                case rel => exact ⟨x + 1, by omega, by omega, by go_num, HN.out, HK.out.2.1⟩
                case measure => simp [intOf]; omega
          · have hnei : ¬ (l3 : Int) = (l0 : Int) := by omega
            have hned : ((l3 : Int) != (l0 : Int)) = true := by simp; omega
            have HF : Hid (¬ VI 6 M T) := fun q => by
              have q2 := (q.2.2 x hx1 hxl t t0 HT.out.1 H0.out.1).1
              have e3 := HL3.out
              have e0 := HL0.out
              rw [HT.out.2.1, List.length_map] at e3
              rw [H0.out.2.1, List.length_map] at e0
              omega
            go_wp2
            go_ret
            exact ⟨false, rfl, by simp [HF.out], H3.out.2.1⟩
        · obtain rfl : x = 6 := by omega
          have HF : Hid (VI 6 M T) := ⟨rfl, HOk.out, fun i h1 h2 => HQ.out.1 i h1 h2⟩
          clear hsm hbq hbw
          go_wp2
          go_ret
          exact ⟨true, rfl, by simp [HF.out], HQ.out.2.2⟩
end Go.Proofs.YtcnollkkigiobaaGreat

namespace Go.Proofs.YtcnollkkigiobaaGreat
open Go.RowKit Go.Deep
set_option linter.unusedVariables false
set_option maxRecDepth 100000

/-- The orders, as a row. -/
def layA : Array Value := #[.func (.func 101) #[] #[], .func (.func 102) #[] #[], .func (.func 103) #[] #[], .func (.func 104) #[] #[], .func (.func 105) #[] #[], .func (.func 106) #[] #[]]
theorem lay_idx (j : Nat) (hj : j < 6) (w : World) : (Instr.index 97 (.agg layA) (.int .i64 (j : Int))).run Tryz.prog w = .ok (.func (.func (layF j)) #[] #[]) w := by
  rcases (show j = 0 ∨ j = 1 ∨ j = 2 ∨ j = 3 ∨ j = 4 ∨ j = 5 by omega) with rfl | rfl | rfl | rfl | rfl | rfl
  · exact idx_0 w
  · exact idx_1 w
  · exact idx_2 w
  · exact idx_3 w
  · exact idx_4 w
  · exact idx_5 w
/-- Tree q of an index that was read. -/
def XT (B : Nat) (w : World) (A : Array Value) (M : Nat → Nat) (T : Nat → Nat → Tn) (q : Nat) : Prop :=
  A[q * 2]? = some (.func (.func (layF q)) #[] #[]) ∧ ∃ (t : Ro (M q)) (t' : Ro 21) (h : Nat) (v : Value), VTt (M q) (T q) t' ∧ keysR 21 t' = keysR (M q) t ∧ BalR (M q) true t h ∧ Tells (T q) 0 (M q) t 0 ∧ nodesR (M q) t = M q ∧ TAt (fun b => B ≤ b) w (M q) t v ∧ A[q * 2 + 1]? = some v
theorem XT.keep {B : Nat} {w w' : World} {A : Array Value} {M : Nat → Nat} {T : Nat → Nat → Tn} {q : Nat} (h : XT B w A M T q) (hz : w.heap.size ≤ w'.heap.size) (hb : ∀ k, k < w.heap.size → B ≤ k → w'.heap[k]? = w.heap[k]?) : XT B w' A M T q := by
  obtain ⟨h0, t, t', hh, v, h1, h2, h3, h4, h5, h6, h7⟩ := h
  exact ⟨h0, t, t', hh, v, h1, h2, h3, h4, h5, h6.mono hz (fun b hB hlt => ⟨hB, hb b hlt hB⟩), h7⟩
/-- The memory of readIndex once j trees were read. -/
structure IS (w W : World) (a : Option Addr) (c : Nat) (M : Nat → Nat) (T : Nat → Nat → Tn) (j : Nat) (A : Array Value) : Prop where
  ib : Bx W w.heap.size 32 #[.slice a 6 c]
  xb : Bx W (w.heap.size + 1) 109 A
  sz : A.size = 12
  bel : Below w.heap.size w W
  xt : ∀ q, q < j → XT (w.heap.size + 2) W A M T q
theorem IS.keep {w W W' : World} {a : Option Addr} {c : Nat} {M : Nat → Nat} {T : Nat → Nat → Tn} {j : Nat} {A : Array Value} (h : IS w W a c M T j A) (hb : Below W.heap.size W W') : IS w W' a c M T j A :=
  ⟨(hb.block _ h.ib.lt).trans h.ib, (hb.block _ h.xb.lt).trans h.xb, h.sz, h.bel.trans (hb.mono h.bel.size), fun q hq => (h.xt q hq).keep hb.size (fun k hk _ => hb.block k hk)⟩
theorem IS.put {w W : World} {a : Option Addr} {c : Nat} {M : Nat → Nat} {T : Nat → Nat → Tn} {j : Nat} {A : Array Value} (h : IS w W a c M T j A) (hj : j < 6) {t : Ro (M j)} {t' : Ro 21} {hh : Nat} {v : Value} (h1 : VTt (M j) (T j) t') (h2 : keysR 21 t' = keysR (M j) t) (h3 : BalR (M j) true t hh) (h4 : Tells (T j) 0 (M j) t 0) (h5 : nodesR (M j) t = M j) (h6 : TAt (fun b => w.heap.size + 2 ≤ b) W (M j) t v) :
    IS w ((W.setCell ⟨w.heap.size + 1, j * 2, none⟩ (.func (.func (layF j)) #[] #[])).setCell ⟨w.heap.size + 1, j * 2 + 1, none⟩ v) a c M T (j + 1) ((A.setIfInBounds (j * 2) (.func (.func (layF j)) #[] #[])).setIfInBounds (j * 2 + 1) v) := by
  have hz := h.sz
  have hk : ∀ k, w.heap.size + 2 ≤ k → ((W.setCell ⟨w.heap.size + 1, j * 2, none⟩ (.func (.func (layF j)) #[] #[])).setCell ⟨w.heap.size + 1, j * 2 + 1, none⟩ v).heap[k]? = W.heap[k]? := fun k hk => (Below.heap_setCell _ _ _ _ (by simp; omega)).trans (Below.heap_setCell _ _ _ _ (by simp; omega))
  refine ⟨(h.ib.other (by simp) _).other (by simp) _, (h.xb.set _ _).set _ _, by simp [hz], (h.bel.setCell (by simp) _).setCell (by simp) _, fun q hq => ?_⟩
  by_cases e : q = j
  · subst e
    refine ⟨?_, t, t', hh, v, h1, h2, h3, h4, h5, h6.mono (by simp) (fun b hB hlt => ⟨hB, hk b hB⟩), ?_⟩
    · rw [Array.getElem?_setIfInBounds_ne (by omega), Array.getElem?_setIfInBounds_self_of_lt (by omega)]
    · rw [Array.getElem?_setIfInBounds_self_of_lt (by simp; omega)]
  · obtain ⟨g0, s, s', sh, u, g1, g2, g3, g4, g5, g6, g7⟩ := h.xt q (by omega)
    refine ⟨?_, s, s', sh, u, g1, g2, g3, g4, g5, g6.mono (by simp) (fun b hB hlt => ⟨hB, hk b hB⟩), ?_⟩
    · rw [Array.getElem?_setIfInBounds_ne (by omega), Array.getElem?_setIfInBounds_ne (by omega)]
      exact g0
    · rw [Array.getElem?_setIfInBounds_ne (by omega), Array.getElem?_setIfInBounds_ne (by omega)]
      exact g7
theorem same_of {j m m0 : Nat} {N N0 : Nat → Tn} {t t0 : Ro 21} (hv : VTt m N t) (hv0 : VTt m0 N0 t0) {K : List ByteArray} (hK : keysR 21 t = K) : ((K.map (quadOf j)).length = ((keysR 21 t0).map (quadOf 0)).length ∧ ∀ q, q ∈ K.map (quadOf j) → q ∈ (keysR 21 t0).map (quadOf 0)) ↔ SameQ j m N m0 N0 := by
  subst hK
  constructor
  · rintro ⟨h1, h2⟩ s s0 hs hs0
    have e := vtt1 hv hs
    have e0 := vtt1 hv0 hs0
    subst e
    subst e0
    exact ⟨by simpa using h1, fun k hk => h2 _ (List.mem_map_of_mem hk)⟩
  · intro h
    obtain ⟨h1, h2⟩ := h t t0 hv hv0
    refine ⟨by simpa using h1, fun q hq => ?_⟩
    obtain ⟨k, hk, rfl⟩ := List.mem_map.1 hq
    exact h2 k hk
/-- The quads of the first tree. -/
def Fst (W : World) (M : Nat → Nat) (T : Nat → Nat → Tn) (j : Nat) (f : Value) : Prop :=
  1 ≤ j → ∃ (B : Nat) (t : Ro 21), f = .map (some B) ∧ VTt (M 0) (T 0) t ∧ QMap W B ((keysR 21 t).map (quadOf 0))
theorem Fst.keep {W W' : World} {M : Nat → Nat} {T : Nat → Nat → Tn} {j : Nat} {f : Value} (h : Fst W M T j f) (hb : Below W.heap.size W W') : Fst W' M T j f := fun hj => by
  obtain ⟨B, t, h1, h2, h3⟩ := h hj
  exact ⟨B, t, h1, h2, h3.below hb⟩
theorem Fst.put {W : World} {M : Nat → Nat} {T : Nat → Nat → Tn} {j b i i' : Nat} {f u u' : Value} {A : Array Value} {ty : TypeId} (h : Fst W M T j f) (hx : Bx W b ty A) : Fst ((W.setCell ⟨b, i, none⟩ u).setCell ⟨b, i', none⟩ u') M T j f := fun hj => by
  obtain ⟨B, t, h1, h2, h3⟩ := h hj
  refine ⟨B, t, h1, h2, h3.kept ?_⟩
  have hne : B ≠ b := by
    rintro rfl
    obtain ⟨es, cl, g, _⟩ := h3
    have hx' : W.heap[B]? = _ := hx
    rw [g] at hx'
    cases hx'
  exact (Below.heap_setCell _ _ _ _ hne).trans (Below.heap_setCell _ _ _ _ hne)
/-- What was found good in the first j trees. -/
def VIj (M : Nat → Nat) (T : Nat → Nat → Tn) (j : Nat) : Prop := (∀ q, q < j → OkT q (M q) (T q)) ∧ ∀ i, 1 ≤ i → i < j → SameQ i (M i) (T i) (M 0) (T 0)
/-- What readIndex leaves. -/
def RetIx (w : World) (a : Option Addr) (n c : Nat) (M : Nat → Nat) (T : Nat → Nat → Tn) (e : Ending) (w' : World) : Prop :=
  (e = .returned (.tuple #[.pointer none, .bool false]) ∧ ¬ VI n M T ∧ Below w.heap.size w w') ∨ (e = .returned (.tuple #[.pointer (some ⟨w.heap.size + 1, 0, none⟩), .bool true]) ∧ VI n M T ∧ ∃ A, IS w w' a c M T 6 A)

set_option maxHeartbeats 16000000 in
theorem readIndex_any (a : Option Addr) (n c : Nat) (M : Nat → Nat) (T : Nat → Nat → Tn) (w : World) (h : RdIx w a n M T) (hn : n ≤ 1048576) (hN : IxFit n M T) :
    Calls Tryz.prog 36 #[.agg #[.slice a n c]] w (RetIx w a n c M T) := by
  by_cases h6 : n = 6
  case neg =>
    have h6i : ¬ (n : Int) = 6 := by omega
    have h6d : ((n : Int) != 6) = true := by simp; omega
    have HF : Hid (¬ VI n M T) := fun q => h6 q.1
    clear h hN
    go_enter Tryz.func36, Tryz.ntmps36
    go_wp2
    refine bodyPost_ret (v := .tuple #[.pointer none, .bool false]) (by simp [results, Tryz.results36, go_sem]) rfl ?_
    exact .inl ⟨rfl, HF.out, below_alloc _ _⟩
  case pos =>
  subst h6
  have HR : Hid (RdIx w a 6 M T ∧ IxFit 6 M T) := ⟨h, hN⟩
  have HOr : Hid (∀ W : World, Calls Tryz.prog 62 #[] W fun e w' => e = .returned (.agg layA) ∧ Below W.heap.size W w') := orders_any
  clear h hN hn
  go_enter Tryz.func36, Tryz.ntmps36
  go_wp2_with fail
  (with_reducible refine (HOr.out _).mono ?_)
  rintro e w0 ⟨rfl, hb0⟩
  have I0 : Hid (∃ A, IS w w0 a c M T 0 A) := by
    have b1 := Bx.new w #[.slice a 6 c] 32
    have b2 := Bx.new (w.alloc (.cells #[.slice a 6 c] 32)) #[.nilFunc, .nilIface, .nilFunc, .nilIface, .nilFunc, .nilIface, .nilFunc, .nilIface, .nilFunc, .nilIface, .nilFunc, .nilIface] 109
    simp only [World.size_alloc] at b2
    exact ⟨_, (hb0.block _ (by simp; omega)).trans (b1.alloc _), (hb0.block _ (by simp)).trans b2, rfl, ((below_alloc _ _).alloc (by simp) _).trans (hb0.mono (by simp; omega)), fun q hq => absurd hq (Nat.not_lt_zero _)⟩
  clear hb0 HOr
  go_wp2_with fail
  go_loopw [5, 6, 7, 8, 9, 10, 18] (fun f _ _ _ _ _ i wr => ∃ (j : Nat) (A : Array Value), j ≤ 6 ∧ i = .int .i64 j ∧ IS w wr a c M T j A ∧ Fst wr M T j f ∧ VIj M T j) (fun _ _ _ _ _ _ i _ => 6 - (intOf i).toNat)
  case atStart =>
    obtain ⟨A, h⟩ := I0.out
    exact ⟨0, A, by omega, rfl, h, fun h => absurd h (by omega), fun q hq => absurd hq (Nat.not_lt_zero _), fun i _ h2 => absurd h2 (by omega)⟩
  case round =>
    obtain ⟨j, A, hj, rfl, hIS, hF, hV⟩ := hrel
    have HS : Hid (IS w wr a c M T j A ∧ VIj M T j) := ⟨hIS, hV⟩
    have HFs : Hid (Fst wr M T j u5) := hF
    have j0 : (0 : Int) ≤ (j : Int) := by omega
    clear hF hV I0
    by_cases hlt : j < 6
    · have j1 : (j : Int) < 6 := by omega
      have b0 := hIS.ib.cell 0
      simp at b0
      have bl := hIS.ib.lt
      have hix := lay_idx j hlt
      rcases HR.out.1.below hIS.bel with q | ⟨bb, oo, ea, hc⟩
      · omega
      obtain ⟨aj, cj, s0, hrd⟩ := hc j hlt
      have hfit := HR.out.2 j hlt
      obtain ⟨m, hm⟩ : ∃ m, m = M j := ⟨_, rfl⟩
      have HM : Hid (m = M j) := hm
      have HRt : Hid (Calls Tryz.prog 68 #[.agg #[.slice aj m cj]] wr (RetTree wr (M j) (T j))) := by
        rw [hm]
        exact readTree_any aj (M j) cj (T j) wr hrd hfit.1 hfit.2
      rw [← hm] at s0
      subst ea
      clear hc hrd hfit hm hIS
      go_wp2_with fail
      (with_reducible refine HRt.out.mono ?_)
      rintro e w1 ⟨hb1, v, ok, rfl, hr⟩
      have H1 : Hid (IS w w1 (some ⟨bb, oo, none⟩) c M T j A ∧ Fst w1 M T j u5 ∧ VIj M T j ∧ wr.heap.size ≤ w1.heap.size ∧ w.heap.size + 2 ≤ wr.heap.size) := ⟨HS.out.1.keep hb1, HFs.out.keep hb1, HS.out.2, hb1.size, HS.out.1.xb.lt⟩
      clear hb1 HRt b0 bl s0 hix HFs
      cases ok with
      | false =>
        have HF : Hid (¬ VI 6 M T) := fun q => by
          obtain ⟨t, ht, _⟩ := q.2.1 j hlt
          rcases hr with ⟨q, _⟩ | ⟨_, hno⟩
          · cases q
          · exact hno ⟨t, ht⟩
        clear hr
        go_wp2
        refine bodyPost_ret (v := .tuple #[.pointer none, .bool false]) (by simp [results, Tryz.results36, go_sem]) rfl ?_
        exact .inl ⟨rfl, HF.out, H1.out.1.bel⟩
      | true =>
        obtain ⟨t, t', hh, q1, q2, q3, q4, q5, q6⟩ : ∃ (t : Ro (M j)) (t' : Ro 21) (h : Nat), VTt (M j) (T j) t' ∧ keysR 21 t' = keysR (M j) t ∧ BalR (M j) true t h ∧ Tells (T j) 0 (M j) t 0 ∧ nodesR (M j) t = M j ∧ TAt (fun b => wr.heap.size ≤ b) w1 (M j) t v := by
          rcases hr with ⟨_, q⟩ | ⟨q, _⟩
          · exact q
          · cases q
        have HT : Hid (VTt (M j) (T j) t' ∧ keysR 21 t' = keysR (M j) t ∧ BalR (M j) true t hh ∧ Tells (T j) 0 (M j) t 0 ∧ nodesR (M j) t = M j ∧ TAt (fun b => wr.heap.size ≤ b) w1 (M j) t v) := ⟨q1, q2, q3, q4, q5, q6⟩
        obtain ⟨nb, _, hnb, c0, hv⟩ := q6.count
        obtain ⟨kl, hkl⟩ : ∃ kl, kl = (keysR (M j) t).length := ⟨_, rfl⟩
        have HKL : Hid (kl = (keysR (M j) t).length) := hkl
        rw [← hkl] at c0
        have HBe : Hid (Calls Tryz.prog 157 #[.pointer (some ⟨nb, 0, none⟩)] w1 fun e w' => e = .returned (.int .i64 (kl : Int)) ∧ w' = w1) := below_any nb kl w1 c0
        clear hr q1 q2 q3 q4 q5 q6 hkl hnb c0
        rcases hv with rfl | rfl
        · go_wp2_with fail
          (with_reducible refine HBe.out.mono ?_)
          rintro e w2 ⟨rfl, hw2⟩
          subst hw2
          by_cases h300 : 300 < kl
          · have i300 : (300 : Int) < (kl : Int) := by omega
            have i300d : decide ((300 : Int) < (kl : Int)) = true := decide_eq_true i300
            have HF : Hid (¬ VI 6 M T) := fun q => by
              obtain ⟨t2, ht2, hl2, _⟩ := q.2.1 j hlt
              have e := vtt1 ht2 HT.out.1
              subst e
              rw [HT.out.2.1, ← HKL.out] at hl2
              omega
            go_wp2
            refine bodyPost_ret (v := .tuple #[.pointer none, .bool false]) (by simp [results, Tryz.results36, go_sem]) rfl ?_
            exact .inl ⟨rfl, HF.out, H1.out.1.bel⟩
          · have i300 : ¬ (300 : Int) < (kl : Int) := by omega
            have i300d : decide ((300 : Int) < (kl : Int)) = false := decide_eq_false i300
            have hx12 := H1.out.1.sz
            obtain ⟨y0, x0⟩ : ∃ y, w2.cell? ⟨w.heap.size + 1, j * 2, none⟩ = some y := ⟨A[j * 2], by rw [H1.out.1.xb.cell, Array.getElem?_eq_getElem (by omega)]⟩
            obtain ⟨y1, x1⟩ : ∃ y, w2.cell? ⟨w.heap.size + 1, j * 2 + 1, none⟩ = some y := ⟨A[j * 2 + 1], by rw [H1.out.1.xb.cell, Array.getElem?_eq_getElem (by omega)]⟩
            have f0 := H1.out.1.xb.frozen (j * 2)
            have f1 := H1.out.1.xb.frozen (j * 2 + 1)
            have xl := H1.out.1.xb.lt
            obtain ⟨W2, hW2⟩ : ∃ W2, W2 = (w2.setCell ⟨w.heap.size + 1, j * 2, none⟩ (.func (.func (layF j)) #[] #[])).setCell ⟨w.heap.size + 1, j * 2 + 1, none⟩ (.iface 204 (.pointer (some ⟨nb, 0, none⟩))) := ⟨_, rfl⟩
            have H2 : Hid (∃ A', IS w W2 (some ⟨bb, oo, none⟩) c M T (j + 1) A' ∧ Fst W2 M T j u5 ∧ Calls Tryz.prog 69 #[.pointer (some ⟨w.heap.size + 1, j * 2, none⟩)] W2 (RetQs W2 j (keysR (M j) t))) := by
              have q6 : TAt (fun b => w.heap.size + 2 ≤ b) w2 (M j) t (.iface 204 (.pointer (some ⟨nb, 0, none⟩))) := HT.out.2.2.2.2.2.mono (Nat.le_refl _) (fun b hB _ => ⟨Nat.le_trans H1.out.2.2.2.2 hB, rfl⟩)
              have hput := H1.out.1.put hlt HT.out.1 HT.out.2.1 HT.out.2.2.1 HT.out.2.2.2.1 HT.out.2.2.2.2.1 q6
              rw [← hW2] at hput
              refine ⟨_, hput, by rw [hW2]; exact H1.out.2.1.put H1.out.1.xb, ?_⟩
              refine quads_any j hlt (w.heap.size + 1) (j * 2) W2 (M j) t (.iface 204 (.pointer (some ⟨nb, 0, none⟩))) hh ?_ ?_ ?_ HT.out.2.2.1 ?_ (by rw [← HKL.out]; omega)
              · rw [hput.xb.cell, Array.getElem?_setIfInBounds_ne (by omega), Array.getElem?_setIfInBounds_self_of_lt (by omega)]
              · rw [hput.xb.cell, Array.getElem?_setIfInBounds_self_of_lt (by simp; omega)]
              · refine q6.mono (by rw [hW2]; simp) (fun b hB hlt => ⟨by rw [hW2]; simpa using hlt, ?_⟩)
                rw [hW2]
                exact (Below.heap_setCell _ _ _ _ (by simp; omega)).trans (Below.heap_setCell _ _ _ _ (by simp; omega))
              · rw [← HT.out.2.1]
                exact asc_of_ascK HT.out.1.2.2.2.2.1
            go_wp2_with fail
            rw [← hW2]
            clear hW2 x0 x1 f0 f1 xl hx12
            obtain ⟨A', g1, g2, g3⟩ := H2.out
            have HA : Hid (IS w W2 (some ⟨bb, oo, none⟩) c M T (j + 1) A' ∧ Fst W2 M T j u5) := ⟨g1, g2⟩
            have HQs : Hid (Calls Tryz.prog 69 #[.pointer (some ⟨w.heap.size + 1, j * 2, none⟩)] W2 (RetQs W2 j (keysR (M j) t))) := g3
            clear g1 g2 g3 H2
            (with_reducible refine HQs.out.mono ?_)
            rintro e w3 ⟨ok3, a3, c3, L, rfl, hb3, hrq, hr3⟩
            obtain ⟨l, hl⟩ : ∃ l, l = L.length := ⟨_, rfl⟩
            have H3 : Hid (IS w w3 (some ⟨bb, oo, none⟩) c M T (j + 1) A' ∧ Fst w3 M T j u5 ∧ RdQ w3 a3 L ∧ l = L.length) := ⟨HA.out.1.keep hb3, HA.out.2.keep hb3, hrq, hl⟩
            have hl3 : l ≤ 300 := by
              rcases hr3 with ⟨_, q, _⟩ | ⟨_, q, _⟩
              · rw [hl, q, List.length_map, ← HKL.out]; omega
              · rw [hl, q]; simp
            rw [← hl]
            clear hb3 hrq hl HA HQs
            cases ok3 with
            | false =>
              have HF : Hid (¬ VI 6 M T ∧ L.Nodup) := by
                rcases hr3 with ⟨q, _⟩ | ⟨_, q, hno⟩
                · cases q
                · refine ⟨fun q => ?_, by rw [q]; exact List.nodup_nil⟩
                  obtain ⟨t2, ht2, _, hg2⟩ := q.2.1 j hlt
                  have e := vtt1 ht2 HT.out.1
                  subst e
                  rw [HT.out.2.1] at hg2
                  exact hno hg2
              clear hr3
              by_cases hj0 : j = 0
              · have hj0i : (j : Int) = 0 := by omega
                have hj0b : ((j : Int) == 0) = true := by simp; omega
                have HSet : Hid (Calls Tryz.prog 70 #[.slice a3 l c3] w3 fun e w' => ∃ B, e = .returned (.map (some B)) ∧ QMap w' B L ∧ Below w3.heap.size w3 w' ∧ w3.heap.size ≤ B) := setOf_any a3 l c3 L w3 H3.out.2.2.1 H3.out.2.2.2 (by omega) HF.out.2
                go_wp2_with fail
                (with_reducible refine HSet.out.mono ?_)
                rintro e w4 ⟨Bm, rfl, hqm, hb4, _⟩
                have H4 : Hid (Below w.heap.size w w4) := H3.out.1.bel.trans (hb4.mono H3.out.1.bel.size)
                clear hb4 hqm
                go_wp2
                refine bodyPost_ret (v := .tuple #[.pointer none, .bool false]) (by simp [results, Tryz.results36, go_sem]) rfl ?_
                exact .inl ⟨rfl, HF.out.1, H4.out⟩
              · have hj0i : ¬ (j : Int) = 0 := by omega
                have hj0b : ((j : Int) == 0) = false := by simp; omega
                go_wp2
                refine bodyPost_ret (v := .tuple #[.pointer none, .bool false]) (by simp [results, Tryz.results36, go_sem]) rfl ?_
                exact .inl ⟨rfl, HF.out.1, H3.out.1.bel⟩
            | true =>
              have HG : Hid (L = (keysR (M j) t).map (quadOf j) ∧ GoodK j (keysR (M j) t) ∧ L.Nodup ∧ OkT j (M j) (T j)) := by
                rcases hr3 with ⟨_, q, hgd⟩ | ⟨q, _⟩
                · refine ⟨q, hgd, ?_, t', HT.out.1, by rw [HT.out.2.1, ← HKL.out]; omega, by rw [HT.out.2.1]; exact hgd⟩
                  rw [q]
                  refine quads_nodup hlt ?_ (fun k hk => (hgd k hk).1)
                  rw [← HT.out.2.1]
                  exact asc_of_ascK HT.out.1.2.2.2.2.1
                · cases q
              clear hr3
              by_cases hj0 : j = 0
              · have hj0i : (j : Int) = 0 := by omega
                have hj0b : ((j : Int) == 0) = true := by simp; omega
                have HSet : Hid (Calls Tryz.prog 70 #[.slice a3 l c3] w3 fun e w' => ∃ B, e = .returned (.map (some B)) ∧ QMap w' B L ∧ Below w3.heap.size w3 w' ∧ w3.heap.size ≤ B) := setOf_any a3 l c3 L w3 H3.out.2.2.1 H3.out.2.2.2 (by omega) HG.out.2.2.1
                go_wp2_with fail
                (with_reducible refine HSet.out.mono ?_)
                rintro e w4 ⟨Bm, rfl, hqm, hb4, _⟩
                have H4 : Hid (IS w w4 (some ⟨bb, oo, none⟩) c M T (j + 1) A' ∧ QMap w4 Bm L) := ⟨H3.out.1.keep hb4, hqm⟩
                have HIs : Hid (Calls Tryz.prog 71 #[.map (some Bm), .slice a3 l c3] w4 (RetIs w4 L L)) := isOf_any Bm a3 l c3 L L w4 hqm (H3.out.2.2.1.below hb4) H3.out.2.2.2 (by omega)
                clear hb4 hqm HSet
                go_wp2_with fail
                (with_reducible refine HIs.out.mono ?_)
                rintro e w5 ⟨bq, rfl, hbq, hb5⟩
                have ebq : bq = true := hbq.2 ⟨rfl, fun q hq => hq⟩
                subst ebq
                have H5 : Hid (IS w w5 (some ⟨bb, oo, none⟩) c M T (j + 1) A' ∧ Fst w5 M T (j + 1) (.map (some Bm)) ∧ VIj M T (j + 1)) := by
                  refine ⟨H4.out.1.keep hb5, fun _ => ⟨Bm, ?_⟩, fun q hq => ?_, fun i h1 h2 => ?_⟩
                  · have q1 := HT.out.1
                    have q2 := HT.out.2.1
                    have q3 := HG.out.1
                    have q4 := H4.out.2.below hb5
                    rw [← q2] at q3
                    rw [q3] at q4
                    clear HT HKL HBe HG H4 HIs H3 H1 HS HM hbq
                    subst hj0
                    exact ⟨t', rfl, q1, q4⟩
                  · have e : q = j := by omega
                    rw [e]
                    exact HG.out.2.2.2
                  · omega
                clear hb5 hbq
                go_wp2
                go_roundw
                case rel => exact ⟨j + 1, A', by omega, by go_num, H5.out⟩
                case measure => simp [intOf]; omega
              · have hj0i : ¬ (j : Int) = 0 := by omega
                have hj0b : ((j : Int) == 0) = false := by simp; omega
                obtain ⟨Bm, t0, ef, hv0, hqm⟩ := H3.out.2.1 (by omega)
                subst ef
                have HIs : Hid (Calls Tryz.prog 71 #[.map (some Bm), .slice a3 l c3] w3 (RetIs w3 L ((keysR 21 t0).map (quadOf 0)))) := isOf_any Bm a3 l c3 L _ w3 hqm H3.out.2.2.1 H3.out.2.2.2 (by omega)
                have HV0 : Hid (VTt (M 0) (T 0) t0) := hv0
                clear hqm hv0
                go_wp2_with fail
                (with_reducible refine HIs.out.mono ?_)
                rintro e w5 ⟨bq, rfl, hbq, hb5⟩
                have HB : Hid (bq = true ↔ SameQ j (M j) (T j) (M 0) (T 0)) := by
                  rw [HG.out.1, same_of HT.out.1 HV0.out HT.out.2.1] at hbq
                  exact hbq
                have H5 : Hid (IS w w5 (some ⟨bb, oo, none⟩) c M T (j + 1) A' ∧ Fst w5 M T j (.map (some Bm))) := ⟨H3.out.1.keep hb5, H3.out.2.1.keep hb5⟩
                clear hb5 hbq HIs
                cases bq with
                | false =>
                  have HF : Hid (¬ VI 6 M T) := fun q => by
                    have := HB.out.2 (q.2.2 j (by omega) hlt)
                    cases this
                  go_wp2
                  refine bodyPost_ret (v := .tuple #[.pointer none, .bool false]) (by simp [results, Tryz.results36, go_sem]) rfl ?_
                  exact .inl ⟨rfl, HF.out, H5.out.1.bel⟩
                | true =>
                  have H6 : Hid (Fst w5 M T (j + 1) (.map (some Bm)) ∧ VIj M T (j + 1)) := by
                    refine ⟨fun _ => H5.out.2 (by omega), fun q hq => ?_, fun i h1 h2 => ?_⟩
                    · by_cases e : q = j
                      · rw [e]
                        exact HG.out.2.2.2
                      · exact H1.out.2.2.1.1 q (by omega)
                    · by_cases e : i = j
                      · rw [e]
                        exact HB.out.1 rfl
                      · exact H1.out.2.2.1.2 i h1 (by omega)
                  go_wp2
                  go_roundw
                  case rel => exact ⟨j + 1, A', by omega, by go_num, H5.out.1, H6.out⟩
                  case measure => simp [intOf]; omega
        · go_wp2_with fail
          (with_reducible refine HBe.out.mono ?_)
          rintro e w2 ⟨rfl, hw2⟩
          subst hw2
          by_cases h300 : 300 < kl
          · have i300 : (300 : Int) < (kl : Int) := by omega
            have i300d : decide ((300 : Int) < (kl : Int)) = true := decide_eq_true i300
            have HF : Hid (¬ VI 6 M T) := fun q => by
              obtain ⟨t2, ht2, hl2, _⟩ := q.2.1 j hlt
              have e := vtt1 ht2 HT.out.1
              subst e
              rw [HT.out.2.1, ← HKL.out] at hl2
              omega
            go_wp2
            refine bodyPost_ret (v := .tuple #[.pointer none, .bool false]) (by simp [results, Tryz.results36, go_sem]) rfl ?_
            exact .inl ⟨rfl, HF.out, H1.out.1.bel⟩
          · have i300 : ¬ (300 : Int) < (kl : Int) := by omega
            have i300d : decide ((300 : Int) < (kl : Int)) = false := decide_eq_false i300
            have hx12 := H1.out.1.sz
            obtain ⟨y0, x0⟩ : ∃ y, w2.cell? ⟨w.heap.size + 1, j * 2, none⟩ = some y := ⟨A[j * 2], by rw [H1.out.1.xb.cell, Array.getElem?_eq_getElem (by omega)]⟩
            obtain ⟨y1, x1⟩ : ∃ y, w2.cell? ⟨w.heap.size + 1, j * 2 + 1, none⟩ = some y := ⟨A[j * 2 + 1], by rw [H1.out.1.xb.cell, Array.getElem?_eq_getElem (by omega)]⟩
            have f0 := H1.out.1.xb.frozen (j * 2)
            have f1 := H1.out.1.xb.frozen (j * 2 + 1)
            have xl := H1.out.1.xb.lt
            obtain ⟨W2, hW2⟩ : ∃ W2, W2 = (w2.setCell ⟨w.heap.size + 1, j * 2, none⟩ (.func (.func (layF j)) #[] #[])).setCell ⟨w.heap.size + 1, j * 2 + 1, none⟩ (.iface 174 (.pointer (some ⟨nb, 0, none⟩))) := ⟨_, rfl⟩
            have H2 : Hid (∃ A', IS w W2 (some ⟨bb, oo, none⟩) c M T (j + 1) A' ∧ Fst W2 M T j u5 ∧ Calls Tryz.prog 69 #[.pointer (some ⟨w.heap.size + 1, j * 2, none⟩)] W2 (RetQs W2 j (keysR (M j) t))) := by
              have q6 : TAt (fun b => w.heap.size + 2 ≤ b) w2 (M j) t (.iface 174 (.pointer (some ⟨nb, 0, none⟩))) := HT.out.2.2.2.2.2.mono (Nat.le_refl _) (fun b hB _ => ⟨Nat.le_trans H1.out.2.2.2.2 hB, rfl⟩)
              have hput := H1.out.1.put hlt HT.out.1 HT.out.2.1 HT.out.2.2.1 HT.out.2.2.2.1 HT.out.2.2.2.2.1 q6
              rw [← hW2] at hput
              refine ⟨_, hput, by rw [hW2]; exact H1.out.2.1.put H1.out.1.xb, ?_⟩
              refine quads_any j hlt (w.heap.size + 1) (j * 2) W2 (M j) t (.iface 174 (.pointer (some ⟨nb, 0, none⟩))) hh ?_ ?_ ?_ HT.out.2.2.1 ?_ (by rw [← HKL.out]; omega)
              · rw [hput.xb.cell, Array.getElem?_setIfInBounds_ne (by omega), Array.getElem?_setIfInBounds_self_of_lt (by omega)]
              · rw [hput.xb.cell, Array.getElem?_setIfInBounds_self_of_lt (by simp; omega)]
              · refine q6.mono (by rw [hW2]; simp) (fun b hB hlt => ⟨by rw [hW2]; simpa using hlt, ?_⟩)
                rw [hW2]
                exact (Below.heap_setCell _ _ _ _ (by simp; omega)).trans (Below.heap_setCell _ _ _ _ (by simp; omega))
              · rw [← HT.out.2.1]
                exact asc_of_ascK HT.out.1.2.2.2.2.1
            go_wp2_with fail
            rw [← hW2]
            clear hW2 x0 x1 f0 f1 xl hx12
            obtain ⟨A', g1, g2, g3⟩ := H2.out
            have HA : Hid (IS w W2 (some ⟨bb, oo, none⟩) c M T (j + 1) A' ∧ Fst W2 M T j u5) := ⟨g1, g2⟩
            have HQs : Hid (Calls Tryz.prog 69 #[.pointer (some ⟨w.heap.size + 1, j * 2, none⟩)] W2 (RetQs W2 j (keysR (M j) t))) := g3
            clear g1 g2 g3 H2
            (with_reducible refine HQs.out.mono ?_)
            rintro e w3 ⟨ok3, a3, c3, L, rfl, hb3, hrq, hr3⟩
            obtain ⟨l, hl⟩ : ∃ l, l = L.length := ⟨_, rfl⟩
            have H3 : Hid (IS w w3 (some ⟨bb, oo, none⟩) c M T (j + 1) A' ∧ Fst w3 M T j u5 ∧ RdQ w3 a3 L ∧ l = L.length) := ⟨HA.out.1.keep hb3, HA.out.2.keep hb3, hrq, hl⟩
            have hl3 : l ≤ 300 := by
              rcases hr3 with ⟨_, q, _⟩ | ⟨_, q, _⟩
              · rw [hl, q, List.length_map, ← HKL.out]; omega
              · rw [hl, q]; simp
            rw [← hl]
            clear hb3 hrq hl HA HQs
            cases ok3 with
            | false =>
              have HF : Hid (¬ VI 6 M T ∧ L.Nodup) := by
                rcases hr3 with ⟨q, _⟩ | ⟨_, q, hno⟩
                · cases q
                · refine ⟨fun q => ?_, by rw [q]; exact List.nodup_nil⟩
                  obtain ⟨t2, ht2, _, hg2⟩ := q.2.1 j hlt
                  have e := vtt1 ht2 HT.out.1
                  subst e
                  rw [HT.out.2.1] at hg2
                  exact hno hg2
              clear hr3
              by_cases hj0 : j = 0
              · have hj0i : (j : Int) = 0 := by omega
                have hj0b : ((j : Int) == 0) = true := by simp; omega
                have HSet : Hid (Calls Tryz.prog 70 #[.slice a3 l c3] w3 fun e w' => ∃ B, e = .returned (.map (some B)) ∧ QMap w' B L ∧ Below w3.heap.size w3 w' ∧ w3.heap.size ≤ B) := setOf_any a3 l c3 L w3 H3.out.2.2.1 H3.out.2.2.2 (by omega) HF.out.2
                go_wp2_with fail
                (with_reducible refine HSet.out.mono ?_)
                rintro e w4 ⟨Bm, rfl, hqm, hb4, _⟩
                have H4 : Hid (Below w.heap.size w w4) := H3.out.1.bel.trans (hb4.mono H3.out.1.bel.size)
                clear hb4 hqm
                go_wp2
                refine bodyPost_ret (v := .tuple #[.pointer none, .bool false]) (by simp [results, Tryz.results36, go_sem]) rfl ?_
                exact .inl ⟨rfl, HF.out.1, H4.out⟩
              · have hj0i : ¬ (j : Int) = 0 := by omega
                have hj0b : ((j : Int) == 0) = false := by simp; omega
                go_wp2
                refine bodyPost_ret (v := .tuple #[.pointer none, .bool false]) (by simp [results, Tryz.results36, go_sem]) rfl ?_
                exact .inl ⟨rfl, HF.out.1, H3.out.1.bel⟩
            | true =>
              have HG : Hid (L = (keysR (M j) t).map (quadOf j) ∧ GoodK j (keysR (M j) t) ∧ L.Nodup ∧ OkT j (M j) (T j)) := by
                rcases hr3 with ⟨_, q, hgd⟩ | ⟨q, _⟩
                · refine ⟨q, hgd, ?_, t', HT.out.1, by rw [HT.out.2.1, ← HKL.out]; omega, by rw [HT.out.2.1]; exact hgd⟩
                  rw [q]
                  refine quads_nodup hlt ?_ (fun k hk => (hgd k hk).1)
                  rw [← HT.out.2.1]
                  exact asc_of_ascK HT.out.1.2.2.2.2.1
                · cases q
              clear hr3
              by_cases hj0 : j = 0
              · have hj0i : (j : Int) = 0 := by omega
                have hj0b : ((j : Int) == 0) = true := by simp; omega
                have HSet : Hid (Calls Tryz.prog 70 #[.slice a3 l c3] w3 fun e w' => ∃ B, e = .returned (.map (some B)) ∧ QMap w' B L ∧ Below w3.heap.size w3 w' ∧ w3.heap.size ≤ B) := setOf_any a3 l c3 L w3 H3.out.2.2.1 H3.out.2.2.2 (by omega) HG.out.2.2.1
                go_wp2_with fail
                (with_reducible refine HSet.out.mono ?_)
                rintro e w4 ⟨Bm, rfl, hqm, hb4, _⟩
                have H4 : Hid (IS w w4 (some ⟨bb, oo, none⟩) c M T (j + 1) A' ∧ QMap w4 Bm L) := ⟨H3.out.1.keep hb4, hqm⟩
                have HIs : Hid (Calls Tryz.prog 71 #[.map (some Bm), .slice a3 l c3] w4 (RetIs w4 L L)) := isOf_any Bm a3 l c3 L L w4 hqm (H3.out.2.2.1.below hb4) H3.out.2.2.2 (by omega)
                clear hb4 hqm HSet
                go_wp2_with fail
                (with_reducible refine HIs.out.mono ?_)
                rintro e w5 ⟨bq, rfl, hbq, hb5⟩
                have ebq : bq = true := hbq.2 ⟨rfl, fun q hq => hq⟩
                subst ebq
                have H5 : Hid (IS w w5 (some ⟨bb, oo, none⟩) c M T (j + 1) A' ∧ Fst w5 M T (j + 1) (.map (some Bm)) ∧ VIj M T (j + 1)) := by
                  refine ⟨H4.out.1.keep hb5, fun _ => ⟨Bm, ?_⟩, fun q hq => ?_, fun i h1 h2 => ?_⟩
                  · have q1 := HT.out.1
                    have q2 := HT.out.2.1
                    have q3 := HG.out.1
                    have q4 := H4.out.2.below hb5
                    rw [← q2] at q3
                    rw [q3] at q4
                    clear HT HKL HBe HG H4 HIs H3 H1 HS HM hbq
                    subst hj0
                    exact ⟨t', rfl, q1, q4⟩
                  · have e : q = j := by omega
                    rw [e]
                    exact HG.out.2.2.2
                  · omega
                clear hb5 hbq
                go_wp2
                go_roundw
                case rel => exact ⟨j + 1, A', by omega, by go_num, H5.out⟩
                case measure => simp [intOf]; omega
              · have hj0i : ¬ (j : Int) = 0 := by omega
                have hj0b : ((j : Int) == 0) = false := by simp; omega
                obtain ⟨Bm, t0, ef, hv0, hqm⟩ := H3.out.2.1 (by omega)
                subst ef
                have HIs : Hid (Calls Tryz.prog 71 #[.map (some Bm), .slice a3 l c3] w3 (RetIs w3 L ((keysR 21 t0).map (quadOf 0)))) := isOf_any Bm a3 l c3 L _ w3 hqm H3.out.2.2.1 H3.out.2.2.2 (by omega)
                have HV0 : Hid (VTt (M 0) (T 0) t0) := hv0
                clear hqm hv0
                go_wp2_with fail
                (with_reducible refine HIs.out.mono ?_)
                rintro e w5 ⟨bq, rfl, hbq, hb5⟩
                have HB : Hid (bq = true ↔ SameQ j (M j) (T j) (M 0) (T 0)) := by
                  rw [HG.out.1, same_of HT.out.1 HV0.out HT.out.2.1] at hbq
                  exact hbq
                have H5 : Hid (IS w w5 (some ⟨bb, oo, none⟩) c M T (j + 1) A' ∧ Fst w5 M T j (.map (some Bm))) := ⟨H3.out.1.keep hb5, H3.out.2.1.keep hb5⟩
                clear hb5 hbq HIs
                cases bq with
                | false =>
                  have HF : Hid (¬ VI 6 M T) := fun q => by
                    have := HB.out.2 (q.2.2 j (by omega) hlt)
                    cases this
                  go_wp2
                  refine bodyPost_ret (v := .tuple #[.pointer none, .bool false]) (by simp [results, Tryz.results36, go_sem]) rfl ?_
                  exact .inl ⟨rfl, HF.out, H5.out.1.bel⟩
                | true =>
                  have H6 : Hid (Fst w5 M T (j + 1) (.map (some Bm)) ∧ VIj M T (j + 1)) := by
                    refine ⟨fun _ => H5.out.2 (by omega), fun q hq => ?_, fun i h1 h2 => ?_⟩
                    · by_cases e : q = j
                      · rw [e]
                        exact HG.out.2.2.2
                      · exact H1.out.2.2.1.1 q (by omega)
                    · by_cases e : i = j
                      · rw [e]
                        exact HB.out.1 rfl
                      · exact H1.out.2.2.1.2 i h1 (by omega)
                  go_wp2
                  go_roundw
                  case rel => exact ⟨j + 1, A', by omega, by go_num, H5.out.1, H6.out⟩
                  case measure => simp [intOf]; omega
    · obtain rfl : j = 6 := by omega
      have j1 : ¬ (6 : Int) < 6 := by omega
      have HFin : Hid (VI 6 M T ∧ ∃ A, IS w wr a c M T 6 A) := ⟨⟨rfl, HS.out.2.1, HS.out.2.2⟩, A, HS.out.1⟩
      clear hIS
      go_wp2
      refine bodyPost_ret (v := .tuple #[.pointer (some ⟨w.heap.size + 1, 0, none⟩), .bool true]) (by simp [results, Tryz.results36, go_sem]) rfl ?_
      exact .inr ⟨rfl, HFin.out⟩
end Go.Proofs.YtcnollkkigiobaaGreat

namespace Go.Proofs.YtcnollkkigiobaaGreat
open Go.RowKit Go.Deep
set_option linter.unusedVariables false
set_option maxRecDepth 100000

/-- Bytes as a number. -/
def bnum : List UInt8 → Nat
  | [] => 0
  | x :: l => x.toNat * 256 ^ l.length + bnum l
theorem bnum_lt : ∀ l : List UInt8, bnum l < 256 ^ l.length
  | [] => by simp [bnum]
  | x :: l => by
    have h := bnum_lt l
    have hx : x.toNat < 256 := x.toNat_lt
    show x.toNat * 256 ^ l.length + bnum l < 256 ^ (l.length + 1)
    rw [Nat.pow_succ]
    have : (x.toNat + 1) * 256 ^ l.length ≤ 256 * 256 ^ l.length := Nat.mul_le_mul_right _ hx
    rw [Nat.add_mul] at this
    omega
theorem less_num : ∀ (a b : List UInt8), a.length = b.length → (Op.bytesLess a b = true ↔ bnum a < bnum b)
  | [], [], _ => by simp [bnum, Op.bytesLess]
  | [], _ :: _, h => by simp at h
  | _ :: _, [], h => by simp at h
  | x :: a, y :: b, h => by
    have hl : a.length = b.length := by simpa using h
    have ih := less_num a b hl
    have ha := bnum_lt a
    have hb := bnum_lt b
    show (decide (x < y) || (x == y && Op.bytesLess a b)) = true ↔ x.toNat * 256 ^ a.length + bnum a < y.toNat * 256 ^ b.length + bnum b
    rw [hl] at ha ⊢
    generalize 256 ^ b.length = P at ha hb ⊢
    rcases Nat.lt_trichotomy x.toNat y.toNat with h1 | h1 | h1
    · have e1 : x < y := h1
      have h2 : (x.toNat + 1) * P ≤ y.toNat * P := Nat.mul_le_mul_right _ h1
      rw [Nat.add_mul] at h2
      simp [e1]
      omega
    · have e1 : x = y := UInt8.toNat_inj.1 h1
      subst e1
      simp [ih]
    · have e1 : ¬ x < y := fun h => by have h' : x.toNat < y.toNat := h; omega
      have e2 : ¬ x = y := fun h => by rw [h] at h1; omega
      have h2 : (y.toNat + 1) * P ≤ x.toNat * P := Nat.mul_le_mul_right _ h1
      rw [Nat.add_mul] at h2
      simp [e1, e2]
      omega
theorem bnum_inj : ∀ (a b : List UInt8), a.length = b.length → bnum a = bnum b → a = b
  | [], [], _, _ => rfl
  | [], _ :: _, h, _ => by simp at h
  | _ :: _, [], h, _ => by simp at h
  | x :: a, y :: b, h, e => by
    have hl : a.length = b.length := by simpa using h
    have ha := bnum_lt a
    have hb := bnum_lt b
    have e' : x.toNat * 256 ^ a.length + bnum a = y.toNat * 256 ^ b.length + bnum b := e
    rw [hl] at ha e'
    have hxy : x.toNat = y.toNat := by
      generalize 256 ^ b.length = P at ha hb e'
      rcases Nat.lt_trichotomy x.toNat y.toNat with h1 | h1 | h1
      · have h2 : (x.toNat + 1) * P ≤ y.toNat * P := Nat.mul_le_mul_right _ h1
        rw [Nat.add_mul] at h2
        omega
      · exact h1
      · have h2 : (y.toNat + 1) * P ≤ x.toNat * P := Nat.mul_le_mul_right _ h1
        rw [Nat.add_mul] at h2
        omega
    rw [hxy] at e'
    have e1 : x = y := UInt8.toNat_inj.1 hxy
    subst e1
    rw [bnum_inj a b hl (by omega)]
theorem less_pre : ∀ (a b r : List UInt8), a.length = b.length → Op.bytesLess (a ++ r) b = Op.bytesLess a b
  | [], [], r, _ => by cases r <;> rfl
  | [], _ :: _, _, h => by simp at h
  | _ :: _, [], _, h => by simp at h
  | x :: a, y :: b, r, h => by
    show (decide (x < y) || (x == y && Op.bytesLess (a ++ r) b)) = (decide (x < y) || (x == y && Op.bytesLess a b))
    rw [less_pre a b r (by simpa using h)]
/-- Between two bounds that are neighbours there is one beginning. -/
theorem between {l lo hi : List UInt8} (hl : lo.length ≤ l.length) (he : lo.length = hi.length) (hn : bnum hi = bnum lo + 1) : (Op.bytesLess l lo = false ∧ Op.bytesLess l hi = true) ↔ l.take lo.length = lo := by
  have e : l = l.take lo.length ++ l.drop lo.length := (List.take_append_drop _ _).symm
  have hlen : (l.take lo.length).length = lo.length := by rw [List.length_take]; omega
  have h1 : Op.bytesLess l lo = Op.bytesLess (l.take lo.length) lo := by
    conv => lhs; rw [e]
    exact less_pre _ _ _ hlen
  have h2 : Op.bytesLess l hi = Op.bytesLess (l.take lo.length) hi := by
    conv => lhs; rw [e]
    exact less_pre _ _ _ (hlen.trans he)
  rw [h1, h2, less_num _ _ (hlen.trans he), hn]
  constructor
  · rintro ⟨g1, g2⟩
    have g3 : ¬ bnum (l.take lo.length) < bnum lo := fun h => by
      rw [← less_num _ _ hlen, g1] at h
      cases h
    exact bnum_inj _ _ hlen (by omega)
  · intro h
    rw [h]
    exact ⟨less_irrefl _, by omega⟩
end Go.Proofs.YtcnollkkigiobaaGreat

namespace Go.Proofs.YtcnollkkigiobaaGreat
open Go.RowKit Go.Deep
set_option linter.unusedVariables false
set_option maxRecDepth 100000

theorem bnum_app : ∀ (a b : List UInt8), bnum (a ++ b) = bnum a * 256 ^ b.length + bnum b
  | [], b => by simp [bnum]
  | x :: a, b => by
    show x.toNat * 256 ^ (a ++ b).length + bnum (a ++ b) = (x.toNat * 256 ^ a.length + bnum a) * 256 ^ b.length + bnum b
    rw [bnum_app a b, List.length_append, Nat.pow_add, Nat.add_mul, Nat.mul_assoc, Nat.add_assoc]
def pkL (x : Int) : List UInt8 := [UInt8.ofNat (x / 16777216).toNat, UInt8.ofNat (x / 65536 % 256).toNat, UInt8.ofNat (x / 256 % 256).toNat, UInt8.ofNat (x % 256).toNat]
theorem pkB_data (x : Int) : (pkB x).data.toList = pkL x := rfl
theorem ofNat_small (n : Nat) (h : n < 256) : (UInt8.ofNat n).toNat = n := by
  rw [UInt8.toNat_ofNat']
  omega
theorem pkL_num (x : Int) (h0 : 0 ≤ x) (h1 : x < 4294967296) : (bnum (pkL x) : Int) = x := by
  show (((UInt8.ofNat (x / 16777216).toNat).toNat * 256 ^ 3 + ((UInt8.ofNat (x / 65536 % 256).toNat).toNat * 256 ^ 2 + ((UInt8.ofNat (x / 256 % 256).toNat).toNat * 256 ^ 1 + ((UInt8.ofNat (x % 256).toNat).toNat * 256 ^ 0 + 0))) : Nat) : Int) = x
  rw [ofNat_small _ (by omega), ofNat_small _ (by omega), ofNat_small _ (by omega), ofNat_small _ (by omega)]
  omega
def spLl (x : Nat → Int) : Nat → List UInt8
  | 0 => []
  | i + 1 => spLl x i ++ pkL (x i)
theorem spL_data (x : Nat → Int) : ∀ i, (spL x i).data.toList = spLl x i
  | 0 => rfl
  | i + 1 => by
    show (spL x i ++ pkB (x i)).data.toList = _
    rw [ByteArray.data_append, Array.toList_append, spL_data x i]
    rfl
theorem spH_data (x : Nat → Int) (i : Nat) : (spH x (i + 1)).data.toList = spLl x i ++ pkL (x i + 1) := by
  show (spL x i ++ pkB (x i + 1)).data.toList = _
  rw [ByteArray.data_append, Array.toList_append, spL_data x i]
  rfl
theorem spLl_len (x : Nat → Int) : ∀ i, (spLl x i).length = 4 * i
  | 0 => rfl
  | i + 1 => by
    show (spLl x i ++ pkL (x i)).length = _
    rw [List.length_append, spLl_len x i]
    show 4 * i + 4 = _
    omega
theorem part_list (k : ByteArray) (i : Nat) (h : 4 * i + 4 ≤ k.size) : ∃ q : List UInt8, q.length = 4 ∧ (k.data.toList.drop (4 * i)).take 4 = q ∧ (bnum q : Int) = pk k i := by
  obtain ⟨b0, e0, n0⟩ := kb_get (k := k) (i := 4 * i + 0) (by omega)
  obtain ⟨b1, e1, n1⟩ := kb_get (k := k) (i := 4 * i + 1) (by omega)
  obtain ⟨b2, e2, n2⟩ := kb_get (k := k) (i := 4 * i + 2) (by omega)
  obtain ⟨b3, e3, n3⟩ := kb_get (k := k) (i := 4 * i + 3) (by omega)
  have g : ∀ (n : Nat) (b : UInt8), k[4 * i + n]? = some b → k.data.toList[4 * i + n]? = some b := fun n b e => by
    rw [Array.getElem?_toList, ← e]
    first | rfl | simp
  have g0 := g 0 b0 e0
  have g1 := g 1 b1 e1
  have g2 := g 2 b2 e2
  have g3 := g 3 b3 e3
  refine ⟨[b0, b1, b2, b3], rfl, ?_, ?_⟩
  · apply List.ext_getElem?
    intro n
    rw [List.getElem?_take, List.getElem?_drop]
    by_cases h4 : n < 4
    · rw [if_pos h4]
      rcases (show n = 0 ∨ n = 1 ∨ n = 2 ∨ n = 3 by omega) with rfl | rfl | rfl | rfl
      · exact g0
      · exact g1
      · exact g2
      · exact g3
    · rw [if_neg h4, List.getElem?_eq_none (by simp; omega)]
  · show ((b0.toNat * 256 ^ 3 + (b1.toNat * 256 ^ 2 + (b2.toNat * 256 ^ 1 + (b3.toNat * 256 ^ 0 + 0))) : Nat) : Int) = 256 * (256 * (256 * (256 * 0 + kb k (4 * i + 0)) + kb k (4 * i + 1)) + kb k (4 * i + 2)) + kb k (4 * i + 3)
    rw [n0, n1, n2, n3]
    omega
theorem take_parts (k : ByteArray) (x : Nat → Int) : ∀ m, 4 * m ≤ k.size → (∀ i, i < m → 0 ≤ x i ∧ x i < 4294967296) → (k.data.toList.take (4 * m) = spLl x m ↔ ∀ i, i < m → pk k i = x i)
  | 0, _, _ => by simp [spLl]
  | m + 1, h, hx => by
    have ih := take_parts k x m (by omega) (fun i hi => hx i (by omega))
    obtain ⟨q, q1, q2, q3⟩ := part_list k m (by omega)
    have hxm := hx m (by omega)
    have hl : (k.data.toList.take (4 * m)).length = (spLl x m).length := by
      rw [List.length_take, spLl_len, Array.length_toList]
      have : k.data.size = k.size := rfl
      omega
    have hp : q = pkL (x m) ↔ pk k m = x m := by
      rw [← q3]
      constructor
      · intro e
        rw [e]
        exact pkL_num _ hxm.1 hxm.2
      · intro e
        refine bnum_inj _ _ q1 ?_
        have := pkL_num _ hxm.1 hxm.2
        omega
    rw [show 4 * (m + 1) = 4 * m + 4 by omega, List.take_add, q2]
    show _ ++ q = spLl x m ++ pkL (x m) ↔ _
    constructor
    · intro e
      obtain ⟨a1, a2⟩ := List.append_inj e hl
      intro i hi
      by_cases h' : i = m
      · rw [h']
        exact hp.1 a2
      · exact ih.1 a1 i (by omega)
    · intro e
      rw [ih.2 (fun i hi => e i (by omega)), hp.2 (e m (by omega))]
end Go.Proofs.YtcnollkkigiobaaGreat

namespace Go.Proofs.YtcnollkkigiobaaGreat
open Go.RowKit Go.Deep
set_option linter.unusedVariables false
set_option maxRecDepth 100000

theorem ord_pos (j : Nat) (hj : j < 6) (s : Nat) (hs : s < 4) : ordF j (posF j s) = s ∧ posF j s < 4 := by
  rcases (show j = 0 ∨ j = 1 ∨ j = 2 ∨ j = 3 ∨ j = 4 ∨ j = 5 by omega) with rfl | rfl | rfl | rfl | rfl | rfl <;> rcases (show s = 0 ∨ s = 1 ∨ s = 2 ∨ s = 3 by omega) with rfl | rfl | rfl | rfl <;> decide
theorem fit1_iff (a b : Int) : fit1 a b = true ↔ (a = 0 ∨ a = b) := by simp [fit1]
theorem fit_all (j : Nat) (hj : j < 6) (p : Qd) (k : ByteArray) : fitB (quadOf j k) p = true ↔ ∀ i, i < 4 → (ptO j p i = 0 ∨ ptO j p i = pk k i) := by
  have e : ∀ s, s < 4 → ptO j p (posF j s) = partOf p.s p.p p.o p.g s := fun s hs => by unfold ptO; rw [(ord_pos j hj s hs).1]
  have e0 : ptO j p (posF j 0) = p.s := e 0 (by omega)
  have e1 : ptO j p (posF j 1) = p.p := e 1 (by omega)
  have e2 : ptO j p (posF j 2) = p.o := e 2 (by omega)
  have e3 : ptO j p (posF j 3) = p.g := e 3 (by omega)
  have h : fitB (quadOf j k) p = true ↔ (((fit1 p.s (pk k (posF j 0)) = true ∧ fit1 p.p (pk k (posF j 1)) = true) ∧ fit1 p.o (pk k (posF j 2)) = true) ∧ fit1 p.g (pk k (posF j 3)) = true) := by
    unfold fitB quadOf
    simp only [Bool.and_eq_true]
  rw [h]
  simp only [fit1_iff]
  rw [← e0, ← e1, ← e2, ← e3]
  constructor
  · rintro ⟨⟨⟨h0, h1⟩, h2⟩, h3⟩ i hi
    obtain ⟨s, hs, es⟩ := posF_onto j hj i hi
    rw [← es]
    rcases (show s = 0 ∨ s = 1 ∨ s = 2 ∨ s = 3 by omega) with rfl | rfl | rfl | rfl
    · exact h0
    · exact h1
    · exact h2
    · exact h3
  · intro h
    exact ⟨⟨⟨h _ (ord_pos j hj 0 (by omega)).2, h _ (ord_pos j hj 1 (by omega)).2⟩, h _ (ord_pos j hj 2 (by omega)).2⟩, h _ (ord_pos j hj 3 (by omega)).2⟩
theorem fit_lead {j : Nat} (hj : j < 6) {p : Qd} {m : Nat} (hm : Lead (ptO j p) m) (hok : okTo (ptO j p) 4) (k : ByteArray) : fitB (quadOf j k) p = true ↔ ∀ i, i < m → pk k i = ptO j p i := by
  rw [fit_all j hj p k]
  obtain ⟨h4, hn, hz⟩ := hm
  constructor
  · intro h i hi
    rcases h i (by omega) with q | q
    · exact absurd q (hn i hi)
    · exact q.symm
  · intro h i hi
    rcases Nat.lt_trichotomy i m with q | q | q
    · exact .inr (h i q).symm
    · exact .inl (by rw [q]; exact hz (by omega))
    · exact .inl ((hok i hi).2 m q (hz (by omega)))
theorem lead_ex (x : Nat → Int) : ∃ m, Lead x m := by
  by_cases h0 : x 0 = 0
  · exact ⟨0, by omega, fun i hi => absurd hi (Nat.not_lt_zero _), fun _ => h0⟩
  by_cases h1 : x 1 = 0
  · exact ⟨1, by omega, fun i hi => by rw [show i = 0 by omega]; exact h0, fun _ => h1⟩
  by_cases h2 : x 2 = 0
  · exact ⟨2, by omega, fun i hi => by rcases (show i = 0 ∨ i = 1 by omega) with rfl | rfl <;> assumption, fun _ => h2⟩
  by_cases h3 : x 3 = 0
  · exact ⟨3, by omega, fun i hi => by rcases (show i = 0 ∨ i = 1 ∨ i = 2 by omega) with rfl | rfl | rfl <;> assumption, fun _ => h3⟩
  · exact ⟨4, by omega, fun i hi => by rcases (show i = 0 ∨ i = 1 ∨ i = 2 ∨ i = 3 by omega) with rfl | rfl | rfl | rfl <;> assumption, fun h => absurd h (by omega)⟩
theorem sp_next (x : Nat → Int) (m : Nat) (h0 : 0 ≤ x m) (h1 : x m ≤ 2000000000) : bnum (spH x (m + 1)).toList = bnum (spL x (m + 1)).toList + 1 ∧ (spL x (m + 1)).toList.length = (spH x (m + 1)).toList.length := by
  rw [ByteArray.toList_eq, ByteArray.toList_eq, spH_data, spL_data]
  show bnum (spLl x m ++ pkL (x m + 1)) = bnum (spLl x m ++ pkL (x m)) + 1 ∧ (spLl x m ++ pkL (x m)).length = _
  rw [bnum_app, bnum_app]
  have a := pkL_num (x m) h0 (by omega)
  have b := pkL_num (x m + 1) (by omega) (by omega)
  refine ⟨?_, by simp [pkL]⟩
  show bnum (spLl x m) * 256 ^ 4 + bnum (pkL (x m + 1)) = bnum (spLl x m) * 256 ^ 4 + bnum (pkL (x m)) + 1
  omega
/-- The keys between the bounds are those that fit. -/
theorem span_fit {j : Nat} (hj : j < 6) {p : Qd} {m : Nat} (hm : Lead (ptO j p) (m + 1)) (hok : okTo (ptO j p) 4) {k : ByteArray} (hk : k.size = 16) :
    (Op.bytesLess k.toList (spL (ptO j p) (m + 1)).toList = false ∧ Op.bytesLess k.toList (spH (ptO j p) (m + 1)).toList = true) ↔ fitB (quadOf j k) p = true := by
  have h4 := hm.1
  have hr := (hok m (by omega)).1
  obtain ⟨n1, n2⟩ := sp_next (ptO j p) m hr.1 hr.2
  have hkl : k.toList.length = 16 := by rw [ByteArray.toList_eq, Array.length_toList]; exact hk
  have hll : (spL (ptO j p) (m + 1)).toList.length = 4 * (m + 1) := by rw [ByteArray.toList_eq, spL_data, spLl_len]
  rw [between (by omega) n2 n1, fit_lead hj hm hok, hll, ByteArray.toList_eq, ByteArray.toList_eq, spL_data]
  exact take_parts k _ (m + 1) (by omega) (fun i hi => by have := (hok i (by omega)).1; omega)
theorem cnt_split {lo hi : ByteArray} (hlh : Op.bytesLess lo.toList hi.toList = true) (P : ByteArray → Bool) : ∀ K : List ByteArray, (∀ k, k ∈ K → ((Op.bytesLess k.toList lo.toList = false ∧ Op.bytesLess k.toList hi.toList = true) ↔ P k = true)) → cntL hi K = cntL lo K + (K.filter P).length
  | [], _ => rfl
  | k :: K, h => by
    have ih := cnt_split hlh P K (fun x hx => h x (List.mem_cons_of_mem _ hx))
    have hk := h k (List.mem_cons_self ..)
    unfold cntL at ih ⊢
    rw [List.filter_cons, List.filter_cons, List.filter_cons]
    cases h1 : Op.bytesLess k.toList lo.toList with
    | true =>
      have h2 : Op.bytesLess k.toList hi.toList = true := less_of_lt_le h1 (less_asym hlh)
      have h3 : P k = false := by
        cases hp : P k with
        | false => rfl
        | true =>
          have := (hk.2 hp).1
          rw [h1] at this
          cases this
      simp only [h2, h3, if_true, List.length_cons]
      simp
      omega
    | false =>
      cases h2 : Op.bytesLess k.toList hi.toList with
      | true =>
        have h3 : P k = true := hk.1 ⟨h1, h2⟩
        simp [h3]
        omega
      | false =>
        have h3 : P k = false := by
          cases hp : P k with
          | false => rfl
          | true =>
            have := (hk.2 hp).2
            rw [h2] at this
            cases this
        simp [h3]
        omega
theorem count_span {j : Nat} (hj : j < 6) {p : Qd} {m : Nat} (hm : Lead (ptO j p) (m + 1)) (hok : okTo (ptO j p) 4) {K : List ByteArray} (hK : ∀ k, k ∈ K → k.size = 16) : cntL (spH (ptO j p) (m + 1)) K = cntL (spL (ptO j p) (m + 1)) K + ((K.map (quadOf j)).filter (fun q => fitB q p)).length := by
  have hr := (hok m (by have := hm.1; omega)).1
  obtain ⟨n1, n2⟩ := sp_next (ptO j p) m hr.1 hr.2
  rw [cnt_split ((less_num _ _ n2).2 (by omega)) (fun k => fitB (quadOf j k) p) K (fun k hk => span_fit hj hm hok (hK k hk)), List.filter_map, List.length_map]
  rfl
theorem count_none {j : Nat} (hj : j < 6) {p : Qd} (hm : Lead (ptO j p) 0) (hok : okTo (ptO j p) 4) (K : List ByteArray) : ((K.map (quadOf j)).filter (fun q => fitB q p)).length = K.length := by
  rw [List.filter_eq_self.2, List.length_map]
  intro q hq
  obtain ⟨k, _, rfl⟩ := List.mem_map.1 hq
  exact (fit_lead hj hm hok k).2 (fun i hi => absurd hi (Nat.not_lt_zero _))
end Go.Proofs.YtcnollkkigiobaaGreat
