import Derived.WalkKit
import Derived.Deep.OwnRows
import Derived.Deep.Draws
import Derived.Test.YtlcamfkgkcjehaaRows
import Derived.Defers
import Derived.Recover
import Derived.WalkLawsBesides
import Derived.Deep.RegionHeld3
namespace Go.Proofs.Ytlcamfkgkcjehaa
open Go.RowKit Go.Deep

/-- A slice value of integers that can be read: its elements are f 0, f 1, .. -/
def Rd (k : IntKind) (w : World) (a : Option Addr) (len : Nat) (f : Nat → Int) : Prop :=
  len = 0 ∨ ∃ b o, a = some ⟨b, o, none⟩ ∧ ∀ i, i < len → w.cell? ⟨b, o + i, none⟩ = some (.int k (f i))

theorem Rd.ofRow {k : IntKind} {w : World} {b : Nat} {t : TypeId} {n : Nat} {f : Nat → Int} (h : w.rowIs b t n (fun i => .int k (f i))) : Rd k w (some ⟨b, 0, none⟩) n f :=
  Or.inr ⟨b, 0, rfl, fun i hi => by rw [Nat.zero_add]; exact h.cell hi⟩

theorem Rd.below {k : IntKind} {w w' : World} {a : Option Addr} {len : Nat} {f : Nat → Int} (h : Rd k w a len f) (hb : Below w.heap.size w w') : Rd k w' a len f := by
  rcases h with h | ⟨b, o, rfl, hc⟩
  · exact Or.inl h
  · refine Or.inr ⟨b, o, rfl, fun i hi => ?_⟩
    have hlt := World.block_lt_of_cell? _ _ (hc i hi)
    rw [hb.cell (p := ⟨b, o + i, none⟩) hlt]
    exact hc i hi

theorem Rd.congr {k : IntKind} {w : World} {a : Option Addr} {len : Nat} {f g : Nat → Int} (h : Rd k w a len f) (e : ∀ i, i < len → f i = g i) : Rd k w a len g := by
  rcases h with h | ⟨b, o, rfl, hc⟩
  · exact Or.inl h
  · exact Or.inr ⟨b, o, rfl, fun i hi => by rw [hc i hi, e i hi]⟩

theorem below_drewN {B : Nat} {a w : World} (h : Below B a w) (n : Nat) : Below B a (w.drewN n) := ⟨h.os, h.tape, h.output, h.size, h.block⟩
theorem bcell {W w1 : World} (hb : Below W.heap.size W w1) : (∀ b o, b < W.heap.size → w1.cell? ⟨b, o, none⟩ = W.cell? ⟨b, o, none⟩) ∧ (∀ b o, b < W.heap.size → w1.frozen? ⟨b, o, none⟩ = W.frozen? ⟨b, o, none⟩) :=
  ⟨fun b o h => hb.cell (p := ⟨b, o, none⟩) h, fun b o h => hb.frozen (p := ⟨b, o, none⟩) h⟩
theorem below_alloc (w : World) (o : Obj) : Below w.heap.size w (w.alloc o) := (Below.refl _ _).alloc (Nat.le_refl _) o
end Go.Proofs.Ytlcamfkgkcjehaa

namespace Go.Proofs.Ytlcamfkgkcjehaa
open Go.RowKit Go.Deep

/-- Block g is a row of cells of type t, none frozen, whose first n cells hold F 0, F 1, .. -/
def rowIn (w : World) (g : Nat) (t : TypeId) (n : Nat) (F : Nat → Value) : Prop :=
  ∃ cur : Array Value, w.heap[g]? = some (.cells cur t (0, 0)) ∧ n ≤ cur.size ∧ ∀ i, i < n → cur[i]? = some (F i)

namespace rowIn
variable {w : World} {g : Nat} {t : TypeId} {n : Nat} {F G : Nat → Value}

theorem cell (h : rowIn w g t n F) {i : Nat} (hi : i < n) : w.cell? ⟨g, i, none⟩ = some (F i) := by
  obtain ⟨c, hb, _, hc⟩ := h
  simp [World.cell?, hb, hc i hi]

theorem frozen (h : rowIn w g t n F) (i : Nat) : w.frozen? ⟨g, i, none⟩ = false := by
  obtain ⟨c, hb, _, _⟩ := h
  simp [World.frozen?, hb]

theorem lt (h : rowIn w g t n F) : g < w.heap.size := by
  obtain ⟨c, hb, _, _⟩ := h
  obtain ⟨hlt, _⟩ := Array.getElem?_eq_some_iff.1 hb
  exact hlt

theorem congr (h : rowIn w g t n F) (e : ∀ i, i < n → F i = G i) : rowIn w g t n G := by
  obtain ⟨c, hb, hn, hc⟩ := h
  exact ⟨c, hb, hn, fun i hi => by rw [hc i hi, e i hi]⟩

theorem of_block {w' : World} (h : rowIn w g t n F) (e : w'.heap[g]? = w.heap[g]?) : rowIn w' g t n F := by
  obtain ⟨c, hb, hn, hc⟩ := h
  exact ⟨c, e.trans hb, hn, hc⟩

theorem set (h : rowIn w g t n F) (i : Nat) (v : Value) : rowIn (w.setCell ⟨g, i, none⟩ v) g t n (fun j => if j = i then v else F j) := by
  obtain ⟨c, hb, hn, hc⟩ := h
  refine ⟨c.setIfInBounds i v, ?_, by simpa using hn, fun j hj => ?_⟩
  · simp [World.setCell, Array.getElem?_modify, hb]
  · rw [Array.getElem?_setIfInBounds]
    by_cases e : j = i
    · subst e
      have : j < c.size := by omega
      simp [this]
    · rw [if_neg (fun h => e h.symm)]
      show c[j]? = some (if j = i then v else F j)
      rw [if_neg e]
      exact hc j hj

theorem setOther (h : rowIn w g t n F) {p : Addr} (hp : g ≠ p.block) (v : Value) : rowIn (w.setCell p v) g t n F := h.of_block (Below.heap_setCell _ _ _ _ hp)

theorem ne {g' : Nat} {t' : TypeId} {n' : Nat} (h : rowIn w g t n F) (h' : rowIn w g' t' n' G) (ht : t ≠ t') : g ≠ g' := by
  rintro rfl
  obtain ⟨c, hb, _, _⟩ := h
  obtain ⟨c', hb', _, _⟩ := h'
  rw [hb] at hb'
  injection hb' with e
  injection e with _ e2 _
  exact ht e2
end rowIn

/-- The world w' is w but for the block that 'a' leads to. -/
structure OnlyAt (a : Option Addr) (w w' : World) : Prop where
  os : w'.os = w.os
  tape : w'.tape = w.tape
  output : w'.output = w.output
  size : w'.heap.size = w.heap.size
  block : ∀ k, (∀ x, a = some x → x.block ≠ k) → w'.heap[k]? = w.heap[k]?

theorem OnlyAt.refl (a : Option Addr) (w : World) : OnlyAt a w w := ⟨rfl, rfl, rfl, rfl, fun _ _ => rfl⟩
theorem OnlyAt.below {B : Nat} {a : Option Addr} {w w' : World} (h : OnlyAt a w w') (hB : ∀ x, a = some x → B ≤ x.block) : Below B w w' :=
  ⟨h.os, h.tape, h.output, by rw [h.size]; exact Nat.le_refl _, fun k hk => h.block k (fun x e => by have := hB x e; omega)⟩
theorem OnlyAt.setCell {g : Nat} {w w' : World} (h : OnlyAt (some ⟨g, 0, none⟩) w w') (i : Nat) (v : Value) : OnlyAt (some ⟨g, 0, none⟩) w (w'.setCell ⟨g, i, none⟩ v) :=
  ⟨h.os, h.tape, h.output, by rw [← h.size]; simp [World.setCell], fun k hk => by
    rw [← h.block k hk]
    exact Below.heap_setCell _ _ _ _ (fun e => hk _ rfl e.symm)⟩

/-- A slice of bytes in the call's own memory (blocks from B on). -/
def OwnB (w : World) (B : Nat) (a : Option Addr) (n : Nat) (f : Nat → Int) : Prop :=
  n = 0 ∨ ∃ g, a = some ⟨g, 0, none⟩ ∧ B ≤ g ∧ rowIn w g 5 n (fun i => .int .u8 (f i))

theorem OwnB.rd {w : World} {B : Nat} {a : Option Addr} {n : Nat} {f : Nat → Int} (h : OwnB w B a n f) : Rd .u8 w a n f := by
  rcases h with h | ⟨g, rfl, _, hr⟩
  · exact Or.inl h
  · exact Or.inr ⟨g, 0, rfl, fun i hi => by rw [Nat.zero_add]; exact hr.cell hi⟩

theorem OwnB.mono {w : World} {B B' : Nat} {a : Option Addr} {n : Nat} {f : Nat → Int} (h : OwnB w B a n f) (hB : B' ≤ B) : OwnB w B' a n f := by
  rcases h with h | ⟨g, rfl, hg, hr⟩
  · exact Or.inl h
  · exact Or.inr ⟨g, rfl, by omega, hr⟩

theorem OwnB.congr {w : World} {B : Nat} {a : Option Addr} {n : Nat} {f f' : Nat → Int} (h : OwnB w B a n f) (e : ∀ i, i < n → f i = f' i) : OwnB w B a n f' := by
  rcases h with h | ⟨g, rfl, hg, hr⟩
  · exact Or.inl h
  · exact Or.inr ⟨g, rfl, hg, hr.congr (fun i hi => by rw [e i hi])⟩

theorem OwnB.below {w w' : World} {B : Nat} {a : Option Addr} {n : Nat} {f : Nat → Int} (h : OwnB w B a n f) (hb : Below w.heap.size w w') : OwnB w' B a n f := by
  rcases h with h | ⟨g, rfl, hg, hr⟩
  · exact Or.inl h
  · exact Or.inr ⟨g, rfl, hg, hr.of_block (hb.block g hr.lt)⟩

theorem OwnB.only {w w' : World} {B : Nat} {a a' : Option Addr} {n : Nat} {f : Nat → Int} (h : OwnB w B a n f) (ho : OnlyAt a' w w') (hne : n ≠ 0 → ∀ x y, a = some x → a' = some y → y.block ≠ x.block) : OwnB w' B a n f := by
  rcases h with h | ⟨g, rfl, hg, hr⟩
  · exact Or.inl h
  · by_cases hn : n = 0
    · exact Or.inl hn
    · exact Or.inr ⟨g, rfl, hg, hr.of_block (ho.block g (fun y e => hne hn ⟨g, 0, none⟩ y rfl e))⟩
end Go.Proofs.Ytlcamfkgkcjehaa

namespace Go.Proofs.Ytlcamfkgkcjehaa
open Go.RowKit Go.Deep

theorem Try.info5 : (Try.prog.info? 5).map (fun i => (i.zero, i.size, i.bytes)) = some (some (.int .u8 0), 1, 1) := by kernel_rfl

end Go.Proofs.Ytlcamfkgkcjehaa

namespace Go.Proofs.Ytlcamfkgkcjehaa
open Go.RowKit Go.Deep
set_option linter.unusedVariables false
set_option maxRecDepth 100000

set_option maxHeartbeats 400000 in
theorem catch_idle (w : World) :
    CallsD Try.prog 69 #[] .returning w fun e u' w' => e = .returned (.tuple #[]) ∧ u' = .returning ∧ w' = w := by
  refine callsD_of_wpS Try.func69 rfl fun c₀ cs hu => ?_
  apply wpS_seq
  apply wpS_region
  simp [wpOpsS, go_sem, recoverD, hu, Try.ntmps69, Exit.thenS]
  refine wpS_of_wp ?_
  have e : ((Array.replicate 14 undef).setIfInBounds 3 Value.nilIface).setIfInBounds 0 Value.nilIface = #[Value.nilIface, undef, undef, Value.nilIface, undef, undef, undef, undef, undef, undef, undef, undef, undef, undef] := rfl
  rw [e]
  clear e
  go_wp2
  cases c₀
  simp_all [bodyPostS, results, Try.results69]

set_option maxHeartbeats 400000 in
theorem catch_power (older : List PanicEntry) (w : World) :
    CallsD Try.prog 69 #[] (.panicking ({ v := .iface 88 (.agg #[]), recovered := false } :: older)) w fun e u' w' =>
      e = .returned (.tuple #[]) ∧ u' = .panicking ({ v := .iface 88 (.agg #[]), recovered := true } :: older) ∧ Below w.heap.size w w' := by
  have hta : ∀ w : World, (Instr.typeAssert (Value.iface 88 (.agg #[])) 20 88 true).run Try.prog w = .ok (.tuple #[.agg #[], .bool true]) w := fun w => by kernel_rfl
  refine callsD_of_wpS Try.func69 rfl fun c₀ cs hu => ?_
  apply wpS_seq
  apply wpS_region
  simp [wpOpsS, go_sem, recoverD, hu, Try.ntmps69, Exit.thenS]
  refine wpS_of_wp ?_
  have e : ((Array.replicate 14 undef).setIfInBounds 3 (Value.iface 88 (.agg #[]))).setIfInBounds 0 (Value.iface 88 (.agg #[])) = #[(Value.iface 88 (.agg #[])), undef, undef, (Value.iface 88 (.agg #[])), undef, undef, undef, undef, undef, undef, undef, undef, undef, undef] := rfl
  rw [e]
  clear e
  go_wp2
  simp [bodyPostS, results, Try.results69]
  exact below_alloc _ _

/-- How the steps end: they are done, or the power has gone. -/
def Stepped (e : Ending) : Prop := e = .returned (.tuple #[]) ∨ e = .panicked [{ v := .iface 88 (.agg #[]), recovered := false }]
end Go.Proofs.Ytlcamfkgkcjehaa

namespace Go.Proofs.Ytlcamfkgkcjehaa
open Go

/-! A drawn region whose last operation writes a cell that the region reads: what holds of the world is asked behind every operation but that one. -/
section
variable {P : Program} {ops : Array Oper} {Q : Exit → Act → World → Prop} {md : Region.Mode} {S : World → Prop} {late : Nat}

def wpLate (P : Program) (md : Region.Mode) (ops : Array Oper) (Q : Exit → Act → World → Prop) (S : World → Prop) (late : Nat) : Nat → Array Bool → Act → World → Prop
  | 0, listed, a, w => Region.ready md ops listed = [] ∧ Q .normal a w
  | fuel + 1, listed, a, w => (Region.ready md ops listed = [] → Q .normal a w) ∧
    ∀ i ∈ Region.ready md ops listed, wpOp P ops Q i (fun a' w' => (i ≠ late → S w') ∧ wpLate P md ops Q S late fuel (listed.setIfInBounds i true) a' w') a w

theorem wpAny_of_late : ∀ (fuel : Nat) (listed : Array Bool) (a : Act) (w : World), wpLate P md ops Q S late fuel listed a w → wpAny P md ops Q fuel listed a w
  | 0, _, _, _, h => h
  | fuel + 1, _, _, _, h => ⟨h.1, fun i hi => wpOp_mono (fun a' w' h' => wpAny_of_late fuel _ a' w' h'.2) (h.2 i hi)⟩

/-- Operations that wait for one another down to number i, none of which has come up: as long as i hasn't, none of them can. -/
def Waits (md : Region.Mode) (ops : Array Oper) (i : Nat) (ch : List Nat) : Prop :=
  ∀ c ∈ ch, c = i ∨ ∃ o, ops[c]? = some o ∧ ∃ e ∈ o.after, Region.binds md e = true ∧ e.on ∈ ch

theorem Waits.not_ready {i : Nat} {ch : List Nat} (h : Waits md ops i ch) {listed : Array Bool} (hl : ∀ c ∈ ch, listed.getD c true = false) {j : Nat} (hj : j ∈ Region.ready md ops listed) (hji : j ≠ i) : j ∉ ch := fun hm => by
  rcases h j hm with h | ⟨o, ho, e, he, hb, hc⟩
  · exact hji h
  · obtain ⟨_, oj, hoj, hall⟩ := mem_ready.1 hj
    rw [ho] at hoj
    injection hoj with hoj
    subst hoj
    have h1 := hall e he hb
    have h2 := hl _ hc
    rcases Nat.lt_or_ge e.on listed.size with h' | h'
    · simp [h'] at h1 h2
      rw [h2] at h1
      cases h1
    · simp [Array.getElem?_eq_none h'] at h1

theorem wpLate_first {i : Nat} {oi : Oper} {v : Value} {ch : List Nat} (hi : ops[i]? = some oi) (hsel : ∀ (j : Nat) (o : Oper) cs b, ops[j]? = some o → o.op ≠ .select cs b)
    (hQ : ∀ c a w, Q (.panic c) (a.put oi.dst v) w → Q (.panic c) a w) (hw : Waits md ops i ch) (hlate : late ∈ ch) (hil : i ≠ late) :
    ∀ (fuel : Nat) (listed : Array Bool) (a : Act) (w : World),
      (∀ j oj, ops[j]? = some oj → j ≠ i → listed.getD j true = false → (∀ e ∈ oj.after, Region.binds md e = true → e.on ≠ i) → oi.apart ops oj = true) →
      (∀ c ∈ ch, listed.getD c true = false) →
      i ∈ Region.ready md ops listed → YieldsIf P ops S oi v a → S w →
      wpLate P md ops Q S late fuel (listed.setIfInBounds i true) (a.put oi.dst v) w → wpLate P md ops Q S late (fuel + 1) listed a w := by
  intro fuel
  induction fuel with
  | zero =>
    intro listed a w _ _ hr hy hS H
    refine ⟨fun h => (by rw [h] at hr; cases hr), fun j hj => ?_⟩
    by_cases hji : j = i
    · subst hji; exact hy.wpOp hi hS ⟨fun _ => hS, H⟩
    · have := ready_mono hj hji
      rw [H.1] at this
      cases this
  | succ fuel ih =>
    intro listed a w hfree hch hr hy hS H
    refine ⟨fun h => (by rw [h] at hr; cases hr), fun j hj => ?_⟩
    by_cases hji : j = i
    · subst hji; exact hy.wpOp hi hS ⟨fun _ => hS, H⟩
    · have hjc := hw.not_ready hch hj hji
      have hjl : j ≠ late := fun e => hjc (e ▸ hlate)
      have h1 := H.2 j (ready_mono hj hji)
      obtain ⟨hjun, oj, hoj, hall⟩ := mem_ready.1 hj
      have hnot : ∀ e ∈ oj.after, Region.binds md e = true → e.on ≠ i := fun e he hb heq => by
        have h1 := hall e he hb
        have h0 := (mem_ready.1 hr).1
        rw [heq] at h1
        rcases Nat.lt_or_ge i listed.size with h' | h'
        · simp [h'] at h0 h1; rw [h0] at h1; cases h1
        · simp [Array.getElem?_eq_none h'] at h1
      have h2 := wpOp_putIf hoj (hfree j oj hoj hji hjun hnot) (fun cs b => hsel i oi cs b hi) (fun cs b => hsel j oj cs b hoj) hQ hy h1
      have hfree' : ∀ k ok, ops[k]? = some ok → k ≠ i → (listed.setIfInBounds j true).getD k true = false →
          (∀ e ∈ ok.after, Region.binds md e = true → e.on ≠ i) → oi.apart ops ok = true := fun k ok hk hki hun hno => by
        refine hfree k ok hk hki ?_ hno
        by_cases hjk : j = k
        · subst hjk; exact hjun
        · rw [getD_set_ne true hjk] at hun; exact hun
      have hch' : ∀ c ∈ ch, (listed.setIfInBounds j true).getD c true = false := fun c hc => by
        have hjk : j ≠ c := fun e => hjc (e ▸ hc)
        rw [getD_set_ne true hjk]
        exact hch c hc
      refine wpOp_mono (fun a' w' h3 => ⟨fun _ => h3.2.1 hjl, ih (listed.setIfInBounds j true) a' w' hfree' hch' (ready_mono hr (Ne.symm hji)) h3.1 (h3.2.1 hjl) ?_⟩) h2
      rw [Array.setIfInBounds_comm _ _ hji]
      exact h3.2.2

/-- The operations that wait for number i, down the line. -/
def behind (ops : Array Oper) (i : Nat) : Nat → List Nat
  | 0 => [i]
  | n + 1 => let l := behind ops i n
    l ++ (List.range ops.size).filter fun j => !l.contains j && (match ops[j]? with | some o => o.after.any fun e => Region.binds .any e && l.contains e.on | none => false)
def waitsB (ops : Array Oper) (listed : Array Bool) (i late : Nat) (ch : List Nat) : Bool :=
  ch.contains late && i != late && ch.all fun c => !(listed.getD c true) && (c == i || (match ops[c]? with | some o => o.after.any fun e => Region.binds .any e && ch.contains e.on | none => false))

theorem waitsB_spec {listed : Array Bool} {i : Nat} {ch : List Nat} (h : waitsB ops listed i late ch = true) : late ∈ ch ∧ i ≠ late ∧ Waits .any ops i ch ∧ ∀ c ∈ ch, listed.getD c true = false := by
  unfold waitsB at h
  simp only [Bool.and_eq_true, List.all_eq_true, Bool.not_eq_true', Bool.or_eq_true, bne_iff_ne, ne_eq, List.contains_iff_mem, beq_iff_eq] at h
  obtain ⟨⟨h1, h2⟩, h3⟩ := h
  refine ⟨h1, h2, fun c hc => ?_, fun c hc => (h3 c hc).1⟩
  rcases (h3 c hc).2 with h | h
  · exact Or.inl h
  · cases ho : ops[c]? with
    | none => rw [ho] at h; cases h
    | some o =>
      rw [ho] at h
      simp only [Array.any_eq_true', Bool.and_eq_true, List.contains_iff_mem] at h
      obtain ⟨e, he, hb, hm⟩ := h
      exact Or.inr ⟨o, rfl, e, he, hb, hm⟩

theorem wpLate_take {i : Nat} {oi : Oper} {v : Value} {fuel : Nat} {listed : Array Bool} {a : Act} {w : World} (n : Nat) (hi : ops[i]? = some oi)
    (hs : Region.noSelect ops = true) (hf : Region.free .any ops listed i = true) (hr : (Region.ready .any ops listed).contains i = true) (hwt : waitsB ops listed i late (behind ops i n) = true)
    (hQ : ∀ c a w, Q (.panic c) (a.put oi.dst v) w → Q (.panic c) a w) (hy : YieldsIf P ops S oi v a) (hS : S w)
    (h : wpLate P .any ops Q S late fuel (listed.setIfInBounds i true) (a.put oi.dst v) w) : wpLate P .any ops Q S late (fuel + 1) listed a w := by
  obtain ⟨h1, h2, h3, h4⟩ := waitsB_spec hwt
  exact wpLate_first hi (Region.noSelect_spec hs) hQ h3 h1 h2 fuel listed a w (Region.free_spec hi hf) h4 (by simpa using hr) hy hS h

/-- One alone can come up. -/
theorem wpLate_one {i : Nat} {o : Oper} {fuel : Nat} {listed : Array Bool} {a : Act} {w : World} (hr : Region.ready md ops listed = [i]) (ho : ops[i]? = some o)
    (h : ∀ K' : Act → World → Prop, Shut (∀ a w, (i ≠ late → S w) → ((i ≠ late → S w) → wpLate P md ops Q S late fuel (listed.setIfInBounds i true) a w) → K' a w) → if Region.wanted o (yielded ops a.tmps) = true then Oper.wp P o a w K' Q else K' (a.put o.dst undef) w) :
    wpLate P md ops Q S late (fuel + 1) listed a w :=
  ⟨fun h0 => (by rw [hr] at h0; cases h0), fun j hj => by
    rw [hr] at hj
    have : j = i := by simpa using hj
    subst this
    exact wpOp_step ho (fun K' hK => h K' (fun a w hS hW => hK a w ⟨hS, hW hS⟩))⟩

theorem wpLate_done {listed : Array Bool} {a : Act} {w : World} (hr : Region.ready md ops listed = []) (h : Q .normal a w) : ∀ fuel, wpLate P md ops Q S late fuel listed a w
  | 0 => ⟨hr, h⟩
  | _ + 1 => ⟨fun _ => h, by rw [hr]; simp⟩

theorem wp_region_late {id : Nat} {a : Act} {w : World} (late : Nat) (hm : P.follows .mixedOrders = true) (hS : S w.drew)
    (h : S w.drew → wpLate P .any ops Q S late ops.size (Array.replicate ops.size false) a w.drew) : (Code.region id ops true).wp P Q a w :=
  wp_region_any hm (wpAny_of_late _ _ _ _ (h hS))
end


/-- The operation at a place of a list that is written out. -/
def Pick : Nat → List Oper → Oper → Prop
  | 0, y :: _, x => y = x
  | k + 1, _ :: l, x => Pick k l x
  | _, [], _ => False
theorem Pick.zero {x : Oper} {l : List Oper} : Pick 0 (x :: l) x := rfl
theorem Pick.succ {k : Nat} {x y : Oper} {l : List Oper} (h : Pick k l x) : Pick (k + 1) (y :: l) x := h
theorem Pick.get : ∀ {k : Nat} {l : List Oper} {x : Oper}, Pick k l x → l.toArray[k]? = some x
  | 0, y :: l, x, h => by
    have e : y = x := h
    simp [e]
  | k + 1, y :: l, x, h => by
    have e : Pick k l x := h
    simpa using e.get
  | 0, [], _, h => h.elim
  | k + 1, [], _, h => h.elim

theorem late_take {l : List Oper} {P : Program} {Q : Exit → Act → World → Prop} {S : World → Prop} {late : Nat} (i : Nat) {oi : Oper} (hp : Pick i l oi) {v : Value} {fuel : Nat} {listed : Array Bool} {a : Act} {w : World} 
    (hs : Region.noSelect l.toArray = true) (hf : Region.free .any l.toArray listed i = true) (hr : (Region.ready .any l.toArray listed).contains i = true) (hwt : waitsB l.toArray listed i late (behind l.toArray i 8) = true)
    (hQ : ∀ c a w, Q (.panic c) (a.put oi.dst v) w → Q (.panic c) a w) (hw : Region.wanted oi (yielded l.toArray a.tmps) = true) (hy : ∀ w, S w → (execOp a.eval oi).run P w = .ok (.value v) w) (hS : S w)
    (h : wpLate P .any l.toArray Q S late fuel (listed.setIfInBounds i true) (a.put oi.dst v) w) : wpLate P .any l.toArray Q S late (fuel + 1) listed a w :=
  wpLate_take 8 hp.get hs hf hr hwt hQ (Or.inl ⟨hw, hy⟩) hS h

theorem late_one {l : List Oper} {P : Program} {Q : Exit → Act → World → Prop} {S : World → Prop} {late : Nat} (i : Nat) {o : Oper} (hp : Pick i l o) {fuel : Nat} {listed : Array Bool} {a : Act} {w : World} (hr : Region.ready .any l.toArray listed = [i]) 
    (h : ∀ K' : Act → World → Prop, Shut (∀ a w, (i ≠ late → S w) → ((i ≠ late → S w) → wpLate P .any l.toArray Q S late fuel (listed.setIfInBounds i true) a w) → K' a w) → if Region.wanted o (yielded l.toArray a.tmps) = true then Oper.wp P o a w K' Q else K' (a.put o.dst undef) w) :
    wpLate P .any l.toArray Q S late (fuel + 1) listed a w := wpLate_one hr hp.get h
theorem Pick.s5 {k : Nat} {x a b c d e : Oper} {l : List Oper} (h : Pick k l x) : Pick (k + 5) (a :: b :: c :: d :: e :: l) x := h
end Go.Proofs.Ytlcamfkgkcjehaa

namespace Go.Proofs.Ytlcamfkgkcjehaa

/-- One step of the sum: a shift, and the polynomial where a one falls out. -/
def crcSt (c : Int) : Int := if c % 2 = 1 then bits .xor .u32 (c / 2) 3988292384 else c / 2
def crcStN : Nat → Int → Int
  | 0, c => c
  | n + 1, c => crcSt (crcStN n c)
def crcTo (f : Nat → Int) : Nat → Int
  | 0 => 4294967295
  | k + 1 => crcStN 8 (bits .xor .u32 (crcTo f k) (f k))

theorem xor_range (a b : Int) : 0 ≤ bits .xor .u32 a b ∧ bits .xor .u32 a b < 4294967296 := by
  show 0 ≤ IntKind.u32.wrap _ ∧ IntKind.u32.wrap _ < 4294967296
  rw [IntKind.wrap_u32']
  omega

theorem crcSt_range (c : Int) (h0 : 0 ≤ c) (h1 : c < 4294967296) : 0 ≤ crcSt c ∧ crcSt c < 4294967296 := by
  unfold crcSt
  split
  · exact xor_range _ _
  · omega

theorem crcStN_range (n : Nat) (c : Int) (h0 : 0 ≤ c) (h1 : c < 4294967296) : 0 ≤ crcStN n c ∧ crcStN n c < 4294967296 := by
  induction n with
  | zero => exact ⟨h0, h1⟩
  | succ n ih => exact crcSt_range _ ih.1 ih.2

theorem and_one_u32 (c : Int) (h0 : 0 ≤ c) (h1 : c < 4294967296) : bits .and .u32 c 1 = c % 2 := by
  rw [u32_and c 1 h0 h1 (by omega) (by omega)]
  have e : (1 : Int).toNat = 1 := rfl
  rw [e, Nat.and_one_is_mod]
  omega

theorem crcSt_one (c : Int) (h : c % 2 = 1) : crcSt c = bits .xor .u32 (c / 2) 3988292384 := by unfold crcSt; rw [if_pos h]
theorem crcSt_zero (c : Int) (h : ¬ c % 2 = 1) : crcSt c = c / 2 := by unfold crcSt; rw [if_neg h]
end Go.Proofs.Ytlcamfkgkcjehaa

namespace Go.Proofs.Ytlcamfkgkcjehaa
open Go.RowKit Go.Deep

set_option maxHeartbeats 1000000 in
theorem specCrc_any (a : Option Addr) (len cap : Nat) (f : Nat → Int) (w : World) (h : Rd .u8 w a len f) (hf : ∀ i, i < len → 0 ≤ f i ∧ f i < 256) (hm : len ≤ 1099511627776) :
    Calls Try.prog 71 #[.slice a len cap] w fun e w' => e = .returned (.int .u32 (bits .xor .u32 (crcTo f len) 4294967295)) ∧ w' = w := by
  go_enter Try.func71, Try.ntmps71
  go_wp2
  go_loop [3, 4, 5] (fun c i _ => ∃ k : Nat, k ≤ len ∧ i = .int .i64 k ∧ c = .int .u32 (crcTo f k)) (fun _ i _ => len - (intOf i).toNat)
  case atStart => exact ⟨0, Nat.zero_le _, rfl, rfl⟩
  case round =>
    obtain ⟨k, hk, rfl, rfl⟩ := hrel
    by_cases hlt : k < len
    · have hne : ¬ len = 0 := by omega
      rcases h with h | ⟨b, o, rfl, hc⟩
      · exact absurd h hne
      have hcx := hc k hlt
      have hfk := hf k hlt
      have hx := xor_range (crcTo f k) (f k)
      have HX : Hid (crcTo f (k + 1) = crcStN 8 (bits .xor .u32 (crcTo f k) (f k))) := rfl
      clear hc hf
      generalize crcTo f k = c0 at *
      go_wp2
      clear hcx
      generalize bits .xor .u32 c0 (f k) = x0 at *
      go_loop [3, 5] (fun c j => ∃ n : Nat, n ≤ 8 ∧ j = .int .i64 n ∧ c = .int .u32 (crcStN n x0)) (fun _ j => 8 - (intOf j).toNat)
      case atStart => exact ⟨0, Nat.zero_le _, rfl, rfl⟩
      case round =>
        obtain ⟨n, hn, rfl, rfl⟩ := hrel
        have hr := crcStN_range n x0 hx.1 hx.2
        have HN : Hid (crcStN (n + 1) x0 = crcSt (crcStN n x0)) := rfl
        by_cases hlt8 : n < 8
        · generalize crcStN n x0 = c1 at *
          by_cases h1 : c1 % 2 = 1
          · have h1b : (c1 % 2 == 1) = true := by simp [h1]
            have HE : Hid (crcSt c1 = bits .xor .u32 (c1 / 2) 3988292384) := crcSt_one c1 h1
            clear h1
            go_wp2
            go_round
            case rel => exact ⟨n + 1, by omega, by go_num, by rw [HN.out, HE.out]⟩
            case measure => simp [intOf]; omega
          · have h1b : (c1 % 2 == 1) = false := by simp [h1]
            have HE : Hid (crcSt c1 = c1 / 2) := crcSt_zero c1 h1
            clear h1
            go_wp2
            go_round
            case rel => exact ⟨n + 1, by omega, by go_num, by rw [HN.out, HE.out]⟩
            case measure => simp [intOf]; omega
        · have e : n = 8 := by omega
          subst e
          go_wp2
          go_round
          case rel => exact ⟨k + 1, by omega, by go_num, by rw [HX.out]⟩
          case measure => simp [intOf]; omega
    · have e : k = len := by omega
      subst e
      go_wp2
      go_ret
      exact ⟨rfl, rfl⟩

set_option maxHeartbeats 1000000 in
theorem implCrc_any (a : Option Addr) (len cap : Nat) (f : Nat → Int) (w : World) (h : Rd .u8 w a len f) (hf : ∀ i, i < len → 0 ≤ f i ∧ f i < 256) (hm : len ≤ 1099511627776) :
    Calls Try.prog 78 #[.slice a len cap] w fun e w' => e = .returned (.int .u32 (bits .xor .u32 (crcTo f len) 4294967295)) ∧ w' = w := by
  go_enter Try.func78, Try.ntmps78
  go_wp2
  go_loop [3, 5, 8, 16] (fun c _ i _ => ∃ k : Nat, k ≤ len ∧ i = .int .i64 k ∧ c = .int .u32 (crcTo f k)) (fun _ _ i _ => len - (intOf i).toNat)
  case atStart => exact ⟨0, Nat.zero_le _, rfl, rfl⟩
  case round =>
    obtain ⟨k, hk, rfl, rfl⟩ := hrel
    by_cases hlt : k < len
    · have hne : ¬ len = 0 := by omega
      rcases h with h | ⟨b, o, rfl, hc⟩
      · exact absurd h hne
      have hcx := hc k hlt
      have hfk := hf k hlt
      have hx := xor_range (crcTo f k) (f k)
      have HX : Hid (crcTo f (k + 1) = crcStN 8 (bits .xor .u32 (crcTo f k) (f k))) := rfl
      clear hc hf
      generalize crcTo f k = c0 at *
      go_wp2
      clear hcx
      generalize bits .xor .u32 c0 (f k) = x0 at *
      go_loop [3, 16] (fun c j => ∃ n : Nat, n ≤ 8 ∧ j = .int .i64 n ∧ c = .int .u32 (crcStN n x0)) (fun _ j => 8 - (intOf j).toNat)
      case atStart => exact ⟨0, Nat.zero_le _, rfl, rfl⟩
      case round =>
        obtain ⟨n, hn, rfl, rfl⟩ := hrel
        have hr := crcStN_range n x0 hx.1 hx.2
        have HN : Hid (crcStN (n + 1) x0 = crcSt (crcStN n x0)) := rfl
        by_cases hlt8 : n < 8
        · generalize crcStN n x0 = c1 at *
          have ha := and_one_u32 c1 hr.1 hr.2
          by_cases h1 : c1 % 2 = 1
          · have h1b : (bits .and .u32 c1 1 == 1) = true := by simp [ha, h1]
            have HE : Hid (crcSt c1 = bits .xor .u32 (c1 / 2) 3988292384) := crcSt_one c1 h1
            clear h1 ha
            go_wp2
            go_round
            case rel => exact ⟨n + 1, by omega, by go_num, by rw [HN.out, HE.out]⟩
            case measure => simp [intOf]; omega
          · have h1b : (bits .and .u32 c1 1 == 1) = false := by simp [ha, h1]
            have HE : Hid (crcSt c1 = c1 / 2) := crcSt_zero c1 h1
            clear h1 ha
            go_wp2
            go_round
            case rel => exact ⟨n + 1, by omega, by go_num, by rw [HN.out, HE.out]⟩
            case measure => simp [intOf]; omega
        · have e : n = 8 := by omega
          subst e
          go_wp2
          go_round
          case rel => exact ⟨k + 1, by omega, by go_num, by rw [HX.out]⟩
          case measure => simp [intOf]; omega
    · have e : k = len := by omega
      subst e
      go_wp2
      go_ret
      exact ⟨rfl, rfl⟩
end Go.Proofs.Ytlcamfkgkcjehaa

namespace Go.Proofs.Ytlcamfkgkcjehaa
open Go

/-! A drawn region of operations that each make something which stays: whatever the order, in the end everything is made. -/
/-- What operation i has left in its slot. -/
def opVal (ops : Array Oper) (a : Act) (i : Nat) : Value := match ops[i]? with
  | some o => (match o.dst with | some s => a.tmps.getD s undef | none => undef)
  | none => undef

/-- The slots that no operation writes are as they were. -/
structure Plain (ops : Array Oper) (a0 a : Act) : Prop where
  defers : a.defers = a0.defers
  size : a.tmps.size = a0.tmps.size
  other : ∀ (s : Nat), (∀ (i : Nat) (o : Oper), ops[i]? = some o → o.dst ≠ some s) → a.tmps.getD s undef = a0.tmps.getD s undef

/-- Every operation has a slot of its own, and waits for earlier ones alone. -/
def sortedB (ops : Array Oper) (n : Nat) : Bool :=
  (List.range ops.size).all fun i => match ops[i]? with
    | some o => (match o.dst with | some s => decide (s < n) && (List.range ops.size).all (fun j => j == i || (match ops[j]? with | some p => p.dst != some s | none => true)) | none => false) && o.after.all (fun e => decide (e.on < i))
    | none => true

end Go.Proofs.Ytlcamfkgkcjehaa
