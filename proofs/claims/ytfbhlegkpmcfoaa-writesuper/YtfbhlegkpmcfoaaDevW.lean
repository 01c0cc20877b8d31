import Derived.Test.YtfbhlegkpmcfoaaDevG
import Derived.Deep.RegionLaw
import Derived.Deep.DrawnRows
namespace Go.Proofs.Ytfbhlegkpmcfoaa
open Go.RowKit Go.Deep
set_option linter.unusedVariables false
set_option maxRecDepth 100000
attribute [local go_sem ↓] Go.wp_at_zero Go.wp_at_succ

set_option maxHeartbeats 400000 in
theorem write_full (b q : Nat) (p : Option Addr) (v0 : Value) (fuel : Int) (dead : Bool) (s : Int) (ad : Option Addr) (cp : Nat) (w : World) (h : Dev w b v0 (.slice p 2000 q) fuel dead) :
    Calls Try.prog 80 #[.pointer (some ⟨b, 0, none⟩), .int .i64 s, .slice ad 64 cp] w fun e w' => e = .returned (.tuple #[]) ∧ w' = w := by
  obtain ⟨c0, c1, c2, c3, cf, cl⟩ := h.cells
  clear h
  go_enter Try.func80, Try.ntmps80
  go_wp2
  first | go_end0 | refine bodyPost_ret (results_none rfl _ _ _) rfl ?_
  exact ⟨rfl, rfl⟩

set_option maxHeartbeats 400000 in
theorem write_zero (b m q : Nat) (p : Option Addr) (v0 : Value) (dead : Bool) (s : Int) (ad : Option Addr) (cp : Nat) (w : World) (h : Dev w b v0 (.slice p m q) 0 dead) (hm : m < 2000) :
    Calls Try.prog 80 #[.pointer (some ⟨b, 0, none⟩), .int .i64 s, .slice ad 64 cp] w fun e w' => e = .panicked [{ v := .iface 111 (.agg #[]), recovered := false }] ∧ Dev w' b v0 (.slice p m q) 0 true ∧ OnlyAt (some ⟨b, 0, none⟩) w w' := by
  obtain ⟨c0, c1, c2, c3, cf, cl⟩ := h.cells
  have hm' : ((m : Int) == 2000) = false := by simp; omega
  have H : Hid (Dev w b v0 (.slice p m q) 0 dead) := h
  clear h
  go_enter Try.func80, Try.ntmps80
  go_wp2_with fail
  refine (spend_zero b v0 (.slice p m q) dead w H.out).mono ?_
  rintro e w1 ⟨rfl, hd, ho⟩
  have HE : Hid (Dev w1 b v0 (.slice p m q) 0 true ∧ OnlyAt (some ⟨b, 0, none⟩) w w1) := ⟨hd, ho⟩
  clear hd ho
  go_wp2
  exact ⟨rfl, rfl, HE.out⟩

set_option maxHeartbeats 400000 in
theorem write_dead (b m q : Nat) (p : Option Addr) (v0 : Value) (fuel : Int) (s : Int) (ad : Option Addr) (cp : Nat) (w : World) (h : Dev w b v0 (.slice p m q) fuel true) (hf : fuel ≠ 0) (hm : m < 2000) :
    Calls Try.prog 80 #[.pointer (some ⟨b, 0, none⟩), .int .i64 s, .slice ad 64 cp] w fun e w' => e = .panicked [{ v := .iface 111 (.agg #[]), recovered := false }] ∧ w' = w := by
  obtain ⟨c0, c1, c2, c3, cf, cl⟩ := h.cells
  have hm' : ((m : Int) == 2000) = false := by simp; omega
  have H : Hid (Dev w b v0 (.slice p m q) fuel true) := h
  clear h
  go_enter Try.func80, Try.ntmps80
  go_wp2_with fail
  refine (spend_dead b v0 (.slice p m q) fuel w H.out hf).mono ?_
  rintro e w1 ⟨rfl, hw⟩
  subst hw
  go_wp2
  exact ⟨rfl, rfl, rfl⟩

/-- A call of copyBytes, as a step of a region that draws its order. -/
theorem step_copyBytes {ops : Array Oper} {o : Oper} {a : Act} {w : World} {K : Act → World → Prop} {Q : Exit → Act → World → Prop} {E : Prop} (hgd : o.guard = none) (x : Nat)
    (ho : o.op = .call { callee := .value (.func 78), args := #[.tmp x], argTypes := #[28] }) (v : Value) (hx : a.tmps[x]?.getD undef = v)
    (h : Calls Try.prog 78 #[v] w fun e w' => ∃ u, e = .returned u ∧ K (a.put o.dst u) w') :
    if Region.wanted o (yielded ops a.tmps) = true then Oper.wp Try.prog o a w K Q else E := by
  have hw : Region.wanted o (yielded ops a.tmps) = true := by simp [Region.wanted, hgd]
  rw [if_pos hw]
  unfold Oper.wp
  simp [execOp, ho, resolve, invoke, hx, go_sem]
  refine h.mono ?_
  rintro e w' ⟨u, rfl, hk⟩
  exact hk

theorem write_close {w w1 w2 w3 : World} {b m q B : Nat} {p p3 : Option Addr} {q3 c2 : Nat} {v0 : Value} {fuel s : Int} {S : Nat → Int} {L : Nat → Nat} {F : Nat → Nat → Int} {A : Nat → Option Addr} {C : Nat → Nat} {f : Nat → Int} {a2 : Option Addr} {O : Obj} (hBb : B ≤ b)
    (HZ : w1.heap.size = w.heap.size) (HB1 : Below B w w1) (KB1 : KeepB w w1) (hB1 : B ≤ w1.heap.size)
    (G1 : Gath w1 B (.slice p m q) m (fun i => if i = m then s else S i) (fun i => if i = m then 64 else L i) (fun i => if i = m then f else F i) A C)
    (hb2 : Below w1.heap.size w1 w2) (ho2 : OwnB w2 w1.heap.size a2 64 f)
    (hr3 : w3.ownsRow B 86 2 (.slice p3 (m + 1) q3) (m + 1) (pendRow (fun i => if i = m then s else S i) A (fun i => if i = m then 64 else L i) C m ++ [.int .i64 s, .slice a2 64 c2]))
    (hg3 : (w2.alloc O).grownBy w3 (Value.ownBlock (.slice p m q))) (yd : Dev w3 b v0 (.slice p m q) fuel false) :
    ∃ v' A' C', Dev (w3.setCell ⟨b, 1, none⟩ (.slice p3 (m + 1) q3)) b v0 v' fuel false ∧
      Gath (w3.setCell ⟨b, 1, none⟩ (.slice p3 (m + 1) q3)) B v' (m + 1) (fun i => if i = m then s else S i) (fun i => if i = m then 64 else L i) (fun i => if i = m then f else F i) A' C' ∧ (∀ i, i < m → A' i = A i) ∧ (∀ x, A' m = some x → w.heap.size ≤ x.block) ∧ Below B w (w3.setCell ⟨b, 1, none⟩ (.slice p3 (m + 1) q3)) ∧ KeepB w (w3.setCell ⟨b, 1, none⟩ (.slice p3 (m + 1) q3)) := by
  have hs2 := hb2.size
  have hbA : Below w1.heap.size w1 (w2.alloc O) := hb2.alloc hs2 _
  have hon : OnlyAt (some ⟨b, 0, none⟩) w3 (w3.setCell ⟨b, 1, none⟩ (.slice p3 (m + 1) q3)) := (OnlyAt.refl _ _).setCell 1 _
  have g3 : Gath w3 B (.slice p3 (m + 1) q3) (m + 1) (fun i => if i = m then s else S i) (fun i => if i = m then 64 else L i) (fun i => if i = m then f else F i) (fun i => if i = m then a2 else A i) (fun i => if i = m then c2 else C i) :=
    G1.more hB1 hbA a2 c2 (by simpa using ho2.below (below_alloc _ _)) (by simpa using hr3) hg3
  refine ⟨.slice p3 (m + 1) q3, _, _, yd.setCache _, g3.onlyDev yd hon, fun i hi => by simp [Nat.ne_of_lt hi], fun x hx => ?_, ?_, ?_⟩
  · simp at hx
    rcases ho2 with h0 | ⟨g, rfl, hg, _⟩
    · omega
    · injection hx with hx; subst hx; simpa [HZ] using hg
  · refine Below.setCell ?_ (by simpa using hBb) _
    exact (HB1.trans (hbA.mono hB1)).grown hg3 (by simp; omega) (fun k e => (G1.row.lt k e).1)
  · exact (KB1.trans (KeepB.below hbA)).trans ((KeepB.grown ((owns_below G1.row hbA)) hg3).trans (KeepB.dev yd hon))

set_option maxHeartbeats 1000000 in
theorem write_live0 (b m q B : Nat) (p : Option Addr) (v0 : Value) (fuel : Int) (s : Int) (ad : Option Addr) (cp : Nat) (S : Nat → Int) (L : Nat → Nat) (F : Nat → Nat → Int) (A : Nat → Option Addr) (C : Nat → Nat) (f : Nat → Int) (w : World) (h : Dev w b v0 (.slice p m q) fuel false) (hf : fuel ≠ 0) (h1 : -1 ≤ fuel) (h2 : fuel ≤ 1000000) (hm : m < 2000)
    (hg : Gath w B (.slice p m q) m S L F A C) (hBb : B ≤ b) (hro : ∀ w1, OnlyAt (some ⟨b, 0, none⟩) w w1 → Rd .u8 w1.drew ad 64 f) :
    Calls Try.prog 80 #[.pointer (some ⟨b, 0, none⟩), .int .i64 s, .slice ad 64 cp] w fun e w' => e = .returned (.tuple #[]) ∧ ∃ v' A' C', Dev w' b v0 v' (fuelAfter fuel) false ∧
      Gath w' B v' (m + 1) (fun i => if i = m then s else S i) (fun i => if i = m then 64 else L i) (fun i => if i = m then f else F i) A' C' ∧ (∀ i, i < m → A' i = A i) ∧ (∀ x, A' m = some x → w.heap.size ≤ x.block) ∧ Below B w w' ∧ KeepB w w' := by
  obtain ⟨c0, c1, c2, c3, cf, cl⟩ := h.cells
  have hm' : ((m : Int) == 2000) = false := by simp; omega
  have H : Hid (Dev w b v0 (.slice p m q) fuel false) := h
  have HG : Hid (Gath w B (.slice p m q) m S L F A C) := hg
  have HRO : Hid (∀ w1, OnlyAt (some ⟨b, 0, none⟩) w w1 → Rd .u8 w1.drew ad 64 f) := hro
  clear h hg hro
  go_enter Try.func80, Try.ntmps80
  go_wp2_with fail
  refine (spend_live b v0 (.slice p m q) fuel w H.out hf h1 h2).mono ?_
  rintro e w1 ⟨rfl, hd1, ho1⟩
  have hs1 := ho1.size
  have HB1 : Hid (Below B w w1) := ho1.below (fun x e => by injection e with e; subst e; exact hBb)
  have D1 : Hid (Dev w1 b v0 (.slice p m q) (fuelAfter fuel) false) := hd1
  have G1 : Hid (Gath w1 B (.slice p m q) m (fun i => if i = m then s else S i) (fun i => if i = m then 64 else L i) (fun i => if i = m then f else F i) A C) :=
    (HG.out.onlyDev H.out ho1).congr (fun i hi => by simp [Nat.ne_of_lt hi]) (fun i hi => by simp [Nat.ne_of_lt hi]) (fun i hi => by simp [Nat.ne_of_lt hi])
  have R1 : Hid (Rd .u8 w1.drew ad 64 f) := HRO.out w1 ho1
  have KB1 : Hid (KeepB w w1) := fun g n F hr => hr.only (hr.ne H.out (by decide)) ho1
  have hz1 : w1.heap.size = w.heap.size := hs1
  have HZ : Hid (w1.heap.size = w.heap.size) := hs1
  have hbw1 : b < w1.heap.size := by omega
  clear hd1 ho1 hs1 hz1 c0 c1 c2 c3 cf
  obtain ⟨c0, c1, c2, c3, cf, cl1⟩ := D1.out.cells
  have HT : Hid (∀ w2 : World, Below w1.drew.heap.size w1.drew w2 → Below w1.heap.size w1 w2) := fun w2 hb => (Below.refl _ _).drew.trans hb
  have HD : Hid (∀ (w2 w3 : World) (O : Obj), Below w1.drew.heap.size w1.drew w2 → (w2.alloc O).grownBy w3 (Value.ownBlock (.slice p m q)) → w3.cell? ⟨b, 1, none⟩ = some (.slice p m q) ∧ (∀ o, w3.frozen? ⟨b, o, none⟩ = false) ∧ w1.heap.size < w3.heap.size ∧ b < w3.heap.size ∧ Dev w3 b v0 (.slice p m q) (fuelAfter fuel) false) := by
    intro w2 w3 O hb hg
    have hb' := HT.out w2 hb
    have hs := hb'.size
    have hg1 := hg.size
    have hne : Value.ownBlock (.slice p m q) ≠ some b := G1.out.notDev D1.out
    have hd3 : Dev w3 b v0 (.slice p m q) (fuelAfter fuel) false := by
      have q1 : Dev w2 b v0 (.slice p m q) (fuelAfter fuel) false := D1.out.below hb'
      exact rowIn.of_block q1 ((hg.block b (by simp; omega) (fun e => hne e.symm)).trans (Below.heap_alloc _ _ _ (by omega)))
    simp at hg1
    exact ⟨hd3.cells.2.1, hd3.cells.2.2.2.2.1, by omega, by omega, hd3⟩
  have HX2 : Hid (∀ (w2 : World) (a2 : Option Addr), OwnB w2 w1.drew.heap.size a2 64 f → Below w1.drew.heap.size w1.drew w2 → w1.heap.size < w2.heap.size ∧ (w2.cell? ⟨b, 1, none⟩ = some (.slice p m q)) ∧ (∀ o, w2.frozen? ⟨b, o, none⟩ = false) ∧ b < w2.heap.size) := by
    intro w2 a2 ho hb
    have hd2 : Dev w2 b v0 (.slice p m q) (fuelAfter fuel) false := D1.out.below (HT.out w2 hb)
    rcases ho with h0 | ⟨g, rfl, hg, hr⟩
    · omega
    · have := hr.lt
      have hg' : w1.heap.size ≤ g := hg
      exact ⟨by omega, hd2.cells.2.1, hd2.cells.2.2.2.2.1, hd2.cells.2.2.2.2.2⟩
  have hk2 : m ≤ 1048576 := by omega
  have hB1 : B ≤ w1.heap.size := by omega
  have HCB : Hid (Calls Try.prog 78 #[.slice ad 64 cp] w1.drew fun e w' => RetOwn w1.drew e w' 64 f) := copyBytes_any ad 64 cp f w1.drew R1.out (by omega)
  go_wp2
  go_region_law
    (first
    | (refine step_copyBytes (by rfl) 22 (by rfl) (.slice ad 64 cp) (by rfl) ?_; refine HCB.out.mono ?_; rintro e w2 ⟨a2, c2', he, ho2, hb2, -, -⟩; refine ⟨_, he, ?_⟩; clear he; obtain ⟨y1, y2, y3, y4⟩ := HX2.out w2 a2 ho2 hb2)
    | (refine step_append_made (by rfl) (.tmp 20) (.tmp 25) (by rfl) B m (.slice p m q) (pendRow (fun i => if i = m then s else S i) A (fun i => if i = m then 64 else L i) C m) s a2 64 c2' (by rfl) (owns_below G1.out.row (HT.out w2 hb2)) (by rfl) hk2 (Nat.le_trans hB1 (HT.out w2 hb2).size) ?_; intro v3 w3 hr3 hg3; obtain ⟨p3, q3, hv3⟩ := owns_shape hr3; subst hv3; obtain ⟨y0, yf, yz, yb, yd⟩ := HD.out w2 w3 _ hb2 hg3))
  all_goals
    have HE := write_close (F := F) (f := f) hBb HZ.out HB1.out KB1.out hB1 G1.out (HT.out w2 hb2) ho2 hr3 hg3 yd
    have HEE := Hid.out (p := _) HE
    clear HEE
    go_wp2
    go_end0
    exact ⟨rfl, HE⟩
theorem write_live (b m q B : Nat) (p : Option Addr) (v0 : Value) (fuel : Int) (s : Int) (ad : Option Addr) (cp : Nat) (S : Nat → Int) (L : Nat → Nat) (F : Nat → Nat → Int) (A : Nat → Option Addr) (C : Nat → Nat) (f : Nat → Int) (w : World) (h : Dev w b v0 (.slice p m q) fuel false) (hf : fuel ≠ 0) (h1 : -1 ≤ fuel) (h2 : fuel ≤ 1000000) (hm : m < 2000)
    (hg : Gath w B (.slice p m q) m S L F A C) (hrd : Rd .u8 w ad 64 f) (hBb : B ≤ b) (hlo : ∀ x, ad = some x → x.block < B) :
    Calls Try.prog 80 #[.pointer (some ⟨b, 0, none⟩), .int .i64 s, .slice ad 64 cp] w fun e w' => e = .returned (.tuple #[]) ∧ ∃ v' A' C', Dev w' b v0 v' (fuelAfter fuel) false ∧
      Gath w' B v' (m + 1) (fun i => if i = m then s else S i) (fun i => if i = m then 64 else L i) (fun i => if i = m then f else F i) A' C' ∧ (∀ i, i < m → A' i = A i) ∧ (∀ x, A' m = some x → w.heap.size ≤ x.block) ∧ Below B w w' ∧ KeepB w w' :=
  write_live0 b m q B p v0 fuel s ad cp S L F A C f w h hf h1 h2 hm hg hBb (fun w1 ho => hrd.lowB hlo (ho.below (fun x e => by injection e with e; subst e; exact hBb)).drew)
end Go.Proofs.Ytfbhlegkpmcfoaa
