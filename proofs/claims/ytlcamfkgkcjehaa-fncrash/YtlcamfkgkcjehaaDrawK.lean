import Derived.Test.YtlcamfkgkcjehaaDrawF
import Derived.Test.YtlcamfkgkcjehaaBools
namespace Go.Proofs.Ytlcamfkgkcjehaa
open Go.RowKit Go.Deep
set_option linter.unusedVariables false
set_option maxRecDepth 100000

/-- A slice of bools in the call's own memory. -/
def OwnBl (w : World) (B : Nat) (a : Option Addr) (n : Nat) (f : Nat → Bool) : Prop :=
  n = 0 ∨ ∃ g, a = some ⟨g, 0, none⟩ ∧ B ≤ g ∧ rowIn w g 4 n (fun i => .bool (f i))
theorem OwnBl.rd {w : World} {B n : Nat} {a : Option Addr} {f : Nat → Bool} (h : OwnBl w B a n f) : RdBl w a n f := by
  rcases h with h | ⟨g, rfl, _, hr⟩
  · exact Or.inl h
  · exact RdBl.ofRow hr
theorem OwnBl.below {w w' : World} {B n : Nat} {a : Option Addr} {f : Nat → Bool} (h : OwnBl w B a n f) (hb : Below w.heap.size w w') : OwnBl w' B a n f := by
  rcases h with h | ⟨g, rfl, hg, hr⟩
  · exact Or.inl h
  · exact Or.inr ⟨g, rfl, hg, hr.below hb⟩

def boolRow (f : Nat → Bool) (k : Nat) : List Value := (List.range k).map (fun i => .bool (f i))

theorem boolRow_succ (f : Nat → Bool) (k : Nat) (o : Bool) : boolRow f k ++ [.bool o] = boolRow (fun i => if i = k then o else f i) (k + 1) := by
  unfold boolRow
  rw [List.range_succ, List.map_append]
  congr 1
  · refine List.map_congr_left (fun j hj => ?_)
    have := List.mem_range.1 hj
    simp only [if_neg (show ¬ j = k by omega)]
  · simp
theorem owns_onlyLow {w w' : World} {B g o k : Nat} {e : TypeId} {z : Nat} {v : Value} {xs : List Value} (h : w.ownsRow B e z v k xs) (hg : g < B) (ho : OnlyAt (some ⟨g, o, none⟩) w w') : w'.ownsRow B e z v k xs := by
  refine ⟨h.1, ?_⟩
  rcases h.2 with h2 | ⟨g2, cap, cur, hv, hB, hh, r⟩
  · exact Or.inl h2
  · exact Or.inr ⟨g2, cap, cur, hv, hB, (ho.block g2 (fun x e => by injection e with e; subst e; show g ≠ g2; omega)).trans hh, r⟩
theorem owns_blockGe {w : World} {B k : Nat} {e : TypeId} {z : Nat} {v : Value} {xs : List Value} (h : w.ownsRow B e z v k xs) : ∀ g, v.ownBlock = some g → B ≤ g := by
  intro g eg
  rcases h.2 with ⟨hv, _⟩ | ⟨g2, cap, cur, hv, hB, _⟩
  · rw [hv] at eg; simp [Value.ownBlock] at eg
  · rw [hv] at eg
    simp [Value.ownBlock] at eg
    omega
theorem ownBl_ofRow {w : World} {B k : Nat} {v : Value} {K : Nat → Bool} (h : w.ownsRow B 4 1 v k (boolRow K k)) : ∃ a cp, v = .slice a k cp ∧ OwnBl w B a k K := by
  rcases h.2 with ⟨hv, hk⟩ | ⟨g, cap, cur, hv, hg, hh, h1, h2, h3, h4⟩
  · subst hk; exact ⟨none, 0, hv, Or.inl rfl⟩
  · refine ⟨_, cap, hv, Or.inr ⟨g, rfl, hg, ⟨cur, hh, by omega, fun i hi => ?_⟩⟩⟩
    have e : cur[i]? = (cur.toList.take (k * 1))[i]? := by rw [List.getElem?_take, if_pos (by omega)]; simp
    rw [e, h4]
    unfold boolRow
    rw [List.getElem?_map, List.getElem?_range hi]
    rfl

/-- What l1Keep hands back. -/
def RetKeep (w : World) (g : Nat) (b : Option Addr) (n c : Nat) (f : Nat → Int) (M : Nat) (e : Ending) (w' : World) : Prop :=
  ∃ (k : Nat) (a : Option Addr) (cp : Nat) (K : Nat → Bool), e = .returned (.slice a k cp) ∧ k ≤ M + 1 ∧ OwnBl w' w.heap.size a k K ∧ Drw w' g b n c f ∧ BelC w.heap.size g w w'

set_option maxHeartbeats 2000000 in
theorem l1Keep_any (g : Nat) (b : Option Addr) (n c : Nat) (f : Nat → Int) (x : Int) (M : Nat) (w : World) (h : Drw w g b n c f) (hx : x = (M : Int)) (hM : M ≤ 1048576) :
    Calls Try.prog 23 #[.pointer (some ⟨g, 0, none⟩), .int .i64 x] w (RetKeep w g b n c f M) := by
  have HW : Hid (DrwL w w.heap.size g b n c f) := DrwL.of h
  have HX : Hid (x = (M : Int)) := hx
  have e1 : IntKind.i64.wrap (x + 2) = x + 2 := by rw [IntKind.wrap_i64]; omega
  have hx0 : 0 ≤ x ∧ x ≤ 1048576 := by omega
  have hgl := HW.out.cur
  clear h hx
  obtain ⟨i0, hi, hz0, hz1, hz2⟩ := info_parts Try.info4
  have HI : Hid (Try.prog.info? 4 = some i0 ∧ i0.zero = some (.bool false) ∧ i0.size = 1 ∧ i0.bytes = 1) := ⟨hi, hz0, hz1, hz2⟩
  clear hi hz0 hz1 hz2
  go_enter Try.func23, Try.ntmps23
  go_wp2_with fail
  refine (l1Below_any g b n c f (x + 2) w HW.out.drw (by omega) (by omega)).mono ?_
  rintro e w1 ⟨y, rfl, hy0, hy1, hd1, ho1⟩
  have z1 : w1.heap.size = w.heap.size := ho1.size
  have B1 : Hid (BelC w.heap.size g w w1) := BelC.ofOnly ho1
  have D1 : Hid (Drw w1 g b n c f) := hd1
  clear hd1 ho1
  go_wp2
  go_loopw [6, 7] (fun u i wr => ∃ (j : Nat) (K : Nat → Bool), (j : Int) ≤ y ∧ i = .int .i64 j ∧ wr.ownsRow w.heap.size 4 1 u j (boolRow K j) ∧ Drw wr g b n c f ∧ BelC w.heap.size g w wr) (fun _ i _ => (y - intOf i).toNat)
  case atStart =>
    refine ⟨0, fun _ => false, by omega, rfl, ?_, D1.out.below (below_alloc _ _), B1.out.alloc (by omega) _⟩
    have := World.ownsRow_lit w1 (e := 4) (size := 1) #[] 0 (Nat.le_refl _) (Nat.zero_le _) rfl
    rw [z1] at this
    exact this
  case round =>
    obtain ⟨j, K, hj, rfl, hown, hd, hb⟩ := hrel
    have HO : Hid (wr.ownsRow w.heap.size 4 1 u6 j (boolRow K j)) := hown
    have HD : Hid (Drw wr g b n c f) := hd
    have HB : Hid (BelC w.heap.size g w wr) := hb
    have hz := hb.size
    clear hown hd hb
    by_cases hlt : (j : Int) < y
    · go_wp2_with fail
      refine (l1Once_any g b n c f 2 wr HD.out (by omega) (by omega)).mono ?_
      rintro e w2 ⟨o, rfl, hd2, ho2⟩
      have z2 : w2.heap.size = wr.heap.size := ho2.size
      have O2 : Hid ((w2.alloc (.cells #[.bool o] 4)).ownsRow w.heap.size 4 1 u6 j (boolRow K j)) := owns_below (owns_onlyLow HO.out hgl ho2) (below_alloc _ _)
      have D2 : Hid (DrwL w2 w.heap.size g b n c f) := ⟨hd2, hgl, HW.out.bytes⟩
      have B2 : Hid (BelC w.heap.size g w w2) := HB.out.trans (BelC.ofOnly ho2)
      have hz9 : w.heap.size ≤ (w2.alloc (.cells #[.bool o] 4)).heap.size := by rw [alloc_size]; omega
      have hjj : j ≤ 1048578 := by omega
      have Z2 : Hid (w2.heap.size = wr.heap.size) := z2
      clear hd2 ho2 HO HD HB z2
      go_wp2_with (at_builtin; refine wpList_append_own _ rfl _ _ 26 rfl w.heap.size 4 i0 (.bool false) 1 1 Try.underlying26 HI.out.1 HI.out.2.1 HI.out.2.2.1 HI.out.2.2.2 rfl (by decide) _ j _ rfl O2.out ⟨w2.heap.size, 0, none⟩ 1 1 [.bool o] rfl rfl (cell_one_new _ _ _) (by intro u hu; simp at hu; subst hu; rfl) (by unfold maxLen; omega) (by omega) hz9 ?_)
      intro v' w3 hown3 hgr3 _
      have HX3 : Hid (w3.ownsRow w.heap.size 4 1 v' (j + 1) (boolRow (fun i => if i = j then o else K i) (j + 1)) ∧ Drw w3 g b n c f ∧ BelC w.heap.size g w w3) := by
        have hb : Below w.heap.size w2 w3 := Below.grown ((below_alloc w2 (.cells #[.bool o] 4)).mono (by have := Z2.out; omega)) hgr3 hz9 (owns_blockGe O2.out)
        exact ⟨by rw [← boolRow_succ]; exact hown3, (D2.out.below hb).drw, B2.out.trans (BelC.ofBelow hb (Nat.le_refl _))⟩
      clear hown3 hgr3 O2 D2 B2
      go_wp2
      go_roundw
      case rel => exact ⟨j + 1, _, by omega, by go_num, HX3.out.1, HX3.out.2.1, HX3.out.2.2⟩
      case measure => simp [intOf]; omega
    · obtain ⟨a, cp, hvv, hbl⟩ := ownBl_ofRow HO.out
      subst hvv
      have HE : Hid (OwnBl wr w.heap.size a j K) := hbl
      clear hbl HO
      go_wp2
      go_ret
      have := HX.out
      exact ⟨j, a, cp, K, rfl, by omega, HE.out, HD.out, HB.out⟩
end Go.Proofs.Ytlcamfkgkcjehaa
