import Derived.Test.YtocmbnocdjnfpaaPpR
import Derived.WalkSpells
namespace Go.Proofs.Ytocmbnocdjnfpaa
open Go.RowKit Go.Deep
set_option linter.unusedVariables false
set_option maxRecDepth 100000

/-- A text's bytes. -/
def lf (l : List Int) (i : Nat) : Int := l.getD i 0
def bv (l : List Int) : List Value := l.map (fun x => Value.int .u8 x)
theorem bv_app (l m : List Int) : bv (l ++ m) = bv l ++ bv m := List.map_append
theorem bv_length (l : List Int) : (bv l).length = l.length := List.length_map ..
theorem bv_row (l : List Int) : byteRow (lf l) l.length = bv l := by
  unfold byteRow bv lf
  apply List.ext_getElem (by simp)
  intro i h1 h2
  simp at h1 h2 ⊢
  rw [List.getElem?_eq_getElem h1]
  rfl
/-- A []byte that can be read as a text. -/
def RdL (w : World) (a : Option Addr) (l : List Int) : Prop := Rd .u8 w a l.length (lf l)
theorem RdL.below {w w' : World} {a : Option Addr} {l : List Int} (h : RdL w a l) (hb : Below w.heap.size w w') : RdL w' a l := Rd.below h hb
/-- A text handed back. -/
def RetL (w : World) (l : List Int) (e : Ending) (w' : World) : Prop :=
  ∃ a' c', e = .returned (.slice a' l.length c') ∧ RdL w' a' l ∧ Below w.heap.size w w' ∧ (0 < l.length → ∀ p, a' = some p → w.heap.size ≤ p.block) ∧ l.length ≤ c' ∧ c' ≤ 9223372036854775807
theorem own_bv {w : World} {B : Nat} {v : Value} {l : List Int} {n : Nat} (hn : n = l.length) (h : w.ownsRow B 5 1 v n (bv l)) : ∃ a c, v = .slice a n c ∧ OwnB w B a n (lf l) ∧ n ≤ c ∧ c ≤ 9223372036854775807 := by
  subst hn
  rw [← bv_row] at h
  exact ownB_ofRow h
/-- Texts side by side. -/
def RdSL (w : World) (b o : Nat) (PL : List (List Int)) : Prop :=
  ∀ i p, PL[i]? = some p → ∃ ad cp, w.cell? ⟨b, o + i, none⟩ = some (.slice ad p.length cp) ∧ RdL w ad p
theorem RdSL.below {w w' : World} {b o : Nat} {PL : List (List Int)} (h : RdSL w b o PL) (hb : Below w.heap.size w w') : RdSL w' b o PL := fun i p hi => by
  obtain ⟨ad, cp, h1, h2⟩ := h i p hi
  exact ⟨ad, cp, (hb.cell (p := ⟨b, o + i, none⟩) (World.block_lt_of_cell? _ _ h1)).trans h1, h2.below hb⟩
theorem flat_take (PL : List (List Int)) (k : Nat) {p : List Int} (h : PL[k]? = some p) : (PL.take (k + 1)).flatten = (PL.take k).flatten ++ p := by
  rw [List.take_add_one, h]
  simp
theorem flat_take_le (PL : List (List Int)) (k : Nat) : ((PL.take k).flatten).length ≤ PL.flatten.length := by
  conv => rhs; rw [← List.take_append_drop k PL]
  rw [List.flatten_append, List.length_append]
  omega

set_option maxHeartbeats 1000000 in
theorem l2Cat_l (b o m q : Nat) (PL : List (List Int)) (w : World) (h : RdSL w b o PL) (hm : m = PL.length) (hm2 : m ≤ 1000) (hl : PL.flatten.length ≤ 1048576) :
    Calls Try.prog 88 #[.slice (some ⟨b, o, none⟩) m q] w (RetL w PL.flatten) := by
  have H : Hid (RdSL w b o PL ∧ m = PL.length ∧ PL.flatten.length ≤ 1048576) := ⟨h, hm, hl⟩
  clear h hl hm
  go_enter Try.func88, Try.ntmps88
  go_wp2
  go_loopw [3, 4] (fun u i wr => ∃ (k n : Nat) (l : List Int), k ≤ m ∧ i = .int .i64 k ∧ n = l.length ∧ l = (PL.take k).flatten ∧ wr.ownsRow w.heap.size 5 1 u n (bv l) ∧ Below w.heap.size w wr) (fun _ i _ => m - (intOf i).toNat)
  case atStart => exact ⟨0, 0, [], Nat.zero_le _, rfl, rfl, by simp, World.ownsRow_lit w #[] 0 (Nat.le_refl _) (Nat.zero_le _) rfl, (Below.refl _ _).alloc (Nat.le_refl _) _⟩
  case round =>
    obtain ⟨k, n, l, hk, rfl, hn, hl, hown, hbel⟩ := hrel
    have hsz := hbel.size
    have HB : Hid (Below w.heap.size w wr) := hbel
    have HO : Hid (wr.ownsRow w.heap.size 5 1 u3 n (bv l) ∧ n = l.length ∧ l = (PL.take k).flatten) := ⟨hown, hn, hl⟩
    have hn1 : n ≤ 1048576 := by
      have := flat_take_le PL k
      have := H.out.2.2
      rw [hn, hl]
      omega
    clear hbel hown hn hl
    by_cases hlt : k < m
    · obtain ⟨p, hp⟩ : ∃ p, PL[k]? = some p := ⟨_, List.getElem?_eq_getElem (by rw [← H.out.2.1]; exact hlt)⟩
      obtain ⟨ad, cp, h1, h2⟩ := H.out.1.below HB.out k p hp
      obtain ⟨pn, hpn⟩ : ∃ pn, pn = p.length := ⟨_, rfl⟩
      have R2 : Hid (Rd .u8 wr ad pn (lf p) ∧ pn = p.length ∧ PL[k]? = some p) := ⟨by rw [hpn]; exact h2, hpn, hp⟩
      have l2 : n + pn ≤ 1048576 := by
        have := flat_take_le PL (k + 1)
        rw [flat_take PL k hp, List.length_append] at this
        have := H.out.2.2
        rw [hpn, HO.out.2.1, HO.out.2.2]
        omega
      rw [← hpn] at h1
      clear h2 hpn hp
      go_wp2_with (at_builtin; refine wpList_append_rd rfl _ _ rfl w.heap.size _ n (bv l) rfl HO.out.1 ad pn cp (lf p) rfl R2.out.1 (by omega) hsz ?_)
      intro v' w1 hown' hgrow
      have HX : Hid ((∃ l', n + pn = l'.length ∧ l' = (PL.take (k + 1)).flatten ∧ w1.ownsRow w.heap.size 5 1 v' (n + pn) (bv l')) ∧ Below w.heap.size w w1) := by
        refine ⟨⟨l ++ p, by rw [List.length_append, HO.out.2.1, R2.out.2.1], by rw [flat_take PL k R2.out.2.2, HO.out.2.2], ?_⟩, HB.out.grown hgrow hsz (fun b e => (HO.out.1.lt b e).1)⟩
        rw [bv_app, ← bv_row p, ← R2.out.2.1]
        exact hown'
      clear hown' hgrow HO HB h1
      go_wp2
      go_roundw
      case rel =>
        obtain ⟨⟨l', e1, e2, e3⟩, e4⟩ := HX.out
        exact ⟨k + 1, n + pn, l', by omega, by go_num, e1, e2, e3, e4⟩
      case measure => simp [intOf]; omega
    · have e : k = m := by omega
      subst e
      obtain ⟨a, c, hvv, h1, h2, h3⟩ := own_bv HO.out.2.1 HO.out.1
      subst hvv
      have HE : Hid (RetL w PL.flatten (.returned (.slice a n c)) wr) := by
        have e2 : l = PL.flatten := by rw [HO.out.2.2, H.out.2.1, List.take_length]
        have e3 := HO.out.2.1
        subst e2 e3
        refine ⟨a, c, rfl, h1.rd, HB.out, fun h0 p hp => ?_, h2, h3⟩
        rcases h1 with h1 | ⟨g, e, h1, _⟩
        · omega
        · rw [hp] at e
          injection e with e
          rw [e]
          exact h1
      clear h1 h2 h3 HO
      go_wp2
      go_ret
      exact HE.out
end Go.Proofs.Ytocmbnocdjnfpaa
