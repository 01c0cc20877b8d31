import Derived.Test.YtfbhlegkpmcfoaaAppRd
namespace Go.Proofs.Ytfbhlegkpmcfoaa
open Go.RowKit Go.Deep
set_option maxRecDepth 100000
set_option linter.unusedVariables false

/-- The disk with a sector replaced. -/
def over (d : Nat → Int) (s : Nat) (f : Nat → Int) : Nat → Int := fun j => if j < s * 64 then d j else if j < s * 64 + 64 then f (j - s * 64) else d j

theorem byteRow_over (d f : Nat → Int) (s n : Nat) (h : s * 64 + 64 ≤ n) : byteRow d (s * 64) ++ byteRow f 64 ++ byteRow (fun i => d (s * 64 + 64 + i)) (n - (s * 64 + 64)) = byteRow (over d s f) n := by
  apply List.ext_getElem?
  intro i
  by_cases h1 : i < s * 64
  · rw [List.getElem?_append_left (by simp [byteRow_length]; omega), List.getElem?_append_left (by rw [byteRow_length]; exact h1), byteRow_get _ _ _ h1, byteRow_get _ _ _ (by omega)]
    simp [over, h1]
  · by_cases h2 : i < s * 64 + 64
    · rw [List.getElem?_append_left (by simp [byteRow_length]; omega), List.getElem?_append_right (by rw [byteRow_length]; omega), byteRow_length, byteRow_get _ _ _ (by omega), byteRow_get _ _ _ (by omega)]
      simp [over, h1, h2]
    · by_cases h3 : i < n
      · rw [List.getElem?_append_right (by simp [byteRow_length]; omega), List.length_append, byteRow_length, byteRow_length, byteRow_get _ _ _ (by omega), byteRow_get _ _ _ h3]
        have e : s * 64 + 64 + (i - (s * 64 + 64)) = i := by omega
        simp [over, h1, h2, e]
      · rw [List.getElem?_eq_none (by simp [byteRow_length]; omega), List.getElem?_eq_none (by rw [byteRow_length]; omega)]

theorem rd_from {w : World} {b o n : Nat} {d : Nat → Int} (hc : ∀ i, i < n → w.cell? ⟨b, o + i, none⟩ = some (.int .u8 (d i))) (k m : Nat) (hs : k + m ≤ n) : Rd .u8 w (some ⟨b, o + k, none⟩) m (fun j => d (k + j)) :=
  Or.inr ⟨b, o + k, rfl, fun i hi => by rw [Nat.add_assoc]; exact hc (k + i) (by omega)⟩

set_option maxHeartbeats 1000000 in
theorem l1Over_any (a a2 : Option Addr) (n c c2 s : Nat) (d f : Nat → Int) (w : World) (ha : Rd .u8 w a n d) (hf : Rd .u8 w a2 64 f) (hs : s * 64 + 64 ≤ n) (hn : n ≤ 1048576) (hnc : n ≤ c) (hcm : c ≤ 9223372036854775807) :
    Calls Try.prog 71 #[.slice a n c, .int .i64 s, .slice a2 64 c2] w fun e w' => RetOwn w e w' n (over d s f) := by
  rcases ha with h | ⟨b, o, rfl, hc⟩
  · omega
  have HC : Hid (∀ i, i < n → w.cell? ⟨b, o + i, none⟩ = some (.int .u8 (d i))) := hc
  have HF : Hid (Rd .u8 w a2 64 f) := hf
  have HR1 : Hid (∀ O, Rd .u8 (w.alloc O) (some ⟨b, o, none⟩) (s * 64) d) := fun O => Rd.below (w := w) (Or.inr ⟨b, o, rfl, fun i hi => hc i (by omega)⟩) (below_alloc _ _)
  have i1 : (s : Int) * 64 ≤ (c : Int) := by omega
  have i2 : (s : Int) * 64 + 64 ≤ (n : Int) := by omega
  clear hc hf
  go_enter Try.func71, Try.ntmps71
  go_wp2_with (at_builtin; refine wpList_append_rd rfl _ _ rfl w.heap.size (.slice (some ⟨w.heap.size, 0, none⟩) 0 0) 0 [] rfl (World.ownsRow_lit w #[] 0 (Nat.le_refl _) (Nat.zero_le _) rfl) (some ⟨b, o, none⟩) (s * 64) _ d rfl (HR1.out _) (by omega) (by simp) ?_)
  intro v1 w1 ho1 hg1
  have HB1 : Hid (Below w.heap.size w w1) := (below_alloc _ _).grown hg1 (by simp) (fun k e => by simp [Value.ownBlock] at e; omega)
  have ho1' : w1.ownsRow w.heap.size 5 1 v1 (s * 64) (byteRow d (s * 64)) := by simpa using ho1
  have HO1 : Hid (w1.ownsRow w.heap.size 5 1 v1 (s * 64) (byteRow d (s * 64))) := ho1'
  have z1 := HB1.out.size
  clear ho1 hg1 ho1'
  go_wp2_with (at_builtin; refine wpList_append_rd rfl _ _ rfl w.heap.size v1 (s * 64) (byteRow d (s * 64)) rfl HO1.out a2 64 c2 f rfl (HF.out.below HB1.out) (by omega) z1 ?_)
  intro v2 w2 ho2 hg2
  have HB2 : Hid (Below w.heap.size w w2) := HB1.out.grown hg2 z1 (fun k e => (HO1.out.lt k e).1)
  have HO2 : Hid (w2.ownsRow w.heap.size 5 1 v2 (s * 64 + 64) (byteRow d (s * 64) ++ byteRow f 64)) := ho2
  have z2 := HB2.out.size
  have HR2 : Hid (Rd .u8 w2 (some ⟨b, o + (s * 64 + 64), none⟩) (n - (s * 64 + 64)) (fun i => d (s * 64 + 64 + i))) := Rd.below (w := w) (rd_from HC.out (s * 64 + 64) (n - (s * 64 + 64)) (by omega)) HB2.out
  clear ho2 hg2
  have HFIN : Hid (∀ v3 w3, w3.ownsRow w.heap.size 5 1 v3 n (byteRow d (s * 64) ++ (byteRow f 64 ++ byteRow (fun i => d (s * 64 + 64 + i)) (n - (s * 64 + 64)))) → w2.grownBy w3 v2.ownBlock → RetOwn w (.returned v3) w3 n (over d s f)) := by
    intro v3 w3 ho3 hg3
    rw [← List.append_assoc, byteRow_over d f s n hs] at ho3
    obtain ⟨a', c', rfl, q1, q2, q3⟩ := ownB_ofRow ho3
    exact ⟨a', c', rfl, q1, HB2.out.grown hg3 z2 (fun k e => (HO2.out.lt k e).1), q2, q3⟩
  by_cases hcc : c = s * 64 + 64
  · have en : n = s * 64 + 64 := by omega
    have HL : Hid (byteRow d (s * 64) ++ byteRow f 64 = byteRow (over d s f) n) := by
      show _ = _
      rw [← byteRow_over d f s n hs, show n - (s * 64 + 64) = 0 by omega]
      simp [byteRow]
    subst hcc
    subst en
    clear HFIN HR2
    go_wp2_with (at_builtin; refine wpList_append_rd rfl _ _ rfl w.heap.size v2 (s * 64 + 64) (byteRow d (s * 64) ++ byteRow f 64) rfl HO2.out (some ⟨b, o, none⟩) (s * 64 + 64 - (s * 64 + 64)) _ (fun _ => 0) rfl (Or.inl (Nat.sub_self _)) (by omega) z2 ?_)
    intro v3 w3 ho3 hg3
    have ho3' : w3.ownsRow w.heap.size 5 1 v3 (s * 64 + 64) (byteRow d (s * 64) ++ byteRow f 64) := by simpa [byteRow] using ho3
    rw [HL.out] at ho3'
    obtain ⟨a', c', rfl, q1, q2, q3⟩ := ownB_ofRow ho3'
    have HE : Hid (RetOwn w (.returned (.slice a' (s * 64 + 64) c')) w3 (s * 64 + 64) (over d s f)) := ⟨a', c', rfl, q1, HB2.out.grown hg3 z2 (fun k e => (HO2.out.lt k e).1), q2, q3⟩
    clear ho3 hg3 ho3' q1
    go_wp2
    go_ret
    exact HE.out
  · have hcc' : (s : Int) * 64 + 64 < (c : Int) := by omega
    clear hcc
    go_wp2_with (at_builtin; refine wpList_append_rd rfl _ _ rfl w.heap.size v2 (s * 64 + 64) (byteRow d (s * 64) ++ byteRow f 64) rfl HO2.out (some ⟨b, o + (s * 64 + 64), none⟩) (n - (s * 64 + 64)) _ (fun i => d (s * 64 + 64 + i)) rfl HR2.out (by omega) z2 ?_)
    intro v3 w3 ho3 hg3
    have HE : Hid (RetOwn w (.returned v3) w3 n (over d s f)) := HFIN.out v3 w3 ho3 hg3
    clear ho3 hg3
    go_wp2
    go_ret
    exact HE.out
end Go.Proofs.Ytfbhlegkpmcfoaa
