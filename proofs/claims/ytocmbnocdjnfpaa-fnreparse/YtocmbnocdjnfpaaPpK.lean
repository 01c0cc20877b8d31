import Derived.Test.YtocmbnocdjnfpaaPpB
import Derived.Test.YtocmbnocdjnfpaaBldL
import Derived.Shelf.Strings.Builder1
import Derived.Maps.AppendAt
namespace Go.Proofs.Ytocmbnocdjnfpaa
open Go.RowKit Go.Deep
set_option linter.unusedVariables false
set_option maxRecDepth 100000

/-- A strings.Builder in its block, used or not, that holds these bytes. -/
def BdA (w : World) (B b : Nat) (l : List Int) : Prop := Go.Lib.IsBuilder 173 5 B b (bv l) w
theorem bd_size : (Try.prog.info? 173).map (·.size) = some 2 := by kernel_rfl

set_option maxHeartbeats 1000000 in
theorem copyUsed (b : Nat) (w : World) (h0 : w.cell? ⟨b, 0, none⟩ = some (.pointer (some ⟨b, 0, none⟩))) :
    Calls Try.prog 144 #[.pointer (some ⟨b, 0, none⟩)] w fun e w' => e = .returned (.tuple #[]) ∧ w' = w := by
  obtain ⟨j, hj, _⟩ := Option.map_eq_some_iff.1 bd_size
  go_enter Try.func144, Try.ntmps144
  go_wp2
  rw [Go.Lib.run_neq_ptr_same w _ (by kernel_rfl) hj]
  go_wp2
  go_end0
  exact ⟨rfl, rfl⟩
set_option maxHeartbeats 1000000 in
theorem copyFresh (b : Nat) (w : World) (h0 : w.cell? ⟨b, 0, none⟩ = some (.pointer none)) (hsh : w.shape? b = some (173, 2)) (hfz : w.frozen? ⟨b, 0, none⟩ = false) :
    Calls Try.prog 144 #[.pointer (some ⟨b, 0, none⟩)] w fun e w' => e = .returned (.tuple #[]) ∧ w' = w.setCell ⟨b, 0, none⟩ (.pointer (some ⟨b, 0, none⟩)) := by
  obtain ⟨j, hj, hjs⟩ := Option.map_eq_some_iff.1 bd_size
  go_enter Try.func144, Try.ntmps144
  go_wp2
  rw [Go.Lib.run_to_unsafe w ⟨b, 0, none⟩ (by kernel_rfl) (by kernel_rfl) hj (by rw [hjs]; decide) hsh (Nat.zero_lt_succ 1)]
  simp only [Result.andThen]
  rw [Oper.upon_value]
  go_wp2
  rw [run_callFunc_extern Try.func164 (by kernel_rfl) (by kernel_rfl) (by kernel_rfl) (e := Extern.AbiNoEscape.same) (by kernel_rfl)]
  rw [Go.Lib.run_noEscape]
  simp only [Result.andThen]
  rw [Oper.upon_value]
  go_wp2
  rw [Go.Lib.run_from_unsafe w ⟨b, 0, none⟩ (by kernel_rfl) (by kernel_rfl) hj hsh (by kernel_rfl)]
  simp only [Result.andThen]
  rw [Oper.upon_value]
  go_wp2
  go_end0
  exact ⟨rfl, rfl⟩

/-- copyCheck leaves a used builder with the same bytes. -/
theorem copyCheck_any (B b : Nat) (l : List Int) (w : World) (h : BdA w B b l) : Calls Try.prog 144 #[.pointer (some ⟨b, 0, none⟩)] w fun e w' => e = .returned (.tuple #[]) ∧ Go.Lib.BuilderAt 173 5 B b (.pointer (some ⟨b, 0, none⟩)) (bv l) w' ∧ Below B w w' ∧ w'.heap.size = w.heap.size ∧ w'.cell? ⟨b, 1, none⟩ = w.cell? ⟨b, 1, none⟩ ∧ ∀ k, k ≠ b → w'.heap[k]? = w.heap[k]? := by
  rcases h with h | h
  · refine (copyFresh b w h.cell0 h.shape h.frozen0).mono ?_
    rintro e w' ⟨rfl, rfl⟩
    exact ⟨rfl, h.used _, (Below.refl B w).setCell (p := ⟨b, 0, none⟩) h.1 _, World.size_setCell _ _ _, World.cell?_setCell_other _ _ _ _ (by simp), fun k hk => Below.heap_setCell _ _ _ _ hk⟩
  · refine (copyUsed b w h.cell0).mono ?_
    rintro e w' ⟨rfl, rfl⟩
    exact ⟨rfl, h, Below.refl B _, rfl, rfl, fun _ _ => rfl⟩

set_option maxHeartbeats 2000000 in
theorem writeByte_any (B b : Nat) (l : List Int) (c : Int) (w : World) (h : BdA w B b l) (hl : l.length ≤ 1048576) (hB : B ≤ w.heap.size) : Calls Try.prog 126 #[.pointer (some ⟨b, 0, none⟩), .int .u8 c] w fun e w' => e = .returned .nilIface ∧ BdA w' B b (l ++ [c]) ∧ Below B w w' ∧ (∀ g8, g8 < w.heap.size → g8 ≠ b → (∀ v, w.cell? ⟨b, 1, none⟩ = some v → v.ownBlock ≠ some g8) → w'.heap[g8]? = w.heap[g8]? ∧ ∀ v, w'.cell? ⟨b, 1, none⟩ = some v → v.ownBlock ≠ some g8) := by
  have HC : Hid (Calls Try.prog 144 #[.pointer (some ⟨b, 0, none⟩)] w fun e w' => e = .returned (.tuple #[]) ∧ Go.Lib.BuilderAt 173 5 B b (.pointer (some ⟨b, 0, none⟩)) (bv l) w' ∧ Below B w w' ∧ w'.heap.size = w.heap.size ∧ w'.cell? ⟨b, 1, none⟩ = w.cell? ⟨b, 1, none⟩ ∧ ∀ k, k ≠ b → w'.heap[k]? = w.heap[k]?) := copyCheck_any B b l w h
  obtain ⟨i0, hi, hz0, hz1, hz2⟩ := info_parts infoB
  have HI : Hid (Try.prog.info? 5 = some i0 ∧ i0.zero = some (.int .u8 0) ∧ i0.size = 1 ∧ i0.bytes = 1) := ⟨hi, hz0, hz1, hz2⟩
  clear h hi hz0 hz1 hz2
  go_enter Try.func126, Try.ntmps126
  go_wp2_with fail
  refine HC.out.mono ?_
  rintro e w1 ⟨rfl, h1, hb1, hs1, hc1, hk1⟩
  obtain ⟨hBb, v, hbk, hown, hne⟩ := h1
  have HO : Hid (w1.heap.size = w.heap.size ∧ w1.cell? ⟨b, 1, none⟩ = w.cell? ⟨b, 1, none⟩ ∧ ∀ k, k ≠ b → w1.heap[k]? = w.heap[k]?) := ⟨hs1, hc1, hk1⟩
  clear hc1 hk1
  have c1 : w1.cell? ⟨b, 1, none⟩ = some v := by rw [Go.Lib.cell_of_heap hbk]; rfl
  have HW : Hid (B ≤ b ∧ w1.heap[b]? = some (.cells #[.pointer (some ⟨b, 0, none⟩), v] 173 (0, 0)) ∧ w1.ownsRow B 5 1 v (bv l).length (bv l) ∧ v.ownBlock ≠ some b ∧ Below B w w1 ∧ B ≤ w1.heap.size) := ⟨hBb, hbk, hown, hne, hb1, by omega⟩
  clear hBb hbk hown hne hb1
  obtain ⟨n, hn⟩ : ∃ n, n = (bv l).length := ⟨_, rfl⟩
  rw [← hn] at HW
  have hn1 : n ≤ 1048576 := by rw [hn, bv_length]; exact hl
  obtain ⟨av, cv, hv⟩ : ∃ av cv, v = .slice av n cv := by
    rcases HW.out.2.2.1.2 with ⟨q, q0⟩ | ⟨g, cap, cur, q, _⟩
    · exact ⟨none, 0, by rw [q, q0]⟩
    · exact ⟨_, cap, q⟩
  have HN : Hid (n = (bv l).length) := hn
  have hbz : B ≤ w1.heap.size := HW.out.2.2.2.2.2
  have hbl : b < w1.heap.size := World.block_lt_of_cell? _ _ c1
  subst hv
  clear hn hs1
  go_wp2_with (at_builtin; refine wpList_append_own_at _ rfl _ _ 33 rfl B 5 i0 (.int .u8 0) 1 1 Try.underlying33 HI.out.1 HI.out.2.1 HI.out.2.2.1 HI.out.2.2.2 rfl (by decide) (.slice av n cv) n (bv l) rfl (HW.out.2.2.1.alloc _) ⟨w1.heap.size, 0, none⟩ 1 1 [.int .u8 c] rfl rfl (new_cells _ [.int .u8 c] _) (fun u hu => by simp at hu; subst hu; rfl) (by unfold maxLen; omega) (by omega) (by simp; omega) ?_)
  intro v' w2 ho hg _ hat
  have hk2 : w2.heap[b]? = some (.cells #[.pointer (some ⟨b, 0, none⟩), .slice av n cv] 173 (0, 0)) := by
    rw [hg.block b (by simp; omega) (fun q => HW.out.2.2.2.1 q.symm), (below_alloc w1 _).block b hbl]
    exact HW.out.2.1
  have d1 : w2.cell? ⟨b, 1, none⟩ = some (.slice av n cv) := by rw [Go.Lib.cell_of_heap hk2]; rfl
  have f1 : w2.frozen? ⟨b, 1, none⟩ = false := by simp [World.frozen?, hk2]
  obtain ⟨a', c', hv'⟩ : ∃ a' c', v' = .slice a' (n + 1) c' := by
    rcases ho.2 with ⟨_, q0⟩ | ⟨g, cap, cur, q, _⟩
    · omega
    · exact ⟨_, cap, q⟩
  subst hv'
  have HX : Hid (BdA (w2.setCell ⟨b, 1, none⟩ (.slice a' (n + 1) c')) B b (l ++ [c]) ∧ Below B w (w2.setCell ⟨b, 1, none⟩ (.slice a' (n + 1) c')) ∧ (∀ g8, g8 < w.heap.size → g8 ≠ b → (∀ v, w.cell? ⟨b, 1, none⟩ = some v → v.ownBlock ≠ some g8) → (w2.setCell ⟨b, 1, none⟩ (.slice a' (n + 1) c')).heap[g8]? = w.heap[g8]? ∧ ∀ v, (w2.setCell ⟨b, 1, none⟩ (.slice a' (n + 1) c')).cell? ⟨b, 1, none⟩ = some v → v.ownBlock ≠ some g8)) := by
    refine ⟨.inr ?_, ?_, fun g8 q1 q2 q3 => ?_⟩
    · have e : (bv l ++ bv [c]).length = n + 1 := by rw [List.length_append, ← HN.out]; rfl
      have ho2 : w2.ownsRow B 5 1 (.slice a' (n + 1) c') (bv l ++ bv [c]).length (bv l ++ bv [c]) := by
        rw [e]
        exact ho
      rw [bv_app]
      exact Go.Lib.BuilderAt.put (T := 173) (e := 5) HW.out.1 hk2 (bs' := bv l ++ bv [c]) ho2 (by decide)
    · exact ((HW.out.2.2.2.2.1.alloc hbz _).grown hg (by simp; omega) (fun k e => (HW.out.2.2.1.lt k e).1)).setCell (p := ⟨b, 1, none⟩) HW.out.1 _
    · have q4 : (Value.slice av n cv).ownBlock ≠ some g8 := q3 _ (by rw [← HO.out.2.1]; exact c1)
      refine ⟨?_, fun v hv => ?_⟩
      · rw [Below.heap_setCell _ _ _ _ q2, hg.block g8 (by simp; have := HO.out.1; omega) (fun q => q4 q.symm), (below_alloc w1 _).block g8 (by have := HO.out.1; omega)]
        exact HO.out.2.2 g8 q2
      · rw [World.cell?_setCell_same _ _ _ d1] at hv
        injection hv with hv
        subst hv
        rcases hat with hat | hat
        · rw [hat]; exact q4
        · rw [hat]
          intro q
          injection q with q
          have := HO.out.1
          (try simp at q)
          omega
  clear ho hg hat hk2
  go_wp2
  go_ret
  exact ⟨rfl, HX.out⟩
set_option maxHeartbeats 2000000 in
theorem write_any (B b : Nat) (l : List Int) (ad : Addr) (m cp : Nat) (y : List Int) (w : World) (h : BdA w B b l) (hm : m = y.length) (hm0 : 0 < m) (hm1 : m ≤ 1000) (hp : ad.block ≠ b) (hy : ∀ j u, (bv y)[j]? = some u → w.cell? (ad.add j) = some u) (hl : l.length ≤ 1048576) (hB : B ≤ w.heap.size) : Calls Try.prog 127 #[.pointer (some ⟨b, 0, none⟩), .slice (some ad) m cp] w fun e w' => e = .returned (.tuple #[.int .i64 (m : Int), .nilIface]) ∧ BdA w' B b (l ++ y) ∧ Below B w w' ∧ (∀ g8, g8 < w.heap.size → g8 ≠ b → (∀ v, w.cell? ⟨b, 1, none⟩ = some v → v.ownBlock ≠ some g8) → w'.heap[g8]? = w.heap[g8]? ∧ ∀ v, w'.cell? ⟨b, 1, none⟩ = some v → v.ownBlock ≠ some g8) := by
  have HC : Hid (Calls Try.prog 144 #[.pointer (some ⟨b, 0, none⟩)] w fun e w' => e = .returned (.tuple #[]) ∧ Go.Lib.BuilderAt 173 5 B b (.pointer (some ⟨b, 0, none⟩)) (bv l) w' ∧ Below B w w' ∧ w'.heap.size = w.heap.size ∧ w'.cell? ⟨b, 1, none⟩ = w.cell? ⟨b, 1, none⟩ ∧ ∀ k, k ≠ b → w'.heap[k]? = w.heap[k]?) := copyCheck_any B b l w h
  obtain ⟨i0, hi, hz0, hz1, hz2⟩ := info_parts infoB
  have HI : Hid (Try.prog.info? 5 = some i0 ∧ i0.zero = some (.int .u8 0) ∧ i0.size = 1 ∧ i0.bytes = 1) := ⟨hi, hz0, hz1, hz2⟩
  clear h hi hz0 hz1 hz2
  go_enter Try.func127, Try.ntmps127
  go_wp2_with fail
  refine HC.out.mono ?_
  rintro e w1 ⟨rfl, h1, hb1, hs1, hc1, hk1⟩
  have HY : Hid (∀ j u, (bv y)[j]? = some u → w1.cell? (ad.add j) = some u) := fun j u hj => by
    have q := hy j u hj
    have e : (ad.add j).block = ad.block := by unfold Addr.add; split <;> rfl
    unfold World.cell? at q ⊢
    rw [e] at q ⊢
    rw [hk1 _ hp]
    exact q
  have HM : Hid (m = y.length) := hm
  clear hy hm
  obtain ⟨hBb, v, hbk, hown, hne⟩ := h1
  have HO : Hid (w1.heap.size = w.heap.size ∧ w1.cell? ⟨b, 1, none⟩ = w.cell? ⟨b, 1, none⟩ ∧ ∀ k, k ≠ b → w1.heap[k]? = w.heap[k]?) := ⟨hs1, hc1, hk1⟩
  clear hc1 hk1
  have c1 : w1.cell? ⟨b, 1, none⟩ = some v := by rw [Go.Lib.cell_of_heap hbk]; rfl
  have HW : Hid (B ≤ b ∧ w1.heap[b]? = some (.cells #[.pointer (some ⟨b, 0, none⟩), v] 173 (0, 0)) ∧ w1.ownsRow B 5 1 v (bv l).length (bv l) ∧ v.ownBlock ≠ some b ∧ Below B w w1 ∧ B ≤ w1.heap.size) := ⟨hBb, hbk, hown, hne, hb1, by omega⟩
  clear hBb hbk hown hne hb1
  obtain ⟨n, hn⟩ : ∃ n, n = (bv l).length := ⟨_, rfl⟩
  rw [← hn] at HW
  have hn1 : n ≤ 1048576 := by rw [hn, bv_length]; exact hl
  obtain ⟨av, cv, hv⟩ : ∃ av cv, v = .slice av n cv := by
    rcases HW.out.2.2.1.2 with ⟨q, q0⟩ | ⟨g, cap, cur, q, _⟩
    · exact ⟨none, 0, by rw [q, q0]⟩
    · exact ⟨_, cap, q⟩
  have HN : Hid (n = (bv l).length) := hn
  have hbz : B ≤ w1.heap.size := HW.out.2.2.2.2.2
  have hbl : b < w1.heap.size := World.block_lt_of_cell? _ _ c1
  subst hv
  clear hn hs1
  go_wp2_with (at_builtin; refine wpList_append_own_at _ rfl _ _ 33 rfl B 5 i0 (.int .u8 0) 1 1 Try.underlying33 HI.out.1 HI.out.2.1 HI.out.2.2.1 HI.out.2.2.2 rfl (by decide) (.slice av n cv) n (bv l) rfl HW.out.2.2.1 ad m cp (bv y) rfl (by rw [bv_length, ← HM.out]; omega) HY.out (bv_one y) (by unfold maxLen; omega) (by omega) (by omega) ?_)
  intro v' w2 ho hg _ hat
  have hk2 : w2.heap[b]? = some (.cells #[.pointer (some ⟨b, 0, none⟩), .slice av n cv] 173 (0, 0)) := by
    rw [hg.block b hbl (fun q => HW.out.2.2.2.1 q.symm)]
    exact HW.out.2.1
  have d1 : w2.cell? ⟨b, 1, none⟩ = some (.slice av n cv) := by rw [Go.Lib.cell_of_heap hk2]; rfl
  have f1 : w2.frozen? ⟨b, 1, none⟩ = false := by simp [World.frozen?, hk2]
  obtain ⟨a', c', hv'⟩ : ∃ a' c', v' = .slice a' (n + m) c' := by
    rcases ho.2 with ⟨_, q0⟩ | ⟨g, cap, cur, q, _⟩
    · omega
    · exact ⟨_, cap, q⟩
  subst hv'
  have HX : Hid (BdA (w2.setCell ⟨b, 1, none⟩ (.slice a' (n + m) c')) B b (l ++ y) ∧ Below B w (w2.setCell ⟨b, 1, none⟩ (.slice a' (n + m) c')) ∧ (∀ g8, g8 < w.heap.size → g8 ≠ b → (∀ v, w.cell? ⟨b, 1, none⟩ = some v → v.ownBlock ≠ some g8) → (w2.setCell ⟨b, 1, none⟩ (.slice a' (n + m) c')).heap[g8]? = w.heap[g8]? ∧ ∀ v, (w2.setCell ⟨b, 1, none⟩ (.slice a' (n + m) c')).cell? ⟨b, 1, none⟩ = some v → v.ownBlock ≠ some g8)) := by
    refine ⟨.inr ?_, ?_, fun g8 q1 q2 q3 => ?_⟩
    · have e : (bv l ++ bv y).length = n + m := by rw [List.length_append, ← HN.out, bv_length, HM.out]
      have ho2 : w2.ownsRow B 5 1 (.slice a' (n + m) c') (bv l ++ bv y).length (bv l ++ bv y) := by
        rw [e]
        exact ho
      rw [bv_app]
      exact Go.Lib.BuilderAt.put (T := 173) (e := 5) HW.out.1 hk2 (bs' := bv l ++ bv y) ho2 (by decide)
    · exact (HW.out.2.2.2.2.1.grown hg hbz (fun k e => (HW.out.2.2.1.lt k e).1)).setCell (p := ⟨b, 1, none⟩) HW.out.1 _
    · have q4 : (Value.slice av n cv).ownBlock ≠ some g8 := q3 _ (by rw [← HO.out.2.1]; exact c1)
      refine ⟨?_, fun v hv => ?_⟩
      · rw [Below.heap_setCell _ _ _ _ q2, hg.block g8 (by have := HO.out.1; omega) (fun q => q4 q.symm)]
        exact HO.out.2.2 g8 q2
      · rw [World.cell?_setCell_same _ _ _ d1] at hv
        injection hv with hv
        subst hv
        rcases hat with hat | hat
        · rw [hat]; exact q4
        · rw [hat]
          intro q
          injection q with q
          have := HO.out.1
          omega
  clear ho hg hat hk2
  go_wp2
  exact bodyPost_ret (v := .tuple #[.int .i64 (m : Int), .nilIface]) (by simp [results, Try.results127, go_sem]) rfl ⟨rfl, HX.out⟩
theorem bdExtra : Builder.Extra Try.prog lays169_ren where
  sizeBuilder := by kernel_rfl
  liesBuilder := by kernel_rfl
  t5 := by kernel_rfl
  a5 := fun _ => by kernel_rfl
  z5 := fun _ => by kernel_rfl
  v5 := fun _ => by kernel_rfl
  infoByte := by kernel_rfl
  cellsByte := by kernel_rfl
  sizeByte := by kernel_rfl
  neB5 := by decide
/-- Every number is a byte's. -/
def Byt (q : List Int) : Prop := ∀ x, x ∈ q → 0 ≤ x ∧ x < 256
/-- The string of a text. -/
def strT (q : List Int) : ByteArray := ⟨(q.map (fun x => UInt8.ofNat x.toNat)).toArray⟩
theorem byt_cells {q : List Int} (h : Byt q) : bv q = Go.Lib.byteCells (q.map (fun x => UInt8.ofNat x.toNat)) := by
  unfold bv Go.Lib.byteCells
  rw [List.map_map]
  refine List.map_congr_left (fun x hx => ?_)
  obtain ⟨h0, h1⟩ := h x hx
  have : (UInt8.ofNat x.toNat).toNat = x.toNat := by rw [UInt8.toNat_ofNat']; omega
  simp only [Function.comp, this]
  congr 1
  omega
theorem bl_strT {q : List Int} (h : Byt q) : bl (strT q) = q := by
  unfold bl strT
  simp only [List.map_map]
  conv => rhs; rw [← List.map_id q]
  refine List.map_congr_left (fun x hx => ?_)
  obtain ⟨h0, h1⟩ := h x hx
  have : (UInt8.ofNat x.toNat).toNat = x.toNat := by rw [UInt8.toNat_ofNat']; omega
  simp only [Function.comp, this, id]
  omega
theorem string_any (B b : Nat) (l : List Int) (w : World) (h : BdA w B b l) (hl : Byt l) (h0 : l ≠ []) : Calls Try.prog 129 #[.pointer (some ⟨b, 0, none⟩)] w fun e w' => e = .returned (.string (strT l)) ∧ Below B w w' := by
  unfold BdA at h
  rw [byt_cells hl] at h
  exact Any.Builder_String lays169 bdExtra B b (l.map (fun x : Int => UInt8.ofNat x.toNat)) w h (by simpa using h0)
end Go.Proofs.Ytocmbnocdjnfpaa
