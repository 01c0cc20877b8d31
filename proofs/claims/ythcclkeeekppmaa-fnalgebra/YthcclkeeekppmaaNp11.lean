import Derived.Test.YthcclkeeekppmaaNp7
import Derived.Test.YthcclkeeekppmaaNp8
import Derived.Test.YthcclkeeekppmaaNp9
import Derived.Test.YthcclkeeekppmaaNp10
import Derived.Test.YthcclkeeekppmaaNm1
namespace Go.Proofs.Ythcclkeeekppmaa
open Go.RowKit Go.Deep Go.Maps
set_option linter.unusedVariables false
set_option maxRecDepth 100000
set_option linter.unusedSimpArgs false

/-- The texts at the ends of facts. -/
def UL (fs : List Fc) : List ByteArray := fs.flatMap (fun f => [f.s, f.o])
theorem UL_length (fs : List Fc) : (UL fs).length = 2 * fs.length := by
  induction fs with
  | nil => rfl
  | cons f fs ih => simp [UL] at ih ⊢; omega
theorem UL_mem {fs : List Fc} {f : Fc} (h : f ∈ fs) : f.s ∈ UL fs ∧ f.o ∈ UL fs := by
  unfold UL
  exact ⟨List.mem_flatMap.2 ⟨f, h, by simp⟩, List.mem_flatMap.2 ⟨f, h, by simp⟩⟩
/-- A set of ends of facts. -/
def SSU (w : World) (B : Nat) (fs : List Fc) (P : ByteArray → Prop) : Prop := SSet w B 600 P ∧ ∀ x, P x → x ∈ UL fs
theorem SSU.below {w w' : World} {B : Nat} {fs : List Fc} {P : ByteArray → Prop} (h : SSU w B fs P) (hb : Below w.heap.size w w') : SSU w' B fs P := ⟨h.1.below hb, h.2⟩
theorem SSU.congr {w : World} {B : Nat} {fs : List Fc} {P P' : ByteArray → Prop} (h : SSU w B fs P) (e : ∀ x, P x ↔ P' x) : SSU w B fs P' := ⟨h.1.congr e (Nat.le_refl _), fun x q => h.2 x ((e x).2 q)⟩
def RetU (w : World) (fs : List Fc) (P : ByteArray → Prop) (e : Ending) (w' : World) : Prop := ∃ B, e = .returned (.map (some B)) ∧ SSU w' B fs P ∧ Below w.heap.size w w'
theorem nodeM_in {k : Int} {s t : ByteArray} {fs : List Fc} {p : Fc → Bool} {A Q : ByteArray → Prop} (hk : 1 ≤ k ∧ k ≤ 9) (hA : 1 ≤ arOf k → ∀ x, A x → x ∈ UL fs) (hQ : arOf k = 2 → ∀ x, Q x → x ∈ UL fs) (x : ByteArray) (h : nodeM k s t (fs.filter p) A Q x) : x ∈ UL fs := by
  have h9 : k = 1 ∨ k = 2 ∨ k = 3 ∨ k = 4 ∨ k = 5 ∨ k = 6 ∨ k = 7 ∨ k = 8 ∨ k = 9 := by omega
  rcases h9 with rfl | rfl | rfl | rfl | rfl | rfl | rfl | rfl | rfl
  · obtain ⟨f, hf, h⟩ := (show ∃ f, f ∈ fs.filter p ∧ (x = f.s ∨ x = f.o) from h)
    have := UL_mem (List.mem_filter.1 hf).1
    rcases h with rfl | rfl
    · exact this.1
    · exact this.2
  · obtain ⟨f, hf, h, rfl⟩ := (show ∃ f, f ∈ fs.filter p ∧ (f.s = s ∨ f.o = s) ∧ x = s from h)
    have := UL_mem (List.mem_filter.1 hf).1
    rcases h with h | h
    · rw [← h]; exact this.1
    · rw [← h]; exact this.2
  · obtain ⟨f, hf, _, _, rfl⟩ := (show ∃ f, f ∈ fs.filter p ∧ f.p = s ∧ A f.s ∧ x = f.o from h)
    exact (UL_mem (List.mem_filter.1 hf).1).2
  · obtain ⟨f, hf, _, _, rfl⟩ := (show ∃ f, f ∈ fs.filter p ∧ f.p = s ∧ A f.o ∧ x = f.s from h)
    exact (UL_mem (List.mem_filter.1 hf).1).1
  · obtain ⟨f, hf, _, _, _, rfl⟩ := (show ∃ f, f ∈ fs.filter p ∧ f.p = s ∧ f.o = t ∧ A f.s ∧ x = f.s from h)
    exact (UL_mem (List.mem_filter.1 hf).1).1
  · exact hA (by decide) x (show A x ∧ Q x from h).1
  · rcases (show A x ∨ Q x from h) with h | h
    · exact hA (by decide) x h
    · exact hQ (by decide) x h
  · exact hA (by decide) x (show A x ∧ ¬ Q x from h).1
  · exact hA (by decide) x (show A x from h)
theorem RetS.u {w w0 w' : World} {N : Nat} {fs : List Fc} {P : ByteArray → Prop} {e : Ending} (h : RetS w N P e w') (hb : Below w0.heap.size w0 w) (hl : fs.length ≤ 300) (hP : ∀ x, P x → x ∈ UL fs) : RetU w0 fs P e w' := by
  obtain ⟨B, rfl, _, hs, hb2⟩ := h
  refine ⟨B, rfl, ⟨(hs.fit (UL fs) hP).congr (fun _ => Iff.rfl) (by rw [UL_length]; omega), hP⟩, hb.trans (hb2.mono hb.size)⟩
theorem RetS.drew {w w' : World} {N : Nat} {P : ByteArray → Prop} {e : Ending} (h : RetS w.drew N P e w') : Below w.heap.size w w' := by
  obtain ⟨B, _, _, _, hb⟩ := h
  exact ((Below.refl _ _).drew).trans hb
set_option maxHeartbeats 2000000 in
theorem meaning_1 (s t : ByteArray) (bd : Bool) (lb : ByteArray) (aa : Option Addr) (oc cc : Nat) (hh : Int) (fa : Option Addr) (fc : Nat) (fs : List Fc) (oa : Option Addr) (on ocp : Nat) (w : World) (hF : RdF w fa fs) (hl : fs.length ≤ 300) (hok : FcOk fs) :
    Calls Try.prog 29 #[.agg #[.int .i64 1, .string s, .string t, .bool bd, .string lb, .slice aa oc cc, .int .i64 hh], .slice fa fs.length fc, .slice oa on ocp] w (RetU w fs (nodeM 1 s t (fs.filter (cntB bd lb)) (fun _ => False) (fun _ => False))) := by
  have hlt : w.heap.size < (w.alloc (.cells #[.int .i64 1, .string s, .string t, .bool bd, .string lb, .slice aa oc cc, .int .i64 hh] 65)).heap.size := by simp
  obtain ⟨W1, hW1⟩ : ∃ W1, W1 = (w.alloc (.cells #[.int .i64 1, .string s, .string t, .bool bd, .string lb, .slice aa oc cc, .int .i64 hh] 65)) := ⟨_, rfl⟩
  have hcl : W1.cell? ⟨w.heap.size, 0, none⟩ = some (.int .i64 1) ∧ W1.cell? ⟨w.heap.size, 1, none⟩ = some (.string s) ∧ W1.cell? ⟨w.heap.size, 2, none⟩ = some (.string t) ∧ W1.cell? ⟨w.heap.size, 3, none⟩ = some (.bool bd) ∧ W1.cell? ⟨w.heap.size, 4, none⟩ = some (.string lb) ∧ W1.cell? ⟨w.heap.size, 5, none⟩ = some (.slice aa oc cc) ∧ W1.cell? ⟨w.heap.size, 6, none⟩ = some (.int .i64 hh) := by
    have e := blk_alloc_new w (.cells #[.int .i64 1, .string s, .string t, .bool bd, .string lb, .slice aa oc cc, .int .i64 hh] 65)
    rw [← hW1] at e
    refine ⟨?_, ?_, ?_, ?_, ?_, ?_, ?_⟩ <;> simp [World.cell?, e]
  have hb1 : Below w.heap.size w W1 := by rw [hW1]; exact below_alloc _ _
  have HB : Hid (Below w.heap.size w W1) := hb1
  rw [← hW1] at hlt
  obtain ⟨n, hn⟩ : ∃ n, n = fs.length := ⟨_, rfl⟩
  have HC : Hid (Calls Try.prog 64 #[.agg #[.int .i64 1, .string s, .string t, .bool bd, .string lb, .slice aa oc cc, .int .i64 hh], .slice fa n fc] W1 (RetU w fs (nodeM 1 s t (fs.filter (cntB bd lb)) (fun _ => False) (fun _ => False)))) := by
    rw [hn]
    exact (vertices_1 s t bd lb aa oc cc hh fa fc fs W1 (hF.below hb1) hl hok).mono fun e w' hr => hr.u hb1 hl (nodeM_in (by omega) (fun q => absurd q (by decide)) (fun q => absurd q (by decide)))
  rw [← hn]
  clear hn
  obtain ⟨x0, x1, x2, x3, x4, x5, x6⟩ := hcl
  clear hF hok hb1
  go_enter Try.func29, Try.ntmps29
  go_upto_region 1 with fail
  rw [← hW1]
  clear hW1
  go_wp2_with fail
  refine HC.out.mono ?_
  rintro e w2 ⟨B, rfl, hs, hb⟩
  have HF : Hid (RetU w fs (nodeM 1 s t (fs.filter (cntB bd lb)) (fun _ => False) (fun _ => False)) (.returned (.map (some B))) w2) := ⟨B, rfl, hs, hb⟩
  clear hs hb
  go_wp2
  go_ret
  exact HF.out
set_option maxHeartbeats 2000000 in
theorem meaning_2 (s t : ByteArray) (bd : Bool) (lb : ByteArray) (aa : Option Addr) (oc cc : Nat) (hh : Int) (fa : Option Addr) (fc : Nat) (fs : List Fc) (oa : Option Addr) (on ocp : Nat) (w : World) (hF : RdF w fa fs) (hl : fs.length ≤ 300) (hok : FcOk fs) :
    Calls Try.prog 29 #[.agg #[.int .i64 2, .string s, .string t, .bool bd, .string lb, .slice aa oc cc, .int .i64 hh], .slice fa fs.length fc, .slice oa on ocp] w (RetU w fs (nodeM 2 s t (fs.filter (cntB bd lb)) (fun _ => False) (fun _ => False))) := by
  have hlt : w.heap.size < (w.alloc (.cells #[.int .i64 2, .string s, .string t, .bool bd, .string lb, .slice aa oc cc, .int .i64 hh] 65)).heap.size := by simp
  obtain ⟨W1, hW1⟩ : ∃ W1, W1 = (w.alloc (.cells #[.int .i64 2, .string s, .string t, .bool bd, .string lb, .slice aa oc cc, .int .i64 hh] 65)) := ⟨_, rfl⟩
  have hcl : W1.cell? ⟨w.heap.size, 0, none⟩ = some (.int .i64 2) ∧ W1.cell? ⟨w.heap.size, 1, none⟩ = some (.string s) ∧ W1.cell? ⟨w.heap.size, 2, none⟩ = some (.string t) ∧ W1.cell? ⟨w.heap.size, 3, none⟩ = some (.bool bd) ∧ W1.cell? ⟨w.heap.size, 4, none⟩ = some (.string lb) ∧ W1.cell? ⟨w.heap.size, 5, none⟩ = some (.slice aa oc cc) ∧ W1.cell? ⟨w.heap.size, 6, none⟩ = some (.int .i64 hh) := by
    have e := blk_alloc_new w (.cells #[.int .i64 2, .string s, .string t, .bool bd, .string lb, .slice aa oc cc, .int .i64 hh] 65)
    rw [← hW1] at e
    refine ⟨?_, ?_, ?_, ?_, ?_, ?_, ?_⟩ <;> simp [World.cell?, e]
  have hb1 : Below w.heap.size w W1 := by rw [hW1]; exact below_alloc _ _
  have HB : Hid (Below w.heap.size w W1) := hb1
  rw [← hW1] at hlt
  obtain ⟨n, hn⟩ : ∃ n, n = fs.length := ⟨_, rfl⟩
  have HC : Hid (Calls Try.prog 64 #[.agg #[.int .i64 2, .string s, .string t, .bool bd, .string lb, .slice aa oc cc, .int .i64 hh], .slice fa n fc] W1 (RetU w fs (nodeM 2 s t (fs.filter (cntB bd lb)) (fun _ => False) (fun _ => False)))) := by
    rw [hn]
    exact (vertices_2 s t bd lb aa oc cc hh fa fc fs W1 (hF.below hb1) hl hok).mono fun e w' hr => hr.u hb1 hl (nodeM_in (by omega) (fun q => absurd q (by decide)) (fun q => absurd q (by decide)))
  rw [← hn]
  clear hn
  obtain ⟨x0, x1, x2, x3, x4, x5, x6⟩ := hcl
  clear hF hok hb1
  go_enter Try.func29, Try.ntmps29
  go_upto_region 1 with fail
  rw [← hW1]
  clear hW1
  go_wp2_with fail
  refine HC.out.mono ?_
  rintro e w2 ⟨B, rfl, hs, hb⟩
  have HF : Hid (RetU w fs (nodeM 2 s t (fs.filter (cntB bd lb)) (fun _ => False) (fun _ => False)) (.returned (.map (some B))) w2) := ⟨B, rfl, hs, hb⟩
  clear hs hb
  go_wp2
  go_ret
  exact HF.out
set_option maxHeartbeats 2000000 in
theorem meaning_3 (s t : ByteArray) (bd : Bool) (lb : ByteArray) (aa : Option Addr) (oc cc : Nat) (hh : Int) (fa : Option Addr) (fc : Nat) (fs : List Fc) (go ocp : Nat) (B0 : Nat) (A : ByteArray → Prop) (w : World) (hF : RdF w fa fs) (hl : fs.length ≤ 300) (hok : FcOk fs) (hc0 : w.cell? ⟨go, 0, none⟩ = some (.map (some B0))) (h0 : SSU w B0 fs A) :
    Calls Try.prog 29 #[.agg #[.int .i64 3, .string s, .string t, .bool bd, .string lb, .slice aa oc cc, .int .i64 hh], .slice fa fs.length fc, .slice (some ⟨go, 0, none⟩) 1 ocp] w (RetU w fs (nodeM 3 s t (fs.filter (cntB bd lb)) A (fun _ => False))) := by
  have hlt : w.heap.size < (w.alloc (.cells #[.int .i64 3, .string s, .string t, .bool bd, .string lb, .slice aa oc cc, .int .i64 hh] 65)).heap.size := by simp
  obtain ⟨W1, hW1⟩ : ∃ W1, W1 = (w.alloc (.cells #[.int .i64 3, .string s, .string t, .bool bd, .string lb, .slice aa oc cc, .int .i64 hh] 65)) := ⟨_, rfl⟩
  have hcl : W1.cell? ⟨w.heap.size, 0, none⟩ = some (.int .i64 3) ∧ W1.cell? ⟨w.heap.size, 1, none⟩ = some (.string s) ∧ W1.cell? ⟨w.heap.size, 2, none⟩ = some (.string t) ∧ W1.cell? ⟨w.heap.size, 3, none⟩ = some (.bool bd) ∧ W1.cell? ⟨w.heap.size, 4, none⟩ = some (.string lb) ∧ W1.cell? ⟨w.heap.size, 5, none⟩ = some (.slice aa oc cc) ∧ W1.cell? ⟨w.heap.size, 6, none⟩ = some (.int .i64 hh) := by
    have e := blk_alloc_new w (.cells #[.int .i64 3, .string s, .string t, .bool bd, .string lb, .slice aa oc cc, .int .i64 hh] 65)
    rw [← hW1] at e
    refine ⟨?_, ?_, ?_, ?_, ?_, ?_, ?_⟩ <;> simp [World.cell?, e]
  have hb1 : Below w.heap.size w W1 := by rw [hW1]; exact below_alloc _ _
  have HB : Hid (Below w.heap.size w W1) := hb1
  rw [← hW1] at hlt
  have hbd : Below w.heap.size w W1.drew := hb1.drew
  obtain ⟨n, hn⟩ : ∃ n, n = fs.length := ⟨_, rfl⟩
  have JC : Hid (Calls Try.prog 66 #[.agg #[.int .i64 3, .string s, .string t, .bool bd, .string lb, .slice aa oc cc, .int .i64 hh], .slice fa n fc, .map (some B0)] W1.drew (fun e w' => RetU w fs (nodeM 3 s t (fs.filter (cntB bd lb)) A (fun _ => False)) e w' ∧ Below W1.heap.size W1 w')) := by
    rw [hn]
    exact (reached_3 s t bd lb aa oc cc hh fa fc fs B0 600 A W1.drew (hF.below hbd) hl hok (h0.1.below hbd)).mono fun e w' hr => ⟨hr.u hbd hl (nodeM_in (by omega) (fun _ => h0.2) (fun q => absurd q (by decide))), hr.drew⟩
  rw [← hn]
  clear hn
  have y0 : W1.cell? ⟨go, 0, none⟩ = some (.map (some B0)) := (hb1.cell (World.block_lt_of_cell? _ _ hc0)).trans hc0

  obtain ⟨x0, x1, x2, x3, x4, x5, x6⟩ := hcl
  have HX : Hid (∀ w', Below W1.heap.size W1 w' → w'.cell? ⟨w.heap.size, 0, none⟩ = some (.int .i64 3) ∧ w'.cell? ⟨w.heap.size, 1, none⟩ = some (.string s) ∧ w'.cell? ⟨w.heap.size, 2, none⟩ = some (.string t) ∧ w'.cell? ⟨w.heap.size, 3, none⟩ = some (.bool bd) ∧ w'.cell? ⟨w.heap.size, 4, none⟩ = some (.string lb) ∧ w'.cell? ⟨w.heap.size, 5, none⟩ = some (.slice aa oc cc) ∧ w'.cell? ⟨w.heap.size, 6, none⟩ = some (.int .i64 hh) ∧ w'.cell? ⟨go, 0, none⟩ = some (.map (some B0))) := fun w' hw => by
    have c : ∀ (b o : Nat) (v : Value), W1.cell? ⟨b, o, none⟩ = some v → w'.cell? ⟨b, o, none⟩ = some v := fun b o v q => (hw.cell (World.block_lt_of_cell? _ _ q)).trans q
    exact ⟨c _ _ _ x0, c _ _ _ x1, c _ _ _ x2, c _ _ _ x3, c _ _ _ x4, c _ _ _ x5, c _ _ _ x6, c _ _ _ y0⟩
  clear hF hok hb1 h0 hc0 hbd
  go_enter Try.func29, Try.ntmps29
  go_upto_region 1 with fail
  rw [← hW1]
  clear hW1
  go_upto_region 11 with fail
  have J0 : Hid (Below W1.heap.size W1 W1.drew) := (Below.refl _ _).drew
  go_region_held3 (fun w' => w'.cell? ⟨w.heap.size, 0, none⟩ = some (.int .i64 3) ∧ w'.cell? ⟨w.heap.size, 1, none⟩ = some (.string s) ∧ w'.cell? ⟨w.heap.size, 2, none⟩ = some (.string t) ∧ w'.cell? ⟨w.heap.size, 3, none⟩ = some (.bool bd) ∧ w'.cell? ⟨w.heap.size, 4, none⟩ = some (.string lb) ∧ w'.cell? ⟨w.heap.size, 5, none⟩ = some (.slice aa oc cc) ∧ w'.cell? ⟨w.heap.size, 6, none⟩ = some (.int .i64 hh) ∧ w'.cell? ⟨go, 0, none⟩ = some (.map (some B0))) (first | exact HX.out _ J5.out.2 | exact HX.out _ J0.out | go_keep)
    (first
    | (go_at_call 66; (with_reducible refine JC.out.mono ?_); rintro e w5 ⟨⟨B5, rfl, hs5, hb5⟩, hb6⟩; have J5 : Hid (RetU w fs (nodeM 3 s t (fs.filter (cntB bd lb)) A (fun _ => False)) (.returned (.map (some B5))) w5 ∧ Below W1.heap.size W1 w5) := ⟨⟨B5, rfl, hs5, hb5⟩, hb6⟩; clear hs5 hb5 hb6)
    | fail)
  go_wp2
  go_ret
  exact J5.out.1
set_option maxHeartbeats 2000000 in
theorem meaning_4 (s t : ByteArray) (bd : Bool) (lb : ByteArray) (aa : Option Addr) (oc cc : Nat) (hh : Int) (fa : Option Addr) (fc : Nat) (fs : List Fc) (go ocp : Nat) (B0 : Nat) (A : ByteArray → Prop) (w : World) (hF : RdF w fa fs) (hl : fs.length ≤ 300) (hok : FcOk fs) (hc0 : w.cell? ⟨go, 0, none⟩ = some (.map (some B0))) (h0 : SSU w B0 fs A) :
    Calls Try.prog 29 #[.agg #[.int .i64 4, .string s, .string t, .bool bd, .string lb, .slice aa oc cc, .int .i64 hh], .slice fa fs.length fc, .slice (some ⟨go, 0, none⟩) 1 ocp] w (RetU w fs (nodeM 4 s t (fs.filter (cntB bd lb)) A (fun _ => False))) := by
  have hlt : w.heap.size < (w.alloc (.cells #[.int .i64 4, .string s, .string t, .bool bd, .string lb, .slice aa oc cc, .int .i64 hh] 65)).heap.size := by simp
  obtain ⟨W1, hW1⟩ : ∃ W1, W1 = (w.alloc (.cells #[.int .i64 4, .string s, .string t, .bool bd, .string lb, .slice aa oc cc, .int .i64 hh] 65)) := ⟨_, rfl⟩
  have hcl : W1.cell? ⟨w.heap.size, 0, none⟩ = some (.int .i64 4) ∧ W1.cell? ⟨w.heap.size, 1, none⟩ = some (.string s) ∧ W1.cell? ⟨w.heap.size, 2, none⟩ = some (.string t) ∧ W1.cell? ⟨w.heap.size, 3, none⟩ = some (.bool bd) ∧ W1.cell? ⟨w.heap.size, 4, none⟩ = some (.string lb) ∧ W1.cell? ⟨w.heap.size, 5, none⟩ = some (.slice aa oc cc) ∧ W1.cell? ⟨w.heap.size, 6, none⟩ = some (.int .i64 hh) := by
    have e := blk_alloc_new w (.cells #[.int .i64 4, .string s, .string t, .bool bd, .string lb, .slice aa oc cc, .int .i64 hh] 65)
    rw [← hW1] at e
    refine ⟨?_, ?_, ?_, ?_, ?_, ?_, ?_⟩ <;> simp [World.cell?, e]
  have hb1 : Below w.heap.size w W1 := by rw [hW1]; exact below_alloc _ _
  have HB : Hid (Below w.heap.size w W1) := hb1
  rw [← hW1] at hlt
  have hbd : Below w.heap.size w W1.drew := hb1.drew
  obtain ⟨n, hn⟩ : ∃ n, n = fs.length := ⟨_, rfl⟩
  have JC : Hid (Calls Try.prog 66 #[.agg #[.int .i64 4, .string s, .string t, .bool bd, .string lb, .slice aa oc cc, .int .i64 hh], .slice fa n fc, .map (some B0)] W1.drew (fun e w' => RetU w fs (nodeM 4 s t (fs.filter (cntB bd lb)) A (fun _ => False)) e w' ∧ Below W1.heap.size W1 w')) := by
    rw [hn]
    exact (reached_4 s t bd lb aa oc cc hh fa fc fs B0 600 A W1.drew (hF.below hbd) hl hok (h0.1.below hbd)).mono fun e w' hr => ⟨hr.u hbd hl (nodeM_in (by omega) (fun _ => h0.2) (fun q => absurd q (by decide))), hr.drew⟩
  rw [← hn]
  clear hn
  have y0 : W1.cell? ⟨go, 0, none⟩ = some (.map (some B0)) := (hb1.cell (World.block_lt_of_cell? _ _ hc0)).trans hc0

  obtain ⟨x0, x1, x2, x3, x4, x5, x6⟩ := hcl
  have HX : Hid (∀ w', Below W1.heap.size W1 w' → w'.cell? ⟨w.heap.size, 0, none⟩ = some (.int .i64 4) ∧ w'.cell? ⟨w.heap.size, 1, none⟩ = some (.string s) ∧ w'.cell? ⟨w.heap.size, 2, none⟩ = some (.string t) ∧ w'.cell? ⟨w.heap.size, 3, none⟩ = some (.bool bd) ∧ w'.cell? ⟨w.heap.size, 4, none⟩ = some (.string lb) ∧ w'.cell? ⟨w.heap.size, 5, none⟩ = some (.slice aa oc cc) ∧ w'.cell? ⟨w.heap.size, 6, none⟩ = some (.int .i64 hh) ∧ w'.cell? ⟨go, 0, none⟩ = some (.map (some B0))) := fun w' hw => by
    have c : ∀ (b o : Nat) (v : Value), W1.cell? ⟨b, o, none⟩ = some v → w'.cell? ⟨b, o, none⟩ = some v := fun b o v q => (hw.cell (World.block_lt_of_cell? _ _ q)).trans q
    exact ⟨c _ _ _ x0, c _ _ _ x1, c _ _ _ x2, c _ _ _ x3, c _ _ _ x4, c _ _ _ x5, c _ _ _ x6, c _ _ _ y0⟩
  clear hF hok hb1 h0 hc0 hbd
  go_enter Try.func29, Try.ntmps29
  go_upto_region 1 with fail
  rw [← hW1]
  clear hW1
  go_upto_region 11 with fail
  have J0 : Hid (Below W1.heap.size W1 W1.drew) := (Below.refl _ _).drew
  go_region_held3 (fun w' => w'.cell? ⟨w.heap.size, 0, none⟩ = some (.int .i64 4) ∧ w'.cell? ⟨w.heap.size, 1, none⟩ = some (.string s) ∧ w'.cell? ⟨w.heap.size, 2, none⟩ = some (.string t) ∧ w'.cell? ⟨w.heap.size, 3, none⟩ = some (.bool bd) ∧ w'.cell? ⟨w.heap.size, 4, none⟩ = some (.string lb) ∧ w'.cell? ⟨w.heap.size, 5, none⟩ = some (.slice aa oc cc) ∧ w'.cell? ⟨w.heap.size, 6, none⟩ = some (.int .i64 hh) ∧ w'.cell? ⟨go, 0, none⟩ = some (.map (some B0))) (first | exact HX.out _ J5.out.2 | exact HX.out _ J0.out | go_keep)
    (first
    | (go_at_call 66; (with_reducible refine JC.out.mono ?_); rintro e w5 ⟨⟨B5, rfl, hs5, hb5⟩, hb6⟩; have J5 : Hid (RetU w fs (nodeM 4 s t (fs.filter (cntB bd lb)) A (fun _ => False)) (.returned (.map (some B5))) w5 ∧ Below W1.heap.size W1 w5) := ⟨⟨B5, rfl, hs5, hb5⟩, hb6⟩; clear hs5 hb5 hb6)
    | fail)
  go_wp2
  go_ret
  exact J5.out.1
set_option maxHeartbeats 2000000 in
theorem meaning_5 (s t : ByteArray) (bd : Bool) (lb : ByteArray) (aa : Option Addr) (oc cc : Nat) (hh : Int) (fa : Option Addr) (fc : Nat) (fs : List Fc) (go ocp : Nat) (B0 : Nat) (A : ByteArray → Prop) (w : World) (hF : RdF w fa fs) (hl : fs.length ≤ 300) (hok : FcOk fs) (hc0 : w.cell? ⟨go, 0, none⟩ = some (.map (some B0))) (h0 : SSU w B0 fs A) :
    Calls Try.prog 29 #[.agg #[.int .i64 5, .string s, .string t, .bool bd, .string lb, .slice aa oc cc, .int .i64 hh], .slice fa fs.length fc, .slice (some ⟨go, 0, none⟩) 1 ocp] w (RetU w fs (nodeM 5 s t (fs.filter (cntB bd lb)) A (fun _ => False))) := by
  have hlt : w.heap.size < (w.alloc (.cells #[.int .i64 5, .string s, .string t, .bool bd, .string lb, .slice aa oc cc, .int .i64 hh] 65)).heap.size := by simp
  obtain ⟨W1, hW1⟩ : ∃ W1, W1 = (w.alloc (.cells #[.int .i64 5, .string s, .string t, .bool bd, .string lb, .slice aa oc cc, .int .i64 hh] 65)) := ⟨_, rfl⟩
  have hcl : W1.cell? ⟨w.heap.size, 0, none⟩ = some (.int .i64 5) ∧ W1.cell? ⟨w.heap.size, 1, none⟩ = some (.string s) ∧ W1.cell? ⟨w.heap.size, 2, none⟩ = some (.string t) ∧ W1.cell? ⟨w.heap.size, 3, none⟩ = some (.bool bd) ∧ W1.cell? ⟨w.heap.size, 4, none⟩ = some (.string lb) ∧ W1.cell? ⟨w.heap.size, 5, none⟩ = some (.slice aa oc cc) ∧ W1.cell? ⟨w.heap.size, 6, none⟩ = some (.int .i64 hh) := by
    have e := blk_alloc_new w (.cells #[.int .i64 5, .string s, .string t, .bool bd, .string lb, .slice aa oc cc, .int .i64 hh] 65)
    rw [← hW1] at e
    refine ⟨?_, ?_, ?_, ?_, ?_, ?_, ?_⟩ <;> simp [World.cell?, e]
  have hb1 : Below w.heap.size w W1 := by rw [hW1]; exact below_alloc _ _
  have HB : Hid (Below w.heap.size w W1) := hb1
  rw [← hW1] at hlt
  have hbd : Below w.heap.size w W1.drew := hb1.drew
  obtain ⟨n, hn⟩ : ∃ n, n = fs.length := ⟨_, rfl⟩
  have JC : Hid (Calls Try.prog 66 #[.agg #[.int .i64 5, .string s, .string t, .bool bd, .string lb, .slice aa oc cc, .int .i64 hh], .slice fa n fc, .map (some B0)] W1.drew (fun e w' => RetU w fs (nodeM 5 s t (fs.filter (cntB bd lb)) A (fun _ => False)) e w' ∧ Below W1.heap.size W1 w')) := by
    rw [hn]
    exact (reached_5 s t bd lb aa oc cc hh fa fc fs B0 600 A W1.drew (hF.below hbd) hl hok (h0.1.below hbd)).mono fun e w' hr => ⟨hr.u hbd hl (nodeM_in (by omega) (fun _ => h0.2) (fun q => absurd q (by decide))), hr.drew⟩
  rw [← hn]
  clear hn
  have y0 : W1.cell? ⟨go, 0, none⟩ = some (.map (some B0)) := (hb1.cell (World.block_lt_of_cell? _ _ hc0)).trans hc0

  obtain ⟨x0, x1, x2, x3, x4, x5, x6⟩ := hcl
  have HX : Hid (∀ w', Below W1.heap.size W1 w' → w'.cell? ⟨w.heap.size, 0, none⟩ = some (.int .i64 5) ∧ w'.cell? ⟨w.heap.size, 1, none⟩ = some (.string s) ∧ w'.cell? ⟨w.heap.size, 2, none⟩ = some (.string t) ∧ w'.cell? ⟨w.heap.size, 3, none⟩ = some (.bool bd) ∧ w'.cell? ⟨w.heap.size, 4, none⟩ = some (.string lb) ∧ w'.cell? ⟨w.heap.size, 5, none⟩ = some (.slice aa oc cc) ∧ w'.cell? ⟨w.heap.size, 6, none⟩ = some (.int .i64 hh) ∧ w'.cell? ⟨go, 0, none⟩ = some (.map (some B0))) := fun w' hw => by
    have c : ∀ (b o : Nat) (v : Value), W1.cell? ⟨b, o, none⟩ = some v → w'.cell? ⟨b, o, none⟩ = some v := fun b o v q => (hw.cell (World.block_lt_of_cell? _ _ q)).trans q
    exact ⟨c _ _ _ x0, c _ _ _ x1, c _ _ _ x2, c _ _ _ x3, c _ _ _ x4, c _ _ _ x5, c _ _ _ x6, c _ _ _ y0⟩
  clear hF hok hb1 h0 hc0 hbd
  go_enter Try.func29, Try.ntmps29
  go_upto_region 1 with fail
  rw [← hW1]
  clear hW1
  go_upto_region 11 with fail
  have J0 : Hid (Below W1.heap.size W1 W1.drew) := (Below.refl _ _).drew
  go_region_held3 (fun w' => w'.cell? ⟨w.heap.size, 0, none⟩ = some (.int .i64 5) ∧ w'.cell? ⟨w.heap.size, 1, none⟩ = some (.string s) ∧ w'.cell? ⟨w.heap.size, 2, none⟩ = some (.string t) ∧ w'.cell? ⟨w.heap.size, 3, none⟩ = some (.bool bd) ∧ w'.cell? ⟨w.heap.size, 4, none⟩ = some (.string lb) ∧ w'.cell? ⟨w.heap.size, 5, none⟩ = some (.slice aa oc cc) ∧ w'.cell? ⟨w.heap.size, 6, none⟩ = some (.int .i64 hh) ∧ w'.cell? ⟨go, 0, none⟩ = some (.map (some B0))) (first | exact HX.out _ J5.out.2 | exact HX.out _ J0.out | go_keep)
    (first
    | (go_at_call 66; (with_reducible refine JC.out.mono ?_); rintro e w5 ⟨⟨B5, rfl, hs5, hb5⟩, hb6⟩; have J5 : Hid (RetU w fs (nodeM 5 s t (fs.filter (cntB bd lb)) A (fun _ => False)) (.returned (.map (some B5))) w5 ∧ Below W1.heap.size W1 w5) := ⟨⟨B5, rfl, hs5, hb5⟩, hb6⟩; clear hs5 hb5 hb6)
    | fail)
  go_wp2
  go_ret
  exact J5.out.1
set_option maxHeartbeats 2000000 in
theorem meaning_6 (s t : ByteArray) (bd : Bool) (lb : ByteArray) (aa : Option Addr) (oc cc : Nat) (hh : Int) (fa : Option Addr) (fc : Nat) (fs : List Fc) (go ocp : Nat) (B0 B1 : Nat) (A Q : ByteArray → Prop) (w : World) (hF : RdF w fa fs) (hl : fs.length ≤ 300) (hok : FcOk fs) (hc0 : w.cell? ⟨go, 0, none⟩ = some (.map (some B0))) (hc1 : w.cell? ⟨go, 1, none⟩ = some (.map (some B1))) (h0 : SSU w B0 fs A) (h1 : SSU w B1 fs Q) :
    Calls Try.prog 29 #[.agg #[.int .i64 6, .string s, .string t, .bool bd, .string lb, .slice aa oc cc, .int .i64 hh], .slice fa fs.length fc, .slice (some ⟨go, 0, none⟩) 2 ocp] w (RetU w fs (nodeM 6 s t (fs.filter (cntB bd lb)) A Q)) := by
  have hlt : w.heap.size < (w.alloc (.cells #[.int .i64 6, .string s, .string t, .bool bd, .string lb, .slice aa oc cc, .int .i64 hh] 65)).heap.size := by simp
  obtain ⟨W1, hW1⟩ : ∃ W1, W1 = (w.alloc (.cells #[.int .i64 6, .string s, .string t, .bool bd, .string lb, .slice aa oc cc, .int .i64 hh] 65)) := ⟨_, rfl⟩
  have hcl : W1.cell? ⟨w.heap.size, 0, none⟩ = some (.int .i64 6) ∧ W1.cell? ⟨w.heap.size, 1, none⟩ = some (.string s) ∧ W1.cell? ⟨w.heap.size, 2, none⟩ = some (.string t) ∧ W1.cell? ⟨w.heap.size, 3, none⟩ = some (.bool bd) ∧ W1.cell? ⟨w.heap.size, 4, none⟩ = some (.string lb) ∧ W1.cell? ⟨w.heap.size, 5, none⟩ = some (.slice aa oc cc) ∧ W1.cell? ⟨w.heap.size, 6, none⟩ = some (.int .i64 hh) := by
    have e := blk_alloc_new w (.cells #[.int .i64 6, .string s, .string t, .bool bd, .string lb, .slice aa oc cc, .int .i64 hh] 65)
    rw [← hW1] at e
    refine ⟨?_, ?_, ?_, ?_, ?_, ?_, ?_⟩ <;> simp [World.cell?, e]
  have hb1 : Below w.heap.size w W1 := by rw [hW1]; exact below_alloc _ _
  have HB : Hid (Below w.heap.size w W1) := hb1
  rw [← hW1] at hlt
  have hbd : Below w.heap.size w W1.drew := hb1.drew
  obtain ⟨n, hn⟩ : ∃ n, n = fs.length := ⟨_, rfl⟩
  have JC : Hid (Calls Try.prog 65 #[.agg #[.int .i64 6, .string s, .string t, .bool bd, .string lb, .slice aa oc cc, .int .i64 hh], .map (some B0), .map (some B1)] W1.drew (fun e w' => RetU w fs (nodeM 6 s t (fs.filter (cntB bd lb)) A Q) e w' ∧ Below W1.heap.size W1 w')) := by
    skip
    exact (combined_6 s t bd lb aa oc cc hh B0 600 B1 600 A Q (fs.filter (cntB bd lb)) W1.drew (h0.1.below hbd) (h1.1.below hbd) (by omega)).mono fun e w' hr => ⟨hr.u hbd hl (nodeM_in (by omega) (fun _ => h0.2) (fun _ => h1.2)), hr.drew⟩
  rw [← hn]
  clear hn
  have y0 : W1.cell? ⟨go, 0, none⟩ = some (.map (some B0)) := (hb1.cell (World.block_lt_of_cell? _ _ hc0)).trans hc0
  have y1 : W1.cell? ⟨go, 1, none⟩ = some (.map (some B1)) := (hb1.cell (World.block_lt_of_cell? _ _ hc1)).trans hc1
  obtain ⟨x0, x1, x2, x3, x4, x5, x6⟩ := hcl
  have HX : Hid (∀ w', Below W1.heap.size W1 w' → w'.cell? ⟨w.heap.size, 0, none⟩ = some (.int .i64 6) ∧ w'.cell? ⟨w.heap.size, 1, none⟩ = some (.string s) ∧ w'.cell? ⟨w.heap.size, 2, none⟩ = some (.string t) ∧ w'.cell? ⟨w.heap.size, 3, none⟩ = some (.bool bd) ∧ w'.cell? ⟨w.heap.size, 4, none⟩ = some (.string lb) ∧ w'.cell? ⟨w.heap.size, 5, none⟩ = some (.slice aa oc cc) ∧ w'.cell? ⟨w.heap.size, 6, none⟩ = some (.int .i64 hh) ∧ w'.cell? ⟨go, 0, none⟩ = some (.map (some B0)) ∧ w'.cell? ⟨go, 1, none⟩ = some (.map (some B1))) := fun w' hw => by
    have c : ∀ (b o : Nat) (v : Value), W1.cell? ⟨b, o, none⟩ = some v → w'.cell? ⟨b, o, none⟩ = some v := fun b o v q => (hw.cell (World.block_lt_of_cell? _ _ q)).trans q
    exact ⟨c _ _ _ x0, c _ _ _ x1, c _ _ _ x2, c _ _ _ x3, c _ _ _ x4, c _ _ _ x5, c _ _ _ x6, c _ _ _ y0, c _ _ _ y1⟩
  clear hF hok hb1 h0 hc0 hbd h1 hc1
  go_enter Try.func29, Try.ntmps29
  go_upto_region 1 with fail
  rw [← hW1]
  clear hW1
  go_upto_region 8 with fail
  have J0 : Hid (Below W1.heap.size W1 W1.drew) := (Below.refl _ _).drew
  go_region_held3 (fun w' => w'.cell? ⟨w.heap.size, 0, none⟩ = some (.int .i64 6) ∧ w'.cell? ⟨w.heap.size, 1, none⟩ = some (.string s) ∧ w'.cell? ⟨w.heap.size, 2, none⟩ = some (.string t) ∧ w'.cell? ⟨w.heap.size, 3, none⟩ = some (.bool bd) ∧ w'.cell? ⟨w.heap.size, 4, none⟩ = some (.string lb) ∧ w'.cell? ⟨w.heap.size, 5, none⟩ = some (.slice aa oc cc) ∧ w'.cell? ⟨w.heap.size, 6, none⟩ = some (.int .i64 hh) ∧ w'.cell? ⟨go, 0, none⟩ = some (.map (some B0)) ∧ w'.cell? ⟨go, 1, none⟩ = some (.map (some B1))) (first | exact HX.out _ J5.out.2 | exact HX.out _ J0.out | go_keep)
    (first
    | (go_at_call 65; (with_reducible refine JC.out.mono ?_); rintro e w5 ⟨⟨B5, rfl, hs5, hb5⟩, hb6⟩; have J5 : Hid (RetU w fs (nodeM 6 s t (fs.filter (cntB bd lb)) A Q) (.returned (.map (some B5))) w5 ∧ Below W1.heap.size W1 w5) := ⟨⟨B5, rfl, hs5, hb5⟩, hb6⟩; clear hs5 hb5 hb6)
    | fail)
  go_wp2
  go_ret
  exact J5.out.1
set_option maxHeartbeats 2000000 in
theorem meaning_7 (s t : ByteArray) (bd : Bool) (lb : ByteArray) (aa : Option Addr) (oc cc : Nat) (hh : Int) (fa : Option Addr) (fc : Nat) (fs : List Fc) (go ocp : Nat) (B0 B1 : Nat) (A Q : ByteArray → Prop) (w : World) (hF : RdF w fa fs) (hl : fs.length ≤ 300) (hok : FcOk fs) (hc0 : w.cell? ⟨go, 0, none⟩ = some (.map (some B0))) (hc1 : w.cell? ⟨go, 1, none⟩ = some (.map (some B1))) (h0 : SSU w B0 fs A) (h1 : SSU w B1 fs Q) :
    Calls Try.prog 29 #[.agg #[.int .i64 7, .string s, .string t, .bool bd, .string lb, .slice aa oc cc, .int .i64 hh], .slice fa fs.length fc, .slice (some ⟨go, 0, none⟩) 2 ocp] w (RetU w fs (nodeM 7 s t (fs.filter (cntB bd lb)) A Q)) := by
  have hlt : w.heap.size < (w.alloc (.cells #[.int .i64 7, .string s, .string t, .bool bd, .string lb, .slice aa oc cc, .int .i64 hh] 65)).heap.size := by simp
  obtain ⟨W1, hW1⟩ : ∃ W1, W1 = (w.alloc (.cells #[.int .i64 7, .string s, .string t, .bool bd, .string lb, .slice aa oc cc, .int .i64 hh] 65)) := ⟨_, rfl⟩
  have hcl : W1.cell? ⟨w.heap.size, 0, none⟩ = some (.int .i64 7) ∧ W1.cell? ⟨w.heap.size, 1, none⟩ = some (.string s) ∧ W1.cell? ⟨w.heap.size, 2, none⟩ = some (.string t) ∧ W1.cell? ⟨w.heap.size, 3, none⟩ = some (.bool bd) ∧ W1.cell? ⟨w.heap.size, 4, none⟩ = some (.string lb) ∧ W1.cell? ⟨w.heap.size, 5, none⟩ = some (.slice aa oc cc) ∧ W1.cell? ⟨w.heap.size, 6, none⟩ = some (.int .i64 hh) := by
    have e := blk_alloc_new w (.cells #[.int .i64 7, .string s, .string t, .bool bd, .string lb, .slice aa oc cc, .int .i64 hh] 65)
    rw [← hW1] at e
    refine ⟨?_, ?_, ?_, ?_, ?_, ?_, ?_⟩ <;> simp [World.cell?, e]
  have hb1 : Below w.heap.size w W1 := by rw [hW1]; exact below_alloc _ _
  have HB : Hid (Below w.heap.size w W1) := hb1
  rw [← hW1] at hlt
  have hbd : Below w.heap.size w W1.drew := hb1.drew
  obtain ⟨n, hn⟩ : ∃ n, n = fs.length := ⟨_, rfl⟩
  have JC : Hid (Calls Try.prog 65 #[.agg #[.int .i64 7, .string s, .string t, .bool bd, .string lb, .slice aa oc cc, .int .i64 hh], .map (some B0), .map (some B1)] W1.drew (fun e w' => RetU w fs (nodeM 7 s t (fs.filter (cntB bd lb)) A Q) e w' ∧ Below W1.heap.size W1 w')) := by
    skip
    exact (combined_7 s t bd lb aa oc cc hh B0 600 B1 600 A Q (fs.filter (cntB bd lb)) W1.drew (h0.1.below hbd) (h1.1.below hbd) (by omega)).mono fun e w' hr => ⟨hr.u hbd hl (nodeM_in (by omega) (fun _ => h0.2) (fun _ => h1.2)), hr.drew⟩
  rw [← hn]
  clear hn
  have y0 : W1.cell? ⟨go, 0, none⟩ = some (.map (some B0)) := (hb1.cell (World.block_lt_of_cell? _ _ hc0)).trans hc0
  have y1 : W1.cell? ⟨go, 1, none⟩ = some (.map (some B1)) := (hb1.cell (World.block_lt_of_cell? _ _ hc1)).trans hc1
  obtain ⟨x0, x1, x2, x3, x4, x5, x6⟩ := hcl
  have HX : Hid (∀ w', Below W1.heap.size W1 w' → w'.cell? ⟨w.heap.size, 0, none⟩ = some (.int .i64 7) ∧ w'.cell? ⟨w.heap.size, 1, none⟩ = some (.string s) ∧ w'.cell? ⟨w.heap.size, 2, none⟩ = some (.string t) ∧ w'.cell? ⟨w.heap.size, 3, none⟩ = some (.bool bd) ∧ w'.cell? ⟨w.heap.size, 4, none⟩ = some (.string lb) ∧ w'.cell? ⟨w.heap.size, 5, none⟩ = some (.slice aa oc cc) ∧ w'.cell? ⟨w.heap.size, 6, none⟩ = some (.int .i64 hh) ∧ w'.cell? ⟨go, 0, none⟩ = some (.map (some B0)) ∧ w'.cell? ⟨go, 1, none⟩ = some (.map (some B1))) := fun w' hw => by
    have c : ∀ (b o : Nat) (v : Value), W1.cell? ⟨b, o, none⟩ = some v → w'.cell? ⟨b, o, none⟩ = some v := fun b o v q => (hw.cell (World.block_lt_of_cell? _ _ q)).trans q
    exact ⟨c _ _ _ x0, c _ _ _ x1, c _ _ _ x2, c _ _ _ x3, c _ _ _ x4, c _ _ _ x5, c _ _ _ x6, c _ _ _ y0, c _ _ _ y1⟩
  clear hF hok hb1 h0 hc0 hbd h1 hc1
  go_enter Try.func29, Try.ntmps29
  go_upto_region 1 with fail
  rw [← hW1]
  clear hW1
  go_upto_region 8 with fail
  have J0 : Hid (Below W1.heap.size W1 W1.drew) := (Below.refl _ _).drew
  go_region_held3 (fun w' => w'.cell? ⟨w.heap.size, 0, none⟩ = some (.int .i64 7) ∧ w'.cell? ⟨w.heap.size, 1, none⟩ = some (.string s) ∧ w'.cell? ⟨w.heap.size, 2, none⟩ = some (.string t) ∧ w'.cell? ⟨w.heap.size, 3, none⟩ = some (.bool bd) ∧ w'.cell? ⟨w.heap.size, 4, none⟩ = some (.string lb) ∧ w'.cell? ⟨w.heap.size, 5, none⟩ = some (.slice aa oc cc) ∧ w'.cell? ⟨w.heap.size, 6, none⟩ = some (.int .i64 hh) ∧ w'.cell? ⟨go, 0, none⟩ = some (.map (some B0)) ∧ w'.cell? ⟨go, 1, none⟩ = some (.map (some B1))) (first | exact HX.out _ J5.out.2 | exact HX.out _ J0.out | go_keep)
    (first
    | (go_at_call 65; (with_reducible refine JC.out.mono ?_); rintro e w5 ⟨⟨B5, rfl, hs5, hb5⟩, hb6⟩; have J5 : Hid (RetU w fs (nodeM 7 s t (fs.filter (cntB bd lb)) A Q) (.returned (.map (some B5))) w5 ∧ Below W1.heap.size W1 w5) := ⟨⟨B5, rfl, hs5, hb5⟩, hb6⟩; clear hs5 hb5 hb6)
    | fail)
  go_wp2
  go_ret
  exact J5.out.1
set_option maxHeartbeats 2000000 in
theorem meaning_8 (s t : ByteArray) (bd : Bool) (lb : ByteArray) (aa : Option Addr) (oc cc : Nat) (hh : Int) (fa : Option Addr) (fc : Nat) (fs : List Fc) (go ocp : Nat) (B0 B1 : Nat) (A Q : ByteArray → Prop) (w : World) (hF : RdF w fa fs) (hl : fs.length ≤ 300) (hok : FcOk fs) (hc0 : w.cell? ⟨go, 0, none⟩ = some (.map (some B0))) (hc1 : w.cell? ⟨go, 1, none⟩ = some (.map (some B1))) (h0 : SSU w B0 fs A) (h1 : SSU w B1 fs Q) :
    Calls Try.prog 29 #[.agg #[.int .i64 8, .string s, .string t, .bool bd, .string lb, .slice aa oc cc, .int .i64 hh], .slice fa fs.length fc, .slice (some ⟨go, 0, none⟩) 2 ocp] w (RetU w fs (nodeM 8 s t (fs.filter (cntB bd lb)) A Q)) := by
  have hlt : w.heap.size < (w.alloc (.cells #[.int .i64 8, .string s, .string t, .bool bd, .string lb, .slice aa oc cc, .int .i64 hh] 65)).heap.size := by simp
  obtain ⟨W1, hW1⟩ : ∃ W1, W1 = (w.alloc (.cells #[.int .i64 8, .string s, .string t, .bool bd, .string lb, .slice aa oc cc, .int .i64 hh] 65)) := ⟨_, rfl⟩
  have hcl : W1.cell? ⟨w.heap.size, 0, none⟩ = some (.int .i64 8) ∧ W1.cell? ⟨w.heap.size, 1, none⟩ = some (.string s) ∧ W1.cell? ⟨w.heap.size, 2, none⟩ = some (.string t) ∧ W1.cell? ⟨w.heap.size, 3, none⟩ = some (.bool bd) ∧ W1.cell? ⟨w.heap.size, 4, none⟩ = some (.string lb) ∧ W1.cell? ⟨w.heap.size, 5, none⟩ = some (.slice aa oc cc) ∧ W1.cell? ⟨w.heap.size, 6, none⟩ = some (.int .i64 hh) := by
    have e := blk_alloc_new w (.cells #[.int .i64 8, .string s, .string t, .bool bd, .string lb, .slice aa oc cc, .int .i64 hh] 65)
    rw [← hW1] at e
    refine ⟨?_, ?_, ?_, ?_, ?_, ?_, ?_⟩ <;> simp [World.cell?, e]
  have hb1 : Below w.heap.size w W1 := by rw [hW1]; exact below_alloc _ _
  have HB : Hid (Below w.heap.size w W1) := hb1
  rw [← hW1] at hlt
  have hbd : Below w.heap.size w W1.drew := hb1.drew
  obtain ⟨n, hn⟩ : ∃ n, n = fs.length := ⟨_, rfl⟩
  have JC : Hid (Calls Try.prog 65 #[.agg #[.int .i64 8, .string s, .string t, .bool bd, .string lb, .slice aa oc cc, .int .i64 hh], .map (some B0), .map (some B1)] W1.drew (fun e w' => RetU w fs (nodeM 8 s t (fs.filter (cntB bd lb)) A Q) e w' ∧ Below W1.heap.size W1 w')) := by
    skip
    exact (combined_8 s t bd lb aa oc cc hh B0 600 B1 600 A Q (fs.filter (cntB bd lb)) W1.drew (h0.1.below hbd) (h1.1.below hbd) (by omega)).mono fun e w' hr => ⟨hr.u hbd hl (nodeM_in (by omega) (fun _ => h0.2) (fun _ => h1.2)), hr.drew⟩
  rw [← hn]
  clear hn
  have y0 : W1.cell? ⟨go, 0, none⟩ = some (.map (some B0)) := (hb1.cell (World.block_lt_of_cell? _ _ hc0)).trans hc0
  have y1 : W1.cell? ⟨go, 1, none⟩ = some (.map (some B1)) := (hb1.cell (World.block_lt_of_cell? _ _ hc1)).trans hc1
  obtain ⟨x0, x1, x2, x3, x4, x5, x6⟩ := hcl
  have HX : Hid (∀ w', Below W1.heap.size W1 w' → w'.cell? ⟨w.heap.size, 0, none⟩ = some (.int .i64 8) ∧ w'.cell? ⟨w.heap.size, 1, none⟩ = some (.string s) ∧ w'.cell? ⟨w.heap.size, 2, none⟩ = some (.string t) ∧ w'.cell? ⟨w.heap.size, 3, none⟩ = some (.bool bd) ∧ w'.cell? ⟨w.heap.size, 4, none⟩ = some (.string lb) ∧ w'.cell? ⟨w.heap.size, 5, none⟩ = some (.slice aa oc cc) ∧ w'.cell? ⟨w.heap.size, 6, none⟩ = some (.int .i64 hh) ∧ w'.cell? ⟨go, 0, none⟩ = some (.map (some B0)) ∧ w'.cell? ⟨go, 1, none⟩ = some (.map (some B1))) := fun w' hw => by
    have c : ∀ (b o : Nat) (v : Value), W1.cell? ⟨b, o, none⟩ = some v → w'.cell? ⟨b, o, none⟩ = some v := fun b o v q => (hw.cell (World.block_lt_of_cell? _ _ q)).trans q
    exact ⟨c _ _ _ x0, c _ _ _ x1, c _ _ _ x2, c _ _ _ x3, c _ _ _ x4, c _ _ _ x5, c _ _ _ x6, c _ _ _ y0, c _ _ _ y1⟩
  clear hF hok hb1 h0 hc0 hbd h1 hc1
  go_enter Try.func29, Try.ntmps29
  go_upto_region 1 with fail
  rw [← hW1]
  clear hW1
  go_upto_region 8 with fail
  have J0 : Hid (Below W1.heap.size W1 W1.drew) := (Below.refl _ _).drew
  go_region_held3 (fun w' => w'.cell? ⟨w.heap.size, 0, none⟩ = some (.int .i64 8) ∧ w'.cell? ⟨w.heap.size, 1, none⟩ = some (.string s) ∧ w'.cell? ⟨w.heap.size, 2, none⟩ = some (.string t) ∧ w'.cell? ⟨w.heap.size, 3, none⟩ = some (.bool bd) ∧ w'.cell? ⟨w.heap.size, 4, none⟩ = some (.string lb) ∧ w'.cell? ⟨w.heap.size, 5, none⟩ = some (.slice aa oc cc) ∧ w'.cell? ⟨w.heap.size, 6, none⟩ = some (.int .i64 hh) ∧ w'.cell? ⟨go, 0, none⟩ = some (.map (some B0)) ∧ w'.cell? ⟨go, 1, none⟩ = some (.map (some B1))) (first | exact HX.out _ J5.out.2 | exact HX.out _ J0.out | go_keep)
    (first
    | (go_at_call 65; (with_reducible refine JC.out.mono ?_); rintro e w5 ⟨⟨B5, rfl, hs5, hb5⟩, hb6⟩; have J5 : Hid (RetU w fs (nodeM 8 s t (fs.filter (cntB bd lb)) A Q) (.returned (.map (some B5))) w5 ∧ Below W1.heap.size W1 w5) := ⟨⟨B5, rfl, hs5, hb5⟩, hb6⟩; clear hs5 hb5 hb6)
    | fail)
  go_wp2
  go_ret
  exact J5.out.1
set_option maxHeartbeats 2000000 in
theorem meaning_9 (s t : ByteArray) (bd : Bool) (lb : ByteArray) (aa : Option Addr) (oc cc : Nat) (hh : Int) (fa : Option Addr) (fc : Nat) (fs : List Fc) (go ocp : Nat) (B0 : Nat) (A : ByteArray → Prop) (w : World) (hF : RdF w fa fs) (hl : fs.length ≤ 300) (hok : FcOk fs) (hc0 : w.cell? ⟨go, 0, none⟩ = some (.map (some B0))) (h0 : SSU w B0 fs A) :
    Calls Try.prog 29 #[.agg #[.int .i64 9, .string s, .string t, .bool bd, .string lb, .slice aa oc cc, .int .i64 hh], .slice fa fs.length fc, .slice (some ⟨go, 0, none⟩) 1 ocp] w (RetU w fs (nodeM 9 s t (fs.filter (cntB bd lb)) A (fun _ => False))) := by
  have hlt : w.heap.size < (w.alloc (.cells #[.int .i64 9, .string s, .string t, .bool bd, .string lb, .slice aa oc cc, .int .i64 hh] 65)).heap.size := by simp
  obtain ⟨W1, hW1⟩ : ∃ W1, W1 = (w.alloc (.cells #[.int .i64 9, .string s, .string t, .bool bd, .string lb, .slice aa oc cc, .int .i64 hh] 65)) := ⟨_, rfl⟩
  have hcl : W1.cell? ⟨w.heap.size, 0, none⟩ = some (.int .i64 9) ∧ W1.cell? ⟨w.heap.size, 1, none⟩ = some (.string s) ∧ W1.cell? ⟨w.heap.size, 2, none⟩ = some (.string t) ∧ W1.cell? ⟨w.heap.size, 3, none⟩ = some (.bool bd) ∧ W1.cell? ⟨w.heap.size, 4, none⟩ = some (.string lb) ∧ W1.cell? ⟨w.heap.size, 5, none⟩ = some (.slice aa oc cc) ∧ W1.cell? ⟨w.heap.size, 6, none⟩ = some (.int .i64 hh) := by
    have e := blk_alloc_new w (.cells #[.int .i64 9, .string s, .string t, .bool bd, .string lb, .slice aa oc cc, .int .i64 hh] 65)
    rw [← hW1] at e
    refine ⟨?_, ?_, ?_, ?_, ?_, ?_, ?_⟩ <;> simp [World.cell?, e]
  have hb1 : Below w.heap.size w W1 := by rw [hW1]; exact below_alloc _ _
  have HB : Hid (Below w.heap.size w W1) := hb1
  rw [← hW1] at hlt
  have HF : Hid (RetU w fs (nodeM 9 s t (fs.filter (cntB bd lb)) A (fun _ => False)) (.returned (.map (some B0))) W1) := ⟨B0, rfl, (h0.below hb1).congr (fun x => by simp [nodeM]), hb1⟩
  obtain ⟨x0, x1, x2, x3, x4, x5, x6⟩ := hcl
  have y0 : W1.cell? ⟨go, 0, none⟩ = some (.map (some B0)) := (hb1.cell (World.block_lt_of_cell? _ _ hc0)).trans hc0
  clear hF hok hb1 h0 hc0
  go_enter Try.func29, Try.ntmps29
  go_upto_region 1 with fail
  rw [← hW1]
  clear hW1
  go_wp2
  go_ret
  exact HF.out
end Go.Proofs.Ythcclkeeekppmaa

namespace Go.Proofs.Ythcclkeeekppmaa
open Go.RowKit Go.Deep Go.Shelf
set_option linter.unusedVariables false
set_option maxRecDepth 100000

/-- A round that ends as it should. -/
def onlyN (K : World → Prop) : Exit → Act → World → Prop
  | .normal, _, W' => K W'
  | .ret, _, _ => False
  | .exit _, _, _ => False
  | .goto _, _, _ => False
  | .panic _, _, _ => False
  | .outgrown, _, _ => False
section
variable {F : Fence} {n : Nat} {P : Program}
/-- A range over a function whose rounds are numbered: what a round is handed (V) may depend on the world at that time. -/
theorem rangeT {g : Operand} {ps : Array Tmp} {assign body : Code} {Q : Exit → Act → World → Prop} {a : Act} {w : World}
    (hro : F.round = none) (h1 : 1 ≤ n) {gf : Nat} {lb : Array Value} (hg : a.eval g = .func (.func gf) #[] lb) (hFg : F.fn gf) (eg : ∀ args w, (callFunc gf args).run P w = .ok (.enter gf args) w)
    (N : Nat) (V : Nat → Array Value → World → Prop) (hV : ∀ k v W, V k v W → v.size = ps.size) (J : Nat → World → Prop) (hJ : OwnFrom w.heap.size J) (h0 : J 0 w)
    (hseq : ∀ (l : Nat) (K : Nat → World → Prop) (W : World), Below w.heap.size w W → (∀ k W, K k W → J k W) → (∀ k v W1, K k W1 → V k v W1 → k < N → YieldAt F (n - 1 - 1) P l v W1 fun e W' => e = .returned (.bool true) ∧ K (k + 1) W') → K 0 W →
      CallsIn F (n - 1) P gf (#[.func (.yield l) #[] #[]] ++ lb) W fun e W' => (∃ v, e = .returned v) ∧ K N W')
    (Ax : Nat → Array Value → Act → World → Prop) (hAx : ∀ k v a', OwnFrom w.heap.size (fun (_ : Unit) W => Ax k v a' W))
    (hassign : ∀ (l k : Nat) (v : Array Value) (W : World) (K : Act → World → Prop), J k W → V k v W → k < N → (∀ a' W', KeepsFrom w.heap.size W W' → J k W' → Ax k v a' W' → K a' W') →
      assign.wpIn (F.inRound l) (n - 1 - 1) P (Exit.then K (fun _ _ _ => False)) { tmps := (ps.zip v).foldl (fun t (p, v) => t.setIfInBounds p v) a.tmps, defers := [] } W)
    (hbody : ∀ (l k : Nat) (v : Array Value) (a' : Act) (W : World), w.heap.size ≤ l → J k W → Ax k v a' W → k < N → body.wpIn (F.inRound l) (n - 1 - 1) P (onlyN fun W' => KeepsFrom w.heap.size W W' ∧ J (k + 1) W') a' W)
    (hdone : ∀ (D : Nat) (W : World), w.heap.size ≤ D → J N W → W.heap[D]? = some (.deferred (some [])) → Q .normal { a with defers := { target := .collected D, args := #[] } :: a.defers } W) :
    (Code.rangeFunc g ps assign body).wpIn F n P Q a w := by
  refine wpIn_rangeFunc fun fn hfn => ?_
  rw [hro]
  obtain ⟨z, hz⟩ : ∃ z, z = w.heap.size := ⟨_, rfl⟩
  obtain ⟨rc, hrc⟩ : ∃ rc : LoopState → Option Code → Loop, rc = fun s p => { state := s, pending := p, fn, tmps := a.tmps, params := ps, assign, body, defers := w.heap.size } := ⟨_, rfl⟩
  -- the world once the loop is entered: two blocks of book-keeping
  obtain ⟨W1, hW1⟩ : ∃ W1, W1 = (w.alloc (.deferred (some []))).alloc (.loop (rc .ready none)) := ⟨_, rfl⟩
  have bk : W1.heap[z + 1]? = some (.loop (rc .ready none)) ∧ W1.heap[z]? = some (.deferred (some [])) ∧ J 0 W1 ∧ Below w.heap.size w W1 := by
    rw [hW1, hz]
    refine ⟨?_, (Below.heap_alloc _ _ _ (by simp)).trans (World.alloc_heap_new w _), hJ.alloc _ (hJ.alloc _ h0), ((Below.refl _ w).alloc (Nat.le_refl _) _).alloc (by simp) _⟩
    have := World.alloc_heap_new (w.alloc (.deferred (some []))) (.loop (rc .ready none))
    rwa [World.size_alloc] at this
  refine ⟨z + 1, [{ target := .collected z, args := #[] }], W1, { target := .fn (.func gf) lb, args := #[.func (.yield (z + 1)) #[] #[]] }, W1, gf, #[.func (.yield (z + 1)) #[] #[]] ++ lb, W1, ?_, ?_, ?_, ?_, fun _ => h1, ?_⟩
  · rw [hW1, hrc, hz]; exact run_enterLoop_outer _ _ _ _ _
  · simp only [resolve, hg]
    simp [go_sem]
  · intro f' hf'; simp [Target.leads] at hf'; subst hf'; exact hFg
  · simp [invoke, go_sem, eg]
  · refine (hseq (z + 1) (fun k W => J k W ∧ W.heap[z + 1]? = some (.loop (rc .ready none)) ∧ W.heap[z]? = some (.deferred (some []))) W1 bk.2.2.2 (fun _ _ h => h.1) ?_ ⟨bk.2.2.1, bk.1, bk.2.1⟩).mono ?_
    · rintro k v W ⟨hj, hl, hd⟩ hv hk
      have hy := run_yield (P := P) (args := v) hl (by rw [hrc]; exact hV k v W hv)
      rw [hrc] at hy
      refine ⟨fn, _, assign, body, hy, roundIn_of_wpIn hfn (hassign _ k v W _ hj hv hk ?_)⟩
      intro a' Wa hkf hja hax
      have hl1 := hkf.same _ _ (by omega) hl rfl
      have hd1 := hkf.same _ _ (by omega) hd rfl
      have hlt := (Array.getElem?_eq_some_iff.1 hl1).1
      refine ⟨_, run_beginRound hl1 (by rw [hrc]), ?_⟩
      have hl2 : (Wa.putObj (z + 1) (.loop { rc .ready none with state := .busy })).heap[z + 1]? = some (.loop { rc .ready none with state := .busy }) := World.putObj_heap_same hlt
      have hd2 : (Wa.putObj (z + 1) (.loop { rc .ready none with state := .busy })).heap[z]? = some (.deferred (some [])) := (World.putObj_heap_other (by omega)).trans hd1
      refine wpIn_mono (hbody _ k v a' _ (by omega) (hJ.putObj _ hja (by omega) hl1 rfl) ((hAx k v a').putObj (s := ()) _ hax (by omega) hl1 rfl) hk) ?_
      intro e a3 W3 hp
      cases e with
      | ret => exact hp.elim
      | exit _ => exact hp.elim
      | goto _ => exact hp.elim
      | panic _ => exact hp.elim
      | outgrown => exact hp.elim
      | normal =>
      obtain ⟨hk3, hj3⟩ := hp
      have hl3 := hk3.same _ _ (by omega) hl2 rfl
      have hr := run_endRound (P := P) none hl3
      refine ⟨_, _, hr, rfl, hJ.putObj _ hj3 (by omega) hl3 rfl, ?_, ?_⟩
      · rw [hrc]; exact World.putObj_heap_same (Array.getElem?_eq_some_iff.1 hl3).1
      · exact (World.putObj_heap_other (by omega)).trans (hk3.same _ _ (by omega) hd2 rfl)
    · rintro e W2 ⟨⟨v, rfl⟩, hj, hl, hd⟩
      exact ⟨none, _, by have := run_endLoop (P := P) hl (by rw [hrc]; simp); rw [hrc] at this; exact this, hdone _ _ (by omega) (hJ.putObj _ hj (by omega) hl rfl) ((World.putObj_heap_other (by omega)).trans hd)⟩
end
end Go.Proofs.Ythcclkeeekppmaa
