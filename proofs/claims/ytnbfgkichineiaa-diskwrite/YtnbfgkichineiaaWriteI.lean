import Derived.Test.YtnbfgkichineiaaRunS
import Derived.Test.YtnbfgkichineiaaValid
namespace Go.Proofs.Ytnbfgkichineiaa
open Go.RowKit Go.Deep
set_option linter.unusedVariables false
set_option maxRecDepth 100000

set_option maxHeartbeats 400000 in
theorem closure_write (b bs bd : Nat) (s : Int) (ad : Option Addr) (cp : Nat) (w : World) (R : World → Prop) (hs : w.cell? ⟨bs, 0, none⟩ = some (.int .i64 s)) (hd : w.cell? ⟨bd, 0, none⟩ = some (.slice ad 64 cp))
    (h : Calls Try.prog 50 #[.pointer (some ⟨b, 0, none⟩), .int .i64 s, .slice ad 64 cp] w fun e w' => Stepped e ∧ R w') :
    Calls Try.prog 49 #[.pointer (some ⟨b, 0, none⟩), .pointer (some ⟨bs, 0, none⟩), .pointer (some ⟨bd, 0, none⟩)] w fun e w' => Stepped e ∧ R w' := by
  have H : Hid (Calls Try.prog 50 #[.pointer (some ⟨b, 0, none⟩), .int .i64 s, .slice ad 64 cp] w fun e w' => Stepped e ∧ R w') := h
  clear h
  go_enter Try.func49, Try.ntmps49
  go_wp2_with fail
  refine H.out.mono ?_
  rintro e w1 ⟨he | he, hR⟩
  · subst he
    go_wp2
    go_end0
    exact ⟨Or.inl rfl, hR⟩
  · subst he
    go_wp2
    exact ⟨rfl, Or.inr rfl, hR⟩

theorem cellNew (W : World) (v : Value) (t : TypeId) (g : Nat) (hz : W.heap.size = g) : (W.alloc (.cells #[v] t)).cell? ⟨g, 0, none⟩ = some v := by
  subst hz
  simp

/-- The boxes that impl.DiskWrite lays. -/
theorem below_alloc4 (w : World) (o1 o2 o3 o4 : Obj) : Below w.heap.size w ((((w.alloc o1).alloc o2).alloc o3).alloc o4) :=
  (((((below_alloc _ _).alloc (by simp) _).alloc (by simp; omega) _).alloc (by simp; omega) _))

set_option maxHeartbeats 1000000 in
theorem implWrite_bad (a p ad : Option Addr) (n c m q dl cp : Nat) (d S : Nat → Int) (L : Nat → Nat) (F : Nat → Nat → Int) (fuel : Int) (dead : Bool) (s : Int) (w : World) (ha : Rd .u8 w a n d) (hp : RdP w p m S L F) (hbad : ¬ (VD n m S L fuel ∧ (0 ≤ s ∧ s < (n : Int) / 64) ∧ dl = 64)) (hn : n ≤ 1048576) (hm : m ≤ 1048576) (hL : ∀ i, i < m → L i ≤ 1048576) (hdl : dl ≤ 1048576) :
    Calls Try.prog 25 #[.agg #[.slice a n c, .slice p m q, .int .i64 fuel, .bool dead], .int .i64 s, .slice ad dl cp] w fun e w' => RetD w e w' n d m S L F fuel dead := by
  have HA : Hid (Rd .u8 w a n d) := ha
  have HP : Hid (RdP w p m S L F) := hp
  have HLL : Hid (∀ i, i < m → L i ≤ 1048576) := hL
  have HBAD : Hid (¬ (VD n m S L fuel ∧ (0 ≤ s ∧ s < (n : Int) / 64) ∧ dl = 64)) := hbad
  have fin : ∀ W : World, Below (w.heap.size + 4) ((((w.alloc (.cells #[.slice a n c, .slice p m q, .int .i64 fuel, .bool dead] 25)).alloc (.cells #[.int .i64 s] 2)).alloc (.cells #[.slice ad dl cp] 22)).alloc (.cells #[.slice none 0 0, .slice none 0 0, .int .i64 0, .bool false] 25)) W →
      Below w.heap.size w W := fun W h => (below_alloc4 _ _ _ _ _).trans (h.mono (by omega))
  have HFIN : Hid (∀ W : World, Below (w.heap.size + 4) ((((w.alloc (.cells #[.slice a n c, .slice p m q, .int .i64 fuel, .bool dead] 25)).alloc (.cells #[.int .i64 s] 2)).alloc (.cells #[.slice ad dl cp] 22)).alloc (.cells #[.slice none 0 0, .slice none 0 0, .int .i64 0, .bool false] 25)) W →
      Below w.heap.size w W) := fin
  have E4 : ∀ o1 o2 o3 o4, ((((w.alloc o1).alloc o2).alloc o3).alloc o4).heap.size = w.heap.size + 4 := fun _ _ _ _ => by simp
  have HE4 : Hid (∀ o1 o2 o3 o4, ((((w.alloc o1).alloc o2).alloc o3).alloc o4).heap.size = w.heap.size + 4) := E4
  clear ha hp hL hbad fin E4
  go_enter Try.func25, Try.ntmps25
  go_wp2_with fail
  refine (implValid_any a p n c m q S L F fuel dead _ (HP.out.below (below_alloc4 _ _ _ _ _)) hn hm).mono ?_
  rintro e w1 ⟨⟨b1, rfl, hv1⟩, hb1⟩
  rw [HE4.out] at hb1
  have K1 : Hid (Below (w.heap.size + 4) ((((w.alloc _).alloc _).alloc _).alloc _) w1) := hb1
  have hc1 : ∀ b o, b < w.heap.size + 4 → w1.cell? ⟨b, o, none⟩ = _ := fun b o hb => hb1.cell (p := ⟨b, o, none⟩) hb
  have hf1 : ∀ b o, b < w.heap.size + 4 → w1.frozen? ⟨b, o, none⟩ = _ := fun b o hb => hb1.frozen (p := ⟨b, o, none⟩) hb
  clear hb1
  cases b1 with
  | false =>
    clear hv1
    go_wp2_with fail
    refine (copyDisk_any a p n c m q d S L F fuel dead w1 (HA.out.below (HFIN.out _ K1.out)) (HP.out.below (HFIN.out _ K1.out)) hn hm HLL.out).mono ?_
    rintro e w9 ⟨a9, c9, p9, q9, A9, rfl, ho9, hb9⟩
    have z9 : w.heap.size + 4 ≤ w1.heap.size := by have := K1.out.size; rw [HE4.out] at this; exact this
    have K9 : Below (w.heap.size + 4) ((((w.alloc _).alloc _).alloc _).alloc _) w9 := K1.out.trans (hb9.mono z9)
    have hc9 : ∀ b o, b < w.heap.size + 4 → w9.cell? ⟨b, o, none⟩ = _ := fun b o hb => K9.cell (p := ⟨b, o, none⟩) hb
    have hf9 : ∀ b o, b < w.heap.size + 4 → w9.frozen? ⟨b, o, none⟩ = _ := fun b o hb => K9.frozen (p := ⟨b, o, none⟩) hb
    have hz9 : w.heap.size + 3 < w9.heap.size := by have := hb9.size; omega
    have HX : Hid (OwnD w9 (w.heap.size + 4) a9 n d p9 m S L F A9 ∧ Below w.heap.size w w9) := ⟨ho9.mono z9, HFIN.out _ K9⟩
    clear ho9 hb9 K9 hc1 hf1
    go_wp2
    refine bodyPost_ret (v := .agg #[.slice a9 n c9, .slice p9 m q9, .int .i64 fuel, .bool dead]) (by simp [results, Try.results25, go_sem, hc9]) rfl ⟨a9, c9, p9, q9, A9, rfl, ?_, ?_⟩
    · exact ((((HX.out.1.setOther (by simp) _).setOther (by simp) _).setOther (by simp) _).setOther (by simp) _).mono (by omega)
    · exact (((HX.out.2.setCell (by simp; try omega) _).setCell (by simp; try omega) _).setCell (by simp; try omega) _).setCell (by simp; try omega) _
  | true =>
    have HV : Hid (VD n m S L fuel) := hv1.1 rfl
    clear hv1
    go_wp2_with fail
    refine (hasSector_any a p n c m q fuel dead s w1 hn).mono ?_
    rintro e w2 ⟨⟨b2, rfl, hv2⟩, hb2⟩
    have z1 : w.heap.size + 4 ≤ w1.heap.size := by have := K1.out.size; rw [HE4.out] at this; exact this
    have K2 : Hid (Below (w.heap.size + 4) ((((w.alloc _).alloc _).alloc _).alloc _) w2) := K1.out.trans (hb2.mono z1)
    clear hc1 hf1
    have hc1 : ∀ b o, b < w.heap.size + 4 → w2.cell? ⟨b, o, none⟩ = _ := fun b o hb => K2.out.cell (p := ⟨b, o, none⟩) hb
    have hf1 : ∀ b o, b < w.heap.size + 4 → w2.frozen? ⟨b, o, none⟩ = _ := fun b o hb => K2.out.frozen (p := ⟨b, o, none⟩) hb
    clear hb2
    cases b2 with
    | false =>
      clear hv2
      go_wp2_with fail
      refine (copyDisk_any a p n c m q d S L F fuel dead w2 (HA.out.below (HFIN.out _ K2.out)) (HP.out.below (HFIN.out _ K2.out)) hn hm HLL.out).mono ?_
      rintro e w9 ⟨a9, c9, p9, q9, A9, rfl, ho9, hb9⟩
      have z9 : w.heap.size + 4 ≤ w2.heap.size := by have := K2.out.size; rw [HE4.out] at this; exact this
      have K9 : Below (w.heap.size + 4) ((((w.alloc _).alloc _).alloc _).alloc _) w9 := K2.out.trans (hb9.mono z9)
      have hc9 : ∀ b o, b < w.heap.size + 4 → w9.cell? ⟨b, o, none⟩ = _ := fun b o hb => K9.cell (p := ⟨b, o, none⟩) hb
      have hf9 : ∀ b o, b < w.heap.size + 4 → w9.frozen? ⟨b, o, none⟩ = _ := fun b o hb => K9.frozen (p := ⟨b, o, none⟩) hb
      have hz9 : w.heap.size + 3 < w9.heap.size := by have := hb9.size; omega
      have HX : Hid (OwnD w9 (w.heap.size + 4) a9 n d p9 m S L F A9 ∧ Below w.heap.size w w9) := ⟨ho9.mono z9, HFIN.out _ K9⟩
      clear ho9 hb9 K9 hc1 hf1
      go_wp2
      refine bodyPost_ret (v := .agg #[.slice a9 n c9, .slice p9 m q9, .int .i64 fuel, .bool dead]) (by simp [results, Try.results25, go_sem, hc9]) rfl ⟨a9, c9, p9, q9, A9, rfl, ?_, ?_⟩
      · exact ((((HX.out.1.setOther (by simp) _).setOther (by simp) _).setOther (by simp) _).setOther (by simp) _).mono (by omega)
      · exact (((HX.out.2.setCell (by simp; try omega) _).setCell (by simp; try omega) _).setCell (by simp; try omega) _).setCell (by simp; try omega) _
    | true =>
      have hne : ¬ dl = 64 := fun e => HBAD.out ⟨HV.out, hv2.1 rfl, e⟩
      have hne' : ((dl : Int) != 64) = true := by rw [bne_iff_ne]; omega
      clear hv2 hne
      go_wp2_with fail
      refine (copyDisk_any a p n c m q d S L F fuel dead w2 (HA.out.below (HFIN.out _ K2.out)) (HP.out.below (HFIN.out _ K2.out)) hn hm HLL.out).mono ?_
      rintro e w9 ⟨a9, c9, p9, q9, A9, rfl, ho9, hb9⟩
      have z9 : w.heap.size + 4 ≤ w2.heap.size := by have := K2.out.size; rw [HE4.out] at this; exact this
      have K9 : Below (w.heap.size + 4) ((((w.alloc _).alloc _).alloc _).alloc _) w9 := K2.out.trans (hb9.mono z9)
      have hc9 : ∀ b o, b < w.heap.size + 4 → w9.cell? ⟨b, o, none⟩ = _ := fun b o hb => K9.cell (p := ⟨b, o, none⟩) hb
      have hf9 : ∀ b o, b < w.heap.size + 4 → w9.frozen? ⟨b, o, none⟩ = _ := fun b o hb => K9.frozen (p := ⟨b, o, none⟩) hb
      have hz9 : w.heap.size + 3 < w9.heap.size := by have := hb9.size; omega
      have HX : Hid (OwnD w9 (w.heap.size + 4) a9 n d p9 m S L F A9 ∧ Below w.heap.size w w9) := ⟨ho9.mono z9, HFIN.out _ K9⟩
      clear ho9 hb9 K9 hc1 hf1
      go_wp2
      refine bodyPost_ret (v := .agg #[.slice a9 n c9, .slice p9 m q9, .int .i64 fuel, .bool dead]) (by simp [results, Try.results25, go_sem, hc9]) rfl ⟨a9, c9, p9, q9, A9, rfl, ?_, ?_⟩
      · exact ((((HX.out.1.setOther (by simp) _).setOther (by simp) _).setOther (by simp) _).setOther (by simp) _).mono (by omega)
      · exact (((HX.out.2.setCell (by simp; try omega) _).setCell (by simp; try omega) _).setCell (by simp; try omega) _).setCell (by simp; try omega) _

/-- What a write does to a device, whatever the world. -/
def WriteDoes (w0 : World) (n m : Nat) (d S : Nat → Int) (L : Nat → Nat) (F : Nat → Nat → Int) (fuel : Int) (dead : Bool) (s : Int) (ad : Option Addr) (cp : Nat) (m2 : Nat) (S2 : Nat → Int) (L2 : Nat → Nat) (F2 : Nat → Nat → Int) (fuel2 : Int) (dead2 : Bool) : Prop :=
  ∀ (W : World) (b B : Nat) (a' p' : Option Addr) (c' q' : Nat) (A : Nat → Option Addr) (C : Nat → Nat), Dev W b (.slice a' n c') (.slice p' m q') fuel dead → OwnB W B a' n d → Gath W B (.slice p' m q') m S L F A C → (n ≠ 0 → ∀ i, i < m → L i ≠ 0 → A i ≠ a') → B ≤ b → w0.heap.size ≤ B → Below w0.heap.size w0 W →
    Calls Try.prog 50 #[.pointer (some ⟨b, 0, none⟩), .int .i64 s, .slice ad 64 cp] W fun e w' => Stepped e ∧ Left W b B n w' d m2 S2 L2 F2 fuel2 dead2

theorem does_full (w0 : World) (n : Nat) (d S : Nat → Int) (L : Nat → Nat) (F : Nat → Nat → Int) (fuel : Int) (dead : Bool) (s : Int) (ad : Option Addr) (cp : Nat) : WriteDoes w0 n 2000 d S L F fuel dead s ad cp 2000 S L F fuel dead := by
  intro W b B a' p' c' q' A C hd ho hg hx hBb hB hbel
  refine (write_full b q' p' _ fuel dead s ad cp W hd).mono ?_
  rintro e w' ⟨rfl, hw⟩
  subst hw
  exact ⟨Or.inl rfl, a', c', p', q', A, C, hd, ho, hg, hx, Below.refl _ _⟩

theorem does_zero (w0 : World) (n m : Nat) (d S : Nat → Int) (L : Nat → Nat) (F : Nat → Nat → Int) (dead : Bool) (s : Int) (ad : Option Addr) (cp : Nat) (hm : m < 2000) : WriteDoes w0 n m d S L F 0 dead s ad cp m S L F 0 true := by
  intro W b B a' p' c' q' A C hd ho hg hx hBb hB hbel
  refine (write_zero b m q' p' _ dead s ad cp W hd hm).mono ?_
  rintro e w' ⟨rfl, hd', hon⟩
  exact ⟨Or.inr rfl, a', c', p', q', A, C, hd', ho.onlyDev hd hon, hg.onlyDev hd hon, hx, hon.below (fun x e => by injection e with e; subst e; exact hBb)⟩

theorem does_dead (w0 : World) (n m : Nat) (d S : Nat → Int) (L : Nat → Nat) (F : Nat → Nat → Int) (fuel : Int) (s : Int) (ad : Option Addr) (cp : Nat) (hf : fuel ≠ 0) (hm : m < 2000) : WriteDoes w0 n m d S L F fuel true s ad cp m S L F fuel true := by
  intro W b B a' p' c' q' A C hd ho hg hx hBb hB hbel
  refine (write_dead b m q' p' _ fuel s ad cp W hd hf hm).mono ?_
  rintro e w' ⟨rfl, hw⟩
  subst hw
  exact ⟨Or.inr rfl, a', c', p', q', A, C, hd, ho, hg, hx, Below.refl _ _⟩

theorem does_live (w0 : World) (n m : Nat) (d S : Nat → Int) (L : Nat → Nat) (F : Nat → Nat → Int) (fuel : Int) (s : Int) (ad : Option Addr) (cp : Nat) (f : Nat → Int) (hf : fuel ≠ 0) (h1 : -1 ≤ fuel) (h2 : fuel ≤ 1000000) (hm : m < 2000) (hrd : Rd .u8 w0 ad 64 f) (hlo : ∀ x, ad = some x → x.block < w0.heap.size) :
    WriteDoes w0 n m d S L F fuel false s ad cp (m + 1) (fun i => if i = m then s else S i) (fun i => if i = m then 64 else L i) (fun i => if i = m then f else F i) (fuelAfter fuel) false := by
  intro W b B a' p' c' q' A C hd ho hg hx hBb hB hbel
  refine (write_live b m q' B p' _ fuel s ad cp S L F A C f W hd hf h1 h2 hm hg (hrd.below hbel) hBb (fun x e => Nat.lt_of_lt_of_le (hlo x e) hB)).mono ?_
  rintro e w' ⟨rfl, v', A', C', hd', hg', hA, hAm, hb', hkb⟩
  obtain ⟨p2, q2, hv⟩ := owns_shape hg'.row
  subst hv
  have ho' : OwnB w' B a' n d := by
    rcases ho with h0 | ⟨g, rfl, hgB, hr⟩
    · exact Or.inl h0
    · exact Or.inr ⟨g, rfl, hgB, hkb _ _ _ hr⟩
  refine ⟨Or.inl rfl, a', c', p2, q2, A', C', hd', ho', hg', fun hn i hi hl => ?_, hb'⟩
  by_cases e : i = m
  · subst e
    intro ea
    rcases ho with h0 | ⟨g, rfl, hgB, hr⟩
    · exact hn h0
    · have q1 := hAm _ ea
      have q2 := hr.lt
      simp at q1
      omega
  · have hi' : i < m := by omega
    rw [hA i hi']
    simp [e] at hl
    exact hx hn i hi' hl

set_option maxHeartbeats 1000000 in
theorem implWrite_good (a p ad : Option Addr) (n c m q cp : Nat) (d S : Nat → Int) (L : Nat → Nat) (F : Nat → Nat → Int) (fuel : Int) (dead : Bool) (s : Int) (w : World) (ha : Rd .u8 w a n d) (hp : RdP w p m S L F) (hv : VD n m S L fuel) (hs : 0 ≤ s ∧ s < (n : Int) / 64) (hn : n ≤ 1048576) (hm : m ≤ 1048576) (hL : ∀ i, i < m → L i ≤ 1048576)
    (m2 : Nat) (S2 : Nat → Int) (L2 : Nat → Nat) (F2 : Nat → Nat → Int) (fuel2 : Int) (dead2 : Bool) (hdo : WriteDoes w n m d S L F fuel dead s ad cp m2 S2 L2 F2 fuel2 dead2) :
    Calls Try.prog 25 #[.agg #[.slice a n c, .slice p m q, .int .i64 fuel, .bool dead], .int .i64 s, .slice ad 64 cp] w fun e w' => RetD w e w' n d m2 S2 L2 F2 fuel2 dead2 := by
  have hmf : ∀ (fn : Fn) (first cap : Array Value) (w : World), (Instr.makeFunc fn first cap).run Try.prog w = .ok (.func fn first cap) w := fun _ _ _ _ => rfl
  have HA : Hid (Rd .u8 w a n d) := ha
  have HP : Hid (RdP w p m S L F) := hp
  have HLL : Hid (∀ i, i < m → L i ≤ 1048576) := hL
  have HV : Hid (VD n m S L fuel) := hv
  have HS : Hid (0 ≤ s ∧ s < (n : Int) / 64) := hs
  have HDO : Hid (WriteDoes w n m d S L F fuel dead s ad cp m2 S2 L2 F2 fuel2 dead2) := hdo
  have HFIN : Hid (∀ W : World, Below (w.heap.size + 4) ((((w.alloc (.cells #[.slice a n c, .slice p m q, .int .i64 fuel, .bool dead] 25)).alloc (.cells #[.int .i64 s] 2)).alloc (.cells #[.slice ad 64 cp] 22)).alloc (.cells #[.slice none 0 0, .slice none 0 0, .int .i64 0, .bool false] 25)) W →
      Below w.heap.size w W) := fun W h => (below_alloc4 _ _ _ _ _).trans (h.mono (by omega))
  have HE4 : Hid (∀ o1 o2 o3 o4, ((((w.alloc o1).alloc o2).alloc o3).alloc o4).heap.size = w.heap.size + 4) := fun _ _ _ _ => by simp
  clear ha hp hL hv hs hdo
  go_enter Try.func25, Try.ntmps25
  go_wp2_with fail
  refine (implValid_any a p n c m q S L F fuel dead _ (HP.out.below (below_alloc4 _ _ _ _ _)) hn hm).mono ?_
  rintro e w1 ⟨h1, hb1⟩
  have := ans_true' h1 HV.out
  subst this
  rw [HE4.out] at hb1
  have K1 : Hid (Below (w.heap.size + 4) ((((w.alloc _).alloc _).alloc _).alloc _) w1) := hb1
  have hc1 : ∀ b o, b < w.heap.size + 4 → w1.cell? ⟨b, o, none⟩ = _ := fun b o hb => hb1.cell (p := ⟨b, o, none⟩) hb
  clear hb1 h1
  go_wp2_with fail
  refine (hasSector_any a p n c m q fuel dead s w1 hn).mono ?_
  rintro e w2 ⟨h2, hb2⟩
  have := ans_true' h2 HS.out
  subst this
  have z1 : w.heap.size + 4 ≤ w1.heap.size := by have := K1.out.size; rw [HE4.out] at this; exact this
  have K2 : Hid (Below (w.heap.size + 4) ((((w.alloc _).alloc _).alloc _).alloc _) w2) := K1.out.trans (hb2.mono z1)
  have z2 := hb2.size
  clear hc1 hb2 h2
  have hc2 : ∀ b o, b < w.heap.size + 4 → w2.cell? ⟨b, o, none⟩ = _ := fun b o hb => K2.out.cell (p := ⟨b, o, none⟩) hb
  have e1 : w2.cell? ⟨w.heap.size + 1, 0, none⟩ = some (.int .i64 s) := by
    rw [hc2 _ _ (by omega), (below_alloc2' _ _ _).cell (p := ⟨w.heap.size + 1, 0, none⟩) (by simp)]
    simp
  have e2 : w2.cell? ⟨w.heap.size + 2, 0, none⟩ = some (.slice ad 64 cp) := by
    rw [hc2 _ _ (by omega), (below_alloc _ _).cell (p := ⟨w.heap.size + 2, 0, none⟩) (by simp)]
    exact cellNew _ _ _ _ (by simp)
  have HST : Hid (∀ (W : World) (b B : Nat) (a' p' : Option Addr) (c' q' : Nat) (A : Nat → Option Addr) (C : Nat → Nat), Dev W b (.slice a' n c') (.slice p' m q') fuel dead → OwnB W B a' n d → Gath W B (.slice p' m q') m S L F A C → (n ≠ 0 → ∀ i, i < m → L i ≠ 0 → A i ≠ a') → B ≤ b → w2.heap.size + 2 ≤ B → Below w2.heap.size w2 W →
      Calls Try.prog 49 #[.pointer (some ⟨b, 0, none⟩), .pointer (some ⟨w.heap.size + 1, 0, none⟩), .pointer (some ⟨w.heap.size + 1 + 1, 0, none⟩)] W fun e w' => Stepped e ∧ Left W b B n w' d m2 S2 L2 F2 fuel2 dead2) := by
    intro W b B a' p' c' q' A C q1 q2 q3 q4 q5 q6 q7
    refine closure_write b _ _ s ad cp W _ ((q7.cell (p := ⟨w.heap.size + 1, 0, none⟩) (by show w.heap.size + 1 < w2.heap.size; omega)).trans e1) ((q7.cell (p := ⟨w.heap.size + 2, 0, none⟩) (by show w.heap.size + 2 < w2.heap.size; omega)).trans e2) ?_
    exact HDO.out W b B a' p' c' q' A C q1 q2 q3 q4 q5 (by omega) ((HFIN.out _ K2.out).trans (q7.mono (by omega)))
  clear e1 e2
  go_wp2_with fail
  refine (runSteps_write a p n c m q d S L F fuel dead _ _ w2 (HA.out.below (HFIN.out _ K2.out)) (HP.out.below (HFIN.out _ K2.out)) hn hm HLL.out d m2 S2 L2 F2 fuel2 dead2 HST.out).mono ?_
  rintro e w9 ⟨a9, c9, p9, q9, A9, rfl, ho9, hb9⟩
  have K9 : Below (w.heap.size + 4) ((((w.alloc _).alloc _).alloc _).alloc _) w9 := K2.out.trans (hb9.mono (by omega))
  have hc9 : ∀ b o, b < w.heap.size + 4 → w9.cell? ⟨b, o, none⟩ = _ := fun b o hb => K9.cell (p := ⟨b, o, none⟩) hb
  have hf9 : ∀ b o, b < w.heap.size + 4 → w9.frozen? ⟨b, o, none⟩ = _ := fun b o hb => K9.frozen (p := ⟨b, o, none⟩) hb
  have hz9 : w.heap.size + 3 < w9.heap.size := by have := hb9.size; omega
  have HX : Hid (OwnD w9 (w.heap.size + 4) a9 n d p9 m2 S2 L2 F2 A9 ∧ Below w.heap.size w w9) := ⟨ho9.mono (by omega), HFIN.out _ K9⟩
  clear ho9 hb9 K9 hc2 HST
  go_wp2
  refine bodyPost_ret (v := .agg #[.slice a9 n c9, .slice p9 m2 q9, .int .i64 fuel2, .bool dead2]) (by simp [results, Try.results25, go_sem, hc9]) rfl ⟨a9, c9, p9, q9, A9, rfl, ?_, ?_⟩
  · exact ((((HX.out.1.setOther (by simp) _).setOther (by simp) _).setOther (by simp) _).setOther (by simp) _).mono (by omega)
  · exact (((HX.out.2.setCell (by simp; try omega) _).setCell (by simp; try omega) _).setCell (by simp; try omega) _).setCell (by simp; try omega) _
end Go.Proofs.Ytnbfgkichineiaa
