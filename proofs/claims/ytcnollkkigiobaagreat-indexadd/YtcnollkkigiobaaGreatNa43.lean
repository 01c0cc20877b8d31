import Derived.Test.YtcnollkkigiobaaGreatNa29
import Derived.Test.YtcnollkkigiobaaGreatNa42
import Derived.Test.YtcnollkkigiobaaGreatNa37
import Derived.Test.YtcnollkkigiobaaGreatNa39
set_option linter.unusedVariables false
set_option maxRecDepth 100000
namespace Go.Proofs.YtcnollkkigiobaaGreat
open Go.RowKit Go.Deep

def RdIxC (w:World) (a:Option Addr) (n:Nat) (M:Nat -> Nat) (T:Nat -> Nat -> Tn):Prop :=
  n = 0 \/ ∃ b o,a = some ⟨b,o,none⟩ /\ ∀ i,i < n -> ∃ ai ci,w.cell? ⟨b,o + i,none⟩ = some (.slice ai (M i) ci) /\ RdTnC capC w ai (M i) (T i)
theorem RdIxC.rd {w:World} {a:Option Addr} {n:Nat} {M:Nat -> Nat} {T:Nat -> Nat -> Tn} (h:RdIxC w a n M T):RdIx w a n M T := by
  rcases h with h | ⟨b,o,e,hc⟩
  · exact .inl h
  · refine .inr ⟨b,o,e,fun i hi => ?_⟩
    obtain ⟨ai,ci,h0,h1⟩ := hc i hi
    exact ⟨ai,ci,h0,h1.rd⟩
def AddOk (n:Nat) (M:Nat -> Nat) (T:Nat -> Nat -> Tn) (q:Qd):Prop := VI n M T /\ quadB q = true /\ ∀ t,VTt (M 0) (T 0) t -> q ∉ (keysR 21 t).map (quadOf 0) /\ (keysR 21 t).length ≠ 300
def InsD (m0:Nat) (N0:Nat -> Tn) (key:ByteArray) (m:Nat) (N:Nat -> Tn):Prop := InsTo m0 N0 key m N \/ (m = m0 /\ N = N0 /\ InsNo m0 N0 key)
def RetA (w:World) (n:Nat) (M:Nat -> Nat) (T:Nat -> Nat -> Tn) (q:Qd) (e:Ending) (w' : World):Prop :=
  Below w.heap.size w w' /\ ((AddOk n M T q /\ ∃ a c M' T' us lo hi,e = .returned (.agg #[.bool true,.slice a 6 c]) /\ RowI TreeRd w' (w.heap.size + 3) (.slice a 6 c) 6 M' T' us lo hi /\ ∀ i,i < 6 -> InsD (M i) (T i) (keyOf i q) (M' i) (T' i)) \/
    (¬ AddOk n M T q /\ ∃ a c us lo hi,e = .returned (.agg #[.bool false,.slice a n c]) /\ RowI TreeRd w' (w.heap.size + 3) (.slice a n c) n M T us lo hi))
set_option maxHeartbeats 8000000 in
theorem specIA (a:Option Addr) (n c:Nat) (M:Nat -> Nat) (T:Nat -> Nat -> Tn) (q:Qd) (w:World) (h:RdIxC w a n M T) (hn:n <= 1048576) (hN:IxFit n M T) :
    Calls Tryz.prog 17 #[.agg #[.slice a n c],qv q] w (RetA w n M T q) := by
  have HR:Hid (RdIxC w a n M T /\ IxFit n M T) := ⟨h,hN⟩
  clear h hN
  obtain ⟨W0,hW0⟩:∃ W0,W0 = ((w.alloc (.cells #[.slice a n c] 32)).alloc (.cells #[.int .i64 q.s,.int .i64 q.p,.int .i64 q.o,.int .i64 q.g] 34)).alloc (.cells #[.bool false,.slice none 0 0] 42) := ⟨_,rfl⟩
  have B0:Hid (Bx W0 w.heap.size 32 #[.slice a n c] /\ Bx W0 (w.heap.size + 1) 34 #[.int .i64 q.s,.int .i64 q.p,.int .i64 q.o,.int .i64 q.g] /\ Bx W0 (w.heap.size + 2) 42 #[.bool false,.slice none 0 0] /\ Below w.heap.size w W0 /\ W0.heap.size = w.heap.size + 3) := by
    have b1 := Bx.new w #[.slice a n c] 32
    have b2 := Bx.new (w.alloc (.cells #[.slice a n c] 32)) #[.int .i64 q.s,.int .i64 q.p,.int .i64 q.o,.int .i64 q.g] 34
    have b3 := Bx.new ((w.alloc (.cells #[.slice a n c] 32)).alloc (.cells #[.int .i64 q.s,.int .i64 q.p,.int .i64 q.o,.int .i64 q.g] 34)) #[.bool false,.slice none 0 0] 42
    simp only [World.size_alloc] at b2 b3
    rw [hW0]
    exact ⟨(b1.alloc _).alloc _,b2.alloc _,b3,((below_alloc _ _).alloc (by simp) _).alloc (by simp; omega) _,by simp⟩
  have HBel:Hid (∀ W,Below (w.heap.size + 3) W0 W -> Below w.heap.size w W) := fun W hb => B0.out.2.2.2.1.trans (hb.mono (by omega))
  have HCe:Hid (∀ W,Below (w.heap.size + 3) W0 W -> W.cell? ⟨w.heap.size,0,none⟩ = some (.slice a n c) /\ (W.cell? ⟨w.heap.size + 1,0,none⟩ = some (.int .i64 q.s) /\ W.cell? ⟨w.heap.size + 1,1,none⟩ = some (.int .i64 q.p) /\ W.cell? ⟨w.heap.size + 1,2,none⟩ = some (.int .i64 q.o) /\ W.cell? ⟨w.heap.size + 1,3,none⟩ = some (.int .i64 q.g)) /\ W.cell? ⟨w.heap.size + 2,0,none⟩ = some (.bool false) /\ W.cell? ⟨w.heap.size + 2,1,none⟩ = some (.slice none 0 0) /\ w.heap.size + 2 < W.heap.size /\ ∀ i,W.frozen? ⟨w.heap.size + 2,i,none⟩ = false) := fun W hb => by
    have b1 := B0.out.1.below' hb (by omega)
    have b2 := B0.out.2.1.below' hb (by omega)
    have b3 := B0.out.2.2.1.below' hb (by omega)
    exact ⟨b1.cell 0,⟨b2.cell 0,b2.cell 1,b2.cell 2,b2.cell 3⟩,b3.cell 0,b3.cell 1,b3.lt,fun i => b3.frozen i⟩
  have HVi:Hid (∀ W,Below (w.heap.size + 3) W0 W -> Calls Tryz.prog 25 #[.agg #[.slice a n c]] W (AnsN W (VI n M T))) := fun W hb => specVI a n c M T W (HR.out.1.rd.below (HBel.out W hb)) hn HR.out.2
  have HGq:Hid (∀ W:World,Calls Tryz.prog 41 #[.agg #[.int .i64 q.s,.int .i64 q.p,.int .i64 q.o,.int .i64 q.g]] W fun e w' => e = .returned (.bool (quadB q)) /\ Below W.heap.size W w') := fun W => l5Good_any q W
  have HNx:Hid (∀ W W' : World,Below (w.heap.size + 3) W0 W -> Below W.heap.size W W' -> Below (w.heap.size + 3) W0 W') := fun W W' h1 h2 => h1.trans (h2.mono (by have := h1.size; rw [B0.out.2.2.2.2] at this; exact this))
  unfold qv
  go_enter Tryz.func17,Tryz.ntmps17
  go_upto_region 1 with fail
  rw [<- hW0]
  clear hW0
  obtain ⟨x0,⟨q0,q1,q2,q3⟩,_⟩ := HCe.out W0 (Below.refl _ _)
  go_wp2_with fail
  (with_reducible refine (HVi.out W0 (Below.refl _ _)).mono ?_)
  rintro e w1 ⟨bv,rfl,hbv,hb1⟩
  have K1:Hid (Below (w.heap.size + 3) W0 w1) := HNx.out W0 w1 (Below.refl _ _) hb1
  have HV:Hid (bv = true ↔ VI n M T) := hbv
  clear hb1 hbv HVi x0 q0 q1 q2 q3
  cases bv with
  | false =>
    have HNO:Hid (¬ AddOk n M T q) := fun hk => by
      have := HV.out.2 hk.1
      cases this
    have f0 := (HCe.out w1 K1.out).1
    obtain ⟨fr0,fr1,frz,frf⟩ := (HCe.out w1 K1.out).2.2
    have HCp:Hid (Calls Tryz.prog 42 #[.agg #[.slice a n c]] w1 (RetCs w1 n M T)) := l5Copy_any a n c M T w1 (HR.out.1.rd.below (HBel.out w1 K1.out)) hn HR.out.2
    go_wp2_with fail
    (with_reducible refine HCp.out.mono ?_)
    rintro e wz ⟨az,cz,us,lo,hi,rfl,hrz,hbz⟩
    have HZz:Hid (Below (w.heap.size + 3) W0 wz /\ RowI TreeRd wz (w.heap.size + 3) (.slice az n cz) n M T us lo hi) := by
      have q1 := K1.out
      have q2:w.heap.size + 3 <= w1.heap.size := by
        have := q1.size
        rw [B0.out.2.2.2.2] at this
        exact this
      exact ⟨q1.trans (hbz.mono q2),hrz.low (by omega)⟩
    obtain ⟨gr0,gr1,grz,grf⟩ := (HCe.out wz HZz.out.1).2.2
    clear f0 fr0 fr1 frz frf hrz hbz
    go_wp2
    refine bodyPost_ret (v := .agg #[.bool false,.slice az n cz]) (by simp [results,Tryz.results17,go_sem,gr0,gr1]) rfl ⟨((HBel.out wz HZz.out.1).setCell (by simp; try omega) _).setCell (by simp; try omega) _,.inr ⟨HNO.out,az,cz,us,lo,hi,rfl,?_⟩⟩
    exact (HZz.out.2.setO TreeRd.pl (by simp) _).setO TreeRd.pl (by simp) _
  | true =>
  have hvi:VI n M T := HV.out.1 rfl
  have e6:n = 6 := hvi.1
  subst e6
  have HVv:Hid (VI 6 M T) := hvi
  clear hvi HV
  obtain ⟨x0,⟨q0,q1,q2,q3⟩,_⟩ := HCe.out w1 K1.out
  go_wp2_with fail
  (with_reducible refine (HGq.out _).mono ?_)
  rintro e w2 ⟨rfl,hb2⟩
  have K2:Hid (Below (w.heap.size + 3) W0 w2) := HNx.out w1 w2 K1.out hb2
  clear hb2 HGq x0 q0 q1 q2 q3 K1
  cases hgq:quadB q with
  | false =>
    have HNO:Hid (¬ AddOk 6 M T q) := fun hk => by
      have := hk.2.1
      rw [hgq] at this
      cases this
    have f0 := (HCe.out w2 K2.out).1
    obtain ⟨fr0,fr1,frz,frf⟩ := (HCe.out w2 K2.out).2.2
    have HCp:Hid (Calls Tryz.prog 42 #[.agg #[.slice a 6 c]] w2 (RetCs w2 6 M T)) := l5Copy_any a 6 c M T w2 (HR.out.1.rd.below (HBel.out w2 K2.out)) hn HR.out.2
    go_wp2_with fail
    (with_reducible refine HCp.out.mono ?_)
    rintro e wz ⟨az,cz,us,lo,hi,rfl,hrz,hbz⟩
    have HZz:Hid (Below (w.heap.size + 3) W0 wz /\ RowI TreeRd wz (w.heap.size + 3) (.slice az 6 cz) 6 M T us lo hi) := by
      have q1 := K2.out
      have q2:w.heap.size + 3 <= w2.heap.size := by
        have := q1.size
        rw [B0.out.2.2.2.2] at this
        exact this
      exact ⟨q1.trans (hbz.mono q2),hrz.low (by omega)⟩
    obtain ⟨gr0,gr1,grz,grf⟩ := (HCe.out wz HZz.out.1).2.2
    clear f0 fr0 fr1 frz frf hrz hbz
    go_wp2
    refine bodyPost_ret (v := .agg #[.bool false,.slice az 6 cz]) (by simp [results,Tryz.results17,go_sem,gr0,gr1]) rfl ⟨((HBel.out wz HZz.out.1).setCell (by simp; try omega) _).setCell (by simp; try omega) _,.inr ⟨HNO.out,az,cz,us,lo,hi,rfl,?_⟩⟩
    exact (HZz.out.2.setO TreeRd.pl (by simp) _).setO TreeRd.pl (by simp) _
  | true =>
  obtain ⟨t0,ht0,hl0,hg0⟩ := HVv.out.2.1 0 (by omega)
  obtain ⟨L0,hL0⟩:∃ L0,L0 = (keysR 21 t0).map (quadOf 0) := ⟨_,rfl⟩
  have hl300:L0.length <= 300 := by rw [hL0,List.length_map]; exact hl0
  have HOk:Hid (AddOk 6 M T q ↔ q ∉ L0 /\ L0.length ≠ 300) := by
    constructor
    · intro hk
      have := hk.2.2 t0 ht0
      rw [hL0,List.length_map]
      exact this
    · intro hk
      refine ⟨HVv.out,hgq,fun t ht => ?_⟩
      have e := vtt1 ht ht0
      subst e
      rw [hL0,List.length_map] at hk
      exact hk
  obtain ⟨bb,oo,ea,hbb,hrows⟩:∃ bb oo,a = some ⟨bb,oo,none⟩ /\ bb < w.heap.size /\ ∀ i,i < 6 -> ∃ ai ci,w.cell? ⟨bb,oo + i,none⟩ = some (.slice ai (M i) ci) /\ RdTnC capC w ai (M i) (T i) := by
    rcases HR.out.1 with h0 | ⟨bb,oo,e,hc⟩
    · omega
    · obtain ⟨ai,ci,s0,_⟩ := hc 0 (by omega)
      exact ⟨bb,oo,e,World.block_lt_of_cell? _ _ s0,hc⟩
  subst ea
  have HRows:Hid (bb < w.heap.size /\ ∀ i,i < 6 -> ∃ ai ci,w.cell? ⟨bb,oo + i,none⟩ = some (.slice ai (M i) ci) /\ RdTnC capC w ai (M i) (T i)) := ⟨hbb,hrows⟩
  clear hbb hrows
  obtain ⟨x0,⟨q0,q1,q2,q3⟩,_⟩ := HCe.out w2 K2.out
  obtain ⟨a0,c0,s0,hr0⟩ := HRows.out.2 0 (by omega)
  have s0' : w2.cell? ⟨bb,oo,none⟩ = some (.slice a0 (M 0) c0) := by
    rw [(HBel.out w2 K2.out).cell (show (⟨bb,oo,none⟩:Addr).block < w.heap.size from HRows.out.1)]
    simpa using s0
  obtain ⟨ll,hll⟩:∃ ll,ll = L0.length := ⟨_,rfl⟩
  have HQs:Hid (Calls Tryz.prog 33 #[.agg #[.slice a0 (M 0) c0],.int .i64 0] w2 fun e w' => ∃ a' c',e = .returned (.slice a' ll c') /\ RdQ w' a' L0 /\ Below w2.heap.size w2 w') := by
    rw [hll]
    exact l5Quads_any 0 (by omega) a0 (M 0) c0 (T 0) t0 w2 (hr0.rd.below (HBel.out w2 K2.out)) ht0 (HR.out.2 0 (by omega)).2 (fun k hk => (hg0 k hk).1) hl0 L0 hL0
  rw [<- hll] at hl300 HOk
  clear s0 hr0 ht0 hl0 hg0 hL0
  go_wp2_with fail
  (with_reducible refine HQs.out.mono ?_)
  rintro e w3 ⟨a3,c3,rfl,hrq,hb3⟩
  have K3:Hid (Below (w.heap.size + 3) W0 w3) := HNx.out w2 w3 K2.out hb3
  have HHas:Hid (Calls Tryz.prog 43 #[.slice a3 ll c3,.agg #[.int .i64 q.s,.int .i64 q.p,.int .i64 q.o,.int .i64 q.g]] w3 fun e w' => ∃ b:Bool,e = .returned (.bool b) /\ (b = true ↔ q ∈ L0) /\ Below w3.heap.size w3 w') := l5Has_any a3 ll c3 L0 q w3 hrq hll (by omega)
  clear hb3 HQs hrq x0 q0 q1 q2 q3 s0' K2 hll
  obtain ⟨x0,⟨q0,q1,q2,q3⟩,_⟩ := HCe.out w3 K3.out
  go_wp2_with fail
  (with_reducible refine HHas.out.mono ?_)
  rintro e w4 ⟨bh,rfl,hbh,hb4⟩
  have K4:Hid (Below (w.heap.size + 3) W0 w4) := HNx.out w3 w4 K3.out hb4
  have HBh:Hid (bh = true ↔ q ∈ L0) := hbh
  clear hb4 hbh HHas x0 q0 q1 q2 q3 K3
  cases bh with
  | true =>
    have HNO:Hid (¬ AddOk 6 M T q) := fun hk => (HOk.out.1 hk).1 (HBh.out.1 rfl)
    have f0 := (HCe.out w4 K4.out).1
    obtain ⟨fr0,fr1,frz,frf⟩ := (HCe.out w4 K4.out).2.2
    have HCp:Hid (Calls Tryz.prog 42 #[.agg #[.slice (some ⟨bb,oo,none⟩) 6 c]] w4 (RetCs w4 6 M T)) := l5Copy_any (some ⟨bb,oo,none⟩) 6 c M T w4 (HR.out.1.rd.below (HBel.out w4 K4.out)) hn HR.out.2
    go_wp2_with fail
    (with_reducible refine HCp.out.mono ?_)
    rintro e wz ⟨az,cz,us,lo,hi,rfl,hrz,hbz⟩
    have HZz:Hid (Below (w.heap.size + 3) W0 wz /\ RowI TreeRd wz (w.heap.size + 3) (.slice az 6 cz) 6 M T us lo hi) := by
      have q1 := K4.out
      have q2:w.heap.size + 3 <= w4.heap.size := by
        have := q1.size
        rw [B0.out.2.2.2.2] at this
        exact this
      exact ⟨q1.trans (hbz.mono q2),hrz.low (by omega)⟩
    obtain ⟨gr0,gr1,grz,grf⟩ := (HCe.out wz HZz.out.1).2.2
    clear f0 fr0 fr1 frz frf hrz hbz
    go_wp2
    refine bodyPost_ret (v := .agg #[.bool false,.slice az 6 cz]) (by simp [results,Tryz.results17,go_sem,gr0,gr1]) rfl ⟨((HBel.out wz HZz.out.1).setCell (by simp; try omega) _).setCell (by simp; try omega) _,.inr ⟨HNO.out,az,cz,us,lo,hi,rfl,?_⟩⟩
    exact (HZz.out.2.setO TreeRd.pl (by simp) _).setO TreeRd.pl (by simp) _
  | false =>
  by_cases h300:ll = 300
  · have i300:(ll:Int) = 300 := by omega
    have d300:((ll:Int) == 300) = true := by simp [i300]
    have HNO:Hid (¬ AddOk 6 M T q) := fun hk => (HOk.out.1 hk).2 (by first | exact h300 | (rw [h300]))
    have f0 := (HCe.out w4 K4.out).1
    obtain ⟨fr0,fr1,frz,frf⟩ := (HCe.out w4 K4.out).2.2
    have HCp:Hid (Calls Tryz.prog 42 #[.agg #[.slice (some ⟨bb,oo,none⟩) 6 c]] w4 (RetCs w4 6 M T)) := l5Copy_any (some ⟨bb,oo,none⟩) 6 c M T w4 (HR.out.1.rd.below (HBel.out w4 K4.out)) hn HR.out.2
    go_wp2_with fail
    (with_reducible refine HCp.out.mono ?_)
    rintro e wz ⟨az,cz,us,lo,hi,rfl,hrz,hbz⟩
    have HZz:Hid (Below (w.heap.size + 3) W0 wz /\ RowI TreeRd wz (w.heap.size + 3) (.slice az 6 cz) 6 M T us lo hi) := by
      have q1 := K4.out
      have q2:w.heap.size + 3 <= w4.heap.size := by
        have := q1.size
        rw [B0.out.2.2.2.2] at this
        exact this
      exact ⟨q1.trans (hbz.mono q2),hrz.low (by omega)⟩
    obtain ⟨gr0,gr1,grz,grf⟩ := (HCe.out wz HZz.out.1).2.2
    clear f0 fr0 fr1 frz frf hrz hbz
    go_wp2
    refine bodyPost_ret (v := .agg #[.bool false,.slice az 6 cz]) (by simp [results,Tryz.results17,go_sem,gr0,gr1]) rfl ⟨((HBel.out wz HZz.out.1).setCell (by simp; try omega) _).setCell (by simp; try omega) _,.inr ⟨HNO.out,az,cz,us,lo,hi,rfl,?_⟩⟩
    exact (HZz.out.2.setO TreeRd.pl (by simp) _).setO TreeRd.pl (by simp) _
  have i300:¬ (ll:Int) = 300 := by omega
  have d300:((ll:Int) == 300) = false := by simp [i300]
  have HYes:Hid (AddOk 6 M T q) := HOk.out.2 ⟨fun hm => absurd (HBh.out.2 hm) (by decide),h300⟩
  clear HOk HBh h300 i300 hl300 HNx
  have K6:Hid (Bx (w4.alloc (.cells #[.slice none 0 0] 32)) w4.heap.size 32 #[.slice none 0 0] /\ Below (w.heap.size + 3) W0 (w4.alloc (.cells #[.slice none 0 0] 32)) /\ w.heap.size + 3 <= w4.heap.size /\ (w4.alloc (.cells #[.slice none 0 0] 32)).heap.size = w4.heap.size + 1) := by
    have q2:w.heap.size + 3 <= w4.heap.size := by
      have := K4.out.size
      rw [B0.out.2.2.2.2] at this
      exact this
    exact ⟨Bx.new _ _ _,K4.out.trans ((below_alloc _ _).mono q2),q2,by simp⟩
  go_upto_region 7 with fail
  obtain ⟨W6,hW6⟩:∃ W6,W6 = w4.alloc (.cells #[.slice none 0 0] 32) := ⟨_,rfl⟩
  rw [<- hW6] at K6 ⊢
  obtain ⟨b6,hb6⟩:∃ b6,b6 = w4.heap.size := ⟨_,rfl⟩
  rw [<- hb6] at K6 ⊢
  clear hW6 hb6 K4
  go_wp2
  go_loopw [7] (fun i wr => ∃ (k:Nat) (v:Value) (M' : Nat -> Nat) (T' : Nat -> Nat -> Tn) (us:List Value) (lo hi:Nat -> Nat),k <= 6 /\ i = .int .i64 k /\ RowI TreeRd wr (b6 + 1) v k M' T' us lo hi /\ Bx wr b6 32 #[v] /\ Below b6 W6 wr /\ ∀ i,i < k -> InsD (M i) (T i) (keyOf i q) (M' i) (T' i)) (fun i _ => 6 - (intOf i).toNat)
  case atStart => exact ⟨0,_,fun _ => 0,fun _ _ => ⟨false,0,fun _ => { data := #[] },0,fun _ => 0,0⟩,[],_,_,Nat.zero_le _,rfl,RowI.nil _ _ _ _ _,K6.out.1,Below.refl _ _,fun i hi => absurd hi (Nat.not_lt_zero _)⟩
  case round =>
    obtain ⟨k,v,M',T',us,lo,hi,hk,rfl,hrow,hbx,hbel,hins⟩ := hrel
    obtain ⟨av,cv,ev⟩ := hrow.form
    subst ev
    have hz := hbel.size
    have hz6 := K6.out.2.2.2
    have hb63 := K6.out.2.2.1
    have HQ:Hid (RowI TreeRd wr (b6 + 1) (.slice av k cv) k M' T' us lo hi /\ Below b6 W6 wr /\ b6 + 1 <= wr.heap.size /\ Below (w.heap.size + 3) W0 wr /\ Bx wr b6 32 #[.slice av k cv] /\ ∀ i,i < k -> InsD (M i) (T i) (keyOf i q) (M' i) (T' i)) := ⟨hrow,hbel,by omega,K6.out.2.1.trans (hbel.mono hb63),hbx,hins⟩
    have k0:(0:Int) <= (k:Int) := by omega
    by_cases hlt:k < 6
    · have k1:(k:Int) < 6 := by omega
      obtain ⟨x1,⟨p0,p1,p2,p3⟩,_⟩ := HCe.out wr HQ.out.2.2.2.1
      obtain ⟨ai,ci,s9,hrd⟩ := HRows.out.2 k hlt
      have hbw := HBel.out wr HQ.out.2.2.2.1
      have x2:wr.cell? ⟨bb,oo + k,none⟩ = some (.slice ai (M k) ci) := by
        rw [hbw.cell (show (⟨bb,oo + k,none⟩:Addr).block < w.heap.size from HRows.out.1)]
        exact s9
      have x0:wr.cell? ⟨b6,0,none⟩ = some (.slice av k cv) := by
        have := hbx.cell 0
        simpa using this
      obtain ⟨key,hkey⟩:∃ key,key = keyOf k q := ⟨_,rfl⟩
      have HKy:Hid (key = keyOf k q) := hkey
      have HKey:Hid (Calls Tryz.prog 45 #[.agg #[.int .i64 q.s,.int .i64 q.p,.int .i64 q.o,.int .i64 q.g],.int .i64 (k:Int)] wr.drew fun e w' => e = .returned (.string key) /\ Below wr.drew.heap.size wr.drew w') := by
        rw [hkey]
        exact l5Key_any k hlt q (fun i hi => ⟨by have := (part_pos hlt hgq i hi).1; omega,(part_pos hlt hgq i hi).2⟩) wr.drew
      have HC:Hid (∀ W:World,Below wr.heap.size wr W -> Calls Tryz.prog 44 #[.agg #[.slice ai (M k) ci],.string key] W (RetTrN W (M k) (T k) key)) := fun W hW => specInsN ai (M k) ci (T k) key W ((hrd.below hbw).below hW) (HR.out.2 k hlt).1 (HR.out.2 k hlt).2 (by rw [hkey,keyOf_size]; unfold maxLen; omega)
      have HK2:Hid (∀ w2:World,Below wr.heap.size wr w2 -> w2.cell? ⟨b6,0,none⟩ = some (.slice av k cv) /\ w2.cell? ⟨w.heap.size,0,none⟩ = some (.slice (some ⟨bb,oo,none⟩) 6 c) /\ w2.cell? ⟨bb,oo + k,none⟩ = some (.slice ai (M k) ci) /\ w2.cell? ⟨w.heap.size + 1,0,none⟩ = some (.int .i64 q.s) /\ w2.cell? ⟨w.heap.size + 1,1,none⟩ = some (.int .i64 q.p) /\ w2.cell? ⟨w.heap.size + 1,2,none⟩ = some (.int .i64 q.o) /\ w2.cell? ⟨w.heap.size + 1,3,none⟩ = some (.int .i64 q.g)) := fun w2 hb => ⟨(hb.cell (World.block_lt_of_cell? _ _ x0)).trans x0,(hb.cell (World.block_lt_of_cell? _ _ x1)).trans x1,(hb.cell (World.block_lt_of_cell? _ _ x2)).trans x2,(hb.cell (World.block_lt_of_cell? _ _ p0)).trans p0,(hb.cell (World.block_lt_of_cell? _ _ p1)).trans p1,(hb.cell (World.block_lt_of_cell? _ _ p2)).trans p2,(hb.cell (World.block_lt_of_cell? _ _ p3)).trans p3⟩
      have HK3:Hid (∀ w2:World,Below wr.heap.size wr w2 -> ∀ O:Obj,(w2.alloc O).cell? ⟨b6,0,none⟩ = some (.slice av k cv) /\ (w2.alloc O).cell? ⟨w.heap.size,0,none⟩ = some (.slice (some ⟨bb,oo,none⟩) 6 c) /\ (w2.alloc O).cell? ⟨bb,oo + k,none⟩ = some (.slice ai (M k) ci) /\ (w2.alloc O).cell? ⟨w.heap.size + 1,0,none⟩ = some (.int .i64 q.s) /\ (w2.alloc O).cell? ⟨w.heap.size + 1,1,none⟩ = some (.int .i64 q.p) /\ (w2.alloc O).cell? ⟨w.heap.size + 1,2,none⟩ = some (.int .i64 q.o) /\ (w2.alloc O).cell? ⟨w.heap.size + 1,3,none⟩ = some (.int .i64 q.g)) := fun w2 h O => HK2.out _ (h.trans ((below_alloc w2 O).mono h.size))
      have hown:∀ g,(Value.slice av k cv).ownBlock = some g -> b6 + 1 <= g := fun g e => (own_lt HQ.out.1.row g e).1
      have hbb := HRows.out.1
      have HK4:Hid (∀ (w2 w4:World),Below wr.heap.size wr w2 -> ∀ O:Obj,(w2.alloc O).grownBy w4 (Value.slice av k cv).ownBlock -> (w4.cell? ⟨b6,0,none⟩ = some (.slice av k cv) /\ w4.cell? ⟨w.heap.size,0,none⟩ = some (.slice (some ⟨bb,oo,none⟩) 6 c) /\ w4.cell? ⟨bb,oo + k,none⟩ = some (.slice ai (M k) ci) /\ w4.cell? ⟨w.heap.size + 1,0,none⟩ = some (.int .i64 q.s) /\ w4.cell? ⟨w.heap.size + 1,1,none⟩ = some (.int .i64 q.p) /\ w4.cell? ⟨w.heap.size + 1,2,none⟩ = some (.int .i64 q.o) /\ w4.cell? ⟨w.heap.size + 1,3,none⟩ = some (.int .i64 q.g)) /\ w4.frozen? ⟨b6,0,none⟩ = false /\ b6 < w4.heap.size) := fun w2 w4 hb O hg => by
        have bxx:Bx w4 b6 32 #[.slice av k cv] := (keep_block hb hg hown (by omega) (by have := HQ.out.2.2.1; omega)).trans HQ.out.2.2.2.2.1
        have kc:∀ {p:Addr} {u:Value},p.block < b6 + 1 -> wr.cell? p = some u -> w4.cell? p = some u := fun hp hu => (keep_cell hb hg hown hp (World.block_lt_of_cell? _ _ hu)).trans hu
        exact ⟨⟨by have := bxx.cell 0; simpa using this,kc (by show w.heap.size < _; omega) x1,kc (by show bb < _; omega) x2,kc (by show w.heap.size + 1 < _; omega) p0,kc (by show w.heap.size + 1 < _; omega) p1,kc (by show w.heap.size + 1 < _; omega) p2,kc (by show w.heap.size + 1 < _; omega) p3⟩,bxx.frozen 0,bxx.lt⟩
      have HT:Hid (∀ w2:World,Below wr.heap.size wr w2 -> ∀ O:Obj,(w2.alloc O).ownsRow (b6 + 1) 59 1 (.slice av k cv) k us) := fun w2 h O => own_below (own_below HQ.out.1.row h) (below_alloc _ _)
      have HZ:Hid (∀ w2:World,Below wr.heap.size wr w2 -> b6 + 1 <= w2.heap.size) := fun w2 h => Nat.le_trans HQ.out.2.2.1 h.size
      have xd0:wr.drew.cell? ⟨b6,0,none⟩ = some (.slice av k cv) := x0
      have xd1:wr.drew.cell? ⟨w.heap.size,0,none⟩ = some (.slice (some ⟨bb,oo,none⟩) 6 c) := x1
      have xd2:wr.drew.cell? ⟨bb,oo + k,none⟩ = some (.slice ai (M k) ci) := x2
      have xd3:wr.drew.cell? ⟨w.heap.size + 1,0,none⟩ = some (.int .i64 q.s) := p0
      have xd4:wr.drew.cell? ⟨w.heap.size + 1,1,none⟩ = some (.int .i64 q.p) := p1
      have xd5:wr.drew.cell? ⟨w.heap.size + 1,2,none⟩ = some (.int .i64 q.o) := p2
      have xd6:wr.drew.cell? ⟨w.heap.size + 1,3,none⟩ = some (.int .i64 q.g) := p3
      clear hrow hbel hbx hins hrd hown hkey s9 hbw
      go_wp2
      refine wp_region_late (S := (fun w' => w'.cell? ⟨b6,0,none⟩ = some (.slice av k cv) /\ w'.cell? ⟨w.heap.size,0,none⟩ = some (.slice (some ⟨bb,oo,none⟩) 6 c) /\ w'.cell? ⟨bb,oo + k,none⟩ = some (.slice ai (M k) ci) /\ w'.cell? ⟨w.heap.size + 1,0,none⟩ = some (.int .i64 q.s) /\ w'.cell? ⟨w.heap.size + 1,1,none⟩ = some (.int .i64 q.p) /\ w'.cell? ⟨w.heap.size + 1,2,none⟩ = some (.int .i64 q.o) /\ w'.cell? ⟨w.heap.size + 1,3,none⟩ = some (.int .i64 q.g))) 15 (by kernel_rfl) ?_ (fun hHeld => ?_)
      · ((try dsimp only); go_keep)
      refine late_take 0 .zero (v := ?_) (by kernel_rfl) (by kernel_rfl) (by kernel_rfl) (by kernel_rfl) (fun _ _ _ h => h) (by rfl) ?_ (by assumption) ?_
      rotate_left
      · (intro w hSw; (try dsimp only at hSw); go_simp) <;> with_reducible rfl
      simp only [Act.put,List.setIfInBounds_toArray,List.set_cons_zero,List.set_cons_succ]
      refine late_take 1 (.succ .zero) (v := ?_) (by kernel_rfl) (by kernel_rfl) (by kernel_rfl) (by kernel_rfl) (fun _ _ _ h => h) (by rfl) ?_ (by assumption) ?_
      rotate_left
      · (intro w hSw; (try dsimp only at hSw); go_simp) <;> with_reducible rfl
      simp only [Act.put,List.setIfInBounds_toArray,List.set_cons_zero,List.set_cons_succ]
      refine late_take 2 (.succ (.succ .zero)) (v := ?_) (by kernel_rfl) (by kernel_rfl) (by kernel_rfl) (by kernel_rfl) (fun _ _ _ h => h) (by rfl) ?_ (by assumption) ?_
      rotate_left
      · (intro w hSw; (try dsimp only at hSw); go_simp) <;> with_reducible rfl
      simp only [Act.put,List.setIfInBounds_toArray,List.set_cons_zero,List.set_cons_succ]
      refine late_take 3 (.succ (.succ (.succ .zero))) (v := ?_) (by kernel_rfl) (by kernel_rfl) (by kernel_rfl) (by kernel_rfl) (fun _ _ _ h => h) (by rfl) ?_ (by assumption) ?_
      rotate_left
      · (intro w hSw; (try dsimp only at hSw); go_simp) <;> with_reducible rfl
      simp only [Act.put,List.setIfInBounds_toArray,List.set_cons_zero,List.set_cons_succ]
      refine late_take 4 (.succ (.succ (.succ (.succ .zero)))) (v := ?_) (by kernel_rfl) (by kernel_rfl) (by kernel_rfl) (by kernel_rfl) (fun _ _ _ h => h) (by rfl) ?_ (by assumption) ?_
      rotate_left
      · (intro w hSw; (try dsimp only at hSw); go_simp) <;> with_reducible rfl
      simp only [Act.put,List.setIfInBounds_toArray,List.set_cons_zero,List.set_cons_succ]
      refine late_take 5 (.succ (.succ (.succ (.succ (.succ .zero))))) (v := ?_) (by kernel_rfl) (by kernel_rfl) (by kernel_rfl) (by kernel_rfl) (fun _ _ _ h => h) (by rfl) ?_ (by assumption) ?_
      rotate_left
      · (intro w hSw; (try dsimp only at hSw); go_simp) <;> with_reducible rfl
      simp only [Act.put,List.setIfInBounds_toArray,List.set_cons_zero,List.set_cons_succ]
      refine late_take 6 (.succ (.succ (.succ (.succ (.succ (.succ .zero)))))) (v := ?_) (by kernel_rfl) (by kernel_rfl) (by kernel_rfl) (by kernel_rfl) (fun _ _ _ h => h) (by rfl) ?_ (by assumption) ?_
      rotate_left
      · (intro w hSw; (try dsimp only at hSw); go_simp) <;> with_reducible rfl
      simp only [Act.put,List.setIfInBounds_toArray,List.set_cons_zero,List.set_cons_succ]
      refine late_take 7 (.succ (.succ (.succ (.succ (.succ (.succ (.succ .zero))))))) (v := ?_) (by kernel_rfl) (by kernel_rfl) (by kernel_rfl) (by kernel_rfl) (fun _ _ _ h => h) (by rfl) ?_ (by assumption) ?_
      rotate_left
      · (intro w hSw; (try dsimp only at hSw); go_simp) <;> with_reducible rfl
      simp only [Act.put,List.setIfInBounds_toArray,List.set_cons_zero,List.set_cons_succ]
      refine late_take 8 (.succ (.succ (.succ (.succ (.succ (.succ (.succ (.succ .zero)))))))) (v := ?_) (by kernel_rfl) (by kernel_rfl) (by kernel_rfl) (by kernel_rfl) (fun _ _ _ h => h) (by rfl) ?_ (by assumption) ?_
      rotate_left
      · (intro w hSw; (try dsimp only at hSw); go_simp) <;> with_reducible rfl
      simp only [Act.put,List.setIfInBounds_toArray,List.set_cons_zero,List.set_cons_succ]
      refine late_one 9 (.succ (.succ (.succ (.succ (.succ (.succ (.succ (.succ (.succ .zero))))))))) (by kernel_rfl) (fun K hK => ?_)
      (refine step_f2 (by rfl) 45 47 48 _ (by rfl) _ _ (by rfl) (by rfl) (fun _ _ => rfl) ?_; refine HKey.out.mono ?_; rintro e w1 ⟨rfl,hb1⟩; refine ⟨_,rfl,?_⟩; obtain ⟨s0,s1,s2,s3,s4,s5,s6⟩ := HK2.out w1 (below_undrew hb1))
      refine hK.out _ _ ?_ (fun hHeld2 => ?_)
      · (intro _; (try dsimp only); go_keep)
      clear hK K
      replace hHeld := hHeld2 (by decide)
      clear hHeld2
      try simp only [Act.put,List.setIfInBounds_toArray,List.set_cons_zero,List.set_cons_succ]
      refine late_one 10 (.succ (.succ (.succ (.succ (.succ (.succ (.succ (.succ (.succ (.succ .zero)))))))))) (by kernel_rfl) (fun K hK => ?_)
      (refine step_f2 (by rfl) 44 46 49 _ (by rfl) _ _ (by rfl) (by rfl) (fun _ _ => rfl) ?_; refine (HC.out w1 (below_undrew hb1)).mono ?_; rintro e w2 ⟨hb2,ok2,a2,m2,c2,N2,rfl,hr2,hd2⟩; refine ⟨_,rfl,?_⟩; have HB2:Hid (Below wr.heap.size wr w2) := (below_undrew hb1).trans (hb2.mono (below_undrew hb1).size); obtain ⟨y0,y1,y2,y3,y4,y5,y6⟩ := HK2.out w2 HB2.out)
      refine hK.out _ _ ?_ (fun hHeld2 => ?_)
      · (intro _; (try dsimp only); go_keep)
      clear hK K
      replace hHeld := hHeld2 (by decide)
      clear hHeld2
      try simp only [Act.put,List.setIfInBounds_toArray,List.set_cons_zero,List.set_cons_succ]
      refine late_one 11 (.succ (.succ (.succ (.succ (.succ (.succ (.succ (.succ (.succ (.succ (.succ .zero))))))))))) (by kernel_rfl) (fun K hK => ?_)
      go_simp
      refine hK.out _ _ ?_ (fun hHeld2 => ?_)
      · (intro _; (try dsimp only); go_keep)
      clear hK K
      replace hHeld := hHeld2 (by decide)
      clear hHeld2
      try simp only [Act.put,List.setIfInBounds_toArray,List.set_cons_zero,List.set_cons_succ]
      refine late_one 12 (.succ (.succ (.succ (.succ (.succ (.succ (.succ (.succ (.succ (.succ (.succ (.succ .zero)))))))))))) (by kernel_rfl) (fun K hK => ?_)
      (refine step_tsl (by rfl) (by rfl) (by rfl) ?_; obtain ⟨z0,z1,z2,z3,z4,z5,z6⟩ := HK3.out w2 HB2.out (.cells #[.slice a2 m2 c2] 59))
      refine hK.out _ _ ?_ (fun hHeld2 => ?_)
      · (intro _; (try dsimp only); go_keep)
      clear hK K
      replace hHeld := hHeld2 (by decide)
      clear hHeld2
      try simp only [Act.put,List.setIfInBounds_toArray,List.set_cons_zero,List.set_cons_succ]
      refine late_one 13 (.succ (.succ (.succ (.succ (.succ (.succ (.succ (.succ (.succ (.succ (.succ (.succ (.succ .zero))))))))))))) (by kernel_rfl) (fun K hK => ?_)
      (refine step_tapp (by rfl) (.tmp 41) (.tmp 52) (by rfl) (b6 + 1) k (.slice av k cv) us (by rfl) _ (HT.out w2 HB2.out _) (by rfl) rfl (by omega) (HZ.out w2 HB2.out) ?_; intro v4 w4 hown4 hgr4 hat4; obtain ⟨a4,c4,e4,_⟩ := own_form hown4; subst e4; obtain ⟨⟨v0,v1,v2,v3,v5,v6,v7⟩,vf,vl⟩ := HK4.out w2 w4 HB2.out _ hgr4)
      refine hK.out _ _ ?_ (fun hHeld2 => ?_)
      · (intro _; (try dsimp only); go_keep)
      clear hK K
      replace hHeld := hHeld2 (by decide)
      clear hHeld2
      try simp only [Act.put,List.setIfInBounds_toArray,List.set_cons_zero,List.set_cons_succ]
      refine late_one 14 (.succ (.succ (.succ (.succ (.succ (.succ (.succ (.succ (.succ (.succ (.succ (.succ (.succ (.succ .zero)))))))))))))) (by kernel_rfl) (fun K hK => ?_)
      go_simp
      refine hK.out _ _ ?_ (fun hHeld2 => ?_)
      · (intro _; (try dsimp only); go_keep)
      clear hK K
      replace hHeld := hHeld2 (by decide)
      clear hHeld2
      try simp only [Act.put,List.setIfInBounds_toArray,List.set_cons_zero,List.set_cons_succ]
      refine late_one 15 (.succ (.succ (.succ (.succ (.succ (.succ (.succ (.succ (.succ (.succ (.succ (.succ (.succ (.succ (.succ .zero))))))))))))))) (by kernel_rfl) (fun K hK => ?_)
      go_simp
      refine hK.out _ _ ?_ (fun hHeld2 => ?_)
      · (intro hne; exact absurd rfl hne)
      clear hK K hHeld2
      refine wpLate_done (by kernel_rfl) ?_ _
      have H7:Hid ((∃ M'' T'' us'' lo'' hi'',RowI TreeRd (w4.setCell ⟨b6,0,none⟩ (.slice a4 (k + 1) c4)) (b6 + 1) (.slice a4 (k + 1) c4) (k + 1) M'' T'' us'' lo'' hi'' /\ ∀ i,i < k + 1 -> InsD (M i) (T i) (keyOf i q) (M'' i) (T'' i)) /\ Bx (w4.setCell ⟨b6,0,none⟩ (.slice a4 (k + 1) c4)) b6 32 #[.slice a4 (k + 1) c4] /\ Below b6 W6 (w4.setCell ⟨b6,0,none⟩ (.slice a4 (k + 1) c4))) := by
        have hb := HB2.out
        have hz2 := hb.size
        have hz3 := HQ.out.2.2.1
        have hz1 := (below_undrew hb1).size
        have hown:∀ g,(Value.slice av k cv).ownBlock = some g -> b6 + 1 <= g := fun g e => (own_lt HQ.out.1.row g e).1
        obtain ⟨M'',hM''⟩:∃ M'' : Nat -> Nat,∀ i,M'' i = if i = k then m2 else M' i := ⟨_,fun _ => rfl⟩
        obtain ⟨T'',hT''⟩:∃ T'' : Nat -> Nat -> Tn,∀ i,T'' i = if i = k then N2 else T' i := ⟨_,fun _ => rfl⟩
        have hcg := HQ.out.1.congr (M' := M'') (T' := T'') (fun i hi => ⟨by rw [hM'',if_neg (by omega)],by rw [hT'',if_neg (by omega)]⟩)
        obtain ⟨lo',hi',hr'⟩ := hcg.step TreeRd.pl hz3 hb (l := w1.heap.size + 2) (by omega) (by rw [hM'',hT'',if_pos rfl,if_pos rfl]; exact TreeRd.of hr2) _ hgr4 hown4 hat4
        have bxx:Bx w4 b6 32 #[.slice av k cv] := (keep_block hb hgr4 hown (by omega) (by omega)).trans HQ.out.2.2.2.2.1
        refine ⟨⟨M'',T'',_,lo',hi',hr'.setO TreeRd.pl (by simp) _,fun i hi => ?_⟩,?_,?_⟩
        · rw [hM'',hT'']
          by_cases e:i = k
          · subst e
            rw [if_pos rfl,if_pos rfl,<- HKy.out]
            rcases hd2 with ⟨_,h⟩ | ⟨_,h1,h2,h3⟩
            · exact .inl h
            · exact .inr ⟨h1,h2,h3⟩
          · rw [if_neg e,if_neg e]
            exact HQ.out.2.2.2.2.2 i (by omega)
        · have := bxx.set 0 (.slice a4 (k + 1) c4)
          simpa using this
        · exact (((HQ.out.2.1.trans (hb.mono (by omega))).trans ((below_alloc _ _).mono (by omega))).grown hgr4 (by simp; omega) (fun g e => by have := hown g e; omega)).setCell (by simp) _
      clear hr2 hd2 hb1 hb2 hown4 hgr4 hat4 HT HK2 HK3 HK4 HZ y0 y1 y2 y3 y4 y5 y6 z0 z1 z2 z3 z4 z5 z6 v0 v1 v2 v3 v5 v6 v7 vf vl xd0 xd1 xd2 xd3 xd4 xd5 xd6 x0 x1 x2 p0 p1 p2 p3 s0 s1 s2 s3 s4 s5 s6 HC HKey HB2
      go_wp2
      go_roundw
      case rel =>
        obtain ⟨⟨M'',T'',us'',lo'',hi'',hr',hi2⟩,hb',hbb'⟩ := H7.out
        exact ⟨k + 1,_,M'',T'',us'',lo'',hi'',by omega,by go_num,hr',hb',hbb',hi2⟩
      case measure => simp [intOf]; omega
    · obtain rfl:k = 6 := by omega
      have k1:¬ ((6:Nat):Int) < 6 := by omega
      obtain ⟨_,_,gr0,gr1,grz,grf⟩ := HCe.out wr HQ.out.2.2.2.1
      have y1 := hbx.cell 0
      simp at y1
      clear hrow hbel hbx hins
      go_wp2
      refine bodyPost_ret (v := .agg #[.bool true,.slice av 6 cv]) (by simp [results,Tryz.results17,go_sem,gr0,gr1]) rfl ⟨((HBel.out wr HQ.out.2.2.2.1).setCell (by simp; try omega) _).setCell (by simp; try omega) _,.inl ⟨HYes.out,av,cv,M',T',us,lo,hi,rfl,?_,HQ.out.2.2.2.2.2⟩⟩
      exact ((HQ.out.1.low (by omega)).setO TreeRd.pl (by simp) _).setO TreeRd.pl (by simp) _

def RetG2 (key:ByteArray) (t:Ro 21) (w:World) (b:Nat) (S0:Nat -> Prop) (e:Ending) (w' : World):Prop :=
  ∃ (D:Nat) (y:Ro D) (v' : Value) (S:Nat -> Prop) (hh:Nat) (rs:List (Ro 21)),e = .returned v' /\ Fr2 w w' b b /\ TAo S w' D y v' /\ (∀ x,S x -> (S0 x \/ x = b \/ w.heap.size <= x) /\ x < w'.heap.size) /\ BalR D true y hh /\ InsR key 21 t rs /\ nodesR D y = insN rs /\ nodesR D y <= 6000 /\ ∀ M,Tells M 0 D y 0 -> InsT M rs

theorem grown2_any (key:ByteArray) (t u:Ro 21) (v:Value) (b hh:Nat) (S:Nat -> Prop) (w:World) (h:NdI S w b 21 u v) (hb:¬ S b) (hS:∀ x,S x -> x < w.heap.size) (hbw:b < w.heap.size) (hu:InsU key 21 t u) (hbal:BalR 21 true t hh) (hn:nodesR 21 t <= 5000):Calls Tryz.prog 84 #[v] w (RetG2 key t w b S) := by
  have h5 := sizU_le hbal hu
  have hk := keysU_len hbal hu hn (by omega)
  have hnod := hu.insR.nodes
  by_cases h4:sizR u <= 4
  · refine (grown_small 20 b u v S w h h4).mono ?_
    rintro e w' ⟨rfl,rfl⟩
    have hrs:splU 21 u = [u] := splR_one h4
    have hbu:BalR 21 true u hh := by
      rcases InsR.bal hbal hu.insR with ⟨y,e,hy⟩ | ⟨y,z,e,_⟩
      · rw [hrs] at e
        injection e with e
        rw [e]
        exact hy
      · rw [hrs] at e
        injection e with _ e
        cases e
    rw [hrs] at hnod
    simp only [List.map_cons,List.map_nil,List.sum_cons,List.sum_nil] at hnod
    refine ⟨21,u,v,_,hh,[u],rfl,⟨rfl,rfl,rfl,Nat.le_refl _,fun _ _ _ _ => rfl⟩,h.tao hb,fun x hx => ?_,hbu,by rw [<- hrs]; exact hu.insR,by simp [insN],by omega,fun M hM => hM⟩
    rcases hx with hx | hx
    · exact ⟨.inl hx,hS x hx⟩
    · exact ⟨.inr (.inl hx),by omega⟩
  · have h5' : sizR u = 5 := by omega
    refine (grown_big 20 b u v S w h hb hS h5' hk).mono ?_
    rintro e w' ⟨v',rfl,hf,ht⟩
    have hrs:splU 21 u = [cutR 0 3 u,cutR 3 5 u] := splR_two h5'
    have hbu:BalR 22 true (.inr [cutR 0 3 u,cutR 3 5 u]) (hh + 1) := by
      rcases InsR.bal hbal hu.insR with ⟨y,e,hy⟩ | ⟨y,z,e,hy,hz⟩
      · rw [hrs] at e
        injection e with _ e
        cases e
      · rw [hrs] at e
        injection e with e1 e
        injection e with e2 e
        refine ⟨by simp,by simp,hh,rfl,fun t ht => ?_⟩
        simp at ht
        rcases ht with rfl | rfl
        · rw [e1]; exact hy
        · rw [e2]; exact hz
    rw [hrs] at hnod
    refine ⟨22,_,v',fun x => (S x \/ x = b \/ w.heap.size <= x) /\ x < w'.heap.size,hh + 1,[cutR 0 3 u,cutR 3 5 u],rfl,hf,TAo.keep (Nat.le_refl _) (fun x hx hl => ⟨⟨hx,hl⟩,rfl⟩) ht,fun x hx => hx,hbu,by rw [<- hrs]; exact hu.insR,rfl,?_,fun M hM => hM⟩
    show 1 + (([cutR 0 3 u,cutR 3 5 u]:List (Ro 21)).map (nodesR 21)).sum <= 6000
    omega

def XA (lo hi H0:Nat) (w:World) (A:Array Value) (M:Nat -> Nat) (T:Nat -> Nat -> Tn) (q:Qd) (p:Nat):Prop :=
  A[p * 2]? = some (.func (.func (layF p)) #[] #[]) /\ ∃ (t' : Ro 21) (D:Nat) (y:Ro D) (v' : Value) (S:Nat -> Prop) (hh:Nat) (rs:List (Ro 21)),VTt (M p) (T p) t' /\ keyOf p q ∉ keysR 21 t' /\ TAo S w D y v' /\ (∀ x,S x -> ((lo <= x /\ x < hi) \/ H0 <= x) /\ x < w.heap.size) /\ BalR D true y hh /\ InsR (keyOf p q) 21 t' rs /\ nodesR D y = insN rs /\ nodesR D y <= 6000 /\ (∀ M,Tells M 0 D y 0 -> InsT M rs) /\ A[p * 2 + 1]? = some v'
theorem XA.keep {lo hi H0:Nat} {w w' : World} {A:Array Value} {M:Nat -> Nat} {T:Nat -> Nat -> Tn} {q:Qd} {p:Nat} (h:XA lo hi H0 w A M T q p) (hz:w.heap.size <= w'.heap.size) (hk:∀ x,((lo <= x /\ x < hi) \/ H0 <= x) -> x < w.heap.size -> w'.heap[x]? = w.heap[x]?):XA lo hi H0 w' A M T q p := by
  obtain ⟨h0,t',D,y,v',S,hh,rs,h1,h2,h3,h4,h5⟩ := h
  exact ⟨h0,t',D,y,v',S,hh,rs,h1,h2,TAo.keep hz (fun b hb hl => ⟨hb,hk b (h4 b hb).1 hl⟩) h3,fun x hx => ⟨(h4 x hx).1,Nat.lt_of_lt_of_le (h4 x hx).2 hz⟩,h5⟩
theorem XA.set {lo hi H0:Nat} {w:World} {A:Array Value} {M:Nat -> Nat} {T:Nat -> Nat -> Tn} {q:Qd} {p j:Nat} {v:Value} (h:XA lo hi H0 w A M T q p) (hp:p ≠ j):XA lo hi H0 w (A.setIfInBounds (j * 2 + 1) v) M T q p := by
  obtain ⟨h0,t',D,y,v',S,hh,rs,h1,h2,h3,h4,h5,h6,h7,h8,h9,h10⟩ := h
  refine ⟨?_,t',D,y,v',S,hh,rs,h1,h2,h3,h4,h5,h6,h7,h8,h9,?_⟩
  · rw [Array.getElem?_setIfInBounds_ne (by omega)]; exact h0
  · rw [Array.getElem?_setIfInBounds_ne (by omega)]; exact h10
theorem XO.set {lo hi:Nat} {w:World} {A:Array Value} {M:Nat -> Nat} {T:Nat -> Nat -> Tn} {p j:Nat} {v:Value} (h:XO lo hi w A M T p) (hp:p ≠ j):XO lo hi w (A.setIfInBounds (j * 2 + 1) v) M T p := by
  obtain ⟨h0,t,t',hh,v',h1,h2,h3,h4,h5,h6,h7⟩ := h
  refine ⟨?_,t,t',hh,v',h1,h2,h3,h4,h5,h6,?_⟩
  · rw [Array.getElem?_setIfInBounds_ne (by omega)]; exact h0
  · rw [Array.getElem?_setIfInBounds_ne (by omega)]; exact h7
def RetAdd (w0 W:World) (M:Nat -> Nat) (T:Nat -> Nat -> Tn) (q:Qd) (lo hi:Nat -> Nat) (e:Ending) (w' : World):Prop :=
  Below (w0.heap.size + 1) W w' /\ ((e = .returned (.bool false) /\ ¬ AddOk 6 M T q) \/ (e = .returned (.bool true) /\ AddOk 6 M T q /\ ∃ A',Bx w' (w0.heap.size + 1) 109 A' /\ ∀ p,p < 6 -> XA (lo p) (hi p) (W.heap.size + 1) w' A' M T q p))

set_option maxHeartbeats 2000000 in
theorem xsize_any (xb:Nat) (A:Array Value) (d:Nat) (t:Ro d) (v:Value) (S:Nat -> Prop) (w:World) (hx:Bx w xb 109 A) (h0:A[1]? = some v) (ht:TAt S w d t v) (kl:Nat) (hkl:kl = (keysR d t).length) :
    Calls Tryz.prog 82 #[.pointer (some ⟨xb,0,none⟩)] w fun e w' => e = .returned (.int .i64 (kl:Int)) /\ w' = w := by
  have c1 := hx.cell 1
  rw [h0] at c1
  obtain ⟨nb,_,hnb,c0,hv⟩ := ht.count
  rw [<- hkl] at c0
  have HBe:Hid (Calls Tryz.prog 157 #[.pointer (some ⟨nb,0,none⟩)] w fun e w' => e = .returned (.int .i64 (kl:Int)) /\ w' = w) := below_any nb kl w c0
  clear hx ht h0 hkl c0 hnb
  rcases hv with rfl | rfl
  all_goals
    go_enter Tryz.func82,Tryz.ntmps82
    go_wp2_with fail
    (with_reducible refine HBe.out.mono ?_)
    rintro e w2 ⟨rfl,hw2⟩
    subst hw2
    go_wp2
    go_ret
    exact ⟨rfl,rfl⟩
end Go.Proofs.YtcnollkkigiobaaGreat
