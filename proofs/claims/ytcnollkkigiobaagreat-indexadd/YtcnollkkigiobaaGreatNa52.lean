import Derived.Test.YtcnollkkigiobaaGreatNa22
set_option linter.unusedVariables false
set_option maxRecDepth 100000
namespace Go.Proofs.YtcnollkkigiobaaGreat
open Go.RowKit Go.Deep

def RetTrN (w:World) (n:Nat) (N:Nat -> Tn) (key:ByteArray) (e:Ending) (w' : World):Prop :=
  Below w.heap.size w w' /\ ∃ ok a m c M,e = .returned (.agg #[.bool ok,.slice a m c]) /\ RowN (w.heap.size + 2) w' a m M /\ ((ok = true /\ InsTo n N key m M) \/ (ok = false /\ m = n /\ M = N /\ InsNo n N key))

set_option maxHeartbeats 8000000 in
theorem specInsN (a:Option Addr) (n c:Nat) (N:Nat -> Tn) (key:ByteArray) (w:World) (h:RdTnC capC w a n N) (hn:n <= 1048576) (hN:∀ i,i < n -> TnFit (N i)) (hkey:key.size <= maxLen) :
    Calls Tryz.prog 44 #[.agg #[.slice a n c],.string key] w (RetTrN w n N key) := by
  have HR:Hid (RdTn w a n N /\ ∀ i,i < n -> TnFit (N i)) := ⟨h.rd,hN⟩
  have HOf:Hid (∀ W,Below w.heap.size w W -> Calls Tryz.prog 57 #[.agg #[.slice a n c]] W (RetOfC capC W n N)) := fun W hW => of_anyC capC a n c N W (h.below hW) hn hN
  clear h hN
  have HB0:Hid (∀ O1 O2:Obj,Below w.heap.size w ((w.alloc O1).alloc O2)) := fun _ _ => (below_alloc _ _).alloc (by simp) _
  go_enter Tryz.func44,Tryz.ntmps44
  go_wp2_with fail
  (with_reducible refine (HOf.out _ (HB0.out _ _)).mono ?_)
  rintro e w1 ⟨hb1,lf,ka,kn,kc,ca,cn,cc,ok,rfl,hr⟩
  have htb := ((Bx.new w #[.slice a n c] 59).alloc (.cells #[.bool false,.slice none 0 0] 78)).below hb1
  have hrb:Bx w1 (w.heap.size + 1) 78 #[.bool false,.slice none 0 0] := by
    have q := (Bx.new (w.alloc (.cells #[.slice a n c] 59)) #[.bool false,.slice none 0 0] 78).below hb1
    simpa using q
  have HB1:Hid (Below w.heap.size w w1) := (HB0.out _ _).trans (hb1.mono (by simp; omega))
  have BT1:Hid (∀ W,Below w1.heap.size w1 W -> Below w.heap.size w W /\ W.cell? ⟨w.heap.size,0,none⟩ = some (.slice a n c) /\ w.heap.size < W.heap.size /\ Bx W (w.heap.size + 1) 78 #[.bool false,.slice none 0 0]) := fun W hW => ⟨HB1.out.trans (hW.mono HB1.out.size),by simpa using (htb.below hW).cell 0,(htb.below hW).lt,hrb.below hW⟩
  have HRR:Hid ((ok = false /\ ¬ VT n N) \/ (ok = true /\ ∃ t,VTt n N t /\ NAC capC w1 21 t (.agg #[.bool lf,.slice ka kn kc,.slice ca cn cc]))) := by
    rcases hr with ⟨h1,h2,_⟩ | h
    · exact .inl ⟨h1,h2⟩
    · exact .inr h
  clear hr hb1 htb hrb HOf
  have BX1:Hid (Below w1.heap.size w1 (w1.alloc (.cells #[.bool lf,.slice ka kn kc,.slice ca cn cc] 91)) /\ Bx (w1.alloc (.cells #[.bool lf,.slice ka kn kc,.slice ca cn cc] 91)) w1.heap.size 91 #[.bool lf,.slice ka kn kc,.slice ca cn cc]) := ⟨below_alloc _ _,Bx.new _ _ _⟩
  cases ok with
  | false =>
    have HNo:Hid (InsNo n N key) := by
      intro t rs hv
      rcases HRR.out with ⟨_,q⟩ | ⟨q,_⟩
      · exact absurd ⟨t,hv⟩ q
      · cases q
    clear HRR
    go_upto_region 3 with fail
    generalize (w1.alloc (.cells #[.bool lf,.slice ka kn kc,.slice ca cn cc] 91)) = W at BX1 ⊢
    have HBQ:Hid (Below w.heap.size w W) := (BT1.out W BX1.out.1).1
    have HBT:Hid (W.cell? ⟨w.heap.size,0,none⟩ = some (.slice a n c) /\ w.heap.size < W.heap.size /\ Bx W (w.heap.size + 1) 78 #[.bool false,.slice none 0 0]) := (BT1.out W BX1.out.1).2
    have HCp:Hid (Calls Tryz.prog 77 #[.agg #[.slice a n c]] W (RetNs W n N)) := copyS_any a n c N W (HR.out.1.below HBQ.out) hn HR.out.2
    have t0 := HBT.out.1
    have tz := HBT.out.2.1
    go_wp2_with fail
    (with_reducible refine HCp.out.mono ?_)
    rintro e wz ⟨hbz,az,cz,rfl,hrz⟩
    have HZb:Hid (Below w.heap.size w wz /\ Bx wz (w.heap.size + 1) 78 #[.bool false,.slice none 0 0] /\ RowN (w.heap.size + 2) wz az n N) := by
      have q:Below w.heap.size w W := HBQ.out
      have q2 := HBT.out.2.2
      exact ⟨q.trans (hbz.mono q.size),q2.below hbz,hrz.keep (by have := q2.lt; have := q.size; omega) (Nat.le_refl _) (fun _ _ _ => rfl)⟩
    have r0 := HZb.out.2.1.cell 0
    have r1 := HZb.out.2.1.cell 1
    simp at r0 r1
    have rz := HZb.out.2.1.lt
    have rf := fun i => HZb.out.2.1.frozen i
    clear hbz hrz t0 tz
    go_wp2
    refine bodyPost_ret (v := .agg #[.bool false,.slice az n cz]) (by simp [results,Tryz.results44,go_sem,r0,r1]) rfl ⟨(HZb.out.1.setCell (by simp) _).setCell (by simp) _,false,az,n,cz,N,rfl,?_,.inr ⟨rfl,rfl,rfl,HNo.out⟩⟩
    exact (HZb.out.2.2.keep (Nat.le_refl _) (by simp [World.setCell]) (fun b hb _ => by rw [Below.heap_setCell _ _ _ _ (show b ≠ w.heap.size + 1 by omega),Below.heap_setCell _ _ _ _ (show b ≠ w.heap.size + 1 by omega)]))
  | true =>
    obtain ⟨t,hvt,hna⟩:∃ t,VTt n N t /\ NAC capC w1 21 t (.agg #[.bool lf,.slice ka kn kc,.slice ca cn cc]) := by
      rcases HRR.out with ⟨q,_⟩ | ⟨_,q⟩
      · cases q
      · exact q
    have HVT:Hid (VTt n N t) := hvt
    have HNG:Hid (NG (fun b => b < w1.heap.size) w1 21 t (.agg #[.bool lf,.slice ka kn kc,.slice ca cn cc])) := hna.ng
    obtain ⟨h1,h2,h3,⟨hh,h4⟩,h5,h6⟩ := hvt
    have hend := nestR_end h3
    have hfl := fit_len (bal_fit h4)
    have HF:Hid (nodesR 21 t <= 5000 /\ (keysR 21 t).length <= 20000 /\ BalR 21 true t hh /\ Asc (keysR 21 t)) := ⟨by omega,by omega,h4,asc_of_ascK h5⟩
    clear HRR hna h1 h2 h3 h4 h5 h6 hend hfl
    by_cases hk16:16 < key.size
    · have i16:(16:Int) < (key.size:Int) := by omega
      have i16d:decide ((16:Int) < (key.size:Int)) = true := decide_eq_true i16
      have HNo:Hid (InsNo n N key) := fun t rs _ q => absurd q (by omega)
      clear HVT HNG HF
      go_upto_region 3 with fail
      generalize (w1.alloc (.cells #[.bool lf,.slice ka kn kc,.slice ca cn cc] 91)) = W at BX1 ⊢
      have HBQ:Hid (Below w.heap.size w W) := (BT1.out W BX1.out.1).1
      have HBT:Hid (W.cell? ⟨w.heap.size,0,none⟩ = some (.slice a n c) /\ w.heap.size < W.heap.size /\ Bx W (w.heap.size + 1) 78 #[.bool false,.slice none 0 0]) := (BT1.out W BX1.out.1).2
      have HCp:Hid (Calls Tryz.prog 77 #[.agg #[.slice a n c]] W (RetNs W n N)) := copyS_any a n c N W (HR.out.1.below HBQ.out) hn HR.out.2
      have t0 := HBT.out.1
      have tz := HBT.out.2.1
      go_wp2_with fail
      (with_reducible refine HCp.out.mono ?_)
      rintro e wz ⟨hbz,az,cz,rfl,hrz⟩
      have HZb:Hid (Below w.heap.size w wz /\ Bx wz (w.heap.size + 1) 78 #[.bool false,.slice none 0 0] /\ RowN (w.heap.size + 2) wz az n N) := by
        have q:Below w.heap.size w W := HBQ.out
        have q2 := HBT.out.2.2
        exact ⟨q.trans (hbz.mono q.size),q2.below hbz,hrz.keep (by have := q2.lt; have := q.size; omega) (Nat.le_refl _) (fun _ _ _ => rfl)⟩
      have r0 := HZb.out.2.1.cell 0
      have r1 := HZb.out.2.1.cell 1
      simp at r0 r1
      have rz := HZb.out.2.1.lt
      have rf := fun i => HZb.out.2.1.frozen i
      clear hbz hrz t0 tz
      go_wp2
      refine bodyPost_ret (v := .agg #[.bool false,.slice az n cz]) (by simp [results,Tryz.results44,go_sem,r0,r1]) rfl ⟨(HZb.out.1.setCell (by simp) _).setCell (by simp) _,false,az,n,cz,N,rfl,?_,.inr ⟨rfl,rfl,rfl,HNo.out⟩⟩
      exact (HZb.out.2.2.keep (Nat.le_refl _) (by simp [World.setCell]) (fun b hb _ => by rw [Below.heap_setCell _ _ _ _ (show b ≠ w.heap.size + 1 by omega),Below.heap_setCell _ _ _ _ (show b ≠ w.heap.size + 1 by omega)]))
    · have i16:¬ (16:Int) < (key.size:Int) := by omega
      have i16d:decide ((16:Int) < (key.size:Int)) = false := decide_eq_false i16
      have HK16:Hid (key.size <= 16) := by show _ <= _; omega
      have HKeys:Hid (∀ W,Below w1.heap.size w1 W -> Calls Tryz.prog 58 #[.agg #[.bool lf,.slice ka kn kc,.slice ca cn cc]] W (RetStrs W (keysR 21 t))) := fun W hW => keys_any 21 t _ W (HNG.out.below hW).na HF.out.1 (by have := HF.out.2.1; omega)
      clear hk16
      go_upto_region 2 with fail
      generalize (w1.alloc (.cells #[.bool lf,.slice ka kn kc,.slice ca cn cc] 91)) = W at BX1 ⊢
      have x0 := BX1.out.2.cell 0
      have x1 := BX1.out.2.cell 1
      have x2 := BX1.out.2.cell 2
      simp at x0 x1 x2
      have xz := BX1.out.2.lt
      go_wp2_with fail
      (with_reducible refine (HKeys.out W BX1.out.1).mono ?_)
      rintro e w3 ⟨a3,c3,rfl,ho3,hb3,_,_⟩
      have HB3:Hid (Below w1.heap.size w1 w3 /\ Bx w3 w1.heap.size 91 #[.bool lf,.slice ka kn kc,.slice ca cn cc]) := ⟨BX1.out.1.trans (hb3.mono BX1.out.1.size),BX1.out.2.below hb3⟩
      have HHo:Hid (Calls Tryz.prog 78 #[.slice a3 (keysR 21 t).length c3,.string key] w3 fun e w' => ∃ b:Bool,e = .returned (.bool b) /\ (b = true ↔ key ∈ keysR 21 t) /\ Below w3.heap.size w3 w') := holds_any a3 (keysR 21 t).length c3 (keysR 21 t) key w3 ho3.rd rfl (by have := HF.out.2.1; omega)
      clear ho3 hb3 x0 x1 x2 xz BX1 HKeys
      go_wp2_with fail
      (with_reducible refine HHo.out.mono ?_)
      rintro e w4 ⟨bb,rfl,hbb,hb4⟩
      have HB4:Hid (Below w1.heap.size w1 w4 /\ Bx w4 w1.heap.size 91 #[.bool lf,.slice ka kn kc,.slice ca cn cc]) := ⟨HB3.out.1.trans (hb4.mono HB3.out.1.size),HB3.out.2.below hb4⟩
      have HBB:Hid (bb = true ↔ key ∈ keysR 21 t) := hbb
      clear hb4 hbb HHo HB3
      cases bb with
      | true =>
        have HNo:Hid (InsNo n N key) := fun t' rs hv _ q => absurd (by rw [hv.fn HVT.out]; exact HBB.out.1 rfl) q
        clear HVT HNG HF
        have HBQ:Hid (Below w.heap.size w w4) := (BT1.out w4 HB4.out.1).1
        have HBT:Hid (w4.cell? ⟨w.heap.size,0,none⟩ = some (.slice a n c) /\ w.heap.size < w4.heap.size /\ Bx w4 (w.heap.size + 1) 78 #[.bool false,.slice none 0 0]) := (BT1.out w4 HB4.out.1).2
        have HCp:Hid (Calls Tryz.prog 77 #[.agg #[.slice a n c]] w4 (RetNs w4 n N)) := copyS_any a n c N w4 (HR.out.1.below HBQ.out) hn HR.out.2
        have t0 := HBT.out.1
        have tz := HBT.out.2.1
        go_wp2_with fail
        (with_reducible refine HCp.out.mono ?_)
        rintro e wz ⟨hbz,az,cz,rfl,hrz⟩
        have HZb:Hid (Below w.heap.size w wz /\ Bx wz (w.heap.size + 1) 78 #[.bool false,.slice none 0 0] /\ RowN (w.heap.size + 2) wz az n N) := by
          have q:Below w.heap.size w w4 := HBQ.out
          have q2 := HBT.out.2.2
          exact ⟨q.trans (hbz.mono q.size),q2.below hbz,hrz.keep (by have := q2.lt; have := q.size; omega) (Nat.le_refl _) (fun _ _ _ => rfl)⟩
        have r0 := HZb.out.2.1.cell 0
        have r1 := HZb.out.2.1.cell 1
        simp at r0 r1
        have rz := HZb.out.2.1.lt
        have rf := fun i => HZb.out.2.1.frozen i
        clear hbz hrz t0 tz
        go_wp2
        refine bodyPost_ret (v := .agg #[.bool false,.slice az n cz]) (by simp [results,Tryz.results44,go_sem,r0,r1]) rfl ⟨(HZb.out.1.setCell (by simp) _).setCell (by simp) _,false,az,n,cz,N,rfl,?_,.inr ⟨rfl,rfl,rfl,HNo.out⟩⟩
        exact (HZb.out.2.2.keep (Nat.le_refl _) (by simp [World.setCell]) (fun b hb _ => by rw [Below.heap_setCell _ _ _ _ (show b ≠ w.heap.size + 1 by omega),Below.heap_setCell _ _ _ _ (show b ≠ w.heap.size + 1 by omega)]))
      | false =>
        have HNin:Hid (key ∉ keysR 21 t) := fun h => by have := HBB.out.2 h; cases this
        have HIns:Hid (Calls Tryz.prog 79 #[.agg #[.bool lf,.slice ka kn kc,.slice ca cn cc],.string key] w4 (fun e w' => ∃ rs,InsR key 21 t rs /\ RetGs (fun b => b < w1.heap.size) w4 21 rs e w')) := ins_any key 21 t _ true hh _ w4 (HNG.out.below HB4.out.1) HF.out.2.2.1 HF.out.2.2.2 HF.out.1 (by have := HF.out.2.1; omega)
        have x0 := HB4.out.2.cell 0
        have x1 := HB4.out.2.cell 1
        have x2 := HB4.out.2.cell 2
        simp at x0 x1 x2
        have xz := HB4.out.2.lt
        clear HBB
        go_wp2_with fail
        (with_reducible refine HIns.out.mono ?_)
        rintro e w5 ⟨rs,hins,hb5,g5,c5,xs5,rfl,hg5,hl5,hcap5,hc5,hk5⟩
        have HB5:Hid (Below w1.heap.size w1 w5) := HB4.out.1.trans (hb5.mono HB4.out.1.size)
        have HInsR:Hid (InsR key 21 t rs) := hins
        have HNod:Hid ((rs.map (nodesR 21)).sum <= 5021) := by have := InsR.nodes hins; have := HF.out.1; show _ <= _; omega
        have HNoN:Hid (∀ m,m = insN rs -> 5000 < m -> InsNo n N key) := by
          intro m hm hlt t' rs' hv _ _ hi'
          obtain rfl := hv.fn HVT.out
          rw [InsR.fn HF.out.2.2.1 HF.out.2.2.2 hi' HInsR.out,<- hm]
          exact hlt
        clear x0 x1 x2 xz HIns HB4
        rcases InsR.bal HF.out.2.2.1 hins with ⟨y,rfl,hby⟩ | ⟨y,z,rfl,hby,hbz⟩
        · match xs5,hk5 with
          | x0 :: x1 :: x2 :: [],hk5 =>
          obtain ⟨hy,_⟩ := hk5
          obtain ⟨lfy,kay,kny,kcy,cay,cny,ccy,ey⟩ := NestAt.form hy
          injection ey with ey
          injection ey with ey
          injection ey with e0 ey
          injection ey with e1 ey
          injection ey with e2 ey
          subst e0 e1 e2
          have z0 := hc5 0 _ rfl
          have z1 := hc5 1 _ rfl
          have z2 := hc5 2 _ rfl
          have hny:nodesR 21 y <= 5021 := by have := HNod.out; simpa using this
          have hfy := fit_len (bal_fit hby)
          have HFlat:Hid (∀ W,Below w5.heap.size w5 W -> Calls Tryz.prog 80 #[.agg #[.bool lfy,.slice kay kny kcy,.slice cay cny ccy],.int .i64 0] W (RetFlat W 21 y 0)) := fun W hW => flat_any6 21 y _ true hh 0 W (NG.below hy hW).na (by omega) (by omega) hby (by omega) (by omega)
          have HMM:Hid (nodesR 21 y = insN [y]) := by show _ = _; simp [insN]
          clear hc5 hy hfy hins hb5
          obtain ⟨m,hm⟩:∃ m,m = nodesR 21 y := ⟨_,rfl⟩
          have HM:Hid (m = insN [y]) := hm.trans HMM.out
          have hm6:m <= 5022 := by rw [hm]; omega
          have HFl:Hid (∀ W,Below w5.heap.size w5 W -> Calls Tryz.prog 80 #[.agg #[.bool lfy,.slice kay kny kcy,.slice cay cny ccy],.int .i64 0] W (fun e w' => ∃ ra rc G,e = .returned (.slice ra m rc) /\ Below W.heap.size W w' /\ RowN W.heap.size w' ra m G /\ Tells G 0 21 y 0)) := by
            intro W hW
            refine (HFlat.out W hW).mono (fun e w' hr => ?_)
            obtain ⟨ra,rc,G,xs6,q1,q2,q3,q4,q5⟩ := hr
            rw [<- hm] at q1 q3 q4
            exact ⟨ra,rc,G,q1,q2,FlAt.rowN q3 q4,q5⟩
          clear HFlat hm HMM hny
          have hg5z:g5 < w5.heap.size := hl5
          go_wp2_with fail
          (with_reducible refine (HFl.out _ (below_alloc _ _)).mono ?_)
          rintro e w6 ⟨ra,rc,G,rfl,hb6,hrow6,htl6⟩
          have HB6:Hid (Below w1.heap.size w1 w6) := HB5.out.trans (((below_alloc _ _):Below w5.heap.size w5 _).trans (hb6.mono (by simp)) |>.mono HB5.out.size)
          have hz5:w.heap.size + 2 <= w5.heap.size := by have := (BT1.out w5 HB5.out).2.2.2.lt; omega
          have HRow:Hid (RowN (w.heap.size + 2) w6 ra m G /\ Tells G 0 21 y 0) := ⟨hrow6.keep (by simp; omega) (Nat.le_refl _) (fun _ _ _ => rfl),htl6⟩
          clear hb6 hrow6 htl6 HFl z0 z1 z2
          by_cases h5:5000 < m
          · have i5:(5000:Int) < (m:Int) := by omega
            have i5d:decide ((5000:Int) < (m:Int)) = true := decide_eq_true i5
            have HNo:Hid (InsNo n N key) := HNoN.out m HM.out h5
            clear HNoN HInsR HVT HF HNG
            have HBQ:Hid (Below w.heap.size w w6) := (BT1.out w6 HB6.out).1
            have HBT:Hid (w6.cell? ⟨w.heap.size,0,none⟩ = some (.slice a n c) /\ w.heap.size < w6.heap.size /\ Bx w6 (w.heap.size + 1) 78 #[.bool false,.slice none 0 0]) := (BT1.out w6 HB6.out).2
            have HCp:Hid (Calls Tryz.prog 77 #[.agg #[.slice a n c]] w6 (RetNs w6 n N)) := copyS_any a n c N w6 (HR.out.1.below HBQ.out) hn HR.out.2
            have t0 := HBT.out.1
            have tz := HBT.out.2.1
            go_wp2_with fail
            (with_reducible refine HCp.out.mono ?_)
            rintro e wz ⟨hbz,az,cz,rfl,hrz⟩
            have HZb:Hid (Below w.heap.size w wz /\ Bx wz (w.heap.size + 1) 78 #[.bool false,.slice none 0 0] /\ RowN (w.heap.size + 2) wz az n N) := by
              have q:Below w.heap.size w w6 := HBQ.out
              have q2 := HBT.out.2.2
              exact ⟨q.trans (hbz.mono q.size),q2.below hbz,hrz.keep (by have := q2.lt; have := q.size; omega) (Nat.le_refl _) (fun _ _ _ => rfl)⟩
            have r0 := HZb.out.2.1.cell 0
            have r1 := HZb.out.2.1.cell 1
            simp at r0 r1
            have rz := HZb.out.2.1.lt
            have rf := fun i => HZb.out.2.1.frozen i
            clear hbz hrz t0 tz
            go_wp2
            refine bodyPost_ret (v := .agg #[.bool false,.slice az n cz]) (by simp [results,Tryz.results44,go_sem,r0,r1]) rfl ⟨(HZb.out.1.setCell (by simp) _).setCell (by simp) _,false,az,n,cz,N,rfl,?_,.inr ⟨rfl,rfl,rfl,HNo.out⟩⟩
            exact (HZb.out.2.2.keep (Nat.le_refl _) (by simp [World.setCell]) (fun b hb _ => by rw [Below.heap_setCell _ _ _ _ (show b ≠ w.heap.size + 1 by omega),Below.heap_setCell _ _ _ _ (show b ≠ w.heap.size + 1 by omega)]))
          · have i5:¬ (5000:Int) < (m:Int) := by omega
            have i5d:decide ((5000:Int) < (m:Int)) = false := decide_eq_false i5
            have HRB:Hid (Bx w6 (w.heap.size + 1) 78 #[.bool false,.slice none 0 0] /\ Below w.heap.size w w6) := ⟨(BT1.out w6 HB6.out).2.2.2,(BT1.out w6 HB6.out).1⟩
            have r0 := HRB.out.1.cell 0
            have r1 := HRB.out.1.cell 1
            simp at r0 r1
            have rz := HRB.out.1.lt
            have rf := fun i => HRB.out.1.frozen i
            have hm5:m <= 5000 := by omega
            go_wp2
            refine bodyPost_ret (v := .agg #[.bool true,.slice ra m rc]) (by simp [results,Tryz.results44,go_sem,r0,r1]) rfl ⟨(HRB.out.2.setCell (by simp) _).setCell (by simp) _,true,ra,m,rc,G,rfl,?_,.inl ⟨rfl,t,[y],HVT.out,HK16.out,HNin.out,HInsR.out,HM.out,hm5,HRow.out.2⟩⟩
            exact (HRow.out.1.keep (Nat.le_refl _) (by simp [World.setCell]) (fun b hb _ => by rw [Below.heap_setCell _ _ _ _ (show b ≠ w.heap.size + 1 by omega),Below.heap_setCell _ _ _ _ (show b ≠ w.heap.size + 1 by omega)]))
        · match xs5,hk5 with
          | x0 :: x1 :: x2 :: x3 :: x4 :: x5 :: [],hk5 =>
          have HY:Hid (∀ W,Below w5.heap.size w5 W -> NG (fun _ => True) W 22 (.inr [y,z]) (.agg #[.bool false,.slice none 0 0,.slice (some ⟨g5,0,none⟩) 2 c5])) := fun W hW => by
            refine ⟨none,0,g5,c5,[x0,x1,x2,x3,x4,x5],rfl,⟨trivial,hcap5⟩,by have := hW.size; omega,by simp,fun j u hj => (hW.cell (p := ⟨g5,j,none⟩) hl5).trans (hc5 j u hj),?_⟩
            exact KidL.mono (fun t v q => (NG.below q hW).wide (fun _ _ _ => trivial)) hk5
          obtain ⟨⟨lfy,kay,kny,kcy,cay,cny,ccy,ey⟩,_⟩:(∃ lf ka kn kc ca cn cc,Value.agg #[x0,x1,x2] = .agg #[.bool lf,.slice ka kn kc,.slice ca cn cc]) /\ True := ⟨NestAt.form hk5.1,trivial⟩
          injection ey with ey
          injection ey with ey
          injection ey with e0 ey
          injection ey with e1 ey
          injection ey with e2 ey
          subst e0 e1 e2
          have z0 := hc5 0 _ rfl
          have z1 := hc5 1 _ rfl
          have z2 := hc5 2 _ rfl
          have hny:nodesR 22 (.inr [y,z]) <= 5022 := by
            have := HNod.out
            show 1 + ([y,z].map (nodesR 21)).sum <= 5022
            omega
          have hbal:BalR 22 true (.inr [y,z]) (hh + 1) := ⟨by simp,by simp,hh,rfl,fun t ht => by
            simp at ht
            rcases ht with rfl | rfl
            · exact hby
            · exact hbz⟩
          have hfy := fit_len (bal_fit hbal)
          have HFlat:Hid (∀ W,Below w5.heap.size w5 W -> Calls Tryz.prog 80 #[.agg #[.bool false,.slice none 0 0,.slice (some ⟨g5,0,none⟩) 2 c5],.int .i64 0] W (RetFlat W 22 (.inr [y,z]) 0)) := fun W hW => flat_any6 22 (.inr [y,z]) _ true (hh + 1) 0 W (HY.out W hW).na (by omega) (by omega) hbal (by omega) (by omega)
          have HMM:Hid (nodesR 22 (.inr [y,z]) = insN [y,z]) := by show _ = _; rfl
          clear hc5 hfy hins hb5 hbal HY
          obtain ⟨m,hm⟩:∃ m,m = nodesR 22 (.inr [y,z]) := ⟨_,rfl⟩
          have HM:Hid (m = insN [y,z]) := hm.trans HMM.out
          have hm6:m <= 5022 := by rw [hm]; omega
          have HFl:Hid (∀ W,Below w5.heap.size w5 W -> Calls Tryz.prog 80 #[.agg #[.bool false,.slice none 0 0,.slice (some ⟨g5,0,none⟩) 2 c5],.int .i64 0] W (fun e w' => ∃ ra rc G,e = .returned (.slice ra m rc) /\ Below W.heap.size W w' /\ RowN W.heap.size w' ra m G /\ Tells G 0 22 (.inr [y,z]) 0)) := by
            intro W hW
            refine (HFlat.out W hW).mono (fun e w' hr => ?_)
            obtain ⟨ra,rc,G,xs6,q1,q2,q3,q4,q5⟩ := hr
            rw [<- hm] at q1 q3 q4
            exact ⟨ra,rc,G,q1,q2,FlAt.rowN q3 q4,q5⟩
          clear HFlat hm HMM hny
          have hg5z:g5 < w5.heap.size := hl5
          go_wp2_with fail
          (with_reducible refine (HFl.out _ (below_alloc _ _)).mono ?_)
          rintro e w6 ⟨ra,rc,G,rfl,hb6,hrow6,htl6⟩
          have HB6:Hid (Below w1.heap.size w1 w6) := HB5.out.trans (((below_alloc _ _):Below w5.heap.size w5 _).trans (hb6.mono (by simp)) |>.mono HB5.out.size)
          have hz5:w.heap.size + 2 <= w5.heap.size := by have := (BT1.out w5 HB5.out).2.2.2.lt; omega
          have HRow:Hid (RowN (w.heap.size + 2) w6 ra m G /\ Tells G 0 22 (.inr [y,z]) 0) := ⟨hrow6.keep (by simp; omega) (Nat.le_refl _) (fun _ _ _ => rfl),htl6⟩
          clear hb6 hrow6 htl6 HFl z0 z1 z2
          by_cases h5:5000 < m
          · have i5:(5000:Int) < (m:Int) := by omega
            have i5d:decide ((5000:Int) < (m:Int)) = true := decide_eq_true i5
            have HNo:Hid (InsNo n N key) := HNoN.out m HM.out h5
            clear HNoN HInsR HVT HF HNG
            have HBQ:Hid (Below w.heap.size w w6) := (BT1.out w6 HB6.out).1
            have HBT:Hid (w6.cell? ⟨w.heap.size,0,none⟩ = some (.slice a n c) /\ w.heap.size < w6.heap.size /\ Bx w6 (w.heap.size + 1) 78 #[.bool false,.slice none 0 0]) := (BT1.out w6 HB6.out).2
            have HCp:Hid (Calls Tryz.prog 77 #[.agg #[.slice a n c]] w6 (RetNs w6 n N)) := copyS_any a n c N w6 (HR.out.1.below HBQ.out) hn HR.out.2
            have t0 := HBT.out.1
            have tz := HBT.out.2.1
            go_wp2_with fail
            (with_reducible refine HCp.out.mono ?_)
            rintro e wz ⟨hbz,az,cz,rfl,hrz⟩
            have HZb:Hid (Below w.heap.size w wz /\ Bx wz (w.heap.size + 1) 78 #[.bool false,.slice none 0 0] /\ RowN (w.heap.size + 2) wz az n N) := by
              have q:Below w.heap.size w w6 := HBQ.out
              have q2 := HBT.out.2.2
              exact ⟨q.trans (hbz.mono q.size),q2.below hbz,hrz.keep (by have := q2.lt; have := q.size; omega) (Nat.le_refl _) (fun _ _ _ => rfl)⟩
            have r0 := HZb.out.2.1.cell 0
            have r1 := HZb.out.2.1.cell 1
            simp at r0 r1
            have rz := HZb.out.2.1.lt
            have rf := fun i => HZb.out.2.1.frozen i
            clear hbz hrz t0 tz
            go_wp2
            refine bodyPost_ret (v := .agg #[.bool false,.slice az n cz]) (by simp [results,Tryz.results44,go_sem,r0,r1]) rfl ⟨(HZb.out.1.setCell (by simp) _).setCell (by simp) _,false,az,n,cz,N,rfl,?_,.inr ⟨rfl,rfl,rfl,HNo.out⟩⟩
            exact (HZb.out.2.2.keep (Nat.le_refl _) (by simp [World.setCell]) (fun b hb _ => by rw [Below.heap_setCell _ _ _ _ (show b ≠ w.heap.size + 1 by omega),Below.heap_setCell _ _ _ _ (show b ≠ w.heap.size + 1 by omega)]))
          · have i5:¬ (5000:Int) < (m:Int) := by omega
            have i5d:decide ((5000:Int) < (m:Int)) = false := decide_eq_false i5
            have HRB:Hid (Bx w6 (w.heap.size + 1) 78 #[.bool false,.slice none 0 0] /\ Below w.heap.size w w6) := ⟨(BT1.out w6 HB6.out).2.2.2,(BT1.out w6 HB6.out).1⟩
            have r0 := HRB.out.1.cell 0
            have r1 := HRB.out.1.cell 1
            simp at r0 r1
            have rz := HRB.out.1.lt
            have rf := fun i => HRB.out.1.frozen i
            have hm5:m <= 5000 := by omega
            go_wp2
            refine bodyPost_ret (v := .agg #[.bool true,.slice ra m rc]) (by simp [results,Tryz.results44,go_sem,r0,r1]) rfl ⟨(HRB.out.2.setCell (by simp) _).setCell (by simp) _,true,ra,m,rc,G,rfl,?_,.inl ⟨rfl,t,[y,z],HVT.out,HK16.out,HNin.out,HInsR.out,HM.out,hm5,HRow.out.2⟩⟩
            exact (HRow.out.1.keep (Nat.le_refl _) (by simp [World.setCell]) (fun b hb _ => by rw [Below.heap_setCell _ _ _ _ (show b ≠ w.heap.size + 1 by omega),Below.heap_setCell _ _ _ _ (show b ≠ w.heap.size + 1 by omega)]))
end Go.Proofs.YtcnollkkigiobaaGreat
