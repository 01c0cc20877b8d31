import Derived.Test.YtcnollkkigiobaaGreatNa25
import Derived.Test.YtcnollkkigiobaaGreatNa13
import Derived.Test.YtcnollkkigiobaaGreatNa14
import Derived.Test.YtcnollkkigiobaaGreatNa15
import Derived.Test.YtcnollkkigiobaaGreatNa24
import Derived.Test.YtcnollkkigiobaaGreatNa22
import Derived.Test.YtcnollkkigiobaaGreatRows
import Derived.Test.YtcnollkkigiobaaGreatNa1
import Derived.WalkKit
import Derived.Handy
import Derived.Laws.BytesArg
import Derived.Test.YtcnollkkigiobaaGreatNa2
import Derived.Test.YtcnollkkigiobaaGreatNa10
import Derived.Deep.RegionHeld3
set_option linter.unusedVariables false
set_option maxRecDepth 100000
namespace Go.Proofs.YtcnollkkigiobaaGreat
open Go.RowKit Go.Deep

theorem TOx.mono {B B' : Nat} {w:World} {d:Nat} {t:Ro d} {v:Value} (h:TOx B w d t v) (hB:B' <= B):TOx B' w d t v :=
  let ⟨bs,h1,h2⟩ := h
  ⟨bs,h1,TOw.mono hB h2⟩

theorem RetRo.from {N:Nat -> Tn} {rb b o n c x:Nat} {dep D:Int} {hk:Bool} {lk:ByteArray} {d:Nat} {w W:World} {e:Ending} {w' : World} (h:RetRo N rb b o n c x dep D hk lk d W e w') (hg:w.grownBy W (some rb)):RetRo N rb b o n c x dep D hk lk d w e w' := by
  obtain ⟨h1,v,ok,e1,h2⟩ := h
  refine ⟨grown_trans hg h1,v,ok,e1,?_⟩
  rcases h2 with ⟨q1,t,D',hk',lk',q2,q3,q4⟩ | q
  · exact Or.inl ⟨q1,t,D',hk',lk',q2,q3,TOx.mono q4 hg.size⟩
  · exact Or.inr q

set_option maxHeartbeats 4000000 in
theorem readO_any (N:Nat -> Tn) (rb b o n c:Nat) (hn:n <= 5000) (hbr:b < rb) (hN:∀ i,i < n -> TnFit (N i)):∀ (d x:Nat) (dep D:Int) (hk:Bool) (lk:ByteArray) (w:World),n <= x + d -> x <= n -> 0 <= dep -> dep <= (x:Int) -> RBx w rb b o n c x D lk hk -> (∀ W:World,Below rb w W -> RdTn W (some ⟨b,o,none⟩) n N) ->
    Calls Tryz.prog 109 #[.pointer (some ⟨rb,0,none⟩),.int .i64 dep] w (RetRo N rb b o n c x dep D hk lk d w) := by
  intro d
  induction d with
  | zero =>
    intro x dep D hk lk w hf hx hd0 hd1 h hRd
    have e:x = n := by omega
    subst e
    have c0 := h.cell 0
    have c1 := h.cell 1
    simp at c0 c1
    have hq:((x:Int) == (x:Int)) = true := by simp
    clear h hRd hf hN
    go_enter Tryz.func109,Tryz.ntmps109
    go_wp2
    go_quiet (fail)
    go_wp2
    refine bodyPost_ret (v := .tuple #[.nilIface,.bool false]) (by simp [results,Tryz.results109,go_sem]) rfl ⟨grown_below (below_drewN (Below.refl _ _) _),_,false,rfl,Or.inr ⟨rfl,fun ⟨t,_⟩ => t.elim⟩⟩
  | succ d ih =>
    intro x dep D hk lk w hf hx hd0 hd1 h hRd
    have hrl := h.lt
    by_cases hxn:x = n
    · subst hxn
      have c0 := h.cell 0
      have c1 := h.cell 1
      simp at c0 c1
      have hq:((x:Int) == (x:Int)) = true := by simp
      clear h hRd hf hN ih
      go_enter Tryz.func109,Tryz.ntmps109
      go_wp2
      go_quiet (fail)
      go_wp2
      refine bodyPost_ret (v := .tuple #[.nilIface,.bool false]) (by simp [results,Tryz.results109,go_sem]) rfl ⟨grown_below (below_drewN (Below.refl _ _) _),_,false,rfl,Or.inr ⟨rfl,fun ⟨t,D',hk',lk',g⟩ => ?_⟩⟩
      have h1 := g.le
      have h2 := nodes_pos (d + 1) t
      omega
    · have hlt:x < n := by omega
      have HR:Hid (RBx w rb b o n c x D lk hk) := h
      have HRd:Hid (∀ W:World,Below rb w W -> RdTn W (some ⟨b,o,none⟩) n N) := hRd
      have HIH:Hid (∀ (W:World) (y:Nat) (D2:Int) (lk2:ByteArray) (hk2:Bool),Below rb w W -> x + 1 <= y -> y <= n -> RBx W rb b o n c y D2 lk2 hk2 -> Calls Tryz.prog 109 #[.pointer (some ⟨rb,0,none⟩),.int .i64 (dep + 1)] W (RetRo N rb b o n c y (dep + 1) D2 hk2 lk2 d W)) := fun W y D2 lk2 hk2 hW hy hyn hrb => ih y (dep + 1) D2 hk2 lk2 W (by omega) hyn (by omega) (by omega) hrb (fun W' hW' => hRd W' (hW.trans hW'))
      have HFit:Hid (TnFit (N x)) := hN x hlt
      obtain ⟨ka,kc,da,dc,hcells⟩:∃ ka kc da dc,∀ W:World,Below rb w W -> W.cell? ⟨b,o + x * 4,none⟩ = some (.bool (N x).lf) /\ W.cell? ⟨b,o + x * 4 + 1,none⟩ = some (.slice ka (N x).kn kc) /\ W.cell? ⟨b,o + x * 4 + 2,none⟩ = some (.slice da (N x).dn dc) /\ W.cell? ⟨b,o + x * 4 + 3,none⟩ = some (.int .i64 (N x).ct) /\ RdS W ka (N x).kn (N x).ks /\ Rd .i64 W da (N x).dn (N x).kd := by
        rcases hRd w (Below.refl _ _) with q | ⟨b',o',e,hc⟩
        · omega
        injection e with e
        injection e with e1 e2
        subst e1
        subst e2
        obtain ⟨ka,kc,da,dc,h0,h1,h2,h3,h4,h5⟩ := hc x hlt
        refine ⟨ka,kc,da,dc,fun W hW => ?_⟩
        rcases hRd W hW with q | ⟨b',o',e,hc'⟩
        · omega
        injection e with e
        injection e with e1 e2
        subst e1
        subst e2
        obtain ⟨ka',kc',da',dc',g0,g1,g2,g3,g4,g5⟩ := hc' x hlt
        have hbb:b < rb := hbr
        have e1 := (hW.cell (p := ⟨b,o + x * 4 + 1,none⟩) hbb)
        have e2 := (hW.cell (p := ⟨b,o + x * 4 + 2,none⟩) hbb)
        rw [g1,h1] at e1
        rw [g2,h2] at e2
        injection e1 with e1
        injection e1 with e1 _ e3
        injection e2 with e2
        injection e2 with e2 _ e4
        subst e1
        subst e2
        subst e3
        subst e4
        exact ⟨g0,g1,g2,g3,g4,g5⟩
      have HC:Hid (∀ W:World,Below rb w W -> W.cell? ⟨b,o + x * 4,none⟩ = some (.bool (N x).lf) /\ W.cell? ⟨b,o + x * 4 + 1,none⟩ = some (.slice ka (N x).kn kc) /\ W.cell? ⟨b,o + x * 4 + 2,none⟩ = some (.slice da (N x).dn dc) /\ W.cell? ⟨b,o + x * 4 + 3,none⟩ = some (.int .i64 (N x).ct) /\ RdS W ka (N x).kn (N x).ks /\ Rd .i64 W da (N x).dn (N x).kd) := hcells
      have c0 := h.cell 0
      have c1 := h.cell 1
      have f1 := h.frozen 1
      simp at c0 c1
      obtain ⟨d0,d1,d2,d3,_,_⟩ := hcells w (Below.refl _ _)
      have hq:((x:Int) == (n:Int)) = false := by simp; omega
      have hx0:(0:Int) <= (x:Int) := by omega
      have hxI:(x:Int) < (n:Int) := by omega
      clear h hRd ih hcells hN
      go_enter Tryz.func109,Tryz.ntmps109
      go_wp2
      go_quiet (fail)
      go_wp2
      have H1:Hid (Below w.heap.size w (w.drewN nq)) := below_drewN (Below.refl _ _) nq
      clear c0 c1 f1 d0 d1 d2 d3
      generalize w.drewN nq = w1 at H1 ⊢
      have HR1:Hid (RBx w1 rb b o n c x D lk hk) := HR.out.below H1.out
      have c0 := HR1.out.cell 0
      have c1 := HR1.out.cell 1
      have f1 := HR1.out.frozen 1
      have hl1 := HR1.out.lt
      simp at c0 c1
      obtain ⟨d0,d1,d2,d3,_,_⟩ := HC.out w1 (H1.out.mono (by omega))
      have hbl:b < w1.heap.size := World.block_lt_of_cell? _ _ d0
      go_region_held3 (fun w' => w'.cell? ⟨rb,0,none⟩ = some (.slice (some ⟨b,o,none⟩) n c) /\ w'.cell? ⟨rb,1,none⟩ = some (.int .i64 (x:Int)) /\ w'.cell? ⟨b,o + x * 4,none⟩ = some (.bool (N x).lf) /\ w'.cell? ⟨b,o + x * 4 + 1,none⟩ = some (.slice ka (N x).kn kc) /\ w'.cell? ⟨b,o + x * 4 + 2,none⟩ = some (.slice da (N x).dn dc) /\ w'.cell? ⟨b,o + x * 4 + 3,none⟩ = some (.int .i64 (N x).ct)) (go_keep) (fail)
      go_upto_region 4 with fail
      have S2:Hid (Bx (w1.alloc (.cells #[.bool (N x).lf,.slice ka (N x).kn kc,.slice da (N x).dn dc,.int .i64 (N x).ct] 168)).drew w1.heap.size 168 #[.bool (N x).lf,.slice ka (N x).kn kc,.slice da (N x).dn dc,.int .i64 (N x).ct] /\ RBx (w1.alloc (.cells #[.bool (N x).lf,.slice ka (N x).kn kc,.slice da (N x).dn dc,.int .i64 (N x).ct] 168)).drew rb b o n c x D lk hk /\ Below w1.heap.size w1 (w1.alloc (.cells #[.bool (N x).lf,.slice ka (N x).kn kc,.slice da (N x).dn dc,.int .i64 (N x).ct] 168)).drew) := ⟨(Bx.new _ _ _).drew,(HR1.out.alloc _).drew,(below_alloc _ _).drew⟩
      clear c0 c1 f1 d0 d1 d2 d3
      generalize (w1.alloc (.cells #[.bool (N x).lf,.slice ka (N x).kn kc,.slice da (N x).dn dc,.int .i64 (N x).ct] 168)).drew = w2 at S2 ⊢
      have hz1 := H1.out.size
      have c1 := S2.out.2.1.cell 1
      have f1 := S2.out.2.1.frozen 1
      have hl2 := S2.out.2.1.lt
      have hl3 := S2.out.1.lt
      simp at c1
      go_upto_region 5 with fail
      have S3:Hid (Bx (w2.setCell ⟨rb,1,none⟩ (.int .i64 ((x:Int) + 1))) w1.heap.size 168 #[.bool (N x).lf,.slice ka (N x).kn kc,.slice da (N x).dn dc,.int .i64 (N x).ct] /\ RBx (w2.setCell ⟨rb,1,none⟩ (.int .i64 ((x:Int) + 1))) rb b o n c (x + 1) D lk hk /\ w.grownBy (w2.setCell ⟨rb,1,none⟩ (.int .i64 ((x:Int) + 1))) (some rb) /\ Below rb w (w2.setCell ⟨rb,1,none⟩ (.int .i64 ((x:Int) + 1)))) := by
        have hg:w.grownBy (w2.setCell ⟨rb,1,none⟩ (.int .i64 ((x:Int) + 1))) (some rb) := grown_trans (grown_below (H1.out.trans (S2.out.2.2.mono H1.out.size))) (grown_set _ _ _ _)
        refine ⟨S2.out.1.other (by simp; omega) _,?_,hg,below_grown hg (by omega) (Nat.le_refl _)⟩
        have q := S2.out.2.1.set 1 (.int .i64 ((x:Int) + 1))
        exact q
      clear c1 f1 S2 HR1 HR
      generalize (w2.setCell ⟨rb,1,none⟩ (.int .i64 ((x:Int) + 1))) = w3 at S3 ⊢
      cases hlf:(N x).lf with
      | true =>
        rw [hlf] at S3
        have g0 := S3.out.1.cell 0
        have g1 := S3.out.1.cell 1
        have g2 := S3.out.1.cell 2
        have g3 := S3.out.1.cell 3
        simp at g0 g1 g2 g3
        go_wp2_with fail
        refine (readLeafO_any N rb b o n c x dep D hk lk d w3 ka da kc dc S3.out.2.1 hlt hlf HFit.out (fun W hW => (HC.out W (S3.out.2.2.2.trans hW)).2.2.2.2.1) hd0).mono ?_
        rintro e w4 hret
        have HRet := hret.from S3.out.2.2.1
        obtain ⟨hg4,v,ok,rfl,hr4⟩ := HRet
        have HF:Hid (RetRo N rb b o n c x dep D hk lk (d + 1) w (.returned (.tuple #[v,.bool ok])) w4) := ⟨hg4,v,ok,rfl,hr4⟩
        clear hret hg4 hr4 g0 g1 g2 g3
        go_wp2
        refine bodyPost_ret (v := .tuple #[v,.bool ok]) (by simp [results,Tryz.results109,go_sem]) rfl HF.out
      | false =>
        rw [hlf] at S3
        have g0 := S3.out.1.cell 0
        have g1 := S3.out.1.cell 1
        have g2 := S3.out.1.cell 2
        have g3 := S3.out.1.cell 3
        simp at g0 g1 g2 g3
        go_wp2_with fail
        refine (readInnerO_any N rb b o n c x dep D hk lk d w3 ka da kc dc S3.out.2.1 hlt hn hlf HFit.out (fun W hW => (HC.out W (S3.out.2.2.2.trans hW)).2.2.2.2.1) (fun W hW => (HC.out W (S3.out.2.2.2.trans hW)).2.2.2.2.2) hd0 (by omega) (fun W y D2 lk2 hk2 hW => HIH.out W y D2 lk2 hk2 (S3.out.2.2.2.trans hW))).mono ?_
        rintro e w4 hret
        have HRet := hret.from S3.out.2.2.1
        obtain ⟨hg4,v,ok,rfl,hr4⟩ := HRet
        have HF:Hid (RetRo N rb b o n c x dep D hk lk (d + 1) w (.returned (.tuple #[v,.bool ok])) w4) := ⟨hg4,v,ok,rfl,hr4⟩
        clear hret hg4 hr4 g0 g1 g2 g3
        go_wp2
        refine bodyPost_ret (v := .tuple #[v,.bool ok]) (by simp [results,Tryz.results109,go_sem]) rfl HF.out

set_option maxHeartbeats 1000000 in
theorem readO_none (a:Option Addr) (rb c:Nat) (D:Int) (hk:Bool) (lk:ByteArray) (w:World) (h:Bx w rb 161 #[.slice a 0 c,.int .i64 0,.int .i64 D,.string lk,.bool hk]) :
    Calls Tryz.prog 109 #[.pointer (some ⟨rb,0,none⟩),.int .i64 0] w fun e w' => e = .returned (.tuple #[.nilIface,.bool false]) /\ Below w.heap.size w w' := by
  have c0 := h.cell 0
  have c1 := h.cell 1
  simp at c0 c1
  clear h
  go_enter Tryz.func109,Tryz.ntmps109
  go_wp2
  go_quiet (fail)
  go_wp2
  refine bodyPost_ret (v := .tuple #[.nilIface,.bool false]) (by simp [results,Tryz.results109,go_sem]) rfl ⟨rfl,below_drewN (Below.refl _ _) _⟩

def RetTreO (w:World) (n:Nat) (N:Nat -> Tn) (e:Ending) (w' : World):Prop :=
  Below w.heap.size w w' /\ ∃ v ok,e = .returned (.tuple #[v,.bool ok]) /\
    ((ok = true /\ ∃ (t:Ro n) (t' : Ro 21) (h:Nat),VTt n N t' /\ keysR 21 t' = keysR n t /\ BalR n true t h /\ Tells N 0 n t 0 /\ nodesR n t = n /\ TOx w.heap.size w' n t v) \/ (ok = false /\ ¬ VT n N))

set_option maxHeartbeats 4000000 in
theorem readTreeO_any (a:Option Addr) (n c:Nat) (N:Nat -> Tn) (w:World) (h:RdTn w a n N) (hn:n <= 1048576) (hN:∀ i,i < n -> TnFit (N i)) :
    Calls Tryz.prog 68 #[.agg #[.slice a n c]] w (RetTreO w n N) := by
  by_cases h5:5000 < n
  · have i5:(5000:Int) < (n:Int) := by omega
    have i5' : decide ((5000:Int) < (n:Int)) = true := decide_eq_true i5
    have n5' : decide (5000 < n) = true := decide_eq_true h5
    have HNo:Hid (¬ VT n N) := fun ⟨t,hv⟩ => by have := hv.2.1; omega
    clear h hN
    go_enter Tryz.func68,Tryz.ntmps68
    go_wp2
    refine bodyPost_ret (v := .tuple #[.nilIface,.bool false]) (by simp [results,Tryz.results68,go_sem]) rfl ⟨below_alloc _ _,_,false,rfl,.inr ⟨rfl,HNo.out⟩⟩
  · have i5:¬ (5000:Int) < (n:Int) := by omega
    have i5' : decide ((5000:Int) < (n:Int)) = false := decide_eq_false i5
    have n5' : decide (5000 < n) = false := decide_eq_false h5
    by_cases h0:n = 0
    · subst h0
      have HNo:Hid (¬ VT 0 N) := fun ⟨t,hv⟩ => by have := hv.1; omega
      clear h hN
      go_enter Tryz.func68,Tryz.ntmps68
      go_upto_region 4 with fail
      have S1:Hid (Bx ((w.alloc (.cells #[.slice a 0 c] 59)).alloc (.cells #[.slice a 0 c,.int .i64 0,.int .i64 0,.string { data := #[] },.bool false] 161)) (w.heap.size + 1) 161 #[.slice a 0 c,.int .i64 0,.int .i64 0,.string { data := #[] },.bool false] /\ Below w.heap.size w ((w.alloc (.cells #[.slice a 0 c] 59)).alloc (.cells #[.slice a 0 c,.int .i64 0,.int .i64 0,.string { data := #[] },.bool false] 161))) := by
        refine ⟨?_,(below_alloc _ _).alloc (by simp) _⟩
        have q := Bx.new (w.alloc (.cells #[.slice a 0 c] 59)) #[.slice a 0 c,.int .i64 0,.int .i64 0,.string { data := #[] },.bool false] 161
        simpa using q
      generalize ((w.alloc (.cells #[.slice a 0 c] 59)).alloc (.cells #[.slice a 0 c,.int .i64 0,.int .i64 0,.string { data := #[] },.bool false] 161)) = W at S1 ⊢
      go_wp2_with fail
      refine (readO_none a (w.heap.size + 1) c 0 false _ W S1.out.1).mono ?_
      rintro e w1 ⟨rfl,hb1⟩
      have HB:Hid (Below w.heap.size w w1) := S1.out.2.trans (hb1.mono S1.out.2.size)
      clear hb1 S1
      go_wp2
      go_quiet (fail)
      go_wp2
      refine bodyPost_ret (v := .tuple #[.nilIface,.bool false]) (by simp [results,Tryz.results68,go_sem]) rfl ⟨below_drewN HB.out _,_,false,rfl,.inr ⟨rfl,HNo.out⟩⟩
    · obtain ⟨b,o,rfl,hbw⟩:∃ b o,a = some ⟨b,o,none⟩ /\ b < w.heap.size := by
        rcases h with q | ⟨b,o,e,hc⟩
        · exact absurd q h0
        · obtain ⟨_,_,_,_,q,_⟩ := hc 0 (by omega)
          exact ⟨b,o,e,World.block_lt_of_cell? _ _ q⟩
      have HR:Hid (RdTn w (some ⟨b,o,none⟩) n N /\ ∀ i,i < n -> TnFit (N i)) := ⟨h,hN⟩
      clear h hN
      go_enter Tryz.func68,Tryz.ntmps68
      go_upto_region 4 with fail
      have S1:Hid (RBx ((w.alloc (.cells #[.slice (some ⟨b,o,none⟩) n c] 59)).alloc (.cells #[.slice (some ⟨b,o,none⟩) n c,.int .i64 0,.int .i64 0,.string { data := #[] },.bool false] 161)) (w.heap.size + 1) b o n c 0 0 { data := #[] } false /\ Bx ((w.alloc (.cells #[.slice (some ⟨b,o,none⟩) n c] 59)).alloc (.cells #[.slice (some ⟨b,o,none⟩) n c,.int .i64 0,.int .i64 0,.string { data := #[] },.bool false] 161)) w.heap.size 59 #[.slice (some ⟨b,o,none⟩) n c] /\ Below w.heap.size w ((w.alloc (.cells #[.slice (some ⟨b,o,none⟩) n c] 59)).alloc (.cells #[.slice (some ⟨b,o,none⟩) n c,.int .i64 0,.int .i64 0,.string { data := #[] },.bool false] 161)) /\ ((w.alloc (.cells #[.slice (some ⟨b,o,none⟩) n c] 59)).alloc (.cells #[.slice (some ⟨b,o,none⟩) n c,.int .i64 0,.int .i64 0,.string { data := #[] },.bool false] 161)).heap.size = w.heap.size + 2) := by
        refine ⟨?_,(Bx.new _ _ _).alloc _,(below_alloc _ _).alloc (by simp) _,by simp⟩
        have q := Bx.new (w.alloc (.cells #[.slice (some ⟨b,o,none⟩) n c] 59)) #[.slice (some ⟨b,o,none⟩) n c,.int .i64 0,.int .i64 0,.string { data := #[] },.bool false] 161
        simp only [World.size_alloc] at q
        exact q
      generalize ((w.alloc (.cells #[.slice (some ⟨b,o,none⟩) n c] 59)).alloc (.cells #[.slice (some ⟨b,o,none⟩) n c,.int .i64 0,.int .i64 0,.string { data := #[] },.bool false] 161)) = W at S1 ⊢
      go_wp2_with fail
      refine (readO_any N (w.heap.size + 1) b o n c (by omega) (by omega) HR.out.2 n 0 0 0 false _ W (by omega) (by omega) (by omega) (by omega) S1.out.1 (fun W' hW' => HR.out.1.below (S1.out.2.2.1.trans (hW'.mono (by omega))))).mono ?_
      rintro e w1 ⟨hg1,v,ok,rfl,hr⟩
      have hsW := S1.out.2.2.2
      have HB:Hid (Below w.heap.size w w1) := S1.out.2.2.1.trans (below_grown hg1 (by omega) (by omega))
      have HT:Hid (Bx w1 w.heap.size 59 #[.slice (some ⟨b,o,none⟩) n c]) := S1.out.2.1.grown hg1 (fun e => by injection e with e; omega)
      have HRR:Hid ((ok = true /\ ∃ t D' hk' lk',Good N n 0 0 0 false { data := #[] } n t D' hk' lk' /\ RBx w1 (w.heap.size + 1) b o n c (0 + nodesR n t) D' lk' hk' /\ TOx W.heap.size w1 n t v) \/ (ok = false /\ ¬ ∃ t D' hk' lk',Good N n 0 0 0 false { data := #[] } n t D' hk' lk')) := hr
      have HWs:Hid (w.heap.size <= W.heap.size) := by
        show w.heap.size <= W.heap.size
        omega
      clear hg1 hr S1 hsW
      cases ok with
      | false =>
        have HNo:Hid (¬ VT n N) := by
          rintro ⟨t,hv⟩
          obtain ⟨t2,D',hk',lk',g,_⟩ := vt_good hv (Nat.le_refl n)
          rcases HRR.out with ⟨q,_⟩ | ⟨_,q⟩
          · cases q
          · exact q ⟨t2,D',hk',lk',g⟩
        go_wp2
        go_quiet (fail)
        go_wp2
        refine bodyPost_ret (v := .tuple #[.nilIface,.bool false]) (by simp [results,Tryz.results68,go_sem]) rfl ⟨below_drewN HB.out _,_,false,rfl,.inr ⟨rfl,HNo.out⟩⟩
      | true =>
        obtain ⟨t,D',hk',lk',hgood,hrb,hta⟩:∃ t D' hk' lk',Good N n 0 0 0 false { data := #[] } n t D' hk' lk' /\ RBx w1 (w.heap.size + 1) b o n c (0 + nodesR n t) D' lk' hk' /\ TOx W.heap.size w1 n t v := by
          rcases HRR.out with ⟨_,q⟩ | ⟨q,_⟩
          · exact q
          · cases q
        have HG:Hid (Good N n 0 0 0 false { data := #[] } n t D' hk' lk' /\ TOx W.heap.size w1 n t v) := ⟨hgood,hta⟩
        have y0 := HT.out.cell 0
        have hle := hgood.le
        rw [Nat.zero_add] at hrb hle
        obtain ⟨m,hm⟩:∃ m,m = nodesR n t := ⟨_,rfl⟩
        rw [<- hm] at hrb hle
        have r1 := hrb.cell 1
        have HM:Hid (m = nodesR n t) := hm
        simp at y0 r1
        clear HRR hgood hrb hta hm
        obtain ⟨vb,hvf⟩:∃ p,v = .iface 204 (.pointer (some p)) \/ v = .iface 174 (.pointer (some p)) := by
          obtain ⟨bb,_,_,_,hv⟩ := (TOx.tat HG.out.2).count
          exact ⟨_,hv⟩
        by_cases hmn:m = n
        · have HOut:Hid (∃ (t:Ro n) (t' : Ro 21) (h:Nat),VTt n N t' /\ keysR 21 t' = keysR n t /\ BalR n true t h /\ Tells N 0 n t 0 /\ nodesR n t = n /\ TOx w.heap.size w1 n t v) := by
            have hnt:nodesR n t = n := by rw [<- HM.out]; exact hmn
            obtain ⟨t',q1,q2⟩ := good_vt (by omega) HG.out.1 hnt
            obtain ⟨hh,hb,_⟩ := HG.out.1.bal
            exact ⟨t,t',hh,q1,q2,by simpa using hb,HG.out.1.tl,hnt,TOx.mono HG.out.2 (by have := HWs.out; omega)⟩
          subst hmn
          have hq:((m:Int) != (m:Int)) = false := by simp
          rcases hvf with rfl | rfl
          · go_wp2
            go_quiet (fail)
            go_wp2
            refine bodyPost_ret (v := .tuple #[.iface 204 (.pointer (some vb)),.bool true]) (by simp [results,Tryz.results68,go_sem]) rfl ⟨below_drewN HB.out _,_,true,rfl,.inl ⟨rfl,?_⟩⟩
            obtain ⟨t,t',hh,q1,q2,q3,q4,q5,q6⟩ := HOut.out
            exact ⟨t,t',hh,q1,q2,q3,q4,q5,q6.below (below_drewN (Below.refl _ _) _)⟩
          · go_wp2
            go_quiet (fail)
            go_wp2
            refine bodyPost_ret (v := .tuple #[.iface 174 (.pointer (some vb)),.bool true]) (by simp [results,Tryz.results68,go_sem]) rfl ⟨below_drewN HB.out _,_,true,rfl,.inl ⟨rfl,?_⟩⟩
            obtain ⟨t,t',hh,q1,q2,q3,q4,q5,q6⟩ := HOut.out
            exact ⟨t,t',hh,q1,q2,q3,q4,q5,q6.below (below_drewN (Below.refl _ _) _)⟩
        · have hq:((m:Int) != (n:Int)) = true := by simp; omega
          have HNo:Hid (¬ VT n N) := by
            rintro ⟨t2,hv⟩
            obtain ⟨t3,D3,hk3,lk3,g3,e3⟩ := vt_good hv (Nat.le_refl n)
            have e := tells_uniq _ _ _ g3.tl HG.out.1.tl
            rw [e,<- HM.out] at e3
            exact hmn e3
          rcases hvf with rfl | rfl
          · go_wp2
            go_quiet (fail)
            go_wp2
            refine bodyPost_ret (v := .tuple #[.nilIface,.bool false]) (by simp [results,Tryz.results68,go_sem]) rfl ⟨below_drewN HB.out _,_,false,rfl,.inr ⟨rfl,HNo.out⟩⟩
          · go_wp2
            go_quiet (fail)
            go_wp2
            refine bodyPost_ret (v := .tuple #[.nilIface,.bool false]) (by simp [results,Tryz.results68,go_sem]) rfl ⟨below_drewN HB.out _,_,false,rfl,.inr ⟨rfl,HNo.out⟩⟩


def RetTt (w:World) (d:Nat) (y:Ro d) (e:Ending) (w' : World):Prop :=
  Below w.heap.size w w' /\ ∃ a c N' KA DA KC DC,e = .returned (.agg #[.slice a (nodesR d y) c]) /\ GT w' (w.heap.size + 1) (.slice a (nodesR d y) c) (nodesR d y) N' KA DA KC DC /\ Tells N' 0 d y 0

set_option maxHeartbeats 2000000 in
theorem tellTree_any (d:Nat) (y:Ro d) (v:Value) (S:Nat -> Prop) (w:World) (root:Bool) (h:Nat) (ht:TAo S w d y v) (hb:BalR d root y h) (hS:∀ x,S x -> x < w.heap.size) (hn:nodesR d y <= 100000):Calls Tryz.prog 86 #[v] w (RetTt w d y) := by
  have hct := tellO d y v S (w.alloc (.cells #[.slice none 0 0] 59)) root h (w.heap.size + 1) 0 0 none (fun _ => ⟨false,0,fun _ => { data := #[] },0,fun _ => 0,0⟩) (fun _ => none) (fun _ => none) (fun _ => 0) (fun _ => 0) (ht.below (below_alloc _ _)) hb (GT.nil _ _ _ _ _ _ _) (by simp) (fun x hx => by have := hS x hx; omega) (by omega)
  obtain ⟨m,hm⟩:∃ m,m = nodesR d y := ⟨_,rfl⟩
  have HM:Hid (m = nodesR d y) := hm
  obtain ⟨bb,_,_,_,hform⟩ := ht.count
  rcases hform with rfl | rfl
  · have HC:Hid (Calls Tryz.prog 209 #[.pointer (some ⟨bb,0,none⟩),.slice none 0 0] (w.alloc (.cells #[.slice none 0 0] 59)) (RetTl (w.alloc (.cells #[.slice none 0 0] 59)) (w.heap.size + 1) (.slice none 0 0) 0 (fun _ => ⟨false,0,fun _ => { data := #[] },0,fun _ => 0,0⟩) (fun _ => none) (fun _ => none) m (fun N' => Tells N' 0 d y 0))) := by
      rw [hm]
      exact callT_leaf hct
    clear hct ht hb hS hn hm
    go_enter Tryz.func86,Tryz.ntmps86
    go_wp2_with fail
    (with_reducible refine HC.out.mono ?_)
    rintro e w1 ⟨v',N',KA',DA',KC',DC',rfl,q1,q2,q3,q4,q5,q6⟩
    rw [Nat.zero_add] at q1
    obtain ⟨a1,c1,e1,_⟩ := own_form q1.row
    subst e1
    have hz := q2.size
    have hbx:Bx w1 w.heap.size 59 #[.slice none 0 0] := (Bx.new w #[.slice none 0 0] 59).grown q2 (fun e => by cases e)
    have HX:Hid (GT w1 (w.heap.size + 1) (.slice a1 m c1) m N' KA' DA' KC' DC' /\ Tells N' 0 d y 0 /\ Below w.heap.size w w1 /\ Bx w1 w.heap.size 59 #[.slice none 0 0]) := ⟨q1,q6,(below_alloc _ _).grown q2 (by simp) (fun g e => by cases e),hbx⟩
    have z0 := hbx.cell 0
    simp at z0
    have zf := hbx.frozen 0
    have zl := hbx.lt
    clear q1 q2 q3 q4 q5 q6 hbx hz HC
    go_wp2
    refine bodyPost_ret (v := .agg #[.slice a1 m c1]) (by simp [results,Tryz.results86,go_sem,z0]) rfl ⟨HX.out.2.2.1.setCell (by simp) _,a1,c1,N',KA',DA',KC',DC',by rw [HM.out],?_,HX.out.2.1⟩
    rw [<- HM.out]
    exact HX.out.1.keep (fun x hx => Below.heap_setCell _ _ _ _ (by have := (HX.out.1.used hx).1; show x ≠ w.heap.size; omega))
  · have HC:Hid (Calls Tryz.prog 191 #[.pointer (some ⟨bb,0,none⟩),.slice none 0 0] (w.alloc (.cells #[.slice none 0 0] 59)) (RetTl (w.alloc (.cells #[.slice none 0 0] 59)) (w.heap.size + 1) (.slice none 0 0) 0 (fun _ => ⟨false,0,fun _ => { data := #[] },0,fun _ => 0,0⟩) (fun _ => none) (fun _ => none) m (fun N' => Tells N' 0 d y 0))) := by
      rw [hm]
      exact callT_inner hct
    clear hct ht hb hS hn hm
    go_enter Tryz.func86,Tryz.ntmps86
    go_wp2_with fail
    (with_reducible refine HC.out.mono ?_)
    rintro e w1 ⟨v',N',KA',DA',KC',DC',rfl,q1,q2,q3,q4,q5,q6⟩
    rw [Nat.zero_add] at q1
    obtain ⟨a1,c1,e1,_⟩ := own_form q1.row
    subst e1
    have hz := q2.size
    have hbx:Bx w1 w.heap.size 59 #[.slice none 0 0] := (Bx.new w #[.slice none 0 0] 59).grown q2 (fun e => by cases e)
    have HX:Hid (GT w1 (w.heap.size + 1) (.slice a1 m c1) m N' KA' DA' KC' DC' /\ Tells N' 0 d y 0 /\ Below w.heap.size w w1 /\ Bx w1 w.heap.size 59 #[.slice none 0 0]) := ⟨q1,q6,(below_alloc _ _).grown q2 (by simp) (fun g e => by cases e),hbx⟩
    have z0 := hbx.cell 0
    simp at z0
    have zf := hbx.frozen 0
    have zl := hbx.lt
    clear q1 q2 q3 q4 q5 q6 hbx hz HC
    go_wp2
    refine bodyPost_ret (v := .agg #[.slice a1 m c1]) (by simp [results,Tryz.results86,go_sem,z0]) rfl ⟨HX.out.2.2.1.setCell (by simp) _,a1,c1,N',KA',DA',KC',DC',by rw [HM.out],?_,HX.out.2.1⟩
    rw [<- HM.out]
    exact HX.out.1.keep (fun x hx => Below.heap_setCell _ _ _ _ (by have := (HX.out.1.used hx).1; show x ≠ w.heap.size; omega))
def RetTi (w:World) (n:Nat) (N:Nat -> Tn) (key:ByteArray) (e:Ending) (w' : World):Prop :=
  Below w.heap.size w w' /\ ∃ ok a m c M KA DA KC DC,e = .returned (.agg #[.bool ok,.slice a m c]) /\ GT w' w.heap.size (.slice a m c) m M KA DA KC DC /\ ((ok = true /\ InsTo n N key m M) \/ (ok = false /\ m = n /\ M = N /\ InsNo n N key))

theorem GT.mono {w:World} {B B' : Nat} {v:Value} {n:Nat} {N:Nat -> Tn} {KA DA:Nat -> Option Addr} {KC DC:Nat -> Nat} (h:GT w B v n N KA DA KC DC) (hB:B' <= B):GT w B' v n N KA DA KC DC :=
  ⟨own_mono h.row hB,fun i hi => (h.keys i hi).mono hB,fun i hi => (h.kids i hi).mono hB,h.apartK,h.apartD⟩

def RetGo (key:ByteArray) (t:Ro 21) (w:World) (b:Nat) (e:Ending) (w' : World):Prop :=
  ∃ (D:Nat) (y:Ro D) (v' : Value) (S:Nat -> Prop) (hh:Nat) (rs:List (Ro 21)),e = .returned v' /\ Fr2 w w' b b /\ TAo S w' D y v' /\ (∀ x,S x -> x < w'.heap.size) /\ BalR D true y hh /\ InsR key 21 t rs /\ nodesR D y = insN rs /\ nodesR D y <= 6000 /\ ∀ M,Tells M 0 D y 0 -> InsT M rs


def dgF:Nat -> Nat -> ByteArray -> ByteArray
  | 0,_,x => x
  | f + 1,k,x => if k = 0 then x else dgF f (k / 10) (strOfNums [48 + (k:Int) % 10] ++ x)

theorem dgF_zero (f:Nat) (x:ByteArray):dgF f 0 x = x := by cases f <;> simp [dgF]
theorem dgF_step {f k:Nat} (x:ByteArray) (hk:0 < k) (hf:k <= f):∃ f',f = f' + 1 /\ k / 10 <= f' /\ dgF f k x = dgF f' (k / 10) (strOfNums [48 + (k:Int) % 10] ++ x) := by
  cases f with
  | zero => omega
  | succ f => exact ⟨f,rfl,by omega,by rw [dgF,if_neg (by omega)]⟩

def mkT (k:Nat):ByteArray := ByteArray.mk #[109] ++ dgF k k { data := #[] }

theorem run_conv1 (w:World) (d:Int):(convert 47 9 (.slice (some ⟨w.heap.size,0,none⟩) 1 1)).run Tryz.prog (w.alloc (.cells #[.int .u8 d] 5)) = .ok (.string (strOfNums [d])) (w.alloc (.cells #[.int .u8 d] 5)) :=
  run_convert_bytes_arg (w.alloc (.cells #[.int .u8 d] 5)) 47 5 (by kernel_rfl) (by kernel_rfl) w.heap.size 0 1 1 [d] rfl (fun i hi => by
    obtain rfl:i = 0 := by omega
    simp) 9 (by kernel_rfl)

set_option maxHeartbeats 2000000 in
theorem markText_any (k:Nat) (w:World) (hk:1 <= k) (hk2:k <= 1073741824) :
    Calls Tryz.prog 136 #[.int .i64 k] w fun e w' => e = .returned (.string (mkT k)) /\ Below w.heap.size w w' := by
  have HM:Hid (mkT k = ByteArray.mk #[109] ++ dgF k k { data := #[] }) := rfl
  generalize hT:mkT k = T at *
  clear hT
  generalize hD:dgF k k { data := #[] } = D at *
  have HD:Hid (dgF k k { data := #[] } = D) := hD
  clear hD
  have hcv := run_conv1
  go_enter Tryz.func136,Tryz.ntmps136
  go_wp2
  go_loopw [0,3] (fun q s wr => ∃ (j f:Nat) (x:ByteArray),x.size + j <= k /\ j <= f /\ q = .int .i64 j /\ s = .string x /\ dgF f j x = D /\ Below w.heap.size w wr) (fun q _ _ => (intOf q).toNat)
  case atStart => exact ⟨k,k,_,by simp [ByteArray.size],Nat.le_refl _,rfl,rfl,HD.out,Below.refl _ _⟩
  case round =>
    obtain ⟨j,f,x,hj,hf,rfl,rfl,hd,hb⟩ := hrel
    have HB:Hid (Below w.heap.size w wr) := hb
    clear hb
    by_cases hlt:0 < j
    · obtain ⟨f',rfl,hf',e⟩ := dgF_step x hlt hf
      have HQ:Hid (dgF f' (j / 10) (strOfNums [48 + (j:Int) % 10] ++ x) = D) := e.symm.trans hd
      clear hd e
      have hs1:¬ 9223372036854775807 < (strOfNums [48 + (j:Int) % 10]).size + x.size := by
        have:(strOfNums [48 + (j:Int) % 10]).size = 1 := rfl
        omega
      have HS:Hid ((strOfNums [48 + (j:Int) % 10] ++ x).size = x.size + 1) := by
        show _ = _
        rw [ByteArray.size_append]
        have:(strOfNums [48 + (j:Int) % 10]).size = 1 := rfl
        omega
      have HE:Hid (((j / 10:Nat):Int) = (j:Int) / 10) := by show _ = _; omega
      go_wp2
      go_roundw
      case rel => exact ⟨j / 10,f',_,by rw [HS.out]; omega,hf',by simp,rfl,HQ.out,HB.out.alloc HB.out.size _⟩
      case measure => simp [intOf]; omega
    · obtain rfl:j = 0 := by omega
      have HQ:Hid (x = D) := by rw [<- hd,dgF_zero]; rfl
      have hs1:¬ 9223372036854775807 < 1 + x.size := by omega
      clear hd
      go_wp2
      go_ret
      exact ⟨by rw [HM.out,HQ.out]; rfl,HB.out⟩

def sumT (N:Nat -> Tn):Nat -> Nat
  | 0 => 0
  | k + 1 => sumT N k + (N k).kn + (N k).dn

set_option maxHeartbeats 1000000 in
theorem szStringS_sum (a:Option Addr) (n c:Nat) (X:Nat -> ByteArray) (l:Int) (w:World) (h:RdS w a n X) (hn:n <= maxLen) (hX:∀ i,i < n -> (X i).size <= maxLen) (h0:0 <= l) (h1:l <= 1048576) :
    Calls Tryz.prog 150 #[.slice a n c,.int .i64 l] w fun e w' => ∃ r:Int,e = .returned (.int .i64 r) /\ (r = -1 \/ (0 <= r /\ r + (n:Int) <= l)) /\ Below w.heap.size w w' := by
  unfold maxLen at hn
  by_cases hneg:l - (n:Int) < 0
  · go_enter Tryz.func150,Tryz.ntmps150
    go_wp2
    go_ret
    exact ⟨-1,rfl,Or.inl rfl,Below.refl _ _⟩
  · go_enter Tryz.func150,Tryz.ntmps150
    go_wp2
    go_loopw [1,5] (fun q i wr => ∃ (k:Nat) (l' : Int),k <= n /\ i = .int .i64 k /\ q = .int .i64 l' /\ 0 <= l' /\ l' <= l - (n:Int) /\ Below w.heap.size w wr) (fun _ i _ => n - (intOf i).toNat)
    case atStart => exact ⟨0,_,Nat.zero_le _,rfl,rfl,by omega,by omega,Below.refl _ _⟩
    case round =>
      obtain ⟨k,l',hk,rfl,rfl,hl0,hl1,hbel⟩ := hrel
      by_cases hlt:k < n
      · have hne:¬ n = 0 := by omega
        have h' := h.below hbel
        have HB:Hid (Below w.heap.size w wr) := hbel
        rcases h' with h' | ⟨b,o,rfl,hc⟩
        · exact absurd h' hne
        have c1 := hc k hlt
        have HX := hX k hlt
        unfold maxLen at HX
        clear hc h hbel hX
        by_cases hq:l' - ((X k).size:Int) < 0
        · go_wp2
          go_ret
          exact ⟨-1,rfl,Or.inl rfl,HB.out⟩
        · go_wp2
          go_roundw
          case rel => exact ⟨k + 1,_,by omega,by go_num,rfl,by omega,by omega,HB.out⟩
          case measure => simp [intOf]; omega
      · have e:k = n := by omega
        subst e
        go_wp2
        go_ret
        exact ⟨l',rfl,Or.inr ⟨hl0,by omega⟩,hbel⟩

set_option maxHeartbeats 400000 in
theorem szInt64S_sum (a:Option Addr) (n c:Nat) (l:Int) (w:World) (hn:n <= maxLen) (h0:0 <= l) (h1:l <= 1048576) :
    Calls Tryz.prog 151 #[.slice a n c,.int .i64 l] w fun e w' => ∃ r:Int,e = .returned (.int .i64 r) /\ (r = -1 \/ (0 <= r /\ r + (n:Int) <= l)) /\ Below w.heap.size w w' := by
  unfold maxLen at hn
  by_cases h:l - (n:Int) < 0
  · go_enter Tryz.func151,Tryz.ntmps151
    go_wp2
    go_ret
    exact ⟨-1,rfl,Or.inl rfl,Below.refl _ _⟩
  · go_enter Tryz.func151,Tryz.ntmps151
    go_wp2
    go_ret
    exact ⟨_,rfl,Or.inr ⟨by omega,by omega⟩,Below.refl _ _⟩

set_option maxHeartbeats 1000000 in
theorem szTNode_sum (x:Tn) (ka da:Option Addr) (kc dc:Nat) (l:Int) (w:World) (hk:RdS w ka x.kn x.ks) (hB:TnBig x) (h0:0 <= l) (h1:l <= 1048576) :
    Calls Tryz.prog 131 #[.agg #[.bool x.lf,.slice ka x.kn kc,.slice da x.dn dc,.int .i64 x.ct],.int .i64 l] w fun e w' => ∃ r:Int,e = .returned (.int .i64 r) /\ (r = -1 \/ (0 <= r /\ r + (x.kn:Int) + (x.dn:Int) <= l)) /\ Below w.heap.size w w' := by
  have HK:Hid (RdS w ka x.kn x.ks) := hk
  have HB:Hid (TnBig x) := hB
  clear hk hB
  go_enter Tryz.func131,Tryz.ntmps131
  go_wp2_with fail
  refine (szStringS_sum ka x.kn kc x.ks l _ (HK.out.below (below_alloc _ _)) HB.out.1 HB.out.2.2 h0 h1).mono ?_
  rintro e w1 ⟨r,rfl,hr,hb1⟩
  have hc1 := (bcell hb1).1 w.heap.size
  have H1:Hid (Below w.heap.size w w1) := (below_alloc _ _).trans (hb1.mono (by simp))
  have hz1:w.heap.size < w1.heap.size := by have := hb1.size; simp at this; omega
  simp at hc1
  clear hb1
  rcases hr with rfl | ⟨hr0,hr1⟩
  · go_wp2
    go_ret
    exact ⟨-1,rfl,Or.inl rfl,H1.out⟩
  · have hr2:¬ r < 0 := by omega
    go_wp2_with fail
    refine (szInt64S_sum da x.dn dc r _ HB.out.2.1 hr0 (by omega)).mono ?_
    rintro e w2 ⟨r2,rfl,hq,hb2⟩
    have H2:Hid (Below w.heap.size w w2) := H1.out.trans (hb2.mono (by omega))
    clear hb2
    rcases hq with rfl | ⟨hq0,hq1⟩
    · go_wp2
      go_ret
      exact ⟨-1,rfl,Or.inl rfl,H2.out⟩
    · have hq2:¬ r2 < 0 := by omega
      go_wp2
      go_ret
      exact ⟨r2,rfl,Or.inr ⟨hq0,by omega⟩,H2.out⟩

set_option maxHeartbeats 1000000 in
theorem szTNodeS_sum (a:Option Addr) (m c:Nat) (N:Nat -> Tn) (l:Int) (w:World) (h:RdTn w a m N) (hm:m <= maxLen) (hN:∀ i,i < m -> TnBig (N i)) (h0:0 <= l) (h1:l <= 1048576) :
    Calls Tryz.prog 107 #[.slice a m c,.int .i64 l] w fun e w' => ∃ r:Int,e = .returned (.int .i64 r) /\ (r = -1 \/ (0 <= r /\ r + (m:Int) + (sumT N m:Int) <= l)) /\ Below w.heap.size w w' := by
  unfold maxLen at hm
  by_cases hneg:l - (m:Int) < 0
  · go_enter Tryz.func107,Tryz.ntmps107
    go_wp2
    go_ret
    exact ⟨-1,rfl,Or.inl rfl,Below.refl _ _⟩
  · go_enter Tryz.func107,Tryz.ntmps107
    go_wp2
    go_loopw [1,5] (fun q i wr => ∃ (k:Nat) (l' : Int),k <= m /\ i = .int .i64 k /\ q = .int .i64 l' /\ 0 <= l' /\ l' + (sumT N k:Int) <= l - (m:Int) /\ Below w.heap.size w wr) (fun _ i _ => m - (intOf i).toNat)
    case atStart => exact ⟨0,_,Nat.zero_le _,rfl,rfl,by omega,by simp [sumT],Below.refl _ _⟩
    case round =>
      obtain ⟨k,l',hk,rfl,rfl,hl0,hl1,hbel⟩ := hrel
      by_cases hlt:k < m
      · have hne:¬ m = 0 := by omega
        have h' := h.below hbel
        have HB:Hid (Below w.heap.size w wr) := hbel
        have hsz := hbel.size
        rcases h' with h' | ⟨b,o,rfl,hc⟩
        · exact absurd h' hne
        obtain ⟨ka,kc,da,dc,c0,c1,c2,c3,c4,c5⟩ := hc k hlt
        have HK:Hid (RdS wr ka (N k).kn (N k).ks) := c4
        have HL:Hid (TnBig (N k)) := hN k hlt
        clear hc hN hbel h c4 c5
        go_wp2_with fail
        refine (szTNode_sum (N k) ka da kc dc l' _ HK.out HL.out hl0 (by omega)).mono ?_
        rintro e w1 ⟨r,rfl,hr,hb1⟩
        have HB1:Hid (Below w.heap.size w w1) := HB.out.trans (hb1.mono hsz)
        clear hb1
        rcases hr with rfl | ⟨hr0,hr1⟩
        · go_wp2
          go_ret
          exact ⟨-1,rfl,Or.inl rfl,HB1.out⟩
        · have hr2:¬ r < 0 := by omega
          have HN2:Hid (r + (sumT N (k + 1):Int) <= l - (m:Int)) := by
            show r + (sumT N (k + 1):Int) <= l - (m:Int)
            have:sumT N (k + 1) = sumT N k + (N k).kn + (N k).dn := rfl
            omega
          go_wp2
          go_roundw
          case rel => exact ⟨k + 1,r,by omega,by go_num,rfl,hr0,HN2.out,HB1.out⟩
          case measure => simp [intOf]; omega
      · have e:k = m := by omega
        subst e
        go_wp2
        go_ret
        exact ⟨l',rfl,Or.inr ⟨hl0,by omega⟩,hbel⟩

theorem sumT_get (N:Nat -> Tn):∀ (m i:Nat),i < m -> (N i).kn + (N i).dn <= sumT N m
  | 0,i,h => absurd h (Nat.not_lt_zero _)
  | m + 1,i,h => by
    have e:sumT N (m + 1) = sumT N m + (N m).kn + (N m).dn := rfl
    by_cases e2:i = m
    · subst e2; omega
    · have := sumT_get N m i (by omega)
      omega


set_option maxHeartbeats 400000 in
theorem markTextI (x:Int) (k:Nat) (h:x = (k:Int)) (w:World) (hk:1 <= k) (hk2:k <= 1073741824) :
    Calls Tryz.prog 136 #[.int .i64 x] w fun e w' => e = .returned (.string (mkT k)) /\ Below w.heap.size w w' := by
  subst h
  exact markText_any k w hk hk2

def OwnV (w:World) (t:TypeId) (a:Option Addr) (n:Nat) (f:Nat -> Value):Prop := n = 0 \/ ∃ g,a = some ⟨g,0,none⟩ /\ rowIn w g t n f

set_option maxHeartbeats 2000000 in
theorem markStrs_any (a:Option Addr) (n c k:Nat) (X:Nat -> ByteArray) (w:World) (h:OwnV w 9 a n (fun i => .string (X i))) (hk:1 <= k) (hk2:k + n <= 1073741824) :
    Calls Tryz.prog 112 #[.slice a n c,.int .i64 (k:Int)] w fun e w' => e = .returned (.int .i64 ((k + n:Nat):Int)) /\ w.grownBy w' (a.map (·.block)) /\ (n = 0 -> w' = w) /\ OwnV w' 9 a n (fun i => .string (mkT (k + i))) := by
  by_cases hn0:n = 0
  · subst hn0
    go_enter Tryz.func112,Tryz.ntmps112
    go_wp2
    go_loopw [1,5] (fun q i wr => q = .int .i64 (k:Int) /\ i = .int .i64 0 /\ wr = w) (fun _ i _ => 1 - (intOf i).toNat)
    case atStart => exact ⟨rfl,rfl,rfl⟩
    case round =>
      obtain ⟨rfl,rfl,rfl⟩ := hrel
      go_wp2
      go_ret
      exact ⟨by simp,grown_refl _ _,fun _ => rfl,.inl rfl⟩
  · obtain ⟨g,rfl,hrow⟩ := h.resolve_left hn0
    have HR:Hid (rowIn w g 9 n (fun i => .string (X i))) := hrow
    clear hrow h
    have HN0:Hid (¬ n = 0) := hn0
    clear hn0
    go_enter Tryz.func112,Tryz.ntmps112
    go_wp2
    go_loopw [1,5] (fun q i wr => ∃ j p:Nat,j <= n /\ i = .int .i64 j /\ q = .int .i64 p /\ p = k + j /\ w.grownBy wr (some g) /\ rowIn wr g 9 n (fun i => .string (if i < j then mkT (k + i) else X i))) (fun _ i _ => n - (intOf i).toNat)
    case atStart => exact ⟨0,k,Nat.zero_le _,rfl,rfl,rfl,grown_refl _ _,HR.out.congr (fun i _ => by simp)⟩
    case round =>
      obtain ⟨j,p,hj,rfl,rfl,hp,hgr,hrow⟩ := hrel
      have HS:Hid (p = k + j /\ w.grownBy wr (some g) /\ rowIn wr g 9 n (fun i => .string (if i < j then mkT (k + i) else X i))) := ⟨hp,hgr,hrow⟩
      by_cases hlt:j < n
      · have hpb:1 <= p /\ p <= 1073741824 := by omega
        have i0:(0:Int) <= (j:Int) := by omega
        have i1:(j:Int) < (n:Int) := by omega
        clear hp hgr hrow HR
        go_wp2_with fail
        refine (markTextI _ p rfl wr hpb.1 hpb.2).mono ?_
        rintro e w1 ⟨rfl,hb1⟩
        have hrow1 := HS.out.2.2.of_block (hb1.block g HS.out.2.2.lt)
        have c1 := hrow1.cell hlt
        have f1 := hrow1.frozen j
        have l1 := hrow1.lt
        have HX:Hid (w.grownBy (w1.setCell ⟨g,j,none⟩ (.string (mkT p))) (some g) /\ rowIn (w1.setCell ⟨g,j,none⟩ (.string (mkT p))) g 9 n (fun i => .string (if i < j + 1 then mkT (k + i) else X i))) := by
          refine ⟨grown_trans (grown_trans HS.out.2.1 (grown_below hb1)) (grown_set _ _ _ _),(hrow1.set j _).congr (fun i hi => ?_)⟩
          by_cases e:i = j
          · subst e; simp [HS.out.1]
          · by_cases e2:i < j
            · have:i < j + 1 := by omega
              simp [e,e2,this]
            · have:¬ i < j + 1 := by omega
              simp [e,e2,this]
        have HP:Hid (p + 1 = k + (j + 1)) := by
          show p + 1 = k + (j + 1)
          have := HS.out.1
          omega
        clear hrow1 hb1 HS
        go_wp2
        go_roundw
        case rel => exact ⟨j + 1,p + 1,by omega,by go_num,by go_num,HP.out,HX.out⟩
        case measure => simp [intOf]; omega
      · have e:j = n := by omega
        subst e
        clear hp hgr hrow
        go_wp2
        go_ret
        exact ⟨by rw [HS.out.1]; rfl,HS.out.2.1,fun h => absurd h HN0.out,.inr ⟨g,rfl,HS.out.2.2.congr (fun i hi => by simp [hi])⟩⟩

set_option maxHeartbeats 2000000 in
theorem markInts_any (a:Option Addr) (n c k:Nat) (X:Nat -> Int) (w:World) (h:OwnV w 2 a n (fun i => .int .i64 (X i))) (hk:1 <= k) (hk2:k + n <= 1073741824) :
    Calls Tryz.prog 113 #[.slice a n c,.int .i64 (k:Int)] w fun e w' => e = .returned (.int .i64 ((k + n:Nat):Int)) /\ w.grownBy w' (a.map (·.block)) /\ (n = 0 -> w' = w) /\ ∃ X' : Nat -> Int,OwnV w' 2 a n (fun i => .int .i64 (X' i)) := by
  by_cases hn0:n = 0
  · subst hn0
    go_enter Tryz.func113,Tryz.ntmps113
    go_wp2
    go_loopw [1,5] (fun q i wr => q = .int .i64 (k:Int) /\ i = .int .i64 0 /\ wr = w) (fun _ i _ => 1 - (intOf i).toNat)
    case atStart => exact ⟨rfl,rfl,rfl⟩
    case round =>
      obtain ⟨rfl,rfl,rfl⟩ := hrel
      go_wp2
      go_ret
      exact ⟨by simp,grown_refl _ _,fun _ => rfl,X,.inl rfl⟩
  · obtain ⟨g,rfl,hrow⟩ := h.resolve_left hn0
    have HR:Hid (rowIn w g 2 n (fun i => .int .i64 (X i))) := hrow
    clear hrow h
    have HN0:Hid (¬ n = 0) := hn0
    clear hn0
    go_enter Tryz.func113,Tryz.ntmps113
    go_wp2
    go_loopw [1,5] (fun q i wr => ∃ (j p:Nat) (Y:Nat -> Int),j <= n /\ i = .int .i64 j /\ q = .int .i64 p /\ p = k + j /\ w.grownBy wr (some g) /\ rowIn wr g 2 n (fun i => .int .i64 (Y i))) (fun _ i _ => n - (intOf i).toNat)
    case atStart => exact ⟨0,k,X,Nat.zero_le _,rfl,rfl,rfl,grown_refl _ _,HR.out⟩
    case round =>
      obtain ⟨j,p,Y,hj,rfl,rfl,hp,hgr,hrow⟩ := hrel
      have HS:Hid (p = k + j /\ w.grownBy wr (some g) /\ rowIn wr g 2 n (fun i => .int .i64 (Y i))) := ⟨hp,hgr,hrow⟩
      by_cases hlt:j < n
      · have hpb:1 <= p /\ p <= 1073741824 := by omega
        have i0:(0:Int) <= (j:Int) := by omega
        have i1:(j:Int) < (n:Int) := by omega
        have c1 := hrow.cell hlt
        have f1 := hrow.frozen j
        have l1 := hrow.lt
        have HX:Hid (w.grownBy (wr.setCell ⟨g,j,none⟩ (.int .i64 (p:Int))) (some g) /\ rowIn (wr.setCell ⟨g,j,none⟩ (.int .i64 (p:Int))) g 2 n (fun i => .int .i64 (if i = j then (p:Int) else Y i))) := by
          refine ⟨grown_trans HS.out.2.1 (grown_set _ _ _ _),(hrow.set j _).congr (fun i hi => ?_)⟩
          by_cases e:i = j
          · subst e; simp
          · simp [e]
        have HP:Hid (p + 1 = k + (j + 1)) := by
          show p + 1 = k + (j + 1)
          have := HS.out.1
          omega
        clear hp hgr hrow HR HS
        go_wp2
        go_roundw
        case rel => exact ⟨j + 1,p + 1,_,by omega,by go_num,by go_num,HP.out,HX.out⟩
        case measure => simp [intOf]; omega
      · have e:j = n := by omega
        subst e
        clear hp hgr hrow
        go_wp2
        go_ret
        exact ⟨by rw [HS.out.1]; rfl,HS.out.2.1,fun h => absurd h HN0.out,Y,.inr ⟨g,rfl,HS.out.2.2⟩⟩

set_option maxHeartbeats 2000000 in
theorem heldStrs_any (a:Option Addr) (n c k:Nat) (w:World) (h:RdS w a n (fun i => mkT (k + i))) (hk:1 <= k) (hk2:k + n <= 1073741824) :
    Calls Tryz.prog 138 #[.slice a n c,.int .i64 (k:Int)] w fun e w' => e = .returned (.int .i64 ((k + n:Nat):Int)) /\ Below w.heap.size w w' := by
  have HR:Hid (RdS w a n (fun i => mkT (k + i))) := h
  clear h
  go_enter Tryz.func138,Tryz.ntmps138
  go_wp2
  go_loopw [1,5] (fun q i wr => ∃ j p:Nat,j <= n /\ i = .int .i64 j /\ q = .int .i64 p /\ p = k + j /\ Below w.heap.size w wr) (fun _ i _ => n - (intOf i).toNat)
  case atStart => exact ⟨0,k,Nat.zero_le _,rfl,rfl,rfl,Below.refl _ _⟩
  case round =>
    obtain ⟨j,p,hj,rfl,rfl,hp,hbel⟩ := hrel
    have HS:Hid (p = k + j /\ Below w.heap.size w wr) := ⟨hp,hbel⟩
    have hpb:1 <= p /\ p <= 1073741824 := by omega
    by_cases hlt:j < n
    · rcases HR.out.below hbel with q | ⟨b,o,rfl,hc⟩
      · omega
      have s1:wr.cell? ⟨b,o + j,none⟩ = some (.string (mkT p)) := by rw [hp]; exact hc j hlt
      have i0:(0:Int) <= (j:Int) := by omega
      have i1:(j:Int) < (n:Int) := by omega
      have hbl:b < wr.heap.size := World.block_lt_of_cell? _ _ s1
      have HM:Hid (∀ W:World,Calls Tryz.prog 136 #[.int .i64 (p:Int)] W fun e w' => e = .returned (.string (mkT p)) /\ Below W.heap.size W w') := fun W => markTextI _ p rfl W hpb.1 hpb.2
      have HC:Hid (∀ w1:World,Below wr.drew.heap.size wr.drew w1 -> w1.cell? ⟨b,o + j,none⟩ = some (.string (mkT p))) := fun w1 hb1 => by
        rw [hb1.cell (p := ⟨b,o + j,none⟩) hbl]
        exact s1
      obtain ⟨T,hT⟩:∃ T,mkT p = T := ⟨_,rfl⟩
      rw [hT] at s1 HM HC
      clear hc hp hbel hT
      have hq:(T.toList == T.toList) = true := by simp
      go_wp2
      go_region_held3 (fun w' => w'.cell? ⟨b,o + j,none⟩ = some (.string T)) (go_keep) (first | (go_at_call 136; refine (HM.out _).mono ?_; rintro e w1 ⟨rfl,hb1⟩; have k1 := HC.out w1 hb1) | fail)
      have HB:Hid (Below w.heap.size w w1) := HS.out.2.trans ((show Below wr.heap.size wr w1 from (Below.refl _ _).drew.trans hb1).mono HS.out.2.size)
      have HP:Hid (p + 1 = k + (j + 1)) := by
        show p + 1 = k + (j + 1)
        have := HS.out.1
        omega
      clear hb1 k1 HS
      go_wp2
      go_roundw
      case rel => exact ⟨j + 1,p + 1,by omega,by go_num,by go_num,HP.out,HB.out⟩
      case measure => simp [intOf]; omega
    · have e:j = n := by omega
      subst e
      clear hp hbel
      go_wp2
      go_ret
      exact ⟨by rw [HS.out.1]; rfl,HS.out.2⟩
end Go.Proofs.YtcnollkkigiobaaGreat
