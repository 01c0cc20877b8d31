import Derived.Test.YtcnollkkigiobaaGreatNa1
import Derived.Deep.QuietTactic
import Derived.BigQuiet
import Derived.Deep.RegionWith
import Derived.Test.YtcnollkkigiobaaGreatRows
import Derived.ProofKit
import Derived.OpenShut
import Derived.Lib.SmallJoins
import Derived.Deep.SlicePairs
set_option linter.unusedVariables false
set_option maxRecDepth 100000
namespace Go.Proofs.YtcnollkkigiobaaGreat
open Go.RowKit Go.Deep

set_option maxHeartbeats 1000000 in
theorem toTNode_any (x:Tn) (ka da:Option Addr) (kc dc:Nat) (w:World) (hk:RdS w ka x.kn x.ks) (hd:Rd .i64 w da x.dn x.kd) (hf:TnFit x) :
    Calls Tryz.prog 132 #[.agg #[.bool x.lf,.slice ka x.kn kc,.slice da x.dn dc,.int .i64 x.ct]] w fun e w' => ∃ gk gd,e = .returned (.agg #[.bool x.lf,.slice (some ⟨gk,0,none⟩) x.kn x.kn,.slice (some ⟨gd,0,none⟩) x.dn x.dn,.int .i64 x.ct]) /\
      w.heap.size <= gk /\ w.heap.size <= gd /\ rowIn w' gk 9 x.kn (fun i => .string (x.ks i)) /\ rowIn w' gd 2 x.dn (fun i => .int .i64 (x.kd i)) /\ Below w.heap.size w w' := by
  obtain ⟨hf1,hf2⟩ := hf
  have hbel:∀ o1 o2 o3,Below w.heap.size w (((w.alloc o1).alloc o2).alloc o3) := fun o1 o2 o3 => (((below_alloc _ _).alloc (by simp) _).alloc (by simp; omega) _)
  have hsz:∀ o1 o2 o3,(((w.alloc o1).alloc o2).alloc o3).heap.size = w.heap.size + 3 := fun o1 o2 o3 => by simp
  have HH:Hid ((∀ o1 o2 o3,Below w.heap.size w (((w.alloc o1).alloc o2).alloc o3)) /\ (∀ o1 o2 o3,(((w.alloc o1).alloc o2).alloc o3).heap.size = w.heap.size + 3) /\ RdS w ka x.kn x.ks /\ Rd .i64 w da x.dn x.kd) := ⟨hbel,hsz,hk,hd⟩
  clear hbel hsz hk hd
  go_enter Tryz.func132,Tryz.ntmps132
  go_wp2_with fail
  refine (toStringS_any ka x.kn kc x.ks _ ?_ hf1).mono ?_
  · exact HH.out.2.2.1.below (HH.out.1 _ _ _)
  rintro e w1 ⟨rfl,hr1,hb1,hs1⟩
  rw [HH.out.2.1] at hr1 hb1 hs1 ⊢
  have hz:w.heap.size + 2 < w1.heap.size := by omega
  have hc:∀ b o,b < w.heap.size + 3 -> w1.cell? ⟨b,o,none⟩ = _ := fun b o hb => hb1.cell (p := ⟨b,o,none⟩) hb
  have hfz:∀ b o,b < w.heap.size + 3 -> w1.frozen? ⟨b,o,none⟩ = _ := fun b o hb => hb1.frozen (p := ⟨b,o,none⟩) hb
  have HE:Hid (rowIn w1 (w.heap.size + 3) 9 x.kn (fun i => .string (x.ks i)) /\ Below w.heap.size w w1 /\ w1.heap.size = w.heap.size + 4) := ⟨rowIn.ofIs hr1,(HH.out.1 _ _ _).trans (hb1.mono (by omega)),by omega⟩
  clear hr1 hb1 hs1
  go_wp2_with fail
  refine (toInt64S_any da x.dn dc x.kd _ (HH.out.2.2.2.below (HE.out.2.1.setCell (by simp; omega) _)) hf2).mono ?_
  rintro e w2 ⟨rfl,hr2,hb2,hs2⟩
  have hsc:∀ x v,(w1.setCell x v).heap.size = w.heap.size + 4 := fun x v => by rw [<- HE.out.2.2]; simp [World.setCell]
  rw [hsc] at hr2 hb2 hs2 ⊢
  clear hsc
  have hz2:w.heap.size + 3 < w2.heap.size := by omega
  have hc2:∀ b o,b < w.heap.size + 4 -> w2.cell? ⟨b,o,none⟩ = _ := fun b o hb => hb2.cell (p := ⟨b,o,none⟩) hb
  have hf2:∀ b o,b < w.heap.size + 4 -> w2.frozen? ⟨b,o,none⟩ = _ := fun b o hb => hb2.frozen (p := ⟨b,o,none⟩) hb
  have HF:Hid (rowIn w2 (w.heap.size + 3) 9 x.kn (fun i => .string (x.ks i)) /\ rowIn w2 (w.heap.size + 4) 2 x.dn (fun i => .int .i64 (x.kd i)) /\ Below w.heap.size w w2) := by
    refine ⟨(HE.out.1.setOther (by simp) _).of_block (hb2.block _ (by omega)),rowIn.ofIs hr2,(HE.out.2.1.setCell (by simp; omega) _).trans (hb2.mono (by omega))⟩
  clear hr2 hb2 hs2 HE
  go_wp2
  refine bodyPost_ret (v := .agg #[.bool x.lf,.slice (some ⟨w.heap.size + 3,0,none⟩) x.kn x.kn,.slice (some ⟨w.heap.size + 4,0,none⟩) x.dn x.dn,.int .i64 x.ct]) (by simp [results,Tryz.results132,go_sem,hc2,hc]) rfl ⟨_,_,rfl,by omega,by omega,?_,?_,?_⟩
  · exact ((((((HF.out.1.setOther (by simp) _).setOther (by simp) _).setOther (by simp) _).setOther (by simp) _).setOther (by simp) _).setOther (by simp) _)
  · exact ((((((HF.out.2.1.setOther (by simp) _).setOther (by simp) _).setOther (by simp) _).setOther (by simp) _).setOther (by simp) _).setOther (by simp) _)
  · exact ((((((HF.out.2.2.setCell (by simp; try omega) _).setCell (by simp; try omega) _).setCell (by simp; try omega) _).setCell (by simp; try omega) _).setCell (by simp; try omega) _).setCell (by simp; try omega) _)

theorem OwnTn.put {w w2:World} {B g m:Nat} {M:Nat -> Tn} {KA DA:Nat -> Option Addr} {KC DC:Nat -> Nat} (h:OwnTn w B g m M KA DA KC DC) (hB:B <= w.heap.size) (hb:Below w.heap.size w w2) (k:Nat) (x:Tn) (gk gd ck cd:Nat)
    (hgk:w.heap.size <= gk) (hgd:w.heap.size <= gd) (hrk:rowIn w2 gk 9 x.kn (fun i => .string (x.ks i))) (hrd:rowIn w2 gd 2 x.dn (fun i => .int .i64 (x.kd i))) :
    OwnTn ((((w2.setCell ⟨g,k * 4,none⟩ (.bool x.lf)).setCell ⟨g,k * 4 + 1,none⟩ (.slice (some ⟨gk,0,none⟩) x.kn ck)).setCell ⟨g,k * 4 + 2,none⟩ (.slice (some ⟨gd,0,none⟩) x.dn cd)).setCell ⟨g,k * 4 + 3,none⟩ (.int .i64 x.ct)) B g m (fun i => if i = k then x else M i)
      (fun i => if i = k then some ⟨gk,0,none⟩ else KA i) (fun i => if i = k then some ⟨gd,0,none⟩ else DA i) (fun i => if i = k then ck else KC i) (fun i => if i = k then cd else DC i) := by
  have hrow2:rowIn w2 g 168 (m * 4) (tnCell M KA DA KC DC) := h.row.of_block (hb.block g h.row.lt)
  have hnk:gk ≠ g := hrk.ne hrow2 (by decide)
  have hnd:gd ≠ g := hrd.ne hrow2 (by decide)
  refine ⟨h.le,((((hrow2.set (k * 4) _).set (k * 4 + 1) _).set (k * 4 + 2) _).set (k * 4 + 3) _).congr (fun y hy => ?_),fun i hi => ?_,fun i hi => ?_,fun i j hi hj hij hl1 hl2 => ?_,fun i j hi hj hij hl1 hl2 => ?_⟩
  · unfold tnCell
    by_cases e:y / 4 = k
    · have h4:y = k * 4 \/ y = k * 4 + 1 \/ y = k * 4 + 2 \/ y = k * 4 + 3 := by omega
      rcases h4 with rfl | rfl | rfl | rfl
      · have q1:(k * 4) % 4 = 0 := by omega
        have q2:(k * 4) / 4 = k := by omega
        simp [q1,q2]
      · have q1:(k * 4 + 1) % 4 = 1 := by omega
        have q2:(k * 4 + 1) / 4 = k := by omega
        simp [q1,q2]
      · have q1:(k * 4 + 2) % 4 = 2 := by omega
        have q2:(k * 4 + 2) / 4 = k := by omega
        simp [q1,q2]
      · have q1:(k * 4 + 3) % 4 = 3 := by omega
        have q2:(k * 4 + 3) / 4 = k := by omega
        simp [q1,q2]
    · have e0:¬ y = k * 4 := by omega
      have e1:¬ y = k * 4 + 1 := by omega
      have e2:¬ y = k * 4 + 2 := by omega
      have e3:¬ y = k * 4 + 3 := by omega
      simp only [if_neg e,if_neg e0,if_neg e1,if_neg e2,if_neg e3]
  · by_cases e:i = k
    · simp only [if_pos e]
      exact Or.inr ⟨gk,rfl,by omega,(((hrk.setOther (by simpa using hnk) _).setOther (by simpa using hnk) _).setOther (by simpa using hnk) _).setOther (by simpa using hnk) _⟩
    · simp only [if_neg e]
      rcases (h.keys i hi).below hb with h0 | ⟨g',hA,hg',hr'⟩
      · exact Or.inl h0
      · have hne' : g' ≠ g := hr'.ne hrow2 (by decide)
        exact Or.inr ⟨g',hA,hg',(((hr'.setOther (by simpa using hne') _).setOther (by simpa using hne') _).setOther (by simpa using hne') _).setOther (by simpa using hne') _⟩
  · by_cases e:i = k
    · simp only [if_pos e]
      exact Or.inr ⟨gd,rfl,by omega,(((hrd.setOther (by simpa using hnd) _).setOther (by simpa using hnd) _).setOther (by simpa using hnd) _).setOther (by simpa using hnd) _⟩
    · simp only [if_neg e]
      rcases (h.kids i hi).below hb with h0 | ⟨g',hA,hg',hr'⟩
      · exact Or.inl h0
      · have hne' : g' ≠ g := hr'.ne hrow2 (by decide)
        exact Or.inr ⟨g',hA,hg',(((hr'.setOther (by simpa using hne') _).setOther (by simpa using hne') _).setOther (by simpa using hne') _).setOther (by simpa using hne') _⟩
  · have key:∀ j,j < m -> (M j).kn ≠ 0 -> KA j ≠ some ⟨gk,0,none⟩ := by
      intro j hj hl e
      rcases h.keys j hj with h0 | ⟨g',hA,hg',hr'⟩
      · exact hl h0
      · rw [hA] at e
        injection e with e
        injection e with e
        have := hr'.lt
        omega
    by_cases e1:i = k
    · by_cases e2:j = k
      · omega
      · simp only [if_pos e1,if_neg e2] at hl2 ⊢
        exact fun e => key j hj hl2 e.symm
    · by_cases e2:j = k
      · simp only [if_neg e1,if_pos e2] at hl1 ⊢
        exact key i hi hl1
      · simp only [if_neg e1,if_neg e2] at hl1 hl2 ⊢
        exact h.apartK i j hi hj hij hl1 hl2
  · have key:∀ j,j < m -> (M j).dn ≠ 0 -> DA j ≠ some ⟨gd,0,none⟩ := by
      intro j hj hl e
      rcases h.kids j hj with h0 | ⟨g',hA,hg',hr'⟩
      · exact hl h0
      · rw [hA] at e
        injection e with e
        injection e with e
        have := hr'.lt
        omega
    by_cases e1:i = k
    · by_cases e2:j = k
      · omega
      · simp only [if_pos e1,if_neg e2] at hl2 ⊢
        exact fun e => key j hj hl2 e.symm
    · by_cases e2:j = k
      · simp only [if_neg e1,if_pos e2] at hl1 ⊢
        exact key i hi hl1
      · simp only [if_neg e1,if_neg e2] at hl1 hl2 ⊢
        exact h.apartD i j hi hj hij hl1 hl2

def zTn:Tn := ⟨false,0,fun _ => { data := #[] },0,fun _ => 0,0⟩
def cutN (N:Nat -> Tn) (k i:Nat):Tn := if i < k then N i else zTn

theorem cutN_put (N:Nat -> Tn) (k:Nat):(fun i => if i = k then N k else cutN N k i) = cutN N (k + 1) := by
  funext i
  unfold cutN
  by_cases e:i = k
  · subst e; simp
  · by_cases e2:i < k
    · have:i < k + 1 := by omega
      simp [e,e2,this]
    · have:¬ i < k + 1 := by omega
      simp [e,e2,this]

theorem madeTn (w:World) (m:Nat):rowIn (w.alloc (.cells (madeCells #[.bool false,.slice none 0 0,.slice none 0 0,.int .i64 0] (m * 4)) 168)) w.heap.size 168 (m * 4) (tnCell (cutN (fun _ => zTn) 0) (fun _ => none) (fun _ => none) (fun _ => 0) (fun _ => 0)) := by
  refine ⟨_,blk_alloc_new _ _,by rw [size_madeCells]; exact Nat.le_refl _,fun i hi => ?_⟩
  unfold tnCell cutN zTn
  have h4:i % 4 = 0 \/ i % 4 = 1 \/ i % 4 = 2 \/ i % 4 = 3 := by omega
  rcases h4 with e | e | e | e
  all_goals simp [madeCells,hi,e]

open Go.RowKit Go.Deep

set_option maxHeartbeats 1000000 in
theorem eqStringS_yes (a b:Option Addr) (len ca cb:Nat) (f:Nat -> ByteArray) (w:World) (ha:RdS w a len f) (hb:RdS w b len f) (hm:len <= 1048576) :
    Calls Tryz.prog 158 #[.slice a len ca,.slice b len cb] w fun e w' => e = .returned (.bool true) /\ ∃ n,w' = w.drewN n := by
  have hll:((len:Int) != (len:Int)) = false := by simp
  go_enter Tryz.func158,Tryz.ntmps158
  go_wp2
  go_loopw [5] (fun i wr => ∃ k n:Nat,k <= len /\ i = .int .i64 k /\ wr = w.drewN n) (fun i _ => len - (intOf i).toNat)
  case atStart => exact ⟨0,0,Nat.zero_le _,rfl,rfl⟩
  case round =>
    obtain ⟨k,n,hk,rfl,rfl⟩ := hrel
    by_cases hlt:k < len
    · have hne:¬ len = 0 := by omega
      rcases ha with h | ⟨ba,oa,rfl,hca⟩
      · exact absurd h hne
      rcases hb with h | ⟨bb,ob,rfl,hcb⟩
      · exact absurd h hne
      have h1 := hca k hlt
      have h2 := hcb k hlt
      clear hca hcb
      go_wp2
      go_quiet (fail)
      go_wp2
      go_roundw
      case rel => exact ⟨k + 1,_,by omega,by go_num,rfl⟩
      case measure => simp [intOf]; omega
    · have e:k = len := by omega
      subst e
      go_wp2
      go_ret
      exact ⟨rfl,n,rfl⟩

set_option maxHeartbeats 1000000 in
theorem eqInt64S_yes (a b:Option Addr) (len ca cb:Nat) (f:Nat -> Int) (w:World) (ha:Rd .i64 w a len f) (hb:Rd .i64 w b len f) (hm:len <= 1048576) :
    Calls Tryz.prog 159 #[.slice a len ca,.slice b len cb] w fun e w' => e = .returned (.bool true) /\ ∃ n,w' = w.drewN n := by
  have hll:((len:Int) != (len:Int)) = false := by simp
  go_enter Tryz.func159,Tryz.ntmps159
  go_wp2
  go_loopw [5] (fun i wr => ∃ k n:Nat,k <= len /\ i = .int .i64 k /\ wr = w.drewN n) (fun i _ => len - (intOf i).toNat)
  case atStart => exact ⟨0,0,Nat.zero_le _,rfl,rfl⟩
  case round =>
    obtain ⟨k,n,hk,rfl,rfl⟩ := hrel
    by_cases hlt:k < len
    · have hne:¬ len = 0 := by omega
      rcases ha with h | ⟨ba,oa,rfl,hca⟩
      · exact absurd h hne
      rcases hb with h | ⟨bb,ob,rfl,hcb⟩
      · exact absurd h hne
      have h1 := hca k hlt
      have h2 := hcb k hlt
      have hff:(f k != f k) = false := by simp
      clear hca hcb
      go_wp2
      go_quiet (fail)
      go_wp2
      go_roundw
      case rel => exact ⟨k + 1,_,by omega,by go_num,rfl⟩
      case measure => simp [intOf]; omega
    · have e:k = len := by omega
      subst e
      go_wp2
      go_ret
      exact ⟨rfl,n,rfl⟩

set_option maxHeartbeats 2000000 in
theorem eqTNode_yes (x:Tn) (ka da kb db:Option Addr) (kc dc kc' dc' : Nat) (w:World) (h1:RdS w ka x.kn x.ks) (h2:Rd .i64 w da x.dn x.kd) (h3:RdS w kb x.kn x.ks) (h4:Rd .i64 w db x.dn x.kd) (hf:TnFit x) :
    Calls Tryz.prog 135 #[.agg #[.bool x.lf,.slice ka x.kn kc,.slice da x.dn dc,.int .i64 x.ct],.agg #[.bool x.lf,.slice kb x.kn kc',.slice db x.dn dc',.int .i64 x.ct]] w fun e w' => e = .returned (.bool true) /\ Below w.heap.size w w' := by
  have hss:(x.ct != x.ct) = false := by simp
  have hbb:(x.lf != x.lf) = false := by simp
  have HR:Hid (RdS w ka x.kn x.ks /\ Rd .i64 w da x.dn x.kd /\ RdS w kb x.kn x.ks /\ Rd .i64 w db x.dn x.kd) := ⟨h1,h2,h3,h4⟩
  obtain ⟨hf1,hf2⟩ := hf
  clear h1 h2 h3 h4
  go_enter Tryz.func135,Tryz.ntmps135
  go_wp2_with fail
  have hbel:∀ o1 o2,Below w.heap.size w ((w.alloc o1).alloc o2) := fun o1 o2 => ((Below.refl _ _).alloc (Nat.le_refl _) o1).alloc (by simp) o2
  refine (eqStringS_yes ka kb x.kn kc kc' x.ks _ (HR.out.1.below (hbel _ _)) (HR.out.2.2.1.below (hbel _ _)) hf1).mono ?_
  rintro e w1 ⟨rfl,n1,rfl⟩
  go_wp2_with fail
  refine (eqInt64S_yes da db x.dn dc dc' x.kd _ (HR.out.2.1.below (below_drewN (hbel _ _) n1)) (HR.out.2.2.2.below (below_drewN (hbel _ _) n1)) hf2).mono ?_
  rintro e w2 ⟨rfl,n2,rfl⟩
  go_wp2
  go_ret
  exact ⟨rfl,below_drewN (hbel _ _) (n1 + n2)⟩

set_option maxHeartbeats 2000000 in
theorem eqTNodeS_yes (a b:Option Addr) (m ca cb:Nat) (N:Nat -> Tn) (w:World) (ha:RdTn w a m N) (hb:RdTn w b m N) (hm:m <= 1048576) (hN:∀ i,i < m -> TnFit (N i)) :
    Calls Tryz.prog 111 #[.slice a m ca,.slice b m cb] w fun e w' => e = .returned (.bool true) /\ Below w.heap.size w w' := by
  have hll:((m:Int) != (m:Int)) = false := by simp
  go_enter Tryz.func111,Tryz.ntmps111
  go_wp2
  go_loopw [5] (fun i wr => ∃ k:Nat,k <= m /\ i = .int .i64 k /\ Below w.heap.size w wr) (fun i _ => m - (intOf i).toNat)
  case atStart => exact ⟨0,Nat.zero_le _,rfl,Below.refl _ _⟩
  case round =>
    obtain ⟨k,hk,rfl,hbel⟩ := hrel
    by_cases hlt:k < m
    · have hne:¬ m = 0 := by omega
      have ha' := ha.below hbel
      have hb' := hb.below hbel
      rcases ha' with h | ⟨ba,oa,rfl,hca⟩
      · exact absurd h hne
      rcases hb' with h | ⟨bb,ob,rfl,hcb⟩
      · exact absurd h hne
      obtain ⟨ka,kc,da,dc,c0,c1,c2,c3,c4,c5⟩ := hca k hlt
      obtain ⟨kb,kc',db,dc',g0,g1,g2,g3,g4,g5⟩ := hcb k hlt
      have HL := hN k hlt
      clear hca hcb ha hb hN
      have hsz := hbel.size
      have HB:Hid (Below w.heap.size w wr) := hbel
      clear hbel
      go_wp2
      go_region_with (go_at_call 135; refine (eqTNode_yes (N k) ka da kb db kc dc kc' dc' _ (by exact c4) (by exact c5) (by exact g4) (by exact g5) HL).mono ?_; rintro e w2 ⟨rfl,hb2⟩)
      all_goals
        have HX:Hid (Below w.heap.size w w2) := (HB.out.drew).trans (hb2.mono (by simpa using hsz))
        clear hb2 c0 c1 c2 c3 c4 c5 g0 g1 g2 g3 g4 g5
        go_wp2
        go_roundw
        case rel => exact ⟨k + 1,by omega,by go_num,HX.out⟩
        case measure => simp [intOf]; omega
    · have e:k = m := by omega
      subst e
      go_wp2
      go_ret
      exact ⟨rfl,hbel⟩

set_option maxHeartbeats 400000 in
theorem eqTree_yes (a b:Option Addr) (m ca cb:Nat) (N:Nat -> Tn) (w:World) (ha:RdTn w a m N) (hb:RdTn w b m N) (hm:m <= 1048576) (hN:∀ i,i < m -> TnFit (N i)) :
    Calls Tryz.prog 74 #[.agg #[.slice a m ca],.agg #[.slice b m cb]] w fun e w' => e = .returned (.bool true) /\ Below w.heap.size w w' := by
  have HR:Hid (RdTn w a m N /\ RdTn w b m N /\ ∀ i,i < m -> TnFit (N i)) := ⟨ha,hb,hN⟩
  clear ha hb hN
  go_enter Tryz.func74,Tryz.ntmps74
  go_wp2_with fail
  have hbel:∀ o1 o2,Below w.heap.size w ((w.alloc o1).alloc o2) := fun o1 o2 => ((Below.refl _ _).alloc (Nat.le_refl _) o1).alloc (by simp) o2
  refine (eqTNodeS_yes a b m ca cb N _ (HR.out.1.below (hbel _ _)) (HR.out.2.1.below (hbel _ _)) hm HR.out.2.2).mono ?_
  rintro e w1 ⟨rfl,hb1⟩
  have H1:Hid (Below w.heap.size w w1) := (hbel _ _).trans (hb1.mono (by simp; omega))
  clear hb1
  go_wp2
  go_ret
  exact ⟨rfl,H1.out⟩
end Go.Proofs.YtcnollkkigiobaaGreat

namespace Go.Proofs.YtcnollkkigiobaaGreat
open Go.ChangeShapes Go.WideShapes Go.ChangeAt Go.RowKit Go.Deep Go.Joins

section
variable {H:Type} {enc:TypeId × Value -> H} {W:World}

theorem spotT_of {w:World} {a:Addr} {v:Value} (h:w.cell? (a.add 0) = some v):a.spot = none := by
  obtain ⟨b,off,spot⟩ := a
  simpa [Addr.add] using World.cell?_spot h

theorem addT_eq {b off i:Nat}:(Addr.add ⟨b,off,none⟩ i) = ⟨b,off + i,none⟩ := by
  unfold Addr.add
  by_cases h:i = 0
  · subst h; simp
  · simp [h]

set_option maxRecDepth 100000 in
theorem i64s_of {fuel:Nat} {cs:List Value} {x:DataW H × List MemPlace} (h:DataW.trod enc Tryz.prog W 0 (fun _ => true) true fuel 151 cs = some x) :
    ∃ a n c f,cs = [.slice a n c] /\ Rd .i64 W a n f /\ n <= maxLen /\ ∀ i,i < n -> (Lit.int .i64 (f i)).wf = true := by
  rcases open_ints Tryz.underlying151 Tryz.underlying2 (by kernel_rfl) h with ⟨hcs,_⟩ | ⟨y,l,c,zs,hcs,_,hl,hm,hz,_,hcell,hwz⟩
  · exact ⟨none,0,0,fun _ => 0,hcs,Or.inl rfl,Nat.zero_le _,fun i hi => absurd hi (Nat.not_lt_zero _)⟩
  · refine ⟨_,l,c,fun i => zs.getD i 0,hcs,?_,by omega,fun i hi => ?_⟩
    · by_cases h0:l = 0
      · exact Or.inl h0
      · simp at hz
        obtain ⟨b,off,spot⟩ := y
        have hs := spotT_of (hcell 0 (by omega))
        simp at hs
        subst hs
        exact Or.inr ⟨b,off,rfl,fun i hi => by rw [<- addT_eq]; exact hcell i (by omega)⟩
    · simp at hz
      have hiz:i < zs.length := by omega
      exact hwz (zs.getD i 0) (by rw [List.getD_eq_getElem?_getD,List.getElem?_eq_getElem hiz]; exact List.getElem_mem hiz)

set_option maxRecDepth 100000 in
theorem strs_of {fuel:Nat} {cs:List Value} {x:DataW H × List MemPlace} (h:DataW.trod enc Tryz.prog W 0 (fun _ => true) true fuel 88 cs = some x) :
    ∃ a n c X,cs = [.slice a n c] /\ RdS W a n X /\ (∀ i,i < n -> (X i).size <= maxLen) /\ n <= maxLen := by
  rcases open_slice (P := Tryz.prog) (t := 88) (e := 9) (by kernel_rfl) h with ⟨hcs,_⟩ | ⟨a,len,cap,m,fu,D,Pl,hcs,_,hl,hm,hmm,_,hx⟩
  · exact ⟨none,0,0,fun _ => { data := #[] },hcs,Or.inl rfl,fun i hi => absurd hi (Nat.not_lt_zero _),Nat.zero_le _⟩
  · have hlm:len <= m := by rw [hmm]; split <;> omega
    have each:∀ i,i < len -> ∃ q:ByteArray,W.cell? (a.add i) = some (.string q) /\ q.size <= maxLen := by
      intro i hi
      obtain ⟨cs',h1,h2⟩ := hx i (by omega)
      rw [show Tryz.prog.cellsOf 9 = 1 by kernel_rfl] at h1
      obtain ⟨_,hlen,hcell⟩ := World.cells?_some h1
      match cs',hlen with
      | [v0],_ =>
        obtain ⟨x0,e1,_,hs⟩ := DataW.trod_string Tryz.underlying9 h2
        simp at e1
        subst e1
        have c0 := hcell 0 (by omega)
        rw [Addr.add_add] at c0
        exact ⟨x0,by simpa using c0,hs⟩
    obtain ⟨q,hq⟩ := choose_lt each
    refine ⟨some a,len,cap,q,hcs,?_,fun i hi => (hq i hi).2,by omega⟩
    by_cases h0:len = 0
    · exact Or.inl h0
    · obtain ⟨b,off,spot⟩ := a
      have hs := spotT_of (a := ⟨b,off,spot⟩) (by simpa using (hq 0 (by omega)).1)
      simp at hs
      subst hs
      refine Or.inr ⟨b,off,rfl,fun i hi => ?_⟩
      have k0 := (hq i hi).1
      rw [addT_eq] at k0
      exact k0

set_option maxRecDepth 100000 in
theorem tnodes_of {fuel:Nat} {cs:List Value} {x:DataW H × List MemPlace} (h:DataW.trod enc Tryz.prog W 0 (fun _ => true) true fuel 104 cs = some x) :
    ∃ a n c N,cs = [.slice a n c] /\ RdTn W a n N /\ (∀ i,i < n -> TnBig (N i)) /\ n <= maxLen := by
  rcases open_slice (P := Tryz.prog) (t := 104) (e := 199) (by kernel_rfl) h with ⟨hcs,_⟩ | ⟨a,len,cap,m,fu,D,Pl,hcs,_,hl,hm,hmm,_,hx⟩
  · exact ⟨none,0,0,fun _ => ⟨false,0,fun _ => { data := #[] },0,fun _ => 0,0⟩,hcs,Or.inl rfl,fun i hi => absurd hi (Nat.not_lt_zero _),Nat.zero_le _⟩
  · have hlm:len <= m := by rw [hmm]; split <;> omega
    have each:∀ i,i < len -> ∃ q:Tn × Option Addr × Nat × Option Addr × Nat,W.cell? (a.add (i * 4)) = some (.bool q.1.lf) /\ W.cell? (a.add (i * 4 + 1)) = some (.slice q.2.1 q.1.kn q.2.2.1) /\ W.cell? (a.add (i * 4 + 2)) = some (.slice q.2.2.2.1 q.1.dn q.2.2.2.2) /\ W.cell? (a.add (i * 4 + 3)) = some (.int .i64 q.1.ct) /\
        RdS W q.2.1 q.1.kn q.1.ks /\ Rd .i64 W q.2.2.2.1 q.1.dn q.1.kd /\ TnBig q.1 := by
      intro i hi
      obtain ⟨cs',h1,h2⟩ := hx i (by omega)
      rw [show Tryz.prog.cellsOf 199 = 4 by kernel_rfl] at h1
      obtain ⟨_,hlen,hcell⟩ := World.cells?_some h1
      obtain ⟨xs,k,hk,hxy,_,hxl,hf⟩ := DataW.trod_struct (P := Tryz.prog) Tryz.underlying199 h2
      have g0 := hf 0 _ rfl
      have g1 := hf 1 _ rfl
      have g2 := hf 2 _ rfl
      have g3 := hf 3 _ rfl
      rw [show Tryz.prog.cellsOf _ = 1 by kernel_rfl] at g0 g1 g2 g3
      match xs,hxl,cs',hlen with
      | [y0,y1,y2,y3],_,[v0,v1,v2,v3],_ =>
        simp at g0 g1 g2 g3
        obtain ⟨b0,e0,_⟩ := DataW.trod_bool Tryz.underlying4 g0
        obtain ⟨ka,kn,kc,X,e1,hX,hXs,hkn⟩ := strs_of g1
        obtain ⟨da,dn,dc,f,e2,hf2,hdn,hwf⟩ := i64s_of g2
        obtain ⟨i3,e3,_,_⟩ := DataW.trod_int Tryz.underlying2 g3
        simp at e0 e1 e2 e3
        subst e0 e1 e2 e3
        have c0 := hcell 0 (by omega)
        have c1 := hcell 1 (by omega)
        have c2 := hcell 2 (by omega)
        have c3 := hcell 3 (by omega)
        rw [Addr.add_add] at c0 c1 c2 c3
        exact ⟨(⟨b0,kn,X,dn,f,i3⟩,ka,kc,da,dc),by simpa using c0,by simpa using c1,by simpa using c2,by simpa using c3,hX,hf2,hkn,hdn,hXs⟩
    haveI:Inhabited Tn := ⟨⟨false,0,fun _ => { data := #[] },0,fun _ => 0,0⟩⟩
    obtain ⟨q,hq⟩ := choose_lt each
    refine ⟨some a,len,cap,fun i => (q i).1,hcs,?_,fun i hi => (hq i hi).2.2.2.2.2.2,by omega⟩
    by_cases h0:len = 0
    · exact Or.inl h0
    · obtain ⟨b,off,spot⟩ := a
      have hs := spotT_of (a := ⟨b,off,spot⟩) (by simpa using (hq 0 (by omega)).1)
      simp at hs
      subst hs
      refine Or.inr ⟨b,off,rfl,fun i hi => ?_⟩
      obtain ⟨k0,k1,k2,k3,k4,k5,_⟩ := hq i hi
      rw [addT_eq] at k0 k1 k2 k3
      exact ⟨_,_,_,_,k0,k1,k2,k3,k4,k5⟩

def IsTree (w:World) (v:Value):Prop :=
  ∃ a n c N,v = .agg #[.slice a n c] /\ RdTn w a n N /\ (∀ i,i < n -> TnBig (N i)) /\ n <= maxLen

end
open Go.RowKit Go.Deep

def AnsN (w:World) (P:Prop) (e:Ending) (w' : World):Prop := ∃ b,e = .returned (.bool b) /\ (b = true ↔ P) /\ Below w.heap.size w w'

open Go.RowKit Go.Deep

theorem less_irrefl:∀ l:List UInt8,Op.bytesLess l l = false
  | [] => rfl
  | a :: x => by simp [Op.bytesLess,less_irrefl x]

theorem less_trans:∀ a b c:List UInt8,Op.bytesLess a b = true -> Op.bytesLess b c = true -> Op.bytesLess a c = true
  | _,[],_,h,_ => by simp [Op.bytesLess] at h
  | _,_ :: _,[],_,h => by simp [Op.bytesLess] at h
  | [],_ :: _,_ :: _,_,_ => rfl
  | a :: x,b :: y,c :: z,h1,h2 => by
    simp only [Op.bytesLess,Bool.or_eq_true,Bool.and_eq_true,decide_eq_true_eq,beq_iff_eq] at h1 h2 ⊢
    rcases h1 with h1 | ⟨rfl,h1⟩
    · rcases h2 with h2 | ⟨rfl,h2⟩
      · exact .inl (UInt8.lt_trans h1 h2)
      · exact .inl h1
    · rcases h2 with h2 | ⟨rfl,h2⟩
      · exact .inl h2
      · exact .inr ⟨rfl,less_trans x y z h1 h2⟩

theorem less_total:∀ a b:List UInt8,(Op.bytesLess b a || b == a) = !Op.bytesLess a b
  | [],[] => rfl
  | [],_ :: _ => rfl
  | _ :: _,[] => rfl
  | a :: x,b :: y => by
    have ih := less_total x y
    simp only [Op.bytesLess]
    by_cases h:a = b
    · subst h
      have e1:((a :: y) == (a :: x)) = (y == x) := by simp
      rw [e1]
      simp
      simpa using ih
    · have h' : ¬ b = a := fun e => h e.symm
      have e0:(a == b) = false := by simp [h]
      have e1:(b == a) = false := by simp [h']
      have e2:((b :: y) == (a :: x)) = false := by simp [h']
      rw [e0,e1,e2]
      simp
      by_cases hl:a < b
      · simp [hl]
        exact UInt8.le_of_lt hl
      · simp [hl]
        have := UInt8.not_lt.1 hl
        exact UInt8.lt_of_le_of_ne this h'

theorem asc_less {X:Nat -> ByteArray} {k:Nat} (h:∀ m,m < k -> 0 < m -> Op.bytesLess (X (m - 1)).toList (X m).toList = true) (p:Nat) (hp:p < k):∀ j,j < p -> Op.bytesLess (X j).toList (X p).toList = true := by
  induction p with
  | zero => intro j hj; omega
  | succ p ih =>
    intro j hj
    have h1 := h (p + 1) hp (by omega)
    rw [show p + 1 - 1 = p from rfl] at h1
    by_cases e:j = p
    · subst e; exact h1
    · exact less_trans _ _ _ (ih (by omega) j (by omega)) h1

theorem str_inj {x y:ByteArray} (h:x.toList = y.toList):x = y := by
  rw [ByteArray.toList_eq,ByteArray.toList_eq] at h
  cases x
  cases y
  simp only at h
  rw [Array.toList_inj.1 h]
end Go.Proofs.YtcnollkkigiobaaGreat
