import Derived.Test.YtcnollkkigiobaaGreatNa4
import Derived.Deep.RegionWith
set_option linter.unusedVariables false
set_option maxRecDepth 100000
namespace Go.Proofs.YtcnollkkigiobaaGreat
open Go.RowKit Go.Deep

theorem TAt.count {S:Nat -> Prop} {w:World}:∀ {d:Nat} {t:Ro d} {v:Value},TAt S w d t v -> ∃ b,S b /\ b < w.heap.size /\ w.cell? ⟨b,0,none⟩ = some (.int .i64 ((keysR d t).length:Int)) /\ (v = .iface 204 (.pointer (some ⟨b,0,none⟩)) \/ v = .iface 174 (.pointer (some ⟨b,0,none⟩)))
  | 0,_,_,h => h.elim
  | d + 1,.inl t,v,h => by
    obtain ⟨b,ka,kc,rfl,hb,hx,hr⟩ := h
    exact ⟨b,hb,hx.lt,by rw [hx.cell 0]; rfl,Or.inl rfl⟩
  | d + 1,.inr l,v,h => by
    obtain ⟨b,g,kc,xs,rfl,hb,hx,_⟩ := h
    exact ⟨b,hb,hx.lt,by rw [hx.cell 0]; rfl,Or.inr rfl⟩

theorem flat_len_take {d:Nat} (l:List (Ro d)) (k:Nat) (h:k < l.length):((l.take (k + 1)).flatMap (keysR d)).length = ((l.take k).flatMap (keysR d)).length + (keysR d l[k]).length := by
  rw [flat_take (keysR d) l k h,List.length_append]

set_option maxHeartbeats 4000000 in
theorem recountInner_any (d b g ln kc:Nat) (l:List (Ro d)) (x:Int) (S:Nat -> Prop) (xs:List Value) (w:World) (h:Bx w b 179 #[.int .i64 x,.slice (some ⟨g,0,none⟩) ln kc]) (hln:ln = l.length) (hl5:ln <= 5000) (hlen:(l.flatMap (keysR d)).length <= 1099511627776)
    (hc:∀ j u,xs[j]? = some u -> w.cell? ⟨g,j,none⟩ = some u) (hg:g ≠ b) (hS:¬ S b) (hk:∀ k (h:k < l.length),∃ u,xs[k]? = some u /\ TAt S w d l[k] u) :
    Calls Tryz.prog 118 #[.pointer (some ⟨b,0,none⟩)] w fun e w' => e = .returned (.tuple #[]) /\ w.grownBy w' (some b) /\ w'.heap.size = w.heap.size /\ Bx w' b 179 #[.int .i64 ((l.flatMap (keysR d)).length:Int),.slice (some ⟨g,0,none⟩) ln kc] := by
  have HK:Hid (∀ W:World,w.grownBy W (some b) -> ∀ k (h:k < l.length),∃ u bb,W.cell? ⟨g,k,none⟩ = some u /\ bb ≠ b /\ W.cell? ⟨bb,0,none⟩ = some (.int .i64 ((keysR d l[k]).length:Int)) /\ (u = .iface 204 (.pointer (some ⟨bb,0,none⟩)) \/ u = .iface 174 (.pointer (some ⟨bb,0,none⟩)))) := by
    intro W hW k hkl
    obtain ⟨u,hu,ht⟩ := hk k hkl
    obtain ⟨bb,hb1,hb2,hb3,hb4⟩ := ht.count
    have hne:bb ≠ b := fun e => hS (e ▸ hb1)
    exact ⟨u,bb,hW.cell (hc k u hu) (fun e => by injection e with e; exact hg e),hne,hW.cell hb3 (fun e => by injection e with e; exact hne e),hb4⟩
  have HLn:Hid (ln = l.length /\ (l.flatMap (keysR d)).length <= 1099511627776) := ⟨hln,hlen⟩
  have c1 := h.cell 1
  have c0 := h.cell 0
  have f0 := h.frozen 0
  have hlt := h.lt
  simp at c0 c1
  have H0:Hid (w.grownBy (w.setCell ⟨b,0,none⟩ (.int .i64 0)) (some b) /\ Bx (w.setCell ⟨b,0,none⟩ (.int .i64 0)) b 179 #[.int .i64 0,.slice (some ⟨g,0,none⟩) ln kc]) := by
    refine ⟨⟨rfl,rfl,rfl,by simp [World.setCell],fun k hk hne => Below.heap_setCell _ _ _ _ (fun e => hne (by rw [e]))⟩,h.set 0 _⟩
  clear h hc hk hln hlen
  go_enter Tryz.func118,Tryz.ntmps118
  go_wp2
  go_loopw [13] (fun i wr => ∃ k:Nat,k <= ln /\ i = .int .i64 k /\ w.grownBy wr (some b) /\ wr.heap.size = w.heap.size /\ Bx wr b 179 #[.int .i64 (((l.take k).flatMap (keysR d)).length:Int),.slice (some ⟨g,0,none⟩) ln kc]) (fun i _ => ln - (intOf i).toNat)
  case atStart => exact ⟨0,Nat.zero_le _,rfl,H0.out.1,by simp [World.setCell],by simpa using H0.out.2⟩
  case round =>
    obtain ⟨k,hkl,rfl,hgr,hsz,hbx⟩ := hrel
    clear H0 c0 c1 f0
    have HG:Hid (w.grownBy wr (some b) /\ wr.heap.size = w.heap.size /\ Bx wr b 179 #[.int .i64 (((l.take k).flatMap (keysR d)).length:Int),.slice (some ⟨g,0,none⟩) ln kc]) := ⟨hgr,hsz,hbx⟩
    obtain ⟨A,hA⟩:∃ A:Int,A = (((l.take k).flatMap (keysR d)).length:Int) := ⟨_,rfl⟩
    rw [<- hA] at hbx
    have c0 := hbx.cell 0
    have f0 := hbx.frozen 0
    have hlt2 := hbx.lt
    simp at c0
    clear hgr hsz hbx
    by_cases hlt:k < ln
    · have hlk:k < l.length := by rw [<- HLn.out.1]; exact hlt
      obtain ⟨u,bb,hu,hne,hcc,hform⟩ := HK.out wr HG.out.1 k hlk
      have e12 := flat_len_take l k hlk
      have hle := flat_take_le (keysR d) l (k + 1)
      have hL := HLn.out.2
      obtain ⟨C,hC⟩:∃ C:Int,C = ((keysR d l[k]).length:Int) := ⟨_,rfl⟩
      have hA0:0 <= A /\ A <= 1099511627776 := by omega
      have hC0:0 <= C /\ C <= 1099511627776 := by omega
      rw [<- hC] at hcc
      have HS:Hid ((((l.take (k + 1)).flatMap (keysR d)).length:Int) = A + C) := by
        show (((l.take (k + 1)).flatMap (keysR d)).length:Int) = A + C
        rw [e12,hA,hC]
        omega
      have HX:Hid (w.grownBy (wr.drew.setCell ⟨b,0,none⟩ (.int .i64 (A + C))) (some b) /\ (wr.drew.setCell ⟨b,0,none⟩ (.int .i64 (A + C))).heap.size = w.heap.size /\ Bx (wr.drew.setCell ⟨b,0,none⟩ (.int .i64 (A + C))) b 179 #[.int .i64 (((l.take (k + 1)).flatMap (keysR d)).length:Int),.slice (some ⟨g,0,none⟩) ln kc]) := by
        obtain ⟨q1,q2,q3⟩ := HG.out
        have hs:(wr.drew.setCell ⟨b,0,none⟩ (.int .i64 (A + C))).heap.size = wr.heap.size := Eq.trans (show (wr.drew.setCell ⟨b,0,none⟩ (.int .i64 (A + C))).heap.size = wr.drew.heap.size by simp [World.setCell]) rfl
        refine ⟨⟨q1.os,q1.tape,q1.output,by rw [hs]; exact q1.size,fun k hk hne => ?_⟩,by rw [hs]; exact q2,?_⟩
        · rw [Below.heap_setCell _ _ _ _ (fun e => hne (by rw [e]))]
          exact q1.block k hk hne
        · rw [HS.out]
          exact q3.drew.set 0 _
      clear hA hC e12 hle hL
      rcases hform with rfl | rfl
      · have HB:Hid (∀ W:World,W.cell? ⟨bb,0,none⟩ = some (.int .i64 C) -> Calls Tryz.prog 157 #[.pointer (some ⟨bb,0,none⟩)] W fun e w' => e = .returned (.int .i64 C) /\ w' = W) := fun W hW => below_any bb C W hW
        go_wp2
        go_region_with (go_at_call 157; refine (HB.out _ (by simpa using hcc)).mono ?_; rintro e w2 ⟨rfl,rfl⟩)
        all_goals
          go_wp2
          go_roundw
          case rel => exact ⟨k + 1,by omega,by go_num,HX.out⟩
          case measure => simp [intOf]; omega
      · have HB:Hid (∀ W:World,W.cell? ⟨bb,0,none⟩ = some (.int .i64 C) -> Calls Tryz.prog 157 #[.pointer (some ⟨bb,0,none⟩)] W fun e w' => e = .returned (.int .i64 C) /\ w' = W) := fun W hW => below_any bb C W hW
        go_wp2
        go_region_with (go_at_call 157; refine (HB.out _ (by simpa using hcc)).mono ?_; rintro e w2 ⟨rfl,rfl⟩)
        all_goals
          go_wp2
          go_roundw
          case rel => exact ⟨k + 1,by omega,by go_num,HX.out⟩
          case measure => simp [intOf]; omega
    · have e:k = ln := by omega
      subst e
      have HE:Hid ((l.take k).flatMap (keysR d) = l.flatMap (keysR d)) := by
        show (l.take k).flatMap (keysR d) = l.flatMap (keysR d)
        rw [HLn.out.1,List.take_length]
      go_wp2
      go_end0
      refine ⟨rfl,HG.out.1,HG.out.2.1,?_⟩
      have q := HG.out.2.2
      rw [HE.out] at q
      exact q
end Go.Proofs.YtcnollkkigiobaaGreat
