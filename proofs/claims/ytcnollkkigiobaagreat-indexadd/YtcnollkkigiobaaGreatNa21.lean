import Derived.Test.YtcnollkkigiobaaGreatNa7
import Derived.Test.YtcnollkkigiobaaGreatNa13
set_option linter.unusedVariables false
set_option maxRecDepth 100000


namespace Go.Proofs.YtcnollkkigiobaaGreat
open Go.RowKit Go.Deep

theorem mem_gt {L:List ByteArray} {k:ByteArray} (h:k ∈ L):∃ i,i < L.length /\ gt L i = k := by
  obtain ⟨i,hi,e⟩ := List.getElem_of_mem h
  refine ⟨i,hi,?_⟩
  unfold gt
  rw [List.getD_eq_getElem?_getD,List.getElem?_eq_getElem hi]
  exact e

set_option maxHeartbeats 2000000 in
theorem holds_any (a:Option Addr) (n c:Nat) (L:List ByteArray) (key:ByteArray) (w:World) (h:RdS w a n (gt L)) (hn:n = L.length) (hn2:n <= 1048576) :
    Calls Tryz.prog 78 #[.slice a n c,.string key] w fun e w' => ∃ b:Bool,e = .returned (.bool b) /\ (b = true ↔ key ∈ L) /\ Below w.heap.size w w' := by
  have HR:Hid (RdS w a n (gt L) /\ n = L.length) := ⟨h,hn⟩
  clear h hn
  go_enter Tryz.func78,Tryz.ntmps78
  go_wp2
  go_loopw [5] (fun i wr => ∃ k:Nat,k <= n /\ i = .int .i64 k /\ (∀ j,j < k -> gt L j ≠ key) /\ Below w.heap.size w wr) (fun i _ => n - (intOf i).toNat)
  case atStart => exact ⟨0,Nat.zero_le _,rfl,fun j hj => absurd hj (Nat.not_lt_zero _),Below.refl _ _⟩
  case round =>
    obtain ⟨k,hk,rfl,hall,hbel⟩ := hrel
    have HS:Hid ((∀ j,j < k -> gt L j ≠ key) /\ Below w.heap.size w wr) := ⟨hall,hbel⟩
    by_cases hlt:k < n
    · rcases HR.out.1.below hbel with q | ⟨b,o,rfl,hc⟩
      · omega
      have s1 := hc k hlt
      have i0:(0:Int) <= (k:Int) := by omega
      have i1:(k:Int) < (n:Int) := by omega
      clear hc hall hbel
      by_cases he:gt L k = key
      · have HY:Hid (key ∈ L) := by
          show key ∈ L
          rw [<- he]
          exact gt_mem (by rw [<- HR.out.2]; exact hlt)
        rw [he] at s1
        have hq:(key.toList == key.toList) = true := by simp
        go_wp2
        go_ret
        exact ⟨true,rfl,by simp [HY.out],HS.out.2⟩
      · have hq:((gt L k).toList == key.toList) = false := by
          rw [beq_eq_false_iff_ne]
          intro e
          exact he (str_inj e)
        have HN:Hid (∀ j,j < k + 1 -> gt L j ≠ key) := fun j hj => by
          by_cases e:j = k
          · subst e; exact he
          · exact HS.out.1 j (by omega)
        clear he
        go_wp2
        go_roundw
        case rel => exact ⟨k + 1,by omega,by go_num,HN.out,HS.out.2⟩
        case measure => simp [intOf]; omega
    · have e:k = n := by omega
      subst e
      have HN:Hid (¬ key ∈ L) := fun hm => by
        obtain ⟨i,hi,e⟩ := mem_gt hm
        exact HS.out.1 i (by rw [HR.out.2]; exact hi) e
      clear hall hbel
      go_wp2
      go_ret
      exact ⟨false,rfl,by simp [HN.out],HS.out.2⟩
end Go.Proofs.YtcnollkkigiobaaGreat
