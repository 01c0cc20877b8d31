import Derived.Test.YtcnollkkigiobaaGreatNa27
import Derived.Test.YtcnollkkigiobaaGreatNa53
import Derived.Test.YtcnollkkigiobaaGreatNa43
import Derived.Test.YtcnollkkigiobaaGreatNa28
import Derived.Test.YtcnollkkigiobaaGreatNa32
import Derived.Deep.RegionHeld3
set_option linter.unusedVariables false
set_option maxRecDepth 100000
namespace Go.Proofs.YtcnollkkigiobaaGreat
open Go.RowKit Go.Deep

theorem OwnTn.low {w:World} {B B' g n:Nat} {N:Nat -> Tn} {KA DA:Nat -> Option Addr} {KC DC:Nat -> Nat} (q:OwnTn w B g n N KA DA KC DC) (h:B' <= B):OwnTn w B' g n N KA DA KC DC := by
  have hle := q.le
  exact ⟨by omega,q.row,fun j hj => (q.keys j hj).mono h,fun j hj => (q.kids j hj).mono h,q.apartK,q.apartD⟩
theorem OwnTn.wit {w w' : World} {B T g n:Nat} {N:Nat -> Tn} {KA DA:Nat -> Option Addr} {KC DC:Nat -> Nat} (q:OwnTn w B g n N KA DA KC DC) (hT:TnB T g n N KA DA B) (hk:∀ b,B <= b -> b < T -> b < w.heap.size -> w'.heap[b]? = w.heap[b]?):OwnTn w' B g n N KA DA KC DC := by
  refine ⟨q.le,q.row.of_block (hk g hT.1 hT.2.1 q.row.lt),fun i hi => ?_,fun i hi => ?_,q.apartK,q.apartD⟩
  · by_cases h0:(N i).kn = 0
    · exact .inl h0
    · obtain ⟨gi,hA,hgi,hri⟩ := (q.keys i hi).resolve_left h0
      have := hT.2.2.1 i hi h0 gi (by rw [hA]; rfl)
      exact .inr ⟨gi,hA,hgi,hri.of_block (hk gi this.1 this.2 hri.lt)⟩
  · by_cases h0:(N i).dn = 0
    · exact .inl h0
    · obtain ⟨gi,hA,hgi,hri⟩ := (q.kids i hi).resolve_left h0
      have := hT.2.2.2 i hi h0 gi (by rw [hA]; rfl)
      exact .inr ⟨gi,hA,hgi,hri.of_block (hk gi this.1 this.2 hri.lt)⟩
def OwnIr (w:World) (B g n j k:Nat) (M:Nat -> Nat) (T:Nat -> Nat -> Tn) (R:Nat -> Nat):Prop :=
  g < B /\ B <= R 0 /\ R k <= w.heap.size /\ (∀ i i',i <= i' -> i' <= k -> R i <= R i') /\ ∃ cur:Array Value,Bx w g 59 cur /\ cur.size = n /\ ∀ i,j <= i -> i < k -> ∃ gi KA DA KC DC,cur[i]? = some (.slice (some ⟨gi,0,none⟩) (M i) (M i)) /\ OwnTn w (R i) gi (M i) (T i) KA DA KC DC /\ TnB (R (i + 1)) gi (M i) (T i) KA DA (R i)
theorem OwnIr.rd {w:World} {B g n:Nat} {M:Nat -> Nat} {T:Nat -> Nat -> Tn} {R:Nat -> Nat} (h:OwnIr w B g n 0 n M T R):RdIx w (some ⟨g,0,none⟩) n M T := by
  obtain ⟨_,_,_,_,cur,h1,h2,h3⟩ := h
  refine .inr ⟨g,0,rfl,fun i hi => ?_⟩
  obtain ⟨gi,KA,DA,KC,DC,q1,q2,_⟩ := h3 i (Nat.zero_le _) hi
  exact ⟨some ⟨gi,0,none⟩,M i,by rw [Nat.zero_add,h1.cell i]; exact q1,q2.rd⟩
theorem OwnIr.put {w w1:World} {B g n k:Nat} {M:Nat -> Nat} {T:Nat -> Nat -> Tn} {R:Nat -> Nat} (h:OwnIr w B g n 0 k M T R) (hk:k < n) (hb:Below w.heap.size w w1) {gk:Nat} {KA DA:Nat -> Option Addr} {KC DC:Nat -> Nat} (ho:OwnTn w1 w.heap.size gk (M k) (T k) KA DA KC DC):∃ R',OwnIr (w1.setCell ⟨g,k,none⟩ (.slice (some ⟨gk,0,none⟩) (M k) (M k))) B g n 0 (k + 1) M T R' := by
  obtain ⟨hg,hB,hR,hm,cur,h1,h2,h3⟩ := h
  have h1' : Bx w1 g 59 cur := h1.below hb
  have hs := h1'.set k (.slice (some ⟨gk,0,none⟩) (M k) (M k))
  have hz := hb.size
  have hR0 := hm 0 k (Nat.zero_le _) (Nat.le_refl _)
  have hbd:∀ i',i' <= k -> R i' <= w1.heap.size := fun i' hi => by
    have := hm i' k hi (Nat.le_refl _)
    omega
  obtain ⟨R',hR'⟩:∃ R' : Nat -> Nat,∀ i,R' i = if i <= k then R i else w1.heap.size := ⟨_,fun _ => rfl⟩
  refine ⟨R',hg,by rw [hR',if_pos (Nat.zero_le _)]; exact hB,by rw [hR',if_neg (by omega),World.size_setCell]; exact Nat.le_refl _,fun i i' hi hi' => ?_,_,hs,by simpa using h2,fun i _ hi => ?_⟩
  · rw [hR',hR']
    by_cases e:i' <= k
    · rw [if_pos (by omega),if_pos e]
      exact hm i i' hi e
    · rw [if_neg e]
      by_cases e2:i <= k
      · rw [if_pos e2]; exact hbd i e2
      · rw [if_neg e2]; exact Nat.le_refl _
  · by_cases e:i = k
    · subst e
      have q := (ho.setO (p := ⟨g,i,none⟩) (by show g < w.heap.size; omega) (.slice (some ⟨gk,0,none⟩) (M i) (M i))).low hR
      have qb := q.bound
      rw [World.size_setCell] at qb
      refine ⟨gk,KA,DA,KC,DC,by simp [h2,hk],?_,?_⟩
      · rw [hR',if_pos (Nat.le_refl _)]; exact q
      · rw [hR',hR',if_neg (by omega),if_pos (Nat.le_refl _)]; exact qb
    · obtain ⟨gi,KA',DA',KC',DC',q1,q2,q3⟩ := h3 i (Nat.zero_le _) (by omega)
      have h0i := hm 0 i (Nat.zero_le _) (by omega)
      refine ⟨gi,KA',DA',KC',DC',?_,?_,?_⟩
      · rw [Array.getElem?_setIfInBounds_ne (by omega)]
        exact q1
      · rw [hR',if_pos (by omega)]
        exact (q2.und hb).setO (p := ⟨g,k,none⟩) (by show g < R i; omega) _
      · rw [hR',hR',if_pos (by omega),if_pos (by omega)]
        exact q3
theorem OwnIr.setO {w:World} {B g n:Nat} {M:Nat -> Nat} {T:Nat -> Nat -> Tn} {R:Nat -> Nat} (h:OwnIr w B g n 0 n M T R) {p:Addr} (hp:p.block < g) (v:Value):OwnIr (w.setCell p v) B g n 0 n M T R := by
  obtain ⟨hg,hB,hR,hm,cur,h1,h2,h3⟩ := h
  refine ⟨hg,hB,by rw [World.size_setCell]; exact hR,hm,cur,(Below.heap_setCell _ _ _ _ (show g ≠ p.block by omega)).trans h1,h2,fun i h0 hi => ?_⟩
  obtain ⟨gi,KA',DA',KC',DC',q1,q2,q3⟩ := h3 i h0 hi
  have h0i := hm 0 i (Nat.zero_le _) (by omega)
  exact ⟨gi,KA',DA',KC',DC',q1,q2.setO (by omega) _,q3⟩
theorem OwnIr.below {w w' : World} {B g n:Nat} {M:Nat -> Nat} {T:Nat -> Nat -> Tn} {R:Nat -> Nat} (h:OwnIr w B g n 0 n M T R) (hb:Below w.heap.size w w'):OwnIr w' B g n 0 n M T R := by
  obtain ⟨hg,hB,hR,hm,cur,h1,h2,h3⟩ := h
  refine ⟨hg,hB,Nat.le_trans hR hb.size,hm,cur,h1.below hb,h2,fun i h0 hi => ?_⟩
  obtain ⟨gi,KA',DA',KC',DC',q1,q2,q3⟩ := h3 i h0 hi
  exact ⟨gi,KA',DA',KC',DC',q1,q2.und hb,q3⟩
theorem OwnIr.next {w w' : World} {B g n j:Nat} {M:Nat -> Nat} {T:Nat -> Nat -> Tn} {R:Nat -> Nat} (h:OwnIr w B g n j n M T R) (hj:j < n) (hw:WiT (R j) (R (j + 1)) w w'):OwnIr w' B g n (j + 1) n M T R := by
  obtain ⟨hg,hB,hR,hm,cur,h1,h2,h3⟩ := h
  have h0j := hm 0 j (Nat.zero_le _) (by omega)
  refine ⟨hg,hB,Nat.le_trans hR hw.2.2.2.1,hm,cur,(hw.2.2.2.2 g h1.lt (.inl (by omega))).trans h1,h2,fun i h0 hi => ?_⟩
  obtain ⟨gi,KA',DA',KC',DC',q1,q2,q3⟩ := h3 i (by omega) hi
  have hji := hm (j + 1) i h0 (by omega)
  exact ⟨gi,KA',DA',KC',DC',q1,q2.wit q3 (fun b b1 b2 b3 => hw.2.2.2.2 b b3 (.inr (by omega))),q3⟩

theorem sumI_le (M:Nat -> Nat) (T:Nat -> Nat -> Tn):∀ (m j:Nat),j <= m -> sumI M T j <= sumI M T m
  | 0,j,h => by
    have:j = 0 := by omega
    subst this
    exact Nat.le_refl _
  | m + 1,j,h => by
    by_cases e:j = m + 1
    · subst e; exact Nat.le_refl _
    · have := sumI_le M T m j (by omega)
      have e2:sumI M T (m + 1) = sumI M T m + M m + sumT (T m) (M m) := rfl
      omega
theorem WiT.wide {B T B' T' : Nat} {w w' : World} (h:WiT B T w w') (h1:B' <= B) (h2:T <= T'):WiT B' T' w w' := ⟨h.1,h.2.1,h.2.2.1,h.2.2.2.1,fun k hk ho => h.2.2.2.2 k hk (by omega)⟩

set_option maxHeartbeats 2000000 in
theorem markTreeS_any (B g n c:Nat) (M:Nat -> Nat) (T:Nat -> Nat -> Tn) (R:Nat -> Nat) (w:World) (h:OwnIr w B g n 0 n M T R) (hs:n + sumI M T n <= 1048576) :
    Calls Tryz.prog 40 #[.slice (some ⟨g,0,none⟩) n c,.int .i64 1] w fun e w' => ∃ p:Nat,e = .returned (.int .i64 (p:Int)) /\ WiT (R 0) (R n) w w' := by
  have HR:Hid (OwnIr w B g n 0 n M T R) := h
  clear h
  go_enter Tryz.func40,Tryz.ntmps40
  go_wp2
  go_loopw [1,5] (fun q i wr => ∃ j p:Nat,j <= n /\ i = .int .i64 j /\ q = .int .i64 p /\ 1 <= p /\ p <= 1 + 2 * sumI M T j /\ OwnIr wr B g n j n M T R /\ WiT (R 0) (R n) w wr) (fun _ i _ => n - (intOf i).toNat)
  case atStart => exact ⟨0,1,Nat.zero_le _,rfl,rfl,Nat.le_refl _,by omega,HR.out,WiT.refl _ _ _⟩
  case round =>
    obtain ⟨j,p,hj,rfl,rfl,hp0,hp1,ho,hw⟩ := hrel
    clear HR
    have HW:Hid (WiT (R 0) (R n) w wr) := hw
    clear hw
    by_cases hlt:j < n
    · have hsum:sumI M T (j + 1) = sumI M T j + M j + sumT (T j) (M j) := rfl
      have hsl := sumI_le M T n (j + 1) (by omega)
      have HO:Hid (OwnIr wr B g n j n M T R) := ho
      obtain ⟨hg,hB,hRn,hm,cur,h1,h2,h3⟩ := ho
      obtain ⟨gi,KA,DA,KC,DC,q1,q2,q3⟩ := h3 j (Nat.le_refl _) hlt
      have HM:Hid (MTn wr (R j) gi (M j) (T j) KA DA KC DC /\ TnB (R (j + 1)) gi (M j) (T j) KA DA (R j)) := ⟨⟨T j,q2,fun _ => ⟨rfl,rfl⟩⟩,q3⟩
      have HWd:Hid (R 0 <= R j /\ R (j + 1) <= R n) := ⟨hm 0 j (Nat.zero_le _) (by omega),hm (j + 1) n hlt (Nat.le_refl _)⟩
      have c1 := h1.cell j
      rw [q1] at c1
      have i0:(0:Int) <= (j:Int) := by omega
      have i1:(j:Int) < (n:Int) := by omega
      have hjb:j < 1073741824 := by omega
      obtain ⟨Mj,hMj⟩:∃ x,x = M j := ⟨_,rfl⟩
      obtain ⟨Sj,hSj⟩:∃ x,x = sumT (T j) (M j) := ⟨_,rfl⟩
      have HC:Hid (Calls Tryz.prog 75 #[.slice (some ⟨gi,0,none⟩) Mj Mj,.int .i64 (p:Int)] wr fun e w' => ∃ p' : Nat,e = .returned (.int .i64 (p' : Int)) /\ WiT (R j) (R (j + 1)) wr w' /\ p' = p + 2 * Mj + Sj) := by
        rw [hMj,hSj]
        exact markTNodeS_any (R j) (R (j + 1)) gi (M j) (M j) p (T j) KA DA KC DC wr HM.out.1 HM.out.2 hp0 (by omega)
      rw [<- hMj] at c1
      have HP:Hid (p + 2 * Mj + Sj <= 1 + 2 * sumI M T (j + 1)) := by
        show _ <= _
        omega
      clear hg hB hRn hm h1 h2 h3 q1 q2 q3 HM hsum hsl hMj hSj
      go_wp2_with fail
      (with_reducible refine HC.out.mono ?_)
      rintro e w1 ⟨p',rfl,hw1,hp'⟩
      have HX:Hid (OwnIr w1 B g n (j + 1) n M T R /\ WiT (R 0) (R n) w w1) := ⟨HO.out.next hlt hw1,HW.out.trans (hw1.wide HWd.out.1 HWd.out.2)⟩
      have HP' : Hid (1 <= p' /\ p' <= 1 + 2 * sumI M T (j + 1)) := ⟨by omega,by rw [hp']; exact HP.out⟩
      clear hw1 HC HO HW c1 hp' HP
      go_wp2
      go_roundw
      case rel => exact ⟨j + 1,p',by omega,by go_num,rfl,HP'.out.1,HP'.out.2,HX.out⟩
      case measure => simp [intOf]; omega
    · have e:j = n := by omega
      subst e
      clear ho
      go_wp2
      go_ret
      exact ⟨p,rfl,HW.out⟩

set_option maxHeartbeats 1000000 in
theorem markIndex_any (B g n c:Nat) (M:Nat -> Nat) (T:Nat -> Nat -> Tn) (R:Nat -> Nat) (w:World) (h:OwnIr w B g n 0 n M T R) (hs:n + sumI M T n <= 1048576) :
    Calls Tryz.prog 14 #[.agg #[.slice (some ⟨g,0,none⟩) n c],.int .i64 1] w fun e w' => ∃ p:Nat,e = .returned (.int .i64 (p:Int)) /\ WiT (R 0) (R n) w w' := by
  have HR:Hid (∀ O:Obj,OwnIr (w.alloc O) B g n 0 n M T R /\ WiT (R 0) (R n) w (w.alloc O)) := fun O => ⟨h.below (below_alloc _ _),WiT.grown (grown_below (r := none) (below_alloc _ _)) (fun b e => by cases e)⟩
  clear h
  go_enter Tryz.func14,Tryz.ntmps14
  go_wp2_with fail
  (with_reducible refine (markTreeS_any B g n c M T R _ (HR.out _).1 hs).mono ?_)
  rintro e w1 ⟨p,rfl,hw⟩
  have HW:Hid (WiT (R 0) (R n) w w1) := (HR.out _).2.trans hw
  clear hw
  go_wp2
  go_ret
  exact ⟨p,rfl,HW.out⟩

def OwnIc (w:World) (B g n j k:Nat) (M:Nat -> Nat) (T:Nat -> Nat -> Tn) (R:Nat -> Nat):Prop :=
  g < B /\ B <= R 0 /\ R k <= w.heap.size /\ (∀ i i',i <= i' -> i' <= k -> R i <= R i') /\ ∃ cur:Array Value,Bx w g 59 cur /\ cur.size = n /\ ∀ i,j <= i -> i < k -> ∃ gi KA DA KC DC,cur[i]? = some (.slice (some ⟨gi,0,none⟩) (M i) (M i)) /\ OwnTn w (R i) gi (M i) (T i) KA DA KC DC /\ TnB (R (i + 1)) gi (M i) (T i) KA DA (R i) /\ ∀ x,x < M i -> KC x = (T i x).kn
theorem OwnIc.rd {w:World} {B g n:Nat} {M:Nat -> Nat} {T:Nat -> Nat -> Tn} {R:Nat -> Nat} (h:OwnIc w B g n 0 n M T R):RdIx w (some ⟨g,0,none⟩) n M T := by
  obtain ⟨_,_,_,_,cur,h1,h2,h3⟩ := h
  refine .inr ⟨g,0,rfl,fun i hi => ?_⟩
  obtain ⟨gi,KA,DA,KC,DC,q1,q2,_⟩ := h3 i (Nat.zero_le _) hi
  exact ⟨some ⟨gi,0,none⟩,M i,by rw [Nat.zero_add,h1.cell i]; exact q1,q2.rd⟩
theorem OwnIc.put {w w1:World} {B g n k:Nat} {M:Nat -> Nat} {T:Nat -> Nat -> Tn} {R:Nat -> Nat} (h:OwnIc w B g n 0 k M T R) (hk:k < n) (hb:Below w.heap.size w w1) {gk:Nat} {KA DA:Nat -> Option Addr} {KC DC:Nat -> Nat} (ho:OwnTn w1 w.heap.size gk (M k) (T k) KA DA KC DC) (hkc:∀ x,x < M k -> KC x = (T k x).kn):∃ R',OwnIc (w1.setCell ⟨g,k,none⟩ (.slice (some ⟨gk,0,none⟩) (M k) (M k))) B g n 0 (k + 1) M T R' := by
  obtain ⟨hg,hB,hR,hm,cur,h1,h2,h3⟩ := h
  have h1' : Bx w1 g 59 cur := h1.below hb
  have hs := h1'.set k (.slice (some ⟨gk,0,none⟩) (M k) (M k))
  have hz := hb.size
  have hR0 := hm 0 k (Nat.zero_le _) (Nat.le_refl _)
  have hbd:∀ i',i' <= k -> R i' <= w1.heap.size := fun i' hi => by
    have := hm i' k hi (Nat.le_refl _)
    omega
  obtain ⟨R',hR'⟩:∃ R' : Nat -> Nat,∀ i,R' i = if i <= k then R i else w1.heap.size := ⟨_,fun _ => rfl⟩
  refine ⟨R',hg,by rw [hR',if_pos (Nat.zero_le _)]; exact hB,by rw [hR',if_neg (by omega),World.size_setCell]; exact Nat.le_refl _,fun i i' hi hi' => ?_,_,hs,by simpa using h2,fun i _ hi => ?_⟩
  · rw [hR',hR']
    by_cases e:i' <= k
    · rw [if_pos (by omega),if_pos e]
      exact hm i i' hi e
    · rw [if_neg e]
      by_cases e2:i <= k
      · rw [if_pos e2]; exact hbd i e2
      · rw [if_neg e2]; exact Nat.le_refl _
  · by_cases e:i = k
    · subst e
      have q := (ho.setO (p := ⟨g,i,none⟩) (by show g < w.heap.size; omega) (.slice (some ⟨gk,0,none⟩) (M i) (M i))).low hR
      have qb := q.bound
      rw [World.size_setCell] at qb
      refine ⟨gk,KA,DA,KC,DC,by simp [h2,hk],?_,?_,hkc⟩
      · rw [hR',if_pos (Nat.le_refl _)]; exact q
      · rw [hR',hR',if_neg (by omega),if_pos (Nat.le_refl _)]; exact qb
    · obtain ⟨gi,KA',DA',KC',DC',q1,q2,q3,q4⟩ := h3 i (Nat.zero_le _) (by omega)
      have h0i := hm 0 i (Nat.zero_le _) (by omega)
      refine ⟨gi,KA',DA',KC',DC',?_,?_,?_,q4⟩
      · rw [Array.getElem?_setIfInBounds_ne (by omega)]
        exact q1
      · rw [hR',if_pos (by omega)]
        exact (q2.und hb).setO (p := ⟨g,k,none⟩) (by show g < R i; omega) _
      · rw [hR',hR',if_pos (by omega),if_pos (by omega)]
        exact q3
theorem OwnIc.setO {w:World} {B g n:Nat} {M:Nat -> Nat} {T:Nat -> Nat -> Tn} {R:Nat -> Nat} (h:OwnIc w B g n 0 n M T R) {p:Addr} (hp:p.block < g) (v:Value):OwnIc (w.setCell p v) B g n 0 n M T R := by
  obtain ⟨hg,hB,hR,hm,cur,h1,h2,h3⟩ := h
  refine ⟨hg,hB,by rw [World.size_setCell]; exact hR,hm,cur,(Below.heap_setCell _ _ _ _ (show g ≠ p.block by omega)).trans h1,h2,fun i h0 hi => ?_⟩
  obtain ⟨gi,KA',DA',KC',DC',q1,q2,q3,q4⟩ := h3 i h0 hi
  have h0i := hm 0 i (Nat.zero_le _) (by omega)
  exact ⟨gi,KA',DA',KC',DC',q1,q2.setO (by omega) _,q3,q4⟩
theorem OwnIc.below {w w' : World} {B g n:Nat} {M:Nat -> Nat} {T:Nat -> Nat -> Tn} {R:Nat -> Nat} (h:OwnIc w B g n 0 n M T R) (hb:Below w.heap.size w w'):OwnIc w' B g n 0 n M T R := by
  obtain ⟨hg,hB,hR,hm,cur,h1,h2,h3⟩ := h
  refine ⟨hg,hB,Nat.le_trans hR hb.size,hm,cur,h1.below hb,h2,fun i h0 hi => ?_⟩
  obtain ⟨gi,KA',DA',KC',DC',q1,q2,q3,q4⟩ := h3 i h0 hi
  exact ⟨gi,KA',DA',KC',DC',q1,q2.und hb,q3,q4⟩
set_option maxHeartbeats 2000000 in
theorem toTreeK_any (a:Option Addr) (m c:Nat) (M:Nat -> Nat) (T:Nat -> Nat -> Tn) (w:World) (h:RdIx w a m M T) (hm:m <= 1048576) (hN:IxFit m M T) :
    Calls Tryz.prog 35 #[.slice a m c] w fun e w' => e = .returned (.slice (some ⟨w.heap.size,0,none⟩) m m) /\ (∃ R,OwnIc w' (w.heap.size + 1) w.heap.size m 0 m M T R) /\ Below w.heap.size w w' := by
  have hmk:∀ w:World,(Instr.makeSlice 30 (.int .i64 (m:Int)) (.int .i64 (m:Int))).run Tryz.prog w = .ok (.slice (some ⟨w.heap.size,0,none⟩) m m) (w.alloc (.cells (madeCells #[.slice none 0 0] m) 59)) := by
    intro w
    obtain ⟨i0,hi,hz0,hz1,hz2⟩ := info_parts Tryz.info59
    have := run_make (P := Tryz.prog) w 30 59 i0 _ Tryz.underlying30 hi hz0 .i64 .i64 m m (by omega) (by omega) (by rw [hz2]; omega) (by omega)
    rw [hz1,show (Value.agg #[.slice none 0 0]).cells = #[.slice none 0 0] from rfl,Nat.mul_one] at this
    simpa using this
  have H0:Hid (∃ R,OwnIc (w.alloc (.cells (madeCells #[.slice none 0 0] m) 59)) (w.heap.size + 1) w.heap.size m 0 0 M T R) := ⟨fun _ => w.heap.size + 1,by omega,Nat.le_refl _,by simp,fun _ _ _ _ => Nat.le_refl _,_,Bx.new w _ 59,by simp [madeCells],fun i _ hi => absurd hi (Nat.not_lt_zero _)⟩
  have HR:Hid (RdIx w a m M T /\ IxFit m M T) := ⟨h,hN⟩
  clear h hN
  go_enter Tryz.func35,Tryz.ntmps35
  go_wp2
  go_loopw [4] (fun i wr => ∃ (k:Nat),k <= m /\ i = .int .i64 k /\ (∃ R,OwnIc wr (w.heap.size + 1) w.heap.size m 0 k M T R) /\ Below w.heap.size w wr) (fun i _ => m - (intOf i).toNat)
  case atStart => exact ⟨0,Nat.zero_le _,rfl,H0.out,below_alloc _ _⟩
  case round =>
    obtain ⟨k,hk,rfl,hown,hbel⟩ := hrel
    clear H0
    by_cases hlt:k < m
    · have hne:¬ m = 0 := by omega
      have h' := HR.out.1.below hbel
      have HB:Hid (Below w.heap.size w wr) := hbel
      have HO:Hid (∃ R,OwnIc wr (w.heap.size + 1) w.heap.size m 0 k M T R) := hown
      have hsz := hbel.size
      rcases h' with h' | ⟨b,o,rfl,hc⟩
      · exact absurd h' hne
      obtain ⟨ai,ci,c0,c4⟩ := hc k hlt
      have HL := HR.out.2 k hlt
      have HK:Hid (RdTn wr ai (M k) (T k)) := c4
      clear hc hbel hown hmk c4
      go_wp2_with fail
      refine (toTreeC_any ai (M k) ci (T k) _ HK.out HL.1 HL.2).mono ?_
      rintro e w1 ⟨gk,KA,DA,KC,DC,rfl,hgk,ho1,hb1,hkc⟩
      obtain ⟨R,_,_,_,_,cur,q1,q2,_⟩ := HO.out
      have q3:Bx w1 w.heap.size 59 cur := q1.below hb1
      obtain ⟨u0,hu0⟩:∃ u0,cur[k]? = some u0 := ⟨_,Array.getElem?_eq_getElem (by omega)⟩
      have hc1:w1.cell? ⟨w.heap.size,k,none⟩ = some u0 := by rw [q3.cell k]; exact hu0
      have hf1 := q3.frozen k
      have hl1 := q3.lt
      have HX:Hid ((∃ R,OwnIc (w1.setCell ⟨w.heap.size,k,none⟩ (.slice (some ⟨gk,0,none⟩) (M k) (M k))) (w.heap.size + 1) w.heap.size m 0 (k + 1) M T R) /\ Below w.heap.size w (w1.setCell ⟨w.heap.size,k,none⟩ (.slice (some ⟨gk,0,none⟩) (M k) (M k)))) := by
        obtain ⟨R,hO⟩ := HO.out
        exact ⟨hO.put hlt hb1 ho1 hkc,(HB.out.trans (hb1.mono hsz)).setCell (Nat.le_refl _) _⟩
      clear ho1 hb1 HO HB c0 q1 q2 q3 hu0
      go_wp2
      go_roundw
      case rel => exact ⟨k + 1,by omega,by go_num,HX.out⟩
      case measure => simp [intOf]; omega
    · have e:k = m := by omega
      subst e
      have HO:Hid (∃ R,OwnIc wr (w.heap.size + 1) w.heap.size k 0 k M T R) := hown
      clear hown
      go_wp2
      go_ret
      exact ⟨rfl,HO.out,hbel⟩

set_option maxHeartbeats 400000 in
theorem toIndexK_any (a:Option Addr) (m c:Nat) (M:Nat -> Nat) (T:Nat -> Nat -> Tn) (w:World) (h:RdIx w a m M T) (hm:m <= 1048576) (hN:IxFit m M T) :
    Calls Tryz.prog 9 #[.agg #[.slice a m c]] w fun e w' => ∃ g R,e = .returned (.agg #[.slice (some ⟨g,0,none⟩) m m]) /\ w.heap.size <= g /\ OwnIc w' (g + 1) g m 0 m M T R /\ Below w.heap.size w w' := by
  have HH:Hid ((∀ o1 o2 o3,Below w.heap.size w (((w.alloc o1).alloc o2).alloc o3)) /\ (∀ o1 o2 o3,(((w.alloc o1).alloc o2).alloc o3).heap.size = w.heap.size + 3) /\ RdIx w a m M T /\ IxFit m M T) := ⟨fun o1 o2 o3 => (((below_alloc _ _).alloc (by simp) _).alloc (by simp; omega) _),fun o1 o2 o3 => by simp,h,hN⟩
  clear h hN
  go_enter Tryz.func9,Tryz.ntmps9
  go_wp2_with fail
  refine (toTreeK_any a m c M T _ (HH.out.2.2.1.below (HH.out.1 _ _ _)) hm HH.out.2.2.2).mono ?_
  rintro e w1 ⟨rfl,⟨R,ho1⟩,hb1⟩
  rw [HH.out.2.1] at ho1 hb1 ⊢
  have hz:w.heap.size + 2 < w1.heap.size := by have := hb1.size; rw [HH.out.2.1] at this; omega
  have hc:∀ b o,b < w.heap.size + 3 -> w1.cell? ⟨b,o,none⟩ = _ := fun b o hb => hb1.cell (p := ⟨b,o,none⟩) hb
  have hfz:∀ b o,b < w.heap.size + 3 -> w1.frozen? ⟨b,o,none⟩ = _ := fun b o hb => hb1.frozen (p := ⟨b,o,none⟩) hb
  have HE:Hid (OwnIc w1 (w.heap.size + 3 + 1) (w.heap.size + 3) m 0 m M T R /\ Below w.heap.size w w1) := ⟨ho1,(HH.out.1 _ _ _).trans (hb1.mono (by omega))⟩
  clear ho1 hb1
  go_wp2
  refine bodyPost_ret (v := .agg #[.slice (some ⟨w.heap.size + 3,0,none⟩) m m]) (by simp [results,Tryz.results9,go_sem,hc]) rfl ⟨_,R,rfl,by omega,?_,?_⟩
  · exact (HE.out.1.setO (p := ⟨w.heap.size + 2,0,none⟩) (by simp) _).setO (p := ⟨w.heap.size + 1,0,none⟩) (by simp) _
  · exact (HE.out.2.setCell (by simp; try omega) _).setCell (by simp; try omega) _

theorem OwnIc.ir {w:World} {B g n j k:Nat} {M:Nat -> Nat} {T:Nat -> Nat -> Tn} {R:Nat -> Nat} (h:OwnIc w B g n j k M T R):OwnIr w B g n j k M T R := by
  obtain ⟨hg,hB,hR,hm,cur,h1,h2,h3⟩ := h
  refine ⟨hg,hB,hR,hm,cur,h1,h2,fun i h0 hi => ?_⟩
  obtain ⟨gi,KA,DA,KC,DC,q1,q2,q3,q4⟩ := h3 i h0 hi
  exact ⟨gi,KA,DA,KC,DC,q1,q2,q3⟩
theorem OwnIc.rdC {w:World} {B g n:Nat} {M:Nat -> Nat} {T:Nat -> Nat -> Tn} {R:Nat -> Nat} (h:OwnIc w B g n 0 n M T R) (hF:IxFit n M T):RdIxC w (some ⟨g,0,none⟩) n M T := by
  obtain ⟨hg,hB,hR,hm,cur,h1,h2,h3⟩ := h
  refine .inr ⟨g,0,rfl,fun i hi => ?_⟩
  obtain ⟨gi,KA,DA,KC,DC,q1,q2,q3,q4⟩ := h3 i (Nat.zero_le _) hi
  refine ⟨some ⟨gi,0,none⟩,M i,by rw [Nat.zero_add,h1.cell i]; exact q1,q2.rdC capC (fun x hx => ?_)⟩
  rw [q4 x hx]
  have := ((hF i hi).2 x hx).1
  exact ⟨Nat.le_refl _,by omega⟩
theorem RdIxC.below {w w' : World} {a:Option Addr} {n:Nat} {M:Nat -> Nat} {T:Nat -> Nat -> Tn} (h:RdIxC w a n M T) (hb:Below w.heap.size w w'):RdIxC w' a n M T := by
  rcases h with h | ⟨b,o,rfl,hc⟩
  · exact Or.inl h
  · refine Or.inr ⟨b,o,rfl,fun i hi => ?_⟩
    obtain ⟨ai,ci,h0,h1⟩ := hc i hi
    exact ⟨ai,ci,by rw [hb.cell (World.block_lt_of_cell? _ _ h0)]; exact h0,h1.below hb⟩
theorem RdIx.same {w:World} {a:Option Addr} {n:Nat} {M M' : Nat -> Nat} {T T' : Nat -> Nat -> Tn} (h:RdIx w a n M T) (he:∀ i,i < n -> M i = M' i /\ ∀ x,x < M i -> SameN (T i x) (T' i x)):RdIx w a n M' T' := by
  rcases h with h | ⟨b,o,rfl,hc⟩
  · exact Or.inl h
  · refine Or.inr ⟨b,o,rfl,fun i hi => ?_⟩
    obtain ⟨ai,ci,h0,h1⟩ := hc i hi
    obtain ⟨e1,e2⟩ := he i hi
    exact ⟨ai,ci,by rw [<- e1]; exact h0,by rw [<- e1]; exact h1.same e2⟩

set_option maxHeartbeats 1000000 in
theorem eqIndexRes_yes (ok:Bool) (a b:Option Addr) (m ca cb:Nat) (M:Nat -> Nat) (T:Nat -> Nat -> Tn) (w:World) (ha:RdIx w a m M T) (hb:RdIx w b m M T) (hm:m <= 1048576) (hN:IxFit m M T) :
    Calls Tryz.prog 19 #[.agg #[.bool ok,.slice a m ca],.agg #[.bool ok,.slice b m cb]] w fun e w' => e = .returned (.bool true) /\ Below w.heap.size w w' := by
  have HR:Hid (∀ W,Below w.heap.size w W -> Calls Tryz.prog 13 #[.agg #[.slice a m ca],.agg #[.slice b m cb]] W fun e w' => e = .returned (.bool true) /\ Below W.heap.size W w') := fun W hW => eqIndex_yes a b m ca cb M T W (ha.below hW) (hb.below hW) hm hN
  have HB:Hid (∀ o1 o2,Below w.heap.size w ((w.alloc o1).alloc o2)) := fun o1 o2 => (below_alloc _ _).alloc (by simp) _
  have hbb:(ok != ok) = false := by cases ok <;> rfl
  clear ha hb hN
  go_enter Tryz.func19,Tryz.ntmps19
  go_wp2_with fail
  (with_reducible refine (HR.out _ (HB.out _ _)).mono ?_)
  rintro e w1 ⟨rfl,hb1⟩
  have H1:Hid (Below w.heap.size w w1) := (HB.out _ _).trans (hb1.mono (by simp; omega))
  clear hb1
  go_wp2
  go_ret
  exact ⟨rfl,H1.out⟩

def ksI (M:Nat -> Nat) (T:Nat -> Nat -> Tn):Nat -> Nat
  | 0 => 1
  | i + 1 => koT (ksI M T i) (T i) (M i)
theorem ksI_le (M:Nat -> Nat) (T:Nat -> Nat -> Tn):∀ i,1 <= ksI M T i /\ ksI M T i <= 1 + 2 * sumI M T i
  | 0 => by simp [ksI,sumI]
  | i + 1 => by
    have h := ksI_le M T i
    have e:ksI M T (i + 1) = ksI M T i + 2 * M i + sumT (T i) (M i) := rfl
    have e2:sumI M T (i + 1) = sumI M T i + M i + sumT (T i) (M i) := rfl
    omega
def mkTr (M:Nat -> Nat) (T:Nat -> Nat -> Tn) (j i:Nat):Nat -> Tn := if i < j then mkN (ksI M T i) (T i) else T i
def TreeMk (w:World) (lo hi m:Nat) (N:Nat -> Tn) (u:Value):Prop :=
  ∃ a c,u = .slice a m c /\ (m = 0 \/ ∃ g KA DA KC DC,a = some ⟨g,0,none⟩ /\ OwnTn w lo g m N KA DA KC DC /\ TnB hi g m N KA DA lo)
theorem TreeMk.wit {w w' : World} {lo hi m:Nat} {N:Nat -> Tn} {u:Value} (h:TreeMk w lo hi m N u) (hk:∀ b,lo <= b -> b < hi -> b < w.heap.size -> w'.heap[b]? = w.heap[b]?):TreeMk w' lo hi m N u := by
  obtain ⟨a,c,e,h⟩ := h
  rcases h with h | ⟨g,KA,DA,KC,DC,e2,h1,h2⟩
  · exact ⟨a,c,e,.inl h⟩
  · exact ⟨a,c,e,.inr ⟨g,KA,DA,KC,DC,e2,h1.wit h2 hk,h2⟩⟩
theorem TreeMk.rd {w:World} {lo hi m:Nat} {N:Nat -> Tn} {u:Value} (h:TreeMk w lo hi m N u):∃ a c,u = .slice a m c /\ RdTn w a m N := by
  obtain ⟨a,c,e,h⟩ := h
  rcases h with h | ⟨g,KA,DA,KC,DC,rfl,h1,h2⟩
  · exact ⟨a,c,e,.inl h⟩
  · exact ⟨_,c,e,h1.rd⟩
theorem TreeAt.mk {w:World} {lo hi m:Nat} {N:Nat -> Tn} {u:Value} (h:TreeAt w lo hi m N u):TreeMk w lo hi m N u := by
  obtain ⟨a,c,KA,DA,KC,DC,e,hg,hu,hh⟩ := h
  by_cases h0:m = 0
  · exact ⟨a,c,e,.inl h0⟩
  · obtain ⟨g,rfl⟩ := hg.form h0
    have ho := hg.ownTn
    refine ⟨_,c,e,.inr ⟨g,KA,DA,KC,DC,rfl,ho,ho.le,hu g (.inl rfl),fun i hi h1 b hb => ?_,fun i hi h1 b hb => ?_⟩⟩
    · obtain ⟨gi,hA,hgi,hri⟩ := (ho.keys i hi).resolve_left h1
      rw [hA] at hb
      injection hb with hb
      subst hb
      exact ⟨hgi,hu gi (.inr (.inl ⟨i,hi,h1,hA⟩))⟩
    · obtain ⟨gi,hA,hgi,hri⟩ := (ho.kids i hi).resolve_left h1
      rw [hA] at hb
      injection hb with hb
      subst hb
      exact ⟨hgi,hu gi (.inr (.inr ⟨i,hi,h1,hA⟩))⟩
def FrK (n:Nat) (lo hi:Nat -> Nat) (w w' : World):Prop := w.heap.size <= w'.heap.size /\ ∀ x,x < w.heap.size -> (∀ i,i < n -> x < lo i \/ hi i <= x) -> w'.heap[x]? = w.heap[x]?
theorem FrK.refl (n:Nat) (lo hi:Nat -> Nat) (w:World):FrK n lo hi w w := ⟨Nat.le_refl _,fun _ _ _ => rfl⟩
theorem FrK.trans {n:Nat} {lo hi:Nat -> Nat} {w w1 w2:World} (h:FrK n lo hi w w1) (k:FrK n lo hi w1 w2):FrK n lo hi w w2 := ⟨Nat.le_trans h.1 k.1,fun x hx hn => (k.2 x (Nat.lt_of_lt_of_le hx h.1) hn).trans (h.2 x hx hn)⟩
theorem FrK.of {n:Nat} {lo hi:Nat -> Nat} {w w' : World} (h:Below w.heap.size w w'):FrK n lo hi w w' := ⟨h.size,fun x hx _ => h.block x hx⟩
structure RowK (w:World) (B g n:Nat) (M:Nat -> Nat) (T:Nat -> Nat -> Tn) (us:List Value) (lo hi:Nat -> Nat) (j:Nat):Prop where
  cells:∀ i u,us[i]? = some u -> w.cell? ⟨g,i,none⟩ = some u
  lt:g < w.heap.size
  tree:∀ i,i < n -> ∃ u,us[i]? = some u /\ TreeMk w (lo i) (hi i) (M i) (mkTr M T j i) u
  base:∀ i,i < n -> B <= lo i
  ord:∀ i j,i < j -> j < n -> hi i <= lo j
  sep:∀ i,i < n -> g < lo i \/ hi i <= g
theorem mkTr_lt {M:Nat -> Nat} {T:Nat -> Nat -> Tn} {j i:Nat} (h:i < j):mkTr M T j i = mkN (ksI M T i) (T i) := if_pos h
theorem mkTr_ge {M:Nat -> Nat} {T:Nat -> Nat -> Tn} {j i:Nat} (h:¬ i < j):mkTr M T j i = T i := if_neg h
theorem RowK.next {w w' : World} {B g n:Nat} {M:Nat -> Nat} {T:Nat -> Nat -> Tn} {us:List Value} {lo hi:Nat -> Nat} {j:Nat} (h:RowK w B g n M T us lo hi j) (hj:j < n) {u:Value} (hu:us[j]? = some u) (hw:WiT (lo j) (hi j) w w') (ht:TreeMk w' (lo j) (hi j) (M j) (mkN (ksI M T j) (T j)) u):RowK w' B g n M T us lo hi (j + 1) := by
  have hs := h.sep j hj
  refine ⟨fun i v hv => ?_,Nat.lt_of_lt_of_le h.lt hw.2.2.2.1,fun i hi => ?_,h.base,h.ord,h.sep⟩
  · have := h.cells i v hv
    simp only [World.cell?,hw.2.2.2.2 g h.lt hs] at this ⊢
    exact this
  · by_cases e:i = j
    · subst e
      refine ⟨u,hu,?_⟩
      rw [mkTr_lt (by omega)]
      exact ht
    · obtain ⟨v,h1,h2⟩ := h.tree i hi
      refine ⟨v,h1,?_⟩
      have e2:mkTr M T (j + 1) i = mkTr M T j i := by
        by_cases e3:i < j
        · rw [mkTr_lt e3,mkTr_lt (by omega)]
        · rw [mkTr_ge e3,mkTr_ge (by omega)]
      rw [e2]
      refine h2.wit (fun b h3 h4 h5 => hw.2.2.2.2 b h5 ?_)
      rcases Nat.lt_or_ge i j with q | q
      · have := h.ord i j q hj
        left; omega
      · have := h.ord j i (by omega) hi
        right; omega

set_option maxHeartbeats 1000000 in
theorem markNs0 (a:Option Addr) (c k:Nat) (w:World):Calls Tryz.prog 75 #[.slice a 0 c,.int .i64 (k:Int)] w fun e w' => e = .returned (.int .i64 (k:Int)) /\ Below w.heap.size w w' := by
  go_enter Tryz.func75,Tryz.ntmps75
  go_wp2
  go_loopw [1,5] (fun q i wr => i = .int .i64 0 /\ q = .int .i64 (k:Int) /\ Below w.heap.size w wr) (fun _ i _ => 1 - (intOf i).toNat)
  case atStart => exact ⟨rfl,rfl,Below.refl _ _⟩
  case round =>
    obtain ⟨rfl,rfl,hb⟩ := hrel
    go_wp2
    go_ret
    exact ⟨rfl,hb⟩

set_option maxHeartbeats 4000000 in
theorem markRow_any (B:Nat) (a:Option Addr) (n c:Nat) (M:Nat -> Nat) (T:Nat -> Nat -> Tn) (us:List Value) (lo hi:Nat -> Nat) (w:World) (h:RowI TreeAt w B (.slice a n c) n M T us lo hi) (hB:B <= w.heap.size) (hs:n + sumI M T n <= 1048576) :
    Calls Tryz.prog 40 #[.slice a n c,.int .i64 1] w fun e w' => e = .returned (.int .i64 (ksI M T n:Int)) /\ Below B w w' /\ RdIx w' a n M (fun i => mkN (ksI M T i) (T i)) /\ FrK n lo hi w w' := by
  by_cases hn0:n = 0
  · subst hn0
    go_enter Tryz.func40,Tryz.ntmps40
    go_wp2
    go_loopw [1,5] (fun q i wr => q = .int .i64 1 /\ i = .int .i64 0 /\ wr = w) (fun _ i _ => 1 - (intOf i).toNat)
    case atStart => exact ⟨rfl,rfl,rfl⟩
    case round =>
      obtain ⟨rfl,rfl,rfl⟩ := hrel
      go_wp2
      go_ret
      exact ⟨rfl,Below.refl _ _,.inl rfl,FrK.refl _ _ _ _⟩
  · obtain ⟨a',c',e,hf⟩ := own_form h.row
    injection e with e1 _ e2
    subst e1 e2
    obtain ⟨g,rfl,hgB,hgl,hc⟩ := hf hn0
    have K0:Hid (RowK w B g n M T us lo hi 0) := ⟨hc,hgl,fun i hi => by
      obtain ⟨u,h1,h2⟩ := h.tree i hi
      exact ⟨u,h1,by rw [mkTr_ge (Nat.not_lt_zero _)]; exact h2.mk⟩,h.base,h.ord,fun i hi => h.sep g rfl i hi⟩
    clear h hf hc hn0
    go_enter Tryz.func40,Tryz.ntmps40
    go_wp2
    go_loopw [1,5] (fun q i wr => ∃ j p:Nat,j <= n /\ i = .int .i64 j /\ q = .int .i64 p /\ p = ksI M T j /\ RowK wr B g n M T us lo hi j /\ Below B w wr /\ FrK n lo hi w wr) (fun _ i _ => n - (intOf i).toNat)
    case atStart => exact ⟨0,1,Nat.zero_le _,rfl,rfl,rfl,K0.out,Below.refl _ _,FrK.refl _ _ _ _⟩
    case round =>
      obtain ⟨j,p,hj,rfl,rfl,hp,hk,hb,hfr⟩ := hrel
      have HFr:Hid (FrK n lo hi w wr) := hfr
      clear hfr
      clear K0
      have HK:Hid (RowK wr B g n M T us lo hi j /\ Below B w wr /\ p = ksI M T j) := ⟨hk,hb,hp⟩
      by_cases hlt:j < n
      · have hp1 := ksI_le M T j
        have hsl := sumI_le M T n (j + 1) (by omega)
        have hsum:sumI M T (j + 1) = sumI M T j + M j + sumT (T j) (M j) := rfl
        obtain ⟨u,hu,aj,cj,e,htr⟩ := hk.tree j hlt
        subst e
        have c1 := hk.cells j _ hu
        have i0:(0:Int) <= (j:Int) := by omega
        have i1:(j:Int) < (n:Int) := by omega
        have hjb:j < 1073741824 := by omega
        obtain ⟨Mj,hMj⟩:∃ x,x = M j := ⟨_,rfl⟩
        obtain ⟨p',hp'⟩:∃ x,x = ksI M T (j + 1) := ⟨_,rfl⟩
        have HC:Hid (Calls Tryz.prog 75 #[.slice aj Mj cj,.int .i64 (p:Int)] wr fun e w' => e = .returned (.int .i64 (p' : Int)) /\ Below B wr w' /\ RowK w' B g n M T us lo hi (j + 1) /\ FrK n lo hi wr w') := by
          have hbj := hk.base j hlt
          by_cases h0:M j = 0
          · rw [hMj,h0]
            refine (markNs0 aj cj p wr).mono (fun e w' ⟨h1,h2⟩ => ⟨?_,h2.mono (Nat.le_trans hB hb.size),?_,FrK.of h2⟩)
            · rw [h1,hp',hp]
              have:ksI M T (j + 1) = ksI M T j := by
                show koT (ksI M T j) (T j) (M j) = _
                rw [h0]
                rfl
              rw [this]
            · exact hk.next hlt hu ⟨h2.os,h2.tape,h2.output,h2.size,fun k hk _ => h2.block k hk⟩ ⟨aj,cj,rfl,.inl h0⟩
          · obtain ⟨gj,KA,DA,KC,DC,rfl,ho,hT⟩ := htr.resolve_left h0
            rw [mkTr_ge (Nat.lt_irrefl _)] at ho hT
            rw [hMj]
            refine (markTNodeS_eq (lo j) (hi j) gj (M j) cj p (T j) KA DA KC DC wr ho hT (by omega) (by omega)).mono (fun e w' ⟨h1,h2,h3⟩ => ⟨?_,(h2.below (by have := ho.le; have := ho.row.lt; omega)).mono hbj,?_,⟨h2.2.2.2.1,fun x hx hn => h2.2.2.2.2 x hx (hn j hlt)⟩⟩)
            · rw [h1,hp',hp]
              rfl
            · refine hk.next hlt hu h2 ⟨_,cj,rfl,.inr ⟨gj,KA,DA,KC,DC,rfl,by rw [<- hp]; exact h3,hT⟩⟩
        rw [<- hMj] at c1
        have HP:Hid (p' = ksI M T (j + 1)) := hp'
        have hpp:p' <= 1073741824 := by
          have := ksI_le M T (j + 1)
          omega
        clear hk hb hp hp1 hsl hsum htr hu hMj hp'
        go_wp2_with fail
        (with_reducible refine HC.out.mono ?_)
        rintro e w1 ⟨rfl,hb1,hk1,hf1⟩
        have HX:Hid (RowK w1 B g n M T us lo hi (j + 1) /\ Below B w w1 /\ FrK n lo hi w w1) := ⟨hk1,HK.out.2.1.trans hb1,HFr.out.trans hf1⟩
        clear hb1 hk1 hf1 HC c1
        go_wp2
        go_roundw
        case rel => exact ⟨j + 1,p',by omega,by go_num,rfl,HP.out,HX.out⟩
        case measure => simp [intOf]; omega
      · have e:j = n := by omega
        subst e
        have HZ:Hid (RdIx wr (some ⟨g,0,none⟩) j M (fun i => mkN (ksI M T i) (T i))) := by
          refine .inr ⟨g,0,rfl,fun i hi => ?_⟩
          obtain ⟨u,h1,h2⟩ := hk.tree i hi
          obtain ⟨ai,ci,rfl,hr⟩ := h2.rd
          rw [mkTr_lt hi] at hr
          exact ⟨ai,ci,by rw [Nat.zero_add]; exact hk.cells i _ h1,hr⟩
        clear hk hb hp
        go_wp2
        go_ret
        exact ⟨by rw [HK.out.2.2]; rfl,HK.out.2.1,HZ.out,HFr.out⟩

set_option maxHeartbeats 4000000 in
theorem heldRow_any (a:Option Addr) (n c:Nat) (M:Nat -> Nat) (T:Nat -> Nat -> Tn) (w:World) (h:RdIx w a n M (fun i => mkN (ksI M T i) (T i))) (hs:n + sumI M T n <= 1048576) :
    Calls Tryz.prog 87 #[.slice a n c,.int .i64 1] w fun e w' => e = .returned (.int .i64 (ksI M T n:Int)) /\ Below w.heap.size w w' := by
  have HR:Hid (RdIx w a n M (fun i => mkN (ksI M T i) (T i))) := h
  clear h
  go_enter Tryz.func87,Tryz.ntmps87
  go_wp2
  go_loopw [1,5] (fun q i wr => ∃ j p:Nat,j <= n /\ i = .int .i64 j /\ q = .int .i64 p /\ p = ksI M T j /\ Below w.heap.size w wr) (fun _ i _ => n - (intOf i).toNat)
  case atStart => exact ⟨0,1,Nat.zero_le _,rfl,rfl,rfl,Below.refl _ _⟩
  case round =>
    obtain ⟨j,p,hj,rfl,rfl,hp,hb⟩ := hrel
    have HK:Hid (Below w.heap.size w wr /\ p = ksI M T j) := ⟨hb,hp⟩
    by_cases hlt:j < n
    · have hp1 := ksI_le M T j
      have hsl := sumI_le M T n (j + 1) (by omega)
      have hsum:sumI M T (j + 1) = sumI M T j + M j + sumT (T j) (M j) := rfl
      rcases HR.out.below hb with h0 | ⟨bb,oo,rfl,hc⟩
      · omega
      obtain ⟨aj,cj,c1,hrd⟩ := hc j hlt
      have i0:(0:Int) <= (j:Int) := by omega
      have i1:(j:Int) < (n:Int) := by omega
      have hjb:j < 1073741824 := by omega
      obtain ⟨Mj,hMj⟩:∃ x,x = M j := ⟨_,rfl⟩
      obtain ⟨p',hp'⟩:∃ x,x = ksI M T (j + 1) := ⟨_,rfl⟩
      have HC:Hid (Calls Tryz.prog 121 #[.slice aj Mj cj,.int .i64 (p:Int)] wr fun e w' => e = .returned (.int .i64 (p' : Int)) /\ Below wr.heap.size wr w') := by
        rw [hMj,hp',hp]
        exact heldTNodeS_any aj (M j) cj (ksI M T j) (T j) wr hrd hp1.1 (by omega)
      rw [<- hMj] at c1
      have HP:Hid (p' = ksI M T (j + 1)) := hp'
      have hpp:p' <= 1073741824 := by
        have := ksI_le M T (j + 1)
        omega
      have hp0:¬ (p' : Int) < 0 := by omega
      have hp0' : decide ((p' : Int) < 0) = false := decide_eq_false hp0
      clear hb hp hp1 hsl hsum hrd hc hMj hp'
      go_wp2_with fail
      (with_reducible refine HC.out.mono ?_)
      rintro e w1 ⟨rfl,hb1⟩
      have HX:Hid (Below w.heap.size w w1) := HK.out.1.trans (hb1.mono HK.out.1.size)
      clear hb1 HC c1
      go_wp2
      go_roundw
      case rel => exact ⟨j + 1,p',by omega,by go_num,rfl,HP.out,HX.out⟩
      case measure => simp [intOf]; omega
    · have e:j = n := by omega
      subst e
      clear hb hp
      go_wp2
      go_ret
      exact ⟨by rw [HK.out.2]; rfl,HK.out.1⟩

set_option maxHeartbeats 1000000 in
theorem markIxR (ok:Bool) (B:Nat) (a:Option Addr) (n c:Nat) (M:Nat -> Nat) (T:Nat -> Nat -> Tn) (us:List Value) (lo hi:Nat -> Nat) (w:World) (h:RowI TreeAt w B (.slice a n c) n M T us lo hi) (hB:B <= w.heap.size) (hs:n + sumI M T n <= 1048576) :
    Calls Tryz.prog 20 #[.agg #[.bool ok,.slice a n c],.int .i64 1] w fun e w' => e = .returned (.int .i64 (ksI M T n:Int)) /\ Below B w w' /\ RdIx w' a n M (fun i => mkN (ksI M T i) (T i)) /\ FrK n lo hi w w' := by
  have HM:Hid (∀ W,Below w.heap.size w W -> Calls Tryz.prog 14 #[.agg #[.slice a n c],.int .i64 1] W fun e w' => e = .returned (.int .i64 (ksI M T n:Int)) /\ Below B W w' /\ RdIx w' a n M (fun i => mkN (ksI M T i) (T i)) /\ FrK n lo hi W w') := fun W hW => by
    have HT:Hid (∀ O:Obj,Calls Tryz.prog 40 #[.slice a n c,.int .i64 1] (W.alloc O) fun e w' => e = .returned (.int .i64 (ksI M T n:Int)) /\ Below B (W.alloc O) w' /\ RdIx w' a n M (fun i => mkN (ksI M T i) (T i)) /\ FrK n lo hi (W.alloc O) w') := fun O => markRow_any B a n c M T us lo hi _ ((h.below TreeAt.pl hW).below TreeAt.pl (below_alloc _ _)) (by have := hW.size; simp; omega) hs
    have HB:Hid (∀ O,Below B W (W.alloc O)) := fun O => (below_alloc _ _).mono (Nat.le_trans hB hW.size)
    go_enter Tryz.func14,Tryz.ntmps14
    go_wp2_with fail
    (with_reducible refine (HT.out _).mono ?_)
    rintro e w1 ⟨rfl,hb1,hr1,hf1⟩
    have H1:Hid (Below B W w1 /\ RdIx w1 a n M (fun i => mkN (ksI M T i) (T i)) /\ FrK n lo hi W w1) := ⟨(HB.out _).trans hb1,hr1,(FrK.of (below_alloc _ _)).trans hf1⟩
    clear hb1 hr1 hf1
    go_wp2
    go_ret
    exact ⟨rfl,H1.out⟩
  have HB:Hid (∀ O,Below B w (w.alloc O)) := fun O => (below_alloc _ _).mono hB
  clear h
  go_enter Tryz.func20,Tryz.ntmps20
  go_wp2_with fail
  (with_reducible refine (HM.out _ (below_alloc _ _)).mono ?_)
  rintro e w1 ⟨rfl,hb1,hr1,hf1⟩
  have H1:Hid (Below B w w1 /\ RdIx w1 a n M (fun i => mkN (ksI M T i) (T i)) /\ FrK n lo hi w w1) := ⟨(HB.out _).trans hb1,hr1,(FrK.of (below_alloc _ _)).trans hf1⟩
  clear hb1 hr1 hf1
  go_wp2
  go_ret
  exact ⟨rfl,H1.out⟩

set_option maxHeartbeats 1000000 in
theorem heldIxR (ok:Bool) (a:Option Addr) (n c:Nat) (M:Nat -> Nat) (T:Nat -> Nat -> Tn) (w:World) (h:RdIx w a n M (fun i => mkN (ksI M T i) (T i))) (hs:n + sumI M T n <= 1048576) :
    Calls Tryz.prog 21 #[.agg #[.bool ok,.slice a n c],.int .i64 1] w fun e w' => e = .returned (.int .i64 (ksI M T n:Int)) /\ Below w.heap.size w w' := by
  obtain ⟨z,hz⟩:∃ z,z = ksI M T n := ⟨_,rfl⟩
  have hz0:¬ (z:Int) < 0 := by omega
  have hz0' : decide ((z:Int) < 0) = false := decide_eq_false hz0
  have HM:Hid (∀ W,Below w.heap.size w W -> Calls Tryz.prog 49 #[.agg #[.slice a n c],.int .i64 1] W fun e w' => e = .returned (.int .i64 (z:Int)) /\ Below W.heap.size W w') := fun W hW => by
    have HT:Hid (∀ O:Obj,Calls Tryz.prog 87 #[.slice a n c,.int .i64 1] (W.alloc O) fun e w' => e = .returned (.int .i64 (z:Int)) /\ Below (W.alloc O).heap.size (W.alloc O) w') := fun O => by
      rw [hz]
      exact heldRow_any a n c M T _ ((h.below hW).below (below_alloc _ _)) hs
    clear hz
    go_enter Tryz.func49,Tryz.ntmps49
    go_wp2_with fail
    (with_reducible refine (HT.out _).mono ?_)
    rintro e w1 ⟨rfl,hb1⟩
    have H1:Hid (Below W.heap.size W w1) := (below_alloc _ _).trans (hb1.mono (by simp))
    clear hb1
    go_wp2
    go_ret
    exact ⟨rfl,H1.out⟩
  rw [<- hz]
  clear h hz
  go_enter Tryz.func21,Tryz.ntmps21
  go_wp2_with fail
  (with_reducible refine (HM.out _ (below_alloc _ _)).mono ?_)
  rintro e w1 ⟨rfl,hb1⟩
  have H1:Hid (Below w.heap.size w w1) := (below_alloc _ _).trans (hb1.mono (by simp))
  clear hb1
  go_wp2
  go_ret
  exact ⟨rfl,H1.out⟩

def OwQ (w:World) (B:Nat) (a:Option Addr) (n:Nat) (X:Nat -> Int):Prop := n = 0 \/ ∃ g,a = some ⟨g,0,none⟩ /\ B <= g /\ rowIn w g 34 (n * 4) (fun i => .int .i64 (X i))
def qcF (L:List Qd) (i:Nat):Int := match L[i / 4]? with
  | some q => if i % 4 = 0 then q.s else if i % 4 = 1 then q.p else if i % 4 = 2 then q.o else q.g
  | none => 0
theorem qcF_get (L:List Qd) (i:Nat) (h:i < L.length):qcF L (i * 4) = L[i].s /\ qcF L (i * 4 + 1) = L[i].p /\ qcF L (i * 4 + 2) = L[i].o /\ qcF L (i * 4 + 3) = L[i].g := by
  have e0:i * 4 / 4 = i /\ i * 4 % 4 = 0 := by omega
  have e1:(i * 4 + 1) / 4 = i /\ (i * 4 + 1) % 4 = 1 := by omega
  have e2:(i * 4 + 2) / 4 = i /\ (i * 4 + 2) % 4 = 2 := by omega
  have e3:(i * 4 + 3) / 4 = i /\ (i * 4 + 3) % 4 = 3 := by omega
  unfold qcF
  rw [e0.1,e0.2,e1.1,e1.2,e2.1,e2.2,e3.1,e3.2,List.getElem?_eq_getElem h]
  exact ⟨rfl,rfl,rfl,rfl⟩
theorem quadL_cell (L:List Qd) (i:Nat) (h:i < L.length * 4):(quadL L)[i]? = some (.int .i64 (qcF L i)) := by
  have hl:i / 4 < L.length := by omega
  obtain ⟨q0,q1,q2,q3⟩ := quadL_get L (i / 4) hl
  obtain ⟨f0,f1,f2,f3⟩ := qcF_get L (i / 4) hl
  rcases (show i = i / 4 * 4 \/ i = i / 4 * 4 + 1 \/ i = i / 4 * 4 + 2 \/ i = i / 4 * 4 + 3 by omega) with e | e | e | e
  · rw [e,f0]; exact q0
  · rw [e,f1]; exact q1
  · rw [e,f2]; exact q2
  · rw [e,f3]; exact q3
theorem own_owq {w:World} {B:Nat} {a:Option Addr} {c:Nat} {L:List Qd} (h:w.ownsRow B 34 4 (.slice a L.length c) L.length (quadL L)):OwQ w B a L.length (qcF L) := by
  rcases h.2 with ⟨h1,h2⟩ | ⟨g,cap,cur,h1,hb,hh,q1,q2,q3,q4⟩
  · injection h1 with _ h1
    exact .inl h1
  · injection h1 with h1
    subst h1
    refine .inr ⟨g,rfl,hb,cur,hh,?_,fun i hi => ?_⟩
    · rw [q3]
      exact Nat.mul_le_mul_right 4 q1
    · have hlt:∀ (m:Nat) (u:Value),(cur.toList.take m)[i]? = some u -> cur[i]? = some u := fun m u h => by
        rw [List.getElem?_take] at h
        by_cases e:i < m
        · rw [if_pos e] at h; simpa using h
        · rw [if_neg e] at h; cases h
      have hl := quadL_cell L i hi
      rw [<- q4] at hl
      exact hlt _ _ hl
theorem OwQ.below {w w' : World} {B n:Nat} {a:Option Addr} {X:Nat -> Int} (h:OwQ w B a n X) (hb:Below w.heap.size w w'):OwQ w' B a n X := by
  rcases h with h | ⟨g,e,hg,hr⟩
  · exact .inl h
  · exact .inr ⟨g,e,hg,hr.of_block (hb.block g hr.lt)⟩
theorem OwQ.keep {w w' : World} {B n:Nat} {a:Option Addr} {X:Nat -> Int} (h:OwQ w B a n X) (hk:∀ b,B <= b -> b < w.heap.size -> w'.heap[b]? = w.heap[b]?):OwQ w' B a n X := by
  rcases h with h | ⟨g,e,hg,hr⟩
  · exact .inl h
  · exact .inr ⟨g,e,hg,hr.of_block (hk g hg hr.lt)⟩
theorem OwQ.rd {w:World} {B:Nat} {a:Option Addr} {L:List Qd} (h:OwQ w B a L.length (qcF L)):RdQ w a L := by
  rcases h with h | ⟨g,e,hg,hr⟩
  · exact .inl h
  · refine .inr ⟨g,e,fun i hi => ?_⟩
    obtain ⟨f0,f1,f2,f3⟩ := qcF_get L i hi
    refine ⟨?_,?_,?_,?_⟩
    · rw [hr.cell (i := i * 4) (by omega),f0]
    · rw [hr.cell (i := i * 4 + 1) (by omega),f1]
    · rw [hr.cell (i := i * 4 + 2) (by omega),f2]
    · rw [hr.cell (i := i * 4 + 3) (by omega),f3]

end Go.Proofs.YtcnollkkigiobaaGreat
