import Derived.Test.YtcnollkkigiobaaGreatNa26
import Derived.Test.YtcnollkkigiobaaGreatNa2
import Derived.Test.YtcnollkkigiobaaGreatNa9
set_option linter.unusedVariables false
set_option maxRecDepth 100000
namespace Go.Proofs.YtcnollkkigiobaaGreat
open Go.RowKit Go.Deep

def WiT (B T:Nat) (w w' : World):Prop := w'.os = w.os /\ w'.tape = w.tape /\ w'.output = w.output /\ w.heap.size <= w'.heap.size /\ ∀ k,k < w.heap.size -> (k < B \/ T <= k) -> w'.heap[k]? = w.heap[k]?

theorem WiT.refl (B T:Nat) (w:World):WiT B T w w := ⟨rfl,rfl,rfl,Nat.le_refl _,fun _ _ _ => rfl⟩
theorem WiT.trans {B T:Nat} {a b c:World} (h:WiT B T a b) (k:WiT B T b c):WiT B T a c :=
  ⟨k.1.trans h.1,k.2.1.trans h.2.1,k.2.2.1.trans h.2.2.1,Nat.le_trans h.2.2.2.1 k.2.2.2.1,fun i hi ho => (k.2.2.2.2 i (Nat.lt_of_lt_of_le hi h.2.2.2.1) ho).trans (h.2.2.2.2 i hi ho)⟩
theorem WiT.grown {B T:Nat} {w w' : World} {r:Option Nat} (h:w.grownBy w' r) (hr:∀ b,r = some b -> B <= b /\ b < T):WiT B T w w' :=
  ⟨h.os,h.tape,h.output,h.size,fun k hk ho => h.block k hk (fun e => by have := hr k e.symm; omega)⟩
theorem WiT.below {B T:Nat} {w w' : World} (h:WiT B T w w') (hB:B <= w.heap.size):Below B w w' := ⟨h.1,h.2.1,h.2.2.1,h.2.2.2.1,fun k hk => h.2.2.2.2 k (by omega) (.inl hk)⟩

def MTn (w:World) (B g n:Nat) (N:Nat -> Tn) (KA DA:Nat -> Option Addr) (KC DC:Nat -> Nat):Prop :=
  ∃ N',OwnTn w B g n N' KA DA KC DC /\ ∀ i,(N' i).kn = (N i).kn /\ (N' i).dn = (N i).dn

section
variable {w w' : World} {B g n:Nat} {N:Nat -> Tn} {KA DA:Nat -> Option Addr} {KC DC:Nat -> Nat}

theorem MTn.cells (h:MTn w B g n N KA DA KC DC) {k:Nat} (hk:k < n):(∃ b,w.cell? ⟨g,k * 4,none⟩ = some (.bool b)) /\ w.cell? ⟨g,k * 4 + 1,none⟩ = some (.slice (KA k) (N k).kn (KC k)) /\ w.cell? ⟨g,k * 4 + 2,none⟩ = some (.slice (DA k) (N k).dn (DC k)) /\ (∃ x,w.cell? ⟨g,k * 4 + 3,none⟩ = some (.int .i64 x)) /\ w.frozen? ⟨g,k * 4,none⟩ = false /\ w.frozen? ⟨g,k * 4 + 3,none⟩ = false /\ g < w.heap.size := by
  obtain ⟨N',h,e⟩ := h
  refine ⟨⟨(N' k).lf,?_⟩,?_,?_,⟨(N' k).ct,?_⟩,h.row.frozen _,h.row.frozen _,h.row.lt⟩
  · rw [h.row.cell (i := k * 4) (by omega),tnCell_0]
  · rw [h.row.cell (i := k * 4 + 1) (by omega),tnCell_1,(e k).1]
  · rw [h.row.cell (i := k * 4 + 2) (by omega),tnCell_2,(e k).2]
  · rw [h.row.cell (i := k * 4 + 3) (by omega),tnCell_3]

theorem MTn.keysV (h:MTn w B g n N KA DA KC DC) {k:Nat} (hk:k < n):∃ X:Nat -> ByteArray,OwnV w 9 (KA k) (N k).kn (fun i => .string (X i)) := by
  obtain ⟨N',h,e⟩ := h
  have q := h.keys k hk
  rw [(e k).1] at q
  rcases q with q | ⟨b,e1,_,e2⟩
  · exact ⟨(N' k).ks,.inl q⟩
  · exact ⟨(N' k).ks,.inr ⟨b,e1,e2⟩⟩
theorem MTn.kidsV (h:MTn w B g n N KA DA KC DC) {k:Nat} (hk:k < n):∃ X:Nat -> Int,OwnV w 2 (DA k) (N k).dn (fun i => .int .i64 (X i)) := by
  obtain ⟨N',h,e⟩ := h
  have q := h.kids k hk
  rw [(e k).2] at q
  rcases q with q | ⟨b,e1,_,e2⟩
  · exact ⟨(N' k).kd,.inl q⟩
  · exact ⟨(N' k).kd,.inr ⟨b,e1,e2⟩⟩

theorem MTn.of (h:MTn w B g n N KA DA KC DC) (N1:Nat -> Tn) (hrow:rowIn w' g 168 (n * 4) (tnCell N1 KA DA KC DC)) (he:∀ i,(N1 i).kn = (N i).kn /\ (N1 i).dn = (N i).dn) (hk:∀ i,i < n -> OwnS w' B (KA i) (N1 i).kn (N1 i).ks) (hd:∀ i,i < n -> OwnI w' B (DA i) (N1 i).dn (N1 i).kd):MTn w' B g n N KA DA KC DC := by
  obtain ⟨N',h,e⟩ := h
  refine ⟨N1,⟨h.le,hrow,hk,hd,fun i j hi hj hij h1 h2 => h.apartK i j hi hj hij ?_ ?_,fun i j hi hj hij h1 h2 => h.apartD i j hi hj hij ?_ ?_⟩,he⟩
  · rw [(e i).1,<- (he i).1]; exact h1
  · rw [(e j).1,<- (he j).1]; exact h2
  · rw [(e i).2,<- (he i).2]; exact h1
  · rw [(e j).2,<- (he j).2]; exact h2

theorem MTn.flag (h:MTn w B g n N KA DA KC DC) (k:Nat) (v:Bool):MTn (w.setCell ⟨g,k * 4,none⟩ (.bool v)) B g n N KA DA KC DC := by
  obtain ⟨N',h1,e⟩ := h
  refine MTn.of ⟨N',h1,e⟩ (fun i => if i = k then { N' k with lf := v } else N' i) ((h1.row.set (k * 4) _).congr (fun c hc => ?_)) (fun i => ?_) (fun i hi => ?_) (fun i hi => ?_)
  · by_cases e1:c = k * 4
    · subst e1; rw [if_pos rfl,tnCell_0]; simp
    · rw [if_neg e1]
      unfold tnCell
      by_cases e2:c / 4 = k
      · have e3:¬ c % 4 = 0 := by omega
        simp [e2,e3]
      · simp [e2]
  · by_cases e1:i = k
    · subst e1; simpa using e i
    · simpa [e1] using e i
  · have q:OwnS w B (KA i) ((fun i => if i = k then { N' k with lf := v } else N' i) i).kn ((fun i => if i = k then { N' k with lf := v } else N' i) i).ks := by
      by_cases e1:i = k
      · subst e1; simpa using h1.keys i hi
      · simpa [e1] using h1.keys i hi
    rcases q with q | ⟨b,q1,q2,q3⟩
    · exact .inl q
    · exact .inr ⟨b,q1,q2,q3.of_block (Below.heap_setCell _ _ _ _ (q3.ne h1.row (by decide)))⟩
  · have q:OwnI w B (DA i) ((fun i => if i = k then { N' k with lf := v } else N' i) i).dn ((fun i => if i = k then { N' k with lf := v } else N' i) i).kd := by
      by_cases e1:i = k
      · subst e1; simpa using h1.kids i hi
      · simpa [e1] using h1.kids i hi
    rcases q with q | ⟨b,q1,q2,q3⟩
    · exact .inl q
    · exact .inr ⟨b,q1,q2,q3.of_block (Below.heap_setCell _ _ _ _ (q3.ne h1.row (by decide)))⟩

theorem MTn.count (h:MTn w B g n N KA DA KC DC) (k:Nat) (v:Int):MTn (w.setCell ⟨g,k * 4 + 3,none⟩ (.int .i64 v)) B g n N KA DA KC DC := by
  obtain ⟨N',h1,e⟩ := h
  refine MTn.of ⟨N',h1,e⟩ (fun i => if i = k then { N' k with ct := v } else N' i) ((h1.row.set (k * 4 + 3) _).congr (fun c hc => ?_)) (fun i => ?_) (fun i hi => ?_) (fun i hi => ?_)
  · by_cases e1:c = k * 4 + 3
    · subst e1; rw [if_pos rfl,tnCell_3]; simp
    · rw [if_neg e1]
      unfold tnCell
      by_cases e2:c / 4 = k
      · have e3:c % 4 = 0 \/ c % 4 = 1 \/ c % 4 = 2 := by omega
        rcases e3 with e3 | e3 | e3 <;> simp [e2,e3]
      · simp [e2]
  · by_cases e1:i = k
    · subst e1; simpa using e i
    · simpa [e1] using e i
  · have q:OwnS w B (KA i) ((fun i => if i = k then { N' k with ct := v } else N' i) i).kn ((fun i => if i = k then { N' k with ct := v } else N' i) i).ks := by
      by_cases e1:i = k
      · subst e1; simpa using h1.keys i hi
      · simpa [e1] using h1.keys i hi
    rcases q with q | ⟨b,q1,q2,q3⟩
    · exact .inl q
    · exact .inr ⟨b,q1,q2,q3.of_block (Below.heap_setCell _ _ _ _ (q3.ne h1.row (by decide)))⟩
  · have q:OwnI w B (DA i) ((fun i => if i = k then { N' k with ct := v } else N' i) i).dn ((fun i => if i = k then { N' k with ct := v } else N' i) i).kd := by
      by_cases e1:i = k
      · subst e1; simpa using h1.kids i hi
      · simpa [e1] using h1.kids i hi
    rcases q with q | ⟨b,q1,q2,q3⟩
    · exact .inl q
    · exact .inr ⟨b,q1,q2,q3.of_block (Below.heap_setCell _ _ _ _ (q3.ne h1.row (by decide)))⟩

theorem MTn.setKeys (h:MTn w B g n N KA DA KC DC) {k:Nat} (hk:k < n) (X:Nat -> ByteArray) (hg:w.grownBy w' ((KA k).map (·.block))) (hz:(N k).kn = 0 -> w' = w) (ho:OwnV w' 9 (KA k) (N k).kn (fun i => .string (X i))):MTn w' B g n N KA DA KC DC := by
  by_cases hl:(N k).kn = 0
  · rw [hz hl]; exact h
  obtain ⟨N',h1,e⟩ := h
  have hl' : (N' k).kn ≠ 0 := by rw [(e k).1]; exact hl
  obtain ⟨gk,hA,hgB,hrk⟩ := (h1.keys k hk).resolve_left hl'
  rw [hA] at hg
  have hblk:∀ i,i < w.heap.size -> i ≠ gk -> w'.heap[i]? = w.heap[i]? := fun i hi hne => hg.block i hi (fun q => by injection q with q; exact hne q)
  refine MTn.of ⟨N',h1,e⟩ (fun i => if i = k then { N' k with ks := X } else N' i) ((h1.row.of_block (hblk g h1.row.lt (fun q => (hrk.ne h1.row (by decide)) q.symm))).congr (fun c hc => ?_)) (fun i => ?_) (fun i hi => ?_) (fun i hi => ?_)
  · unfold tnCell
    by_cases e2:c / 4 = k
    · simp [e2]
    · simp [e2]
  · by_cases e1:i = k
    · subst e1; simpa using e i
    · simpa [e1] using e i
  · by_cases e1:i = k
    · subst e1
      obtain ⟨g2,hA2,hr2⟩ := ho.resolve_left hl
      rw [hA] at hA2
      injection hA2 with hA2
      injection hA2 with hA2
      subst hA2
      simp only [if_true]
      rw [<- (e i).1] at hr2
      exact .inr ⟨gk,hA,hgB,hr2⟩
    · simp only [if_neg e1]
      by_cases h0:(N' i).kn = 0
      · exact .inl h0
      · obtain ⟨gi,hAi,hgi,hri⟩ := (h1.keys i hi).resolve_left h0
        refine .inr ⟨gi,hAi,hgi,hri.of_block (hblk gi hri.lt (fun q => ?_))⟩
        subst q
        exact h1.apartK i k hi hk e1 h0 hl' (by rw [hA,hAi])
  · have q:OwnI w B (DA i) ((fun i => if i = k then { N' k with ks := X } else N' i) i).dn ((fun i => if i = k then { N' k with ks := X } else N' i) i).kd := by
      by_cases e1:i = k
      · subst e1; simpa using h1.kids i hi
      · simpa [e1] using h1.kids i hi
    rcases q with q | ⟨b,q1,q2,q3⟩
    · exact .inl q
    · exact .inr ⟨b,q1,q2,q3.of_block (hblk b q3.lt (q3.ne hrk (by decide)))⟩

theorem MTn.setKids (h:MTn w B g n N KA DA KC DC) {k:Nat} (hk:k < n) (X:Nat -> Int) (hg:w.grownBy w' ((DA k).map (·.block))) (hz:(N k).dn = 0 -> w' = w) (ho:OwnV w' 2 (DA k) (N k).dn (fun i => .int .i64 (X i))):MTn w' B g n N KA DA KC DC := by
  by_cases hl:(N k).dn = 0
  · rw [hz hl]; exact h
  obtain ⟨N',h1,e⟩ := h
  have hl' : (N' k).dn ≠ 0 := by rw [(e k).2]; exact hl
  obtain ⟨gk,hA,hgB,hrk⟩ := (h1.kids k hk).resolve_left hl'
  rw [hA] at hg
  have hblk:∀ i,i < w.heap.size -> i ≠ gk -> w'.heap[i]? = w.heap[i]? := fun i hi hne => hg.block i hi (fun q => by injection q with q; exact hne q)
  refine MTn.of ⟨N',h1,e⟩ (fun i => if i = k then { N' k with kd := X } else N' i) ((h1.row.of_block (hblk g h1.row.lt (fun q => (hrk.ne h1.row (by decide)) q.symm))).congr (fun c hc => ?_)) (fun i => ?_) (fun i hi => ?_) (fun i hi => ?_)
  · unfold tnCell
    by_cases e2:c / 4 = k
    · simp [e2]
    · simp [e2]
  · by_cases e1:i = k
    · subst e1; simpa using e i
    · simpa [e1] using e i
  · have q:OwnS w B (KA i) ((fun i => if i = k then { N' k with kd := X } else N' i) i).kn ((fun i => if i = k then { N' k with kd := X } else N' i) i).ks := by
      by_cases e1:i = k
      · subst e1; simpa using h1.keys i hi
      · simpa [e1] using h1.keys i hi
    rcases q with q | ⟨b,q1,q2,q3⟩
    · exact .inl q
    · exact .inr ⟨b,q1,q2,q3.of_block (hblk b q3.lt (q3.ne hrk (by decide)))⟩
  · by_cases e1:i = k
    · subst e1
      obtain ⟨g2,hA2,hr2⟩ := ho.resolve_left hl
      rw [hA] at hA2
      injection hA2 with hA2
      injection hA2 with hA2
      subst hA2
      simp only [if_true]
      rw [<- (e i).2] at hr2
      exact .inr ⟨gk,hA,hgB,hr2⟩
    · simp only [if_neg e1]
      by_cases h0:(N' i).dn = 0
      · exact .inl h0
      · obtain ⟨gi,hAi,hgi,hri⟩ := (h1.kids i hi).resolve_left h0
        refine .inr ⟨gi,hAi,hgi,hri.of_block (hblk gi hri.lt (fun q => ?_))⟩
        subst q
        exact h1.apartD i k hi hk e1 h0 hl' (by rw [hA,hAi])

def TnB (T g n:Nat) (N:Nat -> Tn) (KA DA:Nat -> Option Addr) (B:Nat):Prop :=
  B <= g /\ g < T /\ (∀ i,i < n -> (N i).kn ≠ 0 -> ∀ b,(KA i).map (·.block) = some b -> B <= b /\ b < T) /\ (∀ i,i < n -> (N i).dn ≠ 0 -> ∀ b,(DA i).map (·.block) = some b -> B <= b /\ b < T)

theorem OwnTn.bound (h:OwnTn w B g n N KA DA KC DC):TnB w.heap.size g n N KA DA B := by
  refine ⟨h.le,h.row.lt,fun i hi h0 b hb => ?_,fun i hi h0 b hb => ?_⟩
  · obtain ⟨gi,hA,hgi,hri⟩ := (h.keys i hi).resolve_left h0
    rw [hA] at hb
    injection hb with hb
    subst hb
    exact ⟨hgi,hri.lt⟩
  · obtain ⟨gi,hA,hgi,hri⟩ := (h.kids i hi).resolve_left h0
    rw [hA] at hb
    injection hb with hb
    subst hb
    exact ⟨hgi,hri.lt⟩
end

theorem sumT_le (N:Nat -> Tn):∀ (m j:Nat),j <= m -> sumT N j <= sumT N m
  | 0,j,h => by
    have:j = 0 := by omega
    subst this
    exact Nat.le_refl _
  | m + 1,j,h => by
    by_cases e:j = m + 1
    · subst e; exact Nat.le_refl _
    · have := sumT_le N m j (by omega)
      have e2:sumT N (m + 1) = sumT N m + (N m).kn + (N m).dn := rfl
      omega

theorem markStrsI (x:Int) (a:Option Addr) (n c k:Nat) (hx:x = (k:Int)) (X:Nat -> ByteArray) (w:World) (h:OwnV w 9 a n (fun i => .string (X i))) (hk:1 <= k) (hk2:k + n <= 1073741824) :
    Calls Tryz.prog 112 #[.slice a n c,.int .i64 x] w fun e w' => e = .returned (.int .i64 ((k + n:Nat):Int)) /\ w.grownBy w' (a.map (·.block)) /\ (n = 0 -> w' = w) /\ OwnV w' 9 a n (fun i => .string (mkT (k + i))) := by
  subst hx; exact markStrs_any a n c k X w h hk hk2
theorem markIntsI (x:Int) (a:Option Addr) (n c k:Nat) (hx:x = (k:Int)) (X:Nat -> Int) (w:World) (h:OwnV w 2 a n (fun i => .int .i64 (X i))) (hk:1 <= k) (hk2:k + n <= 1073741824) :
    Calls Tryz.prog 113 #[.slice a n c,.int .i64 x] w fun e w' => e = .returned (.int .i64 ((k + n:Nat):Int)) /\ w.grownBy w' (a.map (·.block)) /\ (n = 0 -> w' = w) /\ ∃ X' : Nat -> Int,OwnV w' 2 a n (fun i => .int .i64 (X' i)) := by
  subst hx; exact markInts_any a n c k X w h hk hk2

set_option maxHeartbeats 4000000 in
theorem markTNodeS_any (B T g n c k:Nat) (N:Nat -> Tn) (KA DA:Nat -> Option Addr) (KC DC:Nat -> Nat) (w:World) (h:MTn w B g n N KA DA KC DC) (hT:TnB T g n N KA DA B) (hk:1 <= k) (hk2:k + 2 * n + sumT N n <= 1073741824) :
    Calls Tryz.prog 75 #[.slice (some ⟨g,0,none⟩) n c,.int .i64 (k:Int)] w fun e w' => ∃ p:Nat,e = .returned (.int .i64 (p:Int)) /\ WiT B T w w' /\ p = k + 2 * n + sumT N n := by
  have HR:Hid (MTn w B g n N KA DA KC DC) := h
  have HT:Hid (TnB T g n N KA DA B) := hT
  clear h hT
  go_enter Tryz.func75,Tryz.ntmps75
  go_wp2
  go_loopw [1,5] (fun q i wr => ∃ j p:Nat,j <= n /\ i = .int .i64 j /\ q = .int .i64 p /\ p = k + 2 * j + sumT N j /\ MTn wr B g n N KA DA KC DC /\ WiT B T w wr) (fun _ i _ => n - (intOf i).toNat)
  case atStart => exact ⟨0,k,Nat.zero_le _,rfl,rfl,rfl,HR.out,WiT.refl _ _ _⟩
  case round =>
    obtain ⟨j,p,hj,rfl,rfl,hp,hm,hw⟩ := hrel
    by_cases hlt:j < n
    · have hsum:sumT N (j + 1) = sumT N j + (N j).kn + (N j).dn := rfl
      have hsl := sumT_le N n (j + 1) (by omega)
      have hp1:1 <= p := by omega
      have hjb:j < 1073741824 := by omega
      obtain ⟨kn,hkn⟩:∃ x,x = (N j).kn := ⟨_,rfl⟩
      obtain ⟨dn,hdn⟩:∃ x,x = (N j).dn := ⟨_,rfl⟩
      have hp2:p + 2 + kn + dn <= 1073741824 := by omega
      have HP:Hid (p + 2 + kn + dn = k + 2 * (j + 1) + sumT N (j + 1)) := by
        show p + 2 + kn + dn = k + 2 * (j + 1) + sumT N (j + 1)
        omega
      have HM:Hid (MTn wr B g n N KA DA KC DC /\ WiT B T w wr) := ⟨hm,hw⟩
      have HK:Hid (kn = (N j).kn /\ dn = (N j).dn) := ⟨hkn,hdn⟩
      obtain ⟨⟨b0,c0⟩,c1,c2,⟨x3,c3⟩,f0,f3,lg⟩ := hm.cells hlt
      rw [<- hkn] at c1
      rw [<- hdn] at c2
      have i0:(0:Int) <= (j:Int) := by omega
      have i1:(j:Int) < (n:Int) := by omega
      have HW1:Hid (∀ v,MTn (wr.setCell ⟨g,j * 4,none⟩ (.bool v)) B g n N KA DA KC DC /\ WiT B T w (wr.setCell ⟨g,j * 4,none⟩ (.bool v))) := fun v => ⟨HM.out.1.flag j v,HM.out.2.trans (WiT.grown (grown_set _ _ _ _) (fun b e => by injection e with e; subst e; exact ⟨HT.out.1,HT.out.2.1⟩))⟩
      clear hsum hsl hp hm hw hkn hdn hk2
      go_wp2_with fail
      obtain ⟨X1,hX1⟩ := (HW1.out _).1.keysV hlt
      refine (markStrsI _ (KA j) kn (KC j) (p + 1) (by go_num) X1 _ (by rw [HK.out.1]; exact hX1) (by omega) (by omega)).mono ?_
      rintro e w1 ⟨rfl,hg1,hz1,ho1⟩
      have hK0 := HK.out
      have HW2:Hid (MTn w1 B g n N KA DA KC DC /\ WiT B T w w1) := by
        have q1 := (HW1.out _).1.setKeys hlt _ hg1 (fun e => hz1 (by rw [hK0.1]; exact e)) (by rw [<- hK0.1]; exact ho1)
        refine ⟨q1,(HW1.out ((p:Int) % 3 == 0)).2.trans ?_⟩
        by_cases h0:kn = 0
        · rw [hz1 h0]; exact WiT.refl _ _ _
        · exact WiT.grown hg1 (HT.out.2.2.1 j hlt (by rw [<- hK0.1]; exact h0))
      clear hg1 hz1 ho1 hX1 X1 HW1 c0 c1 c2 c3 f0 f3 lg hK0
      obtain ⟨⟨b0',c0⟩,c1,c2,⟨x3',c3⟩,f0,f3,lg⟩ := HW2.out.1.cells hlt
      rw [<- HK.out.1] at c1
      rw [<- HK.out.2] at c2
      go_wp2_with fail
      obtain ⟨X2,hX2⟩ := HW2.out.1.kidsV hlt
      refine (markIntsI _ (DA j) dn (DC j) (p + 1 + kn) (by go_num) X2 _ (by rw [HK.out.2]; exact hX2) (by omega) (by omega)).mono ?_
      rintro e w2 ⟨rfl,hg2,hz2,X3,ho2⟩
      have hK0 := HK.out
      have HW3:Hid (MTn w2 B g n N KA DA KC DC /\ WiT B T w w2) := by
        have q1 := HW2.out.1.setKids hlt X3 hg2 (fun e => hz2 (by rw [hK0.2]; exact e)) (by rw [<- hK0.2]; exact ho2)
        refine ⟨q1,HW2.out.2.trans ?_⟩
        by_cases h0:dn = 0
        · rw [hz2 h0]; exact WiT.refl _ _ _
        · exact WiT.grown hg2 (HT.out.2.2.2 j hlt (by rw [<- hK0.2]; exact h0))
      clear hg2 hz2 ho2 hX2 X2 X3 HW2 c0 c1 c2 c3 f0 f3 lg hK0
      obtain ⟨⟨b0'',c0⟩,c1,c2,⟨x3'',c3⟩,f0,f3,lg⟩ := HW3.out.1.cells hlt
      have HW4:Hid (∀ v,MTn (w2.setCell ⟨g,j * 4 + 3,none⟩ (.int .i64 v)) B g n N KA DA KC DC /\ WiT B T w (w2.setCell ⟨g,j * 4 + 3,none⟩ (.int .i64 v))) := fun v => ⟨HW3.out.1.count j v,HW3.out.2.trans (WiT.grown (grown_set _ _ _ _) (fun b e => by injection e with e; subst e; exact ⟨HT.out.1,HT.out.2.1⟩))⟩
      clear HW3 c0 c1 c2
      go_wp2
      go_roundw
      case rel => exact ⟨j + 1,p + 2 + kn + dn,by omega,by go_num,by go_num,HP.out,HW4.out _⟩
      case measure => simp [intOf]; omega
    · have e:j = n := by omega
      subst e
      have HM:Hid (WiT B T w wr /\ p = k + 2 * j + sumT N j) := ⟨hw,hp⟩
      clear hm hw hp
      go_wp2
      go_ret
      exact ⟨p,rfl,HM.out⟩


set_option maxHeartbeats 2000000 in
theorem markInts_eq (a:Option Addr) (n c k:Nat) (X:Nat -> Int) (w:World) (h:OwnV w 2 a n (fun i => .int .i64 (X i))) (hk:1 <= k) (hk2:k + n <= 1073741824) :
    Calls Tryz.prog 113 #[.slice a n c,.int .i64 (k:Int)] w fun e w' => e = .returned (.int .i64 ((k + n:Nat):Int)) /\ w.grownBy w' (a.map (·.block)) /\ (n = 0 -> w' = w) /\ OwnV w' 2 a n (fun i => .int .i64 ((k + i:Nat):Int)) := by
  by_cases hn0:n = 0
  · subst hn0
    go_enter Tryz.func113,Tryz.ntmps113
    go_wp2
    go_loopw [1,5] (fun q i wr => q = .int .i64 (k:Int) /\ i = .int .i64 0 /\ wr = w) (fun _ i _ => 1 - (intOf i).toNat)
    case atStart => exact ⟨rfl,rfl,rfl⟩
    case round =>
      obtain ⟨rfl,rfl,rfl⟩ := hrel
      go_wp2
      go_ret
      exact ⟨by simp,grown_refl _ _,fun _ => rfl,.inl rfl⟩
  · obtain ⟨g,rfl,hrow⟩ := h.resolve_left hn0
    have HR:Hid (rowIn w g 2 n (fun i => .int .i64 (X i))) := hrow
    clear hrow h
    have HN0:Hid (¬ n = 0) := hn0
    clear hn0
    go_enter Tryz.func113,Tryz.ntmps113
    go_wp2
    go_loopw [1,5] (fun q i wr => ∃ (j p:Nat),j <= n /\ i = .int .i64 j /\ q = .int .i64 p /\ p = k + j /\ w.grownBy wr (some g) /\ rowIn wr g 2 n (fun i => .int .i64 (if i < j then ((k + i:Nat):Int) else X i))) (fun _ i _ => n - (intOf i).toNat)
    case atStart => exact ⟨0,k,Nat.zero_le _,rfl,rfl,rfl,grown_refl _ _,HR.out.congr (fun i _ => by simp)⟩
    case round =>
      obtain ⟨j,p,hj,rfl,rfl,hp,hgr,hrow⟩ := hrel
      have HS:Hid (p = k + j /\ w.grownBy wr (some g) /\ rowIn wr g 2 n (fun i => .int .i64 (if i < j then ((k + i:Nat):Int) else X i))) := ⟨hp,hgr,hrow⟩
      by_cases hlt:j < n
      · have hpb:1 <= p /\ p <= 1073741824 := by omega
        have i0:(0:Int) <= (j:Int) := by omega
        have i1:(j:Int) < (n:Int) := by omega
        have c1 := hrow.cell hlt
        have f1 := hrow.frozen j
        have l1 := hrow.lt
        have HX:Hid (w.grownBy (wr.setCell ⟨g,j,none⟩ (.int .i64 (p:Int))) (some g) /\ rowIn (wr.setCell ⟨g,j,none⟩ (.int .i64 (p:Int))) g 2 n (fun i => .int .i64 (if i < j + 1 then ((k + i:Nat):Int) else X i))) := by
          refine ⟨grown_trans HS.out.2.1 (grown_set _ _ _ _),(hrow.set j _).congr (fun i hi => ?_)⟩
          by_cases e:i = j
          · subst e; simp [HS.out.1]
          · by_cases e2:i < j
            · have:i < j + 1 := by omega
              simp [e,e2,this]
            · have:¬ i < j + 1 := by omega
              simp [e,e2,this]
        have HP:Hid (p + 1 = k + (j + 1)) := by
          show p + 1 = k + (j + 1)
          have := HS.out.1
          omega
        clear hp hgr hrow HR HS
        go_wp2
        go_roundw
        case rel => exact ⟨j + 1,p + 1,by omega,by go_num,by go_num,HP.out,HX.out⟩
        case measure => simp [intOf]; omega
      · have e:j = n := by omega
        subst e
        clear hp hgr hrow
        go_wp2
        go_ret
        exact ⟨by rw [HS.out.1]; rfl,HS.out.2.1,fun h => absurd h HN0.out,.inr ⟨g,rfl,HS.out.2.2.congr (fun i hi => by simp [hi])⟩⟩


set_option maxHeartbeats 2000000 in
theorem heldInts_any (x:Int) (a:Option Addr) (n c k:Nat) (hx:x = (k:Int)) (w:World) (h:Rd .i64 w a n (fun i => ((k + i:Nat):Int))) (hk2:k + n <= 1073741824) :
    Calls Tryz.prog 139 #[.slice a n c,.int .i64 x] w fun e w' => e = .returned (.int .i64 ((k + n:Nat):Int)) /\ Below w.heap.size w w' := by
  subst hx
  have HR:Hid (Rd .i64 w a n (fun i => ((k + i:Nat):Int))) := h
  clear h
  go_enter Tryz.func139,Tryz.ntmps139
  go_wp2
  go_loopw [1,5] (fun q i wr => ∃ j p:Nat,j <= n /\ i = .int .i64 j /\ q = .int .i64 p /\ p = k + j /\ Below w.heap.size w wr) (fun _ i _ => n - (intOf i).toNat)
  case atStart => exact ⟨0,k,Nat.zero_le _,rfl,rfl,rfl,Below.refl _ _⟩
  case round =>
    obtain ⟨j,p,hj,rfl,rfl,hp,hbel⟩ := hrel
    have HS:Hid (p = k + j /\ Below w.heap.size w wr) := ⟨hp,hbel⟩
    have hpb:p <= 1073741824 := by omega
    by_cases hlt:j < n
    · rcases HR.out.below hbel with q | ⟨b,o,rfl,hc⟩
      · omega
      have s1:wr.cell? ⟨b,o + j,none⟩ = some (.int .i64 (p:Int)) := by rw [hp]; exact hc j hlt
      have i0:(0:Int) <= (j:Int) := by omega
      have i1:(j:Int) < (n:Int) := by omega
      have HP:Hid (p + 1 = k + (j + 1)) := by
        show p + 1 = k + (j + 1)
        omega
      have hq:((p:Int) != (p:Int)) = false := by simp
      clear hc hp hbel
      go_wp2
      go_roundw
      case rel => exact ⟨j + 1,p + 1,by omega,by go_num,by go_num,HP.out,HS.out.2⟩
      case measure => simp [intOf]; omega
    · have e:j = n := by omega
      subst e
      clear hp hbel
      go_wp2
      go_ret
      exact ⟨by rw [HS.out.1]; rfl,HS.out.2⟩

theorem markIntsE (x:Int) (a:Option Addr) (n c k:Nat) (hx:x = (k:Int)) (X:Nat -> Int) (w:World) (h:OwnV w 2 a n (fun i => .int .i64 (X i))) (hk:1 <= k) (hk2:k + n <= 1073741824) :
    Calls Tryz.prog 113 #[.slice a n c,.int .i64 x] w fun e w' => e = .returned (.int .i64 ((k + n:Nat):Int)) /\ w.grownBy w' (a.map (·.block)) /\ (n = 0 -> w' = w) /\ OwnV w' 2 a n (fun i => .int .i64 ((k + i:Nat):Int)) := by
  subst hx; exact markInts_eq a n c k X w h hk hk2
theorem heldStrsI (x:Int) (a:Option Addr) (n c k:Nat) (hx:x = (k:Int)) (w:World) (h:RdS w a n (fun i => mkT (k + i))) (hk:1 <= k) (hk2:k + n <= 1073741824) :
    Calls Tryz.prog 138 #[.slice a n c,.int .i64 x] w fun e w' => e = .returned (.int .i64 ((k + n:Nat):Int)) /\ Below w.heap.size w w' := by
  subst hx; exact heldStrs_any a n c k w h hk hk2

section
variable {w w' : World} {B g n:Nat} {N:Nat -> Tn} {KA DA:Nat -> Option Addr} {KC DC:Nat -> Nat}
theorem OwnTn.of (h:OwnTn w B g n N KA DA KC DC) (N1:Nat -> Tn) (hrow:rowIn w' g 168 (n * 4) (tnCell N1 KA DA KC DC)) (he:∀ i,(N1 i).kn = (N i).kn /\ (N1 i).dn = (N i).dn) (hk:∀ i,i < n -> OwnS w' B (KA i) (N1 i).kn (N1 i).ks) (hd:∀ i,i < n -> OwnI w' B (DA i) (N1 i).dn (N1 i).kd):OwnTn w' B g n N1 KA DA KC DC := by
  refine ⟨h.le,hrow,hk,hd,fun i j hi hj hij h1 h2 => h.apartK i j hi hj hij ?_ ?_,fun i j hi hj hij h1 h2 => h.apartD i j hi hj hij ?_ ?_⟩
  · rw [<- (he i).1]; exact h1
  · rw [<- (he j).1]; exact h2
  · rw [<- (he i).2]; exact h1
  · rw [<- (he j).2]; exact h2

theorem OwnTn.flag (h1:OwnTn w B g n N KA DA KC DC) (k:Nat) (v:Bool):OwnTn (w.setCell ⟨g,k * 4,none⟩ (.bool v)) B g n (fun i => if i = k then { N k with lf := v } else N i) KA DA KC DC := by
  refine OwnTn.of h1 (fun i => if i = k then { N k with lf := v } else N i) ((h1.row.set (k * 4) _).congr (fun c hc => ?_)) (fun i => ?_) (fun i hi => ?_) (fun i hi => ?_)
  · by_cases e1:c = k * 4
    · subst e1; rw [if_pos rfl,tnCell_0]; simp
    · rw [if_neg e1]
      unfold tnCell
      by_cases e2:c / 4 = k
      · have e3:¬ c % 4 = 0 := by omega
        simp [e2,e3]
      · simp [e2]
  · by_cases e1:i = k
    · subst e1; simp
    · simp [e1]
  · have q:OwnS w B (KA i) ((fun i => if i = k then { N k with lf := v } else N i) i).kn ((fun i => if i = k then { N k with lf := v } else N i) i).ks := by
      by_cases e1:i = k
      · subst e1; simpa using h1.keys i hi
      · simpa [e1] using h1.keys i hi
    rcases q with q | ⟨b,q1,q2,q3⟩
    · exact .inl q
    · exact .inr ⟨b,q1,q2,q3.of_block (Below.heap_setCell _ _ _ _ (q3.ne h1.row (by decide)))⟩
  · have q:OwnI w B (DA i) ((fun i => if i = k then { N k with lf := v } else N i) i).dn ((fun i => if i = k then { N k with lf := v } else N i) i).kd := by
      by_cases e1:i = k
      · subst e1; simpa using h1.kids i hi
      · simpa [e1] using h1.kids i hi
    rcases q with q | ⟨b,q1,q2,q3⟩
    · exact .inl q
    · exact .inr ⟨b,q1,q2,q3.of_block (Below.heap_setCell _ _ _ _ (q3.ne h1.row (by decide)))⟩

theorem OwnTn.count (h1:OwnTn w B g n N KA DA KC DC) (k:Nat) (v:Int):OwnTn (w.setCell ⟨g,k * 4 + 3,none⟩ (.int .i64 v)) B g n (fun i => if i = k then { N k with ct := v } else N i) KA DA KC DC := by
  refine OwnTn.of h1 (fun i => if i = k then { N k with ct := v } else N i) ((h1.row.set (k * 4 + 3) _).congr (fun c hc => ?_)) (fun i => ?_) (fun i hi => ?_) (fun i hi => ?_)
  · by_cases e1:c = k * 4 + 3
    · subst e1; rw [if_pos rfl,tnCell_3]; simp
    · rw [if_neg e1]
      unfold tnCell
      by_cases e2:c / 4 = k
      · have e3:c % 4 = 0 \/ c % 4 = 1 \/ c % 4 = 2 := by omega
        rcases e3 with e3 | e3 | e3 <;> simp [e2,e3]
      · simp [e2]
  · by_cases e1:i = k
    · subst e1; simp
    · simp [e1]
  · have q:OwnS w B (KA i) ((fun i => if i = k then { N k with ct := v } else N i) i).kn ((fun i => if i = k then { N k with ct := v } else N i) i).ks := by
      by_cases e1:i = k
      · subst e1; simpa using h1.keys i hi
      · simpa [e1] using h1.keys i hi
    rcases q with q | ⟨b,q1,q2,q3⟩
    · exact .inl q
    · exact .inr ⟨b,q1,q2,q3.of_block (Below.heap_setCell _ _ _ _ (q3.ne h1.row (by decide)))⟩
  · have q:OwnI w B (DA i) ((fun i => if i = k then { N k with ct := v } else N i) i).dn ((fun i => if i = k then { N k with ct := v } else N i) i).kd := by
      by_cases e1:i = k
      · subst e1; simpa using h1.kids i hi
      · simpa [e1] using h1.kids i hi
    rcases q with q | ⟨b,q1,q2,q3⟩
    · exact .inl q
    · exact .inr ⟨b,q1,q2,q3.of_block (Below.heap_setCell _ _ _ _ (q3.ne h1.row (by decide)))⟩

theorem OwnTn.setKeys (h1:OwnTn w B g n N KA DA KC DC) {k:Nat} (hk:k < n) (X:Nat -> ByteArray) (hg:w.grownBy w' ((KA k).map (·.block))) (hz:(N k).kn = 0 -> w' = w) (ho:OwnV w' 9 (KA k) (N k).kn (fun i => .string (X i))):OwnTn w' B g n (fun i => if i = k then { N k with ks := X } else N i) KA DA KC DC := by
  by_cases hl:(N k).kn = 0
  · rw [hz hl]
    refine OwnTn.of h1 _ (h1.row.congr (fun c hc => ?_)) (fun i => ?_) (fun i hi => ?_) (fun i hi => ?_)
    · unfold tnCell
      by_cases e2:c / 4 = k
      · simp [e2]
      · simp [e2]
    · by_cases e1:i = k
      · subst e1; simp
      · simp [e1]
    · by_cases e1:i = k
      · subst e1; first | exact .inl (by simpa using hl) | simpa using h1.keys i hi
      · simpa [e1] using h1.keys i hi
    · by_cases e1:i = k
      · subst e1; first | exact .inl (by simpa using hl) | simpa using h1.kids i hi
      · simpa [e1] using h1.kids i hi
  have hl' : (N k).kn ≠ 0 := hl
  obtain ⟨gk,hA,hgB,hrk⟩ := (h1.keys k hk).resolve_left hl'
  rw [hA] at hg
  have hblk:∀ i,i < w.heap.size -> i ≠ gk -> w'.heap[i]? = w.heap[i]? := fun i hi hne => hg.block i hi (fun q => by injection q with q; exact hne q)
  refine OwnTn.of h1 (fun i => if i = k then { N k with ks := X } else N i) ((h1.row.of_block (hblk g h1.row.lt (fun q => (hrk.ne h1.row (by decide)) q.symm))).congr (fun c hc => ?_)) (fun i => ?_) (fun i hi => ?_) (fun i hi => ?_)
  · unfold tnCell
    by_cases e2:c / 4 = k
    · simp [e2]
    · simp [e2]
  · by_cases e1:i = k
    · subst e1; simp
    · simp [e1]
  · by_cases e1:i = k
    · subst e1
      obtain ⟨g2,hA2,hr2⟩ := ho.resolve_left hl
      rw [hA] at hA2
      injection hA2 with hA2
      injection hA2 with hA2
      subst hA2
      simp only [if_true]
      exact .inr ⟨gk,hA,hgB,hr2⟩
    · simp only [if_neg e1]
      by_cases h0:(N i).kn = 0
      · exact .inl h0
      · obtain ⟨gi,hAi,hgi,hri⟩ := (h1.keys i hi).resolve_left h0
        refine .inr ⟨gi,hAi,hgi,hri.of_block (hblk gi hri.lt (fun q => ?_))⟩
        subst q
        exact h1.apartK i k hi hk e1 h0 hl' (by rw [hA,hAi])
  · have q:OwnI w B (DA i) ((fun i => if i = k then { N k with ks := X } else N i) i).dn ((fun i => if i = k then { N k with ks := X } else N i) i).kd := by
      by_cases e1:i = k
      · subst e1; simpa using h1.kids i hi
      · simpa [e1] using h1.kids i hi
    rcases q with q | ⟨b,q1,q2,q3⟩
    · exact .inl q
    · exact .inr ⟨b,q1,q2,q3.of_block (hblk b q3.lt (q3.ne hrk (by decide)))⟩

theorem OwnTn.setKids (h1:OwnTn w B g n N KA DA KC DC) {k:Nat} (hk:k < n) (X:Nat -> Int) (hg:w.grownBy w' ((DA k).map (·.block))) (hz:(N k).dn = 0 -> w' = w) (ho:OwnV w' 2 (DA k) (N k).dn (fun i => .int .i64 (X i))):OwnTn w' B g n (fun i => if i = k then { N k with kd := X } else N i) KA DA KC DC := by
  by_cases hl:(N k).dn = 0
  · rw [hz hl]
    refine OwnTn.of h1 _ (h1.row.congr (fun c hc => ?_)) (fun i => ?_) (fun i hi => ?_) (fun i hi => ?_)
    · unfold tnCell
      by_cases e2:c / 4 = k
      · simp [e2]
      · simp [e2]
    · by_cases e1:i = k
      · subst e1; simp
      · simp [e1]
    · by_cases e1:i = k
      · subst e1; first | exact .inl (by simpa using hl) | simpa using h1.keys i hi
      · simpa [e1] using h1.keys i hi
    · by_cases e1:i = k
      · subst e1; first | exact .inl (by simpa using hl) | simpa using h1.kids i hi
      · simpa [e1] using h1.kids i hi
  have hl' : (N k).dn ≠ 0 := hl
  obtain ⟨gk,hA,hgB,hrk⟩ := (h1.kids k hk).resolve_left hl'
  rw [hA] at hg
  have hblk:∀ i,i < w.heap.size -> i ≠ gk -> w'.heap[i]? = w.heap[i]? := fun i hi hne => hg.block i hi (fun q => by injection q with q; exact hne q)
  refine OwnTn.of h1 (fun i => if i = k then { N k with kd := X } else N i) ((h1.row.of_block (hblk g h1.row.lt (fun q => (hrk.ne h1.row (by decide)) q.symm))).congr (fun c hc => ?_)) (fun i => ?_) (fun i hi => ?_) (fun i hi => ?_)
  · unfold tnCell
    by_cases e2:c / 4 = k
    · simp [e2]
    · simp [e2]
  · by_cases e1:i = k
    · subst e1; simp
    · simp [e1]
  · have q:OwnS w B (KA i) ((fun i => if i = k then { N k with kd := X } else N i) i).kn ((fun i => if i = k then { N k with kd := X } else N i) i).ks := by
      by_cases e1:i = k
      · subst e1; simpa using h1.keys i hi
      · simpa [e1] using h1.keys i hi
    rcases q with q | ⟨b,q1,q2,q3⟩
    · exact .inl q
    · exact .inr ⟨b,q1,q2,q3.of_block (hblk b q3.lt (q3.ne hrk (by decide)))⟩
  · by_cases e1:i = k
    · subst e1
      obtain ⟨g2,hA2,hr2⟩ := ho.resolve_left hl
      rw [hA] at hA2
      injection hA2 with hA2
      injection hA2 with hA2
      subst hA2
      simp only [if_true]
      exact .inr ⟨gk,hA,hgB,hr2⟩
    · simp only [if_neg e1]
      by_cases h0:(N i).dn = 0
      · exact .inl h0
      · obtain ⟨gi,hAi,hgi,hri⟩ := (h1.kids i hi).resolve_left h0
        refine .inr ⟨gi,hAi,hgi,hri.of_block (hblk gi hri.lt (fun q => ?_))⟩
        subst q
        exact h1.apartD i k hi hk e1 h0 hl' (by rw [hA,hAi])

end

def koT (k:Nat) (N:Nat -> Tn) (i:Nat):Nat := k + 2 * i + sumT N i
def mkN (k:Nat) (N:Nat -> Tn) (i:Nat):Tn :=
  { lf := ((koT k N i:Int) % 3 == 0),kn := (N i).kn,ks := fun j => mkT (koT k N i + 1 + j),dn := (N i).dn,kd := fun j => ((koT k N i + 1 + (N i).kn + j:Nat):Int),ct := ((koT k N i + 1 + (N i).kn + (N i).dn:Nat):Int) }
def mkTo (k:Nat) (N:Nat -> Tn) (j i:Nat):Tn := if i < j then mkN k N i else N i

theorem koT_next (k:Nat) (N:Nat -> Tn) (i:Nat):koT k N (i + 1) = koT k N i + 2 + (N i).kn + (N i).dn := by
  unfold koT
  have:sumT N (i + 1) = sumT N i + (N i).kn + (N i).dn := rfl
  omega
theorem mkTo_kn (k:Nat) (N:Nat -> Tn) (j i:Nat):(mkTo k N j i).kn = (N i).kn := by unfold mkTo; split <;> rfl
theorem mkTo_dn (k:Nat) (N:Nat -> Tn) (j i:Nat):(mkTo k N j i).dn = (N i).dn := by unfold mkTo; split <;> rfl

theorem mkTo_step (k:Nat) (N:Nat -> Tn) (j p:Nat) (hp:p = koT k N j) (N1 N2 N3 N4:Nat -> Tn)
    (h1:N1 = fun i => if i = j then { mkTo k N j j with lf := ((p:Int) % 3 == 0) } else mkTo k N j i)
    (h2:N2 = fun i => if i = j then { N1 j with ks := fun i => mkT (p + 1 + i) } else N1 i)
    (h3:N3 = fun i => if i = j then { N2 j with kd := fun i => ((p + 1 + (N j).kn + i:Nat):Int) } else N2 i)
    (h4:N4 = fun i => if i = j then { N3 j with ct := ((p + 1 + (N j).kn + (N j).dn:Nat):Int) } else N3 i):N4 = mkTo k N (j + 1) := by
  funext i
  by_cases e:i = j
  · subst e
    have q1:¬ i < i := by omega
    have q2:i < i + 1 := by omega
    have q3:mkTo k N i i = N i := by unfold mkTo; rw [if_neg q1]
    rw [h4]
    simp only [if_true]
    rw [h3]
    simp only [if_true]
    rw [h2]
    simp only [if_true]
    rw [h1]
    simp only [if_true]
    rw [q3]
    unfold mkTo
    rw [if_pos q2]
    unfold mkN
    rw [hp]
  · rw [h4]
    simp only [if_neg e]
    rw [h3]
    simp only [if_neg e]
    rw [h2]
    simp only [if_neg e]
    rw [h1]
    simp only [if_neg e]
    unfold mkTo
    by_cases e2:i < j
    · rw [if_pos e2,if_pos (by omega)]
    · rw [if_neg e2,if_neg (by omega)]

set_option maxHeartbeats 4000000 in
theorem markTNodeS_eq (B T g n c k:Nat) (N:Nat -> Tn) (KA DA:Nat -> Option Addr) (KC DC:Nat -> Nat) (w:World) (h:OwnTn w B g n N KA DA KC DC) (hT:TnB T g n N KA DA B) (hk:1 <= k) (hk2:k + 2 * n + sumT N n <= 1073741824) :
    Calls Tryz.prog 75 #[.slice (some ⟨g,0,none⟩) n c,.int .i64 (k:Int)] w fun e w' => e = .returned (.int .i64 ((koT k N n:Nat):Int)) /\ WiT B T w w' /\ OwnTn w' B g n (mkN k N) KA DA KC DC := by
  have HR:Hid (OwnTn w B g n N KA DA KC DC) := h
  have HT:Hid (TnB T g n N KA DA B) := hT
  clear h hT
  go_enter Tryz.func75,Tryz.ntmps75
  go_wp2
  go_loopw [1,5] (fun q i wr => ∃ j p:Nat,j <= n /\ i = .int .i64 j /\ q = .int .i64 p /\ p = koT k N j /\ OwnTn wr B g n (mkTo k N j) KA DA KC DC /\ WiT B T w wr) (fun _ i _ => n - (intOf i).toNat)
  case atStart => exact ⟨0,k,Nat.zero_le _,rfl,rfl,rfl,by rw [show mkTo k N 0 = N from funext fun i => by unfold mkTo; rw [if_neg (Nat.not_lt_zero _)]]; exact HR.out,WiT.refl _ _ _⟩
  case round =>
    obtain ⟨j,p,hj,rfl,rfl,hp,hm,hw⟩ := hrel
    by_cases hlt:j < n
    · have hsum:sumT N (j + 1) = sumT N j + (N j).kn + (N j).dn := rfl
      have hsl := sumT_le N n (j + 1) (by omega)
      have hpe:p = k + 2 * j + sumT N j := hp
      have hp1:1 <= p := by omega
      have hjb:j < 1073741824 := by omega
      obtain ⟨kn,hkn⟩:∃ x,x = (N j).kn := ⟨_,rfl⟩
      obtain ⟨dn,hdn⟩:∃ x,x = (N j).dn := ⟨_,rfl⟩
      have hp2:p + 2 + kn + dn <= 1073741824 := by omega
      have HP:Hid (p + 2 + kn + dn = koT k N (j + 1) /\ p = koT k N j) := by
        refine ⟨?_,hp⟩
        show p + 2 + kn + dn = koT k N (j + 1)
        rw [koT_next,<- hp,<- hkn,<- hdn]
      have HM:Hid (OwnTn wr B g n (mkTo k N j) KA DA KC DC /\ WiT B T w wr) := ⟨hm,hw⟩
      have HK:Hid (kn = (N j).kn /\ dn = (N j).dn) := ⟨hkn,hdn⟩
      have hMT:MTn wr B g n N KA DA KC DC := ⟨_,hm,fun i => ⟨mkTo_kn _ _ _ _,mkTo_dn _ _ _ _⟩⟩
      obtain ⟨⟨b0,c0⟩,c1,c2,⟨x3,c3⟩,f0,f3,lg⟩ := hMT.cells hlt
      rw [<- hkn] at c1
      rw [<- hdn] at c2
      have i0:(0:Int) <= (j:Int) := by omega
      have i1:(j:Int) < (n:Int) := by omega
      obtain ⟨N1,hN1⟩:∃ N1:Nat -> Tn,N1 = fun i => if i = j then { mkTo k N j j with lf := ((p:Int) % 3 == 0) } else mkTo k N j i := ⟨_,rfl⟩
      obtain ⟨N2,hN2⟩:∃ N2:Nat -> Tn,N2 = fun i => if i = j then { N1 j with ks := fun i => mkT (p + 1 + i) } else N1 i := ⟨_,rfl⟩
      obtain ⟨N3,hN3⟩:∃ N3:Nat -> Tn,N3 = fun i => if i = j then { N2 j with kd := fun i => ((p + 1 + (N j).kn + i:Nat):Int) } else N2 i := ⟨_,rfl⟩
      obtain ⟨N4,hN4⟩:∃ N4:Nat -> Tn,N4 = fun i => if i = j then { N3 j with ct := ((p + 1 + (N j).kn + (N j).dn:Nat):Int) } else N3 i := ⟨_,rfl⟩
      have k1:∀ i,(N1 i).kn = (N i).kn /\ (N1 i).dn = (N i).dn := fun i => by
        rw [hN1]
        by_cases e:i = j
        · subst e; simp only [if_true]; exact ⟨mkTo_kn _ _ _ _,mkTo_dn _ _ _ _⟩
        · simp only [if_neg e]; exact ⟨mkTo_kn _ _ _ _,mkTo_dn _ _ _ _⟩
      have k2:∀ i,(N2 i).kn = (N i).kn /\ (N2 i).dn = (N i).dn := fun i => by
        rw [hN2]
        by_cases e:i = j
        · subst e; simp only [if_true]; exact k1 i
        · simp only [if_neg e]; exact k1 i
      have HN:Hid (N1 = (fun i => if i = j then { mkTo k N j j with lf := ((p:Int) % 3 == 0) } else mkTo k N j i) /\ N2 = (fun i => if i = j then { N1 j with ks := fun i => mkT (p + 1 + i) } else N1 i) /\ N3 = (fun i => if i = j then { N2 j with kd := fun i => ((p + 1 + (N j).kn + i:Nat):Int) } else N2 i) /\ N4 = (fun i => if i = j then { N3 j with ct := ((p + 1 + (N j).kn + (N j).dn:Nat):Int) } else N3 i) /\ (∀ i,(N1 i).kn = (N i).kn /\ (N1 i).dn = (N i).dn) /\ (∀ i,(N2 i).kn = (N i).kn /\ (N2 i).dn = (N i).dn) /\ N4 = mkTo k N (j + 1)) := ⟨hN1,hN2,hN3,hN4,k1,k2,mkTo_step k N j p hp N1 N2 N3 N4 hN1 hN2 hN3 hN4⟩
      have HW1:Hid (OwnTn (wr.setCell ⟨g,j * 4,none⟩ (.bool ((p:Int) % 3 == 0))) B g n N1 KA DA KC DC /\ WiT B T w (wr.setCell ⟨g,j * 4,none⟩ (.bool ((p:Int) % 3 == 0)))) := ⟨by rw [hN1]; exact HM.out.1.flag j _,HM.out.2.trans (WiT.grown (grown_set _ _ _ _) (fun b e => by injection e with e; subst e; exact ⟨HT.out.1,HT.out.2.1⟩))⟩
      clear hsum hsl hp hm hw hkn hdn hk2 hpe hMT hN1 hN2 hN3 hN4 k1 k2 HM
      go_wp2_with fail
      refine (markStrsI _ (KA j) kn (KC j) (p + 1) (by go_num) (N1 j).ks _ (by have q := HW1.out.1.keys j hlt; rw [(HN.out.2.2.2.2.1 j).1,<- HK.out.1] at q; rcases q with q | ⟨b,q1,_,q2⟩; exact .inl q; exact .inr ⟨b,q1,q2⟩) (by omega) (by omega)).mono ?_
      rintro e w1 ⟨rfl,hg1,hz1,ho1⟩
      have hK0 := HK.out
      have HW2:Hid (OwnTn w1 B g n N2 KA DA KC DC /\ WiT B T w w1) := by
        have q1 := HW1.out.1.setKeys hlt _ hg1 (fun e => hz1 (by rw [hK0.1,<- (HN.out.2.2.2.2.1 j).1]; exact e)) (by rw [(HN.out.2.2.2.2.1 j).1,<- hK0.1]; exact ho1)
        refine ⟨by rw [HN.out.2.1]; exact q1,HW1.out.2.trans ?_⟩
        by_cases h0:kn = 0
        · rw [hz1 h0]; exact WiT.refl _ _ _
        · exact WiT.grown hg1 (HT.out.2.2.1 j hlt (by rw [<- hK0.1]; exact h0))
      have hMT:MTn w1 B g n N KA DA KC DC := ⟨_,HW2.out.1,HN.out.2.2.2.2.2.1⟩
      clear hg1 hz1 ho1 HW1 c0 c1 c2 c3 f0 f3 lg hK0
      obtain ⟨⟨b0',c0⟩,c1,c2,⟨x3',c3⟩,f0,f3,lg⟩ := hMT.cells hlt
      rw [<- HK.out.1] at c1
      rw [<- HK.out.2] at c2
      clear hMT
      go_wp2_with fail
      refine (markIntsE _ (DA j) dn (DC j) (p + 1 + kn) (by go_num) (N2 j).kd _ (by have q := HW2.out.1.kids j hlt; rw [(HN.out.2.2.2.2.2.1 j).2,<- HK.out.2] at q; rcases q with q | ⟨b,q1,_,q2⟩; exact .inl q; exact .inr ⟨b,q1,q2⟩) (by omega) (by omega)).mono ?_
      rintro e w2 ⟨rfl,hg2,hz2,ho2⟩
      have hK0 := HK.out
      have HW3:Hid (OwnTn w2 B g n N3 KA DA KC DC /\ WiT B T w w2) := by
        have q1 := HW2.out.1.setKids hlt _ hg2 (fun e => hz2 (by rw [hK0.2,<- (HN.out.2.2.2.2.2.1 j).2]; exact e)) (by rw [(HN.out.2.2.2.2.2.1 j).2,<- hK0.2]; exact ho2)
        refine ⟨by rw [HN.out.2.2.1,<- hK0.1]; exact q1,HW2.out.2.trans ?_⟩
        by_cases h0:dn = 0
        · rw [hz2 h0]; exact WiT.refl _ _ _
        · exact WiT.grown hg2 (HT.out.2.2.2 j hlt (by rw [<- hK0.2]; exact h0))
      have hMT:MTn w2 B g n N KA DA KC DC := ⟨_,HW3.out.1,fun i => by
        rw [HN.out.2.2.1]
        by_cases e:i = j
        · subst e; simp only [if_true]; exact HN.out.2.2.2.2.2.1 i
        · simp only [if_neg e]; exact HN.out.2.2.2.2.2.1 i⟩
      clear hg2 hz2 ho2 HW2 c0 c1 c2 c3 f0 f3 lg hK0
      obtain ⟨⟨b0'',c0⟩,c1,c2,⟨x3'',c3⟩,f0,f3,lg⟩ := hMT.cells hlt
      have HW4:Hid (∀ v:Int,v = ((p + 1 + kn + dn:Nat):Int) -> OwnTn (w2.setCell ⟨g,j * 4 + 3,none⟩ (.int .i64 v)) B g n (mkTo k N (j + 1)) KA DA KC DC /\ WiT B T w (w2.setCell ⟨g,j * 4 + 3,none⟩ (.int .i64 v))) := fun v hv => by
        refine ⟨?_,HW3.out.2.trans (WiT.grown (grown_set _ _ _ _) (fun b e => by injection e with e; subst e; exact ⟨HT.out.1,HT.out.2.1⟩))⟩
        rw [<- HN.out.2.2.2.2.2.2,HN.out.2.2.2.1,<- HK.out.1,<- HK.out.2,hv]
        exact HW3.out.1.count j _
      clear HW3 c0 c1 c2 hMT
      go_wp2
      go_roundw
      case rel => exact ⟨j + 1,p + 2 + kn + dn,by omega,by go_num,by go_num,HP.out.1,HW4.out _ (by go_num)⟩
      case measure => simp [intOf]; omega
    · have e:j = n := by omega
      subst e
      have HM:Hid (p = koT k N j /\ WiT B T w wr /\ OwnTn wr B g j (mkN k N) KA DA KC DC) := by
        refine ⟨hp,hw,OwnTn.of hm _ (hm.row.congr (fun c hc => ?_)) (fun i => ?_) (fun i hi => ?_) (fun i hi => ?_)⟩
        · have:c / 4 < j := by omega
          unfold tnCell mkTo
          simp [this]
        · exact ⟨(mkTo_kn k N j i).symm,(mkTo_dn k N j i).symm⟩
        · have q := hm.keys i hi
          unfold mkTo at q
          rw [if_pos hi] at q
          exact q
        · have q := hm.kids i hi
          unfold mkTo at q
          rw [if_pos hi] at q
          exact q
      clear hm hw hp
      go_wp2
      go_ret
      exact ⟨by rw [HM.out.1]; rfl,HM.out.2⟩

set_option maxHeartbeats 2000000 in
theorem heldTNodeS_any (a:Option Addr) (n c k:Nat) (N:Nat -> Tn) (w:World) (h:RdTn w a n (mkN k N)) (hk:1 <= k) (hk2:k + 2 * n + sumT N n <= 1073741824) :
    Calls Tryz.prog 121 #[.slice a n c,.int .i64 (k:Int)] w fun e w' => e = .returned (.int .i64 ((koT k N n:Nat):Int)) /\ Below w.heap.size w w' := by
  have HR:Hid (RdTn w a n (mkN k N)) := h
  clear h
  go_enter Tryz.func121,Tryz.ntmps121
  go_wp2
  go_loopw [1,5] (fun q i wr => ∃ j p:Nat,j <= n /\ i = .int .i64 j /\ q = .int .i64 p /\ p = koT k N j /\ Below w.heap.size w wr) (fun _ i _ => n - (intOf i).toNat)
  case atStart => exact ⟨0,k,Nat.zero_le _,rfl,rfl,rfl,Below.refl _ _⟩
  case round =>
    obtain ⟨j,p,hj,rfl,rfl,hp,hbel⟩ := hrel
    by_cases hlt:j < n
    · have hsum:sumT N (j + 1) = sumT N j + (N j).kn + (N j).dn := rfl
      have hsl := sumT_le N n (j + 1) (by omega)
      have hpe:p = k + 2 * j + sumT N j := hp
      have hp1:1 <= p := by omega
      have hjb:j < 1073741824 := by omega
      rcases HR.out with q | ⟨b,o,rfl,hc⟩
      · omega
      have HC:Hid (∀ W:World,Below w.heap.size w W -> ∃ ka kc da dc,W.cell? ⟨b,o + j * 4,none⟩ = some (.bool ((p:Int) % 3 == 0)) /\ W.cell? ⟨b,o + j * 4 + 1,none⟩ = some (.slice ka (N j).kn kc) /\
    W.cell? ⟨b,o + j * 4 + 2,none⟩ = some (.slice da (N j).dn dc) /\ W.cell? ⟨b,o + j * 4 + 3,none⟩ = some (.int .i64 ((p + 1 + (N j).kn + (N j).dn:Nat):Int)) /\ RdS W ka (N j).kn (fun i => mkT (p + 1 + i)) /\ Rd .i64 W da (N j).dn (fun i => ((p + 1 + (N j).kn + i:Nat):Int))) := by
        obtain ⟨ka,kc,da,dc,h0,h1,h2,h3,h4,h5⟩ := hc j hlt
        intro W hb
        refine ⟨ka,kc,da,dc,?_,?_,?_,?_,?_,?_⟩
        · rw [hb.cell (World.block_lt_of_cell? _ _ h0),hp]; exact h0
        · rw [hb.cell (World.block_lt_of_cell? _ _ h1)]; exact h1
        · rw [hb.cell (World.block_lt_of_cell? _ _ h2)]; exact h2
        · rw [hb.cell (World.block_lt_of_cell? _ _ h3),hp]; exact h3
        · rw [hp]; exact h4.below hb
        · rw [hp]; exact h5.below hb
      have HB:Hid (Below w.heap.size w wr) := hbel
      obtain ⟨kn,hkn⟩:∃ x,x = (N j).kn := ⟨_,rfl⟩
      obtain ⟨dn,hdn⟩:∃ x,x = (N j).dn := ⟨_,rfl⟩
      have hp2:p + 2 + kn + dn <= 1073741824 := by omega
      have HP:Hid (p + 2 + kn + dn = koT k N (j + 1)) := by
        show p + 2 + kn + dn = koT k N (j + 1)
        rw [koT_next,<- hp,<- hkn,<- hdn]
      rw [<- hkn,<- hdn] at HC
      obtain ⟨ka,kc,da,dc,c0,c1,c2,c3,r4,r5⟩ := HC.out wr hbel
      have H4:Hid (RdS wr ka kn (fun i => mkT (p + 1 + i))) := r4
      have i0:(0:Int) <= (j:Int) := by omega
      have i1:(j:Int) < (n:Int) := by omega
      obtain ⟨fl,hfl⟩:∃ fl:Bool,fl = ((p:Int) % 3 == 0) := ⟨_,rfl⟩
      have hfl' : ((p:Int) % 3 == 0) = fl := hfl.symm
      rw [hfl'] at c0
      have hff:(fl != fl) = false := by cases fl <;> rfl
      have HD:Hid (∀ W:World,Below wr.heap.size wr W -> W.cell? ⟨b,o + j * 4 + 2,none⟩ = some (.slice da dn dc) /\ W.cell? ⟨b,o + j * 4 + 3,none⟩ = some (.int .i64 ((p + 1 + kn + dn:Nat):Int)) /\ Rd .i64 W da dn (fun i => ((p + 1 + kn + i:Nat):Int)) /\ b < W.heap.size) := fun W hb =>
        have lb := World.block_lt_of_cell? _ _ c2
        ⟨by rw [hb.cell lb]; exact c2,by rw [hb.cell (World.block_lt_of_cell? _ _ c3)]; exact c3,r5.below hb,Nat.lt_of_lt_of_le lb hb.size⟩
      clear hsum hsl hp hpe hbel hc r4 r5 hk2 hkn hdn HC hfl c2 c3
      go_wp2_with fail
      refine (heldStrsI _ ka kn kc (p + 1) (by go_num) wr H4.out (by omega) (by omega)).mono ?_
      rintro e w1 ⟨rfl,hb1⟩
      obtain ⟨d2,d3,d5,dl⟩ := HD.out w1 hb1
      have H5:Hid (Rd .i64 w1 da dn (fun i => ((p + 1 + kn + i:Nat):Int)) /\ Below wr.heap.size wr w1) := ⟨d5,hb1⟩
      clear hb1 d5 H4 c0 c1 d3
      have hn1:¬ ((p:Int) + 1 + kn) < 0 := by omega
      have hn1' : ¬ (((p + 1 + kn:Nat):Int)) < 0 := by omega
      go_wp2_with fail
      refine (heldInts_any _ da dn dc (p + 1 + kn) (by go_num) w1 H5.out.1 (by omega)).mono ?_
      rintro e w2 ⟨rfl,hb2⟩
      have HB2:Hid (Below w.heap.size w w2) := (HB.out.trans (H5.out.2.mono HB.out.size)).trans (hb2.mono (HB.out.trans (H5.out.2.mono HB.out.size)).size)
      obtain ⟨e2,e3,_,el⟩ := HD.out w2 (H5.out.2.trans (hb2.mono H5.out.2.size))
      clear hb2 d2 e2
      obtain ⟨M,hM⟩:∃ M:Nat,M = p + 1 + kn + dn := ⟨_,rfl⟩
      rw [<- hM] at e3 ⊢
      have hM0:¬ (M:Int) < 0 := by omega
      have hM1:((M:Int) != (M:Int)) = false := by simp
      have HMM:Hid (M + 1 = koT k N (j + 1)) := by
        show M + 1 = koT k N (j + 1)
        rw [<- HP.out]
        omega
      have hMb:M <= 1073741824 := by omega
      clear hM
      go_wp2
      go_roundw
      case rel => exact ⟨j + 1,M + 1,by omega,by go_num,by go_num,HMM.out,HB2.out⟩
      case measure => simp [intOf]; omega
    · have e:j = n := by omega
      subst e
      have HM:Hid (p = koT k N j /\ Below w.heap.size w wr) := ⟨hp,hbel⟩
      clear hp hbel
      go_wp2
      go_ret
      exact ⟨by rw [HM.out.1]; rfl,HM.out.2⟩

theorem OwnTn.rdC {w:World} {B g n:Nat} {N:Nat -> Tn} {KA DA:Nat -> Option Addr} {KC DC:Nat -> Nat} (h:OwnTn w B g n N KA DA KC DC) (C:Nat -> Nat -> Prop) (hC:∀ i,i < n -> C (N i).kn (KC i)):RdTnC C w (some ⟨g,0,none⟩) n N := by
  refine Or.inr ⟨g,0,rfl,fun i hi => ⟨KA i,KC i,DA i,DC i,?_,?_,?_,?_,(h.keys i hi).rd,(h.kids i hi).rd,hC i hi⟩⟩
  · have := h.row.cell (i := i * 4) (by omega)
    rw [tnCell_0] at this
    simpa using this
  · have := h.row.cell (i := i * 4 + 1) (by omega)
    rw [tnCell_1] at this
    simpa using this
  · have := h.row.cell (i := i * 4 + 2) (by omega)
    rw [tnCell_2] at this
    simpa using this
  · have := h.row.cell (i := i * 4 + 3) (by omega)
    rw [tnCell_3] at this
    simpa using this

set_option maxHeartbeats 1000000 in
theorem toTNodeSC_any (a:Option Addr) (m c:Nat) (N:Nat -> Tn) (w:World) (h:RdTn w a m N) (hm:m <= 1048576) (hN:∀ i,i < m -> TnFit (N i)) :
    Calls Tryz.prog 108 #[.slice a m c] w fun e w' => ∃ KA DA KC DC,e = .returned (.slice (some ⟨w.heap.size,0,none⟩) m m) /\ OwnTn w' w.heap.size w.heap.size m N KA DA KC DC /\ Below w.heap.size w w' /\ ∀ i,i < m -> KC i = (N i).kn := by
  have hmk:∀ w:World,(Instr.makeSlice 57 (.int .i64 (m:Int)) (.int .i64 (m:Int))).run Tryz.prog w = .ok (.slice (some ⟨w.heap.size,0,none⟩) m m) (w.alloc (.cells (madeCells #[.bool false,.slice none 0 0,.slice none 0 0,.int .i64 0] (m * 4)) 168)) := by
    intro w
    obtain ⟨i0,hi,hz0,hz1,hz2⟩ := info_parts Tryz.info168
    have := run_make (P := Tryz.prog) w 57 168 i0 _ Tryz.underlying57 hi hz0 .i64 .i64 m m (by omega) (by omega) (by rw [hz2]; omega) (by omega)
    rw [hz1,show (Value.agg #[.bool false,.slice none 0 0,.slice none 0 0,.int .i64 0]).cells = #[.bool false,.slice none 0 0,.slice none 0 0,.int .i64 0] from rfl] at this
    simpa using this
  have H0:Hid (OwnTn (w.alloc (.cells (madeCells #[.bool false,.slice none 0 0,.slice none 0 0,.int .i64 0] (m * 4)) 168)) w.heap.size w.heap.size m (cutN N 0) (fun _ => none) (fun _ => none) (fun _ => 0) (fun _ => 0)) :=
    ⟨Nat.le_refl _,(madeTn w m).congr (fun i _ => by simp [tnCell,cutN]),fun i _ => Or.inl (by simp [cutN,zTn]),fun i _ => Or.inl (by simp [cutN,zTn]),fun i j _ _ _ hl => absurd (by simp [cutN,zTn]) hl,fun i j _ _ _ hl => absurd (by simp [cutN,zTn]) hl⟩
  have HR:Hid (RdTn w a m N /\ ∀ i,i < m -> TnFit (N i)) := ⟨h,hN⟩
  clear h hN
  go_enter Tryz.func108,Tryz.ntmps108
  go_wp2
  go_loopw [4] (fun i wr => ∃ (k:Nat) (KA DA:Nat -> Option Addr) (KC DC:Nat -> Nat),k <= m /\ i = .int .i64 k /\ OwnTn wr w.heap.size w.heap.size m (cutN N k) KA DA KC DC /\ Below w.heap.size w wr /\ ∀ i,i < k -> KC i = (N i).kn) (fun i _ => m - (intOf i).toNat)
  case atStart => exact ⟨0,_,_,_,_,Nat.zero_le _,rfl,H0.out,below_alloc _ _,fun i hi => absurd hi (Nat.not_lt_zero _)⟩
  case round =>
    obtain ⟨k,KA,DA,KC,DC,hk,rfl,hown,hbel,hcp⟩ := hrel
    have HCP:Hid (∀ i,i < k -> KC i = (N i).kn) := hcp
    clear hcp
    clear H0
    by_cases hlt:k < m
    · have hne:¬ m = 0 := by omega
      have h' := HR.out.1.below hbel
      have HB:Hid (Below w.heap.size w wr) := hbel
      have HO:Hid (OwnTn wr w.heap.size w.heap.size m (cutN N k) KA DA KC DC) := hown
      have hsz := hbel.size
      rcases h' with h' | ⟨b,o,rfl,hc⟩
      · exact absurd h' hne
      obtain ⟨ka,kc,da,dc,c0,c1,c2,c3,c4,c5⟩ := hc k hlt
      have HL := HR.out.2 k hlt
      have HK:Hid (RdS wr ka (N k).kn (N k).ks /\ Rd .i64 wr da (N k).dn (N k).kd) := ⟨c4,c5⟩
      clear hc hbel hown hmk c4 c5
      go_wp2_with fail
      refine (toTNode_any (N k) ka da kc dc _ HK.out.1 HK.out.2 HL).mono ?_
      rintro e w1 ⟨gk,gd,rfl,hgk,hgd,hrk,hrd,hb1⟩
      have hrow := HO.out.row.of_block (hb1.block _ HO.out.row.lt)
      have hc1 := hrow.cell (i := k * 4) (by omega)
      have hc2 := hrow.cell (i := k * 4 + 1) (by omega)
      have hc3 := hrow.cell (i := k * 4 + 2) (by omega)
      have hc4 := hrow.cell (i := k * 4 + 3) (by omega)
      rw [tnCell_0] at hc1
      rw [tnCell_1] at hc2
      rw [tnCell_2] at hc3
      rw [tnCell_3] at hc4
      have hf1 := hrow.frozen (k * 4)
      have hf2 := hrow.frozen (k * 4 + 1)
      have hf3 := hrow.frozen (k * 4 + 2)
      have hf4 := hrow.frozen (k * 4 + 3)
      have HX:Hid (OwnTn ((((w1.setCell ⟨w.heap.size,k * 4,none⟩ (.bool (N k).lf)).setCell ⟨w.heap.size,k * 4 + 1,none⟩ (.slice (some ⟨gk,0,none⟩) (N k).kn (N k).kn)).setCell ⟨w.heap.size,k * 4 + 2,none⟩ (.slice (some ⟨gd,0,none⟩) (N k).dn (N k).dn)).setCell ⟨w.heap.size,k * 4 + 3,none⟩ (.int .i64 (N k).ct)) w.heap.size w.heap.size m (cutN N (k + 1))
          (fun i => if i = k then some ⟨gk,0,none⟩ else KA i) (fun i => if i = k then some ⟨gd,0,none⟩ else DA i) (fun i => if i = k then (N k).kn else KC i) (fun i => if i = k then (N k).dn else DC i) /\
          Below w.heap.size w ((((w1.setCell ⟨w.heap.size,k * 4,none⟩ (.bool (N k).lf)).setCell ⟨w.heap.size,k * 4 + 1,none⟩ (.slice (some ⟨gk,0,none⟩) (N k).kn (N k).kn)).setCell ⟨w.heap.size,k * 4 + 2,none⟩ (.slice (some ⟨gd,0,none⟩) (N k).dn (N k).dn)).setCell ⟨w.heap.size,k * 4 + 3,none⟩ (.int .i64 (N k).ct))) := by
        have q := HO.out.put hsz hb1 k (N k) gk gd (N k).kn (N k).dn hgk hgd hrk hrd
        rw [cutN_put] at q
        exact ⟨q,((((HB.out.trans (hb1.mono hsz)).setCell (Nat.le_refl _) _).setCell (Nat.le_refl _) _).setCell (Nat.le_refl _) _).setCell (Nat.le_refl _) _⟩
      clear hrk hrd hb1 hrow HO HB c0 c1 c2 c3
      go_wp2
      go_roundw
      case rel => exact ⟨k + 1,_,_,_,_,by omega,by go_num,HX.out.1,HX.out.2,fun i hi => by
        by_cases e:i = k
        · simp [e]
        · simp [e]; exact HCP.out i (by omega)⟩
      case measure => simp [intOf]; omega
    · have e:k = m := by omega
      subst e
      have HO:Hid (OwnTn wr w.heap.size w.heap.size k (cutN N k) KA DA KC DC) := hown
      clear hown
      go_wp2
      go_ret
      refine ⟨KA,DA,KC,DC,rfl,?_,hbel,HCP.out⟩
      have e:∀ i,i < k -> cutN N k i = N i := fun i hi => by simp [cutN,hi]
      have hown := HO.out
      refine ⟨hown.le,hown.row.congr (fun x hx => ?_),fun i hi => ?_,fun i hi => ?_,fun i j hi hj hij hl1 hl2 => ?_,fun i j hi hj hij hl1 hl2 => ?_⟩
      · unfold tnCell
        rw [e (x / 4) (by omega)]
      · have := hown.keys i hi
        rwa [e i hi] at this
      · have := hown.kids i hi
        rwa [e i hi] at this
      · exact hown.apartK i j hi hj hij (by rw [e i hi]; exact hl1) (by rw [e j hj]; exact hl2)
      · exact hown.apartD i j hi hj hij (by rw [e i hi]; exact hl1) (by rw [e j hj]; exact hl2)

set_option maxHeartbeats 400000 in
theorem toTreeC_any (a:Option Addr) (m c:Nat) (N:Nat -> Tn) (w:World) (h:RdTn w a m N) (hm:m <= 1048576) (hN:∀ i,i < m -> TnFit (N i)) :
    Calls Tryz.prog 67 #[.agg #[.slice a m c]] w fun e w' => ∃ g KA DA KC DC,e = .returned (.agg #[.slice (some ⟨g,0,none⟩) m m]) /\ w.heap.size <= g /\ OwnTn w' w.heap.size g m N KA DA KC DC /\ Below w.heap.size w w' /\ ∀ i,i < m -> KC i = (N i).kn := by
  have HH:Hid ((∀ o1 o2 o3,Below w.heap.size w (((w.alloc o1).alloc o2).alloc o3)) /\ (∀ o1 o2 o3,(((w.alloc o1).alloc o2).alloc o3).heap.size = w.heap.size + 3) /\ RdTn w a m N /\ ∀ i,i < m -> TnFit (N i)) := ⟨fun o1 o2 o3 => (((below_alloc _ _).alloc (by simp) _).alloc (by simp; omega) _),fun o1 o2 o3 => by simp,h,hN⟩
  clear h hN
  go_enter Tryz.func67,Tryz.ntmps67
  go_wp2_with fail
  refine (toTNodeSC_any a m c N _ (HH.out.2.2.1.below (HH.out.1 _ _ _)) hm HH.out.2.2.2).mono ?_
  rintro e w1 ⟨KA,DA,KC,DC,rfl,ho1,hb1,hcp⟩
  have HCP:Hid (∀ i,i < m -> KC i = (N i).kn) := hcp
  clear hcp
  rw [HH.out.2.1] at ho1 hb1 ⊢
  have hz:w.heap.size + 2 < w1.heap.size := by have := ho1.row.lt; omega
  have hc:∀ b o,b < w.heap.size + 3 -> w1.cell? ⟨b,o,none⟩ = _ := fun b o hb => hb1.cell (p := ⟨b,o,none⟩) hb
  have hfz:∀ b o,b < w.heap.size + 3 -> w1.frozen? ⟨b,o,none⟩ = _ := fun b o hb => hb1.frozen (p := ⟨b,o,none⟩) hb
  have HE:Hid (OwnTn w1 (w.heap.size + 3) (w.heap.size + 3) m N KA DA KC DC /\ Below w.heap.size w w1) := ⟨ho1,(HH.out.1 _ _ _).trans (hb1.mono (by omega))⟩
  clear ho1 hb1
  go_wp2
  refine bodyPost_ret (v := .agg #[.slice (some ⟨w.heap.size + 3,0,none⟩) m m]) (by simp [results,Tryz.results67,go_sem,hc]) rfl ⟨_,KA,DA,KC,DC,rfl,by omega,?_,?_,HCP.out⟩
  · have hset:∀ {W:World} {p:Addr} {v:Value},OwnTn W (w.heap.size + 3) (w.heap.size + 3) m N KA DA KC DC -> p.block < w.heap.size + 3 -> OwnTn (W.setCell p v) (w.heap.size + 3) (w.heap.size + 3) m N KA DA KC DC := by
      intro W p v q hp
      refine ⟨q.le,q.row.setOther (by omega) _,fun i hi => (q.keys i hi).setOther hp _,fun i hi => ?_,q.apartK,q.apartD⟩
      rcases q.kids i hi with h0 | ⟨g,hA,hg,hr⟩
      · exact Or.inl h0
      · exact Or.inr ⟨g,hA,hg,hr.setOther (by omega) _⟩
    have q := hset (v := .slice (some ⟨w.heap.size + 3,0,none⟩) m m) (p := ⟨w.heap.size + 1,0,none⟩) (hset (v := .slice (some ⟨w.heap.size + 3,0,none⟩) m m) (p := ⟨w.heap.size + 2,0,none⟩) HE.out.1 (by simp)) (by simp)
    exact ⟨by omega,q.row,fun i hi => (q.keys i hi).mono (by omega),fun i hi => (q.kids i hi).mono (by omega),q.apartK,q.apartD⟩
  · exact (HE.out.2.setCell (by simp; try omega) _).setCell (by simp; try omega) _
end Go.Proofs.YtcnollkkigiobaaGreat
