import Derived.Test.YtcnollkkigiobaaGreatNa40
import Derived.Test.YtcnollkkigiobaaGreatNa41
import Derived.Test.YtcnollkkigiobaaGreatNa37
import Derived.Test.YtcnollkkigiobaaGreatNa32
import Derived.Laws.BytesArg
set_option linter.unusedVariables false
set_option maxRecDepth 100000
namespace Go.Proofs.YtcnollkkigiobaaGreat
open Go.RowKit Go.Deep

def bnum:List UInt8 -> Nat
  | [] => 0
  | x :: l => x.toNat * 256 ^ l.length + bnum l
theorem bnum_lt:∀ l:List UInt8,bnum l < 256 ^ l.length
  | [] => by simp [bnum]
  | x :: l => by
    have h := bnum_lt l
    have hx:x.toNat < 256 := x.toNat_lt
    show x.toNat * 256 ^ l.length + bnum l < 256 ^ (l.length + 1)
    rw [Nat.pow_succ]
    have:(x.toNat + 1) * 256 ^ l.length <= 256 * 256 ^ l.length := Nat.mul_le_mul_right _ hx
    rw [Nat.add_mul] at this
    omega
theorem less_num:∀ (a b:List UInt8),a.length = b.length -> (Op.bytesLess a b = true ↔ bnum a < bnum b)
  | [],[],_ => by simp [bnum,Op.bytesLess]
  | [],_ :: _,h => by simp at h
  | _ :: _,[],h => by simp at h
  | x :: a,y :: b,h => by
    have hl:a.length = b.length := by simpa using h
    have ih := less_num a b hl
    have ha := bnum_lt a
    have hb := bnum_lt b
    show (decide (x < y) || (x == y && Op.bytesLess a b)) = true ↔ x.toNat * 256 ^ a.length + bnum a < y.toNat * 256 ^ b.length + bnum b
    rw [hl] at ha ⊢
    generalize 256 ^ b.length = P at ha hb ⊢
    rcases Nat.lt_trichotomy x.toNat y.toNat with h1 | h1 | h1
    · have e1:x < y := h1
      have h2:(x.toNat + 1) * P <= y.toNat * P := Nat.mul_le_mul_right _ h1
      rw [Nat.add_mul] at h2
      simp [e1]
      omega
    · have e1:x = y := UInt8.toNat_inj.1 h1
      subst e1
      simp [ih]
    · have e1:¬ x < y := fun h => by have h' : x.toNat < y.toNat := h; omega
      have e2:¬ x = y := fun h => by rw [h] at h1; omega
      have h2:(y.toNat + 1) * P <= x.toNat * P := Nat.mul_le_mul_right _ h1
      rw [Nat.add_mul] at h2
      simp [e1,e2]
      omega
theorem bnum_inj:∀ (a b:List UInt8),a.length = b.length -> bnum a = bnum b -> a = b
  | [],[],_,_ => rfl
  | [],_ :: _,h,_ => by simp at h
  | _ :: _,[],h,_ => by simp at h
  | x :: a,y :: b,h,e => by
    have hl:a.length = b.length := by simpa using h
    have ha := bnum_lt a
    have hb := bnum_lt b
    have e' : x.toNat * 256 ^ a.length + bnum a = y.toNat * 256 ^ b.length + bnum b := e
    rw [hl] at ha e'
    have hxy:x.toNat = y.toNat := by
      generalize 256 ^ b.length = P at ha hb e'
      rcases Nat.lt_trichotomy x.toNat y.toNat with h1 | h1 | h1
      · have h2:(x.toNat + 1) * P <= y.toNat * P := Nat.mul_le_mul_right _ h1
        rw [Nat.add_mul] at h2
        omega
      · exact h1
      · have h2:(y.toNat + 1) * P <= x.toNat * P := Nat.mul_le_mul_right _ h1
        rw [Nat.add_mul] at h2
        omega
    rw [hxy] at e'
    have e1:x = y := UInt8.toNat_inj.1 hxy
    subst e1
    rw [bnum_inj a b hl (by omega)]
theorem less_pre:∀ (a b r:List UInt8),a.length = b.length -> Op.bytesLess (a ++ r) b = Op.bytesLess a b
  | [],[],r,_ => by cases r <;> rfl
  | [],_ :: _,_,h => by simp at h
  | _ :: _,[],_,h => by simp at h
  | x :: a,y :: b,r,h => by
    show (decide (x < y) || (x == y && Op.bytesLess (a ++ r) b)) = (decide (x < y) || (x == y && Op.bytesLess a b))
    rw [less_pre a b r (by simpa using h)]
theorem between {l lo hi:List UInt8} (hl:lo.length <= l.length) (he:lo.length = hi.length) (hn:bnum hi = bnum lo + 1):(Op.bytesLess l lo = false /\ Op.bytesLess l hi = true) ↔ l.take lo.length = lo := by
  have e:l = l.take lo.length ++ l.drop lo.length := (List.take_append_drop _ _).symm
  have hlen:(l.take lo.length).length = lo.length := by rw [List.length_take]; omega
  have h1:Op.bytesLess l lo = Op.bytesLess (l.take lo.length) lo := by
    conv => lhs; rw [e]
    exact less_pre _ _ _ hlen
  have h2:Op.bytesLess l hi = Op.bytesLess (l.take lo.length) hi := by
    conv => lhs; rw [e]
    exact less_pre _ _ _ (hlen.trans he)
  rw [h1,h2,less_num _ _ (hlen.trans he),hn]
  constructor
  · rintro ⟨g1,g2⟩
    have g3:¬ bnum (l.take lo.length) < bnum lo := fun h => by
      rw [<- less_num _ _ hlen,g1] at h
      cases h
    exact bnum_inj _ _ hlen (by omega)
  · intro h
    rw [h]
    exact ⟨less_irrefl _,by omega⟩

theorem bnum_app:∀ (a b:List UInt8),bnum (a ++ b) = bnum a * 256 ^ b.length + bnum b
  | [],b => by simp [bnum]
  | x :: a,b => by
    show x.toNat * 256 ^ (a ++ b).length + bnum (a ++ b) = (x.toNat * 256 ^ a.length + bnum a) * 256 ^ b.length + bnum b
    rw [bnum_app a b,List.length_append,Nat.pow_add,Nat.add_mul,Nat.mul_assoc,Nat.add_assoc]
def pkL (x:Int):List UInt8 := [UInt8.ofNat (x / 16777216).toNat,UInt8.ofNat (x / 65536 % 256).toNat,UInt8.ofNat (x / 256 % 256).toNat,UInt8.ofNat (x % 256).toNat]
theorem ofNat_small (n:Nat) (h:n < 256):(UInt8.ofNat n).toNat = n := by
  rw [UInt8.toNat_ofNat']
  omega
theorem pkL_num (x:Int) (h0:0 <= x) (h1:x < 4294967296):(bnum (pkL x):Int) = x := by
  show (((UInt8.ofNat (x / 16777216).toNat).toNat * 256 ^ 3 + ((UInt8.ofNat (x / 65536 % 256).toNat).toNat * 256 ^ 2 + ((UInt8.ofNat (x / 256 % 256).toNat).toNat * 256 ^ 1 + ((UInt8.ofNat (x % 256).toNat).toNat * 256 ^ 0 + 0))):Nat):Int) = x
  rw [ofNat_small _ (by omega),ofNat_small _ (by omega),ofNat_small _ (by omega),ofNat_small _ (by omega)]
  omega
def spLl (x:Nat -> Int):Nat -> List UInt8
  | 0 => []
  | i + 1 => spLl x i ++ pkL (x i)
theorem spL_data (x:Nat -> Int):∀ i,(spL x i).data.toList = spLl x i
  | 0 => rfl
  | i + 1 => by
    show (spL x i ++ pkB (x i)).data.toList = _
    rw [ByteArray.data_append,Array.toList_append,spL_data x i]
    rfl
theorem spH_data (x:Nat -> Int) (i:Nat):(spH x (i + 1)).data.toList = spLl x i ++ pkL (x i + 1) := by
  show (spL x i ++ pkB (x i + 1)).data.toList = _
  rw [ByteArray.data_append,Array.toList_append,spL_data x i]
  rfl
theorem spLl_len (x:Nat -> Int):∀ i,(spLl x i).length = 4 * i
  | 0 => rfl
  | i + 1 => by
    show (spLl x i ++ pkL (x i)).length = _
    rw [List.length_append,spLl_len x i]
    show 4 * i + 4 = _
    omega
theorem part_list (k:ByteArray) (i:Nat) (h:4 * i + 4 <= k.size):∃ q:List UInt8,q.length = 4 /\ (k.data.toList.drop (4 * i)).take 4 = q /\ (bnum q:Int) = pk k i := by
  obtain ⟨b0,e0,n0⟩ := kb_get (k := k) (i := 4 * i + 0) (by omega)
  obtain ⟨b1,e1,n1⟩ := kb_get (k := k) (i := 4 * i + 1) (by omega)
  obtain ⟨b2,e2,n2⟩ := kb_get (k := k) (i := 4 * i + 2) (by omega)
  obtain ⟨b3,e3,n3⟩ := kb_get (k := k) (i := 4 * i + 3) (by omega)
  have g:∀ (n:Nat) (b:UInt8),k[4 * i + n]? = some b -> k.data.toList[4 * i + n]? = some b := fun n b e => by
    rw [Array.getElem?_toList,<- e]
    first | rfl | simp
  have g0 := g 0 b0 e0
  have g1 := g 1 b1 e1
  have g2 := g 2 b2 e2
  have g3 := g 3 b3 e3
  refine ⟨[b0,b1,b2,b3],rfl,?_,?_⟩
  · apply List.ext_getElem?
    intro n
    rw [List.getElem?_take,List.getElem?_drop]
    by_cases h4:n < 4
    · rw [if_pos h4]
      rcases (show n = 0 \/ n = 1 \/ n = 2 \/ n = 3 by omega) with rfl | rfl | rfl | rfl
      · exact g0
      · exact g1
      · exact g2
      · exact g3
    · rw [if_neg h4,List.getElem?_eq_none (by simp; omega)]
  · show ((b0.toNat * 256 ^ 3 + (b1.toNat * 256 ^ 2 + (b2.toNat * 256 ^ 1 + (b3.toNat * 256 ^ 0 + 0))):Nat):Int) = 256 * (256 * (256 * (256 * 0 + kb k (4 * i + 0)) + kb k (4 * i + 1)) + kb k (4 * i + 2)) + kb k (4 * i + 3)
    rw [n0,n1,n2,n3]
    omega
theorem take_parts (k:ByteArray) (x:Nat -> Int):∀ m,4 * m <= k.size -> (∀ i,i < m -> 0 <= x i /\ x i < 4294967296) -> (k.data.toList.take (4 * m) = spLl x m ↔ ∀ i,i < m -> pk k i = x i)
  | 0,_,_ => by simp [spLl]
  | m + 1,h,hx => by
    have ih := take_parts k x m (by omega) (fun i hi => hx i (by omega))
    obtain ⟨q,q1,q2,q3⟩ := part_list k m (by omega)
    have hxm := hx m (by omega)
    have hl:(k.data.toList.take (4 * m)).length = (spLl x m).length := by
      rw [List.length_take,spLl_len,Array.length_toList]
      have:k.data.size = k.size := rfl
      omega
    have hp:q = pkL (x m) ↔ pk k m = x m := by
      rw [<- q3]
      constructor
      · intro e
        rw [e]
        exact pkL_num _ hxm.1 hxm.2
      · intro e
        refine bnum_inj _ _ q1 ?_
        have := pkL_num _ hxm.1 hxm.2
        omega
    rw [show 4 * (m + 1) = 4 * m + 4 by omega,List.take_add,q2]
    show _ ++ q = spLl x m ++ pkL (x m) ↔ _
    constructor
    · intro e
      obtain ⟨a1,a2⟩ := List.append_inj e hl
      intro i hi
      by_cases h' : i = m
      · rw [h']
        exact hp.1 a2
      · exact ih.1 a1 i (by omega)
    · intro e
      rw [ih.2 (fun i hi => e i (by omega)),hp.2 (e m (by omega))]

theorem ord_pos (j:Nat) (hj:j < 6) (s:Nat) (hs:s < 4):ordF j (posF j s) = s /\ posF j s < 4 := by
  rcases (show j = 0 \/ j = 1 \/ j = 2 \/ j = 3 \/ j = 4 \/ j = 5 by omega) with rfl | rfl | rfl | rfl | rfl | rfl <;> rcases (show s = 0 \/ s = 1 \/ s = 2 \/ s = 3 by omega) with rfl | rfl | rfl | rfl <;> decide
theorem fit1_iff (a b:Int):fit1 a b = true ↔ (a = 0 \/ a = b) := by simp [fit1]
theorem fit_all (j:Nat) (hj:j < 6) (p:Qd) (k:ByteArray):fitB (quadOf j k) p = true ↔ ∀ i,i < 4 -> (ptO j p i = 0 \/ ptO j p i = pk k i) := by
  have e:∀ s,s < 4 -> ptO j p (posF j s) = partOf p.s p.p p.o p.g s := fun s hs => by unfold ptO; rw [(ord_pos j hj s hs).1]
  have e0:ptO j p (posF j 0) = p.s := e 0 (by omega)
  have e1:ptO j p (posF j 1) = p.p := e 1 (by omega)
  have e2:ptO j p (posF j 2) = p.o := e 2 (by omega)
  have e3:ptO j p (posF j 3) = p.g := e 3 (by omega)
  have h:fitB (quadOf j k) p = true ↔ (((fit1 p.s (pk k (posF j 0)) = true /\ fit1 p.p (pk k (posF j 1)) = true) /\ fit1 p.o (pk k (posF j 2)) = true) /\ fit1 p.g (pk k (posF j 3)) = true) := by
    unfold fitB quadOf
    simp only [Bool.and_eq_true]
  rw [h]
  simp only [fit1_iff]
  rw [<- e0,<- e1,<- e2,<- e3]
  constructor
  · rintro ⟨⟨⟨h0,h1⟩,h2⟩,h3⟩ i hi
    obtain ⟨s,hs,es⟩ := posF_onto j hj i hi
    rw [<- es]
    rcases (show s = 0 \/ s = 1 \/ s = 2 \/ s = 3 by omega) with rfl | rfl | rfl | rfl
    · exact h0
    · exact h1
    · exact h2
    · exact h3
  · intro h
    exact ⟨⟨⟨h _ (ord_pos j hj 0 (by omega)).2,h _ (ord_pos j hj 1 (by omega)).2⟩,h _ (ord_pos j hj 2 (by omega)).2⟩,h _ (ord_pos j hj 3 (by omega)).2⟩
theorem fit_lead {j:Nat} (hj:j < 6) {p:Qd} {m:Nat} (hm:Lead (ptO j p) m) (hok:okTo (ptO j p) 4) (k:ByteArray):fitB (quadOf j k) p = true ↔ ∀ i,i < m -> pk k i = ptO j p i := by
  rw [fit_all j hj p k]
  obtain ⟨h4,hn,hz⟩ := hm
  constructor
  · intro h i hi
    rcases h i (by omega) with q | q
    · exact absurd q (hn i hi)
    · exact q.symm
  · intro h i hi
    rcases Nat.lt_trichotomy i m with q | q | q
    · exact .inr (h i q).symm
    · exact .inl (by rw [q]; exact hz (by omega))
    · exact .inl ((hok i hi).2 m q (hz (by omega)))
theorem sp_next (x:Nat -> Int) (m:Nat) (h0:0 <= x m) (h1:x m <= 2000000000):bnum (spH x (m + 1)).toList = bnum (spL x (m + 1)).toList + 1 /\ (spL x (m + 1)).toList.length = (spH x (m + 1)).toList.length := by
  rw [ByteArray.toList_eq,ByteArray.toList_eq,spH_data,spL_data]
  show bnum (spLl x m ++ pkL (x m + 1)) = bnum (spLl x m ++ pkL (x m)) + 1 /\ (spLl x m ++ pkL (x m)).length = _
  rw [bnum_app,bnum_app]
  have a := pkL_num (x m) h0 (by omega)
  have b := pkL_num (x m + 1) (by omega) (by omega)
  refine ⟨?_,by simp [pkL]⟩
  show bnum (spLl x m) * 256 ^ 4 + bnum (pkL (x m + 1)) = bnum (spLl x m) * 256 ^ 4 + bnum (pkL (x m)) + 1
  omega
theorem span_fit {j:Nat} (hj:j < 6) {p:Qd} {m:Nat} (hm:Lead (ptO j p) (m + 1)) (hok:okTo (ptO j p) 4) {k:ByteArray} (hk:k.size = 16) :
    (Op.bytesLess k.toList (spL (ptO j p) (m + 1)).toList = false /\ Op.bytesLess k.toList (spH (ptO j p) (m + 1)).toList = true) ↔ fitB (quadOf j k) p = true := by
  have h4 := hm.1
  have hr := (hok m (by omega)).1
  obtain ⟨n1,n2⟩ := sp_next (ptO j p) m hr.1 hr.2
  have hkl:k.toList.length = 16 := by rw [ByteArray.toList_eq,Array.length_toList]; exact hk
  have hll:(spL (ptO j p) (m + 1)).toList.length = 4 * (m + 1) := by rw [ByteArray.toList_eq,spL_data,spLl_len]
  rw [between (by omega) n2 n1,fit_lead hj hm hok,hll,ByteArray.toList_eq,ByteArray.toList_eq,spL_data]
  exact take_parts k _ (m + 1) (by omega) (fun i hi => by have := (hok i (by omega)).1; omega)

def RetSc (w:World) (L:List Qd) (e:Ending) (w' : World):Prop :=
  ∃ a' c',e = .returned (.slice a' L.length c') /\ w'.ownsRow w.heap.size 34 4 (.slice a' L.length c') L.length (quadL L) /\ Below w.heap.size w w'

structure ScS (w W:World) (a:Option Addr) (n c:Nat) (p:Qd):Prop where
  ib:Bx W w.heap.size 32 #[.slice a n c]
  pb:Bx W (w.heap.size + 1) 34 #[.int .i64 p.s,.int .i64 p.p,.int .i64 p.o,.int .i64 p.g]
  ob:W.ownsRow (w.heap.size + 2) 34 4 (.slice (some ⟨w.heap.size + 2,0,none⟩) 0 0) 0 []
  lt:w.heap.size + 2 < W.heap.size
  eb:∀ o,W.cell? ⟨w.heap.size + 2,o,none⟩ = none
  bel:Below w.heap.size w W
theorem ScS.keep {w W W' : World} {a:Option Addr} {n c:Nat} {p:Qd} (h:ScS w W a n c p) (hb:Below W.heap.size W W'):ScS w W' a n c p :=
  ⟨(hb.block _ h.ib.lt).trans h.ib,(hb.block _ h.pb.lt).trans h.pb,own_below h.ob hb,Nat.lt_of_lt_of_le h.lt hb.size,fun o => by rw [hb.cell (show w.heap.size + 2 < W.heap.size from h.lt)]; exact h.eb o,h.bel.trans (hb.mono h.bel.size)⟩

def keyOf (j:Nat) (q:Qd):ByteArray := spL (ptO j q) 4
theorem keyOf_size (j:Nat) (q:Qd):(keyOf j q).size = 16 := spL_size _ 4
theorem bl_irrefl (l:List UInt8):Op.bytesLess l l = false := by
  cases h:Op.bytesLess l l with
  | false => rfl
  | true =>
    have := (less_num l l rfl).1 h
    omega
theorem part_pos {j:Nat} (hj:j < 6) {q:Qd} (h:quadB q = true) (i:Nat) (hi:i < 4):1 <= ptO j q i /\ ptO j q i <= 2000000000 := by
  have hq:(1 <= q.s /\ q.s <= 2000000000) /\ (1 <= q.p /\ q.p <= 2000000000) /\ (1 <= q.o /\ q.o <= 2000000000) /\ (1 <= q.g /\ q.g <= 2000000000) := by
    simp [quadB,numB] at h
    omega
  have ho := ordF_lt j hj i hi
  unfold ptO
  rcases (show ordF j i = 0 \/ ordF j i = 1 \/ ordF j i = 2 \/ ordF j i = 3 by omega) with e | e | e | e <;> rw [e]
  · exact hq.1
  · exact hq.2.1
  · exact hq.2.2.1
  · exact hq.2.2.2
theorem keyOf_quad {j:Nat} (hj:j < 6) {q:Qd} (h:quadB q = true):quadOf j (keyOf j q) = q := by
  have hp := part_pos hj h
  have hm:Lead (ptO j q) 4 := ⟨Nat.le_refl _,fun i hi => by have := hp i hi; omega,fun h => absurd h (by omega)⟩
  have hok:okTo (ptO j q) 4 := by
    intro i hi
    have h1 := hp i hi
    exact ⟨⟨by omega,h1.2⟩,fun r hr e => by have := hp r (by omega); omega⟩
  have hr := hp 3 (by omega)
  obtain ⟨n1,n2⟩ := sp_next (ptO j q) 3 (by omega) hr.2
  have hf := (span_fit hj hm hok (keyOf_size j q)).1 ⟨bl_irrefl _,by
    show Op.bytesLess (spL (ptO j q) 4).toList (spH (ptO j q) 4).toList = true
    exact (less_num _ _ n2).2 (by omega)⟩
  have hall := (fit_lead hj hm hok _).1 hf
  have e:∀ s,s < 4 -> pk (keyOf j q) (posF j s) = partOf q.s q.p q.o q.g s := fun s hs => by
    have h1 := ord_pos j hj s hs
    rw [hall _ h1.2]
    unfold ptO
    rw [h1.1]
  unfold quadOf
  rw [e 0 (by omega),e 1 (by omega),e 2 (by omega),e 3 (by omega)]
  rfl

set_option maxHeartbeats 4000000 in
theorem key_any (j:Nat) (hj:j < 6) (p:Qd) (hr:∀ i,i < 4 -> 0 <= ptO j p i /\ ptO j p i <= 2000000000) (w:World) :
    Calls Tryz.prog 83 #[.func (.func (layF j)) #[] #[],qv p] w fun e w' => e = .returned (.string (keyOf j p)) /\ Below w.heap.size w w' := by
  have HL:Hid (∀ W:World,Calls Tryz.prog (layF j) #[.pointer (some ⟨w.heap.size,0,none⟩)] W fun e w' => e = .returned (.agg (ptrA j w.heap.size)) /\ Below W.heap.size W w') := fun W => lay_any j hj _ W
  have HK:Hid (j < 6 /\ ∀ i,i < 4 -> 0 <= ptO j p i /\ ptO j p i <= 2000000000) := ⟨hj,hr⟩
  have heg:∀ args W,(callFunc (layF j) args).run Tryz.prog W = .ok (.enter (layF j) args) W := fun args W => by
    rcases (show j = 0 \/ j = 1 \/ j = 2 \/ j = 3 \/ j = 4 \/ j = 5 by omega) with rfl | rfl | rfl | rfl | rfl | rfl <;> rfl
  have HPK:Hid (∀ (x:Int) (W:World),0 <= x -> x < 4294967296 -> Calls Tryz.prog 110 #[.int .i64 x] W fun e w' => e = .returned (.string (pkB x)) /\ Below W.heap.size W w') := fun x W h0 h1 => partKey_any x h0 h1 W
  clear hj hr
  unfold qv
  go_enter Tryz.func83,Tryz.ntmps83
  go_wp2_with fail
  (with_reducible refine (HL.out _).mono ?_)
  rintro e w1 ⟨rfl,hw1⟩
  have Q0:Hid (Bx w1 w.heap.size 34 #[.int .i64 p.s,.int .i64 p.p,.int .i64 p.o,.int .i64 p.g] /\ Below w.heap.size w w1) := ⟨(hw1.block _ (by simp)).trans (Bx.new w _ _),(below_alloc _ _).trans (hw1.mono (by simp))⟩
  clear hw1 HL
  go_wp2_with fail
  go_loopw [5,7,10] (fun lo _ i wr => ∃ ii:Nat,ii <= 4 /\ i = .int .i64 ii /\ lo = .string (spL (ptO j p) ii) /\ Bx wr w.heap.size 34 #[.int .i64 p.s,.int .i64 p.p,.int .i64 p.o,.int .i64 p.g] /\ Below w.heap.size w wr) (fun _ _ i _ => 4 - (intOf i).toNat)
  case atStart => exact ⟨0,Nat.zero_le _,rfl,rfl,Q0.out⟩
  case round =>
    obtain ⟨i,hi,rfl,rfl,hq,hb⟩ := hrel
    have QI:Hid (Bx wr w.heap.size 34 #[.int .i64 p.s,.int .i64 p.p,.int .i64 p.o,.int .i64 p.g] /\ Below w.heap.size w wr) := ⟨hq,hb⟩
    clear hq hb Q0
    by_cases hlt:i < 4
    · have hixp:∀ W:World,(Instr.index 156 (.agg (ptrA j w.heap.size)) (.int .i64 (i:Int))).run Tryz.prog W = .ok (.pointer (some ⟨w.heap.size,ordF j i,none⟩)) W := fun W => by
        rcases (show i = 0 \/ i = 1 \/ i = 2 \/ i = 3 by omega) with rfl | rfl | rfl | rfl <;> rfl
      have c1 := QI.out.1.cell (ordF j i)
      rw [qcell p _ (ordF_lt j HK.out.1 i hlt)] at c1
      obtain ⟨x,hx⟩:∃ x,x = ptO j p i := ⟨_,rfl⟩
      have HX:Hid (x = ptO j p i) := hx
      have hxr := HK.out.2 i hlt
      have hxu:partOf p.s p.p p.o p.g (ordF j i) = x := hx.symm
      rw [hxu] at c1
      rw [<- hx] at hxr
      obtain ⟨hx0,hx1⟩ := hxr
      clear hx hxu
      obtain ⟨lo,hlo⟩:∃ lo,lo = spL (ptO j p) i := ⟨_,rfl⟩
      obtain ⟨k0,hk0⟩:∃ k0,k0 = pkB x := ⟨_,rfl⟩
      have HP0:Hid (∀ W:World,Calls Tryz.prog 110 #[.int .i64 x] W fun e w' => e = .returned (.string k0) /\ Below W.heap.size W w') := fun W => by rw [hk0]; exact HPK.out x W (by omega) (by omega)
      have HL1:Hid (lo ++ k0 = spL (ptO j p) (i + 1)) := by
        rw [hlo,hk0,HX.out]
        rfl
      have z4:¬ (9223372036854775807:Int) < (lo.size:Int) + (k0.size:Int) := by rw [hlo,hk0,spL_size,pkB_size]; omega
      rw [<- hlo]
      clear hlo hk0
      go_wp2_with fail
      (with_reducible refine (HP0.out _).mono ?_)
      rintro e w3 ⟨rfl,hb3⟩
      have Q3:Hid (Bx w3 w.heap.size 34 #[.int .i64 p.s,.int .i64 p.p,.int .i64 p.o,.int .i64 p.g] /\ Below w.heap.size w w3) := ⟨(hb3.block _ QI.out.1.lt).trans QI.out.1,QI.out.2.trans (hb3.mono QI.out.2.size)⟩
      clear hb3 c1
      go_wp2
      go_roundw
      case rel => exact ⟨i + 1,by omega,by go_num,by rw [<- HL1.out],Q3.out⟩
      case measure => simp [intOf]; omega
    · obtain rfl:i = 4 := by omega
      go_wp2
      go_ret
      exact ⟨rfl,QI.out.2⟩

theorem Tryz.info5k:(Tryz.prog.info? 5).map (fun i => (i.zero,i.size,i.bytes)) = some (some (.int .u8 0),1,1) := by kernel_rfl
def kI (x:Nat -> Int):Nat -> List Int
  | 0 => []
  | i + 1 => kI x i ++ [x i / 16777216,x i / 65536 % 256,x i / 256 % 256,x i % 256]
theorem kI_len (x:Nat -> Int):∀ i,(kI x i).length = 4 * i
  | 0 => rfl
  | i + 1 => by
    show (kI x i ++ _).length = _
    rw [List.length_append,kI_len x i]
    rfl
theorem kI_str (x:Nat -> Int) (i:Nat):strOfNums (kI x i) = spL x i := by
  have h:∀ i,(strOfNums (kI x i)).data.toList = spLl x i := fun i => by
    rw [strOfNums_data]
    induction i with
    | zero => rfl
    | succ i ih =>
      show List.map _ (kI x i ++ _) = spLl x i ++ pkL (x i)
      rw [List.map_append,ih]
      rfl
  have h2 := h i
  rw [<- spL_data] at h2
  exact ByteArray.ext (Array.toList_inj.1 h2)
def u8s (l:List Int):List Value := l.map (Value.int .u8)
theorem u8s_app (a b:List Int):u8s (a ++ b) = u8s a ++ u8s b := List.map_append ..
theorem u8s_get (l:List Int) (i:Nat) (h:i < l.length):(u8s l)[i]? = some (.int .u8 (l.getD i 0)) := by
  unfold u8s
  rw [List.getElem?_map,List.getElem?_eq_getElem h,List.getD_eq_getElem?_getD,List.getElem?_eq_getElem h]
  rfl

set_option maxHeartbeats 4000000 in
theorem l5Key_any (j:Nat) (hj:j < 6) (p:Qd) (hr:∀ i,i < 4 -> 0 <= ptO j p i /\ ptO j p i <= 2000000000) (w:World) :
    Calls Tryz.prog 45 #[qv p,.int .i64 (j:Int)] w fun e w' => e = .returned (.string (keyOf j p)) /\ Below w.heap.size w w' := by
  obtain ⟨i0,hi0,hz0,hz1,hz2⟩ := info_parts Tryz.info5k
  have HI:Hid (Tryz.prog.info? 5 = some i0 /\ i0.zero = some (.int .u8 0) /\ i0.size = 1 /\ i0.bytes = 1) := ⟨hi0,hz0,hz1,hz2⟩
  clear hi0 hz0 hz1 hz2
  have HO:Hid (∀ W:World,Calls Tryz.prog 64 #[.int .i64 (j:Int)] W fun e w' => e = .returned (.slice (some ⟨W.heap.size,0,none⟩) 4 4) /\ w' = W.alloc (.cells #[.int .i64 (ordF j 0:Int),.int .i64 (ordF j 1:Int),.int .i64 (ordF j 2:Int),.int .i64 (ordF j 3:Int)] 3)) := fun W => l5Order_any j hj W
  have HK:Hid (j < 6 /\ ∀ i,i < 4 -> 0 <= ptO j p i /\ ptO j p i <= 2000000000) := ⟨hj,hr⟩
  clear hj hr
  unfold qv
  obtain ⟨W0,hW0⟩:∃ W0,W0 = ((w.alloc (.cells #[.int .i64 p.s,.int .i64 p.p,.int .i64 p.o,.int .i64 p.g] 34)).alloc (.cells #[.int .i64 (ordF j 0:Int),.int .i64 (ordF j 1:Int),.int .i64 (ordF j 2:Int),.int .i64 (ordF j 3:Int)] 3)).alloc (.cells #[] 5) := ⟨_,rfl⟩
  have B0:Hid (Bx W0 w.heap.size 34 #[.int .i64 p.s,.int .i64 p.p,.int .i64 p.o,.int .i64 p.g] /\ Bx W0 (w.heap.size + 1) 3 #[.int .i64 (ordF j 0:Int),.int .i64 (ordF j 1:Int),.int .i64 (ordF j 2:Int),.int .i64 (ordF j 3:Int)] /\ W0.ownsRow (w.heap.size + 2) 5 1 (.slice (some ⟨w.heap.size + 2,0,none⟩) 0 0) 0 [] /\ Below w.heap.size w W0 /\ w.heap.size + 2 <= W0.heap.size) := by
    have b1 := Bx.new w #[.int .i64 p.s,.int .i64 p.p,.int .i64 p.o,.int .i64 p.g] 34
    have b2 := Bx.new (w.alloc (.cells #[.int .i64 p.s,.int .i64 p.p,.int .i64 p.o,.int .i64 p.g] 34)) #[.int .i64 (ordF j 0:Int),.int .i64 (ordF j 1:Int),.int .i64 (ordF j 2:Int),.int .i64 (ordF j 3:Int)] 3
    have q := own_empty ((w.alloc (.cells #[.int .i64 p.s,.int .i64 p.p,.int .i64 p.o,.int .i64 p.g] 34)).alloc (.cells #[.int .i64 (ordF j 0:Int),.int .i64 (ordF j 1:Int),.int .i64 (ordF j 2:Int),.int .i64 (ordF j 3:Int)] 3)) 5 (w.heap.size + 2) 1 (by simp)
    simp only [World.size_alloc] at b2 q
    rw [hW0]
    exact ⟨(b1.alloc _).alloc _,b2.alloc _,q,((below_alloc _ _).alloc (by simp) _).alloc (by simp; omega) _,by simp⟩
  go_enter Tryz.func45,Tryz.ntmps45
  go_wp2_with fail
  (with_reducible refine (HO.out _).mono ?_)
  rintro e w1 ⟨rfl,rfl⟩
  go_upto_region 4 with fail
  rw [<- hW0]
  clear hW0 HO
  go_loopw [6,7,8] (fun out i _ wr => ∃ k:Nat,k <= 4 /\ i = .int .i64 k /\ wr.ownsRow (w.heap.size + 2) 5 1 out (4 * k) (u8s (kI (ptO j p) k)) /\ Below (w.heap.size + 2) W0 wr) (fun _ i _ _ => 4 - (intOf i).toNat)
  case atStart => exact ⟨0,Nat.zero_le _,rfl,B0.out.2.2.1,Below.refl _ _⟩
  case round =>
    obtain ⟨k,hk,rfl,hown,hbel⟩ := hrel
    obtain ⟨ar,cr,er,_⟩ := own_form hown
    subst er
    have HQ:Hid (wr.ownsRow (w.heap.size + 2) 5 1 (.slice ar (4 * k) cr) (4 * k) (u8s (kI (ptO j p) k)) /\ Below (w.heap.size + 2) W0 wr /\ w.heap.size + 2 <= wr.heap.size) := ⟨hown,hbel,Nat.le_trans B0.out.2.2.2.2 hbel.size⟩
    have k0:(0:Int) <= (k:Int) := by omega
    by_cases hlt:k < 4
    · have k1:(k:Int) < 4 := by omega
      have bq:Bx wr w.heap.size 34 #[.int .i64 p.s,.int .i64 p.p,.int .i64 p.o,.int .i64 p.g] := B0.out.1.below' hbel (by omega)
      have bo:Bx wr (w.heap.size + 1) 3 #[.int .i64 (ordF j 0:Int),.int .i64 (ordF j 1:Int),.int .i64 (ordF j 2:Int),.int .i64 (ordF j 3:Int)] := B0.out.2.1.below' hbel (by omega)
      have y0 := bq.cell 0
      have y1 := bq.cell 1
      have y2 := bq.cell 2
      have y3 := bq.cell 3
      have yo := bo.cell k
      have hor:(#[.int .i64 (ordF j 0:Int),.int .i64 (ordF j 1:Int),.int .i64 (ordF j 2:Int),.int .i64 (ordF j 3:Int)]:Array Value)[k]? = some (.int .i64 (ordF j k:Int)) := by
        rcases (show k = 0 \/ k = 1 \/ k = 2 \/ k = 3 by omega) with rfl | rfl | rfl | rfl <;> rfl
      rw [hor] at yo
      simp at y0 y1 y2 y3
      obtain ⟨x,hx⟩:∃ x,x = ptO j p k := ⟨_,rfl⟩
      have HX:Hid (x = ptO j p k) := hx
      have hxr := HK.out.2 k hlt
      rw [<- hx] at hxr
      obtain ⟨hx0,hx1⟩ := hxr
      have HP:Hid (∀ W:World,Calls Tryz.prog 65 #[.agg #[.int .i64 p.s,.int .i64 p.p,.int .i64 p.o,.int .i64 p.g],.int .i64 (ordF j k:Int)] W fun e w' => e = .returned (.int .i64 x) /\ Below W.heap.size W w') := fun W => by rw [hx]; exact l5Part_any _ _ _ _ (ordF j k) (ordF_lt j HK.out.1 k hlt) W
      clear hx hor bq bo hown hbel
      go_wp2
      go_region_with (go_at_call 65; (with_reducible refine (HP.out _).mono ?_); rintro e w5 ⟨rfl,hb5⟩)
      all_goals
        have H5:Hid (w5.ownsRow (w.heap.size + 2) 5 1 (.slice ar (4 * k) cr) (4 * k) (u8s (kI (ptO j p) k)) /\ Below (w.heap.size + 2) W0 w5 /\ w.heap.size + 2 <= w5.heap.size) := ⟨own_below HQ.out.1 (below_undrew hb5),HQ.out.2.1.trans ((below_undrew hb5).mono HQ.out.2.2),Nat.le_trans HQ.out.2.2 (below_undrew hb5).size⟩
        clear hb5 y0 y1 y2 y3 yo HQ
        have HO7:Hid ((w5.alloc (.cells #[.int .u8 (x / 16777216),.int .u8 (x / 65536 % 256),.int .u8 (x / 256 % 256),.int .u8 (x % 256)] 5)).ownsRow (w.heap.size + 2) 5 1 (.slice ar (4 * k) cr) (4 * k) (u8s (kI (ptO j p) k)) /\ (∀ i u,(u8s [x / 16777216,x / 65536 % 256,x / 256 % 256,x % 256])[i]? = some u -> (w5.alloc (.cells #[.int .u8 (x / 16777216),.int .u8 (x / 65536 % 256),.int .u8 (x / 256 % 256),.int .u8 (x % 256)] 5)).cell? ⟨w5.heap.size,i,none⟩ = some u)) := by
          refine ⟨own_below H5.out.1 (below_alloc _ _),fun i u hi => ?_⟩
          rw [(Bx.new w5 #[.int .u8 (x / 16777216),.int .u8 (x / 65536 % 256),.int .u8 (x / 256 % 256),.int .u8 (x % 256)] 5).cell i]
          simpa [u8s] using hi
        have hz5 := H5.out.2.2
        go_wp2_with (at_builtin; refine wpList_append_own_at _ rfl _ _ 47 rfl (w.heap.size + 2) 5 i0 _ 1 1 Tryz.underlying47 HI.out.1 HI.out.2.1 HI.out.2.2.1 HI.out.2.2.2 rfl (by decide) (.slice ar (4 * k) cr) (4 * k) (u8s (kI (ptO j p) k)) rfl HO7.out.1 ⟨w5.heap.size,0,none⟩ 4 4 (u8s [x / 16777216,x / 65536 % 256,x / 256 % 256,x % 256]) rfl rfl (fun i u hi => by rw [Addr.add_lit,Nat.zero_add]; exact HO7.out.2 i u hi) (by intro u hu; simp [u8s] at hu; rcases hu with rfl | rfl | rfl | rfl <;> rfl) (by unfold maxLen; omega) (by omega) (by simp; omega) ?_)
        intro v7 w7 ho7 hg7 _ hat7
        have H7:Hid (w7.ownsRow (w.heap.size + 2) 5 1 v7 (4 * (k + 1)) (u8s (kI (ptO j p) (k + 1))) /\ Below (w.heap.size + 2) W0 w7) := by
          refine ⟨?_,?_⟩
          · show w7.ownsRow _ _ 1 v7 (4 * k + 4) (u8s (kI (ptO j p) k ++ [ptO j p k / 16777216,ptO j p k / 65536 % 256,ptO j p k / 256 % 256,ptO j p k % 256]))
            rw [u8s_app,<- HX.out]
            exact ho7
          · exact (H5.out.2.1.trans ((below_alloc _ _).mono hz5)).grown hg7 (by simp; omega) (fun g e => (own_lt H5.out.1 g e).1)
        obtain ⟨a7,c7,e7,_⟩ := own_form ho7
        subst e7
        clear ho7 hg7 hat7 HO7
        go_wp2
        go_roundw
        case rel => exact ⟨k + 1,by omega,by go_num,H7.out⟩
        case measure => simp [intOf]; omega
    · obtain rfl:k = 4 := by omega
      have k1:¬ ((4:Nat):Int) < 4 := by omega
      obtain ⟨a',c',e',hf⟩ := own_form hown
      injection e' with e1 _ e2
      subst e1 e2
      obtain ⟨g,rfl,hg,hgl,hc⟩ := hf (by omega)
      have hcv:(convert 47 9 (.slice (some ⟨g,0,none⟩) 16 cr)).run Tryz.prog wr = .ok (.string (keyOf j p)) wr := by
        have := run_convert_bytes_arg (P := Tryz.prog) (w := wr) 47 5 (by kernel_rfl) (by kernel_rfl) g 0 16 cr (kI (ptO j p) 4) (kI_len _ 4) (fun i hi => by
          rw [Nat.zero_add]
          exact hc i _ (u8s_get _ i (by rw [kI_len]; exact hi))) 9 (by kernel_rfl)
        rw [kI_str] at this
        exact this
      have HB:Hid (Below w.heap.size w wr) := B0.out.2.2.2.1.trans (hbel.mono (by omega))
      clear hown hbel hc hf HQ
      go_wp2
      go_ret
      exact ⟨rfl,HB.out⟩
end Go.Proofs.YtcnollkkigiobaaGreat
