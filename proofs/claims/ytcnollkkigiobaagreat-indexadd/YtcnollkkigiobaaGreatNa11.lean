import Derived.Test.YtcnollkkigiobaaGreatNa10
import Derived.Test.YtcnollkkigiobaaGreatNa5
import Derived.Test.YtcnollkkigiobaaGreatNa7
import Derived.Deep.RegionHeld3
import Derived.Test.YtcnollkkigiobaaGreatNa9
set_option linter.unusedVariables false
set_option maxRecDepth 100000
namespace Go.Proofs.YtcnollkkigiobaaGreat
open Go.RowKit Go.Deep

theorem list_of_ks {x:Tn} {t:List ByteArray} (h1:x.kn = t.length) (h2:∀ j,j < t.length -> x.ks j = gt t j):t = ksL x := by
  apply List.ext_getElem?
  intro i
  by_cases h:i < t.length
  · unfold ksL
    rw [List.getElem?_eq_getElem h]
    have := h2 i h
    unfold gt at this
    rw [List.getD_eq_getElem?_getD,List.getElem?_eq_getElem h] at this
    simp only [Option.getD_some] at this
    simp [h1,h,this]
  · rw [List.getElem?_eq_none (by omega),List.getElem?_eq_none (by rw [ksL_length]; omega)]

theorem good_leaf {N:Nat -> Tn} {n x:Nat} {dep D:Int} {hk:Bool} {lk:ByteArray} {d:Nat} {t:Ro (d + 1)} {D' : Int} {hk' : Bool} {lk' : ByteArray} (hlf:(N x).lf = true) (h:Good N n x dep D hk lk (d + 1) t D' hk' lk') :
    (N x).kn <= 4 /\ (dep = 0 \/ 2 <= (N x).kn) /\ (N x).dn = 0 /\ (D = 0 \/ D = dep) /\ Chain hk lk (ksL (N x)) hk' lk' /\ (N x).ct = ((N x).kn:Int) := by
  rcases t with t | l
  · obtain ⟨q1,q2,q3,q4,q5⟩ := h.tl
    obtain ⟨hh,⟨b1,b2,b3⟩,b4⟩ := h.bal
    have e := list_of_ks q2 q3
    subst b1
    have hd := h.dd
    rw [b4] at hd
    have ha:Chain hk lk t hk' lk' := h.asc
    rw [e] at ha
    refine ⟨by omega,?_,q4,by simpa using hd,ha,by rw [q5,q2]⟩
    rcases b3 with b3 | b3
    · exact Or.inl (by simpa using b3)
    · exact Or.inr (by omega)
  · have := h.tl.1
    rw [hlf] at this
    cases this

open Go.RowKit Go.Deep

theorem offR_take {d:Nat} {l m:List (Ro d)} {k:Nat} (h:l.take k = m.take k):offR d l k = offR d m k := by
  unfold offR
  rw [h]

theorem prefix_uniq {N:Nat -> Tn} {d y:Nat} (hu:∀ (t t' : Ro d) (x:Nat),Tells N 0 d t x -> Tells N 0 d t' x -> t = t') {ts l:List (Ro d)} (ht:∀ j (h:j < ts.length),Tells N 0 d ts[j] (y + offR d ts j)) (hl:∀ j (h:j < l.length),Tells N 0 d l[j] (y + offR d l j)) (hle:ts.length <= l.length):l.take ts.length = ts := by
  have key:∀ k,k <= ts.length -> ts.take k = l.take k := by
    intro k
    induction k with
    | zero => intro _; simp
    | succ k ih =>
      intro hk
      have e := ih (by omega)
      have h1:k < ts.length := by omega
      have h2:k < l.length := by omega
      have q1 := ht k h1
      have q2 := hl k h2
      rw [offR_take e] at q1
      have q := hu _ _ _ q1 q2
      rw [<- List.take_append_getElem h1,<- List.take_append_getElem h2,e,q]
  have := key ts.length (Nat.le_refl _)
  rw [List.take_length] at this
  exact this.symm

theorem tells_uniq {N:Nat -> Tn}:∀ {d:Nat} (t t' : Ro d) (x:Nat),Tells N 0 d t x -> Tells N 0 d t' x -> t = t'
  | 0,t,_,_,_,_ => t.elim
  | d + 1,.inl t,.inl t',x,h,g => by
    have e1 := list_of_ks h.2.1 h.2.2.1
    have e2 := list_of_ks g.2.1 g.2.2.1
    rw [e1,e2]
  | d + 1,.inl t,.inr l,x,h,g => by
    have h1 := h.1
    rw [g.1] at h1
    cases h1
  | d + 1,.inr l,.inl t,x,h,g => by
    have h1 := h.1
    rw [g.1] at h1
    cases h1
  | d + 1,.inr l,.inr l',x,h,g => by
    have e1:l.length = l'.length := h.2.1.symm.trans g.2.1
    have q := prefix_uniq (y := x + 1) (fun t t' x => tells_uniq t t' x) (fun j hj => h.2.2.2.2.2.2 j hj) (fun j hj => g.2.2.2.2.2.2 j hj) (by omega)
    rw [e1,List.take_length] at q
    rw [q]

theorem bal_fn {d:Nat} {r:Bool} {t:Ro d} {h h' : Nat} (a:BalR d r t h) (b:BalR d r t h'):h = h' := by
  have h1 := bal_depI a
  have h2 := bal_depI b
  omega

theorem bal_fit:∀ {d:Nat} {r:Bool} {t:Ro d} {h:Nat},BalR d r t h -> FitR 4 d t
  | 0,_,t,_,_ => t.elim
  | d + 1,r,.inl t,h,hb => hb.2.1
  | d + 1,r,.inr l,h,hb => by
    obtain ⟨_,_,h',_,hall⟩ := hb
    exact fun t ht => bal_fit (hall t ht)

structure KGood (N:Nat -> Tn) (n x:Nat) (dep D:Int) (hk:Bool) (lk:ByteArray) (d:Nat) (ts:List (Ro d)) (Dk:Int) (hkk:Bool) (lkk:ByteArray):Prop where
  le:x + 1 + (ts.map (nodesR d)).sum <= n
  kd:∀ j (h:j < ts.length),(N x).kd j = ((x + 1 + offR d ts j:Nat):Int)
  ks:∀ j (h:j + 1 < ts.length),(N x).ks j = gt (keysR d ts[j + 1]) 0
  tl:∀ j (h:j < ts.length),Tells N 0 d ts[j] (x + 1 + offR d ts j)
  bal:(ts = [] /\ Dk = D) \/ (ts ≠ [] /\ ∃ h' : Nat,(∀ t,t ∈ ts -> BalR d false t h') /\ Dk = dep + 1 + (h' : Int) /\ (D = 0 \/ D = Dk))
  asc:Chain hk lk (ts.flatMap (keysR d)) hkk lkk

theorem offR_app {d:Nat} (ts:List (Ro d)) (t:Ro d) (j:Nat) (h:j <= ts.length):offR d (ts ++ [t]) j = offR d ts j := by
  unfold offR
  rw [List.take_append_of_le_length h]

theorem KGood.more {N:Nat -> Tn} {n x:Nat} {dep D:Int} {hk:Bool} {lk:ByteArray} {d:Nat} {ts:List (Ro d)} {Dk:Int} {hkk:Bool} {lkk:ByteArray} (hdep:0 <= dep) (h:KGood N n x dep D hk lk d ts Dk hkk lkk) {t:Ro d} {D' : Int} {hk' : Bool} {lk' : ByteArray} (g:Good N n (x + 1 + (ts.map (nodesR d)).sum) (dep + 1) Dk hkk lkk d t D' hk' lk')
    (hkd:(N x).kd ts.length = ((x + 1 + (ts.map (nodesR d)).sum:Nat):Int)) (hks:ts.length ≠ 0 -> (N x).ks (ts.length - 1) = gt (keysR d t) 0):KGood N n x dep D hk lk d (ts ++ [t]) D' hk' lk' := by
  have hall:offR d ts ts.length = (ts.map (nodesR d)).sum := offR_all d ts
  refine ⟨?_,fun j hj => ?_,fun j hj => ?_,fun j hj => ?_,Or.inr ⟨by simp,?_⟩,?_⟩
  · have := g.le
    rw [List.map_append,List.sum_append]
    simp
    omega
  · rw [List.length_append] at hj
    simp at hj
    rw [offR_app ts t j (by omega)]
    by_cases e:j = ts.length
    · subst e; rw [hall]; exact hkd
    · exact h.kd j (by omega)
  · rw [List.length_append] at hj
    simp at hj
    by_cases e:j + 1 = ts.length
    · have q := hks (by omega)
      rw [show ts.length - 1 = j by omega] at q
      rw [q]
      simp [e]
    · rw [List.getElem_append_left (by omega)]
      exact h.ks j (by omega)
  · rw [List.length_append] at hj
    simp at hj
    rw [offR_app ts t j (by omega)]
    by_cases e:j = ts.length
    · subst e
      rw [hall]
      have q := g.tl
      simpa using q
    · rw [List.getElem_append_left (by omega)]
      exact h.tl j (by omega)
  · obtain ⟨hh,hb,hd'⟩ := g.bal
    have hr:decide (dep + 1 = 0) = false := decide_eq_false (by omega)
    rw [hr] at hb
    refine ⟨hh,fun t' ht => ?_,hd',?_⟩
    · rcases List.mem_append.1 ht with ht | ht
      · rcases h.bal with ⟨e,_⟩ | ⟨_,h',hb',hd2,_⟩
        · rw [e] at ht; cases ht
        · have hdd := g.dd
          have e:h' = hh := by omega
          rw [<- e]
          exact hb' t' ht
      · simp at ht
        subst ht
        exact hb
    · rcases h.bal with ⟨_,e⟩ | ⟨_,h',_,hd2,hd3⟩
      · rw [<- e]; exact g.dd
      · have hdd := g.dd
        omega
  · rw [List.flatMap_append]
    refine Chain.app h.asc ?_
    simpa using g.asc

theorem good_inner {N:Nat -> Tn} {n x:Nat} {dep D:Int} {hk:Bool} {lk:ByteArray} {d:Nat} {t:Ro (d + 1)} {D' : Int} {hk' : Bool} {lk' : ByteArray} (hlf:(N x).lf = false) (h:Good N n x dep D hk lk (d + 1) t D' hk' lk') :
    ∃ l:List (Ro d),t = .inr l /\ l.length = (N x).dn /\ 2 <= l.length /\ l.length <= 4 /\ (N x).kn + 1 = l.length /\ (N x).ct = ((l.flatMap (keysR d)).length:Int) := by
  rcases t with t | l
  · have := h.tl.1
    rw [hlf] at this
    cases this
  · obtain ⟨q1,q2,q3,q4,q5,q6,q7⟩ := h.tl
    obtain ⟨hh,⟨b1,b2,_⟩,_⟩ := h.bal
    exact ⟨l,rfl,q2.symm,b1,b2,q4,q3⟩

theorem good_prefix {N:Nat -> Tn} {n x:Nat} {dep D:Int} {hk:Bool} {lk:ByteArray} {d:Nat} {l:List (Ro d)} {D' : Int} {hk' : Bool} {lk' : ByteArray} (h:Good N n x dep D hk lk (d + 1) (.inr l) D' hk' lk') {ts:List (Ro d)} {Dk:Int} {hkk:Bool} {lkk:ByteArray} (g:KGood N n x dep D hk lk d ts Dk hkk lkk) (hle:ts.length <= l.length):l.take ts.length = ts := by
  obtain ⟨q1,q2,q3,q4,q5,q6,q7⟩ := h.tl
  exact prefix_uniq (y := x + 1) (fun t t' x => tells_uniq t t' x) g.tl q7 hle

theorem good_next {N:Nat -> Tn} {n x:Nat} {dep D:Int} {hk:Bool} {lk:ByteArray} {d:Nat} {l:List (Ro d)} {D' : Int} {hk' : Bool} {lk' : ByteArray} (hdep:0 <= dep) (h:Good N n x dep D hk lk (d + 1) (.inr l) D' hk' lk') {ts:List (Ro d)} {Dk:Int} {hkk:Bool} {lkk:ByteArray} (g:KGood N n x dep D hk lk d ts Dk hkk lkk) (hlt:ts.length < l.length) :
    (N x).kd ts.length = ((x + 1 + (ts.map (nodesR d)).sum:Nat):Int) /\ (ts.length ≠ 0 -> (N x).ks (ts.length - 1) = gt (keysR d l[ts.length]) 0) /\ ∃ h2 l2,Good N n (x + 1 + (ts.map (nodesR d)).sum) (dep + 1) Dk hkk lkk d l[ts.length] D' h2 l2 := by
  have hp := good_prefix h g (by omega)
  obtain ⟨q1,q2,q3,q4,q5,q6,q7⟩ := h.tl
  have hoff:offR d l ts.length = (ts.map (nodesR d)).sum := by
    unfold offR
    rw [hp]
  obtain ⟨hh,⟨b1,b2,h',b3,b4⟩,b5⟩ := h.bal
  refine ⟨?_,fun h0 => ?_,?_⟩
  · have := q5 ts.length hlt
    rw [hoff] at this
    rw [this]
    omega
  · have := q6 (ts.length - 1) (by omega)
    rw [this]
    simp only [show ts.length - 1 + 1 = ts.length by omega]
  · have hle := offR_le d l ts.length hlt
    have h3:nodesR (d + 1) (.inr l) = 1 + (l.map (nodesR d)).sum := rfl
    have hasc:Chain hk lk (l.flatMap (keysR d)) hk' lk' := h.asc
    have e:l = l.take ts.length ++ (l[ts.length] :: l.drop (ts.length + 1)) := by
      conv => lhs; rw [<- List.take_append_drop (ts.length + 1) l,<- List.take_append_getElem hlt]
      simp
    rw [e,List.flatMap_append,List.flatMap_cons,hp] at hasc
    obtain ⟨h1,l1,c1,c2⟩ := Chain.split hasc
    obtain ⟨rfl,rfl⟩ := Chain.fn g.asc c1
    obtain ⟨h2,l2,c3,c4⟩ := Chain.split c2
    refine ⟨h2,l2,⟨?_,?_,⟨h',?_,by omega⟩,?_,c3⟩⟩
    · have := q7 ts.length hlt
      rw [hoff] at this
      exact this
    · have := h.le
      omega
    · rw [show decide (dep + 1 = 0) = false from decide_eq_false (by omega)]
      exact b4 _ (List.getElem_mem hlt)
    · rcases g.bal with ⟨_,e2⟩ | ⟨hne,h2',hb2,hd2,_⟩
      · rw [e2]; exact h.dd
      · right
        have hl0:0 < ts.length := List.length_pos_iff.2 hne
        have hmem:ts[0] ∈ l := by
          have:ts[0] = (l.take ts.length)[0]'(by rw [hp]; exact hl0) := by simp only [hp]
          rw [this]
          exact List.mem_of_mem_take (List.getElem_mem _)
        have := bal_fn (hb2 ts[0] (List.getElem_mem hl0)) (b4 ts[0] hmem)
        omega
end Go.Proofs.YtcnollkkigiobaaGreat
