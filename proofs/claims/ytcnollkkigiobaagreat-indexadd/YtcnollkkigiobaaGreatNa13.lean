import Derived.Test.YtcnollkkigiobaaGreatNa11
import Derived.Test.YtcnollkkigiobaaGreatNa12
import Derived.Test.YtcnollkkigiobaaGreatNa1
import Derived.Test.YtcnollkkigiobaaGreatNa10
set_option linter.unusedVariables false
set_option maxRecDepth 100000
namespace Go.Proofs.YtcnollkkigiobaaGreat
open Go.RowKit Go.Deep

theorem flat_congr {S T:Type} (f:S -> List ByteArray) (g:T -> List ByteArray):∀ (l:List S) (m:List T),l.length = m.length -> (∀ k (h:k < l.length) (h' : k < m.length),f l[k] = g m[k]) -> l.flatMap f = m.flatMap g
  | [],[],_,_ => rfl
  | [],_ :: _,h,_ => by simp at h
  | _ :: _,[],h,_ => by simp at h
  | a :: l,b :: m,h,hf => by
    rw [List.flatMap_cons,List.flatMap_cons]
    have h0 := hf 0 (by simp) (by simp)
    simp only [List.getElem_cons_zero] at h0
    rw [h0,flat_congr f g l m (by simpa using h) (fun k hk hk' => by
      have := hf (k + 1) (by simpa using hk) (by simpa using hk')
      simpa using this)]

theorem off_congr {d d' : Nat} {l:List (Ro d)} {m:List (Ro d')} (h:∀ j (h:j < l.length) (h' : j < m.length),nodesR d l[j] = nodesR d' m[j]):∀ k,k <= l.length -> k <= m.length -> offR d l k = offR d' m k
  | 0,_,_ => by rw [offR_zero,offR_zero]
  | k + 1,h1,h2 => by
    rw [offR_succ d l k (by omega),offR_succ d' m k (by omega),off_congr h k (by omega) (by omega),h k (by omega) (by omega)]

theorem tells_nest {N:Nat -> Tn} {n:Nat}:∀ {d' d:Nat} {root:Bool} {t:Ro d} {h x:Nat},Tells N 0 d t x -> x + nodesR d t <= n -> BalR d root t h -> h < d' ->
    ∃ t' : Ro d',nestR N n d' x = some (t',x + nodesR d t) /\ keysR d' t' = keysR d t /\ nodesR d' t' = nodesR d t /\ BalR d' root t' h /\ Tells N 0 d' t' x
  | 0,_,_,_,h,_,_,_,_,hd => by omega
  | d' + 1,0,root,t,h,x,ht,hn,hb,hd => t.elim
  | d' + 1,d + 1,root,.inl t,h,x,ht,hn,hb,hd => by
    have h1:nodesR (d + 1) (.inl t) = 1 := rfl
    have ht2 := ht
    obtain ⟨q1,q2,q3,q4,q5⟩ := ht
    have e := list_of_ks q2 q3
    refine ⟨.inl t,?_,rfl,rfl,hb,ht2⟩
    unfold nestR
    rw [if_pos (by omega),if_pos q1,if_pos q4,h1,<- e]
  | d' + 1,d + 1,root,.inr l,h,x,ht,hn,hb,hd => by
    have h1:nodesR (d + 1) (.inr l) = 1 + (l.map (nodesR d)).sum := rfl
    obtain ⟨q1,q2,q3,q4,q5,q6,q7⟩ := ht
    obtain ⟨b1,b2,h',rfl,b3⟩ := hb
    have key:∀ k,k <= l.length -> ∃ ts:List (Ro d'),kidsF (nestR N n d') (N x).kd (x + 1) k = some (ts,x + 1 + offR d l k) /\ ts.length = k /\ ∀ j (h:j < ts.length) (h2:j < l.length),keysR d' ts[j] = keysR d l[j] /\ nodesR d' ts[j] = nodesR d l[j] /\ BalR d' false ts[j] h' /\ Tells N 0 d' ts[j] (x + 1 + offR d l j) := by
      intro k
      induction k with
      | zero =>
        intro _
        exact ⟨[],by rw [offR_zero]; rfl,rfl,fun j hj => absurd hj (Nat.not_lt_zero _)⟩
      | succ k ih =>
        intro hk
        obtain ⟨ts,e1,e2,e3⟩ := ih (by omega)
        have hkl:k < l.length := by omega
        have hle := offR_le d l k hkl
        obtain ⟨t',f1,f2,f3,f4,f5⟩ := tells_nest (n := n) (d' := d') (q7 k hkl) (by omega) (b3 _ (List.getElem_mem hkl)) (by omega)
        refine ⟨ts ++ [t'],?_,by rw [List.length_append,e2]; rfl,fun j hj hj2 => ?_⟩
        · unfold kidsF
          rw [e1]
          simp only
          rw [if_pos (by rw [q5 k hkl]; omega),f1]
          simp only
          rw [offR_succ d l k hkl]
          rw [show x + 1 + offR d l k + nodesR d l[k] = x + 1 + (offR d l k + nodesR d l[k]) by omega]
        · rw [List.length_append] at hj
          simp at hj
          by_cases e:j = k
          · subst e
            rw [List.getElem_append_right (by omega)]
            simp only [e2,Nat.sub_self,List.getElem_cons_zero]
            exact ⟨f2,f3,f4,f5⟩
          · rw [List.getElem_append_left (by omega)]
            exact e3 j (by omega) hj2
    obtain ⟨ts,e1,e2,e3⟩ := key l.length (Nat.le_refl _)
    have hoff:∀ k,k <= l.length -> offR d' ts k = offR d l k := fun k hk => off_congr (fun j h h' => (e3 j h h').2.1) k (by omega) hk
    have hsum:(ts.map (nodesR d')).sum = (l.map (nodesR d)).sum := by
      have := hoff l.length (Nat.le_refl _)
      rw [offR_all,<- e2,offR_all] at this
      exact this
    have hflat:ts.flatMap (keysR d') = l.flatMap (keysR d) := flat_congr _ _ ts l e2 (fun k hk hk' => (e3 k hk hk').1)
    refine ⟨.inr ts,?_,hflat,?_,⟨by omega,by omega,h',rfl,fun t ht => ?_⟩,?_⟩
    · unfold nestR
      rw [if_pos (by omega),if_neg (by rw [q1]; simp),if_neg (by omega),q2,e1]
      simp only
      rw [offR_all,h1]
      rw [show x + 1 + (l.map (nodesR d)).sum = x + (1 + (l.map (nodesR d)).sum) by omega]
    · show 1 + (ts.map (nodesR d')).sum = 1 + (l.map (nodesR d)).sum
      rw [hsum]
    · obtain ⟨j,hj,rfl⟩ := List.getElem_of_mem ht
      exact (e3 j hj (by omega)).2.2.1
    · refine ⟨q1,by rw [q2,e2],by rw [q3,hflat],by rw [q4,e2],fun k hk => ?_,fun k hk => ?_,fun k hk => ?_⟩
      · rw [hoff k (by omega)]
        exact q5 k (by omega)
      · rw [(e3 (k + 1) hk (by omega)).1]
        exact q6 k (by omega)
      · rw [hoff k (by omega)]
        exact (e3 k hk (by omega)).2.2.2

theorem chain_of_asc:∀ (L:List ByteArray) (hk:Bool) (lk:ByteArray),(∀ i,i < L.length -> (gt L i).size <= 16 /\ (0 < i -> Op.bytesLess (gt L (i - 1)).toList (gt L i).toList = true)) -> (hk = true -> 0 < L.length -> Op.bytesLess lk.toList (gt L 0).toList = true) -> ∃ hk' lk',Chain hk lk L hk' lk'
  | [],hk,lk,_,_ => ⟨hk,lk,rfl,rfl⟩
  | k :: L,hk,lk,h,h0 => by
    obtain ⟨hk',lk',q⟩ := chain_of_asc L true k (fun i hi => by
      have := h (i + 1) (by simpa using hi)
      refine ⟨by simpa [gt] using this.1,fun hi0 => ?_⟩
      have := this.2 (by omega)
      rw [show i + 1 - 1 = (i - 1) + 1 by omega] at this
      simpa [gt] using this) (fun _ hl => by
      have := (h 1 (by simpa using hl)).2 (by omega)
      simpa [gt] using this)
    exact ⟨hk',lk',by simpa [gt] using (h 0 (by simp)).1,fun e => by simpa [gt] using h0 e (by simp),q⟩

theorem asc_of_chain:∀ (L:List ByteArray) (hk:Bool) (lk:ByteArray) {hk' : Bool} {lk' : ByteArray},Chain hk lk L hk' lk' -> (∀ i,i < L.length -> (gt L i).size <= 16 /\ (0 < i -> Op.bytesLess (gt L (i - 1)).toList (gt L i).toList = true)) /\ (hk = true -> 0 < L.length -> Op.bytesLess lk.toList (gt L 0).toList = true)
  | [],hk,lk,_,_,_ => ⟨fun i hi => absurd hi (Nat.not_lt_zero _),fun _ h => absurd h (Nat.lt_irrefl _)⟩
  | k :: L,hk,lk,hk',lk',h => by
    obtain ⟨q1,q2⟩ := asc_of_chain L true k h.2.2
    refine ⟨fun i hi => ?_,fun e _ => by simpa [gt] using h.2.1 e⟩
    cases i with
    | zero => exact ⟨by simpa [gt] using h.1,fun h => absurd h (Nat.lt_irrefl _)⟩
    | succ i =>
      have hi2:i < L.length := by simpa using hi
      refine ⟨by simpa [gt] using (q1 i hi2).1,fun _ => ?_⟩
      cases i with
      | zero =>
        have := q2 rfl hi2
        simpa [gt] using this
      | succ i =>
        have := (q1 (i + 1) hi2).2 (by omega)
        simpa [gt] using this

theorem good_vt {N:Nat -> Tn} {n d:Nat} {t:Ro d} {D' : Int} {hk' : Bool} {lk' : ByteArray} (hn:n <= 5000) (h:Good N n 0 0 0 false { data := #[] } d t D' hk' lk') (he:nodesR d t = n):∃ t',VTt n N t' /\ keysR 21 t' = keysR d t := by
  obtain ⟨hh,hb,_⟩ := h.bal
  have hlow := hb.low (by omega)
  obtain ⟨t',q1,q2,q3,q4,q5⟩ := tells_nest (n := n) (d' := 21) h.tl (by omega) hb (by omega)
  rw [he] at q1
  have hp := nodes_pos d t
  refine ⟨t',⟨by omega,hn,by simpa using q1,⟨hh,by simpa using q4⟩,?_,q5⟩,q2⟩
  rw [q2]
  exact (asc_of_chain _ _ _ h.asc).1

theorem vt_good {N:Nat -> Tn} {n d:Nat} {t' : Ro 21} (h:VTt n N t') (hd:n <= d):∃ (t:Ro d) (D' : Int) (hk' : Bool) (lk' : ByteArray),Good N n 0 0 0 false { data := #[] } d t D' hk' lk' /\ nodesR d t = n := by
  obtain ⟨h1,h2,h3,⟨hh,hb⟩,h5,h6⟩ := h
  have hend := nestR_end h3
  have hnod := hb.nodes
  have hlt:hh < 2 ^ hh := Nat.lt_two_pow_self
  obtain ⟨t,q1,q2,q3,q4,q5⟩ := tells_nest (n := n) (d' := d) h6 (by omega) hb (by omega)
  obtain ⟨hk',lk',hc⟩ := chain_of_asc (keysR d t) false { data := #[] } (by rw [q2]; exact h5) (fun e => by cases e)
  exact ⟨t,(hh:Int),hk',lk',⟨q5,by omega,⟨hh,by simpa using q4,by simp⟩,.inl rfl,hc⟩,by omega⟩
open Go.RowKit Go.Deep

theorem RetRd.from {N:Nat -> Tn} {rb b o n c x:Nat} {dep D:Int} {hk:Bool} {lk:ByteArray} {d:Nat} {w W:World} {e:Ending} {w' : World} (h:RetRd N rb b o n c x dep D hk lk d W e w') (hg:w.grownBy W (some rb)):RetRd N rb b o n c x dep D hk lk d w e w' := by
  obtain ⟨h1,v,ok,e1,h2⟩ := h
  refine ⟨grown_trans hg h1,v,ok,e1,?_⟩
  rcases h2 with ⟨q1,t,D',hk',lk',q2,q3,q4⟩ | q
  · exact Or.inl ⟨q1,t,D',hk',lk',q2,q3,q4.mono (Nat.le_refl _) (fun bb hs _ => ⟨by have := hg.size; show w.heap.size <= bb; have hs' : W.heap.size <= bb := hs; omega,rfl⟩)⟩
  · exact Or.inr q

def RetTree (w:World) (n:Nat) (N:Nat -> Tn) (e:Ending) (w' : World):Prop :=
  Below w.heap.size w w' /\ ∃ v ok,e = .returned (.tuple #[v,.bool ok]) /\
    ((ok = true /\ ∃ (t:Ro n) (t' : Ro 21) (h:Nat),VTt n N t' /\ keysR 21 t' = keysR n t /\ BalR n true t h /\ Tells N 0 n t 0 /\ nodesR n t = n /\ TAt (fun b => w.heap.size <= b) w' n t v) \/ (ok = false /\ ¬ VT n N))

open Go.RowKit Go.Deep

def Asc (L:List ByteArray):Prop := L.Pairwise (fun a b => Op.bytesLess a.toList b.toList = true)
def cntL (key:ByteArray) (L:List ByteArray):Nat := (L.filter (fun k => Op.bytesLess k.toList key.toList)).length

theorem asc_of_ascK {L:List ByteArray} (h:AscK L L.length):Asc L := by
  unfold Asc
  rw [List.pairwise_iff_getElem]
  intro i j hi hj hij
  have q := asc_less (X := gt L) (k := L.length) (fun m hm h0 => (h m hm).2 h0) j hj i hij
  unfold gt at q
  rw [List.getD_eq_getElem?_getD,List.getD_eq_getElem?_getD,List.getElem?_eq_getElem hi,List.getElem?_eq_getElem hj] at q
  exact q

theorem cntL_app (key:ByteArray) (L M:List ByteArray):cntL key (L ++ M) = cntL key L + cntL key M := by
  unfold cntL
  rw [List.filter_append,List.length_append]
theorem cntL_all {key:ByteArray} {L:List ByteArray} (h:∀ k,k ∈ L -> Op.bytesLess k.toList key.toList = true):cntL key L = L.length := by
  unfold cntL
  rw [List.filter_eq_self.2 h]
theorem cntL_none {key:ByteArray} {L:List ByteArray} (h:∀ k,k ∈ L -> Op.bytesLess k.toList key.toList = false):cntL key L = 0 := by
  unfold cntL
  rw [List.length_eq_zero_iff,List.filter_eq_nil_iff]
  intro k hk
  rw [h k hk]
  simp

theorem cntL_at {key:ByteArray} {L:List ByteArray} {i:Nat} (hi:i <= L.length) (h1:∀ j,j < i -> Op.bytesLess (gt L j).toList key.toList = true) (h2:∀ j,i <= j -> j < L.length -> Op.bytesLess (gt L j).toList key.toList = false):cntL key L = i := by
  rw [<- List.take_append_drop i L,cntL_app,cntL_all,cntL_none,List.length_take]
  · omega
  · intro k hk
    obtain ⟨j,hj,rfl⟩ := List.getElem_of_mem hk
    rw [List.length_drop] at hj
    have q := h2 (i + j) (by omega) (by omega)
    unfold gt at q
    rw [List.getD_eq_getElem?_getD,List.getElem?_eq_getElem (by omega)] at q
    rw [List.getElem_drop]
    exact q
  · intro k hk
    obtain ⟨j,hj,rfl⟩ := List.getElem_of_mem hk
    rw [List.length_take] at hj
    have q := h1 j (by omega)
    unfold gt at q
    rw [List.getD_eq_getElem?_getD,List.getElem?_eq_getElem (by omega)] at q
    rw [List.getElem_take]
    exact q

theorem gt_mem {L:List ByteArray} {i:Nat} (h:i < L.length):gt L i ∈ L := by
  unfold gt
  rw [List.getD_eq_getElem?_getD,List.getElem?_eq_getElem h]
  exact List.getElem_mem h

theorem asc_lt {L:List ByteArray} (h:Asc L) {i j:Nat} (hij:i < j) (hj:j < L.length):Op.bytesLess (gt L i).toList (gt L j).toList = true := by
  have q := List.pairwise_iff_getElem.1 h i j (by omega) hj hij
  unfold gt
  rw [List.getD_eq_getElem?_getD,List.getD_eq_getElem?_getD,List.getElem?_eq_getElem (by omega),List.getElem?_eq_getElem hj]
  exact q

theorem less_asym {a b:List UInt8} (h:Op.bytesLess a b = true):Op.bytesLess b a = false := by
  cases e:Op.bytesLess b a with
  | false => rfl
  | true =>
    have := less_trans _ _ _ h e
    rw [less_irrefl] at this
    cases this

theorem less_of_lt_le {x y z:List UInt8} (h:Op.bytesLess x y = true) (h2:Op.bytesLess z y = false):Op.bytesLess x z = true := by
  have t := less_total y z
  cases e:Op.bytesLess y z with
  | true => exact less_trans _ _ _ h e
  | false =>
    rw [h2,e] at t
    simp at t
    rw [t]
    exact h

theorem asc_kid {d:Nat} {l:List (Ro d)} (ha:Asc (l.flatMap (keysR d))) (i:Nat) (hi:i < l.length):Asc (keysR d l[i]) := by
  have e:l = l.take i ++ (l[i] :: l.drop (i + 1)) := by
    conv => lhs; rw [<- List.take_append_drop (i + 1) l,<- List.take_append_getElem hi]
    simp
  rw [e,List.flatMap_append,List.flatMap_cons] at ha
  unfold Asc at ha ⊢
  rw [List.pairwise_append] at ha
  have := ha.2.1
  rw [List.pairwise_append] at this
  exact this.1
end Go.Proofs.YtcnollkkigiobaaGreat

namespace Go.Proofs.YtcnollkkigiobaaGreat

def insK (key:ByteArray) (L:List ByteArray):List ByteArray := L.take (cntL key L) ++ key :: L.drop (cntL key L)
def splL {T:Type} (L:List T):List (List T) := if L.length <= 4 then [L] else [L.take 3,L.drop 3]
def KidIs {d:Nat} (l:List (Ro d)) (key:ByteArray) (i:Nat):Prop :=
  i < l.length /\ (∀ h:i < l.length,0 < i -> Op.bytesLess key.toList (gt (keysR d l[i]) 0).toList = false) /\ (∀ h:i + 1 < l.length,Op.bytesLess key.toList (gt (keysR d l[i + 1]) 0).toList = true)
def InsR (key:ByteArray):(d:Nat) -> Ro d -> List (Ro d) -> Prop
  | 0,t,_ => t.elim
  | d + 1,.inl ks,r => r = (splL (insK key ks)).map Sum.inl
  | d + 1,.inr l,r => ∃ i,KidIs l key i /\ ∃ (h:i < l.length) (r' : List (Ro d)),InsR key d l[i] r' /\ r = (splL (l.take i ++ r' ++ l.drop (i + 1))).map Sum.inr

theorem InsR_inl (key:ByteArray) (d:Nat) (ks:List ByteArray) (r:List (Ro (d + 1))):InsR key (d + 1) (.inl ks) r = (r = (splL (insK key ks)).map Sum.inl) := rfl
theorem InsR_inr (key:ByteArray) (d:Nat) (l:List (Ro d)) (r:List (Ro (d + 1))):InsR key (d + 1) (.inr l) r = ∃ i,KidIs l key i /\ ∃ (h:i < l.length) (r' : List (Ro d)),InsR key d l[i] r' /\ r = (splL (l.take i ++ r' ++ l.drop (i + 1))).map Sum.inr := rfl

theorem first_lt {d:Nat} {l:List (Ro d)} (ha:Asc (l.flatMap (keysR d))) (hp:∀ k (h:k < l.length),0 < (keysR d l[k]).length) {i j:Nat} (hij:i < j) (hj:j < l.length):Op.bytesLess (gt (keysR d (l[i]'(by omega))) 0).toList (gt (keysR d l[j]) 0).toList = true := by
  unfold Asc at ha
  rw [List.pairwise_flatMap] at ha
  have q := (List.pairwise_iff_getElem.1 ha.2) i j (by omega) hj hij
  exact q _ (gt_mem (hp i (by omega))) _ (gt_mem (hp j hj))

theorem KidIs.fn {d:Nat} {l:List (Ro d)} {key:ByteArray} (ha:Asc (l.flatMap (keysR d))) (hp:∀ k (h:k < l.length),0 < (keysR d l[k]).length) {i j:Nat} (h1:KidIs l key i) (h2:KidIs l key j):i = j := by
  have key1:∀ {i j:Nat},KidIs l key i -> KidIs l key j -> ¬ i < j := by
    intro i j h1 h2 hij
    have q1 := h1.2.2 (by have := h2.1; omega)
    have q2 := h2.2.1 h2.1 (by omega)
    by_cases e:i + 1 = j
    · subst e
      rw [q1] at q2
      cases q2
    · have q3 := first_lt ha hp (show i + 1 < j by omega) h2.1
      rw [less_trans _ _ _ q1 q3] at q2
      cases q2
  have a1 := key1 h1 h2
  have a2 := key1 h2 h1
  omega

theorem bal_keys:∀ {d:Nat} {t:Ro d} {h:Nat},BalR d false t h -> 0 < (keysR d t).length
  | 0,t,h,hb => t.elim
  | d + 1,.inl t,h,hb => by
    obtain ⟨_,_,q⟩ := hb
    show 0 < t.length
    rcases q with q | q
    · cases q
    · omega
  | d + 1,.inr l,h,hb => by
    obtain ⟨h2,_,h',_,hall⟩ := hb
    show 0 < (l.flatMap (keysR d)).length
    match l,h2,hall with
    | t :: l',_,hall =>
      have := bal_keys (hall t (by simp))
      rw [List.flatMap_cons,List.length_append]
      omega

theorem InsR.fn {key:ByteArray}:∀ {d:Nat} {t:Ro d} {root:Bool} {h:Nat} {r r' : List (Ro d)},BalR d root t h -> Asc (keysR d t) -> InsR key d t r -> InsR key d t r' -> r = r'
  | 0,t,_,_,_,_,_,_,_,_ => t.elim
  | d + 1,.inl ks,root,h,r,r',hb,ha,h1,h2 => by
    rw [InsR_inl] at h1 h2
    rw [h1,h2]
  | d + 1,.inr l,root,h,r,r',hb,ha,h1,h2 => by
    obtain ⟨_,_,h',_,hall⟩ := hb
    rw [InsR_inr] at h1 h2
    obtain ⟨i,k1,hi,s,e1,rfl⟩ := h1
    obtain ⟨j,k2,hj,s',e2,rfl⟩ := h2
    have ha' : Asc (l.flatMap (keysR d)) := ha
    have e:i = j := KidIs.fn ha' (fun k hk => bal_keys (hall _ (List.getElem_mem hk))) k1 k2
    subst e
    rw [InsR.fn (hall _ (List.getElem_mem hi)) (asc_kid ha' i hi) e1 e2]

theorem splL_one {T:Type} {L:List T} (h:L.length <= 4):splL L = [L] := by unfold splL; rw [if_pos h]
theorem splL_two {T:Type} {L:List T} (h:¬ L.length <= 4):splL L = [L.take 3,L.drop 3] := by unfold splL; rw [if_neg h]
theorem insK_length (key:ByteArray) (L:List ByteArray):(insK key L).length = L.length + 1 := by
  unfold insK
  rw [List.length_append,List.length_cons,List.length_take,List.length_drop]
  have:cntL key L <= L.length := List.length_filter_le _ _
  omega

theorem InsR.bal {key:ByteArray}:∀ {d:Nat} {t:Ro d} {root:Bool} {h:Nat} {r:List (Ro d)},BalR d root t h -> InsR key d t r ->
    (∃ y,r = [y] /\ BalR d root y h) \/ (∃ y z,r = [y,z] /\ BalR d false y h /\ BalR d false z h)
  | 0,t,_,_,_,_,_ => t.elim
  | d + 1,.inl ks,root,h,r,hb,h1 => by
    obtain ⟨rfl,h4,hr⟩ := hb
    rw [InsR_inl] at h1
    have hl := insK_length key ks
    by_cases e:(insK key ks).length <= 4
    · rw [splL_one e] at h1
      refine .inl ⟨.inl (insK key ks),h1,rfl,e,?_⟩
      rcases hr with hr | hr
      · exact .inl hr
      · exact .inr (by omega)
    · rw [splL_two e] at h1
      refine .inr ⟨.inl ((insK key ks).take 3),.inl ((insK key ks).drop 3),h1,⟨rfl,?_,.inr ?_⟩,⟨rfl,?_,.inr ?_⟩⟩
      · rw [List.length_take]; omega
      · rw [List.length_take]; omega
      · rw [List.length_drop]; omega
      · rw [List.length_drop]; omega
  | d + 1,.inr l,root,h,r,hb,h1 => by
    obtain ⟨h2,h4,h',rfl,hall⟩ := hb
    rw [InsR_inr] at h1
    obtain ⟨i,k1,hi,s,e1,rfl⟩ := h1
    have q := InsR.bal (hall _ (List.getElem_mem hi)) e1
    have hs:(s.length = 1 \/ s.length = 2) /\ ∀ t,t ∈ s -> BalR d false t h' := by
      rcases q with ⟨y,rfl,hy⟩ | ⟨y,z,rfl,hy,hz⟩
      · exact ⟨.inl rfl,fun t ht => by simp at ht; subst ht; exact hy⟩
      · refine ⟨.inr rfl,fun t ht => ?_⟩
        simp at ht
        rcases ht with rfl | rfl
        · exact hy
        · exact hz
    have hlen:(l.take i ++ s ++ l.drop (i + 1)).length = l.length - 1 + s.length := by
      rw [List.length_append,List.length_append,List.length_take,List.length_drop]
      omega
    have hmem:∀ t,t ∈ l.take i ++ s ++ l.drop (i + 1) -> BalR d false t h' := by
      intro t ht
      rw [List.mem_append,List.mem_append] at ht
      rcases ht with (ht | ht) | ht
      · exact hall t (List.mem_of_mem_take ht)
      · exact hs.2 t ht
      · exact hall t (List.mem_of_mem_drop ht)
    have hs1 := hs.1
    generalize l.take i ++ s ++ l.drop (i + 1) = M at hlen hmem ⊢
    by_cases e:M.length <= 4
    · rw [splL_one e]
      exact .inl ⟨.inr M,rfl,by omega,e,h',rfl,hmem⟩
    · rw [splL_two e]
      refine .inr ⟨.inr (M.take 3),.inr (M.drop 3),rfl,⟨?_,?_,h',rfl,fun t ht => hmem t (List.mem_of_mem_take ht)⟩,⟨?_,?_,h',rfl,fun t ht => hmem t (List.mem_of_mem_drop ht)⟩⟩
      · rw [List.length_take]; omega
      · rw [List.length_take]; omega
      · rw [List.length_drop]; omega
      · rw [List.length_drop]; omega
open Go.RowKit Go.Deep

def fst1 {d:Nat} (l:List (Ro d)) (k:Nat):ByteArray := match l[k]? with
  | some t => gt (keysR d t) 0
  | none => { data := #[] }
theorem fst1_at {d:Nat} {l:List (Ro d)} {k:Nat} (h:k < l.length):fst1 l k = gt (keysR d l[k]) 0 := by
  unfold fst1
  rw [List.getElem?_eq_getElem h]

set_option maxHeartbeats 4000000 in
theorem child_any (d:Nat) (l:List (Ro d)) (v:Value) (key:ByteArray) (w:World) (hv:NA w (d + 1) (.inr l) v) (hp:∀ k (h:k < l.length),0 < (keysR d l[k]).length) (hnod:nodesR (d + 1) (.inr l) <= 5000) (hlen:∀ k (h:k < l.length),(keysR d l[k]).length <= 1099511627776) :
    Calls Tryz.prog 115 #[v,.string key] w fun e w' => ∃ i:Nat,e = .returned (.int .i64 (i:Int)) /\ KidIs l key i /\ Below w.heap.size w w' := by
  obtain ⟨ka,kc,b,cc,xs,rfl,_,hb,hl0,hx,hk⟩ := hv
  have HKid:Hid (∀ W:World,Below w.heap.size w W -> ∀ k (h:k < l.length),∃ lf ka kn kc ca cn cc,W.cell? ⟨b,k * 3,none⟩ = some (.bool lf) /\ W.cell? ⟨b,k * 3 + 1,none⟩ = some (.slice ka kn kc) /\ W.cell? ⟨b,k * 3 + 2,none⟩ = some (.slice ca cn cc) /\ NA W d l[k] (.agg #[.bool lf,.slice ka kn kc,.slice ca cn cc])) := by
    intro W hW k h
    obtain ⟨lf,ka,kn,kc,ca,cn,cc,h0,h1,h2,h3⟩ := kid_at hx hk k h
    exact ⟨lf,ka,kn,kc,ca,cn,cc,(hW.cell (p := ⟨b,_,none⟩) hb).trans h0,(hW.cell (p := ⟨b,_,none⟩) hb).trans h1,(hW.cell (p := ⟨b,_,none⟩) hb).trans h2,NA.below h3 hW⟩
  have HNod:Hid ((∀ k (h:k < l.length),nodesR d l[k] <= 5000) /\ (∀ k (h:k < l.length),(keysR d l[k]).length <= 1099511627776) /\ ∀ k (h:k < l.length),0 < (keysR d l[k]).length) := ⟨fun k h => by have := kid_le d l k h; omega,hlen,hp⟩
  have hl63:l.length <= 5000 := by have := kids_le d l; omega
  obtain ⟨ln,hln⟩:∃ ln,ln = l.length := ⟨_,rfl⟩
  rw [<- hln] at hl0 hl63 ⊢
  have HLn:Hid (ln = l.length) := hln
  clear hnod hlen hp hx hk hln
  go_enter Tryz.func115,Tryz.ntmps115
  go_upto_region 3 with fail
  have S1:Hid (Bx (w.alloc (.cells #[.bool false,.slice ka 0 kc,.slice (some ⟨b,0,none⟩) ln cc] 91)) w.heap.size 91 #[.bool false,.slice ka 0 kc,.slice (some ⟨b,0,none⟩) ln cc] /\ Below w.heap.size w (w.alloc (.cells #[.bool false,.slice ka 0 kc,.slice (some ⟨b,0,none⟩) ln cc] 91))) := ⟨Bx.new _ _ _,below_alloc _ _⟩
  generalize (w.alloc (.cells #[.bool false,.slice ka 0 kc,.slice (some ⟨b,0,none⟩) ln cc] 91)) = W at S1 ⊢
  go_loopw [5,6] (fun q i wr => ∃ k p:Nat,k <= ln /\ 1 <= k /\ i = .int .i64 k /\ q = .int .i64 p /\ p < k /\ (0 < p -> Op.bytesLess key.toList (fst1 l p).toList = false) /\ (∀ j,p < j -> j < k -> Op.bytesLess key.toList (fst1 l j).toList = true) /\ Bx wr w.heap.size 91 #[.bool false,.slice ka 0 kc,.slice (some ⟨b,0,none⟩) ln cc] /\ Below w.heap.size w wr) (fun _ i _ => ln - (intOf i).toNat)
  case atStart => exact ⟨1,0,by omega,by omega,rfl,rfl,by omega,fun h => absurd h (by omega),fun j h1 h2 => absurd h1 (by omega),S1.out.1,S1.out.2⟩
  case round =>
    obtain ⟨k,p,hk,hk1,rfl,rfl,hpk,hp1,hp2,hbx,hbel⟩ := hrel
    clear S1
    have HS:Hid ((0 < p -> Op.bytesLess key.toList (fst1 l p).toList = false) /\ (∀ j,p < j -> j < k -> Op.bytesLess key.toList (fst1 l j).toList = true) /\ Bx wr w.heap.size 91 #[.bool false,.slice ka 0 kc,.slice (some ⟨b,0,none⟩) ln cc] /\ Below w.heap.size w wr) := ⟨hp1,hp2,hbx,hbel⟩
    have y2 := hbx.cell 2
    simp at y2
    have hz := hbx.lt
    clear hbx hbel hp1 hp2
    by_cases hlt:k < ln
    · have hlk:k < l.length := by rw [<- HLn.out]; exact hlt
      obtain ⟨lf1,ka1,kn1,kc1,ca1,cn1,cc1,c0,c1,c2,hna⟩ := HKid.out wr HS.out.2.2.2 k hlk
      have HNA:Hid (NA wr d l[k] (.agg #[.bool lf1,.slice ka1 kn1 kc1,.slice ca1 cn1 cc1])) := hna
      have HK:Hid (Calls Tryz.prog 58 #[.agg #[.bool lf1,.slice ka1 kn1 kc1,.slice ca1 cn1 cc1]] wr (RetStrs wr (keysR d l[k]))) := keys_any d l[k] _ wr HNA.out (HNod.out.1 k hlk) (HNod.out.2.1 k hlk)
      have hk0:(0:Int) <= (k:Int) := by omega
      have hk2:(k:Int) < (ln:Int) := by omega
      clear hna
      go_wp2_with fail
      refine HK.out.mono ?_
      rintro e w1 ⟨a1,cc2,rfl,ho1,hb1,_,_⟩
      have hpos := HNod.out.2.2 k hlk
      obtain ⟨g1,rfl,_,hr1⟩ := ho1.resolve_left (by omega)
      have s1 := hr1.cell hpos
      have hf := fst1_at hlk
      rw [<- hf] at s1
      have HB:Hid (Bx w1 w.heap.size 91 #[.bool false,.slice ka 0 kc,.slice (some ⟨b,0,none⟩) ln cc] /\ Below w.heap.size w w1) := ⟨HS.out.2.2.1.below hb1,HS.out.2.2.2.trans (hb1.mono HS.out.2.2.2.size)⟩
      generalize (keysR d l[k]).length = m at hpos s1 ⊢
      have hm0:(0:Int) < (m:Int) := by omega
      have htot := less_total key.toList (fst1 l k).toList
      clear hr1 hb1 c0 c1 c2 y2 HK HNA hf
      cases hl:Op.bytesLess key.toList (fst1 l k).toList with
      | true =>
        rw [hl] at htot
        have ht2:(Op.bytesLess (fst1 l k).toList key.toList || (fst1 l k).toList == key.toList) = false := htot
        have HN:Hid (∀ j,p < j -> j < k + 1 -> Op.bytesLess key.toList (fst1 l j).toList = true) := fun j h1 h2 => by
          by_cases e:j = k
          · subst e; exact hl
          · exact HS.out.2.1 j h1 (by omega)
        clear htot hl
        go_wp2
        go_roundw
        case rel => exact ⟨k + 1,p,by omega,by omega,by go_num,rfl,by omega,HS.out.1,HN.out,HB.out⟩
        case measure => simp [intOf]; omega
      | false =>
        rw [hl] at htot
        have ht2:(Op.bytesLess (fst1 l k).toList key.toList || (fst1 l k).toList == key.toList) = true := htot
        have HN:Hid (Op.bytesLess key.toList (fst1 l k).toList = false) := hl
        clear htot hl
        go_wp2
        go_roundw
        case rel => exact ⟨k + 1,k,by omega,by omega,by go_num,rfl,by omega,fun _ => HN.out,fun j h1 h2 => absurd h1 (by omega),HB.out⟩
        case measure => simp [intOf]; omega
    · have e:k = ln := by omega
      have HF:Hid (KidIs l key p) := by
        have hn := HLn.out
        refine ⟨by omega,fun h h0 => ?_,fun h => ?_⟩
        · rw [<- fst1_at h]; exact HS.out.1 h0
        · rw [<- fst1_at h]; exact HS.out.2.1 (p + 1) (by omega) (by omega)
      subst e
      go_wp2
      go_ret
      exact ⟨p,rfl,HF.out,HS.out.2.2.2⟩
open Go.RowKit Go.Deep

structure TlSt (w wr:World) (B n m:Nat) (v q:Value) (N:Nat -> Tn) (KA DA:Nat -> Option Addr) (N' : Nat -> Tn) (KA' DA' : Nat -> Option Addr) (KC' DC' : Nat -> Nat) (tb:Nat) (C:Int) (ka:Option Addr) (kn kc:Nat) (da:Option Addr) (dn dc:Nat) (LK:List ByteArray) (LD:List Int):Prop where
  gt:GT wr B q m N' KA' DA' KC' DC'
  old:∀ i,i < n -> N' i = N i /\ KA' i = KA i /\ DA' i = DA i
  new:∀ i,n <= i -> i < m -> ((N' i).kn ≠ 0 -> ∃ g,KA' i = some ⟨g,0,none⟩ /\ w.heap.size <= g) /\ ((N' i).dn ≠ 0 -> ∃ g,DA' i = some ⟨g,0,none⟩ /\ w.heap.size <= g)
  zero:(N' n).kn = 0 /\ (N' n).dn = 0 /\ n < m
  box:Bx wr tb 168 #[.bool false,.slice ka kn kc,.slice da dn dc,.int .i64 C]
  tbw:w.heap.size <= tb /\ ¬ UsedT q m N' KA' DA' tb
  own1:wr.ownsRow B 9 1 (.slice ka kn kc) kn (strL LK) /\ kn = LK.length
  own2:wr.ownsRow B 2 1 (.slice da dn dc) dn (intL LD) /\ dn = LD.length
  far1:∀ g,(Value.slice ka kn kc).ownBlock = some g -> (w.heap.size <= g /\ g ≠ tb) /\ ¬ UsedT q m N' KA' DA' g
  far2:∀ g,(Value.slice da dn dc).ownBlock = some g -> (w.heap.size <= g /\ g ≠ tb) /\ ¬ UsedT q m N' KA' DA' g
  fr:w.grownBy wr v.ownBlock
  qat:q.ownBlock = v.ownBlock \/ ∃ g,q.ownBlock = some g /\ w.heap.size <= g

section
variable {w wr w1 w2:World} {B n m:Nat} {v q:Value} {N:Nat -> Tn} {KA DA:Nat -> Option Addr} {N' : Nat -> Tn} {KA' DA' : Nat -> Option Addr} {KC' DC' : Nat -> Nat} {tb:Nat} {C:Int} {ka:Option Addr} {kn kc:Nat} {da:Option Addr} {dn dc:Nat} {LK:List ByteArray} {LD:List Int}

theorem TlSt.key (h:TlSt w wr B n m v q N KA DA N' KA' DA' KC' DC' tb C ka kn kc da dn dc LK LD) (hb:Below wr.heap.size wr w1) {ka2:Option Addr} {kc2:Nat} {s:ByteArray} (ho:w2.ownsRow B 9 1 (.slice ka2 (kn + 1) kc2) (kn + 1) (strL LK ++ [.string s])) (hg:w1.grownBy w2 (Value.slice ka kn kc).ownBlock) (hat:(Value.slice ka2 (kn + 1) kc2).ownBlock = (Value.slice ka kn kc).ownBlock \/ (Value.slice ka2 (kn + 1) kc2).ownBlock = some w1.heap.size) :
    TlSt w (w2.setCell ⟨tb,1,none⟩ (.slice ka2 (kn + 1) kc2)) B n m v q N KA DA N' KA' DA' KC' DC' tb C ka2 (kn + 1) kc2 da dn dc (LK ++ [s]) LD /\ Bx w2 tb 168 #[.bool false,.slice ka kn kc,.slice da dn dc,.int .i64 C] := by
  have hs := hb.size
  have hs2 := hg.size
  have hzw:w.heap.size <= wr.heap.size := h.fr.size
  have blk:∀ x,x < wr.heap.size -> (Value.slice ka kn kc).ownBlock ≠ some x -> w2.heap[x]? = wr.heap[x]? := fun x hx hne => (hg.block x (by omega) (fun e => hne e.symm)).trans (hb.block x hx)
  have blk2:∀ x,x < wr.heap.size -> (Value.slice ka kn kc).ownBlock ≠ some x -> x ≠ tb -> (w2.setCell ⟨tb,1,none⟩ (.slice ka2 (kn + 1) kc2)).heap[x]? = wr.heap[x]? := fun x hx hne ht => (Below.heap_setCell _ _ _ _ (show x ≠ tb from ht)).trans (blk x hx hne)
  have tblt := h.box.lt
  have bx2:Bx w2 tb 168 #[.bool false,.slice ka kn kc,.slice da dn dc,.int .i64 C] := h.box.of_block (blk tb tblt (fun e => (h.far1 tb e).1.2 rfl))
  have hlt1 := own_lt h.own1.1
  have n2:∀ g,(Value.slice da dn dc).ownBlock = some g -> (Value.slice ka kn kc).ownBlock ≠ some g := fun g e => own_ne h.own2.1 h.own1.1 (by decide) g e
  have two:∀ g,(Value.slice ka2 (kn + 1) kc2).ownBlock = some g -> (Value.slice ka kn kc).ownBlock = some g \/ wr.heap.size <= g := fun g e => by
    rcases hat with h1 | h1
    · rw [h1] at e; exact .inl e
    · rw [h1] at e; injection e with e; exact .inr (by omega)
  refine ⟨⟨h.gt.keep (fun x hx => blk2 x (h.gt.used hx).2 (fun e => (h.far1 x e).2 hx) (fun e => h.tbw.2 (e ▸ hx))),h.old,h.new,h.zero,?_,h.tbw,⟨?_,by rw [List.length_append,<- h.own1.2]; rfl⟩,⟨own_keep h.own2.1 (fun g e => blk2 g (own_lt h.own2.1 g e).2 (n2 g e) (h.far2 g e).1.2),h.own2.2⟩,fun g e => ?_,h.far2,?_,h.qat⟩,bx2⟩
  · exact bx2.set 1 _
  · rw [strL_app]
    refine own_keep ho (fun g e => Below.heap_setCell _ _ _ _ (show g ≠ tb from ?_))
    rcases two g e with h1 | h1
    · exact (h.far1 g h1).1.2
    · omega
  · rcases two g e with h1 | h1
    · exact h.far1 g h1
    · exact ⟨⟨by omega,by omega⟩,fun q => by have := (h.gt.used q).2; omega⟩
  · refine ⟨hg.os.trans (hb.os.trans h.fr.os),hg.tape.trans (hb.tape.trans h.fr.tape),hg.output.trans (hb.output.trans h.fr.output),by simp [World.setCell]; omega,fun k hk hne => ?_⟩
    exact (blk2 k (by omega) (fun e => by have := (h.far1 k e).1; omega) (by have := h.tbw.1; omega)).trans (h.fr.block k hk hne)

theorem TlSt.kid (h:TlSt w wr B n m v q N KA DA N' KA' DA' KC' DC' tb C ka kn kc da dn dc LK LD) (hb:Below wr.heap.size wr w1) {da2:Option Addr} {dc2:Nat} {s:Int} (ho:w2.ownsRow B 2 1 (.slice da2 (dn + 1) dc2) (dn + 1) (intL LD ++ [.int .i64 s])) (hg:w1.grownBy w2 (Value.slice da dn dc).ownBlock) (hat:(Value.slice da2 (dn + 1) dc2).ownBlock = (Value.slice da dn dc).ownBlock \/ (Value.slice da2 (dn + 1) dc2).ownBlock = some w1.heap.size) :
    TlSt w (w2.setCell ⟨tb,2,none⟩ (.slice da2 (dn + 1) dc2)) B n m v q N KA DA N' KA' DA' KC' DC' tb C ka kn kc da2 (dn + 1) dc2 LK (LD ++ [s]) /\ Bx w2 tb 168 #[.bool false,.slice ka kn kc,.slice da dn dc,.int .i64 C] := by
  have hs := hb.size
  have hs2 := hg.size
  have hzw:w.heap.size <= wr.heap.size := h.fr.size
  have blk:∀ x,x < wr.heap.size -> (Value.slice da dn dc).ownBlock ≠ some x -> w2.heap[x]? = wr.heap[x]? := fun x hx hne => (hg.block x (by omega) (fun e => hne e.symm)).trans (hb.block x hx)
  have blk2:∀ x,x < wr.heap.size -> (Value.slice da dn dc).ownBlock ≠ some x -> x ≠ tb -> (w2.setCell ⟨tb,2,none⟩ (.slice da2 (dn + 1) dc2)).heap[x]? = wr.heap[x]? := fun x hx hne ht => (Below.heap_setCell _ _ _ _ (show x ≠ tb from ht)).trans (blk x hx hne)
  have tblt := h.box.lt
  have bx2:Bx w2 tb 168 #[.bool false,.slice ka kn kc,.slice da dn dc,.int .i64 C] := h.box.of_block (blk tb tblt (fun e => (h.far2 tb e).1.2 rfl))
  have n2:∀ g,(Value.slice ka kn kc).ownBlock = some g -> (Value.slice da dn dc).ownBlock ≠ some g := fun g e => own_ne h.own1.1 h.own2.1 (by decide) g e
  have two:∀ g,(Value.slice da2 (dn + 1) dc2).ownBlock = some g -> (Value.slice da dn dc).ownBlock = some g \/ wr.heap.size <= g := fun g e => by
    rcases hat with h1 | h1
    · rw [h1] at e; exact .inl e
    · rw [h1] at e; injection e with e; exact .inr (by omega)
  refine ⟨⟨h.gt.keep (fun x hx => blk2 x (h.gt.used hx).2 (fun e => (h.far2 x e).2 hx) (fun e => h.tbw.2 (e ▸ hx))),h.old,h.new,h.zero,?_,h.tbw,⟨own_keep h.own1.1 (fun g e => blk2 g (own_lt h.own1.1 g e).2 (n2 g e) (h.far1 g e).1.2),h.own1.2⟩,⟨?_,by rw [List.length_append,<- h.own2.2]; rfl⟩,h.far1,fun g e => ?_,?_,h.qat⟩,bx2⟩
  · exact bx2.set 2 _
  · rw [intL_app]
    refine own_keep ho (fun g e => Below.heap_setCell _ _ _ _ (show g ≠ tb from ?_))
    rcases two g e with h1 | h1
    · exact (h.far2 g h1).1.2
    · omega
  · rcases two g e with h1 | h1
    · exact h.far2 g h1
    · exact ⟨⟨by omega,by omega⟩,fun q => by have := (h.gt.used q).2; omega⟩
  · refine ⟨hg.os.trans (hb.os.trans h.fr.os),hg.tape.trans (hb.tape.trans h.fr.tape),hg.output.trans (hb.output.trans h.fr.output),by simp [World.setCell]; omega,fun k hk hne => ?_⟩
    exact (blk2 k (by omega) (fun e => by have := (h.far2 k e).1; omega) (by have := h.tbw.1; omega)).trans (h.fr.block k hk hne)

theorem TlSt.told (h:TlSt w wr B n m v q N KA DA N' KA' DA' KC' DC' tb C ka kn kc da dn dc LK LD) {c:Nat} {P:(Nat -> Tn) -> Prop} {e:Ending} (hr:RetTl wr B q m N' KA' DA' c P e w1) :
    ∃ q2 N2 KA2 DA2 KC2 DC2,e = .returned q2 /\ TlSt w w1 B n (m + c) v q2 N KA DA N2 KA2 DA2 KC2 DC2 tb C ka kn kc da dn dc LK LD /\ (∀ i,i < m -> N2 i = N' i) /\ P N2 := by
  obtain ⟨q2,N2,KA2,DA2,KC2,DC2,rfl,g2,f2,at2,old2,new2,hP⟩ := hr
  have hzw:w.heap.size <= wr.heap.size := h.fr.size
  have used2:∀ x,x < wr.heap.size -> UsedT q2 (m + c) N2 KA2 DA2 x -> UsedT q m N' KA' DA' x := by
    intro x hx hu
    rcases hu with hu | ⟨i,hi,h0,e⟩ | ⟨i,hi,h0,e⟩
    · rcases at2 with h1 | ⟨g,h1,h2⟩
      · exact .inl (by rw [<- h1]; exact hu)
      · rw [h1] at hu; injection hu with hu; omega
    · by_cases hm:i < m
      · obtain ⟨q1,q3,_⟩ := old2 i hm
        exact .inr (.inl ⟨i,hm,by rw [<- q1]; exact h0,by rw [<- q3]; exact e⟩)
      · obtain ⟨g,q1,q3⟩ := (new2 i (by omega) hi).1 h0
        rw [e] at q1; injection q1 with q1; injection q1 with q1; omega
    · by_cases hm:i < m
      · obtain ⟨q1,_,q3⟩ := old2 i hm
        exact .inr (.inr ⟨i,hm,by rw [<- q1]; exact h0,by rw [<- q3]; exact e⟩)
      · obtain ⟨g,q1,q3⟩ := (new2 i (by omega) hi).2 h0
        rw [e] at q1; injection q1 with q1; injection q1 with q1; omega
  have qn:∀ x,q.ownBlock = some x -> UsedT q m N' KA' DA' x := fun x e => .inl e
  have k1 := own_lt h.own1.1
  have k2 := own_lt h.own2.1
  have hz := h.zero
  refine ⟨q2,N2,KA2,DA2,KC2,DC2,rfl,⟨g2,fun i hi => ?_,fun i h1 h2 => ?_,?_,h.box.grown f2 (fun e => h.tbw.2 (qn tb e)),⟨h.tbw.1,fun u => h.tbw.2 (used2 tb h.box.lt u)⟩,⟨own_keep h.own1.1 (fun g e => f2.block g (k1 g e).2 (fun e2 => (h.far1 g e).2 (qn g e2.symm))),h.own1.2⟩,⟨own_keep h.own2.1 (fun g e => f2.block g (k2 g e).2 (fun e2 => (h.far2 g e).2 (qn g e2.symm))),h.own2.2⟩,fun g e => ⟨(h.far1 g e).1,fun u => (h.far1 g e).2 (used2 g (k1 g e).2 u)⟩,fun g e => ⟨(h.far2 g e).1,fun u => (h.far2 g e).2 (used2 g (k2 g e).2 u)⟩,?_,?_⟩,fun i hi => (old2 i hi).1,hP⟩
  · obtain ⟨a1,a2,a3⟩ := old2 i (by omega)
    obtain ⟨b1,b2,b3⟩ := h.old i hi
    exact ⟨a1.trans b1,a2.trans b2,a3.trans b3⟩
  · by_cases hm:i < m
    · obtain ⟨a1,a2,a3⟩ := old2 i hm
      rw [a1,a2,a3]
      exact h.new i h1 hm
    · obtain ⟨a1,a2⟩ := new2 i (by omega) h2
      exact ⟨fun q => by obtain ⟨g,e,hg⟩ := a1 q; exact ⟨g,e,by omega⟩,fun q => by obtain ⟨g,e,hg⟩ := a2 q; exact ⟨g,e,by omega⟩⟩
  · rw [(old2 n hz.2.2).1]
    exact ⟨hz.1,hz.2.1,by omega⟩
  · refine ⟨f2.os.trans h.fr.os,f2.tape.trans h.fr.tape,f2.output.trans h.fr.output,by have := f2.size; omega,fun k hk hne => ?_⟩
    refine (f2.block k (by omega) (fun e => ?_)).trans (h.fr.block k hk hne)
    rcases h.qat with h1 | ⟨g,h1,h2⟩
    · exact hne (by rw [<- h1]; exact e)
    · rw [h1] at e; injection e with e; omega
  · rcases at2 with h1 | ⟨g,h1,h2⟩
    · rw [h1]; exact h.qat
    · exact .inr ⟨g,h1,by omega⟩
end
open Go.RowKit Go.Deep

theorem own_setIn {w:World} {B:Nat} {e:TypeId} {sz n c g j:Nat} {xs:List Value} (h:w.ownsRow B e sz (.slice (some ⟨g,0,none⟩) n c) n xs) (hj:j < n * sz) (u:Value):(w.setCell ⟨g,j,none⟩ u).ownsRow B e sz (.slice (some ⟨g,0,none⟩) n c) n (xs.set j u) := by
  refine ⟨by rw [List.length_set]; exact h.1,?_⟩
  rcases h.2 with ⟨q,_⟩ | ⟨g',cap,cur,q1,q2,q3,q4,q5,q6,q7⟩
  · cases q
  · injection q1 with q1 _ q8
    injection q1 with q1
    injection q1 with q1
    subst q1 q8
    refine .inr ⟨g,c,cur.setIfInBounds j u,rfl,q2,?_,q4,q5,by simp [q6],?_⟩
    · simp [World.setCell,Array.getElem?_modify,q3]
    · rw [Array.toList_setIfInBounds,List.take_set,q7]

def toldN (kn:Nat) (LK:List ByteArray) (dn:Nat) (LD:List Int) (C:Int):Tn := ⟨false,kn,gt LK,dn,gi LD,C⟩

theorem set4_map (N' : Nat -> Tn) (KA' DA' : Nat -> Option Addr) (KC' DC' : Nat -> Nat) (n m:Nat) (hn:n < m) (x:Tn) (ka da:Option Addr) (kc dc:Nat) :
    (((((List.range (m * 4)).map (tnCell N' KA' DA' KC' DC')).set (n * 4) (.bool x.lf)).set (n * 4 + 1) (.slice ka x.kn kc)).set (n * 4 + 2) (.slice da x.dn dc)).set (n * 4 + 3) (.int .i64 x.ct) = (List.range (m * 4)).map (tnCell (fun i => if i = n then x else N' i) (fun i => if i = n then ka else KA' i) (fun i => if i = n then da else DA' i) (fun i => if i = n then kc else KC' i) (fun i => if i = n then dc else DC' i)) := by
  apply List.ext_getElem?
  intro j
  by_cases hj:j < m * 4
  · simp only [List.getElem?_set,List.length_set,List.length_map,List.length_range,List.getElem?_map,List.getElem?_range hj,Option.map_some]
    by_cases e3:n * 4 + 3 = j
    · subst e3
      rw [if_pos rfl,if_pos hj,tnCell_3]
      simp
    · rw [if_neg e3]
      by_cases e2:n * 4 + 2 = j
      · subst e2
        rw [if_pos rfl,if_pos hj,tnCell_2]
        simp
      · rw [if_neg e2]
        by_cases e1:n * 4 + 1 = j
        · subst e1
          rw [if_pos rfl,if_pos hj,tnCell_1]
          simp
        · rw [if_neg e1]
          by_cases e0:n * 4 = j
          · subst e0
            rw [if_pos rfl,if_pos hj,tnCell_0]
            simp
          · rw [if_neg e0]
            unfold tnCell
            have:j / 4 ≠ n := by omega
            simp only [this,if_false]
  · rw [List.getElem?_eq_none (by simp; omega),List.getElem?_eq_none (by simp; omega)]

theorem tlst_fin {w wr:World} {B n m g rc:Nat} {v:Value} {N:Nat -> Tn} {KA DA:Nat -> Option Addr} {N' : Nat -> Tn} {KA' DA' : Nat -> Option Addr} {KC' DC' : Nat -> Nat} {tb:Nat} {C:Int} {ka:Option Addr} {kn kc:Nat} {da:Option Addr} {dn dc:Nat} {LK:List ByteArray} {LD:List Int}
    (h:TlSt w wr B n m v (.slice (some ⟨g,0,none⟩) m rc) N KA DA N' KA' DA' KC' DC' tb C ka kn kc da dn dc LK LD) {P:(Nat -> Tn) -> Prop} (hP:P (fun i => if i = n then toldN kn LK dn LD C else N' i)) {c:Nat} (hc:m = n + c) :
    RetTl w B v n N KA DA c P (.returned (.slice (some ⟨g,0,none⟩) m rc)) ((((wr.setCell ⟨g,n * 4,none⟩ (.bool false)).setCell ⟨g,n * 4 + 1,none⟩ (.slice ka kn kc)).setCell ⟨g,n * 4 + 2,none⟩ (.slice da dn dc)).setCell ⟨g,n * 4 + 3,none⟩ (.int .i64 C)) := by
  have hz := h.zero.2.2
  have row := own_setIn (own_setIn (own_setIn (own_setIn h.gt.row (j := n * 4) (by omega) (.bool false)) (j := n * 4 + 1) (by omega) (.slice ka kn kc)) (j := n * 4 + 2) (by omega) (.slice da dn dc)) (j := n * 4 + 3) (by omega) (.int .i64 C)
  rw [show (Value.bool false) = .bool (toldN kn LK dn LD C).lf from rfl,show (Value.slice ka kn kc) = .slice ka (toldN kn LK dn LD C).kn kc from rfl,show (Value.slice da dn dc) = .slice da (toldN kn LK dn LD C).dn dc from rfl,show (Value.int .i64 C) = .int .i64 (toldN kn LK dn LD C).ct from rfl,set4_map N' KA' DA' KC' DC' n m hz] at row
  have blk:∀ x,x ≠ g -> ((((wr.setCell ⟨g,n * 4,none⟩ (.bool false)).setCell ⟨g,n * 4 + 1,none⟩ (.slice ka kn kc)).setCell ⟨g,n * 4 + 2,none⟩ (.slice da dn dc)).setCell ⟨g,n * 4 + 3,none⟩ (.int .i64 C)).heap[x]? = wr.heap[x]? := fun x hx => by
    rw [Below.heap_setCell _ _ _ _ (show x ≠ g from hx),Below.heap_setCell _ _ _ _ (show x ≠ g from hx),Below.heap_setCell _ _ _ _ (show x ≠ g from hx),Below.heap_setCell _ _ _ _ (show x ≠ g from hx)]
  have hsz:((((wr.setCell ⟨g,n * 4,none⟩ (.bool false)).setCell ⟨g,n * 4 + 1,none⟩ (.slice ka kn kc)).setCell ⟨g,n * 4 + 2,none⟩ (.slice da dn dc)).setCell ⟨g,n * 4 + 3,none⟩ (.int .i64 C)).heap.size = wr.heap.size := by simp [World.setCell]
  have hos:((((wr.setCell ⟨g,n * 4,none⟩ (.bool false)).setCell ⟨g,n * 4 + 1,none⟩ (.slice ka kn kc)).setCell ⟨g,n * 4 + 2,none⟩ (.slice da dn dc)).setCell ⟨g,n * 4 + 3,none⟩ (.int .i64 C)).os = wr.os /\ ((((wr.setCell ⟨g,n * 4,none⟩ (.bool false)).setCell ⟨g,n * 4 + 1,none⟩ (.slice ka kn kc)).setCell ⟨g,n * 4 + 2,none⟩ (.slice da dn dc)).setCell ⟨g,n * 4 + 3,none⟩ (.int .i64 C)).tape = wr.tape /\ ((((wr.setCell ⟨g,n * 4,none⟩ (.bool false)).setCell ⟨g,n * 4 + 1,none⟩ (.slice ka kn kc)).setCell ⟨g,n * 4 + 2,none⟩ (.slice da dn dc)).setCell ⟨g,n * 4 + 3,none⟩ (.int .i64 C)).output = wr.output := ⟨rfl,rfl,rfl⟩
  simp only [toldN] at row
  generalize (((wr.setCell ⟨g,n * 4,none⟩ (.bool false)).setCell ⟨g,n * 4 + 1,none⟩ (.slice ka kn kc)).setCell ⟨g,n * 4 + 2,none⟩ (.slice da dn dc)).setCell ⟨g,n * 4 + 3,none⟩ (.int .i64 C) = W at row blk hsz hos ⊢
  have hS:∀ (a:Option Addr) (k:Nat) (X:Nat -> ByteArray),OwnS wr B a k X -> OwnS W B a k X := by
    intro a k X q
    rcases q with q | ⟨x,rfl,hxB,hr⟩
    · exact .inl q
    · exact .inr ⟨x,rfl,hxB,hr.of_block (blk x (fun e => row_not h.gt.row hr (by decide) (by rw [e]; rfl)))⟩
  have hI:∀ (a:Option Addr) (k:Nat) (X:Nat -> Int),OwnI wr B a k X -> OwnI W B a k X := by
    intro a k X q
    rcases q with q | ⟨x,rfl,hxB,hr⟩
    · exact .inl q
    · exact .inr ⟨x,rfl,hxB,hr.of_block (blk x (fun e => row_not h.gt.row hr (by decide) (by rw [e]; rfl)))⟩
  have oS:OwnS wr B ka kn (gt LK) := own_ownS h.own1.1 h.own1.2
  have oI:OwnI wr B da dn (gi LD) := own_ownI h.own2.1 h.own2.2 _ (fun i _ => rfl)
  have nK:∀ i,i < m -> (N' i).kn ≠ 0 -> kn ≠ 0 -> KA' i ≠ ka := fun i hi h0 hk e => by
    obtain ⟨x,ex,_,_⟩ := oS.resolve_left hk
    exact (h.far1 x (by rw [ex]; rfl)).2 (.inr (.inl ⟨i,hi,h0,by rw [e,ex]⟩))
  have nD:∀ i,i < m -> (N' i).dn ≠ 0 -> dn ≠ 0 -> DA' i ≠ da := fun i hi h0 hk e => by
    obtain ⟨x,ex,_,_⟩ := oI.resolve_left hk
    exact (h.far2 x (by rw [ex]; rfl)).2 (.inr (.inr ⟨i,hi,h0,by rw [e,ex]⟩))
  subst hc
  refine ⟨_,_,_,_,_,_,rfl,⟨row,fun i hi => ?_,fun i hi => ?_,fun i j hi hj hij h1 h2 => ?_,fun i j hi hj hij h1 h2 => ?_⟩,?_,h.qat,fun i hi => ?_,fun i h1 h2 => ?_,hP⟩
  · by_cases e:i = n
    · subst e; simp only [if_true]; exact hS _ _ _ oS
    · simp only [e,if_false]; exact hS _ _ _ (h.gt.keys i hi)
  · by_cases e:i = n
    · subst e; simp only [if_true]; exact hI _ _ _ oI
    · simp only [e,if_false]; exact hI _ _ _ (h.gt.kids i hi)
  · by_cases e1:i = n
    · have e2:j ≠ n := by omega
      simp only [e1,if_true,e2,if_false] at h1 h2 ⊢
      exact fun q => nK j hj h2 h1 q.symm
    · by_cases e2:j = n
      · simp only [e2,if_true,e1,if_false] at h1 h2 ⊢
        exact nK i hi h1 h2
      · simp only [e1,e2,if_false] at h1 h2 ⊢
        exact h.gt.apartK i j hi hj hij h1 h2
  · by_cases e1:i = n
    · have e2:j ≠ n := by omega
      simp only [e1,if_true,e2,if_false] at h1 h2 ⊢
      exact fun q => nD j hj h2 h1 q.symm
    · by_cases e2:j = n
      · simp only [e2,if_true,e1,if_false] at h1 h2 ⊢
        exact nD i hi h1 h2
      · simp only [e1,e2,if_false] at h1 h2 ⊢
        exact h.gt.apartD i j hi hj hij h1 h2
  · refine ⟨hos.1.trans h.fr.os,hos.2.1.trans h.fr.tape,hos.2.2.trans h.fr.output,by rw [hsz]; exact h.fr.size,fun k hk hne => (blk k (fun e => ?_)).trans (h.fr.block k hk hne)⟩
    rcases h.qat with h1 | ⟨g',h1,h2⟩
    · exact hne (by rw [<- h1,e]; rfl)
    · injection h1 with h1; have h1' : g = g' := h1; omega
  · have e:i ≠ n := by omega
    simp only [e,if_false]
    exact h.old i hi
  · by_cases e:i = n
    · subst e
      simp only [if_true]
      refine ⟨fun h0 => ?_,fun h0 => ?_⟩
      · obtain ⟨x,ex,_,_⟩ := oS.resolve_left h0
        exact ⟨x,ex,(h.far1 x (by rw [ex]; rfl)).1.1⟩
      · obtain ⟨x,ex,_,_⟩ := oI.resolve_left h0
        exact ⟨x,ex,(h.far2 x (by rw [ex]; rfl)).1.1⟩
    · simp only [e,if_false]
      exact h.new i h1 h2
end Go.Proofs.YtcnollkkigiobaaGreat
