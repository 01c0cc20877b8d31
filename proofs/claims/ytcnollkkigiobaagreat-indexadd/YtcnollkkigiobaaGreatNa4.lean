import Derived.Test.YtcnollkkigiobaaGreatNa1
import Derived.Test.YtcnollkkigiobaaGreatNa3
import Derived.Maps.AppendAt
import Derived.Deep.RegionHeld3
import Derived.Deep.QuietTactic
import Derived.BigQuiet
import Derived.Deep.CutBlock
import Derived.Laws.Cover1
set_option linter.unusedVariables false
set_option maxRecDepth 100000
namespace Go.Proofs.YtcnollkkigiobaaGreat
open Go.RowKit Go.Deep

def offR (d:Nat) (l:List (Ro d)) (k:Nat):Nat := ((l.take k).map (nodesR d)).sum

theorem offR_zero (d:Nat) (l:List (Ro d)):offR d l 0 = 0 := by simp [offR]
theorem offR_succ (d:Nat) (l:List (Ro d)) (k:Nat) (h:k < l.length):offR d l (k + 1) = offR d l k + nodesR d l[k] := by
  unfold offR
  rw [<- List.take_append_getElem h,List.map_append,List.sum_append]
  simp
theorem offR_all (d:Nat) (l:List (Ro d)):offR d l l.length = (l.map (nodesR d)).sum := by
  unfold offR
  rw [List.take_length]
theorem offR_mono (d:Nat) (l:List (Ro d)) {j k:Nat} (h:j <= k) (hk:k <= l.length):offR d l j <= offR d l k := by
  induction k with
  | zero => have:j = 0 := by omega
            subst this; exact Nat.le_refl _
  | succ k ih =>
    by_cases e:j = k + 1
    · subst e; exact Nat.le_refl _
    · have := ih (by omega) (by omega)
      rw [offR_succ d l k (by omega)]
      omega
theorem offR_le (d:Nat) (l:List (Ro d)) (k:Nat) (h:k < l.length):offR d l k + nodesR d l[k] <= (l.map (nodesR d)).sum := by
  rw [<- offR_succ d l k h,<- offR_all]
  exact offR_mono d l (by omega) (Nat.le_refl _)
theorem offR_find (d:Nat) (l:List (Ro d)) (m:Nat) (h:m < (l.map (nodesR d)).sum):∃ k,∃ hk:k < l.length,offR d l k <= m /\ m < offR d l k + nodesR d l[k] := by
  have key:∀ k,k <= l.length -> m < offR d l k -> ∃ k,∃ hk:k < l.length,offR d l k <= m /\ m < offR d l k + nodesR d l[k] := by
    intro k
    induction k with
    | zero => intro _ h; rw [offR_zero] at h; omega
    | succ k ih =>
      intro hk h
      by_cases e:m < offR d l k
      · exact ih (by omega) e
      · rw [offR_succ d l k (by omega)] at h
        exact ⟨k,by omega,by omega,h⟩
  exact key l.length (Nat.le_refl _) (by rw [offR_all]; exact h)

def Tells (F:Nat -> Tn) (base:Int):(d:Nat) -> Ro d -> Nat -> Prop
  | 0,_,_ => False
  | d + 1,.inl t,x => (F x).lf = true /\ (F x).kn = t.length /\ (∀ j,j < t.length -> (F x).ks j = gt t j) /\ (F x).dn = 0 /\ (F x).ct = (t.length:Int)
  | d + 1,.inr l,x => (F x).lf = false /\ (F x).dn = l.length /\ (F x).ct = ((l.flatMap (keysR d)).length:Int) /\ (F x).kn + 1 = l.length /\ (∀ k,k < l.length -> (F x).kd k = base + ((x + 1 + offR d l k:Nat):Int)) /\
      (∀ k (h:k + 1 < l.length),(F x).ks k = gt (keysR d l[k + 1]) 0) /\ ∀ k (h:k < l.length),Tells F base d l[k] (x + 1 + offR d l k)

theorem Tells.shift {F G:Nat -> Tn} {base:Int} {s:Nat}:∀ {d:Nat} {t:Ro d} {x:Nat},(∀ i,x <= i -> i < x + nodesR d t -> SameN (G i) (F (i + s))) -> Tells G (base + (s:Int)) d t x -> Tells F base d t (x + s)
  | 0,_,_,_,h => h
  | d + 1,.inl t,x,hFG,h => by
    obtain ⟨h1,h2,h3,h4,h5⟩ := h
    obtain ⟨q1,q2,q3,q4,q5,q6⟩ := hFG x (Nat.le_refl _) (Nat.lt_succ_self _)
    exact ⟨by rw [<- q1]; exact h1,by rw [<- q3]; exact h2,fun j hj => by rw [<- q5 j (by omega)]; exact h3 j hj,by rw [<- q4]; exact h4,by rw [<- q2]; exact h5⟩
  | d + 1,.inr l,x,hFG,h => by
    obtain ⟨h1,h2,h3,h4,h5,h6,h7⟩ := h
    have hn:nodesR (d + 1) (.inr l) = 1 + (l.map (nodesR d)).sum := rfl
    obtain ⟨q1,q2,q3,q4,q5,q6⟩ := hFG x (Nat.le_refl _) (by omega)
    refine ⟨by rw [<- q1]; exact h1,by rw [<- q4]; exact h2,by rw [<- q2]; exact h3,by rw [<- q3]; exact h4,fun k hk => ?_,fun k hk => ?_,fun k hk => ?_⟩
    · rw [<- q6 k (by omega),h5 k hk]
      omega
    · rw [<- q5 k (by omega)]
      exact h6 k hk
    · have hle := offR_le d l k hk
      have := Tells.shift (F := F) (G := G) (base := base) (s := s) (fun i hi1 hi2 => hFG i (by omega) (by omega)) (h7 k hk)
      rwa [show x + 1 + offR d l k + s = x + s + 1 + offR d l k by omega] at this

theorem Tells.congr {F G:Nat -> Tn} {base:Int} {d:Nat} {t:Ro d} {x:Nat} (hFG:∀ i,x <= i -> i < x + nodesR d t -> SameN (G i) (F i)) (h:Tells G base d t x):Tells F base d t x :=
  Tells.shift (s := 0) (fun i h1 h2 => hFG i h1 h2) (by simpa using h)

theorem Tells.same {F G:Nat -> Tn} {base:Int}:∀ {d:Nat} {t:Ro d} {x:Nat},Tells F base d t x -> Tells G base d t x -> ∀ i,x <= i -> i < x + nodesR d t -> SameN (F i) (G i)
  | 0,_,_,h,_,_,_,_ => h.elim
  | d + 1,.inl t,x,h,g,i,hi1,hi2 => by
    have hn:nodesR (d + 1) (.inl t) = 1 := rfl
    have e:i = x := by omega
    subst e
    obtain ⟨h1,h2,h3,h4,h5⟩ := h
    obtain ⟨g1,g2,g3,g4,g5⟩ := g
    exact ⟨h1.trans g1.symm,h5.trans g5.symm,h2.trans g2.symm,h4.trans g4.symm,fun j hj => (h3 j (by omega)).trans (g3 j (by omega)).symm,fun j hj => by omega⟩
  | d + 1,.inr l,x,h,g,i,hi1,hi2 => by
    have hn:nodesR (d + 1) (.inr l) = 1 + (l.map (nodesR d)).sum := rfl
    obtain ⟨h1,h2,h3,h4,h5,h6,h7⟩ := h
    obtain ⟨g1,g2,g3,g4,g5,g6,g7⟩ := g
    by_cases e:i = x
    · subst e
      exact ⟨h1.trans g1.symm,h3.trans g3.symm,by omega,h2.trans g2.symm,fun j hj => (h6 j (by omega)).trans (g6 j (by omega)).symm,fun j hj => (h5 j (by omega)).trans (g5 j (by omega)).symm⟩
    · obtain ⟨k,hk,k1,k2⟩ := offR_find d l (i - (x + 1)) (by omega)
      exact Tells.same (h7 k hk) (g7 k hk) i (by omega) (by omega)

theorem flat_pos {T:Type} (f:T -> List ByteArray) (l:List T) (h0:0 < l.length) (h:∀ t,t ∈ l -> 0 < (f t).length):0 < (l.flatMap f).length := by
  cases l with
  | nil => simp at h0
  | cons t l =>
    rw [List.flatMap_cons,List.length_append]
    have := h t (by simp)
    omega

theorem bal_pos:∀ {d:Nat} {t:Ro d} {h:Nat},BalR d false t h -> 0 < (keysR d t).length
  | 0,t,_,_ => t.elim
  | d + 1,.inl t,h,hb => by
    obtain ⟨_,_,h2⟩ := hb
    have:2 <= t.length := by simpa using h2
    show 0 < t.length
    omega
  | d + 1,.inr l,h,hb => by
    obtain ⟨h2,_,h',_,hall⟩ := hb
    exact flat_pos _ l (by omega) (fun t ht => bal_pos (hall t ht))

def hd (d:Nat) (l:List (Ro d)) (j:Nat):ByteArray := match l[j]? with
  | some t => gt (keysR d t) 0
  | none => { data := #[] }
def hdL (d:Nat) (l:List (Ro d)) (k:Nat):List ByteArray := (List.range (k - 1)).map fun j => hd d l (j + 1)
def stL (a:Int) (d:Nat) (l:List (Ro d)) (k:Nat):List Int := (List.range k).map fun j => a + ((1 + offR d l j:Nat):Int)
theorem hdL_length (d:Nat) (l:List (Ro d)) (k:Nat):(hdL d l k).length = k - 1 := by simp [hdL]
theorem stL_length (a:Int) (d:Nat) (l:List (Ro d)) (k:Nat):(stL a d l k).length = k := by simp [stL]
theorem hdL_succ (d:Nat) (l:List (Ro d)) (k:Nat) (h:0 < k):hdL d l (k + 1) = hdL d l k ++ [hd d l k] := by
  unfold hdL
  rw [show k + 1 - 1 = (k - 1) + 1 by omega,List.range_succ,List.map_append]
  simp
  rw [show k - 1 + 1 = k by omega]
theorem stL_succ (a:Int) (d:Nat) (l:List (Ro d)) (k:Nat):stL a d l (k + 1) = stL a d l k ++ [a + ((1 + offR d l k:Nat):Int)] := by
  unfold stL
  rw [List.range_succ,List.map_append]
  simp
theorem hd_get (d:Nat) (l:List (Ro d)) (j:Nat) (h:j < l.length):hd d l j = gt (keysR d l[j]) 0 := by
  unfold hd
  rw [List.getElem?_eq_getElem h]
def gi (l:List Int) (i:Nat):Int := l.getD i 0
theorem gi_stL (a:Int) (d:Nat) (l:List (Ro d)) (k j:Nat) (h:j < k):gi (stL a d l k) j = a + ((1 + offR d l j:Nat):Int) := by
  unfold gi stL
  simp [List.getD_eq_getElem?_getD,h]
theorem gt_hdL (d:Nat) (l:List (Ro d)) (k j:Nat) (h:j < k - 1):gt (hdL d l k) j = hd d l (j + 1) := by
  unfold gt hdL
  simp [List.getD_eq_getElem?_getD,h]
open Go.RowKit Go.Deep

def RdX (S:Nat -> Prop) (w:World) (a:Option Addr) (n:Nat) (f:Nat -> Value):Prop :=
  n = 0 \/ ∃ b,a = some ⟨b,0,none⟩ /\ S b /\ b < w.heap.size /\ ∀ i,i < n -> w.cell? ⟨b,i,none⟩ = some (f i)

theorem RdX.mono {S S' : Nat -> Prop} {w w' : World} {a:Option Addr} {n:Nat} {f:Nat -> Value} (h:RdX S w a n f) (hz:w.heap.size <= w'.heap.size) (hS:∀ b,S b -> b < w.heap.size -> S' b /\ w'.heap[b]? = w.heap[b]?):RdX S' w' a n f := by
  rcases h with h | ⟨b,rfl,hs,hb,hc⟩
  · exact Or.inl h
  · obtain ⟨q1,q2⟩ := hS b hs hb
    exact Or.inr ⟨b,rfl,q1,by omega,fun i hi => by rw [World.cell?_of_block (a := ⟨b,i,none⟩) q2]; exact hc i hi⟩

def FnV (S:Nat -> Prop) (w:World) (x:Tn) (v0 v1 v2 v3:Value):Prop :=
  v0 = .bool x.lf /\ v3 = .int .i64 x.ct /\ ∃ ka kc da dc,v1 = .slice ka x.kn kc /\ v2 = .slice da x.dn dc /\ RdX S w ka x.kn (fun i => .string (x.ks i)) /\ RdX S w da x.dn (fun i => .int .i64 (x.kd i))

def FlAt (S:Nat -> Prop) (w:World) (n:Nat) (F:Nat -> Tn) (xs:List Value):Prop :=
  xs.length = n * 4 /\ ∀ i,i < n -> ∃ v0 v1 v2 v3,xs[i * 4]? = some v0 /\ xs[i * 4 + 1]? = some v1 /\ xs[i * 4 + 2]? = some v2 /\ xs[i * 4 + 3]? = some v3 /\ FnV S w (F i) v0 v1 v2 v3

theorem FlAt.mono {S S' : Nat -> Prop} {w w' : World} {n:Nat} {F:Nat -> Tn} {xs:List Value} (h:FlAt S w n F xs) (hz:w.heap.size <= w'.heap.size) (hS:∀ b,S b -> b < w.heap.size -> S' b /\ w'.heap[b]? = w.heap[b]?):FlAt S' w' n F xs := by
  refine ⟨h.1,fun i hi => ?_⟩
  obtain ⟨v0,v1,v2,v3,h0,h1,h2,h3,e0,e3,ka,kc,da,dc,e1,e2,r1,r2⟩ := h.2 i hi
  exact ⟨v0,v1,v2,v3,h0,h1,h2,h3,e0,e3,ka,kc,da,dc,e1,e2,r1.mono hz hS,r2.mono hz hS⟩

def catN (n:Nat) (F G:Nat -> Tn) (i:Nat):Tn := if i < n then F i else G (i - n)

theorem FlAt.app {S:Nat -> Prop} {w:World} {n m:Nat} {F G:Nat -> Tn} {xs ys:List Value} (h:FlAt S w n F xs) (g:FlAt S w m G ys):FlAt S w (n + m) (catN n F G) (xs ++ ys) := by
  refine ⟨by rw [List.length_append,h.1,g.1]; omega,fun i hi => ?_⟩
  by_cases e:i < n
  · obtain ⟨v0,v1,v2,v3,h0,h1,h2,h3,hv⟩ := h.2 i e
    have hl := h.1
    refine ⟨v0,v1,v2,v3,?_,?_,?_,?_,by unfold catN; rw [if_pos e]; exact hv⟩
    · rw [List.getElem?_append_left (by omega)]; exact h0
    · rw [List.getElem?_append_left (by omega)]; exact h1
    · rw [List.getElem?_append_left (by omega)]; exact h2
    · rw [List.getElem?_append_left (by omega)]; exact h3
  · obtain ⟨v0,v1,v2,v3,h0,h1,h2,h3,hv⟩ := g.2 (i - n) (by omega)
    have hl := h.1
    refine ⟨v0,v1,v2,v3,?_,?_,?_,?_,by unfold catN; rw [if_neg e]; exact hv⟩
    · rw [List.getElem?_append_right (by omega),show i * 4 - xs.length = (i - n) * 4 by omega]; exact h0
    · rw [List.getElem?_append_right (by omega),show i * 4 + 1 - xs.length = (i - n) * 4 + 1 by omega]; exact h1
    · rw [List.getElem?_append_right (by omega),show i * 4 + 2 - xs.length = (i - n) * 4 + 2 by omega]; exact h2
    · rw [List.getElem?_append_right (by omega),show i * 4 + 3 - xs.length = (i - n) * 4 + 3 by omega]; exact h3

theorem FlAt.one {S:Nat -> Prop} {w:World} {F:Nat -> Tn} {v0 v1 v2 v3:Value} (h:FnV S w (F 0) v0 v1 v2 v3):FlAt S w 1 F [v0,v1,v2,v3] := by
  refine ⟨rfl,fun i hi => ?_⟩
  have e:i = 0 := by omega
  subst e
  exact ⟨v0,v1,v2,v3,rfl,rfl,rfl,rfl,h⟩

theorem FlAt.oneCell {S:Nat -> Prop} {w:World} {n:Nat} {F:Nat -> Tn} {xs:List Value} (h:FlAt S w n F xs):∀ u ∈ xs,u.oneCell' = true := by
  intro u hu
  obtain ⟨j,hg⟩ := List.mem_iff_getElem?.1 hu
  have hj:j < xs.length := (List.getElem?_eq_some_iff.1 hg).1
  have hl := h.1
  obtain ⟨v0,v1,v2,v3,h0,h1,h2,h3,e0,e3,ka,kc,da,dc,e1,e2,_⟩ := h.2 (j / 4) (by omega)
  have h4:j = j / 4 * 4 \/ j = j / 4 * 4 + 1 \/ j = j / 4 * 4 + 2 \/ j = j / 4 * 4 + 3 := by omega
  rcases h4 with e | e | e | e
  · rw [e,h0] at hg
    injection hg with hg
    rw [<- hg,e0]; rfl
  · rw [e,h1] at hg
    injection hg with hg
    rw [<- hg,e1]; rfl
  · rw [e,h2] at hg
    injection hg with hg
    rw [<- hg,e2]; rfl
  · rw [e,h3] at hg
    injection hg with hg
    rw [<- hg,e3]; rfl

theorem RdX.rdS {S:Nat -> Prop} {w:World} {a:Option Addr} {n:Nat} {X:Nat -> ByteArray} (h:RdX S w a n (fun i => .string (X i))):RdS w a n X := by
  rcases h with h | ⟨b,rfl,_,_,hc⟩
  · exact Or.inl h
  · exact Or.inr ⟨b,0,rfl,fun i hi => by rw [Nat.zero_add]; exact hc i hi⟩
theorem RdX.rdI {S:Nat -> Prop} {w:World} {a:Option Addr} {n:Nat} {X:Nat -> Int} (h:RdX S w a n (fun i => .int .i64 (X i))):Rd .i64 w a n X := by
  rcases h with h | ⟨b,rfl,_,_,hc⟩
  · exact Or.inl h
  · exact Or.inr ⟨b,0,rfl,fun i hi => by rw [Nat.zero_add]; exact hc i hi⟩

theorem FlAt.rd {S:Nat -> Prop} {w:World} {g n:Nat} {F:Nat -> Tn} {xs:List Value} (h:FlAt S w n F xs) (hc:∀ j u,xs[j]? = some u -> w.cell? ⟨g,j,none⟩ = some u):RdTn w (some ⟨g,0,none⟩) n F := by
  refine Or.inr ⟨g,0,rfl,fun i hi => ?_⟩
  obtain ⟨v0,v1,v2,v3,h0,h1,h2,h3,e0,e3,ka,kc,da,dc,e1,e2,r1,r2⟩ := h.2 i hi
  subst e0 e1 e2 e3
  refine ⟨ka,kc,da,dc,?_,?_,?_,?_,r1.rdS,r2.rdI⟩
  · rw [Nat.zero_add]; exact hc _ _ h0
  · rw [Nat.zero_add]; exact hc _ _ h1
  · rw [Nat.zero_add]; exact hc _ _ h2
  · rw [Nat.zero_add]; exact hc _ _ h3

theorem own_ne {w:World} {b1 b2:Nat} {e1 e2:TypeId} {s1 s2:Nat} {v1 v2:Value} {n1 n2:Nat} {x1 x2:List Value} (h1:w.ownsRow b1 e1 s1 v1 n1 x1) (h2:w.ownsRow b2 e2 s2 v2 n2 x2) (he:e1 ≠ e2):∀ g,v1.ownBlock = some g -> v2.ownBlock ≠ some g := by
  intro g hg1 hg2
  rcases h1.2 with ⟨rfl,_⟩ | ⟨g',cap,cur,rfl,hb,hh,_⟩
  · simp [Value.ownBlock] at hg1
  · simp [Value.ownBlock] at hg1
    subst hg1
    rcases h2.2 with ⟨rfl,_⟩ | ⟨g2,cap2,cur2,rfl,hb2,hh2,_⟩
    · simp [Value.ownBlock] at hg2
    · simp [Value.ownBlock] at hg2
      subst hg2
      rw [hh] at hh2
      injection hh2 with q
      injection q with _ q _
      exact he q

def intL (L:List Int):List Value := L.map (.int .i64)
theorem intL_length (L:List Int):(intL L).length = L.length := by simp [intL]
theorem intL_app (L M:List Int):intL (L ++ M) = intL L ++ intL M := by simp [intL]
theorem intL_get (L:List Int) (i:Nat) (h:i < L.length):(intL L)[i]? = some (.int .i64 (gi L i)) := by
  simp [intL,gi,List.getD_eq_getElem?_getD,h]
theorem strL_get (L:List ByteArray) (i:Nat) (h:i < L.length):(strL L)[i]? = some (.string (gt L i)) := by
  simp [strL,gt,List.getD_eq_getElem?_getD,h]

theorem own_set {w:World} {base:Nat} {e:TypeId} {size:Nat} {v:Value} {n:Nat} {xs:List Value} (h:w.ownsRow base e size v n xs) (p:Addr) (u:Value) (hp:p.block < base):(w.setCell p u).ownsRow base e size v n xs := by
  refine ⟨h.1,?_⟩
  rcases h.2 with q | ⟨g,cap,cur,q1,q2,q3,q4⟩
  · exact Or.inl q
  · refine Or.inr ⟨g,cap,cur,q1,q2,?_,q4⟩
    rw [Below.heap_setCell _ _ _ _ (show g ≠ p.block from by omega)]
    exact q3

def SS (nb:Nat) (v1 v2 v3:Value) (b:Nat):Prop := nb + 1 <= b /\ v1.ownBlock ≠ some b /\ v2.ownBlock ≠ some b /\ v3.ownBlock ≠ some b

structure FlSt (w wr:World) (nb:Nat) (tbox:Array Value) (ct:Int) (ka:Option Addr) (kn kc:Nat) (da:Option Addr) (dn dc:Nat) (ra:Option Addr) (rn rc:Nat) (Lk:List ByteArray) (Dk:List Int) (R:Nat -> Tn) (xs:List Value):Prop where
  tb:Bx wr w.heap.size 91 tbox
  nbx:Bx wr nb 168 #[.bool false,.slice ka kn kc,.slice da dn dc,.int .i64 ct]
  lt:w.heap.size < nb
  own1:wr.ownsRow (nb + 1) 9 1 (.slice ka kn kc) kn (strL Lk)
  own2:wr.ownsRow (nb + 1) 2 1 (.slice da dn dc) dn (intL Dk)
  own3:wr.ownsRow (nb + 1) 168 4 (.slice ra rn rc) rn xs
  fl:FlAt (SS nb (.slice ka kn kc) (.slice da dn dc) (.slice ra rn rc)) wr rn R xs
  bel:Below w.heap.size w wr

section
variable {w wr w1 W2 w5:World} {nb:Nat} {tbox:Array Value} {ct:Int} {ka:Option Addr} {kn kc:Nat} {da:Option Addr} {dn dc:Nat} {ra:Option Addr} {rn rc:Nat} {Lk:List ByteArray} {Dk:List Int} {R:Nat -> Tn} {xs:List Value}

theorem FlSt.below (h:FlSt w wr nb tbox ct ka kn kc da dn dc ra rn rc Lk Dk R xs) (hb:Below wr.heap.size wr w1):FlSt w w1 nb tbox ct ka kn kc da dn dc ra rn rc Lk Dk R xs :=
  ⟨h.tb.below hb,h.nbx.below hb,h.lt,own_below h.own1 hb,own_below h.own2 hb,own_below h.own3 hb,h.fl.mono hb.size (fun b hs hlt => ⟨hs,hb.block b hlt⟩),h.bel.trans (hb.mono h.bel.size)⟩

theorem FlSt.growD (h:FlSt w wr nb tbox ct ka kn kc da dn dc ra rn rc Lk Dk R xs) (hg:wr.grownBy w5 (Value.slice da dn dc).ownBlock) {a' : Option Addr} {c' : Nat} {D' : List Int} (ho:w5.ownsRow (nb + 1) 2 1 (.slice a' (dn + 1) c') (dn + 1) (intL D')) (hat:(Value.slice a' (dn + 1) c').ownBlock = (Value.slice da dn dc).ownBlock \/ (Value.slice a' (dn + 1) c').ownBlock = some wr.heap.size) :
    FlSt w (w5.setCell ⟨nb,2,none⟩ (.slice a' (dn + 1) c')) nb tbox ct ka kn kc a' (dn + 1) c' ra rn rc Lk D' R xs := by
  have hl := own_lt h.own2
  have l1 := h.lt
  have l2 := h.nbx.lt
  have hz := hg.size
  refine ⟨(h.tb.grown hg (fun e => by have := hl _ e; omega)).other (by simp; omega) _,(h.nbx.grown hg (fun e => by have := hl _ e; omega)).set 2 _,h.lt,own_set (h.own1.kept hg ?_) _ _ (by simp),own_set ho _ _ (by simp),own_set (h.own3.kept hg ?_) _ _ (by simp),?_,(h.bel.grown hg (by have := h.bel.size; omega) (fun g e => by have := hl g e; omega)).setCell (by simp; omega) _⟩
  · cases e:(Value.slice ka kn kc).ownBlock with
    | none => exact Or.inl rfl
    | some g => exact Or.inr (fun q => own_ne h.own1 h.own2 (by decide) g e q.symm)
  · cases e:(Value.slice ra rn rc).ownBlock with
    | none => exact Or.inl rfl
    | some g => exact Or.inr (fun q => own_ne h.own3 h.own2 (by decide) g e q.symm)
  · refine h.fl.mono (by simpa [World.setCell] using hz) (fun b hs hlt => ⟨⟨hs.1,hs.2.1,?_,hs.2.2.2⟩,?_⟩)
    · rcases hat with e | e
      · rw [e]; exact hs.2.2.1
      · rw [e]
        intro q
        injection q with q
        omega
    · rw [Below.heap_setCell _ _ _ _ (show b ≠ nb from by have := hs.1; omega)]
      exact hg.block b hlt (fun e => hs.2.2.1 e.symm)

theorem FlSt.growK (h:FlSt w wr nb tbox ct ka kn kc da dn dc ra rn rc Lk Dk R xs) (hg:wr.grownBy w5 (Value.slice ka kn kc).ownBlock) {a' : Option Addr} {c' : Nat} {L' : List ByteArray} (ho:w5.ownsRow (nb + 1) 9 1 (.slice a' (kn + 1) c') (kn + 1) (strL L')) (hat:(Value.slice a' (kn + 1) c').ownBlock = (Value.slice ka kn kc).ownBlock \/ (Value.slice a' (kn + 1) c').ownBlock = some wr.heap.size) :
    FlSt w (w5.setCell ⟨nb,1,none⟩ (.slice a' (kn + 1) c')) nb tbox ct a' (kn + 1) c' da dn dc ra rn rc L' Dk R xs := by
  have hl := own_lt h.own1
  have l1 := h.lt
  have l2 := h.nbx.lt
  have hz := hg.size
  refine ⟨(h.tb.grown hg (fun e => by have := hl _ e; omega)).other (by simp; omega) _,(h.nbx.grown hg (fun e => by have := hl _ e; omega)).set 1 _,h.lt,own_set ho _ _ (by simp),own_set (h.own2.kept hg ?_) _ _ (by simp),own_set (h.own3.kept hg ?_) _ _ (by simp),?_,(h.bel.grown hg (by have := h.bel.size; omega) (fun g e => by have := hl g e; omega)).setCell (by simp; omega) _⟩
  · cases e:(Value.slice da dn dc).ownBlock with
    | none => exact Or.inl rfl
    | some g => exact Or.inr (fun q => own_ne h.own2 h.own1 (by decide) g e q.symm)
  · cases e:(Value.slice ra rn rc).ownBlock with
    | none => exact Or.inl rfl
    | some g => exact Or.inr (fun q => own_ne h.own3 h.own1 (by decide) g e q.symm)
  · refine h.fl.mono (by simpa [World.setCell] using hz) (fun b hs hlt => ⟨⟨hs.1,?_,hs.2.2.1,hs.2.2.2⟩,?_⟩)
    · rcases hat with e | e
      · rw [e]; exact hs.2.1
      · rw [e]
        intro q
        injection q with q
        omega
    · rw [Below.heap_setCell _ _ _ _ (show b ≠ nb from by have := hs.1; omega)]
      exact hg.block b hlt (fun e => hs.2.1 e.symm)

theorem FlSt.growR (h:FlSt w wr nb tbox ct ka kn kc da dn dc ra rn rc Lk Dk R xs) (hb:Below wr.heap.size wr w1) (hg:w1.grownBy w5 (Value.slice ra rn rc).ownBlock) {a' : Option Addr} {c' m:Nat} {G:Nat -> Tn} {ys:List Value} (hf:FlAt (fun b => wr.heap.size <= b) w1 m G ys) (ho:w5.ownsRow (nb + 1) 168 4 (.slice a' (rn + m) c') (rn + m) (xs ++ ys)) (hat:(Value.slice a' (rn + m) c').ownBlock = (Value.slice ra rn rc).ownBlock \/ (Value.slice a' (rn + m) c').ownBlock = some w1.heap.size) :
    FlSt w w5 nb tbox ct ka kn kc da dn dc a' (rn + m) c' Lk Dk (catN rn R G) (xs ++ ys) := by
  have h1 := h.below hb
  have hl := own_lt h.own3
  have l1 := h.lt
  have l2 := h.nbx.lt
  have hz := hg.size
  have hz1 := hb.size
  have hkk := own_lt h.own1
  have hdd := own_lt h.own2
  refine ⟨h1.tb.grown hg (fun e => by have := hl _ e; omega),h1.nbx.grown hg (fun e => by have := hl _ e; omega),h.lt,h1.own1.kept hg ?_,h1.own2.kept hg ?_,ho,?_,h1.bel.grown hg (by have := h1.bel.size; omega) (fun g e => by have := hl g e; omega)⟩
  · cases e:(Value.slice ka kn kc).ownBlock with
    | none => exact Or.inl rfl
    | some g => exact Or.inr (fun q => own_ne h.own1 h.own3 (by decide) g e q.symm)
  · cases e:(Value.slice da dn dc).ownBlock with
    | none => exact Or.inl rfl
    | some g => exact Or.inr (fun q => own_ne h.own2 h.own3 (by decide) g e q.symm)
  · refine FlAt.app (h1.fl.mono hz (fun b hs hlt => ⟨⟨hs.1,hs.2.1,hs.2.2.1,?_⟩,hg.block b hlt (fun e => hs.2.2.2 e.symm)⟩)) (hf.mono hz (fun b hs hlt => ⟨⟨by omega,fun e => by have := hkk _ e; omega,fun e => by have := hdd _ e; omega,?_⟩,hg.block b hlt (fun e => by have := hl _ e.symm; omega)⟩))
    · rcases hat with e | e
      · rw [e]; exact hs.2.2.2
      · rw [e]
        intro q
        injection q with q
        omega
    · rcases hat with e | e
      · rw [e]
        intro q
        have := hl _ q
        omega
      · rw [e]
        intro q
        injection q with q
        omega
end

def RetFlat (w:World) (d:Nat) (t:Ro d) (a:Int) (e:Ending) (w' : World):Prop :=
  ∃ ra rc G xs,e = .returned (.slice ra (nodesR d t) rc) /\ Below w.heap.size w w' /\ w'.ownsRow w.heap.size 168 4 (.slice ra (nodesR d t) rc) (nodesR d t) xs /\ FlAt (fun b => w.heap.size <= b) w' (nodesR d t) G xs /\ Tells G a d t 0
open Go.RowKit Go.Deep

def TAt (S:Nat -> Prop) (w:World):(d:Nat) -> Ro d -> Value -> Prop
  | 0,_,_ => False
  | d + 1,.inl t,v => ∃ b ka kc,v = .iface 204 (.pointer (some ⟨b,0,none⟩)) /\ S b /\ Bx w b 206 #[.int .i64 (t.length:Int),.slice ka t.length kc] /\ RdX S w ka t.length (fun i => .string (gt t i))
  | d + 1,.inr l,v => ∃ (b g kc:Nat) (xs:List Value),v = .iface 174 (.pointer (some ⟨b,0,none⟩)) /\ S b /\ Bx w b 179 #[.int .i64 ((l.flatMap (keysR d)).length:Int),.slice (some ⟨g,0,none⟩) l.length kc] /\ S g /\ (g < w.heap.size /\ l.length <= kc /\ kc <= 9223372036854775807) /\ 0 < l.length /\ (∀ j u,xs[j]? = some u -> w.cell? ⟨g,j,none⟩ = some u) /\
      ∀ k (h:k < l.length),∃ u,xs[k]? = some u /\ TAt S w d l[k] u

theorem TAt.mono {S S' : Nat -> Prop} {w w' : World} (hz:w.heap.size <= w'.heap.size) (hS:∀ b,S b -> b < w.heap.size -> S' b /\ w'.heap[b]? = w.heap[b]?):∀ {d:Nat} {t:Ro d} {v:Value},TAt S w d t v -> TAt S' w' d t v
  | 0,_,_,h => h
  | d + 1,.inl t,v,h => by
    obtain ⟨b,ka,kc,rfl,hb,hx,hr⟩ := h
    obtain ⟨q1,q2⟩ := hS b hb hx.lt
    exact ⟨b,ka,kc,rfl,q1,hx.of_block q2,hr.mono hz hS⟩
  | d + 1,.inr l,v,h => by
    obtain ⟨b,g,kc,xs,rfl,hb,hx,hg,hgl,hl,hc,hk⟩ := h
    obtain ⟨q1,q2⟩ := hS b hb hx.lt
    obtain ⟨q3,q4⟩ := hS g hg hgl.1
    refine ⟨b,g,kc,xs,rfl,q1,hx.of_block q2,q3,⟨by have := hgl.1; omega,hgl.2⟩,hl,fun j u hj => by rw [World.cell?_of_block (a := ⟨g,j,none⟩) q4]; exact hc j u hj,fun k hk2 => ?_⟩
    obtain ⟨u,e,ht⟩ := hk k hk2
    exact ⟨u,e,TAt.mono hz hS ht⟩

theorem TAt.below {S:Nat -> Prop} {w w' : World} {d:Nat} {t:Ro d} {v:Value} (h:TAt S w d t v) (hb:Below w.heap.size w w'):TAt S w' d t v :=
  h.mono hb.size (fun b hs hlt => ⟨hs,hb.block b hlt⟩)

def Chain:Bool -> ByteArray -> List ByteArray -> Bool -> ByteArray -> Prop
  | hk,lk,[],hk',lk' => hk' = hk /\ lk' = lk
  | hk,lk,k :: L,hk',lk' => k.size <= 16 /\ (hk = true -> Op.bytesLess lk.toList k.toList = true) /\ Chain true k L hk' lk'

theorem Chain.fn:∀ {hk:Bool} {lk:ByteArray} {L:List ByteArray} {h1 h2:Bool} {l1 l2:ByteArray},Chain hk lk L h1 l1 -> Chain hk lk L h2 l2 -> h1 = h2 /\ l1 = l2
  | hk,lk,[],h1,h2,l1,l2,a,b => ⟨a.1.trans b.1.symm,a.2.trans b.2.symm⟩
  | hk,lk,k :: L,h1,h2,l1,l2,a,b => Chain.fn a.2.2 b.2.2

theorem Chain.app:∀ {hk:Bool} {lk:ByteArray} {L M:List ByteArray} {h1 h2:Bool} {l1 l2:ByteArray},Chain hk lk L h1 l1 -> Chain h1 l1 M h2 l2 -> Chain hk lk (L ++ M) h2 l2
  | hk,lk,[],M,h1,h2,l1,l2,a,b => by
    obtain ⟨rfl,rfl⟩ := a
    exact b
  | hk,lk,k :: L,M,h1,h2,l1,l2,a,b => ⟨a.1,a.2.1,Chain.app a.2.2 b⟩

theorem Chain.split:∀ {hk:Bool} {lk:ByteArray} {L M:List ByteArray} {h2:Bool} {l2:ByteArray},Chain hk lk (L ++ M) h2 l2 -> ∃ h1 l1,Chain hk lk L h1 l1 /\ Chain h1 l1 M h2 l2
  | hk,lk,[],M,h2,l2,a => ⟨hk,lk,⟨rfl,rfl⟩,a⟩
  | hk,lk,k :: L,M,h2,l2,a => by
    obtain ⟨h1,l1,q1,q2⟩ := Chain.split a.2.2
    exact ⟨h1,l1,⟨a.1,a.2.1,q1⟩,q2⟩

structure Good (N:Nat -> Tn) (n x:Nat) (dep D:Int) (hk:Bool) (lk:ByteArray) (d:Nat) (t:Ro d) (D' : Int) (hk' : Bool) (lk' : ByteArray):Prop where
  tl:Tells N 0 d t x
  le:x + nodesR d t <= n
  bal:∃ h,BalR d (decide (dep = 0)) t h /\ D' = dep + (h:Int)
  dd:D = 0 \/ D = D'
  asc:Chain hk lk (keysR d t) hk' lk'

def RBx (w:World) (rb b o n c x:Nat) (D:Int) (lk:ByteArray) (hk:Bool):Prop :=
  Bx w rb 161 #[.slice (some ⟨b,o,none⟩) n c,.int .i64 (x:Int),.int .i64 D,.string lk,.bool hk]

def RetRd (N:Nat -> Tn) (rb b o n c x:Nat) (dep D:Int) (hk:Bool) (lk:ByteArray) (d:Nat) (w:World) (e:Ending) (w' : World):Prop :=
  w.grownBy w' (some rb) /\ ∃ v ok,e = .returned (.tuple #[v,.bool ok]) /\
    ((ok = true /\ ∃ t D' hk' lk',Good N n x dep D hk lk d t D' hk' lk' /\ RBx w' rb b o n c (x + nodesR d t) D' lk' hk' /\ TAt (fun b => w.heap.size <= b) w' d t v) \/
     (ok = false /\ ¬ ∃ t D' hk' lk',Good N n x dep D hk lk d t D' hk' lk'))
end Go.Proofs.YtcnollkkigiobaaGreat

namespace Go.Proofs.YtcnollkkigiobaaGreat
open Go

/-! A drawn region whose last operation writes a cell that the region reads: what holds of the world is asked behind every operation but that one. -/
section
variable {P:Program} {ops:Array Oper} {Q:Exit -> Act -> World -> Prop} {md:Region.Mode} {S:World -> Prop} {late:Nat}

def wpLate (P:Program) (md:Region.Mode) (ops:Array Oper) (Q:Exit -> Act -> World -> Prop) (S:World -> Prop) (late:Nat):Nat -> Array Bool -> Act -> World -> Prop
  | 0,listed,a,w => Region.ready md ops listed = [] /\ Q .normal a w
  | fuel + 1,listed,a,w => (Region.ready md ops listed = [] -> Q .normal a w) /\
    ∀ i ∈ Region.ready md ops listed,wpOp P ops Q i (fun a' w' => (i ≠ late -> S w') /\ wpLate P md ops Q S late fuel (listed.setIfInBounds i true) a' w') a w

theorem wpAny_of_late:∀ (fuel:Nat) (listed:Array Bool) (a:Act) (w:World),wpLate P md ops Q S late fuel listed a w -> wpAny P md ops Q fuel listed a w
  | 0,_,_,_,h => h
  | fuel + 1,_,_,_,h => ⟨h.1,fun i hi => wpOp_mono (fun a' w' h' => wpAny_of_late fuel _ a' w' h'.2) (h.2 i hi)⟩

def Waits (md:Region.Mode) (ops:Array Oper) (i:Nat) (ch:List Nat):Prop :=
  ∀ c ∈ ch,c = i \/ ∃ o,ops[c]? = some o /\ ∃ e ∈ o.after,Region.binds md e = true /\ e.on ∈ ch

theorem Waits.not_ready {i:Nat} {ch:List Nat} (h:Waits md ops i ch) {listed:Array Bool} (hl:∀ c ∈ ch,listed.getD c true = false) {j:Nat} (hj:j ∈ Region.ready md ops listed) (hji:j ≠ i):j ∉ ch := fun hm => by
  rcases h j hm with h | ⟨o,ho,e,he,hb,hc⟩
  · exact hji h
  · obtain ⟨_,oj,hoj,hall⟩ := mem_ready.1 hj
    rw [ho] at hoj
    injection hoj with hoj
    subst hoj
    have h1 := hall e he hb
    have h2 := hl _ hc
    rcases Nat.lt_or_ge e.on listed.size with h' | h'
    · simp [h'] at h1 h2
      rw [h2] at h1
      cases h1
    · simp [Array.getElem?_eq_none h'] at h1

theorem wpLate_first {i:Nat} {oi:Oper} {v:Value} {ch:List Nat} (hi:ops[i]? = some oi) (hsel:∀ (j:Nat) (o:Oper) cs b,ops[j]? = some o -> o.op ≠ .select cs b)
    (hQ:∀ c a w,Q (.panic c) (a.put oi.dst v) w -> Q (.panic c) a w) (hw:Waits md ops i ch) (hlate:late ∈ ch) (hil:i ≠ late) :
    ∀ (fuel:Nat) (listed:Array Bool) (a:Act) (w:World),
      (∀ j oj,ops[j]? = some oj -> j ≠ i -> listed.getD j true = false -> (∀ e ∈ oj.after,Region.binds md e = true -> e.on ≠ i) -> oi.apart ops oj = true) ->
      (∀ c ∈ ch,listed.getD c true = false) ->
      i ∈ Region.ready md ops listed -> YieldsIf P ops S oi v a -> S w ->
      wpLate P md ops Q S late fuel (listed.setIfInBounds i true) (a.put oi.dst v) w -> wpLate P md ops Q S late (fuel + 1) listed a w := by
  intro fuel
  induction fuel with
  | zero =>
    intro listed a w _ _ hr hy hS H
    refine ⟨fun h => (by rw [h] at hr; cases hr),fun j hj => ?_⟩
    by_cases hji:j = i
    · subst hji; exact hy.wpOp hi hS ⟨fun _ => hS,H⟩
    · have := ready_mono hj hji
      rw [H.1] at this
      cases this
  | succ fuel ih =>
    intro listed a w hfree hch hr hy hS H
    refine ⟨fun h => (by rw [h] at hr; cases hr),fun j hj => ?_⟩
    by_cases hji:j = i
    · subst hji; exact hy.wpOp hi hS ⟨fun _ => hS,H⟩
    · have hjc := hw.not_ready hch hj hji
      have hjl:j ≠ late := fun e => hjc (e ▸ hlate)
      have h1 := H.2 j (ready_mono hj hji)
      obtain ⟨hjun,oj,hoj,hall⟩ := mem_ready.1 hj
      have hnot:∀ e ∈ oj.after,Region.binds md e = true -> e.on ≠ i := fun e he hb heq => by
        have h1 := hall e he hb
        have h0 := (mem_ready.1 hr).1
        rw [heq] at h1
        rcases Nat.lt_or_ge i listed.size with h' | h'
        · simp [h'] at h0 h1; rw [h0] at h1; cases h1
        · simp [Array.getElem?_eq_none h'] at h1
      have h2 := wpOp_putIf hoj (hfree j oj hoj hji hjun hnot) (fun cs b => hsel i oi cs b hi) (fun cs b => hsel j oj cs b hoj) hQ hy h1
      have hfree' : ∀ k ok,ops[k]? = some ok -> k ≠ i -> (listed.setIfInBounds j true).getD k true = false ->
          (∀ e ∈ ok.after,Region.binds md e = true -> e.on ≠ i) -> oi.apart ops ok = true := fun k ok hk hki hun hno => by
        refine hfree k ok hk hki ?_ hno
        by_cases hjk:j = k
        · subst hjk; exact hjun
        · rw [getD_set_ne true hjk] at hun; exact hun
      have hch' : ∀ c ∈ ch,(listed.setIfInBounds j true).getD c true = false := fun c hc => by
        have hjk:j ≠ c := fun e => hjc (e ▸ hc)
        rw [getD_set_ne true hjk]
        exact hch c hc
      refine wpOp_mono (fun a' w' h3 => ⟨fun _ => h3.2.1 hjl,ih (listed.setIfInBounds j true) a' w' hfree' hch' (ready_mono hr (Ne.symm hji)) h3.1 (h3.2.1 hjl) ?_⟩) h2
      rw [Array.setIfInBounds_comm _ _ hji]
      exact h3.2.2

def behind (ops:Array Oper) (i:Nat):Nat -> List Nat
  | 0 => [i]
  | n + 1 => let l := behind ops i n
    l ++ (List.range ops.size).filter fun j => !l.contains j && (match ops[j]? with | some o => o.after.any fun e => Region.binds .any e && l.contains e.on | none => false)
def waitsB (ops:Array Oper) (listed:Array Bool) (i late:Nat) (ch:List Nat):Bool :=
  ch.contains late && i != late && ch.all fun c => !(listed.getD c true) && (c == i || (match ops[c]? with | some o => o.after.any fun e => Region.binds .any e && ch.contains e.on | none => false))

theorem waitsB_spec {listed:Array Bool} {i:Nat} {ch:List Nat} (h:waitsB ops listed i late ch = true):late ∈ ch /\ i ≠ late /\ Waits .any ops i ch /\ ∀ c ∈ ch,listed.getD c true = false := by
  unfold waitsB at h
  simp only [Bool.and_eq_true,List.all_eq_true,Bool.not_eq_true',Bool.or_eq_true,bne_iff_ne,ne_eq,List.contains_iff_mem,beq_iff_eq] at h
  obtain ⟨⟨h1,h2⟩,h3⟩ := h
  refine ⟨h1,h2,fun c hc => ?_,fun c hc => (h3 c hc).1⟩
  rcases (h3 c hc).2 with h | h
  · exact Or.inl h
  · cases ho:ops[c]? with
    | none => rw [ho] at h; cases h
    | some o =>
      rw [ho] at h
      simp only [Array.any_eq_true',Bool.and_eq_true,List.contains_iff_mem] at h
      obtain ⟨e,he,hb,hm⟩ := h
      exact Or.inr ⟨o,rfl,e,he,hb,hm⟩

theorem wpLate_take {i:Nat} {oi:Oper} {v:Value} {fuel:Nat} {listed:Array Bool} {a:Act} {w:World} (n:Nat) (hi:ops[i]? = some oi)
    (hs:Region.noSelect ops = true) (hf:Region.free .any ops listed i = true) (hr:(Region.ready .any ops listed).contains i = true) (hwt:waitsB ops listed i late (behind ops i n) = true)
    (hQ:∀ c a w,Q (.panic c) (a.put oi.dst v) w -> Q (.panic c) a w) (hy:YieldsIf P ops S oi v a) (hS:S w)
    (h:wpLate P .any ops Q S late fuel (listed.setIfInBounds i true) (a.put oi.dst v) w):wpLate P .any ops Q S late (fuel + 1) listed a w := by
  obtain ⟨h1,h2,h3,h4⟩ := waitsB_spec hwt
  exact wpLate_first hi (Region.noSelect_spec hs) hQ h3 h1 h2 fuel listed a w (Region.free_spec hi hf) h4 (by simpa using hr) hy hS h

theorem wpLate_one {i:Nat} {o:Oper} {fuel:Nat} {listed:Array Bool} {a:Act} {w:World} (hr:Region.ready md ops listed = [i]) (ho:ops[i]? = some o)
    (h:∀ K' : Act -> World -> Prop,Shut (∀ a w,(i ≠ late -> S w) -> ((i ≠ late -> S w) -> wpLate P md ops Q S late fuel (listed.setIfInBounds i true) a w) -> K' a w) -> if Region.wanted o (yielded ops a.tmps) = true then Oper.wp P o a w K' Q else K' (a.put o.dst undef) w) :
    wpLate P md ops Q S late (fuel + 1) listed a w :=
  ⟨fun h0 => (by rw [hr] at h0; cases h0),fun j hj => by
    rw [hr] at hj
    have:j = i := by simpa using hj
    subst this
    exact wpOp_step ho (fun K' hK => h K' (fun a w hS hW => hK a w ⟨hS,hW hS⟩))⟩

theorem wpLate_done {listed:Array Bool} {a:Act} {w:World} (hr:Region.ready md ops listed = []) (h:Q .normal a w):∀ fuel,wpLate P md ops Q S late fuel listed a w
  | 0 => ⟨hr,h⟩
  | _ + 1 => ⟨fun _ => h,by rw [hr]; simp⟩

theorem wp_region_late {id:Nat} {a:Act} {w:World} (late:Nat) (hm:P.follows .mixedOrders = true) (hS:S w.drew)
    (h:S w.drew -> wpLate P .any ops Q S late ops.size (Array.replicate ops.size false) a w.drew):(Code.region id ops true).wp P Q a w :=
  wp_region_any hm (wpAny_of_late _ _ _ _ (h hS))
end


def Pick:Nat -> List Oper -> Oper -> Prop
  | 0,y :: _,x => y = x
  | k + 1,_ :: l,x => Pick k l x
  | _,[],_ => False
theorem Pick.zero {x:Oper} {l:List Oper}:Pick 0 (x :: l) x := rfl
theorem Pick.succ {k:Nat} {x y:Oper} {l:List Oper} (h:Pick k l x):Pick (k + 1) (y :: l) x := h
theorem Pick.get:∀ {k:Nat} {l:List Oper} {x:Oper},Pick k l x -> l.toArray[k]? = some x
  | 0,y :: l,x,h => by
    have e:y = x := h
    simp [e]
  | k + 1,y :: l,x,h => by
    have e:Pick k l x := h
    simpa using e.get
  | 0,[],_,h => h.elim
  | k + 1,[],_,h => h.elim

theorem late_take {l:List Oper} {P:Program} {Q:Exit -> Act -> World -> Prop} {S:World -> Prop} {late:Nat} (i:Nat) {oi:Oper} (hp:Pick i l oi) {v:Value} {fuel:Nat} {listed:Array Bool} {a:Act} {w:World} 
    (hs:Region.noSelect l.toArray = true) (hf:Region.free .any l.toArray listed i = true) (hr:(Region.ready .any l.toArray listed).contains i = true) (hwt:waitsB l.toArray listed i late (behind l.toArray i 8) = true)
    (hQ:∀ c a w,Q (.panic c) (a.put oi.dst v) w -> Q (.panic c) a w) (hw:Region.wanted oi (yielded l.toArray a.tmps) = true) (hy:∀ w,S w -> (execOp a.eval oi).run P w = .ok (.value v) w) (hS:S w)
    (h:wpLate P .any l.toArray Q S late fuel (listed.setIfInBounds i true) (a.put oi.dst v) w):wpLate P .any l.toArray Q S late (fuel + 1) listed a w :=
  wpLate_take 8 hp.get hs hf hr hwt hQ (Or.inl ⟨hw,hy⟩) hS h

theorem late_one {l:List Oper} {P:Program} {Q:Exit -> Act -> World -> Prop} {S:World -> Prop} {late:Nat} (i:Nat) {o:Oper} (hp:Pick i l o) {fuel:Nat} {listed:Array Bool} {a:Act} {w:World} (hr:Region.ready .any l.toArray listed = [i]) 
    (h:∀ K' : Act -> World -> Prop,Shut (∀ a w,(i ≠ late -> S w) -> ((i ≠ late -> S w) -> wpLate P .any l.toArray Q S late fuel (listed.setIfInBounds i true) a w) -> K' a w) -> if Region.wanted o (yielded l.toArray a.tmps) = true then Oper.wp P o a w K' Q else K' (a.put o.dst undef) w) :
    wpLate P .any l.toArray Q S late (fuel + 1) listed a w := wpLate_one hr hp.get h
open Go.RowKit Go.Deep

set_option maxHeartbeats 400000 in
theorem below_any (b:Nat) (x:Int) (w:World) (h:w.cell? ⟨b,0,none⟩ = some (.int .i64 x)) :
    Calls Tryz.prog 157 #[.pointer (some ⟨b,0,none⟩)] w fun e w' => e = .returned (.int .i64 x) /\ w' = w := by
  go_enter Tryz.func157,Tryz.ntmps157
  go_wp2
  go_ret
  exact ⟨rfl,rfl⟩

set_option maxHeartbeats 400000 in
theorem leastLeaf_any (b n kc:Nat) (ka:Option Addr) (v0:Value) (X:Nat -> ByteArray) (w:World) (h:Bx w b 206 #[v0,.slice ka n kc]) (hr:RdS w ka n X) (hn:0 < n) :
    Calls Tryz.prog 205 #[.pointer (some ⟨b,0,none⟩)] w fun e w' => e = .returned (.string (X 0)) /\ w' = w := by
  have c1 := h.cell 1
  simp at c1
  have hnI:(0:Int) < (n:Int) := by omega
  rcases hr with h0 | ⟨bk,ok,rfl,hc⟩
  · omega
  have c2 := hc 0 hn
  rw [Nat.add_zero] at c2
  clear h hc
  go_enter Tryz.func205,Tryz.ntmps205
  go_wp2
  go_ret
  exact ⟨rfl,rfl⟩

theorem head_flat {d:Nat} {l:List (Ro d)} (h0:0 < l.length) (hp:0 < (keysR d l[0]).length):gt (l.flatMap (keysR d)) 0 = gt (keysR d l[0]) 0 := by
  cases l with
  | nil => simp at h0
  | cons t l =>
    simp only [List.getElem_cons_zero] at hp ⊢
    rw [List.flatMap_cons]
    unfold gt
    rw [List.getD_eq_getElem?_getD,List.getD_eq_getElem?_getD,List.getElem?_append_left hp]

set_option maxHeartbeats 1000000 in
theorem leastInner_any:∀ (d:Nat) (l:List (Ro d)) (S:Nat -> Prop) (b:Nat) (h:Nat) (w:World),TAt S w (d + 1) (.inr l) (.iface 174 (.pointer (some ⟨b,0,none⟩))) -> (∀ t,t ∈ l -> BalR d false t h) ->
    Calls Tryz.prog 188 #[.pointer (some ⟨b,0,none⟩)] w fun e w' => e = .returned (.string (gt (l.flatMap (keysR d)) 0)) /\ w' = w := by
  intro d
  induction d with
  | zero =>
    intro l S b h w ht hb
    obtain ⟨b',g,kc,xs,e,_,_,_,_,hl,_,hk⟩ := ht
    obtain ⟨u,_,q⟩ := hk 0 hl
    exact q.elim
  | succ d ih =>
    intro l S b h w ht hb
    obtain ⟨b',g,kc,xs,e,_,hx,_,_,hl,hc,hk⟩ := ht
    injection e with _ e
    injection e with e
    injection e with e
    injection e with e
    subst e
    obtain ⟨u,hu,hut⟩ := hk 0 hl
    have hpos := bal_pos (hb l[0] (List.getElem_mem hl))
    rw [head_flat hl hpos]
    have c1 := hx.cell 1
    simp at c1
    have c2 := hc 0 u hu
    have hb0 := hb l[0] (List.getElem_mem hl)
    have hlI:(0:Int) < (l.length:Int) := by omega
    clear hx hc hk hu
    generalize l[0] = t0 at *
    generalize l.length = ln at c1 hlI
    clear hl
    rcases t0 with t0 | l0
    · obtain ⟨b0,ka0,kc0,rfl,_,hx0,hr0⟩ := hut
      have HL:Hid (Calls Tryz.prog 205 #[.pointer (some ⟨b0,0,none⟩)] w fun e w' => e = .returned (.string (gt t0 0)) /\ w' = w) := leastLeaf_any b0 t0.length kc0 ka0 _ (gt t0) w hx0 hr0.rdS hpos
      clear hx0 hr0 ih hb hb0 hpos
      go_enter Tryz.func188,Tryz.ntmps188
      go_wp2_with fail
      refine HL.out.mono ?_
      rintro e w1 ⟨rfl,rfl⟩
      go_wp2
      go_ret
      exact ⟨rfl,rfl⟩
    · obtain ⟨h2,h4,h',_,hall⟩ := hb0
      have hut2 := hut
      obtain ⟨b0,g0,kc0,xs0,rfl,_⟩ := hut2
      have HL:Hid (Calls Tryz.prog 188 #[.pointer (some ⟨b0,0,none⟩)] w fun e w' => e = .returned (.string (gt (l0.flatMap (keysR d)) 0)) /\ w' = w) := ih l0 S b0 h' w hut hall
      clear ih hut hall hpos hb
      go_enter Tryz.func188,Tryz.ntmps188
      go_wp2_with fail
      refine HL.out.mono ?_
      rintro e w1 ⟨rfl,rfl⟩
      go_wp2
      go_ret
      exact ⟨rfl,rfl⟩

set_option maxHeartbeats 400000 in
theorem copyStrs_any (a:Option Addr) (n c:Nat) (L:List ByteArray) (w:World) (h:RdS w a n (gt L)) (hn:n = L.length) (hn2:n <= 1048576) :
    Calls Tryz.prog 119 #[.slice a n c] w fun e w' => ∃ a' c',e = .returned (.slice a' n c') /\ w'.ownsRow w.heap.size 9 1 (.slice a' n c') n (strL L) /\ Below w.heap.size w w' := by
  have HR:Hid (RdS w a n (gt L) /\ n = L.length) := ⟨h,hn⟩
  clear h hn
  go_enter Tryz.func119,Tryz.ntmps119
  go_wp2_with (at_builtin; refine wpList_append_strs rfl _ _ rfl w.heap.size (.slice none 0 0) 0 [] rfl (World.ownsRow_nil _ _ _ _) a n c L rfl HR.out.2 HR.out.1 (by omega) (Nat.le_refl _) ?_)
  intro v' w' ho hg hat
  have HB:Hid (Below w.heap.size w w') := (Below.refl _ _).grown hg (Nat.le_refl _) (fun k e => by simp [Value.ownBlock] at e)
  obtain ⟨a',c',rfl,_⟩ := own_form ho
  have HO:Hid (w'.ownsRow w.heap.size 9 1 (.slice a' n c') n (strL L)) := ho
  clear ho hg hat
  go_wp2
  go_ret
  exact ⟨a',c',rfl,HO.out,HB.out⟩

set_option maxHeartbeats 400000 in
theorem recountLeaf_any (b n kc:Nat) (ka:Option Addr) (x:Int) (w:World) (h:Bx w b 206 #[.int .i64 x,.slice ka n kc]) :
    Calls Tryz.prog 156 #[.pointer (some ⟨b,0,none⟩)] w fun e w' => e = .returned (.tuple #[]) /\ w' = w.setCell ⟨b,0,none⟩ (.int .i64 (n:Int)) := by
  have c0 := h.cell 0
  have c1 := h.cell 1
  have f0 := h.frozen 0
  have hl := h.lt
  simp at c0 c1
  clear h
  go_enter Tryz.func156,Tryz.ntmps156
  go_wp2
  go_end0
  exact ⟨rfl,rfl⟩
open Go.RowKit Go.Deep

def TOw (B:Nat) (w:World):(d:Nat) -> Ro d -> Value -> List Nat -> Prop
  | 0,_,_,_ => False
  | d + 1,.inl t,v,bs => ∃ b ka kc,v = .iface 204 (.pointer (some ⟨b,0,none⟩)) /\ B <= b /\ Bx w b 206 #[.int .i64 (t.length:Int),.slice ka t.length kc] /\ w.ownsRow B 9 1 (.slice ka t.length kc) t.length (strL t) /\ bs = b :: (ka.map (·.block)).toList
  | d + 1,.inr l,v,bs => ∃ (b g kc:Nat) (xs:List Value) (bss:List (List Nat)),v = .iface 174 (.pointer (some ⟨b,0,none⟩)) /\ B <= b /\ Bx w b 179 #[.int .i64 ((l.flatMap (keysR d)).length:Int),.slice (some ⟨g,0,none⟩) l.length kc] /\ w.ownsRow B 68 1 (.slice (some ⟨g,0,none⟩) l.length kc) l.length xs /\ 0 < l.length /\ bss.length = l.length /\ bs = b :: g :: bss.flatten /\
      ∀ k (h:k < l.length),∃ u us,xs[k]? = some u /\ bss[k]? = some us /\ TOw B w d l[k] u us

theorem own_keep {w w' : World} {B:Nat} {e:TypeId} {size:Nat} {v:Value} {n:Nat} {xs:List Value} (h:w.ownsRow B e size v n xs) (hk:∀ g,v.ownBlock = some g -> w'.heap[g]? = w.heap[g]?):w'.ownsRow B e size v n xs := by
  refine ⟨h.1,?_⟩
  rcases h.2 with q | ⟨g,cap,cur,q1,q2,q3,q4⟩
  · exact .inl q
  · exact .inr ⟨g,cap,cur,q1,q2,(hk g (by rw [q1]; rfl)).trans q3,q4⟩

theorem TOw.keep {B:Nat} {w w' : World}:∀ {d:Nat} {t:Ro d} {v:Value} {bs:List Nat},TOw B w d t v bs -> (∀ b,b ∈ bs -> w'.heap[b]? = w.heap[b]?) -> TOw B w' d t v bs
  | 0,_,_,_,h,_ => h
  | d + 1,.inl t,v,bs,h,hk => by
    obtain ⟨b,ka,kc,rfl,hB,hx,ho,rfl⟩ := h
    refine ⟨b,ka,kc,rfl,hB,hx.of_block (hk b (by simp)),own_keep ho (fun g e => hk g ?_),rfl⟩
    cases ka with
    | none => cases e
    | some p =>
      injection e with e
      subst e
      simp
  | d + 1,.inr l,v,bs,h,hk => by
    obtain ⟨b,g,kc,xs,bss,rfl,hB,hx,ho,hl,hbl,rfl,hall⟩ := h
    refine ⟨b,g,kc,xs,bss,rfl,hB,hx.of_block (hk b (by simp)),own_keep ho (fun g' e => hk g' ?_),hl,hbl,rfl,fun k h => ?_⟩
    · injection e with e
      subst e
      simp
    · obtain ⟨u,us,e1,e2,e3⟩ := hall k h
      refine ⟨u,us,e1,e2,TOw.keep e3 (fun b' hb' => hk b' ?_)⟩
      have:us ∈ bss := List.mem_of_getElem? e2
      simp only [List.mem_cons,List.mem_flatten]
      exact .inr (.inr ⟨us,this,hb'⟩)

theorem TOw.lt {B:Nat} {w:World}:∀ {d:Nat} {t:Ro d} {v:Value} {bs:List Nat},TOw B w d t v bs -> ∀ b,b ∈ bs -> B <= b /\ b < w.heap.size
  | 0,_,_,_,h,_,_ => h.elim
  | d + 1,.inl t,v,bs,h,b',hb' => by
    obtain ⟨b,ka,kc,rfl,hB,hx,ho,rfl⟩ := h
    rw [List.mem_cons] at hb'
    rcases hb' with rfl | hb'
    · exact ⟨hB,hx.lt⟩
    · cases ka with
      | none => simp at hb'
      | some p =>
        simp at hb'
        exact own_lt ho b' (by rw [hb']; rfl)
  | d + 1,.inr l,v,bs,h,b',hb' => by
    obtain ⟨b,g,kc,xs,bss,rfl,hB,hx,ho,hl,hbl,rfl,hall⟩ := h
    rw [List.mem_cons,List.mem_cons] at hb'
    rcases hb' with rfl | rfl | hb'
    · exact ⟨hB,hx.lt⟩
    · exact own_lt ho b' rfl
    · rw [List.mem_flatten] at hb'
      obtain ⟨us,h1,h2⟩ := hb'
      obtain ⟨k,hk,e⟩ := List.getElem_of_mem h1
      obtain ⟨u,us',e1,e2,e3⟩ := hall k (by omega)
      rw [List.getElem?_eq_getElem hk,e] at e2
      injection e2 with e2
      subst e2
      exact TOw.lt e3 b' h2

theorem TOw.below {B:Nat} {w w' : World} {d:Nat} {t:Ro d} {v:Value} {bs:List Nat} (h:TOw B w d t v bs) (hb:Below w.heap.size w w'):TOw B w' d t v bs := h.keep (fun b hm => hb.block b (h.lt b hm).2)

theorem TOw.tat {B:Nat} {w:World}:∀ {d:Nat} {t:Ro d} {v:Value} {bs:List Nat},TOw B w d t v bs -> TAt (fun b => b ∈ bs) w d t v
  | 0,_,_,_,h => h.elim
  | d + 1,.inl t,v,bs,h => by
    obtain ⟨b,ka,kc,rfl,hB,hx,ho,rfl⟩ := h
    refine ⟨b,ka,kc,rfl,by simp,hx,?_⟩
    rcases ho.2 with ⟨q,q0⟩ | ⟨g,cap,cur,q1,q2,q3,q4⟩
    · exact .inl q0
    · injection q1 with q1 _ q5
      subst q1 q5
      refine .inr ⟨g,rfl,by simp,(own_lt ho g rfl).2,fun i hi => ?_⟩
      rw [ho.cellAt i (by omega),strL_get t i hi]
  | d + 1,.inr l,v,bs,h => by
    obtain ⟨b,g,kc,xs,bss,rfl,hB,hx,ho,hl,hbl,rfl,hall⟩ := h
    have hc := own_cap ho
    refine ⟨b,g,kc,xs,rfl,by simp,hx,by simp,⟨(own_lt ho g rfl).2,hc.1,hc.2⟩,hl,fun j u hj => ?_,fun k h => ?_⟩
    · have hjl := (List.getElem?_eq_some_iff.1 hj).1
      rw [ho.1] at hjl
      rw [ho.cellAt j hjl]
      exact hj
    · obtain ⟨u,us,e1,e2,e3⟩ := hall k h
      refine ⟨u,e1,TAt.mono (Nat.le_refl _) (fun b' hb' _ => ⟨?_,rfl⟩) (TOw.tat e3)⟩
      have:us ∈ bss := List.mem_of_getElem? e2
      simp only [List.mem_cons,List.mem_flatten]
      exact .inr (.inr ⟨us,this,hb'⟩)
open Go.RowKit Go.Deep

def UsedT (v:Value) (n:Nat) (N:Nat -> Tn) (KA DA:Nat -> Option Addr) (x:Nat):Prop :=
  v.ownBlock = some x \/ (∃ i,i < n /\ (N i).kn ≠ 0 /\ KA i = some ⟨x,0,none⟩) \/ (∃ i,i < n /\ (N i).dn ≠ 0 /\ DA i = some ⟨x,0,none⟩)
structure GT (w:World) (B:Nat) (v:Value) (n:Nat) (N:Nat -> Tn) (KA DA:Nat -> Option Addr) (KC DC:Nat -> Nat):Prop where
  row:w.ownsRow B 168 4 v n ((List.range (n * 4)).map (tnCell N KA DA KC DC))
  keys:∀ i,i < n -> OwnS w B (KA i) (N i).kn (N i).ks
  kids:∀ i,i < n -> OwnI w B (DA i) (N i).dn (N i).kd
  apartK:∀ i j,i < n -> j < n -> i ≠ j -> (N i).kn ≠ 0 -> (N j).kn ≠ 0 -> KA i ≠ KA j
  apartD:∀ i j,i < n -> j < n -> i ≠ j -> (N i).dn ≠ 0 -> (N j).dn ≠ 0 -> DA i ≠ DA j

theorem GT.keep {w w' : World} {B:Nat} {v:Value} {n:Nat} {N:Nat -> Tn} {KA DA:Nat -> Option Addr} {KC DC:Nat -> Nat} (h:GT w B v n N KA DA KC DC) (hk:∀ x,UsedT v n N KA DA x -> w'.heap[x]? = w.heap[x]?):GT w' B v n N KA DA KC DC := by
  refine ⟨own_keep h.row (fun g e => hk g (.inl e)),fun i hi => ?_,fun i hi => ?_,h.apartK,h.apartD⟩
  · rcases h.keys i hi with q | ⟨g,e,hg,hr⟩
    · exact .inl q
    · by_cases h0:(N i).kn = 0
      · exact .inl h0
      · exact .inr ⟨g,e,hg,hr.of_block (hk g (.inr (.inl ⟨i,hi,h0,e⟩)))⟩
  · rcases h.kids i hi with q | ⟨g,e,hg,hr⟩
    · exact .inl q
    · by_cases h0:(N i).dn = 0
      · exact .inl h0
      · exact .inr ⟨g,e,hg,hr.of_block (hk g (.inr (.inr ⟨i,hi,h0,e⟩)))⟩

theorem GT.used {w:World} {B:Nat} {v:Value} {n:Nat} {N:Nat -> Tn} {KA DA:Nat -> Option Addr} {KC DC:Nat -> Nat} (h:GT w B v n N KA DA KC DC) {x:Nat} (hx:UsedT v n N KA DA x):B <= x /\ x < w.heap.size := by
  rcases hx with hx | ⟨i,hi,h0,e⟩ | ⟨i,hi,h0,e⟩
  · exact own_lt h.row x hx
  · rcases h.keys i hi with q | ⟨g,e',hg,hr⟩
    · exact absurd q h0
    · rw [e] at e'
      injection e' with e'
      injection e' with e'
      subst e'
      exact ⟨hg,hr.lt⟩
  · rcases h.kids i hi with q | ⟨g,e',hg,hr⟩
    · exact absurd q h0
    · rw [e] at e'
      injection e' with e'
      injection e' with e'
      subst e'
      exact ⟨hg,hr.lt⟩
theorem GT.below {w w' : World} {B:Nat} {v:Value} {n:Nat} {N:Nat -> Tn} {KA DA:Nat -> Option Addr} {KC DC:Nat -> Nat} (h:GT w B v n N KA DA KC DC) (hb:Below w.heap.size w w'):GT w' B v n N KA DA KC DC := h.keep (fun x hx => hb.block x (h.used hx).2)

theorem row_not {w:World} {B:Nat} {e t:TypeId} {sz n m:Nat} {v:Value} {xs:List Value} {f:Nat -> Value} {g:Nat} (ho:w.ownsRow B e sz v n xs) (hr:rowIn w g t m f) (hne:e ≠ t):v.ownBlock ≠ some g := by
  intro q
  rcases ho.2 with ⟨rfl,_⟩ | ⟨g',cap,cur,rfl,hb,hh,_⟩
  · cases q
  · injection q with q
    have q' : g' = g := q
    subst q'
    obtain ⟨c,hc,_⟩ := hr
    rw [hh] at hc
    injection hc with hc
    injection hc with _ hc _
    exact hne hc

theorem GT.push {w w' : World} {B:Nat} {v v' : Value} {n:Nat} {N:Nat -> Tn} {KA DA:Nat -> Option Addr} {KC DC:Nat -> Nat} (h:GT w B v n N KA DA KC DC) (x:Tn) (ka da:Option Addr) (kc dc:Nat) (hk:OwnS w B ka x.kn x.ks) (hd:OwnI w B da x.dn x.kd) (hka:∀ i,i < n -> (N i).kn ≠ 0 -> x.kn ≠ 0 -> KA i ≠ ka) (hda:∀ i,i < n -> (N i).dn ≠ 0 -> x.dn ≠ 0 -> DA i ≠ da)
    (ho:w'.ownsRow B 168 4 v' (n + 1) ((List.range (n * 4)).map (tnCell N KA DA KC DC) ++ [.bool x.lf,.slice ka x.kn kc,.slice da x.dn dc,.int .i64 x.ct])) (hg:w.grownBy w' v.ownBlock) :
    GT w' B v' (n + 1) (fun i => if i = n then x else N i) (fun i => if i = n then ka else KA i) (fun i => if i = n then da else DA i) (fun i => if i = n then kc else KC i) (fun i => if i = n then dc else DC i) := by
  have hS:∀ (a:Option Addr) (m:Nat) (X:Nat -> ByteArray),OwnS w B a m X -> OwnS w' B a m X := by
    intro a m X q
    rcases q with q | ⟨g,rfl,hgB,hr⟩
    · exact .inl q
    · exact .inr ⟨g,rfl,hgB,hr.of_block (hg.block g hr.lt (fun e => row_not h.row hr (by decide) e.symm))⟩
  have hI:∀ (a:Option Addr) (m:Nat) (X:Nat -> Int),OwnI w B a m X -> OwnI w' B a m X := by
    intro a m X q
    rcases q with q | ⟨g,rfl,hgB,hr⟩
    · exact .inl q
    · exact .inr ⟨g,rfl,hgB,hr.of_block (hg.block g hr.lt (fun e => row_not h.row hr (by decide) e.symm))⟩
  refine ⟨?_,fun i hi => ?_,fun i hi => ?_,fun i j hi hj hij h1 h2 => ?_,fun i j hi hj hij h1 h2 => ?_⟩
  · have e:(List.range ((n + 1) * 4)).map (tnCell (fun i => if i = n then x else N i) (fun i => if i = n then ka else KA i) (fun i => if i = n then da else DA i) (fun i => if i = n then kc else KC i) (fun i => if i = n then dc else DC i)) = (List.range (n * 4)).map (tnCell N KA DA KC DC) ++ [.bool x.lf,.slice ka x.kn kc,.slice da x.dn dc,.int .i64 x.ct] := by
      rw [show (n + 1) * 4 = n * 4 + 1 + 1 + 1 + 1 by omega,List.range_succ,List.range_succ,List.range_succ,List.range_succ]
      simp only [List.map_append,List.map_cons,List.map_nil,List.append_assoc,List.cons_append,List.nil_append]
      rw [show n * 4 + 1 + 1 + 1 = n * 4 + 3 by omega,show n * 4 + 1 + 1 = n * 4 + 2 by omega,tnCell_0,tnCell_1,tnCell_2,tnCell_3]
      simp only [if_true]
      congr 1
      refine List.map_congr_left (fun c hc => ?_)
      have hc' : c < n * 4 := List.mem_range.1 hc
      unfold tnCell
      have:c / 4 ≠ n := by omega
      simp only [this,if_false]
    rw [e]
    exact ho
  · by_cases e:i = n
    · subst e; simp only [if_true]; exact hS _ _ _ hk
    · simp only [e,if_false]; exact hS _ _ _ (h.keys i (by omega))
  · by_cases e:i = n
    · subst e; simp only [if_true]; exact hI _ _ _ hd
    · simp only [e,if_false]; exact hI _ _ _ (h.kids i (by omega))
  · by_cases e1:i = n
    · have e2:j ≠ n := by omega
      subst e1
      simp only [if_true,e2,if_false] at h1 h2 ⊢
      exact fun q => hka j (by omega) h2 h1 q.symm
    · by_cases e2:j = n
      · subst e2
        simp only [if_true,e1,if_false] at h1 h2 ⊢
        exact hka i (by omega) h1 h2
      · simp only [e1,e2,if_false] at h1 h2 ⊢
        exact h.apartK i j (by omega) (by omega) hij h1 h2
  · by_cases e1:i = n
    · have e2:j ≠ n := by omega
      subst e1
      simp only [if_true,e2,if_false] at h1 h2 ⊢
      exact fun q => hda j (by omega) h2 h1 q.symm
    · by_cases e2:j = n
      · subst e2
        simp only [if_true,e1,if_false] at h1 h2 ⊢
        exact hda i (by omega) h1 h2
      · simp only [e1,e2,if_false] at h1 h2 ⊢
        exact h.apartD i j (by omega) (by omega) hij h1 h2
end Go.Proofs.YtcnollkkigiobaaGreat
