import Derived.Test.YtcnollkkigiobaaGreatNa19
import Derived.Test.YtcnollkkigiobaaGreatNa20
import Derived.Test.YtcnollkkigiobaaGreatNa21
import Derived.Test.YtcnollkkigiobaaGreatNa11
import Derived.Test.YtcnollkkigiobaaGreatNa13
set_option linter.unusedVariables false
set_option maxRecDepth 100000
namespace Go.Proofs.YtcnollkkigiobaaGreat
open Go.RowKit Go.Deep

theorem sum_split {d:Nat} (l:List (Ro d)) (i:Nat) (hi:i < l.length) (r:List (Ro d)):((l.take i ++ r ++ l.drop (i + 1)).map (nodesR d)).sum + nodesR d l[i] = (l.map (nodesR d)).sum + (r.map (nodesR d)).sum := by
  have e:l = l.take i ++ [l[i]] ++ l.drop (i + 1) := by
    rw [List.append_assoc,List.singleton_append,List.getElem_cons_drop,List.take_append_drop]
  have e2:(l.map (nodesR d)).sum = ((l.take i).map (nodesR d)).sum + nodesR d l[i] + ((l.drop (i + 1)).map (nodesR d)).sum := by
    conv => lhs; rw [e]
    rw [List.map_append,List.map_append,List.sum_append,List.sum_append]
    simp
  rw [e2,List.map_append,List.map_append,List.sum_append,List.sum_append]
  omega

theorem InsR.nodes {key:ByteArray}:∀ {d:Nat} {t:Ro d} {rs:List (Ro d)},InsR key d t rs -> (rs.map (nodesR d)).sum <= nodesR d t + d
  | 0,t,_,_ => t.elim
  | d + 1,.inl ks,rs,h => by
    rw [InsR_inl] at h
    subst h
    unfold splL
    split
    · show 1 + 0 <= 1 + (d + 1); omega
    · show 1 + (1 + 0) <= 1 + (d + 1); omega
  | d + 1,.inr l,rs,h => by
    rw [InsR_inr] at h
    obtain ⟨i,_,hi,r',h1,rfl⟩ := h
    have q := InsR.nodes h1
    have q2 := sum_split l i hi r'
    generalize l.take i ++ r' ++ l.drop (i + 1) = M at q2
    have hn:nodesR (d + 1) (.inr l) = 1 + (l.map (nodesR d)).sum := rfl
    rw [hn]
    unfold splL
    split
    · show (1 + (M.map (nodesR d)).sum) + 0 <= _
      omega
    · show (1 + ((M.take 3).map (nodesR d)).sum) + ((1 + ((M.drop 3).map (nodesR d)).sum) + 0) <= _
      have e:((M.take 3).map (nodesR d)).sum + ((M.drop 3).map (nodesR d)).sum = (M.map (nodesR d)).sum := by
        rw [<- List.sum_append,<- List.map_append,List.take_append_drop]
      omega

def insN (rs:List (Ro 21)):Nat := if rs.length <= 1 then (rs.map (nodesR 21)).sum else 1 + (rs.map (nodesR 21)).sum
def InsT (M:Nat -> Tn):List (Ro 21) -> Prop
  | [y] => Tells M 0 21 y 0
  | [y,z] => Tells M 0 22 (.inr [y,z]) 0
  | _ => False
def InsTo (n:Nat) (N:Nat -> Tn) (key:ByteArray) (m:Nat) (M:Nat -> Tn):Prop :=
  ∃ t rs,VTt n N t /\ key.size <= 16 /\ key ∉ keysR 21 t /\ InsR key 21 t rs /\ m = insN rs /\ m <= 5000 /\ InsT M rs
def InsNo (n:Nat) (N:Nat -> Tn) (key:ByteArray):Prop :=
  ∀ t rs,VTt n N t -> key.size <= 16 -> key ∉ keysR 21 t -> InsR key 21 t rs -> 5000 < insN rs
def RetTr (w:World) (n:Nat) (N:Nat -> Tn) (key:ByteArray) (e:Ending) (w' : World):Prop :=
  Below w.heap.size w w' /\ ∃ ok a m c M,e = .returned (.agg #[.bool ok,.slice a m c]) /\ RdTn w' a m M /\ ((ok = true /\ InsTo n N key m M) \/ (ok = false /\ m = n /\ M = N /\ InsNo n N key))

theorem VTt.fn {n:Nat} {N:Nat -> Tn} {t t' : Ro 21} (h:VTt n N t) (h' : VTt n N t'):t = t' := by
  have q := h.2.2.1
  rw [h'.2.2.1] at q
  injection q with q
  injection q with q _
  exact q.symm

abbrev capC (n c:Nat):Prop := n <= c /\ c <= 9223372036854775807

end Go.Proofs.YtcnollkkigiobaaGreat
