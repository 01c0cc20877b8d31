import Derived.Test.YtcnollkkigiobaaGreatNa37
import Derived.Test.YtcnollkkigiobaaGreatNa30
import Derived.Laws.EntriesVeiled
set_option linter.unusedVariables false
set_option maxRecDepth 100000
namespace Go.Proofs.YtcnollkkigiobaaGreat
open Go.RowKit Go.Deep

def layA:Array Value := #[.func (.func 101) #[] #[],.func (.func 102) #[] #[],.func (.func 103) #[] #[],.func (.func 104) #[] #[],.func (.func 105) #[] #[],.func (.func 106) #[] #[]]
theorem lay_idx (j:Nat) (hj:j < 6) (w:World):(Instr.index 97 (.agg layA) (.int .i64 (j:Int))).run Tryz.prog w = .ok (.func (.func (layF j)) #[] #[]) w := by
  rcases (show j = 0 \/ j = 1 \/ j = 2 \/ j = 3 \/ j = 4 \/ j = 5 by omega) with rfl | rfl | rfl | rfl | rfl | rfl
  · exact idx_0 w
  · exact idx_1 w
  · exact idx_2 w
  · exact idx_3 w
  · exact idx_4 w
  · exact idx_5 w
def XT (B:Nat) (w:World) (A:Array Value) (M:Nat -> Nat) (T:Nat -> Nat -> Tn) (q:Nat):Prop :=
  A[q * 2]? = some (.func (.func (layF q)) #[] #[]) /\ ∃ (t:Ro (M q)) (t' : Ro 21) (h:Nat) (v:Value),VTt (M q) (T q) t' /\ keysR 21 t' = keysR (M q) t /\ BalR (M q) true t h /\ Tells (T q) 0 (M q) t 0 /\ nodesR (M q) t = M q /\ TAt (fun b => B <= b) w (M q) t v /\ A[q * 2 + 1]? = some v
theorem XT.keep {B:Nat} {w w' : World} {A:Array Value} {M:Nat -> Nat} {T:Nat -> Nat -> Tn} {q:Nat} (h:XT B w A M T q) (hz:w.heap.size <= w'.heap.size) (hb:∀ k,k < w.heap.size -> B <= k -> w'.heap[k]? = w.heap[k]?):XT B w' A M T q := by
  obtain ⟨h0,t,t',hh,v,h1,h2,h3,h4,h5,h6,h7⟩ := h
  exact ⟨h0,t,t',hh,v,h1,h2,h3,h4,h5,h6.mono hz (fun b hB hlt => ⟨hB,hb b hlt hB⟩),h7⟩
structure IS (w W:World) (a:Option Addr) (c:Nat) (M:Nat -> Nat) (T:Nat -> Nat -> Tn) (j:Nat) (A:Array Value):Prop where
  ib:Bx W w.heap.size 32 #[.slice a 6 c]
  xb:Bx W (w.heap.size + 1) 109 A
  sz:A.size = 12
  bel:Below w.heap.size w W
  xt:∀ q,q < j -> XT (w.heap.size + 2) W A M T q
theorem IS.keep {w W W' : World} {a:Option Addr} {c:Nat} {M:Nat -> Nat} {T:Nat -> Nat -> Tn} {j:Nat} {A:Array Value} (h:IS w W a c M T j A) (hb:Below W.heap.size W W'):IS w W' a c M T j A :=
  ⟨(hb.block _ h.ib.lt).trans h.ib,(hb.block _ h.xb.lt).trans h.xb,h.sz,h.bel.trans (hb.mono h.bel.size),fun q hq => (h.xt q hq).keep hb.size (fun k hk _ => hb.block k hk)⟩
theorem IS.put {w W:World} {a:Option Addr} {c:Nat} {M:Nat -> Nat} {T:Nat -> Nat -> Tn} {j:Nat} {A:Array Value} (h:IS w W a c M T j A) (hj:j < 6) {t:Ro (M j)} {t' : Ro 21} {hh:Nat} {v:Value} (h1:VTt (M j) (T j) t') (h2:keysR 21 t' = keysR (M j) t) (h3:BalR (M j) true t hh) (h4:Tells (T j) 0 (M j) t 0) (h5:nodesR (M j) t = M j) (h6:TAt (fun b => w.heap.size + 2 <= b) W (M j) t v) :
    IS w ((W.setCell ⟨w.heap.size + 1,j * 2,none⟩ (.func (.func (layF j)) #[] #[])).setCell ⟨w.heap.size + 1,j * 2 + 1,none⟩ v) a c M T (j + 1) ((A.setIfInBounds (j * 2) (.func (.func (layF j)) #[] #[])).setIfInBounds (j * 2 + 1) v) := by
  have hz := h.sz
  have hk:∀ k,w.heap.size + 2 <= k -> ((W.setCell ⟨w.heap.size + 1,j * 2,none⟩ (.func (.func (layF j)) #[] #[])).setCell ⟨w.heap.size + 1,j * 2 + 1,none⟩ v).heap[k]? = W.heap[k]? := fun k hk => (Below.heap_setCell _ _ _ _ (by simp; omega)).trans (Below.heap_setCell _ _ _ _ (by simp; omega))
  refine ⟨(h.ib.other (by simp) _).other (by simp) _,(h.xb.set _ _).set _ _,by simp [hz],(h.bel.setCell (by simp) _).setCell (by simp) _,fun q hq => ?_⟩
  by_cases e:q = j
  · subst e
    refine ⟨?_,t,t',hh,v,h1,h2,h3,h4,h5,h6.mono (by simp) (fun b hB hlt => ⟨hB,hk b hB⟩),?_⟩
    · rw [Array.getElem?_setIfInBounds_ne (by omega),Array.getElem?_setIfInBounds_self_of_lt (by omega)]
    · rw [Array.getElem?_setIfInBounds_self_of_lt (by simp; omega)]
  · obtain ⟨g0,s,s',sh,u,g1,g2,g3,g4,g5,g6,g7⟩ := h.xt q (by omega)
    refine ⟨?_,s,s',sh,u,g1,g2,g3,g4,g5,g6.mono (by simp) (fun b hB hlt => ⟨hB,hk b hB⟩),?_⟩
    · rw [Array.getElem?_setIfInBounds_ne (by omega),Array.getElem?_setIfInBounds_ne (by omega)]
      exact g0
    · rw [Array.getElem?_setIfInBounds_ne (by omega),Array.getElem?_setIfInBounds_ne (by omega)]
      exact g7
theorem same_of {j m m0:Nat} {N N0:Nat -> Tn} {t t0:Ro 21} (hv:VTt m N t) (hv0:VTt m0 N0 t0) {K:List ByteArray} (hK:keysR 21 t = K):((K.map (quadOf j)).length = ((keysR 21 t0).map (quadOf 0)).length /\ ∀ q,q ∈ K.map (quadOf j) -> q ∈ (keysR 21 t0).map (quadOf 0)) ↔ SameQ j m N m0 N0 := by
  subst hK
  constructor
  · rintro ⟨h1,h2⟩ s s0 hs hs0
    have e := vtt1 hv hs
    have e0 := vtt1 hv0 hs0
    subst e
    subst e0
    exact ⟨by simpa using h1,fun k hk => h2 _ (List.mem_map_of_mem hk)⟩
  · intro h
    obtain ⟨h1,h2⟩ := h t t0 hv hv0
    refine ⟨by simpa using h1,fun q hq => ?_⟩
    obtain ⟨k,hk,rfl⟩ := List.mem_map.1 hq
    exact h2 k hk
def Fst (W:World) (M:Nat -> Nat) (T:Nat -> Nat -> Tn) (j:Nat) (f:Value):Prop :=
  1 <= j -> ∃ (B:Nat) (t:Ro 21),f = .map (some B) /\ VTt (M 0) (T 0) t /\ QMap W B ((keysR 21 t).map (quadOf 0))
theorem Fst.keep {W W' : World} {M:Nat -> Nat} {T:Nat -> Nat -> Tn} {j:Nat} {f:Value} (h:Fst W M T j f) (hb:Below W.heap.size W W'):Fst W' M T j f := fun hj => by
  obtain ⟨B,t,h1,h2,h3⟩ := h hj
  exact ⟨B,t,h1,h2,h3.below hb⟩
theorem Fst.put {W:World} {M:Nat -> Nat} {T:Nat -> Nat -> Tn} {j b i i' : Nat} {f u u' : Value} {A:Array Value} {ty:TypeId} (h:Fst W M T j f) (hx:Bx W b ty A):Fst ((W.setCell ⟨b,i,none⟩ u).setCell ⟨b,i',none⟩ u') M T j f := fun hj => by
  obtain ⟨B,t,h1,h2,h3⟩ := h hj
  refine ⟨B,t,h1,h2,h3.kept ?_⟩
  have hne:B ≠ b := by
    rintro rfl
    obtain ⟨es,cl,g,_⟩ := h3
    have hx' : W.heap[B]? = _ := hx
    rw [g] at hx'
    cases hx'
  exact (Below.heap_setCell _ _ _ _ hne).trans (Below.heap_setCell _ _ _ _ hne)
def VIj (M:Nat -> Nat) (T:Nat -> Nat -> Tn) (j:Nat):Prop := (∀ q,q < j -> OkT q (M q) (T q)) /\ ∀ i,1 <= i -> i < j -> SameQ i (M i) (T i) (M 0) (T 0)
def RetIx (w:World) (a:Option Addr) (n c:Nat) (M:Nat -> Nat) (T:Nat -> Nat -> Tn) (e:Ending) (w' : World):Prop :=
  (e = .returned (.tuple #[.pointer none,.bool false]) /\ ¬ VI n M T /\ Below w.heap.size w w') \/ (e = .returned (.tuple #[.pointer (some ⟨w.heap.size + 1,0,none⟩),.bool true]) /\ VI n M T /\ ∃ A,IS w w' a c M T 6 A)

end Go.Proofs.YtcnollkkigiobaaGreat
