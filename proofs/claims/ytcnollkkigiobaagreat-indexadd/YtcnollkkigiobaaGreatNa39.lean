import Derived.Test.YtcnollkkigiobaaGreatNa38
import Derived.Test.YtcnollkkigiobaaGreatNa26
import Derived.Test.YtcnollkkigiobaaGreatNa29
set_option linter.unusedVariables false
set_option maxRecDepth 100000
namespace Go.Proofs.YtcnollkkigiobaaGreat
open Go.RowKit Go.Deep

def TOr (lo hi:Nat) (w:World) (d:Nat) (t:Ro d) (v:Value):Prop := ∃ bs:List Nat,bs.Nodup /\ TOw lo w d t v bs /\ (∀ b,b ∈ bs -> b < hi) /\ hi <= w.heap.size
theorem TOr.keep {lo hi:Nat} {w w' : World} {d:Nat} {t:Ro d} {v:Value} (h:TOr lo hi w d t v) (hz:w.heap.size <= w'.heap.size) (hk:∀ k,lo <= k -> k < hi -> w'.heap[k]? = w.heap[k]?):TOr lo hi w' d t v := by
  obtain ⟨bs,h1,h2,h3,h4⟩ := h
  exact ⟨bs,h1,h2.keep (fun b hb => hk b (h2.lt b hb).1 (h3 b hb)),h3,Nat.le_trans h4 hz⟩
def XO (lo hi:Nat) (w:World) (A:Array Value) (M:Nat -> Nat) (T:Nat -> Nat -> Tn) (q:Nat):Prop :=
  A[q * 2]? = some (.func (.func (layF q)) #[] #[]) /\ ∃ (t:Ro (M q)) (t' : Ro 21) (h:Nat) (v:Value),VTt (M q) (T q) t' /\ keysR 21 t' = keysR (M q) t /\ BalR (M q) true t h /\ Tells (T q) 0 (M q) t 0 /\ nodesR (M q) t = M q /\ TOr lo hi w (M q) t v /\ A[q * 2 + 1]? = some v
theorem XO.keep {lo hi:Nat} {w w' : World} {A:Array Value} {M:Nat -> Nat} {T:Nat -> Nat -> Tn} {q:Nat} (h:XO lo hi w A M T q) (hz:w.heap.size <= w'.heap.size) (hb:∀ k,lo <= k -> k < hi -> w'.heap[k]? = w.heap[k]?):XO lo hi w' A M T q := by
  obtain ⟨h0,t,t',hh,v,h1,h2,h3,h4,h5,h6,h7⟩ := h
  exact ⟨h0,t,t',hh,v,h1,h2,h3,h4,h5,h6.keep hz hb,h7⟩
theorem XO.top {lo hi:Nat} {w:World} {A:Array Value} {M:Nat -> Nat} {T:Nat -> Nat -> Tn} {q:Nat} (h:XO lo hi w A M T q):hi <= w.heap.size := by
  obtain ⟨h0,t,t',hh,v,h1,h2,h3,h4,h5,⟨_,_,_,_,q⟩,h7⟩ := h
  exact q
structure Ioo (w W:World) (a:Option Addr) (c:Nat) (M:Nat -> Nat) (T:Nat -> Nat -> Tn) (j:Nat) (A:Array Value) (lo hi:Nat -> Nat):Prop where
  ib:Bx W w.heap.size 32 #[.slice a 6 c]
  xb:Bx W (w.heap.size + 1) 109 A
  sz:A.size = 12
  bel:Below w.heap.size w W
  xt:∀ q,q < j -> XO (lo q) (hi q) W A M T q
  base:∀ q,q < j -> w.heap.size + 2 <= lo q
  ord:∀ i q,i < q -> q < j -> hi i <= lo q
theorem Ioo.keep {w W W' : World} {a:Option Addr} {c:Nat} {M:Nat -> Nat} {T:Nat -> Nat -> Tn} {j:Nat} {A:Array Value} {lo hi:Nat -> Nat} (h:Ioo w W a c M T j A lo hi) (hb:Below W.heap.size W W'):Ioo w W' a c M T j A lo hi :=
  ⟨(hb.block _ h.ib.lt).trans h.ib,(hb.block _ h.xb.lt).trans h.xb,h.sz,h.bel.trans (hb.mono h.bel.size),fun q hq => (h.xt q hq).keep hb.size (fun k _ hk => hb.block k (by have := (h.xt q hq).top; omega)),h.base,h.ord⟩
theorem Ioo.put {w W:World} {a:Option Addr} {c:Nat} {M:Nat -> Nat} {T:Nat -> Nat -> Tn} {j:Nat} {A:Array Value} {lo hi:Nat -> Nat} (h:Ioo w W a c M T j A lo hi) (hj:j < 6) {l:Nat} (hl:w.heap.size + 2 <= l) (hlo:∀ q,q < j -> hi q <= l) {t:Ro (M j)} {t' : Ro 21} {hh:Nat} {v:Value} (h1:VTt (M j) (T j) t') (h2:keysR 21 t' = keysR (M j) t) (h3:BalR (M j) true t hh) (h4:Tells (T j) 0 (M j) t 0) (h5:nodesR (M j) t = M j) (h6:TOx l W (M j) t v) :
    ∃ lo' hi',Ioo w ((W.setCell ⟨w.heap.size + 1,j * 2,none⟩ (.func (.func (layF j)) #[] #[])).setCell ⟨w.heap.size + 1,j * 2 + 1,none⟩ v) a c M T (j + 1) ((A.setIfInBounds (j * 2) (.func (.func (layF j)) #[] #[])).setIfInBounds (j * 2 + 1) v) lo' hi' := by
  have hz := h.sz
  obtain ⟨lo',hlo'⟩:∃ lo' : Nat -> Nat,∀ i,lo' i = if i = j then l else lo i := ⟨_,fun _ => rfl⟩
  obtain ⟨hi',hhi'⟩:∃ hi' : Nat -> Nat,∀ i,hi' i = if i = j then W.heap.size else hi i := ⟨_,fun _ => rfl⟩
  have hk:∀ k,w.heap.size + 2 <= k -> ((W.setCell ⟨w.heap.size + 1,j * 2,none⟩ (.func (.func (layF j)) #[] #[])).setCell ⟨w.heap.size + 1,j * 2 + 1,none⟩ v).heap[k]? = W.heap[k]? := fun k hk => (Below.heap_setCell _ _ _ _ (by simp; omega)).trans (Below.heap_setCell _ _ _ _ (by simp; omega))
  refine ⟨lo',hi',(h.ib.other (by simp) _).other (by simp) _,(h.xb.set _ _).set _ _,by simp [hz],(h.bel.setCell (by simp) _).setCell (by simp) _,fun q hq => ?_,fun q hq => ?_,fun i q hiq hq => ?_⟩
  · rw [hlo',hhi']
    by_cases e:q = j
    · subst e
      rw [if_pos rfl,if_pos rfl]
      obtain ⟨bs,b1,b2⟩ := h6
      refine ⟨?_,t,t',hh,v,h1,h2,h3,h4,h5,⟨bs,b1,b2.keep (fun b hb => hk b (by have := (b2.lt b hb).1; omega)),fun b hb => (b2.lt b hb).2,by simp⟩,?_⟩
      · rw [Array.getElem?_setIfInBounds_ne (by omega),Array.getElem?_setIfInBounds_self_of_lt (by omega)]
      · rw [Array.getElem?_setIfInBounds_self_of_lt (by simp; omega)]
    · rw [if_neg e,if_neg e]
      have hb := h.base q (by omega)
      obtain ⟨g0,s,s',sh,u,g1,g2,g3,g4,g5,g6,g7⟩ := h.xt q (by omega)
      refine ⟨?_,s,s',sh,u,g1,g2,g3,g4,g5,g6.keep (by simp) (fun k k1 _ => hk k (by omega)),?_⟩
      · rw [Array.getElem?_setIfInBounds_ne (by omega),Array.getElem?_setIfInBounds_ne (by omega)]
        exact g0
      · rw [Array.getElem?_setIfInBounds_ne (by omega),Array.getElem?_setIfInBounds_ne (by omega)]
        exact g7
  · rw [hlo']
    by_cases e:q = j
    · rw [if_pos e]; exact hl
    · rw [if_neg e]; exact h.base q (by omega)
  · rw [hlo',hhi',if_neg (show ¬ i = j by omega)]
    by_cases e:q = j
    · rw [if_pos e]; exact hlo i (by omega)
    · rw [if_neg e]; exact h.ord i q hiq (by omega)
def RetIxO (w:World) (a:Option Addr) (n c:Nat) (M:Nat -> Nat) (T:Nat -> Nat -> Tn) (e:Ending) (w' : World):Prop :=
  (e = .returned (.tuple #[.pointer none,.bool false]) /\ ¬ VI n M T /\ Below w.heap.size w w') \/ (e = .returned (.tuple #[.pointer (some ⟨w.heap.size + 1,0,none⟩),.bool true]) /\ VI n M T /\ ∃ A lo hi,Ioo w w' a c M T 6 A lo hi)

set_option maxHeartbeats 16000000 in
theorem readIndexO_any (a:Option Addr) (n c:Nat) (M:Nat -> Nat) (T:Nat -> Nat -> Tn) (w:World) (h:RdIx w a n M T) (hn:n <= 1048576) (hN:IxFit n M T) :
    Calls Tryz.prog 36 #[.agg #[.slice a n c]] w (RetIxO w a n c M T) := by
  by_cases h6:n = 6
  case neg =>
    have h6i:¬ (n:Int) = 6 := by omega
    have h6d:((n:Int) != 6) = true := by simp; omega
    have HF:Hid (¬ VI n M T) := fun q => h6 q.1
    clear h hN
    go_enter Tryz.func36,Tryz.ntmps36
    go_wp2
    refine bodyPost_ret (v := .tuple #[.pointer none,.bool false]) (by simp [results,Tryz.results36,go_sem]) rfl ?_
    exact .inl ⟨rfl,HF.out,below_alloc _ _⟩
  case pos =>
  subst h6
  have HR:Hid (RdIx w a 6 M T /\ IxFit 6 M T) := ⟨h,hN⟩
  have HOr:Hid (∀ W:World,Calls Tryz.prog 62 #[] W fun e w' => e = .returned (.agg layA) /\ Below W.heap.size W w') := orders_any
  clear h hN hn
  go_enter Tryz.func36,Tryz.ntmps36
  go_wp2_with fail
  (with_reducible refine (HOr.out _).mono ?_)
  rintro e w0 ⟨rfl,hb0⟩
  have I0:Hid (∃ A,Ioo w w0 a c M T 0 A (fun _ => 0) (fun _ => 0)) := by
    have b1 := Bx.new w #[.slice a 6 c] 32
    have b2 := Bx.new (w.alloc (.cells #[.slice a 6 c] 32)) #[.nilFunc,.nilIface,.nilFunc,.nilIface,.nilFunc,.nilIface,.nilFunc,.nilIface,.nilFunc,.nilIface,.nilFunc,.nilIface] 109
    simp only [World.size_alloc] at b2
    exact ⟨_,(hb0.block _ (by simp; omega)).trans (b1.alloc _),(hb0.block _ (by simp)).trans b2,rfl,((below_alloc _ _).alloc (by simp) _).trans (hb0.mono (by simp; omega)),fun q hq => absurd hq (Nat.not_lt_zero _),fun q hq => absurd hq (Nat.not_lt_zero _),fun i q _ hq => absurd hq (Nat.not_lt_zero _)⟩
  clear hb0 HOr
  go_wp2_with fail
  go_loopw [5,6,7,8,9,10,18] (fun f _ _ _ _ _ i wr => ∃ (j:Nat) (A:Array Value) (lo hi:Nat -> Nat),j <= 6 /\ i = .int .i64 j /\ Ioo w wr a c M T j A lo hi /\ Fst wr M T j f /\ VIj M T j) (fun _ _ _ _ _ _ i _ => 6 - (intOf i).toNat)
  case atStart =>
    obtain ⟨A,h⟩ := I0.out
    exact ⟨0,A,_,_,by omega,rfl,h,fun h => absurd h (by omega),fun q hq => absurd hq (Nat.not_lt_zero _),fun i _ h2 => absurd h2 (by omega)⟩
  case round =>
    obtain ⟨j,A,lo,hi,hj,rfl,hIS,hF,hV⟩ := hrel
    have HS:Hid (Ioo w wr a c M T j A lo hi /\ VIj M T j) := ⟨hIS,hV⟩
    have HFs:Hid (Fst wr M T j u5) := hF
    have j0:(0:Int) <= (j:Int) := by omega
    clear hF hV I0
    by_cases hlt:j < 6
    · have j1:(j:Int) < 6 := by omega
      have b0 := hIS.ib.cell 0
      simp at b0
      have bl := hIS.ib.lt
      have hix := lay_idx j hlt
      rcases HR.out.1.below hIS.bel with q | ⟨bb,oo,ea,hc⟩
      · omega
      obtain ⟨aj,cj,s0,hrd⟩ := hc j hlt
      have hfit := HR.out.2 j hlt
      obtain ⟨m,hm⟩:∃ m,m = M j := ⟨_,rfl⟩
      have HM:Hid (m = M j) := hm
      have HRt:Hid (Calls Tryz.prog 68 #[.agg #[.slice aj m cj]] wr (RetTreO wr (M j) (T j))) := by
        rw [hm]
        exact readTreeO_any aj (M j) cj (T j) wr hrd hfit.1 hfit.2
      rw [<- hm] at s0
      subst ea
      clear hc hrd hfit hm hIS
      go_wp2_with fail
      (with_reducible refine HRt.out.mono ?_)
      rintro e w1 ⟨hb1,v,ok,rfl,hr⟩
      have H1:Hid (Ioo w w1 (some ⟨bb,oo,none⟩) c M T j A lo hi /\ Fst w1 M T j u5 /\ VIj M T j /\ wr.heap.size <= w1.heap.size /\ w.heap.size + 2 <= wr.heap.size /\ ∀ q,q < j -> hi q <= wr.heap.size) := ⟨HS.out.1.keep hb1,HFs.out.keep hb1,HS.out.2,hb1.size,HS.out.1.xb.lt,fun q hq => (HS.out.1.xt q hq).top⟩
      clear hb1 HRt b0 bl s0 hix HFs
      cases ok with
      | false =>
        have HF:Hid (¬ VI 6 M T) := fun q => by
          obtain ⟨t,ht,_⟩ := q.2.1 j hlt
          rcases hr with ⟨q,_⟩ | ⟨_,hno⟩
          · cases q
          · exact hno ⟨t,ht⟩
        clear hr
        go_wp2
        refine bodyPost_ret (v := .tuple #[.pointer none,.bool false]) (by simp [results,Tryz.results36,go_sem]) rfl ?_
        exact .inl ⟨rfl,HF.out,H1.out.1.bel⟩
      | true =>
        obtain ⟨t,t',hh,q1,q2,q3,q4,q5,q6⟩:∃ (t:Ro (M j)) (t' : Ro 21) (h:Nat),VTt (M j) (T j) t' /\ keysR 21 t' = keysR (M j) t /\ BalR (M j) true t h /\ Tells (T j) 0 (M j) t 0 /\ nodesR (M j) t = M j /\ TOx wr.heap.size w1 (M j) t v := by
          rcases hr with ⟨_,q⟩ | ⟨q,_⟩
          · exact q
          · cases q
        have HT:Hid (VTt (M j) (T j) t' /\ keysR 21 t' = keysR (M j) t /\ BalR (M j) true t hh /\ Tells (T j) 0 (M j) t 0 /\ nodesR (M j) t = M j /\ TOx wr.heap.size w1 (M j) t v) := ⟨q1,q2,q3,q4,q5,q6⟩
        obtain ⟨nb,_,hnb,c0,hv⟩ := q6.tat.count
        obtain ⟨kl,hkl⟩:∃ kl,kl = (keysR (M j) t).length := ⟨_,rfl⟩
        have HKL:Hid (kl = (keysR (M j) t).length) := hkl
        rw [<- hkl] at c0
        have HBe:Hid (Calls Tryz.prog 157 #[.pointer (some ⟨nb,0,none⟩)] w1 fun e w' => e = .returned (.int .i64 (kl:Int)) /\ w' = w1) := below_any nb kl w1 c0
        clear hr q1 q2 q3 q4 q5 q6 hkl hnb c0
        rcases hv with rfl | rfl
        · go_wp2_with fail
          (with_reducible refine HBe.out.mono ?_)
          rintro e w2 ⟨rfl,hw2⟩
          subst hw2
          by_cases h300:300 < kl
          · have i300:(300:Int) < (kl:Int) := by omega
            have i300d:decide ((300:Int) < (kl:Int)) = true := decide_eq_true i300
            have HF:Hid (¬ VI 6 M T) := fun q => by
              obtain ⟨t2,ht2,hl2,_⟩ := q.2.1 j hlt
              have e := vtt1 ht2 HT.out.1
              subst e
              rw [HT.out.2.1,<- HKL.out] at hl2
              omega
            go_wp2
            refine bodyPost_ret (v := .tuple #[.pointer none,.bool false]) (by simp [results,Tryz.results36,go_sem]) rfl ?_
            exact .inl ⟨rfl,HF.out,H1.out.1.bel⟩
          · have i300:¬ (300:Int) < (kl:Int) := by omega
            have i300d:decide ((300:Int) < (kl:Int)) = false := decide_eq_false i300
            have hx12 := H1.out.1.sz
            obtain ⟨y0,x0⟩:∃ y,w2.cell? ⟨w.heap.size + 1,j * 2,none⟩ = some y := ⟨A[j * 2],by rw [H1.out.1.xb.cell,Array.getElem?_eq_getElem (by omega)]⟩
            obtain ⟨y1,x1⟩:∃ y,w2.cell? ⟨w.heap.size + 1,j * 2 + 1,none⟩ = some y := ⟨A[j * 2 + 1],by rw [H1.out.1.xb.cell,Array.getElem?_eq_getElem (by omega)]⟩
            have f0 := H1.out.1.xb.frozen (j * 2)
            have f1 := H1.out.1.xb.frozen (j * 2 + 1)
            have xl := H1.out.1.xb.lt
            obtain ⟨W2,hW2⟩:∃ W2,W2 = (w2.setCell ⟨w.heap.size + 1,j * 2,none⟩ (.func (.func (layF j)) #[] #[])).setCell ⟨w.heap.size + 1,j * 2 + 1,none⟩ (.iface 204 (.pointer (some ⟨nb,0,none⟩))) := ⟨_,rfl⟩
            have H2:Hid (∃ A' lo' hi',Ioo w W2 (some ⟨bb,oo,none⟩) c M T (j + 1) A' lo' hi' /\ Fst W2 M T j u5 /\ Calls Tryz.prog 69 #[.pointer (some ⟨w.heap.size + 1,j * 2,none⟩)] W2 (RetQs W2 j (keysR (M j) t))) := by
              have q6:TAt (fun b => w.heap.size + 2 <= b) w2 (M j) t (.iface 204 (.pointer (some ⟨nb,0,none⟩))) := HT.out.2.2.2.2.2.tat.mono (Nat.le_refl _) (fun b hB _ => ⟨Nat.le_trans H1.out.2.2.2.2.1 hB,rfl⟩)
              obtain ⟨lo',hi',hput⟩ := H1.out.1.put hlt H1.out.2.2.2.2.1 H1.out.2.2.2.2.2 HT.out.1 HT.out.2.1 HT.out.2.2.1 HT.out.2.2.2.1 HT.out.2.2.2.2.1 HT.out.2.2.2.2.2
              rw [<- hW2] at hput
              refine ⟨_,lo',hi',hput,by rw [hW2]; exact H1.out.2.1.put H1.out.1.xb,?_⟩
              refine quads_any j hlt (w.heap.size + 1) (j * 2) W2 (M j) t (.iface 204 (.pointer (some ⟨nb,0,none⟩))) hh ?_ ?_ ?_ HT.out.2.2.1 ?_ (by rw [<- HKL.out]; omega)
              · rw [hput.xb.cell,Array.getElem?_setIfInBounds_ne (by omega),Array.getElem?_setIfInBounds_self_of_lt (by omega)]
              · rw [hput.xb.cell,Array.getElem?_setIfInBounds_self_of_lt (by simp; omega)]
              · refine q6.mono (by rw [hW2]; simp) (fun b hB hlt => ⟨by rw [hW2]; simpa using hlt,?_⟩)
                rw [hW2]
                exact (Below.heap_setCell _ _ _ _ (by simp; omega)).trans (Below.heap_setCell _ _ _ _ (by simp; omega))
              · rw [<- HT.out.2.1]
                exact asc_of_ascK HT.out.1.2.2.2.2.1
            go_wp2_with fail
            rw [<- hW2]
            clear hW2 x0 x1 f0 f1 xl hx12
            obtain ⟨A',lo',hi',g1,g2,g3⟩ := H2.out
            have HA:Hid (Ioo w W2 (some ⟨bb,oo,none⟩) c M T (j + 1) A' lo' hi' /\ Fst W2 M T j u5) := ⟨g1,g2⟩
            have HQs:Hid (Calls Tryz.prog 69 #[.pointer (some ⟨w.heap.size + 1,j * 2,none⟩)] W2 (RetQs W2 j (keysR (M j) t))) := g3
            clear g1 g2 g3 H2
            (with_reducible refine HQs.out.mono ?_)
            rintro e w3 ⟨ok3,a3,c3,L,rfl,hb3,hrq,hr3⟩
            obtain ⟨l,hl⟩:∃ l,l = L.length := ⟨_,rfl⟩
            have H3:Hid (Ioo w w3 (some ⟨bb,oo,none⟩) c M T (j + 1) A' lo' hi' /\ Fst w3 M T j u5 /\ RdQ w3 a3 L /\ l = L.length) := ⟨HA.out.1.keep hb3,HA.out.2.keep hb3,hrq,hl⟩
            have hl3:l <= 300 := by
              rcases hr3 with ⟨_,q,_⟩ | ⟨_,q,_⟩
              · rw [hl,q,List.length_map,<- HKL.out]; omega
              · rw [hl,q]; simp
            rw [<- hl]
            clear hb3 hrq hl HA HQs
            cases ok3 with
            | false =>
              have HF:Hid (¬ VI 6 M T /\ L.Nodup) := by
                rcases hr3 with ⟨q,_⟩ | ⟨_,q,hno⟩
                · cases q
                · refine ⟨fun q => ?_,by rw [q]; exact List.nodup_nil⟩
                  obtain ⟨t2,ht2,_,hg2⟩ := q.2.1 j hlt
                  have e := vtt1 ht2 HT.out.1
                  subst e
                  rw [HT.out.2.1] at hg2
                  exact hno hg2
              clear hr3
              by_cases hj0:j = 0
              · have hj0i:(j:Int) = 0 := by omega
                have hj0b:((j:Int) == 0) = true := by simp; omega
                have HSet:Hid (Calls Tryz.prog 70 #[.slice a3 l c3] w3 fun e w' => ∃ B,e = .returned (.map (some B)) /\ QMap w' B L /\ Below w3.heap.size w3 w' /\ w3.heap.size <= B) := setOf_any a3 l c3 L w3 H3.out.2.2.1 H3.out.2.2.2 (by omega) HF.out.2
                go_wp2_with fail
                (with_reducible refine HSet.out.mono ?_)
                rintro e w4 ⟨Bm,rfl,hqm,hb4,_⟩
                have H4:Hid (Below w.heap.size w w4) := H3.out.1.bel.trans (hb4.mono H3.out.1.bel.size)
                clear hb4 hqm
                go_wp2
                refine bodyPost_ret (v := .tuple #[.pointer none,.bool false]) (by simp [results,Tryz.results36,go_sem]) rfl ?_
                exact .inl ⟨rfl,HF.out.1,H4.out⟩
              · have hj0i:¬ (j:Int) = 0 := by omega
                have hj0b:((j:Int) == 0) = false := by simp; omega
                go_wp2
                refine bodyPost_ret (v := .tuple #[.pointer none,.bool false]) (by simp [results,Tryz.results36,go_sem]) rfl ?_
                exact .inl ⟨rfl,HF.out.1,H3.out.1.bel⟩
            | true =>
              have HG:Hid (L = (keysR (M j) t).map (quadOf j) /\ GoodK j (keysR (M j) t) /\ L.Nodup /\ OkT j (M j) (T j)) := by
                rcases hr3 with ⟨_,q,hgd⟩ | ⟨q,_⟩
                · refine ⟨q,hgd,?_,t',HT.out.1,by rw [HT.out.2.1,<- HKL.out]; omega,by rw [HT.out.2.1]; exact hgd⟩
                  rw [q]
                  refine quads_nodup hlt ?_ (fun k hk => (hgd k hk).1)
                  rw [<- HT.out.2.1]
                  exact asc_of_ascK HT.out.1.2.2.2.2.1
                · cases q
              clear hr3
              by_cases hj0:j = 0
              · have hj0i:(j:Int) = 0 := by omega
                have hj0b:((j:Int) == 0) = true := by simp; omega
                have HSet:Hid (Calls Tryz.prog 70 #[.slice a3 l c3] w3 fun e w' => ∃ B,e = .returned (.map (some B)) /\ QMap w' B L /\ Below w3.heap.size w3 w' /\ w3.heap.size <= B) := setOf_any a3 l c3 L w3 H3.out.2.2.1 H3.out.2.2.2 (by omega) HG.out.2.2.1
                go_wp2_with fail
                (with_reducible refine HSet.out.mono ?_)
                rintro e w4 ⟨Bm,rfl,hqm,hb4,_⟩
                have H4:Hid (Ioo w w4 (some ⟨bb,oo,none⟩) c M T (j + 1) A' lo' hi' /\ QMap w4 Bm L) := ⟨H3.out.1.keep hb4,hqm⟩
                have HIs:Hid (Calls Tryz.prog 71 #[.map (some Bm),.slice a3 l c3] w4 (RetIs w4 L L)) := isOf_any Bm a3 l c3 L L w4 hqm (H3.out.2.2.1.below hb4) H3.out.2.2.2 (by omega)
                clear hb4 hqm HSet
                go_wp2_with fail
                (with_reducible refine HIs.out.mono ?_)
                rintro e w5 ⟨bq,rfl,hbq,hb5⟩
                have ebq:bq = true := hbq.2 ⟨rfl,fun q hq => hq⟩
                subst ebq
                have H5:Hid (Ioo w w5 (some ⟨bb,oo,none⟩) c M T (j + 1) A' lo' hi' /\ Fst w5 M T (j + 1) (.map (some Bm)) /\ VIj M T (j + 1)) := by
                  refine ⟨H4.out.1.keep hb5,fun _ => ⟨Bm,?_⟩,fun q hq => ?_,fun i h1 h2 => ?_⟩
                  · have q1 := HT.out.1
                    have q2 := HT.out.2.1
                    have q3 := HG.out.1
                    have q4 := H4.out.2.below hb5
                    rw [<- q2] at q3
                    rw [q3] at q4
                    clear HT HKL HBe HG H4 HIs H3 H1 HS HM hbq
                    subst hj0
                    exact ⟨t',rfl,q1,q4⟩
                  · have e:q = j := by omega
                    rw [e]
                    exact HG.out.2.2.2
                  · omega
                clear hb5 hbq
                go_wp2
                go_roundw
                case rel => exact ⟨j + 1,A',lo',hi',by omega,by go_num,H5.out⟩
                case measure => simp [intOf]; omega
              · have hj0i:¬ (j:Int) = 0 := by omega
                have hj0b:((j:Int) == 0) = false := by simp; omega
                obtain ⟨Bm,t0,ef,hv0,hqm⟩ := H3.out.2.1 (by omega)
                subst ef
                have HIs:Hid (Calls Tryz.prog 71 #[.map (some Bm),.slice a3 l c3] w3 (RetIs w3 L ((keysR 21 t0).map (quadOf 0)))) := isOf_any Bm a3 l c3 L _ w3 hqm H3.out.2.2.1 H3.out.2.2.2 (by omega)
                have HV0:Hid (VTt (M 0) (T 0) t0) := hv0
                clear hqm hv0
                go_wp2_with fail
                (with_reducible refine HIs.out.mono ?_)
                rintro e w5 ⟨bq,rfl,hbq,hb5⟩
                have HB:Hid (bq = true ↔ SameQ j (M j) (T j) (M 0) (T 0)) := by
                  rw [HG.out.1,same_of HT.out.1 HV0.out HT.out.2.1] at hbq
                  exact hbq
                have H5:Hid (Ioo w w5 (some ⟨bb,oo,none⟩) c M T (j + 1) A' lo' hi' /\ Fst w5 M T j (.map (some Bm))) := ⟨H3.out.1.keep hb5,H3.out.2.1.keep hb5⟩
                clear hb5 hbq HIs
                cases bq with
                | false =>
                  have HF:Hid (¬ VI 6 M T) := fun q => by
                    have := HB.out.2 (q.2.2 j (by omega) hlt)
                    cases this
                  go_wp2
                  refine bodyPost_ret (v := .tuple #[.pointer none,.bool false]) (by simp [results,Tryz.results36,go_sem]) rfl ?_
                  exact .inl ⟨rfl,HF.out,H5.out.1.bel⟩
                | true =>
                  have H6:Hid (Fst w5 M T (j + 1) (.map (some Bm)) /\ VIj M T (j + 1)) := by
                    refine ⟨fun _ => H5.out.2 (by omega),fun q hq => ?_,fun i h1 h2 => ?_⟩
                    · by_cases e:q = j
                      · rw [e]
                        exact HG.out.2.2.2
                      · exact H1.out.2.2.1.1 q (by omega)
                    · by_cases e:i = j
                      · rw [e]
                        exact HB.out.1 rfl
                      · exact H1.out.2.2.1.2 i h1 (by omega)
                  go_wp2
                  go_roundw
                  case rel => exact ⟨j + 1,A',lo',hi',by omega,by go_num,H5.out.1,H6.out⟩
                  case measure => simp [intOf]; omega
        · go_wp2_with fail
          (with_reducible refine HBe.out.mono ?_)
          rintro e w2 ⟨rfl,hw2⟩
          subst hw2
          by_cases h300:300 < kl
          · have i300:(300:Int) < (kl:Int) := by omega
            have i300d:decide ((300:Int) < (kl:Int)) = true := decide_eq_true i300
            have HF:Hid (¬ VI 6 M T) := fun q => by
              obtain ⟨t2,ht2,hl2,_⟩ := q.2.1 j hlt
              have e := vtt1 ht2 HT.out.1
              subst e
              rw [HT.out.2.1,<- HKL.out] at hl2
              omega
            go_wp2
            refine bodyPost_ret (v := .tuple #[.pointer none,.bool false]) (by simp [results,Tryz.results36,go_sem]) rfl ?_
            exact .inl ⟨rfl,HF.out,H1.out.1.bel⟩
          · have i300:¬ (300:Int) < (kl:Int) := by omega
            have i300d:decide ((300:Int) < (kl:Int)) = false := decide_eq_false i300
            have hx12 := H1.out.1.sz
            obtain ⟨y0,x0⟩:∃ y,w2.cell? ⟨w.heap.size + 1,j * 2,none⟩ = some y := ⟨A[j * 2],by rw [H1.out.1.xb.cell,Array.getElem?_eq_getElem (by omega)]⟩
            obtain ⟨y1,x1⟩:∃ y,w2.cell? ⟨w.heap.size + 1,j * 2 + 1,none⟩ = some y := ⟨A[j * 2 + 1],by rw [H1.out.1.xb.cell,Array.getElem?_eq_getElem (by omega)]⟩
            have f0 := H1.out.1.xb.frozen (j * 2)
            have f1 := H1.out.1.xb.frozen (j * 2 + 1)
            have xl := H1.out.1.xb.lt
            obtain ⟨W2,hW2⟩:∃ W2,W2 = (w2.setCell ⟨w.heap.size + 1,j * 2,none⟩ (.func (.func (layF j)) #[] #[])).setCell ⟨w.heap.size + 1,j * 2 + 1,none⟩ (.iface 174 (.pointer (some ⟨nb,0,none⟩))) := ⟨_,rfl⟩
            have H2:Hid (∃ A' lo' hi',Ioo w W2 (some ⟨bb,oo,none⟩) c M T (j + 1) A' lo' hi' /\ Fst W2 M T j u5 /\ Calls Tryz.prog 69 #[.pointer (some ⟨w.heap.size + 1,j * 2,none⟩)] W2 (RetQs W2 j (keysR (M j) t))) := by
              have q6:TAt (fun b => w.heap.size + 2 <= b) w2 (M j) t (.iface 174 (.pointer (some ⟨nb,0,none⟩))) := HT.out.2.2.2.2.2.tat.mono (Nat.le_refl _) (fun b hB _ => ⟨Nat.le_trans H1.out.2.2.2.2.1 hB,rfl⟩)
              obtain ⟨lo',hi',hput⟩ := H1.out.1.put hlt H1.out.2.2.2.2.1 H1.out.2.2.2.2.2 HT.out.1 HT.out.2.1 HT.out.2.2.1 HT.out.2.2.2.1 HT.out.2.2.2.2.1 HT.out.2.2.2.2.2
              rw [<- hW2] at hput
              refine ⟨_,lo',hi',hput,by rw [hW2]; exact H1.out.2.1.put H1.out.1.xb,?_⟩
              refine quads_any j hlt (w.heap.size + 1) (j * 2) W2 (M j) t (.iface 174 (.pointer (some ⟨nb,0,none⟩))) hh ?_ ?_ ?_ HT.out.2.2.1 ?_ (by rw [<- HKL.out]; omega)
              · rw [hput.xb.cell,Array.getElem?_setIfInBounds_ne (by omega),Array.getElem?_setIfInBounds_self_of_lt (by omega)]
              · rw [hput.xb.cell,Array.getElem?_setIfInBounds_self_of_lt (by simp; omega)]
              · refine q6.mono (by rw [hW2]; simp) (fun b hB hlt => ⟨by rw [hW2]; simpa using hlt,?_⟩)
                rw [hW2]
                exact (Below.heap_setCell _ _ _ _ (by simp; omega)).trans (Below.heap_setCell _ _ _ _ (by simp; omega))
              · rw [<- HT.out.2.1]
                exact asc_of_ascK HT.out.1.2.2.2.2.1
            go_wp2_with fail
            rw [<- hW2]
            clear hW2 x0 x1 f0 f1 xl hx12
            obtain ⟨A',lo',hi',g1,g2,g3⟩ := H2.out
            have HA:Hid (Ioo w W2 (some ⟨bb,oo,none⟩) c M T (j + 1) A' lo' hi' /\ Fst W2 M T j u5) := ⟨g1,g2⟩
            have HQs:Hid (Calls Tryz.prog 69 #[.pointer (some ⟨w.heap.size + 1,j * 2,none⟩)] W2 (RetQs W2 j (keysR (M j) t))) := g3
            clear g1 g2 g3 H2
            (with_reducible refine HQs.out.mono ?_)
            rintro e w3 ⟨ok3,a3,c3,L,rfl,hb3,hrq,hr3⟩
            obtain ⟨l,hl⟩:∃ l,l = L.length := ⟨_,rfl⟩
            have H3:Hid (Ioo w w3 (some ⟨bb,oo,none⟩) c M T (j + 1) A' lo' hi' /\ Fst w3 M T j u5 /\ RdQ w3 a3 L /\ l = L.length) := ⟨HA.out.1.keep hb3,HA.out.2.keep hb3,hrq,hl⟩
            have hl3:l <= 300 := by
              rcases hr3 with ⟨_,q,_⟩ | ⟨_,q,_⟩
              · rw [hl,q,List.length_map,<- HKL.out]; omega
              · rw [hl,q]; simp
            rw [<- hl]
            clear hb3 hrq hl HA HQs
            cases ok3 with
            | false =>
              have HF:Hid (¬ VI 6 M T /\ L.Nodup) := by
                rcases hr3 with ⟨q,_⟩ | ⟨_,q,hno⟩
                · cases q
                · refine ⟨fun q => ?_,by rw [q]; exact List.nodup_nil⟩
                  obtain ⟨t2,ht2,_,hg2⟩ := q.2.1 j hlt
                  have e := vtt1 ht2 HT.out.1
                  subst e
                  rw [HT.out.2.1] at hg2
                  exact hno hg2
              clear hr3
              by_cases hj0:j = 0
              · have hj0i:(j:Int) = 0 := by omega
                have hj0b:((j:Int) == 0) = true := by simp; omega
                have HSet:Hid (Calls Tryz.prog 70 #[.slice a3 l c3] w3 fun e w' => ∃ B,e = .returned (.map (some B)) /\ QMap w' B L /\ Below w3.heap.size w3 w' /\ w3.heap.size <= B) := setOf_any a3 l c3 L w3 H3.out.2.2.1 H3.out.2.2.2 (by omega) HF.out.2
                go_wp2_with fail
                (with_reducible refine HSet.out.mono ?_)
                rintro e w4 ⟨Bm,rfl,hqm,hb4,_⟩
                have H4:Hid (Below w.heap.size w w4) := H3.out.1.bel.trans (hb4.mono H3.out.1.bel.size)
                clear hb4 hqm
                go_wp2
                refine bodyPost_ret (v := .tuple #[.pointer none,.bool false]) (by simp [results,Tryz.results36,go_sem]) rfl ?_
                exact .inl ⟨rfl,HF.out.1,H4.out⟩
              · have hj0i:¬ (j:Int) = 0 := by omega
                have hj0b:((j:Int) == 0) = false := by simp; omega
                go_wp2
                refine bodyPost_ret (v := .tuple #[.pointer none,.bool false]) (by simp [results,Tryz.results36,go_sem]) rfl ?_
                exact .inl ⟨rfl,HF.out.1,H3.out.1.bel⟩
            | true =>
              have HG:Hid (L = (keysR (M j) t).map (quadOf j) /\ GoodK j (keysR (M j) t) /\ L.Nodup /\ OkT j (M j) (T j)) := by
                rcases hr3 with ⟨_,q,hgd⟩ | ⟨q,_⟩
                · refine ⟨q,hgd,?_,t',HT.out.1,by rw [HT.out.2.1,<- HKL.out]; omega,by rw [HT.out.2.1]; exact hgd⟩
                  rw [q]
                  refine quads_nodup hlt ?_ (fun k hk => (hgd k hk).1)
                  rw [<- HT.out.2.1]
                  exact asc_of_ascK HT.out.1.2.2.2.2.1
                · cases q
              clear hr3
              by_cases hj0:j = 0
              · have hj0i:(j:Int) = 0 := by omega
                have hj0b:((j:Int) == 0) = true := by simp; omega
                have HSet:Hid (Calls Tryz.prog 70 #[.slice a3 l c3] w3 fun e w' => ∃ B,e = .returned (.map (some B)) /\ QMap w' B L /\ Below w3.heap.size w3 w' /\ w3.heap.size <= B) := setOf_any a3 l c3 L w3 H3.out.2.2.1 H3.out.2.2.2 (by omega) HG.out.2.2.1
                go_wp2_with fail
                (with_reducible refine HSet.out.mono ?_)
                rintro e w4 ⟨Bm,rfl,hqm,hb4,_⟩
                have H4:Hid (Ioo w w4 (some ⟨bb,oo,none⟩) c M T (j + 1) A' lo' hi' /\ QMap w4 Bm L) := ⟨H3.out.1.keep hb4,hqm⟩
                have HIs:Hid (Calls Tryz.prog 71 #[.map (some Bm),.slice a3 l c3] w4 (RetIs w4 L L)) := isOf_any Bm a3 l c3 L L w4 hqm (H3.out.2.2.1.below hb4) H3.out.2.2.2 (by omega)
                clear hb4 hqm HSet
                go_wp2_with fail
                (with_reducible refine HIs.out.mono ?_)
                rintro e w5 ⟨bq,rfl,hbq,hb5⟩
                have ebq:bq = true := hbq.2 ⟨rfl,fun q hq => hq⟩
                subst ebq
                have H5:Hid (Ioo w w5 (some ⟨bb,oo,none⟩) c M T (j + 1) A' lo' hi' /\ Fst w5 M T (j + 1) (.map (some Bm)) /\ VIj M T (j + 1)) := by
                  refine ⟨H4.out.1.keep hb5,fun _ => ⟨Bm,?_⟩,fun q hq => ?_,fun i h1 h2 => ?_⟩
                  · have q1 := HT.out.1
                    have q2 := HT.out.2.1
                    have q3 := HG.out.1
                    have q4 := H4.out.2.below hb5
                    rw [<- q2] at q3
                    rw [q3] at q4
                    clear HT HKL HBe HG H4 HIs H3 H1 HS HM hbq
                    subst hj0
                    exact ⟨t',rfl,q1,q4⟩
                  · have e:q = j := by omega
                    rw [e]
                    exact HG.out.2.2.2
                  · omega
                clear hb5 hbq
                go_wp2
                go_roundw
                case rel => exact ⟨j + 1,A',lo',hi',by omega,by go_num,H5.out⟩
                case measure => simp [intOf]; omega
              · have hj0i:¬ (j:Int) = 0 := by omega
                have hj0b:((j:Int) == 0) = false := by simp; omega
                obtain ⟨Bm,t0,ef,hv0,hqm⟩ := H3.out.2.1 (by omega)
                subst ef
                have HIs:Hid (Calls Tryz.prog 71 #[.map (some Bm),.slice a3 l c3] w3 (RetIs w3 L ((keysR 21 t0).map (quadOf 0)))) := isOf_any Bm a3 l c3 L _ w3 hqm H3.out.2.2.1 H3.out.2.2.2 (by omega)
                have HV0:Hid (VTt (M 0) (T 0) t0) := hv0
                clear hqm hv0
                go_wp2_with fail
                (with_reducible refine HIs.out.mono ?_)
                rintro e w5 ⟨bq,rfl,hbq,hb5⟩
                have HB:Hid (bq = true ↔ SameQ j (M j) (T j) (M 0) (T 0)) := by
                  rw [HG.out.1,same_of HT.out.1 HV0.out HT.out.2.1] at hbq
                  exact hbq
                have H5:Hid (Ioo w w5 (some ⟨bb,oo,none⟩) c M T (j + 1) A' lo' hi' /\ Fst w5 M T j (.map (some Bm))) := ⟨H3.out.1.keep hb5,H3.out.2.1.keep hb5⟩
                clear hb5 hbq HIs
                cases bq with
                | false =>
                  have HF:Hid (¬ VI 6 M T) := fun q => by
                    have := HB.out.2 (q.2.2 j (by omega) hlt)
                    cases this
                  go_wp2
                  refine bodyPost_ret (v := .tuple #[.pointer none,.bool false]) (by simp [results,Tryz.results36,go_sem]) rfl ?_
                  exact .inl ⟨rfl,HF.out,H5.out.1.bel⟩
                | true =>
                  have H6:Hid (Fst w5 M T (j + 1) (.map (some Bm)) /\ VIj M T (j + 1)) := by
                    refine ⟨fun _ => H5.out.2 (by omega),fun q hq => ?_,fun i h1 h2 => ?_⟩
                    · by_cases e:q = j
                      · rw [e]
                        exact HG.out.2.2.2
                      · exact H1.out.2.2.1.1 q (by omega)
                    · by_cases e:i = j
                      · rw [e]
                        exact HB.out.1 rfl
                      · exact H1.out.2.2.1.2 i h1 (by omega)
                  go_wp2
                  go_roundw
                  case rel => exact ⟨j + 1,A',lo',hi',by omega,by go_num,H5.out.1,H6.out⟩
                  case measure => simp [intOf]; omega
    · obtain rfl:j = 6 := by omega
      have j1:¬ (6:Int) < 6 := by omega
      have HFin:Hid (VI 6 M T /\ ∃ A lo hi,Ioo w wr a c M T 6 A lo hi) := ⟨⟨rfl,HS.out.2.1,HS.out.2.2⟩,A,lo,hi,HS.out.1⟩
      clear hIS
      go_wp2
      refine bodyPost_ret (v := .tuple #[.pointer (some ⟨w.heap.size + 1,0,none⟩),.bool true]) (by simp [results,Tryz.results36,go_sem]) rfl ?_
      exact .inr ⟨rfl,HFin.out⟩

def RetTe (w:World) (Df:Nat -> Nat) (yf:(q:Nat) -> Ro (Df q)) (e:Ending) (w' : World):Prop :=
  Below w.heap.size w w' /\ ∃ a c T' us lo hi,e = .returned (.agg #[.slice a 6 c]) /\ RowI TreeAt w' (w.heap.size + 2) (.slice a 6 c) 6 (fun q => nodesR (Df q) (yf q)) T' us lo hi /\ ∀ q,q < 6 -> Tells (T' q) 0 (Df q) (yf q) 0

set_option maxHeartbeats 4000000 in
theorem tell_any (xb:Nat) (A:Array Value) (Df:Nat -> Nat) (yf:(q:Nat) -> Ro (Df q)) (w:World) (hx:Bx w xb 109 A)
    (hA:∀ q,q < 6 -> ∃ v S hh,A[q * 2]? = some (.func (.func (layF q)) #[] #[]) /\ A[q * 2 + 1]? = some v /\ TAo S w (Df q) (yf q) v /\ (∀ x,S x -> x < w.heap.size) /\ BalR (Df q) true (yf q) hh /\ nodesR (Df q) (yf q) <= 100000) :
    Calls Tryz.prog 48 #[.pointer (some ⟨xb,0,none⟩)] w (RetTe w Df yf) := by
  have HR:Hid (Bx w xb 109 A /\ ∀ q,q < 6 -> ∃ v S hh,A[q * 2]? = some (.func (.func (layF q)) #[] #[]) /\ A[q * 2 + 1]? = some v /\ TAo S w (Df q) (yf q) v /\ (∀ x,S x -> x < w.heap.size) /\ BalR (Df q) true (yf q) hh /\ nodesR (Df q) (yf q) <= 100000) := ⟨hx,hA⟩
  have hxl := hx.lt
  clear hx hA
  obtain ⟨W0,hW0⟩:∃ W0,W0 = (w.alloc (.cells #[.slice none 0 0] 32)).alloc (.cells #[.slice none 0 0] 32) := ⟨_,rfl⟩
  have B0:Hid (Bx W0 w.heap.size 32 #[.slice none 0 0] /\ Bx W0 (w.heap.size + 1) 32 #[.slice none 0 0] /\ Below w.heap.size w W0 /\ W0.heap.size = w.heap.size + 2) := by
    have b1 := Bx.new w #[.slice none 0 0] 32
    have b2 := Bx.new (w.alloc (.cells #[.slice none 0 0] 32)) #[.slice none 0 0] 32
    simp only [World.size_alloc] at b2
    rw [hW0]
    exact ⟨b1.alloc _,b2,(below_alloc _ _).alloc (by simp) _,by simp⟩
  go_enter Tryz.func48,Tryz.ntmps48
  go_upto_region 2 with fail
  rw [<- hW0]
  clear hW0
  go_wp2
  go_loopw [5,8] (fun _ i wr => ∃ (k:Nat) (v:Value) (T' : Nat -> Nat -> Tn) (us:List Value) (lo hi:Nat -> Nat),k <= 6 /\ i = .int .i64 k /\ RowI TreeAt wr (w.heap.size + 2) v k (fun q => nodesR (Df q) (yf q)) T' us lo hi /\ Bx wr (w.heap.size + 1) 32 #[v] /\ Below (w.heap.size + 1) W0 wr /\ ∀ q,q < k -> Tells (T' q) 0 (Df q) (yf q) 0) (fun _ i _ => 6 - (intOf i).toNat)
  case atStart => exact ⟨0,_,fun _ _ => ⟨false,0,fun _ => { data := #[] },0,fun _ => 0,0⟩,[],_,_,Nat.zero_le _,rfl,RowI.nil _ _ _ _ _,B0.out.2.1,Below.refl _ _,fun q hq => absurd hq (Nat.not_lt_zero _)⟩
  case round =>
    obtain ⟨k,v,T',us,lo,hi,hk,rfl,hrow,hbx,hbel,htl⟩ := hrel
    obtain ⟨av,cv,ev⟩ := hrow.form
    subst ev
    have hz := hbel.size
    have hw2 := B0.out.2.2.2
    have HQ:Hid (RowI TreeAt wr (w.heap.size + 2) (.slice av k cv) k (fun q => nodesR (Df q) (yf q)) T' us lo hi /\ Below (w.heap.size + 1) W0 wr /\ w.heap.size + 2 <= wr.heap.size /\ Below w.heap.size w wr /\ Bx wr (w.heap.size + 1) 32 #[.slice av k cv] /\ ∀ q,q < k -> Tells (T' q) 0 (Df q) (yf q) 0) := ⟨hrow,hbel,by omega,B0.out.2.2.1.trans (hbel.mono (by omega)),hbx,htl⟩
    have k0:(0:Int) <= (k:Int) := by omega
    by_cases hlt:k < 6
    · have k1:(k:Int) < 6 := by omega
      obtain ⟨vk,S,hh,ha0,ha1,hta,hS,hbal,hnd⟩ := HR.out.2 k hlt
      have bxw:Bx wr xb 109 A := (HQ.out.2.2.2.1.block xb hxl).trans HR.out.1
      have g0 := bxw.cell (k * 2)
      have g1 := bxw.cell (k * 2 + 1)
      rw [ha0] at g0
      rw [ha1] at g1
      obtain ⟨ty,pv,hvf⟩:∃ ty pv,vk = .iface ty pv := by
        obtain ⟨bb,_,_,_,q⟩ := hta.count
        rcases q with q | q <;> exact ⟨_,_,q⟩
      obtain ⟨W5,hW5⟩:∃ W5,W5 = wr.alloc (.cells #[.func (.func (layF k)) #[] #[],vk] 70) := ⟨_,rfl⟩
      have hb5:Below wr.heap.size wr W5 := by rw [hW5]; exact below_alloc _ _
      have hz5:W5.heap.size = wr.heap.size + 1 := by rw [hW5]; simp
      have bx5:Bx W5 wr.heap.size 70 #[.func (.func (layF k)) #[] #[],vk] := by rw [hW5]; exact Bx.new _ _ _
      have x0:W5.cell? ⟨w.heap.size + 1,0,none⟩ = some (.slice av k cv) := by
        have := (hbx.below hb5).cell 0
        simpa using this
      have x1:W5.cell? ⟨wr.heap.size,1,none⟩ = some vk := by
        have := bx5.cell 1
        simpa using this
      have HC:Hid (Calls Tryz.prog 86 #[vk] W5.drew (RetTt W5.drew (Df k) (yf k))) := by
        have hbw:Below w.heap.size w W5.drew := (HQ.out.2.2.2.1.trans (hb5.mono HQ.out.2.2.2.1.size)).drew
        exact tellTree_any (Df k) (yf k) vk S W5.drew true hh (TAo.keep hbw.size (fun b hb hl => ⟨hb,hbw.block b hl⟩) hta) hbal (fun x hx => Nat.lt_of_lt_of_le (hS x hx) hbw.size) hnd
      have HU:Hid (Below wr.heap.size wr W5 /\ W5.heap.size = wr.heap.size + 1) := ⟨hb5,hz5⟩
      have HK2:Hid (∀ w2:World,Below W5.drew.heap.size W5.drew w2 -> w2.cell? ⟨w.heap.size + 1,0,none⟩ = some (.slice av k cv) /\ w2.cell? ⟨wr.heap.size,1,none⟩ = some vk) := fun w2 h => by
        have hb := below_undrew h
        exact ⟨(hb.cell (World.block_lt_of_cell? _ _ x0)).trans x0,(hb.cell (World.block_lt_of_cell? _ _ x1)).trans x1⟩
      have HK3:Hid (∀ w2:World,Below W5.drew.heap.size W5.drew w2 -> ∀ O:Obj,(w2.alloc O).cell? ⟨w.heap.size + 1,0,none⟩ = some (.slice av k cv) /\ (w2.alloc O).cell? ⟨wr.heap.size,1,none⟩ = some vk) := fun w2 h O => by
        have hb := (below_undrew h).trans ((below_alloc w2 O).mono (below_undrew h).size)
        exact ⟨(hb.cell (World.block_lt_of_cell? _ _ x0)).trans x0,(hb.cell (World.block_lt_of_cell? _ _ x1)).trans x1⟩
      have hown:∀ g,(Value.slice av k cv).ownBlock = some g -> w.heap.size + 2 <= g /\ g < wr.heap.size := fun g e => own_lt HQ.out.1.row g e
      have HK4:Hid (∀ (w2 w4:World),Below W5.drew.heap.size W5.drew w2 -> ∀ O:Obj,(w2.alloc O).grownBy w4 (Value.slice av k cv).ownBlock -> w4.cell? ⟨w.heap.size + 1,0,none⟩ = some (.slice av k cv) /\ w4.cell? ⟨wr.heap.size,1,none⟩ = some vk /\ w4.frozen? ⟨w.heap.size + 1,0,none⟩ = false /\ w.heap.size + 1 < w4.heap.size) := fun w2 w4 h O hg => by
        have hb := below_undrew h
        have hbz := hb.size
        have bxx:Bx w4 (w.heap.size + 1) 32 #[.slice av k cv] := (keep_block hb hg (fun g e => (hown g e).1) (by omega) (by have := HQ.out.2.2.1; omega)).trans (hbx.below hb5)
        have bx7:Bx w4 wr.heap.size 70 #[.func (.func (layF k)) #[] #[],vk] := ((hg.block wr.heap.size (by rw [World.size_alloc]; omega) (fun e => by have := (hown _ e.symm).2; omega)).trans (((below_alloc w2 O).block wr.heap.size (by omega)).trans (hb.block wr.heap.size (by omega)))).trans bx5
        exact ⟨by have := bxx.cell 0; simpa using this,by have := bx7.cell 1; simpa using this,bxx.frozen 0,bxx.lt⟩
      have HT:Hid (∀ w2:World,Below W5.drew.heap.size W5.drew w2 -> ∀ O:Obj,(w2.alloc O).ownsRow (w.heap.size + 2) 59 1 (.slice av k cv) k us) := fun w2 h O => own_below (own_below (own_below HQ.out.1.row hb5) (below_undrew h)) (below_alloc _ _)
      have HZ:Hid (∀ w2:World,Below W5.drew.heap.size W5.drew w2 -> w.heap.size + 2 <= w2.heap.size) := fun w2 h => by
        have := (below_undrew h).size
        have := HQ.out.2.2.1
        omega
      have xd0:W5.drew.cell? ⟨w.heap.size + 1,0,none⟩ = some (.slice av k cv) := x0
      have xd1:W5.drew.cell? ⟨wr.heap.size,1,none⟩ = some vk := x1
      subst hvf
      clear hrow hbel hbx htl hta hS hbal hnd bxw ha0 ha1 hown bx5
      go_upto_region 5 with fail
      rw [<- hW5]
      clear hW5 hb5 hz5
      refine wp_region_late (S := (fun w' => w'.cell? ⟨w.heap.size + 1,0,none⟩ = some (.slice av k cv) /\ w'.cell? ⟨wr.heap.size,1,none⟩ = some (.iface ty pv))) 8 (by kernel_rfl) ?_ (fun hHeld => ?_)
      · ((try dsimp only); go_keep)
      refine late_take 0 .zero (v := ?_) (by kernel_rfl) (by kernel_rfl) (by kernel_rfl) (by kernel_rfl) (fun _ _ _ h => h) (by rfl) ?_ (by assumption) ?_
      rotate_left
      · (intro w hSw; (try dsimp only at hSw); go_simp) <;> with_reducible rfl
      simp only [Act.put,List.setIfInBounds_toArray,List.set_cons_zero,List.set_cons_succ]
      refine late_take 1 (.succ .zero) (v := ?_) (by kernel_rfl) (by kernel_rfl) (by kernel_rfl) (by kernel_rfl) (fun _ _ _ h => h) (by rfl) ?_ (by assumption) ?_
      rotate_left
      · (intro w hSw; (try dsimp only at hSw); go_simp) <;> with_reducible rfl
      simp only [Act.put,List.setIfInBounds_toArray,List.set_cons_zero,List.set_cons_succ]
      refine late_take 2 (.succ (.succ .zero)) (v := ?_) (by kernel_rfl) (by kernel_rfl) (by kernel_rfl) (by kernel_rfl) (fun _ _ _ h => h) (by rfl) ?_ (by assumption) ?_
      rotate_left
      · (intro w hSw; (try dsimp only at hSw); go_simp) <;> with_reducible rfl
      simp only [Act.put,List.setIfInBounds_toArray,List.set_cons_zero,List.set_cons_succ]
      refine late_take 3 (.succ (.succ (.succ .zero))) (v := ?_) (by kernel_rfl) (by kernel_rfl) (by kernel_rfl) (by kernel_rfl) (fun _ _ _ h => h) (by rfl) ?_ (by assumption) ?_
      rotate_left
      · (intro w hSw; (try dsimp only at hSw); go_simp) <;> with_reducible rfl
      simp only [Act.put,List.setIfInBounds_toArray,List.set_cons_zero,List.set_cons_succ]
      refine late_one 4 (.succ (.succ (.succ (.succ .zero)))) (by kernel_rfl) (fun K hK => ?_)
      (refine step_f1 (by rfl) 86 16 _ (by rfl) _ (by rfl) (fun _ _ => rfl) ?_; refine HC.out.mono ?_; rintro e w2 ⟨hb2,a2,c2,N2,KA2,DA2,KC2,DC2,rfl,hr2,htl2⟩; refine ⟨_,rfl,?_⟩; obtain ⟨y0,y1⟩ := HK2.out w2 hb2)
      refine hK.out _ _ ?_ (fun hHeld2 => ?_)
      · (intro _; (try dsimp only); go_keep)
      clear hK K
      replace hHeld := hHeld2 (by decide)
      clear hHeld2
      try simp only [Act.put,List.setIfInBounds_toArray,List.set_cons_zero,List.set_cons_succ]
      refine late_one 5 (.succ (.succ (.succ (.succ (.succ .zero))))) (by kernel_rfl) (fun K hK => ?_)
      (refine step_tsl (by rfl) (by rfl) (by rfl) ?_; obtain ⟨z0,z1⟩ := HK3.out w2 hb2 (.cells #[.slice a2 (nodesR (Df k) (yf k)) c2] 59))
      refine hK.out _ _ ?_ (fun hHeld2 => ?_)
      · (intro _; (try dsimp only); go_keep)
      clear hK K
      replace hHeld := hHeld2 (by decide)
      clear hHeld2
      try simp only [Act.put,List.setIfInBounds_toArray,List.set_cons_zero,List.set_cons_succ]
      refine late_one 6 (.succ (.succ (.succ (.succ (.succ (.succ .zero)))))) (by kernel_rfl) (fun K hK => ?_)
      (refine step_tapp (by rfl) (.tmp 14) (.tmp 18) (by rfl) (w.heap.size + 2) k (.slice av k cv) us (by rfl) _ (HT.out w2 hb2 _) (by rfl) rfl (by omega) (HZ.out w2 hb2) ?_; intro v4 w4 hown4 hgr4 hat4; obtain ⟨a4,c4,e4,_⟩ := own_form hown4; subst e4; obtain ⟨u0,u1,uf,ul⟩ := HK4.out w2 w4 hb2 _ hgr4)
      refine hK.out _ _ ?_ (fun hHeld2 => ?_)
      · (intro _; (try dsimp only); go_keep)
      clear hK K
      replace hHeld := hHeld2 (by decide)
      clear hHeld2
      try simp only [Act.put,List.setIfInBounds_toArray,List.set_cons_zero,List.set_cons_succ]
      refine late_one 7 (.succ (.succ (.succ (.succ (.succ (.succ (.succ .zero))))))) (by kernel_rfl) (fun K hK => ?_)
      go_simp
      refine hK.out _ _ ?_ (fun hHeld2 => ?_)
      · (intro _; (try dsimp only); go_keep)
      clear hK K
      replace hHeld := hHeld2 (by decide)
      clear hHeld2
      try simp only [Act.put,List.setIfInBounds_toArray,List.set_cons_zero,List.set_cons_succ]
      refine late_one 8 (.succ (.succ (.succ (.succ (.succ (.succ (.succ (.succ .zero)))))))) (by kernel_rfl) (fun K hK => ?_)
      go_simp
      refine hK.out _ _ ?_ (fun hHeld2 => ?_)
      · (intro hne; exact absurd rfl hne)
      clear hK K hHeld2
      refine wpLate_done (by kernel_rfl) ?_ _
      have H7:Hid ((∃ T'' us'' lo'' hi'',RowI TreeAt (w4.setCell ⟨w.heap.size + 1,0,none⟩ (.slice a4 (k + 1) c4)) (w.heap.size + 2) (.slice a4 (k + 1) c4) (k + 1) (fun q => nodesR (Df q) (yf q)) T'' us'' lo'' hi'' /\ ∀ q,q < k + 1 -> Tells (T'' q) 0 (Df q) (yf q) 0) /\ Bx (w4.setCell ⟨w.heap.size + 1,0,none⟩ (.slice a4 (k + 1) c4)) (w.heap.size + 1) 32 #[.slice a4 (k + 1) c4] /\ Below (w.heap.size + 1) W0 (w4.setCell ⟨w.heap.size + 1,0,none⟩ (.slice a4 (k + 1) c4))) := by
        have hb:Below wr.heap.size wr w2 := HU.out.1.trans ((below_undrew hb2).mono HU.out.1.size)
        have hz2 := (below_undrew hb2).size
        have hz3 := HQ.out.2.2.1
        have hz5 := HU.out.2
        have hown:∀ g,(Value.slice av k cv).ownBlock = some g -> w.heap.size + 2 <= g := fun g e => (own_lt HQ.out.1.row g e).1
        obtain ⟨T'',hT''⟩:∃ T'' : Nat -> Nat -> Tn,∀ i,T'' i = if i = k then N2 else T' i := ⟨_,fun _ => rfl⟩
        have hcg := HQ.out.1.congr (M' := fun q => nodesR (Df q) (yf q)) (T' := T'') (fun i hi => ⟨rfl,by rw [hT'',if_neg (by omega)]⟩)
        obtain ⟨lo',hi',hr'⟩ := hcg.step TreeAt.pl hz3 hb (l := W5.drew.heap.size + 1) (by show _ <= W5.heap.size + 1; omega) (by rw [hT'',if_pos rfl]; exact TreeAt.of hr2) _ hgr4 hown4 hat4
        have bxx:Bx w4 (w.heap.size + 1) 32 #[.slice av k cv] := (keep_block hb hgr4 hown (by omega) (by omega)).trans HQ.out.2.2.2.2.1
        refine ⟨⟨T'',_,lo',hi',hr'.setO TreeAt.pl (by simp) _,fun q hq => ?_⟩,?_,?_⟩
        · rw [hT'']
          by_cases e:q = k
          · subst e
            rw [if_pos rfl]
            exact htl2
          · rw [if_neg e]
            exact HQ.out.2.2.2.2.2 q (by omega)
        · have := bxx.set 0 (.slice a4 (k + 1) c4)
          simpa using this
        · exact (((HQ.out.2.1.trans (hb.mono (by omega))).trans ((below_alloc _ _).mono (by omega))).grown hgr4 (by simp; omega) (fun g e => by have := hown g e; omega)).setCell (by simp) _
      clear hr2 htl2 hb2 hown4 hgr4 hat4 HT HK2 HK3 HK4 HZ HU y0 y1 z0 z1 u0 u1 uf ul xd0 xd1 x0 x1 HC g0 g1
      go_wp2
      go_roundw
      case rel =>
        obtain ⟨⟨T'',us'',lo'',hi'',hr',ht'⟩,hb',hbb'⟩ := H7.out
        exact ⟨k + 1,_,T'',us'',lo'',hi'',by omega,by go_num,hr',hb',hbb',ht'⟩
      case measure => simp [intOf]; omega
    · obtain rfl:k = 6 := by omega
      have k1:¬ ((6:Nat):Int) < 6 := by omega
      have b1:Bx wr w.heap.size 32 #[.slice none 0 0] := B0.out.1.below' hbel (by omega)
      have y0 := b1.cell 0
      have y1 := hbx.cell 0
      simp at y0 y1
      have yf0 := b1.frozen 0
      have yl := b1.lt
      clear hrow hbel b1 hbx htl
      go_wp2
      refine bodyPost_ret (v := .agg #[.slice av 6 cv]) (by simp [results,Tryz.results48,go_sem,y0]) rfl ⟨HQ.out.2.2.2.1.setCell (by simp) _,av,cv,T',us,lo,hi,rfl,HQ.out.1.setO TreeAt.pl (by simp) _,HQ.out.2.2.2.2.2⟩
end Go.Proofs.YtcnollkkigiobaaGreat
