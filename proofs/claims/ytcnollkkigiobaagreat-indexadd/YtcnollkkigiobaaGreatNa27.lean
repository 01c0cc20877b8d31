import Derived.Test.YtcnollkkigiobaaGreatNa26
import Derived.Test.YtcnollkkigiobaaGreatNa53
import Derived.Test.YtcnollkkigiobaaGreatNa2
import Derived.Test.YtcnollkkigiobaaGreatNa1
set_option linter.unusedVariables false
set_option maxRecDepth 100000
namespace Go.Proofs.YtcnollkkigiobaaGreat
open Go.RowKit Go.Deep

theorem InsOut_t {n:Nat} {N:Nat -> Tn} {key:ByteArray} {m:Nat} {M:Nat -> Tn} (h:InsTo n N key m M):∃ (D:Nat) (y:Ro D) (hh:Nat),m = nodesR D y /\ m <= 5000 /\ Tells M 0 D y 0 /\ BalR D true y hh := by
  obtain ⟨t,rs,hv,_,_,hr,hm,h5,hT⟩ := h
  obtain ⟨_,_,_,⟨hh,g4⟩,_,_⟩ := hv
  rcases InsR.bal g4 hr with ⟨y,rfl,hy⟩ | ⟨y,z,rfl,hy,hz⟩
  · exact ⟨21,y,hh,by rw [hm]; simp [insN],h5,hT,hy⟩
  · refine ⟨22,.inr [y,z],hh + 1,by rw [hm]; rfl,h5,hT,by simp,by simp,hh,rfl,fun t ht => ?_⟩
    simp at ht
    rcases ht with rfl | rfl
    · exact hy
    · exact hz


theorem ins_agree {n:Nat} {N:Nat -> Tn} {key:ByteArray} {ok ok' : Bool} {m m' : Nat} {M M' : Nat -> Tn} (h:(ok = true /\ InsTo n N key m M) \/ (ok = false /\ m = n /\ M = N /\ InsNo n N key)) (h' : (ok' = true /\ InsTo n N key m' M') \/ (ok' = false /\ m' = n /\ M' = N /\ InsNo n N key)):ok = ok' /\ m = m' /\ ∀ i,i < m -> SameN (M i) (M' i) := by
  rcases h with ⟨rfl,t,rs,hv,hk,hn,hr,hm,h5,hT⟩ | ⟨rfl,rfl,rfl,hno⟩
  · rcases h' with ⟨rfl,t',rs',hv',hk',hn',hr',hm',h5',hT'⟩ | ⟨rfl,rfl,rfl,hno'⟩
    · obtain rfl := hv.fn hv'
      obtain ⟨_,_,_,⟨hh,g4⟩,g5,_⟩ := hv
      have e := InsR.fn g4 (asc_of_ascK g5) hr hr'
      subst e
      refine ⟨rfl,by omega,fun i hi => ?_⟩
      rcases InsR.bal g4 hr with ⟨y,rfl,hy⟩ | ⟨y,z,rfl,hy,hz⟩
      · exact Tells.same (show Tells M 0 21 y 0 from hT) hT' i (Nat.zero_le _) (by rw [hm] at hi; simp [insN] at hi; omega)
      · exact Tells.same (show Tells M 0 22 (.inr [y,z]) 0 from hT) hT' i (Nat.zero_le _) (by rw [hm] at hi; have:insN [y,z] = nodesR 22 (.inr [y,z]) := rfl; omega)
    · have := hno' t rs hv hk hn hr
      omega
  · rcases h' with ⟨rfl,t',rs',hv',hk',hn',hr',hm',h5',hT'⟩ | ⟨rfl,rfl,rfl,hno'⟩
    · have := hno t' rs' hv' hk' hn' hr'
      omega
    · exact ⟨rfl,rfl,fun i _ => SameN.refl _⟩

theorem tells_four {F:Nat -> Tn} {base:Int}:∀ {d:Nat} {root:Bool} {t:Ro d} {h x:Nat},Tells F base d t x -> BalR d root t h -> ∀ i,x <= i -> i < x + nodesR d t -> (F i).kn <= 4 /\ (F i).dn <= 4
  | 0,_,_,_,_,h,_,_,_,_ => h.elim
  | d + 1,root,.inl t,h,x,ht,hb,i,hi1,hi2 => by
    have hn:nodesR (d + 1) (.inl t) = 1 := rfl
    have e:i = x := by omega
    subst e
    obtain ⟨_,h2,_,h4,_⟩ := ht
    obtain ⟨_,h5,_⟩ := hb
    exact ⟨by omega,by omega⟩
  | d + 1,root,.inr l,h,x,ht,hb,i,hi1,hi2 => by
    have hn:nodesR (d + 1) (.inr l) = 1 + (l.map (nodesR d)).sum := rfl
    obtain ⟨h1,h2,h3,h4,h5,h6,h7⟩ := ht
    obtain ⟨g1,g2,h',_,hall⟩ := hb
    by_cases e:i = x
    · subst e
      exact ⟨by omega,by omega⟩
    · obtain ⟨k,hk,k1,k2⟩ := offR_find d l (i - (x + 1)) (by omega)
      exact tells_four (h7 k hk) (hall _ (List.getElem_mem hk)) i (by omega) (by omega)

theorem sum_four (M:Nat -> Tn):∀ m,(∀ i,i < m -> (M i).kn <= 4 /\ (M i).dn <= 4) -> sumT M m <= 8 * m
  | 0,_ => Nat.le_refl _
  | m + 1,h => by
    have q := sum_four M m (fun i hi => h i (by omega))
    have := h m (by omega)
    show sumT M m + (M m).kn + (M m).dn <= _
    omega

theorem GT.ownTn {w:World} {B g n c:Nat} {N:Nat -> Tn} {KA DA:Nat -> Option Addr} {KC DC:Nat -> Nat} (h:GT w B (.slice (some ⟨g,0,none⟩) n c) n N KA DA KC DC):OwnTn w B g n N KA DA KC DC := by
  refine ⟨(own_lt h.row g rfl).1,?_,h.keys,h.kids,h.apartK,h.apartD⟩
  rcases h.row.2 with ⟨q,_⟩ | ⟨g',cap,cur,q1,q2,q3,q4,q5,q6,q7⟩
  · cases q
  · injection q1 with q1 _ q8
    injection q1 with q1
    injection q1 with q1
    subst q1 q8
    refine ⟨cur,q3,by rw [q6]; exact Nat.mul_le_mul_right 4 q4,fun i hi => ?_⟩
    have q9:(cur.toList.take (n * 4))[i]? = ((List.range (n * 4)).map (tnCell N KA DA KC DC))[i]? := by rw [q7]
    rw [List.getElem?_take,if_pos hi,Array.getElem?_toList,List.getElem?_map,List.getElem?_range hi] at q9
    exact q9
theorem GT.form {w:World} {B n c:Nat} {a:Option Addr} {N:Nat -> Tn} {KA DA:Nat -> Option Addr} {KC DC:Nat -> Nat} (h:GT w B (.slice a n c) n N KA DA KC DC) (h0:n ≠ 0):∃ g,a = some ⟨g,0,none⟩ := by
  obtain ⟨a',c',e,hf⟩ := own_form h.row
  injection e with e
  obtain ⟨g,q,_⟩ := hf h0
  exact ⟨g,by rw [e,q]⟩
theorem GT.rd {w:World} {B n c:Nat} {a:Option Addr} {N:Nat -> Tn} {KA DA:Nat -> Option Addr} {KC DC:Nat -> Nat} (h:GT w B (.slice a n c) n N KA DA KC DC):RdTn w a n N := by
  by_cases h0:n = 0
  · exact .inl h0
  · obtain ⟨g,rfl⟩ := h.form h0
    exact h.ownTn.rd

theorem RdTn.same {w:World} {a:Option Addr} {n:Nat} {M M' : Nat -> Tn} (h:RdTn w a n M) (hs:∀ i,i < n -> SameN (M i) (M' i)):RdTn w a n M' := by
  rcases h with h | ⟨b,o,rfl,hc⟩
  · exact .inl h
  · refine .inr ⟨b,o,rfl,fun i hi => ?_⟩
    obtain ⟨ka,kc,da,dc,h0,h1,h2,h3,h4,h5⟩ := hc i hi
    obtain ⟨e1,e2,e3,e4,e5,e6⟩ := hs i hi
    refine ⟨ka,kc,da,dc,by rw [<- e1]; exact h0,by rw [<- e3]; exact h1,by rw [<- e4]; exact h2,by rw [<- e2]; exact h3,?_,?_⟩
    · rw [<- e3]; exact h4.congr e5
    · rw [<- e4]; exact h5.congr e6


def RdIx (w:World) (a:Option Addr) (n:Nat) (M:Nat -> Nat) (T:Nat -> Nat -> Tn):Prop :=
  n = 0 \/ ∃ b o,a = some ⟨b,o,none⟩ /\ ∀ i,i < n -> ∃ ai ci,w.cell? ⟨b,o + i,none⟩ = some (.slice ai (M i) ci) /\ RdTn w ai (M i) (T i)
theorem RdIx.below {w w' : World} {a:Option Addr} {n:Nat} {M:Nat -> Nat} {T:Nat -> Nat -> Tn} (h:RdIx w a n M T) (hb:Below w.heap.size w w'):RdIx w' a n M T := by
  rcases h with h | ⟨b,o,rfl,hc⟩
  · exact Or.inl h
  · refine Or.inr ⟨b,o,rfl,fun i hi => ?_⟩
    obtain ⟨ai,ci,h0,h1⟩ := hc i hi
    exact ⟨ai,ci,by rw [hb.cell (World.block_lt_of_cell? _ _ h0)]; exact h0,h1.below hb⟩
def IxFit (n:Nat) (M:Nat -> Nat) (T:Nat -> Nat -> Tn):Prop := ∀ i,i < n -> M i <= 1048576 /\ ∀ j,j < M i -> TnFit (T i j)
def sumI (M:Nat -> Nat) (T:Nat -> Nat -> Tn):Nat -> Nat
  | 0 => 0
  | k + 1 => sumI M T k + M k + sumT (T k) (M k)
theorem sumI_get (M:Nat -> Nat) (T:Nat -> Nat -> Tn):∀ (m i:Nat),i < m -> M i + sumT (T i) (M i) <= sumI M T m
  | 0,i,h => absurd h (Nat.not_lt_zero _)
  | m + 1,i,h => by
    have e:sumI M T (m + 1) = sumI M T m + M m + sumT (T m) (M m) := rfl
    by_cases e2:i = m
    · subst e2; omega
    · have := sumI_get M T m i (by omega)
      omega
theorem ixFit_of {n:Nat} {M:Nat -> Nat} {T:Nat -> Nat -> Tn} (h:n + sumI M T n <= 1048576):IxFit n M T := fun i hi => by
  have q := sumI_get M T n i hi
  refine ⟨by omega,fun j hj => ?_⟩
  have := sumT_get (T i) (M i) j hj
  exact ⟨by omega,by omega⟩

set_option maxHeartbeats 1000000 in
theorem szTree_left (a:Option Addr) (m c:Nat) (N:Nat -> Tn) (l:Int) (w:World) (h:RdTn w a m N) (hm:m <= maxLen) (hN:∀ i,i < m -> TnBig (N i)) (h0:0 <= l) (h1:l <= 1048576) :
    Calls Tryz.prog 66 #[.agg #[.slice a m c],.int .i64 l] w fun e w' => ∃ r:Int,e = .returned (.int .i64 r) /\ (r = -1 \/ (0 <= r /\ r + (m:Int) + (sumT N m:Int) <= l)) /\ Below w.heap.size w w' := by
  have HR:Hid (RdTn w a m N /\ ∀ i,i < m -> TnBig (N i)) := ⟨h,hN⟩
  clear h hN
  go_enter Tryz.func66,Tryz.ntmps66
  go_wp2_with fail
  refine (szTNodeS_sum a m c N l _ (HR.out.1.below (below_alloc _ _)) hm HR.out.2 h0 h1).mono ?_
  rintro e w1 ⟨r,rfl,hr,hb1⟩
  have H1:Hid (Below w.heap.size w w1) := (below_alloc _ _).trans (hb1.mono (by simp))
  clear hb1
  rcases hr with rfl | ⟨hr0,hr1⟩
  · go_wp2
    go_ret
    exact ⟨-1,rfl,Or.inl rfl,H1.out⟩
  · have hr2:¬ r < 0 := by omega
    have HF:Hid (r + (m:Int) + (sumT N m:Int) <= l) := hr1
    clear hr1
    go_wp2
    go_ret
    exact ⟨r,rfl,Or.inr ⟨hr0,HF.out⟩,H1.out⟩

set_option maxHeartbeats 1000000 in
theorem szTreeS_sum (a:Option Addr) (m c:Nat) (M:Nat -> Nat) (T:Nat -> Nat -> Tn) (l:Int) (w:World) (h:RdIx w a m M T) (hm:m <= maxLen) (hN:∀ i,i < m -> M i <= maxLen /\ ∀ j,j < M i -> TnBig (T i j)) (h0:0 <= l) (h1:l <= 1048576) :
    Calls Tryz.prog 32 #[.slice a m c,.int .i64 l] w fun e w' => ∃ r:Int,e = .returned (.int .i64 r) /\ (r = -1 \/ (0 <= r /\ r + (m:Int) + (sumI M T m:Int) <= l)) /\ Below w.heap.size w w' := by
  unfold maxLen at hm
  by_cases hneg:l - (m:Int) < 0
  · go_enter Tryz.func32,Tryz.ntmps32
    go_wp2
    go_ret
    exact ⟨-1,rfl,Or.inl rfl,Below.refl _ _⟩
  · go_enter Tryz.func32,Tryz.ntmps32
    go_wp2
    go_loopw [1,5] (fun q i wr => ∃ (k:Nat) (l' : Int),k <= m /\ i = .int .i64 k /\ q = .int .i64 l' /\ 0 <= l' /\ l' + (sumI M T k:Int) <= l - (m:Int) /\ Below w.heap.size w wr) (fun _ i _ => m - (intOf i).toNat)
    case atStart => exact ⟨0,_,Nat.zero_le _,rfl,rfl,by omega,by simp [sumI],Below.refl _ _⟩
    case round =>
      obtain ⟨k,l',hk,rfl,rfl,hl0,hl1,hbel⟩ := hrel
      by_cases hlt:k < m
      · have hne:¬ m = 0 := by omega
        have h' := h.below hbel
        have HB:Hid (Below w.heap.size w wr) := hbel
        have hsz := hbel.size
        rcases h' with h' | ⟨b,o,rfl,hc⟩
        · exact absurd h' hne
        obtain ⟨ai,ci,c0,c4⟩ := hc k hlt
        have HK:Hid (RdTn wr ai (M k) (T k)) := c4
        have HL:Hid (M k <= maxLen /\ ∀ j,j < M k -> TnBig (T k j)) := hN k hlt
        clear hc hN hbel h c4
        go_wp2_with fail
        refine (szTree_left ai (M k) ci (T k) l' _ HK.out HL.out.1 HL.out.2 hl0 (by omega)).mono ?_
        rintro e w1 ⟨r,rfl,hr,hb1⟩
        have HB1:Hid (Below w.heap.size w w1) := HB.out.trans (hb1.mono hsz)
        clear hb1
        rcases hr with rfl | ⟨hr0,hr1⟩
        · go_wp2
          go_ret
          exact ⟨-1,rfl,Or.inl rfl,HB1.out⟩
        · have hr2:¬ r < 0 := by omega
          have HN2:Hid (r + (sumI M T (k + 1):Int) <= l - (m:Int)) := by
            show r + (sumI M T (k + 1):Int) <= l - (m:Int)
            have:sumI M T (k + 1) = sumI M T k + M k + sumT (T k) (M k) := rfl
            omega
          go_wp2
          go_roundw
          case rel => exact ⟨k + 1,r,by omega,by go_num,rfl,hr0,HN2.out,HB1.out⟩
          case measure => simp [intOf]; omega
      · have e:k = m := by omega
        subst e
        go_wp2
        go_ret
        exact ⟨l',rfl,Or.inr ⟨hl0,by omega⟩,hbel⟩

set_option maxHeartbeats 1000000 in
theorem szIndex_sum (a:Option Addr) (m c:Nat) (M:Nat -> Nat) (T:Nat -> Nat -> Tn) (w:World) (h:RdIx w a m M T) (hm:m <= maxLen) (hN:∀ i,i < m -> M i <= maxLen /\ ∀ j,j < M i -> TnBig (T i j)) :
    Calls Tryz.prog 7 #[.agg #[.slice a m c],.int .i64 1048576] w fun e w' => ∃ r:Int,e = .returned (.int .i64 r) /\ (r = -1 \/ (0 <= r /\ m + sumI M T m <= 1048576)) /\ Below w.heap.size w w' := by
  have HR:Hid (RdIx w a m M T /\ ∀ i,i < m -> M i <= maxLen /\ ∀ j,j < M i -> TnBig (T i j)) := ⟨h,hN⟩
  clear h hN
  go_enter Tryz.func7,Tryz.ntmps7
  go_wp2_with fail
  refine (szTreeS_sum a m c M T 1048576 _ (HR.out.1.below (below_alloc _ _)) hm HR.out.2 (by omega) (by omega)).mono ?_
  rintro e w1 ⟨r,rfl,hr,hb1⟩
  have H1:Hid (Below w.heap.size w w1) := (below_alloc _ _).trans (hb1.mono (by simp))
  clear hb1
  rcases hr with rfl | ⟨hr0,hr1⟩
  · go_wp2
    go_ret
    exact ⟨-1,rfl,Or.inl rfl,H1.out⟩
  · have hr2:¬ r < 0 := by omega
    have HF:Hid (m + sumI M T m <= 1048576) := by
      show m + sumI M T m <= 1048576
      omega
    clear hr1
    go_wp2
    go_ret
    exact ⟨r,rfl,Or.inr ⟨hr0,HF.out⟩,H1.out⟩

set_option maxHeartbeats 2000000 in
theorem eqTreeS_yes (a b:Option Addr) (m ca cb:Nat) (M:Nat -> Nat) (T:Nat -> Nat -> Tn) (w:World) (ha:RdIx w a m M T) (hb:RdIx w b m M T) (hm:m <= 1048576) (hN:IxFit m M T) :
    Calls Tryz.prog 39 #[.slice a m ca,.slice b m cb] w fun e w' => e = .returned (.bool true) /\ Below w.heap.size w w' := by
  have hll:((m:Int) != (m:Int)) = false := by simp
  go_enter Tryz.func39,Tryz.ntmps39
  go_wp2
  go_loopw [5] (fun i wr => ∃ k:Nat,k <= m /\ i = .int .i64 k /\ Below w.heap.size w wr) (fun i _ => m - (intOf i).toNat)
  case atStart => exact ⟨0,Nat.zero_le _,rfl,Below.refl _ _⟩
  case round =>
    obtain ⟨k,hk,rfl,hbel⟩ := hrel
    by_cases hlt:k < m
    · have hne:¬ m = 0 := by omega
      have ha' := ha.below hbel
      have hb' := hb.below hbel
      rcases ha' with h | ⟨ba,oa,rfl,hca⟩
      · exact absurd h hne
      rcases hb' with h | ⟨bb,ob,rfl,hcb⟩
      · exact absurd h hne
      obtain ⟨ai,ci,c0,c4⟩ := hca k hlt
      obtain ⟨bi,di,g0,g4⟩ := hcb k hlt
      have HL := hN k hlt
      clear hca hcb ha hb hN
      have hsz := hbel.size
      have HB:Hid (Below w.heap.size w wr) := hbel
      clear hbel
      go_wp2
      go_region_with (go_at_call 74; refine (eqTree_yes ai bi (M k) ci di (T k) _ (by exact c4) (by exact g4) HL.1 HL.2).mono ?_; rintro e w2 ⟨rfl,hb2⟩)
      all_goals
        have HX:Hid (Below w.heap.size w w2) := (HB.out.drew).trans (hb2.mono (by simpa using hsz))
        clear hb2 c0 c4 g0 g4
        go_wp2
        go_roundw
        case rel => exact ⟨k + 1,by omega,by go_num,HX.out⟩
        case measure => simp [intOf]; omega
    · have e:k = m := by omega
      subst e
      go_wp2
      go_ret
      exact ⟨rfl,hbel⟩
set_option maxHeartbeats 400000 in
theorem eqIndex_yes (a b:Option Addr) (m ca cb:Nat) (M:Nat -> Nat) (T:Nat -> Nat -> Tn) (w:World) (ha:RdIx w a m M T) (hb:RdIx w b m M T) (hm:m <= 1048576) (hN:IxFit m M T) :
    Calls Tryz.prog 13 #[.agg #[.slice a m ca],.agg #[.slice b m cb]] w fun e w' => e = .returned (.bool true) /\ Below w.heap.size w w' := by
  have HR:Hid (RdIx w a m M T /\ RdIx w b m M T /\ IxFit m M T) := ⟨ha,hb,hN⟩
  clear ha hb hN
  go_enter Tryz.func13,Tryz.ntmps13
  go_wp2_with fail
  have hbel:∀ o1 o2,Below w.heap.size w ((w.alloc o1).alloc o2) := fun o1 o2 => ((Below.refl _ _).alloc (Nat.le_refl _) o1).alloc (by simp) o2
  refine (eqTreeS_yes a b m ca cb M T _ (HR.out.1.below (hbel _ _)) (HR.out.2.1.below (hbel _ _)) hm HR.out.2.2).mono ?_
  rintro e w1 ⟨rfl,hb1⟩
  have H1:Hid (Below w.heap.size w w1) := (hbel _ _).trans (hb1.mono (by simp; omega))
  clear hb1
  go_wp2
  go_ret
  exact ⟨rfl,H1.out⟩

theorem OwnTn.setO {W:World} {B g m:Nat} {N:Nat -> Tn} {KA DA:Nat -> Option Addr} {KC DC:Nat -> Nat} (q:OwnTn W B g m N KA DA KC DC) {p:Addr} (hp:p.block < B) (v:Value):OwnTn (W.setCell p v) B g m N KA DA KC DC := by
  have hle := q.le
  refine ⟨q.le,q.row.setOther (by omega) _,fun i hi => (q.keys i hi).setOther hp _,fun i hi => ?_,q.apartK,q.apartD⟩
  rcases q.kids i hi with h0 | ⟨g,hA,hg,hr⟩
  · exact Or.inl h0
  · exact Or.inr ⟨g,hA,hg,hr.setOther (by omega) _⟩
def OwnIx (w:World) (B g n k:Nat) (M:Nat -> Nat) (T:Nat -> Nat -> Tn):Prop :=
  g < B /\ ∃ cur:Array Value,w.heap[g]? = some (.cells cur 59 (0,0)) /\ cur.size = n /\ ∀ i,i < k -> ∃ gi KA DA KC DC,cur[i]? = some (.slice (some ⟨gi,0,none⟩) (M i) (M i)) /\ OwnTn w B gi (M i) (T i) KA DA KC DC
theorem OwnIx.rd {w:World} {B g n:Nat} {M:Nat -> Nat} {T:Nat -> Nat -> Tn} (h:OwnIx w B g n n M T):RdIx w (some ⟨g,0,none⟩) n M T := by
  obtain ⟨_,cur,h1,h2,h3⟩ := h
  refine .inr ⟨g,0,rfl,fun i hi => ?_⟩
  obtain ⟨gi,KA,DA,KC,DC,q1,q2⟩ := h3 i hi
  exact ⟨some ⟨gi,0,none⟩,M i,by rw [Nat.zero_add,Bx.cell (show Bx w g 59 cur from h1) i]; exact q1,q2.rd⟩

theorem Tryz.info59 : (Tryz.prog.info? 59).map (fun i => (i.zero,i.size,i.bytes)) = some (some (.agg #[.slice none 0 0]),1,24) := by kernel_rfl

theorem OwnTn.und {w w' : World} {B g n:Nat} {N:Nat -> Tn} {KA DA:Nat -> Option Addr} {KC DC:Nat -> Nat} (h:OwnTn w B g n N KA DA KC DC) (hb:Below w.heap.size w w'):OwnTn w' B g n N KA DA KC DC :=
  ⟨h.le,h.row.of_block (hb.block g h.row.lt),fun i hi => (h.keys i hi).below hb,fun i hi => (h.kids i hi).below hb,h.apartK,h.apartD⟩

theorem OwnIx.put {w w1:World} {B g n k:Nat} {M:Nat -> Nat} {T:Nat -> Nat -> Tn} (h:OwnIx w B g n k M T) (hB:B <= w.heap.size) (hk:k < n) (hb:Below w.heap.size w w1) {gk:Nat} {KA DA:Nat -> Option Addr} {KC DC:Nat -> Nat} (ho:OwnTn w1 w.heap.size gk (M k) (T k) KA DA KC DC):OwnIx (w1.setCell ⟨g,k,none⟩ (.slice (some ⟨gk,0,none⟩) (M k) (M k))) B g n (k + 1) M T := by
  obtain ⟨hg,cur,h1,h2,h3⟩ := h
  have h1' : Bx w1 g 59 cur := (show Bx w g 59 cur from h1).below hb
  have hs := h1'.set k (.slice (some ⟨gk,0,none⟩) (M k) (M k))
  refine ⟨hg,_,hs,by simpa using h2,fun i hi => ?_⟩
  by_cases e:i = k
  · subst e
    refine ⟨gk,KA,DA,KC,DC,by simp [h2,hk],?_⟩
    have q := ho.setO (p := ⟨g,i,none⟩) (by show g < w.heap.size; omega) (.slice (some ⟨gk,0,none⟩) (M i) (M i))
    have hle := q.le
    exact ⟨by omega,q.row,fun j hj => (q.keys j hj).mono (by omega),fun j hj => (q.kids j hj).mono (by omega),q.apartK,q.apartD⟩
  · obtain ⟨gi,KA',DA',KC',DC',q1,q2⟩ := h3 i (by omega)
    refine ⟨gi,KA',DA',KC',DC',?_,(q2.und hb).setO (p := ⟨g,k,none⟩) hg _⟩
    rw [Array.getElem?_setIfInBounds_ne (by omega)]
    exact q1
theorem OwnIx.setO {w:World} {B g n:Nat} {M:Nat -> Nat} {T:Nat -> Nat -> Tn} (h:OwnIx w B g n n M T) {p:Addr} (hp:p.block < g) (v:Value):OwnIx (w.setCell p v) B g n n M T := by
  obtain ⟨hg,cur,h1,h2,h3⟩ := h
  refine ⟨hg,cur,by rw [Below.heap_setCell _ _ _ _ (show g ≠ p.block by omega)]; exact h1,h2,fun i hi => ?_⟩
  obtain ⟨gi,KA',DA',KC',DC',q1,q2⟩ := h3 i hi
  exact ⟨gi,KA',DA',KC',DC',q1,q2.setO (by omega) _⟩

section
open Go.ChangeShapes Go.WideShapes Go.ChangeAt Go.Joins
variable {H:Type} {enc:TypeId × Value -> H} {W:World}
set_option maxRecDepth 100000 in
theorem trees_of {fuel:Nat} {cs:List Value} {x:DataW H × List MemPlace} (h:DataW.trod enc Tryz.prog W 0 (fun _ => true) true fuel 22 cs = some x) :
    ∃ a n c M T,cs = [.slice a n c] /\ RdIx W a n M T /\ (∀ i,i < n -> M i <= maxLen /\ ∀ j,j < M i -> TnBig (T i j)) /\ n <= maxLen := by
  rcases open_slice (P := Tryz.prog) (t := 22) (e := 106) (by kernel_rfl) h with ⟨hcs,_⟩ | ⟨a,len,cap,m,fu,D,Pl,hcs,_,hl,hm,hmm,_,hx⟩
  · exact ⟨none,0,0,fun _ => 0,fun _ _ => ⟨false,0,fun _ => { data := #[] },0,fun _ => 0,0⟩,hcs,Or.inl rfl,fun i hi => absurd hi (Nat.not_lt_zero _),Nat.zero_le _⟩
  · have hlm:len <= m := by rw [hmm]; split <;> omega
    have each:∀ i,i < len -> ∃ q:Nat × (Nat -> Tn) × Option Addr × Nat,W.cell? (a.add i) = some (.slice q.2.2.1 q.1 q.2.2.2) /\ RdTn W q.2.2.1 q.1 q.2.1 /\ q.1 <= maxLen /\ ∀ j,j < q.1 -> TnBig (q.2.1 j) := by
      intro i hi
      obtain ⟨cs',h1,h2⟩ := hx i (by omega)
      rw [show Tryz.prog.cellsOf 106 = 1 by kernel_rfl] at h1
      obtain ⟨_,hlen,hcell⟩ := World.cells?_some h1
      obtain ⟨xs,k,hk,hxy,_,hxl,hf⟩ := DataW.trod_struct (P := Tryz.prog) Tryz.underlying106 h2
      have g0 := hf 0 _ rfl
      rw [show Tryz.prog.cellsOf _ = 1 by kernel_rfl] at g0
      match xs,hxl,cs',hlen with
      | [y0],_,[v0],_ =>
        simp at g0
        obtain ⟨ai,n',c',N,e1,hr,hX,hn⟩ := tnodes_of g0
        simp at e1
        subst e1
        have c0 := hcell 0 (by omega)
        rw [Addr.add_add] at c0
        exact ⟨(n',N,ai,c'),by simpa using c0,hr,hn,hX⟩
    haveI:Inhabited (Nat × (Nat -> Tn) × Option Addr × Nat) := ⟨(0,fun _ => ⟨false,0,fun _ => { data := #[] },0,fun _ => 0,0⟩,none,0)⟩
    obtain ⟨q,hq⟩ := choose_lt each
    refine ⟨some a,len,cap,fun i => (q i).1,fun i => (q i).2.1,hcs,?_,fun i hi => (hq i hi).2.2,by omega⟩
    by_cases h0:len = 0
    · exact Or.inl h0
    · obtain ⟨b,off,spot⟩ := a
      have hs := spotT_of (a := ⟨b,off,spot⟩) (by simpa using (hq 0 (by omega)).1)
      simp at hs
      subst hs
      refine Or.inr ⟨b,off,rfl,fun i hi => ?_⟩
      obtain ⟨k0,k1,_⟩ := hq i hi
      rw [addT_eq] at k0
      exact ⟨_,_,k0,k1⟩
def IsIndex (w:World) (v:Value):Prop :=
  ∃ a n c M T,v = .agg #[.slice a n c] /\ RdIx w a n M T /\ (∀ i,i < n -> M i <= maxLen /\ ∀ j,j < M i -> TnBig (T i j)) /\ n <= maxLen
set_option maxRecDepth 100000 in
theorem openIndex {r:Reach} {b0:Nat} {v:Value} {d:DataW H} {p:List MemPlace} (hv:Value.okWide Tryz.prog W r b0 24 v) (h:DataW.Trod enc Tryz.prog W 0 (fun _ => true) true 24 v d p):IsIndex W v := by
  obtain ⟨cs,rfl,hsz⟩ := okWide_struct (P := Tryz.prog) Tryz.underlying24 hv
  have h1:cs.size = 1 := hsz.trans (by kernel_rfl)
  obtain ⟨l⟩ := cs
  match l,h1 with
  | [c0],_ =>
    obtain ⟨fuel,hf⟩ := h
    obtain ⟨xs,k,hk,hxy,_,hxl,hff⟩ := DataW.trod_struct (P := Tryz.prog) Tryz.underlying24 hf
    have g0 := hff 0 _ rfl
    rw [show Tryz.prog.cellsOf _ = 1 by kernel_rfl] at g0
    match xs,hxl with
    | [y0],_ =>
      simp [Value.cells] at g0
      obtain ⟨a,n',c,M,T,e1,hr,hX,hn⟩ := trees_of g0
      simp at e1
      subst e1
      exact ⟨a,n',c,M,T,rfl,hr,hX,hn⟩
end
end Go.Proofs.YtcnollkkigiobaaGreat
