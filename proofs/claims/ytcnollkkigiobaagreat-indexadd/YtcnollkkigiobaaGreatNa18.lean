import Derived.Test.YtcnollkkigiobaaGreatNa13
import Derived.Test.YtcnollkkigiobaaGreatNa17
import Derived.Test.YtcnollkkigiobaaGreatNa4
set_option linter.unusedVariables false
set_option maxRecDepth 100000
namespace Go.Proofs.YtcnollkkigiobaaGreat
open Go.RowKit Go.Deep

set_option maxHeartbeats 400000 in
theorem nanC_any (x:ByteArray) (w:World):Calls Tryz.prog 218 #[.string x] w fun e w' => e = .returned (.bool false) /\ w' = w := by
  go_enter Tryz.func218,Tryz.ntmps218
  go_wp2
  go_ret
  exact ⟨by simp,rfl⟩

set_option maxHeartbeats 400000 in
theorem nanS_any (x:ByteArray) (w:World):Calls Tryz.prog 215 #[.string x] w fun e w' => e = .returned (.bool false) /\ w' = w := by
  go_enter Tryz.func215,Tryz.ntmps215
  go_wp2
  go_ret
  exact ⟨by simp,rfl⟩

set_option maxHeartbeats 400000 in
theorem lessS_any (x y:ByteArray) (w:World):Calls Tryz.prog 214 #[.string x,.string y] w fun e w' => e = .returned (.bool (Op.bytesLess x.toList y.toList)) /\ w' = w := by
  go_enter Tryz.func214,Tryz.ntmps214
  go_wp2_with fail
  refine (nanC_any x _).mono ?_
  rintro e w1 ⟨rfl,rfl⟩
  go_wp2
  go_ret
  exact ⟨by simp,rfl⟩

def RetBs (L:List ByteArray) (key:ByteArray) (w:World) (e:Ending) (w' : World):Prop :=
  ∃ (i:Nat) (ok:Bool),e = .returned (.tuple #[.int .i64 (i:Int),.bool ok]) /\ w' = w /\ i <= L.length /\ (∀ j,j < i -> Op.bytesLess (gt L j).toList key.toList = true) /\ (∀ j,i <= j -> j < L.length -> Op.bytesLess (gt L j).toList key.toList = false) /\ (ok = true ↔ i < L.length /\ gt L i = key)

set_option maxHeartbeats 4000000 in
theorem bs_any (a:Option Addr) (n c:Nat) (L:List ByteArray) (key:ByteArray) (w:World) (h:RdS w a n (gt L)) (hn:n = L.length) (hn2:n <= 1048576) (ha:Asc L) :
    Calls Tryz.prog 211 #[.slice a n c,.string key] w (RetBs L key w) := by
  have HR:Hid (RdS w a n (gt L) /\ n = L.length /\ Asc L) := ⟨h,hn,ha⟩
  clear h hn ha
  go_enter Tryz.func211,Tryz.ntmps211
  go_wp2
  go_loopw [7,8] (fun p q wr => ∃ i j:Nat,i <= j /\ j <= n /\ p = .int .i64 i /\ q = .int .i64 j /\ wr = w /\ (∀ k,k < i -> Op.bytesLess (gt L k).toList key.toList = true) /\ (∀ k,j <= k -> k < n -> Op.bytesLess (gt L k).toList key.toList = false)) (fun p q _ => (intOf q).toNat - (intOf p).toNat)
  case atStart => exact ⟨0,n,Nat.zero_le _,Nat.le_refl _,rfl,rfl,rfl,fun k hk => absurd hk (Nat.not_lt_zero _),fun k h1 h2 => by omega⟩
  case round =>
    obtain ⟨i,j,hij,hjn,rfl,rfl,rfl,h1,h2⟩ := hrel
    have H12:Hid ((∀ k,k < i -> Op.bytesLess (gt L k).toList key.toList = true) /\ (∀ k,j <= k -> k < n -> Op.bytesLess (gt L k).toList key.toList = false)) := ⟨h1,h2⟩
    clear h1 h2
    by_cases hlt:i < j
    · obtain ⟨m,hm⟩:∃ m:Nat,((i:Int) + (j:Int)) / 2 = (m:Int) := ⟨(i + j) / 2,by omega⟩
      have hm1:i <= m /\ m < j := by omega
      have hmn:m < n := by omega
      rcases HR.out.1 with q | ⟨bk,ok,rfl,hc⟩
      · omega
      have s1 := hc m hmn
      have hm0:(0:Int) <= (m:Int) := by omega
      have hmI:(m:Int) < (n:Int) := by omega
      have HL:Hid (m < L.length /\ n = L.length) := ⟨by rw [<- HR.out.2.1]; exact hmn,HR.out.2.1⟩
      clear hc
      go_upto_region 5 with fail
      clear hm
      go_wp2_with fail
      refine (lessS_any (gt L m) key _).mono ?_
      rintro e w1 ⟨rfl,rfl⟩
      cases hls:Op.bytesLess (gt L m).toList key.toList with
      | true =>
        have HN:Hid (∀ k,k < m + 1 -> Op.bytesLess (gt L k).toList key.toList = true) := by
          intro k hk
          by_cases e:k = m
          · subst e; exact hls
          · exact less_trans _ _ _ (asc_lt HR.out.2.2 (show k < m by omega) HL.out.1) hls
        go_wp2
        go_roundw
        case rel => exact ⟨m + 1,j,by omega,hjn,by go_num,rfl,trivial,HN.out,H12.out.2⟩
        case measure => simp [intOf]; omega
      | false =>
        have HN:Hid (∀ k,m <= k -> k < n -> Op.bytesLess (gt L k).toList key.toList = false) := by
          intro k hk1 hk2
          by_cases e:k = m
          · subst e; exact hls
          · have q := asc_lt HR.out.2.2 (show m < k by omega) (by rw [<- HL.out.2]; exact hk2)
            cases e2:Op.bytesLess (gt L k).toList key.toList with
            | false => rfl
            | true =>
              have := less_trans _ _ _ q e2
              rw [hls] at this
              cases this
        go_wp2
        go_roundw
        case rel => exact ⟨i,m,by omega,by omega,rfl,rfl,trivial,H12.out.1,HN.out⟩
        case measure => simp [intOf]; omega
    · have e:i = j := by omega
      subst e
      have HB:Hid (i <= L.length /\ (∀ j,j < i -> Op.bytesLess (gt L j).toList key.toList = true) /\ (∀ j,i <= j -> j < L.length -> Op.bytesLess (gt L j).toList key.toList = false)) := ⟨by rw [<- HR.out.2.1]; exact hjn,H12.out.1,fun j h1 h2 => H12.out.2 j h1 (by rw [HR.out.2.1]; exact h2)⟩
      have HN:Hid (n = L.length) := HR.out.2.1
      have hif:¬ (i:Int) < (i:Int) := by omega
      clear H12 hlt hij
      by_cases hin:i < n
      · have i1:(i:Int) < (n:Int) := by omega
        have i1' : decide ((i:Int) < (n:Int)) = true := decide_eq_true i1
        have i2' : decide (i < n) = true := decide_eq_true hin
        have i0:(0:Int) <= (i:Int) := by omega
        rcases HR.out.1 with q | ⟨bk,ok,rfl,hc⟩
        · omega
        have s1 := hc i hin
        clear hc
        by_cases heq:gt L i = key
        · have HOk:Hid (∀ q:Bool,q = true -> (q = true ↔ i < L.length /\ gt L i = key)) := fun q hq => ⟨fun _ => ⟨by rw [<- HN.out]; exact hin,heq⟩,fun _ => hq⟩
          have hq:((gt L i).toList == key.toList) = true := by rw [heq]; simp
          clear heq
          go_wp2
          refine bodyPost_ret (v := .tuple #[.int .i64 (i:Int),.bool true]) (by simp [results,Tryz.results211,go_sem]) rfl ⟨i,true,rfl,rfl,HB.out.1,HB.out.2.1,HB.out.2.2,HOk.out _ rfl⟩
        · have HOk:Hid (∀ q:Bool,q = false -> (q = true ↔ i < L.length /\ gt L i = key)) := fun q hq => ⟨fun h => (by rw [hq] at h; cases h),fun h => absurd h.2 heq⟩
          have hq:((gt L i).toList == key.toList) = false := by
            rw [beq_eq_false_iff_ne]
            exact fun h => heq (str_inj h)
          clear heq
          go_wp2_with fail
          refine (nanS_any (gt L i) _).mono ?_
          rintro e w1 ⟨rfl,rfl⟩
          go_wp2
          refine bodyPost_ret (v := .tuple #[.int .i64 (i:Int),.bool false]) (by simp [results,Tryz.results211,go_sem]) rfl ⟨i,false,rfl,rfl,HB.out.1,HB.out.2.1,HB.out.2.2,HOk.out _ rfl⟩
      · have i1:¬ (i:Int) < (n:Int) := by omega
        have i1' : decide ((i:Int) < (n:Int)) = false := decide_eq_false i1
        have i2' : decide (i < n) = false := decide_eq_false hin
        have HOk:Hid (∀ q:Bool,q = false -> (q = true ↔ i < L.length /\ gt L i = key)) := fun q hq => ⟨fun h => (by rw [hq] at h; cases h),fun h => absurd h.1 (by rw [<- HN.out]; exact hin)⟩
        go_wp2
        refine bodyPost_ret (v := .tuple #[.int .i64 (i:Int),.bool false]) (by simp [results,Tryz.results211,go_sem]) rfl ⟨i,false,rfl,rfl,HB.out.1,HB.out.2.1,HB.out.2.2,HOk.out _ rfl⟩

def RetKf {d:Nat} (l:List (Ro d)) (key:ByteArray) (w:World) (e:Ending) (w' : World):Prop :=
  ∃ i:Nat,e = .returned (.int .i64 (i:Int)) /\ w' = w /\ i < l.length /\ (∀ h:i < l.length,0 < i -> Op.bytesLess key.toList (gt (keysR d l[i]) 0).toList = false) /\ (∀ h:i + 1 < l.length,Op.bytesLess key.toList (gt (keysR d l[i + 1]) 0).toList = true)

set_option maxHeartbeats 4000000 in
theorem kidFor_any (d b:Nat) (l:List (Ro d)) (S:Nat -> Prop) (h:Nat) (key:ByteArray) (w:World) (ht:TAt S w (d + 1) (.inr l) (.iface 174 (.pointer (some ⟨b,0,none⟩)))) (hb:∀ t,t ∈ l -> BalR d false t h) (hl4:l.length <= 4) :
    Calls Tryz.prog 193 #[.pointer (some ⟨b,0,none⟩),.string key] w (RetKf l key w) := by
  obtain ⟨b',g,kc,xs,e,_,hx,_,_,hl,hc,hk⟩ := ht
  injection e with e1 e
  injection e with e
  injection e with e
  injection e with e e3 e4
  clear e1 e3 e4
  subst e
  have HK:Hid (∀ k (h:k < l.length),∃ u,w.cell? ⟨g,k,none⟩ = some u /\ ((∃ p,u = .iface 204 (.pointer (some p)) /\ Calls Tryz.prog 205 #[.pointer (some p)] w fun e w' => e = .returned (.string (gt (keysR d l[k]) 0)) /\ w' = w) \/ (∃ p,u = .iface 174 (.pointer (some p)) /\ Calls Tryz.prog 188 #[.pointer (some p)] w fun e w' => e = .returned (.string (gt (keysR d l[k]) 0)) /\ w' = w))) := by
    intro k hkl
    obtain ⟨u,hu,ht⟩ := hk k hkl
    refine ⟨u,hc k u hu,?_⟩
    rcases least_call ht (hb _ (List.getElem_mem hkl)) with ⟨p,e,q⟩ | ⟨p,e,q⟩
    · exact Or.inl ⟨p,e,q w (Below.refl _ _)⟩
    · exact Or.inr ⟨p,e,q w (Below.refl _ _)⟩
  have c1 := hx.cell 1
  simp at c1
  obtain ⟨ln,hln⟩:∃ ln,ln = l.length := ⟨_,rfl⟩
  rw [<- hln] at c1 hl hl4
  have HLn:Hid (ln = l.length) := hln
  clear hx hc hk hb hln
  go_enter Tryz.func193,Tryz.ntmps193
  go_wp2
  go_loopw [5] (fun i wr => ∃ k:Nat,k < ln /\ i = .int .i64 k /\ wr = w /\ (∀ h:k + 1 < l.length,Op.bytesLess key.toList (gt (keysR d l[k + 1]) 0).toList = true)) (fun i _ => (intOf i).toNat)
  case atStart => exact ⟨ln - 1,by omega,by congr 1; omega,rfl,fun h => by have := HLn.out; omega⟩
  case round =>
    obtain ⟨k,hk,rfl,rfl,hq⟩ := hrel
    have HQ:Hid (∀ h:k + 1 < l.length,Op.bytesLess key.toList (gt (keysR d l[k + 1]) 0).toList = true) := hq
    clear hq
    have hlk:k < l.length := by rw [<- HLn.out]; exact hk
    by_cases h0:k = 0
    · subst h0
      have HX:Hid (∀ h:0 < l.length,0 < 0 -> Op.bytesLess key.toList (gt (keysR d l[0]) 0).toList = false) := fun _ h => absurd h (Nat.lt_irrefl _)
      go_wp2
      go_ret
      exact ⟨0,rfl,rfl,hlk,HX.out,HQ.out⟩
    · have i0:(0:Int) < (k:Int) := by omega
      have i0' : decide ((0:Int) < (k:Int)) = true := decide_eq_true i0
      have n0:0 < k := by omega
      have n0' : decide (0 < k) = true := decide_eq_true n0
      have ik0:(0:Int) <= (k:Int) := by omega
      have ikl:(k:Int) < (ln:Int) := by omega
      obtain ⟨u,hu,hform⟩ := HK.out k hlk
      have htot := less_total key.toList (gt (keysR d l[k]) 0).toList
      obtain ⟨least,hle⟩:∃ least,gt (keysR d l[k]) 0 = least := ⟨_,rfl⟩
      rw [hle] at hform htot
      have HLe:Hid (gt (keysR d l[k]) 0 = least) := hle
      clear hle
      have HQ2:Hid (Op.bytesLess key.toList least.toList = true -> ∀ h:k - 1 + 1 < l.length,Op.bytesLess key.toList (gt (keysR d l[k - 1 + 1]) 0).toList = true) := by
        intro q h
        have e:k - 1 + 1 = k := by omega
        simp only [e]
        rw [HLe.out]
        exact q
      have HQ3:Hid (Op.bytesLess key.toList least.toList = false -> ∀ h:k < l.length,0 < k -> Op.bytesLess key.toList (gt (keysR d l[k]) 0).toList = false) := fun q _ _ => by rw [HLe.out]; exact q
      cases hls:Op.bytesLess key.toList least.toList with
      | true =>
        rw [hls] at htot
        have ht2:(Op.bytesLess least.toList key.toList || least.toList == key.toList) = false := htot
        have hg:Hid (∀ h:k - 1 + 1 < l.length,Op.bytesLess key.toList (gt (keysR d l[k - 1 + 1]) 0).toList = true) := HQ2.out hls
        clear htot HQ2 HQ3 hls
        rcases hform with ⟨p,rfl,hcall⟩ | ⟨p,rfl,hcall⟩
        · have HC:Hid (Calls Tryz.prog 205 #[.pointer (some p)] wr fun e w' => e = .returned (.string least) /\ w' = wr) := hcall
          clear hcall
          go_wp2_with fail
          refine HC.out.mono ?_
          rintro e w1 ⟨rfl,rfl⟩
          go_wp2
          go_roundw
          case rel => exact ⟨k - 1,by omega,by go_num,trivial,hg.out⟩
          case measure => simp [intOf]; omega
        · have HC:Hid (Calls Tryz.prog 188 #[.pointer (some p)] wr fun e w' => e = .returned (.string least) /\ w' = wr) := hcall
          clear hcall
          go_wp2_with fail
          refine HC.out.mono ?_
          rintro e w1 ⟨rfl,rfl⟩
          go_wp2
          go_roundw
          case rel => exact ⟨k - 1,by omega,by go_num,trivial,hg.out⟩
          case measure => simp [intOf]; omega
      | false =>
        rw [hls] at htot
        have ht2:(Op.bytesLess least.toList key.toList || least.toList == key.toList) = true := htot
        have HG:Hid (∀ h:k < l.length,0 < k -> Op.bytesLess key.toList (gt (keysR d l[k]) 0).toList = false) := HQ3.out hls
        clear htot HQ2 HQ3 hls
        rcases hform with ⟨p,rfl,hcall⟩ | ⟨p,rfl,hcall⟩
        · have HC:Hid (Calls Tryz.prog 205 #[.pointer (some p)] wr fun e w' => e = .returned (.string least) /\ w' = wr) := hcall
          clear hcall
          go_wp2_with fail
          refine HC.out.mono ?_
          rintro e w1 ⟨rfl,rfl⟩
          go_wp2
          go_ret
          exact ⟨k,rfl,rfl,hlk,HG.out,HQ.out⟩
        · have HC:Hid (Calls Tryz.prog 188 #[.pointer (some p)] wr fun e w' => e = .returned (.string least) /\ w' = wr) := hcall
          clear hcall
          go_wp2_with fail
          refine HC.out.mono ?_
          rintro e w1 ⟨rfl,rfl⟩
          go_wp2
          go_ret
          exact ⟨k,rfl,rfl,hlk,HG.out,HQ.out⟩
open Go.RowKit Go.Deep

def Only2 (w w' : World) (b:Nat) (a:Option Addr):Prop := w'.os = w.os /\ w'.tape = w.tape /\ w'.output = w.output /\ w.heap.size <= w'.heap.size /\ ∀ k,k < w.heap.size -> k ≠ b -> a.map (·.block) ≠ some k -> w'.heap[k]? = w.heap[k]?

def RetLi (B b:Nat) (ka:Option Addr) (L:List ByteArray) (key:ByteArray) (w:World) (e:Ending) (w' : World):Prop :=
  (key ∈ L /\ e = .returned (.bool false) /\ w' = w) \/
  (¬ key ∈ L /\ e = .returned (.bool true) /\ Only2 w w' b ka /\ ∃ a' c',Bx w' b 206 #[.int .i64 ((insK key L).length:Int),.slice a' (insK key L).length c'] /\ w'.ownsRow B 9 1 (.slice a' (insK key L).length c') (insK key L).length (strL (insK key L)) /\ (a' = ka \/ ∃ g,a' = some ⟨g,0,none⟩ /\ w.heap.size < g))

set_option maxHeartbeats 2000000 in
theorem leafIns_any (B b n kc:Nat) (ka:Option Addr) (L:List ByteArray) (key:ByteArray) (w:World) (hx:Bx w b 206 #[.int .i64 (n:Int),.slice ka n kc]) (ho:w.ownsRow B 9 1 (.slice ka n kc) n (strL L)) (hn:n = L.length) (hn2:n <= 1000000) (ha:Asc L) (hB:B <= w.heap.size) :
    Calls Tryz.prog 204 #[.pointer (some ⟨b,0,none⟩),.string key] w (RetLi B b ka L key w) := by
  obtain ⟨a6,c6,e6,hrd,hcap6⟩ := ownS_strL ho hn
  injection e6 with e6 e7 e8
  subst e6
  rw [<- hn] at hrd
  have HR:Hid (Bx w b 206 #[.int .i64 (n:Int),.slice ka n kc] /\ w.ownsRow B 9 1 (.slice ka n kc) n (strL L) /\ n = L.length /\ Asc L /\ RdS w ka n (gt L)) := ⟨hx,ho,hn,ha,hrd.rd⟩
  have c0 := hx.cell 0
  have c1 := hx.cell 1
  have f1 := hx.frozen 1
  have hl := hx.lt
  simp at c0 c1
  clear hx ho hn ha hrd hcap6 e7 e8 c6
  go_enter Tryz.func204,Tryz.ntmps204
  go_wp2_with fail
  refine (bs_any ka n kc L key w HR.out.2.2.2.2 HR.out.2.2.1 (by omega) HR.out.2.2.2.1).mono ?_
  rintro e w1 ⟨i,ok,rfl,rfl,h1,h2,h3,h4⟩
  have HC:Hid (cntL key L = i) := cntL_at h1 h2 h3
  have hin:i <= n := by rw [HR.out.2.2.1]; exact h1
  cases ok with
  | true =>
    have HM:Hid (key ∈ L) := by
      show key ∈ L
      obtain ⟨q1,q2⟩ := h4.1 rfl
      rw [<- q2]
      exact gt_mem q1
    clear h1 h2 h3 h4
    go_wp2
    go_ret
    exact .inl ⟨HM.out,rfl,rfl⟩
  | false =>
    have HM:Hid (¬ key ∈ L) := fun hm => by
      obtain ⟨j,hj,e⟩ := List.getElem_of_mem hm
      have eg:gt L j = key := by
        unfold gt
        rw [List.getD_eq_getElem?_getD,List.getElem?_eq_getElem hj]
        exact e
      have hji:¬ j < i := fun q => by
        have := h2 j q
        rw [eg,less_irrefl] at this
        cases this
      by_cases e2:j = i
      · subst e2
        have := h4.2 ⟨hj,eg⟩
        cases this
      · have q1 := asc_lt HR.out.2.2.2.1 (show i < j by omega) hj
        rw [eg] at q1
        have q2 := h3 i (Nat.le_refl _) (by omega)
        rw [q1] at q2
        cases q2
    clear h1 h2 h3 h4
    have HL:Hid (L.take i ++ key :: L.drop i = insK key L) := by
      show L.take i ++ key :: L.drop i = insK key L
      unfold insK
      rw [HC.out]
    have HI:Hid (Calls Tryz.prog 212 #[.slice ka n kc,.int .i64 (i:Int),.slice (some ⟨w1.heap.size,0,none⟩) 1 1] (w1.alloc (.cells #[.string key] 9)) (RetIns B w1 (w1.alloc (.cells #[.string key] 9)) ka (insK key L))) := by
      have q := insS_any B n kc i ka L key w1 HR.out.2.1 HR.out.2.2.1 hin hB (by omega)
      rw [HL.out] at q
      exact q
    have HNE:Hid (ka.map (·.block) ≠ some b) := fun e => by
      rcases HR.out.2.1.2 with ⟨q,_⟩ | ⟨g,cap,cur,q,_,hg,_⟩
      · injection q with q1 _ _
        rw [q1] at e
        cases e
      · injection q with q1 _ _
        rw [q1] at e
        injection e with e
        have hb := HR.out.1
        unfold Bx at hb
        rw [<- e] at hb
        have e2 := hg.symm.trans hb
        injection e2 with e2
        injection e2 with _ e2 _
        exact absurd e2 (by decide)
    go_wp2_with fail
    refine HI.out.mono ?_
    rintro e w2 ⟨a2,c2,rfl,ho2,hg2,ha2⟩
    have hx2:Bx w2 b 206 #[.int .i64 (n:Int),.slice ka n kc] := (HR.out.1.alloc _).grown hg2 HNE.out
    obtain ⟨M,hM⟩:∃ M,M = (insK key L).length := ⟨_,rfl⟩
    rw [<- hM] at ho2 ⊢
    have hMb:M <= 1048576 := by rw [hM,insK_length,<- HR.out.2.2.1]; omega
    have d0 := hx2.cell 0
    have d1 := hx2.cell 1
    have g1 := hx2.frozen 1
    have l2 := hx2.lt
    simp at d0 d1
    have hx3:Bx (w2.setCell ⟨b,1,none⟩ (.slice a2 M c2)) b 206 #[.int .i64 (n:Int),.slice a2 M c2] := by
      have q := hx2.set 1 (.slice a2 M c2)
      simpa using q
    have HX:Hid (Bx (w2.setCell ⟨b,1,none⟩ (.slice a2 M c2)) b 206 #[.int .i64 (n:Int),.slice a2 M c2]) := hx3
    have H2:Hid (w2.ownsRow B 9 1 (.slice a2 M c2) M (strL (insK key L)) /\ (w1.alloc (.cells #[.string key] 9)).grownBy w2 (ka.map (·.block)) /\ (a2 = ka \/ ∃ g,a2 = some ⟨g,0,none⟩ /\ w1.heap.size < g) /\ M = (insK key L).length) := ⟨ho2,hg2,ha2,hM⟩
    clear ho2 hg2 ha2 hM hx2 hx3 c0 c1 f1 HI
    go_wp2_with fail
    refine (recountLeaf_any b M c2 a2 (n:Int) _ HX.out).mono ?_
    rintro e w3 ⟨rfl,rfl⟩
    have HF:Hid (RetLi B b ka L key w1 (.returned (.bool true)) ((w2.setCell ⟨b,1,none⟩ (.slice a2 M c2)).setCell ⟨b,0,none⟩ (.int .i64 (M:Int)))) := by
      obtain ⟨ho,hg,ha,hM⟩ := H2.out
      refine .inr ⟨HM.out,rfl,⟨hg.os,hg.tape,hg.output,?_,fun k hk hkb hka => ?_⟩,a2,c2,?_,?_,ha⟩
      · have q := hg.size
        simp at q
        simp [World.setCell]
        omega
      · rw [Below.heap_setCell _ _ _ _ hkb,Below.heap_setCell _ _ _ _ hkb,hg.block k (by simp; omega) (fun e => hka e.symm)]
        exact (below_alloc _ _).block k hk
      · have q := HX.out.set 0 (.int .i64 (M:Int))
        rw [<- hM]
        simpa using q
      · rw [<- hM]
        have hne:∀ g,(Value.slice a2 M c2).ownBlock = some g -> g ≠ b := fun g e e2 => by
          subst e2
          rcases ho.2 with ⟨q,_⟩ | ⟨g2,cap,cur,q,_,hg2,_⟩
          · rw [q] at e; cases e
          · rw [q] at e
            injection e with e
            have hb := (HR.out.1.alloc (.cells #[.string key] 9)).grown hg HNE.out
            unfold Bx at hb
            simp at e
            rw [<- e] at hb
            have e2 := hg2.symm.trans hb
            injection e2 with e2
            injection e2 with _ e2 _
            exact absurd e2 (by decide)
        refine ⟨ho.1,?_⟩
        rcases ho.2 with q | ⟨g,cap,cur,q1,q2,q3,q4⟩
        · exact .inl q
        · have hgb:g ≠ b := hne g (by rw [q1]; rfl)
          refine .inr ⟨g,cap,cur,q1,q2,?_,q4⟩
          rw [Below.heap_setCell _ _ _ _ hgb,Below.heap_setCell _ _ _ _ hgb]
          exact q3
    go_wp2
    go_ret
    exact HF.out
end Go.Proofs.YtcnollkkigiobaaGreat
