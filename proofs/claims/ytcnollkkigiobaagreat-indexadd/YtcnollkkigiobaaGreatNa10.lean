import Derived.Test.YtcnollkkigiobaaGreatNa9
import Derived.Test.YtcnollkkigiobaaGreatNa4
import Derived.Test.YtcnollkkigiobaaGreatNa6
import Derived.Test.YtcnollkkigiobaaGreatNa2
set_option linter.unusedVariables false
set_option maxRecDepth 100000
namespace Go.Proofs.YtcnollkkigiobaaGreat
open Go.RowKit Go.Deep

theorem late_two {l:List Oper} {P:Program} {Q:Exit -> Act -> World -> Prop} {S:World -> Prop} {late:Nat} (i j:Nat) {oi oj:Oper} (hpi:Pick i l oi) (hpj:Pick j l oj) {fuel:Nat} {listed:Array Bool} {a:Act} {w:World} (hr:Region.ready .any l.toArray listed = [i,j])
    (hi:∀ K' : Act -> World -> Prop,Shut (∀ a w,(i ≠ late -> S w) -> ((i ≠ late -> S w) -> wpLate P .any l.toArray Q S late fuel (listed.setIfInBounds i true) a w) -> K' a w) -> if Region.wanted oi (yielded l.toArray a.tmps) = true then Oper.wp P oi a w K' Q else K' (a.put oi.dst undef) w)
    (hj:∀ K' : Act -> World -> Prop,Shut (∀ a w,(j ≠ late -> S w) -> ((j ≠ late -> S w) -> wpLate P .any l.toArray Q S late fuel (listed.setIfInBounds j true) a w) -> K' a w) -> if Region.wanted oj (yielded l.toArray a.tmps) = true then Oper.wp P oj a w K' Q else K' (a.put oj.dst undef) w) :
    wpLate P .any l.toArray Q S late (fuel + 1) listed a w :=
  ⟨fun h0 => (by rw [hr] at h0; cases h0),fun k hk => by
    rw [hr] at hk
    simp only [List.mem_cons,List.not_mem_nil,or_false] at hk
    rcases hk with rfl | rfl
    · exact wpOp_step hpi.get (fun K' hK => hi K' (fun a w hS hW => hK a w ⟨hS,hW hS⟩))
    · exact wpOp_step hpj.get (fun K' hK => hj K' (fun a w hS hW => hK a w ⟨hS,hW hS⟩))⟩

theorem step_app_strs {w:World} {ops:Array Oper} {o:Oper} {act:Act} {K:Act -> World -> Prop} {Q:Exit -> Act -> World -> Prop} {E:Prop} (hgd:o.guard = none) (s x:Operand)
    (ho:o.op = .call { callee := .builtin .append,args := #[s,x],argTypes := #[88,88] })
    (B:Nat) (v:Value) (n:Nat) (xs:List Value) (hs:act.eval s = v) (hown:w.ownsRow B 9 1 v n xs)
    (a:Option Addr) (m c:Nat) (L:List ByteArray) (hx:act.eval x = .slice a m c) (hm:m = L.length) (hrd:RdS w a m (gt L)) (hnm:n + m <= 1099511627776) (hB:B <= w.heap.size)
    (h:∀ v' w',w'.ownsRow B 9 1 v' (n + m) (xs ++ strL L) -> w.grownBy w' v.ownBlock -> K (act.put o.dst v') w') :
    if Region.wanted o (yielded ops act.tmps) = true then Oper.wp Tryz.prog o act w K Q else E := by
  have hw:Region.wanted o (yielded ops act.tmps) = true := by simp [Region.wanted,hgd]
  rw [if_pos hw]
  obtain ⟨i0,hi,hz0,hz1,hz2⟩ := info_parts Tryz.info9
  by_cases hm0:m = 0
  · subst hm0
    have hL:L = [] := List.length_eq_zero_iff.1 hm.symm
    subst hL
    have hsrc:Src Tryz.prog i0.size 88 (.slice a 0 c) 0 [] w := by
      cases a with
      | none => exact Src.ofNil w Tryz.underlying88 c
      | some ad => exact Src.ofSlice w Tryz.underlying88 ad 0 c [] (by simp) (by simp) (by simp)
    have hsh:∃ b l cap,v = .slice b l cap /\ l <= cap := by
      rcases hown.2 with ⟨rfl,rfl⟩ | ⟨g,cap,cur,rfl,_,_,h1,_⟩
      · exact ⟨none,0,0,rfl,Nat.le_refl _⟩
      · exact ⟨_,n,cap,rfl,h1⟩
    obtain ⟨b,l,cap,hvv,hlc⟩ := hsh
    have hrun := run_append_nothing (P := Tryz.prog) w 88 88 o.type 9 i0 Tryz.underlying88 hi b l cap hlc (.slice a 0 c) hsrc
    rw [<- hvv] at hrun
    unfold Oper.wp
    simp [execOp,ho,resolve,invoke,builtin,hs,hx,hrun,Result.andThen]
    exact h v w (by simpa [strL] using hown) ⟨rfl,rfl,rfl,Nat.le_refl _,fun _ _ _ => rfl⟩
  · rcases hrd with h0 | ⟨b,off,rfl,hc⟩
    · exact absurd h0 hm0
    · refine wp_append_own w s x 88 ho B 9 i0 (.string { data := #[] }) 1 16 Tryz.underlying88 hi hz0 hz1 hz2 rfl (by decide) v n xs hs hown ⟨b,off,none⟩ m c (strL L) hx (by rw [strL_length]; omega) (fun j u hj => ?_) (fun u hu => ?_) (by unfold maxLen; omega) (by omega) hB (fun v' w' h1 h2 _ => h v' w' h1 h2)
      · have hjm:j < m := by
          have := (List.getElem?_eq_some_iff.1 hj).1
          rw [strL_length] at this
          omega
        rw [strL_get L j (by omega)] at hj
        injection hj with hj
        subst hj
        have e:(Addr.add ⟨b,off,none⟩ j) = ⟨b,off + j,none⟩ := by
          unfold Addr.add
          by_cases h:j = 0
          · subst h; simp
          · simp [h]
        rw [e]
        exact hc j hjm
      · unfold strL at hu
        simp only [List.mem_map] at hu
        obtain ⟨i,_,rfl⟩ := hu
        rfl

def kdL (x:Tn):List Int := (List.range x.dn).map x.kd
theorem kdL_length (x:Tn):(kdL x).length = x.dn := by simp [kdL]
theorem gi_kdL (x:Tn) (i:Nat) (h:i < x.dn):gi (kdL x) i = x.kd i := by
  simp [gi,kdL,List.getD_eq_getElem?_getD,h]

theorem step_app_ints {w:World} {ops:Array Oper} {o:Oper} {act:Act} {K:Act -> World -> Prop} {Q:Exit -> Act -> World -> Prop} {E:Prop} (hgd:o.guard = none) (s x:Operand)
    (ho:o.op = .call { callee := .builtin .append,args := #[s,x],argTypes := #[151,151] })
    (B:Nat) (v:Value) (n:Nat) (xs:List Value) (hs:act.eval s = v) (hown:w.ownsRow B 2 1 v n xs)
    (a:Option Addr) (m c:Nat) (L:List Int) (hx:act.eval x = .slice a m c) (hm:m = L.length) (hrd:Rd .i64 w a m (gi L)) (hnm:n + m <= 1099511627776) (hB:B <= w.heap.size)
    (h:∀ v' w',w'.ownsRow B 2 1 v' (n + m) (xs ++ intL L) -> w.grownBy w' v.ownBlock -> K (act.put o.dst v') w') :
    if Region.wanted o (yielded ops act.tmps) = true then Oper.wp Tryz.prog o act w K Q else E := by
  have hw:Region.wanted o (yielded ops act.tmps) = true := by simp [Region.wanted,hgd]
  rw [if_pos hw]
  obtain ⟨i0,hi,hz0,hz1,hz2⟩ := info_parts Tryz.info2
  by_cases hm0:m = 0
  · subst hm0
    have hL:L = [] := List.length_eq_zero_iff.1 hm.symm
    subst hL
    have hsrc:Src Tryz.prog i0.size 151 (.slice a 0 c) 0 [] w := by
      cases a with
      | none => exact Src.ofNil w Tryz.underlying151 c
      | some ad => exact Src.ofSlice w Tryz.underlying151 ad 0 c [] (by simp) (by simp) (by simp)
    have hsh:∃ b l cap,v = .slice b l cap /\ l <= cap := by
      rcases hown.2 with ⟨rfl,rfl⟩ | ⟨g,cap,cur,rfl,_,_,h1,_⟩
      · exact ⟨none,0,0,rfl,Nat.le_refl _⟩
      · exact ⟨_,n,cap,rfl,h1⟩
    obtain ⟨b,l,cap,hvv,hlc⟩ := hsh
    have hrun := run_append_nothing (P := Tryz.prog) w 151 151 o.type 2 i0 Tryz.underlying151 hi b l cap hlc (.slice a 0 c) hsrc
    rw [<- hvv] at hrun
    unfold Oper.wp
    simp [execOp,ho,resolve,invoke,builtin,hs,hx,hrun,Result.andThen]
    exact h v w (by simpa [intL] using hown) ⟨rfl,rfl,rfl,Nat.le_refl _,fun _ _ _ => rfl⟩
  · rcases hrd with h0 | ⟨b,off,rfl,hc⟩
    · exact absurd h0 hm0
    · refine wp_append_own w s x 151 ho B 2 i0 (.int .i64 0) 1 8 Tryz.underlying151 hi hz0 hz1 hz2 rfl (by decide) v n xs hs hown ⟨b,off,none⟩ m c (intL L) hx (by rw [intL_length]; omega) (fun j u hj => ?_) (fun u hu => ?_) (by unfold maxLen; omega) (by omega) hB (fun v' w' h1 h2 _ => h v' w' h1 h2)
      · have hjm:j < m := by
          have := (List.getElem?_eq_some_iff.1 hj).1
          rw [intL_length] at this
          omega
        rw [intL_get L j (by omega)] at hj
        injection hj with hj
        subst hj
        have e:(Addr.add ⟨b,off,none⟩ j) = ⟨b,off + j,none⟩ := by
          unfold Addr.add
          by_cases h:j = 0
          · subst h; simp
          · simp [h]
        rw [e]
        exact hc j hjm
      · unfold intL at hu
        simp only [List.mem_map] at hu
        obtain ⟨i,_,rfl⟩ := hu
        rfl

theorem own_other {w w' : World} {b1 b2:Nat} {e1 e2:TypeId} {s1 s2:Nat} {v1 v2:Value} {n1 n2:Nat} {x1 x2:List Value} (h1:w.ownsRow b1 e1 s1 v1 n1 x1) (h2:w.ownsRow b2 e2 s2 v2 n2 x2) (he:e1 ≠ e2) (hg:w.grownBy w' v2.ownBlock):w'.ownsRow b1 e1 s1 v1 n1 x1 := by
  have hne := own_ne h1 h2 he
  refine ⟨h1.1,?_⟩
  rcases h1.2 with q | ⟨g,cap,cur,q1,q2,q3,q4⟩
  · exact Or.inl q
  · refine Or.inr ⟨g,cap,cur,q1,q2,?_,q4⟩
    rw [hg.block g (Array.getElem?_eq_some_iff.1 q3).1 (fun e => hne g (by rw [q1]; rfl) e.symm)]
    exact q3

theorem ownS_rdX {w:World} {B n:Nat} {v:Value} {L:List ByteArray} (h:w.ownsRow B 9 1 v n (strL L)) (hn:n = L.length) (X:Nat -> ByteArray) (hX:∀ i,i < n -> gt L i = X i):∃ a c,v = .slice a n c /\ ∀ S:Nat -> Prop,(∀ b,v.ownBlock = some b -> S b) -> RdX S w a n (fun i => .string (X i)) := by
  obtain ⟨a,c,rfl,hf⟩ := own_form h
  refine ⟨a,c,rfl,fun S hS => ?_⟩
  by_cases h0:n = 0
  · exact Or.inl h0
  · obtain ⟨g,rfl,_,hg2,hg3⟩ := hf h0
    exact Or.inr ⟨g,rfl,hS g rfl,hg2,fun i hi => by show _ = some (Value.string (X i)); rw [<- hX i hi]; exact hg3 i _ (strL_get L i (by omega))⟩
theorem ownI_rdX {w:World} {B n:Nat} {v:Value} {L:List Int} (h:w.ownsRow B 2 1 v n (intL L)) (hn:n = L.length) (X:Nat -> Int) (hX:∀ i,i < n -> gi L i = X i):∃ a c,v = .slice a n c /\ ∀ S:Nat -> Prop,(∀ b,v.ownBlock = some b -> S b) -> RdX S w a n (fun i => .int .i64 (X i)) := by
  obtain ⟨a,c,rfl,hf⟩ := own_form h
  refine ⟨a,c,rfl,fun S hS => ?_⟩
  by_cases h0:n = 0
  · exact Or.inl h0
  · obtain ⟨g,rfl,_,hg2,hg3⟩ := hf h0
    exact Or.inr ⟨g,rfl,hS g rfl,hg2,fun i hi => by show _ = some (Value.int .i64 (X i)); rw [<- hX i hi]; exact hg3 i _ (intL_get L i (by omega))⟩

theorem step_app_node {w:World} {ops:Array Oper} {o:Oper} {act:Act} {K:Act -> World -> Prop} {Q:Exit -> Act -> World -> Prop} {E:Prop} (hgd:o.guard = none) (s x:Operand)
    (ho:o.op = .call { callee := .builtin .append,args := #[s,x],argTypes := #[57,57] })
    (B:Nat) (v:Value) (n:Nat) (xs:List Value) (hs:act.eval s = v) (hown:w.ownsRow B 168 4 v n xs)
    (g c:Nat) (v0 v1 v2 v3:Value) (hx:act.eval x = .slice (some ⟨g,0,none⟩) 1 c) (hc:∀ j u,[v0,v1,v2,v3][j]? = some u -> w.cell? ⟨g,j,none⟩ = some u) (h1:∀ u ∈ [v0,v1,v2,v3],u.oneCell' = true) (hnm:n <= 1048576) (hB:B <= w.heap.size)
    (h:∀ v' w',w'.ownsRow B 168 4 v' (n + 1) (xs ++ [v0,v1,v2,v3]) -> w.grownBy w' v.ownBlock -> (v'.ownBlock = v.ownBlock \/ v'.ownBlock = some w.heap.size) -> K (act.put o.dst v') w') :
    if Region.wanted o (yielded ops act.tmps) = true then Oper.wp Tryz.prog o act w K Q else E := by
  have hw:Region.wanted o (yielded ops act.tmps) = true := by simp [Region.wanted,hgd]
  rw [if_pos hw]
  obtain ⟨i0,hi,hz0,hz1,hz2⟩ := info_parts Tryz.info168
  obtain ⟨v',w',hr,h2,h3,h4,h5⟩ := run_append_own_at (P := Tryz.prog) w B 57 o.type 168 i0 _ 4 64 Tryz.underlying57 hi hz0 hz1 hz2 rfl (by decide) v n xs hown ⟨g,0,none⟩ 1 c [v0,v1,v2,v3] rfl (fun j u hj => by
    have e:(Addr.add ⟨g,0,none⟩ j) = ⟨g,j,none⟩ := by
      unfold Addr.add
      by_cases h:j = 0
      · subst h; simp
      · simp [h]
    rw [e]
    exact hc j u hj) h1 (by unfold maxLen; omega) (by omega) hB
  unfold Oper.wp execOp
  simp only [ho,resolve,invoke,builtin,Sem.run_bind,Sem.run_pure,Result.andThen_ok,List.map_toArray,List.map_cons,List.map_nil,hs,hx,hr]
  exact h v' w' h2 h3 h5
open Go.RowKit Go.Deep

def RetTl (w:World) (B:Nat) (v:Value) (n:Nat) (N:Nat -> Tn) (KA DA:Nat -> Option Addr) (m:Nat) (P:(Nat -> Tn) -> Prop) (e:Ending) (w' : World):Prop :=
  ∃ v' N' KA' DA' KC' DC',e = .returned v' /\ GT w' B v' (n + m) N' KA' DA' KC' DC' /\ w.grownBy w' v.ownBlock /\ (v'.ownBlock = v.ownBlock \/ ∃ g,v'.ownBlock = some g /\ w.heap.size <= g) /\ (∀ i,i < n -> N' i = N i /\ KA' i = KA i /\ DA' i = DA i) /\
    (∀ i,n <= i -> i < n + m -> ((N' i).kn ≠ 0 -> ∃ g,KA' i = some ⟨g,0,none⟩ /\ w.heap.size <= g) /\ ((N' i).dn ≠ 0 -> ∃ g,DA' i = some ⟨g,0,none⟩ /\ w.heap.size <= g)) /\ P N'

theorem own_ownS {w:World} {B n c:Nat} {a:Option Addr} {L:List ByteArray} (h:w.ownsRow B 9 1 (.slice a n c) n (strL L)) (hn:n = L.length):OwnS w B a n (gt L) := by
  obtain ⟨a',c',e,q,_⟩ := ownS_strL h hn
  injection e with e
  subst e
  rw [hn]
  exact q

theorem GT.more {w w1 w' : World} {B:Nat} {ra:Option Addr} {rc:Nat} {v' : Value} {n:Nat} {N:Nat -> Tn} {KA DA:Nat -> Option Addr} {KC DC:Nat -> Nat} (h:GT w B (.slice ra n rc) n N KA DA KC DC) (hB:B <= w.heap.size) (hb:Below w.heap.size w w1) (x:Tn) (ka da:Option Addr) (kc dc:Nat) (hk:OwnS w1 w.heap.size ka x.kn x.ks) (hd:OwnI w1 w.heap.size da x.dn x.kd)
    (ho:w'.ownsRow B 168 4 v' (n + 1) ((List.range (n * 4)).map (tnCell N KA DA KC DC) ++ [.bool x.lf,.slice ka x.kn kc,.slice da x.dn dc,.int .i64 x.ct])) {O:Obj} (hg:(w1.alloc O).grownBy w' (Value.slice ra n rc).ownBlock) (hat:v'.ownBlock = (Value.slice ra n rc).ownBlock \/ v'.ownBlock = some (w1.alloc O).heap.size) {P:(Nat -> Tn) -> Prop} (hP:P (fun i => if i = n then x else N i)) :
    RetTl w B (.slice ra n rc) n N KA DA 1 P (.returned v') w' := by
  have hs := hb.size
  have hbA:Below w.heap.size w (w1.alloc O) := hb.alloc hs O
  have newK:x.kn ≠ 0 -> ∃ g,ka = some ⟨g,0,none⟩ /\ w.heap.size <= g := fun h0 => by
    obtain ⟨g,e,hg,_⟩ := hk.resolve_left h0
    exact ⟨g,e,hg⟩
  have newD:x.dn ≠ 0 -> ∃ g,da = some ⟨g,0,none⟩ /\ w.heap.size <= g := fun h0 => by
    obtain ⟨g,e,hg,_⟩ := hd.resolve_left h0
    exact ⟨g,e,hg⟩
  have gt1 := (h.below hbA).push x ka da kc dc ((hk.below (below_alloc _ _)).mono hB) ((hd.below (below_alloc _ _)).mono hB) (fun i hi h1 h2 e => by
      obtain ⟨g,e2,hg2⟩ := newK h2
      have := (h.used (.inr (.inl ⟨i,hi,h1,by rw [e,e2]⟩))).2
      omega) (fun i hi h1 h2 e => by
      obtain ⟨g,e2,hg2⟩ := newD h2
      have := (h.used (.inr (.inr ⟨i,hi,h1,by rw [e,e2]⟩))).2
      omega) ho hg
  refine ⟨v',_,_,_,_,_,rfl,gt1,⟨hg.os.trans hbA.os,hg.tape.trans hbA.tape,hg.output.trans hbA.output,by have := hg.size; have := hbA.size; omega,fun k hk hne => (hg.block k (by have := hbA.size; omega) hne).trans (hbA.block k hk)⟩,?_,fun i hi => ?_,fun i h1 h2 => ?_,hP⟩
  · rcases hat with e | e
    · exact .inl e
    · exact .inr ⟨_,e,hbA.size⟩
  · have:i ≠ n := by omega
    simp only [this,if_false]
    exact ⟨trivial,trivial,trivial⟩
  · have:i = n := by omega
    subst this
    simp only [if_true]
    exact ⟨newK,newD⟩

set_option maxHeartbeats 8000000 in
theorem tellLeaf_any (d b:Nat) (t:List ByteArray) (S:Nat -> Prop) (w:World) (h:TAo S w (d + 1) (.inl t) (.iface 204 (.pointer (some ⟨b,0,none⟩)))) (B n rc:Nat) (ra:Option Addr) (N:Nat -> Tn) (KA DA:Nat -> Option Addr) (KC DC:Nat -> Nat) (hg:GT w B (.slice ra n rc) n N KA DA KC DC) (hB:B <= w.heap.size) (ht:t.length <= 1000) (hn:n <= 100000) :
    Calls Tryz.prog 209 #[.pointer (some ⟨b,0,none⟩),.slice ra n rc] w (RetTl w B (.slice ra n rc) n N KA DA 1 (fun N' => Tells N' 0 (d + 1) (.inl t) n)) := by
  obtain ⟨b',ka,kc,e,_,hx,hcap,hr⟩ := h
  injection e with _ e
  injection e with e
  injection e with e
  injection e with e
  subst e
  obtain ⟨m,hm⟩:∃ m,m = t.length := ⟨_,rfl⟩
  rw [<- hm] at hx hr hcap ht
  have HX:Hid (Bx w b 206 #[.int .i64 (m:Int),.slice ka m kc] /\ RdS w ka m (gt t)) := ⟨hx,hr.rdS⟩
  have HM:Hid (m = t.length) := hm
  have HG:Hid (GT w B (.slice ra n rc) n N KA DA KC DC) := hg
  have HCp:Hid (Calls Tryz.prog 119 #[.slice ka m kc] w.drew fun e w' => ∃ a' c',e = .returned (.slice a' m c') /\ w'.ownsRow w.drew.heap.size 9 1 (.slice a' m c') m (strL t) /\ Below w.drew.heap.size w.drew w') := copyStrs_any ka m kc t w.drew (hr.rdS.below (Below.refl _ _).drew) hm (by omega)
  have c0:w.drew.cell? ⟨b,0,none⟩ = some (.int .i64 (m:Int)) := by have := hx.cell 0; simpa using this
  have c1:w.drew.cell? ⟨b,1,none⟩ = some (.slice ka m kc) := by have := hx.cell 1; simpa using this
  have cz := hx.lt
  clear hx hr hg hm hcap
  go_enter Tryz.func209,Tryz.ntmps209
  go_upto_region 1 with fail
  refine wp_region_late (S := fun w' => w'.cell? ⟨b,0,none⟩ = some (.int .i64 (m:Int)) /\ w'.cell? ⟨b,1,none⟩ = some (.slice ka m kc)) 13 (by kernel_rfl) ⟨c0,c1⟩ (fun hHeld => ?_)
  refine late_take 0 .zero (v := ?_) (by kernel_rfl) (by kernel_rfl) (by kernel_rfl) (by kernel_rfl) (fun _ _ _ h => h) (by rfl) ?_ (by assumption) ?_
  rotate_left
  · (intro w hSw; (try dsimp only at hSw); go_simp) <;> with_reducible rfl
  simp only [Act.put,List.setIfInBounds_toArray,List.set_cons_zero,List.set_cons_succ]
  refine late_take 1 (.succ .zero) (v := ?_) (by kernel_rfl) (by kernel_rfl) (by kernel_rfl) (by kernel_rfl) (fun _ _ _ h => h) (by rfl) ?_ (by assumption) ?_
  rotate_left
  · (intro w hSw; (try dsimp only at hSw); go_simp) <;> with_reducible rfl
  simp only [Act.put,List.setIfInBounds_toArray,List.set_cons_zero,List.set_cons_succ]
  refine late_take 2 (.succ (.succ .zero)) (v := ?_) (by kernel_rfl) (by kernel_rfl) (by kernel_rfl) (by kernel_rfl) (fun _ _ _ h => h) (by rfl) ?_ (by assumption) ?_
  rotate_left
  · (intro w hSw; (try dsimp only at hSw); go_simp) <;> with_reducible rfl
  simp only [Act.put,List.setIfInBounds_toArray,List.set_cons_zero,List.set_cons_succ]
  refine late_take 3 (.succ (.succ (.succ .zero))) (v := ?_) (by kernel_rfl) (by kernel_rfl) (by kernel_rfl) (by kernel_rfl) (fun _ _ _ h => h) (by rfl) ?_ (by assumption) ?_
  rotate_left
  · (intro w hSw; (try dsimp only at hSw); go_simp) <;> with_reducible rfl
  simp only [Act.put,List.setIfInBounds_toArray,List.set_cons_zero,List.set_cons_succ]
  refine late_take 4 (.succ (.succ (.succ (.succ .zero)))) (v := ?_) (by kernel_rfl) (by kernel_rfl) (by kernel_rfl) (by kernel_rfl) (fun _ _ _ h => h) (by rfl) ?_ (by assumption) ?_
  rotate_left
  · (intro w hSw; (try dsimp only at hSw); go_simp) <;> with_reducible rfl
  simp only [Act.put,List.setIfInBounds_toArray,List.set_cons_zero,List.set_cons_succ]
  refine late_take 6 (.succ (.succ (.succ (.succ (.succ (.succ .zero)))))) (v := ?_) (by kernel_rfl) (by kernel_rfl) (by kernel_rfl) (by kernel_rfl) (fun _ _ _ h => h) (by rfl) ?_ (by assumption) ?_
  rotate_left
  · (intro w hSw; (try dsimp only at hSw); go_simp) <;> with_reducible rfl
  simp only [Act.put,List.setIfInBounds_toArray,List.set_cons_zero,List.set_cons_succ]
  refine late_take 7 (.succ (.succ (.succ (.succ (.succ (.succ (.succ .zero))))))) (v := ?_) (by kernel_rfl) (by kernel_rfl) (by kernel_rfl) (by kernel_rfl) (fun _ _ _ h => h) (by rfl) ?_ (by assumption) ?_
  rotate_left
  · (intro w hSw; (try dsimp only at hSw); go_simp) <;> with_reducible rfl
  simp only [Act.put,List.setIfInBounds_toArray,List.set_cons_zero,List.set_cons_succ]
  refine late_take 8 (.succ (.succ (.succ (.succ (.succ (.succ (.succ (.succ .zero)))))))) (v := ?_) (by kernel_rfl) (by kernel_rfl) (by kernel_rfl) (by kernel_rfl) (fun _ _ _ h => h) (by rfl) ?_ (by assumption) ?_
  rotate_left
  · (intro w hSw; (try dsimp only at hSw); go_simp) <;> with_reducible rfl
  simp only [Act.put,List.setIfInBounds_toArray,List.set_cons_zero,List.set_cons_succ]
  refine late_one 5 (.succ (.succ (.succ (.succ (.succ .zero))))) (by kernel_rfl) (fun K hK => ?_)
  refine step_t1 (by rfl) 119 9 _ (by rfl) (.slice ka m kc) (by rfl) (fun _ _ => by rfl) ?_
  (with_reducible refine HCp.out.mono ?_)
  rintro e w1 ⟨a1,c1',rfl,ho1,hb1⟩
  refine ⟨_,rfl,?_⟩
  have H1:Hid (w1.ownsRow w.heap.size 9 1 (.slice a1 m c1') m (strL t) /\ Below w.heap.size w w1) := ⟨ho1,below_undrew hb1⟩
  have d0:w1.cell? ⟨b,0,none⟩ = some (.int .i64 (m:Int)) := (H1.out.2.cell (p := ⟨b,0,none⟩) cz).trans c0
  have d1:w1.cell? ⟨b,1,none⟩ = some (.slice ka m kc) := (H1.out.2.cell (p := ⟨b,1,none⟩) cz).trans c1
  clear ho1 hb1
  refine hK.out _ _ ?_ (fun hHeld2 => ?_)
  · (intro _; exact ⟨d0,d1⟩)
  clear hK K
  replace hHeld := hHeld2 (by decide)
  clear hHeld2
  try simp only [Act.put,List.setIfInBounds_toArray,List.set_cons_zero,List.set_cons_succ]
  refine late_one 9 (.succ (.succ (.succ (.succ (.succ (.succ (.succ (.succ (.succ .zero))))))))) (by kernel_rfl) (fun K hK => ?_)
  refine step_t1 (by rfl) 157 13 _ (by rfl) (.pointer (some ⟨b,0,none⟩)) (by rfl) (fun _ _ => by rfl) ?_
  refine (below_any b (m:Int) w1 d0).mono ?_
  rintro e w2 ⟨rfl,hw2⟩
  subst hw2
  refine ⟨_,rfl,?_⟩
  refine hK.out _ _ ?_ (fun hHeld2 => ?_)
  · (intro _; exact ⟨d0,d1⟩)
  clear hK K
  replace hHeld := hHeld2 (by decide)
  clear hHeld2
  try simp only [Act.put,List.setIfInBounds_toArray,List.set_cons_zero,List.set_cons_succ]
  refine late_one 10 (.succ (.succ (.succ (.succ (.succ (.succ (.succ (.succ (.succ (.succ .zero)))))))))) (by kernel_rfl) (fun K hK => ?_)
  go_simp
  refine hK.out _ _ ?_ (fun hHeld2 => ?_)
  · (intro _; exact hHeld)
  clear hK K
  replace hHeld := hHeld2 (by decide)
  clear hHeld2
  try simp only [Act.put,List.setIfInBounds_toArray,List.set_cons_zero,List.set_cons_succ]
  refine late_one 11 (.succ (.succ (.succ (.succ (.succ (.succ (.succ (.succ (.succ (.succ (.succ .zero))))))))))) (by kernel_rfl) (fun K hK => ?_)
  go_simp
  refine hK.out _ _ ?_ (fun hHeld2 => ?_)
  · (intro _; exact ⟨((below_alloc w2 _).cell (p := ⟨b,0,none⟩) (by have := H1.out.2.size; show b < w2.heap.size; omega)).trans d0,((below_alloc w2 _).cell (p := ⟨b,1,none⟩) (by have := H1.out.2.size; show b < w2.heap.size; omega)).trans d1⟩)
  clear hK K
  replace hHeld := hHeld2 (by decide)
  clear hHeld2
  try simp only [Act.put,List.setIfInBounds_toArray,List.set_cons_zero,List.set_cons_succ]
  refine late_one 12 (.succ (.succ (.succ (.succ (.succ (.succ (.succ (.succ (.succ (.succ (.succ (.succ .zero)))))))))))) (by kernel_rfl) (fun K hK => ?_)
  refine step_app_node (by rfl) (.tmp 5) (.tmp 16) (by rfl) B (.slice ra n rc) n _ (by rfl) (own_below (own_below HG.out.row H1.out.2) (below_alloc _ _)) w2.heap.size 1 (.bool true) (.slice a1 m c1') (.slice none 0 0) (.int .i64 (m:Int)) (by rfl) (fun j u hj => by rw [(Bx.new w2 #[.bool true,.slice a1 m c1',.slice none 0 0,.int .i64 (m:Int)] 168).cell j]; simpa using hj) (by intro u hu; simp at hu; rcases hu with rfl | rfl | rfl | rfl <;> rfl) (by omega) (by have := H1.out.2.size; simp; omega) ?_
  intro v3 w3 ho3 hg3 hat3
  have HR:Hid (RetTl w B (.slice ra n rc) n N KA DA 1 (fun N' => Tells N' 0 (d + 1) (.inl t) n) (.returned v3) w3) := by
    refine GT.more HG.out hB H1.out.2 ⟨true,m,gt t,0,fun _ => 0,(m:Int)⟩ a1 none c1' 0 (own_ownS H1.out.1 HM.out) (.inl rfl) ho3 hg3 hat3 ?_
    refine ⟨by simp,by simp; exact HM.out,fun j hj => by simp,by simp,by simp; rw [<- HM.out]⟩
  have k3:w3.cell? ⟨b,0,none⟩ = some (.int .i64 (m:Int)) /\ w3.cell? ⟨b,1,none⟩ = some (.slice ka m kc) := by
    have bx:rowIn w2 b 206 0 (fun _ => undef) := by
      have q := HX.out.1.below H1.out.2
      exact ⟨_,q,Nat.zero_le _,fun i hi => absurd hi (Nat.not_lt_zero _)⟩
    have hne := row_not (own_below HG.out.row H1.out.2) bx (by decide)
    have q := ((HX.out.1.below H1.out.2).alloc (.cells #[.bool true,.slice a1 m c1',.slice none 0 0,.int .i64 (m:Int)] 168)).grown hg3 hne
    exact ⟨by simpa using q.cell 0,by simpa using q.cell 1⟩
  clear ho3 hg3 hat3
  refine hK.out _ _ ?_ (fun hHeld2 => ?_)
  · (intro _; exact k3)
  clear hK K
  replace hHeld := hHeld2 (by decide)
  clear hHeld2
  try simp only [Act.put,List.setIfInBounds_toArray,List.set_cons_zero,List.set_cons_succ]
  refine late_one 13 (.succ (.succ (.succ (.succ (.succ (.succ (.succ (.succ (.succ (.succ (.succ (.succ (.succ .zero))))))))))))) (by kernel_rfl) (fun K hK => ?_)
  go_simp
  refine hK.out _ _ ?_ (fun hHeld2 => ?_)
  · (intro hne; exact absurd rfl hne)
  clear hK K hHeld2
  refine wpLate_done (by kernel_rfl) ?_ _
  go_wp2
  go_ret
  exact HR.out
open Go.RowKit Go.Deep

theorem wpList_append_ints {w:World} {ops:Array Oper} {rest:List Oper} {o:Oper} {act:Act} {Q:Exit -> Act -> World -> Prop} (hgd:o.guard = none) (s x:Operand)
    (ho:o.op = .call { callee := .builtin .append,args := #[s,x],argTypes := #[151,151] })
    (B:Nat) (v:Value) (n:Nat) (xs:List Value) (hs:act.eval s = v) (hown:w.ownsRow B 2 1 v n xs)
    (a:Option Addr) (m c:Nat) (L:List Int) (hx:act.eval x = .slice a m c) (hm:m = L.length) (hrd:Rd .i64 w a m (gi L)) (hnm:n + m <= 1099511627776) (hB:B <= w.heap.size)
    (h:∀ v' w',w'.ownsRow B 2 1 v' (n + m) (xs ++ intL L) -> w.grownBy w' v.ownBlock -> (v'.ownBlock = v.ownBlock \/ v'.ownBlock = some w.heap.size) -> wpList Tryz.prog ops Q rest (act.put o.dst v') w'):wpList Tryz.prog ops Q (o :: rest) act w := by
  obtain ⟨i0,hi,hz0,hz1,hz2⟩ := info_parts Tryz.info2
  by_cases hm0:m = 0
  · subst hm0
    have hL:L = [] := List.length_eq_zero_iff.1 hm.symm
    subst hL
    have hsrc:Src Tryz.prog i0.size 151 (.slice a 0 c) 0 [] w := by
      cases a with
      | none => exact Src.ofNil w Tryz.underlying151 c
      | some ad => exact Src.ofSlice w Tryz.underlying151 ad 0 c [] (by simp) (by simp) (by simp)
    have hsh:∃ b l cap,v = .slice b l cap /\ l <= cap := by
      rcases hown.2 with ⟨rfl,rfl⟩ | ⟨g,cap,cur,rfl,_,_,h1,_⟩
      · exact ⟨none,0,0,rfl,Nat.le_refl _⟩
      · exact ⟨_,n,cap,rfl,h1⟩
    obtain ⟨b,l,cap,hvv,hlc⟩ := hsh
    have hrun := run_append_nothing (P := Tryz.prog) w 151 151 o.type 2 i0 Tryz.underlying151 hi b l cap hlc (.slice a 0 c) hsrc
    rw [<- hvv] at hrun
    refine wpList_plain hgd fun K hK => ?_
    unfold Oper.wp
    simp [execOp,ho,resolve,invoke,builtin,hs,hx,hrun,Result.andThen]
    exact hK _ _ (h v w (by simpa [intL] using hown) ⟨rfl,rfl,rfl,Nat.le_refl _,fun _ _ _ => rfl⟩ (Or.inl rfl))
  · rcases hrd with h0 | ⟨b,off,rfl,hc⟩
    · exact absurd h0 hm0
    · refine wpList_append_own_at w hgd s x 151 ho B 2 i0 (.int .i64 0) 1 8 Tryz.underlying151 hi hz0 hz1 hz2 rfl (by decide) v n xs hs hown ⟨b,off,none⟩ m c (intL L) hx (by rw [intL_length]; omega) (fun j u hj => ?_) (fun u hu => ?_) (by unfold maxLen; omega) (by omega) hB (fun v' w' h1 h2 _ h4 => h v' w' h1 h2 h4)
      · have hjm:j < m := by
          have := (List.getElem?_eq_some_iff.1 hj).1
          rw [intL_length] at this
          omega
        rw [intL_get L j (by omega)] at hj
        injection hj with hj
        subst hj
        have e:(Addr.add ⟨b,off,none⟩ j) = ⟨b,off + j,none⟩ := by
          unfold Addr.add
          by_cases h:j = 0
          · subst h; simp
          · simp [h]
        rw [e]
        exact hc j hjm
      · simp only [intL,List.mem_map] at hu
        obtain ⟨i,_,rfl⟩ := hu
        rfl

set_option maxHeartbeats 400000 in
theorem copyInts_any (a:Option Addr) (n c:Nat) (L:List Int) (w:World) (h:Rd .i64 w a n (gi L)) (hn:n = L.length) (hn2:n <= 1048576) :
    Calls Tryz.prog 120 #[.slice a n c] w fun e w' => ∃ a' c',e = .returned (.slice a' n c') /\ w'.ownsRow w.heap.size 2 1 (.slice a' n c') n (intL L) /\ Below w.heap.size w w' := by
  have HR:Hid (Rd .i64 w a n (gi L) /\ n = L.length) := ⟨h,hn⟩
  clear h hn
  go_enter Tryz.func120,Tryz.ntmps120
  go_wp2_with (at_builtin; refine wpList_append_ints rfl _ _ rfl w.heap.size (.slice none 0 0) 0 [] rfl (World.ownsRow_nil _ _ _ _) a n c L rfl HR.out.2 HR.out.1 (by omega) (Nat.le_refl _) ?_)
  intro v' w' ho hg hat
  have HB:Hid (Below w.heap.size w w') := (Below.refl _ _).grown hg (Nat.le_refl _) (fun k e => by simp [Value.ownBlock] at e)
  obtain ⟨a',c',rfl,_⟩ := own_form ho
  have HO:Hid (w'.ownsRow w.heap.size 2 1 (.slice a' n c') n (intL L)) := ho
  clear ho hg hat
  go_wp2
  go_ret
  exact ⟨a',c',rfl,HO.out,HB.out⟩

theorem own_ownI {w:World} {B n c:Nat} {a:Option Addr} {L:List Int} (h:w.ownsRow B 2 1 (.slice a n c) n (intL L)) (hn:n = L.length) (X:Nat -> Int) (hX:∀ i,i < n -> gi L i = X i):OwnI w B a n X := by
  by_cases h0:n = 0
  · exact .inl h0
  · rcases h.2 with ⟨_,q⟩ | ⟨g,cap,cur,q1,q2,q3,q4,q5,q6,q7⟩
    · exact absurd q h0
    · injection q1 with q1
      refine .inr ⟨g,q1,q2,cur,q3,by omega,fun i hi => ?_⟩
      have q8:(cur.toList.take (n * 1))[i]? = (intL L)[i]? := by rw [q7]
      rw [List.getElem?_take,if_pos (by omega),Array.getElem?_toList,intL_get L i (by omega),hX i hi] at q8
      exact q8

theorem GT.congr {w:World} {B:Nat} {v:Value} {n:Nat} {N N' : Nat -> Tn} {KA DA:Nat -> Option Addr} {KC DC:Nat -> Nat} (h:GT w B v n N KA DA KC DC) (e:∀ i,i < n -> N i = N' i):GT w B v n N' KA DA KC DC := by
  refine ⟨?_,fun i hi => by rw [<- e i hi]; exact h.keys i hi,fun i hi => by rw [<- e i hi]; exact h.kids i hi,fun i j hi hj hij h1 h2 => h.apartK i j hi hj hij (by rw [e i hi]; exact h1) (by rw [e j hj]; exact h2),fun i j hi hj hij h1 h2 => h.apartD i j hi hj hij (by rw [e i hi]; exact h1) (by rw [e j hj]; exact h2)⟩
  have q:(List.range (n * 4)).map (tnCell N' KA DA KC DC) = (List.range (n * 4)).map (tnCell N KA DA KC DC) := List.map_congr_left (fun c hc => by
    have hc' : c < n * 4 := List.mem_range.1 hc
    unfold tnCell
    rw [e (c / 4) (by omega)])
  rw [q]
  exact h.row

theorem GT.nil (w:World) (B:Nat) (N:Nat -> Tn) (KA DA:Nat -> Option Addr) (KC DC:Nat -> Nat):GT w B (.slice none 0 0) 0 N KA DA KC DC :=
  ⟨⟨rfl,.inl ⟨rfl,rfl⟩⟩,fun i hi => absurd hi (Nat.not_lt_zero _),fun i hi => absurd hi (Nat.not_lt_zero _),fun i j hi => absurd hi (Nat.not_lt_zero _),fun i j hi => absurd hi (Nat.not_lt_zero _)⟩

theorem own_mono {w:World} {B B' : Nat} {e:TypeId} {size:Nat} {v:Value} {n:Nat} {xs:List Value} (h:w.ownsRow B e size v n xs) (hB:B' <= B):w.ownsRow B' e size v n xs := by
  refine ⟨h.1,?_⟩
  rcases h.2 with q | ⟨g,cap,cur,q1,q2,q3⟩
  · exact .inl q
  · exact .inr ⟨g,cap,cur,q1,by omega,q3⟩

def RetOt (w:World) (n:Nat) (N:Nat -> Tn) (e:Ending) (w' : World):Prop :=
  Below w.heap.size w w' /\ ∃ a c KA DA KC DC,e = .returned (.agg #[.slice a n c]) /\ GT w' (w.heap.size + 1) (.slice a n c) n N KA DA KC DC

set_option maxHeartbeats 8000000 in
theorem copyI_any (a:Option Addr) (n c:Nat) (N:Nat -> Tn) (w:World) (h:RdTn w a n N) (hn:n <= 1048576) (hN:∀ i,i < n -> TnFit (N i)) :
    Calls Tryz.prog 85 #[.agg #[.slice a n c]] w (RetOt w n N) := by
  have HR:Hid (RdTn w a n N /\ ∀ i,i < n -> TnFit (N i)) := ⟨h,hN⟩
  clear h hN
  go_enter Tryz.func85,Tryz.ntmps85
  go_wp2
  have S0:Hid (Bx ((w.alloc (.cells #[.slice a n c] 59)).alloc (.cells #[.slice none 0 0] 59)) (w.heap.size + 1) 59 #[.slice none 0 0] /\ Below w.heap.size w ((w.alloc (.cells #[.slice a n c] 59)).alloc (.cells #[.slice none 0 0] 59))) := by
    refine ⟨?_,(below_alloc _ _).alloc (by simp) _⟩
    have := Bx.new (w.alloc (.cells #[.slice a n c] 59)) #[.slice none 0 0] 59
    rw [World.size_alloc] at this
    exact this
  generalize (w.alloc (.cells #[.slice a n c] 59)).alloc (.cells #[.slice none 0 0] 59) = W0 at S0 ⊢
  go_loopw [3,9] (fun q i wr => ∃ (k:Nat) (ra:Option Addr) (rc:Nat) (KA DA:Nat -> Option Addr) (KC DC:Nat -> Nat),k <= n /\ i = .int .i64 k /\ q = .slice ra k rc /\ GT wr (w.heap.size + 2) (.slice ra k rc) k N KA DA KC DC /\ Bx wr (w.heap.size + 1) 59 #[.slice none 0 0] /\ Below w.heap.size w wr) (fun _ i _ => n - (intOf i).toNat)
  case atStart => exact ⟨0,none,0,fun _ => none,fun _ => none,fun _ => 0,fun _ => 0,Nat.zero_le _,rfl,rfl,GT.nil _ _ _ _ _ _ _,S0.out.1,S0.out.2⟩
  case round =>
    obtain ⟨k,ra,rc,KA,DA,KC,DC,hk,rfl,rfl,hgt,hbx,hbel⟩ := hrel
    clear S0
    have H0:Hid (GT wr (w.heap.size + 2) (.slice ra k rc) k N KA DA KC DC /\ Bx wr (w.heap.size + 1) 59 #[.slice none 0 0] /\ Below w.heap.size w wr) := ⟨hgt,hbx,hbel⟩
    have hz0 := hbx.lt
    clear hgt hbx hbel
    by_cases hlt:k < n
    · obtain ⟨b,o,rfl,hc⟩ := (HR.out.1.below H0.out.2.2:RdTn wr a n N).resolve_left (by omega)
      obtain ⟨ka,kc,da,dc,c0,c1,c2,c3,c4,c5⟩ := hc k hlt
      have hfit := HR.out.2 k hlt
      have i0:(0:Int) <= (k:Int) := by omega
      have i1:(k:Int) < (n:Int) := by omega
      have HRK0:Hid (RdS wr ka (N k).kn (gt (ksL (N k))) /\ Rd .i64 wr da (N k).dn (gi (kdL (N k)))) := ⟨c4.congr (fun j hj => (gt_ksL (N k) j hj).symm),c5.congr (fun j hj => (gi_kdL (N k) j hj).symm)⟩
      have HFit:Hid ((N k).kn <= 1048576 /\ (N k).dn <= 1048576) := ⟨hfit.1,hfit.2⟩
      clear hc c4 c5 hfit
      go_upto_region 5 with fail
      obtain ⟨nb,hnb⟩:∃ nb,nb = wr.heap.size := ⟨_,rfl⟩
      rw [<- hnb]
      have hbx:Bx (wr.alloc (.cells #[.bool (N k).lf,.slice ka (N k).kn kc,.slice da (N k).dn dc,.int .i64 (N k).ct] 168)) nb 168 #[.bool (N k).lf,.slice ka (N k).kn kc,.slice da (N k).dn dc,.int .i64 (N k).ct] := by rw [hnb]; exact Bx.new _ _ _
      have hb0:Below wr.heap.size wr (wr.alloc (.cells #[.bool (N k).lf,.slice ka (N k).kn kc,.slice da (N k).dn dc,.int .i64 (N k).ct] 168)) := below_alloc _ _
      generalize hW1:wr.alloc (.cells #[.bool (N k).lf,.slice ka (N k).kn kc,.slice da (N k).dn dc,.int .i64 (N k).ct] 168) = W1 at hbx hb0 ⊢
      have HG:Hid (GT W1.drew (w.heap.size + 2) (.slice ra k rc) k N KA DA KC DC /\ Bx W1.drew (w.heap.size + 1) 59 #[.slice none 0 0] /\ Below w.heap.size w W1.drew /\ w.heap.size + 2 <= W1.drew.heap.size) := ⟨(H0.out.1.below hb0).below (Below.refl _ _).drew,(H0.out.2.1.below hb0).drew,(H0.out.2.2.trans (hb0.mono H0.out.2.2.size)).drew,by have := hb0.size; show w.heap.size + 2 <= W1.heap.size; omega⟩
      have HRK:Hid (RdS W1.drew ka (N k).kn (gt (ksL (N k))) /\ Rd .i64 W1.drew da (N k).dn (gi (kdL (N k)))) := ⟨(HRK0.out.1.below hb0).below (Below.refl _ _).drew,(HRK0.out.2.below hb0).below (Below.refl _ _).drew⟩
      have HKeep:Hid (∀ W',Below W1.drew.heap.size W1.drew W' -> W'.cell? ⟨nb,0,none⟩ = some (.bool (N k).lf) /\ W'.cell? ⟨nb,1,none⟩ = some (.slice ka (N k).kn kc) /\ W'.cell? ⟨nb,2,none⟩ = some (.slice da (N k).dn dc) /\ W'.cell? ⟨nb,3,none⟩ = some (.int .i64 (N k).ct)) := by
        intro W' hW'
        have q := hbx.drew.below hW'
        exact ⟨by simpa using q.cell 0,by simpa using q.cell 1,by simpa using q.cell 2,by simpa using q.cell 3⟩
      have HNb:Hid (Bx W1.drew nb 168 #[.bool (N k).lf,.slice ka (N k).kn kc,.slice da (N k).dn dc,.int .i64 (N k).ct] /\ ∀ g,(Value.slice ra k rc).ownBlock = some g -> g ≠ nb) := ⟨hbx.drew,fun g e => by have := (own_lt H0.out.1.row g e).2; omega⟩
      have HCS:Hid (Calls Tryz.prog 119 #[.slice ka (N k).kn kc] W1.drew fun e w' => ∃ a' c',e = .returned (.slice a' (N k).kn c') /\ w'.ownsRow W1.drew.heap.size 9 1 (.slice a' (N k).kn c') (N k).kn (strL (ksL (N k))) /\ Below W1.drew.heap.size W1.drew w') := copyStrs_any ka (N k).kn kc (ksL (N k)) W1.drew HRK.out.1 (ksL_length _).symm HFit.out.1
      have HCI:Hid (∀ W',Below W1.drew.heap.size W1.drew W' -> Calls Tryz.prog 120 #[.slice da (N k).dn dc] W' fun e w' => ∃ a' c',e = .returned (.slice a' (N k).dn c') /\ w'.ownsRow W'.heap.size 2 1 (.slice a' (N k).dn c') (N k).dn (intL (kdL (N k))) /\ Below W'.heap.size W' w') := fun W' hW' => copyInts_any da (N k).dn dc (kdL (N k)) W' (HRK.out.2.below hW') (kdL_length _).symm HFit.out.2
      clear hbx hb0 HRK0 H0 c0 c1 c2 c3 hW1 hnb
      generalize hR:W1.drew = R at HG HRK HKeep HCS HCI HNb
      refine wp_region_late (S := fun w' => w'.cell? ⟨nb,0,none⟩ = some (.bool (N k).lf) /\ w'.cell? ⟨nb,1,none⟩ = some (.slice ka (N k).kn kc) /\ w'.cell? ⟨nb,2,none⟩ = some (.slice da (N k).dn dc) /\ w'.cell? ⟨nb,3,none⟩ = some (.int .i64 (N k).ct)) 14 (by kernel_rfl) ?_ (fun hHeld => ?_)
      · (rw [hR]; exact HKeep.out _ (Below.refl _ _))
      rw [hR] at hHeld ⊢
      clear hR
      refine late_take 0 .zero (v := ?_) (by kernel_rfl) (by kernel_rfl) (by kernel_rfl) (by kernel_rfl) (fun _ _ _ h => h) (by rfl) ?_ (by assumption) ?_
      rotate_left
      · (intro w hSw; (try dsimp only at hSw); go_simp) <;> with_reducible rfl
      simp only [Act.put,List.setIfInBounds_toArray,List.set_cons_zero,List.set_cons_succ]
      refine late_take 1 (.succ .zero) (v := ?_) (by kernel_rfl) (by kernel_rfl) (by kernel_rfl) (by kernel_rfl) (fun _ _ _ h => h) (by rfl) ?_ (by assumption) ?_
      rotate_left
      · (intro w hSw; (try dsimp only at hSw); go_simp) <;> with_reducible rfl
      simp only [Act.put,List.setIfInBounds_toArray,List.set_cons_zero,List.set_cons_succ]
      refine late_take 2 (.succ (.succ .zero)) (v := ?_) (by kernel_rfl) (by kernel_rfl) (by kernel_rfl) (by kernel_rfl) (fun _ _ _ h => h) (by rfl) ?_ (by assumption) ?_
      rotate_left
      · (intro w hSw; (try dsimp only at hSw); go_simp) <;> with_reducible rfl
      simp only [Act.put,List.setIfInBounds_toArray,List.set_cons_zero,List.set_cons_succ]
      refine late_take 3 (.succ (.succ (.succ .zero))) (v := ?_) (by kernel_rfl) (by kernel_rfl) (by kernel_rfl) (by kernel_rfl) (fun _ _ _ h => h) (by rfl) ?_ (by assumption) ?_
      rotate_left
      · (intro w hSw; (try dsimp only at hSw); go_simp) <;> with_reducible rfl
      simp only [Act.put,List.setIfInBounds_toArray,List.set_cons_zero,List.set_cons_succ]
      refine late_take 4 (.succ (.succ (.succ (.succ .zero)))) (v := ?_) (by kernel_rfl) (by kernel_rfl) (by kernel_rfl) (by kernel_rfl) (fun _ _ _ h => h) (by rfl) ?_ (by assumption) ?_
      rotate_left
      · (intro w hSw; (try dsimp only at hSw); go_simp) <;> with_reducible rfl
      simp only [Act.put,List.setIfInBounds_toArray,List.set_cons_zero,List.set_cons_succ]
      refine late_take 6 (.succ (.succ (.succ (.succ (.succ (.succ .zero)))))) (v := ?_) (by kernel_rfl) (by kernel_rfl) (by kernel_rfl) (by kernel_rfl) (fun _ _ _ h => h) (by rfl) ?_ (by assumption) ?_
      rotate_left
      · (intro w hSw; (try dsimp only at hSw); go_simp) <;> with_reducible rfl
      simp only [Act.put,List.setIfInBounds_toArray,List.set_cons_zero,List.set_cons_succ]
      refine late_take 7 (.succ (.succ (.succ (.succ (.succ (.succ (.succ .zero))))))) (v := ?_) (by kernel_rfl) (by kernel_rfl) (by kernel_rfl) (by kernel_rfl) (fun _ _ _ h => h) (by rfl) ?_ (by assumption) ?_
      rotate_left
      · (intro w hSw; (try dsimp only at hSw); go_simp) <;> with_reducible rfl
      simp only [Act.put,List.setIfInBounds_toArray,List.set_cons_zero,List.set_cons_succ]
      refine late_take 9 (.succ (.succ (.succ (.succ (.succ (.succ (.succ (.succ (.succ .zero))))))))) (v := ?_) (by kernel_rfl) (by kernel_rfl) (by kernel_rfl) (by kernel_rfl) (fun _ _ _ h => h) (by rfl) ?_ (by assumption) ?_
      rotate_left
      · (intro w hSw; (try dsimp only at hSw); go_simp) <;> with_reducible rfl
      simp only [Act.put,List.setIfInBounds_toArray,List.set_cons_zero,List.set_cons_succ]
      refine late_take 10 (.succ (.succ (.succ (.succ (.succ (.succ (.succ (.succ (.succ (.succ .zero)))))))))) (v := ?_) (by kernel_rfl) (by kernel_rfl) (by kernel_rfl) (by kernel_rfl) (fun _ _ _ h => h) (by rfl) ?_ (by assumption) ?_
      rotate_left
      · (intro w hSw; (try dsimp only at hSw); go_simp) <;> with_reducible rfl
      simp only [Act.put,List.setIfInBounds_toArray,List.set_cons_zero,List.set_cons_succ]
      refine late_one 5 (.succ (.succ (.succ (.succ (.succ .zero))))) (by kernel_rfl) (fun K hK => ?_)
      refine step_t1 (by rfl) 119 17 _ (by rfl) (.slice ka (N k).kn kc) (by rfl) (fun _ _ => by rfl) ?_
      (with_reducible refine HCS.out.mono ?_)
      rintro e w1 ⟨a1,c1',rfl,ho1,hb1⟩
      refine ⟨_,rfl,?_⟩
      have H1:Hid (w1.ownsRow R.heap.size 9 1 (.slice a1 (N k).kn c1') (N k).kn (strL (ksL (N k))) /\ Below R.heap.size R w1) := ⟨ho1,hb1⟩
      clear ho1 hb1
      refine hK.out _ _ ?_ (fun hHeld2 => ?_)
      · (intro _; exact HKeep.out _ H1.out.2)
      clear hK K
      replace hHeld := hHeld2 (by decide)
      clear hHeld2
      try simp only [Act.put,List.setIfInBounds_toArray,List.set_cons_zero,List.set_cons_succ]
      refine late_one 8 (.succ (.succ (.succ (.succ (.succ (.succ (.succ (.succ .zero)))))))) (by kernel_rfl) (fun K hK => ?_)
      have HCI1:Hid (Calls Tryz.prog 120 #[.slice da (N k).dn dc] w1 fun e w' => ∃ a' c',e = .returned (.slice a' (N k).dn c') /\ w'.ownsRow w1.heap.size 2 1 (.slice a' (N k).dn c') (N k).dn (intL (kdL (N k))) /\ Below w1.heap.size w1 w') := HCI.out w1 H1.out.2
      refine step_t1 (by rfl) 120 20 _ (by rfl) (.slice da (N k).dn dc) (by rfl) (fun _ _ => by rfl) ?_
      (with_reducible refine HCI1.out.mono ?_)
      rintro e w2 ⟨a2,c2',rfl,ho2,hb2⟩
      refine ⟨_,rfl,?_⟩
      have H2:Hid (OwnS w2 R.heap.size a1 (N k).kn (N k).ks /\ OwnI w2 R.heap.size a2 (N k).dn (N k).kd /\ Below R.heap.size R w2) := by
        have q1 := own_ownS (own_below H1.out.1 hb2) (ksL_length _).symm
        refine ⟨?_,(own_ownI ho2 (kdL_length _).symm (N k).kd (fun i hi => gi_kdL (N k) i hi)).mono H1.out.2.size,H1.out.2.trans (hb2.mono H1.out.2.size)⟩
        rcases q1 with q | ⟨g,e,hg,hr⟩
        · exact .inl q
        · exact .inr ⟨g,e,hg,hr.congr (fun i hi => by rw [gt_ksL (N k) i hi])⟩
      clear ho2 hb2 HCI1
      refine hK.out _ _ ?_ (fun hHeld2 => ?_)
      · (intro _; exact HKeep.out _ H2.out.2.2)
      clear hK K
      replace hHeld := hHeld2 (by decide)
      clear hHeld2
      try simp only [Act.put,List.setIfInBounds_toArray,List.set_cons_zero,List.set_cons_succ]
      refine late_one 11 (.succ (.succ (.succ (.succ (.succ (.succ (.succ (.succ (.succ (.succ (.succ .zero))))))))))) (by kernel_rfl) (fun K hK => ?_)
      go_simp
      refine hK.out _ _ ?_ (fun hHeld2 => ?_)
      · (intro _; exact hHeld)
      clear hK K
      replace hHeld := hHeld2 (by decide)
      clear hHeld2
      try simp only [Act.put,List.setIfInBounds_toArray,List.set_cons_zero,List.set_cons_succ]
      refine late_one 12 (.succ (.succ (.succ (.succ (.succ (.succ (.succ (.succ (.succ (.succ (.succ (.succ .zero)))))))))))) (by kernel_rfl) (fun K hK => ?_)
      go_simp
      refine hK.out _ _ ?_ (fun hHeld2 => ?_)
      · (intro _; exact HKeep.out _ (H2.out.2.2.alloc H2.out.2.2.size _))
      clear hK K
      replace hHeld := hHeld2 (by decide)
      clear hHeld2
      try simp only [Act.put,List.setIfInBounds_toArray,List.set_cons_zero,List.set_cons_succ]
      refine late_one 13 (.succ (.succ (.succ (.succ (.succ (.succ (.succ (.succ (.succ (.succ (.succ (.succ (.succ .zero))))))))))))) (by kernel_rfl) (fun K hK => ?_)
      refine step_app_node (by rfl) (.tmp 13) (.tmp 25) (by rfl) (w.heap.size + 2) (.slice ra k rc) k _ (by rfl) (own_below (own_below HG.out.1.row H2.out.2.2) (below_alloc _ _)) w2.heap.size 1 (.bool (N k).lf) (.slice a1 (N k).kn c1') (.slice a2 (N k).dn c2') (.int .i64 (N k).ct) (by rfl) (fun j u hj => by rw [(Bx.new w2 #[.bool (N k).lf,.slice a1 (N k).kn c1',.slice a2 (N k).dn c2',.int .i64 (N k).ct] 168).cell j]; simpa using hj) (by intro u hu; simp at hu; rcases hu with rfl | rfl | rfl | rfl <;> rfl) (by omega) (by have := H2.out.2.2.size; have := HG.out.2.2.2; simp; omega) ?_
      intro v3 w3 ho3 hg3 hat3
      obtain ⟨a3,c3',e3,_⟩ := own_form ho3
      subst e3
      have HX:Hid (∃ KA' DA' KC' DC',GT w3 (w.heap.size + 2) (.slice a3 (k + 1) c3') (k + 1) N KA' DA' KC' DC' /\ Bx w3 (w.heap.size + 1) 59 #[.slice none 0 0] /\ Below w.heap.size w w3) := by
        obtain ⟨v',N',KA',DA',KC',DC',e,q1,q2,q3,q4,q5,q6⟩ := GT.more HG.out.1 HG.out.2.2.2 H2.out.2.2 (N k) a1 a2 c1' c2' H2.out.1 H2.out.2.1 ho3 hg3 hat3 (P := fun N' => N' k = N k) (by simp)
        injection e with e
        subst e
        have hlt := own_lt HG.out.1.row
        refine ⟨KA',DA',KC',DC',q1.congr (fun i hi => ?_),HG.out.2.1.grown q2 (fun e => by have := (hlt _ e).1; omega),HG.out.2.2.1.grown q2 (by have := HG.out.2.2.2; omega) (fun g e => by have := (hlt g e).1; omega)⟩
        by_cases e:i = k
        · subst e; exact q6
        · exact (q4 i (by omega)).1
      have k3 := HKeep.out _ H2.out.2.2
      have k4:w3.cell? ⟨nb,0,none⟩ = some (.bool (N k).lf) /\ w3.cell? ⟨nb,1,none⟩ = some (.slice ka (N k).kn kc) /\ w3.cell? ⟨nb,2,none⟩ = some (.slice da (N k).dn dc) /\ w3.cell? ⟨nb,3,none⟩ = some (.int .i64 (N k).ct) := by
        have q := ((HNb.out.1.below H2.out.2.2).alloc (.cells #[.bool (N k).lf,.slice a1 (N k).kn c1',.slice a2 (N k).dn c2',.int .i64 (N k).ct] 168)).grown hg3 (fun e => HNb.out.2 _ e rfl)
        exact ⟨by simpa using q.cell 0,by simpa using q.cell 1,by simpa using q.cell 2,by simpa using q.cell 3⟩
      clear ho3 hg3 hat3 k3
      refine hK.out _ _ ?_ (fun hHeld2 => ?_)
      · (intro _; exact k4)
      clear hK K
      replace hHeld := hHeld2 (by decide)
      clear hHeld2
      try simp only [Act.put,List.setIfInBounds_toArray,List.set_cons_zero,List.set_cons_succ]
      refine late_one 14 (.succ (.succ (.succ (.succ (.succ (.succ (.succ (.succ (.succ (.succ (.succ (.succ (.succ (.succ .zero)))))))))))))) (by kernel_rfl) (fun K hK => ?_)
      go_simp
      refine hK.out _ _ ?_ (fun hHeld2 => ?_)
      · (intro hne; exact absurd rfl hne)
      clear hK K hHeld2
      refine wpLate_done (by kernel_rfl) ?_ _
      obtain ⟨KA',DA',KC',DC',hx⟩ := HX.out
      have HX2:Hid (GT w3 (w.heap.size + 2) (.slice a3 (k + 1) c3') (k + 1) N KA' DA' KC' DC' /\ Bx w3 (w.heap.size + 1) 59 #[.slice none 0 0] /\ Below w.heap.size w w3) := hx
      clear hx hHeld k4
      go_wp2
      go_roundw
      case rel => exact ⟨k + 1,a3,c3',KA',DA',KC',DC',by omega,by go_num,rfl,HX2.out⟩
      case measure => simp [intOf]; omega
    · have e:k = n := by omega
      subst e
      have z0 := H0.out.2.1.cell 0
      simp at z0
      have zf := H0.out.2.1.frozen 0
      go_wp2
      refine bodyPost_ret (v := .agg #[.slice ra k rc]) (by simp [results,Tryz.results85,go_sem,z0]) rfl ⟨H0.out.2.2.setCell (by simp) _,ra,rc,KA,DA,KC,DC,rfl,?_⟩
      have q := H0.out.1.keep (w' := wr.setCell ⟨w.heap.size + 1,0,none⟩ (.slice ra k rc)) (fun x hx => Below.heap_setCell _ _ _ _ (by have := (H0.out.1.used hx).1; show x ≠ w.heap.size + 1; omega))
      exact ⟨own_mono q.row (by omega),fun i hi => (q.keys i hi).mono (by omega),fun i hi => (q.kids i hi).mono (by omega),q.apartK,q.apartD⟩
open Go.RowKit Go.Deep

theorem grown_set (w:World) (b i:Nat) (v:Value):w.grownBy (w.setCell ⟨b,i,none⟩ v) (some b) :=
  ⟨rfl,rfl,rfl,by simp [World.setCell],fun k hk hne => Below.heap_setCell _ _ _ _ (fun e => hne (by rw [e]))⟩
theorem grown_refl (w:World) (r:Option Nat):w.grownBy w r := ⟨rfl,rfl,rfl,Nat.le_refl _,fun _ _ _ => rfl⟩
theorem grown_trans {w w1 w2:World} {r:Option Nat} (h:w.grownBy w1 r) (g:w1.grownBy w2 r):w.grownBy w2 r :=
  ⟨g.os.trans h.os,g.tape.trans h.tape,g.output.trans h.output,Nat.le_trans h.size g.size,fun k hk hne => (g.block k (Nat.lt_of_lt_of_le hk h.size) hne).trans (h.block k hk hne)⟩
theorem grown_below {w w1:World} {r:Option Nat} (h:Below w.heap.size w w1):w.grownBy w1 r := ⟨h.os,h.tape,h.output,h.size,fun k hk _ => h.block k hk⟩
theorem below_grown {B:Nat} {w w1:World} {r:Nat} (h:w.grownBy w1 (some r)) (hB:B <= w.heap.size) (hr:B <= r):Below B w w1 := ⟨h.os,h.tape,h.output,h.size,fun k hk => h.block k (by omega) (fun e => by injection e with e; omega)⟩

def RetLd (rb b o n c x:Nat) (dep D:Int) (lk:ByteArray) (hk:Bool) (w:World) (e:Ending) (w' : World):Prop :=
  ∃ ok,e = .returned (.bool ok) /\ w.grownBy w' (some rb) /\ w'.heap.size = w.heap.size /\ ((ok = true /\ (D = 0 \/ D = dep) /\ RBx w' rb b o n c x dep lk hk) \/ (ok = false /\ ¬ (D = 0 \/ D = dep)))

def RetPk (rb b o n c x:Nat) (D:Int) (lk:ByteArray) (hk:Bool) (L:List ByteArray) (w:World) (e:Ending) (w' : World):Prop :=
  ∃ ok,e = .returned (.bool ok) /\ w.grownBy w' (some rb) /\ w'.heap.size = w.heap.size /\ ((ok = true /\ ∃ hk' lk',Chain hk lk L hk' lk' /\ RBx w' rb b o n c x D lk' hk') \/ (ok = false /\ ∀ hk' lk',¬ Chain hk lk L hk' lk'))

set_option maxHeartbeats 1000000 in
theorem leafDepth_any (rb b o n c x:Nat) (dep D:Int) (lk:ByteArray) (hk:Bool) (w:World) (h:RBx w rb b o n c x D lk hk) (hd:0 <= dep) :
    Calls Tryz.prog 154 #[.pointer (some ⟨rb,0,none⟩),.int .i64 dep] w (RetLd rb b o n c x dep D lk hk w) := by
  have c2 := h.cell 2
  have f2 := h.frozen 2
  have hl := h.lt
  simp at c2
  have HR:Hid (RBx w rb b o n c x D lk hk) := h
  clear h
  by_cases h0:D = 0
  · subst h0
    have hq:((0:Int) == 0) = true := rfl
    have HX:Hid (RBx (w.setCell ⟨rb,2,none⟩ (.int .i64 dep)) rb b o n c x dep lk hk) := HR.out.set 2 _
    have c3 := HX.out.cell 2
    simp at c3
    go_enter Tryz.func154,Tryz.ntmps154
    go_wp2
    go_ret
    exact ⟨true,by simp,grown_set _ _ _ _,by simp [World.setCell],.inl ⟨rfl,.inl rfl,HX.out⟩⟩
  · have hq:(D == 0) = false := by simpa using h0
    by_cases h1:D = dep
    · subst h1
      have hq1:(D == D) = true := by simp
      go_enter Tryz.func154,Tryz.ntmps154
      go_wp2
      go_ret
      exact ⟨true,by simp,grown_refl _ _,rfl,.inl ⟨rfl,.inr rfl,HR.out⟩⟩
    · have hq1:(D == dep) = false := by simpa using h1
      go_enter Tryz.func154,Tryz.ntmps154
      go_wp2
      go_ret
      exact ⟨false,by simp,grown_refl _ _,rfl,.inr ⟨rfl,fun h => h.elim h0 h1⟩⟩

theorem chain_take {L:List ByteArray} {k:Nat} (h:k < L.length):L.take (k + 1) = L.take k ++ [gt L k] := by
  rw [<- List.take_append_getElem h]
  unfold gt
  rw [List.getD_eq_getElem?_getD,List.getElem?_eq_getElem h]
  rfl

theorem chain_stop {hk h1:Bool} {lk l1:ByteArray} {L:List ByteArray} {k:Nat} (h:Chain hk lk (L.take k) h1 l1) (hlt:k < L.length) (hbad:¬ ((gt L k).size <= 16 /\ (h1 = true -> Op.bytesLess l1.toList (gt L k).toList = true))) (h2:Bool) (l2:ByteArray):¬ Chain hk lk L h2 l2 := by
  intro hc
  have e:L = L.take k ++ (gt L k :: L.drop (k + 1)) := by
    conv => lhs; rw [<- List.take_append_drop (k + 1) L,chain_take hlt]
    simp
  rw [e] at hc
  obtain ⟨h3,l3,q1,q2⟩ := Chain.split hc
  obtain ⟨rfl,rfl⟩ := Chain.fn h q1
  exact hbad ⟨q2.1,q2.2.1⟩

set_option maxHeartbeats 4000000 in
theorem passKeys_any (rb b o n c x m kc:Nat) (ka:Option Addr) (D:Int) (lk:ByteArray) (hk:Bool) (L:List ByteArray) (w:World) (h:RBx w rb b o n c x D lk hk) (hm:m = L.length) (hm2:m <= 1048576) (hr:∀ W:World,w.grownBy W (some rb) -> RdS W ka m (gt L)) :
    Calls Tryz.prog 155 #[.pointer (some ⟨rb,0,none⟩),.slice ka m kc] w (RetPk rb b o n c x D lk hk L w) := by
  have HR:Hid (∀ W:World,w.grownBy W (some rb) -> RdS W ka m (gt L)) := hr
  have HM:Hid (m = L.length) := hm
  have H0:Hid (RBx w rb b o n c x D lk hk) := h
  clear h hm hr
  go_enter Tryz.func155,Tryz.ntmps155
  go_wp2
  go_loopw [9] (fun i wr => ∃ (k:Nat) (h1:Bool) (l1:ByteArray),k <= m /\ i = .int .i64 k /\ w.grownBy wr (some rb) /\ wr.heap.size = w.heap.size /\ Chain hk lk (L.take k) h1 l1 /\ RBx wr rb b o n c x D l1 h1) (fun i _ => m - (intOf i).toNat)
  case atStart => exact ⟨0,hk,lk,Nat.zero_le _,rfl,grown_refl _ _,rfl,⟨rfl,rfl⟩,H0.out⟩
  case round =>
    obtain ⟨k,h1,l1,hkm,rfl,hgr,hsz,hch,hbx⟩ := hrel
    clear H0
    have HG:Hid (w.grownBy wr (some rb) /\ wr.heap.size = w.heap.size /\ Chain hk lk (L.take k) h1 l1 /\ RBx wr rb b o n c x D l1 h1) := ⟨hgr,hsz,hch,hbx⟩
    have c3 := hbx.cell 3
    have c4 := hbx.cell 4
    have f3 := hbx.frozen 3
    have f4 := hbx.frozen 4
    have hl := hbx.lt
    simp at c3 c4
    clear hgr hsz hch hbx
    by_cases hlt:k < m
    · have hlk:k < L.length := by rw [<- HM.out]; exact hlt
      rcases HR.out wr HG.out.1 with q | ⟨bk,ok,rfl,hc⟩
      · omega
      have s1 := hc k hlt
      have hk0:(0:Int) <= (k:Int) := by omega
      have hkmI:(k:Int) < (m:Int) := by omega
      clear hc
      by_cases h16:16 < (gt L k).size
      · have j16:(16:Int) < ((gt L k).size:Int) := by omega
        have j16' : decide ((16:Int) < ((gt L k).size:Int)) = true := decide_eq_true j16
        have n16' : decide (16 < (gt L k).size) = true := decide_eq_true h16
        have HNo:Hid (∀ h2 l2,¬ Chain hk lk L h2 l2) := fun h2 l2 => chain_stop HG.out.2.2.1 hlk (fun q => by omega) h2 l2
        go_wp2
        go_ret
        exact ⟨false,rfl,HG.out.1,HG.out.2.1,.inr ⟨rfl,HNo.out⟩⟩
      · have j16:¬ (16:Int) < ((gt L k).size:Int) := by omega
        have j16' : decide ((16:Int) < ((gt L k).size:Int)) = false := decide_eq_false j16
        have n16' : decide (16 < (gt L k).size) = false := decide_eq_false h16
        have HPass:(h1 = true -> Op.bytesLess l1.toList (gt L k).toList = true) -> Hid (w.grownBy ((wr.setCell ⟨rb,3,none⟩ (.string (gt L k))).setCell ⟨rb,4,none⟩ (.bool true)) (some rb) /\ ((wr.setCell ⟨rb,3,none⟩ (.string (gt L k))).setCell ⟨rb,4,none⟩ (.bool true)).heap.size = w.heap.size /\ Chain hk lk (L.take (k + 1)) true (gt L k) /\ RBx ((wr.setCell ⟨rb,3,none⟩ (.string (gt L k))).setCell ⟨rb,4,none⟩ (.bool true)) rb b o n c x D (gt L k) true) := by
          intro hp
          obtain ⟨q1,q2,q3,q4⟩ := HG.out
          refine ⟨grown_trans (grown_trans q1 (grown_set _ _ _ _)) (grown_set _ _ _ _),by rw [<- q2]; simp [World.setCell],?_,(q4.set 3 _).set 4 _⟩
          rw [chain_take hlk]
          exact Chain.app q3 ⟨by omega,hp,rfl,rfl⟩
        cases h1 with
        | false =>
          have HP := HPass (fun q => by cases q)
          clear HPass
          go_wp2
          go_roundw
          case rel => exact ⟨k + 1,true,gt L k,by omega,by go_num,HP.out⟩
          case measure => simp [intOf]; omega
        | true =>
          cases hls:Op.bytesLess l1.toList (gt L k).toList with
          | true =>
            have HP := HPass (fun _ => hls)
            have htot := less_total l1.toList (gt L k).toList
            rw [hls] at htot
            have ht2:(Op.bytesLess (gt L k).toList l1.toList || (gt L k).toList == l1.toList) = false := htot
            clear HPass htot
            go_wp2
            go_roundw
            case rel => exact ⟨k + 1,true,gt L k,by omega,by go_num,HP.out⟩
            case measure => simp [intOf]; omega
          | false =>
            have HNo:Hid (∀ h2 l2,¬ Chain hk lk L h2 l2) := fun h2 l2 => chain_stop HG.out.2.2.1 hlk (fun q => by have := q.2 rfl; rw [hls] at this; cases this) h2 l2
            have htot := less_total l1.toList (gt L k).toList
            rw [hls] at htot
            have ht2:(Op.bytesLess (gt L k).toList l1.toList || (gt L k).toList == l1.toList) = true := htot
            clear HPass htot
            go_wp2
            go_ret
            exact ⟨false,rfl,HG.out.1,HG.out.2.1,.inr ⟨rfl,HNo.out⟩⟩
    · have e:k = m := by omega
      subst e
      have HE:Hid (L.take k = L) := by
        show L.take k = L
        rw [HM.out,List.take_length]
      go_wp2
      go_ret
      refine ⟨true,rfl,HG.out.1,HG.out.2.1,.inl ⟨rfl,h1,l1,?_,HG.out.2.2.2⟩⟩
      have q := HG.out.2.2.1
      rw [HE.out] at q
      exact q
end Go.Proofs.YtcnollkkigiobaaGreat
