import Derived.Test.YtcnollkkigiobaaGreatNa19
import Derived.Test.YtcnollkkigiobaaGreatNa18
import Derived.Test.YtcnollkkigiobaaGreatNa22
set_option linter.unusedVariables false
set_option maxRecDepth 100000
namespace Go.Proofs.YtcnollkkigiobaaGreat
open Go.RowKit Go.Deep

theorem step_t3 {ops:Array Oper} {o:Oper} {a:Act} {w:World} {K:Act -> World -> Prop} {Q:Exit -> Act -> World -> Prop} {E:Prop} (hgd:o.guard = none) (k:Nat) (i j m:Nat) (tys:Array TypeId)
    (ho:o.op = .call { callee := .value (.func k),args := #[.tmp i,.tmp j,.tmp m],argTypes := tys }) (u v x:Value) (hx:a.tmps[i]?.getD undef = u) (hy:a.tmps[j]?.getD undef = v) (hz:a.tmps[m]?.getD undef = x) (heg:∀ args w,(callFunc k args).run Tryz.prog w = .ok (.enter k args) w)
    (h:Calls Tryz.prog k #[u,v,x] w fun e w' => ∃ r,e = .returned r /\ K (a.put o.dst r) w') :
    if Region.wanted o (yielded ops a.tmps) = true then Oper.wp Tryz.prog o a w K Q else E := by
  have hw:Region.wanted o (yielded ops a.tmps) = true := by simp [Region.wanted,hgd]
  rw [if_pos hw]
  unfold Oper.wp
  simp [execOp,ho,resolve,invoke,hx,hy,hz,go_sem,heg]
  refine h.mono ?_
  rintro e w' ⟨u,rfl,hk⟩
  exact hk

theorem ins_fin (d b gg kc:Nat) (x:Int) (M:List (Ro d)) (ys:List Value) (S:Nat -> Prop) (w:World) (hx:Bx w b 179 #[.int .i64 x,.slice (some ⟨gg,0,none⟩) M.length kc]) (hcap:M.length <= kc /\ kc <= 9223372036854775807) (hM:0 < M.length) (hM5:M.length <= 1000) (hce:∀ j u,ys[j]? = some u -> w.cell? ⟨gg,j,none⟩ = some u) (hak:AllK S w d M ys) (hSb:¬ S b) (hSg:S gg) (hgl:gg < w.heap.size) (hkeys:(M.flatMap (keysR d)).length <= 1099511627776) :
    Calls Tryz.prog 118 #[.pointer (some ⟨b,0,none⟩)] w fun e w' => e = .returned (.tuple #[]) /\ w.grownBy w' (some b) /\ NdI S w' b (d + 1) (.inr M) (.iface 174 (.pointer (some ⟨b,0,none⟩))) := by
  have hgb:gg ≠ b := fun e => hSb (e ▸ hSg)
  refine (recountO_any d b gg 0 M.length kc M x ys w hx rfl (by omega) hkeys (fun j u hj => by rw [Nat.zero_add]; exact hce j u hj) hgb (fun k h => ?_)).mono ?_
  · obtain ⟨u,e,ht⟩ := hak.2 k h
    obtain ⟨bb,q1,q2,q3,q4⟩ := ht.count
    exact ⟨u,bb,e,fun e => hSb (e ▸ q1),q3,q4⟩
  · rintro e w' ⟨rfl,hg,hs,hx'⟩
    have blk:∀ y,S y -> y < w.heap.size -> S y /\ w'.heap[y]? = w.heap[y]? := fun y hy hl => ⟨hy,hg.block y hl (fun e => hSb (by injection e with e; exact e ▸ hy))⟩
    have hk2 := hak.keep hg.size blk
    exact ⟨rfl,hg,rfl,gg,0,kc,ys,hx',hSg,⟨by have := hg.size; omega,hcap⟩,⟨hM,hak.1⟩,fun j u hj => by rw [Nat.zero_add]; exact (World.cell?_of_block (a := ⟨gg,j,none⟩) (blk gg hSg hgl).2).trans (hce j u hj),hk2.2⟩

theorem frs_grown {w w' : World} {b:Nat} {bs:List Nat} (h:w.grownBy w' (some b)) (hb:b ∈ bs):Frs bs w w' := ⟨h.os,h.tape,h.output,h.size,fun k hk hn => h.block k hk (fun e => hn (by injection e with e; rw [e]; exact hb))⟩
theorem frs_fr2 {w w' : World} {b:Nat} {bs:List Nat} (h:Fr2 w w' b b) (hb:b ∈ bs):Frs bs w w' := ⟨h.1,h.2.1,h.2.2.1,h.2.2.2.1,fun k hk hn => h.2.2.2.2 k hk (fun e => hn (e ▸ hb)) (fun e => hn (e ▸ hb))⟩
theorem frs_below {w w' : World} {bs:List Nat} (h:Below w.heap.size w w'):Frs bs w w' := ⟨h.os,h.tape,h.output,h.size,fun k hk _ => h.block k hk⟩

theorem keysU_len {key:ByteArray} {d:Nat} {t u:Ro (d + 1)} {root:Bool} {h:Nat} (hb:BalR (d + 1) root t h) (hu:InsU key (d + 1) t u) (hn:nodesR (d + 1) t <= 5000) (hd:d + 1 <= 22):(keysR (d + 1) u).length <= 100000 := by
  have h1 := hu.insR.nodes
  have e:(keysR (d + 1) u).length = ((splR u).map (fun t => (keysR (d + 1) t).length)).sum := by
    by_cases h4:sizR u <= 4
    · rw [splR_one h4]; simp
    · rw [splR_two (by have := sizU_le hb hu; omega)]
      rcases u with L | l
      · have h5:L.length = 5 := by have:sizR (Sum.inl L:Ro (d + 1)) = L.length := rfl; have := sizU_le hb hu; omega
        show L.length = _
        simp only [List.map_cons,List.map_nil,List.sum_cons,List.sum_nil]
        show L.length = ((L.take 3).drop 0).length + (((L.take 5).drop 3).length + 0)
        simp only [List.length_drop,List.length_take]
        omega
      · have h5:l.length = 5 := by have:sizR (Sum.inr l:Ro (d + 1)) = l.length := rfl; have := sizU_le hb hu; omega
        show (l.flatMap (keysR d)).length = _
        simp only [List.map_cons,List.map_nil,List.sum_cons,List.sum_nil]
        show (l.flatMap (keysR d)).length = (((l.take 3).drop 0).flatMap (keysR d)).length + ((((l.take 5).drop 3).flatMap (keysR d)).length + 0)
        rw [List.drop_zero,List.take_of_length_le (by omega:l.length <= 5),Nat.add_zero,<- List.length_append,<- List.flatMap_append,List.take_append_drop]
  have h2:((splR u).map (fun t => (keysR (d + 1) t).length)).sum <= ((splR u).map (nodesR (d + 1))).sum * 4 := by
    have fit:∀ t,t ∈ splR u -> (keysR (d + 1) t).length <= nodesR (d + 1) t * 4 := by
      intro t ht
      rcases InsR.bal hb hu.insR with ⟨y,e,hy⟩ | ⟨y,z,e,hy,hz⟩
      · have e' : splR u = [y] := e
        rw [e'] at ht
        simp at ht
        subst ht
        exact fit_len (bal_fit hy)
      · have e' : splR u = [y,z] := e
        rw [e'] at ht
        simp at ht
        rcases ht with rfl | rfl
        · exact fit_len (bal_fit hy)
        · exact fit_len (bal_fit hz)
    clear e
    generalize splR u = rs at fit
    induction rs with
    | nil => simp
    | cons r rs ih =>
      simp only [List.map_cons,List.sum_cons]
      have a1 := fit r (by simp)
      have a2 := ih (fun t ht => fit t (by simp [ht]))
      omega
  have h3:((splR u).map (nodesR (d + 1))).sum <= nodesR (d + 1) t + (d + 1) := h1
  omega

theorem keys_spl {d:Nat} {t:Ro (d + 1)} (h5:sizR t = 5):(([cutR 0 3 t,cutR 3 5 t]:List (Ro (d + 1))).flatMap (keysR (d + 1))).length = (keysR (d + 1) t).length := by
  rcases t with L | l
  · have e:L.length = 5 := h5
    show (((L.take 3).drop 0) ++ (((L.take 5).drop 3) ++ [])).length = L.length
    rw [List.drop_zero,List.append_nil,List.take_of_length_le (by omega:L.length <= 5),List.take_append_drop]
  · have e:l.length = 5 := h5
    show ((((l.take 3).drop 0).flatMap (keysR d)) ++ ((((l.take 5).drop 3).flatMap (keysR d)) ++ [])).length = (l.flatMap (keysR d)).length
    rw [List.drop_zero,List.append_nil,List.take_of_length_le (by omega:l.length <= 5),<- List.flatMap_append,List.take_append_drop]

theorem keys_cat {d h' : Nat} (l:List (Ro (d + 1))) (i:Nat) (hi:i < l.length) (t' : Ro (d + 1)) {rs:List (Ro (d + 1))} (hspl:splU (d + 1) t' = rs) (hb:(∀ t,t ∈ l -> BalR (d + 1) false t h') /\ Asc (l.flatMap (keysR (d + 1))) /\ (∀ k (h:k < l.length),0 < (keysR (d + 1) l[k]).length) /\ nodesR (d + 2) (.inr l) <= 5000) (hk:(keysR (d + 1) t').length <= 100000) (hr:(rs.flatMap (keysR (d + 1))).length = (keysR (d + 1) t').length := by first | rfl | simp):((l.take i ++ splU (d + 1) t' ++ l.drop (i + 1)).flatMap (keysR (d + 1))).length <= 1000000 := by
  rw [hspl,List.flatMap_append,List.flatMap_append,List.length_append,List.length_append,hr]
  have h1 := flat_take_le (keysR (d + 1)) l i
  have h2:((l.drop (i + 1)).flatMap (keysR (d + 1))).length <= (l.flatMap (keysR (d + 1))).length := by
    conv => rhs; rw [<- List.take_append_drop (i + 1) l,List.flatMap_append,List.length_append]
    omega
  have h3:∀ t,t ∈ l -> (keysR (d + 1) t).length <= nodesR (d + 1) t * 4 := fun t ht => fit_len (bal_fit (hb.1 t ht))
  have h4:(l.flatMap (keysR (d + 1))).length <= (l.map (nodesR (d + 1))).sum * 4 := by
    clear h1 h2 hb hi
    induction l with
    | nil => simp
    | cons r rs ih =>
      rw [List.flatMap_cons,List.length_append,List.map_cons,List.sum_cons]
      have a1 := h3 r (by simp)
      have a2 := ih (fun t ht => h3 t (by simp [ht]))
      omega
  have h5:nodesR (d + 2) (.inr l) = 1 + (l.map (nodesR (d + 1))).sum := rfl
  have := hb.2.2.2
  omega

set_option maxHeartbeats 16000000 in
theorem insInnerO (key:ByteArray) (d B:Nat) (l:List (Ro (d + 1))) (v:Value) (bs:List Nat) (w:World) (root:Bool) (h:Nat) (hO:TOw B w (d + 2) (.inr l) v bs) (hd:bs.Nodup) (hbal:BalR (d + 2) root (.inr l) h) (ha:Asc (keysR (d + 2) (.inr l))) (hnod:nodesR (d + 2) (.inr l) <= 5000) (hd22:d + 2 <= 22) (hB:B <= w.heap.size)
    (ih:∀ i (hi:i < l.length) (u:Value) (us:List Nat),TOw B w (d + 1) l[i] u us -> us.Nodup -> CallI u key w (RetO key (d + 1) l[i] u us w)):CallI v key w (RetO key (d + 2) (.inr l) v bs w) := by
  have htat := hO.tat
  have hOlt := hO.lt
  obtain ⟨b,g,kc,xs,bss,rfl,hBb,hx,ho,hl0,hbl,rfl,hall⟩ := hO
  obtain ⟨b2,b4,h',rfl,hbk⟩ := hbal
  have ha' : Asc (l.flatMap (keysR (d + 1))) := ha
  have hp:∀ k (h:k < l.length),0 < (keysR (d + 1) l[k]).length := fun k hk => bal_keys (hbk _ (List.getElem_mem hk))
  refine .inr ⟨b,rfl,?_⟩
  have HKf:Hid (Calls Tryz.prog 193 #[.pointer (some ⟨b,0,none⟩),.string key] w (RetKf l key w)) := kidFor_any (d + 1) b l _ h' key w htat hbk b4
  have hcap := own_cap ho
  obtain ⟨ln,hln⟩:∃ ln,ln = l.length := ⟨_,rfl⟩
  have HLn:Hid (ln = l.length) := hln
  rw [List.nodup_cons,List.nodup_cons] at hd
  have HD:Hid ((b ∉ g :: bss.flatten) /\ g ∉ bss.flatten /\ bss.flatten.Nodup) := hd
  have HO:Hid (w.ownsRow B 68 1 (.slice (some ⟨g,0,none⟩) ln kc) ln xs) := by rw [hln]; exact ho
  have HX:Hid (Bx w b 179 #[.int .i64 ((l.flatMap (keysR (d + 1))).length:Int),.slice (some ⟨g,0,none⟩) ln kc]) := by rw [hln]; exact hx
  have HAll:Hid (∀ k (h:k < l.length),∃ u us,xs[k]? = some u /\ bss[k]? = some us /\ TOw B w (d + 1) l[k] u us) := hall
  have HOlt:Hid (∀ x,x ∈ b :: g :: bss.flatten -> B <= x /\ x < w.heap.size) := hOlt
  have HIH:Hid (∀ i (hi:i < l.length) (u:Value) (us:List Nat),TOw B w (d + 1) l[i] u us -> us.Nodup -> CallI u key w (RetO key (d + 1) l[i] u us w)) := ih
  have HBal:Hid ((∀ t,t ∈ l -> BalR (d + 1) false t h') /\ Asc (l.flatMap (keysR (d + 1))) /\ (∀ k (h:k < l.length),0 < (keysR (d + 1) l[k]).length) /\ nodesR (d + 2) (.inr l) <= 5000) := ⟨hbk,ha',hp,hnod⟩
  rw [<- hln] at hcap hl0 b2 b4
  have p1 := HX.out.cell 1
  simp at p1
  have pz := HX.out.lt
  clear htat hOlt hx ho hall hbk ha ha' hp hd ih hnod hln hbl
  go_enter Tryz.func187,Tryz.ntmps187
  go_wp2_with fail
  (with_reducible refine HKf.out.mono ?_)
  rintro e w1 ⟨i,rfl,hw1,hi,hk1,hk2⟩
  subst hw1
  have HKI:Hid (KidIs l key i) := ⟨hi,hk1,hk2⟩
  obtain ⟨u,us,eu,eus,htk⟩ := HAll.out i hi
  have hiln:i < ln := by rw [HLn.out]; exact hi
  have hmus:us ∈ bss := List.mem_of_getElem? eus
  have HUs:Hid (∀ x,x ∈ us -> x ∈ bss.flatten) := fun x hx => List.mem_flatten.2 ⟨us,hmus,hx⟩
  have hndu:us.Nodup := by
    have := HD.out.2.2
    unfold List.Nodup at this
    rw [List.pairwise_flatten] at this
    exact this.1 us hmus
  have HEq:Hid (xs[i]? = some u /\ bss[i]? = some us) := ⟨eu,eus⟩
  have cgi:w1.cell? ⟨g,i,none⟩ = some u := by
    rw [HO.out.cellAt i (by omega)]
    exact eu
  have i0:(0:Int) <= (i:Int) := by omega
  have i1:(i:Int) < (ln:Int) := by omega
  have hCall := HIH.out i hi u us htk hndu
  have hult := htk.lt
  have HUlt:Hid (∀ x,x ∈ us -> x < w1.heap.size) := fun x hx => (hult x hx).2
  clear htk eu eus hk1 hk2 HKf HIH hult hndu
  rcases hCall with ⟨kb,rfl,hcall⟩ | ⟨kb,rfl,hcall⟩
  · have HC:Hid (Calls Tryz.prog 204 #[.pointer (some ⟨kb,0,none⟩),.string key] w1 (RetO key (d + 1) l[i] (.iface 204 (.pointer (some ⟨kb,0,none⟩))) us w1)) := hcall
    clear hcall
    go_wp2_with fail
    (with_reducible refine HC.out.mono ?_)
    rintro e w2 (⟨hm,rfl,hb2⟩ | ⟨hm,rfl,hf2,t',kb',hkb',hu',hnd⟩)
    · have HR:Hid (RetO key (d + 2) (.inr l) (.iface 174 (.pointer (some ⟨b,0,none⟩))) (b :: g :: bss.flatten) w1 (.returned (.bool false)) w2) := .inl ⟨(mem_kid HBal.out.2.1 HBal.out.2.2.1 HKI.out hi).2 hm,rfl,hb2⟩
      clear hb2 hm HC
      go_wp2
      go_ret
      exact HR.out
    · have HNM:Hid (key ∉ l.flatMap (keysR (d + 1))) := fun q => hm ((mem_kid HBal.out.2.1 HBal.out.2.2.1 HKI.out hi).1 q)
      have HU:Hid (InsU key (d + 1) l[i] t') := hu'
      have h5:sizR t' <= 5 := sizU_le (HBal.out.1 _ (List.getElem_mem hi)) hu'
      have hkl:(keysR (d + 1) t').length <= 100000 := keysU_len (HBal.out.1 _ (List.getElem_mem hi)) hu' (by have := kid_le (d + 1) l i hi; have q:nodesR (d + 1 + 1) (.inr l) <= 5000 := HBal.out.2.2.2; omega) (by omega)
      obtain ⟨n,ka',kc',hkk,hn,hbx⟩:∃ n ka' kc',kb' = kb /\ n = sizR t' /\ Bx w2 kb 206 #[.int .i64 ((keysR (d + 1) t').length:Int),.slice ka' n kc'] := by
        rcases t' with L' | l'
        · obtain ⟨e,ka',kc',hx',_,_⟩ := hnd
          injection e with _ e
          injection e with e
          injection e with e
          injection e with e
          exact ⟨_,ka',kc',e.symm,rfl,e ▸ hx'⟩
        · obtain ⟨e,_⟩ := hnd
          injection e with e _
          exact absurd e (by decide)
      subst hkk
      have HND:Hid (NdI (fun x => (x ∈ us /\ x ≠ kb') \/ w1.heap.size <= x) w2 kb' (d + 1) t' (.iface 204 (.pointer (some ⟨kb',0,none⟩)))) := hnd
      have HF2:Hid (Frs us w1 w2) := hf2
      have HKB:Hid (kb' ∈ us) := hkb'
      have HSz:Hid (n = sizR t' /\ sizR t' <= 5 /\ (keysR (d + 1) t').length <= 100000) := ⟨hn,h5,hkl⟩
      have hnb:b ∉ us := fun q => HD.out.1 (List.mem_cons_of_mem _ (HUs.out b q))
      have hng:g ∉ us := fun q => HD.out.2.1 (HUs.out g q)
      have hgb:g ≠ b := fun e => HD.out.1 (by rw [e]; simp)
      have hgl:g < w1.heap.size := (HOlt.out g (by simp)).2
      have HX2:Hid (Bx w2 b 179 #[.int .i64 ((l.flatMap (keysR (d + 1))).length:Int),.slice (some ⟨g,0,none⟩) ln kc]) := HX.out.of_block (hf2.2.2.2.2 b pz hnb)
      have HO2:Hid (w2.ownsRow B 68 1 (.slice (some ⟨g,0,none⟩) ln kc) ln xs) := own_keep HO.out (fun g' e => by injection e with e; subst e; exact hf2.2.2.2.2 g hgl hng)
      have HLg:Hid (Calls Tryz.prog 210 #[.pointer (some ⟨kb',0,none⟩)] w2 fun e w' => e = .returned (.bool (decide (4 < n))) /\ w' = w2) := largeLeaf_any kb' n kc' ka' _ w2 hbx
      have HOth:Hid (∀ (S' : Nat -> Prop) (W:World),w1.heap.size <= W.heap.size -> (∀ x,x ∈ bss.flatten -> x ∉ us -> S' x /\ W.heap[x]? = w1.heap[x]?) -> AllK S' W (d + 1) (l.take i) (xs.take i) /\ AllK S' W (d + 1) (l.drop (i + 1)) (xs.drop (i + 1))) := by
        intro S' W hz hS
        have hxl:xs.length = l.length := by have := HO.out.1; rw [<- HLn.out]; omega
        have each:∀ k (h:k < l.length),k ≠ i -> ∃ u,xs[k]? = some u /\ TAo S' W (d + 1) l[k] u := by
          intro k hk hne
          obtain ⟨uk,usk,e1,e2,e3⟩ := HAll.out k hk
          have hmk:usk ∈ bss := List.mem_of_getElem? e2
          have hnk:usk.Nodup := by
            have := HD.out.2.2
            unfold List.Nodup at this
            rw [List.pairwise_flatten] at this
            exact this.1 usk hmk
          refine ⟨uk,e1,TAo.keep hz (fun x hx _ => ?_) (e3.tao hnk)⟩
          exact hS x (List.mem_flatten.2 ⟨usk,hmk,hx⟩) (nodup_ne HD.out.2.2 HEq.out.2 e2 hne hx)
        refine ⟨⟨by rw [List.length_take,List.length_take,hxl],fun k hk => ?_⟩,⟨by rw [List.length_drop,List.length_drop,hxl],fun k hk => ?_⟩⟩
        · rw [List.length_take] at hk
          obtain ⟨u,e,q⟩ := each k (by omega) (by omega)
          exact ⟨u,by rw [List.getElem?_take,if_pos (by omega)]; exact e,by rw [List.getElem_take]; exact q⟩
        · rw [List.length_drop] at hk
          obtain ⟨u,e,q⟩ := each (i + 1 + k) (by omega) (by omega)
          exact ⟨u,by rw [List.getElem?_drop]; exact e,by rw [List.getElem_drop]; exact q⟩
      have c1 := HX2.out.cell 1
      simp at c1
      have cz := HX2.out.lt
      have c2:w2.cell? ⟨g,i,none⟩ = some (.iface 204 (.pointer (some ⟨kb',0,none⟩))) := by
        rw [HO2.out.cellAt i (by omega)]
        exact HEq.out.1
      have hz2 := hf2.2.2.2.1
      clear hnd hf2 hkb' hbx hm hu' HC cgi p1
      go_wp2_with fail
      (with_reducible refine HLg.out.mono ?_)
      rintro e w3 ⟨rfl,hw3⟩
      subst hw3
      by_cases h4:4 < n
      · have hn5:sizR t' = 5 := by have := HSz.out; omega
        have h4d:decide (4 < n) = true := decide_eq_true h4
        have hspl:splU (d + 1) t' = [cutR 0 3 t',cutR 3 5 t'] := splR_two hn5
        have HPt:Hid (Calls Tryz.prog 117 #[.iface 204 (.pointer (some ⟨kb',0,none⟩))] w3.drew (RetPart (fun x => ((x ∈ us /\ x ≠ kb') \/ w1.heap.size <= x) /\ x < w3.heap.size) w3.drew kb' d t' (.iface 204 (.pointer (some ⟨kb',0,none⟩))))) := by
          refine part_o d kb' t' _ _ w3.drew (NdI.keep (w := w3) (w' := w3.drew) (Nat.le_refl _) rfl (fun x hx hl => ⟨⟨hx,hl⟩,rfl⟩) HND.out) (fun q => ?_) (fun x hx => hx.2) hn5 (by have := HSz.out.2.2; omega)
          rcases q.1 with q | q
          · exact q.2 rfl
          · have := HUlt.out kb' HKB.out; omega
        have hbkb:b ≠ kb' := fun e => hnb (e ▸ HKB.out)
        have hgkb:g ≠ kb' := fun e => hng (e ▸ HKB.out)
        have h1c:∀ v ∈ xs,v.oneCell' = true := by
          intro v hv
          obtain ⟨k,hkl,e⟩ := List.getElem_of_mem hv
          have hxl := HO.out.1
          obtain ⟨uk,usk,e1,e2,e3⟩ := HAll.out k (by rw [<- HLn.out]; omega)
          rw [List.getElem?_eq_getElem hkl,e] at e1
          injection e1 with e1
          subst e1
          have := e3.tat
          rcases hlk:l[k]'(by rw [<- HLn.out]; omega) with L' | l'
          · rw [hlk] at this; obtain ⟨_,_,_,rfl,_⟩ := this; rfl
          · rw [hlk] at this; obtain ⟨_,_,_,_,rfl,_⟩ := this; rfl
        have H1c:Hid (∀ v ∈ xs,v.oneCell' = true) := h1c
        have c1' : w3.drew.cell? ⟨b,1,none⟩ = some (.slice (some ⟨g,0,none⟩) ln kc) := c1
        have c2' : w3.drew.cell? ⟨g,i,none⟩ = some (.iface 204 (.pointer (some ⟨kb',0,none⟩))) := c2
        clear h1c HLg
        go_upto_region 5 with fail
        refine wp_region_late (S := fun w' => w'.cell? ⟨b,1,none⟩ = some (.slice (some ⟨g,0,none⟩) ln kc)) 19 (by kernel_rfl) c1' (fun hHeld => ?_)
        refine late_take 0 .zero (v := ?_) (by kernel_rfl) (by kernel_rfl) (by kernel_rfl) (by kernel_rfl) (fun _ _ _ h => h) (by rfl) ?_ (by assumption) ?_
        rotate_left
        · (intro w hSw; (try dsimp only at hSw); go_simp) <;> with_reducible rfl
        simp only [Act.put,List.setIfInBounds_toArray,List.set_cons_zero,List.set_cons_succ]
        refine late_take 1 (.succ .zero) (v := ?_) (by kernel_rfl) (by kernel_rfl) (by kernel_rfl) (by kernel_rfl) (fun _ _ _ h => h) (by rfl) ?_ (by assumption) ?_
        rotate_left
        · (intro w hSw; (try dsimp only at hSw); go_simp) <;> with_reducible rfl
        simp only [Act.put,List.setIfInBounds_toArray,List.set_cons_zero,List.set_cons_succ]
        refine late_take 2 (.succ (.succ .zero)) (v := ?_) (by kernel_rfl) (by kernel_rfl) (by kernel_rfl) (by kernel_rfl) (fun _ _ _ h => h) (by rfl) ?_ (by assumption) ?_
        rotate_left
        · (intro w hSw; (try dsimp only at hSw); go_simp) <;> with_reducible rfl
        simp only [Act.put,List.setIfInBounds_toArray,List.set_cons_zero,List.set_cons_succ]
        refine late_take 3 (.succ (.succ (.succ .zero))) (v := ?_) (by kernel_rfl) (by kernel_rfl) (by kernel_rfl) (by kernel_rfl) (fun _ _ _ h => h) (by rfl) ?_ (by assumption) ?_
        rotate_left
        · (intro w hSw; (try dsimp only at hSw); go_simp) <;> with_reducible rfl
        simp only [Act.put,List.setIfInBounds_toArray,List.set_cons_zero,List.set_cons_succ]
        refine late_take 4 (.succ (.succ (.succ (.succ .zero)))) (v := ?_) (by kernel_rfl) (by kernel_rfl) (by kernel_rfl) (by kernel_rfl) (fun _ _ _ h => h) (by rfl) ?_ (by assumption) ?_
        rotate_left
        · (intro w hSw; (try dsimp only at hSw); go_simp) <;> with_reducible rfl
        simp only [Act.put,List.setIfInBounds_toArray,List.set_cons_zero,List.set_cons_succ]
        refine late_take 5 (.succ (.succ (.succ (.succ (.succ .zero))))) (v := ?_) (by kernel_rfl) (by kernel_rfl) (by kernel_rfl) (by kernel_rfl) (fun _ _ _ h => h) (by rfl) ?_ (by assumption) ?_
        rotate_left
        · (intro w hSw; (try dsimp only at hSw); go_simp) <;> with_reducible rfl
        simp only [Act.put,List.setIfInBounds_toArray,List.set_cons_zero,List.set_cons_succ]
        refine late_take 6 (.succ (.succ (.succ (.succ (.succ (.succ .zero)))))) (v := ?_) (by kernel_rfl) (by kernel_rfl) (by kernel_rfl) (by kernel_rfl) (fun _ _ _ h => h) (by rfl) ?_ (by assumption) ?_
        rotate_left
        · (intro w hSw; (try dsimp only at hSw); go_simp) <;> with_reducible rfl
        simp only [Act.put,List.setIfInBounds_toArray,List.set_cons_zero,List.set_cons_succ]
        refine late_take 7 (.succ (.succ (.succ (.succ (.succ (.succ (.succ .zero))))))) (v := ?_) (by kernel_rfl) (by kernel_rfl) (by kernel_rfl) (by kernel_rfl) (fun _ _ _ h => h) (by rfl) ?_ (by assumption) ?_
        rotate_left
        · (intro w hSw; (try dsimp only at hSw); go_simp) <;> with_reducible rfl
        simp only [Act.put,List.setIfInBounds_toArray,List.set_cons_zero,List.set_cons_succ]
        refine late_take 8 (.succ (.succ (.succ (.succ (.succ (.succ (.succ (.succ .zero)))))))) (v := ?_) (by kernel_rfl) (by kernel_rfl) (by kernel_rfl) (by kernel_rfl) (fun _ _ _ h => h) (by rfl) ?_ (by assumption) ?_
        rotate_left
        · (intro w hSw; (try dsimp only at hSw); go_simp) <;> with_reducible rfl
        simp only [Act.put,List.setIfInBounds_toArray,List.set_cons_zero,List.set_cons_succ]
        refine late_take 9 (.succ (.succ (.succ (.succ (.succ (.succ (.succ (.succ (.succ .zero))))))))) (v := ?_) (by kernel_rfl) (by kernel_rfl) (by kernel_rfl) (by kernel_rfl) (fun _ _ _ h => h) (by rfl) ?_ (by assumption) ?_
        rotate_left
        · (intro w hSw; (try dsimp only at hSw); go_simp) <;> with_reducible rfl
        simp only [Act.put,List.setIfInBounds_toArray,List.set_cons_zero,List.set_cons_succ]
        refine late_take 10 (.succ (.succ (.succ (.succ (.succ (.succ (.succ (.succ (.succ (.succ .zero)))))))))) (v := ?_) (by kernel_rfl) (by kernel_rfl) (by kernel_rfl) (by kernel_rfl) (fun _ _ _ h => h) (by rfl) ?_ (by assumption) ?_
        rotate_left
        · (intro w hSw; (try dsimp only at hSw); go_simp) <;> with_reducible rfl
        simp only [Act.put,List.setIfInBounds_toArray,List.set_cons_zero,List.set_cons_succ]
        refine late_take 11 (.succ (.succ (.succ (.succ (.succ (.succ (.succ (.succ (.succ (.succ (.succ .zero))))))))))) (v := ?_) (by kernel_rfl) (by kernel_rfl) (by kernel_rfl) (by kernel_rfl) (fun _ _ _ h => h) (by rfl) ?_ (by assumption) ?_
        rotate_left
        · (intro w hSw; (try dsimp only at hSw); go_simp) <;> with_reducible rfl
        simp only [Act.put,List.setIfInBounds_toArray,List.set_cons_zero,List.set_cons_succ]
        refine late_take 12 (.succ (.succ (.succ (.succ (.succ (.succ (.succ (.succ (.succ (.succ (.succ (.succ .zero)))))))))))) (v := ?_) (by kernel_rfl) (by kernel_rfl) (by kernel_rfl) (by kernel_rfl) (fun _ _ _ h => h) (by rfl) ?_ (by assumption) ?_
        rotate_left
        · (intro w hSw; (try dsimp only at hSw); go_simp) <;> with_reducible rfl
        simp only [Act.put,List.setIfInBounds_toArray,List.set_cons_zero,List.set_cons_succ]
        refine late_one 13 (.succ (.succ (.succ (.succ (.succ (.succ (.succ (.succ (.succ (.succ (.succ (.succ (.succ .zero))))))))))))) (by kernel_rfl) (fun K hK => ?_)
        go_simp
        refine hK.out _ _ ?_ (fun hHeld2 => ?_)
        · (intro _; exact hHeld)
        clear hK K
        replace hHeld := hHeld2 (by decide)
        clear hHeld2
        try simp only [Act.put,List.setIfInBounds_toArray,List.set_cons_zero,List.set_cons_succ]
        refine late_one 14 (.succ (.succ (.succ (.succ (.succ (.succ (.succ (.succ (.succ (.succ (.succ (.succ (.succ (.succ .zero)))))))))))))) (by kernel_rfl) (fun K hK => ?_)
        refine step_t1 (by rfl) 117 40 _ (by rfl) (.iface 204 (.pointer (some ⟨kb',0,none⟩))) (by rfl) (fun _ _ => by rfl) ?_
        (with_reducible refine HPt.out.mono ?_)
        rintro e w4 ⟨ur,rfl,hf4,hta,htb⟩
        obtain ⟨ty,pv,hur⟩:∃ ty pv,ur = .iface ty pv := by
          obtain ⟨bb,_,_,_,q⟩ := htb.count
          rcases q with q | q <;> exact ⟨_,_,q⟩
        subst hur
        refine ⟨_,rfl,?_⟩
        have H4:Hid (Fr2 w3 w4 kb' kb' /\ TAo (fun x => (((x ∈ us /\ x ≠ kb') \/ w1.heap.size <= x) /\ x < w3.heap.size) \/ x = kb' \/ w3.heap.size <= x) w4 (d + 1) (cutR 0 3 t') (.iface 204 (.pointer (some ⟨kb',0,none⟩))) /\ TAo (fun x => (((x ∈ us /\ x ≠ kb') \/ w1.heap.size <= x) /\ x < w3.heap.size) \/ w3.heap.size <= x) w4 (d + 1) (cutR 3 5 t') (.iface ty pv)) := ⟨hf4,hta,htb⟩
        have HX4:Hid (Bx w4 b 179 #[.int .i64 ((l.flatMap (keysR (d + 1))).length:Int),.slice (some ⟨g,0,none⟩) ln kc]) := HX2.out.of_block (hf4.2.2.2.2 b cz hbkb hbkb)
        have HO4:Hid (w4.ownsRow B 68 1 (.slice (some ⟨g,0,none⟩) ln kc) ln xs) := own_keep HO2.out (fun g' e => by injection e with e; subst e; exact hf4.2.2.2.2 g (by show g < w3.heap.size; omega) hgkb hgkb)
        have hz4:w3.heap.size <= w4.heap.size := hf4.2.2.2.1
        have cb4:w4.cell? ⟨b,1,none⟩ = some (.slice (some ⟨g,0,none⟩) ln kc) := by have := HX4.out.cell 1; simpa using this
        have cz4 := HX4.out.lt
        clear hf4 hta htb
        refine hK.out _ _ ?_ (fun hHeld2 => ?_)
        · (intro _; exact cb4)
        clear hK K
        replace hHeld := hHeld2 (by decide)
        clear hHeld2
        try simp only [Act.put,List.setIfInBounds_toArray,List.set_cons_zero,List.set_cons_succ]
        refine late_one 15 (.succ (.succ (.succ (.succ (.succ (.succ (.succ (.succ (.succ (.succ (.succ (.succ (.succ (.succ (.succ .zero))))))))))))))) (by kernel_rfl) (fun K hK => ?_)
        go_simp
        refine hK.out _ _ ?_ (fun hHeld2 => ?_)
        · (intro _; exact ((below_alloc w4 _).cell (p := ⟨b,1,none⟩) cz4).trans cb4)
        clear hK K
        replace hHeld := hHeld2 (by decide)
        clear hHeld2
        try simp only [Act.put,List.setIfInBounds_toArray,List.set_cons_zero,List.set_cons_succ]
        refine late_one 16 (.succ (.succ (.succ (.succ (.succ (.succ (.succ (.succ (.succ (.succ (.succ (.succ (.succ (.succ (.succ (.succ .zero)))))))))))))))) (by kernel_rfl) (fun K hK => ?_)
        have HIn:Hid (Calls Tryz.prog 194 #[.slice (some ⟨g,0,none⟩) ln kc,.int .i64 (IntKind.i64.wrap ((i:Int) + 1)),.slice (some ⟨w4.heap.size,0,none⟩) 1 1] (w4.alloc (.cells #[(.iface ty pv)] 68)) (RetIn (w4.alloc (.cells #[(.iface ty pv)] 68)) g ln (xs.take (i + 1) ++ (.iface ty pv) :: xs.drop (i + 1)))) := by
          have := insN_any B g ln kc (i + 1) w4.heap.size xs (.iface ty pv) (w4.alloc (.cells #[(.iface ty pv)] 68)) (own_below HO4.out (below_alloc _ _)) H1c.out (blk_alloc_new _ _) H4.out.2.2.oneCell (by omega) (by omega) (by omega) (by simp; omega)
          rw [show (((i + 1:Nat)):Int) = IntKind.i64.wrap ((i:Int) + 1) by rw [IntKind.wrap_i64]; omega] at this
          exact this
        refine step_t3 (by rfl) 194 31 33 42 _ (by rfl) (.slice (some ⟨g,0,none⟩) ln kc) (.int .i64 (IntKind.i64.wrap ((i:Int) + 1))) (.slice (some ⟨w4.heap.size,0,none⟩) 1 1) (by rfl) (by rfl) (by rfl) (fun _ _ => by rfl) ?_
        (with_reducible refine HIn.out.mono ?_)
        rintro e w5 ⟨gg,cc,rfl,hcap5,hgl5,hgg,hce5,hg5⟩
        refine ⟨_,rfl,?_⟩
        have HX5:Hid (Bx w5 b 179 #[.int .i64 ((l.flatMap (keysR (d + 1))).length:Int),.slice (some ⟨g,0,none⟩) ln kc]) := (HX4.out.alloc _).grown hg5 (fun e => hgb (by injection e))
        have H5:Hid ((gg = g \/ w4.heap.size + 1 <= gg) /\ (∀ j v,(xs.take (i + 1) ++ (.iface ty pv) :: xs.drop (i + 1))[j]? = some v -> w5.cell? ⟨gg,j,none⟩ = some v) /\ (w4.alloc (.cells #[(.iface ty pv)] 68)).grownBy w5 (some g) /\ (ln + 1 <= cc /\ cc <= 9223372036854775807) /\ gg < w5.heap.size) := ⟨by rcases hgg with h | h; exact .inl h; exact .inr (by simpa using h),hce5,hg5,hcap5,hgl5⟩
        have cb5:w5.cell? ⟨b,1,none⟩ = some (.slice (some ⟨g,0,none⟩) ln kc) := by have := HX5.out.cell 1; simpa using this
        have cz5 := HX5.out.lt
        have cf5 := HX5.out.frozen 1
        clear hgg hce5 hg5 HIn cb4 hcap5 hgl5
        refine hK.out _ _ ?_ (fun hHeld2 => ?_)
        · (intro _; exact cb5)
        clear hK K
        replace hHeld := hHeld2 (by decide)
        clear hHeld2
        try simp only [Act.put,List.setIfInBounds_toArray,List.set_cons_zero,List.set_cons_succ]
        refine late_one 17 (.succ (.succ (.succ (.succ (.succ (.succ (.succ (.succ (.succ (.succ (.succ (.succ (.succ (.succ (.succ (.succ (.succ .zero))))))))))))))))) (by kernel_rfl) (fun K hK => ?_)
        go_simp
        refine hK.out _ _ ?_ (fun hHeld2 => ?_)
        · (intro _; exact hHeld)
        clear hK K
        replace hHeld := hHeld2 (by decide)
        clear hHeld2
        try simp only [Act.put,List.setIfInBounds_toArray,List.set_cons_zero,List.set_cons_succ]
        refine late_one 18 (.succ (.succ (.succ (.succ (.succ (.succ (.succ (.succ (.succ (.succ (.succ (.succ (.succ (.succ (.succ (.succ (.succ (.succ .zero)))))))))))))))))) (by kernel_rfl) (fun K hK => ?_)
        go_simp
        refine hK.out _ _ ?_ (fun hHeld2 => ?_)
        · (intro _; exact hHeld)
        clear hK K
        replace hHeld := hHeld2 (by decide)
        clear hHeld2
        try simp only [Act.put,List.setIfInBounds_toArray,List.set_cons_zero,List.set_cons_succ]
        refine late_one 19 (.succ (.succ (.succ (.succ (.succ (.succ (.succ (.succ (.succ (.succ (.succ (.succ (.succ (.succ (.succ (.succ (.succ (.succ (.succ .zero))))))))))))))))))) (by kernel_rfl) (fun K hK => ?_)
        go_simp
        refine hK.out _ _ ?_ (fun hHeld2 => ?_)
        · (intro hne; exact absurd rfl hne)
        clear hK K hHeld2
        refine wpLate_done (by kernel_rfl) ?_ _
        have hML:(l.take i ++ splU (d + 1) t' ++ l.drop (i + 1)).length = ln + 1 := by
          rw [hspl,List.length_append,List.length_append,List.length_take,List.length_drop,HLn.out]
          simp only [List.length_cons,List.length_nil]
          omega
        have hgb5:gg ≠ b := by rcases H5.out.1 with h | h <;> omega
        have HBlk:Hid (∀ x,x < w4.heap.size -> x ≠ g -> x ≠ b -> (w5.setCell ⟨b,1,none⟩ (.slice (some ⟨gg,0,none⟩) (ln + 1) cc)).heap[x]? = w4.heap[x]?) := by
          intro x hx h1 h2
          rw [Below.heap_setCell _ _ _ _ (show x ≠ b from h2),H5.out.2.2.1.block x (by simp; omega) (fun e => h1 (by injection e))]
          exact (below_alloc w4 _).block x hx
        have HSz6:Hid ((w5.setCell ⟨b,1,none⟩ (.slice (some ⟨gg,0,none⟩) (ln + 1) cc)).heap.size = w5.heap.size /\ w4.heap.size + 1 <= w5.heap.size) := ⟨by simp [World.setCell],by have := H5.out.2.2.1.size; simpa using this⟩
        have HX6:Hid (Bx (w5.setCell ⟨b,1,none⟩ (.slice (some ⟨gg,0,none⟩) (ln + 1) cc)) b 179 #[.int .i64 ((l.flatMap (keysR (d + 1))).length:Int),.slice (some ⟨gg,0,none⟩) (ln + 1) cc]) := by
          exact HX5.out.set 1 (.slice (some ⟨gg,0,none⟩) (ln + 1) cc)
        have HCe6:Hid (∀ j v,(xs.take (i + 1) ++ (.iface ty pv) :: xs.drop (i + 1))[j]? = some v -> (w5.setCell ⟨b,1,none⟩ (.slice (some ⟨gg,0,none⟩) (ln + 1) cc)).cell? ⟨gg,j,none⟩ = some v) := fun j v hj => (World.cell?_of_block (a := ⟨gg,j,none⟩) (Below.heap_setCell _ _ _ _ hgb5)).trans (H5.out.2.1 j v hj)
        have HFr6:Hid (Frs (b :: g :: bss.flatten) w3 (w5.setCell ⟨b,1,none⟩ (.slice (some ⟨gg,0,none⟩) (ln + 1) cc))) := by
          have f1:Frs (b :: g :: bss.flatten) w3 w4 := frs_fr2 H4.out.1 (List.mem_cons_of_mem _ (List.mem_cons_of_mem _ (HUs.out _ HKB.out)))
          have f2:Frs (b :: g :: bss.flatten) w4 (w4.alloc (.cells #[(.iface ty pv)] 68)) := frs_below (below_alloc _ _)
          have f3:Frs (b :: g :: bss.flatten) (w4.alloc (.cells #[(.iface ty pv)] 68)) w5 := frs_grown H5.out.2.2.1 (by simp)
          have f4:Frs (b :: g :: bss.flatten) w5 (w5.setCell ⟨b,1,none⟩ (.slice (some ⟨gg,0,none⟩) (ln + 1) cc)) := ⟨rfl,rfl,rfl,by simp [World.setCell],fun k _ hn => Below.heap_setCell _ _ _ _ (fun e => hn (by rw [e]; simp))⟩
          exact ((f1.trans f2).trans f3).trans f4
        generalize w5.setCell ⟨b,1,none⟩ (.slice (some ⟨gg,0,none⟩) (ln + 1) cc) = W6 at HBlk HSz6 HX6 HCe6 HFr6 ⊢
        clear hHeld cb5 cz5 cf5 c1' c2' c1 c2
        have HFin:Hid (Calls Tryz.prog 118 #[.pointer (some ⟨b,0,none⟩)] W6 fun e w' => e = .returned (.tuple #[]) /\ W6.grownBy w' (some b) /\ NdI (fun x => (x ∈ (b :: g :: bss.flatten) /\ x ≠ b) \/ w1.heap.size <= x) w' b (d + 2) (.inr (l.take i ++ splU (d + 1) t' ++ l.drop (i + 1))) (.iface 174 (.pointer (some ⟨b,0,none⟩)))) := by
          have hs6 := HSz6.out
          have old:∀ x,(((x ∈ us /\ x ≠ kb') \/ w1.heap.size <= x) /\ x < w3.heap.size) \/ x = kb' \/ w3.heap.size <= x -> x < w4.heap.size -> ((x ∈ (b :: g :: bss.flatten) /\ x ≠ b) \/ w1.heap.size <= x) /\ W6.heap[x]? = w4.heap[x]? := by
            intro x hx hl
            have hux:x ∈ us -> ((x ∈ (b :: g :: bss.flatten) /\ x ≠ b) \/ w1.heap.size <= x) /\ W6.heap[x]? = w4.heap[x]? := fun q => ⟨.inl ⟨List.mem_cons_of_mem _ (List.mem_cons_of_mem _ (HUs.out x q)),fun e => hnb (e ▸ q)⟩,HBlk.out x hl (fun e => hng (e ▸ q)) (fun e => hnb (e ▸ q))⟩
            rcases hx with ⟨q | q,_⟩ | q | q
            · exact hux q.1
            · exact ⟨.inr q,HBlk.out x hl (by omega) (by omega)⟩
            · exact hux (q ▸ HKB.out)
            · exact ⟨.inr (by omega),HBlk.out x hl (by omega) (by omega)⟩
          have k1:TAo (fun x => (x ∈ (b :: g :: bss.flatten) /\ x ≠ b) \/ w1.heap.size <= x) W6 (d + 1) (cutR 0 3 t') (.iface 204 (.pointer (some ⟨kb',0,none⟩))) := TAo.keep (by omega) (fun x hx hl => old x hx hl) H4.out.2.1
          have k2:TAo (fun x => (x ∈ (b :: g :: bss.flatten) /\ x ≠ b) \/ w1.heap.size <= x) W6 (d + 1) (cutR 3 5 t') (.iface ty pv) := TAo.keep (by omega) (fun x hx hl => old x (by rcases hx with h | h; exact .inl h; exact .inr (.inr h)) hl) H4.out.2.2
          obtain ⟨o1,o2⟩ := HOth.out (fun x => (x ∈ (b :: g :: bss.flatten) /\ x ≠ b) \/ w1.heap.size <= x) W6 (by omega) (fun x hx hn => by
            have hxl := (HOlt.out x (List.mem_cons_of_mem _ (List.mem_cons_of_mem _ hx))).2
            have hxb:x ≠ b := fun e => HD.out.1 (by rw [<- e]; exact List.mem_cons_of_mem _ hx)
            have hxg:x ≠ g := fun e => HD.out.2.1 (e ▸ hx)
            have hxk:x ≠ kb' := fun e => hn (e ▸ HKB.out)
            exact ⟨.inl ⟨List.mem_cons_of_mem _ (List.mem_cons_of_mem _ hx),hxb⟩,((HBlk.out x (by omega) hxg hxb).trans (H4.out.1.2.2.2.2 x (by omega) hxk hxk)).trans (HF2.out.2.2.2.2 x hxl hn)⟩)
          have hxs:xs.take i ++ [.iface 204 (.pointer (some ⟨kb',0,none⟩))] ++ [(.iface ty pv)] ++ xs.drop (i + 1) = xs.take (i + 1) ++ (.iface ty pv) :: xs.drop (i + 1) := by
            obtain ⟨q1,q2⟩ := List.getElem?_eq_some_iff.1 HEq.out.1
            rw [<- List.take_append_getElem q1,q2]
            simp
          have hak:AllK (fun x => (x ∈ (b :: g :: bss.flatten) /\ x ≠ b) \/ w1.heap.size <= x) W6 (d + 1) (l.take i ++ splU (d + 1) t' ++ l.drop (i + 1)) (xs.take (i + 1) ++ (.iface ty pv) :: xs.drop (i + 1)) := by
            rw [hspl,<- hxs,show l.take i ++ [cutR 0 3 t',cutR 3 5 t'] = l.take i ++ [cutR 0 3 t'] ++ [cutR 3 5 t'] by simp]
            exact ((o1.app (AllK.one k1)).app (AllK.one k2)).app o2
          refine ins_fin (d + 1) b gg cc _ _ _ _ W6 (by rw [hML]; exact HX6.out) (by rw [hML]; exact H5.out.2.2.2.1) (by omega) (by omega) HCe6.out hak (fun q => ?_) ?_ (by have := H5.out.2.2.2.2; omega) ?_
          · rcases q with q | q
            · exact q.2 rfl
            · omega
          · rcases H5.out.1 with h | h
            · exact .inl ⟨by rw [h]; simp,hgb5⟩
            · exact .inr (by omega)
          · exact Nat.le_trans (keys_cat l i hi t' hspl HBal.out HSz.out.2.2 (keys_spl hn5)) (by omega)
        go_wp2_with fail
        (with_reducible refine HFin.out.mono ?_)
        rintro e w7 ⟨rfl,hg7,hnd7⟩
        have HR:Hid (RetO key (d + 2) (.inr l) (.iface 174 (.pointer (some ⟨b,0,none⟩))) (b :: g :: bss.flatten) w1 (.returned (.bool true)) w7) := .inr ⟨HNM.out,rfl,((HF2.out.mono (fun x hx => List.mem_cons_of_mem _ (List.mem_cons_of_mem _ (HUs.out x hx)))).trans HFr6.out).trans (frs_grown hg7 (by simp)),_,b,by simp,⟨i,HKI.out,hi,t',HU.out,rfl⟩,hnd7⟩
        clear hg7 hnd7 HFin
        go_wp2
        go_ret
        exact HR.out
      · have hn4:sizR t' <= 4 := by have := HSz.out; omega
        have h4d:decide (4 < n) = false := decide_eq_false h4
        have hspl:splU (d + 1) t' = [t'] := splR_one hn4
        have HFin:Hid (Calls Tryz.prog 118 #[.pointer (some ⟨b,0,none⟩)] w3 fun e w' => e = .returned (.tuple #[]) /\ w3.grownBy w' (some b) /\ NdI (fun x => (x ∈ (b :: g :: bss.flatten) /\ x ≠ b) \/ w1.heap.size <= x) w' b (d + 2) (.inr (l.take i ++ splU (d + 1) t' ++ l.drop (i + 1))) (.iface 174 (.pointer (some ⟨b,0,none⟩)))) := by
          have hML:(l.take i ++ splU (d + 1) t' ++ l.drop (i + 1)).length = ln := by
            rw [hspl,List.length_append,List.length_append,List.length_take,List.length_drop,HLn.out]
            simp only [List.length_cons,List.length_nil]
            omega
          have hkid:TAo (fun x => (x ∈ (b :: g :: bss.flatten) /\ x ≠ b) \/ w1.heap.size <= x) w3 (d + 1) t' (.iface 204 (.pointer (some ⟨kb',0,none⟩))) := by
            refine TAo.wide (HND.out.tao (fun q => ?_)) (fun x hx _ => ?_)
            · rcases q with q | q
              · exact q.2 rfl
              · have := HUlt.out kb' HKB.out; omega
            · rcases hx with (hx | hx) | hx
              · exact .inl ⟨List.mem_cons_of_mem _ (List.mem_cons_of_mem _ (HUs.out x hx.1)),fun e => hnb (e ▸ hx.1)⟩
              · exact .inr hx
              · subst hx
                exact .inl ⟨List.mem_cons_of_mem _ (List.mem_cons_of_mem _ (HUs.out _ HKB.out)),fun e => hnb (e ▸ HKB.out)⟩
          obtain ⟨o1,o2⟩ := HOth.out (fun x => (x ∈ (b :: g :: bss.flatten) /\ x ≠ b) \/ w1.heap.size <= x) w3 hz2 (fun x hx hn => ⟨.inl ⟨List.mem_cons_of_mem _ (List.mem_cons_of_mem _ hx),fun e => HD.out.1 (by rw [<- e]; exact List.mem_cons_of_mem _ hx)⟩,HF2.out.2.2.2.2 x (HOlt.out x (List.mem_cons_of_mem _ (List.mem_cons_of_mem _ hx))).2 hn⟩)
          have hak:AllK (fun x => (x ∈ (b :: g :: bss.flatten) /\ x ≠ b) \/ w1.heap.size <= x) w3 (d + 1) (l.take i ++ splU (d + 1) t' ++ l.drop (i + 1)) (xs.take i ++ [.iface 204 (.pointer (some ⟨kb',0,none⟩))] ++ xs.drop (i + 1)) := by
            rw [hspl]
            exact (o1.app (AllK.one hkid)).app o2
          have hxs:xs.take i ++ [.iface 204 (.pointer (some ⟨kb',0,none⟩))] ++ xs.drop (i + 1) = xs := by
            obtain ⟨q1,q2⟩ := List.getElem?_eq_some_iff.1 HEq.out.1
            rw [<- q2,List.append_assoc,List.singleton_append,List.getElem_cons_drop,List.take_append_drop]
          rw [hxs] at hak
          refine ins_fin (d + 1) b g kc _ _ xs _ w3 (by rw [hML]; exact HX2.out) (by rw [hML]; exact hcap) (by omega) (by omega) (fun j u hj => ?_) hak (fun q => ?_) (.inl ⟨by simp,hgb⟩) (by omega) ?_
          · have hj2 := (List.getElem?_eq_some_iff.1 hj).1
            have hj3 := HO2.out.1
            rw [HO2.out.cellAt j (by omega)]
            exact hj
          · rcases q with q | q
            · exact q.2 rfl
            · omega
          · exact Nat.le_trans (keys_cat l i hi t' hspl HBal.out HSz.out.2.2) (by omega)
        clear c1 c2 HLg
        go_wp2_with fail
        (with_reducible refine HFin.out.mono ?_)
        rintro e w4 ⟨rfl,hg4,hnd4⟩
        have HR:Hid (RetO key (d + 2) (.inr l) (.iface 174 (.pointer (some ⟨b,0,none⟩))) (b :: g :: bss.flatten) w1 (.returned (.bool true)) w4) := .inr ⟨HNM.out,rfl,(HF2.out.mono (fun x hx => List.mem_cons_of_mem _ (List.mem_cons_of_mem _ (HUs.out x hx)))).trans (frs_grown hg4 (by simp)),_,b,by simp,⟨i,HKI.out,hi,t',HU.out,rfl⟩,hnd4⟩
        clear hg4 hnd4 HFin
        go_wp2
        go_ret
        exact HR.out
  · have HC:Hid (Calls Tryz.prog 187 #[.pointer (some ⟨kb,0,none⟩),.string key] w1 (RetO key (d + 1) l[i] (.iface 174 (.pointer (some ⟨kb,0,none⟩))) us w1)) := hcall
    clear hcall
    go_wp2_with fail
    (with_reducible refine HC.out.mono ?_)
    rintro e w2 (⟨hm,rfl,hb2⟩ | ⟨hm,rfl,hf2,t',kb',hkb',hu',hnd⟩)
    · have HR:Hid (RetO key (d + 2) (.inr l) (.iface 174 (.pointer (some ⟨b,0,none⟩))) (b :: g :: bss.flatten) w1 (.returned (.bool false)) w2) := .inl ⟨(mem_kid HBal.out.2.1 HBal.out.2.2.1 HKI.out hi).2 hm,rfl,hb2⟩
      clear hb2 hm HC
      go_wp2
      go_ret
      exact HR.out
    · have HNM:Hid (key ∉ l.flatMap (keysR (d + 1))) := fun q => hm ((mem_kid HBal.out.2.1 HBal.out.2.2.1 HKI.out hi).1 q)
      have HU:Hid (InsU key (d + 1) l[i] t') := hu'
      have h5:sizR t' <= 5 := sizU_le (HBal.out.1 _ (List.getElem_mem hi)) hu'
      have hkl:(keysR (d + 1) t').length <= 100000 := keysU_len (HBal.out.1 _ (List.getElem_mem hi)) hu' (by have := kid_le (d + 1) l i hi; have q:nodesR (d + 1 + 1) (.inr l) <= 5000 := HBal.out.2.2.2; omega) (by omega)
      obtain ⟨n,ka',kc',hkk,hn,hbx⟩:∃ n ka' kc',kb' = kb /\ n = sizR t' /\ Bx w2 kb 179 #[.int .i64 ((keysR (d + 1) t').length:Int),.slice ka' n kc'] := by
        rcases t' with L' | l'
        · obtain ⟨e,_⟩ := hnd
          injection e with e _
          exact absurd e (by decide)
        · obtain ⟨e,g',o',kc',xs',hx',_⟩ := hnd
          injection e with _ e
          injection e with e
          injection e with e
          injection e with e
          exact ⟨_,_,kc',e.symm,rfl,e ▸ hx'⟩
      subst hkk
      have HND:Hid (NdI (fun x => (x ∈ us /\ x ≠ kb') \/ w1.heap.size <= x) w2 kb' (d + 1) t' (.iface 174 (.pointer (some ⟨kb',0,none⟩)))) := hnd
      have HF2:Hid (Frs us w1 w2) := hf2
      have HKB:Hid (kb' ∈ us) := hkb'
      have HSz:Hid (n = sizR t' /\ sizR t' <= 5 /\ (keysR (d + 1) t').length <= 100000) := ⟨hn,h5,hkl⟩
      have hnb:b ∉ us := fun q => HD.out.1 (List.mem_cons_of_mem _ (HUs.out b q))
      have hng:g ∉ us := fun q => HD.out.2.1 (HUs.out g q)
      have hgb:g ≠ b := fun e => HD.out.1 (by rw [e]; simp)
      have hgl:g < w1.heap.size := (HOlt.out g (by simp)).2
      have HX2:Hid (Bx w2 b 179 #[.int .i64 ((l.flatMap (keysR (d + 1))).length:Int),.slice (some ⟨g,0,none⟩) ln kc]) := HX.out.of_block (hf2.2.2.2.2 b pz hnb)
      have HO2:Hid (w2.ownsRow B 68 1 (.slice (some ⟨g,0,none⟩) ln kc) ln xs) := own_keep HO.out (fun g' e => by injection e with e; subst e; exact hf2.2.2.2.2 g hgl hng)
      have HLg:Hid (Calls Tryz.prog 192 #[.pointer (some ⟨kb',0,none⟩)] w2 fun e w' => e = .returned (.bool (decide (4 < n))) /\ w' = w2) := largeInner_any kb' n kc' ka' _ w2 hbx
      have HOth:Hid (∀ (S' : Nat -> Prop) (W:World),w1.heap.size <= W.heap.size -> (∀ x,x ∈ bss.flatten -> x ∉ us -> S' x /\ W.heap[x]? = w1.heap[x]?) -> AllK S' W (d + 1) (l.take i) (xs.take i) /\ AllK S' W (d + 1) (l.drop (i + 1)) (xs.drop (i + 1))) := by
        intro S' W hz hS
        have hxl:xs.length = l.length := by have := HO.out.1; rw [<- HLn.out]; omega
        have each:∀ k (h:k < l.length),k ≠ i -> ∃ u,xs[k]? = some u /\ TAo S' W (d + 1) l[k] u := by
          intro k hk hne
          obtain ⟨uk,usk,e1,e2,e3⟩ := HAll.out k hk
          have hmk:usk ∈ bss := List.mem_of_getElem? e2
          have hnk:usk.Nodup := by
            have := HD.out.2.2
            unfold List.Nodup at this
            rw [List.pairwise_flatten] at this
            exact this.1 usk hmk
          refine ⟨uk,e1,TAo.keep hz (fun x hx _ => ?_) (e3.tao hnk)⟩
          exact hS x (List.mem_flatten.2 ⟨usk,hmk,hx⟩) (nodup_ne HD.out.2.2 HEq.out.2 e2 hne hx)
        refine ⟨⟨by rw [List.length_take,List.length_take,hxl],fun k hk => ?_⟩,⟨by rw [List.length_drop,List.length_drop,hxl],fun k hk => ?_⟩⟩
        · rw [List.length_take] at hk
          obtain ⟨u,e,q⟩ := each k (by omega) (by omega)
          exact ⟨u,by rw [List.getElem?_take,if_pos (by omega)]; exact e,by rw [List.getElem_take]; exact q⟩
        · rw [List.length_drop] at hk
          obtain ⟨u,e,q⟩ := each (i + 1 + k) (by omega) (by omega)
          exact ⟨u,by rw [List.getElem?_drop]; exact e,by rw [List.getElem_drop]; exact q⟩
      have c1 := HX2.out.cell 1
      simp at c1
      have cz := HX2.out.lt
      have c2:w2.cell? ⟨g,i,none⟩ = some (.iface 174 (.pointer (some ⟨kb',0,none⟩))) := by
        rw [HO2.out.cellAt i (by omega)]
        exact HEq.out.1
      have hz2 := hf2.2.2.2.1
      clear hnd hf2 hkb' hbx hm hu' HC cgi p1
      go_wp2_with fail
      (with_reducible refine HLg.out.mono ?_)
      rintro e w3 ⟨rfl,hw3⟩
      subst hw3
      by_cases h4:4 < n
      · have hn5:sizR t' = 5 := by have := HSz.out; omega
        have h4d:decide (4 < n) = true := decide_eq_true h4
        have hspl:splU (d + 1) t' = [cutR 0 3 t',cutR 3 5 t'] := splR_two hn5
        have HPt:Hid (Calls Tryz.prog 117 #[.iface 174 (.pointer (some ⟨kb',0,none⟩))] w3.drew (RetPart (fun x => ((x ∈ us /\ x ≠ kb') \/ w1.heap.size <= x) /\ x < w3.heap.size) w3.drew kb' d t' (.iface 174 (.pointer (some ⟨kb',0,none⟩))))) := by
          refine part_o d kb' t' _ _ w3.drew (NdI.keep (w := w3) (w' := w3.drew) (Nat.le_refl _) rfl (fun x hx hl => ⟨⟨hx,hl⟩,rfl⟩) HND.out) (fun q => ?_) (fun x hx => hx.2) hn5 (by have := HSz.out.2.2; omega)
          rcases q.1 with q | q
          · exact q.2 rfl
          · have := HUlt.out kb' HKB.out; omega
        have hbkb:b ≠ kb' := fun e => hnb (e ▸ HKB.out)
        have hgkb:g ≠ kb' := fun e => hng (e ▸ HKB.out)
        have h1c:∀ v ∈ xs,v.oneCell' = true := by
          intro v hv
          obtain ⟨k,hkl,e⟩ := List.getElem_of_mem hv
          have hxl := HO.out.1
          obtain ⟨uk,usk,e1,e2,e3⟩ := HAll.out k (by rw [<- HLn.out]; omega)
          rw [List.getElem?_eq_getElem hkl,e] at e1
          injection e1 with e1
          subst e1
          have := e3.tat
          rcases hlk:l[k]'(by rw [<- HLn.out]; omega) with L' | l'
          · rw [hlk] at this; obtain ⟨_,_,_,rfl,_⟩ := this; rfl
          · rw [hlk] at this; obtain ⟨_,_,_,_,rfl,_⟩ := this; rfl
        have H1c:Hid (∀ v ∈ xs,v.oneCell' = true) := h1c
        have c1' : w3.drew.cell? ⟨b,1,none⟩ = some (.slice (some ⟨g,0,none⟩) ln kc) := c1
        have c2' : w3.drew.cell? ⟨g,i,none⟩ = some (.iface 174 (.pointer (some ⟨kb',0,none⟩))) := c2
        clear h1c HLg
        go_upto_region 5 with fail
        refine wp_region_late (S := fun w' => w'.cell? ⟨b,1,none⟩ = some (.slice (some ⟨g,0,none⟩) ln kc)) 19 (by kernel_rfl) c1' (fun hHeld => ?_)
        refine late_take 0 .zero (v := ?_) (by kernel_rfl) (by kernel_rfl) (by kernel_rfl) (by kernel_rfl) (fun _ _ _ h => h) (by rfl) ?_ (by assumption) ?_
        rotate_left
        · (intro w hSw; (try dsimp only at hSw); go_simp) <;> with_reducible rfl
        simp only [Act.put,List.setIfInBounds_toArray,List.set_cons_zero,List.set_cons_succ]
        refine late_take 1 (.succ .zero) (v := ?_) (by kernel_rfl) (by kernel_rfl) (by kernel_rfl) (by kernel_rfl) (fun _ _ _ h => h) (by rfl) ?_ (by assumption) ?_
        rotate_left
        · (intro w hSw; (try dsimp only at hSw); go_simp) <;> with_reducible rfl
        simp only [Act.put,List.setIfInBounds_toArray,List.set_cons_zero,List.set_cons_succ]
        refine late_take 2 (.succ (.succ .zero)) (v := ?_) (by kernel_rfl) (by kernel_rfl) (by kernel_rfl) (by kernel_rfl) (fun _ _ _ h => h) (by rfl) ?_ (by assumption) ?_
        rotate_left
        · (intro w hSw; (try dsimp only at hSw); go_simp) <;> with_reducible rfl
        simp only [Act.put,List.setIfInBounds_toArray,List.set_cons_zero,List.set_cons_succ]
        refine late_take 3 (.succ (.succ (.succ .zero))) (v := ?_) (by kernel_rfl) (by kernel_rfl) (by kernel_rfl) (by kernel_rfl) (fun _ _ _ h => h) (by rfl) ?_ (by assumption) ?_
        rotate_left
        · (intro w hSw; (try dsimp only at hSw); go_simp) <;> with_reducible rfl
        simp only [Act.put,List.setIfInBounds_toArray,List.set_cons_zero,List.set_cons_succ]
        refine late_take 4 (.succ (.succ (.succ (.succ .zero)))) (v := ?_) (by kernel_rfl) (by kernel_rfl) (by kernel_rfl) (by kernel_rfl) (fun _ _ _ h => h) (by rfl) ?_ (by assumption) ?_
        rotate_left
        · (intro w hSw; (try dsimp only at hSw); go_simp) <;> with_reducible rfl
        simp only [Act.put,List.setIfInBounds_toArray,List.set_cons_zero,List.set_cons_succ]
        refine late_take 5 (.succ (.succ (.succ (.succ (.succ .zero))))) (v := ?_) (by kernel_rfl) (by kernel_rfl) (by kernel_rfl) (by kernel_rfl) (fun _ _ _ h => h) (by rfl) ?_ (by assumption) ?_
        rotate_left
        · (intro w hSw; (try dsimp only at hSw); go_simp) <;> with_reducible rfl
        simp only [Act.put,List.setIfInBounds_toArray,List.set_cons_zero,List.set_cons_succ]
        refine late_take 6 (.succ (.succ (.succ (.succ (.succ (.succ .zero)))))) (v := ?_) (by kernel_rfl) (by kernel_rfl) (by kernel_rfl) (by kernel_rfl) (fun _ _ _ h => h) (by rfl) ?_ (by assumption) ?_
        rotate_left
        · (intro w hSw; (try dsimp only at hSw); go_simp) <;> with_reducible rfl
        simp only [Act.put,List.setIfInBounds_toArray,List.set_cons_zero,List.set_cons_succ]
        refine late_take 7 (.succ (.succ (.succ (.succ (.succ (.succ (.succ .zero))))))) (v := ?_) (by kernel_rfl) (by kernel_rfl) (by kernel_rfl) (by kernel_rfl) (fun _ _ _ h => h) (by rfl) ?_ (by assumption) ?_
        rotate_left
        · (intro w hSw; (try dsimp only at hSw); go_simp) <;> with_reducible rfl
        simp only [Act.put,List.setIfInBounds_toArray,List.set_cons_zero,List.set_cons_succ]
        refine late_take 8 (.succ (.succ (.succ (.succ (.succ (.succ (.succ (.succ .zero)))))))) (v := ?_) (by kernel_rfl) (by kernel_rfl) (by kernel_rfl) (by kernel_rfl) (fun _ _ _ h => h) (by rfl) ?_ (by assumption) ?_
        rotate_left
        · (intro w hSw; (try dsimp only at hSw); go_simp) <;> with_reducible rfl
        simp only [Act.put,List.setIfInBounds_toArray,List.set_cons_zero,List.set_cons_succ]
        refine late_take 9 (.succ (.succ (.succ (.succ (.succ (.succ (.succ (.succ (.succ .zero))))))))) (v := ?_) (by kernel_rfl) (by kernel_rfl) (by kernel_rfl) (by kernel_rfl) (fun _ _ _ h => h) (by rfl) ?_ (by assumption) ?_
        rotate_left
        · (intro w hSw; (try dsimp only at hSw); go_simp) <;> with_reducible rfl
        simp only [Act.put,List.setIfInBounds_toArray,List.set_cons_zero,List.set_cons_succ]
        refine late_take 10 (.succ (.succ (.succ (.succ (.succ (.succ (.succ (.succ (.succ (.succ .zero)))))))))) (v := ?_) (by kernel_rfl) (by kernel_rfl) (by kernel_rfl) (by kernel_rfl) (fun _ _ _ h => h) (by rfl) ?_ (by assumption) ?_
        rotate_left
        · (intro w hSw; (try dsimp only at hSw); go_simp) <;> with_reducible rfl
        simp only [Act.put,List.setIfInBounds_toArray,List.set_cons_zero,List.set_cons_succ]
        refine late_take 11 (.succ (.succ (.succ (.succ (.succ (.succ (.succ (.succ (.succ (.succ (.succ .zero))))))))))) (v := ?_) (by kernel_rfl) (by kernel_rfl) (by kernel_rfl) (by kernel_rfl) (fun _ _ _ h => h) (by rfl) ?_ (by assumption) ?_
        rotate_left
        · (intro w hSw; (try dsimp only at hSw); go_simp) <;> with_reducible rfl
        simp only [Act.put,List.setIfInBounds_toArray,List.set_cons_zero,List.set_cons_succ]
        refine late_take 12 (.succ (.succ (.succ (.succ (.succ (.succ (.succ (.succ (.succ (.succ (.succ (.succ .zero)))))))))))) (v := ?_) (by kernel_rfl) (by kernel_rfl) (by kernel_rfl) (by kernel_rfl) (fun _ _ _ h => h) (by rfl) ?_ (by assumption) ?_
        rotate_left
        · (intro w hSw; (try dsimp only at hSw); go_simp) <;> with_reducible rfl
        simp only [Act.put,List.setIfInBounds_toArray,List.set_cons_zero,List.set_cons_succ]
        refine late_one 13 (.succ (.succ (.succ (.succ (.succ (.succ (.succ (.succ (.succ (.succ (.succ (.succ (.succ .zero))))))))))))) (by kernel_rfl) (fun K hK => ?_)
        go_simp
        refine hK.out _ _ ?_ (fun hHeld2 => ?_)
        · (intro _; exact hHeld)
        clear hK K
        replace hHeld := hHeld2 (by decide)
        clear hHeld2
        try simp only [Act.put,List.setIfInBounds_toArray,List.set_cons_zero,List.set_cons_succ]
        refine late_one 14 (.succ (.succ (.succ (.succ (.succ (.succ (.succ (.succ (.succ (.succ (.succ (.succ (.succ (.succ .zero)))))))))))))) (by kernel_rfl) (fun K hK => ?_)
        refine step_t1 (by rfl) 117 40 _ (by rfl) (.iface 174 (.pointer (some ⟨kb',0,none⟩))) (by rfl) (fun _ _ => by rfl) ?_
        (with_reducible refine HPt.out.mono ?_)
        rintro e w4 ⟨ur,rfl,hf4,hta,htb⟩
        obtain ⟨ty,pv,hur⟩:∃ ty pv,ur = .iface ty pv := by
          obtain ⟨bb,_,_,_,q⟩ := htb.count
          rcases q with q | q <;> exact ⟨_,_,q⟩
        subst hur
        refine ⟨_,rfl,?_⟩
        have H4:Hid (Fr2 w3 w4 kb' kb' /\ TAo (fun x => (((x ∈ us /\ x ≠ kb') \/ w1.heap.size <= x) /\ x < w3.heap.size) \/ x = kb' \/ w3.heap.size <= x) w4 (d + 1) (cutR 0 3 t') (.iface 174 (.pointer (some ⟨kb',0,none⟩))) /\ TAo (fun x => (((x ∈ us /\ x ≠ kb') \/ w1.heap.size <= x) /\ x < w3.heap.size) \/ w3.heap.size <= x) w4 (d + 1) (cutR 3 5 t') (.iface ty pv)) := ⟨hf4,hta,htb⟩
        have HX4:Hid (Bx w4 b 179 #[.int .i64 ((l.flatMap (keysR (d + 1))).length:Int),.slice (some ⟨g,0,none⟩) ln kc]) := HX2.out.of_block (hf4.2.2.2.2 b cz hbkb hbkb)
        have HO4:Hid (w4.ownsRow B 68 1 (.slice (some ⟨g,0,none⟩) ln kc) ln xs) := own_keep HO2.out (fun g' e => by injection e with e; subst e; exact hf4.2.2.2.2 g (by show g < w3.heap.size; omega) hgkb hgkb)
        have hz4:w3.heap.size <= w4.heap.size := hf4.2.2.2.1
        have cb4:w4.cell? ⟨b,1,none⟩ = some (.slice (some ⟨g,0,none⟩) ln kc) := by have := HX4.out.cell 1; simpa using this
        have cz4 := HX4.out.lt
        clear hf4 hta htb
        refine hK.out _ _ ?_ (fun hHeld2 => ?_)
        · (intro _; exact cb4)
        clear hK K
        replace hHeld := hHeld2 (by decide)
        clear hHeld2
        try simp only [Act.put,List.setIfInBounds_toArray,List.set_cons_zero,List.set_cons_succ]
        refine late_one 15 (.succ (.succ (.succ (.succ (.succ (.succ (.succ (.succ (.succ (.succ (.succ (.succ (.succ (.succ (.succ .zero))))))))))))))) (by kernel_rfl) (fun K hK => ?_)
        go_simp
        refine hK.out _ _ ?_ (fun hHeld2 => ?_)
        · (intro _; exact ((below_alloc w4 _).cell (p := ⟨b,1,none⟩) cz4).trans cb4)
        clear hK K
        replace hHeld := hHeld2 (by decide)
        clear hHeld2
        try simp only [Act.put,List.setIfInBounds_toArray,List.set_cons_zero,List.set_cons_succ]
        refine late_one 16 (.succ (.succ (.succ (.succ (.succ (.succ (.succ (.succ (.succ (.succ (.succ (.succ (.succ (.succ (.succ (.succ .zero)))))))))))))))) (by kernel_rfl) (fun K hK => ?_)
        have HIn:Hid (Calls Tryz.prog 194 #[.slice (some ⟨g,0,none⟩) ln kc,.int .i64 (IntKind.i64.wrap ((i:Int) + 1)),.slice (some ⟨w4.heap.size,0,none⟩) 1 1] (w4.alloc (.cells #[(.iface ty pv)] 68)) (RetIn (w4.alloc (.cells #[(.iface ty pv)] 68)) g ln (xs.take (i + 1) ++ (.iface ty pv) :: xs.drop (i + 1)))) := by
          have := insN_any B g ln kc (i + 1) w4.heap.size xs (.iface ty pv) (w4.alloc (.cells #[(.iface ty pv)] 68)) (own_below HO4.out (below_alloc _ _)) H1c.out (blk_alloc_new _ _) H4.out.2.2.oneCell (by omega) (by omega) (by omega) (by simp; omega)
          rw [show (((i + 1:Nat)):Int) = IntKind.i64.wrap ((i:Int) + 1) by rw [IntKind.wrap_i64]; omega] at this
          exact this
        refine step_t3 (by rfl) 194 31 33 42 _ (by rfl) (.slice (some ⟨g,0,none⟩) ln kc) (.int .i64 (IntKind.i64.wrap ((i:Int) + 1))) (.slice (some ⟨w4.heap.size,0,none⟩) 1 1) (by rfl) (by rfl) (by rfl) (fun _ _ => by rfl) ?_
        (with_reducible refine HIn.out.mono ?_)
        rintro e w5 ⟨gg,cc,rfl,hcap5,hgl5,hgg,hce5,hg5⟩
        refine ⟨_,rfl,?_⟩
        have HX5:Hid (Bx w5 b 179 #[.int .i64 ((l.flatMap (keysR (d + 1))).length:Int),.slice (some ⟨g,0,none⟩) ln kc]) := (HX4.out.alloc _).grown hg5 (fun e => hgb (by injection e))
        have H5:Hid ((gg = g \/ w4.heap.size + 1 <= gg) /\ (∀ j v,(xs.take (i + 1) ++ (.iface ty pv) :: xs.drop (i + 1))[j]? = some v -> w5.cell? ⟨gg,j,none⟩ = some v) /\ (w4.alloc (.cells #[(.iface ty pv)] 68)).grownBy w5 (some g) /\ (ln + 1 <= cc /\ cc <= 9223372036854775807) /\ gg < w5.heap.size) := ⟨by rcases hgg with h | h; exact .inl h; exact .inr (by simpa using h),hce5,hg5,hcap5,hgl5⟩
        have cb5:w5.cell? ⟨b,1,none⟩ = some (.slice (some ⟨g,0,none⟩) ln kc) := by have := HX5.out.cell 1; simpa using this
        have cz5 := HX5.out.lt
        have cf5 := HX5.out.frozen 1
        clear hgg hce5 hg5 HIn cb4 hcap5 hgl5
        refine hK.out _ _ ?_ (fun hHeld2 => ?_)
        · (intro _; exact cb5)
        clear hK K
        replace hHeld := hHeld2 (by decide)
        clear hHeld2
        try simp only [Act.put,List.setIfInBounds_toArray,List.set_cons_zero,List.set_cons_succ]
        refine late_one 17 (.succ (.succ (.succ (.succ (.succ (.succ (.succ (.succ (.succ (.succ (.succ (.succ (.succ (.succ (.succ (.succ (.succ .zero))))))))))))))))) (by kernel_rfl) (fun K hK => ?_)
        go_simp
        refine hK.out _ _ ?_ (fun hHeld2 => ?_)
        · (intro _; exact hHeld)
        clear hK K
        replace hHeld := hHeld2 (by decide)
        clear hHeld2
        try simp only [Act.put,List.setIfInBounds_toArray,List.set_cons_zero,List.set_cons_succ]
        refine late_one 18 (.succ (.succ (.succ (.succ (.succ (.succ (.succ (.succ (.succ (.succ (.succ (.succ (.succ (.succ (.succ (.succ (.succ (.succ .zero)))))))))))))))))) (by kernel_rfl) (fun K hK => ?_)
        go_simp
        refine hK.out _ _ ?_ (fun hHeld2 => ?_)
        · (intro _; exact hHeld)
        clear hK K
        replace hHeld := hHeld2 (by decide)
        clear hHeld2
        try simp only [Act.put,List.setIfInBounds_toArray,List.set_cons_zero,List.set_cons_succ]
        refine late_one 19 (.succ (.succ (.succ (.succ (.succ (.succ (.succ (.succ (.succ (.succ (.succ (.succ (.succ (.succ (.succ (.succ (.succ (.succ (.succ .zero))))))))))))))))))) (by kernel_rfl) (fun K hK => ?_)
        go_simp
        refine hK.out _ _ ?_ (fun hHeld2 => ?_)
        · (intro hne; exact absurd rfl hne)
        clear hK K hHeld2
        refine wpLate_done (by kernel_rfl) ?_ _
        have hML:(l.take i ++ splU (d + 1) t' ++ l.drop (i + 1)).length = ln + 1 := by
          rw [hspl,List.length_append,List.length_append,List.length_take,List.length_drop,HLn.out]
          simp only [List.length_cons,List.length_nil]
          omega
        have hgb5:gg ≠ b := by rcases H5.out.1 with h | h <;> omega
        have HBlk:Hid (∀ x,x < w4.heap.size -> x ≠ g -> x ≠ b -> (w5.setCell ⟨b,1,none⟩ (.slice (some ⟨gg,0,none⟩) (ln + 1) cc)).heap[x]? = w4.heap[x]?) := by
          intro x hx h1 h2
          rw [Below.heap_setCell _ _ _ _ (show x ≠ b from h2),H5.out.2.2.1.block x (by simp; omega) (fun e => h1 (by injection e))]
          exact (below_alloc w4 _).block x hx
        have HSz6:Hid ((w5.setCell ⟨b,1,none⟩ (.slice (some ⟨gg,0,none⟩) (ln + 1) cc)).heap.size = w5.heap.size /\ w4.heap.size + 1 <= w5.heap.size) := ⟨by simp [World.setCell],by have := H5.out.2.2.1.size; simpa using this⟩
        have HX6:Hid (Bx (w5.setCell ⟨b,1,none⟩ (.slice (some ⟨gg,0,none⟩) (ln + 1) cc)) b 179 #[.int .i64 ((l.flatMap (keysR (d + 1))).length:Int),.slice (some ⟨gg,0,none⟩) (ln + 1) cc]) := by
          exact HX5.out.set 1 (.slice (some ⟨gg,0,none⟩) (ln + 1) cc)
        have HCe6:Hid (∀ j v,(xs.take (i + 1) ++ (.iface ty pv) :: xs.drop (i + 1))[j]? = some v -> (w5.setCell ⟨b,1,none⟩ (.slice (some ⟨gg,0,none⟩) (ln + 1) cc)).cell? ⟨gg,j,none⟩ = some v) := fun j v hj => (World.cell?_of_block (a := ⟨gg,j,none⟩) (Below.heap_setCell _ _ _ _ hgb5)).trans (H5.out.2.1 j v hj)
        have HFr6:Hid (Frs (b :: g :: bss.flatten) w3 (w5.setCell ⟨b,1,none⟩ (.slice (some ⟨gg,0,none⟩) (ln + 1) cc))) := by
          have f1:Frs (b :: g :: bss.flatten) w3 w4 := frs_fr2 H4.out.1 (List.mem_cons_of_mem _ (List.mem_cons_of_mem _ (HUs.out _ HKB.out)))
          have f2:Frs (b :: g :: bss.flatten) w4 (w4.alloc (.cells #[(.iface ty pv)] 68)) := frs_below (below_alloc _ _)
          have f3:Frs (b :: g :: bss.flatten) (w4.alloc (.cells #[(.iface ty pv)] 68)) w5 := frs_grown H5.out.2.2.1 (by simp)
          have f4:Frs (b :: g :: bss.flatten) w5 (w5.setCell ⟨b,1,none⟩ (.slice (some ⟨gg,0,none⟩) (ln + 1) cc)) := ⟨rfl,rfl,rfl,by simp [World.setCell],fun k _ hn => Below.heap_setCell _ _ _ _ (fun e => hn (by rw [e]; simp))⟩
          exact ((f1.trans f2).trans f3).trans f4
        generalize w5.setCell ⟨b,1,none⟩ (.slice (some ⟨gg,0,none⟩) (ln + 1) cc) = W6 at HBlk HSz6 HX6 HCe6 HFr6 ⊢
        clear hHeld cb5 cz5 cf5 c1' c2' c1 c2
        have HFin:Hid (Calls Tryz.prog 118 #[.pointer (some ⟨b,0,none⟩)] W6 fun e w' => e = .returned (.tuple #[]) /\ W6.grownBy w' (some b) /\ NdI (fun x => (x ∈ (b :: g :: bss.flatten) /\ x ≠ b) \/ w1.heap.size <= x) w' b (d + 2) (.inr (l.take i ++ splU (d + 1) t' ++ l.drop (i + 1))) (.iface 174 (.pointer (some ⟨b,0,none⟩)))) := by
          have hs6 := HSz6.out
          have old:∀ x,(((x ∈ us /\ x ≠ kb') \/ w1.heap.size <= x) /\ x < w3.heap.size) \/ x = kb' \/ w3.heap.size <= x -> x < w4.heap.size -> ((x ∈ (b :: g :: bss.flatten) /\ x ≠ b) \/ w1.heap.size <= x) /\ W6.heap[x]? = w4.heap[x]? := by
            intro x hx hl
            have hux:x ∈ us -> ((x ∈ (b :: g :: bss.flatten) /\ x ≠ b) \/ w1.heap.size <= x) /\ W6.heap[x]? = w4.heap[x]? := fun q => ⟨.inl ⟨List.mem_cons_of_mem _ (List.mem_cons_of_mem _ (HUs.out x q)),fun e => hnb (e ▸ q)⟩,HBlk.out x hl (fun e => hng (e ▸ q)) (fun e => hnb (e ▸ q))⟩
            rcases hx with ⟨q | q,_⟩ | q | q
            · exact hux q.1
            · exact ⟨.inr q,HBlk.out x hl (by omega) (by omega)⟩
            · exact hux (q ▸ HKB.out)
            · exact ⟨.inr (by omega),HBlk.out x hl (by omega) (by omega)⟩
          have k1:TAo (fun x => (x ∈ (b :: g :: bss.flatten) /\ x ≠ b) \/ w1.heap.size <= x) W6 (d + 1) (cutR 0 3 t') (.iface 174 (.pointer (some ⟨kb',0,none⟩))) := TAo.keep (by omega) (fun x hx hl => old x hx hl) H4.out.2.1
          have k2:TAo (fun x => (x ∈ (b :: g :: bss.flatten) /\ x ≠ b) \/ w1.heap.size <= x) W6 (d + 1) (cutR 3 5 t') (.iface ty pv) := TAo.keep (by omega) (fun x hx hl => old x (by rcases hx with h | h; exact .inl h; exact .inr (.inr h)) hl) H4.out.2.2
          obtain ⟨o1,o2⟩ := HOth.out (fun x => (x ∈ (b :: g :: bss.flatten) /\ x ≠ b) \/ w1.heap.size <= x) W6 (by omega) (fun x hx hn => by
            have hxl := (HOlt.out x (List.mem_cons_of_mem _ (List.mem_cons_of_mem _ hx))).2
            have hxb:x ≠ b := fun e => HD.out.1 (by rw [<- e]; exact List.mem_cons_of_mem _ hx)
            have hxg:x ≠ g := fun e => HD.out.2.1 (e ▸ hx)
            have hxk:x ≠ kb' := fun e => hn (e ▸ HKB.out)
            exact ⟨.inl ⟨List.mem_cons_of_mem _ (List.mem_cons_of_mem _ hx),hxb⟩,((HBlk.out x (by omega) hxg hxb).trans (H4.out.1.2.2.2.2 x (by omega) hxk hxk)).trans (HF2.out.2.2.2.2 x hxl hn)⟩)
          have hxs:xs.take i ++ [.iface 174 (.pointer (some ⟨kb',0,none⟩))] ++ [(.iface ty pv)] ++ xs.drop (i + 1) = xs.take (i + 1) ++ (.iface ty pv) :: xs.drop (i + 1) := by
            obtain ⟨q1,q2⟩ := List.getElem?_eq_some_iff.1 HEq.out.1
            rw [<- List.take_append_getElem q1,q2]
            simp
          have hak:AllK (fun x => (x ∈ (b :: g :: bss.flatten) /\ x ≠ b) \/ w1.heap.size <= x) W6 (d + 1) (l.take i ++ splU (d + 1) t' ++ l.drop (i + 1)) (xs.take (i + 1) ++ (.iface ty pv) :: xs.drop (i + 1)) := by
            rw [hspl,<- hxs,show l.take i ++ [cutR 0 3 t',cutR 3 5 t'] = l.take i ++ [cutR 0 3 t'] ++ [cutR 3 5 t'] by simp]
            exact ((o1.app (AllK.one k1)).app (AllK.one k2)).app o2
          refine ins_fin (d + 1) b gg cc _ _ _ _ W6 (by rw [hML]; exact HX6.out) (by rw [hML]; exact H5.out.2.2.2.1) (by omega) (by omega) HCe6.out hak (fun q => ?_) ?_ (by have := H5.out.2.2.2.2; omega) ?_
          · rcases q with q | q
            · exact q.2 rfl
            · omega
          · rcases H5.out.1 with h | h
            · exact .inl ⟨by rw [h]; simp,hgb5⟩
            · exact .inr (by omega)
          · exact Nat.le_trans (keys_cat l i hi t' hspl HBal.out HSz.out.2.2 (keys_spl hn5)) (by omega)
        go_wp2_with fail
        (with_reducible refine HFin.out.mono ?_)
        rintro e w7 ⟨rfl,hg7,hnd7⟩
        have HR:Hid (RetO key (d + 2) (.inr l) (.iface 174 (.pointer (some ⟨b,0,none⟩))) (b :: g :: bss.flatten) w1 (.returned (.bool true)) w7) := .inr ⟨HNM.out,rfl,((HF2.out.mono (fun x hx => List.mem_cons_of_mem _ (List.mem_cons_of_mem _ (HUs.out x hx)))).trans HFr6.out).trans (frs_grown hg7 (by simp)),_,b,by simp,⟨i,HKI.out,hi,t',HU.out,rfl⟩,hnd7⟩
        clear hg7 hnd7 HFin
        go_wp2
        go_ret
        exact HR.out
      · have hn4:sizR t' <= 4 := by have := HSz.out; omega
        have h4d:decide (4 < n) = false := decide_eq_false h4
        have hspl:splU (d + 1) t' = [t'] := splR_one hn4
        have HFin:Hid (Calls Tryz.prog 118 #[.pointer (some ⟨b,0,none⟩)] w3 fun e w' => e = .returned (.tuple #[]) /\ w3.grownBy w' (some b) /\ NdI (fun x => (x ∈ (b :: g :: bss.flatten) /\ x ≠ b) \/ w1.heap.size <= x) w' b (d + 2) (.inr (l.take i ++ splU (d + 1) t' ++ l.drop (i + 1))) (.iface 174 (.pointer (some ⟨b,0,none⟩)))) := by
          have hML:(l.take i ++ splU (d + 1) t' ++ l.drop (i + 1)).length = ln := by
            rw [hspl,List.length_append,List.length_append,List.length_take,List.length_drop,HLn.out]
            simp only [List.length_cons,List.length_nil]
            omega
          have hkid:TAo (fun x => (x ∈ (b :: g :: bss.flatten) /\ x ≠ b) \/ w1.heap.size <= x) w3 (d + 1) t' (.iface 174 (.pointer (some ⟨kb',0,none⟩))) := by
            refine TAo.wide (HND.out.tao (fun q => ?_)) (fun x hx _ => ?_)
            · rcases q with q | q
              · exact q.2 rfl
              · have := HUlt.out kb' HKB.out; omega
            · rcases hx with (hx | hx) | hx
              · exact .inl ⟨List.mem_cons_of_mem _ (List.mem_cons_of_mem _ (HUs.out x hx.1)),fun e => hnb (e ▸ hx.1)⟩
              · exact .inr hx
              · subst hx
                exact .inl ⟨List.mem_cons_of_mem _ (List.mem_cons_of_mem _ (HUs.out _ HKB.out)),fun e => hnb (e ▸ HKB.out)⟩
          obtain ⟨o1,o2⟩ := HOth.out (fun x => (x ∈ (b :: g :: bss.flatten) /\ x ≠ b) \/ w1.heap.size <= x) w3 hz2 (fun x hx hn => ⟨.inl ⟨List.mem_cons_of_mem _ (List.mem_cons_of_mem _ hx),fun e => HD.out.1 (by rw [<- e]; exact List.mem_cons_of_mem _ hx)⟩,HF2.out.2.2.2.2 x (HOlt.out x (List.mem_cons_of_mem _ (List.mem_cons_of_mem _ hx))).2 hn⟩)
          have hak:AllK (fun x => (x ∈ (b :: g :: bss.flatten) /\ x ≠ b) \/ w1.heap.size <= x) w3 (d + 1) (l.take i ++ splU (d + 1) t' ++ l.drop (i + 1)) (xs.take i ++ [.iface 174 (.pointer (some ⟨kb',0,none⟩))] ++ xs.drop (i + 1)) := by
            rw [hspl]
            exact (o1.app (AllK.one hkid)).app o2
          have hxs:xs.take i ++ [.iface 174 (.pointer (some ⟨kb',0,none⟩))] ++ xs.drop (i + 1) = xs := by
            obtain ⟨q1,q2⟩ := List.getElem?_eq_some_iff.1 HEq.out.1
            rw [<- q2,List.append_assoc,List.singleton_append,List.getElem_cons_drop,List.take_append_drop]
          rw [hxs] at hak
          refine ins_fin (d + 1) b g kc _ _ xs _ w3 (by rw [hML]; exact HX2.out) (by rw [hML]; exact hcap) (by omega) (by omega) (fun j u hj => ?_) hak (fun q => ?_) (.inl ⟨by simp,hgb⟩) (by omega) ?_
          · have hj2 := (List.getElem?_eq_some_iff.1 hj).1
            have hj3 := HO2.out.1
            rw [HO2.out.cellAt j (by omega)]
            exact hj
          · rcases q with q | q
            · exact q.2 rfl
            · omega
          · exact Nat.le_trans (keys_cat l i hi t' hspl HBal.out HSz.out.2.2) (by omega)
        clear c1 c2 HLg
        go_wp2_with fail
        (with_reducible refine HFin.out.mono ?_)
        rintro e w4 ⟨rfl,hg4,hnd4⟩
        have HR:Hid (RetO key (d + 2) (.inr l) (.iface 174 (.pointer (some ⟨b,0,none⟩))) (b :: g :: bss.flatten) w1 (.returned (.bool true)) w4) := .inr ⟨HNM.out,rfl,(HF2.out.mono (fun x hx => List.mem_cons_of_mem _ (List.mem_cons_of_mem _ (HUs.out x hx)))).trans (frs_grown hg4 (by simp)),_,b,by simp,⟨i,HKI.out,hi,t',HU.out,rfl⟩,hnd4⟩
        clear hg4 hnd4 HFin
        go_wp2
        go_ret
        exact HR.out
end Go.Proofs.YtcnollkkigiobaaGreat
