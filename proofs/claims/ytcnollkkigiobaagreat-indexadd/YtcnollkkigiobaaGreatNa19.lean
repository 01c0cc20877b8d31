import Derived.Test.YtcnollkkigiobaaGreatNa12
import Derived.Test.YtcnollkkigiobaaGreatNa17
import Derived.Shelf.Spec.SlicesInsert
import Derived.Lib.AppendZerosOnto
import Derived.Laws.NewBlocks
import Derived.Test.YtcnollkkigiobaaGreatNa13
import Derived.Test.YtcnollkkigiobaaGreatNa18
import Derived.Test.YtcnollkkigiobaaGreatNa4
set_option linter.unusedVariables false
set_option maxRecDepth 100000
namespace Go.Proofs.YtcnollkkigiobaaGreat
open Go.RowKit Go.Deep Go.Shelf Go.Lib
set_option linter.unusedSimpArgs false

def RetIn (w:World) (b n:Nat) (L:List Value) (e:Ending) (w' : World):Prop :=
  ∃ g c,e = .returned (.slice (some ⟨g,0,none⟩) (n + 1) c) /\ (n + 1 <= c /\ c <= 9223372036854775807) /\ g < w'.heap.size /\ (g = b \/ w.heap.size <= g) /\ (∀ j v,L[j]? = some v -> w'.cell? ⟨g,j,none⟩ = some v) /\ w.grownBy w' (some b)

theorem info1:(Tryz.prog.info? 68).map (·.size) = some 1 := by
  obtain ⟨i0,hi0,h0,h1,h2⟩ := info_parts Tryz.info68
  rw [hi0]; simp [h1]

theorem insN_end (B b n c vb:Nat) (xs:List Value) (u:Value) (w:World) (h:w.ownsRow B 68 1 (.slice (some ⟨b,0,none⟩) n c) n xs) (hvb:w.heap[vb]? = some (.cells #[u] 68 (0,0))) (hu:u.oneCell' = true) (hn:n <= 1000) (hB:B <= w.heap.size) :
    Calls Tryz.prog 194 #[.slice (some ⟨b,0,none⟩) n c,.int .i64 (n:Int),.slice (some ⟨vb,0,none⟩) 1 1] w (RetIn w b n (xs ++ [u])) := by
  obtain ⟨i0,hi0,hz0,hz1,hz2⟩ := info_parts Tryz.info68
  have HI:Hid (Tryz.prog.info? 68 = some i0 /\ i0.zero = some .nilIface /\ i0.size = 1 /\ i0.bytes = 16) := ⟨hi0,hz0,hz1,hz2⟩
  have hcap := own_cap h
  have HO:Hid (w.ownsRow B 68 1 (.slice (some ⟨b,0,none⟩) n c) n xs) := h
  have hsl:∀ W:World,∃ a',(Instr.sliceAt 175 (.slice (some ⟨b,0,none⟩) n c) (some (.int .i64 (n:Int))) none none).run Tryz.prog W = .ok (.slice a' (n - n) (c - n)) W := fun W => ⟨if c = n then some ⟨b,0,none⟩ else some ⟨b,n,none⟩,by
    have h1:n <= c := hcap.1
    simp [Instr.sliceAt,Instr.slice,go_sem,h1]⟩
  obtain ⟨a',hsl⟩:∃ a',∀ W:World,(Instr.sliceAt 175 (.slice (some ⟨b,0,none⟩) n c) (some (.int .i64 (n:Int))) none none).run Tryz.prog W = .ok (.slice a' (n - n) (c - n)) W := ⟨if c = n then some ⟨b,0,none⟩ else some ⟨b,n,none⟩,fun W => by
    have h1:n <= c := hcap.1
    simp [Instr.sliceAt,Instr.slice,go_sem,h1]⟩
  have HV:Hid (∀ j u',[u][j]? = some u' -> w.cell? ⟨vb,0 + j,none⟩ = some u') := by
    intro j u' hj
    have := Bx.cell (show Bx w vb 68 #[u] from hvb) j
    rw [Nat.zero_add,this]
    simpa using hj
  clear h hi0 hz0 hz1 hz2
  go_enter Tryz.func194,Tryz.ntmps194
  go_wp2_with (at_builtin; refine wpList_append_own_at _ rfl _ _ 175 rfl B 68 i0 _ 1 16 Tryz.underlying175 HI.out.1 HI.out.2.1 HI.out.2.2.1 HI.out.2.2.2 rfl (by decide) (.slice (some ⟨b,0,none⟩) n c) n xs rfl HO.out ⟨vb,0,none⟩ 1 1 [u] rfl rfl (fun j u' hj => by rw [Addr.add_lit]; exact HV.out j u' hj) (by intro v hv; simp at hv; subst hv; exact hu) (by unfold maxLen; omega) (by omega) hB ?_)
  intro v' w' ho' hg' _ hat'
  obtain ⟨av,cv,e,hf⟩ := own_form ho'
  subst e
  obtain ⟨g,rfl,hg1,hg2,hg3⟩ := hf (by omega)
  have HX:Hid (RetIn w b n (xs ++ [u]) (.returned (.slice (some ⟨g,0,none⟩) (n + 1) cv)) w') := by
    refine ⟨g,cv,rfl,own_cap ho',hg2,?_,hg3,hg'⟩
    rcases hat' with h | h
    · injection h with h
      exact .inl h
    · injection h with h
      exact .inr (by have:g = w.heap.size := h; omega)
  clear ho' hg' hat' hg3
  go_wp2
  go_ret
  exact HX.out

set_option maxHeartbeats 4000000 in
theorem insN_room (b n c i vb:Nat) (cur:Array Value) (xs:List Value) (u:Value) (w:World) (hb:w.heap[b]? = some (.cells cur 68 (0,0))) (hcs:cur.size = c) (hx:∀ j v,xs[j]? = some v -> w.cell? ⟨b,j,none⟩ = some v) (hxl:xs.length = n) (h1:∀ v ∈ xs,v.oneCell' = true) (hvb:w.heap[vb]? = some (.cells #[u] 68 (0,0))) (hu:u.oneCell' = true) (hne:vb ≠ b) (hi:i < n) (hroom:n + 1 <= c) (hc63:c <= 9223372036854775807) :
    Calls Tryz.prog 194 #[.slice (some ⟨b,0,none⟩) n c,.int .i64 (i:Int),.slice (some ⟨vb,0,none⟩) 1 1] w (RetIn w b n (xs.take i ++ u :: xs.drop i)) := by
  have bx:Bx w b 68 cur := hb
  have vx:Bx w vb 68 #[u] := hvb
  have some_b:∀ j,j < c -> (w.cell? ⟨b,j,none⟩).isSome = true := fun j hj => by rw [bx.cell j,Array.getElem?_eq_getElem (by omega)]; rfl
  have hdl:(xs.drop i).length = n - i := by rw [List.length_drop,hxl]
  have hov:∀ lb cb,(callFunc 196 #[.slice (some ⟨vb,0,none⟩) 1 1,.slice (some ⟨b,i + 1,none⟩) lb cb]).run Tryz.prog w = .ok (.value (.bool false)) w := fun lb cb => by
    rw [run_callFunc_extern Tryz.func196 (by kernel_rfl) (by kernel_rfl) (by kernel_rfl) (e := Extern.SlicesOverlaps.overlaps #[175,175] #[4]) (by kernel_rfl),
      Lib.run_overlaps_apart w 175 4 68 Tryz.underlying175 1 (fun W => by kernel_rfl) ⟨vb,0,none⟩ ⟨b,i + 1,none⟩ 1 1 lb cb hne 68 68 1 c (by simp [World.shape?,hvb]) (by simp [World.shape?,hb,hcs]) (by omega) (vx.frozen 0) (vx.frozen 1)]
    rfl
  have hcp1:∀ ty dc sc,(Builtin.copy_ #[175,175] ty #[.slice (some ⟨b,i + 1,none⟩) (n - i) dc,.slice (some ⟨b,i,none⟩) (n + 1 - i) sc]).run Tryz.prog w.drew = .ok (goInt (xs.drop i).length) (w.drew.setCells b (i + 1) (xs.drop i)) := fun ty dc sc =>
    run_copy_cells w.drew _ _ ty 68 b (i + 1) (n - i) dc ⟨b,i,none⟩ (n + 1 - i) sc (xs.drop i) Tryz.underlying175 info1 (by rw [hdl]; simp only [Nat.min_def]; split <;> omega)
      (fun j v hj => by rw [Addr.add_lit]; exact hx (i + j) v (by rwa [List.getElem?_drop] at hj)) (fun j hj => some_b _ (by omega)) (fun j hj => bx.frozen _) (fun v hv => h1 v (List.mem_of_mem_drop hv))
  obtain ⟨W1,hW1⟩:∃ W1,W1 = w.drew.setCells b (i + 1) (xs.drop i) := ⟨_,rfl⟩
  obtain ⟨cur1,e1,e2,e3⟩ := row_sets (xs.drop i) (i + 1) w.drew cur hb (by rw [hdl]; omega)
  rw [<- hW1] at e1 hcp1
  have g1:w.grownBy W1 (some b) := by rw [hW1]; exact grown_trans (⟨rfl,rfl,rfl,Nat.le_refl _,fun _ _ _ => rfl⟩:w.grownBy w.drew (some b)) (grown_sets b (xs.drop i) (i + 1) w.drew)
  have bx1:Bx W1 b 68 cur1 := e1
  have vx1:Bx W1 vb 68 #[u] := vx.grown g1 (fun e => by injection e with e; exact hne e.symm)
  have hcp2:∀ (W:World),(∀ x,W.cell? x = W1.cell? x) -> (∀ x,W.frozen? x = W1.frozen? x) -> ∀ ty dc,(Builtin.copy_ #[175,175] ty #[.slice (some ⟨b,i,none⟩) (n + 1 - i) dc,.slice (some ⟨vb,0,none⟩) 1 1]).run Tryz.prog W = .ok (goInt [u].length) (W.setCells b i [u]) := fun W hWc hWf ty dc =>
    run_copy_cells W _ _ ty 68 b i (n + 1 - i) dc ⟨vb,0,none⟩ 1 1 [u] Tryz.underlying175 info1 (by simp only [Nat.min_def,List.length_cons,List.length_nil]; split <;> omega)
      (fun j v hj => by rw [Addr.add_lit,hWc,Nat.zero_add,vx1.cell j]; simpa using hj) (fun j hj => by simp at hj; subst hj; rw [hWc,bx1.cell,Array.getElem?_eq_getElem (by omega)]; rfl) (fun j hj => by rw [hWf]; exact bx1.frozen _) (fun v hv => by simp at hv; subst hv; exact hu)
  have HF:Hid (∀ W:World,W.heap = W1.heap -> W.os = W1.os -> W.tape = W1.tape -> W.output = W1.output -> RetIn w b n (xs.take i ++ u :: xs.drop i) (.returned (.slice (some ⟨b,0,none⟩) (n + 1) c)) (W.setCells b i [u])) := by
    intro W hW w1 w2 w3
    have gW:w.grownBy W (some b) := ⟨w1.trans g1.os,w2.trans g1.tape,w3.trans g1.output,by rw [hW]; exact g1.size,fun k hk hn => by rw [hW]; exact g1.block k hk hn⟩
    obtain ⟨cur2,f1,f2,f3⟩ := row_sets [u] i W cur1 (by rw [hW]; exact e1) (by simp; omega)
    refine ⟨b,c,rfl,⟨hroom,hc63⟩,(Array.getElem?_eq_some_iff.1 f1).1,.inl rfl,fun j v hj => ?_,grown_trans gW (grown_sets b [u] i W)⟩
    rw [Bx.cell (show Bx _ b 68 cur2 from f1) j,f3 j]
    have hl:(xs.take i).length = i := by rw [List.length_take]; omega
    have hjl := (List.getElem?_eq_some_iff.1 hj).1
    rw [List.length_append,List.length_cons,hl,hdl] at hjl
    by_cases q1:j < i
    · rw [if_neg (by omega),e3 j,if_neg (by omega)]
      rw [List.getElem?_append_left (by omega),List.getElem?_take,if_pos q1] at hj
      rw [<- bx.cell j]
      exact hx j v hj
    · rw [List.getElem?_append_right (by omega),hl] at hj
      by_cases q2:j = i
      · subst q2
        rw [if_pos (by simp)]
        simpa using hj
      · rw [if_neg (by simp; omega),e3 j,if_pos (by rw [hdl]; omega)]
        rw [show j - i = (j - (i + 1)) + 1 by omega,List.getElem?_cons_succ] at hj
        exact hj
  have z2:¬ ((i:Int) = (n:Int)) := by omega
  have y1:IntKind.i64.wrap ((i:Int) + 1) = (i:Int) + 1 := by rw [IntKind.wrap_i64]; omega
  have y2:(0:Int) <= (i:Int) + 1 := by omega
  have y3:i <= n := by omega
  have y4:((i:Int) + 1).toNat = i + 1 := by omega
  have y5:¬ (c = i + 1) := by omega
  have y6:(i:Int) <= (n:Int) + 1 := by omega
  have y7:¬ (c = i) := by omega
  have y8:¬ (c:Int) < (n:Int) + 1 := by omega
  have y8d:decide ((c:Int) < (n:Int) + 1) = false := decide_eq_false y8
  have mixed:Tryz.prog.follows .mixedOrders = true := by kernel_rfl
  clear hx h1 some_b e3 bx1 vx1 g1 vx bx
  go_enter Tryz.func194,Tryz.ntmps194
  go_wp2_with (simp only [hov])
  go_region_law_o (refine step_copy_runI rfl _ _ 175 175 rfl _ _ (by simp [Act.eval,Act.put]) (by simp [Act.eval,Act.put]) (hcp1 _ _ _) ?_)
  go_wp2_with (at_builtin; refine wpList_copy_runI _ rfl _ _ 175 175 rfl _ _ rfl rfl (hcp2 _ (fun _ => rfl) (fun _ => rfl) _ _) ?_)
  go_ret
  exact HF.out _ (by rw [hW1]) (by rw [hW1]) (by rw [hW1]) (by rw [hW1])

set_option maxHeartbeats 4000000 in
theorem insN_grow (b n c i vb:Nat) (xs:List Value) (u:Value) (w:World) (hb:b < w.heap.size) (hx:∀ j v,xs[j]? = some v -> w.cell? ⟨b,j,none⟩ = some v) (hxl:xs.length = n) (h1:∀ v ∈ xs,v.oneCell' = true) (hvb:w.heap[vb]? = some (.cells #[u] 68 (0,0))) (hu:u.oneCell' = true) (hi:i < n) (hnc:n <= c) (hroom:c < n + 1) (hn:n <= 1000) :
    Calls Tryz.prog 194 #[.slice (some ⟨b,0,none⟩) n c,.int .i64 (i:Int),.slice (some ⟨vb,0,none⟩) 1 1] w (RetIn w b n (xs.take i ++ u :: xs.drop i)) := by
  have vx:Bx w vb 68 #[u] := hvb
  obtain ⟨i0,hi0,hz0,hzs,hzb⟩ := info_parts Tryz.info68
  have hdl:(xs.drop i).length = n - i := by rw [List.length_drop,hxl]
  have hold:(Builtin.firstCells i0.size i (.slice (some ⟨b,0,none⟩) i c)).run Tryz.prog w.drew = .ok (xs.take i).toArray w.drew := by
    rw [hzs]
    refine run_firstCells_some w.drew 1 i ⟨b,0,none⟩ i c (xs.take i) (by rw [List.length_take]; omega) (fun j v hj => ?_)
    rw [Addr.add_lit,Nat.zero_add]
    rw [List.getElem?_take] at hj
    split at hj
    · exact hx j v hj
    · cases hj
  obtain ⟨G,hG⟩:∃ G,G = grownCap w (n + 1) c 68 := ⟨_,rfl⟩
  obtain ⟨ROW,hROW⟩:∃ ROW:Array Value,ROW = (xs.take i).toArray ++ Builtin.zeroCells Value.nilIface.cells (n + 1 - i) ++ Builtin.zeroCells Value.nilIface.cells (G - (n + 1)) := ⟨_,rfl⟩
  have hrz:∀ ty,(Builtin.append_ #[175,3] ty #[.slice (some ⟨b,0,none⟩) i c,.int .i64 ((n:Int) + 1 - (i:Int))]).run Tryz.prog w = .ok (.slice (some ⟨w.heap.size,0,none⟩) (n + 1) G) (w.drew.alloc (.cells ROW 68)) := fun ty => by
    have h := Lib.run_append_grow_zeros w 175 3 ty 68 i0 _ .i64 .i64 Tryz.underlying175 Tryz.underlying3 hi0 hz0 (some ⟨b,0,none⟩) i c (xs.take i) hold (n + 1 - i) (by omega) (by omega) (by omega) (by omega) (by rw [hzb]; omega) (by rw [hzb,show i + (n + 1 - i) = n + 1 by omega]; exact growslice_fits hroom (by omega))
    rw [show i + (n + 1 - i) = n + 1 by omega,<- hG,<- hROW,show (((n + 1 - i:Nat)):Int) = (n:Int) + 1 - (i:Int) by omega] at h
    exact h
  have hGn:n + 1 <= G := by rw [hG]; exact grownCap_ge w _ _ _
  have hG63:G <= 9223372036854775807 := by
    have := grownCap_le_maxLen w (n + 1) c 68 (by unfold maxLen; omega)
    rw [<- hG] at this
    unfold maxLen at this
    omega
  have hRl:n + 1 <= ROW.size := by
    rw [hROW]
    simp [Builtin.zeroCells,Value.cells]
    omega
  have hR0:∀ j,j < i -> ROW[j]? = xs[j]? := fun j hj => by
    have hl:(xs.take i).toArray.size = i := by simp; omega
    rw [hROW,Array.append_assoc,Array.getElem?_append_left (by omega)]
    simp [List.getElem?_take,hj]
  have nx:Bx (w.drew.alloc (.cells ROW 68)) w.heap.size 68 ROW := blk_alloc_new w.drew _
  have hbA:Below w.heap.size w (w.drew.alloc (.cells ROW 68)) := (Below.refl w.heap.size w).drew.trans (show Below w.heap.size w.drew _ from below_alloc w.drew _)
  generalize w.drew.alloc (.cells ROW 68) = A at hrz nx hbA
  have vA:Bx A vb 68 #[u] := vx.below hbA
  have hcpA:∀ (W:World),(∀ x,W.cell? x = A.cell? x) -> (∀ x,W.frozen? x = A.frozen? x) -> ∀ ty dc,(Builtin.copy_ #[175,175] ty #[.slice (some ⟨w.heap.size,i,none⟩) (n + 1 - i) dc,.slice (some ⟨vb,0,none⟩) 1 1]).run Tryz.prog W = .ok (goInt [u].length) (W.setCells w.heap.size i [u]) := fun W hWc hWf ty dc =>
    run_copy_cells W _ _ ty 68 w.heap.size i (n + 1 - i) dc ⟨vb,0,none⟩ 1 1 [u] Tryz.underlying175 info1 (by simp only [Nat.min_def,List.length_cons,List.length_nil]; split <;> omega)
      (fun j v hj => by rw [Addr.add_lit,hWc,Nat.zero_add,vA.cell j]; simpa using hj) (fun j hj => by simp at hj; subst hj; rw [hWc,nx.cell,Array.getElem?_eq_getElem (by omega)]; rfl) (fun j hj => by rw [hWf]; exact nx.frozen _) (fun v hv => by simp at hv; subst hv; exact hu)
  obtain ⟨cur1,e1,e2,e3⟩ := row_sets [u] i A ROW nx (by simp; omega)
  obtain ⟨A1,hA1⟩:∃ A1,A1 = A.setCells w.heap.size i [u] := ⟨_,rfl⟩
  rw [<- hA1] at e1
  have gA1:Below w.heap.size w A1 := by
    have q := grown_sets w.heap.size [u] i A
    rw [hA1]
    exact hbA.grown q (by have := hbA.size; omega) (fun g e => by injection e with e; omega)
  have bx1:Bx A1 w.heap.size 68 cur1 := e1
  have hcpB:∀ (W:World),(∀ x,W.cell? x = A1.cell? x) -> (∀ x,W.frozen? x = A1.frozen? x) -> ∀ ty dc sc,(Builtin.copy_ #[175,175] ty #[.slice (some ⟨w.heap.size,i + 1,none⟩) (n - i) dc,.slice (some ⟨b,i,none⟩) (n - i) sc]).run Tryz.prog W = .ok (goInt (xs.drop i).length) (W.setCells w.heap.size (i + 1) (xs.drop i)) := fun W hWc hWf ty dc sc =>
    run_copy_cells W _ _ ty 68 w.heap.size (i + 1) (n - i) dc ⟨b,i,none⟩ (n - i) sc (xs.drop i) Tryz.underlying175 info1 (by rw [hdl]; simp only [Nat.min_def]; split <;> omega)
      (fun j v hj => by rw [Addr.add_lit,hWc,gA1.cell (p := ⟨b,i + j,none⟩) hb]; exact hx (i + j) v (by rwa [List.getElem?_drop] at hj))
      (fun j hj => by rw [hWc,bx1.cell,Array.getElem?_eq_getElem (by omega)]; rfl) (fun j hj => by rw [hWf]; exact bx1.frozen _) (fun v hv => h1 v (List.mem_of_mem_drop hv))
  have HF:Hid (∀ W:World,W.heap = A1.heap -> W.os = A1.os -> W.tape = A1.tape -> W.output = A1.output -> RetIn w b n (xs.take i ++ u :: xs.drop i) (.returned (.slice (some ⟨w.heap.size,0,none⟩) (n + 1) G)) (W.setCells w.heap.size (i + 1) (xs.drop i))) := by
    intro W hW w1 w2 w3
    have gW:Below w.heap.size w W := ⟨w1.trans gA1.os,w2.trans gA1.tape,w3.trans gA1.output,by rw [hW]; exact gA1.size,fun k hk => by rw [hW]; exact gA1.block k hk⟩
    obtain ⟨cur2,f1,f2,f3⟩ := row_sets (xs.drop i) (i + 1) W cur1 (by rw [hW]; exact e1) (by rw [hdl]; omega)
    have gF := gW.grown (grown_sets w.heap.size (xs.drop i) (i + 1) W) (by have := gW.size; omega) (fun g e => by injection e with e; omega)
    refine ⟨w.heap.size,G,rfl,⟨hGn,hG63⟩,(Array.getElem?_eq_some_iff.1 f1).1,.inr (Nat.le_refl _),fun j v hj => ?_,⟨gF.os,gF.tape,gF.output,gF.size,fun k hk _ => gF.block k hk⟩⟩
    rw [Bx.cell (show Bx _ w.heap.size 68 cur2 from f1) j,f3 j]
    have hl:(xs.take i).length = i := by rw [List.length_take]; omega
    have hjl := (List.getElem?_eq_some_iff.1 hj).1
    rw [List.length_append,List.length_cons,hl,hdl] at hjl
    by_cases q1:j < i
    · rw [if_neg (by omega),e3 j,if_neg (by omega),hR0 j q1]
      rw [List.getElem?_append_left (by omega),List.getElem?_take,if_pos q1] at hj
      exact hj
    · rw [List.getElem?_append_right (by omega),hl] at hj
      by_cases q2:j = i
      · subst q2
        rw [if_neg (by omega),e3 j,if_pos (by simp)]
        simpa using hj
      · rw [if_pos (by rw [hdl]; omega)]
        rw [show j - i = (j - (i + 1)) + 1 by omega,List.getElem?_cons_succ] at hj
        exact hj
  have z2:¬ ((i:Int) = (n:Int)) := by omega
  have y1:IntKind.i64.wrap ((i:Int) + 1) = (i:Int) + 1 := by rw [IntKind.wrap_i64]; omega
  have y2:(0:Int) <= (i:Int) + 1 := by omega
  have y3:i <= n := by omega
  have y3b:i <= n + 1 := by omega
  have y4:((i:Int) + 1).toNat = i + 1 := by omega
  have y6:(i:Int) <= (n:Int) := by omega
  have y6b:(i:Int) <= (n:Int) + 1 := by omega
  have y7:¬ (c = i) := by omega
  have yG:¬ (G = i) := by omega
  have yG1:¬ (G = i + 1) := by omega
  have y8:(c:Int) < (n:Int) + 1 := by omega
  have y8d:decide ((c:Int) < (n:Int) + 1) = true := decide_eq_true y8
  have mixed:Tryz.prog.follows .mixedOrders = true := by kernel_rfl
  rw [hA1] at hcpB HF
  have hcpB' := hcpB (A.setCells w.heap.size i [u]).drew (fun _ => rfl) (fun _ => rfl)
  clear hx h1 e3 bx1 gA1 vA vx nx hbA hR0 hold hROW hRl hA1 e1 hi0 hz0 hzs hzb hG
  go_enter Tryz.func194,Tryz.ntmps194
  go_wp2_with (first
    | (at_builtin; refine Lib.wpList_append_run _ rfl _ _ _ _ rfl _ _ rfl rfl _ _ (hrz _) ?_)
    | (at_builtin; refine wpList_copy_runI _ rfl _ _ 175 175 rfl _ _ rfl rfl (hcpA _ (fun _ => rfl) (fun _ => rfl) _ _) ?_))
  go_region_law_o (refine step_copy_runI rfl _ _ 175 175 rfl (.slice (some ⟨w.heap.size,i + 1,none⟩) (n - i) (G - (i + 1))) (.slice (some ⟨b,i,none⟩) (n - i) (c - i)) (by simp [Act.eval,Act.put]) (by simp [Act.eval,Act.put]) (hcpB' 3 (G - (i + 1)) (c - i)) ?_)
  go_wp2
  go_ret
  exact HF.out _ rfl rfl rfl rfl

theorem insN_any (B b n c i vb:Nat) (xs:List Value) (u:Value) (w:World) (h:w.ownsRow B 68 1 (.slice (some ⟨b,0,none⟩) n c) n xs) (h1:∀ v ∈ xs,v.oneCell' = true) (hvb:w.heap[vb]? = some (.cells #[u] 68 (0,0))) (hu:u.oneCell' = true) (hne:vb ≠ b) (hi:i <= n) (hn:n <= 1000) (hB:B <= w.heap.size) :
    Calls Tryz.prog 194 #[.slice (some ⟨b,0,none⟩) n c,.int .i64 (i:Int),.slice (some ⟨vb,0,none⟩) 1 1] w (RetIn w b n (xs.take i ++ u :: xs.drop i)) := by
  have hxl:xs.length = n := by have := h.1; omega
  by_cases e:i = n
  · subst e
    rw [List.take_of_length_le (by omega),List.drop_of_length_le (by omega)]
    exact insN_end B b i c vb xs u w h hvb hu hn hB
  · have hcap := own_cap h
    have hx:∀ j v,xs[j]? = some v -> w.cell? ⟨b,j,none⟩ = some v := by
      intro j v hj
      have hjl := (List.getElem?_eq_some_iff.1 hj).1
      rw [h.cellAt j (by omega)]
      exact hj
    by_cases hr:n + 1 <= c
    · rcases h.2 with ⟨q,q0⟩ | ⟨g,cap,cur,q1,q2,q3,q4,q5,q6,q7⟩
      · omega
      · injection q1 with q1 _ q8
        injection q1 with q1
        injection q1 with q1
        subst q1 q8
        exact insN_room b n c i vb cur xs u w q3 (by omega) hx hxl h1 hvb hu hne (by omega) hr hcap.2
    · exact insN_grow b n c i vb xs u w (own_lt h b rfl).2 hx hxl h1 hvb hu (by omega) hcap.1 (by omega) hn
end Go.Proofs.YtcnollkkigiobaaGreat
namespace Go.Proofs.YtcnollkkigiobaaGreat
open Go.RowKit Go.Deep

def splU:(d:Nat) -> Ro d -> List (Ro d)
  | 0,_ => []
  | d + 1,t => splR t
def InsU (key:ByteArray):(d:Nat) -> Ro d -> Ro d -> Prop
  | 0,_,_ => False
  | d + 1,.inl ks,t' => t' = .inl (insK key ks)
  | d + 1,.inr l,t' => ∃ i,KidIs l key i /\ ∃ (h:i < l.length) (u:Ro d),InsU key d l[i] u /\ t' = .inr (l.take i ++ splU d u ++ l.drop (i + 1))

theorem InsU.insR {key:ByteArray}:∀ {d:Nat} {t u:Ro d},InsU key d t u -> InsR key d t (splU d u)
  | 0,_,_,h => h.elim
  | d + 1,.inl ks,u,h => by
    have h' : u = .inl (insK key ks) := h
    subst h'
    rw [InsR_inl]
    rfl
  | d + 1,.inr l,u,h => by
    obtain ⟨i,h1,h2,u',h3,e⟩ := h
    subst e
    rw [InsR_inr]
    exact ⟨i,h1,h2,splU d u',InsU.insR h3,rfl⟩

theorem sizU_le {key:ByteArray} {d:Nat} {t u:Ro (d + 1)} {root:Bool} {h:Nat} (hb:BalR (d + 1) root t h) (hu:InsU key (d + 1) t u):sizR u <= 5 := by
  rcases t with ks | l
  · have h' : u = .inl (insK key ks) := hu
    subst h'
    show (insK key ks).length <= 5
    rw [insK_length]
    have := hb.2.1
    omega
  · obtain ⟨i,h1,h2,u',h3,rfl⟩ := hu
    obtain ⟨b2,b4,h',_,hall⟩ := hb
    show (l.take i ++ splU d u' ++ l.drop (i + 1)).length <= 5
    rw [List.length_append,List.length_append,List.length_take,List.length_drop]
    rcases InsR.bal (hall _ (List.getElem_mem h2)) h3.insR with ⟨y,e,_⟩ | ⟨y,z,e,_⟩
    · rw [e]; simp only [List.length_cons,List.length_nil]; omega
    · rw [e]; simp only [List.length_cons,List.length_nil]; omega

theorem mem_kid {d:Nat} {l:List (Ro d)} {key:ByteArray} {i:Nat} (ha:Asc (l.flatMap (keysR d))) (hp:∀ k (h:k < l.length),0 < (keysR d l[k]).length) (h:KidIs l key i) (hi:i < l.length):key ∈ l.flatMap (keysR d) ↔ key ∈ keysR d l[i] := by
  constructor
  · intro hm
    rw [List.mem_flatMap] at hm
    obtain ⟨t,ht,hk⟩ := hm
    obtain ⟨j,hj,rfl⟩ := List.getElem_of_mem ht
    unfold Asc at ha
    rw [List.pairwise_flatMap] at ha
    have pw := List.pairwise_iff_getElem.1 ha.2
    rcases Nat.lt_trichotomy j i with h1 | h1 | h1
    · have q := pw j i hj hi h1 key hk _ (gt_mem (hp i hi))
      rw [h.2.1 hi (by omega)] at q
      cases q
    · subst h1; exact hk
    · have hi1:i + 1 < l.length := by omega
      have q1 := h.2.2 hi1
      by_cases e:j = i + 1
      · subst e
        obtain ⟨m,hm,e2⟩ := List.getElem_of_mem hk
        have eg:gt (keysR d l[i + 1]) m = key := by
          unfold gt
          rw [List.getD_eq_getElem?_getD,List.getElem?_eq_getElem hm]
          exact e2
        by_cases m0:m = 0
        · subst m0
          rw [eg,less_irrefl] at q1
          cases q1
        · have q2 := asc_lt (ha.1 _ (List.getElem_mem hi1)) (show 0 < m by omega) hm
          rw [eg] at q2
          rw [less_asym q2] at q1
          cases q1
      · have q := pw (i + 1) j hi1 hj (by omega) _ (gt_mem (hp _ hi1)) key hk
        rw [less_asym q] at q1
        cases q1
  · intro hm
    exact List.mem_flatMap.2 ⟨_,List.getElem_mem hi,hm⟩

def AllK (S:Nat -> Prop) (w:World) (d:Nat) (ts:List (Ro d)) (us:List Value):Prop :=
  us.length = ts.length /\ ∀ k (h:k < ts.length),∃ u,us[k]? = some u /\ TAo S w d ts[k] u
section
variable {S S' : Nat -> Prop} {w w' : World} {d:Nat}
theorem AllK.keep {ts:List (Ro d)} {us:List Value} (h:AllK S w d ts us) (hz:w.heap.size <= w'.heap.size) (hS:∀ b,S b -> b < w.heap.size -> S' b /\ w'.heap[b]? = w.heap[b]?):AllK S' w' d ts us :=
  ⟨h.1,fun k hk => by obtain ⟨u,e,q⟩ := h.2 k hk; exact ⟨u,e,TAo.keep hz hS q⟩⟩
theorem AllK.app {ts ts' : List (Ro d)} {us us' : List Value} (h:AllK S w d ts us) (h' : AllK S w d ts' us'):AllK S w d (ts ++ ts') (us ++ us') := by
  refine ⟨by rw [List.length_append,List.length_append,h.1,h'.1],fun k hk => ?_⟩
  by_cases e:k < ts.length
  · obtain ⟨u,e1,q⟩ := h.2 k e
    exact ⟨u,by rw [List.getElem?_append_left (by rw [h.1]; exact e)]; exact e1,by rw [List.getElem_append_left e]; exact q⟩
  · rw [List.length_append] at hk
    obtain ⟨u,e1,q⟩ := h'.2 (k - ts.length) (by omega)
    exact ⟨u,by rw [List.getElem?_append_right (by rw [h.1]; omega),h.1]; exact e1,by rw [List.getElem_append_right (by omega)]; exact q⟩
theorem AllK.one {t:Ro d} {u:Value} (h:TAo S w d t u):AllK S w d [t] [u] :=
  ⟨rfl,fun k hk => by
    have e:k = 0 := by simp at hk; omega
    subst e
    exact ⟨u,rfl,h⟩⟩
end

theorem nodup_ne {bss:List (List Nat)} (h:bss.flatten.Nodup) {i k:Nat} {us ks:List Nat} (hi:bss[i]? = some us) (hk:bss[k]? = some ks) (hne:k ≠ i) {x:Nat} (hx:x ∈ ks):x ∉ us := by
  unfold List.Nodup at h
  rw [List.pairwise_flatten] at h
  have pw := List.pairwise_iff_getElem.1 h.2
  obtain ⟨h1,e1⟩ := List.getElem?_eq_some_iff.1 hi
  obtain ⟨h2,e2⟩ := List.getElem?_eq_some_iff.1 hk
  intro hxu
  rcases Nat.lt_or_gt_of_ne hne with q | q
  · exact pw k i h2 h1 q x (by rw [e2]; exact hx) x (by rw [e1]; exact hxu) rfl
  · exact pw i k h1 h2 q x (by rw [e1]; exact hxu) x (by rw [e2]; exact hx) rfl

def Frs (bs:List Nat) (w w' : World):Prop := w'.os = w.os /\ w'.tape = w.tape /\ w'.output = w.output /\ w.heap.size <= w'.heap.size /\ ∀ k,k < w.heap.size -> k ∉ bs -> w'.heap[k]? = w.heap[k]?
theorem Frs.trans {bs:List Nat} {w w1 w2:World} (h:Frs bs w w1) (k:Frs bs w1 w2):Frs bs w w2 :=
  ⟨k.1.trans h.1,k.2.1.trans h.2.1,k.2.2.1.trans h.2.2.1,Nat.le_trans h.2.2.2.1 k.2.2.2.1,fun i hi h1 => (k.2.2.2.2 i (Nat.lt_of_lt_of_le hi h.2.2.2.1) h1).trans (h.2.2.2.2 i hi h1)⟩
theorem Frs.mono {bs bs' : List Nat} {w w' : World} (h:Frs bs w w') (hs:∀ x,x ∈ bs -> x ∈ bs'):Frs bs' w w' := ⟨h.1,h.2.1,h.2.2.1,h.2.2.2.1,fun i hi hn => h.2.2.2.2 i hi (fun q => hn (hs i q))⟩
theorem Frs.below {bs:List Nat} {w w' : World} {B:Nat} (h:Frs bs w w') (hB:B <= w.heap.size) (hs:∀ x,x ∈ bs -> B <= x):Below B w w' := ⟨h.1,h.2.1,h.2.2.1,h.2.2.2.1,fun k hk => h.2.2.2.2 k (by omega) (fun q => by have := hs k q; omega)⟩

def CallI (v:Value) (key:ByteArray) (w:World) (Q:Ending -> World -> Prop):Prop :=
  (∃ b,v = .iface 204 (.pointer (some ⟨b,0,none⟩)) /\ Calls Tryz.prog 204 #[.pointer (some ⟨b,0,none⟩),.string key] w Q) \/
  (∃ b,v = .iface 174 (.pointer (some ⟨b,0,none⟩)) /\ Calls Tryz.prog 187 #[.pointer (some ⟨b,0,none⟩),.string key] w Q)
def RetO (key:ByteArray) (d:Nat) (t:Ro d) (v:Value) (bs:List Nat) (w:World) (e:Ending) (w' : World):Prop :=
  (key ∈ keysR d t /\ e = .returned (.bool false) /\ Below w.heap.size w w') \/
  (key ∉ keysR d t /\ e = .returned (.bool true) /\ Frs bs w w' /\ ∃ u b,b ∈ bs /\ InsU key d t u /\ NdI (fun x => (x ∈ bs /\ x ≠ b) \/ w.heap.size <= x) w' b d u v)

theorem insLeafO (key:ByteArray) (d B:Nat) (L:List ByteArray) (v:Value) (bs:List Nat) (w:World) (h:TOw B w (d + 1) (.inl L) v bs) (hn:L.length <= 4) (ha:Asc L) (hB:B <= w.heap.size) (hd:bs.Nodup):CallI v key w (RetO key (d + 1) (.inl L) v bs w) := by
  obtain ⟨b,ka,kc,rfl,hBb,hx,ho,rfl⟩ := h
  refine .inl ⟨b,rfl,(leafIns_any B b L.length kc ka L key w hx ho rfl (by omega) ha hB).mono ?_⟩
  rintro e w' (⟨h1,rfl,rfl⟩ | ⟨h1,rfl,ho2,a',c',hx',ho',ha'⟩)
  · exact .inl ⟨h1,rfl,Below.refl _ _⟩
  · refine .inr ⟨h1,rfl,⟨ho2.1,ho2.2.1,ho2.2.2.1,ho2.2.2.2.1,fun k hk hn => ho2.2.2.2.2 k hk (fun e => hn (by rw [e]; simp)) (fun e => hn (by
      cases ka with
      | none => cases e
      | some p => injection e with e; simp [<- e]))⟩,.inl (insK key L),b,by simp,rfl,rfl,a',c',hx',own_cap ho',?_⟩
    rcases ho'.2 with ⟨q,q0⟩ | ⟨g,cap,cur,q1,q2,q3,q4⟩
    · exact .inl q0
    · injection q1 with q1 _ q5
      subst q1 q5
      refine .inr ⟨g,0,rfl,?_,(own_lt ho' g rfl).2,fun i hi => ?_⟩
      · rcases ha' with e | ⟨g',e,hg'⟩
        · refine .inl ⟨by rw [<- e]; simp,fun e2 => ?_⟩
          subst e2
          have q := hx'
          unfold Bx at q
          rw [q3] at q
          injection q with q
          injection q with _ q _
          exact absurd q (by decide)
        · injection e with e
          injection e with e
          subst e
          exact .inr (by omega)
      · rw [Nat.zero_add,ho'.cellAt i (by omega),strL_get _ i hi]

set_option maxHeartbeats 1000000 in
theorem largeLeaf_any (b n kc:Nat) (ka:Option Addr) (v0:Value) (w:World) (h:Bx w b 206 #[v0,.slice ka n kc]) :
    Calls Tryz.prog 210 #[.pointer (some ⟨b,0,none⟩)] w fun e w' => e = .returned (.bool (decide (4 < n))) /\ w' = w := by
  have HX:Hid (Bx w b 206 #[v0,.slice ka n kc]) := h
  have c1 := h.cell 1
  have hl := h.lt
  simp at c1
  clear h
  by_cases hb:4 < n
  · have i1:(4:Int) < (n:Int) := by omega
    go_enter Tryz.func210,Tryz.ntmps210
    go_wp2
    go_ret
    exact ⟨by simp [hb],rfl⟩
  · have i1:¬ (4:Int) < (n:Int) := by omega
    go_enter Tryz.func210,Tryz.ntmps210
    go_wp2
    go_ret
    exact ⟨by simp,rfl⟩

set_option maxHeartbeats 1000000 in
theorem largeInner_any (b n kc:Nat) (ka:Option Addr) (v0:Value) (w:World) (h:Bx w b 179 #[v0,.slice ka n kc]) :
    Calls Tryz.prog 192 #[.pointer (some ⟨b,0,none⟩)] w fun e w' => e = .returned (.bool (decide (4 < n))) /\ w' = w := by
  have HX:Hid (Bx w b 179 #[v0,.slice ka n kc]) := h
  have c1 := h.cell 1
  have hl := h.lt
  simp at c1
  clear h
  by_cases hb:4 < n
  · have i1:(4:Int) < (n:Int) := by omega
    go_enter Tryz.func192,Tryz.ntmps192
    go_wp2
    go_ret
    exact ⟨by simp [hb],rfl⟩
  · have i1:¬ (4:Int) < (n:Int) := by omega
    go_enter Tryz.func192,Tryz.ntmps192
    go_wp2
    go_ret
    exact ⟨by simp,rfl⟩

theorem RetGs.weak {S S' : Nat -> Prop} {w w3 w' : World} {d:Nat} {ts:List (Ro d)} {e:Ending} (h:RetGs S' w3 d ts e w') (hb:Below w.heap.size w w3) (hS:∀ b,S' b -> S b \/ w.heap.size <= b):RetGs S w d ts e w' := by
  obtain ⟨h1,g,c,xs,h2,h3,h4,h5,h6,h7⟩ := h
  have hz := hb.size
  refine ⟨hb.trans (h1.mono hz),g,c,xs,h2,by omega,h4,h5,h6,h7.mono (fun t v q => q.wide (fun b hs _ => ?_))⟩
  rcases hs with hs | hs
  · exact hS b hs
  · exact Or.inr (by omega)

set_option maxHeartbeats 4000000 in
theorem ins_leaf (d:Nat) (L:List ByteArray) (v:Value) (key:ByteArray) (S:Nat -> Prop) (w:World) (hv:NG S w (d + 1) (.inl L) v) (ha:Asc L) (hL:L.length <= 4) :
    Calls Tryz.prog 79 #[v,.string key] w (RetGs S w (d + 1) (splR (.inl (insK key L)))) := by
  obtain ⟨ka,kc,ca,cc,rfl,hrd,⟨hcap1,hcap2⟩,hblk⟩ := hv
  obtain ⟨n,hn⟩:∃ n,n = L.length := ⟨_,rfl⟩
  rw [<- hn] at hrd hcap1 hL ⊢
  have HRD:Hid (RdS w ka n (gt L)) := hrd
  have HLn:Hid (n = L.length) := hn
  have HA:Hid (Asc L) := ha
  have HO0:Hid (∀ O1:Obj,((w.alloc O1).alloc (.cells #[] 9)).ownsRow (w.heap.size + 1) 9 1 (.slice (some ⟨w.heap.size + 1,0,none⟩) 0 0) 0 []) := fun O1 => by simpa using own_empty (w.alloc O1) 9 (w.heap.size + 1) 1 (by simp)
  have HB0:Hid (∀ O1 O2:Obj,Below w.heap.size w ((w.alloc O1).alloc O2)) := fun _ _ => (below_alloc _ _).alloc (by simp) _
  obtain ⟨i9,hi9,hz0,hz1,hz2⟩ := info_parts Tryz.info9
  have HI:Hid (Tryz.prog.info? 9 = some i9 /\ i9.zero = some (.string { data := #[] }) /\ i9.size = 1 /\ i9.bytes = 16) := ⟨hi9,hz0,hz1,hz2⟩
  clear hrd hn ha hblk hi9 hz0 hz1 hz2
  go_enter Tryz.func79,Tryz.ntmps79
  go_wp2
  go_loopw [5,6] (fun q i wr => ∃ (k:Nat) (a:Option Addr) (c:Nat),k <= n /\ i = .int .i64 k /\ q = .slice a k c /\ wr.ownsRow (w.heap.size + 1) 9 1 (.slice a k c) k (strL (L.take k)) /\ Bx wr w.heap.size 91 #[.bool true,.slice ka n kc,.slice ca 0 cc] /\ Below w.heap.size w wr /\ (∀ j,j < k -> Op.bytesLess (gt L j).toList key.toList = true)) (fun _ i _ => n - (intOf i).toNat)
  case atStart => exact ⟨0,_,0,Nat.zero_le _,rfl,rfl,HO0.out _,(Bx.new w #[.bool true,.slice ka n kc,.slice ca 0 cc] 91).alloc _,HB0.out _ _,fun j hj => absurd hj (Nat.not_lt_zero _)⟩
  case round =>
    obtain ⟨k,a,c,hk,rfl,rfl,h1,h2,h3,h4⟩ := hrel
    have HST:Hid (wr.ownsRow (w.heap.size + 1) 9 1 (.slice a k c) k (strL (L.take k)) /\ Bx wr w.heap.size 91 #[.bool true,.slice ka n kc,.slice ca 0 cc] /\ Below w.heap.size w wr /\ (∀ j,j < k -> Op.bytesLess (gt L j).toList key.toList = true)) := ⟨h1,h2,h3,h4⟩
    have x1 := h2.cell 1
    simp at x1
    have xz := h2.lt
    clear h1 h2 h3 h4 HO0 HB0
    by_cases hlt:k < n
    · obtain ⟨b,o,rfl,hc⟩ := (HRD.out.below HST.out.2.2.1:RdS wr ka n (gt L)).resolve_left (by omega)
      have s0 := hc k hlt
      have i0:(0:Int) <= (k:Int) := by omega
      have i1:(k:Int) < (n:Int) := by omega
      have i1d:decide ((k:Int) < (n:Int)) = true := decide_eq_true i1
      clear hc
      cases hcmp:Op.bytesLess (gt L k).toList key.toList with
      | true =>
        have HO:Hid ((wr.alloc (.cells #[.string (gt L k)] 9)).ownsRow (w.heap.size + 1) 9 1 (.slice a k c) k (strL (L.take k))) := own_below HST.out.1 (below_alloc _ _)
        have z2 := HST.out.2.2.1.size
        go_wp2_with (at_builtin; refine wpList_append_own_at _ rfl _ _ 88 rfl (w.heap.size + 1) 9 i9 _ 1 16 Tryz.underlying88 HI.out.1 HI.out.2.1 HI.out.2.2.1 HI.out.2.2.2 rfl (by decide) (.slice a k c) k _ rfl HO.out ⟨wr.heap.size,0,none⟩ 1 1 [.string (gt L k)] rfl rfl (cell_one_new _ _ _) (by intro u hu; simp at hu; subst hu; rfl) (by unfold maxLen; omega) (by omega) (by simp; omega) ?_)
        intro v2 w2 ho2 hg2 _ hat2
        obtain ⟨a2,c2,rfl,_⟩ := own_form ho2
        have HX:Hid (w2.ownsRow (w.heap.size + 1) 9 1 (.slice a2 (k + 1) c2) (k + 1) (strL (L.take (k + 1))) /\ Bx w2 w.heap.size 91 #[.bool true,.slice (some ⟨b,o,none⟩) n kc,.slice ca 0 cc] /\ Below w.heap.size w w2 /\ (∀ j,j < k + 1 -> Op.bytesLess (gt L j).toList key.toList = true)) := by
          have hst := HST.out
          have hne:∀ g,(Value.slice a k c).ownBlock = some g -> w.heap.size + 1 <= g := fun g e => (own_lt hst.1 g e).1
          have hbA:Below w.heap.size w (wr.alloc (.cells #[.string (gt L k)] 9)) := hst.2.2.1.alloc hst.2.2.1.size _
          have hkl:k < L.length := by rw [<- HLn.out]; exact hlt
          have e1:L.take (k + 1) = L.take k ++ [gt L k] := by
            rw [List.take_add_one,List.getElem?_eq_getElem hkl]
            unfold gt
            rw [List.getD_eq_getElem?_getD,List.getElem?_eq_getElem hkl]
            rfl
          refine ⟨by rw [e1,strL_app]; exact ho2,(hst.2.1.alloc _).grown hg2 (fun e => by have := hne _ e; omega),hbA.grown hg2 (by simp; omega) (fun g e => by have := hne g e; omega),fun j hj => ?_⟩
          by_cases e:j = k
          · subst e; exact hcmp
          · exact hst.2.2.2 j (by omega)
        clear ho2 hg2 hat2 HO s0 x1
        go_wp2
        go_roundw
        case rel => exact ⟨k + 1,a2,c2,by omega,by go_num,rfl,HX.out⟩
        case measure => simp [intOf]; omega
      | false =>
        have HC:Hid (cntL key L = k) := by
          refine cntL_at (by rw [<- HLn.out]; exact hk) HST.out.2.2.2 (fun j h1 h2 => ?_)
          by_cases e:j = k
          · subst e; exact hcmp
          · have q := asc_lt HA.out (show k < j by omega) h2
            cases hx:Op.bytesLess (gt L j).toList key.toList with
            | false => rfl
            | true => rw [less_trans _ _ _ q hx] at hcmp; cases hcmp
        have HIK:Hid (insK key L = L.take k ++ key :: L.drop k) := by show _ = _; unfold insK; rw [HC.out]
        have hst := HST.out
        obtain ⟨ra,hra⟩:∃ ra:Option Addr,ra = (if kc = k then some ⟨b,o,none⟩ else (some ⟨b,o,none⟩:Option Addr).map fun x => x.add k) := ⟨_,rfl⟩
        have hsl:∀ W:World,(Instr.sliceAt 88 (.slice (some ⟨b,o,none⟩) n kc) (some (.int .i64 (k:Int))) none none).run Tryz.prog W = .ok (.slice ra (n - k) (kc - k)) W := fun W => by rw [hra]; exact fromS (some ⟨b,o,none⟩) n kc k hk hcap1 W
        have HRA:Hid (ra = (if kc = k then some ⟨b,o,none⟩ else (some ⟨b,o,none⟩:Option Addr).map fun x => x.add k)) := hra
        clear hra
        have HO:Hid ((wr.alloc (.cells #[.string key] 9)).ownsRow (w.heap.size + 1) 9 1 (.slice a k c) k (strL (L.take k))) := own_below hst.1 (below_alloc _ _)
        have z2 := hst.2.2.1.size
        have s1 := hst.2.1.cell 1
        simp at s1
        have s1z := hst.2.1.lt
        clear hst
        go_wp2_with (at_builtin; refine wpList_append_own_at _ rfl _ _ 88 rfl (w.heap.size + 1) 9 i9 _ 1 16 Tryz.underlying88 HI.out.1 HI.out.2.1 HI.out.2.2.1 HI.out.2.2.2 rfl (by decide) (.slice a k c) k _ rfl HO.out ⟨wr.heap.size,0,none⟩ 1 1 [.string key] rfl rfl (cell_one_new _ _ _) (by intro u hu; simp at hu; subst hu; rfl) (by unfold maxLen; omega) (by omega) (by simp; omega) ?_)
        intro v2 w2 ho2 hg2 _ hat2
        have HX2:Hid (w2.ownsRow (w.heap.size + 1) 9 1 v2 (k + 1) (strL (L.take k ++ [key])) /\ Bx w2 w.heap.size 91 #[.bool true,.slice (some ⟨b,o,none⟩) n kc,.slice ca 0 cc] /\ Below w.heap.size w w2 /\ w.heap.size + 1 <= w2.heap.size) := by
          have hst := HST.out
          have hne:∀ g,(Value.slice a k c).ownBlock = some g -> w.heap.size + 1 <= g := fun g e => (own_lt hst.1 g e).1
          have hbA:Below w.heap.size w (wr.alloc (.cells #[.string key] 9)) := hst.2.2.1.alloc hst.2.2.1.size _
          refine ⟨by rw [strL_app]; exact ho2,(hst.2.1.alloc _).grown hg2 (fun e => by have := hne _ e; omega),hbA.grown hg2 (by simp; omega) (fun g e => by have := hne g e; omega),?_⟩
          have := hg2.size
          simp at this
          omega
        clear ho2 hg2 hat2 HO HI s1 s1z
        obtain ⟨a2,c2,rfl,_⟩ := own_form HX2.out.1
        have s1 := HX2.out.2.1.cell 1
        simp at s1
        have s1z := HX2.out.2.1.lt
        have HRest:Hid (RdS w2 ra (n - k) (gt (L.drop k)) /\ n - k = (L.drop k).length) := by
          refine ⟨?_,by rw [List.length_drop,<- HLn.out]⟩
          rw [HRA.out]
          rcases (HRD.out.below HX2.out.2.2.1:RdS w2 (some ⟨b,o,none⟩) n (gt L)) with q | ⟨b',o',eb,hc⟩
          · exact Or.inl (by omega)
          · by_cases e:n = k
            · exact Or.inl (by omega)
            · injection eb with eb; injection eb with eb1 eb2; subst eb1 eb2; refine Or.inr ⟨b,o + k,by rw [if_neg (by omega)]; simp [addr_add],fun i hi => ?_⟩
              have := hc (k + i) (by omega)
              rw [show o + k + i = o + (k + i) by omega,this]
              congr 2
              unfold gt
              rw [List.getD_eq_getElem?_getD,List.getD_eq_getElem?_getD,List.getElem?_drop]
        go_wp2_with (at_builtin; refine wpList_append_strs rfl _ _ rfl (w.heap.size + 1) (.slice a2 (k + 1) c2) (k + 1) _ rfl HX2.out.1 ra (n - k) (kc - k) (L.drop k) rfl HRest.out.2 HRest.out.1 (by omega) (by have := HX2.out.2.2.2; omega) ?_)
        intro v3 w3 ho3 hg3 hat3
        have hlen3:k + 1 + (n - k) = (insK key L).length := by rw [insK_length,<- HLn.out]; omega
        rw [<- strL_app,show L.take k ++ [key] ++ L.drop k = insK key L by rw [HIK.out]; simp] at ho3
        obtain ⟨a3,c3,rfl,h31,h32,h33⟩ := ownS_strL ho3 hlen3
        have HB3:Hid (Below w.heap.size w w3) := HX2.out.2.2.1.grown hg3 (by have := HX2.out.2.2.2; omega) (fun g e => by have := (own_lt HX2.out.1 g e).1; omega)
        have HNG:Hid (NG (fun b => w.heap.size <= b) w3 (d + 1) (.inl (insK key L)) (.agg #[.bool true,.slice a3 (k + 1 + (n - k)) c3,.slice none 0 0])) := ⟨a3,c3,none,0,by rw [hlen3],(ks_own h31 ⟨by rw [<- hlen3]; exact h32,h33⟩ (fun b hb => by omega))⟩
        have HLs:Hid ((insK key L).length <= 5) := by show _ <= _; rw [insK_length,<- HLn.out]; omega
        have HSp:Hid (Calls Tryz.prog 114 #[.agg #[.bool true,.slice a3 (insK key L).length c3,.slice none 0 0]] w3 (RetGs (fun b => w.heap.size <= b) w3 (d + 1) (splR (.inl (insK key L))))) := split_any d (.inl (insK key L)) _ (fun b => w.heap.size <= b) w3 (by rw [hlen3] at HNG; exact HNG.out) HLs.out
        clear ho3 hg3 hat3 h31 HX2 HRest s1 s1z hsl
        go_wp2_with fail
        (with_reducible refine HSp.out.mono ?_)
        intro e w4 hr
        have HR4:Hid (RetGs S w (d + 1) (splR (.inl (insK key L))) e w4) := hr.weak HB3.out (fun b hb => Or.inr hb)
        clear hr
        obtain ⟨hbe,g4,c4,xs4,rfl,hr4⟩ := HR4.out
        clear hbe hr4
        go_wp2
        go_ret
        exact HR4.out
    · have i1:¬ (k:Int) < (n:Int) := by omega
      have i1d:decide ((k:Int) < (n:Int)) = false := decide_eq_false i1
      have HC:Hid (cntL key L = k) := cntL_at (by rw [<- HLn.out]; exact hk) HST.out.2.2.2 (fun j h1 h2 => absurd h2 (by rw [<- HLn.out]; omega))
      have HIK:Hid (insK key L = L.take k ++ key :: L.drop k) := by show _ = _; unfold insK; rw [HC.out]
      have hst := HST.out
      obtain ⟨ra,hra⟩:∃ ra:Option Addr,ra = (if kc = k then ka else ka.map fun x => x.add k) := ⟨_,rfl⟩
      have hsl:∀ W:World,(Instr.sliceAt 88 (.slice ka n kc) (some (.int .i64 (k:Int))) none none).run Tryz.prog W = .ok (.slice ra (n - k) (kc - k)) W := fun W => by rw [hra]; exact fromS ka n kc k hk hcap1 W
      have HRA:Hid (ra = (if kc = k then ka else ka.map fun x => x.add k)) := hra
      clear hra
      have HO:Hid ((wr.alloc (.cells #[.string key] 9)).ownsRow (w.heap.size + 1) 9 1 (.slice a k c) k (strL (L.take k))) := own_below hst.1 (below_alloc _ _)
      have z2 := hst.2.2.1.size
      have s1 := hst.2.1.cell 1
      simp at s1
      have s1z := hst.2.1.lt
      clear hst
      go_wp2_with (at_builtin; refine wpList_append_own_at _ rfl _ _ 88 rfl (w.heap.size + 1) 9 i9 _ 1 16 Tryz.underlying88 HI.out.1 HI.out.2.1 HI.out.2.2.1 HI.out.2.2.2 rfl (by decide) (.slice a k c) k _ rfl HO.out ⟨wr.heap.size,0,none⟩ 1 1 [.string key] rfl rfl (cell_one_new _ _ _) (by intro u hu; simp at hu; subst hu; rfl) (by unfold maxLen; omega) (by omega) (by simp; omega) ?_)
      intro v2 w2 ho2 hg2 _ hat2
      have HX2:Hid (w2.ownsRow (w.heap.size + 1) 9 1 v2 (k + 1) (strL (L.take k ++ [key])) /\ Bx w2 w.heap.size 91 #[.bool true,.slice ka n kc,.slice ca 0 cc] /\ Below w.heap.size w w2 /\ w.heap.size + 1 <= w2.heap.size) := by
        have hst := HST.out
        have hne:∀ g,(Value.slice a k c).ownBlock = some g -> w.heap.size + 1 <= g := fun g e => (own_lt hst.1 g e).1
        have hbA:Below w.heap.size w (wr.alloc (.cells #[.string key] 9)) := hst.2.2.1.alloc hst.2.2.1.size _
        refine ⟨by rw [strL_app]; exact ho2,(hst.2.1.alloc _).grown hg2 (fun e => by have := hne _ e; omega),hbA.grown hg2 (by simp; omega) (fun g e => by have := hne g e; omega),?_⟩
        have := hg2.size
        simp at this
        omega
      clear ho2 hg2 hat2 HO HI s1 s1z
      obtain ⟨a2,c2,rfl,_⟩ := own_form HX2.out.1
      have s1 := HX2.out.2.1.cell 1
      simp at s1
      have s1z := HX2.out.2.1.lt
      have HRest:Hid (RdS w2 ra (n - k) (gt (L.drop k)) /\ n - k = (L.drop k).length) := by
        refine ⟨?_,by rw [List.length_drop,<- HLn.out]⟩
        rw [HRA.out]
        rcases (HRD.out.below HX2.out.2.2.1:RdS w2 ka n (gt L)) with q | ⟨b,o,rfl,hc⟩
        · exact Or.inl (by omega)
        · by_cases e:n = k
          · exact Or.inl (by omega)
          · refine Or.inr ⟨b,o + k,by rw [if_neg (by omega)]; simp [addr_add],fun i hi => ?_⟩
            have := hc (k + i) (by omega)
            rw [show o + k + i = o + (k + i) by omega,this]
            congr 2
            unfold gt
            rw [List.getD_eq_getElem?_getD,List.getD_eq_getElem?_getD,List.getElem?_drop]
      go_wp2_with (at_builtin; refine wpList_append_strs rfl _ _ rfl (w.heap.size + 1) (.slice a2 (k + 1) c2) (k + 1) _ rfl HX2.out.1 ra (n - k) (kc - k) (L.drop k) rfl HRest.out.2 HRest.out.1 (by omega) (by have := HX2.out.2.2.2; omega) ?_)
      intro v3 w3 ho3 hg3 hat3
      have hlen3:k + 1 + (n - k) = (insK key L).length := by rw [insK_length,<- HLn.out]; omega
      rw [<- strL_app,show L.take k ++ [key] ++ L.drop k = insK key L by rw [HIK.out]; simp] at ho3
      obtain ⟨a3,c3,rfl,h31,h32,h33⟩ := ownS_strL ho3 hlen3
      have HB3:Hid (Below w.heap.size w w3) := HX2.out.2.2.1.grown hg3 (by have := HX2.out.2.2.2; omega) (fun g e => by have := (own_lt HX2.out.1 g e).1; omega)
      have HNG:Hid (NG (fun b => w.heap.size <= b) w3 (d + 1) (.inl (insK key L)) (.agg #[.bool true,.slice a3 (k + 1 + (n - k)) c3,.slice none 0 0])) := ⟨a3,c3,none,0,by rw [hlen3],(ks_own h31 ⟨by rw [<- hlen3]; exact h32,h33⟩ (fun b hb => by omega))⟩
      have HLs:Hid ((insK key L).length <= 5) := by show _ <= _; rw [insK_length,<- HLn.out]; omega
      have HSp:Hid (Calls Tryz.prog 114 #[.agg #[.bool true,.slice a3 (insK key L).length c3,.slice none 0 0]] w3 (RetGs (fun b => w.heap.size <= b) w3 (d + 1) (splR (.inl (insK key L))))) := split_any d (.inl (insK key L)) _ (fun b => w.heap.size <= b) w3 (by rw [hlen3] at HNG; exact HNG.out) HLs.out
      clear ho3 hg3 hat3 h31 HX2 HRest s1 s1z hsl
      go_wp2_with fail
      (with_reducible refine HSp.out.mono ?_)
      intro e w4 hr
      have HR4:Hid (RetGs S w (d + 1) (splR (.inl (insK key L))) e w4) := hr.weak HB3.out (fun b hb => Or.inr hb)
      clear hr
      obtain ⟨hbe,g4,c4,xs4,rfl,hr4⟩ := HR4.out
      clear hbe hr4
      go_wp2
      go_ret
      exact HR4.out

theorem kids_app {w w' : World} {vk v' : Value} {S:Nat -> Prop} {d:Nat} {ts:List (Ro d)} {xs:List Value} (h:KidL (fun t v => NG S w d t v) ts xs) (hS:∀ b,S b -> b < w.heap.size -> vk.ownBlock ≠ some b) (hg:w.grownBy w' vk.ownBlock) (hat:v'.ownBlock = vk.ownBlock \/ v'.ownBlock = some w.heap.size) :
    KidL (fun t v => NG (fun b => S b /\ v'.ownBlock ≠ some b) w' d t v) ts xs := by
  refine h.mono (fun t v q => q.keep hg.size (fun b hs hl => ⟨⟨hs,?_⟩,hg.block b hl (fun e => hS b hs hl e.symm)⟩))
  rcases hat with e | e
  · rw [e]; exact hS b hs hl
  · rw [e]
    intro e2
    injection e2 with e2
    omega

theorem shZ_form (sz b o lo c n:Nat) (h:n <= c) (h2:lo <= n):∃ oo,shZ sz b o lo c = some ⟨b,oo,none⟩ /\ (lo < n -> oo = o + lo * sz) := by
  unfold shZ
  split
  · exact ⟨o,rfl,fun h => by omega⟩
  · exact ⟨_,rfl,fun _ => rfl⟩

set_option maxHeartbeats 4000000 in
theorem ins_any (key:ByteArray):∀ (d:Nat) (t:Ro d) (v:Value) (root:Bool) (h:Nat) (S:Nat -> Prop) (w:World),NG S w d t v -> BalR d root t h -> Asc (keysR d t) -> nodesR d t <= 5000 -> (keysR d t).length <= 1099511627776 ->
    Calls Tryz.prog 79 #[v,.string key] w (fun e w' => ∃ rs,InsR key d t rs /\ RetGs S w d rs e w') := by
  intro d
  induction d with
  | zero => intro t; exact t.elim
  | succ d ih =>
    intro t v root h S w hv hbal hasc hnod hlen
    rcases t with L | l
    · refine (ins_leaf d L v key S w hv hasc (by obtain ⟨_,q,_⟩ := hbal; exact q)).mono (fun e w' hr => ⟨_,rfl,hr⟩)
    · obtain ⟨b2,b4,h',rfl,hall⟩ := hbal
      have hasc' : Asc (l.flatMap (keysR d)) := hasc
      have HIH:Hid (∀ (i:Nat) (hi:i < l.length) (v:Value) (S:Nat -> Prop) (w:World),NG S w d l[i] v -> Calls Tryz.prog 79 #[v,.string key] w (fun e w' => ∃ rs,(InsR key d l[i] rs /\ (rs.length = 1 \/ rs.length = 2)) /\ RetGs S w d rs e w')) := by
        intro i hi v S w hv
        refine (ih l[i] v false h' S w hv (hall _ (List.getElem_mem hi)) (asc_kid hasc' i hi) (by have := kid_le d l i hi; omega) ?_).mono (fun e w' hr => ?_)
        · have:(keysR d l[i]).length <= (l.flatMap (keysR d)).length := by
            exact kid_keys_le d l i hi
          have h3:(l.flatMap (keysR d)).length <= 1099511627776 := hlen
          omega
        · obtain ⟨rs,q1,q2⟩ := hr
          refine ⟨rs,⟨q1,?_⟩,q2⟩
          rcases InsR.bal (hall _ (List.getElem_mem hi)) q1 with ⟨y,e,_⟩ | ⟨y,z,e,_⟩
          · exact Or.inl (by rw [e]; rfl)
          · exact Or.inr (by rw [e]; rfl)
      have HCh:Hid (∀ W,Below w.heap.size w W -> Calls Tryz.prog 115 #[v,.string key] W fun e w' => ∃ i:Nat,e = .returned (.int .i64 (i:Int)) /\ KidIs l key i /\ Below W.heap.size W w') := fun W hW => child_any d l v key W (hv.below hW).na (fun k hk => bal_keys (hall _ (List.getElem_mem hk))) hnod (fun k hk => by
        have:(keysR d l[k]).length <= (l.flatMap (keysR d)).length := by
          exact kid_keys_le d l k hk
        have h3:(l.flatMap (keysR d)).length <= 1099511627776 := hlen
        omega)
      obtain ⟨ka,kc,b,cc,xs,rfl,⟨hs,hcap⟩,hb,hl,hx,hk⟩ := hv
      obtain ⟨n,hn⟩:∃ n,n = l.length := ⟨_,rfl⟩
      have HLn:Hid (n = l.length) := hn
      have HXK:Hid ((∀ j u,xs[j]? = some u -> w.cell? ⟨b,j,none⟩ = some u) /\ KidL (fun t v => NG S w d t v) l xs) := ⟨hx,hk⟩
      have HXl:Hid (xs.length = n * 3) := by have := hk.len; rw [<- hn] at this; exact this
      have HSb:Hid (S b) := hs
      rw [<- hn] at hcap hl b2 b4 HCh ⊢
      obtain ⟨i0,hi0,hz0,hz1,hz2⟩ := info_parts Tryz.info91
      have HI:Hid (Tryz.prog.info? 91 = some i0 /\ i0.zero = some (.agg #[.bool false,.slice none 0 0,.slice none 0 0]) /\ i0.size = 3 /\ i0.bytes = 56) := ⟨hi0,hz0,hz1,hz2⟩
      clear ih hasc hasc' hnod hlen hall hn hx hk hs hi0 hz0 hz1 hz2
      go_enter Tryz.func79,Tryz.ntmps79
      go_wp2_with fail
      (with_reducible refine (HCh.out _ (below_alloc _ _)).mono ?_)
      rintro e w2 ⟨i,rfl,hkid,hb2⟩
      have HK:Hid (KidIs l key i) := hkid
      have hin:i < n := by rw [HLn.out]; exact hkid.1
      have hbx := (Bx.new w #[.bool false,.slice ka 0 kc,.slice (some ⟨b,0,none⟩) n cc] 91).below hb2
      have HB2:Hid (Below w.heap.size w w2) := (below_alloc _ _).trans (hb2.mono (by simp))
      have HBX2:Hid (Bx w2 w.heap.size 91 #[.bool false,.slice ka 0 kc,.slice (some ⟨b,0,none⟩) n cc]) := hbx
      have x2 := hbx.cell 2
      simp at x2
      have xz := hbx.lt
      have hsl1:∀ W:World,(Instr.sliceAt 89 (.slice (some ⟨b,0,none⟩) n cc) none (some (.int .i64 (i:Int))) none).run Tryz.prog W = .ok (.slice (some ⟨b,0,none⟩) i cc) W := fun W => uptoK b 0 n cc i (by omega) hcap.1 W
      have HO:Hid ((w2.alloc (.cells #[] 91)).ownsRow w2.heap.size 91 3 (.slice (some ⟨w2.heap.size,0,none⟩) 0 0) 0 []) := own_empty w2 91 w2.heap.size 3 (Nat.le_refl _)
      have HY1:Hid ((xs.take (i * 3)).length = i * 3 /\ (∀ j u,(xs.take (i * 3))[j]? = some u -> (w2.alloc (.cells #[] 91)).cell? ⟨b,j,none⟩ = some u) /\ KidL (fun t v => NG S w d t v) (l.take i) (xs.take (i * 3))) := by
        refine ⟨by rw [List.length_take,HXl.out]; omega,fun j u hj => ?_,KidL.take i HXK.out.2⟩
        rw [List.getElem?_take] at hj
        split at hj
        · exact ((HB2.out.alloc HB2.out.size _).cell (p := ⟨b,j,none⟩) hb).trans (HXK.out.1 j u hj)
        · cases hj
      clear hbx hb2 hkid HCh
      go_wp2_with (at_builtin; refine wpList_append_own_at _ rfl _ _ 89 rfl w2.heap.size 91 i0 _ 3 56 Tryz.underlying89 HI.out.1 HI.out.2.1 HI.out.2.2.1 HI.out.2.2.2 rfl (by decide) (.slice (some ⟨w2.heap.size,0,none⟩) 0 0) 0 [] rfl HO.out ⟨b,0,none⟩ i cc _ rfl HY1.out.1 (fun j u hj => by rw [addr_add,Nat.zero_add]; exact HY1.out.2.1 j u hj) (HY1.out.2.2.cells NG.one) (by unfold maxLen; omega) (by omega) (by simp) ?_)
      intro v3 w3 ho3 hg3 _ hat3
      obtain ⟨a3,c3,rfl,_⟩ := own_form ho3
      have HS3:Hid (w3.ownsRow w2.heap.size 91 3 (.slice a3 i c3) i (xs.take (i * 3)) /\ Below w2.heap.size w2 w3 /\ w2.heap.size + 1 <= w3.heap.size /\ (∀ g,(Value.slice a3 i c3).ownBlock = some g -> w2.heap.size <= g /\ g < w3.heap.size)) :=
        ⟨ho3,(below_alloc _ _).grown hg3 (by simp) (fun g e => by simp [Value.ownBlock] at e; omega),by have := hg3.size; simpa using this,own_lt ho3⟩
      have HB3:Hid (Below w.heap.size w w3) := HB2.out.trans (HS3.out.2.1.mono HB2.out.size)
      have HBX3:Hid (Bx w3 w.heap.size 91 #[.bool false,.slice ka 0 kc,.slice (some ⟨b,0,none⟩) n cc]) := HBX2.out.below HS3.out.2.1
      clear ho3 hg3 hat3 HO x2 hsl1
      have x2 := HBX3.out.cell 2
      simp at x2
      have hil:i < l.length := by rw [<- HLn.out]; exact hin
      obtain ⟨lf1,ka1,kn1,kc1,ca1,cn1,cc1,y0,y1,y2,hng⟩ := kid_at HXK.out.1 HXK.out.2 i hil
      have z0 := (HB3.out.cell (p := ⟨b,i * 3,none⟩) hb).trans y0
      have z1 := (HB3.out.cell (p := ⟨b,i * 3 + 1,none⟩) hb).trans y1
      have z2 := (HB3.out.cell (p := ⟨b,i * 3 + 2,none⟩) hb).trans y2
      have HCall:Hid (Calls Tryz.prog 79 #[.agg #[.bool lf1,.slice ka1 kn1 kc1,.slice ca1 cn1 cc1],.string key] w3 (fun e w' => ∃ rs,(InsR key d l[i] rs /\ (rs.length = 1 \/ rs.length = 2)) /\ RetGs (fun b => S b /\ b < w.heap.size) w3 d rs e w')) := HIH.out i hil _ (fun b => S b /\ b < w.heap.size) w3 (((show NG S w d l[i] _ from hng).wide (fun b hs hl => ⟨hs,hl⟩)).below HB3.out)
      have i0' : (0:Int) <= (i:Int) := by omega
      have i1' : (i:Int) < (n:Int) := by omega
      have hzw:w.heap.size < w3.heap.size := HBX3.out.lt
      clear hng y0 y1 y2 HIH
      go_wp2_with fail
      (with_reducible refine HCall.out.mono ?_)
      rintro e w4 ⟨rs,⟨hins,hrl⟩,hb4,g4,c4,xs4,rfl,hg4,hl4,hcap4,hc4,hk4⟩
      have HX4:Hid (InsR key d l[i] rs /\ Below w3.heap.size w3 w4 /\ (∀ j u,xs4[j]? = some u -> w4.cell? ⟨g4,j,none⟩ = some u) /\ KidL (fun t v => NG (fun b => (S b /\ b < w.heap.size) \/ w3.heap.size <= b) w4 d t v) rs xs4) := ⟨hins,hb4,hc4,hk4⟩
      have HO4:Hid (w4.ownsRow w2.heap.size 91 3 (.slice a3 i c3) i (xs.take (i * 3))) := own_below HS3.out.1 hb4
      have hz4 := hb4.size
      have hz3 := HS3.out.2.2.1
      clear hins hb4 hc4 hk4 HCall z0 z1 z2
      go_wp2_with (at_builtin; refine wpList_append_own_at _ rfl _ _ 89 rfl w2.heap.size 91 i0 _ 3 56 Tryz.underlying89 HI.out.1 HI.out.2.1 HI.out.2.2.1 HI.out.2.2.2 rfl (by decide) (.slice a3 i c3) i _ rfl HO4.out ⟨g4,0,none⟩ rs.length c4 xs4 rfl HX4.out.2.2.2.len (fun j u hj => by rw [addr_add,Nat.zero_add]; exact HX4.out.2.2.1 j u hj) (HX4.out.2.2.2.cells NG.one) (by unfold maxLen; omega) (by omega) (by omega) ?_)
      intro v5 w5 ho5 hg5 _ hat5
      obtain ⟨a5,c5,rfl,_⟩ := own_form ho5
      have HS5:Hid (w5.ownsRow w2.heap.size 91 3 (.slice a5 (i + rs.length) c5) (i + rs.length) (xs.take (i * 3) ++ xs4) /\ Below w.heap.size w w5 /\ w4.heap.size <= w5.heap.size /\ Bx w5 w.heap.size 91 #[.bool false,.slice ka 0 kc,.slice (some ⟨b,0,none⟩) n cc] /\
          KidL (fun t v => NG (fun b => ((S b /\ b < w.heap.size) \/ w3.heap.size <= b) /\ (Value.slice a5 (i + rs.length) c5).ownBlock ≠ some b) w5 d t v) (l.take i ++ rs) (xs.take (i * 3) ++ xs4)) := by
        have hb24:Below w2.heap.size w2 w4 := HS3.out.2.1.trans (HX4.out.2.1.mono (by omega))
        have hb04:Below w.heap.size w w4 := HB2.out.trans (hb24.mono HB2.out.size)
        have hlt5:∀ g,(Value.slice a3 i c3).ownBlock = some g -> w2.heap.size <= g := fun g e => (HS3.out.2.2.2 g e).1
        have hz2 := HB2.out.size
        refine ⟨ho5,hb04.grown hg5 (by omega) (fun g e => by have := hlt5 g e; omega),hg5.size,((HBX3.out.below HX4.out.2.1)).grown hg5 (fun e => by have := hlt5 _ e; have := HBX2.out.lt; omega),?_⟩
        refine kids_app (KidL.cat HX4.out.2.2.2 (HY1.out.2.2.mono (fun t v q => q.keep hb04.size (fun b hs hl => ⟨Or.inl ⟨hs,hl⟩,hb04.block b hl⟩)))) (fun b hs hl e => ?_) hg5 hat5
        have h2 := HS3.out.2.2.2 b e
        have hz02 := HB2.out.size
        rcases hs with hs | hs
        · omega
        · omega
      clear ho5 hg5 hat5 HO4 x2
      have x2 := HS5.out.2.2.2.1.cell 2
      simp at x2
      have hzw5:w.heap.size < w5.heap.size := HS5.out.2.2.2.1.lt
      obtain ⟨oo,hoo,hoo2⟩ := shZ_form 3 b 0 (i + 1) cc n hcap.1 hin
      have hsl2:∀ W:World,(Instr.sliceAt 89 (.slice (some ⟨b,0,none⟩) n cc) (some (.int .i64 ((i:Int) + 1))) none none).run Tryz.prog W = .ok (.slice (some ⟨b,oo,none⟩) (n - (i + 1)) (cc - (i + 1))) W := fun W => by
        have := fromK b 0 n cc (i + 1) hin hcap.1 W
        rw [hoo] at this
        simpa using this
      have HY3:Hid ((xs.drop ((i + 1) * 3)).length = (n - (i + 1)) * 3 /\ (∀ j u,(xs.drop ((i + 1) * 3))[j]? = some u -> w5.cell? ⟨b,oo + j,none⟩ = some u) /\ KidL (fun t v => NG S w d t v) (l.drop (i + 1)) (xs.drop ((i + 1) * 3))) := by
        have hl3:(xs.drop ((i + 1) * 3)).length = (n - (i + 1)) * 3 := by rw [List.length_drop,HXl.out]; omega
        refine ⟨hl3,fun j u hj => ?_,KidL.drop (i + 1) HXK.out.2⟩
        have hj2 := (List.getElem?_eq_some_iff.1 hj).1
        rw [hl3] at hj2
        rw [List.getElem?_drop] at hj
        rw [hoo2 (by omega),Nat.zero_add]
        exact (HS5.out.2.1.cell (p := ⟨b,_,none⟩) hb).trans (HXK.out.1 _ u hj)
      have hz5 := HS5.out.2.2.1
      have hz2 := HB2.out.size
      clear hoo hoo2
      go_wp2_with (at_builtin; refine wpList_append_own_at _ rfl _ _ 89 rfl w2.heap.size 91 i0 _ 3 56 Tryz.underlying89 HI.out.1 HI.out.2.1 HI.out.2.2.1 HI.out.2.2.2 rfl (by decide) (.slice a5 (i + rs.length) c5) (i + rs.length) _ rfl HS5.out.1 ⟨b,oo,none⟩ (n - (i + 1)) (cc - (i + 1)) _ rfl HY3.out.1 (fun j u hj => by rw [addr_add]; exact HY3.out.2.1 j u hj) (HY3.out.2.2.cells NG.one) (by unfold maxLen; omega) (by omega) (by omega) ?_)
      intro v6 w6 ho6 hg6 _ hat6
      obtain ⟨M,hMM⟩:∃ M,M = l.take i ++ rs ++ l.drop (i + 1) := ⟨_,rfl⟩
      have HMM:Hid (M = l.take i ++ rs ++ l.drop (i + 1)) := hMM
      have hM:i + rs.length + (n - (i + 1)) = M.length := by
        rw [hMM,List.length_append,List.length_append,List.length_take,List.length_drop,<- HLn.out]
        omega
      have hM5:M.length <= 5 := by rw [<- hM]; omega
      have hM0:M.length ≠ 0 := by rw [<- hM]; omega
      rw [hM] at ho6
      obtain ⟨a6,c6,rfl,hf6⟩ := own_form ho6
      obtain ⟨g6,rfl,h61,h62,h63⟩ := hf6 hM0
      have HB6:Hid (Below w.heap.size w w6) := HS5.out.2.1.grown hg6 (by omega) (fun g e => by have := (own_lt HS5.out.1 g e).1; omega)
      have HNG:Hid (NG (fun b => S b \/ w.heap.size <= b) w6 (d + 1) (.inr M) (.agg #[.bool false,.slice none 0 0,.slice (some ⟨g6,0,none⟩) M.length c6])) := by
        refine ⟨none,0,g6,c6,_,rfl,⟨Or.inr (by omega),own_cap ho6⟩,h62,by omega,h63,?_⟩
        rw [HMM.out,List.append_assoc]
        have q := kids_app (KidL.cat (HY3.out.2.2.mono (fun t v q => q.keep (S' := fun b => ((S b /\ b < w.heap.size) \/ w3.heap.size <= b) /\ (Value.slice a5 (i + rs.length) c5).ownBlock ≠ some b) HS5.out.2.1.size (fun b hs hl => ⟨⟨Or.inl ⟨hs,hl⟩,fun e => by have := (own_lt HS5.out.1 b e).1; omega⟩,HS5.out.2.1.block b hl⟩))) HS5.out.2.2.2.2) (fun b hs _ => hs.2) hg6 hat6
        rw [List.append_assoc] at q
        try rw [List.append_assoc (xs.take (i * 3))] at q
        refine q.mono (fun t v q => q.wide (fun b hs _ => ?_))
        rcases hs.1.1 with h | h
        · exact Or.inl h.1
        · exact Or.inr (by omega)
      have HSp:Hid (Calls Tryz.prog 114 #[.agg #[.bool false,.slice none 0 0,.slice (some ⟨g6,0,none⟩) M.length c6]] w6 (RetGs (fun b => S b \/ w.heap.size <= b) w6 (d + 1) (splR (.inr M)))) := split_any d (.inr M) _ _ w6 HNG.out hM5
      have HIns:Hid (InsR key d l[i] rs) := HX4.out.1
      clear ho6 hg6 hat6 h63 HNG HS5 HX4 HY3 HY1 x2 hsl2 HS3 hM hMM
      go_wp2_with fail
      (with_reducible refine HSp.out.mono ?_)
      intro e w7 hr
      have HR7:Hid (RetGs S w (d + 1) (splR (.inr M)) e w7) := hr.weak HB6.out (fun b hb => hb)
      clear hr
      obtain ⟨hbe,g7,c7,xs7,rfl,hr7⟩ := HR7.out
      clear hbe hr7
      go_wp2
      go_ret
      exact ⟨_,⟨i,HK.out,hil,rs,HIns.out,by rw [<- HMM.out]; rfl⟩,HR7.out⟩
end Go.Proofs.YtcnollkkigiobaaGreat
