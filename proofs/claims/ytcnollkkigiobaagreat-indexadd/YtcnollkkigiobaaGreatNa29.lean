import Derived.Test.YtcnollkkigiobaaGreatNa28
import Derived.Test.YtcnollkkigiobaaGreatNa52
import Derived.Test.YtcnollkkigiobaaGreatNa4
import Derived.Maps.AppendAt
set_option linter.unusedVariables false
set_option maxRecDepth 100000
namespace Go.Proofs.YtcnollkkigiobaaGreat
open Go.RowKit Go.Deep

def TreeRd (w:World) (lo hi m:Nat) (N:Nat -> Tn) (u:Value):Prop :=
  ∃ a c,u = .slice a m c /\ hi <= w.heap.size /\ (m = 0 \/ ∃ g xs,a = some ⟨g,0,none⟩ /\ lo <= g /\ g < hi /\ (∀ j v,xs[j]? = some v -> w.cell? ⟨g,j,none⟩ = some v) /\ FlAt (fun b => lo <= b /\ b < hi) w m N xs)
theorem TreeRd.of {w:World} {lo m c:Nat} {a:Option Addr} {N:Nat -> Tn} (h:RowN lo w a m N):TreeRd w lo w.heap.size m N (.slice a m c) := by
  refine ⟨a,c,rfl,Nat.le_refl _,?_⟩
  rcases h with h | ⟨g,xs,e,h1,h2,h3,h4⟩
  · exact .inl h
  · exact .inr ⟨g,xs,e,h1,h2,h3,h4.mono (Nat.le_refl _) (fun b hb hl => ⟨⟨hb,hl⟩,rfl⟩)⟩
theorem TreeRd.pl:PlP TreeRd where
  keep := by
    rintro w w' lo hi m N u ⟨a,c,e,hh,h⟩ hz hk
    refine ⟨a,c,e,Nat.le_trans hh hz,?_⟩
    rcases h with h | ⟨g,xs,e,h1,h2,h3,h4⟩
    · exact .inl h
    · refine .inr ⟨g,xs,e,h1,h2,fun j v hj => ?_,h4.mono hz (fun b hb hl => ⟨hb,hk b hb.1 hb.2⟩)⟩
      have := h3 j v hj
      simp only [World.cell?,hk g h1 h2] at this ⊢
      exact this
  top := by
    rintro w lo hi m N u ⟨a,c,e,hh,h⟩
    exact hh
  form := by
    rintro w lo hi m N u ⟨a,c,e,hh,h⟩
    refine ⟨a,c,e,?_⟩
    rcases h with h | ⟨g,xs,rfl,h1,h2,h3,h4⟩
    · exact .inl h
    · exact h4.rd h3

theorem step_f1 {ops:Array Oper} {o:Oper} {a:Act} {w:World} {K:Act -> World -> Prop} {Q:Exit -> Act -> World -> Prop} {E:Prop} (hgd:o.guard = none) (k:Nat) (i:Nat) (tys:Array TypeId)
    (ho:o.op = .call { callee := .value (.func k),args := #[.tmp i],argTypes := tys }) (u:Value) (hx:a.tmps[i]?.getD undef = u) (heg:∀ args w,(callFunc k args).run Tryz.prog w = .ok (.enter k args) w)
    (h:Calls Tryz.prog k #[u] w fun e w' => ∃ r,e = .returned r /\ K (a.put o.dst r) w') :
    if Region.wanted o (yielded ops a.tmps) = true then Oper.wp Tryz.prog o a w K Q else E := by
  have hw:Region.wanted o (yielded ops a.tmps) = true := by simp [Region.wanted,hgd]
  rw [if_pos hw]
  unfold Oper.wp
  simp [execOp,ho,resolve,invoke,hx,go_sem,heg]
  refine h.mono ?_
  rintro e w' ⟨u,rfl,hk⟩
  exact hk

theorem step_f2 {ops:Array Oper} {o:Oper} {a:Act} {w:World} {K:Act -> World -> Prop} {Q:Exit -> Act -> World -> Prop} {E:Prop} (hgd:o.guard = none) (k:Nat) (i j:Nat) (tys:Array TypeId)
    (ho:o.op = .call { callee := .value (.func k),args := #[.tmp i,.tmp j],argTypes := tys }) (u v:Value) (hx:a.tmps[i]?.getD undef = u) (hy:a.tmps[j]?.getD undef = v) (heg:∀ args w,(callFunc k args).run Tryz.prog w = .ok (.enter k args) w)
    (h:Calls Tryz.prog k #[u,v] w fun e w' => ∃ r,e = .returned r /\ K (a.put o.dst r) w') :
    if Region.wanted o (yielded ops a.tmps) = true then Oper.wp Tryz.prog o a w K Q else E := by
  have hw:Region.wanted o (yielded ops a.tmps) = true := by simp [Region.wanted,hgd]
  rw [if_pos hw]
  unfold Oper.wp
  simp [execOp,ho,resolve,invoke,hx,hy,go_sem,heg]
  refine h.mono ?_
  rintro e w' ⟨u,rfl,hk⟩
  exact hk

theorem step_tsl {ops:Array Oper} {o:Oper} {a:Act} {w:World} {K:Act -> World -> Prop} {Q:Exit -> Act -> World -> Prop} {E:Prop} {x:Nat} {u:Value} (hgd:o.guard = none)
    (ho:o.op = .buildSlice 30 1 #[(0,.tmp x)]) (hx:a.tmps[x]?.getD undef = .agg #[u])
    (h:K (a.put o.dst (.slice (some ⟨w.heap.size,0,none⟩) 1 1)) (w.alloc (.cells #[u] 59))) :
    if Region.wanted o (yielded ops a.tmps) = true then Oper.wp Tryz.prog o a w K Q else E := by
  have hw:Region.wanted o (yielded ops a.tmps) = true := by simp [Region.wanted,hgd]
  rw [if_pos hw]
  unfold Oper.wp
  simp [execOp,ho,hx,go_sem]
  exact h

theorem step_tapp {ops:Array Oper} {o:Oper} {a:Act} {w:World} {K:Act -> World -> Prop} {Q:Exit -> Act -> World -> Prop} {E:Prop} (hgd:o.guard = none) (x y:Operand)
    (ho:o.op = .call { callee := .builtin .append,args := #[x,y],argTypes := #[30,30] })
    (B k:Nat) (v:Value) (xs:List Value) (hx:a.eval x = v) (u:Value) (hown:(w.alloc (.cells #[u] 59)).ownsRow B 59 1 v k xs) (hy:a.eval y = .slice (some ⟨w.heap.size,0,none⟩) 1 1)
    (h0:u.oneCell' = true) (hk:k <= 1048576) (hB:B <= w.heap.size)
    (h:∀ v' w',w'.ownsRow B 59 1 v' (k + 1) (xs ++ [u]) -> (w.alloc (.cells #[u] 59)).grownBy w' v.ownBlock -> (v'.ownBlock = v.ownBlock \/ v'.ownBlock = some (w.heap.size + 1)) -> K (a.put o.dst v') w') :
    if Region.wanted o (yielded ops a.tmps) = true then Oper.wp Tryz.prog o a (w.alloc (.cells #[u] 59)) K Q else E := by
  have hw:Region.wanted o (yielded ops a.tmps) = true := by simp [Region.wanted,hgd]
  rw [if_pos hw]
  obtain ⟨i0,hi,hz0,hz1,hz2⟩ := info_parts Tryz.info59
  obtain ⟨v',w',hr,h2,h3,h4,h5⟩ := run_append_own_at (P := Tryz.prog) (w.alloc (.cells #[u] 59)) B 30 o.type 59 i0 _ 1 24 Tryz.underlying30 hi hz0 hz1 hz2 rfl (by decide) v k xs hown ⟨w.heap.size,0,none⟩ 1 1 [u] rfl (fun j u' hj => by
      match j,hj with
      | 0,hj => simp at hj; subst hj; rw [Addr.add_lit]; exact (Bx.new w #[u] 59).cell 0
      | j + 1,hj => simp at hj) (fun u' hu => by simp at hu; subst hu; exact h0) (by unfold maxLen; omega) (by omega) (by simp; omega)
  unfold Oper.wp execOp
  simp only [ho,resolve,invoke,builtin,Sem.run_bind,Sem.run_pure,Result.andThen_ok,List.map_toArray,List.map_cons,List.map_nil,hx,hy,hr]
  rw [World.size_alloc] at h5
  exact h v' w' h2 h3 h5

theorem RowI.low {P:World -> Nat -> Nat -> Nat -> (Nat -> Tn) -> Value -> Prop} {w:World} {B B' k:Nat} {v:Value} {M:Nat -> Nat} {T:Nat -> Nat -> Tn} {us:List Value} {lo hi:Nat -> Nat} (h:RowI P w B v k M T us lo hi) (hB:B' <= B):RowI P w B' v k M T us lo hi :=
  ⟨own_mono h.row hB,h.len,h.tree,fun i hi => Nat.le_trans hB (h.base i hi),h.ord,h.sep⟩
theorem RowI.congr {P:World -> Nat -> Nat -> Nat -> (Nat -> Tn) -> Value -> Prop} {w:World} {B k:Nat} {v:Value} {M M' : Nat -> Nat} {T T' : Nat -> Nat -> Tn} {us:List Value} {lo hi:Nat -> Nat} (h:RowI P w B v k M T us lo hi) (e:∀ i,i < k -> M i = M' i /\ T i = T' i):RowI P w B v k M' T' us lo hi :=
  ⟨h.row,h.len,fun i hi => by rw [<- (e i hi).1,<- (e i hi).2]; exact h.tree i hi,h.base,h.ord,h.sep⟩
theorem keep_cell {wr w2 w4:World} {O:Obj} {r:Option Nat} {B:Nat} (hb:Below wr.heap.size wr w2) (hg:(w2.alloc O).grownBy w4 r) (hr:∀ g,r = some g -> B <= g) {p:Addr} (hp:p.block < B) (hp2:p.block < wr.heap.size):w4.cell? p = wr.cell? p := by
  have hz := hb.size
  have e:w4.heap[p.block]? = wr.heap[p.block]? := (hg.block p.block (by rw [World.size_alloc]; omega) (fun e => by have := hr _ e.symm; omega)).trans (((below_alloc w2 O).block p.block (by omega)).trans (hb.block p.block hp2))
  simp only [World.cell?,e]
theorem keep_block {wr w2 w4:World} {O:Obj} {r:Option Nat} {B:Nat} (hb:Below wr.heap.size wr w2) (hg:(w2.alloc O).grownBy w4 r) (hr:∀ g,r = some g -> B <= g) {b:Nat} (hp:b < B) (hp2:b < wr.heap.size):w4.heap[b]? = wr.heap[b]? := by
  have hz := hb.size
  exact (hg.block b (by rw [World.size_alloc]; omega) (fun e => by have := hr _ e.symm; omega)).trans (((below_alloc w2 O).block b (by omega)).trans (hb.block b hp2))
def RetCs (w:World) (n:Nat) (M:Nat -> Nat) (T:Nat -> Nat -> Tn) (e:Ending) (w' : World):Prop :=
  ∃ a c us lo hi,e = .returned (.agg #[.slice a n c]) /\ RowI TreeRd w' (w.heap.size + 3) (.slice a n c) n M T us lo hi /\ Below w.heap.size w w'

set_option maxHeartbeats 4000000 in
theorem l5Copy_any (a:Option Addr) (n c:Nat) (M:Nat -> Nat) (T:Nat -> Nat -> Tn) (w:World) (h:RdIx w a n M T) (hn:n <= 1048576) (hN:IxFit n M T) :
    Calls Tryz.prog 42 #[.agg #[.slice a n c]] w (RetCs w n M T) := by
  have HR:Hid (RdIx w a n M T /\ IxFit n M T) := ⟨h,hN⟩
  clear h hN
  obtain ⟨W0,hW0⟩:∃ W0,W0 = ((w.alloc (.cells #[.slice a n c] 32)).alloc (.cells #[.slice none 0 0] 32)).alloc (.cells #[.slice none 0 0] 32) := ⟨_,rfl⟩
  have B0:Hid (Bx W0 w.heap.size 32 #[.slice a n c] /\ Bx W0 (w.heap.size + 1) 32 #[.slice none 0 0] /\ Bx W0 (w.heap.size + 2) 32 #[.slice none 0 0] /\ Below w.heap.size w W0 /\ W0.heap.size = w.heap.size + 3) := by
    have b1 := Bx.new w #[.slice a n c] 32
    have b2 := Bx.new (w.alloc (.cells #[.slice a n c] 32)) #[.slice none 0 0] 32
    have b3 := Bx.new ((w.alloc (.cells #[.slice a n c] 32)).alloc (.cells #[.slice none 0 0] 32)) #[.slice none 0 0] 32
    simp only [World.size_alloc] at b2 b3
    rw [hW0]
    exact ⟨(b1.alloc _).alloc _,b2.alloc _,b3,((below_alloc _ _).alloc (by simp) _).alloc (by simp; omega) _,by simp⟩
  go_enter Tryz.func42,Tryz.ntmps42
  go_upto_region 2 with fail
  rw [<- hW0]
  clear hW0
  go_wp2
  go_loopw [4] (fun i wr => ∃ (k:Nat) (v:Value) (us:List Value) (lo hi:Nat -> Nat),k <= n /\ i = .int .i64 k /\ RowI TreeRd wr (w.heap.size + 3) v k M T us lo hi /\ Bx wr (w.heap.size + 2) 32 #[v] /\ Below (w.heap.size + 2) W0 wr) (fun i _ => n - (intOf i).toNat)
  case atStart => exact ⟨0,_,[],_,_,Nat.zero_le _,rfl,RowI.nil _ _ _ _ _,B0.out.2.2.1,Below.refl _ _⟩
  case round =>
    obtain ⟨k,v,us,lo,hi,hk,rfl,hrow,hbx,hbel⟩ := hrel
    obtain ⟨av,cv,ev⟩ := hrow.form
    subst ev
    have hz := hbel.size
    have hw2 := B0.out.2.2.2.2
    have HQ:Hid (RowI TreeRd wr (w.heap.size + 3) (.slice av k cv) k M T us lo hi /\ Below (w.heap.size + 2) W0 wr /\ w.heap.size + 3 <= wr.heap.size /\ Below w.heap.size w wr /\ Bx wr (w.heap.size + 2) 32 #[.slice av k cv]) := ⟨hrow,hbel,by omega,B0.out.2.2.2.1.trans (hbel.mono (by omega)),hbx⟩
    have k0:(0:Int) <= (k:Int) := by omega
    have x1:wr.cell? ⟨w.heap.size,0,none⟩ = some (.slice a n c) := by
      have := (B0.out.1.below' hbel (by omega)).cell 0
      simpa using this
    by_cases hlt:k < n
    · have k1:(k:Int) < (n:Int) := by omega
      have hbw:∃ bb oo,a = some ⟨bb,oo,none⟩ /\ bb < w.heap.size /\ ∃ ai ci,wr.cell? ⟨bb,oo + k,none⟩ = some (.slice ai (M k) ci) /\ RdTn wr ai (M k) (T k) := by
        rcases HR.out.1 with h0 | ⟨bb,oo,e,hc⟩
        · omega
        · obtain ⟨ai,ci,s0,hrd⟩ := hc k hlt
          have hlb := World.block_lt_of_cell? _ _ s0
          exact ⟨bb,oo,e,hlb,ai,ci,by rw [HQ.out.2.2.2.1.cell (show (⟨bb,oo + k,none⟩:Addr).block < w.heap.size from hlb)]; exact s0,hrd.below HQ.out.2.2.2.1⟩
      obtain ⟨bb,oo,ea,hbb,ai,ci,s0,hrd⟩ := hbw
      subst ea
      have HF := HR.out.2 k hlt
      have x0:wr.cell? ⟨w.heap.size + 2,0,none⟩ = some (.slice av k cv) := by
        have := hbx.cell 0
        simpa using this
      have HC:Hid (Calls Tryz.prog 77 #[.agg #[.slice ai (M k) ci]] wr.drew (RetNs wr.drew (M k) (T k))) := copyS_any ai (M k) ci (T k) wr.drew (hrd.below ((Below.refl _ _).drew)) HF.1 HF.2
      have HU:Hid (∀ w2:World,Below wr.drew.heap.size wr.drew w2 -> Below wr.heap.size wr w2) := fun w2 h => below_undrew h
      have HK2:Hid (∀ w2:World,Below wr.drew.heap.size wr.drew w2 -> w2.cell? ⟨w.heap.size + 2,0,none⟩ = some (.slice av k cv) /\ w2.cell? ⟨w.heap.size,0,none⟩ = some (.slice (some ⟨bb,oo,none⟩) n c) /\ w2.cell? ⟨bb,oo + k,none⟩ = some (.slice ai (M k) ci)) := fun w2 h => by
        have hb := below_undrew h
        exact ⟨(hb.cell (World.block_lt_of_cell? _ _ x0)).trans x0,(hb.cell (World.block_lt_of_cell? _ _ x1)).trans x1,(hb.cell (World.block_lt_of_cell? _ _ s0)).trans s0⟩
      have HK3:Hid (∀ w2:World,Below wr.drew.heap.size wr.drew w2 -> ∀ O:Obj,(w2.alloc O).cell? ⟨w.heap.size + 2,0,none⟩ = some (.slice av k cv) /\ (w2.alloc O).cell? ⟨w.heap.size,0,none⟩ = some (.slice (some ⟨bb,oo,none⟩) n c) /\ (w2.alloc O).cell? ⟨bb,oo + k,none⟩ = some (.slice ai (M k) ci)) := fun w2 h O => by
        have hb := (below_undrew h).trans ((below_alloc w2 O).mono (below_undrew h).size)
        exact ⟨(hb.cell (World.block_lt_of_cell? _ _ x0)).trans x0,(hb.cell (World.block_lt_of_cell? _ _ x1)).trans x1,(hb.cell (World.block_lt_of_cell? _ _ s0)).trans s0⟩
      have hown:∀ g,(Value.slice av k cv).ownBlock = some g -> w.heap.size + 3 <= g := fun g e => (own_lt HQ.out.1.row g e).1
      have HK4:Hid (∀ (w2 w4:World),Below wr.drew.heap.size wr.drew w2 -> ∀ O:Obj,(w2.alloc O).grownBy w4 (Value.slice av k cv).ownBlock -> w4.cell? ⟨w.heap.size + 2,0,none⟩ = some (.slice av k cv) /\ w4.cell? ⟨w.heap.size,0,none⟩ = some (.slice (some ⟨bb,oo,none⟩) n c) /\ w4.cell? ⟨bb,oo + k,none⟩ = some (.slice ai (M k) ci) /\ w4.frozen? ⟨w.heap.size + 2,0,none⟩ = false /\ w.heap.size + 2 < w4.heap.size) := fun w2 w4 h O hg => by
        have hb := below_undrew h
        have bxx:Bx w4 (w.heap.size + 2) 32 #[.slice av k cv] := (keep_block hb hg hown (by omega) (by have := HQ.out.2.2.1; omega)).trans HQ.out.2.2.2.2
        exact ⟨by have := bxx.cell 0; simpa using this,(keep_cell hb hg hown (by show w.heap.size < _; omega) (World.block_lt_of_cell? _ _ x1)).trans x1,(keep_cell hb hg hown (by show bb < _; omega) (World.block_lt_of_cell? _ _ s0)).trans s0,bxx.frozen 0,bxx.lt⟩
      have HT:Hid (∀ w2:World,Below wr.drew.heap.size wr.drew w2 -> ∀ O:Obj,(w2.alloc O).ownsRow (w.heap.size + 3) 59 1 (.slice av k cv) k us) := fun w2 h O => own_below (own_below HQ.out.1.row (below_undrew h)) (below_alloc _ _)
      have HZ:Hid (∀ w2:World,Below wr.drew.heap.size wr.drew w2 -> w.heap.size + 3 <= w2.heap.size) := fun w2 h => Nat.le_trans HQ.out.2.2.1 (below_undrew h).size
      have xd0:wr.drew.cell? ⟨w.heap.size + 2,0,none⟩ = some (.slice av k cv) := x0
      have xd1:wr.drew.cell? ⟨w.heap.size,0,none⟩ = some (.slice (some ⟨bb,oo,none⟩) n c) := x1
      have xd2:wr.drew.cell? ⟨bb,oo + k,none⟩ = some (.slice ai (M k) ci) := s0
      clear hrow hbel hbx hrd HF hown
      go_wp2
      refine wp_region_late (S := (fun w' => w'.cell? ⟨w.heap.size + 2,0,none⟩ = some (.slice av k cv) /\ w'.cell? ⟨w.heap.size,0,none⟩ = some (.slice (some ⟨bb,oo,none⟩) n c) /\ w'.cell? ⟨bb,oo + k,none⟩ = some (.slice ai (M k) ci))) 11 (by kernel_rfl) ?_ (fun hHeld => ?_)
      · ((try dsimp only); go_keep)
      refine late_take 0 .zero (v := ?_) (by kernel_rfl) (by kernel_rfl) (by kernel_rfl) (by kernel_rfl) (fun _ _ _ h => h) (by rfl) ?_ (by assumption) ?_
      rotate_left
      · (intro w hSw; (try dsimp only at hSw); go_simp) <;> with_reducible rfl
      simp only [Act.put,List.setIfInBounds_toArray,List.set_cons_zero,List.set_cons_succ]
      refine late_take 1 (.succ .zero) (v := ?_) (by kernel_rfl) (by kernel_rfl) (by kernel_rfl) (by kernel_rfl) (fun _ _ _ h => h) (by rfl) ?_ (by assumption) ?_
      rotate_left
      · (intro w hSw; (try dsimp only at hSw); go_simp) <;> with_reducible rfl
      simp only [Act.put,List.setIfInBounds_toArray,List.set_cons_zero,List.set_cons_succ]
      refine late_take 2 (.succ (.succ .zero)) (v := ?_) (by kernel_rfl) (by kernel_rfl) (by kernel_rfl) (by kernel_rfl) (fun _ _ _ h => h) (by rfl) ?_ (by assumption) ?_
      rotate_left
      · (intro w hSw; (try dsimp only at hSw); go_simp) <;> with_reducible rfl
      simp only [Act.put,List.setIfInBounds_toArray,List.set_cons_zero,List.set_cons_succ]
      refine late_take 3 (.succ (.succ (.succ .zero))) (v := ?_) (by kernel_rfl) (by kernel_rfl) (by kernel_rfl) (by kernel_rfl) (fun _ _ _ h => h) (by rfl) ?_ (by assumption) ?_
      rotate_left
      · (intro w hSw; (try dsimp only at hSw); go_simp) <;> with_reducible rfl
      simp only [Act.put,List.setIfInBounds_toArray,List.set_cons_zero,List.set_cons_succ]
      refine late_take 4 (.succ (.succ (.succ (.succ .zero)))) (v := ?_) (by kernel_rfl) (by kernel_rfl) (by kernel_rfl) (by kernel_rfl) (fun _ _ _ h => h) (by rfl) ?_ (by assumption) ?_
      rotate_left
      · (intro w hSw; (try dsimp only at hSw); go_simp) <;> with_reducible rfl
      simp only [Act.put,List.setIfInBounds_toArray,List.set_cons_zero,List.set_cons_succ]
      refine late_take 5 (.succ (.succ (.succ (.succ (.succ .zero))))) (v := ?_) (by kernel_rfl) (by kernel_rfl) (by kernel_rfl) (by kernel_rfl) (fun _ _ _ h => h) (by rfl) ?_ (by assumption) ?_
      rotate_left
      · (intro w hSw; (try dsimp only at hSw); go_simp) <;> with_reducible rfl
      simp only [Act.put,List.setIfInBounds_toArray,List.set_cons_zero,List.set_cons_succ]
      refine late_take 6 (.succ (.succ (.succ (.succ (.succ (.succ .zero)))))) (v := ?_) (by kernel_rfl) (by kernel_rfl) (by kernel_rfl) (by kernel_rfl) (fun _ _ _ h => h) (by rfl) ?_ (by assumption) ?_
      rotate_left
      · (intro w hSw; (try dsimp only at hSw); go_simp) <;> with_reducible rfl
      simp only [Act.put,List.setIfInBounds_toArray,List.set_cons_zero,List.set_cons_succ]
      refine late_one 7 (.succ (.succ (.succ (.succ (.succ (.succ (.succ .zero))))))) (by kernel_rfl) (fun K hK => ?_)
      (refine step_f1 (by rfl) 77 19 _ (by rfl) _ (by rfl) (fun _ _ => rfl) ?_; refine HC.out.mono ?_; rintro e w2 ⟨hb2,a2,c2,rfl,hr2⟩; refine ⟨_,rfl,?_⟩; obtain ⟨y0,y1,y2⟩ := HK2.out w2 hb2)
      refine hK.out _ _ ?_ (fun hHeld2 => ?_)
      · (intro _; (try dsimp only); go_keep)
      clear hK K
      replace hHeld := hHeld2 (by decide)
      clear hHeld2
      try simp only [Act.put,List.setIfInBounds_toArray,List.set_cons_zero,List.set_cons_succ]
      refine late_one 8 (.succ (.succ (.succ (.succ (.succ (.succ (.succ (.succ .zero)))))))) (by kernel_rfl) (fun K hK => ?_)
      (refine step_tsl (by rfl) (by rfl) (by rfl) ?_; obtain ⟨z0,z1,z2⟩ := HK3.out w2 hb2 (.cells #[.slice a2 (M k) c2] 59))
      refine hK.out _ _ ?_ (fun hHeld2 => ?_)
      · (intro _; (try dsimp only); go_keep)
      clear hK K
      replace hHeld := hHeld2 (by decide)
      clear hHeld2
      try simp only [Act.put,List.setIfInBounds_toArray,List.set_cons_zero,List.set_cons_succ]
      refine late_one 9 (.succ (.succ (.succ (.succ (.succ (.succ (.succ (.succ (.succ .zero))))))))) (by kernel_rfl) (fun K hK => ?_)
      (refine step_tapp (by rfl) (.tmp 14) (.tmp 21) (by rfl) (w.heap.size + 3) k (.slice av k cv) us (by rfl) _ (HT.out w2 hb2 _) (by rfl) rfl (by omega) (HZ.out w2 hb2) ?_; intro v4 w4 hown4 hgr4 hat4; obtain ⟨a4,c4,e4,_⟩ := own_form hown4; subst e4; obtain ⟨u0,u1,u2,uf,ul⟩ := HK4.out w2 w4 hb2 _ hgr4)
      refine hK.out _ _ ?_ (fun hHeld2 => ?_)
      · (intro _; (try dsimp only); go_keep)
      clear hK K
      replace hHeld := hHeld2 (by decide)
      clear hHeld2
      try simp only [Act.put,List.setIfInBounds_toArray,List.set_cons_zero,List.set_cons_succ]
      refine late_one 10 (.succ (.succ (.succ (.succ (.succ (.succ (.succ (.succ (.succ (.succ .zero)))))))))) (by kernel_rfl) (fun K hK => ?_)
      go_simp
      refine hK.out _ _ ?_ (fun hHeld2 => ?_)
      · (intro _; (try dsimp only); go_keep)
      clear hK K
      replace hHeld := hHeld2 (by decide)
      clear hHeld2
      try simp only [Act.put,List.setIfInBounds_toArray,List.set_cons_zero,List.set_cons_succ]
      refine late_one 11 (.succ (.succ (.succ (.succ (.succ (.succ (.succ (.succ (.succ (.succ (.succ .zero))))))))))) (by kernel_rfl) (fun K hK => ?_)
      go_simp
      refine hK.out _ _ ?_ (fun hHeld2 => ?_)
      · (intro hne; exact absurd rfl hne)
      clear hK K hHeld2
      refine wpLate_done (by kernel_rfl) ?_ _
      have H7:Hid ((∃ lo' hi',RowI TreeRd (w4.setCell ⟨w.heap.size + 2,0,none⟩ (.slice a4 (k + 1) c4)) (w.heap.size + 3) (.slice a4 (k + 1) c4) (k + 1) M T (us ++ [.slice a2 (M k) c2]) lo' hi') /\ Bx (w4.setCell ⟨w.heap.size + 2,0,none⟩ (.slice a4 (k + 1) c4)) (w.heap.size + 2) 32 #[.slice a4 (k + 1) c4] /\ Below (w.heap.size + 2) W0 (w4.setCell ⟨w.heap.size + 2,0,none⟩ (.slice a4 (k + 1) c4))) := by
        have hb := HU.out w2 hb2
        have hz2 := hb.size
        have hz3 := HQ.out.2.2.1
        have hown:∀ g,(Value.slice av k cv).ownBlock = some g -> w.heap.size + 3 <= g := fun g e => (own_lt HQ.out.1.row g e).1
        obtain ⟨lo',hi',hr'⟩ := HQ.out.1.step TreeRd.pl hz3 hb (l := wr.heap.size + 2) (by omega) (TreeRd.of (by have := hr2; exact this)) _ hgr4 hown4 hat4
        have bxx:Bx w4 (w.heap.size + 2) 32 #[.slice av k cv] := (keep_block hb hgr4 hown (by omega) (by omega)).trans HQ.out.2.2.2.2
        refine ⟨⟨lo',hi',hr'.setO TreeRd.pl (by simp) _⟩,?_,?_⟩
        · have := bxx.set 0 (.slice a4 (k + 1) c4)
          simpa using this
        · exact (((HQ.out.2.1.trans (hb.mono (by omega))).trans ((below_alloc _ _).mono (by omega))).grown hgr4 (by simp; omega) (fun g e => by have := hown g e; omega)).setCell (by simp) _
      clear hr2 hb2 hown4 hgr4 hat4 HT HK2 HK3 HK4 HZ HU y0 y1 y2 z0 z1 z2 u0 u1 u2 uf ul xd0 xd1 xd2 x0 x1 s0 HC
      go_wp2
      go_roundw
      case rel =>
        obtain ⟨⟨lo',hi',hr'⟩,hb',hbb'⟩ := H7.out
        exact ⟨k + 1,_,_,lo',hi',by omega,by go_num,hr',hb',hbb'⟩
      case measure => simp [intOf]; omega
    · obtain rfl:k = n := by omega
      have k1:¬ (k:Int) < (k:Int) := by omega
      have b1:Bx wr (w.heap.size + 1) 32 #[.slice none 0 0] := B0.out.2.1.below' hbel (by omega)
      have y0 := b1.cell 0
      have y1 := hbx.cell 0
      simp at y0 y1
      have yf := b1.frozen 0
      have yl := b1.lt
      clear hrow hbel b1 hbx
      go_wp2
      refine bodyPost_ret (v := .agg #[.slice av k cv]) (by simp [results,Tryz.results42,go_sem,y0]) rfl ⟨av,cv,us,lo,hi,rfl,HQ.out.1.setO TreeRd.pl (by simp) _,HQ.out.2.2.2.1.setCell (by simp) _⟩
end Go.Proofs.YtcnollkkigiobaaGreat
