import Derived.Test.YtcnollkkigiobaaGreatNa4
import Derived.Test.YtcnollkkigiobaaGreatNa13
import Derived.Test.YtcnollkkigiobaaGreatNa12
import Derived.Lib.AppendZerosOnto
import Derived.Laws.NewBlocks
set_option linter.unusedVariables false
set_option maxRecDepth 100000
namespace Go.Proofs.YtcnollkkigiobaaGreat
open Go.RowKit Go.Deep

def SmR:(d e:Nat) -> Ro d -> Ro e -> Prop
  | d + 1,e + 1,.inl L,.inl L' => L = L'
  | d + 1,e + 1,.inr l,.inr l' => l.length = l'.length /\ ∀ k (h:k < l.length) (h' : k < l'.length),SmR d e l[k] l'[k]
  | _,_,_,_ => False

theorem SmR.nodes:∀ {d e:Nat} {t:Ro d} {t' : Ro e},SmR d e t t' -> nodesR d t = nodesR e t'
  | 0,_,t,_,_ => t.elim
  | _ + 1,0,_,t',_ => t'.elim
  | d + 1,e + 1,.inl L,.inl L',h => rfl
  | d + 1,e + 1,.inr l,.inr l',h => by
    have q := off_congr (fun j h1 h2 => SmR.nodes (h.2 j h1 h2)) l.length (Nat.le_refl _) (by rw [h.1]; exact Nat.le_refl _)
    rw [offR_all] at q
    rw [h.1,offR_all] at q
    show 1 + _ = 1 + _
    rw [q]
  | d + 1,e + 1,.inl L,.inr l',h => h.elim
  | d + 1,e + 1,.inr L,.inl l',h => h.elim

theorem SmR.keys:∀ {d e:Nat} {t:Ro d} {t' : Ro e},SmR d e t t' -> keysR d t = keysR e t'
  | 0,_,t,_,_ => t.elim
  | _ + 1,0,_,t',_ => t'.elim
  | d + 1,e + 1,.inl L,.inl L',h => h
  | d + 1,e + 1,.inr l,.inr l',h => flat_congr (keysR d) (keysR e) l l' h.1 (fun k h1 h2 => SmR.keys (h.2 k h1 h2))
  | d + 1,e + 1,.inl L,.inr l',h => h.elim
  | d + 1,e + 1,.inr L,.inl l',h => h.elim

theorem smR_of {N:Nat -> Tn}:∀ {d e:Nat} {t:Ro d} {t' : Ro e} {x:Nat},Tells N 0 d t x -> Tells N 0 e t' x -> SmR d e t t'
  | 0,_,t,_,_,_,_ => t.elim
  | _ + 1,0,_,t',_,_,_ => t'.elim
  | d + 1,e + 1,.inl L,.inl L',x,h,h' => by
    show L = L'
    obtain ⟨_,h2,h3,_⟩ := h
    obtain ⟨_,g2,g3,_⟩ := h'
    apply List.ext_getElem (by omega)
    intro i h1 h4
    have q1 := h3 i h1
    rw [g3 i h4] at q1
    unfold gt at q1
    rw [List.getD_eq_getElem?_getD,List.getD_eq_getElem?_getD,List.getElem?_eq_getElem h1,List.getElem?_eq_getElem h4] at q1
    exact q1.symm
  | d + 1,e + 1,.inl L,.inr l',x,h,h' => by
    have q := h.1
    rw [h'.1] at q
    cases q
  | d + 1,e + 1,.inr l,.inl L',x,h,h' => by
    have q := h.1
    rw [h'.1] at q
    cases q
  | d + 1,e + 1,.inr l,.inr l',x,h,h' => by
    have hl:l.length = l'.length := h.2.1.symm.trans h'.2.1
    have t1 := h.2.2.2.2.2.2
    have t2 := h'.2.2.2.2.2.2
    have key:∀ k,k <= l.length -> offR d l k = offR e l' k /\ ∀ j (h:j < l.length) (h' : j < l'.length),j < k -> SmR d e l[j] l'[j] := by
      intro k
      induction k with
      | zero => intro _; exact ⟨by rw [offR_zero,offR_zero],fun j _ _ hj => absurd hj (Nat.not_lt_zero _)⟩
      | succ k ih =>
        intro hk
        obtain ⟨q1,q2⟩ := ih (by omega)
        have sk:SmR d e (l[k]'(by omega)) (l'[k]'(by omega)) := smR_of (t1 k (by omega)) (by rw [q1]; exact t2 k (by omega))
        refine ⟨by rw [offR_succ d l k (by omega),offR_succ e l' k (by omega),q1,sk.nodes],fun j h1 h2 hj => ?_⟩
        by_cases e:j = k
        · subst e; exact sk
        · exact q2 j h1 h2 (by omega)
    exact ⟨hl,fun k h1 h2 => (key l.length (Nat.le_refl _)).2 k h1 h2 h1⟩

theorem SmR.tow {B:Nat} {w:World}:∀ {d e:Nat} {t:Ro d} {t' : Ro e} {v:Value} {bs:List Nat},SmR d e t t' -> TOw B w d t v bs -> TOw B w e t' v bs
  | 0,_,t,_,_,_,_,_ => t.elim
  | _ + 1,0,_,t',_,_,_,_ => t'.elim
  | d + 1,e + 1,.inl L,.inl L',v,bs,h,ho => by
    have h' : L = L' := h
    subst h'
    exact ho
  | d + 1,e + 1,.inr l,.inr l',v,bs,h,ho => by
    have hk := SmR.keys (d := d + 1) (e := e + 1) (t := .inr l) (t' := .inr l') h
    have hk' : l.flatMap (keysR d) = l'.flatMap (keysR e) := hk
    obtain ⟨b,g,kc,xs,bss,rfl,hB,hx,hr,hl,hbl,rfl,hall⟩ := ho
    have hl' := h.1
    rw [hk',hl'] at hx
    rw [hl'] at hr hl hbl
    refine ⟨b,g,kc,xs,bss,rfl,hB,hx,hr,hl,hbl,rfl,fun k hk => ?_⟩
    obtain ⟨u,us,e1,e2,e3⟩ := hall k (by omega)
    exact ⟨u,us,e1,e2,SmR.tow (h.2 k (by omega) hk) e3⟩
  | d + 1,e + 1,.inl L,.inr l',_,_,h,_ => h.elim
  | d + 1,e + 1,.inr L,.inl l',_,_,h,_ => h.elim
open Go.RowKit Go.Deep

def RdV (w:World) (a:Option Addr) (n:Nat) (xs:List Value):Prop :=
  xs.length = n /\ (∀ u ∈ xs,u.oneCell' = true) /\ (n = 0 \/ ∃ b o,a = some ⟨b,o,none⟩ /\ b < w.heap.size /\ ∀ j u,xs[j]? = some u -> w.cell? ⟨b,o + j,none⟩ = some u)
theorem RdV.below {w w' : World} {a:Option Addr} {n:Nat} {xs:List Value} (h:RdV w a n xs) (hb:Below w.heap.size w w'):RdV w' a n xs := by
  refine ⟨h.1,h.2.1,?_⟩
  rcases h.2.2 with q | ⟨b,o,rfl,hl,hc⟩
  · exact Or.inl q
  · exact Or.inr ⟨b,o,rfl,by have := hb.size; omega,fun j u hj => (hb.cell (p := ⟨b,o + j,none⟩) hl).trans (hc j u hj)⟩

theorem wpList_append_vS {w:World} {ops:Array Oper} {rest:List Oper} {o:Oper} {act:Act} {Q:Exit -> Act -> World -> Prop} (hgd:o.guard = none) (s x:Operand)
    (ho:o.op = .call { callee := .builtin .append,args := #[s,x],argTypes := #[88,88] })
    (B:Nat) (v:Value) (n:Nat) (xs:List Value) (hs:act.eval s = v) (hown:w.ownsRow B 9 1 v n xs)
    (a:Option Addr) (m c:Nat) (ys:List Value) (hx:act.eval x = .slice a m c) (hrd:RdV w a m ys) (hnm:n + m <= 1048576) (hB:B <= w.heap.size)
    (h:∀ v' w',w'.ownsRow B 9 1 v' (n + m) (xs ++ ys) -> w.grownBy w' v.ownBlock -> wpList Tryz.prog ops Q rest (act.put o.dst v') w'):wpList Tryz.prog ops Q (o :: rest) act w := by
  obtain ⟨i0,hi,hz0,hz1,hz2⟩ := info_parts Tryz.info9
  obtain ⟨hl,h1,hrd⟩ := hrd
  by_cases hm0:m = 0
  · subst hm0
    have hL:ys = [] := List.length_eq_zero_iff.1 hl
    subst hL
    have hsrc:Src Tryz.prog i0.size 88 (.slice a 0 c) 0 [] w := by
      cases a with
      | none => exact Src.ofNil w Tryz.underlying88 c
      | some ad => exact Src.ofSlice w Tryz.underlying88 ad 0 c [] (by simp) (by simp) (by simp)
    have hsh:∃ b l cap,v = .slice b l cap /\ l <= cap := by
      rcases hown.2 with ⟨rfl,rfl⟩ | ⟨g,cap,cur,rfl,_,_,h1,_⟩
      · exact ⟨none,0,0,rfl,Nat.le_refl _⟩
      · exact ⟨_,n,cap,rfl,h1⟩
    obtain ⟨b,l,cap,hvv,hlc⟩ := hsh
    have hrun := run_append_nothing (P := Tryz.prog) w 88 88 o.type 9 i0 Tryz.underlying88 hi b l cap hlc (.slice a 0 c) hsrc
    rw [<- hvv] at hrun
    refine wpList_plain hgd fun K hK => ?_
    unfold Oper.wp
    simp [execOp,ho,resolve,invoke,builtin,hs,hx,hrun,Result.andThen]
    exact hK _ _ (h v w (by simpa using hown) ⟨rfl,rfl,rfl,Nat.le_refl _,fun _ _ _ => rfl⟩)
  · rcases hrd with h0 | ⟨b,off,rfl,_,hc⟩
    · exact absurd h0 hm0
    · refine wpList_append_own_at w hgd s x 88 ho B 9 i0 _ 1 16 Tryz.underlying88 hi hz0 hz1 hz2 rfl (by decide) v n xs hs hown ⟨b,off,none⟩ m c ys hx (by omega) (fun j u hj => ?_) h1 (by unfold maxLen; omega) (by omega) hB (fun v' w' h1 h2 _ _ => h v' w' h1 h2)
      have e:(Addr.add ⟨b,off,none⟩ j) = ⟨b,off + j,none⟩ := by
        unfold Addr.add
        by_cases h:j = 0
        · subst h; simp
        · simp [h]
      rw [e]
      exact hc j u hj

set_option maxHeartbeats 1000000 in
theorem growS_any (n:Nat) (h0:0 < n) (hn:n <= 1000) (w:World) :
    Calls Tryz.prog 169 #[.slice none 0 0,.int .i64 (n:Int)] w fun e w' => ∃ c,e = .returned (.slice (some ⟨w.heap.size,0,none⟩) 0 c) /\ w'.ownsRow w.heap.size 9 1 (.slice (some ⟨w.heap.size,0,none⟩) 0 c) 0 [] /\ Below w.heap.size w w' := by
  obtain ⟨i0,hi0,hz0,hzs,hzb⟩ := info_parts Tryz.info9
  have hrz:∀ ty,(Builtin.append_ #[88,3] ty #[.slice none 0 0,.int .i64 (n:Int)]).run Tryz.prog w = .ok (.slice (some ⟨w.heap.size,0,none⟩) n (grownCap w n 0 9)) (w.drew.alloc (.cells (#[] ++ Builtin.zeroCells (Value.string { data := #[] }).cells n ++ Builtin.zeroCells (Value.string { data := #[] }).cells (grownCap w n 0 9 - n)) 9)) := fun ty => by
    have h := Lib.run_append_grow_zeros w 88 3 ty 9 i0 _ .i64 .i64 Tryz.underlying88 Tryz.underlying3 hi0 hz0 none 0 0 [] (by simp [run_firstCells_none]) n (by omega) (by omega) (by omega) (by omega) (by rw [hzb]; omega) (by rw [hzb]; exact growslice_fits (by omega) (by omega))
    simpa using h
  obtain ⟨G,hG⟩:∃ G,G = grownCap w n 0 9 := ⟨_,rfl⟩
  have hGn:n <= G := by rw [hG]; exact grownCap_ge w _ _ _
  have hG63:G <= 9223372036854775807 := by
    have := grownCap_le_maxLen w n 0 9 (by unfold maxLen; omega)
    rw [<- hG] at this
    unfold maxLen at this
    omega
  rw [<- hG] at hrz
  obtain ⟨ROW,hROW⟩:∃ ROW:Array Value,ROW = #[] ++ Builtin.zeroCells (Value.string { data := #[] }).cells n ++ Builtin.zeroCells (Value.string { data := #[] }).cells (G - n) := ⟨_,rfl⟩
  rw [<- hROW] at hrz
  have HO:Hid ((w.drew.alloc (.cells ROW 9)).ownsRow w.heap.size 9 1 (.slice (some ⟨w.heap.size,0,none⟩) 0 G) 0 []) := by
    refine ⟨rfl,Or.inr ⟨w.heap.size,G,ROW,rfl,Nat.le_refl _,blk_alloc_new w.drew _,Nat.zero_le _,by unfold maxLen; omega,?_,by simp⟩⟩
    rw [hROW]
    simp [Builtin.zeroCells,Value.cells]
    omega
  have HBl:Hid (Below w.heap.size w (w.drew.alloc (.cells ROW 9))) := (Below.refl w.heap.size w).drew.trans (show Below w.heap.size w.drew _ from below_alloc w.drew _)
  have i1:¬ (n:Int) < 0 := by omega
  have i2:(0:Int) < (n:Int) := by omega
  have i1d:decide ((n:Int) < 0) = false := decide_eq_false i1
  have i2d:decide ((0:Int) < (n:Int)) = true := decide_eq_true i2
  clear hROW hG hi0 hz0 hzs hzb
  go_enter Tryz.func169,Tryz.ntmps169
  go_wp2_with (at_builtin; refine Lib.wpList_append_run _ rfl _ _ _ _ rfl _ _ rfl rfl _ _ (hrz _) ?_)
  go_ret
  exact ⟨G,rfl,HO.out,HBl.out⟩

set_option maxHeartbeats 4000000 in
theorem concatS_any (g c n1 n2 c1 c2:Nat) (a1 a2:Option Addr) (xs ys:List Value) (w:World) (hg0:w.cell? ⟨g,0,none⟩ = some (.slice a1 n1 c1)) (hg1:w.cell? ⟨g,1,none⟩ = some (.slice a2 n2 c2)) (h1:RdV w a1 n1 xs) (h2:RdV w a2 n2 ys) (h0:0 < n1 + n2) (hn:n1 + n2 <= 1000) :
    Calls Tryz.prog 161 #[.slice (some ⟨g,0,none⟩) 2 c] w fun e w' => ∃ gg cc,e = .returned (.slice (some ⟨gg,0,none⟩) (n1 + n2) cc) /\ w'.ownsRow w.heap.size 9 1 (.slice (some ⟨gg,0,none⟩) (n1 + n2) cc) (n1 + n2) (xs ++ ys) /\ Below w.heap.size w w' := by
  have HC:Hid (∀ W,Below w.heap.size w W -> W.cell? ⟨g,0,none⟩ = some (.slice a1 n1 c1) /\ W.cell? ⟨g,1,none⟩ = some (.slice a2 n2 c2) /\ RdV W a1 n1 xs /\ RdV W a2 n2 ys) := by
    intro W hW
    have hl := World.block_lt_of_cell? _ _ hg0
    exact ⟨(hW.cell (p := ⟨g,0,none⟩) hl).trans hg0,(hW.cell (p := ⟨g,1,none⟩) hl).trans hg1,h1.below hW,h2.below hW⟩
  clear h1 h2
  go_enter Tryz.func161,Tryz.ntmps161
  go_wp2
  go_loopw [3,11] (fun q i wr => ∃ k:Nat,k <= 2 /\ i = .int .i64 k /\ q = .int .i64 (((if k = 0 then 0 else if k = 1 then n1 else n1 + n2:Nat)):Int) /\ wr = w) (fun _ i _ => 2 - (intOf i).toNat)
  case atStart => exact ⟨0,by omega,rfl,rfl,rfl⟩
  case round =>
    obtain ⟨k,hk,rfl,rfl,hw⟩ := hrel
    have hw' := hw.symm
    clear hw
    subst hw'
    by_cases k0:k = 0
    · subst k0
      go_wp2
      go_roundw
      case rel => exact ⟨1,by omega,by go_num,by first | go_num | simp,by simp⟩
      case measure => simp [intOf]
    · by_cases k1:k = 1
      · subst k1
        have i1:¬ ((n1:Int) + (n2:Int)) < 0 := by omega
        have i1d:decide (((n1:Int) + (n2:Int)) < 0) = false := decide_eq_false i1
        go_wp2
        go_roundw
        case rel => exact ⟨2,by omega,by go_num,by first | go_num | simp,by simp⟩
        case measure => simp [intOf]
      · have k2:k = 2 := by omega
        subst k2
        have HGr:Hid (Calls Tryz.prog 169 #[.slice none 0 0,.int .i64 ((n1:Int) + (n2:Int))] w fun e w' => ∃ c,e = .returned (.slice (some ⟨w.heap.size,0,none⟩) 0 c) /\ w'.ownsRow w.heap.size 9 1 (.slice (some ⟨w.heap.size,0,none⟩) 0 c) 0 [] /\ Below w.heap.size w w') := by
          have := growS_any (n1 + n2) h0 hn w
          rw [show (((n1 + n2:Nat)):Int) = (n1:Int) + (n2:Int) by omega] at this
          exact this
        clear hg0 hg1
        go_wp2_with fail
        (with_reducible refine HGr.out.mono ?_)
        rintro e w1 ⟨gc,rfl,ho1,hb1⟩
        have H1:Hid (w1.ownsRow w.heap.size 9 1 (.slice (some ⟨w.heap.size,0,none⟩) 0 gc) 0 [] /\ Below w.heap.size w w1) := ⟨ho1,hb1⟩
        clear ho1 hb1 HGr
        go_wp2
        go_loopw [6,27] (fun q i wx => ∃ (k nv cv:Nat) (av:Option Addr),k <= 2 /\ i = .int .i64 k /\ q = .slice av nv cv /\ nv = (if k = 0 then 0 else if k = 1 then n1 else n1 + n2) /\ wx.ownsRow w.heap.size 9 1 (.slice av nv cv) nv (if k = 0 then [] else if k = 1 then xs else xs ++ ys) /\ Below w.heap.size w wx) (fun _ i _ => 2 - (intOf i).toNat)
        case atStart => exact ⟨0,0,_,_,by omega,rfl,rfl,rfl,H1.out.1,H1.out.2⟩
        case round =>
          obtain ⟨k,nv,cv,av,hk,rfl,rfl,hnv,ho,hb⟩ := hrel
          have HS:Hid (wr.ownsRow w.heap.size 9 1 (.slice av nv cv) nv (if k = 0 then [] else if k = 1 then xs else xs ++ ys) /\ Below w.heap.size w wr) := ⟨ho,hb⟩
          obtain ⟨y0,y1,r1,r2⟩ := HC.out wr hb
          have HR:Hid (RdV wr a1 n1 xs /\ RdV wr a2 n2 ys) := ⟨r1,r2⟩
          have hbs := hb.size
          clear ho hb r1 r2
          by_cases k0:k = 0
          · subst k0
            have e0:nv = 0 := by simpa using hnv
            subst e0
            clear hnv
            go_wp2_with (at_builtin; refine wpList_append_vS rfl _ _ rfl w.heap.size (.slice av 0 cv) 0 [] rfl HS.out.1 a1 n1 c1 xs rfl HR.out.1 (by omega) hbs ?_)
            intro v' w' ho' hg'
            obtain ⟨av',cv',ev,_⟩ := own_form ho'
            subst ev
            have HX:Hid (w'.ownsRow w.heap.size 9 1 (.slice av' (0 + n1) cv') (0 + n1) xs /\ Below w.heap.size w w') := ⟨by simpa using ho',HS.out.2.grown hg' hbs (fun g e => (own_lt HS.out.1 g e).1)⟩
            clear ho' hg'
            go_wp2
            go_roundw
            case rel => exact ⟨1,0 + n1,cv',av',by omega,by go_num,by simp,by simp,HX.out⟩
            case measure => simp [intOf]
          · by_cases k1:k = 1
            · subst k1
              have e1:nv = n1 := by simpa using hnv
              subst e1
              clear hnv
              go_wp2_with (at_builtin; refine wpList_append_vS rfl _ _ rfl w.heap.size (.slice av nv cv) nv xs rfl HS.out.1 a2 n2 c2 ys rfl HR.out.2 (by omega) hbs ?_)
              intro v' w' ho' hg'
              obtain ⟨av',cv',ev,_⟩ := own_form ho'
              subst ev
              have HX:Hid (w'.ownsRow w.heap.size 9 1 (.slice av' (nv + n2) cv') (nv + n2) (xs ++ ys) /\ Below w.heap.size w w') := ⟨ho',HS.out.2.grown hg' hbs (fun g e => (own_lt HS.out.1 g e).1)⟩
              clear ho' hg'
              go_wp2
              go_roundw
              case rel => exact ⟨2,nv + n2,cv',av',by omega,by go_num,rfl,by simp,HX.out⟩
              case measure => simp [intOf]
            · have k2:k = 2 := by omega
              subst k2
              have e2:nv = n1 + n2 := by simpa using hnv
              subst e2
              clear hnv
              obtain ⟨av',cv',e,hf⟩ := own_form HS.out.1
              injection e with e1 _ e3
              subst e1 e3
              obtain ⟨gg,rfl,_⟩ := hf (by omega)
              go_wp2
              go_ret
              exact ⟨gg,cv,rfl,by simpa using HS.out.1,HS.out.2⟩

set_option maxHeartbeats 1000000 in
theorem cutS_any (g n c k:Nat) (w:World) (hk:k <= n) (hn:n <= c) (hkn:k < n) :
    Calls Tryz.prog 160 #[.slice (some ⟨g,0,none⟩) n c,.int .i64 (k:Int)] w fun e w' => e = .returned (.tuple #[.slice (some ⟨g,0,none⟩) k k,.slice (some ⟨g,k,none⟩) (n - k) (c - k)]) /\ w' = w.drew := by
  have s1:∀ W:World,(Instr.sliceAt 88 (.slice (some ⟨g,0,none⟩) n c) none (some (.int .i64 (k:Int))) (some (.int .i64 (k:Int)))).run Tryz.prog W = .ok (.slice (some ⟨g,0,none⟩) k k) W := by
    intro W
    have hkc:k <= c := by omega
    simp [Instr.sliceAt,Instr.slice,go_sem,hkc]
  have s2:∀ W:World,(Instr.sliceAt 88 (.slice (some ⟨g,0,none⟩) n c) (some (.int .i64 (k:Int))) none none).run Tryz.prog W = .ok (.slice (some ⟨g,k,none⟩) (n - k) (c - k)) W := by
    intro W
    have hkc:¬ c = k := by omega
    simp [Instr.sliceAt,Instr.slice,go_sem,hkc,hk]
  go_enter Tryz.func160,Tryz.ntmps160
  go_wp2
  go_region_held3 (fun _ => True) (go_keep) (fail)
  go_wp2
  refine bodyPost_ret (v := .tuple #[.slice (some ⟨g,0,none⟩) k k,.slice (some ⟨g,k,none⟩) (n - k) (c - k)]) (by simp [results,Tryz.results160,go_sem]) rfl ⟨rfl,rfl⟩

theorem wpList_append_vN {w:World} {ops:Array Oper} {rest:List Oper} {o:Oper} {act:Act} {Q:Exit -> Act -> World -> Prop} (hgd:o.guard = none) (s x:Operand)
    (ho:o.op = .call { callee := .builtin .append,args := #[s,x],argTypes := #[175,175] })
    (B:Nat) (v:Value) (n:Nat) (xs:List Value) (hs:act.eval s = v) (hown:w.ownsRow B 68 1 v n xs)
    (a:Option Addr) (m c:Nat) (ys:List Value) (hx:act.eval x = .slice a m c) (hrd:RdV w a m ys) (hnm:n + m <= 1048576) (hB:B <= w.heap.size)
    (h:∀ v' w',w'.ownsRow B 68 1 v' (n + m) (xs ++ ys) -> w.grownBy w' v.ownBlock -> wpList Tryz.prog ops Q rest (act.put o.dst v') w'):wpList Tryz.prog ops Q (o :: rest) act w := by
  obtain ⟨i0,hi,hz0,hz1,hz2⟩ := info_parts Tryz.info68
  obtain ⟨hl,h1,hrd⟩ := hrd
  by_cases hm0:m = 0
  · subst hm0
    have hL:ys = [] := List.length_eq_zero_iff.1 hl
    subst hL
    have hsrc:Src Tryz.prog i0.size 175 (.slice a 0 c) 0 [] w := by
      cases a with
      | none => exact Src.ofNil w Tryz.underlying175 c
      | some ad => exact Src.ofSlice w Tryz.underlying175 ad 0 c [] (by simp) (by simp) (by simp)
    have hsh:∃ b l cap,v = .slice b l cap /\ l <= cap := by
      rcases hown.2 with ⟨rfl,rfl⟩ | ⟨g,cap,cur,rfl,_,_,h1,_⟩
      · exact ⟨none,0,0,rfl,Nat.le_refl _⟩
      · exact ⟨_,n,cap,rfl,h1⟩
    obtain ⟨b,l,cap,hvv,hlc⟩ := hsh
    have hrun := run_append_nothing (P := Tryz.prog) w 175 175 o.type 68 i0 Tryz.underlying175 hi b l cap hlc (.slice a 0 c) hsrc
    rw [<- hvv] at hrun
    refine wpList_plain hgd fun K hK => ?_
    unfold Oper.wp
    simp [execOp,ho,resolve,invoke,builtin,hs,hx,hrun,Result.andThen]
    exact hK _ _ (h v w (by simpa using hown) ⟨rfl,rfl,rfl,Nat.le_refl _,fun _ _ _ => rfl⟩)
  · rcases hrd with h0 | ⟨b,off,rfl,_,hc⟩
    · exact absurd h0 hm0
    · refine wpList_append_own_at w hgd s x 175 ho B 68 i0 _ 1 16 Tryz.underlying175 hi hz0 hz1 hz2 rfl (by decide) v n xs hs hown ⟨b,off,none⟩ m c ys hx (by omega) (fun j u hj => ?_) h1 (by unfold maxLen; omega) (by omega) hB (fun v' w' h1 h2 _ _ => h v' w' h1 h2)
      have e:(Addr.add ⟨b,off,none⟩ j) = ⟨b,off + j,none⟩ := by
        unfold Addr.add
        by_cases h:j = 0
        · subst h; simp
        · simp [h]
      rw [e]
      exact hc j u hj

set_option maxHeartbeats 1000000 in
theorem growN_any (n:Nat) (h0:0 < n) (hn:n <= 1000) (w:World) :
    Calls Tryz.prog 170 #[.slice none 0 0,.int .i64 (n:Int)] w fun e w' => ∃ c,e = .returned (.slice (some ⟨w.heap.size,0,none⟩) 0 c) /\ w'.ownsRow w.heap.size 68 1 (.slice (some ⟨w.heap.size,0,none⟩) 0 c) 0 [] /\ Below w.heap.size w w' := by
  obtain ⟨i0,hi0,hz0,hzs,hzb⟩ := info_parts Tryz.info68
  have hrz:∀ ty,(Builtin.append_ #[175,3] ty #[.slice none 0 0,.int .i64 (n:Int)]).run Tryz.prog w = .ok (.slice (some ⟨w.heap.size,0,none⟩) n (grownCap w n 0 68)) (w.drew.alloc (.cells (#[] ++ Builtin.zeroCells Value.nilIface.cells n ++ Builtin.zeroCells Value.nilIface.cells (grownCap w n 0 68 - n)) 68)) := fun ty => by
    have h := Lib.run_append_grow_zeros w 175 3 ty 68 i0 _ .i64 .i64 Tryz.underlying175 Tryz.underlying3 hi0 hz0 none 0 0 [] (by simp [run_firstCells_none]) n (by omega) (by omega) (by omega) (by omega) (by rw [hzb]; omega) (by rw [hzb]; exact growslice_fits (by omega) (by omega))
    simpa using h
  obtain ⟨G,hG⟩:∃ G,G = grownCap w n 0 68 := ⟨_,rfl⟩
  have hGn:n <= G := by rw [hG]; exact grownCap_ge w _ _ _
  have hG63:G <= 9223372036854775807 := by
    have := grownCap_le_maxLen w n 0 68 (by unfold maxLen; omega)
    rw [<- hG] at this
    unfold maxLen at this
    omega
  rw [<- hG] at hrz
  obtain ⟨ROW,hROW⟩:∃ ROW:Array Value,ROW = #[] ++ Builtin.zeroCells Value.nilIface.cells n ++ Builtin.zeroCells Value.nilIface.cells (G - n) := ⟨_,rfl⟩
  rw [<- hROW] at hrz
  have HO:Hid ((w.drew.alloc (.cells ROW 68)).ownsRow w.heap.size 68 1 (.slice (some ⟨w.heap.size,0,none⟩) 0 G) 0 []) := by
    refine ⟨rfl,Or.inr ⟨w.heap.size,G,ROW,rfl,Nat.le_refl _,blk_alloc_new w.drew _,Nat.zero_le _,by unfold maxLen; omega,?_,by simp⟩⟩
    rw [hROW]
    simp [Builtin.zeroCells,Value.cells]
    omega
  have HBl:Hid (Below w.heap.size w (w.drew.alloc (.cells ROW 68))) := (Below.refl w.heap.size w).drew.trans (show Below w.heap.size w.drew _ from below_alloc w.drew _)
  have i1:¬ (n:Int) < 0 := by omega
  have i2:(0:Int) < (n:Int) := by omega
  have i1d:decide ((n:Int) < 0) = false := decide_eq_false i1
  have i2d:decide ((0:Int) < (n:Int)) = true := decide_eq_true i2
  clear hROW hG hi0 hz0 hzs hzb
  go_enter Tryz.func170,Tryz.ntmps170
  go_wp2_with (at_builtin; refine Lib.wpList_append_run _ rfl _ _ _ _ rfl _ _ rfl rfl _ _ (hrz _) ?_)
  go_ret
  exact ⟨G,rfl,HO.out,HBl.out⟩

set_option maxHeartbeats 4000000 in
theorem concatN_any (g c n1 n2 c1 c2:Nat) (a1 a2:Option Addr) (xs ys:List Value) (w:World) (hg0:w.cell? ⟨g,0,none⟩ = some (.slice a1 n1 c1)) (hg1:w.cell? ⟨g,1,none⟩ = some (.slice a2 n2 c2)) (h1:RdV w a1 n1 xs) (h2:RdV w a2 n2 ys) (h0:0 < n1 + n2) (hn:n1 + n2 <= 1000) :
    Calls Tryz.prog 163 #[.slice (some ⟨g,0,none⟩) 2 c] w fun e w' => ∃ gg cc,e = .returned (.slice (some ⟨gg,0,none⟩) (n1 + n2) cc) /\ w'.ownsRow w.heap.size 68 1 (.slice (some ⟨gg,0,none⟩) (n1 + n2) cc) (n1 + n2) (xs ++ ys) /\ Below w.heap.size w w' := by
  have HC:Hid (∀ W,Below w.heap.size w W -> W.cell? ⟨g,0,none⟩ = some (.slice a1 n1 c1) /\ W.cell? ⟨g,1,none⟩ = some (.slice a2 n2 c2) /\ RdV W a1 n1 xs /\ RdV W a2 n2 ys) := by
    intro W hW
    have hl := World.block_lt_of_cell? _ _ hg0
    exact ⟨(hW.cell (p := ⟨g,0,none⟩) hl).trans hg0,(hW.cell (p := ⟨g,1,none⟩) hl).trans hg1,h1.below hW,h2.below hW⟩
  clear h1 h2
  go_enter Tryz.func163,Tryz.ntmps163
  go_wp2
  go_loopw [3,11] (fun q i wr => ∃ k:Nat,k <= 2 /\ i = .int .i64 k /\ q = .int .i64 (((if k = 0 then 0 else if k = 1 then n1 else n1 + n2:Nat)):Int) /\ wr = w) (fun _ i _ => 2 - (intOf i).toNat)
  case atStart => exact ⟨0,by omega,rfl,rfl,rfl⟩
  case round =>
    obtain ⟨k,hk,rfl,rfl,hw⟩ := hrel
    have hw' := hw.symm
    clear hw
    subst hw'
    by_cases k0:k = 0
    · subst k0
      go_wp2
      go_roundw
      case rel => exact ⟨1,by omega,by go_num,by first | go_num | simp,by simp⟩
      case measure => simp [intOf]
    · by_cases k1:k = 1
      · subst k1
        have i1:¬ ((n1:Int) + (n2:Int)) < 0 := by omega
        have i1d:decide (((n1:Int) + (n2:Int)) < 0) = false := decide_eq_false i1
        go_wp2
        go_roundw
        case rel => exact ⟨2,by omega,by go_num,by first | go_num | simp,by simp⟩
        case measure => simp [intOf]
      · have k2:k = 2 := by omega
        subst k2
        have HGr:Hid (Calls Tryz.prog 170 #[.slice none 0 0,.int .i64 ((n1:Int) + (n2:Int))] w fun e w' => ∃ c,e = .returned (.slice (some ⟨w.heap.size,0,none⟩) 0 c) /\ w'.ownsRow w.heap.size 68 1 (.slice (some ⟨w.heap.size,0,none⟩) 0 c) 0 [] /\ Below w.heap.size w w') := by
          have := growN_any (n1 + n2) h0 hn w
          rw [show (((n1 + n2:Nat)):Int) = (n1:Int) + (n2:Int) by omega] at this
          exact this
        clear hg0 hg1
        go_wp2_with fail
        (with_reducible refine HGr.out.mono ?_)
        rintro e w1 ⟨gc,rfl,ho1,hb1⟩
        have H1:Hid (w1.ownsRow w.heap.size 68 1 (.slice (some ⟨w.heap.size,0,none⟩) 0 gc) 0 [] /\ Below w.heap.size w w1) := ⟨ho1,hb1⟩
        clear ho1 hb1 HGr
        go_wp2
        go_loopw [6,27] (fun q i wx => ∃ (k nv cv:Nat) (av:Option Addr),k <= 2 /\ i = .int .i64 k /\ q = .slice av nv cv /\ nv = (if k = 0 then 0 else if k = 1 then n1 else n1 + n2) /\ wx.ownsRow w.heap.size 68 1 (.slice av nv cv) nv (if k = 0 then [] else if k = 1 then xs else xs ++ ys) /\ Below w.heap.size w wx) (fun _ i _ => 2 - (intOf i).toNat)
        case atStart => exact ⟨0,0,_,_,by omega,rfl,rfl,rfl,H1.out.1,H1.out.2⟩
        case round =>
          obtain ⟨k,nv,cv,av,hk,rfl,rfl,hnv,ho,hb⟩ := hrel
          have HS:Hid (wr.ownsRow w.heap.size 68 1 (.slice av nv cv) nv (if k = 0 then [] else if k = 1 then xs else xs ++ ys) /\ Below w.heap.size w wr) := ⟨ho,hb⟩
          obtain ⟨y0,y1,r1,r2⟩ := HC.out wr hb
          have HR:Hid (RdV wr a1 n1 xs /\ RdV wr a2 n2 ys) := ⟨r1,r2⟩
          have hbs := hb.size
          clear ho hb r1 r2
          by_cases k0:k = 0
          · subst k0
            have e0:nv = 0 := by simpa using hnv
            subst e0
            clear hnv
            go_wp2_with (at_builtin; refine wpList_append_vN rfl _ _ rfl w.heap.size (.slice av 0 cv) 0 [] rfl HS.out.1 a1 n1 c1 xs rfl HR.out.1 (by omega) hbs ?_)
            intro v' w' ho' hg'
            obtain ⟨av',cv',ev,_⟩ := own_form ho'
            subst ev
            have HX:Hid (w'.ownsRow w.heap.size 68 1 (.slice av' (0 + n1) cv') (0 + n1) xs /\ Below w.heap.size w w') := ⟨by simpa using ho',HS.out.2.grown hg' hbs (fun g e => (own_lt HS.out.1 g e).1)⟩
            clear ho' hg'
            go_wp2
            go_roundw
            case rel => exact ⟨1,0 + n1,cv',av',by omega,by go_num,by simp,by simp,HX.out⟩
            case measure => simp [intOf]
          · by_cases k1:k = 1
            · subst k1
              have e1:nv = n1 := by simpa using hnv
              subst e1
              clear hnv
              go_wp2_with (at_builtin; refine wpList_append_vN rfl _ _ rfl w.heap.size (.slice av nv cv) nv xs rfl HS.out.1 a2 n2 c2 ys rfl HR.out.2 (by omega) hbs ?_)
              intro v' w' ho' hg'
              obtain ⟨av',cv',ev,_⟩ := own_form ho'
              subst ev
              have HX:Hid (w'.ownsRow w.heap.size 68 1 (.slice av' (nv + n2) cv') (nv + n2) (xs ++ ys) /\ Below w.heap.size w w') := ⟨ho',HS.out.2.grown hg' hbs (fun g e => (own_lt HS.out.1 g e).1)⟩
              clear ho' hg'
              go_wp2
              go_roundw
              case rel => exact ⟨2,nv + n2,cv',av',by omega,by go_num,rfl,by simp,HX.out⟩
              case measure => simp [intOf]
            · have k2:k = 2 := by omega
              subst k2
              have e2:nv = n1 + n2 := by simpa using hnv
              subst e2
              clear hnv
              obtain ⟨av',cv',e,hf⟩ := own_form HS.out.1
              injection e with e1 _ e3
              subst e1 e3
              obtain ⟨gg,rfl,_⟩ := hf (by omega)
              go_wp2
              go_ret
              exact ⟨gg,cv,rfl,by simpa using HS.out.1,HS.out.2⟩

set_option maxHeartbeats 1000000 in
theorem cutN_any (g n c k:Nat) (w:World) (hk:k <= n) (hn:n <= c) (hkn:k < n) :
    Calls Tryz.prog 162 #[.slice (some ⟨g,0,none⟩) n c,.int .i64 (k:Int)] w fun e w' => e = .returned (.tuple #[.slice (some ⟨g,0,none⟩) k k,.slice (some ⟨g,k,none⟩) (n - k) (c - k)]) /\ w' = w.drew := by
  have s1:∀ W:World,(Instr.sliceAt 175 (.slice (some ⟨g,0,none⟩) n c) none (some (.int .i64 (k:Int))) (some (.int .i64 (k:Int)))).run Tryz.prog W = .ok (.slice (some ⟨g,0,none⟩) k k) W := by
    intro W
    have hkc:k <= c := by omega
    simp [Instr.sliceAt,Instr.slice,go_sem,hkc]
  have s2:∀ W:World,(Instr.sliceAt 175 (.slice (some ⟨g,0,none⟩) n c) (some (.int .i64 (k:Int))) none none).run Tryz.prog W = .ok (.slice (some ⟨g,k,none⟩) (n - k) (c - k)) W := by
    intro W
    have hkc:¬ c = k := by omega
    simp [Instr.sliceAt,Instr.slice,go_sem,hkc,hk]
  go_enter Tryz.func162,Tryz.ntmps162
  go_wp2
  go_region_held3 (fun _ => True) (go_keep) (fail)
  go_wp2
  refine bodyPost_ret (v := .tuple #[.slice (some ⟨g,0,none⟩) k k,.slice (some ⟨g,k,none⟩) (n - k) (c - k)]) (by simp [results,Tryz.results162,go_sem]) rfl ⟨rfl,rfl⟩
end Go.Proofs.YtcnollkkigiobaaGreat
