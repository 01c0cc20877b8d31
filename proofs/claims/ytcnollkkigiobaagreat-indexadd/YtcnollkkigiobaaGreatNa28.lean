import Derived.Test.YtcnollkkigiobaaGreatNa27
set_option linter.unusedVariables false
set_option maxRecDepth 100000
namespace Go.Proofs.YtcnollkkigiobaaGreat
open Go.RowKit Go.Deep

def TreeAt (w:World) (lo hi m:Nat) (N:Nat -> Tn) (u:Value):Prop :=
  ∃ a c KA DA KC DC,u = .slice a m c /\ GT w lo (.slice a m c) m N KA DA KC DC /\ (∀ x,UsedT (.slice a m c) m N KA DA x -> x < hi) /\ hi <= w.heap.size
theorem TreeAt.of {w:World} {lo m c:Nat} {a:Option Addr} {N:Nat -> Tn} {KA DA:Nat -> Option Addr} {KC DC:Nat -> Nat} (h:GT w lo (.slice a m c) m N KA DA KC DC):TreeAt w lo w.heap.size m N (.slice a m c) := ⟨a,c,KA,DA,KC,DC,rfl,h,fun x hx => (h.used hx).2,Nat.le_refl _⟩
theorem TreeAt.keep {w w' : World} {lo hi m:Nat} {N:Nat -> Tn} {u:Value} (h:TreeAt w lo hi m N u) (hz:w.heap.size <= w'.heap.size) (hk:∀ x,lo <= x -> x < hi -> w'.heap[x]? = w.heap[x]?):TreeAt w' lo hi m N u := by
  obtain ⟨a,c,KA,DA,KC,DC,e,hg,hu,hh⟩ := h
  exact ⟨a,c,KA,DA,KC,DC,e,hg.keep (fun x hx => hk x (hg.used hx).1 (hu x hx)),hu,Nat.le_trans hh hz⟩
theorem TreeAt.form {w:World} {lo hi m:Nat} {N:Nat -> Tn} {u:Value} (h:TreeAt w lo hi m N u):∃ a c,u = .slice a m c /\ RdTn w a m N := by
  obtain ⟨a,c,KA,DA,KC,DC,e,hg,hu,hh⟩ := h
  exact ⟨a,c,e,hg.rd⟩
structure PlP (P:World -> Nat -> Nat -> Nat -> (Nat -> Tn) -> Value -> Prop):Prop where
  keep:∀ {w w' : World} {lo hi m:Nat} {N:Nat -> Tn} {u:Value},P w lo hi m N u -> w.heap.size <= w'.heap.size -> (∀ x,lo <= x -> x < hi -> w'.heap[x]? = w.heap[x]?) -> P w' lo hi m N u
  top:∀ {w:World} {lo hi m:Nat} {N:Nat -> Tn} {u:Value},P w lo hi m N u -> hi <= w.heap.size
  form:∀ {w:World} {lo hi m:Nat} {N:Nat -> Tn} {u:Value},P w lo hi m N u -> ∃ a c,u = .slice a m c /\ RdTn w a m N
theorem TreeAt.pl:PlP TreeAt := ⟨fun h hz hk => h.keep hz hk,fun ⟨_,_,_,_,_,_,_,_,_,q⟩ => q,fun h => h.form⟩
structure RowI (P:World -> Nat -> Nat -> Nat -> (Nat -> Tn) -> Value -> Prop) (w:World) (B:Nat) (v:Value) (k:Nat) (M:Nat -> Nat) (T:Nat -> Nat -> Tn) (us:List Value) (lo hi:Nat -> Nat):Prop where
  row:w.ownsRow B 59 1 v k us
  len:us.length = k
  tree:∀ i,i < k -> ∃ u,us[i]? = some u /\ P w (lo i) (hi i) (M i) (T i) u
  base:∀ i,i < k -> B <= lo i
  ord:∀ i j,i < j -> j < k -> hi i <= lo j
  sep:∀ g,v.ownBlock = some g -> ∀ i,i < k -> g < lo i \/ hi i <= g
section
variable {P:World -> Nat -> Nat -> Nat -> (Nat -> Tn) -> Value -> Prop} {w w' w2 w4:World} {B k:Nat} {v v' u:Value} {M:Nat -> Nat} {T:Nat -> Nat -> Tn} {us:List Value} {lo hi:Nat -> Nat}
theorem RowI.nil (P:World -> Nat -> Nat -> Nat -> (Nat -> Tn) -> Value -> Prop) (w:World) (B:Nat) (M:Nat -> Nat) (T:Nat -> Nat -> Tn):RowI P w B (.slice none 0 0) 0 M T [] (fun _ => 0) (fun _ => 0) :=
  ⟨World.ownsRow_nil _ _ _ _,rfl,fun i hi => absurd hi (Nat.not_lt_zero _),fun i hi => absurd hi (Nat.not_lt_zero _),fun i j _ hj => absurd hj (Nat.not_lt_zero _),fun g _ i hi => absurd hi (Nat.not_lt_zero _)⟩
theorem RowI.keep (hP:PlP P) (h:RowI P w B v k M T us lo hi) (hz:w.heap.size <= w'.heap.size) (hk:∀ x,B <= x -> x < w.heap.size -> w'.heap[x]? = w.heap[x]?):RowI P w' B v k M T us lo hi := by
  refine ⟨own_keep h.row (fun g e => hk g (own_lt h.row g e).1 (own_lt h.row g e).2),h.len,fun i hi => ?_,h.base,h.ord,h.sep⟩
  obtain ⟨u,h1,h2⟩ := h.tree i hi
  have q := hP.top h2
  exact ⟨u,h1,hP.keep h2 hz (fun x h3 h4 => hk x (Nat.le_trans (h.base i hi) h3) (by omega))⟩
theorem RowI.below (hP:PlP P) (h:RowI P w B v k M T us lo hi) (hb:Below w.heap.size w w'):RowI P w' B v k M T us lo hi := h.keep hP hb.size (fun x _ hx => hb.block x hx)
theorem RowI.setO (hP:PlP P) (h:RowI P w B v k M T us lo hi) {p:Addr} (hp:p.block < B) (x:Value):RowI P (w.setCell p x) B v k M T us lo hi := h.keep hP (by rw [World.size_setCell]; exact Nat.le_refl _) (fun y hy _ => Below.heap_setCell _ _ _ _ (by omega))
theorem RowI.form (h:RowI P w B v k M T us lo hi):∃ a c,v = .slice a k c := by
  obtain ⟨a,c,e,_⟩ := own_form h.row
  exact ⟨a,c,e⟩
theorem RowI.rd (hP:PlP P) {a:Option Addr} {c:Nat} (h:RowI P w B (.slice a k c) k M T us lo hi):RdIx w a k M T := by
  by_cases h0:k = 0
  · exact .inl h0
  · obtain ⟨a',c',e,hf⟩ := own_form h.row
    injection e with e
    subst e
    obtain ⟨g,rfl,_,_,hc⟩ := hf h0
    refine .inr ⟨g,0,rfl,fun i hi => ?_⟩
    obtain ⟨u,h1,h2⟩ := h.tree i hi
    obtain ⟨ai,ci,rfl,hr⟩ := hP.form h2
    exact ⟨ai,ci,by rw [Nat.zero_add]; exact hc i _ h1,hr⟩
theorem RowI.step (hP:PlP P) (h:RowI P w B v k M T us lo hi) (hB:B <= w.heap.size) (hb:Below w.heap.size w w2) {l:Nat} (hl:w.heap.size <= l) (ht:P w2 l w2.heap.size (M k) (T k) u) (O:Obj) (hg:(w2.alloc O).grownBy w4 v.ownBlock) (ho:w4.ownsRow B 59 1 v' (k + 1) (us ++ [u])) (hat:v'.ownBlock = v.ownBlock \/ v'.ownBlock = some (w2.heap.size + 1)):∃ lo' hi',RowI P w4 B v' (k + 1) M T (us ++ [u]) lo' hi' := by
  obtain ⟨lo',hlo'⟩:∃ lo' : Nat -> Nat,∀ i,lo' i = if i = k then l else lo i := ⟨_,fun _ => rfl⟩
  obtain ⟨hi',hhi'⟩:∃ hi' : Nat -> Nat,∀ i,hi' i = if i = k then w2.heap.size else hi i := ⟨_,fun _ => rfl⟩
  have hz := hb.size
  have hz4 := hg.size
  rw [World.size_alloc] at hz4
  have hl2:∀ g,v.ownBlock = some g -> g < w.heap.size := fun g e => (own_lt h.row g e).2
  have hkp:∀ x,x < w2.heap.size -> v.ownBlock ≠ some x -> w4.heap[x]? = w2.heap[x]? := fun x hx hne => (hg.block x (by rw [World.size_alloc]; omega) (fun e => hne e.symm)).trans ((below_alloc w2 O).block x hx)
  have hTop:∀ i,i < k -> hi i <= w.heap.size := fun i hi => by
    obtain ⟨u,_,q⟩ := h.tree i hi
    exact hP.top q
  refine ⟨lo',hi',ho,by rw [List.length_append,h.len]; rfl,fun i hi => ?_,fun i hi => ?_,fun i j hij hj => ?_,fun g hgv i hi => ?_⟩
  · by_cases e:i = k
    · subst e
      refine ⟨u,by rw [List.getElem?_append_right (by rw [h.len]; exact Nat.le_refl _),h.len]; simp,?_⟩
      rw [hlo',hhi',if_pos rfl,if_pos rfl]
      refine hP.keep ht (by omega) (fun x h1 h2 => hkp x h2 (fun e => ?_))
      have := hl2 x e
      omega
    · have hi' : i < k := by omega
      obtain ⟨u',h1,h2⟩ := h.tree i hi'
      have ht' := hTop i hi'
      refine ⟨u',by rw [List.getElem?_append_left (by rw [h.len]; exact hi')]; exact h1,?_⟩
      rw [hlo',hhi',if_neg e,if_neg e]
      refine hP.keep h2 (by omega) (fun x h3 h4 => (hkp x (by omega) (fun e => ?_)).trans (hb.block x (by omega)))
      have := h.sep x e i hi'
      omega
  · rw [hlo']
    by_cases e:i = k
    · rw [if_pos e]; omega
    · rw [if_neg e]; exact h.base i (by omega)
  · rw [hlo',hhi',if_neg (show ¬ i = k by omega)]
    by_cases e:j = k
    · rw [if_pos e]
      have := hTop i (by omega)
      omega
    · rw [if_neg e]
      exact h.ord i j hij (by omega)
  · rw [hlo',hhi']
    rcases hat with q | q
    · rw [q] at hgv
      have h1 := hl2 g hgv
      by_cases e:i = k
      · rw [if_pos e]; left; omega
      · rw [if_neg e,if_neg e]; exact h.sep g hgv i (by omega)
    · rw [q] at hgv
      injection hgv with hgv
      right
      by_cases e:i = k
      · rw [if_pos e]; omega
      · rw [if_neg e]
        have := hTop i (by omega)
        omega
end
def RetCi (w:World) (n:Nat) (M:Nat -> Nat) (T:Nat -> Nat -> Tn) (e:Ending) (w' : World):Prop :=
  ∃ a c us lo hi,e = .returned (.agg #[.slice a n c]) /\ RowI TreeAt w' (w.heap.size + 2) (.slice a n c) n M T us lo hi /\ Below w.heap.size w w'

set_option maxHeartbeats 4000000 in
theorem copyIx_any (a:Option Addr) (n c:Nat) (M:Nat -> Nat) (T:Nat -> Nat -> Tn) (w:World) (h:RdIx w a n M T) (hn:n <= 1048576) (hN:IxFit n M T) :
    Calls Tryz.prog 47 #[.agg #[.slice a n c]] w (RetCi w n M T) := by
  obtain ⟨i0,hi0,hz0,hz1,hz2⟩ := info_parts Tryz.info59
  have HI:Hid (Tryz.prog.info? 59 = some i0 /\ i0.zero = some (.agg #[.slice none 0 0]) /\ i0.size = 1 /\ i0.bytes = 24) := ⟨hi0,hz0,hz1,hz2⟩
  clear hi0 hz0 hz1 hz2
  have HR:Hid (RdIx w a n M T /\ IxFit n M T) := ⟨h,hN⟩
  clear h hN
  obtain ⟨W0,hW0⟩:∃ W0,W0 = (w.alloc (.cells #[.slice a n c] 32)).alloc (.cells #[.slice none 0 0] 32) := ⟨_,rfl⟩
  have B0:Hid (Bx W0 w.heap.size 32 #[.slice a n c] /\ Bx W0 (w.heap.size + 1) 32 #[.slice none 0 0] /\ Below w.heap.size w W0 /\ W0.heap.size = w.heap.size + 2) := by
    have b1 := Bx.new w #[.slice a n c] 32
    have b2 := Bx.new (w.alloc (.cells #[.slice a n c] 32)) #[.slice none 0 0] 32
    simp only [World.size_alloc] at b2
    rw [hW0]
    exact ⟨b1.alloc _,b2,(below_alloc _ _).alloc (by simp) _,by simp⟩
  have x0 := B0.out.1.cell 0
  simp at x0
  go_enter Tryz.func47,Tryz.ntmps47
  go_upto_region 2 with fail
  rw [<- hW0]
  clear hW0
  go_wp2
  go_loopw [3,5,9] (fun out _ i wr => ∃ (k:Nat) (us:List Value) (lo hi:Nat -> Nat),k <= n /\ i = .int .i64 k /\ RowI TreeAt wr (w.heap.size + 2) out k M T us lo hi /\ Below (w.heap.size + 2) W0 wr) (fun _ _ i _ => n - (intOf i).toNat)
  case atStart => exact ⟨0,[],_,_,Nat.zero_le _,rfl,RowI.nil _ _ _ _ _,Below.refl _ _⟩
  case round =>
    obtain ⟨k,us,lo,hi,hk,rfl,hrow,hbel⟩ := hrel
    obtain ⟨ar,cr,er⟩ := hrow.form
    subst er
    have hz := hbel.size
    have hw2 := B0.out.2.2.2
    have HQ:Hid (RowI TreeAt wr (w.heap.size + 2) (.slice ar k cr) k M T us lo hi /\ Below (w.heap.size + 2) W0 wr /\ w.heap.size + 2 <= wr.heap.size /\ Below w.heap.size w wr) := ⟨hrow,hbel,by omega,B0.out.2.2.1.trans (hbel.mono (by omega))⟩
    have k0:(0:Int) <= (k:Int) := by omega
    by_cases hlt:k < n
    · have k1:(k:Int) < (n:Int) := by omega
      rcases HR.out.1.below HQ.out.2.2.2 with h0 | ⟨bb,oo,rfl,hc⟩
      · omega
      obtain ⟨ai,ci,s0,hrd⟩ := hc k hlt
      have HF := HR.out.2 k hlt
      have HCp:Hid (∀ W:World,Below wr.heap.size wr W -> Calls Tryz.prog 85 #[.agg #[.slice ai (M k) ci]] W (RetOt W (M k) (T k))) := fun W hW => copyI_any ai (M k) ci (T k) W (hrd.below hW) HF.1 HF.2
      have HUs:Hid (us.length = k) := hrow.len
      clear hrow hbel hc hrd HF x0
      go_wp2_with fail
      (with_reducible refine (HCp.out _ (below_alloc _ _)).mono ?_)
      rintro e w5 ⟨hb5,a5,c5,KA,DA,KC,DC,rfl,hg5⟩
      have H5:Hid (Below wr.heap.size wr w5 /\ TreeAt w5 (wr.heap.size + 1 + 1) w5.heap.size (M k) (T k) (.slice a5 (M k) c5)) := by
        rw [World.size_alloc] at hg5
        exact ⟨(below_alloc _ _).trans (hb5.mono (by simp)),TreeAt.of hg5⟩
      have HO7:Hid ((w5.alloc (.cells #[.slice a5 (M k) c5] 59)).ownsRow (w.heap.size + 2) 59 1 (.slice ar k cr) k us /\ (∀ i u,[Value.slice a5 (M k) c5][i]? = some u -> (w5.alloc (.cells #[.slice a5 (M k) c5] 59)).cell? ⟨w5.heap.size,i,none⟩ = some u)) := by
        refine ⟨own_below HQ.out.1.row (H5.out.1.trans ((below_alloc _ _).mono H5.out.1.size)),fun i u hi => ?_⟩
        rw [(Bx.new w5 #[.slice a5 (M k) c5] 59).cell i]
        simpa using hi
      have hz5 := H5.out.1.size
      have hzr := HQ.out.2.2.1
      clear hb5 hg5 HCp s0
      go_wp2_with (at_builtin; refine wpList_append_own_at _ rfl _ _ 30 rfl (w.heap.size + 2) 59 i0 _ 1 24 Tryz.underlying30 HI.out.1 HI.out.2.1 HI.out.2.2.1 HI.out.2.2.2 rfl (by decide) (.slice ar k cr) k us rfl HO7.out.1 ⟨w5.heap.size,0,none⟩ 1 1 [.slice a5 (M k) c5] rfl rfl (fun i u hi => by rw [Addr.add_lit,Nat.zero_add]; exact HO7.out.2 i u hi) (by intro u hu; simp at hu; subst hu; rfl) (by unfold maxLen; omega) (by omega) (by simp; omega) ?_)
      intro v7 w7 ho7 hg7 _ hat7
      have H7:Hid ((∃ lo' hi',RowI TreeAt w7 (w.heap.size + 2) v7 (k + 1) M T (us ++ [.slice a5 (M k) c5]) lo' hi') /\ Below (w.heap.size + 2) W0 w7) := by
        refine ⟨HQ.out.1.step TreeAt.pl hzr H5.out.1 (by omega) H5.out.2 _ hg7 ho7 hat7,?_⟩
        exact ((HQ.out.2.1.trans (H5.out.1.mono hzr)).trans ((below_alloc _ _).mono (by omega))).grown hg7 (by simp; omega) (fun g e => (own_lt HQ.out.1.row g e).1)
      obtain ⟨a7,c7,e7,_⟩ := own_form ho7
      subst e7
      clear ho7 hg7 hat7 HO7
      go_wp2
      go_roundw
      case rel =>
        obtain ⟨⟨lo',hi',hr'⟩,hb'⟩ := H7.out
        exact ⟨k + 1,_,lo',hi',by omega,by go_num,hr',hb'⟩
      case measure => simp [intOf]; omega
    · obtain rfl:k = n := by omega
      have k1:¬ (k:Int) < (k:Int) := by omega
      have b1:Bx wr (w.heap.size + 1) 32 #[.slice none 0 0] := B0.out.2.1.below' hbel (by omega)
      have y0 := b1.cell 0
      simp at y0
      have yf := b1.frozen 0
      have yl := b1.lt
      clear hrow hbel b1 x0
      go_wp2
      refine bodyPost_ret (v := .agg #[.slice ar k cr]) (by simp [results,Tryz.results47,go_sem,y0]) rfl ⟨ar,cr,us,lo,hi,rfl,HQ.out.1.setO TreeAt.pl (by simp) _,HQ.out.2.2.2.setCell (by simp) _⟩
end Go.Proofs.YtcnollkkigiobaaGreat
