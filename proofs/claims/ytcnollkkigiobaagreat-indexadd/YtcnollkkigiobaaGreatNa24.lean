import Derived.Test.YtcnollkkigiobaaGreatNa23
import Derived.Test.YtcnollkkigiobaaGreatNa11
import Derived.Test.YtcnollkkigiobaaGreatNa4
import Derived.Test.YtcnollkkigiobaaGreatNa12
set_option linter.unusedVariables false
set_option maxRecDepth 100000
namespace Go.Proofs.YtcnollkkigiobaaGreat
open Go.RowKit Go.Deep

theorem insO (key:ByteArray):∀ (d:Nat) (t:Ro d) (v:Value) (bs:List Nat) (root:Bool) (h B:Nat) (w:World),TOw B w d t v bs -> bs.Nodup -> BalR d root t h -> Asc (keysR d t) -> nodesR d t <= 5000 -> d <= 22 -> B <= w.heap.size -> CallI v key w (RetO key d t v bs w)
  | 0,_,_,_,_,_,_,_,hO,_,_,_,_,_,_ => hO.elim
  | d + 1,.inl L,v,bs,root,h,B,w,hO,hd,hb,ha,hn,hd2,hB => insLeafO key d B L v bs w hO hb.2.1 ha hB hd
  | 1,.inr l,v,bs,root,h,B,w,hO,hd,hb,ha,hn,hd2,hB => by
    obtain ⟨b,g,kc,xs,bss,rfl,hBb,hx,ho,hl0,hbl,rfl,hall⟩ := hO
    obtain ⟨_,_,_,_,q⟩ := hall 0 hl0
    exact q.elim
  | d + 2,.inr l,v,bs,root,h,B,w,hO,hd,hb,ha,hn,hd2,hB => by
    have hb2 := hb
    obtain ⟨b2,b4,h',_,hbk⟩ := hb2
    exact insInnerO key d B l v bs w root h hO hd hb ha hn hd2 hB (fun i hi u us ht hu => insO key (d + 1) l[i] u us false h' B w ht hu (hbk _ (List.getElem_mem hi)) (asc_kid ha i hi) (by have := kid_le (d + 1) l i hi; have q:nodesR (d + 1 + 1) (.inr l) <= 5000 := hn; omega) (by omega) hB)

theorem NdI.form {S:Nat -> Prop} {w:World} {b d:Nat} {t:Ro (d + 1)} {v:Value} (h:NdI S w b (d + 1) t v):(v = .iface 204 (.pointer (some ⟨b,0,none⟩)) /\ ∃ x ka kc,Bx w b 206 #[x,.slice ka (sizR t) kc]) \/ (v = .iface 174 (.pointer (some ⟨b,0,none⟩)) /\ ∃ x ka kc,Bx w b 179 #[x,.slice ka (sizR t) kc]) := by
  rcases t with L | l
  · obtain ⟨rfl,ka,kc,hx,_⟩ := h
    exact .inl ⟨rfl,_,ka,kc,hx⟩
  · obtain ⟨rfl,g,o,kc,xs,hx,_⟩ := h
    exact .inr ⟨rfl,_,_,kc,hx⟩

set_option maxHeartbeats 1000000 in
theorem grown_small (d b:Nat) (t:Ro (d + 1)) (v:Value) (S:Nat -> Prop) (w:World) (h:NdI S w b (d + 1) t v) (h4:sizR t <= 4):Calls Tryz.prog 84 #[v] w fun e w' => e = .returned v /\ w' = w := by
  have hd:decide (4 < sizR t) = false := decide_eq_false (by omega)
  rcases h.form with ⟨rfl,x,ka,kc,hx⟩ | ⟨rfl,x,ka,kc,hx⟩
  · have HL:Hid (Calls Tryz.prog 210 #[.pointer (some ⟨b,0,none⟩)] w fun e w' => e = .returned (.bool false) /\ w' = w) := by
      have := largeLeaf_any b (sizR t) kc ka x w hx
      rw [hd] at this
      exact this
    clear h hx hd
    go_enter Tryz.func84,Tryz.ntmps84
    go_wp2_with fail
    (with_reducible refine HL.out.mono ?_)
    rintro e w1 ⟨rfl,rfl⟩
    go_wp2
    go_ret
    exact ⟨rfl,rfl⟩
  · have HL:Hid (Calls Tryz.prog 192 #[.pointer (some ⟨b,0,none⟩)] w fun e w' => e = .returned (.bool false) /\ w' = w) := by
      have := largeInner_any b (sizR t) kc ka x w hx
      rw [hd] at this
      exact this
    clear h hx hd
    go_enter Tryz.func84,Tryz.ntmps84
    go_wp2_with fail
    (with_reducible refine HL.out.mono ?_)
    rintro e w1 ⟨rfl,rfl⟩
    go_wp2
    go_ret
    exact ⟨rfl,rfl⟩

def RetGr (S:Nat -> Prop) (w:World) (b d:Nat) (t:Ro (d + 1)) (e:Ending) (w' : World):Prop :=
  ∃ v',e = .returned v' /\ Fr2 w w' b b /\ TAo (fun x => S x \/ x = b \/ w.heap.size <= x) w' (d + 2) (.inr [cutR 0 3 t,cutR 3 5 t]) v'

set_option maxHeartbeats 4000000 in
theorem grown_big (d b:Nat) (t:Ro (d + 1)) (v:Value) (S:Nat -> Prop) (w:World) (h:NdI S w b (d + 1) t v) (hb:¬ S b) (hS:∀ x,S x -> x < w.heap.size) (h5:sizR t = 5) (hk:(keysR (d + 1) t).length <= 100000):Calls Tryz.prog 84 #[v] w (RetGr S w b d t) := by
  have hd:decide (4 < sizR t) = true := decide_eq_true (by omega)
  rcases h.form with ⟨rfl,x,ka,kc,hx⟩ | ⟨rfl,x,ka,kc,hx⟩
  · have HL:Hid (Calls Tryz.prog 210 #[.pointer (some ⟨b,0,none⟩)] w fun e w' => e = .returned (.bool true) /\ w' = w) := by
      have := largeLeaf_any b (sizR t) kc ka x w hx
      rw [hd] at this
      exact this
    have HPt:Hid (Calls Tryz.prog 117 #[.iface 204 (.pointer (some ⟨b,0,none⟩))] w (RetPart S w b d t (.iface 204 (.pointer (some ⟨b,0,none⟩))))) := part_o d b t _ S w h hb hS h5 (by omega)
    clear h hx hd
    go_enter Tryz.func84,Tryz.ntmps84
    go_wp2_with fail
    (with_reducible refine HL.out.mono ?_)
    rintro e w1 ⟨rfl,hw1⟩
    subst hw1
    go_wp2_with fail
    (with_reducible refine HPt.out.mono ?_)
    rintro e w2 ⟨ur,rfl,hf2,hta,htb⟩
    obtain ⟨ty,pv,hur⟩:∃ ty pv,ur = .iface ty pv := by
      obtain ⟨bb,_,_,_,q⟩ := htb.count
      rcases q with q | q <;> exact ⟨_,_,q⟩
    subst hur
    have H2:Hid (Fr2 w1 w2 b b /\ TAo (fun x => S x \/ x = b \/ w1.heap.size <= x) w2 (d + 1) (cutR 0 3 t) (.iface 204 (.pointer (some ⟨b,0,none⟩))) /\ TAo (fun x => S x \/ w1.heap.size <= x) w2 (d + 1) (cutR 3 5 t) (.iface ty pv)) := ⟨hf2,hta,htb⟩
    have hz2 := hf2.2.2.2.1
    have HFin:Hid (Calls Tryz.prog 118 #[.pointer (some ⟨w2.heap.size + 1,0,none⟩)] ((w2.alloc (.cells #[.iface 204 (.pointer (some ⟨b,0,none⟩)),.iface ty pv] 68)).alloc (.cells #[.int .i64 0,.slice (some ⟨w2.heap.size,0,none⟩) 2 2] 179)) fun e w' => e = .returned (.tuple #[]) /\ ((w2.alloc (.cells #[.iface 204 (.pointer (some ⟨b,0,none⟩)),.iface ty pv] 68)).alloc (.cells #[.int .i64 0,.slice (some ⟨w2.heap.size,0,none⟩) 2 2] 179)).grownBy w' (some (w2.heap.size + 1)) /\ NdI (fun x => (S x \/ x = b \/ w1.heap.size <= x) /\ x <= w2.heap.size) w' (w2.heap.size + 1) (d + 2) (.inr [cutR 0 3 t,cutR 3 5 t]) (.iface 174 (.pointer (some ⟨w2.heap.size + 1,0,none⟩)))) := by
      have bx := Bx.new (w2.alloc (.cells #[.iface 204 (.pointer (some ⟨b,0,none⟩)),.iface ty pv] 68)) #[.int .i64 0,.slice (some ⟨w2.heap.size,0,none⟩) 2 2] 179
      rw [World.size_alloc] at bx
      have rx := (Bx.new w2 #[.iface 204 (.pointer (some ⟨b,0,none⟩)),.iface ty pv] 68).alloc (.cells #[.int .i64 0,.slice (some ⟨w2.heap.size,0,none⟩) 2 2] 179)
      have bl:Below w2.heap.size w2 ((w2.alloc (.cells #[.iface 204 (.pointer (some ⟨b,0,none⟩)),.iface ty pv] 68)).alloc (.cells #[.int .i64 0,.slice (some ⟨w2.heap.size,0,none⟩) 2 2] 179)) := (below_alloc _ _).alloc (by simp) _
      have k1:TAo (fun x => (S x \/ x = b \/ w1.heap.size <= x) /\ x <= w2.heap.size) ((w2.alloc (.cells #[.iface 204 (.pointer (some ⟨b,0,none⟩)),.iface ty pv] 68)).alloc (.cells #[.int .i64 0,.slice (some ⟨w2.heap.size,0,none⟩) 2 2] 179)) (d + 1) (cutR 0 3 t) (.iface 204 (.pointer (some ⟨b,0,none⟩))) := TAo.keep bl.size (fun x hx hl => ⟨⟨hx,by omega⟩,bl.block x hl⟩) H2.out.2.1
      have k2:TAo (fun x => (S x \/ x = b \/ w1.heap.size <= x) /\ x <= w2.heap.size) ((w2.alloc (.cells #[.iface 204 (.pointer (some ⟨b,0,none⟩)),.iface ty pv] 68)).alloc (.cells #[.int .i64 0,.slice (some ⟨w2.heap.size,0,none⟩) 2 2] 179)) (d + 1) (cutR 3 5 t) (.iface ty pv) := TAo.keep bl.size (fun x hx hl => ⟨⟨by rcases hx with h | h; exact .inl h; exact .inr (.inr h),by omega⟩,bl.block x hl⟩) H2.out.2.2
      have hkk := keys_spl h5
      refine ins_fin (d + 1) (w2.heap.size + 1) w2.heap.size 2 0 [cutR 0 3 t,cutR 3 5 t] [.iface 204 (.pointer (some ⟨b,0,none⟩)),.iface ty pv] _ _ bx (by simp) (by simp) (by simp) (fun j u hj => ?_) ((AllK.one k1).app (AllK.one k2)) (fun q => by omega) ⟨.inr (.inr hz2),Nat.le_refl _⟩ (by simp; omega) (by omega)
      rw [rx.cell j]
      simpa using hj
    clear hf2 hta htb HL HPt
    go_wp2_with fail
    (with_reducible refine HFin.out.mono ?_)
    rintro e w3 ⟨rfl,hg3,hnd3⟩
    have HR:Hid (RetGr S w1 b d t (.returned (.iface 174 (.pointer (some ⟨w2.heap.size + 1,0,none⟩)))) w3) := by
      have bl:Below w2.heap.size w2 ((w2.alloc (.cells #[.iface 204 (.pointer (some ⟨b,0,none⟩)),.iface ty pv] 68)).alloc (.cells #[.int .i64 0,.slice (some ⟨w2.heap.size,0,none⟩) 2 2] 179)) := (below_alloc _ _).alloc (by simp) _
      have bl3 := bl.grown hg3 (by simp; omega) (fun g e => by injection e with e; omega)
      refine ⟨_,rfl,H2.out.1.trans (fr2_of b b bl3),TAo.wide (hnd3.tao (fun q => by omega)) (fun x hx _ => ?_)⟩
      rcases hx with hx | hx
      · exact hx.1
      · exact .inr (.inr (by omega))
    clear hg3 hnd3 HFin
    go_wp2
    go_ret
    exact HR.out
  · have HL:Hid (Calls Tryz.prog 192 #[.pointer (some ⟨b,0,none⟩)] w fun e w' => e = .returned (.bool true) /\ w' = w) := by
      have := largeInner_any b (sizR t) kc ka x w hx
      rw [hd] at this
      exact this
    have HPt:Hid (Calls Tryz.prog 117 #[.iface 174 (.pointer (some ⟨b,0,none⟩))] w (RetPart S w b d t (.iface 174 (.pointer (some ⟨b,0,none⟩))))) := part_o d b t _ S w h hb hS h5 (by omega)
    clear h hx hd
    go_enter Tryz.func84,Tryz.ntmps84
    go_wp2_with fail
    (with_reducible refine HL.out.mono ?_)
    rintro e w1 ⟨rfl,hw1⟩
    subst hw1
    go_wp2_with fail
    (with_reducible refine HPt.out.mono ?_)
    rintro e w2 ⟨ur,rfl,hf2,hta,htb⟩
    obtain ⟨ty,pv,hur⟩:∃ ty pv,ur = .iface ty pv := by
      obtain ⟨bb,_,_,_,q⟩ := htb.count
      rcases q with q | q <;> exact ⟨_,_,q⟩
    subst hur
    have H2:Hid (Fr2 w1 w2 b b /\ TAo (fun x => S x \/ x = b \/ w1.heap.size <= x) w2 (d + 1) (cutR 0 3 t) (.iface 174 (.pointer (some ⟨b,0,none⟩))) /\ TAo (fun x => S x \/ w1.heap.size <= x) w2 (d + 1) (cutR 3 5 t) (.iface ty pv)) := ⟨hf2,hta,htb⟩
    have hz2 := hf2.2.2.2.1
    have HFin:Hid (Calls Tryz.prog 118 #[.pointer (some ⟨w2.heap.size + 1,0,none⟩)] ((w2.alloc (.cells #[.iface 174 (.pointer (some ⟨b,0,none⟩)),.iface ty pv] 68)).alloc (.cells #[.int .i64 0,.slice (some ⟨w2.heap.size,0,none⟩) 2 2] 179)) fun e w' => e = .returned (.tuple #[]) /\ ((w2.alloc (.cells #[.iface 174 (.pointer (some ⟨b,0,none⟩)),.iface ty pv] 68)).alloc (.cells #[.int .i64 0,.slice (some ⟨w2.heap.size,0,none⟩) 2 2] 179)).grownBy w' (some (w2.heap.size + 1)) /\ NdI (fun x => (S x \/ x = b \/ w1.heap.size <= x) /\ x <= w2.heap.size) w' (w2.heap.size + 1) (d + 2) (.inr [cutR 0 3 t,cutR 3 5 t]) (.iface 174 (.pointer (some ⟨w2.heap.size + 1,0,none⟩)))) := by
      have bx := Bx.new (w2.alloc (.cells #[.iface 174 (.pointer (some ⟨b,0,none⟩)),.iface ty pv] 68)) #[.int .i64 0,.slice (some ⟨w2.heap.size,0,none⟩) 2 2] 179
      rw [World.size_alloc] at bx
      have rx := (Bx.new w2 #[.iface 174 (.pointer (some ⟨b,0,none⟩)),.iface ty pv] 68).alloc (.cells #[.int .i64 0,.slice (some ⟨w2.heap.size,0,none⟩) 2 2] 179)
      have bl:Below w2.heap.size w2 ((w2.alloc (.cells #[.iface 174 (.pointer (some ⟨b,0,none⟩)),.iface ty pv] 68)).alloc (.cells #[.int .i64 0,.slice (some ⟨w2.heap.size,0,none⟩) 2 2] 179)) := (below_alloc _ _).alloc (by simp) _
      have k1:TAo (fun x => (S x \/ x = b \/ w1.heap.size <= x) /\ x <= w2.heap.size) ((w2.alloc (.cells #[.iface 174 (.pointer (some ⟨b,0,none⟩)),.iface ty pv] 68)).alloc (.cells #[.int .i64 0,.slice (some ⟨w2.heap.size,0,none⟩) 2 2] 179)) (d + 1) (cutR 0 3 t) (.iface 174 (.pointer (some ⟨b,0,none⟩))) := TAo.keep bl.size (fun x hx hl => ⟨⟨hx,by omega⟩,bl.block x hl⟩) H2.out.2.1
      have k2:TAo (fun x => (S x \/ x = b \/ w1.heap.size <= x) /\ x <= w2.heap.size) ((w2.alloc (.cells #[.iface 174 (.pointer (some ⟨b,0,none⟩)),.iface ty pv] 68)).alloc (.cells #[.int .i64 0,.slice (some ⟨w2.heap.size,0,none⟩) 2 2] 179)) (d + 1) (cutR 3 5 t) (.iface ty pv) := TAo.keep bl.size (fun x hx hl => ⟨⟨by rcases hx with h | h; exact .inl h; exact .inr (.inr h),by omega⟩,bl.block x hl⟩) H2.out.2.2
      have hkk := keys_spl h5
      refine ins_fin (d + 1) (w2.heap.size + 1) w2.heap.size 2 0 [cutR 0 3 t,cutR 3 5 t] [.iface 174 (.pointer (some ⟨b,0,none⟩)),.iface ty pv] _ _ bx (by simp) (by simp) (by simp) (fun j u hj => ?_) ((AllK.one k1).app (AllK.one k2)) (fun q => by omega) ⟨.inr (.inr hz2),Nat.le_refl _⟩ (by simp; omega) (by omega)
      rw [rx.cell j]
      simpa using hj
    clear hf2 hta htb HL HPt
    go_wp2_with fail
    (with_reducible refine HFin.out.mono ?_)
    rintro e w3 ⟨rfl,hg3,hnd3⟩
    have HR:Hid (RetGr S w1 b d t (.returned (.iface 174 (.pointer (some ⟨w2.heap.size + 1,0,none⟩)))) w3) := by
      have bl:Below w2.heap.size w2 ((w2.alloc (.cells #[.iface 174 (.pointer (some ⟨b,0,none⟩)),.iface ty pv] 68)).alloc (.cells #[.int .i64 0,.slice (some ⟨w2.heap.size,0,none⟩) 2 2] 179)) := (below_alloc _ _).alloc (by simp) _
      have bl3 := bl.grown hg3 (by simp; omega) (fun g e => by injection e with e; omega)
      refine ⟨_,rfl,H2.out.1.trans (fr2_of b b bl3),TAo.wide (hnd3.tao (fun q => by omega)) (fun x hx _ => ?_)⟩
      rcases hx with hx | hx
      · exact hx.1
      · exact .inr (.inr (by omega))
    clear hg3 hnd3 HFin
    go_wp2
    go_ret
    exact HR.out

def RetRo (N:Nat -> Tn) (rb b o n c x:Nat) (dep D:Int) (hk:Bool) (lk:ByteArray) (d:Nat) (w:World) (e:Ending) (w' : World):Prop :=
  w.grownBy w' (some rb) /\ ∃ v ok,e = .returned (.tuple #[v,.bool ok]) /\
    ((ok = true /\ ∃ t D' hk' lk',Good N n x dep D hk lk d t D' hk' lk' /\ RBx w' rb b o n c (x + nodesR d t) D' lk' hk' /\ ∃ bs:List Nat,bs.Nodup /\ TOw w.heap.size w' d t v bs) \/
     (ok = false /\ ¬ ∃ t D' hk' lk',Good N n x dep D hk lk d t D' hk' lk'))

theorem leaf_apart {w:World} {b B n c:Nat} {a:Option Addr} {cur:Array Value} {xs:List Value} (hx:Bx w b 206 cur) (ho:w.ownsRow B 9 1 (.slice a n c) n xs):(b :: (a.map (·.block)).toList).Nodup := by
  cases a with
  | none => simp
  | some p =>
    simp
    intro e
    rcases ho.2 with ⟨q,_⟩ | ⟨g,cap,cur2,q,_,hg,_⟩
    · cases q
    · injection q with q _ _
      injection q with q
      subst q
      subst e
      unfold Bx at hx
      have e2 := hg.symm.trans hx
      injection e2 with e2
      injection e2 with _ e2 _
      exact absurd e2 (by decide)

set_option maxHeartbeats 4000000 in
theorem readLeafO_any (N:Nat -> Tn) (rb b o n c x:Nat) (dep D:Int) (hk:Bool) (lk:ByteArray) (d:Nat) (w:World) (ka da:Option Addr) (kc dc:Nat) (h:RBx w rb b o n c (x + 1) D lk hk) (hx:x < n) (hlf:(N x).lf = true) (hfit:TnFit (N x)) (hK:∀ W:World,Below rb w W -> RdS W ka (N x).kn (N x).ks) (hd0:0 <= dep) :
    Calls Tryz.prog 133 #[.pointer (some ⟨rb,0,none⟩),.agg #[.bool true,.slice ka (N x).kn kc,.slice da (N x).dn dc,.int .i64 (N x).ct],.int .i64 dep] w (RetRo N rb b o n c x dep D hk lk (d + 1) w) := by
  have HR:Hid (RBx w rb b o n c (x + 1) D lk hk) := h
  have hrl := h.lt
  have HK:Hid (∀ W:World,Below rb w W -> RdS W ka (N x).kn (gt (ksL (N x)))) := fun W hW => (hK W hW).congr (fun j hj => (gt_ksL (N x) j hj).symm)
  have HGL:Hid (∀ (t:Ro (d + 1)) D' hk' lk',Good N n x dep D hk lk (d + 1) t D' hk' lk' -> (N x).kn <= 4 /\ (dep = 0 \/ 2 <= (N x).kn) /\ (N x).dn = 0 /\ (D = 0 \/ D = dep) /\ Chain hk lk (ksL (N x)) hk' lk' /\ (N x).ct = ((N x).kn:Int)) := fun t D' hk' lk' g => good_leaf hlf g
  have hm2:(N x).kn <= 1048576 := hfit.1
  have hd2:(N x).dn <= 1048576 := hfit.2
  have HML:Hid ((N x).kn = (ksL (N x)).length) := (ksL_length _).symm
  have HYes:Hid (∀ hk' lk',(N x).kn <= 4 -> (dep = 0 \/ 2 <= (N x).kn) -> (N x).dn = 0 -> (D = 0 \/ D = dep) -> Chain hk lk (ksL (N x)) hk' lk' -> (N x).ct = ((N x).kn:Int) -> Good N n x dep D hk lk (d + 1) (.inl (ksL (N x))) dep hk' lk') := by
    intro hk' lk' a1 a2 a3 a4 a5 a6
    refine ⟨⟨hlf,(ksL_length _).symm,fun j hj => (gt_ksL _ _ (by rw [ksL_length] at hj; exact hj)).symm,a3,by rw [ksL_length]; exact a6⟩,?_,⟨0,⟨rfl,by rw [ksL_length]; exact a1,?_⟩,by simp⟩,a4,a5⟩
    · have:nodesR (d + 1) (.inl (ksL (N x))) = 1 := rfl
      omega
    · rw [ksL_length]
      rcases a2 with a2 | a2
      · exact Or.inl (by simpa using a2)
      · exact Or.inr a2
  clear h hK hlf hfit
  generalize (N x).kn = m at HK HGL hm2 HML HYes ⊢
  generalize (N x).dn = dn at HGL hd2 HYes ⊢
  generalize (N x).ct = ct at HGL HYes ⊢
  generalize ksL (N x) = L at HK HGL HML HYes ⊢
  have HNo:Hid (∀ w' : World,w.grownBy w' (some rb) -> ¬ (∃ (t:Ro (d + 1)) (D' : Int) (hk' : Bool) (lk' : ByteArray),Good N n x dep D hk lk (d + 1) t D' hk' lk') -> ∀ v,RetRo N rb b o n c x dep D hk lk (d + 1) w (.returned (.tuple #[v,.bool false])) w') := fun w' hg hn v => ⟨hg,v,false,rfl,Or.inr ⟨rfl,hn⟩⟩
  by_cases h4:4 < m
  · have i4:(4:Int) < (m:Int) := by omega
    have i4' : decide ((4:Int) < (m:Int)) = true := decide_eq_true i4
    have n4' : decide (4 < m) = true := decide_eq_true h4
    go_enter Tryz.func133,Tryz.ntmps133
    go_wp2
    refine bodyPost_ret (v := .tuple #[.nilIface,.bool false]) (by simp [results,Tryz.results133,go_sem]) rfl (HNo.out _ (grown_below (below_alloc _ _)) (fun ⟨t,D',hk',lk',g⟩ => by have := HGL.out t D' hk' lk' g; omega) _)
  · have i4:¬ (4:Int) < (m:Int) := by omega
    have i4' : decide ((4:Int) < (m:Int)) = false := decide_eq_false i4
    have n4' : decide (4 < m) = false := decide_eq_false h4
    by_cases h2:m < 2 /\ 0 < dep
    · have i2:(m:Int) < 2 := by omega
      have i2' : decide ((m:Int) < 2) = true := decide_eq_true i2
      have n2' : decide (m < 2) = true := decide_eq_true h2.1
      have id:(0:Int) < dep := h2.2
      have id' : decide ((0:Int) < dep) = true := decide_eq_true id
      have H2:Hid (m < 2 /\ 0 < dep) := h2
      clear h2
      go_enter Tryz.func133,Tryz.ntmps133
      go_wp2
      refine bodyPost_ret (v := .tuple #[.nilIface,.bool false]) (by simp [results,Tryz.results133,go_sem]) rfl (HNo.out _ (grown_below (below_alloc _ _)) (fun ⟨t,D',hk',lk',g⟩ => by have := HGL.out t D' hk' lk' g; have := H2.out; omega) _)
    · have HB2:Hid (dep = 0 \/ 2 <= m) := by
        show dep = 0 \/ 2 <= m
        omega
      have hpick:Hid (∀ b1 b2:Bool,b1 = decide ((m:Int) < 2) -> b2 = decide ((0:Int) < dep) -> (b1 && b2) = false) := by
        rintro b1 b2 rfl rfl
        rw [Bool.and_eq_false_iff]
        simp
        omega
      by_cases hm2' : m < 2
      · have i2:(m:Int) < 2 := by omega
        have i2' : decide ((m:Int) < 2) = true := decide_eq_true i2
        have n2' : decide (m < 2) = true := decide_eq_true hm2'
        have id:¬ (0:Int) < dep := by omega
        have id' : decide ((0:Int) < dep) = false := decide_eq_false id
        clear h2 hpick
        go_enter Tryz.func133,Tryz.ntmps133
        go_upto_region 3 with fail
        have S1:Hid (Bx (w.alloc (.cells #[.bool true,.slice ka m kc,.slice da dn dc,.int .i64 ct] 168)) w.heap.size 168 #[.bool true,.slice ka m kc,.slice da dn dc,.int .i64 ct] /\ RBx (w.alloc (.cells #[.bool true,.slice ka m kc,.slice da dn dc,.int .i64 ct] 168)) rb b o n c (x + 1) D lk hk /\ Below w.heap.size w (w.alloc (.cells #[.bool true,.slice ka m kc,.slice da dn dc,.int .i64 ct] 168))) := ⟨Bx.new _ _ _,HR.out.alloc _,below_alloc _ _⟩
        clear HR
        generalize (w.alloc (.cells #[.bool true,.slice ka m kc,.slice da dn dc,.int .i64 ct] 168)) = W at S1 ⊢
        have g2 := S1.out.1.cell 2
        have hWl := S1.out.1.lt
        simp at g2
        by_cases hdn0:0 < dn
        · have id0:(0:Int) < (dn:Int) := by omega
          have id0' : decide ((0:Int) < (dn:Int)) = true := decide_eq_true id0
          have nd0' : decide (0 < dn) = true := decide_eq_true hdn0
          go_wp2
          refine bodyPost_ret (v := .tuple #[.nilIface,.bool false]) (by simp [results,Tryz.results133,go_sem]) rfl (HNo.out _ (grown_below S1.out.2.2) (fun ⟨t,D',hk',lk',g⟩ => by have := HGL.out t D' hk' lk' g; omega) _)
        · have id0:¬ (0:Int) < (dn:Int) := by omega
          have id0' : decide ((0:Int) < (dn:Int)) = false := decide_eq_false id0
          have nd0' : decide (0 < dn) = false := decide_eq_false hdn0
          go_wp2_with fail
          refine (leafDepth_any rb b o n c (x + 1) dep D lk hk _ S1.out.2.1 hd0).mono ?_
          rintro e w1 ⟨ok,rfl,hg1,hs1,hr1⟩
          have HG1:Hid (w.grownBy w1 (some rb) /\ Bx w1 w.heap.size 168 #[.bool true,.slice ka m kc,.slice da dn dc,.int .i64 ct]) := ⟨grown_trans (grown_below S1.out.2.2) hg1,S1.out.1.grown hg1 (fun e => by injection e with e; omega)⟩
          have HR1:Hid ((ok = true /\ (D = 0 \/ D = dep) /\ RBx w1 rb b o n c (x + 1) dep lk hk) \/ (ok = false /\ ¬ (D = 0 \/ D = dep))) := hr1
          clear hg1 hs1 hr1 g2 S1
          have g1 := HG1.out.2.cell 1
          have hWl1 := HG1.out.2.lt
          simp at g1
          cases ok with
          | false =>
            go_wp2
            refine bodyPost_ret (v := .tuple #[.nilIface,.bool false]) (by simp [results,Tryz.results133,go_sem]) rfl (HNo.out _ HG1.out.1 (fun ⟨t,D',hk',lk',g⟩ => ?_) _)
            have q := HGL.out t D' hk' lk' g
            rcases HR1.out with ⟨e,_⟩ | ⟨_,e⟩
            · cases e
            · exact e q.2.2.2.1
          | true =>
            have HD:Hid ((D = 0 \/ D = dep) /\ RBx w1 rb b o n c (x + 1) dep lk hk) := by
              rcases HR1.out with ⟨_,e⟩ | ⟨e,_⟩
              · exact e
              · cases e
            clear HR1
            go_wp2_with fail
            refine (passKeys_any rb b o n c (x + 1) m kc ka dep lk hk L w1 HD.out.2 HML.out hm2 (fun W' hW' => HK.out W' (below_grown (grown_trans HG1.out.1 hW') (by omega) (Nat.le_refl _)))).mono ?_
            rintro e w2 ⟨ok2,rfl,hg2,hs2,hr2⟩
            have HG2:Hid (w.grownBy w2 (some rb) /\ Bx w2 w.heap.size 168 #[.bool true,.slice ka m kc,.slice da dn dc,.int .i64 ct]) := ⟨grown_trans HG1.out.1 hg2,HG1.out.2.grown hg2 (fun e => by injection e with e; omega)⟩
            have HR2:Hid ((ok2 = true /\ ∃ hk' lk',Chain hk lk L hk' lk' /\ RBx w2 rb b o n c (x + 1) dep lk' hk') \/ (ok2 = false /\ ∀ hk' lk',¬ Chain hk lk L hk' lk')) := hr2
            clear hg2 hs2 hr2 g1 HG1
            have g1 := HG2.out.2.cell 1
            have hWl2 := HG2.out.2.lt
            simp at g1
            cases ok2 with
            | false =>
              go_wp2
              refine bodyPost_ret (v := .tuple #[.nilIface,.bool false]) (by simp [results,Tryz.results133,go_sem]) rfl (HNo.out _ HG2.out.1 (fun ⟨t,D',hk',lk',g⟩ => ?_) _)
              have q := HGL.out t D' hk' lk' g
              rcases HR2.out with ⟨e,_⟩ | ⟨_,e⟩
              · cases e
              · exact e _ _ q.2.2.2.2.1
            | true =>
              obtain ⟨hk',lk',hch,hrb⟩:∃ hk' lk',Chain hk lk L hk' lk' /\ RBx w2 rb b o n c (x + 1) dep lk' hk' := by
                rcases HR2.out with ⟨_,e⟩ | ⟨e,_⟩
                · exact e
                · cases e
              have HC:Hid (Chain hk lk L hk' lk' /\ RBx w2 rb b o n c (x + 1) dep lk' hk') := ⟨hch,hrb⟩
              clear HR2 hch hrb
              go_wp2_with fail
              refine (copyStrs_any ka m kc L w2 (HK.out w2 (below_grown HG2.out.1 (by omega) (Nat.le_refl _))) HML.out hm2).mono ?_
              rintro e w3 ⟨a3,c3,rfl,ho3,hb3⟩
              have HO3:Hid (w3.ownsRow w2.heap.size 9 1 (.slice a3 m c3) m (strL L)) := ho3
              have H3:Hid (Below w2.heap.size w2 w3) := hb3
              clear ho3 hb3 g1
              go_upto_region 6 with fail
              have S4:Hid (Bx (w3.alloc (.cells #[.int .i64 0,.slice a3 m c3] 206)) w3.heap.size 206 #[.int .i64 0,.slice a3 m c3] /\ Below w2.heap.size w2 (w3.alloc (.cells #[.int .i64 0,.slice a3 m c3] 206)) /\ (w3.alloc (.cells #[.int .i64 0,.slice a3 m c3] 206)).ownsRow w2.heap.size 9 1 (.slice a3 m c3) m (strL L) /\ w2.heap.size <= w3.heap.size) := ⟨Bx.new _ _ _,H3.out.trans ((below_alloc _ _).mono H3.out.size),own_below HO3.out (below_alloc _ _),H3.out.size⟩
              clear HO3
              generalize (w3.alloc (.cells #[.int .i64 0,.slice a3 m c3] 206)) = w4 at S4 ⊢
              generalize w3.heap.size = nb at S4 ⊢
              clear H3
              go_wp2_with fail
              refine (recountLeaf_any nb m c3 a3 0 w4 S4.out.1).mono ?_
              rintro e w5 ⟨rfl,hw5⟩
              have hnb := S4.out.2.2.2
              have HX5:Hid (Bx w5 nb 206 #[.int .i64 (m:Int),.slice a3 m c3] /\ Below w2.heap.size w2 w5 /\ w5.ownsRow w2.heap.size 9 1 (.slice a3 m c3) m (strL L) /\ Bx w5 w.heap.size 168 #[.bool true,.slice ka m kc,.slice da dn dc,.int .i64 ct]) := by
                subst hw5
                refine ⟨S4.out.1.set 0 _,S4.out.2.1.setCell hnb _,?_,(HG2.out.2.below S4.out.2.1).other (by simp; omega) _⟩
                have q := S4.out.2.2.1
                refine ⟨q.1,?_⟩
                rcases q.2 with q | ⟨g,cap,cur,q1,q2,q3,q4⟩
                · exact Or.inl q
                · refine Or.inr ⟨g,cap,cur,q1,q2,?_,q4⟩
                  rw [Below.heap_setCell _ _ _ _ (show g ≠ nb from fun e => ?_)]
                  · exact q3
                  · subst e
                    have := S4.out.1
                    unfold Bx at this
                    rw [q3] at this
                    injection this with this
                    injection this with _ this _
                    exact absurd this (by decide)
              clear hw5 S4
              have z0 := HX5.out.1.cell 0
              have g3 := HX5.out.2.2.2.cell 3
              simp at z0 g3
              have HTA:Hid (∃ bs:List Nat,bs.Nodup /\ TOw w.heap.size w5 (d + 1) (.inl L) (.iface 204 (.pointer (some ⟨nb,0,none⟩))) bs) := by
                have hz2 := HG2.out.1.size
                refine ⟨nb :: (a3.map (·.block)).toList,leaf_apart HX5.out.1 HX5.out.2.2.1,nb,a3,c3,rfl,by omega,?_,?_,rfl⟩
                · rw [<- HML.out]; exact HX5.out.1
                · rw [<- HML.out]; exact HX5.out.2.2.1.mono hz2
              have HRB:Hid (RBx w5.drew rb b o n c (x + 1) dep lk' hk' /\ w.grownBy w5.drew (some rb)) := ⟨HC.out.2.below HX5.out.2.1.drew,grown_trans HG2.out.1 (grown_below HX5.out.2.1.drew)⟩
              have HB:Hid (∀ W:World,W.cell? ⟨nb,0,none⟩ = some (.int .i64 (m:Int)) -> Calls Tryz.prog 157 #[.pointer (some ⟨nb,0,none⟩)] W fun e w' => e = .returned (.int .i64 (m:Int)) /\ w' = W) := fun W hW => below_any nb (m:Int) W hW
              by_cases hct:ct = (m:Int)
              · subst hct
                have hq:((m:Int) == (m:Int)) = true := by simp
                go_upto_region 7 with fail
                go_region_held3 (fun w' => w'.cell? ⟨nb,0,none⟩ = some (.int .i64 (m:Int)) /\ w'.cell? ⟨w.heap.size,3,none⟩ = some (.int .i64 (m:Int))) (go_keep) (first | (go_at_call 157; refine (HB.out _ (by simpa using z0)).mono ?_; rintro e w6 ⟨rfl,rfl⟩) | fail)
                all_goals
                  go_wp2
                  refine bodyPost_ret (v := .tuple #[.iface 204 (.pointer (some ⟨nb,0,none⟩)),.bool true]) (by simp [results,Tryz.results133,go_sem]) rfl ⟨HRB.out.2,_,true,rfl,.inl ⟨rfl,.inl L,dep,hk',lk',HYes.out hk' lk' (by omega) HB2.out (by omega) HD.out.1 HC.out.1 trivial,HRB.out.1,(let ⟨bs,h1,h2⟩ := HTA.out; ⟨bs,h1,h2.below (Below.refl _ _).drew⟩)⟩⟩
              · have hq:((m:Int) == ct) = false := by simp; omega
                go_upto_region 7 with fail
                go_region_held3 (fun w' => w'.cell? ⟨nb,0,none⟩ = some (.int .i64 (m:Int)) /\ w'.cell? ⟨w.heap.size,3,none⟩ = some (.int .i64 ct)) (go_keep) (first | (go_at_call 157; refine (HB.out _ (by simpa using z0)).mono ?_; rintro e w6 ⟨rfl,rfl⟩) | fail)
                all_goals
                  go_wp2
                  refine bodyPost_ret (v := .tuple #[.iface 204 (.pointer (some ⟨nb,0,none⟩)),.bool false]) (by simp [results,Tryz.results133,go_sem]) rfl (HNo.out _ HRB.out.2 (fun ⟨t,D',hk',lk',g⟩ => ?_) _)
                  have q := HGL.out t D' hk' lk' g
                  exact hct q.2.2.2.2.2
      · have i2:¬ (m:Int) < 2 := by omega
        have i2' : decide ((m:Int) < 2) = false := decide_eq_false i2
        have n2' : decide (m < 2) = false := decide_eq_false hm2'
        clear h2 hpick
        go_enter Tryz.func133,Tryz.ntmps133
        go_upto_region 3 with fail
        have S1:Hid (Bx (w.alloc (.cells #[.bool true,.slice ka m kc,.slice da dn dc,.int .i64 ct] 168)) w.heap.size 168 #[.bool true,.slice ka m kc,.slice da dn dc,.int .i64 ct] /\ RBx (w.alloc (.cells #[.bool true,.slice ka m kc,.slice da dn dc,.int .i64 ct] 168)) rb b o n c (x + 1) D lk hk /\ Below w.heap.size w (w.alloc (.cells #[.bool true,.slice ka m kc,.slice da dn dc,.int .i64 ct] 168))) := ⟨Bx.new _ _ _,HR.out.alloc _,below_alloc _ _⟩
        clear HR
        generalize (w.alloc (.cells #[.bool true,.slice ka m kc,.slice da dn dc,.int .i64 ct] 168)) = W at S1 ⊢
        have g2 := S1.out.1.cell 2
        have hWl := S1.out.1.lt
        simp at g2
        by_cases hdn0:0 < dn
        · have id0:(0:Int) < (dn:Int) := by omega
          have id0' : decide ((0:Int) < (dn:Int)) = true := decide_eq_true id0
          have nd0' : decide (0 < dn) = true := decide_eq_true hdn0
          go_wp2
          refine bodyPost_ret (v := .tuple #[.nilIface,.bool false]) (by simp [results,Tryz.results133,go_sem]) rfl (HNo.out _ (grown_below S1.out.2.2) (fun ⟨t,D',hk',lk',g⟩ => by have := HGL.out t D' hk' lk' g; omega) _)
        · have id0:¬ (0:Int) < (dn:Int) := by omega
          have id0' : decide ((0:Int) < (dn:Int)) = false := decide_eq_false id0
          have nd0' : decide (0 < dn) = false := decide_eq_false hdn0
          go_wp2_with fail
          refine (leafDepth_any rb b o n c (x + 1) dep D lk hk _ S1.out.2.1 hd0).mono ?_
          rintro e w1 ⟨ok,rfl,hg1,hs1,hr1⟩
          have HG1:Hid (w.grownBy w1 (some rb) /\ Bx w1 w.heap.size 168 #[.bool true,.slice ka m kc,.slice da dn dc,.int .i64 ct]) := ⟨grown_trans (grown_below S1.out.2.2) hg1,S1.out.1.grown hg1 (fun e => by injection e with e; omega)⟩
          have HR1:Hid ((ok = true /\ (D = 0 \/ D = dep) /\ RBx w1 rb b o n c (x + 1) dep lk hk) \/ (ok = false /\ ¬ (D = 0 \/ D = dep))) := hr1
          clear hg1 hs1 hr1 g2 S1
          have g1 := HG1.out.2.cell 1
          have hWl1 := HG1.out.2.lt
          simp at g1
          cases ok with
          | false =>
            go_wp2
            refine bodyPost_ret (v := .tuple #[.nilIface,.bool false]) (by simp [results,Tryz.results133,go_sem]) rfl (HNo.out _ HG1.out.1 (fun ⟨t,D',hk',lk',g⟩ => ?_) _)
            have q := HGL.out t D' hk' lk' g
            rcases HR1.out with ⟨e,_⟩ | ⟨_,e⟩
            · cases e
            · exact e q.2.2.2.1
          | true =>
            have HD:Hid ((D = 0 \/ D = dep) /\ RBx w1 rb b o n c (x + 1) dep lk hk) := by
              rcases HR1.out with ⟨_,e⟩ | ⟨e,_⟩
              · exact e
              · cases e
            clear HR1
            go_wp2_with fail
            refine (passKeys_any rb b o n c (x + 1) m kc ka dep lk hk L w1 HD.out.2 HML.out hm2 (fun W' hW' => HK.out W' (below_grown (grown_trans HG1.out.1 hW') (by omega) (Nat.le_refl _)))).mono ?_
            rintro e w2 ⟨ok2,rfl,hg2,hs2,hr2⟩
            have HG2:Hid (w.grownBy w2 (some rb) /\ Bx w2 w.heap.size 168 #[.bool true,.slice ka m kc,.slice da dn dc,.int .i64 ct]) := ⟨grown_trans HG1.out.1 hg2,HG1.out.2.grown hg2 (fun e => by injection e with e; omega)⟩
            have HR2:Hid ((ok2 = true /\ ∃ hk' lk',Chain hk lk L hk' lk' /\ RBx w2 rb b o n c (x + 1) dep lk' hk') \/ (ok2 = false /\ ∀ hk' lk',¬ Chain hk lk L hk' lk')) := hr2
            clear hg2 hs2 hr2 g1 HG1
            have g1 := HG2.out.2.cell 1
            have hWl2 := HG2.out.2.lt
            simp at g1
            cases ok2 with
            | false =>
              go_wp2
              refine bodyPost_ret (v := .tuple #[.nilIface,.bool false]) (by simp [results,Tryz.results133,go_sem]) rfl (HNo.out _ HG2.out.1 (fun ⟨t,D',hk',lk',g⟩ => ?_) _)
              have q := HGL.out t D' hk' lk' g
              rcases HR2.out with ⟨e,_⟩ | ⟨_,e⟩
              · cases e
              · exact e _ _ q.2.2.2.2.1
            | true =>
              obtain ⟨hk',lk',hch,hrb⟩:∃ hk' lk',Chain hk lk L hk' lk' /\ RBx w2 rb b o n c (x + 1) dep lk' hk' := by
                rcases HR2.out with ⟨_,e⟩ | ⟨e,_⟩
                · exact e
                · cases e
              have HC:Hid (Chain hk lk L hk' lk' /\ RBx w2 rb b o n c (x + 1) dep lk' hk') := ⟨hch,hrb⟩
              clear HR2 hch hrb
              go_wp2_with fail
              refine (copyStrs_any ka m kc L w2 (HK.out w2 (below_grown HG2.out.1 (by omega) (Nat.le_refl _))) HML.out hm2).mono ?_
              rintro e w3 ⟨a3,c3,rfl,ho3,hb3⟩
              have HO3:Hid (w3.ownsRow w2.heap.size 9 1 (.slice a3 m c3) m (strL L)) := ho3
              have H3:Hid (Below w2.heap.size w2 w3) := hb3
              clear ho3 hb3 g1
              go_upto_region 6 with fail
              have S4:Hid (Bx (w3.alloc (.cells #[.int .i64 0,.slice a3 m c3] 206)) w3.heap.size 206 #[.int .i64 0,.slice a3 m c3] /\ Below w2.heap.size w2 (w3.alloc (.cells #[.int .i64 0,.slice a3 m c3] 206)) /\ (w3.alloc (.cells #[.int .i64 0,.slice a3 m c3] 206)).ownsRow w2.heap.size 9 1 (.slice a3 m c3) m (strL L) /\ w2.heap.size <= w3.heap.size) := ⟨Bx.new _ _ _,H3.out.trans ((below_alloc _ _).mono H3.out.size),own_below HO3.out (below_alloc _ _),H3.out.size⟩
              clear HO3
              generalize (w3.alloc (.cells #[.int .i64 0,.slice a3 m c3] 206)) = w4 at S4 ⊢
              generalize w3.heap.size = nb at S4 ⊢
              clear H3
              go_wp2_with fail
              refine (recountLeaf_any nb m c3 a3 0 w4 S4.out.1).mono ?_
              rintro e w5 ⟨rfl,hw5⟩
              have hnb := S4.out.2.2.2
              have HX5:Hid (Bx w5 nb 206 #[.int .i64 (m:Int),.slice a3 m c3] /\ Below w2.heap.size w2 w5 /\ w5.ownsRow w2.heap.size 9 1 (.slice a3 m c3) m (strL L) /\ Bx w5 w.heap.size 168 #[.bool true,.slice ka m kc,.slice da dn dc,.int .i64 ct]) := by
                subst hw5
                refine ⟨S4.out.1.set 0 _,S4.out.2.1.setCell hnb _,?_,(HG2.out.2.below S4.out.2.1).other (by simp; omega) _⟩
                have q := S4.out.2.2.1
                refine ⟨q.1,?_⟩
                rcases q.2 with q | ⟨g,cap,cur,q1,q2,q3,q4⟩
                · exact Or.inl q
                · refine Or.inr ⟨g,cap,cur,q1,q2,?_,q4⟩
                  rw [Below.heap_setCell _ _ _ _ (show g ≠ nb from fun e => ?_)]
                  · exact q3
                  · subst e
                    have := S4.out.1
                    unfold Bx at this
                    rw [q3] at this
                    injection this with this
                    injection this with _ this _
                    exact absurd this (by decide)
              clear hw5 S4
              have z0 := HX5.out.1.cell 0
              have g3 := HX5.out.2.2.2.cell 3
              simp at z0 g3
              have HTA:Hid (∃ bs:List Nat,bs.Nodup /\ TOw w.heap.size w5 (d + 1) (.inl L) (.iface 204 (.pointer (some ⟨nb,0,none⟩))) bs) := by
                have hz2 := HG2.out.1.size
                refine ⟨nb :: (a3.map (·.block)).toList,leaf_apart HX5.out.1 HX5.out.2.2.1,nb,a3,c3,rfl,by omega,?_,?_,rfl⟩
                · rw [<- HML.out]; exact HX5.out.1
                · rw [<- HML.out]; exact HX5.out.2.2.1.mono hz2
              have HRB:Hid (RBx w5.drew rb b o n c (x + 1) dep lk' hk' /\ w.grownBy w5.drew (some rb)) := ⟨HC.out.2.below HX5.out.2.1.drew,grown_trans HG2.out.1 (grown_below HX5.out.2.1.drew)⟩
              have HB:Hid (∀ W:World,W.cell? ⟨nb,0,none⟩ = some (.int .i64 (m:Int)) -> Calls Tryz.prog 157 #[.pointer (some ⟨nb,0,none⟩)] W fun e w' => e = .returned (.int .i64 (m:Int)) /\ w' = W) := fun W hW => below_any nb (m:Int) W hW
              by_cases hct:ct = (m:Int)
              · subst hct
                have hq:((m:Int) == (m:Int)) = true := by simp
                go_upto_region 7 with fail
                go_region_held3 (fun w' => w'.cell? ⟨nb,0,none⟩ = some (.int .i64 (m:Int)) /\ w'.cell? ⟨w.heap.size,3,none⟩ = some (.int .i64 (m:Int))) (go_keep) (first | (go_at_call 157; refine (HB.out _ (by simpa using z0)).mono ?_; rintro e w6 ⟨rfl,rfl⟩) | fail)
                all_goals
                  go_wp2
                  refine bodyPost_ret (v := .tuple #[.iface 204 (.pointer (some ⟨nb,0,none⟩)),.bool true]) (by simp [results,Tryz.results133,go_sem]) rfl ⟨HRB.out.2,_,true,rfl,.inl ⟨rfl,.inl L,dep,hk',lk',HYes.out hk' lk' (by omega) HB2.out (by omega) HD.out.1 HC.out.1 trivial,HRB.out.1,(let ⟨bs,h1,h2⟩ := HTA.out; ⟨bs,h1,h2.below (Below.refl _ _).drew⟩)⟩⟩
              · have hq:((m:Int) == ct) = false := by simp; omega
                go_upto_region 7 with fail
                go_region_held3 (fun w' => w'.cell? ⟨nb,0,none⟩ = some (.int .i64 (m:Int)) /\ w'.cell? ⟨w.heap.size,3,none⟩ = some (.int .i64 ct)) (go_keep) (first | (go_at_call 157; refine (HB.out _ (by simpa using z0)).mono ?_; rintro e w6 ⟨rfl,rfl⟩) | fail)
                all_goals
                  go_wp2
                  refine bodyPost_ret (v := .tuple #[.iface 204 (.pointer (some ⟨nb,0,none⟩)),.bool false]) (by simp [results,Tryz.results133,go_sem]) rfl (HNo.out _ HRB.out.2 (fun ⟨t,D',hk',lk',g⟩ => ?_) _)
                  have q := HGL.out t D' hk' lk' g
                  exact hct q.2.2.2.2.2

theorem TOw.mono {B B' : Nat} {w:World} (hB:B' <= B):∀ {d:Nat} {t:Ro d} {v:Value} {bs:List Nat},TOw B w d t v bs -> TOw B' w d t v bs
  | 0,_,_,_,h => h
  | d + 1,.inl t,v,bs,h => by
    obtain ⟨b,ka,kc,rfl,hb,hx,ho,rfl⟩ := h
    exact ⟨b,ka,kc,rfl,by omega,hx,ho.mono hB,rfl⟩
  | d + 1,.inr l,v,bs,h => by
    obtain ⟨b,g,kc,xs,bss,rfl,hb,hx,ho,hl,hbl,rfl,hall⟩ := h
    refine ⟨b,g,kc,xs,bss,rfl,by omega,hx,ho.mono hB,hl,hbl,rfl,fun k h => ?_⟩
    obtain ⟨u,us,e1,e2,e3⟩ := hall k h
    exact ⟨u,us,e1,e2,TOw.mono hB e3⟩

structure InSo (w wr:World) (rb nb:Nat) (nd:Array Value) (d:Nat) (ts:List (Ro d)) (k:Nat) (ca:Option Addr) (cc:Nat) (xs:List Value) (bss:List (List Nat)):Prop where
  st:InSt w wr rb nb nd d ts k ca cc xs
  bl:bss.length = ts.length
  ndp:bss.flatten.Nodup
  av:∀ bb,bb ∈ bss.flatten -> nb + 1 <= bb /\ bb < wr.heap.size /\ (Value.slice ca k cc).ownBlock ≠ some bb
  own:∀ j (h:j < ts.length),∃ u us,xs[j]? = some u /\ bss[j]? = some us /\ TOw (nb + 1) wr d ts[j] u us

theorem mem_flat {bss:List (List Nat)} {us:List Nat} {j:Nat} (h:bss[j]? = some us) {b:Nat} (hb:b ∈ us):b ∈ bss.flatten := by
  rw [List.mem_flatten]
  exact ⟨us,List.mem_of_getElem? h,hb⟩

theorem InSo.read {w wr w1:World} {rb nb:Nat} {nd:Array Value} {d:Nat} {ts:List (Ro d)} {k:Nat} {ca:Option Addr} {cc:Nat} {xs:List Value} {bss:List (List Nat)} (h:InSo w wr rb nb nd d ts k ca cc xs bss) (hg:wr.grownBy w1 (some rb)):InSo w w1 rb nb nd d ts k ca cc xs bss := by
  have h1 := h.st.rlt
  have h2 := h.st.lt
  have hz := hg.size
  refine ⟨h.st.read hg,h.bl,h.ndp,fun bb hb => ?_,fun j hj => ?_⟩
  · obtain ⟨q1,q2,q3⟩ := h.av bb hb
    exact ⟨q1,by omega,q3⟩
  · obtain ⟨u,us,e1,e2,e3⟩ := h.own j hj
    refine ⟨u,us,e1,e2,e3.keep (fun bb hb => ?_)⟩
    obtain ⟨q1,q2,q3⟩ := h.av bb (mem_flat e2 hb)
    exact hg.block bb q2 (fun e => by injection e with e; omega)

theorem InSo.grow {w wr w1 w5:World} {rb nb:Nat} {nd:Array Value} {d:Nat} {ts:List (Ro d)} {k:Nat} {ca:Option Addr} {cc:Nat} {xs:List Value} {bss:List (List Nat)} (h:InSo w wr rb nb nd d ts k ca cc xs bss) (hg0:wr.grownBy w1 (some rb)) {t:Ro d} {v:Value} {us0:List Nat} (ht:TOw wr.heap.size w1 d t v us0) (hnd:us0.Nodup) {O:Obj} (hg:(w1.alloc O).grownBy w5 (Value.slice ca k cc).ownBlock) {a' : Option Addr} {c' : Nat}
    (ho:w5.ownsRow (nb + 1) 68 1 (.slice a' (k + 1) c') (k + 1) (xs ++ [v])) (hat:(Value.slice a' (k + 1) c').ownBlock = (Value.slice ca k cc).ownBlock \/ (Value.slice a' (k + 1) c').ownBlock = some (w1.alloc O).heap.size) :
    InSo w (w5.setCell ⟨nb,1,none⟩ (.slice a' (k + 1) c')) rb nb nd d (ts ++ [t]) (k + 1) a' c' (xs ++ [v]) (bss ++ [us0]) := by
  have h1 := h.st.rlt
  have h2 := h.st.lt
  have hr := h.read hg0
  have hlo := own_lt h.st.own
  have hz0 := hg0.size
  have hz := hg.size
  have hnl := h.st.nbx.lt
  have hza:(w1.alloc O).heap.size = w1.heap.size + 1 := by simp
  have hlt0 := TOw.lt ht
  have hb5:∀ bb,bb < w1.heap.size -> (Value.slice ca k cc).ownBlock ≠ some bb -> bb ≠ nb -> (w5.setCell ⟨nb,1,none⟩ (.slice a' (k + 1) c')).heap[bb]? = w1.heap[bb]? := fun bb hlt hn1 hn2 => by
    rw [Below.heap_setCell _ _ _ _ (show bb ≠ nb from hn2),hg.block bb (by omega) (fun e => hn1 e.symm),Below.heap_alloc _ _ _ hlt]
  have hs5:(w5.setCell ⟨nb,1,none⟩ (.slice a' (k + 1) c')).heap.size = w5.heap.size := by simp [World.setCell]
  have hnew:∀ bb,bb < w1.heap.size -> (Value.slice ca k cc).ownBlock ≠ some bb -> (Value.slice a' (k + 1) c').ownBlock ≠ some bb := fun bb hlt hn => by
    rcases hat with e | e
    · rw [e]; exact hn
    · rw [e]
      intro q
      injection q with q
      omega
  have hold:∀ bb,wr.heap.size <= bb -> (Value.slice ca k cc).ownBlock ≠ some bb := fun bb hle e => by have := hlo bb e; omega
  refine ⟨h.st.grow hg0 (TAt.mono (Nat.le_refl _) (fun bb hb _ => ⟨(hlt0 bb hb).1,rfl⟩) (TOw.tat ht)) hg ho hat,by rw [List.length_append,List.length_append,h.bl]; rfl,?_,fun bb hb => ?_,fun j hj => ?_⟩
  · rw [List.flatten_append,List.nodup_append]
    refine ⟨h.ndp,by simpa using hnd,fun x hx y hy e => ?_⟩
    subst e
    have q1 := (h.av x hx).2.1
    have q2 := (hlt0 x (by simpa using hy)).1
    omega
  · rw [List.flatten_append,List.mem_append] at hb
    rcases hb with hb | hb
    · obtain ⟨q1,q2,q3⟩ := hr.av bb hb
      exact ⟨q1,by rw [hs5]; omega,hnew bb q2 q3⟩
    · obtain ⟨q1,q2⟩ := hlt0 bb (by simpa using hb)
      exact ⟨by omega,by rw [hs5]; omega,hnew bb q2 (hold bb q1)⟩
  · rw [List.length_append] at hj
    simp at hj
    have hxl:xs.length = k := by have := h.st.own.1; omega
    have hlen := h.st.len
    by_cases e:j = ts.length
    · subst e
      refine ⟨v,us0,by rw [hlen,List.getElem?_append_right (by omega),hxl]; simp,by rw [List.getElem?_append_right (by rw [h.bl]; omega),h.bl]; simp,?_⟩
      rw [List.getElem_append_right (by omega)]
      simp only [Nat.sub_self,List.getElem_cons_zero]
      refine TOw.mono (by omega) (TOw.keep ht (fun bb hb => ?_))
      obtain ⟨q1,q2⟩ := hlt0 bb hb
      exact hb5 bb q2 (hold bb q1) (by omega)
    · obtain ⟨u,us,e1,e2,e3⟩ := hr.own j (by omega)
      refine ⟨u,us,by rw [List.getElem?_append_left (by omega)]; exact e1,by rw [List.getElem?_append_left (by rw [h.bl]; omega)]; exact e2,?_⟩
      rw [List.getElem_append_left (by omega)]
      refine TOw.keep e3 (fun bb hb => ?_)
      obtain ⟨q1,q2,q3⟩ := hr.av bb (mem_flat e2 hb)
      exact hb5 bb q2 q3 (by omega)

def TOx (B:Nat) (w:World) (d:Nat) (t:Ro d) (v:Value):Prop := ∃ bs:List Nat,bs.Nodup /\ TOw B w d t v bs
theorem TOx.below {B:Nat} {w w' : World} {d:Nat} {t:Ro d} {v:Value} (h:TOx B w d t v) (hb:Below w.heap.size w w'):TOx B w' d t v :=
  let ⟨bs,h1,h2⟩ := h
  ⟨bs,h1,h2.below hb⟩
theorem TOx.tat {B:Nat} {w:World} {d:Nat} {t:Ro d} {v:Value} (h:TOx B w d t v):TAt (fun b => B <= b) w d t v :=
  let ⟨bs,h1,h2⟩ := h
  TAt.mono (Nat.le_refl _) (fun bb hb _ => ⟨(TOw.lt h2 bb hb).1,rfl⟩) (TOw.tat h2)
def InSx (w wr:World) (rb nb:Nat) (nd:Array Value) (d:Nat) (ts:List (Ro d)) (k:Nat) (ca:Option Addr) (cc:Nat) (xs:List Value):Prop := ∃ bss,InSo w wr rb nb nd d ts k ca cc xs bss

section
variable {w wr w1 w2 w5:World} {rb nb:Nat} {nd:Array Value} {d:Nat} {ts:List (Ro d)} {k:Nat} {ca:Option Addr} {cc:Nat} {xs:List Value}
theorem InSx.st (h:InSx w wr rb nb nd d ts k ca cc xs):InSt w wr rb nb nd d ts k ca cc xs := let ⟨_,h⟩ := h; h.st
theorem InSx.read (h:InSx w wr rb nb nd d ts k ca cc xs) (hg:wr.grownBy w1 (some rb)):InSx w w1 rb nb nd d ts k ca cc xs := let ⟨bss,h⟩ := h; ⟨bss,h.read hg⟩
theorem InSx.nil (h:InSt w wr rb nb nd d [] 0 none 0 []):InSx w wr rb nb nd d [] 0 none 0 [] := ⟨[],h,rfl,by simp,fun bb hb => by simp at hb,fun j hj => absurd hj (Nat.not_lt_zero _)⟩
theorem InSx.grow (h:InSx w wr rb nb nd d ts k ca cc xs) (hg0:wr.grownBy w1 (some rb)) {t:Ro d} {v:Value} (ht:TOx wr.heap.size w1 d t v) {O:Obj} (hg:(w1.alloc O).grownBy w5 (Value.slice ca k cc).ownBlock) {a' : Option Addr} {c' : Nat}
    (ho:w5.ownsRow (nb + 1) 68 1 (.slice a' (k + 1) c') (k + 1) (xs ++ [v])) (hat:(Value.slice a' (k + 1) c').ownBlock = (Value.slice ca k cc).ownBlock \/ (Value.slice a' (k + 1) c').ownBlock = some (w1.alloc O).heap.size) :
    InSx w (w5.setCell ⟨nb,1,none⟩ (.slice a' (k + 1) c')) rb nb nd d (ts ++ [t]) (k + 1) a' c' (xs ++ [v]) :=
  let ⟨bss,h⟩ := h
  let ⟨us,h1,h2⟩ := ht
  ⟨bss ++ [us],h.grow hg0 h2 h1 hg ho hat⟩
theorem InSx.fin {g:Nat} {A:Int} (h:InSx w wr rb nb nd d ts k (some ⟨g,0,none⟩) cc xs) (hgr:wr.grownBy w2 (some nb)) (hx:Bx w2 nb 179 #[.int .i64 A,.slice (some ⟨g,0,none⟩) k cc]) (hA:A = ((ts.flatMap (keysR d)).length:Int)) (hk:0 < k):TOx w.heap.size w2.drew (d + 1) (.inr ts) (.iface 174 (.pointer (some ⟨nb,0,none⟩))) := by
  obtain ⟨bss,h⟩ := h
  have hlt := h.st.lt
  have hgo := own_lt h.st.own g rfl
  have hlen := h.st.len
  refine ⟨nb :: g :: bss.flatten,?_,nb,g,cc,xs,bss,rfl,by omega,?_,?_,by omega,h.bl,rfl,fun j hj => ?_⟩
  · rw [List.nodup_cons,List.nodup_cons]
    refine ⟨fun hm => ?_,fun hm => (h.av g hm).2.2 rfl,h.ndp⟩
    rw [List.mem_cons] at hm
    rcases hm with hm | hm
    · omega
    · have := (h.av nb hm).1
      omega
  · rw [<- hA,hlen]
    exact hx
  · rw [hlen]
    refine World.ownsRow.mono (base := nb + 1) (own_keep h.st.own (fun g' e => ?_)) (by omega)
    injection e with e
    subst e
    exact hgr.block g hgo.2 (fun e => by injection e with e; omega)
  · obtain ⟨u,us,e1,e2,e3⟩ := h.own j hj
    refine ⟨u,us,e1,e2,TOw.mono (show w.heap.size <= nb + 1 by omega) (TOw.keep e3 (fun bb hb => ?_))⟩
    obtain ⟨q1,q2,q3⟩ := h.av bb (mem_flat e2 hb)
    exact hgr.block bb q2 (fun e => by injection e with e; omega)
end
end Go.Proofs.YtcnollkkigiobaaGreat
