import Derived.Test.YtcnollkkigiobaaGreatTiA
import Derived.Test.YtcnollkkigiobaaGreatLate
import Derived.Deep.QuietTactic
import Derived.BigQuiet
import Derived.Deep.RegionHeld3
import Derived.Deep.CutBlock
import Derived.Laws.Cover1
namespace Go.Proofs.YtcnollkkigiobaaGreat
open Go.RowKit Go.Deep
set_option linter.unusedVariables false
set_option maxRecDepth 100000

set_option maxHeartbeats 400000 in
theorem below_any (b : Nat) (x : Int) (w : World) (h : w.cell? ⟨b, 0, none⟩ = some (.int .i64 x)) :
    Calls Tryz.prog 157 #[.pointer (some ⟨b, 0, none⟩)] w fun e w' => e = .returned (.int .i64 x) ∧ w' = w := by
  go_enter Tryz.func157, Tryz.ntmps157
  go_wp2
  go_ret
  exact ⟨rfl, rfl⟩

set_option maxHeartbeats 400000 in
theorem leastLeaf_any (b n kc : Nat) (ka : Option Addr) (v0 : Value) (X : Nat → ByteArray) (w : World) (h : Bx w b 206 #[v0, .slice ka n kc]) (hr : RdS w ka n X) (hn : 0 < n) :
    Calls Tryz.prog 205 #[.pointer (some ⟨b, 0, none⟩)] w fun e w' => e = .returned (.string (X 0)) ∧ w' = w := by
  have c1 := h.cell 1
  simp at c1
  have hnI : (0 : Int) < (n : Int) := by omega
  rcases hr with h0 | ⟨bk, ok, rfl, hc⟩
  · omega
  have c2 := hc 0 hn
  rw [Nat.add_zero] at c2
  clear h hc
  go_enter Tryz.func205, Tryz.ntmps205
  go_wp2
  go_ret
  exact ⟨rfl, rfl⟩

/-- The first key of an inner node. -/
theorem head_flat {d : Nat} {l : List (Ro d)} (h0 : 0 < l.length) (hp : 0 < (keysR d l[0]).length) : gt (l.flatMap (keysR d)) 0 = gt (keysR d l[0]) 0 := by
  cases l with
  | nil => simp at h0
  | cons t l =>
    simp only [List.getElem_cons_zero] at hp ⊢
    rw [List.flatMap_cons]
    unfold gt
    rw [List.getD_eq_getElem?_getD, List.getD_eq_getElem?_getD, List.getElem?_append_left hp]

set_option maxHeartbeats 1000000 in
theorem leastInner_any : ∀ (d : Nat) (l : List (Ro d)) (S : Nat → Prop) (b : Nat) (h : Nat) (w : World), TAt S w (d + 1) (.inr l) (.iface 174 (.pointer (some ⟨b, 0, none⟩))) → (∀ t, t ∈ l → BalR d false t h) →
    Calls Tryz.prog 188 #[.pointer (some ⟨b, 0, none⟩)] w fun e w' => e = .returned (.string (gt (l.flatMap (keysR d)) 0)) ∧ w' = w := by
  intro d
  induction d with
  | zero =>
    intro l S b h w ht hb
    obtain ⟨b', g, kc, xs, e, _, _, _, _, hl, _, hk⟩ := ht
    obtain ⟨u, _, q⟩ := hk 0 hl
    exact q.elim
  | succ d ih =>
    intro l S b h w ht hb
    obtain ⟨b', g, kc, xs, e, _, hx, _, _, hl, hc, hk⟩ := ht
    injection e with _ e
    injection e with e
    injection e with e
    injection e with e
    subst e
    obtain ⟨u, hu, hut⟩ := hk 0 hl
    have hpos := bal_pos (hb l[0] (List.getElem_mem hl))
    rw [head_flat hl hpos]
    have c1 := hx.cell 1
    simp at c1
    have c2 := hc 0 u hu
    have hb0 := hb l[0] (List.getElem_mem hl)
    have hlI : (0 : Int) < (l.length : Int) := by omega
    clear hx hc hk hu
    generalize l[0] = t0 at *
    generalize l.length = ln at c1 hlI
    clear hl
    rcases t0 with t0 | l0
    · obtain ⟨b0, ka0, kc0, rfl, _, hx0, hr0⟩ := hut
      have HL : Hid (Calls Tryz.prog 205 #[.pointer (some ⟨b0, 0, none⟩)] w fun e w' => e = .returned (.string (gt t0 0)) ∧ w' = w) := leastLeaf_any b0 t0.length kc0 ka0 _ (gt t0) w hx0 hr0.rdS hpos
      clear hx0 hr0 ih hb hb0 hpos
      go_enter Tryz.func188, Tryz.ntmps188
      go_wp2_with fail
      refine HL.out.mono ?_
      rintro e w1 ⟨rfl, rfl⟩
      go_wp2
      go_ret
      exact ⟨rfl, rfl⟩
    · obtain ⟨h2, h4, h', _, hall⟩ := hb0
      have hut2 := hut
      obtain ⟨b0, g0, kc0, xs0, rfl, _⟩ := hut2
      have HL : Hid (Calls Tryz.prog 188 #[.pointer (some ⟨b0, 0, none⟩)] w fun e w' => e = .returned (.string (gt (l0.flatMap (keysR d)) 0)) ∧ w' = w) := ih l0 S b0 h' w hut hall
      clear ih hut hall hpos hb
      go_enter Tryz.func188, Tryz.ntmps188
      go_wp2_with fail
      refine HL.out.mono ?_
      rintro e w1 ⟨rfl, rfl⟩
      go_wp2
      go_ret
      exact ⟨rfl, rfl⟩

set_option maxHeartbeats 400000 in
theorem copyStrs_any (a : Option Addr) (n c : Nat) (L : List ByteArray) (w : World) (h : RdS w a n (gt L)) (hn : n = L.length) (hn2 : n ≤ 1048576) :
    Calls Tryz.prog 119 #[.slice a n c] w fun e w' => ∃ a' c', e = .returned (.slice a' n c') ∧ w'.ownsRow w.heap.size 9 1 (.slice a' n c') n (strL L) ∧ Below w.heap.size w w' := by
  have HR : Hid (RdS w a n (gt L) ∧ n = L.length) := ⟨h, hn⟩
  clear h hn
  go_enter Tryz.func119, Tryz.ntmps119
  go_wp2_with (at_builtin; refine wpList_append_strs rfl _ _ rfl w.heap.size (.slice none 0 0) 0 [] rfl (World.ownsRow_nil _ _ _ _) a n c L rfl HR.out.2 HR.out.1 (by omega) (Nat.le_refl _) ?_)
  intro v' w' ho hg hat
  have HB : Hid (Below w.heap.size w w') := (Below.refl _ _).grown hg (Nat.le_refl _) (fun k e => by simp [Value.ownBlock] at e)
  obtain ⟨a', c', rfl, _⟩ := own_form ho
  have HO : Hid (w'.ownsRow w.heap.size 9 1 (.slice a' n c') n (strL L)) := ho
  clear ho hg hat
  go_wp2
  go_ret
  exact ⟨a', c', rfl, HO.out, HB.out⟩

set_option maxHeartbeats 400000 in
theorem recountLeaf_any (b n kc : Nat) (ka : Option Addr) (x : Int) (w : World) (h : Bx w b 206 #[.int .i64 x, .slice ka n kc]) :
    Calls Tryz.prog 156 #[.pointer (some ⟨b, 0, none⟩)] w fun e w' => e = .returned (.tuple #[]) ∧ w' = w.setCell ⟨b, 0, none⟩ (.int .i64 (n : Int)) := by
  have c0 := h.cell 0
  have c1 := h.cell 1
  have f0 := h.frozen 0
  have hl := h.lt
  simp at c0 c1
  clear h
  go_enter Tryz.func156, Tryz.ntmps156
  go_wp2
  go_end0
  exact ⟨rfl, rfl⟩
end Go.Proofs.YtcnollkkigiobaaGreat
