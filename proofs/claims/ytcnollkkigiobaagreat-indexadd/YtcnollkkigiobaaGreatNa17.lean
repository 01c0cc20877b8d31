import Derived.Test.YtcnollkkigiobaaGreatNa9
import Derived.Test.YtcnollkkigiobaaGreatNa13
import Derived.Test.YtcnollkkigiobaaGreatInsL
import Derived.Test.YtcnollkkigiobaaGreatNa10
import Derived.Test.YtcnollkkigiobaaGreatNa4
import Derived.Test.YtcnollkkigiobaaGreatNa16
set_option linter.unusedVariables false
set_option maxRecDepth 100000
namespace Go.Proofs.YtcnollkkigiobaaGreat
open Go.RowKit Go.Deep

def KS (S:Nat -> Prop) (w:World) (a:Option Addr) (n c:Nat) (X:Nat -> ByteArray):Prop :=
  RdS w a n X /\ (n <= c /\ c <= 9223372036854775807) /\ (n ≠ 0 -> ∃ x,a = some x /\ S x.block /\ x.block < w.heap.size)
def NG (S:Nat -> Prop) (w:World) (d:Nat) (t:Ro d) (v:Value):Prop := NestAt (KS S w) S w d t v

theorem KS.keep {S S' : Nat -> Prop} {w w' : World} {a:Option Addr} {n c:Nat} {X:Nat -> ByteArray} (hz:w.heap.size <= w'.heap.size) (hS:∀ b,S b -> b < w.heap.size -> S' b /\ w'.heap[b]? = w.heap[b]?) (h:KS S w a n c X):KS S' w' a n c X := by
  obtain ⟨h1,h2,h3⟩ := h
  by_cases h0:n = 0
  · exact ⟨Or.inl h0,h2,fun h => absurd h0 h⟩
  · obtain ⟨x,rfl,hs,hl⟩ := h3 h0
    obtain ⟨q1,q2⟩ := hS _ hs hl
    rcases h1 with h1 | ⟨b,o,e,hc⟩
    · exact absurd h1 h0
    · injection e with e
      subst e
      exact ⟨Or.inr ⟨b,o,rfl,fun i hi => (World.cell?_of_block (a := ⟨b,o + i,none⟩) q2).trans (hc i hi)⟩,h2,fun _ => ⟨_,rfl,q1,by have:b < w.heap.size := hl; omega⟩⟩

theorem NG.keep {S S' : Nat -> Prop} {w w' : World} {d:Nat} {t:Ro d} {v:Value} (h:NG S w d t v) (hz:w.heap.size <= w'.heap.size) (hS:∀ b,S b -> b < w.heap.size -> S' b /\ w'.heap[b]? = w.heap[b]?):NG S' w' d t v :=
  NestAt.mono (fun _ _ _ _ q => q.keep hz hS) (fun b hs hl => (hS b hs hl).1) hz (fun b j hs hl => World.cell?_of_block (a := ⟨b,j,none⟩) (hS b hs hl).2) h

theorem NG.below {S:Nat -> Prop} {w w' : World} {d:Nat} {t:Ro d} {v:Value} (h:NG S w d t v) (hb:Below w.heap.size w w'):NG S w' d t v :=
  h.keep hb.size (fun b hs hl => ⟨hs,hb.block b hl⟩)
theorem NG.wide {S S' : Nat -> Prop} {w:World} {d:Nat} {t:Ro d} {v:Value} (h:NG S w d t v) (hS:∀ b,S b -> b < w.heap.size -> S' b):NG S' w d t v :=
  h.keep (Nat.le_refl _) (fun b hs hl => ⟨hS b hs hl,rfl⟩)
theorem NG.na {S:Nat -> Prop} {w:World} {d:Nat} {t:Ro d} {v:Value} (h:NG S w d t v):NA w d t v :=
  NestAt.mono (fun _ _ _ _ q => q.1) (fun _ _ _ => trivial) (Nat.le_refl _) (fun _ _ _ _ => rfl) h
theorem NAC.ng {w:World} {d:Nat} {t:Ro d} {v:Value} (h:NAC (fun n c => n <= c /\ c <= 9223372036854775807) w d t v):NG (fun b => b < w.heap.size) w d t v := by
  refine NestAt.mono (fun a n c X q => ⟨q.1,q.2,fun h0 => ?_⟩) (fun b _ hl => hl) (Nat.le_refl _) (fun _ _ _ _ => rfl) h
  rcases q.1 with q1 | ⟨b,o,rfl,hc⟩
  · exact absurd q1 h0
  · have := World.block_lt_of_cell? _ _ (hc 0 (by omega))
    exact ⟨_,rfl,this,this⟩

theorem NG.grown {S:Nat -> Prop} {w w' : World} {d:Nat} {t:Ro d} {v vk:Value} (h:NG S w d t v) (hg:w.grownBy w' vk.ownBlock) (hS:∀ b,S b -> b < w.heap.size -> vk.ownBlock ≠ some b):NG S w' d t v :=
  h.keep hg.size (fun b hs hl => ⟨hs,hg.block b hl (fun e => hS b hs hl e.symm)⟩)

theorem KidL.cat {T:Type} {P:T -> Value -> Prop} {us:List T} {ys:List Value} (hu:KidL P us ys):∀ {ts:List T} {xs:List Value},KidL P ts xs -> KidL P (ts ++ us) (xs ++ ys)
  | [],[],_ => hu
  | t :: ts,x0 :: x1 :: x2 :: xs,h => ⟨h.1,KidL.cat hu h.2⟩
  | [],x :: xs,h => h.elim
  | t :: ts,[],h => h.elim
  | t :: ts,[x0],h => h.elim
  | t :: ts,[x0,x1],h => h.elim
theorem KidL.take {T:Type} {P:T -> Value -> Prop}:∀ (k:Nat) {ts:List T} {xs:List Value},KidL P ts xs -> KidL P (ts.take k) (xs.take (k * 3))
  | 0,_,_,_ => by simp [KidL]
  | k + 1,[],[],_ => by simp [KidL]
  | k + 1,t :: ts,x0 :: x1 :: x2 :: xs,h => by
    rw [show (k + 1) * 3 = k * 3 + 3 by omega]
    exact ⟨h.1,KidL.take k h.2⟩
  | _ + 1,[],x :: xs,h => h.elim
  | _ + 1,t :: ts,[],h => h.elim
  | _ + 1,t :: ts,[x0],h => h.elim
  | _ + 1,t :: ts,[x0,x1],h => h.elim
theorem KidL.drop {T:Type} {P:T -> Value -> Prop}:∀ (k:Nat) {ts:List T} {xs:List Value},KidL P ts xs -> KidL P (ts.drop k) (xs.drop (k * 3))
  | 0,_,_,h => by simpa using h
  | k + 1,[],[],_ => by simp [KidL]
  | k + 1,t :: ts,x0 :: x1 :: x2 :: xs,h => by
    rw [show (k + 1) * 3 = k * 3 + 3 by omega]
    exact KidL.drop k h.2
  | _ + 1,[],x :: xs,h => h.elim
  | _ + 1,t :: ts,[],h => h.elim
  | _ + 1,t :: ts,[x0],h => h.elim
  | _ + 1,t :: ts,[x0,x1],h => h.elim
theorem KidL.cells {T:Type} {P:T -> Value -> Prop} (hP:∀ t x0 x1 x2,P t (.agg #[x0,x1,x2]) -> x0.oneCell' = true /\ x1.oneCell' = true /\ x2.oneCell' = true):∀ {ts:List T} {xs:List Value},KidL P ts xs -> ∀ u ∈ xs,u.oneCell' = true
  | [],[],_,u,hu => by cases hu
  | t :: ts,x0 :: x1 :: x2 :: xs,h,u,hu => by
    obtain ⟨a0,a1,a2⟩ := hP _ _ _ _ h.1
    simp only [List.mem_cons] at hu
    rcases hu with rfl | rfl | rfl | hu
    · exact a0
    · exact a1
    · exact a2
    · exact KidL.cells hP h.2 u hu
  | [],x :: xs,h,_,_ => h.elim
  | t :: ts,[],h,_,_ => h.elim
  | t :: ts,[x0],h,_,_ => h.elim
  | t :: ts,[x0,x1],h,_,_ => h.elim
theorem NG.one {S:Nat -> Prop} {w:World} {d:Nat}:∀ (t:Ro d) (x0 x1 x2:Value),NG S w d t (.agg #[x0,x1,x2]) -> x0.oneCell' = true /\ x1.oneCell' = true /\ x2.oneCell' = true := by
  intro t x0 x1 x2 h
  obtain ⟨lf,ka,kn,kc,ca,cn,cc,e⟩ := NestAt.form h
  injection e with e
  injection e with e
  injection e with e0 e
  injection e with e1 e
  injection e with e2 e
  subst e0 e1 e2
  exact ⟨rfl,rfl,rfl⟩

def RetG3 (S:Nat -> Prop) (w:World) (d:Nat) (t:Ro d) (e:Ending) (w' : World):Prop :=
  Below w.heap.size w w' /\ ∃ lf ka kn kc ca cn cc,e = .returned (.agg #[.bool lf,.slice ka kn kc,.slice ca cn cc]) /\ NG (fun b => S b \/ w.heap.size <= b) w' d t (.agg #[.bool lf,.slice ka kn kc,.slice ca cn cc])
def RetGs (S:Nat -> Prop) (w:World) (d:Nat) (ts:List (Ro d)) (e:Ending) (w' : World):Prop :=
  Below w.heap.size w w' /\ ∃ g c xs,e = .returned (.slice (some ⟨g,0,none⟩) ts.length c) /\ w.heap.size <= g /\ g < w'.heap.size /\ (ts.length <= c /\ c <= 9223372036854775807) /\ (∀ j u,xs[j]? = some u -> w'.cell? ⟨g,j,none⟩ = some u) /\ KidL (fun t v => NG (fun b => S b \/ w.heap.size <= b) w' d t v) ts xs
open Go.RowKit Go.Deep

def shZ (sz b o lo c:Nat):Option Addr := if c = lo then some ⟨b,o,none⟩ else some ⟨b,o + lo * sz,none⟩

theorem addr_add (b o k:Nat):Addr.add ⟨b,o,none⟩ k = ⟨b,o + k,none⟩ := by
  unfold Addr.add
  by_cases h:k = 0
  · subst h; simp
  · simp [h]

theorem cutS (b o n c lo hi:Nat) (h0:lo <= hi) (h1:hi <= n) (h2:n <= c) (w:World):(Instr.sliceAt 88 (.slice (some ⟨b,o,none⟩) n c) (some (.int .i64 (lo:Int))) (some (.int .i64 (hi:Int))) none).run Tryz.prog w = .ok (.slice (shZ 1 b o lo c) (hi - lo) (c - lo)) w := by
  have hc:hi <= c := by omega
  simp [Instr.sliceAt,Instr.slice,go_sem,shZ,addr_add,hc,h0]

theorem fromS (a:Option Addr) (n c lo:Nat) (h1:lo <= n) (h2:n <= c) (w:World):(Instr.sliceAt 88 (.slice a n c) (some (.int .i64 (lo:Int))) none none).run Tryz.prog w = .ok (.slice (if c = lo then a else a.map fun x => x.add lo) (n - lo) (c - lo)) w := by
  simp [Instr.sliceAt,Instr.slice,go_sem]
  intro h
  omega

theorem cutK (b o n c lo hi:Nat) (h0:lo <= hi) (h1:hi <= n) (h2:n <= c) (w:World):(Instr.sliceAt 89 (.slice (some ⟨b,o,none⟩) n c) (some (.int .i64 (lo:Int))) (some (.int .i64 (hi:Int))) none).run Tryz.prog w = .ok (.slice (shZ 3 b o lo c) (hi - lo) (c - lo)) w := by
  have hc:hi <= c := by omega
  simp [Instr.sliceAt,Instr.slice,go_sem,shZ,addr_add,hc,h0]

theorem uptoK (b o n c hi:Nat) (h1:hi <= n) (h2:n <= c) (w:World):(Instr.sliceAt 89 (.slice (some ⟨b,o,none⟩) n c) none (some (.int .i64 (hi:Int))) none).run Tryz.prog w = .ok (.slice (some ⟨b,o,none⟩) hi c) w := by
  simp [Instr.sliceAt,Instr.slice,go_sem]
  intro h
  omega

theorem fromK (b o n c lo:Nat) (h1:lo <= n) (h2:n <= c) (w:World):(Instr.sliceAt 89 (.slice (some ⟨b,o,none⟩) n c) (some (.int .i64 (lo:Int))) none none).run Tryz.prog w = .ok (.slice (shZ 3 b o lo c) (n - lo) (c - lo)) w := by
  simp [Instr.sliceAt,Instr.slice,go_sem,shZ,addr_add,h1]
open Go.RowKit Go.Deep

theorem rdS_cut {w:World} {b o n c lo hi:Nat} {L:List ByteArray} (h:RdS w (some ⟨b,o,none⟩) n (gt L)) (hn:n = L.length) (h0:lo < hi) (h1:hi <= n) (h2:n <= c):RdS w (shZ 1 b o lo c) (hi - lo) (gt ((L.take hi).drop lo)) := by
  rcases h with h | ⟨b',o',e,hc⟩
  · exact absurd h (by omega)
  · injection e with e
    injection e with e1 e2
    subst e1 e2
    refine Or.inr ⟨b,o + lo,by unfold shZ; rw [if_neg (by omega),Nat.mul_one],fun i hi' => ?_⟩
    have := hc (lo + i) (by omega)
    rw [show o + lo + i = o + (lo + i) by omega,this]
    congr 2
    unfold gt
    rw [List.getD_eq_getElem?_getD,List.getD_eq_getElem?_getD,List.getElem?_drop,List.getElem?_take,if_pos (by omega)]

theorem set3_block (w:World) (r:Nat) (v0 v1 v2:Value) (b:Nat) (h:b ≠ r):(((w.setCell ⟨r,0,none⟩ v0).setCell ⟨r,1,none⟩ v1).setCell ⟨r,2,none⟩ v2).heap[b]? = w.heap[b]? := by
  rw [Below.heap_setCell _ _ _ _ h,Below.heap_setCell _ _ _ _ h,Below.heap_setCell _ _ _ _ h]
theorem set3_size (w:World) (r:Nat) (v0 v1 v2:Value):(((w.setCell ⟨r,0,none⟩ v0).setCell ⟨r,1,none⟩ v1).setCell ⟨r,2,none⟩ v2).heap.size = w.heap.size := by simp [World.setCell]
theorem set3_below {B:Nat} {w0 w:World} (h:Below B w0 w) (r:Nat) (hr:B <= r) (v0 v1 v2:Value):Below B w0 (((w.setCell ⟨r,0,none⟩ v0).setCell ⟨r,1,none⟩ v1).setCell ⟨r,2,none⟩ v2) :=
  ((h.setCell (by simpa using hr) _).setCell (by simpa using hr) _).setCell (by simpa using hr) _

theorem ks_own {S:Nat -> Prop} {w:World} {B c:Nat} {a:Option Addr} {L:List ByteArray} (h:OwnS w B a L.length (gt L)) (hc:L.length <= c /\ c <= 9223372036854775807) (hS:∀ b,B <= b -> S b):KS S w a L.length c (gt L) := by
  refine ⟨h.rd,hc,fun h0 => ?_⟩
  rcases h with h | ⟨g,rfl,hg,hr⟩
  · exact absurd h h0
  · exact ⟨_,rfl,hS _ hg,hr.lt⟩

set_option maxHeartbeats 1000000 in
theorem part_leaf (d:Nat) (L:List ByteArray) (v:Value) (lo hi:Nat) (S:Nat -> Prop) (w:World) (hv:NG S w (d + 1) (.inl L) v) (h0:lo < hi) (h1:hi <= L.length) (hL:L.length <= 1000) :
    Calls Tryz.prog 124 #[v,.int .i64 (lo:Int),.int .i64 (hi:Int)] w (RetG3 S w (d + 1) (.inl ((L.take hi).drop lo))) := by
  obtain ⟨ka,kc,ca,cc,rfl,hrd,hcap,hblk⟩ := hv
  obtain ⟨⟨b,o,x⟩,rfl,hs,hbl⟩ := hblk (by omega)
  obtain rfl:x = none := by
    rcases hrd with h | ⟨b',o',e,_⟩
    · exact absurd h (by omega)
    · injection e with e
      injection e
  obtain ⟨n,hn⟩:∃ n,n = L.length := ⟨_,rfl⟩
  rw [<- hn] at hrd hcap h1 hL ⊢
  have HR:Hid (RdS w (shZ 1 b o lo kc) (hi - lo) (gt ((L.take hi).drop lo))) := rdS_cut hrd hn h0 h1 hcap.1
  have HLen:Hid (hi - lo = ((L.take hi).drop lo).length) := by show _ = _; rw [List.length_drop,List.length_take]; omega
  have hsl:∀ W:World,(Instr.sliceAt 88 (.slice (some ⟨b,o,none⟩) n kc) (some (.int .i64 (lo:Int))) (some (.int .i64 (hi:Int))) none).run Tryz.prog W = .ok (.slice (shZ 1 b o lo kc) (hi - lo) (kc - lo)) W := cutS b o n kc lo hi (by omega) h1 hcap.1
  have HO:Hid (∀ O1 O2:Obj,(((w.alloc O1).alloc O2).alloc (.cells #[] 9)).ownsRow (w.heap.size + 2) 9 1 (.slice (some ⟨w.heap.size + 2,0,none⟩) 0 0) 0 []) := fun O1 O2 => by simpa using own_empty ((w.alloc O1).alloc O2) 9 (w.heap.size + 2) 1 (by simp)
  have HB3:Hid (∀ O1 O2 O3:Obj,Below w.heap.size w (((w.alloc O1).alloc O2).alloc O3)) := fun _ _ _ => ((below_alloc _ _).alloc (by simp) _).alloc (by simp; omega) _
  have hlen:hi - lo <= 1000 := by omega
  clear hrd hn hblk hs hbl h0 h1 hcap
  go_enter Tryz.func124,Tryz.ntmps124
  go_wp2_with (at_builtin; refine wpList_append_strs rfl _ _ rfl (w.heap.size + 2) (.slice (some ⟨w.heap.size + 2,0,none⟩) 0 0) 0 [] rfl (HO.out _ _) (shZ 1 b o lo kc) (hi - lo) (kc - lo) _ rfl HLen.out (HR.out.below (HB3.out _ _ _)) (by omega) (by simp) ?_)
  intro v' w' ho hg hat
  have HB:Hid (Below w.heap.size w w') := ((HB3.out _ _ _).grown hg (by simp; omega) (fun k e => by simp [Value.ownBlock] at e; omega))
  have hz:w.heap.size + 3 <= w'.heap.size := by have := hg.size; simpa using this
  have hbx:Bx w' (w.heap.size + 1) 91 #[.bool false,.slice none 0 0,.slice none 0 0] := by
    have q := (Bx.new (w.alloc (.cells #[.bool true,.slice (some ⟨b,o,none⟩) n kc,.slice ca 0 cc] 91)) #[.bool false,.slice none 0 0,.slice none 0 0] 91).alloc (.cells #[] 9)
    simp only [World.size_alloc] at q
    exact q.of_block (hg.block _ q.lt (by simp [Value.ownBlock]))
  obtain ⟨a',c',rfl,h1,h2,h3⟩ := ownS_strL ho HLen.out
  have HK:Hid (KS (fun b => w.heap.size + 2 <= b) w' a' ((L.take hi).drop lo).length c' (gt ((L.take hi).drop lo))) := ks_own h1 ⟨by rw [<- HLen.out]; exact h2,h3⟩ (fun b hb => hb)
  have r0 := hbx.cell 0
  have r1 := hbx.cell 1
  have r2 := hbx.cell 2
  simp at r0 r1 r2
  have hf := fun i => hbx.frozen i
  clear ho hg hat h1 hbx
  go_wp2
  refine bodyPost_ret (v := .agg #[.bool true,.slice a' (hi - lo) c',.slice none 0 0]) (by simp [results,Tryz.results124,go_sem,r0,r1,r2]) rfl ⟨set3_below HB.out _ (by omega) _ _ _,_,_,_,_,_,_,_,rfl,a',c',none,0,by rw [HLen.out],?_⟩
  exact HK.out.keep (by rw [set3_size]; exact Nat.le_refl _) (fun b hb _ => ⟨Or.inr (by omega),set3_block _ _ _ _ _ _ (by omega)⟩)

set_option maxHeartbeats 1000000 in
theorem part_inner (d:Nat) (l:List (Ro d)) (v:Value) (lo hi:Nat) (S:Nat -> Prop) (w:World) (hv:NG S w (d + 1) (.inr l) v) (h0:lo < hi) (h1:hi <= l.length) (hL:l.length <= 1000) :
    Calls Tryz.prog 124 #[v,.int .i64 (lo:Int),.int .i64 (hi:Int)] w (RetG3 S w (d + 1) (.inr ((l.take hi).drop lo))) := by
  obtain ⟨ka,kc,b,cc,xs,rfl,⟨hs,hcap⟩,hb,hl,hx,hk⟩ := hv
  obtain ⟨n,hn⟩:∃ n,n = l.length := ⟨_,rfl⟩
  have HLx:Hid (xs.length = n * 3) := by have := hk.len; rw [<- hn] at this; exact this
  rw [<- hn] at hcap h1 hL hl ⊢
  have HKid:Hid (KidL (fun t v => NG S w d t v) ((l.take hi).drop lo) ((xs.take (hi * 3)).drop (lo * 3))) := (KidL.take hi hk).drop lo
  have HLen:Hid (hi - lo = ((l.take hi).drop lo).length) := by show _ = _; rw [List.length_drop,List.length_take]; omega
  have HC:Hid (∀ j u,((xs.take (hi * 3)).drop (lo * 3))[j]? = some u -> w.cell? ⟨b,lo * 3 + j,none⟩ = some u) := by
    intro j u hj
    rw [List.getElem?_drop,List.getElem?_take] at hj
    split at hj
    · exact hx _ _ hj
    · cases hj
  have HLy:Hid (((xs.take (hi * 3)).drop (lo * 3)).length = (hi - lo) * 3) := by
    show _ = _
    rw [List.length_drop,List.length_take,HLx.out]
    omega
  have HOne:Hid (∀ u ∈ ((xs.take (hi * 3)).drop (lo * 3)),u.oneCell' = true) := HKid.out.cells NG.one
  have hsl:∀ W:World,(Instr.sliceAt 89 (.slice (some ⟨b,0,none⟩) n cc) (some (.int .i64 (lo:Int))) (some (.int .i64 (hi:Int))) none).run Tryz.prog W = .ok (.slice (some ⟨b,lo * 3,none⟩) (hi - lo) (cc - lo)) W := by
    intro W
    have := cutK b 0 n cc lo hi (by omega) h1 hcap.1 W
    unfold shZ at this
    rw [if_neg (by omega),Nat.zero_add] at this
    exact this
  have HO:Hid (∀ O1 O2:Obj,(((w.alloc O1).alloc O2).alloc (.cells #[] 91)).ownsRow (w.heap.size + 2) 91 3 (.slice (some ⟨w.heap.size + 2,0,none⟩) 0 0) 0 []) := fun O1 O2 => by simpa using own_empty ((w.alloc O1).alloc O2) 91 (w.heap.size + 2) 3 (by simp)
  have HB3:Hid (∀ O1 O2 O3:Obj,Below w.heap.size w (((w.alloc O1).alloc O2).alloc O3)) := fun _ _ _ => ((below_alloc _ _).alloc (by simp) _).alloc (by simp; omega) _
  have HBl:Hid (S b /\ b < w.heap.size) := ⟨hs,hb⟩
  have hlen:hi - lo <= 1000 := by omega
  have hlen0:0 < hi - lo := by omega
  generalize hys:(xs.take (hi * 3)).drop (lo * 3) = ys at HKid HC HLy HOne
  obtain ⟨i0,hi0,hz0,hz1,hz2⟩ := info_parts Tryz.info91
  have HI:Hid (Tryz.prog.info? 91 = some i0 /\ i0.zero = some (.agg #[.bool false,.slice none 0 0,.slice none 0 0]) /\ i0.size = 3 /\ i0.bytes = 56) := ⟨hi0,hz0,hz1,hz2⟩
  clear hx hk hn hs hb h0 h1 hcap hi0 hz0 hz1 hz2 HLx hys
  go_enter Tryz.func124,Tryz.ntmps124
  go_wp2_with (at_builtin; refine wpList_append_own_at _ rfl _ _ 89 rfl (w.heap.size + 2) 91 i0 _ 3 56 Tryz.underlying89 HI.out.1 HI.out.2.1 HI.out.2.2.1 HI.out.2.2.2 rfl (by decide) (.slice (some ⟨w.heap.size + 2,0,none⟩) 0 0) 0 [] rfl (HO.out _ _) ⟨b,lo * 3,none⟩ (hi - lo) (cc - lo) ys rfl HLy.out (fun j u hj => by rw [addr_add]; exact ((HB3.out _ _ _).cell (p := ⟨b,_,none⟩) HBl.out.2).trans (HC.out j u hj)) HOne.out (by unfold maxLen; omega) (by omega) (by simp) ?_)
  intro v' w' ho hg _ hat
  have HB:Hid (Below w.heap.size w w') := ((HB3.out _ _ _).grown hg (by simp; omega) (fun k e => by simp [Value.ownBlock] at e; omega))
  have hz:w.heap.size + 3 <= w'.heap.size := by have := hg.size; simpa using this
  have hbx:Bx w' (w.heap.size + 1) 91 #[.bool false,.slice none 0 0,.slice none 0 0] := by
    have q := (Bx.new (w.alloc (.cells #[.bool false,.slice ka 0 kc,.slice (some ⟨b,0,none⟩) n cc] 91)) #[.bool false,.slice none 0 0,.slice none 0 0] 91).alloc (.cells #[] 91)
    simp only [World.size_alloc] at q
    exact q.of_block (hg.block _ q.lt (by simp [Value.ownBlock]))
  obtain ⟨a',c',rfl,hf'⟩ := own_form ho
  have hcap := own_cap ho
  obtain ⟨g,rfl,hg1,hg2,hg3⟩ := hf' (by omega)
  have HG:Hid ((w.heap.size + 2 <= g /\ g < w'.heap.size) /\ (∀ j u,ys[j]? = some u -> w'.cell? ⟨g,j,none⟩ = some u) /\ (hi - lo <= c' /\ c' <= 9223372036854775807)) := ⟨⟨hg1,hg2⟩,hg3,hcap⟩
  have r0 := hbx.cell 0
  have r1 := hbx.cell 1
  have r2 := hbx.cell 2
  simp at r0 r1 r2
  have hf := fun i => hbx.frozen i
  clear ho hg hat hbx hg1 hg2 hg3 hcap
  go_wp2
  refine bodyPost_ret (v := .agg #[.bool false,.slice none 0 0,.slice (some ⟨g,0,none⟩) (hi - lo) c']) (by simp [results,Tryz.results124,go_sem,r0,r1,r2]) rfl ⟨set3_below HB.out _ (by omega) _ _ _,_,_,_,_,_,_,_,rfl,none,0,g,c',ys,by rw [HLen.out],⟨Or.inr (by have := HG.out.1; omega),by rw [<- HLen.out]; exact HG.out.2.2⟩,by rw [set3_size]; exact HG.out.1.2,by rw [<- HLen.out]; exact hlen0,fun j u hj => ?_,HKid.out.mono (fun t v q => ?_)⟩
  · have := HG.out.1
    rw [World.cell?_of_block (a := ⟨g,j,none⟩) (set3_block _ _ _ _ _ _ (show g ≠ w.heap.size + 1 by omega))]
    exact HG.out.2.1 j u hj
  · refine q.keep (by rw [set3_size]; exact HB.out.size) (fun b hs hl => ⟨Or.inl hs,(set3_block _ _ _ _ _ _ (by omega)).trans (HB.out.block b hl)⟩)
open Go.RowKit Go.Deep

def sizR {d:Nat}:Ro (d + 1) -> Nat
  | .inl L => L.length
  | .inr l => l.length
def cutR {d:Nat} (lo hi:Nat):Ro (d + 1) -> Ro (d + 1)
  | .inl L => .inl ((L.take hi).drop lo)
  | .inr l => .inr ((l.take hi).drop lo)
def splR {d:Nat}:Ro (d + 1) -> List (Ro (d + 1))
  | .inl L => (splL L).map Sum.inl
  | .inr l => (splL l).map Sum.inr
theorem splR_one {d:Nat} {t:Ro (d + 1)} (h:sizR t <= 4):splR t = [t] := by
  match t,h with
  | .inl L,h => show (splL L).map Sum.inl = _; rw [splL_one h]; rfl
  | .inr l,h => show (splL l).map Sum.inr = _; rw [splL_one h]; rfl
theorem splR_two {d:Nat} {t:Ro (d + 1)} (h:sizR t = 5):splR t = [cutR 0 3 t,cutR 3 5 t] := by
  match t,h with
  | .inl L,h =>
    have h5:L.length = 5 := h
    show (splL L).map Sum.inl = [Sum.inl _,Sum.inl _]
    rw [splL_two (by omega),List.drop_zero,List.take_of_length_le (by omega:L.length <= 5)]
    rfl
  | .inr l,h =>
    have h5:l.length = 5 := h
    show (splL l).map Sum.inr = [Sum.inr _,Sum.inr _]
    rw [splL_two (by omega),List.drop_zero,List.take_of_length_le (by omega:l.length <= 5)]
    rfl

theorem part_any (d:Nat) (t:Ro (d + 1)) (v:Value) (lo hi:Nat) (S:Nat -> Prop) (w:World) (hv:NG S w (d + 1) t v) (h0:lo < hi) (h1:hi <= sizR t) (hL:sizR t <= 1000) :
    Calls Tryz.prog 124 #[v,.int .i64 (lo:Int),.int .i64 (hi:Int)] w (RetG3 S w (d + 1) (cutR lo hi t)) := by
  match t,hv,h1,hL with
  | .inl L,hv,h1,hL => exact part_leaf d L v lo hi S w hv h0 h1 hL
  | .inr l,hv,h1,hL => exact part_inner d l v lo hi S w hv h0 h1 hL

theorem NG.size {S:Nat -> Prop} {w:World} {d:Nat} {t:Ro (d + 1)} {lf:Bool} {ka ca:Option Addr} {kn kc cn cc:Nat} (h:NG S w (d + 1) t (.agg #[.bool lf,.slice ka kn kc,.slice ca cn cc])):(if lf then kn else cn) = sizR t := by
  match t,h with
  | .inl L,h =>
    obtain ⟨_,_,_,_,e,_⟩ := h
    injection e with e
    injection e with e
    injection e with e0 e
    injection e with e1 e
    injection e0 with e0
    injection e1 with _ e1
    subst e0
    exact e1
  | .inr l,h =>
    obtain ⟨_,_,_,_,_,e,_⟩ := h
    injection e with e
    injection e with e
    injection e with e0 e
    injection e with e1 e
    injection e with e2 e
    injection e0 with e0
    injection e2 with _ e2
    subst e0
    exact e2

set_option maxHeartbeats 2000000 in
theorem split_any (d:Nat) (t:Ro (d + 1)) (v:Value) (S:Nat -> Prop) (w:World) (hv:NG S w (d + 1) t v) (hL:sizR t <= 5) :
    Calls Tryz.prog 114 #[v] w (RetGs S w (d + 1) (splR t)) := by
  obtain ⟨lf,ka,kn,kc,ca,cn,cc,rfl⟩ := NestAt.form hv
  have hsz := hv.size
  have HV:Hid (NG S w (d + 1) t (.agg #[.bool lf,.slice ka kn kc,.slice ca cn cc])) := hv
  obtain ⟨m,hm⟩:∃ m,m = sizR t := ⟨_,rfl⟩
  have HS:Hid (∀ W:World,Calls Tryz.prog 122 #[.agg #[.bool lf,.slice ka kn kc,.slice ca cn cc]] W fun e w' => e = .returned (.int .i64 (m:Int)) /\ Below W.heap.size W w') := fun W => (size_any lf ka ca kn kc cn cc W).mono (fun e w' h => ⟨by
    rw [h.1,hm,<- hsz]
    cases lf <;> rfl,h.2⟩)
  have HM:Hid (m = sizR t) := hm
  rw [<- hm] at hL
  clear hv hsz hm
  by_cases h4:m <= 4
  · have h4' : (m:Int) <= 4 := by omega
    have h4d:decide ((m:Int) <= 4) = true := decide_eq_true h4'
    rw [splR_one (by rw [<- HM.out]; exact h4)]
    go_enter Tryz.func114,Tryz.ntmps114
    go_wp2_with fail
    refine (HS.out _).mono ?_
    rintro e w1 ⟨rfl,hb1⟩
    have hb2:Below w.heap.size w w1 := (below_alloc _ _).trans (hb1.mono (by simp))
    have hbx := (Bx.new w #[.bool lf,.slice ka kn kc,.slice ca cn cc] 91).below hb1
    have r0 := hbx.cell 0
    have r1 := hbx.cell 1
    have r2 := hbx.cell 2
    simp at r0 r1 r2
    have HB2:Hid (Below w.heap.size w w1) := hb2
    clear hb1 hb2 hbx
    go_wp2
    go_ret
    refine ⟨HB2.out.alloc HB2.out.size _,w1.heap.size,1,[.bool lf,.slice ka kn kc,.slice ca cn cc],rfl,HB2.out.size,by simp,by simp,fun j u hj => ?_,?_,trivial⟩
    · have := (Bx.new w1 #[.bool lf,.slice ka kn kc,.slice ca cn cc] 91).cell j
      rw [this]
      simpa using hj
    · exact ((HV.out.below HB2.out).below (below_alloc _ _)).wide (fun b hs _ => Or.inl hs)
  · have h5:m = 5 := by omega
    subst h5
    have h4d:decide ((5:Int) <= 4) = false := by decide
    rw [splR_two HM.out.symm]
    have HP1:Hid (∀ (W:World),Below w.heap.size w W -> Calls Tryz.prog 124 #[.agg #[.bool lf,.slice ka kn kc,.slice ca cn cc],.int .i64 0,.int .i64 3] W (RetG3 S W (d + 1) (cutR 0 3 t))) := fun W hW => part_any d t _ 0 3 S W (HV.out.below hW) (by omega) (by rw [<- HM.out]; omega) (by rw [<- HM.out]; omega)
    have HP2:Hid (∀ (W:World),Below w.heap.size w W -> Calls Tryz.prog 124 #[.agg #[.bool lf,.slice ka kn kc,.slice ca cn cc],.int .i64 3,.int .i64 5] W (RetG3 S W (d + 1) (cutR 3 5 t))) := fun W hW => part_any d t _ 3 5 S W (HV.out.below hW) (by omega) (by rw [<- HM.out]; omega) (by rw [<- HM.out]; omega)
    go_enter Tryz.func114,Tryz.ntmps114
    go_wp2_with fail
    refine (HS.out _).mono ?_
    rintro e w1 ⟨rfl,hb1⟩
    have hb2:Below w.heap.size w w1 := (below_alloc _ _).trans (hb1.mono (by simp))
    have hbx := (Bx.new w #[.bool lf,.slice ka kn kc,.slice ca cn cc] 91).below hb1
    have r0 := hbx.cell 0
    have r1 := hbx.cell 1
    have r2 := hbx.cell 2
    simp at r0 r1 r2
    have hzw:w.heap.size < w1.heap.size := hbx.lt
    have HB2:Hid (Below w.heap.size w w1) := hb2
    have HB3:Hid (∀ W,Below w1.heap.size w1 W -> Below w.heap.size w W /\ W.cell? ⟨w.heap.size,0,none⟩ = some (.bool lf) /\ W.cell? ⟨w.heap.size,1,none⟩ = some (.slice ka kn kc) /\ W.cell? ⟨w.heap.size,2,none⟩ = some (.slice ca cn cc)) := fun W hW => ⟨hb2.trans (hW.mono hb2.size),(hW.cell (p := ⟨w.heap.size,0,none⟩) hzw).trans r0,(hW.cell (p := ⟨w.heap.size,1,none⟩) hzw).trans r1,(hW.cell (p := ⟨w.heap.size,2,none⟩) hzw).trans r2⟩
    have HP1a:Hid (Calls Tryz.prog 124 #[.agg #[.bool lf,.slice ka kn kc,.slice ca cn cc],.int .i64 0,.int .i64 3] w1.drew (RetG3 S w1.drew (d + 1) (cutR 0 3 t))) := HP1.out w1.drew (HB3.out _ (Below.refl _ _).drew).1
    have HP2a:Hid (Calls Tryz.prog 124 #[.agg #[.bool lf,.slice ka kn kc,.slice ca cn cc],.int .i64 3,.int .i64 5] w1.drew (RetG3 S w1.drew (d + 1) (cutR 3 5 t))) := HP2.out w1.drew (HB3.out _ (Below.refl _ _).drew).1
    clear hb1 hb2 hbx
    go_upto_region 3 with fail
    go_region_held3 (fun w' => w'.cell? ⟨w.heap.size,0,none⟩ = some (.bool lf) /\ w'.cell? ⟨w.heap.size,1,none⟩ = some (.slice ka kn kc) /\ w'.cell? ⟨w.heap.size,2,none⟩ = some (.slice ca cn cc)) (go_keep) (first
      | (go_at_call 124; (with_reducible refine HP1a.out.mono ?_); rintro e wa ⟨hba,lfa,kaa,kna,kca,caa,cna,cca,rfl,hga⟩; obtain ⟨ba,q0,q1,q2⟩ := HB3.out wa (below_undrew hba))
      | (go_at_call 124; (with_reducible refine HP2a.out.mono ?_); rintro e wb ⟨hbb,lfb,kab,knb,kcb,cab,cnb,ccb,rfl,hgb⟩; obtain ⟨bb,q0,q1,q2⟩ := HB3.out wb (below_undrew hbb))
      | (go_at_call 124; (with_reducible refine (HP1.out wb bb).mono ?_); rintro e wa ⟨hba,lfa,kaa,kna,kca,caa,cna,cca,rfl,hga⟩; obtain ⟨ba,q0,q1,q2⟩ := HB3.out wa ((below_undrew hbb).trans (hba.mono (below_undrew hbb).size)))
      | (go_at_call 124; (with_reducible refine (HP2.out wa ba).mono ?_); rintro e wb ⟨hbb,lfb,kab,knb,kcb,cab,cnb,ccb,rfl,hgb⟩; obtain ⟨bb,q0,q1,q2⟩ := HB3.out wb ((below_undrew hba).trans (hbb.mono (below_undrew hba).size))))
    have HE:Hid (NG (fun b => S b \/ w.heap.size <= b) wb (d + 1) (cutR 0 3 t) (.agg #[.bool lfa,.slice kaa kna kca,.slice caa cna cca]) /\ NG (fun b => S b \/ w.heap.size <= b) wb (d + 1) (cutR 3 5 t) (.agg #[.bool lfb,.slice kab knb kcb,.slice cab cnb ccb]) /\ Below w.heap.size w wb) := by
      refine ⟨(hga.wide (fun b hs _ => ?_)).below hbb,hgb.wide (fun b hs _ => ?_),bb⟩
      · rcases hs with hs | hs
        · exact Or.inl hs
        · exact Or.inr (by have h1 := HB2.out.size; have h2:w1.heap.size <= b := hs; omega)
      · rcases hs with hs | hs
        · exact Or.inl hs
        · exact Or.inr (by have := ba.size; omega)
    clear hga hgb hba hbb ba bb HP1a HP2a HP1 HP2 HB3 q0 q1 q2
    go_wp2
    go_ret
    refine ⟨HE.out.2.2.alloc HE.out.2.2.size _,wb.heap.size,2,[.bool lfa,.slice kaa kna kca,.slice caa cna cca,.bool lfb,.slice kab knb kcb,.slice cab cnb ccb],rfl,HE.out.2.2.size,by simp,by simp,fun j u hj => ?_,HE.out.1.below (below_alloc _ _),HE.out.2.1.below (below_alloc _ _),trivial⟩
    have := (Bx.new wb #[.bool lfa,.slice kaa kna kca,.slice caa cna cca,.bool lfb,.slice kab knb kcb,.slice cab cnb ccb] 91).cell j
    rw [this]
    simpa using hj
open Go.RowKit Go.Deep

theorem row_sets {g:Nat} {t:TypeId}:∀ (vs:List Value) (o:Nat) (w:World) (cur:Array Value),w.heap[g]? = some (.cells cur t (0,0)) -> o + vs.length <= cur.size -> ∃ cur' : Array Value,(w.setCells g o vs).heap[g]? = some (.cells cur' t (0,0)) /\ cur'.size = cur.size /\ ∀ j,cur'[j]? = if o <= j /\ j < o + vs.length then vs[j - o]? else cur[j]?
  | [],o,w,cur,h,hl => ⟨cur,h,rfl,fun j => by rw [if_neg (by simp)]⟩
  | v :: r,o,w,cur,h,hl => by
    rw [List.length_cons] at hl
    have h1:(w.setCell ⟨g,o,none⟩ v).heap[g]? = some (.cells (cur.setIfInBounds o v) t (0,0)) := by
      simp [World.setCell,Array.getElem?_modify,h]
    obtain ⟨cur',e1,e2,e3⟩ := row_sets r (o + 1) (w.setCell ⟨g,o,none⟩ v) (cur.setIfInBounds o v) h1 (by simp; omega)
    refine ⟨cur',e1,by rw [e2]; simp,fun j => ?_⟩
    rw [e3 j,List.length_cons]
    by_cases q:o + 1 <= j /\ j < o + 1 + r.length
    · rw [if_pos q,if_pos (by omega),show j - o = (j - (o + 1)) + 1 by omega,List.getElem?_cons_succ]
    · rw [if_neg q,Array.getElem?_setIfInBounds]
      by_cases e:o = j
      · subst e
        rw [if_pos rfl,if_pos (by omega),if_pos (by omega)]
        simp
      · rw [if_neg e,if_neg (by omega)]

theorem grown_sets (g:Nat):∀ (vs:List Value) (o:Nat) (w:World),w.grownBy (w.setCells g o vs) (some g)
  | [],o,w => grown_refl _ _
  | v :: r,o,w => grown_trans (grown_set _ _ _ _) (grown_sets g r (o + 1) _)
theorem grown_drew (w:World) (r:Option Nat):w.grownBy w.drew r := grown_below (Below.refl _ _).drew

def RetIns (B:Nat) (w0 w:World) (a:Option Addr) (L:List ByteArray) (e:Ending) (w' : World):Prop :=
  ∃ a' c',e = .returned (.slice a' L.length c') /\ w'.ownsRow B 9 1 (.slice a' L.length c') L.length (strL L) /\ w.grownBy w' (a.map (·.block)) /\ (a' = a \/ ∃ g,a' = some ⟨g,0,none⟩ /\ w0.heap.size < g)

theorem strL_one (L:List ByteArray):∀ v ∈ strL L,v.oneCell' = true := by
  intro v hv
  unfold strL at hv
  obtain ⟨x,_,rfl⟩ := List.mem_map.1 hv
  rfl
theorem row_of (w:World) (g c n:Nat) (cur:Array Value) (L:List ByteArray) (hg:w.heap[g]? = some (.cells cur 9 (0,0))) (hs:cur.size = c) (hn:n = L.length) (hnc:n <= c) (hc:∀ j,j < n -> cur[j]? = some (.string (gt L j))):cur.toList.take n = strL L := by
  apply List.ext_getElem?
  intro j
  rw [List.getElem?_take]
  by_cases h:j < n
  · rw [if_pos h,Array.getElem?_toList,hc j h,strL_get L j (by omega)]
  · rw [if_neg h]
    symm
    rw [List.getElem?_eq_none_iff,strL_length]
    omega

theorem gt_ins (L:List ByteArray) (key:ByteArray) (i:Nat) (hi:i <= L.length) (j:Nat) (hj:j < L.length + 1):gt (L.take i ++ key :: L.drop i) j = if j < i then gt L j else if j = i then key else gt L (j - 1) := by
  unfold gt
  rw [List.getD_eq_getElem?_getD]
  have hl:(L.take i).length = i := by rw [List.length_take]; omega
  by_cases h1:j < i
  · rw [if_pos h1,List.getElem?_append_left (by omega),List.getElem?_take,if_pos h1,List.getD_eq_getElem?_getD]
  · rw [if_neg h1,List.getElem?_append_right (by omega),hl]
    by_cases h2:j = i
    · subst h2; simp
    · rw [if_neg h2,show j - i = (j - i - 1) + 1 by omega,List.getElem?_cons_succ,List.getElem?_drop,List.getD_eq_getElem?_getD,show i + (j - i - 1) = j - 1 by omega]

theorem retIns_of {B n cap g:Nat} {w0 W w' : World} {a:Option Addr} {L' : List ByteArray} {cur:Array Value} (hl:L'.length = n + 1) (hg:w'.heap[g]? = some (.cells cur 9 (0,0))) (hs:cur.size = cap) (hn:n + 1 <= cap) (hm:cap <= maxLen) (hB:B <= g) (hc:∀ j,j < n + 1 -> cur[j]? = some (.string (gt L' j))) (hgr:W.grownBy w' (a.map (·.block))) (ha:some ⟨g,0,none⟩ = a \/ w0.heap.size < g) :
    RetIns B w0 W a L' (.returned (.slice (some ⟨g,0,none⟩) (n + 1) cap)) w' := by
  unfold RetIns
  rw [hl]
  refine ⟨_,_,rfl,⟨by rw [strL_length,hl]; omega,.inr ⟨g,cap,cur,rfl,hB,hg,hn,hm,by omega,?_⟩⟩,hgr,?_⟩
  · rw [Nat.mul_one]
    exact row_of w' g cap (n + 1) cur L' hg hs hl.symm hn hc
  · rcases ha with h | h
    · exact .inl h
    · exact .inr ⟨g,rfl,h⟩

set_option maxHeartbeats 2000000 in
theorem insS_any (B n c i:Nat) (a:Option Addr) (L:List ByteArray) (key:ByteArray) (w:World) (h:w.ownsRow B 9 1 (.slice a n c) n (strL L)) (hn:n = L.length) (hi:i <= n) (hB:B <= w.heap.size) (hn2:n <= 1048576) :
    Calls Tryz.prog 212 #[.slice a n c,.int .i64 (i:Int),.slice (some ⟨w.heap.size,0,none⟩) 1 1] (w.alloc (.cells #[.string key] 9)) (RetIns B w (w.alloc (.cells #[.string key] 9)) a (L.take i ++ key :: L.drop i)) := by
  have hlen:(L.take i ++ key :: L.drop i).length = n + 1 := by
    rw [List.length_append,List.length_cons,List.length_take,List.length_drop]
    omega
  have hgt:∀ j,j < n + 1 -> gt (L.take i ++ key :: L.drop i) j = if j < i then gt L j else if j = i then key else gt L (j - 1) := fun j hj => gt_ins L key i (by omega) j (by omega)
  have h1:(w.alloc (.cells #[.string key] 9)).ownsRow B 9 1 (.slice a n c) n (strL L) := h.alloc _
  have hv:∀ j v,[Value.string key][j]? = some v -> (w.alloc (.cells #[.string key] 9)).cell? ⟨w.heap.size,0 + j,none⟩ = some v := fun j v hj => by
    have e:j = 0 := by
      rcases j with _ | j
      · rfl
      · simp at hj
    subst e
    simpa using hj
  have hsz:(w.alloc (.cells #[.string key] 9)).heap.size = w.heap.size + 1 := by simp
  have hz0:(w.alloc (.cells #[.string key] 9)).heap[w.heap.size]? = some (.cells #[.string key] 9 (0,0)) := heap_alloc_new w _
  have hgl:∀ g,a = some ⟨g,0,none⟩ -> g < w.heap.size := fun g e => (own_lt h g (by rw [e]; rfl)).2
  obtain ⟨W,hWe⟩:∃ W,W = w.alloc (.cells #[.string key] 9) := ⟨_,rfl⟩
  rw [<- hWe] at h1 hv hsz hz0 ⊢
  generalize hL' : L.take i ++ key :: L.drop i = L' at hlen hgt ⊢
  have hsl:(strL L).length = n := by rw [strL_length]; exact hn.symm
  have hone1:∀ v ∈ [Value.string key],v.oneCell' = true := by intro v hv; simp at hv; subst hv; rfl
  have hmx:∀ old,grownCap W (n + 1) old 9 <= maxLen := fun old => grownCap_le_maxLen W (n + 1) old 9 (by unfold maxLen; omega)
  have hge:∀ old,n + 1 <= grownCap W (n + 1) old 9 := fun old => grownCap_ge W (n + 1) old 9
  have hnew:∀ (O:Obj) (r:Option Nat),W.grownBy (W.drew.alloc O) r := fun O r => ⟨rfl,rfl,rfl,by simp,fun k hk _ => (below_alloc W.drew O).block k hk⟩
  -- the row at the end,where there is no room
  have hend:∀ old:Nat,i = n -> ∃ cur:Array Value,(W.drew.alloc (.cells ((strL L ++ [Value.string key]).toArray ++ Builtin.zeroCells (Value.string ⟨#[]⟩).cells (grownCap W (n + 1) old 9 - (n + 1))) 9)).heap[W.heap.size]? = some (.cells cur 9 (0,0)) /\ cur.size = grownCap W (n + 1) old 9 /\ ∀ j,j < n + 1 -> cur[j]? = some (.string (gt L' j)) := by
    intro old hin
    refine ⟨_,heap_alloc_new W.drew _,?_,fun j hj => ?_⟩
    · have q := hge old
      rw [Array.size_append,size_zeroCells,List.size_toArray,List.length_append,hsl]
      simp [Value.cells]
      omega
    · rw [Array.getElem?_append_left (by rw [List.size_toArray,List.length_append,hsl]; simp; omega),List.getElem?_toArray,hgt j hj]
      by_cases e:j < n
      · rw [if_pos (by omega),List.getElem?_append_left (by omega),strL_get L j (by omega)]
      · have e2:j = n := by omega
        rw [if_neg (by omega),if_pos (by omega),List.getElem?_append_right (by omega),hsl,e2]
        simp
  rcases h1.2 with ⟨e,e0⟩ | ⟨g,cap,cur,e,hgB,hg,hnc,hcm,hcs,htk⟩
  · injection e with e1 e2 e3
    subst e1 e3
    have hi0:i = n := by omega
    subst hi0
    refine (Any2.slices_Insert_string_end_grow lays22 none i 0 w.heap.size 0 1 1 (strL L) [.string key] W (by omega) (by omega) (by omega) (by omega) hsl rfl (fun _ => e0) (fun a h => by cases h) hv hone1).mono ?_
    rintro e w' ⟨rfl,rfl⟩
    obtain ⟨cur,q1,q2,q3⟩ := hend 0 rfl
    exact retIns_of hlen q1 q2 (hge 0) (hmx 0) (by omega) q3 (hnew _ _) (.inr (by omega))
  · injection e with e1 e2 e3
    subst e1 e3
    have hgw := hgl g rfl
    rw [Nat.mul_one] at hcs htk
    have hcc:∀ j,j < n -> cur[j]? = some (.string (gt L j)) := fun j hj => by
      have q := strL_get L j (by omega)
      rw [<- htk,List.getElem?_take,if_pos hj] at q
      simpa using q
    have hcs' : ∀ j v,(strL L)[j]? = some v -> W.cell? ⟨g,0 + j,none⟩ = some v := fun j v hj => by
      have hjl:j < n := by
        have := (List.getElem?_eq_some_iff.1 hj).1
        omega
      rw [strL_get L j (by omega)] at hj
      rw [Nat.zero_add]
      simp [World.cell?,hg,hcc j hjl]
      injection hj
    by_cases hin:i = n
    · subst hin
      by_cases hroom:i + 1 <= c
      · refine (Any2.slices_Insert_string_end_room lays22 g 0 i c w.heap.size 0 1 1 [.string key] W (by omega) hroom (by unfold maxLen at hcm; omega) rfl (fun j hj => ?_) (fun j hj => ?_) hv hone1).mono ?_
        · have:i + j < cur.size := by omega
          simp [World.cell?,hg,this]
        · simp [World.frozen?,hg]
        rintro e w' ⟨rfl,rfl⟩
        obtain ⟨cur',q1,q2,q3⟩ := row_sets [.string key] (0 + i) W cur hg (by simp; omega)
        refine retIns_of hlen q1 (q2.trans hcs) hroom hcm hgB (fun j hj => ?_) (grown_sets g _ _ _) (.inl rfl)
        rw [q3 j,hgt j hj]
        by_cases e:j < i
        · rw [if_neg (by simp; omega),if_pos e]; exact hcc j e
        · have e2:j = i := by omega
          subst e2
          rw [if_pos (by simp),if_neg e,if_pos rfl]
          simp
      · refine (Any2.slices_Insert_string_end_grow lays22 (some ⟨g,0,none⟩) i c w.heap.size 0 1 1 (strL L) [.string key] W (by omega) hnc (by omega) (by omega) hsl rfl (fun h => by cases h) (fun a h j v hj => ?_) hv hone1).mono ?_
        · injection h with h
          subst h
          have q := hcs' j v hj
          rw [Nat.zero_add] at q
          rcases j with _ | j
          · simpa [Addr.add] using q
          · simpa [Addr.add] using q
        rintro e w' ⟨rfl,rfl⟩
        obtain ⟨cur',q1,q2,q3⟩ := hend c rfl
        exact retIns_of hlen q1 q2 (hge c) (hmx c) (by omega) q3 (hnew _ _) (.inr (by omega))
    · by_cases hroom:n + 1 <= c
      · refine (Any2.slices_Insert_string_shift lays22 g 0 n c i w.heap.size 0 1 1 (strL L) [.string key] W (by omega) (by omega) hroom (by unfold maxLen at hcm; omega) (by omega) hsl rfl hcs' (fun j hj => ?_) (fun j hj => ?_) hv (strL_one L) hone1 9 9 1 cur.size ?_ ?_ (by omega) ?_ ?_).mono ?_
        · have:j < cur.size := by omega
          simp [World.cell?,hg,this]
        · simp [World.frozen?,hg]
        · simp [World.shape?,hz0]
        · simp [World.shape?,hg]
        · simp [World.frozen?,hz0]
        · simp [World.frozen?,hz0]
        rintro e w' ⟨rfl,rfl⟩
        obtain ⟨cur1,p1,p2,p3⟩ := row_sets ((strL L).drop i) (0 + (i + 1)) W.drew cur (show W.drew.heap[g]? = _ from hg) (by rw [List.length_drop,hsl]; omega)
        obtain ⟨cur',q1,q2,q3⟩ := row_sets [.string key] (0 + i) _ cur1 p1 (by simp; omega)
        refine retIns_of hlen q1 (by omega) hroom hcm hgB (fun j hj => ?_) (grown_trans (grown_trans (grown_drew _ _) (grown_sets g _ _ _)) (grown_sets g _ _ _)) (.inl rfl)
        rw [q3 j,hgt j hj]
        by_cases e:j < i
        · rw [if_neg (by simp; omega),p3 j,if_neg (by omega),if_pos e]
          exact hcc j (by omega)
        · by_cases e2:j = i
          · subst e2
            rw [if_pos (by simp),if_neg e,if_pos rfl]
            simp
          · rw [if_neg (by simp; omega),p3 j,if_pos (by rw [List.length_drop,hsl]; omega),if_neg e,if_neg e2,List.getElem?_drop,show i + (j - (0 + (i + 1))) = j - 1 by omega,strL_get L (j - 1) (by omega)]
      · refine (Any2.slices_Insert_string_grow lays22 g 0 n c i w.heap.size 0 1 1 (strL L) [.string key] W (by omega) (by omega) hnc (by omega) (by omega) hsl rfl hcs' hv (strL_one L) hone1).mono ?_
        rintro e w' ⟨rfl,rfl⟩
        have q0 := hge c
        have hX:(((strL L).take i).toArray ++ Builtin.zeroCells (Value.string ⟨#[]⟩).cells (n + 1 - i) ++ Builtin.zeroCells (Value.string ⟨#[]⟩).cells (grownCap W (n + 1) c 9 - (n + 1))).size = grownCap W (n + 1) c 9 := by
          rw [Array.size_append,Array.size_append,size_zeroCells,size_zeroCells,List.size_toArray,List.length_take,hsl]
          simp [Value.cells]
          omega
        obtain ⟨cur1,p1,p2,p3⟩ := row_sets [.string key] i (W.alloc (.cells (((strL L).take i).toArray ++ Builtin.zeroCells (Value.string ⟨#[]⟩).cells (n + 1 - i) ++ Builtin.zeroCells (Value.string ⟨#[]⟩).cells (grownCap W (n + 1) c 9 - (n + 1))) 9)).drew _ (heap_alloc_new W _) (by rw [hX]; simp; omega)
        rw [hX] at p2
        obtain ⟨cur',q1,q2,q3⟩ := row_sets ((strL L).drop i) (i + 1) (World.drew ((W.alloc (.cells (((strL L).take i).toArray ++ Builtin.zeroCells (Value.string ⟨#[]⟩).cells (n + 1 - i) ++ Builtin.zeroCells (Value.string ⟨#[]⟩).cells (grownCap W (n + 1) c 9 - (n + 1))) 9)).drew.setCells W.heap.size i [Value.string key])) cur1 p1 (by rw [List.length_drop,hsl]; omega)
        refine retIns_of hlen q1 (q2.trans p2) q0 (hmx c) (by omega) (fun j hj => ?_) ?_ (.inr (by omega))
        · rw [q3 j,hgt j hj]
          by_cases e:j < i
          · rw [if_neg (by omega),p3 j,if_neg (by simp; omega),if_pos e,Array.getElem?_append_left (by rw [Array.size_append,List.size_toArray,List.length_take,hsl]; omega),Array.getElem?_append_left (by rw [List.size_toArray,List.length_take,hsl]; omega),List.getElem?_toArray,List.getElem?_take,if_pos e,strL_get L j (by omega)]
          · by_cases e2:j = i
            · subst e2
              rw [if_neg (by omega),p3 j,if_pos (by simp),if_neg e,if_pos rfl]
              simp
            · rw [if_pos (by rw [List.length_drop,hsl]; omega),if_neg e,if_neg e2,List.getElem?_drop,show i + (j - (i + 1)) = j - 1 by omega,strL_get L (j - 1) (by omega)]
        · have G1 := grown_sets W.heap.size [Value.string key] i (W.alloc (.cells (((strL L).take i).toArray ++ Builtin.zeroCells (Value.string ⟨#[]⟩).cells (n + 1 - i) ++ Builtin.zeroCells (Value.string ⟨#[]⟩).cells (grownCap W (n + 1) c 9 - (n + 1))) 9)).drew
          have G2 := grown_sets W.heap.size ((strL L).drop i) (i + 1) (World.drew ((W.alloc (.cells (((strL L).take i).toArray ++ Builtin.zeroCells (Value.string ⟨#[]⟩).cells (n + 1 - i) ++ Builtin.zeroCells (Value.string ⟨#[]⟩).cells (grownCap W (n + 1) c 9 - (n + 1))) 9)).drew.setCells W.heap.size i [Value.string key]))
          have z0:∀ O,(W.alloc O).drew.heap.size = W.heap.size + 1 := fun O => by simp
          have z1 := G1.size
          have z2 := G2.size
          rw [z0] at z1
          have z3:W.heap.size + 1 <= (World.drew ((W.alloc (.cells (((strL L).take i).toArray ++ Builtin.zeroCells (Value.string ⟨#[]⟩).cells (n + 1 - i) ++ Builtin.zeroCells (Value.string ⟨#[]⟩).cells (grownCap W (n + 1) c 9 - (n + 1))) 9)).drew.setCells W.heap.size i [Value.string key])).heap.size := z1
          refine ⟨G2.os.trans G1.os,G2.tape.trans G1.tape,G2.output.trans G1.output,Nat.le_trans (by omega) (Nat.le_trans z3 z2),fun k hk _ => ?_⟩
          refine (G2.block k (by omega) (fun e => by injection e with e; omega)).trans ?_
          refine (G1.block k (by rw [z0]; omega) (fun e => by injection e with e; omega)).trans ?_
          exact (below_alloc W _).block k hk
open Go.RowKit Go.Deep

def NdI (S:Nat -> Prop) (w:World) (b:Nat):(d:Nat) -> Ro d -> Value -> Prop
  | 0,_,_ => False
  | d + 1,.inl t,v => v = .iface 204 (.pointer (some ⟨b,0,none⟩)) /\ ∃ ka kc,Bx w b 206 #[.int .i64 (t.length:Int),.slice ka t.length kc] /\ (t.length <= kc /\ kc <= 9223372036854775807) /\ RdO S w ka t.length (fun i => .string (gt t i))
  | d + 1,.inr l,v => v = .iface 174 (.pointer (some ⟨b,0,none⟩)) /\ ∃ (g o kc:Nat) (xs:List Value),Bx w b 179 #[.int .i64 ((l.flatMap (keysR d)).length:Int),.slice (some ⟨g,o,none⟩) l.length kc] /\ S g /\ (g < w.heap.size /\ l.length <= kc /\ kc <= 9223372036854775807) /\ (0 < l.length /\ xs.length = l.length) /\ (∀ j u,xs[j]? = some u -> w.cell? ⟨g,o + j,none⟩ = some u) /\
      ∀ k (h:k < l.length),∃ u,xs[k]? = some u /\ TAo S w d l[k] u

theorem NdI.tao {S:Nat -> Prop} {w:World} {b:Nat}:∀ {d:Nat} {t:Ro d} {v:Value},NdI S w b d t v -> ¬ S b -> TAo (fun x => S x \/ x = b) w d t v
  | 0,_,_,h,_ => h.elim
  | d + 1,.inl t,v,h,hb => by
    obtain ⟨rfl,ka,kc,hx,hc,hr⟩ := h
    exact ⟨b,ka,kc,rfl,.inr rfl,hx,hc,hr.keep (Nat.le_refl _) (fun x hx _ => ⟨.inl hx,rfl⟩)⟩
  | d + 1,.inr l,v,h,hb => by
    obtain ⟨rfl,g,o,kc,xs,hx,hg,hc,h0,hcc,hk⟩ := h
    refine ⟨b,g,o,kc,xs,rfl,.inr rfl,hx,⟨.inl hg,fun e => hb (e ▸ hg)⟩,hc,h0.1,hcc,fun k h => ?_⟩
    obtain ⟨u,e,ht⟩ := hk k h
    exact ⟨u,e,ht.wide (fun x hx _ => .inl hx)⟩

theorem NdI.keep {S S' : Nat -> Prop} {w w' : World} {b:Nat} (hz:w.heap.size <= w'.heap.size) (hb:w'.heap[b]? = w.heap[b]?) (hS:∀ x,S x -> x < w.heap.size -> S' x /\ w'.heap[x]? = w.heap[x]?):∀ {d:Nat} {t:Ro d} {v:Value},NdI S w b d t v -> NdI S' w' b d t v
  | 0,_,_,h => h
  | d + 1,.inl t,v,h => by
    obtain ⟨rfl,ka,kc,hx,hc,hr⟩ := h
    exact ⟨rfl,ka,kc,hx.of_block hb,hc,hr.keep hz hS⟩
  | d + 1,.inr l,v,h => by
    obtain ⟨rfl,g,o,kc,xs,hx,hg,hc,h0,hcc,hk⟩ := h
    obtain ⟨q1,q2⟩ := hS g hg hc.1
    refine ⟨rfl,g,o,kc,xs,hx.of_block hb,q1,⟨by omega,hc.2⟩,h0,fun j u hj => (World.cell?_of_block (a := ⟨g,o + j,none⟩) q2).trans (hcc j u hj),fun k h => ?_⟩
    obtain ⟨u,e,ht⟩ := hk k h
    exact ⟨u,e,TAo.keep hz hS ht⟩

theorem TAo.oneCell {S:Nat -> Prop} {w:World}:∀ {d:Nat} {t:Ro d} {v:Value},TAo S w d t v -> v.oneCell' = true
  | 0,_,_,h => h.elim
  | d + 1,.inl t,v,h => by obtain ⟨_,_,_,rfl,_⟩ := h; rfl
  | d + 1,.inr l,v,h => by obtain ⟨_,_,_,_,_,rfl,_⟩ := h; rfl

def RetPart (S:Nat -> Prop) (w:World) (b d:Nat) (t:Ro (d + 1)) (v:Value) (e:Ending) (w' : World):Prop :=
  ∃ u,e = .returned u /\ Fr2 w w' b b /\ TAo (fun x => S x \/ x = b \/ w.heap.size <= x) w' (d + 1) (cutR 0 3 t) v /\ TAo (fun x => S x \/ w.heap.size <= x) w' (d + 1) (cutR 3 5 t) u

theorem fr2_new {w w' : World} {b r:Nat} {o:Obj} (hr:r = w.heap.size) (h:Fr2 (w.alloc o) w' b r):Fr2 w w' b b := by
  obtain ⟨h1,h2,h3,h4,h5⟩ := h
  refine ⟨h1,h2,h3,by simp at h4; omega,fun k hk n1 _ => ?_⟩
  rw [h5 k (by simp; omega) n1 (by omega)]
  exact (below_alloc w o).block k hk

set_option maxHeartbeats 4000000 in
theorem part_o (d b:Nat) (t:Ro (d + 1)) (v:Value) (S:Nat -> Prop) (w:World) (h:NdI S w b (d + 1) t v) (hb:¬ S b) (hS:∀ x,S x -> x < w.heap.size) (h5:sizR t = 5) (hlen:(keysR (d + 1) t).length <= 1099511627776) :
    Calls Tryz.prog 117 #[v] w (RetPart S w b d t v) := by
  rcases t with L | l
  · obtain ⟨rfl,ka,kc,hx,hc,hr⟩ := h
    have h5' : L.length = 5 := h5
    have hxa:Bx (w.alloc (.cells #[.int .i64 0,.slice none 0 0] 206)) b 206 #[.int .i64 (L.length:Int),.slice ka L.length kc] := hx.alloc _
    have hV:RdV w ka L.length (strL L) := by
      refine ⟨strL_length L,strL_one L,?_⟩
      rcases hr with q | ⟨g,o,rfl,_,hl,hcc⟩
      · exact .inl q
      · refine .inr ⟨g,o,rfl,hl,fun j u hj => ?_⟩
        have hj2 := (List.getElem?_eq_some_iff.1 hj).1
        rw [strL_length] at hj2
        rw [strL_get L j hj2] at hj
        injection hj with hj
        subst hj
        exact hcc j hj2
    have HDl:Hid (Calls Tryz.prog 137 #[.iface 204 (.pointer (some ⟨b,0,none⟩)),.iface 204 (.pointer (some ⟨w.heap.size,0,none⟩)),.int .i64 3] (w.alloc (.cells #[.int .i64 0,.slice none 0 0] 206)) fun e w' => e = .returned (.tuple #[]) /\ RetPart S w b d (.inl L) (.iface 204 (.pointer (some ⟨b,0,none⟩))) (.returned (.iface 204 (.pointer (some ⟨w.heap.size,0,none⟩)))) w') := by
      refine (dealLeaf_any d b w.heap.size L.length 0 kc 0 3 ka none _ 0 L [] (w.alloc (.cells #[.int .i64 0,.slice none 0 0] 206)) hxa (Bx.new _ _ _) (by have := hx.lt; omega) (hV.below (below_alloc _ _)) ⟨rfl,fun u hu => (by cases hu),.inl rfl⟩ (by omega) (by omega) (by omega)).mono ?_
      rintro e w' ⟨rfl,q1,q2,q3⟩
      refine ⟨rfl,_,rfl,fr2_new rfl q1,?_,?_⟩
      · rw [List.append_nil] at q2
        refine TAo.wide (show TAo _ _ (d + 1) (.inl ((L.take 3).drop 0)) _ from by rw [List.drop_zero]; exact q2) (fun x hx _ => ?_)
        rcases hx with h | h
        · exact .inr (.inl h)
        · exact .inr (.inr (by simp at h; omega))
      · rw [List.append_nil] at q3
        refine TAo.wide (show TAo _ _ (d + 1) (.inl ((L.take 5).drop 3)) _ from by rw [List.take_of_length_le (by omega:L.length <= 5)]; exact q3) (fun x hx _ => ?_)
        rcases hx with h | h
        · exact .inr (by omega)
        · exact .inr (by simp at h; omega)
    have t1 := ta1 (.pointer (some ⟨b,0,none⟩))
    clear hx hc hr hxa hV h5 h5'
    go_enter Tryz.func117,Tryz.ntmps117
    go_wp2_with fail
    (with_reducible refine HDl.out.mono ?_)
    rintro e w2 ⟨rfl,hret⟩
    have HR:Hid (RetPart S w b d (.inl L) (.iface 204 (.pointer (some ⟨b,0,none⟩))) (.returned (.iface 204 (.pointer (some ⟨w.heap.size,0,none⟩)))) w2) := hret
    clear hret
    go_wp2
    go_ret
    exact HR.out
  · obtain ⟨rfl,g,o,kc,xs,hx,hg,hc,h0,hcc,hk⟩ := h
    have h5' : l.length = 5 := h5
    have hxa:Bx (w.alloc (.cells #[.int .i64 0,.slice none 0 0] 179)) b 179 #[.int .i64 ((l.flatMap (keysR d)).length:Int),.slice (some ⟨g,o,none⟩) l.length kc] := hx.alloc _
    have hV:RdV w (some ⟨g,o,none⟩) l.length xs := by
      refine ⟨h0.2,fun u hu => ?_,.inr ⟨g,o,rfl,hc.1,hcc⟩⟩
      obtain ⟨k,hkl,e⟩ := List.getElem_of_mem hu
      obtain ⟨u',q1,q2⟩ := hk k (by omega)
      rw [List.getElem?_eq_getElem hkl,e] at q1
      injection q1 with q1
      subst q1
      exact q2.oneCell
    have hk2:∀ k (h:k < l.length),∃ u,(xs ++ [])[k]? = some u /\ TAo S (w.alloc (.cells #[.int .i64 0,.slice none 0 0] 179)) d l[k] u := fun k h => by
      obtain ⟨u,q1,q2⟩ := hk k h
      exact ⟨u,by rw [List.append_nil]; exact q1,q2.below (below_alloc _ _)⟩
    have HDl:Hid (Calls Tryz.prog 137 #[.iface 174 (.pointer (some ⟨b,0,none⟩)),.iface 174 (.pointer (some ⟨w.heap.size,0,none⟩)),.int .i64 3] (w.alloc (.cells #[.int .i64 0,.slice none 0 0] 179)) fun e w' => e = .returned (.tuple #[]) /\ RetPart S w b d (.inr l) (.iface 174 (.pointer (some ⟨b,0,none⟩))) (.returned (.iface 174 (.pointer (some ⟨w.heap.size,0,none⟩)))) w') := by
      refine (dealInner_any d b w.heap.size l.length 0 kc 0 3 (some ⟨g,o,none⟩) none _ 0 xs [] l S (w.alloc (.cells #[.int .i64 0,.slice none 0 0] 179)) hxa (Bx.new _ _ _) (by have := hx.lt; omega) (hV.below (below_alloc _ _)) ⟨rfl,fun u hu => (by cases hu),.inl rfl⟩ rfl hk2 hb (fun h => by have := hS _ h; omega) hlen (by omega) (by omega) (by omega)).mono ?_
      rintro e w' ⟨rfl,q1,q2,q3⟩
      refine ⟨rfl,_,rfl,fr2_new rfl q1,?_,?_⟩
      · refine TAo.wide (show TAo _ _ (d + 1) (.inr ((l.take 3).drop 0)) _ from by rw [List.drop_zero]; rw [List.drop_zero] at q2; exact q2) (fun x hx _ => ?_)
        rcases hx with h | h | h
        · exact .inl h
        · exact .inr (.inl h)
        · exact .inr (.inr (by simp at h; omega))
      · refine TAo.wide (show TAo _ _ (d + 1) (.inr ((l.take 5).drop 3)) _ from by rw [List.take_of_length_le (by omega:l.length <= 5)]; rw [List.take_of_length_le (by rw [List.length_drop]; omega)] at q3; exact q3) (fun x hx _ => ?_)
        rcases hx with h | h | h
        · exact .inl h
        · exact .inr (by omega)
        · exact .inr (by simp at h; omega)
    have t3 := ta3 (.pointer (some ⟨b,0,none⟩))
    have t4 := ta4 (.pointer (some ⟨b,0,none⟩))
    clear hx hc hxa hV h5 h5' hk hk2 hcc h0
    go_enter Tryz.func117,Tryz.ntmps117
    go_wp2_with fail
    (with_reducible refine HDl.out.mono ?_)
    rintro e w2 ⟨rfl,hret⟩
    have HR:Hid (RetPart S w b d (.inr l) (.iface 174 (.pointer (some ⟨b,0,none⟩))) (.returned (.iface 174 (.pointer (some ⟨w.heap.size,0,none⟩)))) w2) := hret
    clear hret
    go_wp2
    go_ret
    exact HR.out
end Go.Proofs.YtcnollkkigiobaaGreat
