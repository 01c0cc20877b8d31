import Derived.Test.YtcnollkkigiobaaGreatNa40
import Derived.OpenShut
import Derived.Lib.SmallJoins
import Derived.ProofKit
import Derived.Test.YtcnollkkigiobaaGreatNa44
set_option linter.unusedVariables false
set_option maxRecDepth 100000
namespace Go.Proofs.YtcnollkkigiobaaGreat
open Go.ChangeShapes Go.WideShapes Go.ChangeAt Go.RowKit Go.Deep Go.Joins

def IsQuad (v:Value):Prop := ∃ a b c d:Int,v = .agg #[.int .i64 a,.int .i64 b,.int .i64 c,.int .i64 d]

section
variable {H:Type} {enc:TypeId × Value -> H} {W:World}

set_option maxRecDepth 100000 in
theorem openQuad {r:Reach} {b0:Nat} {v:Value} {d:DataW H} {p:List MemPlace} (hv:Value.okWide Tryz.prog W r b0 26 v) (h:DataW.Trod enc Tryz.prog W 0 (fun _ => true) true 26 v d p):IsQuad v := by
  obtain ⟨v0,v1,v2,v3,y0,y1,y2,y3,n,rfl,_,_,h0,h1,h2,h3⟩ := open_agg4 Tryz.underlying26 (by kernel_rfl) (by kernel_rfl) hv h
  obtain ⟨a,e0,_,_⟩ := DataW.trod_int Tryz.underlying2 h0
  obtain ⟨b,e1,_,_⟩ := DataW.trod_int Tryz.underlying2 h1
  obtain ⟨c,e2,_,_⟩ := DataW.trod_int Tryz.underlying2 h2
  obtain ⟨d,e3,_,_⟩ := DataW.trod_int Tryz.underlying2 h3
  simp at e0 e1 e2 e3
  subst e0 e1 e2 e3
  exact ⟨a,b,c,d,rfl⟩
end

end Go.Proofs.YtcnollkkigiobaaGreat
namespace Go.Proofs.YtcnollkkigiobaaGreat
open Go.RowKit Go.Deep

theorem sum_two {d:Nat}:∀ (l:List (Ro d)),(∀ t,t ∈ l -> nodesR d t + 1 <= 2 * (keysR d t).length) -> (l.map (nodesR d)).sum + l.length <= 2 * (l.flatMap (keysR d)).length
  | [],_ => by simp
  | t :: l,h => by
    have h1 := h t (by simp)
    have h2 := sum_two l (fun t ht => h t (by simp [ht]))
    simp only [List.map_cons,List.sum_cons,List.length_cons,List.flatMap_cons,List.length_append]
    omega
theorem nodes_keys:∀ {d:Nat} {t:Ro d} {h:Nat},BalR d false t h -> nodesR d t + 1 <= 2 * (keysR d t).length
  | 0,t,_,_ => t.elim
  | d + 1,.inl t,h,hb => by
    have:2 <= t.length := hb.2.2.resolve_left (by decide)
    show 1 + 1 <= 2 * t.length
    omega
  | d + 1,.inr l,h,hb => by
    obtain ⟨h2,_,h',_,hall⟩ := hb
    have := sum_two l (fun t ht => nodes_keys (hall t ht))
    show 1 + (l.map (nodesR d)).sum + 1 <= 2 * (l.flatMap (keysR d)).length
    omega
theorem nodes_root {d:Nat} {t:Ro (d + 1)} {h:Nat} (hb:BalR (d + 1) true t h):nodesR (d + 1) t <= 2 * (keysR (d + 1) t).length + 1 := by
  rcases t with t | l
  · show 1 <= 2 * t.length + 1
    omega
  · obtain ⟨h2,_,h',_,hall⟩ := hb
    have := sum_two l (fun t ht => nodes_keys (hall t ht))
    show 1 + (l.map (nodesR d)).sum <= 2 * (l.flatMap (keysR d)).length + 1
    omega
def RetAi (w:World) (n:Nat) (M:Nat -> Nat) (T:Nat -> Nat -> Tn) (q:Qd) (e:Ending) (w' : World):Prop :=
  Below w.heap.size w w' /\ ((AddOk n M T q /\ ∃ a c M' T' us lo hi,e = .returned (.agg #[.bool true,.slice a 6 c]) /\ RowI TreeAt w' (w.heap.size + 3) (.slice a 6 c) 6 M' T' us lo hi /\ ∀ i,i < 6 -> InsTo (M i) (T i) (keyOf i q) (M' i) (T' i)) \/
    (¬ AddOk n M T q /\ ∃ a c us lo hi,e = .returned (.agg #[.bool false,.slice a n c]) /\ RowI TreeAt w' (w.heap.size + 3) (.slice a n c) n M T us lo hi))

set_option maxHeartbeats 8000000 in
theorem implIA (a:Option Addr) (n c:Nat) (M:Nat -> Nat) (T:Nat -> Nat -> Tn) (q:Qd) (w:World) (h:RdIx w a n M T) (hn:n <= 1048576) (hN:IxFit n M T) :
    Calls Tryz.prog 18 #[.agg #[.slice a n c],qv q] w (RetAi w n M T q) := by
  have HR:Hid (RdIx w a n M T /\ IxFit n M T) := ⟨h,hN⟩
  clear h hN
  obtain ⟨W0,hW0⟩:∃ W0,W0 = ((w.alloc (.cells #[.slice a n c] 32)).alloc (.cells #[.int .i64 q.s,.int .i64 q.p,.int .i64 q.o,.int .i64 q.g] 34)).alloc (.cells #[.bool false,.slice none 0 0] 42) := ⟨_,rfl⟩
  have B0:Hid (Bx W0 w.heap.size 32 #[.slice a n c] /\ Bx W0 (w.heap.size + 1) 34 #[.int .i64 q.s,.int .i64 q.p,.int .i64 q.o,.int .i64 q.g] /\ Bx W0 (w.heap.size + 2) 42 #[.bool false,.slice none 0 0] /\ Below w.heap.size w W0 /\ W0.heap.size = w.heap.size + 3) := by
    have b1 := Bx.new w #[.slice a n c] 32
    have b2 := Bx.new (w.alloc (.cells #[.slice a n c] 32)) #[.int .i64 q.s,.int .i64 q.p,.int .i64 q.o,.int .i64 q.g] 34
    have b3 := Bx.new ((w.alloc (.cells #[.slice a n c] 32)).alloc (.cells #[.int .i64 q.s,.int .i64 q.p,.int .i64 q.o,.int .i64 q.g] 34)) #[.bool false,.slice none 0 0] 42
    simp only [World.size_alloc] at b2 b3
    rw [hW0]
    exact ⟨(b1.alloc _).alloc _,b2.alloc _,b3,((below_alloc _ _).alloc (by simp) _).alloc (by simp; omega) _,by simp⟩
  have HBel:Hid (∀ W,Below (w.heap.size + 3) W0 W -> Below w.heap.size w W) := fun W hb => B0.out.2.2.2.1.trans (hb.mono (by omega))
  have HCe:Hid (∀ W,Below (w.heap.size + 3) W0 W -> W.cell? ⟨w.heap.size,0,none⟩ = some (.slice a n c) /\ (W.cell? ⟨w.heap.size + 1,0,none⟩ = some (.int .i64 q.s) /\ W.cell? ⟨w.heap.size + 1,1,none⟩ = some (.int .i64 q.p) /\ W.cell? ⟨w.heap.size + 1,2,none⟩ = some (.int .i64 q.o) /\ W.cell? ⟨w.heap.size + 1,3,none⟩ = some (.int .i64 q.g)) /\ W.cell? ⟨w.heap.size + 2,0,none⟩ = some (.bool false) /\ W.cell? ⟨w.heap.size + 2,1,none⟩ = some (.slice none 0 0) /\ w.heap.size + 2 < W.heap.size /\ ∀ i,W.frozen? ⟨w.heap.size + 2,i,none⟩ = false) := fun W hb => by
    have b1 := B0.out.1.below' hb (by omega)
    have b2 := B0.out.2.1.below' hb (by omega)
    have b3 := B0.out.2.2.1.below' hb (by omega)
    exact ⟨b1.cell 0,⟨b2.cell 0,b2.cell 1,b2.cell 2,b2.cell 3⟩,b3.cell 0,b3.cell 1,b3.lt,fun i => b3.frozen i⟩
  have HRi:Hid (Calls Tryz.prog 36 #[.agg #[.slice a n c]] W0 (RetIxO W0 a n c M T)) := readIndexO_any a n c M T W0 (HR.out.1.below B0.out.2.2.2.1) hn HR.out.2
  unfold qv
  go_enter Tryz.func18,Tryz.ntmps18
  go_upto_region 1 with fail
  rw [<- hW0]
  clear hW0
  obtain ⟨x0,⟨q0,q1,q2,q3⟩,_⟩ := HCe.out W0 (Below.refl _ _)
  go_wp2_with fail
  (with_reducible refine HRi.out.mono ?_)
  rintro e w1 hr
  clear x0 q0 q1 q2 q3 HRi
  rcases hr with ⟨rfl,hno,hb⟩ | ⟨rfl,hv,A,lo,hi,hI⟩
  · have HNO:Hid (¬ AddOk n M T q) := fun hk => hno hk.1
    have K1:Hid (Below (w.heap.size + 3) W0 w1) := by rw [<- B0.out.2.2.2.2]; exact hb
    clear hno hb
    have f0 := (HCe.out w1 K1.out).1
    obtain ⟨fr0,fr1,frz,frf⟩ := (HCe.out w1 K1.out).2.2
    have HCp:Hid (Calls Tryz.prog 47 #[.agg #[.slice a n c]] w1 (RetCi w1 n M T)) := copyIx_any a n c M T w1 (HR.out.1.below (HBel.out w1 K1.out)) hn HR.out.2
    go_wp2_with fail
    (with_reducible refine HCp.out.mono ?_)
    rintro e wz ⟨az,cz,us,lo',hi',rfl,hrz,hbz⟩
    have HZz:Hid (Below (w.heap.size + 3) W0 wz /\ RowI TreeAt wz (w.heap.size + 3) (.slice az n cz) n M T us lo' hi') := by
      have q1 := K1.out
      have q2:w.heap.size + 3 <= w1.heap.size := by
        have := q1.size
        rw [B0.out.2.2.2.2] at this
        exact this
      exact ⟨q1.trans (hbz.mono q2),hrz.low (by omega)⟩
    obtain ⟨gr0,gr1,grz,grf⟩ := (HCe.out wz HZz.out.1).2.2
    clear f0 fr0 fr1 frz frf hrz hbz
    go_wp2
    refine bodyPost_ret (v := .agg #[.bool false,.slice az n cz]) (by simp [results,Tryz.results18,go_sem,gr0,gr1]) rfl ⟨((HBel.out wz HZz.out.1).setCell (by simp; try omega) _).setCell (by simp; try omega) _,.inr ⟨HNO.out,az,cz,us,lo',hi',rfl,?_⟩⟩
    exact (HZz.out.2.setO TreeAt.pl (by simp) _).setO TreeAt.pl (by simp) _
  have e6:n = 6 := hv.1
  subst e6
  have HI:Hid (Ioo W0 w1 a c M T 6 A lo hi /\ VI 6 M T) := ⟨hI,hv⟩
  have K1:Hid (Below (w.heap.size + 3) W0 w1) := by rw [<- B0.out.2.2.2.2]; exact hI.bel
  have HAd:Hid (Calls Tryz.prog 46 #[.pointer (some ⟨W0.heap.size + 1,0,none⟩),.agg #[.int .i64 q.s,.int .i64 q.p,.int .i64 q.o,.int .i64 q.g]] w1 fun e w' => ∃ b:Bool,e = .returned (.bool b) /\ Below (W0.heap.size + 1) w1 w' /\ ((b = false /\ ¬ AddOk 6 M T q) \/ (b = true /\ AddOk 6 M T q /\ ∃ A',Bx w' (W0.heap.size + 1) 109 A' /\ ∀ p,p < 6 -> XA (lo p) (hi p) (w1.heap.size + 1) w' A' M T q p))) := (add_any W0 w1 a c M T A lo hi hI hv q).mono fun e w' ⟨h1,h2⟩ => by
    rcases h2 with ⟨h2,h3⟩ | ⟨h2,h3,h4⟩
    · exact ⟨false,h2,h1,.inl ⟨rfl,h3⟩⟩
    · exact ⟨true,h2,h1,.inr ⟨rfl,h3,h4⟩⟩
  clear hv hI
  obtain ⟨x0,⟨q0,q1,q2,q3⟩,_⟩ := HCe.out w1 K1.out
  go_wp2_with fail
  (with_reducible refine HAd.out.mono ?_)
  rintro e w2 ⟨ba,rfl,hb2,hr2⟩
  have K2:Hid (Below (w.heap.size + 3) W0 w2) := K1.out.trans (hb2.mono (by rw [B0.out.2.2.2.2]; omega))
  clear x0 q0 q1 q2 q3 HAd hb2
  rcases hr2 with ⟨rfl,hno⟩ | ⟨rfl,hok,A',hx,hall⟩
  · have HNO:Hid (¬ AddOk 6 M T q) := hno
    clear hno
    have f0 := (HCe.out w2 K2.out).1
    obtain ⟨fr0,fr1,frz,frf⟩ := (HCe.out w2 K2.out).2.2
    have HCp:Hid (Calls Tryz.prog 47 #[.agg #[.slice a 6 c]] w2 (RetCi w2 6 M T)) := copyIx_any a 6 c M T w2 (HR.out.1.below (HBel.out w2 K2.out)) hn HR.out.2
    go_wp2_with fail
    (with_reducible refine HCp.out.mono ?_)
    rintro e wz ⟨az,cz,us,lo',hi',rfl,hrz,hbz⟩
    have HZz:Hid (Below (w.heap.size + 3) W0 wz /\ RowI TreeAt wz (w.heap.size + 3) (.slice az 6 cz) 6 M T us lo' hi') := by
      have q1 := K2.out
      have q2:w.heap.size + 3 <= w2.heap.size := by
        have := q1.size
        rw [B0.out.2.2.2.2] at this
        exact this
      exact ⟨q1.trans (hbz.mono q2),hrz.low (by omega)⟩
    obtain ⟨gr0,gr1,grz,grf⟩ := (HCe.out wz HZz.out.1).2.2
    clear f0 fr0 fr1 frz frf hrz hbz
    go_wp2
    refine bodyPost_ret (v := .agg #[.bool false,.slice az 6 cz]) (by simp [results,Tryz.results18,go_sem,gr0,gr1]) rfl ⟨((HBel.out wz HZz.out.1).setCell (by simp; try omega) _).setCell (by simp; try omega) _,.inr ⟨HNO.out,az,cz,us,lo',hi',rfl,?_⟩⟩
    exact (HZz.out.2.setO TreeAt.pl (by simp) _).setO TreeAt.pl (by simp) _
  · haveI:Inhabited (Σ D:Nat,Ro D) := ⟨⟨1,.inl []⟩⟩
    have each:∀ p,p < 6 -> ∃ s:(Σ D:Nat,Ro D),∃ (t' : Ro 21) (v' : Value) (S:Nat -> Prop) (hh:Nat) (rs:List (Ro 21)),A'[p * 2]? = some (.func (.func (layF p)) #[] #[]) /\ VTt (M p) (T p) t' /\ keyOf p q ∉ keysR 21 t' /\ TAo S w2 s.1 s.2 v' /\ (∀ x,S x -> x < w2.heap.size) /\ BalR s.1 true s.2 hh /\ InsR (keyOf p q) 21 t' rs /\ nodesR s.1 s.2 = insN rs /\ nodesR s.1 s.2 <= 6000 /\ (∀ M,Tells M 0 s.1 s.2 0 -> InsT M rs) /\ A'[p * 2 + 1]? = some v' := fun p hp => by
      obtain ⟨h0,t',D,y,v',S,hh,rs,h1,h2,h3,h4,h5⟩ := hall p hp
      exact ⟨⟨D,y⟩,t',v',S,hh,rs,h0,h1,h2,h3,fun x hx => (h4 x hx).2,h5⟩
    obtain ⟨s,hs⟩ := choose_lt each
    have HTe:Hid (Calls Tryz.prog 48 #[.pointer (some ⟨W0.heap.size + 1,0,none⟩)] w2 (RetTe w2 (fun p => (s p).1) (fun p => (s p).2))) := tell_any (W0.heap.size + 1) A' (fun p => (s p).1) (fun p => (s p).2) w2 hx (fun p hp => by
      obtain ⟨t',v',S,hh,rs,h0,h1,h2,h3,h4,h5,h6,h7,h8,h9,h10⟩ := hs p hp
      exact ⟨v',S,hh,h0,h10,h3,h4,h5,by omega⟩)
    have HS:Hid (AddOk 6 M T q /\ ∀ p,p < 6 -> ∃ (t' : Ro 21) (rs:List (Ro 21)),VTt (M p) (T p) t' /\ keyOf p q ∉ keysR 21 t' /\ InsR (keyOf p q) 21 t' rs /\ nodesR (s p).1 (s p).2 = insN rs /\ insN rs <= 5000 /\ (∀ M,Tells M 0 (s p).1 (s p).2 0 -> InsT M rs)) := ⟨hok,fun p hp => by
      obtain ⟨t',v',S,hh,rs,h0,h1,h2,h3,h4,h5,h6,h7,h8,h9,h10⟩ := hs p hp
      refine ⟨t',rs,h1,h2,h6,h7,?_,h9⟩
      obtain ⟨t2,ht2,hl2,_⟩ := hok.1.2.1 p hp
      have e := vtt1 ht2 h1
      subst e
      obtain ⟨hb,hbal⟩ := h1.2.2.2.1
      have q1:nodesR 21 t2 <= 2 * (keysR 21 t2).length + 1 := nodes_root hbal
      have q2 := h6.nodes
      unfold insN
      split <;> omega⟩
    clear hok hx hall each hs
    obtain ⟨x0,⟨q0,q1,q2,q3⟩,_⟩ := HCe.out w2 K2.out
    go_wp2_with fail
    (with_reducible refine HTe.out.mono ?_)
    rintro e w3 ⟨hb3,a3,c3,T',us,lo',hi',rfl,hr3,ht3⟩
    have H3:Hid (Below (w.heap.size + 3) W0 w3 /\ RowI TreeAt w3 (w.heap.size + 3) (.slice a3 6 c3) 6 (fun p => nodesR (s p).1 (s p).2) T' us lo' hi' /\ ∀ p,p < 6 -> InsTo (M p) (T p) (keyOf p q) (nodesR (s p).1 (s p).2) (T' p)) := by
      have q2:w.heap.size + 3 <= w2.heap.size := by
        have := K2.out.size
        rw [B0.out.2.2.2.2] at this
        exact this
      refine ⟨K2.out.trans (hb3.mono q2),hr3.low (by omega),fun p hp => ?_⟩
      obtain ⟨t',rs,h1,h2,h3,h4,h5,h6⟩ := HS.out.2 p hp
      exact ⟨t',rs,h1,by rw [keyOf_size]; omega,h2,h3,h4,by rw [h4]; exact h5,h6 _ (ht3 p hp)⟩
    obtain ⟨gr0,gr1,grz,grf⟩ := (HCe.out w3 H3.out.1).2.2
    clear x0 q0 q1 q2 q3 hb3 hr3 ht3 HTe
    go_wp2
    refine bodyPost_ret (v := .agg #[.bool true,.slice a3 6 c3]) (by simp [results,Tryz.results18,go_sem,gr0,gr1]) rfl ⟨((HBel.out w3 H3.out.1).setCell (by simp; try omega) _).setCell (by simp; try omega) _,.inl ⟨HS.out.1,a3,c3,_,T',us,lo',hi',rfl,?_,H3.out.2.2⟩⟩
    exact (H3.out.2.1.setO TreeAt.pl (by simp) _).setO TreeAt.pl (by simp) _
end Go.Proofs.YtcnollkkigiobaaGreat
