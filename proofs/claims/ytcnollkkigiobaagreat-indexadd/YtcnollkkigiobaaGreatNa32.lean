import Derived.Test.YtcnollkkigiobaaGreatNa31
import Derived.Test.YtcnollkkigiobaaGreatNa51
import Derived.Test.YtcnollkkigiobaaGreatNa27
import Derived.Test.YtcnollkkigiobaaGreatNa9
import Derived.Deep.QuietTactic
import Derived.BigQuiet
import Derived.Maps.Own
import Derived.MapKept
import Derived.Test.YtcnollkkigiobaaGreatNa10
set_option linter.unusedVariables false
set_option maxRecDepth 100000
namespace Go.Proofs.YtcnollkkigiobaaGreat
open Go.RowKit Go.Deep

def partOf (a b c d:Int) (i:Nat):Int := if i = 0 then a else if i = 1 then b else if i = 2 then c else d

set_option maxHeartbeats 1000000 in
theorem l5Part_any (a b c d:Int) (i:Nat) (hi:i < 4) (w:World) :
    Calls Tryz.prog 65 #[.agg #[.int .i64 a,.int .i64 b,.int .i64 c,.int .i64 d],.int .i64 i] w fun e w' => e = .returned (.int .i64 (partOf a b c d i)) /\ Below w.heap.size w w' := by
  have h:i = 0 \/ i = 1 \/ i = 2 \/ i = 3 := by omega
  rcases h with rfl | rfl | rfl | rfl
  all_goals
    go_enter Tryz.func65,Tryz.ntmps65
    go_wp2
    go_ret
    exact ⟨rfl,below_alloc _ _⟩

def OrdRet (w:World) (q:Nat -> Nat) (e:Ending) (w' : World):Prop := ∃ g,e = .returned (.slice (some ⟨g,0,none⟩) 4 4) /\ w.heap.size <= g /\ rowIn w' g 3 4 (fun i => .int .i64 (q i)) /\ Below w.heap.size w w'

def ord0 (i:Nat):Nat := if i = 0 then 0 else if i = 1 then 1 else if i = 2 then 2 else 3
def ord1 (i:Nat):Nat := if i = 0 then 1 else if i = 1 then 2 else if i = 2 then 0 else 3
def ord2 (i:Nat):Nat := if i = 0 then 2 else if i = 1 then 0 else if i = 2 then 1 else 3
def ord3 (i:Nat):Nat := if i = 0 then 3 else if i = 1 then 0 else if i = 2 then 1 else 2
def ord4 (i:Nat):Nat := if i = 0 then 3 else if i = 1 then 1 else if i = 2 then 2 else 0
def ord5 (i:Nat):Nat := if i = 0 then 3 else if i = 1 then 2 else if i = 2 then 0 else 1
def okTo (x:Nat -> Int) (k:Nat):Prop := ∀ q,q < k -> (0 <= x q /\ x q <= 2000000000) /\ ∀ r,r < q -> x r = 0 -> x q = 0
def freeTo (x:Nat -> Int):Nat -> Bool
  | 0 => false
  | k + 1 => freeTo x k || x k == 0
def eligB (x:Nat -> Int):Bool := (List.range 4).all fun q => decide (0 <= x q /\ x q <= 2000000000) && (List.range q).all fun r => decide (x r = 0 -> x q = 0)
theorem idx_0 (w:World):(Instr.index 97 (.agg #[.func (.func 101) #[] #[],.func (.func 102) #[] #[],.func (.func 103) #[] #[],.func (.func 104) #[] #[],.func (.func 105) #[] #[],.func (.func 106) #[] #[]]) (.int .i64 0)).run Tryz.prog w = .ok (.func (.func 101) #[] #[]) w := by
  simp [Instr.index,go_sem]
theorem idx_1 (w:World):(Instr.index 97 (.agg #[.func (.func 101) #[] #[],.func (.func 102) #[] #[],.func (.func 103) #[] #[],.func (.func 104) #[] #[],.func (.func 105) #[] #[],.func (.func 106) #[] #[]]) (.int .i64 1)).run Tryz.prog w = .ok (.func (.func 102) #[] #[]) w := by
  simp [Instr.index,go_sem]
theorem idx_2 (w:World):(Instr.index 97 (.agg #[.func (.func 101) #[] #[],.func (.func 102) #[] #[],.func (.func 103) #[] #[],.func (.func 104) #[] #[],.func (.func 105) #[] #[],.func (.func 106) #[] #[]]) (.int .i64 2)).run Tryz.prog w = .ok (.func (.func 103) #[] #[]) w := by
  simp [Instr.index,go_sem]
theorem idx_3 (w:World):(Instr.index 97 (.agg #[.func (.func 101) #[] #[],.func (.func 102) #[] #[],.func (.func 103) #[] #[],.func (.func 104) #[] #[],.func (.func 105) #[] #[],.func (.func 106) #[] #[]]) (.int .i64 3)).run Tryz.prog w = .ok (.func (.func 104) #[] #[]) w := by
  simp [Instr.index,go_sem]
theorem idx_4 (w:World):(Instr.index 97 (.agg #[.func (.func 101) #[] #[],.func (.func 102) #[] #[],.func (.func 103) #[] #[],.func (.func 104) #[] #[],.func (.func 105) #[] #[],.func (.func 106) #[] #[]]) (.int .i64 4)).run Tryz.prog w = .ok (.func (.func 105) #[] #[]) w := by
  simp [Instr.index,go_sem]
theorem idx_5 (w:World):(Instr.index 97 (.agg #[.func (.func 101) #[] #[],.func (.func 102) #[] #[],.func (.func 103) #[] #[],.func (.func 104) #[] #[],.func (.func 105) #[] #[],.func (.func 106) #[] #[]]) (.int .i64 5)).run Tryz.prog w = .ok (.func (.func 106) #[] #[]) w := by
  simp [Instr.index,go_sem]

theorem fieldsQ:(Tryz.prog.fieldsOf 34).toList = [{ name := "S",type := 2,offset := 0,embedded := false,tag := "",pkgPath := "",byteOffset := 0 },{ name := "P",type := 2,offset := 1,embedded := false,tag := "",pkgPath := "",byteOffset := 8 },{ name := "O",type := 2,offset := 2,embedded := false,tag := "",pkgPath := "",byteOffset := 16 },{ name := "G",type := 2,offset := 3,embedded := false,tag := "",pkgPath := "",byteOffset := 24 }] := by kernel_rfl
theorem eqQ (a b c d a' b' c' d' : Int) (w:World):(Op.equalIn 10000 34 (.agg #[.int .i64 a,.int .i64 b,.int .i64 c,.int .i64 d]) (.agg #[.int .i64 a',.int .i64 b',.int .i64 c',.int .i64 d'])).run Tryz.prog w = .ok (a == a' && (b == b' && (c == c' && d == d'))) w := by
  rw [show (10000:Nat) = 9999 + 1 from rfl,run_equalIn_struct (P := Tryz.prog) w 9999 34 _ _ (by kernel_rfl) (by kernel_rfl),fieldsQ]
  simp [Op.eqFields,go_sem]
  by_cases h1:a = a' <;> by_cases h2:b = b' <;> by_cases h3:c = c' <;> by_cases h4:d = d' <;> simp [h1,h2,h3,h4]

theorem Tryz.info34 : (Tryz.prog.info? 34).map (fun i => (i.zero,i.size,i.bytes)) = some (some (.agg #[.int .i64 0,.int .i64 0,.int .i64 0,.int .i64 0]),4,32) := by kernel_rfl

def quadL:List Qd -> List Value
  | [] => []
  | q :: L => .int .i64 q.s :: .int .i64 q.p :: .int .i64 q.o :: .int .i64 q.g :: quadL L
theorem quadL_app:∀ (L M:List Qd),quadL (L ++ M) = quadL L ++ quadL M
  | [],M => rfl
  | q :: L,M => by
    show _ :: _ :: _ :: _ :: quadL (L ++ M) = _
    rw [quadL_app L M]
    rfl
theorem quadL_get:∀ (L:List Qd) (i:Nat) (h:i < L.length),(quadL L)[i * 4]? = some (.int .i64 L[i].s) /\ (quadL L)[i * 4 + 1]? = some (.int .i64 L[i].p) /\ (quadL L)[i * 4 + 2]? = some (.int .i64 L[i].o) /\ (quadL L)[i * 4 + 3]? = some (.int .i64 L[i].g)
  | [],i,h => absurd h (Nat.not_lt_zero _)
  | q :: L,0,h => ⟨rfl,rfl,rfl,rfl⟩
  | q :: L,i + 1,h => by
    have hh := quadL_get L i (by simpa using h)
    have e:∀ t,(quadL (q :: L))[(i + 1) * 4 + t]? = (quadL L)[i * 4 + t]? := fun t => by
      rw [show (i + 1) * 4 + t = (i * 4 + t) + 1 + 1 + 1 + 1 by omega]
      rfl
    have e0 := e 0
    rw [Nat.add_zero,Nat.add_zero] at e0
    exact ⟨e0.trans hh.1,(e 1).trans hh.2.1,(e 2).trans hh.2.2.1,(e 3).trans hh.2.2.2⟩
def RdQ (w:World) (a:Option Addr) (L:List Qd):Prop :=
  L.length = 0 \/ ∃ b,a = some ⟨b,0,none⟩ /\ ∀ i (h:i < L.length),w.cell? ⟨b,i * 4,none⟩ = some (.int .i64 L[i].s) /\ w.cell? ⟨b,i * 4 + 1,none⟩ = some (.int .i64 L[i].p) /\ w.cell? ⟨b,i * 4 + 2,none⟩ = some (.int .i64 L[i].o) /\ w.cell? ⟨b,i * 4 + 3,none⟩ = some (.int .i64 L[i].g)
theorem RdQ.below {w w' : World} {a:Option Addr} {L:List Qd} (h:RdQ w a L) (hb:Below w.heap.size w w'):RdQ w' a L := by
  rcases h with h | ⟨b,rfl,hc⟩
  · exact Or.inl h
  · refine Or.inr ⟨b,rfl,fun i hi => ?_⟩
    obtain ⟨h0,h1,h2,h3⟩ := hc i hi
    exact ⟨by rw [hb.cell (World.block_lt_of_cell? _ _ h0)]; exact h0,by rw [hb.cell (World.block_lt_of_cell? _ _ h1)]; exact h1,by rw [hb.cell (World.block_lt_of_cell? _ _ h2)]; exact h2,by rw [hb.cell (World.block_lt_of_cell? _ _ h3)]; exact h3⟩
theorem own_rdq {w:World} {B:Nat} {a:Option Addr} {c:Nat} {L:List Qd} (h:w.ownsRow B 34 4 (.slice a L.length c) L.length (quadL L)):RdQ w a L := by
  obtain ⟨a',c',e,hf⟩ := own_form h
  injection e with e
  subst e
  by_cases h0:L.length = 0
  · exact .inl h0
  · obtain ⟨g,rfl,_,_,hc⟩ := hf h0
    refine .inr ⟨g,rfl,fun i hi => ?_⟩
    obtain ⟨q0,q1,q2,q3⟩ := quadL_get L i hi
    exact ⟨hc _ _ q0,hc _ _ q1,hc _ _ q2,hc _ _ q3⟩
theorem qd_eq {x y:Qd}:(x.s == y.s && (x.p == y.p && (x.o == y.o && x.g == y.g))) = true ↔ x = y := by
  obtain ⟨a,b,c,d⟩ := x
  obtain ⟨a',b',c',d'⟩ := y
  simp

set_option maxHeartbeats 2000000 in
theorem l5Has_any (a:Option Addr) (n c:Nat) (L:List Qd) (q:Qd) (w:World) (h:RdQ w a L) (hn:n = L.length) (hn2:n <= 1048576) :
    Calls Tryz.prog 43 #[.slice a n c,qv q] w fun e w' => ∃ b:Bool,e = .returned (.bool b) /\ (b = true ↔ q ∈ L) /\ Below w.heap.size w w' := by
  have HR:Hid (RdQ w a L /\ n = L.length) := ⟨h,hn⟩
  clear h hn
  have hEq := eqQ
  unfold qv
  go_enter Tryz.func43,Tryz.ntmps43
  go_wp2
  go_loopw [5] (fun i wr => ∃ k:Nat,k <= n /\ i = .int .i64 k /\ (∀ j (h:j < L.length),j < k -> L[j] ≠ q) /\ Below w.heap.size w wr /\ Bx wr w.heap.size 34 #[.int .i64 q.s,.int .i64 q.p,.int .i64 q.o,.int .i64 q.g]) (fun i _ => n - (intOf i).toNat)
  case atStart => exact ⟨0,Nat.zero_le _,rfl,fun j _ hj => absurd hj (Nat.not_lt_zero _),below_alloc _ _,Bx.new _ _ _⟩
  case round =>
    obtain ⟨k,hk,rfl,hall,hbel,hbx⟩ := hrel
    have HS:Hid ((∀ j (h:j < L.length),j < k -> L[j] ≠ q) /\ Below w.heap.size w wr /\ Bx wr w.heap.size 34 #[.int .i64 q.s,.int .i64 q.p,.int .i64 q.o,.int .i64 q.g]) := ⟨hall,hbel,hbx⟩
    by_cases hlt:k < n
    · have hkL:k < L.length := by rw [<- HR.out.2]; exact hlt
      rcases HR.out.1.below hbel with h0 | ⟨b,rfl,hc⟩
      · omega
      obtain ⟨s0,s1,s2,s3⟩ := hc k hkL
      have z0 := hbx.cell 0
      have z1 := hbx.cell 1
      have z2 := hbx.cell 2
      have z3 := hbx.cell 3
      simp at z0 z1 z2 z3
      have i0:(0:Int) <= (k:Int) := by omega
      have i1:(k:Int) < (n:Int) := by omega
      have HE := qd_eq (x := L[k]) (y := q)
      clear hc hall hbel hbx
      obtain ⟨x,hx⟩:∃ x,x = L[k] := ⟨_,rfl⟩
      have HXk:Hid (L[k] = x) := hx.symm
      rw [<- hx] at s0 s1 s2 s3 HE
      clear hx
      by_cases he:x = q
      · have HY:Hid (L[k] = q) := HXk.out.trans he
        have hE:∀ W:World,(Op.equalIn 10000 34 (.agg #[.int .i64 x.s,.int .i64 x.p,.int .i64 x.o,.int .i64 x.g]) (.agg #[.int .i64 q.s,.int .i64 q.p,.int .i64 q.o,.int .i64 q.g])).run Tryz.prog W = .ok true W := fun W => by rw [hEq,HE.2 he]
        clear hEq HE he
        go_wp2
        go_quiet (fail)
        go_wp2
        go_ret
        exact ⟨true,rfl,by simp only [true_iff]; rw [<- HY.out]; exact List.getElem_mem _,below_drewN HS.out.2.1 _⟩
      · have hE:∀ W:World,(Op.equalIn 10000 34 (.agg #[.int .i64 x.s,.int .i64 x.p,.int .i64 x.o,.int .i64 x.g]) (.agg #[.int .i64 q.s,.int .i64 q.p,.int .i64 q.o,.int .i64 q.g])).run Tryz.prog W = .ok false W := fun W => by
          have e:(x.s == q.s && (x.p == q.p && (x.o == q.o && x.g == q.g))) = false := by
            cases hb:(x.s == q.s && (x.p == q.p && (x.o == q.o && x.g == q.g))) with
            | false => rfl
            | true => exact absurd (HE.1 hb) he
          rw [hEq,e]
        have HN:Hid (∀ j (h:j < L.length),j < k + 1 -> L[j] ≠ q) := fun j hj hj2 => by
          by_cases e:j = k
          · subst e
            rw [HXk.out]
            exact he
          · exact HS.out.1 j hj (by omega)
        clear hEq HE he
        go_wp2
        go_quiet (fail)
        go_wp2
        go_roundw
        case rel => exact ⟨k + 1,by omega,by go_num,HN.out,below_drewN HS.out.2.1 _,HS.out.2.2⟩
        case measure => simp [intOf]; omega
    · obtain rfl:k = n := by omega
      have HN:Hid (q ∉ L) := fun hm => by
        obtain ⟨j,hj,e⟩ := List.getElem_of_mem hm
        exact HS.out.1 j hj (by rw [HR.out.2]; exact hj) e
      clear hall hbel hbx
      go_wp2
      go_ret
      exact ⟨false,rfl,by simp [HN.out],HS.out.2.1⟩
end Go.Proofs.YtcnollkkigiobaaGreat
namespace Go.Proofs.YtcnollkkigiobaaGreat
open Go.RowKit Go.Deep Go.MapKept Go.ChangeMaps

theorem undQ:Tryz.prog.underlying 34 = some (.struct #[{ name := "S",type := 2,offset := 0,embedded := false,tag := "",pkgPath := "",byteOffset := 0 },{ name := "P",type := 2,offset := 1,embedded := false,tag := "",pkgPath := "",byteOffset := 8 },{ name := "O",type := 2,offset := 2,embedded := false,tag := "",pkgPath := "",byteOffset := 16 },{ name := "G",type := 2,offset := 3,embedded := false,tag := "",pkgPath := "",byteOffset := 24 }]) := by kernel_rfl

theorem undI:Tryz.prog.underlying 2 = some (.int .i64) := by kernel_rfl
theorem checkI (e:Bool) (n:Nat) (x:Int) (w:World):(Instr.checkKey e (n + 1) 2 (.int .i64 x)).run Tryz.prog w = .ok () w := run_checkKey undI (by simp [IsKey]) e n
theorem partI (x y z u:Int) (i:Nat) (hi:i < 4) (w:World):∃ r,(part 2 #[.int .i64 x,.int .i64 y,.int .i64 z,.int .i64 u] i).run Tryz.prog w = .ok (.int .i64 r) w := by
  rcases (show i = 0 \/ i = 1 \/ i = 2 \/ i = 3 by omega) with rfl | rfl | rfl | rfl
  · exact ⟨x,by simp [go_sem]⟩
  · exact ⟨y,by simp [go_sem]⟩
  · exact ⟨z,by simp [go_sem]⟩
  · exact ⟨u,by simp [go_sem]⟩
set_option maxHeartbeats 400000 in
theorem checkQ' (e:Bool) (n:Nat) (q:Qd) (w:World):(Instr.checkKey e (n + 1 + 1) 34 (qv q)).run Tryz.prog w = .ok () w := by
  unfold qv
  obtain ⟨r0,p0⟩ := partI q.s q.p q.o q.g 0 (by omega) w
  obtain ⟨r1,p1⟩ := partI q.s q.p q.o q.g 1 (by omega) w
  obtain ⟨r2,p2⟩ := partI q.s q.p q.o q.g 2 (by omega) w
  obtain ⟨r3,p3⟩ := partI q.s q.p q.o q.g 3 (by omega) w
  rw [Instr.checkKey]
  simp only [Sem.run_bind,run_underlying undQ,Result.andThen_ok]
  rw [<- Array.forIn_toList]
  simp only [List.forIn_cons,List.forIn_nil,Sem.run_bind,Sem.run_ite,Sem.run_pure,Result.andThen_ok,p0,checkI]
  simp [p1,p2,p3,checkI]
theorem checkQ (e:Bool) (q:Qd) (w:World):(Instr.checkKey e 10000 34 (qv q)).run Tryz.prog w = .ok () w := checkQ' e 9998 q w
theorem equalQ_yes (x:Qd) (w:World):(Op.equal 34 (qv x) (qv x)).run Tryz.prog w = .ok true w := by
  show (Op.equalIn 10000 34 (qv x) (qv x)).run Tryz.prog w = _
  unfold qv
  rw [eqQ,(qd_eq (x := x) (y := x)).2 rfl]
theorem equalQ_no {x y:Qd} (h:x ≠ y) (w:World):(Op.equal 34 (qv x) (qv y)).run Tryz.prog w = .ok false w := by
  show (Op.equalIn 10000 34 (qv x) (qv y)).run Tryz.prog w = _
  unfold qv
  rw [eqQ]
  cases hb:(x.s == y.s && (x.p == y.p && (x.o == y.o && x.g == y.g))) with
  | false => rfl
  | true => exact absurd (qd_eq.1 hb) h
def EsQ (es:List MapEntry) (L:List Qd):Prop := es.map (fun e => (e.key,e.val)) = L.map (fun q => (qv q,.agg #[]))
theorem find_q (q:Qd) (w:World):∀ (es:List MapEntry) (L:List Qd) (i:Nat),EsQ es L ->
    (q ∉ L /\ (Instr.findAsking 34 (qv q) es i).run Tryz.prog w = .ok none w) \/ (q ∈ L /\ ∃ j,(Instr.findAsking 34 (qv q) es i).run Tryz.prog w = .ok (some (j,.agg #[])) w)
  | [],[],i,_ => .inl ⟨by simp,by rw [Instr.findAsking]; rfl⟩
  | [],x :: L,i,h => by simp [EsQ] at h
  | e :: es,[],i,h => by simp [EsQ] at h
  | e :: es,x :: L,i,h => by
    have h2:e.key = qv x /\ e.val = .agg #[] /\ EsQ es L := by
      unfold EsQ at h
      rw [List.map_cons,List.map_cons] at h
      injection h with h1 h2
      injection h1 with h1 h3
      exact ⟨h1,h3,h2⟩
    obtain ⟨h3,h4,h5⟩ := h2
    by_cases e0:q = x
    · refine .inr ⟨by simp [e0],i,?_⟩
      rw [Instr.findAsking,h3,h4,e0]
      simp [equalQ_yes]
    · rcases find_q q w es L (i + 1) h5 with ⟨m,r⟩ | ⟨m,j,r⟩
      · refine .inl ⟨by simp [e0,m],?_⟩
        rw [Instr.findAsking,h3]
        simp [equalQ_no e0,r]
      · refine .inr ⟨by simp [m],j,?_⟩
        rw [Instr.findAsking,h3]
        simp [equalQ_no e0,r]
theorem findK_q (q:Qd) (w:World) (es:List MapEntry) (L:List Qd) (h:EsQ es L) :
    (q ∉ L /\ (Instr.findKey 34 (qv q) es).run Tryz.prog w = .ok none w) \/ (q ∈ L /\ ∃ j,(Instr.findKey 34 (qv q) es).run Tryz.prog w = .ok (some (j,.agg #[])) w) := by
  have hk:(Instr.findKey 34 (qv q) es).run Tryz.prog w = (Instr.findAsking 34 (qv q) es).run Tryz.prog w := by
    unfold Instr.findKey
    simp only [Sem.run_bind,run_underlying undQ,Result.andThen_ok]
    cases es with
    | nil => rfl
    | cons e es => rfl
  rw [hk]
  exact find_q q w es L 0 h
def QMap (w:World) (B:Nat) (L:List Qd):Prop := ∃ es clock,w.heap[B]? = some (.map es clock) /\ EsQ es.toList L
theorem QMap.lt {w:World} {B:Nat} {L:List Qd} (h:QMap w B L):B < w.heap.size := by
  obtain ⟨es,c,h,_⟩ := h
  exact (Array.getElem?_eq_some_iff.1 h).1
theorem QMap.kept {w w' : World} {B:Nat} {L:List Qd} (h:QMap w B L) (hb:w'.heap[B]? = w.heap[B]?):QMap w' B L := by
  obtain ⟨es,c,h,q⟩ := h
  exact ⟨es,c,hb.trans h,q⟩
theorem QMap.below {w w' : World} {B:Nat} {L:List Qd} (h:QMap w B L) (hb:Below w.heap.size w w'):QMap w' B L := h.kept (hb.block _ h.lt)
theorem qmap_new (w:World):QMap (w.alloc (.map #[] 0)) w.heap.size [] := ⟨#[],0,blk_alloc_new _ _,rfl⟩

theorem undM:Tryz.prog.underlying 111 = some (.map 34 163) := by kernel_rfl
theorem QMap.look {w:World} {B:Nat} {L:List Qd} (h:QMap w B L) (q:Qd):∃ b,(b = true ↔ q ∈ L) /\ (Instr.lookup 111 (.map (some B)) (qv q) true).run Tryz.prog w = .ok (.tuple #[.agg #[],.bool b]) w := by
  obtain ⟨es,c,hb,he⟩ := h
  rcases findK_q q w es.toList L he with ⟨m,r⟩ | ⟨m,j,r⟩
  · exact ⟨false,by simp [m],by simp [Instr.lookup,run_underlying undM,MapKept.run_getObj_map hb,checkQ,r,Result.andThen]⟩
  · exact ⟨true,by simp [m],by simp [Instr.lookup,run_underlying undM,MapKept.run_getObj_map hb,checkQ,r,Result.andThen]⟩
theorem QMap.put {w:World} {B:Nat} {L:List Qd} (h:QMap w B L) (q:Qd) (hn:q ∉ L):∃ w',(Instr.mapUpdate 111 (.map (some B)) (qv q) (.agg #[])).run Tryz.prog w = .ok () w' /\ QMap w' B (L ++ [q]) /\ w.grownBy w' (some B) := by
  obtain ⟨es,clock,hb,he⟩ := h
  rcases findK_q q w es.toList L he with ⟨m,r⟩ | ⟨m,_⟩
  · refine ⟨setBlock w B (.map (es.push { key := qv q,val := .agg #[],born := clock }) (clock + 1)),?_,⟨_,_,heap_setBlock_same hb _,?_⟩,⟨rfl,rfl,rfl,by simp [setBlock],fun i _ hi => heap_setBlock_other hb _ (fun e => hi (by rw [e]))⟩⟩
    · simp [Instr.mapUpdate,run_underlying undM,MapKept.run_getObj_map hb,checkQ,r,MapKept.run_setObj_map _ hb,Result.andThen,setBlock]
    · unfold EsQ at he ⊢
      rw [Array.toList_push,List.map_append,List.map_append,he]
      rfl
  · exact absurd m hn
theorem QMap.len {w:World} {B:Nat} {L:List Qd} (h:QMap w B L) (ty:TypeId):(Builtin.len_ #[111] ty #[.map (some B)]).run Tryz.prog w = .ok (.int .i64 L.length) w := by
  obtain ⟨es,clock,hb,he⟩ := h
  have hs:es.size = L.length := by
    have := congrArg List.length he
    simpa using this
  simp [Builtin.len_,run_underlying undM,MapKept.run_getObj_map hb,Result.andThen,hs,goInt]
end Go.Proofs.YtcnollkkigiobaaGreat
namespace Go.Proofs.YtcnollkkigiobaaGreat
open Go.RowKit Go.Deep

theorem RdS.cellOf {w:World} {a:Option Addr} {n:Nat} {X:Nat -> ByteArray} (h:RdS w a n X) (i:Nat) (hi:i < n):∃ b o,a = some ⟨b,o,none⟩ /\ w.cell? ⟨b,o + i,none⟩ = some (.string (X i)) := by
  rcases h with q | ⟨b,o,rfl,hc⟩
  · omega
  · exact ⟨b,o,rfl,hc i hi⟩
theorem gt_in {L:List ByteArray} {i:Nat} (h:i < L.length):gt L i = L[i] := by
  unfold gt
  rw [List.getD_eq_getElem?_getD,List.getElem?_eq_getElem h]
  rfl

def Ex1 (b:Nat) (w w' : World):Prop := w'.os = w.os /\ w'.tape = w.tape /\ w'.output = w.output /\ w.heap.size <= w'.heap.size /\ ∀ k,k < w.heap.size -> k ≠ b -> w'.heap[k]? = w.heap[k]?
theorem Ex1.refl (b:Nat) (w:World):Ex1 b w w := ⟨rfl,rfl,rfl,Nat.le_refl _,fun _ _ _ => rfl⟩
theorem Ex1.below {b:Nat} {w w1 w2:World} (h:Ex1 b w w1) (hb:Below w1.heap.size w1 w2):Ex1 b w w2 := ⟨hb.os.trans h.1,hb.tape.trans h.2.1,hb.output.trans h.2.2.1,Nat.le_trans h.2.2.2.1 hb.size,fun k hk hn => (hb.block k (Nat.lt_of_lt_of_le hk h.2.2.2.1)).trans (h.2.2.2.2 k hk hn)⟩
theorem Ex1.grown {b:Nat} {w w1 w2:World} {r:Option Nat} (h:Ex1 b w w1) (hg:w1.grownBy w2 r) (hr:∀ g,r = some g -> g = b \/ w.heap.size <= g):Ex1 b w w2 := ⟨hg.os.trans h.1,hg.tape.trans h.2.1,hg.output.trans h.2.2.1,Nat.le_trans h.2.2.2.1 hg.size,fun k hk hn => (hg.block k (Nat.lt_of_lt_of_le hk h.2.2.2.1) (fun e => by rcases hr k e.symm with q | q <;> omega)).trans (h.2.2.2.2 k hk hn)⟩
theorem Ex1.bel {b B:Nat} {w w' : World} (h:Ex1 b w w') (hB:B <= w.heap.size) (hb:B <= b):Below B w w' := ⟨h.1,h.2.1,h.2.2.1,h.2.2.2.1,fun k hk => h.2.2.2.2 k (by omega) (by omega)⟩
theorem RdS.ex1 {b:Nat} {w w' : World} {a:Option Addr} {n:Nat} {X:Nat -> ByteArray} (h:RdS w a n X) (he:Ex1 b w w') (hne:∀ g o,a = some ⟨g,o,none⟩ -> g ≠ b):RdS w' a n X := by
  rcases h with q | ⟨g,o,rfl,hc⟩
  · exact .inl q
  · refine .inr ⟨g,o,rfl,fun i hi => ?_⟩
    have hl := World.block_lt_of_cell? _ _ (hc i hi)
    rw [World.cell?_of_block (a := ⟨g,o + i,none⟩) (he.2.2.2.2 g hl (hne g o rfl))]
    exact hc i hi

set_option maxHeartbeats 4000000 in
theorem l5Quads_any (perm:Nat) (hp:perm < 6) (a:Option Addr) (n c:Nat) (N:Nat -> Tn) (t:Ro 21) (w:World) (h:RdTn w a n N) (hv:VTt n N t) (hf:∀ i,i < n -> TnFit (N i)) (hk:∀ k,k ∈ keysR 21 t -> k.size = 16) (hl:(keysR 21 t).length <= 300) (L:List Qd) (hL:L = (keysR 21 t).map (quadOf perm)) :
    Calls Tryz.prog 33 #[.agg #[.slice a n c],.int .i64 (perm:Int)] w fun e w' => ∃ a' c',e = .returned (.slice a' L.length c') /\ RdQ w' a' L /\ Below w.heap.size w w' := by
  have hn5 := hv.2.1
  have hend := nestR_end hv.2.2.1
  have HR:Hid (RdTn w a n N /\ VTt n N t /\ (∀ i,i < n -> TnFit (N i)) /\ (∀ k,k ∈ keysR 21 t -> k.size = 16) /\ L = (keysR 21 t).map (quadOf perm) /\ nodesR 21 t <= 5000 /\ perm < 6) := ⟨h,hv,hf,hk,hL,by omega,hp⟩
  have HB0:Hid (∀ O1 O2:Obj,Below w.heap.size w ((w.alloc O1).alloc O2)) := fun _ _ => (below_alloc _ _).alloc (by simp) _
  have HOf:Hid (∀ W,Below w.heap.size w W -> Calls Tryz.prog 57 #[.agg #[.slice a n c]] W (RetOf W n N)) := fun W hW => of_any a n c N W (h.below hW) (by omega) hf
  obtain ⟨i0,hi0,hz0,hz1,hz2⟩ := info_parts Tryz.info34
  have HI:Hid (Tryz.prog.info? 34 = some i0 /\ i0.zero = some (.agg #[.int .i64 0,.int .i64 0,.int .i64 0,.int .i64 0]) /\ i0.size = 4 /\ i0.bytes = 32) := ⟨hi0,hz0,hz1,hz2⟩
  clear h hv hf hk hL hp hend hi0 hz0 hz1 hz2
  go_enter Tryz.func33,Tryz.ntmps33
  go_wp2_with fail
  (with_reducible refine (HOf.out _ (HB0.out _ _)).mono ?_)
  rintro e w1 ⟨hb1,lf,ka,kn,kc,ca,cn,cc,ok,rfl,hr⟩
  have HO1:Hid (w1.ownsRow (w.heap.size + 1) 34 4 (.slice (some ⟨w.heap.size + 1,0,none⟩) 0 0) 0 [] /\ Below w.heap.size w w1) := by
    have q := own_empty (w.alloc (.cells #[.slice a n c] 59)) 34 (w.heap.size + 1) 4 (by simp)
    rw [World.size_alloc] at q
    exact ⟨own_below q hb1,(HB0.out _ _).trans (hb1.mono (by simp; omega))⟩
  rcases hr with ⟨rfl,hno,_⟩ | ⟨rfl,t',hv',hna⟩
  · exact absurd ⟨t,HR.out.2.1⟩ hno
  have et:t' = t := by
    have q := hv'.2.2.1
    rw [HR.out.2.1.2.2.1] at q
    injection q with q
    injection q with q _
    exact q.symm
  subst et
  have HNA:Hid (NA w1 21 t' (.agg #[.bool lf,.slice ka kn kc,.slice ca cn cc])) := hna
  have HKeys:Hid (∀ W,Below w1.heap.size w1 W -> Calls Tryz.prog 58 #[.agg #[.bool lf,.slice ka kn kc,.slice ca cn cc]] W (RetStrs W (keysR 21 t'))) := fun W hW => keys_any 21 t' _ W (HNA.out.below hW) HR.out.2.2.2.2.2.1 (by omega)
  have hz1:w.heap.size + 2 <= w1.heap.size := by have := hb1.size; simpa using this
  clear hna hb1 hv' HOf HB0
  go_wp2_with fail
  (with_reducible refine (HKeys.out _ (below_alloc _ _)).mono ?_)
  rintro e w3 ⟨a3,c3,rfl,ho3,hb3,_,_⟩
  have hb13:Below w1.heap.size w1 w3 := (below_alloc _ _).trans (hb3.mono (by simp))
  obtain ⟨kl,hkl⟩:∃ kl,kl = (keysR 21 t').length := ⟨_,rfl⟩
  have HKL:Hid (kl = (keysR 21 t').length) := hkl
  have S3:Hid ((kl ≠ 0 -> ∃ g,a3 = some ⟨g,0,none⟩ /\ g ≠ w.heap.size + 1) /\ RdS w3 a3 kl (gt (keysR 21 t')) /\ w3.ownsRow (w.heap.size + 1) 34 4 (.slice (some ⟨w.heap.size + 1,0,none⟩) 0 0) 0 [] /\ Below w.heap.size w w3 /\ w.heap.size + 1 <= w3.heap.size) := by
    have q := HO1.out.2.trans (hb13.mono HO1.out.2.size)
    have qs := hb13.size
    refine ⟨fun h0 => ?_,by rw [hkl]; exact ho3.rd,own_below HO1.out.1 hb13,q,by omega⟩
    rcases ho3 with h' | ⟨g,e,hg,_⟩
    · omega
    · exact ⟨g,e,by simp at hg; omega⟩
  rw [<- hkl] at hl ⊢
  clear hkl ho3 hb3 hb13 HO1 HKeys HNA
  go_wp2
  go_loopw [5,9] (fun out i wr => ∃ (k:Nat) (R:List Qd),k <= kl /\ i = .int .i64 k /\ R = ((keysR 21 t').take k).map (quadOf perm) /\ wr.ownsRow (w.heap.size + 1) 34 4 out R.length (quadL R) /\ Ex1 (w.heap.size + 1) w3 wr /\ (∀ g,out.ownBlock = some g -> g = w.heap.size + 1 \/ w3.heap.size <= g)) (fun _ i _ => kl - (intOf i).toNat)
  case atStart => exact ⟨0,[],Nat.zero_le _,rfl,rfl,S3.out.2.2.1,Ex1.refl _ _,fun g e => .inl (by simp [Value.ownBlock] at e; omega)⟩
  case round =>
    obtain ⟨k,R,hk,rfl,hR,hown,hex,hblk⟩ := hrel
    obtain ⟨ar,cr,er,_⟩ := own_form hown
    subst er
    have hRl:R.length = k := by rw [hR,List.length_map,List.length_take,<- HKL.out]; omega
    have HQ:Hid (wr.ownsRow (w.heap.size + 1) 34 4 (.slice ar R.length cr) R.length (quadL R) /\ Ex1 (w.heap.size + 1) w3 wr /\ R = ((keysR 21 t').take k).map (quadOf perm) /\ (∀ g,(Value.slice ar R.length cr).ownBlock = some g -> g = w.heap.size + 1 \/ w3.heap.size <= g) /\ R.length = k) := ⟨hown,hex,hR,hblk,hRl⟩
    clear hown hex hR hblk hRl
    obtain ⟨rl,hrl⟩:∃ rl,rl = R.length := ⟨_,rfl⟩
    have HRl:Hid (rl = R.length) := hrl
    have hrlk:rl = k := hrl.trans HQ.out.2.2.2.2
    have hrlk1:rl <= k := by omega
    rw [<- hrl] at HQ ⊢
    clear hrl
    have k0:(0:Int) <= (k:Int) := by omega
    by_cases hlt:k < kl
    · have k1:(k:Int) < (kl:Int) := by omega
      have hkK:k < (keysR 21 t').length := by rw [<- HKL.out]; exact hlt
      obtain ⟨gk,ea,hgne⟩ := S3.out.1 (by omega)
      have hrd:RdS wr a3 kl (gt (keysR 21 t')) := S3.out.2.1.ex1 HQ.out.2.1 (fun g o e => by
        rw [ea] at e
        injection e with e
        injection e with e
        omega)
      obtain ⟨bb,oo,ea2,s1⟩ := hrd.cellOf k hlt
      obtain ⟨key,hkey⟩:∃ key,key = gt (keysR 21 t') k := ⟨_,rfl⟩
      rw [<- hkey] at s1
      have HKy:Hid (key = (keysR 21 t')[k] /\ key.size = 16) := by
        have e:key = (keysR 21 t')[k] := by rw [hkey,gt_in hkK]
        exact ⟨e,by rw [e]; exact HR.out.2.2.2.1 _ (List.getElem_mem hkK)⟩
      have HQd:Hid (Calls Tryz.prog 59 #[.string key,.int .i64 (perm:Int)] wr fun e w' => e = .returned (qv (quadOf perm key)) /\ Below wr.heap.size wr w') := l5Quad_any perm HR.out.2.2.2.2.2.2 key HKy.out.2 wr
      clear hkey hrd ea hrlk
      subst ea2
      go_wp2_with fail
      (with_reducible refine HQd.out.mono ?_)
      rintro e w5 ⟨rfl,hb5⟩
      obtain ⟨qd,hqd⟩:∃ qd,qd = quadOf perm key := ⟨_,rfl⟩
      have HQq:Hid (qd = quadOf perm key) := hqd
      rw [<- hqd]
      unfold qv
      have HO5:Hid ((w5.alloc (.cells #[.int .i64 qd.s,.int .i64 qd.p,.int .i64 qd.o,.int .i64 qd.g] 34)).ownsRow (w.heap.size + 1) 34 4 (.slice ar rl cr) rl (quadL R) /\ Ex1 (w.heap.size + 1) w3 (w5.alloc (.cells #[.int .i64 qd.s,.int .i64 qd.p,.int .i64 qd.o,.int .i64 qd.g] 34)) /\ (∀ j u,(quadL [qd])[j]? = some u -> (w5.alloc (.cells #[.int .i64 qd.s,.int .i64 qd.p,.int .i64 qd.o,.int .i64 qd.g] 34)).cell? ⟨w5.heap.size,j,none⟩ = some u)) := by
        refine ⟨own_below (own_below HQ.out.1 hb5) (below_alloc _ _),(HQ.out.2.1.below hb5).below (below_alloc _ _),fun j u hj => ?_⟩
        rw [(Bx.new w5 #[.int .i64 qd.s,.int .i64 qd.p,.int .i64 qd.o,.int .i64 qd.g] 34).cell j]
        simpa [quadL] using hj
      have hz5 := hb5.size
      have hzr := HQ.out.2.1.2.2.2.1
      have hz3 := S3.out.2.2.2.2
      clear hb5 hqd HQd
      go_wp2_with (at_builtin; refine wpList_append_own_at _ rfl _ _ 28 rfl (w.heap.size + 1) 34 i0 _ 4 32 Tryz.underlying28 HI.out.1 HI.out.2.1 HI.out.2.2.1 HI.out.2.2.2 rfl (by decide) (.slice ar rl cr) rl (quadL R) rfl HO5.out.1 ⟨w5.heap.size,0,none⟩ 1 1 (quadL [qd]) rfl rfl (fun j u hj => by rw [Addr.add_lit,Nat.zero_add]; exact HO5.out.2.2 j u hj) (by intro u hu; simp [quadL] at hu; rcases hu with rfl | rfl | rfl | rfl <;> rfl) (by unfold maxLen; omega) (by omega) (by simp; omega) ?_)
      intro v7 w7 ho7 hg7 _ hat7
      have H7:Hid (w7.ownsRow (w.heap.size + 1) 34 4 v7 (R ++ [qd]).length (quadL (R ++ [qd])) /\ Ex1 (w.heap.size + 1) w3 w7 /\ (∀ g,v7.ownBlock = some g -> g = w.heap.size + 1 \/ w3.heap.size <= g)) := by
        refine ⟨by rw [quadL_app,List.length_append,<- HRl.out]; exact ho7,HO5.out.2.1.grown hg7 HQ.out.2.2.2.1,fun g e => ?_⟩
        rcases hat7 with q | q
        · exact HQ.out.2.2.2.1 g (by rw [<- q]; exact e)
        · rw [q] at e
          injection e with e
          exact .inr (by omega)
      have HN:Hid (R ++ [qd] = ((keysR 21 t').take (k + 1)).map (quadOf perm)) := by
        show R ++ [qd] = _
        rw [List.take_add_one,List.getElem?_eq_getElem hkK,List.map_append,<- HQ.out.2.2.1,HQq.out,HKy.out.1]
        rfl
      obtain ⟨a7,c7,e7,_⟩ := own_form ho7
      subst e7
      clear ho7 hg7 hat7 HO5
      go_wp2
      go_roundw
      case rel => exact ⟨k + 1,R ++ [qd],by omega,by go_num,HN.out,H7.out⟩
      case measure => simp [intOf]; omega
    · obtain rfl:k = kl := by omega
      have k1:¬ (k:Int) < (k:Int) := by omega
      have HF:Hid (R = L /\ RdQ wr ar L /\ Below w.heap.size w wr /\ rl = L.length) := by
        have e:R = L := by rw [HQ.out.2.2.1,HR.out.2.2.2.2.1,HKL.out,List.take_length]
        have ho := HQ.out.1
        rw [HRl.out] at ho
        refine ⟨e,by rw [<- e]; exact own_rdq ho,S3.out.2.2.2.1.trans (HQ.out.2.1.bel S3.out.2.2.2.1.size (by omega)),by rw [<- e]; exact HRl.out⟩
      clear hrlk
      go_wp2
      go_ret
      exact ⟨ar,⟨cr,by rw [<- HF.out.2.2.2]; rfl⟩,HF.out.2.1,HF.out.2.2.1⟩
end Go.Proofs.YtcnollkkigiobaaGreat
namespace Go.Proofs.YtcnollkkigiobaaGreat
open Go.RowKit Go.Deep Go.MapKept Go.ChangeMaps

theorem take_more {L:List Qd} {k:Nat} (h:k < L.length):L.take (k + 1) = L.take k ++ [L[k]] := by
  rw [List.take_add_one,List.getElem?_eq_getElem h]
  rfl
theorem take_not {L:List Qd} {k:Nat} (hn:L.Nodup) (h:k < L.length):L[k] ∉ L.take k := by
  intro hm
  have e:L = L.take k ++ (L[k] :: L.drop (k + 1)) := by
    rw [List.getElem_cons_drop,List.take_append_drop]
  rw [e] at hn
  have := (List.nodup_append.1 hn).2.2 _ hm _ (List.mem_cons_self ..)
  exact this rfl

set_option maxHeartbeats 2000000 in
theorem setOf_any (a:Option Addr) (n c:Nat) (L:List Qd) (w:World) (h:RdQ w a L) (hn:n = L.length) (hn2:n <= 1048576) (hnd:L.Nodup) :
    Calls Tryz.prog 70 #[.slice a n c] w fun e w' => ∃ B,e = .returned (.map (some B)) /\ QMap w' B L /\ Below w.heap.size w w' /\ w.heap.size <= B := by
  have HR:Hid (RdQ w a L /\ n = L.length /\ L.Nodup) := ⟨h,hn,hnd⟩
  clear h hn hnd
  have hmm := @run_makeMap Tryz.prog
  go_enter Tryz.func70,Tryz.ntmps70
  go_wp2
  go_loopw [5,9] (fun _ i wr => ∃ k:Nat,k <= n /\ i = .int .i64 k /\ QMap wr w.heap.size (L.take k) /\ Below w.heap.size w wr) (fun _ i _ => n - (intOf i).toNat)
  case atStart => exact ⟨0,Nat.zero_le _,rfl,qmap_new w,below_alloc _ _⟩
  case round =>
    obtain ⟨k,hk,rfl,hq,hbel⟩ := hrel
    have HS:Hid (QMap wr w.heap.size (L.take k) /\ Below w.heap.size w wr) := ⟨hq,hbel⟩
    by_cases hlt:k < n
    · have hkL:k < L.length := by rw [<- HR.out.2.1]; exact hlt
      rcases HR.out.1.below hbel with h0 | ⟨b,rfl,hc⟩
      · omega
      obtain ⟨s0,s1,s2,s3⟩ := hc k hkL
      have i0:(0:Int) <= (k:Int) := by omega
      have i1:(k:Int) < (n:Int) := by omega
      have hx0 := take_not HR.out.2.2 hkL
      have hx1 := take_more hkL
      obtain ⟨x,hx⟩:∃ x,x = L[k] := ⟨_,rfl⟩
      rw [<- hx] at s0 s1 s2 s3 hx0 hx1
      obtain ⟨w7,hrun,hm7,hg7⟩ := (hq.below (below_alloc wr (.cells #[.int .i64 x.s,.int .i64 x.p,.int .i64 x.o,.int .i64 x.g] 34))).put x hx0
      have H7:Hid (QMap w7 w.heap.size (L.take (k + 1)) /\ Below w.heap.size w w7) := by
        refine ⟨by rw [hx1]; exact hm7,?_⟩
        have h1 := hbel.trans ((below_alloc wr (.cells #[.int .i64 x.s,.int .i64 x.p,.int .i64 x.o,.int .i64 x.g] 34)).mono hbel.size)
        exact h1.trans (below_grown hg7 h1.size (Nat.le_refl _))
      unfold qv at hrun
      clear hc hq hbel hx hx0 hx1 hm7 hg7
      go_wp2
      go_roundw
      case rel => exact ⟨k + 1,by omega,by go_num,H7.out⟩
      case measure => simp [intOf]; omega
    · obtain rfl:k = n := by omega
      have k1:¬ (k:Int) < (k:Int) := by omega
      clear hq hbel
      go_wp2
      go_ret
      refine ⟨w.heap.size,rfl,?_,HS.out.2,Nat.le_refl _⟩
      have e:L.take k = L := by rw [HR.out.2.1,List.take_length]
      rw [<- e]
      exact HS.out.1

def RetIs (w:World) (L M:List Qd) (e:Ending) (w' : World):Prop := ∃ b:Bool,e = .returned (.bool b) /\ (b = true ↔ (L.length = M.length /\ ∀ q,q ∈ L -> q ∈ M)) /\ Below w.heap.size w w'

set_option maxHeartbeats 2000000 in
theorem isOf_any (B:Nat) (a:Option Addr) (n c:Nat) (L M:List Qd) (w:World) (hm:QMap w B M) (h:RdQ w a L) (hn:n = L.length) (hn2:n <= 1048576) :
    Calls Tryz.prog 71 #[.map (some B),.slice a n c] w (RetIs w L M) := by
  have HR:Hid (RdQ w a L /\ n = L.length /\ QMap w B M) := ⟨h,hn,hm⟩
  clear h hn hm
  go_enter Tryz.func71,Tryz.ntmps71
  go_wp2
  go_loopw [6,7,8,11] (fun _ _ _ i wr => ∃ k:Nat,k <= n /\ i = .int .i64 k /\ (∀ j (h:j < L.length),j < k -> L[j] ∈ M) /\ Below w.heap.size w wr) (fun _ _ _ i _ => n - (intOf i).toNat)
  case atStart => exact ⟨0,Nat.zero_le _,rfl,fun j _ hj => absurd hj (Nat.not_lt_zero _),Below.refl _ _⟩
  case round =>
    obtain ⟨k,hk,rfl,hall,hbel⟩ := hrel
    have HS:Hid ((∀ j (h:j < L.length),j < k -> L[j] ∈ M) /\ Below w.heap.size w wr) := ⟨hall,hbel⟩
    by_cases hlt:k < n
    · have hkL:k < L.length := by rw [<- HR.out.2.1]; exact hlt
      rcases HR.out.1.below hbel with h0 | ⟨b,rfl,hc⟩
      · omega
      obtain ⟨s0,s1,s2,s3⟩ := hc k hkL
      have i0:(0:Int) <= (k:Int) := by omega
      have i1:(k:Int) < (n:Int) := by omega
      obtain ⟨x,hx⟩:∃ x,x = L[k] := ⟨_,rfl⟩
      have HXk:Hid (L[k] = x) := hx.symm
      rw [<- hx] at s0 s1 s2 s3
      obtain ⟨bk,hbk,hl⟩ := ((HR.out.2.2.below hbel).below (below_alloc wr (.cells #[.int .i64 x.s,.int .i64 x.p,.int .i64 x.o,.int .i64 x.g] 34))).look x
      have HBk:Hid (bk = true ↔ x ∈ M) := hbk
      unfold qv at hl
      clear hc hall hbel hx hbk
      cases bk with
      | false =>
        go_wp2
        go_ret
        refine ⟨false,rfl,?_,?_⟩
        · constructor
          · intro h
            cases h
          · rintro ⟨_,hq⟩
            have := HBk.out.2 (by rw [<- HXk.out]; exact hq _ (List.getElem_mem hkL))
            cases this
        · exact HS.out.2.trans (((below_alloc _ _).alloc (by simp) _).mono HS.out.2.size)
      | true =>
        go_wp2
        go_roundw
        case rel =>
          refine ⟨k + 1,by omega,by go_num,fun j hj hjk => ?_,HS.out.2.trans (((below_alloc _ _).alloc (by simp) _).mono HS.out.2.size)⟩
          by_cases e:j = k
          · subst e
            rw [HXk.out]
            exact HBk.out.1 rfl
          · exact HS.out.1 j hj (by omega)
        case measure => simp [intOf]; omega
    · obtain rfl:k = n := by omega
      have k1:¬ (k:Int) < (k:Int) := by omega
      have hln := (HR.out.2.2.below hbel).len
      clear hall hbel
      go_wp2
      go_ret
      refine ⟨((M.length:Int) == (k:Int)),rfl,?_,HS.out.2⟩
      constructor
      · intro h
        have h1:(M.length:Int) = (k:Int) := by simpa using h
        refine ⟨by have := HR.out.2.1; omega,fun q hq => ?_⟩
        obtain ⟨j,hj,e⟩ := List.getElem_of_mem hq
        rw [<- e]
        exact HS.out.1 j hj (by have := HR.out.2.1; omega)
      · rintro ⟨h1,_⟩
        have h2:(M.length:Int) = (k:Int) := by have := HR.out.2.1; omega
        simpa using h2
end Go.Proofs.YtcnollkkigiobaaGreat
