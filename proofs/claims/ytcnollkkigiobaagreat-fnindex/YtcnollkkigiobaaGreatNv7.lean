import Derived.Deep.CutRange
import Derived.Test.YtcnollkkigiobaaGreatNv1
set_option linter.unusedVariables false
set_option linter.unusedSimpArgs false
set_option maxRecDepth 100000
set_option maxHeartbeats 90000000
namespace Go.Proofs.YtcnollkkigiobaaGreat
open Go Go.Deep Go.RowKit Go.Proofs.Tryz
def Bj (x:Int):Bool:=decide (0<=x) && decide (x<=2000000000)
theorem L7 (x:Int) (w:World) :
  UO 100 #[iv x] w λe w'=>e=.returned (.bool (Bj x))/\w'=w:=by
 by_cases b:x=0;.subst b;go_enter func100,ntmps100;go_wp2;go_ret;exact⟨rfl,rfl⟩
 by_cases c:1<=x
 .have a:U (Bj x=(x == 0 || decide (x<=2000000000))):=by show _=_;unfold Bj;rw[decide_eq_true (by omega)];simp[b]
  go_enter func100,ntmps100;go_wp2;go_ret;exact⟨by rw[a.o];rfl,rfl⟩
 .have a:U (Bj x=(x == 0)):=by show _=_;unfold Bj;rw[decide_eq_false (by omega)];simp[b]
  go_enter func100,ntmps100;go_wp2;go_ret;exact⟨by rw[a.o];rfl,rfl⟩
theorem FH (a b c d:Int) (w:World) :
  UO 61 #[.agg #[iv a,iv b,iv c,iv d]] w (UP w (.bool (Bj a && Bj b && Bj c && Bj d))):=by
 have j:Bj a=false\/(Bj a=true/\Bj b=false)\/(Bj a=true/\Bj b=true/\Bj c=false)\/(Bj a=true/\Bj b=true/\Bj c=true/\Bj d=false)\/(Bj a=true/\Bj b=true/\Bj c=true/\Bj d=true):=by cases Bj a <;> cases Bj b <;> cases Bj c <;> cases Bj d <;> simp
 rcases j with f|⟨f,g⟩|⟨f,g,h⟩|⟨f,g,h,i⟩|⟨f,g,h,i⟩;all_goals
  have k:=f
  go_enter func61,ntmps61
  go_wp2_with (first
   | (go_at_call 100;refine (L7 _ _).mono ?_;rintro e l ⟨rfl,rfl⟩)
   | go_in)
  go_ret
  exact⟨by simp_all,(Aa _ _).trans ((Aa _ _).mono (by simp))⟩
theorem Kd (P:Program) (w:World) (a:Addr) (m:Mode) (f:Fn) (x y:Array Value):(store a (.func f x y) m).run P w=stored P w a (.func f x y) m:=run_store P w a _ m rfl
theorem II (w:World) :
  UO 62 #[] w (UP w (.agg #[.func (.func 101) #[] #[],.func (.func 102) #[] #[],.func (.func 103) #[] #[],.func (.func 104) #[] #[],.func (.func 105) #[] #[],.func (.func 106) #[] #[]])):=by
 go_enter func62,ntmps62;go_wp2;simp[Kd,go_sem,stored];rename_i a
 refine a _ _ ?_;go_wp2;refine bodyPost_ret (v:=.agg #[.func (.func 101) #[] #[],.func (.func 102) #[] #[],.func (.func 103) #[] #[],.func (.func 104) #[] #[],.func (.func 105) #[] #[],.func (.func 106) #[] #[]]) (by simp[results,results62,go_sem]) rfl ⟨rfl,Aa _ _⟩
theorem RL (g:Nat) (w:World) :
  UO 101 #[pt g] w (UP w (.agg #[pt g,.pointer (some (ad g 1)),.pointer (some (ad g 2)),.pointer (some (ad g 3))])):=by
 go_enter func101,ntmps101;go_wp2;go_region_held3 (λ_=>True) (go_keep) (fail)
 go_wp2;refine bodyPost_ret (v:=.agg #[pt g,.pointer (some (ad g 1)),.pointer (some (ad g 2)),.pointer (some (ad g 3))]) (by simp[results,results101,go_sem]) rfl ⟨rfl,(Aa _ _).drew⟩
theorem RP (g:Nat) (w:World) :
  UO 102 #[pt g] w (UP w (.agg #[.pointer (some (ad g 1)),.pointer (some (ad g 2)),pt g,.pointer (some (ad g 3))])):=by
 go_enter func102,ntmps102;go_wp2;go_region_held3 (λ_=>True) (go_keep) (fail)
 go_wp2;refine bodyPost_ret (v:=.agg #[.pointer (some (ad g 1)),.pointer (some (ad g 2)),pt g,.pointer (some (ad g 3))]) (by simp[results,results102,go_sem]) rfl ⟨rfl,(Aa _ _).drew⟩
theorem RE (g:Nat) (w:World) :
  UO 103 #[pt g] w (UP w (.agg #[.pointer (some (ad g 2)),pt g,.pointer (some (ad g 1)),.pointer (some (ad g 3))])):=by
 go_enter func103,ntmps103;go_wp2;go_region_held3 (λ_=>True) (go_keep) (fail)
 go_wp2;refine bodyPost_ret (v:=.agg #[.pointer (some (ad g 2)),pt g,.pointer (some (ad g 1)),.pointer (some (ad g 3))]) (by simp[results,results103,go_sem]) rfl ⟨rfl,(Aa _ _).drew⟩
theorem R7 (g:Nat) (w:World) :
  UO 104 #[pt g] w (UP w (.agg #[.pointer (some (ad g 3)),pt g,.pointer (some (ad g 1)),.pointer (some (ad g 2))])):=by
 go_enter func104,ntmps104;go_wp2;go_region_held3 (λ_=>True) (go_keep) (fail)
 go_wp2;refine bodyPost_ret (v:=.agg #[.pointer (some (ad g 3)),pt g,.pointer (some (ad g 1)),.pointer (some (ad g 2))]) (by simp[results,results104,go_sem]) rfl ⟨rfl,(Aa _ _).drew⟩
theorem RS (g:Nat) (w:World) :
  UO 105 #[pt g] w (UP w (.agg #[.pointer (some (ad g 3)),.pointer (some (ad g 1)),.pointer (some (ad g 2)),pt g])):=by
 go_enter func105,ntmps105;go_wp2;go_region_held3 (λ_=>True) (go_keep) (fail)
 go_wp2;refine bodyPost_ret (v:=.agg #[.pointer (some (ad g 3)),.pointer (some (ad g 1)),.pointer (some (ad g 2)),pt g]) (by simp[results,results105,go_sem]) rfl ⟨rfl,(Aa _ _).drew⟩
theorem RO (g:Nat) (w:World) :
  UO 106 #[pt g] w (UP w (.agg #[.pointer (some (ad g 3)),.pointer (some (ad g 2)),pt g,.pointer (some (ad g 1))])):=by
 go_enter func106,ntmps106;go_wp2;go_region_held3 (λ_=>True) (go_keep) (fail)
 go_wp2;refine bodyPost_ret (v:=.agg #[.pointer (some (ad g 3)),.pointer (some (ad g 2)),pt g,.pointer (some (ad g 1))]) (by simp[results,results106,go_sem]) rfl ⟨rfl,(Aa _ _).drew⟩
variable {A B:Array Value}{o o':Nat}{u v:Value}{w w':World}
theorem CS {b:Nat} {t:TypeId} (h:w.heap[b]?=some (.cells A t)) (o:Nat):w.cell? (ad b o)=A[o]?:=by simp[World.cell?,h]
theorem KX {b:Nat} {t:TypeId} (h:w.heap[b]?=some (.cells A t)) (o:Nat):w.frozen? (ad b o)=false:=by simp[World.frozen?,h]
theorem T5 {w2:World} {C:Array Value} {t:TypeId} (a:Below (w.heap.size+3) (((w.alloc (.cells A t)).alloc (.cells B t)).alloc (.cells C t)) w2) :
  (∀o,w2.cell? (ad w.heap.size o)=A[o]?)/\(∀o,w2.cell? (ad (w.heap.size+1) o)=B[o]?)/\(∀o,w2.cell? (ad (w.heap.size+1+1) o)=C[o]?)/\
  (∀o,w2.frozen? (ad (w.heap.size+1) o)=false)/\(∀o,w2.frozen? (ad (w.heap.size+1+1) o)=false)/\w.heap.size+3<=w2.heap.size/\Bl w w2:=by
 have i:(w.alloc (.cells A t)).heap.size=w.heap.size+1:=by simp
 have g:((w.alloc (.cells A t)).alloc (.cells B t)).heap.size=w.heap.size+1+1:=by simp
 have h:=blk_alloc_new w (.cells A t);have b:=blk_alloc_new (w.alloc (.cells A t)) (.cells B t);have d:=blk_alloc_new ((w.alloc (.cells A t)).alloc (.cells B t)) (.cells C t);rw[i] at b;rw[g] at d;have f:=(a.block w.heap.size (by omega)).trans (((Aa _ _).block w.heap.size (by omega)).trans (((Aa _ _).block w.heap.size (by omega)).trans h));have e:=(a.block (w.heap.size+1) (by omega)).trans (((Aa _ _).block (w.heap.size+1) (by omega)).trans b);have c:=(a.block (w.heap.size+1+1) (by omega)).trans d;exact⟨CS f,CS e,CS c,KX e,KX c,by have:=a.size;simp at this;omega,((((Aa _ _).alloc (by simp) _).alloc (by simp;omega) _)).trans (a.mono (by omega))⟩
theorem T7 {t:TypeId} :
  (∀o,((w.alloc (.cells A t)).alloc (.cells B t)).cell? (ad w.heap.size o)=A[o]?)/\(∀o,((w.alloc (.cells A t)).alloc (.cells B t)).cell? (ad (w.heap.size+1) o)=B[o]?)/\
  (∀b o,b<w.heap.size->((w.alloc (.cells A t)).alloc (.cells B t)).cell? (ad b o)=w.cell? (ad b o))/\(∀b o,b<w.heap.size->((w.alloc (.cells A t)).alloc (.cells B t)).frozen? (ad b o)=w.frozen? (ad b o))/\True:=by
 have e:(w.alloc (.cells A t)).heap.size=w.heap.size+1:=by simp
 have d:=blk_alloc_new w (.cells A t);have a:=blk_alloc_new (w.alloc (.cells A t)) (.cells B t);rw[e] at a;have c:=((Aa (w.alloc (.cells A t)) (.cells B t)).block w.heap.size (by omega)).trans d;have q:Bl w ((w.alloc (.cells A t)).alloc (.cells B t)):=(Aa _ _).alloc (by simp) _;exact⟨CS c,CS a,λb o h=>q.cell (p:=(ad b o)) h,λb o h=>q.frozen (p:=(ad b o)) h,trivial⟩
theorem EO {b a:Nat} (h:¬ b=a) (c:w.cell? (ad a o')=some u):(w.setCell (ad b o) v).drew.cell? (ad a o')=some u:=(World.cell?_setCell_far w (ad b o) (ad a o') v h).trans c
theorem Q8 {b:Nat} (h:¬ o=o') (c:w.cell? (ad b o')=some u):(w.setCell (ad b o) v).drew.cell? (ad b o')=some u:=(World.cell?_setCell_other (w:=w) (v:=v) (a:=(ad b o)) (b:=(ad b o')) (by intro e;cases e;exact h rfl)).trans c
theorem Ty {b:Nat} (a:w.cell? (ad b o)=some u):(w.setCell (ad b o) v).drew.cell? (ad b o)=some v:=World.cell?_setCell_same' w (ad b o) v (by rw[a];rfl)
theorem bA {o:Obj} (h:Bl w w'):Bl w (w'.alloc o):=h.alloc h.size o
theorem bS {b:Nat} (a:w.heap.size<=b) (h:Bl w w'):Bl w (w'.setCell (ad b o) v):=h.setCell a v
theorem bD (h:Bl w w'):Bl w w'.drew:=h.drew
end Go.Proofs.YtcnollkkigiobaaGreat
