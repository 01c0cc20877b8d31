import Derived.Test.YtpaomghibppgkaaGreatNv10
import Derived.Test.YtpaomghibppgkaaGreatNv15
set_option linter.unusedVariables false
set_option maxRecDepth 100000
namespace Go.Proofs.YtpaomghibppgkaaGreat
open Go.RowKit Go.Deep

def layF (perm:Nat):Nat:=match perm with
 | 0=>120 | 1=>121 | 2=>122 | 3=>123 | 4=>124 | _=>125
theorem lay_any (perm:Nat) (hp:perm<6) (g:Nat) (w:World):Calls Tryz.prog (layF perm) #[.pointer (some ⟨g,0,none⟩)] w fun e w'=>e=.returned (.agg #[.pointer (some ⟨g,ordF perm 0,none⟩),.pointer (some ⟨g,ordF perm 1,none⟩),.pointer (some ⟨g,ordF perm 2,none⟩),.pointer (some ⟨g,ordF perm 3,none⟩)])/\Below w.heap.size w w':=by
 rcases (show perm=0\/perm=1\/perm=2\/perm=3\/perm=4\/perm=5 by omega) with rfl|rfl|rfl|rfl|rfl|rfl
 ·exact lay_1 g w
 ·exact lay_2 g w
 ·exact lay_3 g w
 ·exact lay_4 g w
 ·exact lay_5 g w
 ·exact lay_6 g w

set_option maxHeartbeats 1000000 in
theorem isNumber_any (x:Int) (w:World):Calls Tryz.prog 99 #[.int .i64 x] w fun e w'=>e=.returned (.bool (numB x))/\w'=w:=by
 by_cases h1:1<=x
 ·have h1d:decide (1<=x)=true:=decide_eq_true h1
  by_cases h2:x<=2000000000
  ·have h2d:decide (x<=2000000000)=true:=decide_eq_true h2
   have hd:numB x=true:=by unfold numB;rw [h1d,h2d];rfl
   rw [hd]
   clear hd
   go_enter Tryz.func99,Tryz.ntmps99
   go_wp2
   go_ret
   exact ⟨rfl,rfl⟩
  ·have h2d:decide (x<=2000000000)=false:=decide_eq_false h2
   have hd:numB x=false:=by unfold numB;rw [h1d,h2d];rfl
   rw [hd]
   clear hd
   go_enter Tryz.func99,Tryz.ntmps99
   go_wp2
   go_ret
   exact ⟨rfl,rfl⟩
 ·have h1d:decide (1<=x)=false:=decide_eq_false h1
  have hd:numB x=false:=by unfold numB;rw [h1d];rfl
  rw [hd]
  clear hd
  go_enter Tryz.func99,Tryz.ntmps99
  go_wp2
  go_ret
  exact ⟨rfl,rfl⟩

set_option maxHeartbeats 1000000 in
theorem isQuad_any (q:Qd) (w:World):Calls Tryz.prog 128 #[qv q] w fun e w'=>e=.returned (.bool (quadB q))/\Below w.heap.size w w':=by
 unfold quadB qv
 have hs:numB q.s=false\/(numB q.s=true/\numB q.p=false)\/(numB q.s=true/\numB q.p=true/\numB q.o=false)\/(numB q.s=true/\numB q.p=true/\numB q.o=true/\numB q.g=false)\/(numB q.s=true/\numB q.p=true/\numB q.o=true/\numB q.g=true):=by
  cases numB q.s <;> cases numB q.p <;> cases numB q.o <;> cases numB q.g <;> simp
 rcases hs with ha|⟨ha,hb⟩|⟨ha,hb,hc⟩|⟨ha,hb,hc,hd⟩|⟨ha,hb,hc,hd⟩
 all_goals
  have HA:=ha
  go_enter Tryz.func128,Tryz.ntmps128
  go_wp2_with (first
   | (go_at_call 99;refine (isNumber_any _ _).mono ?_;rintro e w1 ⟨rfl,rfl⟩)
   | go_in)
  go_ret
  exact ⟨by simp_all,(below_alloc _ _).trans ((below_alloc _ _).mono (by simp))⟩
end Go.Proofs.YtpaomghibppgkaaGreat
