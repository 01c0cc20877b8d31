import Derived.Test.YtpaomghibppgkaaGreatNv33
import Derived.Deep.QuietTactic
import Derived.BigQuiet
set_option linter.unusedVariables false
set_option maxRecDepth 100000
namespace Go.Proofs.YtpaomghibppgkaaGreat
open Go.RowKit Go.Deep

def fit1 (p q:Int):Bool:=p == 0 || p == q
def fitB (q p:Qd):Bool:=fit1 p.s q.s && fit1 p.p q.p && fit1 p.o q.o && fit1 p.g q.g
theorem fit1_cases (p q:Int):(p=0/\(p == 0)=true/\fit1 p q=true)\/(p≠0/\(p == 0)=false/\(p == q)=true/\p=q/\fit1 p q=true)\/(p≠0/\(p == 0)=false/\(p == q)=false/\p≠q/\fit1 p q=false):=by
 unfold fit1
 by_cases h:p=0
 ·exact .inl ⟨h,by simp [h],by simp [h]⟩
 ·by_cases h2:p=q
  ·exact .inr (.inl ⟨h,by simp [h],by simp [h2],h2,by simp [h2]⟩)
  ·exact .inr (.inr ⟨h,by simp [h],by simp [h2],h2,by simp [h,h2]⟩)

set_option maxHeartbeats 4000000 in
theorem l5Fits_any (q p:Qd) (w:World):Calls Tryz.prog 117 #[qv q,qv p] w fun e w'=>e=.returned (.bool (fitB q p))/\Below w.heap.size w w':=by
 unfold qv
 have hb:∀O1 O2:Obj,Below w.heap.size w ((w.alloc O1).alloc O2):=fun _ _=>(below_alloc _ _).alloc (by simp) _
 have HB:Hid (∀O1 O2:Obj,Below w.heap.size w ((w.alloc O1).alloc O2)):=hb
 clear hb
 obtain ⟨B,hB⟩:∃B,B=fitB q p:=⟨_,rfl⟩
 have HBb:Hid (B=(fit1 p.s q.s && fit1 p.p q.p && fit1 p.o q.o && fit1 p.g q.g)):=hB
 rw [<- hB]
 clear hB
 obtain ⟨a,b,c,d⟩:=q
 obtain ⟨x,y,z,u⟩:=p
 dsimp only at HBb ⊢
 rcases fit1_cases x a with ⟨_,h02,h03⟩|⟨_,h02,h04,_,h03⟩|⟨_,h02,h04,_,h03⟩
 ·rcases fit1_cases y b with ⟨_,h12,h13⟩|⟨_,h12,h14,_,h13⟩|⟨_,h12,h14,_,h13⟩
  ·rcases fit1_cases z c with ⟨_,h22,h23⟩|⟨_,h22,h24,_,h23⟩|⟨_,h22,h24,_,h23⟩
   ·rcases fit1_cases u d with ⟨_,h32,h33⟩|⟨_,h32,h34,_,h33⟩|⟨_,h32,h34,_,h33⟩
    ·have e:B=true:=by rw [HBb.out,h03,h13,h23,h33];rfl
     subst e
     go_enter Tryz.func117,Tryz.ntmps117
     go_wp2
     go_ret
     exact ⟨rfl,HB.out _ _⟩
    ·have e:B=true:=by rw [HBb.out,h03,h13,h23,h33];rfl
     subst e
     go_enter Tryz.func117,Tryz.ntmps117
     go_wp2
     go_ret
     exact ⟨rfl,HB.out _ _⟩
    ·have e:B=false:=by rw [HBb.out,h03,h13,h23,h33];simp
     subst e
     go_enter Tryz.func117,Tryz.ntmps117
     go_wp2
     go_ret
     exact ⟨rfl,HB.out _ _⟩
   ·rcases fit1_cases u d with ⟨_,h32,h33⟩|⟨_,h32,h34,_,h33⟩|⟨_,h32,h34,_,h33⟩
    ·have e:B=true:=by rw [HBb.out,h03,h13,h23,h33];rfl
     subst e
     go_enter Tryz.func117,Tryz.ntmps117
     go_wp2
     go_ret
     exact ⟨rfl,HB.out _ _⟩
    ·have e:B=true:=by rw [HBb.out,h03,h13,h23,h33];rfl
     subst e
     go_enter Tryz.func117,Tryz.ntmps117
     go_wp2
     go_ret
     exact ⟨rfl,HB.out _ _⟩
    ·have e:B=false:=by rw [HBb.out,h03,h13,h23,h33];simp
     subst e
     go_enter Tryz.func117,Tryz.ntmps117
     go_wp2
     go_ret
     exact ⟨rfl,HB.out _ _⟩
   ·have e:B=false:=by rw [HBb.out,h03,h13,h23];simp
    subst e
    go_enter Tryz.func117,Tryz.ntmps117
    go_wp2
    go_ret
    exact ⟨rfl,HB.out _ _⟩
  ·rcases fit1_cases z c with ⟨_,h22,h23⟩|⟨_,h22,h24,_,h23⟩|⟨_,h22,h24,_,h23⟩
   ·rcases fit1_cases u d with ⟨_,h32,h33⟩|⟨_,h32,h34,_,h33⟩|⟨_,h32,h34,_,h33⟩
    ·have e:B=true:=by rw [HBb.out,h03,h13,h23,h33];rfl
     subst e
     go_enter Tryz.func117,Tryz.ntmps117
     go_wp2
     go_ret
     exact ⟨rfl,HB.out _ _⟩
    ·have e:B=true:=by rw [HBb.out,h03,h13,h23,h33];rfl
     subst e
     go_enter Tryz.func117,Tryz.ntmps117
     go_wp2
     go_ret
     exact ⟨rfl,HB.out _ _⟩
    ·have e:B=false:=by rw [HBb.out,h03,h13,h23,h33];simp
     subst e
     go_enter Tryz.func117,Tryz.ntmps117
     go_wp2
     go_ret
     exact ⟨rfl,HB.out _ _⟩
   ·rcases fit1_cases u d with ⟨_,h32,h33⟩|⟨_,h32,h34,_,h33⟩|⟨_,h32,h34,_,h33⟩
    ·have e:B=true:=by rw [HBb.out,h03,h13,h23,h33];rfl
     subst e
     go_enter Tryz.func117,Tryz.ntmps117
     go_wp2
     go_ret
     exact ⟨rfl,HB.out _ _⟩
    ·have e:B=true:=by rw [HBb.out,h03,h13,h23,h33];rfl
     subst e
     go_enter Tryz.func117,Tryz.ntmps117
     go_wp2
     go_ret
     exact ⟨rfl,HB.out _ _⟩
    ·have e:B=false:=by rw [HBb.out,h03,h13,h23,h33];simp
     subst e
     go_enter Tryz.func117,Tryz.ntmps117
     go_wp2
     go_ret
     exact ⟨rfl,HB.out _ _⟩
   ·have e:B=false:=by rw [HBb.out,h03,h13,h23];simp
    subst e
    go_enter Tryz.func117,Tryz.ntmps117
    go_wp2
    go_ret
    exact ⟨rfl,HB.out _ _⟩
  ·have e:B=false:=by rw [HBb.out,h03,h13];simp
   subst e
   go_enter Tryz.func117,Tryz.ntmps117
   go_wp2
   go_ret
   exact ⟨rfl,HB.out _ _⟩
 ·rcases fit1_cases y b with ⟨_,h12,h13⟩|⟨_,h12,h14,_,h13⟩|⟨_,h12,h14,_,h13⟩
  ·rcases fit1_cases z c with ⟨_,h22,h23⟩|⟨_,h22,h24,_,h23⟩|⟨_,h22,h24,_,h23⟩
   ·rcases fit1_cases u d with ⟨_,h32,h33⟩|⟨_,h32,h34,_,h33⟩|⟨_,h32,h34,_,h33⟩
    ·have e:B=true:=by rw [HBb.out,h03,h13,h23,h33];rfl
     subst e
     go_enter Tryz.func117,Tryz.ntmps117
     go_wp2
     go_ret
     exact ⟨rfl,HB.out _ _⟩
    ·have e:B=true:=by rw [HBb.out,h03,h13,h23,h33];rfl
     subst e
     go_enter Tryz.func117,Tryz.ntmps117
     go_wp2
     go_ret
     exact ⟨rfl,HB.out _ _⟩
    ·have e:B=false:=by rw [HBb.out,h03,h13,h23,h33];simp
     subst e
     go_enter Tryz.func117,Tryz.ntmps117
     go_wp2
     go_ret
     exact ⟨rfl,HB.out _ _⟩
   ·rcases fit1_cases u d with ⟨_,h32,h33⟩|⟨_,h32,h34,_,h33⟩|⟨_,h32,h34,_,h33⟩
    ·have e:B=true:=by rw [HBb.out,h03,h13,h23,h33];rfl
     subst e
     go_enter Tryz.func117,Tryz.ntmps117
     go_wp2
     go_ret
     exact ⟨rfl,HB.out _ _⟩
    ·have e:B=true:=by rw [HBb.out,h03,h13,h23,h33];rfl
     subst e
     go_enter Tryz.func117,Tryz.ntmps117
     go_wp2
     go_ret
     exact ⟨rfl,HB.out _ _⟩
    ·have e:B=false:=by rw [HBb.out,h03,h13,h23,h33];simp
     subst e
     go_enter Tryz.func117,Tryz.ntmps117
     go_wp2
     go_ret
     exact ⟨rfl,HB.out _ _⟩
   ·have e:B=false:=by rw [HBb.out,h03,h13,h23];simp
    subst e
    go_enter Tryz.func117,Tryz.ntmps117
    go_wp2
    go_ret
    exact ⟨rfl,HB.out _ _⟩
  ·rcases fit1_cases z c with ⟨_,h22,h23⟩|⟨_,h22,h24,_,h23⟩|⟨_,h22,h24,_,h23⟩
   ·rcases fit1_cases u d with ⟨_,h32,h33⟩|⟨_,h32,h34,_,h33⟩|⟨_,h32,h34,_,h33⟩
    ·have e:B=true:=by rw [HBb.out,h03,h13,h23,h33];rfl
     subst e
     go_enter Tryz.func117,Tryz.ntmps117
     go_wp2
     go_ret
     exact ⟨rfl,HB.out _ _⟩
    ·have e:B=true:=by rw [HBb.out,h03,h13,h23,h33];rfl
     subst e
     go_enter Tryz.func117,Tryz.ntmps117
     go_wp2
     go_ret
     exact ⟨rfl,HB.out _ _⟩
    ·have e:B=false:=by rw [HBb.out,h03,h13,h23,h33];simp
     subst e
     go_enter Tryz.func117,Tryz.ntmps117
     go_wp2
     go_ret
     exact ⟨rfl,HB.out _ _⟩
   ·rcases fit1_cases u d with ⟨_,h32,h33⟩|⟨_,h32,h34,_,h33⟩|⟨_,h32,h34,_,h33⟩
    ·have e:B=true:=by rw [HBb.out,h03,h13,h23,h33];rfl
     subst e
     go_enter Tryz.func117,Tryz.ntmps117
     go_wp2
     go_ret
     exact ⟨rfl,HB.out _ _⟩
    ·have e:B=true:=by rw [HBb.out,h03,h13,h23,h33];rfl
     subst e
     go_enter Tryz.func117,Tryz.ntmps117
     go_wp2
     go_ret
     exact ⟨rfl,HB.out _ _⟩
    ·have e:B=false:=by rw [HBb.out,h03,h13,h23,h33];simp
     subst e
     go_enter Tryz.func117,Tryz.ntmps117
     go_wp2
     go_ret
     exact ⟨rfl,HB.out _ _⟩
   ·have e:B=false:=by rw [HBb.out,h03,h13,h23];simp
    subst e
    go_enter Tryz.func117,Tryz.ntmps117
    go_wp2
    go_ret
    exact ⟨rfl,HB.out _ _⟩
  ·have e:B=false:=by rw [HBb.out,h03,h13];simp
   subst e
   go_enter Tryz.func117,Tryz.ntmps117
   go_wp2
   go_ret
   exact ⟨rfl,HB.out _ _⟩
 ·have e:B=false:=by rw [HBb.out,h03];simp
  subst e
  go_enter Tryz.func117,Tryz.ntmps117
  go_wp2
  go_ret
  exact ⟨rfl,HB.out _ _⟩
end Go.Proofs.YtpaomghibppgkaaGreat
