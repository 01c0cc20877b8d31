import Derived.Deep.CutRange
import Derived.Deep.QuietTactic
import Derived.BigQuiet
import Derived.Test.YtacpbofiipdodaaGreatNv1
set_option linter.unusedVariables false
set_option linter.unusedSimpArgs false
set_option maxRecDepth 100000
set_option maxHeartbeats 90000000
namespace Go.Proofs.YtacpbofiipdodaaGreat
open Go Go.Deep Go.RowKit
def AU (x:Int):Bool:=decide (0<=x) && decide (x<=2000000000)
theorem Nt (x:Int) (w:World) :
  WS 166 #[iv x] w λe w'=>e=.returned (.bool (AU x))/\w'=w:=by
 by_cases h0:x=0;.subst h0;go_enter Tryz.func166,Tryz.ntmps166;go_wp2;go_ret;exact⟨rfl,rfl⟩
 by_cases h1:1<=x
 .have HE:U (AU x=(x == 0 || decide (x<=2000000000))):=by show _=_;unfold AU;rw[decide_eq_true (by omega)];simp[h0]
  go_enter Tryz.func166,Tryz.ntmps166;go_wp2;go_ret;exact⟨by rw[HE.o];rfl,rfl⟩
 .have HE:U (AU x=(x == 0)):=by show _=_;unfold AU;rw[decide_eq_false (by omega)];simp[h0]
  go_enter Tryz.func166,Tryz.ntmps166;go_wp2;go_ret;exact⟨by rw[HE.o];rfl,rfl⟩
theorem E9 (a b c d:Int) (w:World) :
  WS 147 #[.agg #[iv a,iv b,iv c,iv d]] w (WT w (.bool (AU a && AU b && AU c && AU d))):=by
 have hs:AU a=false\/(AU a=true/\AU b=false)\/(AU a=true/\AU b=true/\AU c=false)\/(AU a=true/\AU b=true/\AU c=true/\AU d=false)\/(AU a=true/\AU b=true/\AU c=true/\AU d=true):=by cases AU a <;> cases AU b <;> cases AU c <;> cases AU d <;> simp
 rcases hs with ha|⟨ha,hb⟩|⟨ha,hb,hc⟩|⟨ha,hb,hc,hd⟩|⟨ha,hb,hc,hd⟩;all_goals
  have HA:=ha
  go_enter Tryz.func147,Tryz.ntmps147
  go_wp2_with (first
   | (go_at_call 166;refine (Nt _ _).mono ?_;rintro e w1 ⟨rfl,rfl⟩)
   | go_in)
  go_ret
  exact⟨by simp_all,(Aa _ _).trans ((Aa _ _).mono (by simp))⟩
theorem K6 (P:Program) (w:World) (a:Addr) (m:Mode) (f:Fn) (x y:Array Value):(store a (.func f x y) m).run P w=stored P w a (.func f x y) m:=run_store P w a _ m rfl
theorem Iq (w:World) :
  WS 125 #[] w (WT w (.agg #[.func (.func 140) #[] #[],.func (.func 141) #[] #[],.func (.func 142) #[] #[],.func (.func 143) #[] #[],.func (.func 144) #[] #[],.func (.func 145) #[] #[]])):=by
 go_enter Tryz.func125,Tryz.ntmps125;go_wp2;simp[K6,go_sem,stored];rename_i hk
 refine hk _ _ ?_;go_wp2;refine bodyPost_ret (v:=.agg #[.func (.func 140) #[] #[],.func (.func 141) #[] #[],.func (.func 142) #[] #[],.func (.func 143) #[] #[],.func (.func 144) #[] #[],.func (.func 145) #[] #[]]) (by simp[results,Tryz.results125,go_sem]) rfl ⟨rfl,Aa _ _⟩
end Go.Proofs.YtacpbofiipdodaaGreat
