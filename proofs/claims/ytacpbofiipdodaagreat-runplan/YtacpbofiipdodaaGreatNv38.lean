import Derived.Test.YtacpbofiipdodaaGreatNv26
import Derived.Test.YtacpbofiipdodaaGreatNv28
set_option linter.unusedVariables false
set_option linter.unusedSimpArgs false
set_option maxRecDepth 100000
set_option maxHeartbeats 90000000
namespace Go.Proofs.YtacpbofiipdodaaGreat
open Go Go.Deep Go.RowKit
theorem N4 (perm:Int) (p:Qd) (w:World):WS 131 #[iv perm,.agg #[iv p.s,iv p.p,iv p.o,iv p.g]] w (WT w (.bool (decide (0<=perm/\perm<=5) && E8 perm.toNat p))):=by
 by_cases h:0<=perm/\perm<=5;.rw[decide_eq_true h,Bool.true_and];have:=(Gb perm.toNat (by omega) p w).2;rw[show (perm.toNat:Int)=perm by omega] at this;exact this
 .rw[decide_eq_false h,Bool.false_and];exact (St perm (by omega) p.s p.p p.o p.g w).2
theorem NF (s t:ByteArray) (cb:Bool) (cl:ByteArray) (oa:Option Addr) (ol oc:Nat) (hh ch:Int) (hch:-9223372036854775808<=ch/\ch<=9223372036854775807) (w:World):WS 95 #[.agg #[iv 1,.string s,.string t,.bool cb,.string cl,.slice oa ol oc,iv hh],iv ch] w (WT w (.bool (BJ 1 cb ch))):=by
 obtain⟨RES,hRES⟩:∃RES,RES=BJ 1 cb ch:=⟨_,rfl⟩;rw[<- hRES];have HO:=hid hRES;clear hRES;have H0:U (∀O,Bl w (w.alloc O)):=λO=>Aa _ _;obtain⟨sq,hsq⟩:=gn (A6 1 0 cb);have HBI:U (∀W,WS 132 #[.agg #[iv 1,.string s,.string t,.bool cb,.string cl,.slice oa ol oc,iv hh],iv 0] W (WT W (.agg #[iv sq.s,iv sq.p,iv sq.o,iv sq.g]))):=λW=>by rw[hsq];exact Gx 1 0 (by decide) cb s t cl oa ol oc hh W
 have HSQ:=hid hsq;clear hsq;go_enter Tryz.func95,Tryz.ntmps95;go_wp2_with fail
 refine (HBI.o _).mono ?_;rintro e w1 ⟨rfl,hb1⟩;have H1:=hid ((H0.o _).trans (hb1.mono (H0.o _).size));clear hb1;obtain⟨er,her⟩:=gn ((decide (0<=ch/\ch<=5) && E8 (ch).toNat sq));have HEL:U (WS 131 #[iv (ch),.agg #[iv sq.s,iv sq.p,iv sq.o,iv sq.g]] w1 (WT w1 (.bool er))):=by rw[her];exact N4 _ sq w1
 have HER:=hid her;clear her;go_wp2_with fail
 refine HEL.o.mono ?_;rintro e w2 ⟨rfl,hb2⟩;have H2:=hid (H1.o.trans (hb2.mono H1.o.size));clear hb2 HEL;have HF:U (RES=er):=by show _=_;rw[HO.o,HER.o,HSQ.o];rfl
 go_wp2;go_ret;exact⟨by rw[HF.o];rfl,H2.o⟩
theorem M3 (k:Int) (hk:k=2\/k=7\/k=8\/k=9) (s t:ByteArray) (cb:Bool) (cl:ByteArray) (oa:Option Addr) (ol oc:Nat) (hh ch:Int) (hch:-9223372036854775808<=ch/\ch<=9223372036854775807) (w:World):WS 95 #[.agg #[iv k,.string s,.string t,.bool cb,.string cl,.slice oa ol oc,iv hh],iv ch] w (WT w (.bool (BJ k cb ch))):=by
 obtain⟨RES,hRES⟩:∃RES,RES=BJ k cb ch:=⟨_,rfl⟩;rw[<- hRES];have HO:=hid hRES;clear hRES;have H0:U (∀O,Bl w (w.alloc O)):=λO=>Aa _ _;have HF:U (RES=(ch == 0)):=by show _=_;rw[HO.o,Bool.eq_iff_iff];rcases hk with rfl|rfl|rfl|rfl <;> simp[BJ]
 clear HO;obtain⟨bz,hbz⟩:∃bz,(ch == 0)=bz:=⟨_,rfl⟩;rw[hbz] at HF;rcases hk with rfl|rfl|rfl|rfl;all_goals
  go_enter Tryz.func95,Tryz.ntmps95
  go_wp2
  go_ret
  exact⟨by rw[HF.o];rfl,H0.o _⟩
theorem Ng (s t:ByteArray) (cb:Bool) (cl:ByteArray) (oa:Option Addr) (ol oc:Nat) (hh ch:Int) (hch:-9223372036854775808<=ch/\ch<=9223372036854775807) (w:World):WS 95 #[.agg #[iv 6,.string s,.string t,.bool cb,.string cl,.slice oa ol oc,iv hh],iv ch] w (WT w (.bool (BJ 6 cb ch))):=by
 obtain⟨RES,hRES⟩:∃RES,RES=BJ 6 cb ch:=⟨_,rfl⟩;rw[<- hRES];have HO:=hid hRES;clear hRES;have H0:U (∀O,Bl w (w.alloc O)):=λO=>Aa _ _;have HF:U (RES=(decide (ch=0) || decide (ch=1))):=by show _=_;rw[HO.o,Bool.eq_iff_iff];simp[BJ]
 by_cases h0:ch=0
 .subst h0;have HF2:U (RES=true):=by show _=_;rw[HF.o];rfl
  go_enter Tryz.func95,Tryz.ntmps95;go_wp2;go_ret;exact⟨by rw[HF2.o];rfl,H0.o _⟩
 .have h0b:(ch == 0)=false:=by simp[h0]
  obtain⟨bz,hbz⟩:∃bz,(ch == 1)=bz:=⟨_,rfl⟩;have HF2:U (RES=bz):=by show _=_;rw[HF.o,decide_eq_false h0,Bool.false_or,<- hbz];rw[Bool.eq_iff_iff];simp
  go_enter Tryz.func95,Tryz.ntmps95;go_wp2;go_ret;exact⟨by rw[HF2.o];rfl,H0.o _⟩
theorem MM (k:Int) (hk:k=3\/k=4\/k=5) (s t:ByteArray) (cb:Bool) (cl:ByteArray) (oa:Option Addr) (ol oc:Nat) (hh ch:Int) (hch:-9223372036854775808<=ch/\ch<=9223372036854775807) (w:World):WS 95 #[.agg #[iv k,.string s,.string t,.bool cb,.string cl,.slice oa ol oc,iv hh],iv ch] w (WT w (.bool (BJ k cb ch))):=by
 obtain⟨RES,hRES⟩:∃RES,RES=BJ k cb ch:=⟨_,rfl⟩;rw[<- hRES];have HO:=hid hRES;clear hRES;have H0:U (∀O,Bl w (w.alloc O)):=λO=>Aa _ _;obtain⟨wy,hwy⟩:∃wy,Int.tdiv ch 6=wy:=⟨_,rfl⟩;obtain⟨rm,hrm⟩:∃rm,Int.tmod ch 6=rm:=⟨_,rfl⟩;have hdm:6*wy+rm=ch:=by rw[<- hwy,<- hrm];exact Int.mul_tdiv_add_tmod ch 6
 have hr1:0<=ch->0<=rm/\rm<6:=λh=>by rw[<- hrm,Int.tmod_eq_emod_of_nonneg h];omega
 have hr2:ch<0->rm<=0/\-6<rm:=λh=>by
  have e:rm=-((-ch) % 6):=by rw[<- hrm];have:=Int.neg_tmod (-ch) 6;rw[Int.neg_neg] at this;rw[this,Int.tmod_eq_emod_of_nonneg (by omega)]
  omega
 have hw3:IntKind.i64.wrap wy=wy:=by rw[Wz];omega
 have hw4:IntKind.i64.wrap rm=rm:=by rw[Wz];omega
 have HD:=hid (ai hdm (ai hr1 hr2));clear hdm hr1 hr2;have HG:U (RES=(decide (0<=ch/\ch<12) && E8 (ch.toNat % 6) (A6 k ((ch.toNat / 6:Nat):Int) cb))):=by show _=_;rw[HO.o];rcases hk with rfl|rfl|rfl <;> rfl
 clear HO;by_cases h2:wy=0\/wy=1
 .obtain⟨sq,hsq⟩:=gn (A6 k wy cb);have HBI:U (∀W,WS 132 #[.agg #[iv k,.string s,.string t,.bool cb,.string cl,.slice oa ol oc,iv hh],iv wy] W (WT W (.agg #[iv sq.s,iv sq.p,iv sq.o,iv sq.g]))):=λW=>by
   rw[hsq];rcases h2 with rfl|rfl;.exact Gx k 0 (.inr ⟨hk,.inl rfl⟩) cb s t cl oa ol oc hh W
   .exact Gx k 1 (.inr ⟨hk,.inr rfl⟩) cb s t cl oa ol oc hh W
  obtain⟨er,her⟩:=gn ((decide (0<=rm/\rm<=5) && E8 rm.toNat sq));have HEL:U (∀W,WS 131 #[iv rm,.agg #[iv sq.s,iv sq.p,iv sq.o,iv sq.g]] W (WT W (.bool er))):=λW=>by rw[her];exact N4 _ sq W
  have HF:U (RES=er):=by
   show _=_;rw[HG.o,her,hsq];have hd:=HD.o;by_cases hn:0<=ch;.have h1:=hd.2.1 hn;rw[decide_eq_true (show 0<=ch/\ch<12 by omega),decide_eq_true (show 0<=rm/\rm<=5 by omega),show ch.toNat % 6=rm.toNat by omega,show ((ch.toNat / 6:Nat):Int)=wy by omega]
   .have h1:=hd.2.2 (by omega);rw[decide_eq_false (show ¬ (0<=ch/\ch<12) by omega),Bool.false_and,decide_eq_false (show ¬ (0<=rm/\rm<=5) by omega),Bool.false_and]
  clear hsq her HG HD;rcases h2 with rfl|rfl <;> rcases hk with rfl|rfl|rfl;all_goals
   go_enter Tryz.func95,Tryz.ntmps95
   go_wp2_with fail
   refine (HBI.o _).mono ?_
   rintro e w1 ⟨rfl,hb1⟩
   have H1:=hid ((H0.o _).trans (hb1.mono (H0.o _).size))
   clear hb1
   go_wp2_with fail
   refine (HEL.o _).mono ?_
   rintro e w2 ⟨rfl,hb2⟩
   have H2:=hid (H1.o.trans (hb2.mono H1.o.size))
   clear hb2
   go_wp2
   go_ret
   exact⟨by rw[HF.o];rfl,H2.o⟩
 have h0b:(wy == 0)=false:=by simp;omega
 have h1b:(wy == 1)=false:=by simp;omega
 have HF:U (RES=false):=by show _=_;have hd:=HD.o;rw[HG.o,decide_eq_false (show ¬ (0<=ch/\ch<12) by intro q;have:=hd.2.1 q.1;omega),Bool.false_and]
 clear h2;rcases hk with rfl|rfl|rfl;all_goals
  go_enter Tryz.func95,Tryz.ntmps95
  go_wp2
  go_ret
  exact⟨by rw[HF.o];rfl,H0.o _⟩
theorem Km (k:Int) (hk:1<=k/\k<=9) (s t:ByteArray) (cb:Bool) (cl:ByteArray) (oa:Option Addr) (ol oc:Nat) (hh ch:Int) (hch:-9223372036854775808<=ch/\ch<=9223372036854775807) (w:World):WS 95 #[.agg #[iv k,.string s,.string t,.bool cb,.string cl,.slice oa ol oc,iv hh],iv ch] w (WT w (.bool (BJ k cb ch))):=by
 have h9:k=1\/(k=2\/k=7\/k=8\/k=9)\/(k=3\/k=4\/k=5)\/k=6:=by omega
 rcases h9 with rfl|h|h|rfl;.exact NF s t cb cl oa ol oc hh ch hch w
 .exact M3 k h s t cb cl oa ol oc hh ch hch w
 .exact MM k h s t cb cl oa ol oc hh ch hch w
 .exact Ng s t cb cl oa ol oc hh ch hch w
end Go.Proofs.YtacpbofiipdodaaGreat
