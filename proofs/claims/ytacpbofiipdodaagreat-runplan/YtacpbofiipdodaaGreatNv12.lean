import Derived.Test.YtacpbofiipdodaaGreatNv11
set_option linter.unusedVariables false
set_option linter.unusedSimpArgs false
set_option maxRecDepth 100000
set_option maxHeartbeats 90000000
namespace Go.Proofs.YtacpbofiipdodaaGreat
open Go Go.Deep Go.RowKit
def Bb (p q:Int):Bool:=p == 0 || p == q
def BN (q p:Qd):Bool:=Bb p.s q.s && Bb p.p q.p && Bb p.o q.o && Bb p.g q.g
theorem AO (p q:Int):(p=0/\(p == 0)=true/\Bb p q=true)\/(p≠0/\(p == 0)=false/\(p == q)=true/\p=q/\Bb p q=true)\/(p≠0/\(p == 0)=false/\(p == q)=false/\p≠q/\Bb p q=false):=by
 unfold Bb;by_cases h:p=0;.exact .inl ⟨h,by simp[h],by simp[h]⟩
 .by_cases h2:p=q;.exact .inr (.inl ⟨h,by simp[h],by simp[h2],h2,by simp[h2]⟩)
  .exact .inr (.inr ⟨h,by simp[h],by simp[h2],h2,by simp[h,h2]⟩)
theorem ND (q p:Qd) (w:World):WS 117 #[qv q,qv p] w (WT w (.bool (BN q p))):=by
 unfold qv;have hb:∀O1 O2:Obj,Bl w ((w.alloc O1).alloc O2):=λ_ _=>(Aa _ _).alloc (by simp) _;have HB:U (∀O1 O2:Obj,Bl w ((w.alloc O1).alloc O2)):=hb;clear hb;obtain⟨B,hB⟩:∃B,B=BN q p:=⟨_,rfl⟩;have HBb:U (B=(Bb p.s q.s && Bb p.p q.p && Bb p.o q.o && Bb p.g q.g)):=hB;rw[<- hB];clear hB;obtain⟨a,b,c,d⟩:=q;obtain⟨x,y,z,u⟩:=p;dsimp only at HBb ⊢;rcases AO x a with ⟨_,h02,h03⟩|⟨_,h02,h04,_,h03⟩|⟨_,h02,h04,_,h03⟩
 .rcases AO y b with ⟨_,h12,h13⟩|⟨_,h12,h14,_,h13⟩|⟨_,h12,h14,_,h13⟩
  .rcases AO z c with ⟨_,h22,h23⟩|⟨_,h22,h24,_,h23⟩|⟨_,h22,h24,_,h23⟩
   .rcases AO u d with ⟨_,h32,h33⟩|⟨_,h32,h34,_,h33⟩|⟨_,h32,h34,_,h33⟩
    .have e:B=true:=by rw[HBb.o,h03,h13,h23,h33];rfl
     subst e;go_enter Tryz.func117,Tryz.ntmps117;go_wp2;go_ret;exact⟨rfl,HB.o _ _⟩
    .have e:B=true:=by rw[HBb.o,h03,h13,h23,h33];rfl
     subst e;go_enter Tryz.func117,Tryz.ntmps117;go_wp2;go_ret;exact⟨rfl,HB.o _ _⟩
    .have e:B=false:=by rw[HBb.o,h03,h13,h23,h33];simp
     subst e;go_enter Tryz.func117,Tryz.ntmps117;go_wp2;go_ret;exact⟨rfl,HB.o _ _⟩
   .rcases AO u d with ⟨_,h32,h33⟩|⟨_,h32,h34,_,h33⟩|⟨_,h32,h34,_,h33⟩
    .have e:B=true:=by rw[HBb.o,h03,h13,h23,h33];rfl
     subst e;go_enter Tryz.func117,Tryz.ntmps117;go_wp2;go_ret;exact⟨rfl,HB.o _ _⟩
    .have e:B=true:=by rw[HBb.o,h03,h13,h23,h33];rfl
     subst e;go_enter Tryz.func117,Tryz.ntmps117;go_wp2;go_ret;exact⟨rfl,HB.o _ _⟩
    .have e:B=false:=by rw[HBb.o,h03,h13,h23,h33];simp
     subst e;go_enter Tryz.func117,Tryz.ntmps117;go_wp2;go_ret;exact⟨rfl,HB.o _ _⟩
   .have e:B=false:=by rw[HBb.o,h03,h13,h23];simp
    subst e;go_enter Tryz.func117,Tryz.ntmps117;go_wp2;go_ret;exact⟨rfl,HB.o _ _⟩
  .rcases AO z c with ⟨_,h22,h23⟩|⟨_,h22,h24,_,h23⟩|⟨_,h22,h24,_,h23⟩
   .rcases AO u d with ⟨_,h32,h33⟩|⟨_,h32,h34,_,h33⟩|⟨_,h32,h34,_,h33⟩
    .have e:B=true:=by rw[HBb.o,h03,h13,h23,h33];rfl
     subst e;go_enter Tryz.func117,Tryz.ntmps117;go_wp2;go_ret;exact⟨rfl,HB.o _ _⟩
    .have e:B=true:=by rw[HBb.o,h03,h13,h23,h33];rfl
     subst e;go_enter Tryz.func117,Tryz.ntmps117;go_wp2;go_ret;exact⟨rfl,HB.o _ _⟩
    .have e:B=false:=by rw[HBb.o,h03,h13,h23,h33];simp
     subst e;go_enter Tryz.func117,Tryz.ntmps117;go_wp2;go_ret;exact⟨rfl,HB.o _ _⟩
   .rcases AO u d with ⟨_,h32,h33⟩|⟨_,h32,h34,_,h33⟩|⟨_,h32,h34,_,h33⟩
    .have e:B=true:=by rw[HBb.o,h03,h13,h23,h33];rfl
     subst e;go_enter Tryz.func117,Tryz.ntmps117;go_wp2;go_ret;exact⟨rfl,HB.o _ _⟩
    .have e:B=true:=by rw[HBb.o,h03,h13,h23,h33];rfl
     subst e;go_enter Tryz.func117,Tryz.ntmps117;go_wp2;go_ret;exact⟨rfl,HB.o _ _⟩
    .have e:B=false:=by rw[HBb.o,h03,h13,h23,h33];simp
     subst e;go_enter Tryz.func117,Tryz.ntmps117;go_wp2;go_ret;exact⟨rfl,HB.o _ _⟩
   .have e:B=false:=by rw[HBb.o,h03,h13,h23];simp
    subst e;go_enter Tryz.func117,Tryz.ntmps117;go_wp2;go_ret;exact⟨rfl,HB.o _ _⟩
  .have e:B=false:=by rw[HBb.o,h03,h13];simp
   subst e;go_enter Tryz.func117,Tryz.ntmps117;go_wp2;go_ret;exact⟨rfl,HB.o _ _⟩
 .rcases AO y b with ⟨_,h12,h13⟩|⟨_,h12,h14,_,h13⟩|⟨_,h12,h14,_,h13⟩
  .rcases AO z c with ⟨_,h22,h23⟩|⟨_,h22,h24,_,h23⟩|⟨_,h22,h24,_,h23⟩
   .rcases AO u d with ⟨_,h32,h33⟩|⟨_,h32,h34,_,h33⟩|⟨_,h32,h34,_,h33⟩
    .have e:B=true:=by rw[HBb.o,h03,h13,h23,h33];rfl
     subst e;go_enter Tryz.func117,Tryz.ntmps117;go_wp2;go_ret;exact⟨rfl,HB.o _ _⟩
    .have e:B=true:=by rw[HBb.o,h03,h13,h23,h33];rfl
     subst e;go_enter Tryz.func117,Tryz.ntmps117;go_wp2;go_ret;exact⟨rfl,HB.o _ _⟩
    .have e:B=false:=by rw[HBb.o,h03,h13,h23,h33];simp
     subst e;go_enter Tryz.func117,Tryz.ntmps117;go_wp2;go_ret;exact⟨rfl,HB.o _ _⟩
   .rcases AO u d with ⟨_,h32,h33⟩|⟨_,h32,h34,_,h33⟩|⟨_,h32,h34,_,h33⟩
    .have e:B=true:=by rw[HBb.o,h03,h13,h23,h33];rfl
     subst e;go_enter Tryz.func117,Tryz.ntmps117;go_wp2;go_ret;exact⟨rfl,HB.o _ _⟩
    .have e:B=true:=by rw[HBb.o,h03,h13,h23,h33];rfl
     subst e;go_enter Tryz.func117,Tryz.ntmps117;go_wp2;go_ret;exact⟨rfl,HB.o _ _⟩
    .have e:B=false:=by rw[HBb.o,h03,h13,h23,h33];simp
     subst e;go_enter Tryz.func117,Tryz.ntmps117;go_wp2;go_ret;exact⟨rfl,HB.o _ _⟩
   .have e:B=false:=by rw[HBb.o,h03,h13,h23];simp
    subst e;go_enter Tryz.func117,Tryz.ntmps117;go_wp2;go_ret;exact⟨rfl,HB.o _ _⟩
  .rcases AO z c with ⟨_,h22,h23⟩|⟨_,h22,h24,_,h23⟩|⟨_,h22,h24,_,h23⟩
   .rcases AO u d with ⟨_,h32,h33⟩|⟨_,h32,h34,_,h33⟩|⟨_,h32,h34,_,h33⟩
    .have e:B=true:=by rw[HBb.o,h03,h13,h23,h33];rfl
     subst e;go_enter Tryz.func117,Tryz.ntmps117;go_wp2;go_ret;exact⟨rfl,HB.o _ _⟩
    .have e:B=true:=by rw[HBb.o,h03,h13,h23,h33];rfl
     subst e;go_enter Tryz.func117,Tryz.ntmps117;go_wp2;go_ret;exact⟨rfl,HB.o _ _⟩
    .have e:B=false:=by rw[HBb.o,h03,h13,h23,h33];simp
     subst e;go_enter Tryz.func117,Tryz.ntmps117;go_wp2;go_ret;exact⟨rfl,HB.o _ _⟩
   .rcases AO u d with ⟨_,h32,h33⟩|⟨_,h32,h34,_,h33⟩|⟨_,h32,h34,_,h33⟩
    .have e:B=true:=by rw[HBb.o,h03,h13,h23,h33];rfl
     subst e;go_enter Tryz.func117,Tryz.ntmps117;go_wp2;go_ret;exact⟨rfl,HB.o _ _⟩
    .have e:B=true:=by rw[HBb.o,h03,h13,h23,h33];rfl
     subst e;go_enter Tryz.func117,Tryz.ntmps117;go_wp2;go_ret;exact⟨rfl,HB.o _ _⟩
    .have e:B=false:=by rw[HBb.o,h03,h13,h23,h33];simp
     subst e;go_enter Tryz.func117,Tryz.ntmps117;go_wp2;go_ret;exact⟨rfl,HB.o _ _⟩
   .have e:B=false:=by rw[HBb.o,h03,h13,h23];simp
    subst e;go_enter Tryz.func117,Tryz.ntmps117;go_wp2;go_ret;exact⟨rfl,HB.o _ _⟩
  .have e:B=false:=by rw[HBb.o,h03,h13];simp
   subst e;go_enter Tryz.func117,Tryz.ntmps117;go_wp2;go_ret;exact⟨rfl,HB.o _ _⟩
 .have e:B=false:=by rw[HBb.o,h03];simp
  subst e;go_enter Tryz.func117,Tryz.ntmps117;go_wp2;go_ret;exact⟨rfl,HB.o _ _⟩
end Go.Proofs.YtacpbofiipdodaaGreat
