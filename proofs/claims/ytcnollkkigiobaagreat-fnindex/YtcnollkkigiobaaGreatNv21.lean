import Derived.Test.YtcnollkkigiobaaGreatNv11
set_option linter.unusedVariables false
set_option linter.unusedSimpArgs false
set_option maxRecDepth 100000
set_option maxHeartbeats 90000000
namespace Go.Proofs.YtcnollkkigiobaaGreat
open Go Go.Deep Go.RowKit Go.Proofs.Tryz
def Ev (p q:Int):Bool:=p == 0 || p == q
def Cr (q p:Qd):Bool:=Ev p.s q.s && Ev p.p q.p && Ev p.o q.o && Ev p.g q.g
theorem EK (p q:Int):(p=0/\(p == 0)=true/\Ev p q=true)\/(p≠0/\(p == 0)=false/\(p == q)=true/\p=q/\Ev p q=true)\/(p≠0/\(p == 0)=false/\(p == q)=false/\p≠q/\Ev p q=false):=by
 unfold Ev;by_cases h:p=0;.exact .inl ⟨h,by simp[h],by simp[h]⟩
 .by_cases a:p=q;.exact .inr (.inl ⟨h,by simp[h],by simp[a],a,by simp[a]⟩)
  .exact .inr (.inr ⟨h,by simp[h],by simp[a],a,by simp[h,a]⟩)
theorem Mq (q p:Qd) (w:World):UO 34 #[qv q,qv p] w (UP w (.bool (Cr q p))):=by
 unfold qv;have G:∀C E:Obj,Bl w ((w.alloc C).alloc E):=λ_ _=>(Aa _ _).alloc (by simp) _;have H:U (∀C E:Obj,Bl w ((w.alloc C).alloc E)):=G;clear G;obtain⟨B,A⟩:∃B,B=Cr q p:=⟨_,rfl⟩;have k:U (B=(Ev p.s q.s && Ev p.p q.p && Ev p.o q.o && Ev p.g q.g)):=A;rw[<- A];clear A;obtain⟨a,b,c,d⟩:=q;obtain⟨x,y,z,u⟩:=p;dsimp only at k ⊢;rcases EK x a with ⟨_,l,f⟩|⟨_,l,t,_,f⟩|⟨_,l,t,_,f⟩ <;> rcases EK y b with ⟨_,n,h⟩|⟨_,n,D,_,h⟩|⟨_,n,D,_,h⟩ <;> rcases EK z c with ⟨_,m,i⟩|⟨_,m,v,_,i⟩|⟨_,m,v,_,i⟩ <;> rcases EK u d with ⟨_,r,j⟩|⟨_,r,F,_,j⟩|⟨_,r,F,_,j⟩;all_goals
  first
   | have e:B=true:=by rw[k.o,f,h,i,j];rfl
   | have e:B=false:=by rw[k.o,f,h,i,j];rfl
  subst e
  go_enter func34,ntmps34
  go_wp2
  go_ret
  exact⟨rfl,H.o _ _⟩
end Go.Proofs.YtcnollkkigiobaaGreat
