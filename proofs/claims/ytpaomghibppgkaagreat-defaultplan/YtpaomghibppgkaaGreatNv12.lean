import Derived.Test.YtpaomghibppgkaaGreatNv8
import Derived.Test.YtpaomghibppgkaaGreatNv1
import Derived.Deep.QuietTactic
import Derived.BigQuiet
set_option linter.unusedVariables false
set_option maxRecDepth 100000
namespace Go.Proofs.YtpaomghibppgkaaGreat
open Go.RowKit Go.Deep

def SameN (x y:Tn):Prop:=x.lf=y.lf/\x.ct=y.ct/\x.kn=y.kn/\x.dn=y.dn/\(∀j,j<x.kn->x.ks j=y.ks j)/\∀j,j<x.dn->x.kd j=y.kd j

set_option maxHeartbeats 4000000 in
theorem sameNodes_any (a b:Option Addr) (n m ca cb:Nat) (F N:Nat->Tn) (w:World) (ha:RdTn w a n F) (hb:RdTn w b m N) (hn:n<=1048576) (hm:m<=1048576) (hF:∀i,i<n->TnFit (F i)) (hN:∀i,i<m->TnFit (N i)) :
  Calls Tryz.prog 89 #[.slice a n ca,.slice b m cb] w (AnsN w (n=m/\∀i,i<n->SameN (F i) (N i))):=by
 by_cases hnm:n=m
 ·subst hnm
  have hll:((n:Int) != (n:Int))=false:=by simp
  have HR:Hid (∀i,i<n->TnFit (F i)/\TnFit (N i)):=fun i hi=>⟨hF i hi,hN i hi⟩
  clear hF hN
  go_enter Tryz.func89,Tryz.ntmps89
  go_wp2
  go_loopw [5] (fun i wr=>∃k:Nat,k<=n/\i=.int .i64 k/\(∀j,j<k->SameN (F j) (N j))/\Below w.heap.size w wr) (fun i _=>n-(intOf i).toNat)
  case atStart=>exact ⟨0,Nat.zero_le _,rfl,fun j h=>absurd h (Nat.not_lt_zero _),Below.refl _ _⟩
  case round=>
   obtain ⟨k,hk,rfl,hall,hbel⟩:=hrel
   have HA:Hid (∀j,j<k->SameN (F j) (N j)):=hall
   clear hall
   by_cases hlt:k<n
   ·have hne:¬ n=0:=by omega
    have HAB:Hid (∀W,Below w.heap.size w W->RdTn W a n F/\RdTn W b n N):=fun W hW=>⟨ha.below hW,hb.below hW⟩
    have hk0:(0:Int)<=(k:Int):=by omega
    have hkn:(k:Int)<(n:Int):=by omega
    rcases ha.below hbel with h|⟨ba,oa,ea,hca⟩
    ·exact absurd h hne
    rcases hb.below hbel with h|⟨bb,ob,eb,hcb⟩
    ·exact absurd h hne
    subst ea
    subst eb
    obtain ⟨ka,kc,da,dc,c0,c1,c2,c3,c4,c5⟩:=hca k hlt
    obtain ⟨kb,kc',db,dc',g0,g1,g2,g3,g4,g5⟩:=hcb k hlt
    have HC:Hid (RdS wr ka (F k).kn (F k).ks/\Rd .i64 wr da (F k).dn (F k).kd/\RdS wr kb (N k).kn (N k).ks/\Rd .i64 wr db (N k).dn (N k).kd):=⟨c4,c5,g4,g5⟩
    have HB:Hid (Below w.heap.size w wr):=hbel
    obtain ⟨⟨fk1,fk2⟩,⟨fk3,fk4⟩⟩:=HR.out k hlt
    clear hca hcb ha hb hbel c4 c5 g4 g5
    by_cases e1:(F k).lf=(N k).lf
    ·rw [<- e1] at g0
     by_cases e2:(F k).ct=(N k).ct
     ·rw [<- e2] at g3
      by_cases e3:(F k).kn=(N k).kn
      ·rw [<- e3] at g1
       by_cases e4:(F k).dn=(N k).dn
       ·rw [<- e4] at g2
        have HE:Hid ((F k).lf=(N k).lf/\(F k).ct=(N k).ct/\(F k).kn=(N k).kn/\(F k).dn=(N k).dn):=⟨e1,e2,e3,e4⟩
        have HC2:Hid (RdS wr ka (F k).kn (F k).ks/\Rd .i64 wr da (F k).dn (F k).kd/\RdS wr kb (F k).kn (N k).ks/\Rd .i64 wr db (F k).dn (N k).kd):=by
         obtain ⟨h1,h2,h3,h4⟩:=HC.out
         rw [<- e3] at h3
         rw [<- e4] at h4
         exact ⟨h1,h2,h3,h4⟩
        clear e1 e2 e3 e4 HC fk3 fk4
        go_wp2
        go_quiet (fail)
        go_wp2
        go_loopw [6] (fun i w1=>∃(q z:Nat),q<=(F k).kn/\i=.int .i64 q/\(∀j,j<q->(F k).ks j=(N k).ks j)/\w1=wr.drewN z) (fun i _=>(F k).kn-(intOf i).toNat)
        case atStart=>exact ⟨0,nq,Nat.zero_le _,rfl,fun j h=>absurd h (Nat.not_lt_zero _),rfl⟩
        case round=>
         obtain ⟨q,z,hq,rfl,hallq,rfl⟩:=hrel
         have HQ:Hid (∀j,j<q->(F k).ks j=(N k).ks j):=hallq
         clear hallq
         by_cases hlq:q<(F k).kn
         ·have hq0:(0:Int)<=(q:Int):=by omega
          have hqn:(q:Int)<((F k).kn:Int):=by omega
          rcases HC2.out.1 with h|⟨b1,o1,ek1,hs1⟩
          ·omega
          rcases HC2.out.2.2.1 with h|⟨b2,o2,ek2,hs2⟩
          ·omega
          subst ek1
          subst ek2
          have s1:=hs1 q hlq
          have s2:=hs2 q hlq
          clear hs1 hs2
          by_cases hs:(F k).ks q=(N k).ks q
          ·rw [<- hs] at s2
           have HS:Hid ((F k).ks q=(N k).ks q):=hs
           clear hs
           go_wp2
           go_quiet (fail)
           go_wp2
           go_roundw
           case rel=>
            refine ⟨q+1,_,by omega,by go_num,fun j hj=>?_,rfl⟩
            by_cases e:j=q
            ·subst e;exact HS.out
            ·exact HQ.out j (by omega)
           case measure=>simp [intOf];omega
          ·have HNo:Hid (¬ (n=n/\∀i,i<n->SameN (F i) (N i))):=fun h=>hs ((h.2 k hlt).2.2.2.2.1 q hlq)
           have hs1:(((F k).ks q).toList == ((N k).ks q).toList)=false:=by
            rw [beq_eq_false_iff_ne]
            exact fun h=>hs (str_inj h)
           have hs2:(!(((F k).ks q).toList == ((N k).ks q).toList))=true:=by rw [hs1];rfl
           go_wp2
           go_quiet (fail)
           go_wp2
           go_ret
           exact ⟨false,rfl,by simp [HNo.out],below_drewN (below_drewN HB.out _) _⟩
         ·have e:q=(F k).kn:=by omega
          have HQ2:Hid (∀j,j<(F k).kn->(F k).ks j=(N k).ks j):=by
           rw [<- e]
           exact HQ.out
          clear HQ
          have hqf:¬ (q:Int)<((F k).kn:Int):=by omega
          have hqf' : decide ((q:Int)<((F k).kn:Int))=false:=decide_eq_false hqf
          clear e hq hlq
          go_wp2
          go_loopw [7] (fun i w1=>∃(q z:Nat),q<=(F k).dn/\i=.int .i64 q/\(∀j,j<q->(F k).kd j=(N k).kd j)/\w1=wr.drewN z) (fun i _=>(F k).dn-(intOf i).toNat)
          case atStart=>exact ⟨0,z,Nat.zero_le _,rfl,fun j h=>absurd h (Nat.not_lt_zero _),rfl⟩
          case round=>
           obtain ⟨p,y,hp,rfl,hallp,rfl⟩:=hrel
           have HP:Hid (∀j,j<p->(F k).kd j=(N k).kd j):=hallp
           clear hallp
           by_cases hlp:p<(F k).dn
           ·have hp0:(0:Int)<=(p:Int):=by omega
            have hpn:(p:Int)<((F k).dn:Int):=by omega
            rcases HC2.out.2.1 with h|⟨b1,o1,ek1,hs1⟩
            ·omega
            rcases HC2.out.2.2.2 with h|⟨b2,o2,ek2,hs2⟩
            ·omega
            subst ek1
            subst ek2
            have s1:=hs1 p hlp
            have s2:=hs2 p hlp
            clear hs1 hs2
            by_cases hs:(F k).kd p=(N k).kd p
            ·rw [<- hs] at s2
             have HS:Hid ((F k).kd p=(N k).kd p):=hs
             clear hs
             go_wp2
             go_quiet (fail)
             go_wp2
             go_roundw
             case rel=>
              refine ⟨p+1,_,by omega,by go_num,fun j hj=>?_,rfl⟩
              by_cases e:j=p
              ·subst e;exact HS.out
              ·exact HP.out j (by omega)
             case measure=>simp [intOf];omega
            ·have HNo:Hid (¬ (n=n/\∀i,i<n->SameN (F i) (N i))):=fun h=>hs ((h.2 k hlt).2.2.2.2.2 p hlp)
             have hs1:((F k).kd p != (N k).kd p)=true:=by simpa using hs
             go_wp2
             go_quiet (fail)
             go_wp2
             go_ret
             exact ⟨false,rfl,by simp [HNo.out],below_drewN (below_drewN HB.out _) _⟩
           ·have e:p=(F k).dn:=by omega
            have HSame:Hid (SameN (F k) (N k)):=⟨HE.out.1,HE.out.2.1,HE.out.2.2.1,HE.out.2.2.2,HQ2.out,by rw [<- e];exact HP.out⟩
            have hpf:¬ (p:Int)<((F k).dn:Int):=by omega
            have hpf' : decide ((p:Int)<((F k).dn:Int))=false:=decide_eq_false hpf
            clear e hp hlp
            go_wp2
            go_roundw
            case rel=>
             refine ⟨k+1,by omega,by go_num,fun j hj=>?_,below_drewN HB.out _⟩
             by_cases e:j=k
             ·subst e;exact HSame.out
             ·exact HA.out j (by omega)
            case measure=>simp [intOf];omega
       ·have q4:(((F k).dn:Int) != ((N k).dn:Int))=true:=by simp;omega
        have HNo:Hid (¬ (n=n/\∀i,i<n->SameN (F i) (N i))):=fun h=>e4 (h.2 k hlt).2.2.2.1
        clear e1 e2 e3 e4
        go_wp2
        go_quiet (fail)
        go_wp2
        go_ret
        exact ⟨false,rfl,by simp [HNo.out],below_drewN HB.out _⟩
      ·have q3:(((F k).kn:Int) != ((N k).kn:Int))=true:=by simp;omega
       have e4:=e3
       have HNo:Hid (¬ (n=n/\∀i,i<n->SameN (F i) (N i))):=fun h=>e3 (h.2 k hlt).2.2.1
       clear e1 e2 e3 e4
       go_wp2
       go_quiet (fail)
       go_wp2
       go_ret
       exact ⟨false,rfl,by simp [HNo.out],below_drewN HB.out _⟩
     ·have q2:((F k).ct != (N k).ct)=true:=by simpa using e2
      have e4:=e2
      have e3:=e2
      have HNo:Hid (¬ (n=n/\∀i,i<n->SameN (F i) (N i))):=fun h=>e2 (h.2 k hlt).2.1
      clear e1 e2 e3 e4
      go_wp2
      go_quiet (fail)
      go_wp2
      go_ret
      exact ⟨false,rfl,by simp [HNo.out],below_drewN HB.out _⟩
    ·have q1:((F k).lf != (N k).lf)=true:=by simpa using e1
     have q1' : (!((F k).lf == (N k).lf))=true:=by simpa using e1
     have e4:=e1
     have e3:=e1
     have e2:=e1
     have HNo:Hid (¬ (n=n/\∀i,i<n->SameN (F i) (N i))):=fun h=>e1 (h.2 k hlt).1
     clear e1 e2 e3 e4
     go_wp2
     go_quiet (fail)
     go_wp2
     go_ret
     exact ⟨false,rfl,by simp [HNo.out],below_drewN HB.out _⟩
   ·have e:k=n:=by omega
    subst e
    go_wp2
    go_ret
    exact ⟨true,rfl,by simp only [true_iff];exact ⟨trivial,HA.out⟩,hbel⟩
 ·have hll:((n:Int) != (m:Int))=true:=by simp;omega
  have HN:Hid (¬ n=m):=hnm
  go_enter Tryz.func89,Tryz.ntmps89
  go_wp2
  go_ret
  exact ⟨false,rfl,by simp [HN.out],Below.refl _ _⟩
end Go.Proofs.YtpaomghibppgkaaGreat
