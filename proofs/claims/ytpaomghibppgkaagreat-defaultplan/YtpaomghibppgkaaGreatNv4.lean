import Derived.Test.YtpaomghibppgkaaGreatNv1
import Derived.WalkKit
import Derived.Handy
import Derived.Test.YtpaomghibppgkaaGreatNv3
import Derived.Deep.Upon
import Derived.Maps.AppendAt
import Derived.Test.YtpaomghibppgkaaGreatRows
import Derived.ProofKit
import Derived.OpenShut
import Derived.Lib.SmallJoins
import Derived.Deep.SlicePairs
import Derived.Deep.CutBlock
import Derived.Deep.RegionWith
import Derived.Deep.RegionHeld3
set_option linter.unusedVariables false
set_option maxRecDepth 100000
namespace Go.Proofs.YtpaomghibppgkaaGreat
open Go.RowKit Go.Deep

def arOf (k:Int):Nat:=if k<=2 then 0 else if 6<=k/\k<=8 then 2 else 1
theorem arOf_le (k:Int):arOf k<=2:=by unfold arOf;split <;> (try split) <;> omega

set_option maxHeartbeats 400000 in
theorem l6Arity_any (k:Int) (w:World):Calls Tryz.prog 86 #[.int .i64 k] w fun e w'=>e=.returned (.int .i64 (arOf k))/\w'=w:=by
 by_cases h1:k<=2
 ·have HE:Hid (arOf k=0):=by show _=_;unfold arOf;rw [if_pos h1]
  go_enter Tryz.func86,Tryz.ntmps86
  go_wp2
  go_ret
  exact ⟨by rw [HE.out];rfl,rfl⟩
 ·have h1' : decide (k<=2)=false:=decide_eq_false h1
  by_cases h2:6<=k
  ·have h2' : decide (6<=k)=true:=decide_eq_true h2
   by_cases h3:k<=8
   ·have h3' : decide (k<=8)=true:=decide_eq_true h3
    have HE:Hid (arOf k=2):=by show _=_;unfold arOf;rw [if_neg h1,if_pos ⟨h2,h3⟩]
    go_enter Tryz.func86,Tryz.ntmps86
    go_wp2
    go_ret
    exact ⟨by rw [HE.out];rfl,rfl⟩
   ·have h3' : decide (k<=8)=false:=decide_eq_false h3
    have HE:Hid (arOf k=1):=by show _=_;unfold arOf;rw [if_neg h1,if_neg (fun h=>h3 h.2)]
    go_enter Tryz.func86,Tryz.ntmps86
    go_wp2
    go_ret
    exact ⟨by rw [HE.out];rfl,rfl⟩
  ·have h2' : decide (6<=k)=false:=decide_eq_false h2
   have HE:Hid (arOf k=1):=by show _=_;unfold arOf;rw [if_neg h1,if_neg (fun h=>h2 h.1)]
   go_enter Tryz.func86,Tryz.ntmps86
   go_wp2
   go_ret
   exact ⟨by rw [HE.out];rfl,rfl⟩

theorem need_le {a:Nat->Nat} (ha:∀i,a i<=2) (n:Nat):∀k,k<=n->need a n (n-k)<=1+k
 | 0,_=>by rw [Nat.sub_zero,need_end];omega
 | k+1,h=>by
  have h1:=need_le ha n k (by omega)
  have h2:=need_step a n (n-(k+1))
  rw [show n-(k+1)+1=n-k by omega] at h2
  have:=ha (n-(k+1))
  omega

def FromRet (A:Nat->Nat) (n:Nat) (w:World) (e:Ending) (w' : World):Prop:=
 w'=w/\((∃s,Begins A n s/\e=.returned (.int .i64 (s:Int)))\/((¬ ∃s,Begins A n s)/\e=.returned (.int .i64 (-1))))

set_option maxHeartbeats 1000000 in
theorem l6From_any (a:Option Addr) (n c:Nat) (I:Nat->Int) (X R:Nat->ByteArray) (w:World) (h:RdN w a n I X R) (hn:n<=1048576) :
  Calls Tryz.prog 47 #[.slice a n c] w (FromRet (fun i=>arOf (I i)) n w):=by
 obtain ⟨A,hA⟩:∃A:Nat->Nat,A=fun i=>arOf (I i):=⟨_,rfl⟩
 rw [<- hA]
 have HA:Hid (∀i,arOf (I i)=A i):=fun i=>by rw [hA]
 have HA2:Hid (∀i,A i<=2):=fun i=>by rw [hA];exact arOf_le _
 have HR:Hid (RdN w a n I X R):=h
 clear hA h
 go_enter Tryz.func47,Tryz.ntmps47
 go_wp2
 go_loop [3,4] (fun m i=>∃k:Nat,k<=n/\i=.int .i64 k/\m=.int .i64 (need A n k)/\∀j,k<j->j<=n->0<need A n j) (fun _ i=>(intOf i).toNat+1)
 case atStart=>exact ⟨n,Nat.le_refl _,rfl,by rw [need_end],fun j h1 h2=>absurd h1 (by omega)⟩
 case round=>
  obtain ⟨k,hk,rfl,rfl,hpos⟩:=hrel
  have HP:Hid (∀j,k<j->j<=n->0<need A n j):=hpos
  have hup:=need_le HA2.out n (n-k) (by omega)
  rw [show n-(n-k)=k by omega] at hup
  clear hpos
  by_cases h0:0<need A n k
  ·have h0' : decide (0<need A n k)=true:=decide_eq_true h0
   by_cases hk0:k=0
   ·have HN:Hid (¬ ∃s,Begins A n s):=by
     rintro ⟨s,h1,h2,_⟩
     by_cases hs:s=0
     ·rw [hs,<- hk0] at h2;omega
     ·have:=HP.out s (by omega) (by omega)
      omega
    have e1:IntKind.i64.wrap ((k:Int)-1)=-1:=by rw [hk0];rfl
    have e2:IntKind.i64.wrap ((0:Int)-1)=-1:=rfl
    have e3:IntKind.i64.wrap (-1)=-1:=rfl
    have HK:Hid (k=0):=hk0
    obtain ⟨m,hm⟩:∃m,m=need A n k:=⟨_,rfl⟩
    rw [<- hm] at h0 h0' hup ⊢
    clear hk0 hm HP
    go_wp2
    go_ret
    exact ⟨rfl,Or.inr ⟨HN.out,rfl⟩⟩
   ·obtain ⟨k',rfl⟩:∃k',k=k'+1:=⟨k-1,by omega⟩
    have hne:¬ n=0:=by omega
    rcases HR.out with h|⟨b,o,rfl,hc⟩
    ·exact absurd h hne
    have c1:=(hc k' (by omega)).1
    have e1:IntKind.i64.wrap (((k'+1:Nat):Int)-1)=(k' : Int):=by rw [IntKind.wrap_i64];omega
    have e1' : IntKind.i64.wrap ((k' : Int)+1-1)=(k' : Int):=by rw [IntKind.wrap_i64];omega
    have ek:IntKind.i64.wrap (k' : Int)=(k' : Int):=by rw [IntKind.wrap_i64];omega
    have ik:(k' : Int)<(n:Int):=by omega
    have ik0:¬ (k' : Int)<0:=by omega
    have ik1:(0:Int)<=(k' : Int):=by omega
    obtain ⟨m,hm⟩:∃m,m=need A n (k'+1):=⟨_,rfl⟩
    obtain ⟨q,hq⟩:∃q,q=A k':=⟨_,rfl⟩
    have HS:Hid (need A n k'=m-1+q/\m=need A n (k'+1)/\q=A k'):=⟨by rw [hm,hq];exact need_step A n k',hm,hq⟩
    have hq2:q<=2:=by rw [hq];exact HA2.out _
    rw [<- hm] at h0 h0' hup ⊢
    clear hm hq hc
    have e2:IntKind.i64.wrap (m-1)=m-1:=by rw [IntKind.wrap_i64];omega
    have e3:IntKind.i64.wrap (m-1+(q:Int))=m-1+(q:Int):=by rw [IntKind.wrap_i64];omega
    go_wp2_with fail
    refine (l6Arity_any (I k') w).mono ?_
    rintro e w1 ⟨rfl,hw1⟩
    rw [HA.out,<- HS.out.2.2]
    subst hw1
    go_wp2
    go_round
    case rel=>
     refine ⟨k',by omega,by go_num,?_,fun j h1 h2=>?_⟩
     ·rw [HS.out.1]
     ·by_cases e:j=k'+1
      ·subst e;rw [<- HS.out.2.1];exact h0
      ·exact HP.out j (by omega) h2
    case measure=>simp [intOf]
  ·have h0' : decide (0<need A n k)=false:=decide_eq_false h0
   have HB:Hid (Begins A n k):=by
    have hkn:k≠n:=fun e=>by rw [e,need_end] at h0;omega
    have h1:=HP.out (k+1) (by omega) (by omega)
    have h2:=need_step A n k
    exact ⟨by omega,by omega,HP.out⟩
   go_wp2
   go_ret
   exact ⟨rfl,Or.inl ⟨k,HB.out,rfl⟩⟩

def KidL {T:Type} (P:T->Value->Prop):List T->List Value->Prop
 | [],[]=>True
 | t::ts,x0::x1::x2::xs=>P t (.agg #[x0,x1,x2])/\KidL P ts xs
 | _,_=>False

theorem KidL.len {T:Type} {P:T->Value->Prop}:∀{ts:List T} {xs:List Value},KidL P ts xs->xs.length=ts.length*3
 | [],[],_=>rfl
 | t::ts,x0::x1::x2::xs,h=>by
  have:=KidL.len h.2
  simp only [List.length_cons]
  omega
 | [],x::xs,h=>h.elim
 | t::ts,[],h=>h.elim
 | t::ts,[x0],h=>h.elim
 | t::ts,[x0,x1],h=>h.elim

theorem KidL.mono {T:Type} {P Q:T->Value->Prop} (hPQ:∀t v,P t v->Q t v):∀{ts:List T} {xs:List Value},KidL P ts xs->KidL Q ts xs
 | [],[],_=>trivial
 | t::ts,x0::x1::x2::xs,h=>⟨hPQ _ _ h.1,KidL.mono hPQ h.2⟩
 | [],x::xs,h=>h.elim
 | t::ts,[],h=>h.elim
 | t::ts,[x0],h=>h.elim
 | t::ts,[x0,x1],h=>h.elim

theorem KidL.app {T:Type} {P:T->Value->Prop} {t:T} {x0 x1 x2:Value} (ht:P t (.agg #[x0,x1,x2])):∀{ts:List T} {xs:List Value},KidL P ts xs->KidL P (ts++[t]) (xs++[x0,x1,x2])
 | [],[],_=>⟨ht,trivial⟩
 | t::ts,x0::x1::x2::xs,h=>⟨h.1,KidL.app ht h.2⟩
 | [],x::xs,h=>h.elim
 | t::ts,[],h=>h.elim
 | t::ts,[x0],h=>h.elim
 | t::ts,[x0,x1],h=>h.elim

theorem KidL.get {T:Type} {P:T->Value->Prop}:∀{ts:List T} {xs:List Value},KidL P ts xs->∀i (h:i<ts.length),∃x0 x1 x2,xs[i*3]?=some x0/\xs[i*3+1]?=some x1/\xs[i*3+2]?=some x2/\P ts[i] (.agg #[x0,x1,x2])
 | [],[],_,i,hi=>absurd hi (Nat.not_lt_zero _)
 | t::ts,x0::x1::x2::xs,h,0,hi=>⟨x0,x1,x2,rfl,rfl,rfl,h.1⟩
 | t::ts,x0::x1::x2::xs,h,i+1,hi=>by
  obtain ⟨y0,y1,y2,h0,h1,h2,h3⟩:=KidL.get h.2 i (by simpa using hi)
  refine ⟨y0,y1,y2,?_,?_,?_,by simpa using h3⟩
  ·rw [show (i+1)*3=i*3+3 by omega];simpa using h0
  ·rw [show (i+1)*3+1=i*3+1+3 by omega];simpa using h1
  ·rw [show (i+1)*3+2=i*3+2+3 by omega];simpa using h2
 | [],x::xs,h,_,_=>h.elim
 | t::ts,[],h,_,_=>h.elim
 | t::ts,[x0],h,_,_=>h.elim
 | t::ts,[x0,x1],h,_,_=>h.elim

def LeafV (K:Option Addr->Nat->Nat->(Nat->ByteArray)->Prop) (t:List ByteArray) (v:Value):Prop:=
 ∃ka kc ca cc,v=.agg #[.bool true,.slice ka t.length kc,.slice ca 0 cc]/\K ka t.length kc (gt t)

def NestAt (K:Option Addr->Nat->Nat->(Nat->ByteArray)->Prop) (S:Nat->Prop) (w:World):(d:Nat)->Ro d->Value->Prop
 | 0,_,_=>False
 | d+1,.inl t,v=>LeafV K t v
 | d+1,.inr l,v=>∃ka kc b cc xs,v=.agg #[.bool false,.slice ka 0 kc,.slice (some ⟨b,0,none⟩) l.length cc]/\(S b/\l.length<=cc/\cc<=9223372036854775807)/\b<w.heap.size/\0<l.length/\(∀j u,xs[j]?=some u->w.cell? ⟨b,j,none⟩=some u)/\KidL (fun t v=>NestAt K S w d t v) l xs

theorem NestAt.mono {K K' : Option Addr->Nat->Nat->(Nat->ByteArray)->Prop} {S S' : Nat->Prop} {w w' : World} (hK:∀a n c X,K a n c X->K' a n c X) (hS:∀b,S b->b<w.heap.size->S' b) (hz:w.heap.size<=w'.heap.size) (hw:∀b j,S b->b<w.heap.size->w'.cell? ⟨b,j,none⟩=w.cell? ⟨b,j,none⟩):∀{d:Nat} {t:Ro d} {v:Value},NestAt K S w d t v->NestAt K' S' w' d t v
 | 0,_,_,h=>h
 | d+1,.inl t,v,h=>by
  obtain ⟨ka,kc,ca,cc,rfl,hk⟩:=h
  exact ⟨ka,kc,ca,cc,rfl,hK _ _ _ _ hk⟩
 | d+1,.inr l,v,h=>by
  obtain ⟨ka,kc,b,cc,xs,rfl,hs,hb,hl,hx,hk⟩:=h
  exact ⟨ka,kc,b,cc,xs,rfl,⟨hS b hs.1 hb,hs.2⟩,by omega,hl,fun j u hj=>by rw [hw b j hs.1 hb];exact hx j u hj,hk.mono (fun t v h=>NestAt.mono hK hS hz hw h)⟩

theorem NestAt.below {K:Option Addr->Nat->Nat->(Nat->ByteArray)->Prop} {S:Nat->Prop} {w w' : World} {d:Nat} {t:Ro d} {v:Value} (h:NestAt K S w d t v) (hb:Below w.heap.size w w'):NestAt K S w' d t v:=
 h.mono (fun _ _ _ _ h=>h) (fun _ h _=>h) hb.size (fun b j _ hlt=>hb.cell (p:=⟨b,j,none⟩) hlt)

theorem NestAt.form {K:Option Addr->Nat->Nat->(Nat->ByteArray)->Prop} {S:Nat->Prop} {w:World}:∀{d:Nat} {t:Ro d} {v:Value},NestAt K S w d t v->∃lf ka kn kc ca cn cc,v=.agg #[.bool lf,.slice ka kn kc,.slice ca cn cc]
 | 0,_,_,h=>h.elim
 | d+1,.inl t,v,h=>by
  obtain ⟨ka,kc,ca,cc,rfl,hk⟩:=h
  exact ⟨_,_,_,_,_,_,_,rfl⟩
 | d+1,.inr l,v,h=>by
  obtain ⟨ka,kc,b,cc,xs,rfl,hs,hb,hl,hx,hk⟩:=h
  exact ⟨_,_,_,_,_,_,_,rfl⟩

def NsAt (w:World) (b o n:Nat) (N:Nat->Tn) (KA DA:Nat->Option Addr) (KC DC:Nat->Nat):Prop:=
 ∀i,i<n->w.cell? ⟨b,o+i*4,none⟩=some (.bool (N i).lf)/\w.cell? ⟨b,o+i*4+1,none⟩=some (.slice (KA i) (N i).kn (KC i))/\
  w.cell? ⟨b,o+i*4+2,none⟩=some (.slice (DA i) (N i).dn (DC i))/\w.cell? ⟨b,o+i*4+3,none⟩=some (.int .i64 (N i).ct)/\Rd .i64 w (DA i) (N i).dn (N i).kd

theorem NsAt.below {w w' : World} {b o n:Nat} {N:Nat->Tn} {KA DA:Nat->Option Addr} {KC DC:Nat->Nat} (h:NsAt w b o n N KA DA KC DC) (hb:Below w.heap.size w w'):NsAt w' b o n N KA DA KC DC:=by
 intro i hi
 obtain ⟨h0,h1,h2,h3,h5⟩:=h i hi
 refine ⟨?_,?_,?_,?_,h5.below hb⟩
 ·rw [hb.cell (World.block_lt_of_cell? _ _ h0)];exact h0
 ·rw [hb.cell (World.block_lt_of_cell? _ _ h1)];exact h1
 ·rw [hb.cell (World.block_lt_of_cell? _ _ h2)];exact h2
 ·rw [hb.cell (World.block_lt_of_cell? _ _ h3)];exact h3

def RetNest {T:Type} (P:World->(Nat->Prop)->T->Value->Prop) (w:World) (r:Option (T × Nat)) (n:Nat) (e:Ending) (w' : World):Prop:=
 Below w.heap.size w w'/\∃lf ka kn kc ca cn cc x ok,e=.returned (.tuple #[.agg #[.bool lf,.slice ka kn kc,.slice ca cn cc],.int .i64 x,.bool ok])/\
  ((ok=false/\r=none)\/(ok=true/\∃t y,r=some (t,y)/\x=(y:Int)/\y<=n/\P w' (fun b=>w.heap.size<=b) t (.agg #[.bool lf,.slice ka kn kc,.slice ca cn cc])))

theorem Tryz.info9 : (Tryz.prog.info? 9).map (fun i=>(i.zero,i.size,i.bytes))=some (some (.string { data:=#[] }),1,16):=by kernel_rfl
theorem Tryz.info2 : (Tryz.prog.info? 2).map (fun i=>(i.zero,i.size,i.bytes))=some (some (.int .i64 0),1,8):=by kernel_rfl
theorem Tryz.info210 : (Tryz.prog.info? 210).map (fun i=>(i.zero,i.size,i.bytes))=some (some (.agg #[.bool false,.slice none 0 0,.slice none 0 0,.int .i64 0]),4,64):=by kernel_rfl

set_option maxHeartbeats 1000000 in
theorem toStringS_any (a:Option Addr) (len cap:Nat) (f:Nat->ByteArray) (w:World) (h:RdS w a len f) (hm:len<=1048576) :
  Calls Tryz.prog 135 #[.slice a len cap] w fun e w'=>e=.returned (.slice (some ⟨w.heap.size,0,none⟩) len len)/\
   w'.rowIs w.heap.size 9 len (fun i=>.string (f i))/\Below w.heap.size w w'/\w'.heap.size=w.heap.size+1:=by
 have hmk:=run_make_row' (P:=Tryz.prog) 113 9 (.string { data:=#[] }) 16 Tryz.underlying113 Tryz.info9 rfl .i64 .i64 len (by omega) (by omega)
 have hbel:Below w.heap.size w (w.alloc (.cells (madeCells #[.string { data:=#[] }] len) 9)):=(Below.refl _ _).alloc (Nat.le_refl _) _
 have hrow:=(World.rowIs_made w (.string { data:=#[] }) len 9).congr (g:=fun j=>if j<0 then .string (f j) else .string { data:=#[] }) (fun j _=>by simp)
 have HS:Hid (Below w.heap.size w (w.alloc (.cells (madeCells #[.string { data:=#[] }] len) 9))/\(w.alloc (.cells (madeCells #[.string { data:=#[] }] len) 9)).rowIs w.heap.size 9 len (fun j=>if j<0 then .string (f j) else .string { data:=#[] })):=⟨hbel,hrow⟩
 clear hbel hrow
 go_enter Tryz.func135,Tryz.ntmps135
 go_wp2
 go_loopw [4] (fun i wr=>∃k:Nat,k<=len/\i=.int .i64 k/\wr.rowIs w.heap.size 9 len (fun j=>if j<k then .string (f j) else .string { data:=#[] })/\Below w.heap.size w wr/\wr.heap.size=w.heap.size+1) (fun i _=>len-(intOf i).toNat)
 case atStart=>exact ⟨0,Nat.zero_le _,rfl,HS.out.2,HS.out.1,by simp⟩
 case round=>
  obtain ⟨k,hk,rfl,hrow,hbel,hsz⟩:=hrel
  clear HS
  by_cases hlt:k<len
  ·have hne:¬ len=0:=by omega
   rcases h with h|⟨b,o,rfl,hc⟩
   ·exact absurd h hne
   have hb:b<w.heap.size:=World.block_lt_of_cell? _ _ (hc k hlt)
   have hcx:wr.cell? ⟨b,o+k,none⟩=some (.string (f k)):=(hbel.cell (p:=⟨b,o+k,none⟩) hb).trans (hc k hlt)
   have hcy:=hrow.cell hlt
   simp only [Nat.lt_irrefl,if_false] at hcy
   have hfy:=hrow.frozen k
   have HX:Hid ((wr.setCell ⟨w.heap.size,k,none⟩ (.string (f k))).rowIs w.heap.size 9 len (fun j=>if j<k+1 then .string (f j) else .string { data:=#[] })/\Below w.heap.size w (wr.setCell ⟨w.heap.size,k,none⟩ (.string (f k)))/\(wr.setCell ⟨w.heap.size,k,none⟩ (.string (f k))).heap.size=w.heap.size+1):=
    ⟨rowCopy (f:=fun j=>.string (f j)) hrow,hbel.setCell (Nat.le_refl _) _,by simpa using hsz⟩
   clear hrow hbel hc hsz hmk
   go_wp2
   go_roundw
   case rel=>exact ⟨k+1,by omega,by go_num,HX.out⟩
   case measure=>simp [intOf];omega
  ·have e:k=len:=by omega
   subst e
   clear hmk
   go_wp2
   go_ret
   exact ⟨rfl,hrow.congr (fun i hi=>by simp [hi]),hbel,hsz⟩

set_option maxHeartbeats 1000000 in
theorem toInt64S_any (a:Option Addr) (len cap:Nat) (f:Nat->Int) (w:World) (h:Rd .i64 w a len f) (hm:len<=1048576) :
  Calls Tryz.prog 136 #[.slice a len cap] w fun e w'=>e=.returned (.slice (some ⟨w.heap.size,0,none⟩) len len)/\
   w'.rowIs w.heap.size 2 len (fun i=>.int .i64 (f i))/\Below w.heap.size w w'/\w'.heap.size=w.heap.size+1:=by
 have hmk:=run_make_row' (P:=Tryz.prog) 34 2 (.int .i64 0) 8 Tryz.underlying34 Tryz.info2 rfl .i64 .i64 len (by omega) (by omega)
 have hbel:Below w.heap.size w (w.alloc (.cells (madeCells #[.int .i64 0] len) 2)):=(Below.refl _ _).alloc (Nat.le_refl _) _
 have hrow:=(World.rowIs_made w (.int .i64 0) len 2).congr (g:=fun j=>if j<0 then .int .i64 (f j) else .int .i64 0) (fun j _=>by simp)
 have HS:Hid (Below w.heap.size w (w.alloc (.cells (madeCells #[.int .i64 0] len) 2))/\(w.alloc (.cells (madeCells #[.int .i64 0] len) 2)).rowIs w.heap.size 2 len (fun j=>if j<0 then .int .i64 (f j) else .int .i64 0)):=⟨hbel,hrow⟩
 clear hbel hrow
 go_enter Tryz.func136,Tryz.ntmps136
 go_wp2
 go_loopw [4] (fun i wr=>∃k:Nat,k<=len/\i=.int .i64 k/\wr.rowIs w.heap.size 2 len (fun j=>if j<k then .int .i64 (f j) else .int .i64 0)/\Below w.heap.size w wr/\wr.heap.size=w.heap.size+1) (fun i _=>len-(intOf i).toNat)
 case atStart=>exact ⟨0,Nat.zero_le _,rfl,HS.out.2,HS.out.1,by simp⟩
 case round=>
  obtain ⟨k,hk,rfl,hrow,hbel,hsz⟩:=hrel
  clear HS
  by_cases hlt:k<len
  ·have hne:¬ len=0:=by omega
   rcases h with h|⟨b,o,rfl,hc⟩
   ·exact absurd h hne
   have hb:b<w.heap.size:=World.block_lt_of_cell? _ _ (hc k hlt)
   have hcx:wr.cell? ⟨b,o+k,none⟩=some (.int .i64 (f k)):=(hbel.cell (p:=⟨b,o+k,none⟩) hb).trans (hc k hlt)
   have hcy:=hrow.cell hlt
   simp only [Nat.lt_irrefl,if_false] at hcy
   have hfy:=hrow.frozen k
   have HX:Hid ((wr.setCell ⟨w.heap.size,k,none⟩ (.int .i64 (f k))).rowIs w.heap.size 2 len (fun j=>if j<k+1 then .int .i64 (f j) else .int .i64 0)/\Below w.heap.size w (wr.setCell ⟨w.heap.size,k,none⟩ (.int .i64 (f k)))/\(wr.setCell ⟨w.heap.size,k,none⟩ (.int .i64 (f k))).heap.size=w.heap.size+1):=
    ⟨rowCopy (f:=fun j=>.int .i64 (f j)) hrow,hbel.setCell (Nat.le_refl _) _,by simpa using hsz⟩
   clear hrow hbel hc hsz hmk
   go_wp2
   go_roundw
   case rel=>exact ⟨k+1,by omega,by go_num,HX.out⟩
   case measure=>simp [intOf];omega
  ·have e:k=len:=by omega
   subst e
   clear hmk
   go_wp2
   go_ret
   exact ⟨rfl,hrow.congr (fun i hi=>by simp [hi]),hbel,hsz⟩

def TnBig (x:Tn):Prop:=x.kn<=maxLen/\x.dn<=maxLen/\∀j,j<x.kn->(x.ks j).size<=maxLen
def TnFit (x:Tn):Prop:=x.kn<=1048576/\x.dn<=1048576

end Go.Proofs.YtpaomghibppgkaaGreat
namespace Go.Proofs.YtpaomghibppgkaaGreat
open Go.ChangeShapes Go.WideShapes Go.ChangeAt Go.RowKit Go.Deep Go.Joins

section
variable {H:Type} {enc:TypeId × Value->H} {W:World}

theorem spotT_of {w:World} {a:Addr} {v:Value} (h:w.cell? (a.add 0)=some v):a.spot=none:=by
 obtain ⟨b,off,spot⟩:=a
 simpa [Addr.add] using World.cell?_spot h

theorem addT_eq {b off i:Nat}:(Addr.add ⟨b,off,none⟩ i)=⟨b,off+i,none⟩:=by
 unfold Addr.add
 by_cases h:i=0
 ·subst h;simp
 ·simp [h]

set_option maxRecDepth 100000 in
theorem i64s_of {fuel:Nat} {cs:List Value} {x:DataW H × List MemPlace} (h:DataW.trod enc Tryz.prog W 0 (fun _=>true) true fuel 34 cs=some x) :
  ∃a n c f,cs=[.slice a n c]/\Rd .i64 W a n f/\n<=maxLen/\∀i,i<n->(Lit.int .i64 (f i)).wf=true:=by
 rcases open_ints Tryz.underlying34 Tryz.underlying2 (by kernel_rfl) h with ⟨hcs,_⟩|⟨y,l,c,zs,hcs,_,hl,hm,hz,_,hcell,hwz⟩
 ·exact ⟨none,0,0,fun _=>0,hcs,Or.inl rfl,Nat.zero_le _,fun i hi=>absurd hi (Nat.not_lt_zero _)⟩
 ·refine ⟨_,l,c,fun i=>zs.getD i 0,hcs,?_,by omega,fun i hi=>?_⟩
  ·by_cases h0:l=0
   ·exact Or.inl h0
   ·simp at hz
    obtain ⟨b,off,spot⟩:=y
    have hs:=spotT_of (hcell 0 (by omega))
    simp at hs
    subst hs
    exact Or.inr ⟨b,off,rfl,fun i hi=>by rw [<- addT_eq];exact hcell i (by omega)⟩
  ·simp at hz
   have hiz:i<zs.length:=by omega
   exact hwz (zs.getD i 0) (by rw [List.getD_eq_getElem?_getD,List.getElem?_eq_getElem hiz];exact List.getElem_mem hiz)

set_option maxRecDepth 100000 in
theorem strs_of {fuel:Nat} {cs:List Value} {x:DataW H × List MemPlace} (h:DataW.trod enc Tryz.prog W 0 (fun _=>true) true fuel 113 cs=some x) :
  ∃a n c X,cs=[.slice a n c]/\RdS W a n X/\(∀i,i<n->(X i).size<=maxLen)/\n<=maxLen:=by
 rcases open_slice (P:=Tryz.prog) (t:=113) (e:=9) (by kernel_rfl) h with ⟨hcs,_⟩|⟨a,len,cap,m,fu,D,Pl,hcs,_,hl,hm,hmm,_,hx⟩
 ·exact ⟨none,0,0,fun _=>{ data:=#[] },hcs,Or.inl rfl,fun i hi=>absurd hi (Nat.not_lt_zero _),Nat.zero_le _⟩
 ·have hlm:len<=m:=by rw [hmm];split <;> omega
  have each:∀i,i<len->∃q:ByteArray,W.cell? (a.add i)=some (.string q)/\q.size<=maxLen:=by
   intro i hi
   obtain ⟨cs',h1,h2⟩:=hx i (by omega)
   rw [show Tryz.prog.cellsOf 9=1 by kernel_rfl] at h1
   obtain ⟨_,hlen,hcell⟩:=World.cells?_some h1
   match cs',hlen with
   | [v0],_=>
    obtain ⟨x0,e1,_,hs⟩:=DataW.trod_string Tryz.underlying9 h2
    simp at e1
    subst e1
    have c0:=hcell 0 (by omega)
    rw [Addr.add_add] at c0
    exact ⟨x0,by simpa using c0,hs⟩
  obtain ⟨q,hq⟩:=choose_lt each
  refine ⟨some a,len,cap,q,hcs,?_,fun i hi=>(hq i hi).2,by omega⟩
  by_cases h0:len=0
  ·exact Or.inl h0
  ·obtain ⟨b,off,spot⟩:=a
   have hs:=spotT_of (a:=⟨b,off,spot⟩) (by simpa using (hq 0 (by omega)).1)
   simp at hs
   subst hs
   refine Or.inr ⟨b,off,rfl,fun i hi=>?_⟩
   have k0:=(hq i hi).1
   rw [addT_eq] at k0
   exact k0

set_option maxRecDepth 100000 in
theorem tnodes_of {fuel:Nat} {cs:List Value} {x:DataW H × List MemPlace} (h:DataW.trod enc Tryz.prog W 0 (fun _=>true) true fuel 105 cs=some x) :
  ∃a n c N,cs=[.slice a n c]/\RdTn W a n N/\(∀i,i<n->TnBig (N i))/\n<=maxLen:=by
 rcases open_slice (P:=Tryz.prog) (t:=105) (e:=213) (by kernel_rfl) h with ⟨hcs,_⟩|⟨a,len,cap,m,fu,D,Pl,hcs,_,hl,hm,hmm,_,hx⟩
 ·exact ⟨none,0,0,fun _=>⟨false,0,fun _=>{ data:=#[] },0,fun _=>0,0⟩,hcs,Or.inl rfl,fun i hi=>absurd hi (Nat.not_lt_zero _),Nat.zero_le _⟩
 ·have hlm:len<=m:=by rw [hmm];split <;> omega
  have each:∀i,i<len->∃q:Tn × Option Addr × Nat × Option Addr × Nat,W.cell? (a.add (i*4))=some (.bool q.1.lf)/\W.cell? (a.add (i*4+1))=some (.slice q.2.1 q.1.kn q.2.2.1)/\W.cell? (a.add (i*4+2))=some (.slice q.2.2.2.1 q.1.dn q.2.2.2.2)/\W.cell? (a.add (i*4+3))=some (.int .i64 q.1.ct)/\
    RdS W q.2.1 q.1.kn q.1.ks/\Rd .i64 W q.2.2.2.1 q.1.dn q.1.kd/\TnBig q.1:=by
   intro i hi
   obtain ⟨cs',h1,h2⟩:=hx i (by omega)
   rw [show Tryz.prog.cellsOf 213=4 by kernel_rfl] at h1
   obtain ⟨_,hlen,hcell⟩:=World.cells?_some h1
   obtain ⟨xs,k,hk,hxy,_,hxl,hf⟩:=DataW.trod_struct (P:=Tryz.prog) Tryz.underlying213 h2
   have g0:=hf 0 _ rfl
   have g1:=hf 1 _ rfl
   have g2:=hf 2 _ rfl
   have g3:=hf 3 _ rfl
   rw [show Tryz.prog.cellsOf _=1 by kernel_rfl] at g0 g1 g2 g3
   match xs,hxl,cs',hlen with
   | [y0,y1,y2,y3],_,[v0,v1,v2,v3],_=>
    simp at g0 g1 g2 g3
    obtain ⟨b0,e0,_⟩:=DataW.trod_bool Tryz.underlying4 g0
    obtain ⟨ka,kn,kc,X,e1,hX,hXs,hkn⟩:=strs_of g1
    obtain ⟨da,dn,dc,f,e2,hf2,hdn,hwf⟩:=i64s_of g2
    obtain ⟨i3,e3,_,_⟩:=DataW.trod_int Tryz.underlying2 g3
    simp at e0 e1 e2 e3
    subst e0 e1 e2 e3
    have c0:=hcell 0 (by omega)
    have c1:=hcell 1 (by omega)
    have c2:=hcell 2 (by omega)
    have c3:=hcell 3 (by omega)
    rw [Addr.add_add] at c0 c1 c2 c3
    exact ⟨(⟨b0,kn,X,dn,f,i3⟩,ka,kc,da,dc),by simpa using c0,by simpa using c1,by simpa using c2,by simpa using c3,hX,hf2,hkn,hdn,hXs⟩
  haveI:Inhabited Tn:=⟨⟨false,0,fun _=>{ data:=#[] },0,fun _=>0,0⟩⟩
  obtain ⟨q,hq⟩:=choose_lt each
  refine ⟨some a,len,cap,fun i=>(q i).1,hcs,?_,fun i hi=>(hq i hi).2.2.2.2.2.2,by omega⟩
  by_cases h0:len=0
  ·exact Or.inl h0
  ·obtain ⟨b,off,spot⟩:=a
   have hs:=spotT_of (a:=⟨b,off,spot⟩) (by simpa using (hq 0 (by omega)).1)
   simp at hs
   subst hs
   refine Or.inr ⟨b,off,rfl,fun i hi=>?_⟩
   obtain ⟨k0,k1,k2,k3,k4,k5,_⟩:=hq i hi
   rw [addT_eq] at k0 k1 k2 k3
   exact ⟨_,_,_,_,k0,k1,k2,k3,k4,k5⟩

def IsTree (w:World) (v:Value):Prop:=
 ∃a n c N,v=.agg #[.slice a n c]/\RdTn w a n N/\(∀i,i<n->TnBig (N i))/\n<=maxLen

end
end Go.Proofs.YtpaomghibppgkaaGreat
namespace Go.Proofs.YtpaomghibppgkaaGreat
open Go.RowKit Go.Deep

theorem markText_i (x:Int) (w:World) (hk:1<=x) (hk2:x<=1073741824) :
  Calls Tryz.prog 82 #[.int .i64 x] w fun e w'=>∃y,e=.returned (.string y)/\Below w.heap.size w w':=by
 obtain ⟨k,rfl⟩:∃k:Nat,x=k:=⟨x.toNat,by omega⟩
 exact (markText_any k w (by omega) (by omega)).mono (fun e w' h=>⟨_,h⟩)

theorem grownN_trans {w w1 w2:World} {row:Option Nat} (h:w.grownBy w1 row) (k:w1.grownBy w2 row):w.grownBy w2 row:=
 ⟨k.os.trans h.os,k.tape.trans h.tape,k.output.trans h.output,Nat.le_trans h.size k.size,fun b hb hne=>(k.block b (Nat.lt_of_lt_of_le hb h.size) hne).trans (h.block b hb hne)⟩
theorem grownN_below {w w1:World} (h:Below w.heap.size w w1) (row:Option Nat):w.grownBy w1 row:=⟨h.os,h.tape,h.output,h.size,fun b hb _=>h.block b hb⟩
theorem grownN_set {w:World} {g i:Nat} {v:Value}:w.grownBy (w.setCell ⟨g,i,none⟩ v) (some g):=
 ⟨rfl,rfl,rfl,by simp,fun b hb hne=>Below.heap_setCell _ _ _ _ (fun e=>hne (by rw [e]))⟩

def NRow (w:World) (g n:Nat):Prop:=∃I X R,rowIn w g 83 (n*3) (pnCell I X R)
theorem NRow.cells {w:World} {g n j:Nat} (h:NRow w g n) (hj:j<n):∃(i:Int) (x r:ByteArray),w.cell? ⟨g,j*3,none⟩=some (.int .i64 i)/\w.cell? ⟨g,j*3+1,none⟩=some (.string x)/\w.cell? ⟨g,j*3+2,none⟩=some (.string r)/\(∀o,w.frozen? ⟨g,o,none⟩=false)/\g<w.heap.size:=by
 obtain ⟨I,X,R,h⟩:=h
 refine ⟨I j,X j,R j,?_,?_,?_,h.frozen,h.lt⟩
 ·have:=h.cell (i:=j*3) (by omega);rwa [pnCell_0] at this
 ·have:=h.cell (i:=j*3+1) (by omega);rwa [pnCell_1] at this
 ·have:=h.cell (i:=j*3+2) (by omega);rwa [pnCell_2] at this
theorem NRow.below {w w' : World} {g n:Nat} (h:NRow w g n) (hb:Below w.heap.size w w'):NRow w' g n:=by
 obtain ⟨I,X,R,h⟩:=h
 exact ⟨I,X,R,h.of_block (hb.block g h.lt)⟩
theorem NRow.set0 {w:World} {g n j:Nat} (h:NRow w g n) (v:Int):NRow (w.setCell ⟨g,j*3,none⟩ (.int .i64 v)) g n:=by
 obtain ⟨I,X,R,h⟩:=h
 refine ⟨fun i=>if i=j then v else I i,X,R,(h.set (j*3) _).congr (fun c hc=>?_)⟩
 obtain ⟨q,hq⟩:∃q,c=q*3\/c=q*3+1\/c=q*3+2:=⟨c / 3,by omega⟩
 rcases hq with rfl|rfl|rfl
 ·rw [pnCell_0,pnCell_0]
  by_cases e:q=j
  ·subst e;rw [if_pos rfl,if_pos rfl]
  ·rw [if_neg (by omega),if_neg e]
 ·rw [if_neg (by omega),pnCell_1,pnCell_1]
 ·rw [if_neg (by omega),pnCell_2,pnCell_2]
theorem NRow.set1 {w:World} {g n j:Nat} (h:NRow w g n) (v:ByteArray):NRow (w.setCell ⟨g,j*3+1,none⟩ (.string v)) g n:=by
 obtain ⟨I,X,R,h⟩:=h
 refine ⟨I,fun i=>if i=j then v else X i,R,(h.set (j*3+1) _).congr (fun c hc=>?_)⟩
 obtain ⟨q,hq⟩:∃q,c=q*3\/c=q*3+1\/c=q*3+2:=⟨c / 3,by omega⟩
 rcases hq with rfl|rfl|rfl
 ·rw [if_neg (by omega),pnCell_0,pnCell_0]
 ·rw [pnCell_1,pnCell_1]
  by_cases e:q=j
  ·subst e;rw [if_pos rfl,if_pos rfl]
  ·rw [if_neg (by omega),if_neg e]
 ·rw [if_neg (by omega),pnCell_2,pnCell_2]
theorem NRow.set2 {w:World} {g n j:Nat} (h:NRow w g n) (v:ByteArray):NRow (w.setCell ⟨g,j*3+2,none⟩ (.string v)) g n:=by
 obtain ⟨I,X,R,h⟩:=h
 refine ⟨I,X,fun i=>if i=j then v else R i,(h.set (j*3+2) _).congr (fun c hc=>?_)⟩
 obtain ⟨q,hq⟩:∃q,c=q*3\/c=q*3+1\/c=q*3+2:=⟨c / 3,by omega⟩
 rcases hq with rfl|rfl|rfl
 ·rw [if_neg (by omega),pnCell_0,pnCell_0]
 ·rw [if_neg (by omega),pnCell_1,pnCell_1]
 ·rw [pnCell_2,pnCell_2]
  by_cases e:q=j
  ·subst e;rw [if_pos rfl,if_pos rfl]
  ·rw [if_neg (by omega),if_neg e]


set_option maxHeartbeats 1000000 in
theorem eqTerm_yes (i r:Int) (x:ByteArray) (w:World) :
  Calls Tryz.prog 80 #[.agg #[.int .i64 i,.string x,.int .i64 r],.agg #[.int .i64 i,.string x,.int .i64 r]] w fun e w'=>e=.returned (.bool true)/\Below w.heap.size w w':=by
 have h1:(i != i)=false:=by simp
 have h2:(r != r)=false:=by simp
 have h3:(x.toList == x.toList)=true:=by simp
 go_enter Tryz.func80,Tryz.ntmps80
 go_wp2
 go_ret
 exact ⟨rfl,(below_alloc _ _).trans ((below_alloc _ _).mono (by simp))⟩

set_option maxHeartbeats 2000000 in
theorem eqTermS_yes (a b:Option Addr) (n ca cb:Nat) (I:Nat->Int) (X:Nat->ByteArray) (R:Nat->Int) (w:World) (ha:RdT w a n I X R) (hb:RdT w b n I X R) (hn:n<=1048576) :
  Calls Tryz.prog 38 #[.slice a n ca,.slice b n cb] w fun e w'=>e=.returned (.bool true)/\Below w.heap.size w w':=by
 have hll:((n:Int) != (n:Int))=false:=by simp
 go_enter Tryz.func38,Tryz.ntmps38
 go_wp2
 go_loopw [5] (fun i wr=>∃k:Nat,k<=n/\i=.int .i64 k/\Below w.heap.size w wr) (fun i _=>n-(intOf i).toNat)
 case atStart=>exact ⟨0,Nat.zero_le _,rfl,Below.refl _ _⟩
 case round=>
  obtain ⟨k,hk,rfl,hbel⟩:=hrel
  by_cases hlt:k<n
  ·have hne:¬ n=0:=by omega
   have ha':=ha.below hbel
   have hb':=hb.below hbel
   rcases ha' with h|⟨ba,oa,rfl,hca⟩
   ·exact absurd h hne
   rcases hb' with h|⟨bb,ob,rfl,hcb⟩
   ·exact absurd h hne
   obtain ⟨h1,h2,h3⟩:=hca k hlt
   obtain ⟨g1,g2,g3⟩:=hcb k hlt
   clear hca hcb ha hb
   have hsz:=hbel.size
   have HB:Hid (Below w.heap.size w wr):=hbel
   clear hbel
   go_wp2
   go_region_with (go_at_call 80;refine (eqTerm_yes (I k) (R k) (X k) _).mono ?_;rintro e w2 ⟨rfl,hb2⟩)
   all_goals
    have HX:Hid (Below w.heap.size w w2):=(HB.out.drew).trans (hb2.mono (by simpa using hsz))
    clear hb2 h1 h2 h3 g1 g2 g3
    go_wp2
    go_roundw
    case rel=>exact ⟨k+1,by omega,by go_num,HX.out⟩
    case measure=>simp [intOf];omega
  ·have e:k=n:=by omega
   subst e
   go_wp2
   go_ret
   exact ⟨rfl,hbel⟩

set_option maxHeartbeats 1000000 in
theorem eqDict_yes (next:Int) (a b:Option Addr) (n ca cb:Nat) (I:Nat->Int) (X:Nat->ByteArray) (R:Nat->Int) (w:World) (ha:RdT w a n I X R) (hb:RdT w b n I X R) (hn:n<=1048576) :
  Calls Tryz.prog 14 #[.agg #[.int .i64 next,.slice a n ca],.agg #[.int .i64 next,.slice b n cb]] w fun e w'=>e=.returned (.bool true)/\Below w.heap.size w w':=by
 have h1:(next != next)=false:=by simp
 have hbel:∀o1 o2,Below w.heap.size w ((w.alloc o1).alloc o2):=fun o1 o2=>((Below.refl _ _).alloc (Nat.le_refl _) o1).alloc (by simp) o2
 have HH:Hid (∀o1 o2,Below w.heap.size w ((w.alloc o1).alloc o2)):=hbel
 clear hbel
 go_enter Tryz.func14,Tryz.ntmps14
 go_wp2_with fail
 refine (eqTermS_yes a b n ca cb I X R _ (ha.below (HH.out _ _)) (hb.below (HH.out _ _)) hn).mono ?_
 rintro e w1 ⟨rfl,hb1⟩
 have HX:Hid (Below w.heap.size w w1):=(HH.out _ _).trans (hb1.mono (by simp;omega))
 clear hb1
 go_wp2
 go_ret
 exact ⟨rfl,HX.out⟩
end Go.Proofs.YtpaomghibppgkaaGreat
