import Derived.Test.YtpaomghibppgkaaGreatNv6
import Derived.Test.YtpaomghibppgkaaGreatNv1
import Derived.Test.YtpaomghibppgkaaGreatNv4
import Derived.Deep.QuietTactic
import Derived.BigQuiet
import Derived.Deep.RegionWith
set_option linter.unusedVariables false
set_option maxRecDepth 100000
namespace Go.Proofs.YtpaomghibppgkaaGreat
open Go.RowKit Go.Deep

def kb (k:ByteArray) (i:Nat):Int:=match k[i]? with
 | some b=>(b.toNat:Int)
 | none=>0
theorem kb_get {k:ByteArray} {i:Nat} (h:i<k.size):∃b:UInt8,k[i]?=some b/\kb k i=(b.toNat:Int):=by
 have e:k[i]?=some k[i]:=getElem?_pos k i h
 exact ⟨k[i],e,by unfold kb;rw [e]⟩
theorem kb_range (k:ByteArray) (i:Nat):0<=kb k i/\kb k i<256:=by
 unfold kb
 split
 ·rename_i b _
  have:=b.toNat_lt
  omega
 ·omega
def pkn (k:ByteArray) (i:Nat):Nat->Int
 | 0=>0
 | n+1=>256*pkn k i n+kb k (4*i+n)
def pk (k:ByteArray) (i:Nat):Int:=pkn k i 4
theorem pkn_range (k:ByteArray) (i:Nat):∀n,n<=4->0<=pkn k i n/\pkn k i n<4294967296:=by
 intro n hn
 have h0:pkn k i 0=0:=rfl
 have h1:pkn k i 1=256*pkn k i 0+kb k (4*i+0):=rfl
 have h2:pkn k i 2=256*pkn k i 1+kb k (4*i+1):=rfl
 have h3:pkn k i 3=256*pkn k i 2+kb k (4*i+2):=rfl
 have h4:pkn k i 4=256*pkn k i 3+kb k (4*i+3):=rfl
 have b0:=kb_range k (4*i+0)
 have b1:=kb_range k (4*i+1)
 have b2:=kb_range k (4*i+2)
 have b3:=kb_range k (4*i+3)
 rcases (show n=0\/n=1\/n=2\/n=3\/n=4 by omega) with rfl|rfl|rfl|rfl|rfl <;> omega

structure Qd where
 s:Int
 p:Int
 o:Int
 g:Int
def qv (q:Qd):Value:=.agg #[.int .i64 q.s,.int .i64 q.p,.int .i64 q.o,.int .i64 q.g]
def ordF (perm i:Nat):Nat:=
 match perm,i with
 | 0,i=>i
 | 1,0=>1|1,1=>2|1,2=>0|1,_=>3
 | 2,0=>2|2,1=>0|2,2=>1|2,_=>3
 | 3,0=>3|3,1=>0|3,2=>1|3,_=>2
 | 4,0=>3|4,1=>1|4,2=>2|4,_=>0
 | _,0=>3|_,1=>2|_,2=>0|_,_=>1
def posF (perm s:Nat):Nat:=
 match perm,s with
 | 0,s=>s
 | 1,0=>2|1,1=>0|1,2=>1|1,_=>3
 | 2,0=>1|2,1=>2|2,2=>0|2,_=>3
 | 3,0=>1|3,1=>2|3,2=>3|3,_=>0
 | 4,0=>3|4,1=>1|4,2=>2|4,_=>0
 | _,0=>2|_,1=>3|_,2=>1|_,_=>0
def quadOf (perm:Nat) (k:ByteArray):Qd:=⟨pk k (posF perm 0),pk k (posF perm 1),pk k (posF perm 2),pk k (posF perm 3)⟩
def ptF (perm:Nat) (k:ByteArray) (i s:Nat):Int:=if posF perm s<i then pk k (posF perm s) else 0
theorem ptF_succ (perm:Nat) (hp:perm<6) (k:ByteArray) (i:Nat) (hi:i<4):∀s,s<4->ptF perm k (i+1) s=if s=ordF perm i then pk k i else ptF perm k i s:=by
 intro s hs
 rcases (show perm=0\/perm=1\/perm=2\/perm=3\/perm=4\/perm=5 by omega) with rfl|rfl|rfl|rfl|rfl|rfl <;>
 rcases (show i=0\/i=1\/i=2\/i=3 by omega) with rfl|rfl|rfl|rfl <;>
 rcases (show s=0\/s=1\/s=2\/s=3 by omega) with rfl|rfl|rfl|rfl <;> rfl
theorem ptF_all (perm:Nat) (hp:perm<6) (k:ByteArray) (s:Nat) (hs:s<4):ptF perm k 4 s=pk k (posF perm s):=by
 have:posF perm s<4:=by
  rcases (show perm=0\/perm=1\/perm=2\/perm=3\/perm=4\/perm=5 by omega) with rfl|rfl|rfl|rfl|rfl|rfl <;>
  rcases (show s=0\/s=1\/s=2\/s=3 by omega) with rfl|rfl|rfl|rfl <;> decide
 unfold ptF
 rw [if_pos this]
theorem ordF_lt (perm:Nat) (hp:perm<6) (i:Nat) (hi:i<4):ordF perm i<4:=by
 rcases (show perm=0\/perm=1\/perm=2\/perm=3\/perm=4\/perm=5 by omega) with rfl|rfl|rfl|rfl|rfl|rfl <;>
 rcases (show i=0\/i=1\/i=2\/i=3 by omega) with rfl|rfl|rfl|rfl <;> decide

def numB (x:Int):Bool:=decide (1<=x) && decide (x<=2000000000)
def quadB (q:Qd):Bool:=numB q.s && numB q.p && numB q.o && numB q.g

set_option maxHeartbeats 1000000 in
theorem l5Order_any (perm:Nat) (hp:perm<6) (w:World):Calls Tryz.prog 91 #[.int .i64 (perm:Int)] w fun e w'=>e=.returned (.slice (some ⟨w.heap.size,0,none⟩) 4 4)/\w'=w.alloc (.cells #[.int .i64 (ordF perm 0:Int),.int .i64 (ordF perm 1:Int),.int .i64 (ordF perm 2:Int),.int .i64 (ordF perm 3:Int)] 3):=by
 rcases (show perm=0\/perm=1\/perm=2\/perm=3\/perm=4\/perm=5 by omega) with rfl|rfl|rfl|rfl|rfl|rfl
 all_goals
  go_enter Tryz.func91,Tryz.ntmps91
  go_wp2
  go_ret
  exact ⟨rfl,rfl⟩

set_option maxHeartbeats 1000000 in
theorem l2Number_any (x:Int) (w:World):Calls Tryz.prog 49 #[.int .i64 x] w fun e w'=>e=.returned (.bool (numB x))/\w'=w:=by
 by_cases h1:1<=x
 ·have h1d:decide (1<=x)=true:=decide_eq_true h1
  by_cases h2:x<=2000000000
  ·have h2d:decide (x<=2000000000)=true:=decide_eq_true h2
   have hd:numB x=true:=by unfold numB;rw [h1d,h2d];rfl
   rw [hd]
   clear hd
   go_enter Tryz.func49,Tryz.ntmps49
   go_wp2
   go_ret
   exact ⟨rfl,rfl⟩
  ·have h2d:decide (x<=2000000000)=false:=decide_eq_false h2
   have hd:numB x=false:=by unfold numB;rw [h1d,h2d];rfl
   rw [hd]
   clear hd
   go_enter Tryz.func49,Tryz.ntmps49
   go_wp2
   go_ret
   exact ⟨rfl,rfl⟩
 ·have h1d:decide (1<=x)=false:=decide_eq_false h1
  have hd:numB x=false:=by unfold numB;rw [h1d];rfl
  rw [hd]
  clear hd
  go_enter Tryz.func49,Tryz.ntmps49
  go_wp2
  go_ret
  exact ⟨rfl,rfl⟩

set_option maxHeartbeats 1000000 in
theorem eqStringS_yes (a b:Option Addr) (len ca cb:Nat) (f:Nat->ByteArray) (w:World) (ha:RdS w a len f) (hb:RdS w b len f) (hm:len<=1048576) :
  Calls Tryz.prog 142 #[.slice a len ca,.slice b len cb] w fun e w'=>e=.returned (.bool true)/\∃n,w'=w.drewN n:=by
 have hll:((len:Int) != (len:Int))=false:=by simp
 go_enter Tryz.func142,Tryz.ntmps142
 go_wp2
 go_loopw [5] (fun i wr=>∃k n:Nat,k<=len/\i=.int .i64 k/\wr=w.drewN n) (fun i _=>len-(intOf i).toNat)
 case atStart=>exact ⟨0,0,Nat.zero_le _,rfl,rfl⟩
 case round=>
  obtain ⟨k,n,hk,rfl,rfl⟩:=hrel
  by_cases hlt:k<len
  ·have hne:¬ len=0:=by omega
   rcases ha with h|⟨ba,oa,rfl,hca⟩
   ·exact absurd h hne
   rcases hb with h|⟨bb,ob,rfl,hcb⟩
   ·exact absurd h hne
   have h1:=hca k hlt
   have h2:=hcb k hlt
   clear hca hcb
   go_wp2
   go_quiet (fail)
   go_wp2
   go_roundw
   case rel=>exact ⟨k+1,_,by omega,by go_num,rfl⟩
   case measure=>simp [intOf];omega
  ·have e:k=len:=by omega
   subst e
   go_wp2
   go_ret
   exact ⟨rfl,n,rfl⟩

set_option maxHeartbeats 1000000 in
theorem eqInt64S_yes (a b:Option Addr) (len ca cb:Nat) (f:Nat->Int) (w:World) (ha:Rd .i64 w a len f) (hb:Rd .i64 w b len f) (hm:len<=1048576) :
  Calls Tryz.prog 12 #[.slice a len ca,.slice b len cb] w fun e w'=>e=.returned (.bool true)/\∃n,w'=w.drewN n:=by
 have hll:((len:Int) != (len:Int))=false:=by simp
 go_enter Tryz.func12,Tryz.ntmps12
 go_wp2
 go_loopw [5] (fun i wr=>∃k n:Nat,k<=len/\i=.int .i64 k/\wr=w.drewN n) (fun i _=>len-(intOf i).toNat)
 case atStart=>exact ⟨0,0,Nat.zero_le _,rfl,rfl⟩
 case round=>
  obtain ⟨k,n,hk,rfl,rfl⟩:=hrel
  by_cases hlt:k<len
  ·have hne:¬ len=0:=by omega
   rcases ha with h|⟨ba,oa,rfl,hca⟩
   ·exact absurd h hne
   rcases hb with h|⟨bb,ob,rfl,hcb⟩
   ·exact absurd h hne
   have h1:=hca k hlt
   have h2:=hcb k hlt
   have hff:(f k != f k)=false:=by simp
   clear hca hcb
   go_wp2
   go_quiet (fail)
   go_wp2
   go_roundw
   case rel=>exact ⟨k+1,_,by omega,by go_num,rfl⟩
   case measure=>simp [intOf];omega
  ·have e:k=len:=by omega
   subst e
   go_wp2
   go_ret
   exact ⟨rfl,n,rfl⟩

set_option maxHeartbeats 2000000 in
theorem eqTNode_yes (x:Tn) (ka da kb db:Option Addr) (kc dc kc' dc' : Nat) (w:World) (h1:RdS w ka x.kn x.ks) (h2:Rd .i64 w da x.dn x.kd) (h3:RdS w kb x.kn x.ks) (h4:Rd .i64 w db x.dn x.kd) (hf:TnFit x) :
  Calls Tryz.prog 132 #[.agg #[.bool x.lf,.slice ka x.kn kc,.slice da x.dn dc,.int .i64 x.ct],.agg #[.bool x.lf,.slice kb x.kn kc',.slice db x.dn dc',.int .i64 x.ct]] w fun e w'=>e=.returned (.bool true)/\Below w.heap.size w w':=by
 have hss:(x.ct != x.ct)=false:=by simp
 have hbb:(x.lf != x.lf)=false:=by simp
 have HR:Hid (RdS w ka x.kn x.ks/\Rd .i64 w da x.dn x.kd/\RdS w kb x.kn x.ks/\Rd .i64 w db x.dn x.kd):=⟨h1,h2,h3,h4⟩
 obtain ⟨hf1,hf2⟩:=hf
 clear h1 h2 h3 h4
 go_enter Tryz.func132,Tryz.ntmps132
 go_wp2_with fail
 have hbel:∀o1 o2,Below w.heap.size w ((w.alloc o1).alloc o2):=fun o1 o2=>((Below.refl _ _).alloc (Nat.le_refl _) o1).alloc (by simp) o2
 refine (eqStringS_yes ka kb x.kn kc kc' x.ks _ (HR.out.1.below (hbel _ _)) (HR.out.2.2.1.below (hbel _ _)) hf1).mono ?_
 rintro e w1 ⟨rfl,n1,rfl⟩
 go_wp2_with fail
 refine (eqInt64S_yes da db x.dn dc dc' x.kd _ (HR.out.2.1.below (below_drewN (hbel _ _) n1)) (HR.out.2.2.2.below (below_drewN (hbel _ _) n1)) hf2).mono ?_
 rintro e w2 ⟨rfl,n2,rfl⟩
 go_wp2
 go_ret
 exact ⟨rfl,below_drewN (hbel _ _) (n1+n2)⟩

set_option maxHeartbeats 2000000 in
theorem eqTNodeS_yes (a b:Option Addr) (m ca cb:Nat) (N:Nat->Tn) (w:World) (ha:RdTn w a m N) (hb:RdTn w b m N) (hm:m<=1048576) (hN:∀i,i<m->TnFit (N i)) :
  Calls Tryz.prog 111 #[.slice a m ca,.slice b m cb] w fun e w'=>e=.returned (.bool true)/\Below w.heap.size w w':=by
 have hll:((m:Int) != (m:Int))=false:=by simp
 go_enter Tryz.func111,Tryz.ntmps111
 go_wp2
 go_loopw [5] (fun i wr=>∃k:Nat,k<=m/\i=.int .i64 k/\Below w.heap.size w wr) (fun i _=>m-(intOf i).toNat)
 case atStart=>exact ⟨0,Nat.zero_le _,rfl,Below.refl _ _⟩
 case round=>
  obtain ⟨k,hk,rfl,hbel⟩:=hrel
  by_cases hlt:k<m
  ·have hne:¬ m=0:=by omega
   have ha':=ha.below hbel
   have hb':=hb.below hbel
   rcases ha' with h|⟨ba,oa,rfl,hca⟩
   ·exact absurd h hne
   rcases hb' with h|⟨bb,ob,rfl,hcb⟩
   ·exact absurd h hne
   obtain ⟨ka,kc,da,dc,c0,c1,c2,c3,c4,c5⟩:=hca k hlt
   obtain ⟨kb,kc',db,dc',g0,g1,g2,g3,g4,g5⟩:=hcb k hlt
   have HL:=hN k hlt
   clear hca hcb ha hb hN
   have hsz:=hbel.size
   have HB:Hid (Below w.heap.size w wr):=hbel
   clear hbel
   go_wp2
   go_region_with (go_at_call 132;refine (eqTNode_yes (N k) ka da kb db kc dc kc' dc' _ (by exact c4) (by exact c5) (by exact g4) (by exact g5) HL).mono ?_;rintro e w2 ⟨rfl,hb2⟩)
   all_goals
    have HX:Hid (Below w.heap.size w w2):=(HB.out.drew).trans (hb2.mono (by simpa using hsz))
    clear hb2 c0 c1 c2 c3 c4 c5 g0 g1 g2 g3 g4 g5
    go_wp2
    go_roundw
    case rel=>exact ⟨k+1,by omega,by go_num,HX.out⟩
    case measure=>simp [intOf];omega
  ·have e:k=m:=by omega
   subst e
   go_wp2
   go_ret
   exact ⟨rfl,hbel⟩

set_option maxHeartbeats 400000 in
theorem eqTree_yes (a b:Option Addr) (m ca cb:Nat) (N:Nat->Tn) (w:World) (ha:RdTn w a m N) (hb:RdTn w b m N) (hm:m<=1048576) (hN:∀i,i<m->TnFit (N i)) :
  Calls Tryz.prog 81 #[.agg #[.slice a m ca],.agg #[.slice b m cb]] w fun e w'=>e=.returned (.bool true)/\Below w.heap.size w w':=by
 have HR:Hid (RdTn w a m N/\RdTn w b m N/\∀i,i<m->TnFit (N i)):=⟨ha,hb,hN⟩
 clear ha hb hN
 go_enter Tryz.func81,Tryz.ntmps81
 go_wp2_with fail
 have hbel:∀o1 o2,Below w.heap.size w ((w.alloc o1).alloc o2):=fun o1 o2=>((Below.refl _ _).alloc (Nat.le_refl _) o1).alloc (by simp) o2
 refine (eqTNodeS_yes a b m ca cb N _ (HR.out.1.below (hbel _ _)) (HR.out.2.1.below (hbel _ _)) hm HR.out.2.2).mono ?_
 rintro e w1 ⟨rfl,hb1⟩
 have H1:Hid (Below w.heap.size w w1):=(hbel _ _).trans (hb1.mono (by simp;omega))
 clear hb1
 go_wp2
 go_ret
 exact ⟨rfl,H1.out⟩

def depI:(d:Nat)->Bool->Ro d->Int
 | 0,_,t=>t.elim
 | d+1,root,.inl t=>if 4<t.length then -1 else if t.length<2/\root=false then -1 else 0
 | d
  + 1,root,.inr l=>if 4<l.length then -1 else if l.length<2 then -1 else
  (match l with
  | []=>-1
  | t0::_=>if (∀t,t∈l->depI d false t=depI d false t0) then (if depI d false t0<0 then -1 else depI d false t0+1) else -1)

theorem depI_inl (d:Nat) (root:Bool) (t:List ByteArray):depI (d+1) root (.inl t)=if 4<t.length then -1 else if t.length<2/\root=false then -1 else 0:=rfl
theorem depI_inr (d:Nat) (root:Bool) (l:List (Ro d)):depI (d+1) root (.inr l)=if 4<l.length then -1 else if l.length<2 then -1 else
   (match l with
   | []=>-1
   | t0::_=>if (∀t,t∈l->depI d false t=depI d false t0) then (if depI d false t0<0 then -1 else depI d false t0+1) else -1):=rfl

theorem depI_bal:∀{d:Nat} {root:Bool} {t:Ro d},0<=depI d root t->∃h:Nat,depI d root t=(h:Int)/\BalR d root t h
 | 0,root,t,_=>t.elim
 | d+1,root,.inl t,h=>by
  rw [depI_inl] at h ⊢
  split at h
  ·omega
  ·rename_i h4
   split at h
   ·omega
   ·rename_i h2
    refine ⟨0,by rw [if_neg h4,if_neg h2];rfl,rfl,by omega,?_⟩
    cases root
    ·right
     simp at h2
     omega
    ·exact Or.inl rfl
 | d+1,root,.inr l,h=>by
  rw [depI_inr] at h ⊢
  split at h
  ·omega
  ·rename_i h4
   split at h
   ·omega
   ·rename_i h2
    rw [if_neg h4,if_neg h2]
    cases l with
    | nil=>simp at h2
    | cons t0 ts=>
     simp only at h ⊢
     split at h
     ·rename_i hall
      split at h
      ·omega
      ·rename_i h0
       obtain ⟨h',e,hb⟩:=depI_bal (d:=d) (root:=false) (t:=t0) (by omega)
       refine ⟨h'+1,by rw [if_pos hall,if_neg h0,e];rfl,by omega,by omega,h',rfl,fun t ht=>?_⟩
       obtain ⟨h2,e2,hb2⟩:=depI_bal (d:=d) (root:=false) (t:=t) (by rw [hall t ht];omega)
       rw [hall t ht,e] at e2
       have:h'=h2:=by omega
       subst this
       exact hb2
     ·omega

theorem bal_depI:∀{d:Nat} {root:Bool} {t:Ro d} {h:Nat},BalR d root t h->depI d root t=(h:Int)
 | 0,root,t,_,_=>t.elim
 | d+1,root,.inl t,h,hb=>by
  obtain ⟨rfl,h4,h2⟩:=hb
  rw [depI_inl]
  rw [if_neg (by omega),if_neg (by rcases h2 with rfl|h2 <;> simp;omega)]
  rfl
 | d+1,root,.inr l,h,hb=>by
  obtain ⟨h2,h4,h',rfl,hall⟩:=hb
  rw [depI_inr]
  rw [if_neg (by omega),if_neg (by omega)]
  cases l with
  | nil=>simp at h2
  | cons t0 ts=>
   have h0:=bal_depI (hall t0 (by simp))
   simp only
   rw [if_pos (fun t ht=>by rw [bal_depI (hall t ht),h0]),if_neg (by omega),h0]
   rfl

theorem depI_ge:∀(d:Nat) (root:Bool) (t:Ro d),-1<=depI d root t/\depI d root t<=(d:Int)
 | 0,root,t=>t.elim
 | d+1,root,.inl t=>by
  rw [depI_inl]
  split
  ·omega
  ·split <;> omega
 | d+1,root,.inr l=>by
  rw [depI_inr]
  cases l with
  | nil=>simp;omega
  | cons t0 ts=>
   have:=depI_ge d false t0
   simp only
   split
   ·omega
   ·split
    ·omega
    ·split
     ·split <;> omega
     ·omega

set_option maxHeartbeats 2000000 in
theorem depth_any:∀(d:Nat) (t:Ro d) (v:Value) (root:Bool) (w:World),NA w d t v->nodesR d t<=5000->d<=21->Calls Tryz.prog 88 #[v,.bool root] w fun e w'=>e=.returned (.int .i64 (depI d root t))/\Below w.heap.size w w':=by
 intro d
 induction d with
 | zero=>intro t;exact t.elim
 | succ d ih=>
  intro t v root w hv hnod hd21
  rcases t with t|l
  ·obtain ⟨ka,kc,ca,cc,rfl,hk⟩:=hv
   clear hnod ih hk
   obtain ⟨I,hI⟩:∃I,I=depI (d+1) root (.inl t):=⟨_,rfl⟩
   rw [<- hI]
   rw [depI_inl] at hI
   obtain ⟨m,hm⟩:∃m,m=t.length:=⟨_,rfl⟩
   rw [<- hm] at hI ⊢
   have HI:Hid (I=if 4<m then -1 else if m<2/\root=false then -1 else 0):=hI
   clear hm hI
   have HS:Hid (∀W:World,Calls Tryz.prog 114 #[.agg #[.bool true,.slice ka m kc,.slice ca 0 cc]] W fun e w'=>e=.returned (.int .i64 (m:Int))/\Below W.heap.size W w'):=fun W=>(size_any true ka ca m kc 0 cc W).mono (fun e w' h=>⟨by simpa using h.1,h.2⟩)
   have hbx:Hid (∀O (w1:World),Below (w.alloc O).heap.size (w.alloc O) w1->Below w.heap.size w w1):=fun O w1 h=>(below_alloc _ _).trans (h.mono (by simp))
   by_cases h4:4<m
   ·have i4:(4:Int)<(m:Int):=by omega
    have i4' : decide ((4:Int)<(m:Int))=true:=decide_eq_true i4
    go_enter Tryz.func88,Tryz.ntmps88
    go_wp2_with fail
    refine (HS.out _).mono ?_
    rintro e w1 ⟨rfl,hb1⟩
    have HB:Hid (Below w.heap.size w w1):=hbx.out _ _ hb1
    clear hb1
    go_wp2
    go_ret
    exact ⟨by rw [HI.out,if_pos h4];rfl,HB.out⟩
   ·have i4:¬ (4:Int)<(m:Int):=by omega
    have i4' : decide ((4:Int)<(m:Int))=false:=decide_eq_false i4
    by_cases h2:m<2
    ·have i2:(m:Int)<2:=by omega
     have i2' : decide ((m:Int)<2)=true:=decide_eq_true i2
     cases root with
     | true=>
      go_enter Tryz.func88,Tryz.ntmps88
      go_wp2_with fail
      refine (HS.out _).mono ?_
      rintro e w1 ⟨rfl,hb1⟩
      have HX:Hid (Bx w1 w.heap.size 116 #[.bool true,.slice ka m kc,.slice ca 0 cc]):=(Bx.new _ _ _).below hb1
      have HB:Hid (Below w.heap.size w w1):=hbx.out _ _ hb1
      have z0:=HX.out.cell 0
      have z1:=HX.out.cell 1
      have z2:=HX.out.cell 2
      simp at z0 z1 z2
      clear hb1
      go_wp2_with fail
      refine (HS.out _).mono ?_
      rintro e w2 ⟨rfl,hb2⟩
      have HX2:Hid (Bx w2 w.heap.size 116 #[.bool true,.slice ka m kc,.slice ca 0 cc]):=HX.out.below hb2
      have HB2:Hid (Below w.heap.size w w2):=HB.out.trans (hb2.mono HB.out.size)
      clear hb2 z0 z1 z2
      have z0:=HX2.out.cell 0
      simp at z0
      go_wp2
      go_ret
      exact ⟨by rw [HI.out,if_neg h4,if_neg (by simp)];rfl,HB2.out⟩
     | false=>
      go_enter Tryz.func88,Tryz.ntmps88
      go_wp2_with fail
      refine (HS.out _).mono ?_
      rintro e w1 ⟨rfl,hb1⟩
      have HX:Hid (Bx w1 w.heap.size 116 #[.bool true,.slice ka m kc,.slice ca 0 cc]):=(Bx.new _ _ _).below hb1
      have HB:Hid (Below w.heap.size w w1):=hbx.out _ _ hb1
      have z0:=HX.out.cell 0
      have z1:=HX.out.cell 1
      have z2:=HX.out.cell 2
      simp at z0 z1 z2
      clear hb1
      go_wp2_with fail
      refine (HS.out _).mono ?_
      rintro e w2 ⟨rfl,hb2⟩
      have HB2:Hid (Below w.heap.size w w2):=HB.out.trans (hb2.mono HB.out.size)
      clear hb2 z0 z1 z2
      go_wp2
      go_ret
      exact ⟨by rw [HI.out,if_neg h4,if_pos ⟨h2,trivial⟩];rfl,HB2.out⟩
    ·have i2:¬ (m:Int)<2:=by omega
     have i2' : decide ((m:Int)<2)=false:=decide_eq_false i2
     go_enter Tryz.func88,Tryz.ntmps88
     go_wp2_with fail
     refine (HS.out _).mono ?_
     rintro e w1 ⟨rfl,hb1⟩
     have HX:Hid (Bx w1 w.heap.size 116 #[.bool true,.slice ka m kc,.slice ca 0 cc]):=(Bx.new _ _ _).below hb1
     have HB:Hid (Below w.heap.size w w1):=hbx.out _ _ hb1
     have z0:=HX.out.cell 0
     have z1:=HX.out.cell 1
     have z2:=HX.out.cell 2
     simp at z0 z1 z2
     clear hb1
     go_wp2_with fail
     refine (HS.out _).mono ?_
     rintro e w2 ⟨rfl,hb2⟩
     have HX2:Hid (Bx w2 w.heap.size 116 #[.bool true,.slice ka m kc,.slice ca 0 cc]):=HX.out.below hb2
     have HB2:Hid (Below w.heap.size w w2):=HB.out.trans (hb2.mono HB.out.size)
     clear hb2 z0 z1 z2
     have z0:=HX2.out.cell 0
     simp at z0
     go_wp2
     go_ret
     exact ⟨by rw [HI.out,if_neg h4,if_neg (by intro h;omega)];rfl,HB2.out⟩
  ·obtain ⟨ka,kc,b,cc,xs,rfl,_,hb,hl0,hx,hk⟩:=hv
   have hl63:l.length<=5000:=by have:=kids_le d l;omega
   have HKid:Hid (∀W:World,Below w.heap.size w W->∀k (h:k<l.length),∃lf ka kn kc ca cn cc,W.cell? ⟨b,k*3,none⟩=some (.bool lf)/\W.cell? ⟨b,k*3+1,none⟩=some (.slice ka kn kc)/\W.cell? ⟨b,k*3+2,none⟩=some (.slice ca cn cc)/\NA W d l[k] (.agg #[.bool lf,.slice ka kn kc,.slice ca cn cc])):=by
    intro W hW k h
    obtain ⟨lf,ka,kn,kc,ca,cn,cc,h0,h1,h2,h3⟩:=kid_at hx hk k h
    exact ⟨lf,ka,kn,kc,ca,cn,cc,(hW.cell (p:=⟨b,_,none⟩) hb).trans h0,(hW.cell (p:=⟨b,_,none⟩) hb).trans h1,(hW.cell (p:=⟨b,_,none⟩) hb).trans h2,NA.below h3 hW⟩
   have HIH:Hid (∀W k (h:k<l.length) v,NA W d l[k] v->Calls Tryz.prog 88 #[v,.bool false] W fun e w'=>e=.returned (.int .i64 (depI d false l[k]))/\Below W.heap.size W w'):=fun W k h v hv=>ih l[k] v false W hv (by have:=kid_le d l k h;omega) (by omega)
   have HIe:Hid (depI (d+1) root (.inr l)=if 4<l.length then -1 else if l.length<2 then -1 else if h:0<l.length then (if (∀k (h:k<l.length),depI d false l[k]=depI d false l[0]) then (if depI d false l[0]<0 then -1 else depI d false l[0]+1) else -1) else -1):=by
    show depI (d+1) root (.inr l)=_
    rw [depI_inr]
    cases l with
    | nil=>simp
    | cons t0 ts=>
     have e:(∀t,t∈t0::ts->depI d false t=depI d false t0)↔(∀k (h:k<(t0::ts).length),depI d false (t0::ts)[k]=depI d false (t0::ts)[0]):=by
      constructor
      ·intro h k hk
       exact h _ (List.getElem_mem hk)
      ·intro h t ht
       obtain ⟨k,hk,rfl⟩:=List.getElem_of_mem ht
       exact h k hk
     rw [dif_pos (by simp)]
     simp only [e]
     rfl
   clear hx hk ih hnod
   obtain ⟨I,hI⟩:∃I,I=depI (d+1) root (.inr l):=⟨_,rfl⟩
   rw [<- hI]
   have HI:Hid (I=if 4<l.length then -1 else if l.length<2 then -1 else if h:0<l.length then (if (∀k (h:k<l.length),depI d false l[k]=depI d false l[0]) then (if depI d false l[0]<0 then -1 else depI d false l[0]+1) else -1) else -1):=hI.trans HIe.out
   clear hI HIe
   obtain ⟨m,hm⟩:∃m,m=l.length:=⟨_,rfl⟩
   rw [<- hm] at hl0 hl63 ⊢
   have HM:Hid (m=l.length):=hm
   clear hm
   have HS:Hid (∀W:World,Calls Tryz.prog 114 #[.agg #[.bool false,.slice ka 0 kc,.slice (some ⟨b,0,none⟩) m cc]] W fun e w'=>e=.returned (.int .i64 (m:Int))/\Below W.heap.size W w'):=fun W=>(size_any false ka (some ⟨b,0,none⟩) 0 kc m cc W).mono (fun e w' h=>⟨by simpa using h.1,h.2⟩)
   have hbx:Hid (∀O (w1:World),Below (w.alloc O).heap.size (w.alloc O) w1->Below w.heap.size w w1):=fun O w1 h=>(below_alloc _ _).trans (h.mono (by simp))
   by_cases h4:4<m
   ·have i4:(4:Int)<(m:Int):=by omega
    have i4' : decide ((4:Int)<(m:Int))=true:=decide_eq_true i4
    go_enter Tryz.func88,Tryz.ntmps88
    go_wp2_with fail
    refine (HS.out _).mono ?_
    rintro e w1 ⟨rfl,hb1⟩
    have HB:Hid (Below w.heap.size w w1):=hbx.out _ _ hb1
    clear hb1
    go_wp2
    go_ret
    exact ⟨by rw [HI.out,if_pos (by rw [<- HM.out];exact h4)];rfl,HB.out⟩
   ·have i4:¬ (4:Int)<(m:Int):=by omega
    have i4' : decide ((4:Int)<(m:Int))=false:=decide_eq_false i4
    by_cases h2:m<2
    ·have i2:(m:Int)<2:=by omega
     have i2' : decide ((m:Int)<2)=true:=decide_eq_true i2
     have HI2:Hid (I=-1):=by
      show I=-1
      rw [HI.out,if_neg (by rw [<- HM.out];exact h4),if_pos (by rw [<- HM.out];exact h2)]
     cases root with
     | true=>
      go_enter Tryz.func88,Tryz.ntmps88
      go_wp2_with fail
      refine (HS.out _).mono ?_
      rintro e w1 ⟨rfl,hb1⟩
      have HX:Hid (Bx w1 w.heap.size 116 #[.bool false,.slice ka 0 kc,.slice (some ⟨b,0,none⟩) m cc]):=(Bx.new _ _ _).below hb1
      have HB:Hid (Below w.heap.size w w1):=hbx.out _ _ hb1
      have z0:=HX.out.cell 0
      have z1:=HX.out.cell 1
      have z2:=HX.out.cell 2
      simp at z0 z1 z2
      clear hb1
      go_wp2_with fail
      refine (HS.out _).mono ?_
      rintro e w2 ⟨rfl,hb2⟩
      have HX2:Hid (Bx w2 w.heap.size 116 #[.bool false,.slice ka 0 kc,.slice (some ⟨b,0,none⟩) m cc]):=HX.out.below hb2
      have HB2:Hid (Below w.heap.size w w2):=HB.out.trans (hb2.mono HB.out.size)
      clear hb2 z0 z1 z2
      have z0:=HX2.out.cell 0
      simp at z0
      go_wp2
      go_ret
      exact ⟨by rw [HI2.out];rfl,HB2.out⟩
     | false=>
      go_enter Tryz.func88,Tryz.ntmps88
      go_wp2_with fail
      refine (HS.out _).mono ?_
      rintro e w1 ⟨rfl,hb1⟩
      have HX:Hid (Bx w1 w.heap.size 116 #[.bool false,.slice ka 0 kc,.slice (some ⟨b,0,none⟩) m cc]):=(Bx.new _ _ _).below hb1
      have HB:Hid (Below w.heap.size w w1):=hbx.out _ _ hb1
      have z0:=HX.out.cell 0
      have z1:=HX.out.cell 1
      have z2:=HX.out.cell 2
      simp at z0 z1 z2
      clear hb1
      go_wp2_with fail
      refine (HS.out _).mono ?_
      rintro e w2 ⟨rfl,hb2⟩
      have HB2:Hid (Below w.heap.size w w2):=HB.out.trans (hb2.mono HB.out.size)
      clear hb2 z0 z1 z2
      go_wp2
      go_ret
      exact ⟨by rw [HI2.out];rfl,HB2.out⟩
    ·have i2:¬ (m:Int)<2:=by omega
     have i2' : decide ((m:Int)<2)=false:=decide_eq_false i2
     have hp:0<l.length:=by rw [<- HM.out];omega
     have HI2:Hid (I=if (∀k (h:k<l.length),depI d false l[k]=depI d false l[0]) then (if depI d false l[0]<0 then -1 else depI d false l[0]+1) else -1):=by
      show I=_
      rw [HI.out,if_neg (by rw [<- HM.out];exact h4),if_neg (by rw [<- HM.out];exact h2),dif_pos hp]
     clear HI
     go_enter Tryz.func88,Tryz.ntmps88
     go_wp2_with fail
     refine (HS.out _).mono ?_
     rintro e w1 ⟨rfl,hb1⟩
     have HX:Hid (Bx w1 w.heap.size 116 #[.bool false,.slice ka 0 kc,.slice (some ⟨b,0,none⟩) m cc]):=(Bx.new _ _ _).below hb1
     have HB:Hid (Below w.heap.size w w1):=hbx.out _ _ hb1
     have z0:=HX.out.cell 0
     have z1:=HX.out.cell 1
     have z2:=HX.out.cell 2
     simp at z0 z1 z2
     clear hb1
     go_wp2_with fail
     refine (HS.out _).mono ?_
     rintro e w2 ⟨rfl,hb2⟩
     have HX2:Hid (Bx w2 w.heap.size 116 #[.bool false,.slice ka 0 kc,.slice (some ⟨b,0,none⟩) m cc]):=HX.out.below hb2
     have HB2:Hid (Below w.heap.size w w2):=HB.out.trans (hb2.mono HB.out.size)
     clear hb2 z0 z1 z2 HX HB
     have z0:=HX2.out.cell 0
     have z2:=HX2.out.cell 2
     simp at z0 z2
     obtain ⟨lf1,ka1,kn1,kc1,ca1,cn1,cc1,c0,c1,c2,hna⟩:=HKid.out w2 HB2.out 0 hp
     have HNA:Hid (NA w2 d l[0] (.agg #[.bool lf1,.slice ka1 kn1 kc1,.slice ca1 cn1 cc1])):=hna
     simp only [Nat.zero_mul,Nat.zero_add] at c0 c1 c2
     have im:(0:Int)<(m:Int):=by omega
     clear hna
     go_wp2_with fail
     refine (HIH.out _ 0 hp _ HNA.out).mono ?_
     rintro e w3 ⟨rfl,hb3⟩
     have HX3:Hid (Bx w3 w.heap.size 116 #[.bool false,.slice ka 0 kc,.slice (some ⟨b,0,none⟩) m cc]):=HX2.out.below hb3
     have HB3:Hid (Below w.heap.size w w3):=HB2.out.trans (hb3.mono HB2.out.size)
     have hdb:=depI_ge d false l[0]
     have hD:=HI2.out
     have HAll:Hid (∀W:World,Below w.heap.size w W->Bx W w.heap.size 116 #[.bool false,.slice ka 0 kc,.slice (some ⟨b,0,none⟩) m cc]->True):=fun _ _ _=>trivial
     generalize depI d false l[0]=D0 at hdb hD ⊢
     have HD:Hid (I=if (∀k (h:k<l.length),depI d false l[k]=D0) then (if D0<0 then -1 else D0+1) else -1):=hD
     clear hb3 z0 z2 c0 c1 c2 HNA HX2 HB2 HI2 hD hbx HAll
     go_wp2
     go_loopw [6] (fun i wr=>∃k:Nat,k<=m/\i=.int .i64 k/\(∀j (h:j<l.length),j<k->depI d false l[j]=D0)/\Bx wr w.heap.size 116 #[.bool false,.slice ka 0 kc,.slice (some ⟨b,0,none⟩) m cc]/\Below w.heap.size w wr) (fun i _=>m-(intOf i).toNat)
     case atStart=>exact ⟨0,Nat.zero_le _,rfl,fun j _ h=>absurd h (Nat.not_lt_zero _),HX3.out,HB3.out⟩
     case round=>
      obtain ⟨k,hk,rfl,hall,hbx,hbel⟩:=hrel
      clear HX3 HB3
      have HA:Hid (∀j (h:j<l.length),j<k->depI d false l[j]=D0):=hall
      have HX:Hid (Bx wr w.heap.size 116 #[.bool false,.slice ka 0 kc,.slice (some ⟨b,0,none⟩) m cc]):=hbx
      have HB:Hid (Below w.heap.size w wr):=hbel
      have z2:=hbx.cell 2
      simp at z2
      clear hall hbx hbel
      by_cases hlt:k<m
      ·have hlk:k<l.length:=by rw [<- HM.out];exact hlt
       obtain ⟨lf1,ka1,kn1,kc1,ca1,cn1,cc1,c0,c1,c2,hna⟩:=HKid.out wr HB.out k hlk
       have HNA:Hid (NA wr d l[k] (.agg #[.bool lf1,.slice ka1 kn1 kc1,.slice ca1 cn1 cc1])):=hna
       have hk0:(0:Int)<=(k:Int):=by omega
       have hkn:(k:Int)<(m:Int):=by omega
       clear hna
       go_wp2_with fail
       refine (HIH.out _ k hlk _ HNA.out).mono ?_
       rintro e w4 ⟨rfl,hb4⟩
       have HX4:Hid (Bx w4 w.heap.size 116 #[.bool false,.slice ka 0 kc,.slice (some ⟨b,0,none⟩) m cc]):=HX.out.below hb4
       have HB4:Hid (Below w.heap.size w w4):=HB.out.trans (hb4.mono HB.out.size)
       have HE:Hid (depI d false l[k]=depI d false l[k]):=rfl
       obtain ⟨Dk,hDk⟩:∃Dk,depI d false l[k]=Dk:=⟨_,rfl⟩
       rw [hDk]
       have HDk:Hid (depI d false l[k]=Dk):=hDk
       clear hb4 z2 c0 c1 c2 HNA HX HB hDk HE
       by_cases hne:Dk=D0
       ·subst hne
        have hq:(Dk != Dk)=false:=by simp
        go_wp2
        go_roundw
        case rel=>
         refine ⟨k+1,by omega,by go_num,fun j h hj=>?_,HX4.out,HB4.out⟩
         by_cases e:j=k
         ·subst e;exact HDk.out
         ·exact HA.out j h (by omega)
        case measure=>simp [intOf];omega
       ·have hq:(Dk != D0)=true:=by simpa using hne
        have hq2:(!(Dk == D0))=true:=by simpa using hne
        have HR:Hid (I=-1):=by
         show I=-1
         rw [HD.out,if_neg (fun h=>hne (by rw [<- HDk.out];exact h k hlk))]
        go_wp2
        go_ret
        exact ⟨by rw [HR.out];rfl,HB4.out⟩
      ·have e:k=m:=by omega
       subst e
       have hall:∀j (h:j<l.length),depI d false l[j]=D0:=fun j h=>HA.out j h (by rw [HM.out];exact h)
       by_cases hneg:D0<0
       ·have hn' : decide (D0<0)=true:=decide_eq_true hneg
        have HR:Hid (I=-1):=by
         show I=-1
         rw [HD.out,if_pos hall,if_pos hneg]
        clear hall
        go_wp2
        go_ret
        exact ⟨by rw [HR.out];rfl,HB.out⟩
       ·have hn' : decide (D0<0)=false:=decide_eq_false hneg
        have HR:Hid (I=D0+1):=by
         show I=D0+1
         rw [HD.out,if_pos hall,if_neg hneg]
        clear hall
        go_wp2
        go_ret
        exact ⟨by rw [HR.out];rfl,HB.out⟩
end Go.Proofs.YtpaomghibppgkaaGreat
