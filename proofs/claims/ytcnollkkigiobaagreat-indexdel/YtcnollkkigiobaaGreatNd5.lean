import Derived.Test.YtcnollkkigiobaaGreatNd1
import Derived.Test.YtcnollkkigiobaaGreatNd3
set_option linter.unusedVariables false
set_option maxRecDepth 100000
namespace Go.Proofs.YtcnollkkigiobaaGreat
open Go.RowKit Go.Deep

def RdIx (w:World) (a:Option Addr) (n:Nat) (M:Nat->Nat) (T:Nat->Nat->Tn):Prop:=
 n=0\/∃b o,a=some ⟨b,o,none⟩/\∀i,i<n->∃ai ci,w.cell? ⟨b,o+i,none⟩=some (.slice ai (M i) ci)/\RdTn w ai (M i) (T i)
theorem RdIx.below {w w' : World} {a:Option Addr} {n:Nat} {M:Nat->Nat} {T:Nat->Nat->Tn} (h:RdIx w a n M T) (hb:Below w.heap.size w w'):RdIx w' a n M T:=by
 rcases h with h|⟨b,o,rfl,hc⟩
 ·exact Or.inl h
 ·refine Or.inr ⟨b,o,rfl,fun i hi=>?_⟩
  obtain ⟨ai,ci,h0,h1⟩:=hc i hi
  exact ⟨ai,ci,by rw [hb.cell (World.block_lt_of_cell? _ _ h0)];exact h0,h1.below hb⟩
def IxFit (n:Nat) (M:Nat->Nat) (T:Nat->Nat->Tn):Prop:=∀i,i<n->M i<=1048576/\∀j,j<M i->TnFit (T i j)
def sumI (M:Nat->Nat) (T:Nat->Nat->Tn):Nat->Nat
 | 0=>0
 | k+1=>sumI M T k+M k+sumT (T k) (M k)
theorem sumI_get (M:Nat->Nat) (T:Nat->Nat->Tn):∀(m i:Nat),i<m->M i+sumT (T i) (M i)<=sumI M T m
 | 0,i,h=>absurd h (Nat.not_lt_zero _)
 | m+1,i,h=>by
  have e:sumI M T (m+1)=sumI M T m+M m+sumT (T m) (M m):=rfl
  by_cases e2:i=m
  ·subst e2;omega
  ·have:=sumI_get M T m i (by omega)
   omega
theorem ixFit_of {n:Nat} {M:Nat->Nat} {T:Nat->Nat->Tn} (h:n+sumI M T n<=1048576):IxFit n M T:=fun i hi=>by
 have q:=sumI_get M T n i hi
 refine ⟨by omega,fun j hj=>?_⟩
 have:=sumT_get (T i) (M i) j hj
 exact ⟨by omega,by omega⟩

set_option maxHeartbeats 1000000 in
theorem szTree_left (a:Option Addr) (m c:Nat) (N:Nat->Tn) (l:Int) (w:World) (h:RdTn w a m N) (hm:m<=maxLen) (hN:∀i,i<m->TnBig (N i)) (h0:0<=l) (h1:l<=1048576) :
  Calls Tryz.prog 66 #[.agg #[.slice a m c],.int .i64 l] w fun e w'=>∃r:Int,e=.returned (.int .i64 r)/\(r=-1\/(0<=r/\r+(m:Int)+(sumT N m:Int)<=l))/\Below w.heap.size w w':=by
 have HR:Hid (RdTn w a m N/\∀i,i<m->TnBig (N i)):=⟨h,hN⟩
 clear h hN
 go_enter Tryz.func66,Tryz.ntmps66
 go_wp2_with fail
 refine (szTNodeS_sum a m c N l _ (HR.out.1.below (below_alloc _ _)) hm HR.out.2 h0 h1).mono ?_
 rintro e w1 ⟨r,rfl,hr,hb1⟩
 have H1:Hid (Below w.heap.size w w1):=(below_alloc _ _).trans (hb1.mono (by simp))
 clear hb1
 rcases hr with rfl|⟨hr0,hr1⟩
 ·go_wp2
  go_ret
  exact ⟨-1,rfl,Or.inl rfl,H1.out⟩
 ·have hr2:¬ r<0:=by omega
  have HF:Hid (r+(m:Int)+(sumT N m:Int)<=l):=hr1
  clear hr1
  go_wp2
  go_ret
  exact ⟨r,rfl,Or.inr ⟨hr0,HF.out⟩,H1.out⟩

set_option maxHeartbeats 1000000 in
theorem szTreeS_sum (a:Option Addr) (m c:Nat) (M:Nat->Nat) (T:Nat->Nat->Tn) (l:Int) (w:World) (h:RdIx w a m M T) (hm:m<=maxLen) (hN:∀i,i<m->M i<=maxLen/\∀j,j<M i->TnBig (T i j)) (h0:0<=l) (h1:l<=1048576) :
  Calls Tryz.prog 32 #[.slice a m c,.int .i64 l] w fun e w'=>∃r:Int,e=.returned (.int .i64 r)/\(r=-1\/(0<=r/\r+(m:Int)+(sumI M T m:Int)<=l))/\Below w.heap.size w w':=by
 unfold maxLen at hm
 by_cases hneg:l-(m:Int)<0
 ·go_enter Tryz.func32,Tryz.ntmps32
  go_wp2
  go_ret
  exact ⟨-1,rfl,Or.inl rfl,Below.refl _ _⟩
 ·go_enter Tryz.func32,Tryz.ntmps32
  go_wp2
  go_loopw [1,5] (fun q i wr=>∃(k:Nat) (l' : Int),k<=m/\i=.int .i64 k/\q=.int .i64 l'/\0<=l'/\l'+(sumI M T k:Int)<=l-(m:Int)/\Below w.heap.size w wr) (fun _ i _=>m-(intOf i).toNat)
  case atStart=>exact ⟨0,_,Nat.zero_le _,rfl,rfl,by omega,by simp [sumI],Below.refl _ _⟩
  case round=>
   obtain ⟨k,l',hk,rfl,rfl,hl0,hl1,hbel⟩:=hrel
   by_cases hlt:k<m
   ·have hne:¬ m=0:=by omega
    have h':=h.below hbel
    have HB:Hid (Below w.heap.size w wr):=hbel
    have hsz:=hbel.size
    rcases h' with h' | ⟨b,o,rfl,hc⟩
    ·exact absurd h' hne
    obtain ⟨ai,ci,c0,c4⟩:=hc k hlt
    have HK:Hid (RdTn wr ai (M k) (T k)):=c4
    have HL:Hid (M k<=maxLen/\∀j,j<M k->TnBig (T k j)):=hN k hlt
    clear hc hN hbel h c4
    go_wp2_with fail
    refine (szTree_left ai (M k) ci (T k) l' _ HK.out HL.out.1 HL.out.2 hl0 (by omega)).mono ?_
    rintro e w1 ⟨r,rfl,hr,hb1⟩
    have HB1:Hid (Below w.heap.size w w1):=HB.out.trans (hb1.mono hsz)
    clear hb1
    rcases hr with rfl|⟨hr0,hr1⟩
    ·go_wp2
     go_ret
     exact ⟨-1,rfl,Or.inl rfl,HB1.out⟩
    ·have hr2:¬ r<0:=by omega
     have HN2:Hid (r+(sumI M T (k+1):Int)<=l-(m:Int)):=by
      show r+(sumI M T (k+1):Int)<=l-(m:Int)
      have:sumI M T (k+1)=sumI M T k+M k+sumT (T k) (M k):=rfl
      omega
     go_wp2
     go_roundw
     case rel=>exact ⟨k+1,r,by omega,by go_num,rfl,hr0,HN2.out,HB1.out⟩
     case measure=>simp [intOf];omega
   ·have e:k=m:=by omega
    subst e
    go_wp2
    go_ret
    exact ⟨l',rfl,Or.inr ⟨hl0,by omega⟩,hbel⟩

set_option maxHeartbeats 1000000 in
theorem szIndex_sum (a:Option Addr) (m c:Nat) (M:Nat->Nat) (T:Nat->Nat->Tn) (w:World) (h:RdIx w a m M T) (hm:m<=maxLen) (hN:∀i,i<m->M i<=maxLen/\∀j,j<M i->TnBig (T i j)) :
  Calls Tryz.prog 7 #[.agg #[.slice a m c],.int .i64 1048576] w fun e w'=>∃r:Int,e=.returned (.int .i64 r)/\(r=-1\/(0<=r/\m+sumI M T m<=1048576))/\Below w.heap.size w w':=by
 have HR:Hid (RdIx w a m M T/\∀i,i<m->M i<=maxLen/\∀j,j<M i->TnBig (T i j)):=⟨h,hN⟩
 clear h hN
 go_enter Tryz.func7,Tryz.ntmps7
 go_wp2_with fail
 refine (szTreeS_sum a m c M T 1048576 _ (HR.out.1.below (below_alloc _ _)) hm HR.out.2 (by omega) (by omega)).mono ?_
 rintro e w1 ⟨r,rfl,hr,hb1⟩
 have H1:Hid (Below w.heap.size w w1):=(below_alloc _ _).trans (hb1.mono (by simp))
 clear hb1
 rcases hr with rfl|⟨hr0,hr1⟩
 ·go_wp2
  go_ret
  exact ⟨-1,rfl,Or.inl rfl,H1.out⟩
 ·have hr2:¬ r<0:=by omega
  have HF:Hid (m+sumI M T m<=1048576):=by
   show m+sumI M T m<=1048576
   omega
  clear hr1
  go_wp2
  go_ret
  exact ⟨r,rfl,Or.inr ⟨hr0,HF.out⟩,H1.out⟩

set_option maxHeartbeats 2000000 in
theorem eqTreeS_yes (a b:Option Addr) (m ca cb:Nat) (M:Nat->Nat) (T:Nat->Nat->Tn) (w:World) (ha:RdIx w a m M T) (hb:RdIx w b m M T) (hm:m<=1048576) (hN:IxFit m M T) :
  Calls Tryz.prog 39 #[.slice a m ca,.slice b m cb] w fun e w'=>e=.returned (.bool true)/\Below w.heap.size w w':=by
 have hll:((m:Int) != (m:Int))=false:=by simp
 go_enter Tryz.func39,Tryz.ntmps39
 go_wp2
 go_loopw [5] (fun i wr=>∃k:Nat,k<=m/\i=.int .i64 k/\Below w.heap.size w wr) (fun i _=>m-(intOf i).toNat)
 case atStart=>exact ⟨0,Nat.zero_le _,rfl,Below.refl _ _⟩
 case round=>
  obtain ⟨k,hk,rfl,hbel⟩:=hrel
  by_cases hlt:k<m
  ·have hne:¬ m=0:=by omega
   have ha':=ha.below hbel
   have hb':=hb.below hbel
   rcases ha' with h|⟨ba,oa,rfl,hca⟩
   ·exact absurd h hne
   rcases hb' with h|⟨bb,ob,rfl,hcb⟩
   ·exact absurd h hne
   obtain ⟨ai,ci,c0,c4⟩:=hca k hlt
   obtain ⟨bi,di,g0,g4⟩:=hcb k hlt
   have HL:=hN k hlt
   clear hca hcb ha hb hN
   have hsz:=hbel.size
   have HB:Hid (Below w.heap.size w wr):=hbel
   clear hbel
   go_wp2
   go_region_with (go_at_call 74;refine (eqTree_yes ai bi (M k) ci di (T k) _ (by exact c4) (by exact g4) HL.1 HL.2).mono ?_;rintro e w2 ⟨rfl,hb2⟩)
   all_goals
    have HX:Hid (Below w.heap.size w w2):=(HB.out.drew).trans (hb2.mono (by simpa using hsz))
    clear hb2 c0 c4 g0 g4
    go_wp2
    go_roundw
    case rel=>exact ⟨k+1,by omega,by go_num,HX.out⟩
    case measure=>simp [intOf];omega
  ·have e:k=m:=by omega
   subst e
   go_wp2
   go_ret
   exact ⟨rfl,hbel⟩
set_option maxHeartbeats 400000 in
theorem eqIndex_yes (a b:Option Addr) (m ca cb:Nat) (M:Nat->Nat) (T:Nat->Nat->Tn) (w:World) (ha:RdIx w a m M T) (hb:RdIx w b m M T) (hm:m<=1048576) (hN:IxFit m M T) :
  Calls Tryz.prog 13 #[.agg #[.slice a m ca],.agg #[.slice b m cb]] w fun e w'=>e=.returned (.bool true)/\Below w.heap.size w w':=by
 have HR:Hid (RdIx w a m M T/\RdIx w b m M T/\IxFit m M T):=⟨ha,hb,hN⟩
 clear ha hb hN
 go_enter Tryz.func13,Tryz.ntmps13
 go_wp2_with fail
 have hbel:∀o1 o2,Below w.heap.size w ((w.alloc o1).alloc o2):=fun o1 o2=>((Below.refl _ _).alloc (Nat.le_refl _) o1).alloc (by simp) o2
 refine (eqTreeS_yes a b m ca cb M T _ (HR.out.1.below (hbel _ _)) (HR.out.2.1.below (hbel _ _)) hm HR.out.2.2).mono ?_
 rintro e w1 ⟨rfl,hb1⟩
 have H1:Hid (Below w.heap.size w w1):=(hbel _ _).trans (hb1.mono (by simp;omega))
 clear hb1
 go_wp2
 go_ret
 exact ⟨rfl,H1.out⟩

theorem OwnTn.setO {W:World} {B g m:Nat} {N:Nat->Tn} {KA DA:Nat->Option Addr} {KC DC:Nat->Nat} (q:OwnTn W B g m N KA DA KC DC) {p:Addr} (hp:p.block<B) (v:Value):OwnTn (W.setCell p v) B g m N KA DA KC DC:=by
 have hle:=q.le
 refine ⟨q.le,q.row.setOther (by omega) _,fun i hi=>(q.keys i hi).setOther hp _,fun i hi=>?_,q.apartK,q.apartD⟩
 rcases q.kids i hi with h0|⟨g,hA,hg,hr⟩
 ·exact Or.inl h0
 ·exact Or.inr ⟨g,hA,hg,hr.setOther (by omega) _⟩
def OwnIx (w:World) (B g n k:Nat) (M:Nat->Nat) (T:Nat->Nat->Tn):Prop:=
 g<B/\∃cur:Array Value,w.heap[g]?=some (.cells cur 59 (0,0))/\cur.size=n/\∀i,i<k->∃gi KA DA KC DC,cur[i]?=some (.slice (some ⟨gi,0,none⟩) (M i) (M i))/\OwnTn w B gi (M i) (T i) KA DA KC DC
theorem OwnIx.rd {w:World} {B g n:Nat} {M:Nat->Nat} {T:Nat->Nat->Tn} (h:OwnIx w B g n n M T):RdIx w (some ⟨g,0,none⟩) n M T:=by
 obtain ⟨_,cur,h1,h2,h3⟩:=h
 refine .inr ⟨g,0,rfl,fun i hi=>?_⟩
 obtain ⟨gi,KA,DA,KC,DC,q1,q2⟩:=h3 i hi
 exact ⟨some ⟨gi,0,none⟩,M i,by rw [Nat.zero_add,Bx.cell (show Bx w g 59 cur from h1) i];exact q1,q2.rd⟩

def kb (k:ByteArray) (i:Nat):Int:=match k[i]? with
 | some b=>(b.toNat:Int)
 | none=>0
theorem kb_get {k:ByteArray} {i:Nat} (h:i<k.size):∃b:UInt8,k[i]?=some b/\kb k i=(b.toNat:Int):=by
 have e:k[i]?=some k[i]:=getElem?_pos k i h
 exact ⟨k[i],e,by unfold kb;rw [e]⟩
theorem kb_range (k:ByteArray) (i:Nat):0<=kb k i/\kb k i<256:=by
 unfold kb
 split
 ·rename_i b _
  have:=b.toNat_lt
  omega
 ·omega
def pkn (k:ByteArray) (i:Nat):Nat->Int
 | 0=>0
 | n+1=>256*pkn k i n+kb k (4*i+n)
def pk (k:ByteArray) (i:Nat):Int:=pkn k i 4
theorem pkn_range (k:ByteArray) (i:Nat):∀n,n<=4->0<=pkn k i n/\pkn k i n<4294967296:=by
 intro n hn
 have h0:pkn k i 0=0:=rfl
 have h1:pkn k i 1=256*pkn k i 0+kb k (4*i+0):=rfl
 have h2:pkn k i 2=256*pkn k i 1+kb k (4*i+1):=rfl
 have h3:pkn k i 3=256*pkn k i 2+kb k (4*i+2):=rfl
 have h4:pkn k i 4=256*pkn k i 3+kb k (4*i+3):=rfl
 have b0:=kb_range k (4*i+0)
 have b1:=kb_range k (4*i+1)
 have b2:=kb_range k (4*i+2)
 have b3:=kb_range k (4*i+3)
 rcases (show n=0\/n=1\/n=2\/n=3\/n=4 by omega) with rfl|rfl|rfl|rfl|rfl <;> omega

structure Qd where
 s:Int
 p:Int
 o:Int
 g:Int
def qv (q:Qd):Value:=.agg #[.int .i64 q.s,.int .i64 q.p,.int .i64 q.o,.int .i64 q.g]
def ordF (perm i:Nat):Nat:=
 match perm,i with
 | 0,i=>i
 | 1,0=>1|1,1=>2|1,2=>0|1,_=>3
 | 2,0=>2|2,1=>0|2,2=>1|2,_=>3
 | 3,0=>3|3,1=>0|3,2=>1|3,_=>2
 | 4,0=>3|4,1=>1|4,2=>2|4,_=>0
 | _,0=>3|_,1=>2|_,2=>0|_,_=>1
def posF (perm s:Nat):Nat:=
 match perm,s with
 | 0,s=>s
 | 1,0=>2|1,1=>0|1,2=>1|1,_=>3
 | 2,0=>1|2,1=>2|2,2=>0|2,_=>3
 | 3,0=>1|3,1=>2|3,2=>3|3,_=>0
 | 4,0=>3|4,1=>1|4,2=>2|4,_=>0
 | _,0=>2|_,1=>3|_,2=>1|_,_=>0
def quadOf (perm:Nat) (k:ByteArray):Qd:=⟨pk k (posF perm 0),pk k (posF perm 1),pk k (posF perm 2),pk k (posF perm 3)⟩
def ptF (perm:Nat) (k:ByteArray) (i s:Nat):Int:=if posF perm s<i then pk k (posF perm s) else 0
theorem ptF_succ (perm:Nat) (hp:perm<6) (k:ByteArray) (i:Nat) (hi:i<4):∀s,s<4->ptF perm k (i+1) s=if s=ordF perm i then pk k i else ptF perm k i s:=by
 intro s hs
 rcases (show perm=0\/perm=1\/perm=2\/perm=3\/perm=4\/perm=5 by omega) with rfl|rfl|rfl|rfl|rfl|rfl <;>
 rcases (show i=0\/i=1\/i=2\/i=3 by omega) with rfl|rfl|rfl|rfl <;>
 rcases (show s=0\/s=1\/s=2\/s=3 by omega) with rfl|rfl|rfl|rfl <;> rfl
theorem ptF_all (perm:Nat) (hp:perm<6) (k:ByteArray) (s:Nat) (hs:s<4):ptF perm k 4 s=pk k (posF perm s):=by
 have:posF perm s<4:=by
  rcases (show perm=0\/perm=1\/perm=2\/perm=3\/perm=4\/perm=5 by omega) with rfl|rfl|rfl|rfl|rfl|rfl <;>
  rcases (show s=0\/s=1\/s=2\/s=3 by omega) with rfl|rfl|rfl|rfl <;> decide
 unfold ptF
 rw [if_pos this]
theorem ordF_lt (perm:Nat) (hp:perm<6) (i:Nat) (hi:i<4):ordF perm i<4:=by
 rcases (show perm=0\/perm=1\/perm=2\/perm=3\/perm=4\/perm=5 by omega) with rfl|rfl|rfl|rfl|rfl|rfl <;>
 rcases (show i=0\/i=1\/i=2\/i=3 by omega) with rfl|rfl|rfl|rfl <;> decide

def numB (x:Int):Bool:=decide (1<=x) && decide (x<=2000000000)
def quadB (q:Qd):Bool:=numB q.s && numB q.p && numB q.o && numB q.g

set_option maxHeartbeats 1000000 in
theorem l5Order_any (perm:Nat) (hp:perm<6) (w:World):Calls Tryz.prog 64 #[.int .i64 (perm:Int)] w fun e w'=>e=.returned (.slice (some ⟨w.heap.size,0,none⟩) 4 4)/\w'=w.alloc (.cells #[.int .i64 (ordF perm 0:Int),.int .i64 (ordF perm 1:Int),.int .i64 (ordF perm 2:Int),.int .i64 (ordF perm 3:Int)] 3):=by
 rcases (show perm=0\/perm=1\/perm=2\/perm=3\/perm=4\/perm=5 by omega) with rfl|rfl|rfl|rfl|rfl|rfl
 all_goals
  go_enter Tryz.func64,Tryz.ntmps64
  go_wp2
  go_ret
  exact ⟨rfl,rfl⟩

set_option maxHeartbeats 1000000 in
theorem l2Number_any (x:Int) (w:World):Calls Tryz.prog 76 #[.int .i64 x] w fun e w'=>e=.returned (.bool (numB x))/\w'=w:=by
 by_cases h1:1<=x
 ·have h1d:decide (1<=x)=true:=decide_eq_true h1
  by_cases h2:x<=2000000000
  ·have h2d:decide (x<=2000000000)=true:=decide_eq_true h2
   have hd:numB x=true:=by unfold numB;rw [h1d,h2d];rfl
   rw [hd]
   clear hd
   go_enter Tryz.func76,Tryz.ntmps76
   go_wp2
   go_ret
   exact ⟨rfl,rfl⟩
  ·have h2d:decide (x<=2000000000)=false:=decide_eq_false h2
   have hd:numB x=false:=by unfold numB;rw [h1d,h2d];rfl
   rw [hd]
   clear hd
   go_enter Tryz.func76,Tryz.ntmps76
   go_wp2
   go_ret
   exact ⟨rfl,rfl⟩
 ·have h1d:decide (1<=x)=false:=decide_eq_false h1
  have hd:numB x=false:=by unfold numB;rw [h1d];rfl
  rw [hd]
  clear hd
  go_enter Tryz.func76,Tryz.ntmps76
  go_wp2
  go_ret
  exact ⟨rfl,rfl⟩

set_option maxHeartbeats 2000000 in
theorem l5Good_any (q:Qd) (w:World):Calls Tryz.prog 41 #[qv q] w fun e w'=>e=.returned (.bool (quadB q))/\Below w.heap.size w w':=by
 have HL:Hid (∀(x:Int) (W:World),Calls Tryz.prog 76 #[.int .i64 x] W fun e w'=>e=.returned (.bool (numB x))/\w'=W):=l2Number_any
 unfold quadB qv
 go_enter Tryz.func41,Tryz.ntmps41
 go_wp2_with fail
 (with_reducible refine (HL.out _ _).mono ?_)
 rintro e w1 ⟨rfl,hw1⟩
 subst hw1
 cases h1:numB q.s with
 | false=>
  go_wp2
  go_ret
  exact ⟨by rw [h1];rfl,below_alloc _ _⟩
 | true=>
 go_wp2_with fail
 (with_reducible refine (HL.out _ _).mono ?_)
 rintro e w1 ⟨rfl,hw1⟩
 subst hw1
 cases h2:numB q.p with
 | false=>
  go_wp2
  go_ret
  exact ⟨by rw [h1,h2];rfl,below_alloc _ _⟩
 | true=>
 go_wp2_with fail
 (with_reducible refine (HL.out _ _).mono ?_)
 rintro e w1 ⟨rfl,hw1⟩
 subst hw1
 cases h3:numB q.o with
 | false=>
  go_wp2
  go_ret
  exact ⟨by rw [h1,h2,h3];rfl,below_alloc _ _⟩
 | true=>
 go_wp2_with fail
 (with_reducible refine (HL.out _ _).mono ?_)
 rintro e w1 ⟨rfl,hw1⟩
 subst hw1
 cases h4:numB q.g with
 | false=>
  go_wp2
  go_ret
  exact ⟨by rw [h1,h2,h3,h4];rfl,below_alloc _ _⟩
 | true=>
  go_wp2
  go_ret
  exact ⟨by rw [h1,h2,h3,h4];rfl,below_alloc _ _⟩

def ptA (perm:Nat) (k:ByteArray) (i:Nat):Array Value:=#[.int .i64 (ptF perm k i 0),.int .i64 (ptF perm k i 1),.int .i64 (ptF perm k i 2),.int .i64 (ptF perm k i 3)]
theorem ptA_set (perm:Nat) (hp:perm<6) (k:ByteArray) (i:Nat) (hi:i<4):(ptA perm k i).setIfInBounds (ordF perm i) (.int .i64 (pk k i))=ptA perm k (i+1):=by
 have h:=ptF_succ perm hp k i hi
 have ho:=ordF_lt perm hp i hi
 unfold ptA
 rw [h 0 (by omega),h 1 (by omega),h 2 (by omega),h 3 (by omega)]
 generalize ordF perm i=o at ho ⊢
 rcases (show o=0\/o=1\/o=2\/o=3 by omega) with rfl|rfl|rfl|rfl <;> simp
def ordA (perm:Nat):Array Value:=#[.int .i64 (ordF perm 0:Int),.int .i64 (ordF perm 1:Int),.int .i64 (ordF perm 2:Int),.int .i64 (ordF perm 3:Int)]
theorem ordA_get (perm i:Nat) (hi:i<4):(ordA perm)[i]?=some (.int .i64 (ordF perm i:Int)):=by
 rcases (show i=0\/i=1\/i=2\/i=3 by omega) with rfl|rfl|rfl|rfl <;> rfl
theorem ptA_get (perm:Nat) (k:ByteArray) (j i:Nat) (hi:i<4):(ptA perm k j)[i]?=some (.int .i64 (ptF perm k j i)):=by
 rcases (show i=0\/i=1\/i=2\/i=3 by omega) with rfl|rfl|rfl|rfl <;> rfl

structure QSt (w W:World) (perm:Nat) (k:ByteArray) (i:Nat):Prop where
 rb:Bx W w.heap.size 34 #[.int .i64 0,.int .i64 0,.int .i64 0,.int .i64 0]
 ob:Bx W (w.heap.size+1) 3 (ordA perm)
 pb:Bx W (w.heap.size+2) 2 (ptA perm k i)
 bel:Below w.heap.size w W

set_option maxHeartbeats 4000000 in
theorem l5Quad_any (perm:Nat) (hp:perm<6) (key:ByteArray) (hk:key.size=16) (w:World):Calls Tryz.prog 59 #[.string key,.int .i64 (perm:Int)] w fun e w'=>e=.returned (qv (quadOf perm key))/\Below w.heap.size w w':=by
 have HO:Hid (∀W:World,Calls Tryz.prog 64 #[.int .i64 (perm:Int)] W fun e w'=>e=.returned (.slice (some ⟨W.heap.size,0,none⟩) 4 4)/\w'=W.alloc (.cells (ordA perm) 3)):=fun W=>l5Order_any perm hp W
 have HK:Hid (key.size=16/\perm<6):=⟨hk,hp⟩
 clear hk hp
 go_enter Tryz.func59,Tryz.ntmps59
 go_wp2_with fail
 (with_reducible refine (HO.out _).mono ?_)
 rintro e w1 ⟨rfl,hw1⟩
 have Q0:Hid (QSt w (w1.alloc (.cells #[.int .i64 0,.int .i64 0,.int .i64 0,.int .i64 0] 2)) perm key 0):=by
  subst hw1
  have b1:=Bx.new w #[.int .i64 0,.int .i64 0,.int .i64 0,.int .i64 0] 34
  have b2:=Bx.new (w.alloc (.cells #[.int .i64 0,.int .i64 0,.int .i64 0,.int .i64 0] 34)) (ordA perm) 3
  have b3:=Bx.new ((w.alloc (.cells #[.int .i64 0,.int .i64 0,.int .i64 0,.int .i64 0] 34)).alloc (.cells (ordA perm) 3)) #[.int .i64 0,.int .i64 0,.int .i64 0,.int .i64 0] 2
  simp only [World.size_alloc] at b2 b3
  exact ⟨(b1.alloc _).alloc _,b2.alloc _,b3,((below_alloc _ _).alloc (by simp) _).alloc (by simp;omega) _⟩
 have hz1:w1.heap.size=w.heap.size+2:=by rw [hw1];simp
 have hw0:(w.alloc (.cells #[.int .i64 0,.int .i64 0,.int .i64 0,.int .i64 0] 34)).heap.size=w.heap.size+1:=by simp
 rw [hw0]
 clear hw1 HO hw0
 go_upto_region 3 with fail
 generalize w1.alloc (.cells #[.int .i64 0,.int .i64 0,.int .i64 0,.int .i64 0] 2)=W0 at Q0 ⊢
 clear hz1
 go_wp2
 go_loopw [7,8,9] (fun i _ _ wr=>∃ii:Nat,ii<=4/\i=.int .i64 ii/\QSt w wr perm key ii) (fun i _ _ _=>4-(intOf i).toNat)
 case atStart=>exact ⟨0,by omega,rfl,Q0.out⟩
 case round=>
  obtain ⟨i,hi,rfl,hq⟩:=hrel
  obtain ⟨W1,rfl⟩:∃W1,W1=wr:=⟨_,rfl⟩
  have QI:Hid (QSt w W1 perm key i):=hq
  clear hq Q0
  by_cases hlt:i<4
  ·go_wp2
   go_loopw [8,9] (fun x n wr=>∃nn:Nat,nn<=4/\n=.int .i64 nn/\x=.int .i64 (pkn key i nn)/\wr=W1) (fun _ n _=>4-(intOf n).toNat)
   case atStart=>exact ⟨0,by omega,rfl,rfl,rfl⟩
   case round=>
    obtain ⟨n,hn,rfl,rfl,rfl⟩:=hrel
    obtain ⟨x,hx⟩:∃x,x=pkn key i n:=⟨_,rfl⟩
    have HX:Hid (x=pkn key i n):=hx
    have hxr:=pkn_range key i n hn
    rw [<- hx] at hxr ⊢
    clear hx
    by_cases hln:n<4
    ·obtain ⟨by0,eb,ekb⟩:=kb_get (k:=key) (i:=4*i+n) (by rw [HK.out.1];omega)
     have hbr:=kb_range key (4*i+n)
     obtain ⟨b,hb⟩:∃b,b=kb key (4*i+n):=⟨_,rfl⟩
     have HBb:Hid (b=kb key (4*i+n)):=hb
     rw [<- hb] at hbr ekb
     have hix:∀W:World,(Instr.index 9 (.string key) (.int .i64 (4*(i:Int)+(n:Int)))).run Tryz.prog W=.ok (.int .u8 b) W:=fun W=>by
      have e1:(4*(i:Int)+(n:Int)).toNat=4*i+n:=by omega
      have e2:(0:Int)<=4*(i:Int)+(n:Int):=by omega
      simp [Instr.index,go_sem,e1,e2,eb,ekb]
     clear hb eb ekb
     have HN:Hid (256*x+b=pkn key i (n+1)):=by
      show 256*x+b=pkn key i (n+1)
      rw [HX.out,HBb.out]
      rfl
     obtain ⟨hx0,hx1⟩:=hxr
     obtain ⟨hb0,hb1⟩:=hbr
     go_wp2
     go_roundw
     case rel=>exact ⟨n+1,by omega,by go_num,by rw [<- HN.out],by first|rfl|trivial⟩
     case measure=>simp [intOf];omega
    ·obtain rfl:n=4:=by omega
     have HX4:Hid (x=pk key i):=HX.out
     have hop:ordF perm i<4:=ordF_lt perm HK.out.2 i hlt
     obtain ⟨o,ho⟩:∃o,o=ordF perm i:=⟨_,rfl⟩
     have HOo:Hid (o=ordF perm i):=ho
     rw [<- ho] at hop
     have c1:wr.cell? ⟨w.heap.size+1,i,none⟩=some (.int .i64 (o:Int)):=by rw [QI.out.ob.cell i,ordA_get perm i hlt,<- ho]
     have c2:wr.cell? ⟨w.heap.size+2,o,none⟩=some (.int .i64 (ptF perm key i o)):=by rw [QI.out.pb.cell o,ptA_get perm key i o hop]
     have f2:=QI.out.pb.frozen o
     have l2:=QI.out.pb.lt
     have i0:(0:Int)<=(i:Int):=by omega
     have i1:(i:Int)<4:=by omega
     have o0:(0:Int)<=(o:Int):=by omega
     have o1:(o:Int)<4:=by omega
     have HS:Hid (QSt w (wr.setCell ⟨w.heap.size+2,o,none⟩ (.int .i64 x)) perm key (i+1)):=by
      have q:=QI.out
      refine ⟨q.rb.other (by simp) _,q.ob.other (by simp) _,?_,q.bel.setCell (by simp) _⟩
      have e:=q.pb.set o (.int .i64 x)
      rw [HOo.out,HX4.out,ptA_set perm HK.out.2 key i hlt] at e
      rw [HOo.out,HX4.out]
      exact e
     clear ho
     go_wp2
     go_roundw
     case rel=>exact ⟨i+1,by omega,by go_num,HS.out⟩
     case measure=>simp [intOf];omega
  ·obtain rfl:i=4:=by omega
   have p0:=QI.out.pb.cell 0
   have p1:=QI.out.pb.cell 1
   have p2:=QI.out.pb.cell 2
   have p3:=QI.out.pb.cell 3
   rw [ptA_get perm key 4 0 (by omega),ptF_all perm HK.out.2 key 0 (by omega)] at p0
   rw [ptA_get perm key 4 1 (by omega),ptF_all perm HK.out.2 key 1 (by omega)] at p1
   rw [ptA_get perm key 4 2 (by omega),ptF_all perm HK.out.2 key 2 (by omega)] at p2
   rw [ptA_get perm key 4 3 (by omega),ptF_all perm HK.out.2 key 3 (by omega)] at p3
   obtain ⟨q0,hq0⟩:∃q0,q0=pk key (posF perm 0):=⟨_,rfl⟩
   obtain ⟨q1,hq1⟩:∃q1,q1=pk key (posF perm 1):=⟨_,rfl⟩
   obtain ⟨q2,hq2⟩:∃q2,q2=pk key (posF perm 2):=⟨_,rfl⟩
   obtain ⟨q3,hq3⟩:∃q3,q3=pk key (posF perm 3):=⟨_,rfl⟩
   rw [<- hq0] at p0
   rw [<- hq1] at p1
   rw [<- hq2] at p2
   rw [<- hq3] at p3
   have HV:Hid (qv (quadOf perm key)=.agg #[.int .i64 q0,.int .i64 q1,.int .i64 q2,.int .i64 q3]):=by
    show qv (quadOf perm key)=_
    rw [hq0,hq1,hq2,hq3]
    rfl
   clear hq0 hq1 hq2 hq3
   have z0:=QI.out.rb.cell 0
   have z1:=QI.out.rb.cell 1
   have z2:=QI.out.rb.cell 2
   have z3:=QI.out.rb.cell 3
   simp at z0 z1 z2 z3
   have zf:=fun i=>QI.out.rb.frozen i
   have zl:=QI.out.rb.lt
   go_upto_region 12 with fail
   refine wp_region_late (S:=fun w'=>w'.cell? ⟨w.heap.size+2,0,none⟩=some (.int .i64 q0)/\w'.cell? ⟨w.heap.size+2,1,none⟩=some (.int .i64 q1)/\w'.cell? ⟨w.heap.size+2,2,none⟩=some (.int .i64 q2)/\w'.cell? ⟨w.heap.size+2,3,none⟩=some (.int .i64 q3)) 13 (by kernel_rfl) ⟨p0,p1,p2,p3⟩ (fun hHeld=>?_)
   refine tk 0 .zero (v:=?_) ?_ ?_
   rotate_left
   ·(intro w h;(try dsimp only at h);go_simp) <;> with_reducible rfl
   simp only [tkp]
   refine tk 1 (.succ .zero) (v:=?_) ?_ ?_
   rotate_left
   ·(intro w h;(try dsimp only at h);go_simp) <;> with_reducible rfl
   simp only [tkp]
   refine tk 2 (.succ (.succ .zero)) (v:=?_) ?_ ?_
   rotate_left
   ·(intro w h;(try dsimp only at h);go_simp) <;> with_reducible rfl
   simp only [tkp]
   refine tk 3 (.succ (.succ (.succ .zero))) (v:=?_) ?_ ?_
   rotate_left
   ·(intro w h;(try dsimp only at h);go_simp) <;> with_reducible rfl
   simp only [tkp]
   refine tk 4 (.succ (.succ (.succ (.succ .zero)))) (v:=?_) ?_ ?_
   rotate_left
   ·(intro w h;(try dsimp only at h);go_simp) <;> with_reducible rfl
   simp only [tkp]
   refine tk 5 (.s5 .zero) (v:=?_) ?_ ?_
   rotate_left
   ·(intro w h;(try dsimp only at h);go_simp) <;> with_reducible rfl
   simp only [tkp]
   refine tk 6 (.s5 (.succ .zero)) (v:=?_) ?_ ?_
   rotate_left
   ·(intro w h;(try dsimp only at h);go_simp) <;> with_reducible rfl
   simp only [tkp]
   refine tk 7 (.s5 (.succ (.succ .zero))) (v:=?_) ?_ ?_
   rotate_left
   ·(intro w h;(try dsimp only at h);go_simp) <;> with_reducible rfl
   simp only [tkp]
   refine tk 8 (.s5 (.succ (.succ (.succ .zero)))) (v:=?_) ?_ ?_
   rotate_left
   ·(intro w h;(try dsimp only at h);go_simp) <;> with_reducible rfl
   simp only [tkp]
   refine tk 9 (.s5 (.succ (.succ (.succ (.succ .zero))))) (v:=?_) ?_ ?_
   rotate_left
   ·(intro w h;(try dsimp only at h);go_simp) <;> with_reducible rfl
   simp only [tkp]
   refine tk 10 (.s5 (.s5 .zero)) (v:=?_) ?_ ?_
   rotate_left
   ·(intro w h;(try dsimp only at h);go_simp) <;> with_reducible rfl
   simp only [tkp]
   refine tk 11 (.s5 (.s5 (.succ .zero))) (v:=?_) ?_ ?_
   rotate_left
   ·(intro w h;(try dsimp only at h);go_simp) <;> with_reducible rfl
   simp only [tkp]
   refine tk 12 (.s5 (.s5 (.succ (.succ .zero)))) (v:=?_) ?_ ?_
   rotate_left
   ·(intro w h;(try dsimp only at h);go_simp) <;> with_reducible rfl
   simp only [tkp]
   refine tk1 13 (.s5 (.s5 (.succ (.succ (.succ .zero))))) (fun K hK=>?_)
   go_simp
   refine hK.out _ _ ?_ (fun hG=>?_)
   ·(intro hne;exact absurd rfl hne)
   clear hK K hG
   refine wpLate_done (by kernel_rfl) ?_ _
   have HB:Hid (Below w.heap.size w W1.drew/\Bx W1.drew w.heap.size 34 #[.int .i64 0,.int .i64 0,.int .i64 0,.int .i64 0]):=⟨QI.out.bel.drew,QI.out.rb.drew⟩
   clear hHeld
   go_wp2
   refine bodyPost_ret (v:=.agg #[.int .i64 q0,.int .i64 q1,.int .i64 q2,.int .i64 q3]) (by simp [results,Tryz.results59,go_sem,z0,z1,z2,z3]) rfl ⟨by rw [HV.out],?_⟩
   exact (((HB.out.1.setCell (by simp) _).setCell (by simp) _).setCell (by simp) _).setCell (by simp) _
end Go.Proofs.YtcnollkkigiobaaGreat
