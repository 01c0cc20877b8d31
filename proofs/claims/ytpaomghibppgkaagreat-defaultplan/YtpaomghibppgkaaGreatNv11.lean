import Derived.Test.YtpaomghibppgkaaGreatNv6
import Derived.Test.YtpaomghibppgkaaGreatNv7
import Derived.Test.YtpaomghibppgkaaGreatNv8
import Derived.Test.YtpaomghibppgkaaGreatNv4
import Derived.Test.YtpaomghibppgkaaGreatNv1
import Derived.Test.YtpaomghibppgkaaGreatNv10
import Derived.Test.YtpaomghibppgkaaGreatNv3
set_option linter.unusedVariables false
set_option maxRecDepth 100000
namespace Go.Proofs.YtpaomghibppgkaaGreat
open Go.RowKit Go.Deep

def RdIx (w:World) (a:Option Addr) (n:Nat) (M:Nat->Nat) (T:Nat->Nat->Tn):Prop:=
 n=0\/∃b o,a=some ⟨b,o,none⟩/\∀i,i<n->∃ai ci,w.cell? ⟨b,o+i,none⟩=some (.slice ai (M i) ci)/\RdTn w ai (M i) (T i)
theorem RdIx.below {w w' : World} {a:Option Addr} {n:Nat} {M:Nat->Nat} {T:Nat->Nat->Tn} (h:RdIx w a n M T) (hb:Below w.heap.size w w'):RdIx w' a n M T:=by
 rcases h with h|⟨b,o,rfl,hc⟩
 ·exact Or.inl h
 ·refine Or.inr ⟨b,o,rfl,fun i hi=>?_⟩
  obtain ⟨ai,ci,h0,h1⟩:=hc i hi
  exact ⟨ai,ci,by rw [hb.cell (World.block_lt_of_cell? _ _ h0)];exact h0,h1.below hb⟩
def IxFit (n:Nat) (M:Nat->Nat) (T:Nat->Nat->Tn):Prop:=∀i,i<n->M i<=1048576/\∀j,j<M i->TnFit (T i j)
def sumI (M:Nat->Nat) (T:Nat->Nat->Tn):Nat->Nat
 | 0=>0
 | k+1=>sumI M T k+M k+sumT (T k) (M k)
theorem sumI_get (M:Nat->Nat) (T:Nat->Nat->Tn):∀(m i:Nat),i<m->M i+sumT (T i) (M i)<=sumI M T m
 | 0,i,h=>absurd h (Nat.not_lt_zero _)
 | m+1,i,h=>by
  have e:sumI M T (m+1)=sumI M T m+M m+sumT (T m) (M m):=rfl
  by_cases e2:i=m
  ·subst e2;omega
  ·have:=sumI_get M T m i (by omega)
   omega
theorem ixFit_of {n:Nat} {M:Nat->Nat} {T:Nat->Nat->Tn} (h:n+sumI M T n<=1048576):IxFit n M T:=fun i hi=>by
 have q:=sumI_get M T n i hi
 refine ⟨by omega,fun j hj=>?_⟩
 have:=sumT_get (T i) (M i) j hj
 exact ⟨by omega,by omega⟩

set_option maxHeartbeats 1000000 in
theorem szTree_left (a:Option Addr) (m c:Nat) (N:Nat->Tn) (l:Int) (w:World) (h:RdTn w a m N) (hm:m<=maxLen) (hN:∀i,i<m->TnBig (N i)) (h0:0<=l) (h1:l<=1048576) :
  Calls Tryz.prog 45 #[.agg #[.slice a m c],.int .i64 l] w fun e w'=>∃r:Int,e=.returned (.int .i64 r)/\(r=-1\/(0<=r/\r+(m:Int)+(sumT N m:Int)<=l))/\Below w.heap.size w w':=by
 have HR:Hid (RdTn w a m N/\∀i,i<m->TnBig (N i)):=⟨h,hN⟩
 clear h hN
 go_enter Tryz.func45,Tryz.ntmps45
 go_wp2_with fail
 refine (szTNodeS_sum a m c N l _ (HR.out.1.below (below_alloc _ _)) hm HR.out.2 h0 h1).mono ?_
 rintro e w1 ⟨r,rfl,hr,hb1⟩
 have H1:Hid (Below w.heap.size w w1):=(below_alloc _ _).trans (hb1.mono (by simp))
 clear hb1
 rcases hr with rfl|⟨hr0,hr1⟩
 ·go_wp2
  go_ret
  exact ⟨-1,rfl,Or.inl rfl,H1.out⟩
 ·have hr2:¬ r<0:=by omega
  have HF:Hid (r+(m:Int)+(sumT N m:Int)<=l):=hr1
  clear hr1
  go_wp2
  go_ret
  exact ⟨r,rfl,Or.inr ⟨hr0,HF.out⟩,H1.out⟩

set_option maxHeartbeats 1000000 in
theorem szTreeS_sum (a:Option Addr) (m c:Nat) (M:Nat->Nat) (T:Nat->Nat->Tn) (l:Int) (w:World) (h:RdIx w a m M T) (hm:m<=maxLen) (hN:∀i,i<m->M i<=maxLen/\∀j,j<M i->TnBig (T i j)) (h0:0<=l) (h1:l<=1048576) :
  Calls Tryz.prog 23 #[.slice a m c,.int .i64 l] w fun e w'=>∃r:Int,e=.returned (.int .i64 r)/\(r=-1\/(0<=r/\r+(m:Int)+(sumI M T m:Int)<=l))/\Below w.heap.size w w':=by
 unfold maxLen at hm
 by_cases hneg:l-(m:Int)<0
 ·go_enter Tryz.func23,Tryz.ntmps23
  go_wp2
  go_ret
  exact ⟨-1,rfl,Or.inl rfl,Below.refl _ _⟩
 ·go_enter Tryz.func23,Tryz.ntmps23
  go_wp2
  go_loopw [1,5] (fun q i wr=>∃(k:Nat) (l' : Int),k<=m/\i=.int .i64 k/\q=.int .i64 l'/\0<=l'/\l'+(sumI M T k:Int)<=l-(m:Int)/\Below w.heap.size w wr) (fun _ i _=>m-(intOf i).toNat)
  case atStart=>exact ⟨0,_,Nat.zero_le _,rfl,rfl,by omega,by simp [sumI],Below.refl _ _⟩
  case round=>
   obtain ⟨k,l',hk,rfl,rfl,hl0,hl1,hbel⟩:=hrel
   by_cases hlt:k<m
   ·have hne:¬ m=0:=by omega
    have h':=h.below hbel
    have HB:Hid (Below w.heap.size w wr):=hbel
    have hsz:=hbel.size
    rcases h' with h' | ⟨b,o,rfl,hc⟩
    ·exact absurd h' hne
    obtain ⟨ai,ci,c0,c4⟩:=hc k hlt
    have HK:Hid (RdTn wr ai (M k) (T k)):=c4
    have HL:Hid (M k<=maxLen/\∀j,j<M k->TnBig (T k j)):=hN k hlt
    clear hc hN hbel h c4
    go_wp2_with fail
    refine (szTree_left ai (M k) ci (T k) l' _ HK.out HL.out.1 HL.out.2 hl0 (by omega)).mono ?_
    rintro e w1 ⟨r,rfl,hr,hb1⟩
    have HB1:Hid (Below w.heap.size w w1):=HB.out.trans (hb1.mono hsz)
    clear hb1
    rcases hr with rfl|⟨hr0,hr1⟩
    ·go_wp2
     go_ret
     exact ⟨-1,rfl,Or.inl rfl,HB1.out⟩
    ·have hr2:¬ r<0:=by omega
     have HN2:Hid (r+(sumI M T (k+1):Int)<=l-(m:Int)):=by
      show r+(sumI M T (k+1):Int)<=l-(m:Int)
      have:sumI M T (k+1)=sumI M T k+M k+sumT (T k) (M k):=rfl
      omega
     go_wp2
     go_roundw
     case rel=>exact ⟨k+1,r,by omega,by go_num,rfl,hr0,HN2.out,HB1.out⟩
     case measure=>simp [intOf];omega
   ·have e:k=m:=by omega
    subst e
    go_wp2
    go_ret
    exact ⟨l',rfl,Or.inr ⟨hl0,by omega⟩,hbel⟩

set_option maxHeartbeats 2000000 in
theorem eqTreeS_yes (a b:Option Addr) (m ca cb:Nat) (M:Nat->Nat) (T:Nat->Nat->Tn) (w:World) (ha:RdIx w a m M T) (hb:RdIx w b m M T) (hm:m<=1048576) (hN:IxFit m M T) :
  Calls Tryz.prog 39 #[.slice a m ca,.slice b m cb] w fun e w'=>e=.returned (.bool true)/\Below w.heap.size w w':=by
 have hll:((m:Int) != (m:Int))=false:=by simp
 go_enter Tryz.func39,Tryz.ntmps39
 go_wp2
 go_loopw [5] (fun i wr=>∃k:Nat,k<=m/\i=.int .i64 k/\Below w.heap.size w wr) (fun i _=>m-(intOf i).toNat)
 case atStart=>exact ⟨0,Nat.zero_le _,rfl,Below.refl _ _⟩
 case round=>
  obtain ⟨k,hk,rfl,hbel⟩:=hrel
  by_cases hlt:k<m
  ·have hne:¬ m=0:=by omega
   have ha':=ha.below hbel
   have hb':=hb.below hbel
   rcases ha' with h|⟨ba,oa,rfl,hca⟩
   ·exact absurd h hne
   rcases hb' with h|⟨bb,ob,rfl,hcb⟩
   ·exact absurd h hne
   obtain ⟨ai,ci,c0,c4⟩:=hca k hlt
   obtain ⟨bi,di,g0,g4⟩:=hcb k hlt
   have HL:=hN k hlt
   clear hca hcb ha hb hN
   have hsz:=hbel.size
   have HB:Hid (Below w.heap.size w wr):=hbel
   clear hbel
   go_wp2
   go_region_with (go_at_call 81;refine (eqTree_yes ai bi (M k) ci di (T k) _ (by exact c4) (by exact g4) HL.1 HL.2).mono ?_;rintro e w2 ⟨rfl,hb2⟩)
   all_goals
    have HX:Hid (Below w.heap.size w w2):=(HB.out.drew).trans (hb2.mono (by simpa using hsz))
    clear hb2 c0 c4 g0 g4
    go_wp2
    go_roundw
    case rel=>exact ⟨k+1,by omega,by go_num,HX.out⟩
    case measure=>simp [intOf];omega
  ·have e:k=m:=by omega
   subst e
   go_wp2
   go_ret
   exact ⟨rfl,hbel⟩
set_option maxHeartbeats 400000 in
theorem eqIndex_yes (a b:Option Addr) (m ca cb:Nat) (M:Nat->Nat) (T:Nat->Nat->Tn) (w:World) (ha:RdIx w a m M T) (hb:RdIx w b m M T) (hm:m<=1048576) (hN:IxFit m M T) :
  Calls Tryz.prog 15 #[.agg #[.slice a m ca],.agg #[.slice b m cb]] w fun e w'=>e=.returned (.bool true)/\Below w.heap.size w w':=by
 have HR:Hid (RdIx w a m M T/\RdIx w b m M T/\IxFit m M T):=⟨ha,hb,hN⟩
 clear ha hb hN
 go_enter Tryz.func15,Tryz.ntmps15
 go_wp2_with fail
 have hbel:∀o1 o2,Below w.heap.size w ((w.alloc o1).alloc o2):=fun o1 o2=>((Below.refl _ _).alloc (Nat.le_refl _) o1).alloc (by simp) o2
 refine (eqTreeS_yes a b m ca cb M T _ (HR.out.1.below (hbel _ _)) (HR.out.2.1.below (hbel _ _)) hm HR.out.2.2).mono ?_
 rintro e w1 ⟨rfl,hb1⟩
 have H1:Hid (Below w.heap.size w w1):=(hbel _ _).trans (hb1.mono (by simp;omega))
 clear hb1
 go_wp2
 go_ret
 exact ⟨rfl,H1.out⟩

theorem OwnTn.setO {W:World} {B g m:Nat} {N:Nat->Tn} {KA DA:Nat->Option Addr} {KC DC:Nat->Nat} (q:OwnTn W B g m N KA DA KC DC) {p:Addr} (hp:p.block<B) (v:Value):OwnTn (W.setCell p v) B g m N KA DA KC DC:=by
 have hle:=q.le
 refine ⟨q.le,q.row.setOther (by omega) _,fun i hi=>(q.keys i hi).setOther hp _,fun i hi=>?_,q.apartK,q.apartD⟩
 rcases q.kids i hi with h0|⟨g,hA,hg,hr⟩
 ·exact Or.inl h0
 ·exact Or.inr ⟨g,hA,hg,hr.setOther (by omega) _⟩
def OwnIx (w:World) (B g n k:Nat) (M:Nat->Nat) (T:Nat->Nat->Tn):Prop:=
 g<B/\∃cur:Array Value,w.heap[g]?=some (.cells cur 68 (0,0))/\cur.size=n/\∀i,i<k->∃gi KA DA KC DC,cur[i]?=some (.slice (some ⟨gi,0,none⟩) (M i) (M i))/\OwnTn w B gi (M i) (T i) KA DA KC DC
theorem OwnIx.rd {w:World} {B g n:Nat} {M:Nat->Nat} {T:Nat->Nat->Tn} (h:OwnIx w B g n n M T):RdIx w (some ⟨g,0,none⟩) n M T:=by
 obtain ⟨_,cur,h1,h2,h3⟩:=h
 refine .inr ⟨g,0,rfl,fun i hi=>?_⟩
 obtain ⟨gi,KA,DA,KC,DC,q1,q2⟩:=h3 i hi
 exact ⟨some ⟨gi,0,none⟩,M i,by rw [Nat.zero_add,Bx.cell (show Bx w g 68 cur from h1) i];exact q1,q2.rd⟩

def VPth (n:Nat) (I:Nat->Int) (X R:Nat->ByteArray):Prop:=
 (1<=n/\n<=100)/\(∀i,i<n->gnB (I i) (X i) (R i)=true)/\Begins (fun i=>arOf (I i)) n 0/\htF 100 (fun i=>arOf (I i)) n<=64

theorem AnsM.no {w w' : World} {P:Prop} (h:¬ P) (hb:Below w.heap.size w w'):AnsM w P (.returned (.bool false)) w':=⟨false,rfl,⟨(fun e=>by cases e),fun e=>absurd e h⟩,hb⟩
theorem AnsM.yes {w w' : World} {P:Prop} (h:P) (hb:Below w.heap.size w w'):AnsM w P (.returned (.bool true)) w':=⟨true,rfl,⟨fun _=>h,fun _=>rfl⟩,hb⟩

set_option maxHeartbeats 2000000 in
theorem specVP (a:Option Addr) (n c:Nat) (I:Nat->Int) (X R:Nat->ByteArray) (w:World) (h:RdN w a n I X R) (hn:n<=1048576) (hc:n<=c) (hcm:c<=9223372036854775807) :
  Calls Tryz.prog 24 #[.agg #[.slice a n c]] w (AnsM w (VPth n I X R)):=by
 have HR:Hid (RdN w a n I X R):=h
 clear h
 by_cases h1:n<1
 ·have i1:(n:Int)<1:=by omega
  have i1' : decide ((n:Int)<1)=true:=decide_eq_true i1
  have HN:Hid (¬ VPth n I X R):=fun h=>by have:=h.1;omega
  go_enter Tryz.func24,Tryz.ntmps24
  go_wp2
  go_ret
  exact AnsM.no HN.out (below_alloc _ _)
 ·have i1:¬ (n:Int)<1:=by omega
  have i1' : decide ((n:Int)<1)=false:=decide_eq_false i1
  by_cases h2:100<n
  ·have i2:(100:Int)<(n:Int):=by omega
   have i2' : decide ((100:Int)<(n:Int))=true:=decide_eq_true i2
   have HN:Hid (¬ VPth n I X R):=fun h=>by have:=h.1;omega
   go_enter Tryz.func24,Tryz.ntmps24
   go_wp2
   go_ret
   exact AnsM.no HN.out (below_alloc _ _)
  ·have i2:¬ (100:Int)<(n:Int):=by omega
   have i2' : decide ((100:Int)<(n:Int))=false:=decide_eq_false i2
   obtain ⟨b,o,hcell⟩:∃b o,a=some ⟨b,o,none⟩:=by
    rcases HR.out with h|⟨b,o,e,_⟩
    ·omega
    ·exact ⟨b,o,e⟩
   subst hcell
   have HC:Hid (∀W:World,Below w.heap.size w W->∀i,i<n->W.cell? ⟨b,o+i*3,none⟩=some (.int .i64 (I i))/\W.cell? ⟨b,o+i*3+1,none⟩=some (.string (X i))/\W.cell? ⟨b,o+i*3+2,none⟩=some (.string (R i))):=by
    intro W hW i hi
    rcases HR.out.below hW with h|⟨b',o',e,hcc⟩
    ·omega
    ·injection e with e
     injection e with e1 e2
     subst e1 e2
     exact hcc i hi
   go_enter Tryz.func24,Tryz.ntmps24
   go_wp2
   go_loopw [3] (fun i wr=>∃k:Nat,k<=n/\i=.int .i64 k/\(∀j,j<k->gnB (I j) (X j) (R j)=true)/\Below (w.heap.size+1) (w.alloc (.cells #[.slice (some ⟨b,o,none⟩) n c] 38)) wr) (fun i _=>n-(intOf i).toNat)
   case atStart=>exact ⟨0,Nat.zero_le _,rfl,fun j hj=>absurd hj (Nat.not_lt_zero _),Below.refl _ _⟩
   case round=>
    obtain ⟨k,hk,rfl,hg,hb⟩:=hrel
    have HG:Hid (∀j,j<k->gnB (I j) (X j) (R j)=true):=hg
    have HB:Hid (Below (w.heap.size+1) (w.alloc (.cells #[.slice (some ⟨b,o,none⟩) n c] 38)) wr):=hb
    have HBW:Hid (Below w.heap.size w wr):=(below_alloc _ _).trans (hb.mono (by omega))
    obtain ⟨x0,xz⟩:=pboxP hb
    clear hg hb
    by_cases hlt:k<n
    ·obtain ⟨c0,c1,c2⟩:=HC.out wr HBW.out k hlt
     have ik:(k:Int)<(n:Int):=by omega
     have ik0:(0:Int)<=(k:Int):=by omega
     go_wp2_with fail
     refine (l6GoodNode_any (I k) (X k) (R k) wr).mono ?_
     rintro e w2 ⟨he,hb2⟩
     have HB2:Hid (Below (w.heap.size+1) (w.alloc (.cells #[.slice (some ⟨b,o,none⟩) n c] 38)) w2):=HB.out.trans (hb2.mono (by omega))
     clear hb2 c0 c1 c2 x0
     cases hgk:gnB (I k) (X k) (R k) with
     | false=>
      rw [hgk] at he
      subst he
      have HN:Hid (¬ VPth n I X R):=fun h=>by have:=h.2.1 k hlt;rw [hgk] at this;cases this
      have HZ:Hid (Below w.heap.size w w2):=(below_alloc _ _).trans (HB2.out.mono (by omega))
      go_wp2
      go_ret
      exact AnsM.no HN.out HZ.out
     | true=>
      rw [hgk] at he
      subst he
      have HG2:Hid (∀j,j<k+1->gnB (I j) (X j) (R j)=true):=fun j hj=>by
       by_cases e:j=k
       ·subst e;exact hgk
       ·exact HG.out j (by omega)
      obtain ⟨x0,xz2⟩:=pboxP HB2.out
      go_wp2
      go_roundw
      case rel=>exact ⟨k+1,by omega,by go_num,HG2.out,HB2.out⟩
      case measure=>simp [intOf];omega
    ·have e:k=n:=by omega
     subst e
     obtain ⟨m,rfl⟩:∃m,k=m+1:=⟨k-1,by omega⟩
     go_wp2_with fail
     refine (l6From_any (some ⟨b,o,none⟩) (m+1) c I X R wr (HR.out.below HBW.out) (by omega)).mono ?_
     rintro e w2 ⟨hw2,hfr⟩
     subst hw2
     by_cases hbg:Begins (fun i=>arOf (I i)) (m+1) 0
     ·have he:e=.returned (.int .i64 0):=by
       rcases hfr with ⟨s',h1,h2⟩|⟨h1,_⟩
       ·rw [h1.uniq hbg] at h2;exact h2
       ·exact absurd ⟨0,hbg⟩ h1
      subst he
      clear hfr
      go_wp2_with fail
      refine (l6Height_any 100 b o m c I X R w2 (HR.out.below HBW.out) (by omega) (by omega) (by omega) hcm hbg).mono ?_
      rintro e w3 ⟨rfl,hb3⟩
      have HZ:Hid (Below w.heap.size w w3):=HBW.out.trans (hb3.mono HBW.out.size)
      have HBG:Hid (Begins (fun i=>arOf (I i)) (m+1) 0):=hbg
      obtain ⟨Ht,hHt⟩:∃Ht,Ht=htF 100 (fun i=>arOf (I i)) (m+1):=⟨_,rfl⟩
      have HHT:Hid (Ht=htF 100 (fun i=>arOf (I i)) (m+1)):=hHt
      rw [<- hHt]
      clear hb3 hbg hHt
      by_cases h64:Ht<=64
      ·have i64:((Ht:Nat):Int)<=64:=by omega
       have i64' : decide (((Ht:Nat):Int)<=64)=true:=decide_eq_true i64
       go_wp2
       go_ret
       exact AnsM.yes ⟨⟨by omega,by omega⟩,HG.out,HBG.out,by rw [<- HHT.out];exact h64⟩ HZ.out
      ·have i64:¬ ((Ht:Nat):Int)<=64:=by omega
       have i64' : decide (((Ht:Nat):Int)<=64)=false:=decide_eq_false i64
       go_wp2
       go_ret
       exact AnsM.no (fun h=>h64 (by rw [HHT.out];exact h.2.2.2)) HZ.out
     ·have hne:∃s:Int,e=.returned (.int .i64 s)/\s≠0:=by
       rcases hfr with ⟨s',h1,h2⟩|⟨_,h2⟩
       ·refine ⟨s',h2,fun e0=>hbg ?_⟩
        have hs' : s'=0:=by omega
        rw [hs'] at h1
        exact h1
       ·exact ⟨-1,h2,by decide⟩
      obtain ⟨s,rfl,hs0⟩:=hne
      have hs1:(s == 0)=false:=by simp;exact hs0
      have HN:Hid (¬ VPth (m+1) I X R):=fun h=>hbg h.2.2.1
      clear hfr hbg
      go_wp2
      go_ret
      exact AnsM.no HN.out HBW.out

theorem Tryz.info68 : (Tryz.prog.info? 68).map (fun i=>(i.zero,i.size,i.bytes))=some (some (.agg #[.slice none 0 0]),1,24):=by kernel_rfl

theorem OwnTn.und {w w' : World} {B g n:Nat} {N:Nat->Tn} {KA DA:Nat->Option Addr} {KC DC:Nat->Nat} (h:OwnTn w B g n N KA DA KC DC) (hb:Below w.heap.size w w'):OwnTn w' B g n N KA DA KC DC:=
 ⟨h.le,h.row.of_block (hb.block g h.row.lt),fun i hi=>(h.keys i hi).below hb,fun i hi=>(h.kids i hi).below hb,h.apartK,h.apartD⟩

theorem OwnIx.put {w w1:World} {B g n k:Nat} {M:Nat->Nat} {T:Nat->Nat->Tn} (h:OwnIx w B g n k M T) (hB:B<=w.heap.size) (hk:k<n) (hb:Below w.heap.size w w1) {gk:Nat} {KA DA:Nat->Option Addr} {KC DC:Nat->Nat} (ho:OwnTn w1 w.heap.size gk (M k) (T k) KA DA KC DC):OwnIx (w1.setCell ⟨g,k,none⟩ (.slice (some ⟨gk,0,none⟩) (M k) (M k))) B g n (k+1) M T:=by
 obtain ⟨hg,cur,h1,h2,h3⟩:=h
 have h1' : Bx w1 g 68 cur:=(show Bx w g 68 cur from h1).below hb
 have hs:=h1'.set k (.slice (some ⟨gk,0,none⟩) (M k) (M k))
 refine ⟨hg,_,hs,by simpa using h2,fun i hi=>?_⟩
 by_cases e:i=k
 ·subst e
  refine ⟨gk,KA,DA,KC,DC,by simp [h2,hk],?_⟩
  have q:=ho.setO (p:=⟨g,i,none⟩) (by show g<w.heap.size;omega) (.slice (some ⟨gk,0,none⟩) (M i) (M i))
  have hle:=q.le
  exact ⟨by omega,q.row,fun j hj=>(q.keys j hj).mono (by omega),fun j hj=>(q.kids j hj).mono (by omega),q.apartK,q.apartD⟩
 ·obtain ⟨gi,KA',DA',KC',DC',q1,q2⟩:=h3 i (by omega)
  refine ⟨gi,KA',DA',KC',DC',?_,(q2.und hb).setO (p:=⟨g,k,none⟩) hg _⟩
  rw [Array.getElem?_setIfInBounds_ne (by omega)]
  exact q1
theorem OwnIx.setO {w:World} {B g n:Nat} {M:Nat->Nat} {T:Nat->Nat->Tn} (h:OwnIx w B g n n M T) {p:Addr} (hp:p.block<g) (v:Value):OwnIx (w.setCell p v) B g n n M T:=by
 obtain ⟨hg,cur,h1,h2,h3⟩:=h
 refine ⟨hg,cur,by rw [Below.heap_setCell _ _ _ _ (show g≠p.block by omega)];exact h1,h2,fun i hi=>?_⟩
 obtain ⟨gi,KA',DA',KC',DC',q1,q2⟩:=h3 i hi
 exact ⟨gi,KA',DA',KC',DC',q1,q2.setO (by omega) _⟩

section
open Go.ChangeShapes Go.WideShapes Go.ChangeAt Go.Joins
variable {H:Type} {enc:TypeId × Value->H} {W:World}
set_option maxRecDepth 100000 in
theorem trees_of {fuel:Nat} {cs:List Value} {x:DataW H × List MemPlace} (h:DataW.trod enc Tryz.prog W 0 (fun _=>true) true fuel 28 cs=some x) :
  ∃a n c M T,cs=[.slice a n c]/\RdIx W a n M T/\(∀i,i<n->M i<=maxLen/\∀j,j<M i->TnBig (T i j))/\n<=maxLen:=by
 rcases open_slice (P:=Tryz.prog) (t:=28) (e:=107) (by kernel_rfl) h with ⟨hcs,_⟩|⟨a,len,cap,m,fu,D,Pl,hcs,_,hl,hm,hmm,_,hx⟩
 ·exact ⟨none,0,0,fun _=>0,fun _ _=>⟨false,0,fun _=>{ data:=#[] },0,fun _=>0,0⟩,hcs,Or.inl rfl,fun i hi=>absurd hi (Nat.not_lt_zero _),Nat.zero_le _⟩
 ·have hlm:len<=m:=by rw [hmm];split <;> omega
  have each:∀i,i<len->∃q:Nat × (Nat->Tn) × Option Addr × Nat,W.cell? (a.add i)=some (.slice q.2.2.1 q.1 q.2.2.2)/\RdTn W q.2.2.1 q.1 q.2.1/\q.1<=maxLen/\∀j,j<q.1->TnBig (q.2.1 j):=by
   intro i hi
   obtain ⟨cs',h1,h2⟩:=hx i (by omega)
   rw [show Tryz.prog.cellsOf 107=1 by kernel_rfl] at h1
   obtain ⟨_,hlen,hcell⟩:=World.cells?_some h1
   obtain ⟨xs,k,hk,hxy,_,hxl,hf⟩:=DataW.trod_struct (P:=Tryz.prog) Tryz.underlying107 h2
   have g0:=hf 0 _ rfl
   rw [show Tryz.prog.cellsOf _=1 by kernel_rfl] at g0
   match xs,hxl,cs',hlen with
   | [y0],_,[v0],_=>
    simp at g0
    obtain ⟨ai,n',c',N,e1,hr,hX,hn⟩:=tnodes_of g0
    simp at e1
    subst e1
    have c0:=hcell 0 (by omega)
    rw [Addr.add_add] at c0
    exact ⟨(n',N,ai,c'),by simpa using c0,hr,hn,hX⟩
  haveI:Inhabited (Nat × (Nat->Tn) × Option Addr × Nat):=⟨(0,fun _=>⟨false,0,fun _=>{ data:=#[] },0,fun _=>0,0⟩,none,0)⟩
  obtain ⟨q,hq⟩:=choose_lt each
  refine ⟨some a,len,cap,fun i=>(q i).1,fun i=>(q i).2.1,hcs,?_,fun i hi=>(hq i hi).2.2,by omega⟩
  by_cases h0:len=0
  ·exact Or.inl h0
  ·obtain ⟨b,off,spot⟩:=a
   have hs:=spotT_of (a:=⟨b,off,spot⟩) (by simpa using (hq 0 (by omega)).1)
   simp at hs
   subst hs
   refine Or.inr ⟨b,off,rfl,fun i hi=>?_⟩
   obtain ⟨k0,k1,_⟩:=hq i hi
   rw [addT_eq] at k0
   exact ⟨_,_,k0,k1⟩
def IsIndex (w:World) (v:Value):Prop:=
 ∃a n c M T,v=.agg #[.slice a n c]/\RdIx w a n M T/\(∀i,i<n->M i<=maxLen/\∀j,j<M i->TnBig (T i j))/\n<=maxLen
set_option maxRecDepth 100000 in
theorem openIndex {r:Reach} {b0:Nat} {v:Value} {d:DataW H} {p:List MemPlace} (hv:Value.okWide Tryz.prog W r b0 30 v) (h:DataW.Trod enc Tryz.prog W 0 (fun _=>true) true 30 v d p):IsIndex W v:=by
 obtain ⟨cs,rfl,hsz⟩:=okWide_struct (P:=Tryz.prog) Tryz.underlying30 hv
 have h1:cs.size=1:=hsz.trans (by kernel_rfl)
 obtain ⟨l⟩:=cs
 match l,h1 with
 | [c0],_=>
  obtain ⟨fuel,hf⟩:=h
  obtain ⟨xs,k,hk,hxy,_,hxl,hff⟩:=DataW.trod_struct (P:=Tryz.prog) Tryz.underlying30 hf
  have g0:=hff 0 _ rfl
  rw [show Tryz.prog.cellsOf _=1 by kernel_rfl] at g0
  match xs,hxl with
  | [y0],_=>
   simp [Value.cells] at g0
   obtain ⟨a,n',c,M,T,e1,hr,hX,hn⟩:=trees_of g0
   simp at e1
   subst e1
   exact ⟨a,n',c,M,T,rfl,hr,hX,hn⟩
end
end Go.Proofs.YtpaomghibppgkaaGreat
