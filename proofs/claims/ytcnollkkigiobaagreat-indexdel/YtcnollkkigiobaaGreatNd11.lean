import Derived.Test.YtcnollkkigiobaaGreatNd8
import Derived.Deep.RegionWith
import Derived.Test.YtcnollkkigiobaaGreatNd1
import Derived.Test.YtcnollkkigiobaaGreatNd3
import Derived.Test.YtcnollkkigiobaaGreatNd9
import Derived.Deep.RegionHeld3
set_option linter.unusedVariables false
set_option maxRecDepth 100000
namespace Go.Proofs.YtcnollkkigiobaaGreat
open Go.RowKit Go.Deep

theorem TAt.count {S:Nat->Prop} {w:World}:∀{d:Nat} {t:Ro d} {v:Value},TAt S w d t v->∃b,S b/\b<w.heap.size/\w.cell? ⟨b,0,none⟩=some (.int .i64 ((keysR d t).length:Int))/\(v=.iface 204 (.pointer (some ⟨b,0,none⟩))\/v=.iface 174 (.pointer (some ⟨b,0,none⟩)))
 | 0,_,_,h=>h.elim
 | d+1,.inl t,v,h=>by
  obtain ⟨b,ka,kc,rfl,hb,hx,hr⟩:=h
  exact ⟨b,hb,hx.lt,by rw [hx.cell 0];rfl,Or.inl rfl⟩
 | d+1,.inr l,v,h=>by
  obtain ⟨b,g,kc,xs,rfl,hb,hx,_⟩:=h
  exact ⟨b,hb,hx.lt,by rw [hx.cell 0];rfl,Or.inr rfl⟩

theorem flat_len_take {d:Nat} (l:List (Ro d)) (k:Nat) (h:k<l.length):((l.take (k+1)).flatMap (keysR d)).length=((l.take k).flatMap (keysR d)).length+(keysR d l[k]).length:=by
 rw [flat_take (keysR d) l k h,List.length_append]

set_option maxHeartbeats 4000000 in
theorem recountInner_any (d b g ln kc:Nat) (l:List (Ro d)) (x:Int) (S:Nat->Prop) (xs:List Value) (w:World) (h:Bx w b 179 #[.int .i64 x,.slice (some ⟨g,0,none⟩) ln kc]) (hln:ln=l.length) (hl5:ln<=5000) (hlen:(l.flatMap (keysR d)).length<=1099511627776)
  (hc:∀j u,xs[j]?=some u->w.cell? ⟨g,j,none⟩=some u) (hg:g≠b) (hS:¬ S b) (hk:∀k (h:k<l.length),∃u,xs[k]?=some u/\TAt S w d l[k] u) :
  Calls Tryz.prog 118 #[.pointer (some ⟨b,0,none⟩)] w fun e w'=>e=.returned (.tuple #[])/\w.grownBy w' (some b)/\w'.heap.size=w.heap.size/\Bx w' b 179 #[.int .i64 ((l.flatMap (keysR d)).length:Int),.slice (some ⟨g,0,none⟩) ln kc]:=by
 have HK:Hid (∀W:World,w.grownBy W (some b)->∀k (h:k<l.length),∃u bb,W.cell? ⟨g,k,none⟩=some u/\bb≠b/\W.cell? ⟨bb,0,none⟩=some (.int .i64 ((keysR d l[k]).length:Int))/\(u=.iface 204 (.pointer (some ⟨bb,0,none⟩))\/u=.iface 174 (.pointer (some ⟨bb,0,none⟩)))):=by
  intro W hW k hkl
  obtain ⟨u,hu,ht⟩:=hk k hkl
  obtain ⟨bb,hb1,hb2,hb3,hb4⟩:=ht.count
  have hne:bb≠b:=fun e=>hS (e ▸ hb1)
  exact ⟨u,bb,hW.cell (hc k u hu) (fun e=>by injection e with e;exact hg e),hne,hW.cell hb3 (fun e=>by injection e with e;exact hne e),hb4⟩
 have HLn:Hid (ln=l.length/\(l.flatMap (keysR d)).length<=1099511627776):=⟨hln,hlen⟩
 have c1:=h.cell 1
 have c0:=h.cell 0
 have f0:=h.frozen 0
 have hlt:=h.lt
 simp at c0 c1
 have H0:Hid (w.grownBy (w.setCell ⟨b,0,none⟩ (.int .i64 0)) (some b)/\Bx (w.setCell ⟨b,0,none⟩ (.int .i64 0)) b 179 #[.int .i64 0,.slice (some ⟨g,0,none⟩) ln kc]):=by
  refine ⟨⟨rfl,rfl,rfl,by simp [World.setCell],fun k hk hne=>Below.heap_setCell _ _ _ _ (fun e=>hne (by rw [e]))⟩,h.set 0 _⟩
 clear h hc hk hln hlen
 go_enter Tryz.func118,Tryz.ntmps118
 go_wp2
 go_loopw [13] (fun i wr=>∃k:Nat,k<=ln/\i=.int .i64 k/\w.grownBy wr (some b)/\wr.heap.size=w.heap.size/\Bx wr b 179 #[.int .i64 (((l.take k).flatMap (keysR d)).length:Int),.slice (some ⟨g,0,none⟩) ln kc]) (fun i _=>ln-(intOf i).toNat)
 case atStart=>exact ⟨0,Nat.zero_le _,rfl,H0.out.1,by simp [World.setCell],by simpa using H0.out.2⟩
 case round=>
  obtain ⟨k,hkl,rfl,hgr,hsz,hbx⟩:=hrel
  clear H0 c0 c1 f0
  have HG:Hid (w.grownBy wr (some b)/\wr.heap.size=w.heap.size/\Bx wr b 179 #[.int .i64 (((l.take k).flatMap (keysR d)).length:Int),.slice (some ⟨g,0,none⟩) ln kc]):=⟨hgr,hsz,hbx⟩
  obtain ⟨A,hA⟩:∃A:Int,A=(((l.take k).flatMap (keysR d)).length:Int):=⟨_,rfl⟩
  rw [<- hA] at hbx
  have c0:=hbx.cell 0
  have f0:=hbx.frozen 0
  have hlt2:=hbx.lt
  simp at c0
  clear hgr hsz hbx
  by_cases hlt:k<ln
  ·have hlk:k<l.length:=by rw [<- HLn.out.1];exact hlt
   obtain ⟨u,bb,hu,hne,hcc,hform⟩:=HK.out wr HG.out.1 k hlk
   have e12:=flat_len_take l k hlk
   have hle:=flat_take_le (keysR d) l (k+1)
   have hL:=HLn.out.2
   obtain ⟨C,hC⟩:∃C:Int,C=((keysR d l[k]).length:Int):=⟨_,rfl⟩
   have hA0:0<=A/\A<=1099511627776:=by omega
   have hC0:0<=C/\C<=1099511627776:=by omega
   rw [<- hC] at hcc
   have HS:Hid ((((l.take (k+1)).flatMap (keysR d)).length:Int)=A+C):=by
    show (((l.take (k+1)).flatMap (keysR d)).length:Int)=A+C
    rw [e12,hA,hC]
    omega
   have HX:Hid (w.grownBy (wr.drew.setCell ⟨b,0,none⟩ (.int .i64 (A+C))) (some b)/\(wr.drew.setCell ⟨b,0,none⟩ (.int .i64 (A+C))).heap.size=w.heap.size/\Bx (wr.drew.setCell ⟨b,0,none⟩ (.int .i64 (A+C))) b 179 #[.int .i64 (((l.take (k+1)).flatMap (keysR d)).length:Int),.slice (some ⟨g,0,none⟩) ln kc]):=by
    obtain ⟨q1,q2,q3⟩:=HG.out
    have hs:(wr.drew.setCell ⟨b,0,none⟩ (.int .i64 (A+C))).heap.size=wr.heap.size:=Eq.trans (show (wr.drew.setCell ⟨b,0,none⟩ (.int .i64 (A+C))).heap.size=wr.drew.heap.size by simp [World.setCell]) rfl
    refine ⟨⟨q1.os,q1.tape,q1.output,by rw [hs];exact q1.size,fun k hk hne=>?_⟩,by rw [hs];exact q2,?_⟩
    ·rw [Below.heap_setCell _ _ _ _ (fun e=>hne (by rw [e]))]
     exact q1.block k hk hne
    ·rw [HS.out]
     exact q3.drew.set 0 _
   clear hA hC e12 hle hL
   rcases hform with rfl|rfl
   ·have HB:Hid (∀W:World,W.cell? ⟨bb,0,none⟩=some (.int .i64 C)->Calls Tryz.prog 157 #[.pointer (some ⟨bb,0,none⟩)] W fun e w'=>e=.returned (.int .i64 C)/\w'=W):=fun W hW=>below_any bb C W hW
    go_wp2
    go_region_with (go_at_call 157;refine (HB.out _ (by simpa using hcc)).mono ?_;rintro e w2 ⟨rfl,rfl⟩)
    all_goals
     go_wp2
     go_roundw
     case rel=>exact ⟨k+1,by omega,by go_num,HX.out⟩
     case measure=>simp [intOf];omega
   ·have HB:Hid (∀W:World,W.cell? ⟨bb,0,none⟩=some (.int .i64 C)->Calls Tryz.prog 157 #[.pointer (some ⟨bb,0,none⟩)] W fun e w'=>e=.returned (.int .i64 C)/\w'=W):=fun W hW=>below_any bb C W hW
    go_wp2
    go_region_with (go_at_call 157;refine (HB.out _ (by simpa using hcc)).mono ?_;rintro e w2 ⟨rfl,rfl⟩)
    all_goals
     go_wp2
     go_roundw
     case rel=>exact ⟨k+1,by omega,by go_num,HX.out⟩
     case measure=>simp [intOf];omega
  ·have e:k=ln:=by omega
   subst e
   have HE:Hid ((l.take k).flatMap (keysR d)=l.flatMap (keysR d)):=by
    show (l.take k).flatMap (keysR d)=l.flatMap (keysR d)
    rw [HLn.out.1,List.take_length]
   go_wp2
   go_end0
   refine ⟨rfl,HG.out.1,HG.out.2.1,?_⟩
   have q:=HG.out.2.2
   rw [HE.out] at q
   exact q

set_option maxHeartbeats 400000 in
theorem markTextI (x:Int) (k:Nat) (h:x=(k:Int)) (w:World) (hk:1<=k) (hk2:k<=1073741824) :
  Calls Tryz.prog 136 #[.int .i64 x] w fun e w'=>e=.returned (.string (mkT k))/\Below w.heap.size w w':=by
 subst h
 exact markText_any k w hk hk2

def OwnV (w:World) (t:TypeId) (a:Option Addr) (n:Nat) (f:Nat->Value):Prop:=n=0\/∃g,a=some ⟨g,0,none⟩/\rowIn w g t n f

set_option maxHeartbeats 2000000 in
theorem markStrs_any (a:Option Addr) (n c k:Nat) (X:Nat->ByteArray) (w:World) (h:OwnV w 9 a n (fun i=>.string (X i))) (hk:1<=k) (hk2:k+n<=1073741824) :
  Calls Tryz.prog 112 #[.slice a n c,.int .i64 (k:Int)] w fun e w'=>e=.returned (.int .i64 ((k+n:Nat):Int))/\w.grownBy w' (a.map (·.block))/\(n=0->w'=w)/\OwnV w' 9 a n (fun i=>.string (mkT (k+i))):=by
 by_cases hn0:n=0
 ·subst hn0
  go_enter Tryz.func112,Tryz.ntmps112
  go_wp2
  go_loopw [1,5] (fun q i wr=>q=.int .i64 (k:Int)/\i=.int .i64 0/\wr=w) (fun _ i _=>1-(intOf i).toNat)
  case atStart=>exact ⟨rfl,rfl,rfl⟩
  case round=>
   obtain ⟨rfl,rfl,rfl⟩:=hrel
   go_wp2
   go_ret
   exact ⟨by simp,grown_refl _ _,fun _=>rfl,.inl rfl⟩
 ·obtain ⟨g,rfl,hrow⟩:=h.resolve_left hn0
  have HR:Hid (rowIn w g 9 n (fun i=>.string (X i))):=hrow
  clear hrow h
  have HN0:Hid (¬ n=0):=hn0
  clear hn0
  go_enter Tryz.func112,Tryz.ntmps112
  go_wp2
  go_loopw [1,5] (fun q i wr=>∃j p:Nat,j<=n/\i=.int .i64 j/\q=.int .i64 p/\p=k+j/\w.grownBy wr (some g)/\rowIn wr g 9 n (fun i=>.string (if i<j then mkT (k+i) else X i))) (fun _ i _=>n-(intOf i).toNat)
  case atStart=>exact ⟨0,k,Nat.zero_le _,rfl,rfl,rfl,grown_refl _ _,HR.out.congr (fun i _=>by simp)⟩
  case round=>
   obtain ⟨j,p,hj,rfl,rfl,hp,hgr,hrow⟩:=hrel
   have HS:Hid (p=k+j/\w.grownBy wr (some g)/\rowIn wr g 9 n (fun i=>.string (if i<j then mkT (k+i) else X i))):=⟨hp,hgr,hrow⟩
   by_cases hlt:j<n
   ·have hpb:1<=p/\p<=1073741824:=by omega
    have i0:(0:Int)<=(j:Int):=by omega
    have i1:(j:Int)<(n:Int):=by omega
    clear hp hgr hrow HR
    go_wp2_with fail
    refine (markTextI _ p rfl wr hpb.1 hpb.2).mono ?_
    rintro e w1 ⟨rfl,hb1⟩
    have hrow1:=HS.out.2.2.of_block (hb1.block g HS.out.2.2.lt)
    have c1:=hrow1.cell hlt
    have f1:=hrow1.frozen j
    have l1:=hrow1.lt
    have HX:Hid (w.grownBy (w1.setCell ⟨g,j,none⟩ (.string (mkT p))) (some g)/\rowIn (w1.setCell ⟨g,j,none⟩ (.string (mkT p))) g 9 n (fun i=>.string (if i<j+1 then mkT (k+i) else X i))):=by
     refine ⟨grown_trans (grown_trans HS.out.2.1 (grown_below hb1)) (grown_set _ _ _ _),(hrow1.set j _).congr (fun i hi=>?_)⟩
     by_cases e:i=j
     ·subst e;simp [HS.out.1]
     ·by_cases e2:i<j
      ·have:i<j+1:=by omega
       simp [e,e2,this]
      ·have:¬ i<j+1:=by omega
       simp [e,e2,this]
    have HP:Hid (p+1=k+(j+1)):=by
     show p+1=k+(j+1)
     have:=HS.out.1
     omega
    clear hrow1 hb1 HS
    go_wp2
    go_roundw
    case rel=>exact ⟨j+1,p+1,by omega,by go_num,by go_num,HP.out,HX.out⟩
    case measure=>simp [intOf];omega
   ·have e:j=n:=by omega
    subst e
    clear hp hgr hrow
    go_wp2
    go_ret
    exact ⟨by rw [HS.out.1];rfl,HS.out.2.1,fun h=>absurd h HN0.out,.inr ⟨g,rfl,HS.out.2.2.congr (fun i hi=>by simp [hi])⟩⟩

set_option maxHeartbeats 2000000 in
theorem markInts_any (a:Option Addr) (n c k:Nat) (X:Nat->Int) (w:World) (h:OwnV w 2 a n (fun i=>.int .i64 (X i))) (hk:1<=k) (hk2:k+n<=1073741824) :
  Calls Tryz.prog 113 #[.slice a n c,.int .i64 (k:Int)] w fun e w'=>e=.returned (.int .i64 ((k+n:Nat):Int))/\w.grownBy w' (a.map (·.block))/\(n=0->w'=w)/\∃X' : Nat->Int,OwnV w' 2 a n (fun i=>.int .i64 (X' i)):=by
 by_cases hn0:n=0
 ·subst hn0
  go_enter Tryz.func113,Tryz.ntmps113
  go_wp2
  go_loopw [1,5] (fun q i wr=>q=.int .i64 (k:Int)/\i=.int .i64 0/\wr=w) (fun _ i _=>1-(intOf i).toNat)
  case atStart=>exact ⟨rfl,rfl,rfl⟩
  case round=>
   obtain ⟨rfl,rfl,rfl⟩:=hrel
   go_wp2
   go_ret
   exact ⟨by simp,grown_refl _ _,fun _=>rfl,X,.inl rfl⟩
 ·obtain ⟨g,rfl,hrow⟩:=h.resolve_left hn0
  have HR:Hid (rowIn w g 2 n (fun i=>.int .i64 (X i))):=hrow
  clear hrow h
  have HN0:Hid (¬ n=0):=hn0
  clear hn0
  go_enter Tryz.func113,Tryz.ntmps113
  go_wp2
  go_loopw [1,5] (fun q i wr=>∃(j p:Nat) (Y:Nat->Int),j<=n/\i=.int .i64 j/\q=.int .i64 p/\p=k+j/\w.grownBy wr (some g)/\rowIn wr g 2 n (fun i=>.int .i64 (Y i))) (fun _ i _=>n-(intOf i).toNat)
  case atStart=>exact ⟨0,k,X,Nat.zero_le _,rfl,rfl,rfl,grown_refl _ _,HR.out⟩
  case round=>
   obtain ⟨j,p,Y,hj,rfl,rfl,hp,hgr,hrow⟩:=hrel
   have HS:Hid (p=k+j/\w.grownBy wr (some g)/\rowIn wr g 2 n (fun i=>.int .i64 (Y i))):=⟨hp,hgr,hrow⟩
   by_cases hlt:j<n
   ·have hpb:1<=p/\p<=1073741824:=by omega
    have i0:(0:Int)<=(j:Int):=by omega
    have i1:(j:Int)<(n:Int):=by omega
    have c1:=hrow.cell hlt
    have f1:=hrow.frozen j
    have l1:=hrow.lt
    have HX:Hid (w.grownBy (wr.setCell ⟨g,j,none⟩ (.int .i64 (p:Int))) (some g)/\rowIn (wr.setCell ⟨g,j,none⟩ (.int .i64 (p:Int))) g 2 n (fun i=>.int .i64 (if i=j then (p:Int) else Y i))):=by
     refine ⟨grown_trans HS.out.2.1 (grown_set _ _ _ _),(hrow.set j _).congr (fun i hi=>?_)⟩
     by_cases e:i=j
     ·subst e;simp
     ·simp [e]
    have HP:Hid (p+1=k+(j+1)):=by
     show p+1=k+(j+1)
     have:=HS.out.1
     omega
    clear hp hgr hrow HR HS
    go_wp2
    go_roundw
    case rel=>exact ⟨j+1,p+1,_,by omega,by go_num,by go_num,HP.out,HX.out⟩
    case measure=>simp [intOf];omega
   ·have e:j=n:=by omega
    subst e
    clear hp hgr hrow
    go_wp2
    go_ret
    exact ⟨by rw [HS.out.1];rfl,HS.out.2.1,fun h=>absurd h HN0.out,Y,.inr ⟨g,rfl,HS.out.2.2⟩⟩

set_option maxHeartbeats 2000000 in
theorem heldStrs_any (a:Option Addr) (n c k:Nat) (w:World) (h:RdS w a n (fun i=>mkT (k+i))) (hk:1<=k) (hk2:k+n<=1073741824) :
  Calls Tryz.prog 138 #[.slice a n c,.int .i64 (k:Int)] w fun e w'=>e=.returned (.int .i64 ((k+n:Nat):Int))/\Below w.heap.size w w':=by
 have HR:Hid (RdS w a n (fun i=>mkT (k+i))):=h
 clear h
 go_enter Tryz.func138,Tryz.ntmps138
 go_wp2
 go_loopw [1,5] (fun q i wr=>∃j p:Nat,j<=n/\i=.int .i64 j/\q=.int .i64 p/\p=k+j/\Below w.heap.size w wr) (fun _ i _=>n-(intOf i).toNat)
 case atStart=>exact ⟨0,k,Nat.zero_le _,rfl,rfl,rfl,Below.refl _ _⟩
 case round=>
  obtain ⟨j,p,hj,rfl,rfl,hp,hbel⟩:=hrel
  have HS:Hid (p=k+j/\Below w.heap.size w wr):=⟨hp,hbel⟩
  have hpb:1<=p/\p<=1073741824:=by omega
  by_cases hlt:j<n
  ·rcases HR.out.below hbel with q|⟨b,o,rfl,hc⟩
   ·omega
   have s1:wr.cell? ⟨b,o+j,none⟩=some (.string (mkT p)):=by rw [hp];exact hc j hlt
   have i0:(0:Int)<=(j:Int):=by omega
   have i1:(j:Int)<(n:Int):=by omega
   have hbl:b<wr.heap.size:=World.block_lt_of_cell? _ _ s1
   have HM:Hid (∀W:World,Calls Tryz.prog 136 #[.int .i64 (p:Int)] W fun e w'=>e=.returned (.string (mkT p))/\Below W.heap.size W w'):=fun W=>markTextI _ p rfl W hpb.1 hpb.2
   have HC:Hid (∀w1:World,Below wr.drew.heap.size wr.drew w1->w1.cell? ⟨b,o+j,none⟩=some (.string (mkT p))):=fun w1 hb1=>by
    rw [hb1.cell (p:=⟨b,o+j,none⟩) hbl]
    exact s1
   obtain ⟨T,hT⟩:∃T,mkT p=T:=⟨_,rfl⟩
   rw [hT] at s1 HM HC
   clear hc hp hbel hT
   have hq:(T.toList == T.toList)=true:=by simp
   go_wp2
   go_region_held3 (fun w'=>w'.cell? ⟨b,o+j,none⟩=some (.string T)) (go_keep) (first|(go_at_call 136;refine (HM.out _).mono ?_;rintro e w1 ⟨rfl,hb1⟩;have k1:=HC.out w1 hb1)|fail)
   have HB:Hid (Below w.heap.size w w1):=HS.out.2.trans ((show Below wr.heap.size wr w1 from (Below.refl _ _).drew.trans hb1).mono HS.out.2.size)
   have HP:Hid (p+1=k+(j+1)):=by
    show p+1=k+(j+1)
    have:=HS.out.1
    omega
   clear hb1 k1 HS
   go_wp2
   go_roundw
   case rel=>exact ⟨j+1,p+1,by omega,by go_num,by go_num,HP.out,HB.out⟩
   case measure=>simp [intOf];omega
  ·have e:j=n:=by omega
   subst e
   clear hp hbel
   go_wp2
   go_ret
   exact ⟨by rw [HS.out.1];rfl,HS.out.2⟩

def WiT (B T:Nat) (w w' : World):Prop:=w'.os=w.os/\w'.tape=w.tape/\w'.output=w.output/\w.heap.size<=w'.heap.size/\∀k,k<w.heap.size->(k<B\/T<=k)->w'.heap[k]?=w.heap[k]?

theorem WiT.refl (B T:Nat) (w:World):WiT B T w w:=⟨rfl,rfl,rfl,Nat.le_refl _,fun _ _ _=>rfl⟩
theorem WiT.trans {B T:Nat} {a b c:World} (h:WiT B T a b) (k:WiT B T b c):WiT B T a c:=
 ⟨k.1.trans h.1,k.2.1.trans h.2.1,k.2.2.1.trans h.2.2.1,Nat.le_trans h.2.2.2.1 k.2.2.2.1,fun i hi ho=>(k.2.2.2.2 i (Nat.lt_of_lt_of_le hi h.2.2.2.1) ho).trans (h.2.2.2.2 i hi ho)⟩
theorem WiT.grown {B T:Nat} {w w' : World} {r:Option Nat} (h:w.grownBy w' r) (hr:∀b,r=some b->B<=b/\b<T):WiT B T w w':=
 ⟨h.os,h.tape,h.output,h.size,fun k hk ho=>h.block k hk (fun e=>by have:=hr k e.symm;omega)⟩
theorem WiT.below {B T:Nat} {w w' : World} (h:WiT B T w w') (hB:B<=w.heap.size):Below B w w':=⟨h.1,h.2.1,h.2.2.1,h.2.2.2.1,fun k hk=>h.2.2.2.2 k (by omega) (.inl hk)⟩

def MTn (w:World) (B g n:Nat) (N:Nat->Tn) (KA DA:Nat->Option Addr) (KC DC:Nat->Nat):Prop:=
 ∃N',OwnTn w B g n N' KA DA KC DC/\∀i,(N' i).kn=(N i).kn/\(N' i).dn=(N i).dn

section
variable {w w' : World} {B g n:Nat} {N:Nat->Tn} {KA DA:Nat->Option Addr} {KC DC:Nat->Nat}

theorem MTn.cells (h:MTn w B g n N KA DA KC DC) {k:Nat} (hk:k<n):(∃b,w.cell? ⟨g,k*4,none⟩=some (.bool b))/\w.cell? ⟨g,k*4+1,none⟩=some (.slice (KA k) (N k).kn (KC k))/\w.cell? ⟨g,k*4+2,none⟩=some (.slice (DA k) (N k).dn (DC k))/\(∃x,w.cell? ⟨g,k*4+3,none⟩=some (.int .i64 x))/\w.frozen? ⟨g,k*4,none⟩=false/\w.frozen? ⟨g,k*4+3,none⟩=false/\g<w.heap.size:=by
 obtain ⟨N',h,e⟩:=h
 refine ⟨⟨(N' k).lf,?_⟩,?_,?_,⟨(N' k).ct,?_⟩,h.row.frozen _,h.row.frozen _,h.row.lt⟩
 ·rw [h.row.cell (i:=k*4) (by omega),tnCell_0]
 ·rw [h.row.cell (i:=k*4+1) (by omega),tnCell_1,(e k).1]
 ·rw [h.row.cell (i:=k*4+2) (by omega),tnCell_2,(e k).2]
 ·rw [h.row.cell (i:=k*4+3) (by omega),tnCell_3]

theorem MTn.keysV (h:MTn w B g n N KA DA KC DC) {k:Nat} (hk:k<n):∃X:Nat->ByteArray,OwnV w 9 (KA k) (N k).kn (fun i=>.string (X i)):=by
 obtain ⟨N',h,e⟩:=h
 have q:=h.keys k hk
 rw [(e k).1] at q
 rcases q with q|⟨b,e1,_,e2⟩
 ·exact ⟨(N' k).ks,.inl q⟩
 ·exact ⟨(N' k).ks,.inr ⟨b,e1,e2⟩⟩
theorem MTn.kidsV (h:MTn w B g n N KA DA KC DC) {k:Nat} (hk:k<n):∃X:Nat->Int,OwnV w 2 (DA k) (N k).dn (fun i=>.int .i64 (X i)):=by
 obtain ⟨N',h,e⟩:=h
 have q:=h.kids k hk
 rw [(e k).2] at q
 rcases q with q|⟨b,e1,_,e2⟩
 ·exact ⟨(N' k).kd,.inl q⟩
 ·exact ⟨(N' k).kd,.inr ⟨b,e1,e2⟩⟩

theorem MTn.of (h:MTn w B g n N KA DA KC DC) (N1:Nat->Tn) (hrow:rowIn w' g 168 (n*4) (tnCell N1 KA DA KC DC)) (he:∀i,(N1 i).kn=(N i).kn/\(N1 i).dn=(N i).dn) (hk:∀i,i<n->OwnS w' B (KA i) (N1 i).kn (N1 i).ks) (hd:∀i,i<n->OwnI w' B (DA i) (N1 i).dn (N1 i).kd):MTn w' B g n N KA DA KC DC:=by
 obtain ⟨N',h,e⟩:=h
 refine ⟨N1,⟨h.le,hrow,hk,hd,fun i j hi hj hij h1 h2=>h.apartK i j hi hj hij ?_ ?_,fun i j hi hj hij h1 h2=>h.apartD i j hi hj hij ?_ ?_⟩,he⟩
 ·rw [(e i).1,<- (he i).1];exact h1
 ·rw [(e j).1,<- (he j).1];exact h2
 ·rw [(e i).2,<- (he i).2];exact h1
 ·rw [(e j).2,<- (he j).2];exact h2

theorem MTn.flag (h:MTn w B g n N KA DA KC DC) (k:Nat) (v:Bool):MTn (w.setCell ⟨g,k*4,none⟩ (.bool v)) B g n N KA DA KC DC:=by
 obtain ⟨N',h1,e⟩:=h
 refine MTn.of ⟨N',h1,e⟩ (fun i=>if i=k then { N' k with lf:=v } else N' i) ((h1.row.set (k*4) _).congr (fun c hc=>?_)) (fun i=>?_) (fun i hi=>?_) (fun i hi=>?_)
 ·by_cases e1:c=k*4
  ·subst e1;rw [if_pos rfl,tnCell_0];simp
  ·rw [if_neg e1]
   unfold tnCell
   by_cases e2:c / 4=k
   ·have e3:¬ c % 4=0:=by omega
    simp [e2,e3]
   ·simp [e2]
 ·by_cases e1:i=k
  ·subst e1;simpa using e i
  ·simpa [e1] using e i
 ·have q:OwnS w B (KA i) ((fun i=>if i=k then { N' k with lf:=v } else N' i) i).kn ((fun i=>if i=k then { N' k with lf:=v } else N' i) i).ks:=by
   by_cases e1:i=k
   ·subst e1;simpa using h1.keys i hi
   ·simpa [e1] using h1.keys i hi
  rcases q with q|⟨b,q1,q2,q3⟩
  ·exact .inl q
  ·exact .inr ⟨b,q1,q2,q3.of_block (Below.heap_setCell _ _ _ _ (q3.ne h1.row (by decide)))⟩
 ·have q:OwnI w B (DA i) ((fun i=>if i=k then { N' k with lf:=v } else N' i) i).dn ((fun i=>if i=k then { N' k with lf:=v } else N' i) i).kd:=by
   by_cases e1:i=k
   ·subst e1;simpa using h1.kids i hi
   ·simpa [e1] using h1.kids i hi
  rcases q with q|⟨b,q1,q2,q3⟩
  ·exact .inl q
  ·exact .inr ⟨b,q1,q2,q3.of_block (Below.heap_setCell _ _ _ _ (q3.ne h1.row (by decide)))⟩

theorem MTn.count (h:MTn w B g n N KA DA KC DC) (k:Nat) (v:Int):MTn (w.setCell ⟨g,k*4+3,none⟩ (.int .i64 v)) B g n N KA DA KC DC:=by
 obtain ⟨N',h1,e⟩:=h
 refine MTn.of ⟨N',h1,e⟩ (fun i=>if i=k then { N' k with ct:=v } else N' i) ((h1.row.set (k*4+3) _).congr (fun c hc=>?_)) (fun i=>?_) (fun i hi=>?_) (fun i hi=>?_)
 ·by_cases e1:c=k*4+3
  ·subst e1;rw [if_pos rfl,tnCell_3];simp
  ·rw [if_neg e1]
   unfold tnCell
   by_cases e2:c / 4=k
   ·have e3:c % 4=0\/c % 4=1\/c % 4=2:=by omega
    rcases e3 with e3|e3|e3 <;> simp [e2,e3]
   ·simp [e2]
 ·by_cases e1:i=k
  ·subst e1;simpa using e i
  ·simpa [e1] using e i
 ·have q:OwnS w B (KA i) ((fun i=>if i=k then { N' k with ct:=v } else N' i) i).kn ((fun i=>if i=k then { N' k with ct:=v } else N' i) i).ks:=by
   by_cases e1:i=k
   ·subst e1;simpa using h1.keys i hi
   ·simpa [e1] using h1.keys i hi
  rcases q with q|⟨b,q1,q2,q3⟩
  ·exact .inl q
  ·exact .inr ⟨b,q1,q2,q3.of_block (Below.heap_setCell _ _ _ _ (q3.ne h1.row (by decide)))⟩
 ·have q:OwnI w B (DA i) ((fun i=>if i=k then { N' k with ct:=v } else N' i) i).dn ((fun i=>if i=k then { N' k with ct:=v } else N' i) i).kd:=by
   by_cases e1:i=k
   ·subst e1;simpa using h1.kids i hi
   ·simpa [e1] using h1.kids i hi
  rcases q with q|⟨b,q1,q2,q3⟩
  ·exact .inl q
  ·exact .inr ⟨b,q1,q2,q3.of_block (Below.heap_setCell _ _ _ _ (q3.ne h1.row (by decide)))⟩

theorem MTn.setKeys (h:MTn w B g n N KA DA KC DC) {k:Nat} (hk:k<n) (X:Nat->ByteArray) (hg:w.grownBy w' ((KA k).map (·.block))) (hz:(N k).kn=0->w'=w) (ho:OwnV w' 9 (KA k) (N k).kn (fun i=>.string (X i))):MTn w' B g n N KA DA KC DC:=by
 by_cases hl:(N k).kn=0
 ·rw [hz hl];exact h
 obtain ⟨N',h1,e⟩:=h
 have hl' : (N' k).kn≠0:=by rw [(e k).1];exact hl
 obtain ⟨gk,hA,hgB,hrk⟩:=(h1.keys k hk).resolve_left hl'
 rw [hA] at hg
 have hblk:∀i,i<w.heap.size->i≠gk->w'.heap[i]?=w.heap[i]?:=fun i hi hne=>hg.block i hi (fun q=>by injection q with q;exact hne q)
 refine MTn.of ⟨N',h1,e⟩ (fun i=>if i=k then { N' k with ks:=X } else N' i) ((h1.row.of_block (hblk g h1.row.lt (fun q=>(hrk.ne h1.row (by decide)) q.symm))).congr (fun c hc=>?_)) (fun i=>?_) (fun i hi=>?_) (fun i hi=>?_)
 ·unfold tnCell
  by_cases e2:c / 4=k
  ·simp [e2]
  ·simp [e2]
 ·by_cases e1:i=k
  ·subst e1;simpa using e i
  ·simpa [e1] using e i
 ·by_cases e1:i=k
  ·subst e1
   obtain ⟨g2,hA2,hr2⟩:=ho.resolve_left hl
   rw [hA] at hA2
   injection hA2 with hA2
   injection hA2 with hA2
   subst hA2
   simp only [if_true]
   rw [<- (e i).1] at hr2
   exact .inr ⟨gk,hA,hgB,hr2⟩
  ·simp only [if_neg e1]
   by_cases h0:(N' i).kn=0
   ·exact .inl h0
   ·obtain ⟨gi,hAi,hgi,hri⟩:=(h1.keys i hi).resolve_left h0
    refine .inr ⟨gi,hAi,hgi,hri.of_block (hblk gi hri.lt (fun q=>?_))⟩
    subst q
    exact h1.apartK i k hi hk e1 h0 hl' (by rw [hA,hAi])
 ·have q:OwnI w B (DA i) ((fun i=>if i=k then { N' k with ks:=X } else N' i) i).dn ((fun i=>if i=k then { N' k with ks:=X } else N' i) i).kd:=by
   by_cases e1:i=k
   ·subst e1;simpa using h1.kids i hi
   ·simpa [e1] using h1.kids i hi
  rcases q with q|⟨b,q1,q2,q3⟩
  ·exact .inl q
  ·exact .inr ⟨b,q1,q2,q3.of_block (hblk b q3.lt (q3.ne hrk (by decide)))⟩

theorem MTn.setKids (h:MTn w B g n N KA DA KC DC) {k:Nat} (hk:k<n) (X:Nat->Int) (hg:w.grownBy w' ((DA k).map (·.block))) (hz:(N k).dn=0->w'=w) (ho:OwnV w' 2 (DA k) (N k).dn (fun i=>.int .i64 (X i))):MTn w' B g n N KA DA KC DC:=by
 by_cases hl:(N k).dn=0
 ·rw [hz hl];exact h
 obtain ⟨N',h1,e⟩:=h
 have hl' : (N' k).dn≠0:=by rw [(e k).2];exact hl
 obtain ⟨gk,hA,hgB,hrk⟩:=(h1.kids k hk).resolve_left hl'
 rw [hA] at hg
 have hblk:∀i,i<w.heap.size->i≠gk->w'.heap[i]?=w.heap[i]?:=fun i hi hne=>hg.block i hi (fun q=>by injection q with q;exact hne q)
 refine MTn.of ⟨N',h1,e⟩ (fun i=>if i=k then { N' k with kd:=X } else N' i) ((h1.row.of_block (hblk g h1.row.lt (fun q=>(hrk.ne h1.row (by decide)) q.symm))).congr (fun c hc=>?_)) (fun i=>?_) (fun i hi=>?_) (fun i hi=>?_)
 ·unfold tnCell
  by_cases e2:c / 4=k
  ·simp [e2]
  ·simp [e2]
 ·by_cases e1:i=k
  ·subst e1;simpa using e i
  ·simpa [e1] using e i
 ·have q:OwnS w B (KA i) ((fun i=>if i=k then { N' k with kd:=X } else N' i) i).kn ((fun i=>if i=k then { N' k with kd:=X } else N' i) i).ks:=by
   by_cases e1:i=k
   ·subst e1;simpa using h1.keys i hi
   ·simpa [e1] using h1.keys i hi
  rcases q with q|⟨b,q1,q2,q3⟩
  ·exact .inl q
  ·exact .inr ⟨b,q1,q2,q3.of_block (hblk b q3.lt (q3.ne hrk (by decide)))⟩
 ·by_cases e1:i=k
  ·subst e1
   obtain ⟨g2,hA2,hr2⟩:=ho.resolve_left hl
   rw [hA] at hA2
   injection hA2 with hA2
   injection hA2 with hA2
   subst hA2
   simp only [if_true]
   rw [<- (e i).2] at hr2
   exact .inr ⟨gk,hA,hgB,hr2⟩
  ·simp only [if_neg e1]
   by_cases h0:(N' i).dn=0
   ·exact .inl h0
   ·obtain ⟨gi,hAi,hgi,hri⟩:=(h1.kids i hi).resolve_left h0
    refine .inr ⟨gi,hAi,hgi,hri.of_block (hblk gi hri.lt (fun q=>?_))⟩
    subst q
    exact h1.apartD i k hi hk e1 h0 hl' (by rw [hA,hAi])

def TnB (T g n:Nat) (N:Nat->Tn) (KA DA:Nat->Option Addr) (B:Nat):Prop:=
 B<=g/\g<T/\(∀i,i<n->(N i).kn≠0->∀b,(KA i).map (·.block)=some b->B<=b/\b<T)/\(∀i,i<n->(N i).dn≠0->∀b,(DA i).map (·.block)=some b->B<=b/\b<T)

theorem OwnTn.bound (h:OwnTn w B g n N KA DA KC DC):TnB w.heap.size g n N KA DA B:=by
 refine ⟨h.le,h.row.lt,fun i hi h0 b hb=>?_,fun i hi h0 b hb=>?_⟩
 ·obtain ⟨gi,hA,hgi,hri⟩:=(h.keys i hi).resolve_left h0
  rw [hA] at hb
  injection hb with hb
  subst hb
  exact ⟨hgi,hri.lt⟩
 ·obtain ⟨gi,hA,hgi,hri⟩:=(h.kids i hi).resolve_left h0
  rw [hA] at hb
  injection hb with hb
  subst hb
  exact ⟨hgi,hri.lt⟩
end

theorem sumT_le (N:Nat->Tn):∀(m j:Nat),j<=m->sumT N j<=sumT N m
 | 0,j,h=>by
  have:j=0:=by omega
  subst this
  exact Nat.le_refl _
 | m+1,j,h=>by
  by_cases e:j=m+1
  ·subst e;exact Nat.le_refl _
  ·have:=sumT_le N m j (by omega)
   have e2:sumT N (m+1)=sumT N m+(N m).kn+(N m).dn:=rfl
   omega

theorem markStrsI (x:Int) (a:Option Addr) (n c k:Nat) (hx:x=(k:Int)) (X:Nat->ByteArray) (w:World) (h:OwnV w 9 a n (fun i=>.string (X i))) (hk:1<=k) (hk2:k+n<=1073741824) :
  Calls Tryz.prog 112 #[.slice a n c,.int .i64 x] w fun e w'=>e=.returned (.int .i64 ((k+n:Nat):Int))/\w.grownBy w' (a.map (·.block))/\(n=0->w'=w)/\OwnV w' 9 a n (fun i=>.string (mkT (k+i))):=by
 subst hx;exact markStrs_any a n c k X w h hk hk2
theorem markIntsI (x:Int) (a:Option Addr) (n c k:Nat) (hx:x=(k:Int)) (X:Nat->Int) (w:World) (h:OwnV w 2 a n (fun i=>.int .i64 (X i))) (hk:1<=k) (hk2:k+n<=1073741824) :
  Calls Tryz.prog 113 #[.slice a n c,.int .i64 x] w fun e w'=>e=.returned (.int .i64 ((k+n:Nat):Int))/\w.grownBy w' (a.map (·.block))/\(n=0->w'=w)/\∃X' : Nat->Int,OwnV w' 2 a n (fun i=>.int .i64 (X' i)):=by
 subst hx;exact markInts_any a n c k X w h hk hk2

set_option maxHeartbeats 4000000 in
theorem markTNodeS_any (B T g n c k:Nat) (N:Nat->Tn) (KA DA:Nat->Option Addr) (KC DC:Nat->Nat) (w:World) (h:MTn w B g n N KA DA KC DC) (hT:TnB T g n N KA DA B) (hk:1<=k) (hk2:k+2*n+sumT N n<=1073741824) :
  Calls Tryz.prog 75 #[.slice (some ⟨g,0,none⟩) n c,.int .i64 (k:Int)] w fun e w'=>∃p:Nat,e=.returned (.int .i64 (p:Int))/\WiT B T w w'/\p=k+2*n+sumT N n:=by
 have HR:Hid (MTn w B g n N KA DA KC DC):=h
 have HT:Hid (TnB T g n N KA DA B):=hT
 clear h hT
 go_enter Tryz.func75,Tryz.ntmps75
 go_wp2
 go_loopw [1,5] (fun q i wr=>∃j p:Nat,j<=n/\i=.int .i64 j/\q=.int .i64 p/\p=k+2*j+sumT N j/\MTn wr B g n N KA DA KC DC/\WiT B T w wr) (fun _ i _=>n-(intOf i).toNat)
 case atStart=>exact ⟨0,k,Nat.zero_le _,rfl,rfl,rfl,HR.out,WiT.refl _ _ _⟩
 case round=>
  obtain ⟨j,p,hj,rfl,rfl,hp,hm,hw⟩:=hrel
  by_cases hlt:j<n
  ·have hsum:sumT N (j+1)=sumT N j+(N j).kn+(N j).dn:=rfl
   have hsl:=sumT_le N n (j+1) (by omega)
   have hp1:1<=p:=by omega
   have hjb:j<1073741824:=by omega
   obtain ⟨kn,hkn⟩:∃x,x=(N j).kn:=⟨_,rfl⟩
   obtain ⟨dn,hdn⟩:∃x,x=(N j).dn:=⟨_,rfl⟩
   have hp2:p+2+kn+dn<=1073741824:=by omega
   have HP:Hid (p+2+kn+dn=k+2*(j+1)+sumT N (j+1)):=by
    show p+2+kn+dn=k+2*(j+1)+sumT N (j+1)
    omega
   have HM:Hid (MTn wr B g n N KA DA KC DC/\WiT B T w wr):=⟨hm,hw⟩
   have HK:Hid (kn=(N j).kn/\dn=(N j).dn):=⟨hkn,hdn⟩
   obtain ⟨⟨b0,c0⟩,c1,c2,⟨x3,c3⟩,f0,f3,lg⟩:=hm.cells hlt
   rw [<- hkn] at c1
   rw [<- hdn] at c2
   have i0:(0:Int)<=(j:Int):=by omega
   have i1:(j:Int)<(n:Int):=by omega
   have HW1:Hid (∀v,MTn (wr.setCell ⟨g,j*4,none⟩ (.bool v)) B g n N KA DA KC DC/\WiT B T w (wr.setCell ⟨g,j*4,none⟩ (.bool v))):=fun v=>⟨HM.out.1.flag j v,HM.out.2.trans (WiT.grown (grown_set _ _ _ _) (fun b e=>by injection e with e;subst e;exact ⟨HT.out.1,HT.out.2.1⟩))⟩
   clear hsum hsl hp hm hw hkn hdn hk2
   go_wp2_with fail
   obtain ⟨X1,hX1⟩:=(HW1.out _).1.keysV hlt
   refine (markStrsI _ (KA j) kn (KC j) (p+1) (by go_num) X1 _ (by rw [HK.out.1];exact hX1) (by omega) (by omega)).mono ?_
   rintro e w1 ⟨rfl,hg1,hz1,ho1⟩
   have hK0:=HK.out
   have HW2:Hid (MTn w1 B g n N KA DA KC DC/\WiT B T w w1):=by
    have q1:=(HW1.out _).1.setKeys hlt _ hg1 (fun e=>hz1 (by rw [hK0.1];exact e)) (by rw [<- hK0.1];exact ho1)
    refine ⟨q1,(HW1.out ((p:Int) % 3 == 0)).2.trans ?_⟩
    by_cases h0:kn=0
    ·rw [hz1 h0];exact WiT.refl _ _ _
    ·exact WiT.grown hg1 (HT.out.2.2.1 j hlt (by rw [<- hK0.1];exact h0))
   clear hg1 hz1 ho1 hX1 X1 HW1 c0 c1 c2 c3 f0 f3 lg hK0
   obtain ⟨⟨b0',c0⟩,c1,c2,⟨x3',c3⟩,f0,f3,lg⟩:=HW2.out.1.cells hlt
   rw [<- HK.out.1] at c1
   rw [<- HK.out.2] at c2
   go_wp2_with fail
   obtain ⟨X2,hX2⟩:=HW2.out.1.kidsV hlt
   refine (markIntsI _ (DA j) dn (DC j) (p+1+kn) (by go_num) X2 _ (by rw [HK.out.2];exact hX2) (by omega) (by omega)).mono ?_
   rintro e w2 ⟨rfl,hg2,hz2,X3,ho2⟩
   have hK0:=HK.out
   have HW3:Hid (MTn w2 B g n N KA DA KC DC/\WiT B T w w2):=by
    have q1:=HW2.out.1.setKids hlt X3 hg2 (fun e=>hz2 (by rw [hK0.2];exact e)) (by rw [<- hK0.2];exact ho2)
    refine ⟨q1,HW2.out.2.trans ?_⟩
    by_cases h0:dn=0
    ·rw [hz2 h0];exact WiT.refl _ _ _
    ·exact WiT.grown hg2 (HT.out.2.2.2 j hlt (by rw [<- hK0.2];exact h0))
   clear hg2 hz2 ho2 hX2 X2 X3 HW2 c0 c1 c2 c3 f0 f3 lg hK0
   obtain ⟨⟨b0'',c0⟩,c1,c2,⟨x3'',c3⟩,f0,f3,lg⟩:=HW3.out.1.cells hlt
   have HW4:Hid (∀v,MTn (w2.setCell ⟨g,j*4+3,none⟩ (.int .i64 v)) B g n N KA DA KC DC/\WiT B T w (w2.setCell ⟨g,j*4+3,none⟩ (.int .i64 v))):=fun v=>⟨HW3.out.1.count j v,HW3.out.2.trans (WiT.grown (grown_set _ _ _ _) (fun b e=>by injection e with e;subst e;exact ⟨HT.out.1,HT.out.2.1⟩))⟩
   clear HW3 c0 c1 c2
   go_wp2
   go_roundw
   case rel=>exact ⟨j+1,p+2+kn+dn,by omega,by go_num,by go_num,HP.out,HW4.out _⟩
   case measure=>simp [intOf];omega
  ·have e:j=n:=by omega
   subst e
   have HM:Hid (WiT B T w wr/\p=k+2*j+sumT N j):=⟨hw,hp⟩
   clear hm hw hp
   go_wp2
   go_ret
   exact ⟨p,rfl,HM.out⟩


set_option maxHeartbeats 2000000 in
theorem markInts_eq (a:Option Addr) (n c k:Nat) (X:Nat->Int) (w:World) (h:OwnV w 2 a n (fun i=>.int .i64 (X i))) (hk:1<=k) (hk2:k+n<=1073741824) :
  Calls Tryz.prog 113 #[.slice a n c,.int .i64 (k:Int)] w fun e w'=>e=.returned (.int .i64 ((k+n:Nat):Int))/\w.grownBy w' (a.map (·.block))/\(n=0->w'=w)/\OwnV w' 2 a n (fun i=>.int .i64 ((k+i:Nat):Int)):=by
 by_cases hn0:n=0
 ·subst hn0
  go_enter Tryz.func113,Tryz.ntmps113
  go_wp2
  go_loopw [1,5] (fun q i wr=>q=.int .i64 (k:Int)/\i=.int .i64 0/\wr=w) (fun _ i _=>1-(intOf i).toNat)
  case atStart=>exact ⟨rfl,rfl,rfl⟩
  case round=>
   obtain ⟨rfl,rfl,rfl⟩:=hrel
   go_wp2
   go_ret
   exact ⟨by simp,grown_refl _ _,fun _=>rfl,.inl rfl⟩
 ·obtain ⟨g,rfl,hrow⟩:=h.resolve_left hn0
  have HR:Hid (rowIn w g 2 n (fun i=>.int .i64 (X i))):=hrow
  clear hrow h
  have HN0:Hid (¬ n=0):=hn0
  clear hn0
  go_enter Tryz.func113,Tryz.ntmps113
  go_wp2
  go_loopw [1,5] (fun q i wr=>∃(j p:Nat),j<=n/\i=.int .i64 j/\q=.int .i64 p/\p=k+j/\w.grownBy wr (some g)/\rowIn wr g 2 n (fun i=>.int .i64 (if i<j then ((k+i:Nat):Int) else X i))) (fun _ i _=>n-(intOf i).toNat)
  case atStart=>exact ⟨0,k,Nat.zero_le _,rfl,rfl,rfl,grown_refl _ _,HR.out.congr (fun i _=>by simp)⟩
  case round=>
   obtain ⟨j,p,hj,rfl,rfl,hp,hgr,hrow⟩:=hrel
   have HS:Hid (p=k+j/\w.grownBy wr (some g)/\rowIn wr g 2 n (fun i=>.int .i64 (if i<j then ((k+i:Nat):Int) else X i))):=⟨hp,hgr,hrow⟩
   by_cases hlt:j<n
   ·have hpb:1<=p/\p<=1073741824:=by omega
    have i0:(0:Int)<=(j:Int):=by omega
    have i1:(j:Int)<(n:Int):=by omega
    have c1:=hrow.cell hlt
    have f1:=hrow.frozen j
    have l1:=hrow.lt
    have HX:Hid (w.grownBy (wr.setCell ⟨g,j,none⟩ (.int .i64 (p:Int))) (some g)/\rowIn (wr.setCell ⟨g,j,none⟩ (.int .i64 (p:Int))) g 2 n (fun i=>.int .i64 (if i<j+1 then ((k+i:Nat):Int) else X i))):=by
     refine ⟨grown_trans HS.out.2.1 (grown_set _ _ _ _),(hrow.set j _).congr (fun i hi=>?_)⟩
     by_cases e:i=j
     ·subst e;simp [HS.out.1]
     ·by_cases e2:i<j
      ·have:i<j+1:=by omega
       simp [e,e2,this]
      ·have:¬ i<j+1:=by omega
       simp [e,e2,this]
    have HP:Hid (p+1=k+(j+1)):=by
     show p+1=k+(j+1)
     have:=HS.out.1
     omega
    clear hp hgr hrow HR HS
    go_wp2
    go_roundw
    case rel=>exact ⟨j+1,p+1,by omega,by go_num,by go_num,HP.out,HX.out⟩
    case measure=>simp [intOf];omega
   ·have e:j=n:=by omega
    subst e
    clear hp hgr hrow
    go_wp2
    go_ret
    exact ⟨by rw [HS.out.1];rfl,HS.out.2.1,fun h=>absurd h HN0.out,.inr ⟨g,rfl,HS.out.2.2.congr (fun i hi=>by simp [hi])⟩⟩


set_option maxHeartbeats 2000000 in
theorem heldInts_any (x:Int) (a:Option Addr) (n c k:Nat) (hx:x=(k:Int)) (w:World) (h:Rd .i64 w a n (fun i=>((k+i:Nat):Int))) (hk2:k+n<=1073741824) :
  Calls Tryz.prog 139 #[.slice a n c,.int .i64 x] w fun e w'=>e=.returned (.int .i64 ((k+n:Nat):Int))/\Below w.heap.size w w':=by
 subst hx
 have HR:Hid (Rd .i64 w a n (fun i=>((k+i:Nat):Int))):=h
 clear h
 go_enter Tryz.func139,Tryz.ntmps139
 go_wp2
 go_loopw [1,5] (fun q i wr=>∃j p:Nat,j<=n/\i=.int .i64 j/\q=.int .i64 p/\p=k+j/\Below w.heap.size w wr) (fun _ i _=>n-(intOf i).toNat)
 case atStart=>exact ⟨0,k,Nat.zero_le _,rfl,rfl,rfl,Below.refl _ _⟩
 case round=>
  obtain ⟨j,p,hj,rfl,rfl,hp,hbel⟩:=hrel
  have HS:Hid (p=k+j/\Below w.heap.size w wr):=⟨hp,hbel⟩
  have hpb:p<=1073741824:=by omega
  by_cases hlt:j<n
  ·rcases HR.out.below hbel with q|⟨b,o,rfl,hc⟩
   ·omega
   have s1:wr.cell? ⟨b,o+j,none⟩=some (.int .i64 (p:Int)):=by rw [hp];exact hc j hlt
   have i0:(0:Int)<=(j:Int):=by omega
   have i1:(j:Int)<(n:Int):=by omega
   have HP:Hid (p+1=k+(j+1)):=by
    show p+1=k+(j+1)
    omega
   have hq:((p:Int) != (p:Int))=false:=by simp
   clear hc hp hbel
   go_wp2
   go_roundw
   case rel=>exact ⟨j+1,p+1,by omega,by go_num,by go_num,HP.out,HS.out.2⟩
   case measure=>simp [intOf];omega
  ·have e:j=n:=by omega
   subst e
   clear hp hbel
   go_wp2
   go_ret
   exact ⟨by rw [HS.out.1];rfl,HS.out.2⟩

theorem markIntsE (x:Int) (a:Option Addr) (n c k:Nat) (hx:x=(k:Int)) (X:Nat->Int) (w:World) (h:OwnV w 2 a n (fun i=>.int .i64 (X i))) (hk:1<=k) (hk2:k+n<=1073741824) :
  Calls Tryz.prog 113 #[.slice a n c,.int .i64 x] w fun e w'=>e=.returned (.int .i64 ((k+n:Nat):Int))/\w.grownBy w' (a.map (·.block))/\(n=0->w'=w)/\OwnV w' 2 a n (fun i=>.int .i64 ((k+i:Nat):Int)):=by
 subst hx;exact markInts_eq a n c k X w h hk hk2
theorem heldStrsI (x:Int) (a:Option Addr) (n c k:Nat) (hx:x=(k:Int)) (w:World) (h:RdS w a n (fun i=>mkT (k+i))) (hk:1<=k) (hk2:k+n<=1073741824) :
  Calls Tryz.prog 138 #[.slice a n c,.int .i64 x] w fun e w'=>e=.returned (.int .i64 ((k+n:Nat):Int))/\Below w.heap.size w w':=by
 subst hx;exact heldStrs_any a n c k w h hk hk2

section
variable {w w' : World} {B g n:Nat} {N:Nat->Tn} {KA DA:Nat->Option Addr} {KC DC:Nat->Nat}
theorem OwnTn.of (h:OwnTn w B g n N KA DA KC DC) (N1:Nat->Tn) (hrow:rowIn w' g 168 (n*4) (tnCell N1 KA DA KC DC)) (he:∀i,(N1 i).kn=(N i).kn/\(N1 i).dn=(N i).dn) (hk:∀i,i<n->OwnS w' B (KA i) (N1 i).kn (N1 i).ks) (hd:∀i,i<n->OwnI w' B (DA i) (N1 i).dn (N1 i).kd):OwnTn w' B g n N1 KA DA KC DC:=by
 refine ⟨h.le,hrow,hk,hd,fun i j hi hj hij h1 h2=>h.apartK i j hi hj hij ?_ ?_,fun i j hi hj hij h1 h2=>h.apartD i j hi hj hij ?_ ?_⟩
 ·rw [<- (he i).1];exact h1
 ·rw [<- (he j).1];exact h2
 ·rw [<- (he i).2];exact h1
 ·rw [<- (he j).2];exact h2

theorem OwnTn.flag (h1:OwnTn w B g n N KA DA KC DC) (k:Nat) (v:Bool):OwnTn (w.setCell ⟨g,k*4,none⟩ (.bool v)) B g n (fun i=>if i=k then { N k with lf:=v } else N i) KA DA KC DC:=by
 refine OwnTn.of h1 (fun i=>if i=k then { N k with lf:=v } else N i) ((h1.row.set (k*4) _).congr (fun c hc=>?_)) (fun i=>?_) (fun i hi=>?_) (fun i hi=>?_)
 ·by_cases e1:c=k*4
  ·subst e1;rw [if_pos rfl,tnCell_0];simp
  ·rw [if_neg e1]
   unfold tnCell
   by_cases e2:c / 4=k
   ·have e3:¬ c % 4=0:=by omega
    simp [e2,e3]
   ·simp [e2]
 ·by_cases e1:i=k
  ·subst e1;simp
  ·simp [e1]
 ·have q:OwnS w B (KA i) ((fun i=>if i=k then { N k with lf:=v } else N i) i).kn ((fun i=>if i=k then { N k with lf:=v } else N i) i).ks:=by
   by_cases e1:i=k
   ·subst e1;simpa using h1.keys i hi
   ·simpa [e1] using h1.keys i hi
  rcases q with q|⟨b,q1,q2,q3⟩
  ·exact .inl q
  ·exact .inr ⟨b,q1,q2,q3.of_block (Below.heap_setCell _ _ _ _ (q3.ne h1.row (by decide)))⟩
 ·have q:OwnI w B (DA i) ((fun i=>if i=k then { N k with lf:=v } else N i) i).dn ((fun i=>if i=k then { N k with lf:=v } else N i) i).kd:=by
   by_cases e1:i=k
   ·subst e1;simpa using h1.kids i hi
   ·simpa [e1] using h1.kids i hi
  rcases q with q|⟨b,q1,q2,q3⟩
  ·exact .inl q
  ·exact .inr ⟨b,q1,q2,q3.of_block (Below.heap_setCell _ _ _ _ (q3.ne h1.row (by decide)))⟩

theorem OwnTn.count (h1:OwnTn w B g n N KA DA KC DC) (k:Nat) (v:Int):OwnTn (w.setCell ⟨g,k*4+3,none⟩ (.int .i64 v)) B g n (fun i=>if i=k then { N k with ct:=v } else N i) KA DA KC DC:=by
 refine OwnTn.of h1 (fun i=>if i=k then { N k with ct:=v } else N i) ((h1.row.set (k*4+3) _).congr (fun c hc=>?_)) (fun i=>?_) (fun i hi=>?_) (fun i hi=>?_)
 ·by_cases e1:c=k*4+3
  ·subst e1;rw [if_pos rfl,tnCell_3];simp
  ·rw [if_neg e1]
   unfold tnCell
   by_cases e2:c / 4=k
   ·have e3:c % 4=0\/c % 4=1\/c % 4=2:=by omega
    rcases e3 with e3|e3|e3 <;> simp [e2,e3]
   ·simp [e2]
 ·by_cases e1:i=k
  ·subst e1;simp
  ·simp [e1]
 ·have q:OwnS w B (KA i) ((fun i=>if i=k then { N k with ct:=v } else N i) i).kn ((fun i=>if i=k then { N k with ct:=v } else N i) i).ks:=by
   by_cases e1:i=k
   ·subst e1;simpa using h1.keys i hi
   ·simpa [e1] using h1.keys i hi
  rcases q with q|⟨b,q1,q2,q3⟩
  ·exact .inl q
  ·exact .inr ⟨b,q1,q2,q3.of_block (Below.heap_setCell _ _ _ _ (q3.ne h1.row (by decide)))⟩
 ·have q:OwnI w B (DA i) ((fun i=>if i=k then { N k with ct:=v } else N i) i).dn ((fun i=>if i=k then { N k with ct:=v } else N i) i).kd:=by
   by_cases e1:i=k
   ·subst e1;simpa using h1.kids i hi
   ·simpa [e1] using h1.kids i hi
  rcases q with q|⟨b,q1,q2,q3⟩
  ·exact .inl q
  ·exact .inr ⟨b,q1,q2,q3.of_block (Below.heap_setCell _ _ _ _ (q3.ne h1.row (by decide)))⟩

theorem OwnTn.setKeys (h1:OwnTn w B g n N KA DA KC DC) {k:Nat} (hk:k<n) (X:Nat->ByteArray) (hg:w.grownBy w' ((KA k).map (·.block))) (hz:(N k).kn=0->w'=w) (ho:OwnV w' 9 (KA k) (N k).kn (fun i=>.string (X i))):OwnTn w' B g n (fun i=>if i=k then { N k with ks:=X } else N i) KA DA KC DC:=by
 by_cases hl:(N k).kn=0
 ·rw [hz hl]
  refine OwnTn.of h1 _ (h1.row.congr (fun c hc=>?_)) (fun i=>?_) (fun i hi=>?_) (fun i hi=>?_)
  ·unfold tnCell
   by_cases e2:c / 4=k
   ·simp [e2]
   ·simp [e2]
  ·by_cases e1:i=k
   ·subst e1;simp
   ·simp [e1]
  ·by_cases e1:i=k
   ·subst e1;first|exact .inl (by simpa using hl)|simpa using h1.keys i hi
   ·simpa [e1] using h1.keys i hi
  ·by_cases e1:i=k
   ·subst e1;first|exact .inl (by simpa using hl)|simpa using h1.kids i hi
   ·simpa [e1] using h1.kids i hi
 have hl' : (N k).kn≠0:=hl
 obtain ⟨gk,hA,hgB,hrk⟩:=(h1.keys k hk).resolve_left hl'
 rw [hA] at hg
 have hblk:∀i,i<w.heap.size->i≠gk->w'.heap[i]?=w.heap[i]?:=fun i hi hne=>hg.block i hi (fun q=>by injection q with q;exact hne q)
 refine OwnTn.of h1 (fun i=>if i=k then { N k with ks:=X } else N i) ((h1.row.of_block (hblk g h1.row.lt (fun q=>(hrk.ne h1.row (by decide)) q.symm))).congr (fun c hc=>?_)) (fun i=>?_) (fun i hi=>?_) (fun i hi=>?_)
 ·unfold tnCell
  by_cases e2:c / 4=k
  ·simp [e2]
  ·simp [e2]
 ·by_cases e1:i=k
  ·subst e1;simp
  ·simp [e1]
 ·by_cases e1:i=k
  ·subst e1
   obtain ⟨g2,hA2,hr2⟩:=ho.resolve_left hl
   rw [hA] at hA2
   injection hA2 with hA2
   injection hA2 with hA2
   subst hA2
   simp only [if_true]
   exact .inr ⟨gk,hA,hgB,hr2⟩
  ·simp only [if_neg e1]
   by_cases h0:(N i).kn=0
   ·exact .inl h0
   ·obtain ⟨gi,hAi,hgi,hri⟩:=(h1.keys i hi).resolve_left h0
    refine .inr ⟨gi,hAi,hgi,hri.of_block (hblk gi hri.lt (fun q=>?_))⟩
    subst q
    exact h1.apartK i k hi hk e1 h0 hl' (by rw [hA,hAi])
 ·have q:OwnI w B (DA i) ((fun i=>if i=k then { N k with ks:=X } else N i) i).dn ((fun i=>if i=k then { N k with ks:=X } else N i) i).kd:=by
   by_cases e1:i=k
   ·subst e1;simpa using h1.kids i hi
   ·simpa [e1] using h1.kids i hi
  rcases q with q|⟨b,q1,q2,q3⟩
  ·exact .inl q
  ·exact .inr ⟨b,q1,q2,q3.of_block (hblk b q3.lt (q3.ne hrk (by decide)))⟩

theorem OwnTn.setKids (h1:OwnTn w B g n N KA DA KC DC) {k:Nat} (hk:k<n) (X:Nat->Int) (hg:w.grownBy w' ((DA k).map (·.block))) (hz:(N k).dn=0->w'=w) (ho:OwnV w' 2 (DA k) (N k).dn (fun i=>.int .i64 (X i))):OwnTn w' B g n (fun i=>if i=k then { N k with kd:=X } else N i) KA DA KC DC:=by
 by_cases hl:(N k).dn=0
 ·rw [hz hl]
  refine OwnTn.of h1 _ (h1.row.congr (fun c hc=>?_)) (fun i=>?_) (fun i hi=>?_) (fun i hi=>?_)
  ·unfold tnCell
   by_cases e2:c / 4=k
   ·simp [e2]
   ·simp [e2]
  ·by_cases e1:i=k
   ·subst e1;simp
   ·simp [e1]
  ·by_cases e1:i=k
   ·subst e1;first|exact .inl (by simpa using hl)|simpa using h1.keys i hi
   ·simpa [e1] using h1.keys i hi
  ·by_cases e1:i=k
   ·subst e1;first|exact .inl (by simpa using hl)|simpa using h1.kids i hi
   ·simpa [e1] using h1.kids i hi
 have hl' : (N k).dn≠0:=hl
 obtain ⟨gk,hA,hgB,hrk⟩:=(h1.kids k hk).resolve_left hl'
 rw [hA] at hg
 have hblk:∀i,i<w.heap.size->i≠gk->w'.heap[i]?=w.heap[i]?:=fun i hi hne=>hg.block i hi (fun q=>by injection q with q;exact hne q)
 refine OwnTn.of h1 (fun i=>if i=k then { N k with kd:=X } else N i) ((h1.row.of_block (hblk g h1.row.lt (fun q=>(hrk.ne h1.row (by decide)) q.symm))).congr (fun c hc=>?_)) (fun i=>?_) (fun i hi=>?_) (fun i hi=>?_)
 ·unfold tnCell
  by_cases e2:c / 4=k
  ·simp [e2]
  ·simp [e2]
 ·by_cases e1:i=k
  ·subst e1;simp
  ·simp [e1]
 ·have q:OwnS w B (KA i) ((fun i=>if i=k then { N k with kd:=X } else N i) i).kn ((fun i=>if i=k then { N k with kd:=X } else N i) i).ks:=by
   by_cases e1:i=k
   ·subst e1;simpa using h1.keys i hi
   ·simpa [e1] using h1.keys i hi
  rcases q with q|⟨b,q1,q2,q3⟩
  ·exact .inl q
  ·exact .inr ⟨b,q1,q2,q3.of_block (hblk b q3.lt (q3.ne hrk (by decide)))⟩
 ·by_cases e1:i=k
  ·subst e1
   obtain ⟨g2,hA2,hr2⟩:=ho.resolve_left hl
   rw [hA] at hA2
   injection hA2 with hA2
   injection hA2 with hA2
   subst hA2
   simp only [if_true]
   exact .inr ⟨gk,hA,hgB,hr2⟩
  ·simp only [if_neg e1]
   by_cases h0:(N i).dn=0
   ·exact .inl h0
   ·obtain ⟨gi,hAi,hgi,hri⟩:=(h1.kids i hi).resolve_left h0
    refine .inr ⟨gi,hAi,hgi,hri.of_block (hblk gi hri.lt (fun q=>?_))⟩
    subst q
    exact h1.apartD i k hi hk e1 h0 hl' (by rw [hA,hAi])

end
end Go.Proofs.YtcnollkkigiobaaGreat
