import Derived.Test.YtpaomghibppgkaaGreatNv17
import Derived.Deep.RegionWith
import Derived.Test.YtpaomghibppgkaaGreatNv18
set_option linter.unusedVariables false
set_option maxRecDepth 100000
namespace Go.Proofs.YtpaomghibppgkaaGreat
open Go.RowKit Go.Deep

theorem TAt.count {S:Nat->Prop} {w:World}:∀{d:Nat} {t:Ro d} {v:Value},TAt S w d t v->∃b,S b/\b<w.heap.size/\w.cell? ⟨b,0,none⟩=some (.int .i64 ((keysR d t).length:Int))/\(v=.iface 243 (.pointer (some ⟨b,0,none⟩))\/v=.iface 248 (.pointer (some ⟨b,0,none⟩)))
 | 0,_,_,h=>h.elim
 | d+1,.inl t,v,h=>by
  obtain ⟨b,ka,kc,rfl,hb,hx,hr⟩:=h
  exact ⟨b,hb,hx.lt,by rw [hx.cell 0];rfl,Or.inl rfl⟩
 | d+1,.inr l,v,h=>by
  obtain ⟨b,g,kc,xs,rfl,hb,hx,_⟩:=h
  exact ⟨b,hb,hx.lt,by rw [hx.cell 0];rfl,Or.inr rfl⟩

theorem flat_len_take {d:Nat} (l:List (Ro d)) (k:Nat) (h:k<l.length):((l.take (k+1)).flatMap (keysR d)).length=((l.take k).flatMap (keysR d)).length+(keysR d l[k]).length:=by
 rw [flat_take (keysR d) l k h,List.length_append]

set_option maxHeartbeats 4000000 in
theorem recountInner_any (d b g ln kc:Nat) (l:List (Ro d)) (x:Int) (S:Nat->Prop) (xs:List Value) (w:World) (h:Bx w b 251 #[.int .i64 x,.slice (some ⟨g,0,none⟩) ln kc]) (hln:ln=l.length) (hl5:ln<=5000) (hlen:(l.flatMap (keysR d)).length<=1099511627776)
  (hc:∀j u,xs[j]?=some u->w.cell? ⟨g,j,none⟩=some u) (hg:g≠b) (hS:¬ S b) (hk:∀k (h:k<l.length),∃u,xs[k]?=some u/\TAt S w d l[k] u) :
  Calls Tryz.prog 148 #[.pointer (some ⟨b,0,none⟩)] w fun e w'=>e=.returned (.tuple #[])/\w.grownBy w' (some b)/\w'.heap.size=w.heap.size/\Bx w' b 251 #[.int .i64 ((l.flatMap (keysR d)).length:Int),.slice (some ⟨g,0,none⟩) ln kc]:=by
 have HK:Hid (∀W:World,w.grownBy W (some b)->∀k (h:k<l.length),∃u bb,W.cell? ⟨g,k,none⟩=some u/\bb≠b/\W.cell? ⟨bb,0,none⟩=some (.int .i64 ((keysR d l[k]).length:Int))/\(u=.iface 243 (.pointer (some ⟨bb,0,none⟩))\/u=.iface 248 (.pointer (some ⟨bb,0,none⟩)))):=by
  intro W hW k hkl
  obtain ⟨u,hu,ht⟩:=hk k hkl
  obtain ⟨bb,hb1,hb2,hb3,hb4⟩:=ht.count
  have hne:bb≠b:=fun e=>hS (e ▸ hb1)
  exact ⟨u,bb,hW.cell (hc k u hu) (fun e=>by injection e with e;exact hg e),hne,hW.cell hb3 (fun e=>by injection e with e;exact hne e),hb4⟩
 have HLn:Hid (ln=l.length/\(l.flatMap (keysR d)).length<=1099511627776):=⟨hln,hlen⟩
 have c1:=h.cell 1
 have c0:=h.cell 0
 have f0:=h.frozen 0
 have hlt:=h.lt
 simp at c0 c1
 have H0:Hid (w.grownBy (w.setCell ⟨b,0,none⟩ (.int .i64 0)) (some b)/\Bx (w.setCell ⟨b,0,none⟩ (.int .i64 0)) b 251 #[.int .i64 0,.slice (some ⟨g,0,none⟩) ln kc]):=by
  refine ⟨⟨rfl,rfl,rfl,by simp [World.setCell],fun k hk hne=>Below.heap_setCell _ _ _ _ (fun e=>hne (by rw [e]))⟩,h.set 0 _⟩
 clear h hc hk hln hlen
 go_enter Tryz.func148,Tryz.ntmps148
 go_wp2
 go_loopw [13] (fun i wr=>∃k:Nat,k<=ln/\i=.int .i64 k/\w.grownBy wr (some b)/\wr.heap.size=w.heap.size/\Bx wr b 251 #[.int .i64 (((l.take k).flatMap (keysR d)).length:Int),.slice (some ⟨g,0,none⟩) ln kc]) (fun i _=>ln-(intOf i).toNat)
 case atStart=>exact ⟨0,Nat.zero_le _,rfl,H0.out.1,by simp [World.setCell],by simpa using H0.out.2⟩
 case round=>
  obtain ⟨k,hkl,rfl,hgr,hsz,hbx⟩:=hrel
  clear H0 c0 c1 f0
  have HG:Hid (w.grownBy wr (some b)/\wr.heap.size=w.heap.size/\Bx wr b 251 #[.int .i64 (((l.take k).flatMap (keysR d)).length:Int),.slice (some ⟨g,0,none⟩) ln kc]):=⟨hgr,hsz,hbx⟩
  obtain ⟨A,hA⟩:∃A:Int,A=(((l.take k).flatMap (keysR d)).length:Int):=⟨_,rfl⟩
  rw [<- hA] at hbx
  have c0:=hbx.cell 0
  have f0:=hbx.frozen 0
  have hlt2:=hbx.lt
  simp at c0
  clear hgr hsz hbx
  by_cases hlt:k<ln
  ·have hlk:k<l.length:=by rw [<- HLn.out.1];exact hlt
   obtain ⟨u,bb,hu,hne,hcc,hform⟩:=HK.out wr HG.out.1 k hlk
   have e12:=flat_len_take l k hlk
   have hle:=flat_take_le (keysR d) l (k+1)
   have hL:=HLn.out.2
   obtain ⟨C,hC⟩:∃C:Int,C=((keysR d l[k]).length:Int):=⟨_,rfl⟩
   have hA0:0<=A/\A<=1099511627776:=by omega
   have hC0:0<=C/\C<=1099511627776:=by omega
   rw [<- hC] at hcc
   have HS:Hid ((((l.take (k+1)).flatMap (keysR d)).length:Int)=A+C):=by
    show (((l.take (k+1)).flatMap (keysR d)).length:Int)=A+C
    rw [e12,hA,hC]
    omega
   have HX:Hid (w.grownBy (wr.drew.setCell ⟨b,0,none⟩ (.int .i64 (A+C))) (some b)/\(wr.drew.setCell ⟨b,0,none⟩ (.int .i64 (A+C))).heap.size=w.heap.size/\Bx (wr.drew.setCell ⟨b,0,none⟩ (.int .i64 (A+C))) b 251 #[.int .i64 (((l.take (k+1)).flatMap (keysR d)).length:Int),.slice (some ⟨g,0,none⟩) ln kc]):=by
    obtain ⟨q1,q2,q3⟩:=HG.out
    have hs:(wr.drew.setCell ⟨b,0,none⟩ (.int .i64 (A+C))).heap.size=wr.heap.size:=Eq.trans (show (wr.drew.setCell ⟨b,0,none⟩ (.int .i64 (A+C))).heap.size=wr.drew.heap.size by simp [World.setCell]) rfl
    refine ⟨⟨q1.os,q1.tape,q1.output,by rw [hs];exact q1.size,fun k hk hne=>?_⟩,by rw [hs];exact q2,?_⟩
    ·rw [Below.heap_setCell _ _ _ _ (fun e=>hne (by rw [e]))]
     exact q1.block k hk hne
    ·rw [HS.out]
     exact q3.drew.set 0 _
   clear hA hC e12 hle hL
   rcases hform with rfl|rfl
   ·have HB:Hid (∀W:World,W.cell? ⟨bb,0,none⟩=some (.int .i64 C)->Calls Tryz.prog 147 #[.pointer (some ⟨bb,0,none⟩)] W fun e w'=>e=.returned (.int .i64 C)/\w'=W):=fun W hW=>below_any bb C W hW
    go_wp2
    go_region_with (go_at_call 147;refine (HB.out _ (by simpa using hcc)).mono ?_;rintro e w2 ⟨rfl,rfl⟩)
    all_goals
     go_wp2
     go_roundw
     case rel=>exact ⟨k+1,by omega,by go_num,HX.out⟩
     case measure=>simp [intOf];omega
   ·have HB:Hid (∀W:World,W.cell? ⟨bb,0,none⟩=some (.int .i64 C)->Calls Tryz.prog 147 #[.pointer (some ⟨bb,0,none⟩)] W fun e w'=>e=.returned (.int .i64 C)/\w'=W):=fun W hW=>below_any bb C W hW
    go_wp2
    go_region_with (go_at_call 147;refine (HB.out _ (by simpa using hcc)).mono ?_;rintro e w2 ⟨rfl,rfl⟩)
    all_goals
     go_wp2
     go_roundw
     case rel=>exact ⟨k+1,by omega,by go_num,HX.out⟩
     case measure=>simp [intOf];omega
  ·have e:k=ln:=by omega
   subst e
   have HE:Hid ((l.take k).flatMap (keysR d)=l.flatMap (keysR d)):=by
    show (l.take k).flatMap (keysR d)=l.flatMap (keysR d)
    rw [HLn.out.1,List.take_length]
   go_wp2
   go_end0
   refine ⟨rfl,HG.out.1,HG.out.2.1,?_⟩
   have q:=HG.out.2.2
   rw [HE.out] at q
   exact q

def AnyC (_:Nat) (_:Nat->Int) (_:Nat->ByteArray) (_:Nat->Bool) (_:Nat->ByteArray):Prop:=True


set_option maxHeartbeats 2000000 in
theorem markInts_eq (a:Option Addr) (n c k:Nat) (X:Nat->Int) (w:World) (h:OwnV w 2 a n (fun i=>.int .i64 (X i))) (hk:1<=k) (hk2:k+n<=1073741824) :
  Calls Tryz.prog 19 #[.slice a n c,.int .i64 (k:Int)] w fun e w'=>e=.returned (.int .i64 ((k+n:Nat):Int))/\w.grownBy w' (a.map (·.block))/\(n=0->w'=w)/\OwnV w' 2 a n (fun i=>.int .i64 ((k+i:Nat):Int)):=by
 by_cases hn0:n=0
 ·subst hn0
  go_enter Tryz.func19,Tryz.ntmps19
  go_wp2
  go_loopw [1,5] (fun q i wr=>q=.int .i64 (k:Int)/\i=.int .i64 0/\wr=w) (fun _ i _=>1-(intOf i).toNat)
  case atStart=>exact ⟨rfl,rfl,rfl⟩
  case round=>
   obtain ⟨rfl,rfl,rfl⟩:=hrel
   go_wp2
   go_ret
   exact ⟨by simp,grown_refl _ _,fun _=>rfl,.inl rfl⟩
 ·obtain ⟨g,rfl,hrow⟩:=h.resolve_left hn0
  have HR:Hid (rowIn w g 2 n (fun i=>.int .i64 (X i))):=hrow
  clear hrow h
  have HN0:Hid (¬ n=0):=hn0
  clear hn0
  go_enter Tryz.func19,Tryz.ntmps19
  go_wp2
  go_loopw [1,5] (fun q i wr=>∃(j p:Nat),j<=n/\i=.int .i64 j/\q=.int .i64 p/\p=k+j/\w.grownBy wr (some g)/\rowIn wr g 2 n (fun i=>.int .i64 (if i<j then ((k+i:Nat):Int) else X i))) (fun _ i _=>n-(intOf i).toNat)
  case atStart=>exact ⟨0,k,Nat.zero_le _,rfl,rfl,rfl,grown_refl _ _,HR.out.congr (fun i _=>by simp)⟩
  case round=>
   obtain ⟨j,p,hj,rfl,rfl,hp,hgr,hrow⟩:=hrel
   have HS:Hid (p=k+j/\w.grownBy wr (some g)/\rowIn wr g 2 n (fun i=>.int .i64 (if i<j then ((k+i:Nat):Int) else X i))):=⟨hp,hgr,hrow⟩
   by_cases hlt:j<n
   ·have hpb:1<=p/\p<=1073741824:=by omega
    have i0:(0:Int)<=(j:Int):=by omega
    have i1:(j:Int)<(n:Int):=by omega
    have c1:=hrow.cell hlt
    have f1:=hrow.frozen j
    have l1:=hrow.lt
    have HX:Hid (w.grownBy (wr.setCell ⟨g,j,none⟩ (.int .i64 (p:Int))) (some g)/\rowIn (wr.setCell ⟨g,j,none⟩ (.int .i64 (p:Int))) g 2 n (fun i=>.int .i64 (if i<j+1 then ((k+i:Nat):Int) else X i))):=by
     refine ⟨grown_trans HS.out.2.1 (grown_set _ _ _ _),(hrow.set j _).congr (fun i hi=>?_)⟩
     by_cases e:i=j
     ·subst e;simp [HS.out.1]
     ·by_cases e2:i<j
      ·have:i<j+1:=by omega
       simp [e,e2,this]
      ·have:¬ i<j+1:=by omega
       simp [e,e2,this]
    have HP:Hid (p+1=k+(j+1)):=by
     show p+1=k+(j+1)
     have:=HS.out.1
     omega
    clear hp hgr hrow HR HS
    go_wp2
    go_roundw
    case rel=>exact ⟨j+1,p+1,by omega,by go_num,by go_num,HP.out,HX.out⟩
    case measure=>simp [intOf];omega
   ·have e:j=n:=by omega
    subst e
    clear hp hgr hrow
    go_wp2
    go_ret
    exact ⟨by rw [HS.out.1];rfl,HS.out.2.1,fun h=>absurd h HN0.out,.inr ⟨g,rfl,HS.out.2.2.congr (fun i hi=>by simp [hi])⟩⟩


set_option maxHeartbeats 2000000 in
theorem heldInts_any (x:Int) (a:Option Addr) (n c k:Nat) (hx:x=(k:Int)) (w:World) (h:Rd .i64 w a n (fun i=>((k+i:Nat):Int))) (hk2:k+n<=1073741824) :
  Calls Tryz.prog 20 #[.slice a n c,.int .i64 x] w fun e w'=>e=.returned (.int .i64 ((k+n:Nat):Int))/\Below w.heap.size w w':=by
 subst hx
 have HR:Hid (Rd .i64 w a n (fun i=>((k+i:Nat):Int))):=h
 clear h
 go_enter Tryz.func20,Tryz.ntmps20
 go_wp2
 go_loopw [1,5] (fun q i wr=>∃j p:Nat,j<=n/\i=.int .i64 j/\q=.int .i64 p/\p=k+j/\Below w.heap.size w wr) (fun _ i _=>n-(intOf i).toNat)
 case atStart=>exact ⟨0,k,Nat.zero_le _,rfl,rfl,rfl,Below.refl _ _⟩
 case round=>
  obtain ⟨j,p,hj,rfl,rfl,hp,hbel⟩:=hrel
  have HS:Hid (p=k+j/\Below w.heap.size w wr):=⟨hp,hbel⟩
  have hpb:p<=1073741824:=by omega
  by_cases hlt:j<n
  ·rcases HR.out.below hbel with q|⟨b,o,rfl,hc⟩
   ·omega
   have s1:wr.cell? ⟨b,o+j,none⟩=some (.int .i64 (p:Int)):=by rw [hp];exact hc j hlt
   have i0:(0:Int)<=(j:Int):=by omega
   have i1:(j:Int)<(n:Int):=by omega
   have HP:Hid (p+1=k+(j+1)):=by
    show p+1=k+(j+1)
    omega
   have hq:((p:Int) != (p:Int))=false:=by simp
   clear hc hp hbel
   go_wp2
   go_roundw
   case rel=>exact ⟨j+1,p+1,by omega,by go_num,by go_num,HP.out,HS.out.2⟩
   case measure=>simp [intOf];omega
  ·have e:j=n:=by omega
   subst e
   clear hp hbel
   go_wp2
   go_ret
   exact ⟨by rw [HS.out.1];rfl,HS.out.2⟩

section
variable {w w' : World} {B g n:Nat} {N:Nat->Tn} {KA DA:Nat->Option Addr} {KC DC:Nat->Nat}
theorem OwnTn.of (h:OwnTn w B g n N KA DA KC DC) (N1:Nat->Tn) (hrow:rowIn w' g 210 (n*4) (tnCell N1 KA DA KC DC)) (he:∀i,(N1 i).kn=(N i).kn/\(N1 i).dn=(N i).dn) (hk:∀i,i<n->OwnS w' B (KA i) (N1 i).kn (N1 i).ks) (hd:∀i,i<n->OwnI w' B (DA i) (N1 i).dn (N1 i).kd):OwnTn w' B g n N1 KA DA KC DC:=by
 refine ⟨h.le,hrow,hk,hd,fun i j hi hj hij h1 h2=>h.apartK i j hi hj hij ?_ ?_,fun i j hi hj hij h1 h2=>h.apartD i j hi hj hij ?_ ?_⟩
 ·rw [<- (he i).1];exact h1
 ·rw [<- (he j).1];exact h2
 ·rw [<- (he i).2];exact h1
 ·rw [<- (he j).2];exact h2

theorem OwnTn.flag (h1:OwnTn w B g n N KA DA KC DC) (k:Nat) (v:Bool):OwnTn (w.setCell ⟨g,k*4,none⟩ (.bool v)) B g n (fun i=>if i=k then { N k with lf:=v } else N i) KA DA KC DC:=by
 refine OwnTn.of h1 (fun i=>if i=k then { N k with lf:=v } else N i) ((h1.row.set (k*4) _).congr (fun c hc=>?_)) (fun i=>?_) (fun i hi=>?_) (fun i hi=>?_)
 ·by_cases e1:c=k*4
  ·subst e1;rw [if_pos rfl,tnCell_0];simp
  ·rw [if_neg e1]
   unfold tnCell
   by_cases e2:c / 4=k
   ·have e3:¬ c % 4=0:=by omega
    simp [e2,e3]
   ·simp [e2]
 ·by_cases e1:i=k
  ·subst e1;simp
  ·simp [e1]
 ·have q:OwnS w B (KA i) ((fun i=>if i=k then { N k with lf:=v } else N i) i).kn ((fun i=>if i=k then { N k with lf:=v } else N i) i).ks:=by
   by_cases e1:i=k
   ·subst e1;simpa using h1.keys i hi
   ·simpa [e1] using h1.keys i hi
  rcases q with q|⟨b,q1,q2,q3⟩
  ·exact .inl q
  ·exact .inr ⟨b,q1,q2,q3.of_block (Below.heap_setCell _ _ _ _ (q3.ne h1.row (by decide)))⟩
 ·have q:OwnI w B (DA i) ((fun i=>if i=k then { N k with lf:=v } else N i) i).dn ((fun i=>if i=k then { N k with lf:=v } else N i) i).kd:=by
   by_cases e1:i=k
   ·subst e1;simpa using h1.kids i hi
   ·simpa [e1] using h1.kids i hi
  rcases q with q|⟨b,q1,q2,q3⟩
  ·exact .inl q
  ·exact .inr ⟨b,q1,q2,q3.of_block (Below.heap_setCell _ _ _ _ (q3.ne h1.row (by decide)))⟩

theorem OwnTn.count (h1:OwnTn w B g n N KA DA KC DC) (k:Nat) (v:Int):OwnTn (w.setCell ⟨g,k*4+3,none⟩ (.int .i64 v)) B g n (fun i=>if i=k then { N k with ct:=v } else N i) KA DA KC DC:=by
 refine OwnTn.of h1 (fun i=>if i=k then { N k with ct:=v } else N i) ((h1.row.set (k*4+3) _).congr (fun c hc=>?_)) (fun i=>?_) (fun i hi=>?_) (fun i hi=>?_)
 ·by_cases e1:c=k*4+3
  ·subst e1;rw [if_pos rfl,tnCell_3];simp
  ·rw [if_neg e1]
   unfold tnCell
   by_cases e2:c / 4=k
   ·have e3:c % 4=0\/c % 4=1\/c % 4=2:=by omega
    rcases e3 with e3|e3|e3 <;> simp [e2,e3]
   ·simp [e2]
 ·by_cases e1:i=k
  ·subst e1;simp
  ·simp [e1]
 ·have q:OwnS w B (KA i) ((fun i=>if i=k then { N k with ct:=v } else N i) i).kn ((fun i=>if i=k then { N k with ct:=v } else N i) i).ks:=by
   by_cases e1:i=k
   ·subst e1;simpa using h1.keys i hi
   ·simpa [e1] using h1.keys i hi
  rcases q with q|⟨b,q1,q2,q3⟩
  ·exact .inl q
  ·exact .inr ⟨b,q1,q2,q3.of_block (Below.heap_setCell _ _ _ _ (q3.ne h1.row (by decide)))⟩
 ·have q:OwnI w B (DA i) ((fun i=>if i=k then { N k with ct:=v } else N i) i).dn ((fun i=>if i=k then { N k with ct:=v } else N i) i).kd:=by
   by_cases e1:i=k
   ·subst e1;simpa using h1.kids i hi
   ·simpa [e1] using h1.kids i hi
  rcases q with q|⟨b,q1,q2,q3⟩
  ·exact .inl q
  ·exact .inr ⟨b,q1,q2,q3.of_block (Below.heap_setCell _ _ _ _ (q3.ne h1.row (by decide)))⟩

theorem OwnTn.setKeys (h1:OwnTn w B g n N KA DA KC DC) {k:Nat} (hk:k<n) (X:Nat->ByteArray) (hg:w.grownBy w' ((KA k).map (·.block))) (hz:(N k).kn=0->w'=w) (ho:OwnV w' 9 (KA k) (N k).kn (fun i=>.string (X i))):OwnTn w' B g n (fun i=>if i=k then { N k with ks:=X } else N i) KA DA KC DC:=by
 by_cases hl:(N k).kn=0
 ·rw [hz hl]
  refine OwnTn.of h1 _ (h1.row.congr (fun c hc=>?_)) (fun i=>?_) (fun i hi=>?_) (fun i hi=>?_)
  ·unfold tnCell
   by_cases e2:c / 4=k
   ·simp [e2]
   ·simp [e2]
  ·by_cases e1:i=k
   ·subst e1;simp
   ·simp [e1]
  ·by_cases e1:i=k
   ·subst e1;first|exact .inl (by simpa using hl)|simpa using h1.keys i hi
   ·simpa [e1] using h1.keys i hi
  ·by_cases e1:i=k
   ·subst e1;first|exact .inl (by simpa using hl)|simpa using h1.kids i hi
   ·simpa [e1] using h1.kids i hi
 have hl' : (N k).kn≠0:=hl
 obtain ⟨gk,hA,hgB,hrk⟩:=(h1.keys k hk).resolve_left hl'
 rw [hA] at hg
 have hblk:∀i,i<w.heap.size->i≠gk->w'.heap[i]?=w.heap[i]?:=fun i hi hne=>hg.block i hi (fun q=>by injection q with q;exact hne q)
 refine OwnTn.of h1 (fun i=>if i=k then { N k with ks:=X } else N i) ((h1.row.of_block (hblk g h1.row.lt (fun q=>(hrk.ne h1.row (by decide)) q.symm))).congr (fun c hc=>?_)) (fun i=>?_) (fun i hi=>?_) (fun i hi=>?_)
 ·unfold tnCell
  by_cases e2:c / 4=k
  ·simp [e2]
  ·simp [e2]
 ·by_cases e1:i=k
  ·subst e1;simp
  ·simp [e1]
 ·by_cases e1:i=k
  ·subst e1
   obtain ⟨g2,hA2,hr2⟩:=ho.resolve_left hl
   rw [hA] at hA2
   injection hA2 with hA2
   injection hA2 with hA2
   subst hA2
   simp only [if_true]
   exact .inr ⟨gk,hA,hgB,hr2⟩
  ·simp only [if_neg e1]
   by_cases h0:(N i).kn=0
   ·exact .inl h0
   ·obtain ⟨gi,hAi,hgi,hri⟩:=(h1.keys i hi).resolve_left h0
    refine .inr ⟨gi,hAi,hgi,hri.of_block (hblk gi hri.lt (fun q=>?_))⟩
    subst q
    exact h1.apartK i k hi hk e1 h0 hl' (by rw [hA,hAi])
 ·have q:OwnI w B (DA i) ((fun i=>if i=k then { N k with ks:=X } else N i) i).dn ((fun i=>if i=k then { N k with ks:=X } else N i) i).kd:=by
   by_cases e1:i=k
   ·subst e1;simpa using h1.kids i hi
   ·simpa [e1] using h1.kids i hi
  rcases q with q|⟨b,q1,q2,q3⟩
  ·exact .inl q
  ·exact .inr ⟨b,q1,q2,q3.of_block (hblk b q3.lt (q3.ne hrk (by decide)))⟩

theorem OwnTn.setKids (h1:OwnTn w B g n N KA DA KC DC) {k:Nat} (hk:k<n) (X:Nat->Int) (hg:w.grownBy w' ((DA k).map (·.block))) (hz:(N k).dn=0->w'=w) (ho:OwnV w' 2 (DA k) (N k).dn (fun i=>.int .i64 (X i))):OwnTn w' B g n (fun i=>if i=k then { N k with kd:=X } else N i) KA DA KC DC:=by
 by_cases hl:(N k).dn=0
 ·rw [hz hl]
  refine OwnTn.of h1 _ (h1.row.congr (fun c hc=>?_)) (fun i=>?_) (fun i hi=>?_) (fun i hi=>?_)
  ·unfold tnCell
   by_cases e2:c / 4=k
   ·simp [e2]
   ·simp [e2]
  ·by_cases e1:i=k
   ·subst e1;simp
   ·simp [e1]
  ·by_cases e1:i=k
   ·subst e1;first|exact .inl (by simpa using hl)|simpa using h1.keys i hi
   ·simpa [e1] using h1.keys i hi
  ·by_cases e1:i=k
   ·subst e1;first|exact .inl (by simpa using hl)|simpa using h1.kids i hi
   ·simpa [e1] using h1.kids i hi
 have hl' : (N k).dn≠0:=hl
 obtain ⟨gk,hA,hgB,hrk⟩:=(h1.kids k hk).resolve_left hl'
 rw [hA] at hg
 have hblk:∀i,i<w.heap.size->i≠gk->w'.heap[i]?=w.heap[i]?:=fun i hi hne=>hg.block i hi (fun q=>by injection q with q;exact hne q)
 refine OwnTn.of h1 (fun i=>if i=k then { N k with kd:=X } else N i) ((h1.row.of_block (hblk g h1.row.lt (fun q=>(hrk.ne h1.row (by decide)) q.symm))).congr (fun c hc=>?_)) (fun i=>?_) (fun i hi=>?_) (fun i hi=>?_)
 ·unfold tnCell
  by_cases e2:c / 4=k
  ·simp [e2]
  ·simp [e2]
 ·by_cases e1:i=k
  ·subst e1;simp
  ·simp [e1]
 ·have q:OwnS w B (KA i) ((fun i=>if i=k then { N k with kd:=X } else N i) i).kn ((fun i=>if i=k then { N k with kd:=X } else N i) i).ks:=by
   by_cases e1:i=k
   ·subst e1;simpa using h1.keys i hi
   ·simpa [e1] using h1.keys i hi
  rcases q with q|⟨b,q1,q2,q3⟩
  ·exact .inl q
  ·exact .inr ⟨b,q1,q2,q3.of_block (hblk b q3.lt (q3.ne hrk (by decide)))⟩
 ·by_cases e1:i=k
  ·subst e1
   obtain ⟨g2,hA2,hr2⟩:=ho.resolve_left hl
   rw [hA] at hA2
   injection hA2 with hA2
   injection hA2 with hA2
   subst hA2
   simp only [if_true]
   exact .inr ⟨gk,hA,hgB,hr2⟩
  ·simp only [if_neg e1]
   by_cases h0:(N i).dn=0
   ·exact .inl h0
   ·obtain ⟨gi,hAi,hgi,hri⟩:=(h1.kids i hi).resolve_left h0
    refine .inr ⟨gi,hAi,hgi,hri.of_block (hblk gi hri.lt (fun q=>?_))⟩
    subst q
    exact h1.apartD i k hi hk e1 h0 hl' (by rw [hA,hAi])

end
end Go.Proofs.YtpaomghibppgkaaGreat
