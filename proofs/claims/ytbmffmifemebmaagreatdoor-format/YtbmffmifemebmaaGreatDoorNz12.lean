import Derived.Test.YtbmffmifemebmaaGreatDoorNz11
import Derived.Test.YtbmffmifemebmaaGreatDoorNz1
import Derived.WalkSpells
import Derived.Test.YtbmffmifemebmaaGreatDoorNz6
import Derived.Test.YtbmffmifemebmaaGreatDoorNz9
import Derived.Test.YtbmffmifemebmaaGreatDoorNz10
import Derived.RangeFuncBound
set_option linter.unusedVariables false
set_option maxRecDepth 100000
namespace Go.Proofs.YtbmffmifemebmaaGreatDoor
open Go.RowKit Go.Deep

theorem byteRow_succ (f:Nat->Int) (k:Nat):byteRow f k++[.int .u8 (f k)]=byteRow f (k+1):=by
 unfold byteRow
 rw [List.range_succ,List.map_append]
 rfl
theorem byteRow_cat (f g:Nat->Int) (n m:Nat):byteRow f n++byteRow g m=byteRow (fun j=>if j<n then f j else g (j-n)) (n+m):=by
 apply List.ext_getElem?
 intro i
 by_cases h1:i<n
 ·rw [List.getElem?_append_left (by rw [byteRow_length];exact h1),byteRow_get _ _ _ h1,byteRow_get _ _ _ (by omega)]
  simp [h1]
 ·by_cases h2:i<n+m
  ·rw [List.getElem?_append_right (by rw [byteRow_length];omega),byteRow_length,byteRow_get _ _ _ (by omega),byteRow_get _ _ _ h2]
   simp [h1]
  ·rw [List.getElem?_eq_none (by simp [byteRow_length];omega),List.getElem?_eq_none (by rw [byteRow_length];omega)]

theorem shift_byteAt (v:Int) (k:Nat):v / 256 ^ k / 256=v / 256 ^ (k+1):=by
 rw [Int.pow_succ,Int.ediv_ediv_of_nonneg (Int.le_of_lt (Int.pow_pos (by omega)))]

set_option maxHeartbeats 1000000 in
theorem l2Put_any (v:Int) (n:Nat) (w:World) (hv:0<=v) (hv2:v<=9223372036854775807) (hn:n<=4) :
  Calls Tryz.prog 37 #[.int .i64 v,.int .i64 n] w fun e w'=>RetOwn w e w' n (byteAt v):=by
 obtain ⟨i0,hi,hz0,hz1,hz2⟩:=info_parts Tryz.info5
 have HI:Hid (Tryz.prog.info? 5=some i0/\i0.zero=some (.int .u8 0)/\i0.size=1/\i0.bytes=1):=⟨hi,hz0,hz1,hz2⟩
 clear hi hz0 hz1 hz2
 go_enter Tryz.func37,Tryz.ntmps37
 go_wp2
 go_loopw [0,5,6] (fun x u i wr=>∃k:Nat,k<=n/\i=.int .i64 k/\x=.int .i64 (v / 256 ^ k)/\wr.ownsRow w.heap.size 5 1 u k (byteRow (byteAt v) k)/\Below w.heap.size w wr) (fun _ _ i _=>n-(intOf i).toNat)
 case atStart=>exact ⟨0,Nat.zero_le _,rfl,by simp,World.ownsRow_lit w #[] 0 (Nat.le_refl _) (Nat.zero_le _) rfl,(Below.refl _ _).alloc (Nat.le_refl _) _⟩
 case round=>
  obtain ⟨k,hk,rfl,rfl,hown,hbel⟩:=hrel
  have hsz:=hbel.size
  have HB:Hid (Below w.heap.size w wr):=hbel
  have HO:Hid (wr.ownsRow w.heap.size 5 1 u5 k (byteRow (byteAt v) k)):=hown
  clear hbel hown
  by_cases hlt:k<n
  ·have hx0:0<=v / 256 ^ k:=Int.ediv_nonneg hv (Int.le_of_lt (Int.pow_pos (by omega)))
   have hx1:v / 256 ^ k<=9223372036854775807:=Int.le_trans (Int.ediv_le_self _ hv) hv2
   have HX0:Hid ((v / 256 ^ k) % 256=byteAt v k/\(v / 256 ^ k) / 256=v / 256 ^ (k+1)):=⟨rfl,shift_byteAt v k⟩
   generalize v / 256 ^ k=x at*
   have ht1:x.tmod 256=x % 256:=Int.tmod_eq_emod_of_nonneg hx0
   have ht2:x.tdiv 256=x / 256:=Int.tdiv_eq_ediv_of_nonneg hx0
   go_wp2_with (at_builtin;refine wpList_append_own _ rfl _ _ 22 rfl w.heap.size 5 i0 (.int .u8 0) 1 1 Tryz.underlying22 HI.out.1 HI.out.2.1 HI.out.2.2.1 HI.out.2.2.2 rfl (by decide) _ k (byteRow (byteAt v) k) rfl (HO.out.alloc _) ⟨wr.heap.size,0,none⟩ 1 1 [.int .u8 (x % 256)] rfl rfl ?c1 ?c2 ?c3 ?c4 ?c5 ?_)
   case c1=>exact cell_one_new _ _ _
   case c2=>intro u hu;simp at hu;subst hu;rfl
   case c3=>unfold maxLen;omega
   case c4=>omega
   case c5=>simp;omega
   ·intro v' w1 hown' hgrow _
    have HX:Hid (w1.ownsRow w.heap.size 5 1 v' (k+1) (byteRow (byteAt v) (k+1))/\Below w.heap.size w w1):=
     ⟨by rw [<- byteRow_succ,<- HX0.out.1];exact hown',(HB.out.alloc hsz _).grown hgrow (by simp;omega) (fun b e=>(HO.out.lt b e).1)⟩
    clear hown' hgrow HO HB
    go_wp2
    go_roundw
    case rel=>exact ⟨k+1,by omega,by go_num,by rw [HX0.out.2],HX.out⟩
    case measure=>simp [intOf];omega
  ·have e:k=n:=by omega
   subst e
   obtain ⟨a,c,hvv,h1,h2,h3⟩:=ownB_ofRow HO.out
   subst hvv
   have HE:Hid (OwnB wr w.heap.size a k (byteAt v)):=h1
   clear h1 HO
   go_wp2
   go_ret
   exact ⟨a,c,rfl,HE.out,HB.out,h2,h3⟩

def hornN (f:Nat->Int) (n:Nat):Nat->Int
 | 0=>0
 | k+1=>256*hornN f n k+f (n-1-k)
theorem hornN_range (f:Nat->Int) (n:Nat) (hf:∀i,i<n->0<=f i/\f i<256):∀k,k<=n->0<=hornN f n k/\hornN f n k<256 ^ k
 | 0,_=>by simp [hornN]
 | k+1,h=>by
  have ih:=hornN_range f n hf k (by omega)
  have hb:=hf (n-1-k) (by omega)
  unfold hornN
  rw [Int.pow_succ]
  omega
theorem horn_getN4 (f:Nat->Int):hornN f 4 4=getN f 0 4:=by
 simp only [hornN,getN]
 simp
 omega

set_option maxHeartbeats 1000000 in
theorem l2Get_any (a:Option Addr) (n c:Nat) (f:Nat->Int) (w:World) (h:Rd .u8 w a n f) (hf:∀i,i<n->0<=f i/\f i<256) (hn:n<=4) :
  Calls Tryz.prog 90 #[.slice a n c] w fun e w'=>e=.returned (.int .i64 (hornN f n n))/\w'=w:=by
 have H:Hid (Rd .u8 w a n f):=h
 have HF:Hid (∀i,i<n->0<=f i/\f i<256):=hf
 clear h hf
 go_enter Tryz.func90,Tryz.ntmps90
 go_wp2
 go_loop [3,4] (fun x i=>∃k:Nat,k<=n/\i=.int .i64 ((n:Int)-1-k)/\x=.int .i64 (hornN f n k)) (fun _ i=>(intOf i+1).toNat)
 case atStart=>exact ⟨0,Nat.zero_le _,by simp,rfl⟩
 case round=>
  obtain ⟨k,hk,rfl,rfl⟩:=hrel
  by_cases hlt:k<n
  ·rcases H.out with h0|⟨b,o,ha,hc⟩
   ·omega
   subst ha
   obtain ⟨j,hj⟩:∃j:Nat,(n:Int)-1-k=j:=⟨n-1-k,by omega⟩
   have hjn:j<n:=by omega
   have hcx:=hc j hjn
   have hb:=HF.out j hjn
   have hr:=hornN_range f n HF.out k hk
   have HN:Hid (hornN f n (k+1)=256*hornN f n k+f j):=by show 256*hornN f n k+f (n-1-k)=_;rw [show n-1-k=j by omega]
   have hr2:hornN f n k<16777216:=by
    have h3:=hr.2
    rcases pow_cases (show k<4 by omega) with ⟨_,_,_,e3⟩|⟨_,_,_,e3⟩|⟨_,_,_,e3⟩|⟨_,_,_,e3⟩ <;> (rw [e3] at h3;omega)
   have HJ:Hid ((n:Int)-1-k=j):=hj
   rw [hj]
   clear hc hj
   generalize hornN f n k=x0 at*
   generalize f j=b0 at*
   have hr0:=hr.1
   clear hr
   go_wp2
   go_round
   case rel=>exact ⟨k+1,by omega,by have:=HJ.out;go_num,by rw [HN.out]⟩
   case measure=>simp [intOf]
  ·have e:k=n:=by omega
   subst e
   have e2:(k:Int)-1-k=-1:=by omega
   rw [e2]
   go_wp2
   go_ret
   exact ⟨rfl,rfl⟩

def catL (L:Nat->Nat):Nat->Nat
 | 0=>0
 | k+1=>catL L k+L k
def catF (L:Nat->Nat) (F:Nat->Nat->Int):Nat->Nat->Int
 | 0=>fun _=>0
 | k+1=>fun j=>if j<catL L k then catF L F k j else F k (j-catL L k)

def RdS (w:World) (b o m:Nat) (L:Nat->Nat) (F:Nat->Nat->Int):Prop:=
 ∀i,i<m->∃ad cp,w.cell? ⟨b,o+i,none⟩=some (.slice ad (L i) cp)/\Rd .u8 w ad (L i) (F i)
theorem RdS.below {w w' : World} {b o m:Nat} {L:Nat->Nat} {F:Nat->Nat->Int} (h:RdS w b o m L F) (hb:Below w.heap.size w w'):RdS w' b o m L F:=fun i hi=>by
 obtain ⟨ad,cp,h1,h2⟩:=h i hi
 exact ⟨ad,cp,(hb.cell (p:=⟨b,o+i,none⟩) (World.block_lt_of_cell? _ _ h1)).trans h1,h2.below hb⟩

set_option maxHeartbeats 1000000 in
theorem l2Cat_row (b o m q:Nat) (L:Nat->Nat) (F:Nat->Nat->Int) (w:World) (h:RdS w b o m L F) (hm:m<=1048576) (hl:∀k,k<=m->catL L k<=1048576) (hL:∀k,k<m->L k<=1048576) :
  Calls Tryz.prog 36 #[.slice (some ⟨b,o,none⟩) m q] w fun e w'=>∃v,e=.returned v/\w'.ownsRow w.heap.size 5 1 v (catL L m) (byteRow (catF L F m) (catL L m))/\Below w.heap.size w w':=by
 have H:Hid (RdS w b o m L F):=h
 have HL:Hid ((∀k,k<=m->catL L k<=1048576)/\∀k,k<m->L k<=1048576):=⟨hl,hL⟩
 clear h hl hL
 go_enter Tryz.func36,Tryz.ntmps36
 go_wp2
 go_loopw [3,4] (fun u i wr=>∃k:Nat,k<=m/\i=.int .i64 k/\wr.ownsRow w.heap.size 5 1 u (catL L k) (byteRow (catF L F k) (catL L k))/\Below w.heap.size w wr) (fun _ i _=>m-(intOf i).toNat)
 case atStart=>exact ⟨0,Nat.zero_le _,rfl,World.ownsRow_lit w #[] 0 (Nat.le_refl _) (Nat.zero_le _) rfl,(Below.refl _ _).alloc (Nat.le_refl _) _⟩
 case round=>
  obtain ⟨k,hk,rfl,hown,hbel⟩:=hrel
  have hsz:=hbel.size
  have HB:Hid (Below w.heap.size w wr):=hbel
  have HO:Hid (wr.ownsRow w.heap.size 5 1 u3 (catL L k) (byteRow (catF L F k) (catL L k))):=hown
  clear hbel hown
  by_cases hlt:k<m
  ·obtain ⟨ad,cp,h1,h2⟩:=H.out.below HB.out k hlt
   have R2:Hid (Rd .u8 wr ad (L k) (F k)):=h2
   have l1:=HL.out.1 k hk
   have l2:=HL.out.2 k hlt
   clear h2
   go_wp2_with (at_builtin;refine wpList_append_rd rfl _ _ rfl w.heap.size _ (catL L k) (byteRow (catF L F k) (catL L k)) rfl HO.out ad (L k) cp (F k) rfl R2.out (by omega) hsz ?_)
   intro v' w1 hown' hgrow
   have HX:Hid (w1.ownsRow w.heap.size 5 1 v' (catL L (k+1)) (byteRow (catF L F (k+1)) (catL L (k+1)))/\Below w.heap.size w w1):=
    ⟨by show w1.ownsRow w.heap.size 5 1 v' (catL L k+L k) (byteRow (fun j=>if j<catL L k then catF L F k j else F k (j-catL L k)) (catL L k+L k));rw [<- byteRow_cat];exact hown',HB.out.grown hgrow hsz (fun b e=>(HO.out.lt b e).1)⟩
   clear hown' hgrow HO HB h1
   go_wp2
   go_roundw
   case rel=>exact ⟨k+1,by omega,by go_num,HX.out⟩
   case measure=>simp [intOf];omega
  ·have e:k=m:=by omega
   subst e
   go_wp2
   go_ret
   exact ⟨u3,rfl,HO.out,HB.out⟩

theorem l2Cat_any (b o m q:Nat) (L:Nat->Nat) (F:Nat->Nat->Int) (w:World) (h:RdS w b o m L F) (hm:m<=1048576) (hl:∀k,k<=m->catL L k<=1048576) (hL:∀k,k<m->L k<=1048576) :
  Calls Tryz.prog 36 #[.slice (some ⟨b,o,none⟩) m q] w fun e w'=>RetOwn w e w' (catL L m) (catF L F m):=by
 refine (l2Cat_row b o m q L F w h hm hl hL).mono ?_
 rintro e w' ⟨v,rfl,ho,hb⟩
 obtain ⟨a,c,hvv,h1,h2,h3⟩:=ownB_ofRow ho
 subst hvv
 exact ⟨a,c,rfl,h1,hb,h2,h3⟩

set_option maxHeartbeats 400000 in
theorem l2Number_any (x:Int) (w:World):Calls Tryz.prog 29 #[.int .i64 x] w fun e w'=>e=.returned (.bool (numB x))/\w'=w:=by
 by_cases h1:1<=x
 ·have HE:Hid (numB x=decide (x<=2000000000)):=by show _=_;unfold numB;rw [decide_eq_true h1];rfl
  go_enter Tryz.func29,Tryz.ntmps29
  go_wp2
  go_ret
  exact ⟨by rw [HE.out];rfl,rfl⟩
 ·have HE:Hid (numB x=false):=by show _=_;unfold numB;rw [decide_eq_false h1];rfl
  go_enter Tryz.func29,Tryz.ntmps29
  go_wp2
  go_ret
  exact ⟨by rw [HE.out];rfl,rfl⟩

set_option maxHeartbeats 1000000 in
theorem l2GoodSuper_any (gen ar fi:Int) (w:World) :
  Calls Tryz.prog 46 #[.agg #[.int .i64 gen,.int .i64 ar,.int .i64 fi]] w fun e w'=>e=.returned (.bool (goodB gen ar fi))/\Below w.heap.size w w':=by
 by_cases h1:0<=gen
 ·by_cases h2:gen<=2000000000
  ·by_cases h3:0<=ar
   ·by_cases h4:ar<=1
    ·have HE:Hid (goodB gen ar fi=numB fi):=by show _=_;unfold goodB areaB;rw [decide_eq_true h1,decide_eq_true h2,decide_eq_true h3,decide_eq_true (show ar<2 by omega)];rfl
     go_enter Tryz.func46,Tryz.ntmps46
     go_wp2_with fail
     refine (l2Number_any fi _).mono ?_
     rintro e w1 ⟨rfl,rfl⟩
     generalize numB fi=b at*
     go_wp2
     go_ret
     exact ⟨by rw [HE.out];rfl,below_alloc _ _⟩
    ·have HE:Hid (goodB gen ar fi=false):=by show _=_;unfold goodB areaB;rw [decide_eq_false (show ¬ ar<2 by omega)];simp
     go_enter Tryz.func46,Tryz.ntmps46
     go_wp2
     go_ret
     exact ⟨by rw [HE.out];rfl,below_alloc _ _⟩
   ·have HE:Hid (goodB gen ar fi=false):=by show _=_;unfold goodB areaB;rw [decide_eq_false h3];simp
    go_enter Tryz.func46,Tryz.ntmps46
    go_wp2
    go_ret
    exact ⟨by rw [HE.out];rfl,below_alloc _ _⟩
  ·have HE:Hid (goodB gen ar fi=false):=by show _=_;unfold goodB;rw [decide_eq_false h2];simp
   go_enter Tryz.func46,Tryz.ntmps46
   go_wp2
   go_ret
   exact ⟨by rw [HE.out];rfl,below_alloc _ _⟩
 ·have HE:Hid (goodB gen ar fi=false):=by show _=_;unfold goodB;rw [decide_eq_false h1];simp
  go_enter Tryz.func46,Tryz.ntmps46
  go_wp2
  go_ret
  exact ⟨by rw [HE.out];rfl,below_alloc _ _⟩
end Go.Proofs.YtbmffmifemebmaaGreatDoor
namespace Go.Proofs.YtbmffmifemebmaaGreatDoor
open Go

theorem late_skip {l:List Oper} {P:Program} {Q:Exit->Act->World->Prop} {S:World->Prop} {late:Nat} (i:Nat) {oi:Oper} (hp:Pick i l oi) {fuel:Nat} {listed:Array Bool} {a:Act} {w:World}
  (hs:Region.noSelect l.toArray=true) (hf:Region.free .any l.toArray listed i=true) (hr:(Region.ready .any l.toArray listed).contains i=true) (hwt:waitsB l.toArray listed i late (behind l.toArray i 8)=true)
  (hQ:∀c a w,Q (.panic c) (a.put oi.dst undef) w->Q (.panic c) a w) (hw:Region.wanted oi (yielded l.toArray a.tmps)=false) (hS:S w)
  (h:wpLate P .any l.toArray Q S late fuel (listed.setIfInBounds i true) (a.put oi.dst undef) w):wpLate P .any l.toArray Q S late (fuel+1) listed a w:=
 wpLate_take 8 hp.get hs hf hr hwt hQ (Or.inr ⟨hw,rfl⟩) hS h

theorem step_validSuper {ops:Array Oper} {o:Oper} {a:Act} {w:World} {K:Act->World->Prop} {Q:Exit->Act->World->Prop} {E:Prop} {t:TypeId} (hw:Region.wanted o (yielded ops a.tmps)=true) (x:Nat)
  (ho:o.op=.call { callee:=.value (.func 65),args:=#[.tmp x],argTypes:=#[t] }) (v:Value) (hx:a.tmps[x]?.getD undef=v)
  (h:Calls Tryz.prog 65 #[v] w fun e w'=>∃u,e=.returned u/\K (a.put o.dst u) w') :
  if Region.wanted o (yielded ops a.tmps)=true then Oper.wp Tryz.prog o a w K Q else E:=by
 rw [if_pos hw]
 unfold Oper.wp
 simp [execOp,ho,resolve,invoke,hx,go_sem]
 refine h.mono ?_
 rintro e w' ⟨u,rfl,hk⟩
 exact hk

theorem step_superSector {ops:Array Oper} {o:Oper} {a:Act} {w:World} {K:Act->World->Prop} {Q:Exit->Act->World->Prop} {E:Prop} {t:TypeId} (hw:Region.wanted o (yielded ops a.tmps)=true) (x:Nat)
  (ho:o.op=.call { callee:=.value (.func 116),args:=#[.tmp x],argTypes:=#[t] }) (v:Value) (hx:a.tmps[x]?.getD undef=v)
  (h:Calls Tryz.prog 116 #[v] w fun e w'=>∃u,e=.returned u/\K (a.put o.dst u) w') :
  if Region.wanted o (yielded ops a.tmps)=true then Oper.wp Tryz.prog o a w K Q else E:=by
 rw [if_pos hw]
 unfold Oper.wp
 simp [execOp,ho,resolve,invoke,hx,go_sem]
 refine h.mono ?_
 rintro e w' ⟨u,rfl,hk⟩
 exact hk

theorem exec_load_sec {act:Act} {o:Oper} {p:Nat} {g:Nat} {f:Nat->Int} {w:World} (ho:o.op=.load 192 (.tmp p)) (hp:act.tmps.getD p undef=.pointer (some ⟨g,0,none⟩)) (hs:Sec w g f):(execOp act.eval o).run Tryz.prog w=.ok (.value (.agg (secA f))) w:=by
 have h:=hs.load
 simp only [execOp,ho,Act.eval]
 rw [Sem.run_bind,hp,h]
 rfl
end Go.Proofs.YtbmffmifemebmaaGreatDoor
namespace Go.Proofs.YtbmffmifemebmaaGreatDoor
open Go.RowKit Go.Deep

def leastV (i k:Int):Int:=if i<k-1 then 48 else if 1<k then 1 else 0
theorem leastV_range (i k:Int):0<=leastV i k/\leastV i k<=48:=by unfold leastV;split <;> (try split) <;> omega

set_option maxHeartbeats 400000 in
theorem leastPiece_any (i k:Int) (w:World) (h0:-65536<=k) (h1:k<=65536):Calls Tryz.prog 231 #[.int .i64 i,.int .i64 k] w fun e w'=>e=.returned (.int .i64 (leastV i k))/\w'=w:=by
 by_cases c1:i<k-1
 ·have HE:Hid (leastV i k=48):=if_pos c1
  go_enter Tryz.func231,Tryz.ntmps231
  go_wp2
  go_ret
  exact ⟨by rw [HE.out];rfl,rfl⟩
 ·by_cases c2:1<k
  ·have HE:Hid (leastV i k=1):=(if_neg c1).trans (if_pos c2)
   go_enter Tryz.func231,Tryz.ntmps231
   go_wp2
   go_ret
   exact ⟨by rw [HE.out];rfl,rfl⟩
  ·have HE:Hid (leastV i k=0):=(if_neg c1).trans (if_neg c2)
   go_enter Tryz.func231,Tryz.ntmps231
   go_wp2
   go_ret
   exact ⟨by rw [HE.out];rfl,rfl⟩

def pieceB (f:Nat->Int) (seq i k:Int):Bool:=decide (leastV i k<=getN f 8 2) && decide (getN f 8 2<=48) && sameB f (recF seq i k (getN f 8 2).toNat (fun j=>f (12+j)))
def PieceRet (w:World) (e:Ending) (w' : World) (f:Nat->Int) (seq i k:Int):Prop:=Below w.heap.size w w'/\
 ((pieceB f seq i k=true/\e=.returned (.tuple #[.slice (some ⟨w.heap.size,12,none⟩) (getN f 8 2).toNat 52,.bool true])/\Sec w' w.heap.size f)\/(pieceB f seq i k=false/\e=.returned (.tuple #[.slice none 0 0,.bool false])))

theorem step_recSector {ops:Array Oper} {o:Oper} {a:Act} {w:World} {K:Act->World->Prop} {Q:Exit->Act->World->Prop} {E:Prop} {ts:Array TypeId} (hgd:o.guard=none) (x y z u:Nat)
  (ho:o.op=.call { callee:=.value (.func 149),args:=#[.tmp x,.tmp y,.tmp z,.tmp u],argTypes:=ts }) (v1 v2 v3 v4:Value) (h1:a.tmps[x]?.getD undef=v1) (h2:a.tmps[y]?.getD undef=v2) (h3:a.tmps[z]?.getD undef=v3) (h4:a.tmps[u]?.getD undef=v4)
  (h:Calls Tryz.prog 149 #[v1,v2,v3,v4] w fun e w'=>∃r,e=.returned r/\K (a.put o.dst r) w') :
  if Region.wanted o (yielded ops a.tmps)=true then Oper.wp Tryz.prog o a w K Q else E:=by
 have hw:Region.wanted o (yielded ops a.tmps)=true:=by simp [Region.wanted,hgd]
 rw [if_pos hw]
 unfold Oper.wp
 simp [execOp,ho,resolve,invoke,h1,h2,h3,h4,go_sem]
 refine h.mono ?_
 rintro e w' ⟨r,rfl,hk⟩
 exact hk

set_option maxHeartbeats 1000000 in
theorem readPiece_any (f:Nat->Int) (seq i k:Int) (w:World) (hr:∀j,j<64->0<=f j/\f j<256) (h0:-65536<=k) (h1:k<=65536) :
  Calls Tryz.prog 205 #[.agg (secA f),.int .i64 seq,.int .i64 i,.int .i64 k] w fun e w'=>PieceRet w e w' f seq i k:=by
 have HR:Hid (∀j,j<64->0<=f j/\f j<256):=hr
 have hsz:=getN_range f 8 2 (fun j hj=>hr (8+j) (by omega))
 obtain ⟨sz,hgn⟩:=Int.eq_ofNat_of_zero_le hsz.1
 have hsz2:sz<65536:=by have:=hsz.2;rw [hgn] at this;simp at this;omega
 have HP:Hid (pieceB f seq i k=(decide (leastV i k<=(sz:Int)) && decide ((sz:Int)<=48) && sameB f (recF seq i k sz (fun j=>f (12+j))))):=by
  show _=_
  unfold pieceB
  rw [hgn]
  rfl
 have HT:Hid ((getN f 8 2).toNat=sz):=by show _=_;rw [hgn];rfl
 have HGN:Hid (getN f 8 2=(sz:Int)):=hgn
 have hlr:=leastV_range i k
 clear hr hsz hgn
 go_enter Tryz.func205,Tryz.ntmps205
 go_wp2_with fail
 obtain ⟨W,hW⟩:∃W,W=w.alloc (.cells (secA f) 192):=⟨_,rfl⟩
 rw [<- hW]
 have BW:Hid (Below w.heap.size w W):=by rw [hW];exact below_alloc _ _
 have S0:Hid (Sec W w.heap.size f):=by rw [hW];exact Sec.new w f
 clear hW
 refine (number_any w.heap.size 8 2 f W S0.out HR.out (by omega) (by omega) (by omega)).mono ?_
 rintro e w1 ⟨rfl,hw⟩
 subst hw
 rw [HGN.out]
 go_wp2_with fail
 refine (leastPiece_any i k w1 h0 h1).mono ?_
 rintro e w2 ⟨rfl,hw⟩
 subst hw
 obtain ⟨W,rfl⟩:∃x,x=w2:=⟨_,rfl⟩
 generalize hlv:leastV i k=lv at*
 by_cases c1:(sz:Int)<lv
 ·have HF:Hid (pieceB f seq i k=false):=by
   show _=_
   rw [HP.out,decide_eq_false (by omega)]
   rfl
  go_wp2
  refine bodyPost_ret (v:=.tuple #[.slice none 0 0,.bool false]) (by simp [results,Tryz.results205,go_sem]) rfl ⟨BW.out,Or.inr ⟨HF.out,rfl⟩⟩
 by_cases c2:(sz:Int)<=48
 ·have c2' : ¬ (48:Int)<(sz:Int):=by omega
  have HQ:Hid (pieceB f seq i k=sameB f (recF seq i k sz (fun j=>f (12+j)))):=by
   show _=_
   rw [HP.out,decide_eq_true (by omega),decide_eq_true c2]
   rfl
  have i1:(12:Int)<=12+(sz:Int):=by omega
  have i2:(12:Int)+(sz:Int)<=64:=by omega
  cases hsame:sameB f (recF seq i k sz (fun j=>f (12+j))) with
  | true=>
   have hEq:∀w,(Op.equalIn 10000 192 (.agg (secA f)) (.agg (secA (recF seq i k sz (fun j=>f (12+j)))))).run Tryz.prog w=.ok true w:=fun w=>by rw [secEq,hsame]
   rw [hsame] at HQ
   go_wp2
   refine wp_region_late (S:=fun w'=>Sec w' w.heap.size f) 6 (by kernel_rfl) ?_ (fun hHeld=>?_)
   ·((try dsimp only);(first|exact hs3|exact S0.out))
   refine late_take 0 .zero (v:=.agg (secA f)) (by kernel_rfl) (by kernel_rfl) (by kernel_rfl) (by kernel_rfl) (fun _ _ _ h=>h) (by rfl) ?_ (by assumption) ?_
   ·(intro w hSw;(try dsimp only at hSw);exact exec_load_sec rfl rfl hSw)
   simp only [tkp]
   refine tk 1 (.succ .zero) (v:=?_) ?_ ?_
   rotate_left
   ·(intro w h;(try dsimp only at h);go_simp) <;> with_reducible rfl
   simp only [tkp]
   refine tk 2 (.succ (.succ .zero)) (v:=?_) ?_ ?_
   rotate_left
   ·(intro w h;(try dsimp only at h);go_simp) <;> with_reducible rfl
   simp only [tkp]
   refine tk 3 (.succ (.succ (.succ .zero))) (v:=?_) ?_ ?_
   rotate_left
   ·(intro w h;(try dsimp only at h);go_simp) <;> with_reducible rfl
   simp only [tkp]
   refine tk 4 (.succ (.succ (.succ (.succ .zero)))) (v:=?_) ?_ ?_
   rotate_left
   ·(intro w h;(try dsimp only at h);go_simp) <;> with_reducible rfl
   simp only [tkp]
   refine tk1 5 (.s5 .zero) (fun K hK=>?_)
   (refine step_recSector (by rfl) 26 27 28 29 (by rfl) (.int .i64 seq) (.int .i64 i) (.int .i64 k) (.slice (some ⟨w.heap.size,12,none⟩) sz 52) (by rfl) (by rfl) (by rfl) (by rfl) ?_;refine (recSector_any seq i k (some ⟨w.heap.size,12,none⟩) sz 52 (fun j=>f (12+j)) W.drew (S0.out.rd 12 sz (by omega)) (fun j hj=>HR.out (12+j) (by omega)) (by omega)).mono ?_;rintro e w3 ⟨rfl,hb3⟩;refine ⟨_,rfl,?_⟩;have hb3' : Below W.heap.size W w3:=(Below.refl _ _).drew.trans hb3;have hs3:Sec w3 w.heap.size f:=S0.out.below hb3';have HB3:Hid (Below w.heap.size w w3):=BW.out.trans (hb3'.mono BW.out.size))
   refine hK.out _ _ ?_ (fun hG=>?_)
   ·(intro _;(try dsimp only);(first|exact hs3|exact S0.out))
   clear hK K
   replace hHeld:=hG (by decide)
   clear hG
   try simp only [tkp]
   refine tk1 6 (.s5 (.succ .zero)) (fun K hK=>?_)
   go_simp
   refine hK.out _ _ ?_ (fun hG=>?_)
   ·(intro hne;exact absurd rfl hne)
   clear hK K hG
   refine wpLate_done (by kernel_rfl) ?_ _
   obtain ⟨w4,rfl⟩:∃x,x=w3:=⟨_,rfl⟩
   have HS3:Hid (Sec w4 w.heap.size f):=hs3
   clear hs3 hb3 hb3'
   go_wp2
   refine bodyPost_ret (v:=.tuple #[.slice (some ⟨w.heap.size,12,none⟩) sz 52,.bool true]) (by simp [results,Tryz.results205,go_sem]) rfl ⟨HB3.out,Or.inl ⟨HQ.out,by rw [HT.out],HS3.out⟩⟩
  | false=>
   have hEq:∀w,(Op.equalIn 10000 192 (.agg (secA f)) (.agg (secA (recF seq i k sz (fun j=>f (12+j)))))).run Tryz.prog w=.ok false w:=fun w=>by rw [secEq,hsame]
   rw [hsame] at HQ
   go_wp2
   refine wp_region_late (S:=fun w'=>Sec w' w.heap.size f) 6 (by kernel_rfl) ?_ (fun hHeld=>?_)
   ·((try dsimp only);(first|exact hs3|exact S0.out))
   refine late_take 0 .zero (v:=.agg (secA f)) (by kernel_rfl) (by kernel_rfl) (by kernel_rfl) (by kernel_rfl) (fun _ _ _ h=>h) (by rfl) ?_ (by assumption) ?_
   ·(intro w hSw;(try dsimp only at hSw);exact exec_load_sec rfl rfl hSw)
   simp only [tkp]
   refine tk 1 (.succ .zero) (v:=?_) ?_ ?_
   rotate_left
   ·(intro w h;(try dsimp only at h);go_simp) <;> with_reducible rfl
   simp only [tkp]
   refine tk 2 (.succ (.succ .zero)) (v:=?_) ?_ ?_
   rotate_left
   ·(intro w h;(try dsimp only at h);go_simp) <;> with_reducible rfl
   simp only [tkp]
   refine tk 3 (.succ (.succ (.succ .zero))) (v:=?_) ?_ ?_
   rotate_left
   ·(intro w h;(try dsimp only at h);go_simp) <;> with_reducible rfl
   simp only [tkp]
   refine tk 4 (.succ (.succ (.succ (.succ .zero)))) (v:=?_) ?_ ?_
   rotate_left
   ·(intro w h;(try dsimp only at h);go_simp) <;> with_reducible rfl
   simp only [tkp]
   refine tk1 5 (.s5 .zero) (fun K hK=>?_)
   (refine step_recSector (by rfl) 26 27 28 29 (by rfl) (.int .i64 seq) (.int .i64 i) (.int .i64 k) (.slice (some ⟨w.heap.size,12,none⟩) sz 52) (by rfl) (by rfl) (by rfl) (by rfl) ?_;refine (recSector_any seq i k (some ⟨w.heap.size,12,none⟩) sz 52 (fun j=>f (12+j)) W.drew (S0.out.rd 12 sz (by omega)) (fun j hj=>HR.out (12+j) (by omega)) (by omega)).mono ?_;rintro e w3 ⟨rfl,hb3⟩;refine ⟨_,rfl,?_⟩;have hb3' : Below W.heap.size W w3:=(Below.refl _ _).drew.trans hb3;have hs3:Sec w3 w.heap.size f:=S0.out.below hb3';have HB3:Hid (Below w.heap.size w w3):=BW.out.trans (hb3'.mono BW.out.size))
   refine hK.out _ _ ?_ (fun hG=>?_)
   ·(intro _;(try dsimp only);(first|exact hs3|exact S0.out))
   clear hK K
   replace hHeld:=hG (by decide)
   clear hG
   try simp only [tkp]
   refine tk1 6 (.s5 (.succ .zero)) (fun K hK=>?_)
   go_simp
   refine hK.out _ _ ?_ (fun hG=>?_)
   ·(intro hne;exact absurd rfl hne)
   clear hK K hG
   refine wpLate_done (by kernel_rfl) ?_ _
   obtain ⟨w4,rfl⟩:∃x,x=w3:=⟨_,rfl⟩
   clear hs3 hb3 hb3'
   go_wp2
   refine bodyPost_ret (v:=.tuple #[.slice none 0 0,.bool false]) (by simp [results,Tryz.results205,go_sem]) rfl ⟨HB3.out,Or.inr ⟨HQ.out,rfl⟩⟩
 ·have c2' : (48:Int)<(sz:Int):=by omega
  have HF:Hid (pieceB f seq i k=false):=by
   show _=_
   rw [HP.out,decide_eq_true (by omega),decide_eq_false c2]
   rfl
  go_wp2
  refine bodyPost_ret (v:=.tuple #[.slice none 0 0,.bool false]) (by simp [results,Tryz.results205,go_sem]) rfl ⟨BW.out,Or.inr ⟨HF.out,rfl⟩⟩

theorem step_write {ops:Array Oper} {o:Oper} {a:Act} {w:World} {K:Act->World->Prop} {Q:Exit->Act->World->Prop} {E:Prop} {ts:Array TypeId} (hgd:o.guard=none) (x y z:Nat)
  (ho:o.op=.call { callee:=.value (.func 117),args:=#[.tmp x,.tmp y,.tmp z],argTypes:=ts }) (u v t:Value) (hx:a.tmps[x]?.getD undef=u) (hy:a.tmps[y]?.getD undef=v) (hz:a.tmps[z]?.getD undef=t)
  (h:Calls Tryz.prog 117 #[u,v,t] w fun e w'=>(∃r,e=.returned r/\K (a.put o.dst r) w')\/(∃c,e=.panicked c/\Q (.panic c) a w')) :
  if Region.wanted o (yielded ops a.tmps)=true then Oper.wp Tryz.prog o a w K Q else E:=by
 have hw:Region.wanted o (yielded ops a.tmps)=true:=by simp [Region.wanted,hgd]
 rw [if_pos hw]
 unfold Oper.wp
 simp [execOp,ho,resolve,invoke,hx,hy,hz,go_sem]
 refine h.mono ?_
 rintro e w' (⟨r,rfl,hk⟩|⟨c,rfl,hk⟩)
 ·exact hk
 ·exact hk

set_option maxHeartbeats 1000000 in
theorem writeSuper_steps (b:Nat) (gen ar fi:Int) (w:World) (R:World->Prop) (g0:0<=gen) (g1:gen<=2000000000)
  (h:∀(w1:World) (g:Nat),Below w.heap.size w w1->w.heap.size<=g->Sec w1 g (superF gen ar fi)->Calls Tryz.prog 117 #[.pointer (some ⟨b,0,none⟩),.int .i64 (gen % 2),.slice (some ⟨g,0,none⟩) 64 64] w1 fun e w2=>(e=.panicked [{ v:=.iface 231 (.agg #[]),recovered:=false }]/\R w2)\/(e=.returned (.tuple #[])/\Calls Tryz.prog 102 #[.pointer (some ⟨b,0,none⟩)] w2 fun e w3=>Stepped e/\R w3)) :
  Calls Tryz.prog 67 #[.pointer (some ⟨b,0,none⟩),.agg #[.int .i64 gen,.int .i64 ar,.int .i64 fi]] w fun e w'=>Stepped e/\R w':=by
 have HW:Hid (∀(w1:World) (g:Nat),Below w.heap.size w w1->w.heap.size<=g->Sec w1 g (superF gen ar fi)->Calls Tryz.prog 117 #[.pointer (some ⟨b,0,none⟩),.int .i64 (gen % 2),.slice (some ⟨g,0,none⟩) 64 64] w1 fun e w2=>(e=.panicked [{ v:=.iface 231 (.agg #[]),recovered:=false }]/\R w2)\/(e=.returned (.tuple #[])/\Calls Tryz.prog 102 #[.pointer (some ⟨b,0,none⟩)] w2 fun e w3=>Stepped e/\R w3)):=h
 clear h
 go_enter Tryz.func67,Tryz.ntmps67
 go_wp2_with fail
 refine (superSector_any gen ar fi _).mono ?_
 rintro e w1 ⟨rfl,hb1⟩
 have hb1' : Below w.heap.size w w1:=(below_alloc _ _).trans (hb1.mono (by simp))
 have x0:w1.cell? ⟨w.heap.size,0,none⟩=some (.int .i64 gen):=(hb1.cell (p:=⟨w.heap.size,0,none⟩) (by simp)).trans (by simp)
 have z1:w.heap.size+1<=w1.heap.size:=by have:=hb1.size;simpa using this
 have B1:Hid (Below w.heap.size w w1):=hb1'
 clear hb1 hb1'
 go_wp2_with (first|(with_reducible refine wpList_alloc_sec ?_)|((with_reducible refine wpList_store_sec w1.heap.size (fun _=>0) (superF gen ar fi) ?_ ?_ (Sec.new w1 _) ?_);rfl;rfl))
 intro w2 hs2 ho2
 have x2:w2.cell? ⟨w.heap.size,0,none⟩=some (.int .i64 gen):=(World.cell?_of_block (a:=⟨w.heap.size,0,none⟩) (ho2.block w.heap.size (fun y e=>by injection e with e;subst e;show w1.heap.size≠w.heap.size;omega))).trans (((below_alloc w1 _).cell (p:=⟨w.heap.size,0,none⟩) (by show w.heap.size<w1.heap.size;omega)).trans x0)
 have S2:Hid (Sec w2.drew w1.heap.size (superF gen ar fi)):=hs2
 have B2:Hid (Below w.heap.size w w2.drew):=((B1.out.trans ((below_alloc _ _).mono (by omega))).trans (ho2.below (fun y e=>by injection e with e;subst e;show w.heap.size<=w1.heap.size;omega))).drew
 clear hs2 ho2 x0 B1
 have hg2:IntKind.i64.wrap (gen % 2)=gen % 2:=by rw [IntKind.wrap_i64];omega
 go_wp2
 simp only [tkp]
 refine wp_region_late (S:=fun w'=>w'.cell? ⟨w.heap.size,0,none⟩=some (.int .i64 gen)) 5 (by kernel_rfl) ?_ (fun hHeld=>?_)
 ·((try dsimp only);go_keep)
 refine tk 0 .zero (v:=?_) ?_ ?_
 rotate_left
 ·(intro w h;(try dsimp only at h);go_simp) <;> with_reducible rfl
 simp only [tkp]
 refine tk 1 (.succ .zero) (v:=?_) ?_ ?_
 rotate_left
 ·(intro w h;(try dsimp only at h);go_simp) <;> with_reducible rfl
 simp only [tkp]
 refine tk 2 (.succ (.succ .zero)) (v:=?_) ?_ ?_
 rotate_left
 ·(intro w h;(try dsimp only at h);go_simp) <;> with_reducible rfl
 simp only [tkp]
 refine tk 3 (.succ (.succ (.succ .zero))) (v:=?_) ?_ ?_
 rotate_left
 ·(intro w h;(try dsimp only at h);go_simp) <;> with_reducible rfl
 simp only [tkp]
 refine tk 4 (.succ (.succ (.succ (.succ .zero)))) (v:=?_) ?_ ?_
 rotate_left
 ·(intro w h;(try dsimp only at h);go_simp) <;> with_reducible rfl
 simp only [tkp]
 refine tk1 5 (.s5 .zero) (fun K hK=>?_)
 refine step_write (by rfl) 7 10 11 (by rfl) (.pointer (some ⟨b,0,none⟩)) (.int .i64 (gen % 2)) (.slice (some ⟨w1.heap.size,0,none⟩) 64 64) (by rfl) (by rw [<- Int.tmod_eq_emod_of_nonneg g0];rfl) (by rfl) ?_
 refine (HW.out w2.drew w1.heap.size B2.out (by omega) S2.out).mono ?_
 rintro e w3 (⟨he,hR⟩|⟨he,hsy⟩)
 ·refine Or.inr ⟨_,he,?_⟩
  clear hK K
  go_wp2
  exact ⟨rfl,Or.inr rfl,hR⟩
 refine Or.inl ⟨_,he,?_⟩
 refine hK.out _ _ ?_ (fun hG=>?_)
 ·(intro hne;exact absurd rfl hne)
 clear hK K hG
 have HSY:Hid (Calls Tryz.prog 102 #[.pointer (some ⟨b,0,none⟩)] w3 fun e w3=>Stepped e/\R w3):=hsy
 clear hsy he x2 S2 B2 HW
 refine wpLate_done (by kernel_rfl) ?_ _
 go_wp2_with fail
 refine HSY.out.mono ?_
 rintro e w4 ⟨he|he,hR⟩
 ·subst he
  go_wp2
  go_end0
  exact ⟨Or.inl rfl,hR⟩
 ·subst he
  go_wp2
  exact ⟨rfl,Or.inr rfl,hR⟩

set_option maxHeartbeats 2000000 in
theorem specY_liveG (a p:Option Addr) (n c m q:Nat) (d S:Nat->Int) (L:Nat->Nat) (F:Nat->Nat->Int) (fuel:Int) (w:World) (ha:Rd .u8 w a n d) (hp:RdP w p m S L F) (hn:n<=1048576) (hm:m<=1048576) (hL:∀i,i<m->L i<=1048576) (hv:VD n m S L fuel) (hf0:fuel≠0) (hf1:-1<=fuel) (hf2:fuel<=1000000) (S2:Nat->Int) (L2:Nat->Nat) (F2:Nat->Nat->Int) :
  Calls Tryz.prog 34 #[.agg #[.slice a n c,.slice p m q,.int .i64 fuel,.bool false]] w fun e w'=>RetG w e w' n (syncTo d S F m) 0 S2 L2 F2 (fuelAfter fuel) false:=by
 have HA:Hid (Rd .u8 w a n d):=ha
 have HP:Hid (RdP w p m S L F):=hp
 have HLL:Hid (∀i,i<m->L i<=1048576):=hL
 have HFIN:Hid (∀W:World,Below (w.heap.size+2) ((w.alloc (.cells #[.slice a n c,.slice p m q,.int .i64 fuel,.bool false] 25)).alloc (.cells #[.slice none 0 0,.slice none 0 0,.int .i64 0,.bool false] 25)) W->Below w.heap.size w W):=fun W h=>(below_alloc2' _ _ _).trans (h.mono (by omega))
 have HE2:Hid (∀o1 o2,((w.alloc o1).alloc o2).heap.size=w.heap.size+2):=fun _ _=>by simp
 have HV:Hid (VD n m S L fuel):=hv
 clear ha hp hL hv
 go_enter Tryz.func34,Tryz.ntmps34
 go_wp2_with fail
 refine (specValid_any a p n c m q S L F fuel false _ (HP.out.below (below_alloc2' _ _ _)) hn hm).mono ?_
 rintro e w1 ⟨h1,hb1⟩
 have e1:=ans_true' h1 HV.out
 subst e1
 rw [HE2.out] at hb1
 have K1:Hid (Below (w.heap.size+2) ((w.alloc (.cells #[.slice a n c,.slice p m q,.int .i64 fuel,.bool false] 25)).alloc (.cells #[.slice none 0 0,.slice none 0 0,.int .i64 0,.bool false] 25)) w1):=hb1
 have z1:w.heap.size+2<=w1.heap.size:=by have:=K1.out.size;rw [HE2.out] at this;exact this
 have hc1:∀b o,b<w.heap.size+2->w1.cell? ⟨b,o,none⟩=_:=fun b o hb=>K1.out.cell (p:=⟨b,o,none⟩) hb
 clear hb1 h1
 go_wp2_with fail
 refine (l1Step_live a p n c m q d S L F fuel false w1 (HA.out.below (HFIN.out _ K1.out)) (HP.out.below (HFIN.out _ K1.out)) hf0 hf1 hf2 hn hm HLL.out).mono ?_
 rintro e w3 ⟨a3,c3,p3,q3,A3,C3,rfl,ho3,hg3,hx3,hb3,hl3,hm3⟩
 have z3:=hb3.size
 have K3:Below (w.heap.size+2) ((w.alloc (.cells #[.slice a n c,.slice p m q,.int .i64 fuel,.bool false] 25)).alloc (.cells #[.slice none 0 0,.slice none 0 0,.int .i64 0,.bool false] 25)) w3:=K1.out.trans (hb3.mono (by omega))
 have HX:Hid (DkRow (w3.alloc (.cells #[.slice a3 n c3,.slice p3 m q3,.int .i64 (fuelAfter fuel),.bool false] 25)) w3.heap.size (.slice a3 n c3) (.slice p3 m q3) (fuelAfter fuel) false/\OwnB (w3.alloc (.cells #[.slice a3 n c3,.slice p3 m q3,.int .i64 (fuelAfter fuel),.bool false] 25)) (w.heap.size+2) a3 n d/\Below (w.heap.size+2) ((w.alloc (.cells #[.slice a n c,.slice p m q,.int .i64 fuel,.bool false] 25)).alloc (.cells #[.slice none 0 0,.slice none 0 0,.int .i64 0,.bool false] 25)) (w3.alloc (.cells #[.slice a3 n c3,.slice p3 m q3,.int .i64 (fuelAfter fuel),.bool false] 25))):=
  ⟨rowInNew _ _ _ _ _,(ho3.mono (by omega)).below (below_alloc _ _),K3.alloc (by omega) _⟩
 have hbo:w.heap.size+2<=w3.heap.size:=by omega
 clear ho3 hg3 hx3 hb3 K3 hc1
 go_wp2
 generalize hbx:w3.heap.size=bo at HX hbo ⊢
 generalize hwx:w3.alloc (.cells #[.slice a3 n c3,.slice p3 m q3,.int .i64 (fuelAfter fuel),.bool false] 25)=wx at HX ⊢
 clear hbx hwx
 go_loopw [4] (fun i wr=>∃(k:Nat) (a' : Option Addr) (c' : Nat),k<=m/\i=.int .i64 k/\DkRow wr bo (.slice a' n c') (.slice p3 m q3) (fuelAfter fuel) false/\OwnB wr (w.heap.size+2) a' n (syncTo d S F k)/\n<=c'/\c'<=9223372036854775807/\Below (w.heap.size+2) ((w.alloc (.cells #[.slice a n c,.slice p m q,.int .i64 fuel,.bool false] 25)).alloc (.cells #[.slice none 0 0,.slice none 0 0,.int .i64 0,.bool false] 25)) wr) (fun i _=>m-(intOf i).toNat)
 case atStart=>exact ⟨0,a3,c3,Nat.zero_le _,rfl,HX.out.1,HX.out.2.1,hl3,hm3,HX.out.2.2⟩
 case round=>
  obtain ⟨k,a',c',hkm,rfl,hrow,hown,hc1',hc2',hbel⟩:=hrel
  have K4:Hid (Below (w.heap.size+2) ((w.alloc (.cells #[.slice a n c,.slice p m q,.int .i64 fuel,.bool false] 25)).alloc (.cells #[.slice none 0 0,.slice none 0 0,.int .i64 0,.bool false] 25)) wr):=hbel
  have hzr:w.heap.size+2<=wr.heap.size:=by have:=hbel.size;rw [HE2.out] at this;exact this
  have HRW:Hid (DkRow wr bo (.slice a' n c') (.slice p3 m q3) (fuelAfter fuel) false):=hrow
  have HOW:Hid (OwnB wr (w.heap.size+2) a' n (syncTo d S F k)):=hown
  clear hrow hown hbel HX
  obtain ⟨d0,d1,d2,d3,df,dl⟩:=HRW.out.cells
  have hc3:∀b o,b<w.heap.size+2->wr.cell? ⟨b,o,none⟩=_:=fun b o hb=>K4.out.cell (p:=⟨b,o,none⟩) hb
  have x1:=hc3 w.heap.size 1 (by omega)
  simp at x1
  clear hc3
  by_cases hlt:k<m
  ·rcases HP.out.below (HFIN.out _ K4.out) with h|⟨b,o,hpa,hc⟩
   ·omega
   subst hpa
   obtain ⟨e1,ad,cp,e2,e3⟩:=hc k hlt
   have hvp:=HV.out.2 k hlt
   rw [hvp.2.2] at e2 e3
   obtain ⟨s,hs⟩:=Int.eq_ofNat_of_zero_le hvp.1
   have hfit:=sectorFits hvp hs
   have HS:Hid (S k=(s:Int)):=hs
   rw [hs] at e1
   have HT:Hid (syncTo d S F (k+1)=over (syncTo d S F k) s (F k)):=by
    show over _ _ _=_
    rw [HS.out,Int.toNat_natCast]
   have E3:Hid (Rd .u8 wr.drew ad 64 (F k)):=e3
   have HRD:Hid (Rd .u8 wr.drew a' n (syncTo d S F k)):=HOW.out.rd
   have hbb:b<wr.heap.size:=World.block_lt_of_cell? _ _ e1
   clear hc e3 hvp hs
   have HC:Hid (∀w4:World,Below wr.drew.heap.size wr.drew w4->(w4.cell? ⟨bo,0,none⟩=some (.slice a' n c')/\w4.cell? ⟨w.heap.size,1,none⟩=some (.slice (some ⟨b,o,none⟩) m q)/\w4.cell? ⟨b,o+k*2,none⟩=some (.int .i64 s)/\w4.cell? ⟨b,o+k*2+1,none⟩=some (.slice ad 64 cp))/\(∀x,w4.frozen? ⟨bo,x,none⟩=false)/\bo<w4.heap.size):=by
    intro w4 hb
    refine ⟨⟨(hb.cell (p:=⟨bo,0,none⟩) dl).trans d0,(hb.cell (p:=⟨w.heap.size,1,none⟩) (by show w.heap.size<wr.heap.size;omega)).trans x1,(hb.cell (p:=⟨b,o+k*2,none⟩) hbb).trans e1,(hb.cell (p:=⟨b,o+k*2+1,none⟩) hbb).trans e2⟩,fun x=>(hb.frozen (p:=⟨bo,x,none⟩) dl).trans (df x),Nat.lt_of_lt_of_le dl hb.size⟩
   have ik:(k:Int)<(m:Int):=by omega
   go_wp2
   refine wp_region_late (S:=(fun w'=>w'.cell? ⟨bo,0,none⟩=some (.slice a' n c')/\w'.cell? ⟨w.heap.size,1,none⟩=some (.slice (some ⟨b,o,none⟩) m q)/\w'.cell? ⟨b,o+k*2,none⟩=some (.int .i64 s)/\w'.cell? ⟨b,o+k*2+1,none⟩=some (.slice ad 64 cp))) 16 (by kernel_rfl) ?_ (fun hHeld=>?_)
   ·((try dsimp only);go_keep)
   refine tk 0 .zero (v:=?_) ?_ ?_
   rotate_left
   ·(intro w h;(try dsimp only at h);go_simp) <;> with_reducible rfl
   simp only [tkp]
   refine tk 1 (.succ .zero) (v:=?_) ?_ ?_
   rotate_left
   ·(intro w h;(try dsimp only at h);go_simp) <;> with_reducible rfl
   simp only [tkp]
   refine tk 2 (.succ (.succ .zero)) (v:=?_) ?_ ?_
   rotate_left
   ·(intro w h;(try dsimp only at h);go_simp) <;> with_reducible rfl
   simp only [tkp]
   refine tk 3 (.succ (.succ (.succ .zero))) (v:=?_) ?_ ?_
   rotate_left
   ·(intro w h;(try dsimp only at h);go_simp) <;> with_reducible rfl
   simp only [tkp]
   refine tk 4 (.succ (.succ (.succ (.succ .zero)))) (v:=?_) ?_ ?_
   rotate_left
   ·(intro w h;(try dsimp only at h);go_simp) <;> with_reducible rfl
   simp only [tkp]
   refine tk 5 (.s5 .zero) (v:=?_) ?_ ?_
   rotate_left
   ·(intro w h;(try dsimp only at h);go_simp) <;> with_reducible rfl
   simp only [tkp]
   refine tk 6 (.s5 (.succ .zero)) (v:=?_) ?_ ?_
   rotate_left
   ·(intro w h;(try dsimp only at h);go_simp) <;> with_reducible rfl
   simp only [tkp]
   refine tk 7 (.s5 (.succ (.succ .zero))) (v:=?_) ?_ ?_
   rotate_left
   ·(intro w h;(try dsimp only at h);go_simp) <;> with_reducible rfl
   simp only [tkp]
   refine tk 8 (.s5 (.succ (.succ (.succ .zero)))) (v:=?_) ?_ ?_
   rotate_left
   ·(intro w h;(try dsimp only at h);go_simp) <;> with_reducible rfl
   simp only [tkp]
   refine tk 9 (.s5 (.succ (.succ (.succ (.succ .zero))))) (v:=?_) ?_ ?_
   rotate_left
   ·(intro w h;(try dsimp only at h);go_simp) <;> with_reducible rfl
   simp only [tkp]
   refine tk 10 (.s5 (.s5 .zero)) (v:=?_) ?_ ?_
   rotate_left
   ·(intro w h;(try dsimp only at h);go_simp) <;> with_reducible rfl
   simp only [tkp]
   refine tk 11 (.s5 (.s5 (.succ .zero))) (v:=?_) ?_ ?_
   rotate_left
   ·(intro w h;(try dsimp only at h);go_simp) <;> with_reducible rfl
   simp only [tkp]
   refine tk 12 (.s5 (.s5 (.succ (.succ .zero)))) (v:=?_) ?_ ?_
   rotate_left
   ·(intro w h;(try dsimp only at h);go_simp) <;> with_reducible rfl
   simp only [tkp]
   refine tk 13 (.s5 (.s5 (.succ (.succ (.succ .zero))))) (v:=?_) ?_ ?_
   rotate_left
   ·(intro w h;(try dsimp only at h);go_simp) <;> with_reducible rfl
   simp only [tkp]
   refine late_one 14 (.s5 (.s5 (.succ (.succ (.succ (.succ .zero)))))) (by kernel_rfl) (fun K hK=>?_)
   (refine step_l1Over (by rfl) 27 33 39 (by rfl) (.slice a' n c') (.int .i64 s) (.slice ad 64 cp) (by rfl) (by rfl) (by rfl) ?_;refine (l1Over_any a' ad n c' cp s (syncTo d S F k) (F k) wr.drew HRD.out E3.out hfit hn hc1' hc2').mono ?_;rintro e w4 ⟨a4,c4,he,ho4,hb4,hl4,hm4⟩;refine ⟨_,he,?_⟩;clear he;obtain ⟨⟨k0,k1,k2,k3⟩,kf,kl⟩:=HC.out w4 hb4)
   refine hK.out _ _ ?_ (fun hG=>?_)
   ·(intro _;(try dsimp only);go_keep)
   clear hK K
   replace hHeld:=hG (by decide)
   clear hG
   try simp only [tkp]
   refine tk 15 (.s5 (.s5 (.s5 .zero))) (v:=?_) ?_ ?_
   rotate_left
   ·(intro w h;(try dsimp only at h);go_simp) <;> with_reducible rfl
   simp only [tkp]
   refine tk1 16 (.s5 (.s5 (.s5 (.succ .zero)))) (fun K hK=>?_)
   go_simp
   refine hK.out _ _ ?_ (fun hG=>?_)
   ·(intro hne;exact absurd rfl hne)
   clear hK K hG
   refine wpLate_done (by kernel_rfl) ?_ _
   have HY:Hid (DkRow (w4.setCell ⟨bo,0,none⟩ (.slice a4 n c4)) bo (.slice a4 n c4) (.slice p3 m q3) (fuelAfter fuel) false/\OwnB (w4.setCell ⟨bo,0,none⟩ (.slice a4 n c4)) (w.heap.size+2) a4 n (syncTo d S F (k+1))/\n<=c4/\c4<=9223372036854775807/\Below (w.heap.size+2) ((w.alloc (.cells #[.slice a n c,.slice (some ⟨b,o,none⟩) m q,.int .i64 fuel,.bool false] 25)).alloc (.cells #[.slice none 0 0,.slice none 0 0,.int .i64 0,.bool false] 25)) (w4.setCell ⟨bo,0,none⟩ (.slice a4 n c4))):=by
    have hd4:DkRow w4 bo (.slice a' n c') (.slice p3 m q3) (fuelAfter fuel) false:=HRW.out.below (w':=w4) ((Below.refl _ _).drew.trans hb4)
    refine ⟨hd4.setData _,?_,hl4,hm4,(K4.out.drew.trans (hb4.mono hzr)).setCell (by simpa using hbo) _⟩
    rw [HT.out]
    exact (ho4.mono hzr).onlyDk hd4 ((OnlyAt.refl _ _).setCell 0 _)
   clear hb4 ho4 k0 k1 k2 k3 kf kl hHeld HC E3 HRD d0 d1 d2 d3 df x1 e1 e2
   go_wp2
   go_roundw
   case rel=>exact ⟨k+1,a4,c4,by omega,by go_num,HY.out⟩
   case measure=>simp [intOf];omega
  ·have e:k=m:=by omega
   subst e
   obtain ⟨r0,r1,r2,r3,rf,rl⟩:=(box_res K4.out).cells
   have HF:Hid (OwnB wr (w.heap.size+2) a' n (syncTo d S F k)/\Below w.heap.size w wr):=⟨HOW.out,HFIN.out _ K4.out⟩
   go_wp2
   have DR:Hid (DkRow ((set4 (wr.setCell ⟨bo,1,none⟩ (.slice (some ⟨wr.heap.size,0,none⟩) 0 0)) (w.heap.size+1) (.slice a' n c') (.slice (some ⟨wr.heap.size,0,none⟩) 0 0) (fuelAfter fuel) false).alloc (.cells #[] 119)) (w.heap.size+1) (.slice a' n c') (.slice (some ⟨wr.heap.size,0,none⟩) 0 0) (fuelAfter fuel) false):=(dk_set4 ((box_res K4.out).setOther (by simp;omega) _)).below (below_alloc _ _)
   obtain ⟨y0,y1,y2,y3,yf,yl⟩:=DR.out.cells
   unfold set4 at y0 y1 y2 y3
   clear r0 r1 r2 r3 rf d0 d1 d2 d3 df
   refine bodyPost_ret (v:=.agg #[.slice a' n c',.slice (some ⟨wr.heap.size,0,none⟩) 0 0,.int .i64 (fuelAfter fuel),.bool false]) (by simp [results,Tryz.results34,go_sem,y0,y1,y2,y3]) rfl ⟨a',c',some ⟨wr.heap.size,0,none⟩,0,fun _=>none,fun _=>0,rfl,?_,⟨?_,fun i hi=>absurd hi (Nat.not_lt_zero _),fun i j hi=>absurd hi (Nat.not_lt_zero _)⟩,fun _ i hi=>absurd hi (Nat.not_lt_zero _),?_,hc1',hc2'⟩
   ·exact ((((((HOW.out.onlyDk HRW.out ((OnlyAt.refl _ _).setCell 1 _)).setOther (by simp) _).setOther (by simp) _).setOther (by simp) _).setOther (by simp) _).below (below_alloc _ _)).mono (by omega)
   ·refine ⟨rfl,Or.inr ⟨wr.heap.size,0,#[],rfl,by omega,?_,Nat.le_refl _,Nat.zero_le _,rfl,rfl⟩⟩
    have hz:((((((wr.setCell ⟨bo,1,none⟩ (.slice (some ⟨wr.heap.size,0,none⟩) 0 0)).setCell ⟨w.heap.size+1,0,none⟩ (.slice a' n c')).setCell ⟨w.heap.size+1,1,none⟩ (.slice (some ⟨wr.heap.size,0,none⟩) 0 0)).setCell ⟨w.heap.size+1,2,none⟩ (.int .i64 (fuelAfter fuel))).setCell ⟨w.heap.size+1,3,none⟩ (.bool false))).heap.size=wr.heap.size:=by simp [World.setCell]
    have h1:=World.alloc_heap_new (((((wr.setCell ⟨bo,1,none⟩ (.slice (some ⟨wr.heap.size,0,none⟩) 0 0)).setCell ⟨w.heap.size+1,0,none⟩ (.slice a' n c')).setCell ⟨w.heap.size+1,1,none⟩ (.slice (some ⟨wr.heap.size,0,none⟩) 0 0)).setCell ⟨w.heap.size+1,2,none⟩ (.int .i64 (fuelAfter fuel))).setCell ⟨w.heap.size+1,3,none⟩ (.bool false)) (.cells #[] 119)
    rw [hz] at h1
    exact h1
   ·exact ((((((HF.out.2.setCell (by simp;omega) _).setCell (by simp) _).setCell (by simp) _).setCell (by simp) _).setCell (by simp) _).alloc (by simpa using HF.out.2.size) _)
end Go.Proofs.YtbmffmifemebmaaGreatDoor
