import Derived.Test.YtpaomghibppgkaaGreatNv37
set_option linter.unusedVariables false
set_option maxRecDepth 100000
namespace Go.Proofs.YtpaomghibppgkaaGreat
open Go.RowKit Go.Deep
set_option linter.unusedSimpArgs false

set_option maxHeartbeats 2000000 in
theorem smallestOrder_any (p:Qd) (hp:numQ p) (w:World):Calls Tryz.prog 77 #[qv p] w fun e w'=>e=.returned (.int .i64 (fsQ p:Int))/\Below w.heap.size w w':=by
 have HB:Hid (Below w.heap.size w (w.alloc (.cells #[.int .i64 p.s,.int .i64 p.p,.int .i64 p.o,.int .i64 p.g] 122))):=below_alloc _ _
 have HC:Hid (∀W,Below (w.heap.size+1) (w.alloc (.cells #[.int .i64 p.s,.int .i64 p.p,.int .i64 p.o,.int .i64 p.g] 122)) W->W.cell? ⟨w.heap.size,0,none⟩=some (.int .i64 p.s)/\W.cell? ⟨w.heap.size,1,none⟩=some (.int .i64 p.p)/\W.cell? ⟨w.heap.size,2,none⟩=some (.int .i64 p.o)/\W.cell? ⟨w.heap.size,3,none⟩=some (.int .i64 p.g)):=fun W hW=>by
  have hb:=hW.block w.heap.size (by omega)
  have hh:W.heap[w.heap.size]?=some (.cells #[.int .i64 p.s,.int .i64 p.p,.int .i64 p.o,.int .i64 p.g] 122 (0,0)):=hb.trans Array.getElem?_push_size
  refine ⟨?_,?_,?_,?_⟩ <;> simp [World.cell?,hh]
 obtain ⟨j0,hj0,he0⟩:=elQ_ex p hp
 have HJ:Hid (elQ j0 p=true):=he0
 clear he0 hp
 unfold qv
 go_enter Tryz.func77,Tryz.ntmps77
 go_wp2
 go_loopw [3] (fun i wr=>∃k:Nat,k<=j0/\i=.int .i64 (k:Int)/\(∀j,j<k->elQ j p=false)/\Below (w.heap.size+1) (w.alloc (.cells #[.int .i64 p.s,.int .i64 p.p,.int .i64 p.o,.int .i64 p.g] 122)) wr) (fun i _=>6-(intOf i).toNat)
 case atStart=>exact ⟨0,Nat.zero_le _,rfl,fun j hj=>absurd hj (Nat.not_lt_zero _),Below.refl _ _⟩
 case round=>
  obtain ⟨k,hk,rfl,hall,hbel⟩:=hrel
  have HW:Hid ((∀j,j<k->elQ j p=false)/\Below (w.heap.size+1) (w.alloc (.cells #[.int .i64 p.s,.int .i64 p.p,.int .i64 p.o,.int .i64 p.g] 122)) wr):=⟨hall,hbel⟩
  obtain ⟨x0,x1,x2,x3⟩:=HC.out wr hbel
  have hzr:w.heap.size+1<=wr.heap.size:=by have:=hbel.size;simpa using this
  clear hall hbel
  have hlt:k<6:=by omega
  have HE:=(elQ_both k hlt p wr).2
  unfold qv at HE
  have HEE:Hid (Calls Tryz.prog 109 #[.int .i64 (k:Int),.agg #[.int .i64 p.s,.int .i64 p.p,.int .i64 p.o,.int .i64 p.g]] wr fun e w'=>e=.returned (.bool (elQ k p))/\Below wr.heap.size wr w'):=HE
  clear HE
  go_wp2_with fail
  with_reducible refine HEE.out.mono ?_
  rintro e w1 ⟨rfl,hb1⟩
  have H1:Hid (Below (w.heap.size+1) (w.alloc (.cells #[.int .i64 p.s,.int .i64 p.p,.int .i64 p.o,.int .i64 p.g] 122)) w1):=HW.out.2.trans (hb1.mono hzr)
  clear hb1 HEE
  cases he:elQ k p with
  | true=>
   have HF:Hid (fsQ p=k/\Below w.heap.size w w1):=⟨fsQ_of hlt he HW.out.1,HB.out.trans (H1.out.mono (by omega))⟩
   clear he
   go_wp2
   go_ret
   exact ⟨by rw [HF.out.1];rfl,HF.out.2⟩
  | false=>
   have hkj:k<j0:=by
    rcases Nat.lt_or_ge k j0 with q|q
    ·exact q
    ·have e:k=j0:=by omega
     have:=HJ.out
     rw [<- e,he] at this
     cases this
   have HN:Hid (∀j,j<k+1->elQ j p=false):=fun j hj=>by
    by_cases e:j=k
    ·rw [e];exact he
    ·exact HW.out.1 j (by omega)
   clear he
   have hw1:IntKind.i64.wrap ((k:Int)+1)=((k+1:Nat):Int):=by rw [IntKind.wrap_i64];omega
   go_wp2
   go_roundw
   case rel=>exact ⟨k+1,by omega,by go_num,HN.out,H1.out⟩
   case measure=>simp [intOf];omega

def RankC (w:World) (v:Value) (key:ByteArray) (r:Nat):Prop:=
 (∃p,v=.iface 243 (.pointer (some p))/\Calls Tryz.prog 173 #[.pointer (some p),.string key] w fun e w'=>e=.returned (.int .i64 (r:Int))/\w'=w)\/
 (∃p,v=.iface 248 (.pointer (some p))/\Calls Tryz.prog 185 #[.pointer (some p),.string key] w fun e w'=>e=.returned (.int .i64 (r:Int))/\w'=w)

set_option maxHeartbeats 4000000 in
theorem rank_any (key:ByteArray) (w:World) (S:Nat->Prop):∀(d:Nat) (t:Ro d) (v:Value) (root:Bool) (h:Nat),TAt S w d t v->BalR d root t h->Asc (keysR d t)->(keysR d t).length<=1048576->RankC w v key (cntL key (keysR d t)):=by
 intro d
 induction d with
 | zero=>intro t;exact t.elim
 | succ d ih=>
  intro t v root h ht hb ha hlen
  rcases t with t|l
  ·obtain ⟨b,ka,kc,rfl,_,hx,hr⟩:=ht
   exact Or.inl ⟨_,rfl,rankLeaf_any b t.length kc ka _ t key w hx hr.rdS rfl hlen ha⟩
  ·have ht2:=ht
   obtain ⟨b,g,kc,xs,rfl,_,hx,_,hgl,hl,hc,hk⟩:=ht2
   obtain ⟨hb1,hb2,h',_,hall⟩:=hb
   refine Or.inr ⟨_,rfl,?_⟩
   have ha' : Asc (l.flatMap (keysR d)):=ha
   have hlen' : (l.flatMap (keysR d)).length<=1048576:=hlen
   have HKf:Hid (Calls Tryz.prog 190 #[.pointer (some ⟨b,0,none⟩),.string key] w (RetKf l key w)):=kidFor_any d b l S h' key w ht hall hb2
   have HRk:Hid (∀k (hk:k<l.length),∃u,w.cell? ⟨g,k,none⟩=some u/\RankC w u key (cntL key (keysR d l[k]))):=by
    intro k hkl
    obtain ⟨u,hu,hut⟩:=hk k hkl
    exact ⟨u,hc k u hu,ih l[k] u false h' hut (hall _ (List.getElem_mem hkl)) (asc_kid ha' k hkl) (by have:=kid_keys_le d l k hkl;omega)⟩
   have HCt:Hid (∀k (hk:k<l.length),∃u bb,w.cell? ⟨g,k,none⟩=some u/\w.cell? ⟨bb,0,none⟩=some (.int .i64 ((keysR d l[k]).length:Int))/\(u=.iface 243 (.pointer (some ⟨bb,0,none⟩))\/u=.iface 248 (.pointer (some ⟨bb,0,none⟩)))):=by
    intro k hkl
    obtain ⟨u,hu,hut⟩:=hk k hkl
    obtain ⟨bb,_,_,q1,q2⟩:=hut.count
    exact ⟨u,bb,hc k u hu,q1,q2⟩
   have HMath:Hid (∀i (hi:i<l.length),(∀h:i<l.length,0<i->Op.bytesLess key.toList (gt (keysR d l[i]) 0).toList=false)->(∀h:i+1<l.length,Op.bytesLess key.toList (gt (keysR d l[i+1]) 0).toList=true)->cntL key (l.flatMap (keysR d))=((l.take i).flatMap (keysR d)).length+cntL key (keysR d l[i])):=fun i hi q1 q2=>cntL_kid hi ha' (fun k hk=>bal_pos (hall _ (List.getElem_mem hk))) (fun h0=>q1 hi h0) q2
   have HLe:Hid ((l.flatMap (keysR d)).length<=1048576):=hlen'
   have c1:=hx.cell 1
   simp at c1
   obtain ⟨ln,hln⟩:∃ln,ln=l.length:=⟨_,rfl⟩
   obtain ⟨_,hcap,hcapm⟩:=hgl
   rw [<- hln] at c1 hl hb2 hcap
   have HLn:Hid (ln=l.length):=hln
   clear hx hc hk hall ih ht ha hlen ha' hlen' hln hb1
   have HGoal:Hid (cntL key (keysR (d+1) (.inr l))=cntL key (l.flatMap (keysR d))):=rfl
   go_enter Tryz.func185,Tryz.ntmps185
   go_wp2_with fail
   refine HKf.out.mono ?_
   rintro e w1 ⟨i,rfl,rfl,hi,q1,q2⟩
   have HM:Hid (cntL key (l.flatMap (keysR d))=((l.take i).flatMap (keysR d)).length+cntL key (keysR d l[i])):=HMath.out i hi q1 q2
   obtain ⟨u,hu,hrank⟩:=HRk.out i hi
   have hin:i<ln:=by rw [HLn.out];exact hi
   have i0:(0:Int)<=(i:Int):=by omega
   have i1:(i:Int)<(ln:Int):=by omega
   have ic:(i:Int)<=(kc:Int):=by omega
   have icn:i<=kc:=by omega
   obtain ⟨R,hR⟩:∃R,R=cntL key (keysR d l[i]):=⟨_,rfl⟩
   rw [<- hR] at hrank
   have HR:Hid (R=cntL key (keysR d l[i])/\R<=1048576):=by
    refine ⟨hR,?_⟩
    have h1:cntL key (keysR d l[i])<=(keysR d l[i]).length:=List.length_filter_le _ _
    have h2:=kid_keys_le d l i hi
    have:=HLe.out
    omega
   have hRb:=HR.out.2
   clear q1 q2 HKf HMath HRk hR
   rcases hrank with ⟨p,rfl,hcall⟩|⟨p,rfl,hcall⟩
   ·have HC:Hid (Calls Tryz.prog 173 #[.pointer (some p),.string key] w1 fun e w'=>e=.returned (.int .i64 (R:Int))/\w'=w1):=hcall
    clear hcall
    go_wp2_with fail
    refine HC.out.mono ?_
    rintro e w2 ⟨rfl,rfl⟩
    go_wp2
    go_loopw [6,28] (fun q k wr=>∃j A:Nat,j<=i/\k=.int .i64 j/\q=.int .i64 (A:Int)/\A=R+((l.take j).flatMap (keysR d)).length/\wr=w2) (fun _ k _=>i-(intOf k).toNat)
    case atStart=>exact ⟨0,R,Nat.zero_le _,rfl,rfl,by simp,rfl⟩
    case round=>
     obtain ⟨j,A,hj,rfl,rfl,hA,rfl⟩:=hrel
     have HA:Hid (A=R+((l.take j).flatMap (keysR d)).length):=hA
     have hAb:A<=4194304:=by
      have:=flat_take_le (keysR d) l j
      have:=HLe.out
      omega
     clear hA
     by_cases hlt:j<i
     ·have hjl:j<l.length:=by omega
      obtain ⟨u,bb,hcu,hcc,hform⟩:=HCt.out j hjl
      have j0:(0:Int)<=(j:Int):=by omega
      have j1:(j:Int)<(i:Int):=by omega
      obtain ⟨C,hC⟩:∃C:Nat,C=(keysR d l[j]).length:=⟨_,rfl⟩
      rw [<- hC] at hcc
      have HC2:Hid (C=(keysR d l[j]).length):=hC
      have hCb:C<=1048576:=by
       have:=kid_keys_le d l j hjl
       have:=HLe.out
       omega
      have HN:Hid (A+C=R+((l.take (j+1)).flatMap (keysR d)).length):=by
       show A+C=R+((l.take (j+1)).flatMap (keysR d)).length
       rw [flat_len_take l j hjl,HA.out,HC2.out]
       omega
      clear hC
      have HB:Hid (Calls Tryz.prog 147 #[.pointer (some ⟨bb,0,none⟩)] wr fun e w'=>e=.returned (.int .i64 (C:Int))/\w'=wr):=below_any bb (C:Int) wr hcc
      rcases hform with rfl|rfl
      ·go_wp2_with fail
       refine HB.out.mono ?_
       rintro e w3 ⟨rfl,rfl⟩
       go_wp2
       go_roundw
       case rel=>exact ⟨j+1,A+C,by omega,by go_num,by go_num,HN.out,trivial⟩
       case measure=>simp [intOf];omega
      ·go_wp2_with fail
       refine HB.out.mono ?_
       rintro e w3 ⟨rfl,rfl⟩
       go_wp2
       go_roundw
       case rel=>exact ⟨j+1,A+C,by omega,by go_num,by go_num,HN.out,trivial⟩
       case measure=>simp [intOf];omega
     ·have e:j=i:=by omega
      subst e
      have hjf:¬ (j:Int)<(j:Int):=by omega
      have HEnd:Hid (cntL key (keysR (d+1) (.inr l))=A):=by
       show cntL key (keysR (d+1) (.inr l))=A
       rw [HGoal.out,HM.out,HA.out,HR.out.1]
       omega
      go_wp2
      go_ret
      exact ⟨by rw [HEnd.out];rfl,rfl⟩
   ·have HC:Hid (Calls Tryz.prog 185 #[.pointer (some p),.string key] w1 fun e w'=>e=.returned (.int .i64 (R:Int))/\w'=w1):=hcall
    clear hcall
    go_wp2_with fail
    refine HC.out.mono ?_
    rintro e w2 ⟨rfl,rfl⟩
    go_wp2
    go_loopw [6,28] (fun q k wr=>∃j A:Nat,j<=i/\k=.int .i64 j/\q=.int .i64 (A:Int)/\A=R+((l.take j).flatMap (keysR d)).length/\wr=w2) (fun _ k _=>i-(intOf k).toNat)
    case atStart=>exact ⟨0,R,Nat.zero_le _,rfl,rfl,by simp,rfl⟩
    case round=>
     obtain ⟨j,A,hj,rfl,rfl,hA,rfl⟩:=hrel
     have HA:Hid (A=R+((l.take j).flatMap (keysR d)).length):=hA
     have hAb:A<=4194304:=by
      have:=flat_take_le (keysR d) l j
      have:=HLe.out
      omega
     clear hA
     by_cases hlt:j<i
     ·have hjl:j<l.length:=by omega
      obtain ⟨u,bb,hcu,hcc,hform⟩:=HCt.out j hjl
      have j0:(0:Int)<=(j:Int):=by omega
      have j1:(j:Int)<(i:Int):=by omega
      obtain ⟨C,hC⟩:∃C:Nat,C=(keysR d l[j]).length:=⟨_,rfl⟩
      rw [<- hC] at hcc
      have HC2:Hid (C=(keysR d l[j]).length):=hC
      have hCb:C<=1048576:=by
       have:=kid_keys_le d l j hjl
       have:=HLe.out
       omega
      have HN:Hid (A+C=R+((l.take (j+1)).flatMap (keysR d)).length):=by
       show A+C=R+((l.take (j+1)).flatMap (keysR d)).length
       rw [flat_len_take l j hjl,HA.out,HC2.out]
       omega
      clear hC
      have HB:Hid (Calls Tryz.prog 147 #[.pointer (some ⟨bb,0,none⟩)] wr fun e w'=>e=.returned (.int .i64 (C:Int))/\w'=wr):=below_any bb (C:Int) wr hcc
      rcases hform with rfl|rfl
      ·go_wp2_with fail
       refine HB.out.mono ?_
       rintro e w3 ⟨rfl,rfl⟩
       go_wp2
       go_roundw
       case rel=>exact ⟨j+1,A+C,by omega,by go_num,by go_num,HN.out,trivial⟩
       case measure=>simp [intOf];omega
      ·go_wp2_with fail
       refine HB.out.mono ?_
       rintro e w3 ⟨rfl,rfl⟩
       go_wp2
       go_roundw
       case rel=>exact ⟨j+1,A+C,by omega,by go_num,by go_num,HN.out,trivial⟩
       case measure=>simp [intOf];omega
     ·have e:j=i:=by omega
      subst e
      have hjf:¬ (j:Int)<(j:Int):=by omega
      have HEnd:Hid (cntL key (keysR (d+1) (.inr l))=A):=by
       show cntL key (keysR (d+1) (.inr l))=A
       rw [HGoal.out,HM.out,HA.out,HR.out.1]
       omega
      go_wp2
      go_ret
      exact ⟨by rw [HEnd.out];rfl,rfl⟩

def RetRk (w:World) (n:Nat) (N:Nat->Tn) (key:ByteArray) (e:Ending) (w' : World):Prop:=
 ∃r:Nat,e=.returned (.int .i64 (r:Int))/\Below w.heap.size w w'/\((∃t,VTt n N t/\r=cntL key (keysR 21 t))\/(¬ VT n N/\r=0))


def inR (lo hi k:ByteArray):Bool:=!(Op.bytesLess k.toList lo.toList) && (hi.toList.isEmpty || Op.bytesLess k.toList hi.toList)
def fil (lo hi:ByteArray) (L:List ByteArray):List ByteArray:=L.filter (inR lo hi)
theorem fil_app (lo hi:ByteArray) (L M:List ByteArray):fil lo hi (L++M)=fil lo hi L++fil lo hi M:=List.filter_append ..
theorem fil_le (lo hi:ByteArray) (L:List ByteArray):(fil lo hi L).length<=L.length:=List.length_filter_le _ _
theorem fil_take {lo hi:ByteArray} {L:List ByteArray} {k:Nat} (h:k<L.length):fil lo hi (L.take (k+1))=fil lo hi (L.take k)++(if inR lo hi (gt L k)=true then [gt L k] else []):=by
 rw [chain_take h,fil_app]
 congr 1
 unfold fil
 rw [List.filter_cons,List.filter_nil]
theorem fil_none {lo hi:ByteArray} {L:List ByteArray} (h:∀k,k∈L->inR lo hi k=false):fil lo hi L=[]:=by
 unfold fil
 rw [List.filter_eq_nil_iff]
 intro k hk
 rw [h k hk]
 simp

def RetGa (B:Nat) (w:World) (L:List ByteArray) (e:Ending) (w' : World):Prop:=
 ∃a c,e=.returned (.slice a L.length c)/\w'.ownsRow B 9 1 (.slice a L.length c) L.length (strL L)/\Below B w w'

set_option maxHeartbeats 4000000 in
theorem gaLeaf_any (B b n kc:Nat) (ka:Option Addr) (v0:Value) (L L0:List ByteArray) (lo hi:ByteArray) (a0:Option Addr) (n0 c0:Nat) (w:World) (hx:Bx w b 247 #[v0,.slice ka n kc]) (hbB:b<B) (hr:∀W:World,Below B w W->RdS W ka n (gt L)) (hn:n=L.length) (hn2:n<=1048576) (h0:w.ownsRow B 9 1 (.slice a0 n0 c0) n0 (strL L0)) (hn0:n0=L0.length) (hn3:n0<=1073741824) (hB:B<=w.heap.size) :
  Calls Tryz.prog 170 #[.pointer (some ⟨b,0,none⟩),.slice a0 n0 c0,.string lo,.string hi] w (RetGa B w (L0++fil lo hi L)):=by
 have HR:Hid ((∀W:World,Below B w W->RdS W ka n (gt L))/\n=L.length):=⟨hr,hn⟩
 have H0:Hid (w.ownsRow B 9 1 (.slice a0 n0 c0) n0 (strL L0)/\n0=L0.length):=⟨h0,hn0⟩
 have c1:=hx.cell 1
 simp at c1
 clear hx hr hn h0 hn0
 go_enter Tryz.func170,Tryz.ntmps170
 go_wp2
 go_loopw [1,16] (fun q i wr=>∃(k m:Nat) (a:Option Addr) (c:Nat),k<=n/\i=.int .i64 k/\q=.slice a m c/\m=(L0++fil lo hi (L.take k)).length/\wr.ownsRow B 9 1 (.slice a m c) m (strL (L0++fil lo hi (L.take k)))/\Below B w wr) (fun _ i _=>n-(intOf i).toNat)
 case atStart=>exact ⟨0,n0,a0,c0,Nat.zero_le _,rfl,rfl,by simp [fil,H0.out.2],by simpa [fil] using H0.out.1,Below.refl _ _⟩
 case round=>
  obtain ⟨k,m,a,c,hk,rfl,rfl,hm,hown,hbel⟩:=hrel
  clear c1
  have HS:Hid (m=(L0++fil lo hi (L.take k)).length/\wr.ownsRow B 9 1 (.slice a m c) m (strL (L0++fil lo hi (L.take k)))/\Below B w wr):=⟨hm,hown,hbel⟩
  have hmb:m<=2147483648:=by
   rw [List.length_append] at hm
   have h1:=fil_le lo hi (L.take k)
   have h2:(L.take k).length<=L.length:=List.length_take_le' _ _
   have:=HR.out.2
   have:=H0.out.2
   omega
  have hz:=hbel.size
  clear hm hown hbel
  by_cases hlt:k<n
  ·have hlk:k<L.length:=by rw [<- HR.out.2];exact hlt
   rcases HR.out.1 wr HS.out.2.2 with q|⟨b3,o3,rfl,hc3⟩
   ·omega
   have s1:=hc3 k hlt
   have i0:(0:Int)<=(k:Int):=by omega
   have i1:(k:Int)<(n:Int):=by omega
   have htk:=fil_take (lo:=lo) (hi:=hi) hlk
   have hbz:b<wr.heap.size:=by omega
   clear hc3
   have htot:=less_total (gt L k).toList lo.toList
   have HYes:inR lo hi (gt L k)=true->Hid (∀(v' : Value) (w5:World),w5.ownsRow B 9 1 v' (m+1) (strL (L0++fil lo hi (L.take k))++[.string (gt L k)])->w5.ownsRow B 9 1 v' (m+1) (strL (L0++fil lo hi (L.take (k+1))))/\m+1=(L0++fil lo hi (L.take (k+1))).length):=by
    intro hin v' w5 ho
    rw [htk,hin,if_pos rfl,<- List.append_assoc]
    constructor
    ·rw [strL_app];exact ho
    ·rw [List.length_append,<- HS.out.1];rfl
   have HNot:inR lo hi (gt L k)=false->Hid (m=(L0++fil lo hi (L.take (k+1))).length/\wr.ownsRow B 9 1 (.slice a m c) m (strL (L0++fil lo hi (L.take (k+1))))/\Below B w wr):=by
    intro hin
    rw [htk,hin,if_neg (by simp),List.append_nil]
    exact HS.out
   obtain ⟨i9,hi9,hz0,hz1,hz2⟩:=info_parts Tryz.info9
   have HI:Hid (Tryz.prog.info? 9=some i9/\i9.zero=some (.string { data:=#[] })/\i9.size=1/\i9.bytes=16):=⟨hi9,hz0,hz1,hz2⟩
   clear hi9 hz0 hz1 hz2 htk
   have HO:Hid ((wr.alloc (.cells #[.string (gt L k)] 9)).ownsRow B 9 1 (.slice a m c) m (strL (L0++fil lo hi (L.take k)))):=own_below HS.out.2.1 (below_alloc _ _)
   cases hl:Op.bytesLess (gt L k).toList lo.toList with
   | true=>
    rw [hl] at htot
    have ht2:(Op.bytesLess lo.toList (gt L k).toList || lo.toList == (gt L k).toList)=false:=htot
    have HN:=HNot (by unfold inR;rw [hl];rfl)
    clear htot HYes HNot
    go_wp2
    go_roundw
    case rel=>exact ⟨k+1,m,a,c,by omega,by go_num,rfl,HN.out⟩
    case measure=>simp [intOf];omega
   | false=>
    rw [hl] at htot
    have ht2:(Op.bytesLess lo.toList (gt L k).toList || lo.toList == (gt L k).toList)=true:=htot
    by_cases hem:hi.toList=[]
    ·have HY:=HYes (by unfold inR;rw [hl,hem];rfl)
     clear htot HYes HNot
     go_wp2_with (at_builtin;refine wpList_append_own_at _ rfl _ _ 113 rfl B 9 i9 _ 1 16 Tryz.underlying113 HI.out.1 HI.out.2.1 HI.out.2.2.1 HI.out.2.2.2 rfl (by decide) (.slice a m c) m _ rfl HO.out ⟨wr.heap.size,0,none⟩ 1 1 [.string (gt L k)] rfl rfl (cell_one_new _ _ _) (by intro u hu;simp at hu;subst hu;rfl) (by unfold maxLen;omega) (by omega) (by simp;omega) ?_)
     intro v' w5 ho hg _ hat
     have HB5:Hid (Below B w w5):=(HS.out.2.2.trans ((below_alloc _ _).mono (by omega))).grown hg (by simp;omega) (fun g e=>(own_lt HS.out.2.1 g e).1)
     obtain ⟨q1,q2⟩:=HY.out v' w5 ho
     obtain ⟨a5,c5,rfl,_⟩:=own_form ho
     have HX:Hid (m+1=(L0++fil lo hi (L.take (k+1))).length/\w5.ownsRow B 9 1 (.slice a5 (m+1) c5) (m+1) (strL (L0++fil lo hi (L.take (k+1))))/\Below B w w5):=⟨q2,q1,HB5.out⟩
     clear ho hg hat q1 q2 HO
     go_wp2
     go_roundw
     case rel=>exact ⟨k+1,m+1,a5,c5,by omega,by go_num,rfl,HX.out⟩
     case measure=>simp [intOf];omega
    ·have hem' : hi.toList.isEmpty=false:=by simpa using hem
     cases hh:Op.bytesLess (gt L k).toList hi.toList with
     | true=>
      have HY:=HYes (by unfold inR;rw [hl,hh];simp)
      clear htot HYes HNot
      go_wp2_with (at_builtin;refine wpList_append_own_at _ rfl _ _ 113 rfl B 9 i9 _ 1 16 Tryz.underlying113 HI.out.1 HI.out.2.1 HI.out.2.2.1 HI.out.2.2.2 rfl (by decide) (.slice a m c) m _ rfl HO.out ⟨wr.heap.size,0,none⟩ 1 1 [.string (gt L k)] rfl rfl (cell_one_new _ _ _) (by intro u hu;simp at hu;subst hu;rfl) (by unfold maxLen;omega) (by omega) (by simp;omega) ?_)
      intro v' w5 ho hg _ hat
      have HB5:Hid (Below B w w5):=(HS.out.2.2.trans ((below_alloc _ _).mono (by omega))).grown hg (by simp;omega) (fun g e=>(own_lt HS.out.2.1 g e).1)
      obtain ⟨q1,q2⟩:=HY.out v' w5 ho
      obtain ⟨a5,c5,rfl,_⟩:=own_form ho
      have HX:Hid (m+1=(L0++fil lo hi (L.take (k+1))).length/\w5.ownsRow B 9 1 (.slice a5 (m+1) c5) (m+1) (strL (L0++fil lo hi (L.take (k+1))))/\Below B w w5):=⟨q2,q1,HB5.out⟩
      clear ho hg hat q1 q2 HO
      go_wp2
      go_roundw
      case rel=>exact ⟨k+1,m+1,a5,c5,by omega,by go_num,rfl,HX.out⟩
      case measure=>simp [intOf];omega
     | false=>
      have HN:=HNot (by unfold inR;rw [hl,hh];simp [hem])
      clear htot HYes HNot
      go_wp2
      go_roundw
      case rel=>exact ⟨k+1,m,a,c,by omega,by go_num,rfl,HN.out⟩
      case measure=>simp [intOf];omega
  ·have e:k=n:=by omega
   subst e
   have HE:Hid (L.take k=L):=by
    show L.take k=L
    rw [HR.out.2,List.take_length]
   go_wp2
   go_ret
   have q:=HS.out
   rw [HE.out] at q
   refine ⟨a,c,by rw [<- q.1];rfl,by rw [<- q.1];exact q.2.1,q.2.2⟩
end Go.Proofs.YtpaomghibppgkaaGreat
