import Derived.Test.YtcnollkkigiobaaGreatInsL
import Derived.Test.YtcnollkkigiobaaGreatNd23
import Derived.Test.YtcnollkkigiobaaGreatNd9
import Derived.Test.YtcnollkkigiobaaGreatNd7
import Derived.Test.YtcnollkkigiobaaGreatNd18
import Derived.Test.YtcnollkkigiobaaGreatNd3
import Derived.Test.YtcnollkkigiobaaGreatNd17
set_option linter.unusedVariables false
set_option maxRecDepth 100000
namespace Go.Proofs.YtcnollkkigiobaaGreat
open Go.RowKit Go.Deep

theorem row_sets {g:Nat} {t:TypeId}:∀(vs:List Value) (o:Nat) (w:World) (cur:Array Value),w.heap[g]?=some (.cells cur t (0,0))->o+vs.length<=cur.size->∃cur' : Array Value,(w.setCells g o vs).heap[g]?=some (.cells cur' t (0,0))/\cur'.size=cur.size/\∀j,cur'[j]?=if o<=j/\j<o+vs.length then vs[j-o]? else cur[j]?
 | [],o,w,cur,h,hl=>⟨cur,h,rfl,fun j=>by rw [if_neg (by simp)]⟩
 | v::r,o,w,cur,h,hl=>by
  rw [List.length_cons] at hl
  have h1:(w.setCell ⟨g,o,none⟩ v).heap[g]?=some (.cells (cur.setIfInBounds o v) t (0,0)):=by
   simp [World.setCell,Array.getElem?_modify,h]
  obtain ⟨cur',e1,e2,e3⟩:=row_sets r (o+1) (w.setCell ⟨g,o,none⟩ v) (cur.setIfInBounds o v) h1 (by simp;omega)
  refine ⟨cur',e1,by rw [e2];simp,fun j=>?_⟩
  rw [e3 j,List.length_cons]
  by_cases q:o+1<=j/\j<o+1+r.length
  ·rw [if_pos q,if_pos (by omega),show j-o=(j-(o+1))+1 by omega,List.getElem?_cons_succ]
  ·rw [if_neg q,Array.getElem?_setIfInBounds]
   by_cases e:o=j
   ·subst e
    rw [if_pos rfl,if_pos (by omega),if_pos (by omega)]
    simp
   ·rw [if_neg e,if_neg (by omega)]

theorem grown_sets (g:Nat):∀(vs:List Value) (o:Nat) (w:World),w.grownBy (w.setCells g o vs) (some g)
 | [],o,w=>grown_refl _ _
 | v::r,o,w=>grown_trans (grown_set _ _ _ _) (grown_sets g r (o+1) _)
def RetIns (B:Nat) (w0 w:World) (a:Option Addr) (L:List ByteArray) (e:Ending) (w' : World):Prop:=
 ∃a' c',e=.returned (.slice a' L.length c')/\w'.ownsRow B 9 1 (.slice a' L.length c') L.length (strL L)/\w.grownBy w' (a.map (·.block))/\(a'=a\/∃g,a'=some ⟨g,0,none⟩/\w0.heap.size<g)

theorem strL_one (L:List ByteArray):∀v∈strL L,v.oneCell'=true:=by
 intro v hv
 unfold strL at hv
 obtain ⟨x,_,rfl⟩:=List.mem_map.1 hv
 rfl
theorem strL_take (L:List ByteArray) (i:Nat):(strL L).take i=strL (L.take i):=by simp [strL]
theorem strL_drop (L:List ByteArray) (i:Nat):(strL L).drop i=strL (L.drop i):=by simp [strL]


set_option maxHeartbeats 400000 in
theorem nanC_any (x:ByteArray) (w:World):Calls Tryz.prog 218 #[.string x] w fun e w'=>e=.returned (.bool false)/\w'=w:=by
 go_enter Tryz.func218,Tryz.ntmps218
 go_wp2
 go_ret
 exact ⟨by simp,rfl⟩

set_option maxHeartbeats 400000 in
theorem nanS_any (x:ByteArray) (w:World):Calls Tryz.prog 215 #[.string x] w fun e w'=>e=.returned (.bool false)/\w'=w:=by
 go_enter Tryz.func215,Tryz.ntmps215
 go_wp2
 go_ret
 exact ⟨by simp,rfl⟩

set_option maxHeartbeats 400000 in
theorem lessS_any (x y:ByteArray) (w:World):Calls Tryz.prog 214 #[.string x,.string y] w fun e w'=>e=.returned (.bool (Op.bytesLess x.toList y.toList))/\w'=w:=by
 go_enter Tryz.func214,Tryz.ntmps214
 go_wp2_with fail
 refine (nanC_any x _).mono ?_
 rintro e w1 ⟨rfl,rfl⟩
 go_wp2
 go_ret
 exact ⟨by simp,rfl⟩

def RetBs (L:List ByteArray) (key:ByteArray) (w:World) (e:Ending) (w' : World):Prop:=
 ∃(i:Nat) (ok:Bool),e=.returned (.tuple #[.int .i64 (i:Int),.bool ok])/\w'=w/\i<=L.length/\(∀j,j<i->Op.bytesLess (gt L j).toList key.toList=true)/\(∀j,i<=j->j<L.length->Op.bytesLess (gt L j).toList key.toList=false)/\(ok=true↔i<L.length/\gt L i=key)

set_option maxHeartbeats 4000000 in
theorem bs_any (a:Option Addr) (n c:Nat) (L:List ByteArray) (key:ByteArray) (w:World) (h:RdS w a n (gt L)) (hn:n=L.length) (hn2:n<=1048576) (ha:Asc L) :
  Calls Tryz.prog 211 #[.slice a n c,.string key] w (RetBs L key w):=by
 have HR:Hid (RdS w a n (gt L)/\n=L.length/\Asc L):=⟨h,hn,ha⟩
 clear h hn ha
 go_enter Tryz.func211,Tryz.ntmps211
 go_wp2
 go_loopw [7,8] (fun p q wr=>∃i j:Nat,i<=j/\j<=n/\p=.int .i64 i/\q=.int .i64 j/\wr=w/\(∀k,k<i->Op.bytesLess (gt L k).toList key.toList=true)/\(∀k,j<=k->k<n->Op.bytesLess (gt L k).toList key.toList=false)) (fun p q _=>(intOf q).toNat-(intOf p).toNat)
 case atStart=>exact ⟨0,n,Nat.zero_le _,Nat.le_refl _,rfl,rfl,rfl,fun k hk=>absurd hk (Nat.not_lt_zero _),fun k h1 h2=>by omega⟩
 case round=>
  obtain ⟨i,j,hij,hjn,rfl,rfl,rfl,h1,h2⟩:=hrel
  have H12:Hid ((∀k,k<i->Op.bytesLess (gt L k).toList key.toList=true)/\(∀k,j<=k->k<n->Op.bytesLess (gt L k).toList key.toList=false)):=⟨h1,h2⟩
  clear h1 h2
  by_cases hlt:i<j
  ·obtain ⟨m,hm⟩:∃m:Nat,((i:Int)+(j:Int)) / 2=(m:Int):=⟨(i+j) / 2,by omega⟩
   have hm1:i<=m/\m<j:=by omega
   have hmn:m<n:=by omega
   rcases HR.out.1 with q|⟨bk,ok,rfl,hc⟩
   ·omega
   have s1:=hc m hmn
   have hm0:(0:Int)<=(m:Int):=by omega
   have hmI:(m:Int)<(n:Int):=by omega
   have HL:Hid (m<L.length/\n=L.length):=⟨by rw [<- HR.out.2.1];exact hmn,HR.out.2.1⟩
   clear hc
   go_upto_region 5 with fail
   clear hm
   go_wp2_with fail
   refine (lessS_any (gt L m) key _).mono ?_
   rintro e w1 ⟨rfl,rfl⟩
   cases hls:Op.bytesLess (gt L m).toList key.toList with
   | true=>
    have HN:Hid (∀k,k<m+1->Op.bytesLess (gt L k).toList key.toList=true):=by
     intro k hk
     by_cases e:k=m
     ·subst e;exact hls
     ·exact less_trans _ _ _ (asc_lt HR.out.2.2 (show k<m by omega) HL.out.1) hls
    go_wp2
    go_roundw
    case rel=>exact ⟨m+1,j,by omega,hjn,by go_num,rfl,trivial,HN.out,H12.out.2⟩
    case measure=>simp [intOf];omega
   | false=>
    have HN:Hid (∀k,m<=k->k<n->Op.bytesLess (gt L k).toList key.toList=false):=by
     intro k hk1 hk2
     by_cases e:k=m
     ·subst e;exact hls
     ·have q:=asc_lt HR.out.2.2 (show m<k by omega) (by rw [<- HL.out.2];exact hk2)
      cases e2:Op.bytesLess (gt L k).toList key.toList with
      | false=>rfl
      | true=>
       have:=less_trans _ _ _ q e2
       rw [hls] at this
       cases this
    go_wp2
    go_roundw
    case rel=>exact ⟨i,m,by omega,by omega,rfl,rfl,trivial,H12.out.1,HN.out⟩
    case measure=>simp [intOf];omega
  ·have e:i=j:=by omega
   subst e
   have HB:Hid (i<=L.length/\(∀j,j<i->Op.bytesLess (gt L j).toList key.toList=true)/\(∀j,i<=j->j<L.length->Op.bytesLess (gt L j).toList key.toList=false)):=⟨by rw [<- HR.out.2.1];exact hjn,H12.out.1,fun j h1 h2=>H12.out.2 j h1 (by rw [HR.out.2.1];exact h2)⟩
   have HN:Hid (n=L.length):=HR.out.2.1
   have hif:¬ (i:Int)<(i:Int):=by omega
   clear H12 hlt hij
   by_cases hin:i<n
   ·have i1:(i:Int)<(n:Int):=by omega
    have i1' : decide ((i:Int)<(n:Int))=true:=decide_eq_true i1
    have i2' : decide (i<n)=true:=decide_eq_true hin
    have i0:(0:Int)<=(i:Int):=by omega
    rcases HR.out.1 with q|⟨bk,ok,rfl,hc⟩
    ·omega
    have s1:=hc i hin
    clear hc
    by_cases heq:gt L i=key
    ·have HOk:Hid (∀q:Bool,q=true->(q=true↔i<L.length/\gt L i=key)):=fun q hq=>⟨fun _=>⟨by rw [<- HN.out];exact hin,heq⟩,fun _=>hq⟩
     have hq:((gt L i).toList == key.toList)=true:=by rw [heq];simp
     clear heq
     go_wp2
     refine bodyPost_ret (v:=.tuple #[.int .i64 (i:Int),.bool true]) (by simp [results,Tryz.results211,go_sem]) rfl ⟨i,true,rfl,rfl,HB.out.1,HB.out.2.1,HB.out.2.2,HOk.out _ rfl⟩
    ·have HOk:Hid (∀q:Bool,q=false->(q=true↔i<L.length/\gt L i=key)):=fun q hq=>⟨fun h=>(by rw [hq] at h;cases h),fun h=>absurd h.2 heq⟩
     have hq:((gt L i).toList == key.toList)=false:=by
      rw [beq_eq_false_iff_ne]
      exact fun h=>heq (str_inj h)
     clear heq
     go_wp2_with fail
     refine (nanS_any (gt L i) _).mono ?_
     rintro e w1 ⟨rfl,rfl⟩
     go_wp2
     refine bodyPost_ret (v:=.tuple #[.int .i64 (i:Int),.bool false]) (by simp [results,Tryz.results211,go_sem]) rfl ⟨i,false,rfl,rfl,HB.out.1,HB.out.2.1,HB.out.2.2,HOk.out _ rfl⟩
   ·have i1:¬ (i:Int)<(n:Int):=by omega
    have i1' : decide ((i:Int)<(n:Int))=false:=decide_eq_false i1
    have i2' : decide (i<n)=false:=decide_eq_false hin
    have HOk:Hid (∀q:Bool,q=false->(q=true↔i<L.length/\gt L i=key)):=fun q hq=>⟨fun h=>(by rw [hq] at h;cases h),fun h=>absurd h.1 (by rw [<- HN.out];exact hin)⟩
    go_wp2
    refine bodyPost_ret (v:=.tuple #[.int .i64 (i:Int),.bool false]) (by simp [results,Tryz.results211,go_sem]) rfl ⟨i,false,rfl,rfl,HB.out.1,HB.out.2.1,HB.out.2.2,HOk.out _ rfl⟩

def RetKf {d:Nat} (l:List (Ro d)) (key:ByteArray) (w:World) (e:Ending) (w' : World):Prop:=
 ∃i:Nat,e=.returned (.int .i64 (i:Int))/\w'=w/\i<l.length/\(∀h:i<l.length,0<i->Op.bytesLess key.toList (gt (keysR d l[i]) 0).toList=false)/\(∀h:i+1<l.length,Op.bytesLess key.toList (gt (keysR d l[i+1]) 0).toList=true)

set_option maxHeartbeats 4000000 in
theorem kidFor_any (d b:Nat) (l:List (Ro d)) (S:Nat->Prop) (h:Nat) (key:ByteArray) (w:World) (ht:TAt S w (d+1) (.inr l) (.iface 174 (.pointer (some ⟨b,0,none⟩)))) (hb:∀t,t∈l->BalR d false t h) (hl4:l.length<=4) :
  Calls Tryz.prog 193 #[.pointer (some ⟨b,0,none⟩),.string key] w (RetKf l key w):=by
 obtain ⟨b',g,kc,xs,e,_,hx,_,_,hl,hc,hk⟩:=ht
 injection e with e1 e
 injection e with e
 injection e with e
 injection e with e e3 e4
 clear e1 e3 e4
 subst e
 have HK:Hid (∀k (h:k<l.length),∃u,w.cell? ⟨g,k,none⟩=some u/\((∃p,u=.iface 204 (.pointer (some p))/\Calls Tryz.prog 205 #[.pointer (some p)] w fun e w'=>e=.returned (.string (gt (keysR d l[k]) 0))/\w'=w)\/(∃p,u=.iface 174 (.pointer (some p))/\Calls Tryz.prog 188 #[.pointer (some p)] w fun e w'=>e=.returned (.string (gt (keysR d l[k]) 0))/\w'=w))):=by
  intro k hkl
  obtain ⟨u,hu,ht⟩:=hk k hkl
  refine ⟨u,hc k u hu,?_⟩
  rcases least_call ht (hb _ (List.getElem_mem hkl)) with ⟨p,e,q⟩|⟨p,e,q⟩
  ·exact Or.inl ⟨p,e,q w (Below.refl _ _)⟩
  ·exact Or.inr ⟨p,e,q w (Below.refl _ _)⟩
 have c1:=hx.cell 1
 simp at c1
 obtain ⟨ln,hln⟩:∃ln,ln=l.length:=⟨_,rfl⟩
 rw [<- hln] at c1 hl hl4
 have HLn:Hid (ln=l.length):=hln
 clear hx hc hk hb hln
 go_enter Tryz.func193,Tryz.ntmps193
 go_wp2
 go_loopw [5] (fun i wr=>∃k:Nat,k<ln/\i=.int .i64 k/\wr=w/\(∀h:k+1<l.length,Op.bytesLess key.toList (gt (keysR d l[k+1]) 0).toList=true)) (fun i _=>(intOf i).toNat)
 case atStart=>exact ⟨ln-1,by omega,by congr 1;omega,rfl,fun h=>by have:=HLn.out;omega⟩
 case round=>
  obtain ⟨k,hk,rfl,rfl,hq⟩:=hrel
  have HQ:Hid (∀h:k+1<l.length,Op.bytesLess key.toList (gt (keysR d l[k+1]) 0).toList=true):=hq
  clear hq
  have hlk:k<l.length:=by rw [<- HLn.out];exact hk
  by_cases h0:k=0
  ·subst h0
   have HX:Hid (∀h:0<l.length,0<0->Op.bytesLess key.toList (gt (keysR d l[0]) 0).toList=false):=fun _ h=>absurd h (Nat.lt_irrefl _)
   go_wp2
   go_ret
   exact ⟨0,rfl,rfl,hlk,HX.out,HQ.out⟩
  ·have i0:(0:Int)<(k:Int):=by omega
   have i0' : decide ((0:Int)<(k:Int))=true:=decide_eq_true i0
   have n0:0<k:=by omega
   have n0' : decide (0<k)=true:=decide_eq_true n0
   have ik0:(0:Int)<=(k:Int):=by omega
   have ikl:(k:Int)<(ln:Int):=by omega
   obtain ⟨u,hu,hform⟩:=HK.out k hlk
   have htot:=less_total key.toList (gt (keysR d l[k]) 0).toList
   obtain ⟨least,hle⟩:∃least,gt (keysR d l[k]) 0=least:=⟨_,rfl⟩
   rw [hle] at hform htot
   have HLe:Hid (gt (keysR d l[k]) 0=least):=hle
   clear hle
   have HQ2:Hid (Op.bytesLess key.toList least.toList=true->∀h:k-1+1<l.length,Op.bytesLess key.toList (gt (keysR d l[k-1+1]) 0).toList=true):=by
    intro q h
    have e:k-1+1=k:=by omega
    simp only [e]
    rw [HLe.out]
    exact q
   have HQ3:Hid (Op.bytesLess key.toList least.toList=false->∀h:k<l.length,0<k->Op.bytesLess key.toList (gt (keysR d l[k]) 0).toList=false):=fun q _ _=>by rw [HLe.out];exact q
   cases hls:Op.bytesLess key.toList least.toList with
   | true=>
    rw [hls] at htot
    have ht2:(Op.bytesLess least.toList key.toList || least.toList == key.toList)=false:=htot
    have hg:Hid (∀h:k-1+1<l.length,Op.bytesLess key.toList (gt (keysR d l[k-1+1]) 0).toList=true):=HQ2.out hls
    clear htot HQ2 HQ3 hls
    rcases hform with ⟨p,rfl,hcall⟩|⟨p,rfl,hcall⟩
    ·have HC:Hid (Calls Tryz.prog 205 #[.pointer (some p)] wr fun e w'=>e=.returned (.string least)/\w'=wr):=hcall
     clear hcall
     go_wp2_with fail
     refine HC.out.mono ?_
     rintro e w1 ⟨rfl,rfl⟩
     go_wp2
     go_roundw
     case rel=>exact ⟨k-1,by omega,by go_num,trivial,hg.out⟩
     case measure=>simp [intOf];omega
    ·have HC:Hid (Calls Tryz.prog 188 #[.pointer (some p)] wr fun e w'=>e=.returned (.string least)/\w'=wr):=hcall
     clear hcall
     go_wp2_with fail
     refine HC.out.mono ?_
     rintro e w1 ⟨rfl,rfl⟩
     go_wp2
     go_roundw
     case rel=>exact ⟨k-1,by omega,by go_num,trivial,hg.out⟩
     case measure=>simp [intOf];omega
   | false=>
    rw [hls] at htot
    have ht2:(Op.bytesLess least.toList key.toList || least.toList == key.toList)=true:=htot
    have HG:Hid (∀h:k<l.length,0<k->Op.bytesLess key.toList (gt (keysR d l[k]) 0).toList=false):=HQ3.out hls
    clear htot HQ2 HQ3 hls
    rcases hform with ⟨p,rfl,hcall⟩|⟨p,rfl,hcall⟩
    ·have HC:Hid (Calls Tryz.prog 205 #[.pointer (some p)] wr fun e w'=>e=.returned (.string least)/\w'=wr):=hcall
     clear hcall
     go_wp2_with fail
     refine HC.out.mono ?_
     rintro e w1 ⟨rfl,rfl⟩
     go_wp2
     go_ret
     exact ⟨k,rfl,rfl,hlk,HG.out,HQ.out⟩
    ·have HC:Hid (Calls Tryz.prog 188 #[.pointer (some p)] wr fun e w'=>e=.returned (.string least)/\w'=wr):=hcall
     clear hcall
     go_wp2_with fail
     refine HC.out.mono ?_
     rintro e w1 ⟨rfl,rfl⟩
     go_wp2
     go_ret
     exact ⟨k,rfl,rfl,hlk,HG.out,HQ.out⟩

theorem mem_gt {L:List ByteArray} {k:ByteArray} (h:k∈L):∃i,i<L.length/\gt L i=k:=by
 obtain ⟨i,hi,e⟩:=List.getElem_of_mem h
 refine ⟨i,hi,?_⟩
 unfold gt
 rw [List.getD_eq_getElem?_getD,List.getElem?_eq_getElem hi]
 exact e

set_option maxHeartbeats 2000000 in
theorem holds_any (a:Option Addr) (n c:Nat) (L:List ByteArray) (key:ByteArray) (w:World) (h:RdS w a n (gt L)) (hn:n=L.length) (hn2:n<=1048576) :
  Calls Tryz.prog 78 #[.slice a n c,.string key] w fun e w'=>∃b:Bool,e=.returned (.bool b)/\(b=true↔key∈L)/\Below w.heap.size w w':=by
 have HR:Hid (RdS w a n (gt L)/\n=L.length):=⟨h,hn⟩
 clear h hn
 go_enter Tryz.func78,Tryz.ntmps78
 go_wp2
 go_loopw [5] (fun i wr=>∃k:Nat,k<=n/\i=.int .i64 k/\(∀j,j<k->gt L j≠key)/\Below w.heap.size w wr) (fun i _=>n-(intOf i).toNat)
 case atStart=>exact ⟨0,Nat.zero_le _,rfl,fun j hj=>absurd hj (Nat.not_lt_zero _),Below.refl _ _⟩
 case round=>
  obtain ⟨k,hk,rfl,hall,hbel⟩:=hrel
  have HS:Hid ((∀j,j<k->gt L j≠key)/\Below w.heap.size w wr):=⟨hall,hbel⟩
  by_cases hlt:k<n
  ·rcases HR.out.1.below hbel with q|⟨b,o,rfl,hc⟩
   ·omega
   have s1:=hc k hlt
   have i0:(0:Int)<=(k:Int):=by omega
   have i1:(k:Int)<(n:Int):=by omega
   clear hc hall hbel
   by_cases he:gt L k=key
   ·have HY:Hid (key∈L):=by
     show key∈L
     rw [<- he]
     exact gt_mem (by rw [<- HR.out.2];exact hlt)
    rw [he] at s1
    have hq:(key.toList == key.toList)=true:=by simp
    go_wp2
    go_ret
    exact ⟨true,rfl,by simp [HY.out],HS.out.2⟩
   ·have hq:((gt L k).toList == key.toList)=false:=by
     rw [beq_eq_false_iff_ne]
     intro e
     exact he (str_inj e)
    have HN:Hid (∀j,j<k+1->gt L j≠key):=fun j hj=>by
     by_cases e:j=k
     ·subst e;exact he
     ·exact HS.out.1 j (by omega)
    clear he
    go_wp2
    go_roundw
    case rel=>exact ⟨k+1,by omega,by go_num,HN.out,HS.out.2⟩
    case measure=>simp [intOf];omega
  ·have e:k=n:=by omega
   subst e
   have HN:Hid (¬ key∈L):=fun hm=>by
    obtain ⟨i,hi,e⟩:=mem_gt hm
    exact HS.out.1 i (by rw [HR.out.2];exact hi) e
   clear hall hbel
   go_wp2
   go_ret
   exact ⟨false,rfl,by simp [HN.out],HS.out.2⟩

def OkT (perm m:Nat) (N:Nat->Tn):Prop:=∃t,VTt m N t/\(keysR 21 t).length<=300/\∀k,k∈keysR 21 t->k.size=16/\quadB (quadOf perm k)=true
def SameQ (i m:Nat) (N:Nat->Tn) (m0:Nat) (N0:Nat->Tn):Prop:=∀t t0,VTt m N t->VTt m0 N0 t0->(keysR 21 t).length=(keysR 21 t0).length/\∀k,k∈keysR 21 t->quadOf i k∈(keysR 21 t0).map (quadOf 0)
def VI (n:Nat) (M:Nat->Nat) (T:Nat->Nat->Tn):Prop:=n=6/\(∀j,j<6->OkT j (M j) (T j))/\∀i,1<=i->i<6->SameQ i (M i) (T i) (M 0) (T 0)
theorem vtt1 {n:Nat} {N:Nat->Tn} {t t' : Ro 21} (h:VTt n N t) (h' : VTt n N t'):t=t':=by
 have q:=h.2.2.1
 rw [h'.2.2.1] at q
 injection q with q
 injection q with q _
 exact q.symm

set_option maxHeartbeats 8000000 in
theorem specVI (a:Option Addr) (n c:Nat) (M:Nat->Nat) (T:Nat->Nat->Tn) (w:World) (h:RdIx w a n M T) (hn:n<=1048576) (hN:IxFit n M T) :
  Calls Tryz.prog 25 #[.agg #[.slice a n c]] w (AnsN w (VI n M T)):=by
 by_cases h6:n=6
 case neg=>
  have h6i:¬ (n:Int)=6:=by omega
  have h6d:((n:Int) != 6)=true:=by simp;omega
  have HF:Hid (¬ VI n M T):=fun q=>h6 q.1
  clear h hN
  go_enter Tryz.func25,Tryz.ntmps25
  go_wp2
  go_ret
  exact ⟨false,rfl,by simp [HF.out],below_alloc _ _⟩
 case pos=>
 subst h6
 have HR:Hid (RdIx w a 6 M T/\IxFit 6 M T):=⟨h,hN⟩
 clear h hN hn
 go_enter Tryz.func25,Tryz.ntmps25
 go_wp2
 go_loopw [3,4,5,6,7] (fun i _ _ _ _ wr=>∃j:Nat,j<=6/\i=.int .i64 j/\(∀q,q<j->OkT q (M q) (T q))/\Below w.heap.size w wr/\Bx wr w.heap.size 32 #[.slice a 6 c]) (fun i _ _ _ _ _=>6-(intOf i).toNat)
 case atStart=>exact ⟨0,by omega,rfl,fun q hq=>absurd hq (Nat.not_lt_zero _),below_alloc _ _,Bx.new _ _ _⟩
 case round=>
  obtain ⟨j,hj,rfl,hok,hbel,hbx⟩:=hrel
  have HS:Hid ((∀q,q<j->OkT q (M q) (T q))/\Below w.heap.size w wr/\Bx wr w.heap.size 32 #[.slice a 6 c]):=⟨hok,hbel,hbx⟩
  have b0:=hbx.cell 0
  simp at b0
  have bl:=hbx.lt
  have j0:(0:Int)<=(j:Int):=by omega
  by_cases hlt:j<6
  ·have j1:(j:Int)<6:=by omega
   rcases HR.out.1.below hbel with q|⟨bb,oo,ea,hc⟩
   ·omega
   obtain ⟨aj,cj,s0,hrd⟩:=hc j hlt
   have hfit:=HR.out.2 j hlt
   obtain ⟨m,hm⟩:∃m,m=M j:=⟨_,rfl⟩
   have HM:Hid (m=M j):=hm
   have HOf:Hid (Calls Tryz.prog 57 #[.agg #[.slice aj m cj]] wr (RetOf wr (M j) (T j))):=by
    rw [hm]
    exact of_any aj (M j) cj (T j) wr hrd hfit.1 hfit.2
   rw [<- hm] at s0
   subst ea
   clear hok hbel hbx hc hrd hfit hm
   go_wp2_with fail
   (with_reducible refine HOf.out.mono ?_)
   rintro e w1 ⟨hb1,lf,ka,kn,kc,ca,cn,cc,ok,rfl,hr⟩
   have H1:Hid (Below w.heap.size w w1/\Bx w1 w.heap.size 32 #[.slice (some ⟨bb,oo,none⟩) 6 c]):=⟨HS.out.2.1.trans (hb1.mono HS.out.2.1.size),HS.out.2.2.below hb1⟩
   clear hb1 HOf b0 bl s0
   cases ok with
   | false=>
    have HF:Hid (¬ VI 6 M T):=fun q=>by
     obtain ⟨t,ht,_⟩:=q.2.1 j hlt
     rcases hr with ⟨_,hno,_⟩|⟨q,_⟩
     ·exact hno ⟨t,ht⟩
     ·cases q
    clear hr
    go_wp2
    go_ret
    exact ⟨false,rfl,by simp [HF.out],H1.out.1.alloc H1.out.1.size _⟩
   | true=>
    obtain ⟨t,hvt,hna⟩:∃t,VTt (M j) (T j) t/\NA w1 21 t (.agg #[.bool lf,.slice ka kn kc,.slice ca cn cc]):=by
     rcases hr with ⟨q,_⟩|⟨_,q⟩
     ·cases q
     ·exact q
    have hend:=nestR_end hvt.2.2.1
    have hm5:=hvt.2.1
    obtain ⟨hh,hbal⟩:=hvt.2.2.2.1
    have hfl:=fit_len (bal_fit hbal)
    have HV:Hid (VTt (M j) (T j) t):=hvt
    have HKeys:Hid (∀W,Below w1.heap.size w1 W->Calls Tryz.prog 58 #[.agg #[.bool lf,.slice ka kn kc,.slice ca cn cc]] W (RetStrs W (keysR 21 t))):=fun W hW=>keys_any 21 t _ W (hna.below hW) (by omega) (by omega)
    have hk20:(keysR 21 t).length<=20000:=by omega
    clear hr hna hvt hend hm5 hbal hfl
    go_wp2_with fail
    (with_reducible refine (HKeys.out _ (below_alloc _ _)).mono ?_)
    rintro e w3 ⟨a3,c3,rfl,ho3,hb3,_,_⟩
    obtain ⟨kl,hkl⟩:∃kl,kl=(keysR 21 t).length:=⟨_,rfl⟩
    have HKL:Hid (kl=(keysR 21 t).length):=hkl
    have H3:Hid (Below w.heap.size w w3/\Bx w3 w.heap.size 32 #[.slice (some ⟨bb,oo,none⟩) 6 c]/\RdS w3 a3 kl (gt (keysR 21 t))):=by
     have q:=H1.out.1.alloc H1.out.1.size (.cells #[.bool lf,.slice ka kn kc,.slice ca cn cc] 91)
     exact ⟨q.trans (hb3.mono q.size),(H1.out.2.alloc _).below hb3,by rw [hkl];exact ho3.rd⟩
    rw [<- hkl] at hk20 ⊢
    clear hkl ho3 hb3 HKeys H1
    by_cases h300:300<kl
    ·have h3i:(300:Int)<(kl:Int):=by omega
     have h3d:decide ((300:Int)<(kl:Int))=true:=decide_eq_true h3i
     have HF:Hid (¬ VI 6 M T):=fun q=>by
      obtain ⟨t',ht',hl',_⟩:=q.2.1 j hlt
      rw [vtt1 ht' HV.out,<- HKL.out] at hl'
      omega
     go_wp2
     go_ret
     exact ⟨false,rfl,by simp [HF.out],H3.out.1⟩
    ·have h3i:¬ (300:Int)<(kl:Int):=by omega
     have h3d:decide ((300:Int)<(kl:Int))=false:=decide_eq_false h3i
     go_wp2
     go_loopw [7] (fun i wr=>∃k:Nat,k<=kl/\i=.int .i64 k/\(∀x,x<k->(gt (keysR 21 t) x).size=16/\quadB (quadOf j (gt (keysR 21 t) x))=true)/\Below w3.heap.size w3 wr) (fun i _=>kl-(intOf i).toNat)
     case atStart=>exact ⟨0,Nat.zero_le _,rfl,fun x hx=>absurd hx (Nat.not_lt_zero _),Below.refl _ _⟩
     case round=>
      obtain ⟨k,hk,rfl,hall,hbq⟩:=hrel
      have HQ:Hid ((∀x,x<k->(gt (keysR 21 t) x).size=16/\quadB (quadOf j (gt (keysR 21 t) x))=true)/\Below w3.heap.size w3 wr/\Below w.heap.size w wr/\Bx wr w.heap.size 32 #[.slice (some ⟨bb,oo,none⟩) 6 c]):=⟨hall,hbq,H3.out.1.trans (hbq.mono H3.out.1.size),H3.out.2.1.below hbq⟩
      have k0:(0:Int)<=(k:Int):=by omega
      by_cases hkl:k<kl
      ·have k1:(k:Int)<(kl:Int):=by omega
       obtain ⟨b5,o5,ea,s1⟩:=(H3.out.2.2.below hbq).cellOf k hkl
       obtain ⟨key,hkey⟩:∃key,key=gt (keysR 21 t) k:=⟨_,rfl⟩
       have HKy:Hid (key=gt (keysR 21 t) k/\key∈keysR 21 t):=⟨hkey,by rw [hkey];exact gt_mem (by rw [<- HKL.out];exact hkl)⟩
       rw [<- hkey] at s1
       clear hkey hall hbq
       subst ea
       by_cases hs:key.size=16
       ·have hsi:(key.size:Int)=16:=by omega
        have hsd:((key.size:Int) != 16)=false:=by simp [hsi]
        have HQd:Hid (Calls Tryz.prog 59 #[.string key,.int .i64 (j:Int)] wr fun e w'=>e=.returned (qv (quadOf j key))/\Below wr.heap.size wr w'):=l5Quad_any j hlt key hs wr
        have HSz:Hid (key.size=16):=hs
        clear hs hsi
        go_wp2_with fail
        (with_reducible refine HQd.out.mono ?_)
        rintro e w5 ⟨rfl,hb5⟩
        have HG:Hid (∀W,Calls Tryz.prog 41 #[qv (quadOf j key)] W fun e w'=>e=.returned (.bool (quadB (quadOf j key)))/\Below W.heap.size W w'):=fun W=>l5Good_any _ W
        have H5:Hid (Below w3.heap.size w3 w5/\Below w.heap.size w w5):=⟨HQ.out.2.1.trans (hb5.mono HQ.out.2.1.size),HQ.out.2.2.1.trans (hb5.mono HQ.out.2.2.1.size)⟩
        have HQB:Hid (∀b,b=quadB (quadOf j key)->b=quadB (quadOf j (gt (keysR 21 t) k))):=fun b hb=>by rw [hb,HKy.out.1]
        generalize hqv:qv (quadOf j key)=qq at HG ⊢
        unfold qv at hqv
        subst hqv
        clear hb5 HQd
        go_wp2_with fail
        (with_reducible refine (HG.out _).mono ?_)
        rintro e w6 ⟨rfl,hb6⟩
        have H6:Hid (Below w3.heap.size w3 w6/\Below w.heap.size w w6):=⟨H5.out.1.trans (hb6.mono H5.out.1.size),H5.out.2.trans (hb6.mono H5.out.2.size)⟩
        clear hb6 HG
        cases hqb:quadB (quadOf j key) with
        | false=>
         have HF:Hid (¬ VI 6 M T):=fun q=>by
          obtain ⟨t',ht',_,hg'⟩:=q.2.1 j hlt
          rw [vtt1 ht' HV.out] at hg'
          have q2:=(hg' key HKy.out.2).2
          rw [hqb] at q2
          cases q2
         go_wp2
         go_ret
         exact ⟨false,rfl,by simp [HF.out],H6.out.2⟩
        | true=>
         have HN:Hid (∀x,x<k+1->(gt (keysR 21 t) x).size=16/\quadB (quadOf j (gt (keysR 21 t) x))=true):=fun x hx=>by
          by_cases e:x=k
          ·subst e
           rw [<- HKy.out.1]
           exact ⟨HSz.out,hqb⟩
          ·exact HQ.out.1 x (by omega)
         go_wp2
         go_roundw
         case rel=>exact ⟨k+1,by omega,by go_num,HN.out,H6.out.1⟩
         case measure=>simp [intOf];omega
       ·have hsi:¬ (key.size:Int)=16:=by omega
        have hsd:((key.size:Int) != 16)=true:=by simp;omega
        have HF:Hid (¬ VI 6 M T):=fun q=>by
         obtain ⟨t',ht',_,hg'⟩:=q.2.1 j hlt
         rw [vtt1 ht' HV.out] at hg'
         exact hs (hg' key HKy.out.2).1
        go_wp2
        go_ret
        exact ⟨false,rfl,by simp [HF.out],HQ.out.2.2.1⟩
      ·obtain rfl:k=kl:=by omega
       have HN:Hid (∀q,q<j+1->OkT q (M q) (T q)):=fun q hq=>by
        by_cases e:q=j
        ·subst e
         refine ⟨t,HV.out,by rw [<- HKL.out];omega,fun x hx=>?_⟩
         obtain ⟨y,hy,e⟩:=List.getElem_of_mem hx
         have q2:=HQ.out.1 y (by rw [HKL.out];exact hy)
         rw [gt_in hy,e] at q2
         exact q2
        ·exact HS.out.1 q (by omega)
       clear hall hbq
       go_wp2
       go_roundw
       case rel=>exact ⟨j+1,by omega,by go_num,HN.out,HQ.out.2.2⟩
       case measure=>simp [intOf];omega
  ·obtain rfl:j=6:=by omega
   have HOk:Hid (∀q,q<6->OkT q (M q) (T q)):=hok
   have HRd:Hid (∀(W:World) (i:Nat),Below w.heap.size w W->i<6->∃bb oo ai ci,a=some ⟨bb,oo,none⟩/\W.cell? ⟨bb,oo+i,none⟩=some (.slice ai (M i) ci)/\RdTn W ai (M i) (T i)):=fun W i hW hi=>by
    rcases HR.out.1.below hW with q|⟨bb,oo,ea,hc⟩
    ·omega
    ·obtain ⟨ai,ci,q1,q2⟩:=hc i hi
     exact ⟨bb,oo,ai,ci,ea,q1,q2⟩
   have HQs:Hid (∀(W:World) (i:Nat) (ai:Option Addr) (ci:Nat) (t:Ro 21) (L:List Qd),i<6->RdTn W ai (M i) (T i)->VTt (M i) (T i) t->L=(keysR 21 t).map (quadOf i)->Calls Tryz.prog 33 #[.agg #[.slice ai (M i) ci],.int .i64 (i:Int)] W fun e w'=>∃a' c',e=.returned (.slice a' L.length c')/\RdQ w' a' L/\Below W.heap.size W w'):=fun W i ai ci t L hi hr hv hL=>by
    obtain ⟨t',ht',hl',hg'⟩:=HOk.out i hi
    rw [vtt1 ht' hv] at hl' hg'
    exact l5Quads_any i hi ai (M i) ci (T i) t W hr hv (HR.out.2 i hi).2 (fun k hk=>(hg' k hk).1) hl' L hL
   obtain ⟨t0,hv0,hl0,hg0⟩:=hok 0 (by omega)
   obtain ⟨L0,hL0⟩:∃L0,L0=(keysR 21 t0).map (quadOf 0):=⟨_,rfl⟩
   obtain ⟨bb,oo,a0,c0,ea,s0,hrd0⟩:=HRd.out wr 0 hbel (by omega)
   have HQ0:Hid (Calls Tryz.prog 33 #[.agg #[.slice a0 (M 0) c0],.int .i64 0] wr fun e w'=>∃a' c',e=.returned (.slice a' L0.length c')/\RdQ w' a' L0/\Below wr.heap.size wr w'):=HQs.out wr 0 a0 c0 t0 L0 (by omega) hrd0 hv0 hL0
   have H0:Hid (VTt (M 0) (T 0) t0/\L0=(keysR 21 t0).map (quadOf 0)/\L0.length<=300):=⟨hv0,hL0,by rw [hL0,List.length_map];exact hl0⟩
   clear hv0 hl0 hg0 hL0 hrd0 hok hbel hbx
   rw [Nat.add_zero] at s0
   subst ea
   go_wp2_with fail
   (with_reducible refine HQ0.out.mono ?_)
   rintro e w1 ⟨a1,c1,rfl,hq1,hb1⟩
   obtain ⟨l0,hl0⟩:∃l0,l0=L0.length:=⟨_,rfl⟩
   have HL0:Hid (l0=L0.length):=hl0
   have hl300:l0<=300:=by rw [hl0];exact H0.out.2.2
   have H1:Hid (Below w.heap.size w w1/\Bx w1 w.heap.size 32 #[.slice (some ⟨bb,oo,none⟩) 6 c]/\RdQ w1 a1 L0):=⟨HS.out.2.1.trans (hb1.mono HS.out.2.1.size),HS.out.2.2.below hb1,hq1⟩
   rw [<- hl0]
   clear hq1 hb1 HQ0 hl0 s0 b0 bl
   go_wp2
   go_loopw [9,10,11] (fun i _ _ wr=>∃x:Nat,1<=x/\x<=6/\i=.int .i64 x/\(∀q,1<=q->q<x->SameQ q (M q) (T q) (M 0) (T 0))/\Below w1.heap.size w1 wr) (fun i _ _ _=>6-(intOf i).toNat)
   case atStart=>exact ⟨1,by omega,by omega,rfl,fun q h1 h2=>by omega,Below.refl _ _⟩
   case round=>
    obtain ⟨x,hx1,hx6,rfl,hsm,hbq⟩:=hrel
    have hbw:Below w.heap.size w wr:=H1.out.1.trans (hbq.mono H1.out.1.size)
    have HQ:Hid ((∀q,1<=q->q<x->SameQ q (M q) (T q) (M 0) (T 0))/\Below w1.heap.size w1 wr/\Below w.heap.size w wr):=⟨hsm,hbq,hbw⟩
    have x0:(0:Int)<=(x:Int):=by omega
    by_cases hxl:x<6
    ·have x1:(x:Int)<6:=by omega
     obtain ⟨t,hvt,hlt,hgt⟩:=HOk.out x hxl
     obtain ⟨L,hL⟩:∃L,L=(keysR 21 t).map (quadOf x):=⟨_,rfl⟩
     obtain ⟨bb',oo',ax,cx,ea,s0,hrdx⟩:=HRd.out wr x hbw hxl
     injection ea with ea
     injection ea with ea1 ea2
     subst ea1 ea2
     obtain ⟨m,hm⟩:∃m,m=M x:=⟨_,rfl⟩
     have HQx:Hid (Calls Tryz.prog 33 #[.agg #[.slice ax m cx],.int .i64 (x:Int)] wr fun e w'=>∃a' c',e=.returned (.slice a' L.length c')/\RdQ w' a' L/\Below wr.heap.size wr w'):=by
      rw [hm]
      exact HQs.out wr x ax cx t L hxl hrdx hvt hL
     rw [<- hm] at s0
     have HT:Hid (VTt (M x) (T x) t/\L=(keysR 21 t).map (quadOf x)/\L.length<=300):=⟨hvt,hL,by rw [hL,List.length_map];exact hlt⟩
     have hbxr:=H1.out.2.1.below hbq
     have b0:=hbxr.cell 0
     simp at b0
     have bl:=hbxr.lt
     clear hvt hlt hgt hL hrdx hm hsm hbq hbw hbxr
     go_wp2_with fail
     (with_reducible refine HQx.out.mono ?_)
     rintro e w3 ⟨a3,c3,rfl,hq3,hb3⟩
     obtain ⟨l3,hl3⟩:∃l3,l3=L.length:=⟨_,rfl⟩
     have HL3:Hid (l3=L.length):=hl3
     have hl33:l3<=300:=by rw [hl3];exact HT.out.2.2
     have H3:Hid (Below w1.heap.size w1 w3/\Below w.heap.size w w3/\RdQ w3 a3 L):=⟨HQ.out.2.1.trans (hb3.mono HQ.out.2.1.size),HQ.out.2.2.trans (hb3.mono HQ.out.2.2.size),hq3⟩
     rw [<- hl3]
     clear hq3 hb3 HQx hl3 s0 b0 bl
     by_cases hne:l3=l0
     ·have hned:((l3:Int) != (l0:Int))=false:=by simp [hne]
      have HNe:Hid (l3=l0):=hne
      clear hne
      go_wp2
      go_loopw [11] (fun i wr=>∃k:Nat,k<=l3/\i=.int .i64 k/\(∀y (h:y<L.length),y<k->L[y]∈L0)/\Below w3.heap.size w3 wr) (fun i _=>l3-(intOf i).toNat)
      case atStart=>exact ⟨0,Nat.zero_le _,rfl,fun y _ hy=>absurd hy (Nat.not_lt_zero _),Below.refl _ _⟩
      case round=>
       obtain ⟨k,hk,rfl,hall,hbr⟩:=hrel
       have HK:Hid ((∀y (h:y<L.length),y<k->L[y]∈L0)/\Below w1.heap.size w1 wr/\Below w.heap.size w wr/\Below w3.heap.size w3 wr):=⟨hall,H3.out.1.trans (hbr.mono H3.out.1.size),H3.out.2.1.trans (hbr.mono H3.out.2.1.size),hbr⟩
       have k0:(0:Int)<=(k:Int):=by omega
       by_cases hkl:k<l3
       ·have k1:(k:Int)<(l3:Int):=by omega
        have hkL:k<L.length:=by rw [<- HL3.out];exact hkl
        rcases H3.out.2.2.below hbr with q|⟨gb,ea,hc⟩
        ·omega
        obtain ⟨s0,s1,s2,s3⟩:=hc k hkL
        obtain ⟨qd,hqd⟩:∃qd,qd=L[k]:=⟨_,rfl⟩
        have HQd:Hid (L[k]=qd):=hqd.symm
        rw [<- hqd] at s0 s1 s2 s3
        have HHs:Hid (Calls Tryz.prog 43 #[.slice a1 l0 c1,.agg #[.int .i64 qd.s,.int .i64 qd.p,.int .i64 qd.o,.int .i64 qd.g]] wr fun e w'=>∃b:Bool,e=.returned (.bool b)/\(b=true↔qd∈L0)/\Below wr.heap.size wr w'):=l5Has_any a1 l0 c1 L0 qd wr (H1.out.2.2.below HK.out.2.1) HL0.out (by omega)
        subst ea
        clear hc hqd hall hbr
        go_wp2_with fail
        (with_reducible refine HHs.out.mono ?_)
        rintro e w5 ⟨b5,rfl,hb5,hbe5⟩
        have H5:Hid (Below w3.heap.size w3 w5/\Below w.heap.size w w5/\(b5=true↔qd∈L0)):=⟨HK.out.2.2.2.trans (hbe5.mono HK.out.2.2.2.size),HK.out.2.2.1.trans (hbe5.mono HK.out.2.2.1.size),hb5⟩
        clear hb5 hbe5 HHs
        cases b5 with
        | false=>
         have HF:Hid (¬ VI 6 M T):=fun q=>by
          have q2:=(q.2.2 x hx1 hxl t t0 HT.out.1 H0.out.1).2
          have hkt:k<(keysR 21 t).length:=by
           have:=HT.out.2.1
           rw [this,List.length_map] at hkL
           exact hkL
          have q3:=q2 _ (List.getElem_mem hkt)
          have e:L[k]=quadOf x (keysR 21 t)[k]:=by
           have e0:=HT.out.2.1
           subst e0
           rw [List.getElem_map]
          rw [<- e,HQd.out,<- H0.out.2.1] at q3
          have q4:false=true:=H5.out.2.2.2 q3
          cases q4
         go_wp2
         go_ret
         exact ⟨false,rfl,by simp [HF.out],H5.out.2.1⟩
        | true=>
         have HN:Hid (∀y (h:y<L.length),y<k+1->L[y]∈L0):=fun y hy hy2=>by
          by_cases e:y=k
          ·subst e
           rw [HQd.out]
           exact H5.out.2.2.1 rfl
          ·exact HK.out.1 y hy (by omega)
         go_wp2
         go_roundw
         case rel=>exact ⟨k+1,by omega,by go_num,HN.out,H5.out.1⟩
         case measure=>simp [intOf];omega
       ·obtain rfl:k=l3:=by omega
        have HN:Hid (∀q,1<=q->q<x+1->SameQ q (M q) (T q) (M 0) (T 0)):=fun q h1 h2=>by
         by_cases e:q=x
         ·subst e
          intro t' t0' ht' ht0'
          rw [vtt1 ht' HT.out.1,vtt1 ht0' H0.out.1]
          have eL:=HT.out.2.1
          have eL0:=H0.out.2.1
          have e3:=HL3.out
          have e0:=HL0.out
          have ee:=HNe.out
          refine ⟨by rw [eL,List.length_map] at e3;rw [eL0,List.length_map] at e0;omega,fun ky hky=>?_⟩
          obtain ⟨y,hy,e⟩:=List.getElem_of_mem hky
          have hyL:y<L.length:=by rw [eL,List.length_map];exact hy
          have q2:=HK.out.1 y hyL (by omega)
          rw [<- eL0]
          have e4:L[y]=quadOf q ky:=by
           subst eL
           rw [List.getElem_map,e]
          rw [<- e4]
          exact q2
         ·exact HQ.out.1 q h1 (by omega)
        clear hall hbr
        go_wp2
        go_roundw
        case rel=>exact ⟨x+1,by omega,by omega,by go_num,HN.out,HK.out.2.1⟩
        case measure=>simp [intOf];omega
     ·have hnei:¬ (l3:Int)=(l0:Int):=by omega
      have hned:((l3:Int) != (l0:Int))=true:=by simp;omega
      have HF:Hid (¬ VI 6 M T):=fun q=>by
       have q2:=(q.2.2 x hx1 hxl t t0 HT.out.1 H0.out.1).1
       have e3:=HL3.out
       have e0:=HL0.out
       rw [HT.out.2.1,List.length_map] at e3
       rw [H0.out.2.1,List.length_map] at e0
       omega
      go_wp2
      go_ret
      exact ⟨false,rfl,by simp [HF.out],H3.out.2.1⟩
    ·obtain rfl:x=6:=by omega
     have HF:Hid (VI 6 M T):=⟨rfl,HOk.out,fun i h1 h2=>HQ.out.1 i h1 h2⟩
     clear hsm hbq hbw
     go_wp2
     go_ret
     exact ⟨true,rfl,by simp [HF.out],HQ.out.2.2⟩
end Go.Proofs.YtcnollkkigiobaaGreat
