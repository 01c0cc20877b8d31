import Derived.Test.YtpaomghibppgkaaGreatRows
import Derived.Test.YtpaomghibppgkaaGreatNv1
import Derived.WalkKit
import Derived.Deep.RegionWith
import Derived.Deep.RegionHeld3
import Derived.Handy
import Derived.ProofKit
import Derived.OpenShut
import Derived.Lib.SmallJoins
import Derived.Deep.SlicePairs
import Derived.Deep.QuietTactic
import Derived.BigQuiet
import Derived.Laws.Cover1
set_option linter.unusedVariables false
set_option maxRecDepth 100000
namespace Go.Proofs.YtpaomghibppgkaaGreat

def Ro:Nat->Type
 | 0=>Empty
 | d+1=>Sum (List ByteArray) (List (Ro d))

def nodesR:(d:Nat)->Ro d->Nat
 | 0,t=>t.elim
 | d+1,.inl _=>1
 | d+1,.inr l=>1+(l.map (nodesR d)).sum

def keysR:(d:Nat)->Ro d->List ByteArray
 | 0,t=>t.elim
 | d+1,.inl t=>t
 | d+1,.inr l=>l.flatMap (keysR d)

def BalR:(d:Nat)->Bool->Ro d->Nat->Prop
 | 0,_,t,_=>t.elim
 | d+1,root,.inl t,h=>h=0/\t.length<=4/\(root=true\/2<=t.length)
 | d+1,root,.inr l,h=>2<=l.length/\l.length<=4/\∃h',h=h'+1/\∀t,t∈l->BalR d false t h'

theorem sum_ge {l:List Nat} {k:Nat} (h:∀x,x∈l->k<=x):l.length*k<=l.sum:=by
 induction l with
 | nil=>simp
 | cons x l ih=>
  have h1:=h x (by simp)
  have h2:=ih (fun y hy=>h y (by simp [hy]))
  simp only [List.length_cons,List.sum_cons,Nat.add_mul,Nat.one_mul]
  omega

theorem BalR.nodes:∀{d:Nat} {root:Bool} {t:Ro d} {h:Nat},BalR d root t h->2 ^ h<=nodesR d t
 | 0,root,t,h,hb=>t.elim
 | d+1,root,.inl t,h,hb=>by
  obtain ⟨rfl,_⟩:=hb
  exact Nat.le_refl _
 | d+1,root,.inr l,h,hb=>by
  obtain ⟨h2,_,h',rfl,hall⟩:=hb
  have h1:∀x,x∈l.map (nodesR d)->2 ^ h'<=x:=by
   intro x hx
   obtain ⟨t,ht,rfl⟩:=List.mem_map.1 hx
   exact BalR.nodes (hall t ht)
  have h3:=sum_ge h1
  rw [List.length_map] at h3
  have h4:2*2 ^ h'<=l.length*2 ^ h':=Nat.mul_le_mul_right _ h2
  show 2 ^ (h'+1)<=1+(l.map (nodesR d)).sum
  rw [Nat.pow_succ]
  omega

theorem BalR.low {d:Nat} {root:Bool} {t:Ro d} {h:Nat} (hb:BalR d root t h) (hn:nodesR d t<=5000):h<=12:=by
 rcases Nat.lt_or_ge h 13 with q|q
 ·omega
 ·have h1:=hb.nodes
  have h2:2 ^ 13<=2 ^ h:=Nat.pow_le_pow_right (by decide) q
  have h3:2 ^ 13=8192:=by decide
  omega

def kidsF {T:Type} (f:Nat->Option (T × Nat)) (kd:Nat->Int) (x:Nat):Nat->Option (List T × Nat)
 | 0=>some ([],x)
 | k+1=>match kidsF f kd x k with
  | some (ts,e)=>if kd k=(e:Int) then (match f e with
   | some (t,e')=>some (ts++[t],e')
   | none=>none) else none
  | none=>none

def ksL (x:Tn):List ByteArray:=(List.range x.kn).map x.ks
theorem ksL_length (x:Tn):(ksL x).length=x.kn:=by simp [ksL]
def gt (l:List ByteArray) (i:Nat):ByteArray:=l.getD i { data:=#[] }
theorem gt_ksL (x:Tn) (i:Nat) (h:i<x.kn):gt (ksL x) i=x.ks i:=by
 unfold gt ksL
 simp [List.getD_eq_getElem?_getD,h]

def nestR (N:Nat->Tn) (n:Nat):(d:Nat)->Nat->Option (Ro d × Nat)
 | 0,_=>none
 | d
  + 1,x=>if x<n then
  (if (N x).lf=true then (if (N x).dn=0 then some (.inl (ksL (N x)),x+1) else none)
   else (if (N x).dn=0 then none else (match kidsF (nestR N n d) (N x).kd (x+1) (N x).dn with
   | some (ts,e)=>some (.inr ts,e)
   | none=>none)))
  else none

theorem kidsF_none {T:Type} {f:Nat->Option (T × Nat)} {kd:Nat->Int} {x k m:Nat} (h:kidsF f kd x k=none) (hk:k<=m):kidsF f kd x m=none:=by
 induction m with
 | zero=>
  have e:k=0:=by omega
  subst e
  exact h
 | succ m ih=>
  by_cases e:k=m+1
  ·subst e
   exact h
  ·unfold kidsF
   rw [ih (by omega)]

theorem kidsF_end {T:Type} {f:Nat->Option (T × Nat)} {g:T->Nat} (hf:∀x t e,f x=some (t,e)->e=x+g t) {kd:Nat->Int} {x:Nat}:∀{k:Nat} {ts:List T} {e:Nat},kidsF f kd x k=some (ts,e)->e=x+(ts.map g).sum/\ts.length=k
 | 0,ts,e,h=>by
  simp only [kidsF,Option.some.injEq,Prod.mk.injEq] at h
  obtain ⟨rfl,rfl⟩:=h
  simp
 | k+1,ts,e,h=>by
  unfold kidsF at h
  split at h
  ·rename_i ts1 e1 h1
   obtain ⟨q2,q3⟩:=kidsF_end hf h1
   split at h
   ·split at h
    ·rename_i t e2 h2
     simp only [Option.some.injEq,Prod.mk.injEq] at h
     obtain ⟨rfl,rfl⟩:=h
     have q1:=hf _ _ _ h2
     simp only [List.map_append,List.sum_append,List.length_append,List.map_cons,List.map_nil,List.sum_cons,List.sum_nil,List.length_cons,List.length_nil]
     exact ⟨by omega,by omega⟩
    ·cases h
   ·cases h
  ·cases h

theorem nestR_end {N:Nat->Tn} {n:Nat}:∀{d x:Nat} {t:Ro d} {e:Nat},nestR N n d x=some (t,e)->e=x+nodesR d t
 | 0,x,t,e,h=>t.elim
 | d+1,x,t,e,h=>by
  unfold nestR at h
  split at h
  ·split at h
   ·split at h
    ·injection h with h
     cases h
     rfl
    ·cases h
   ·split at h
    ·cases h
    ·split at h
     ·rename_i ts e1 h1
      injection h with h
      cases h
      have q:=(kidsF_end (g:=nodesR d) (fun x t e hx=>nestR_end hx) h1).1
      show e=x+(1+(ts.map (nodesR d)).sum)
      omega
     ·cases h
  ·cases h

end Go.Proofs.YtpaomghibppgkaaGreat
namespace Go.Proofs.YtpaomghibppgkaaGreat
open Go.RowKit Go.Deep

set_option maxHeartbeats 1000000 in
theorem eqPNode_yes (i:Int) (x r:ByteArray) (w:World) :
  Calls Tryz.prog 79 #[.agg #[.int .i64 i,.string x,.string r],.agg #[.int .i64 i,.string x,.string r]] w fun e w'=>e=.returned (.bool true)/\Below w.heap.size w w':=by
 have h1:(i != i)=false:=by simp
 have h2:(r.toList == r.toList)=true:=by simp
 have h3:(x.toList == x.toList)=true:=by simp
 go_enter Tryz.func79,Tryz.ntmps79
 go_wp2
 go_ret
 exact ⟨rfl,(below_alloc _ _).trans ((below_alloc _ _).mono (by simp))⟩

set_option maxHeartbeats 2000000 in
theorem eqPNodeS_yes (a b:Option Addr) (n ca cb:Nat) (I:Nat->Int) (X:Nat->ByteArray) (R:Nat->ByteArray) (w:World) (ha:RdN w a n I X R) (hb:RdN w b n I X R) (hn:n<=1048576) :
  Calls Tryz.prog 37 #[.slice a n ca,.slice b n cb] w fun e w'=>e=.returned (.bool true)/\Below w.heap.size w w':=by
 have hll:((n:Int) != (n:Int))=false:=by simp
 go_enter Tryz.func37,Tryz.ntmps37
 go_wp2
 go_loopw [5] (fun i wr=>∃k:Nat,k<=n/\i=.int .i64 k/\Below w.heap.size w wr) (fun i _=>n-(intOf i).toNat)
 case atStart=>exact ⟨0,Nat.zero_le _,rfl,Below.refl _ _⟩
 case round=>
  obtain ⟨k,hk,rfl,hbel⟩:=hrel
  by_cases hlt:k<n
  ·have hne:¬ n=0:=by omega
   have ha':=ha.below hbel
   have hb':=hb.below hbel
   rcases ha' with h|⟨ba,oa,rfl,hca⟩
   ·exact absurd h hne
   rcases hb' with h|⟨bb,ob,rfl,hcb⟩
   ·exact absurd h hne
   obtain ⟨h1,h2,h3⟩:=hca k hlt
   obtain ⟨g1,g2,g3⟩:=hcb k hlt
   clear hca hcb ha hb
   have hsz:=hbel.size
   have HB:Hid (Below w.heap.size w wr):=hbel
   clear hbel
   go_wp2
   go_region_with (go_at_call 79;refine (eqPNode_yes (I k) (X k) (R k) _).mono ?_;rintro e w2 ⟨rfl,hb2⟩)
   all_goals
    have HX:Hid (Below w.heap.size w w2):=(HB.out.drew).trans (hb2.mono (by simpa using hsz))
    clear hb2 h1 h2 h3 g1 g2 g3
    go_wp2
    go_roundw
    case rel=>exact ⟨k+1,by omega,by go_num,HX.out⟩
    case measure=>simp [intOf];omega
  ·have e:k=n:=by omega
   subst e
   go_wp2
   go_ret
   exact ⟨rfl,hbel⟩

set_option maxHeartbeats 1000000 in
theorem eqPath_yes (a b:Option Addr) (n ca cb:Nat) (I:Nat->Int) (X:Nat->ByteArray) (R:Nat->ByteArray) (w:World) (ha:RdN w a n I X R) (hb:RdN w b n I X R) (hn:n<=1048576) :
  Calls Tryz.prog 13 #[.agg #[.slice a n ca],.agg #[.slice b n cb]] w fun e w'=>e=.returned (.bool true)/\Below w.heap.size w w':=by
 have hbel:∀o1 o2,Below w.heap.size w ((w.alloc o1).alloc o2):=fun o1 o2=>((Below.refl _ _).alloc (Nat.le_refl _) o1).alloc (by simp) o2
 have HH:Hid (∀o1 o2,Below w.heap.size w ((w.alloc o1).alloc o2)):=hbel
 clear hbel
 go_enter Tryz.func13,Tryz.ntmps13
 go_wp2_with fail
 refine (eqPNodeS_yes a b n ca cb I X R _ (ha.below (HH.out _ _)) (hb.below (HH.out _ _)) hn).mono ?_
 rintro e w1 ⟨rfl,hb1⟩
 have HX:Hid (Below w.heap.size w w1):=(HH.out _ _).trans (hb1.mono (by simp;omega))
 clear hb1
 go_wp2
 go_ret
 exact ⟨rfl,HX.out⟩
end Go.Proofs.YtpaomghibppgkaaGreat
namespace Go.Proofs.YtpaomghibppgkaaGreat
open Go.ChangeShapes Go.WideShapes Go.ChangeAt Go.RowKit Go.Deep Go.Joins

section
variable {H:Type} {enc:TypeId × Value->H} {W:World}

theorem spotN_of {w:World} {a:Addr} {v:Value} (h:w.cell? (a.add 0)=some v):a.spot=none:=by
 obtain ⟨b,off,spot⟩:=a
 simpa [Addr.add] using World.cell?_spot h

theorem addN_eq {b off i:Nat}:(Addr.add ⟨b,off,none⟩ i)=⟨b,off+i,none⟩:=by
 unfold Addr.add
 by_cases h:i=0
 ·subst h;simp
 ·simp [h]

set_option maxRecDepth 100000 in
theorem nodes_of {fuel:Nat} {cs:List Value} {x:DataW H × List MemPlace} (h:DataW.trod enc Tryz.prog W 0 (fun _=>true) true fuel 22 cs=some x) :
  ∃a n c I X R,cs=[.slice a n c]/\RdN W a n I X R/\(∀i,i<n->(X i).size<=maxLen/\(R i).size<=maxLen)/\n<=maxLen:=by
 rcases open_slice (P:=Tryz.prog) (t:=22) (e:=100) (by kernel_rfl) h with ⟨hcs,_⟩|⟨a,len,cap,m,fu,D,Pl,hcs,_,hl,hm,hmm,_,hx⟩
 ·exact ⟨none,0,0,fun _=>0,fun _=>{ data:=#[] },fun _=>{ data:=#[] },hcs,Or.inl rfl,fun i hi=>absurd hi (Nat.not_lt_zero _),Nat.zero_le _⟩
 ·have hlm:len<=m:=by rw [hmm];split <;> omega
  have each:∀i,i<len->∃q:Int × ByteArray × ByteArray,W.cell? (a.add (i*3))=some (.int .i64 q.1)/\W.cell? (a.add (i*3+1))=some (.string q.2.1)/\W.cell? (a.add (i*3+2))=some (.string q.2.2)/\q.2.1.size<=maxLen/\q.2.2.size<=maxLen:=by
   intro i hi
   obtain ⟨cs',h1,h2⟩:=hx i (by omega)
   rw [show Tryz.prog.cellsOf 100=3 by kernel_rfl] at h1
   obtain ⟨_,hlen,hcell⟩:=World.cells?_some h1
   obtain ⟨xs,k,hk,hxy,_,hxl,hf⟩:=DataW.trod_struct (P:=Tryz.prog) Tryz.underlying100 h2
   have g0:=hf 0 _ rfl
   have g1:=hf 1 _ rfl
   have g2:=hf 2 _ rfl
   rw [show Tryz.prog.cellsOf _=1 by kernel_rfl] at g0 g1 g2
   match xs,hxl,cs',hlen with
   | [y0,y1,y2],_,[v0,v1,v2],_=>
    simp at g0 g1 g2
    obtain ⟨i0,e0,_,_⟩:=DataW.trod_int Tryz.underlying2 g0
    obtain ⟨x0,e1,_,hs⟩:=DataW.trod_string Tryz.underlying9 g1
    obtain ⟨r0,e2,_,hs2⟩:=DataW.trod_string Tryz.underlying9 g2
    simp at e0 e1 e2
    subst e0 e1 e2
    have c0:=hcell 0 (by omega)
    have c1:=hcell 1 (by omega)
    have c2:=hcell 2 (by omega)
    rw [Addr.add_add] at c0 c1 c2
    exact ⟨(i0,x0,r0),by simpa using c0,by simpa using c1,by simpa using c2,hs,hs2⟩
  obtain ⟨q,hq⟩:=choose_lt each
  refine ⟨some a,len,cap,fun i=>(q i).1,fun i=>(q i).2.1,fun i=>(q i).2.2,hcs,?_,fun i hi=>(hq i hi).2.2.2,by omega⟩
  by_cases h0:len=0
  ·exact Or.inl h0
  ·obtain ⟨b,off,spot⟩:=a
   have hs:=spotN_of (a:=⟨b,off,spot⟩) (by simpa using (hq 0 (by omega)).1)
   simp at hs
   subst hs
   refine Or.inr ⟨b,off,rfl,fun i hi=>?_⟩
   obtain ⟨k0,k1,k2,_⟩:=hq i hi
   rw [addN_eq] at k0 k1 k2
   exact ⟨k0,k1,k2⟩

def IsPath (w:World) (v:Value):Prop:=
 ∃a n c I X R,v=.agg #[.slice a n c]/\RdN w a n I X R/\(∀i,i<n->(X i).size<=maxLen/\(R i).size<=maxLen)/\n<=maxLen

set_option maxRecDepth 100000 in
theorem openPath {r:Reach} {b0:Nat} {v:Value} {d:DataW H} {p:List MemPlace} (hv:Value.okWide Tryz.prog W r b0 24 v) (h:DataW.Trod enc Tryz.prog W 0 (fun _=>true) true 24 v d p):IsPath W v:=by
 obtain ⟨cs,rfl,hsz⟩:=okWide_struct (P:=Tryz.prog) Tryz.underlying24 hv
 have h1:cs.size=1:=hsz.trans (by kernel_rfl)
 obtain ⟨l⟩:=cs
 match l,h1 with
 | [c0],_=>
  obtain ⟨fuel,hf⟩:=h
  obtain ⟨xs,k,hk,hxy,_,hxl,hff⟩:=DataW.trod_struct (P:=Tryz.prog) Tryz.underlying24 hf
  have g0:=hff 0 _ rfl
  rw [show Tryz.prog.cellsOf _=1 by kernel_rfl] at g0
  match xs,hxl with
  | [y0],_=>
   simp [Value.cells] at g0
   obtain ⟨a,n',c,I,X,R,e1,hr,hX,hn⟩:=nodes_of g0
   simp at e1
   subst e1
   exact ⟨a,n',c,I,X,R,rfl,hr,hX,hn⟩
end
end Go.Proofs.YtpaomghibppgkaaGreat
namespace Go.Proofs.YtpaomghibppgkaaGreat
open Go.RowKit Go.Deep

def AnsM (w:World) (P:Prop) (e:Ending) (w' : World):Prop:=∃b,e=.returned (.bool b)/\(b=true↔P)/\Below w.heap.size w w'

theorem pboxP {W w' : World} {v0:Value} {t:TypeId} (hb:Below (W.heap.size+1) (W.alloc (.cells #[v0] t)) w'):w'.cell? ⟨W.heap.size,0,none⟩=some v0/\W.heap.size<w'.heap.size:=by
 have hs:=hb.size
 refine ⟨?_,by simp at hs;omega⟩
 rw [hb.cell (by simp)]
 simp


def nuB (x:Int):Bool:=decide (1<=x) && decide (x<=2000000000)

def GoodT (next:Int) (I:Nat->Int) (X:Nat->ByteArray) (R:Nat->Int) (i:Nat):Prop:=
 (1<=(X i).size/\(X i).size<=30)/\(1<=I i/\I i<next)/\(1<=R i/\R i<=2000000000)/\(0<i->Op.bytesLess (X (i-1)).toList (X i).toList=true)
def FreshT (I:Nat->Int) (i:Nat):Prop:=∀j,j<i->I j≠I i
def VDt (next:Int) (n:Nat) (I:Nat->Int) (X:Nat->ByteArray) (R:Nat->Int):Prop:=
 nuB next=true/\n<=1200/\∀i,i<n->GoodT next I X R i/\FreshT I i

def AnsP (w:World) (P:Prop) (e:Ending) (w' : World):Prop:=∃b:Bool,e=.returned (.bool b)/\(b=true↔P)/\Below w.heap.size w w'
theorem AnsP.no {w w' : World} {P:Prop} (h:¬ P) (hb:Below w.heap.size w w'):AnsP w P (.returned (.bool false)) w':=⟨false,rfl,Iff.intro (fun e=>by cases e) (fun p=>absurd p h),hb⟩
theorem AnsP.yes {w w' : World} {P:Prop} (h:P) (hb:Below w.heap.size w w'):AnsP w P (.returned (.bool true)) w':=⟨true,rfl,Iff.intro (fun _=>h) (fun _=>rfl),hb⟩

set_option maxHeartbeats 400000 in
theorem l2Nu_any (x:Int) (w:World):Calls Tryz.prog 49 #[.int .i64 x] w fun e w'=>e=.returned (.bool (nuB x))/\w'=w:=by
 by_cases h1:1<=x
 ·have HE:Hid (nuB x=decide (x<=2000000000)):=by show _=_;unfold nuB;rw [decide_eq_true h1];rfl
  go_enter Tryz.func49,Tryz.ntmps49
  go_wp2
  go_ret
  exact ⟨by rw [HE.out];rfl,rfl⟩
 ·have HE:Hid (nuB x=false):=by show _=_;unfold nuB;rw [decide_eq_false h1];rfl
  go_enter Tryz.func49,Tryz.ntmps49
  go_wp2
  go_ret
  exact ⟨by rw [HE.out];rfl,rfl⟩

theorem idxT (b o n c p:Nat) (hp:p<n) (w:World):(Instr.indexAt 40 (.slice (some ⟨b,o,none⟩) n c) (.int .i64 (p:Int))).run Tryz.prog w=.ok (.pointer (some ⟨b,o+p*3,none⟩)) w:=by
 simp [Instr.indexAt,go_sem]
 intro h
 omega

theorem dbox {W w' : World} {v0 v1:Value} {t:TypeId} (hb:Below (W.heap.size+1) (W.alloc (.cells #[v0,v1] t)) w') :
  w'.cell? ⟨W.heap.size,0,none⟩=some v0/\w'.cell? ⟨W.heap.size,1,none⟩=some v1/\W.heap.size<w'.heap.size/\Below W.heap.size W w':=by
 have hs:=hb.size
 have g:=(hb.block W.heap.size (by omega)).trans (blk_alloc_new W (.cells #[v0,v1] t))
 refine ⟨?_,?_,by simp at hs;omega,(below_alloc _ _).trans (hb.mono (by omega))⟩
 ·simp [World.cell?,g]
 ·simp [World.cell?,g]

theorem tbox (w:World) (v0 v1 v2:Value) (nq:Nat):((w.alloc (.cells #[v0,v1,v2] 112)).drewN nq).cell? ⟨w.heap.size,0,none⟩=some v0/\w.heap.size<((w.alloc (.cells #[v0,v1,v2] 112)).drewN nq).heap.size:=by
 have hb:Below (w.heap.size+1) (w.alloc (.cells #[v0,v1,v2] 112)) ((w.alloc (.cells #[v0,v1,v2] 112)).drewN nq):=below_drewN (Below.refl _ _) nq
 have g:=(hb.block w.heap.size (by omega)).trans (blk_alloc_new w (.cells #[v0,v1,v2] 112))
 have hs:=hb.size
 simp only [World.size_alloc] at hs
 exact ⟨by unfold World.cell?;rw [g];rfl,by omega⟩

theorem less_irreflD:∀l:List UInt8,Op.bytesLess l l=false
 | []=>rfl
 | a::x=>by simp [Op.bytesLess,less_irreflD x]

theorem less_transD:∀a b c:List UInt8,Op.bytesLess a b=true->Op.bytesLess b c=true->Op.bytesLess a c=true
 | _,[],_,h,_=>by simp [Op.bytesLess] at h
 | _,_::_,[],_,h=>by simp [Op.bytesLess] at h
 | [],_::_,_::_,_,_=>rfl
 | a::x,b::y,c::z,h1,h2=>by
  simp only [Op.bytesLess,Bool.or_eq_true,Bool.and_eq_true,decide_eq_true_eq,beq_iff_eq] at h1 h2 ⊢
  rcases h1 with h1|⟨rfl,h1⟩
  ·rcases h2 with h2|⟨rfl,h2⟩
   ·exact .inl (UInt8.lt_trans h1 h2)
   ·exact .inl h1
  ·rcases h2 with h2|⟨rfl,h2⟩
   ·exact .inl h2
   ·exact .inr ⟨rfl,less_transD x y z h1 h2⟩

theorem less_totalD:∀a b:List UInt8,(Op.bytesLess b a || b == a)=!Op.bytesLess a b
 | [],[]=>rfl
 | [],_::_=>rfl
 | _::_,[]=>rfl
 | a::x,b::y=>by
  have ih:=less_totalD x y
  simp only [Op.bytesLess]
  by_cases h:a=b
  ·subst h
   have e1:((a::y) == (a::x))=(y == x):=by simp
   rw [e1]
   simp
   simpa using ih
  ·have h' : ¬ b=a:=fun e=>h e.symm
   have e0:(a == b)=false:=by simp [h]
   have e1:(b == a)=false:=by simp [h']
   have e2:((b::y) == (a::x))=false:=by simp [h']
   rw [e0,e1,e2]
   simp
   by_cases hl:a<b
   ·simp [hl]
    exact UInt8.le_of_lt hl
   ·simp [hl]
    have:=UInt8.not_lt.1 hl
    exact UInt8.lt_of_le_of_ne this h'

theorem asc_lessD {X:Nat->ByteArray} {k:Nat} (h:∀m,m<k->0<m->Op.bytesLess (X (m-1)).toList (X m).toList=true) (p:Nat) (hp:p<k):∀j,j<p->Op.bytesLess (X j).toList (X p).toList=true:=by
 induction p with
 | zero=>intro j hj;omega
 | succ p ih=>
  intro j hj
  have h1:=h (p+1) hp (by omega)
  rw [show p+1-1=p from rfl] at h1
  by_cases e:j=p
  ·subst e;exact h1
  ·exact less_transD _ _ _ (ih (by omega) j (by omega)) h1

theorem less_neD {x y:ByteArray} (h:Op.bytesLess x.toList y.toList=true):x≠y:=by
 rintro rfl
 rw [less_irreflD] at h
 cases h

set_option maxHeartbeats 400000 in
theorem szTerm_any (i r:Int) (x:ByteArray) (l:Int) (w:World) (hx:x.size<=maxLen) (h0:0<=l) (h1:l<=1048576) :
  Calls Tryz.prog 44 #[.agg #[.int .i64 i,.string x,.int .i64 r],.int .i64 l] w fun e w'=>∃q:Int,e=.returned (.int .i64 q)/\(q=-1\/(0<=q/\q<=1048576))/\Below w.heap.size w w':=by
 unfold maxLen at hx
 by_cases h:l-(x.size:Int)<0
 ·go_enter Tryz.func44,Tryz.ntmps44
  go_wp2
  go_ret
  exact ⟨-1,rfl,Or.inl rfl,below_alloc _ _⟩
 ·go_enter Tryz.func44,Tryz.ntmps44
  go_wp2
  go_ret
  exact ⟨_,rfl,Or.inr ⟨by omega,by omega⟩,below_alloc _ _⟩


theorem infoTm:(Tryz.prog.info? 112).map (fun i=>(i.zero,i.size,i.bytes))=some (some (.agg #[.int .i64 0,.string { data:=#[] },.int .i64 0]),3,32):=by kernel_rfl
theorem underTms:Tryz.prog.underlying 40=some (.slice 112):=by kernel_rfl

set_option maxHeartbeats 400000 in
theorem toTerm_any (i r:Int) (x:ByteArray) (w:World) :
  Calls Tryz.prog 63 #[.agg #[.int .i64 i,.string x,.int .i64 r]] w fun e w'=>e=.returned (.agg #[.int .i64 i,.string x,.int .i64 r])/\Below w.heap.size w w':=by
 go_enter Tryz.func63,Tryz.ntmps63
 go_wp2
 refine bodyPost_ret (v:=.agg #[.int .i64 i,.string x,.int .i64 r]) (by simp [results,Tryz.results63,go_sem]) rfl ⟨rfl,?_⟩
 exact ((below_alloc _ _).alloc (by simp) _).alloc (by simp;omega) _

set_option maxHeartbeats 1000000 in
theorem toTermS_any (a:Option Addr) (n c:Nat) (I:Nat->Int) (X:Nat->ByteArray) (R:Nat->Int) (w:World) (h:RdT w a n I X R) (hn:n<=1048576) :
  Calls Tryz.prog 30 #[.slice a n c] w fun e w'=>e=.returned (.slice (some ⟨w.heap.size,0,none⟩) n n)/\rowIn w' w.heap.size 112 (n*3) (termCell I X R)/\Below w.heap.size w w':=by
 have hmk:∀w:World,(Instr.makeSlice 40 (.int .i64 (n:Int)) (.int .i64 (n:Int))).run Tryz.prog w=.ok (.slice (some ⟨w.heap.size,0,none⟩) n n) (w.alloc (.cells (madeCells #[.int .i64 0,.string { data:=#[] },.int .i64 0] (n*3)) 112)):=by
  intro w
  obtain ⟨i0,hi,hz0,hz1,hz2⟩:=info_parts infoTm
  have:=run_make (P:=Tryz.prog) w 40 112 i0 _ underTms hi hz0 .i64 .i64 n n (by omega) (by omega) (by rw [hz2];omega) (by omega)
  rw [hz1,show (Value.agg #[.int .i64 0,.string { data:=#[] },.int .i64 0]).cells=#[.int .i64 0,.string { data:=#[] },.int .i64 0] from rfl] at this
  simpa using this
 have H0:Hid (rowIn (w.alloc (.cells (madeCells #[.int .i64 0,.string { data:=#[] },.int .i64 0] (n*3)) 112)) w.heap.size 112 (n*3) (fun j=>if j<0*3 then termCell I X R j else termCell (fun _=>0) (fun _=>{ data:=#[] }) (fun _=>0) j)):=
  (madeT w n).congr (fun i _=>by simp)
 go_enter Tryz.func30,Tryz.ntmps30
 go_wp2
 go_loopw [4] (fun i wr=>∃k:Nat,k<=n/\i=.int .i64 k/\rowIn wr w.heap.size 112 (n*3) (fun j=>if j<k*3 then termCell I X R j else termCell (fun _=>0) (fun _=>{ data:=#[] }) (fun _=>0) j)/\Below w.heap.size w wr) (fun i _=>n-(intOf i).toNat)
 case atStart=>exact ⟨0,Nat.zero_le _,rfl,H0.out,below_alloc _ _⟩
 case round=>
  obtain ⟨k,hk,rfl,hrow,hbel⟩:=hrel
  clear H0
  by_cases hlt:k<n
  ·have hne:¬ n=0:=by omega
   have h':=h.below hbel
   have HB:Hid (Below w.heap.size w wr):=hbel
   have HR:Hid (rowIn wr w.heap.size 112 (n*3) (fun j=>if j<k*3 then termCell I X R j else termCell (fun _=>0) (fun _=>{ data:=#[] }) (fun _=>0) j)):=hrow
   have hsz:=hbel.size
   rcases h' with h' | ⟨b,o,rfl,hc⟩
   ·exact absurd h' hne
   obtain ⟨c1,c2,c3⟩:=hc k hlt
   clear hc hbel h hrow hmk
   go_wp2_with fail
   refine (toTerm_any (I k) (R k) (X k) _).mono ?_
   rintro e w1 ⟨rfl,hb1⟩
   have hrow:=HR.out.of_block (hb1.block _ HR.out.lt)
   have hc1:=hrow.cell (i:=k*3) (by omega)
   have hc2:=hrow.cell (i:=k*3+1) (by omega)
   have hc3:=hrow.cell (i:=k*3+2) (by omega)
   have hf1:=hrow.frozen (k*3)
   have hf2:=hrow.frozen (k*3+1)
   have hf3:=hrow.frozen (k*3+2)
   have HX:Hid (rowIn (((w1.setCell ⟨w.heap.size,k*3,none⟩ (.int .i64 (I k))).setCell ⟨w.heap.size,k*3+1,none⟩ (.string (X k))).setCell ⟨w.heap.size,k*3+2,none⟩ (.int .i64 (R k))) w.heap.size 112 (n*3) (fun j=>if j<(k+1)*3 then termCell I X R j else termCell (fun _=>0) (fun _=>{ data:=#[] }) (fun _=>0) j)/\
     Below w.heap.size w (((w1.setCell ⟨w.heap.size,k*3,none⟩ (.int .i64 (I k))).setCell ⟨w.heap.size,k*3+1,none⟩ (.string (X k))).setCell ⟨w.heap.size,k*3+2,none⟩ (.int .i64 (R k)))):=by
    refine ⟨(((hrow.set (k*3) _).set (k*3+1) _).set (k*3+2) _).congr (fun j hj=>?_),(((HB.out.trans (hb1.mono hsz)).setCell (Nat.le_refl _) _).setCell (Nat.le_refl _) _).setCell (Nat.le_refl _) _⟩
    by_cases e2:j=k*3+2
    ·subst e2
     rw [if_pos (by omega:k*3+2<(k+1)*3),termCell_2];simp
    by_cases e1:j=k*3+1
    ·subst e1
     rw [if_pos (by omega:k*3+1<(k+1)*3),termCell_1];simp
    by_cases e0:j=k*3
    ·subst e0
     rw [if_pos (by omega:k*3<(k+1)*3),termCell_0];simp
    simp only [if_neg e0,if_neg e1,if_neg e2]
    by_cases e:j<k*3
    ·rw [if_pos e,if_pos (by omega)]
    ·rw [if_neg e,if_neg (by omega)]
   clear hrow hb1 HR
   go_wp2
   go_roundw
   case rel=>exact ⟨k+1,by omega,by go_num,HX.out.1,HX.out.2⟩
   case measure=>simp [intOf];omega
  ·have e:k=n:=by omega
   subst e
   have HX:Hid (rowIn wr w.heap.size 112 (k*3) (termCell I X R)):=hrow.congr (fun j hj=>by simp [hj])
   clear hrow
   go_wp2
   go_ret
   exact ⟨rfl,HX.out,hbel⟩

def RetDict (w:World) (next:Int) (n:Nat) (I:Nat->Int) (X:Nat->ByteArray) (R:Nat->Int) (e:Ending) (w' : World):Prop:=
 ∃g,e=.returned (.agg #[.int .i64 next,.slice (some ⟨g,0,none⟩) n n])/\w.heap.size<=g/\rowIn w' g 112 (n*3) (termCell I X R)/\Below w.heap.size w w'

set_option maxHeartbeats 1000000 in
theorem toDict_any (next:Int) (a:Option Addr) (n c:Nat) (I:Nat->Int) (X:Nat->ByteArray) (R:Nat->Int) (w:World) (h:RdT w a n I X R) (hn:n<=1048576) :
  Calls Tryz.prog 9 #[.agg #[.int .i64 next,.slice a n c]] w (RetDict w next n I X R):=by
 have hbel:∀o1 o2 o3,Below w.heap.size w (((w.alloc o1).alloc o2).alloc o3):=fun o1 o2 o3=>(((below_alloc _ _).alloc (by simp) _).alloc (by simp;omega) _)
 have hsz:∀o1 o2 o3,(((w.alloc o1).alloc o2).alloc o3).heap.size=w.heap.size+3:=fun o1 o2 o3=>by simp
 have HH:Hid ((∀o1 o2 o3,Below w.heap.size w (((w.alloc o1).alloc o2).alloc o3))/\∀o1 o2 o3,(((w.alloc o1).alloc o2).alloc o3).heap.size=w.heap.size+3):=⟨hbel,hsz⟩
 clear hbel hsz
 go_enter Tryz.func9,Tryz.ntmps9
 go_wp2_with fail
 refine (toTermS_any a n c I X R _ (h.below (HH.out.1 _ _ _)) hn).mono ?_
 rintro e w1 ⟨rfl,hr1,hb1⟩
 rw [HH.out.2] at hr1 hb1 ⊢
 have hz:w.heap.size+2<w1.heap.size:=by have:=hr1.lt;omega
 have hc:∀b o,b<w.heap.size+3->w1.cell? ⟨b,o,none⟩=_:=fun b o hb=>hb1.cell (p:=⟨b,o,none⟩) hb
 have hf:∀b o,b<w.heap.size+3->w1.frozen? ⟨b,o,none⟩=_:=fun b o hb=>hb1.frozen (p:=⟨b,o,none⟩) hb
 have HE:Hid (rowIn w1 (w.heap.size+3) 112 (n*3) (termCell I X R)/\Below w.heap.size w w1):=⟨hr1,(HH.out.1 _ _ _).trans (hb1.mono (by omega))⟩
 clear hr1 hb1
 go_wp2
 refine bodyPost_ret (v:=.agg #[.int .i64 next,.slice (some ⟨w.heap.size+3,0,none⟩) n n]) (by simp [results,Tryz.results9,go_sem,hc]) rfl ⟨_,rfl,by omega,?_,?_⟩
 ·exact ((HE.out.1.setOther (by simp) _).setOther (by simp) _).setOther (by simp) _
 ·exact ((HE.out.2.setCell (by simp;omega) _).setCell (by simp) _).setCell (by simp) _
end Go.Proofs.YtpaomghibppgkaaGreat
namespace Go.Proofs.YtpaomghibppgkaaGreat
open Go.ChangeShapes Go.WideShapes Go.ChangeAt Go.RowKit Go.Deep Go.Joins

section
variable {H:Type} {enc:TypeId × Value->H} {W:World}

theorem spotD_of {w:World} {a:Addr} {v:Value} (h:w.cell? (a.add 0)=some v):a.spot=none:=by
 obtain ⟨b,off,spot⟩:=a
 simpa [Addr.add] using World.cell?_spot h

theorem addD_eq {b off i:Nat}:(Addr.add ⟨b,off,none⟩ i)=⟨b,off+i,none⟩:=by
 unfold Addr.add
 by_cases h:i=0
 ·subst h;simp
 ·simp [h]

set_option maxRecDepth 100000 in
theorem terms_of {fuel:Nat} {cs:List Value} {x:DataW H × List MemPlace} (h:DataW.trod enc Tryz.prog W 0 (fun _=>true) true fuel 25 cs=some x) :
  ∃a n c I X R,cs=[.slice a n c]/\RdT W a n I X R/\(∀i,i<n->(X i).size<=maxLen)/\n<=maxLen:=by
 rcases open_slice (P:=Tryz.prog) (t:=25) (e:=103) (by kernel_rfl) h with ⟨hcs,_⟩|⟨a,len,cap,m,fu,D,Pl,hcs,_,hl,hm,hmm,_,hx⟩
 ·exact ⟨none,0,0,fun _=>0,fun _=>{ data:=#[] },fun _=>0,hcs,Or.inl rfl,fun i hi=>absurd hi (Nat.not_lt_zero _),Nat.zero_le _⟩
 ·have hlm:len<=m:=by rw [hmm];split <;> omega
  have each:∀i,i<len->∃q:Int × ByteArray × Int,W.cell? (a.add (i*3))=some (.int .i64 q.1)/\W.cell? (a.add (i*3+1))=some (.string q.2.1)/\W.cell? (a.add (i*3+2))=some (.int .i64 q.2.2)/\q.2.1.size<=maxLen:=by
   intro i hi
   obtain ⟨cs',h1,h2⟩:=hx i (by omega)
   rw [show Tryz.prog.cellsOf 103=3 by kernel_rfl] at h1
   obtain ⟨_,hlen,hcell⟩:=World.cells?_some h1
   obtain ⟨xs,k,hk,hxy,_,hxl,hf⟩:=DataW.trod_struct (P:=Tryz.prog) Tryz.underlying103 h2
   have g0:=hf 0 _ rfl
   have g1:=hf 1 _ rfl
   have g2:=hf 2 _ rfl
   rw [show Tryz.prog.cellsOf _=1 by kernel_rfl] at g0 g1 g2
   match xs,hxl,cs',hlen with
   | [y0,y1,y2],_,[v0,v1,v2],_=>
    simp at g0 g1 g2
    obtain ⟨i0,e0,_,_⟩:=DataW.trod_int Tryz.underlying2 g0
    obtain ⟨x0,e1,_,hs⟩:=DataW.trod_string Tryz.underlying9 g1
    obtain ⟨r0,e2,_,_⟩:=DataW.trod_int Tryz.underlying2 g2
    simp at e0 e1 e2
    subst e0 e1 e2
    have c0:=hcell 0 (by omega)
    have c1:=hcell 1 (by omega)
    have c2:=hcell 2 (by omega)
    rw [Addr.add_add] at c0 c1 c2
    exact ⟨(i0,x0,r0),by simpa using c0,by simpa using c1,by simpa using c2,hs⟩
  obtain ⟨q,hq⟩:=choose_lt each
  refine ⟨some a,len,cap,fun i=>(q i).1,fun i=>(q i).2.1,fun i=>(q i).2.2,hcs,?_,fun i hi=>(hq i hi).2.2.2,by omega⟩
  by_cases h0:len=0
  ·exact Or.inl h0
  ·obtain ⟨b,off,spot⟩:=a
   have hs:=spotD_of (a:=⟨b,off,spot⟩) (by simpa using (hq 0 (by omega)).1)
   simp at hs
   subst hs
   refine Or.inr ⟨b,off,rfl,fun i hi=>?_⟩
   obtain ⟨k0,k1,k2,_⟩:=hq i hi
   rw [addD_eq] at k0 k1 k2
   exact ⟨k0,k1,k2⟩

def IsDict (w:World) (v:Value):Prop:=
 ∃next a n c I X R,v=.agg #[.int .i64 next,.slice a n c]/\RdT w a n I X R/\(∀i,i<n->(X i).size<=maxLen)/\n<=maxLen

set_option maxRecDepth 100000 in
theorem openDict {r:Reach} {b0:Nat} {v:Value} {d:DataW H} {p:List MemPlace} (hv:Value.okWide Tryz.prog W r b0 27 v) (h:DataW.Trod enc Tryz.prog W 0 (fun _=>true) true 27 v d p):IsDict W v:=by
 obtain ⟨v0,v1,y0,y1,n,rfl,_,_,h0,h1⟩:=open_agg2 Tryz.underlying27 (by kernel_rfl) (by kernel_rfl) hv h
 obtain ⟨next,e0,_,_⟩:=DataW.trod_int Tryz.underlying2 h0
 obtain ⟨a,n',c,I,X,R,e1,hr,hX,hn⟩:=terms_of h1
 simp at e0 e1
 subst e0 e1
 exact ⟨next,a,n',c,I,X,R,rfl,hr,hX,hn⟩
end
end Go.Proofs.YtpaomghibppgkaaGreat
