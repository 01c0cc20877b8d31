import Derived.Test.YtpaomghibppgkaaGreatNv14
import Derived.Test.YtpaomghibppgkaaGreatNv2
import Derived.Test.YtpaomghibppgkaaGreatNv5
set_option linter.unusedVariables false
set_option maxRecDepth 100000
namespace Go.Proofs.YtpaomghibppgkaaGreat
open Go.RowKit Go.Deep

def plF (I:Nat->Int) (X R:Nat->ByteArray) (AA:Nat->Option Addr) (CC:Nat->Nat) (Bd:Nat->Bool) (Lb:Nat->ByteArray) (H:Nat->Int) (i:Nat):Plc:=⟨I i,X i,R i,Bd i,Lb i,AA i,arOf (I i),CC i,H i⟩
def arI (I:Nat->Int) (i:Nat):Nat:=arOf (I i)
theorem arI_le (I:Nat->Int) (i:Nat):arI I i<=2:=arOf_le _

theorem plS_keep {W W' : World} {B:Nat} {t:TypeId} {s:Nat} {v:Value} {n:Nat} {xs:List Value} (h:W.ownsRow B t s v n xs) (hk:∀g,v.ownBlock=some g->W'.heap[g]?=W.heap[g]?):W'.ownsRow B t s v n xs:=by
 refine ⟨h.1,?_⟩
 rcases h.2 with h2|⟨g,cap,cur,rfl,hg,hh,r⟩
 ·exact Or.inl h2
 ·exact Or.inr ⟨g,cap,cur,rfl,hg,(hk g rfl).trans hh,r⟩
theorem plS_below {W W' : World} {B:Nat} {t:TypeId} {s:Nat} {v:Value} {n:Nat} {xs:List Value} (h:W.ownsRow B t s v n xs) (hb:Below W.heap.size W W'):W'.ownsRow B t s v n xs:=
 plS_keep h (fun g e=>hb.block g (h.lt g e).2)
theorem plS_ty {W:World} {B:Nat} {t:TypeId} {s:Nat} {v:Value} {n:Nat} {xs:List Value} (h:W.ownsRow B t s v n xs) {g:Nat} (e:v.ownBlock=some g):∃cur,W.heap[g]?=some (.cells cur t (0,0)):=by
 rcases h.2 with ⟨rfl,_⟩|⟨g',cap,cur,rfl,hg,hh,r⟩
 ·simp [Value.ownBlock] at e
 ·simp [Value.ownBlock] at e
  subst e
  exact ⟨cur,hh⟩
theorem plS_ne {W:World} {g:Nat} {c c' : Array Value} {t t' : TypeId} (h:W.heap[g]?=some (.cells c t (0,0))) (h' : W.heap[g]?=some (.cells c' t' (0,0))) (ht:t≠t'):False:=by
 rw [h] at h'
 injection h' with e
 injection e with _ e2 _
 exact ht e2

structure PlSt (W:World) (B:Nat) (I:Nat->Int) (X R:Nat->ByteArray) (kt ks:Nat) (v4 v5:Value) (d:Nat) (AA:Nat->Option Addr) (CC:Nat->Nat) (S:Nat->Nat):Prop where
 row:W.ownsRow B 88 7 v4 kt (plRow (plF I X R AA CC (fun _=>false) (fun _=>{ data:=#[] }) (fun _=>0)) kt)
 ops:∀i,i<kt->OwnIp W B (AA i) (arOf (I i)) (fun j=>(opf (arI I) i j:Int))
 caps:∀i,i<kt->arOf (I i)<=CC i/\CC i<=9223372036854775807
 stk:W.ownsRow B 3 1 v5 d (intRow (fun j=>(S j:Int)) d)
 apart:∀i,i<kt->arOf (I i)≠0->∀x,AA i=some x->v5.ownBlock≠some x.block
 st:∀j,j<d->StackAt (arI I) ks (j+1) (S j)
 dd:dep (arI I) ks=d
 ok:StackOk (arI I) ks

section
variable {W W1 W2:World} {B:Nat} {I:Nat->Int} {X R:Nat->ByteArray} {k kt ks d:Nat} {v4 v5:Value} {AA:Nat->Option Addr} {CC:Nat->Nat} {S:Nat->Nat}

theorem PlSt.start (W:World) (B:Nat) (I:Nat->Int) (X R:Nat->ByteArray):PlSt W B I X R 0 0 (.slice none 0 0) (.slice none 0 0) 0 (fun _=>none) (fun _=>0) (fun _=>0):=
 ⟨World.ownsRow_nil _ _ _ _,fun i hi=>absurd hi (Nat.not_lt_zero _),fun i hi=>absurd hi (Nat.not_lt_zero _),World.ownsRow_nil _ _ _ _,fun i hi=>absurd hi (Nat.not_lt_zero _),fun i hi=>absurd hi (Nat.not_lt_zero _),rfl,fun i hi=>absurd hi (Nat.not_lt_zero _)⟩

theorem PlSt.below (h:PlSt W B I X R kt ks v4 v5 d AA CC S) (hb:Below W.heap.size W W1):PlSt W1 B I X R kt ks v4 v5 d AA CC S:=
 ⟨plS_below h.row hb,fun i hi=>(h.ops i hi).below hb,h.caps,plS_below h.stk hb,h.apart,h.st,h.dd,h.ok⟩

theorem PlSt.opnd (h:PlSt W B I X R k k v4 v5 d AA CC S) (hd:arOf (I k)<=d) {j:Nat} (hj:j<arOf (I k)):S (d-arOf (I k)+j)=opf (arI I) k j:=by
 have h1:=h.st (d-arOf (I k)+j) (by omega)
 have hok:StackOk (arI I) (k+1):=by
  intro i hi
  by_cases e:i=k
  ·subst e
   rw [h.dd]
   show ((arOf (I i):Nat):Int)<=_
   omega
  ·exact h.ok i (by omega)
 exact h1.uniq (opf_stack hok (by omega) (arI_le I k) hj h.dd)

theorem PlSt.push (h:PlSt W B I X R k ks v4 v5 d AA CC S) (hB:B<=W.heap.size) (hb:Below W.heap.size W W1) {ad:Option Addr} {c:Nat} (hn:OwnIp W1 W.heap.size ad (arOf (I k)) (fun j=>(opf (arI I) k j:Int))) (hc:arOf (I k)<=c) (hcm:c<=9223372036854775807) {v' : Value}
  (hr:W2.ownsRow B 88 7 v' (k+1) (plRow (plF I X R AA CC (fun _=>false) (fun _=>{ data:=#[] }) (fun _=>0)) k++(Plc.mk (I k) (X k) (R k) false { data:=#[] } ad (arOf (I k)) c 0).cells)) (hg:W1.grownBy W2 v4.ownBlock) :
  PlSt W2 B I X R (k+1) ks v' v5 d (fun i=>if i=k then ad else AA i) (fun i=>if i=k then c else CC i) S:=by
 have keep:∀{g:Nat} {cur:Array Value},W1.heap[g]?=some (.cells cur 3 (0,0))->W2.heap[g]?=W1.heap[g]?:=by
  intro g cur hh
  refine hg.block g (Array.getElem?_eq_some_iff.1 hh).1 (fun e=>?_)
  obtain ⟨cur',hh'⟩:=plS_ty (plS_below h.row hb) e.symm
  exact plS_ne hh' hh (by decide)
 have keepI:∀{B' : Nat} {a:Option Addr} {n:Nat} {f:Nat->Int},OwnIp W1 B' a n f->OwnIp W2 B' a n f:=by
  intro B' a n f ho
  rcases ho with h0|⟨g,rfl,hg',hr'⟩
  ·exact Or.inl h0
  ·obtain ⟨cur,hh,q1,q2⟩:=hr'
   exact Or.inr ⟨g,rfl,hg',cur,(keep hh).trans hh,q1,q2⟩
 refine ⟨?_,fun i hi=>?_,fun i hi=>?_,?_,fun i hi hl x hx=>?_,h.st,h.dd,h.ok⟩
 ·rw [plRow_succ]
  have e1:plRow (plF I X R (fun i=>if i=k then ad else AA i) (fun i=>if i=k then c else CC i) (fun _=>false) (fun _=>{ data:=#[] }) (fun _=>0)) k=plRow (plF I X R AA CC (fun _=>false) (fun _=>{ data:=#[] }) (fun _=>0)) k:=
   plRow_congr (fun i hi=>by unfold plF;simp only [if_neg (show i≠k by omega)])
  rw [e1]
  have e2:plF I X R (fun i=>if i=k then ad else AA i) (fun i=>if i=k then c else CC i) (fun _=>false) (fun _=>{ data:=#[] }) (fun _=>0) k=Plc.mk (I k) (X k) (R k) false { data:=#[] } ad (arOf (I k)) c 0:=by
   unfold plF;simp only [if_true]
  rw [e2]
  exact hr
 ·by_cases e:i=k
  ·subst e;simp only [if_true];exact keepI (hn.mono hB)
  ·simp only [if_neg e];exact keepI ((h.ops i (by omega)).below hb)
 ·by_cases e:i=k
  ·subst e;simp only [if_true];exact ⟨hc,hcm⟩
  ·simp only [if_neg e];exact h.caps i (by omega)
 ·refine plS_keep (plS_below h.stk hb) (fun g e=>?_)
  obtain ⟨cur,hh⟩:=plS_ty (plS_below h.stk hb) e
  exact keep hh
 ·by_cases e:i=k
  ·subst e
   simp only [if_true] at hx
   rcases hn with h0|⟨g,rfl,hg',_⟩
   ·exact absurd h0 hl
   ·injection hx with hx
    subst hx
    intro e2
    have h3:g<W.heap.size:=(h.stk.lt _ e2).2
    omega
  ·simp only [if_neg e] at hx
   exact h.apart i (by omega) hl x hx

theorem PlSt.put (h:PlSt W B I X R (k+1) k v4 v5 d AA CC S) (hb:Below W.heap.size W W1) (hd:arOf (I k)<=d) {v' : Value}
  (hr:W2.ownsRow B 3 1 v' (d-arOf (I k)+1) (intRow (fun j=>(S j:Int)) (d-arOf (I k))++[.int .i64 (k:Int)])) (hg:W1.grownBy W2 v5.ownBlock) (hat:v'.ownBlock=v5.ownBlock\/v'.ownBlock=some W1.heap.size) :
  PlSt W2 B I X R (k+1) (k+1) v4 v' (d-arOf (I k)+1) AA CC (fun j=>if j=d-arOf (I k) then k else S j):=by
 have e0:(arI I k:Int)=(arOf (I k):Nat):=rfl
 refine ⟨?_,fun i hi=>?_,h.caps,?_,fun i hi hl x hx=>?_,fun j hj=>?_,?_,fun i hi=>?_⟩
 ·refine plS_keep (plS_below h.row hb) (fun g e=>hg.block g ((plS_below h.row hb).lt _ e).2 (fun e2=>?_))
  obtain ⟨cur,hh⟩:=plS_ty (plS_below h.row hb) e
  obtain ⟨cur',hh'⟩:=plS_ty (plS_below h.stk hb) e2.symm
  exact plS_ne hh hh' (by decide)
 ·rcases (h.ops i hi).below hb with h0|⟨g,e,hg',hr'⟩
  ·exact Or.inl h0
  ·by_cases h0:arOf (I i)=0
   ·exact Or.inl h0
   ·refine Or.inr ⟨g,e,hg',hr'.of_block (hg.block g hr'.lt (fun e2=>?_))⟩
    exact h.apart i hi h0 _ e e2.symm
 ·rw [intRow_more] at hr
  refine (congrArg (W2.ownsRow B 3 1 v' (d-arOf (I k)+1)) ?_).mp hr
  unfold intRow
  refine List.map_congr_left (fun j hj=>?_)
  by_cases e:j=d-arOf (I k)
  ·simp only [if_pos e]
  ·simp only [if_neg e]
 ·rcases hat with e|e
  ·rw [e];exact h.apart i hi hl x hx
  ·rw [e]
   intro e2
   injection e2 with e2
   rcases (h.ops i hi).below hb with h0|⟨g,e3,hg',hr'⟩
   ·exact hl h0
   ·rw [hx] at e3
    injection e3 with e3
    subst e3
    have h3:=hr'.lt
    have e4:W1.heap.size=g:=e2
    omega
 ·by_cases e:j=d-arOf (I k)
  ·simp only [if_pos e]
   subst e
   refine stackAt_top ?_
   rw [dep_succ,h.dd]
   omega
  ·simp only [if_neg e]
   refine (h.st j (by omega)).stay ?_
   rw [h.dd]
   omega
 ·rw [dep_succ,h.dd]
  omega
 ·by_cases e:i=k
  ·subst e
   rw [h.dd]
   omega
  ·exact h.ok i (by omega)
end


set_option maxHeartbeats 1000000 in
theorem lay_1 (g:Nat) (w:World) :
  Calls Tryz.prog 120 #[.pointer (some ⟨g,0,none⟩)] w fun e w'=>e=.returned (.agg #[.pointer (some ⟨g,0,none⟩),.pointer (some ⟨g,1,none⟩),.pointer (some ⟨g,2,none⟩),.pointer (some ⟨g,3,none⟩)])/\Below w.heap.size w w':=by
 go_enter Tryz.func120,Tryz.ntmps120
 go_wp2
 go_region_held3 (fun _=>True) (go_keep) (fail)
 go_wp2
 refine bodyPost_ret (v:=.agg #[.pointer (some ⟨g,0,none⟩),.pointer (some ⟨g,1,none⟩),.pointer (some ⟨g,2,none⟩),.pointer (some ⟨g,3,none⟩)]) (by simp [results,Tryz.results120,go_sem]) rfl ⟨rfl,(below_alloc _ _).drew⟩


set_option maxHeartbeats 1000000 in
theorem lay_2 (g:Nat) (w:World) :
  Calls Tryz.prog 121 #[.pointer (some ⟨g,0,none⟩)] w fun e w'=>e=.returned (.agg #[.pointer (some ⟨g,1,none⟩),.pointer (some ⟨g,2,none⟩),.pointer (some ⟨g,0,none⟩),.pointer (some ⟨g,3,none⟩)])/\Below w.heap.size w w':=by
 go_enter Tryz.func121,Tryz.ntmps121
 go_wp2
 go_region_held3 (fun _=>True) (go_keep) (fail)
 go_wp2
 refine bodyPost_ret (v:=.agg #[.pointer (some ⟨g,1,none⟩),.pointer (some ⟨g,2,none⟩),.pointer (some ⟨g,0,none⟩),.pointer (some ⟨g,3,none⟩)]) (by simp [results,Tryz.results121,go_sem]) rfl ⟨rfl,(below_alloc _ _).drew⟩


set_option maxHeartbeats 1000000 in
theorem lay_3 (g:Nat) (w:World) :
  Calls Tryz.prog 122 #[.pointer (some ⟨g,0,none⟩)] w fun e w'=>e=.returned (.agg #[.pointer (some ⟨g,2,none⟩),.pointer (some ⟨g,0,none⟩),.pointer (some ⟨g,1,none⟩),.pointer (some ⟨g,3,none⟩)])/\Below w.heap.size w w':=by
 go_enter Tryz.func122,Tryz.ntmps122
 go_wp2
 go_region_held3 (fun _=>True) (go_keep) (fail)
 go_wp2
 refine bodyPost_ret (v:=.agg #[.pointer (some ⟨g,2,none⟩),.pointer (some ⟨g,0,none⟩),.pointer (some ⟨g,1,none⟩),.pointer (some ⟨g,3,none⟩)]) (by simp [results,Tryz.results122,go_sem]) rfl ⟨rfl,(below_alloc _ _).drew⟩


set_option maxHeartbeats 1000000 in
theorem lay_4 (g:Nat) (w:World) :
  Calls Tryz.prog 123 #[.pointer (some ⟨g,0,none⟩)] w fun e w'=>e=.returned (.agg #[.pointer (some ⟨g,3,none⟩),.pointer (some ⟨g,0,none⟩),.pointer (some ⟨g,1,none⟩),.pointer (some ⟨g,2,none⟩)])/\Below w.heap.size w w':=by
 go_enter Tryz.func123,Tryz.ntmps123
 go_wp2
 go_region_held3 (fun _=>True) (go_keep) (fail)
 go_wp2
 refine bodyPost_ret (v:=.agg #[.pointer (some ⟨g,3,none⟩),.pointer (some ⟨g,0,none⟩),.pointer (some ⟨g,1,none⟩),.pointer (some ⟨g,2,none⟩)]) (by simp [results,Tryz.results123,go_sem]) rfl ⟨rfl,(below_alloc _ _).drew⟩


set_option maxHeartbeats 1000000 in
theorem lay_5 (g:Nat) (w:World) :
  Calls Tryz.prog 124 #[.pointer (some ⟨g,0,none⟩)] w fun e w'=>e=.returned (.agg #[.pointer (some ⟨g,3,none⟩),.pointer (some ⟨g,1,none⟩),.pointer (some ⟨g,2,none⟩),.pointer (some ⟨g,0,none⟩)])/\Below w.heap.size w w':=by
 go_enter Tryz.func124,Tryz.ntmps124
 go_wp2
 go_region_held3 (fun _=>True) (go_keep) (fail)
 go_wp2
 refine bodyPost_ret (v:=.agg #[.pointer (some ⟨g,3,none⟩),.pointer (some ⟨g,1,none⟩),.pointer (some ⟨g,2,none⟩),.pointer (some ⟨g,0,none⟩)]) (by simp [results,Tryz.results124,go_sem]) rfl ⟨rfl,(below_alloc _ _).drew⟩


set_option maxHeartbeats 1000000 in
theorem lay_6 (g:Nat) (w:World) :
  Calls Tryz.prog 125 #[.pointer (some ⟨g,0,none⟩)] w fun e w'=>e=.returned (.agg #[.pointer (some ⟨g,3,none⟩),.pointer (some ⟨g,2,none⟩),.pointer (some ⟨g,0,none⟩),.pointer (some ⟨g,1,none⟩)])/\Below w.heap.size w w':=by
 go_enter Tryz.func125,Tryz.ntmps125
 go_wp2
 go_region_held3 (fun _=>True) (go_keep) (fail)
 go_wp2
 refine bodyPost_ret (v:=.agg #[.pointer (some ⟨g,3,none⟩),.pointer (some ⟨g,2,none⟩),.pointer (some ⟨g,0,none⟩),.pointer (some ⟨g,1,none⟩)]) (by simp [results,Tryz.results125,go_sem]) rfl ⟨rfl,(below_alloc _ _).drew⟩

end Go.Proofs.YtpaomghibppgkaaGreat
namespace Go.Proofs.YtpaomghibppgkaaGreat
open Go.RowKit Go.Deep Go.MapKept

theorem bytes_ext {a b:ByteArray} (h:a.toList=b.toList):a=b:=by
 rw [ByteArray.toList_eq,ByteArray.toList_eq] at h
 obtain ⟨⟨x⟩⟩:=a
 obtain ⟨⟨y⟩⟩:=b
 simp at h
 rw [h]

def AtText (w:World) (n:Nat) (X:Nat->ByteArray) (x:ByteArray) (e:Ending) (w' : World):Prop:=
 ((∃i,i<n/\X i=x/\e=.returned (.int .i64 i))\/((∀i,i<n->X i≠x)/\e=.returned (.int .i64 (-1))))/\Below w.heap.size w w'

set_option maxHeartbeats 2000000 in
theorem l4ByText_any (next:Int) (a:Option Addr) (n c:Nat) (I:Nat->Int) (X:Nat->ByteArray) (R:Nat->Int) (x:ByteArray) (w:World) (h:RdT w a n I X R) (hn:n<=1048576) :
  Calls Tryz.prog 115 #[.agg #[.int .i64 next,.slice a n c],.string x] w (AtText w n X x):=by
 go_enter Tryz.func115,Tryz.ntmps115
 go_wp2
 go_loopw [5] (fun i wr=>∃k:Nat,k<=n/\i=.int .i64 k/\(∀m,m<k->X m≠x)/\Below (w.heap.size+1) (w.alloc (.cells #[.int .i64 next,.slice a n c] 42)) wr) (fun i _=>n-(intOf i).toNat)
 case atStart=>exact ⟨0,Nat.zero_le _,rfl,fun m hm=>absurd hm (Nat.not_lt_zero _),Below.refl _ _⟩
 case round=>
  obtain ⟨k,hk,rfl,hno,hb0⟩:=hrel
  obtain ⟨d0,d1,dz,hbel⟩:=dbox hb0
  have HO:Hid (∀m,m<k->X m≠x):=hno
  have HB0:Hid (Below (w.heap.size+1) (w.alloc (.cells #[.int .i64 next,.slice a n c] 42)) wr):=hb0
  have HB:Hid (Below w.heap.size w wr):=hbel
  clear hno hb0
  by_cases hlt:k<n
  ·have hne:¬ n=0:=by omega
   have h':=h.below hbel
   clear hbel
   rcases h' with h' | ⟨b,o,rfl,hc⟩
   ·exact absurd h' hne
   obtain ⟨c1,c2,c3⟩:=hc k hlt
   clear hc h
   by_cases hx:X k=x
   ·have hbx:((X k).toList == x.toList)=true:=by rw [hx];simp
    go_wp2
    go_ret
    exact ⟨.inl ⟨k,hlt,hx,rfl⟩,HB.out⟩
   ·have hbx:((X k).toList == x.toList)=false:=by
     rw [beq_eq_false_iff_ne]
     exact fun e=>hx (bytes_ext e)
    go_wp2
    go_roundw
    case rel=>
     refine ⟨k+1,by omega,by go_num,fun m hm=>?_,HB0.out⟩
     by_cases e:m=k
     ·subst e;exact hx
     ·exact HO.out m (by omega)
    case measure=>simp [intOf];omega
  ·have e:n=k:=by omega
   subst e
   clear hbel
   go_wp2
   go_ret
   exact ⟨.inr ⟨HO.out,rfl⟩,HB.out⟩

def IdOf (n:Nat) (I:Nat->Int) (X:Nat->ByteArray) (R:Nat->Int) (next:Int) (x:ByteArray) (r:Int):Prop:=
 (VDt next n I X R->(∃i,i<n/\X i=x/\r=I i)\/((∀i,i<n->X i≠x)/\r=0))/\(¬ VDt next n I X R->r=0)

theorem VDt.text_inj {next:Int} {n:Nat} {I:Nat->Int} {X:Nat->ByteArray} {R:Nat->Int} (h:VDt next n I X R) {i j:Nat} (hi:i<n) (hj:j<n) (e:X i=X j):i=j:=by
 have asc:=fun (p:Nat) (hp:p<n)=>asc_lessD (X:=X) (k:=n) (fun m hm h0=>(h.2.2 m hm).1.2.2.2 h0) p hp
 rcases Nat.lt_trichotomy i j with h1|h1|h1
 ·exact absurd e (less_neD (asc j hj i h1))
 ·exact h1
 ·exact absurd e.symm (less_neD (asc i hi j h1))

theorem IdOf.same {next:Int} {n:Nat} {I:Nat->Int} {X:Nat->ByteArray} {R:Nat->Int} {x:ByteArray} {r r' : Int} (h:IdOf n I X R next x r) (h' : IdOf n I X R next x r'):r=r':=by
 by_cases hv:VDt next n I X R
 ·rcases h.1 hv with ⟨i,hi,e,rfl⟩|⟨ha,rfl⟩
  ·rcases h'.1 hv with ⟨j,hj,e',rfl⟩|⟨ha',rfl⟩
   ·rw [hv.text_inj hi hj (e.trans e'.symm)]
   ·exact absurd e (ha' i hi)
  ·rcases h'.1 hv with ⟨j,hj,e',rfl⟩|⟨ha',rfl⟩
   ·exact absurd e' (ha j hj)
   ·rfl
 ·rw [h.2 hv,h'.2 hv]

def RetId (w:World) (n:Nat) (I:Nat->Int) (X:Nat->ByteArray) (R:Nat->Int) (next:Int) (x:ByteArray) (e:Ending) (w' : World):Prop:=
 ∃r,e=.returned (.int .i64 r)/\IdOf n I X R next x r/\Below w.heap.size w w'

set_option maxHeartbeats 2000000 in
theorem specTermId (next:Int) (a:Option Addr) (n c:Nat) (I:Nat->Int) (X:Nat->ByteArray) (R:Nat->Int) (x:ByteArray) (w:World) (h:RdT w a n I X R) (hn:n<=1048576) :
  Calls Tryz.prog 92 #[.agg #[.int .i64 next,.slice a n c],.string x] w (RetId w n I X R next x):=by
 have HR:Hid (RdT w a n I X R):=h
 clear h
 go_enter Tryz.func92,Tryz.ntmps92
 go_wp2_with fail
 refine (l4ByText_any next a n c I X R x _ (HR.out.below (below_alloc _ _)) hn).mono ?_
 rintro e w1 ⟨hat,hb1⟩
 rw [World.size_alloc] at hb1
 have K1:Hid (Below (w.heap.size+1) (w.alloc (.cells #[.int .i64 next,.slice a n c] 42)) w1):=hb1
 obtain ⟨d0,d1,dz,hbel⟩:=dbox hb1
 have HB1:Hid (Below w.heap.size w w1):=hbel
 clear hb1 hbel
 rcases hat with ⟨i,hi,hx,rfl⟩|⟨hno,rfl⟩
 ·have hi0:¬ ((i:Int)<0):=by omega
  go_wp2_with fail
  refine (specVD next a n c I X R w1 (HR.out.below HB1.out) hn).mono ?_
  rintro e w2 ⟨bv,rfl,hbv,hb2⟩
  have HBV:Hid (bv=true↔VDt next n I X R):=hbv
  have K2:Hid (Below (w.heap.size+1) (w.alloc (.cells #[.int .i64 next,.slice a n c] 42)) w2):=K1.out.trans (hb2.mono (by omega))
  clear hbv hb2 d0 d1
  obtain ⟨d0,d1,dz2,hbel⟩:=dbox K2.out
  have HB2:Hid (Below w.heap.size w w2):=hbel
  clear hbel
  cases bv with
  | false=>
   go_wp2
   go_ret
   exact ⟨0,rfl,⟨fun q=>absurd (HBV.out.2 q) (by simp),fun _=>rfl⟩,HB2.out⟩
  | true=>
   have HV:Hid (VDt next n I X R):=HBV.out.1 rfl
   rcases HR.out.below HB2.out with h0|⟨b,o,rfl,hc⟩
   ·omega
   obtain ⟨c1,c2,c3⟩:=hc i hi
   clear hc
   go_wp2
   go_ret
   exact ⟨I i,rfl,⟨fun _=>.inl ⟨i,hi,hx,rfl⟩,fun q=>absurd HV.out q⟩,HB2.out⟩
 ·go_wp2
  go_ret
  exact ⟨0,rfl,⟨fun _=>.inr ⟨hno,rfl⟩,fun _=>rfl⟩,HB1.out⟩

set_option maxHeartbeats 1000000 in
theorem id_any (tb B1 B2 n:Nat) (next:Int) (I:Nat->Int) (X:Nat->ByteArray) (R:Nat->Int) (V:Nat->Nat) (x:ByteArray) (w:World) (ht:TabAt w tb next B1 B2) (hm:MapAt w B1 n (fun j=>.string (X j)) (fun j=>.pointer (some ⟨V j,0,none⟩))) (he:∀j,j<n->TermAt w (V j) (I j) (X j) (R j)) (hinj:∀i j,i<n->j<n->X i=X j->i=j) :
  Calls Tryz.prog 107 #[.pointer (some ⟨tb,0,none⟩),.string x] w fun e w'=>((∃i,i<n/\X i=x/\e=.returned (.int .i64 (I i)))\/((∀i,i<n->X i≠x)/\e=.returned (.int .i64 0)))/\Below w.heap.size w w':=by
 obtain ⟨t0,t1,t2⟩:=ht.cells
 by_cases h5:∃j,j<n/\X j=x
 ·obtain ⟨j,hj,hjx⟩:=h5
  obtain ⟨e0,e1,e2⟩:=(he j hj).cells
  have hl:(Instr.lookup 177 (.map (some B1)) (.string x) false).run Tryz.prog w=.ok (.pointer (some ⟨V j,0,none⟩)) w:=
   hm.look_some (kt:=9) (et:=183) (by kernel_rfl) (by kernel_rfl) (d:=.string) (show IsKey .string (.string x) from trivial) (fun j _=>show IsKey .string (.string (X j)) from trivial) hj (by rw [hjx]) (fun q hq e=>by
    have:X q=X j:=by injection e with e;rw [e,hjx]
    rw [hinj q j hq hj this])
  clear he hm ht hinj
  go_enter Tryz.func107,Tryz.ntmps107
  go_wp2
  go_ret
  exact ⟨.inl ⟨j,hj,hjx,rfl⟩,Below.refl _ _⟩
 ·have hno:∀i,i<n->X i≠x:=fun i hi e=>h5 ⟨i,hi,e⟩
  have hl:(Instr.lookup 177 (.map (some B1)) (.string x) false).run Tryz.prog w=.ok (.pointer none) w:=
   hm.look_none (kt:=9) (et:=183) (by kernel_rfl) (by kernel_rfl) (d:=.string) (show IsKey .string (.string x) from trivial) (fun j _=>show IsKey .string (.string (X j)) from trivial) (fun j hj e=>hno j hj (by injection e)) (by kernel_rfl)
  have HNO:Hid (∀i,i<n->X i≠x):=hno
  clear he hm ht hinj hno h5
  go_enter Tryz.func107,Tryz.ntmps107
  go_wp2
  go_ret
  exact ⟨.inr ⟨HNO.out,rfl⟩,Below.refl _ _⟩

end Go.Proofs.YtpaomghibppgkaaGreat
