import Derived.Test.YtcnollkkigiobaaGreatNd39
import Derived.Test.YtcnollkkigiobaaGreatNd37
import Derived.Test.YtcnollkkigiobaaGreatNd26
import Derived.Test.YtcnollkkigiobaaGreatNd2
import Derived.Laws.EntriesVeiled
import Derived.Test.YtcnollkkigiobaaGreatNd40
import Derived.Test.YtcnollkkigiobaaGreatNd12
set_option linter.unusedVariables false
set_option maxRecDepth 100000
namespace Go.Proofs.YtcnollkkigiobaaGreat
open Go.RowKit Go.Deep

def layA:Array Value:=#[.func (.func 101) #[] #[],.func (.func 102) #[] #[],.func (.func 103) #[] #[],.func (.func 104) #[] #[],.func (.func 105) #[] #[],.func (.func 106) #[] #[]]
theorem lay_idx (j:Nat) (hj:j<6) (w:World):(Instr.index 97 (.agg layA) (.int .i64 (j:Int))).run Tryz.prog w=.ok (.func (.func (layF j)) #[] #[]) w:=by
 rcases (show j=0\/j=1\/j=2\/j=3\/j=4\/j=5 by omega) with rfl|rfl|rfl|rfl|rfl|rfl
 ·exact idx_0 w
 ·exact idx_1 w
 ·exact idx_2 w
 ·exact idx_3 w
 ·exact idx_4 w
 ·exact idx_5 w
def XT (B:Nat) (w:World) (A:Array Value) (M:Nat->Nat) (T:Nat->Nat->Tn) (q:Nat):Prop:=
 A[q*2]?=some (.func (.func (layF q)) #[] #[])/\∃(t:Ro (M q)) (t' : Ro 21) (h:Nat) (v:Value),VTt (M q) (T q) t'/\keysR 21 t'=keysR (M q) t/\BalR (M q) true t h/\Tells (T q) 0 (M q) t 0/\nodesR (M q) t=M q/\TAt (fun b=>B<=b) w (M q) t v/\A[q*2+1]?=some v
theorem XT.keep {B:Nat} {w w' : World} {A:Array Value} {M:Nat->Nat} {T:Nat->Nat->Tn} {q:Nat} (h:XT B w A M T q) (hz:w.heap.size<=w'.heap.size) (hb:∀k,k<w.heap.size->B<=k->w'.heap[k]?=w.heap[k]?):XT B w' A M T q:=by
 obtain ⟨h0,t,t',hh,v,h1,h2,h3,h4,h5,h6,h7⟩:=h
 exact ⟨h0,t,t',hh,v,h1,h2,h3,h4,h5,h6.mono hz (fun b hB hlt=>⟨hB,hb b hlt hB⟩),h7⟩
structure IS (w W:World) (a:Option Addr) (c:Nat) (M:Nat->Nat) (T:Nat->Nat->Tn) (j:Nat) (A:Array Value):Prop where
 ib:Bx W w.heap.size 32 #[.slice a 6 c]
 xb:Bx W (w.heap.size+1) 109 A
 sz:A.size=12
 bel:Below w.heap.size w W
 xt:∀q,q<j->XT (w.heap.size+2) W A M T q
theorem IS.keep {w W W' : World} {a:Option Addr} {c:Nat} {M:Nat->Nat} {T:Nat->Nat->Tn} {j:Nat} {A:Array Value} (h:IS w W a c M T j A) (hb:Below W.heap.size W W'):IS w W' a c M T j A:=
 ⟨(hb.block _ h.ib.lt).trans h.ib,(hb.block _ h.xb.lt).trans h.xb,h.sz,h.bel.trans (hb.mono h.bel.size),fun q hq=>(h.xt q hq).keep hb.size (fun k hk _=>hb.block k hk)⟩
theorem IS.put {w W:World} {a:Option Addr} {c:Nat} {M:Nat->Nat} {T:Nat->Nat->Tn} {j:Nat} {A:Array Value} (h:IS w W a c M T j A) (hj:j<6) {t:Ro (M j)} {t' : Ro 21} {hh:Nat} {v:Value} (h1:VTt (M j) (T j) t') (h2:keysR 21 t'=keysR (M j) t) (h3:BalR (M j) true t hh) (h4:Tells (T j) 0 (M j) t 0) (h5:nodesR (M j) t=M j) (h6:TAt (fun b=>w.heap.size+2<=b) W (M j) t v) :
  IS w ((W.setCell ⟨w.heap.size+1,j*2,none⟩ (.func (.func (layF j)) #[] #[])).setCell ⟨w.heap.size+1,j*2+1,none⟩ v) a c M T (j+1) ((A.setIfInBounds (j*2) (.func (.func (layF j)) #[] #[])).setIfInBounds (j*2+1) v):=by
 have hz:=h.sz
 have hk:∀k,w.heap.size+2<=k->((W.setCell ⟨w.heap.size+1,j*2,none⟩ (.func (.func (layF j)) #[] #[])).setCell ⟨w.heap.size+1,j*2+1,none⟩ v).heap[k]?=W.heap[k]?:=fun k hk=>(Below.heap_setCell _ _ _ _ (by simp;omega)).trans (Below.heap_setCell _ _ _ _ (by simp;omega))
 refine ⟨(h.ib.other (by simp) _).other (by simp) _,(h.xb.set _ _).set _ _,by simp [hz],(h.bel.setCell (by simp) _).setCell (by simp) _,fun q hq=>?_⟩
 by_cases e:q=j
 ·subst e
  refine ⟨?_,t,t',hh,v,h1,h2,h3,h4,h5,h6.mono (by simp) (fun b hB hlt=>⟨hB,hk b hB⟩),?_⟩
  ·rw [Array.getElem?_setIfInBounds_ne (by omega),Array.getElem?_setIfInBounds_self_of_lt (by omega)]
  ·rw [Array.getElem?_setIfInBounds_self_of_lt (by simp;omega)]
 ·obtain ⟨g0,s,s',sh,u,g1,g2,g3,g4,g5,g6,g7⟩:=h.xt q (by omega)
  refine ⟨?_,s,s',sh,u,g1,g2,g3,g4,g5,g6.mono (by simp) (fun b hB hlt=>⟨hB,hk b hB⟩),?_⟩
  ·rw [Array.getElem?_setIfInBounds_ne (by omega),Array.getElem?_setIfInBounds_ne (by omega)]
   exact g0
  ·rw [Array.getElem?_setIfInBounds_ne (by omega),Array.getElem?_setIfInBounds_ne (by omega)]
   exact g7
theorem same_of {j m m0:Nat} {N N0:Nat->Tn} {t t0:Ro 21} (hv:VTt m N t) (hv0:VTt m0 N0 t0) {K:List ByteArray} (hK:keysR 21 t=K):((K.map (quadOf j)).length=((keysR 21 t0).map (quadOf 0)).length/\∀q,q∈K.map (quadOf j)->q∈(keysR 21 t0).map (quadOf 0))↔SameQ j m N m0 N0:=by
 subst hK
 constructor
 ·rintro ⟨h1,h2⟩ s s0 hs hs0
  have e:=vtt1 hv hs
  have e0:=vtt1 hv0 hs0
  subst e
  subst e0
  exact ⟨by simpa using h1,fun k hk=>h2 _ (List.mem_map_of_mem hk)⟩
 ·intro h
  obtain ⟨h1,h2⟩:=h t t0 hv hv0
  refine ⟨by simpa using h1,fun q hq=>?_⟩
  obtain ⟨k,hk,rfl⟩:=List.mem_map.1 hq
  exact h2 k hk
def Fst (W:World) (M:Nat->Nat) (T:Nat->Nat->Tn) (j:Nat) (f:Value):Prop:=
 1<=j->∃(B:Nat) (t:Ro 21),f=.map (some B)/\VTt (M 0) (T 0) t/\QMap W B ((keysR 21 t).map (quadOf 0))
theorem Fst.keep {W W' : World} {M:Nat->Nat} {T:Nat->Nat->Tn} {j:Nat} {f:Value} (h:Fst W M T j f) (hb:Below W.heap.size W W'):Fst W' M T j f:=fun hj=>by
 obtain ⟨B,t,h1,h2,h3⟩:=h hj
 exact ⟨B,t,h1,h2,h3.below hb⟩
theorem Fst.put {W:World} {M:Nat->Nat} {T:Nat->Nat->Tn} {j b i i' : Nat} {f u u' : Value} {A:Array Value} {ty:TypeId} (h:Fst W M T j f) (hx:Bx W b ty A):Fst ((W.setCell ⟨b,i,none⟩ u).setCell ⟨b,i',none⟩ u') M T j f:=fun hj=>by
 obtain ⟨B,t,h1,h2,h3⟩:=h hj
 refine ⟨B,t,h1,h2,h3.kept ?_⟩
 have hne:B≠b:=by
  rintro rfl
  obtain ⟨es,cl,g,_⟩:=h3
  have hx' : W.heap[B]?=_:=hx
  rw [g] at hx'
  cases hx'
 exact (Below.heap_setCell _ _ _ _ hne).trans (Below.heap_setCell _ _ _ _ hne)
def VIj (M:Nat->Nat) (T:Nat->Nat->Tn) (j:Nat):Prop:=(∀q,q<j->OkT q (M q) (T q))/\∀i,1<=i->i<j->SameQ i (M i) (T i) (M 0) (T 0)
def RetIx (w:World) (a:Option Addr) (n c:Nat) (M:Nat->Nat) (T:Nat->Nat->Tn) (e:Ending) (w' : World):Prop:=
 (e=.returned (.tuple #[.pointer none,.bool false])/\¬ VI n M T/\Below w.heap.size w w')\/(e=.returned (.tuple #[.pointer (some ⟨w.heap.size+1,0,none⟩),.bool true])/\VI n M T/\∃A,IS w w' a c M T 6 A)


def ksI (M:Nat->Nat) (T:Nat->Nat->Tn):Nat->Nat
 | 0=>1
 | i+1=>koT (ksI M T i) (T i) (M i)
theorem ksI_le (M:Nat->Nat) (T:Nat->Nat->Tn):∀i,1<=ksI M T i/\ksI M T i<=1+2*sumI M T i
 | 0=>by simp [ksI,sumI]
 | i+1=>by
  have h:=ksI_le M T i
  have e:ksI M T (i+1)=ksI M T i+2*M i+sumT (T i) (M i):=rfl
  have e2:sumI M T (i+1)=sumI M T i+M i+sumT (T i) (M i):=rfl
  omega
def mkTr (M:Nat->Nat) (T:Nat->Nat->Tn) (j i:Nat):Nat->Tn:=if i<j then mkN (ksI M T i) (T i) else T i
def TreeMk (w:World) (lo hi m:Nat) (N:Nat->Tn) (u:Value):Prop:=
 ∃a c,u=.slice a m c/\(m=0\/∃g KA DA KC DC,a=some ⟨g,0,none⟩/\OwnTn w lo g m N KA DA KC DC/\TnB hi g m N KA DA lo)
theorem TreeMk.wit {w w' : World} {lo hi m:Nat} {N:Nat->Tn} {u:Value} (h:TreeMk w lo hi m N u) (hk:∀b,lo<=b->b<hi->b<w.heap.size->w'.heap[b]?=w.heap[b]?):TreeMk w' lo hi m N u:=by
 obtain ⟨a,c,e,h⟩:=h
 rcases h with h|⟨g,KA,DA,KC,DC,e2,h1,h2⟩
 ·exact ⟨a,c,e,.inl h⟩
 ·exact ⟨a,c,e,.inr ⟨g,KA,DA,KC,DC,e2,h1.wit h2 hk,h2⟩⟩
theorem TreeMk.rd {w:World} {lo hi m:Nat} {N:Nat->Tn} {u:Value} (h:TreeMk w lo hi m N u):∃a c,u=.slice a m c/\RdTn w a m N:=by
 obtain ⟨a,c,e,h⟩:=h
 rcases h with h|⟨g,KA,DA,KC,DC,rfl,h1,h2⟩
 ·exact ⟨a,c,e,.inl h⟩
 ·exact ⟨_,c,e,h1.rd⟩
theorem TreeAt.mk {w:World} {lo hi m:Nat} {N:Nat->Tn} {u:Value} (h:TreeAt w lo hi m N u):TreeMk w lo hi m N u:=by
 obtain ⟨a,c,KA,DA,KC,DC,e,hg,hu,hh⟩:=h
 by_cases h0:m=0
 ·exact ⟨a,c,e,.inl h0⟩
 ·obtain ⟨g,rfl⟩:=hg.form h0
  have ho:=hg.ownTn
  refine ⟨_,c,e,.inr ⟨g,KA,DA,KC,DC,rfl,ho,ho.le,hu g (.inl rfl),fun i hi h1 b hb=>?_,fun i hi h1 b hb=>?_⟩⟩
  ·obtain ⟨gi,hA,hgi,hri⟩:=(ho.keys i hi).resolve_left h1
   rw [hA] at hb
   injection hb with hb
   subst hb
   exact ⟨hgi,hu gi (.inr (.inl ⟨i,hi,h1,hA⟩))⟩
  ·obtain ⟨gi,hA,hgi,hri⟩:=(ho.kids i hi).resolve_left h1
   rw [hA] at hb
   injection hb with hb
   subst hb
   exact ⟨hgi,hu gi (.inr (.inr ⟨i,hi,h1,hA⟩))⟩
def FrK (n:Nat) (lo hi:Nat->Nat) (w w' : World):Prop:=w.heap.size<=w'.heap.size/\∀x,x<w.heap.size->(∀i,i<n->x<lo i\/hi i<=x)->w'.heap[x]?=w.heap[x]?
theorem FrK.refl (n:Nat) (lo hi:Nat->Nat) (w:World):FrK n lo hi w w:=⟨Nat.le_refl _,fun _ _ _=>rfl⟩
theorem FrK.trans {n:Nat} {lo hi:Nat->Nat} {w w1 w2:World} (h:FrK n lo hi w w1) (k:FrK n lo hi w1 w2):FrK n lo hi w w2:=⟨Nat.le_trans h.1 k.1,fun x hx hn=>(k.2 x (Nat.lt_of_lt_of_le hx h.1) hn).trans (h.2 x hx hn)⟩
theorem FrK.of {n:Nat} {lo hi:Nat->Nat} {w w' : World} (h:Below w.heap.size w w'):FrK n lo hi w w':=⟨h.size,fun x hx _=>h.block x hx⟩
structure RowK (w:World) (B g n:Nat) (M:Nat->Nat) (T:Nat->Nat->Tn) (us:List Value) (lo hi:Nat->Nat) (j:Nat):Prop where
 cells:∀i u,us[i]?=some u->w.cell? ⟨g,i,none⟩=some u
 lt:g<w.heap.size
 tree:∀i,i<n->∃u,us[i]?=some u/\TreeMk w (lo i) (hi i) (M i) (mkTr M T j i) u
 base:∀i,i<n->B<=lo i
 ord:∀i j,i<j->j<n->hi i<=lo j
 sep:∀i,i<n->g<lo i\/hi i<=g
theorem mkTr_lt {M:Nat->Nat} {T:Nat->Nat->Tn} {j i:Nat} (h:i<j):mkTr M T j i=mkN (ksI M T i) (T i):=if_pos h
theorem mkTr_ge {M:Nat->Nat} {T:Nat->Nat->Tn} {j i:Nat} (h:¬ i<j):mkTr M T j i=T i:=if_neg h
theorem RowK.next {w w' : World} {B g n:Nat} {M:Nat->Nat} {T:Nat->Nat->Tn} {us:List Value} {lo hi:Nat->Nat} {j:Nat} (h:RowK w B g n M T us lo hi j) (hj:j<n) {u:Value} (hu:us[j]?=some u) (hw:WiT (lo j) (hi j) w w') (ht:TreeMk w' (lo j) (hi j) (M j) (mkN (ksI M T j) (T j)) u):RowK w' B g n M T us lo hi (j+1):=by
 have hs:=h.sep j hj
 refine ⟨fun i v hv=>?_,Nat.lt_of_lt_of_le h.lt hw.2.2.2.1,fun i hi=>?_,h.base,h.ord,h.sep⟩
 ·have:=h.cells i v hv
  simp only [World.cell?,hw.2.2.2.2 g h.lt hs] at this ⊢
  exact this
 ·by_cases e:i=j
  ·subst e
   refine ⟨u,hu,?_⟩
   rw [mkTr_lt (by omega)]
   exact ht
  ·obtain ⟨v,h1,h2⟩:=h.tree i hi
   refine ⟨v,h1,?_⟩
   have e2:mkTr M T (j+1) i=mkTr M T j i:=by
    by_cases e3:i<j
    ·rw [mkTr_lt e3,mkTr_lt (by omega)]
    ·rw [mkTr_ge e3,mkTr_ge (by omega)]
   rw [e2]
   refine h2.wit (fun b h3 h4 h5=>hw.2.2.2.2 b h5 ?_)
   rcases Nat.lt_or_ge i j with q|q
   ·have:=h.ord i j q hj
    left;omega
   ·have:=h.ord j i (by omega) hi
    right;omega

set_option maxHeartbeats 1000000 in
theorem markNs0 (a:Option Addr) (c k:Nat) (w:World):Calls Tryz.prog 75 #[.slice a 0 c,.int .i64 (k:Int)] w fun e w'=>e=.returned (.int .i64 (k:Int))/\Below w.heap.size w w':=by
 go_enter Tryz.func75,Tryz.ntmps75
 go_wp2
 go_loopw [1,5] (fun q i wr=>i=.int .i64 0/\q=.int .i64 (k:Int)/\Below w.heap.size w wr) (fun _ i _=>1-(intOf i).toNat)
 case atStart=>exact ⟨rfl,rfl,Below.refl _ _⟩
 case round=>
  obtain ⟨rfl,rfl,hb⟩:=hrel
  go_wp2
  go_ret
  exact ⟨rfl,hb⟩

set_option maxHeartbeats 4000000 in
theorem markRow_any (B:Nat) (a:Option Addr) (n c:Nat) (M:Nat->Nat) (T:Nat->Nat->Tn) (us:List Value) (lo hi:Nat->Nat) (w:World) (h:RowI TreeAt w B (.slice a n c) n M T us lo hi) (hB:B<=w.heap.size) (hs:n+sumI M T n<=1048576) :
  Calls Tryz.prog 40 #[.slice a n c,.int .i64 1] w fun e w'=>e=.returned (.int .i64 (ksI M T n:Int))/\Below B w w'/\RdIx w' a n M (fun i=>mkN (ksI M T i) (T i))/\FrK n lo hi w w':=by
 by_cases hn0:n=0
 ·subst hn0
  go_enter Tryz.func40,Tryz.ntmps40
  go_wp2
  go_loopw [1,5] (fun q i wr=>q=.int .i64 1/\i=.int .i64 0/\wr=w) (fun _ i _=>1-(intOf i).toNat)
  case atStart=>exact ⟨rfl,rfl,rfl⟩
  case round=>
   obtain ⟨rfl,rfl,rfl⟩:=hrel
   go_wp2
   go_ret
   exact ⟨rfl,Below.refl _ _,.inl rfl,FrK.refl _ _ _ _⟩
 ·obtain ⟨a',c',e,hf⟩:=own_form h.row
  injection e with e1 _ e2
  subst e1 e2
  obtain ⟨g,rfl,hgB,hgl,hc⟩:=hf hn0
  have K0:Hid (RowK w B g n M T us lo hi 0):=⟨hc,hgl,fun i hi=>by
   obtain ⟨u,h1,h2⟩:=h.tree i hi
   exact ⟨u,h1,by rw [mkTr_ge (Nat.not_lt_zero _)];exact h2.mk⟩,h.base,h.ord,fun i hi=>h.sep g rfl i hi⟩
  clear h hf hc hn0
  go_enter Tryz.func40,Tryz.ntmps40
  go_wp2
  go_loopw [1,5] (fun q i wr=>∃j p:Nat,j<=n/\i=.int .i64 j/\q=.int .i64 p/\p=ksI M T j/\RowK wr B g n M T us lo hi j/\Below B w wr/\FrK n lo hi w wr) (fun _ i _=>n-(intOf i).toNat)
  case atStart=>exact ⟨0,1,Nat.zero_le _,rfl,rfl,rfl,K0.out,Below.refl _ _,FrK.refl _ _ _ _⟩
  case round=>
   obtain ⟨j,p,hj,rfl,rfl,hp,hk,hb,hfr⟩:=hrel
   have HFr:Hid (FrK n lo hi w wr):=hfr
   clear hfr
   clear K0
   have HK:Hid (RowK wr B g n M T us lo hi j/\Below B w wr/\p=ksI M T j):=⟨hk,hb,hp⟩
   by_cases hlt:j<n
   ·have hp1:=ksI_le M T j
    have hsl:=sumI_le M T n (j+1) (by omega)
    have hsum:sumI M T (j+1)=sumI M T j+M j+sumT (T j) (M j):=rfl
    obtain ⟨u,hu,aj,cj,e,htr⟩:=hk.tree j hlt
    subst e
    have c1:=hk.cells j _ hu
    have i0:(0:Int)<=(j:Int):=by omega
    have i1:(j:Int)<(n:Int):=by omega
    have hjb:j<1073741824:=by omega
    obtain ⟨Mj,hMj⟩:∃x,x=M j:=⟨_,rfl⟩
    obtain ⟨p',hp'⟩:∃x,x=ksI M T (j+1):=⟨_,rfl⟩
    have HC:Hid (Calls Tryz.prog 75 #[.slice aj Mj cj,.int .i64 (p:Int)] wr fun e w'=>e=.returned (.int .i64 (p' : Int))/\Below B wr w'/\RowK w' B g n M T us lo hi (j+1)/\FrK n lo hi wr w'):=by
     have hbj:=hk.base j hlt
     by_cases h0:M j=0
     ·rw [hMj,h0]
      refine (markNs0 aj cj p wr).mono (fun e w' ⟨h1,h2⟩=>⟨?_,h2.mono (Nat.le_trans hB hb.size),?_,FrK.of h2⟩)
      ·rw [h1,hp',hp]
       have:ksI M T (j+1)=ksI M T j:=by
        show koT (ksI M T j) (T j) (M j)=_
        rw [h0]
        rfl
       rw [this]
      ·exact hk.next hlt hu ⟨h2.os,h2.tape,h2.output,h2.size,fun k hk _=>h2.block k hk⟩ ⟨aj,cj,rfl,.inl h0⟩
     ·obtain ⟨gj,KA,DA,KC,DC,rfl,ho,hT⟩:=htr.resolve_left h0
      rw [mkTr_ge (Nat.lt_irrefl _)] at ho hT
      rw [hMj]
      refine (markTNodeS_eq (lo j) (hi j) gj (M j) cj p (T j) KA DA KC DC wr ho hT (by omega) (by omega)).mono (fun e w' ⟨h1,h2,h3⟩=>⟨?_,(h2.below (by have:=ho.le;have:=ho.row.lt;omega)).mono hbj,?_,⟨h2.2.2.2.1,fun x hx hn=>h2.2.2.2.2 x hx (hn j hlt)⟩⟩)
      ·rw [h1,hp',hp]
       rfl
      ·refine hk.next hlt hu h2 ⟨_,cj,rfl,.inr ⟨gj,KA,DA,KC,DC,rfl,by rw [<- hp];exact h3,hT⟩⟩
    rw [<- hMj] at c1
    have HP:Hid (p'=ksI M T (j+1)):=hp'
    have hpp:p'<=1073741824:=by
     have:=ksI_le M T (j+1)
     omega
    clear hk hb hp hp1 hsl hsum htr hu hMj hp'
    go_wp2_with fail
    (with_reducible refine HC.out.mono ?_)
    rintro e w1 ⟨rfl,hb1,hk1,hf1⟩
    have HX:Hid (RowK w1 B g n M T us lo hi (j+1)/\Below B w w1/\FrK n lo hi w w1):=⟨hk1,HK.out.2.1.trans hb1,HFr.out.trans hf1⟩
    clear hb1 hk1 hf1 HC c1
    go_wp2
    go_roundw
    case rel=>exact ⟨j+1,p',by omega,by go_num,rfl,HP.out,HX.out⟩
    case measure=>simp [intOf];omega
   ·have e:j=n:=by omega
    subst e
    have HZ:Hid (RdIx wr (some ⟨g,0,none⟩) j M (fun i=>mkN (ksI M T i) (T i))):=by
     refine .inr ⟨g,0,rfl,fun i hi=>?_⟩
     obtain ⟨u,h1,h2⟩:=hk.tree i hi
     obtain ⟨ai,ci,rfl,hr⟩:=h2.rd
     rw [mkTr_lt hi] at hr
     exact ⟨ai,ci,by rw [Nat.zero_add];exact hk.cells i _ h1,hr⟩
    clear hk hb hp
    go_wp2
    go_ret
    exact ⟨by rw [HK.out.2.2];rfl,HK.out.2.1,HZ.out,HFr.out⟩

set_option maxHeartbeats 4000000 in
theorem heldRow_any (a:Option Addr) (n c:Nat) (M:Nat->Nat) (T:Nat->Nat->Tn) (w:World) (h:RdIx w a n M (fun i=>mkN (ksI M T i) (T i))) (hs:n+sumI M T n<=1048576) :
  Calls Tryz.prog 87 #[.slice a n c,.int .i64 1] w fun e w'=>e=.returned (.int .i64 (ksI M T n:Int))/\Below w.heap.size w w':=by
 have HR:Hid (RdIx w a n M (fun i=>mkN (ksI M T i) (T i))):=h
 clear h
 go_enter Tryz.func87,Tryz.ntmps87
 go_wp2
 go_loopw [1,5] (fun q i wr=>∃j p:Nat,j<=n/\i=.int .i64 j/\q=.int .i64 p/\p=ksI M T j/\Below w.heap.size w wr) (fun _ i _=>n-(intOf i).toNat)
 case atStart=>exact ⟨0,1,Nat.zero_le _,rfl,rfl,rfl,Below.refl _ _⟩
 case round=>
  obtain ⟨j,p,hj,rfl,rfl,hp,hb⟩:=hrel
  have HK:Hid (Below w.heap.size w wr/\p=ksI M T j):=⟨hb,hp⟩
  by_cases hlt:j<n
  ·have hp1:=ksI_le M T j
   have hsl:=sumI_le M T n (j+1) (by omega)
   have hsum:sumI M T (j+1)=sumI M T j+M j+sumT (T j) (M j):=rfl
   rcases HR.out.below hb with h0|⟨bb,oo,rfl,hc⟩
   ·omega
   obtain ⟨aj,cj,c1,hrd⟩:=hc j hlt
   have i0:(0:Int)<=(j:Int):=by omega
   have i1:(j:Int)<(n:Int):=by omega
   have hjb:j<1073741824:=by omega
   obtain ⟨Mj,hMj⟩:∃x,x=M j:=⟨_,rfl⟩
   obtain ⟨p',hp'⟩:∃x,x=ksI M T (j+1):=⟨_,rfl⟩
   have HC:Hid (Calls Tryz.prog 121 #[.slice aj Mj cj,.int .i64 (p:Int)] wr fun e w'=>e=.returned (.int .i64 (p' : Int))/\Below wr.heap.size wr w'):=by
    rw [hMj,hp',hp]
    exact heldTNodeS_any aj (M j) cj (ksI M T j) (T j) wr hrd hp1.1 (by omega)
   rw [<- hMj] at c1
   have HP:Hid (p'=ksI M T (j+1)):=hp'
   have hpp:p'<=1073741824:=by
    have:=ksI_le M T (j+1)
    omega
   have hp0:¬ (p' : Int)<0:=by omega
   have hp0' : decide ((p' : Int)<0)=false:=decide_eq_false hp0
   clear hb hp hp1 hsl hsum hrd hc hMj hp'
   go_wp2_with fail
   (with_reducible refine HC.out.mono ?_)
   rintro e w1 ⟨rfl,hb1⟩
   have HX:Hid (Below w.heap.size w w1):=HK.out.1.trans (hb1.mono HK.out.1.size)
   clear hb1 HC c1
   go_wp2
   go_roundw
   case rel=>exact ⟨j+1,p',by omega,by go_num,rfl,HP.out,HX.out⟩
   case measure=>simp [intOf];omega
  ·have e:j=n:=by omega
   subst e
   clear hb hp
   go_wp2
   go_ret
   exact ⟨by rw [HK.out.2];rfl,HK.out.1⟩

set_option maxHeartbeats 1000000 in
theorem markIxR (ok:Bool) (B:Nat) (a:Option Addr) (n c:Nat) (M:Nat->Nat) (T:Nat->Nat->Tn) (us:List Value) (lo hi:Nat->Nat) (w:World) (h:RowI TreeAt w B (.slice a n c) n M T us lo hi) (hB:B<=w.heap.size) (hs:n+sumI M T n<=1048576) :
  Calls Tryz.prog 20 #[.agg #[.bool ok,.slice a n c],.int .i64 1] w fun e w'=>e=.returned (.int .i64 (ksI M T n:Int))/\Below B w w'/\RdIx w' a n M (fun i=>mkN (ksI M T i) (T i))/\FrK n lo hi w w':=by
 have HM:Hid (∀W,Below w.heap.size w W->Calls Tryz.prog 14 #[.agg #[.slice a n c],.int .i64 1] W fun e w'=>e=.returned (.int .i64 (ksI M T n:Int))/\Below B W w'/\RdIx w' a n M (fun i=>mkN (ksI M T i) (T i))/\FrK n lo hi W w'):=fun W hW=>by
  have HT:Hid (∀O:Obj,Calls Tryz.prog 40 #[.slice a n c,.int .i64 1] (W.alloc O) fun e w'=>e=.returned (.int .i64 (ksI M T n:Int))/\Below B (W.alloc O) w'/\RdIx w' a n M (fun i=>mkN (ksI M T i) (T i))/\FrK n lo hi (W.alloc O) w'):=fun O=>markRow_any B a n c M T us lo hi _ ((h.below TreeAt.pl hW).below TreeAt.pl (below_alloc _ _)) (by have:=hW.size;simp;omega) hs
  have HB:Hid (∀O,Below B W (W.alloc O)):=fun O=>(below_alloc _ _).mono (Nat.le_trans hB hW.size)
  go_enter Tryz.func14,Tryz.ntmps14
  go_wp2_with fail
  (with_reducible refine (HT.out _).mono ?_)
  rintro e w1 ⟨rfl,hb1,hr1,hf1⟩
  have H1:Hid (Below B W w1/\RdIx w1 a n M (fun i=>mkN (ksI M T i) (T i))/\FrK n lo hi W w1):=⟨(HB.out _).trans hb1,hr1,(FrK.of (below_alloc _ _)).trans hf1⟩
  clear hb1 hr1 hf1
  go_wp2
  go_ret
  exact ⟨rfl,H1.out⟩
 have HB:Hid (∀O,Below B w (w.alloc O)):=fun O=>(below_alloc _ _).mono hB
 clear h
 go_enter Tryz.func20,Tryz.ntmps20
 go_wp2_with fail
 (with_reducible refine (HM.out _ (below_alloc _ _)).mono ?_)
 rintro e w1 ⟨rfl,hb1,hr1,hf1⟩
 have H1:Hid (Below B w w1/\RdIx w1 a n M (fun i=>mkN (ksI M T i) (T i))/\FrK n lo hi w w1):=⟨(HB.out _).trans hb1,hr1,(FrK.of (below_alloc _ _)).trans hf1⟩
 clear hb1 hr1 hf1
 go_wp2
 go_ret
 exact ⟨rfl,H1.out⟩

set_option maxHeartbeats 1000000 in
theorem heldIxR (ok:Bool) (a:Option Addr) (n c:Nat) (M:Nat->Nat) (T:Nat->Nat->Tn) (w:World) (h:RdIx w a n M (fun i=>mkN (ksI M T i) (T i))) (hs:n+sumI M T n<=1048576) :
  Calls Tryz.prog 21 #[.agg #[.bool ok,.slice a n c],.int .i64 1] w fun e w'=>e=.returned (.int .i64 (ksI M T n:Int))/\Below w.heap.size w w':=by
 obtain ⟨z,hz⟩:∃z,z=ksI M T n:=⟨_,rfl⟩
 have hz0:¬ (z:Int)<0:=by omega
 have hz0' : decide ((z:Int)<0)=false:=decide_eq_false hz0
 have HM:Hid (∀W,Below w.heap.size w W->Calls Tryz.prog 49 #[.agg #[.slice a n c],.int .i64 1] W fun e w'=>e=.returned (.int .i64 (z:Int))/\Below W.heap.size W w'):=fun W hW=>by
  have HT:Hid (∀O:Obj,Calls Tryz.prog 87 #[.slice a n c,.int .i64 1] (W.alloc O) fun e w'=>e=.returned (.int .i64 (z:Int))/\Below (W.alloc O).heap.size (W.alloc O) w'):=fun O=>by
   rw [hz]
   exact heldRow_any a n c M T _ ((h.below hW).below (below_alloc _ _)) hs
  clear hz
  go_enter Tryz.func49,Tryz.ntmps49
  go_wp2_with fail
  (with_reducible refine (HT.out _).mono ?_)
  rintro e w1 ⟨rfl,hb1⟩
  have H1:Hid (Below W.heap.size W w1):=(below_alloc _ _).trans (hb1.mono (by simp))
  clear hb1
  go_wp2
  go_ret
  exact ⟨rfl,H1.out⟩
 rw [<- hz]
 clear h hz
 go_enter Tryz.func21,Tryz.ntmps21
 go_wp2_with fail
 (with_reducible refine (HM.out _ (below_alloc _ _)).mono ?_)
 rintro e w1 ⟨rfl,hb1⟩
 have H1:Hid (Below w.heap.size w w1):=(below_alloc _ _).trans (hb1.mono (by simp))
 clear hb1
 go_wp2
 go_ret
 exact ⟨rfl,H1.out⟩
end Go.Proofs.YtcnollkkigiobaaGreat
