import Derived.Test.YtpaomghibppgkaaGreatNv19
import Derived.Test.YtpaomghibppgkaaGreatNv27
import Derived.Test.YtpaomghibppgkaaGreatNv11
import Derived.Test.YtpaomghibppgkaaGreatNv18
set_option linter.unusedVariables false
set_option maxRecDepth 100000
namespace Go.Proofs.YtpaomghibppgkaaGreat
open Go.RowKit Go.Deep Go.Shelf
attribute [local go_sem] Oper.semAt_some

def dnB (k:Int) (bd:Bool):Bool:=if k=9 then true else bd
def dnG (k:Int) (s g:ByteArray):ByteArray:=if k=9 then s else g
def CtxK (n:Nat) (I:Nat->Int) (X:Nat->ByteArray) (m:Nat) (Bd:Nat->Bool) (Lb:Nat->ByteArray):Prop:=
 Bd (n-1)=false/\Lb (n-1)={ data:=#[] }/\∀i,m<=i->i<n->∀j,j<arOf (I i)->Bd (opf (arI I) i j)=dnB (I i) (Bd i)/\Lb (opf (arI I) i j)=dnG (I i) (X i) (Lb i)
def CtxQ (n:Nat) (I:Nat->Int) (X:Nat->ByteArray) (i:Nat) (b:Bool) (l:ByteArray) (q:Nat) (Bd:Nat->Bool) (Lb:Nat->ByteArray):Prop:=
 CtxK n I X (i+1) Bd Lb/\(Bd i=b/\Lb i=l)/\∀j,j<q->Bd (opf (arI I) i j)=dnB (I i) b/\Lb (opf (arI I) i j)=dnG (I i) (X i) l
theorem CtxQ.step {n:Nat} {I:Nat->Int} {X:Nat->ByteArray} {i:Nat} {b:Bool} {l:ByteArray} {q:Nat} {Bd:Nat->Bool} {Lb:Nat->ByteArray} (h:CtxQ n I X i b l q Bd Lb) (hok:StackOk (arI I) n) (hi:i<n) (hq:q<arOf (I i)) :
  CtxQ n I X i b l (q+1) (fun y=>if y=opf (arI I) i q then dnB (I i) b else Bd y) (fun y=>if y=opf (arI I) i q then dnG (I i) (X i) l else Lb y):=by
 obtain ⟨⟨h1,h2,h3⟩,⟨h4,h5⟩,h6⟩:=h
 have hx:=opf_lt hok hi (arI_le I i) (j:=q) hq
 refine ⟨⟨?_,?_,fun i' hi1 hi2 j hj=>?_⟩,⟨?_,?_⟩,fun j hj=>?_⟩
 ·show (if _ then _ else _)=_
  rw [if_neg (by omega)];exact h1
 ·show (if _ then _ else _)=_
  rw [if_neg (by omega)];exact h2
 ·have hne:opf (arI I) i' j≠opf (arI I) i q:=fun e=>by
   have:=opf_parent hok hi2 hi (arI_le I i') (arI_le I i) hj hq e
   omega
  have hne2:i'≠opf (arI I) i q:=by omega
  show (if _ then _ else _)=dnB _ (if _ then _ else _)/\(if _ then _ else _)=dnG _ _ (if _ then _ else _)
  rw [if_neg hne,if_neg hne,if_neg hne2,if_neg hne2]
  exact h3 i' hi1 hi2 j hj
 ·show (if _ then _ else _)=_
  rw [if_neg (by omega)];exact h4
 ·show (if _ then _ else _)=_
  rw [if_neg (by omega)];exact h5
 ·show (if _ then _ else _)=_/\(if _ then _ else _)=_
  by_cases e:j=q
  ·subst e
   rw [if_pos rfl,if_pos rfl]
   exact ⟨rfl,rfl⟩
  ·have hne:opf (arI I) i j≠opf (arI I) i q:=fun e2=>e (opf_inj hok hi (arI_le I i) (by show j<arOf (I i);omega) hq e2)
   rw [if_neg hne,if_neg hne]
   exact h6 j (by omega)
theorem CtxQ.done {n:Nat} {I:Nat->Int} {X:Nat->ByteArray} {i:Nat} {b:Bool} {l:ByteArray} {Bd:Nat->Bool} {Lb:Nat->ByteArray} (h:CtxQ n I X i b l (arOf (I i)) Bd Lb):CtxK n I X i Bd Lb:=by
 obtain ⟨⟨h1,h2,h3⟩,⟨h4,h5⟩,h6⟩:=h
 refine ⟨h1,h2,fun i' hi1 hi2 j hj=>?_⟩
 by_cases e:i'=i
 ·subst e
  rw [h4,h5]
  exact h6 j hj
 ·exact h3 i' (by omega) hi2 j hj

def CxPl (Cx:(Nat->Bool)->(Nat->ByteArray)->Prop) (W:World) (g n:Nat) (I:Nat->Int) (X R:Nat->ByteArray) (AA:Nat->Option Addr) (CC:Nat->Nat) (H:Nat->Int):Prop:=∃Bd Lb,Cx Bd Lb/\PlAt W g n (plF I X R AA CC Bd Lb H)
def encQ (I:Nat->Int) (X R:Nat->ByteArray) (AA:Nat->Option Addr) (CC:Nat->Nat) (H:Nat->Int) (i:Nat) (b:Bool) (l:ByteArray):Array Value:=
 #[.int .i64 (i:Int),.agg #[.int .i64 (I i),.string (X i),.string (R i),.bool b,.string l,.slice (AA i) (arOf (I i)) (CC i),.int .i64 (H i)]]
def VQ (g n:Nat) (I:Nat->Int) (X R:Nat->ByteArray) (AA:Nat->Option Addr) (CC:Nat->Nat) (H:Nat->Int) (k:Nat) (v:Array Value) (W:World):Prop:=
 k<n/\∃b l,v=encQ I X R AA CC H (n-1-k) b l/\W.cell? ⟨g,(n-1-k)*7+3,none⟩=some (.bool b)/\W.cell? ⟨g,(n-1-k)*7+4,none⟩=some (.string l)
set_option maxHeartbeats 4000000 in
theorem bwT_in (F:Fence) (nn:Nat) (hf:F.fn 119) (hro:F.round=none) (hn:1<=nn) (l Bs g n c:Nat) (I:Nat->Int) (X R:Nat->ByteArray) (AA:Nat->Option Addr) (CC:Nat->Nat) (H:Nat->Int) (hn0:n<=100) (K:Nat->World->Prop)
  (hT:∀k W,K k W->W.cell? ⟨Bs,0,none⟩=some (.slice (some ⟨g,0,none⟩) n c)/\AnyPl W g n I X R AA CC H)
  (hY:∀k v W,K k W->VQ g n I X R AA CC H k v W->k<n->YieldAt F (nn-1) Tryz.prog l v W fun e W'=>e=.returned (.bool true)/\K (k+1) W')
  (W:World) (h0:K 0 W) :
  CallsIn F nn Tryz.prog 119 #[.func (.yield l) #[] #[],.pointer (some ⟨Bs,0,none⟩)] W fun e W'=>(∃v,e=.returned v)/\K n W':=by
 have HY:Hid (∀k v W,K k W->VQ g n I X R AA CC H k v W->k<n->YieldAt F (nn-1) Tryz.prog l v W fun e W'=>e=.returned (.bool true)/\K (k+1) W'):=hY
 have HT:Hid (∀k W,K k W->W.cell? ⟨Bs,0,none⟩=some (.slice (some ⟨g,0,none⟩) n c)/\AnyPl W g n I X R AA CC H):=hT
 have hBs:=(hT 0 W h0).1
 have wn:IntKind.i64.wrap ((n:Int)-1)=(n:Int)-1:=by rw [IntKind.wrap_i64];omega
 clear hY hT
 refine callsIn_of_wp Tryz.func119 rfl hf ?_ hro
 simp only [Tryz.ntmps119,List.size_toArray,List.length_cons,List.length_nil,Nat.reduceAdd,Nat.reduceSub,Array.replicate_succ,Array.replicate_zero,List.push_toArray,List.append_toArray,List.nil_append,List.cons_append]
 gi_wp2
 gi_loopw [3] (fun i wr=>∃(k:Nat),k<=n/\i=.int .i64 ((k:Int)-1)/\K (n-k) wr) (fun i _=>(intOf i+1).toNat)
 case atStart=>exact ⟨n,Nat.le_refl _,rfl,by rw [Nat.sub_self];exact h0⟩
 case round=>
  obtain ⟨k,hk,rfl,hJ⟩:=hrel
  obtain ⟨hb,hp⟩:=HT.out _ _ hJ
  cases k with
  | zero=>
   have i0:¬ ((0:Int)<=((0:Nat):Int)-1):=by omega
   rw [Nat.sub_zero] at hJ
   gi_wp2
   go_end0
   exact ⟨⟨_,rfl⟩,hJ⟩
  | succ k=>
   obtain ⟨Bd,Lb,hpp⟩:=hp
   have ek:(((k+1:Nat):Int))-1=(k:Int):=by omega
   rw [ek]
   have ik0:(0:Int)<=(k:Int):=by omega
   have ikn:(k:Int)<(n:Int):=by omega
   have wk:IntKind.i64.wrap ((k:Int)-1)=(k:Int)-1:=by rw [IntKind.wrap_i64];omega
   obtain ⟨c0,c1,c2,c3,c4,c5,c6⟩:=hpp.seven (i:=k) (by omega)
   dsimp only [plF] at c0 c1 c2 c3 c4 c5 c6
   have e1:n-1-(n-(k+1))=k:=by omega
   have e2:n-(k+1)+1=n-k:=by omega
   obtain ⟨fn,tmps,assign,body,hy,hR⟩:=HY.out (n-(k+1)) (encQ I X R AA CC H k (Bd k) (Lb k)) wr hJ ⟨by omega,Bd k,Lb k,by rw [e1],by rw [e1];exact c3,by rw [e1];exact c4⟩ (by omega)
   rw [e2] at hR
   unfold encQ at hy
   clear hpp hJ e1 e2
   gi_wp2
   refine hR.mono ?_
   rintro e W3 ⟨rfl,hJ3⟩
   have hb3:=(HT.out _ _ hJ3).1
   gi_wp2
   go_roundw
   case rel=>exact ⟨k,by omega,by first|rfl|rw [wk],hJ3⟩
   case measure=>first|(simp [intOf];done)|(simp [intOf];omega)

structure BSC (Cx:(Nat->Bool)->(Nat->ByteArray)->Prop) (w W:World) (g n c:Nat) (I:Nat->Int) (X R:Nat->ByteArray) (AA:Nat->Option Addr) (CC:Nat->Nat) (H:Nat->Int):Prop where
 pl:CxPl Cx W g n I X R AA CC H
 gr:w.grownBy W (some g)
 b0:W.heap[w.heap.size]?=some (.cells #[.slice (some ⟨g,0,none⟩) n c] 76 (0,0))
 b1:W.heap[w.heap.size+1]?=some (.cells #[.slice (some ⟨g,0,none⟩) n c] 76 (0,0))
section
variable {Cx Cy:(Nat->Bool)->(Nat->ByteArray)->Prop} {w W W' : World} {g n c B:Nat} {I:Nat->Int} {X R:Nat->ByteArray} {AA:Nat->Option Addr} {CC:Nat->Nat} {H:Nat->Int} {row:Option Nat}
theorem CxPl.kept (h:CxPl Cx W g n I X R AA CC H) (hg:W.grownBy W' row) (hr:∀r,row=some r->∃o:Obj,W.heap[r]?=some o/\o.isCells=false):CxPl Cx W' g n I X R AA CC H:=by
 obtain ⟨Bd,Lb,hC,cur,hh,h1,h2⟩:=h
 exact ⟨Bd,Lb,hC,cur,blk_kept hh hg hr,h1,h2⟩
theorem CxPl.any (h:CxPl Cx W g n I X R AA CC H):AnyPl W g n I X R AA CC H:=by
 obtain ⟨Bd,Lb,_,hp⟩:=h
 exact ⟨Bd,Lb,hp⟩
theorem BSC.kept (h:BSC Cx w W g n c I X R AA CC H) (hg:W.grownBy W' row) (hr:∀r,row=some r->B<=r/\∃o:Obj,W.heap[r]?=some o/\o.isCells=false) (hB:w.heap.size<=B):BSC Cx w W' g n c I X R AA CC H:=
 ⟨h.pl.kept hg (fun r e=>(hr r e).2),grown_more h.gr hg (fun r e=>(hr r e).1) hB,blk_kept h.b0 hg (fun r e=>(hr r e).2),blk_kept h.b1 hg (fun r e=>(hr r e).2)⟩
theorem BSC.alloc (h:BSC Cx w W g n c I X R AA CC H) (o:Obj):BSC Cx w (W.alloc o) g n c I X R AA CC H:=
 h.kept (B:=w.heap.size) (World.grownBy_alloc W o none) (fun r e=>by cases e) (Nat.le_refl _)
theorem BSC.to (h:BSC Cx w W g n c I X R AA CC H) (e:∀Bd Lb,Cx Bd Lb->PlAt W g n (plF I X R AA CC Bd Lb H)->Cy Bd Lb):BSC Cy w W g n c I X R AA CC H:=by
 obtain ⟨⟨Bd,Lb,hC,hp⟩,h2,h3,h4⟩:=h
 exact ⟨⟨Bd,Lb,e Bd Lb hC hp,hp⟩,h2,h3,h4⟩
theorem BSC.set (h:BSC Cx w W g n c I X R AA CC H) (hg:g<w.heap.size) (x:Nat) (b:Bool) (l:ByteArray) (e:∀Bd Lb,Cx Bd Lb->Cy (fun i=>if i=x then b else Bd i) (fun i=>if i=x then l else Lb i)):BSC Cy w ((W.setCell ⟨g,x*7+3,none⟩ (.bool b)).setCell ⟨g,x*7+4,none⟩ (.string l)) g n c I X R AA CC H:=by
 obtain ⟨Bd,Lb,hC,hp⟩:=h.pl
 refine ⟨⟨_,_,e _ _ hC,plF_setC hp⟩,grown_setP (grown_setP h.gr _ _) _ _,?_,?_⟩
 ·rw [Below.heap_setCell _ _ _ _ (by show w.heap.size≠g;omega),Below.heap_setCell _ _ _ _ (by show w.heap.size≠g;omega)];exact h.b0
 ·rw [Below.heap_setCell _ _ _ _ (by show w.heap.size+1≠g;omega),Below.heap_setCell _ _ _ _ (by show w.heap.size+1≠g;omega)];exact h.b1
end

set_option maxHeartbeats 8000000 in
theorem bindC_in (F:Fence) (nn:Nat) (h3:F.fn 69) (h4:F.fn 98) (h5:F.fn 119) (hro:F.round=none) (hnn:6<=nn)
  (g n c B:Nat) (I:Nat->Int) (X R:Nat->ByteArray) (AA:Nat->Option Addr) (CC:Nat->Nat) (H:Nat->Int) (w:World)
  (hP:PlAt w g n (plF I X R AA CC (fun _=>false) (fun _=>{ data:=#[] }) H)) (hO:∀i,i<n->OwnIp w B (AA i) (arOf (I i)) (fun j=>(opf (arI I) i j:Int))) (hcap:∀i,i<n->arOf (I i)<=CC i/\CC i<=9223372036854775807) (hok:StackOk (arI I) n) (hn:n<=100) (hn0:0<n) :
  CallsIn F nn Tryz.prog 69 #[.slice (some ⟨g,0,none⟩) n c] w fun e w'=>e=.returned (.tuple #[])/\CxPl (CtxK n I X 0) w' g n I X R AA CC H/\w.grownBy w' (some g):=by
 have h1:1<=nn:=by omega
 have hgl:g<w.heap.size:=hP.lt
 have HO:Hid (∀W:World,w.grownBy W (some g)->∀i,i<n->Rd .i64 W (AA i) (arOf (I i)) (fun j=>(opf (arI I) i j:Int))):=fun W hW i hi=>((hO i hi).grownP hP hW).rd
 have HCP:Hid (∀i,i<n->arOf (I i)<=CC i/\CC i<=9223372036854775807):=hcap
 have HOK:Hid (StackOk (arI I) n):=hok
 have HP:Hid (CxPl (CtxK n I X n) w g n I X R AA CC H):=⟨_,_,⟨rfl,rfl,fun i h1 h2=>absurd h1 (by omega)⟩,hP⟩
 clear hP hO hcap hok
 refine callsIn_of_wp_marks Tryz.func69 rfl h3 ?_ hro
 simp only [Tryz.ntmps69,List.size_toArray,List.length_cons,List.length_nil,Nat.reduceAdd,Nat.reduceSub,Array.replicate_succ,Array.replicate_zero,List.push_toArray,List.append_toArray,List.nil_append,List.cons_append]
 gi_wp2_with (gi_at_call 98;refine (bw_in F (nn-1) h4 hro _ _ _ _ rfl _).mono ?_;rintro e w' ⟨rfl,rfl⟩)
 have HS0:Hid (BSC (CtxK n I X n) w ((w.alloc (.cells #[.slice (some ⟨g,0,none⟩) n c] 76)).alloc (.cells #[.slice (some ⟨g,0,none⟩) n c] 76)) g n c I X R AA CC H/\((w.alloc (.cells #[.slice (some ⟨g,0,none⟩) n c] 76)).alloc (.cells #[.slice (some ⟨g,0,none⟩) n c] 76)).heap.size=w.heap.size+2):=by
  refine ⟨⟨?_,?_,?_,?_⟩,by simp⟩
  ·exact (HP.out.kept (World.grownBy_alloc _ _ none) (fun r e=>by cases e)).kept (World.grownBy_alloc _ _ none) (fun r e=>by cases e)
  ·exact grown_more (B:=w.heap.size) (grown_more (B:=w.heap.size) ⟨rfl,rfl,rfl,Nat.le_refl _,fun _ _ _=>rfl⟩ (World.grownBy_alloc _ _ none) (fun r e=>by cases e) (Nat.le_refl _)) (World.grownBy_alloc _ _ none) (fun r e=>by cases e) (Nat.le_refl _)
  ·exact (Below.heap_alloc _ _ _ (by simp)).trans (World.alloc_heap_new w _)
  ·have:=World.alloc_heap_new (w.alloc (.cells #[.slice (some ⟨g,0,none⟩) n c] 76)) (.cells #[.slice (some ⟨g,0,none⟩) n c] 76)
   rwa [World.size_alloc] at this
 generalize ((w.alloc (.cells #[.slice (some ⟨g,0,none⟩) n c] 76)).alloc (.cells #[.slice (some ⟨g,0,none⟩) n c] 76))=W0 at HS0 ⊢
 have hsz:=HS0.out.2
 refine rangeT hro h1 (gf:=119) (lb:=#[.pointer (some ⟨w.heap.size+1,0,none⟩)]) rfl h5 (enters_of Tryz.func119 (by kernel_rfl) rfl)
  n (VQ g n I X R AA CC H) (fun k v W h=>by obtain ⟨_,b,l,rfl,_⟩:=h;rfl) (fun k W=>BSC (CtxK n I X (n-k)) w W g n c I X R AA CC H) (fun k A B row hs hg hr=>hs.kept hg hr (by omega)) (by rw [Nat.sub_zero];exact HS0.out.1)
  (fun l K W _ hKJ hY h0=>bwT_in F (nn-1) h5 hro (by omega) l (w.heap.size+1) g n c I X R AA CC H hn K (fun k W hk=>⟨by simp [World.cell?,(hKJ k W hk).b1],(hKJ k W hk).pl.any⟩) hY W h0)
  (fun k v a' W=>k<n/\∃b lb Bx,(W.cell? ⟨g,(n-1-k)*7+3,none⟩=some (.bool b)/\W.cell? ⟨g,(n-1-k)*7+4,none⟩=some (.string lb))/\w.heap.size+2<=Bx/\W.heap[Bx]?=some (.cells #[.int .i64 (I (n-1-k)),.string (X (n-1-k)),.string (R (n-1-k)),.bool b,.string lb,.slice (AA (n-1-k)) (arOf (I (n-1-k))) (CC (n-1-k)),.int .i64 (H (n-1-k))] 88 (0,0))/\a'={ tmps:=#[.slice (some ⟨g,0,none⟩) n c,.pointer (some ⟨w.heap.size,0,none⟩),undef,.pointer (some ⟨Bx,0,none⟩),undef,undef,undef,.slice (some ⟨g,0,none⟩) n c,.func (.func 119) #[] #[.pointer (some ⟨w.heap.size+1,0,none⟩)],.int .i64 ((n-1-k:Nat):Int),.agg #[.int .i64 (I (n-1-k)),.string (X (n-1-k)),.string (R (n-1-k)),.bool b,.string lb,.slice (AA (n-1-k)) (arOf (I (n-1-k))) (CC (n-1-k)),.int .i64 (H (n-1-k))],undef,undef,undef,undef,undef,undef,undef,undef,undef,undef,undef,undef,undef,undef,undef,undef,undef,undef,undef,undef,undef,undef,undef],defers:=[] })
  (fun k v a' _ A B row hs hg hr=>by obtain ⟨hk,b,lb,Bx,⟨c3,c4⟩,h1,h2,h3⟩:=hs;exact ⟨hk,b,lb,Bx,⟨cell_kept c3 hg (fun r e=>(hr r e).2),cell_kept c4 hg (fun r e=>(hr r e).2)⟩,h1,blk_kept h2 hg (fun r e=>(hr r e).2),h3⟩)
  ?assign ?body ?done
 case assign=>
  rintro l k v W K hs ⟨hk,b,lb,rfl,c3,c4⟩ _ hK
  have HS:Hid (BSC (CtxK n I X (n-k)) w W g n c I X R AA CC H/\W.cell? ⟨g,(n-1-k)*7+3,none⟩=some (.bool b)/\W.cell? ⟨g,(n-1-k)*7+4,none⟩=some (.string lb)):=⟨hs,c3,c4⟩
  clear hs c3 c4
  dsimp only [encQ]
  gi_wp2
  have z:=HS.out.1.gr.size
  have zz:=(Array.getElem?_eq_some_iff.1 HS.out.1.b1).1
  exact hK _ _ ((KeepsOthers.alloc _ _).from _) (HS.out.1.alloc _) ⟨hk,b,lb,W.heap.size,⟨cell_kept HS.out.2.1 (World.grownBy_alloc W _ none) (fun r e=>by cases e),cell_kept HS.out.2.2 (World.grownBy_alloc W _ none) (fun r e=>by cases e)⟩,by omega,World.alloc_heap_new W _,rfl⟩
 case body=>
  rintro l k v a' W hl hs ⟨hk,b,lb,Bx,⟨hc3,hc4⟩,hBx,bX,rfl⟩ _
  obtain ⟨i,hik⟩:∃i,i=n-1-k:=⟨_,rfl⟩
  rw [<- hik] at hc3 hc4 bX ⊢
  have hi:i<n:=by omega
  have hk1:k+i+1<=n:=by omega
  have hk2:n<=k+i+1:=by omega
  clear hik
  have HS:Hid (BSC (CtxQ n I X i b lb 0) w W g n c I X R AA CC H):=hs.to (fun Bd Lb hC hp=>by
   obtain ⟨_,_,_,d3,d4,_,_⟩:=hp.seven (i:=i) hi
   dsimp only [plF] at d3 d4
   rw [d3] at hc3
   rw [d4] at hc4
   injection hc3 with hc3
   injection hc3 with hc3
   injection hc4 with hc4
   injection hc4 with hc4
   refine ⟨?_,⟨hc3,hc4⟩,fun j hj=>absurd hj (Nat.not_lt_zero _)⟩
   rw [show i+1=n-k by omega]
   exact hC)
  have hzW:=(Array.getElem?_eq_some_iff.1 hs.b1).1
  have hle:=arOf_le (I i)
  have hbl:=(Array.getElem?_eq_some_iff.1 bX).1
  have c0:W.cell? ⟨Bx,0,none⟩=some (.int .i64 (I i)):=by simp [World.cell?,bX]
  have c1:W.cell? ⟨Bx,1,none⟩=some (.string (X i)):=by simp [World.cell?,bX]
  have c3:W.cell? ⟨Bx,3,none⟩=some (.bool b):=by simp [World.cell?,bX]
  have c4:W.cell? ⟨Bx,4,none⟩=some (.string lb):=by simp [World.cell?,bX]
  have c5:W.cell? ⟨Bx,5,none⟩=some (.slice (AA i) (arOf (I i)) (CC i)):=by simp [World.cell?,bX]
  have hne:¬ (Bx=W.heap.size):=by omega
  dsimp only
  clear hs bX hc3 hc4
  obtain ⟨m,hm⟩:∃m,arOf (I i)=m:=⟨_,rfl⟩
  have HM:Hid (arOf (I i)=m):=hm
  rw [hm] at hle c5 ⊢
  clear hm
  by_cases h9:I i=9
  ·have i9:(I i == 9)=true:=by simp [h9]
   have S1:Hid (BSC (CtxQ n I X i b lb 0) w (W.alloc (.cells #[.bool true,.string (X i)] 85)) g n c I X R AA CC H/\KeepsOthers W (W.alloc (.cells #[.bool true,.string (X i)] 85))/\(W.alloc (.cells #[.bool true,.string (X i)] 85)).heap[W.heap.size]?=some (.cells #[.bool true,.string (X i)] 85 (0,0))):=⟨HS.out.alloc _,KeepsOthers.alloc _ _,World.alloc_heap_new W _⟩
   gi_wp2
   gi_loopw [24] (fun j wr=>∃q:Nat,q<=m/\j=.int .i64 q/\BSC (CtxQ n I X i b lb q) w wr g n c I X R AA CC H/\KeepsOthers W wr/\wr.heap[W.heap.size]?=some (.cells #[.bool true,.string (X i)] 85 (0,0))) (fun j _=>m-(intOf j).toNat)
   case atStart=>exact ⟨0,Nat.zero_le _,rfl,S1.out.1,S1.out.2.1,S1.out.2.2⟩
   case round=>
    obtain ⟨q,hq,rfl,hs2,hko,hcx⟩:=hrel
    have S2:Hid (BSC (CtxQ n I X i b lb q) w wr g n c I X R AA CC H/\KeepsOthers W wr/\wr.heap[W.heap.size]?=some (.cells #[.bool true,.string (X i)] 85 (0,0))):=⟨hs2,hko,hcx⟩
    have x0:wr.cell? ⟨w.heap.size,0,none⟩=some (.slice (some ⟨g,0,none⟩) n c):=by simp [World.cell?,hs2.b0]
    have y0:wr.cell? ⟨W.heap.size,0,none⟩=some (.bool true):=by simp [World.cell?,hcx]
    have y1:wr.cell? ⟨W.heap.size,1,none⟩=some (.string (X i)):=by simp [World.cell?,hcx]
    clear hs2 hko hcx
    by_cases hql:q<m
    ·have iq:(q:Int)<((m:Nat):Int):=by omega
     have iq0:(0:Int)<=(q:Int):=by omega
     have hql2:q<arOf (I i):=by rw [HM.out];exact hql
     have hxl:=opf_lt HOK.out hi (arI_le I i) (j:=q) hql2
     obtain ⟨gb,go,hA,hcx⟩:∃gb go,AA i=some ⟨gb,go,none⟩/\wr.cell? ⟨gb,go+q,none⟩=some (.int .i64 ((opf (arI I) i q:Nat):Int)):=by
      rcases HO.out wr S2.out.1.gr i hi with h|⟨gb,go,e,hc⟩
      ·rw [HM.out] at h;omega
      ·exact ⟨gb,go,e,hc q hql2⟩
     rw [hA]
     have S3:Hid (BSC (CtxQ n I X i b lb (q+1)) w ((wr.setCell ⟨g,opf (arI I) i q*7+3,none⟩ (.bool true)).setCell ⟨g,opf (arI I) i q*7+4,none⟩ (.string (X i))) g n c I X R AA CC H/\KeepsOthers W ((wr.setCell ⟨g,opf (arI I) i q*7+3,none⟩ (.bool true)).setCell ⟨g,opf (arI I) i q*7+4,none⟩ (.string (X i)))/\((wr.setCell ⟨g,opf (arI I) i q*7+3,none⟩ (.bool true)).setCell ⟨g,opf (arI I) i q*7+4,none⟩ (.string (X i))).heap[W.heap.size]?=some (.cells #[.bool true,.string (X i)] 85 (0,0))):=by
      refine ⟨S2.out.1.set hgl _ _ _ (fun Bd Lb h=>?_),(S2.out.2.1.trans (KeepsOthers.setCell _ _ _)).trans (KeepsOthers.setCell _ _ _),?_⟩
      ·have q9:=h.step HOK.out hi hql2
       have eB:dnB (I i) b=true:=by unfold dnB;simp [h9]
       have eG:dnG (I i) (X i) lb=(X i):=by unfold dnG;simp [h9]
       rw [eB,eG] at q9
       exact q9
      ·rw [Below.heap_setCell _ _ _ _ (by show W.heap.size≠g;omega),Below.heap_setCell _ _ _ _ (by show W.heap.size≠g;omega)]
       exact S2.out.2.2
     generalize opf (arI I) i q=x at hxl hcx S3
     have ix:(x:Int)<(n:Int):=by omega
     have ix0:(0:Int)<=(x:Int):=by omega
     obtain ⟨f3,f4,d3,d4⟩:wr.frozen? ⟨g,x*7+3,none⟩=false/\wr.frozen? ⟨g,x*7+4,none⟩=false/\(∃v,wr.cell? ⟨g,x*7+3,none⟩=some v)/\(∃v,wr.cell? ⟨g,x*7+4,none⟩=some v):=by
      obtain ⟨Bd,Lb,hp⟩:=S2.out.1.pl.any
      obtain ⟨_,_,_,d3,d4,_,_⟩:=hp.seven (i:=x) (by omega)
      exact ⟨hp.frozen _,hp.frozen _,⟨_,d3⟩,⟨_,d4⟩⟩
     obtain ⟨v3,d3⟩:=d3
     obtain ⟨v4,d4⟩:=d4
     gi_wp2
     go_roundw
     case rel=>exact ⟨q+1,by omega,by go_num,S3.out⟩
     case measure=>simp [intOf];omega
    ·have e:q=m:=by omega
     subst e
     have S4:Hid (KeepsFrom W0.heap.size W wr/\BSC (CtxK n I X (n-(k+1))) w wr g n c I X R AA CC H):=⟨S2.out.2.1.from _,S2.out.1.to (fun Bd Lb h _=>by rw [show n-(k+1)=i by omega];rw [<- HM.out] at h;exact h.done)⟩
     gi_wp2
     exact S4.out
  ·have i9:(I i == 9)=false:=by simp [h9]
   have S1:Hid (BSC (CtxQ n I X i b lb 0) w (W.alloc (.cells #[.bool b,.string lb] 85)) g n c I X R AA CC H/\KeepsOthers W (W.alloc (.cells #[.bool b,.string lb] 85))/\(W.alloc (.cells #[.bool b,.string lb] 85)).heap[W.heap.size]?=some (.cells #[.bool b,.string lb] 85 (0,0))):=⟨HS.out.alloc _,KeepsOthers.alloc _ _,World.alloc_heap_new W _⟩
   gi_wp2
   gi_loopw [24] (fun j wr=>∃q:Nat,q<=m/\j=.int .i64 q/\BSC (CtxQ n I X i b lb q) w wr g n c I X R AA CC H/\KeepsOthers W wr/\wr.heap[W.heap.size]?=some (.cells #[.bool b,.string lb] 85 (0,0))) (fun j _=>m-(intOf j).toNat)
   case atStart=>exact ⟨0,Nat.zero_le _,rfl,S1.out.1,S1.out.2.1,S1.out.2.2⟩
   case round=>
    obtain ⟨q,hq,rfl,hs2,hko,hcx⟩:=hrel
    have S2:Hid (BSC (CtxQ n I X i b lb q) w wr g n c I X R AA CC H/\KeepsOthers W wr/\wr.heap[W.heap.size]?=some (.cells #[.bool b,.string lb] 85 (0,0))):=⟨hs2,hko,hcx⟩
    have x0:wr.cell? ⟨w.heap.size,0,none⟩=some (.slice (some ⟨g,0,none⟩) n c):=by simp [World.cell?,hs2.b0]
    have y0:wr.cell? ⟨W.heap.size,0,none⟩=some (.bool b):=by simp [World.cell?,hcx]
    have y1:wr.cell? ⟨W.heap.size,1,none⟩=some (.string lb):=by simp [World.cell?,hcx]
    clear hs2 hko hcx
    by_cases hql:q<m
    ·have iq:(q:Int)<((m:Nat):Int):=by omega
     have iq0:(0:Int)<=(q:Int):=by omega
     have hql2:q<arOf (I i):=by rw [HM.out];exact hql
     have hxl:=opf_lt HOK.out hi (arI_le I i) (j:=q) hql2
     obtain ⟨gb,go,hA,hcx⟩:∃gb go,AA i=some ⟨gb,go,none⟩/\wr.cell? ⟨gb,go+q,none⟩=some (.int .i64 ((opf (arI I) i q:Nat):Int)):=by
      rcases HO.out wr S2.out.1.gr i hi with h|⟨gb,go,e,hc⟩
      ·rw [HM.out] at h;omega
      ·exact ⟨gb,go,e,hc q hql2⟩
     rw [hA]
     have S3:Hid (BSC (CtxQ n I X i b lb (q+1)) w ((wr.setCell ⟨g,opf (arI I) i q*7+3,none⟩ (.bool b)).setCell ⟨g,opf (arI I) i q*7+4,none⟩ (.string lb)) g n c I X R AA CC H/\KeepsOthers W ((wr.setCell ⟨g,opf (arI I) i q*7+3,none⟩ (.bool b)).setCell ⟨g,opf (arI I) i q*7+4,none⟩ (.string lb))/\((wr.setCell ⟨g,opf (arI I) i q*7+3,none⟩ (.bool b)).setCell ⟨g,opf (arI I) i q*7+4,none⟩ (.string lb)).heap[W.heap.size]?=some (.cells #[.bool b,.string lb] 85 (0,0))):=by
      refine ⟨S2.out.1.set hgl _ _ _ (fun Bd Lb h=>?_),(S2.out.2.1.trans (KeepsOthers.setCell _ _ _)).trans (KeepsOthers.setCell _ _ _),?_⟩
      ·have q9:=h.step HOK.out hi hql2
       have eB:dnB (I i) b=b:=by unfold dnB;simp [h9]
       have eG:dnG (I i) (X i) lb=lb:=by unfold dnG;simp [h9]
       rw [eB,eG] at q9
       exact q9
      ·rw [Below.heap_setCell _ _ _ _ (by show W.heap.size≠g;omega),Below.heap_setCell _ _ _ _ (by show W.heap.size≠g;omega)]
       exact S2.out.2.2
     generalize opf (arI I) i q=x at hxl hcx S3
     have ix:(x:Int)<(n:Int):=by omega
     have ix0:(0:Int)<=(x:Int):=by omega
     obtain ⟨f3,f4,d3,d4⟩:wr.frozen? ⟨g,x*7+3,none⟩=false/\wr.frozen? ⟨g,x*7+4,none⟩=false/\(∃v,wr.cell? ⟨g,x*7+3,none⟩=some v)/\(∃v,wr.cell? ⟨g,x*7+4,none⟩=some v):=by
      obtain ⟨Bd,Lb,hp⟩:=S2.out.1.pl.any
      obtain ⟨_,_,_,d3,d4,_,_⟩:=hp.seven (i:=x) (by omega)
      exact ⟨hp.frozen _,hp.frozen _,⟨_,d3⟩,⟨_,d4⟩⟩
     obtain ⟨v3,d3⟩:=d3
     obtain ⟨v4,d4⟩:=d4
     gi_wp2
     go_roundw
     case rel=>exact ⟨q+1,by omega,by go_num,S3.out⟩
     case measure=>simp [intOf];omega
    ·have e:q=m:=by omega
     subst e
     have S4:Hid (KeepsFrom W0.heap.size W wr/\BSC (CtxK n I X (n-(k+1))) w wr g n c I X R AA CC H):=⟨S2.out.2.1.from _,S2.out.1.to (fun Bd Lb h _=>by rw [show n-(k+1)=i by omega];rw [<- HM.out] at h;exact h.done)⟩
     gi_wp2
     exact S4.out
 case done=>
  rintro D W hD hs hK
  rw [Nat.sub_self] at hs
  gi_wp2
  refine ⟨by simp,.inl ⟨_,_,rfl,run_takeDeferred hK,?_⟩⟩
  have hq:=hs.kept (grownBy_putObj' W D (.deferred none)) (fun r e=>by cases e;exact ⟨hD,_,hK,rfl⟩) (by omega)
  exact ⟨_,results_none rfl _ _ _,rfl,hq.pl,hq.gr⟩
def CtxC (n:Nat) (I:Nat->Int) (X:Nat->ByteArray) (Bd:Nat->Bool) (Lb:Nat->ByteArray):Prop:=CtxK n I X 0 Bd Lb
theorem bind_ctx:BindOk CtxC:=by
 intro g n c B I X R AA CC H w hP hO hcap hok hn hn0 hB
 refine (callsIn_wide.1 (bindC_in Fence.wide 6 trivial trivial trivial rfl (by omega) g n c B I X R AA CC H w hP hO hcap hok hn hn0)).mono ?_
 rintro e w' ⟨he,⟨Bd,Lb,hC,hp⟩,hg⟩
 exact ⟨he,Bd,Lb,hC,hp,hg⟩
theorem readPath_c (a:Option Addr) (n c:Nat) (I:Nat->Int) (X R:Nat->ByteArray) (w:World) (h:RdN w a n I X R) (hn:n<=1048576) (hc:n<=c) (hcm:c<=9223372036854775807) :
  Calls Tryz.prog 32 #[.agg #[.slice a n c]] w (PathRet (CtxC n I X) w n I X R):=readPath_any CtxC measure_any bind_ctx last_any a n c I X R w h hn hc hcm
end Go.Proofs.YtpaomghibppgkaaGreat
namespace Go.Proofs.YtpaomghibppgkaaGreat
open Go.RowKit Go.Deep

theorem OwnTn.low {w:World} {B B' g n:Nat} {N:Nat->Tn} {KA DA:Nat->Option Addr} {KC DC:Nat->Nat} (q:OwnTn w B g n N KA DA KC DC) (h:B'<=B):OwnTn w B' g n N KA DA KC DC:=by
 have hle:=q.le
 exact ⟨by omega,q.row,fun j hj=>(q.keys j hj).mono h,fun j hj=>(q.kids j hj).mono h,q.apartK,q.apartD⟩
theorem OwnTn.wit {w w' : World} {B T g n:Nat} {N:Nat->Tn} {KA DA:Nat->Option Addr} {KC DC:Nat->Nat} (q:OwnTn w B g n N KA DA KC DC) (hT:TnB T g n N KA DA B) (hk:∀b,B<=b->b<T->b<w.heap.size->w'.heap[b]?=w.heap[b]?):OwnTn w' B g n N KA DA KC DC:=by
 refine ⟨q.le,q.row.of_block (hk g hT.1 hT.2.1 q.row.lt),fun i hi=>?_,fun i hi=>?_,q.apartK,q.apartD⟩
 ·by_cases h0:(N i).kn=0
  ·exact .inl h0
  ·obtain ⟨gi,hA,hgi,hri⟩:=(q.keys i hi).resolve_left h0
   have:=hT.2.2.1 i hi h0 gi (by rw [hA];rfl)
   exact .inr ⟨gi,hA,hgi,hri.of_block (hk gi this.1 this.2 hri.lt)⟩
 ·by_cases h0:(N i).dn=0
  ·exact .inl h0
  ·obtain ⟨gi,hA,hgi,hri⟩:=(q.kids i hi).resolve_left h0
   have:=hT.2.2.2 i hi h0 gi (by rw [hA];rfl)
   exact .inr ⟨gi,hA,hgi,hri.of_block (hk gi this.1 this.2 hri.lt)⟩
def OwnIr (w:World) (B g n j k:Nat) (M:Nat->Nat) (T:Nat->Nat->Tn) (R:Nat->Nat):Prop:=
 g<B/\B<=R 0/\R k<=w.heap.size/\(∀i i',i<=i'->i'<=k->R i<=R i')/\∃cur:Array Value,Bx w g 68 cur/\cur.size=n/\∀i,j<=i->i<k->∃gi KA DA KC DC,cur[i]?=some (.slice (some ⟨gi,0,none⟩) (M i) (M i))/\OwnTn w (R i) gi (M i) (T i) KA DA KC DC/\TnB (R (i+1)) gi (M i) (T i) KA DA (R i)
theorem OwnIr.rd {w:World} {B g n:Nat} {M:Nat->Nat} {T:Nat->Nat->Tn} {R:Nat->Nat} (h:OwnIr w B g n 0 n M T R):RdIx w (some ⟨g,0,none⟩) n M T:=by
 obtain ⟨_,_,_,_,cur,h1,h2,h3⟩:=h
 refine .inr ⟨g,0,rfl,fun i hi=>?_⟩
 obtain ⟨gi,KA,DA,KC,DC,q1,q2,_⟩:=h3 i (Nat.zero_le _) hi
 exact ⟨some ⟨gi,0,none⟩,M i,by rw [Nat.zero_add,h1.cell i];exact q1,q2.rd⟩
theorem OwnIr.put {w w1:World} {B g n k:Nat} {M:Nat->Nat} {T:Nat->Nat->Tn} {R:Nat->Nat} (h:OwnIr w B g n 0 k M T R) (hk:k<n) (hb:Below w.heap.size w w1) {gk:Nat} {KA DA:Nat->Option Addr} {KC DC:Nat->Nat} (ho:OwnTn w1 w.heap.size gk (M k) (T k) KA DA KC DC):∃R',OwnIr (w1.setCell ⟨g,k,none⟩ (.slice (some ⟨gk,0,none⟩) (M k) (M k))) B g n 0 (k+1) M T R':=by
 obtain ⟨hg,hB,hR,hm,cur,h1,h2,h3⟩:=h
 have h1' : Bx w1 g 68 cur:=h1.below hb
 have hs:=h1'.set k (.slice (some ⟨gk,0,none⟩) (M k) (M k))
 have hz:=hb.size
 have hR0:=hm 0 k (Nat.zero_le _) (Nat.le_refl _)
 have hbd:∀i',i'<=k->R i'<=w1.heap.size:=fun i' hi=>by
  have:=hm i' k hi (Nat.le_refl _)
  omega
 obtain ⟨R',hR'⟩:∃R' : Nat->Nat,∀i,R' i=if i<=k then R i else w1.heap.size:=⟨_,fun _=>rfl⟩
 refine ⟨R',hg,by rw [hR',if_pos (Nat.zero_le _)];exact hB,by rw [hR',if_neg (by omega),World.size_setCell];exact Nat.le_refl _,fun i i' hi hi'=>?_,_,hs,by simpa using h2,fun i _ hi=>?_⟩
 ·rw [hR',hR']
  by_cases e:i'<=k
  ·rw [if_pos (by omega),if_pos e]
   exact hm i i' hi e
  ·rw [if_neg e]
   by_cases e2:i<=k
   ·rw [if_pos e2];exact hbd i e2
   ·rw [if_neg e2];exact Nat.le_refl _
 ·by_cases e:i=k
  ·subst e
   have q:=(ho.setO (p:=⟨g,i,none⟩) (by show g<w.heap.size;omega) (.slice (some ⟨gk,0,none⟩) (M i) (M i))).low hR
   have qb:=q.bound
   rw [World.size_setCell] at qb
   refine ⟨gk,KA,DA,KC,DC,by simp [h2,hk],?_,?_⟩
   ·rw [hR',if_pos (Nat.le_refl _)];exact q
   ·rw [hR',hR',if_neg (by omega),if_pos (Nat.le_refl _)];exact qb
  ·obtain ⟨gi,KA',DA',KC',DC',q1,q2,q3⟩:=h3 i (Nat.zero_le _) (by omega)
   have h0i:=hm 0 i (Nat.zero_le _) (by omega)
   refine ⟨gi,KA',DA',KC',DC',?_,?_,?_⟩
   ·rw [Array.getElem?_setIfInBounds_ne (by omega)]
    exact q1
   ·rw [hR',if_pos (by omega)]
    exact (q2.und hb).setO (p:=⟨g,k,none⟩) (by show g<R i;omega) _
   ·rw [hR',hR',if_pos (by omega),if_pos (by omega)]
    exact q3
theorem OwnIr.setO {w:World} {B g n:Nat} {M:Nat->Nat} {T:Nat->Nat->Tn} {R:Nat->Nat} (h:OwnIr w B g n 0 n M T R) {p:Addr} (hp:p.block<g) (v:Value):OwnIr (w.setCell p v) B g n 0 n M T R:=by
 obtain ⟨hg,hB,hR,hm,cur,h1,h2,h3⟩:=h
 refine ⟨hg,hB,by rw [World.size_setCell];exact hR,hm,cur,(Below.heap_setCell _ _ _ _ (show g≠p.block by omega)).trans h1,h2,fun i h0 hi=>?_⟩
 obtain ⟨gi,KA',DA',KC',DC',q1,q2,q3⟩:=h3 i h0 hi
 have h0i:=hm 0 i (Nat.zero_le _) (by omega)
 exact ⟨gi,KA',DA',KC',DC',q1,q2.setO (by omega) _,q3⟩
theorem OwnIr.below {w w' : World} {B g n:Nat} {M:Nat->Nat} {T:Nat->Nat->Tn} {R:Nat->Nat} (h:OwnIr w B g n 0 n M T R) (hb:Below w.heap.size w w'):OwnIr w' B g n 0 n M T R:=by
 obtain ⟨hg,hB,hR,hm,cur,h1,h2,h3⟩:=h
 refine ⟨hg,hB,Nat.le_trans hR hb.size,hm,cur,h1.below hb,h2,fun i h0 hi=>?_⟩
 obtain ⟨gi,KA',DA',KC',DC',q1,q2,q3⟩:=h3 i h0 hi
 exact ⟨gi,KA',DA',KC',DC',q1,q2.und hb,q3⟩
theorem OwnIr.next {w w' : World} {B g n j:Nat} {M:Nat->Nat} {T:Nat->Nat->Tn} {R:Nat->Nat} (h:OwnIr w B g n j n M T R) (hj:j<n) (hw:WiT (R j) (R (j+1)) w w'):OwnIr w' B g n (j+1) n M T R:=by
 obtain ⟨hg,hB,hR,hm,cur,h1,h2,h3⟩:=h
 have h0j:=hm 0 j (Nat.zero_le _) (by omega)
 refine ⟨hg,hB,Nat.le_trans hR hw.2.2.2.1,hm,cur,(hw.2.2.2.2 g h1.lt (.inl (by omega))).trans h1,h2,fun i h0 hi=>?_⟩
 obtain ⟨gi,KA',DA',KC',DC',q1,q2,q3⟩:=h3 i (by omega) hi
 have hji:=hm (j+1) i h0 (by omega)
 exact ⟨gi,KA',DA',KC',DC',q1,q2.wit q3 (fun b b1 b2 b3=>hw.2.2.2.2 b b3 (.inr (by omega))),q3⟩

set_option maxHeartbeats 2000000 in
theorem toTreeR_any (a:Option Addr) (m c:Nat) (M:Nat->Nat) (T:Nat->Nat->Tn) (w:World) (h:RdIx w a m M T) (hm:m<=1048576) (hN:IxFit m M T) :
  Calls Tryz.prog 31 #[.slice a m c] w fun e w'=>e=.returned (.slice (some ⟨w.heap.size,0,none⟩) m m)/\(∃R,OwnIr w' (w.heap.size+1) w.heap.size m 0 m M T R)/\Below w.heap.size w w':=by
 have hmk:∀w:World,(Instr.makeSlice 44 (.int .i64 (m:Int)) (.int .i64 (m:Int))).run Tryz.prog w=.ok (.slice (some ⟨w.heap.size,0,none⟩) m m) (w.alloc (.cells (madeCells #[.slice none 0 0] m) 68)):=by
  intro w
  obtain ⟨i0,hi,hz0,hz1,hz2⟩:=info_parts Tryz.info68
  have:=run_make (P:=Tryz.prog) w 44 68 i0 _ Tryz.underlying44 hi hz0 .i64 .i64 m m (by omega) (by omega) (by rw [hz2];omega) (by omega)
  rw [hz1,show (Value.agg #[.slice none 0 0]).cells=#[.slice none 0 0] from rfl,Nat.mul_one] at this
  simpa using this
 have H0:Hid (∃R,OwnIr (w.alloc (.cells (madeCells #[.slice none 0 0] m) 68)) (w.heap.size+1) w.heap.size m 0 0 M T R):=⟨fun _=>w.heap.size+1,by omega,Nat.le_refl _,by simp,fun _ _ _ _=>Nat.le_refl _,_,Bx.new w _ 68,by simp [madeCells],fun i _ hi=>absurd hi (Nat.not_lt_zero _)⟩
 have HR:Hid (RdIx w a m M T/\IxFit m M T):=⟨h,hN⟩
 clear h hN
 go_enter Tryz.func31,Tryz.ntmps31
 go_wp2
 go_loopw [4] (fun i wr=>∃(k:Nat),k<=m/\i=.int .i64 k/\(∃R,OwnIr wr (w.heap.size+1) w.heap.size m 0 k M T R)/\Below w.heap.size w wr) (fun i _=>m-(intOf i).toNat)
 case atStart=>exact ⟨0,Nat.zero_le _,rfl,H0.out,below_alloc _ _⟩
 case round=>
  obtain ⟨k,hk,rfl,hown,hbel⟩:=hrel
  clear H0
  by_cases hlt:k<m
  ·have hne:¬ m=0:=by omega
   have h':=HR.out.1.below hbel
   have HB:Hid (Below w.heap.size w wr):=hbel
   have HO:Hid (∃R,OwnIr wr (w.heap.size+1) w.heap.size m 0 k M T R):=hown
   have hsz:=hbel.size
   rcases h' with h' | ⟨b,o,rfl,hc⟩
   ·exact absurd h' hne
   obtain ⟨ai,ci,c0,c4⟩:=hc k hlt
   have HL:=HR.out.2 k hlt
   have HK:Hid (RdTn wr ai (M k) (T k)):=c4
   clear hc hbel hown hmk c4
   go_wp2_with fail
   refine (toTree_any ai (M k) ci (T k) _ HK.out HL.1 HL.2).mono ?_
   rintro e w1 ⟨gk,KA,DA,KC,DC,rfl,hgk,ho1,hb1⟩
   obtain ⟨R,_,_,_,_,cur,q1,q2,_⟩:=HO.out
   have q3:Bx w1 w.heap.size 68 cur:=q1.below hb1
   obtain ⟨u0,hu0⟩:∃u0,cur[k]?=some u0:=⟨_,Array.getElem?_eq_getElem (by omega)⟩
   have hc1:w1.cell? ⟨w.heap.size,k,none⟩=some u0:=by rw [q3.cell k];exact hu0
   have hf1:=q3.frozen k
   have hl1:=q3.lt
   have HX:Hid ((∃R,OwnIr (w1.setCell ⟨w.heap.size,k,none⟩ (.slice (some ⟨gk,0,none⟩) (M k) (M k))) (w.heap.size+1) w.heap.size m 0 (k+1) M T R)/\Below w.heap.size w (w1.setCell ⟨w.heap.size,k,none⟩ (.slice (some ⟨gk,0,none⟩) (M k) (M k)))):=by
    obtain ⟨R,hO⟩:=HO.out
    exact ⟨hO.put hlt hb1 ho1,(HB.out.trans (hb1.mono hsz)).setCell (Nat.le_refl _) _⟩
   clear ho1 hb1 HO HB c0 q1 q2 q3 hu0
   go_wp2
   go_roundw
   case rel=>exact ⟨k+1,by omega,by go_num,HX.out⟩
   case measure=>simp [intOf];omega
  ·have e:k=m:=by omega
   subst e
   have HO:Hid (∃R,OwnIr wr (w.heap.size+1) w.heap.size k 0 k M T R):=hown
   clear hown
   go_wp2
   go_ret
   exact ⟨rfl,HO.out,hbel⟩

set_option maxHeartbeats 400000 in
theorem toIndexR_any (a:Option Addr) (m c:Nat) (M:Nat->Nat) (T:Nat->Nat->Tn) (w:World) (h:RdIx w a m M T) (hm:m<=1048576) (hN:IxFit m M T) :
  Calls Tryz.prog 10 #[.agg #[.slice a m c]] w fun e w'=>∃g R,e=.returned (.agg #[.slice (some ⟨g,0,none⟩) m m])/\w.heap.size<=g/\OwnIr w' (g+1) g m 0 m M T R/\Below w.heap.size w w':=by
 have HH:Hid ((∀o1 o2 o3,Below w.heap.size w (((w.alloc o1).alloc o2).alloc o3))/\(∀o1 o2 o3,(((w.alloc o1).alloc o2).alloc o3).heap.size=w.heap.size+3)/\RdIx w a m M T/\IxFit m M T):=⟨fun o1 o2 o3=>(((below_alloc _ _).alloc (by simp) _).alloc (by simp;omega) _),fun o1 o2 o3=>by simp,h,hN⟩
 clear h hN
 go_enter Tryz.func10,Tryz.ntmps10
 go_wp2_with fail
 refine (toTreeR_any a m c M T _ (HH.out.2.2.1.below (HH.out.1 _ _ _)) hm HH.out.2.2.2).mono ?_
 rintro e w1 ⟨rfl,⟨R,ho1⟩,hb1⟩
 rw [HH.out.2.1] at ho1 hb1 ⊢
 have hz:w.heap.size+2<w1.heap.size:=by have:=hb1.size;rw [HH.out.2.1] at this;omega
 have hc:∀b o,b<w.heap.size+3->w1.cell? ⟨b,o,none⟩=_:=fun b o hb=>hb1.cell (p:=⟨b,o,none⟩) hb
 have hfz:∀b o,b<w.heap.size+3->w1.frozen? ⟨b,o,none⟩=_:=fun b o hb=>hb1.frozen (p:=⟨b,o,none⟩) hb
 have HE:Hid (OwnIr w1 (w.heap.size+3+1) (w.heap.size+3) m 0 m M T R/\Below w.heap.size w w1):=⟨ho1,(HH.out.1 _ _ _).trans (hb1.mono (by omega))⟩
 clear ho1 hb1
 go_wp2
 refine bodyPost_ret (v:=.agg #[.slice (some ⟨w.heap.size+3,0,none⟩) m m]) (by simp [results,Tryz.results10,go_sem,hc]) rfl ⟨_,R,rfl,by omega,?_,?_⟩
 ·exact (HE.out.1.setO (p:=⟨w.heap.size+2,0,none⟩) (by simp) _).setO (p:=⟨w.heap.size+1,0,none⟩) (by simp) _
 ·exact (HE.out.2.setCell (by simp;try omega) _).setCell (by simp;try omega) _

theorem sumI_le (M:Nat->Nat) (T:Nat->Nat->Tn):∀(m j:Nat),j<=m->sumI M T j<=sumI M T m
 | 0,j,h=>by
  have:j=0:=by omega
  subst this
  exact Nat.le_refl _
 | m+1,j,h=>by
  by_cases e:j=m+1
  ·subst e;exact Nat.le_refl _
  ·have:=sumI_le M T m j (by omega)
   have e2:sumI M T (m+1)=sumI M T m+M m+sumT (T m) (M m):=rfl
   omega
theorem WiT.wide {B T B' T' : Nat} {w w' : World} (h:WiT B T w w') (h1:B'<=B) (h2:T<=T'):WiT B' T' w w':=⟨h.1,h.2.1,h.2.2.1,h.2.2.2.1,fun k hk ho=>h.2.2.2.2 k hk (by omega)⟩

end Go.Proofs.YtpaomghibppgkaaGreat
