import Derived.Test.YtbmffmifemebmaaGreatDoorNz6
import Derived.Test.YtbmffmifemebmaaGreatDoorNz1
import Derived.Test.YtbmffmifemebmaaGreatDoorNz5
import Derived.Deep.CutBlock
import Derived.Deep.QuietTactic
import Derived.BigQuiet
set_option linter.unusedVariables false
set_option maxRecDepth 100000
namespace Go.Proofs.YtbmffmifemebmaaGreatDoor
open Go.RowKit Go.Deep

theorem infoTr:(Tryz.prog.info? 69).map (fun i=>(i.zero,i.size,i.bytes))=some (some (.agg #[.slice none 0 0]),1,24):=by kernel_rfl
theorem underTrs:Tryz.prog.underlying 31=some (.slice 69):=by kernel_rfl
theorem cellOf0 {w:World} {b:Nat} {u:Value} {t:TypeId} (h:w.heap[b]?=some (.cells #[u] t)):w.cell? ⟨b,0,none⟩=some u:=by simp [World.cell?,h]

theorem step_new_impl {ops:Array Oper} {o:Oper} {a:Act} {w:World} {K:Act->World->Prop} {Q:Exit->Act->World->Prop} {E:Prop} (hw:Region.wanted o (yielded ops a.tmps)=true)
  (ho:o.op=.call { callee:=.value (.func 48),args:=#[],argTypes:=#[] })
  (h:Calls Tryz.prog 48 #[] w fun e w'=>∃u,e=.returned u/\K (a.put o.dst u) w') :
  if Region.wanted o (yielded ops a.tmps)=true then Oper.wp Tryz.prog o a w K Q else E:=by
 rw [if_pos hw]
 unfold Oper.wp
 simp [execOp,ho,resolve,invoke,go_sem]
 refine h.mono ?_
 rintro e w' ⟨u,rfl,hk⟩
 exact hk

theorem step_new_spec {ops:Array Oper} {o:Oper} {a:Act} {w:World} {K:Act->World->Prop} {Q:Exit->Act->World->Prop} {E:Prop} (hw:Region.wanted o (yielded ops a.tmps)=true)
  (ho:o.op=.call { callee:=.value (.func 40),args:=#[],argTypes:=#[] })
  (h:Calls Tryz.prog 40 #[] w fun e w'=>∃u,e=.returned u/\K (a.put o.dst u) w') :
  if Region.wanted o (yielded ops a.tmps)=true then Oper.wp Tryz.prog o a w K Q else E:=by
 rw [if_pos hw]
 unfold Oper.wp
 simp [execOp,ho,resolve,invoke,go_sem]
 refine h.mono ?_
 rintro e w' ⟨u,rfl,hk⟩
 exact hk

theorem ownsRow_form1 {W:World} {B t s n:Nat} {u:Value} {xs:List Value} (h:W.ownsRow B t s u n xs) (hn:n≠0):∃g cap,u=.slice (some ⟨g,0,none⟩) n cap:=by
 rcases h.2 with ⟨_,h0⟩|⟨g,cap,cur,hv,_⟩
 ·exact absurd h0 hn
 ·exact ⟨g,cap,hv⟩

theorem step_bslice {ops:Array Oper} {o:Oper} {a:Act} {w:World} {K:Act->World->Prop} {Q:Exit->Act->World->Prop} {E:Prop} {x:Nat} {u:Value} (hw:Region.wanted o (yielded ops a.tmps)=true)
  (ho:o.op=.buildSlice 31 1 #[(0,.tmp x)]) (hx:a.tmps[x]?.getD undef=.agg #[u])
  (h:K (a.put o.dst (.slice (some ⟨w.heap.size,0,none⟩) 1 1)) (w.alloc (.cells #[u] 69))) :
  if Region.wanted o (yielded ops a.tmps)=true then Oper.wp Tryz.prog o a w K Q else E:=by
 rw [if_pos hw]
 unfold Oper.wp
 simp [execOp,ho,hx,go_sem]
 exact h

theorem step_append_tree {ops:Array Oper} {o:Oper} {a:Act} {w:World} {K:Act->World->Prop} {Q:Exit->Act->World->Prop} {E:Prop} (hgd:o.guard=none) (x y:Operand)
  (ho:o.op=.call { callee:=.builtin .append,args:=#[x,y],argTypes:=#[31,31] })
  (B k:Nat) (v:Value) (xs:List Value) (hx:a.eval x=v) (hown:w.ownsRow B 69 1 v k xs) (b c:Nat) (u:Value) (hy:a.eval y=.slice (some ⟨b,0,none⟩) 1 c)
  (hc:w.cell? ⟨b,0,none⟩=some u) (h0:u.oneCell'=true) (hk:k<=1048576) (hB:B<=w.heap.size)
  (h:∀v' w',w'.ownsRow B 69 1 v' (k+1) (xs++[u])->w.grownBy w' v.ownBlock->K (a.put o.dst v') w') :
  if Region.wanted o (yielded ops a.tmps)=true then Oper.wp Tryz.prog o a w K Q else E:=by
 have hw:Region.wanted o (yielded ops a.tmps)=true:=by simp [Region.wanted,hgd]
 rw [if_pos hw]
 obtain ⟨i0,hi,hz0,hz1,hz2⟩:=info_parts infoTr
 refine wp_append_own w x y 31 ho B 69 i0 _ 1 24 underTrs hi hz0 hz1 hz2 rfl (by decide) v k xs hx hown ⟨b,0,none⟩ 1 c [u] hy rfl ?_ ?_ (by unfold maxLen;omega) (by omega) hB (fun v' w' q1 q2 _=>h v' w' q1 q2)
 ·intro j u' hj
  match j,hj with
  | 0,hj=>simp at hj;subst hj;simpa [Addr.add] using hc
  | j+1,hj=>simp at hj
 ·intro u' hu
  simp at hu
  subst hu
  exact h0

structure IxSt (w wr:World) (k:Nat) (v:Value) (G C:Nat->Nat) (A:Nat->Option Addr):Prop where
 box:wr.heap[w.heap.size+1]?=some (.cells #[v] 33)
 res:wr.heap[w.heap.size]?=some (.cells #[.slice none 0 0] 33)
 row:wr.ownsRow (w.heap.size+2) 69 1 v k ((List.range k).map fun i=>.slice (some ⟨G i,0,none⟩) 1 (C i))
 each:∀i,i<k->w.heap.size+2<=G i/\rowIn wr (G i) 213 4 (leafCell (A i))
 apart:∀i,i<k->∀j,j<k->G i=G j->i=j
 below:Below w.heap.size w wr

structure IxOk (w:World) (B g:Nat) (G C:Nat->Nat) (A:Nat->Option Addr):Prop where
 le:B<=g
 row:rowIn w g 69 6 (fun i=>.slice (some ⟨G i,0,none⟩) 1 (C i))
 each:∀i,i<6->B<=G i/\rowIn w (G i) 213 4 (leafCell (A i))
 apart:∀i,i<6->∀j,j<6->G i=G j->i=j
def RetIx (w:World) (e:Ending) (w' : World):Prop:=∃g cap G C A,e=.returned (.agg #[.slice (some ⟨g,0,none⟩) 6 cap])/\IxOk w' w.heap.size g G C A/\Below w.heap.size w w'

theorem IxSt.start (w:World):IxSt w ((w.alloc (.cells #[.slice none 0 0] 33)).alloc (.cells #[.slice none 0 0] 33)) 0 (.slice none 0 0) (fun _=>0) (fun _=>0) (fun _=>none):=by
 have e1:(w.alloc (.cells #[.slice none 0 0] 33)).heap.size=w.heap.size+1:=by simp
 have b0:=blk_alloc_new w (.cells #[.slice none 0 0] 33)
 have b1:=blk_alloc_new (w.alloc (.cells #[.slice none 0 0] 33)) (.cells #[.slice none 0 0] 33)
 rw [e1] at b1
 exact ⟨b1,((below_alloc _ _).block _ (by omega)).trans b0,World.ownsRow_nil _ _ _ _,fun i hi=>absurd hi (Nat.not_lt_zero _),fun i hi=>absurd hi (Nat.not_lt_zero _),(below_alloc _ _).alloc (by simp) _⟩

section
variable {w wr:World} {k:Nat} {v:Value} {G C:Nat->Nat} {A:Nat->Option Addr}
theorem IxSt.boxCell (h:IxSt w wr k v G C A):wr.cell? ⟨w.heap.size+1,0,none⟩=some v:=cellOf0 h.box
theorem IxSt.later (h:IxSt w wr k v G C A) {w2:World} (hb:Below wr.drew.heap.size wr.drew w2):Below wr.heap.size wr w2:=(Below.refl _ _).drew.trans hb
theorem ownsRow_block {W W' : World} {B t s n:Nat} {u:Value} {xs:List Value} (h:W.ownsRow B t s u n xs) (hb:∀g,g<W.heap.size->W'.heap[g]?=W.heap[g]?):W'.ownsRow B t s u n xs:=by
 refine ⟨h.1,?_⟩
 rcases h.2 with h0|⟨g,cap,cur,hv,hg,hh,h1,h2,h3,h4⟩
 ·exact Or.inl h0
 ·exact Or.inr ⟨g,cap,cur,hv,hg,(hb g (Array.getElem?_eq_some_iff.1 hh).1).trans hh,h1,h2,h3,h4⟩
theorem IxSt.rowLater (h:IxSt w wr k v G C A) {w2:World} (hb:Below wr.drew.heap.size wr.drew w2) (O:Obj):(w2.alloc O).ownsRow (w.heap.size+2) 69 1 v k ((List.range k).map fun i=>.slice (some ⟨G i,0,none⟩) 1 (C i)):=by
 have hb':=h.later hb
 exact ownsRow_block h.row (fun g hg=>((below_alloc w2 O).block g (Nat.lt_of_lt_of_le hg hb'.size)).trans (hb'.block g hg))
theorem IxSt.own (h:IxSt w wr k v G C A):∀g,v.ownBlock=some g->∃cur fr,wr.heap[g]?=some (.cells cur 69 fr):=by
 intro g hg
 rcases h.row.2 with ⟨hv,_⟩|⟨g',cap,cur,hv,_,hh,_⟩
 ·rw [hv] at hg;simp [Value.ownBlock] at hg
 ·rw [hv] at hg
  simp [Value.ownBlock] at hg
  subst hg
  exact ⟨cur,_,hh⟩
theorem IxSt.keepBlock (h:IxSt w wr k v G C A) {w2 w4:World} (hb:Below wr.drew.heap.size wr.drew w2) (O:Obj) (hg:(w2.alloc O).grownBy w4 v.ownBlock) {b:Nat} (hlt:b<wr.heap.size) (hne:∀cur fr,wr.heap[b]?≠some (.cells cur 69 fr)):w4.heap[b]?=wr.heap[b]?:=by
 have hb':=h.later hb
 refine (hg.block b (by have:=hb'.size;simp;omega) (fun e=>?_)).trans (((below_alloc w2 O).block b (Nat.lt_of_lt_of_le hlt hb'.size)).trans (hb'.block b hlt))
 obtain ⟨cur,fr,q⟩:=h.own b e.symm
 exact hne cur fr q
theorem IxSt.boxLater (h:IxSt w wr k v G C A) {w2 w4:World} (hb:Below wr.drew.heap.size wr.drew w2) (O:Obj) (hg:(w2.alloc O).grownBy w4 v.ownBlock):w4.cell? ⟨w.heap.size+1,0,none⟩=some v/\w4.frozen? ⟨w.heap.size+1,0,none⟩=false:=by
 have q:=((h.keepBlock hb O hg (Array.getElem?_eq_some_iff.1 h.box).1 (fun cur fr q=>by rw [h.box] at q;injection q with q;injection q with _ q;exact absurd q (by decide))).trans h.box)
 exact ⟨cellOf0 q,by simp [World.frozen?,q]⟩

theorem IxSt.step (h:IxSt w wr k v G C A) {w2 w4:World} {g2 c2:Nat} {a2:Option Addr} {v' : Value} (hb:Below wr.drew.heap.size wr.drew w2) (hg2:wr.drew.heap.size<=g2) (hr2:rowIn w2 g2 213 4 (leafCell a2))
  (hg:(w2.alloc (.cells #[.slice (some ⟨g2,0,none⟩) 1 c2] 69)).grownBy w4 v.ownBlock)
  (hown:w4.ownsRow (w.heap.size+2) 69 1 v' (k+1) (((List.range k).map fun i=>.slice (some ⟨G i,0,none⟩) 1 (C i))++[.slice (some ⟨g2,0,none⟩) 1 c2])) :
  IxSt w (w4.setCell ⟨w.heap.size+1,0,none⟩ v') (k+1) v' (fun i=>if i=k then g2 else G i) (fun i=>if i=k then c2 else C i) (fun i=>if i=k then a2 else A i):=by
 have hb':=h.later hb
 have hsz:wr.heap.size<=w4.heap.size:=by have:=hb'.size;have q:=hg.size;simp at q;omega
 have hbx:=(Array.getElem?_eq_some_iff.1 h.box).1
 have hrs:=(Array.getElem?_eq_some_iff.1 h.res).1
 have tne:∀{b:Nat} {cs:Array Value} {t:TypeId} {fr:Nat × Nat},t≠69->wr.heap[b]?=some (.cells cs t fr)->∀cur fr',wr.heap[b]?≠some (.cells cur 69 fr'):=by
  intro b cs t fr ht hh cur fr' q
  rw [hh] at q
  injection q with q
  injection q with _ q
  exact ht q
 have kb:w4.heap[w.heap.size+1]?=some (.cells #[v] 33):=(h.keepBlock hb _ hg hbx (tne (by decide) h.box)).trans h.box
 have kr:w4.heap[w.heap.size]?=some (.cells #[.slice none 0 0] 33):=(h.keepBlock hb _ hg hrs (tne (by decide) h.res)).trans h.res
 have g2lt:g2<w2.heap.size:=hr2.lt
 have k2:rowIn w4 g2 213 4 (leafCell a2):=by
  refine hr2.of_block ?_
  refine (hg.block g2 (by simp;omega) (fun e=>?_)).trans ((below_alloc w2 _).block g2 g2lt)
  obtain ⟨cur,fr,q⟩:=h.own g2 e.symm
  have:=(Array.getElem?_eq_some_iff.1 q).1
  have h9:wr.heap.size<=g2:=hg2
  omega
 have kG:∀i,i<k->rowIn w4 (G i) 213 4 (leafCell (A i)):=fun i hi=>by
  obtain ⟨_,hr⟩:=h.each i hi
  have hlt:=hr.lt
  obtain ⟨cur,hh,h1,h2⟩:=hr
  exact rowIn.of_block (w:=wr) ⟨cur,hh,h1,h2⟩ (h.keepBlock hb _ hg hlt (tne (by decide) hh))
 have hne1:∀{b:Nat} {F:Nat->Value},rowIn w4 b 213 4 F->b≠w.heap.size+1:=by
  rintro b F ⟨cur,hh,_,_⟩ rfl
  rw [kb] at hh
  injection hh with hh
  injection hh with _ hh
  exact absurd hh (by decide)
 have other:∀{b:Nat},b≠w.heap.size+1->(w4.setCell ⟨w.heap.size+1,0,none⟩ v').heap[b]?=w4.heap[b]?:=fun hb=>Below.heap_setCell _ _ _ _ (fun e=>hb e)
 refine ⟨?_,(other (by omega)).trans kr,?_,fun i hi=>?_,fun i hi j hj e=>?_,?_⟩
 ·simp [World.setCell,Array.getElem?_modify,kb]
 ·have hrow:(w4.setCell ⟨w.heap.size+1,0,none⟩ v').ownsRow (w.heap.size+2) 69 1 v' (k+1) (((List.range k).map fun i=>.slice (some ⟨G i,0,none⟩) 1 (C i))++[.slice (some ⟨g2,0,none⟩) 1 c2]):=by
   refine ⟨hown.1,?_⟩
   rcases hown.2 with h0|⟨g,cap,cur,hv,hgg,hh,h1,h2,h3,h4⟩
   ·exact Or.inl h0
   ·exact Or.inr ⟨g,cap,cur,hv,hgg,(other (by omega)).trans hh,h1,h2,h3,h4⟩
  have e:((List.range (k+1)).map fun i=>Value.slice (some ⟨if i=k then g2 else G i,0,none⟩) 1 (if i=k then c2 else C i))=((List.range k).map fun i=>.slice (some ⟨G i,0,none⟩) 1 (C i))++[.slice (some ⟨g2,0,none⟩) 1 c2]:=by
   rw [List.range_succ,List.map_append]
   congr 1
   ·refine List.map_congr_left (fun i hi=>?_)
    have:=List.mem_range.1 hi
    rw [if_neg (by omega),if_neg (by omega)]
   ·simp
  rw [e]
  exact hrow
 ·by_cases e:i=k
  ·subst e
   simp only [if_true]
   have h9:wr.heap.size<=g2:=hg2
   exact ⟨by omega,k2.of_block (other (hne1 k2))⟩
  ·simp only [if_neg e]
   have q:=kG i (by omega)
   exact ⟨(h.each i (by omega)).1,q.of_block (other (hne1 q))⟩
 ·have h9:wr.heap.size<=g2:=hg2
  by_cases e1:i=k
  ·by_cases e2:j=k
   ·omega
   ·simp only [if_pos e1,if_neg e2] at e
    have:=(h.each j (by omega)).2.lt
    omega
  ·by_cases e2:j=k
   ·simp only [if_neg e1,if_pos e2] at e
    have:=(h.each i (by omega)).2.lt
    omega
   ·simp only [if_neg e1,if_neg e2] at e
    exact h.apart i (by omega) j (by omega) e
 ·refine Below.setCell ?_ (by simp) _
  have q:=h.below.trans (hb'.mono h.below.size)
  refine (q.alloc (by have:=q.size;omega) _).grown hg (by have:=q.size;simp;omega) (fun g e=>?_)
  rcases h.row.2 with ⟨hv,_⟩|⟨g',cap,cur,hv,hgg,hh,_⟩
  ·rw [hv] at e;simp [Value.ownBlock] at e
  ·rw [hv] at e
   simp [Value.ownBlock] at e
   omega

theorem IxSt.done (h:IxSt w wr 6 v G C A):wr.cell? ⟨w.heap.size+1,0,none⟩=some v/\wr.cell? ⟨w.heap.size,0,none⟩=some (.slice none 0 0)/\(∀o,wr.frozen? ⟨w.heap.size,o,none⟩=false)/\w.heap.size<wr.heap.size/\∀u,RetIx w (.returned (.agg #[v])) (wr.setCell ⟨w.heap.size,0,none⟩ u):=by
 refine ⟨cellOf0 h.box,cellOf0 h.res,fun o=>by simp [World.frozen?,h.res],(Array.getElem?_eq_some_iff.1 h.res).1,fun u=>?_⟩
 have other:∀{b:Nat},w.heap.size+2<=b->(wr.setCell ⟨w.heap.size,0,none⟩ u).heap[b]?=wr.heap[b]?:=fun hb=>Below.heap_setCell _ _ _ _ (by simp;omega)
 rcases h.row.2 with ⟨_,h0⟩|⟨g,cap,cur,hv,hgg,hh,h1,h2,h3,h4⟩
 ·omega
 ·subst hv
  refine ⟨g,cap,G,C,A,rfl,⟨by omega,⟨cur,(other hgg).trans hh,by omega,fun i hi=>?_⟩,fun i hi=>⟨by have:=(h.each i hi).1;omega,(h.each i hi).2.of_block (other (h.each i hi).1)⟩,h.apart⟩,h.below.setCell (by simp) _⟩
  have e:cur[i]?=(cur.toList.take (6*1))[i]?:=by rw [List.getElem?_take,if_pos (by omega)];simp
  rw [e,h4,List.getElem?_map,List.getElem?_range hi]
  rfl
end

set_option maxHeartbeats 2000000 in
theorem implIx (w:World):Calls Tryz.prog 17 #[] w (RetIx w):=by
 go_enter Tryz.func17,Tryz.ntmps17
 go_wp2
 go_loopw [2] (fun i wr=>∃(k:Nat) (v:Value) (G C:Nat->Nat) (A:Nat->Option Addr),k<=6/\i=.int .i64 k/\IxSt w wr k v G C A) (fun i _=>6-(intOf i).toNat)
 case atStart=>exact ⟨0,_,fun _=>0,fun _=>0,fun _=>none,by omega,rfl,IxSt.start w⟩
 case round=>
  obtain ⟨k,v,G,C,A,hk,rfl,hst⟩:=hrel
  by_cases hlt:k<6
  ·have hki:(k:Int)<6:=by omega
   have HS:Hid (IxSt w wr k v G C A):=hst
   have bc:wr.drew.cell? ⟨w.heap.size+1,0,none⟩=some v:=hst.boxCell
   have bc0:wr.cell? ⟨w.heap.size+1,0,none⟩=some v:=hst.boxCell
   have bz:w.heap.size+1<wr.drew.heap.size:=World.block_lt_of_cell? _ _ bc
   have HZ:Hid (w.heap.size+2<=wr.heap.size):=by have h9:w.heap.size+1<wr.heap.size:=bz;show _<=_;omega
   have HT:Hid (∀(w2:World),Below wr.drew.heap.size wr.drew w2->∀O,(w2.alloc O).ownsRow (w.heap.size+2) 69 1 v k ((List.range k).map fun i=>.slice (some ⟨G i,0,none⟩) 1 (C i))):=fun w2 hb O=>hst.rowLater hb O
   have HK:Hid (∀(w2 w4:World),Below wr.drew.heap.size wr.drew w2->∀O,(w2.alloc O).grownBy w4 v.ownBlock->w4.cell? ⟨w.heap.size+1,0,none⟩=some v/\w4.frozen? ⟨w.heap.size+1,0,none⟩=false):=fun w2 w4 hb O hg=>hst.boxLater hb O hg
   clear hst
   go_wp2
   refine wp_region_late (S:=(fun w'=>w'.cell? ⟨w.heap.size+1,0,none⟩=some v)) 6 (by kernel_rfl) ?_ (fun hHeld=>?_)
   ·((try dsimp only);go_keep)
   refine tk 0 .zero (v:=?_) ?_ ?_
   rotate_left
   ·(intro w h;(try dsimp only at h);go_simp) <;> with_reducible rfl
   simp only [tkp]
   refine tk 1 (.succ .zero) (v:=?_) ?_ ?_
   rotate_left
   ·(intro w h;(try dsimp only at h);go_simp) <;> with_reducible rfl
   simp only [tkp]
   refine tk1 2 (.succ (.succ .zero)) (fun K hK=>?_)
   (refine step_new_impl (by rfl) (by rfl) ?_;refine (implTree_new wr.drew).mono ?_;rintro e w2 ⟨⟨u,rfl,hu⟩,hb2⟩;refine ⟨_,rfl,?_⟩;have yb2:w2.cell? ⟨w.heap.size+1,0,none⟩=some v:=(hb2.cell (p:=⟨w.heap.size+1,0,none⟩) bz).trans bc;obtain ⟨g2,a2,c2,rfl,hg2,hr2⟩:=hu)
   refine hK.out _ _ ?_ (fun hG=>?_)
   ·(intro _;(try dsimp only);go_keep)
   clear hK K
   replace hHeld:=hG (by decide)
   clear hG
   try simp only [tkp]
   refine tk1 3 (.succ (.succ (.succ .zero))) (fun K hK=>?_)
   (refine step_bslice (by rfl) (by rfl) (by rfl) ?_;have yb3:(w2.alloc (.cells #[.slice (some ⟨g2,0,none⟩) 1 c2] 69)).cell? ⟨w.heap.size+1,0,none⟩=some v:=((below_alloc _ _).cell (p:=⟨w.heap.size+1,0,none⟩) (World.block_lt_of_cell? _ _ yb2)).trans yb2)
   refine hK.out _ _ ?_ (fun hG=>?_)
   ·(intro _;(try dsimp only);go_keep)
   clear hK K
   replace hHeld:=hG (by decide)
   clear hG
   try simp only [tkp]
   refine tk1 4 (.succ (.succ (.succ (.succ .zero)))) (fun K hK=>?_)
   (refine step_append_tree (by rfl) (.tmp 5) (.tmp 7) (by rfl) (w.heap.size+2) k v _ (by rfl) (HT.out w2 hb2 _) w2.heap.size 1 _ (by rfl) (cellOf0 (blk_alloc_new _ _)) rfl (by omega) (by have:=hb2.size;have h9:=HZ.out;simp at this ⊢;omega) ?_;intro v' w4 hown4 hgr4;obtain ⟨g4,c4,rfl⟩:=ownsRow_form1 hown4 (by omega);obtain ⟨yb4,yf4⟩:=HK.out w2 w4 hb2 _ hgr4)
   refine hK.out _ _ ?_ (fun hG=>?_)
   ·(intro _;(try dsimp only);go_keep)
   clear hK K
   replace hHeld:=hG (by decide)
   clear hG
   try simp only [tkp]
   refine tk1 5 (.s5 .zero) (fun K hK=>?_)
   go_simp
   refine hK.out _ _ ?_ (fun hG=>?_)
   ·(intro _;(try dsimp only);go_keep)
   clear hK K
   replace hHeld:=hG (by decide)
   clear hG
   try simp only [tkp]
   refine tk1 6 (.s5 (.succ .zero)) (fun K hK=>?_)
   go_simp
   refine hK.out _ _ ?_ (fun hG=>?_)
   ·(intro hne;exact absurd rfl hne)
   clear hK K hG
   refine wpLate_done (by kernel_rfl) ?_ _
   have HN:Hid (IxSt w (w4.setCell ⟨w.heap.size+1,0,none⟩ (.slice (some ⟨g4,0,none⟩) (k+1) c4)) (k+1) (.slice (some ⟨g4,0,none⟩) (k+1) c4) (fun i=>if i=k then g2 else G i) (fun i=>if i=k then c2 else C i) (fun i=>if i=k then a2 else A i)):=HS.out.step hb2 hg2 hr2 hgr4 hown4
   clear hr2 hb2 hown4 hgr4 HT HK HS yb2 yb3 yb4 yf4 bc bc0
   go_wp2
   go_roundw
   case rel=>exact ⟨k+1,_,_,_,_,by omega,by go_num,HN.out⟩
   case measure=>simp [intOf];omega
  ·have e:k=6:=by omega
   subst e
   obtain ⟨g6,c6,rfl⟩:=ownsRow_form1 hst.row (by omega)
   obtain ⟨x0,x1,xf,xz,HR⟩:=hst.done
   have HRR:Hid (∀u,RetIx w (.returned (.agg #[.slice (some ⟨g6,0,none⟩) 6 c6])) (wr.setCell ⟨w.heap.size,0,none⟩ u)):=HR
   clear HR hst
   go_wp2
   refine bodyPost_ret (v:=.agg #[.slice (some ⟨g6,0,none⟩) 6 c6]) (by simp [results,Tryz.results17,go_sem,x1]) rfl (HRR.out _)

set_option maxHeartbeats 2000000 in
theorem specIx (w:World):Calls Tryz.prog 13 #[] w (RetIx w):=by
 go_enter Tryz.func13,Tryz.ntmps13
 go_wp2
 go_loopw [2] (fun i wr=>∃(k:Nat) (v:Value) (G C:Nat->Nat) (A:Nat->Option Addr),k<=6/\i=.int .i64 k/\IxSt w wr k v G C A) (fun i _=>6-(intOf i).toNat)
 case atStart=>exact ⟨0,_,fun _=>0,fun _=>0,fun _=>none,by omega,rfl,IxSt.start w⟩
 case round=>
  obtain ⟨k,v,G,C,A,hk,rfl,hst⟩:=hrel
  by_cases hlt:k<6
  ·have hki:(k:Int)<6:=by omega
   have HS:Hid (IxSt w wr k v G C A):=hst
   have bc:wr.drew.cell? ⟨w.heap.size+1,0,none⟩=some v:=hst.boxCell
   have bc0:wr.cell? ⟨w.heap.size+1,0,none⟩=some v:=hst.boxCell
   have bz:w.heap.size+1<wr.drew.heap.size:=World.block_lt_of_cell? _ _ bc
   have HZ:Hid (w.heap.size+2<=wr.heap.size):=by have h9:w.heap.size+1<wr.heap.size:=bz;show _<=_;omega
   have HT:Hid (∀(w2:World),Below wr.drew.heap.size wr.drew w2->∀O,(w2.alloc O).ownsRow (w.heap.size+2) 69 1 v k ((List.range k).map fun i=>.slice (some ⟨G i,0,none⟩) 1 (C i))):=fun w2 hb O=>hst.rowLater hb O
   have HK:Hid (∀(w2 w4:World),Below wr.drew.heap.size wr.drew w2->∀O,(w2.alloc O).grownBy w4 v.ownBlock->w4.cell? ⟨w.heap.size+1,0,none⟩=some v/\w4.frozen? ⟨w.heap.size+1,0,none⟩=false):=fun w2 w4 hb O hg=>hst.boxLater hb O hg
   clear hst
   go_wp2
   refine wp_region_late (S:=(fun w'=>w'.cell? ⟨w.heap.size+1,0,none⟩=some v)) 6 (by kernel_rfl) ?_ (fun hHeld=>?_)
   ·((try dsimp only);go_keep)
   refine tk 0 .zero (v:=?_) ?_ ?_
   rotate_left
   ·(intro w h;(try dsimp only at h);go_simp) <;> with_reducible rfl
   simp only [tkp]
   refine tk 1 (.succ .zero) (v:=?_) ?_ ?_
   rotate_left
   ·(intro w h;(try dsimp only at h);go_simp) <;> with_reducible rfl
   simp only [tkp]
   refine tk1 2 (.succ (.succ .zero)) (fun K hK=>?_)
   (refine step_new_spec (by rfl) (by rfl) ?_;refine (specTree_new wr.drew).mono ?_;rintro e w2 ⟨⟨u,rfl,hu⟩,hb2⟩;refine ⟨_,rfl,?_⟩;have yb2:w2.cell? ⟨w.heap.size+1,0,none⟩=some v:=(hb2.cell (p:=⟨w.heap.size+1,0,none⟩) bz).trans bc;obtain ⟨g2,a2,c2,rfl,hg2,hr2⟩:=hu)
   refine hK.out _ _ ?_ (fun hG=>?_)
   ·(intro _;(try dsimp only);go_keep)
   clear hK K
   replace hHeld:=hG (by decide)
   clear hG
   try simp only [tkp]
   refine tk1 3 (.succ (.succ (.succ .zero))) (fun K hK=>?_)
   (refine step_bslice (by rfl) (by rfl) (by rfl) ?_;have yb3:(w2.alloc (.cells #[.slice (some ⟨g2,0,none⟩) 1 c2] 69)).cell? ⟨w.heap.size+1,0,none⟩=some v:=((below_alloc _ _).cell (p:=⟨w.heap.size+1,0,none⟩) (World.block_lt_of_cell? _ _ yb2)).trans yb2)
   refine hK.out _ _ ?_ (fun hG=>?_)
   ·(intro _;(try dsimp only);go_keep)
   clear hK K
   replace hHeld:=hG (by decide)
   clear hG
   try simp only [tkp]
   refine tk1 4 (.succ (.succ (.succ (.succ .zero)))) (fun K hK=>?_)
   (refine step_append_tree (by rfl) (.tmp 9) (.tmp 11) (by rfl) (w.heap.size+2) k v _ (by rfl) (HT.out w2 hb2 _) w2.heap.size 1 _ (by rfl) (cellOf0 (blk_alloc_new _ _)) rfl (by omega) (by have:=hb2.size;have h9:=HZ.out;simp at this ⊢;omega) ?_;intro v' w4 hown4 hgr4;obtain ⟨g4,c4,rfl⟩:=ownsRow_form1 hown4 (by omega);obtain ⟨yb4,yf4⟩:=HK.out w2 w4 hb2 _ hgr4)
   refine hK.out _ _ ?_ (fun hG=>?_)
   ·(intro _;(try dsimp only);go_keep)
   clear hK K
   replace hHeld:=hG (by decide)
   clear hG
   try simp only [tkp]
   refine tk1 5 (.s5 .zero) (fun K hK=>?_)
   go_simp
   refine hK.out _ _ ?_ (fun hG=>?_)
   ·(intro _;(try dsimp only);go_keep)
   clear hK K
   replace hHeld:=hG (by decide)
   clear hG
   try simp only [tkp]
   refine tk1 6 (.s5 (.succ .zero)) (fun K hK=>?_)
   go_simp
   refine hK.out _ _ ?_ (fun hG=>?_)
   ·(intro hne;exact absurd rfl hne)
   clear hK K hG
   refine wpLate_done (by kernel_rfl) ?_ _
   have HN:Hid (IxSt w (w4.setCell ⟨w.heap.size+1,0,none⟩ (.slice (some ⟨g4,0,none⟩) (k+1) c4)) (k+1) (.slice (some ⟨g4,0,none⟩) (k+1) c4) (fun i=>if i=k then g2 else G i) (fun i=>if i=k then c2 else C i) (fun i=>if i=k then a2 else A i)):=HS.out.step hb2 hg2 hr2 hgr4 hown4
   clear hr2 hb2 hown4 hgr4 HT HK HS yb2 yb3 yb4 yf4 bc bc0
   go_wp2
   go_roundw
   case rel=>exact ⟨k+1,_,_,_,_,by omega,by go_num,HN.out⟩
   case measure=>simp [intOf];omega
  ·have e:k=6:=by omega
   subst e
   obtain ⟨g6,c6,rfl⟩:=ownsRow_form1 hst.row (by omega)
   obtain ⟨x0,x1,xf,xz,HR⟩:=hst.done
   have HRR:Hid (∀u,RetIx w (.returned (.agg #[.slice (some ⟨g6,0,none⟩) 6 c6])) (wr.setCell ⟨w.heap.size,0,none⟩ u)):=HR
   clear HR hst
   go_wp2
   refine bodyPost_ret (v:=.agg #[.slice (some ⟨g6,0,none⟩) 6 c6]) (by simp [results,Tryz.results13,go_sem,x1]) rfl (HRR.out _)

theorem copyStr_e (a:Option Addr) (w:World) :
  Calls Tryz.prog 254 #[.slice a 0 0] w fun e w'=>e=.returned (.slice none 0 0)/\w'=w:=by
 go_enter Tryz.func254,Tryz.ntmps254
 go_wp2_with (at_builtin;refine wpList_append_none rfl _ _ rfl none 0 0 (Nat.le_refl _) rfl a 0 rfl ?_)
 go_wp2
 go_ret
 exact ⟨rfl,rfl⟩

theorem recount_e (b:Nat) (x:Int) (w:World) (h:Bx w b 158 #[.int .i64 x,.slice none 0 0]) :
  Calls Tryz.prog 255 #[.pointer (some ⟨b,0,none⟩)] w fun e w'=>e=.returned (.tuple #[])/\w'=w.setCell ⟨b,0,none⟩ (.int .i64 0):=by
 have c0:=h.cell 0
 have c1:=h.cell 1
 have f0:=h.frozen 0
 have hl:=h.lt
 simp at c0 c1
 clear h
 go_enter Tryz.func255,Tryz.ntmps255
 go_wp2
 go_end0
 exact ⟨rfl,rfl⟩

theorem leafDepth_e (rb:Nat) (v0 v1 v3 v4:Value) (w:World) (h:Bx w rb 299 #[v0,v1,.int .i64 0,v3,v4]) :
  Calls Tryz.prog 252 #[.pointer (some ⟨rb,0,none⟩),.int .i64 0] w fun e w'=>e=.returned (.bool true)/\w'=w.setCell ⟨rb,2,none⟩ (.int .i64 0):=by
 have c2:=h.cell 2
 have f2:=h.frozen 2
 have hl:=h.lt
 simp at c2
 have c3:=(h.set 2 (.int .i64 0)).cell 2
 simp at c3
 clear h
 go_enter Tryz.func252,Tryz.ntmps252
 go_wp2
 go_ret
 exact ⟨rfl,rfl⟩

theorem passKeys_e (rb:Nat) (a:Option Addr) (w:World) :
  Calls Tryz.prog 253 #[.pointer (some ⟨rb,0,none⟩),.slice a 0 0] w fun e w'=>e=.returned (.bool true)/\w'=w:=by
 go_enter Tryz.func253,Tryz.ntmps253
 go_wp2
 refine wp_loop_rounds 1 ?_
 rw [rounds_succ]
 go_wp2
 go_ret
 exact ⟨rfl,rfl⟩

def RetLf (w:World) (rb:Nat) (cs:Array Value) (e:Ending) (w' : World):Prop:=
 ∃b,e=.returned (.tuple #[.iface 154 (.pointer (some ⟨b,0,none⟩)),.bool true])/\w.heap.size<=b/\Bx w' b 158 #[.int .i64 0,.slice none 0 0]/\Bx w' rb 299 cs/\Below rb w w'

set_option maxHeartbeats 2000000 in
theorem readLeaf_e (rb:Nat) (v0 v1 v3 v4:Value) (a:Option Addr) (w:World) (h:Bx w rb 299 #[v0,v1,.int .i64 0,v3,v4]) :
  Calls Tryz.prog 228 #[.pointer (some ⟨rb,0,none⟩),.agg #[.bool true,.slice a 0 0,.slice none 0 0,.int .i64 0],.int .i64 0] w (RetLf w rb #[v0,v1,.int .i64 0,v3,v4]):=by
 have hrl:=h.lt
 have H:Hid (Bx w rb 299 #[v0,v1,.int .i64 0,v3,v4]):=h
 clear h
 go_enter Tryz.func228,Tryz.ntmps228
 go_upto_region 3 with fail
 have S1:Hid (Bx (w.alloc (.cells #[.bool true,.slice a 0 0,.slice none 0 0,.int .i64 0] 213)) w.heap.size 213 #[.bool true,.slice a 0 0,.slice none 0 0,.int .i64 0]/\Bx (w.alloc (.cells #[.bool true,.slice a 0 0,.slice none 0 0,.int .i64 0] 213)) rb 299 #[v0,v1,.int .i64 0,v3,v4]/\Below w.heap.size w (w.alloc (.cells #[.bool true,.slice a 0 0,.slice none 0 0,.int .i64 0] 213))):=
  ⟨Bx.new _ _ _,H.out.alloc _,below_alloc _ _⟩
 clear H
 generalize (w.alloc (.cells #[.bool true,.slice a 0 0,.slice none 0 0,.int .i64 0] 213))=W at S1 ⊢
 have g2:=S1.out.1.cell 2
 have hWl:=S1.out.1.lt
 simp at g2
 go_wp2_with fail
 refine (leafDepth_e rb v0 v1 v3 v4 W S1.out.2.1).mono ?_
 rintro e w1 ⟨rfl,hw1⟩
 have S2:Hid (Bx w1 w.heap.size 213 #[.bool true,.slice a 0 0,.slice none 0 0,.int .i64 0]/\Bx w1 rb 299 #[v0,v1,.int .i64 0,v3,v4]/\Below rb w w1):=by
  subst hw1
  exact ⟨S1.out.1.other (by simp;omega) _,S1.out.2.1.set 2 _,(S1.out.2.2.mono (by omega)).setCell (by simp) _⟩
 clear hw1 S1 g2 hWl
 have g1:=S2.out.1.cell 1
 have hWl:=S2.out.1.lt
 simp at g1
 go_wp2_with fail
 refine (passKeys_e rb a w1).mono ?_
 rintro e w2 ⟨rfl,hw2⟩
 subst hw2
 go_wp2_with fail
 refine (copyStr_e a w2).mono ?_
 rintro e w3 ⟨rfl,hw3⟩
 subst hw3
 go_upto_region 6 with fail
 have S4:Hid (Bx (w3.alloc (.cells #[.int .i64 0,.slice none 0 0] 158)) w3.heap.size 158 #[.int .i64 0,.slice none 0 0]/\Bx (w3.alloc (.cells #[.int .i64 0,.slice none 0 0] 158)) w.heap.size 213 #[.bool true,.slice a 0 0,.slice none 0 0,.int .i64 0]/\Bx (w3.alloc (.cells #[.int .i64 0,.slice none 0 0] 158)) rb 299 #[v0,v1,.int .i64 0,v3,v4]/\Below rb w (w3.alloc (.cells #[.int .i64 0,.slice none 0 0] 158))/\w.heap.size<w3.heap.size):=
  ⟨Bx.new _ _ _,S2.out.1.alloc _,S2.out.2.1.alloc _,S2.out.2.2.alloc (by have:=S2.out.2.2.size;omega) _,hWl⟩
 clear S2 g1 hWl
 generalize (w3.alloc (.cells #[.int .i64 0,.slice none 0 0] 158))=W4 at S4 ⊢
 generalize w3.heap.size=nb at S4 ⊢
 go_wp2_with fail
 refine (recount_e nb 0 W4 S4.out.1).mono ?_
 rintro e w5 ⟨rfl,hw5⟩
 have S5:Hid (Bx w5 nb 158 #[.int .i64 0,.slice none 0 0]/\Bx w5 w.heap.size 213 #[.bool true,.slice a 0 0,.slice none 0 0,.int .i64 0]/\Bx w5 rb 299 #[v0,v1,.int .i64 0,v3,v4]/\Below rb w w5/\w.heap.size<nb):=by
  subst hw5
  have hz:=S4.out.2.2.2.2
  exact ⟨S4.out.1.set 0 _,S4.out.2.1.other (by simp;omega) _,S4.out.2.2.1.other (by simp;omega) _,S4.out.2.2.2.1.setCell (by simp;omega) _,hz⟩
 clear S4 hw5
 have k0:=S5.out.1.cell 0
 have g3:=S5.out.2.1.cell 3
 have hl5:=S5.out.2.1.lt
 have hn5:=S5.out.1.lt
 simp at k0 g3
 have k0' : w5.drew.cell? ⟨nb,0,none⟩=some (.int .i64 0):=k0
 go_wp2
 go_region_held3 (fun w'=>w'.cell? ⟨w.heap.size,3,none⟩=some (.int .i64 0)) (go_keep)
  (first
  | (go_at_call 256;refine (below_new nb w5.drew k0').mono ?_;rintro e w6 ⟨rfl,rfl⟩)
  | fail)
 go_wp2
 exact bodyPost_ret (v:=.tuple #[.iface 154 (.pointer (some ⟨nb,0,none⟩)),.bool true]) (by simp [results,Tryz.results228,go_sem]) rfl ⟨nb,rfl,by have:=S5.out.2.2.2.2;omega,S5.out.1,S5.out.2.2.1,S5.out.2.2.2.1.drew⟩

set_option maxHeartbeats 2000000 in
theorem read_e (rb g c:Nat) (v3 v4:Value) (a:Option Addr) (w:World) (h:Bx w rb 299 #[.slice (some ⟨g,0,none⟩) 1 c,.int .i64 0,.int .i64 0,v3,v4]) (hg:g<rb) (hr:rowIn w g 213 4 (leafCell a)) :
  Calls Tryz.prog 198 #[.pointer (some ⟨rb,0,none⟩),.int .i64 0] w (RetLf w rb #[.slice (some ⟨g,0,none⟩) 1 c,.int .i64 1,.int .i64 0,v3,v4]):=by
 have hrl:=h.lt
 obtain ⟨x0,x1,x2,x3,xf,xl⟩:=leafCells hr
 have H:Hid (Bx w rb 299 #[.slice (some ⟨g,0,none⟩) 1 c,.int .i64 0,.int .i64 0,v3,v4]):=h
 have c0:=h.cell 0
 have c1:=h.cell 1
 have f1:=h.frozen 1
 simp at c0 c1
 have HR:Hid (rowIn w g 213 4 (leafCell a)):=hr
 clear h hr
 go_enter Tryz.func198,Tryz.ntmps198
 go_wp2
 go_quiet (fail)
 go_wp2
 have H1:Hid (Below w.heap.size w (w.drewN nq)):=below_drewN (Below.refl _ _) nq
 clear c0 c1 f1 x0 x1 x2 x3 xf
 have HRW:Hid (rowIn (w.drewN nq) g 213 4 (leafCell a)):=rowIn.below HR.out H1.out
 have HB:Hid (Bx (w.drewN nq) rb 299 #[.slice (some ⟨g,0,none⟩) 1 c,.int .i64 0,.int .i64 0,v3,v4]):=H.out.below H1.out
 clear H HR
 generalize w.drewN nq=w1 at H1 HRW HB ⊢
 obtain ⟨x0,x1,x2,x3,xf,xl1⟩:=leafCells HRW.out
 have c0:=HB.out.cell 0
 have c1:=HB.out.cell 1
 have f1:=HB.out.frozen 1
 have hl1:=HB.out.lt
 simp at c0 c1
 go_region_held3 (fun w'=>w'.cell? ⟨rb,0,none⟩=some (.slice (some ⟨g,0,none⟩) 1 c)/\w'.cell? ⟨rb,1,none⟩=some (.int .i64 0)/\w'.cell? ⟨g,0,none⟩=some (.bool true)/\w'.cell? ⟨g,1,none⟩=some (.slice a 0 0)/\w'.cell? ⟨g,2,none⟩=some (.slice none 0 0)/\w'.cell? ⟨g,3,none⟩=some (.int .i64 0)) (go_keep) (fail)
 go_upto_region 4 with fail
 have S2:Hid (Bx (w1.alloc (.cells #[.bool true,.slice a 0 0,.slice none 0 0,.int .i64 0] 213)).drew w1.heap.size 213 #[.bool true,.slice a 0 0,.slice none 0 0,.int .i64 0]/\Bx (w1.alloc (.cells #[.bool true,.slice a 0 0,.slice none 0 0,.int .i64 0] 213)).drew rb 299 #[.slice (some ⟨g,0,none⟩) 1 c,.int .i64 0,.int .i64 0,v3,v4]/\Below w1.heap.size w1 (w1.alloc (.cells #[.bool true,.slice a 0 0,.slice none 0 0,.int .i64 0] 213)).drew):=
  ⟨(Bx.new _ _ _).drew,(HB.out.alloc _).drew,(below_alloc _ _).drew⟩
 clear c0 c1 f1 x0 x1 x2 x3 xf
 generalize (w1.alloc (.cells #[.bool true,.slice a 0 0,.slice none 0 0,.int .i64 0] 213)).drew=w2 at S2 ⊢
 have hz1:=H1.out.size
 have c1:=S2.out.2.1.cell 1
 have f1:=S2.out.2.1.frozen 1
 have hl2:=S2.out.2.1.lt
 have hl3:=S2.out.1.lt
 simp at c1
 go_upto_region 5 with fail
 have S3:Hid (Bx (w2.setCell ⟨rb,1,none⟩ (.int .i64 1)) w1.heap.size 213 #[.bool true,.slice a 0 0,.slice none 0 0,.int .i64 0]/\Bx (w2.setCell ⟨rb,1,none⟩ (.int .i64 1)) rb 299 #[.slice (some ⟨g,0,none⟩) 1 c,.int .i64 1,.int .i64 0,v3,v4]/\Below rb w (w2.setCell ⟨rb,1,none⟩ (.int .i64 1))):=
  ⟨S2.out.1.other (by simp;omega) _,S2.out.2.1.set 1 _,(((H1.out.trans (S2.out.2.2.mono hz1))).mono (by omega)).setCell (by simp) _⟩
 have hz2:w.heap.size<=w2.heap.size:=by omega
 clear S2 c1 f1 hl2 hl3
 have hz3:w2.heap.size=(w2.setCell ⟨rb,1,none⟩ (.int .i64 1)).heap.size:=by simp [World.setCell]
 have HZ:Hid (w.heap.size<=(w2.setCell ⟨rb,1,none⟩ (.int .i64 1)).heap.size):=by rw [<- hz3];exact hz2
 clear hz3 hz2
 generalize (w2.setCell ⟨rb,1,none⟩ (.int .i64 1))=w3 at S3 HZ ⊢
 generalize w1.heap.size=gb at S3 ⊢
 have y0:=S3.out.1.cell 0
 have y1:=S3.out.1.cell 1
 have y2:=S3.out.1.cell 2
 have y3:=S3.out.1.cell 3
 simp at y0 y1 y2 y3
 go_wp2_with fail
 refine (readLeaf_e rb (.slice (some ⟨g,0,none⟩) 1 c) (.int .i64 1) v3 v4 a w3 S3.out.2.1).mono ?_
 rintro e w4 ⟨b,rfl,hb,h1,h2,h3⟩
 have HX:Hid (RetLf w rb #[.slice (some ⟨g,0,none⟩) 1 c,.int .i64 1,.int .i64 0,v3,v4] (.returned (.tuple #[.iface 154 (.pointer (some ⟨b,0,none⟩)),.bool true])) w4):=⟨b,rfl,by have:=HZ.out;omega,h1,h2,S3.out.2.2.trans h3⟩
 clear h1 h2 h3
 go_wp2
 exact bodyPost_ret (v:=.tuple #[.iface 154 (.pointer (some ⟨b,0,none⟩)),.bool true]) (by simp [results,Tryz.results198,go_sem]) rfl HX.out

def RetTr (w:World) (e:Ending) (w' : World):Prop:=
 ∃b,e=.returned (.tuple #[.iface 154 (.pointer (some ⟨b,0,none⟩)),.bool true])/\w.heap.size<=b/\Bx w' b 158 #[.int .i64 0,.slice none 0 0]/\Below w.heap.size w w'

set_option maxHeartbeats 2000000 in
theorem readTree_e (g c:Nat) (a:Option Addr) (w:World) (hr:rowIn w g 213 4 (leafCell a)) :
  Calls Tryz.prog 153 #[.agg #[.slice (some ⟨g,0,none⟩) 1 c]] w (RetTr w):=by
 have hg:=rowIn.lt hr
 have HR:Hid (rowIn w g 213 4 (leafCell a)):=hr
 clear hr
 go_enter Tryz.func153,Tryz.ntmps153
 go_upto_region 4 with fail
 have S1:Hid (Bx ((w.alloc (.cells #[.slice (some ⟨g,0,none⟩) 1 c] 69)).alloc (.cells #[.slice (some ⟨g,0,none⟩) 1 c,.int .i64 0,.int .i64 0,.string { data:=#[] },.bool false] 299)) (w.heap.size+1) 299 #[.slice (some ⟨g,0,none⟩) 1 c,.int .i64 0,.int .i64 0,.string { data:=#[] },.bool false]/\Bx ((w.alloc (.cells #[.slice (some ⟨g,0,none⟩) 1 c] 69)).alloc (.cells #[.slice (some ⟨g,0,none⟩) 1 c,.int .i64 0,.int .i64 0,.string { data:=#[] },.bool false] 299)) w.heap.size 69 #[.slice (some ⟨g,0,none⟩) 1 c]/\Below w.heap.size w ((w.alloc (.cells #[.slice (some ⟨g,0,none⟩) 1 c] 69)).alloc (.cells #[.slice (some ⟨g,0,none⟩) 1 c,.int .i64 0,.int .i64 0,.string { data:=#[] },.bool false] 299))):=by
  refine ⟨?_,(Bx.new _ _ _).alloc _,(below_alloc _ _).alloc (by simp) _⟩
  have q:=Bx.new (w.alloc (.cells #[.slice (some ⟨g,0,none⟩) 1 c] 69)) #[.slice (some ⟨g,0,none⟩) 1 c,.int .i64 0,.int .i64 0,.string { data:=#[] },.bool false] 299
  simp only [World.size_alloc] at q
  exact q
 generalize ((w.alloc (.cells #[.slice (some ⟨g,0,none⟩) 1 c] 69)).alloc (.cells #[.slice (some ⟨g,0,none⟩) 1 c,.int .i64 0,.int .i64 0,.string { data:=#[] },.bool false] 299))=W at S1 ⊢
 go_wp2_with fail
 refine (read_e (w.heap.size+1) g c _ _ a W S1.out.1 (by omega) (rowIn.below HR.out S1.out.2.2)).mono ?_
 rintro e w1 ⟨b,rfl,hb,h1,h2,h3⟩
 have S2:Hid (Bx w1 b 158 #[.int .i64 0,.slice none 0 0]/\Bx w1 (w.heap.size+1) 299 #[.slice (some ⟨g,0,none⟩) 1 c,.int .i64 1,.int .i64 0,.string { data:=#[] },.bool false]/\Bx w1 w.heap.size 69 #[.slice (some ⟨g,0,none⟩) 1 c]/\Below w.heap.size w w1/\w.heap.size<=b):=
  ⟨h1,h2,S1.out.2.1.below' h3 (by omega),S1.out.2.2.trans (h3.mono (by omega)),by have:=S1.out.2.2.size;omega⟩
 clear h1 h2 h3 S1 hb
 have y0:=S2.out.2.2.1.cell 0
 have y1:=S2.out.2.1.cell 1
 simp at y0 y1
 go_wp2
 go_quiet (fail)
 go_wp2
 exact bodyPost_ret (v:=.tuple #[.iface 154 (.pointer (some ⟨b,0,none⟩)),.bool true]) (by simp [results,Tryz.results153,go_sem]) rfl ⟨b,rfl,S2.out.2.2.2.2,S2.out.1.below (below_drewN (Below.refl _ _) _),below_drewN S2.out.2.2.2.1 _⟩

def devCell (v0 v1:Value) (fuel:Int) (dead:Bool) (i:Nat):Value:=if i=0 then v0 else if i=1 then v1 else if i=2 then .int .i64 fuel else .bool dead

def Dev (w:World) (b:Nat) (v0 v1:Value) (fuel:Int) (dead:Bool):Prop:=rowIn w b 161 4 (devCell v0 v1 fuel dead)

theorem Dev.cells {w:World} {b:Nat} {v0 v1:Value} {fuel:Int} {dead:Bool} (h:Dev w b v0 v1 fuel dead) :
  w.cell? ⟨b,0,none⟩=some v0/\w.cell? ⟨b,1,none⟩=some v1/\w.cell? ⟨b,2,none⟩=some (.int .i64 fuel)/\w.cell? ⟨b,3,none⟩=some (.bool dead)/\(∀o,w.frozen? ⟨b,o,none⟩=false)/\b<w.heap.size:=
 ⟨by simpa [devCell] using rowIn.cell h (i:=0) (by omega),by simpa [devCell] using rowIn.cell h (i:=1) (by omega),by simpa [devCell] using rowIn.cell h (i:=2) (by omega),by simpa [devCell] using rowIn.cell h (i:=3) (by omega),fun o=>rowIn.frozen h o,rowIn.lt h⟩

theorem Dev.setFuel {w:World} {b:Nat} {v0 v1:Value} {fuel:Int} {dead:Bool} (h:Dev w b v0 v1 fuel dead) (x:Int):Dev (w.setCell ⟨b,2,none⟩ (.int .i64 x)) b v0 v1 x dead:=
 (rowIn.set h 2 _).congr (fun i hi=>by
  unfold devCell
  by_cases e:i=2
  ·subst e;simp
  ·simp [e])

theorem Dev.setDead {w:World} {b:Nat} {v0 v1:Value} {fuel:Int} {dead:Bool} (h:Dev w b v0 v1 fuel dead) (x:Bool):Dev (w.setCell ⟨b,3,none⟩ (.bool x)) b v0 v1 fuel x:=
 (rowIn.set h 3 _).congr (fun i hi=>by
  unfold devCell
  by_cases e:i=3
  ·subst e;simp
  ·have:i<3:=by omega
   by_cases e0:i=0
   ·simp [e0]
   ·by_cases e1:i=1
    ·simp [e1]
    ·have e2:i=2:=by omega
     simp [e2])

theorem Dev.setCache {w:World} {b:Nat} {v0 v1:Value} {fuel:Int} {dead:Bool} (h:Dev w b v0 v1 fuel dead) (x:Value):Dev (w.setCell ⟨b,1,none⟩ x) b v0 x fuel dead:=
 (rowIn.set h 1 _).congr (fun i hi=>by
  unfold devCell
  by_cases e:i=1
  ·subst e;simp
  ·simp [e])

theorem Dev.below {w w' : World} {b:Nat} {v0 v1:Value} {fuel:Int} {dead:Bool} (h:Dev w b v0 v1 fuel dead) (hb:Below w.heap.size w w'):Dev w' b v0 v1 fuel dead:=rowIn.below h hb

def fuelAfter (fuel:Int):Int:=if fuel=-1 then -1 else fuel-1

set_option maxHeartbeats 400000 in
theorem spend_zero (b:Nat) (v0 v1:Value) (dead:Bool) (w:World) (h:Dev w b v0 v1 0 dead) :
  Calls Tryz.prog 150 #[.pointer (some ⟨b,0,none⟩)] w fun e w'=>e=.panicked [{ v:=.iface 231 (.agg #[]),recovered:=false }]/\Dev w' b v0 v1 0 true/\OnlyAt (some ⟨b,0,none⟩) w w':=by
 obtain ⟨c0,c1,c2,c3,cf,cl⟩:=h.cells
 have HE:Hid (Dev (w.setCell ⟨b,3,none⟩ (.bool true)) b v0 v1 0 true/\OnlyAt (some ⟨b,0,none⟩) w (w.setCell ⟨b,3,none⟩ (.bool true))):=⟨h.setDead true,(OnlyAt.refl _ _).setCell 3 _⟩
 clear h
 go_enter Tryz.func150,Tryz.ntmps150
 go_wp2
 exact ⟨rfl,rfl,HE.out⟩

set_option maxHeartbeats 400000 in
theorem spend_dead (b:Nat) (v0 v1:Value) (fuel:Int) (w:World) (h:Dev w b v0 v1 fuel true) (hf:fuel≠0) :
  Calls Tryz.prog 150 #[.pointer (some ⟨b,0,none⟩)] w fun e w'=>e=.panicked [{ v:=.iface 231 (.agg #[]),recovered:=false }]/\w'=w:=by
 obtain ⟨c0,c1,c2,c3,cf,cl⟩:=h.cells
 have hf' : (fuel == 0)=false:=by simp [hf]
 clear h hf
 go_enter Tryz.func150,Tryz.ntmps150
 go_wp2
 exact ⟨rfl,rfl,rfl⟩

set_option maxHeartbeats 400000 in
theorem spend_live (b:Nat) (v0 v1:Value) (fuel:Int) (w:World) (h:Dev w b v0 v1 fuel false) (hf:fuel≠0) (h1:-1<=fuel) (h2:fuel<=1000000) :
  Calls Tryz.prog 150 #[.pointer (some ⟨b,0,none⟩)] w fun e w'=>e=.returned (.tuple #[])/\Dev w' b v0 v1 (fuelAfter fuel) false/\OnlyAt (some ⟨b,0,none⟩) w w':=by
 obtain ⟨c0,c1,c2,c3,cf,cl⟩:=h.cells
 have hf' : (fuel == 0)=false:=by simp [hf]
 by_cases hm:fuel=-1
 ·subst hm
  have HE:Hid (Dev w b v0 v1 (fuelAfter (-1)) false):=h
  clear h
  go_enter Tryz.func150,Tryz.ntmps150
  go_wp2
  go_end0
  exact ⟨rfl,HE.out,OnlyAt.refl _ _⟩
 ·have hm' : (fuel != -1)=true:=by simp [hm]
  have HE:Hid (Dev (w.setCell ⟨b,2,none⟩ (.int .i64 (fuel-1))) b v0 v1 (fuelAfter fuel) false/\OnlyAt (some ⟨b,0,none⟩) w (w.setCell ⟨b,2,none⟩ (.int .i64 (fuel-1)))):=⟨by unfold fuelAfter;rw [if_neg hm];exact h.setFuel _,(OnlyAt.refl _ _).setCell 2 _⟩
  clear h hm
  go_enter Tryz.func150,Tryz.ntmps150
  go_wp2
  all_goals go_end0
  all_goals exact ⟨rfl,HE.out⟩

theorem rowIn.only {w w' : World} {g b:Nat} {t:TypeId} {n:Nat} {F:Nat->Value} (h:rowIn w g t n F) (hne:g≠b) (ho:OnlyAt (some ⟨b,0,none⟩) w w'):rowIn w' g t n F:=
 h.of_block (ho.block g (fun x e=>by injection e with e;subst e;exact fun e=>hne e.symm))

theorem OwnB.onlyDev {w w' : World} {b B:Nat} {a:Option Addr} {n:Nat} {f:Nat->Int} {v0 v1:Value} {fuel:Int} {dead:Bool} (h:OwnB w B a n f) (hd:Dev w b v0 v1 fuel dead) (ho:OnlyAt (some ⟨b,0,none⟩) w w'):OwnB w' B a n f:=by
 rcases h with h|⟨g,rfl,hg,hr⟩
 ·exact Or.inl h
 ·exact Or.inr ⟨g,rfl,hg,hr.only (hr.ne hd (by decide)) ho⟩

theorem Gath.onlyDev {w w' : World} {b B:Nat} {v:Value} {k:Nat} {S:Nat->Int} {L:Nat->Nat} {F:Nat->Nat->Int} {A:Nat->Option Addr} {C:Nat->Nat} {v0 v1:Value} {fuel:Int} {dead:Bool} (h:Gath w B v k S L F A C) (hd:Dev w b v0 v1 fuel dead) (ho:OnlyAt (some ⟨b,0,none⟩) w w'):Gath w' B v k S L F A C:=by
 refine ⟨⟨h.row.1,?_⟩,fun i hi=>(h.each i hi).onlyDev hd ho,h.apart⟩
 rcases h.row.2 with h2|⟨g,cap,cur,hv,hg,hh,r⟩
 ·exact Or.inl h2
 ·have hne:g≠b:=by
   have hr:rowIn w g 119 0 (fun _=>undef):=⟨cur,hh,Nat.zero_le _,fun i hi=>absurd hi (Nat.not_lt_zero _)⟩
   exact hr.ne hd (by decide)
  exact Or.inr ⟨g,cap,cur,hv,hg,(ho.block g (fun x e=>by injection e with e;subst e;exact fun e=>hne e.symm)).trans hh,r⟩

theorem Gath.notDev {w:World} {b B:Nat} {v:Value} {k:Nat} {S:Nat->Int} {L:Nat->Nat} {F:Nat->Nat->Int} {A:Nat->Option Addr} {C:Nat->Nat} {v0 v1:Value} {fuel:Int} {dead:Bool} (h:Gath w B v k S L F A C) (hd:Dev w b v0 v1 fuel dead):v.ownBlock≠some b:=by
 intro e
 rcases h.row.2 with ⟨h2,_⟩|⟨g,cap,cur,hv,hg,hh,r⟩
 ·rw [h2] at e;simp [Value.ownBlock] at e
 ·rw [hv] at e
  simp [Value.ownBlock] at e
  subst e
  have hr:rowIn w g 119 0 (fun _=>undef):=⟨cur,hh,Nat.zero_le _,fun i hi=>absurd hi (Nat.not_lt_zero _)⟩
  exact hr.ne hd (by decide) rfl

theorem owns_shape {w:World} {B:Nat} {e:TypeId} {size:Nat} {v:Value} {n:Nat} {xs:List Value} (h:w.ownsRow B e size v n xs):∃p q,v=.slice p n q:=by
 rcases h.2 with ⟨hv,hn⟩|⟨g,cap,cur,hv,_⟩
 ·subst hn;exact ⟨none,0,hv⟩
 ·exact ⟨_,cap,hv⟩

def KeepB (w w' : World):Prop:=∀g n F,rowIn w g 5 n F->rowIn w' g 5 n F

theorem KeepB.below {w w' : World} (hb:Below w.heap.size w w'):KeepB w w':=fun g n F hr=>hr.below hb
theorem KeepB.trans {a b c:World} (h:KeepB a b) (k:KeepB b c):KeepB a c:=fun g n F hr=>k g n F (h g n F hr)
theorem KeepB.grown {w w' : World} {B:Nat} {v:Value} {k:Nat} {xs:List Value} (h:w.ownsRow B 119 2 v k xs) (hg:w.grownBy w' v.ownBlock):KeepB w w':=by
 intro g n F hr
 refine hr.of_block (hg.block g hr.lt (fun e=>?_))
 rcases h.2 with ⟨hv,_⟩|⟨g2,cap,cur,hv,_,hh,_⟩
 ·rw [hv] at e;simp [Value.ownBlock] at e
 ·rw [hv] at e
  simp [Value.ownBlock] at e
  subst e
  have hr2:rowIn w g 119 0 (fun _=>undef):=⟨cur,hh,Nat.zero_le _,fun i hi=>absurd hi (Nat.not_lt_zero _)⟩
  exact hr.ne hr2 (by decide) rfl
theorem KeepB.dev {w w' : World} {b:Nat} {v0 v1:Value} {fuel:Int} {dead:Bool} (hd:Dev w b v0 v1 fuel dead) (ho:OnlyAt (some ⟨b,0,none⟩) w w'):KeepB w w':=fun g n F hr=>hr.only (hr.ne hd (by decide)) ho

theorem below_alloc2' (w:World) (o o' : Obj):Below w.heap.size w ((w.alloc o).alloc o'):=(below_alloc _ _).trans ((below_alloc _ _).mono (by simp))

theorem ans_true' {e:Ending} {p:Prop} (h:AnsB e p) (hp:p):e=.returned (.bool true):=by
 obtain ⟨b,rfl,hb⟩:=h
 rw [hb.2 hp]
theorem ans_false' {e:Ending} {p:Prop} (h:AnsB e p) (hp:¬ p):e=.returned (.bool false):=by
 obtain ⟨b,rfl,hb⟩:=h
 cases b with
 | false=>rfl
 | true=>exact absurd (hb.1 rfl) hp

theorem lt_cell {w:World} {x:Addr} {v:Value} (h:w.cell? x=some v):x.block<w.heap.size:=by
 rcases Nat.lt_or_ge x.block w.heap.size with h' | h'
 ·exact h'
 ·unfold World.cell? at h
  rw [Array.getElem?_eq_none h'] at h
  cases h


def Left (W:World) (b B n:Nat) (w' : World) (d2:Nat->Int) (m2:Nat) (S2:Nat->Int) (L2:Nat->Nat) (F2:Nat->Nat->Int) (fuel2:Int) (dead2:Bool):Prop:=
 ∃a' c' p' q' A' C',Dev w' b (.slice a' n c') (.slice p' m2 q') fuel2 dead2/\OwnB w' B a' n d2/\Gath w' B (.slice p' m2 q') m2 S2 L2 F2 A' C'/\(n≠0->∀i,i<m2->L2 i≠0->A' i≠a')/\Below B W w'

theorem devNew (W:World) (v0 v1:Value) (fuel:Int) (dead:Bool):Dev (W.alloc (.cells #[v0,v1,.int .i64 fuel,.bool dead] 161)) W.heap.size v0 v1 fuel dead:=by
 refine ⟨_,blk_alloc_new _ _,by simp,fun i hi=>?_⟩
 match i,hi with
 | 0,_=>rfl
 | 1,_=>rfl
 | 2,_=>rfl
 | 3,_=>rfl

set_option maxHeartbeats 1000000 in
theorem runSteps_rec (a p:Option Addr) (n c m q:Nat) (d S:Nat->Int) (L:Nat->Nat) (F:Nat->Nat->Int) (fuel:Int) (dead:Bool) (k1 k2 k3:Value) (w:World) (ha:Rd .u8 w a n d) (hp:RdP w p m S L F) (hn:n<=1048576) (hm:m<=1048576) (hL:∀i,i<m->L i<=1048576)
  (d2:Nat->Int) (m2:Nat) (S2:Nat->Int) (L2:Nat->Nat) (F2:Nat->Nat->Int) (fuel2:Int) (dead2:Bool)
  (hst:∀(W:World) (b B:Nat) (a' p' : Option Addr) (c' q' : Nat) (A C),Dev W b (.slice a' n c') (.slice p' m q') fuel dead->OwnB W B a' n d->Gath W B (.slice p' m q') m S L F A C->(n≠0->∀i,i<m->L i≠0->A i≠a')->n<=c'->c'<=9223372036854775807->B<=b->w.heap.size+2<=B->Below w.heap.size w W->
   Calls Tryz.prog 55 #[.pointer (some ⟨b,0,none⟩),k1,k2,k3] W fun e w'=>Stepped e/\Left W b B n w' d2 m2 S2 L2 F2 fuel2 dead2) :
  Calls Tryz.prog 54 #[.agg #[.slice a n c,.slice p m q,.int .i64 fuel,.bool dead],.func (.func 55) #[] #[k1,k2,k3]] w fun e w'=>RetD w e w' n d2 m2 S2 L2 F2 fuel2 dead2:=by
 have HA:Hid (Rd .u8 w a n d):=ha
 have HP:Hid (RdP w p m S L F):=hp
 have HST:Hid (∀(W:World) (b B:Nat) (a' p' : Option Addr) (c' q' : Nat) (A C),Dev W b (.slice a' n c') (.slice p' m q') fuel dead->OwnB W B a' n d->Gath W B (.slice p' m q') m S L F A C->(n≠0->∀i,i<m->L i≠0->A i≠a')->n<=c'->c'<=9223372036854775807->B<=b->w.heap.size+2<=B->Below w.heap.size w W->
   Calls Tryz.prog 55 #[.pointer (some ⟨b,0,none⟩),k1,k2,k3] W fun e w'=>Stepped e/\Left W b B n w' d2 m2 S2 L2 F2 fuel2 dead2):=hst
 have HLL:Hid (∀i,i<m->L i<=1048576):=hL
 clear ha hp hst hL
 go_enter Tryz.func54,Tryz.ntmps54
 go_wp2_with fail
 refine (copyDisk_gath a p n c m q d S L F fuel dead _ (HA.out.below (below_alloc2' _ _ _)) (HP.out.below (below_alloc2' _ _ _)) hn hm HLL.out).mono ?_
 rintro e w1 ⟨a1,c1,p1,q1,A1,C1,rfl,ho1,hg1,hx1,hb1,hl1,hm1⟩
 have E2:∀O O',((w.alloc O).alloc O').heap.size=w.heap.size+2:=fun O O'=>by simp
 rw [E2] at ho1 hg1 hb1
 have z1:w.heap.size+2<=w1.heap.size:=by have:=hb1.size;simpa using this
 have B1:Hid (Below w.heap.size w w1):=(below_alloc2' _ _ _).trans (hb1.mono (by omega))
 have K1:Hid (Below (w.heap.size+2) ((w.alloc _).alloc _) w1):=hb1
 have HC:Hid (Calls Tryz.prog 55 #[.pointer (some ⟨w1.heap.size,0,none⟩),k1,k2,k3] (w1.alloc (.cells #[.slice a1 n c1,.slice p1 m q1,.int .i64 fuel,.bool dead] 161)) fun e w'=>Stepped e/\Left (w1.alloc (.cells #[.slice a1 n c1,.slice p1 m q1,.int .i64 fuel,.bool dead] 161)) w1.heap.size (w.heap.size+2) n w' d2 m2 S2 L2 F2 fuel2 dead2):=
  HST.out _ _ _ a1 p1 c1 q1 A1 C1 (devNew w1 _ _ _ _) (ho1.below (below_alloc _ _)) (hg1.below (below_alloc _ _)) hx1 hl1 hm1 z1 (Nat.le_refl _) (B1.out.alloc B1.out.size _)
 clear ho1 hg1 hx1 hb1 E2
 go_wp2_with fail
 refine (until_rec w1.heap.size k1 k2 k3 _ (fun w'=>Left (w1.alloc (.cells #[.slice a1 n c1,.slice p1 m q1,.int .i64 fuel,.bool dead] 161)) w1.heap.size (w.heap.size+2) n w' d2 m2 S2 L2 F2 fuel2 dead2) HC.out).mono ?_
 rintro e w3 ⟨rfl,w2,⟨a2,c2,p2,q2,A2,C2,hd2,ho2,hg2,hx2,hb2⟩,hb3⟩
 have z2:=hb2.size
 rw [alloc_size] at z2
 have D3:=(hd2.below hb3).cells
 obtain ⟨y0,y1,y2,y3,yf,yl⟩:=D3
 have K3:Below (w.heap.size+2) ((w.alloc _).alloc _) w3:=((K1.out.alloc (by simpa using z1) _).trans hb2).trans (hb3.mono (by omega))
 have hc3:∀b o,b<w.heap.size+2->w3.cell? ⟨b,o,none⟩=_:=fun b o hb=>K3.cell (p:=⟨b,o,none⟩) hb
 have hf3:∀b o,b<w.heap.size+2->w3.frozen? ⟨b,o,none⟩=_:=fun b o hb=>K3.frozen (p:=⟨b,o,none⟩) hb
 obtain ⟨p3,q3,hv3,hp3⟩:=hg2.ownP
 injection hv3 with e1 _ e3
 subst e1 e3
 have HX:Hid (OwnD w3 (w.heap.size+2) a2 n d2 p2 m2 S2 L2 F2 A2/\Below w.heap.size w w3):=
  ⟨(OwnD.mk ho2 hp3 hx2).below hb3,((B1.out.alloc B1.out.size _).trans (hb2.mono (by omega))).trans (hb3.mono (by omega))⟩
 have hz3:w.heap.size+1<w3.heap.size:=by have:=hb3.size;omega
 clear hd2 ho2 hg2 hx2 hb2 hb3 K3 hp3
 go_wp2
 refine bodyPost_ret (v:=.agg #[.slice a2 n c2,.slice p2 m2 q2,.int .i64 fuel2,.bool dead2]) (by simp [results,Tryz.results54,go_sem,hc3]) rfl ⟨a2,c2,p2,q2,A2,rfl,?_,?_⟩
 ·exact ((((HX.out.1.setOther (by simp) _).setOther (by simp) _).setOther (by simp) _).setOther (by simp) _).mono (by omega)
 ·exact (((HX.out.2.setCell (by simp) _).setCell (by simp) _).setCell (by simp) _).setCell (by simp) _
end Go.Proofs.YtbmffmifemebmaaGreatDoor
