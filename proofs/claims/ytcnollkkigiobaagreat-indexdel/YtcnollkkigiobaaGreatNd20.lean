import Derived.Test.YtcnollkkigiobaaGreatNd17
set_option linter.unusedVariables false
set_option maxRecDepth 100000
namespace Go.Proofs.YtcnollkkigiobaaGreat
open Go.RowKit Go.Deep

theorem FlAt.congr {S:Nat->Prop} {w:World} {n:Nat} {F G:Nat->Tn} {xs:List Value} (h:FlAt S w n F xs) (e:∀i,i<n->F i=G i):FlAt S w n G xs:=
 ⟨h.1,fun i hi=>by rw [<- e i hi];exact h.2 i hi⟩

structure CpSt (w wr:World) (v0:Value) (k:Nat) (N:Nat->Tn) (v:Value) (xs:List Value):Prop where
 tb:Bx wr w.heap.size 59 #[v0]
 rb:Bx wr (w.heap.size+1) 59 #[.slice none 0 0]
 ob:Bx wr (w.heap.size+2) 59 #[v]
 own:wr.ownsRow (w.heap.size+3) 168 4 v k xs
 fl:FlAt (fun b=>w.heap.size+3<=b/\v.ownBlock≠some b) wr k N xs
 bel:Below w.heap.size w wr

theorem CpSt.below {w wr w1:World} {v0:Value} {k:Nat} {N:Nat->Tn} {v:Value} {xs:List Value} (h:CpSt w wr v0 k N v xs) (hb:Below wr.heap.size wr w1):CpSt w w1 v0 k N v xs:=
 ⟨h.tb.below hb,h.rb.below hb,h.ob.below hb,own_below h.own hb,h.fl.mono hb.size (fun b hs hl=>⟨hs,hb.block b hl⟩),h.bel.trans (hb.mono h.bel.size)⟩

section
variable {w R W w16:World} {v0:Value} {k oc cA cB nb:Nat} {oa aA aB:Option Addr} {N:Nat->Tn} {xs:List Value} {v16:Value}

theorem cp_blk (hst:CpSt w R v0 k N (.slice oa k oc) xs) (hz:w.heap.size+3<=nb/\nb<R.heap.size/\∀g,(Value.slice oa k oc).ownBlock=some g->g<nb) (hb:Below R.heap.size R W) {O:Obj} (hg:(W.alloc O).grownBy w16 (Value.slice oa k oc).ownBlock) (b:Nat) (hb1:b<R.heap.size) (hb2:(Value.slice oa k oc).ownBlock≠some b):w16.heap[b]?=R.heap[b]?:=by
 have hs:=hb.size
 rw [hg.block b (by simp;omega) (fun e=>hb2 e.symm)]
 exact ((hb.alloc hb.size O).block b hb1)

theorem cp_next (hst:CpSt w R v0 k N (.slice oa k oc) xs) (hz:w.heap.size+3<=nb/\nb<R.heap.size/\∀g,(Value.slice oa k oc).ownBlock=some g->g<nb) (hb:Below R.heap.size R W)
  (hrA:∀S:Nat->Prop,(∀b,(Value.slice aA (N k).kn cA).ownBlock=some b->S b)->RdX S W aA (N k).kn (fun i=>.string ((N k).ks i))) (hrB:∀S:Nat->Prop,(∀b,(Value.slice aB (N k).dn cB).ownBlock=some b->S b)->RdX S W aB (N k).dn (fun i=>.int .i64 ((N k).kd i)))
  (ltA:∀g,(Value.slice aA (N k).kn cA).ownBlock=some g->R.heap.size<=g/\g<W.heap.size) (ltB:∀g,(Value.slice aB (N k).dn cB).ownBlock=some g->R.heap.size<=g/\g<W.heap.size)
  {O:Obj} (ho:w16.ownsRow (w.heap.size+3) 168 4 v16 (k+1) (xs++[.bool (N k).lf,.slice aA (N k).kn cA,.slice aB (N k).dn cB,.int .i64 (N k).ct])) (hg:(W.alloc O).grownBy w16 (Value.slice oa k oc).ownBlock) (hat:v16.ownBlock=(Value.slice oa k oc).ownBlock\/v16.ownBlock=some (W.alloc O).heap.size) :
  CpSt w (w16.setCell ⟨w.heap.size+2,0,none⟩ v16) v0 (k+1) N v16 (xs++[.bool (N k).lf,.slice aA (N k).kn cA,.slice aB (N k).dn cB,.int .i64 (N k).ct])/\w16.cell? ⟨w.heap.size+2,0,none⟩=some (.slice oa k oc)/\Bx w16 (w.heap.size+2) 59 #[.slice oa k oc]:=by
 obtain ⟨z1,z2,z3⟩:=hz
 have hs:=hb.size
 have hlt:=own_lt hst.own
 have blk:=cp_blk hst ⟨z1,z2,z3⟩ hb hg
 have hne:∀b,b<w.heap.size+3->(Value.slice oa k oc).ownBlock≠some b:=fun b hb e=>by have:=(hlt b e).1;omega
 have ob16:Bx w16 (w.heap.size+2) 59 #[.slice oa k oc]:=hst.ob.of_block (blk _ (by omega) (hne _ (by omega)))
 have hgs:=hg.size
 simp at hgs
 have hnew:∀b,b<W.heap.size->(Value.slice oa k oc).ownBlock≠some b->v16.ownBlock≠some b:=fun b h1 h2 e=>by
  rcases hat with h|h
  ·rw [h] at e;exact h2 e
  ·rw [h] at e
   injection e with e
   simp at e
   omega
 have hset:∀b,b≠w.heap.size+2->(w16.setCell ⟨w.heap.size+2,0,none⟩ v16).heap[b]?=w16.heap[b]?:=fun b h=>Below.heap_setCell _ _ _ _ h
 have hsz:(w16.setCell ⟨w.heap.size+2,0,none⟩ v16).heap.size=w16.heap.size:=by simp [World.setCell]
 refine ⟨⟨?_,?_,?_,?_,?_,?_⟩,by have:=ob16.cell 0;simpa using this,ob16⟩
 ·exact hst.tb.of_block ((hset _ (by omega)).trans (blk _ (by omega) (hne _ (by omega))))
 ·exact hst.rb.of_block ((hset _ (by omega)).trans (blk _ (by omega) (hne _ (by omega))))
 ·have:=ob16.set 0 v16
  simpa using this
 ·exact own_set ho _ _ (by simp)
 ·refine FlAt.congr (F:=catN k N (fun _=>N k)) (FlAt.app ?_ (FlAt.one (F:=fun _=>N k) ?_)) (fun i hi=>?_)
  ·refine hst.fl.mono (by rw [hsz];omega) (fun b hs1 hl=>⟨⟨hs1.1,hnew b (by omega) hs1.2⟩,?_⟩)
   exact (hset b (by omega)).trans (blk b hl hs1.2)
  ·have keep:∀b,R.heap.size<=b/\b<W.heap.size->(w.heap.size+3<=b/\v16.ownBlock≠some b)/\(w16.setCell ⟨w.heap.size+2,0,none⟩ v16).heap[b]?=W.heap[b]?:=by
    intro b hb1
    have hne2:(Value.slice oa k oc).ownBlock≠some b:=fun e=>by have:=(hlt b e).2;omega
    refine ⟨⟨by omega,hnew b hb1.2 hne2⟩,?_⟩
    rw [hset b (by omega),hg.block b (by simp;omega) (fun e=>hne2 e.symm)]
    exact (below_alloc W O).block b hb1.2
   refine ⟨rfl,rfl,aA,cA,aB,cB,rfl,rfl,?_,?_⟩
   ·exact (hrA (fun b=>R.heap.size<=b/\b<W.heap.size) (fun b e=>ltA b e)).mono (by rw [hsz];omega) (fun b hs1 _=>keep b hs1)
   ·exact (hrB (fun b=>R.heap.size<=b/\b<W.heap.size) (fun b e=>ltB b e)).mono (by rw [hsz];omega) (fun b hs1 _=>keep b hs1)
  ·unfold catN
   by_cases e:i<k
   ·rw [if_pos e]
   ·rw [if_neg e,show i=k by omega]
 ·refine (((hst.bel.trans (hb.mono hst.bel.size)).alloc (by have:=hst.bel.size;omega) O).grown hg (by have:=hst.bel.size;simp;omega) (fun g e=>by have:=(hlt g e).1;omega)).setCell (by simp) _

theorem cp_held {A0 A1 A2 A3:Value} (hst:CpSt w R v0 k N (.slice oa k oc) xs) (hz:w.heap.size+3<=nb/\nb<R.heap.size/\∀g,(Value.slice oa k oc).ownBlock=some g->g<nb) (hb:Below R.heap.size R W) (hk:∀W',Below R.heap.size R W'->W'.cell? ⟨w.heap.size+2,0,none⟩=some (.slice oa k oc)/\W'.cell? ⟨nb,0,none⟩=some A0/\W'.cell? ⟨nb,1,none⟩=some A1/\W'.cell? ⟨nb,2,none⟩=some A2/\W'.cell? ⟨nb,3,none⟩=some A3) {O:Obj} (hg:(W.alloc O).grownBy w16 (Value.slice oa k oc).ownBlock) :
  w16.cell? ⟨w.heap.size+2,0,none⟩=some (.slice oa k oc)/\w16.cell? ⟨nb,0,none⟩=some A0/\w16.cell? ⟨nb,1,none⟩=some A1/\w16.cell? ⟨nb,2,none⟩=some A2/\w16.cell? ⟨nb,3,none⟩=some A3:=by
 obtain ⟨h0,h1,h2,h3,h4⟩:=hk R (Below.refl _ _)
 have hlt:=own_lt hst.own
 have hz2:=hst.ob.lt
 have b1:=cp_blk hst hz hb hg (w.heap.size+2) hz2 (fun e=>by have:=(hlt _ e).1;omega)
 have b2:=cp_blk hst hz hb hg nb hz.2.1 (fun e=>by have:=hz.2.2 _ e;omega)
 exact ⟨(World.cell?_of_block (a:=⟨w.heap.size+2,0,none⟩) b1).trans h0,(World.cell?_of_block (a:=⟨nb,0,none⟩) b2).trans h1,(World.cell?_of_block (a:=⟨nb,1,none⟩) b2).trans h2,(World.cell?_of_block (a:=⟨nb,2,none⟩) b2).trans h3,(World.cell?_of_block (a:=⟨nb,3,none⟩) b2).trans h4⟩
end

def RowN (B:Nat) (w:World) (a:Option Addr) (n:Nat) (N:Nat->Tn):Prop:=
 n=0\/∃g xs,a=some ⟨g,0,none⟩/\B<=g/\g<w.heap.size/\(∀j u,xs[j]?=some u->w.cell? ⟨g,j,none⟩=some u)/\FlAt (fun b=>B<=b) w n N xs
theorem RowN.rd {B:Nat} {w:World} {a:Option Addr} {n:Nat} {N:Nat->Tn} (h:RowN B w a n N):RdTn w a n N:=by
 rcases h with h|⟨g,xs,rfl,_,_,hc,hf⟩
 ·exact Or.inl h
 ·exact hf.rd hc
theorem RowN.keep {B B' : Nat} {w w' : World} {a:Option Addr} {n:Nat} {N:Nat->Tn} (h:RowN B w a n N) (hB:B'<=B) (hz:w.heap.size<=w'.heap.size) (hk:∀b,B<=b->b<w.heap.size->w'.heap[b]?=w.heap[b]?):RowN B' w' a n N:=by
 rcases h with h|⟨g,xs,rfl,h1,h2,hc,hf⟩
 ·exact Or.inl h
 ·exact Or.inr ⟨g,xs,rfl,by omega,by omega,fun j u hj=>(World.cell?_of_block (a:=⟨g,j,none⟩) (hk g h1 h2)).trans (hc j u hj),hf.mono hz (fun b hs hl=>⟨by omega,hk b hs hl⟩)⟩
theorem RowN.below {B:Nat} {w w' : World} {a:Option Addr} {n:Nat} {N:Nat->Tn} (h:RowN B w a n N) (hb:Below w.heap.size w w'):RowN B w' a n N:=
 h.keep (Nat.le_refl _) hb.size (fun b _ hl=>hb.block b hl)
theorem FlAt.rowN {B:Nat} {w:World} {n c:Nat} {a:Option Addr} {N:Nat->Tn} {xs:List Value} (ho:w.ownsRow B 168 4 (.slice a n c) n xs) (hf:FlAt (fun b=>B<=b) w n N xs):RowN B w a n N:=by
 obtain ⟨a',c',e,h⟩:=own_form ho
 injection e with e1 _ e2
 subst e1 e2
 by_cases h0:n=0
 ·exact Or.inl h0
 ·obtain ⟨g,rfl,h1,h2,h3⟩:=h h0
  exact Or.inr ⟨g,xs,rfl,h1,h2,h3,hf⟩
def RetNs (w:World) (n:Nat) (N:Nat->Tn) (e:Ending) (w' : World):Prop:=
 Below w.heap.size w w'/\∃a c,e=.returned (.agg #[.slice a n c])/\RowN (w.heap.size+2) w' a n N

set_option maxHeartbeats 8000000 in
theorem copyS_any (a:Option Addr) (n c:Nat) (N:Nat->Tn) (w:World) (h:RdTn w a n N) (hn:n<=1048576) (hN:∀i,i<n->TnFit (N i)) :
  Calls Tryz.prog 77 #[.agg #[.slice a n c]] w (RetNs w n N):=by
 have HR:Hid (RdTn w a n N/\∀i,i<n->TnFit (N i)):=⟨h,hN⟩
 clear h hN
 go_enter Tryz.func77,Tryz.ntmps77
 go_wp2
 have S0:Hid (CpSt w (((w.alloc (.cells #[.slice a n c] 59)).alloc (.cells #[.slice none 0 0] 59)).alloc (.cells #[.slice none 0 0] 59)) (.slice a n c) 0 N (.slice none 0 0) []):=by
  refine ⟨((Bx.new w _ _).alloc _).alloc _,?_,?_,⟨rfl,Or.inl ⟨rfl,rfl⟩⟩,⟨rfl,fun i hi=>absurd hi (Nat.not_lt_zero _)⟩,((below_alloc _ _).alloc (by simp) _).alloc (by simp;omega) _⟩
  ·have:=(Bx.new (w.alloc (.cells #[.slice a n c] 59)) #[.slice none 0 0] 59).alloc (.cells #[.slice none 0 0] 59)
   simpa using this
  ·have:=Bx.new ((w.alloc (.cells #[.slice a n c] 59)).alloc (.cells #[.slice none 0 0] 59)) #[.slice none 0 0] 59
   simpa using this
 go_loopw [4] (fun i wr=>∃(k:Nat) (oa:Option Addr) (oc:Nat) (xs:List Value),k<=n/\i=.int .i64 k/\CpSt w wr (.slice a n c) k N (.slice oa k oc) xs) (fun i _=>n-(intOf i).toNat)
 case atStart=>exact ⟨0,none,0,[],Nat.zero_le _,rfl,S0.out⟩
 case round=>
  obtain ⟨k,oa,oc,xs,hk,rfl,hst⟩:=hrel
  clear S0
  have x0:=hst.tb.cell 0
  simp at x0
  have xz:=hst.tb.lt
  have o0:=hst.ob.cell 0
  simp at o0
  have oz:=hst.ob.lt
  have H0:Hid (CpSt w wr (.slice a n c) k N (.slice oa k oc) xs):=hst
  clear hst
  by_cases hlt:k<n
  ·obtain ⟨b,o,rfl,hc⟩:=(HR.out.1.below H0.out.bel:RdTn wr a n N).resolve_left (by omega)
   obtain ⟨ka,kc,da,dc,c0,c1,c2,c3,c4,c5⟩:=hc k hlt
   have hfit:=HR.out.2 k hlt
   have i0:(0:Int)<=(k:Int):=by omega
   have i1:(k:Int)<(n:Int):=by omega
   have HRK0:Hid (RdS wr ka (N k).kn (gt (ksL (N k)))/\Rd .i64 wr da (N k).dn (gi (kdL (N k)))):=⟨c4.congr (fun j hj=>(gt_ksL (N k) j hj).symm),c5.congr (fun j hj=>(gi_kdL (N k) j hj).symm)⟩
   have hk20:k<=1048576:=by omega
   have HFit:Hid ((N k).kn<=1048576/\(N k).dn<=1048576):=⟨hfit.1,hfit.2⟩
   clear hc c4 c5 hfit
   go_upto_region 6 with fail
   obtain ⟨nb,hnb⟩:∃nb,nb=wr.heap.size:=⟨_,rfl⟩
   rw [<- hnb]
   have hbx:Bx (wr.alloc (.cells #[.bool (N k).lf,.slice ka (N k).kn kc,.slice da (N k).dn dc,.int .i64 (N k).ct] 168)) nb 168 #[.bool (N k).lf,.slice ka (N k).kn kc,.slice da (N k).dn dc,.int .i64 (N k).ct]:=by rw [hnb];exact Bx.new _ _ _
   have hb0:Below wr.heap.size wr (wr.alloc (.cells #[.bool (N k).lf,.slice ka (N k).kn kc,.slice da (N k).dn dc,.int .i64 (N k).ct] 168)):=below_alloc _ _
   generalize hW1:wr.alloc (.cells #[.bool (N k).lf,.slice ka (N k).kn kc,.slice da (N k).dn dc,.int .i64 (N k).ct] 168)=W1 at hbx hb0 ⊢
   have HST:Hid (CpSt w W1.drew (.slice (some ⟨b,o,none⟩) n c) k N (.slice oa k oc) xs):=(H0.out.below hb0).below (Below.refl _ _).drew
   have HZ:Hid (w.heap.size+3<=nb/\nb<W1.drew.heap.size/\∀g,(Value.slice oa k oc).ownBlock=some g->g<nb):=⟨by rw [hnb];exact oz,hbx.lt,fun g e=>by rw [hnb];exact (own_lt H0.out.own g e).2⟩
   have HRK:Hid (RdS W1.drew ka (N k).kn (gt (ksL (N k)))/\Rd .i64 W1.drew da (N k).dn (gi (kdL (N k)))):=⟨(HRK0.out.1.below hb0).below (Below.refl _ _).drew,(HRK0.out.2.below hb0).below (Below.refl _ _).drew⟩
   have HKeep:Hid (∀W',Below W1.drew.heap.size W1.drew W'->W'.cell? ⟨w.heap.size+2,0,none⟩=some (.slice oa k oc)/\W'.cell? ⟨nb,0,none⟩=some (.bool (N k).lf)/\W'.cell? ⟨nb,1,none⟩=some (.slice ka (N k).kn kc)/\W'.cell? ⟨nb,2,none⟩=some (.slice da (N k).dn dc)/\W'.cell? ⟨nb,3,none⟩=some (.int .i64 (N k).ct)):=by
    intro W' hW'
    have q:=hbx.drew.below hW'
    have q2:=HST.out.ob.below hW'
    exact ⟨by simpa using q2.cell 0,by simpa using q.cell 0,by simpa using q.cell 1,by simpa using q.cell 2,by simpa using q.cell 3⟩
   clear hbx hb0 HRK0 H0 x0 o0 c0 c1 c2 c3 hW1 hnb xz oz
   generalize hR:W1.drew=R at HST HZ HRK HKeep
   refine wp_region_late (S:=(fun w'=>w'.cell? ⟨w.heap.size+2,0,none⟩=some (.slice oa k oc)/\w'.cell? ⟨nb,0,none⟩=some (.bool (N k).lf)/\w'.cell? ⟨nb,1,none⟩=some (.slice ka (N k).kn kc)/\w'.cell? ⟨nb,2,none⟩=some (.slice da (N k).dn dc)/\w'.cell? ⟨nb,3,none⟩=some (.int .i64 (N k).ct))) 18 (by kernel_rfl) ?_ (fun hHeld=>?_)
   ·(rw [hR];exact HKeep.out _ (Below.refl _ _))
   rw [hR] at hHeld ⊢
   clear hR
   refine tk 0 .zero (v:=?_) ?_ ?_
   rotate_left
   ·(intro w h;(try dsimp only at h);go_simp) <;> with_reducible rfl
   simp only [tkp]
   refine tk 1 (.succ .zero) (v:=?_) ?_ ?_
   rotate_left
   ·(intro w h;(try dsimp only at h);go_simp) <;> with_reducible rfl
   simp only [tkp]
   refine tk 2 (.succ (.succ .zero)) (v:=?_) ?_ ?_
   rotate_left
   ·(intro w h;(try dsimp only at h);go_simp) <;> with_reducible rfl
   simp only [tkp]
   refine tk 3 (.succ (.succ (.succ .zero))) (v:=?_) ?_ ?_
   rotate_left
   ·(intro w h;(try dsimp only at h);go_simp) <;> with_reducible rfl
   simp only [tkp]
   refine tk 5 (.s5 .zero) (v:=?_) ?_ ?_
   rotate_left
   ·(intro w h;(try dsimp only at h);go_simp) <;> with_reducible rfl
   simp only [tkp]
   refine tk 6 (.s5 (.succ .zero)) (v:=?_) ?_ ?_
   rotate_left
   ·(intro w h;(try dsimp only at h);go_simp) <;> with_reducible rfl
   simp only [tkp]
   refine tk 9 (.s5 (.succ (.succ (.succ (.succ .zero))))) (v:=?_) ?_ ?_
   rotate_left
   ·(intro w h;(try dsimp only at h);go_simp) <;> with_reducible rfl
   simp only [tkp]
   refine tk 10 (.s5 (.s5 .zero)) (v:=?_) ?_ ?_
   rotate_left
   ·(intro w h;(try dsimp only at h);go_simp) <;> with_reducible rfl
   simp only [tkp]
   refine tk 12 (.s5 (.s5 (.succ (.succ .zero)))) (v:=?_) ?_ ?_
   rotate_left
   ·(intro w h;(try dsimp only at h);go_simp) <;> with_reducible rfl
   simp only [tkp]
   refine tk 13 (.s5 (.s5 (.succ (.succ (.succ .zero))))) (v:=?_) ?_ ?_
   rotate_left
   ·(intro w h;(try dsimp only at h);go_simp) <;> with_reducible rfl
   simp only [tkp]
   refine late_two 4 8 (.succ (.succ (.succ (.succ .zero)))) (.s5 (.succ (.succ (.succ .zero)))) (by kernel_rfl) (fun K hK=>?_) (fun K hK=>?_)
   ·skip
    go_simp
    have bel_4:Below R.heap.size R (R.alloc (.cells #[] 9)):=(Below.refl R.heap.size R).alloc (Below.refl R.heap.size R).size _
    have ownA_4:(R.alloc (.cells #[] 9)).ownsRow R.heap.size 9 1 (.slice (some ⟨R.heap.size,0,none⟩) 0 0) 0 []:=by simpa using own_empty R 9 R.heap.size 1 (Below.refl R.heap.size R).size
    refine hK.out _ _ ?_ (fun hG=>?_)
    ·(intro _;exact HKeep.out _ bel_4)
    clear hK K
    replace hHeld:=hG (by decide)
    clear hG
    try simp only [tkp]
    refine late_two 7 8 (.s5 (.succ (.succ .zero))) (.s5 (.succ (.succ (.succ .zero)))) (by kernel_rfl) (fun K hK=>?_) (fun K hK=>?_)
    ·skip
     refine step_app_strs (by rfl) (.tmp 23) (.tmp 25) (by rfl) R.heap.size (.slice (some ⟨R.heap.size,0,none⟩) 0 0) 0 [] (by rfl) ownA_4 ka (N k).kn kc (ksL (N k)) (by rfl) (ksL_length _).symm (HRK.out.1.below (bel_4)) (by have:=HFit.out;omega) bel_4.size ?_
     intro v7_4_7 w7_4_7 ho_4_7 hg_4_7
     rw [Nat.zero_add,List.nil_append] at ho_4_7
     have bel_4_7:Below R.heap.size R w7_4_7:=bel_4.grown hg_4_7 bel_4.size (fun g e=>(own_lt ownA_4 g e).1)
     refine hK.out _ _ ?_ (fun hG=>?_)
     ·(intro _;exact HKeep.out _ bel_4_7)
     clear hK K
     replace hHeld:=hG (by decide)
     clear hG
     try simp only [tkp]
     refine tk1 8 (.s5 (.succ (.succ (.succ .zero)))) (fun K hK=>?_)
     go_simp
     have bel_4_7_8:Below R.heap.size R (w7_4_7.alloc (.cells #[] 2)):=bel_4_7.alloc bel_4_7.size _
     have ownB_4_7_8:(w7_4_7.alloc (.cells #[] 2)).ownsRow R.heap.size 2 1 (.slice (some ⟨w7_4_7.heap.size,0,none⟩) 0 0) 0 []:=by simpa using own_empty w7_4_7 2 R.heap.size 1 bel_4_7.size
     have ownA_4_7_8:=own_below ho_4_7 (below_alloc w7_4_7 (.cells #[] 2))
     refine hK.out _ _ ?_ (fun hG=>?_)
     ·(intro _;exact HKeep.out _ bel_4_7_8)
     clear hK K
     replace hHeld:=hG (by decide)
     clear hG
     try simp only [tkp]
     refine tk1 11 (.s5 (.s5 (.succ .zero))) (fun K hK=>?_)
     refine step_app_ints (by rfl) (.tmp 27) (.tmp 29) (by rfl) R.heap.size (.slice (some ⟨w7_4_7.heap.size,0,none⟩) 0 0) 0 [] (by rfl) ownB_4_7_8 da (N k).dn dc (kdL (N k)) (by rfl) (kdL_length _).symm (HRK.out.2.below (bel_4_7_8)) (by have:=HFit.out;omega) bel_4_7_8.size ?_
     intro v11_4_7_8_11 w11_4_7_8_11 ho_4_7_8_11 hg_4_7_8_11
     rw [Nat.zero_add,List.nil_append] at ho_4_7_8_11
     have bel_4_7_8_11:Below R.heap.size R w11_4_7_8_11:=bel_4_7_8.grown hg_4_7_8_11 bel_4_7_8.size (fun g e=>(own_lt ownB_4_7_8 g e).1)
     have ownA_4_7_8_11:=own_other ownA_4_7_8 ownB_4_7_8 (by decide) hg_4_7_8_11
     refine hK.out _ _ ?_ (fun hG=>?_)
     ·(intro _;exact HKeep.out _ bel_4_7_8_11)
     clear hK K
     replace hHeld:=hG (by decide)
     clear hG
     try simp only [tkp]
     obtain ⟨aA,cA,eA,hrA⟩:=ownS_rdX ownA_4_7_8_11 (ksL_length _).symm (N k).ks (fun i hi=>gt_ksL (N k) i hi)
     obtain ⟨aB,cB,eB,hrB⟩:=ownI_rdX ho_4_7_8_11 (kdL_length _).symm (N k).kd (fun i hi=>gi_kdL (N k) i hi)
     have ltA:=own_lt ownA_4_7_8_11
     have ltB:=own_lt ho_4_7_8_11
     rw [eA] at hrA ltA
     rw [eB] at hrB ltB
     subst eA eB
     refine late_one 14 (.s5 (.s5 (.succ (.succ (.succ (.succ .zero)))))) (by kernel_rfl) (fun K hK=>?_)
     go_simp
     refine hK.out _ _ ?_ (fun hG=>?_)
     ·(intro _;exact HKeep.out _ bel_4_7_8_11)
     clear hK K
     replace hHeld:=hG (by decide)
     clear hG
     try simp only [tkp]
     refine tk1 15 (.s5 (.s5 (.s5 .zero))) (fun K hK=>?_)
     go_simp
     refine hK.out _ _ ?_ (fun hG=>?_)
     ·(intro _;exact HKeep.out _ (bel_4_7_8_11.alloc bel_4_7_8_11.size _))
     clear hK K
     replace hHeld:=hG (by decide)
     clear hG
     try simp only [tkp]
     refine tk1 16 (.s5 (.s5 (.s5 (.succ .zero)))) (fun K hK=>?_)
     have bel16:Below R.heap.size R (w11_4_7_8_11.alloc (.cells #[.bool (N k).lf,.slice aA (N k).kn cA,.slice aB (N k).dn cB,.int .i64 (N k).ct] 168)):=bel_4_7_8_11.alloc bel_4_7_8_11.size _
     refine step_app_node (by rfl) (.tmp 20) (.tmp 34) (by rfl) (w.heap.size+3) (.slice oa k oc) k xs (by rfl) (own_below HST.out.own bel16) w11_4_7_8_11.heap.size 1 (.bool (N k).lf) (.slice aA (N k).kn cA) (.slice aB (N k).dn cB) (.int .i64 (N k).ct) (by rfl) (fun j u hj=>by rw [(Bx.new w11_4_7_8_11 #[.bool (N k).lf,.slice aA (N k).kn cA,.slice aB (N k).dn cB,.int .i64 (N k).ct] 168).cell j];simpa using hj) (by intro u hu;simp at hu;rcases hu with rfl|rfl|rfl|rfl <;> rfl) hk20 (by have:=bel16.size;have:=HZ.out;omega) ?_
     intro v16 w16 ho16 hg16 hat16
     obtain ⟨a16,c16,e16,_⟩:=own_form ho16
     subst e16
     have HNX:Hid (CpSt w (w16.setCell ⟨w.heap.size+2,0,none⟩ (.slice a16 (k+1) c16)) (.slice (some ⟨b,o,none⟩) n c) (k+1) N (.slice a16 (k+1) c16) (xs++[.bool (N k).lf,.slice aA (N k).kn cA,.slice aB (N k).dn cB,.int .i64 (N k).ct])/\w16.cell? ⟨w.heap.size+2,0,none⟩=some (.slice oa k oc)/\Bx w16 (w.heap.size+2) 59 #[.slice oa k oc]):=cp_next HST.out HZ.out bel_4_7_8_11 (hrA) (hrB) ltA ltB ho16 hg16 hat16
     have x16:=HNX.out.2.1
     refine hK.out _ _ ?_ (fun hG=>?_)
     ·(intro _;exact cp_held HST.out HZ.out bel_4_7_8_11 HKeep.out hg16)
     clear hK K
     replace hHeld:=hG (by decide)
     clear hG
     try simp only [tkp]
     have f16:w16.frozen? ⟨w.heap.size+2,0,none⟩=false:=HNX.out.2.2.frozen 0
     refine tk1 17 (.s5 (.s5 (.s5 (.succ (.succ .zero))))) (fun K hK=>?_)
     go_simp
     refine hK.out _ _ ?_ (fun hG=>?_)
     ·(intro _;exact hHeld)
     clear hK K
     replace hHeld:=hG (by decide)
     clear hG
     try simp only [tkp]
     refine late_one 18 (.s5 (.s5 (.s5 (.succ (.succ (.succ .zero)))))) (by kernel_rfl) (fun K hK=>?_)
     go_simp
     refine hK.out _ _ ?_ (fun hG=>?_)
     ·(intro hne;exact absurd rfl hne)
     clear hK K hG
     refine wpLate_done (by kernel_rfl) ?_ _
     clear ho16 hg16 hat16 hHeld
     go_wp2
     go_roundw
     case rel=>exact ⟨k+1,a16,c16,_,by omega,by go_num,HNX.out.1⟩
     case measure=>simp [intOf];omega
    ·skip
     go_simp
     have bel_4_8:Below R.heap.size R ((R.alloc (.cells #[] 9)).alloc (.cells #[] 2)):=bel_4.alloc bel_4.size _
     have ownB_4_8:((R.alloc (.cells #[] 9)).alloc (.cells #[] 2)).ownsRow R.heap.size 2 1 (.slice (some ⟨R.heap.size+1,0,none⟩) 0 0) 0 []:=by simpa using own_empty (R.alloc (.cells #[] 9)) 2 R.heap.size 1 bel_4.size
     have ownA_4_8:=own_below ownA_4 (below_alloc (R.alloc (.cells #[] 9)) (.cells #[] 2))
     refine hK.out _ _ ?_ (fun hG=>?_)
     ·(intro _;exact HKeep.out _ bel_4_8)
     clear hK K
     replace hHeld:=hG (by decide)
     clear hG
     try simp only [tkp]
     refine tk1 7 (.s5 (.succ (.succ .zero))) (fun K hK=>?_)
     refine step_app_strs (by rfl) (.tmp 23) (.tmp 25) (by rfl) R.heap.size (.slice (some ⟨R.heap.size,0,none⟩) 0 0) 0 [] (by rfl) ownA_4_8 ka (N k).kn kc (ksL (N k)) (by rfl) (ksL_length _).symm (HRK.out.1.below (bel_4_8)) (by have:=HFit.out;omega) bel_4_8.size ?_
     intro v7_4_8_7 w7_4_8_7 ho_4_8_7 hg_4_8_7
     rw [Nat.zero_add,List.nil_append] at ho_4_8_7
     have bel_4_8_7:Below R.heap.size R w7_4_8_7:=bel_4_8.grown hg_4_8_7 bel_4_8.size (fun g e=>(own_lt ownA_4_8 g e).1)
     have ownB_4_8_7:=own_other ownB_4_8 ownA_4_8 (by decide) hg_4_8_7
     refine hK.out _ _ ?_ (fun hG=>?_)
     ·(intro _;exact HKeep.out _ bel_4_8_7)
     clear hK K
     replace hHeld:=hG (by decide)
     clear hG
     try simp only [tkp]
     refine tk1 11 (.s5 (.s5 (.succ .zero))) (fun K hK=>?_)
     refine step_app_ints (by rfl) (.tmp 27) (.tmp 29) (by rfl) R.heap.size (.slice (some ⟨R.heap.size+1,0,none⟩) 0 0) 0 [] (by rfl) ownB_4_8_7 da (N k).dn dc (kdL (N k)) (by rfl) (kdL_length _).symm (HRK.out.2.below (bel_4_8_7)) (by have:=HFit.out;omega) bel_4_8_7.size ?_
     intro v11_4_8_7_11 w11_4_8_7_11 ho_4_8_7_11 hg_4_8_7_11
     rw [Nat.zero_add,List.nil_append] at ho_4_8_7_11
     have bel_4_8_7_11:Below R.heap.size R w11_4_8_7_11:=bel_4_8_7.grown hg_4_8_7_11 bel_4_8_7.size (fun g e=>(own_lt ownB_4_8_7 g e).1)
     have ownA_4_8_7_11:=own_other ho_4_8_7 ownB_4_8_7 (by decide) hg_4_8_7_11
     refine hK.out _ _ ?_ (fun hG=>?_)
     ·(intro _;exact HKeep.out _ bel_4_8_7_11)
     clear hK K
     replace hHeld:=hG (by decide)
     clear hG
     try simp only [tkp]
     obtain ⟨aA,cA,eA,hrA⟩:=ownS_rdX ownA_4_8_7_11 (ksL_length _).symm (N k).ks (fun i hi=>gt_ksL (N k) i hi)
     obtain ⟨aB,cB,eB,hrB⟩:=ownI_rdX ho_4_8_7_11 (kdL_length _).symm (N k).kd (fun i hi=>gi_kdL (N k) i hi)
     have ltA:=own_lt ownA_4_8_7_11
     have ltB:=own_lt ho_4_8_7_11
     rw [eA] at hrA ltA
     rw [eB] at hrB ltB
     subst eA eB
     refine late_one 14 (.s5 (.s5 (.succ (.succ (.succ (.succ .zero)))))) (by kernel_rfl) (fun K hK=>?_)
     go_simp
     refine hK.out _ _ ?_ (fun hG=>?_)
     ·(intro _;exact HKeep.out _ bel_4_8_7_11)
     clear hK K
     replace hHeld:=hG (by decide)
     clear hG
     try simp only [tkp]
     refine tk1 15 (.s5 (.s5 (.s5 .zero))) (fun K hK=>?_)
     go_simp
     refine hK.out _ _ ?_ (fun hG=>?_)
     ·(intro _;exact HKeep.out _ (bel_4_8_7_11.alloc bel_4_8_7_11.size _))
     clear hK K
     replace hHeld:=hG (by decide)
     clear hG
     try simp only [tkp]
     refine tk1 16 (.s5 (.s5 (.s5 (.succ .zero)))) (fun K hK=>?_)
     have bel16:Below R.heap.size R (w11_4_8_7_11.alloc (.cells #[.bool (N k).lf,.slice aA (N k).kn cA,.slice aB (N k).dn cB,.int .i64 (N k).ct] 168)):=bel_4_8_7_11.alloc bel_4_8_7_11.size _
     refine step_app_node (by rfl) (.tmp 20) (.tmp 34) (by rfl) (w.heap.size+3) (.slice oa k oc) k xs (by rfl) (own_below HST.out.own bel16) w11_4_8_7_11.heap.size 1 (.bool (N k).lf) (.slice aA (N k).kn cA) (.slice aB (N k).dn cB) (.int .i64 (N k).ct) (by rfl) (fun j u hj=>by rw [(Bx.new w11_4_8_7_11 #[.bool (N k).lf,.slice aA (N k).kn cA,.slice aB (N k).dn cB,.int .i64 (N k).ct] 168).cell j];simpa using hj) (by intro u hu;simp at hu;rcases hu with rfl|rfl|rfl|rfl <;> rfl) hk20 (by have:=bel16.size;have:=HZ.out;omega) ?_
     intro v16 w16 ho16 hg16 hat16
     obtain ⟨a16,c16,e16,_⟩:=own_form ho16
     subst e16
     have HNX:Hid (CpSt w (w16.setCell ⟨w.heap.size+2,0,none⟩ (.slice a16 (k+1) c16)) (.slice (some ⟨b,o,none⟩) n c) (k+1) N (.slice a16 (k+1) c16) (xs++[.bool (N k).lf,.slice aA (N k).kn cA,.slice aB (N k).dn cB,.int .i64 (N k).ct])/\w16.cell? ⟨w.heap.size+2,0,none⟩=some (.slice oa k oc)/\Bx w16 (w.heap.size+2) 59 #[.slice oa k oc]):=cp_next HST.out HZ.out bel_4_8_7_11 (hrA) (hrB) ltA ltB ho16 hg16 hat16
     have x16:=HNX.out.2.1
     refine hK.out _ _ ?_ (fun hG=>?_)
     ·(intro _;exact cp_held HST.out HZ.out bel_4_8_7_11 HKeep.out hg16)
     clear hK K
     replace hHeld:=hG (by decide)
     clear hG
     try simp only [tkp]
     have f16:w16.frozen? ⟨w.heap.size+2,0,none⟩=false:=HNX.out.2.2.frozen 0
     refine tk1 17 (.s5 (.s5 (.s5 (.succ (.succ .zero))))) (fun K hK=>?_)
     go_simp
     refine hK.out _ _ ?_ (fun hG=>?_)
     ·(intro _;exact hHeld)
     clear hK K
     replace hHeld:=hG (by decide)
     clear hG
     try simp only [tkp]
     refine late_one 18 (.s5 (.s5 (.s5 (.succ (.succ (.succ .zero)))))) (by kernel_rfl) (fun K hK=>?_)
     go_simp
     refine hK.out _ _ ?_ (fun hG=>?_)
     ·(intro hne;exact absurd rfl hne)
     clear hK K hG
     refine wpLate_done (by kernel_rfl) ?_ _
     clear ho16 hg16 hat16 hHeld
     go_wp2
     go_roundw
     case rel=>exact ⟨k+1,a16,c16,_,by omega,by go_num,HNX.out.1⟩
     case measure=>simp [intOf];omega
   ·skip
    go_simp
    have bel_8:Below R.heap.size R (R.alloc (.cells #[] 2)):=(Below.refl R.heap.size R).alloc (Below.refl R.heap.size R).size _
    have ownB_8:(R.alloc (.cells #[] 2)).ownsRow R.heap.size 2 1 (.slice (some ⟨R.heap.size,0,none⟩) 0 0) 0 []:=by simpa using own_empty R 2 R.heap.size 1 (Below.refl R.heap.size R).size
    refine hK.out _ _ ?_ (fun hG=>?_)
    ·(intro _;exact HKeep.out _ bel_8)
    clear hK K
    replace hHeld:=hG (by decide)
    clear hG
    try simp only [tkp]
    refine tk1 4 (.succ (.succ (.succ (.succ .zero)))) (fun K hK=>?_)
    go_simp
    have bel_8_4:Below R.heap.size R ((R.alloc (.cells #[] 2)).alloc (.cells #[] 9)):=bel_8.alloc bel_8.size _
    have ownA_8_4:((R.alloc (.cells #[] 2)).alloc (.cells #[] 9)).ownsRow R.heap.size 9 1 (.slice (some ⟨R.heap.size+1,0,none⟩) 0 0) 0 []:=by simpa using own_empty (R.alloc (.cells #[] 2)) 9 R.heap.size 1 bel_8.size
    have ownB_8_4:=own_below ownB_8 (below_alloc (R.alloc (.cells #[] 2)) (.cells #[] 9))
    refine hK.out _ _ ?_ (fun hG=>?_)
    ·(intro _;exact HKeep.out _ bel_8_4)
    clear hK K
    replace hHeld:=hG (by decide)
    clear hG
    try simp only [tkp]
    refine tk1 7 (.s5 (.succ (.succ .zero))) (fun K hK=>?_)
    refine step_app_strs (by rfl) (.tmp 23) (.tmp 25) (by rfl) R.heap.size (.slice (some ⟨R.heap.size+1,0,none⟩) 0 0) 0 [] (by rfl) ownA_8_4 ka (N k).kn kc (ksL (N k)) (by rfl) (ksL_length _).symm (HRK.out.1.below (bel_8_4)) (by have:=HFit.out;omega) bel_8_4.size ?_
    intro v7_8_4_7 w7_8_4_7 ho_8_4_7 hg_8_4_7
    rw [Nat.zero_add,List.nil_append] at ho_8_4_7
    have bel_8_4_7:Below R.heap.size R w7_8_4_7:=bel_8_4.grown hg_8_4_7 bel_8_4.size (fun g e=>(own_lt ownA_8_4 g e).1)
    have ownB_8_4_7:=own_other ownB_8_4 ownA_8_4 (by decide) hg_8_4_7
    refine hK.out _ _ ?_ (fun hG=>?_)
    ·(intro _;exact HKeep.out _ bel_8_4_7)
    clear hK K
    replace hHeld:=hG (by decide)
    clear hG
    try simp only [tkp]
    refine tk1 11 (.s5 (.s5 (.succ .zero))) (fun K hK=>?_)
    refine step_app_ints (by rfl) (.tmp 27) (.tmp 29) (by rfl) R.heap.size (.slice (some ⟨R.heap.size,0,none⟩) 0 0) 0 [] (by rfl) ownB_8_4_7 da (N k).dn dc (kdL (N k)) (by rfl) (kdL_length _).symm (HRK.out.2.below (bel_8_4_7)) (by have:=HFit.out;omega) bel_8_4_7.size ?_
    intro v11_8_4_7_11 w11_8_4_7_11 ho_8_4_7_11 hg_8_4_7_11
    rw [Nat.zero_add,List.nil_append] at ho_8_4_7_11
    have bel_8_4_7_11:Below R.heap.size R w11_8_4_7_11:=bel_8_4_7.grown hg_8_4_7_11 bel_8_4_7.size (fun g e=>(own_lt ownB_8_4_7 g e).1)
    have ownA_8_4_7_11:=own_other ho_8_4_7 ownB_8_4_7 (by decide) hg_8_4_7_11
    refine hK.out _ _ ?_ (fun hG=>?_)
    ·(intro _;exact HKeep.out _ bel_8_4_7_11)
    clear hK K
    replace hHeld:=hG (by decide)
    clear hG
    try simp only [tkp]
    obtain ⟨aA,cA,eA,hrA⟩:=ownS_rdX ownA_8_4_7_11 (ksL_length _).symm (N k).ks (fun i hi=>gt_ksL (N k) i hi)
    obtain ⟨aB,cB,eB,hrB⟩:=ownI_rdX ho_8_4_7_11 (kdL_length _).symm (N k).kd (fun i hi=>gi_kdL (N k) i hi)
    have ltA:=own_lt ownA_8_4_7_11
    have ltB:=own_lt ho_8_4_7_11
    rw [eA] at hrA ltA
    rw [eB] at hrB ltB
    subst eA eB
    refine late_one 14 (.s5 (.s5 (.succ (.succ (.succ (.succ .zero)))))) (by kernel_rfl) (fun K hK=>?_)
    go_simp
    refine hK.out _ _ ?_ (fun hG=>?_)
    ·(intro _;exact HKeep.out _ bel_8_4_7_11)
    clear hK K
    replace hHeld:=hG (by decide)
    clear hG
    try simp only [tkp]
    refine tk1 15 (.s5 (.s5 (.s5 .zero))) (fun K hK=>?_)
    go_simp
    refine hK.out _ _ ?_ (fun hG=>?_)
    ·(intro _;exact HKeep.out _ (bel_8_4_7_11.alloc bel_8_4_7_11.size _))
    clear hK K
    replace hHeld:=hG (by decide)
    clear hG
    try simp only [tkp]
    refine tk1 16 (.s5 (.s5 (.s5 (.succ .zero)))) (fun K hK=>?_)
    have bel16:Below R.heap.size R (w11_8_4_7_11.alloc (.cells #[.bool (N k).lf,.slice aA (N k).kn cA,.slice aB (N k).dn cB,.int .i64 (N k).ct] 168)):=bel_8_4_7_11.alloc bel_8_4_7_11.size _
    refine step_app_node (by rfl) (.tmp 20) (.tmp 34) (by rfl) (w.heap.size+3) (.slice oa k oc) k xs (by rfl) (own_below HST.out.own bel16) w11_8_4_7_11.heap.size 1 (.bool (N k).lf) (.slice aA (N k).kn cA) (.slice aB (N k).dn cB) (.int .i64 (N k).ct) (by rfl) (fun j u hj=>by rw [(Bx.new w11_8_4_7_11 #[.bool (N k).lf,.slice aA (N k).kn cA,.slice aB (N k).dn cB,.int .i64 (N k).ct] 168).cell j];simpa using hj) (by intro u hu;simp at hu;rcases hu with rfl|rfl|rfl|rfl <;> rfl) hk20 (by have:=bel16.size;have:=HZ.out;omega) ?_
    intro v16 w16 ho16 hg16 hat16
    obtain ⟨a16,c16,e16,_⟩:=own_form ho16
    subst e16
    have HNX:Hid (CpSt w (w16.setCell ⟨w.heap.size+2,0,none⟩ (.slice a16 (k+1) c16)) (.slice (some ⟨b,o,none⟩) n c) (k+1) N (.slice a16 (k+1) c16) (xs++[.bool (N k).lf,.slice aA (N k).kn cA,.slice aB (N k).dn cB,.int .i64 (N k).ct])/\w16.cell? ⟨w.heap.size+2,0,none⟩=some (.slice oa k oc)/\Bx w16 (w.heap.size+2) 59 #[.slice oa k oc]):=cp_next HST.out HZ.out bel_8_4_7_11 (hrA) (hrB) ltA ltB ho16 hg16 hat16
    have x16:=HNX.out.2.1
    refine hK.out _ _ ?_ (fun hG=>?_)
    ·(intro _;exact cp_held HST.out HZ.out bel_8_4_7_11 HKeep.out hg16)
    clear hK K
    replace hHeld:=hG (by decide)
    clear hG
    try simp only [tkp]
    have f16:w16.frozen? ⟨w.heap.size+2,0,none⟩=false:=HNX.out.2.2.frozen 0
    refine tk1 17 (.s5 (.s5 (.s5 (.succ (.succ .zero))))) (fun K hK=>?_)
    go_simp
    refine hK.out _ _ ?_ (fun hG=>?_)
    ·(intro _;exact hHeld)
    clear hK K
    replace hHeld:=hG (by decide)
    clear hG
    try simp only [tkp]
    refine late_one 18 (.s5 (.s5 (.s5 (.succ (.succ (.succ .zero)))))) (by kernel_rfl) (fun K hK=>?_)
    go_simp
    refine hK.out _ _ ?_ (fun hG=>?_)
    ·(intro hne;exact absurd rfl hne)
    clear hK K hG
    refine wpLate_done (by kernel_rfl) ?_ _
    clear ho16 hg16 hat16 hHeld
    go_wp2
    go_roundw
    case rel=>exact ⟨k+1,a16,c16,_,by omega,by go_num,HNX.out.1⟩
    case measure=>simp [intOf];omega
  ·have e:k=n:=by omega
   subst e
   have y0:=H0.out.ob.cell 0
   have z0:=H0.out.rb.cell 0
   simp at y0 z0
   have zf:=H0.out.rb.frozen 0
   have zl:=H0.out.rb.lt
   go_wp2
   refine bodyPost_ret (v:=.agg #[.slice oa k oc]) (by simp [results,Tryz.results77,go_sem,z0]) rfl ⟨H0.out.bel.setCell (by simp) _,oa,oc,rfl,?_⟩
   refine (FlAt.rowN (B:=w.heap.size+3) H0.out.own (H0.out.fl.mono (Nat.le_refl _) (fun b hs _=>⟨hs.1,rfl⟩))).keep (by omega) (by simp [World.setCell]) (fun b hb _=>Below.heap_setCell _ _ _ _ (show b≠w.heap.size+1 by omega))
end Go.Proofs.YtcnollkkigiobaaGreat
