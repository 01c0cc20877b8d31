import Derived.Test.YtcnollkkigiobaaGreatNv41
set_option linter.unusedVariables false
set_option linter.unusedSimpArgs false
set_option maxRecDepth 100000
set_option maxHeartbeats 90000000
namespace Go.Proofs.YtcnollkkigiobaaGreat
open Go Go.Deep Go.RowKit Go.Proofs.Tryz
theorem LF {Z g:Nat} {w:World} (h:Dw Z g w) (S:Z<=w.heap.size) (q:Qd):UO 54 #[pt g,qv q] w (NH Z g w):=by
 obtain⟨s,p,o,k⟩:=q;have I:U (PB Z g w w.heap.size s p o k ((w.alloc (.cells #[iv s,iv p,iv o,iv k] 34)).alloc (.cells #[iv 0,iv 0,iv 0,iv 0] 34))):=by have d:=DB.new h 34 34 #[iv s,iv p,iv o,iv k] #[iv 0,iv 0,iv 0,iv 0];exact⟨d.dr,d.fr,d.a,d.b,S,Uq _,by omega⟩
 clear h S;show UO 54 #[pt g,.agg #[iv s,iv p,iv o,iv k]] w (NH Z g w);go_enter func54,ntmps54;go_upto_region 1 with fail
 generalize (w.alloc (.cells #[iv s,iv p,iv o,iv k] 34)).alloc (.cells #[iv 0,iv 0,iv 0,iv 0] 34)=W0 at I ⊢;go_wp2_with fail
 refine (Bd I.o.dr 16 (by omega) (by omega)).mono ?_;rintro e l ⟨_,rfl,⟨x,rfl,W⟩,C,F⟩;have f:=Ae (I.o.draw C F);clear C F I;obtain⟨i,D⟩:∃i:Int,(x:Int)=i:=⟨_,rfl⟩;rw[D];have P:i=0\/i=1\/i=2\/i=3\/i=4\/i=5\/i=6\/i=7\/i=8\/i=9\/i=10\/i=11\/i=12\/i=13\/i=14\/i=15:=by omega
 clear W D;have n:=f.o.t.cell 0;have z:=f.o.t.cell 1;have A:=f.o.t.cell 2;have u:=f.o.t.cell 3;simp at n z A u;have Q:=f.o.t.frozen;have R:=f.o.t.lt;go_upto_region 2 with fail
 rcases P with rfl|rfl|rfl|rfl|rfl|rfl|rfl|rfl|rfl|rfl|rfl|rfl|rfl|rfl|rfl|rfl;all_goals go_upto_region 10 with fail
 have c:=Ae (f.o);generalize l=V at c ⊢;rotate_left;have c:=Ae ((f.o).set0 0);generalize (l).setCell (ad w.heap.size 0) (iv 0)=V at c ⊢;rotate_left;have c:=Ae ((f.o).set1 0);generalize (l).setCell (ad w.heap.size 1) (iv 0)=V at c ⊢;rotate_left;have c:=Ae (((f.o).set0 0).set1 0);generalize ((l).setCell (ad w.heap.size 0) (iv 0)).setCell (ad w.heap.size 1) (iv 0)=V at c ⊢;rotate_left;have c:=Ae ((f.o).set2 0);generalize (l).setCell (ad w.heap.size 2) (iv 0)=V at c ⊢;rotate_left;have c:=Ae (((f.o).set0 0).set2 0);generalize ((l).setCell (ad w.heap.size 0) (iv 0)).setCell (ad w.heap.size 2) (iv 0)=V at c ⊢;rotate_left;have c:=Ae (((f.o).set1 0).set2 0);generalize ((l).setCell (ad w.heap.size 1) (iv 0)).setCell (ad w.heap.size 2) (iv 0)=V at c ⊢;rotate_left;have c:=Ae ((((f.o).set0 0).set1 0).set2 0);generalize (((l).setCell (ad w.heap.size 0) (iv 0)).setCell (ad w.heap.size 1) (iv 0)).setCell (ad w.heap.size 2) (iv 0)=V at c ⊢;rotate_left;have c:=Ae ((f.o).set3 0);generalize (l).setCell (ad w.heap.size 3) (iv 0)=V at c ⊢;rotate_left;have c:=Ae (((f.o).set0 0).set3 0);generalize ((l).setCell (ad w.heap.size 0) (iv 0)).setCell (ad w.heap.size 3) (iv 0)=V at c ⊢;rotate_left;have c:=Ae (((f.o).set1 0).set3 0);generalize ((l).setCell (ad w.heap.size 1) (iv 0)).setCell (ad w.heap.size 3) (iv 0)=V at c ⊢;rotate_left;have c:=Ae ((((f.o).set0 0).set1 0).set3 0);generalize (((l).setCell (ad w.heap.size 0) (iv 0)).setCell (ad w.heap.size 1) (iv 0)).setCell (ad w.heap.size 3) (iv 0)=V at c ⊢;rotate_left;have c:=Ae (((f.o).set2 0).set3 0);generalize ((l).setCell (ad w.heap.size 2) (iv 0)).setCell (ad w.heap.size 3) (iv 0)=V at c ⊢;rotate_left;have c:=Ae ((((f.o).set0 0).set2 0).set3 0);generalize (((l).setCell (ad w.heap.size 0) (iv 0)).setCell (ad w.heap.size 2) (iv 0)).setCell (ad w.heap.size 3) (iv 0)=V at c ⊢;rotate_left;have c:=Ae ((((f.o).set1 0).set2 0).set3 0);generalize (((l).setCell (ad w.heap.size 1) (iv 0)).setCell (ad w.heap.size 2) (iv 0)).setCell (ad w.heap.size 3) (iv 0)=V at c ⊢;rotate_left;have c:=Ae (((((f.o).set0 0).set1 0).set2 0).set3 0);generalize ((((l).setCell (ad w.heap.size 0) (iv 0)).setCell (ad w.heap.size 1) (iv 0)).setCell (ad w.heap.size 2) (iv 0)).setCell (ad w.heap.size 3) (iv 0)=V at c ⊢;rotate_left;all_goals
  obtain⟨N,L,K,J,M⟩:∃N L K J,U (PB Z g w w.heap.size N L K J V):=⟨_,_,_,_,c⟩
  clear c n z A u Q R f
  go_wp2_with fail
  refine (Eb M.o.dr 25 (by omega) (by omega)).mono ?_
  rintro e T ⟨_,rfl,⟨y,rfl⟩,C,F⟩
  have j:=Ae (M.o.draw C F)
  clear C F M
  cases y
  .have n:=j.o.t.cell 0
   have z:=j.o.t.cell 1
   have A:=j.o.t.cell 2
   have u:=j.o.t.cell 3
   have G:=j.o.r.cell 0
   have E:=j.o.r.cell 1
   have H:=j.o.r.cell 2
   have B:=j.o.r.cell 3
   simp at n z A u G E H B
   have X:=j.o.r.frozen
   have Y:=j.o.r.lt
   have O:=Ae j.o.ret
   clear j
   go_wp2
   refine bodyPost_ret (v:=.agg #[iv N,iv L,iv K,iv J]) (by simp[results,results54,go_sem,G,E,H,B]) rfl ?_
   exact O.o
  .have n:=j.o.t.cell 0
   simp at n
   have Q:=j.o.t.frozen
   have R:=j.o.t.lt
   have m:=Ae (j.o.set0 (-1))
   clear j
   go_upto_region 12 with fail
   generalize T.setCell (ad w.heap.size 0) (iv (-1))=V4 at m ⊢
   clear n Q R
   have n:=m.o.t.cell 0
   have z:=m.o.t.cell 1
   have A:=m.o.t.cell 2
   have u:=m.o.t.cell 3
   have G:=m.o.r.cell 0
   have E:=m.o.r.cell 1
   have H:=m.o.r.cell 2
   have B:=m.o.r.cell 3
   simp at n z A u G E H B
   have X:=m.o.r.frozen
   have Y:=m.o.r.lt
   have O:=Ae m.o.ret
   clear m
   go_wp2
   refine bodyPost_ret (v:=.agg #[iv (-1),iv L,iv K,iv J]) (by simp[results,results54,go_sem,G,E,H,B]) rfl ?_
   exact O.o
end Go.Proofs.YtcnollkkigiobaaGreat
