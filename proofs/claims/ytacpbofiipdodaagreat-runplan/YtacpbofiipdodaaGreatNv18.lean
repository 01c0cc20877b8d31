import Derived.Test.YtacpbofiipdodaaGreatNv17
set_option linter.unusedVariables false
set_option linter.unusedSimpArgs false
set_option maxRecDepth 100000
set_option maxHeartbeats 90000000
namespace Go.Proofs.YtacpbofiipdodaaGreat
open Go Go.Deep Go.MapKept Go.RowKit
variable {B1 B2 tb:Nat}{w:World}
def R6 (x:ByteArray):Bool:=decide (1<=(x.size:Int)) && decide ((x.size:Int)<=30)
theorem MR (x:ByteArray) (w:World):WS 120 #[.string x] w λe w'=>e=.returned (.bool (R6 x))/\w'=w:=by
 by_cases h1:1<=(x.size:Int)
 .have HE:U (R6 x=decide ((x.size:Int)<=30)):=by show _=_;unfold R6;rw[decide_eq_true h1];rfl
  go_enter Tryz.func120,Tryz.ntmps120;go_wp2;go_ret;exact⟨by rw[HE.o];rfl,rfl⟩
 .have HE:U (R6 x=false):=by show _=_;unfold R6;rw[decide_eq_false h1];rfl
  go_enter Tryz.func120,Tryz.ntmps120;go_wp2;go_ret;exact⟨by rw[HE.o];rfl,rfl⟩
theorem PW (x:Int) (w:World):WS 122 #[iv x] w λe w'=>e=.returned (.bool (I6 x))/\w'=w:=by
 by_cases h1:1<=x
 .have HE:U (I6 x=decide (x<=2000000000)):=by show _=_;unfold I6;rw[decide_eq_true h1];rfl
  go_enter Tryz.func122,Tryz.ntmps122;go_wp2;go_ret;exact⟨by rw[HE.o];rfl,rfl⟩
 .have HE:U (I6 x=false):=by show _=_;unfold I6;rw[decide_eq_false h1];rfl
  go_enter Tryz.func122,Tryz.ntmps122;go_wp2;go_ret;exact⟨by rw[HE.o];rfl,rfl⟩
def Dx (w:World) (tb:Nat) (next:Int) (B1 B2:Nat):Prop:=w.heap[tb]?=some (.cells #[iv next,.map (some B1),.map (some B2)] 242)
theorem Dx.cells {next:Int} (h:Dx w tb next B1 B2):w.cell? (ad tb 0)=some (iv next)/\w.cell? (ad tb 1)=some (.map (some B1))/\w.cell? (ad tb 2)=some (.map (some B2)):=by unfold Dx at h;exact⟨by simp[World.cell?,h],by simp[World.cell?,h],by simp[World.cell?,h]⟩
theorem Dx.lt {next:Int} (h:Dx w tb next B1 B2):tb<w.heap.size:=(Array.getElem?_eq_some_iff.1 h).1
def Ig (next:Int) (k:Nat) (I:Nat->Int) (i:Int) (x:ByteArray) (r:Int):Prop:=R6 x=true/\I6 r=true/\1<=i/\i<next/\∀j,j<k->I j≠i
theorem C6 (x:ByteArray) (b:Bool) (h:R6 x=b) (w:World):WS 120 #[.string x] w λe w'=>e=.returned (.bool b)/\w'=w:=by rw[<- h];exact MR x w
theorem C2 (x:Int) (b:Bool) (h:I6 x=b) (w:World):WS 122 #[iv x] w λe w'=>e=.returned (.bool b)/\w'=w:=by rw[<- h];exact PW x w
theorem L8 {w':World} (hb:Bl w w') {b:Nat} (h:b<w.heap.size):w'.heap[b]?=w.heap[b]?:=hb.block b h
theorem LB (tb B1 B2 k:Nat) (next i r:Int) (x:ByteArray) (I:Nat->Int) (V:Nat->Nat) (w:World) (ht:Dx w tb next B1 B2) (hm:AP w B2 k (λj=>iv (I j)) (λj=>pt (V j))) (hd:∀j,j<k->∀q,q<k->I j=I q->j=q) :
  WS 123 #[pt tb,.agg #[iv i,.string x,iv r]] w (C0 w (Ig next k I i x r)):=by
 obtain⟨t0,t1,t2⟩:=ht.cells;have htl:=ht.lt;cases h1:R6 x with
 | false=>
  have HBAD:U (¬ Ig next k I i x r):=λq=>by have:=q.1;rw[h1] at this;cases this
  have h2:I6 r=I6 r:=rfl;go_enter Tryz.func123,Tryz.ntmps123;go_wp2;go_quiet ((first
   | (go_at_call 120;exact Calls.quiet_of_same (C6 _ _ h1 _))
   | (go_at_call 122;exact Calls.quiet_of_same (C2 _ _ h2 _))))
  go_wp2;go_ret;exact C0.no HBAD.o (Af (Aa _ _) _)
 | true=>
 cases h2:I6 r with
 | false=>
  have HBAD:U (¬ Ig next k I i x r):=λq=>by have:=q.2.1;rw[h2] at this;cases this
  go_enter Tryz.func123,Tryz.ntmps123;go_wp2;go_quiet ((first
   | (go_at_call 120;exact Calls.quiet_of_same (C6 _ _ h1 _))
   | (go_at_call 122;exact Calls.quiet_of_same (C2 _ _ h2 _))))
  go_wp2;go_ret;exact C0.no HBAD.o (Af (Aa _ _) _)
 | true=>
 by_cases h3:1<=i;case neg=>
  have HBAD:U (¬ Ig next k I i x r):=λq=>by have:=q.2.2.1;omega
  have hd3:decide (1<=i)=false:=by simp;omega
  go_enter Tryz.func123,Tryz.ntmps123;go_wp2;go_quiet ((first
   | (go_at_call 120;exact Calls.quiet_of_same (C6 _ _ h1 _))
   | (go_at_call 122;exact Calls.quiet_of_same (C2 _ _ h2 _))))
  go_wp2;go_ret;exact C0.no HBAD.o (Af (Aa _ _) _)
 case pos=>
 have hd3:decide (1<=i)=true:=by simp;omega
 by_cases h4:i<next;case neg=>
  have HBAD:U (¬ Ig next k I i x r):=λq=>by have:=q.2.2.2.1;omega
  have hd4:decide (i<next)=false:=by simp;omega
  go_enter Tryz.func123,Tryz.ntmps123;go_wp2;go_quiet ((first
   | (go_at_call 120;exact Calls.quiet_of_same (C6 _ _ h1 _))
   | (go_at_call 122;exact Calls.quiet_of_same (C2 _ _ h2 _))))
  go_wp2;go_ret;exact C0.no HBAD.o (Af (Aa _ _) _)
 case pos=>
 have hd4:decide (i<next)=true:=by simp;omega
 by_cases h5:∃j,j<k/\I j=i;case pos=>
  obtain⟨j,hj,hji⟩:=h5;have HBAD:U (¬ Ig next k I i x r):=λq=>q.2.2.2.2 j hj hji;have hl:∀n,(Instr.lookup 240 (.map (some B2)) (iv i) false).run Tryz.prog ((w.alloc (.cells #[iv i,.string x,iv r] 131)).drewN n)=.ok (pt (V j)) ((w.alloc (.cells #[iv i,.string x,iv r] 131)).drewN n):=λn=>
   (hm.kept (L8 (Af (Aa _ _) n) hm.lt)).look_some (kt:=2) (et:=245) (by kernel_rfl) (by kernel_rfl) (d:=.int .i64) (show IsKey (.int .i64) (iv i) from rfl) (λj _=>show IsKey (.int .i64) (iv (I j)) from rfl) hj (by rw[hji]) (λq hq e=>by
    have:I q=I j:=by injection e with _ e;omega
    rw[hd q hq j hj this])
  go_enter Tryz.func123,Tryz.ntmps123;go_wp2;go_quiet ((first
   | (go_at_call 120;exact Calls.quiet_of_same (C6 _ _ h1 _))
   | (go_at_call 122;exact Calls.quiet_of_same (C2 _ _ h2 _))))
  go_wp2;go_ret;exact C0.no HBAD.o (Af (Aa _ _) _)
 case neg=>
  have HG:U (Ig next k I i x r):=⟨h1,h2,h3,h4,λj hj e=>h5 ⟨j,hj,e⟩⟩;have hl:∀n,(Instr.lookup 240 (.map (some B2)) (iv i) false).run Tryz.prog ((w.alloc (.cells #[iv i,.string x,iv r] 131)).drewN n)=.ok (.pointer none) ((w.alloc (.cells #[iv i,.string x,iv r] 131)).drewN n):=λn=>(hm.kept (L8 (Af (Aa _ _) n) hm.lt)).look_none (kt:=2) (et:=245) (by kernel_rfl) (by kernel_rfl) (d:=.int .i64) (show IsKey (.int .i64) (iv i) from rfl) (λj _=>show IsKey (.int .i64) (iv (I j)) from rfl) (λj hj e=>h5 ⟨j,hj,by injection e⟩) (by kernel_rfl)
  go_enter Tryz.func123,Tryz.ntmps123;go_wp2;go_quiet ((first
   | (go_at_call 120;exact Calls.quiet_of_same (C6 _ _ h1 _))
   | (go_at_call 122;exact Calls.quiet_of_same (C2 _ _ h2 _))))
  go_wp2;go_ret;exact C0.yes HG.o (Af (Aa _ _) _)
variable {i r:Int}{p:Nat}{x:ByteArray}
def BS (w:World) (p:Nat) (i:Int) (x:ByteArray) (r:Int):Prop:=w.heap[p]?=some (.cells #[iv i,.string x,iv r] 131)
theorem BS.cells (h:BS w p i x r):w.cell? (ad p 0)=some (iv i)/\w.cell? (ad p 1)=some (.string x)/\w.cell? (ad p 2)=some (iv r):=by unfold BS at h;exact⟨by simp[World.cell?,h],by simp[World.cell?,h],by simp[World.cell?,h]⟩
theorem BS.lt (h:BS w p i x r):p<w.heap.size:=(Array.getElem?_eq_some_iff.1 h).1
def Qb (w:World) (B1 B2 k p:Nat) (i:Int) (x:ByteArray) (I:Nat->Int) (X:Nat->ByteArray) (V:Nat->Nat) (e:Ending) (w' : World):Prop:=
 (∃v,e=.returned v)/\(∃w2,w.drew.grownBy w2 (some B1)/\w2.drew.grownBy w' (some B2))/\
  AP w' B1 (k+1) (λj=>.string (if j=k then x else X j)) (λj=>pt (if j=k then p else V j))/\AP w' B2 (k+1) (λj=>iv (if j=k then i else I j)) (λj=>pt (if j=k then p else V j))
theorem AP.congr {B k:Nat} {K V K' V':Nat->Value} (h:AP w B k K V) (hK:∀i,i<k->K i=K' i) (hV:∀i,i<k->V i=V' i):AP w B k K' V':=by obtain⟨es,clock,h1,hst,h2,h3⟩:=h;refine⟨es,clock,h1,hst,h2,λi hi=>?_⟩;obtain⟨e,a,b,c⟩:=h3 i hi;exact⟨e,a,b.trans (hK i hi),c.trans (hV i hi)⟩
theorem N2 (tb B1 B2 k p:Nat) (next i r:Int) (x:ByteArray) (I:Nat->Int) (X:Nat->ByteArray) (V:Nat->Nat) (w:World) (ht:Dx w tb next B1 B2) (hp:BS w p i x r) (hB:B1≠B2)
  (h1:AP w B1 k (λj=>.string (X j)) (λj=>pt (V j))) (h2:AP w B2 k (λj=>iv (I j)) (λj=>pt (V j))) (n1:∀j,j<k->X j≠x) (n2:∀j,j<k->I j≠i) :
  WS 124 #[pt tb,pt p] w (Qb w B1 B2 k p i x I X V):=by
 obtain⟨t0,t1,t2⟩:=ht.cells;obtain⟨p0,p1,p2⟩:=hp.cells;have HC:U (∀(wx w2:World) (B:Nat),wx.grownBy w2 (some B)->B≠tb->B≠p->Dx wx tb next B1 B2->BS wx p i x r->(w2.cell? (ad tb 1)=some (.map (some B1))/\w2.cell? (ad tb 2)=some (.map (some B2))/\w2.cell? (ad p 0)=some (iv i)/\w2.cell? (ad p 1)=some (.string x))/\Dx w2 tb next B1 B2/\BS w2 p i x r):=by intro wx w2 B hg hb1 hb2 ha hb;have q1:Dx w2 tb next B1 B2:=(hg.block tb ha.lt (λe=>hb1 (by injection e with e;exact e.symm))).trans ha;have q2:BS w2 p i x r:=(hg.block p hb.lt (λe=>hb2 (by injection e with e;exact e.symm))).trans hb;exact⟨⟨q1.cells.2.1,q1.cells.2.2,q2.cells.1,q2.cells.2.1⟩,q1,q2⟩
 have b1t:=(h1.ne_cells ht).symm;have b1p:=(h1.ne_cells hp).symm;have b2t:=(h2.ne_cells ht).symm;have b2p:=(h2.ne_cells hp).symm;have h1' : AP w.drew B1 k (λj=>.string (X j)) (λj=>pt (V j)):=h1;obtain⟨w2,hrun2,hm2,hg2⟩:=h1'.store_new (t:=239) (kt:=9) (et:=245) (d:=.string) (key:=.string x) (by kernel_rfl) (by kernel_rfl) trivial (λ_ _=>trivial) (λj hj e=>n1 j hj (by injection e)) (pt p);obtain⟨⟨y1,y2,y3,y4⟩,yT,yP⟩:=HC.o _ w2 B1 hg2 b1t b1p ht hp;have h2' : AP w2.drew B2 k (λj=>iv (I j)) (λj=>pt (V j)):=h2.kept (hg2.block B2 h2.lt (λe=>hB (by injection e with e;exact e.symm)));obtain⟨w3,hrun3,hm3,hg3⟩:=h2'.store_new (t:=240) (kt:=2) (et:=245) (d:=.int .i64) (key:=iv i) (by kernel_rfl) (by kernel_rfl) rfl (λ_ _=>rfl) (λj hj e=>n2 j hj (by injection e)) (pt p);obtain⟨⟨z1,z2,z3,z4⟩,zT,zP⟩:=HC.o _ w3 B2 hg3 b2t b2p yT yP;have HX:U ((∃w2,w.drew.grownBy w2 (some B1)/\w2.drew.grownBy w3 (some B2))/\
  AP w3 B1 (k+1) (λj=>.string (if j=k then x else X j)) (λj=>pt (if j=k then p else V j))/\AP w3 B2 (k+1) (λj=>iv (if j=k then i else I j)) (λj=>pt (if j=k then p else V j))):=by
  refine⟨⟨w2,hg2,hg3⟩,(hm2.kept (hg3.block B1 hm2.lt (λe=>hB (by injection e)))).congr (λj _=>?_) (λj _=>?_),hm3.congr (λj _=>?_) (λj _=>?_)⟩
  all_goals (split <;> simp_all)
 clear h1 h2 ht hp n1 n2 t0 p2 HC hm2 hg2 yT yP h1' h2' hm3 hg3 zT zP b1t b1p b2t b2p;go_enter Tryz.func124,Tryz.ntmps124;go_wp2;go_region_held3 (λw'=>w'.cell? (ad tb 1)=some (.map (some B1))/\w'.cell? (ad tb 2)=some (.map (some B2))/\w'.cell? (ad p 0)=some (iv i)/\w'.cell? (ad p 1)=some (.string x)) (go_keep) (fail)
 go_wp2;go_region_held3 (λw'=>w'.cell? (ad tb 1)=some (.map (some B1))/\w'.cell? (ad tb 2)=some (.map (some B2))/\w'.cell? (ad p 0)=some (iv i)/\w'.cell? (ad p 1)=some (.string x)) (go_keep) (fail)
 go_wp2;refine bodyPost_end (v:=.tuple #[]) (by simp[results,Tryz.results124,go_sem]) rfl ⟨⟨_,rfl⟩,HX.o⟩
variable {I R:Nat->Int}{Q:Exit->Act->World->Prop}{X:Nat->ByteArray}{a:Act}
theorem Ga {ops:Array Oper} {o:Oper} {K:Act->World->Prop} {E:Prop} {t u:TypeId} (hw:Region.wanted o (yielded ops a.tmps)=true) (x y:Nat)
  (ho:o.op=.call { callee:=.value (.func 123),args:=#[.tmp x,.tmp y],argTypes:=#[t,u] }) (v v' : Value) (hx:a.tmps[x]?.getD undef=v) (hy:a.tmps[y]?.getD undef=v')
  (h:WS 123 #[v,v'] w λe w'=>∃u,e=.returned u/\K (a.put o.dst u) w') :
  if Region.wanted o (yielded ops a.tmps)=true then Oper.wp Tryz.prog o a w K Q else E:=by rw[if_pos hw];unfold Oper.wp;simp[execOp,ho,resolve,invoke,hx,hy,go_sem];refine h.mono ?_;rintro e w' ⟨u,rfl,hk⟩;exact hk
structure Mh (w wr:World) (dt:Obj) (next:Int) (I:Nat->Int) (X:Nat->ByteArray) (R:Nat->Int) (k:Nat) (V:Nat->Nat):Prop where
 box:wr.heap[w.heap.size]?=some dt
 tab:Dx wr (w.heap.size+1+1+1) next (w.heap.size+1) (w.heap.size+1+1)
 m1:AP wr (w.heap.size+1) k (λj=>.string (X j)) (λj=>pt (V j))
 m2:AP wr (w.heap.size+1+1) k (λj=>iv (I j)) (λj=>pt (V j))
 each:∀j,j<k->BS wr (V j) (I j) (X j) (R j)
 below:Bl w wr
 ge:∀j,j<k->w.heap.size<=V j
theorem Mh.start (w:World) (next:Int) (a:Option Addr) (n c:Nat) (I:Nat->Int) (X:Nat->ByteArray) (R:Nat->Int) (V:Nat->Nat) :
  Mh w ((((w.alloc (.cells #[iv next,.slice a n c] 45)).alloc (.map #[] 0)).alloc (.map #[] 0)).alloc (.cells #[iv next,.map (some (w.heap.size+1)),.map (some (w.heap.size+1+1))] 242)) (.cells #[iv next,.slice a n c] 45) next I X R 0 V:=by
 have e1:(w.alloc (.cells #[iv next,.slice a n c] 45)).heap.size=w.heap.size+1:=by simp
 have e2:((w.alloc (.cells #[iv next,.slice a n c] 45)).alloc (.map #[] 0)).heap.size=w.heap.size+1+1:=by simp
 have e3:(((w.alloc (.cells #[iv next,.slice a n c] 45)).alloc (.map #[] 0)).alloc (.map #[] 0)).heap.size=w.heap.size+1+1+1:=by simp
 have b0:=blk_alloc_new w (.cells #[iv next,.slice a n c] 45);have b1:=JV (w.alloc (.cells #[iv next,.slice a n c] 45)) (λj=>.string (X j)) (λj=>pt (V j));have b2:=JV ((w.alloc (.cells #[iv next,.slice a n c] 45)).alloc (.map #[] 0)) (λj=>iv (I j)) (λj=>pt (V j));have b3:=blk_alloc_new (((w.alloc (.cells #[iv next,.slice a n c] 45)).alloc (.map #[] 0)).alloc (.map #[] 0)) (.cells #[iv next,.map (some (w.heap.size+1)),.map (some (w.heap.size+1+1))] 242);rw[e1] at b1;rw[e2] at b2;rw[e3] at b3;refine⟨?_,b3,b1.kept ?_,b2.kept ((Aa _ _).block _ (by omega)),λj hj=>absurd hj (Wy _),(((Aa _ _).alloc (by simp) _).alloc (by simp;omega) _).alloc (by simp;omega) _,λj hj=>absurd hj (Wy _)⟩;.exact ((Aa _ _).block _ (by omega)).trans (((Aa _ _).block _ (by omega)).trans (((Aa _ _).block _ (by omega)).trans b0))
 .exact ((Aa _ _).block _ (by omega)).trans ((Aa _ _).block _ (by omega))
theorem Mh.keep {wr w':World} {dt:Obj} {next:Int} {k:Nat} {V:Nat->Nat} (h:Mh w wr dt next I X R k V) (hb:Bl wr w'):Mh w w' dt next I X R k V:=by have hlt:=(Array.getElem?_eq_some_iff.1 h.box).1;exact⟨(hb.block _ hlt).trans h.box,(hb.block _ h.tab.lt).trans h.tab,h.m1.kept (hb.block _ h.m1.lt),h.m2.kept (hb.block _ h.m2.lt),λj hj=>(hb.block _ (h.each j hj).lt).trans (h.each j hj),h.below.trans (hb.mono h.below.size),h.ge⟩
theorem Mh.next {w wr w' : World} {cs:Array Value} {t:TypeId} {fr:Nat × Nat} {next:Int} {I:Nat->Int} {X:Nat->ByteArray} {R:Nat->Int} {k p:Nat} {V:Nat->Nat} {e:Ending} (h:Mh w wr (.cells cs t fr) next I X R k V) (hp:BS wr p (I k) (X k) (R k)) (hpg:w.heap.size<=p)
  (hr:Qb wr (w.heap.size+1) (w.heap.size+1+1) k p (I k) (X k) I X V e w'):Mh w w' (.cells cs t fr) next I X R (k+1) (λj=>if j=k then p else V j):=by
 obtain⟨_,⟨w2,g1,g2⟩,m1,m2⟩:=hr;have keep:∀b,b<wr.heap.size->b≠w.heap.size+1->b≠w.heap.size+1+1->w'.heap[b]?=wr.heap[b]?:=λb hb h1 h2=>(g2.block b (WF hb g1.size) (λe=>h2 (by injection e))).trans (g1.block b hb (λe=>h1 (by injection e)))
 have hlt:=(Array.getElem?_eq_some_iff.1 h.box).1;have ek:∀(T:Type) (u:Nat->T) (j:Nat),(if j=k then u k else u j)=u j:=λT u j=>by split <;> simp_all
 refine⟨(keep _ hlt (by omega) (by omega)).trans h.box,(keep _ h.tab.lt (by omega) (by omega)).trans h.tab,m1.congr (λj _=>by rw[ek]) (λ_ _=>rfl),m2.congr (λj _=>by rw[ek]) (λ_ _=>rfl),λj hj=>?_,?_,λj hj=>?_⟩
 .by_cases e:j=k;.subst e;rw[if_pos rfl];exact (keep p hp.lt (h.m1.ne_cells hp) (h.m2.ne_cells hp)).trans hp
  .rw[if_neg e];have q:=h.each j (by omega);exact (keep _ q.lt (h.m1.ne_cells q) (h.m2.ne_cells q)).trans q
 .exact ((h.below.drew.grown g1 h.below.size (λb e=>by injection e with e;omega)).drew).grown g2 (WC h.below.size g1.size) (λb e=>by injection e with e;omega)
 .by_cases e:j=k;.subst e;rw[if_pos rfl];exact hpg
  .rw[if_neg e];exact h.ge j (by omega)
def SI (w:World) (next:Int) (n:Nat) (I:Nat->Int) (X:Nat->ByteArray) (R:Nat->Int) (e:Ending) (w' : World):Prop:=
 (¬ C8 next n I X R/\e=.returned (.tuple #[.pointer none,.bool false])/\Bl w w')\/
 (C8 next n I X R/\∃V dt,e=.returned (.tuple #[pt (w.heap.size+1+1+1),.bool true])/\Mh w w' dt next I X R n V)
theorem KP {next:Int} {k:Nat}:(Ig next k I (I k) (X k) (R k)/\(0<k->Op.bytesLess (X (k-1)).toList (X k).toList=true))↔(De next I X R k/\EK I k):=by
 unfold Ig De EK R6 I6;simp only[Bool.and_eq_true,decide_eq_true_eq];constructor;.rintro⟨⟨⟨h1,h2⟩,⟨h3,h4⟩,h5,h6,h7⟩,h8⟩;exact⟨⟨⟨by omega,by omega⟩,⟨h5,h6⟩,⟨h3,h4⟩,h8⟩,h7⟩
 .rintro⟨⟨⟨h1,h2⟩,⟨h5,h6⟩,⟨h3,h4⟩,h8⟩,h7⟩;exact⟨⟨⟨by omega,by omega⟩,⟨h3,h4⟩,h5,h6,h7⟩,h8⟩
theorem Jc (b:Bool) (tb B1 B2 k:Nat) (next i r:Int) (x:ByteArray) (I:Nat->Int) (V:Nat->Nat) (w:World) (ht:Dx w tb next B1 B2) (hm:AP w B2 k (λj=>iv (I j)) (λj=>pt (V j))) (hd:∀j,j<k->∀q,q<k->I j=I q->j=q) (hb:b=true↔Ig next k I i x r) :
  WS 123 #[pt tb,.agg #[iv i,.string x,iv r]] w (WT w (.bool b)):=by
 refine (LB tb B1 B2 k next i r x I V w ht hm hd).mono ?_;rintro e w' ⟨b',rfl,hiff,hbel⟩;refine⟨?_,hbel⟩;have:b'=b:=by rw[Bool.eq_iff_iff,hiff,hb]
 rw[this]
theorem GB {k:Nat} (h:∀m,m<k->EK I m):∀j,j<k->∀q,q<k->I j=I q->j=q:=by
 intro j hj q hq e;rcases Nat.lt_trichotomy j q with h1|h1|h1;.exact absurd e (h q hq j h1)
 .exact h1
 .exact absurd e.symm (h j hj q h1)
theorem KQ (next:Int) (a:Option Addr) (n c:Nat) (I:Nat->Int) (X:Nat->ByteArray) (R:Nat->Int) (w:World) (h:E0 w a n I X R) (hn:n<=1048576) :
  WS 90 #[.agg #[iv next,.slice a n c]] w (SI w next n I X R):=by
 have hmm:=@run_makeMap Tryz.prog;cases hnu:I6 next with
 | false=>
  go_enter Tryz.func90,Tryz.ntmps90;go_wp2_with (first
   | (go_at_call 122;refine (C2 _ _ hnu _).mono ?_;rintro e w1 ⟨rfl,rfl⟩)
   | fail)
  refine bodyPost_ret (v:=.tuple #[.pointer none,.bool false]) (by simp[results,Tryz.results90,go_sem]) rfl (.inl ⟨(λq=>by have:=q.1;rw[hnu] at this;cases this),rfl,Aa _ _⟩)
 | true=>
 by_cases h12:1200<(n:Int)
 .go_enter Tryz.func90,Tryz.ntmps90;go_wp2_with (first
   | (go_at_call 122;refine (C2 _ _ hnu _).mono ?_;rintro e w1 ⟨rfl,rfl⟩)
   | fail)
  refine bodyPost_ret (v:=.tuple #[.pointer none,.bool false]) (by simp[results,Tryz.results90,go_sem]) rfl (.inl ⟨(λq=>by have:=q.2.1;omega),rfl,Aa _ _⟩)
 have H0:U (Mh w ((((w.alloc (.cells #[iv next,.slice a n c] 45)).alloc (.map #[] 0)).alloc (.map #[] 0)).alloc (.cells #[iv next,.map (some (w.heap.size+1)),.map (some (w.heap.size+1+1))] 242)) (.cells #[iv next,.slice a n c] 45) next I X R 0 (λ_=>0)):=Mh.start w next a n c I X R _;go_enter Tryz.func90,Tryz.ntmps90;go_wp2_with (first
  | (go_at_call 122;refine (C2 _ _ hnu _).mono ?_;rintro e w1 ⟨rfl,rfl⟩)
  | fail)
 go_loopw [26] (λi wr=>∃(k:Nat) (V:Nat->Nat),k<=n/\i=iv k/\(∀m,m<k->De next I X R m/\EK I m)/\Mh w wr (.cells #[iv next,.slice a n c] 45) next I X R k V) (λi _=>n-(intOf i).toNat)
 case atStart=>exact⟨0,_,Ww _,rfl,λm hm=>absurd hm (Wy _),H0.o⟩
 case round=>
  obtain⟨k,V,hk,rfl,hgood,hst⟩:=hrel;clear H0 hmm;have HG:U (∀m,m<k->De next I X R m/\EK I m):=hgood;have HN:U (I6 next=true):=hnu;have HS:U (Mh w wr (.cells #[iv next,.slice a n c] 45) next I X R k V):=hst;have HSZ:U (w.heap.size<=wr.heap.size):=hst.below.size;clear hgood hnu;by_cases hlt:k<n
  .have hne:¬ n=0:=by omega
   have HR:U (E0 wr a n I X R):=h.below hst.below;have h':=h.below hst.below;rcases h' with h' | ⟨b,o,rfl,hc⟩;.exact absurd h' hne
   obtain⟨c1,c2,c3⟩:=hc k hlt;clear hc h hst;go_wp2;have HW:U (Mh w (wr.alloc (.cells #[iv (I k),.string (X k),iv (R k)] 131)) (.cells #[iv next,.slice (some (ad b o)) n c] 45) next I X R k V/\BS (wr.alloc (.cells #[iv (I k),.string (X k),iv (R k)] 131)) wr.heap.size (I k) (X k) (R k)/\E0 (wr.alloc (.cells #[iv (I k),.string (X k),iv (R k)] 131)) (some (ad b o)) n I X R):=⟨HS.o.keep (Aa _ _),blk_alloc_new _ _,HR.o.below (Aa _ _)⟩;clear c1 c2 c3 HS HR;generalize (wr.alloc (.cells #[iv (I k),.string (X k),iv (R k)] 131))=wt at HW ⊢;have HTP:U (w.heap.size<=wr.heap.size):=HSZ.o;clear HSZ;generalize wr.heap.size=tp at HW HTP ⊢;have HC:U (∀w2,Below wt.drew.heap.size wt.drew w2->Mh w w2 (.cells #[iv next,.slice (some (ad b o)) n c] 45) next I X R k V/\BS w2 tp (I k) (X k) (R k)/\E0 w2 (some (ad b o)) n I X R):=λw2 hb0=>by have hb:Bl wt w2:=(Wt _ _).drew.trans hb0;exact⟨HW.o.1.keep hb,(hb.block _ HW.o.2.1.lt).trans HW.o.2.1,HW.o.2.2.below hb⟩
   obtain⟨t0,t1,t2⟩:=HW.o.2.1.cells;by_cases hmay:Ig next k I (I k) (X k) (R k);case neg=>
    have HBAD:U (¬ C8 next n I X R):=λq=>hmay (KP.2 (q.2.2 k hlt)).1;have HM:=hid (Jc false _ _ _ k next (I k) (R k) (X k) I V wt.drew HW.o.1.tab HW.o.1.m2 (GB λm hm=>(HG.o m hm).2) (Iff.intro (λe=>by cases e) (λp=>absurd p hmay)));refine Au (S:=(λw'=>w'.cell? (ad tp 0)=some (iv (I k))/\w'.cell? (ad tp 1)=some (.string (X k))/\w'.cell? (ad tp 2)=some (iv (R k)))) 19 (by kernel_rfl) ?_ (λhHeld=>?_);·((try dsimp only);go_keep)
    refine tz 0 rfl ?_;refine tz 1 rfl ?_;refine AB 2 rfl (λK hK=>?_);(refine Ga (by rfl) 31 32 (by rfl) _ _ (by rfl) (by rfl) ?_;refine HM.o.mono ?_;rintro e w2 ⟨rfl,hb2⟩;refine⟨_,rfl,?_⟩;obtain⟨z0,z1,z2⟩:=(HC.o w2 hb2).2.1.cells)
    refine hK.out _ _ ?_ (λhG=>?_);·(intro _;(try dsimp only);go_keep)
    clear hK K;replace hHeld:=hG (by decide);clear hG;try simp only[As]
    refine tz 3 rfl ?_;refine tz 4 rfl ?_;refine sz 5 rfl ?_;simp only[As];refine sz 6 rfl ?_;simp only[As];refine sz 7 rfl ?_;simp only[As];refine sz 8 rfl ?_;simp only[As];refine sz 9 rfl ?_;simp only[As];refine sz 10 rfl ?_;simp only[As];refine sz 11 rfl ?_;simp only[As];refine sz 12 rfl ?_;simp only[As];refine sz 13 rfl ?_;simp only[As];refine sz 14 rfl ?_;simp only[As];refine sz 15 rfl ?_;simp only[As];refine sz 16 rfl ?_;simp only[As];refine sz 17 rfl ?_;simp only[As];refine sz 18 rfl ?_;simp only[As];refine Ez 19 rfl (by kernel_rfl) (λK hK=>?_);go_simp;refine hK.out _ _ ?_ (λhG=>?_);·(intro hne;exact absurd rfl hne)
    clear hK K hG;refine Ae (by kernel_rfl) ?_ _;have HX:=hid (HC.o w2 hb2);have HBW:=hid HX.o.1.below;clear HC HM hb2 z0 z1 z2 t0 t1 t2;go_wp2;refine bodyPost_ret (v:=.tuple #[.pointer none,.bool false]) (by simp[results,Tryz.results90,go_sem]) rfl (.inl ⟨HBAD.o,rfl,HBW.o⟩)
   case pos=>
   have HM:=hid (Jc true _ _ _ k next (I k) (R k) (X k) I V wt.drew HW.o.1.tab HW.o.1.m2 (GB λm hm=>(HG.o m hm).2) (Iff.intro (λ_=>hmay) (λ_=>rfl)));have HMAY:=hid hmay;clear hmay;by_cases hk0:k=0
   .have HGK:=hid (KP.1 ⟨HMAY.o,λh=>by omega⟩);have hdk:decide ((0:Int)<(k:Int))=false:=by simp;omega
    have hdn:decide (0<k)=false:=by simp;omega
    clear hk0;refine Au (S:=(λw'=>w'.cell? (ad tp 0)=some (iv (I k))/\w'.cell? (ad tp 1)=some (.string (X k))/\w'.cell? (ad tp 2)=some (iv (R k)))) 19 (by kernel_rfl) ?_ (λhHeld=>?_);·((try dsimp only);go_keep)
    refine tz 0 rfl ?_;refine tz 1 rfl ?_;refine AB 2 rfl (λK hK=>?_);(refine Ga (by rfl) 31 32 (by rfl) _ _ (by rfl) (by rfl) ?_;refine HM.o.mono ?_;rintro e w2 ⟨rfl,hb2⟩;refine⟨_,rfl,?_⟩;obtain⟨z0,z1,z2⟩:=(HC.o w2 hb2).2.1.cells)
    refine hK.out _ _ ?_ (λhG=>?_);·(intro _;(try dsimp only);go_keep)
    clear hK K;replace hHeld:=hG (by decide);clear hG;try simp only[As]
    refine tz 3 rfl ?_;refine tz 4 rfl ?_;refine tz 5 rfl ?_;refine tz 6 rfl ?_;refine tz 7 rfl ?_;refine sz 8 rfl ?_;simp only[As];refine sz 9 rfl ?_;simp only[As];refine sz 10 rfl ?_;simp only[As];refine sz 11 rfl ?_;simp only[As];refine sz 12 rfl ?_;simp only[As];refine sz 13 rfl ?_;simp only[As];refine sz 14 rfl ?_;simp only[As];refine sz 15 rfl ?_;simp only[As];refine sz 16 rfl ?_;simp only[As];refine sz 17 rfl ?_;simp only[As];refine BI 18 rfl (v:=?_) (by kernel_rfl) (by kernel_rfl) (by kernel_rfl) (by kernel_rfl) (λ_ _ _ h=>h) (by rfl) ?_ (by assumption) ?_;rotate_left;·(intro w h;(try dsimp only at h);go_simp) <;> with_reducible rfl
    simp only[As];refine Ez 19 rfl (by kernel_rfl) (λK hK=>?_);go_simp;refine hK.out _ _ ?_ (λhG=>?_);·(intro hne;exact absurd rfl hne)
    clear hK K hG;refine Ae (by kernel_rfl) ?_ _;have HX:=hid (HC.o w2 hb2);have HBW:=hid HX.o.1.below;clear z0 z1 z2 t0 t1 t2;clear HC HM hb2;go_wp2_with fail
    refine (N2 _ _ _ k tp next (I k) (R k) (X k) I X V _ HX.o.1.tab HX.o.2.1 (by omega) HX.o.1.m1 HX.o.1.m2 (λj hj=>F4 (Gy (k:=k+1) (λm hm h0=>if e:m=k then by subst e;exact HGK.o.1.2.2.2 h0 else ((HG.o m (by omega)).1.2.2.2 h0)) k (by omega) j hj)) HGK.o.2).mono ?_;intro e w4 hput;obtain⟨v4,rfl⟩:=hput.1;have HZ:=hid (HX.o.1.next HX.o.2.1 HTP.o hput);clear hput;go_wp2;go_roundw;case rel=>
     refine⟨k+1,_,by omega,by go_num,λm hm=>?_,HZ.o⟩;by_cases e:m=k;.subst e;exact HGK.o
     .exact HG.o m (by omega)
    case measure=>simp[intOf];omega
   .obtain⟨p,hkp⟩:∃p,k=p+1:=⟨k-1,by omega⟩;have hp1:p<n:=by omega
    have hdk:decide ((0:Int)<(k:Int))=true:=by simp;omega
    have hdn:decide (0<k)=true:=by simp;omega
    have hwr:IntKind.i64.wrap ((k:Int)-1)=(k:Int)-1:=by rw[Wz];omega
    have hix:∀wz,(Instr.indexAt 43 (.slice (some (ad b o)) n c) (iv ((k:Int)-1))).run Tryz.prog wz=.ok (.pointer (some (ad b (o+p*3)))) wz:=λwz=>by rw[show (k:Int)-1=(p:Int) by omega];exact Vz b o n c p hp1 wz
    have HPK:U (k-1=p):=by show k-1=p;omega
    clear hkp hk0;have HE:U (∀w2,Below wt.drew.heap.size wt.drew w2->w2.cell? (ad w.heap.size 1)=some (.slice (some (ad b o)) n c)/\w2.cell? (ad b (o+p*3+1))=some (.string (X p))):=λw2 hb=>by
     obtain⟨q1,_,q2⟩:=HC.o w2 hb;refine⟨by have:=q1.box;simp[World.cell?,this],?_⟩;rcases q2 with h0|⟨b',o',he,hc'⟩;.omega
     .simp at he;obtain⟨rfl,rfl⟩:=he;exact (hc' p hp1).2.1
    obtain⟨e3,e4⟩:=HE.o wt.drew (Wt _ _);have hle:=GE (X p).toList (X k).toList;cases hls:Op.bytesLess (X p).toList (X k).toList with
    | false=>
     rw[hls] at hle;have HBAD:U (¬ C8 next n I X R):=λq=>by have:=(q.2.2 k hlt).1.2.2.2 (by simpa using hdn);rw[HPK.o,hls] at this;cases this
     refine Au (S:=(λw'=>w'.cell? (ad tp 0)=some (iv (I k))/\w'.cell? (ad tp 1)=some (.string (X k))/\w'.cell? (ad tp 2)=some (iv (R k))/\w'.cell? (ad w.heap.size 1)=some (.slice (some (ad b o)) n c)/\w'.cell? (ad b (o+p*3+1))=some (.string (X p)))) 19 (by kernel_rfl) ?_ (λhHeld=>?_);·((try dsimp only);go_keep)
     refine tz 0 rfl ?_;refine tz 1 rfl ?_;refine AB 2 rfl (λK hK=>?_);(refine Ga (by rfl) 31 32 (by rfl) _ _ (by rfl) (by rfl) ?_;refine HM.o.mono ?_;rintro e w2 ⟨rfl,hb2⟩;refine⟨_,rfl,?_⟩;obtain⟨z0,z1,z2⟩:=(HC.o w2 hb2).2.1.cells;obtain⟨z3,z4⟩:=HE.o w2 hb2)
     refine hK.out _ _ ?_ (λhG=>?_);·(intro _;(try dsimp only);go_keep)
     clear hK K;replace hHeld:=hG (by decide);clear hG;try simp only[As]
     refine tz 3 rfl ?_;refine tz 4 rfl ?_;refine tz 5 rfl ?_;refine tz 6 rfl ?_;refine tz 7 rfl ?_;refine tz 8 rfl ?_;refine tz 9 rfl ?_;refine tz 10 rfl ?_;refine tz 11 rfl ?_;refine tz 12 rfl ?_;refine tz 13 rfl ?_;refine BI 14 rfl (v:=?_) (by kernel_rfl) (by kernel_rfl) (by kernel_rfl) (by kernel_rfl) (λ_ _ _ h=>h) (by rfl) ?_ (by assumption) ?_;rotate_left;·(intro w h;(try dsimp only at h);go_simp) <;> with_reducible rfl
     simp only[As];refine tz 15 rfl ?_;refine tz 16 rfl ?_;refine tz 17 rfl ?_;refine BI 18 rfl (v:=?_) (by kernel_rfl) (by kernel_rfl) (by kernel_rfl) (by kernel_rfl) (λ_ _ _ h=>h) (by rfl) ?_ (by assumption) ?_;rotate_left;·(intro w h;(try dsimp only at h);go_simp) <;> with_reducible rfl
     simp only[As];refine Ez 19 rfl (by kernel_rfl) (λK hK=>?_);go_simp;refine hK.out _ _ ?_ (λhG=>?_);·(intro hne;exact absurd rfl hne)
     clear hK K hG;refine Ae (by kernel_rfl) ?_ _;have HX:=hid (HC.o w2 hb2);have HBW:=hid HX.o.1.below;clear HC HM HE hb2 z0 z1 z2 z3 z4 e3 e4 t0 t1 t2;go_wp2;refine bodyPost_ret (v:=.tuple #[.pointer none,.bool false]) (by simp[results,Tryz.results90,go_sem]) rfl (.inl ⟨HBAD.o,rfl,HBW.o⟩)
    | true=>
     rw[hls] at hle;have HGK:=hid (KP.1 ⟨HMAY.o,λ_=>by rw[HPK.o];exact hls⟩);refine Au (S:=(λw'=>w'.cell? (ad tp 0)=some (iv (I k))/\w'.cell? (ad tp 1)=some (.string (X k))/\w'.cell? (ad tp 2)=some (iv (R k))/\w'.cell? (ad w.heap.size 1)=some (.slice (some (ad b o)) n c)/\w'.cell? (ad b (o+p*3+1))=some (.string (X p)))) 19 (by kernel_rfl) ?_ (λhHeld=>?_);·((try dsimp only);go_keep)
     refine tz 0 rfl ?_;refine tz 1 rfl ?_;refine AB 2 rfl (λK hK=>?_);(refine Ga (by rfl) 31 32 (by rfl) _ _ (by rfl) (by rfl) ?_;refine HM.o.mono ?_;rintro e w2 ⟨rfl,hb2⟩;refine⟨_,rfl,?_⟩;obtain⟨z0,z1,z2⟩:=(HC.o w2 hb2).2.1.cells;obtain⟨z3,z4⟩:=HE.o w2 hb2)
     refine hK.out _ _ ?_ (λhG=>?_);·(intro _;(try dsimp only);go_keep)
     clear hK K;replace hHeld:=hG (by decide);clear hG;try simp only[As]
     refine tz 3 rfl ?_;refine tz 4 rfl ?_;refine tz 5 rfl ?_;refine tz 6 rfl ?_;refine tz 7 rfl ?_;refine tz 8 rfl ?_;refine tz 9 rfl ?_;refine tz 10 rfl ?_;refine tz 11 rfl ?_;refine tz 12 rfl ?_;refine tz 13 rfl ?_;refine BI 14 rfl (v:=?_) (by kernel_rfl) (by kernel_rfl) (by kernel_rfl) (by kernel_rfl) (λ_ _ _ h=>h) (by rfl) ?_ (by assumption) ?_;rotate_left;·(intro w h;(try dsimp only at h);go_simp) <;> with_reducible rfl
     simp only[As];refine tz 15 rfl ?_;refine tz 16 rfl ?_;refine tz 17 rfl ?_;refine BI 18 rfl (v:=?_) (by kernel_rfl) (by kernel_rfl) (by kernel_rfl) (by kernel_rfl) (λ_ _ _ h=>h) (by rfl) ?_ (by assumption) ?_;rotate_left;·(intro w h;(try dsimp only at h);go_simp) <;> with_reducible rfl
     simp only[As];refine Ez 19 rfl (by kernel_rfl) (λK hK=>?_);go_simp;refine hK.out _ _ ?_ (λhG=>?_);·(intro hne;exact absurd rfl hne)
     clear hK K hG;refine Ae (by kernel_rfl) ?_ _;have HX:=hid (HC.o w2 hb2);have HBW:=hid HX.o.1.below;clear HE z0 z1 z2 z3 z4 e3 e4 t0 t1 t2;clear HC HM hb2;go_wp2_with fail
     refine (N2 _ _ _ k tp next (I k) (R k) (X k) I X V _ HX.o.1.tab HX.o.2.1 (by omega) HX.o.1.m1 HX.o.1.m2 (λj hj=>F4 (Gy (k:=k+1) (λm hm h0=>if e:m=k then by subst e;exact HGK.o.1.2.2.2 h0 else ((HG.o m (by omega)).1.2.2.2 h0)) k (by omega) j hj)) HGK.o.2).mono ?_;intro e w4 hput;obtain⟨v4,rfl⟩:=hput.1;have HZ:=hid (HX.o.1.next HX.o.2.1 HTP.o hput);clear hput;go_wp2;go_roundw;case rel=>
      refine⟨k+1,_,by omega,by go_num,λm hm=>?_,HZ.o⟩;by_cases e:m=k;.subst e;exact HGK.o
      .exact HG.o m (by omega)
     case measure=>simp[intOf];omega
  .have e:n=k:=by omega
   subst e;clear hst;go_wp2;refine bodyPost_ret (v:=.tuple #[pt (w.heap.size+1+1+1),.bool true]) (by simp[results,Tryz.results90,go_sem]) rfl (.inr ⟨⟨HN.o,by omega,HG.o⟩,V,_,rfl,HS.o⟩)
variable {n:Nat}
theorem O7 {a b:ByteArray} (h:a.toList=b.toList):a=b:=by rw[ByteArray.toList_eq,ByteArray.toList_eq] at h;obtain⟨⟨x⟩⟩:=a;obtain⟨⟨y⟩⟩:=b;simp at h;rw[h]
def Ur (w:World) (n:Nat) (X:Nat->ByteArray) (x:ByteArray) (e:Ending) (w' : World):Prop:=
 ((∃i,i<n/\X i=x/\e=.returned (iv i))\/((∀i,i<n->X i≠x)/\e=.returned (iv (-1))))/\Below w.heap.size w w'
theorem La (next:Int) (a:Option Addr) (n c:Nat) (I:Nat->Int) (X:Nat->ByteArray) (R:Nat->Int) (x:ByteArray) (w:World) (h:E0 w a n I X R) (hn:n<=1048576) :
  WS 118 #[.agg #[iv next,.slice a n c],.string x] w (Ur w n X x):=by
 go_enter Tryz.func118,Tryz.ntmps118;go_wp2;go_loopw [5] (λi wr=>∃k:Nat,k<=n/\i=iv k/\(∀m,m<k->X m≠x)/\Below (w.heap.size+1) (w.alloc (.cells #[iv next,.slice a n c] 45)) wr) (λi _=>n-(intOf i).toNat)
 case atStart=>exact⟨0,Ww _,rfl,λm hm=>absurd hm (Wy _),Wt _ _⟩
 case round=>
  obtain⟨k,hk,rfl,hno,hb0⟩:=hrel;obtain⟨d0,d1,dz,hbel⟩:=KS hb0;have HO:=hid hno;have HB0:=hid hb0;have HB:=hid hbel;clear hno hb0;by_cases hlt:k<n
  .have hne:¬ n=0:=by omega
   have h':=h.below hbel;clear hbel;rcases h' with h' | ⟨b,o,rfl,hc⟩;.exact absurd h' hne
   obtain⟨c1,c2,c3⟩:=hc k hlt;clear hc h;by_cases hx:X k=x
   .have hbx:((X k).toList == x.toList)=true:=by rw[hx];simp
    go_wp2;go_ret;exact⟨.inl ⟨k,hlt,hx,rfl⟩,HB.o⟩
   .have hbx:((X k).toList == x.toList)=false:=by rw[beq_eq_false_iff_ne];exact λe=>hx (O7 e)
    go_wp2;go_roundw;case rel=>
     refine⟨k+1,by omega,by go_num,λm hm=>?_,HB0.o⟩;by_cases e:m=k;.subst e;exact hx
     .exact HO.o m (by omega)
    case measure=>simp[intOf];omega
  .have e:n=k:=by omega
   subst e;clear hbel;go_wp2;go_ret;exact⟨.inr ⟨HO.o,rfl⟩,HB.o⟩
def Rn (n:Nat) (I:Nat->Int) (X:Nat->ByteArray) (R:Nat->Int) (next:Int) (x:ByteArray) (r:Int):Prop:=
 (C8 next n I X R->(∃i,i<n/\X i=x/\r=I i)\/((∀i,i<n->X i≠x)/\r=0))/\(¬ C8 next n I X R->r=0)
theorem C8.text_inj {next:Int} (h:C8 next n I X R) {i j:Nat} (hi:i<n) (hj:j<n) (e:X i=X j):i=j:=by
 have asc:=λ(p:Nat) (hp:p<n)=>Gy (X:=X) (k:=n) (λm hm h0=>(h.2.2 m hm).1.2.2.2 h0) p hp;rcases Nat.lt_trichotomy i j with h1|h1|h1;.exact absurd e (F4 (asc j hj i h1))
 .exact h1
 .exact absurd e.symm (F4 (asc i hi j h1))
theorem Rn.same {next:Int} {x:ByteArray} {r r':Int} (h:Rn n I X R next x r) (h' : Rn n I X R next x r'):r=r':=by
 by_cases hv:C8 next n I X R
 .rcases h.1 hv with ⟨i,hi,e,rfl⟩|⟨ha,rfl⟩
  .rcases h'.1 hv with ⟨j,hj,e',rfl⟩|⟨ha',rfl⟩;.rw[hv.text_inj hi hj (e.trans e'.symm)]
   .exact absurd e (ha' i hi)
  .rcases h'.1 hv with ⟨j,hj,e',rfl⟩|⟨ha',rfl⟩;.exact absurd e' (ha j hj)
   .rfl
 .rw[h.2 hv,h'.2 hv]
def Vv (w:World) (n:Nat) (I:Nat->Int) (X:Nat->ByteArray) (R:Nat->Int) (next:Int) (x:ByteArray) (e:Ending) (w' : World):Prop:=
 ∃r,e=.returned (iv r)/\Rn n I X R next x r/\Below w.heap.size w w'
theorem Nf (next:Int) (a:Option Addr) (n c:Nat) (I:Nat->Int) (X:Nat->ByteArray) (R:Nat->Int) (x:ByteArray) (w:World) (h:E0 w a n I X R) (hn:n<=1048576) :
  WS 76 #[.agg #[iv next,.slice a n c],.string x] w (Vv w n I X R next x):=by
 have HR:=hid h;clear h;go_enter Tryz.func76,Tryz.ntmps76;go_wp2_with fail
 refine (La next a n c I X R x _ (HR.o.below (Aa _ _)) hn).mono ?_;rintro e w1 ⟨hat,hb1⟩;rw[WJ] at hb1;have K1:=hid hb1;obtain⟨d0,d1,dz,hbel⟩:=KS hb1;have HB1:=hid hbel;clear hb1 hbel;rcases hat with ⟨i,hi,hx,rfl⟩|⟨hno,rfl⟩
 .have hi0:¬ ((i:Int)<0):=by omega
  go_wp2_with fail
  refine (Nl next a n c I X R w1 (HR.o.below HB1.o) hn).mono ?_;rintro e w2 ⟨bv,rfl,hbv,hb2⟩;have HBV:=hid hbv;have K2:=hid (K1.o.trans (hb2.mono (by omega)));clear hbv hb2 d0 d1;obtain⟨d0,d1,dz2,hbel⟩:=KS K2.o;have HB2:=hid hbel;clear hbel;cases bv with
  | false=>go_wp2;go_ret;exact⟨0,rfl,⟨λq=>absurd (HBV.o.2 q) (by simp),λ_=>rfl⟩,HB2.o⟩
  | true=>
   have HV:=hid (HBV.o.1 rfl);rcases HR.o.below HB2.o with h0|⟨b,o,rfl,hc⟩;.omega
   obtain⟨c1,c2,c3⟩:=hc i hi;clear hc;go_wp2;go_ret;exact⟨I i,rfl,⟨λ_=>.inl ⟨i,hi,hx,rfl⟩,λq=>absurd HV.o q⟩,HB2.o⟩
 .go_wp2;go_ret;exact⟨0,rfl,⟨λ_=>.inr ⟨hno,rfl⟩,λ_=>rfl⟩,HB1.o⟩
theorem T0 (tb B1 B2 n:Nat) (next:Int) (I:Nat->Int) (X:Nat->ByteArray) (R:Nat->Int) (V:Nat->Nat) (x:ByteArray) (w:World) (ht:Dx w tb next B1 B2) (hm:AP w B1 n (λj=>.string (X j)) (λj=>pt (V j))) (he:∀j,j<n->BS w (V j) (I j) (X j) (R j)) (hinj:∀i j,i<n->j<n->X i=X j->i=j) :
  WS 97 #[pt tb,.string x] w λe w'=>((∃i,i<n/\X i=x/\e=.returned (iv (I i)))\/((∀i,i<n->X i≠x)/\e=.returned (iv 0)))/\Below w.heap.size w w':=by
 obtain⟨t0,t1,t2⟩:=ht.cells;by_cases h5:∃j,j<n/\X j=x
 .obtain⟨j,hj,hjx⟩:=h5;obtain⟨e0,e1,e2⟩:=(he j hj).cells;have hl:(Instr.lookup 239 (.map (some B1)) (.string x) false).run Tryz.prog w=.ok (pt (V j)) w:=
   hm.look_some (kt:=9) (et:=245) (by kernel_rfl) (by kernel_rfl) (d:=.string) (show IsKey .string (.string x) from trivial) (λj _=>show IsKey .string (.string (X j)) from trivial) hj (by rw[hjx]) (λq hq e=>by
    have:X q=X j:=by injection e with e;rw[e,hjx]
    rw[hinj q j hq hj this])
  clear he hm ht hinj;go_enter Tryz.func97,Tryz.ntmps97;go_wp2;go_ret;exact⟨.inl ⟨j,hj,hjx,rfl⟩,Wt _ _⟩
 .have hno:=λi hi e=>h5 ⟨i,hi,e⟩;have hl:(Instr.lookup 239 (.map (some B1)) (.string x) false).run Tryz.prog w=.ok (.pointer none) w:=
   hm.look_none (kt:=9) (et:=245) (by kernel_rfl) (by kernel_rfl) (d:=.string) (show IsKey .string (.string x) from trivial) (λj _=>show IsKey .string (.string (X j)) from trivial) (λj hj e=>hno j hj (by injection e)) (by kernel_rfl)
  have HNO:=hid hno;clear he hm ht hinj hno h5;go_enter Tryz.func97,Tryz.ntmps97;go_wp2;go_ret;exact⟨.inr ⟨HNO.o,rfl⟩,Wt _ _⟩
def VW (w:World) (n:Nat) (I:Nat->Int) (x:Int) (e:Ending) (w' : World):Prop:=
 ((∃i,i<n/\I i=x/\e=.returned (iv i))\/((∀i,i<n->I i≠x)/\e=.returned (iv (-1))))/\Below w.heap.size w w'
theorem IX (next:Int) (a:Option Addr) (n c:Nat) (I:Nat->Int) (X:Nat->ByteArray) (R:Nat->Int) (x:Int) (w:World) (h:E0 w a n I X R) (hn:n<=1048576) :
  WS 69 #[.agg #[iv next,.slice a n c],iv x] w (VW w n I x):=by
 go_enter Tryz.func69,Tryz.ntmps69;go_wp2;go_loopw [5] (λi wr=>∃k:Nat,k<=n/\i=iv k/\(∀m,m<k->I m≠x)/\Below (w.heap.size+1) (w.alloc (.cells #[iv next,.slice a n c] 45)) wr) (λi _=>n-(intOf i).toNat)
 case atStart=>exact⟨0,Ww _,rfl,λm hm=>absurd hm (Wy _),Wt _ _⟩
 case round=>
  obtain⟨k,hk,rfl,hno,hb0⟩:=hrel;obtain⟨d0,d1,dz,hbel⟩:=KS hb0;have HO:=hid hno;have HB0:=hid hb0;have HB:=hid hbel;clear hno hb0;by_cases hlt:k<n
  .have hne:¬ n=0:=by omega
   have h':=h.below hbel;clear hbel;rcases h' with h' | ⟨b,o,rfl,hc⟩;.exact absurd h' hne
   obtain⟨c1,c2,c3⟩:=hc k hlt;clear hc h;by_cases hx:I k=x
   .have hbx:(I k == x)=true:=by rw[hx];simp
    have HX:=hid hx;clear hx;go_wp2;go_ret;exact⟨.inl ⟨k,hlt,HX.o,rfl⟩,HB.o⟩
   .have hbx:(I k == x)=false:=by simp[hx]
    have HX:=hid hx;go_wp2;go_roundw;case rel=>
     refine⟨k+1,by omega,by go_num,λm hm=>?_,HB0.o⟩;by_cases e:m=k;.subst e;exact HX.o
     .exact HO.o m (by omega)
    case measure=>simp[intOf];omega
  .have e:n=k:=by omega
   subst e;clear hbel;go_wp2;go_ret;exact⟨.inr ⟨HO.o,rfl⟩,HB.o⟩
def Ii (n:Nat) (I:Nat->Int) (X:Nat->ByteArray) (R:Nat->Int) (next:Int) (x:Int) (r:ByteArray):Prop:=
 (C8 next n I X R->(∃i,i<n/\I i=x/\r=X i)\/((∀i,i<n->I i≠x)/\r={ data:=#[] }))/\(¬ C8 next n I X R->r={ data:=#[] })
theorem C8.id_inj {next:Int} (h:C8 next n I X R) {i j:Nat} (hi:i<n) (hj:j<n) (e:I i=I j):i=j:=
 GB (λm hm=>(h.2.2 m hm).2) i hi j hj e
theorem Ii.same {next:Int} {x:Int} {r r':ByteArray} (h:Ii n I X R next x r) (h' : Ii n I X R next x r'):r=r':=by
 by_cases hv:C8 next n I X R
 .rcases h.1 hv with ⟨i,hi,e,rfl⟩|⟨ha,rfl⟩
  .rcases h'.1 hv with ⟨j,hj,e',rfl⟩|⟨ha',rfl⟩;.rw[hv.id_inj hi hj (e.trans e'.symm)]
   .exact absurd e (ha' i hi)
  .rcases h'.1 hv with ⟨j,hj,e',rfl⟩|⟨ha',rfl⟩;.exact absurd e' (ha j hj)
   .rfl
 .rw[h.2 hv,h'.2 hv]
def Tf (w:World) (n:Nat) (I:Nat->Int) (X:Nat->ByteArray) (R:Nat->Int) (next:Int) (x:Int) (e:Ending) (w' : World):Prop:=
 ∃r,e=.returned (.string r)/\Ii n I X R next x r/\Below w.heap.size w w'
theorem Ks (next:Int) (a:Option Addr) (n c:Nat) (I:Nat->Int) (X:Nat->ByteArray) (R:Nat->Int) (x:Int) (w:World) (h:E0 w a n I X R) (hn:n<=1048576) :
  WS 35 #[.agg #[iv next,.slice a n c],iv x] w (Tf w n I X R next x):=by
 have HR:=hid h;clear h;go_enter Tryz.func35,Tryz.ntmps35;go_wp2_with fail
 refine (IX next a n c I X R x _ (HR.o.below (Aa _ _)) hn).mono ?_;rintro e w1 ⟨hat,hb1⟩;rw[WJ] at hb1;have K1:=hid hb1;obtain⟨d0,d1,dz,hbel⟩:=KS hb1;have HB1:=hid hbel;clear hb1 hbel;rcases hat with ⟨i,hi,hx,rfl⟩|⟨hno,rfl⟩
 .have hi0:¬ ((i:Int)<0):=by omega
  have HX:=hid hx;clear hx;go_wp2_with fail
  refine (Nl next a n c I X R w1 (HR.o.below HB1.o) hn).mono ?_;rintro e w2 ⟨bv,rfl,hbv,hb2⟩;have HBV:=hid hbv;have K2:=hid (K1.o.trans (hb2.mono (by omega)));clear hbv hb2 d0 d1;obtain⟨d0,d1,dz2,hbel⟩:=KS K2.o;have HB2:=hid hbel;clear hbel;cases bv with
  | false=>go_wp2;go_ret;exact⟨_,rfl,⟨λq=>absurd (HBV.o.2 q) (by simp),λ_=>rfl⟩,HB2.o⟩
  | true=>
   have HV:=hid (HBV.o.1 rfl);rcases HR.o.below HB2.o with h0|⟨b,o,rfl,hc⟩;.omega
   obtain⟨c1,c2,c3⟩:=hc i hi;clear hc;go_wp2;go_ret;exact⟨X i,rfl,⟨λ_=>.inl ⟨i,hi,HX.o,rfl⟩,λq=>absurd HV.o q⟩,HB2.o⟩
 .go_wp2;go_ret;exact⟨_,rfl,⟨λ_=>.inr ⟨hno,rfl⟩,λ_=>rfl⟩,HB1.o⟩
theorem QT (tb B1 B2 n:Nat) (next:Int) (I:Nat->Int) (X:Nat->ByteArray) (R:Nat->Int) (V:Nat->Nat) (x:Int) (w:World) (ht:Dx w tb next B1 B2) (hm:AP w B2 n (λj=>iv (I j)) (λj=>pt (V j))) (he:∀j,j<n->BS w (V j) (I j) (X j) (R j)) (hinj:∀i j,i<n->j<n->I i=I j->i=j) :
  WS 100 #[pt tb,iv x] w λe w'=>((∃i,i<n/\I i=x/\e=.returned (.string (X i)))\/((∀i,i<n->I i≠x)/\e=.returned (.string { data:=#[] })))/\Below w.heap.size w w':=by
 obtain⟨t0,t1,t2⟩:=ht.cells;by_cases h5:∃j,j<n/\I j=x
 .obtain⟨j,hj,hjx⟩:=h5;obtain⟨e0,e1,e2⟩:=(he j hj).cells;have hl:(Instr.lookup 240 (.map (some B2)) (iv x) false).run Tryz.prog w=.ok (pt (V j)) w:=
   hm.look_some (kt:=2) (et:=245) (by kernel_rfl) (by kernel_rfl) (d:=.int .i64) (show IsKey (.int .i64) (iv x) from rfl) (λj _=>show IsKey (.int .i64) (iv (I j)) from rfl) hj (by rw[hjx]) (λq hq e=>by
    have:I q=I j:=by injection e with _ e;rw[e,hjx]
    rw[hinj q j hq hj this])
  have HJ:=hid hjx;clear he hm ht hinj hjx;go_enter Tryz.func100,Tryz.ntmps100;go_wp2;go_ret;exact⟨.inl ⟨j,hj,HJ.o,rfl⟩,Wt _ _⟩
 .have hno:=λi hi e=>h5 ⟨i,hi,e⟩;have hl:(Instr.lookup 240 (.map (some B2)) (iv x) false).run Tryz.prog w=.ok (.pointer none) w:=
   hm.look_none (kt:=2) (et:=245) (by kernel_rfl) (by kernel_rfl) (d:=.int .i64) (show IsKey (.int .i64) (iv x) from rfl) (λj _=>show IsKey (.int .i64) (iv (I j)) from rfl) (λj hj e=>hno j hj (by injection e)) (by kernel_rfl)
  have HNO:=hid hno;clear he hm ht hinj hno h5;go_enter Tryz.func100,Tryz.ntmps100;go_wp2;go_ret;exact⟨.inr ⟨HNO.o,rfl⟩,Wt _ _⟩
end Go.Proofs.YtacpbofiipdodaaGreat
