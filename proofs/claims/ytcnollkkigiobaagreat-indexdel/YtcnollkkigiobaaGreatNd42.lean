import Derived.Test.YtcnollkkigiobaaGreatNd40
import Derived.Test.YtcnollkkigiobaaGreatNd35
import Derived.Test.YtcnollkkigiobaaGreatNd12
import Derived.Test.YtcnollkkigiobaaGreatNd18
import Derived.Test.YtcnollkkigiobaaGreatNd32
set_option linter.unusedVariables false
set_option maxRecDepth 100000
namespace Go.Proofs.YtcnollkkigiobaaGreat
open Go.RowKit Go.Deep

theorem RowI.low {P:World->Nat->Nat->Nat->(Nat->Tn)->Value->Prop} {w:World} {B B' k:Nat} {v:Value} {M:Nat->Nat} {T:Nat->Nat->Tn} {us:List Value} {lo hi:Nat->Nat} (h:RowI P w B v k M T us lo hi) (hB:B'<=B):RowI P w B' v k M T us lo hi:=
 ⟨own_mono h.row hB,h.len,h.tree,fun i hi=>Nat.le_trans hB (h.base i hi),h.ord,h.sep⟩
theorem RowI.congr {P:World->Nat->Nat->Nat->(Nat->Tn)->Value->Prop} {w:World} {B k:Nat} {v:Value} {M M' : Nat->Nat} {T T' : Nat->Nat->Tn} {us:List Value} {lo hi:Nat->Nat} (h:RowI P w B v k M T us lo hi) (e:∀i,i<k->M i=M' i/\T i=T' i):RowI P w B v k M' T' us lo hi:=
 ⟨h.row,h.len,fun i hi=>by rw [<- (e i hi).1,<- (e i hi).2];exact h.tree i hi,h.base,h.ord,h.sep⟩
theorem keep_cell {wr w2 w4:World} {O:Obj} {r:Option Nat} {B:Nat} (hb:Below wr.heap.size wr w2) (hg:(w2.alloc O).grownBy w4 r) (hr:∀g,r=some g->B<=g) {p:Addr} (hp:p.block<B) (hp2:p.block<wr.heap.size):w4.cell? p=wr.cell? p:=by
 have hz:=hb.size
 have e:w4.heap[p.block]?=wr.heap[p.block]?:=(hg.block p.block (by rw [World.size_alloc];omega) (fun e=>by have:=hr _ e.symm;omega)).trans (((below_alloc w2 O).block p.block (by omega)).trans (hb.block p.block hp2))
 simp only [World.cell?,e]
theorem keep_block {wr w2 w4:World} {O:Obj} {r:Option Nat} {B:Nat} (hb:Below wr.heap.size wr w2) (hg:(w2.alloc O).grownBy w4 r) (hr:∀g,r=some g->B<=g) {b:Nat} (hp:b<B) (hp2:b<wr.heap.size):w4.heap[b]?=wr.heap[b]?:=by
 have hz:=hb.size
 exact (hg.block b (by rw [World.size_alloc];omega) (fun e=>by have:=hr _ e.symm;omega)).trans (((below_alloc w2 O).block b (by omega)).trans (hb.block b hp2))
def RetCs (w:World) (n:Nat) (M:Nat->Nat) (T:Nat->Nat->Tn) (e:Ending) (w' : World):Prop:=
 ∃a c us lo hi,e=.returned (.agg #[.slice a n c])/\RowI TreeRd w' (w.heap.size+3) (.slice a n c) n M T us lo hi/\Below w.heap.size w w'

set_option maxHeartbeats 4000000 in
theorem l5Copy_any (a:Option Addr) (n c:Nat) (M:Nat->Nat) (T:Nat->Nat->Tn) (w:World) (h:RdIx w a n M T) (hn:n<=1048576) (hN:IxFit n M T) :
  Calls Tryz.prog 42 #[.agg #[.slice a n c]] w (RetCs w n M T):=by
 have HR:Hid (RdIx w a n M T/\IxFit n M T):=⟨h,hN⟩
 clear h hN
 obtain ⟨W0,hW0⟩:∃W0,W0=((w.alloc (.cells #[.slice a n c] 32)).alloc (.cells #[.slice none 0 0] 32)).alloc (.cells #[.slice none 0 0] 32):=⟨_,rfl⟩
 have B0:Hid (Bx W0 w.heap.size 32 #[.slice a n c]/\Bx W0 (w.heap.size+1) 32 #[.slice none 0 0]/\Bx W0 (w.heap.size+2) 32 #[.slice none 0 0]/\Below w.heap.size w W0/\W0.heap.size=w.heap.size+3):=by
  have b1:=Bx.new w #[.slice a n c] 32
  have b2:=Bx.new (w.alloc (.cells #[.slice a n c] 32)) #[.slice none 0 0] 32
  have b3:=Bx.new ((w.alloc (.cells #[.slice a n c] 32)).alloc (.cells #[.slice none 0 0] 32)) #[.slice none 0 0] 32
  simp only [World.size_alloc] at b2 b3
  rw [hW0]
  exact ⟨(b1.alloc _).alloc _,b2.alloc _,b3,((below_alloc _ _).alloc (by simp) _).alloc (by simp;omega) _,by simp⟩
 go_enter Tryz.func42,Tryz.ntmps42
 go_upto_region 2 with fail
 rw [<- hW0]
 clear hW0
 go_wp2
 go_loopw [4] (fun i wr=>∃(k:Nat) (v:Value) (us:List Value) (lo hi:Nat->Nat),k<=n/\i=.int .i64 k/\RowI TreeRd wr (w.heap.size+3) v k M T us lo hi/\Bx wr (w.heap.size+2) 32 #[v]/\Below (w.heap.size+2) W0 wr) (fun i _=>n-(intOf i).toNat)
 case atStart=>exact ⟨0,_,[],_,_,Nat.zero_le _,rfl,RowI.nil _ _ _ _ _,B0.out.2.2.1,Below.refl _ _⟩
 case round=>
  obtain ⟨k,v,us,lo,hi,hk,rfl,hrow,hbx,hbel⟩:=hrel
  obtain ⟨av,cv,ev⟩:=hrow.form
  subst ev
  have hz:=hbel.size
  have hw2:=B0.out.2.2.2.2
  have HQ:Hid (RowI TreeRd wr (w.heap.size+3) (.slice av k cv) k M T us lo hi/\Below (w.heap.size+2) W0 wr/\w.heap.size+3<=wr.heap.size/\Below w.heap.size w wr/\Bx wr (w.heap.size+2) 32 #[.slice av k cv]):=⟨hrow,hbel,by omega,B0.out.2.2.2.1.trans (hbel.mono (by omega)),hbx⟩
  have k0:(0:Int)<=(k:Int):=by omega
  have x1:wr.cell? ⟨w.heap.size,0,none⟩=some (.slice a n c):=by
   have:=(B0.out.1.below' hbel (by omega)).cell 0
   simpa using this
  by_cases hlt:k<n
  ·have k1:(k:Int)<(n:Int):=by omega
   have hbw:∃bb oo,a=some ⟨bb,oo,none⟩/\bb<w.heap.size/\∃ai ci,wr.cell? ⟨bb,oo+k,none⟩=some (.slice ai (M k) ci)/\RdTn wr ai (M k) (T k):=by
    rcases HR.out.1 with h0|⟨bb,oo,e,hc⟩
    ·omega
    ·obtain ⟨ai,ci,s0,hrd⟩:=hc k hlt
     have hlb:=World.block_lt_of_cell? _ _ s0
     exact ⟨bb,oo,e,hlb,ai,ci,by rw [HQ.out.2.2.2.1.cell (show (⟨bb,oo+k,none⟩:Addr).block<w.heap.size from hlb)];exact s0,hrd.below HQ.out.2.2.2.1⟩
   obtain ⟨bb,oo,ea,hbb,ai,ci,s0,hrd⟩:=hbw
   subst ea
   have HF:=HR.out.2 k hlt
   have x0:wr.cell? ⟨w.heap.size+2,0,none⟩=some (.slice av k cv):=by
    have:=hbx.cell 0
    simpa using this
   have HC:Hid (Calls Tryz.prog 77 #[.agg #[.slice ai (M k) ci]] wr.drew (RetNs wr.drew (M k) (T k))):=copyS_any ai (M k) ci (T k) wr.drew (hrd.below ((Below.refl _ _).drew)) HF.1 HF.2
   have HU:Hid (∀w2:World,Below wr.drew.heap.size wr.drew w2->Below wr.heap.size wr w2):=fun w2 h=>below_undrew h
   have HK2:Hid (∀w2:World,Below wr.drew.heap.size wr.drew w2->w2.cell? ⟨w.heap.size+2,0,none⟩=some (.slice av k cv)/\w2.cell? ⟨w.heap.size,0,none⟩=some (.slice (some ⟨bb,oo,none⟩) n c)/\w2.cell? ⟨bb,oo+k,none⟩=some (.slice ai (M k) ci)):=fun w2 h=>by
    have hb:=below_undrew h
    exact ⟨(hb.cell (World.block_lt_of_cell? _ _ x0)).trans x0,(hb.cell (World.block_lt_of_cell? _ _ x1)).trans x1,(hb.cell (World.block_lt_of_cell? _ _ s0)).trans s0⟩
   have HK3:Hid (∀w2:World,Below wr.drew.heap.size wr.drew w2->∀O:Obj,(w2.alloc O).cell? ⟨w.heap.size+2,0,none⟩=some (.slice av k cv)/\(w2.alloc O).cell? ⟨w.heap.size,0,none⟩=some (.slice (some ⟨bb,oo,none⟩) n c)/\(w2.alloc O).cell? ⟨bb,oo+k,none⟩=some (.slice ai (M k) ci)):=fun w2 h O=>by
    have hb:=(below_undrew h).trans ((below_alloc w2 O).mono (below_undrew h).size)
    exact ⟨(hb.cell (World.block_lt_of_cell? _ _ x0)).trans x0,(hb.cell (World.block_lt_of_cell? _ _ x1)).trans x1,(hb.cell (World.block_lt_of_cell? _ _ s0)).trans s0⟩
   have hown:∀g,(Value.slice av k cv).ownBlock=some g->w.heap.size+3<=g:=fun g e=>(own_lt HQ.out.1.row g e).1
   have HK4:Hid (∀(w2 w4:World),Below wr.drew.heap.size wr.drew w2->∀O:Obj,(w2.alloc O).grownBy w4 (Value.slice av k cv).ownBlock->w4.cell? ⟨w.heap.size+2,0,none⟩=some (.slice av k cv)/\w4.cell? ⟨w.heap.size,0,none⟩=some (.slice (some ⟨bb,oo,none⟩) n c)/\w4.cell? ⟨bb,oo+k,none⟩=some (.slice ai (M k) ci)/\w4.frozen? ⟨w.heap.size+2,0,none⟩=false/\w.heap.size+2<w4.heap.size):=fun w2 w4 h O hg=>by
    have hb:=below_undrew h
    have bxx:Bx w4 (w.heap.size+2) 32 #[.slice av k cv]:=(keep_block hb hg hown (by omega) (by have:=HQ.out.2.2.1;omega)).trans HQ.out.2.2.2.2
    exact ⟨by have:=bxx.cell 0;simpa using this,(keep_cell hb hg hown (by show w.heap.size<_;omega) (World.block_lt_of_cell? _ _ x1)).trans x1,(keep_cell hb hg hown (by show bb<_;omega) (World.block_lt_of_cell? _ _ s0)).trans s0,bxx.frozen 0,bxx.lt⟩
   have HT:Hid (∀w2:World,Below wr.drew.heap.size wr.drew w2->∀O:Obj,(w2.alloc O).ownsRow (w.heap.size+3) 59 1 (.slice av k cv) k us):=fun w2 h O=>own_below (own_below HQ.out.1.row (below_undrew h)) (below_alloc _ _)
   have HZ:Hid (∀w2:World,Below wr.drew.heap.size wr.drew w2->w.heap.size+3<=w2.heap.size):=fun w2 h=>Nat.le_trans HQ.out.2.2.1 (below_undrew h).size
   have xd0:wr.drew.cell? ⟨w.heap.size+2,0,none⟩=some (.slice av k cv):=x0
   have xd1:wr.drew.cell? ⟨w.heap.size,0,none⟩=some (.slice (some ⟨bb,oo,none⟩) n c):=x1
   have xd2:wr.drew.cell? ⟨bb,oo+k,none⟩=some (.slice ai (M k) ci):=s0
   clear hrow hbel hbx hrd HF hown
   go_wp2
   refine wp_region_late (S:=(fun w'=>w'.cell? ⟨w.heap.size+2,0,none⟩=some (.slice av k cv)/\w'.cell? ⟨w.heap.size,0,none⟩=some (.slice (some ⟨bb,oo,none⟩) n c)/\w'.cell? ⟨bb,oo+k,none⟩=some (.slice ai (M k) ci))) 11 (by kernel_rfl) ?_ (fun hHeld=>?_)
   ·((try dsimp only);go_keep)
   refine tk 0 .zero (v:=?_) ?_ ?_
   rotate_left
   ·(intro w h;(try dsimp only at h);go_simp) <;> with_reducible rfl
   simp only [tkp]
   refine tk 1 (.succ .zero) (v:=?_) ?_ ?_
   rotate_left
   ·(intro w h;(try dsimp only at h);go_simp) <;> with_reducible rfl
   simp only [tkp]
   refine tk 2 (.succ (.succ .zero)) (v:=?_) ?_ ?_
   rotate_left
   ·(intro w h;(try dsimp only at h);go_simp) <;> with_reducible rfl
   simp only [tkp]
   refine tk 3 (.succ (.succ (.succ .zero))) (v:=?_) ?_ ?_
   rotate_left
   ·(intro w h;(try dsimp only at h);go_simp) <;> with_reducible rfl
   simp only [tkp]
   refine tk 4 (.succ (.succ (.succ (.succ .zero)))) (v:=?_) ?_ ?_
   rotate_left
   ·(intro w h;(try dsimp only at h);go_simp) <;> with_reducible rfl
   simp only [tkp]
   refine tk 5 (.s5 .zero) (v:=?_) ?_ ?_
   rotate_left
   ·(intro w h;(try dsimp only at h);go_simp) <;> with_reducible rfl
   simp only [tkp]
   refine tk 6 (.s5 (.succ .zero)) (v:=?_) ?_ ?_
   rotate_left
   ·(intro w h;(try dsimp only at h);go_simp) <;> with_reducible rfl
   simp only [tkp]
   refine tk1 7 (.s5 (.succ (.succ .zero))) (fun K hK=>?_)
   (refine step_f1 (by rfl) 77 19 _ (by rfl) _ (by rfl) (fun _ _=>rfl) ?_;refine HC.out.mono ?_;rintro e w2 ⟨hb2,a2,c2,rfl,hr2⟩;refine ⟨_,rfl,?_⟩;obtain ⟨y0,y1,y2⟩:=HK2.out w2 hb2)
   refine hK.out _ _ ?_ (fun hG=>?_)
   ·(intro _;(try dsimp only);go_keep)
   clear hK K
   replace hHeld:=hG (by decide)
   clear hG
   try simp only [tkp]
   refine tk1 8 (.s5 (.succ (.succ (.succ .zero)))) (fun K hK=>?_)
   (refine step_tsl (by rfl) (by rfl) (by rfl) ?_;obtain ⟨z0,z1,z2⟩:=HK3.out w2 hb2 (.cells #[.slice a2 (M k) c2] 59))
   refine hK.out _ _ ?_ (fun hG=>?_)
   ·(intro _;(try dsimp only);go_keep)
   clear hK K
   replace hHeld:=hG (by decide)
   clear hG
   try simp only [tkp]
   refine tk1 9 (.s5 (.succ (.succ (.succ (.succ .zero))))) (fun K hK=>?_)
   (refine step_tapp (by rfl) (.tmp 14) (.tmp 21) (by rfl) (w.heap.size+3) k (.slice av k cv) us (by rfl) _ (HT.out w2 hb2 _) (by rfl) rfl (by omega) (HZ.out w2 hb2) ?_;intro v4 w4 hown4 hgr4 hat4;obtain ⟨a4,c4,e4,_⟩:=own_form hown4;subst e4;obtain ⟨u0,u1,u2,uf,ul⟩:=HK4.out w2 w4 hb2 _ hgr4)
   refine hK.out _ _ ?_ (fun hG=>?_)
   ·(intro _;(try dsimp only);go_keep)
   clear hK K
   replace hHeld:=hG (by decide)
   clear hG
   try simp only [tkp]
   refine tk1 10 (.s5 (.s5 .zero)) (fun K hK=>?_)
   go_simp
   refine hK.out _ _ ?_ (fun hG=>?_)
   ·(intro _;(try dsimp only);go_keep)
   clear hK K
   replace hHeld:=hG (by decide)
   clear hG
   try simp only [tkp]
   refine tk1 11 (.s5 (.s5 (.succ .zero))) (fun K hK=>?_)
   go_simp
   refine hK.out _ _ ?_ (fun hG=>?_)
   ·(intro hne;exact absurd rfl hne)
   clear hK K hG
   refine wpLate_done (by kernel_rfl) ?_ _
   have H7:Hid ((∃lo' hi',RowI TreeRd (w4.setCell ⟨w.heap.size+2,0,none⟩ (.slice a4 (k+1) c4)) (w.heap.size+3) (.slice a4 (k+1) c4) (k+1) M T (us++[.slice a2 (M k) c2]) lo' hi')/\Bx (w4.setCell ⟨w.heap.size+2,0,none⟩ (.slice a4 (k+1) c4)) (w.heap.size+2) 32 #[.slice a4 (k+1) c4]/\Below (w.heap.size+2) W0 (w4.setCell ⟨w.heap.size+2,0,none⟩ (.slice a4 (k+1) c4))):=by
    have hb:=HU.out w2 hb2
    have hz2:=hb.size
    have hz3:=HQ.out.2.2.1
    have hown:∀g,(Value.slice av k cv).ownBlock=some g->w.heap.size+3<=g:=fun g e=>(own_lt HQ.out.1.row g e).1
    obtain ⟨lo',hi',hr'⟩:=HQ.out.1.step TreeRd.pl hz3 hb (l:=wr.heap.size+2) (by omega) (TreeRd.of (by have:=hr2;exact this)) _ hgr4 hown4 hat4
    have bxx:Bx w4 (w.heap.size+2) 32 #[.slice av k cv]:=(keep_block hb hgr4 hown (by omega) (by omega)).trans HQ.out.2.2.2.2
    refine ⟨⟨lo',hi',hr'.setO TreeRd.pl (by simp) _⟩,?_,?_⟩
    ·have:=bxx.set 0 (.slice a4 (k+1) c4)
     simpa using this
    ·exact (((HQ.out.2.1.trans (hb.mono (by omega))).trans ((below_alloc _ _).mono (by omega))).grown hgr4 (by simp;omega) (fun g e=>by have:=hown g e;omega)).setCell (by simp) _
   clear hr2 hb2 hown4 hgr4 hat4 HT HK2 HK3 HK4 HZ HU y0 y1 y2 z0 z1 z2 u0 u1 u2 uf ul xd0 xd1 xd2 x0 x1 s0 HC
   go_wp2
   go_roundw
   case rel=>
    obtain ⟨⟨lo',hi',hr'⟩,hb',hbb'⟩:=H7.out
    exact ⟨k+1,_,_,lo',hi',by omega,by go_num,hr',hb',hbb'⟩
   case measure=>simp [intOf];omega
  ·obtain rfl:k=n:=by omega
   have k1:¬ (k:Int)<(k:Int):=by omega
   have b1:Bx wr (w.heap.size+1) 32 #[.slice none 0 0]:=B0.out.2.1.below' hbel (by omega)
   have y0:=b1.cell 0
   have y1:=hbx.cell 0
   simp at y0 y1
   have yf:=b1.frozen 0
   have yl:=b1.lt
   clear hrow hbel b1 hbx
   go_wp2
   refine bodyPost_ret (v:=.agg #[.slice av k cv]) (by simp [results,Tryz.results42,go_sem,y0]) rfl ⟨av,cv,us,lo,hi,rfl,HQ.out.1.setO TreeRd.pl (by simp) _,HQ.out.2.2.2.1.setCell (by simp) _⟩

theorem NR.below {S:Nat->Prop} {w w' : World} {d b g n kc:Nat} {x:Int} {m:List (Ro (d+1))} {us:List Value} {cs:List Nat} (h:NR S w d b g n kc x m us cs) (hb:Below w.heap.size w w'):NR S w' d b g n kc x m us cs:=by
 obtain ⟨cur,hc,hcs⟩:=h.own
 have hgl:=(Array.getElem?_eq_some_iff.1 hc).1
 refine ⟨h.box.below hb,⟨cur,(hb.block g hgl).trans hc,hcs⟩,fun j u hj=>(hb.cell (p:=⟨g,j,none⟩) hgl).trans (h.row j u hj),h.ul,h.ml,h.cl,h.nd,h.out,h.nb,h.ng,h.gb,h.cap,fun k hk=>?_⟩
 obtain ⟨u,c,e1,e2,e3⟩:=h.kid k hk
 have hl:c<w.heap.size:=by rcases e3.form with ⟨_,_,_,_,hx⟩|⟨_,_,_,_,hx⟩ <;> exact hx.lt
 exact ⟨u,c,e1,e2,e3.keep hb.size (hb.block c hl) (fun y hy hl=>⟨hy,hb.block y hl⟩)⟩
theorem NR.ne {S:Nat->Prop} {w:World} {d b g n kc:Nat} {x:Int} {m:List (Ro (d+1))} {us:List Value} {cs:List Nat} (h:NR S w d b g n kc x m us cs) {p q cp cq:Nat} (hp:cs[p]?=some cp) (hq:cs[q]?=some cq) (hne:p≠q):cp≠cq:=fun e=>by
 obtain ⟨a1,a2⟩:=List.getElem?_eq_some_iff.1 hp
 obtain ⟨b1,b2⟩:=List.getElem?_eq_some_iff.1 hq
 exact hne ((List.getElem_inj h.nd).1 (by rw [a2,b2,e]))
theorem NR.one {S:Nat->Prop} {w:World} {d b g n kc:Nat} {x:Int} {m:List (Ro (d+1))} {us:List Value} {cs:List Nat} (h:NR S w d b g n kc x m us cs):∀v∈us,v.oneCell'=true:=by
 intro v hv
 obtain ⟨k,hk,e⟩:=List.getElem_of_mem hv
 have h1:=h.ul
 have h2:=h.ml
 obtain ⟨u,c,e1,_,e3⟩:=h.kid k (by omega)
 rw [List.getElem?_eq_getElem hk,e] at e1
 injection e1 with e1
 subst e1
 rcases e3.form with ⟨rfl,_⟩|⟨rfl,_⟩ <;> rfl
theorem wide_s {S:Nat->Prop} {w' : World} {z c:Nat} {cs:List Nat} {d:Nat} {t:Ro d} {v:Value} (hc:c∈cs) (h:TAo (fun y=>S y\/y=c\/z<=y) w' d t v):TAo (fun y=>S y\/y∈cs\/z<=y) w' d t v:=h.wide (fun y hy _=>by
 rcases hy with q|rfl|q
 ·exact .inl q
 ·exact .inr (.inl hc)
 ·exact .inr (.inr q))

set_option maxHeartbeats 8000000 in
theorem joinRight_any {S:Nat->Prop} {w:World} {d b g n kc:Nat} {x:Int} {m:List (Ro (d+1))} {us:List Value} {cs:List Nat} (hR:NR S w d b g n kc x m us cs) (hn:n<=1000) (p:Nat) (hpn:p+1<n) (t u:Ro (d+1)) (ht:m[p]?=some t) (hu:m[p+1]?=some u) (h:Nat) (hU:BalU (d+1) t h) (hV:BalU (d+1) u h) (h0:1<=sizD t) (hkeys:(keysR (d+1) t).length+(keysR (d+1) u).length<=1099511627776) :
  Calls Tryz.prog 199 #[.pointer (some ⟨b,0,none⟩),.int .i64 (p:Int)] w (RetF S w d b g kc x (m.take p++joinD t u::m.drop (p+2)) cs):=by
 have hD:=hR.below (Below.refl _ w).drew
 obtain ⟨t',v1,c1,q1,q2,q3,q4,q5,q6,q7,q8⟩:=hD.at p (by omega)
 rw [ht] at q1
 injection q1 with q1
 subst q1
 obtain ⟨u',v2,c2,r1,r2,r3,r4,r5,r6,r7,r8⟩:=hD.at (p+1) hpn
 rw [hu] at r1
 injection r1 with r1
 subst r1
 have hne:=hR.ne q3 r3 (by omega)
 have hU4:=hU.le
 have hV4:=hV.le
 obtain ⟨s1,hs1⟩:∃s1,s1=sizD t:=⟨_,rfl⟩
 obtain ⟨s2,hs2⟩:∃s2,s2=sizD u:=⟨_,rfl⟩
 rw [<- hs1] at q6 hU4 h0
 rw [<- hs2] at r6 hV4
 have HS1:Hid (SzI v1 s1 w.drew):=q6
 have HS2:Hid (SzI v2 s2 w.drew):=r6
 have HDl:Hid (Calls Tryz.prog 137 #[v1,v2,.int .i64 (IntKind.i64.wrap ((s1:Int)+(s2:Int)))] w.drew fun e w'=>e=.returned (.tuple #[])/\Fr2 w.drew w' c1 c2/\TAo (fun y=>S y\/y=c1\/w.drew.heap.size<=y) w' (d+1) (joinD t u) v1):=by
  rw [show IntKind.i64.wrap ((s1:Int)+(s2:Int))=((s1+s2:Nat):Int) by rw [IntKind.wrap_i64];omega]
  exact dealDF_any d h c1 c2 (s1+s2) t u v1 v2 S w.drew q5 r5 hU hV q7 r7 hne (by omega) (by rw [hs1,hs2]) hkeys
 have HD:Hid (NR S w d b g n kc x m us cs/\NR S w.drew d b g n kc x m us cs):=⟨hR,hD⟩
 have HC:Hid (us[p]?=some v1/\cs[p]?=some c1/\us[p+1]?=some v2/\cs[p+1]?=some c2):=⟨q2,q3,r2,r3⟩
 have c1b:=hD.box.cell 1
 simp at c1b
 have hbl:=hD.box.lt
 have hwi:IntKind.i64.wrap ((p:Int)+1)=((p+1:Nat):Int):=by rw [IntKind.wrap_i64];omega
 have hwi2:IntKind.i64.wrap ((p:Int)+2)=(p:Int)+2:=by rw [IntKind.wrap_i64];omega
 have i0:(0:Int)<=(p:Int):=by omega
 have i1:(p:Int)<(n:Int):=by omega
 have i0m:(0:Int)<=((p+1:Nat):Int):=by omega
 have i0p:(0:Int)<=(p:Int)+1:=by omega
 have i1m:((p+1:Nat):Int)<(n:Int):=by omega
 have i1p:(p:Int)+1<(n:Int):=by omega
 clear hR hD q2 q3 q5 q6 r2 r3 r5 r6 ht hu hs1 hs2 hU hV hkeys
 go_enter Tryz.func199,Tryz.ntmps199
 go_upto_region 0 with fail
 refine wp_region_late (S:=fun w'=>w'.cell? ⟨b,1,none⟩=some (.slice (some ⟨g,0,none⟩) n kc)/\w'.cell? ⟨g,p,none⟩=some v1/\w'.cell? ⟨g,p+1,none⟩=some v2) 33 (by kernel_rfl) ⟨c1b,q4,r4⟩ (fun hHeld=>?_)
 refine tk 0 .zero (v:=?_) ?_ ?_
 rotate_left
 ·(intro w h;(try dsimp only at h);go_simp) <;> with_reducible rfl
 simp only [tkp]
 refine tk 1 (.succ .zero) (v:=?_) ?_ ?_
 rotate_left
 ·(intro w h;(try dsimp only at h);go_simp) <;> with_reducible rfl
 simp only [tkp]
 refine tk 2 (.succ (.succ .zero)) (v:=?_) ?_ ?_
 rotate_left
 ·(intro w h;(try dsimp only at h);go_simp) <;> with_reducible rfl
 simp only [tkp]
 refine tk 3 (.succ (.succ (.succ .zero))) (v:=?_) ?_ ?_
 rotate_left
 ·(intro w h;(try dsimp only at h);go_simp) <;> with_reducible rfl
 simp only [tkp]
 refine tk 4 (.succ (.succ (.succ (.succ .zero)))) (v:=?_) ?_ ?_
 rotate_left
 ·(intro w h;(try dsimp only at h);go_simp) <;> with_reducible rfl
 simp only [tkp]
 refine tk 5 (.s5 .zero) (v:=?_) ?_ ?_
 rotate_left
 ·(intro w h;(try dsimp only at h);go_simp) <;> with_reducible rfl
 simp only [tkp]
 refine tk 6 (.s5 (.succ .zero)) (v:=?_) ?_ ?_
 rotate_left
 ·(intro w h;(try dsimp only at h);go_simp) <;> with_reducible rfl
 simp only [tkp]
 refine tk 7 (.s5 (.succ (.succ .zero))) (v:=?_) ?_ ?_
 rotate_left
 ·(intro w h;(try dsimp only at h);go_simp) <;> with_reducible rfl
 simp only [tkp]
 refine tk 8 (.s5 (.succ (.succ (.succ .zero)))) (v:=?_) ?_ ?_
 rotate_left
 ·(intro w h;(try dsimp only at h);go_simp) <;> with_reducible rfl
 simp only [tkp]
 refine tk 9 (.s5 (.succ (.succ (.succ (.succ .zero))))) (v:=?_) ?_ ?_
 rotate_left
 ·(intro w h;(try dsimp only at h);go_simp) <;> with_reducible rfl
 simp only [tkp]
 refine tk 10 (.s5 (.s5 .zero)) (v:=?_) ?_ ?_
 rotate_left
 ·(intro w h;(try dsimp only at h);go_simp) <;> with_reducible rfl
 simp only [tkp]
 refine tk 11 (.s5 (.s5 (.succ .zero))) (v:=?_) ?_ ?_
 rotate_left
 ·(intro w h;(try dsimp only at h);go_simp) <;> with_reducible rfl
 simp only [tkp]
 refine tk 12 (.s5 (.s5 (.succ (.succ .zero)))) (v:=?_) ?_ ?_
 rotate_left
 ·(intro w h;(try dsimp only at h);go_simp) <;> with_reducible rfl
 simp only [tkp]
 refine tk 13 (.s5 (.s5 (.succ (.succ (.succ .zero))))) (v:=?_) ?_ ?_
 rotate_left
 ·(intro w h;(try dsimp only at h);go_simp) <;> with_reducible rfl
 simp only [tkp]
 refine late_take 14 (.s5 (.s5 (.succ (.succ (.succ (.succ .zero)))))) (v:=?_) (by kernel_rfl) (by kernel_rfl) (by kernel_rfl) (by kernel_rfl) (fun _ _ _ h=>h) (by rfl) ?_ (by assumption) ?_
 rotate_left
 ·(intro w h;(try dsimp only at h);go_simp) <;> with_reducible rfl
 simp only [tkp]
 refine tk 15 (.s5 (.s5 (.s5 .zero))) (v:=?_) ?_ ?_
 rotate_left
 ·(intro w h;(try dsimp only at h);go_simp) <;> with_reducible rfl
 simp only [tkp]
 refine tk 16 (.s5 (.s5 (.s5 (.succ .zero)))) (v:=?_) ?_ ?_
 rotate_left
 ·(intro w h;(try dsimp only at h);go_simp) <;> with_reducible rfl
 simp only [tkp]
 refine tk 17 (.s5 (.s5 (.s5 (.succ (.succ .zero))))) (v:=?_) ?_ ?_
 rotate_left
 ·(intro w h;(try dsimp only at h);go_simp) <;> with_reducible rfl
 simp only [tkp]
 refine late_take 18 (.s5 (.s5 (.s5 (.succ (.succ (.succ .zero)))))) (v:=?_) (by kernel_rfl) (by kernel_rfl) (by kernel_rfl) (by kernel_rfl) (fun _ _ _ h=>h) (by rfl) ?_ (by assumption) ?_
 rotate_left
 ·(intro w h;(try dsimp only at h);go_simp) <;> with_reducible rfl
 simp only [tkp]
 refine late_take 19 (.s5 (.s5 (.s5 (.succ (.succ (.succ (.succ .zero))))))) (v:=?_) (by kernel_rfl) (by kernel_rfl) (by kernel_rfl) (by kernel_rfl) (fun _ _ _ h=>h) (by rfl) ?_ (by assumption) ?_
 rotate_left
 ·(intro w h;(try dsimp only at h);go_simp) <;> with_reducible rfl
 simp only [tkp]
 refine tk 20 (.s5 (.s5 (.s5 (.s5 .zero)))) (v:=?_) ?_ ?_
 rotate_left
 ·(intro w h;(try dsimp only at h);go_simp) <;> with_reducible rfl
 simp only [tkp]
 refine tk 21 (.s5 (.s5 (.s5 (.s5 (.succ .zero))))) (v:=?_) ?_ ?_
 rotate_left
 ·(intro w h;(try dsimp only at h);go_simp) <;> with_reducible rfl
 simp only [tkp]
 refine late_take 23 (.s5 (.s5 (.s5 (.s5 (.succ (.succ (.succ .zero))))))) (v:=?_) (by kernel_rfl) (by kernel_rfl) (by kernel_rfl) (by kernel_rfl) (fun _ _ _ h=>h) (by rfl) ?_ (by assumption) ?_
 rotate_left
 ·(intro w h;(try dsimp only at h);go_simp) <;> with_reducible rfl
 simp only [tkp]
 refine late_take 24 (.s5 (.s5 (.s5 (.s5 (.succ (.succ (.succ (.succ .zero)))))))) (v:=?_) (by kernel_rfl) (by kernel_rfl) (by kernel_rfl) (by kernel_rfl) (fun _ _ _ h=>h) (by rfl) ?_ (by assumption) ?_
 rotate_left
 ·(intro w h;(try dsimp only at h);go_simp) <;> with_reducible rfl
 simp only [tkp]
 refine tk 25 (.s5 (.s5 (.s5 (.s5 (.s5 .zero))))) (v:=?_) ?_ ?_
 rotate_left
 ·(intro w h;(try dsimp only at h);go_simp) <;> with_reducible rfl
 simp only [tkp]
 refine late_take 26 (.s5 (.s5 (.s5 (.s5 (.s5 (.succ .zero)))))) (v:=?_) (by kernel_rfl) (by kernel_rfl) (by kernel_rfl) (by kernel_rfl) (fun _ _ _ h=>h) (by rfl) ?_ (by assumption) ?_
 rotate_left
 ·(intro w h;(try dsimp only at h);go_simp) <;> with_reducible rfl
 simp only [tkp]
 refine late_take 27 (.s5 (.s5 (.s5 (.s5 (.s5 (.succ (.succ .zero))))))) (v:=?_) (by kernel_rfl) (by kernel_rfl) (by kernel_rfl) (by kernel_rfl) (fun _ _ _ h=>h) (by rfl) ?_ (by assumption) ?_
 rotate_left
 ·(intro w h;(try dsimp only at h);go_simp) <;> with_reducible rfl
 simp only [tkp]
 refine late_take 28 (.s5 (.s5 (.s5 (.s5 (.s5 (.succ (.succ (.succ .zero)))))))) (v:=?_) (by kernel_rfl) (by kernel_rfl) (by kernel_rfl) (by kernel_rfl) (fun _ _ _ h=>h) (by rfl) ?_ (by assumption) ?_
 rotate_left
 ·(intro w h;(try dsimp only at h);go_simp) <;> with_reducible rfl
 simp only [tkp]
 refine late_take 29 (.s5 (.s5 (.s5 (.s5 (.s5 (.succ (.succ (.succ (.succ .zero))))))))) (v:=?_) (by kernel_rfl) (by kernel_rfl) (by kernel_rfl) (by kernel_rfl) (fun _ _ _ h=>h) (by rfl) ?_ (by assumption) ?_
 rotate_left
 ·(intro w h;(try dsimp only at h);go_simp) <;> with_reducible rfl
 simp only [tkp]
 refine late_take 30 (.s5 (.s5 (.s5 (.s5 (.s5 (.s5 .zero)))))) (v:=?_) (by kernel_rfl) (by kernel_rfl) (by kernel_rfl) (by kernel_rfl) (fun _ _ _ h=>h) (by rfl) ?_ (by assumption) ?_
 rotate_left
 ·(intro w h;(try dsimp only at h);go_simp) <;> with_reducible rfl
 simp only [tkp]
 refine late_one 22 (.s5 (.s5 (.s5 (.s5 (.succ (.succ .zero)))))) (by kernel_rfl) (fun K hK=>?_)
 refine step_size (by rfl) 25 _ v1 s1 (by rfl) (by rfl) (fun _ _=>by kernel_rfl) (fun _ _=>by kernel_rfl) HS1.out ?_
 refine hK.out _ _ ?_ (fun hG=>?_)
 ·(intro _;exact hHeld)
 clear hK K
 replace hHeld:=hG (by decide)
 clear hG
 try simp only [tkp]
 refine late_one 31 (.s5 (.s5 (.s5 (.s5 (.s5 (.s5 (.succ .zero))))))) (by kernel_rfl) (fun K hK=>?_)
 refine step_size (by rfl) 34 _ v2 s2 (by rfl) (by rfl) (fun _ _=>by kernel_rfl) (fun _ _=>by kernel_rfl) HS2.out ?_
 refine hK.out _ _ ?_ (fun hG=>?_)
 ·(intro _;exact hHeld)
 clear hK K
 replace hHeld:=hG (by decide)
 clear hG
 try simp only [tkp]
 refine late_take 32 (.s5 (.s5 (.s5 (.s5 (.s5 (.s5 (.succ (.succ .zero)))))))) (v:=?_) (by kernel_rfl) (by kernel_rfl) (by kernel_rfl) (by kernel_rfl) (fun _ _ _ h=>h) (by rfl) ?_ (by assumption) ?_
 rotate_left
 ·(intro w h;(try dsimp only at h);go_simp) <;> with_reducible rfl
 simp only [tkp]
 refine late_one 33 (.s5 (.s5 (.s5 (.s5 (.s5 (.s5 (.succ (.succ (.succ .zero))))))))) (by kernel_rfl) (fun K hK=>?_)
 refine step_t3 (by rfl) 137 10 18 36 _ (by rfl) v1 v2 (.int .i64 (IntKind.i64.wrap ((s1:Int)+(s2:Int)))) (by rfl) (by rfl) (by rfl) (fun _ _=>by rfl) ?_
 (with_reducible refine HDl.out.mono ?_)
 rintro e w2 ⟨rfl,hf2,hta⟩
 refine ⟨_,rfl,?_⟩
 refine hK.out _ _ ?_ (fun hG=>?_)
 ·(intro hne;exact absurd rfl hne)
 clear hK K hG
 refine wpLate_done (by kernel_rfl) ?_ _
 have HB3:Hid (NR S w d b g n kc x m us cs/\Fr2 w w2 c1 c2):=⟨HD.out.1,hf2⟩
 obtain ⟨cur,hcu,hcs⟩:=HB3.out.1.own
 have hgl:=(Array.getElem?_eq_some_iff.1 hcu).1
 have hgc1:g≠c1:=fun e=>HB3.out.1.ng.1 (e ▸ List.mem_of_getElem? HC.out.2.1)
 have hgc2:g≠c2:=fun e=>HB3.out.1.ng.1 (e ▸ List.mem_of_getElem? HC.out.2.2.2)
 have hbc1:b≠c1:=fun e=>HB3.out.1.nb.1 (e ▸ List.mem_of_getElem? HC.out.2.1)
 have hbc2:b≠c2:=fun e=>HB3.out.1.nb.1 (e ▸ List.mem_of_getElem? HC.out.2.2.2)
 have hcu2:w2.heap[g]?=some (.cells cur 68 (0,0)):=(hf2.2.2.2.2 g hgl hgc1 hgc2).trans hcu
 have hbx2:Bx w2 b 179 #[.int .i64 x,.slice (some ⟨g,0,none⟩) n kc]:=HB3.out.1.box.of_block (hf2.2.2.2.2 b HB3.out.1.box.lt hbc1 hbc2)
 have hcap:=HB3.out.1.cap
 have HDel:Hid (Calls Tryz.prog 201 #[.slice (some ⟨g,0,none⟩) n kc,.int .i64 ((p:Int)+1),.int .i64 ((p:Int)+2)] w2 fun e w'=>e=.returned (.slice (some ⟨g,0,none⟩) (n-1) kc)/\(∀k v,(us.take (p+1)++us.drop (p+2))[k]?=some v->w'.cell? ⟨g,0+k,none⟩=some v)/\w2.grownBy w' (some g)):=by
  have q:=delN_any g 0 n kc (p+1) (p+1+1) cur us w2 hcu2 (by omega) (fun k v hk=>by
   rw [Nat.zero_add,World.cell?_of_block (a:=⟨g,k,none⟩) (hf2.2.2.2.2 g hgl hgc1 hgc2)]
   exact HB3.out.1.row k v hk) HB3.out.1.ul HB3.out.1.one (by omega) (by omega) hcap.1 hcap.2
  rw [show n-(p+1+1-(p+1))=n-1 by omega,show ((p+1:Nat):Int)=(p:Int)+1 by omega,show ((p+1+1:Nat):Int)=(p:Int)+2 by omega] at q
  exact q
 have HTA:Hid (TAo (fun y=>S y\/y=c1\/w.heap.size<=y) w2 (d+1) (joinD t u) v1):=hta
 have HBX2:Hid (Bx w2 b 179 #[.int .i64 x,.slice (some ⟨g,0,none⟩) n kc]):=hbx2
 have d1:=hbx2.cell 1
 simp at d1
 have dl:=hbx2.lt
 have df:=hbx2.frozen 1
 clear hHeld hta hcu hcu2 hcs hbx2 HDl HS1 HS2 c1b q4 r4
 go_wp2_with fail
 (with_reducible refine HDel.out.mono ?_)
 rintro e w3 ⟨rfl,hc3,hg3⟩
 have hgb:=HB3.out.1.gb
 have hbx3:Bx w3 b 179 #[.int .i64 x,.slice (some ⟨g,0,none⟩) n kc]:=HBX2.out.grown hg3 (fun e=>by injection e with e;exact hgb e)
 have d1':=hbx3.cell 1
 simp at d1'
 have dl':=hbx3.lt
 have df':=hbx3.frozen 1
 have HF:Hid (RetF S w d b g kc x (m.take p++joinD t u::m.drop (p+2)) cs (.returned (.tuple #[])) (w3.setCell ⟨b,1,none⟩ (.slice (some ⟨g,0,none⟩) (n-1) kc))):=by
  have hR:=HB3.out.1
  have hf:=HB3.out.2
  have hm1:=hR.ml
  have hu1:=hR.ul
  have hMl:(m.take p++joinD t u::m.drop (p+2)).length=n-1:=by simp;omega
  have mc1:=List.mem_of_getElem? HC.out.2.1
  have mc2:=List.mem_of_getElem? HC.out.2.2.2
  have hblk:∀y,y<w2.heap.size->y≠g->y≠b->(w3.setCell ⟨b,1,none⟩ (.slice (some ⟨g,0,none⟩) (n-1) kc)).heap[y]?=w2.heap[y]?:=fun y hy h1 h2=>by
   rw [Below.heap_setCell _ _ _ _ h2]
   exact hg3.block y hy (fun e=>h1 (by cases e;rfl))
  have hz:w2.heap.size<=(w3.setCell ⟨b,1,none⟩ (.slice (some ⟨g,0,none⟩) (n-1) kc)).heap.size:=by have:=hg3.size;simp [World.setCell];omega
  have hfr:Frs (b::g::cs) w (w3.setCell ⟨b,1,none⟩ (.slice (some ⟨g,0,none⟩) (n-1) kc)):=by
   have f1:Frs (b::g::cs) w w2:=frs_two hf (by simp [mc1]) (by simp [mc2])
   refine f1.trans ⟨hg3.os,hg3.tape,hg3.output,hz,fun y hy hn=>hblk y hy (fun e=>hn (by simp [e])) (fun e=>hn (by simp [e]))⟩
  refine ⟨rfl,hfr,us.take (p+1)++us.drop (p+2),?_,by have:=hR.cap;omega,fun j u hj=>?_,?_⟩
  ·rw [hMl]
   have q:=hbx3.set 1 (.slice (some ⟨g,0,none⟩) (n-1) kc)
   simpa using q
  ·have q:=hc3 j u hj
   rw [Nat.zero_add] at q
   rw [World.cell?_of_block (a:=⟨g,j,none⟩) (Below.heap_setCell _ _ _ _ hgb)]
   exact q
  ·have ak:=hR.del hpn HC.out.2.1 HC.out.2.2.2 hf HC.out.1 (wide_s mc1 HTA.out)
   have hw2:=hf.2.2.2.1
   have hlg:=hgl
   have hlb:=hR.box.lt
   refine ak.keep hz (fun y hy hl=>⟨hy,hblk y hl (fun e=>?_) (fun e=>?_)⟩)
   ·subst e
    rcases hy with q|q|q
    ·exact hR.ng.2 q
    ·exact hR.ng.1 q
    ·omega
   ·subst e
    rcases hy with q|q|q
    ·exact hR.nb.2 q
    ·exact hR.nb.1 q
    ·omega
 clear hc3 hg3 hbx3
 go_wp2
 go_end0
 exact HF.out


def OwnIc (w:World) (B g n j k:Nat) (M:Nat->Nat) (T:Nat->Nat->Tn) (R:Nat->Nat):Prop:=
 g<B/\B<=R 0/\R k<=w.heap.size/\(∀i i',i<=i'->i'<=k->R i<=R i')/\∃cur:Array Value,Bx w g 59 cur/\cur.size=n/\∀i,j<=i->i<k->∃gi KA DA KC DC,cur[i]?=some (.slice (some ⟨gi,0,none⟩) (M i) (M i))/\OwnTn w (R i) gi (M i) (T i) KA DA KC DC/\TnB (R (i+1)) gi (M i) (T i) KA DA (R i)/\∀x,x<M i->KC x=(T i x).kn
theorem OwnIc.rd {w:World} {B g n:Nat} {M:Nat->Nat} {T:Nat->Nat->Tn} {R:Nat->Nat} (h:OwnIc w B g n 0 n M T R):RdIx w (some ⟨g,0,none⟩) n M T:=by
 obtain ⟨_,_,_,_,cur,h1,h2,h3⟩:=h
 refine .inr ⟨g,0,rfl,fun i hi=>?_⟩
 obtain ⟨gi,KA,DA,KC,DC,q1,q2,_⟩:=h3 i (Nat.zero_le _) hi
 exact ⟨some ⟨gi,0,none⟩,M i,by rw [Nat.zero_add,h1.cell i];exact q1,q2.rd⟩
theorem OwnIc.put {w w1:World} {B g n k:Nat} {M:Nat->Nat} {T:Nat->Nat->Tn} {R:Nat->Nat} (h:OwnIc w B g n 0 k M T R) (hk:k<n) (hb:Below w.heap.size w w1) {gk:Nat} {KA DA:Nat->Option Addr} {KC DC:Nat->Nat} (ho:OwnTn w1 w.heap.size gk (M k) (T k) KA DA KC DC) (hkc:∀x,x<M k->KC x=(T k x).kn):∃R',OwnIc (w1.setCell ⟨g,k,none⟩ (.slice (some ⟨gk,0,none⟩) (M k) (M k))) B g n 0 (k+1) M T R':=by
 obtain ⟨hg,hB,hR,hm,cur,h1,h2,h3⟩:=h
 have h1' : Bx w1 g 59 cur:=h1.below hb
 have hs:=h1'.set k (.slice (some ⟨gk,0,none⟩) (M k) (M k))
 have hz:=hb.size
 have hR0:=hm 0 k (Nat.zero_le _) (Nat.le_refl _)
 have hbd:∀i',i'<=k->R i'<=w1.heap.size:=fun i' hi=>by
  have:=hm i' k hi (Nat.le_refl _)
  omega
 obtain ⟨R',hR'⟩:∃R' : Nat->Nat,∀i,R' i=if i<=k then R i else w1.heap.size:=⟨_,fun _=>rfl⟩
 refine ⟨R',hg,by rw [hR',if_pos (Nat.zero_le _)];exact hB,by rw [hR',if_neg (by omega),World.size_setCell];exact Nat.le_refl _,fun i i' hi hi'=>?_,_,hs,by simpa using h2,fun i _ hi=>?_⟩
 ·rw [hR',hR']
  by_cases e:i'<=k
  ·rw [if_pos (by omega),if_pos e]
   exact hm i i' hi e
  ·rw [if_neg e]
   by_cases e2:i<=k
   ·rw [if_pos e2];exact hbd i e2
   ·rw [if_neg e2];exact Nat.le_refl _
 ·by_cases e:i=k
  ·subst e
   have q:=(ho.setO (p:=⟨g,i,none⟩) (by show g<w.heap.size;omega) (.slice (some ⟨gk,0,none⟩) (M i) (M i))).low hR
   have qb:=q.bound
   rw [World.size_setCell] at qb
   refine ⟨gk,KA,DA,KC,DC,by simp [h2,hk],?_,?_,hkc⟩
   ·rw [hR',if_pos (Nat.le_refl _)];exact q
   ·rw [hR',hR',if_neg (by omega),if_pos (Nat.le_refl _)];exact qb
  ·obtain ⟨gi,KA',DA',KC',DC',q1,q2,q3,q4⟩:=h3 i (Nat.zero_le _) (by omega)
   have h0i:=hm 0 i (Nat.zero_le _) (by omega)
   refine ⟨gi,KA',DA',KC',DC',?_,?_,?_,q4⟩
   ·rw [Array.getElem?_setIfInBounds_ne (by omega)]
    exact q1
   ·rw [hR',if_pos (by omega)]
    exact (q2.und hb).setO (p:=⟨g,k,none⟩) (by show g<R i;omega) _
   ·rw [hR',hR',if_pos (by omega),if_pos (by omega)]
    exact q3
theorem OwnIc.setO {w:World} {B g n:Nat} {M:Nat->Nat} {T:Nat->Nat->Tn} {R:Nat->Nat} (h:OwnIc w B g n 0 n M T R) {p:Addr} (hp:p.block<g) (v:Value):OwnIc (w.setCell p v) B g n 0 n M T R:=by
 obtain ⟨hg,hB,hR,hm,cur,h1,h2,h3⟩:=h
 refine ⟨hg,hB,by rw [World.size_setCell];exact hR,hm,cur,(Below.heap_setCell _ _ _ _ (show g≠p.block by omega)).trans h1,h2,fun i h0 hi=>?_⟩
 obtain ⟨gi,KA',DA',KC',DC',q1,q2,q3,q4⟩:=h3 i h0 hi
 have h0i:=hm 0 i (Nat.zero_le _) (by omega)
 exact ⟨gi,KA',DA',KC',DC',q1,q2.setO (by omega) _,q3,q4⟩
theorem OwnIc.below {w w' : World} {B g n:Nat} {M:Nat->Nat} {T:Nat->Nat->Tn} {R:Nat->Nat} (h:OwnIc w B g n 0 n M T R) (hb:Below w.heap.size w w'):OwnIc w' B g n 0 n M T R:=by
 obtain ⟨hg,hB,hR,hm,cur,h1,h2,h3⟩:=h
 refine ⟨hg,hB,Nat.le_trans hR hb.size,hm,cur,h1.below hb,h2,fun i h0 hi=>?_⟩
 obtain ⟨gi,KA',DA',KC',DC',q1,q2,q3,q4⟩:=h3 i h0 hi
 exact ⟨gi,KA',DA',KC',DC',q1,q2.und hb,q3,q4⟩
set_option maxHeartbeats 2000000 in
theorem toTreeK_any (a:Option Addr) (m c:Nat) (M:Nat->Nat) (T:Nat->Nat->Tn) (w:World) (h:RdIx w a m M T) (hm:m<=1048576) (hN:IxFit m M T) :
  Calls Tryz.prog 35 #[.slice a m c] w fun e w'=>e=.returned (.slice (some ⟨w.heap.size,0,none⟩) m m)/\(∃R,OwnIc w' (w.heap.size+1) w.heap.size m 0 m M T R)/\Below w.heap.size w w':=by
 have hmk:∀w:World,(Instr.makeSlice 30 (.int .i64 (m:Int)) (.int .i64 (m:Int))).run Tryz.prog w=.ok (.slice (some ⟨w.heap.size,0,none⟩) m m) (w.alloc (.cells (madeCells #[.slice none 0 0] m) 59)):=by
  intro w
  obtain ⟨i0,hi,hz0,hz1,hz2⟩:=info_parts Tryz.info59
  have:=run_make (P:=Tryz.prog) w 30 59 i0 _ Tryz.underlying30 hi hz0 .i64 .i64 m m (by omega) (by omega) (by rw [hz2];omega) (by omega)
  rw [hz1,show (Value.agg #[.slice none 0 0]).cells=#[.slice none 0 0] from rfl,Nat.mul_one] at this
  simpa using this
 have H0:Hid (∃R,OwnIc (w.alloc (.cells (madeCells #[.slice none 0 0] m) 59)) (w.heap.size+1) w.heap.size m 0 0 M T R):=⟨fun _=>w.heap.size+1,by omega,Nat.le_refl _,by simp,fun _ _ _ _=>Nat.le_refl _,_,Bx.new w _ 59,by simp [madeCells],fun i _ hi=>absurd hi (Nat.not_lt_zero _)⟩
 have HR:Hid (RdIx w a m M T/\IxFit m M T):=⟨h,hN⟩
 clear h hN
 go_enter Tryz.func35,Tryz.ntmps35
 go_wp2
 go_loopw [4] (fun i wr=>∃(k:Nat),k<=m/\i=.int .i64 k/\(∃R,OwnIc wr (w.heap.size+1) w.heap.size m 0 k M T R)/\Below w.heap.size w wr) (fun i _=>m-(intOf i).toNat)
 case atStart=>exact ⟨0,Nat.zero_le _,rfl,H0.out,below_alloc _ _⟩
 case round=>
  obtain ⟨k,hk,rfl,hown,hbel⟩:=hrel
  clear H0
  by_cases hlt:k<m
  ·have hne:¬ m=0:=by omega
   have h':=HR.out.1.below hbel
   have HB:Hid (Below w.heap.size w wr):=hbel
   have HO:Hid (∃R,OwnIc wr (w.heap.size+1) w.heap.size m 0 k M T R):=hown
   have hsz:=hbel.size
   rcases h' with h' | ⟨b,o,rfl,hc⟩
   ·exact absurd h' hne
   obtain ⟨ai,ci,c0,c4⟩:=hc k hlt
   have HL:=HR.out.2 k hlt
   have HK:Hid (RdTn wr ai (M k) (T k)):=c4
   clear hc hbel hown hmk c4
   go_wp2_with fail
   refine (toTreeC_any ai (M k) ci (T k) _ HK.out HL.1 HL.2).mono ?_
   rintro e w1 ⟨gk,KA,DA,KC,DC,rfl,hgk,ho1,hb1,hkc⟩
   obtain ⟨R,_,_,_,_,cur,q1,q2,_⟩:=HO.out
   have q3:Bx w1 w.heap.size 59 cur:=q1.below hb1
   obtain ⟨u0,hu0⟩:∃u0,cur[k]?=some u0:=⟨_,Array.getElem?_eq_getElem (by omega)⟩
   have hc1:w1.cell? ⟨w.heap.size,k,none⟩=some u0:=by rw [q3.cell k];exact hu0
   have hf1:=q3.frozen k
   have hl1:=q3.lt
   have HX:Hid ((∃R,OwnIc (w1.setCell ⟨w.heap.size,k,none⟩ (.slice (some ⟨gk,0,none⟩) (M k) (M k))) (w.heap.size+1) w.heap.size m 0 (k+1) M T R)/\Below w.heap.size w (w1.setCell ⟨w.heap.size,k,none⟩ (.slice (some ⟨gk,0,none⟩) (M k) (M k)))):=by
    obtain ⟨R,hO⟩:=HO.out
    exact ⟨hO.put hlt hb1 ho1 hkc,(HB.out.trans (hb1.mono hsz)).setCell (Nat.le_refl _) _⟩
   clear ho1 hb1 HO HB c0 q1 q2 q3 hu0
   go_wp2
   go_roundw
   case rel=>exact ⟨k+1,by omega,by go_num,HX.out⟩
   case measure=>simp [intOf];omega
  ·have e:k=m:=by omega
   subst e
   have HO:Hid (∃R,OwnIc wr (w.heap.size+1) w.heap.size k 0 k M T R):=hown
   clear hown
   go_wp2
   go_ret
   exact ⟨rfl,HO.out,hbel⟩

set_option maxHeartbeats 400000 in
theorem toIndexK_any (a:Option Addr) (m c:Nat) (M:Nat->Nat) (T:Nat->Nat->Tn) (w:World) (h:RdIx w a m M T) (hm:m<=1048576) (hN:IxFit m M T) :
  Calls Tryz.prog 9 #[.agg #[.slice a m c]] w fun e w'=>∃g R,e=.returned (.agg #[.slice (some ⟨g,0,none⟩) m m])/\w.heap.size<=g/\OwnIc w' (g+1) g m 0 m M T R/\Below w.heap.size w w':=by
 have HH:Hid ((∀o1 o2 o3,Below w.heap.size w (((w.alloc o1).alloc o2).alloc o3))/\(∀o1 o2 o3,(((w.alloc o1).alloc o2).alloc o3).heap.size=w.heap.size+3)/\RdIx w a m M T/\IxFit m M T):=⟨fun o1 o2 o3=>(((below_alloc _ _).alloc (by simp) _).alloc (by simp;omega) _),fun o1 o2 o3=>by simp,h,hN⟩
 clear h hN
 go_enter Tryz.func9,Tryz.ntmps9
 go_wp2_with fail
 refine (toTreeK_any a m c M T _ (HH.out.2.2.1.below (HH.out.1 _ _ _)) hm HH.out.2.2.2).mono ?_
 rintro e w1 ⟨rfl,⟨R,ho1⟩,hb1⟩
 rw [HH.out.2.1] at ho1 hb1 ⊢
 have hz:w.heap.size+2<w1.heap.size:=by have:=hb1.size;rw [HH.out.2.1] at this;omega
 have hc:∀b o,b<w.heap.size+3->w1.cell? ⟨b,o,none⟩=_:=fun b o hb=>hb1.cell (p:=⟨b,o,none⟩) hb
 have hfz:∀b o,b<w.heap.size+3->w1.frozen? ⟨b,o,none⟩=_:=fun b o hb=>hb1.frozen (p:=⟨b,o,none⟩) hb
 have HE:Hid (OwnIc w1 (w.heap.size+3+1) (w.heap.size+3) m 0 m M T R/\Below w.heap.size w w1):=⟨ho1,(HH.out.1 _ _ _).trans (hb1.mono (by omega))⟩
 clear ho1 hb1
 go_wp2
 refine bodyPost_ret (v:=.agg #[.slice (some ⟨w.heap.size+3,0,none⟩) m m]) (by simp [results,Tryz.results9,go_sem,hc]) rfl ⟨_,R,rfl,by omega,?_,?_⟩
 ·exact (HE.out.1.setO (p:=⟨w.heap.size+2,0,none⟩) (by simp) _).setO (p:=⟨w.heap.size+1,0,none⟩) (by simp) _
 ·exact (HE.out.2.setCell (by simp;try omega) _).setCell (by simp;try omega) _

theorem OwnIc.ir {w:World} {B g n j k:Nat} {M:Nat->Nat} {T:Nat->Nat->Tn} {R:Nat->Nat} (h:OwnIc w B g n j k M T R):OwnIr w B g n j k M T R:=by
 obtain ⟨hg,hB,hR,hm,cur,h1,h2,h3⟩:=h
 refine ⟨hg,hB,hR,hm,cur,h1,h2,fun i h0 hi=>?_⟩
 obtain ⟨gi,KA,DA,KC,DC,q1,q2,q3,q4⟩:=h3 i h0 hi
 exact ⟨gi,KA,DA,KC,DC,q1,q2,q3⟩
theorem OwnIc.rdC {w:World} {B g n:Nat} {M:Nat->Nat} {T:Nat->Nat->Tn} {R:Nat->Nat} (h:OwnIc w B g n 0 n M T R) (hF:IxFit n M T):RdIxC w (some ⟨g,0,none⟩) n M T:=by
 obtain ⟨hg,hB,hR,hm,cur,h1,h2,h3⟩:=h
 refine .inr ⟨g,0,rfl,fun i hi=>?_⟩
 obtain ⟨gi,KA,DA,KC,DC,q1,q2,q3,q4⟩:=h3 i (Nat.zero_le _) hi
 refine ⟨some ⟨gi,0,none⟩,M i,by rw [Nat.zero_add,h1.cell i];exact q1,q2.rdC capC (fun x hx=>?_)⟩
 rw [q4 x hx]
 have:=((hF i hi).2 x hx).1
 exact ⟨Nat.le_refl _,by omega⟩
theorem RdIxC.below {w w' : World} {a:Option Addr} {n:Nat} {M:Nat->Nat} {T:Nat->Nat->Tn} (h:RdIxC w a n M T) (hb:Below w.heap.size w w'):RdIxC w' a n M T:=by
 rcases h with h|⟨b,o,rfl,hc⟩
 ·exact Or.inl h
 ·refine Or.inr ⟨b,o,rfl,fun i hi=>?_⟩
  obtain ⟨ai,ci,h0,h1⟩:=hc i hi
  exact ⟨ai,ci,by rw [hb.cell (World.block_lt_of_cell? _ _ h0)];exact h0,h1.below hb⟩
theorem RdIx.same {w:World} {a:Option Addr} {n:Nat} {M M' : Nat->Nat} {T T' : Nat->Nat->Tn} (h:RdIx w a n M T) (he:∀i,i<n->M i=M' i/\∀x,x<M i->SameN (T i x) (T' i x)):RdIx w a n M' T':=by
 rcases h with h|⟨b,o,rfl,hc⟩
 ·exact Or.inl h
 ·refine Or.inr ⟨b,o,rfl,fun i hi=>?_⟩
  obtain ⟨ai,ci,h0,h1⟩:=hc i hi
  obtain ⟨e1,e2⟩:=he i hi
  exact ⟨ai,ci,by rw [<- e1];exact h0,by rw [<- e1];exact h1.same e2⟩

set_option maxHeartbeats 1000000 in
theorem eqIndexRes_yes (ok:Bool) (a b:Option Addr) (m ca cb:Nat) (M:Nat->Nat) (T:Nat->Nat->Tn) (w:World) (ha:RdIx w a m M T) (hb:RdIx w b m M T) (hm:m<=1048576) (hN:IxFit m M T) :
  Calls Tryz.prog 19 #[.agg #[.bool ok,.slice a m ca],.agg #[.bool ok,.slice b m cb]] w fun e w'=>e=.returned (.bool true)/\Below w.heap.size w w':=by
 have HR:Hid (∀W,Below w.heap.size w W->Calls Tryz.prog 13 #[.agg #[.slice a m ca],.agg #[.slice b m cb]] W fun e w'=>e=.returned (.bool true)/\Below W.heap.size W w'):=fun W hW=>eqIndex_yes a b m ca cb M T W (ha.below hW) (hb.below hW) hm hN
 have HB:Hid (∀o1 o2,Below w.heap.size w ((w.alloc o1).alloc o2)):=fun o1 o2=>(below_alloc _ _).alloc (by simp) _
 have hbb:(ok != ok)=false:=by cases ok <;> rfl
 clear ha hb hN
 go_enter Tryz.func19,Tryz.ntmps19
 go_wp2_with fail
 (with_reducible refine (HR.out _ (HB.out _ _)).mono ?_)
 rintro e w1 ⟨rfl,hb1⟩
 have H1:Hid (Below w.heap.size w w1):=(HB.out _ _).trans (hb1.mono (by simp;omega))
 clear hb1
 go_wp2
 go_ret
 exact ⟨rfl,H1.out⟩
end Go.Proofs.YtcnollkkigiobaaGreat
