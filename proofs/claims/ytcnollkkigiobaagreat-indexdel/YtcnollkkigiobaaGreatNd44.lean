import Derived.Test.YtcnollkkigiobaaGreatNd42
import Derived.Test.YtcnollkkigiobaaGreatNd43
set_option linter.unusedVariables false
set_option maxRecDepth 100000
namespace Go.Proofs.YtcnollkkigiobaaGreat
open Go.RowKit Go.Deep

def RetTe (w:World) (Df:Nat->Nat) (yf:(q:Nat)->Ro (Df q)) (e:Ending) (w' : World):Prop:=
 Below w.heap.size w w'/\∃a c T' us lo hi,e=.returned (.agg #[.slice a 6 c])/\RowI TreeAt w' (w.heap.size+2) (.slice a 6 c) 6 (fun q=>nodesR (Df q) (yf q)) T' us lo hi/\∀q,q<6->Tells (T' q) 0 (Df q) (yf q) 0

set_option maxHeartbeats 4000000 in
theorem tell_any (xb:Nat) (A:Array Value) (Df:Nat->Nat) (yf:(q:Nat)->Ro (Df q)) (w:World) (hx:Bx w xb 109 A)
  (hA:∀q,q<6->∃v S hh,A[q*2]?=some (.func (.func (layF q)) #[] #[])/\A[q*2+1]?=some v/\TAo S w (Df q) (yf q) v/\(∀x,S x->x<w.heap.size)/\BalR (Df q) true (yf q) hh/\nodesR (Df q) (yf q)<=100000) :
  Calls Tryz.prog 48 #[.pointer (some ⟨xb,0,none⟩)] w (RetTe w Df yf):=by
 have HR:Hid (Bx w xb 109 A/\∀q,q<6->∃v S hh,A[q*2]?=some (.func (.func (layF q)) #[] #[])/\A[q*2+1]?=some v/\TAo S w (Df q) (yf q) v/\(∀x,S x->x<w.heap.size)/\BalR (Df q) true (yf q) hh/\nodesR (Df q) (yf q)<=100000):=⟨hx,hA⟩
 have hxl:=hx.lt
 clear hx hA
 obtain ⟨W0,hW0⟩:∃W0,W0=(w.alloc (.cells #[.slice none 0 0] 32)).alloc (.cells #[.slice none 0 0] 32):=⟨_,rfl⟩
 have B0:Hid (Bx W0 w.heap.size 32 #[.slice none 0 0]/\Bx W0 (w.heap.size+1) 32 #[.slice none 0 0]/\Below w.heap.size w W0/\W0.heap.size=w.heap.size+2):=by
  have b1:=Bx.new w #[.slice none 0 0] 32
  have b2:=Bx.new (w.alloc (.cells #[.slice none 0 0] 32)) #[.slice none 0 0] 32
  simp only [World.size_alloc] at b2
  rw [hW0]
  exact ⟨b1.alloc _,b2,(below_alloc _ _).alloc (by simp) _,by simp⟩
 go_enter Tryz.func48,Tryz.ntmps48
 go_upto_region 2 with fail
 rw [<- hW0]
 clear hW0
 go_wp2
 go_loopw [5,8] (fun _ i wr=>∃(k:Nat) (v:Value) (T' : Nat->Nat->Tn) (us:List Value) (lo hi:Nat->Nat),k<=6/\i=.int .i64 k/\RowI TreeAt wr (w.heap.size+2) v k (fun q=>nodesR (Df q) (yf q)) T' us lo hi/\Bx wr (w.heap.size+1) 32 #[v]/\Below (w.heap.size+1) W0 wr/\∀q,q<k->Tells (T' q) 0 (Df q) (yf q) 0) (fun _ i _=>6-(intOf i).toNat)
 case atStart=>exact ⟨0,_,fun _ _=>⟨false,0,fun _=>{ data:=#[] },0,fun _=>0,0⟩,[],_,_,Nat.zero_le _,rfl,RowI.nil _ _ _ _ _,B0.out.2.1,Below.refl _ _,fun q hq=>absurd hq (Nat.not_lt_zero _)⟩
 case round=>
  obtain ⟨k,v,T',us,lo,hi,hk,rfl,hrow,hbx,hbel,htl⟩:=hrel
  obtain ⟨av,cv,ev⟩:=hrow.form
  subst ev
  have hz:=hbel.size
  have hw2:=B0.out.2.2.2
  have HQ:Hid (RowI TreeAt wr (w.heap.size+2) (.slice av k cv) k (fun q=>nodesR (Df q) (yf q)) T' us lo hi/\Below (w.heap.size+1) W0 wr/\w.heap.size+2<=wr.heap.size/\Below w.heap.size w wr/\Bx wr (w.heap.size+1) 32 #[.slice av k cv]/\∀q,q<k->Tells (T' q) 0 (Df q) (yf q) 0):=⟨hrow,hbel,by omega,B0.out.2.2.1.trans (hbel.mono (by omega)),hbx,htl⟩
  have k0:(0:Int)<=(k:Int):=by omega
  by_cases hlt:k<6
  ·have k1:(k:Int)<6:=by omega
   obtain ⟨vk,S,hh,ha0,ha1,hta,hS,hbal,hnd⟩:=HR.out.2 k hlt
   have bxw:Bx wr xb 109 A:=(HQ.out.2.2.2.1.block xb hxl).trans HR.out.1
   have g0:=bxw.cell (k*2)
   have g1:=bxw.cell (k*2+1)
   rw [ha0] at g0
   rw [ha1] at g1
   obtain ⟨ty,pv,hvf⟩:∃ty pv,vk=.iface ty pv:=by
    obtain ⟨bb,_,_,_,q⟩:=hta.count
    rcases q with q|q <;> exact ⟨_,_,q⟩
   obtain ⟨W5,hW5⟩:∃W5,W5=wr.alloc (.cells #[.func (.func (layF k)) #[] #[],vk] 70):=⟨_,rfl⟩
   have hb5:Below wr.heap.size wr W5:=by rw [hW5];exact below_alloc _ _
   have hz5:W5.heap.size=wr.heap.size+1:=by rw [hW5];simp
   have bx5:Bx W5 wr.heap.size 70 #[.func (.func (layF k)) #[] #[],vk]:=by rw [hW5];exact Bx.new _ _ _
   have x0:W5.cell? ⟨w.heap.size+1,0,none⟩=some (.slice av k cv):=by
    have:=(hbx.below hb5).cell 0
    simpa using this
   have x1:W5.cell? ⟨wr.heap.size,1,none⟩=some vk:=by
    have:=bx5.cell 1
    simpa using this
   have HC:Hid (Calls Tryz.prog 86 #[vk] W5.drew (RetTt W5.drew (Df k) (yf k))):=by
    have hbw:Below w.heap.size w W5.drew:=(HQ.out.2.2.2.1.trans (hb5.mono HQ.out.2.2.2.1.size)).drew
    exact tellTree_any (Df k) (yf k) vk S W5.drew true hh (TAo.keep hbw.size (fun b hb hl=>⟨hb,hbw.block b hl⟩) hta) hbal (fun x hx=>Nat.lt_of_lt_of_le (hS x hx) hbw.size) hnd
   have HU:Hid (Below wr.heap.size wr W5/\W5.heap.size=wr.heap.size+1):=⟨hb5,hz5⟩
   have HK2:Hid (∀w2:World,Below W5.drew.heap.size W5.drew w2->w2.cell? ⟨w.heap.size+1,0,none⟩=some (.slice av k cv)/\w2.cell? ⟨wr.heap.size,1,none⟩=some vk):=fun w2 h=>by
    have hb:=below_undrew h
    exact ⟨(hb.cell (World.block_lt_of_cell? _ _ x0)).trans x0,(hb.cell (World.block_lt_of_cell? _ _ x1)).trans x1⟩
   have HK3:Hid (∀w2:World,Below W5.drew.heap.size W5.drew w2->∀O:Obj,(w2.alloc O).cell? ⟨w.heap.size+1,0,none⟩=some (.slice av k cv)/\(w2.alloc O).cell? ⟨wr.heap.size,1,none⟩=some vk):=fun w2 h O=>by
    have hb:=(below_undrew h).trans ((below_alloc w2 O).mono (below_undrew h).size)
    exact ⟨(hb.cell (World.block_lt_of_cell? _ _ x0)).trans x0,(hb.cell (World.block_lt_of_cell? _ _ x1)).trans x1⟩
   have hown:∀g,(Value.slice av k cv).ownBlock=some g->w.heap.size+2<=g/\g<wr.heap.size:=fun g e=>own_lt HQ.out.1.row g e
   have HK4:Hid (∀(w2 w4:World),Below W5.drew.heap.size W5.drew w2->∀O:Obj,(w2.alloc O).grownBy w4 (Value.slice av k cv).ownBlock->w4.cell? ⟨w.heap.size+1,0,none⟩=some (.slice av k cv)/\w4.cell? ⟨wr.heap.size,1,none⟩=some vk/\w4.frozen? ⟨w.heap.size+1,0,none⟩=false/\w.heap.size+1<w4.heap.size):=fun w2 w4 h O hg=>by
    have hb:=below_undrew h
    have hbz:=hb.size
    have bxx:Bx w4 (w.heap.size+1) 32 #[.slice av k cv]:=(keep_block hb hg (fun g e=>(hown g e).1) (by omega) (by have:=HQ.out.2.2.1;omega)).trans (hbx.below hb5)
    have bx7:Bx w4 wr.heap.size 70 #[.func (.func (layF k)) #[] #[],vk]:=((hg.block wr.heap.size (by rw [World.size_alloc];omega) (fun e=>by have:=(hown _ e.symm).2;omega)).trans (((below_alloc w2 O).block wr.heap.size (by omega)).trans (hb.block wr.heap.size (by omega)))).trans bx5
    exact ⟨by have:=bxx.cell 0;simpa using this,by have:=bx7.cell 1;simpa using this,bxx.frozen 0,bxx.lt⟩
   have HT:Hid (∀w2:World,Below W5.drew.heap.size W5.drew w2->∀O:Obj,(w2.alloc O).ownsRow (w.heap.size+2) 59 1 (.slice av k cv) k us):=fun w2 h O=>own_below (own_below (own_below HQ.out.1.row hb5) (below_undrew h)) (below_alloc _ _)
   have HZ:Hid (∀w2:World,Below W5.drew.heap.size W5.drew w2->w.heap.size+2<=w2.heap.size):=fun w2 h=>by
    have:=(below_undrew h).size
    have:=HQ.out.2.2.1
    omega
   have xd0:W5.drew.cell? ⟨w.heap.size+1,0,none⟩=some (.slice av k cv):=x0
   have xd1:W5.drew.cell? ⟨wr.heap.size,1,none⟩=some vk:=x1
   subst hvf
   clear hrow hbel hbx htl hta hS hbal hnd bxw ha0 ha1 hown bx5
   go_upto_region 5 with fail
   rw [<- hW5]
   clear hW5 hb5 hz5
   refine wp_region_late (S:=(fun w'=>w'.cell? ⟨w.heap.size+1,0,none⟩=some (.slice av k cv)/\w'.cell? ⟨wr.heap.size,1,none⟩=some (.iface ty pv))) 8 (by kernel_rfl) ?_ (fun hHeld=>?_)
   ·((try dsimp only);go_keep)
   refine tk 0 .zero (v:=?_) ?_ ?_
   rotate_left
   ·(intro w h;(try dsimp only at h);go_simp) <;> with_reducible rfl
   simp only [tkp]
   refine tk 1 (.succ .zero) (v:=?_) ?_ ?_
   rotate_left
   ·(intro w h;(try dsimp only at h);go_simp) <;> with_reducible rfl
   simp only [tkp]
   refine tk 2 (.succ (.succ .zero)) (v:=?_) ?_ ?_
   rotate_left
   ·(intro w h;(try dsimp only at h);go_simp) <;> with_reducible rfl
   simp only [tkp]
   refine tk 3 (.succ (.succ (.succ .zero))) (v:=?_) ?_ ?_
   rotate_left
   ·(intro w h;(try dsimp only at h);go_simp) <;> with_reducible rfl
   simp only [tkp]
   refine tk1 4 (.succ (.succ (.succ (.succ .zero)))) (fun K hK=>?_)
   (refine step_f1 (by rfl) 86 16 _ (by rfl) _ (by rfl) (fun _ _=>rfl) ?_;refine HC.out.mono ?_;rintro e w2 ⟨hb2,a2,c2,N2,KA2,DA2,KC2,DC2,rfl,hr2,htl2⟩;refine ⟨_,rfl,?_⟩;obtain ⟨y0,y1⟩:=HK2.out w2 hb2)
   refine hK.out _ _ ?_ (fun hG=>?_)
   ·(intro _;(try dsimp only);go_keep)
   clear hK K
   replace hHeld:=hG (by decide)
   clear hG
   try simp only [tkp]
   refine tk1 5 (.s5 .zero) (fun K hK=>?_)
   (refine step_tsl (by rfl) (by rfl) (by rfl) ?_;obtain ⟨z0,z1⟩:=HK3.out w2 hb2 (.cells #[.slice a2 (nodesR (Df k) (yf k)) c2] 59))
   refine hK.out _ _ ?_ (fun hG=>?_)
   ·(intro _;(try dsimp only);go_keep)
   clear hK K
   replace hHeld:=hG (by decide)
   clear hG
   try simp only [tkp]
   refine tk1 6 (.s5 (.succ .zero)) (fun K hK=>?_)
   (refine step_tapp (by rfl) (.tmp 14) (.tmp 18) (by rfl) (w.heap.size+2) k (.slice av k cv) us (by rfl) _ (HT.out w2 hb2 _) (by rfl) rfl (by omega) (HZ.out w2 hb2) ?_;intro v4 w4 hown4 hgr4 hat4;obtain ⟨a4,c4,e4,_⟩:=own_form hown4;subst e4;obtain ⟨u0,u1,uf,ul⟩:=HK4.out w2 w4 hb2 _ hgr4)
   refine hK.out _ _ ?_ (fun hG=>?_)
   ·(intro _;(try dsimp only);go_keep)
   clear hK K
   replace hHeld:=hG (by decide)
   clear hG
   try simp only [tkp]
   refine tk1 7 (.s5 (.succ (.succ .zero))) (fun K hK=>?_)
   go_simp
   refine hK.out _ _ ?_ (fun hG=>?_)
   ·(intro _;(try dsimp only);go_keep)
   clear hK K
   replace hHeld:=hG (by decide)
   clear hG
   try simp only [tkp]
   refine tk1 8 (.s5 (.succ (.succ (.succ .zero)))) (fun K hK=>?_)
   go_simp
   refine hK.out _ _ ?_ (fun hG=>?_)
   ·(intro hne;exact absurd rfl hne)
   clear hK K hG
   refine wpLate_done (by kernel_rfl) ?_ _
   have H7:Hid ((∃T'' us'' lo'' hi'',RowI TreeAt (w4.setCell ⟨w.heap.size+1,0,none⟩ (.slice a4 (k+1) c4)) (w.heap.size+2) (.slice a4 (k+1) c4) (k+1) (fun q=>nodesR (Df q) (yf q)) T'' us'' lo'' hi''/\∀q,q<k+1->Tells (T'' q) 0 (Df q) (yf q) 0)/\Bx (w4.setCell ⟨w.heap.size+1,0,none⟩ (.slice a4 (k+1) c4)) (w.heap.size+1) 32 #[.slice a4 (k+1) c4]/\Below (w.heap.size+1) W0 (w4.setCell ⟨w.heap.size+1,0,none⟩ (.slice a4 (k+1) c4))):=by
    have hb:Below wr.heap.size wr w2:=HU.out.1.trans ((below_undrew hb2).mono HU.out.1.size)
    have hz2:=(below_undrew hb2).size
    have hz3:=HQ.out.2.2.1
    have hz5:=HU.out.2
    have hown:∀g,(Value.slice av k cv).ownBlock=some g->w.heap.size+2<=g:=fun g e=>(own_lt HQ.out.1.row g e).1
    obtain ⟨T'',hT''⟩:∃T'' : Nat->Nat->Tn,∀i,T'' i=if i=k then N2 else T' i:=⟨_,fun _=>rfl⟩
    have hcg:=HQ.out.1.congr (M':=fun q=>nodesR (Df q) (yf q)) (T':=T'') (fun i hi=>⟨rfl,by rw [hT'',if_neg (by omega)]⟩)
    obtain ⟨lo',hi',hr'⟩:=hcg.step TreeAt.pl hz3 hb (l:=W5.drew.heap.size+1) (by show _<=W5.heap.size+1;omega) (by rw [hT'',if_pos rfl];exact TreeAt.of hr2) _ hgr4 hown4 hat4
    have bxx:Bx w4 (w.heap.size+1) 32 #[.slice av k cv]:=(keep_block hb hgr4 hown (by omega) (by omega)).trans HQ.out.2.2.2.2.1
    refine ⟨⟨T'',_,lo',hi',hr'.setO TreeAt.pl (by simp) _,fun q hq=>?_⟩,?_,?_⟩
    ·rw [hT'']
     by_cases e:q=k
     ·subst e
      rw [if_pos rfl]
      exact htl2
     ·rw [if_neg e]
      exact HQ.out.2.2.2.2.2 q (by omega)
    ·have:=bxx.set 0 (.slice a4 (k+1) c4)
     simpa using this
    ·exact (((HQ.out.2.1.trans (hb.mono (by omega))).trans ((below_alloc _ _).mono (by omega))).grown hgr4 (by simp;omega) (fun g e=>by have:=hown g e;omega)).setCell (by simp) _
   clear hr2 htl2 hb2 hown4 hgr4 hat4 HT HK2 HK3 HK4 HZ HU y0 y1 z0 z1 u0 u1 uf ul xd0 xd1 x0 x1 HC g0 g1
   go_wp2
   go_roundw
   case rel=>
    obtain ⟨⟨T'',us'',lo'',hi'',hr',ht'⟩,hb',hbb'⟩:=H7.out
    exact ⟨k+1,_,T'',us'',lo'',hi'',by omega,by go_num,hr',hb',hbb',ht'⟩
   case measure=>simp [intOf];omega
  ·obtain rfl:k=6:=by omega
   have k1:¬ ((6:Nat):Int)<6:=by omega
   have b1:Bx wr w.heap.size 32 #[.slice none 0 0]:=B0.out.1.below' hbel (by omega)
   have y0:=b1.cell 0
   have y1:=hbx.cell 0
   simp at y0 y1
   have yf0:=b1.frozen 0
   have yl:=b1.lt
   clear hrow hbel b1 hbx htl
   go_wp2
   refine bodyPost_ret (v:=.agg #[.slice av 6 cv]) (by simp [results,Tryz.results48,go_sem,y0]) rfl ⟨HQ.out.2.2.2.1.setCell (by simp) _,av,cv,T',us,lo,hi,rfl,HQ.out.1.setO TreeAt.pl (by simp) _,HQ.out.2.2.2.2.2⟩

theorem ifq {t t' : TypeId} {a b:Addr} (h:Value.iface t (.pointer (some a))=Value.iface t' (.pointer (some b))):t=t'/\a=b:=by
 injection h with h1 h2
 injection h2 with h2
 injection h2 with h2
 exact ⟨h1,h2⟩
def Rng (w0 W:World) (lo hi:Nat->Nat):Prop:=(∀p,p<6->w0.heap.size+2<=lo p)/\(∀i p,i<p->p<6->hi i<=lo p)/\(∀p,p<6->hi p<=W.heap.size)/\w0.heap.size+2<=W.heap.size
theorem XO.set {lo hi:Nat} {w:World} {A:Array Value} {M:Nat->Nat} {T:Nat->Nat->Tn} {p j:Nat} {v:Value} (h:XO lo hi w A M T p) (hp:p≠j):XO lo hi w (A.setIfInBounds (j*2+1) v) M T p:=by
 obtain ⟨h0,t,t',hh,v',h1,h2,h3,h4,h5,h6,h7⟩:=h
 refine ⟨?_,t,t',hh,v',h1,h2,h3,h4,h5,h6,?_⟩
 ·rw [Array.getElem?_setIfInBounds_ne (by omega)];exact h0
 ·rw [Array.getElem?_setIfInBounds_ne (by omega)];exact h7

set_option maxHeartbeats 8000000 in
theorem fillLeft_any {S:Nat->Prop} {w:World} {d b g n kc:Nat} {x:Int} {m:List (Ro (d+1))} {us:List Value} {cs:List Nat} (hR:NR S w d b g n kc x m us cs) (hn:n<=1000) (i:Nat) (t u:Ro (d+1)) (hi0:0<i) (hin:i<n) (ht:m[i-1]?=some t) (hu:m[i]?=some u) (h:Nat) (hU:BalU (d+1) t h) (hV:BalU (d+1) u h) (HH1:2<sizD t) (HH2:1<=sizD u) (hkeys:(keysR (d+1) t).length+(keysR (d+1) u).length<=1099511627776) :
  Calls Tryz.prog 195 #[.pointer (some ⟨b,0,none⟩),.int .i64 (i:Int)] w (RetF S w d b g kc x ((m.set i (joinD (cutD (sizD t-1) (sizD t) t) u)).set (i-1) (cutD 0 (sizD t-1) t)) cs):=by
 have HCs:Hid (Calls Tryz.prog 198 #[.pointer (some ⟨b,0,none⟩),.int .i64 ((i-1:Nat):Int)] w fun e w'=>e=.returned (.bool true)/\w'=w):=by
  have q:=canSpare_in hR hn (i-1) (by omega) t ht
  rw [decide_eq_true HH1] at q
  exact q
 have hD:=hR.below (Below.refl _ w).drew
 obtain ⟨t',v1,c1,q1,q2,q3,q4,q5,q6,q7,q8⟩:=hD.at (i-1) (by omega)
 rw [ht] at q1
 injection q1 with q1
 subst q1
 obtain ⟨u',v2,c2,r1,r2,r3,r4,r5,r6,r7,r8⟩:=hD.at (i) (by omega)
 rw [hu] at r1
 injection r1 with r1
 subst r1
 have hne:=hR.ne q3 r3 (by omega)
 have hU4:=hU.le
 have hV4:=hV.le
 obtain ⟨s1,hs1⟩:∃s1,s1=sizD t:=⟨_,rfl⟩
 obtain ⟨s2,hs2⟩:∃s2,s2=sizD u:=⟨_,rfl⟩
 rw [<- hs1] at q6 hU4 HH1
 rw [<- hs2] at r6 hV4 HH2
 have HS1:Hid (SzI v1 s1 w.drew):=q6
 have HDl:Hid (Calls Tryz.prog 137 #[v1,v2,.int .i64 (IntKind.i64.wrap ((s1:Int)-1))] w.drew fun e w'=>e=.returned (.tuple #[])/\Fr2 w.drew w' c1 c2/\TAo (fun y=>S y\/y=c1\/w.drew.heap.size<=y) w' (d+1) (cutD 0 (s1-1) (joinD t u)) v1/\TAo (fun y=>S y\/y=c2\/w.drew.heap.size<=y) w' (d+1) (cutD (s1-1) (s1+s2) (joinD t u)) v2):=by
  rw [show IntKind.i64.wrap ((s1:Int)-1)=((s1-1:Nat):Int) by rw [IntKind.wrap_i64];omega]
  have q:=dealD_any d h c1 c2 (s1-1) t u v1 v2 S w.drew q5 r5 hU hV q7 r7 hne (by omega) (by omega) hkeys
  rw [<- hs1,<- hs2] at q
  exact q
 have HD:Hid (NR S w d b g n kc x m us cs/\NR S w.drew d b g n kc x m us cs/\s1=sizD t/\s2=sizD u/\BalU (d+1) t h/\BalU (d+1) u h):=⟨hR,hD,hs1,hs2,hU,hV⟩
 have HC:Hid (us[i-1]?=some v1/\cs[i-1]?=some c1/\us[i]?=some v2/\cs[i]?=some c2):=⟨q2,q3,r2,r3⟩
 have c1b:=hD.box.cell 1
 simp at c1b
 have hbl:=hD.box.lt
 clear hD q2 q3 q5 q6 r2 r3 r5 r6 ht hu hs1 hs2 hkeys
 have hwi:IntKind.i64.wrap ((i:Int)-1)=((i-1:Nat):Int):=by rw [IntKind.wrap_i64];omega
 have i0:(0:Int)<=(i:Int):=by omega
 have i1:(i:Int)<(n:Int):=by omega
 have i0m:(0:Int)<=((i-1:Nat):Int):=by omega
 have i1m:((i-1:Nat):Int)<(n:Int):=by omega
 clear hR hU hV
 go_enter Tryz.func195,Tryz.ntmps195
 go_wp2_with fail
 (with_reducible refine HCs.out.mono ?_)
 rintro e w0 ⟨rfl,hw0⟩
 subst w0
 go_upto_region 2 with fail
 refine wp_region_late (S:=fun w'=>w'.cell? ⟨b,1,none⟩=some (.slice (some ⟨g,0,none⟩) n kc)/\w'.cell? ⟨g,i-1,none⟩=some v1/\w'.cell? ⟨g,i,none⟩=some v2) 25 (by kernel_rfl) ⟨c1b,q4,r4⟩ (fun hHeld=>?_)
 refine tk 0 .zero (v:=?_) ?_ ?_
 rotate_left
 ·(intro w h;(try dsimp only at h);go_simp) <;> with_reducible rfl
 simp only [tkp]
 refine tk 1 (.succ .zero) (v:=?_) ?_ ?_
 rotate_left
 ·(intro w h;(try dsimp only at h);go_simp) <;> with_reducible rfl
 simp only [tkp]
 refine tk 2 (.succ (.succ .zero)) (v:=?_) ?_ ?_
 rotate_left
 ·(intro w h;(try dsimp only at h);go_simp) <;> with_reducible rfl
 simp only [tkp]
 refine tk 3 (.succ (.succ (.succ .zero))) (v:=?_) ?_ ?_
 rotate_left
 ·(intro w h;(try dsimp only at h);go_simp) <;> with_reducible rfl
 simp only [tkp]
 refine tk 4 (.succ (.succ (.succ (.succ .zero)))) (v:=?_) ?_ ?_
 rotate_left
 ·(intro w h;(try dsimp only at h);go_simp) <;> with_reducible rfl
 simp only [tkp]
 refine tk 5 (.s5 .zero) (v:=?_) ?_ ?_
 rotate_left
 ·(intro w h;(try dsimp only at h);go_simp) <;> with_reducible rfl
 simp only [tkp]
 refine tk 6 (.s5 (.succ .zero)) (v:=?_) ?_ ?_
 rotate_left
 ·(intro w h;(try dsimp only at h);go_simp) <;> with_reducible rfl
 simp only [tkp]
 refine tk 7 (.s5 (.succ (.succ .zero))) (v:=?_) ?_ ?_
 rotate_left
 ·(intro w h;(try dsimp only at h);go_simp) <;> with_reducible rfl
 simp only [tkp]
 refine tk 8 (.s5 (.succ (.succ (.succ .zero)))) (v:=?_) ?_ ?_
 rotate_left
 ·(intro w h;(try dsimp only at h);go_simp) <;> with_reducible rfl
 simp only [tkp]
 refine tk 9 (.s5 (.succ (.succ (.succ (.succ .zero))))) (v:=?_) ?_ ?_
 rotate_left
 ·(intro w h;(try dsimp only at h);go_simp) <;> with_reducible rfl
 simp only [tkp]
 refine tk 10 (.s5 (.s5 .zero)) (v:=?_) ?_ ?_
 rotate_left
 ·(intro w h;(try dsimp only at h);go_simp) <;> with_reducible rfl
 simp only [tkp]
 refine tk 11 (.s5 (.s5 (.succ .zero))) (v:=?_) ?_ ?_
 rotate_left
 ·(intro w h;(try dsimp only at h);go_simp) <;> with_reducible rfl
 simp only [tkp]
 refine tk 12 (.s5 (.s5 (.succ (.succ .zero)))) (v:=?_) ?_ ?_
 rotate_left
 ·(intro w h;(try dsimp only at h);go_simp) <;> with_reducible rfl
 simp only [tkp]
 refine tk 13 (.s5 (.s5 (.succ (.succ (.succ .zero))))) (v:=?_) ?_ ?_
 rotate_left
 ·(intro w h;(try dsimp only at h);go_simp) <;> with_reducible rfl
 simp only [tkp]
 refine late_take 14 (.s5 (.s5 (.succ (.succ (.succ (.succ .zero)))))) (v:=?_) (by kernel_rfl) (by kernel_rfl) (by kernel_rfl) (by kernel_rfl) (fun _ _ _ h=>h) (by rfl) ?_ (by assumption) ?_
 rotate_left
 ·(intro w h;(try dsimp only at h);go_simp) <;> with_reducible rfl
 simp only [tkp]
 refine tk 15 (.s5 (.s5 (.s5 .zero))) (v:=?_) ?_ ?_
 rotate_left
 ·(intro w h;(try dsimp only at h);go_simp) <;> with_reducible rfl
 simp only [tkp]
 refine tk 16 (.s5 (.s5 (.s5 (.succ .zero)))) (v:=?_) ?_ ?_
 rotate_left
 ·(intro w h;(try dsimp only at h);go_simp) <;> with_reducible rfl
 simp only [tkp]
 refine tk 17 (.s5 (.s5 (.s5 (.succ (.succ .zero))))) (v:=?_) ?_ ?_
 rotate_left
 ·(intro w h;(try dsimp only at h);go_simp) <;> with_reducible rfl
 simp only [tkp]
 refine late_take 18 (.s5 (.s5 (.s5 (.succ (.succ (.succ .zero)))))) (v:=?_) (by kernel_rfl) (by kernel_rfl) (by kernel_rfl) (by kernel_rfl) (fun _ _ _ h=>h) (by rfl) ?_ (by assumption) ?_
 rotate_left
 ·(intro w h;(try dsimp only at h);go_simp) <;> with_reducible rfl
 simp only [tkp]
 refine late_take 19 (.s5 (.s5 (.s5 (.succ (.succ (.succ (.succ .zero))))))) (v:=?_) (by kernel_rfl) (by kernel_rfl) (by kernel_rfl) (by kernel_rfl) (fun _ _ _ h=>h) (by rfl) ?_ (by assumption) ?_
 rotate_left
 ·(intro w h;(try dsimp only at h);go_simp) <;> with_reducible rfl
 simp only [tkp]
 refine tk 20 (.s5 (.s5 (.s5 (.s5 .zero)))) (v:=?_) ?_ ?_
 rotate_left
 ·(intro w h;(try dsimp only at h);go_simp) <;> with_reducible rfl
 simp only [tkp]
 refine tk 21 (.s5 (.s5 (.s5 (.s5 (.succ .zero))))) (v:=?_) ?_ ?_
 rotate_left
 ·(intro w h;(try dsimp only at h);go_simp) <;> with_reducible rfl
 simp only [tkp]
 refine late_take 22 (.s5 (.s5 (.s5 (.s5 (.succ (.succ .zero)))))) (v:=?_) (by kernel_rfl) (by kernel_rfl) (by kernel_rfl) (by kernel_rfl) (fun _ _ _ h=>h) (by rfl) ?_ (by assumption) ?_
 rotate_left
 ·(intro w h;(try dsimp only at h);go_simp) <;> with_reducible rfl
 simp only [tkp]
 refine late_one 23 (.s5 (.s5 (.s5 (.s5 (.succ (.succ (.succ .zero))))))) (by kernel_rfl) (fun K hK=>?_)
 refine step_size (by rfl) 36 _ v1 s1 (by rfl) (by rfl) (fun _ _=>by kernel_rfl) (fun _ _=>by kernel_rfl) HS1.out ?_
 refine hK.out _ _ ?_ (fun hG=>?_)
 ·(intro _;exact hHeld)
 clear hK K
 replace hHeld:=hG (by decide)
 clear hG
 try simp only [tkp]
 refine late_take 24 (.s5 (.s5 (.s5 (.s5 (.succ (.succ (.succ (.succ .zero)))))))) (v:=?_) (by kernel_rfl) (by kernel_rfl) (by kernel_rfl) (by kernel_rfl) (fun _ _ _ h=>h) (by rfl) ?_ (by assumption) ?_
 rotate_left
 ·(intro w h;(try dsimp only at h);go_simp) <;> with_reducible rfl
 simp only [tkp]
 refine tk1 25 (.s5 (.s5 (.s5 (.s5 (.s5 .zero))))) (fun K hK=>?_)
 refine step_t3 (by rfl) 137 21 28 38 _ (by rfl) v1 v2 (.int .i64 (IntKind.i64.wrap ((s1:Int)-1))) (by rfl) (by rfl) (by rfl) (fun _ _=>by rfl) ?_
 (with_reducible refine HDl.out.mono ?_)
 rintro e w2 ⟨rfl,hf2,hta1,hta2⟩
 refine ⟨_,rfl,?_⟩
 refine hK.out _ _ ?_ (fun hG=>?_)
 ·(intro hne;exact absurd rfl hne)
 clear hK K hG
 refine wpLate_done (by kernel_rfl) ?_ _
 have HF:Hid (RetF S w d b g kc x ((m.set i (joinD (cutD (sizD t-1) (sizD t) t) u)).set (i-1) (cutD 0 (sizD t-1) t)) cs (.returned (.tuple #[])) w2):=by
  obtain ⟨hR,_,e1,e2,hU,hV⟩:=HD.out
  have mc1:=List.mem_of_getElem? HC.out.2.1
  have mc2:=List.mem_of_getElem? HC.out.2.2.2
  have hf:Fr2 w w2 c1 c2:=hf2
  obtain ⟨cur,hcu,hcs⟩:=hR.own
  have hgl:=(Array.getElem?_eq_some_iff.1 hcu).1
  have hgc1:g≠c1:=fun e=>hR.ng.1 (e ▸ mc1)
  have hgc2:g≠c2:=fun e=>hR.ng.1 (e ▸ mc2)
  have hbc1:b≠c1:=fun e=>hR.nb.1 (e ▸ mc1)
  have hbc2:b≠c2:=fun e=>hR.nb.1 (e ▸ mc2)
  have hl:((m.set i (joinD (cutD (sizD t-1) (sizD t) t) u)).set (i-1) (cutD 0 (sizD t-1) t)).length=n:=by rw [List.length_set,List.length_set,hR.ml]
  have cl:=cut_left hU hV (by omega)
  refine ⟨rfl,frs_two hf (by simp [mc1]) (by simp [mc2]),us,?_,by rw [hl];exact hR.cap.1,fun j u hj=>?_,?_⟩
  ·rw [hl]
   exact hR.box.of_block (hf.2.2.2.2 b hR.box.lt hbc1 hbc2)
  ·rw [World.cell?_of_block (a:=⟨g,j,none⟩) (hf.2.2.2.2 g hgl hgc1 hgc2)]
   exact hR.row j u hj
  ·have ak:=hR.set2 (show i≠i-1 by omega) HC.out.2.2.2 HC.out.2.1 ⟨hf.1,hf.2.1,hf.2.2.1,hf.2.2.2.1,fun k hk h1 h2=>hf.2.2.2.2 k hk h2 h1⟩ HC.out.2.2.1 HC.out.1 (wide_s mc2 hta2) (wide_s mc1 hta1)
   rw [e1,e2,cl.1,cl.2] at ak
   exact ak
 clear hHeld hta1 hta2 hf2
 go_wp2
 go_end0
 exact HF.out

set_option maxHeartbeats 8000000 in
theorem fillRight_any {S:Nat->Prop} {w:World} {d b g n kc:Nat} {x:Int} {m:List (Ro (d+1))} {us:List Value} {cs:List Nat} (hR:NR S w d b g n kc x m us cs) (hn:n<=1000) (i:Nat) (t u:Ro (d+1)) (HCs:Hid (Calls Tryz.prog 198 #[.pointer (some ⟨b,0,none⟩),.int .i64 ((i:Int)-1)] w fun e w'=>e=.returned (.bool false)/\w'=w)) (hin:i+1<n) (ht:m[i]?=some t) (hu:m[i+1]?=some u) (h:Nat) (hU:BalU (d+1) t h) (hV:BalU (d+1) u h) (HH1:1<=sizD t) (HH2:2<sizD u) (hkeys:(keysR (d+1) t).length+(keysR (d+1) u).length<=1099511627776) :
  Calls Tryz.prog 195 #[.pointer (some ⟨b,0,none⟩),.int .i64 (i:Int)] w (RetF S w d b g kc x ((m.set i (joinD t (cutD 0 1 u))).set (i+1) (cutD 1 (sizD u) u)) cs):=by
 have HCr:Hid (Calls Tryz.prog 198 #[.pointer (some ⟨b,0,none⟩),.int .i64 ((i:Int)+1)] w fun e w'=>e=.returned (.bool true)/\w'=w):=by
  have q:=canSpare_in hR hn (i+1) (by omega) u hu
  rw [decide_eq_true HH2] at q
  exact q
 have hD:=hR.below (Below.refl _ w).drew
 obtain ⟨t',v1,c1,q1,q2,q3,q4,q5,q6,q7,q8⟩:=hD.at (i) (by omega)
 rw [ht] at q1
 injection q1 with q1
 subst q1
 obtain ⟨u',v2,c2,r1,r2,r3,r4,r5,r6,r7,r8⟩:=hD.at (i+1) (by omega)
 rw [hu] at r1
 injection r1 with r1
 subst r1
 have hne:=hR.ne q3 r3 (by omega)
 have hU4:=hU.le
 have hV4:=hV.le
 obtain ⟨s1,hs1⟩:∃s1,s1=sizD t:=⟨_,rfl⟩
 obtain ⟨s2,hs2⟩:∃s2,s2=sizD u:=⟨_,rfl⟩
 rw [<- hs1] at q6 hU4 HH1
 rw [<- hs2] at r6 hV4 HH2
 have HS1:Hid (SzI v1 s1 w.drew):=q6
 have HDl:Hid (Calls Tryz.prog 137 #[v1,v2,.int .i64 (IntKind.i64.wrap ((s1:Int)+1))] w.drew fun e w'=>e=.returned (.tuple #[])/\Fr2 w.drew w' c1 c2/\TAo (fun y=>S y\/y=c1\/w.drew.heap.size<=y) w' (d+1) (cutD 0 (s1+1) (joinD t u)) v1/\TAo (fun y=>S y\/y=c2\/w.drew.heap.size<=y) w' (d+1) (cutD (s1+1) (s1+s2) (joinD t u)) v2):=by
  rw [show IntKind.i64.wrap ((s1:Int)+1)=((s1+1:Nat):Int) by rw [IntKind.wrap_i64];omega]
  have q:=dealD_any d h c1 c2 (s1+1) t u v1 v2 S w.drew q5 r5 hU hV q7 r7 hne (by omega) (by omega) hkeys
  rw [<- hs1,<- hs2] at q
  exact q
 have HD:Hid (NR S w d b g n kc x m us cs/\NR S w.drew d b g n kc x m us cs/\s1=sizD t/\s2=sizD u/\BalU (d+1) t h/\BalU (d+1) u h):=⟨hR,hD,hs1,hs2,hU,hV⟩
 have HC:Hid (us[i]?=some v1/\cs[i]?=some c1/\us[i+1]?=some v2/\cs[i+1]?=some c2):=⟨q2,q3,r2,r3⟩
 have c1b:=hD.box.cell 1
 simp at c1b
 have hbl:=hD.box.lt
 clear hD q2 q3 q5 q6 r2 r3 r5 r6 ht hu hs1 hs2 hkeys
 have hwi:IntKind.i64.wrap ((i:Int)+1)=((i+1:Nat):Int):=by rw [IntKind.wrap_i64];omega
 have i0:(0:Int)<=(i:Int):=by omega
 have i1:(i:Int)<(n:Int):=by omega
 have i0m:(0:Int)<=((i+1:Nat):Int):=by omega
 have i0p:(0:Int)<=(i:Int)+1:=by omega
 have hwm:IntKind.i64.wrap ((i:Int)-1)=(i:Int)-1:=by rw [IntKind.wrap_i64];omega
 have i1m:((i+1:Nat):Int)<(n:Int):=by omega
 have i1p:(i:Int)+1<(n:Int):=by omega
 clear hR hU hV
 go_enter Tryz.func195,Tryz.ntmps195
 go_wp2_with fail
 (with_reducible refine HCs.out.mono ?_)
 rintro e w0 ⟨rfl,hw0⟩
 subst w0
 go_wp2_with fail
 (with_reducible refine HCr.out.mono ?_)
 rintro e w0' ⟨rfl,hw0⟩
 subst w0'
 go_upto_region 4 with fail
 refine wp_region_late (S:=fun w'=>w'.cell? ⟨b,1,none⟩=some (.slice (some ⟨g,0,none⟩) n kc)/\w'.cell? ⟨g,i,none⟩=some v1/\w'.cell? ⟨g,i+1,none⟩=some v2) 24 (by kernel_rfl) ⟨c1b,q4,r4⟩ (fun hHeld=>?_)
 refine tk 0 .zero (v:=?_) ?_ ?_
 rotate_left
 ·(intro w h;(try dsimp only at h);go_simp) <;> with_reducible rfl
 simp only [tkp]
 refine tk 1 (.succ .zero) (v:=?_) ?_ ?_
 rotate_left
 ·(intro w h;(try dsimp only at h);go_simp) <;> with_reducible rfl
 simp only [tkp]
 refine tk 2 (.succ (.succ .zero)) (v:=?_) ?_ ?_
 rotate_left
 ·(intro w h;(try dsimp only at h);go_simp) <;> with_reducible rfl
 simp only [tkp]
 refine tk 3 (.succ (.succ (.succ .zero))) (v:=?_) ?_ ?_
 rotate_left
 ·(intro w h;(try dsimp only at h);go_simp) <;> with_reducible rfl
 simp only [tkp]
 refine tk 4 (.succ (.succ (.succ (.succ .zero)))) (v:=?_) ?_ ?_
 rotate_left
 ·(intro w h;(try dsimp only at h);go_simp) <;> with_reducible rfl
 simp only [tkp]
 refine tk 5 (.s5 .zero) (v:=?_) ?_ ?_
 rotate_left
 ·(intro w h;(try dsimp only at h);go_simp) <;> with_reducible rfl
 simp only [tkp]
 refine tk 6 (.s5 (.succ .zero)) (v:=?_) ?_ ?_
 rotate_left
 ·(intro w h;(try dsimp only at h);go_simp) <;> with_reducible rfl
 simp only [tkp]
 refine tk 7 (.s5 (.succ (.succ .zero))) (v:=?_) ?_ ?_
 rotate_left
 ·(intro w h;(try dsimp only at h);go_simp) <;> with_reducible rfl
 simp only [tkp]
 refine tk 8 (.s5 (.succ (.succ (.succ .zero)))) (v:=?_) ?_ ?_
 rotate_left
 ·(intro w h;(try dsimp only at h);go_simp) <;> with_reducible rfl
 simp only [tkp]
 refine tk 9 (.s5 (.succ (.succ (.succ (.succ .zero))))) (v:=?_) ?_ ?_
 rotate_left
 ·(intro w h;(try dsimp only at h);go_simp) <;> with_reducible rfl
 simp only [tkp]
 refine tk 10 (.s5 (.s5 .zero)) (v:=?_) ?_ ?_
 rotate_left
 ·(intro w h;(try dsimp only at h);go_simp) <;> with_reducible rfl
 simp only [tkp]
 refine tk 11 (.s5 (.s5 (.succ .zero))) (v:=?_) ?_ ?_
 rotate_left
 ·(intro w h;(try dsimp only at h);go_simp) <;> with_reducible rfl
 simp only [tkp]
 refine tk 12 (.s5 (.s5 (.succ (.succ .zero)))) (v:=?_) ?_ ?_
 rotate_left
 ·(intro w h;(try dsimp only at h);go_simp) <;> with_reducible rfl
 simp only [tkp]
 refine tk 13 (.s5 (.s5 (.succ (.succ (.succ .zero))))) (v:=?_) ?_ ?_
 rotate_left
 ·(intro w h;(try dsimp only at h);go_simp) <;> with_reducible rfl
 simp only [tkp]
 refine late_take 14 (.s5 (.s5 (.succ (.succ (.succ (.succ .zero)))))) (v:=?_) (by kernel_rfl) (by kernel_rfl) (by kernel_rfl) (by kernel_rfl) (fun _ _ _ h=>h) (by rfl) ?_ (by assumption) ?_
 rotate_left
 ·(intro w h;(try dsimp only at h);go_simp) <;> with_reducible rfl
 simp only [tkp]
 refine tk 15 (.s5 (.s5 (.s5 .zero))) (v:=?_) ?_ ?_
 rotate_left
 ·(intro w h;(try dsimp only at h);go_simp) <;> with_reducible rfl
 simp only [tkp]
 refine tk 16 (.s5 (.s5 (.s5 (.succ .zero)))) (v:=?_) ?_ ?_
 rotate_left
 ·(intro w h;(try dsimp only at h);go_simp) <;> with_reducible rfl
 simp only [tkp]
 refine tk 17 (.s5 (.s5 (.s5 (.succ (.succ .zero))))) (v:=?_) ?_ ?_
 rotate_left
 ·(intro w h;(try dsimp only at h);go_simp) <;> with_reducible rfl
 simp only [tkp]
 refine late_take 18 (.s5 (.s5 (.s5 (.succ (.succ (.succ .zero)))))) (v:=?_) (by kernel_rfl) (by kernel_rfl) (by kernel_rfl) (by kernel_rfl) (fun _ _ _ h=>h) (by rfl) ?_ (by assumption) ?_
 rotate_left
 ·(intro w h;(try dsimp only at h);go_simp) <;> with_reducible rfl
 simp only [tkp]
 refine late_take 19 (.s5 (.s5 (.s5 (.succ (.succ (.succ (.succ .zero))))))) (v:=?_) (by kernel_rfl) (by kernel_rfl) (by kernel_rfl) (by kernel_rfl) (fun _ _ _ h=>h) (by rfl) ?_ (by assumption) ?_
 rotate_left
 ·(intro w h;(try dsimp only at h);go_simp) <;> with_reducible rfl
 simp only [tkp]
 refine tk 20 (.s5 (.s5 (.s5 (.s5 .zero)))) (v:=?_) ?_ ?_
 rotate_left
 ·(intro w h;(try dsimp only at h);go_simp) <;> with_reducible rfl
 simp only [tkp]
 refine tk 21 (.s5 (.s5 (.s5 (.s5 (.succ .zero))))) (v:=?_) ?_ ?_
 rotate_left
 ·(intro w h;(try dsimp only at h);go_simp) <;> with_reducible rfl
 simp only [tkp]
 refine late_one 22 (.s5 (.s5 (.s5 (.s5 (.succ (.succ .zero)))))) (by kernel_rfl) (fun K hK=>?_)
 refine step_size (by rfl) 66 _ v1 s1 (by rfl) (by rfl) (fun _ _=>by kernel_rfl) (fun _ _=>by kernel_rfl) HS1.out ?_
 refine hK.out _ _ ?_ (fun hG=>?_)
 ·(intro _;exact hHeld)
 clear hK K
 replace hHeld:=hG (by decide)
 clear hG
 try simp only [tkp]
 refine late_take 23 (.s5 (.s5 (.s5 (.s5 (.succ (.succ (.succ .zero))))))) (v:=?_) (by kernel_rfl) (by kernel_rfl) (by kernel_rfl) (by kernel_rfl) (fun _ _ _ h=>h) (by rfl) ?_ (by assumption) ?_
 rotate_left
 ·(intro w h;(try dsimp only at h);go_simp) <;> with_reducible rfl
 simp only [tkp]
 refine late_one 24 (.s5 (.s5 (.s5 (.s5 (.succ (.succ (.succ (.succ .zero)))))))) (by kernel_rfl) (fun K hK=>?_)
 refine step_t3 (by rfl) 137 51 59 68 _ (by rfl) v1 v2 (.int .i64 (IntKind.i64.wrap ((s1:Int)+1))) (by rfl) (by rfl) (by rfl) (fun _ _=>by rfl) ?_
 (with_reducible refine HDl.out.mono ?_)
 rintro e w2 ⟨rfl,hf2,hta1,hta2⟩
 refine ⟨_,rfl,?_⟩
 refine hK.out _ _ ?_ (fun hG=>?_)
 ·(intro hne;exact absurd rfl hne)
 clear hK K hG
 refine wpLate_done (by kernel_rfl) ?_ _
 have HF:Hid (RetF S w d b g kc x ((m.set i (joinD t (cutD 0 1 u))).set (i+1) (cutD 1 (sizD u) u)) cs (.returned (.tuple #[])) w2):=by
  obtain ⟨hR,_,e1,e2,hU,hV⟩:=HD.out
  have mc1:=List.mem_of_getElem? HC.out.2.1
  have mc2:=List.mem_of_getElem? HC.out.2.2.2
  have hf:Fr2 w w2 c1 c2:=hf2
  obtain ⟨cur,hcu,hcs⟩:=hR.own
  have hgl:=(Array.getElem?_eq_some_iff.1 hcu).1
  have hgc1:g≠c1:=fun e=>hR.ng.1 (e ▸ mc1)
  have hgc2:g≠c2:=fun e=>hR.ng.1 (e ▸ mc2)
  have hbc1:b≠c1:=fun e=>hR.nb.1 (e ▸ mc1)
  have hbc2:b≠c2:=fun e=>hR.nb.1 (e ▸ mc2)
  have hl:((m.set i (joinD t (cutD 0 1 u))).set (i+1) (cutD 1 (sizD u) u)).length=n:=by rw [List.length_set,List.length_set,hR.ml]
  have cl:=cut_right hU hV (by omega)
  refine ⟨rfl,frs_two hf (by simp [mc1]) (by simp [mc2]),us,?_,by rw [hl];exact hR.cap.1,fun j u hj=>?_,?_⟩
  ·rw [hl]
   exact hR.box.of_block (hf.2.2.2.2 b hR.box.lt hbc1 hbc2)
  ·rw [World.cell?_of_block (a:=⟨g,j,none⟩) (hf.2.2.2.2 g hgl hgc1 hgc2)]
   exact hR.row j u hj
  ·have ak:=hR.set2 (show i≠i+1 by omega) HC.out.2.1 HC.out.2.2.2 hf HC.out.1 HC.out.2.2.1 (wide_s mc1 hta1) (wide_s mc2 hta2)
   rw [e1,e2,cl.1,cl.2] at ak
   exact ak
 clear hHeld hta1 hta2 hf2
 go_wp2
 go_end0
 exact HF.out

set_option maxHeartbeats 8000000 in
theorem fillJoin_any {S:Nat->Prop} {w:World} {d b g n kc:Nat} {x:Int} {m:List (Ro (d+1))} {us:List Value} {cs:List Nat} (hR:NR S w d b g n kc x m us cs) (hn:n<=1000) (i:Nat) (t u:Ro (d+1)) (HCs:Hid (Calls Tryz.prog 198 #[.pointer (some ⟨b,0,none⟩),.int .i64 ((i:Int)-1)] w fun e w'=>e=.returned (.bool false)/\w'=w)) (HCr:Hid (Calls Tryz.prog 198 #[.pointer (some ⟨b,0,none⟩),.int .i64 ((i:Int)+1)] w fun e w'=>e=.returned (.bool false)/\w'=w)) (hin:i<n) (p:Nat) (hp:p=i-1) (hpn:p+1<n) (ht:m[p]?=some t) (hu:m[p+1]?=some u) (h:Nat) (hU:BalU (d+1) t h) (hV:BalU (d+1) u h) (HH1:1<=sizD t) (hkeys:(keysR (d+1) t).length+(keysR (d+1) u).length<=1099511627776) :
  Calls Tryz.prog 195 #[.pointer (some ⟨b,0,none⟩),.int .i64 (i:Int)] w (RetF S w d b g kc x (m.take p++joinD t u::m.drop (p+2)) cs):=by
 have HJ:Hid (Calls Tryz.prog 199 #[.pointer (some ⟨b,0,none⟩),.int .i64 (p:Int)] w (RetF S w d b g kc x (m.take p++joinD t u::m.drop (p+2)) cs)):=joinRight_any hR hn p hpn t u ht hu h hU hV HH1 hkeys
 have hmx:max (IntKind.i64.wrap ((i:Int)-1)) 0=(p:Int):=by rw [IntKind.wrap_i64];omega
 have hwi:IntKind.i64.wrap ((i:Int)-1)=(i:Int)-1:=by rw [IntKind.wrap_i64];omega
 have hwr:IntKind.i64.wrap ((i:Int)+1)=(i:Int)+1:=by rw [IntKind.wrap_i64];omega
 rw [hwi] at hmx
 clear hR ht hu hU hV HH1 hkeys hp
 go_enter Tryz.func195,Tryz.ntmps195
 go_wp2_with fail
 (with_reducible refine HCs.out.mono ?_)
 rintro e w0 ⟨rfl,hw0⟩
 subst w0
 go_wp2_with fail
 (with_reducible refine HCr.out.mono ?_)
 rintro e w0' ⟨rfl,hw0⟩
 subst w0'
 go_wp2_with fail
 (with_reducible refine HJ.out.mono ?_)
 rintro e w2 hret
 have HF:Hid (RetF S w d b g kc x (m.take p++joinD t u::m.drop (p+2)) cs e w2):=hret
 obtain ⟨rfl,_⟩:=hret
 go_wp2
 go_end0
 exact HF.out


theorem fillUp_any {S:Nat->Prop} {w:World} {d b g n kc:Nat} {x:Int} {m:List (Ro (d+1))} {us:List Value} {cs:List Nat} (hR:NR S w d b g n kc x m us cs) (hn:n<=4) (hn2:2<=n) (i:Nat) (hin:i<n) (h:Nat) (y:Ro (d+1)) (hy:m[i]?=some y) (hU:BalU (d+1) y h) (h1:1<=sizD y) (hf:¬ 2<=sizD y) (hall:∀j t,m[j]?=some t->j≠i->BalR (d+1) false t h) (hkeys:∀t,t∈m->(keysR (d+1) t).length<=200000) :
  Calls Tryz.prog 195 #[.pointer (some ⟨b,0,none⟩),.int .i64 (i:Int)] w (RetF S w d b g kc x (fixD m i) cs):=by
 have hml:=hR.ml
 have ky:=hkeys y (List.mem_of_getElem? hy)
 by_cases hl:0<i/\2<sizO m[i-1]?
 ·obtain ⟨hi0,hz3⟩:=hl
  have hz:m[i-1]?=some (m[i-1]'(by omega)):=List.getElem?_eq_getElem (by omega)
  generalize m[i-1]'(by omega)=z at hz
  rw [hz] at hz3
  have hz3' : 2<sizD z:=hz3
  have kz:=hkeys z (List.mem_of_getElem? hz)
  rw [fixD_left hy hf hi0 hz hz3']
  exact fillLeft_any hR (by omega) i z y hi0 hin hz hy h (BalU.of (hall (i-1) z hz (by omega))) hU hz3' h1 (by omega)
 ·have HCs:Hid (Calls Tryz.prog 198 #[.pointer (some ⟨b,0,none⟩),.int .i64 ((i:Int)-1)] w fun e w'=>e=.returned (.bool false)/\w'=w):=by
   by_cases hi0:0<i
   ·have hz:m[i-1]?=some (m[i-1]'(by omega)):=List.getElem?_eq_getElem (by omega)
    generalize m[i-1]'(by omega)=z at hz
    have q:¬ 2<sizD z:=fun q=>hl ⟨hi0,by rw [hz];exact q⟩
    have c:=canSpare_in hR (by omega) (i-1) (by omega) z hz
    rw [decide_eq_false q,show ((i-1:Nat):Int)=(i:Int)-1 by omega] at c
    exact c
   ·exact canSpare_out hR (by omega) _ (.inl (by omega))
  by_cases hr:2<sizO m[i+1]?
  ·have hlt:i+1<m.length:=by
    by_cases q:i+1<m.length
    ·exact q
    ·rw [List.getElem?_eq_none (by omega)] at hr
     exact absurd hr (by simp [sizO])
   have hz:m[i+1]?=some m[i+1]:=List.getElem?_eq_getElem hlt
   generalize m[i+1]=z at hz
   rw [hz] at hr
   have hz3' : 2<sizD z:=hr
   have kz:=hkeys z (List.mem_of_getElem? hz)
   rw [fixD_right hy hf hl hz hz3']
   exact fillRight_any hR (by omega) i y z HCs (by omega) hy hz h hU (BalU.of (hall (i+1) z hz (by omega))) h1 hz3' (by omega)
  ·have HCr:Hid (Calls Tryz.prog 198 #[.pointer (some ⟨b,0,none⟩),.int .i64 ((i:Int)+1)] w fun e w'=>e=.returned (.bool false)/\w'=w):=by
    by_cases q:i+1<n
    ·have hz:m[i+1]?=some (m[i+1]'(by omega)):=List.getElem?_eq_getElem (by omega)
     generalize m[i+1]'(by omega)=z at hz
     have q2:¬ 2<sizD z:=fun q=>hr (by rw [hz];exact q)
     have c:=canSpare_in hR (by omega) (i+1) (by omega) z hz
     rw [decide_eq_false q2,show ((i+1:Nat):Int)=(i:Int)+1 by omega] at c
     exact c
    ·exact canSpare_out hR (by omega) _ (.inr (by omega))
   by_cases hi0:0<i
   ·have hz:m[i-1]?=some (m[i-1]'(by omega)):=List.getElem?_eq_getElem (by omega)
    generalize m[i-1]'(by omega)=z at hz
    have hb:=hall (i-1) z hz (by omega)
    have hs:=hb.siz
    have kz:=hkeys z (List.mem_of_getElem? hz)
    have em:max i 1=i:=Nat.max_eq_left hi0
    rw [fixD_join (u:=z) (v:=y) hy hf hl hr (by rw [em];exact hz) (by rw [em];exact hy),em]
    have q:=fillJoin_any hR (by omega) i z y HCs HCr hin (i-1) rfl (by omega) hz (by rw [show i-1+1=i by omega];exact hy) h (BalU.of hb) hU (by omega) (by omega)
    rw [show i-1+2=i+1 by omega] at q
    exact q
   ·have e0:i=0:=by omega
    subst e0
    have hz:m[1]?=some (m[1]'(by omega)):=List.getElem?_eq_getElem (by omega)
    generalize m[1]'(by omega)=z at hz
    have hb:=hall 1 z hz (by omega)
    have kz:=hkeys z (List.mem_of_getElem? hz)
    rw [fixD_join (u:=y) (v:=z) hy hf hl hr hy hz]
    exact fillJoin_any hR (by omega) 0 y z HCs HCr hin 0 rfl (by omega) hy hz h hU (BalU.of hb) h1 (by omega)

theorem BalU.fit:∀{d:Nat} {t:Ro d} {h:Nat},BalU d t h->FitR 4 d t
 | 0,t,_,_=>t.elim
 | d+1,.inl L,h,hb=>hb.2
 | d+1,.inr l,h,hb=>fun t ht=>by
  obtain ⟨_,_,h',_,q⟩:=hb
  exact bal_fit (q t ht)
theorem heads_nodup {bss:List (List Nat)} (h:bss.flatten.Nodup) (hne:∀us,us∈bss->us≠[]):(bss.map (fun us=>us.headD 0)).Nodup:=by
 unfold List.Nodup at h ⊢
 rw [List.pairwise_flatten] at h
 rw [List.pairwise_map]
 refine h.2.imp_of_mem (fun {a b} ha hb hab=>?_)
 have m1:∀{us:List Nat},us≠[]->us.headD 0∈us:=fun {us} hn=>by
  cases us with
  | nil=>exact absurd rfl hn
  | cons x xs=>simp
 exact hab _ (m1 (hne a ha)) _ (m1 (hne b hb))
theorem TOw.nd {B:Nat} {w:World}:∀{d:Nat} {t:Ro (d+1)} {v:Value} {bs:List Nat},TOw B w (d+1) t v bs->bs.Nodup->bs≠[]/\NdI (fun x=>x∈bs/\x≠bs.headD 0) w (bs.headD 0) (d+1) t v
 | d,.inl t,v,bs,h,hd=>by
  obtain ⟨b,ka,kc,rfl,hB,hx,ho,rfl⟩:=h
  refine ⟨by simp,rfl,ka,kc,hx,own_cap ho,?_⟩
  rcases ho.2 with ⟨q,q0⟩|⟨g,cap,cur,q1,q2,q3,q4⟩
  ·exact .inl q0
  ·injection q1 with q1 _ q5
   subst q1 q5
   refine .inr ⟨g,0,rfl,⟨by simp,fun e=>?_⟩,(own_lt ho g rfl).2,fun i hi=>?_⟩
   ·rw [List.nodup_cons] at hd
    have e' : g=b:=e
    exact hd.1 (by rw [<- e'];simp)
   ·rw [Nat.zero_add,ho.cellAt i (by omega),strL_get t i hi]
 | d,.inr l,v,bs,h,hd=>by
  obtain ⟨b,g,kc,xs,bss,rfl,hB,hx,ho,hl,hbl,rfl,hall⟩:=h
  have hc:=own_cap ho
  rw [List.nodup_cons,List.nodup_cons] at hd
  refine ⟨by simp,rfl,g,0,kc,xs,hx,⟨by simp,fun e=>hd.1 (by have e' : g=b:=e;rw [e'];simp)⟩,⟨(own_lt ho g rfl).2,hc.1,hc.2⟩,⟨hl,by have:=ho.1;omega⟩,fun j u hj=>?_,fun k h=>?_⟩
  ·have hjl:=(List.getElem?_eq_some_iff.1 hj).1
   rw [ho.1] at hjl
   rw [Nat.zero_add,ho.cellAt j hjl]
   exact hj
  ·obtain ⟨u,us,e1,e2,e3⟩:=hall k h
   have hm:us∈bss:=List.mem_of_getElem? e2
   refine ⟨u,e1,TAo.wide (TOw.tao e3 ?_) (fun b' hb' _=>?_)⟩
   ·exact (List.pairwise_flatten.1 hd.2.2).1 us hm
   ·have hbf:b'∈bss.flatten:=List.mem_flatten.2 ⟨us,hm,hb'⟩
    refine ⟨by simp only [List.mem_cons];exact .inr (.inr hbf),fun e=>?_⟩
    have e' : b'=b:=e
    subst e'
    exact hd.1 (List.mem_cons_of_mem _ hbf)
theorem NdI.box_eq {S:Nat->Prop} {w:World} {b c d:Nat} {t:Ro (d+1)} {v:Value} (h:NdI S w b (d+1) t v) (hv:v=.iface 204 (.pointer (some ⟨c,0,none⟩))\/v=.iface 174 (.pointer (some ⟨c,0,none⟩))):b=c:=by
 have inj:∀{x y:Nat} {p q:Value},(Value.iface x p=.iface y q)->p=q:=fun {x y p q} e=>by injection e
 have pj:∀{x y:Nat},(Value.pointer (some ⟨x,0,none⟩)=.pointer (some ⟨y,0,none⟩))->x=y:=fun {x y} e=>by
  injection e with e
  injection e with e
  injection e
 rcases h.form with ⟨rfl,_⟩|⟨rfl,_⟩
 ·rcases hv with e|e
  ·exact pj (inj e)
  ·injection e with e _
   exact absurd e (by decide)
 ·rcases hv with e|e
  ·injection e with e _
   exact absurd e (by decide)
  ·exact pj (inj e)

theorem NR.all {S:Nat->Prop} {w:World} {d b g n kc:Nat} {x:Int} {m:List (Ro (d+1))} {us:List Value} {cs:List Nat} (h:NR S w d b g n kc x m us cs):AllK (fun y=>S y\/y∈cs\/w.heap.size<=y) w (d+1) m us:=by
 refine ⟨by rw [h.ul,h.ml],fun k hk=>?_⟩
 obtain ⟨u,c,e1,e2,e3⟩:=h.kid k hk
 have hc:=List.mem_of_getElem? e2
 refine ⟨u,e1,(e3.tao (h.out c hc)).wide (fun y hy _=>?_)⟩
 rcases hy with q|rfl
 ·exact .inl q
 ·exact .inr (.inl hc)

theorem NR.of {B d b g n kc:Nat} {x:Int} {l:List (Ro (d+1))} {xs:List Value} {bss:List (List Nat)} {w w2:World} (hx:Bx w b 179 #[.int .i64 x,.slice (some ⟨g,0,none⟩) n kc]) (ho:w.ownsRow B 68 1 (.slice (some ⟨g,0,none⟩) n kc) n xs) (hn:n=l.length) (hn0:0<n) (hbl:bss.length=l.length) (hd:b∉g::bss.flatten/\g∉bss.flatten/\bss.flatten.Nodup)
  (hall:∀k (h:k<l.length),∃u us,xs[k]?=some u/\bss[k]?=some us/\TOw B w (d+1) l[k] u us) (i:Nat) (hi:i<l.length) (u:Value) (us:List Nat) (hu:xs[i]?=some u) (hus:bss[i]?=some us) (hf:Frs us w w2) (y:Ro (d+1)) (hy:NdI (fun z=>(z∈us/\z≠us.headD 0)\/w.heap.size<=z) w2 (us.headD 0) (d+1) y u) (hlt:∀z,z∈b::g::bss.flatten->B<=z/\z<w.heap.size) :
  NR (fun z=>(z∈bss.flatten/\z∉bss.map (fun us=>us.headD 0))\/w.heap.size<=z) w2 d b g n kc x (l.set i y) xs (bss.map (fun us=>us.headD 0)):=by
 have hmus:us∈bss:=List.mem_of_getElem? hus
 have hfl:∀z,z∈us->z∈bss.flatten:=fun z hz=>List.mem_flatten.2 ⟨us,hmus,hz⟩
 have hnd:∀(k:Nat) (vs:List Nat),bss[k]?=some vs->vs.Nodup:=fun k vs e=>(List.pairwise_flatten.1 hd.2.2).1 vs (List.mem_of_getElem? e)
 have hnb:b∉us:=fun q=>hd.1 (List.mem_cons_of_mem _ (hfl b q))
 have hng:g∉us:=fun q=>hd.2.1 (hfl g q)
 have hgl:g<w.heap.size:=(hlt g (by simp)).2
 have hne:∀vs,vs∈bss->vs≠[]:=fun vs hv=>by
  obtain ⟨k,hk,e⟩:=List.getElem_of_mem hv
  obtain ⟨u',us',e1,e2,e3⟩:=hall k (by omega)
  rw [List.getElem?_eq_getElem hk,e] at e2
  injection e2 with e2
  subst e2
  exact (e3.nd (hnd k vs (by rw [List.getElem?_eq_getElem hk,e]))).1
 have hmem:∀vs,vs∈bss->vs.headD 0∈vs:=fun vs hv=>by
  have:=hne vs hv
  cases vs with
  | nil=>exact absurd rfl this
  | cons a ts=>simp
 have hcsf:∀z,z∈bss.map (fun us=>us.headD 0)->z∈bss.flatten:=fun z hz=>by
  obtain ⟨vs,hv,rfl⟩:=List.mem_map.1 hz
  exact List.mem_flatten.2 ⟨vs,hv,hmem vs hv⟩
 have hsub:∀(k:Nat) (vs:List Nat),bss[k]?=some vs->∀z,z∈vs->z≠vs.headD 0->z∈bss.flatten/\z∉bss.map (fun us=>us.headD 0):=fun k vs hk z hz hzn=>by
  refine ⟨List.mem_flatten.2 ⟨vs,List.mem_of_getElem? hk,hz⟩,fun q=>?_⟩
  obtain ⟨vs',hv',e⟩:=List.mem_map.1 q
  obtain ⟨k',hk',e'⟩:=List.getElem_of_mem hv'
  have hk2:bss[k']?=some vs':=by rw [List.getElem?_eq_getElem hk',e']
  have hzv:z∈vs':=by rw [<- e];exact hmem vs' hv'
  by_cases ek:k=k'
  ·subst ek
   rw [hk] at hk2
   injection hk2 with hk2
   subst hk2
   exact hzn e.symm
  ·exact nodup_ne hd.2.2 hk2 hk ek hz hzv
 have hz2:=hf.2.2.2.1
 refine ⟨hx.of_block (hf.2.2.2.2 b hx.lt hnb),?_,fun j v hj=>?_,by have:=ho.1;omega,by rw [List.length_set];exact hn.symm,by rw [List.length_map,hbl,hn],heads_nodup hd.2.2 hne,fun c hc q=>?_,⟨fun q=>hd.1 (List.mem_cons_of_mem _ (hcsf b q)),fun q=>?_⟩,⟨fun q=>hd.2.1 (hcsf g q),fun q=>?_⟩,fun e=>hd.1 (by rw [e];simp),own_cap ho,fun k hk=>?_⟩
 ·rcases ho.2 with ⟨q,q0⟩|⟨g',cap,cur,q1,q2,q3,q4,q5,q6,q7⟩
  ·omega
  ·injection q1 with q1 _ q8
   injection q1 with q1
   injection q1 with q1
   subst q1 q8
   exact ⟨cur,(hf.2.2.2.2 g hgl hng).trans q3,by omega⟩
 ·have hjl:=(List.getElem?_eq_some_iff.1 hj).1
  rw [ho.1] at hjl
  rw [World.cell?_of_block (a:=⟨g,j,none⟩) (hf.2.2.2.2 g hgl hng),ho.cellAt j hjl]
  exact hj
 ·rcases q with q|q
  ·exact q.2 hc
  ·have:=(hlt c (by simp [hcsf c hc])).2
   omega
 ·rcases q with q|q
  ·exact hd.1 (List.mem_cons_of_mem _ q.1)
  ·have:=(hlt b (by simp)).2
   omega
 ·rcases q with q|q
  ·exact hd.2.1 q.1
  ·omega
 ·rw [List.length_set] at hk
  by_cases ek:k=i
  ·subst ek
   refine ⟨u,us.headD 0,hu,by rw [List.getElem?_map,hus];rfl,?_⟩
   rw [List.getElem_set_self]
   refine NdI.keep (Nat.le_refl _) rfl (fun z hz _=>⟨?_,rfl⟩) hy
   rcases hz with hz|hz
   ·exact .inl (hsub k us hus z hz.1 hz.2)
   ·exact .inr hz
  ·obtain ⟨v,vs,e1,e2,e3⟩:=hall k hk
   refine ⟨v,vs.headD 0,e1,by rw [List.getElem?_map,e2];rfl,?_⟩
   rw [List.getElem_set_ne (by omega)]
   have hlv:∀z,z∈vs->z<w.heap.size/\z∉us:=fun z hz=>⟨(hlt z (by simp [List.mem_flatten.2 ⟨vs,List.mem_of_getElem? e2,hz⟩])).2,nodup_ne hd.2.2 hus e2 ek hz⟩
   have hh:=hlv _ (hmem vs (List.mem_of_getElem? e2))
   refine NdI.keep hz2 (hf.2.2.2.2 _ hh.1 hh.2) (fun z hz _=>⟨.inl (hsub k vs e2 z hz.1 hz.2),?_⟩) (e3.nd (hnd k vs e2)).2
   have:=hlv z hz.1
   exact hf.2.2.2.2 z this.1 this.2
end Go.Proofs.YtcnollkkigiobaaGreat
