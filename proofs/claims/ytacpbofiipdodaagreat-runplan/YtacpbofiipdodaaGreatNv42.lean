import Derived.Test.YtacpbofiipdodaaGreatNv11
import Derived.Test.YtacpbofiipdodaaGreatNv40
import Derived.Test.YtacpbofiipdodaaGreatNv4
import Derived.Test.YtacpbofiipdodaaGreatNv41
set_option linter.unusedVariables false
set_option linter.unusedSimpArgs false
set_option maxRecDepth 100000
set_option maxHeartbeats 90000000
namespace Go.Proofs.YtacpbofiipdodaaGreat
open Go Go.Deep Go.RowKit
variable {B B' T g n:Nat}{DC KC M R:Nat->Nat}{w w':World}
theorem AE.low {N:Nat->Tn} {KA DA:Nat->Option Addr} (q:AE w B g n N KA DA KC DC) (h:B'<=B):AE w B' g n N KA DA KC DC:=by have hle:=q.le;exact⟨by omega,q.row,λj hj=>(q.keys j hj).mono h,λj hj=>(q.kids j hj).mono h,q.apartK,q.apartD⟩
theorem AE.wit {N:Nat->Tn} {KA DA:Nat->Option Addr} (q:AE w B g n N KA DA KC DC) (hT:U7 T g n N KA DA B) (hk:∀b,B<=b->b<T->b<w.heap.size->w'.heap[b]?=w.heap[b]?):AE w' B g n N KA DA KC DC:=by
 refine⟨q.le,q.row.of_block (hk g hT.1 hT.2.1 q.row.lt),λi hi=>?_,λi hi=>?_,q.apartK,q.apartD⟩
 .by_cases h0:(N i).kn=0;.exact .inl h0
  .obtain⟨gi,hA,hgi,hri⟩:=(q.keys i hi).resolve_left h0;have:=hT.2.2.1 i hi h0 gi (by rw[hA];rfl);exact .inr ⟨gi,hA,hgi,hri.of_block (hk gi this.1 this.2 hri.lt)⟩
 .by_cases h0:(N i).dn=0;.exact .inl h0
  .obtain⟨gi,hA,hgi,hri⟩:=(q.kids i hi).resolve_left h0;have:=hT.2.2.2 i hi h0 gi (by rw[hA];rfl);exact .inr ⟨gi,hA,hgi,hri.of_block (hk gi this.1 this.2 hri.lt)⟩
def AT (w:World) (B g n j k:Nat) (M:Nat->Nat) (T:Nat->Nat->Tn) (R:Nat->Nat):Prop:=
 g<B/\B<=R 0/\R k<=w.heap.size/\(∀i i',i<=i'->i'<=k->R i<=R i')/\∃cur:Array Value,Bx w g 73 cur/\cur.size=n/\∀i,j<=i->i<k->∃gi KA DA KC DC,cur[i]?=some (.slice (some (ad gi 0)) (M i) (M i))/\AE w (R i) gi (M i) (T i) KA DA KC DC/\U7 (R (i+1)) gi (M i) (T i) KA DA (R i)
theorem AT.rd {w:World} {B g n:Nat} {M:Nat->Nat} {T:Nat->Nat->Tn} {R:Nat->Nat} (h:AT w B g n 0 n M T R):Co w (some (ad g 0)) n M T:=by obtain⟨_,_,_,_,cur,h1,h2,h3⟩:=h;refine .inr ⟨g,0,rfl,λi hi=>?_⟩;obtain⟨gi,KA,DA,KC,DC,q1,q2,_⟩:=h3 i (Ww _) hi;exact⟨some (ad gi 0),M i,by rw[WM,h1.cell i];exact q1,q2.rd⟩
theorem AT.put {w1:World} {k:Nat} {T:Nat->Nat->Tn} (h:AT w B g n 0 k M T R) (hk:k<n) (hb:Bl w w1) {gk:Nat} {KA DA:Nat->Option Addr} (ho:AE w1 w.heap.size gk (M k) (T k) KA DA KC DC):∃R',AT (w1.setCell (ad g k) (.slice (some (ad gk 0)) (M k) (M k))) B g n 0 (k+1) M T R':=by
 obtain⟨hg,hB,hR,hm,cur,h1,h2,h3⟩:=h;have h1' : Bx w1 g 73 cur:=h1.below hb;have hs:=h1'.set k (.slice (some (ad gk 0)) (M k) (M k));have hz:=hb.size;have hR0:=hm 0 k (Ww _) (Wu _);have hbd:∀i',i'<=k->R i'<=w1.heap.size:=λi' hi=>by have:=hm i' k hi (Wu _);omega
 obtain⟨R',hR'⟩:∃R' : Nat->Nat,∀i,R' i=if i<=k then R i else w1.heap.size:=⟨_,λ_=>rfl⟩;refine⟨R',hg,by rw[hR',if_pos (Ww _)];exact hB,by rw[hR',if_neg (by omega),World.size_setCell];exact Wu _,λi i' hi hi'=>?_,_,hs,by simpa using h2,λi _ hi=>?_⟩
 .rw[hR',hR'];by_cases e:i'<=k;.rw[if_pos (by omega),if_pos e];exact hm i i' hi e
  .rw[if_neg e];by_cases e2:i<=k;.rw[if_pos e2];exact hbd i e2
   .rw[if_neg e2];exact Wu _
 .by_cases e:i=k
  .subst e;have q:=(ho.setO (p:=(ad g i)) (by show g<w.heap.size;omega) (.slice (some (ad gk 0)) (M i) (M i))).low hR;have qb:=q.bound;rw[World.size_setCell] at qb;refine⟨gk,KA,DA,KC,DC,by simp[h2,hk],?_,?_⟩;.rw[hR',if_pos (Wu _)];exact q
   .rw[hR',hR',if_neg (by omega),if_pos (Wu _)];exact qb
  .obtain⟨gi,KA',DA',KC',DC',q1,q2,q3⟩:=h3 i (Ww _) (by omega);have h0i:=hm 0 i (Ww _) (by omega);refine⟨gi,KA',DA',KC',DC',?_,?_,?_⟩;.rw[Array.getElem?_setIfInBounds_ne (by omega)];exact q1
   .rw[hR',if_pos (by omega)];exact (q2.und hb).setO (p:=(ad g k)) (by show g<R i;omega) _
   .rw[hR',hR',if_pos (by omega),if_pos (by omega)];exact q3
theorem AT.setO {w:World} {B g n:Nat} {M:Nat->Nat} {T:Nat->Nat->Tn} {R:Nat->Nat} (h:AT w B g n 0 n M T R) {p:Addr} (hp:p.block<g) (v:Value):AT (w.setCell p v) B g n 0 n M T R:=by obtain⟨hg,hB,hR,hm,cur,h1,h2,h3⟩:=h;refine⟨hg,hB,by rw[World.size_setCell];exact hR,hm,cur,(Wv _ _ _ _ (show g≠p.block by omega)).trans h1,h2,λi h0 hi=>?_⟩;obtain⟨gi,KA',DA',KC',DC',q1,q2,q3⟩:=h3 i h0 hi;have h0i:=hm 0 i (Ww _) (by omega);exact⟨gi,KA',DA',KC',DC',q1,q2.setO (by omega) _,q3⟩
theorem AT.below {w w' : World} {B g n:Nat} {M:Nat->Nat} {T:Nat->Nat->Tn} {R:Nat->Nat} (h:AT w B g n 0 n M T R) (hb:Bl w w'):AT w' B g n 0 n M T R:=by obtain⟨hg,hB,hR,hm,cur,h1,h2,h3⟩:=h;refine⟨hg,hB,WC hR hb.size,hm,cur,h1.below hb,h2,λi h0 hi=>?_⟩;obtain⟨gi,KA',DA',KC',DC',q1,q2,q3⟩:=h3 i h0 hi;exact⟨gi,KA',DA',KC',DC',q1,q2.und hb,q3⟩
theorem AT.next {j:Nat} {T:Nat->Nat->Tn} (h:AT w B g n j n M T R) (hj:j<n) (hw:En (R j) (R (j+1)) w w'):AT w' B g n (j+1) n M T R:=by obtain⟨hg,hB,hR,hm,cur,h1,h2,h3⟩:=h;have h0j:=hm 0 j (Ww _) (by omega);refine⟨hg,hB,WC hR hw.2.2.2.1,hm,cur,(hw.2.2.2.2 g h1.lt (.inl (by omega))).trans h1,h2,λi h0 hi=>?_⟩;obtain⟨gi,KA',DA',KC',DC',q1,q2,q3⟩:=h3 i (by omega) hi;have hji:=hm (j+1) i h0 (by omega);exact⟨gi,KA',DA',KC',DC',q1,q2.wit q3 (λb b1 b2 b3=>hw.2.2.2.2 b b3 (.inr (by omega))),q3⟩
theorem Ls (a:Option Addr) (m c:Nat) (M:Nat->Nat) (T:Nat->Nat->Tn) (w:World) (h:Co w a m M T) (hm:m<=1048576) (hN:CU m M T) :
  WS 38 #[.slice a m c] w λe w'=>e=.returned (.slice (some (ad w.heap.size 0)) m m)/\(∃R,AT w' (w.heap.size+1) w.heap.size m 0 m M T R)/\Bl w w':=by
 have hmk:∀w:World,(Instr.makeSlice 47 (iv (m:Int)) (iv (m:Int))).run Tryz.prog w=.ok (.slice (some (ad w.heap.size 0)) m m) (w.alloc (.cells (madeCells #[.slice none 0 0] m) 73)):=by intro w;obtain⟨i0,hi,hz0,hz1,hz2⟩:=info_parts Tryz.info73;have:=run_make (P:=Tryz.prog) w 47 73 i0 _ Tryz.underlying47 hi hz0 .i64 .i64 m m (by omega) (by omega) (by rw[hz2];omega) (by omega);rw[hz1,show (Value.agg #[.slice none 0 0]).cells=#[.slice none 0 0] from rfl,Nat.mul_one] at this;simpa using this
 have H0:U (∃R,AT (w.alloc (.cells (madeCells #[.slice none 0 0] m) 73)) (w.heap.size+1) w.heap.size m 0 0 M T R):=⟨λ_=>w.heap.size+1,by omega,Wu _,by simp,λ_ _ _ _=>Wu _,_,Bx.new w _ 73,by simp[madeCells],λi _ hi=>absurd hi (Wy _)⟩;have HR:=hid (ai h hN);clear h hN;go_enter Tryz.func38,Tryz.ntmps38;go_wp2;go_loopw [4] (λi wr=>∃(k:Nat),k<=m/\i=iv k/\(∃R,AT wr (w.heap.size+1) w.heap.size m 0 k M T R)/\Bl w wr) (λi _=>m-(intOf i).toNat)
 case atStart=>exact⟨0,Ww _,rfl,H0.o,Aa _ _⟩
 case round=>
  obtain⟨k,hk,rfl,hown,hbel⟩:=hrel;clear H0;by_cases hlt:k<m
  .have hne:¬ m=0:=by omega
   have h':=HR.o.1.below hbel;have HB:=hid hbel;have HO:=hid hown;have hsz:=hbel.size;rcases h' with h' | ⟨b,o,rfl,hc⟩;.exact absurd h' hne
   obtain⟨ai,ci,c0,c4⟩:=hc k hlt;have HL:=HR.o.2 k hlt;have HK:=hid c4;clear hc hbel hown hmk c4;go_wp2_with fail
   refine (NC ai (M k) ci (T k) _ HK.o HL.1 HL.2).mono ?_;rintro e w1 ⟨gk,KA,DA,KC,DC,rfl,hgk,ho1,hb1⟩;obtain⟨R,_,_,_,_,cur,q1,q2,_⟩:=HO.o;have q3:=q1.below hb1;obtain⟨u0,hu0⟩:∃u0,cur[k]?=some u0:=⟨_,Array.getElem?_eq_getElem (by omega)⟩;have hc1:w1.cell? (ad w.heap.size k)=some u0:=by rw[q3.cell k];exact hu0
   have hf1:=q3.frozen k;have hl1:=q3.lt;have HX:U ((∃R,AT (w1.setCell (ad w.heap.size k) (.slice (some (ad gk 0)) (M k) (M k))) (w.heap.size+1) w.heap.size m 0 (k+1) M T R)/\Bl w (w1.setCell (ad w.heap.size k) (.slice (some (ad gk 0)) (M k) (M k)))):=by obtain⟨R,hO⟩:=HO.o;exact⟨hO.put hlt hb1 ho1,(HB.o.trans (hb1.mono hsz)).setCell (Wu _) _⟩
   clear ho1 hb1 HO HB c0 q1 q2 q3 hu0;go_wp2;go_roundw;case rel=>exact⟨k+1,by omega,by go_num,HX.o⟩
   case measure=>simp[intOf];omega
  .have e:k=m:=by omega
   subst e;have HO:=hid hown;clear hown;go_wp2;go_ret;exact⟨rfl,HO.o,hbel⟩
theorem Lc (a:Option Addr) (m c:Nat) (M:Nat->Nat) (T:Nat->Nat->Tn) (w:World) (h:Co w a m M T) (hm:m<=1048576) (hN:CU m M T) :
  WS 10 #[.agg #[.slice a m c]] w λe w'=>∃g R,e=.returned (.agg #[.slice (some (ad g 0)) m m])/\w.heap.size<=g/\AT w' (g+1) g m 0 m M T R/\Bl w w':=by
 have HH:U ((∀o1 o2 o3,Bl w (((w.alloc o1).alloc o2).alloc o3))/\(∀o1 o2 o3,(((w.alloc o1).alloc o2).alloc o3).heap.size=w.heap.size+3)/\Co w a m M T/\CU m M T):=⟨λo1 o2 o3=>(((Aa _ _).alloc (by simp) _).alloc (by simp;omega) _),λo1 o2 o3=>by simp,h,hN⟩;clear h hN;go_enter Tryz.func10,Tryz.ntmps10;go_wp2_with fail
 refine (Ls a m c M T _ (HH.o.2.2.1.below (HH.o.1 _ _ _)) hm HH.o.2.2.2).mono ?_;rintro e w1 ⟨rfl,⟨R,ho1⟩,hb1⟩;try unfold Bl at ho1
 try unfold Bl at hb1
 rw[HH.o.2.1] at ho1 hb1 ⊢;have hz:w.heap.size+2<w1.heap.size:=by have:=hb1.size;rw[HH.o.2.1] at this;omega
 have hc:=λb o hb=>hb1.cell (p:=(ad b o)) hb;have hfz:=λb o hb=>hb1.frozen (p:=(ad b o)) hb;have HE:=hid (ai ho1 ((HH.o.1 _ _ _).trans (hb1.mono (by omega))));clear ho1 hb1;go_wp2;refine bodyPost_ret (v:=.agg #[.slice (some (ad (w.heap.size+3) 0)) m m]) (by simp[results,Tryz.results10,go_sem,hc]) rfl ⟨_,R,rfl,by omega,?_,?_⟩;.exact (HE.o.1.setO (p:=(ad (w.heap.size+2) 0)) (by simp) _).setO (p:=(ad (w.heap.size+1) 0)) (by simp) _
 .exact (HE.o.2.setCell (by simp;try omega) _).setCell (by simp;try omega) _
theorem Og (M:Nat->Nat) (T:Nat->Nat->Tn):∀(m j:Nat),j<=m->Cb M T j<=Cb M T m
 | 0,j,h=>by
  have:j=0:=by omega
  subst this
  exact Wu _
 | m+1,j,h=>by
  by_cases e:j=m+1
  .subst e;exact Wu _
  .have:=Og M T m j (by omega)
   have e2:Cb M T (m+1)=Cb M T m+M m+B4 (T m) (M m):=rfl
   omega
theorem En.wide {T':Nat} (h:En B T w w') (h1:B'<=B) (h2:T<=T'):En B' T' w w':=⟨h.1,h.2.1,h.2.2.1,h.2.2.2.1,λk hk ho=>h.2.2.2.2 k hk (by omega)⟩
variable {j:Nat}
def DY (w:World) (g n:Nat):Prop:=∃I X R,Ai w g 131 (n*3) (Az I X R)
theorem DY.cells (h:DY w g n) (hj:j<n):∃(i:Int) (x:ByteArray) (r:Int),w.cell? (ad g (j*3))=some (iv i)/\w.cell? (ad g (j*3+1))=some (.string x)/\w.cell? (ad g (j*3+2))=some (iv r)/\(∀o,w.frozen? (ad g o)=false)/\g<w.heap.size:=by
 obtain⟨I,X,R,h⟩:=h;refine⟨I j,X j,R j,?_,?_,?_,h.frozen,h.lt⟩;.have:=h.cell (i:=j*3) (by omega);rwa [Bt] at this
 .have:=h.cell (i:=j*3+1) (by omega);rwa [Bv] at this
 .have:=h.cell (i:=j*3+2) (by omega);rwa [Bu] at this
theorem DY.below {w':World} (h:DY w g n) (hb:Bl w w'):DY w' g n:=by obtain⟨I,X,R,h⟩:=h;exact⟨I,X,R,h.of_block (hb.block g h.lt)⟩
theorem DY.set0 (h:DY w g n) (v:Int):DY (w.setCell (ad g (j*3)) (iv v)) g n:=by
 obtain⟨I,X,R,h⟩:=h;refine⟨λi=>if i=j then v else I i,X,R,(h.set (j*3) _).congr (λc hc=>?_)⟩;obtain⟨q,hq⟩:∃q,c=q*3\/c=q*3+1\/c=q*3+2:=⟨c / 3,by omega⟩;rcases hq with rfl|rfl|rfl
 .rw[Bt,Bt];by_cases e:q=j;.subst e;rw[if_pos rfl,if_pos rfl]
  .rw[if_neg (by omega),if_neg e]
 .rw[if_neg (by omega),Bv,Bv]
 .rw[if_neg (by omega),Bu,Bu]
theorem DY.set1 (h:DY w g n) (v:ByteArray):DY (w.setCell (ad g (j*3+1)) (.string v)) g n:=by
 obtain⟨I,X,R,h⟩:=h;refine⟨I,λi=>if i=j then v else X i,R,(h.set (j*3+1) _).congr (λc hc=>?_)⟩;obtain⟨q,hq⟩:∃q,c=q*3\/c=q*3+1\/c=q*3+2:=⟨c / 3,by omega⟩;rcases hq with rfl|rfl|rfl;.rw[if_neg (by omega),Bt,Bt]
 .rw[Bv,Bv];by_cases e:q=j;.subst e;rw[if_pos rfl,if_pos rfl]
  .rw[if_neg (by omega),if_neg e]
 .rw[if_neg (by omega),Bu,Bu]
theorem DY.set2 (h:DY w g n) (v:Int):DY (w.setCell (ad g (j*3+2)) (iv v)) g n:=by
 obtain⟨I,X,R,h⟩:=h;refine⟨I,X,λi=>if i=j then v else R i,(h.set (j*3+2) _).congr (λc hc=>?_)⟩;obtain⟨q,hq⟩:∃q,c=q*3\/c=q*3+1\/c=q*3+2:=⟨c / 3,by omega⟩;rcases hq with rfl|rfl|rfl;.rw[if_neg (by omega),Bt,Bt]
 .rw[if_neg (by omega),Bv,Bv]
 .rw[Bu,Bu];by_cases e:q=j;.subst e;rw[if_pos rfl,if_pos rfl]
  .rw[if_neg (by omega),if_neg e]
theorem Jm (x0:Int) (g n c:Nat) (w:World) (hx0:1<=x0/\x0<=100000000) (h:DI w g n) (hn:n<=1048577) :
  WS 52 #[.slice (some (ad g 0)) n c,iv x0] w λe w'=>e=.returned (iv (x0+3*(n:Int)))/\w.grownBy w' (some g):=by
 have HR:=hid h;clear h;go_enter Tryz.func52,Tryz.ntmps52;go_wp2;go_loopw [1,5] (λq i wr=>∃(j:Nat) (x:Int),j<=n/\i=iv j/\q=iv x/\x=x0+3*(j:Int)/\DI wr g n/\w.grownBy wr (some g)) (λ_ i _=>n-(intOf i).toNat)
 case atStart=>exact⟨0,x0,Ww _,rfl,rfl,by omega,HR.o,⟨rfl,rfl,rfl,Wu _,λ_ _ _=>rfl⟩⟩
 case round=>
  obtain⟨j,x,hj,rfl,rfl,hx,hrow,hgr⟩:=hrel;have HX:=hid hx;have HW:=hid (ai hrow hgr);have hx2:1<=x:=by omega
  have hx1:x<=200000000:=by omega
  clear hx hrow hgr;by_cases hlt:j<n
  .obtain⟨i9,x9,r9,c0,c1,c2,hfz,hgl⟩:=HW.o.1.cells hlt;obtain⟨W1,hW1⟩:=gn (wr.setCell (ad g (j*3)) (iv x));have HW1:U (DI W1 g n/\w.grownBy W1 (some g)):=by rw[hW1];exact⟨HW.o.1.set0 x,AR HW.o.2 CA⟩
   clear c1 c2;go_upto_region 6 with fail
   rw[<- hW1];clear hW1 c0 hfz hgl HW i9 x9 r9;go_wp2_with fail
   refine (Fl (x+1) W1 (by omega) (by omega)).mono ?_;rintro e w2 ⟨y2,rfl,hb2⟩;have HW2:=hid (ai (HW1.o.1.below hb2) (AR HW1.o.2 (Cd hb2 _)));clear hb2 HW1;obtain⟨i9,x9,r9,c0,c1,c2,hfz,hgl⟩:=HW2.o.1.cells hlt;obtain⟨W3,hW3⟩:=gn (w2.setCell (ad g (j*3+1)) (.string y2));have HW3:U (DI W3 g n/\w.grownBy W3 (some g)):=by rw[hW3];exact⟨HW2.o.1.set1 y2,AR HW2.o.2 CA⟩
   clear c0 c2;go_upto_region 8 with fail
   rw[<- hW3];clear hW3 c1 hfz hgl HW2 i9 x9 r9;go_wp2_with fail
   refine (Fl (x+1+1) W3 (by omega) (by omega)).mono ?_;rintro e w4 ⟨y4,rfl,hb4⟩;have HW4:=hid (ai (HW3.o.1.below hb4) (AR HW3.o.2 (Cd hb4 _)));clear hb4 HW3;obtain⟨i9,x9,r9,c0,c1,c2,hfz,hgl⟩:=HW4.o.1.cells hlt;have HZ:U (DI (w4.setCell (ad g (j*3+2)) (.string y4)) g n/\w.grownBy (w4.setCell (ad g (j*3+2)) (.string y4)) (some g)):=⟨HW4.o.1.set2 y4,AR HW4.o.2 CA⟩;clear c0 c1 HW4;go_wp2;go_roundw;case rel=>exact⟨j+1,_,by omega,by go_num,rfl,by rw[HX.o];omega,HZ.o⟩
   case measure=>simp[intOf];omega
  .obtain rfl:j=n:=by omega
   go_wp2;go_ret;exact⟨by rw[HX.o];rfl,HW.o.2⟩
theorem JP (x0:Int) (g n c:Nat) (w:World) (hx0:1<=x0/\x0<=100000000) (h:DI w g n) (hn:n<=1048577) :
  WS 18 #[.agg #[.slice (some (ad g 0)) n c],iv x0] w λe w'=>e=.returned (iv (x0+3*(n:Int)))/\w.grownBy w' (some g):=by
 have HR:=hid h;clear h;go_enter Tryz.func18,Tryz.ntmps18;go_wp2_with fail
 refine (Jm x0 g n c _ hx0 (HR.o.below (Aa _ _)) hn).mono ?_;rintro e w1 ⟨rfl,hg⟩;have HG:=hid (AR (Cd (Aa _ _) _) hg);clear hg;go_wp2;go_ret;exact⟨rfl,HG.o⟩
theorem JL (x0:Int) (g n c:Nat) (w:World) (hx0:1<=x0/\x0<=100000000) (h:DY w g n) (hn:n<=1048577) :
  WS 53 #[.slice (some (ad g 0)) n c,iv x0] w λe w'=>e=.returned (iv (x0+3*(n:Int)))/\w.grownBy w' (some g):=by
 have HR:=hid h;clear h;go_enter Tryz.func53,Tryz.ntmps53;go_wp2;go_loopw [1,5] (λq i wr=>∃(j:Nat) (x:Int),j<=n/\i=iv j/\q=iv x/\x=x0+3*(j:Int)/\DY wr g n/\w.grownBy wr (some g)) (λ_ i _=>n-(intOf i).toNat)
 case atStart=>exact⟨0,x0,Ww _,rfl,rfl,by omega,HR.o,⟨rfl,rfl,rfl,Wu _,λ_ _ _=>rfl⟩⟩
 case round=>
  obtain⟨j,x,hj,rfl,rfl,hx,hrow,hgr⟩:=hrel;have HX:=hid hx;have HW:=hid (ai hrow hgr);have hx2:1<=x:=by omega
  have hx1:x<=200000000:=by omega
  clear hx hrow hgr;by_cases hlt:j<n
  .obtain⟨i9,x9,r9,c0,c1,c2,hfz,hgl⟩:=HW.o.1.cells hlt;obtain⟨W1,hW1⟩:=gn (wr.setCell (ad g (j*3)) (iv x));have HW1:U (DY W1 g n/\w.grownBy W1 (some g)):=by rw[hW1];exact⟨HW.o.1.set0 x,AR HW.o.2 CA⟩
   clear c1 c2;go_upto_region 6 with fail
   rw[<- hW1];clear hW1 c0 hfz hgl HW i9 x9 r9;go_wp2_with fail
   refine (Fl (x+1) W1 (by omega) (by omega)).mono ?_;rintro e w2 ⟨y2,rfl,hb2⟩;have HW2:=hid (ai (HW1.o.1.below hb2) (AR HW1.o.2 (Cd hb2 _)));clear hb2 HW1;obtain⟨i9,x9,r9,c0,c1,c2,hfz,hgl⟩:=HW2.o.1.cells hlt;have HZ:U (DY ((w2.setCell (ad g (j*3+1)) (.string y2)).setCell (ad g (j*3+2)) (iv (x+1+1))) g n/\w.grownBy ((w2.setCell (ad g (j*3+1)) (.string y2)).setCell (ad g (j*3+2)) (iv (x+1+1))) (some g)):=⟨(HW2.o.1.set1 y2).set2 _,AR (AR HW2.o.2 CA) CA⟩;clear c0 HW2;go_wp2;go_roundw;case rel=>exact⟨j+1,_,by omega,by go_num,rfl,by rw[HX.o];omega,HZ.o⟩
   case measure=>simp[intOf];omega
  .obtain rfl:j=n:=by omega
   go_wp2;go_ret;exact⟨by rw[HX.o];rfl,HW.o.2⟩
theorem JJ (x0 next:Int) (g n c:Nat) (w:World) (hx0:1<=x0/\x0<=100000000) (h:DY w g n) (hn:n<=1048577) :
  WS 19 #[.agg #[iv next,.slice (some (ad g 0)) n c],iv x0] w λe w'=>e=.returned (iv (x0+3*(n:Int)))/\w.grownBy w' (some g):=by
 have HR:=hid h;clear h;go_enter Tryz.func19,Tryz.ntmps19;go_wp2_with fail
 refine (JL x0 g n c _ hx0 (HR.o.below (Aa _ _)) hn).mono ?_;rintro e w1 ⟨rfl,hg⟩;have HG:=hid (AR (Cd (Aa _ _) _) hg);clear hg;go_wp2;go_ret;exact⟨rfl,HG.o⟩
theorem JE (x0:Int) (p0:Nat) (hp0' : x0=(p0:Int)) (hp1' : 1<=p0/\p0<=100000000) (B g n c:Nat) (M:Nat->Nat) (T:Nat->Nat->Tn) (R:Nat->Nat) (w:World) (h:AT w B g n 0 n M T R) (hs:n+Cb M T n<=1048576) :
  WS 54 #[.slice (some (ad g 0)) n c,iv x0] w λe w'=>∃p:Nat,e=.returned (iv (p:Int))/\En (R 0) (R n) w w'/\1<=p/\p<=p0+2*Cb M T n:=by
 subst hp0';have HR:=hid h;clear h;go_enter Tryz.func54,Tryz.ntmps54;go_wp2;go_loopw [1,5] (λq i wr=>∃j p:Nat,j<=n/\i=iv j/\q=iv p/\1<=p/\p<=p0+2*Cb M T j/\AT wr B g n j n M T R/\En (R 0) (R n) w wr) (λ_ i _=>n-(intOf i).toNat)
 case atStart=>exact⟨0,p0,Ww _,rfl,rfl,hp1'.1,by omega,HR.o,En.refl _ _ _⟩
 case round=>
  obtain⟨j,p,hj,rfl,rfl,hp0,hp1,ho,hw⟩:=hrel;clear HR;have HW:=hid hw;clear hw;by_cases hlt:j<n
  .have hsum:Cb M T (j+1)=Cb M T j+M j+B4 (T j) (M j):=rfl;have hsl:=Og M T n (j+1) (by omega);have HO:=hid ho;obtain⟨hg,hB,hRn,hm,cur,h1,h2,h3⟩:=ho;obtain⟨gi,KA,DA,KC,DC,q1,q2,q3⟩:=h3 j (Wu _) hlt;have HM:U (Ff wr (R j) gi (M j) (T j) KA DA KC DC/\U7 (R (j+1)) gi (M j) (T j) KA DA (R j)):=⟨⟨T j,q2,λ_=>⟨rfl,rfl⟩⟩,q3⟩;have HWd:=hid (ai (hm 0 j (Ww _) (by omega)) (hm (j+1) n hlt (Wu _)));have c1:=h1.cell j;rw[q1] at c1;have i0:(0:Int)<=(j:Int):=by omega
   have i1:(j:Int)<(n:Int):=by omega
   have hjb:j<1073741824:=by omega
   obtain⟨Mj,hMj⟩:=gn (M j);obtain⟨Sj,hSj⟩:=gn (B4 (T j) (M j));have HC:U (WS 106 #[.slice (some (ad gi 0)) Mj Mj,iv (p:Int)] wr λe w'=>∃p' : Nat,e=.returned (iv (p' : Int))/\En (R j) (R (j+1)) wr w'/\p'=p+2*Mj+Sj):=by rw[hMj,hSj];exact IA (R j) (R (j+1)) gi (M j) (M j) p (T j) KA DA KC DC wr HM.o.1 HM.o.2 hp0 (by omega)
   rw[<- hMj] at c1;have HP:U (p+2*Mj+Sj<=p0+2*Cb M T (j+1)):=by show _<=_;omega
   clear hg hB hRn hm h1 h2 h3 q1 q2 q3 HM hsum hsl hMj hSj;go_wp2_with fail
   (with_reducible refine HC.o.mono ?_)
   rintro e w1 ⟨p',rfl,hw1,hp'⟩;have HX:=hid (ai (HO.o.next hlt hw1) (HW.o.trans (hw1.wide HWd.o.1 HWd.o.2)));have HP' : U (1<=p'/\p'<=p0+2*Cb M T (j+1)):=⟨by omega,by rw[hp'];exact HP.o⟩;clear hw1 HC HO HW c1 hp' HP;go_wp2;go_roundw;case rel=>exact⟨j+1,p',by omega,by go_num,rfl,HP'.o.1,HP'.o.2,HX.o⟩
   case measure=>simp[intOf];omega
  .have e:j=n:=by omega
   subst e;have HP:=hid (ai hp0 hp1);clear ho;go_wp2;go_ret;exact⟨p,rfl,HW.o,HP.o⟩
theorem Iu (x0:Int) (p0:Nat) (hp0' : x0=(p0:Int)) (hp1' : 1<=p0/\p0<=100000000) (B g n c:Nat) (M:Nat->Nat) (T:Nat->Nat->Tn) (R:Nat->Nat) (w:World) (h:AT w B g n 0 n M T R) (hs:n+Cb M T n<=1048576) :
  WS 20 #[.agg #[.slice (some (ad g 0)) n c],iv x0] w λe w'=>∃p:Nat,e=.returned (iv (p:Int))/\En (R 0) (R n) w w'/\1<=p/\p<=p0+2*Cb M T n:=by
 subst hp0';have HR:U (∀O:Obj,AT (w.alloc O) B g n 0 n M T R/\En (R 0) (R n) w (w.alloc O)):=λO=>⟨h.below (Aa _ _),En.grown (Ak (r:=none) (Aa _ _)) (λb e=>by cases e)⟩;clear h;go_enter Tryz.func20,Tryz.ntmps20;go_wp2_with fail
 (with_reducible refine (JE _ p0 rfl hp1' B g n c M T R _ (HR.o _).1 hs).mono ?_)
 rintro e w1 ⟨p,rfl,hw,hp⟩;have HW:=hid (ai ((HR.o _).2.trans hw) hp);clear hw hp;go_wp2;go_ret;exact⟨p,rfl,HW.o⟩
theorem Mf (a:Option Addr) (n c:Nat) (I:Nat->Int) (X:Nat->ByteArray) (R:Nat->ByteArray) (l:Int) (w:World) (h:DP w a n I X R) (hn:n<=maxLen) (hX:∀i,i<n->(X i).size<=maxLen/\(R i).size<=maxLen) (h0:0<=l) (h1:l<=1048576) :
  WS 24 #[.slice a n c,iv l] w λe w'=>∃r:Int,e=.returned (iv r)/\(r=-1\/((0<=r/\r<=1048576)/\n<=1048576))/\Bl w w':=by
 unfold maxLen at hn;by_cases hneg:l-(n:Int)<0;.go_enter Tryz.func24,Tryz.ntmps24;go_wp2;go_ret;exact⟨-1,rfl,Or.inl rfl,Wt _ _⟩
 .go_enter Tryz.func24,Tryz.ntmps24;go_wp2;go_loopw [1,5] (λq i wr=>∃(k:Nat) (l' : Int),k<=n/\i=iv k/\q=iv l'/\0<=l'/\l'<=1048576/\Bl w wr) (λ_ i _=>n-(intOf i).toNat)
  case atStart=>exact⟨0,_,Ww _,rfl,rfl,by omega,by omega,Wt _ _⟩
  case round=>
   obtain⟨k,l',hk,rfl,rfl,hl0,hl1,hbel⟩:=hrel;by_cases hlt:k<n
   .have hne:¬ n=0:=by omega
    have h':=h.below hbel;have HB:=hid hbel;have hsz:=hbel.size;rcases h' with h' | ⟨b,o,rfl,hc⟩;.exact absurd h' hne
    obtain⟨c1,c2,c3⟩:=hc k hlt;have HX:=hX k hlt;clear hc h hbel hX;go_wp2_with fail
    refine (Mw (I k) (X k) (R k) l' _ HX.1 HX.2 hl0 hl1).mono ?_;rintro e w1 ⟨q,rfl,hq,hb1⟩;have HB1:=hid (HB.o.trans (hb1.mono (by simpa using hsz)));clear hb1 c1 c2 c3;rcases hq with rfl|⟨hq0,hq1⟩;.go_wp2;go_ret;exact⟨-1,rfl,Or.inl rfl,HB1.o⟩
    .have hq2:¬ q<0:=by omega
     go_wp2;go_roundw;case rel=>exact⟨k+1,q,by omega,by go_num,rfl,hq0,hq1,HB1.o⟩
     case measure=>simp[intOf];omega
   .have e:k=n:=by omega
    subst e;go_wp2;go_ret;exact⟨l',rfl,Or.inr ⟨⟨hl0,hl1⟩,by omega⟩,hbel⟩
theorem OJ (a:Option Addr) (n c:Nat) (I:Nat->Int) (X:Nat->ByteArray) (R:Nat->ByteArray) (l:Int) (w:World) (h:DP w a n I X R) (hn:n<=maxLen) (hX:∀i,i<n->(X i).size<=maxLen/\(R i).size<=maxLen) (h0:0<=l) (h1:l<=1048576) :
  WS 4 #[.agg #[.slice a n c],iv l] w λe w'=>∃r:Int,e=.returned (iv r)/\(r=-1\/((0<=r/\r<=1048576)/\n<=1048576))/\Bl w w':=by
 go_enter Tryz.func4,Tryz.ntmps4;go_wp2_with fail
 refine (Mf a n c I X R l _ (h.below (Aa _ _)) hn hX h0 h1).mono ?_;rintro e w1 ⟨r,rfl,hr,hb1⟩;have HB1:=hid ((Aa _ _).trans (hb1.mono (by simp)));clear hb1;rcases hr with rfl|⟨⟨hr,hr9⟩,hrn⟩;.go_wp2;go_ret;exact⟨-1,rfl,Or.inl rfl,HB1.o⟩
 .have hr1:¬ r<0:=by omega
  go_wp2;go_ret;exact⟨r,rfl,Or.inr ⟨⟨hr,hr9⟩,hrn⟩,HB1.o⟩
variable {I:Nat->Int}{X:Nat->ByteArray}
theorem Lr (a:Option Addr) (n c:Nat) (I:Nat->Int) (X:Nat->ByteArray) (R:Nat->Int) (l:Int) (w:World) (h:E0 w a n I X R) (hn:n<=maxLen) (hX:∀i,i<n->(X i).size<=maxLen) (h0:0<=l) (h1:l<=1048576) :
  WS 25 #[.slice a n c,iv l] w λe w'=>∃r:Int,e=.returned (iv r)/\(r=-1\/((0<=r/\r<=1048576)/\n<=1048576))/\Bl w w':=by
 unfold maxLen at hn;by_cases hneg:l-(n:Int)<0;.go_enter Tryz.func25,Tryz.ntmps25;go_wp2;go_ret;exact⟨-1,rfl,Or.inl rfl,Wt _ _⟩
 .go_enter Tryz.func25,Tryz.ntmps25;go_wp2;go_loopw [1,5] (λq i wr=>∃(k:Nat) (l' : Int),k<=n/\i=iv k/\q=iv l'/\0<=l'/\l'<=1048576/\Bl w wr) (λ_ i _=>n-(intOf i).toNat)
  case atStart=>exact⟨0,_,Ww _,rfl,rfl,by omega,by omega,Wt _ _⟩
  case round=>
   obtain⟨k,l',hk,rfl,rfl,hl0,hl1,hbel⟩:=hrel;by_cases hlt:k<n
   .have hne:¬ n=0:=by omega
    have h':=h.below hbel;have HB:=hid hbel;have hsz:=hbel.size;rcases h' with h' | ⟨b,o,rfl,hc⟩;.exact absurd h' hne
    obtain⟨c1,c2,c3⟩:=hc k hlt;have HX:=hX k hlt;clear hc h hbel hX;go_wp2_with fail
    refine (No (I k) (R k) (X k) l' _ HX hl0 hl1).mono ?_;rintro e w1 ⟨q,rfl,hq,hb1⟩;have HB1:=hid (HB.o.trans (hb1.mono (by simpa using hsz)));clear hb1 c1 c2 c3;rcases hq with rfl|⟨hq0,hq1⟩;.go_wp2;go_ret;exact⟨-1,rfl,Or.inl rfl,HB1.o⟩
    .have hq2:¬ q<0:=by omega
     go_wp2;go_roundw;case rel=>exact⟨k+1,q,by omega,by go_num,rfl,hq0,hq1,HB1.o⟩
     case measure=>simp[intOf];omega
   .have e:k=n:=by omega
    subst e;go_wp2;go_ret;exact⟨l',rfl,Or.inr ⟨⟨hl0,hl1⟩,by omega⟩,hbel⟩
theorem MB (next:Int) (a:Option Addr) (n c:Nat) (I:Nat->Int) (X:Nat->ByteArray) (R:Nat->Int) (l:Int) (w:World) (h:E0 w a n I X R) (hn:n<=maxLen) (hX:∀i,i<n->(X i).size<=maxLen) (h0:0<=l) (h1:l<=1048576) :
  WS 5 #[.agg #[iv next,.slice a n c],iv l] w λe w'=>∃r:Int,e=.returned (iv r)/\(r=-1\/((0<=r/\r<=1048576)/\n<=1048576))/\Bl w w':=by
 go_enter Tryz.func5,Tryz.ntmps5;go_wp2_with fail
 refine (Lr a n c I X R l _ (h.below (Aa _ _)) hn hX h0 h1).mono ?_;rintro e w1 ⟨r,rfl,hr,hb1⟩;have HB1:=hid ((Aa _ _).trans (hb1.mono (by simp)));clear hb1;rcases hr with rfl|⟨⟨hr,hr9⟩,hrn⟩;.go_wp2;go_ret;exact⟨-1,rfl,Or.inl rfl,HB1.o⟩
 .have hr1:¬ r<0:=by omega
  go_wp2;go_ret;exact⟨r,rfl,Or.inr ⟨⟨hr,hr9⟩,hrn⟩,HB1.o⟩
theorem Ld (a:Option Addr) (m c:Nat) (M:Nat->Nat) (T:Nat->Nat->Tn) (l:Int) (w:World) (hl0:0<=l) (hl1:l<=1048576) (h:Co w a m M T) (hm:m<=maxLen) (hN:∀i,i<m->M i<=maxLen/\∀j,j<M i->Em (T i j)) :
  WS 6 #[.agg #[.slice a m c],iv l] w λe w'=>∃r:Int,e=.returned (iv r)/\(r=-1\/(0<=r/\m+Cb M T m<=1048576))/\Bl w w':=by
 have HR:=hid (ai h hN);clear h hN;go_enter Tryz.func6,Tryz.ntmps6;go_wp2_with fail
 refine (Mz a m c M T l _ (HR.o.1.below (Aa _ _)) hm HR.o.2 hl0 hl1).mono ?_;rintro e w1 ⟨r,rfl,hr,hb1⟩;have H1:=hid ((Aa _ _).trans (hb1.mono (by simp)));clear hb1;rcases hr with rfl|⟨hr0,hr1⟩;.go_wp2;go_ret;exact⟨-1,rfl,Or.inl rfl,H1.o⟩
 .have hr2:¬ r<0:=by omega
  have HF:U (m+Cb M T m<=1048576):=by show m+Cb M T m<=1048576;omega
  clear hr1;go_wp2;go_ret;exact⟨r,rfl,Or.inr ⟨hr0,HF.o⟩,H1.o⟩
theorem AT.stay {w':World} {B j:Nat} {M:Nat->Nat} {T:Nat->Nat->Tn} {R:Nat->Nat} (h:AT w B g n j n M T R) (hs:w.heap.size<=w'.heap.size) (hk:∀b,g<=b->b<w.heap.size->w'.heap[b]?=w.heap[b]?):AT w' B g n j n M T R:=by obtain⟨h1,h2,h3,h4,cur,h5,h6,h7⟩:=h;refine⟨h1,h2,WC h3 hs,h4,cur,(hk g (Wu _) h5.lt).trans h5,h6,λi hi1 hi2=>?_⟩;obtain⟨gi,KA,DA,KC,DC,q1,q2,q3⟩:=h7 i hi1 hi2;refine⟨gi,KA,DA,KC,DC,q1,q2.wit q3 (λb hb1 hb2 hb3=>hk b ?_ hb3),q3⟩;have:=h4 0 i (Ww _) (by omega);omega
theorem Sc {R:Nat->ByteArray} (h:Ai w g 97 (n*3) (AX I X R)):DI w g n:=⟨I,X,R,h⟩
theorem Sg {R:Nat->Int} (h:Ai w g 131 (n*3) (Az I X R)):DY w g n:=⟨I,X,R,h⟩
def K3 (w:World) (a:Option Addr) (n c:Nat) (next:Int) (da:Option Addr) (dn dc:Nat) (xa:Option Addr) (xn xc:Nat) (W:World):Prop:=Below (w.heap.size+3) (((w.alloc (.cells #[.slice a n c] 24)).alloc (.cells #[iv next,.slice da dn dc] 27)).alloc (.cells #[.slice xa xn xc] 30)) W
section
variable {w W W' : World} {a:Option Addr} {n c:Nat} {next:Int} {da:Option Addr} {dn dc:Nat} {xa:Option Addr} {xn xc:Nat}
theorem K3.size (h:K3 w a n c next da dn dc xa xn xc W):w.heap.size+3<=W.heap.size:=by have:=Below.size h;simpa using this
theorem K3.on (h:K3 w a n c next da dn dc xa xn xc W) (hb:Bl W W'):K3 w a n c next da dn dc xa xn xc W':=Below.trans h (hb.mono h.size)
theorem K3.below (h:K3 w a n c next da dn dc xa xn xc W):Bl w W:=(((Aa _ _).alloc (by simp) _).alloc (by simp;omega) _).trans (Below.mono h (by omega))
theorem K3.cells (h:K3 w a n c next da dn dc xa xn xc W):W.cell? (ad w.heap.size 0)=some (.slice a n c)/\(W.cell? (ad (w.heap.size+1) 0)=some (iv next)/\W.cell? (ad (w.heap.size+1) 1)=some (.slice da dn dc))/\W.cell? (ad (w.heap.size+2) 0)=some (.slice xa xn xc):=by have b1:=((Bx.new w #[.slice a n c] 24).alloc (.cells #[iv next,.slice da dn dc] 27)).alloc (.cells #[.slice xa xn xc] 30);have b2:=(Bx.new (w.alloc (.cells #[.slice a n c] 24)) #[iv next,.slice da dn dc] 27).alloc (.cells #[.slice xa xn xc] 30);have b3:=Bx.new ((w.alloc (.cells #[.slice a n c] 24)).alloc (.cells #[iv next,.slice da dn dc] 27)) #[.slice xa xn xc] 30;simp only[WJ] at b2 b3;have c1:Bx W w.heap.size 24 #[.slice a n c]:=(Below.block h _ (by omega)).trans b1;have c2:Bx W (w.heap.size+1) 27 #[iv next,.slice da dn dc]:=(Below.block h _ (by omega)).trans b2;have c3:Bx W (w.heap.size+2) 30 #[.slice xa xn xc]:=(Below.block h _ (by omega)).trans b3;exact⟨c1.cell 0,⟨c2.cell 0,c2.cell 1⟩,c3.cell 0⟩
end
end Go.Proofs.YtacpbofiipdodaaGreat
