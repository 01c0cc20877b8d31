import Derived.Test.YtacpbofiipdodaaGreatNv7
set_option linter.unusedVariables false
set_option linter.unusedSimpArgs false
set_option maxRecDepth 100000
set_option maxHeartbeats 90000000
namespace Go.Proofs.YtacpbofiipdodaaGreat
open Go Go.Deep Go.RowKit
theorem J8 (x:Int) (k:Nat) (h:x=(k:Int)) (w:World) (hk:1<=k) (hk2:k<=1073741824) :
  WS 105 #[iv x] w (WT w (.string (Ln k))):=by subst h;exact FO k w hk hk2
def DL (w:World) (t:TypeId) (a:Option Addr) (n:Nat) (f:Nat->Value):Prop:=n=0\/∃g,a=some (ad g 0)/\Ai w g t n f
theorem FJ (a:Option Addr) (n c k:Nat) (X:Nat->ByteArray) (w:World) (h:DL w 9 a n (λi=>.string (X i))) (hk:1<=k) (hk2:k+n<=1073741824) :
  WS 55 #[.slice a n c,iv (k:Int)] w λe w'=>e=.returned (iv ((k+n:Nat):Int))/\w.grownBy w' (a.map (·.block))/\(n=0->w'=w)/\DL w' 9 a n (λi=>.string (Ln (k+i))):=by
 by_cases hn0:n=0
 .subst hn0;go_enter Tryz.func55,Tryz.ntmps55;go_wp2;go_loopw [1,5] (λq i wr=>q=iv (k:Int)/\i=iv 0/\wr=w) (λ_ i _=>1-(intOf i).toNat)
  case atStart=>exact⟨rfl,rfl,rfl⟩
  case round=>obtain⟨rfl,rfl,rfl⟩:=hrel;go_wp2;go_ret;exact⟨by simp,Bw _ _,λ_=>rfl,.inl rfl⟩
 .obtain⟨g,rfl,hrow⟩:=h.resolve_left hn0;have HR:=hid hrow;clear hrow h;have HN0:=hid hn0;clear hn0;go_enter Tryz.func55,Tryz.ntmps55;go_wp2;go_loopw [1,5] (λq i wr=>∃j p:Nat,j<=n/\i=iv j/\q=iv p/\p=k+j/\w.grownBy wr (some g)/\Ai wr g 9 n (λi=>.string (if i<j then Ln (k+i) else X i))) (λ_ i _=>n-(intOf i).toNat)
  case atStart=>exact⟨0,k,Ww _,rfl,rfl,rfl,Bw _ _,HR.o.congr (λi _=>by simp)⟩
  case round=>
   obtain⟨j,p,hj,rfl,rfl,hp,hgr,hrow⟩:=hrel;have HS:=hid (ai hp (ai hgr hrow));by_cases hlt:j<n
   .have hpb:1<=p/\p<=1073741824:=by omega
    have i0:(0:Int)<=(j:Int):=by omega
    have i1:(j:Int)<(n:Int):=by omega
    clear hp hgr hrow HR;go_wp2_with fail
    refine (J8 _ p rfl wr hpb.1 hpb.2).mono ?_;rintro e w1 ⟨rfl,hb1⟩;have hrow1:=HS.o.2.2.of_block (hb1.block g HS.o.2.2.lt);have c1:=hrow1.cell hlt;have f1:=hrow1.frozen j;have l1:=hrow1.lt;have HX:U (w.grownBy (w1.setCell (ad g j) (.string (Ln p))) (some g)/\Ai (w1.setCell (ad g j) (.string (Ln p))) g 9 n (λi=>.string (if i<j+1 then Ln (k+i) else X i))):=by
     refine⟨Aj (Aj HS.o.2.1 (Ak hb1)) (BH _ _ _ _),(hrow1.set j _).congr (λi hi=>?_)⟩;by_cases e:i=j;.subst e;simp[HS.o.1]
     .by_cases e2:i<j
      .have:i<j+1:=by omega
       simp[e,e2,this]
      .have:¬ i<j+1:=by omega
       simp[e,e2,this]
    have HP:U (p+1=k+(j+1)):=by show p+1=k+(j+1);have:=HS.o.1;omega
    clear hrow1 hb1 HS;go_wp2;go_roundw;case rel=>exact⟨j+1,p+1,by omega,by go_num,by go_num,HP.o,HX.o⟩
    case measure=>simp[intOf];omega
   .have e:j=n:=by omega
    subst e;clear hp hgr hrow;go_wp2;go_ret;exact⟨by rw[HS.o.1];rfl,HS.o.2.1,λh=>absurd h HN0.o,.inr ⟨g,rfl,HS.o.2.2.congr (λi hi=>by simp[hi])⟩⟩
theorem KD (a:Option Addr) (n c k:Nat) (X:Nat->Int) (w:World) (h:DL w 2 a n (λi=>iv (X i))) (hk:1<=k) (hk2:k+n<=1073741824) :
  WS 21 #[.slice a n c,iv (k:Int)] w λe w'=>e=.returned (iv ((k+n:Nat):Int))/\w.grownBy w' (a.map (·.block))/\(n=0->w'=w)/\∃X' : Nat->Int,DL w' 2 a n (λi=>iv (X' i)):=by
 by_cases hn0:n=0
 .subst hn0;go_enter Tryz.func21,Tryz.ntmps21;go_wp2;go_loopw [1,5] (λq i wr=>q=iv (k:Int)/\i=iv 0/\wr=w) (λ_ i _=>1-(intOf i).toNat)
  case atStart=>exact⟨rfl,rfl,rfl⟩
  case round=>obtain⟨rfl,rfl,rfl⟩:=hrel;go_wp2;go_ret;exact⟨by simp,Bw _ _,λ_=>rfl,X,.inl rfl⟩
 .obtain⟨g,rfl,hrow⟩:=h.resolve_left hn0;have HR:=hid hrow;clear hrow h;have HN0:=hid hn0;clear hn0;go_enter Tryz.func21,Tryz.ntmps21;go_wp2;go_loopw [1,5] (λq i wr=>∃(j p:Nat) (Y:Nat->Int),j<=n/\i=iv j/\q=iv p/\p=k+j/\w.grownBy wr (some g)/\Ai wr g 2 n (λi=>iv (Y i))) (λ_ i _=>n-(intOf i).toNat)
  case atStart=>exact⟨0,k,X,Ww _,rfl,rfl,rfl,Bw _ _,HR.o⟩
  case round=>
   obtain⟨j,p,Y,hj,rfl,rfl,hp,hgr,hrow⟩:=hrel;have HS:=hid (ai hp (ai hgr hrow));by_cases hlt:j<n
   .have hpb:1<=p/\p<=1073741824:=by omega
    have i0:(0:Int)<=(j:Int):=by omega
    have i1:(j:Int)<(n:Int):=by omega
    have c1:=hrow.cell hlt;have f1:=hrow.frozen j;have l1:=hrow.lt;have HX:U (w.grownBy (wr.setCell (ad g j) (iv (p:Int))) (some g)/\Ai (wr.setCell (ad g j) (iv (p:Int))) g 2 n (λi=>iv (if i=j then (p:Int) else Y i))):=by
     refine⟨Aj HS.o.2.1 (BH _ _ _ _),(hrow.set j _).congr (λi hi=>?_)⟩;by_cases e:i=j;.subst e;simp
     .simp[e]
    have HP:U (p+1=k+(j+1)):=by show p+1=k+(j+1);have:=HS.o.1;omega
    clear hp hgr hrow HR HS;go_wp2;go_roundw;case rel=>exact⟨j+1,p+1,_,by omega,by go_num,by go_num,HP.o,HX.o⟩
    case measure=>simp[intOf];omega
   .have e:j=n:=by omega
    subst e;clear hp hgr hrow;go_wp2;go_ret;exact⟨by rw[HS.o.1];rfl,HS.o.2.1,λh=>absurd h HN0.o,Y,.inr ⟨g,rfl,HS.o.2.2⟩⟩
theorem Ky (a:Option Addr) (n c k:Nat) (w:World) (h:BE w a n (λi=>Ln (k+i))) (hk:1<=k) (hk2:k+n<=1073741824) :
  WS 56 #[.slice a n c,iv (k:Int)] w (WT w (iv ((k+n:Nat):Int))):=by
 have HR:=hid h;clear h;go_enter Tryz.func56,Tryz.ntmps56;go_wp2;go_loopw [1,5] (λq i wr=>∃j p:Nat,j<=n/\i=iv j/\q=iv p/\p=k+j/\Bl w wr) (λ_ i _=>n-(intOf i).toNat)
 case atStart=>exact⟨0,k,Ww _,rfl,rfl,rfl,Wt _ _⟩
 case round=>
  obtain⟨j,p,hj,rfl,rfl,hp,hbel⟩:=hrel;have HS:=hid (ai hp hbel);have hpb:1<=p/\p<=1073741824:=by omega
  by_cases hlt:j<n
  .rcases HR.o.below hbel with q|⟨b,o,rfl,hc⟩;.omega
   have s1:wr.cell? (ad b (o+j))=some (.string (Ln p)):=by rw[hp];exact hc j hlt
   have i0:(0:Int)<=(j:Int):=by omega
   have i1:(j:Int)<(n:Int):=by omega
   have hbl:=Ws _ _ s1;have HM:=hid (λW=>J8 _ p rfl W hpb.1 hpb.2);have HC:U (∀w1:World,Below wr.drew.heap.size wr.drew w1->w1.cell? (ad b (o+j))=some (.string (Ln p))):=λw1 hb1=>by rw[hb1.cell (p:=(ad b (o+j))) hbl];exact s1
   obtain⟨T,hT⟩:∃T,Ln p=T:=⟨_,rfl⟩;rw[hT] at s1 HM HC;clear hc hp hbel hT;have hq:(T.toList == T.toList)=true:=by simp
   go_wp2;go_region_held3 (λw'=>w'.cell? (ad b (o+j))=some (.string T)) (go_keep) (first|(go_at_call 105;refine (HM.o _).mono ?_;rintro e w1 ⟨rfl,hb1⟩;have k1:=HC.o w1 hb1)|fail)
   have HB:=hid (HS.o.2.trans ((show Bl wr w1 from (Wt _ _).drew.trans hb1).mono HS.o.2.size));have HP:U (p+1=k+(j+1)):=by show p+1=k+(j+1);have:=HS.o.1;omega
   clear hb1 k1 HS;go_wp2;go_roundw;case rel=>exact⟨j+1,p+1,by omega,by go_num,by go_num,HP.o,HB.o⟩
   case measure=>simp[intOf];omega
  .have e:j=n:=by omega
   subst e;clear hp hbel;go_wp2;go_ret;exact⟨by rw[HS.o.1];rfl,HS.o.2⟩
variable {B T:Nat}{w w':World}
def En (B T:Nat) (w w' : World):Prop:=w'.os=w.os/\w'.tape=w.tape/\w'.output=w.output/\w.heap.size<=w'.heap.size/\∀k,k<w.heap.size->(k<B\/T<=k)->w'.heap[k]?=w.heap[k]?
theorem En.refl (B T:Nat) (w:World):En B T w w:=⟨rfl,rfl,rfl,Wu _,λ_ _ _=>rfl⟩
theorem En.trans {B T:Nat} {a b c:World} (h:En B T a b) (k:En B T b c):En B T a c:=
 ⟨k.1.trans h.1,k.2.1.trans h.2.1,k.2.2.1.trans h.2.2.1,WC h.2.2.2.1 k.2.2.2.1,λi hi ho=>(k.2.2.2.2 i (WF hi h.2.2.2.1) ho).trans (h.2.2.2.2 i hi ho)⟩
theorem En.grown {r:Option Nat} (h:w.grownBy w' r) (hr:∀b,r=some b->B<=b/\b<T):En B T w w':=
 ⟨h.os,h.tape,h.output,h.size,λk hk ho=>h.block k hk (λe=>by have:=hr k e.symm;omega)⟩
theorem En.below (h:En B T w w') (hB:B<=w.heap.size):Below B w w':=⟨h.1,h.2.1,h.2.2.1,h.2.2.2.1,λk hk=>h.2.2.2.2 k (by omega) (.inl hk)⟩
def Ff (w:World) (B g n:Nat) (N:Nat->Tn) (KA DA:Nat->Option Addr) (KC DC:Nat->Nat):Prop:=
 ∃N',AE w B g n N' KA DA KC DC/\∀i,(N' i).kn=(N i).kn/\(N' i).dn=(N i).dn
section
variable {w w' : World} {B g n:Nat} {N:Nat->Tn} {KA DA:Nat->Option Addr} {KC DC:Nat->Nat}
theorem Ff.cells (h:Ff w B g n N KA DA KC DC) {k:Nat} (hk:k<n):(∃b,w.cell? (ad g (k*4))=some (.bool b))/\w.cell? (ad g (k*4+1))=some (.slice (KA k) (N k).kn (KC k))/\w.cell? (ad g (k*4+2))=some (.slice (DA k) (N k).dn (DC k))/\(∃x,w.cell? (ad g (k*4+3))=some (iv x))/\w.frozen? (ad g (k*4))=false/\w.frozen? (ad g (k*4+3))=false/\g<w.heap.size:=by
 obtain⟨N',h,e⟩:=h;refine⟨⟨(N' k).lf,?_⟩,?_,?_,⟨(N' k).ct,?_⟩,h.row.frozen _,h.row.frozen _,h.row.lt⟩;.rw[h.row.cell (i:=k*4) (by omega),Ey]
 .rw[h.row.cell (i:=k*4+1) (by omega),Ja,(e k).1]
 .rw[h.row.cell (i:=k*4+2) (by omega),IC,(e k).2]
 .rw[h.row.cell (i:=k*4+3) (by omega),EH]
theorem Ff.keysV (h:Ff w B g n N KA DA KC DC) {k:Nat} (hk:k<n):∃X:Nat->ByteArray,DL w 9 (KA k) (N k).kn (λi=>.string (X i)):=by
 obtain⟨N',h,e⟩:=h;have q:=h.keys k hk;rw[(e k).1] at q;rcases q with q|⟨b,e1,_,e2⟩;.exact⟨(N' k).ks,.inl q⟩
 .exact⟨(N' k).ks,.inr ⟨b,e1,e2⟩⟩
theorem Ff.kidsV (h:Ff w B g n N KA DA KC DC) {k:Nat} (hk:k<n):∃X:Nat->Int,DL w 2 (DA k) (N k).dn (λi=>iv (X i)):=by
 obtain⟨N',h,e⟩:=h;have q:=h.kids k hk;rw[(e k).2] at q;rcases q with q|⟨b,e1,_,e2⟩;.exact⟨(N' k).kd,.inl q⟩
 .exact⟨(N' k).kd,.inr ⟨b,e1,e2⟩⟩
theorem Ff.of (h:Ff w B g n N KA DA KC DC) (N1:Nat->Tn) (hrow:Ai w' g 267 (n*4) (AW N1 KA DA KC DC)) (he:∀i,(N1 i).kn=(N i).kn/\(N1 i).dn=(N i).dn) (hk:∀i,i<n->Cj w' B (KA i) (N1 i).kn (N1 i).ks) (hd:∀i,i<n->Ev w' B (DA i) (N1 i).dn (N1 i).kd):Ff w' B g n N KA DA KC DC:=by
 obtain⟨N',h,e⟩:=h;refine⟨N1,⟨h.le,hrow,hk,hd,λi j hi hj hij h1 h2=>h.apartK i j hi hj hij ?_ ?_,λi j hi hj hij h1 h2=>h.apartD i j hi hj hij ?_ ?_⟩,he⟩;.rw[(e i).1,<- (he i).1];exact h1
 .rw[(e j).1,<- (he j).1];exact h2
 .rw[(e i).2,<- (he i).2];exact h1
 .rw[(e j).2,<- (he j).2];exact h2
theorem Ff.flag (h:Ff w B g n N KA DA KC DC) (k:Nat) (v:Bool):Ff (w.setCell (ad g (k*4)) (.bool v)) B g n N KA DA KC DC:=by
 obtain⟨N',h1,e⟩:=h;refine Ff.of ⟨N',h1,e⟩ (λi=>if i=k then { N' k with lf:=v } else N' i) ((h1.row.set (k*4) _).congr (λc hc=>?_)) (λi=>?_) (λi hi=>?_) (λi hi=>?_)
 .by_cases e1:c=k*4;.subst e1;rw[if_pos rfl,Ey];simp
  .rw[if_neg e1];unfold AW;by_cases e2:c / 4=k
   .have e3:¬ c % 4=0:=by omega
    simp[e2,e3]
   .simp[e2]
 .by_cases e1:i=k;.subst e1;simpa using e i
  .simpa[e1] using e i
 .have q:Cj w B (KA i) ((λi=>if i=k then { N' k with lf:=v } else N' i) i).kn ((λi=>if i=k then { N' k with lf:=v } else N' i) i).ks:=by
   by_cases e1:i=k;.subst e1;simpa using h1.keys i hi
   .simpa[e1] using h1.keys i hi
  rcases q with q|⟨b,q1,q2,q3⟩;.exact .inl q
  .exact .inr ⟨b,q1,q2,q3.of_block (Wv _ _ _ _ (q3.ne h1.row (by decide)))⟩
 .have q:Ev w B (DA i) ((λi=>if i=k then { N' k with lf:=v } else N' i) i).dn ((λi=>if i=k then { N' k with lf:=v } else N' i) i).kd:=by
   by_cases e1:i=k;.subst e1;simpa using h1.kids i hi
   .simpa[e1] using h1.kids i hi
  rcases q with q|⟨b,q1,q2,q3⟩;.exact .inl q
  .exact .inr ⟨b,q1,q2,q3.of_block (Wv _ _ _ _ (q3.ne h1.row (by decide)))⟩
theorem Ff.count (h:Ff w B g n N KA DA KC DC) (k:Nat) (v:Int):Ff (w.setCell (ad g (k*4+3)) (iv v)) B g n N KA DA KC DC:=by
 obtain⟨N',h1,e⟩:=h;refine Ff.of ⟨N',h1,e⟩ (λi=>if i=k then { N' k with ct:=v } else N' i) ((h1.row.set (k*4+3) _).congr (λc hc=>?_)) (λi=>?_) (λi hi=>?_) (λi hi=>?_)
 .by_cases e1:c=k*4+3;.subst e1;rw[if_pos rfl,EH];simp
  .rw[if_neg e1];unfold AW;by_cases e2:c / 4=k
   .have e3:c % 4=0\/c % 4=1\/c % 4=2:=by omega
    rcases e3 with e3|e3|e3 <;> simp[e2,e3]
   .simp[e2]
 .by_cases e1:i=k;.subst e1;simpa using e i
  .simpa[e1] using e i
 .have q:Cj w B (KA i) ((λi=>if i=k then { N' k with ct:=v } else N' i) i).kn ((λi=>if i=k then { N' k with ct:=v } else N' i) i).ks:=by
   by_cases e1:i=k;.subst e1;simpa using h1.keys i hi
   .simpa[e1] using h1.keys i hi
  rcases q with q|⟨b,q1,q2,q3⟩;.exact .inl q
  .exact .inr ⟨b,q1,q2,q3.of_block (Wv _ _ _ _ (q3.ne h1.row (by decide)))⟩
 .have q:Ev w B (DA i) ((λi=>if i=k then { N' k with ct:=v } else N' i) i).dn ((λi=>if i=k then { N' k with ct:=v } else N' i) i).kd:=by
   by_cases e1:i=k;.subst e1;simpa using h1.kids i hi
   .simpa[e1] using h1.kids i hi
  rcases q with q|⟨b,q1,q2,q3⟩;.exact .inl q
  .exact .inr ⟨b,q1,q2,q3.of_block (Wv _ _ _ _ (q3.ne h1.row (by decide)))⟩
theorem Ff.setKeys (h:Ff w B g n N KA DA KC DC) {k:Nat} (hk:k<n) (X:Nat->ByteArray) (hg:w.grownBy w' ((KA k).map (·.block))) (hz:(N k).kn=0->w'=w) (ho:DL w' 9 (KA k) (N k).kn (λi=>.string (X i))):Ff w' B g n N KA DA KC DC:=by
 by_cases hl:(N k).kn=0;.rw[hz hl];exact h
 obtain⟨N',h1,e⟩:=h;have hl' : (N' k).kn≠0:=by rw[(e k).1];exact hl
 obtain⟨gk,hA,hgB,hrk⟩:=(h1.keys k hk).resolve_left hl';rw[hA] at hg;have hblk:∀i,i<w.heap.size->i≠gk->w'.heap[i]?=w.heap[i]?:=λi hi hne=>hg.block i hi (λq=>by injection q with q;exact hne q);refine Ff.of ⟨N',h1,e⟩ (λi=>if i=k then { N' k with ks:=X } else N' i) ((h1.row.of_block (hblk g h1.row.lt (λq=>(hrk.ne h1.row (by decide)) q.symm))).congr (λc hc=>?_)) (λi=>?_) (λi hi=>?_) (λi hi=>?_)
 .unfold AW;by_cases e2:c / 4=k;.simp[e2]
  .simp[e2]
 .by_cases e1:i=k;.subst e1;simpa using e i
  .simpa[e1] using e i
 .by_cases e1:i=k;.subst e1;obtain⟨g2,hA2,hr2⟩:=ho.resolve_left hl;rw[hA] at hA2;injection hA2 with hA2;injection hA2 with hA2;subst hA2;simp only[if_true];rw[<- (e i).1] at hr2;exact .inr ⟨gk,hA,hgB,hr2⟩
  .simp only[if_neg e1];by_cases h0:(N' i).kn=0;.exact .inl h0
   .obtain⟨gi,hAi,hgi,hri⟩:=(h1.keys i hi).resolve_left h0;refine .inr ⟨gi,hAi,hgi,hri.of_block (hblk gi hri.lt (λq=>?_))⟩;subst q;exact h1.apartK i k hi hk e1 h0 hl' (by rw[hA,hAi])
 .have q:Ev w B (DA i) ((λi=>if i=k then { N' k with ks:=X } else N' i) i).dn ((λi=>if i=k then { N' k with ks:=X } else N' i) i).kd:=by
   by_cases e1:i=k;.subst e1;simpa using h1.kids i hi
   .simpa[e1] using h1.kids i hi
  rcases q with q|⟨b,q1,q2,q3⟩;.exact .inl q
  .exact .inr ⟨b,q1,q2,q3.of_block (hblk b q3.lt (q3.ne hrk (by decide)))⟩
theorem Ff.setKids (h:Ff w B g n N KA DA KC DC) {k:Nat} (hk:k<n) (X:Nat->Int) (hg:w.grownBy w' ((DA k).map (·.block))) (hz:(N k).dn=0->w'=w) (ho:DL w' 2 (DA k) (N k).dn (λi=>iv (X i))):Ff w' B g n N KA DA KC DC:=by
 by_cases hl:(N k).dn=0;.rw[hz hl];exact h
 obtain⟨N',h1,e⟩:=h;have hl' : (N' k).dn≠0:=by rw[(e k).2];exact hl
 obtain⟨gk,hA,hgB,hrk⟩:=(h1.kids k hk).resolve_left hl';rw[hA] at hg;have hblk:∀i,i<w.heap.size->i≠gk->w'.heap[i]?=w.heap[i]?:=λi hi hne=>hg.block i hi (λq=>by injection q with q;exact hne q);refine Ff.of ⟨N',h1,e⟩ (λi=>if i=k then { N' k with kd:=X } else N' i) ((h1.row.of_block (hblk g h1.row.lt (λq=>(hrk.ne h1.row (by decide)) q.symm))).congr (λc hc=>?_)) (λi=>?_) (λi hi=>?_) (λi hi=>?_)
 .unfold AW;by_cases e2:c / 4=k;.simp[e2]
  .simp[e2]
 .by_cases e1:i=k;.subst e1;simpa using e i
  .simpa[e1] using e i
 .have q:Cj w B (KA i) ((λi=>if i=k then { N' k with kd:=X } else N' i) i).kn ((λi=>if i=k then { N' k with kd:=X } else N' i) i).ks:=by
   by_cases e1:i=k;.subst e1;simpa using h1.keys i hi
   .simpa[e1] using h1.keys i hi
  rcases q with q|⟨b,q1,q2,q3⟩;.exact .inl q
  .exact .inr ⟨b,q1,q2,q3.of_block (hblk b q3.lt (q3.ne hrk (by decide)))⟩
 .by_cases e1:i=k;.subst e1;obtain⟨g2,hA2,hr2⟩:=ho.resolve_left hl;rw[hA] at hA2;injection hA2 with hA2;injection hA2 with hA2;subst hA2;simp only[if_true];rw[<- (e i).2] at hr2;exact .inr ⟨gk,hA,hgB,hr2⟩
  .simp only[if_neg e1];by_cases h0:(N' i).dn=0;.exact .inl h0
   .obtain⟨gi,hAi,hgi,hri⟩:=(h1.kids i hi).resolve_left h0;refine .inr ⟨gi,hAi,hgi,hri.of_block (hblk gi hri.lt (λq=>?_))⟩;subst q;exact h1.apartD i k hi hk e1 h0 hl' (by rw[hA,hAi])
def U7 (T g n:Nat) (N:Nat->Tn) (KA DA:Nat->Option Addr) (B:Nat):Prop:=
 B<=g/\g<T/\(∀i,i<n->(N i).kn≠0->∀b,(KA i).map (·.block)=some b->B<=b/\b<T)/\(∀i,i<n->(N i).dn≠0->∀b,(DA i).map (·.block)=some b->B<=b/\b<T)
theorem AE.bound (h:AE w B g n N KA DA KC DC):U7 w.heap.size g n N KA DA B:=by
 refine⟨h.le,h.row.lt,λi hi h0 b hb=>?_,λi hi h0 b hb=>?_⟩;.obtain⟨gi,hA,hgi,hri⟩:=(h.keys i hi).resolve_left h0;rw[hA] at hb;injection hb with hb;subst hb;exact⟨hgi,hri.lt⟩
 .obtain⟨gi,hA,hgi,hri⟩:=(h.kids i hi).resolve_left h0;rw[hA] at hb;injection hb with hb;subst hb;exact⟨hgi,hri.lt⟩
end
theorem NN (N:Nat->Tn):∀(m j:Nat),j<=m->B4 N j<=B4 N m
 | 0,j,h=>by
  have:j=0:=by omega
  subst this
  exact Wu _
 | m+1,j,h=>by
  by_cases e:j=m+1
  .subst e;exact Wu _
  .have:=NN N m j (by omega)
   have e2:B4 N (m+1)=B4 N m+(N m).kn+(N m).dn:=rfl
   omega
theorem OY (x:Int) (a:Option Addr) (n c k:Nat) (hx:x=(k:Int)) (X:Nat->ByteArray) (w:World) (h:DL w 9 a n (λi=>.string (X i))) (hk:1<=k) (hk2:k+n<=1073741824) :
  WS 55 #[.slice a n c,iv x] w λe w'=>e=.returned (iv ((k+n:Nat):Int))/\w.grownBy w' (a.map (·.block))/\(n=0->w'=w)/\DL w' 9 a n (λi=>.string (Ln (k+i))):=by subst hx;exact FJ a n c k X w h hk hk2
theorem O0 (x:Int) (a:Option Addr) (n c k:Nat) (hx:x=(k:Int)) (X:Nat->Int) (w:World) (h:DL w 2 a n (λi=>iv (X i))) (hk:1<=k) (hk2:k+n<=1073741824) :
  WS 21 #[.slice a n c,iv x] w λe w'=>e=.returned (iv ((k+n:Nat):Int))/\w.grownBy w' (a.map (·.block))/\(n=0->w'=w)/\∃X' : Nat->Int,DL w' 2 a n (λi=>iv (X' i)):=by subst hx;exact KD a n c k X w h hk hk2
theorem IA (B T g n c k:Nat) (N:Nat->Tn) (KA DA:Nat->Option Addr) (KC DC:Nat->Nat) (w:World) (h:Ff w B g n N KA DA KC DC) (hT:U7 T g n N KA DA B) (hk:1<=k) (hk2:k+2*n+B4 N n<=1073741824) :
  WS 106 #[.slice (some (ad g 0)) n c,iv (k:Int)] w λe w'=>∃p:Nat,e=.returned (iv (p:Int))/\En B T w w'/\p=k+2*n+B4 N n:=by
 have HR:=hid h;have HT:=hid hT;clear h hT;go_enter Tryz.func106,Tryz.ntmps106;go_wp2;go_loopw [1,5] (λq i wr=>∃j p:Nat,j<=n/\i=iv j/\q=iv p/\p=k+2*j+B4 N j/\Ff wr B g n N KA DA KC DC/\En B T w wr) (λ_ i _=>n-(intOf i).toNat)
 case atStart=>exact⟨0,k,Ww _,rfl,rfl,rfl,HR.o,En.refl _ _ _⟩
 case round=>
  obtain⟨j,p,hj,rfl,rfl,hp,hm,hw⟩:=hrel;by_cases hlt:j<n
  .have hsum:B4 N (j+1)=B4 N j+(N j).kn+(N j).dn:=rfl;have hsl:=NN N n (j+1) (by omega);have hp1:1<=p:=by omega
   have hjb:j<1073741824:=by omega
   obtain⟨kn,hkn⟩:=gn ((N j).kn);obtain⟨dn,hdn⟩:=gn ((N j).dn);have hp2:p+2+kn+dn<=1073741824:=by omega
   have HP:U (p+2+kn+dn=k+2*(j+1)+B4 N (j+1)):=by show p+2+kn+dn=k+2*(j+1)+B4 N (j+1);omega
   have HM:=hid (ai hm hw);have HK:=hid (ai hkn hdn);obtain⟨⟨b0,c0⟩,c1,c2,⟨x3,c3⟩,f0,f3,lg⟩:=hm.cells hlt;rw[<- hkn] at c1;rw[<- hdn] at c2;have i0:(0:Int)<=(j:Int):=by omega
   have i1:(j:Int)<(n:Int):=by omega
   have HW1:U (∀v,Ff (wr.setCell (ad g (j*4)) (.bool v)) B g n N KA DA KC DC/\En B T w (wr.setCell (ad g (j*4)) (.bool v))):=λv=>⟨HM.o.1.flag j v,HM.o.2.trans (En.grown (BH _ _ _ _) (λb e=>by injection e with e;subst e;exact⟨HT.o.1,HT.o.2.1⟩))⟩;clear hsum hsl hp hm hw hkn hdn hk2;go_wp2_with fail
   obtain⟨X1,hX1⟩:=(HW1.o _).1.keysV hlt;refine (OY _ (KA j) kn (KC j) (p+1) (by go_num) X1 _ (by rw[HK.o.1];exact hX1) (by omega) (by omega)).mono ?_;rintro e w1 ⟨rfl,hg1,hz1,ho1⟩;have hK0:=HK.o;have HW2:U (Ff w1 B g n N KA DA KC DC/\En B T w w1):=by
    have q1:=(HW1.o _).1.setKeys hlt _ hg1 (λe=>hz1 (by rw[hK0.1];exact e)) (by rw[<- hK0.1];exact ho1);refine⟨q1,(HW1.o ((p:Int) % 3 == 0)).2.trans ?_⟩;by_cases h0:kn=0;.rw[hz1 h0];exact En.refl _ _ _
    .exact En.grown hg1 (HT.o.2.2.1 j hlt (by rw[<- hK0.1];exact h0))
   clear hg1 hz1 ho1 hX1 X1 HW1 c0 c1 c2 c3 f0 f3 lg hK0;obtain⟨⟨b0',c0⟩,c1,c2,⟨x3',c3⟩,f0,f3,lg⟩:=HW2.o.1.cells hlt;rw[<- HK.o.1] at c1;rw[<- HK.o.2] at c2;go_wp2_with fail
   obtain⟨X2,hX2⟩:=HW2.o.1.kidsV hlt;refine (O0 _ (DA j) dn (DC j) (p+1+kn) (by go_num) X2 _ (by rw[HK.o.2];exact hX2) (by omega) (by omega)).mono ?_;rintro e w2 ⟨rfl,hg2,hz2,X3,ho2⟩;have hK0:=HK.o;have HW3:U (Ff w2 B g n N KA DA KC DC/\En B T w w2):=by
    have q1:=HW2.o.1.setKids hlt X3 hg2 (λe=>hz2 (by rw[hK0.2];exact e)) (by rw[<- hK0.2];exact ho2);refine⟨q1,HW2.o.2.trans ?_⟩;by_cases h0:dn=0;.rw[hz2 h0];exact En.refl _ _ _
    .exact En.grown hg2 (HT.o.2.2.2 j hlt (by rw[<- hK0.2];exact h0))
   clear hg2 hz2 ho2 hX2 X2 X3 HW2 c0 c1 c2 c3 f0 f3 lg hK0;obtain⟨⟨b0'',c0⟩,c1,c2,⟨x3'',c3⟩,f0,f3,lg⟩:=HW3.o.1.cells hlt;have HW4:U (∀v,Ff (w2.setCell (ad g (j*4+3)) (iv v)) B g n N KA DA KC DC/\En B T w (w2.setCell (ad g (j*4+3)) (iv v))):=λv=>⟨HW3.o.1.count j v,HW3.o.2.trans (En.grown (BH _ _ _ _) (λb e=>by injection e with e;subst e;exact⟨HT.o.1,HT.o.2.1⟩))⟩;clear HW3 c0 c1 c2;go_wp2;go_roundw;case rel=>exact⟨j+1,p+2+kn+dn,by omega,by go_num,by go_num,HP.o,HW4.o _⟩
   case measure=>simp[intOf];omega
  .have e:j=n:=by omega
   subst e;have HM:=hid (ai hw hp);clear hm hw hp;go_wp2;go_ret;exact⟨p,rfl,HM.o⟩
theorem LW (a:Option Addr) (n c k:Nat) (X:Nat->Int) (w:World) (h:DL w 2 a n (λi=>iv (X i))) (hk:1<=k) (hk2:k+n<=1073741824) :
  WS 21 #[.slice a n c,iv (k:Int)] w λe w'=>e=.returned (iv ((k+n:Nat):Int))/\w.grownBy w' (a.map (·.block))/\(n=0->w'=w)/\DL w' 2 a n (λi=>iv ((k+i:Nat):Int)):=by
 by_cases hn0:n=0
 .subst hn0;go_enter Tryz.func21,Tryz.ntmps21;go_wp2;go_loopw [1,5] (λq i wr=>q=iv (k:Int)/\i=iv 0/\wr=w) (λ_ i _=>1-(intOf i).toNat)
  case atStart=>exact⟨rfl,rfl,rfl⟩
  case round=>obtain⟨rfl,rfl,rfl⟩:=hrel;go_wp2;go_ret;exact⟨by simp,Bw _ _,λ_=>rfl,.inl rfl⟩
 .obtain⟨g,rfl,hrow⟩:=h.resolve_left hn0;have HR:=hid hrow;clear hrow h;have HN0:=hid hn0;clear hn0;go_enter Tryz.func21,Tryz.ntmps21;go_wp2;go_loopw [1,5] (λq i wr=>∃(j p:Nat),j<=n/\i=iv j/\q=iv p/\p=k+j/\w.grownBy wr (some g)/\Ai wr g 2 n (λi=>iv (if i<j then ((k+i:Nat):Int) else X i))) (λ_ i _=>n-(intOf i).toNat)
  case atStart=>exact⟨0,k,Ww _,rfl,rfl,rfl,Bw _ _,HR.o.congr (λi _=>by simp)⟩
  case round=>
   obtain⟨j,p,hj,rfl,rfl,hp,hgr,hrow⟩:=hrel;have HS:=hid (ai hp (ai hgr hrow));by_cases hlt:j<n
   .have hpb:1<=p/\p<=1073741824:=by omega
    have i0:(0:Int)<=(j:Int):=by omega
    have i1:(j:Int)<(n:Int):=by omega
    have c1:=hrow.cell hlt;have f1:=hrow.frozen j;have l1:=hrow.lt;have HX:U (w.grownBy (wr.setCell (ad g j) (iv (p:Int))) (some g)/\Ai (wr.setCell (ad g j) (iv (p:Int))) g 2 n (λi=>iv (if i<j+1 then ((k+i:Nat):Int) else X i))):=by
     refine⟨Aj HS.o.2.1 (BH _ _ _ _),(hrow.set j _).congr (λi hi=>?_)⟩;by_cases e:i=j;.subst e;simp[HS.o.1]
     .by_cases e2:i<j
      .have:i<j+1:=by omega
       simp[e,e2,this]
      .have:¬ i<j+1:=by omega
       simp[e,e2,this]
    have HP:U (p+1=k+(j+1)):=by show p+1=k+(j+1);have:=HS.o.1;omega
    clear hp hgr hrow HR HS;go_wp2;go_roundw;case rel=>exact⟨j+1,p+1,by omega,by go_num,by go_num,HP.o,HX.o⟩
    case measure=>simp[intOf];omega
   .have e:j=n:=by omega
    subst e;clear hp hgr hrow;go_wp2;go_ret;exact⟨by rw[HS.o.1];rfl,HS.o.2.1,λh=>absurd h HN0.o,.inr ⟨g,rfl,HS.o.2.2.congr (λi hi=>by simp[hi])⟩⟩
section
variable {w w' : World} {B g n:Nat} {N:Nat->Tn} {KA DA:Nat->Option Addr} {KC DC:Nat->Nat}
theorem AE.of (h:AE w B g n N KA DA KC DC) (N1:Nat->Tn) (hrow:Ai w' g 267 (n*4) (AW N1 KA DA KC DC)) (he:∀i,(N1 i).kn=(N i).kn/\(N1 i).dn=(N i).dn) (hk:∀i,i<n->Cj w' B (KA i) (N1 i).kn (N1 i).ks) (hd:∀i,i<n->Ev w' B (DA i) (N1 i).dn (N1 i).kd):AE w' B g n N1 KA DA KC DC:=by
 refine⟨h.le,hrow,hk,hd,λi j hi hj hij h1 h2=>h.apartK i j hi hj hij ?_ ?_,λi j hi hj hij h1 h2=>h.apartD i j hi hj hij ?_ ?_⟩;.rw[<- (he i).1];exact h1
 .rw[<- (he j).1];exact h2
 .rw[<- (he i).2];exact h1
 .rw[<- (he j).2];exact h2
theorem AE.flag (h1:AE w B g n N KA DA KC DC) (k:Nat) (v:Bool):AE (w.setCell (ad g (k*4)) (.bool v)) B g n (λi=>if i=k then { N k with lf:=v } else N i) KA DA KC DC:=by
 refine AE.of h1 (λi=>if i=k then { N k with lf:=v } else N i) ((h1.row.set (k*4) _).congr (λc hc=>?_)) (λi=>?_) (λi hi=>?_) (λi hi=>?_)
 .by_cases e1:c=k*4;.subst e1;rw[if_pos rfl,Ey];simp
  .rw[if_neg e1];unfold AW;by_cases e2:c / 4=k
   .have e3:¬ c % 4=0:=by omega
    simp[e2,e3]
   .simp[e2]
 .by_cases e1:i=k;.subst e1;simp
  .simp[e1]
 .have q:Cj w B (KA i) ((λi=>if i=k then { N k with lf:=v } else N i) i).kn ((λi=>if i=k then { N k with lf:=v } else N i) i).ks:=by
   by_cases e1:i=k;.subst e1;simpa using h1.keys i hi
   .simpa[e1] using h1.keys i hi
  rcases q with q|⟨b,q1,q2,q3⟩;.exact .inl q
  .exact .inr ⟨b,q1,q2,q3.of_block (Wv _ _ _ _ (q3.ne h1.row (by decide)))⟩
 .have q:Ev w B (DA i) ((λi=>if i=k then { N k with lf:=v } else N i) i).dn ((λi=>if i=k then { N k with lf:=v } else N i) i).kd:=by
   by_cases e1:i=k;.subst e1;simpa using h1.kids i hi
   .simpa[e1] using h1.kids i hi
  rcases q with q|⟨b,q1,q2,q3⟩;.exact .inl q
  .exact .inr ⟨b,q1,q2,q3.of_block (Wv _ _ _ _ (q3.ne h1.row (by decide)))⟩
theorem AE.count (h1:AE w B g n N KA DA KC DC) (k:Nat) (v:Int):AE (w.setCell (ad g (k*4+3)) (iv v)) B g n (λi=>if i=k then { N k with ct:=v } else N i) KA DA KC DC:=by
 refine AE.of h1 (λi=>if i=k then { N k with ct:=v } else N i) ((h1.row.set (k*4+3) _).congr (λc hc=>?_)) (λi=>?_) (λi hi=>?_) (λi hi=>?_)
 .by_cases e1:c=k*4+3;.subst e1;rw[if_pos rfl,EH];simp
  .rw[if_neg e1];unfold AW;by_cases e2:c / 4=k
   .have e3:c % 4=0\/c % 4=1\/c % 4=2:=by omega
    rcases e3 with e3|e3|e3 <;> simp[e2,e3]
   .simp[e2]
 .by_cases e1:i=k;.subst e1;simp
  .simp[e1]
 .have q:Cj w B (KA i) ((λi=>if i=k then { N k with ct:=v } else N i) i).kn ((λi=>if i=k then { N k with ct:=v } else N i) i).ks:=by
   by_cases e1:i=k;.subst e1;simpa using h1.keys i hi
   .simpa[e1] using h1.keys i hi
  rcases q with q|⟨b,q1,q2,q3⟩;.exact .inl q
  .exact .inr ⟨b,q1,q2,q3.of_block (Wv _ _ _ _ (q3.ne h1.row (by decide)))⟩
 .have q:Ev w B (DA i) ((λi=>if i=k then { N k with ct:=v } else N i) i).dn ((λi=>if i=k then { N k with ct:=v } else N i) i).kd:=by
   by_cases e1:i=k;.subst e1;simpa using h1.kids i hi
   .simpa[e1] using h1.kids i hi
  rcases q with q|⟨b,q1,q2,q3⟩;.exact .inl q
  .exact .inr ⟨b,q1,q2,q3.of_block (Wv _ _ _ _ (q3.ne h1.row (by decide)))⟩
theorem AE.setKeys (h1:AE w B g n N KA DA KC DC) {k:Nat} (hk:k<n) (X:Nat->ByteArray) (hg:w.grownBy w' ((KA k).map (·.block))) (hz:(N k).kn=0->w'=w) (ho:DL w' 9 (KA k) (N k).kn (λi=>.string (X i))):AE w' B g n (λi=>if i=k then { N k with ks:=X } else N i) KA DA KC DC:=by
 by_cases hl:(N k).kn=0
 .rw[hz hl];refine AE.of h1 _ (h1.row.congr (λc hc=>?_)) (λi=>?_) (λi hi=>?_) (λi hi=>?_)
  .unfold AW;by_cases e2:c / 4=k;.simp[e2]
   .simp[e2]
  .by_cases e1:i=k;.subst e1;simp
   .simp[e1]
  .by_cases e1:i=k;.subst e1;first|exact .inl (by simpa using hl)|simpa using h1.keys i hi
   .simpa[e1] using h1.keys i hi
  .by_cases e1:i=k;.subst e1;first|exact .inl (by simpa using hl)|simpa using h1.kids i hi
   .simpa[e1] using h1.kids i hi
 have hl' : (N k).kn≠0:=hl;obtain⟨gk,hA,hgB,hrk⟩:=(h1.keys k hk).resolve_left hl';rw[hA] at hg;have hblk:∀i,i<w.heap.size->i≠gk->w'.heap[i]?=w.heap[i]?:=λi hi hne=>hg.block i hi (λq=>by injection q with q;exact hne q);refine AE.of h1 (λi=>if i=k then { N k with ks:=X } else N i) ((h1.row.of_block (hblk g h1.row.lt (λq=>(hrk.ne h1.row (by decide)) q.symm))).congr (λc hc=>?_)) (λi=>?_) (λi hi=>?_) (λi hi=>?_)
 .unfold AW;by_cases e2:c / 4=k;.simp[e2]
  .simp[e2]
 .by_cases e1:i=k;.subst e1;simp
  .simp[e1]
 .by_cases e1:i=k;.subst e1;obtain⟨g2,hA2,hr2⟩:=ho.resolve_left hl;rw[hA] at hA2;injection hA2 with hA2;injection hA2 with hA2;subst hA2;simp only[if_true];exact .inr ⟨gk,hA,hgB,hr2⟩
  .simp only[if_neg e1];by_cases h0:(N i).kn=0;.exact .inl h0
   .obtain⟨gi,hAi,hgi,hri⟩:=(h1.keys i hi).resolve_left h0;refine .inr ⟨gi,hAi,hgi,hri.of_block (hblk gi hri.lt (λq=>?_))⟩;subst q;exact h1.apartK i k hi hk e1 h0 hl' (by rw[hA,hAi])
 .have q:Ev w B (DA i) ((λi=>if i=k then { N k with ks:=X } else N i) i).dn ((λi=>if i=k then { N k with ks:=X } else N i) i).kd:=by
   by_cases e1:i=k;.subst e1;simpa using h1.kids i hi
   .simpa[e1] using h1.kids i hi
  rcases q with q|⟨b,q1,q2,q3⟩;.exact .inl q
  .exact .inr ⟨b,q1,q2,q3.of_block (hblk b q3.lt (q3.ne hrk (by decide)))⟩
theorem AE.setKids (h1:AE w B g n N KA DA KC DC) {k:Nat} (hk:k<n) (X:Nat->Int) (hg:w.grownBy w' ((DA k).map (·.block))) (hz:(N k).dn=0->w'=w) (ho:DL w' 2 (DA k) (N k).dn (λi=>iv (X i))):AE w' B g n (λi=>if i=k then { N k with kd:=X } else N i) KA DA KC DC:=by
 by_cases hl:(N k).dn=0
 .rw[hz hl];refine AE.of h1 _ (h1.row.congr (λc hc=>?_)) (λi=>?_) (λi hi=>?_) (λi hi=>?_)
  .unfold AW;by_cases e2:c / 4=k;.simp[e2]
   .simp[e2]
  .by_cases e1:i=k;.subst e1;simp
   .simp[e1]
  .by_cases e1:i=k;.subst e1;first|exact .inl (by simpa using hl)|simpa using h1.keys i hi
   .simpa[e1] using h1.keys i hi
  .by_cases e1:i=k;.subst e1;first|exact .inl (by simpa using hl)|simpa using h1.kids i hi
   .simpa[e1] using h1.kids i hi
 have hl' : (N k).dn≠0:=hl;obtain⟨gk,hA,hgB,hrk⟩:=(h1.kids k hk).resolve_left hl';rw[hA] at hg;have hblk:∀i,i<w.heap.size->i≠gk->w'.heap[i]?=w.heap[i]?:=λi hi hne=>hg.block i hi (λq=>by injection q with q;exact hne q);refine AE.of h1 (λi=>if i=k then { N k with kd:=X } else N i) ((h1.row.of_block (hblk g h1.row.lt (λq=>(hrk.ne h1.row (by decide)) q.symm))).congr (λc hc=>?_)) (λi=>?_) (λi hi=>?_) (λi hi=>?_)
 .unfold AW;by_cases e2:c / 4=k;.simp[e2]
  .simp[e2]
 .by_cases e1:i=k;.subst e1;simp
  .simp[e1]
 .have q:Cj w B (KA i) ((λi=>if i=k then { N k with kd:=X } else N i) i).kn ((λi=>if i=k then { N k with kd:=X } else N i) i).ks:=by
   by_cases e1:i=k;.subst e1;simpa using h1.keys i hi
   .simpa[e1] using h1.keys i hi
  rcases q with q|⟨b,q1,q2,q3⟩;.exact .inl q
  .exact .inr ⟨b,q1,q2,q3.of_block (hblk b q3.lt (q3.ne hrk (by decide)))⟩
 .by_cases e1:i=k;.subst e1;obtain⟨g2,hA2,hr2⟩:=ho.resolve_left hl;rw[hA] at hA2;injection hA2 with hA2;injection hA2 with hA2;subst hA2;simp only[if_true];exact .inr ⟨gk,hA,hgB,hr2⟩
  .simp only[if_neg e1];by_cases h0:(N i).dn=0;.exact .inl h0
   .obtain⟨gi,hAi,hgi,hri⟩:=(h1.kids i hi).resolve_left h0;refine .inr ⟨gi,hAi,hgi,hri.of_block (hblk gi hri.lt (λq=>?_))⟩;subst q;exact h1.apartD i k hi hk e1 h0 hl' (by rw[hA,hAi])
end
end Go.Proofs.YtacpbofiipdodaaGreat
