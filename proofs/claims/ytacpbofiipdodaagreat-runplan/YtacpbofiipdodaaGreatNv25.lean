import Derived.Test.YtacpbofiipdodaaGreatNv5
set_option linter.unusedVariables false
set_option linter.unusedSimpArgs false
set_option maxRecDepth 100000
set_option maxHeartbeats 90000000
namespace Go.Proofs.YtacpbofiipdodaaGreat
open Go Go.Deep Go.RowKit Go.Shelf
variable {Bd:Nat->Bool}{I:Nat->Int}{Lb X:Nat->ByteArray}{b:Bool}{i n:Nat}{l:ByteArray}
attribute [local go_sem] Oper.semAt_some
def RJ (k:Int) (bd:Bool):Bool:=if k=9 then true else bd
def RO (k:Int) (s g:ByteArray):ByteArray:=if k=9 then s else g
def JG (n:Nat) (I:Nat->Int) (X:Nat->ByteArray) (m:Nat) (Bd:Nat->Bool) (Lb:Nat->ByteArray):Prop:=
 Bd (n-1)=false/\Lb (n-1)={ data:=#[] }/\∀i,m<=i->i<n->∀j,j<Ah (I i)->Bd (AK (At I) i j)=RJ (I i) (Bd i)/\Lb (AK (At I) i j)=RO (I i) (X i) (Lb i)
def Gc (n:Nat) (I:Nat->Int) (X:Nat->ByteArray) (i:Nat) (b:Bool) (l:ByteArray) (q:Nat) (Bd:Nat->Bool) (Lb:Nat->ByteArray):Prop:=
 JG n I X (i+1) Bd Lb/\(Bd i=b/\Lb i=l)/\∀j,j<q->Bd (AK (At I) i j)=RJ (I i) b/\Lb (AK (At I) i j)=RO (I i) (X i) l
theorem Gc.step {q:Nat} (h:Gc n I X i b l q Bd Lb) (hok:AM (At I) n) (hi:i<n) (hq:q<Ah (I i)) :
  Gc n I X i b l (q+1) (λy=>if y=AK (At I) i q then RJ (I i) b else Bd y) (λy=>if y=AK (At I) i q then RO (I i) (X i) l else Lb y):=by
 obtain⟨⟨h1,h2,h3⟩,⟨h4,h5⟩,h6⟩:=h;have hx:=Gt hok hi (Dc I i) (j:=q) hq;refine⟨⟨?_,?_,λi' hi1 hi2 j hj=>?_⟩,⟨?_,?_⟩,λj hj=>?_⟩;.show (if _ then _ else _)=_;rw[if_neg (by omega)];exact h1
 .show (if _ then _ else _)=_;rw[if_neg (by omega)];exact h2
 .have hne:AK (At I) i' j≠AK (At I) i q:=λe=>by have:=M7 hok hi2 hi (Dc I i') (Dc I i) hj hq e;omega
  have hne2:i'≠AK (At I) i q:=by omega
  show (if _ then _ else _)=RJ _ (if _ then _ else _)/\(if _ then _ else _)=RO _ _ (if _ then _ else _);rw[if_neg hne,if_neg hne,if_neg hne2,if_neg hne2];exact h3 i' hi1 hi2 j hj
 .show (if _ then _ else _)=_;rw[if_neg (by omega)];exact h4
 .show (if _ then _ else _)=_;rw[if_neg (by omega)];exact h5
 .show (if _ then _ else _)=_/\(if _ then _ else _)=_;by_cases e:j=q;.subst e;rw[if_pos rfl,if_pos rfl];exact⟨rfl,rfl⟩
  .have hne:=λe2=>e (RY hok hi (Dc I i) (by show j<Ah (I i);omega) hq e2);rw[if_neg hne,if_neg hne];exact h6 j (by omega)
theorem Gc.done (h:Gc n I X i b l (Ah (I i)) Bd Lb):JG n I X i Bd Lb:=by
 obtain⟨⟨h1,h2,h3⟩,⟨h4,h5⟩,h6⟩:=h;refine⟨h1,h2,λi' hi1 hi2 j hj=>?_⟩;by_cases e:i'=i;.subst e;rw[h4,h5];exact h6 j hj
 .exact h3 i' (by omega) hi2 j hj
def LY (Cx:(Nat->Bool)->(Nat->ByteArray)->Prop) (W:World) (g n:Nat) (I:Nat->Int) (X R:Nat->ByteArray) (AA:Nat->Option Addr) (CC:Nat->Nat) (H:Nat->Int):Prop:=∃Bd Lb,Cx Bd Lb/\AQ W g n (B5 I X R AA CC Bd Lb H)
def SC (I:Nat->Int) (X R:Nat->ByteArray) (AA:Nat->Option Addr) (CC:Nat->Nat) (H:Nat->Int) (i:Nat) (b:Bool) (l:ByteArray):Array Value:=
 #[iv (i:Int),.agg #[iv (I i),.string (X i),.string (R i),.bool b,.string l,.slice (AA i) (Ah (I i)) (CC i),iv (H i)]]
def VQ (g n:Nat) (I:Nat->Int) (X R:Nat->ByteArray) (AA:Nat->Option Addr) (CC:Nat->Nat) (H:Nat->Int) (k:Nat) (v:Array Value) (W:World):Prop:=
 k<n/\∃b l,v=SC I X R AA CC H (n-1-k) b l/\W.cell? (ad g ((n-1-k)*7+3))=some (.bool b)/\W.cell? (ad g ((n-1-k)*7+4))=some (.string l)
theorem UG (F:Fence) (nn:Nat) (hf:F.fn 139) (hro:F.round=none) (hn:1<=nn) (l Bs g n c:Nat) (I:Nat->Int) (X R:Nat->ByteArray) (AA:Nat->Option Addr) (CC:Nat->Nat) (H:Nat->Int) (hn0:n<=100) (K:Nat->World->Prop)
  (hT:∀k W,K k W->W.cell? (ad Bs 0)=some (.slice (some (ad g 0)) n c)/\GI W g n I X R AA CC H)
  (hY:∀k v W,K k W->VQ g n I X R AA CC H k v W->k<n->YieldAt F (nn-1) Tryz.prog l v W λe W'=>e=.returned (.bool true)/\K (k+1) W')
  (W:World) (h0:K 0 W) :
  CallsIn F nn Tryz.prog 139 #[.func (.yield l) #[] #[],pt Bs] W λe W'=>(∃v,e=.returned v)/\K n W':=by
 have HY:=hid hY;have HT:=hid hT;have hBs:=(hT 0 W h0).1;have wn:IntKind.i64.wrap ((n:Int)-1)=(n:Int)-1:=by rw[Wz];omega
 clear hY hT;refine callsIn_of_wp Tryz.func139 rfl hf ?_ hro;simp only[Tryz.ntmps139,List.size_toArray,WN,List.length_nil,Nat.reduceAdd,Nat.reduceSub,Array.replicate_succ,Array.replicate_zero,List.push_toArray,List.append_toArray,List.nil_append,List.cons_append];gi_wp2
 gi_loopw [3] (λi wr=>∃(k:Nat),k<=n/\i=iv ((k:Int)-1)/\K (n-k) wr) (λi _=>(intOf i+1).toNat)
 case atStart=>exact⟨n,Wu _,rfl,by rw[Nat.sub_self];exact h0⟩
 case round=>
  obtain⟨k,hk,rfl,hJ⟩:=hrel;obtain⟨hb,hp⟩:=HT.o _ _ hJ;cases k with
  | zero=>
   have i0:¬ ((0:Int)<=((0:Nat):Int)-1):=by omega
   rw[Nat.sub_zero] at hJ;gi_wp2
   go_end0
   exact⟨⟨_,rfl⟩,hJ⟩
  | succ k=>
   obtain⟨Bd,Lb,hpp⟩:=hp;have ek:(((k+1:Nat):Int))-1=(k:Int):=by omega
   rw[ek];have ik0:(0:Int)<=(k:Int):=by omega
   have ikn:(k:Int)<(n:Int):=by omega
   have wk:IntKind.i64.wrap ((k:Int)-1)=(k:Int)-1:=by rw[Wz];omega
   obtain⟨c0,c1,c2,c3,c4,c5,c6⟩:=hpp.seven (i:=k) (by omega);dsimp only[B5] at c0 c1 c2 c3 c4 c5 c6;have e1:n-1-(n-(k+1))=k:=by omega
   have e2:n-(k+1)+1=n-k:=by omega
   obtain⟨fn,tmps,assign,body,hy,hR⟩:=HY.o (n-(k+1)) (SC I X R AA CC H k (Bd k) (Lb k)) wr hJ ⟨by omega,Bd k,Lb k,by rw[e1],by rw[e1];exact c3,by rw[e1];exact c4⟩ (by omega);rw[e2] at hR;unfold SC at hy;clear hpp hJ e1 e2;gi_wp2
   refine hR.mono ?_;rintro e W3 ⟨rfl,hJ3⟩;have hb3:=(HT.o _ _ hJ3).1;gi_wp2
   go_roundw;case rel=>exact⟨k,by omega,by first|rfl|rw[wk],hJ3⟩
   case measure=>first|(simp[intOf];done)|(simp[intOf];omega)
structure GW (Cx:(Nat->Bool)->(Nat->ByteArray)->Prop) (w W:World) (g n c:Nat) (I:Nat->Int) (X R:Nat->ByteArray) (AA:Nat->Option Addr) (CC:Nat->Nat) (H:Nat->Int):Prop where
 pl:LY Cx W g n I X R AA CC H
 gr:w.grownBy W (some g)
 b0:W.heap[w.heap.size]?=some (.cells #[.slice (some (ad g 0)) n c] 87 (0,0))
 b1:W.heap[w.heap.size+1]?=some (.cells #[.slice (some (ad g 0)) n c] 87 (0,0))
section
variable {Cx Cy:(Nat->Bool)->(Nat->ByteArray)->Prop} {w W W' : World} {g n c B:Nat} {I:Nat->Int} {X R:Nat->ByteArray} {AA:Nat->Option Addr} {CC:Nat->Nat} {H:Nat->Int} {row:Option Nat}
theorem LY.kept (h:LY Cx W g n I X R AA CC H) (hg:W.grownBy W' row) (hr:∀r,row=some r->∃o:Obj,W.heap[r]?=some o/\o.isCells=false):LY Cx W' g n I X R AA CC H:=by obtain⟨Bd,Lb,hC,cur,hh,h1,h2⟩:=h;exact⟨Bd,Lb,hC,cur,Df hh hg hr,h1,h2⟩
theorem LY.any (h:LY Cx W g n I X R AA CC H):GI W g n I X R AA CC H:=by obtain⟨Bd,Lb,_,hp⟩:=h;exact⟨Bd,Lb,hp⟩
theorem GW.kept (h:GW Cx w W g n c I X R AA CC H) (hg:W.grownBy W' row) (hr:∀r,row=some r->B<=r/\∃o:Obj,W.heap[r]?=some o/\o.isCells=false) (hB:w.heap.size<=B):GW Cx w W' g n c I X R AA CC H:=
 ⟨h.pl.kept hg (λr e=>(hr r e).2),Eh h.gr hg (λr e=>(hr r e).1) hB,Df h.b0 hg (λr e=>(hr r e).2),Df h.b1 hg (λr e=>(hr r e).2)⟩
theorem GW.alloc (h:GW Cx w W g n c I X R AA CC H) (o:Obj):GW Cx w (W.alloc o) g n c I X R AA CC H:=
 h.kept (B:=w.heap.size) (World.grownBy_alloc W o none) (λr e=>by cases e) (Wu _)
theorem GW.to (h:GW Cx w W g n c I X R AA CC H) (e:∀Bd Lb,Cx Bd Lb->AQ W g n (B5 I X R AA CC Bd Lb H)->Cy Bd Lb):GW Cy w W g n c I X R AA CC H:=by obtain⟨⟨Bd,Lb,hC,hp⟩,h2,h3,h4⟩:=h;exact⟨⟨Bd,Lb,e Bd Lb hC hp,hp⟩,h2,h3,h4⟩
theorem GW.set (h:GW Cx w W g n c I X R AA CC H) (hg:g<w.heap.size) (x:Nat) (b:Bool) (l:ByteArray) (e:∀Bd Lb,Cx Bd Lb->Cy (λi=>if i=x then b else Bd i) (λi=>if i=x then l else Lb i)):GW Cy w ((W.setCell (ad g (x*7+3)) (.bool b)).setCell (ad g (x*7+4)) (.string l)) g n c I X R AA CC H:=by
 obtain⟨Bd,Lb,hC,hp⟩:=h.pl;refine⟨⟨_,_,e _ _ hC,Lx hp⟩,Cu (Cu h.gr _ _) _ _,?_,?_⟩;.rw[Wv _ _ _ _ (by show w.heap.size≠g;omega),Wv _ _ _ _ (by show w.heap.size≠g;omega)];exact h.b0
 .rw[Wv _ _ _ _ (by show w.heap.size+1≠g;omega),Wv _ _ _ _ (by show w.heap.size+1≠g;omega)];exact h.b1
end
theorem QH (F:Fence) (nn:Nat) (h3:F.fn 88) (h4:F.fn 121) (h5:F.fn 139) (hro:F.round=none) (hnn:6<=nn)
  (g n c B:Nat) (I:Nat->Int) (X R:Nat->ByteArray) (AA:Nat->Option Addr) (CC:Nat->Nat) (H:Nat->Int) (w:World)
  (hP:AQ w g n (B5 I X R AA CC (λ_=>false) (λ_=>{ data:=#[] }) H)) (hO:∀i,i<n->AY w B (AA i) (Ah (I i)) (λj=>(AK (At I) i j:Int))) (hcap:∀i,i<n->Ah (I i)<=CC i/\CC i<=9223372036854775807) (hok:AM (At I) n) (hn:n<=100) (hn0:0<n) :
  CallsIn F nn Tryz.prog 88 #[.slice (some (ad g 0)) n c] w λe w'=>e=.returned (.tuple #[])/\LY (JG n I X 0) w' g n I X R AA CC H/\w.grownBy w' (some g):=by
 have h1:1<=nn:=by omega
 have hgl:g<w.heap.size:=hP.lt;have HO:U (∀W:World,w.grownBy W (some g)->∀i,i<n->Rd .i64 W (AA i) (Ah (I i)) (λj=>(AK (At I) i j:Int))):=λW hW i hi=>((hO i hi).grownP hP hW).rd;have HCP:U (∀i,i<n->Ah (I i)<=CC i/\CC i<=9223372036854775807):=hcap;have HOK:U (AM (At I) n):=hok;have HP:U (LY (JG n I X n) w g n I X R AA CC H):=⟨_,_,⟨rfl,rfl,λi h1 h2=>absurd h1 (by omega)⟩,hP⟩;clear hP hO hcap hok;refine callsIn_of_wp_marks Tryz.func88 rfl h3 ?_ hro;simp only[Tryz.ntmps88,List.size_toArray,WN,List.length_nil,Nat.reduceAdd,Nat.reduceSub,Array.replicate_succ,Array.replicate_zero,List.push_toArray,List.append_toArray,List.nil_append,List.cons_append];gi_wp2_with (gi_at_call 121;refine (Vn F (nn-1) h4 hro _ _ _ _ rfl _).mono ?_;rintro e w' ⟨rfl,rfl⟩)
 have HS0:U (GW (JG n I X n) w ((w.alloc (.cells #[.slice (some (ad g 0)) n c] 87)).alloc (.cells #[.slice (some (ad g 0)) n c] 87)) g n c I X R AA CC H/\((w.alloc (.cells #[.slice (some (ad g 0)) n c] 87)).alloc (.cells #[.slice (some (ad g 0)) n c] 87)).heap.size=w.heap.size+2):=by
  refine⟨⟨?_,?_,?_,?_⟩,by simp⟩;.exact (HP.o.kept (World.grownBy_alloc _ _ none) (λr e=>by cases e)).kept (World.grownBy_alloc _ _ none) (λr e=>by cases e)
  .exact Eh (B:=w.heap.size) (Eh (B:=w.heap.size) ⟨rfl,rfl,rfl,Wu _,λ_ _ _=>rfl⟩ (World.grownBy_alloc _ _ none) (λr e=>by cases e) (Wu _)) (World.grownBy_alloc _ _ none) (λr e=>by cases e) (Wu _)
  .exact (Below.heap_alloc _ _ _ (by simp)).trans (World.alloc_heap_new w _)
  .have:=World.alloc_heap_new (w.alloc (.cells #[.slice (some (ad g 0)) n c] 87)) (.cells #[.slice (some (ad g 0)) n c] 87);rwa [WJ] at this
 generalize ((w.alloc (.cells #[.slice (some (ad g 0)) n c] 87)).alloc (.cells #[.slice (some (ad g 0)) n c] 87))=W0 at HS0 ⊢;have hsz:=HS0.o.2;refine Uv hro h1 (gf:=139) (lb:=#[pt (w.heap.size+1)]) rfl h5 (enters_of Tryz.func139 (by kernel_rfl) rfl)
  n (VQ g n I X R AA CC H) (λk v W h=>by obtain⟨_,b,l,rfl,_⟩:=h;rfl) (λk W=>GW (JG n I X (n-k)) w W g n c I X R AA CC H) (λk A B row hs hg hr=>hs.kept hg hr (by omega)) (by rw[Nat.sub_zero];exact HS0.o.1)
  (λl K W _ hKJ hY h0=>UG F (nn-1) h5 hro (by omega) l (w.heap.size+1) g n c I X R AA CC H hn K (λk W hk=>⟨by simp[World.cell?,(hKJ k W hk).b1],(hKJ k W hk).pl.any⟩) hY W h0)
  (λk v a' W=>k<n/\∃b lb Bx,(W.cell? (ad g ((n-1-k)*7+3))=some (.bool b)/\W.cell? (ad g ((n-1-k)*7+4))=some (.string lb))/\w.heap.size+2<=Bx/\W.heap[Bx]?=some (.cells #[iv (I (n-1-k)),.string (X (n-1-k)),.string (R (n-1-k)),.bool b,.string lb,.slice (AA (n-1-k)) (Ah (I (n-1-k))) (CC (n-1-k)),iv (H (n-1-k))] 102 (0,0))/\a'={ tmps:=#[.slice (some (ad g 0)) n c,pt w.heap.size,undef,pt Bx,undef,undef,undef,.slice (some (ad g 0)) n c,.func (.func 139) #[] #[pt (w.heap.size+1)],iv ((n-1-k:Nat):Int),.agg #[iv (I (n-1-k)),.string (X (n-1-k)),.string (R (n-1-k)),.bool b,.string lb,.slice (AA (n-1-k)) (Ah (I (n-1-k))) (CC (n-1-k)),iv (H (n-1-k))],undef,undef,undef,undef,undef,undef,undef,undef,undef,undef,undef,undef,undef,undef,undef,undef,undef,undef,undef,undef,undef,undef,undef],defers:=[] })
  (λk v a' _ A B row hs hg hr=>by obtain⟨hk,b,lb,Bx,⟨c3,c4⟩,h1,h2,h3⟩:=hs;exact⟨hk,b,lb,Bx,⟨cell_kept c3 hg (λr e=>(hr r e).2),cell_kept c4 hg (λr e=>(hr r e).2)⟩,h1,Df h2 hg (λr e=>(hr r e).2),h3⟩)
  ?assign ?body ?done
 case assign=>
  rintro l k v W K hs ⟨hk,b,lb,rfl,c3,c4⟩ _ hK;have HS:U (GW (JG n I X (n-k)) w W g n c I X R AA CC H/\W.cell? (ad g ((n-1-k)*7+3))=some (.bool b)/\W.cell? (ad g ((n-1-k)*7+4))=some (.string lb)):=⟨hs,c3,c4⟩;clear hs c3 c4;dsimp only[SC];gi_wp2
  have z:=HS.o.1.gr.size;have zz:=(Array.getElem?_eq_some_iff.1 HS.o.1.b1).1;exact hK _ _ ((KeepsOthers.alloc _ _).from _) (HS.o.1.alloc _) ⟨hk,b,lb,W.heap.size,⟨cell_kept HS.o.2.1 (World.grownBy_alloc W _ none) (λr e=>by cases e),cell_kept HS.o.2.2 (World.grownBy_alloc W _ none) (λr e=>by cases e)⟩,by omega,World.alloc_heap_new W _,rfl⟩
 case body=>
  rintro l k v a' W hl hs ⟨hk,b,lb,Bx,⟨hc3,hc4⟩,hBx,bX,rfl⟩ _;obtain⟨i,hik⟩:∃i,i=n-1-k:=⟨_,rfl⟩;rw[<- hik] at hc3 hc4 bX ⊢;have hi:i<n:=by omega
  have hk1:k+i+1<=n:=by omega
  have hk2:n<=k+i+1:=by omega
  clear hik;have HS:U (GW (Gc n I X i b lb 0) w W g n c I X R AA CC H):=hs.to (λBd Lb hC hp=>by obtain⟨_,_,_,d3,d4,_,_⟩:=hp.seven (i:=i) hi;dsimp only[B5] at d3 d4;rw[d3] at hc3;rw[d4] at hc4;injection hc3 with hc3;injection hc3 with hc3;injection hc4 with hc4;injection hc4 with hc4;refine⟨?_,⟨hc3,hc4⟩,λj hj=>absurd hj (Wy _)⟩;rw[show i+1=n-k by omega];exact hC)
  have hzW:=(Array.getElem?_eq_some_iff.1 hs.b1).1;have hle:=BD (I i);have hbl:=(Array.getElem?_eq_some_iff.1 bX).1;have c0:W.cell? (ad Bx 0)=some (iv (I i)):=by simp[World.cell?,bX]
  have c1:W.cell? (ad Bx 1)=some (.string (X i)):=by simp[World.cell?,bX]
  have c3:W.cell? (ad Bx 3)=some (.bool b):=by simp[World.cell?,bX]
  have c4:W.cell? (ad Bx 4)=some (.string lb):=by simp[World.cell?,bX]
  have c5:W.cell? (ad Bx 5)=some (.slice (AA i) (Ah (I i)) (CC i)):=by simp[World.cell?,bX]
  have hne:¬ (Bx=W.heap.size):=by omega
  dsimp only;clear hs bX hc3 hc4;obtain⟨m,hm⟩:∃m,Ah (I i)=m:=⟨_,rfl⟩;have HM:U (Ah (I i)=m):=hm;rw[hm] at hle c5 ⊢;clear hm;by_cases h9:I i=9
  .have i9:(I i == 9)=true:=by simp[h9]
   have S1:U (GW (Gc n I X i b lb 0) w (W.alloc (.cells #[.bool true,.string (X i)] 99)) g n c I X R AA CC H/\KeepsOthers W (W.alloc (.cells #[.bool true,.string (X i)] 99))/\(W.alloc (.cells #[.bool true,.string (X i)] 99)).heap[W.heap.size]?=some (.cells #[.bool true,.string (X i)] 99 (0,0))):=⟨HS.o.alloc _,KeepsOthers.alloc _ _,World.alloc_heap_new W _⟩;gi_wp2
   gi_loopw [24] (λj wr=>∃q:Nat,q<=m/\j=iv q/\GW (Gc n I X i b lb q) w wr g n c I X R AA CC H/\KeepsOthers W wr/\wr.heap[W.heap.size]?=some (.cells #[.bool true,.string (X i)] 99 (0,0))) (λj _=>m-(intOf j).toNat)
   case atStart=>exact⟨0,Ww _,rfl,S1.o.1,S1.o.2.1,S1.o.2.2⟩
   case round=>
    obtain⟨q,hq,rfl,hs2,hko,hcx⟩:=hrel;have S2:U (GW (Gc n I X i b lb q) w wr g n c I X R AA CC H/\KeepsOthers W wr/\wr.heap[W.heap.size]?=some (.cells #[.bool true,.string (X i)] 99 (0,0))):=⟨hs2,hko,hcx⟩;have x0:wr.cell? (ad w.heap.size 0)=some (.slice (some (ad g 0)) n c):=by simp[World.cell?,hs2.b0]
    have y0:wr.cell? (ad W.heap.size 0)=some (.bool true):=by simp[World.cell?,hcx]
    have y1:wr.cell? (ad W.heap.size 1)=some (.string (X i)):=by simp[World.cell?,hcx]
    clear hs2 hko hcx;by_cases hql:q<m
    .have iq:(q:Int)<((m:Nat):Int):=by omega
     have iq0:(0:Int)<=(q:Int):=by omega
     have hql2:q<Ah (I i):=by rw[HM.o];exact hql
     have hxl:=Gt HOK.o hi (Dc I i) (j:=q) hql2;obtain⟨gb,go,hA,hcx⟩:∃gb go,AA i=some (ad gb go)/\wr.cell? (ad gb (go+q))=some (iv ((AK (At I) i q:Nat):Int)):=by
      rcases HO.o wr S2.o.1.gr i hi with h|⟨gb,go,e,hc⟩;.rw[HM.o] at h;omega
      .exact⟨gb,go,e,hc q hql2⟩
     rw[hA];have S3:U (GW (Gc n I X i b lb (q+1)) w ((wr.setCell (ad g (AK (At I) i q*7+3)) (.bool true)).setCell (ad g (AK (At I) i q*7+4)) (.string (X i))) g n c I X R AA CC H/\KeepsOthers W ((wr.setCell (ad g (AK (At I) i q*7+3)) (.bool true)).setCell (ad g (AK (At I) i q*7+4)) (.string (X i)))/\((wr.setCell (ad g (AK (At I) i q*7+3)) (.bool true)).setCell (ad g (AK (At I) i q*7+4)) (.string (X i))).heap[W.heap.size]?=some (.cells #[.bool true,.string (X i)] 99 (0,0))):=by
      refine⟨S2.o.1.set hgl _ _ _ (λBd Lb h=>?_),(S2.o.2.1.trans (KeepsOthers.setCell _ _ _)).trans (KeepsOthers.setCell _ _ _),?_⟩
      .have q9:=h.step HOK.o hi hql2;have eB:RJ (I i) b=true:=by unfold RJ;simp[h9]
       have eG:RO (I i) (X i) lb=(X i):=by unfold RO;simp[h9]
       rw[eB,eG] at q9;exact q9
      .rw[Wv _ _ _ _ (by show W.heap.size≠g;omega),Wv _ _ _ _ (by show W.heap.size≠g;omega)];exact S2.o.2.2
     generalize AK (At I) i q=x at hxl hcx S3;have ix:(x:Int)<(n:Int):=by omega
     have ix0:(0:Int)<=(x:Int):=by omega
     obtain⟨f3,f4,d3,d4⟩:wr.frozen? (ad g (x*7+3))=false/\wr.frozen? (ad g (x*7+4))=false/\(∃v,wr.cell? (ad g (x*7+3))=some v)/\(∃v,wr.cell? (ad g (x*7+4))=some v):=by obtain⟨Bd,Lb,hp⟩:=S2.o.1.pl.any;obtain⟨_,_,_,d3,d4,_,_⟩:=hp.seven (i:=x) (by omega);exact⟨hp.frozen _,hp.frozen _,⟨_,d3⟩,⟨_,d4⟩⟩
     obtain⟨v3,d3⟩:=d3;obtain⟨v4,d4⟩:=d4;gi_wp2
     go_roundw;case rel=>exact⟨q+1,by omega,by go_num,S3.o⟩
     case measure=>simp[intOf];omega
    .have e:q=m:=by omega
     subst e;have S4:U (KeepsFrom W0.heap.size W wr/\GW (JG n I X (n-(k+1))) w wr g n c I X R AA CC H):=⟨S2.o.2.1.from _,S2.o.1.to (λBd Lb h _=>by rw[show n-(k+1)=i by omega];rw[<- HM.o] at h;exact h.done)⟩;gi_wp2
     exact S4.o
  .have i9:(I i == 9)=false:=by simp[h9]
   have S1:U (GW (Gc n I X i b lb 0) w (W.alloc (.cells #[.bool b,.string lb] 99)) g n c I X R AA CC H/\KeepsOthers W (W.alloc (.cells #[.bool b,.string lb] 99))/\(W.alloc (.cells #[.bool b,.string lb] 99)).heap[W.heap.size]?=some (.cells #[.bool b,.string lb] 99 (0,0))):=⟨HS.o.alloc _,KeepsOthers.alloc _ _,World.alloc_heap_new W _⟩;gi_wp2
   gi_loopw [24] (λj wr=>∃q:Nat,q<=m/\j=iv q/\GW (Gc n I X i b lb q) w wr g n c I X R AA CC H/\KeepsOthers W wr/\wr.heap[W.heap.size]?=some (.cells #[.bool b,.string lb] 99 (0,0))) (λj _=>m-(intOf j).toNat)
   case atStart=>exact⟨0,Ww _,rfl,S1.o.1,S1.o.2.1,S1.o.2.2⟩
   case round=>
    obtain⟨q,hq,rfl,hs2,hko,hcx⟩:=hrel;have S2:U (GW (Gc n I X i b lb q) w wr g n c I X R AA CC H/\KeepsOthers W wr/\wr.heap[W.heap.size]?=some (.cells #[.bool b,.string lb] 99 (0,0))):=⟨hs2,hko,hcx⟩;have x0:wr.cell? (ad w.heap.size 0)=some (.slice (some (ad g 0)) n c):=by simp[World.cell?,hs2.b0]
    have y0:wr.cell? (ad W.heap.size 0)=some (.bool b):=by simp[World.cell?,hcx]
    have y1:wr.cell? (ad W.heap.size 1)=some (.string lb):=by simp[World.cell?,hcx]
    clear hs2 hko hcx;by_cases hql:q<m
    .have iq:(q:Int)<((m:Nat):Int):=by omega
     have iq0:(0:Int)<=(q:Int):=by omega
     have hql2:q<Ah (I i):=by rw[HM.o];exact hql
     have hxl:=Gt HOK.o hi (Dc I i) (j:=q) hql2;obtain⟨gb,go,hA,hcx⟩:∃gb go,AA i=some (ad gb go)/\wr.cell? (ad gb (go+q))=some (iv ((AK (At I) i q:Nat):Int)):=by
      rcases HO.o wr S2.o.1.gr i hi with h|⟨gb,go,e,hc⟩;.rw[HM.o] at h;omega
      .exact⟨gb,go,e,hc q hql2⟩
     rw[hA];have S3:U (GW (Gc n I X i b lb (q+1)) w ((wr.setCell (ad g (AK (At I) i q*7+3)) (.bool b)).setCell (ad g (AK (At I) i q*7+4)) (.string lb)) g n c I X R AA CC H/\KeepsOthers W ((wr.setCell (ad g (AK (At I) i q*7+3)) (.bool b)).setCell (ad g (AK (At I) i q*7+4)) (.string lb))/\((wr.setCell (ad g (AK (At I) i q*7+3)) (.bool b)).setCell (ad g (AK (At I) i q*7+4)) (.string lb)).heap[W.heap.size]?=some (.cells #[.bool b,.string lb] 99 (0,0))):=by
      refine⟨S2.o.1.set hgl _ _ _ (λBd Lb h=>?_),(S2.o.2.1.trans (KeepsOthers.setCell _ _ _)).trans (KeepsOthers.setCell _ _ _),?_⟩
      .have q9:=h.step HOK.o hi hql2;have eB:RJ (I i) b=b:=by unfold RJ;simp[h9]
       have eG:RO (I i) (X i) lb=lb:=by unfold RO;simp[h9]
       rw[eB,eG] at q9;exact q9
      .rw[Wv _ _ _ _ (by show W.heap.size≠g;omega),Wv _ _ _ _ (by show W.heap.size≠g;omega)];exact S2.o.2.2
     generalize AK (At I) i q=x at hxl hcx S3;have ix:(x:Int)<(n:Int):=by omega
     have ix0:(0:Int)<=(x:Int):=by omega
     obtain⟨f3,f4,d3,d4⟩:wr.frozen? (ad g (x*7+3))=false/\wr.frozen? (ad g (x*7+4))=false/\(∃v,wr.cell? (ad g (x*7+3))=some v)/\(∃v,wr.cell? (ad g (x*7+4))=some v):=by obtain⟨Bd,Lb,hp⟩:=S2.o.1.pl.any;obtain⟨_,_,_,d3,d4,_,_⟩:=hp.seven (i:=x) (by omega);exact⟨hp.frozen _,hp.frozen _,⟨_,d3⟩,⟨_,d4⟩⟩
     obtain⟨v3,d3⟩:=d3;obtain⟨v4,d4⟩:=d4;gi_wp2
     go_roundw;case rel=>exact⟨q+1,by omega,by go_num,S3.o⟩
     case measure=>simp[intOf];omega
    .have e:q=m:=by omega
     subst e;have S4:U (KeepsFrom W0.heap.size W wr/\GW (JG n I X (n-(k+1))) w wr g n c I X R AA CC H):=⟨S2.o.2.1.from _,S2.o.1.to (λBd Lb h _=>by rw[show n-(k+1)=i by omega];rw[<- HM.o] at h;exact h.done)⟩;gi_wp2
     exact S4.o
 case done=>
  rintro D W hD hs hK;rw[Nat.sub_self] at hs;gi_wp2
  refine⟨by simp,.inl ⟨_,_,rfl,run_takeDeferred hK,?_⟩⟩;have hq:=hs.kept (grownBy_putObj' W D (.deferred none)) (λr e=>by cases e;exact⟨hD,_,hK,rfl⟩) (by omega);exact⟨_,results_none rfl _ _ _,rfl,hq.pl,hq.gr⟩
def CtxC (n:Nat) (I:Nat->Int) (X:Nat->ByteArray) (Bd:Nat->Bool) (Lb:Nat->ByteArray):Prop:=JG n I X 0 Bd Lb
theorem QU:M4 CtxC:=by intro g n c B I X R AA CC H w hP hO hcap hok hn hn0 hB;refine (callsIn_wide.1 (QH Fence.wide 6 trivial trivial trivial rfl (by omega) g n c B I X R AA CC H w hP hO hcap hok hn hn0)).mono ?_;rintro e w' ⟨he,⟨Bd,Lb,hC,hp⟩,hg⟩;exact⟨he,Bd,Lb,hC,hp,hg⟩
theorem Ns (a:Option Addr) (n c:Nat) (I:Nat->Int) (X R:Nat->ByteArray) (w:World) (h:DP w a n I X R) (hn:n<=1048576) (hc:n<=c) (hcm:c<=9223372036854775807) :
  WS 39 #[.agg #[.slice a n c]] w (Lj (CtxC n I X) w n I X R):=Kw CtxC Mu QU PV a n c I X R w h hn hc hcm
end Go.Proofs.YtacpbofiipdodaaGreat
