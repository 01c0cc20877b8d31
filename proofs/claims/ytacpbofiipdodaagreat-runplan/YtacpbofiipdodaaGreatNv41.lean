import Derived.Test.YtacpbofiipdodaaGreatNv3
set_option linter.unusedVariables false
set_option linter.unusedSimpArgs false
set_option maxRecDepth 100000
set_option maxHeartbeats 90000000
namespace Go.Proofs.YtacpbofiipdodaaGreat
open Go Go.Deep Go.RowKit
theorem No (i r:Int) (x:ByteArray) (l:Int) (w:World) (hx:x.size<=maxLen) (h0:0<=l) (h1:l<=1048576) :
  WS 58 #[.agg #[iv i,.string x,iv r],iv l] w λe w'=>∃q:Int,e=.returned (iv q)/\(q=-1\/(0<=q/\q<=1048576))/\Bl w w':=by
 unfold maxLen at hx;by_cases h:l-(x.size:Int)<0;.go_enter Tryz.func58,Tryz.ntmps58;go_wp2;go_ret;exact⟨-1,rfl,Or.inl rfl,Aa _ _⟩
 .go_enter Tryz.func58,Tryz.ntmps58;go_wp2;go_ret;exact⟨_,rfl,Or.inr ⟨by omega,by omega⟩,Aa _ _⟩
theorem TY:(Tryz.prog.info? 131).map (λi=>(i.zero,i.size,i.bytes))=some (some (.agg #[iv 0,.string { data:=#[] },iv 0]),3,32):=by kernel_rfl
theorem QF:Tryz.prog.underlying 43=some (.slice 131):=by kernel_rfl
theorem MS (i r:Int) (x:ByteArray) (w:World) :
  WS 82 #[.agg #[iv i,.string x,iv r]] w λe w'=>e=.returned (.agg #[iv i,.string x,iv r])/\Below w.heap.size w w':=by go_enter Tryz.func82,Tryz.ntmps82;go_wp2;refine bodyPost_ret (v:=.agg #[iv i,.string x,iv r]) (by simp[results,Tryz.results82,go_sem]) rfl ⟨rfl,?_⟩;exact ((Aa _ _).alloc (by simp) _).alloc (by simp;omega) _
theorem LV (a:Option Addr) (n c:Nat) (I:Nat->Int) (X:Nat->ByteArray) (R:Nat->Int) (w:World) (h:E0 w a n I X R) (hn:n<=1048576) :
  WS 37 #[.slice a n c] w λe w'=>e=.returned (.slice (some (ad w.heap.size 0)) n n)/\Ai w' w.heap.size 131 (n*3) (Az I X R)/\Below w.heap.size w w':=by
 have hmk:∀w:World,(Instr.makeSlice 43 (iv (n:Int)) (iv (n:Int))).run Tryz.prog w=.ok (.slice (some (ad w.heap.size 0)) n n) (w.alloc (.cells (madeCells #[iv 0,.string { data:=#[] },iv 0] (n*3)) 131)):=by intro w;obtain⟨i0,hi,hz0,hz1,hz2⟩:=info_parts TY;have:=run_make (P:=Tryz.prog) w 43 131 i0 _ QF hi hz0 .i64 .i64 n n (by omega) (by omega) (by rw[hz2];omega) (by omega);rw[hz1,show (Value.agg #[iv 0,.string { data:=#[] },iv 0]).cells=#[iv 0,.string { data:=#[] },iv 0] from rfl] at this;simpa using this
 have H0:U (Ai (w.alloc (.cells (madeCells #[iv 0,.string { data:=#[] },iv 0] (n*3)) 131)) w.heap.size 131 (n*3) (λj=>if j<0*3 then Az I X R j else Az (λ_=>0) (λ_=>{ data:=#[] }) (λ_=>0) j)):=
  (Vh w n).congr (λi _=>by simp)
 go_enter Tryz.func37,Tryz.ntmps37;go_wp2;go_loopw [4] (λi wr=>∃k:Nat,k<=n/\i=iv k/\Ai wr w.heap.size 131 (n*3) (λj=>if j<k*3 then Az I X R j else Az (λ_=>0) (λ_=>{ data:=#[] }) (λ_=>0) j)/\Below w.heap.size w wr) (λi _=>n-(intOf i).toNat)
 case atStart=>exact⟨0,Ww _,rfl,H0.o,Aa _ _⟩
 case round=>
  obtain⟨k,hk,rfl,hrow,hbel⟩:=hrel;clear H0;by_cases hlt:k<n
  .have hne:¬ n=0:=by omega
   have h':=h.below hbel;have HB:=hid hbel;have HR:=hid hrow;have hsz:=hbel.size;rcases h' with h' | ⟨b,o,rfl,hc⟩;.exact absurd h' hne
   obtain⟨c1,c2,c3⟩:=hc k hlt;clear hc hbel h hrow hmk;go_wp2_with fail
   refine (MS (I k) (R k) (X k) _).mono ?_;rintro e w1 ⟨rfl,hb1⟩;have hrow:=HR.o.of_block (hb1.block _ HR.o.lt);have hc1:=hrow.cell (i:=k*3) (by omega);have hc2:=hrow.cell (i:=k*3+1) (by omega);have hc3:=hrow.cell (i:=k*3+2) (by omega);have hf1:=hrow.frozen (k*3);have hf2:=hrow.frozen (k*3+1);have hf3:=hrow.frozen (k*3+2);have HX:U (Ai (((w1.setCell (ad w.heap.size (k*3)) (iv (I k))).setCell (ad w.heap.size (k*3+1)) (.string (X k))).setCell (ad w.heap.size (k*3+2)) (iv (R k))) w.heap.size 131 (n*3) (λj=>if j<(k+1)*3 then Az I X R j else Az (λ_=>0) (λ_=>{ data:=#[] }) (λ_=>0) j)/\
     Below w.heap.size w (((w1.setCell (ad w.heap.size (k*3)) (iv (I k))).setCell (ad w.heap.size (k*3+1)) (.string (X k))).setCell (ad w.heap.size (k*3+2)) (iv (R k)))):=by
    refine⟨(((hrow.set (k*3) _).set (k*3+1) _).set (k*3+2) _).congr (λj hj=>?_),(((HB.o.trans (hb1.mono hsz)).setCell (Wu _) _).setCell (Wu _) _).setCell (Wu _) _⟩
    by_cases e2:j=k*3+2
    .subst e2
     rw[if_pos (by omega:k*3+2<(k+1)*3),Bu];simp
    by_cases e1:j=k*3+1
    .subst e1
     rw[if_pos (by omega:k*3+1<(k+1)*3),Bv];simp
    by_cases e0:j=k*3
    .subst e0
     rw[if_pos (by omega:k*3<(k+1)*3),Bt];simp
    simp only[if_neg e0,if_neg e1,if_neg e2]
    by_cases e:j<k*3
    .rw[if_pos e,if_pos (by omega)]
    .rw[if_neg e,if_neg (by omega)]
   clear hrow hb1 HR;go_wp2;go_roundw;case rel=>exact⟨k+1,by omega,by go_num,HX.o.1,HX.o.2⟩
   case measure=>simp[intOf];omega
  .have e:k=n:=by omega
   subst e;have HX:U (Ai wr w.heap.size 131 (k*3) (Az I X R)):=hrow.congr (λj hj=>by simp[hj]);clear hrow;go_wp2;go_ret;exact⟨rfl,HX.o,hbel⟩
def RX (w:World) (next:Int) (n:Nat) (I:Nat->Int) (X:Nat->ByteArray) (R:Nat->Int) (e:Ending) (w' : World):Prop:=
 ∃g,e=.returned (.agg #[iv next,.slice (some (ad g 0)) n n])/\w.heap.size<=g/\Ai w' g 131 (n*3) (Az I X R)/\Below w.heap.size w w'
theorem MZ (next:Int) (a:Option Addr) (n c:Nat) (I:Nat->Int) (X:Nat->ByteArray) (R:Nat->Int) (w:World) (h:E0 w a n I X R) (hn:n<=1048576) :
  WS 9 #[.agg #[iv next,.slice a n c]] w (RX w next n I X R):=by
 have hbel:∀o1 o2 o3,Below w.heap.size w (((w.alloc o1).alloc o2).alloc o3):=λo1 o2 o3=>(((Aa _ _).alloc (by simp) _).alloc (by simp;omega) _);have hsz:∀o1 o2 o3,(((w.alloc o1).alloc o2).alloc o3).heap.size=w.heap.size+3:=λo1 o2 o3=>by simp
 have HH:=hid (ai hbel hsz);clear hbel hsz;go_enter Tryz.func9,Tryz.ntmps9;go_wp2_with fail
 refine (LV a n c I X R _ (h.below (HH.o.1 _ _ _)) hn).mono ?_;rintro e w1 ⟨rfl,hr1,hb1⟩;rw[HH.o.2] at hr1 hb1 ⊢;have hz:w.heap.size+2<w1.heap.size:=by have:=hr1.lt;omega
 have hc:=λb o hb=>hb1.cell (p:=(ad b o)) hb;have hf:=λb o hb=>hb1.frozen (p:=(ad b o)) hb;have HE:=hid (ai hr1 ((HH.o.1 _ _ _).trans (hb1.mono (by omega))));clear hr1 hb1;go_wp2;refine bodyPost_ret (v:=.agg #[iv next,.slice (some (ad (w.heap.size+3) 0)) n n]) (by simp[results,Tryz.results9,go_sem,hc]) rfl ⟨_,rfl,by omega,?_,?_⟩;.exact ((HE.o.1.setOther (by simp) _).setOther (by simp) _).setOther (by simp) _
 .exact ((HE.o.2.setCell (by simp;omega) _).setCell (by simp) _).setCell (by simp) _
theorem MP (i r:Int) (x:ByteArray) (w:World) :
  WS 103 #[.agg #[iv i,.string x,iv r],.agg #[iv i,.string x,iv r]] w (WT w (.bool true)):=by
 have h1:(i != i)=false:=by simp
 have h2:(r != r)=false:=by simp
 have h3:(x.toList == x.toList)=true:=by simp
 go_enter Tryz.func103,Tryz.ntmps103;go_wp2;go_ret;exact⟨rfl,(Aa _ _).trans ((Aa _ _).mono (by simp))⟩
theorem LO (a b:Option Addr) (n ca cb:Nat) (I:Nat->Int) (X:Nat->ByteArray) (R:Nat->Int) (w:World) (ha:E0 w a n I X R) (hb:E0 w b n I X R) (hn:n<=1048576) :
  WS 50 #[.slice a n ca,.slice b n cb] w (WT w (.bool true)):=by
 have hll:((n:Int) != (n:Int))=false:=by simp
 go_enter Tryz.func50,Tryz.ntmps50;go_wp2;go_loopw [5] (λi wr=>∃k:Nat,k<=n/\i=iv k/\Bl w wr) (λi _=>n-(intOf i).toNat)
 case atStart=>exact⟨0,Ww _,rfl,Wt _ _⟩
 case round=>
  obtain⟨k,hk,rfl,hbel⟩:=hrel;by_cases hlt:k<n
  .have hne:¬ n=0:=by omega
   have ha':=ha.below hbel;have hb':=hb.below hbel;rcases ha' with h|⟨ba,oa,rfl,hca⟩;.exact absurd h hne
   rcases hb' with h|⟨bb,ob,rfl,hcb⟩;.exact absurd h hne
   obtain⟨h1,h2,h3⟩:=hca k hlt;obtain⟨g1,g2,g3⟩:=hcb k hlt;clear hca hcb ha hb;have hsz:=hbel.size;have HB:=hid hbel;clear hbel;go_wp2;go_region_with (go_at_call 103;refine (MP (I k) (R k) (X k) _).mono ?_;rintro e w2 ⟨rfl,hb2⟩)
   all_goals
    have HX:=hid ((HB.o.drew).trans (hb2.mono (by simpa using hsz)))
    clear hb2 h1 h2 h3 g1 g2 g3
    go_wp2
    go_roundw
    case rel=>exact⟨k+1,by omega,by go_num,HX.o⟩
    case measure=>simp[intOf];omega
  .have e:k=n:=by omega
   subst e;go_wp2;go_ret;exact⟨rfl,hbel⟩
theorem M5 (next:Int) (a b:Option Addr) (n ca cb:Nat) (I:Nat->Int) (X:Nat->ByteArray) (R:Nat->Int) (w:World) (ha:E0 w a n I X R) (hb:E0 w b n I X R) (hn:n<=1048576) :
  WS 15 #[.agg #[iv next,.slice a n ca],.agg #[iv next,.slice b n cb]] w (WT w (.bool true)):=by
 have h1:(next != next)=false:=by simp
 have hbel:∀o1 o2,Bl w ((w.alloc o1).alloc o2):=λo1 o2=>((Wt _ _).alloc (Wu _) o1).alloc (by simp) o2;have HH:=hid hbel;clear hbel;go_enter Tryz.func15,Tryz.ntmps15;go_wp2_with fail
 refine (LO a b n ca cb I X R _ (ha.below (HH.o _ _)) (hb.below (HH.o _ _)) hn).mono ?_;rintro e w1 ⟨rfl,hb1⟩;have HX:=hid ((HH.o _ _).trans (hb1.mono (by simp;omega)));clear hb1;go_wp2;go_ret;exact⟨rfl,HX.o⟩
end Go.Proofs.YtacpbofiipdodaaGreat
namespace Go.Proofs.YtacpbofiipdodaaGreat
open Go Go.ChangeAt Go.ChangeShapes Go.Deep Go.Joins Go.RowKit Go.WideShapes
section
variable {H:Type} {enc:TypeId × Value->H} {W:World}
theorem Q6 {w:World} {a:Addr} {v:Value} (h:w.cell? (a.add 0)=some v):a.spot=none:=by obtain⟨b,off,spot⟩:=a;simpa[Addr.add] using World.cell?_spot h
theorem Sb {b off i:Nat}:(Addr.add (ad b off) i)=(ad b (off+i)):=by
 unfold Addr.add;by_cases h:i=0;.subst h;simp
 .simp[h]
set_option maxRecDepth 100000 in
theorem Qn {fuel:Nat} {cs:List Value} {x:DataW H × List MemPlace} (h:DataW.trod enc Tryz.prog W 0 (λ_=>true) true fuel 25 cs=some x) :
  ∃a n c I X R,cs=[.slice a n c]/\E0 W a n I X R/\(∀i,i<n->(X i).size<=maxLen)/\n<=maxLen:=by
 rcases open_slice (P:=Tryz.prog) (t:=25) (e:=122) (by kernel_rfl) h with ⟨hcs,_⟩|⟨a,len,cap,m,fu,D,Pl,hcs,_,hl,hm,hmm,_,hx⟩;.exact⟨none,0,0,λ_=>0,λ_=>{ data:=#[] },λ_=>0,hcs,Or.inl rfl,λi hi=>absurd hi (Wy _),Ww _⟩
 .have hlm:len<=m:=by rw[hmm];split <;> omega
  have each:∀i,i<len->∃q:Int × ByteArray × Int,W.cell? (a.add (i*3))=some (iv q.1)/\W.cell? (a.add (i*3+1))=some (.string q.2.1)/\W.cell? (a.add (i*3+2))=some (iv q.2.2)/\q.2.1.size<=maxLen:=by
   intro i hi;obtain⟨cs',h1,h2⟩:=hx i (by omega);rw[show Tryz.prog.cellsOf 122=3 by kernel_rfl] at h1;obtain⟨_,hlen,hcell⟩:=World.cells?_some h1;obtain⟨xs,k,hk,hxy,_,hxl,hf⟩:=DataW.trod_struct (P:=Tryz.prog) Tryz.underlying122 h2;have g0:=hf 0 _ rfl;have g1:=hf 1 _ rfl;have g2:=hf 2 _ rfl;rw[show Tryz.prog.cellsOf _=1 by kernel_rfl] at g0 g1 g2;match xs,hxl,cs',hlen with
   | [y0,y1,y2],_,[v0,v1,v2],_=>simp at g0 g1 g2;obtain⟨i0,e0,_,_⟩:=DataW.trod_int Tryz.underlying2 g0;obtain⟨x0,e1,_,hs⟩:=DataW.trod_string Tryz.underlying9 g1;obtain⟨r0,e2,_,_⟩:=DataW.trod_int Tryz.underlying2 g2;simp at e0 e1 e2;subst e0 e1 e2;have c0:=hcell 0 (by omega);have c1:=hcell 1 (by omega);have c2:=hcell 2 (by omega);rw[Addr.add_add] at c0 c1 c2;exact⟨(i0,x0,r0),by simpa using c0,by simpa using c1,by simpa using c2,hs⟩
  obtain⟨q,hq⟩:=choose_lt each;refine⟨some a,len,cap,λi=>(q i).1,λi=>(q i).2.1,λi=>(q i).2.2,hcs,?_,λi hi=>(hq i hi).2.2.2,by omega⟩;by_cases h0:len=0;.exact Or.inl h0
  .obtain⟨b,off,spot⟩:=a;have hs:=Q6 (a:=⟨b,off,spot⟩) (by simpa using (hq 0 (by omega)).1);simp at hs;subst hs;refine Or.inr ⟨b,off,rfl,λi hi=>?_⟩;obtain⟨k0,k1,k2,_⟩:=hq i hi;rw[Sb] at k0 k1 k2;exact⟨k0,k1,k2⟩
def IsDict (w:World) (v:Value):Prop:=
 ∃next a n c I X R,v=.agg #[iv next,.slice a n c]/\E0 w a n I X R/\(∀i,i<n->(X i).size<=maxLen)/\n<=maxLen
set_option maxRecDepth 100000 in
theorem openDict {r:Reach} {b0:Nat} {v:Value} {d:DataW H} {p:List MemPlace} (hv:Value.okWide Tryz.prog W r b0 27 v) (h:DataW.Trod enc Tryz.prog W 0 (λ_=>true) true 27 v d p):IsDict W v:=by obtain⟨v0,v1,y0,y1,n,rfl,_,_,h0,h1⟩:=open_agg2 Tryz.underlying27 (by kernel_rfl) (by kernel_rfl) hv h;obtain⟨next,e0,_,_⟩:=DataW.trod_int Tryz.underlying2 h0;obtain⟨a,n',c,I,X,R,e1,hr,hX,hn⟩:=Qn h1;simp at e0 e1;subst e0 e1;exact⟨next,a,n',c,I,X,R,rfl,hr,hX,hn⟩
end
end Go.Proofs.YtacpbofiipdodaaGreat
