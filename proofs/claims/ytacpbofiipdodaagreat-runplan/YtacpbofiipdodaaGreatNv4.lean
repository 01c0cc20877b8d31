import Derived.Test.YtacpbofiipdodaaGreatNv3
set_option linter.unusedVariables false
set_option linter.unusedSimpArgs false
set_option maxRecDepth 100000
set_option maxHeartbeats 90000000
namespace Go.Proofs.YtacpbofiipdodaaGreat
open Go Go.Deep Go.RowKit
theorem TO:(Tryz.prog.info? 97).map (λi=>(i.zero,i.size,i.bytes))=some (some (.agg #[iv 0,.string { data:=#[] },.string { data:=#[] }]),3,40):=by kernel_rfl
theorem Re:Tryz.prog.underlying 39=some (.slice 97):=by kernel_rfl
theorem Lo (i:Int) (x r:ByteArray) (w:World) :
  WS 81 #[.agg #[iv i,.string x,.string r]] w λe w'=>e=.returned (.agg #[iv i,.string x,.string r])/\Below w.heap.size w w':=by go_enter Tryz.func81,Tryz.ntmps81;go_wp2;refine bodyPost_ret (v:=.agg #[iv i,.string x,.string r]) (by simp[results,Tryz.results81,go_sem]) rfl ⟨rfl,?_⟩;exact ((Aa _ _).alloc (by simp) _).alloc (by simp;omega) _
theorem Kt (a:Option Addr) (n c:Nat) (I:Nat->Int) (X:Nat->ByteArray) (R:Nat->ByteArray) (w:World) (h:DP w a n I X R) (hn:n<=1048576) :
  WS 36 #[.slice a n c] w λe w'=>e=.returned (.slice (some (ad w.heap.size 0)) n n)/\Ai w' w.heap.size 97 (n*3) (AX I X R)/\Below w.heap.size w w':=by
 have hmk:∀w:World,(Instr.makeSlice 39 (iv (n:Int)) (iv (n:Int))).run Tryz.prog w=.ok (.slice (some (ad w.heap.size 0)) n n) (w.alloc (.cells (madeCells #[iv 0,.string { data:=#[] },.string { data:=#[] }] (n*3)) 97)):=by intro w;obtain⟨i0,hi,hz0,hz1,hz2⟩:=info_parts TO;have:=run_make (P:=Tryz.prog) w 39 97 i0 _ Re hi hz0 .i64 .i64 n n (by omega) (by omega) (by rw[hz2];omega) (by omega);rw[hz1,show (Value.agg #[iv 0,.string { data:=#[] },.string { data:=#[] }]).cells=#[iv 0,.string { data:=#[] },.string { data:=#[] }] from rfl] at this;simpa using this
 have H0:U (Ai (w.alloc (.cells (madeCells #[iv 0,.string { data:=#[] },.string { data:=#[] }] (n*3)) 97)) w.heap.size 97 (n*3) (λj=>if j<0*3 then AX I X R j else AX (λ_=>0) (λ_=>{ data:=#[] }) (λ_=>{ data:=#[] }) j)):=
  (Vy w n).congr (λi _=>by simp)
 go_enter Tryz.func36,Tryz.ntmps36;go_wp2;go_loopw [4] (λi wr=>∃k:Nat,k<=n/\i=iv k/\Ai wr w.heap.size 97 (n*3) (λj=>if j<k*3 then AX I X R j else AX (λ_=>0) (λ_=>{ data:=#[] }) (λ_=>{ data:=#[] }) j)/\Below w.heap.size w wr) (λi _=>n-(intOf i).toNat)
 case atStart=>exact⟨0,Ww _,rfl,H0.o,Aa _ _⟩
 case round=>
  obtain⟨k,hk,rfl,hrow,hbel⟩:=hrel;clear H0;by_cases hlt:k<n
  .have hne:¬ n=0:=by omega
   have h':=h.below hbel;have HB:=hid hbel;have HR:=hid hrow;have hsz:=hbel.size;rcases h' with h' | ⟨b,o,rfl,hc⟩;.exact absurd h' hne
   obtain⟨c1,c2,c3⟩:=hc k hlt;clear hc hbel h hrow hmk;go_wp2_with fail
   refine (Lo (I k) (X k) (R k) _).mono ?_;rintro e w1 ⟨rfl,hb1⟩;have hrow:=HR.o.of_block (hb1.block _ HR.o.lt);have hc1:=hrow.cell (i:=k*3) (by omega);have hc2:=hrow.cell (i:=k*3+1) (by omega);have hc3:=hrow.cell (i:=k*3+2) (by omega);have hf1:=hrow.frozen (k*3);have hf2:=hrow.frozen (k*3+1);have hf3:=hrow.frozen (k*3+2);have HX:U (Ai (((w1.setCell (ad w.heap.size (k*3)) (iv (I k))).setCell (ad w.heap.size (k*3+1)) (.string (X k))).setCell (ad w.heap.size (k*3+2)) (.string (R k))) w.heap.size 97 (n*3) (λj=>if j<(k+1)*3 then AX I X R j else AX (λ_=>0) (λ_=>{ data:=#[] }) (λ_=>{ data:=#[] }) j)/\
     Below w.heap.size w (((w1.setCell (ad w.heap.size (k*3)) (iv (I k))).setCell (ad w.heap.size (k*3+1)) (.string (X k))).setCell (ad w.heap.size (k*3+2)) (.string (R k)))):=by
    refine⟨(((hrow.set (k*3) _).set (k*3+1) _).set (k*3+2) _).congr (λj hj=>?_),(((HB.o.trans (hb1.mono hsz)).setCell (Wu _) _).setCell (Wu _) _).setCell (Wu _) _⟩
    by_cases e2:j=k*3+2
    .subst e2
     rw[if_pos (by omega:k*3+2<(k+1)*3),Cc];simp
    by_cases e1:j=k*3+1
    .subst e1
     rw[if_pos (by omega:k*3+1<(k+1)*3),Ci];simp
    by_cases e0:j=k*3
    .subst e0
     rw[if_pos (by omega:k*3<(k+1)*3),B8];simp
    simp only[if_neg e0,if_neg e1,if_neg e2]
    by_cases e:j<k*3
    .rw[if_pos e,if_pos (by omega)]
    .rw[if_neg e,if_neg (by omega)]
   clear hrow hb1 HR;go_wp2;go_roundw;case rel=>exact⟨k+1,by omega,by go_num,HX.o.1,HX.o.2⟩
   case measure=>simp[intOf];omega
  .have e:k=n:=by omega
   subst e;have HX:U (Ai wr w.heap.size 97 (k*3) (AX I X R)):=hrow.congr (λj hj=>by simp[hj]);clear hrow;go_wp2;go_ret;exact⟨rfl,HX.o,hbel⟩
def SB (w:World) (n:Nat) (I:Nat->Int) (X:Nat->ByteArray) (R:Nat->ByteArray) (e:Ending) (w' : World):Prop:=
 ∃g,e=.returned (.agg #[.slice (some (ad g 0)) n n])/\w.heap.size<=g/\Ai w' g 97 (n*3) (AX I X R)/\Below w.heap.size w w'
theorem NH (a:Option Addr) (n c:Nat) (I:Nat->Int) (X:Nat->ByteArray) (R:Nat->ByteArray) (w:World) (h:DP w a n I X R) (hn:n<=1048576) :
  WS 8 #[.agg #[.slice a n c]] w (SB w n I X R):=by
 have hbel:∀o1 o2 o3,Below w.heap.size w (((w.alloc o1).alloc o2).alloc o3):=λo1 o2 o3=>(((Aa _ _).alloc (by simp) _).alloc (by simp;omega) _);have hsz:∀o1 o2 o3,(((w.alloc o1).alloc o2).alloc o3).heap.size=w.heap.size+3:=λo1 o2 o3=>by simp
 have HH:=hid (ai hbel hsz);clear hbel hsz;go_enter Tryz.func8,Tryz.ntmps8;go_wp2_with fail
 refine (Kt a n c I X R _ (h.below (HH.o.1 _ _ _)) hn).mono ?_;rintro e w1 ⟨rfl,hr1,hb1⟩;rw[HH.o.2] at hr1 hb1 ⊢;have hz:w.heap.size+2<w1.heap.size:=by have:=hr1.lt;omega
 have hc:=λb o hb=>hb1.cell (p:=(ad b o)) hb;have hf:=λb o hb=>hb1.frozen (p:=(ad b o)) hb;have HE:=hid (ai hr1 ((HH.o.1 _ _ _).trans (hb1.mono (by omega))));clear hr1 hb1;go_wp2;refine bodyPost_ret (v:=.agg #[.slice (some (ad (w.heap.size+3) 0)) n n]) (by simp[results,Tryz.results8,go_sem,hc]) rfl ⟨_,rfl,by omega,?_,?_⟩
 .first
  | exact (HE.o.1.setOther (by simp) _).setOther (by simp) _
  | exact HE.o.1.setOther (by simp) _
 .first
  | exact (HE.o.2.setCell (by simp;omega) _).setCell (by simp) _
  | exact HE.o.2.setCell (by simp) _
theorem My (i:Int) (x r:ByteArray) (w:World) :
  WS 102 #[.agg #[iv i,.string x,.string r],.agg #[iv i,.string x,.string r]] w (WT w (.bool true)):=by
 have h1:(i != i)=false:=by simp
 have h2:(r.toList == r.toList)=true:=by simp
 have h3:(x.toList == x.toList)=true:=by simp
 go_enter Tryz.func102,Tryz.ntmps102;go_wp2;go_ret;exact⟨rfl,(Aa _ _).trans ((Aa _ _).mono (by simp))⟩
theorem Kr (a b:Option Addr) (n ca cb:Nat) (I:Nat->Int) (X:Nat->ByteArray) (R:Nat->ByteArray) (w:World) (ha:DP w a n I X R) (hb:DP w b n I X R) (hn:n<=1048576) :
  WS 49 #[.slice a n ca,.slice b n cb] w (WT w (.bool true)):=by
 have hll:((n:Int) != (n:Int))=false:=by simp
 go_enter Tryz.func49,Tryz.ntmps49;go_wp2;go_loopw [5] (λi wr=>∃k:Nat,k<=n/\i=iv k/\Bl w wr) (λi _=>n-(intOf i).toNat)
 case atStart=>exact⟨0,Ww _,rfl,Wt _ _⟩
 case round=>
  obtain⟨k,hk,rfl,hbel⟩:=hrel;by_cases hlt:k<n
  .have hne:¬ n=0:=by omega
   have ha':=ha.below hbel;have hb':=hb.below hbel;rcases ha' with h|⟨ba,oa,rfl,hca⟩;.exact absurd h hne
   rcases hb' with h|⟨bb,ob,rfl,hcb⟩;.exact absurd h hne
   obtain⟨h1,h2,h3⟩:=hca k hlt;obtain⟨g1,g2,g3⟩:=hcb k hlt;clear hca hcb ha hb;have hsz:=hbel.size;have HB:=hid hbel;clear hbel;go_wp2;go_region_with (go_at_call 102;refine (My (I k) (X k) (R k) _).mono ?_;rintro e w2 ⟨rfl,hb2⟩)
   all_goals
    have HX:=hid ((HB.o.drew).trans (hb2.mono (by simpa using hsz)))
    clear hb2 h1 h2 h3 g1 g2 g3
    go_wp2
    go_roundw
    case rel=>exact⟨k+1,by omega,by go_num,HX.o⟩
    case measure=>simp[intOf];omega
  .have e:k=n:=by omega
   subst e;go_wp2;go_ret;exact⟨rfl,hbel⟩
theorem MF (a b:Option Addr) (n ca cb:Nat) (I:Nat->Int) (X:Nat->ByteArray) (R:Nat->ByteArray) (w:World) (ha:DP w a n I X R) (hb:DP w b n I X R) (hn:n<=1048576) :
  WS 14 #[.agg #[.slice a n ca],.agg #[.slice b n cb]] w (WT w (.bool true)):=by
 have hbel:∀o1 o2,Bl w ((w.alloc o1).alloc o2):=λo1 o2=>((Wt _ _).alloc (Wu _) o1).alloc (by simp) o2;have HH:=hid hbel;clear hbel;go_enter Tryz.func14,Tryz.ntmps14;go_wp2_with fail
 refine (Kr a b n ca cb I X R _ (ha.below (HH.o _ _)) (hb.below (HH.o _ _)) hn).mono ?_;rintro e w1 ⟨rfl,hb1⟩;have HX:=hid ((HH.o _ _).trans (hb1.mono (by simp;omega)));clear hb1;go_wp2;go_ret;exact⟨rfl,HX.o⟩
theorem Mw (i:Int) (x r:ByteArray) (l:Int) (w:World) (hx:x.size<=maxLen) (hr:r.size<=maxLen) (h0:0<=l) (h1:l<=1048576) :
  WS 57 #[.agg #[iv i,.string x,.string r],iv l] w λe w'=>∃q:Int,e=.returned (iv q)/\(q=-1\/(0<=q/\q<=1048576))/\Bl w w':=by
 unfold maxLen at hx hr;by_cases h:l-(x.size:Int)<0;.go_enter Tryz.func57,Tryz.ntmps57;go_wp2;go_ret;exact⟨-1,rfl,Or.inl rfl,Aa _ _⟩
 .by_cases h2:l-(x.size:Int)-(r.size:Int)<0;.go_enter Tryz.func57,Tryz.ntmps57;go_wp2;go_ret;exact⟨-1,rfl,Or.inl rfl,Aa _ _⟩
  .go_enter Tryz.func57,Tryz.ntmps57;go_wp2;go_ret;exact⟨_,rfl,Or.inr ⟨by omega,by omega⟩,Aa _ _⟩
end Go.Proofs.YtacpbofiipdodaaGreat
namespace Go.Proofs.YtacpbofiipdodaaGreat
open Go Go.ChangeAt Go.ChangeShapes Go.Deep Go.Joins Go.RowKit Go.WideShapes
section
variable {H:Type} {enc:TypeId × Value->H} {W:World}
theorem LF {w:World} {a:Addr} {v:Value} (h:w.cell? (a.add 0)=some v):a.spot=none:=by obtain⟨b,off,spot⟩:=a;simpa[Addr.add] using World.cell?_spot h
theorem N7 {b off i:Nat}:(Addr.add (ad b off) i)=(ad b (off+i)):=by
 unfold Addr.add;by_cases h:i=0;.subst h;simp
 .simp[h]
set_option maxRecDepth 100000 in
theorem Qr {fuel:Nat} {cs:List Value} {x:DataW H × List MemPlace} (h:DataW.trod enc Tryz.prog W 0 (λ_=>true) true fuel 22 cs=some x) :
  ∃a n c I X R,cs=[.slice a n c]/\DP W a n I X R/\(∀i,i<n->(X i).size<=maxLen/\(R i).size<=maxLen)/\n<=maxLen:=by
 rcases open_slice (P:=Tryz.prog) (t:=22) (e:=119) (by kernel_rfl) h with ⟨hcs,_⟩|⟨a,len,cap,m,fu,D,Pl,hcs,_,hl,hm,hmm,_,hx⟩;.exact⟨none,0,0,λ_=>0,λ_=>{ data:=#[] },λ_=>{ data:=#[] },hcs,Or.inl rfl,λi hi=>absurd hi (Wy _),Ww _⟩
 .have hlm:len<=m:=by rw[hmm];split <;> omega
  have each:∀i,i<len->∃q:Int × ByteArray × ByteArray,W.cell? (a.add (i*3))=some (iv q.1)/\W.cell? (a.add (i*3+1))=some (.string q.2.1)/\W.cell? (a.add (i*3+2))=some (.string q.2.2)/\q.2.1.size<=maxLen/\q.2.2.size<=maxLen:=by
   intro i hi;obtain⟨cs',h1,h2⟩:=hx i (by omega);rw[show Tryz.prog.cellsOf 119=3 by kernel_rfl] at h1;obtain⟨_,hlen,hcell⟩:=World.cells?_some h1;obtain⟨xs,k,hk,hxy,_,hxl,hf⟩:=DataW.trod_struct (P:=Tryz.prog) Tryz.underlying119 h2;have g0:=hf 0 _ rfl;have g1:=hf 1 _ rfl;have g2:=hf 2 _ rfl;rw[show Tryz.prog.cellsOf _=1 by kernel_rfl] at g0 g1 g2;match xs,hxl,cs',hlen with
   | [y0,y1,y2],_,[v0,v1,v2],_=>simp at g0 g1 g2;obtain⟨i0,e0,_,_⟩:=DataW.trod_int Tryz.underlying2 g0;obtain⟨x0,e1,_,hs⟩:=DataW.trod_string Tryz.underlying9 g1;obtain⟨r0,e2,_,hs2⟩:=DataW.trod_string Tryz.underlying9 g2;simp at e0 e1 e2;subst e0 e1 e2;have c0:=hcell 0 (by omega);have c1:=hcell 1 (by omega);have c2:=hcell 2 (by omega);rw[Addr.add_add] at c0 c1 c2;exact⟨(i0,x0,r0),by simpa using c0,by simpa using c1,by simpa using c2,hs,hs2⟩
  obtain⟨q,hq⟩:=choose_lt each;refine⟨some a,len,cap,λi=>(q i).1,λi=>(q i).2.1,λi=>(q i).2.2,hcs,?_,λi hi=>(hq i hi).2.2.2,by omega⟩;by_cases h0:len=0;.exact Or.inl h0
  .obtain⟨b,off,spot⟩:=a;have hs:=LF (a:=⟨b,off,spot⟩) (by simpa using (hq 0 (by omega)).1);simp at hs;subst hs;refine Or.inr ⟨b,off,rfl,λi hi=>?_⟩;obtain⟨k0,k1,k2,_⟩:=hq i hi;rw[N7] at k0 k1 k2;exact⟨k0,k1,k2⟩
def IsPath (w:World) (v:Value):Prop:=
 ∃a n c I X R,v=.agg #[.slice a n c]/\DP w a n I X R/\(∀i,i<n->(X i).size<=maxLen/\(R i).size<=maxLen)/\n<=maxLen
set_option maxRecDepth 100000 in
theorem openPath {r:Reach} {b0:Nat} {v:Value} {d:DataW H} {p:List MemPlace} (hv:Value.okWide Tryz.prog W r b0 24 v) (h:DataW.Trod enc Tryz.prog W 0 (λ_=>true) true 24 v d p):IsPath W v:=by
 obtain⟨cs,rfl,hsz⟩:=okWide_struct (P:=Tryz.prog) Tryz.underlying24 hv;have h1:cs.size=1:=hsz.trans (by kernel_rfl);obtain⟨l⟩:=cs;match l,h1 with
 | [c0],_=>
  obtain⟨fuel,hf⟩:=h;obtain⟨xs,k,hk,hxy,_,hxl,hff⟩:=DataW.trod_struct (P:=Tryz.prog) Tryz.underlying24 hf;have g0:=hff 0 _ rfl;rw[show Tryz.prog.cellsOf _=1 by kernel_rfl] at g0;match xs,hxl with
  | [y0],_=>simp[Value.cells] at g0;obtain⟨a,n',c,I,X,R,e1,hr,hX,hn⟩:=Qr g0;simp at e1;subst e1;exact⟨a,n',c,I,X,R,rfl,hr,hX,hn⟩
end
end Go.Proofs.YtacpbofiipdodaaGreat
namespace Go.Proofs.YtacpbofiipdodaaGreat
open Go Go.Deep Go.RowKit
def Ji (w:World) (P:Prop) (e:Ending) (w' : World):Prop:=∃b,e=.returned (.bool b)/\(b=true↔P)/\Bl w w'
theorem QA {W w' : World} {v0:Value} {t:TypeId} (hb:Below (W.heap.size+1) (W.alloc (.cells #[v0] t)) w'):w'.cell? (ad W.heap.size 0)=some v0/\W.heap.size<w'.heap.size:=by have hs:=hb.size;refine⟨?_,by simp at hs;omega⟩;rw[hb.cell (by simp)];simp
variable {P:Prop}{w w':World}
def Ce (n:Nat) (I:Nat->Int) (X R:Nat->ByteArray):Prop:=
 (1<=n/\n<=100)/\(∀i,i<n->Ke (I i) (X i) (R i)=true)/\Am (λi=>Ah (I i)) n 0/\Hd 100 (λi=>Ah (I i)) n<=64
theorem Ji.no (h:¬ P) (hb:Bl w w'):Ji w P (.returned (.bool false)) w':=⟨false,rfl,⟨(λe=>by cases e),λe=>absurd e h⟩,hb⟩
theorem Ji.yes (h:P) (hb:Bl w w'):Ji w P (.returned (.bool true)) w':=⟨true,rfl,⟨λ_=>h,λ_=>rfl⟩,hb⟩
theorem TP (a:Option Addr) (n c:Nat) (I:Nat->Int) (X R:Nat->ByteArray) (w:World) (h:DP w a n I X R) (hn:n<=1048576) (hc:n<=c) (hcm:c<=9223372036854775807) :
  WS 27 #[.agg #[.slice a n c]] w (Ji w (Ce n I X R)):=by
 have HR:=hid h;clear h;by_cases h1:n<1
 .have i1:(n:Int)<1:=by omega
  have i1' : decide ((n:Int)<1)=true:=decide_eq_true i1;have HN:U (¬ Ce n I X R):=λh=>by have:=h.1;omega
  go_enter Tryz.func27,Tryz.ntmps27;go_wp2;go_ret;exact Ji.no HN.o (Aa _ _)
 .have i1:¬ (n:Int)<1:=by omega
  have i1' : decide ((n:Int)<1)=false:=decide_eq_false i1;by_cases h2:100<n
  .have i2:(100:Int)<(n:Int):=by omega
   have i2' : decide ((100:Int)<(n:Int))=true:=decide_eq_true i2;have HN:U (¬ Ce n I X R):=λh=>by have:=h.1;omega
   go_enter Tryz.func27,Tryz.ntmps27;go_wp2;go_ret;exact Ji.no HN.o (Aa _ _)
  .have i2:¬ (100:Int)<(n:Int):=by omega
   have i2' : decide ((100:Int)<(n:Int))=false:=decide_eq_false i2;obtain⟨b,o,hcell⟩:∃b o,a=some (ad b o):=by
    rcases HR.o with h|⟨b,o,e,_⟩;.omega
    .exact⟨b,o,e⟩
   subst hcell;have HC:U (∀W:World,Bl w W->∀i,i<n->W.cell? (ad b (o+i*3))=some (iv (I i))/\W.cell? (ad b (o+i*3+1))=some (.string (X i))/\W.cell? (ad b (o+i*3+2))=some (.string (R i))):=by
    intro W hW i hi;rcases HR.o.below hW with h|⟨b',o',e,hcc⟩;.omega
    .injection e with e;injection e with e1 e2;subst e1 e2;exact hcc i hi
   go_enter Tryz.func27,Tryz.ntmps27;go_wp2;go_loopw [3] (λi wr=>∃k:Nat,k<=n/\i=iv k/\(∀j,j<k->Ke (I j) (X j) (R j)=true)/\Below (w.heap.size+1) (w.alloc (.cells #[.slice (some (ad b o)) n c] 41)) wr) (λi _=>n-(intOf i).toNat)
   case atStart=>exact⟨0,Ww _,rfl,λj hj=>absurd hj (Wy _),Wt _ _⟩
   case round=>
    obtain⟨k,hk,rfl,hg,hb⟩:=hrel;have HG:=hid hg;have HB:=hid hb;have HBW:=hid ((Aa _ _).trans (hb.mono (by omega)));obtain⟨x0,xz⟩:=QA hb;clear hg hb;by_cases hlt:k<n
    .obtain⟨c0,c1,c2⟩:=HC.o wr HBW.o k hlt;have ik:(k:Int)<(n:Int):=by omega
     have ik0:(0:Int)<=(k:Int):=by omega
     go_wp2_with fail
     refine (I5 (I k) (X k) (R k) wr).mono ?_;rintro e w2 ⟨he,hb2⟩;have HB2:=hid (HB.o.trans (hb2.mono (by omega)));clear hb2 c0 c1 c2 x0;cases hgk:Ke (I k) (X k) (R k) with
     | false=>
      rw[hgk] at he;subst he;have HN:U (¬ Ce n I X R):=λh=>by have:=h.2.1 k hlt;rw[hgk] at this;cases this
      have HZ:=hid ((Aa _ _).trans (HB2.o.mono (by omega)));go_wp2;go_ret;exact Ji.no HN.o HZ.o
     | true=>
      rw[hgk] at he;subst he;have HG2:U (∀j,j<k+1->Ke (I j) (X j) (R j)=true):=λj hj=>by
       by_cases e:j=k;.subst e;exact hgk
       .exact HG.o j (by omega)
      obtain⟨x0,xz2⟩:=QA HB2.o;go_wp2;go_roundw;case rel=>exact⟨k+1,by omega,by go_num,HG2.o,HB2.o⟩
      case measure=>simp[intOf];omega
    .have e:k=n:=by omega
     subst e;obtain⟨m,rfl⟩:∃m,k=m+1:=⟨k-1,by omega⟩;go_wp2_with fail
     refine (IY (some (ad b o)) (m+1) c I X R wr (HR.o.below HBW.o) (by omega)).mono ?_;rintro e w2 ⟨hw2,hfr⟩;subst hw2;by_cases hbg:Am (λi=>Ah (I i)) (m+1) 0
     .have he:e=.returned (iv 0):=by
       rcases hfr with ⟨s',h1,h2⟩|⟨h1,_⟩;.rw[h1.uniq hbg] at h2;exact h2
       .exact absurd ⟨0,hbg⟩ h1
      subst he;clear hfr;go_wp2_with fail
      refine (Gg 100 b o m c I X R w2 (HR.o.below HBW.o) (by omega) (by omega) (by omega) hcm hbg).mono ?_;rintro e w3 ⟨rfl,hb3⟩;have HZ:=hid (HBW.o.trans (hb3.mono HBW.o.size));have HBG:=hid hbg;obtain⟨Ht,hHt⟩:=gn (Hd 100 (λi=>Ah (I i)) (m+1));have HHT:=hid hHt;rw[<- hHt];clear hb3 hbg hHt;by_cases h64:Ht<=64
      .have i64:((Ht:Nat):Int)<=64:=by omega
       have i64' : decide (((Ht:Nat):Int)<=64)=true:=decide_eq_true i64;go_wp2;go_ret;exact Ji.yes ⟨⟨by omega,by omega⟩,HG.o,HBG.o,by rw[<- HHT.o];exact h64⟩ HZ.o
      .have i64:¬ ((Ht:Nat):Int)<=64:=by omega
       have i64' : decide (((Ht:Nat):Int)<=64)=false:=decide_eq_false i64;go_wp2;go_ret;exact Ji.no (λh=>h64 (by rw[HHT.o];exact h.2.2.2)) HZ.o
     .have hne:∃s:Int,e=.returned (iv s)/\s≠0:=by
       rcases hfr with ⟨s',h1,h2⟩|⟨_,h2⟩
       .refine⟨s',h2,λe0=>hbg ?_⟩;have hs' : s'=0:=by omega
        rw[hs'] at h1;exact h1
       .exact⟨-1,h2,by decide⟩
      obtain⟨s,rfl,hs0⟩:=hne;have hs1:(s == 0)=false:=by simp;exact hs0
      have HN:U (¬ Ce (m+1) I X R):=λh=>hbg h.2.2.1;clear hfr hbg;go_wp2;go_ret;exact Ji.no HN.o HBW.o
variable {g j n:Nat}{w1:World}
theorem Fl (x:Int) (w:World) (hk:1<=x) (hk2:x<=1073741824) :
  WS 105 #[iv x] w λe w'=>∃y,e=.returned (.string y)/\Bl w w':=by obtain⟨k,rfl⟩:∃k:Nat,x=k:=⟨x.toNat,by omega⟩;exact (FO k w (by omega) (by omega)).mono (λe w' h=>⟨_,h⟩)
theorem AR {w2:World} {row:Option Nat} (h:w.grownBy w1 row) (k:w1.grownBy w2 row):w.grownBy w2 row:=
 ⟨k.os.trans h.os,k.tape.trans h.tape,k.output.trans h.output,WC h.size k.size,λb hb hne=>(k.block b (WF hb h.size) hne).trans (h.block b hb hne)⟩
theorem Cd (h:Bl w w1) (row:Option Nat):w.grownBy w1 row:=⟨h.os,h.tape,h.output,h.size,λb hb _=>h.block b hb⟩
theorem CA {i:Nat} {v:Value}:w.grownBy (w.setCell (ad g i) v) (some g):=
 ⟨rfl,rfl,rfl,by simp,λb hb hne=>Wv _ _ _ _ (λe=>hne (by rw[e]))⟩
def DI (w:World) (g n:Nat):Prop:=∃I X R,Ai w g 97 (n*3) (AX I X R)
theorem DI.cells (h:DI w g n) (hj:j<n):∃(i:Int) (x r:ByteArray),w.cell? (ad g (j*3))=some (iv i)/\w.cell? (ad g (j*3+1))=some (.string x)/\w.cell? (ad g (j*3+2))=some (.string r)/\(∀o,w.frozen? (ad g o)=false)/\g<w.heap.size:=by
 obtain⟨I,X,R,h⟩:=h;refine⟨I j,X j,R j,?_,?_,?_,h.frozen,h.lt⟩;.have:=h.cell (i:=j*3) (by omega);rwa [B8] at this
 .have:=h.cell (i:=j*3+1) (by omega);rwa [Ci] at this
 .have:=h.cell (i:=j*3+2) (by omega);rwa [Cc] at this
theorem DI.below {w':World} (h:DI w g n) (hb:Bl w w'):DI w' g n:=by obtain⟨I,X,R,h⟩:=h;exact⟨I,X,R,h.of_block (hb.block g h.lt)⟩
theorem DI.set0 (h:DI w g n) (v:Int):DI (w.setCell (ad g (j*3)) (iv v)) g n:=by
 obtain⟨I,X,R,h⟩:=h;refine⟨λi=>if i=j then v else I i,X,R,(h.set (j*3) _).congr (λc hc=>?_)⟩;obtain⟨q,hq⟩:∃q,c=q*3\/c=q*3+1\/c=q*3+2:=⟨c / 3,by omega⟩;rcases hq with rfl|rfl|rfl
 .rw[B8,B8];by_cases e:q=j;.subst e;rw[if_pos rfl,if_pos rfl]
  .rw[if_neg (by omega),if_neg e]
 .rw[if_neg (by omega),Ci,Ci]
 .rw[if_neg (by omega),Cc,Cc]
theorem DI.set1 (h:DI w g n) (v:ByteArray):DI (w.setCell (ad g (j*3+1)) (.string v)) g n:=by
 obtain⟨I,X,R,h⟩:=h;refine⟨I,λi=>if i=j then v else X i,R,(h.set (j*3+1) _).congr (λc hc=>?_)⟩;obtain⟨q,hq⟩:∃q,c=q*3\/c=q*3+1\/c=q*3+2:=⟨c / 3,by omega⟩;rcases hq with rfl|rfl|rfl;.rw[if_neg (by omega),B8,B8]
 .rw[Ci,Ci];by_cases e:q=j;.subst e;rw[if_pos rfl,if_pos rfl]
  .rw[if_neg (by omega),if_neg e]
 .rw[if_neg (by omega),Cc,Cc]
theorem DI.set2 (h:DI w g n) (v:ByteArray):DI (w.setCell (ad g (j*3+2)) (.string v)) g n:=by
 obtain⟨I,X,R,h⟩:=h;refine⟨I,X,λi=>if i=j then v else R i,(h.set (j*3+2) _).congr (λc hc=>?_)⟩;obtain⟨q,hq⟩:∃q,c=q*3\/c=q*3+1\/c=q*3+2:=⟨c / 3,by omega⟩;rcases hq with rfl|rfl|rfl;.rw[if_neg (by omega),B8,B8]
 .rw[if_neg (by omega),Ci,Ci]
 .rw[Cc,Cc];by_cases e:q=j;.subst e;rw[if_pos rfl,if_pos rfl]
  .rw[if_neg (by omega),if_neg e]
end Go.Proofs.YtacpbofiipdodaaGreat
