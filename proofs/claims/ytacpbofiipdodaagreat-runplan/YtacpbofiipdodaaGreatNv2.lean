import Derived.Deep.QuietTactic
import Derived.BigQuiet
import Derived.Deep.RegionWith
import Derived.ProofKit
import Derived.OpenShut
import Derived.Lib.SmallJoins
import Derived.Deep.SlicePairs
import Derived.Test.YtacpbofiipdodaaGreatNv1
set_option linter.unusedVariables false
set_option linter.unusedSimpArgs false
set_option maxRecDepth 100000
set_option maxHeartbeats 90000000
namespace Go.Proofs.YtacpbofiipdodaaGreat
open Go Go.Deep Go.RowKit
theorem Tryz.info9 : (Tryz.prog.info? 9).map (λi=>(i.zero,i.size,i.bytes))=some (some (.string { data:=#[] }),1,16):=by kernel_rfl
theorem Tryz.info2 : (Tryz.prog.info? 2).map (λi=>(i.zero,i.size,i.bytes))=some (some (iv 0),1,8):=by kernel_rfl
theorem Tryz.info267 : (Tryz.prog.info? 267).map (λi=>(i.zero,i.size,i.bytes))=some (some (.agg #[.bool false,.slice none 0 0,.slice none 0 0,iv 0]),4,64):=by kernel_rfl
theorem JI (a:Option Addr) (len cap:Nat) (f:Nat->ByteArray) (w:World) (h:BE w a len f) (hm:len<=1048576) :
  WS 163 #[.slice a len cap] w λe w'=>e=.returned (.slice (some (ad w.heap.size 0)) len len)/\
   w'.rowIs w.heap.size 9 len (λi=>.string (f i))/\Bl w w'/\w'.heap.size=w.heap.size+1:=by
 have hmk:=run_make_row' (P:=Tryz.prog) 35 9 (.string { data:=#[] }) 16 Tryz.underlying35 Tryz.info9 rfl .i64 .i64 len (by omega) (by omega);have hbel:Bl w (w.alloc (.cells (madeCells #[.string { data:=#[] }] len) 9)):=(Wt _ _).alloc (Wu _) _;have hrow:=(World.rowIs_made w (.string { data:=#[] }) len 9).congr (g:=λj=>if j<0 then .string (f j) else .string { data:=#[] }) (λj _=>by simp);have HS:=hid (ai hbel hrow);clear hbel hrow;go_enter Tryz.func163,Tryz.ntmps163;go_wp2;go_loopw [4] (λi wr=>∃k:Nat,k<=len/\i=iv k/\wr.rowIs w.heap.size 9 len (λj=>if j<k then .string (f j) else .string { data:=#[] })/\Bl w wr/\wr.heap.size=w.heap.size+1) (λi _=>len-(intOf i).toNat)
 case atStart=>exact⟨0,Ww _,rfl,HS.o.2,HS.o.1,by simp⟩
 case round=>
  obtain⟨k,hk,rfl,hrow,hbel,hsz⟩:=hrel;clear HS;by_cases hlt:k<len
  .have hne:¬ len=0:=by omega
   rcases h with h|⟨b,o,rfl,hc⟩;.exact absurd h hne
   have hb:=Ws _ _ (hc k hlt);have hcx:=(hbel.cell (p:=(ad b (o+k))) hb).trans (hc k hlt);have hcy:=hrow.cell hlt;simp only[Nat.lt_irrefl,if_false] at hcy;have hfy:=hrow.frozen k;have HX:U ((wr.setCell (ad w.heap.size k) (.string (f k))).rowIs w.heap.size 9 len (λj=>if j<k+1 then .string (f j) else .string { data:=#[] })/\Bl w (wr.setCell (ad w.heap.size k) (.string (f k)))/\(wr.setCell (ad w.heap.size k) (.string (f k))).heap.size=w.heap.size+1):=
    ⟨NR (f:=λj=>.string (f j)) hrow,hbel.setCell (Wu _) _,by simpa using hsz⟩
   clear hrow hbel hc hsz hmk;go_wp2;go_roundw;case rel=>exact⟨k+1,by omega,by go_num,HX.o⟩
   case measure=>simp[intOf];omega
  .have e:k=len:=by omega
   subst e;clear hmk;go_wp2;go_ret;exact⟨rfl,hrow.congr (λi hi=>by simp[hi]),hbel,hsz⟩
theorem Ge (a:Option Addr) (len cap:Nat) (f:Nat->Int) (w:World) (h:Rd .i64 w a len f) (hm:len<=1048576) :
  WS 11 #[.slice a len cap] w λe w'=>e=.returned (.slice (some (ad w.heap.size 0)) len len)/\
   w'.rowIs w.heap.size 2 len (λi=>iv (f i))/\Bl w w'/\w'.heap.size=w.heap.size+1:=by
 have hmk:=run_make_row' (P:=Tryz.prog) 31 2 (iv 0) 8 Tryz.underlying31 Tryz.info2 rfl .i64 .i64 len (by omega) (by omega);have hbel:Bl w (w.alloc (.cells (madeCells #[iv 0] len) 2)):=(Wt _ _).alloc (Wu _) _;have hrow:=(World.rowIs_made w (iv 0) len 2).congr (g:=λj=>if j<0 then iv (f j) else iv 0) (λj _=>by simp);have HS:=hid (ai hbel hrow);clear hbel hrow;go_enter Tryz.func11,Tryz.ntmps11;go_wp2;go_loopw [4] (λi wr=>∃k:Nat,k<=len/\i=iv k/\wr.rowIs w.heap.size 2 len (λj=>if j<k then iv (f j) else iv 0)/\Bl w wr/\wr.heap.size=w.heap.size+1) (λi _=>len-(intOf i).toNat)
 case atStart=>exact⟨0,Ww _,rfl,HS.o.2,HS.o.1,by simp⟩
 case round=>
  obtain⟨k,hk,rfl,hrow,hbel,hsz⟩:=hrel;clear HS;by_cases hlt:k<len
  .have hne:¬ len=0:=by omega
   rcases h with h|⟨b,o,rfl,hc⟩;.exact absurd h hne
   have hb:=Ws _ _ (hc k hlt);have hcx:=(hbel.cell (p:=(ad b (o+k))) hb).trans (hc k hlt);have hcy:=hrow.cell hlt;simp only[Nat.lt_irrefl,if_false] at hcy;have hfy:=hrow.frozen k;have HX:U ((wr.setCell (ad w.heap.size k) (iv (f k))).rowIs w.heap.size 2 len (λj=>if j<k+1 then iv (f j) else iv 0)/\Bl w (wr.setCell (ad w.heap.size k) (iv (f k)))/\(wr.setCell (ad w.heap.size k) (iv (f k))).heap.size=w.heap.size+1):=
    ⟨NR (f:=λj=>iv (f j)) hrow,hbel.setCell (Wu _) _,by simpa using hsz⟩
   clear hrow hbel hc hsz hmk;go_wp2;go_roundw;case rel=>exact⟨k+1,by omega,by go_num,HX.o⟩
   case measure=>simp[intOf];omega
  .have e:k=len:=by omega
   subst e;clear hmk;go_wp2;go_ret;exact⟨rfl,hrow.congr (λi hi=>by simp[hi]),hbel,hsz⟩
def Em (x:Tn):Prop:=x.kn<=maxLen/\x.dn<=maxLen/\∀j,j<x.kn->(x.ks j).size<=maxLen
def Bf (x:Tn):Prop:=x.kn<=1048576/\x.dn<=1048576
theorem LQ (x:Tn) (ka da:Option Addr) (kc dc:Nat) (w:World) (hk:BE w ka x.kn x.ks) (hd:Rd .i64 w da x.dn x.kd) (hf:Bf x) :
  WS 138 #[.agg #[.bool x.lf,.slice ka x.kn kc,.slice da x.dn dc,iv x.ct]] w λe w'=>∃gk gd,e=.returned (.agg #[.bool x.lf,.slice (some (ad gk 0)) x.kn x.kn,.slice (some (ad gd 0)) x.dn x.dn,iv x.ct])/\
   w.heap.size<=gk/\w.heap.size<=gd/\Ai w' gk 9 x.kn (λi=>.string (x.ks i))/\Ai w' gd 2 x.dn (λi=>iv (x.kd i))/\Bl w w':=by
 obtain⟨hf1,hf2⟩:=hf;have hbel:∀o1 o2 o3,Bl w (((w.alloc o1).alloc o2).alloc o3):=λo1 o2 o3=>(((Aa _ _).alloc (by simp) _).alloc (by simp;omega) _);have hsz:∀o1 o2 o3,(((w.alloc o1).alloc o2).alloc o3).heap.size=w.heap.size+3:=λo1 o2 o3=>by simp
 have HH:=hid (ai hbel (ai hsz (ai hk hd)));clear hbel hsz hk hd;go_enter Tryz.func138,Tryz.ntmps138;go_wp2_with fail
 refine (JI ka x.kn kc x.ks _ ?_ hf1).mono ?_;.exact HH.o.2.2.1.below (HH.o.1 _ _ _)
 rintro e w1 ⟨rfl,hr1,hb1,hs1⟩;unfold Bl at hb1;rw[HH.o.2.1] at hr1 hb1 hs1 ⊢;have hz:w.heap.size+2<w1.heap.size:=by omega
 have hc:=λb o hb=>hb1.cell (p:=(ad b o)) hb;have hfz:=λb o hb=>hb1.frozen (p:=(ad b o)) hb;have HE:U (Ai w1 (w.heap.size+3) 9 x.kn (λi=>.string (x.ks i))/\Bl w w1/\w1.heap.size=w.heap.size+4):=⟨Ai.ofIs hr1,(HH.o.1 _ _ _).trans (hb1.mono (by omega)),by omega⟩;clear hr1 hb1 hs1;go_wp2_with fail
 refine (Ge da x.dn dc x.kd _ (HH.o.2.2.2.below (HE.o.2.1.setCell (by simp;omega) _)) hf2).mono ?_;rintro e w2 ⟨rfl,hr2,hb2,hs2⟩;have hsc:∀x v,(w1.setCell x v).heap.size=w.heap.size+4:=λx v=>by rw[<- HE.o.2.2];simp[World.setCell]
 try unfold Bl at hr2
 try unfold Bl at hb2
 try unfold Bl at hs2
 rw[hsc] at hr2 hb2 hs2 ⊢;clear hsc;have hz2:w.heap.size+3<w2.heap.size:=by omega
 have hc2:=λb o hb=>hb2.cell (p:=(ad b o)) hb;have hf2:=λb o hb=>hb2.frozen (p:=(ad b o)) hb;have HF:U (Ai w2 (w.heap.size+3) 9 x.kn (λi=>.string (x.ks i))/\Ai w2 (w.heap.size+4) 2 x.dn (λi=>iv (x.kd i))/\Bl w w2):=by refine⟨(HE.o.1.setOther (by simp) _).of_block (hb2.block _ (by omega)),Ai.ofIs hr2,(HE.o.2.1.setCell (by simp;omega) _).trans (hb2.mono (by omega))⟩
 clear hr2 hb2 hs2 HE;go_wp2;refine bodyPost_ret (v:=.agg #[.bool x.lf,.slice (some (ad (w.heap.size+3) 0)) x.kn x.kn,.slice (some (ad (w.heap.size+4) 0)) x.dn x.dn,iv x.ct]) (by simp[results,Tryz.results138,go_sem,hc2,hc]) rfl ⟨_,_,rfl,by omega,by omega,?_,?_,?_⟩;.exact ((((((HF.o.1.setOther (by simp) _).setOther (by simp) _).setOther (by simp) _).setOther (by simp) _).setOther (by simp) _).setOther (by simp) _)
 .exact ((((((HF.o.2.1.setOther (by simp) _).setOther (by simp) _).setOther (by simp) _).setOther (by simp) _).setOther (by simp) _).setOther (by simp) _)
 .exact ((((((HF.o.2.2.setCell (by simp;try omega) _).setCell (by simp;try omega) _).setCell (by simp;try omega) _).setCell (by simp;try omega) _).setCell (by simp;try omega) _).setCell (by simp;try omega) _)
theorem AE.put {w w2:World} {B g m:Nat} {M:Nat->Tn} {KA DA:Nat->Option Addr} {KC DC:Nat->Nat} (h:AE w B g m M KA DA KC DC) (hB:B<=w.heap.size) (hb:Bl w w2) (k:Nat) (x:Tn) (gk gd ck cd:Nat)
  (hgk:w.heap.size<=gk) (hgd:w.heap.size<=gd) (hrk:Ai w2 gk 9 x.kn (λi=>.string (x.ks i))) (hrd:Ai w2 gd 2 x.dn (λi=>iv (x.kd i))) :
  AE ((((w2.setCell (ad g (k*4)) (.bool x.lf)).setCell (ad g (k*4+1)) (.slice (some (ad gk 0)) x.kn ck)).setCell (ad g (k*4+2)) (.slice (some (ad gd 0)) x.dn cd)).setCell (ad g (k*4+3)) (iv x.ct)) B g m (λi=>if i=k then x else M i)
   (λi=>if i=k then some (ad gk 0) else KA i) (λi=>if i=k then some (ad gd 0) else DA i) (λi=>if i=k then ck else KC i) (λi=>if i=k then cd else DC i):=by
 have hrow2:=h.row.of_block (hb.block g h.row.lt);have hnk:=hrk.ne hrow2 (by decide);have hnd:=hrd.ne hrow2 (by decide);refine⟨h.le,((((hrow2.set (k*4) _).set (k*4+1) _).set (k*4+2) _).set (k*4+3) _).congr (λy hy=>?_),λi hi=>?_,λi hi=>?_,λi j hi hj hij hl1 hl2=>?_,λi j hi hj hij hl1 hl2=>?_⟩
 .unfold AW;by_cases e:y / 4=k
  .have h4:y=k*4\/y=k*4+1\/y=k*4+2\/y=k*4+3:=by omega
   rcases h4 with rfl|rfl|rfl|rfl
   .have q1:(k*4) % 4=0:=by omega
    have q2:(k*4) / 4=k:=by omega
    simp[q1,q2]
   .have q1:(k*4+1) % 4=1:=by omega
    have q2:(k*4+1) / 4=k:=by omega
    simp[q1,q2]
   .have q1:(k*4+2) % 4=2:=by omega
    have q2:(k*4+2) / 4=k:=by omega
    simp[q1,q2]
   .have q1:(k*4+3) % 4=3:=by omega
    have q2:(k*4+3) / 4=k:=by omega
    simp[q1,q2]
  .have e0:¬ y=k*4:=by omega
   have e1:¬ y=k*4+1:=by omega
   have e2:¬ y=k*4+2:=by omega
   have e3:¬ y=k*4+3:=by omega
   simp only[if_neg e,if_neg e0,if_neg e1,if_neg e2,if_neg e3]
 .by_cases e:i=k;.simp only[if_pos e];exact Or.inr ⟨gk,rfl,by omega,(((hrk.setOther (by simpa using hnk) _).setOther (by simpa using hnk) _).setOther (by simpa using hnk) _).setOther (by simpa using hnk) _⟩
  .simp only[if_neg e];rcases (h.keys i hi).below hb with h0|⟨g',hA,hg',hr'⟩;.exact Or.inl h0
   .have hne' : g'≠g:=hr'.ne hrow2 (by decide);exact Or.inr ⟨g',hA,hg',(((hr'.setOther (by simpa using hne') _).setOther (by simpa using hne') _).setOther (by simpa using hne') _).setOther (by simpa using hne') _⟩
 .by_cases e:i=k;.simp only[if_pos e];exact Or.inr ⟨gd,rfl,by omega,(((hrd.setOther (by simpa using hnd) _).setOther (by simpa using hnd) _).setOther (by simpa using hnd) _).setOther (by simpa using hnd) _⟩
  .simp only[if_neg e];rcases (h.kids i hi).below hb with h0|⟨g',hA,hg',hr'⟩;.exact Or.inl h0
   .have hne' : g'≠g:=hr'.ne hrow2 (by decide);exact Or.inr ⟨g',hA,hg',(((hr'.setOther (by simpa using hne') _).setOther (by simpa using hne') _).setOther (by simpa using hne') _).setOther (by simpa using hne') _⟩
 .have key:∀j,j<m->(M j).kn≠0->KA j≠some (ad gk 0):=by
   intro j hj hl e;rcases h.keys j hj with h0|⟨g',hA,hg',hr'⟩;.exact hl h0
   .rw[hA] at e;injection e with e;injection e with e;have:=hr'.lt;omega
  by_cases e1:i=k
  .by_cases e2:j=k;.omega
   .simp only[if_pos e1,if_neg e2] at hl2 ⊢;exact λe=>key j hj hl2 e.symm
  .by_cases e2:j=k;.simp only[if_neg e1,if_pos e2] at hl1 ⊢;exact key i hi hl1
   .simp only[if_neg e1,if_neg e2] at hl1 hl2 ⊢;exact h.apartK i j hi hj hij hl1 hl2
 .have key:∀j,j<m->(M j).dn≠0->DA j≠some (ad gd 0):=by
   intro j hj hl e;rcases h.kids j hj with h0|⟨g',hA,hg',hr'⟩;.exact hl h0
   .rw[hA] at e;injection e with e;injection e with e;have:=hr'.lt;omega
  by_cases e1:i=k
  .by_cases e2:j=k;.omega
   .simp only[if_pos e1,if_neg e2] at hl2 ⊢;exact λe=>key j hj hl2 e.symm
  .by_cases e2:j=k;.simp only[if_neg e1,if_pos e2] at hl1 ⊢;exact key i hi hl1
   .simp only[if_neg e1,if_neg e2] at hl1 hl2 ⊢;exact h.apartD i j hi hj hij hl1 hl2
def Tu:Tn:=⟨false,0,λ_=>{ data:=#[] },0,λ_=>0,0⟩
def Fh (N:Nat->Tn) (k i:Nat):Tn:=if i<k then N i else Tu
theorem QW (N:Nat->Tn) (k:Nat):(λi=>if i=k then N k else Fh N k i)=Fh N (k+1):=by
 funext i;unfold Fh;by_cases e:i=k;.subst e;simp
 .by_cases e2:i<k
  .have:i<k+1:=by omega
   simp[e,e2,this]
  .have:¬ i<k+1:=by omega
   simp[e,e2,this]
theorem TN (w:World) (m:Nat):Ai (w.alloc (.cells (madeCells #[.bool false,.slice none 0 0,.slice none 0 0,iv 0] (m*4)) 267)) w.heap.size 267 (m*4) (AW (Fh (λ_=>Tu) 0) (λ_=>none) (λ_=>none) (λ_=>0) (λ_=>0)):=by
 refine⟨_,blk_alloc_new _ _,by rw[size_madeCells];exact Wu _,λi hi=>?_⟩;unfold AW Fh Tu;have h4:i % 4=0\/i % 4=1\/i % 4=2\/i % 4=3:=by omega
 rcases h4 with e|e|e|e;all_goals simp[madeCells,hi,e]
theorem Ko (a:Option Addr) (m c:Nat) (N:Nat->Tn) (w:World) (h:Bk w a m N) (hm:m<=1048576) (hN:∀i,i<m->Bf (N i)) :
  WS 119 #[.slice a m c] w λe w'=>∃KA DA KC DC,e=.returned (.slice (some (ad w.heap.size 0)) m m)/\AE w' w.heap.size w.heap.size m N KA DA KC DC/\Bl w w':=by
 have hmk:∀w:World,(Instr.makeSlice 71 (iv (m:Int)) (iv (m:Int))).run Tryz.prog w=.ok (.slice (some (ad w.heap.size 0)) m m) (w.alloc (.cells (madeCells #[.bool false,.slice none 0 0,.slice none 0 0,iv 0] (m*4)) 267)):=by intro w;obtain⟨i0,hi,hz0,hz1,hz2⟩:=info_parts Tryz.info267;have:=run_make (P:=Tryz.prog) w 71 267 i0 _ Tryz.underlying71 hi hz0 .i64 .i64 m m (by omega) (by omega) (by rw[hz2];omega) (by omega);rw[hz1,show (Value.agg #[.bool false,.slice none 0 0,.slice none 0 0,iv 0]).cells=#[.bool false,.slice none 0 0,.slice none 0 0,iv 0] from rfl] at this;simpa using this
 have H0:U (AE (w.alloc (.cells (madeCells #[.bool false,.slice none 0 0,.slice none 0 0,iv 0] (m*4)) 267)) w.heap.size w.heap.size m (Fh N 0) (λ_=>none) (λ_=>none) (λ_=>0) (λ_=>0)):=
  ⟨Wu _,(TN w m).congr (λi _=>by simp[AW,Fh]),λi _=>Or.inl (by simp[Fh,Tu]),λi _=>Or.inl (by simp[Fh,Tu]),λi j _ _ _ hl=>absurd (by simp[Fh,Tu]) hl,λi j _ _ _ hl=>absurd (by simp[Fh,Tu]) hl⟩
 have HR:=hid (ai h hN);clear h hN;go_enter Tryz.func119,Tryz.ntmps119;go_wp2;go_loopw [4] (λi wr=>∃(k:Nat) (KA DA:Nat->Option Addr) (KC DC:Nat->Nat),k<=m/\i=iv k/\AE wr w.heap.size w.heap.size m (Fh N k) KA DA KC DC/\Bl w wr) (λi _=>m-(intOf i).toNat)
 case atStart=>exact⟨0,_,_,_,_,Ww _,rfl,H0.o,Aa _ _⟩
 case round=>
  obtain⟨k,KA,DA,KC,DC,hk,rfl,hown,hbel⟩:=hrel;clear H0;by_cases hlt:k<m
  .have hne:¬ m=0:=by omega
   have h':=HR.o.1.below hbel;have HB:=hid hbel;have HO:=hid hown;have hsz:=hbel.size;rcases h' with h' | ⟨b,o,rfl,hc⟩;.exact absurd h' hne
   obtain⟨ka,kc,da,dc,c0,c1,c2,c3,c4,c5⟩:=hc k hlt;have HL:=HR.o.2 k hlt;have HK:=hid (ai c4 c5);clear hc hbel hown hmk c4 c5;go_wp2_with fail
   refine (LQ (N k) ka da kc dc _ HK.o.1 HK.o.2 HL).mono ?_;rintro e w1 ⟨gk,gd,rfl,hgk,hgd,hrk,hrd,hb1⟩;have hrow:=HO.o.row.of_block (hb1.block _ HO.o.row.lt);have hc1:=hrow.cell (i:=k*4) (by omega);have hc2:=hrow.cell (i:=k*4+1) (by omega);have hc3:=hrow.cell (i:=k*4+2) (by omega);have hc4:=hrow.cell (i:=k*4+3) (by omega);rw[Ey] at hc1;rw[Ja] at hc2;rw[IC] at hc3;rw[EH] at hc4;have hf1:=hrow.frozen (k*4);have hf2:=hrow.frozen (k*4+1);have hf3:=hrow.frozen (k*4+2);have hf4:=hrow.frozen (k*4+3);have HX:U (AE ((((w1.setCell (ad w.heap.size (k*4)) (.bool (N k).lf)).setCell (ad w.heap.size (k*4+1)) (.slice (some (ad gk 0)) (N k).kn (N k).kn)).setCell (ad w.heap.size (k*4+2)) (.slice (some (ad gd 0)) (N k).dn (N k).dn)).setCell (ad w.heap.size (k*4+3)) (iv (N k).ct)) w.heap.size w.heap.size m (Fh N (k+1))
     (λi=>if i=k then some (ad gk 0) else KA i) (λi=>if i=k then some (ad gd 0) else DA i) (λi=>if i=k then (N k).kn else KC i) (λi=>if i=k then (N k).dn else DC i)/\
     Bl w ((((w1.setCell (ad w.heap.size (k*4)) (.bool (N k).lf)).setCell (ad w.heap.size (k*4+1)) (.slice (some (ad gk 0)) (N k).kn (N k).kn)).setCell (ad w.heap.size (k*4+2)) (.slice (some (ad gd 0)) (N k).dn (N k).dn)).setCell (ad w.heap.size (k*4+3)) (iv (N k).ct))):=by
    have q:=HO.o.put hsz hb1 k (N k) gk gd (N k).kn (N k).dn hgk hgd hrk hrd
    rw[QW] at q
    exact⟨q,((((HB.o.trans (hb1.mono hsz)).setCell (Wu _) _).setCell (Wu _) _).setCell (Wu _) _).setCell (Wu _) _⟩
   clear hrk hrd hb1 hrow HO HB c0 c1 c2 c3;go_wp2;go_roundw;case rel=>exact⟨k+1,_,_,_,_,by omega,by go_num,HX.o⟩
   case measure=>simp[intOf];omega
  .have e:k=m:=by omega
   subst e;have HO:=hid hown;clear hown;go_wp2;go_ret;refine⟨KA,DA,KC,DC,rfl,?_,hbel⟩;have e:∀i,i<k->Fh N k i=N i:=λi hi=>by simp[Fh,hi]
   have hown:=HO.o;refine⟨hown.le,hown.row.congr (λx hx=>?_),λi hi=>?_,λi hi=>?_,λi j hi hj hij hl1 hl2=>?_,λi j hi hj hij hl1 hl2=>?_⟩;.unfold AW;rw[e (x / 4) (by omega)]
   .have:=hown.keys i hi;rwa [e i hi] at this
   .have:=hown.kids i hi;rwa [e i hi] at this
   .exact hown.apartK i j hi hj hij (by rw[e i hi];exact hl1) (by rw[e j hj];exact hl2)
   .exact hown.apartD i j hi hj hij (by rw[e i hi];exact hl1) (by rw[e j hj];exact hl2)
theorem NC (a:Option Addr) (m c:Nat) (N:Nat->Tn) (w:World) (h:Bk w a m N) (hm:m<=1048576) (hN:∀i,i<m->Bf (N i)) :
  WS 83 #[.agg #[.slice a m c]] w λe w'=>∃g KA DA KC DC,e=.returned (.agg #[.slice (some (ad g 0)) m m])/\w.heap.size<=g/\AE w' w.heap.size g m N KA DA KC DC/\Bl w w':=by
 have HH:U ((∀o1 o2 o3,Bl w (((w.alloc o1).alloc o2).alloc o3))/\(∀o1 o2 o3,(((w.alloc o1).alloc o2).alloc o3).heap.size=w.heap.size+3)/\Bk w a m N/\∀i,i<m->Bf (N i)):=⟨λo1 o2 o3=>(((Aa _ _).alloc (by simp) _).alloc (by simp;omega) _),λo1 o2 o3=>by simp,h,hN⟩;clear h hN;go_enter Tryz.func83,Tryz.ntmps83;go_wp2_with fail
 refine (Ko a m c N _ (HH.o.2.2.1.below (HH.o.1 _ _ _)) hm HH.o.2.2.2).mono ?_;rintro e w1 ⟨KA,DA,KC,DC,rfl,ho1,hb1⟩;try unfold Bl at ho1
 try unfold Bl at hb1
 rw[HH.o.2.1] at ho1 hb1 ⊢;have hz:w.heap.size+2<w1.heap.size:=by have:=ho1.row.lt;omega
 have hc:=λb o hb=>hb1.cell (p:=(ad b o)) hb;have hfz:=λb o hb=>hb1.frozen (p:=(ad b o)) hb;have HE:=hid (ai ho1 ((HH.o.1 _ _ _).trans (hb1.mono (by omega))));clear ho1 hb1;go_wp2;refine bodyPost_ret (v:=.agg #[.slice (some (ad (w.heap.size+3) 0)) m m]) (by simp[results,Tryz.results83,go_sem,hc]) rfl ⟨_,KA,DA,KC,DC,rfl,by omega,?_,?_⟩
 .have hset:∀{W:World} {p:Addr} {v:Value},AE W (w.heap.size+3) (w.heap.size+3) m N KA DA KC DC->p.block<w.heap.size+3->AE (W.setCell p v) (w.heap.size+3) (w.heap.size+3) m N KA DA KC DC:=by
   intro W p v q hp;refine⟨q.le,q.row.setOther (by omega) _,λi hi=>(q.keys i hi).setOther hp _,λi hi=>?_,q.apartK,q.apartD⟩;rcases q.kids i hi with h0|⟨g,hA,hg,hr⟩;.exact Or.inl h0
   .exact Or.inr ⟨g,hA,hg,hr.setOther (by omega) _⟩
  have q:=hset (v:=.slice (some (ad (w.heap.size+3) 0)) m m) (p:=(ad (w.heap.size+1) 0)) (hset (v:=.slice (some (ad (w.heap.size+3) 0)) m m) (p:=(ad (w.heap.size+2) 0)) HE.o.1 (by simp)) (by simp);exact⟨by omega,q.row,λi hi=>(q.keys i hi).mono (by omega),λi hi=>(q.kids i hi).mono (by omega),q.apartK,q.apartD⟩
 .exact (HE.o.2.setCell (by simp;try omega) _).setCell (by simp;try omega) _
theorem Fe (a b:Option Addr) (len ca cb:Nat) (f:Nat->ByteArray) (w:World) (ha:BE w a len f) (hb:BE w b len f) (hm:len<=1048576) :
  WS 48 #[.slice a len ca,.slice b len cb] w λe w'=>e=.returned (.bool true)/\∃n,w'=w.drewN n:=by
 have hll:((len:Int) != (len:Int))=false:=by simp
 go_enter Tryz.func48,Tryz.ntmps48;go_wp2;go_loopw [5] (λi wr=>∃k n:Nat,k<=len/\i=iv k/\wr=w.drewN n) (λi _=>len-(intOf i).toNat)
 case atStart=>exact⟨0,0,Ww _,rfl,rfl⟩
 case round=>
  obtain⟨k,n,hk,rfl,rfl⟩:=hrel;by_cases hlt:k<len
  .have hne:¬ len=0:=by omega
   rcases ha with h|⟨ba,oa,rfl,hca⟩;.exact absurd h hne
   rcases hb with h|⟨bb,ob,rfl,hcb⟩;.exact absurd h hne
   have h1:=hca k hlt;have h2:=hcb k hlt;clear hca hcb;go_wp2;go_quiet (fail)
   go_wp2;go_roundw;case rel=>exact⟨k+1,_,by omega,by go_num,rfl⟩
   case measure=>simp[intOf];omega
  .have e:k=len:=by omega
   subst e;go_wp2;go_ret;exact⟨rfl,n,rfl⟩
theorem F9 (a b:Option Addr) (len ca cb:Nat) (f:Nat->Int) (w:World) (ha:Rd .i64 w a len f) (hb:Rd .i64 w b len f) (hm:len<=1048576) :
  WS 17 #[.slice a len ca,.slice b len cb] w λe w'=>e=.returned (.bool true)/\∃n,w'=w.drewN n:=by
 have hll:((len:Int) != (len:Int))=false:=by simp
 go_enter Tryz.func17,Tryz.ntmps17;go_wp2;go_loopw [5] (λi wr=>∃k n:Nat,k<=len/\i=iv k/\wr=w.drewN n) (λi _=>len-(intOf i).toNat)
 case atStart=>exact⟨0,0,Ww _,rfl,rfl⟩
 case round=>
  obtain⟨k,n,hk,rfl,rfl⟩:=hrel;by_cases hlt:k<len
  .have hne:¬ len=0:=by omega
   rcases ha with h|⟨ba,oa,rfl,hca⟩;.exact absurd h hne
   rcases hb with h|⟨bb,ob,rfl,hcb⟩;.exact absurd h hne
   have h1:=hca k hlt;have h2:=hcb k hlt;have hff:(f k != f k)=false:=by simp
   clear hca hcb;go_wp2;go_quiet (fail)
   go_wp2;go_roundw;case rel=>exact⟨k+1,_,by omega,by go_num,rfl⟩
   case measure=>simp[intOf];omega
  .have e:k=len:=by omega
   subst e;go_wp2;go_ret;exact⟨rfl,n,rfl⟩
theorem LX (x:Tn) (ka da kb db:Option Addr) (kc dc kc' dc' : Nat) (w:World) (h1:BE w ka x.kn x.ks) (h2:Rd .i64 w da x.dn x.kd) (h3:BE w kb x.kn x.ks) (h4:Rd .i64 w db x.dn x.kd) (hf:Bf x) :
  WS 160 #[.agg #[.bool x.lf,.slice ka x.kn kc,.slice da x.dn dc,iv x.ct],.agg #[.bool x.lf,.slice kb x.kn kc',.slice db x.dn dc',iv x.ct]] w (WT w (.bool true)):=by
 have hss:(x.ct != x.ct)=false:=by simp
 have hbb:(x.lf != x.lf)=false:=by simp
 have HR:U (BE w ka x.kn x.ks/\Rd .i64 w da x.dn x.kd/\BE w kb x.kn x.ks/\Rd .i64 w db x.dn x.kd):=⟨h1,h2,h3,h4⟩;obtain⟨hf1,hf2⟩:=hf;clear h1 h2 h3 h4;go_enter Tryz.func160,Tryz.ntmps160;go_wp2_with fail
 have hbel:∀o1 o2,Bl w ((w.alloc o1).alloc o2):=λo1 o2=>((Wt _ _).alloc (Wu _) o1).alloc (by simp) o2;refine (Fe ka kb x.kn kc kc' x.ks _ (HR.o.1.below (hbel _ _)) (HR.o.2.2.1.below (hbel _ _)) hf1).mono ?_;rintro e w1 ⟨rfl,n1,rfl⟩;go_wp2_with fail
 refine (F9 da db x.dn dc dc' x.kd _ (HR.o.2.1.below (Af (hbel _ _) n1)) (HR.o.2.2.2.below (Af (hbel _ _) n1)) hf2).mono ?_;rintro e w2 ⟨rfl,n2,rfl⟩;go_wp2;go_ret;exact⟨rfl,Af (hbel _ _) (n1+n2)⟩
theorem K5 (a b:Option Addr) (m ca cb:Nat) (N:Nat->Tn) (w:World) (ha:Bk w a m N) (hb:Bk w b m N) (hm:m<=1048576) (hN:∀i,i<m->Bf (N i)) :
  WS 135 #[.slice a m ca,.slice b m cb] w (WT w (.bool true)):=by
 have hll:((m:Int) != (m:Int))=false:=by simp
 go_enter Tryz.func135,Tryz.ntmps135;go_wp2;go_loopw [5] (λi wr=>∃k:Nat,k<=m/\i=iv k/\Bl w wr) (λi _=>m-(intOf i).toNat)
 case atStart=>exact⟨0,Ww _,rfl,Wt _ _⟩
 case round=>
  obtain⟨k,hk,rfl,hbel⟩:=hrel;by_cases hlt:k<m
  .have hne:¬ m=0:=by omega
   have ha':=ha.below hbel;have hb':=hb.below hbel;rcases ha' with h|⟨ba,oa,rfl,hca⟩;.exact absurd h hne
   rcases hb' with h|⟨bb,ob,rfl,hcb⟩;.exact absurd h hne
   obtain⟨ka,kc,da,dc,c0,c1,c2,c3,c4,c5⟩:=hca k hlt;obtain⟨kb,kc',db,dc',g0,g1,g2,g3,g4,g5⟩:=hcb k hlt;have HL:=hN k hlt;clear hca hcb ha hb hN;have hsz:=hbel.size;have HB:=hid hbel;clear hbel;go_wp2;go_region_with (go_at_call 160;refine (LX (N k) ka da kb db kc dc kc' dc' _ (by exact c4) (by exact c5) (by exact g4) (by exact g5) HL).mono ?_;rintro e w2 ⟨rfl,hb2⟩)
   all_goals
    have HX:=hid ((HB.o.drew).trans (hb2.mono (by simpa using hsz)))
    clear hb2 c0 c1 c2 c3 c4 c5 g0 g1 g2 g3 g4 g5
    go_wp2
    go_roundw
    case rel=>exact⟨k+1,by omega,by go_num,HX.o⟩
    case measure=>simp[intOf];omega
  .have e:k=m:=by omega
   subst e;go_wp2;go_ret;exact⟨rfl,hbel⟩
theorem Nn (a b:Option Addr) (m ca cb:Nat) (N:Nat->Tn) (w:World) (ha:Bk w a m N) (hb:Bk w b m N) (hm:m<=1048576) (hN:∀i,i<m->Bf (N i)) :
  WS 104 #[.agg #[.slice a m ca],.agg #[.slice b m cb]] w (WT w (.bool true)):=by
 have HR:U (Bk w a m N/\Bk w b m N/\∀i,i<m->Bf (N i)):=⟨ha,hb,hN⟩;clear ha hb hN;go_enter Tryz.func104,Tryz.ntmps104;go_wp2_with fail
 have hbel:∀o1 o2,Bl w ((w.alloc o1).alloc o2):=λo1 o2=>((Wt _ _).alloc (Wu _) o1).alloc (by simp) o2;refine (K5 a b m ca cb N _ (HR.o.1.below (hbel _ _)) (HR.o.2.1.below (hbel _ _)) hm HR.o.2.2).mono ?_;rintro e w1 ⟨rfl,hb1⟩;have H1:=hid ((hbel _ _).trans (hb1.mono (by simp;omega)));clear hb1;go_wp2;go_ret;exact⟨rfl,H1.o⟩
def B4 (N:Nat->Tn):Nat->Nat
 | 0=>0
 | k+1=>B4 N k+(N k).kn+(N k).dn
theorem JC (a:Option Addr) (n c:Nat) (X:Nat->ByteArray) (l:Int) (w:World) (h:BE w a n X) (hn:n<=maxLen) (hX:∀i,i<n->(X i).size<=maxLen) (h0:0<=l) (h1:l<=1048576) :
  WS 161 #[.slice a n c,iv l] w λe w'=>∃r:Int,e=.returned (iv r)/\(r=-1\/(0<=r/\r+(n:Int)<=l))/\Bl w w':=by
 unfold maxLen at hn;by_cases hneg:l-(n:Int)<0;.go_enter Tryz.func161,Tryz.ntmps161;go_wp2;go_ret;exact⟨-1,rfl,Or.inl rfl,Wt _ _⟩
 .go_enter Tryz.func161,Tryz.ntmps161;go_wp2;go_loopw [1,5] (λq i wr=>∃(k:Nat) (l' : Int),k<=n/\i=iv k/\q=iv l'/\0<=l'/\l'<=l-(n:Int)/\Bl w wr) (λ_ i _=>n-(intOf i).toNat)
  case atStart=>exact⟨0,_,Ww _,rfl,rfl,by omega,by omega,Wt _ _⟩
  case round=>
   obtain⟨k,l',hk,rfl,rfl,hl0,hl1,hbel⟩:=hrel;by_cases hlt:k<n
   .have hne:¬ n=0:=by omega
    have h':=h.below hbel;have HB:=hid hbel;rcases h' with h' | ⟨b,o,rfl,hc⟩;.exact absurd h' hne
    have c1:=hc k hlt;have HX:=hX k hlt;unfold maxLen at HX;clear hc h hbel hX;by_cases hq:l' - ((X k).size:Int)<0;.go_wp2;go_ret;exact⟨-1,rfl,Or.inl rfl,HB.o⟩
    .go_wp2;go_roundw;case rel=>exact⟨k+1,_,by omega,by go_num,rfl,by omega,by omega,HB.o⟩
     case measure=>simp[intOf];omega
   .have e:k=n:=by omega
    subst e;go_wp2;go_ret;exact⟨l',rfl,Or.inr ⟨hl0,by omega⟩,hbel⟩
theorem KM (a:Option Addr) (n c:Nat) (l:Int) (w:World) (hn:n<=maxLen) (h0:0<=l) (h1:l<=1048576) :
  WS 162 #[.slice a n c,iv l] w λe w'=>∃r:Int,e=.returned (iv r)/\(r=-1\/(0<=r/\r+(n:Int)<=l))/\Bl w w':=by
 unfold maxLen at hn;by_cases h:l-(n:Int)<0;.go_enter Tryz.func162,Tryz.ntmps162;go_wp2;go_ret;exact⟨-1,rfl,Or.inl rfl,Wt _ _⟩
 .go_enter Tryz.func162,Tryz.ntmps162;go_wp2;go_ret;exact⟨_,rfl,Or.inr ⟨by omega,by omega⟩,Wt _ _⟩
theorem Mm (x:Tn) (ka da:Option Addr) (kc dc:Nat) (l:Int) (w:World) (hk:BE w ka x.kn x.ks) (hB:Em x) (h0:0<=l) (h1:l<=1048576) :
  WS 136 #[.agg #[.bool x.lf,.slice ka x.kn kc,.slice da x.dn dc,iv x.ct],iv l] w λe w'=>∃r:Int,e=.returned (iv r)/\(r=-1\/(0<=r/\r+(x.kn:Int)+(x.dn:Int)<=l))/\Bl w w':=by
 have HK:=hid hk;have HB:=hid hB;clear hk hB;go_enter Tryz.func136,Tryz.ntmps136;go_wp2_with fail
 refine (JC ka x.kn kc x.ks l _ (HK.o.below (Aa _ _)) HB.o.1 HB.o.2.2 h0 h1).mono ?_;rintro e w1 ⟨r,rfl,hr,hb1⟩;have hc1:=(Vo hb1).1 w.heap.size;have H1:=hid ((Aa _ _).trans (hb1.mono (by simp)));have hz1:w.heap.size<w1.heap.size:=by have:=hb1.size;simp at this;omega
 simp at hc1;clear hb1;rcases hr with rfl|⟨hr0,hr1⟩;.go_wp2;go_ret;exact⟨-1,rfl,Or.inl rfl,H1.o⟩
 .have hr2:¬ r<0:=by omega
  go_wp2_with fail
  refine (KM da x.dn dc r _ HB.o.2.1 hr0 (by omega)).mono ?_;rintro e w2 ⟨r2,rfl,hq,hb2⟩;have H2:=hid (H1.o.trans (hb2.mono (by omega)));clear hb2;rcases hq with rfl|⟨hq0,hq1⟩;.go_wp2;go_ret;exact⟨-1,rfl,Or.inl rfl,H2.o⟩
  .have hq2:¬ r2<0:=by omega
   go_wp2;go_ret;exact⟨r2,rfl,Or.inr ⟨hq0,by omega⟩,H2.o⟩
theorem KU (a:Option Addr) (m c:Nat) (N:Nat->Tn) (l:Int) (w:World) (h:Bk w a m N) (hm:m<=maxLen) (hN:∀i,i<m->Em (N i)) (h0:0<=l) (h1:l<=1048576) :
  WS 107 #[.slice a m c,iv l] w λe w'=>∃r:Int,e=.returned (iv r)/\(r=-1\/(0<=r/\r+(m:Int)+(B4 N m:Int)<=l))/\Bl w w':=by
 unfold maxLen at hm;by_cases hneg:l-(m:Int)<0;.go_enter Tryz.func107,Tryz.ntmps107;go_wp2;go_ret;exact⟨-1,rfl,Or.inl rfl,Wt _ _⟩
 .go_enter Tryz.func107,Tryz.ntmps107;go_wp2;go_loopw [1,5] (λq i wr=>∃(k:Nat) (l' : Int),k<=m/\i=iv k/\q=iv l'/\0<=l'/\l'+(B4 N k:Int)<=l-(m:Int)/\Bl w wr) (λ_ i _=>m-(intOf i).toNat)
  case atStart=>exact⟨0,_,Ww _,rfl,rfl,by omega,by simp[B4],Wt _ _⟩
  case round=>
   obtain⟨k,l',hk,rfl,rfl,hl0,hl1,hbel⟩:=hrel;by_cases hlt:k<m
   .have hne:¬ m=0:=by omega
    have h':=h.below hbel;have HB:=hid hbel;have hsz:=hbel.size;rcases h' with h' | ⟨b,o,rfl,hc⟩;.exact absurd h' hne
    obtain⟨ka,kc,da,dc,c0,c1,c2,c3,c4,c5⟩:=hc k hlt;have HK:=hid c4;have HL:=hid (hN k hlt);clear hc hN hbel h c4 c5;go_wp2_with fail
    refine (Mm (N k) ka da kc dc l' _ HK.o HL.o hl0 (by omega)).mono ?_;rintro e w1 ⟨r,rfl,hr,hb1⟩;have HB1:=hid (HB.o.trans (hb1.mono hsz));clear hb1;rcases hr with rfl|⟨hr0,hr1⟩;.go_wp2;go_ret;exact⟨-1,rfl,Or.inl rfl,HB1.o⟩
    .have hr2:¬ r<0:=by omega
     have HN2:U (r+(B4 N (k+1):Int)<=l-(m:Int)):=by show r+(B4 N (k+1):Int)<=l-(m:Int);have:B4 N (k+1)=B4 N k+(N k).kn+(N k).dn:=rfl;omega
     go_wp2;go_roundw;case rel=>exact⟨k+1,r,by omega,by go_num,rfl,hr0,HN2.o,HB1.o⟩
     case measure=>simp[intOf];omega
   .have e:k=m:=by omega
    subst e;go_wp2;go_ret;exact⟨l',rfl,Or.inr ⟨hl0,by omega⟩,hbel⟩
theorem LG (N:Nat->Tn):∀(m i:Nat),i<m->(N i).kn+(N i).dn<=B4 N m
 | 0,i,h=>absurd h (Wy _)
 | m+1,i,h=>by
  have e:B4 N (m+1)=B4 N m+(N m).kn+(N m).dn:=rfl
  by_cases e2:i=m
  .subst e2;omega
  .have:=LG N m i (by omega)
   omega
end Go.Proofs.YtacpbofiipdodaaGreat
namespace Go.Proofs.YtacpbofiipdodaaGreat
open Go Go.ChangeAt Go.ChangeShapes Go.Deep Go.Joins Go.RowKit Go.WideShapes
variable {cs:List Value}{fuel:Nat}
section
variable {H:Type} {enc:TypeId × Value->H} {W:World}
theorem Fz {w:World} {a:Addr} {v:Value} (h:w.cell? (a.add 0)=some v):a.spot=none:=by obtain⟨b,off,spot⟩:=a;simpa[Addr.add] using World.cell?_spot h
theorem Hw {b off i:Nat}:(Addr.add (ad b off) i)=(ad b (off+i)):=by
 unfold Addr.add;by_cases h:i=0;.subst h;simp
 .simp[h]
set_option maxRecDepth 100000 in
theorem Tg {x:DataW H × List MemPlace} (h:DataW.trod enc Tryz.prog W 0 (λ_=>true) true fuel 31 cs=some x) :
  ∃a n c f,cs=[.slice a n c]/\Rd .i64 W a n f/\n<=maxLen/\∀i,i<n->(Lit.int .i64 (f i)).wf=true:=by
 rcases open_ints Tryz.underlying31 Tryz.underlying2 (by kernel_rfl) h with ⟨hcs,_⟩|⟨y,l,c,zs,hcs,_,hl,hm,hz,_,hcell,hwz⟩;.exact⟨none,0,0,λ_=>0,hcs,Or.inl rfl,Ww _,λi hi=>absurd hi (Wy _)⟩
 .refine⟨_,l,c,λi=>zs.getD i 0,hcs,?_,by omega,λi hi=>?_⟩
  .by_cases h0:l=0;.exact Or.inl h0
   .simp at hz;obtain⟨b,off,spot⟩:=y;have hs:=Fz (hcell 0 (by omega));simp at hs;subst hs;exact Or.inr ⟨b,off,rfl,λi hi=>by rw[<- Hw];exact hcell i (by omega)⟩
  .simp at hz;have hiz:i<zs.length:=by omega
   exact hwz (zs.getD i 0) (by rw[WA,Wx hiz];exact WE hiz)
set_option maxRecDepth 100000 in
theorem Sh {x:DataW H × List MemPlace} (h:DataW.trod enc Tryz.prog W 0 (λ_=>true) true fuel 35 cs=some x) :
  ∃a n c X,cs=[.slice a n c]/\BE W a n X/\(∀i,i<n->(X i).size<=maxLen)/\n<=maxLen:=by
 rcases open_slice (P:=Tryz.prog) (t:=35) (e:=9) (by kernel_rfl) h with ⟨hcs,_⟩|⟨a,len,cap,m,fu,D,Pl,hcs,_,hl,hm,hmm,_,hx⟩;.exact⟨none,0,0,λ_=>{ data:=#[] },hcs,Or.inl rfl,λi hi=>absurd hi (Wy _),Ww _⟩
 .have hlm:len<=m:=by rw[hmm];split <;> omega
  have each:∀i,i<len->∃q:ByteArray,W.cell? (a.add i)=some (.string q)/\q.size<=maxLen:=by
   intro i hi;obtain⟨cs',h1,h2⟩:=hx i (by omega);rw[show Tryz.prog.cellsOf 9=1 by kernel_rfl] at h1;obtain⟨_,hlen,hcell⟩:=World.cells?_some h1;match cs',hlen with
   | [v0],_=>obtain⟨x0,e1,_,hs⟩:=DataW.trod_string Tryz.underlying9 h2;simp at e1;subst e1;have c0:=hcell 0 (by omega);rw[Addr.add_add] at c0;exact⟨x0,by simpa using c0,hs⟩
  obtain⟨q,hq⟩:=choose_lt each;refine⟨some a,len,cap,q,hcs,?_,λi hi=>(hq i hi).2,by omega⟩;by_cases h0:len=0;.exact Or.inl h0
  .obtain⟨b,off,spot⟩:=a;have hs:=Fz (a:=⟨b,off,spot⟩) (by simpa using (hq 0 (by omega)).1);simp at hs;subst hs;refine Or.inr ⟨b,off,rfl,λi hi=>?_⟩;have k0:=(hq i hi).1;rw[Hw] at k0;exact k0
set_option maxRecDepth 100000 in
theorem Oz {x:DataW H × List MemPlace} (h:DataW.trod enc Tryz.prog W 0 (λ_=>true) true fuel 124 cs=some x) :
  ∃a n c N,cs=[.slice a n c]/\Bk W a n N/\(∀i,i<n->Em (N i))/\n<=maxLen:=by
 rcases open_slice (P:=Tryz.prog) (t:=124) (e:=269) (by kernel_rfl) h with ⟨hcs,_⟩|⟨a,len,cap,m,fu,D,Pl,hcs,_,hl,hm,hmm,_,hx⟩;.exact⟨none,0,0,λ_=>⟨false,0,λ_=>{ data:=#[] },0,λ_=>0,0⟩,hcs,Or.inl rfl,λi hi=>absurd hi (Wy _),Ww _⟩
 .have hlm:len<=m:=by rw[hmm];split <;> omega
  have each:∀i,i<len->∃q:Tn × Option Addr × Nat × Option Addr × Nat,W.cell? (a.add (i*4))=some (.bool q.1.lf)/\W.cell? (a.add (i*4+1))=some (.slice q.2.1 q.1.kn q.2.2.1)/\W.cell? (a.add (i*4+2))=some (.slice q.2.2.2.1 q.1.dn q.2.2.2.2)/\W.cell? (a.add (i*4+3))=some (iv q.1.ct)/\
    BE W q.2.1 q.1.kn q.1.ks/\Rd .i64 W q.2.2.2.1 q.1.dn q.1.kd/\Em q.1:=by
   intro i hi
   obtain⟨cs',h1,h2⟩:=hx i (by omega)
   rw[show Tryz.prog.cellsOf 269=4 by kernel_rfl] at h1
   obtain⟨_,hlen,hcell⟩:=World.cells?_some h1
   obtain⟨xs,k,hk,hxy,_,hxl,hf⟩:=DataW.trod_struct (P:=Tryz.prog) Tryz.underlying269 h2
   have g0:=hf 0 _ rfl
   have g1:=hf 1 _ rfl
   have g2:=hf 2 _ rfl
   have g3:=hf 3 _ rfl
   rw[show Tryz.prog.cellsOf _=1 by kernel_rfl] at g0 g1 g2 g3
   match xs,hxl,cs',hlen with
   | [y0,y1,y2,y3],_,[v0,v1,v2,v3],_=>
    simp at g0 g1 g2 g3
    obtain⟨b0,e0,_⟩:=DataW.trod_bool Tryz.underlying4 g0
    obtain⟨ka,kn,kc,X,e1,hX,hXs,hkn⟩:=Sh g1
    obtain⟨da,dn,dc,f,e2,hf2,hdn,hwf⟩:=Tg g2
    obtain⟨i3,e3,_,_⟩:=DataW.trod_int Tryz.underlying2 g3
    simp at e0 e1 e2 e3
    subst e0 e1 e2 e3
    have c0:=hcell 0 (by omega)
    have c1:=hcell 1 (by omega)
    have c2:=hcell 2 (by omega)
    have c3:=hcell 3 (by omega)
    rw[Addr.add_add] at c0 c1 c2 c3
    exact⟨(⟨b0,kn,X,dn,f,i3⟩,ka,kc,da,dc),by simpa using c0,by simpa using c1,by simpa using c2,by simpa using c3,hX,hf2,hkn,hdn,hXs⟩
  haveI:Inhabited Tn:=⟨⟨false,0,λ_=>{ data:=#[] },0,λ_=>0,0⟩⟩
  obtain⟨q,hq⟩:=choose_lt each;refine⟨some a,len,cap,λi=>(q i).1,hcs,?_,λi hi=>(hq i hi).2.2.2.2.2.2,by omega⟩;by_cases h0:len=0;.exact Or.inl h0
  .obtain⟨b,off,spot⟩:=a;have hs:=Fz (a:=⟨b,off,spot⟩) (by simpa using (hq 0 (by omega)).1);simp at hs;subst hs;refine Or.inr ⟨b,off,rfl,λi hi=>?_⟩;obtain⟨k0,k1,k2,k3,k4,k5,_⟩:=hq i hi;rw[Hw] at k0 k1 k2 k3;exact⟨_,_,_,_,k0,k1,k2,k3,k4,k5⟩
def V3 (w:World) (v:Value):Prop:=
 ∃a n c N,v=.agg #[.slice a n c]/\Bk w a n N/\(∀i,i<n->Em (N i))/\n<=maxLen
end
end Go.Proofs.YtacpbofiipdodaaGreat
namespace Go.Proofs.YtacpbofiipdodaaGreat
open Go Go.Deep Go.RowKit
def Vb (w:World) (P:Prop) (e:Ending) (w' : World):Prop:=∃b,e=.returned (.bool b)/\(b=true↔P)/\Bl w w'
end Go.Proofs.YtacpbofiipdodaaGreat
