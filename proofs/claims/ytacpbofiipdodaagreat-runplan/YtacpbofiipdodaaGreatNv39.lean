import Derived.Test.YtacpbofiipdodaaGreatSrt
import Derived.Sort.Walk0
import Derived.Sort.KeysCollected
import Derived.Test.YtacpbofiipdodaaGreatNv38
import Derived.Test.YtacpbofiipdodaaGreatNv37
set_option linter.unusedVariables false
set_option linter.unusedSimpArgs false
set_option maxRecDepth 100000
set_option maxHeartbeats 90000000
namespace Go.Proofs.YtacpbofiipdodaaGreat
open Go Go.Deep Go.Maps Go.RowKit Go.Sort
theorem Su {x y:ByteArray} (h:x.data.toList<y.data.toList):Op.bytesLess x.toList y.toList=true:=by rw[Go.Proofs.bytesLess_eq,Lib.toList_data,Lib.toList_data];exact decide_eq_true h
theorem NB {L:List ByteArray} {M:List (List UInt8)} (hn:L.Nodup) (hM:M=(L.map (λx=>x.data.toList)).mergeSort (λx y=>decide (x<=y))):DE (M.map (λl=>ByteArray.mk l.toArray))/\(∀x,x∈M.map (λl=>ByteArray.mk l.toArray)↔x∈L)/\M.length=L.length:=by
 have tr:∀a b c:List UInt8,(λx y:List UInt8=>decide (x<=y)) a b=true->(λx y:List UInt8=>decide (x<=y)) b c=true->(λx y:List UInt8=>decide (x<=y)) a c=true:=λa b c h1 h2=>by simp only[decide_eq_true_eq] at *;exact List.le_trans h1 h2
 have tot:∀a b:List UInt8,((λx y:List UInt8=>decide (x<=y)) a b || (λx y:List UInt8=>decide (x<=y)) b a)=true:=λa b=>by simp only[Bool.or_eq_true,decide_eq_true_eq];exact List.le_total a b
 have hsp:=List.pairwise_mergeSort tr tot (L.map (λx=>x.data.toList));have hpm:=List.mergeSort_perm (L.map (λx=>x.data.toList)) (λx y:List UInt8=>decide (x<=y));rw[<- hM] at hsp hpm;have hinj:∀x y:ByteArray,x.data.toList=y.data.toList->x=y:=λx y h=>by cases x;cases y;simp at h;rw[h]
 have hnl:(L.map (λx=>x.data.toList)).Nodup:=by rw[List.nodup_iff_pairwise_ne,List.pairwise_map];exact (List.nodup_iff_pairwise_ne.1 hn).imp (λ{a b} h e=>h (hinj a b e))
 have hnds:=hpm.nodup_iff.2 hnl;have hmk:∀l:List UInt8,(ByteArray.mk l.toArray).data.toList=l:=λl=>by simp
 refine⟨?_,λx=>?_,by rw[hpm.length_eq,WH]⟩
 .show List.Pairwise _ _;rw[List.pairwise_map];refine (hsp.and (List.nodup_iff_pairwise_ne.1 hnds)).imp ?_;rintro a b ⟨h1,h2⟩;refine Su ?_;rw[hmk,hmk];simp only[decide_eq_true_eq] at h1;by_cases q:a<b;.exact q
  .exact absurd (List.le_antisymm h1 (List.not_lt.1 q)) h2
 .rw[List.mem_map];constructor;.rintro⟨l,hl,rfl⟩;obtain⟨y,hy,e⟩:=List.mem_map.1 (hpm.mem_iff.1 hl);rw[hinj (ByteArray.mk l.toArray) y (by rw[hmk];exact e.symm)];exact hy
  .intro q;exact⟨x.data.toList,hpm.mem_iff.2 (List.mem_map.2 ⟨x,q,rfl⟩),by cases x;simp⟩
theorem Px (HB H0:Nat) (Y:Nat->Prop) (f:Fx) (rg:Int) (K:List Int) (ty F wb tb xb:Nat) (tx:Int->ByteArray) (w:World) (hq:FQ w HB Y f rg 0 K) (hm:NQ ty F) (hB:Bx w wb 170 #[pt tb,pt xb]) (hwb:wb<H0) (hH0:H0<=f.ob) (hT:∀V x,Below H0 w V->WS 100 #[pt tb,iv x] V (WT V (.string (tx x)))) (hY:∀k,Y k->k<w.heap.size) (hHB:HB<=w.heap.size) (hK:K.length<=300000) (hn:(K.map tx).Nodup) :
  WS 46 #[pt wb,.iface ty (pt f.ob)] w λe w'=>∃(v:Value) (L:List ByteArray),e=.returned v/\w'.ownsRow w.heap.size 9 1 v L.length (AC L)/\DE L/\(∀x,x∈L↔∃i,i∈K/\tx i=x)/\L.length=K.length/\FQ w' HB Y f rg K.length K/\Fr (λk=>k=f.ob) w w':=by
 obtain⟨gb,hgb⟩:∃gb,gb=f.ob:=⟨_,rfl⟩;have HG:U (gb=f.ob/\H0<=f.ob/\wb<H0/\HB<=w.heap.size/\(∀k,Y k->k<w.heap.size)/\Bx w wb 170 #[pt tb,pt xb]/\FQ w HB Y f rg 0 K/\(K.map tx).Nodup):=⟨hgb,hH0,hwb,hHB,hY,hB,hq,hn⟩;have HT:U (∀V x,Below H0 w V->WS 100 #[pt tb,iv x] V (WT V (.string (tx x)))):=hT;have hnx:=hm.nx gb;unfold GT at hnx;have HNX:U (∀(W:World) (tk:Nat),FQ W HB Y f rg tk K->tk<=K.length->WS 204 #[pt gb] W λe w'=>∃tm ok,e=.returned (.tuple #[tm,ok])/\(G7 w' HB Y f rg K tk tm ok)/\(tm=iv (intOf tm))/\(ok=.bool true\/ok=.bool false)/\Fr (λk=>k=f.ob) W w'):=λW tk h1 h2=>by
  rw[hgb];refine (Es HB Y f rg tk K W h1 h2 (by omega)).mono ?_;rintro e w' (⟨e1,rfl,q1,q2⟩|⟨e1,rfl,q1,q2⟩);.exact⟨_,_,rfl,.inr ⟨e1,rfl,q1⟩,rfl,.inr rfl,Fr.ofBelow q2⟩
  .exact⟨_,_,rfl,.inl ⟨e1,rfl,rfl,q1⟩,rfl,.inl rfl,q2⟩
 obtain⟨i0,hi,hz0,hz1,hz2⟩:=info_parts Ia;have HI:U (Tryz.prog.info? 9=some i0/\i0.zero=some (.string { data:=#[] })/\i0.size=1/\i0.bytes=16):=⟨hi,hz0,hz1,hz2⟩;rw[<- hgb];clear hq hm hB hwb hH0 hT hY hHB hn hgb hi hz0 hz1 hz2;go_enter Tryz.func46,Tryz.ntmps46;go_wp2_with fail
 refine (HNX.o w 0 HG.o.2.2.2.2.2.2.1 (Ww _)).mono ?_;rintro e w1 ⟨tm,ok,rfl,hnx1,htm,hok,hf1⟩;have S1:U (G7 w1 HB Y f rg K 0 tm ok/\(tm=iv (intOf tm))/\(ok=.bool true\/ok=.bool false)/\Fr (λk=>k=f.ob\/w.heap.size<=k) w w1):=⟨hnx1,htm,hok,hf1.mono (λi _ q=>.inl q)⟩;clear hnx1 hf1 htm hok;go_wp2;go_loopw [5,6,7] (λu tm ok wr=>∃j:Nat,j<=K.length/\G7 wr HB Y f rg K j tm ok/\(tm=iv (intOf tm))/\(ok=.bool true\/ok=.bool false)/\wr.ownsRow w.heap.size 9 1 u j (AC ((K.take j).map tx))/\Fr (λk=>k=f.ob\/w.heap.size<=k) w wr) (λ_ _ ok wr=>2*(K.length-BT wr f.ob)+PJ ok)
 case atStart=>exact⟨0,Ww _,S1.o.1,S1.o.2.1,S1.o.2.2.1,⟨rfl,.inl ⟨rfl,rfl⟩⟩,S1.o.2.2.2⟩
 case round=>
  obtain⟨j,hj,hnx1,htm,hok,hown,hfr⟩:=hrel;obtain⟨va,vc,rfl⟩:=Da hown;have HR:U (wr.ownsRow w.heap.size 9 1 (.slice va j vc) j (AC ((K.take j).map tx))/\Fr (λk=>k=f.ob\/w.heap.size<=k) w wr):=⟨hown,hfr⟩;have hsz:=hfr.size;clear hown hfr S1;rcases hnx1 with ⟨hlt,rfl,rfl,hq⟩|⟨he,rfl,hq⟩
  .have HQ:U (FQ wr HB Y f rg (j+1) K):=hq;have htd:BT wr f.ob=j+1:=hq.told;clear hq hok htm;obtain⟨z,hz⟩:∃z,z=gz K j:=⟨_,rfl⟩;have HZ:U (K.take (j+1)=K.take j++[z]):=by show _=_;rw[WK hlt,hz];unfold gz;rw[List.getD,Wx hlt];rfl
   rw[<- hz];clear hz;have HB0:U (Below H0 w wr):=HR.o.2.toBelow (by have:=HG.o;have h6:=this.2.2.2.2.2.2.1.ob;omega) (λk hk q=>by have:=HG.o;have h6:=this.2.2.2.2.2.2.1.ob;omega);have x0:wr.cell? (ad wb 0)=some (pt tb):=(HB0.o.cell (p:=(ad wb 0)) HG.o.2.2.1).trans (HG.o.2.2.2.2.2.1.cell 0);obtain⟨tt,htt⟩:∃tt,tt=tx z:=⟨_,rfl⟩;have HTT:U (WS 100 #[pt tb,iv z] wr (WT wr (.string tt))):=by rw[htt];exact HT.o wr z HB0.o
   have HTE:U (tt=tx z):=htt;clear htt;go_wp2_with fail
   refine HTT.o.mono ?_;rintro e w2 ⟨rfl,hb2⟩;have S2:U (w2.ownsRow w.heap.size 9 1 (.slice va j vc) j (AC ((K.take j).map tx))/\Fr (λk=>k=f.ob\/w.heap.size<=k) w w2/\FQ w2 HB Y f rg (j+1) K):=⟨Al HR.o.1 hb2,HR.o.2.trans (Fr.ofBelow (P:=λk=>k=f.ob\/w.heap.size<=k) hb2) (λ_ _ q=>q) (λ_ _ q=>q),HQ.o.below hb2⟩;have hsz2:w.heap.size<=w2.heap.size:=S2.o.2.1.size;clear hb2 HTT x0 HR HQ HB0;have H1a:U ((w2.alloc (.cells #[.string tt] 9)).ownsRow w.heap.size 9 1 (.slice va j vc) j (AC ((K.take j).map tx))):=Al S2.o.1 (Aa _ _);go_wp2_with (at_builtin;refine wpList_append_own_at _ rfl _ _ 35 rfl w.heap.size 9 i0 (.string { data:=#[] }) 1 16 Tryz.underlying35 HI.o.1 HI.o.2.1 HI.o.2.2.1 HI.o.2.2.2 rfl (by decide) (.slice va j vc) j _ rfl H1a.o (ad w2.heap.size 0) 1 1 [.string tt] rfl rfl (cell_one_new _ _ _) (λu hu=>by simp at hu;subst hu;rfl) (by unfold maxLen;omega) (by omega) (by simp;omega) ?_)
   intro v2 w3 ho2 hg2 _ _;have S3:U (w3.ownsRow w.heap.size 9 1 v2 (j+1) (AC ((K.take (j+1)).map tx))/\Fr (λk=>k=f.ob\/w.heap.size<=k) w w3/\FQ w3 HB Y f rg (j+1) K):=by have hfg:Fr (λk=>w.heap.size<=k) w2 w3:=(Fr.ofBelow (P:=λk=>w.heap.size<=k) (Aa w2 (.cells #[.string tt] 9))).trans (Fr.ofGrown hg2 (λk e=>(Aw H1a.o k e).1)) (λ_ _ q=>q) (λ_ _ q=>q);have hg:=HG.o;have h6:=hg.2.2.2.2.2.2.1;refine⟨?_,S2.o.2.1.trans hfg (λ_ _ q=>q) (λ_ _ q=>.inr q),S2.o.2.2.fr hfg (by have:=h6.ob;omega) (by have:=h6.mb;omega) (λk _ q1 q2=>by have:=hg.2.2.2.2.1 k q1;omega)⟩;rw[HZ.o,List.map_append,CL,List.map_cons,List.map_nil,<- HTE.o];first|exact ho2|(rw[<- List.map_take] at ho2;exact ho2)
   have hsh:=Da ho2;clear ho2 hg2 S2 H1a;obtain⟨a8,c8,rfl⟩:=hsh;go_wp2_with fail
   refine (HNX.o w3 (j+1) S3.o.2.2 (by omega)).mono ?_;rintro e w4 ⟨tm,ok,rfl,hnx4,htm,hok,hf4⟩;have S4:U (G7 w4 HB Y f rg K (j+1) tm ok/\(tm=iv (intOf tm))/\(ok=.bool true\/ok=.bool false)/\w4.ownsRow w.heap.size 9 1 (.slice a8 (j+1) c8) (j+1) (AC ((K.take (j+1)).map tx))/\Fr (λk=>k=f.ob\/w.heap.size<=k) w w4):=by have h6:=HG.o.2.2.2.2.2.2.1.ob;have hh:=HG.o.2.2.2.1;exact⟨hnx4,htm,hok,Qa S3.o.1 hf4 (λk h1 _ q=>by omega),S3.o.2.1.trans hf4 (λ_ _ q=>q) (λ_ _ q=>.inl q)⟩
   have hms:2*(K.length-BT w4 f.ob)+PJ ok<2*(K.length-(j+1))+1:=by
    rcases hnx4 with ⟨a1,a2,rfl,a4⟩|⟨a1,rfl,a4⟩;.rw[a4.told];show 2*(K.length-(j+1+1))+1<_;omega
    .rw[a4.told];show 2*(K.length-(j+1))+0<_;omega
   clear hnx4 htm hok hf4 S3;go_wp2;go_roundw;case rel=>exact⟨j+1,by omega,S4.o.1,S4.o.2.1,S4.o.2.2.1,S4.o.2.2.2.1,S4.o.2.2.2.2⟩
   case measure=>rw[htd];exact hms
  .subst he;have HQ:U (FQ wr HB Y f rg K.length K):=hq;clear hq hok htm;obtain⟨L0,hL0⟩:∃L0,L0=K.map tx:=⟨_,rfl⟩;have HL0:U (L0=K.map tx/\L0.Nodup/\L0.length=K.length):=⟨hL0,by rw[hL0];exact HG.o.2.2.2.2.2.2.2,by rw[hL0,WH]⟩;have HOW:U (wr.ownsRow w.heap.size 9 1 (.slice va K.length vc) K.length (AC L0)/\Fr (λk=>k=f.ob\/w.heap.size<=k) w wr):=by rw[hL0];have:=HR.o;rw[WG] at this;exact this
   clear hL0 HR;have HEnd:U (∀(V:World) (L:List ByteArray),V.ownsRow w.heap.size 9 1 (.slice va K.length vc) L.length (AC L)->DE L->(∀x,x∈L↔x∈L0)->L.length=K.length->FQ V HB Y f rg K.length K->Fr (λk=>k=f.ob\/w.heap.size<=k) w V->∃(v:Value) (L:List ByteArray),(Ending.returned (.slice va K.length vc))=.returned v/\V.ownsRow w.heap.size 9 1 v L.length (AC L)/\DE L/\(∀x,x∈L↔∃i,i∈K/\tx i=x)/\L.length=K.length/\FQ V HB Y f rg K.length K/\Fr (λk=>k=gb) w V):=λV L h1 h2 h3 h4 h5 h6=>by refine⟨_,L,rfl,h1,h2,λx=>?_,h4,h5,h6.mono (λk hk q=>q.elim (λq=>by rw[HG.o.1];exact q) (λq=>by omega))⟩;rw[h3 x,HL0.o.1,List.mem_map]
   by_cases hk0:K.length=0
   .have HNil:U (L0=[]):=List.length_eq_zero_iff.1 (by rw[HL0.o.2.2];exact hk0);have HSR:U (WS 101 #[.slice va K.length vc] wr λe w'=>e=.returned (.tuple #[])/\w'=wr):=by rw[hk0];exact srtN va vc wr
    have HKZ:U (K.length=0):=hk0;clear hk0;go_wp2_with fail
    refine HSR.o.mono ?_;rintro e w2 ⟨rfl,hw2⟩;subst w2;clear HSR;go_wp2;go_ret;refine HEnd.o wr [] ?_ List.Pairwise.nil (λx=>by rw[HNil.o]) HKZ.o.symm HQ.o HOW.o.2;have:=HOW.o.1;rw[HNil.o] at this;rw[HKZ.o] at this ⊢;exact this
   .rcases HOW.o.1.2 with ⟨_,h0⟩|⟨g,cap,cur,ev,hg,hb,h1,h2,h3,h4⟩;.exact absurd h0 hk0
    .injection ev with e1 e2 e3;subst e1 e3;obtain⟨ss,hss⟩:∃ss,ss=L0.map (λx=>x.data.toList):=⟨_,rfl⟩;have hsl:ss.length=K.length:=by rw[hss,WH];exact HL0.o.2.2
     have hse:AC L0=ss.map encStr:=by rw[hss];unfold AC;rw[List.map_map];exact List.map_congr_left (λx _=>by cases x;simp[encStr])
     have HSR:U (WS 101 #[.slice (some (ad g 0)) K.length vc] wr λe w'=>e=.returned (.tuple #[])/\∃n os,w'=grow (putRow encStr (Sort.ahead wr n) g 0 (ss.mergeSort λx y=>decide (x<=y)).toArray) os):=by rw[<- hsl];exact srtS g 0 vc ss wr (holds_of_block hb (by rw[hsl,<- hse];simpa using h4)) (Array.getElem?_eq_some_iff.1 hb).1 (by omega)
     have HEE:U (∀n os,(∃(v:Value) (L:List ByteArray),(Ending.returned (.slice (some (ad g 0)) K.length vc))=.returned v/\(grow (putRow encStr (Sort.ahead wr n) g 0 (ss.mergeSort λx y=>decide (x<=y)).toArray) os).ownsRow w.heap.size 9 1 v L.length (AC L)/\DE L/\(∀x,x∈L↔∃i,i∈K/\tx i=x)/\L.length=K.length/\FQ (grow (putRow encStr (Sort.ahead wr n) g 0 (ss.mergeSort λx y=>decide (x<=y)).toArray) os) HB Y f rg K.length K/\Fr (λk=>k=gb) w (grow (putRow encStr (Sort.ahead wr n) g 0 (ss.mergeSort λx y=>decide (x<=y)).toArray) os))):=λn os=>by
      obtain⟨M,hM⟩:∃M,M=ss.mergeSort (λx y=>decide (x<=y)):=⟨_,rfl⟩;rw[<- hM];obtain⟨a1,a2,a3⟩:=NB HL0.o.2.1 (by rw[hM,hss]:M=_);have hMl:M.length=ss.length:=by rw[a3,HL0.o.2.2,hsl]
      have how:=ownsRow_sorted (n:=n) (os:=os) hMl hg hb (by rw[hsl];exact h1) h2 h3;have hgr:wr.grownBy (grow (putRow encStr (Sort.ahead wr n) g 0 M.toArray) os) (some g):=grownBy_sorted _;have hfg:Fr (λk=>w.heap.size<=k) wr (grow (putRow encStr (Sort.ahead wr n) g 0 M.toArray) os):=Fr.ofGrown hgr (λk e=>by injection e with e;omega);have hgg:=HG.o;have h6:=hgg.2.2.2.2.2.2.1;refine HEnd.o _ (M.map (λl=>ByteArray.mk l.toArray)) ?_ a1 a2 (by rw[WH,hMl,hsl]) (HQ.o.fr hfg (by have:=h6.ob;omega) (by have:=h6.mb;omega) (λk _ q1 q2=>by have:=hgg.2.2.2.2.1 k q1;omega)) (HOW.o.2.trans hfg (λ_ _ q=>q) (λ_ _ q=>.inr q));rw[WH,hMl];have e2:AC (M.map (λl=>ByteArray.mk l.toArray))=M.map encStr:=by unfold AC;rw[List.map_map];exact List.map_congr_left (λl _=>by simp[encStr])
      rw[e2,<- hsl];exact how
     clear hb h1 h2 h3 h4 hg hse hsl hss HEnd hk0;go_wp2_with fail
     refine HSR.o.mono ?_;rintro e w2 ⟨rfl,nn,os,hw2⟩;have HE2:=HEE.o nn os;rw[<- hw2] at HE2;have HE3:U (∃(v:Value) (L:List ByteArray),(Ending.returned (.slice (some (ad g 0)) K.length vc))=.returned v/\w2.ownsRow w.heap.size 9 1 v L.length (AC L)/\DE L/\(∀x,x∈L↔∃i,i∈K/\tx i=x)/\L.length=K.length/\FQ w2 HB Y f rg K.length K/\Fr (λk=>k=gb) w w2):=HE2;clear HE2 hw2 HEE HSR;go_wp2;go_ret;exact HE3.o
end Go.Proofs.YtacpbofiipdodaaGreat
namespace Go.Proofs.YtacpbofiipdodaaGreat
open Go Go.Deep Go.Maps Go.RowKit
theorem LJ {w:World} {g n k:Nat} {I:Nat->Int} {X R:Nat->ByteArray} {AA:Nat->Option Addr} {CC:Nat->Nat} {Bd:Nat->Bool} {Lb:Nat->ByteArray} {Hh:Nat->Int} (h:AQ w g n (B5 I X R AA CC Bd Lb Hh)) (hk:k<n) :
  w.cell? (ad g (k*7))=some (iv (I k))/\w.cell? (ad g (k*7+1))=some (.string (X k))/\w.cell? (ad g (k*7+2))=some (.string (R k))/\w.cell? (ad g (k*7+3))=some (.bool (Bd k))/\w.cell? (ad g (k*7+4))=some (.string (Lb k))/\w.cell? (ad g (k*7+5))=some (.slice (AA k) (Ah (I k)) (CC k))/\w.cell? (ad g (k*7+6))=some (iv (Hh k)):=by have cc:∀r,r<7->w.cell? (ad g (k*7+r))=(B5 I X R AA CC Bd Lb Hh k).cells[r]?:=λr hr=>h.cell hk hr;have d0:=cc 0 (by omega);have d1:=cc 1 (by omega);have d2:=cc 2 (by omega);have d3:=cc 3 (by omega);have d4:=cc 4 (by omega);have d5:=cc 5 (by omega);have d6:=cc 6 (by omega);simp[DK.cells,B5] at d0 d1 d2 d3 d4 d5 d6;exact⟨d0,d1,d2,d3,d4,d5,d6⟩
theorem Nz (g n cg:Nat) (I:Nat->Int) (X R:Nat->ByteArray) (AA:Nat->Option Addr) (CC:Nat->Nat) (Bd:Nat->Bool) (Lb:Nat->ByteArray) (Hh:Nat->Int) (la:Option Addr) (ln lc:Nat) (Ch:Nat->Int) (w:World) (hp:AQ w g n (B5 I X R AA CC Bd Lb Hh)) (hk9:∀i,i<n->1<=I i/\I i<=9) (hL:Rd .i64 w la ln Ch) (hn:n<=100) (hln:ln<=1048576) (hch:∀i,i<ln->-9223372036854775808<=Ch i/\Ch i<=9223372036854775807) :
  WS 42 #[.slice (some (ad g 0)) n cg,.slice la ln lc] w λe w'=>∃b:Bool,e=.returned (.bool b)/\(b=true↔ln=n/\∀i,i<n->BJ (I i) (Bd i) (Ch i)=true)/\Bl w w':=by
 have HP:=hid (ai hp (ai hk9 (ai hL hch)));clear hp hk9 hL hch;by_cases hll:ln=n
 .subst hll;go_enter Tryz.func42,Tryz.ntmps42;go_wp2;go_loopw [5,6,14] (λ_ _ i wr=>∃k:Nat,k<=ln/\i=iv (k:Int)/\(∀i,i<k->BJ (I i) (Bd i) (Ch i)=true)/\Bl w wr) (λ_ _ i _=>ln-(intOf i).toNat)
  case atStart=>exact⟨0,Ww _,rfl,λi hi=>absurd hi (Wy _),Wt _ _⟩
  case round=>
   obtain⟨k,hk,rfl,hall,hbr⟩:=hrel;have HR:=hid (ai hall hbr);clear hall hbr;by_cases hlt:k<ln
   .obtain⟨d0,d1,d2,d3,d4,d5,d6⟩:=LJ (HP.o.1.below HR.o.2) hlt;obtain⟨q,hq⟩:=gn (Ah (I k));obtain⟨ik,hik⟩:=gn (I k);obtain⟨xk,hxk⟩:=gn (X k);obtain⟨rk,hrk⟩:=gn (R k);obtain⟨bk,hbk⟩:=gn (Bd k);obtain⟨lk,hlk⟩:=gn (Lb k);obtain⟨ak,hak⟩:=gn (AA k);obtain⟨ck,hck⟩:=gn (CC k);obtain⟨mk,hmk⟩:=gn (Hh k);rw[<- hik] at d0;rw[<- hxk] at d1;rw[<- hrk] at d2;rw[<- hbk] at d3;rw[<- hlk] at d4;rw[<- hak,<- hck,<- hq] at d5;rw[<- hmk] at d6;have HEQ:=hid (ai hq (ai hik (ai hxk (ai hrk (ai hbk (ai hlk hak))))));clear hq hik hxk hrk hbk hlk hak hck hmk;have k0:(0:Int)<=(k:Int):=by omega
    have k1:(k:Int)<(ln:Int):=by omega
    obtain⟨W1,hW1⟩:=gn (wr.alloc (.cells #[iv ik,.string xk,.string rk,.bool bk,.string lk,.slice ak q ck,iv mk] 102));obtain⟨bx,hbx⟩:=gn wr.heap.size;have P1:U (Bx W1 bx 102 #[iv ik,.string xk,.string rk,.bool bk,.string lk,.slice ak q ck,iv mk]/\Bl wr W1):=by rw[hW1,hbx];exact⟨Bx.new _ _ _,Aa _ _⟩
    have HBX:U (∀W,Bl W1 W->(W.cell? (ad bx 0)=some (iv ik)/\W.cell? (ad bx 1)=some (.string xk)/\W.cell? (ad bx 2)=some (.string rk)/\W.cell? (ad bx 3)=some (.bool bk)/\W.cell? (ad bx 4)=some (.string lk)/\W.cell? (ad bx 5)=some (.slice ak q ck)/\W.cell? (ad bx 6)=some (iv mk))/\Bl w W):=λW hW=>by have hh:=(hW.block bx P1.o.1.lt).trans P1.o.1;exact⟨⟨Bx.cell hh 0,Bx.cell hh 1,Bx.cell hh 2,Bx.cell hh 3,Bx.cell hh 4,Bx.cell hh 5,Bx.cell hh 6⟩,HR.o.2.trans ((P1.o.2.trans (hW.mono P1.o.2.size)).mono HR.o.2.size)⟩
    go_upto_region 6 with fail
    rw[<- hbx];rw[<- hW1];clear hW1 hbx d0 d1 d2 d3 d4 d5 d6;obtain⟨lb,lo,rfl,hlr⟩:∃lb lo,la=some (ad lb lo)/\w.cell? (ad lb (lo+k))=some (iv (Ch k)):=by
     rcases HP.o.2.2.1 with q|⟨lb,lo,q,hq⟩;.omega
     .exact⟨lb,lo,q,hq k hlt⟩
    obtain⟨ch,hce⟩:=gn (Ch k);have HCE:U (ch=Ch k/\w.cell? (ad lb (lo+k))=some (iv ch)):=⟨hce,by rw[hce];exact hlr⟩;clear hce hlr;obtain⟨gb,hgb⟩:=gn (BJ ik bk ch);have HGB:U (gb=BJ (I k) (Bd k) (Ch k)):=by show _=_;rw[hgb,HEQ.o.2.1,HEQ.o.2.2.2.2.1,HCE.o.1]
    have HIC:U (∀W,WS 95 #[.agg #[iv ik,.string xk,.string rk,.bool bk,.string lk,.slice ak q ck,iv mk],iv ch] W (WT W (.bool gb))):=λW=>by rw[hgb];exact Km ik (by rw[HEQ.o.2.1];exact HP.o.2.1 k hlt) xk rk bk lk ak q ck mk ch (by rw[HCE.o.1];exact HP.o.2.2.2 k hlt) W
    clear hgb;refine Ac (S:=λW=>Bl W1 W) 6 (by kernel_rfl) (Wt _ _).drew (λW hHeld=>?_);refine ty 0 rfl (λw' h=>by obtain⟨⟨y0,y1,y2,y3,y4,y5,y6⟩,-⟩:=HBX.o _ h;clear h;go_simp;rfl) ?_;refine tX 1 rfl ?_;refine tX 2 rfl ?_;refine tX 3 rfl ?_;refine ty 4 rfl (λw' h=>by have z:=((HBX.o _ h).2.cell (Ws _ _ HCE.o.2)).trans HCE.o.2;clear h;go_simp;rfl) ?_;refine AB 5 rfl (λK hK=>?_);refine AF rfl 95 19 23 _ rfl (.agg #[iv ik,.string xk,.string rk,.bool bk,.string lk,.slice ak q ck,iv mk]) (iv ch) rfl rfl (λ_ _=>rfl) ?_;refine (HIC.o W).mono ?_;rintro e w5 ⟨rfl,hbm⟩;have h5:=hHeld.trans (hbm.mono hHeld.size);refine⟨_,rfl,hK.out _ _ (λ_=>h5) (λhG=>?_)⟩;clear hK K hG hbm hHeld;simp only[As];refine AB 6 rfl (λK hK=>?_);go_simp;refine hK.out _ _ (λ_=>h5) (λhG=>?_);clear hK K hG;refine Ae (by kernel_rfl) ?_ _;have H5:=hid ((HBX.o _ h5).2);clear h5;cases gb with
    | false=>
     have HF:U (¬ (∀i,i<ln->BJ (I i) (Bd i) (Ch i)=true)):=λq=>by have:=HGB.o;rw[q k hlt] at this;cases this
     go_wp2;go_ret;exact⟨false,rfl,⟨(λq=>by cases q),λq=>absurd q.2 HF.o⟩,H5.o⟩
    | true=>
     have HX:U (∀i,i<k+1->BJ (I i) (Bd i) (Ch i)=true):=λi hi=>by
      by_cases e:i=k;.rw[e];exact HGB.o.symm
      .exact HR.o.1 i (by omega)
     go_wp2;go_roundw;case rel=>exact⟨k+1,by omega,by go_num,HX.o,H5.o⟩
     case measure=>simp[intOf];omega
   .obtain rfl:k=ln:=by omega
    go_wp2;go_ret;exact⟨true,rfl,⟨λ_=>⟨by first|rfl|trivial,HR.o.1⟩,λ_=>rfl⟩,HR.o.2⟩
 .have h1:¬ (ln:Int)=(n:Int):=by omega
  have h2:((ln:Int) == (n:Int))=false:=by simp;omega
  have HLL:=hid hll;clear hll;go_enter Tryz.func42,Tryz.ntmps42;go_wp2;go_ret;exact⟨false,rfl,⟨(λq=>by cases q),λq=>absurd q.1 HLL.o⟩,Wt _ _⟩
theorem MV (wb tb xb:Nat) (tx:Int->ByteArray) (x:Int) (w:World) (hB:Bx w wb 170 #[pt tb,pt xb]) (hT:∀V x,Bl w V->WS 100 #[pt tb,iv x] V (WT V (.string (tx x)))) :
  WS 94 #[pt wb,iv x] w λe w'=>∃b:Bool,e=.returned (.bool b)/\(b=true↔(tx x).size≠0)/\Bl w w':=by
 have c0:=hB.cell 0;have HT:=hid (hT w x (Wt _ _));clear hB hT;obtain⟨tt,htt⟩:=gn (tx x);rw[<- htt] at HT ⊢;clear htt;go_enter Tryz.func94,Tryz.ntmps94;go_wp2_with fail
 refine HT.o.mono ?_;rintro e w1 ⟨rfl,hb1⟩;have H1:=hid hb1;clear hb1 HT c0;by_cases hz:tt.size=0
 .have e:tt={ data:=#[] }:=by
   cases tt with
   | mk d=>simp[ByteArray.size] at hz;rw[hz]
  subst e;go_wp2;go_ret;exact⟨false,rfl,⟨(λq=>by cases q),λq=>absurd hz q⟩,H1.o⟩
 .have hne:¬ tt={ data:=#[] }:=λe=>hz (by rw[e];rfl);have hb:(tt.toList == ({ data:=#[] }:ByteArray).toList)=false:=by
   cases hq:(tt.toList == ({ data:=#[] }:ByteArray).toList) with
   | false=>rfl
   | true=>exact absurd (KL.1 hq) hne
  have HZ:=hid hz;have HLN:U (¬ tt.toList=[]):=λq=>hz (by rw[ByteArray.toList_eq] at q;show tt.data.size=0;rw[<- Array.length_toList,q];rfl)
  clear hz;go_wp2;go_ret;exact⟨true,by first|rfl|(simp;exact HLN.o),⟨λ_=>HZ.o,λ_=>rfl⟩,H1.o⟩
theorem KK (wb tb xb:Nat) (tx:Int->ByteArray) (q:Qd) (w:World) (hB:Bx w wb 170 #[pt tb,pt xb]) (hT:∀V x,Bl w V->WS 100 #[pt tb,iv x] V (WT V (.string (tx x)))) :
  WS 93 #[.agg #[iv q.s,iv q.p,iv q.o,iv q.g],.func (.func 94) #[pt wb] #[]] w λe w'=>∃b:Bool,e=.returned (.bool b)/\(b=true↔(tx q.s).size≠0/\(tx q.p).size≠0/\(tx q.o).size≠0/\(tx q.g).size≠0)/\Bl w w':=by
 have HI:U (∀W x,Bl w W->WS 94 #[pt wb,iv x] W λe w'=>∃b:Bool,e=.returned (.bool b)/\(b=true↔(tx x).size≠0)/\Bl W w'):=λW x hW=>MV wb tb xb tx x W ((hW.block _ hB.lt).trans hB) (λV y hV=>hT V y (hW.trans (hV.mono hW.size)));clear hB hT;obtain⟨W0,hW0⟩:∃W0,W0=w.alloc (.cells #[iv q.s,iv q.p,iv q.o,iv q.g] 140):=⟨_,rfl⟩;have P0:U (Bx W0 w.heap.size 140 #[iv q.s,iv q.p,iv q.o,iv q.g]/\Bl w W0):=by rw[hW0];exact⟨Bx.new _ _ _,Aa _ _⟩
 have HC:U (∀W,Bl W0 W->(W.cell? (ad w.heap.size 0)=some (iv q.s)/\W.cell? (ad w.heap.size 1)=some (iv q.p)/\W.cell? (ad w.heap.size 2)=some (iv q.o)/\W.cell? (ad w.heap.size 3)=some (iv q.g))/\Bl w W):=λW hW=>by have hh:=(hW.block _ P0.o.1.lt).trans P0.o.1;exact⟨⟨Bx.cell hh 0,Bx.cell hh 1,Bx.cell hh 2,Bx.cell hh 3⟩,P0.o.2.trans (hW.mono P0.o.2.size)⟩
 go_enter Tryz.func93,Tryz.ntmps93;go_upto_region 1 with fail
 rw[<- hW0];clear hW0;have HB0:U (Bl W0 W0):=Wt _ _;obtain⟨⟨y0,y1,y2,y3⟩,-⟩:=HC.o W0 HB0.o;go_wp2_with fail
 refine (HI.o W0 q.s (HC.o W0 HB0.o).2).mono ?_;rintro e w1 ⟨b0,rfl,hx0,hbm⟩;have HB1:=hid (HB0.o.trans (hbm.mono HB0.o.size));have HV0:=hid hx0;clear hbm hx0 y0 y1 y2 y3;obtain⟨⟨y0,y1,y2,y3⟩,-⟩:=HC.o w1 HB1.o;cases b0 with
 | false=>have HF:U (Bl w w1/\¬ (tx q.s).size≠0):=⟨(HC.o _ HB1.o).2,λz=>by have:=HV0.o.2 z;cases this⟩;go_wp2;go_ret;exact⟨false,rfl,⟨(λz=>by cases z),λz=>absurd z.1 HF.o.2⟩,HF.o.1⟩
 | true=>
 have HT0:=hid (HV0.o.1 rfl);clear HV0;go_wp2_with fail
 refine (HI.o w1 q.p (HC.o w1 HB1.o).2).mono ?_;rintro e w2 ⟨b1,rfl,hx1,hbm⟩;have HB2:=hid (HB1.o.trans (hbm.mono HB1.o.size));have HV1:=hid hx1;clear hbm hx1 y0 y1 y2 y3;obtain⟨⟨y0,y1,y2,y3⟩,-⟩:=HC.o w2 HB2.o;cases b1 with
 | false=>have HF:U (Bl w w2/\¬ (tx q.p).size≠0):=⟨(HC.o _ HB2.o).2,λz=>by have:=HV1.o.2 z;cases this⟩;go_wp2;go_ret;exact⟨false,rfl,⟨(λz=>by cases z),λz=>absurd z.2.1 HF.o.2⟩,HF.o.1⟩
 | true=>
 have HT1:=hid (HV1.o.1 rfl);clear HV1;go_wp2_with fail
 refine (HI.o w2 q.o (HC.o w2 HB2.o).2).mono ?_;rintro e w3 ⟨b2,rfl,hx2,hbm⟩;have HB3:=hid (HB2.o.trans (hbm.mono HB2.o.size));have HV2:=hid hx2;clear hbm hx2 y0 y1 y2 y3;obtain⟨⟨y0,y1,y2,y3⟩,-⟩:=HC.o w3 HB3.o;cases b2 with
 | false=>have HF:U (Bl w w3/\¬ (tx q.o).size≠0):=⟨(HC.o _ HB3.o).2,λz=>by have:=HV2.o.2 z;cases this⟩;go_wp2;go_ret;exact⟨false,rfl,⟨(λz=>by cases z),λz=>absurd z.2.2.1 HF.o.2⟩,HF.o.1⟩
 | true=>
 have HT2:=hid (HV2.o.1 rfl);clear HV2;go_wp2_with fail
 refine (HI.o w3 q.g (HC.o w3 HB3.o).2).mono ?_;rintro e w4 ⟨b3,rfl,hx3,hbm⟩;have HB4:=hid (HB3.o.trans (hbm.mono HB3.o.size));have HV3:=hid hx3;clear hbm hx3 y0 y1 y2 y3;obtain⟨⟨y0,y1,y2,y3⟩,-⟩:=HC.o w4 HB4.o;have HF:=hid ((HC.o _ HB4.o).2);go_wp2;go_ret;exact⟨b3,rfl,⟨λz=>⟨HT0.o,HT1.o,HT2.o,HV3.o.1 z⟩,λz=>HV3.o.2 z.2.2.2⟩,HF.o⟩
theorem Rw (wb tb xb:Nat) (id:ByteArray->Int) (tx:Int->ByteArray) (Q:List Qd) (w:World) (hB:Bx w wb 170 #[pt tb,pt xb]) (hT:PP w tb id tx) (hX:Hz w xb Q) (hQ:Q.length<=300) :
  WS 41 #[pt wb] w λe w'=>∃b:Bool,e=.returned (.bool b)/\(b=true↔∀q,q∈Q->(tx q.s).size≠0/\(tx q.p).size≠0/\(tx q.o).size≠0/\(tx q.g).size≠0)/\Bl w w':=by
 have HQS:U (WS 92 #[pt xb] w λe w'=>∃a c,e=.returned (.tuple #[.slice a Q.length c,.bool true])/\BW w' a Q/\Bl w w'):=hX.2.2 w (Wt _ _);have HEP:U (∀(W:World) (q:Qd),Bl w W->WS 93 #[.agg #[iv q.s,iv q.p,iv q.o,iv q.g],.func (.func 94) #[pt wb] #[]] W λe w'=>∃b:Bool,e=.returned (.bool b)/\(b=true↔(tx q.s).size≠0/\(tx q.p).size≠0/\(tx q.o).size≠0/\(tx q.g).size≠0)/\Bl W w'):=λW q hW=>KK wb tb xb tx q W ((hW.block _ hB.lt).trans hB) (λV y hV=>hT.2 V y (hW.trans (hV.mono hW.size)));have x1:=hB.cell 1;clear hB hT hX;go_enter Tryz.func41,Tryz.ntmps41;go_wp2_with fail
 refine HQS.o.mono ?_;rintro e w1 ⟨qa,qc,rfl,hrq,hb1⟩;have P1:=hid (ai hrq hb1);clear hrq hb1 x1 HQS;go_wp2;go_loopw [6,19] (λ_ i wr=>∃k:Nat,k<=Q.length/\i=iv (k:Int)/\(∀j (h:j<Q.length),j<k->(tx Q[j].s).size≠0/\(tx Q[j].p).size≠0/\(tx Q[j].o).size≠0/\(tx Q[j].g).size≠0)/\Bl w1 wr) (λ_ i _=>Q.length-(intOf i).toNat)
 case atStart=>exact⟨0,Ww _,rfl,λj _ hj=>absurd hj (Wy _),Wt _ _⟩
 case round=>
  obtain⟨k,hk,rfl,hall,hbr⟩:=hrel;have HR:=hid (ai hall (ai hbr (P1.o.2.trans (hbr.mono P1.o.2.size))));clear hall hbr;by_cases hlt:k<Q.length
  .obtain⟨q,hqe⟩:=gn (Q[k]);have HQE:=hid hqe;obtain⟨qb,rfl,hqc⟩:∃qb,qa=some (ad qb 0)/\(wr.cell? (ad qb (k*4))=some (iv q.s)/\wr.cell? (ad qb (k*4+1))=some (iv q.p)/\wr.cell? (ad qb (k*4+2))=some (iv q.o)/\wr.cell? (ad qb (k*4+3))=some (iv q.g)):=by
    rcases P1.o.1.below HR.o.2.1 with h0|⟨b,e,hc⟩;.omega
    .rw[hqe];exact⟨b,e,hc k hlt⟩
   clear hqe;obtain⟨c0,c1,c2,c3⟩:=hqc;have i0:(0:Int)<=(k:Int):=by omega
   have i1:(k:Int)<(Q.length:Int):=by omega
   obtain⟨W1,hW1⟩:=gn (wr.alloc (.cells #[iv q.s,iv q.p,iv q.o,iv q.g] 140));have P2:U (Bx W1 wr.heap.size 140 #[iv q.s,iv q.p,iv q.o,iv q.g]/\Bl wr W1):=by rw[hW1];exact⟨Bx.new _ _ _,Aa _ _⟩
   go_upto_region 5 with fail
   rw[<- hW1];clear hW1 c0 c1 c2 c3;obtain⟨c0,c1,c2,c3⟩:W1.cell? (ad wr.heap.size 0)=some (iv q.s)/\W1.cell? (ad wr.heap.size 1)=some (iv q.p)/\W1.cell? (ad wr.heap.size 2)=some (iv q.o)/\W1.cell? (ad wr.heap.size 3)=some (iv q.g):=⟨P2.o.1.cell 0,P2.o.1.cell 1,P2.o.1.cell 2,P2.o.1.cell 3⟩;go_wp2_with fail
   refine (HEP.o W1 q (HR.o.2.2.trans (P2.o.2.mono HR.o.2.2.size))).mono ?_;rintro e w3 ⟨b,rfl,hbx,hb3⟩;have H3:U ((b=true↔(tx q.s).size≠0/\(tx q.p).size≠0/\(tx q.o).size≠0/\(tx q.g).size≠0)/\Bl w1 w3/\Bl w w3):=by have hh:=P2.o.2.trans (hb3.mono P2.o.2.size);exact⟨hbx,HR.o.2.1.trans (hh.mono HR.o.2.1.size),HR.o.2.2.trans (hh.mono HR.o.2.2.size)⟩
   clear hbx hb3 c0 c1 c2 c3;cases b with
   | false=>
    have HF:U (¬ ∀q,q∈Q->(tx q.s).size≠0/\(tx q.p).size≠0/\(tx q.o).size≠0/\(tx q.g).size≠0):=λz=>by have:=H3.o.1.2 (z q (by rw[HQE.o];exact WE hlt));cases this
    go_wp2;go_ret;exact⟨false,rfl,⟨(λz=>by cases z),λz=>absurd z HF.o⟩,H3.o.2.2⟩
   | true=>
    have HX:U (∀j (h:j<Q.length),j<k+1->(tx Q[j].s).size≠0/\(tx Q[j].p).size≠0/\(tx Q[j].o).size≠0/\(tx Q[j].g).size≠0):=λj h hj=>by
     by_cases e:j=k;.subst e;have:=H3.o.1.1 rfl;rw[HQE.o] at this;exact this
     .exact HR.o.1 j h (by omega)
    go_wp2;go_roundw;case rel=>exact⟨k+1,by omega,by go_num,HX.o,H3.o.2.1⟩
    case measure=>simp[intOf];omega
  .obtain rfl:k=Q.length:=by omega
   have HF:U (∀q,q∈Q->(tx q.s).size≠0/\(tx q.p).size≠0/\(tx q.o).size≠0/\(tx q.g).size≠0):=λq hq=>by obtain⟨j,hj,e⟩:=List.getElem_of_mem hq;rw[<- e];exact HR.o.1 j hj hj
   go_wp2;go_ret;exact⟨true,rfl,⟨λ_=>HF.o,λ_=>rfl⟩,HR.o.2.2⟩
theorem SZ (ob:Nat) (rd:Int) (w:World) (x3:w.cell? (ad ob 3)=some (iv rd)) :
  WS 206 #[pt ob] w (WT w (iv rd)):=by go_enter Tryz.func206,Tryz.ntmps206;go_wp2;go_ret;exact⟨rfl,Wt _ _⟩
theorem Ku (og n oc:Nat) (I:Nat->Int) (fx:Nat->Fx) (w:World) (hk9:∀i,i<n->1<=I i/\I i<=9) (hc:∀i,i<n->w.cell? (ad og i)=some (Jy I fx i)) (hr:∀i,i<n->B6 w (fx i).ob<1000000000) (hn:n<=100) :
  WS 47 #[.slice (some (ad og 0)) n oc] w (WT w (iv (((List.range n).map (λt=>B6 w (fx t).ob)).sum:Nat))):=by
 have HC:=hid (ai hk9 (ai hc hr));obtain⟨sf,hsf⟩:=gn (λk=>((List.range k).map (λt=>B6 w (fx t).ob)).sum);have HSF:U (∀k,k<n->sf (k+1)=sf k+B6 w (fx k).ob/\B6 w (fx k).ob<=1000000000):=λk hk=>by have h2:=hr k hk;refine⟨?_,by omega⟩;rw[hsf];show (List.map _ (List.range (k+1))).sum=_;rw[List.range_succ,List.map_append,List.sum_append];simp
 have HSB:U (∀k,k<=n->sf k<=k*1000000000):=λk=>by
  induction k with
  | zero=>intro _;rw[hsf];exact Ww _
  | succ k ih=>intro hk;have:=ih (by omega);have h2:=HSF.o k (by omega);rw[h2.1,Nat.add_mul,Nat.one_mul];omega
 have HS0:U (sf 0=0/\((List.range n).map (λt=>B6 w (fx t).ob)).sum=sf n):=⟨by rw[hsf];rfl,by rw[hsf]⟩;rw[HS0.o.2];clear hk9 hc hr hsf;go_enter Tryz.func47,Tryz.ntmps47;go_wp2;go_loopw [3,5,8] (λs _ i wr=>∃k:Nat,k<=n/\i=iv (k:Int)/\s=iv (sf k:Int)/\Bl w wr) (λ_ _ i _=>n-(intOf i).toNat)
 case atStart=>exact⟨0,Ww _,rfl,by rw[HS0.o.1];rfl,Wt _ _⟩
 case round=>
  obtain⟨k,hk,rfl,rfl,hbr⟩:=hrel;have HR:=hid hbr;clear hbr;by_cases hlt:k<n
  .obtain⟨ob,hob⟩:=gn ((fx k).ob);obtain⟨ty,hty⟩:=gn (CR (I k));have c0:wr.cell? (ad og k)=some (.iface ty (pt ob)):=by have:=HC.o.2.1 k hlt;rw[hob,hty];exact (HR.o.cell (Ws _ _ this)).trans this
   have hsp:=(Jf (HC.o.1 k hlt)).mt.sp ob;rw[<- hty] at hsp;unfold GT at hsp;obtain⟨rr,hrr⟩:=gn (B6 w (fx k).ob);have HSP:U (WS 206 #[pt ob] wr (WT wr (iv (rr:Int)))):=by have h1:=Pc (HC.o.2.2 k hlt);rw[hob,hrr];exact SZ (fx k).ob _ wr ((HR.o.cell (Ws _ _ h1)).trans h1)
   have i0:(0:Int)<=(k:Int):=by omega
   have i1:(k:Int)<(n:Int):=by omega
   have h1:=HSF.o k hlt;have h2:=HSB.o k (by omega);rw[<- hrr] at h1;obtain⟨sk,hsk⟩:=gn (sf k);obtain⟨s1,hs1⟩:=gn (sf (k+1));rw[<- hsk] at h1 h2 ⊢;rw[<- hs1] at h1;have hws:IntKind.i64.wrap ((sk:Int)+(rr:Int))=(s1:Int):=by have:k*1000000000<=100*1000000000:=Nat.mul_le_mul (by omega) (Wu _);rw[Wz];omega
   have HS1:=hid hs1;clear hob hty hrr h1 h2 hsk hs1;go_wp2_with fail
   refine HSP.o.mono ?_;rintro e w2 ⟨rfl,hb2⟩;have H2:=hid (HR.o.trans (hb2.mono HR.o.size));clear hb2 c0 HSP;go_wp2;go_roundw;case rel=>exact⟨k+1,by omega,by go_num,by rw[HS1.o],H2.o⟩
   case measure=>simp[intOf];omega
  .obtain rfl:k=n:=by omega
   go_wp2;go_ret;exact⟨rfl,HR.o⟩
variable {Bd:Nat->Bool}{Ch I Id Rf:Nat->Int}{Lb R X Xd:Nat->ByteArray}{M:Nat->Nat}{P:Int->Prop}{W w wE:World}{dn n t:Nat}
theorem Jj {k:Int} {a b:List Int × Nat} (ha:∀x,x∈a.1->P x) (hb:∀x,x∈b.1->P x):∀x,x∈(B3 k a b).1->P x:=by
 intro x hx;unfold B3 at hx;split at hx;.exact ha x hx
 .have hx' : x∈D8 k a.1 b.1:=hx;unfold D8 at hx';split at hx'
  .rcases (CF _ _).1 hx' with q|q;.exact ha x q
   .exact hb x q
  .exact ha x (List.mem_filter.1 hx').1
theorem Pn {id:ByteArray->Int} {Q:List Qd} {k:Int} {s t:ByteArray} {ch:Int} {c:Cx} {a b:List Int × Nat} (hQ:∀q,q∈Q->P q.s/\P q.o) (hid:∀x,0<id x->P (id x)) (ha:∀x,x∈a.1->P x) (hb:∀x,x∈b.1->P x):∀x,x∈(AV id Q k s t ch c a b).1->P x:=by
 unfold AV;split
 .intro x hx;rcases (Eu _ _).1 hx with q|⟨q,hq,e⟩;.cases q
  .have:=hQ q (Hq hq);rcases e with e|e;.rw[<- e];exact this.1
   .rw[<- e];exact this.2
 split
 .split
  .rename_i h
   intro x hx;simp at hx;rw[hx];exact hid s h.1
  .intro x hx;cases hx
 split
 .split;.exact Jj hb ha
  .exact Jj ha hb
 split;.exact Jj ha hb
 split;.exact ha
 split;.intro x hx;cases hx
 .intro x hx;rcases (C5 _ _).1 hx with q|⟨q,hq,_,e⟩;.cases q
  .have:=hQ q (Hq hq);rw[<- e];unfold Gi;split;.exact this.2
   .exact this.1
theorem Na {P:Int->Prop} {id:ByteArray->Int} {Q:List Qd} {I:Nat->Int} {X R:Nat->ByteArray} {Ch:Nat->Int} (hQ:∀q,q∈Q->P q.s/\P q.o) (hid:∀x,0<id x->P (id x)):∀(f i:Nat) (c:Cx),∀x,x∈(PS id Q I X R Ch f i c).1->P x
 | 0,_,_,x,hx=>by cases hx
 | f+1,i,c,x,hx=>by
  refine Pn hQ hid ?_ ?_ x hx
  .split
   .exact Na hQ hid f _ _
   .intro y hy;cases hy
  .split
   .exact Na hQ hid f _ _
   .intro y hy;cases hy
def Tm (dn:Nat) (Id:Nat->Int) (x:Int):Prop:=∃i,i<dn/\Id i=x
theorem G1 {next:Int} (hv:C8 next dn Id Xd Rf) (x:Int):(GU dn Id Xd x).size≠0↔Tm dn Id x:=by
 rcases (It hv x).1 hv with ⟨i,hi,e,q⟩|⟨hno,q⟩;.rw[q];have:=(hv.2.2 i hi).1.1;exact⟨λ_=>⟨i,hi,e⟩,λ_=>by omega⟩
 .rw[q];exact⟨λh=>absurd rfl h,λ⟨i,hi,e⟩=>absurd e (hno i hi)⟩
theorem Sz {next:Int} {T:Nat->Nat->Tn} {tt:Ro 21} (hv:C8 next dn Id Xd Rf) (ht:Dv (M 0) (T 0) tt):QY dn Id M T↔∀q,q∈(Ab 21 tt).map (Ag 0)->(GU dn Id Xd q.s).size≠0/\(GU dn Id Xd q.p).size≠0/\(GU dn Id Xd q.o).size≠0/\(GU dn Id Xd q.g).size≠0:=by
 constructor
 .intro h q hq;have h4:=h tt ht q hq;refine⟨(G1 hv _).2 ?_,(G1 hv _).2 ?_,(G1 hv _).2 ?_,(G1 hv _).2 ?_⟩;.have:=h4 0 (by decide);exact this
  .have:=h4 1 (by decide);exact this
  .have:=h4 2 (by decide);exact this
  .have:=h4 3 (by decide);exact this
 .intro h t' ht' q hq k hk;rw[Dp ht' ht] at hq;obtain⟨q0,q1,q2,q3⟩:=h q hq;have h4:k=0\/k=1\/k=2\/k=3:=by omega
  rcases h4 with rfl|rfl|rfl|rfl;.exact (G1 hv _).1 q0
  .exact (G1 hv _).1 q1
  .exact (G1 hv _).1 q2
  .exact (G1 hv _).1 q3
theorem VH {next:Int} (hv:C8 next dn Id Xd Rf) {x:Int} (h:Tm dn Id x):Eo x:=by obtain⟨i,hi,rfl⟩:=h;have h1:=(hv.2.2 i hi).1.2.1;have h2:=hv.1;unfold I6 at h2;simp at h2;exact⟨by omega,by omega⟩
theorem Tp {T:Nat->Nat->Tn} {tt:Ro 21} (ht:Dv (M 0) (T 0) tt) (h:QY dn Id M T):∀q,q∈(Ab 21 tt).map (Ag 0)->Tm dn Id q.s/\Tm dn Id q.o:=λq hq=>by
 have h4:=h tt ht q hq
 have h0:=h4 0 (by decide)
 have h2:=h4 2 (by decide)
 exact⟨h0,h2⟩
theorem Uj {next:Int} (hv:C8 next dn Id Xd Rf) (x:ByteArray) (h:0<DM dn Id Xd x):Tm dn Id (DM dn Id Xd x):=by
 rcases (I7 hv x).1 hv with ⟨i,hi,_,e⟩|⟨_,e⟩;.exact⟨i,hi,e.symm⟩
 .omega
theorem Py {next:Int} (hv:C8 next dn Id Xd Rf) {K:List Int} (hn:K.Nodup) (hk:∀x,x∈K->Tm dn Id x):(K.map (GU dn Id Xd)).Nodup:=by
 rw[List.Nodup,List.pairwise_map];refine List.Pairwise.imp_of_mem (λ{a b} ha hb hne e=>hne ?_) hn;obtain⟨i',hi',e'⟩:=hk a ha;obtain⟨j',hj',f'⟩:=hk b hb;rcases (It hv a).1 hv with ⟨i,hi,e1,q1⟩|⟨hno,_⟩
 .rcases (It hv b).1 hv with ⟨j,hj,e2,q2⟩|⟨hno,_⟩;.rw[q1,q2] at e;have:=hv.text_inj hi hj e;rw[<- e1,<- e2,this]
  .exact absurd f' (hno j' hj')
 .exact absurd e' (hno i' hi')
theorem N6 (hv:Ce n I X R) (hc:CtxC n I X Bd Lb):Nj I Ch n 0 (n-1) false=true↔∀i,i<n->BJ (I i) (Bd i) (Ch i)=true:=by
 have h1:=hv.1;have h:=Ie (I:=I) (Ch:=Ch) (N:=n) (Bd:=Bd) (λi hi j hj=>by
  rw[(hc.2.2 i (Ww _) hi j hj).1];unfold RJ;by_cases h9:I i=9;.rw[if_pos h9,h9];simp
  .rw[if_neg h9];simp[h9]) n 0 (n-1) (by omega) (by omega) (ER hv)
 rw[WM,hc.1] at h;rw[h];constructor;.intro q i hi;have:=q i (by omega);rw[WM] at this;exact this
 .intro q t ht;rw[WM];exact q t (by omega)
theorem UM {w4:World} {xb tb:Nat} {next:Int} {QQ:List Qd} {fx:Nat->Fx} {tx:Int->ByteArray} (hv:Ce n I X R) (hc:CtxC n I X Bd Lb) (hD:C8 next dn Id Xd Rf) (hgc:∀i,i<n->BJ (I i) (Bd i) (Ch i)=true) (hQl:QQ.length<=300) (hqp:∀q,q∈QQ->Tm dn Id q.s/\Tm dn Id q.o) (hX:Hz w4 xb QQ) (hT:PP w4 tb (DM dn Id Xd) tx) (hM:Mk wE n (w4.heap.size+1) xb (DM dn Id Xd) I X R Ch Bd Lb fx):JM n wE.heap.size w4.heap.size xb tb w4 (DM dn Id Xd) QQ I X R Ch Bd Lb fx where
 nd i hi:=by
  have h1:=hM.lo i hi
  have h2:=hM.sc i hi
  exact⟨⟨h1.2.2,by omega,by omega⟩,⟨by omega,by omega⟩,h2.1,h2.2.1,h2.2.2,hM.tl i hi⟩
 ap i j hi hj hne:=hM.apart hi hj hne
 kd i hi:=Hl hv hi
 gc:=hgc
 cx i hi j hj:=U1 hc hi hj
 fr i hi hf:=U6 hD (Vr hv hc hi hf)
 idn x:=VE hD x
 rs i hi h:=U6 hD (VB hv hi h)
 ql:=hQl
 qp q hq:=⟨VH hD (hqp q hq).1,VH hD (hqp q hq).2⟩
 xp W hW:=hX.below hW
 tp W hW V x hV:=(hT.below hW).1 V x hV
theorem Ik {x:Nat}:∀{l:List Nat},x∈l->x<=l.sum
 | [],h=>by cases h
 | y::l,h=>by
  rw[List.sum_cons]
  rcases List.mem_cons.1 h with rfl|h
  .omega
  .have:=Ik h
   omega
theorem Ow {fx:Nat->Fx} {m:Nat} (ht:t<=m):B6 W (fx t).ob<=Bc fx W 0 m:=by unfold Bc;refine Ik (List.mem_map.2 ⟨t,List.mem_range.2 (by omega),by rw[WM]⟩)
section
variable {n HB H0 xb tb:Nat} {W0:World} {id:ByteArray->Int} {Q:List Qd} {I:Nat->Int} {X R:Nat->ByteArray} {Ch:Nat->Int} {Bd:Nat->Bool} {Lb:Nat->ByteArray} {fx:Nat->Fx}
theorem O8 (E:JM n HB H0 xb tb W0 id Q I X R Ch Bd Lb fx) (hH0:H0=W0.heap.size) (hv:Ce n I X R) (hc:CtxC n I X Bd Lb) (hb:Below H0 W0 wE) (hHB:HB<=wE.heap.size) (hfr:∀i,i<n->A0 wE (fx i)) :
  WS (MC (I (n-1))) #[.pointer (some (ad ((fx (n-1)).ob) 0))] wE λe w'=>e=.returned (.tuple #[])/\∃(L:List Int) (rg:Nat),FQ w' HB (λk=>wE.heap.size<=k/\k<w'.heap.size) (fx (n-1)) (rg:Int) 0 L/\Fr (Tt fx 0 (n-1)) wE w'/\L.length<=300000/\L.Nodup/\(∀x,x∈L↔x∈(RN id Q I X R Ch (n-1) ⟨false,0⟩).1)/\Bc fx w' 0 (n-1)=(RN id Q I X R Ch (n-1) ⟨false,0⟩).2/\Bc fx w' 0 (n-1)<=100000:=by have h1:=hv.1;have hk:=LP E hH0 n 0 (n-1) (by omega) (by omega) (by omega) (ER hv) wE hb hHB (λt ht=>by rw[WM];exact hfr t (by omega));have hle:=FK (id:=id) (Q:=Q) (X:=X) (R:=R) (Ch:=Ch) E.kd E.ql n 0 (n-1) (by omega) (by omega) (ER hv) ⟨false,0⟩;unfold KO Rx at hk;rw[WM,Qg hc] at hk;rw[WM] at hle;refine Calls.mono hk ?_;rintro e w' ⟨rfl,L,rg,q1,q2,q3,q4,q5,q6,q7⟩;exact⟨rfl,L,rg,q1,q2,q4,q5,q6,q7,by rw[q7];omega⟩
theorem PE (E:JM n HB H0 xb tb W0 id Q I X R Ch Bd Lb fx) (h1:1<=n) {w5 w6:World} {Y Y':Nat->Prop} {rg t':Nat} {L L':List Int} (hF:Fr (λk=>k=(fx (n-1)).ob) w5 w6) (h5:FQ w5 HB Y (fx (n-1)) (rg:Int) t L) (h6:FQ w6 HB Y' (fx (n-1)) (rg:Int) t' L') (hs5:HB<=w5.heap.size):Bc fx w6 0 (n-1)=Bc fx w5 0 (n-1):=by
 refine Ek (λs hs=>?_);rw[WM];by_cases e:s=n-1;.rw[e,h5.rd,h6.rd]
 .have h3:=(E.nd s (by omega)).fr;unfold CT at h3;exact E5 hF (by omega) (E.ap s (n-1) (by omega) (by omega) e).1
end
def FX (w:World) (err:Int) (rds:Nat) (P:ByteArray->Prop) (e:Ending) (w' : World):Prop:=
 ∃(v:Value) (L:List ByteArray),e=.returned (.agg #[iv err,v,iv (rds:Int)])/\w'.ownsRow w.heap.size 9 1 v L.length (AC L)/\DE L/\(∀x,x∈L↔P x)/\L.length<=1000000/\Bl w w'
theorem EU {P:ByteArray->Prop} (err:Int) (h:Bl w W) (hP:∀x,¬ P x):FX w err 0 P (.returned (.agg #[iv err,.slice none 0 0,iv 0])) W:=
 ⟨.slice none 0 0,[],rfl,⟨rfl,.inl ⟨rfl,rfl⟩⟩,List.Pairwise.nil,λx=>⟨(λq=>by cases q),λq=>absurd q (hP x)⟩,Ww _,h⟩
theorem Ps {B:Nat} {t:TypeId} {v:Value} {q:Nat} {l:List Value} (h:w.ownsRow B t 1 v q l):∃(a:Option Addr) (c:Nat),v=.slice a q c:=by
 obtain⟨_,⟨rfl,h0⟩|⟨g,cap,cur,rfl,_⟩⟩:=h;.exact⟨none,0,by rw[h0]⟩
 .exact⟨_,_,rfl⟩
end Go.Proofs.YtacpbofiipdodaaGreat
