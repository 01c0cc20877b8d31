import Derived.Test.YtacpbofiipdodaaGreatNv29
set_option linter.unusedVariables false
set_option linter.unusedSimpArgs false
set_option maxRecDepth 100000
set_option maxHeartbeats 90000000
namespace Go.Proofs.YtacpbofiipdodaaGreat
open Go Go.Deep Go.RowKit
theorem U4 (na:Option Addr) (nl nc:Nat) (s t:ByteArray) (a0:Option Addr) (l0 k0:Nat) (pb po pl pc:Nat) (ch:Int) (next:Int) (a:Option Addr) (n c:Nat) (qa:Option Addr) (ll qc:Nat) (LL:List Qd) (id:ByteArray->Int) (x:Cx) (r:List Int × Nat) (w:World) (hR:PK w (.slice na nl nc) 5 s t [.slice a0 l0 k0]) (hpl:pl=l0+1) (hpc:pl<=pc) (hl:pl<=1000) (hch:w.cell? (ad pb (po+l0))=some (iv ch)) (hT:Jb w next a n c id) (hq:BW w qa LL) (hll:ll=LL.length) (hl3:ll<=300) (hK:G4 w (.slice a0 l0 k0) (.slice (some (ad pb po)) l0 pc) (wv next a n c qa ll qc) x r) (hz:r.1.length<=400000/\r.2<=1000000000000) :
  WS 33 #[.slice na nl nc,.slice (some (ad pb po)) pl pc,wv next a n c qa ll qc,cv x] w (Gq w (if id s=0\/id t=0 then ([],0) else Av 5 (decide (6<=ch)) r.1 (Cl LL x ⟨0,id s,id t,0⟩) ([],r.2))):=by
 obtain⟨xb,xg⟩:=x;have HR:U (PK w (.slice na nl nc) 5 s t [.slice a0 l0 k0]):=hR;have HC:U (w.cell? (ad pb (po+l0))=some (iv ch)):=hch;have HTI:U (Jb w next a n c id):=hT;have HK:U (G4 w (.slice a0 l0 k0) (.slice (some (ad pb po)) l0 pc) (.agg #[iv next,.slice a n c,.slice qa ll qc]) ⟨xb,xg⟩ r):=hK;have HZ:U (r.1.length<=400000/\r.2<=1000000000000):=hz;obtain⟨is,his⟩:∃is,is=id s:=⟨_,rfl⟩;have HIS:U (is=id s):=his;obtain⟨it,hit⟩:∃it,it=id t:=⟨_,rfl⟩;have HIT:U (it=id t):=hit;rw[<- his,<- hit];clear hit;obtain⟨M,hM⟩:∃M,M=Cl LL ⟨xb,xg⟩ ⟨0,is,it,0⟩:=⟨_,rfl⟩;have hml:M.length<=300:=by have:=EX LL ⟨xb,xg⟩ ⟨0,is,it,0⟩;rw[<- hM] at this;omega
 have HM:U (∀W,Bl w W->WS 74 #[.agg #[iv next,.slice a n c,.slice qa ll qc],.agg #[.bool xb,iv xg],.agg #[iv 0,iv is,iv it,iv 0]] W (Fa W M)):=λW hW=>by rw[hM];exact CK next a n c qa ll qc LL ⟨xb,xg⟩ ⟨0,is,it,0⟩ W (hq.below hW) hll hl3
 rw[<- hM];obtain⟨big,hbig⟩:∃big,big=decide (6<=ch):=⟨_,rfl⟩;rw[<- hbig];have HBG:U (big=decide (6<=ch)):=hbig;obtain⟨RES,hRES⟩:∃RES:List Int × Nat,RES=(if is=0\/it=0 then ([],0) else Av 5 big r.1 M ([],r.2)):=⟨_,rfl⟩;have HO:U (RES=(if is=0\/it=0 then ([],0) else Av 5 big r.1 M ([],r.2))):=hRES;rw[<- hRES];have hw1:IntKind.i64.wrap ((pl:Int)-1)=(l0:Int):=by rw[Wz];omega
 have hcu:∀W:World,(Instr.sliceAt 31 (.slice (some (ad pb po)) pl pc) none (some (iv (l0:Int))) none).run Tryz.prog W=.ok (.slice (some (ad pb po)) l0 pc) W:=λW=>Ol pb po pl pc l0 (by omega) hpc (by omega) W;have i0:(0:Int)<=(l0:Int):=by omega
 have i1:(l0:Int)<(pl:Int):=by omega
 clear hRES hbig hM hR hch hq hll hl3 his hT hK hpl hz;obtain⟨W0,hW0⟩:∃W0,W0=(w.alloc (.cells #[iv next,.slice a n c,.slice qa ll qc] 75)).alloc (.cells #[.bool xb,iv xg] 81):=⟨_,rfl⟩;have B0:U (Bx W0 w.heap.size 75 #[iv next,.slice a n c,.slice qa ll qc]/\Bx W0 (w.heap.size+1) 81 #[.bool xb,iv xg]/\Bl w W0):=by
  rw[hW0];have b1:=Bx.new w #[iv next,.slice a n c,.slice qa ll qc] 75;have b2:=Bx.new (w.alloc (.cells #[iv next,.slice a n c,.slice qa ll qc] 75)) #[.bool xb,iv xg] 81;have s1:(w.alloc (.cells #[iv next,.slice a n c,.slice qa ll qc] 75)).heap.size=w.heap.size+1:=by simp
  have hb2:=Aa (w.alloc (.cells #[iv next,.slice a n c,.slice qa ll qc] 75)) (.cells #[.bool xb,iv xg] 81);rw[s1] at b2;exact⟨(hb2.block _ b1.lt).trans b1,b2,(Aa _ _).trans (hb2.mono (by simp))⟩
 unfold wv cv;go_enter Tryz.func33,Tryz.ntmps33;go_upto_region 1 with fail
 rw[<- hW0];clear hW0;go_wp2_with fail
 refine (HR.o.1 W0 B0.o.2.2).mono ?_;rintro e w1 ⟨rfl,hb1⟩;obtain⟨W1,hW1⟩:∃W1,W1=w1.alloc (.cells #[iv 5,.string s,.string t] 97):=⟨_,rfl⟩;have S1:U (Lq w W1 next a n c qa ll qc xb xg 5 s t w1.heap.size):=by rw[hW1];have hb2:=Aa w1 (.cells #[iv 5,.string s,.string t] 97);have hb:Bl W0 _:=hb1.trans (hb2.mono hb1.size);exact⟨(hb.block _ B0.o.1.lt).trans B0.o.1,(hb.block _ B0.o.2.1.lt).trans B0.o.2.1,Bx.new _ _ _,B0.o.2.2.trans (hb.mono B0.o.2.2.size)⟩
 clear hb1 B0;go_upto_region 2 with fail
 rw[<- hW1];clear hW1;generalize w1.heap.size=nb at S1 ⊢;go_wp2_with fail
 refine (HR.o.2 W1 S1.o.bel).mono ?_;rintro e w2 ⟨go,cpo,rfl,hkd,hb2⟩;have S2:U (Lq w w2 next a n c qa ll qc xb xg 5 s t nb):=S1.o.keep hb2;have HKD:U (w2.cell? (ad go 0)=some (.slice a0 l0 k0)):=hkd 0 _ rfl;clear hkd hb2 S1 HR;have z0:=(S2.o.bel.cell (Ws _ _ HC.o)).trans HC.o;obtain⟨⟨y0,y1,y2⟩,⟨y3,y4⟩,y5,y6,y7⟩:=S2.o.cells;try simp only[WN,List.length_nil,WM,Nat.reduceAdd]
 go_wp2_with fail
 refine (HTI.o w2 s S2.o.bel).mono ?_;rintro e w3 ⟨rfl,hb3⟩;rw[<- HIS.o];obtain⟨W3,hW3⟩:∃W3,W3=w3.alloc (.cells #[iv 0,iv is,iv 0,iv 0] 140):=⟨_,rfl⟩;have hbb:Bl w3 W3:=by rw[hW3];exact Aa _ _
 have hpb:Bx W3 w3.heap.size 140 #[iv 0,iv is,iv 0,iv 0]:=by rw[hW3];exact Bx.new _ _ _
 have hz3:nb<w3.heap.size/\w.heap.size+1<w3.heap.size/\go<w3.heap.size:=⟨(S2.o.keep hb3).nd.lt,(S2.o.keep hb3).cx.lt,WF (Ws _ _ HKD.o) hb3.size⟩;have S3:U (Lq w W3 next a n c qa ll qc xb xg 5 s t nb/\Bx W3 w3.heap.size 140 #[iv 0,iv is,iv 0,iv 0]/\W3.cell? (ad go 0)=some (.slice a0 l0 k0)):=⟨(S2.o.keep hb3).keep hbb,hpb,((hb3.trans (hbb.mono hb3.size)).cell (p:=(ad go 0)) (Ws _ _ HKD.o)).trans HKD.o⟩;clear hb3 hbb hpb z0 y0 y1 y2 y3 y4 y5 y6 y7 S2 HKD;go_upto_region 25 with fail
 rw[<- hW3];clear hW3;generalize w3.heap.size=qb at*
 obtain⟨⟨y0,y1,y2⟩,⟨y3,y4⟩,y5,y6,y7⟩:=S3.o.1.cells;go_wp2_with fail
 refine (HTI.o W3 t S3.o.1.bel).mono ?_;rintro e w4 ⟨rfl,hb4⟩;rw[<- HIT.o];clear y0 y1 y2 y3 y4 y5 y6 y7;have S4:U (Lq w w4 next a n c qa ll qc xb xg 5 s t nb/\Bx w4 qb 140 #[iv 0,iv is,iv 0,iv 0]/\w4.cell? (ad go 0)=some (.slice a0 l0 k0)):=⟨S3.o.1.keep hb4,(hb4.block _ S3.o.2.1.lt).trans S3.o.2.1,(hb4.cell (p:=(ad go 0)) (Ws _ _ S3.o.2.2)).trans S3.o.2.2⟩;clear hb4 S3;have p2:=S4.o.2.1.cell 2;simp at p2;have pf:∀o,w4.frozen? (ad qb o)=false:=λo=>by simp[World.frozen?,show w4.heap[qb]?=_ from S4.o.2.1]
 have hlt4:=S4.o.2.1.lt;have S5:U (Lq w (w4.setCell (ad qb 2) (iv it)) next a n c qa ll qc xb xg 5 s t nb/\Bx (w4.setCell (ad qb 2) (iv it)) qb 140 #[iv 0,iv is,iv it,iv 0]/\(w4.setCell (ad qb 2) (iv it)).cell? (ad go 0)=some (.slice a0 l0 k0)):=by
  obtain⟨q1,q2,q3,q4⟩:=S4.o.1;have ne:∀g,g≠qb->(w4.setCell (ad qb 2) (iv it)).heap[g]?=w4.heap[g]?:=λg hgne=>Wv _ _ _ _ hgne;refine⟨⟨(ne _ (by omega)).trans q1,(ne _ (by omega)).trans q2,(ne _ (by omega)).trans q3,q4.setCell (by show w.heap.size<=qb;omega) _⟩,?_,?_⟩;.show (w4.setCell (ad qb 2) (iv it)).heap[qb]?=_;simp[World.setCell,Array.getElem?_modify,show w4.heap[qb]?=_ from S4.o.2.1]
  .have e:=S4.o.2.2;unfold World.cell? at e ⊢;rw[ne go (by omega)];exact e
 go_upto_region 27 with fail
 generalize w4.setCell (ad qb 2) (iv it)=W5 at*
 clear S4 p2 pf hlt4;clear hz3;obtain⟨p0,p1,p2,p3⟩:W5.cell? (ad qb 0)=some (iv 0)/\W5.cell? (ad qb 1)=some (iv is)/\W5.cell? (ad qb 2)=some (iv it)/\W5.cell? (ad qb 3)=some (iv 0):=⟨S5.o.2.1.cell 0,S5.o.2.1.cell 1,S5.o.2.1.cell 2,S5.o.2.1.cell 3⟩;obtain⟨-,-,y5,y6,y7⟩:=S5.o.1.cells;by_cases h0:is=0;.subst h0;have HF:U (RES=([],0)/\Bl w W5):=⟨by rw[HO.o,if_pos (.inl rfl)],S5.o.1.bel⟩;go_wp2;refine bodyPost_ret (v:=.tuple #[.slice (some (ad W5.heap.size 0)) 0 0,iv 0]) (by simp[results,Tryz.results33,go_sem]) rfl ?_;rw[HF.o.1];exact⟨_,_,rfl,Or.inl rfl,Wu _,by decide,HF.o.2.trans ((Aa _ _).mono HF.o.2.size)⟩
 have h0b:(is == 0)=false:=by simp[h0]
 by_cases h1:it=0;.subst h1;have HF:U (RES=([],0)/\Bl w W5):=⟨by rw[HO.o,if_pos (.inr rfl)],S5.o.1.bel⟩;go_wp2;refine bodyPost_ret (v:=.tuple #[.slice (some (ad W5.heap.size 0)) 0 0,iv 0]) (by simp[results,Tryz.results33,go_sem]) rfl ?_;rw[HF.o.1];exact⟨_,_,rfl,Or.inl rfl,Wu _,by decide,HF.o.2.trans ((Aa _ _).mono HF.o.2.size)⟩
 have h1b:(it == 0)=false:=by simp[h1]
 have HO2:U (RES=Av 5 big r.1 M ([],r.2)):=by show RES=_;rw[HO.o,if_neg (λh=>h.elim h0 h1)]
 clear HO HTI HC HIS;go_upto_region 29 with fail
 clear p0 p1 p2 p3 y5 y6 y7;refine Ac (S:=λW=>Bl W5 W) 15 (by kernel_rfl) (Wt _ _).drew (λW hHeld=>?_);refine tx 0 rfl ?_;refine tx 1 rfl ?_;refine ty 2 rfl (λw' h=>by have q:=(h.cell (p:=(ad go 0)) (Ws _ _ S5.o.2.2)).trans S5.o.2.2;clear h;go_simp;rfl) ?_;refine tx 3 rfl ?_;refine tx 4 rfl ?_;refine tx 5 rfl ?_;refine tx 6 rfl ?_;refine tx 7 rfl ?_;refine ty 8 rfl (λw' h=>by obtain⟨⟨y0,y1,y2⟩,-⟩:=(S5.o.1.keep h).cells;clear h;go_simp;rfl) ?_;refine ty 9 rfl (λw' h=>by obtain⟨-,⟨y3,y4⟩,-⟩:=(S5.o.1.keep h).cells;clear h;go_simp;rfl) ?_;refine AB 10 rfl (λK hK=>?_);refine Dy rfl 33 157 162 163 164 _ rfl (.slice a0 l0 k0) (.slice (some (ad pb po)) l0 pc) (.agg #[iv next,.slice a n c,.slice qa ll qc]) (.agg #[.bool xb,iv xg]) rfl rfl rfl rfl (λ_ _=>rfl) ?_;refine (HK.o W (S5.o.1.keep hHeld).bel).mono ?_;rintro e w6 ⟨o6,c6,rfl,hr6,hd6,he6,hbm⟩;have h6:Bl W5 w6:=hHeld.trans (hbm.mono hHeld.size);refine⟨_,rfl,hK.out _ _ (λ_=>h6) (λhG=>?_)⟩;clear hK K hG hbm hHeld;simp only[As];refine tx 11 rfl ?_;refine tx 12 rfl ?_;refine tx 13 rfl ?_;refine AB 14 rfl (λK hK=>?_);go_simp;refine hK.out _ _ (λ_=>h6) (λhG=>?_);clear hK K hG;try simp only[As]
 refine AB 15 rfl (λK hK=>?_);go_simp;refine hK.out _ _ (λ_=>h6) (λhG=>?_);clear hK K hG;try simp only[As]
 refine Ae (by kernel_rfl) ?_ _;have S6:U (Lq w w6 next a n c qa ll qc xb xg 5 s t nb/\Bx w6 qb 140 #[iv 0,iv is,iv it,iv 0]/\GQ w6 o6 r.1):=⟨S5.o.1.keep h6,(h6.block _ S5.o.2.1.lt).trans S5.o.2.1,hr6⟩;clear h6 hr6 hd6 he6 S5 HK hcu hw1;obtain⟨⟨y0,y1,y2⟩,⟨y3,y4⟩,y5,y6,y7⟩:=S6.o.1.cells;obtain⟨p0,p1,p2,p3⟩:w6.cell? (ad qb 0)=some (iv 0)/\w6.cell? (ad qb 1)=some (iv is)/\w6.cell? (ad qb 2)=some (iv it)/\w6.cell? (ad qb 3)=some (iv 0):=⟨S6.o.2.1.cell 0,S6.o.2.1.cell 1,S6.o.2.1.cell 2,S6.o.2.1.cell 3⟩;go_wp2_with fail
 refine (HM.o w6 S6.o.1.bel).mono ?_;rintro e w7 ⟨ma,mc,rfl,hrq,hb7⟩;obtain⟨W8,hW8⟩:∃W8,W8=w7.alloc (.cells #[] 2):=⟨_,rfl⟩;have S8:U (BW W8 ma M/\GQ W8 o6 r.1/\Lq w W8 next a n c qa ll qc xb xg 5 s t nb):=by rw[hW8];have hb8:=Aa w7 (.cells #[] 2);exact⟨hrq.below hb8,(S6.o.2.2.below hb7).below hb8,(S6.o.1.keep hb7).keep hb8⟩
 clear hrq hb7 S6 y0 y1 y2 y3 y4 y5 y6 y7 p0 p1 p2 p3 HM;go_upto_region 32 with fail
 rw[<- hW8];clear hW8;generalize w7.heap.size=ob;go_wp2;go_loopw [19,21,22,23,24] (λrd o i _ _ wr=>∃j:Nat,j<=M.length/\i=iv (j:Int)/\rd=iv ((Av 5 big r.1 (M.take j) ([],r.2)).2:Int)/\(∃oa oc,o=.slice oa (Av 5 big r.1 (M.take j) ([],r.2)).1.length oc/\GQ wr oa (Av 5 big r.1 (M.take j) ([],r.2)).1/\(Av 5 big r.1 (M.take j) ([],r.2)).1.length<=oc/\oc<=9223372036854775807)/\Bl W8 wr) (λ_ _ i _ _ _=>M.length-(intOf i).toNat)
 case atStart=>exact⟨0,Ww _,rfl,rfl,⟨_,_,rfl,Or.inl rfl,Wu _,by decide⟩,Wt _ _⟩
 case round=>
  obtain⟨j,hj,rfl,rfl,⟨oa,oc,rfl,hrd,hc1,hc2⟩,hbel⟩:=hrel;obtain⟨T,hTe⟩:∃T,T=Av 5 big r.1 (M.take j) ([],r.2):=⟨_,rfl⟩;have hTl:T.1.length<=300/\T.2<=r.2+300:=by have:=DR 5 big r.1 (M.take j) ([],r.2);rw[<- hTe,WI] at this;simp only[List.length_nil] at this;omega
  rw[<- hTe] at hrd hc1 ⊢;have HTT:U (T=Av 5 big r.1 (M.take j) ([],r.2)):=hTe;obtain⟨L,nr⟩:=T;simp only at hrd hc1 hTl ⊢;have HA:U (GQ wr oa L/\L.length<=oc/\oc<=9223372036854775807/\Bl W8 wr):=⟨hrd,hc1,hc2,hbel⟩;clear hrd hc1 hc2 hbel hTe;by_cases hlt:j<M.length
  .obtain⟨q,hqe⟩:∃q,q=M[j]:=⟨_,rfl⟩;have HNX:U (Av 5 big r.1 (M.take (j+1)) ([],r.2)=CQ 5 big r.1 q (L,nr)):=by show _=_;rw[WK hlt,Di,<- HTT.o,<- hqe]
   have hmb:∃mb,ma=some (ad mb 0):=by
    rcases S8.o.1 with h0|⟨b,e,_⟩;.omega
    .exact⟨b,e⟩
   obtain⟨mb,rfl⟩:=hmb;have HQC:U (wr.cell? (ad mb (j*4))=some (iv q.s)/\wr.cell? (ad mb (j*4+2))=some (iv q.o)):=by
    rcases S8.o.1.below HA.o.2.2.2 with h0|⟨b,e,hc⟩;.omega
    .injection e with e;injection e with e;subst e;rw[hqe];exact⟨(hc j hlt).1,(hc j hlt).2.2.1⟩
   clear hqe HTT;have i0:(0:Int)<=(j:Int):=by omega
   have i1:(j:Int)<(M.length:Int):=by omega
   obtain⟨x0,x1⟩:=HQC.o;obtain⟨qs,hqs⟩:∃z,z=q.s:=⟨_,rfl⟩;obtain⟨qo,hqo⟩:∃z,z=q.o:=⟨_,rfl⟩;rw[<- hqs] at x0;rw[<- hqo] at x1;have y5:=(S8.o.2.2.keep HA.o.2.2.2).nd.cell 0;simp at y5;have HIn:U (WS 79 #[.slice o6 r.1.length c6,iv qs] wr λe w'=>e=.returned (.bool (r.1.contains qs))/\w'=wr):=Dz o6 c6 r.1 _ wr (S8.o.2.1.below HA.o.2.2.2) (by have:=HZ.o;omega);have HFQ:U (DD 5 q=qs/\Gi 5 q=qs):=⟨by rw[hqs];rfl,by rw[hqs];rfl⟩;clear hqs hqo HQC;obtain⟨nx,hnx⟩:∃nx,nx=nr+1:=⟨_,rfl⟩;have hwn:IntKind.i64.wrap ((nr:Int)+1)=(nx:Int):=by have:=HZ.o;rw[Wz];omega
   have HN1:U (nx=nr+1):=hnx;clear hnx;go_wp2_with fail
   refine HIn.o.mono ?_;rintro e w9 ⟨rfl,hw9⟩;subst hw9;clear HIn;cases hb:r.1.contains qs with
   | true=>
    have HX0:U (Av 5 big r.1 (M.take (j+1)) ([],r.2)=(AH L qs,nx)):=by show _=_;rw[HNX.o];unfold CQ;rw[HFQ.o.1,if_pos hb,HFQ.o.2,HN1.o]
    have HC9:U (WS 75 #[.slice oa L.length oc,iv qs] w9 (Rz w9 (AH L qs))):=CP oa oc L _ w9 HA.o.1 (by omega) HA.o.2.1 HA.o.2.2.1;clear hb HNX;go_wp2_with fail
    refine HC9.o.mono ?_;rintro e wx ⟨o9,c9,rfl,hr9,hd9,he9,hb9⟩;have HX:U (GQ wx o9 (AH L qs)/\(AH L qs).length<=c9/\c9<=9223372036854775807/\Bl W8 wx):=⟨hr9,hd9,he9,HA.o.2.2.2.trans (hb9.mono HA.o.2.2.2.size)⟩;clear hr9 hd9 he9 hb9 HC9 HA x0 x1 y5;generalize AH L qs=L9 at HX HX0 ⊢;go_wp2;go_roundw;case rel=>
     refine⟨j+1,by omega,by go_num,by rw[HX0.o],⟨o9,c9,?_,?_,?_,HX.o.2.2.1⟩,HX.o.2.2.2⟩;.rw[HX0.o]
     .rw[HX0.o];exact HX.o.1
     .rw[HX0.o];exact HX.o.2.1
    case measure=>simp[intOf];omega
   | false=>
    by_cases h6:(6:Int)<=ch
    .have HX0:U (Av 5 big r.1 (M.take (j+1)) ([],r.2)=(L,nx)):=by show _=_;rw[HNX.o];unfold CQ;rw[HFQ.o.1,if_neg (by rw[hb];decide),if_pos (by rw[HBG.o];simpa using h6),HN1.o]
     clear hb HNX;go_wp2;go_roundw;case rel=>
      refine⟨j+1,by omega,by go_num,by rw[HX0.o],⟨oa,oc,?_,?_,?_,HA.o.2.2.1⟩,HA.o.2.2.2⟩;.rw[HX0.o]
      .rw[HX0.o];exact HA.o.1
      .rw[HX0.o];exact HA.o.2.1
     case measure=>simp[intOf];omega
    .have HX0:U (Av 5 big r.1 (M.take (j+1)) ([],r.2)=(L,nr)):=by show _=_;rw[HNX.o];unfold CQ;rw[HFQ.o.1,if_neg (by rw[hb];decide),if_neg (by rw[HBG.o];simpa using h6)]
     have h6b:¬ (6:Int)<=ch:=h6;clear hb HNX;go_wp2;go_roundw;case rel=>
      refine⟨j+1,by omega,by go_num,by rw[HX0.o],⟨oa,oc,?_,?_,?_,HA.o.2.2.1⟩,HA.o.2.2.2⟩;.rw[HX0.o]
      .rw[HX0.o];exact HA.o.1
      .rw[HX0.o];exact HA.o.2.1
     case measure=>simp[intOf];omega
  .obtain rfl:j=M.length:=by omega
   have HF:U (RES=(L,nr)):=by show RES=_;rw[HO2.o,HTT.o,WG]
   go_wp2;refine bodyPost_ret (v:=.tuple #[.slice oa L.length oc,iv (nr:Int)]) (by simp[results,Tryz.results33,go_sem]) rfl ?_;rw[HF.o];exact⟨oa,oc,rfl,HA.o.1,HA.o.2.1,HA.o.2.2.1,S8.o.2.2.bel.trans (HA.o.2.2.2.mono S8.o.2.2.bel.size)⟩
end Go.Proofs.YtacpbofiipdodaaGreat
