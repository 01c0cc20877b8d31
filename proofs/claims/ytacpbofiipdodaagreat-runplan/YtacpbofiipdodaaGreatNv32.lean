import Derived.Test.YtacpbofiipdodaaGreatNv30
import Derived.Test.YtacpbofiipdodaaGreatNv31
set_option linter.unusedVariables false
set_option linter.unusedSimpArgs false
set_option maxRecDepth 100000
set_option maxHeartbeats 90000000
namespace Go.Proofs.YtacpbofiipdodaaGreat
open Go Go.Deep Go.RowKit
theorem TF (k:Int) (hk:k=3\/k=4) (na:Option Addr) (nl nc:Nat) (s t:ByteArray) (a0:Option Addr) (l0 k0:Nat) (pb po pl pc:Nat) (ch:Int) (next:Int) (a:Option Addr) (n c:Nat) (qa:Option Addr) (ll qc:Nat) (LL:List Qd) (id:ByteArray->Int) (x:Cx) (r:List Int × Nat) (w:World) (hR:PK w (.slice na nl nc) k s t [.slice a0 l0 k0]) (hpl:pl=l0+1) (hpc:pl<=pc) (hl:pl<=1000) (hch:w.cell? (ad pb (po+l0))=some (iv ch)) (hT:Jb w next a n c id) (hq:BW w qa LL) (hll:ll=LL.length) (hl3:ll<=300) (hK:G4 w (.slice a0 l0 k0) (.slice (some (ad pb po)) l0 pc) (wv next a n c qa ll qc) x r) (hz:r.1.length<=400000/\r.2<=1000000000000) :
  WS 33 #[.slice na nl nc,.slice (some (ad pb po)) pl pc,wv next a n c qa ll qc,cv x] w (Gq w (if id s=0 then ([],0) else Av k (decide (6<=ch)) r.1 (Cl LL x ⟨0,id s,0,0⟩) ([],r.2))):=by
 obtain⟨xb,xg⟩:=x;obtain⟨kk,hkk⟩:=gn k;have HKK:=hid hkk;have HR:=hid hR;have HC:=hid hch;have HTI:=hid hT;have HK:=hid hK;have HZ:=hid hz;obtain⟨is,his⟩:=gn (id s);have HIS:=hid his;rw[<- his];obtain⟨M,hM⟩:=gn (Cl LL ⟨xb,xg⟩ ⟨0,is,0,0⟩);have hml:M.length<=300:=by have:=EX LL ⟨xb,xg⟩ ⟨0,is,0,0⟩;rw[<- hM] at this;omega
 have HM:U (∀W,Bl w W->WS 74 #[.agg #[iv next,.slice a n c,.slice qa ll qc],.agg #[.bool xb,iv xg],.agg #[iv 0,iv is,iv 0,iv 0]] W (Fa W M)):=λW hW=>by rw[hM];exact CK next a n c qa ll qc LL ⟨xb,xg⟩ ⟨0,is,0,0⟩ W (hq.below hW) hll hl3
 rw[<- hM];obtain⟨big,hbig⟩:=gn (decide (6<=ch));rw[<- hbig];have HBG:=hid hbig;obtain⟨RES,hRES⟩:=gn ((if is=0 then ([],0) else Av k big r.1 M ([],r.2)));have HO:U (RES=(if is=0 then ([],0) else Av kk big r.1 M ([],r.2))):=by rw[hkk];exact hRES
 rw[<- hRES];have hw1:IntKind.i64.wrap ((pl:Int)-1)=(l0:Int):=by rw[Wz];omega
 have hcu:=λW=>Ol pb po pl pc l0 (by omega) hpc (by omega) W;have i0:(0:Int)<=(l0:Int):=by omega
 have i1:(l0:Int)<(pl:Int):=by omega
 clear hkk hRES hbig hM hR hch hq hll hl3 his hT hK hpl hz;obtain⟨W0,hW0⟩:=gn ((w.alloc (.cells #[iv next,.slice a n c,.slice qa ll qc] 75)).alloc (.cells #[.bool xb,iv xg] 81));have B0:U (Bx W0 w.heap.size 75 #[iv next,.slice a n c,.slice qa ll qc]/\Bx W0 (w.heap.size+1) 81 #[.bool xb,iv xg]/\Bl w W0):=by
  rw[hW0];have b1:=Bx.new w #[iv next,.slice a n c,.slice qa ll qc] 75;have b2:=Bx.new (w.alloc (.cells #[iv next,.slice a n c,.slice qa ll qc] 75)) #[.bool xb,iv xg] 81;have s1:(w.alloc (.cells #[iv next,.slice a n c,.slice qa ll qc] 75)).heap.size=w.heap.size+1:=by simp
  have hb2:=Aa (w.alloc (.cells #[iv next,.slice a n c,.slice qa ll qc] 75)) (.cells #[.bool xb,iv xg] 81);rw[s1] at b2;exact⟨(hb2.block _ b1.lt).trans b1,b2,(Aa _ _).trans (hb2.mono (by simp))⟩
 unfold wv cv;go_enter Tryz.func33,Tryz.ntmps33;go_upto_region 1 with fail
 rw[<- hW0];clear hW0;go_wp2_with fail
 refine (HR.o.1 W0 B0.o.2.2).mono ?_;rintro e w1 ⟨rfl,hb1⟩;obtain⟨W1,hW1⟩:=gn (w1.alloc (.cells #[iv k,.string s,.string t] 97));have S1:U (Lq w W1 next a n c qa ll qc xb xg k s t w1.heap.size):=by rw[hW1];have hb2:=Aa w1 (.cells #[iv k,.string s,.string t] 97);have hb:=hb1.trans (hb2.mono hb1.size);exact⟨(hb.block _ B0.o.1.lt).trans B0.o.1,(hb.block _ B0.o.2.1.lt).trans B0.o.2.1,Bx.new _ _ _,B0.o.2.2.trans (hb.mono B0.o.2.2.size)⟩
 clear hb1 B0;go_upto_region 2 with fail
 rw[<- hW1];clear hW1;generalize w1.heap.size=nb at S1 ⊢;go_wp2_with fail
 refine (HR.o.2 W1 S1.o.bel).mono ?_;rintro e w2 ⟨go,cpo,rfl,hkd,hb2⟩;have S2:=hid (S1.o.keep hb2);rcases hk with rfl|rfl;all_goals
  have HKD:=hid (hkd 0 _ rfl)
  clear hkd hb2 S1 HR
  have z0:=(S2.o.bel.cell (Ws _ _ HC.o)).trans HC.o
  obtain⟨⟨y0,y1,y2⟩,⟨y3,y4⟩,y5,y6,y7⟩:=S2.o.cells
  try simp only[WN,List.length_nil,WM,Nat.reduceAdd]
  go_wp2_with fail
  refine (HTI.o w2 s S2.o.bel).mono ?_
  rintro e w3 ⟨rfl,hb3⟩
  rw[<- HIS.o]
  obtain⟨W3,hW3⟩:=gn (w3.alloc (.cells #[iv 0,iv is,iv 0,iv 0] 140))
  have hbb:Bl w3 W3:=by rw[hW3];exact Aa _ _
  have hpb:Bx W3 w3.heap.size 140 #[iv 0,iv is,iv 0,iv 0]:=by rw[hW3];exact Bx.new _ _ _
  have hz3:nb<w3.heap.size/\w.heap.size+1<w3.heap.size/\go<w3.heap.size:=⟨(S2.o.keep hb3).nd.lt,(S2.o.keep hb3).cx.lt,WF (Ws _ _ HKD.o) hb3.size⟩
  have S3:=hid (ai ((S2.o.keep hb3).keep hbb) (ai hpb (((hb3.trans (hbb.mono hb3.size)).cell (p:=(ad go 0)) (Ws _ _ HKD.o)).trans HKD.o)))
  clear hb3 hbb hpb z0 y0 y1 y2 y3 y4 y5 y6 y7 S2 HKD
  go_upto_region 25 with fail
  rw[<- hW3]
  clear hW3
  generalize w3.heap.size=qb at*
  obtain⟨W5,hW5⟩:=gn W3
  rw[<- hW5] at S3 ⊢
  clear hW5
  have S5:=S3
  clear S3
  clear hz3
  obtain⟨p0,p1,p2,p3⟩:W5.cell? (ad qb 0)=some (iv 0)/\W5.cell? (ad qb 1)=some (iv is)/\W5.cell? (ad qb 2)=some (iv 0)/\W5.cell? (ad qb 3)=some (iv 0):=⟨S5.o.2.1.cell 0,S5.o.2.1.cell 1,S5.o.2.1.cell 2,S5.o.2.1.cell 3⟩
  obtain⟨-,-,y5,y6,y7⟩:=S5.o.1.cells
  by_cases h0:is=0
  .subst h0
   have HF:U (RES=([],0)/\Bl w W5):=⟨by rw[HO.o,if_pos (rfl)],S5.o.1.bel⟩
   go_wp2
   refine bodyPost_ret (v:=.tuple #[.slice (some (ad W5.heap.size 0)) 0 0,iv 0]) (by simp[results,Tryz.results33,go_sem]) rfl ?_
   rw[HF.o.1]
   exact⟨_,_,rfl,Or.inl rfl,Wu _,by decide,HF.o.2.trans ((Aa _ _).mono HF.o.2.size)⟩
  have h0b:(is == 0)=false:=by simp[h0]
  have HO2:U (RES=Av kk big r.1 M ([],r.2)):=by
   show RES=_
   rw[HO.o,if_neg h0]
  clear HO HTI HC HIS
  go_upto_region 29 with fail
  clear p0 p1 p2 p3 y5 y6 y7
  refine Ac (S:=λW=>Bl W5 W) 15 (by kernel_rfl) (Wt _ _).drew (λW hHeld=>?_)
  refine tx 0 rfl ?_
  refine tx 1 rfl ?_
  refine ty 2 rfl (λw' h=>by have q:=(h.cell (p:=(ad go 0)) (Ws _ _ S5.o.2.2)).trans S5.o.2.2;clear h;go_simp;rfl) ?_
  refine tx 3 rfl ?_
  refine tx 4 rfl ?_
  refine tx 5 rfl ?_
  refine tx 6 rfl ?_
  refine tx 7 rfl ?_
  refine ty 8 rfl (λw' h=>by obtain⟨⟨y0,y1,y2⟩,-⟩:=(S5.o.1.keep h).cells;clear h;go_simp;rfl) ?_
  refine ty 9 rfl (λw' h=>by obtain⟨-,⟨y3,y4⟩,-⟩:=(S5.o.1.keep h).cells;clear h;go_simp;rfl) ?_
  refine AB 10 rfl (λK hK=>?_)
  refine Dy rfl 33 157 162 163 164 _ rfl (.slice a0 l0 k0) (.slice (some (ad pb po)) l0 pc) (.agg #[iv next,.slice a n c,.slice qa ll qc]) (.agg #[.bool xb,iv xg]) rfl rfl rfl rfl (λ_ _=>rfl) ?_
  refine (HK.o W (S5.o.1.keep hHeld).bel).mono ?_
  rintro e w6 ⟨o6,c6,rfl,hr6,hd6,he6,hbm⟩
  have h6:=hHeld.trans (hbm.mono hHeld.size)
  refine⟨_,rfl,hK.out _ _ (λ_=>h6) (λhG=>?_)⟩
  clear hK K hG hbm hHeld
  simp only[As]
  refine tx 11 rfl ?_
  refine tx 12 rfl ?_
  refine tx 13 rfl ?_
  refine AB 14 rfl (λK hK=>?_)
  go_simp
  refine hK.out _ _ (λ_=>h6) (λhG=>?_)
  clear hK K hG
  try simp only[As]
  refine AB 15 rfl (λK hK=>?_)
  go_simp
  refine hK.out _ _ (λ_=>h6) (λhG=>?_)
  clear hK K hG
  try simp only[As]
  refine Ae (by kernel_rfl) ?_ _
  have S6:=hid (ai (S5.o.1.keep h6) (ai (show Bx w6 qb 140 #[iv 0,iv is,iv 0,iv 0] from (h6.block _ S5.o.2.1.lt).trans S5.o.2.1) hr6))
  clear h6 hr6 hd6 he6 S5 HK hcu hw1
  obtain⟨⟨y0,y1,y2⟩,⟨y3,y4⟩,y5,y6,y7⟩:=S6.o.1.cells
  obtain⟨p0,p1,p2,p3⟩:w6.cell? (ad qb 0)=some (iv 0)/\w6.cell? (ad qb 1)=some (iv is)/\w6.cell? (ad qb 2)=some (iv 0)/\w6.cell? (ad qb 3)=some (iv 0):=⟨S6.o.2.1.cell 0,S6.o.2.1.cell 1,S6.o.2.1.cell 2,S6.o.2.1.cell 3⟩
  go_wp2_with fail
  refine (HM.o w6 S6.o.1.bel).mono ?_
  rintro e w7 ⟨ma,mc,rfl,hrq,hb7⟩
  obtain⟨W8,hW8⟩:=gn (w7.alloc (.cells #[] 2))
  have hb8:Bl w7 W8:=by rw[hW8];exact Aa _ _
  have S8:=hid (ai (hrq.below hb8) (ai ((S6.o.2.2.below hb7).below hb8) ((S6.o.1.keep hb7).keep hb8)))
  clear hb8
  clear hrq hb7 S6 y0 y1 y2 y3 y4 y5 y6 y7 p0 p1 p2 p3 HM
  go_upto_region 32 with fail
  rw[<- hW8]
  clear hW8
  generalize w7.heap.size=ob
  go_wp2
  go_loopw [19,21,22,23,24] (λrd o i _ _ wr=>∃j:Nat,j<=M.length/\i=iv (j:Int)/\rd=iv ((Av kk big r.1 (M.take j) ([],r.2)).2:Int)/\(∃oa oc,o=.slice oa (Av kk big r.1 (M.take j) ([],r.2)).1.length oc/\GQ wr oa (Av kk big r.1 (M.take j) ([],r.2)).1/\(Av kk big r.1 (M.take j) ([],r.2)).1.length<=oc/\oc<=9223372036854775807)/\Bl W8 wr) (λ_ _ i _ _ _=>M.length-(intOf i).toNat)
  case atStart=>exact⟨0,Ww _,rfl,rfl,⟨_,_,rfl,Or.inl rfl,Wu _,by decide⟩,Wt _ _⟩
  case round=>
   obtain⟨j,hj,rfl,rfl,⟨oa,oc,rfl,hrd,hc1,hc2⟩,hbel⟩:=hrel
   obtain⟨T,hTe⟩:=gn (Av kk big r.1 (M.take j) ([],r.2))
   have hTl:T.1.length<=300/\T.2<=r.2+300:=by
    have:=DR kk big r.1 (M.take j) ([],r.2)
    rw[<- hTe,WI] at this
    simp only[List.length_nil] at this
    omega
   rw[<- hTe] at hrd hc1 ⊢
   have HTT:=hid hTe
   obtain⟨L,nr⟩:=T
   simp only at hrd hc1 hTl ⊢
   have HA:=hid (ai hrd (ai hc1 (ai hc2 hbel)))
   clear hrd hc1 hc2 hbel hTe
   by_cases hlt:j<M.length
   .obtain⟨q,hqe⟩:=gn (M[j])
    have HNX:U (Av kk big r.1 (M.take (j+1)) ([],r.2)=CQ kk big r.1 q (L,nr)):=by
     show _=_
     rw[WK hlt,Di,<- HTT.o,<- hqe]
    have hmb:∃mb,ma=some (ad mb 0):=by
     rcases S8.o.1 with h0|⟨b,e,_⟩
     .omega
     .exact⟨b,e⟩
    obtain⟨mb,rfl⟩:=hmb
    have HQC:U (wr.cell? (ad mb (j*4))=some (iv q.s)/\wr.cell? (ad mb (j*4+2))=some (iv q.o)):=by
     rcases S8.o.1.below HA.o.2.2.2 with h0|⟨b,e,hc⟩
     .omega
     .injection e with e
      injection e with e
      subst e
      rw[hqe]
      exact⟨(hc j hlt).1,(hc j hlt).2.2.1⟩
    clear hqe HTT
    have i0:(0:Int)<=(j:Int):=by omega
    have i1:(j:Int)<(M.length:Int):=by omega
    obtain⟨x0,x1⟩:=HQC.o
    obtain⟨qf,hqf⟩:=gn (DD kk q)
    obtain⟨qt,hqt⟩:=gn (Gi kk q)
    have HFQ:=hid (ai hqf.symm hqt.symm)
    rw[HKK.o] at hqf hqt
    first
     | (rw[<- show qf=q.s from hqf] at x0;rw[<- show qt=q.o from hqt] at x1)
     | (rw[<- show qt=q.s from hqt] at x0;rw[<- show qf=q.o from hqf] at x1)
    have y5:=(S8.o.2.2.keep HA.o.2.2.2).nd.cell 0
    simp at y5
    have HIn:U (WS 79 #[.slice o6 r.1.length c6,iv qf] wr λe w'=>e=.returned (.bool (r.1.contains qf))/\w'=wr):=Dz o6 c6 r.1 _ wr (S8.o.2.1.below HA.o.2.2.2) (by have:=HZ.o;omega)
    clear hqf hqt HQC
    obtain⟨nx,hnx⟩:∃nx,nx=nr+1:=⟨_,rfl⟩
    have hwn:IntKind.i64.wrap ((nr:Int)+1)=(nx:Int):=by
     have:=HZ.o
     rw[Wz]
     omega
    have HN1:U (nx=nr+1):=hnx
    clear hnx
    go_wp2_with fail
    refine HIn.o.mono ?_
    rintro e w9 ⟨rfl,hw9⟩
    subst hw9
    clear HIn
    cases hb:r.1.contains qf with
    | true=>
     have HX0:U (Av kk big r.1 (M.take (j+1)) ([],r.2)=(AH L qt,nx)):=by
      show _=_
      rw[HNX.o]
      unfold CQ
      rw[HFQ.o.1,if_pos hb,HFQ.o.2,HN1.o]
     have HC9:U (WS 75 #[.slice oa L.length oc,iv qt] w9 (Rz w9 (AH L qt))):=CP oa oc L _ w9 HA.o.1 (by omega) HA.o.2.1 HA.o.2.2.1
     clear hb HNX
     go_wp2_with fail
     refine HC9.o.mono ?_
     rintro e wx ⟨o9,c9,rfl,hr9,hd9,he9,hb9⟩
     have HX:=hid (ai hr9 (ai hd9 (ai he9 (HA.o.2.2.2.trans (hb9.mono HA.o.2.2.2.size)))))
     clear hr9 hd9 he9 hb9 HC9 HA x0 x1 y5
     generalize AH L qt=L9 at HX HX0 ⊢
     go_wp2
     go_roundw
     case rel=>
      refine⟨j+1,by omega,by go_num,by rw[HX0.o],⟨o9,c9,?_,?_,?_,HX.o.2.2.1⟩,HX.o.2.2.2⟩
      .rw[HX0.o]
      .rw[HX0.o];exact HX.o.1
      .rw[HX0.o];exact HX.o.2.1
     case measure=>simp[intOf];omega
    | false=>
     by_cases h6:(6:Int)<=ch
     .have HX0:U (Av kk big r.1 (M.take (j+1)) ([],r.2)=(L,nx)):=by
       show _=_
       rw[HNX.o]
       unfold CQ
       rw[HFQ.o.1,if_neg (by rw[hb];decide),if_pos (by rw[HBG.o];simpa using h6),HN1.o]
      clear hb HNX
      go_wp2
      go_roundw
      case rel=>
       refine⟨j+1,by omega,by go_num,by rw[HX0.o],⟨oa,oc,?_,?_,?_,HA.o.2.2.1⟩,HA.o.2.2.2⟩
       .rw[HX0.o]
       .rw[HX0.o];exact HA.o.1
       .rw[HX0.o];exact HA.o.2.1
      case measure=>simp[intOf];omega
     .have HX0:U (Av kk big r.1 (M.take (j+1)) ([],r.2)=(L,nr)):=by
       show _=_
       rw[HNX.o]
       unfold CQ
       rw[HFQ.o.1,if_neg (by rw[hb];decide),if_neg (by rw[HBG.o];simpa using h6)]
      have h6b:=h6
      clear hb HNX
      go_wp2
      go_roundw
      case rel=>
       refine⟨j+1,by omega,by go_num,by rw[HX0.o],⟨oa,oc,?_,?_,?_,HA.o.2.2.1⟩,HA.o.2.2.2⟩
       .rw[HX0.o]
       .rw[HX0.o];exact HA.o.1
       .rw[HX0.o];exact HA.o.2.1
      case measure=>simp[intOf];omega
   .obtain rfl:j=M.length:=by omega
    have HF:U (RES=(L,nr)):=by
     show RES=_
     rw[HO2.o,HTT.o,WG]
    go_wp2
    refine bodyPost_ret (v:=.tuple #[.slice oa L.length oc,iv (nr:Int)]) (by simp[results,Tryz.results33,go_sem]) rfl ?_
    rw[HF.o]
    exact⟨oa,oc,rfl,HA.o.1,HA.o.2.1,HA.o.2.2.1,S8.o.2.2.bel.trans (HA.o.2.2.2.mono S8.o.2.2.bel.size)⟩
theorem IB (k:Int) (a b:List Int × Nat):(B3 k a b).1.length<=a.1.length+b.1.length/\(B3 k a b).2<=a.2+b.2:=by
 unfold B3;split;.omega
 .exact⟨PY k a.1 b.1,Wu _⟩
theorem GD {id:ByteArray->Int} {Q:List Qd} {k:Int} {s t:ByteArray} {ch:Int} {c:Cx} {a b:List Int × Nat} (hQ:Q.length<=300):(AV id Q k s t ch c a b).1.length<=a.1.length+b.1.length+600/\(AV id Q k s t ch c a b).2<=a.2+b.2+600:=by
 unfold AV;have hm:=λp=>WC (EX Q c p) hQ;split;.have h1:=FP (Cl Q c ⟨0,0,0,0⟩) [];have h2:=hm ⟨0,0,0,0⟩;simp only[List.length_nil] at h1;dsimp only;omega
 split
 .split;.dsimp only[List.length_cons,List.length_nil];omega
  .dsimp only[List.length_nil];omega
 split
 .split;.have:=IB 6 b a;omega
  .have:=IB 6 a b;omega
 split;.have:=IB k a b;omega
 split;.omega
 split;.dsimp only[List.length_nil];omega
 .have h1:=DR k (decide (6<=ch)) a.1 (Cl Q c ⟨0,id s,if k=5 then id t else 0,0⟩) ([],a.2);have h2:=hm ⟨0,id s,if k=5 then id t else 0,0⟩;simp only[List.length_nil] at h1;omega
theorem FK {id:ByteArray->Int} {Q:List Qd} {N:Nat} {I:Nat->Int} {X R:Nat->ByteArray} {Ch:Nat->Int} (hv:∀i,i<N->1<=I i/\I i<=9) (hQ:Q.length<=300) :
  ∀(f base m:Nat),m+1<=f->base+m<N->Am (λi=>Ah (I (base+i))) (m+1) 0->∀c,(RN id Q I X R Ch (base+m) c).1.length<=600*(m+1)/\(RN id Q I X R Ch (base+m) c).2<=600*(m+1)
 | 0,base,m,hf,_,_,_=>absurd hf (by omega)
 | f+1,base,m,hf,hN,hb,c=>by
  have hk9:=hv _ hN
  rcases Gz hb with ⟨e,hm⟩|⟨e,h0,e0,g0⟩|⟨e,s,h0,h1,e0,e1,g0,g1⟩
  .rw[FI hk9 (by omega) (by omega),EM (a':=([],0)) (b':=([],0)) hk9 (by omega) (by omega)]
   have:=GD (id:=id) (Q:=Q) (k:=I (base+m)) (s:=X (base+m)) (t:=R (base+m)) (ch:=Ch (base+m)) (c:=c) (a:=([],0)) (b:=([],0)) hQ
   simp only[List.length_nil] at this
   omega
  .rw[FI hk9 (by omega) (by omega),EM (b':=([],0)) hk9 (λ_=>rfl) (by omega),e0]
   have ih:=FK (id:=id) (X:=X) (R:=R) (Ch:=Ch) hv hQ f base (m-1) (by omega) (by omega) g0 (DU id (I (base+m)) (X (base+m)) c)
   have:=GD (id:=id) (Q:=Q) (k:=I (base+m)) (s:=X (base+m)) (t:=R (base+m)) (ch:=Ch (base+m)) (c:=c) (a:=RN id Q I X R Ch (base+(m-1)) (DU id (I (base+m)) (X (base+m)) c)) (b:=([],0)) hQ
   simp only[List.length_nil] at this
   omega
  .rw[FI hk9 (by omega) (by omega),e0,e1]
   have ih0:=FK (id:=id) (X:=X) (R:=R) (Ch:=Ch) hv hQ f base (s-1) (by omega) (by omega) g0 (DU id (I (base+m)) (X (base+m)) c)
   have ih1:=FK (id:=id) (X:=X) (R:=R) (Ch:=Ch) hv hQ f (base+s) (m-s-1) (by omega) (by omega) g1 (DU id (I (base+m)) (X (base+m)) c)
   have:=GD (id:=id) (Q:=Q) (k:=I (base+m)) (s:=X (base+m)) (t:=R (base+m)) (ch:=Ch (base+m)) (c:=c) (a:=RN id Q I X R Ch (base+(s-1)) (DU id (I (base+m)) (X (base+m)) c)) (b:=RN id Q I X R Ch (base+s+(m-s-1)) (DU id (I (base+m)) (X (base+m)) c)) hQ
   omega
theorem G4.below {w W:World} {v p wl:Value} {x:Cx} {r:List Int × Nat} (h:G4 w v p wl x r) (hb:Bl w W):G4 W v p wl x r:=λW' hW'=>h W' (hb.trans (hW'.mono hb.size))
theorem JT {N:Nat} {I Ch:Nat->Int} {X R:Nat->ByteArray} (hv:∀i,i<N->1<=I i/\I i<=9) (next:Int) (a:Option Addr) (n c:Nat) (qa:Option Addr) (ll qc:Nat) (LL:List Qd) (id:ByteArray->Int) (hll:ll=LL.length) (hl3:ll<=300):∀(f b o base m cc pb po pc:Nat) (x:Cx) (w:World),DP w (some (ad b o)) (m+1) (λi=>I (base+i)) (λi=>X (base+i)) (λi=>R (base+i))->MX w pb po (m+1) (λi=>Ch (base+i))->Jb w next a n c id->BW w qa LL->m+1<=f->f<=200->m+1<=cc->cc<=9223372036854775807->m+1<=pc->pc<=9223372036854775807->base+m<N->Am (λi=>Ah (I (base+i))) (m+1) 0->
  WS 33 #[.slice (some (ad b o)) (m+1) cc,.slice (some (ad pb po)) (m+1) pc,wv next a n c qa ll qc,cv x] w (Gq w (RN id LL I X R Ch (base+m) x))
 | 0,b,o,base,m,cc,pb,po,pc,x,w,_,_,_,_,hf,_,_,_,_,_,_,_=>absurd hf (by omega)
 | f+1,b,o,base,m,cc,pb,po,pc,x,w,hR,hP,hT,hq,hf,hf2,hc,hcm,hpc,hpm,hN,hb=>by
  have IH:=JT (Ch:=Ch) (X:=X) (R:=R) hv next a n c qa ll qc LL id hll hl3 f
  obtain⟨r,ks,hko⟩:=NY b o cc m hb (BD _)
  have hkd:∀W,Bl w W->WS 73 #[.slice (some (ad b o)) (m+1) cc] W λe w'=>∃go cpo,e=.returned (.slice (some (ad go 0)) ks.length cpo)/\(∀i x,ks[i]?=some x->w'.cell? (ad go i)=some x)/\Bl W w':=λW hW=>by
   refine (Fv b o m cc (λi=>I (base+i)) (λi=>X (base+i)) (λi=>R (base+i)) W (hR.below hW) (by omega) hc hcm hb).mono ?_
   rintro e w' ⟨v,r',ks',rfl,hko',hka,hb2⟩
   obtain⟨go,cpo,rfl,hks⟩:=hka
   have e:=J4 hko hko'
   subst e
   exact⟨go,cpo,rfl,hks,hb2⟩
  have hM:PK w (.slice (some (ad b o)) (m+1) cc) (I (base+m)) (X (base+m)) (R (base+m)) ks:=⟨λW hW=>I1 b o m cc _ _ _ W (hR.below hW) (by omega),hkd⟩
  have hkt:=J3 hko hR hc hb
  have hlen:=hko.len
  have hk9:=hv (base+m) hN
  have hch:w.cell? (ad pb (po+m))=some (iv (Ch (base+m))):=hP m (by omega)
  have hQ:LL.length<=300:=by omega
  rcases Gz hb with ⟨e,hm⟩|⟨e,h0,e0,g0⟩|⟨e,s,h0,h1,e0,e1,g0,g1⟩
  .rw[FI hk9 (by omega) (by omega)]
   rw[e] at hlen
   obtain rfl:ks=[]:=List.length_eq_zero_iff.1 hlen
   subst hm
   have h12:I (base+0)=1\/I (base+0)=2:=by
    have h9:I (base+0)=1\/I (base+0)=2\/I (base+0)=3\/I (base+0)=4\/I (base+0)=5\/I (base+0)=6\/I (base+0)=7\/I (base+0)=8\/I (base+0)=9:=by omega
    rcases h9 with h|h|h|h|h|h|h|h|h
    .exact .inl h
    .exact .inr h
    all_goals (rw[h] at e;simp[Ah] at e)
   rcases h12 with h|h
   .rw[h] at hM ⊢
    exact Vw _ _ _ _ _ pb po pc _ next a n c qa ll qc LL x w hM hch hq hll hl3
   .rw[h] at hM ⊢
    exact UT _ _ _ _ _ pb po pc _ next a n c qa ll qc LL id x w hM hch hT hq hll hl3
  .rw[FI hk9 (by omega) (by omega),e0]
   rw[e] at hlen
   obtain⟨o',n',c',base',q1,q2,q3,q4,q5,q6,q7,q8⟩:=hkt 0 (by omega)
   rw[e0] at q7
   obtain⟨rfl,rfl⟩:=D5 q3 g0 q7
   obtain rfl:ks=[.slice (some (ad b o')) (m-1+1) c']:=by
    match ks,hlen,q1 with
    | [z],_,q1=>injection q1 with q1;rw[q1]
   have hK:∀x',G4 w (.slice (some (ad b o')) (m-1+1) c') (.slice (some (ad pb po)) (m-1+1) pc) (wv next a n c qa ll qc) x' (RN id LL I X R Ch (base'+(m-1)) x'):=λx' W hW=>IH b o' base' (m-1) c' pb po pc x' W (q2.below hW) (λi hi=>(hP.below hW) i (by omega)) (hT.below hW) (hq.below hW) (by omega) (by omega) q5 (by omega) (by omega) hpm (by omega) q3
   have hz:∀x',(RN id LL I X R Ch (base'+(m-1)) x').1.length<=400000/\(RN id LL I X R Ch (base'+(m-1)) x').2<=1000000000000:=λx'=>by
    have:=FK (id:=id) (X:=X) (R:=R) (Ch:=Ch) hv hQ f base' (m-1) (by omega) (by omega) g0 x'
    omega
   have hch' : w.cell? (ad pb (po+(m-1+1)))=some (iv (Ch (base'+m))):=by rw[show m-1+1=m by omega];exact hch
   have h3459:I (base'+m)=3\/I (base'+m)=4\/I (base'+m)=5\/I (base'+m)=9:=by
    have h9:I (base'+m)=1\/I (base'+m)=2\/I (base'+m)=3\/I (base'+m)=4\/I (base'+m)=5\/I (base'+m)=6\/I (base'+m)=7\/I (base'+m)=8\/I (base'+m)=9:=by omega
    rcases h9 with h|h|h|h|h|h|h|h|h
    all_goals first|(rw[h] at e;simp[Ah] at e;done)|simp[h]
   rcases h3459 with h|h|h|h
   .rw[h] at hM ⊢
    have:=TF 3 (by decide) _ _ _ _ _ _ _ _ pb po (m+1) pc _ next a n c qa ll qc LL id x _ w hM (by omega) hpc (by omega) hch' hT hq hll hl3 (hK x) (hz x)
    simpa[AV,DU] using this
   .rw[h] at hM ⊢
    have:=TF 4 (by decide) _ _ _ _ _ _ _ _ pb po (m+1) pc _ next a n c qa ll qc LL id x _ w hM (by omega) hpc (by omega) hch' hT hq hll hl3 (hK x) (hz x)
    simpa[AV,DU] using this
   .rw[h] at hM ⊢
    have:=U4 _ _ _ _ _ _ _ _ pb po (m+1) pc _ next a n c qa ll qc LL id x _ w hM (by omega) hpc (by omega) hch' hT hq hll hl3 (hK x) (hz x)
    simpa[AV,DU] using this
   .rw[h] at hM ⊢
    have:=UW _ _ _ _ _ _ _ _ pb po (m+1) pc _ next a n c qa ll qc id x _ w hM (by omega) hpc (by omega) hch' hT (hK _)
    simpa[AV] using this
  .rw[FI hk9 (by omega) (by omega),e0,e1]
   rw[e] at hlen
   obtain⟨o0,n0,c0,b0,q1,q2,q3,q4,q5,q6,q7,q8⟩:=hkt 0 (by omega)
   obtain⟨o1,n1,c1,b1,p1,p2,p3,p4,p5,p6,p7,p8⟩:=hkt 1 (by omega)
   rw[e0] at q7
   rw[e1] at p7
   obtain⟨rfl,rfl⟩:=D5 q3 g0 q7
   obtain⟨rfl,rfl⟩:=D5 p3 g1 p7
   obtain rfl:ks=[.slice (some (ad b o0)) (s-1+1) c0,.slice (some (ad b o1)) (m-s-1+1) c1]:=by
    match ks,hlen,q1,p1 with
    | [z,z'],_,q1,p1=>injection q1 with q1;injection p1 with p1;rw[q1,p1]
   have hK0:G4 w (.slice (some (ad b o0)) (s-1+1) c0) (.slice (some (ad pb po)) (s-1+1) pc) (wv next a n c qa ll qc) x (RN id LL I X R Ch (b0+(s-1)) x):=λW hW=>IH b o0 b0 (s-1) c0 pb po pc x W (q2.below hW) (λi hi=>(hP.below hW) i (by omega)) (hT.below hW) (hq.below hW) (by omega) (by omega) q5 (by omega) (by omega) hpm (by omega) q3
   have hK1:G4 w (.slice (some (ad b o1)) (m-s-1+1) c1) (.slice (some (ad pb (po+(s-1+1)))) (m-s-1+1) (pc-(s-1+1))) (wv next a n c qa ll qc) x (RN id LL I X R Ch (b0+s+(m-s-1)) x):=λW hW=>IH b o1 (b0+s) (m-s-1) c1 pb (po+(s-1+1)) (pc-(s-1+1)) x W (p2.below hW) (λi hi=>by
    have:=(hP.below hW) (s+i) (by omega)
    rw[show po+(s-1+1)+i=po+(s+i) by omega]
    dsimp only at this ⊢
    rw[show b0+s+i=b0+(s+i) by omega]
    exact this) (hT.below hW) (hq.below hW) (by omega) (by omega) p5 (by omega) (by omega) (by omega) (by omega) p3
   have hz0:(RN id LL I X R Ch (b0+(s-1)) x).1.length<=400000/\(RN id LL I X R Ch (b0+(s-1)) x).2<=1000000000000:=by
    have:=FK (id:=id) (X:=X) (R:=R) (Ch:=Ch) hv hQ f b0 (s-1) (by omega) (by omega) g0 x
    omega
   have hz1:(RN id LL I X R Ch (b0+s+(m-s-1)) x).1.length<=400000/\(RN id LL I X R Ch (b0+s+(m-s-1)) x).2<=1000000000000:=by
    have:=FK (id:=id) (X:=X) (R:=R) (Ch:=Ch) hv hQ f (b0+s) (m-s-1) (by omega) (by omega) g1 x
    omega
   have h678:I (b0+m)=6\/I (b0+m)=7\/I (b0+m)=8:=by
    have h9:I (b0+m)=1\/I (b0+m)=2\/I (b0+m)=3\/I (b0+m)=4\/I (b0+m)=5\/I (b0+m)=6\/I (b0+m)=7\/I (b0+m)=8\/I (b0+m)=9:=by omega
    rcases h9 with h|h|h|h|h|h|h|h|h
    all_goals first|(rw[h] at e;simp[Ah] at e;done)|simp[h]
   generalize RN id LL I X R Ch (b0+(s-1))=F0 at*
   generalize RN id LL I X R Ch (b0+s+(m-s-1))=F1 at*
   rcases h678 with h|h|h
   .rw[h] at hM ⊢
    have hd:DU id 6 (X (b0+m)) x=x:=by simp[DU]
    rw[hd]
    by_cases h1:Ch (b0+m)=1
    .have:=Oo 6 (by decide) _ _ _ _ _ _ _ pb po (m+1) pc _ next a n c qa ll qc x (B3 6 (F1 x) (F0 x)) w hM m rfl (by omega) hch (λW go cpo hW k0 k1=>Ib 6 _ _ _ _ _ _ go cpo _ _ _ _ _ _ pb po (m+1) pc (Ch (b0+m)) next a n c qa ll qc x W k0 k1 m (by omega) rfl hpc (by omega) ((hW.cell (Ws _ _ hch)).trans hch) (.inr ⟨⟨rfl,h1⟩,rfl,rfl,rfl,rfl⟩) (hK1.below hW) (hK0.below hW) hz1 hz0)
     simpa[AV,h1] using this
    .have:=Oo 6 (by decide) _ _ _ _ _ _ _ pb po (m+1) pc _ next a n c qa ll qc x (B3 6 (F0 x) (F1 x)) w hM m rfl (by omega) hch (λW go cpo hW k0 k1=>Ib 6 _ _ _ _ _ _ go cpo _ _ _ _ _ _ pb po (m+1) pc (Ch (b0+m)) next a n c qa ll qc x W k0 k1 m (by omega) rfl hpc (by omega) ((hW.cell (Ws _ _ hch)).trans hch) (.inl ⟨.inr (.inr ⟨rfl,h1⟩),rfl,rfl,rfl,rfl⟩) (hK0.below hW) (hK1.below hW) hz0 hz1)
     simpa[AV,h1] using this
   .rw[h] at hM ⊢
    have hd:DU id 7 (X (b0+m)) x=x:=by simp[DU]
    rw[hd]
    have:=Oo 7 (by decide) _ _ _ _ _ _ _ pb po (m+1) pc _ next a n c qa ll qc x (B3 7 (F0 x) (F1 x)) w hM m rfl (by omega) hch (λW go cpo hW k0 k1=>Ib 7 _ _ _ _ _ _ go cpo _ _ _ _ _ _ pb po (m+1) pc (Ch (b0+m)) next a n c qa ll qc x W k0 k1 m (by omega) rfl hpc (by omega) ((hW.cell (Ws _ _ hch)).trans hch) (.inl ⟨.inr (.inl rfl),rfl,rfl,rfl,rfl⟩) (hK0.below hW) (hK1.below hW) hz0 hz1)
    simpa[AV] using this
   .rw[h] at hM ⊢
    have hd:DU id 8 (X (b0+m)) x=x:=by simp[DU]
    rw[hd]
    have:=Oo 8 (by decide) _ _ _ _ _ _ _ pb po (m+1) pc _ next a n c qa ll qc x (B3 8 (F0 x) (F1 x)) w hM m rfl (by omega) hch (λW go cpo hW k0 k1=>Ib 8 _ _ _ _ _ _ go cpo _ _ _ _ _ _ pb po (m+1) pc (Ch (b0+m)) next a n c qa ll qc x W k0 k1 m (by omega) rfl hpc (by omega) ((hW.cell (Ws _ _ hch)).trans hch) (.inl ⟨.inl rfl,rfl,rfl,rfl,rfl⟩) (hK0.below hW) (hK1.below hW) hz0 hz1)
    simpa[AV] using this
end Go.Proofs.YtacpbofiipdodaaGreat
