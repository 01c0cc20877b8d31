import Derived.Test.YtacpbofiipdodaaGreatNv28
set_option linter.unusedVariables false
set_option linter.unusedSimpArgs false
set_option maxRecDepth 100000
set_option maxHeartbeats 90000000
namespace Go.Proofs.YtacpbofiipdodaaGreat
open Go Go.Deep Go.RowKit
theorem Gv:∀(A:List Qd) (q:Qd) (o:List Int),BO (A++[q]) o=AH (AH (BO A o) q.s) q.o
 | [],_,_=>rfl
 | _::A,q,o=>Gv A q _
theorem FP:∀(A:List Qd) (o:List Int),(BO A o).length<=o.length+2*A.length
 | [],_=>Wu _
 | q::A,o=>by
  have h:=FP A (AH (AH o q.s) q.o)
  have h1:=@Qf (AH o q.s) q.o
  have h2:=@Qf o q.s
  show (BO A _).length<=_
  simp only[WN]
  omega
def Gq (w:World) (r:List Int × Nat) (e:Ending) (w' : World):Prop:=∃a c,e=.returned (.tuple #[.slice a r.1.length c,iv (r.2:Int)])/\GQ w' a r.1/\r.1.length<=c/\c<=9223372036854775807/\Bl w w'
structure Lq (w W:World) (next:Int) (a:Option Addr) (n c:Nat) (qa:Option Addr) (ll qc:Nat) (xb:Bool) (xg:Int) (k:Int) (s t:ByteArray) (nb:Nat):Prop where
 wd:Bx W w.heap.size 75 #[iv next,.slice a n c,.slice qa ll qc]
 cx:Bx W (w.heap.size+1) 81 #[.bool xb,iv xg]
 nd:Bx W nb 97 #[iv k,.string s,.string t]
 bel:Bl w W
theorem Lq.keep {w W W' : World} {next:Int} {a:Option Addr} {n c:Nat} {qa:Option Addr} {ll qc:Nat} {xb:Bool} {xg:Int} {k:Int} {s t:ByteArray} {nb:Nat} (h:Lq w W next a n c qa ll qc xb xg k s t nb) (hb:Bl W W'):Lq w W' next a n c qa ll qc xb xg k s t nb:=
 ⟨(hb.block _ h.wd.lt).trans h.wd,(hb.block _ h.cx.lt).trans h.cx,(hb.block _ h.nd.lt).trans h.nd,h.bel.trans (hb.mono h.bel.size)⟩
theorem EX (LL:List Qd) (x:Cx) (p:Qd):(Cl LL x p).length<=LL.length:=by
 unfold Cl;split;.exact Ww _
 .exact List.length_filter_le _ _
theorem Vw (na:Option Addr) (nl nc:Nat) (s t:ByteArray) (pb po pc:Nat) (ch:Int) (next:Int) (a:Option Addr) (n c:Nat) (qa:Option Addr) (ll qc:Nat) (LL:List Qd) (x:Cx) (w:World) (hR:PK w (.slice na nl nc) 1 s t []) (hch:w.cell? (ad pb po)=some (iv ch)) (hq:BW w qa LL) (hll:ll=LL.length) (hl3:ll<=300) :
  WS 33 #[.slice na nl nc,.slice (some (ad pb po)) 1 pc,wv next a n c qa ll qc,cv x] w (Gq w (BO (Cl LL x ⟨0,0,0,0⟩) [],(Cl LL x ⟨0,0,0,0⟩).length)):=by
 obtain⟨xb,xg⟩:=x;have HR:=hid hR;have HC:=hid hch;obtain⟨M,hM⟩:=gn (Cl LL ⟨xb,xg⟩ ⟨0,0,0,0⟩);have hml:M.length<=300:=by have:=EX LL ⟨xb,xg⟩ ⟨0,0,0,0⟩;rw[<- hM] at this;omega
 have HM:U (∀W,Bl w W->WS 74 #[.agg #[iv next,.slice a n c,.slice qa ll qc],.agg #[.bool xb,iv xg],.agg #[iv 0,iv 0,iv 0,iv 0]] W (Fa W M)):=λW hW=>by rw[hM];exact CK next a n c qa ll qc LL ⟨xb,xg⟩ ⟨0,0,0,0⟩ W (hq.below hW) hll hl3
 rw[<- hM];clear hM hR hch hq hll hl3;obtain⟨W0,hW0⟩:=gn ((w.alloc (.cells #[iv next,.slice a n c,.slice qa ll qc] 75)).alloc (.cells #[.bool xb,iv xg] 81));have B0:U (Bx W0 w.heap.size 75 #[iv next,.slice a n c,.slice qa ll qc]/\Bx W0 (w.heap.size+1) 81 #[.bool xb,iv xg]/\Bl w W0):=by
  rw[hW0];have b1:=Bx.new w #[iv next,.slice a n c,.slice qa ll qc] 75;have b2:=Bx.new (w.alloc (.cells #[iv next,.slice a n c,.slice qa ll qc] 75)) #[.bool xb,iv xg] 81;have s1:(w.alloc (.cells #[iv next,.slice a n c,.slice qa ll qc] 75)).heap.size=w.heap.size+1:=by simp
  have hb2:=Aa (w.alloc (.cells #[iv next,.slice a n c,.slice qa ll qc] 75)) (.cells #[.bool xb,iv xg] 81);rw[s1] at b2;exact⟨(hb2.block _ b1.lt).trans b1,b2,(Aa _ _).trans (hb2.mono (by simp))⟩
 unfold wv cv;go_enter Tryz.func33,Tryz.ntmps33;go_upto_region 1 with fail
 rw[<- hW0];clear hW0;go_wp2_with fail
 refine (HR.o.1 W0 B0.o.2.2).mono ?_;rintro e w1 ⟨rfl,hb1⟩;obtain⟨W1,hW1⟩:=gn (w1.alloc (.cells #[iv 1,.string s,.string t] 97));have S1:U (Lq w W1 next a n c qa ll qc xb xg 1 s t w1.heap.size):=by rw[hW1];have hb2:=Aa w1 (.cells #[iv 1,.string s,.string t] 97);have hb:=hb1.trans (hb2.mono hb1.size);exact⟨(hb.block _ B0.o.1.lt).trans B0.o.1,(hb.block _ B0.o.2.1.lt).trans B0.o.2.1,Bx.new _ _ _,B0.o.2.2.trans (hb.mono B0.o.2.2.size)⟩
 clear hb1 B0;go_upto_region 2 with fail
 rw[<- hW1];clear hW1;generalize w1.heap.size=nb at S1 ⊢;go_wp2_with fail
 refine (HR.o.2 W1 S1.o.bel).mono ?_;rintro e w2 ⟨go,cpo,rfl,hkd,hb2⟩;have S2:=hid (S1.o.keep hb2);clear hkd hb2 S1 HR;have z0:=(S2.o.bel.cell (Ws _ _ HC.o)).trans HC.o;have z1:=S2.o.nd.cell 0;have y0:=S2.o.wd.cell 0;have y1:=S2.o.wd.cell 1;have y2:=S2.o.wd.cell 2;have y3:=S2.o.cx.cell 0;have y4:=S2.o.cx.cell 1;simp at z1 y0 y1 y2 y3 y4;go_wp2_with fail
 refine (HM.o w2 S2.o.bel).mono ?_;rintro e w3 ⟨ma,mc,rfl,hrq,hb3⟩;obtain⟨W3,hW3⟩:=gn (w3.alloc (.cells #[] 2));have S3:U (BW W3 ma M/\Bl w W3):=by rw[hW3];have hb4:=Aa w3 (.cells #[] 2);exact⟨hrq.below hb4,S2.o.bel.trans ((hb3.trans (hb4.mono hb3.size)).mono S2.o.bel.size)⟩
 clear hrq hb3 S2 z0 z1 y0 y1 y2 y3 y4;go_upto_region 8 with fail
 rw[<- hW3];clear hW3;generalize w3.heap.size=ob;go_wp2;go_loopw [14,15] (λo i wr=>∃j:Nat,j<=M.length/\i=iv (j:Int)/\(∃oa oc,o=.slice oa (BO (M.take j) []).length oc/\GQ wr oa (BO (M.take j) [])/\(BO (M.take j) []).length<=oc/\oc<=9223372036854775807)/\Bl W3 wr) (λ_ i _=>M.length-(intOf i).toNat)
 case atStart=>exact⟨0,Ww _,rfl,⟨_,_,rfl,Or.inl rfl,Wu _,by decide⟩,Wt _ _⟩
 case round=>
  obtain⟨j,hj,rfl,⟨oa,oc,rfl,hrd,hc1,hc2⟩,hbel⟩:=hrel;have hL6:(BO (M.take j) []).length<=600:=by have:=FP (M.take j) [];rw[WI] at this;simp only[List.length_nil] at this;omega
  have hN:(BO (M.take j) [])=BO (M.take j) []:=rfl;obtain⟨L,hLe⟩:=gn (BO (M.take j) []);have HL:=hid hLe;rw[<- hLe] at hrd hc1 hL6 ⊢;have HA:=hid (ai hrd (ai hc1 (ai hc2 hbel)));clear hrd hc1 hc2 hbel hN hLe;by_cases hlt:j<M.length
  .obtain⟨q,hqe⟩:=gn (M[j]);have HQE:=hid hqe;have hmb:∃mb,ma=some (ad mb 0):=by
    rcases S3.o.1 with h0|⟨b,e,_⟩;.omega
    .exact⟨b,e⟩
   obtain⟨mb,rfl⟩:=hmb;have HQC:U (∀W,Bl W3 W->W.cell? (ad mb (j*4))=some (iv q.s)/\W.cell? (ad mb (j*4+2))=some (iv q.o)):=λW hW=>by
    rcases S3.o.1.below hW with h0|⟨b,e,hc⟩;.omega
    .injection e with e;injection e with e;subst e;rw[hqe];exact⟨(hc j hlt).1,(hc j hlt).2.2.1⟩
   clear hqe;have i0:(0:Int)<=(j:Int):=by omega
   have i1:(j:Int)<(M.length:Int):=by omega
   go_upto_region 11 with fail
   refine Ac (S:=λW=>Bl wr W) 13 (by kernel_rfl) (Wt _ _).drew (λW hHeld=>?_);refine tx 0 rfl ?_;refine tx 1 rfl ?_;refine tx 2 rfl ?_;refine tx 3 rfl ?_;refine tx 4 rfl ?_;refine ty 5 rfl (λw' h=>by have x0:=(HQC.o w' (HA.o.2.2.2.trans (h.mono HA.o.2.2.2.size))).1;clear h;go_simp;rfl) ?_;refine tx 7 rfl ?_;refine tx 8 rfl ?_;refine tx 9 rfl ?_;refine tx 10 rfl ?_;refine ty 11 rfl (λw' h=>by have x0:=(HQC.o w' (HA.o.2.2.2.trans (h.mono HA.o.2.2.2.size))).2;clear h;go_simp;rfl) ?_;refine AB 6 rfl (λK hK=>?_);refine AF rfl 75 50 55 _ rfl (.slice oa L.length oc) (iv q.s) rfl rfl (λ_ _=>rfl) ?_;refine (CP oa oc L q.s W (HA.o.1.below hHeld) (by omega) HA.o.2.1 HA.o.2.2.1).mono ?_;rintro e w5 ⟨o5,c5,rfl,hr5,hd5,he5,hbm⟩;have h5:=hHeld.trans (hbm.mono hHeld.size);refine⟨_,rfl,hK.out _ _ (λ_=>h5) (λhG=>?_)⟩;clear hK K hG hbm hHeld;simp only[As];have hl5:(AH L q.s).length<=601:=by have:=@Qf L q.s;omega
   refine AB 12 rfl (λK hK=>?_);refine AF rfl 75 56 61 _ rfl (.slice o5 (AH L q.s).length c5) (iv q.o) rfl rfl (λ_ _=>rfl) ?_;refine (CP o5 c5 (AH L q.s) q.o w5 hr5 (by omega) hd5 he5).mono ?_;rintro e w6 ⟨o6,c6,rfl,hr6,hd6,he6,hbm⟩;have h6:=h5.trans (hbm.mono h5.size);refine⟨_,rfl,hK.out _ _ (λ_=>h6) (λhG=>?_)⟩;clear hK K hG hbm h5 hr5 hd5 he5;simp only[As];refine AB 13 rfl (λK hK=>?_);go_simp;refine hK.out _ _ (λ_=>h6) (λhG=>?_);clear hK K hG;refine Ae (by kernel_rfl) ?_ _;have HT:U (AH (AH L q.s) q.o=BO (M.take (j+1)) []):=by show AH (AH L q.s) q.o=BO (M.take (j+1)) [];rw[WK hlt,Gv,<- HL.o,<- HQE.o]
   have S6:=hid (ai hr6 (ai hd6 (ai he6 (HA.o.2.2.2.trans (h6.mono HA.o.2.2.2.size)))));clear hr6 hd6 he6 h6;generalize AH (AH L q.s) q.o=L6 at HT S6 ⊢;go_wp2;go_roundw;case rel=>
    refine⟨j+1,by omega,by go_num,⟨o6,c6,?_,?_,?_,S6.o.2.2.1⟩,S6.o.2.2.2⟩;.rw[<- HT.o]
    .rw[<- HT.o];exact S6.o.1
    .rw[<- HT.o];exact S6.o.2.1
   case measure=>simp[intOf];omega
  .obtain rfl:j=M.length:=by omega
   have HL2:U (L=BO M []):=by show L=BO M [];rw[HL.o,WG]
   go_wp2;refine bodyPost_ret (v:=.tuple #[.slice oa L.length oc,iv (M.length:Int)]) (by simp[results,Tryz.results33,go_sem]) rfl ?_;refine⟨oa,oc,?_,?_,?_,HA.o.2.2.1,S3.o.2.trans (HA.o.2.2.2.mono S3.o.2.size)⟩;.rw[<- HL2.o]
   .rw[<- HL2.o];exact HA.o.1
   .rw[<- HL2.o];exact HA.o.2.1
theorem Lq.cells {w W:World} {next:Int} {a:Option Addr} {n c:Nat} {qa:Option Addr} {ll qc:Nat} {xb:Bool} {xg:Int} {k:Int} {s t:ByteArray} {nb:Nat} (h:Lq w W next a n c qa ll qc xb xg k s t nb) :
  (W.cell? (ad w.heap.size 0)=some (iv next)/\W.cell? (ad w.heap.size 1)=some (.slice a n c)/\W.cell? (ad w.heap.size 2)=some (.slice qa ll qc))/\(W.cell? (ad (w.heap.size+1) 0)=some (.bool xb)/\W.cell? (ad (w.heap.size+1) 1)=some (iv xg))/\W.cell? (ad nb 0)=some (iv k)/\W.cell? (ad nb 1)=some (.string s)/\W.cell? (ad nb 2)=some (.string t):=
 ⟨⟨h.wd.cell 0,h.wd.cell 1,h.wd.cell 2⟩,⟨h.cx.cell 0,h.cx.cell 1⟩,h.nd.cell 0,h.nd.cell 1,h.nd.cell 2⟩
theorem RZ (w:World) (x:Int):GQ (w.alloc (.cells #[iv x] 2)) (some (ad w.heap.size 0)) [x]:=by
 refine Or.inr ⟨_,_,rfl,λi hi=>?_⟩;obtain rfl:i=0:=by simp at hi;omega
 exact (Bx.new w #[iv x] 2).cell 0
theorem UT (na:Option Addr) (nl nc:Nat) (s t:ByteArray) (pb po pc:Nat) (ch:Int) (next:Int) (a:Option Addr) (n c:Nat) (qa:Option Addr) (ll qc:Nat) (LL:List Qd) (id:ByteArray->Int) (x:Cx) (w:World) (hR:PK w (.slice na nl nc) 2 s t []) (hch:w.cell? (ad pb po)=some (iv ch)) (hT:Jb w next a n c id) (hq:BW w qa LL) (hll:ll=LL.length) (hl3:ll<=300) :
  WS 33 #[.slice na nl nc,.slice (some (ad pb po)) 1 pc,wv next a n c qa ll qc,cv x] w (Gq w (if 0<id s/\0<(Cl LL x ⟨id s,0,0,0⟩).length+(Cl LL x ⟨0,0,id s,0⟩).length then ([id s],0) else ([],0))):=by
 obtain⟨xb,xg⟩:=x;have HR:=hid hR;have HC:=hid hch;have HTI:=hid hT;obtain⟨is,his⟩:=gn (id s);have HI:=hid his;rw[<- his];obtain⟨M1,hM1⟩:=gn (Cl LL ⟨xb,xg⟩ ⟨is,0,0,0⟩);obtain⟨M2,hM2⟩:=gn (Cl LL ⟨xb,xg⟩ ⟨0,0,is,0⟩);have hm1:M1.length<=300:=by have:=EX LL ⟨xb,xg⟩ ⟨is,0,0,0⟩;rw[<- hM1] at this;omega
 have hm2:M2.length<=300:=by have:=EX LL ⟨xb,xg⟩ ⟨0,0,is,0⟩;rw[<- hM2] at this;omega
 have HM1:U (∀W,Bl w W->WS 74 #[.agg #[iv next,.slice a n c,.slice qa ll qc],.agg #[.bool xb,iv xg],.agg #[iv is,iv 0,iv 0,iv 0]] W (Fa W M1)):=λW hW=>by rw[hM1];exact CK next a n c qa ll qc LL ⟨xb,xg⟩ ⟨is,0,0,0⟩ W (hq.below hW) hll hl3
 have HM2:U (∀W,Bl w W->WS 74 #[.agg #[iv next,.slice a n c,.slice qa ll qc],.agg #[.bool xb,iv xg],.agg #[iv 0,iv 0,iv is,iv 0]] W (Fa W M2)):=λW hW=>by rw[hM2];exact CK next a n c qa ll qc LL ⟨xb,xg⟩ ⟨0,0,is,0⟩ W (hq.below hW) hll hl3
 rw[<- hM1,<- hM2];clear hM1 hM2 hR hch hq hll hl3 his hT;obtain⟨RES,hRES⟩:=gn ((if 0<is/\0<M1.length+M2.length then ([is],0) else ([],0)));have HO:=hid hRES;rw[<- hRES];clear hRES;obtain⟨W0,hW0⟩:=gn ((w.alloc (.cells #[iv next,.slice a n c,.slice qa ll qc] 75)).alloc (.cells #[.bool xb,iv xg] 81));have B0:U (Bx W0 w.heap.size 75 #[iv next,.slice a n c,.slice qa ll qc]/\Bx W0 (w.heap.size+1) 81 #[.bool xb,iv xg]/\Bl w W0):=by
  rw[hW0];have b1:=Bx.new w #[iv next,.slice a n c,.slice qa ll qc] 75;have b2:=Bx.new (w.alloc (.cells #[iv next,.slice a n c,.slice qa ll qc] 75)) #[.bool xb,iv xg] 81;have s1:(w.alloc (.cells #[iv next,.slice a n c,.slice qa ll qc] 75)).heap.size=w.heap.size+1:=by simp
  have hb2:=Aa (w.alloc (.cells #[iv next,.slice a n c,.slice qa ll qc] 75)) (.cells #[.bool xb,iv xg] 81);rw[s1] at b2;exact⟨(hb2.block _ b1.lt).trans b1,b2,(Aa _ _).trans (hb2.mono (by simp))⟩
 unfold wv cv;go_enter Tryz.func33,Tryz.ntmps33;go_upto_region 1 with fail
 rw[<- hW0];clear hW0;go_wp2_with fail
 refine (HR.o.1 W0 B0.o.2.2).mono ?_;rintro e w1 ⟨rfl,hb1⟩;obtain⟨W1,hW1⟩:=gn (w1.alloc (.cells #[iv 2,.string s,.string t] 97));have S1:U (Lq w W1 next a n c qa ll qc xb xg 2 s t w1.heap.size):=by rw[hW1];have hb2:=Aa w1 (.cells #[iv 2,.string s,.string t] 97);have hb:=hb1.trans (hb2.mono hb1.size);exact⟨(hb.block _ B0.o.1.lt).trans B0.o.1,(hb.block _ B0.o.2.1.lt).trans B0.o.2.1,Bx.new _ _ _,B0.o.2.2.trans (hb.mono B0.o.2.2.size)⟩
 clear hb1 B0;go_upto_region 2 with fail
 rw[<- hW1];clear hW1;generalize w1.heap.size=nb at S1 ⊢;go_wp2_with fail
 refine (HR.o.2 W1 S1.o.bel).mono ?_;rintro e w2 ⟨go,cpo,rfl,hkd,hb2⟩;have S2:=hid (S1.o.keep hb2);clear hkd hb2 S1 HR;have z0:=(S2.o.bel.cell (Ws _ _ HC.o)).trans HC.o;obtain⟨⟨y0,y1,y2⟩,⟨y3,y4⟩,y5,y6,y7⟩:=S2.o.cells;go_wp2_with fail
 refine (HTI.o w2 s S2.o.bel).mono ?_;rintro e w3 ⟨rfl,hb3⟩;rw[<- HI.o];have S3:=hid (S2.o.keep hb3);clear hb3 S2 z0 y0 y1 y2 y3 y4 y5 y6 y7 HTI;by_cases hp:0<is
 .have hsum:IntKind.i64.wrap ((M1.length:Int)+(M2.length:Int))=((M1.length+M2.length:Nat):Int):=by rw[Wz];omega
  obtain⟨sm,hsm⟩:=gn (M1.length+M2.length);rw[<- hsm] at hsum;have HSM:=hid hsm;clear hsm;go_upto_region 15 with fail
  refine Ac (S:=λW=>Bl w3 W) 17 (by kernel_rfl) (Wt _ _).drew (λW hHeld=>?_);refine tx 0 rfl ?_;refine tx 1 rfl (v:=.bool true) ?_;refine tx 2 rfl (v:=.bool true) ?_;refine ty 3 rfl (λw' h=>by obtain⟨⟨y0,y1,y2⟩,-⟩:=(S3.o.keep h).cells;clear h;go_simp;rfl) ?_;refine ty 4 rfl (λw' h=>by obtain⟨-,⟨y3,y4⟩,-⟩:=(S3.o.keep h).cells;clear h;go_simp;rfl) ?_;refine tx 5 rfl ?_;refine tx 6 rfl ?_;refine ty 9 rfl (λw' h=>by obtain⟨⟨y0,y1,y2⟩,-⟩:=(S3.o.keep h).cells;clear h;go_simp;rfl) ?_;refine ty 10 rfl (λw' h=>by obtain⟨-,⟨y3,y4⟩,-⟩:=(S3.o.keep h).cells;clear h;go_simp;rfl) ?_;refine tx 11 rfl ?_;refine tx 12 rfl ?_;refine AB 7 rfl (λK hK=>?_);refine A7 rfl 74 76 77 79 _ rfl (.agg #[iv next,.slice a n c,.slice qa ll qc]) (.agg #[.bool xb,iv xg]) (.agg #[iv is,iv 0,iv 0,iv 0]) rfl rfl rfl (λ_ _=>rfl) ?_;refine (HM1.o W (S3.o.keep hHeld).bel).mono ?_;rintro e w5 ⟨o5,c5,rfl,hr5,hbm⟩;have h5:=hHeld.trans (hbm.mono hHeld.size);refine⟨_,rfl,hK.out _ _ (λ_=>h5) (λhG=>?_)⟩;clear hK K hG hbm hHeld hr5;simp only[As];refine tx 8 rfl ?_;refine AB 13 rfl (λK hK=>?_);refine A7 rfl 74 82 83 85 _ rfl (.agg #[iv next,.slice a n c,.slice qa ll qc]) (.agg #[.bool xb,iv xg]) (.agg #[iv 0,iv 0,iv is,iv 0]) rfl rfl rfl (λ_ _=>rfl) ?_;refine (HM2.o w5 (S3.o.keep h5).bel).mono ?_;rintro e w6 ⟨o6,c6,rfl,hr6,hbm⟩;have h6:=h5.trans (hbm.mono h5.size);refine⟨_,rfl,hK.out _ _ (λ_=>h6) (λhG=>?_)⟩;clear hK K hG hbm h5 hr6;simp only[As];refine tx 14 rfl ?_;refine tx 15 rfl ?_;by_cases hs:0<sm
  .have hs1:(0:Int)<(sm:Int):=by omega
   refine tx 16 rfl (v:=.bool true) ?_;refine AB 17 rfl (λK hK=>?_);go_simp;refine hK.out _ _ (λ_=>h6) (λhG=>?_);clear hK K hG;refine Ae (by kernel_rfl) ?_ _;have S6:=hid ((S3.o.keep h6).bel);clear h6;go_wp2;refine bodyPost_ret (v:=.tuple #[.slice (some (ad w6.heap.size 0)) 1 1,iv 0]) (by simp[results,Tryz.results33,go_sem]) rfl ?_;rw[HO.o,if_pos ⟨hp,by have:=HSM.o;omega⟩];exact⟨_,_,rfl,RZ _ _,Wu _,by decide,S6.o.trans ((Aa _ _).mono S6.o.size)⟩
  .obtain rfl:sm=0:=by omega
   refine tx 16 rfl (v:=.bool false) ?_;refine AB 17 rfl (λK hK=>?_);go_simp;refine hK.out _ _ (λ_=>h6) (λhG=>?_);clear hK K hG;refine Ae (by kernel_rfl) ?_ _;have S6:=hid ((S3.o.keep h6).bel);clear h6;go_wp2;refine bodyPost_ret (v:=.tuple #[.slice (some (ad w6.heap.size 0)) 0 0,iv 0]) (by simp[results,Tryz.results33,go_sem]) rfl ?_;rw[HO.o,if_neg (λh=>by have:=HSM.o;omega)];exact⟨_,_,rfl,Or.inl rfl,Wu _,by decide,S6.o.trans ((Aa _ _).mono S6.o.size)⟩
 .go_upto_region 15 with fail
  refine Ac (S:=λW=>Bl w3 W) 17 (by kernel_rfl) (Wt _ _).drew (λW hHeld=>?_);refine tx 0 rfl ?_;refine tx 1 rfl (v:=.bool false) ?_;refine tx 2 rfl (v:=.bool false) ?_;refine sz 3 rfl ?_;simp only[As];refine sz 4 rfl ?_;simp only[As];refine sz 5 rfl ?_;simp only[As];refine sz 6 rfl ?_;simp only[As];refine sz 7 rfl ?_;simp only[As];refine sz 8 rfl ?_;simp only[As];refine sz 9 rfl ?_;simp only[As];refine sz 10 rfl ?_;simp only[As];refine sz 11 rfl ?_;simp only[As];refine sz 12 rfl ?_;simp only[As];refine sz 13 rfl ?_;simp only[As];refine sz 14 rfl ?_;simp only[As];refine sz 15 rfl ?_;simp only[As];refine sz 16 rfl ?_;simp only[As];have h6:=hHeld;clear hHeld;refine AB 17 rfl (λK hK=>?_);go_simp;refine hK.out _ _ (λ_=>h6) (λhG=>?_);clear hK K hG;refine Ae (by kernel_rfl) ?_ _;have S6:=hid ((S3.o.keep h6).bel);clear h6;go_wp2;refine bodyPost_ret (v:=.tuple #[.slice (some (ad W.heap.size 0)) 0 0,iv 0]) (by simp[results,Tryz.results33,go_sem]) rfl ?_;rw[HO.o,if_neg (λh=>by omega)];exact⟨_,_,rfl,Or.inl rfl,Wu _,by decide,S6.o.trans ((Aa _ _).mono S6.o.size)⟩
theorem Dy {ops:Array Oper} {o:Oper} {a:Act} {w:World} {K:Act->World->Prop} {Q:Exit->Act->World->Prop} {E:Prop} (hw:Region.wanted o (yielded ops a.tmps)=true) (k:Nat) (i j l m:Nat) (tys:Array TypeId)
  (ho:o.op=.call { callee:=.value (.func k),args:=#[.tmp i,.tmp j,.tmp l,.tmp m],argTypes:=tys }) (u v x y:Value) (hu:a.tmps[i]?.getD undef=u) (hv:a.tmps[j]?.getD undef=v) (hx:a.tmps[l]?.getD undef=x) (hy:a.tmps[m]?.getD undef=y) (heg:∀args w,(callFunc k args).run Tryz.prog w=.ok (.enter k args) w)
  (h:WS k #[u,v,x,y] w λe w'=>∃r,e=.returned r/\K (a.put o.dst r) w') :
  if Region.wanted o (yielded ops a.tmps)=true then Oper.wp Tryz.prog o a w K Q else E:=by rw[if_pos hw];unfold Oper.wp;simp[execOp,ho,resolve,invoke,hu,hv,hx,hy,go_sem,heg];refine h.mono ?_;rintro e w' ⟨u,rfl,hk⟩;exact hk
theorem Ol (b o n c hi:Nat) (h1:hi<=n) (h2:n<=c) (h3:0<c) (w:World):(Instr.sliceAt 31 (.slice (some (ad b o)) n c) none (some (iv (hi:Int))) none).run Tryz.prog w=.ok (.slice (some (ad b o)) hi c) w:=by
 have hc:hi<=c:=by omega
 have hne:¬ c=0:=by omega
 have e:(Addr.add (ad b o) 0)=(ad b o):=by unfold Addr.add;simp
 simp[Instr.sliceAt,Instr.slice,go_sem,hc,hne,e]
def G4 (w:World) (v p wl:Value) (x:Cx) (r:List Int × Nat):Prop:=∀W,Bl w W->WS 33 #[v,p,wl,cv x] W (Gq W r)
theorem UW (na:Option Addr) (nl nc:Nat) (s t:ByteArray) (a0:Option Addr) (l0 k0:Nat) (pb po pl pc:Nat) (ch:Int) (next:Int) (a:Option Addr) (n c:Nat) (qa:Option Addr) (ll qc:Nat) (id:ByteArray->Int) (x:Cx) (r:List Int × Nat) (w:World) (hR:PK w (.slice na nl nc) 9 s t [.slice a0 l0 k0]) (hpl:pl=l0+1) (hpc:pl<=pc) (hl:pl<=1000) (hch:w.cell? (ad pb (po+l0))=some (iv ch)) (hT:Jb w next a n c id) (hK:G4 w (.slice a0 l0 k0) (.slice (some (ad pb po)) l0 pc) (wv next a n c qa ll qc) (DU id 9 s x) r) :
  WS 33 #[.slice na nl nc,.slice (some (ad pb po)) pl pc,wv next a n c qa ll qc,cv x] w (Gq w r):=by
 obtain⟨xb,xg⟩:=x;have HR:=hid hR;have HC:=hid hch;have HB:=hid (λW hW=>LE next a n c qa ll qc id ⟨xb,xg⟩ 9 s t W (hT.below hW));have HK:=hid hK;have hw1:IntKind.i64.wrap ((pl:Int)-1)=(l0:Int):=by rw[Wz];omega
 have hcu:=λW=>Ol pb po pl pc l0 (by omega) hpc (by omega) W;have i0:(0:Int)<=(l0:Int):=by omega
 have i1:(l0:Int)<(pl:Int):=by omega
 generalize DU id 9 s ⟨xb,xg⟩=X2 at HB HK;clear hR hch hT hK hpl;obtain⟨W0,hW0⟩:=gn ((w.alloc (.cells #[iv next,.slice a n c,.slice qa ll qc] 75)).alloc (.cells #[.bool xb,iv xg] 81));have B0:U (Bx W0 w.heap.size 75 #[iv next,.slice a n c,.slice qa ll qc]/\Bx W0 (w.heap.size+1) 81 #[.bool xb,iv xg]/\Bl w W0):=by
  rw[hW0];have b1:=Bx.new w #[iv next,.slice a n c,.slice qa ll qc] 75;have b2:=Bx.new (w.alloc (.cells #[iv next,.slice a n c,.slice qa ll qc] 75)) #[.bool xb,iv xg] 81;have s1:(w.alloc (.cells #[iv next,.slice a n c,.slice qa ll qc] 75)).heap.size=w.heap.size+1:=by simp
  have hb2:=Aa (w.alloc (.cells #[iv next,.slice a n c,.slice qa ll qc] 75)) (.cells #[.bool xb,iv xg] 81);rw[s1] at b2;exact⟨(hb2.block _ b1.lt).trans b1,b2,(Aa _ _).trans (hb2.mono (by simp))⟩
 unfold wv cv;go_enter Tryz.func33,Tryz.ntmps33;go_upto_region 1 with fail
 rw[<- hW0];clear hW0;go_wp2_with fail
 refine (HR.o.1 W0 B0.o.2.2).mono ?_;rintro e w1 ⟨rfl,hb1⟩;obtain⟨W1,hW1⟩:=gn (w1.alloc (.cells #[iv 9,.string s,.string t] 97));have S1:U (Lq w W1 next a n c qa ll qc xb xg 9 s t w1.heap.size):=by rw[hW1];have hb2:=Aa w1 (.cells #[iv 9,.string s,.string t] 97);have hb:=hb1.trans (hb2.mono hb1.size);exact⟨(hb.block _ B0.o.1.lt).trans B0.o.1,(hb.block _ B0.o.2.1.lt).trans B0.o.2.1,Bx.new _ _ _,B0.o.2.2.trans (hb.mono B0.o.2.2.size)⟩
 clear hb1 B0;go_upto_region 2 with fail
 rw[<- hW1];clear hW1;generalize w1.heap.size=nb at S1 ⊢;go_wp2_with fail
 refine (HR.o.2 W1 S1.o.bel).mono ?_;rintro e w2 ⟨go,cpo,rfl,hkd,hb2⟩;have S2:=hid (S1.o.keep hb2);have HKD:=hid (hkd 0 _ rfl);clear hkd hb2 S1 HR;have z0:=(S2.o.bel.cell (Ws _ _ HC.o)).trans HC.o;obtain⟨-,-,y5,y6,y7⟩:=S2.o.cells;try simp only[WN,List.length_nil,WM,Nat.reduceAdd]
 go_upto_region 23 with fail
 clear z0 y5 y6 y7;refine Ac (S:=λW=>Bl w2 W) 17 (by kernel_rfl) (Wt _ _).drew (λW hHeld=>?_);refine tx 0 rfl ?_;refine tx 1 rfl ?_;refine ty 2 rfl (λw' h=>by have q:=(h.cell (p:=(ad go 0)) (Ws _ _ HKD.o)).trans HKD.o;clear h;go_simp;rfl) ?_;refine tx 3 rfl ?_;refine tx 4 rfl ?_;refine tx 5 rfl ?_;refine tx 6 rfl ?_;refine tx 7 rfl ?_;refine ty 8 rfl (λw' h=>by obtain⟨⟨y0,y1,y2⟩,-⟩:=(S2.o.keep h).cells;clear h;go_simp;rfl) ?_;refine ty 9 rfl (λw' h=>by obtain⟨-,⟨y3,y4⟩,-⟩:=(S2.o.keep h).cells;clear h;go_simp;rfl) ?_;refine ty 10 rfl (λw' h=>by obtain⟨⟨y0,y1,y2⟩,-⟩:=(S2.o.keep h).cells;clear h;go_simp;rfl) ?_;refine ty 11 rfl (λw' h=>by obtain⟨-,-,y5,y6,y7⟩:=(S2.o.keep h).cells;clear h;go_simp;rfl) ?_;refine AB 12 rfl (λK hK=>?_);refine A7 rfl 78 118 119 120 _ rfl (.agg #[.bool xb,iv xg]) (.agg #[iv next,.slice a n c,.slice qa ll qc]) (.agg #[iv 9,.string s,.string t]) rfl rfl rfl (λ_ _=>rfl) ?_;refine (HB.o W (S2.o.keep hHeld).bel).mono ?_;rintro e w5 ⟨rfl,hbm⟩;have h5:=hHeld.trans (hbm.mono hHeld.size);refine⟨_,rfl,hK.out _ _ (λ_=>h5) (λhG=>?_)⟩;clear hK K hG hbm hHeld;simp only[As];refine AB 13 rfl (λK hK=>?_);refine Dy rfl 33 111 116 117 121 _ rfl (.slice a0 l0 k0) (.slice (some (ad pb po)) l0 pc) (.agg #[iv next,.slice a n c,.slice qa ll qc]) (cv X2) rfl rfl rfl rfl (λ_ _=>rfl) ?_;refine (HK.o w5 (S2.o.keep h5).bel).mono ?_;rintro e w6 ⟨o6,c6,rfl,hr6,hd6,he6,hbm⟩;have h6:=h5.trans (hbm.mono h5.size);refine⟨_,rfl,hK.out _ _ (λ_=>h6) (λhG=>?_)⟩;clear hK K hG hbm h5;simp only[As];refine tx 14 rfl ?_;refine tx 15 rfl ?_;refine AB 16 rfl (λK hK=>?_);go_simp;refine hK.out _ _ (λ_=>h6) (λhG=>?_);clear hK K hG;try simp only[As]
 refine AB 17 rfl (λK hK=>?_);go_simp;refine hK.out _ _ (λ_=>h6) (λhG=>?_);clear hK K hG;refine Ae (by kernel_rfl) ?_ _;have S6:=hid (ai hr6 (ai hd6 (ai he6 ((S2.o.keep h6).bel))));clear h6 hr6 hd6 he6;go_wp2;refine bodyPost_ret (v:=.tuple #[.slice o6 r.1.length c6,iv (r.2:Int)]) (by simp[results,Tryz.results33,go_sem]) rfl ?_;exact⟨o6,c6,rfl,S6.o⟩
def V6 (w:World) (k:Int) (v0 v1 p wl:Value) (x:Cx) (r:List Int × Nat):Prop:=∀W go cpo,Bl w W->W.cell? (ad go 0)=some v0->W.cell? (ad go 1)=some v1->WS 77 #[iv k,.slice (some (ad go 0)) 2 cpo,p,wl,cv x] W (Gq W r)
theorem Oo (k:Int) (hk:k=6\/k=7\/k=8) (na:Option Addr) (nl nc:Nat) (s t:ByteArray) (v0 v1:Value) (pb po pl pc:Nat) (ch:Int) (next:Int) (a:Option Addr) (n c:Nat) (qa:Option Addr) (ll qc:Nat) (x:Cx) (r:List Int × Nat) (w:World) (hR:PK w (.slice na nl nc) k s t [v0,v1]) (q1:Nat) (hpl:pl=q1+1) (hl:pl<=1000) (hch:w.cell? (ad pb (po+q1))=some (iv ch)) (hK:V6 w k v0 v1 (.slice (some (ad pb po)) pl pc) (wv next a n c qa ll qc) x r) :
  WS 33 #[.slice na nl nc,.slice (some (ad pb po)) pl pc,wv next a n c qa ll qc,cv x] w (Gq w r):=by
 obtain⟨xb,xg⟩:=x;have HR:=hid hR;have HC:=hid hch;have HK:=hid hK;have hw1:IntKind.i64.wrap ((pl:Int)-1)=(q1:Int):=by rw[Wz];omega
 have i0:(0:Int)<=(q1:Int):=by omega
 have i1:(q1:Int)<(pl:Int):=by omega
 clear hR hch hK hpl;obtain⟨W0,hW0⟩:=gn ((w.alloc (.cells #[iv next,.slice a n c,.slice qa ll qc] 75)).alloc (.cells #[.bool xb,iv xg] 81));have B0:U (Bx W0 w.heap.size 75 #[iv next,.slice a n c,.slice qa ll qc]/\Bx W0 (w.heap.size+1) 81 #[.bool xb,iv xg]/\Bl w W0):=by
  rw[hW0];have b1:=Bx.new w #[iv next,.slice a n c,.slice qa ll qc] 75;have b2:=Bx.new (w.alloc (.cells #[iv next,.slice a n c,.slice qa ll qc] 75)) #[.bool xb,iv xg] 81;have s1:(w.alloc (.cells #[iv next,.slice a n c,.slice qa ll qc] 75)).heap.size=w.heap.size+1:=by simp
  have hb2:=Aa (w.alloc (.cells #[iv next,.slice a n c,.slice qa ll qc] 75)) (.cells #[.bool xb,iv xg] 81);rw[s1] at b2;exact⟨(hb2.block _ b1.lt).trans b1,b2,(Aa _ _).trans (hb2.mono (by simp))⟩
 unfold wv cv;go_enter Tryz.func33,Tryz.ntmps33;go_upto_region 1 with fail
 rw[<- hW0];clear hW0;go_wp2_with fail
 refine (HR.o.1 W0 B0.o.2.2).mono ?_;rintro e w1 ⟨rfl,hb1⟩;obtain⟨W1,hW1⟩:=gn (w1.alloc (.cells #[iv k,.string s,.string t] 97));have S1:U (Lq w W1 next a n c qa ll qc xb xg k s t w1.heap.size):=by rw[hW1];have hb2:=Aa w1 (.cells #[iv k,.string s,.string t] 97);have hb:=hb1.trans (hb2.mono hb1.size);exact⟨(hb.block _ B0.o.1.lt).trans B0.o.1,(hb.block _ B0.o.2.1.lt).trans B0.o.2.1,Bx.new _ _ _,B0.o.2.2.trans (hb.mono B0.o.2.2.size)⟩
 clear hb1 B0;go_upto_region 2 with fail
 rw[<- hW1];clear hW1;generalize w1.heap.size=nb at S1 ⊢;go_wp2_with fail
 refine (HR.o.2 W1 S1.o.bel).mono ?_;rintro e w2 ⟨go,cpo,rfl,hkd,hb2⟩;have S2:=hid (S1.o.keep hb2);rcases hk with rfl|rfl|rfl;all_goals
  have HKD:=hid (ai (hkd 0 _ rfl) (hkd 1 _ rfl))
  clear hkd hb2 S1 HR
  have z0:=(S2.o.bel.cell (Ws _ _ HC.o)).trans HC.o
  obtain⟨⟨y0,y1,y2⟩,⟨y3,y4⟩,y5,y6,y7⟩:=S2.o.cells
  try simp only[WN,List.length_nil,WM,Nat.reduceAdd]
  go_wp2_with fail
  refine (HK.o w2 go cpo S2.o.bel HKD.o.1 HKD.o.2).mono ?_
  rintro e w6 ⟨o6,c6,rfl,hr6,hd6,he6,hbm⟩
  have S6:=hid (ai hr6 (ai hd6 (ai he6 ((S2.o.keep hbm).bel))))
  clear hbm hr6 hd6 he6 z0 y0 y1 y2 y3 y4 y5 y6 y7
  go_wp2
  refine bodyPost_ret (v:=.tuple #[.slice o6 r.1.length c6,iv (r.2:Int)]) (by simp[results,Tryz.results33,go_sem]) rfl ?_
  exact⟨o6,c6,rfl,S6.o⟩
variable {W w:World}{a qa:Option Addr}{c ll n qc sb:Nat}{p0 p1 v0 v1:Value}{xb:Bool}{xg:Int}
structure UP (w W:World) (next:Int) (a:Option Addr) (n c:Nat) (qa:Option Addr) (ll qc:Nat) (xb:Bool) (xg:Int) (go:Nat) (v0 v1:Value) (sb:Nat) (p0 p1:Value):Prop where
 wd:Bx W w.heap.size 75 #[iv next,.slice a n c,.slice qa ll qc]
 cx:Bx W (w.heap.size+1) 81 #[.bool xb,iv xg]
 k0:W.cell? (ad go 0)=some v0
 k1:W.cell? (ad go 1)=some v1
 s0:W.cell? (ad sb 0)=some p0
 s1:W.cell? (ad sb 1)=some p1
 bel:Bl w W
theorem UP.keep {W':World} {next:Int} {go:Nat} (h:UP w W next a n c qa ll qc xb xg go v0 v1 sb p0 p1) (hb:Bl W W'):UP w W' next a n c qa ll qc xb xg go v0 v1 sb p0 p1:=
 ⟨(hb.block _ h.wd.lt).trans h.wd,(hb.block _ h.cx.lt).trans h.cx,(hb.cell (Ws _ _ h.k0)).trans h.k0,(hb.cell (Ws _ _ h.k1)).trans h.k1,(hb.cell (Ws _ _ h.s0)).trans h.s0,(hb.cell (Ws _ _ h.s1)).trans h.s1,h.bel.trans (hb.mono h.bel.size)⟩
theorem UP.cells {next:Int} {go:Nat} (h:UP w W next a n c qa ll qc xb xg go v0 v1 sb p0 p1) :
  (W.cell? (ad w.heap.size 0)=some (iv next)/\W.cell? (ad w.heap.size 1)=some (.slice a n c)/\W.cell? (ad w.heap.size 2)=some (.slice qa ll qc))/\(W.cell? (ad (w.heap.size+1) 0)=some (.bool xb)/\W.cell? (ad (w.heap.size+1) 1)=some (iv xg)):=
 ⟨⟨h.wd.cell 0,h.wd.cell 1,h.wd.cell 2⟩,⟨h.cx.cell 0,h.cx.cell 1⟩⟩
end Go.Proofs.YtacpbofiipdodaaGreat
