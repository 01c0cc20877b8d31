import Derived.Test.YtacpbofiipdodaaGreatNv39
import Derived.Test.YtacpbofiipdodaaGreatNv42
set_option linter.unusedVariables false
set_option linter.unusedSimpArgs false
set_option maxRecDepth 100000
set_option maxHeartbeats 90000000
namespace Go.Proofs.YtacpbofiipdodaaGreat
open Go Go.Deep Go.RowKit
theorem Uk (pa:Option Addr) (n pc:Nat) (I:Nat->Int) (X R:Nat->ByteArray) (next:Int) (da:Option Addr) (dn dc:Nat) (Id:Nat->Int) (Xd:Nat->ByteArray) (Rf:Nat->Int) (xa:Option Addr) (xn xc:Nat) (M:Nat->Nat) (T:Nat->Nat->Tn) (la:Option Addr) (ln lc:Nat) (Ch:Nat->Int) (w:World)
  (hP:DP w pa n I X R) (hn:n<=1048576) (hpc:n<=pc) (hpm:pc<=9223372036854775807) (hD:E0 w da dn Id Xd Rf) (hdn:dn<=1048576) (hX:Co w xa xn M T) (hxn:xn<=1048576) (hxf:CU xn M T) (hL:Rd .i64 w la ln Ch) (hln:ln<=1048576) (hch:∀i,i<ln->-9223372036854775808<=Ch i/\Ch i<=9223372036854775807) :
  WS 12 #[.agg #[.slice pa n pc],.agg #[iv next,.slice da dn dc],.agg #[.slice xa xn xc],.slice la ln lc] w λe w'=>∃err rds P,Dr n I X R next dn Id Xd Rf xn M T ln Ch err rds P/\FX w err rds P e w':=by
 have HRd:U (∀W,Bl w W->WS 39 #[.agg #[.slice pa n pc]] W (Lj (CtxC n I X) W n I X R)):=λW hW=>Ns pa n pc I X R W (hP.below hW) hn hpc hpm;have HRw:U (∀W,Bl w W->WS 40 #[.agg #[iv next,.slice da dn dc],.agg #[.slice xa xn xc]] W (Q7 W next dn Id Xd Rf xn M T)):=λW hW=>IT next da dn dc Id Xd Rf xa xn xc M T W (hD.below hW) hdn (hX.below hW) hxn hxf;have HL:U (Rd .i64 w la ln Ch/\∀i,i<ln->-9223372036854775808<=Ch i/\Ch i<=9223372036854775807):=⟨hL,hch⟩;clear hP hD hX hxf hL hch;obtain⟨W0,hW0⟩:∃W0,W0=(((w.alloc (.cells #[.slice pa n pc] 41)).alloc (.cells #[iv next,.slice da dn dc] 45)).alloc (.cells #[.slice xa xn xc] 49)).alloc (.cells #[iv 0,.slice none 0 0,iv 0] 37):=⟨_,rfl⟩;have S0:U (Lm w W0 pa n pc next da dn dc xa xn xc/\G6 W0 (w.heap.size+3)):=by rw[hW0];have b2:=Bx.new (w.alloc (.cells #[.slice pa n pc] 41)) #[iv next,.slice da dn dc] 45;have b3:=Bx.new ((w.alloc (.cells #[.slice pa n pc] 41)).alloc (.cells #[iv next,.slice da dn dc] 45)) #[.slice xa xn xc] 49;have b4:=Bx.new (((w.alloc (.cells #[.slice pa n pc] 41)).alloc (.cells #[iv next,.slice da dn dc] 45)).alloc (.cells #[.slice xa xn xc] 49)) #[iv 0,.slice none 0 0,iv 0] 37;simp only[WJ] at b2 b3 b4;exact⟨⟨(((Bx.new w #[.slice pa n pc] 41).alloc _).alloc _).alloc _,(b2.alloc _).alloc _,b3.alloc _,(((Aa _ _).alloc (by simp) _).alloc (by simp;omega) _).alloc (by simp;omega) _⟩,b4⟩
 go_enter Tryz.func12,Tryz.ntmps12;go_upto_region 1 with fail
 rw[<- hW0];clear hW0;obtain⟨z0,⟨z1,z2⟩,z3⟩:=S0.o.1.cells;go_wp2_with fail
 with_reducible refine (HRd.o W0 S0.o.1.bel).mono ?_
 rintro e w1 ⟨hb1,hr⟩;have S1:U (Lm w w1 pa n pc next da dn dc xa xn xc/\G6 w1 (w.heap.size+3)):=⟨S0.o.1.keep hb1,S0.o.2.keep hb1⟩;have HW0s:U (w.heap.size<=W0.heap.size):=S0.o.1.bel.size;clear hb1 S0 z0 z1 z2 z3;obtain⟨z0,⟨z1,z2⟩,z3⟩:=S1.o.1.cells;rcases hr with ⟨hno,v,rfl⟩|⟨hv,g,cg,AA,CC,Bd,Lb,rfl,hg0,hcg,hcg2,hctx,hpl,hop,hcc⟩;.have HN:U (¬ Ce n I X R):=hno;clear hno;have E1:U (Bl w w1/\G6 w1 (w.heap.size+3)):=⟨S1.o.1.bel,S1.o.2⟩;obtain⟨⟨r0,r1,r2⟩,rf,rl⟩:=E1.o.2.cells;have HF:U (∀W,Bl w W->∃err rds P,Dr n I X R next dn Id Xd Rf xn M T ln Ch err rds P/\FX w err rds P (.returned (.agg #[iv 1,.slice none 0 0,iv 0])) W):=λW hW=>⟨1,0,λ_=>False,.inl ⟨HN.o,rfl,rfl,λ_ q=>q⟩,EU 1 hW (λ_ q=>q)⟩;have HB:U (∀u v z,Bl w (((w1.setCell (ad (w.heap.size+3) 0) u).setCell (ad (w.heap.size+3) 1) v).setCell (ad (w.heap.size+3) 2) z)):=λu v z=>(((E1.o.1.setCell (by simp) u).setCell (by simp) v).setCell (by simp) z);go_wp2;refine bodyPost_ret (v:=.agg #[iv 1,.slice none 0 0,iv 0]) (by simp[results,Tryz.results12,go_sem,r0,r1,r2]) rfl ?_;exact HF.o _ (HB.o _ _ _)
 have HV:U (Ce n I X R/\CtxC n I X Bd Lb):=⟨hv,hctx⟩;have HPl1:U (AQ w1 g n (B5 I X R AA CC Bd Lb (λi=>(hM (At I) 100 i:Int)))/\∀i,i<n->AY w1 W0.heap.size (AA i) (Ah (I i)) (λj=>(AK (At I) i j:Int))):=⟨hpl,hop⟩;have hn1:1<=n/\n<=100:=hv.1;clear hv hpl hop hctx hcc;go_wp2_with fail
 with_reducible refine (HRw.o w1 S1.o.1.bel).mono ?_
 rintro e w2 ⟨hb2,wb,ok,rfl,hok,hex⟩;have E2:U (Bl w w2/\G6 w2 (w.heap.size+3)):=⟨S1.o.1.bel.trans (hb2.mono S1.o.1.bel.size),S1.o.2.keep hb2⟩;have HPl2:U (AQ w2 g n (B5 I X R AA CC Bd Lb (λi=>(hM (At I) 100 i:Int)))/\∀i,i<n->AY w2 W0.heap.size (AA i) (Ah (I i)) (λj=>(AK (At I) i j:Int))):=⟨HPl1.o.1.below hb2,λi hi=>(HPl1.o.2 i hi).below hb2⟩;clear hb2 S1 HPl1 z0 z1 z2 z3;cases ok with
 | false=>
  have HN:U (¬ (C8 next dn Id Xd Rf/\VI xn M T)):=λh=>by have:=hok.2 h;cases this
  clear hok hex;obtain⟨⟨r0,r1,r2⟩,rf,rl⟩:=E2.o.2.cells;have HF:U (∀W,Bl w W->∃err rds P,Dr n I X R next dn Id Xd Rf xn M T ln Ch err rds P/\FX w err rds P (.returned (.agg #[iv 3,.slice none 0 0,iv 0])) W):=λW hW=>⟨3,0,λ_=>False,.inr (.inl ⟨HV.o.1,λh=>HN.o ⟨h.1,h.2.1⟩,rfl,rfl,λ_ q=>q⟩),EU 3 hW (λ_ q=>q)⟩;have HB:U (∀u v z,Bl w (((w2.setCell (ad (w.heap.size+3) 0) u).setCell (ad (w.heap.size+3) 1) v).setCell (ad (w.heap.size+3) 2) z)):=λu v z=>(((E2.o.1.setCell (by simp) u).setCell (by simp) v).setCell (by simp) z);go_wp2;refine bodyPost_ret (v:=.agg #[iv 3,.slice none 0 0,iv 0]) (by simp[results,Tryz.results12,go_sem,r0,r1,r2]) rfl ?_;exact HF.o _ (HB.o _ _ _)
 | true=>
 obtain⟨hVD,hVI⟩:=hok.1 rfl;obtain⟨tt,htt,hl3,hkq⟩:=hVI.2.1 0 (by omega);obtain⟨tb,xb,hbx,hwt⟩:=hex rfl tt htt;have HD:U (C8 next dn Id Xd Rf/\VI xn M T/\Dv (M 0) (T 0) tt/\((Ab 21 tt).map (Ag 0)).length<=300):=⟨hVD,hVI,htt,by rw[WH];exact hl3⟩;have HW2:U (Bx w2 wb 170 #[pt tb,pt xb]/\PP w2 tb (DM dn Id Xd) (GU dn Id Xd)/\Hz w2 xb ((Ab 21 tt).map (Ag 0))):=⟨hbx,hwt⟩;have HFit:U (WS 41 #[pt wb] w2 λe w'=>∃b:Bool,e=.returned (.bool b)/\(b=true↔QY dn Id M T)/\Bl w2 w'):=by refine (Rw wb tb xb _ _ _ w2 hbx hwt.1 hwt.2 HD.o.2.2.2).mono ?_;rintro e w' ⟨b,rfl,h1,h2⟩;exact⟨b,rfl,h1.trans (Sz hVD htt).symm,h2⟩
 clear hok hex hVD hVI htt hl3 hkq hbx hwt;go_wp2_with fail
 refine HFit.o.mono ?_;rintro e w3 ⟨b3,rfl,hb3,hbl3⟩;have E3:U (Bl w w3/\G6 w3 (w.heap.size+3)):=⟨E2.o.1.trans (hbl3.mono E2.o.1.size),E2.o.2.keep hbl3⟩;have HPl3:U (AQ w3 g n (B5 I X R AA CC Bd Lb (λi=>(hM (At I) 100 i:Int)))/\∀i,i<n->AY w3 W0.heap.size (AA i) (Ah (I i)) (λj=>(AK (At I) i j:Int))):=⟨HPl2.o.1.below hbl3,λi hi=>(HPl2.o.2 i hi).below hbl3⟩;have HW3:U (Bx w3 wb 170 #[pt tb,pt xb]/\PP w3 tb (DM dn Id Xd) (GU dn Id Xd)/\Hz w3 xb ((Ab 21 tt).map (Ag 0))):=⟨(hbl3.block _ HW2.o.1.lt).trans HW2.o.1,HW2.o.2.1.below hbl3,HW2.o.2.2.below hbl3⟩;clear hbl3 E2 HPl2 HW2 HFit;cases b3 with
 | false=>
  have HN:U (¬ QY dn Id M T):=λh=>by have:=hb3.2 h;cases this
  clear hb3;obtain⟨⟨r0,r1,r2⟩,rf,rl⟩:=E3.o.2.cells;have HF:U (∀W,Bl w W->∃err rds P,Dr n I X R next dn Id Xd Rf xn M T ln Ch err rds P/\FX w err rds P (.returned (.agg #[iv 3,.slice none 0 0,iv 0])) W):=λW hW=>⟨3,0,λ_=>False,.inr (.inl ⟨HV.o.1,λh=>HN.o h.2.2,rfl,rfl,λ_ q=>q⟩),EU 3 hW (λ_ q=>q)⟩;have HB:U (∀u v z,Bl w (((w3.setCell (ad (w.heap.size+3) 0) u).setCell (ad (w.heap.size+3) 1) v).setCell (ad (w.heap.size+3) 2) z)):=λu v z=>(((E3.o.1.setCell (by simp) u).setCell (by simp) v).setCell (by simp) z);go_wp2;refine bodyPost_ret (v:=.agg #[iv 3,.slice none 0 0,iv 0]) (by simp[results,Tryz.results12,go_sem,r0,r1,r2]) rfl ?_;exact HF.o _ (HB.o _ _ _)
 | true=>
 have HK:U (QY dn Id M T):=hb3.1 rfl;clear hb3;have HIP:U (WS 42 #[.slice (some (ad g 0)) n cg,.slice la ln lc] w3 λe w'=>∃b:Bool,e=.returned (.bool b)/\(b=true↔ln=n/\∀i,i<n->BJ (I i) (Bd i) (Ch i)=true)/\Bl w3 w'):=
  Nz g n cg I X R AA CC Bd Lb _ la ln lc Ch w3 HPl3.o.1 (λi hi=>Hl HV.o.1 hi) (HL.o.1.below E3.o.1) hn1.2 hln HL.o.2
 go_wp2_with fail
 refine HIP.o.mono ?_;rintro e w4 ⟨b4,rfl,hb4,hbl4⟩;have E4:U (Bl w w4/\G6 w4 (w.heap.size+3)):=⟨E3.o.1.trans (hbl4.mono E3.o.1.size),E3.o.2.keep hbl4⟩;have HPl:U (AQ w4 g n (B5 I X R AA CC Bd Lb (λi=>(hM (At I) 100 i:Int)))/\∀i,i<n->AY w4 W0.heap.size (AA i) (Ah (I i)) (λj=>(AK (At I) i j:Int))):=⟨HPl3.o.1.below hbl4,λi hi=>(HPl3.o.2 i hi).below hbl4⟩;have HW:U (Bx w4 wb 170 #[pt tb,pt xb]/\PP w4 tb (DM dn Id Xd) (GU dn Id Xd)/\Hz w4 xb ((Ab 21 tt).map (Ag 0))):=⟨(hbl4.block _ HW3.o.1.lt).trans HW3.o.1,HW3.o.2.1.below hbl4,HW3.o.2.2.below hbl4⟩;clear hbl4 E3 HPl3 HW3 HIP;cases b4 with
 | false=>
  have HN:U (¬ (ln=n/\Nj I Ch n 0 (n-1) false=true)):=λh=>by have:=hb4.2 ⟨h.1,(N6 HV.o.1 HV.o.2).1 h.2⟩;cases this
  clear hb4;obtain⟨⟨r0,r1,r2⟩,rf,rl⟩:=E4.o.2.cells;have HF:U (∀W,Bl w W->∃err rds P,Dr n I X R next dn Id Xd Rf xn M T ln Ch err rds P/\FX w err rds P (.returned (.agg #[iv 2,.slice none 0 0,iv 0])) W):=λW hW=>⟨2,0,λ_=>False,.inr (.inr (.inl ⟨HV.o.1,⟨HD.o.1,HD.o.2.1,HK.o⟩,HN.o,rfl,rfl,λ_ q=>q⟩)),EU 2 hW (λ_ q=>q)⟩;have HB:U (∀u v z,Bl w (((w4.setCell (ad (w.heap.size+3) 0) u).setCell (ad (w.heap.size+3) 1) v).setCell (ad (w.heap.size+3) 2) z)):=λu v z=>(((E4.o.1.setCell (by simp) u).setCell (by simp) v).setCell (by simp) z);go_wp2;refine bodyPost_ret (v:=.agg #[iv 2,.slice none 0 0,iv 0]) (by simp[results,Tryz.results12,go_sem,r0,r1,r2]) rfl ?_;exact HF.o _ (HB.o _ _ _)
 | true=>
 obtain⟨hll,hgc⟩:=hb4.1 rfl;obtain rfl:n=ln:=hll.symm;have HG:U (∀i,i<n->BJ (I i) (Bd i) (Ch i)=true):=hgc;clear hb4 hgc;obtain⟨lb,lo,rfl,hlr⟩:∃lb lo,la=some (ad lb lo)/\∀i,i<n->w.cell? (ad lb (lo+i))=some (iv (Ch i)):=by
  rcases HL.o.1 with q|⟨lb,lo,q,hq⟩;.omega
  .exact⟨lb,lo,q,hq⟩
 have HLR:U (∀i,i<n->w.cell? (ad lb (lo+i))=some (iv (Ch i))):=hlr;clear hlr;have hmk:∀W:World,(Instr.makeSlice 95 (iv (n:Int)) (iv (n:Int))).run Tryz.prog W=.ok (.slice (some (ad W.heap.size 0)) n n) (W.alloc (.cells (madeCells #[.nilIface] (n*1)) 104)):=λW=>by obtain⟨i0,hi,hz0,hz1,hz2⟩:=info_parts Tq;have:=run_make (P:=Tryz.prog) W 95 104 i0 _ (by kernel_rfl) hi hz0 .i64 .i64 n n (by omega) (by omega) (by rw[hz2];omega) (by omega);rw[hz1,show Value.nilIface.cells=#[.nilIface] from rfl] at this;simpa using this
 obtain⟨og,hog⟩:∃og,og=w4.heap.size:=⟨_,rfl⟩;have H0:U (∃fx:Nat->Fx,Mk (w4.alloc (.cells (madeCells #[.nilIface] n) 104)) 0 (og+1) xb (DM dn Id Xd) I X R Ch Bd Lb fx/\Ai (w4.alloc (.cells (madeCells #[.nilIface] n) 104)) og 104 n (λi=>if i<0 then Jy I fx i else .nilIface)/\Bl w4 (w4.alloc (.cells (madeCells #[.nilIface] n) 104))):=by refine⟨λ_=>⟨0,0,0,0,0,false,[]⟩,⟨λi hi=>absurd hi (Wy _),λi hi=>absurd hi (Wy _),λi j hij hj=>absurd hj (Wy _),λi hi=>absurd hi (Wy _),λi hi=>absurd hi (Wy _)⟩,?_,Aa _ _⟩;rw[hog];refine⟨_,Array.getElem?_push_size,by rw[size_madeCells];omega,λi hi=>?_⟩;simp[madeCells,hi,Nat.mod_one]
 go_upto_region 10 with fail
 rw[<- hog];generalize w4.alloc (.cells (madeCells #[.nilIface] n) 104)=W6 at H0 ⊢;have HOG:U (og=w4.heap.size/\w.heap.size+3<og):=⟨hog,by rw[hog];exact E4.o.2.cells.2.2⟩;clear hog hmk;go_wp2;go_loopw [13,14,48] (λ_ _ i wr=>∃k:Nat,k<=n/\i=iv k/\∃fx:Nat->Fx,Mk wr k (og+1) xb (DM dn Id Xd) I X R Ch Bd Lb fx/\Ai wr og 104 n (λi=>if i<k then Jy I fx i else .nilIface)/\Bl w4 wr) (λ_ _ i _=>n-(intOf i).toNat)
 case atStart=>exact⟨0,Ww _,rfl,H0.o⟩
 case round=>
  obtain⟨k,hk,rfl,fx,hmk,hrow,hbr⟩:=hrel;have HX:U (Mk wr k (og+1) xb (DM dn Id Xd) I X R Ch Bd Lb fx/\Ai wr og 104 n (λi=>if i<k then Jy I fx i else .nilIface)/\Bl w4 wr):=⟨hmk,hrow,hbr⟩;clear hmk hrow hbr H0;by_cases hlt:k<n
  .obtain⟨d0,d1,d2,d3,d4,d5,d6⟩:=LJ ((HPl.o.1).below HX.o.2.2) hlt;obtain⟨q,hq⟩:∃q,q=Ah (I k):=⟨_,rfl⟩;rw[<- hq] at d5;have hq2:q<=2:=by rw[hq];exact BD _
   have hop:U (∀W,Bl w4 W->Rd .i64 W (AA k) q (λj=>(AK (At I) k j:Int))):=λW hW=>by rw[hq];exact ((HPl.o.2 k hlt).rd).below hW
   have k0:(0:Int)<=(k:Int):=by omega
   have k1:(k:Int)<(n:Int):=by omega
   have hogw:og<wr.heap.size:=HX.o.2.1.lt;have hlc2:∀W,Bl w4 W->W.cell? (ad lb (lo+k))=some (iv (Ch k)):=λW hW=>by have h1:=E4.o.1.trans (hW.mono E4.o.1.size);exact (h1.cell (Ws _ _ (HLR.o k hlt))).trans (HLR.o k hlt)
   obtain⟨ik,hik⟩:∃ik,ik=I k:=⟨_,rfl⟩;obtain⟨xk,hxk⟩:∃xk,xk=X k:=⟨_,rfl⟩;obtain⟨rk,hrk⟩:∃rk,rk=R k:=⟨_,rfl⟩;obtain⟨bk,hbk⟩:∃bk,bk=Bd k:=⟨_,rfl⟩;obtain⟨lk,hlk⟩:∃lk,lk=Lb k:=⟨_,rfl⟩;obtain⟨ak,hak⟩:∃ak,ak=AA k:=⟨_,rfl⟩;obtain⟨ck,hck⟩:∃ck,ck=CC k:=⟨_,rfl⟩;obtain⟨mk,hmk⟩:∃mk,mk=hM (At I) 100 k:=⟨_,rfl⟩;obtain⟨cc,hcc⟩:∃cc,cc=Ch k:=⟨_,rfl⟩;rw[<- hik] at d0;rw[<- hxk] at d1;rw[<- hrk] at d2;rw[<- hbk] at d3;rw[<- hlk] at d4;rw[<- hak,<- hck] at d5;rw[<- hak] at hop;rw[<- hmk] at d6;rw[<- hcc] at hlc2;have HE:U (ik=I k/\xk=X k/\rk=R k/\bk=Bd k/\lk=Lb k/\cc=Ch k/\q=Ah (I k)):=⟨hik,hxk,hrk,hbk,hlk,hcc,hq⟩;obtain⟨W1,hW1⟩:∃W1,W1=wr.alloc (.cells #[iv ik,.string xk,.string rk,.bool bk,.string lk,.slice ak q ck,iv (mk:Int)] 102):=⟨_,rfl⟩;obtain⟨bx,hbx⟩:∃bx,bx=wr.heap.size:=⟨_,rfl⟩;have HW9:U (Bl wr W1/\Bx W1 bx 102 #[iv ik,.string xk,.string rk,.bool bk,.string lk,.slice ak q ck,iv (mk:Int)]/\W1.heap.size=bx+1/\bx=wr.heap.size):=by rw[hW1,hbx];exact⟨Aa _ _,Bx.new _ _ _,by simp,rfl⟩
   have HWB:U (∀W,Bl W1 W->Bl w4 W):=λW hW=>HX.o.2.2.trans ((HW9.o.1.trans (hW.mono HW9.o.1.size)).mono HX.o.2.2.size);have HBX:U (∀W,Bl W1 W->W.cell? (ad bx 0)=some (iv ik)/\W.cell? (ad bx 1)=some (.string xk)/\W.cell? (ad bx 2)=some (.string rk)/\W.cell? (ad bx 3)=some (.bool bk)/\W.cell? (ad bx 4)=some (.string lk)/\W.cell? (ad bx 5)=some (.slice ak q ck)/\W.cell? (ad bx 6)=some (iv (mk:Int))):=λW hW=>by have hh:Bx W bx 102 #[iv ik,.string xk,.string rk,.bool bk,.string lk,.slice ak q ck,iv (mk:Int)]:=(hW.block _ HW9.o.2.1.lt).trans HW9.o.2.1;exact⟨hh.cell 0,hh.cell 1,hh.cell 2,hh.cell 3,hh.cell 4,hh.cell 5,hh.cell 6⟩
   have HLC:U (∀W,Bl W1 W->W.cell? (ad lb (lo+k))=some (iv cc)):=λW hW=>hlc2 W (HWB.o W hW);have HR:U (∀W,Bl W1 W->Ai W og 104 n (λi=>if i<k then Jy I fx i else .nilIface)):=λW hW=>by have hh:W.heap[og]?=wr.heap[og]?:=(hW.block og (by rw[HW9.o.2.2.1];omega)).trans (HW9.o.1.block og hogw);exact HX.o.2.1.of_block hh
   have HS:U (∀W,Bl W1 W->WS 44 #[.slice (some (ad og 0)) n n,.slice ak q ck] W λe w'=>∃v,e=.returned v/\w'.ownsRow W.heap.size 104 1 v q (Ca (λi=>CR (I i)) (λi=>(fx i).ob) (λj=>AK (At I) k j) q)/\Bl W w'):=λW hW=>by have hjl:∀j,j<q->AK (At I) k j<k:=λj hj=>NT HV.o.1 hlt (by rw[<- HE.o.2.2.2.2.2.2];exact hj);refine Pg og n n (λi=>CR (I i)) (λi=>(fx i).ob) ak q ck (λj=>AK (At I) k j) W (λj hj=>?_) (hop.o W (HWB.o W hW)) (λj hj=>Nat.lt_trans (hjl j hj) hlt) (by omega) (by omega);have:=(HR.o W hW).cell (Nat.lt_trans (hjl j hj) hlt);rw[if_pos (hjl j hj)] at this;exact this
   have HOP:U (∀(W V:World) (ov:Value),Bl W1 W->Bl W1 V->V.ownsRow W.heap.size 104 1 ov q (Ca (λi=>CR (I i)) (λi=>(fx i).ob) (λj=>AK (At I) k j) q)->WS 43 #[pt wb,.agg #[iv ik,.string xk,.string rk,.bool bk,.string lk,.slice ak q ck,iv (mk:Int)],iv cc,ov] V (VO V xb (DM dn Id Xd) bk lk ik xk rk cc (λj=>Jy I fx (AK (At I) k j)))):=λW V ov hW hV ho=>by have h4:=HWB.o V hV;obtain⟨e1,e2,e3,e4,e5,e6,e7⟩:=HE.o;rw[e7,<- e1] at ho ⊢;exact K4 ik (by rw[e1];exact Hl HV.o.1 hlt) wb tb xb (DM dn Id Xd) ((Ab 21 tt).map (Ag 0)) xk rk bk lk ak (Ah ik) ck (mk:Int) cc (by rw[e1,e4,e6];exact HG.o k hlt) (λi=>CR (I i)) (λi=>(fx i).ob) (λj=>AK (At I) k j) ov W.heap.size V ho ((h4.block _ HW.o.1.lt).trans HW.o.1) ((HW.o.2.1.below h4).1) (HW.o.2.2.below h4)
   have HZ:U (Bl w4 wr/\Mk wr k (og+1) xb (DM dn Id Xd) I X R Ch Bd Lb fx/\og<wr.heap.size):=⟨HX.o.2.2,HX.o.1,hogw⟩;clear hop hq hik hxk hrk hbk hlk hak hck hmk hcc hlc2 HX hogw;go_upto_region 13 with fail
   rw[<- hW1,<- hbx];clear hW1 hbx d0 d1 d2 d3 d4 d5 d6;refine Ac (S:=λW=>Bl W1 W) 14 (by kernel_rfl) (Wt _ _).drew (λW hHeld=>?_);refine tx 0 rfl ?_;refine tx 1 rfl ?_;refine tx 2 rfl ?_;refine tY 3 rfl (λw' h=>by obtain⟨x0,x1,x2,x3,x4,x5,x6⟩:=HBX.o _ h;clear h;go_simp;rfl) ?_;refine tx 4 rfl ?_;refine tx 5 rfl ?_;refine tx 6 rfl ?_;refine tY 7 rfl (λw' h=>by have y0:=HLC.o _ h;clear h;go_simp;rfl) ?_;refine tx 8 rfl ?_;refine tx 9 rfl ?_;refine tY 10 rfl (λw' h=>by obtain⟨x0,x1,x2,x3,x4,x5,x6⟩:=HBX.o _ h;clear h;go_simp;rfl) ?_;refine AB 11 rfl (λK hK=>?_);refine AF rfl 44 61 63 _ rfl (.slice (some (ad og 0)) n n) (.slice ak q ck) rfl rfl (λ_ _=>rfl) ?_;refine (HS.o W hHeld).mono ?_;rintro e w7 ⟨ov,rfl,ho7,hb7⟩;have h7:Bl W1 w7:=hHeld.trans (hb7.mono hHeld.size);refine⟨_,rfl,hK.out _ _ (λ_=>h7) (λhG=>?_)⟩;clear hK K hG hb7;simp only[As];refine AB 12 rfl (λK hK=>?_);refine Dy rfl 43 55 56 60 64 _ rfl (pt wb) (.agg #[iv ik,.string xk,.string rk,.bool bk,.string lk,.slice ak q ck,iv (mk:Int)]) (iv cc) ov rfl rfl rfl rfl (λ_ _=>rfl) ?_;refine (HOP.o W w7 ov hHeld h7 ho7).mono ?_;rintro e w8 ⟨f,rfl,hfr,hfx,hfl,hfn,htl,hl1,hl2,hl3,hb8⟩;have h8:Bl W1 w8:=h7.trans (hb8.mono h7.size);have H8:U (Bl W1 w8/\A0 w8 f/\(f.xb=xb/\f.lab=DM dn Id Xd lk/\f.nt=(bk && decide (DM dn Id Xd lk=0)))/\Oi (DM dn Id Xd) ik xk rk cc (λj=>Jy I fx (AK (At I) k j)) f/\W1.heap.size<=f.mb/\f.mb<f.ob/\f.ob<w8.heap.size):=⟨h8,hfr,⟨hfx,hfl,hfn⟩,htl,WC h7.size hl1,hl2,hl3⟩;refine⟨_,rfl,hK.out _ _ (λ_=>h8) (λhG=>?_)⟩;clear hK K hG hb8 h7 ho7 hHeld hfr hfx hfl hfn htl hl1 hl2 hl3;simp only[As];have hz8:=HR.o w8 h8;have y0:=hz8.cell hlt;rw[if_neg (Nat.lt_irrefl _)] at y0;have y1:=hz8.frozen;have y2:=hz8.lt;clear hz8 h8;refine AB 13 rfl (λK hK=>?_);go_simp;refine hK.out _ _ (λ_=>H8.o.1) (λhG=>?_);clear hK K hG;try simp only[As]
   refine AB 14 rfl (λK hK=>?_);go_simp;refine hK.out _ _ (λhne=>absurd rfl hne) (λhG=>?_);clear hK K hG;refine Ae (by kernel_rfl) ?_ _;have HF:U (∃fx:Nat->Fx,Mk (w8.setCell (ad og k) (.iface (CR ik) (pt f.ob))) (k+1) (og+1) xb (DM dn Id Xd) I X R Ch Bd Lb fx/\Ai (w8.setCell (ad og k) (.iface (CR ik) (pt f.ob))) og 104 n (λi=>if i<k+1 then Jy I fx i else .nilIface)/\Bl w4 (w8.setCell (ad og k) (.iface (CR ik) (pt f.ob)))):=by
    obtain⟨g1,g2,g3,g4,g5,g6,g7⟩:=H8.o;obtain⟨e1,e2,e3,e4,e5,e6,e7⟩:=HE.o;have hsz:=HW9.o.2.2.1;have hbx:=HW9.o.2.2.2;have hF8:Fr (λb=>b=og) w8 (w8.setCell (ad og k) (.iface (CR ik) (pt f.ob))):=Fr.ofSet rfl;have hFr:Fr (λb=>b=og) wr (w8.setCell (ad og k) (.iface (CR ik) (pt f.ob))):=(Fr.ofBelow (P:=λb=>b=og) (HW9.o.1.trans (g1.mono HW9.o.1.size))).trans hF8 (λ_ _ q=>q) (λ_ _ q=>q);have hmk:=HZ.o.2.1.below hFr (λi hi=>⟨λq=>by have:=HZ.o.2.1.lo i hi;omega,λq=>by have:=HZ.o.2.1.lo i hi;omega⟩);have hog:=HZ.o.2.2;refine⟨_,Mk.step (wr:=wr) hmk (λi hi j hj=>NT HV.o.1 (by omega) hj) f (by omega) (λi hi=>(HZ.o.2.1.lo i hi).2.2) (by omega) (g2.fr hF8 (λq=>by omega) (λq=>by omega)) ⟨g6,WF g7 hF8.size⟩ ?_ ?_,?_,(HWB.o w8 g1).setCell (by have:=HOG.o;show w4.heap.size<=og;omega) _⟩;.rw[<- e5,<- e4];exact g3
    .rw[<- e1,<- e2,<- e3,<- e6];exact g4
    .refine ((HR.o w8 g1).set k _).congr (λi hi=>?_);by_cases e:i=k;.subst e;rw[if_pos rfl,if_pos (by omega)];unfold Jy;simp[e1]
     .rw[if_neg e];by_cases hik:i<k;.rw[if_pos hik,if_pos (by omega)];unfold Jy;simp[e]
      .rw[if_neg hik,if_neg (by omega)]
   generalize w8.setCell (ad og k) (.iface (CR ik) (pt f.ob))=w9 at HF ⊢;clear y0 y1 y2 H8 HZ HOP HS HR HLC HBX HWB HW9;go_wp2;go_roundw;case rel=>exact⟨k+1,by omega,by go_num,HF.o⟩
   case measure=>simp[intOf];omega
  .have e:n=k:=by omega
   subst e;have l1:¬ (n:Int)<(n:Int):=by omega
   obtain⟨ob,hob⟩:∃ob,ob=(fx (n-1)).ob:=⟨_,rfl⟩;obtain⟨ty,hty⟩:∃ty,ty=CR (I (n-1)):=⟨_,rfl⟩;obtain⟨F,hF⟩:∃F,F=MC (I (n-1)):=⟨_,rfl⟩;have hvo:RP ty F:=by rw[hty,hF];exact Jf (Hl HV.o.1 (by omega))
   have HEn:U (JM n wr.heap.size w4.heap.size xb tb w4 (DM dn Id Xd) ((Ab 21 tt).map (Ag 0)) I X R Ch Bd Lb fx):=UM HV.o.1 HV.o.2 HD.o.1 HG.o HD.o.2.2.2 (Tp HD.o.2.2.1 HK.o) HW.o.2.2 HW.o.2.1 (by have:=HX.o.1;rw[HOG.o.1] at this;exact this);have HC:U (∀i,i<n->wr.cell? (ad og i)=some (Jy I fx i)):=λi hi=>by have:=HX.o.2.1.cell hi;rw[if_pos hi] at this;exact this
   have HLa:U (WS 45 #[.slice (some (ad og 0)) n n] wr λe w'=>e=.returned (.iface ty (pt ob))/\w'=wr):=by have:=Pj og (n-1) n ty ob wr (by rw[HC.o (n-1) (by omega),hob,hty];rfl) (by omega);rw[show n-1+1=n by omega] at this;exact this
   have HOpn:U (WS F #[pt ob] wr λe w'=>e=.returned (.tuple #[])/\∃(L:List Int) (rg:Nat),FQ w' wr.heap.size (λk=>wr.heap.size<=k/\k<w'.heap.size) (fx (n-1)) (rg:Int) 0 L/\Fr (Tt fx 0 (n-1)) wr w'/\L.length<=300000/\L.Nodup/\(∀x,x∈L↔x∈(RN (DM dn Id Xd) ((Ab 21 tt).map (Ag 0)) I X R Ch (n-1) ⟨false,0⟩).1)/\Bc fx w' 0 (n-1)=(RN (DM dn Id Xd) ((Ab 21 tt).map (Ag 0)) I X R Ch (n-1) ⟨false,0⟩).2/\Bc fx w' 0 (n-1)<=100000):=by rw[hob,hF];exact O8 HEn.o rfl HV.o.1 HV.o.2 HX.o.2.2 (Wu _) HX.o.1.fr
   have hop:=hvo.mt.op ob;have hen:=hvo.en;unfold GT at hop;have HOI:U (NQ ty F/\ob=(fx (n-1)).ob/\(∀t,t<=n-1->og<(fx t).mb/\(fx t).mb<(fx t).ob)):=⟨hvo.mt,hob,λt ht=>by have:=HX.o.1.lo t (by omega);omega⟩;have HTT:U (∀k,Tt fx 0 (n-1) k->og<k):=λk=>by rintro⟨t,ht,q⟩;have:=HOI.o.2.2 t ht;rw[WM] at q;rcases q with q|q <;> omega
   clear hob hty hF hvo;go_wp2_with fail
   refine HLa.o.mono ?_;rintro e w5 ⟨rfl,hw5⟩;rw[hw5];clear hw5 w5;go_wp2_with fail
   refine HOpn.o.mono ?_;rintro e w6 ⟨rfl,L,rg,q1,q2,q3,q4,q5,q6,q7⟩;have hB6:Bl w4 w6:=HX.o.2.2.trans (q2.toBelow HX.o.2.2.size (λk hk q=>by have:=HTT.o k q;have:=HOG.o.1;omega));have HTx:U (WS 46 #[pt wb,.iface ty (pt ob)] w6 λe w'=>∃(ta:Option Addr) (tc:Nat) (LL:List ByteArray),e=.returned (.slice ta LL.length tc)/\w'.ownsRow w6.heap.size 9 1 (.slice ta LL.length tc) LL.length (AC LL)/\DE LL/\(∀x,x∈LL↔∃i,i∈L/\GU dn Id Xd i=x)/\LL.length=L.length/\FQ w' wr.heap.size (λk=>wr.heap.size<=k/\k<w6.heap.size) (fx (n-1)) (rg:Int) L.length L/\Fr (λk=>k=(fx (n-1)).ob) w6 w'):=by rw[HOI.o.2.1];refine (Px wr.heap.size w4.heap.size _ (fx (n-1)) (rg:Int) L ty F wb tb xb (GU dn Id Xd) w6 q1 HOI.o.1 ((hB6.block _ HW.o.1.lt).trans HW.o.1) HW.o.1.lt (by have:=HOI.o.2.2 (n-1) (Wu _);have:=HOG.o.1;omega) (λV x hV=>(HW.o.2.1.below (hB6.trans hV)).2 V x (Wt _ _)) (λk q=>q.2) q2.size q3 (Py HD.o.1 q4 (λx hx=>Na (Tp HD.o.2.2.1 HK.o) (Uj HD.o.1) (n-1+1) (n-1) _ x ((q5 x).1 hx)))).mono ?_;rintro e w' ⟨v,LL,rfl,h1,h2,h3,h4,h5,h6⟩;obtain⟨ta,tc,rfl⟩:=Ps h1;exact⟨ta,tc,LL,rfl,h1,h2,h3,h4,h5,h6⟩
   have P6:U (FQ w6 wr.heap.size (λk=>wr.heap.size<=k/\k<w6.heap.size) (fx (n-1)) (rg:Int) 0 L/\Fr (Tt fx 0 (n-1)) wr w6/\L.length<=300000/\(∀x,x∈L↔x∈(RN (DM dn Id Xd) ((Ab 21 tt).map (Ag 0)) I X R Ch (n-1) ⟨false,0⟩).1)/\Bc fx w6 0 (n-1)=(RN (DM dn Id Xd) ((Ab 21 tt).map (Ag 0)) I X R Ch (n-1) ⟨false,0⟩).2/\Bc fx w6 0 (n-1)<=100000/\Bl w4 w6):=⟨q1,q2,q3,q5,q6,q7,hB6⟩;clear q1 q2 q3 q4 q5 q6 q7 hB6 HOpn HLa hop hen;go_wp2_with fail
   refine HTx.o.mono ?_;rintro e w7 ⟨ta,tc,LL,rfl,t1,t2,t3,t4,t5,t6⟩;obtain⟨rds,hrds⟩:∃rds,rds=(RN (DM dn Id Xd) ((Ab 21 tt).map (Ag 0)) I X R Ch (n-1) ⟨false,0⟩).2:=⟨_,rfl⟩;have HAR:U (WS 47 #[.slice (some (ad og 0)) n n] w7 (WT w7 (iv (rds:Int)))):=by
    have hsum:=PE HEn.o hn1.1 t6 P6.o.1 t5 P6.o.2.1.size;have hc7:∀i,i<n->w7.cell? (ad og i)=some (Jy I fx i):=λi hi=>by have h1:=P6.o.2.1.cell (HC.o i hi) (λq=>by have:og<og:=HTT.o og q;omega);exact t6.cell h1 (λq=>by have:=HOI.o.2.2 (n-1) (Wu _);have q' : og=(fx (n-1)).ob:=q;omega)
    refine (Ku og n n I fx w7 (λi hi=>Hl HV.o.1 hi) hc7 (λi hi=>?_) hn1.2).mono ?_;.have h1:=Ow (fx:=fx) (W:=w7) (m:=n-1) (t:=i) (by omega);have h2:=P6.o.2.2.2.2.2.1;omega
    .rintro e w' ⟨rfl,hb⟩;refine⟨?_,hb⟩;have h2:Bc fx w7 0 (n-1)=rds:=hsum.trans (P6.o.2.2.2.2.1.trans hrds.symm);unfold Bc at h2;rw[show n-1+1=n by omega] at h2;simp only[WM] at h2;rw[h2]
   have P7:U (w7.ownsRow w6.heap.size 9 1 (.slice ta LL.length tc) LL.length (AC LL)/\DE LL/\(∀x,x∈LL↔∃i,i∈L/\GU dn Id Xd i=x)/\LL.length=L.length/\Bl w4 w7/\rds=(RN (DM dn Id Xd) ((Ab 21 tt).map (Ag 0)) I X R Ch (n-1) ⟨false,0⟩).2):=⟨t1,t2,t3,t4,P6.o.2.2.2.2.2.2.trans (t6.toBelow P6.o.2.2.2.2.2.2.size (λk hk q=>by have:=HOI.o.2.2 (n-1) (Wu _);have:=HOG.o.1;omega)),hrds⟩;clear t1 t2 t3 t4 t5 t6 hrds HTx;go_wp2_with fail
   refine HAR.o.mono ?_;rintro e w8 ⟨rfl,hb8⟩;have P8:U (Bl w4 w8/\w8.ownsRow w6.heap.size 9 1 (.slice ta LL.length tc) LL.length (AC LL)):=⟨P7.o.2.2.2.2.1.trans (hb8.mono P7.o.2.2.2.2.1.size),Qa P7.o.1 (Fr.ofBelow (P:=λ_=>False) hb8) (λ_ _ _ q=>q)⟩;have PR:U (G6 w8 (w.heap.size+3)/\Bl w w8):=⟨E4.o.2.keep P8.o.1,E4.o.1.trans (P8.o.1.mono E4.o.1.size)⟩;clear hb8 HAR;have HF:U (∀u v z,∃err rd' P,Dr n I X R next dn Id Xd Rf xn M T n Ch err rd' P/\FX w err rd' P (.returned (.agg #[iv 0,.slice ta LL.length tc,iv (rds:Int)])) (((w8.setCell (ad (w.heap.size+3) 0) u).setCell (ad (w.heap.size+3) 1) v).setCell (ad (w.heap.size+3) 2) z)):=λu v z=>by
    have hs:w.heap.size+3<w6.heap.size:=by have h1:=HOG.o;have h2:=P6.o.2.2.2.2.2.2.size;omega
    refine⟨0,rds,λx=>∃i,i∈(RN (DM dn Id Xd) ((Ab 21 tt).map (Ag 0)) I X R Ch (n-1) ⟨false,0⟩).1/\GU dn Id Xd i=x,.inr (.inr (.inr ⟨HV.o.1,⟨HD.o.1,HD.o.2.1,HK.o⟩,⟨rfl,(N6 HV.o.1 HV.o.2).2 HG.o⟩,tt,HD.o.2.2.1,rfl,P7.o.2.2.2.2.2,λx=>Iff.rfl⟩)),_,LL,rfl,World.ownsRow.mono (ownsRow_setCell_below (ownsRow_setCell_below (ownsRow_setCell_below P8.o.2 hs u) hs v) hs z) (by omega),P7.o.2.1,λx=>?_,?_,((PR.o.2.setCell (by simp) u).setCell (by simp) v).setCell (by simp) z⟩
    .rw[P7.o.2.2.1 x];constructor;.rintro⟨i,h1,h2⟩;exact⟨i,(P6.o.2.2.2.1 i).1 h1,h2⟩
     .rintro⟨i,h1,h2⟩;exact⟨i,(P6.o.2.2.2.1 i).2 h1,h2⟩
    .have h1:=P7.o.2.2.2.1;have h2:=P6.o.2.2.1;omega
   obtain⟨⟨r0,r1,r2⟩,rf,rl⟩:=PR.o.1.cells;go_wp2;refine bodyPost_ret (v:=.agg #[iv 0,.slice ta LL.length tc,iv (rds:Int)]) (by simp[results,Tryz.results12,go_sem,r0,r1,r2]) rfl ?_;exact HF.o (iv 0) (.slice ta LL.length tc) (iv (rds:Int))
variable {B:Nat}{L:List ByteArray}{W W':World}{aQ:Option Addr}
theorem IG:∀{L L' : List ByteArray},DE L->DE L'->(∀x,x∈L↔x∈L')->L=L'
 | [],[],_,_,_=>rfl
 | [],y::_,_,_,h=>by have:=(h y).2 (by simp);cases this
 | x::_,[],_,_,h=>by have:=(h x).1 (by simp);cases this
 | x::L,y::L',h1,h2,h=>by
  obtain⟨a1,a2⟩:=List.pairwise_cons.1 h1
  obtain⟨b1,b2⟩:=List.pairwise_cons.1 h2
  have irr:∀z:ByteArray,¬ Op.bytesLess z.toList z.toList=true:=λz q=>by rw[CM] at q;cases q
  have exy:x=y:=by
   by_cases e:x=y
   .exact e
   .have q1:x∈L':=by
     rcases List.mem_cons.1 ((h x).1 (by simp)) with q|q
     .exact absurd q e
     .exact q
    have q2:y∈L:=by
     rcases List.mem_cons.1 ((h y).2 (by simp)) with q|q
     .exact absurd q.symm e
     .exact q
    exact absurd (AZ _ _ _ (a1 y q2) (b1 x q1)) (irr x)
  subst exy
  rw[IG a2 b2 (λz=>?_)]
  constructor
  .intro hz
   rcases List.mem_cons.1 ((h z).1 (List.mem_cons_of_mem _ hz)) with q|q
   .subst q;exact absurd (a1 z hz) (irr z)
   .exact q
  .intro hz
   rcases List.mem_cons.1 ((h z).2 (List.mem_cons_of_mem _ hz)) with q|q
   .subst q;exact absurd (b1 z hz) (irr z)
   .exact q
def Ka (W:World) (B:Nat) (aQ:Option Addr) (L:List ByteArray):Prop:=L=[]\/∃g,aQ=some ⟨g,0,none⟩/\B<=g/\Ai W g 9 L.length (λi=>.string (gt L i))
theorem Ka.stay (h:Ka W B aQ L) (hk:∀b,B<=b->b<W.heap.size->W'.heap[b]?=W.heap[b]?):Ka W' B aQ L:=by
 rcases h with h|⟨g,e,hg,hr⟩;.exact .inl h
 .exact .inr ⟨g,e,hg,hr.of_block (hk g hg hr.lt)⟩
theorem Ka.below (h:Ka W B aQ L) (hb:Bl W W'):Ka W' B aQ L:=h.stay (λb _ hlt=>hb.block b hlt)
theorem Ka.rd (h:Ka W B aQ L):CO W aQ L:=by
 rcases h with rfl|⟨g,rfl,hg,hr⟩;.exact .inl rfl
 .exact .inr ⟨g,0,rfl,λi hi=>by rw[WM];exact hr.cell hi⟩
theorem Ka.v (h:Ka W B aQ L):DL W 9 aQ L.length (λi=>.string (gt L i)):=by
 rcases h with rfl|⟨g,e,hg,hr⟩;.exact .inl rfl
 .exact .inr ⟨g,e,hr⟩
theorem Ka.ge (h:Ka W B aQ L) (h0:L.length≠0):∀b,aQ.map (·.block)=some b->B<=b:=by
 rcases h with rfl|⟨g,rfl,hg,hr⟩;.exact absurd rfl h0
 .intro b e;simp at e;omega
theorem Ul {v:Value} (h:W.ownsRow B 9 1 v L.length (AC L)):∃(a:Option Addr) (c:Nat),v=.slice a L.length c/\Ka W B a L:=by
 obtain⟨_,⟨rfl,h0⟩|⟨g,cap,cur,rfl,hg,hb,h1,h2,h3,h4⟩⟩:=h;.have e:=List.length_eq_zero_iff.1 h0;subst e;exact⟨none,0,rfl,.inl rfl⟩
 .refine⟨_,_,rfl,.inr ⟨g,rfl,hg,cur,hb,by rw[h3];omega,λi hi=>?_⟩⟩;have e:(AC L)[i]?=some (.string (gt L i)):=by unfold AC;rw[WQ,Rv hi];rfl
  rw[<- h4,WP (by omega),Array.getElem?_toList] at e;exact e
def VV (W:World) (err:Int) (rds:Nat) (L:List ByteArray) (e:Ending) (w' : World):Prop:=∃(a:Option Addr) (c:Nat),e=.returned (.agg #[.int .i64 err,.slice a L.length c,.int .i64 (rds:Int)])/\CO w' a L/\Bl W w'
def VY (W:World) (err:Int) (rds:Nat) (L:List ByteArray) (e:Ending) (w' : World):Prop:=∃(a:Option Addr) (c:Nat),e=.returned (.agg #[.int .i64 err,.slice a L.length c,.int .i64 (rds:Int)])/\Ka w' W.heap.size a L/\Bl W w'
theorem U9 (n:Nat) (I:Nat->Int) (X R:Nat->ByteArray) (next:Int) (dn:Nat) (Id:Nat->Int) (Xd:Nat->ByteArray) (Rf:Nat->Int) (xn:Nat) (M:Nat->Nat) (T:Nat->Nat->Tn) (ln:Nat) (Ch:Nat->Int):∃(err:Int) (rds:Nat) (L:List ByteArray),L.length<=1000000/\(∀W e w',(∃err rds P,Dr n I X R next dn Id Xd Rf xn M T ln Ch err rds P/\EA W err rds P e w')->VV W err rds L e w')/\∀W e w',(∃err rds P,Dr n I X R next dn Id Xd Rf xn M T ln Ch err rds P/\FX W err rds P e w')->VY W err rds L e w':=by
 by_cases hx:∃(err:Int) (rds:Nat) (P:ByteArray->Prop) (L:List ByteArray),Dr n I X R next dn Id Xd Rf xn M T ln Ch err rds P/\DE L/\(∀x,x∈L↔P x)/\L.length<=1000000
 .obtain⟨err,rds,P,L,h1,h2,h3,h4⟩:=hx;refine⟨err,rds,L,h4,?_,?_⟩;.rintro W e w' ⟨err',rds',P',q1,a,c,L',rfl,k1,k2,k3,k4,k5,k6,k7⟩;obtain⟨rfl,rfl,e3⟩:=h1.same q1;obtain rfl:L=L':=IG h2 k2 (λx=>by rw[h3,k3,e3]);exact⟨a,c,rfl,k1,k7⟩
  .rintro W e w' ⟨err',rds',P',q1,v,L',rfl,k1,k2,k3,k4,k7⟩;obtain⟨rfl,rfl,e3⟩:=h1.same q1;obtain rfl:L=L':=IG h2 k2 (λx=>by rw[h3,k3,e3]);obtain⟨a,c,rfl,ho⟩:=Ul k1;exact⟨a,c,rfl,ho,k7⟩
 .refine⟨0,0,[],by simp,?_,?_⟩;.rintro W e w' ⟨err',rds',P',q1,a,c,L',rfl,k1,k2,k3,k4,k5,k6,k7⟩;exact absurd ⟨err',rds',P',L',q1,k2,k3,k4⟩ hx
  .rintro W e w' ⟨err',rds',P',q1,v,L',rfl,k1,k2,k3,k4,k7⟩;exact absurd ⟨err',rds',P',L',q1,k2,k3,k4⟩ hx
theorem Kl (err r:Int) (a a' : Option Addr) (l c c' : Nat) (L:List ByteArray) (w:World) (hl:l=L.length) (h1:CO w a L) (h2:CO w a' L) (hL:l<=1000000) :
  WS 13 #[.agg #[.int .i64 err,.slice a l c,.int .i64 r],.agg #[.int .i64 err,.slice a' l c',.int .i64 r]] w (WT w (.bool true)):=by
 obtain⟨W0,hW0⟩:∃W0,W0=(w.alloc (.cells #[.int .i64 err,.slice a l c,.int .i64 r] 37)).alloc (.cells #[.int .i64 err,.slice a' l c',.int .i64 r] 37):=⟨_,rfl⟩;have B0:U (Bx W0 w.heap.size 37 #[.int .i64 err,.slice a l c,.int .i64 r]/\Bx W0 (w.heap.size+1) 37 #[.int .i64 err,.slice a' l c',.int .i64 r]/\Bl w W0):=by rw[hW0];have b2:=Bx.new (w.alloc (.cells #[.int .i64 err,.slice a l c,.int .i64 r] 37)) #[.int .i64 err,.slice a' l c',.int .i64 r] 37;simp only[WJ] at b2;exact⟨(Bx.new w #[.int .i64 err,.slice a l c,.int .i64 r] 37).alloc _,b2,(Aa _ _).alloc (by simp) _⟩
 have HE:U (WS 48 #[.slice a l c,.slice a' l c'] W0 (WT W0 (.bool true))):=by rw[hl];refine (Fe a a' L.length c c' (gt L) W0 (h1.below B0.o.2.2) (h2.below B0.o.2.2) (by omega)).mono ?_;rintro e w' ⟨rfl,m,rfl⟩;exact⟨rfl,Af (Wt _ _) m⟩
 clear h1 h2 hl;go_enter Tryz.func13,Tryz.ntmps13;go_upto_region 1 with fail
 rw[<- hW0];clear hW0;obtain⟨x0,x1,x2⟩:W0.cell? ⟨w.heap.size,0,none⟩=some (.int .i64 err)/\W0.cell? ⟨w.heap.size,1,none⟩=some (.slice a l c)/\W0.cell? ⟨w.heap.size,2,none⟩=some (.int .i64 r):=⟨B0.o.1.cell 0,B0.o.1.cell 1,B0.o.1.cell 2⟩;obtain⟨y0,y1,y2⟩:W0.cell? ⟨w.heap.size+1,0,none⟩=some (.int .i64 err)/\W0.cell? ⟨w.heap.size+1,1,none⟩=some (.slice a' l c')/\W0.cell? ⟨w.heap.size+1,2,none⟩=some (.int .i64 r):=⟨B0.o.2.1.cell 0,B0.o.2.1.cell 1,B0.o.2.1.cell 2⟩;go_wp2_with fail
 refine HE.o.mono ?_;rintro e w1 ⟨rfl,hb⟩;have B1:U (Bx w1 w.heap.size 37 #[.int .i64 err,.slice a l c,.int .i64 r]/\Bx w1 (w.heap.size+1) 37 #[.int .i64 err,.slice a' l c',.int .i64 r]/\Bl w w1):=⟨(hb.block _ B0.o.1.lt).trans B0.o.1,(hb.block _ B0.o.2.1.lt).trans B0.o.2.1,B0.o.2.2.trans (hb.mono B0.o.2.2.size)⟩;clear hb x0 x1 x2 y0 y1 y2 HE B0;have x2:w1.cell? ⟨w.heap.size,2,none⟩=some (.int .i64 r):=B1.o.1.cell 2;have y2:w1.cell? ⟨w.heap.size+1,2,none⟩=some (.int .i64 r):=B1.o.2.1.cell 2;go_wp2;go_ret;exact⟨rfl,B1.o.2.2⟩
theorem Im (err r:Int) (a:Option Addr) (l c:Nat) (L:List ByteArray) (w:World) (hl:l=L.length) (B:Nat) (h:Ka w B a L) (hL:l<=1000000) :
  WS 22 #[.agg #[.int .i64 err,.slice a l c,.int .i64 r],.int .i64 1] w λe w'=>e=.returned (.int .i64 ((1+l:Nat):Int))/\w.grownBy w' (a.map (·.block))/\(l=0->Bl w w')/\DL w' 9 a l (λi=>.string (Ln (1+i))):=by
 obtain⟨W0,hW0⟩:=gn (w.alloc (.cells #[.int .i64 err,.slice a l c,.int .i64 r] 37));have B0:U (Bx W0 w.heap.size 37 #[.int .i64 err,.slice a l c,.int .i64 r]/\Bl w W0):=by rw[hW0];exact⟨Bx.new _ _ _,Aa _ _⟩
 have HM:=hid (FJ a l c 1 (gt L) W0 (by rw[hl];exact (h.below B0.o.2).v) (by omega) (by omega));obtain⟨ml,hml⟩:=gn (1+l);rw[<- hml] at HM ⊢;clear hml;clear h hl;go_enter Tryz.func22,Tryz.ntmps22;go_upto_region 1 with fail
 rw[<- hW0];clear hW0;have x1:=B0.o.1.cell 1;go_wp2_with fail
 refine HM.o.mono ?_;rintro e w1 ⟨rfl,hg,h0,hv⟩;have H1:U (w.grownBy w1 (a.map (·.block))/\(l=0->Bl w w1)/\DL w1 9 a l (λi=>.string (Ln (1+i)))):=by refine⟨?_,λq=>by rw[h0 q];exact B0.o.2,hv⟩;have hb:=B0.o.2;exact⟨hg.os.trans hb.os,hg.tape.trans hb.tape,hg.output.trans hb.output,WC hb.size hg.size,λk hk hn=>(hg.block k (WF hk hb.size) hn).trans (hb.block k hk)⟩
 clear hg h0 hv x1 HM B0;go_wp2;go_ret;exact⟨rfl,H1.o⟩
theorem IJ (err r:Int) (a:Option Addr) (l c:Nat) (w:World) (h:DL w 9 a l (λi=>.string (Ln (1+i)))) (hL:l<=1000000) :
  WS 23 #[.agg #[.int .i64 err,.slice a l c,.int .i64 r],.int .i64 1] w (WT w (.int .i64 ((1+l:Nat):Int))):=by
 obtain⟨W0,hW0⟩:=gn (w.alloc (.cells #[.int .i64 err,.slice a l c,.int .i64 r] 37));have B0:U (Bx W0 w.heap.size 37 #[.int .i64 err,.slice a l c,.int .i64 r]/\Bl w W0):=by rw[hW0];exact⟨Bx.new _ _ _,Aa _ _⟩
 have HM:U (WS 56 #[.slice a l c,.int .i64 1] W0 (WT W0 (.int .i64 ((1+l:Nat):Int)))):=by
  refine Ky a l c 1 W0 ?_ (by omega) (by omega);rcases h with h|⟨g,rfl,hr⟩;.exact .inl h
  .exact .inr ⟨g,0,rfl,λi hi=>by rw[WM];exact (hr.of_block (B0.o.2.block g hr.lt)).cell hi⟩
 obtain⟨ml,hml⟩:=gn (1+l);rw[<- hml] at HM ⊢;clear hml;clear h;go_enter Tryz.func23,Tryz.ntmps23;go_upto_region 1 with fail
 rw[<- hW0];clear hW0;have x1:=B0.o.1.cell 1;go_wp2_with fail
 refine HM.o.mono ?_;rintro e w1 ⟨rfl,hb⟩;have H1:=hid (B0.o.2.trans (hb.mono B0.o.2.size));have hm0:¬ ((ml:Int)<0):=by omega
 clear hb x1 HM B0;go_wp2;go_ret;exact⟨rfl,H1.o⟩
variable {b c l rds:Nat}{a:Option Addr}{err:Int}
structure Ll (w wk W:World) (a:Option Addr) (n c:Nat) (next:Int) (da:Option Addr) (dn dc:Nat) (xa:Option Addr) (xn xc:Nat) (I:Nat->Int) (X R:Nat->ByteArray) (Id:Nat->Int) (Xd:Nat->ByteArray) (Rf:Nat->Int) (M:Nat->Nat) (T:Nat->Nat->Tn) (ln:Nat) (Ch:Nat->Int) (b0 b1 b2 g0 g1 g2 g3:Nat) (R9:Nat->Nat):Prop where
 kp:K3 w a n c next da dn dc xa xn xc wk
 bel:Bl wk W
 x0:Bx W b0 41 #[.slice (some (ad g0 0)) n n]
 x1:Bx W b1 45 #[iv next,.slice (some (ad g1 0)) dn dn]
 x2:Bx W b2 49 #[.slice (some (ad g2 0)) xn xn]
 r0:Ai W g0 97 (n*3) (AX I X R)
 r1:Ai W g1 131 (dn*3) (Az Id Xd Rf)
 r2:AT W (g2+1) g2 xn 0 xn M T R9
 r3:Ai W g3 2 ln (λi=>iv (Ch i))
 pos:wk.heap.size<=g0/\g0<b0/\b0<g1/\g1<b1/\b1<g2/\R9 xn<=b2/\b2<g3
section
variable {w wk W W' : World} {a:Option Addr} {n c:Nat} {next:Int} {da:Option Addr} {dn dc:Nat} {xa:Option Addr} {xn xc:Nat} {I:Nat->Int} {X R:Nat->ByteArray} {Id:Nat->Int} {Xd:Nat->ByteArray} {Rf:Nat->Int} {M:Nat->Nat} {T:Nat->Nat->Tn} {ln:Nat} {Ch:Nat->Int} {b0 b1 b2 g0 g1 g2 g3:Nat} {R9:Nat->Nat}
theorem Ll.keep (h:Ll w wk W a n c next da dn dc xa xn xc I X R Id Xd Rf M T ln Ch b0 b1 b2 g0 g1 g2 g3 R9) (hb:Bl W W'):Ll w wk W' a n c next da dn dc xa xn xc I X R Id Xd Rf M T ln Ch b0 b1 b2 g0 g1 g2 g3 R9:=
 ⟨h.kp,h.bel.trans (hb.mono h.bel.size),(hb.block _ h.x0.lt).trans h.x0,(hb.block _ h.x1.lt).trans h.x1,(hb.block _ h.x2.lt).trans h.x2,h.r0.of_block (hb.block _ h.r0.lt),h.r1.of_block (hb.block _ h.r1.lt),h.r2.below hb,h.r3.of_block (hb.block _ h.r3.lt),h.pos⟩
theorem Ll.k (h:Ll w wk W a n c next da dn dc xa xn xc I X R Id Xd Rf M T ln Ch b0 b1 b2 g0 g1 g2 g3 R9):K3 w a n c next da dn dc xa xn xc W:=h.kp.on h.bel
theorem Ll.cells (h:Ll w wk W a n c next da dn dc xa xn xc I X R Id Xd Rf M T ln Ch b0 b1 b2 g0 g1 g2 g3 R9):W.cell? (ad b0 0)=some (.slice (some (ad g0 0)) n n)/\(W.cell? (ad b1 0)=some (iv next)/\W.cell? (ad b1 1)=some (.slice (some (ad g1 0)) dn dn))/\W.cell? (ad b2 0)=some (.slice (some (ad g2 0)) xn xn):=⟨h.x0.cell 0,⟨h.x1.cell 0,h.x1.cell 1⟩,h.x2.cell 0⟩
theorem Ll.marks {W1 W2 W3 W4:World} {B9:Nat} (h:Ll w wk W a n c next da dn dc xa xn xc I X R Id Xd Rf M T ln Ch b0 b1 b2 g0 g1 g2 g3 R9) (h9:B9<=W.heap.size) (hb9:g3<B9) (m1:W.grownBy W1 (some g0)) :
  (Bx W1 b1 45 #[iv next,.slice (some (ad g1 0)) dn dn]/\Ai W1 g1 131 (dn*3) (Az Id Xd Rf))/\(W1.grownBy W2 (some g1)->(Bx W2 b2 49 #[.slice (some (ad g2 0)) xn xn]/\AT W2 (g2+1) g2 xn 0 xn M T R9)/\(En (R9 0) (R9 xn) W2 W3->Ai W3 g3 2 ln (λi=>iv (Ch i))/\(W3.grownBy W4 (some g3)->Bl wk W4/\W.heap.size<=W4.heap.size/\∀b,B9<=b->b<W.heap.size->W4.heap[b]?=W.heap[b]?))):=by obtain⟨p1,p2,p3,p4,p5,p6,p7⟩:=h.pos;have hg2:=h.r2.2.1;have hR:=h.r2.2.2.2.1 0 xn (Ww _) (Wu _);have s1:=m1.size;have sx:=h.x1.lt;have s3':=h.r3.lt;have e1:∀b,b<W.heap.size->b≠g0->W1.heap[b]?=W.heap[b]?:=λb hb hne=>m1.block b hb (λe=>hne (by injection e));have hx1:Bx W1 b1 45 #[iv next,.slice (some (ad g1 0)) dn dn]:=(e1 _ h.x1.lt (by omega)).trans h.x1;have hx2:Bx W1 b2 49 #[.slice (some (ad g2 0)) xn xn]:=(e1 _ h.x2.lt (by omega)).trans h.x2;have hr2:AT W1 (g2+1) g2 xn 0 xn M T R9:=h.r2.stay s1 (λb hb hlt=>e1 b hlt (by omega));have hb1:Bl wk W1:=h.bel.grown m1 h.bel.size (λb e=>by injection e with e;omega);refine⟨⟨hx1,h.r1.of_block (e1 _ h.r1.lt (by omega))⟩,λm2=>?_⟩;have s2:=m2.size;have e2:∀b,b<W1.heap.size->b≠g1->W2.heap[b]?=W1.heap[b]?:=λb hb hne=>m2.block b hb (λe=>hne (by injection e));have hr3:AT W2 (g2+1) g2 xn 0 xn M T R9:=hr2.stay s2 (λb hb hlt=>e2 b hlt (by omega));refine⟨⟨(e2 _ hx2.lt (by omega)).trans hx2,hr3⟩,λm3=>?_⟩;have hb2:=hb1.grown m2 hb1.size (λb e=>by injection e with e;omega);have s3:=m3.2.2.2.1;have e3:=λb hb hge=>m3.2.2.2.2 b hb (.inr hge);have hb3:=hb2.trans ((m3.below (by omega)).mono (by omega));refine⟨h.r3.of_block ((e3 _ (by omega) (by omega)).trans ((e2 _ (by omega) (by omega)).trans (e1 _ s3' (by omega)))),λm4=>?_⟩;have s4:=m4.size;refine⟨hb3.grown m4 hb3.size (λb e=>by injection e with e;omega),by omega,λb hb hlt=>?_⟩;exact (m4.block b (by omega) (λe=>by injection e with e;omega)).trans ((e3 _ (by omega) (by omega)).trans ((e2 _ (by omega) (by omega)).trans (e1 _ hlt (by omega))))
end
def An (W:World) (B b:Nat) (err:Int) (rds l:Nat) (a:Option Addr) (c:Nat) (L:List ByteArray):Prop:=Bx W b 37 #[iv err,.slice a l c,iv (rds:Int)]/\Ka W B a L/\B<=b/\B<=W.heap.size
theorem An.stay {W W' : World} {B b:Nat} {err:Int} {rds l:Nat} {a:Option Addr} {c:Nat} {L:List ByteArray} (h:An W B b err rds l a c L) (hs:W.heap.size<=W'.heap.size) (hk:∀b,B<=b->b<W.heap.size->W'.heap[b]?=W.heap[b]?):An W' B b err rds l a c L:=⟨(hk _ h.2.2.1 h.1.lt).trans h.1,h.2.1.stay hk,h.2.2.1,WC h.2.2.2 hs⟩
theorem An.below {W':World} (h:An W B b err rds l a c L) (hb:Bl W W'):An W' B b err rds l a c L:=h.stay hb.size (λb _ hlt=>hb.block b hlt)
theorem An.cells (h:An W B b err rds l a c L):W.cell? (ad b 0)=some (iv err)/\W.cell? (ad b 1)=some (.slice a l c)/\W.cell? (ad b 2)=some (iv (rds:Int)):=⟨h.1.cell 0,h.1.cell 1,h.1.cell 2⟩
theorem An.ow (h:An W B b err rds l a c L):Ka W B a L:=h.2.1
theorem An.le (h:An W B b err rds l a c L):B<=W.heap.size:=h.2.2.2
theorem US {r:Int} {v:Value} (h:Bx W b 37 #[iv err,v,iv r]):W.cell? (ad b 0)=some (iv err)/\W.cell? (ad b 1)=some v/\W.cell? (ad b 2)=some (iv r):=⟨h.cell 0,h.cell 1,h.cell 2⟩
end Go.Proofs.YtacpbofiipdodaaGreat
