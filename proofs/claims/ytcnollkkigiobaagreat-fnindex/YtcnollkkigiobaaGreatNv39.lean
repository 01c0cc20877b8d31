import Derived.Test.YtcnollkkigiobaaGreatNv37
set_option linter.unusedVariables false
set_option linter.unusedSimpArgs false
set_option maxRecDepth 100000
set_option maxHeartbeats 90000000
namespace Go.Proofs.YtcnollkkigiobaaGreat
open Go Go.Deep Go.RowKit Go.Proofs.Tryz
theorem Mu (next:Int) (a:Option Addr) (n c:Nat) (I:Nat->Int) (X:Nat->ByteArray) (R:Nat->Int) (xa:Option Addr) (E:Nat) (M:Nat->Nat) (T:Nat->Nat->Tn) (A:Bool) (s p o g:ByteArray) (m:Nat) (w:World)
  (hd:Br w 0 a n I X R) (cj:n<=c) (cr:n<=m) (hm:m<=1000) (hi:FV 0 w xa 6 M T) (hv:VI 6 M T) :
  UO 129 #[.agg #[iv next,.slice a n c],.agg #[.slice xa 6 E],.agg #[.bool A,.string s,.string p,.string o,.string g]] w (JU (.agg #[iv next,.slice a n c]) (.agg #[.slice xa 6 E]) m w):=by
 obtain⟨y,rfl,cl,a0,G,bs,b9⟩:∃y,xa=some (ad y 0)/\y<w.heap.size/\∃a0 G,w.cell? (ad y 0)=some (.slice a0 (M 0) G)/\BQ 0 w a0 (M 0) (T 0):=by
  rcases hi with h|⟨y,e,_,h2,h3⟩;.omega
  .obtain⟨a0,G,q1,q2⟩:=h3 0 (by omega);exact⟨y,e,h2,a0,G,q1,q2⟩
 obtain⟨t0,v0,l0,k0⟩:=hv.t 0 (by omega);have HI:U ((∀W,Bl w W->Ci W (some (ad y 0)) 6 M T)/\VI 6 M T):=⟨λW H=>(hi.below H).rdC,hv⟩;have HQ:U (∀W,Bl w W->UO 33 #[.agg #[.slice a0 (M 0) G],iv 0] W λe u=>∃P L Y,e=.returned (.slice P (List.length L) Y)/\FX u P L/\L.length<=300/\Bl W u):=λW H=>((CB 0 (by omega) a0 (M 0) G (T 0) t0 W (b9.rd.below H) v0 v0.fit (λk hk=>(k0 k hk).1) l0 _ rfl).mono (by rintro e u ⟨P,Y,q1,q2,q3⟩;exact⟨P,_,Y,q1,q2,by simpa using l0,q3⟩));have HT:U (∀W x,Bl w W->UO 146 #[.agg #[iv next,.slice a n c],.string x] W λe u=>∃r,e=.returned (iv r)/\Bl W u):=λW x H=>(MM next a n c I X R x W (hd.rd.below H) (by omega)).mono (by rintro e u ⟨r,q1,_,q2⟩;exact⟨r,q1,q2⟩);have HD:U (Br w 0 a n I X R):=hd;have cp:U (∀W,Bl w W->W.cell? (ad y 0)=some (.slice a0 (M 0) G)):=λW H=>(H.cell (p:=(ad y 0)) cl).trans bs;clear hd hi hv b9 v0 l0 k0 bs;obtain⟨W0,bj⟩:∃W0,W0=((((w.alloc (.cells #[iv next,.slice a n c] 141)).alloc (.cells #[.slice (some (ad y 0)) 6 E] 32)).alloc (.cells #[.bool A,.string s,.string p,.string o,.string g] 194)).alloc (.cells #[iv 0,.slice none 0 0] 141)).alloc (.cells #[.slice none 0 0] 32):=⟨_,rfl⟩;have B0:U (Jc w next a n c y E A s p o g W0/\W0.heap.size=w.heap.size+5):=by have b1:=Bx.new w #[iv next,.slice a n c] 141;have b2:=Bx.new (w.alloc (.cells #[iv next,.slice a n c] 141)) #[.slice (some (ad y 0)) 6 E] 32;have b3:=Bx.new ((w.alloc (.cells #[iv next,.slice a n c] 141)).alloc (.cells #[.slice (some (ad y 0)) 6 E] 32)) #[.bool A,.string s,.string p,.string o,.string g] 194;have b4:=Bx.new (((w.alloc (.cells #[iv next,.slice a n c] 141)).alloc (.cells #[.slice (some (ad y 0)) 6 E] 32)).alloc (.cells #[.bool A,.string s,.string p,.string o,.string g] 194)) #[iv 0,.slice none 0 0] 141;have b5:=Bx.new ((((w.alloc (.cells #[iv next,.slice a n c] 141)).alloc (.cells #[.slice (some (ad y 0)) 6 E] 32)).alloc (.cells #[.bool A,.string s,.string p,.string o,.string g] 194)).alloc (.cells #[iv 0,.slice none 0 0] 141)) #[.slice none 0 0] 32;simp only[UF] at b2 b3 b4 b5;rw[bj];exact⟨⟨(((b1.alloc _).alloc _).alloc _).alloc _,((b2.alloc _).alloc _).alloc _,(b3.alloc _).alloc _,b4.alloc _,b5,((((Aa _ _).alloc (by simp) _).alloc (by simp;omega) _).alloc (by simp;omega) _).alloc (by simp;omega) _,by simp⟩,by simp⟩
 go_enter func129,ntmps129;go_upto_region 1 with fail
 rw[<- bj];clear bj;go_upto_region 2 with fail
 obtain⟨⟨d0,d1⟩,-,-⟩:=(B0.o.1.call (Aa W0 (.cells #[] 2))).cells;go_upto_region 3 with fail
 obtain⟨W1,bl⟩:∃W1,W1=(W0.alloc (.cells #[] 2)).alloc (.cells #[iv next,.slice a n c] 141):=⟨_,rfl⟩;have B1:U (Jc w next a n c y E A s p o g W1/\W1.ownsRow (w.heap.size+5) 2 1 (.slice (some (ad (w.heap.size+5) 0)) 0 0) 0 (Cp [])/\Bx W1 (w.heap.size+6) 141 #[iv next,.slice a n c]):=by have hz:=B0.o.2;have e1:=Bx.new (W0.alloc (.cells #[] 2)) #[iv next,.slice a n c] 141;rw[UF,hz] at e1;have o1:=Aw W0 2 (w.heap.size+5) 1 (by omega);rw[hz] at o1;rw[bl];exact⟨(B0.o.1.call (Aa _ _)).call (Aa _ _),Ag o1 (Aa _ _),e1⟩
 have bt:=B0.o.2;simp only[UF,bt];rw[<- bl];clear bl d0 d1 bt;go_wp2;go_loopw [9,11] (λv i wr=>∃(k:Nat) (L:List Int),k<=4/\i=iv k/\L.length=k/\wr.ownsRow (w.heap.size+5) 2 1 v k (Cp L)/\Jc w next a n c y E A s p o g wr/\Bx wr (w.heap.size+6) 141 #[iv next,.slice a n c]) (λ_ i _=>4-(intOf i).toNat)
 case atStart=>exact⟨0,[],by omega,rfl,rfl,B1.o.2.1,B1.o.1,B1.o.2.2⟩
 case round=>
  obtain⟨k,L,hk,rfl,hL,ap,bo,bq⟩:=hrel;obtain⟨ia,ic,rfl,ce⟩:=Af ap;have H0:U (wr.ownsRow (w.heap.size+5) 2 1 (.slice ia k ic) k (Cp L)/\Jc w next a n c y E A s p o g wr/\Bx wr (w.heap.size+6) 141 #[iv next,.slice a n c]/\L.length=k):=⟨ap,bo,bq,hL⟩;have k0:(0:Int)<=(k:Int):=by omega
  clear ap bo bq hL B1 B0;by_cases al:k<4
  .have k1:(k:Int)<4:=by omega
   clear ce;obtain⟨⟨d0,d1⟩,x0,G,c1,c2,c3,c4⟩:=H0.o.2.1.cells;go_wp2_with fail
   refine (Ic s p o g k al wr).mono ?_;rintro e w1 ⟨x1,rfl,b7⟩;have H1:=Ae b7;clear d0 d1 x0 G c1 c2 c3 c4 b7;go_wp2_with fail
   refine (P7 x1 w1).mono ?_;rintro e w2 ⟨⟨b2,rfl⟩,bi⟩;have K2:=Ae (And.intro ((H0.o.2.1.call H1.o).call bi) (H1.o.trans (bi.mono H1.o.size)));clear bi H1;cases b2;·
    obtain⟨⟨d0,d1⟩,x0,-⟩:=K2.o.1.cells
    obtain⟨⟨r0,r1,rf⟩,r2,ay,rl,aq⟩:=K2.o.1.res
    go_upto_region 7 with fail
    go_region
    go_wp2
    refine bodyPost_ret (v:=.tuple #[iv 3,.agg #[iv next,.slice a n c],.agg #[.slice (some (ad y 0)) 6 E]]) (by simp[results,results129,go_sem,r0,r1,r2]) rfl ?_
    exact (K2.o.1.ret 3 (.inr ⟨rfl,rfl⟩)).drew
   .obtain⟨⟨d0,d1⟩,x0,G,c1,c2,c3,c4⟩:=K2.o.1.cells;have l:U (∀W,Jc w next a n c y E A s p o g W->W.cell? (ad w.heap.size 0)=some (iv next)/\W.cell? (ad w.heap.size 1)=some (.slice a n c)/\W.cell? (ad (w.heap.size+2) 1)=some (.string s)/\W.cell? (ad (w.heap.size+2) 2)=some (.string p)/\W.cell? (ad (w.heap.size+2) 3)=some (.string o)/\W.cell? (ad (w.heap.size+2) 4)=some (.string g)):=λW h=>⟨h.cells.1.1,h.cells.1.2,h.cells.2.2.2⟩;go_upto_region 8 with fail
    refine Aj (S:=(λu=>u.cell? (ad w.heap.size 0)=some (iv next)/\u.cell? (ad w.heap.size 1)=some (.slice a n c)/\u.cell? (ad (w.heap.size+2) 1)=some (.string s)/\u.cell? (ad (w.heap.size+2) 2)=some (.string p)/\u.cell? (ad (w.heap.size+2) 3)=some (.string o)/\u.cell? (ad (w.heap.size+2) 4)=some (.string g))) 9 (by kernel_rfl) ?_ (λd=>?_);·((try dsimp only);(first|exact l.o _ (K2.o.1.call (Up _ _).drew)|exact l.o _ C3.o|exact l.o _ C4.o|exact l.o _ (C4.o.call (Aa _ _))|exact l.o _ C6.o))
    refine tz 0 rfl ?_;refine tz 1 rfl ?_;refine tz 2 rfl ?_;refine tz 3 rfl ?_;refine tz 4 rfl ?_;refine At 5 rfl (λK f=>?_);refine BD (by rfl) 145 34 35 _ (by rfl) (.agg #[.string s,.string p,.string o,.string g]) (iv (k:Int)) (by rfl) (by rfl) (λ_ _=>rfl) ?_;refine (Ic s p o g k al _).mono ?_;rintro e w3 ⟨x3,rfl,ac⟩;refine⟨_,rfl,?_⟩;have C3:=Ae ((K2.o.1.call (Up _ _).drew).call ac);have B3:=Ae (K2.o.2.trans (((Up _ _).drew.trans ac).mono K2.o.2.size));clear ac;refine tL f (by (try dsimp only);(first|exact l.o _ (K2.o.1.call (Up _ _).drew)|exact l.o _ C3.o|exact l.o _ C4.o|exact l.o _ (C4.o.call (Aa _ _))|exact l.o _ C6.o)) ?_;clear f K d;intro d;try simp only[Ay]
    refine At 6 rfl (λK f=>?_);refine BD (by rfl) 146 32 36 _ (by rfl) (.agg #[iv next,.slice a n c]) (.string x3) (by rfl) (by rfl) (λ_ _=>rfl) ?_;refine (HT.o w3 x3 C3.o.bel).mono ?_;rintro e w4 ⟨r4,rfl,bk⟩;refine⟨_,rfl,?_⟩;have C4:=Ae (C3.o.call bk);have B4:=Ae (B3.o.trans (bk.mono B3.o.size));clear bk;refine tL f (by (try dsimp only);(first|exact l.o _ (K2.o.1.call (Up _ _).drew)|exact l.o _ C3.o|exact l.o _ C4.o|exact l.o _ (C4.o.call (Aa _ _))|exact l.o _ C6.o)) ?_;clear f K d;intro d;try simp only[Ay]
    refine At 7 rfl (λK f=>?_);refine Qh (by rfl) (by rfl) (by rfl) ⟨r4,rfl⟩ ?_;refine tL f (by (try dsimp only);(first|exact l.o _ (K2.o.1.call (Up _ _).drew)|exact l.o _ C3.o|exact l.o _ C4.o|exact l.o _ (C4.o.call (Aa _ _))|exact l.o _ C6.o)) ?_;clear f K d;intro d;try simp only[Ay]
    refine At 8 rfl (λK f=>?_);refine Oi (by rfl) (.tmp 31) (.tmp 38) (by rfl) (w.heap.size+5) k (.slice ia k ic) (Cp L) (by rfl) _ (Ag (Ag H0.o.1 B4.o) (Aa _ _)) (by rfl) rfl (by omega) (Uy H0.o.2.1.sz B4.o.size) ?_;intro v6 w6 ae bf;have C6:=Ae ((C4.o.call (Aa w4 (.cells #[iv r4] 2))).nxt ((Up _ _).grown bf (C4.o.call (Aa _ _)).sz (λq e=>(Ah H0.o.1 q e).1)));have E6:=Ae (((H0.o.2.2.1.below B4.o).alloc _).grown bf (ED H0.o.1 H0.o.2.2.1 (by decide)));have O6:=Ae ae;clear ae bf;refine tL f (by (try dsimp only);(first|exact l.o _ (K2.o.1.call (Up _ _).drew)|exact l.o _ C3.o|exact l.o _ C4.o|exact l.o _ (C4.o.call (Aa _ _))|exact l.o _ C6.o)) ?_;clear f K d;intro d;try simp only[Ay]
    refine At 9 rfl (λK f=>?_);go_simp;refine tM f ?_;clear f K;obtain⟨a6,c6,rfl,-⟩:=Af O6.o;clear l K2 C3 B3 C4 B4;go_wp2;go_roundw;case rel=>exact⟨k+1,L++[r4],by omega,by go_num,by rw[Uz,H0.o.2.2.2];rfl,by rw[Is];exact O6.o,C6.o,E6.o⟩
    case measure=>simp[intOf];omega
  .have k4:k=4:=by omega
   subst k4;obtain⟨D,rfl,cq,a7,ar⟩:=ce (by omega);obtain⟨i0,i1,i2,i3,rfl⟩:∃i0 i1 i2 i3,L=[i0,i1,i2,i3]:=by
    have:=H0.o.2.2.2;match L,this with
    | [i0,i1,i2,i3],_=>exact⟨i0,i1,i2,i3,rfl⟩
   have y0:=ar 0 _ rfl;have y1:=ar 1 _ rfl;have y2:=ar 2 _ rfl;have y3:=ar 3 _ rfl;clear ar;have aw:U (∀W,Bl wr W->W.cell? (ad D 0)=some (iv i0)/\W.cell? (ad D 1)=some (iv i1)/\W.cell? (ad D 2)=some (iv i2)/\W.cell? (ad D 3)=some (iv i3)):=λW H=>⟨(H.cell (p:=(ad D 0)) a7).trans y0,(H.cell (p:=(ad D 1)) a7).trans y1,(H.cell (p:=(ad D 2)) a7).trans y2,(H.cell (p:=(ad D 3)) a7).trans y3⟩;clear y0 y1 y2 y3;go_upto_region 9 with fail
   refine Aj (S:=(λu=>u.cell? (ad D 0)=some (iv i0)/\u.cell? (ad D 1)=some (iv i1)/\u.cell? (ad D 2)=some (iv i2)/\u.cell? (ad D 3)=some (iv i3))) 14 (by kernel_rfl) ?_ (λd=>?_);·((try dsimp only);(first|exact aw.o _ (Up _ _).drew|exact aw.o _ (Aa _ _).drew))
   refine tz 0 rfl ?_;refine tz 1 rfl ?_;refine tz 2 rfl ?_;refine tz 3 rfl ?_;refine tz 4 rfl ?_;refine tz 5 rfl ?_;refine tz 6 rfl ?_;refine tz 7 rfl ?_;refine tz 8 rfl ?_;refine tz 9 rfl ?_;refine tz 10 rfl ?_;refine tz 11 rfl ?_;refine tz 12 rfl ?_;refine At 13 rfl (λK f=>?_);go_simp;refine tL f (by (try dsimp only);(first|exact aw.o _ (Up _ _).drew|exact aw.o _ (Aa _ _).drew)) ?_;clear f K d;intro d;try simp only[Ay]
   refine At 14 rfl (λK f=>?_);go_simp;refine tM f ?_;clear f K;obtain⟨W9,a1⟩:∃W9,W9=(wr.alloc (.cells #[iv i0,iv i1,iv i2,iv i3] 34)).drew:=⟨_,rfl⟩;have N9:U (Jc w next a n c y E A s p o g W9/\Bx W9 wr.heap.size 34 #[iv i0,iv i1,iv i2,iv i3]/\Ep W9 D/\Bx W9 (w.heap.size+6) 141 #[iv next,.slice a n c]/\w.heap.size+5<=wr.heap.size):=by
    have H:Bl wr W9:=by rw[a1];exact (Aa _ _).drew
    obtain⟨cm,q1,q2⟩:=Kt H0.o.1;refine⟨H0.o.2.1.call H,by rw[a1];exact Bx.new wr _ _,Ep.below ⟨cm,q1,λj hj=>?_⟩ H,H0.o.2.2.1.below H,H0.o.2.1.sz⟩;match j,hj with
    | 0,_=>exact⟨i0,q2 0 _ rfl⟩
    | 1,_=>exact⟨i1,q2 1 _ rfl⟩
    | 2,_=>exact⟨i2,q2 2 _ rfl⟩
    | 3,_=>exact⟨i3,q2 3 _ rfl⟩
   have C:U (∀W,Bl W9 W->W.cell? (ad (w.heap.size+1) 0)=some (.slice (some (ad y 0)) 6 E)/\W.cell? (ad y 0)=some (.slice a0 (M 0) G)/\W.cell? (ad wr.heap.size 0)=some (iv i0)/\W.cell? (ad wr.heap.size 1)=some (iv i1)/\W.cell? (ad wr.heap.size 2)=some (iv i2)/\W.cell? (ad wr.heap.size 3)=some (iv i3)):=λW H=>by have q:=N9.o.2.1.below H;exact⟨(N9.o.1.call H).cells.2.1,cp.o W (N9.o.1.call H).bel,q.cell 0,q.cell 1,q.cell 2,q.cell 3⟩
   go_upto_region 10 with fail
   rw[<- a1];clear a1 aw;refine Aj (S:=(λu=>u.cell? (ad (w.heap.size+1) 0)=some (.slice (some (ad y 0)) 6 E)/\u.cell? (ad y 0)=some (.slice a0 (M 0) G)/\u.cell? (ad wr.heap.size 0)=some (iv i0)/\u.cell? (ad wr.heap.size 1)=some (iv i1)/\u.cell? (ad wr.heap.size 2)=some (iv i2)/\u.cell? (ad wr.heap.size 3)=some (iv i3))) 7 (by kernel_rfl) ?_ (λd=>?_);·((try dsimp only);(first|exact C.o _ (Up _ _).drew|exact C.o _ ao.o|exact C.o _ ag.o))
   refine tz 0 rfl ?_;refine tz 1 rfl ?_;refine tz 2 rfl ?_;refine tz 3 rfl ?_;refine tz 5 rfl ?_;refine At 4 rfl (λK f=>?_);refine Iq (by rfl) 33 56 (iv 0) _ (by rfl) (.agg #[.slice a0 (M 0) G]) (by rfl) (λ_ _=>rfl) ?_;refine (HQ.o _ (N9.o.1.call (Up _ _).drew).bel).mono ?_;rintro e co ⟨qa,Lq,qc,rfl,br,bu,bd⟩;refine⟨_,rfl,?_⟩;have ao:=Ae ((Up _ _).drew.trans bd);have RQ:=Ae (And.intro br bu);clear br bu bd;refine tL f (by (try dsimp only);(first|exact C.o _ (Up _ _).drew|exact C.o _ ao.o|exact C.o _ ag.o)) ?_;clear f K d;intro d;try simp only[Ay]
   refine At 6 rfl (λK f=>?_);refine BD (by rfl) 43 57 58 _ (by rfl) (.slice qa Lq.length qc) (.agg #[iv i0,iv i1,iv i2,iv i3]) (by rfl) (by rfl) (λ_ _=>rfl) ?_;refine (Fu qa Lq.length qc Lq ⟨i0,i1,i2,i3⟩ co RQ.o.1 rfl (by have:=RQ.o.2;omega)).mono ?_;rintro e ck ⟨tb,rfl,-,bc⟩;refine⟨_,rfl,?_⟩;have ag:=Ae (ao.o.trans (bc.mono ao.o.size));clear bc;refine tL f (by (try dsimp only);(first|exact C.o _ (Up _ _).drew|exact C.o _ ao.o|exact C.o _ ag.o)) ?_;clear f K d;intro d;try simp only[Ay]
   refine At 7 rfl (λK f=>?_);go_simp;refine tM f ?_;clear f K;have K0:U (Ks w next a n c y E A s p o g D wr.heap.size m 0 next a n c I X R ck):=⟨N9.o.1.call ag.o,N9.o.2.2.1.below ag.o,⟨_,_,_,_,N9.o.2.1.below ag.o⟩,N9.o.2.2.2.1.below ag.o,(HD.o.keep (λb _ hl=>(N9.o.1.call ag.o).bel.block b hl)).mono (Us _),λh=>absurd rfl h,by omega,N9.o.2.2.2.2,cj,by omega⟩;have K1:=Ae (And.intro K0.o.ch trivial);obtain⟨F,ba⟩:∃F,F=A:=⟨_,rfl⟩;obtain⟨qb,N⟩:∃qb,qb=wr.heap.size:=⟨_,rfl⟩;rw[<- ba] at K1;rw[<- ba,<- N] at K0;rw[<- N];have ah:=Ae ba;clear C N9 ao ag RQ d N ba H0;have bg:(A=false/\tb=false)\/(A=true/\tb=true)\/((A=true/\tb=false)\/(A=false/\tb=true)):=by cases A <;> cases tb <;> simp
   rcases bg with ⟨rfl,rfl⟩|⟨rfl,rfl⟩|bg
   .have G:=K1.o.1.cells.2.2.1;rw[ah.o] at G;obtain⟨⟨d0,d1⟩,x0,-⟩:=K1.o.1.cells;obtain⟨⟨r0,r1,rf⟩,r2,ay,rl,aq⟩:=K1.o.1.res;go_upto_region 14 with fail
    go_region
    go_wp2;refine bodyPost_ret (v:=.tuple #[iv 5,.agg #[iv next,.slice a n c],.agg #[.slice (some (ad y 0)) 6 E]]) (by simp[results,results129,go_sem,r0,r1,r2]) rfl ?_;exact (K1.o.1.ret 5 (.inr ⟨rfl,rfl⟩)).drew
   .have G:=K1.o.1.cells.2.2.1;rw[ah.o] at G;obtain⟨⟨d0,d1⟩,x0,-⟩:=K1.o.1.cells;obtain⟨⟨r0,r1,rf⟩,r2,ay,rl,aq⟩:=K1.o.1.res;go_upto_region 12 with fail
    go_region
    go_wp2;refine bodyPost_ret (v:=.tuple #[iv 4,.agg #[iv next,.slice a n c],.agg #[.slice (some (ad y 0)) 6 E]]) (by simp[results,results129,go_sem,r0,r1,r2]) rfl ?_;exact (K1.o.1.ret 4 (.inr ⟨rfl,rfl⟩)).drew
   .rcases bg with ⟨rfl,rfl⟩|⟨rfl,rfl⟩;all_goals
     have G:=K1.o.1.cells.2.2.1
     rw[ah.o] at G
     clear K1
     go_wp2
     go_loopw [14] (λi wr=>∃(k:Nat) (nx:Int) (P : Option Addr) (n' Y : Nat) (I' : Nat->Int) (X' : Nat->ByteArray) (R' : Nat->Int),k<=4/\i=iv k/\Ks w next a n c y E F s p o g D qb m k nx P n' Y I' X' R' wr) (λi _=>4-(intOf i).toNat)
     case atStart=>exact⟨0,next,a,n,c,I,X,R,by omega,rfl,K0.o⟩
     case round=>
      obtain⟨k,nx,P,n',Y,I',X',R',hk,rfl,h2⟩:=hrel
      have Q:=Ae h2
      have k0:(0:Int)<=(k:Int):=by omega
      clear h2 K0 G
      by_cases al:k<4
      .have k1:(k:Int)<4:=by omega
       obtain⟨ik,be⟩:=Q.o.ids.cell k al
       have aa:U (∀W,Bl wr W->W.cell? (ad (w.heap.size+6) 0)=some (iv nx)/\W.cell? (ad (w.heap.size+6) 1)=some (.slice P n' Y)/\W.cell? (ad D k)=some (iv ik)):=λW H=>⟨(Q.o.call H).cells.1,(Q.o.call H).cells.2.1,(H.cell (p:=(ad D k)) Q.o.ids.lt).trans be⟩
       clear be
       go_upto_region 18 with fail
       refine Aj (S:=(λu=>u.cell? (ad (w.heap.size+6) 0)=some (iv nx)/\u.cell? (ad (w.heap.size+6) 1)=some (.slice P n' Y)/\u.cell? (ad D k)=some (iv ik))) 7 (by kernel_rfl) ?_ (λd=>?_)
       ·((try dsimp only);exact aa.o _ (Up _ _).drew)
       refine tz 0 rfl ?_
       refine tz 1 rfl ?_
       refine tz 2 rfl ?_
       refine tz 3 rfl ?_
       refine tz 4 rfl ?_
       refine ST 5 6 rfl rfl (by kernel_rfl) (λK f=>?_) (λK f=>?_)
       focus
        refine BD (by rfl) 147 80 84 _ (by rfl) (.agg #[iv nx,.slice P n' Y]) (iv ik) (by rfl) (by rfl) (λ_ _=>rfl) ?_
        refine (J7 ik (Q.o.call (Up _ _).drew).rd.rd (by have:=Q.o.cap;omega) Q.o.cap.1).mono ?_
        rintro e w3 ⟨ac,ok,id,O,a2,n2,c2,I2,X2,R2,rfl,au,ax,av⟩
        refine⟨_,rfl,?_⟩
        have B3:=Ae ((Up _ _).drew.trans ac)
        have D3:=Ae (And.intro au (And.intro ax av))
        clear ac au ax av
        refine tL f (by (try dsimp only);exact aa.o _ B3.o) ?_
        clear f K d
        intro d
        try simp only[Ay]
        refine At 6 rfl (λK f=>?_)
        go_simp
        refine tL f (by (try dsimp only);exact aa.o _ (B3.o.trans ((Aa _ _).mono B3.o.size))) ?_
        clear f K d
        intro d
        try simp only[Ay]
        refine At 7 rfl (λK f=>?_)
        go_simp
        refine tM f ?_
        clear f K
        have Z:U (Pk w next a n c y E F s p o g D qb m k nx P n' Y I' X' R' w3.heap.size (w3.alloc (.cells #[.bool ok,iv id,iv O,.slice a2 n2 c2] 213))):=⟨ok,id,O,a2,n2,c2,I2,X2,R2,(Q.o.call B3.o).call (Aa _ _),Bx.new _ _ _,(D3.o.1.below (Aa _ _)).mono Q.o.ch.sz,D3.o.2.1,D3.o.2.2,Uy Q.o.ch.sz B3.o.size⟩
        go_upto_region 19 with fail
        obtain⟨z,am⟩:∃z,z=w3.heap.size:=⟨_,rfl⟩
        rw[<- am] at Z ⊢
        generalize w3.alloc (.cells #[.bool ok,iv id,iv O,.slice a2 n2 c2] 213)=V at Z ⊢
        clear am aa B3 D3 d
       rotate_left
       focus
        go_simp
        refine tL f (by (try dsimp only);exact aa.o _ (Aa _ _).drew) ?_
        clear f K d
        intro d
        try simp only[Ay]
        have BX:U (Bx (wr.alloc (.cells #[.bool false,iv 0,iv 0,.slice none 0 0] 213)).drew wr.heap.size 213 #[.bool false,iv 0,iv 0,.slice none 0 0]/\Bl wr (wr.alloc (.cells #[.bool false,iv 0,iv 0,.slice none 0 0] 213)).drew):=⟨Bx.new wr _ _,(Aa _ _).drew⟩
        obtain⟨z,am⟩:∃z,z=wr.heap.size:=⟨_,rfl⟩
        have bm:U (z=wr.heap.size):=am
        obtain⟨wa,b6⟩:∃wa,wa=(wr.alloc (.cells #[.bool false,iv 0,iv 0,.slice none 0 0] 213)).drew:=⟨_,rfl⟩
        rw[<- b6] at BX d ⊢
        rw[<- am]
        clear b6 am
        refine At 5 rfl (λK f=>?_)
        refine BD (by rfl) 147 80 84 _ (by rfl) (.agg #[iv nx,.slice P n' Y]) (iv ik) (by rfl) (by rfl) (λ_ _=>rfl) ?_
        refine (J7 ik (Q.o.call BX.o.2).rd.rd (by have:=Q.o.cap;omega) Q.o.cap.1).mono ?_
        rintro e w3 ⟨ac,ok,id,O,a2,n2,c2,I2,X2,R2,rfl,au,ax,av⟩
        refine⟨_,rfl,?_⟩
        have B3:=Ae (BX.o.2.trans (ac.mono BX.o.2.size))
        have D3:=Ae (And.intro au (And.intro ax (And.intro ac av)))
        clear ac au ax av
        have af:=(BX.o.1.below (D3.o.2.2.1))
        rw[<- bm.o] at af
        have z0:=af.cell 0
        have z1:=af.cell 1
        have z2:=af.cell 2
        have z3:=af.cell 3
        simp at z0 z1 z2 z3
        have zf:=af.frozen
        have zl:=af.lt
        refine tL f (by (try dsimp only);exact aa.o _ B3.o) ?_
        clear f K d
        intro d
        try simp only[Ay]
        refine At 7 rfl (λK f=>?_)
        go_simp
        refine tM f ?_
        clear f K
        obtain⟨V,hV⟩:∃V,V=(((w3.setCell (ad z 0) (.bool ok)).setCell (ad z 1) (iv id)).setCell (ad z 2) (iv O)).setCell (ad z 3) (.slice a2 n2 c2):=⟨_,rfl⟩
        have Z:U (Pk w next a n c y E F s p o g D qb m k nx P n' Y I' X' R' z V):=by
         rw[hV]
         exact⟨ok,id,O,a2,n2,c2,I2,X2,R2,Nm (Q.o.call B3.o) af (by rw[bm.o];exact Q.o.ch.sz) D3.o.1 (Uy Q.o.ch.sz BX.o.2.size) ⟨D3.o.2.1,D3.o.2.2.2⟩ _ _ _ _⟩
        go_upto_region 19 with fail
        rw[<- hV]
        clear hV aa B3 D3 BX bm d af z0 z1 z2 z3 zf zl
       all_goals
        obtain⟨ok,id,O,a2,n2,c2,I2,X2,R2,h3⟩:=Z.o
        have H3:=Ae h3
        clear h3 Z
        have G:=H3.o.1.ch.cells.2.2.1
        rw[ah.o] at G
        first
        | focus
          have q:F=true:=ah.o
          clear q
          have B:U (∀W,Bl V W->W.cell? (ad (w.heap.size+6) 0)=some (iv nx)/\W.cell? (ad (w.heap.size+6) 1)=some (.slice P n' Y)/\W.cell? (ad (w.heap.size+2) 1)=some (.string s)/\W.cell? (ad (w.heap.size+2) 2)=some (.string p)/\W.cell? (ad (w.heap.size+2) 3)=some (.string o)/\W.cell? (ad (w.heap.size+2) 4)=some (.string g)/\W.cell? (ad z 0)=some (.bool ok)/\W.cell? (ad z 1)=some (iv id)/\W.cell? (ad z 2)=some (iv O)/\W.cell? (ad z 3)=some (.slice a2 n2 c2)/\W.frozen? (ad z 0)=false/\W.frozen? (ad z 1)=false/\W.frozen? (ad z 2)=false/\W.frozen? (ad z 3)=false):=λW H=>by
           have r:=H3.o.2.1.below H
           have q:=H3.o.1.call H
           exact⟨q.cells.1,q.cells.2.1,q.ch.cells.2.2.2.1,q.ch.cells.2.2.2.2.1,q.ch.cells.2.2.2.2.2.1,q.ch.cells.2.2.2.2.2.2,r.cell 0,r.cell 1,r.cell 2,r.cell 3,r.frozen 0,r.frozen 1,r.frozen 2,r.frozen 3⟩
          go_upto_region 20 with fail
          refine Aj (S:=(λu=>u.cell? (ad (w.heap.size+6) 0)=some (iv nx)/\u.cell? (ad (w.heap.size+6) 1)=some (.slice P n' Y)/\u.cell? (ad (w.heap.size+2) 1)=some (.string s)/\u.cell? (ad (w.heap.size+2) 2)=some (.string p)/\u.cell? (ad (w.heap.size+2) 3)=some (.string o)/\u.cell? (ad (w.heap.size+2) 4)=some (.string g)/\u.cell? (ad z 0)=some (.bool ok)/\u.cell? (ad z 1)=some (iv id)/\u.cell? (ad z 2)=some (iv O)/\u.cell? (ad z 3)=some (.slice a2 n2 c2)/\u.frozen? (ad z 0)=false/\u.frozen? (ad z 1)=false/\u.frozen? (ad z 2)=false/\u.frozen? (ad z 3)=false)) 6 (by kernel_rfl) ?_ (λd=>?_)
          ·((try dsimp only);(first|exact B.o _ (Up _ _).drew|exact B.o _ B5.o|exact B.o _ B6.o))
          refine tz 0 rfl ?_
          refine tz 1 rfl ?_
          refine tz 2 rfl ?_
          refine tz 3 rfl ?_
          refine At 4 rfl (λK f=>?_)
          refine BD (by rfl) 145 90 91 _ (by rfl) (.agg #[.string s,.string p,.string o,.string g]) (iv (k:Int)) (by rfl) (by rfl) (λ_ _=>rfl) ?_
          refine (Ic s p o g k al _).mono ?_
          rintro e w5 ⟨x5,rfl,ca⟩
          refine⟨_,rfl,?_⟩
          have B5:=Ae ((Up _ _).drew.trans ca)
          clear ca
          refine tL f (by (try dsimp only);(first|exact B.o _ (Up _ _).drew|exact B.o _ B5.o|exact B.o _ B6.o)) ?_
          clear f K d
          intro d
          try simp only[Ay]
          refine At 5 rfl (λK f=>?_)
          refine BD (by rfl) 148 88 92 _ (by rfl) (.agg #[iv nx,.slice P n' Y]) (.string x5) (by rfl) (by rfl) (λ_ _=>rfl) ?_
          refine (Qm x5 (H3.o.1.call B5.o).rd.rd (by have:=Q.o.cap;omega) Q.o.cap.1).mono ?_
          rintro e w6 ⟨cb,bv,cd,b0,a6,n6,c6,I6,X6,R6,rfl,ae,ak,aj⟩
          refine⟨_,rfl,?_⟩
          have B6:=Ae (B5.o.trans (cb.mono B5.o.size))
          have D6:=Ae (And.intro ae (And.intro ak aj))
          have cn:=(B.o w6 B6.o)
          have l6:=(H3.o.2.1.below B6.o).lt
          clear cb ae ak aj
          refine tL f (by (try dsimp only);(first|exact B.o _ (Up _ _).drew|exact B.o _ B5.o|exact B.o _ B6.o)) ?_
          clear f K d
          intro d
          try simp only[Ay]
          refine At 6 rfl (λK f=>?_)
          obtain⟨-,-,-,-,-,-,z0,z1,z2,z3,f0,f1,f2,f3⟩:=cn
          go_simp
          refine tM f ?_
          clear f K
          obtain⟨V5,bh⟩:∃V5,V5=(((w6.setCell (ad z 0) (.bool bv)).setCell (ad z 1) (iv cd)).setCell (ad z 2) (iv b0)).setCell (ad z 3) (.slice a6 n6 c6):=⟨_,rfl⟩
          have H5:U (Ks w next a n c y E F s p o g D qb m k nx P n' Y I' X' R' V5/\Bx V5 z 213 #[.bool bv,iv cd,iv b0,.slice a6 n6 c6]/\Br V5 (w.heap.size+5) a6 n6 I6 X6 R6/\n6<=c6/\n6<=n'+1/\w.heap.size+5<=z):=by
           rw[bh]
           exact Nm (H3.o.1.call B6.o) (H3.o.2.1.below B6.o) H3.o.2.2.2.2.2 D6.o.1 (Uy H3.o.1.ch.sz B5.o.size) D6.o.2 _ _ _ _
          clear H3 B B5 B6 D6 G d z0 z1 z2 z3 f0 f1 f2 f3 l6
          try rw[<- bh]
          clear bh
          go_upto_region 21 with fail
          have Z:U (Pk w next a n c y E F s p o g D qb m k nx P n' Y I' X' R' z V5):=⟨_,_,_,_,_,_,_,_,_,H5.o⟩
          clear H5
          generalize V5=Vx at Z ⊢
        | focus
          go_upto_region 21 with fail
          have Z:U (Pk w next a n c y E F s p o g D qb m k nx P n' Y I' X' R' z V):=⟨_,_,_,_,_,_,_,_,_,H3.o⟩
          clear H3 G
          generalize V=Vx at Z ⊢
        obtain⟨ok,id,O,a2,n2,c2,I2,X2,R2,h6,J,ae,ak,aj,ci⟩:=Z.o
        have H6:=Ae h6
        have D6:=Ae (And.intro ae (And.intro ak aj))
        have r0:=J.cell 0
        have r1:=J.cell 1
        have r2:=J.cell 2
        have r3:=J.cell 3
        simp at r0 r1 r2 r3
        have K6:=Ae (And.intro h6.ch trivial)
        cases ok
        .clear r1 r2 r3
         have z0:=r0
         clear Z h6 J ae ak aj ci r0
         obtain⟨⟨d0,d1⟩,x0,-⟩:=K6.o.1.cells
         obtain⟨⟨r0,r1,rf⟩,r2,ay,rl,aq⟩:=K6.o.1.res
         go_upto_region 22 with fail
         go_region
         go_wp2
         refine bodyPost_ret (v:=.tuple #[iv 6,.agg #[iv next,.slice a n c],.agg #[.slice (some (ad y 0)) 6 E]]) (by simp[results,results129,go_sem,r0,r1,r2]) rfl ?_
         exact (K6.o.1.ret 6 (.inr ⟨rfl,rfl⟩)).drew
        .obtain⟨e0,e1,ef,el⟩:=h6.cells
         obtain⟨ik,be⟩:=h6.ids.cell k al
         have gf:=h6.ids.frozen
         have gl:=h6.ids.lt
         have m1:¬ z=D:=λe=>h6.ids.bx J (by decide) e.symm
         have m2:¬ D=z:=λe=>m1 e.symm
         have m3:¬ w.heap.size+6=D:=λe=>h6.ids.bx h6.e (by decide) e.symm
         have m4:¬ D=w.heap.size+6:=λe=>m3 e.symm
         have m5:¬ z=w.heap.size+6:=λe=>DJ J h6.e (by decide) e
         have m6:¬ w.heap.size+6=z:=λe=>m5 e.symm
         clear Z h6 J ae ak aj K6
         go_wp2
         go_roundw
         case rel=>exact⟨k+1,O,a2,n2,c2,I2,X2,R2,by omega,by go_num,H6.o.step D6.o.1 D6.o.2.1 D6.o.2.2 id O⟩
         case measure=>simp[intOf];omega
      .have k4:k=4:=by omega
       subst k4
       obtain⟨j0,y0⟩:=Q.o.ids.cell 0 (by omega)
       obtain⟨j1,y1⟩:=Q.o.ids.cell 1 (by omega)
       obtain⟨j2,y2⟩:=Q.o.ids.cell 2 (by omega)
       obtain⟨j3,y3⟩:=Q.o.ids.cell 3 (by omega)
       obtain⟨q0,q1,q2,q3,N⟩:=Q.o.q
       have cf:=Ae N
       have g0:=N.cell 0
       have g1:=N.cell 1
       have g2:=N.cell 2
       have g3:=N.cell 3
       simp at g0 g1 g2 g3
       have gf:=N.frozen
       have gl:=N.lt
       clear N
       go_upto_region 25 with fail
       refine Aj (S:=(λu=>u.cell? (ad D 0)=some (iv j0)/\u.cell? (ad D 1)=some (iv j1)/\u.cell? (ad D 2)=some (iv j2)/\u.cell? (ad D 3)=some (iv j3))) 13 (by kernel_rfl) ?_ (λd=>?_)
       ·((try dsimp only);exact⟨y0,y1,y2,y3⟩)
       refine tz 0 rfl ?_
       refine tz 1 rfl ?_
       refine tz 2 rfl ?_
       refine tz 3 rfl ?_
       refine tz 4 rfl ?_
       refine tz 5 rfl ?_
       refine tz 6 rfl ?_
       refine tz 7 rfl ?_
       refine tz 8 rfl ?_
       refine tz 9 rfl ?_
       refine tz 10 rfl ?_
       refine tz 11 rfl ?_
       refine tz 12 rfl ?_
       refine At 13 rfl (λK f=>?_)
       go_simp
       refine tM f ?_
       clear f K
       obtain⟨V,hV⟩:∃V,V=((((wr.setCell (ad qb 0) (iv j0)).setCell (ad qb 1) (iv j1)).setCell (ad qb 2) (iv j2)).setCell (ad qb 3) (iv j3)).drew:=⟨_,rfl⟩
       have H7:U (Jc w next a n c y E F s p o g V/\Bx V qb 34 #[iv j0,iv j1,iv j2,iv j3]/\Bx V (w.heap.size+6) 141 #[iv nx,.slice P n' Y]/\Br V (w.heap.size+5) P n' I' X' R'/\n'<=Y/\n'<=m+4):=by
        rw[hV]
        have q:=Q.o.fill cf.o j0 j1 j2 j3
        exact⟨q.1.call (Up _ _).drew,q.2⟩
       go_upto_region 26 with fail
       rw[<- hV]
       clear hV cf g0 g1 g2 g3 gf gl y0 y1 y2 y3 Q d
       have x0:=H7.o.1.cells.2.1
       have g0:=H7.o.2.1.cell 0
       have g1:=H7.o.2.1.cell 1
       have g2:=H7.o.2.1.cell 2
       have g3:=H7.o.2.1.cell 3
       simp at g0 g1 g2 g3
       go_wp2_with fail
       refine (Ss j0 j1 j2 j3 (HI.o.1 V H7.o.1.bel) HI.o.2).mono ?_
       rintro e w8 ⟨bb,an,a8,c8,M8,T8,rfl,b8,bp⟩
       have B8:=Ae (bb.trans ((Aa w8 (.cells #[.bool an,.slice a8 6 c8] 42)).mono bb.size))
       have Z:U (Pe w next a n c y E F s p o g nx P n' Y I' X' R' w8.heap.size (w8.alloc (.cells #[.bool an,.slice a8 6 c8] 42))/\Bx (w8.alloc (.cells #[.bool an,.slice a8 6 c8] 42)) qb 34 #[iv j0,iv j1,iv j2,iv j3]/\Bl w (w8.alloc (.cells #[.bool an,.slice a8 6 c8] 42))):=⟨⟨an,a8,c8,M8,T8,H7.o.1.call B8.o,H7.o.2.2.1.below B8.o,H7.o.2.2.2.1.below B8.o,Bx.new _ _ _,(b8.low H7.o.1.sz).below (Aa _ _),bp,Uy H7.o.1.sz bb.size⟩,H7.o.2.1.below B8.o,(H7.o.1.call B8.o).bel⟩
       have HN:=Ae H7.o.2.2.2.2
       clear B8 x0 g0 g1 g2 g3 bb b8 bp H7
       go_upto_region 27 with fail
       obtain⟨ab,az⟩:∃ab,ab=w8.heap.size:=⟨_,rfl⟩
       rw[<- az] at Z ⊢
       generalize w8.alloc (.cells #[.bool an,.slice a8 6 c8] 42)=V8 at Z ⊢
       clear az
       obtain⟨⟨ok,a8,c8,M8,T8,h8⟩,cg⟩:=Z.o
       have H8:=Ae (And.intro h8 cg)
       clear Z h8 cg
       have G:=H8.o.1.1.cells.2.2.1
       rw[ah.o] at G
       first
       | focus
         have q:F=true:=ah.o
         clear q
         have x0:=H8.o.1.1.cells.2.1
         have g0:=H8.o.2.1.cell 0
         have g1:=H8.o.2.1.cell 1
         have g2:=H8.o.2.1.cell 2
         have g3:=H8.o.2.1.cell 3
         simp at g0 g1 g2 g3
         go_wp2_with fail
         refine (Sq j0 j1 j2 j3 (HI.o.1 V8 H8.o.2.2) HI.o.2).mono ?_
         rintro e w9 ⟨bn,bz,a9,c9,M9,T9,rfl,cc,bw⟩
         have bx:=H8.o.1.2.2.2.1.below bn
         have z0:=bx.cell 0
         have z1:=bx.cell 1
         simp at z0 z1
         have zf:=bx.frozen
         have zl:=bx.lt
         have Z:U (Pe w next a n c y E F s p o g nx P n' Y I' X' R' ab ((w9.setCell (ad ab 0) (.bool bz)).setCell (ad ab 1) (.slice a9 6 c9))):=SE H8.o.1 bn cc bw
         clear x0 g0 g1 g2 g3 bn cc bw H8 G bx
         go_upto_region 29 with fail
         generalize ((w9.setCell (ad ab 0) (.bool bz)).setCell (ad ab 1) (.slice a9 6 c9))=Vx at Z ⊢
         clear z0 z1 zf zl
       | focus
         go_upto_region 29 with fail
         have Z:U (Pe w next a n c y E F s p o g nx P n' Y I' X' R' ab V8):=⟨_,_,_,_,_,H8.o.1⟩
         clear H8 G
         generalize V8=Vx at Z ⊢
       obtain⟨ok,a9,c9,M9,T9,h9⟩:=Z.o
       have K9:=Ae (And.intro h9.1 trivial)
       have H9:=Ae h9
       have z0:=h9.2.2.2.1.cell 0
       have z1:=h9.2.2.2.1.cell 1
       simp at z0 z1
       clear Z h9
       cases ok
       .clear z1
        obtain⟨⟨d0,d1⟩,x0,-⟩:=K9.o.1.cells
        obtain⟨⟨r0,r1,rf⟩,r2,ay,rl,aq⟩:=K9.o.1.res
        go_upto_region 30 with fail
        go_region
        go_wp2
        refine bodyPost_ret (v:=.tuple #[iv 6,.agg #[iv next,.slice a n c],.agg #[.slice (some (ad y 0)) 6 E]]) (by simp[results,results129,go_sem,r0,r1,r2]) rfl ?_
        exact (K9.o.1.ret 6 (.inr ⟨rfl,rfl⟩)).drew
       .have e0:=H9.o.2.1.cell 0
        have e1:=H9.o.2.1.cell 1
        simp at e0 e1
        have az:=H9.o.2.2.2.2.2.2
        have a3:¬ ab=w.heap.size+3:=by omega
        have a4:¬ ab=w.heap.size+4:=by omega
        have a5:¬ w.heap.size+3=ab:=by omega
        have a6:¬ w.heap.size+4=ab:=by omega
        clear az
        obtain⟨⟨r0,r1,rf⟩,r2,ay,rl,aq⟩:=K9.o.1.res
        go_upto_region 31 with fail
        go_region
        go_wp2
        refine bodyPost_ret (v:=.tuple #[iv 1,.agg #[iv nx,.slice P n' Y],.agg #[.slice a9 6 c9]]) (by simp[results,results129,go_sem,r0,r1,r2]) rfl ?_
        exact (K9.o.1.ret 1 (.inl ⟨⟨_,_,_,_,_,_,_,rfl,H9.o.2.2.1,HN.o.1,HN.o.2⟩,⟨_,_,_,_,rfl,H9.o.2.2.2.2.1,H9.o.2.2.2.2.2.1⟩⟩)).drew
end Go.Proofs.YtcnollkkigiobaaGreat
