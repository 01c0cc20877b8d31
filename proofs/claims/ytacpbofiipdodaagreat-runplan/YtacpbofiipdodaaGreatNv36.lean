import Derived.Test.YtacpbofiipdodaaGreatNv35
set_option linter.unusedVariables false
set_option linter.unusedSimpArgs false
set_option maxRecDepth 100000
set_option maxHeartbeats 90000000
namespace Go.Proofs.YtacpbofiipdodaaGreat
open Go Go.Deep Go.Maps Go.RowKit
def Ut (HB:Nat) (f g:Fx) (T1:Nat->Prop) (Po1:World->List Int->Nat->Prop) (w:World) (w1:World) (L1:List Int) (r1:Nat) (Y1:Nat->Prop) (w2:World):Prop:=
 FQ w1 HB Y1 g (r1:Nat) 0 L1/\Fr T1 w w1/\Po1 w1 L1 r1/\FQ w2 HB Y1 g (r1:Nat) L1.length L1/\Fr (PN (λk=>w1.heap.size<=k) f g) w1 w2/\∀k,Y1 k->k<w1.heap.size
def VL (HB:Nat) (f g h:Fx) (T1 T2:Nat->Prop) (Po1 Po2:World->List Int->Nat->Prop) (w:World) (w' : World):Prop:=
 ∃w1 L1 r1 Y1 w2,Ut HB f g T1 Po1 w w1 L1 r1 Y1 w2/\∃w3 L2 r2 Y2,FQ w3 HB Y2 h (r2:Nat) 0 L2/\Fr T2 w2 w3/\Po2 w3 L2 r2/\FQ w' HB Y1 g (r1:Nat) L1.length L1/\FQ w' HB Y2 h (r2:Nat) L2.length L2/\Fr (PN (λk=>w1.heap.size<=k) f h) w3 w'/\FQ w' HB (λk=>w.heap.size<=k/\k<w'.heap.size) f ((0:Nat):Int) 0 (Bq (Bq [] L1) L2)
theorem Uw (HB:Nat) (f g h:Fx) (ty1 F1 ty2 F2:Nat) (T1 T2:Nat->Prop) (Po1 Po2:World->List Int->Nat->Prop) (w:World) (hf0:A0 w f) (ht:f.tail=[.iface ty1 (pt g.ob),.iface ty2 (pt h.ob)]) (hv1:RP ty1 F1) (hv2:RP ty2 F2) (hk1:∀W,Bl w W->KO HB F1 g T1 Po1 W) (hk2:∀W,Fr (λk=>T1 k\/NG f k) w W->KO HB F2 h T2 Po2 W) (hT:(¬ T1 f.ob/\¬ T1 f.mb)/\(¬ T2 f.ob/\¬ T2 f.mb)/\(¬ T2 g.ob/\¬ T2 g.mb)/\(∀k,T1 k->k<HB)/\(∀k,T2 k->k<HB)/\T1 g.ob) (ha:BP f g/\BP f h/\BP g h) (hf:CT HB f) (hHB:HB<=w.heap.size) :
  WS 220 #[pt f.ob] w λe w'=>e=.returned (.tuple #[])/\VL HB f g h T1 T2 Po1 Po2 w w':=by
 obtain⟨ob,hob⟩:∃ob,ob=f.ob:=⟨_,rfl⟩;obtain⟨gb,hgb⟩:∃gb,gb=g.ob:=⟨_,rfl⟩;obtain⟨hb,hhb⟩:=gn h.ob;have HFr:=hid (ai hf0 (ai hT (ai ha (ai hf hHB))));have HE:U (ob=f.ob/\gb=g.ob/\hb=h.ob):=⟨hob,hgb,hhb⟩;have HX7:U (∀(W:World) rd v tl,FB W f rd v tl->W.cell? (ad ob 7)=some (.iface ty1 (pt gb))/\W.cell? (ad ob 8)=some (.iface ty2 (pt hb))):=λW rd v tl q=>by
  rw[hob,hgb,hhb];refine⟨?_,?_⟩;.rw[q.tl 0,ht];rfl
  .rw[q.tl 1,ht];rfl
 have hop1:=hv1.mt.op gb;have hop2:=hv2.mt.op hb;have HOP:U (NQ ty1 F1/\NQ ty2 F2):=⟨hv1.mt,hv2.mt⟩;have hen1:=hv1.en;have hen2:=hv2.en;unfold GT at hop1 hop2;have HK1:U (∀W,Bl w W->WS F1 #[pt gb] W λe w'=>e=.returned (.tuple #[])/\∃L rg,FQ w' HB (λk=>W.heap.size<=k/\k<w'.heap.size) g (rg:Nat) 0 L/\Fr T1 W w'/\(∀x,x∈L->C7 x)/\L.length<=300000/\Po1 w' L rg):=λW hW=>by rw[hgb];exact hk1 W hW
 have HK2:U (∀W,Fr (λk=>T1 k\/NG f k) w W->WS F2 #[pt hb] W λe w'=>e=.returned (.tuple #[])/\∃L rg,FQ w' HB (λk=>W.heap.size<=k/\k<w'.heap.size) h (rg:Nat) 0 L/\Fr T2 W w'/\(∀x,x∈L->C7 x)/\L.length<=300000/\Po2 w' L rg):=λW hW=>by rw[hhb];exact hk2 W hW
 rw[<- hob];clear hf0 ht hv1 hv2 hk1 hk2 hT ha hf hHB hob hgb hhb;go_enter Tryz.func220,Tryz.ntmps220;go_upto_region 0 with fail
 refine Au (S:=λW=>W.cell? (ad ob 7)=some (.iface ty1 (pt gb))/\W.cell? (ad ob 8)=some (.iface ty2 (pt hb))/\Bl w W) 1000 (by kernel_rfl) ⟨(HX7.o w _ _ _ HFr.o.1.1).1,(HX7.o w _ _ _ HFr.o.1.1).2,(Wt _ _).drew⟩ (λhHeld=>?_);generalize w.drew=W at hHeld ⊢;refine ua 0 rfl ?_;refine ua 1 rfl ?_;refine ua 2 rfl ?_;refine ta 3 rfl (v:=.iface ty1 (pt gb)) ?_ ?_;.intro w' h;obtain⟨x7,x8,-⟩:=h;go_simp
 simp only[As];refine ua 4 rfl ?_;refine ua 5 rfl ?_;refine ua 6 rfl ?_;refine ta 7 rfl (v:=.iface ty2 (pt hb)) ?_ ?_;.intro w' h;obtain⟨x7,x8,-⟩:=h;go_simp
 simp only[As];refine ua 10 rfl ?_;refine AB 8 rfl (λK hK=>?_);go_simp;have hb8:Bl W (W.alloc (.cells #[.iface ty1 (pt gb),.iface ty2 (pt hb)] 104)):=Aa _ _;have bx8:Bx (W.alloc (.cells #[.iface ty1 (pt gb),.iface ty2 (pt hb)] 104)) W.heap.size 104 #[.iface ty1 (pt gb),.iface ty2 (pt hb)]:=Bx.new _ _ _;have hS8:(W.alloc (.cells #[.iface ty1 (pt gb),.iface ty2 (pt hb)] 104)).cell? (ad ob 7)=some (.iface ty1 (pt gb))/\(W.alloc (.cells #[.iface ty1 (pt gb),.iface ty2 (pt hb)] 104)).cell? (ad ob 8)=some (.iface ty2 (pt hb))/\Bl w (W.alloc (.cells #[.iface ty1 (pt gb),.iface ty2 (pt hb)] 104)):=⟨(hb8.cell (Ws _ _ hHeld.1)).trans hHeld.1,(hb8.cell (Ws _ _ hHeld.2.1)).trans hHeld.2.1,hHeld.2.2.trans (hb8.mono hHeld.2.2.size)⟩;refine hK.out _ _ (λ_=>hS8) (λhG=>?_);clear hK K hG;try simp only[As]
 obtain⟨sb,hsb⟩:=gn W.heap.size;have hsw:w.heap.size<=sb:=by rw[hsb];exact hHeld.2.2.size
 rw[<- hsb] at bx8 ⊢;generalize W.alloc (.cells #[.iface ty1 (pt gb),.iface ty2 (pt hb)] 104)=W8 at bx8 hS8 ⊢;clear hsb hb8 hHeld;refine ua 9 rfl ?_;refine Ae (by kernel_rfl) ?_ _;have P8:=hid (ai hS8.2.2 (ai bx8 hsw));clear hS8 bx8 hsw;go_wp2;go_loopw [3,14] (λ_ i wr=>(i=iv 0/\wr=W8)\/(i=iv 1/\∃w1 L1 r1 Y1,Ut HB f g T1 Po1 w w1 L1 r1 Y1 wr/\Zf wr (λk=>w1.heap.size<=k) f ((0:Nat):Int) 0 (Bq [] L1)/\wr.cell? (ad sb 1)=some (.iface ty2 (pt hb))/\L1.length<=300000/\sb<w1.heap.size)\/(i=iv 2/\VL HB f g h T1 T2 Po1 Po2 w wr)) (λ_ i _=>2-(intOf i).toNat)
 case atStart=>exact .inl ⟨rfl,rfl⟩
 case round=>
  rcases hrel with ⟨rfl,rfl⟩|⟨rfl,w1,L1,r1,Y1,hps,hfs,hsc,hl1,hsl⟩|⟨rfl,hps⟩
  .have c0:=P8.o.2.1.cell 0;simp at c0;go_wp2_with fail
   refine (HK1.o wr P8.o.1).mono ?_;rintro e w1 ⟨rfl,L1,r1,hq1,hf1,hok1,hl1,hpo1⟩;have hfw:=(Fr.ofBelow (P:=T1) P8.o.1).trans hf1 (λ_ _ q=>q) (λ_ _ q=>q);have P1:U (A0 w1 f/\w.heap.size<=wr.heap.size/\wr.heap.size<=w1.heap.size/\w1.cell? (ad sb 1)=some (.iface ty2 (pt hb))/\sb<w1.heap.size):=by
    refine⟨HFr.o.1.fr hfw HFr.o.2.1.1.1 HFr.o.2.1.1.2,P8.o.1.size,hf1.size,hf1.cell (P8.o.2.1.cell 1) (λq=>?_),WF P8.o.2.1.lt hf1.size⟩;have:=HFr.o.2.1.2.2.2.1 _ q;have:=HFr.o.2.2.2.2;have:=P8.o.2.2;dsimp only at*
    omega
   have HFA:U (WS 221 #[pt ob,.iface ty1 (pt gb)] w1 λe w'=>e=.returned (.tuple #[])/\Zf w' (λk=>w1.heap.size<=k) f ((0:Nat):Int) 0 (Bq [] L1)/\FQ w' HB (λk=>wr.heap.size<=k/\k<w1.heap.size) g (r1:Nat) L1.length L1/\Fr (PN (λk=>w1.heap.size<=k) f g) w1 w'):=by have h0:=HFr.o;have hs:=P1.o;rw[HE.o.1,HE.o.2.1];exact EJ (λk=>w1.heap.size<=k) HB _ f g ((0:Nat):Int) (r1:Nat) 0 [] L1 ty1 F1 w1 (HOP.o.1.nx g.ob) (Dm P1.o.1 (by have:=h0.2.2.2.1;unfold CT at this;omega) (by have:=h0.2.2.2.1;unfold CT at this;omega) h0.2.2.2.1.2.2) hq1 h0.2.2.1.1 (λk hk=>hk) (λk hk=>by omega) (λk q hk=>by omega) h0.2.2.2.1.1 h0.2.2.2.1.2.1 hok1 (by simp) hl1
   have P2:=hid (ai hq1 (ai hfw (ai hpo1 hl1)));clear hq1 hf1 hok1 hl1 hpo1 hfw c0;go_wp2_with fail
   refine HFA.o.mono ?_;rintro e w2 ⟨rfl,hfs2,hfq2,hfr2⟩;have HX:U (∃w1 L1 r1 Y1,Ut HB f g T1 Po1 w w1 L1 r1 Y1 w2/\Zf w2 (λk=>w1.heap.size<=k) f ((0:Nat):Int) 0 (Bq [] L1)/\w2.cell? (ad sb 1)=some (.iface ty2 (pt hb))/\L1.length<=300000/\sb<w1.heap.size):=by
    refine⟨w1,L1,r1,_,⟨P2.o.1,P2.o.2.1,P2.o.2.2.1,hfq2,hfr2,λk q=>q.2⟩,hfs2,hfr2.cell P1.o.2.2.2.1 ?_,P2.o.2.2.2,P1.o.2.2.2.2⟩;have h0:=HFr.o;have h1:=P1.o;have h2:=P8.o.2.2;have h3:=P2.o.1.ob;have h4:=h0.2.2.2.1;unfold CT at h4;rintro ((q|q|q)|q);.dsimp only at q;omega
    .dsimp only at q;omega
    .dsimp only at q;omega
    .dsimp only at q;omega
   clear hfs2 hfq2 hfr2 HFA P1 P2;go_wp2;go_roundw;case rel=>exact .inr (.inl ⟨rfl,HX.o⟩)
   case measure=>simp[intOf]
  .have HPS:=hid hps;have HFS:=hid hfs;have hfw:Fr (λk=>T1 k\/NG f k) w wr:=hps.2.1.trans hps.2.2.2.2.1 (λ_ _ q=>.inl q) (λi hi q=>by
    have:=hps.2.1.size;rcases q with (q|q|q)|q;.exact .inr (.inl q)
    .exact .inr (.inr q)
    .omega
    .exact .inl (by rw[q];exact HFr.o.2.1.2.2.2.2.2))
   have HSW:=hid (ai hps.2.1.size (ai hps.2.2.2.2.1.size hl1));clear hps hfs;go_wp2_with fail
   refine (HK2.o wr hfw).mono ?_;rintro e w3 ⟨rfl,L2,r2,hq2,hf2,hok2,hl2,hpo2⟩;have hs3:=hf2.size;have hfs3:Zf w3 (Zr (λk=>w1.heap.size<=k) wr.heap.size w3.heap.size) f ((0:Nat):Int) 0 (Bq [] L1):=by have h0:=HFr.o;have h1:=HSW.o;have h4:=h0.2.2.2.1;unfold CT at h4;refine Zf.re (HFS.o.fr hf2 h0.2.1.2.1.1 h0.2.1.2.1.2 (λk hk q=>by have:=h0.2.1.2.2.2.2.1 k q;omega)) _ _ (λv hv g e=>?_) (by omega) (by omega);obtain⟨⟨v0,q1,q2,q7⟩,_⟩:=HFS.o;have c1:=(q1.fr hf2 h0.2.1.2.1.1).cells.2.2.1;have c2:=hv.cells.2.2.1;rw[c1] at c2;injection c2 with c2;subst c2;exact (Aw q2 g e).2
   have HFA:U (WS 221 #[pt ob,.iface ty2 (pt hb)] w3 λe w'=>e=.returned (.tuple #[])/\Zf w' (Zr (λk=>w1.heap.size<=k) wr.heap.size w3.heap.size) f ((0:Nat):Int) 0 (Bq (Bq [] L1) L2)/\FQ w' HB (λk=>wr.heap.size<=k/\k<w3.heap.size) h (r2:Nat) L2.length L2/\Fr (PN (Zr (λk=>w1.heap.size<=k) wr.heap.size w3.heap.size) f h) w3 w'):=by
    have h0:=HFr.o;have h1:=HSW.o;have hlen:=Du L1 [];simp only[List.length_nil] at hlen;rw[HE.o.1,HE.o.2.2];refine EJ _ HB _ f h ((0:Nat):Int) (r2:Nat) 0 _ L2 ty2 F2 w3 (HOP.o.2.nx h.ob) hfs3 hq2 h0.2.2.1.2.1 (λk hk=>.inr hk) (λk hk=>?_) (λk q hk=>?_) h0.2.2.2.1.1 h0.2.2.2.1.2.1 hok2 (by omega) hl2
    .rcases hk with hk|hk;.have:=hk.2;omega
     .omega
    .rcases hk with hk|hk;.have:=hk.1;omega
     .omega
   have P3:=hid (ai hq2 (ai hf2 hpo2));have HS3:=hid hs3;clear hq2 hf2 hok2 hl2 hpo2 hfs3 hs3 hfw;go_wp2_with fail
   refine HFA.o.mono ?_;rintro e w4 ⟨rfl,hfs4,hfq4,hfr4⟩;have HX:U (VL HB f g h T1 T2 Po1 Po2 w w4):=by
    have h0:=HFr.o;have h1:=HSW.o;have h2:=HS3.o;have h4:=h0.2.2.2.1;have h5:=HPS.o.2.2.2.1;have h6:=h5.ob;have h7:=h5.mb;have h8:=P3.o.1.ob;unfold CT at h4;have hz:∀k,Zr (λk=>w1.heap.size<=k) wr.heap.size w3.heap.size k->w1.heap.size<=k:=λk q=>by
     rcases q with q|q;.exact q.2
     .omega
    have hfr5:=hfr4.mono (λk _ q=>q.imp (Or.imp id (Or.imp id (hz k))) id);refine⟨w1,L1,r1,Y1,wr,HPS.o,w3,L2,r2,_,P3.o.1,P3.o.2.1,P3.o.2.2,?_,hfq4,hfr5,(hfs4.fq (λk hk=>by have:=hz k hk;omega) h4.1 h4.2.1).mono (λk _ q=>⟨by have:=hz k q.1;omega,q.2⟩)⟩;have hg3:=h5.fr P3.o.2.1 h0.2.1.2.2.1.1 h0.2.1.2.2.1.2 (λk q1 _ q=>by have:=h0.2.1.2.2.2.2.1 k q;omega);refine hg3.fr hfr5 ?_ ?_ (λk q1 q2 q=>?_)
    .rintro ((q|q|q)|q);.exact h0.2.2.1.1.1 q.symm
     .exact h0.2.2.1.1.2.2.1 q.symm
     .omega
     .exact h0.2.2.1.2.2.1 q
    .rintro ((q|q|q)|q);.exact h0.2.2.1.1.2.1 q.symm
     .exact h0.2.2.1.1.2.2.2 q.symm
     .omega
     .exact h0.2.2.1.2.2.2.2.1 q
    .have:=HPS.o.2.2.2.2.2 k q2;rcases q with (q|q|q)|q;.omega
     .omega
     .omega
     .omega
   clear hfs4 hfq4 hfr4 HFA P3;go_wp2;go_roundw;case rel=>exact .inr (.inr ⟨rfl,HX.o⟩)
   case measure=>simp[intOf]
  .have HX:=hid hps;clear hps;go_wp2;go_end0
   exact⟨rfl,HX.o⟩
theorem QK (HB:Nat) (f g h:Fx) (ty1 F1 ty2 F2:Nat) (T1 T2:Nat->Prop) (Po1 Po2:World->List Int->Nat->Prop) (w:World) (hf0:A0 w f) (ht:f.tail=[.iface ty1 (pt g.ob),.iface ty2 (pt h.ob)]) (hv1:RP ty1 F1) (hv2:RP ty2 F2) (hk1:KO HB F1 g T1 Po1 w) (hk2:∀W,Fr T1 w W->KO HB F2 h T2 Po2 W) (hT:(¬ T1 f.ob/\¬ T1 f.mb)/\(¬ T2 f.ob/\¬ T2 f.mb)/\(¬ T2 g.ob/\¬ T2 g.mb)/\∀k,T2 k->k<HB) (ha:BP f g/\BP f h/\BP g h) (hf:CT HB f) (hHB:HB<=w.heap.size) :
  WS 218 #[pt f.ob] w λe w'=>e=.returned (.tuple #[])/\UL HB f g h T1 T2 Po1 Po2 w OT w':=by
 obtain⟨ob,hob⟩:=gn f.ob;obtain⟨gb,hgb⟩:=gn g.ob;obtain⟨hb,hhb⟩:=gn h.ob;have HFr:=hid (ai hf0 (ai hT (ai ha (ai hf hHB))));have HE:=hid (ai hob (ai hgb hhb));have HX7:U (∀(W:World) rd v tl,FB W f rd v tl->W.cell? (ad ob 7)=some (.iface ty1 (pt gb))/\W.cell? (ad ob 8)=some (.iface ty2 (pt hb))):=λW rd v tl q=>by
  rw[hob,hgb,hhb];refine⟨?_,?_⟩;.rw[q.tl 0,ht];rfl
  .rw[q.tl 1,ht];rfl
 obtain⟨x7,x8⟩:=HX7.o w _ _ _ hf0.1;have hop1:=hv1.mt.op gb;have hop2:=hv2.mt.op hb;have hem:=hv1.mt.em gb;have HOP:=hid (ai hv1.mt hv2.mt);have hen1:=hv1.en;have hen2:=hv2.en;unfold GT at hop1 hop2 hem;have HK1:U (WS F1 #[pt gb] w λe w'=>e=.returned (.tuple #[])/\∃L rg,FQ w' HB (λk=>w.heap.size<=k/\k<w'.heap.size) g (rg:Nat) 0 L/\Fr T1 w w'/\(∀x,x∈L->C7 x)/\L.length<=300000/\Po1 w' L rg):=by rw[hgb];exact hk1
 have HK2:U (∀W,Fr T1 w W->WS F2 #[pt hb] W λe w'=>e=.returned (.tuple #[])/\∃L rg,FQ w' HB (λk=>W.heap.size<=k/\k<w'.heap.size) h (rg:Nat) 0 L/\Fr T2 W w'/\(∀x,x∈L->C7 x)/\L.length<=300000/\Po2 w' L rg):=λW hW=>by rw[hhb];exact hk2 W hW
 rw[<- hob];clear hf0 ht hv1 hv2 hk1 hk2 hT ha hf hHB hob hgb hhb;go_enter Tryz.func218,Tryz.ntmps218;go_wp2_with fail
 refine HK1.o.mono ?_;rintro e w1 ⟨rfl,L1,r1,hq1,hf1,hok1,hl1,hpo1⟩;have P1:=hid (ai hq1 (ai hf1 (ai hpo1 (ai (HFr.o.1.fr hf1 HFr.o.2.1.1.1 HFr.o.2.1.1.2) (ai hok1 hl1)))));have HEM:U (WS 201 #[pt gb] w1 (WT w1 (.bool (decide (L1.length=0))))):=by rw[HE.o.2.1];exact Kg HB _ g (r1:Nat) 0 L1 w1 hq1 (by omega)
 clear hq1 hf1 hok1 hl1 hpo1 HK1 x7 x8;obtain⟨x7,x8⟩:=HX7.o w1 _ _ _ P1.o.2.2.2.1.1;go_wp2_with fail
 refine HEM.o.mono ?_;rintro e w2 ⟨rfl,hb2⟩;have HB2:=hid hb2;clear hb2 HEM x7 x8;obtain⟨x7,x8⟩:=HX7.o w2 _ _ _ (P1.o.2.2.2.1.1.fr (P:=λ_=>False) (Fr.ofBelow HB2.o) (λq=>q));by_cases hz:L1.length=0
 .have HZ:=hid (List.length_eq_zero_iff.1 hz);have hd:=decide_eq_true hz;have HEnd:U (UL HB f g h T1 T2 Po1 Po2 w OT w2):=by have h0:=HFr.o;refine⟨w1,L1,r1,_,P1.o.1,P1.o.2.1,P1.o.2.2.1,.inl ⟨HZ.o,?_,HB2.o⟩⟩;have hs:=P1.o.2.1.size;have:=HB2.o.size;exact ((Zf.below (Dm (Z:=λk=>w1.heap.size<=k) P1.o.2.2.2.1 (by have:=h0.2.2.2.1;unfold CT at this;omega) (by have:=h0.2.2.2.1;unfold CT at this;omega) h0.2.2.2.1.2.2) HB2.o).fq (λk hk=>by omega) h0.2.2.2.1.1 h0.2.2.2.1.2.1).mono (λk _ q=>⟨by omega,q.2⟩)
  rw[hd];clear hz hd;go_wp2;go_end0
  exact⟨rfl,HEnd.o⟩
 .have HZ:U (L1≠[]):=λq=>hz (by rw[q];rfl);have hd:=decide_eq_false hz;rw[hd];clear hz hd;go_wp2_with fail
  refine (HK2.o w2 (P1.o.2.1.trans (Fr.ofBelow (P:=T1) HB2.o) (λ_ _ q=>q) (λ_ _ q=>q))).mono ?_;rintro e w3 ⟨rfl,L2,r2,hq2,hf2,hok2,hl2,hpo2⟩;have hf12:=(Fr.ofBelow (P:=T2) HB2.o).trans hf2 (λ_ _ q=>q) (λ_ _ q=>q);have P3:U (FQ w3 HB (λk=>w2.heap.size<=k/\k<w3.heap.size) h (r2:Nat) 0 L2/\Fr T2 w1 w3/\Po2 w3 L2 r2/\A0 w3 f/\FQ w3 HB (λk=>w.heap.size<=k/\k<w1.heap.size) g (r1:Nat) 0 L1/\w.heap.size<=w1.heap.size/\w1.heap.size<=w2.heap.size/\w2.heap.size<=w3.heap.size):=by have h0:=HFr.o.2.1;exact⟨hq2,hf12,hpo2,P1.o.2.2.2.1.fr hf12 h0.2.1.1 h0.2.1.2,P1.o.1.fr hf12 h0.2.2.1.1 h0.2.2.1.2 (λk h1 _ q=>by have:=h0.2.2.2 k q;omega),P1.o.2.1.size,HB2.o.size,hf2.size⟩
  have HFT:U (∀W,Bl w3 W->WS 219 #[pt ob,.iface ty1 (pt gb),.func (.method "loop.example/s01136/impl.holds") #[.iface ty2 (pt hb)] #[]] W λe w'=>e=.returned (.tuple #[])/\Zf w' (λk=>w3.heap.size<=k) f ((0:Nat):Int) 0 (Bq [] (L1.filter (λx=>L2.contains x)))/\FQ w' HB (λk=>w.heap.size<=k/\k<w1.heap.size) g (r1:Nat) L1.length L1/\Fr (PN (λk=>w3.heap.size<=k) f g) W w'):=λW hW=>by have h0:=HFr.o;have hs:=P3.o.2.2.2.2.2;rw[HE.o.1,HE.o.2.1,HE.o.2.2];exact LH (λk=>w3.heap.size<=k) HB _ f g ((0:Nat):Int) (r1:Nat) 0 [] L1 ty1 F1 W (HOP.o.1.nx g.ob) (Zf.below (Dm P3.o.2.2.2.1 (by have:=h0.2.2.2.1;unfold CT at this;omega) (by have:=h0.2.2.2.1;unfold CT at this;omega) h0.2.2.2.1.2.2) hW) (P3.o.2.2.2.2.1.below hW) h0.2.2.1.1 (λk hk=>WC hW.size hk) (λk hk=>by omega) (λk q hk=>by omega) h0.2.2.2.1.1 h0.2.2.2.1.2.1 P1.o.2.2.2.2.1 (by simp) P1.o.2.2.2.2.2 _ ty2 h (r2:Nat) 0 L2 (HOP.o.2.ho h.ob) (hq2.below hW) h0.2.2.1.2.1 ⟨h0.2.2.1.2.2.1,h0.2.2.1.2.2.2.1⟩ (λk q hk=>by omega)
  clear hq2 hf2 hok2 hl2 hpo2 hf12 HK2 x7 x8 hop1 hop2 hem hen1 hen2;go_upto_region 3 with fail
  refine Au (S:=λW=>W.cell? (ad ob 7)=some (.iface ty1 (pt gb))/\W.cell? (ad ob 8)=some (.iface ty2 (pt hb))/\Bl w3 W) 13 (by kernel_rfl) ⟨(HX7.o w3 _ _ _ P3.o.2.2.2.1.1).1,(HX7.o w3 _ _ _ P3.o.2.2.2.1.1).2,(Wt _ _).drew⟩ (λhHeld=>?_);generalize w3.drew=W at hHeld ⊢;refine tx 0 rfl ?_;refine tx 1 rfl ?_;refine tx 2 rfl ?_;refine tx 3 rfl ?_;refine tx 4 rfl ?_;refine tx 5 rfl ?_;refine ty 6 rfl (λw' h=>by obtain⟨x7,x8,-⟩:=h;go_simp;rfl) ?_;refine tx 7 rfl ?_;refine tx 8 rfl ?_;refine tx 9 rfl ?_;refine ty 10 rfl (λw' h=>by obtain⟨x7,x8,-⟩:=h;go_simp;rfl) ?_;refine tx 11 rfl ?_;refine tx 12 rfl ?_;refine AB 13 rfl (λK hK=>?_);refine A7 rfl 219 20 24 30 _ rfl (pt ob) (.iface ty1 (pt gb)) (.func (.method "loop.example/s01136/impl.holds") #[.iface ty2 (pt hb)] #[]) rfl rfl rfl (λ_ _=>rfl) ?_;refine (HFT.o W hHeld.2.2).mono ?_;rintro e w7 ⟨rfl,hfs7,hfq7,hfr7⟩;refine⟨_,rfl,hK.out _ _ (λhne=>absurd rfl hne) (λhG=>?_)⟩;clear hK K hG;refine Ae (by kernel_rfl) ?_ _;have HEnd:U (UL HB f g h T1 T2 Po1 Po2 w OT w7):=by
   have h0:=HFr.o;have hz:=P3.o.2.2.2.2.2;have hfr8:=(Fr.ofBelow (P:=PN (λk=>w3.heap.size<=k) f g) hHeld.2.2).trans hfr7 (λ_ _ q=>q) (λ_ _ q=>q);refine⟨w1,L1,r1,_,P1.o.1,P1.o.2.1,P1.o.2.2.1,.inr ⟨HZ.o,w3,L2,r2,_,P3.o.1,P3.o.2.1,P3.o.2.2.1,hfq7,P3.o.1.fr hfr8 ?_ ?_ (λk h1 h2 q=>?_),hfr8,(hfs7.fq (λk hk=>by omega) h0.2.2.2.1.1 h0.2.2.2.1.2.1).mono (λk _ q=>⟨by omega,q.2⟩)⟩⟩
   .have h9:=P3.o.1.ob;rintro ((q|q|q)|q);.exact h0.2.2.1.2.1.1 q.symm
    .exact h0.2.2.1.2.1.2.2.1 q.symm
    .omega
    .exact h0.2.2.1.2.2.1 q.symm
   .have h9:=P3.o.1.mb;rintro ((q|q|q)|q);.exact h0.2.2.1.2.1.2.1 q.symm
    .exact h0.2.2.1.2.1.2.2.2 q.symm
    .omega
    .exact h0.2.2.1.2.2.2.1 q.symm
   .have h9:=h0.2.2.2.1;have h8:=P3.o.2.2.2.2.1.ob;unfold CT at h9;rcases q with (q|q|q)|q;.omega
    .omega
    .omega
    .omega
  clear hfs7 hfq7 hfr7 hHeld HFT P1 P3;go_wp2;go_end0
  exact⟨rfl,HEnd.o⟩
theorem TM (HB:Nat) (f g h:Fx) (ty1 F1 ty2 F2:Nat) (T1 T2:Nat->Prop) (Po1 Po2:World->List Int->Nat->Prop) (w:World) (hf0:A0 w f) (ht:f.tail=[.iface ty1 (pt g.ob),.iface ty2 (pt h.ob)]) (hv1:RP ty1 F1) (hv2:RP ty2 F2) (hk1:KO HB F1 g T1 Po1 w) (hk2:∀W,Fr T1 w W->KO HB F2 h T2 Po2 W) (hT:(¬ T1 f.ob/\¬ T1 f.mb)/\(¬ T2 f.ob/\¬ T2 f.mb)/\(¬ T2 g.ob/\¬ T2 g.mb)/\∀k,T2 k->k<HB) (ha:BP f g/\BP f h/\BP g h) (hf:CT HB f) (hHB:HB<=w.heap.size) :
  WS 222 #[pt f.ob] w λe w'=>e=.returned (.tuple #[])/\UL HB f g h T1 T2 Po1 Po2 w Pe w':=by
 obtain⟨ob,hob⟩:=gn f.ob;obtain⟨gb,hgb⟩:=gn g.ob;obtain⟨hb,hhb⟩:=gn h.ob;have HFr:=hid (ai hf0 (ai hT (ai ha (ai hf hHB))));have HE:=hid (ai hob (ai hgb hhb));have HX7:U (∀(W:World) rd v tl,FB W f rd v tl->W.cell? (ad ob 7)=some (.iface ty1 (pt gb))/\W.cell? (ad ob 8)=some (.iface ty2 (pt hb))):=λW rd v tl q=>by
  rw[hob,hgb,hhb];refine⟨?_,?_⟩;.rw[q.tl 0,ht];rfl
  .rw[q.tl 1,ht];rfl
 obtain⟨x7,x8⟩:=HX7.o w _ _ _ hf0.1;have hop1:=hv1.mt.op gb;have hop2:=hv2.mt.op hb;have hem:=hv1.mt.em gb;have HOP:=hid (ai hv1.mt hv2.mt);have hen1:=hv1.en;have hen2:=hv2.en;unfold GT at hop1 hop2 hem;have HK1:U (WS F1 #[pt gb] w λe w'=>e=.returned (.tuple #[])/\∃L rg,FQ w' HB (λk=>w.heap.size<=k/\k<w'.heap.size) g (rg:Nat) 0 L/\Fr T1 w w'/\(∀x,x∈L->C7 x)/\L.length<=300000/\Po1 w' L rg):=by rw[hgb];exact hk1
 have HK2:U (∀W,Fr T1 w W->WS F2 #[pt hb] W λe w'=>e=.returned (.tuple #[])/\∃L rg,FQ w' HB (λk=>W.heap.size<=k/\k<w'.heap.size) h (rg:Nat) 0 L/\Fr T2 W w'/\(∀x,x∈L->C7 x)/\L.length<=300000/\Po2 w' L rg):=λW hW=>by rw[hhb];exact hk2 W hW
 rw[<- hob];clear hf0 ht hv1 hv2 hk1 hk2 hT ha hf hHB hob hgb hhb;go_enter Tryz.func222,Tryz.ntmps222;go_wp2_with fail
 refine HK1.o.mono ?_;rintro e w1 ⟨rfl,L1,r1,hq1,hf1,hok1,hl1,hpo1⟩;have P1:=hid (ai hq1 (ai hf1 (ai hpo1 (ai (HFr.o.1.fr hf1 HFr.o.2.1.1.1 HFr.o.2.1.1.2) (ai hok1 hl1)))));have HEM:U (WS 201 #[pt gb] w1 (WT w1 (.bool (decide (L1.length=0))))):=by rw[HE.o.2.1];exact Kg HB _ g (r1:Nat) 0 L1 w1 hq1 (by omega)
 clear hq1 hf1 hok1 hl1 hpo1 HK1 x7 x8;obtain⟨x7,x8⟩:=HX7.o w1 _ _ _ P1.o.2.2.2.1.1;go_wp2_with fail
 refine HEM.o.mono ?_;rintro e w2 ⟨rfl,hb2⟩;have HB2:=hid hb2;clear hb2 HEM x7 x8;obtain⟨x7,x8⟩:=HX7.o w2 _ _ _ (P1.o.2.2.2.1.1.fr (P:=λ_=>False) (Fr.ofBelow HB2.o) (λq=>q));by_cases hz:L1.length=0
 .have HZ:=hid (List.length_eq_zero_iff.1 hz);have hd:=decide_eq_true hz;have HEnd:U (UL HB f g h T1 T2 Po1 Po2 w Pe w2):=by have h0:=HFr.o;refine⟨w1,L1,r1,_,P1.o.1,P1.o.2.1,P1.o.2.2.1,.inl ⟨HZ.o,?_,HB2.o⟩⟩;have hs:=P1.o.2.1.size;have:=HB2.o.size;exact ((Zf.below (Dm (Z:=λk=>w1.heap.size<=k) P1.o.2.2.2.1 (by have:=h0.2.2.2.1;unfold CT at this;omega) (by have:=h0.2.2.2.1;unfold CT at this;omega) h0.2.2.2.1.2.2) HB2.o).fq (λk hk=>by omega) h0.2.2.2.1.1 h0.2.2.2.1.2.1).mono (λk _ q=>⟨by omega,q.2⟩)
  rw[hd];clear hz hd;go_wp2;go_end0
  exact⟨rfl,HEnd.o⟩
 .have HZ:U (L1≠[]):=λq=>hz (by rw[q];rfl);have hd:=decide_eq_false hz;rw[hd];clear hz hd;go_wp2_with fail
  refine (HK2.o w2 (P1.o.2.1.trans (Fr.ofBelow (P:=T1) HB2.o) (λ_ _ q=>q) (λ_ _ q=>q))).mono ?_;rintro e w3 ⟨rfl,L2,r2,hq2,hf2,hok2,hl2,hpo2⟩;have hf12:=(Fr.ofBelow (P:=T2) HB2.o).trans hf2 (λ_ _ q=>q) (λ_ _ q=>q);have P3:U (FQ w3 HB (λk=>w2.heap.size<=k/\k<w3.heap.size) h (r2:Nat) 0 L2/\Fr T2 w1 w3/\Po2 w3 L2 r2/\A0 w3 f/\FQ w3 HB (λk=>w.heap.size<=k/\k<w1.heap.size) g (r1:Nat) 0 L1/\w.heap.size<=w1.heap.size/\w1.heap.size<=w2.heap.size/\w2.heap.size<=w3.heap.size):=by have h0:=HFr.o.2.1;exact⟨hq2,hf12,hpo2,P1.o.2.2.2.1.fr hf12 h0.2.1.1 h0.2.1.2,P1.o.1.fr hf12 h0.2.2.1.1 h0.2.2.1.2 (λk h1 _ q=>by have:=h0.2.2.2 k q;omega),P1.o.2.1.size,HB2.o.size,hf2.size⟩
  have HFT:U (∀W,Bl w3 W->WS 219 #[pt ob,.iface ty1 (pt gb),.func (.method "loop.example/s01136/impl.lacks") #[.iface ty2 (pt hb)] #[]] W λe w'=>e=.returned (.tuple #[])/\Zf w' (λk=>w3.heap.size<=k) f ((0:Nat):Int) 0 (Bq [] (L1.filter (λx=>!L2.contains x)))/\FQ w' HB (λk=>w.heap.size<=k/\k<w1.heap.size) g (r1:Nat) L1.length L1/\Fr (PN (λk=>w3.heap.size<=k) f g) W w'):=λW hW=>by have h0:=HFr.o;have hs:=P3.o.2.2.2.2.2;rw[HE.o.1,HE.o.2.1,HE.o.2.2];exact LU (λk=>w3.heap.size<=k) HB _ f g ((0:Nat):Int) (r1:Nat) 0 [] L1 ty1 F1 W (HOP.o.1.nx g.ob) (Zf.below (Dm P3.o.2.2.2.1 (by have:=h0.2.2.2.1;unfold CT at this;omega) (by have:=h0.2.2.2.1;unfold CT at this;omega) h0.2.2.2.1.2.2) hW) (P3.o.2.2.2.2.1.below hW) h0.2.2.1.1 (λk hk=>WC hW.size hk) (λk hk=>by omega) (λk q hk=>by omega) h0.2.2.2.1.1 h0.2.2.2.1.2.1 P1.o.2.2.2.2.1 (by simp) P1.o.2.2.2.2.2 _ ty2 h (r2:Nat) 0 L2 (HOP.o.2.la h.ob) (hq2.below hW) h0.2.2.1.2.1 ⟨h0.2.2.1.2.2.1,h0.2.2.1.2.2.2.1⟩ (λk q hk=>by omega)
  clear hq2 hf2 hok2 hl2 hpo2 hf12 HK2 x7 x8 hop1 hop2 hem hen1 hen2;go_upto_region 3 with fail
  refine Au (S:=λW=>W.cell? (ad ob 7)=some (.iface ty1 (pt gb))/\W.cell? (ad ob 8)=some (.iface ty2 (pt hb))/\Bl w3 W) 13 (by kernel_rfl) ⟨(HX7.o w3 _ _ _ P3.o.2.2.2.1.1).1,(HX7.o w3 _ _ _ P3.o.2.2.2.1.1).2,(Wt _ _).drew⟩ (λhHeld=>?_);generalize w3.drew=W at hHeld ⊢;refine tx 0 rfl ?_;refine tx 1 rfl ?_;refine tx 2 rfl ?_;refine tx 3 rfl ?_;refine tx 4 rfl ?_;refine tx 5 rfl ?_;refine ty 6 rfl (λw' h=>by obtain⟨x7,x8,-⟩:=h;go_simp;rfl) ?_;refine tx 7 rfl ?_;refine tx 8 rfl ?_;refine tx 9 rfl ?_;refine ty 10 rfl (λw' h=>by obtain⟨x7,x8,-⟩:=h;go_simp;rfl) ?_;refine tx 11 rfl ?_;refine tx 12 rfl ?_;refine AB 13 rfl (λK hK=>?_);refine A7 rfl 219 20 24 30 _ rfl (pt ob) (.iface ty1 (pt gb)) (.func (.method "loop.example/s01136/impl.lacks") #[.iface ty2 (pt hb)] #[]) rfl rfl rfl (λ_ _=>rfl) ?_;refine (HFT.o W hHeld.2.2).mono ?_;rintro e w7 ⟨rfl,hfs7,hfq7,hfr7⟩;refine⟨_,rfl,hK.out _ _ (λhne=>absurd rfl hne) (λhG=>?_)⟩;clear hK K hG;refine Ae (by kernel_rfl) ?_ _;have HEnd:U (UL HB f g h T1 T2 Po1 Po2 w Pe w7):=by
   have h0:=HFr.o;have hz:=P3.o.2.2.2.2.2;have hfr8:=(Fr.ofBelow (P:=PN (λk=>w3.heap.size<=k) f g) hHeld.2.2).trans hfr7 (λ_ _ q=>q) (λ_ _ q=>q);refine⟨w1,L1,r1,_,P1.o.1,P1.o.2.1,P1.o.2.2.1,.inr ⟨HZ.o,w3,L2,r2,_,P3.o.1,P3.o.2.1,P3.o.2.2.1,hfq7,P3.o.1.fr hfr8 ?_ ?_ (λk h1 h2 q=>?_),hfr8,(hfs7.fq (λk hk=>by omega) h0.2.2.2.1.1 h0.2.2.2.1.2.1).mono (λk _ q=>⟨by omega,q.2⟩)⟩⟩
   .have h9:=P3.o.1.ob;rintro ((q|q|q)|q);.exact h0.2.2.1.2.1.1 q.symm
    .exact h0.2.2.1.2.1.2.2.1 q.symm
    .omega
    .exact h0.2.2.1.2.2.1 q.symm
   .have h9:=P3.o.1.mb;rintro ((q|q|q)|q);.exact h0.2.2.1.2.1.2.1 q.symm
    .exact h0.2.2.1.2.1.2.2.2 q.symm
    .omega
    .exact h0.2.2.1.2.2.2.1 q.symm
   .have h9:=h0.2.2.2.1;have h8:=P3.o.2.2.2.2.1.ob;unfold CT at h9;rcases q with (q|q|q)|q;.omega
    .omega
    .omega
    .omega
  clear hfs7 hfq7 hfr7 hHeld HFT P1 P3;go_wp2;go_end0
  exact⟨rfl,HEnd.o⟩
theorem TV (HB:Nat) (f:Fx) (Q:List Qd) (x:Int) (tb:Nat) (id:ByteArray->Int) (w:World) (h:A0 w f) (ht:f.tail=[iv x]) (hX:Hz w f.xb Q) (hT:∀V x,Bl w V->WS 97 #[pt tb,.string x] V (WT V (iv (id x)))) (hp1:f.nt=false->Kp ⟨x,0,0,f.lab⟩) (hp2:f.nt=false->Kp ⟨0,0,x,f.lab⟩) (hx:C7 x) (h1:f.ob<HB) (h2:f.mb<HB) (h3:f.ob≠f.mb) (hHB:HB<=w.heap.size) :
  WS 214 #[pt f.ob] w λe w'=>e=.returned (.tuple #[])/\FQ w' HB (λk=>w.heap.size<=k/\k<w'.heap.size) f 0 0 (if x≠0/\(decide (0<FG Q f.lab f.nt ⟨x,0,0,0⟩) || decide (0<FG Q f.lab f.nt ⟨0,0,x,0⟩))=true then [x] else [])/\Fr (NG f) w w':=by
 have HFS:U (Zf w (λk=>w.heap.size<=k) f 0 0 []):=Dm h (by omega) (by omega) h3;have HQQ:U (∀W L,Zf W (λk=>w.heap.size<=k) f 0 0 L->FQ W HB (λk=>w.heap.size<=k/\k<W.heap.size) f 0 0 L):=λW L q=>q.fq (λk hk=>by omega) h1 h2;obtain⟨ob,hob⟩:=gn f.ob;obtain⟨bz,hbz⟩:=gn ((decide (0<FG Q f.lab f.nt ⟨x,0,0,0⟩) || decide (0<FG Q f.lab f.nt ⟨0,0,x,0⟩)));have HIV:U (∀W,Bl w W->WS 215 #[pt ob,iv x] W (WT W (.bool bz))):=λW hW=>by rw[hob,hbz];exact Kx f 0 (.slice none 0 0) 0 tb id Q x W (h.1.fr (P:=λ_=>False) (Fr.ofBelow hW) (λq=>q)) (hX.below hW) (λV y hV=>hT V y (hW.trans (hV.mono hW.size))) hp1 hp2
 have HFD:U (∀W,Bl w W->WS 208 #[pt ob,iv x] W λe w'=>e=.returned (.tuple #[])/\Zf w' (λk=>w.heap.size<=k) f 0 0 [x]/\Fr (PF (λk=>w.heap.size<=k) f) W w'):=λW hW=>by rw[hob];exact CJ _ f 0 0 [] x W (HFS.o.below hW) hx (by simp) (λk hk=>WC hW.size hk)
 have HX7:U (∀W,Bl w W->W.cell? (ad ob 7)=some (iv x)):=λW hW=>by rw[hob,(h.1.fr (P:=λ_=>False) (Fr.ofBelow hW) (λq=>q)).tl 0,ht];rfl
 obtain⟨RES,hRES⟩:=gn ((if x≠0/\bz=true then [x] else []));have HO:=hid hRES;rw[<- hob,<- hbz,<- hRES];have HTW:U (NG f=λk=>k=ob\/k=f.mb):=by show _=_;rw[hob];rfl
 clear h ht hX hT hp1 hp2 hx h1 h2 h3 hHB hob hbz hRES;go_enter Tryz.func214,Tryz.ntmps214;by_cases h0:x=0
 .have h0b:(x == 0)=true:=by simp[h0]
  have h0n:(x != 0)=false:=by simp[h0]
  have HR:U (RES=[]):=by show _=_;rw[HO.o,if_neg (λq=>q.1 h0)]
  clear h0 HO;go_upto_region 0 with fail
  refine Ac (S:=λW=>Bl w W) 14 (by kernel_rfl) (Wt _ _).drew (λW hHeld=>?_);refine tx 0 rfl ?_;refine tx 1 rfl ?_;refine tx 2 rfl ?_;refine ty 3 rfl (λw' h=>by have x7:=HX7.o _ h;clear h;go_simp;rfl) ?_;refine tx 4 rfl (v:=.bool false) ?_;refine tx 5 rfl (v:=.bool false) ?_;refine sz 6 rfl ?_;simp only[As];refine sz 7 rfl ?_;simp only[As];refine sz 8 rfl ?_;simp only[As];refine sz 9 rfl ?_;simp only[As];refine sz 10 rfl ?_;simp only[As];refine sz 11 rfl ?_;simp only[As];refine sz 12 rfl ?_;simp only[As];refine sz 13 rfl ?_;simp only[As];refine AB 14 rfl (λK hK=>?_);go_simp;refine hK.out _ _ (λ_=>hHeld) (λhG=>?_);clear hK K hG;refine Ae (by kernel_rfl) ?_ _;have HF:=hid hHeld;clear hHeld;go_wp2;go_end0
  exact⟨rfl,by rw[HR.o];exact HQQ.o _ _ (HFS.o.below HF.o),Fr.ofBelow HF.o⟩
 .have h0b:(x == 0)=false:=by simp[h0]
  have h0n:(x != 0)=true:=by simp[h0]
  have HR:U (RES=(if bz=true then [x] else [])):=by
   show _=_;rw[HO.o];cases bz;.rw[if_neg (by simp),if_neg (by simp)]
   .rw[if_pos ⟨h0,rfl⟩,if_pos rfl]
  clear h0 HO;go_upto_region 0 with fail
  refine Ac (S:=λW=>Bl w W) 14 (by kernel_rfl) (Wt _ _).drew (λW hHeld=>?_);refine tx 0 rfl ?_;refine tx 1 rfl ?_;refine tx 2 rfl ?_;refine ty 3 rfl (λw' h=>by have x7:=HX7.o _ h;clear h;go_simp;rfl) ?_;refine tx 4 rfl (v:=.bool true) ?_;refine tx 5 rfl (v:=.bool true) ?_;refine tx 6 rfl ?_;refine tx 7 rfl ?_;refine tx 8 rfl ?_;refine tx 9 rfl ?_;refine tx 10 rfl ?_;refine tx 11 rfl ?_;refine ty 12 rfl (λw' h=>by have x7:=HX7.o _ h;clear h;go_simp;rfl) ?_;refine AB 13 rfl (λK hK=>?_);refine AF rfl 215 10 14 _ rfl (pt ob) (iv x) rfl rfl (λ_ _=>rfl) ?_;refine (HIV.o W hHeld).mono ?_;rintro e w5 ⟨rfl,hbm⟩;have h5:=hHeld.trans (hbm.mono hHeld.size);refine⟨_,rfl,hK.out _ _ (λ_=>h5) (λhG=>?_)⟩;clear hK K hG hbm hHeld;simp only[As];refine AB 14 rfl (λK hK=>?_);go_simp;refine hK.out _ _ (λ_=>h5) (λhG=>?_);clear hK K hG;refine Ae (by kernel_rfl) ?_ _;have H5:=hid h5;clear h5;cases bz with
  | false=>
   have HR2:U (RES=[]):=by show _=_;rw[HR.o,if_neg (by simp)]
   clear HR;go_wp2;go_end0
   exact⟨rfl,by rw[HR2.o];exact HQQ.o _ _ (HFS.o.below H5.o),Fr.ofBelow H5.o⟩
  | true=>
   have HR2:U (RES=[x]):=by show _=_;rw[HR.o,if_pos rfl]
   clear HR;go_upto_region 1 with fail
   refine Ac (S:=λW=>Bl w5 W) 7 (by kernel_rfl) (Wt _ _).drew (λW hHeld=>?_);refine tx 0 rfl ?_;refine tx 1 rfl ?_;refine tx 2 rfl ?_;refine tx 3 rfl ?_;refine tx 4 rfl ?_;refine tx 5 rfl ?_;refine ty 6 rfl (λw' h=>by have x7:=HX7.o _ (H5.o.trans (h.mono H5.o.size));clear h;go_simp;rfl) ?_;refine AB 7 rfl (λK hK=>?_);refine AF rfl 208 19 23 _ rfl (pt ob) (iv x) rfl rfl (λ_ _=>rfl) ?_;refine (HFD.o W (H5.o.trans (hHeld.mono H5.o.size))).mono ?_;rintro e w7 ⟨rfl,hfs7,hfr7⟩;refine⟨_,rfl,hK.out _ _ (λhne=>absurd rfl hne) (λhG=>?_)⟩;clear hK K hG;refine Ae (by kernel_rfl) ?_ _;have HX:U (FQ w7 HB (λk=>w.heap.size<=k/\k<w7.heap.size) f 0 0 [x]/\Fr (NG f) w w7):=by
    refine⟨HQQ.o _ _ hfs7,(Fr.ofBelow (P:=NG f) (H5.o.trans (hHeld.mono H5.o.size))).trans hfr7 (λ_ _ q=>q) (λi hi q=>?_)⟩;rcases q with q|q|q;.exact .inl q
    .exact .inr q
    .omega
   clear hfs7 hfr7 hHeld;go_wp2;go_end0
   exact⟨rfl,by rw[HR2.o];exact HX.o.1,HX.o.2⟩
variable {Q:List Qd}{W:World}{b base m:Nat}{c:Cx}{p p':Qd}
theorem GV (hs:p.s=0↔p'.s=0) (hp:p.p=0↔p'.p=0) (ho:p.o=0↔p'.o=0) (hg:p.g=0↔p'.g=0) (i:Nat):Ar p.s p.p p.o p.g i=0↔Ar p'.s p'.p p'.o p'.g i=0:=by
 unfold Ar;split;.exact hs
 split;.exact hp
 split;.exact ho
 .exact hg
theorem MW (h:Kp p) (i:Nat):0<=Ar p.s p.p p.o p.g i/\Ar p.s p.p p.o p.g i<=2000000000:=by
 unfold Ar;split;.exact h.1
 split;.exact h.2.1
 split;.exact h.2.2.1
 .exact h.2.2.2
theorem DT {j:Nat} (h:BC (A8 j p) 4) (hn:Kp p') (hs:p.s=0↔p'.s=0) (hp:p.p=0↔p'.p=0) (ho:p.o=0↔p'.o=0) (hg:p.g=0↔p'.g=0):BC (A8 j p') 4:=by
 intro q hq;refine⟨MW hn _,λr hr e=>?_⟩;have h1:=(h q hq).2 r hr;unfold A8 at*
 exact (GV hs hp ho hg _).1 (h1 ((GV hs hp ho hg _).2 e))
theorem Sv (id:ByteArray->Int) (Q:List Qd) (cb:Bool) (cl:ByteArray) (p:Qd) (h0:cb=false->id cl=0) (hg:p.g=0) :
  Fj Q (id cl) (cb && decide (id cl=0)) p=Cl Q ⟨cb,if cb=true then id cl else 0⟩ p:=by
 obtain⟨a,b,c,d⟩:=p;have hg' : d=0:=hg;subst hg';cases cb with
 | false=>simp[Fj,Cl,Rb,MH,h0 rfl]
 | true=>
  by_cases h:id cl=0;.simp[Fj,Cl,Rb,h]
  .simp[Fj,Cl,Rb,MH,h]
theorem Hq {q:Qd} (h:q∈Cl Q c p):q∈Q:=by
 unfold Cl at h;split at h;.cases h
 .exact (List.mem_filter.1 h).1
def Eo (x:Int):Prop:=0<x/\x<=2000000000
theorem Eo.ok {x:Int} (h:Eo x):C7 x:=⟨by have:=h.1;omega,by have:=h.2;omega⟩
theorem Iy {k:Int} {a b:List Int × Nat} (ha:∀x,x∈a.1->Eo x) (hb:∀x,x∈b.1->Eo x):∀x,x∈(B3 k a b).1->Eo x:=by
 intro x hx;unfold B3 at hx;split at hx;.exact ha x hx
 .have hx' : x∈D8 k a.1 b.1:=hx;unfold D8 at hx';split at hx'
  .rcases (CF _ _).1 hx' with q|q;.exact ha x q
   .exact hb x q
  .exact ha x (List.mem_filter.1 hx').1
theorem OD {id:ByteArray->Int} {k:Int} {s t:ByteArray} {ch:Int} {a b:List Int × Nat} (hQ:∀q,q∈Q->Eo q.s/\Eo q.o) (hid:∀x,id x<=2000000000) (ha:∀x,x∈a.1->Eo x) (hb:∀x,x∈b.1->Eo x):∀x,x∈(AV id Q k s t ch c a b).1->Eo x:=by
 unfold AV;split
 .intro x hx;rcases (Eu _ _).1 hx with q|⟨q,hq,e⟩;.cases q
  .have:=hQ q (Hq hq);rcases e with e|e;.rw[<- e];exact this.1
   .rw[<- e];exact this.2
 split
 .split
  .rename_i h
   intro x hx;simp at hx;rw[hx];exact⟨h.1,hid s⟩
  .intro x hx;cases hx
 split
 .split;.exact Iy hb ha
  .exact Iy ha hb
 split;.exact Iy ha hb
 split;.exact ha
 split;.intro x hx;cases hx
 .intro x hx;rcases (C5 _ _).1 hx with q|⟨q,hq,_,e⟩;.cases q
  .have:=hQ q (Hq hq);rw[<- e];unfold Gi;split;.exact this.2
   .exact this.1
theorem MD {id:ByteArray->Int} {Q:List Qd} {I:Nat->Int} {X R:Nat->ByteArray} {Ch:Nat->Int} (hQ:∀q,q∈Q->Eo q.s/\Eo q.o) (hid:∀x,id x<=2000000000):∀(f i:Nat) (c:Cx),∀x,x∈(PS id Q I X R Ch f i c).1->Eo x
 | 0,_,_,x,hx=>by cases hx
 | f+1,i,c,x,hx=>by
  refine OD hQ hid ?_ ?_ x hx
  .split
   .exact MD hQ hid f _ _
   .intro y hy;cases hy
  .split
   .exact MD hQ hid f _ _
   .intro y hy;cases hy
def B6 (W:World) (b:Nat):Nat:=match W.cell? (ad b 3) with
 | some (.int .i64 q)=>if 0<=q then q.toNat else 1000000000
 | _=>1000000000
theorem Pc (h:B6 W b<1000000000):W.cell? (ad b 3)=some (.int .i64 (B6 W b:Int)):=by
 unfold B6 at h ⊢;split at h
 .rename_i q hq
  split at h
  .rename_i h0
   rw[hq];simp only[if_pos h0];rw[Int.toNat_of_nonneg h0]
  .omega
 .omega
theorem FB.rd {W:World} {f:Fx} {rd:Nat} {v:Value} {tl:Nat} (h:FB W f (rd:Int) v tl):B6 W f.ob=rd:=by unfold B6;rw[h.cells.2.1];simp
theorem FQ.rd {W:World} {HB:Nat} {Y:Nat->Prop} {f:Fx} {rd tl:Nat} {L:List Int} (h:FQ W HB Y f (rd:Int) tl L):B6 W f.ob=rd:=by obtain⟨⟨a,c,q1,_⟩,_⟩:=h;exact q1.rd
theorem E5 {P:Nat->Prop} {w w':World} (hf:Fr P w w') (hb:b<w.heap.size) (hn:¬ P b):B6 w' b=B6 w b:=by unfold B6 World.cell?;rw[hf.block b hb hn]
theorem A0.rd {W:World} {f:Fx} (h:A0 W f):B6 W f.ob=0:=FB.rd (rd:=0) h.1
def Bc (fx:Nat->Fx) (W:World) (base m:Nat):Nat:=((List.range (m+1)).map (λt=>B6 W (fx (base+t)).ob)).sum
theorem Ek {fx:Nat->Fx} {W':World} (h:∀t,t<=m->B6 W' (fx (base+t)).ob=B6 W (fx (base+t)).ob):Bc fx W' base m=Bc fx W base m:=by unfold Bc;congr 1;apply List.map_congr_left;intro t ht;exact h t (by have:=List.mem_range.1 ht;omega)
theorem J9 {fx:Nat->Fx} (h:∀t,t<=m->B6 W (fx (base+t)).ob=0):Bc fx W base m=0:=by
 unfold Bc;rw[List.map_congr_left (g:=λ_=>0) (λt ht=>h t (by have:=List.mem_range.1 ht;omega))];generalize List.range (m+1)=l;induction l with
 | nil=>rfl
 | cons x l ih=>rw[List.map_cons,List.sum_cons,ih]
theorem OA (fx:Nat->Fx) (W:World) (base:Nat):Bc fx W base 0=B6 W (fx base).ob:=by unfold Bc;simp
theorem Lz {fx:Nat->Fx} (hm:0<m):Bc fx W base m=Bc fx W base (m-1)+B6 W (fx (base+m)).ob:=by unfold Bc;rw[show m-1+1=m by omega,List.range_succ,List.map_append,List.sum_append];simp
theorem FN {fx:Nat->Fx} {s:Nat} (h0:0<s) (h1:s<m):Bc fx W base m=Bc fx W base (s-1)+Bc fx W (base+s) (m-s-1)+B6 W (fx (base+m)).ob:=by rw[Lz (by omega)];congr 1;unfold Bc;rw[show m-1+1=s+(m-s) by omega,show s-1+1=s by omega,show m-s-1+1=m-s by omega,JD (λt=>B6 W (fx (base+t)).ob) s (m-s),List.sum_append];simp only[Nat.add_assoc]
variable {A B K K1 K2:List Int}{Bd:Nat->Bool}{Ch I:Nat->Int}{H0 HB i r xb:Nat}{Lb R X:Nat->ByteArray}{qs:List Qd}{b:Bool}{ch lab u:Int}{id:ByteArray->Int}
def CR (k:Int):Nat:=if k=1 then 187 else if k=2 then 190 else if k=6 then 194 else if k=7 then 197 else if k=8 then 200 else if k=9 then 202 else 205
def MC (k:Int):Nat:=if k=1 then 205 else if k=2 then 214 else if k=6 then 218 else if k=7 then 220 else if k=8 then 222 else if k=9 then 223 else 225
theorem Jf {k:Int} (hk:1<=k/\k<=9):RP (CR k) (MC k):=by
 have h9:k=1\/k=2\/k=3\/k=4\/k=5\/k=6\/k=7\/k=8\/k=9:=by omega
 rcases h9 with rfl|rfl|rfl|rfl|rfl|rfl|rfl|rfl|rfl;.exact⟨Uq,λ_ _=>rfl⟩
 .exact⟨UF,λ_ _=>rfl⟩
 .exact⟨Kn,λ_ _=>rfl⟩
 .exact⟨Kn,λ_ _=>rfl⟩
 .exact⟨Kn,λ_ _=>rfl⟩
 .exact⟨UI,λ_ _=>rfl⟩
 .exact⟨U2,λ_ _=>rfl⟩
 .exact⟨T7,λ_ _=>rfl⟩
 .exact⟨Qs,λ_ _=>rfl⟩
def Jy (I:Nat->Int) (fx:Nat->Fx) (i:Nat):Value:=.iface (CR (I i)) (.pointer (some (ad ((fx i).ob) 0)))
def Ni (id:ByteArray->Int) (k:Int) (s t:ByteArray):Bool:=decide (¬ id s=0) && (decide (¬ k=5) || decide (¬ id t=0))
def K7 (id:ByteArray->Int) (I:Nat->Int) (X R:Nat->ByteArray) (Ch:Nat->Int) (fx:Nat->Fx) (i:Nat):Prop:=
 (I i=1->(fx i).tail=[iv (Ch i)])/\(I i=2->(fx i).tail=[iv (id (X i))])/\
 (I i=3\/I i=4\/I i=5->∃(l:ByteArray) (bd:Bool) (oa:Option Addr) (ol oc:Nat) (hh:Int),Sa (fx i) (Jy I fx (AK (At I) i 0)) (I i) (X i) (R i) l bd oa ol oc hh ⟨0,id (X i),id (R i),0⟩ (Ni id (I i) (X i) (R i)) (((Ch i).toNat / 6:Nat):Int) ((Ch i).toNat % 6))/\
 (I i=6->(fx i).tail=[Jy I fx (AK (At I) i (if Ch i=1 then 1 else 0)),Jy I fx (AK (At I) i (if Ch i=1 then 0 else 1))])/\
 (I i=7\/I i=8->(fx i).tail=[Jy I fx (AK (At I) i 0),Jy I fx (AK (At I) i 1)])/\
 (I i=9->(fx i).tail=[Jy I fx (AK (At I) i 0)])
structure TS (HB H0 xb:Nat) (id:ByteArray->Int) (I:Nat->Int) (X R:Nat->ByteArray) (Ch:Nat->Int) (Bd:Nat->Bool) (Lb:Nat->ByteArray) (fx:Nat->Fx) (i:Nat):Prop where
 fr:CT HB (fx i)
 h0:H0<=(fx i).ob/\H0<=(fx i).mb
 xb:(fx i).xb=xb
 lab:(fx i).lab=id (Lb i)
 nt:(fx i).nt=(Bd i && decide (id (Lb i)=0))
 tl:K7 id I X R Ch fx i
theorem TS.sc {fx:Nat->Fx} (h:TS HB H0 xb id I X R Ch Bd Lb fx i) (hf:Bd i=false->id (Lb i)=0) (Q:List Qd) (p:Qd) (hg:p.g=0):Fj Q (fx i).lab (fx i).nt p=Cl Q (BZ id Bd Lb i) p:=by rw[h.lab,h.nt];exact Sv id Q (Bd i) (Lb i) p hf hg
theorem TS.cn {fx:Nat->Fx} (h:TS HB H0 xb id I X R Ch Bd Lb fx i) (hf:Bd i=false->id (Lb i)=0) (Q:List Qd) (p:Qd) (hg:p.g=0):FG Q (fx i).lab (fx i).nt p=(Cl Q (BZ id Bd Lb i) p).length:=by rw[h.lab,h.nt];exact RA id Q (Bd i) (Lb i) p hf hg
theorem TS.lz {fx:Nat->Fx} (h:TS HB H0 xb id I X R Ch Bd Lb fx i) (hf:Bd i=false->id (Lb i)=0) (hn:(fx i).nt=false):((if Bd i=true then (1:Int) else 0)=0↔(fx i).lab=0):=by
 rw[h.lab];rw[h.nt] at hn;cases hb:Bd i with
 | false=>simp[hf hb]
 | true=>rw[hb] at hn;simp at hn;simp[hn]
theorem V0 (h:BJ 1 b ch=true) (hl:0<=lab/\lab<=2000000000) (hz:((if b=true then (1:Int) else 0)=0↔lab=0)):ch.toNat<6/\BC (A8 ch.toNat ⟨0,0,0,lab⟩) 4:=by
 unfold BJ at h;rw[if_pos rfl,Bool.and_eq_true] at h;have h1:=of_decide_eq_true h.1;refine⟨by omega,DT ((CY _ _).1 h.2) ⟨by simp,by simp,by simp,hl⟩ ?_ ?_ ?_ ?_⟩;.simp[A6]
 .simp[A6]
 .simp[A6]
 .exact hz
theorem Q4 {k:Int} (hk:k=3\/k=4\/k=5) (h:BJ k b ch=true):ch.toNat<12/\BC (A8 (ch.toNat % 6) (A6 k ((ch.toNat / 6:Nat):Int) b)) 4:=by unfold BJ at h;rw[if_neg (by omega),if_pos hk,Bool.and_eq_true] at h;have h1:=of_decide_eq_true h.1;exact⟨by omega,(CY _ _).1 h.2⟩
theorem UB {k:Int} {v:Int} (hk:k=3\/k=4\/k=5) (h:BJ k b ch=true) (hw:((ch.toNat / 6:Nat):Int)≠0) (hl:0<=lab/\lab<=2000000000) (hz:((if b=true then (1:Int) else 0)=0↔lab=0)) (hu:u≠0/\0<=u/\u<=2000000000) (hv:(k=5->v≠0)/\(k≠5->v=0)/\0<=v/\v<=2000000000):ch.toNat % 6<6/\BC (A8 (ch.toNat % 6) ⟨0,u,v,lab⟩) 4:=by
 obtain⟨h1,h2⟩:=Q4 hk h;refine⟨by omega,DT h2 ⟨by simp,hu.2,hv.2.2,hl⟩ ?_ ?_ ?_ ?_⟩;.simp only[A6];rw[if_neg (λq=>hw q.1)];simp
 .simp only[A6];rw[if_pos hk];simp[hu.1]
 .simp only[A6];by_cases h5:k=5;.rw[if_pos (.inl h5)];simp[hv.1 h5]
  .rw[if_neg (λq=>q.elim h5 (λq=>hw q.1))];simp[hv.2.1 h5]
 .exact hz
theorem Sr {k:Int} {v z:Int} (hk:k=3\/k=4\/k=5) (h:BJ k b ch=true) (hw:((ch.toNat / 6:Nat):Int)=0) (hl:0<=lab/\lab<=2000000000) (hz:((if b=true then (1:Int) else 0)=0↔lab=0)) (hu:u≠0/\0<=u/\u<=2000000000) (hv:(k=5->v≠0)/\(k≠5->v=0)/\0<=v/\v<=2000000000) (hzz:Eo z):ch.toNat % 6<6/\BC (A8 (ch.toNat % 6) ⟨(A9 k ⟨0,u,v,0⟩ z).s,(A9 k ⟨0,u,v,0⟩ z).p,(A9 k ⟨0,u,v,0⟩ z).o,lab⟩) 4:=by
 obtain⟨h1,h2⟩:=Q4 hk h;have hz0:z≠0:=λq=>by have:=hzz.1;omega
 have hzn:0<=z/\z<=2000000000:=⟨by have:=hzz.1;omega,hzz.2⟩;rw[hw] at h2;refine⟨by omega,?_⟩;rcases hk with rfl|rfl|rfl;.have hv0:=hv.2.1 (by decide);exact DT h2 ⟨hzn,hu.2,hv.2.2,hl⟩ (by simp[A6,A9,hz0]) (by simp[A6,A9,hu.1]) (by simp[A6,A9,hv0]) hz
 .exact DT h2 ⟨by simp[A9],hu.2,hzn,hl⟩ (by simp[A6,A9]) (by simp[A6,A9,hu.1]) (by simp[A6,A9,hz0]) hz
 .have hv0:=hv.1 rfl;exact DT h2 ⟨hzn,hu.2,hv.2.2,hl⟩ (by simp[A6,A9,hz0]) (by simp[A6,A9,hu.1]) (by simp[A6,A9,hv0]) hz
theorem UZ {s t:ByteArray} {a b:List Int × Nat} (h:qs.Perm (Cl Q c ⟨0,0,0,0⟩)):(BO qs []).Nodup/\(∀x,x∈BO qs []↔x∈(AV id Q 1 s t ch c a b).1)/\qs.length=(AV id Q 1 s t ch c a b).2:=by
 refine⟨Fu _ _ List.nodup_nil,λx=>?_,h.length_eq⟩;show _↔x∈BO (Cl Q c ⟨0,0,0,0⟩) [];rw[Eu,Eu];constructor
 .rintro (q|⟨q,hq,e⟩);.exact .inl q
  .exact .inr ⟨q,h.mem_iff.1 hq,e⟩
 .rintro (q|⟨q,hq,e⟩);.exact .inl q
  .exact .inr ⟨q,h.mem_iff.2 hq,e⟩
theorem Ra {k:Int} {big:Bool} {Ms:List Qd} (hK:∀x,x∈K↔x∈A) (hq:∀q,q∈qs↔q∈Ms):((Av k true K qs ([],0)).1.Nodup/\∀x,x∈(Av k true K qs ([],0)).1↔x∈(Av k big A Ms ([],r)).1):=by
 refine⟨EE _ _ List.nodup_nil,λx=>?_⟩;rw[C5,C5];constructor
 .rintro (q|⟨q,h1,h2,h3⟩);.exact .inl q
  .exact .inr ⟨q,(hq q).1 h1,(hK _).1 h2,h3⟩
 .rintro (q|⟨q,h1,h2,h3⟩);.exact .inl q
  .exact .inr ⟨q,(hq q).2 h1,(hK _).2 h2,h3⟩
theorem Qm {k:Int} {nt:Bool} {p:Qd} {L:List Int} (hk:k=3\/k=4\/k=5) (hs:∀p',p'.g=0->Fj Q lab nt p'=Cl Q c p') (hg:p.g=0) (hp:(if k=4 then p.o else p.s)=0) (hK:∀x,x∈K↔x∈A) (hn:K.Nodup) (hz:∀x,x∈K->x≠0) (h:Gk Q lab nt k p K L) :
  (∀x,x∈L↔x∈(Av k false A (Cl Q c p) ([],r)).1)/\r+Fo Q lab nt k p K=(Av k false A (Cl Q c p) ([],r)).2:=by
 have hsf:∀t,t∈K->Fj Q lab nt (A9 k p t)=(Cl Q c p).filter (λq=>DD k q == t):=λt ht=>by rw[hs _ (by unfold A9;split <;> exact hg),Ri hp (hz t ht)]
 refine⟨λx=>?_,?_⟩
 .rw[h.2 x,C5];constructor
  .rintro⟨t,ht,q,hq,e⟩;rw[hsf t ht] at hq;obtain⟨h1,h2⟩:=List.mem_filter.1 hq;have h3:DD k q=t:=by simpa using h2
   exact .inr ⟨q,h1,(hK _).1 (by rw[h3];exact ht),e⟩
  .rintro (q|⟨q,h1,h2,h3⟩);.cases q
   .have ht:=(hK _).2 h2;refine⟨_,ht,q,?_,h3⟩;rw[hsf _ ht];exact List.mem_filter.2 ⟨h1,by simp⟩
 .rw[Et,if_neg (by simp)];congr 1;unfold Fo;rw[List.map_congr_left (g:=λt=>((Cl Q c p).filter (λq=>DD k q == t)).length) (λt ht=>by rw[hsf t ht]),Jd (Cl Q c p) K hn];congr 1;apply List.filter_congr;intro q _;rw[Bool.eq_iff_iff];simp only[List.contains_iff_mem];exact hK _
theorem Um (h1:∀x,x∈K1↔x∈A) (h2:∀x,x∈K2↔x∈B):(Bq (Bq [] K1) K2).Nodup/\∀x,x∈Bq (Bq [] K1) K2↔x∈D8 7 A B:=by refine⟨BY _ _ (BY _ _ List.nodup_nil),λx=>?_⟩;unfold D8;rw[if_pos rfl,CF,CF,CF,h1,h2];simp
theorem NX (h1:∀x,x∈K1↔x∈A) (h2:∀x,x∈K2↔x∈B):(Bq [] (OT K1 K2)).Nodup/\∀x,x∈Bq [] (OT K1 K2)↔x∈D8 6 A B:=by refine⟨BY _ _ List.nodup_nil,λx=>?_⟩;unfold D8 OT;rw[if_neg (by decide),CF];simp[h1,h2]
theorem RV (h1:∀x,x∈K1↔x∈A) (h2:∀x,x∈K2↔x∈B):(Bq [] (Pe K1 K2)).Nodup/\∀x,x∈Bq [] (Pe K1 K2)↔x∈D8 8 A B:=by refine⟨BY _ _ List.nodup_nil,λx=>?_⟩;unfold D8 Pe;rw[if_neg (by decide),CF];simp[h1,h2]
variable {L:List Int}{w' w1:World}{b1 b2 j m1 m2:Nat}{s t:ByteArray}
def Tt (fx:Nat->Fx) (base m k:Nat):Prop:=∃t,t<=m/\NG (fx (base+t)) k
def Rx (id:ByteArray->Int) (Q:List Qd) (I:Nat->Int) (X R:Nat->ByteArray) (Ch:Nat->Int) (Bd:Nat->Bool) (Lb:Nat->ByteArray) (fx:Nat->Fx) (base m:Nat) (W:World) (L:List Int) (rg:Nat):Prop:=
 L.Nodup/\(∀x,x∈L↔x∈(RN id Q I X R Ch (base+m) (BZ id Bd Lb (base+m))).1)/\Bc fx W base m=(RN id Q I X R Ch (base+m) (BZ id Bd Lb (base+m))).2
structure JM (N HB H0 xb tb:Nat) (W0:World) (id:ByteArray->Int) (Q:List Qd) (I:Nat->Int) (X R:Nat->ByteArray) (Ch:Nat->Int) (Bd:Nat->Bool) (Lb:Nat->ByteArray) (fx:Nat->Fx):Prop where
 nd:∀i,i<N->TS HB H0 xb id I X R Ch Bd Lb fx i
 ap:∀i j,i<N->j<N->i≠j->BP (fx i) (fx j)
 kd:∀i,i<N->1<=I i/\I i<=9
 gc:∀i,i<N->BJ (I i) (Bd i) (Ch i)=true
 cx:∀i,i<N->∀j,j<Ah (I i)->BZ id Bd Lb (AK (At I) i j)=DU id (I i) (X i) (BZ id Bd Lb i)
 fr:∀i,i<N->Bd i=false->id (Lb i)=0
 idn:∀x,0<=id x/\id x<=2000000000
 rs:∀i,i<N->I i=3\/I i=4->id (R i)=0
 ql:Q.length<=300
 qp:∀q,q∈Q->Eo q.s/\Eo q.o
 xp:∀W,Below H0 W0 W->Hz W xb Q
 tp:∀W,Below H0 W0 W->∀V x,Bl W V->WS 97 #[pt tb,.string x] V (WT V (iv (id x)))
section
variable {N HB H0 xb tb:Nat} {W0:World} {id:ByteArray->Int} {Q:List Qd} {I:Nat->Int} {X R:Nat->ByteArray} {Ch:Nat->Int} {Bd:Nat->Bool} {Lb:Nat->ByteArray} {fx:Nat->Fx}
theorem JM.pos (E:JM N HB H0 xb tb W0 id Q I X R Ch Bd Lb fx) (i:Nat) (c:Cx):∀x,x∈(RN id Q I X R Ch i c).1->Eo x:=MD E.qp (λx=>(E.idn x).2) (i+1) i c
theorem JM.fin (E:JM N HB H0 xb tb W0 id Q I X R Ch Bd Lb fx) (hm:m<200) (hN:base+m<N) (hb:Am (λi=>Ah (I (base+i))) (m+1) 0) (hL:L.Nodup) (hx:∀x,x∈L↔x∈(RN id Q I X R Ch (base+m) c).1):(∀x,x∈L->C7 x)/\L.length<=300000:=by refine⟨λx q=>(E.pos _ _ x ((hx x).1 q)).ok,?_⟩;have h1:=DJ L _ hL (λx q=>(hx x).1 q);have h2:=(FK (id:=id) (X:=X) (R:=R) (Ch:=Ch) E.kd E.ql (m+1) base m (Wu _) hN hb c).1;omega
theorem JM.not (E:JM N HB H0 xb tb W0 id Q I X R Ch Bd Lb fx) (hN:base+m<N) (hj:j<N) (hn:j<base\/base+m<j):¬ Tt fx base m (fx j).ob/\¬ Tt fx base m (fx j).mb:=by
 refine⟨?_,?_⟩
 .rintro⟨t,ht,q|q⟩;.exact (E.ap j (base+t) hj (by omega) (by omega)).1 q
  .exact (E.ap j (base+t) hj (by omega) (by omega)).2.1 q
 .rintro⟨t,ht,q|q⟩;.exact (E.ap j (base+t) hj (by omega) (by omega)).2.2.1 q
  .exact (E.ap j (base+t) hj (by omega) (by omega)).2.2.2 q
theorem JM.tt (E:JM N HB H0 xb tb W0 id Q I X R Ch Bd Lb fx) {k:Nat} (hN:base+m<N) (h:Tt fx base m k):H0<=k/\k<HB:=by
 obtain⟨t,ht,q⟩:=h;have h1:=E.nd (base+t) (by omega);have h2:=h1.fr;have h3:=h1.h0;unfold CT at h2;rcases q with q|q;.omega
 .omega
theorem JM.sum (E:JM N HB H0 xb tb W0 id Q I X R Ch Bd Lb fx) {c n:Nat} (hN:base+m<N) (hi:i<N) (hc:c<N) (hn:i<base\/base+m<i) (hfr:Fr (PN (λk=>n<=k) (fx i) (fx c)) w1 w') (h1:HB<=n) (h2:HB<=w1.heap.size) (hrd:B6 w' (fx c).ob=B6 w1 (fx c).ob):Bc fx w' base m=Bc fx w1 base m:=by
 refine Ek (λt ht=>?_);by_cases e:base+t=c;.rw[e];exact hrd
 .have h3:=(E.nd (base+t) (by omega)).fr;unfold CT at h3;refine E5 hfr (by omega) ?_;have a1:=E.ap (base+t) i (by omega) hi (by omega);have a2:=E.ap (base+t) c (by omega) hc e;rintro ((q|q|q)|q);.exact a1.1 q
  .exact a1.2.1 q
  .omega
  .exact a2.1 q
theorem JM.sum2 (E:JM N HB H0 xb tb W0 id Q I X R Ch Bd Lb fx) (hN:base+m<N) (hN2:b2+m2<N) (hn:base+m<b2\/b2+m2<base) (hfr:Fr (Tt fx b2 m2) w1 w') (h2:HB<=w1.heap.size):Bc fx w' base m=Bc fx w1 base m:=by refine Ek (λt ht=>?_);have h3:=(E.nd (base+t) (by omega)).fr;unfold CT at h3;exact E5 hfr (by omega) (E.not hN2 (by omega) (by omega)).1
theorem JM.go (E:JM N HB H0 xb tb W0 id Q I X R Ch Bd Lb fx) {W':World} (hi:i<N) (hN1:b1+m1<N) (hN2:b2+m2<N) (hd:b1+m1<b2\/b2+m2<b1) (hi2:i<b2\/b2+m2<i) (hW:Below H0 W0 W) (hHB:HB<=W.heap.size) (hf:∀t,t<=m2->A0 W (fx (b2+t))) (hF:Fr (λk=>Tt fx b1 m1 k\/NG (fx i) k) W W'):Below H0 W0 W'/\HB<=W'.heap.size/\∀t,t<=m2->A0 W' (fx (b2+t)):=by
 have hni:=E.nd i hi;have h3:=hni.fr;unfold CT at h3;refine⟨hW.trans (hF.toBelow (by have:=hni.h0;omega) (λk hk q=>?_)),WC hHB hF.size,λt ht=>(hf t ht).fr hF ?_ ?_⟩
 .rcases q with q|q|q;.have:=(E.tt hN1 q).1;omega
  .have:=hni.h0;omega
  .have:=hni.h0;omega
 .rintro (q|q|q);.exact (E.not hN1 (by omega) (by omega)).1 q
  .exact (E.ap (b2+t) i (by omega) hi (by omega)).1 q
  .exact (E.ap (b2+t) i (by omega) hi (by omega)).2.1 q
 .rintro (q|q|q);.exact (E.not hN1 (by omega) (by omega)).2 q
  .exact (E.ap (b2+t) i (by omega) hi (by omega)).2.2.1 q
  .exact (E.ap (b2+t) i (by omega) hi (by omega)).2.2.2 q
theorem IQ {k:Nat} (h1:base<=b1) (h2:b1+m1<=base+m) (h:Tt fx b1 m1 k):Tt fx base m k:=by obtain⟨t,ht,q⟩:=h;exact⟨b1+t-base,by omega,by rw[show base+(b1+t-base)=b1+t by omega];exact q⟩
theorem JS {k:Nat} (h1:base<=j) (h2:j<=base+m) (h:NG (fx j) k):Tt fx base m k:=⟨j-base,by omega,by rw[show base+(j-base)=j by omega];exact h⟩
theorem JM.ps2 (E:JM N HB H0 xb tb W0 id Q I X R Ch Bd Lb fx) {fl:List Int->List Int->List Int} (hN:base+m<N) (s1:base<=b1/\b1+m1<base+m) (s2:base<=b2/\b2+m2<base+m) (hd:b1+m1<b2\/b2+m2<b1) (hsum:Bc fx w' base m=Bc fx w' b1 m1+Bc fx w' b2 m2+B6 w' (fx (base+m)).ob) (hHB:HB<=W.heap.size) (hf:∀t,t<=m2->A0 W (fx (b2+t)))
  (h:UL HB (fx (base+m)) (fx (b1+m1)) (fx (b2+m2)) (Tt fx b1 m1) (Tt fx b2 m2) (Rx id Q I X R Ch Bd Lb fx b1 m1) (Rx id Q I X R Ch Bd Lb fx b2 m2) W fl w') :
  ∃L,FQ w' HB (λk=>W.heap.size<=k/\k<w'.heap.size) (fx (base+m)) ((0:Nat):Int) 0 L/\Fr (Tt fx base m) W w'/\∃K1,(∀x,x∈K1↔x∈(RN id Q I X R Ch (b1+m1) (BZ id Bd Lb (b1+m1))).1)/\((K1=[]/\L=[]/\Bc fx w' base m=(RN id Q I X R Ch (b1+m1) (BZ id Bd Lb (b1+m1))).2)\/(K1≠[]/\∃K2,(∀x,x∈K2↔x∈(RN id Q I X R Ch (b2+m2) (BZ id Bd Lb (b2+m2))).1)/\L=Bq [] (fl K1 K2)/\Bc fx w' base m=(RN id Q I X R Ch (b1+m1) (BZ id Bd Lb (b1+m1))).2+(RN id Q I X R Ch (b2+m2) (BZ id Bd Lb (b2+m2))).2)):=by
 obtain⟨w1,L1,r1,Y1,a1,a2,a3,hcase⟩:=h;have hs1:=WC hHB a2.size;rcases hcase with ⟨c1,c2,c3⟩|⟨c1,w2,L2,r2,Y2,b1',b2',b3,b4,b5,b6,b7⟩
 .refine⟨[],c2,(a2.trans (Fr.ofBelow (P:=Tt fx base m) c3) (λk _ q=>IQ s1.1 (by omega) q) (λ_ _ q=>q)),L1,a3.2.1,.inl ⟨c1,rfl,?_⟩⟩;rw[hsum,c2.rd];have e1:Bc fx w' b1 m1=Bc fx w1 b1 m1:=Ek (λt ht=>E5 (P:=λ_=>False) (Fr.ofBelow c3) (by have:=(E.nd (b1+t) (by omega)).fr;unfold CT at this;omega) (λq=>q));have e2:Bc fx w' b2 m2=0:=J9 (λt ht=>by have hn:=E.not (base:=b1) (m:=m1) (j:=b2+t) (by omega) (by omega) (by omega);exact (((hf t ht).fr a2 hn.1 hn.2).fr (P:=λ_=>False) (Fr.ofBelow c3) (λq=>q) (λq=>q)).rd)
  rw[e1,e2,a3.2.2];omega
 .have hs2:=WC hs1 b2'.size;refine⟨_,b7,?_,L1,a3.2.1,.inr ⟨c1,L2,b3.2.1,rfl,?_⟩⟩
  .have f1:Fr (Tt fx base m) W w2:=a2.trans b2' (λk _ q=>IQ s1.1 (by omega) q) (λk _ q=>IQ s2.1 (by omega) q);refine f1.trans b6 (λ_ _ q=>q) (λk hk q=>?_);have:=f1.size;rcases q with (q|q|q)|q;.exact JS (by omega) (Wu _) (.inl q)
   .exact JS (by omega) (Wu _) (.inr q)
   .omega
   .exact JS (by omega) (by omega) (.inl q)
  .rw[hsum,b7.rd,E.sum (base:=b1) (m:=m1) (i:=base+m) (c:=b1+m1) (by omega) hN (by omega) (by omega) b6 hs2 hs2 (b4.rd.trans (by rw[E5 b2' (by have:=(E.nd (b1+m1) (by omega)).fr;unfold CT at this;omega) (E.not (by omega) (by omega) (by omega)).1];exact a1.rd.symm)),E.sum (base:=b2) (m:=m2) (i:=base+m) (c:=b1+m1) (by omega) hN (by omega) (by omega) b6 hs2 hs2 (b4.rd.trans (by rw[E5 b2' (by have:=(E.nd (b1+m1) (by omega)).fr;unfold CT at this;omega) (E.not (by omega) (by omega) (by omega)).1];exact a1.rd.symm)),E.sum2 (base:=b1) (m:=m1) (b2:=b2) (m2:=m2) (by omega) (by omega) (by omega) b2' hs1,a3.2.2,b3.2.2]
   omega
theorem Sn {a b:List Int × Nat}:AV id Q 6 s t ch c a b=if ch=1 then B3 6 b a else B3 6 a b:=by unfold AV;rw[if_neg (by decide),if_neg (by decide),if_pos rfl]
theorem LK {k:Int} {a b:List Int × Nat} (hk:k=7\/k=8):AV id Q k s t ch c a b=B3 k a b:=by unfold AV;rw[if_neg (by omega),if_neg (by omega),if_neg (by omega),if_pos hk]
theorem KX {k:Int} {a b:List Int × Nat} {K1:List Int} {sm:Nat} {fl:List Int->List Int->List Int} (hk:k≠7) (h1:∀x,x∈K1↔x∈a.1) (hfl:∀K2,(∀x,x∈K2↔x∈b.1)->(Bq [] (fl K1 K2)).Nodup/\∀x,x∈Bq [] (fl K1 K2)↔x∈D8 k a.1 b.1) (h:(K1=[]/\L=[]/\sm=a.2)\/(K1≠[]/\∃K2,(∀x,x∈K2↔x∈b.1)/\L=Bq [] (fl K1 K2)/\sm=a.2+b.2)) :
  L.Nodup/\(∀x,x∈L↔x∈(B3 k a b).1)/\sm=(B3 k a b).2:=by
 rcases h with ⟨rfl,rfl,rfl⟩|⟨hne,K2,h2,rfl,rfl⟩
 .have ha:a.1=[]:=by
   cases hq:a.1 with
   | nil=>rfl
   | cons x l=>have:=(h1 x).2 (by rw[hq];simp);cases this
  unfold B3;rw[if_pos ⟨by rw[ha];rfl,hk⟩];exact⟨List.nodup_nil,λx=>by rw[ha],rfl⟩
 .have ha:¬ a.1.isEmpty=true:=λq=>by
   rw[List.isEmpty_iff] at q;apply hne;cases hK:K1 with
   | nil=>rfl
   | cons x l=>have:=(h1 x).1 (by rw[hK];simp);rw[q] at this;cases this
  unfold B3;rw[if_neg (λq=>ha q.1)];exact⟨(hfl K2 h2).1,(hfl K2 h2).2,rfl⟩
theorem LP (E:JM N HB H0 xb tb W0 id Q I X R Ch Bd Lb fx) (hW0:H0=W0.heap.size):∀(f base m:Nat),m+1<=f->f<=200->base+m<N->Am (λi=>Ah (I (base+i))) (m+1) 0->∀W,Below H0 W0 W->HB<=W.heap.size->(∀t,t<=m->A0 W (fx (base+t)))->
  KO HB (MC (I (base+m))) (fx (base+m)) (Tt fx base m) (Rx id Q I X R Ch Bd Lb fx base m) W
 | 0,base,m,hf,_,_,_,_,_,_,_=>absurd hf (by omega)
 | f+1,base,m,hf,hf2,hN,hb,W,hW,hHB,hfr=>by
  have IH:=LP E hW0 f
  have hk9:=E.kd (base+m) hN
  have hnd:=E.nd (base+m) hN
  have hgc:=E.gc (base+m) hN
  have hfree:=E.fr (base+m) hN
  have hfi:=hfr m (Wu _)
  have hlab:0<=(fx (base+m)).lab/\(fx (base+m)).lab<=2000000000:=by rw[hnd.lab];exact E.idn _
  have hXW:∀V,Below H0 W V->Hz V (fx (base+m)).xb Q:=λV hV=>by
   rw[hnd.xb]
   exact E.xp V (hW.trans hV)
  have hX0:=hXW W (Wt _ _)
  have hqo:∀q,q∈Q->C7 q.s/\C7 q.o:=λq hq=>⟨(E.qp q hq).1.ok,(E.qp q hq).2.ok⟩
  obtain⟨t1,t2,t3,t6,t7,t9⟩:=hnd.tl
  have htt:∀k,NG (fx (base+m)) k->Tt fx base m k:=λk q=>⟨m,Wu _,q⟩
  rcases Gz hb with ⟨e,hm⟩|⟨e,h0,e0,g0⟩|⟨e,s,h0,h1,e0,e1,g0,g1⟩
  .have hRN:=FI (id:=id) (Q:=Q) (X:=X) (R:=R) (Ch:=Ch) hk9 (λq=>by omega) (λq=>by omega) (BZ id Bd Lb (base+m))
   subst hm
   have h12:I (base+0)=1\/I (base+0)=2:=by
    have h9:I (base+0)=1\/I (base+0)=2\/I (base+0)=3\/I (base+0)=4\/I (base+0)=5\/I (base+0)=6\/I (base+0)=7\/I (base+0)=8\/I (base+0)=9:=by omega
    rcases h9 with h|h|h|h|h|h|h|h|h
    .exact .inl h
    .exact .inr h
    all_goals (rw[h] at e;simp[Ah] at e)
   have hsum:∀(w' : World) r,B6 w' (fx (base+0)).ob=r->Bc fx w' base 0=r:=λw' r q=>(OA fx w' base).trans q
   rcases h12 with h|h
   .have hc0:0<=Ch (base+0):=by
     rw[h] at hgc
     unfold BJ at hgc
     rw[if_pos rfl,Bool.and_eq_true] at hgc
     have:=of_decide_eq_true hgc.1
     omega
    have hto:((Ch (base+0)).toNat:Int)=Ch (base+0):=by omega
    unfold KO
    rw[show MC (I (base+0))=205 by rw[h];rfl]
    refine (TK HB (fx (base+0)) Q (Ch (base+0)).toNat W hfi (by rw[hto];exact t1 h) hX0 (λhn=>V0 (by rw[h] at hgc;exact hgc) hlab (hnd.lz hfree hn)) E.ql hqo hnd.fr.1 hnd.fr.2.1 hnd.fr.2.2 hHB).mono ?_
    rintro e w' ⟨rfl,qs,hpm,hfq,hF⟩
    rw[hnd.sc hfree Q _ rfl] at hpm
    obtain⟨r1,r2,r3⟩:=UZ (id:=id) (s:=X (base+0)) (t:=R (base+0)) (ch:=Ch (base+0)) (a:=RN id Q I X R Ch (AK (At I) (base+0) 0) (DU id (I (base+0)) (X (base+0)) (BZ id Bd Lb (base+0)))) (b:=RN id Q I X R Ch (AK (At I) (base+0) 1) (DU id (I (base+0)) (X (base+0)) (BZ id Bd Lb (base+0)))) hpm
    rw[<- h,<- hRN] at r2 r3
    have hfin:=E.fin (m:=0) (by omega) hN hb r1 r2
    exact⟨rfl,_,_,hfq,hF.mono (λk _ q=>htt k q),hfin.1,hfin.2,r1,r2,(hsum w' _ hfq.rd).trans r3⟩
   .unfold KO
    rw[show MC (I (base+0))=214 by rw[h];rfl]
    have hidx:=E.idn (X (base+0))
    refine (TV HB (fx (base+0)) Q (id (X (base+0))) tb id W hfi (t2 h) hX0 (E.tp W hW) (λ_=>⟨hidx,by simp,by simp,hlab⟩) (λ_=>⟨by simp,by simp,hidx,hlab⟩) ⟨hidx.1,by omega⟩ hnd.fr.1 hnd.fr.2.1 hnd.fr.2.2 hHB).mono ?_
    rintro e w' ⟨rfl,hfq,hF⟩
    rw[hnd.cn hfree Q _ rfl,hnd.cn hfree Q _ rfl] at hfq
    have hRN2:RN id Q I X R Ch (base+0) (BZ id Bd Lb (base+0))=((if id (X (base+0))≠0/\(decide (0<(Cl Q (BZ id Bd Lb (base+0)) ⟨id (X (base+0)),0,0,0⟩).length) || decide (0<(Cl Q (BZ id Bd Lb (base+0)) ⟨0,0,id (X (base+0)),0⟩).length))=true then [id (X (base+0))] else []),0):=by
     rw[hRN,h]
     unfold AV
     rw[if_neg (by decide),if_pos rfl]
     by_cases q1:id (X (base+0))≠0/\(decide (0<(Cl Q (BZ id Bd Lb (base+0)) ⟨id (X (base+0)),0,0,0⟩).length) || decide (0<(Cl Q (BZ id Bd Lb (base+0)) ⟨0,0,id (X (base+0)),0⟩).length))=true
     .rw[if_pos q1,if_pos ⟨by have:=q1.1;omega,by have:=q1.2;simp only[Bool.or_eq_true,decide_eq_true_eq] at this;omega⟩]
     .rw[if_neg q1,if_neg (λq=>q1 ⟨by have:=q.1;omega,by have:=q.2;simp only[Bool.or_eq_true,decide_eq_true_eq];omega⟩)]
    generalize (if id (X (base+0))≠0/\(decide (0<(Cl Q (BZ id Bd Lb (base+0)) ⟨id (X (base+0)),0,0,0⟩).length) || decide (0<(Cl Q (BZ id Bd Lb (base+0)) ⟨0,0,id (X (base+0)),0⟩).length))=true then [id (X (base+0))] else [])=L at hfq hRN2
    have r1:L.Nodup:=by
     have:=Gj (id:=id) (Q:=Q) (I:=I) (X:=X) (R:=R) (Ch:=Ch) (base+0+1) (base+0) (BZ id Bd Lb (base+0))
     rw[show PS id Q I X R Ch (base+0+1) (base+0) (BZ id Bd Lb (base+0))=_ from hRN2] at this
     exact this
    have r2:∀x,x∈L↔x∈(RN id Q I X R Ch (base+0) (BZ id Bd Lb (base+0))).1:=λx=>by rw[hRN2]
    have hfin:=E.fin (m:=0) (by omega) hN hb r1 r2
    exact⟨rfl,L,0,hfq,hF.mono (λk _ q=>htt k q),hfin.1,hfin.2,r1,r2,(hsum w' _ (FQ.rd (rd:=0) hfq)).trans (by rw[hRN2])⟩
  .have hRN:=FI (id:=id) (Q:=Q) (X:=X) (R:=R) (Ch:=Ch) hk9 (λq=>by omega) (λq=>by omega) (BZ id Bd Lb (base+m))
   have hc:=E.cx (base+m) hN 0 (by omega)
   rw[e0] at hc
   rw[e0,<- hc] at hRN
   have hKO:∀V,Below H0 W0 V->HB<=V.heap.size->(∀t,t<=m-1->A0 V (fx (base+t)))->KO HB (MC (I (base+(m-1)))) (fx (base+(m-1))) (Tt fx base (m-1)) (Rx id Q I X R Ch Bd Lb fx base (m-1)) V:=IH base (m-1) (by omega) (by omega) (by omega) g0
   have hKW:=hKO W hW hHB (λt ht=>hfr t (by omega))
   have hnf:=E.not (base:=base) (m:=m-1) (j:=base+m) (by omega) hN (by omega)
   have hap:=E.ap (base+m) (base+(m-1)) hN (by omega) (by omega)
   have hvk:=Jf (E.kd (base+(m-1)) (by omega))
   have hgn:=(E.nd (base+(m-1)) (by omega)).fr
   have hg0:=(E.nd (base+(m-1)) (by omega)).h0
   have hts:∀k,Tt fx base (m-1) k->Tt fx base m k:=λk ⟨t,ht,q⟩=>⟨t,by omega,q⟩
   have hone:∀(w1 w' : World) (rg rd tg:Nat) Y Y' (K L:List Int),HB<=w1.heap.size->FQ w1 HB Y (fx (base+(m-1))) (rg:Nat) 0 K->FQ w' HB Y (fx (base+(m-1))) (rg:Nat) tg K->Fr (PN (λk=>w1.heap.size<=k) (fx (base+m)) (fx (base+(m-1)))) w1 w'->FQ w' HB Y' (fx (base+m)) (rd:Nat) 0 L->Bc fx w' base m=Bc fx w1 base (m-1)+rd:=λw1 w' rg rd tg Y Y' K L hs q1 q2 q3 q4=>by
    rw[Lz h0,q4.rd,E.sum (by omega) hN (by omega) (by omega) q3 hs hs (q2.rd.trans q1.rd.symm)]
   have hfrm:∀(w1 w' : World),Fr (Tt fx base (m-1)) W w1->Fr (PN (λk=>w1.heap.size<=k) (fx (base+m)) (fx (base+(m-1)))) w1 w'->Fr (Tt fx base m) W w':=λw1 w' q1 q2=>q1.trans q2 (λk _ q=>hts k q) (λk hk q=>by
    have:=q1.size
    rcases q with (q|q|q)|q
    .exact⟨m,Wu _,.inl q⟩
    .exact⟨m,Wu _,.inr q⟩
    .omega
    .exact⟨m-1,by omega,.inl q⟩)
   have h3459:(I (base+m)=3\/I (base+m)=4\/I (base+m)=5)\/I (base+m)=9:=by
    have h9:I (base+m)=1\/I (base+m)=2\/I (base+m)=3\/I (base+m)=4\/I (base+m)=5\/I (base+m)=6\/I (base+m)=7\/I (base+m)=8\/I (base+m)=9:=by omega
    rcases h9 with h|h|h|h|h|h|h|h|h
    all_goals first|(rw[h] at e;simp[Ah] at e;done)|simp[h]
   rcases h3459 with h|h
   .obtain⟨l,bd,oa,ol,oc,hh,hst⟩:=t3 h
    rw[e0] at hst
    have hkop:MC (I (base+m))=225:=by rcases h with h|h|h <;> (rw[h];rfl)
    have hdn:DU id (I (base+m)) (X (base+m)) (BZ id Bd Lb (base+m))=BZ id Bd Lb (base+m):=by unfold DU;rw[if_neg (by omega)]
    have hnode:AV id Q (I (base+m)) (X (base+m)) (R (base+m)) (Ch (base+m)) (BZ id Bd Lb (base+m)) (RN id Q I X R Ch (base+(m-1)) (BZ id Bd Lb (base+(m-1)))) (RN id Q I X R Ch (AK (At I) (base+m) 1) (BZ id Bd Lb (base+(m-1))))=if id (X (base+m))=0\/(I (base+m)=5/\id (R (base+m))=0) then ([],0) else Av (I (base+m)) (decide (6<=Ch (base+m))) (RN id Q I X R Ch (base+(m-1)) (BZ id Bd Lb (base+(m-1)))).1 (Cl Q (BZ id Bd Lb (base+m)) ⟨0,id (X (base+m)),id (R (base+m)),0⟩) ([],(RN id Q I X R Ch (base+(m-1)) (BZ id Bd Lb (base+(m-1)))).2):=by
     unfold AV
     rw[if_neg (by omega),if_neg (by omega),if_neg (by omega),if_neg (by omega),if_neg (by omega)]
     have er:(if I (base+m)=5 then id (R (base+m)) else 0)=id (R (base+m)):=by
      by_cases h5:I (base+m)=5
      .rw[if_pos h5]
      .rw[if_neg h5,E.rs (base+m) hN (by omega)]
     rw[er]
    rw[hnode] at hRN
    unfold KO
    rw[hkop]
    cases hask:Ni id (I (base+m)) (X (base+m)) (R (base+m)) with
    | false=>
     rw[hask] at hst
     rw[if_pos (by
      unfold Ni at hask
      simp at hask
      by_cases q:id (X (base+m))=0
      .exact .inl q
      .exact .inr (hask q))] at hRN
     refine (SP HB (fx (base+m)) _ _ _ _ _ _ _ _ _ _ _ _ _ W hfi hst hnd.fr hHB).mono ?_
     rintro e w' ⟨rfl,hfq,hbel⟩
     have r2:∀x,x∈([]:List Int)↔x∈(RN id Q I X R Ch (base+m) (BZ id Bd Lb (base+m))).1:=λx=>by rw[hRN]
     refine⟨rfl,[],0,hfq,Fr.ofBelow hbel,(λx q=>by cases q),by simp,List.nodup_nil,r2,?_⟩
     rw[hRN]
     exact J9 (λt ht=>((hfr t ht).fr (P:=λ_=>False) (Fr.ofBelow hbel) (λq=>q) (λq=>q)).rd)
    | true=>
     rw[hask] at hst
     have hak:id (X (base+m))≠0/\(I (base+m)=5->id (R (base+m))≠0):=by
      unfold Ni at hask
      simp at hask
      exact⟨hask.1,λq=>hask.2.resolve_left (λq'=>q' q)⟩
     rw[if_neg (λq=>q.elim hak.1 (λq=>hak.2 q.1 q.2))] at hRN
     have hu:=E.idn (X (base+m))
     have hv:=E.idn (R (base+m))
     have hc12:=(Q4 h hgc).1
     have hch0:0<=Ch (base+m):=by
      unfold BJ at hgc
      rw[if_neg (by omega),if_pos h,Bool.and_eq_true] at hgc
      have:=of_decide_eq_true hgc.1
      omega
     refine (Uy HB H0 (fx (base+m)) (fx (base+(m-1))) _ _ (Tt fx base (m-1)) _ Q (I (base+m)) h _ _ _ _ _ _ _ _ ⟨0,id (X (base+m)),id (R (base+m)),0⟩ _ _ W hfi hst hvk hKW ⟨hnf.1,hnf.2,λk q=>(E.tt (by omega) q).1⟩ hXW ⟨hnd.h0.1,hnd.h0.2,hg0.1⟩ (λhw W K rg hpo z hz hn=>Sr h hgc hw hlab (hnd.lz hfree hn) ⟨hak.1,hu⟩ ⟨hak.2,λq=>E.rs (base+m) hN (by omega),hv⟩ (E.pos _ _ z ((hpo.2.1 z).1 hz))) (λhw hn=>UB h hgc hw hlab (hnd.lz hfree hn) ⟨hak.1,hu⟩ ⟨hak.2,λq=>E.rs (base+m) hN (by omega),hv⟩) E.ql hqo hap hnd.fr hHB).mono ?_
     rintro e w' ⟨rfl,w1,K,rg,Y,tg,q1,q2,q3,q4,q5,L,rd,q6,q7⟩
     have hs1:HB<=w1.heap.size:=WC hHB q2.size
     have hsm:=hone w1 w' rg rd tg Y _ K L hs1 q1 q4 q5 q6
     rw[q3.2.2] at hsm
     have hboth:(L.Nodup/\(∀x,x∈L↔x∈(RN id Q I X R Ch (base+m) (BZ id Bd Lb (base+m))).1))/\(RN id Q I X R Ch (base+(m-1)) (BZ id Bd Lb (base+(m-1)))).2+rd=(RN id Q I X R Ch (base+m) (BZ id Bd Lb (base+m))).2:=by
      rcases q7 with ⟨hw,hem,rfl⟩|⟨hw,qs,hpm,rfl,rfl⟩
      .have hbig:decide (6<=Ch (base+m))=false:=decide_eq_false (by omega)
       rw[hRN,hbig]
       have:=Qm (r:=(RN id Q I X R Ch (base+(m-1)) (BZ id Bd Lb (base+(m-1)))).2) h (λp' hp'=>hnd.sc hfree Q p' hp') rfl (by
        show (if I (base+m)=4 then id (R (base+m)) else (0:Int))=0
        by_cases h4:I (base+m)=4
        .rw[if_pos h4,E.rs (base+m) hN (by omega)]
        .rw[if_neg h4]) q3.2.1 q3.1 (λx hx=>by have:=(E.pos _ _ x ((q3.2.1 x).1 hx)).1;omega) hem
       exact⟨⟨hem.1,this.1⟩,this.2⟩
      .have hbig:decide (6<=Ch (base+m))=true:=decide_eq_true (by omega)
       rw[hnd.sc hfree Q _ rfl] at hpm
       rw[hRN,hbig]
       have:=Ra (k:=I (base+m)) (big:=true) (r:=(RN id Q I X R Ch (base+(m-1)) (BZ id Bd Lb (base+(m-1)))).2) q3.2.1 (λq=>hpm.mem_iff)
       refine⟨this,?_⟩
       rw[Et,if_pos rfl,hpm.length_eq]
     have hfin:=E.fin (by omega) hN hb hboth.1.1 hboth.1.2
     exact⟨rfl,L,rd,q6,hfrm w1 w' q2 q5,hfin.1,hfin.2,hboth.1.1,hboth.1.2,hsm.trans hboth.2⟩
   .have hkop:MC (I (base+m))=223:=by rw[h];rfl
    have hnode:RN id Q I X R Ch (base+m) (BZ id Bd Lb (base+m))=RN id Q I X R Ch (base+(m-1)) (BZ id Bd Lb (base+(m-1))):=by
     rw[hRN,h]
     unfold AV
     rw[if_neg (by decide),if_neg (by decide),if_neg (by decide),if_neg (by decide),if_pos rfl]
    have ht:=t9 h
    rw[e0] at ht
    unfold KO
    rw[hkop]
    refine (Uf HB (fx (base+m)) (fx (base+(m-1))) _ _ (Tt fx base (m-1)) _ W hfi ht hvk hKW hnf hap hnd.fr hHB).mono ?_
    rintro e w' ⟨rfl,w1,K,rg,Y,q1,q2,q3,q4,q5,q6⟩
    have hs1:HB<=w1.heap.size:=WC hHB q2.size
    have hsm:=hone w1 w' rg 0 _ Y _ K _ hs1 q1 q4 q5 q6
    rw[q3.2.2,Nat.add_zero] at hsm
    have r1:(Bq [] K).Nodup:=BY _ _ List.nodup_nil
    have r2:∀x,x∈Bq [] K↔x∈(RN id Q I X R Ch (base+m) (BZ id Bd Lb (base+m))).1:=λx=>by
     rw[CF,hnode,<- q3.2.1 x]
     simp
    have hfin:=E.fin (by omega) hN hb r1 r2
    exact⟨rfl,_,0,q6,hfrm w1 w' q2 q5,hfin.1,hfin.2,r1,r2,hsm.trans (by rw[hnode])⟩
  .have hRN:=FI (id:=id) (Q:=Q) (X:=X) (R:=R) (Ch:=Ch) hk9 (λq=>by omega) (λq=>by omega) (BZ id Bd Lb (base+m))
   have hc0:=E.cx (base+m) hN 0 (by omega)
   have hc1:=E.cx (base+m) hN 1 (by omega)
   rw[e0] at hc0
   rw[e1] at hc1
   rw[e0,e1] at hRN
   have hRN' : RN id Q I X R Ch (base+m) (BZ id Bd Lb (base+m))=AV id Q (I (base+m)) (X (base+m)) (R (base+m)) (Ch (base+m)) (BZ id Bd Lb (base+m)) (RN id Q I X R Ch (base+(s-1)) (BZ id Bd Lb (base+(s-1)))) (RN id Q I X R Ch (base+s+(m-s-1)) (BZ id Bd Lb (base+s+(m-s-1)))):=by rw[hRN,hc0,hc1]
   have hf2' : ∀t,t<=m-s-1->A0 W (fx (base+s+t)):=λt ht=>by
    rw[Nat.add_assoc]
    exact hfr (s+t) (by omega)
   have hf1' : ∀t,t<=s-1->A0 W (fx (base+t)):=λt ht=>hfr t (by omega)
   have hKA:∀V,Below H0 W0 V->HB<=V.heap.size->(∀t,t<=s-1->A0 V (fx (base+t)))->KO HB (MC (I (base+(s-1)))) (fx (base+(s-1))) (Tt fx base (s-1)) (Rx id Q I X R Ch Bd Lb fx base (s-1)) V:=IH base (s-1) (by omega) (by omega) (by omega) g0
   have hKB:∀V,Below H0 W0 V->HB<=V.heap.size->(∀t,t<=m-s-1->A0 V (fx (base+s+t)))->KO HB (MC (I (base+s+(m-s-1)))) (fx (base+s+(m-s-1))) (Tt fx (base+s) (m-s-1)) (Rx id Q I X R Ch Bd Lb fx (base+s) (m-s-1)) V:=IH (base+s) (m-s-1) (by omega) (by omega) (by omega) g1
   have hvA:=Jf (E.kd (base+(s-1)) (by omega))
   have hvB:=Jf (E.kd (base+s+(m-s-1)) (by omega))
   have nA:=E.not (base:=base) (m:=s-1) (j:=base+m) (by omega) hN (by omega)
   have nB:=E.not (base:=base+s) (m:=m-s-1) (j:=base+m) (by omega) hN (by omega)
   have nAB:=E.not (base:=base+s) (m:=m-s-1) (j:=base+(s-1)) (by omega) (by omega) (by omega)
   have nBA:=E.not (base:=base) (m:=s-1) (j:=base+s+(m-s-1)) (by omega) (by omega) (by omega)
   have aA:=E.ap (base+m) (base+(s-1)) hN (by omega) (by omega)
   have aB:=E.ap (base+m) (base+s+(m-s-1)) hN (by omega) (by omega)
   have aAB:=E.ap (base+(s-1)) (base+s+(m-s-1)) (by omega) (by omega) (by omega)
   have aBA:=E.ap (base+s+(m-s-1)) (base+(s-1)) (by omega) (by omega) (by omega)
   have hgoB:∀V,Fr (Tt fx base (s-1)) W V->KO HB (MC (I (base+s+(m-s-1)))) (fx (base+s+(m-s-1))) (Tt fx (base+s) (m-s-1)) (Rx id Q I X R Ch Bd Lb fx (base+s) (m-s-1)) V:=λV hV=>by
    have:=E.go (i:=base+m) (b1:=base) (m1:=s-1) (b2:=base+s) (m2:=m-s-1) hN (by omega) (by omega) (by omega) (by omega) hW hHB hf2' (hV.mono (λ_ _ q=>.inl q))
    exact hKB V this.1 this.2.1 this.2.2
   have hgoA:∀V,Fr (Tt fx (base+s) (m-s-1)) W V->KO HB (MC (I (base+(s-1)))) (fx (base+(s-1))) (Tt fx base (s-1)) (Rx id Q I X R Ch Bd Lb fx base (s-1)) V:=λV hV=>by
    have:=E.go (i:=base+m) (b1:=base+s) (m1:=m-s-1) (b2:=base) (m2:=s-1) hN (by omega) (by omega) (by omega) (by omega) hW hHB hf1' (hV.mono (λ_ _ q=>.inl q))
    exact hKA V this.1 this.2.1 this.2.2
   have h678:I (base+m)=6\/I (base+m)=7\/I (base+m)=8:=by
    have h9:I (base+m)=1\/I (base+m)=2\/I (base+m)=3\/I (base+m)=4\/I (base+m)=5\/I (base+m)=6\/I (base+m)=7\/I (base+m)=8\/I (base+m)=9:=by omega
    rcases h9 with h|h|h|h|h|h|h|h|h
    all_goals first|(rw[h] at e;simp[Ah] at e;done)|simp[h]
   rcases h678 with h|h|h
   .have hkop:MC (I (base+m))=218:=by rw[h];rfl
    have ht:=t6 h
    unfold KO
    rw[hkop]
    rw[h,Sn] at hRN'
    by_cases h1c:Ch (base+m)=1
    .rw[if_pos h1c,if_pos h1c,e0,e1] at ht
     rw[if_pos h1c] at hRN'
     refine (QK HB (fx (base+m)) (fx (base+s+(m-s-1))) (fx (base+(s-1))) _ _ _ _ (Tt fx (base+s) (m-s-1)) (Tt fx base (s-1)) _ _ W hfi ht hvB hvA (hKB W hW hHB hf2') hgoA ⟨nB,nA,nBA,λk q=>(E.tt (by omega) q).2⟩ ⟨aB,aA,aBA⟩ hnd.fr hHB).mono ?_
     rintro e w' ⟨rfl,hps⟩
     obtain⟨L,q1,q2,K1,q3,q4⟩:=E.ps2 hN ⟨by omega,by omega⟩ ⟨by omega,by omega⟩ (by omega) (by rw[FN h0 h1];omega) hHB hf1' hps
     obtain⟨r1,r2,r3⟩:=KX (k:=6) (by decide) q3 (λK2 h2=>NX q3 h2) q4
     rw[<- hRN'] at r2 r3
     have hfin:=E.fin (by omega) hN hb r1 r2
     exact⟨rfl,L,0,q1,q2,hfin.1,hfin.2,r1,r2,r3⟩
    .rw[if_neg h1c,if_neg h1c,e0,e1] at ht
     rw[if_neg h1c] at hRN'
     refine (QK HB (fx (base+m)) (fx (base+(s-1))) (fx (base+s+(m-s-1))) _ _ _ _ (Tt fx base (s-1)) (Tt fx (base+s) (m-s-1)) _ _ W hfi ht hvA hvB (hKA W hW hHB hf1') hgoB ⟨nA,nB,nAB,λk q=>(E.tt (by omega) q).2⟩ ⟨aA,aB,aAB⟩ hnd.fr hHB).mono ?_
     rintro e w' ⟨rfl,hps⟩
     obtain⟨L,q1,q2,K1,q3,q4⟩:=E.ps2 hN ⟨by omega,by omega⟩ ⟨by omega,by omega⟩ (by omega) (FN h0 h1) hHB hf2' hps
     obtain⟨r1,r2,r3⟩:=KX (k:=6) (by decide) q3 (λK2 h2=>NX q3 h2) q4
     rw[<- hRN'] at r2 r3
     have hfin:=E.fin (by omega) hN hb r1 r2
     exact⟨rfl,L,0,q1,q2,hfin.1,hfin.2,r1,r2,r3⟩
   .have hkop:MC (I (base+m))=220:=by rw[h];rfl
    have ht:=t7 (.inl h)
    rw[e0,e1] at ht
    unfold KO
    rw[hkop]
    rw[LK (.inl h),h] at hRN'
    refine (Uw HB (fx (base+m)) (fx (base+(s-1))) (fx (base+s+(m-s-1))) _ _ _ _ (Tt fx base (s-1)) (Tt fx (base+s) (m-s-1)) (Rx id Q I X R Ch Bd Lb fx base (s-1)) (Rx id Q I X R Ch Bd Lb fx (base+s) (m-s-1)) W hfi ht hvA hvB (λV hV=>hKA V (hW.trans (hV.mono (by have:=hnd.h0;have:=hnd.fr;unfold CT at this;omega))) (WC hHB hV.size) (λt ht=>(hf1' t ht).fr (P:=λ_=>False) (Fr.ofBelow hV) (λq=>q) (λq=>q))) (λV hV=>by
     have:=E.go (i:=base+m) (b1:=base) (m1:=s-1) (b2:=base+s) (m2:=m-s-1) hN (by omega) (by omega) (by omega) (by omega) hW hHB hf2' hV
     exact hKB V this.1 this.2.1 this.2.2) ⟨nA,nB,nAB,λk q=>(E.tt (by omega) q).2,λk q=>(E.tt (by omega) q).2,JS (by omega) (by omega) (.inl rfl)⟩ ⟨aA,aB,aAB⟩ hnd.fr hHB).mono ?_
    rintro e w' ⟨rfl,w1,L1,r1,Y1,w2,⟨a1,a2,a3,a4,a5,a6⟩,w3,L2,r2,Y2,b1,b2,b3,b4,b5,b6,b7⟩
    have hs1:HB<=w1.heap.size:=WC hHB a2.size
    have hs2:HB<=w2.heap.size:=WC hs1 a5.size
    have hs3:HB<=w3.heap.size:=WC hs2 b2.size
    have hsm:Bc fx w' base m=(RN id Q I X R Ch (base+(s-1)) (BZ id Bd Lb (base+(s-1)))).2+(RN id Q I X R Ch (base+s+(m-s-1)) (BZ id Bd Lb (base+s+(m-s-1)))).2:=by
     rw[FN h0 h1,b7.rd,E.sum (base:=base) (m:=s-1) (by omega) hN (by omega) (by omega) b6 hs1 hs3 (b5.rd.trans b1.rd.symm),E.sum (base:=base+s) (m:=m-s-1) (by omega) hN (by omega) (by omega) b6 hs1 hs3 (b5.rd.trans b1.rd.symm),E.sum2 (base:=base) (m:=s-1) (by omega) (by omega) (by omega) b2 hs2,E.sum (base:=base) (m:=s-1) (by omega) hN (by omega) (by omega) a5 hs1 hs1 (a4.rd.trans a1.rd.symm),a3.2.2,b3.2.2]
     omega
    have hF:Fr (Tt fx base m) W w':=by
     have f1:Fr (Tt fx base m) W w1:=a2.mono (λk _ q=>IQ (by omega) (by omega) q)
     have f2:Fr (Tt fx base m) W w2:=f1.trans a5 (λ_ _ q=>q) (λk hk q=>by
      have:=f1.size
      rcases q with (q|q|q)|q
      .exact htt k (.inl q)
      .exact htt k (.inr q)
      .omega
      .exact JS (by omega) (by omega) (.inl q))
     have f3:Fr (Tt fx base m) W w3:=f2.trans b2 (λ_ _ q=>q) (λk _ q=>IQ (by omega) (by omega) q)
     exact f3.trans b6 (λ_ _ q=>q) (λk hk q=>by
      have:=f1.size
      rcases q with (q|q|q)|q
      .exact htt k (.inl q)
      .exact htt k (.inr q)
      .omega
      .exact JS (by omega) (by omega) (.inl q))
    obtain⟨c1,c2⟩:=Um a3.2.1 b3.2.1
    have htr:B3 7 (RN id Q I X R Ch (base+(s-1)) (BZ id Bd Lb (base+(s-1)))) (RN id Q I X R Ch (base+s+(m-s-1)) (BZ id Bd Lb (base+s+(m-s-1))))=(D8 7 (RN id Q I X R Ch (base+(s-1)) (BZ id Bd Lb (base+(s-1)))).1 (RN id Q I X R Ch (base+s+(m-s-1)) (BZ id Bd Lb (base+s+(m-s-1)))).1,(RN id Q I X R Ch (base+(s-1)) (BZ id Bd Lb (base+(s-1)))).2+(RN id Q I X R Ch (base+s+(m-s-1)) (BZ id Bd Lb (base+s+(m-s-1)))).2):=by
     unfold B3
     rw[if_neg (λq=>q.2 rfl)]
    rw[htr] at hRN'
    have r2' : ∀x,x∈Bq (Bq [] L1) L2↔x∈(RN id Q I X R Ch (base+m) (BZ id Bd Lb (base+m))).1:=λx=>by
     rw[hRN']
     exact c2 x
    have hfin:=E.fin (by omega) hN hb c1 r2'
    exact⟨rfl,_,0,b7,hF,hfin.1,hfin.2,c1,r2',by rw[hRN'];exact hsm⟩
   .have hkop:MC (I (base+m))=222:=by rw[h];rfl
    have ht:=t7 (.inr h)
    rw[e0,e1] at ht
    unfold KO
    rw[hkop]
    rw[LK (.inr h),h] at hRN'
    refine (TM HB (fx (base+m)) (fx (base+(s-1))) (fx (base+s+(m-s-1))) _ _ _ _ (Tt fx base (s-1)) (Tt fx (base+s) (m-s-1)) _ _ W hfi ht hvA hvB (hKA W hW hHB hf1') hgoB ⟨nA,nB,nAB,λk q=>(E.tt (by omega) q).2⟩ ⟨aA,aB,aAB⟩ hnd.fr hHB).mono ?_
    rintro e w' ⟨rfl,hps⟩
    obtain⟨L,q1,q2,K1,q3,q4⟩:=E.ps2 hN ⟨by omega,by omega⟩ ⟨by omega,by omega⟩ (by omega) (FN h0 h1) hHB hf2' hps
    obtain⟨r1,r2,r3⟩:=KX (k:=8) (by decide) q3 (λK2 h2=>RV q3 h2) q4
    rw[<- hRN'] at r2 r3
    have hfin:=E.fin (by omega) hN hb r1 r2
    exact⟨rfl,L,0,q1,q2,hfin.1,hfin.2,r1,r2,r3⟩
end
end Go.Proofs.YtacpbofiipdodaaGreat
