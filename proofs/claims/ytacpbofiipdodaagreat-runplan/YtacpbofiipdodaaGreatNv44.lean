import Derived.Test.YtacpbofiipdodaaGreatNv43
set_option linter.unusedVariables false
set_option linter.unusedSimpArgs false
set_option maxRecDepth 100000
set_option maxHeartbeats 90000000
namespace Go.Proofs.YtacpbofiipdodaaGreat
open Go Go.Deep Go.RowKit
variable {L:List ByteArray}{a8:Option Addr}{bb c8 g l n rds:Nat}{err:Int}{w:World}
theorem Qu {t:TypeId} {F:Nat->Value} (h:w.rowIs g t n F):Ai w g t n F:=by obtain⟨c,h1,h2,h3⟩:=h;exact⟨c,h1,by omega,h3⟩
section
variable {w W:World} {a:Option Addr} {n c:Nat} {next:Int} {da:Option Addr} {dn dc:Nat} {xa:Option Addr} {xn xc:Nat}
theorem Uc (bx:Bx W bb 37 #[iv 0,.slice none 0 0,iv 0]) (hg:CO W a8 L) (hk:K3 w a n c next da dn dc xa xn xc W/\True) (hz:w.heap.size+3<=bb):∃(b' : Nat) (a' : Option Addr) (c' : Nat),pt bb=pt b'/\Bx (((W.setCell (ad bb 0) (iv err)).setCell (ad bb 1) (.slice a8 l c8)).setCell (ad bb 2) (iv (rds:Int))) b' 37 #[iv err,.slice a' l c',iv (rds:Int)]/\CO (((W.setCell (ad bb 0) (iv err)).setCell (ad bb 1) (.slice a8 l c8)).setCell (ad bb 2) (iv (rds:Int))) a' L/\K3 w a n c next da dn dc xa xn xc (((W.setCell (ad bb 0) (iv err)).setCell (ad bb 1) (.slice a8 l c8)).setCell (ad bb 2) (iv (rds:Int)))/\True:=
 ⟨bb,a8,c8,rfl,AL (AL (AL bx rfl) rfl) rfl,F6 hg bx _ _ _,((Below.setCell hk.1 hz _).setCell hz _).setCell hz _,trivial⟩
theorem SW {b8 c16:Nat} {a16:Option Addr} (bx:Bx W bb 37 #[iv 0,.slice none 0 0,iv 0]) (hg:CO W a16 L) (hk:K3 w a n c next da dn dc xa xn xc W/\(Bx W b8 37 #[iv err,.slice a8 l c8,iv (rds:Int)]/\CO W a8 L)) (hz:w.heap.size+3<=bb/\b8<bb):∃(b' : Nat) (a' : Option Addr) (c' : Nat),pt bb=pt b'/\Bx (((W.setCell (ad bb 0) (iv err)).setCell (ad bb 1) (.slice a16 l c16)).setCell (ad bb 2) (iv (rds:Int))) b' 37 #[iv err,.slice a' l c',iv (rds:Int)]/\CO (((W.setCell (ad bb 0) (iv err)).setCell (ad bb 1) (.slice a16 l c16)).setCell (ad bb 2) (iv (rds:Int))) a' L/\K3 w a n c next da dn dc xa xn xc (((W.setCell (ad bb 0) (iv err)).setCell (ad bb 1) (.slice a16 l c16)).setCell (ad bb 2) (iv (rds:Int)))/\(Bx (((W.setCell (ad bb 0) (iv err)).setCell (ad bb 1) (.slice a16 l c16)).setCell (ad bb 2) (iv (rds:Int))) b8 37 #[iv err,.slice a8 l c8,iv (rds:Int)]/\CO (((W.setCell (ad bb 0) (iv err)).setCell (ad bb 1) (.slice a16 l c16)).setCell (ad bb 2) (iv (rds:Int))) a8 L):=
 ⟨bb,a16,c16,rfl,AL (AL (AL bx rfl) rfl) rfl,F6 hg bx _ _ _,((Below.setCell hk.1 hz.1 _).setCell hz.1 _).setCell hz.1 _,(by
  have hne:b8≠bb:=by omega
  show Bx _ _ _ _
  unfold Bx
  rw[Wv _ _ _ _ hne,Wv _ _ _ _ hne,Wv _ _ _ _ hne]
  exact hk.2.1),F6 hk.2.2 bx _ _ _⟩
end
theorem KG {f:Nat->Int} (h:Ai w g 2 n (λi=>iv (f i))):Rd .i64 w (some (ad g 0)) n f:=.inr ⟨g,0,rfl,λi hi=>by rw[WM];exact h.cell hi⟩
theorem Ux (a:Option Addr) (n c:Nat) (I:Nat->Int) (X R:Nat->ByteArray) (next:Int) (da:Option Addr) (dn dc:Nat) (Id:Nat->Int) (Xd:Nat->ByteArray) (Rf:Nat->Int) (xa:Option Addr) (xn xc:Nat) (M:Nat->Nat) (T:Nat->Nat->Tn) (la:Option Addr) (ln lc:Nat) (Ch:Nat->Int) (w:World)
  (ha:DP w a n I X R) (hX:∀i,i<n->(X i).size<=maxLen/\(R i).size<=maxLen) (hn:n<=maxLen) (hda:E0 w da dn Id Xd Rf) (hdX:∀i,i<dn->(Xd i).size<=maxLen) (hdn:dn<=maxLen) (hxa:Co w xa xn M T) (hxX:∀i,i<xn->M i<=maxLen/\∀j,j<M i->Em (T i j)) (hxn:xn<=maxLen) (hla:Rd .i64 w la ln Ch) (hln:ln<=maxLen) (hch:∀i,i<ln->-9223372036854775808<=Ch i/\Ch i<=9223372036854775807) :
  WS 3 #[.agg #[.slice a n c],.agg #[iv next,.slice da dn dc],.agg #[.slice xa xn xc],.slice la ln lc] w (WT w (.bool true)):=by
 obtain⟨err,rds,L,hl1,hLs,hLi⟩:=U9 n I X R next dn Id Xd Rf xn M T ln Ch;have HSzp:U (∀W,K3 w a n c next da dn dc xa xn xc W->WS 4 #[.agg #[.slice a n c],iv 1048576] W λe w'=>∃r:Int,e=.returned (iv r)/\(r=-1\/((0<=r/\r<=1048576)/\n<=1048576))/\Bl W w'):=λW k=>OJ a n c I X R 1048576 W (ha.below k.below) hn hX (by omega) (by omega);have HSzd:U (∀W l,K3 w a n c next da dn dc xa xn xc W->0<=l->l<=1048576->WS 5 #[.agg #[iv next,.slice da dn dc],iv l] W λe w'=>∃r:Int,e=.returned (iv r)/\(r=-1\/((0<=r/\r<=1048576)/\dn<=1048576))/\Bl W w'):=λW l k h0 h1=>MB next da dn dc Id Xd Rf l W (hda.below k.below) hdn hdX h0 h1;have HSzx:U (∀W l,K3 w a n c next da dn dc xa xn xc W->0<=l->l<=1048576->WS 6 #[.agg #[.slice xa xn xc],iv l] W λe w'=>∃r:Int,e=.returned (iv r)/\(r=-1\/(0<=r/\xn+Cb M T xn<=1048576))/\Bl W w'):=λW l k h0 h1=>Ld xa xn xc M T l W h0 h1 (hxa.below k.below) hxn hxX;have HTp0:U (n<=1048576->∀W,K3 w a n c next da dn dc xa xn xc W->WS 8 #[.agg #[.slice a n c]] W λe w'=>∃g,e=.returned (.agg #[.slice (some (ad g 0)) n n])/\W.heap.size<=g/\Ai w' g 97 (n*3) (AX I X R)/\Bl W w'):=λh1 W k=>NH a n c I X R W (ha.below k.below) h1;have HTd0:U (dn<=1048576->∀W,K3 w a n c next da dn dc xa xn xc W->WS 9 #[.agg #[iv next,.slice da dn dc]] W λe w'=>∃g,e=.returned (.agg #[iv next,.slice (some (ad g 0)) dn dn])/\W.heap.size<=g/\Ai w' g 131 (dn*3) (Az Id Xd Rf)/\Bl W w'):=λh1 W k=>MZ next da dn dc Id Xd Rf W (hda.below k.below) h1;have HTi0:U (xn<=1048576->CU xn M T->∀W,K3 w a n c next da dn dc xa xn xc W->WS 10 #[.agg #[.slice xa xn xc]] W λe w'=>∃g R9,e=.returned (.agg #[.slice (some (ad g 0)) xn xn])/\W.heap.size<=g/\AT w' (g+1) g xn 0 xn M T R9/\Bl W w'):=λh1 h2 W k=>Lc xa xn xc M T W (hxa.below k.below) h1 h2;have HTl0:U (ln<=1048576->∀W,K3 w a n c next da dn dc xa xn xc W->WS 11 #[.slice la ln lc] W λe w'=>∃g,e=.returned (.slice (some (ad g 0)) ln ln)/\W.heap.size<=g/\Ai w' g 2 ln (λi=>iv (Ch i))/\Bl W w'):=λh1 W k=>(Ge la ln lc Ch W (hla.below k.below) h1).mono λe w' ⟨e1,e2,e3,_⟩=>⟨_,e1,Wu _,Qu e2,e3⟩;obtain⟨l,hl⟩:=gn L.length;have HL:U (l=L.length):=hl;have hlm:l<=1000000:=by rw[hl];exact hl1
 have HRs:U (∀W e w',(∃err rds P,Dr n I X R next dn Id Xd Rf xn M T ln Ch err rds P/\EA W err rds P e w')->∃a' c',e=.returned (.agg #[iv err,.slice a' l c',iv (rds:Int)])/\CO w' a' L/\Bl W w'):=λW e w' q=>by rw[hl];exact hLs W e w' q
 have HRi:U (∀W e w',(∃err rds P,Dr n I X R next dn Id Xd Rf xn M T ln Ch err rds P/\FX W err rds P e w')->∃a' c',e=.returned (.agg #[iv err,.slice a' l c',iv (rds:Int)])/\Ka w' W.heap.size a' L/\Bl W w'):=λW e w' q=>by rw[hl];exact hLi W e w' q
 have HCH:=hid hch;clear ha hX hda hdX hxa hxX hLs hLi hl hl1 hla hch;have K0:U (K3 w a n c next da dn dc xa xn xc (((w.alloc (.cells #[.slice a n c] 24)).alloc (.cells #[iv next,.slice da dn dc] 27)).alloc (.cells #[.slice xa xn xc] 30))):=Wt _ _;obtain⟨W0,hW0⟩:=gn ((((w.alloc (.cells #[.slice a n c] 24)).alloc (.cells #[iv next,.slice da dn dc] 27)).alloc (.cells #[.slice xa xn xc] 30)));rw[<- hW0] at K0;go_enter Tryz.func3,Tryz.ntmps3;go_upto_region 1 with fail
 rw[<- hW0];clear hW0;by_cases hln1:1048576<(ln:Int);.go_wp2;go_ret;exact⟨rfl,K0.o.below⟩
 have hln2:ln<=1048576:=by omega
 obtain⟨z0,⟨z1,z2⟩,z3⟩:=K0.o.cells;go_wp2_with fail
 (with_reducible refine (HSzp.o _ K0.o).mono ?_)
 rintro e w1 ⟨r1,rfl,hr1,hb1⟩;have K1:=hid (K0.o.on hb1);clear hb1 HSzp K0 z0 z1 z2 z3 hln1;rcases hr1 with rfl|⟨⟨hr0,hr9⟩,hn1⟩;.go_wp2;go_ret;exact⟨rfl,K1.o.below⟩
 have hr2:¬ r1<0:=by omega
 obtain⟨z0,⟨z1,z2⟩,z3⟩:=K1.o.cells;go_wp2_with fail
 (with_reducible refine (HSzd.o _ _ K1.o hr0 hr9).mono ?_)
 rintro e w2 ⟨r2,rfl,hr,hb2⟩;have K2:=hid (K1.o.on hb2);clear hb2 HSzd K1 z0 z1 z2 z3 hr2 hr0 hr9;rcases hr with rfl|⟨⟨hr0,hr9⟩,hdn1⟩;.go_wp2;go_ret;exact⟨rfl,K2.o.below⟩
 have hr2:¬ r2<0:=by omega
 obtain⟨z0,⟨z1,z2⟩,z3⟩:=K2.o.cells;go_wp2_with fail
 (with_reducible refine (HSzx.o _ _ K2.o hr0 hr9).mono ?_)
 rintro e w3 ⟨r3,rfl,hr,hb3⟩;have K9:=hid (K2.o.on hb3);clear hb3 HSzx K2 z0 z1 z2 z3 hr2 hr0 hr9;rcases hr with rfl|⟨hr0,hsum⟩;.go_wp2;go_ret;exact⟨rfl,K9.o.below⟩
 have hr2:¬ r3<0:=by omega
 have hxn1:xn<=1048576:=by omega
 have HFt:=hid (ai (RM hsum) hsum);have HTp:=hid (HTp0.o hn1);have HTd:=hid (HTd0.o hdn1);have HTi:=hid (HTi0.o hxn1 HFt.o.1);have HTl:=hid (HTl0.o hln2);have HSp:U (∀W g0 g1 g2 g3 R9,Ai W g0 97 (n*3) (AX I X R)->Ai W g1 131 (dn*3) (Az Id Xd Rf)->AT W (g2+1) g2 xn 0 xn M T R9->Ai W g3 2 ln (λi=>iv (Ch i))->WS 7 #[.agg #[.slice (some (ad g0 0)) n n],.agg #[iv next,.slice (some (ad g1 0)) dn dn],.agg #[.slice (some (ad g2 0)) xn xn],.slice (some (ad g3 0)) ln ln] W λe w'=>∃a' c',e=.returned (.agg #[iv err,.slice a' l c',iv (rds:Int)])/\CO w' a' L/\Bl W w'):=λW g0 g1 g2 g3 R9 h0 h1 h2 h3=>(T5 _ n n I X R next _ dn dn Id Xd Rf _ xn xn M T _ ln ln Ch W (Hm h0) hn1 (Wu _) (by omega) (Ho h1) hdn1 h2.rd hxn1 HFt.o.1 (KG h3) (Wu _) (by omega) hln2).mono λe w' q=>HRs.o W e w' q;have HIm:U (∀W g0 g1 g2 g3 R9,Ai W g0 97 (n*3) (AX I X R)->Ai W g1 131 (dn*3) (Az Id Xd Rf)->AT W (g2+1) g2 xn 0 xn M T R9->Ai W g3 2 ln (λi=>iv (Ch i))->WS 12 #[.agg #[.slice (some (ad g0 0)) n n],.agg #[iv next,.slice (some (ad g1 0)) dn dn],.agg #[.slice (some (ad g2 0)) xn xn],.slice (some (ad g3 0)) ln ln] W λe w'=>∃a' c',e=.returned (.agg #[iv err,.slice a' l c',iv (rds:Int)])/\Ka w' W.heap.size a' L/\Bl W w'):=λW g0 g1 g2 g3 R9 h0 h1 h2 h3=>(Uk _ n n I X R next _ dn dn Id Xd Rf _ xn xn M T _ ln ln Ch W (Hm h0) hn1 (Wu _) (by omega) (Ho h1) hdn1 h2.rd hxn1 HFt.o.1 (KG h3) hln2 HCH.o).mono λe w' q=>HRi.o W e w' q;have HEq:U (∀(W:World) a1 c1 a2 c2,CO W a1 L->CO W a2 L->WS 13 #[.agg #[iv err,.slice a1 l c1,iv (rds:Int)],.agg #[iv err,.slice a2 l c2,iv (rds:Int)]] W (WT W (.bool true))):=λW a1 c1 a2 c2 h1 h2=>Kl err _ a1 a2 l c1 c2 L W HL.o h1 h2 hlm;have K9t:=hid (ai K9.o trivial);clear hn hdn hxn hln HTp0 HTd0 HTi0 HTl0 HRs HRi hsum HCH hr0;go_upto_region 13 with fail
 go_cut [10] from 38 to 47 (λsx wx=>∃bb a8 c8,sx=pt bb/\Bx wx bb 37 #[iv err,.slice a8 l c8,iv (rds:Int)]/\CO wx a8 L/\K3 w a n c next da dn dc xa xn xc wx/\True)
 case first=>
  refine Ac (S:=λW=>K3 w a n c next da dn dc xa xn xc W/\True) 10 (by kernel_rfl) ⟨K9t.o.1.on (Wt _ _).drew,trivial⟩ (λu hk=>?_);refine ty 0 rfl (λw' h=>by obtain⟨z0,⟨z1,z2⟩,z3⟩:=h.1.cells;clear h;go_simp;rfl) ?_;refine ty 2 rfl (λw' h=>by obtain⟨z0,⟨z1,z2⟩,z3⟩:=h.1.cells;clear h;go_simp;rfl) ?_;refine ty 4 rfl (λw' h=>by obtain⟨z0,⟨z1,z2⟩,z3⟩:=h.1.cells;clear h;go_simp;rfl) ?_;refine tx 6 rfl ?_;all_goals first
   | (have q:=bx;clear q;refine AB 1 rfl (λK hK=>?_))
   | focus
     refine Cn 1 9 rfl rfl (by kernel_rfl) (λK hK=>?_) (λK hK=>?_)
     rotate_left
     go_simp
     have ha:K3 w a n c next da dn dc xa xn xc (u.alloc (.cells #[iv 0,.slice none 0 0,iv 0] 37))/\True:=⟨hk.1.on (Aa _ _),trivial⟩
     have bx:=Bx.new u #[iv 0,.slice none 0 0,iv 0] 37
     have bz:=hk.1.size
     have hb:=Aa u (.cells #[iv 0,.slice none 0 0,iv 0] 37)
     refine hK.out _ _ (λ_=>ha) (λhG=>?_)
     clear hK K hG hk hb
     try simp only[As]
     obtain⟨bq,hba⟩:=gn u.heap.size
     rw[<- hba] at bx bz ⊢
     generalize u.alloc (.cells #[iv 0,.slice none 0 0,iv 0] 37)=u at bx ha  ⊢
     have hk:=ha
     clear hba ha
     refine AB 1 rfl (λK hK=>?_)
  all_goals
   refine BQ rfl 8 38 _ rfl _ rfl (λ_ _=>rfl) ?_
   refine (HTp.o u hk.1).mono ?_
   rintro e u ⟨g0,rfl,-,hr0,hb⟩
   replace hk:K3 w a n c next da dn dc xa xn xc u/\True:=⟨hk.1.on hb,trivial⟩
   try replace bx:Bx u bq 37 #[iv 0,.slice none 0 0,iv 0]:=(hb.block _ bx.lt).trans bx
   refine⟨_,rfl,hK.out _ _ (λ_=>hk) (λhG=>?_)⟩
   clear hK K hG hb
   simp only[As]
  all_goals first
   | (have q:=bx;clear q;refine AB 3 rfl (λK hK=>?_))
   | focus
     refine Cn 3 9 rfl rfl (by kernel_rfl) (λK hK=>?_) (λK hK=>?_)
     rotate_left
     go_simp
     have ha:K3 w a n c next da dn dc xa xn xc (u.alloc (.cells #[iv 0,.slice none 0 0,iv 0] 37))/\True:=⟨hk.1.on (Aa _ _),trivial⟩
     have bx:=Bx.new u #[iv 0,.slice none 0 0,iv 0] 37
     have bz:=hk.1.size
     have hb:=Aa u (.cells #[iv 0,.slice none 0 0,iv 0] 37)
     replace hr0:=hr0.of_block (hb.block _ hr0.lt)
     refine hK.out _ _ (λ_=>ha) (λhG=>?_)
     clear hK K hG hk hb
     try simp only[As]
     obtain⟨bq,hba⟩:=gn u.heap.size
     rw[<- hba] at bx bz ⊢
     generalize u.alloc (.cells #[iv 0,.slice none 0 0,iv 0] 37)=u at bx ha hr0 ⊢
     have hk:=ha
     clear hba ha
     refine AB 3 rfl (λK hK=>?_)
  all_goals
   refine BQ rfl 9 40 _ rfl _ rfl (λ_ _=>rfl) ?_
   refine (HTd.o u hk.1).mono ?_
   rintro e u ⟨g1,rfl,-,hr1,hb⟩
   replace hk:K3 w a n c next da dn dc xa xn xc u/\True:=⟨hk.1.on hb,trivial⟩
   replace hr0:=hr0.of_block (hb.block _ hr0.lt)
   try replace bx:Bx u bq 37 #[iv 0,.slice none 0 0,iv 0]:=(hb.block _ bx.lt).trans bx
   refine⟨_,rfl,hK.out _ _ (λ_=>hk) (λhG=>?_)⟩
   clear hK K hG hb
   simp only[As]
  all_goals first
   | (have q:=bx;clear q;refine AB 5 rfl (λK hK=>?_))
   | focus
     refine Cn 5 9 rfl rfl (by kernel_rfl) (λK hK=>?_) (λK hK=>?_)
     rotate_left
     go_simp
     have ha:K3 w a n c next da dn dc xa xn xc (u.alloc (.cells #[iv 0,.slice none 0 0,iv 0] 37))/\True:=⟨hk.1.on (Aa _ _),trivial⟩
     have bx:=Bx.new u #[iv 0,.slice none 0 0,iv 0] 37
     have bz:=hk.1.size
     have hb:=Aa u (.cells #[iv 0,.slice none 0 0,iv 0] 37)
     replace hr0:=hr0.of_block (hb.block _ hr0.lt)
     replace hr1:=hr1.of_block (hb.block _ hr1.lt)
     refine hK.out _ _ (λ_=>ha) (λhG=>?_)
     clear hK K hG hk hb
     try simp only[As]
     obtain⟨bq,hba⟩:=gn u.heap.size
     rw[<- hba] at bx bz ⊢
     generalize u.alloc (.cells #[iv 0,.slice none 0 0,iv 0] 37)=u at bx ha hr0 hr1 ⊢
     have hk:=ha
     clear hba ha
     refine AB 5 rfl (λK hK=>?_)
  all_goals
   refine BQ rfl 10 42 _ rfl _ rfl (λ_ _=>rfl) ?_
   refine (HTi.o u hk.1).mono ?_
   rintro e u ⟨g2,R9,rfl,-,hr2,hb⟩
   replace hk:K3 w a n c next da dn dc xa xn xc u/\True:=⟨hk.1.on hb,trivial⟩
   replace hr0:=hr0.of_block (hb.block _ hr0.lt)
   replace hr1:=hr1.of_block (hb.block _ hr1.lt)
   try replace bx:Bx u bq 37 #[iv 0,.slice none 0 0,iv 0]:=(hb.block _ bx.lt).trans bx
   refine⟨_,rfl,hK.out _ _ (λ_=>hk) (λhG=>?_)⟩
   clear hK K hG hb
   simp only[As]
  all_goals first
   | (have q:=bx;clear q;refine AB 7 rfl (λK hK=>?_))
   | focus
     refine Cn 7 9 rfl rfl (by kernel_rfl) (λK hK=>?_) (λK hK=>?_)
     rotate_left
     go_simp
     have ha:K3 w a n c next da dn dc xa xn xc (u.alloc (.cells #[iv 0,.slice none 0 0,iv 0] 37))/\True:=⟨hk.1.on (Aa _ _),trivial⟩
     have bx:=Bx.new u #[iv 0,.slice none 0 0,iv 0] 37
     have bz:=hk.1.size
     have hb:=Aa u (.cells #[iv 0,.slice none 0 0,iv 0] 37)
     replace hr0:=hr0.of_block (hb.block _ hr0.lt)
     replace hr1:=hr1.of_block (hb.block _ hr1.lt)
     replace hr2:=hr2.below hb
     refine hK.out _ _ (λ_=>ha) (λhG=>?_)
     clear hK K hG hk hb
     try simp only[As]
     obtain⟨bq,hba⟩:=gn u.heap.size
     rw[<- hba] at bx bz ⊢
     generalize u.alloc (.cells #[iv 0,.slice none 0 0,iv 0] 37)=u at bx ha hr0 hr1 hr2 ⊢
     have hk:=ha
     clear hba ha
     refine AB 7 rfl (λK hK=>?_)
  all_goals
   refine BQ rfl 11 44 _ rfl _ rfl (λ_ _=>rfl) ?_
   refine (HTl.o u hk.1).mono ?_
   rintro e u ⟨g3,rfl,-,hr3,hb⟩
   replace hk:K3 w a n c next da dn dc xa xn xc u/\True:=⟨hk.1.on hb,trivial⟩
   replace hr0:=hr0.of_block (hb.block _ hr0.lt)
   replace hr1:=hr1.of_block (hb.block _ hr1.lt)
   replace hr2:=hr2.below hb
   try replace bx:Bx u bq 37 #[iv 0,.slice none 0 0,iv 0]:=(hb.block _ bx.lt).trans bx
   refine⟨_,rfl,hK.out _ _ (λ_=>hk) (λhG=>?_)⟩
   clear hK K hG hb
   simp only[As]
  all_goals first
   | (have q:=bx;clear q;refine AB 8 rfl (λK hK=>?_))
   | focus
     refine Cn 8 9 rfl rfl (by kernel_rfl) (λK hK=>?_) (λK hK=>?_)
     rotate_left
     go_simp
     have ha:K3 w a n c next da dn dc xa xn xc (u.alloc (.cells #[iv 0,.slice none 0 0,iv 0] 37))/\True:=⟨hk.1.on (Aa _ _),trivial⟩
     have bx:=Bx.new u #[iv 0,.slice none 0 0,iv 0] 37
     have bz:=hk.1.size
     have hb:=Aa u (.cells #[iv 0,.slice none 0 0,iv 0] 37)
     replace hr0:=hr0.of_block (hb.block _ hr0.lt)
     replace hr1:=hr1.of_block (hb.block _ hr1.lt)
     replace hr2:=hr2.below hb
     replace hr3:=hr3.of_block (hb.block _ hr3.lt)
     refine hK.out _ _ (λ_=>ha) (λhG=>?_)
     clear hK K hG hk hb
     try simp only[As]
     obtain⟨bq,hba⟩:=gn u.heap.size
     rw[<- hba] at bx bz ⊢
     generalize u.alloc (.cells #[iv 0,.slice none 0 0,iv 0] 37)=u at bx ha hr0 hr1 hr2 hr3 ⊢
     have hk:=ha
     clear hba ha
     refine AB 8 rfl (λK hK=>?_)
  all_goals
   refine Dy rfl 7 39 41 43 45 _ rfl _ _ _ _ rfl rfl rfl rfl (λ_ _=>rfl) ?_
   refine (HSp.o u g0 g1 g2 g3 R9 hr0 hr1 hr2 hr3).mono ?_
   rintro e u ⟨a8,c8,rfl,ho,hb⟩
   replace hk:K3 w a n c next da dn dc xa xn xc u/\True:=⟨hk.1.on hb,trivial⟩
   try replace bx:Bx u bq 37 #[iv 0,.slice none 0 0,iv 0]:=(hb.block _ bx.lt).trans bx
   refine⟨_,rfl,hK.out _ _ (λ_=>hk) (λhG=>?_)⟩
   clear hK K hG hb hr0 hr1 hr2 hr3
   simp only[As]
  all_goals first
   | (have q:=bx;clear q)
   | focus
     refine AB 9 rfl (λK hK=>?_)
     go_simp
     have ha:K3 w a n c next da dn dc xa xn xc (u.alloc (.cells #[iv 0,.slice none 0 0,iv 0] 37))/\True:=⟨hk.1.on (Aa _ _),trivial⟩
     have bx:=Bx.new u #[iv 0,.slice none 0 0,iv 0] 37
     have bz:=hk.1.size
     have hb:=Aa u (.cells #[iv 0,.slice none 0 0,iv 0] 37)
     replace ho:=ho.below hb
     refine hK.out _ _ (λ_=>ha) (λhG=>?_)
     clear hK K hG hk hb
     try simp only[As]
     obtain⟨bq,hba⟩:=gn u.heap.size
     rw[<- hba] at bx bz ⊢
     generalize u.alloc (.cells #[iv 0,.slice none 0 0,iv 0] 37)=u at bx ha  ho ⊢
     have hk:=ha
     clear hba ha
  all_goals
   have f0:∀i,u.frozen? (ad bq i)=false:=λi=>by have:=bx;unfold Bx at this;simp[World.frozen?,this]
   have c0:=bx.cell 0
   have c1:=bx.cell 1
   have c2:=bx.cell 2
   simp at c0 c1 c2
   have hlt:=bx.lt
   have HBX:=hid (ai bx (ai hk ho))
   clear bx hk ho
   refine AB 10 rfl (λK hK=>?_)
   go_simp
   refine hK.out _ _ (λhne=>absurd rfl hne) (λhG=>?_)
   clear hK K hG
   refine Ae (by kernel_rfl) ?_ _
   go_wp2
   go_meet
   case rel=>
    exact Uc HBX.o.1 HBX.o.2.2 HBX.o.2.1 bz
 case rest=>
 obtain⟨b8,a8,c8,rfl,hx8,hg8,hk8,-⟩:=hcut;have K8:=hid (ai hk8 (ai hx8 hg8));clear hx8 hg8 hk8 HSp K9 K9t;obtain⟨wk,hwk⟩:=gn wc;subst hwk;obtain⟨z0,⟨z1,z2⟩,z3⟩:=K8.o.1.cells;go_wp2_with fail
 (with_reducible refine (HTp.o _ K8.o.1).mono ?_)
 rintro e w5 ⟨g0,rfl,hg0,hr0,hb5⟩;obtain⟨W6,hW6⟩:=gn (w5.alloc (.cells #[.slice (some (ad g0 0)) n n] 41));have hb6:Bl wk W6:=by rw[hW6];exact hb5.trans ((Aa _ _).mono hb5.size)
 have X6:U (Bl wk W6/\Bx W6 w5.heap.size 41 #[.slice (some (ad g0 0)) n n]/\Ai W6 g0 97 (n*3) (AX I X R)/\wk.heap.size<=g0/\g0<w5.heap.size):=by
  refine⟨hb6,?_,?_,hg0,hr0.lt⟩;.rw[hW6];exact Bx.new _ _ _
  .rw[hW6];exact hr0.of_block ((Aa _ _).block _ hr0.lt)
 clear hg0 hr0 hb5 hb6 z0 z1 z2 z3;go_upto_region 15 with fail
 rw[<- hW6];clear hW6;generalize w5.heap.size=b0 at X6 ⊢;obtain⟨z0,⟨z1,z2⟩,z3⟩:=(K8.o.1.on X6.o.1).cells;go_wp2_with fail
 (with_reducible refine (HTd.o _ (K8.o.1.on X6.o.1)).mono ?_)
 rintro e w7 ⟨g1,rfl,hg1,hr1,hb7⟩;obtain⟨W8,hW8⟩:=gn (w7.alloc (.cells #[iv next,.slice (some (ad g1 0)) dn dn] 45));have hb8:Bl W6 W8:=by rw[hW8];exact hb7.trans ((Aa _ _).mono hb7.size)
 have X8:U ((Bl wk W8/\Bx W8 b0 41 #[.slice (some (ad g0 0)) n n]/\Ai W8 g0 97 (n*3) (AX I X R)/\wk.heap.size<=g0/\g0<b0)/\Bx W8 w7.heap.size 45 #[iv next,.slice (some (ad g1 0)) dn dn]/\Ai W8 g1 131 (dn*3) (Az Id Xd Rf)/\b0<g1/\g1<w7.heap.size):=by
  refine⟨⟨X6.o.1.trans (hb8.mono X6.o.1.size),(hb8.block _ X6.o.2.1.lt).trans X6.o.2.1,X6.o.2.2.1.of_block (hb8.block _ X6.o.2.2.1.lt),X6.o.2.2.2⟩,?_,?_,WF X6.o.2.1.lt hg1,hr1.lt⟩;.rw[hW8];exact Bx.new _ _ _
  .rw[hW8];exact hr1.of_block ((Aa _ _).block _ hr1.lt)
 clear hg1 hr1 hb7 hb8 z0 z1 z2 z3 X6;go_upto_region 16 with fail
 rw[<- hW8];clear hW8;generalize w7.heap.size=b1 at X8 ⊢;obtain⟨z0,⟨z1,z2⟩,z3⟩:=(K8.o.1.on X8.o.1.1).cells;go_wp2_with fail
 (with_reducible refine (HTi.o _ (K8.o.1.on X8.o.1.1)).mono ?_)
 rintro e w9 ⟨g2,R9,rfl,hg2,hr2,hb9⟩;obtain⟨W9,hW9⟩:=gn (w9.alloc (.cells #[.slice (some (ad g2 0)) xn xn] 49));have hb10:Bl W8 W9:=by rw[hW9];exact hb9.trans ((Aa _ _).mono hb9.size)
 have HTT:U (∀W g3,Bl W9 W->W9.heap.size<=g3->Ai W g3 2 ln (λi=>iv (Ch i))->Ll w wk W a n c next da dn dc xa xn xc I X R Id Xd Rf M T ln Ch b0 b1 w9.heap.size g0 g1 g2 g3 R9):=λW g3 hW hg3 hr3=>by
  have q9:=hb10.trans (hW.mono hb10.size);have bI:Bx W9 w9.heap.size 49 #[.slice (some (ad g2 0)) xn xn]:=by rw[hW9];exact Bx.new _ _ _
  have bO:AT W9 (g2+1) g2 xn 0 xn M T R9:=by rw[hW9];exact hr2.below (Aa _ _)
  exact⟨K8.o.1,X8.o.1.1.trans (q9.mono X8.o.1.1.size),(q9.block _ X8.o.1.2.1.lt).trans X8.o.1.2.1,(q9.block _ X8.o.2.1.lt).trans X8.o.2.1,(hW.block _ bI.lt).trans bI,X8.o.1.2.2.1.of_block (q9.block _ X8.o.1.2.2.1.lt),X8.o.2.2.1.of_block (q9.block _ X8.o.2.2.1.lt),bO.below hW,hr3,X8.o.1.2.2.2.1,X8.o.1.2.2.2.2,X8.o.2.2.2.1,X8.o.2.2.2.2,WF X8.o.2.1.lt hg2,hr2.2.2.1,WF bI.lt hg3⟩
 have K10:U (K3 w a n c next da dn dc xa xn xc W9):=K8.o.1.on (X8.o.1.1.trans (hb10.mono X8.o.1.1.size));clear hg2 hr2 hb9 hb10 z0 z1 z2 z3 X8;go_upto_region 17 with fail
 rw[<- hW9];clear hW9;generalize w9.heap.size=b2 at HTT ⊢;go_wp2_with fail
 (with_reducible refine (HTl.o _ K10.o).mono ?_)
 rintro e w10 ⟨g3,rfl,hg3,hr3,hb10⟩;have X10:=hid (ai (HTT.o w10 g3 hb10 hg3 hr3) hr3.lt);clear hg3 hr3 hb10 HTT K10;obtain⟨y0,⟨y1,y2⟩,y3⟩:=X10.o.1.cells;have HIg:U (WS 12 #[.agg #[.slice (some (ad g0 0)) n n],.agg #[iv next,.slice (some (ad g1 0)) dn dn],.agg #[.slice (some (ad g2 0)) xn xn],.slice (some (ad g3 0)) ln ln] w10 λe w'=>∃a' c',e=.returned (.agg #[iv err,.slice a' l c',iv (rds:Int)])/\Ka w' w10.heap.size a' L/\Bl w10 w'):=HIm.o w10 g0 g1 g2 g3 R9 X10.o.1.r0 X10.o.1.r1 X10.o.1.r2 X10.o.1.r3;go_wp2_with fail
 (with_reducible refine HIg.o.mono ?_)
 rintro e w11 ⟨a12,c12,rfl,ho12,hb11⟩;obtain⟨B9,hB9⟩:=gn w10.heap.size;obtain⟨W12,hW12⟩:=gn (w11.alloc (.cells #[iv err,.slice a12 l c12,iv (rds:Int)] 37));have X12:U ((Ll w wk W12 a n c next da dn dc xa xn xc I X R Id Xd Rf M T ln Ch b0 b1 b2 g0 g1 g2 g3 R9)/\An W12 B9 w11.heap.size err rds l a12 c12 L/\g3<B9):=by rw[hW12,hB9];have hq:Bl w10 (w11.alloc (.cells #[iv err,.slice a12 l c12,iv (rds:Int)] 37)):=hb11.trans ((Aa _ _).mono hb11.size);exact⟨X10.o.1.keep hq,⟨Bx.new _ _ _,ho12.below (Aa _ _),hb11.size,hq.size⟩,X10.o.2⟩
 have HWB:U (wk.heap.size<=B9):=by rw[hB9];exact X10.o.1.bel.size
 clear HIg ho12 hb11 y0 y1 y2 y3 X10 hB9;go_upto_region 19 with fail
 rw[<- hW12];clear hW12;generalize w11.heap.size=b12 at X12 ⊢;obtain⟨x0,x1,x2⟩:=X12.o.2.1.cells;obtain⟨y0,y1,y2⟩:W12.cell? (ad b8 0)=some (iv err)/\W12.cell? (ad b8 1)=some (.slice a8 l c8)/\W12.cell? (ad b8 2)=some (iv (rds:Int)):=US ((X12.o.1.bel.block _ K8.o.2.1.lt).trans K8.o.2.1);go_wp2_with fail
 (with_reducible refine (HEq.o W12 _ _ _ _ X12.o.2.1.ow.rd (K8.o.2.2.below X12.o.1.bel)).mono ?_)
 rintro e w13 ⟨rfl,hb13⟩;have X13:=hid (ai (X12.o.1.keep hb13) (ai (X12.o.2.1.below hb13) X12.o.2.2));clear hb13 X12 x0 x1 x2 y0 y1 y2;go_upto_region 21 with fail
 refine Ac (S:=λW=>Ll w wk W a n c next da dn dc xa xn xc I X R Id Xd Rf M T ln Ch b0 b1 b2 g0 g1 g2 g3 R9/\An W B9 b12 err rds l a12 c12 L/\g3<B9) 4 (by kernel_rfl) (⟨X13.o.1.keep (Wt _ _).drew,X13.o.2.1.below (Wt _ _).drew,X13.o.2.2⟩) (λW hHeld=>?_);refine ty 0 rfl (λw' h=>by obtain⟨y0,⟨y1,y2⟩,y3⟩:=h.1.cells;obtain⟨z0,⟨z1,z2⟩,z3⟩:=h.1.k.cells;clear h;go_simp;rfl) ?_;refine ty 1 rfl (λw' h=>by obtain⟨y0,⟨y1,y2⟩,y3⟩:=h.1.cells;obtain⟨z0,⟨z1,z2⟩,z3⟩:=h.1.k.cells;clear h;go_simp;rfl) ?_;refine AB 2 rfl (λK hK=>?_);refine BQ rfl 8 65 _ rfl (.agg #[.slice a n c]) rfl (λ_ _=>rfl) ?_;refine (HTp.o W hHeld.1.k).mono ?_;rintro e p1 ⟨g9,rfl,-,hr9,hb⟩;have h1:Ll w wk p1 a n c next da dn dc xa xn xc I X R Id Xd Rf M T ln Ch b0 b1 b2 g0 g1 g2 g3 R9/\An p1 B9 b12 err rds l a12 c12 L/\g3<B9:=⟨hHeld.1.keep hb,hHeld.2.1.below hb,hHeld.2.2⟩;refine⟨_,rfl,hK.out _ _ (λ_=>h1) (λhG=>?_)⟩;clear hK K hG hb hHeld;simp only[As];refine AB 3 rfl (λK hK=>?_);refine AF rfl 14 64 66 _ rfl (.agg #[.slice (some (ad g0 0)) n n]) (.agg #[.slice (some (ad g9 0)) n n]) rfl rfl (λ_ _=>rfl) ?_;refine (MF _ _ n n n I X R p1 (Hm h1.1.r0) (Hm hr9) hn1).mono ?_;rintro e p2 ⟨rfl,hb⟩;have X21:=hid (ai (h1.1.keep hb) (ai (h1.2.1.below hb) h1.2.2));refine⟨_,rfl,hK.out _ _ (λ_=>X21.o) (λhG=>?_)⟩;clear hK K hG hb h1 hr9;simp only[As];refine AB 4 rfl (λK hK=>?_);go_simp;refine hK.out _ _ (λ_=>X21.o) (λhG=>?_);clear hK K hG X13;refine Ae (by kernel_rfl) ?_ _;go_upto_region 23 with fail
 refine Ac (S:=λW=>Ll w wk W a n c next da dn dc xa xn xc I X R Id Xd Rf M T ln Ch b0 b1 b2 g0 g1 g2 g3 R9/\An W B9 b12 err rds l a12 c12 L/\g3<B9) 4 (by kernel_rfl) (⟨X21.o.1.keep (Wt _ _).drew,X21.o.2.1.below (Wt _ _).drew,X21.o.2.2⟩) (λW hHeld=>?_);refine ty 0 rfl (λw' h=>by obtain⟨y0,⟨y1,y2⟩,y3⟩:=h.1.cells;obtain⟨z0,⟨z1,z2⟩,z3⟩:=h.1.k.cells;clear h;go_simp;rfl) ?_;refine ty 1 rfl (λw' h=>by obtain⟨y0,⟨y1,y2⟩,y3⟩:=h.1.cells;obtain⟨z0,⟨z1,z2⟩,z3⟩:=h.1.k.cells;clear h;go_simp;rfl) ?_;refine AB 2 rfl (λK hK=>?_);refine BQ rfl 9 70 _ rfl (.agg #[iv next,.slice da dn dc]) rfl (λ_ _=>rfl) ?_;refine (HTd.o W hHeld.1.k).mono ?_;rintro e q1 ⟨g9,rfl,-,hr9,hb⟩;have h1:Ll w wk q1 a n c next da dn dc xa xn xc I X R Id Xd Rf M T ln Ch b0 b1 b2 g0 g1 g2 g3 R9/\An q1 B9 b12 err rds l a12 c12 L/\g3<B9:=⟨hHeld.1.keep hb,hHeld.2.1.below hb,hHeld.2.2⟩;refine⟨_,rfl,hK.out _ _ (λ_=>h1) (λhG=>?_)⟩;clear hK K hG hb hHeld;simp only[As];refine AB 3 rfl (λK hK=>?_);refine AF rfl 15 69 71 _ rfl (.agg #[iv next,.slice (some (ad g1 0)) dn dn]) (.agg #[iv next,.slice (some (ad g9 0)) dn dn]) rfl rfl (λ_ _=>rfl) ?_;refine (M5 next _ _ dn dn dn Id Xd Rf q1 (Ho h1.1.r1) (Ho hr9) hdn1).mono ?_;rintro e q2 ⟨rfl,hb⟩;have X23:=hid (ai (h1.1.keep hb) (ai (h1.2.1.below hb) h1.2.2));refine⟨_,rfl,hK.out _ _ (λ_=>X23.o) (λhG=>?_)⟩;clear hK K hG hb h1 hr9;simp only[As];refine AB 4 rfl (λK hK=>?_);go_simp;refine hK.out _ _ (λ_=>X23.o) (λhG=>?_);clear hK K hG X21;refine Ae (by kernel_rfl) ?_ _;go_upto_region 25 with fail
 refine Ac (S:=λW=>Ll w wk W a n c next da dn dc xa xn xc I X R Id Xd Rf M T ln Ch b0 b1 b2 g0 g1 g2 g3 R9/\An W B9 b12 err rds l a12 c12 L/\g3<B9) 4 (by kernel_rfl) (⟨X23.o.1.keep (Wt _ _).drew,X23.o.2.1.below (Wt _ _).drew,X23.o.2.2⟩) (λW hHeld=>?_);refine ty 0 rfl (λw' h=>by obtain⟨y0,⟨y1,y2⟩,y3⟩:=h.1.cells;obtain⟨z0,⟨z1,z2⟩,z3⟩:=h.1.k.cells;clear h;go_simp;rfl) ?_;refine ty 1 rfl (λw' h=>by obtain⟨y0,⟨y1,y2⟩,y3⟩:=h.1.cells;obtain⟨z0,⟨z1,z2⟩,z3⟩:=h.1.k.cells;clear h;go_simp;rfl) ?_;refine AB 2 rfl (λK hK=>?_);refine BQ rfl 10 75 _ rfl (.agg #[.slice xa xn xc]) rfl (λ_ _=>rfl) ?_;refine (HTi.o W hHeld.1.k).mono ?_;rintro e t1 ⟨g9,R8,rfl,-,hr9,hb⟩;have h1:Ll w wk t1 a n c next da dn dc xa xn xc I X R Id Xd Rf M T ln Ch b0 b1 b2 g0 g1 g2 g3 R9/\An t1 B9 b12 err rds l a12 c12 L/\g3<B9:=⟨hHeld.1.keep hb,hHeld.2.1.below hb,hHeld.2.2⟩;refine⟨_,rfl,hK.out _ _ (λ_=>h1) (λhG=>?_)⟩;clear hK K hG hb hHeld;simp only[As];refine AB 3 rfl (λK hK=>?_);refine AF rfl 16 74 76 _ rfl (.agg #[.slice (some (ad g2 0)) xn xn]) (.agg #[.slice (some (ad g9 0)) xn xn]) rfl rfl (λ_ _=>rfl) ?_;refine (Mb _ _ xn xn xn M T t1 h1.1.r2.rd hr9.rd hxn1 HFt.o.1).mono ?_;rintro e t2 ⟨rfl,hb⟩;have X25:=hid (ai (h1.1.keep hb) (ai (h1.2.1.below hb) h1.2.2));refine⟨_,rfl,hK.out _ _ (λ_=>X25.o) (λhG=>?_)⟩;clear hK K hG hb h1 hr9;simp only[As];refine AB 4 rfl (λK hK=>?_);go_simp;refine hK.out _ _ (λ_=>X25.o) (λhG=>?_);clear hK K hG X23;refine Ae (by kernel_rfl) ?_ _;have HEl:U (∀W:World,Ll w wk W a n c next da dn dc xa xn xc I X R Id Xd Rf M T ln Ch b0 b1 b2 g0 g1 g2 g3 R9->∀g,Ai W g 2 ln (λi=>iv (Ch i))->WS 17 #[.slice (some (ad g3 0)) ln ln,.slice (some (ad g 0)) ln ln] W (WT W (.bool true))):=λW h g hr=>by refine (F9 _ _ ln ln ln Ch W (KG h.r3) (KG hr) hln2).mono ?_;rintro e w' ⟨rfl,m,rfl⟩;exact⟨rfl,Af (Wt _ _) m⟩
 go_wp2_with fail
 (with_reducible refine (HTl.o _ X25.o.1.k).mono ?_)
 rintro e w27 ⟨g9,rfl,-,hr9,hb⟩;have X26:=hid (ai (X25.o.1.keep hb) (ai (X25.o.2.1.below hb) X25.o.2.2));clear hb X25;go_wp2_with fail
 (with_reducible refine (HEl.o w27 X26.o.1 g9 hr9).mono ?_)
 rintro e w28 ⟨rfl,hb⟩;have X27:=hid (ai (X26.o.1.keep hb) (ai (X26.o.2.1.below hb) X26.o.2.2));clear hb X26 hr9 HEl;obtain⟨y0,⟨y1,y2⟩,y3⟩:=X27.o.1.cells;go_wp2_with fail
 (with_reducible refine (JP 1 g0 n n _ (by omega) (Sc X27.o.1.r0) (by omega)).mono ?_)
 rintro e w30 ⟨rfl,hm1⟩;have X30:U ((Bx w30 b1 45 #[iv next,.slice (some (ad g1 0)) dn dn]/\Ai w30 g1 131 (dn*3) (Az Id Xd Rf))/\∀W2 W3 W4,w30.grownBy W2 (some g1)->(Bx W2 b2 49 #[.slice (some (ad g2 0)) xn xn]/\AT W2 (g2+1) g2 xn 0 xn M T R9)/\(En (R9 0) (R9 xn) W2 W3->Ai W3 g3 2 ln (λi=>iv (Ch i))/\(W3.grownBy W4 (some g3)->Bl wk W4/\An W4 B9 b12 err rds l a12 c12 L))):=by refine⟨(X27.o.1.marks (W2:=wk) (W3:=wk) (W4:=wk) X27.o.2.1.le X27.o.2.2 hm1).1,λW2 W3 W4 m2=>?_⟩;have q:=(X27.o.1.marks (W2:=W2) (W3:=W3) (W4:=W4) X27.o.2.1.le X27.o.2.2 hm1).2 m2;exact⟨q.1,λm3=>⟨(q.2 m3).1,λm4=>⟨((q.2 m3).2 m4).1,X27.o.2.1.stay ((q.2 m3).2 m4).2.1 ((q.2 m3).2 m4).2.2⟩⟩⟩
 clear hm1 y0 y1 y2 y3 X27;have y1:=X30.o.1.1.cell 0;have y2:=X30.o.1.1.cell 1;simp at y1 y2;go_wp2_with fail
 (with_reducible refine (JJ _ next g1 dn dn _ (by omega) (Sg X30.o.1.2) (by omega)).mono ?_)
 rintro e w31 ⟨rfl,hm2⟩;have X31:U ((Bx w31 b2 49 #[.slice (some (ad g2 0)) xn xn]/\AT w31 (g2+1) g2 xn 0 xn M T R9)/\∀W3 W4,En (R9 0) (R9 xn) w31 W3->Ai W3 g3 2 ln (λi=>iv (Ch i))/\(W3.grownBy W4 (some g3)->Bl wk W4/\An W4 B9 b12 err rds l a12 c12 L)):=⟨(X30.o.2 w31 wk wk hm2).1,λW3 W4=>(X30.o.2 w31 W3 W4 hm2).2⟩;clear hm2 y1 y2 X30;have y3:=X31.o.1.1.cell 0;simp at y3;go_wp2_with fail
 (with_reducible refine (Iu _ (1+3*n+3*dn) (by omega) (by omega) (g2+1) g2 xn xn M T R9 _ X31.o.1.2 HFt.o.2).mono ?_)
 rintro e w32 ⟨p32,rfl,hm3,hp1,hp2⟩;have hp3:1<=p32/\p32+ln<=1073741824:=by have:=HFt.o.2;omega
 have X32:U (Ai w32 g3 2 ln (λi=>iv (Ch i))/\∀W4,w32.grownBy W4 (some g3)->Bl wk W4/\An W4 B9 b12 err rds l a12 c12 L):=⟨(X31.o.2 w32 wk hm3).1,λW4=>(X31.o.2 w32 W4 hm3).2⟩;clear hm3 y3 X31 hp1 hp2;have HMl:U (WS 21 #[.slice (some (ad g3 0)) ln ln,iv (p32:Int)] w32 λe w'=>∃q:Nat,e=.returned (iv (q:Int))/\Bl wk w'/\An w' B9 b12 err rds l a12 c12 L):=by refine (LW _ ln ln p32 Ch w32 (.inr ⟨g3,rfl,X32.o.1⟩) hp3.1 hp3.2).mono ?_;rintro e w' ⟨rfl,hg,h0,hv⟩;exact⟨_,rfl,X32.o.2 w' hg⟩
 clear X32 hp3;go_wp2_with fail
 (with_reducible refine HMl.o.mono ?_)
 rintro e w33 ⟨q33,rfl,hb33,ha33⟩;have X33:=hid (ai hb33 ha33);have hq33:¬ ((q33:Int)<0):=by omega
 clear hb33 ha33 HMl;obtain⟨x0,x1,x2⟩:=X33.o.2.cells;obtain⟨y0,y1,y2⟩:w33.cell? (ad b8 0)=some (iv err)/\w33.cell? (ad b8 1)=some (.slice a8 l c8)/\w33.cell? (ad b8 2)=some (iv (rds:Int)):=US ((X33.o.1.block _ K8.o.2.1.lt).trans K8.o.2.1);go_wp2_with fail
 (with_reducible refine (HEq.o w33 _ _ _ _ X33.o.2.ow.rd (K8.o.2.2.below X33.o.1)).mono ?_)
 rintro e w34 ⟨rfl,hb⟩;have X34:=hid (ai (X33.o.1.trans (hb.mono X33.o.1.size)) (X33.o.2.below hb));clear hb X33 x0 x1 x2 y0 y1 y2 hq33;obtain⟨ml,hml⟩:=gn (1+l);have HMr:U (WS 22 #[.agg #[iv err,.slice a12 l c12,iv (rds:Int)],iv 1] w34 λe w'=>e=.returned (iv (ml:Int))/\(Bl wk w'/\Bx w' b12 37 #[iv err,.slice a12 l c12,iv (rds:Int)]/\DL w' 9 a12 l (λi=>.string (Ln (1+i))))):=by
  rw[hml];refine (Im err _ a12 l c12 L w34 HL.o B9 X34.o.2.ow hlm).mono ?_;rintro e w' ⟨rfl,hg,h0,hv⟩;refine⟨rfl,?_⟩;have hbx:=X34.o.2.1;by_cases hl0:l=0;.have hb:=h0 hl0;exact⟨X34.o.1.trans (hb.mono X34.o.1.size),(hb.block _ hbx.lt).trans hbx,hv⟩
  .rcases X34.o.2.ow with e|⟨g,rfl,hge,hr⟩;.exact absurd (by rw[HL.o,e];rfl) hl0
   .have hne:g≠b12:=λe=>by obtain⟨cur,hc,_⟩:=hr;rw[e,show w34.heap[b12]?=_ from hbx] at hc;simp at hc
    exact⟨X34.o.1.grown hg X34.o.1.size (λb e=>by simp at e;have:=HWB.o;omega),(hg.block _ hbx.lt (λe=>hne (by simp at e;exact e.symm))).trans hbx,hv⟩
 obtain⟨x0,x1,x2⟩:=X34.o.2.cells;go_wp2_with fail
 (with_reducible refine HMr.o.mono ?_)
 rintro e w35 ⟨rfl,hx35⟩;have X35:=hid hx35;clear hx35 HMr X34 x0 x1 x2;have HHd:U (WS 23 #[.agg #[iv err,.slice a12 l c12,iv (rds:Int)],iv 1] w35 (WT w35 (iv (ml:Int)))):=by rw[hml];exact IJ err _ a12 l c12 w35 X35.o.2.2 hlm
 clear hml;obtain⟨x0,x1,x2⟩:=US X35.o.2.1;go_wp2_with fail
 (with_reducible refine HHd.o.mono ?_)
 rintro e w36 ⟨rfl,hb⟩;have X36:U (K3 w a n c next da dn dc xa xn xc w36/\(Bx w36 b8 37 #[iv err,.slice a8 l c8,iv (rds:Int)]/\CO w36 a8 L)):=by have hq:=X35.o.1.trans (hb.mono X35.o.1.size);exact⟨K8.o.1.on hq,(hq.block _ K8.o.2.1.lt).trans K8.o.2.1,K8.o.2.2.below hq⟩
 have hm0:¬ ((ml:Int)<0):=by omega
 clear hb HHd X35 x0 x1 x2 K8;go_upto_region 44 with fail
 go_cut [19] from 115 to 124 (λsx wx=>∃bb a16 c16,sx=pt bb/\Bx wx bb 37 #[iv err,.slice a16 l c16,iv (rds:Int)]/\CO wx a16 L/\K3 w a n c next da dn dc xa xn xc wx/\(Bx wx b8 37 #[iv err,.slice a8 l c8,iv (rds:Int)]/\CO wx a8 L))
 case first=>
  refine Ac (S:=λW=>K3 w a n c next da dn dc xa xn xc W/\(Bx W b8 37 #[iv err,.slice a8 l c8,iv (rds:Int)]/\CO W a8 L)) 10 (by kernel_rfl) ⟨X36.o.1.on (Wt _ _).drew,((Wt _ _).drew.block _ X36.o.2.1.lt).trans X36.o.2.1,X36.o.2.2.below (Wt _ _).drew⟩ (λu hk=>?_);refine ty 0 rfl (λw' h=>by obtain⟨z0,⟨z1,z2⟩,z3⟩:=h.1.cells;clear h;go_simp;rfl) ?_;refine ty 2 rfl (λw' h=>by obtain⟨z0,⟨z1,z2⟩,z3⟩:=h.1.cells;clear h;go_simp;rfl) ?_;refine ty 4 rfl (λw' h=>by obtain⟨z0,⟨z1,z2⟩,z3⟩:=h.1.cells;clear h;go_simp;rfl) ?_;refine tx 6 rfl ?_;all_goals first
   | (have q:=bx;clear q;refine AB 1 rfl (λK hK=>?_))
   | focus
     refine Cn 1 9 rfl rfl (by kernel_rfl) (λK hK=>?_) (λK hK=>?_)
     rotate_left
     go_simp
     have ha:K3 w a n c next da dn dc xa xn xc (u.alloc (.cells #[iv 0,.slice none 0 0,iv 0] 37))/\(Bx (u.alloc (.cells #[iv 0,.slice none 0 0,iv 0] 37)) b8 37 #[iv err,.slice a8 l c8,iv (rds:Int)]/\CO (u.alloc (.cells #[iv 0,.slice none 0 0,iv 0] 37)) a8 L):=⟨hk.1.on (Aa _ _),((Aa _ _).block _ hk.2.1.lt).trans hk.2.1,hk.2.2.below (Aa _ _)⟩
     have bx:=Bx.new u #[iv 0,.slice none 0 0,iv 0] 37
     have bz:w.heap.size+3<=u.heap.size/\b8<u.heap.size:=⟨hk.1.size,hk.2.1.lt⟩
     have hb:=Aa u (.cells #[iv 0,.slice none 0 0,iv 0] 37)
     refine hK.out _ _ (λ_=>ha) (λhG=>?_)
     clear hK K hG hk hb
     try simp only[As]
     obtain⟨bq,hba⟩:=gn u.heap.size
     rw[<- hba] at bx bz ⊢
     generalize u.alloc (.cells #[iv 0,.slice none 0 0,iv 0] 37)=u at bx ha  ⊢
     have hk:=ha
     clear hba ha
     refine AB 1 rfl (λK hK=>?_)
  all_goals
   refine BQ rfl 8 115 _ rfl _ rfl (λ_ _=>rfl) ?_
   refine (HTp.o u hk.1).mono ?_
   rintro e u ⟨g0,rfl,-,hr0,hb⟩
   replace hk:K3 w a n c next da dn dc xa xn xc u/\(Bx u b8 37 #[iv err,.slice a8 l c8,iv (rds:Int)]/\CO u a8 L):=⟨hk.1.on hb,(hb.block _ hk.2.1.lt).trans hk.2.1,hk.2.2.below hb⟩
   try replace bx:Bx u bq 37 #[iv 0,.slice none 0 0,iv 0]:=(hb.block _ bx.lt).trans bx
   refine⟨_,rfl,hK.out _ _ (λ_=>hk) (λhG=>?_)⟩
   clear hK K hG hb
   simp only[As]
  all_goals first
   | (have q:=bx;clear q;refine AB 3 rfl (λK hK=>?_))
   | focus
     refine Cn 3 9 rfl rfl (by kernel_rfl) (λK hK=>?_) (λK hK=>?_)
     rotate_left
     go_simp
     have ha:K3 w a n c next da dn dc xa xn xc (u.alloc (.cells #[iv 0,.slice none 0 0,iv 0] 37))/\(Bx (u.alloc (.cells #[iv 0,.slice none 0 0,iv 0] 37)) b8 37 #[iv err,.slice a8 l c8,iv (rds:Int)]/\CO (u.alloc (.cells #[iv 0,.slice none 0 0,iv 0] 37)) a8 L):=⟨hk.1.on (Aa _ _),((Aa _ _).block _ hk.2.1.lt).trans hk.2.1,hk.2.2.below (Aa _ _)⟩
     have bx:=Bx.new u #[iv 0,.slice none 0 0,iv 0] 37
     have bz:w.heap.size+3<=u.heap.size/\b8<u.heap.size:=⟨hk.1.size,hk.2.1.lt⟩
     have hb:=Aa u (.cells #[iv 0,.slice none 0 0,iv 0] 37)
     replace hr0:=hr0.of_block (hb.block _ hr0.lt)
     refine hK.out _ _ (λ_=>ha) (λhG=>?_)
     clear hK K hG hk hb
     try simp only[As]
     obtain⟨bq,hba⟩:=gn u.heap.size
     rw[<- hba] at bx bz ⊢
     generalize u.alloc (.cells #[iv 0,.slice none 0 0,iv 0] 37)=u at bx ha hr0 ⊢
     have hk:=ha
     clear hba ha
     refine AB 3 rfl (λK hK=>?_)
  all_goals
   refine BQ rfl 9 117 _ rfl _ rfl (λ_ _=>rfl) ?_
   refine (HTd.o u hk.1).mono ?_
   rintro e u ⟨g1,rfl,-,hr1,hb⟩
   replace hk:K3 w a n c next da dn dc xa xn xc u/\(Bx u b8 37 #[iv err,.slice a8 l c8,iv (rds:Int)]/\CO u a8 L):=⟨hk.1.on hb,(hb.block _ hk.2.1.lt).trans hk.2.1,hk.2.2.below hb⟩
   replace hr0:=hr0.of_block (hb.block _ hr0.lt)
   try replace bx:Bx u bq 37 #[iv 0,.slice none 0 0,iv 0]:=(hb.block _ bx.lt).trans bx
   refine⟨_,rfl,hK.out _ _ (λ_=>hk) (λhG=>?_)⟩
   clear hK K hG hb
   simp only[As]
  all_goals first
   | (have q:=bx;clear q;refine AB 5 rfl (λK hK=>?_))
   | focus
     refine Cn 5 9 rfl rfl (by kernel_rfl) (λK hK=>?_) (λK hK=>?_)
     rotate_left
     go_simp
     have ha:K3 w a n c next da dn dc xa xn xc (u.alloc (.cells #[iv 0,.slice none 0 0,iv 0] 37))/\(Bx (u.alloc (.cells #[iv 0,.slice none 0 0,iv 0] 37)) b8 37 #[iv err,.slice a8 l c8,iv (rds:Int)]/\CO (u.alloc (.cells #[iv 0,.slice none 0 0,iv 0] 37)) a8 L):=⟨hk.1.on (Aa _ _),((Aa _ _).block _ hk.2.1.lt).trans hk.2.1,hk.2.2.below (Aa _ _)⟩
     have bx:=Bx.new u #[iv 0,.slice none 0 0,iv 0] 37
     have bz:w.heap.size+3<=u.heap.size/\b8<u.heap.size:=⟨hk.1.size,hk.2.1.lt⟩
     have hb:=Aa u (.cells #[iv 0,.slice none 0 0,iv 0] 37)
     replace hr0:=hr0.of_block (hb.block _ hr0.lt)
     replace hr1:=hr1.of_block (hb.block _ hr1.lt)
     refine hK.out _ _ (λ_=>ha) (λhG=>?_)
     clear hK K hG hk hb
     try simp only[As]
     obtain⟨bq,hba⟩:=gn u.heap.size
     rw[<- hba] at bx bz ⊢
     generalize u.alloc (.cells #[iv 0,.slice none 0 0,iv 0] 37)=u at bx ha hr0 hr1 ⊢
     have hk:=ha
     clear hba ha
     refine AB 5 rfl (λK hK=>?_)
  all_goals
   refine BQ rfl 10 119 _ rfl _ rfl (λ_ _=>rfl) ?_
   refine (HTi.o u hk.1).mono ?_
   rintro e u ⟨g2,R9,rfl,-,hr2,hb⟩
   replace hk:K3 w a n c next da dn dc xa xn xc u/\(Bx u b8 37 #[iv err,.slice a8 l c8,iv (rds:Int)]/\CO u a8 L):=⟨hk.1.on hb,(hb.block _ hk.2.1.lt).trans hk.2.1,hk.2.2.below hb⟩
   replace hr0:=hr0.of_block (hb.block _ hr0.lt)
   replace hr1:=hr1.of_block (hb.block _ hr1.lt)
   try replace bx:Bx u bq 37 #[iv 0,.slice none 0 0,iv 0]:=(hb.block _ bx.lt).trans bx
   refine⟨_,rfl,hK.out _ _ (λ_=>hk) (λhG=>?_)⟩
   clear hK K hG hb
   simp only[As]
  all_goals first
   | (have q:=bx;clear q;refine AB 7 rfl (λK hK=>?_))
   | focus
     refine Cn 7 9 rfl rfl (by kernel_rfl) (λK hK=>?_) (λK hK=>?_)
     rotate_left
     go_simp
     have ha:K3 w a n c next da dn dc xa xn xc (u.alloc (.cells #[iv 0,.slice none 0 0,iv 0] 37))/\(Bx (u.alloc (.cells #[iv 0,.slice none 0 0,iv 0] 37)) b8 37 #[iv err,.slice a8 l c8,iv (rds:Int)]/\CO (u.alloc (.cells #[iv 0,.slice none 0 0,iv 0] 37)) a8 L):=⟨hk.1.on (Aa _ _),((Aa _ _).block _ hk.2.1.lt).trans hk.2.1,hk.2.2.below (Aa _ _)⟩
     have bx:=Bx.new u #[iv 0,.slice none 0 0,iv 0] 37
     have bz:w.heap.size+3<=u.heap.size/\b8<u.heap.size:=⟨hk.1.size,hk.2.1.lt⟩
     have hb:=Aa u (.cells #[iv 0,.slice none 0 0,iv 0] 37)
     replace hr0:=hr0.of_block (hb.block _ hr0.lt)
     replace hr1:=hr1.of_block (hb.block _ hr1.lt)
     replace hr2:=hr2.below hb
     refine hK.out _ _ (λ_=>ha) (λhG=>?_)
     clear hK K hG hk hb
     try simp only[As]
     obtain⟨bq,hba⟩:=gn u.heap.size
     rw[<- hba] at bx bz ⊢
     generalize u.alloc (.cells #[iv 0,.slice none 0 0,iv 0] 37)=u at bx ha hr0 hr1 hr2 ⊢
     have hk:=ha
     clear hba ha
     refine AB 7 rfl (λK hK=>?_)
  all_goals
   refine BQ rfl 11 121 _ rfl _ rfl (λ_ _=>rfl) ?_
   refine (HTl.o u hk.1).mono ?_
   rintro e u ⟨g3,rfl,-,hr3,hb⟩
   replace hk:K3 w a n c next da dn dc xa xn xc u/\(Bx u b8 37 #[iv err,.slice a8 l c8,iv (rds:Int)]/\CO u a8 L):=⟨hk.1.on hb,(hb.block _ hk.2.1.lt).trans hk.2.1,hk.2.2.below hb⟩
   replace hr0:=hr0.of_block (hb.block _ hr0.lt)
   replace hr1:=hr1.of_block (hb.block _ hr1.lt)
   replace hr2:=hr2.below hb
   try replace bx:Bx u bq 37 #[iv 0,.slice none 0 0,iv 0]:=(hb.block _ bx.lt).trans bx
   refine⟨_,rfl,hK.out _ _ (λ_=>hk) (λhG=>?_)⟩
   clear hK K hG hb
   simp only[As]
  all_goals first
   | (have q:=bx;clear q;refine AB 8 rfl (λK hK=>?_))
   | focus
     refine Cn 8 9 rfl rfl (by kernel_rfl) (λK hK=>?_) (λK hK=>?_)
     rotate_left
     go_simp
     have ha:K3 w a n c next da dn dc xa xn xc (u.alloc (.cells #[iv 0,.slice none 0 0,iv 0] 37))/\(Bx (u.alloc (.cells #[iv 0,.slice none 0 0,iv 0] 37)) b8 37 #[iv err,.slice a8 l c8,iv (rds:Int)]/\CO (u.alloc (.cells #[iv 0,.slice none 0 0,iv 0] 37)) a8 L):=⟨hk.1.on (Aa _ _),((Aa _ _).block _ hk.2.1.lt).trans hk.2.1,hk.2.2.below (Aa _ _)⟩
     have bx:=Bx.new u #[iv 0,.slice none 0 0,iv 0] 37
     have bz:w.heap.size+3<=u.heap.size/\b8<u.heap.size:=⟨hk.1.size,hk.2.1.lt⟩
     have hb:=Aa u (.cells #[iv 0,.slice none 0 0,iv 0] 37)
     replace hr0:=hr0.of_block (hb.block _ hr0.lt)
     replace hr1:=hr1.of_block (hb.block _ hr1.lt)
     replace hr2:=hr2.below hb
     replace hr3:=hr3.of_block (hb.block _ hr3.lt)
     refine hK.out _ _ (λ_=>ha) (λhG=>?_)
     clear hK K hG hk hb
     try simp only[As]
     obtain⟨bq,hba⟩:=gn u.heap.size
     rw[<- hba] at bx bz ⊢
     generalize u.alloc (.cells #[iv 0,.slice none 0 0,iv 0] 37)=u at bx ha hr0 hr1 hr2 hr3 ⊢
     have hk:=ha
     clear hba ha
     refine AB 8 rfl (λK hK=>?_)
  all_goals
   refine Dy rfl 12 116 118 120 122 _ rfl _ _ _ _ rfl rfl rfl rfl (λ_ _=>rfl) ?_
   refine (HIm.o u g0 g1 g2 g3 R9 hr0 hr1 hr2 hr3).mono ?_
   rintro e u ⟨a16,c16,rfl,ho,hb⟩
   replace ho:=ho.rd
   replace hk:K3 w a n c next da dn dc xa xn xc u/\(Bx u b8 37 #[iv err,.slice a8 l c8,iv (rds:Int)]/\CO u a8 L):=⟨hk.1.on hb,(hb.block _ hk.2.1.lt).trans hk.2.1,hk.2.2.below hb⟩
   try replace bx:Bx u bq 37 #[iv 0,.slice none 0 0,iv 0]:=(hb.block _ bx.lt).trans bx
   refine⟨_,rfl,hK.out _ _ (λ_=>hk) (λhG=>?_)⟩
   clear hK K hG hb hr0 hr1 hr2 hr3
   simp only[As]
  all_goals first
   | (have q:=bx;clear q)
   | focus
     refine AB 9 rfl (λK hK=>?_)
     go_simp
     have ha:K3 w a n c next da dn dc xa xn xc (u.alloc (.cells #[iv 0,.slice none 0 0,iv 0] 37))/\(Bx (u.alloc (.cells #[iv 0,.slice none 0 0,iv 0] 37)) b8 37 #[iv err,.slice a8 l c8,iv (rds:Int)]/\CO (u.alloc (.cells #[iv 0,.slice none 0 0,iv 0] 37)) a8 L):=⟨hk.1.on (Aa _ _),((Aa _ _).block _ hk.2.1.lt).trans hk.2.1,hk.2.2.below (Aa _ _)⟩
     have bx:=Bx.new u #[iv 0,.slice none 0 0,iv 0] 37
     have bz:w.heap.size+3<=u.heap.size/\b8<u.heap.size:=⟨hk.1.size,hk.2.1.lt⟩
     have hb:=Aa u (.cells #[iv 0,.slice none 0 0,iv 0] 37)
     replace ho:=ho.below hb
     refine hK.out _ _ (λ_=>ha) (λhG=>?_)
     clear hK K hG hk hb
     try simp only[As]
     obtain⟨bq,hba⟩:=gn u.heap.size
     rw[<- hba] at bx bz ⊢
     generalize u.alloc (.cells #[iv 0,.slice none 0 0,iv 0] 37)=u at bx ha  ho ⊢
     have hk:=ha
     clear hba ha
  all_goals
   have f0:∀i,u.frozen? (ad bq i)=false:=λi=>by have:=bx;unfold Bx at this;simp[World.frozen?,this]
   have c0:=bx.cell 0
   have c1:=bx.cell 1
   have c2:=bx.cell 2
   simp at c0 c1 c2
   have hlt:=bx.lt
   have HBX:=hid (ai bx (ai hk ho))
   clear bx hk ho
   refine AB 10 rfl (λK hK=>?_)
   go_simp
   refine hK.out _ _ (λhne=>absurd rfl hne) (λhG=>?_)
   clear hK K hG
   refine Ae (by kernel_rfl) ?_ _
   go_wp2
   go_meet
   case rel=>
    exact SW HBX.o.1 HBX.o.2.2 HBX.o.2.1 bz
 case rest=>
 obtain⟨b16,a16,c16,rfl,hx,hg,hk,hx8,hg8⟩:=hcut;have X40:=hid (ai hk (ai hg hg8));obtain⟨x0,x1,x2⟩:=US hx;obtain⟨y0,y1,y2⟩:=US hx8;clear hx hg hk hx8 hg8;go_wp2_with fail
 (with_reducible refine (HEq.o _ _ _ _ _ X40.o.2.1 X40.o.2.2).mono ?_)
 rintro e w41 ⟨rfl,hb⟩;have HF:=hid ((X40.o.1.on hb).below);clear hb;go_wp2;go_ret;exact⟨rfl,HF.o⟩
end Go.Proofs.YtacpbofiipdodaaGreat
namespace Go.Proofs.YtacpbofiipdodaaGreat
open Go Go.ChangeAt Go.ChangeShapes Go.Deep Go.Joins Go.RowKit Go.WideShapes
section
variable {H:Type} {enc:TypeId × Value->H} {W:World}
def IsInts (w:World) (v:Value):Prop:=∃a n c f,v=.slice a n c/\Rd .i64 w a n f/\(∀i,i<n->-9223372036854775808<=f i/\f i<=9223372036854775807)/\n<=maxLen
theorem openInts {r:Reach} {b0:Nat} {v:Value} {d:DataW H} {p:List MemPlace} (hv:Value.okWide Tryz.prog W r b0 31 v) (h:DataW.Trod enc Tryz.prog W 0 (λ_=>true) true 31 v d p):IsInts W v:=by
 obtain⟨a0,len,cap,rfl⟩:=okWide_slice Tryz.underlying31 hv;obtain⟨fuel,hf⟩:=h;rcases open_ints Tryz.underlying31 Tryz.underlying2 (by kernel_rfl) hf with ⟨hcs,_⟩|⟨y,l,c,zs,hcs,_,hl,hm,hz,_,hcell,hwz⟩;.simp[Value.cells] at hcs;obtain⟨rfl,rfl,rfl⟩:=hcs;exact⟨none,0,0,λ_=>0,rfl,Or.inl rfl,λi hi=>absurd hi (Wy _),Ww _⟩
 .simp[Value.cells] at hcs;obtain⟨rfl,rfl,rfl⟩:=hcs;refine⟨_,len,cap,λi=>zs.getD i 0,rfl,?_,λi hi=>?_,by omega⟩
  .by_cases h0:len=0;.exact Or.inl h0
   .simp at hz;obtain⟨b,off,spot⟩:=y;have hs:=LF (hcell 0 (by omega));simp at hs;subst hs;exact Or.inr ⟨b,off,rfl,λi hi=>by rw[<- N7];exact hcell i (by omega)⟩
  .simp at hz;have hiz:i<zs.length:=by omega
   have hw:=hwz (zs.getD i 0) (by rw[WA,Wx hiz];exact WE hiz);exact bounds_i64 hw
end
theorem rpLaw (v0 v1 v2 v3:Value) (w:World) (h0:IsPath w v0) (h1:IsDict w v1) (h2:IsIndex w v2) (h3:IsInts w v3):WS 3 #[v0,v1,v2,v3] w (WT w (.bool true)):=by obtain⟨a,n,c,I,X,R,rfl,ha,hX,hn⟩:=h0;obtain⟨next,da,dn,dc,Id,Xd,Rf,rfl,hda,hdX,hdn⟩:=h1;obtain⟨xa,xn,xc,M,T,rfl,hxa,hxX,hxn⟩:=h2;obtain⟨la,ln,lc,Ch,rfl,hla,hch,hln⟩:=h3;exact Ux a n c I X R next da dn dc Id Xd Rf xa xn xc M T la ln lc Ch w ha hX hn hda hdX hdn hxa hxX hxn hla hln hch
end Go.Proofs.YtacpbofiipdodaaGreat
