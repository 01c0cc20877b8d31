import Derived.Test.YtacpbofiipdodaaGreatNv29
set_option linter.unusedVariables false
set_option linter.unusedSimpArgs false
set_option maxRecDepth 100000
set_option maxHeartbeats 90000000
namespace Go.Proofs.YtacpbofiipdodaaGreat
open Go Go.Deep Go.RowKit
theorem Ib (k:Int) (VF PF VG PG:Value) (rF rG:List Int × Nat) (go cpo:Nat) (a0 a1:Option Addr) (l0 k0 l1 k1:Nat) (pb po pl pc:Nat) (ch:Int) (next:Int) (a:Option Addr) (n c:Nat) (qa:Option Addr) (ll qc:Nat) (x:Cx) (w:World) (hk0:w.cell? (ad go 0)=some (.slice a0 l0 k0)) (hk1:w.cell? (ad go 1)=some (.slice a1 l1 k1)) (q1:Nat) (hq1:q1=l0+l1) (hpl:pl=q1+1) (hpc:pl<=pc) (hl:pl<=1000) (hch:w.cell? (ad pb (po+q1))=some (iv ch)) (hc:((k=8\/k=7\/k=6/\¬ ch=1)/\VF=.slice a0 l0 k0/\PF=.slice (some (ad pb po)) l0 pc/\VG=.slice a1 l1 k1/\PG=.slice (some (ad pb (po+l0))) l1 (pc-l0))\/(k=6/\ch=1)/\VF=.slice a1 l1 k1/\PF=.slice (some (ad pb (po+l0))) l1 (pc-l0)/\VG=.slice a0 l0 k0/\PG=.slice (some (ad pb po)) l0 pc) (hKF:G4 w VF PF (wv next a n c qa ll qc) x rF) (hKG:G4 w VG PG (wv next a n c qa ll qc) x rG) (hzF:rF.1.length<=400000/\rF.2<=1000000000000) (hzG:rG.1.length<=400000/\rG.2<=1000000000000) :
  WS 77 #[iv k,.slice (some (ad go 0)) 2 cpo,.slice (some (ad pb po)) pl pc,wv next a n c qa ll qc,cv x] w (Gq w (B3 k rF rG)):=by
 obtain⟨xb,xg⟩:=x;have HC:=hid hch;have HKF:=hid hKF;have HKG:=hid hKG;have HZ:=hid (ai hzF hzG);have HKD:=hid (ai hk0 hk1);obtain⟨kk,hkk⟩:=gn k;have HKK:=hid hkk;obtain⟨RES,hRES⟩:=gn (B3 k rF rG);have HO:U (RES=B3 kk rF rG):=by rw[hkk];exact hRES
 rw[<- hRES];have hw1:IntKind.i64.wrap ((pl:Int)-1)=(q1:Int):=by rw[Wz];omega
 have hcu0:=λW=>Ol pb po pl pc l0 (by omega) hpc (by omega) W;have hcu1:∀W:World,(Instr.sliceAt 31 (.slice (some (ad pb po)) pl pc) (some (iv (l0:Int))) (some (iv (q1:Int))) none).run Tryz.prog W=.ok (.slice (some (ad pb (po+l0))) l1 (pc-l0)) W:=λW=>by have:=Sm pb po pl pc l0 q1 (by omega) (by omega) hpc (by omega) W;rw[show q1-l0=l1 by omega] at this;exact this
 have i0:(0:Int)<=(q1:Int):=by omega
 have i1:(q1:Int)<(pl:Int):=by omega
 clear hRES hkk hch hKF hKG hzF hzG hk0 hk1 hq1 hpl;obtain⟨W0,hW0⟩:=gn ((w.alloc (.cells #[iv next,.slice a n c,.slice qa ll qc] 75)).alloc (.cells #[.bool xb,iv xg] 81));have B0:U (Bx W0 w.heap.size 75 #[iv next,.slice a n c,.slice qa ll qc]/\Bx W0 (w.heap.size+1) 81 #[.bool xb,iv xg]/\Bl w W0):=by
  rw[hW0];have b1:=Bx.new w #[iv next,.slice a n c,.slice qa ll qc] 75;have b2:=Bx.new (w.alloc (.cells #[iv next,.slice a n c,.slice qa ll qc] 75)) #[.bool xb,iv xg] 81;have s1:(w.alloc (.cells #[iv next,.slice a n c,.slice qa ll qc] 75)).heap.size=w.heap.size+1:=by simp
  have hb2:=Aa (w.alloc (.cells #[iv next,.slice a n c,.slice qa ll qc] 75)) (.cells #[.bool xb,iv xg] 81);rw[s1] at b2;exact⟨(hb2.block _ b1.lt).trans b1,b2,(Aa _ _).trans (hb2.mono (by simp))⟩
 unfold wv cv;rcases hc with ⟨rfl|rfl|⟨rfl,hf⟩,rfl,rfl,rfl,rfl⟩|⟨⟨rfl,hf⟩,rfl,rfl,rfl,rfl⟩;all_goals
  go_enter Tryz.func77,Tryz.ntmps77
  go_upto_region 1 with fail
  rw[<- hW0]
  clear hW0
  have z0:=(B0.o.2.2.cell (Ws _ _ HC.o)).trans HC.o
  have z1:=(B0.o.2.2.cell (Ws _ _ HKD.o.1)).trans HKD.o.1
  go_upto_region 5 with fail
  clear z0 z1
  refine Ac (S:=λW=>Bl W0 W) 10 (by kernel_rfl) (Wt _ _).drew (λW hHeld=>?_)
  refine tx 0 rfl ?_
  refine tx 1 rfl ?_
  refine tx 2 rfl ?_
  refine tx 3 rfl ?_
  refine tx 4 rfl ?_
  refine tx 5 rfl ?_
  refine tx 6 rfl ?_
  refine tx 7 rfl ?_
  refine tx 8 rfl ?_
  refine AB 9 rfl (λK hK=>?_)
  go_simp
  have h5:Bl W0 (W.alloc (.cells #[.slice (some (ad pb po)) l0 pc,.slice (some (ad pb (po+l0))) l1 (pc-l0)] 31)):=hHeld.trans ((Aa _ _).mono hHeld.size)
  have b5:=Bx.new W #[.slice (some (ad pb po)) l0 pc,.slice (some (ad pb (po+l0))) l1 (pc-l0)] 31
  refine hK.out _ _ (λ_=>h5) (λhG=>?_)
  clear hK K hG hHeld
  obtain⟨W5,hW5⟩:=gn (W.alloc (.cells #[.slice (some (ad pb po)) l0 pc,.slice (some (ad pb (po+l0))) l1 (pc-l0)] 31))
  rw[<- hW5] at h5 b5 ⊢
  clear hW5
  generalize W.heap.size=sb at b5 ⊢
  try simp only[As]
  refine AB 10 rfl (λK hK=>?_)
  go_simp
  refine hK.out _ _ (λ_=>h5) (λhG=>?_)
  clear hK K hG
  refine Ae (by kernel_rfl) ?_ _
  have S5:U (UP w W5 next a n c qa ll qc xb xg go (.slice a0 l0 k0) (.slice a1 l1 k1) sb (.slice (some (ad pb po)) l0 pc) (.slice (some (ad pb (po+l0))) l1 (pc-l0))):=by
   have hbw:=B0.o.2.2.trans (h5.mono B0.o.2.2.size)
   exact⟨(h5.block _ B0.o.1.lt).trans B0.o.1,(h5.block _ B0.o.2.1.lt).trans B0.o.2.1,(hbw.cell (Ws _ _ HKD.o.1)).trans HKD.o.1,(hbw.cell (Ws _ _ HKD.o.2)).trans HKD.o.2,b5.cell 0,b5.cell 1,hbw⟩
  clear h5 b5 B0 HKD HC hcu0 hcu1 hw1 i0 i1
  go_upto_region 6 with fail
  refine Ac (S:=λW=>Bl W5 W) 15 (by kernel_rfl) (Wt _ _).drew (λW hHeld=>?_)
  refine tx 0 rfl ?_
  refine tx 1 rfl ?_
  refine tx 2 rfl ?_
  refine ty 3 rfl (λw' h=>by have q:=(S5.o.keep h).k0;have q1:=(S5.o.keep h).k1;clear h;go_simp;rfl) ?_
  refine tx 4 rfl ?_
  refine tx 5 rfl ?_
  refine tx 6 rfl ?_
  refine ty 7 rfl (λw' h=>by have q:=(S5.o.keep h).s0;have q1:=(S5.o.keep h).s1;clear h;go_simp;rfl) ?_
  refine ty 8 rfl (λw' h=>by obtain⟨⟨y0,y1,y2⟩,-⟩:=(S5.o.keep h).cells;clear h;go_simp;rfl) ?_
  refine ty 9 rfl (λw' h=>by obtain⟨-,y3,y4⟩:=(S5.o.keep h).cells;clear h;go_simp;rfl) ?_
  refine AB 10 rfl (λK hK=>?_)
  refine Dy rfl 33 51 55 56 57 _ rfl _ _ _ _ rfl rfl rfl rfl (λ_ _=>rfl) ?_
  refine (HKF.o W (S5.o.keep hHeld).bel).mono ?_
  rintro e w6 ⟨o6,c6,rfl,hr6,hd6,he6,hbm⟩
  have h6:=hHeld.trans (hbm.mono hHeld.size)
  refine⟨_,rfl,hK.out _ _ (λ_=>h6) (λhG=>?_)⟩
  clear hK K hG hbm hHeld
  simp only[As]
  refine tx 11 rfl ?_
  refine tx 12 rfl ?_
  refine tx 13 rfl ?_
  refine AB 14 rfl (λK hK=>?_)
  go_simp
  refine hK.out _ _ (λ_=>h6) (λhG=>?_)
  clear hK K hG
  try simp only[As]
  refine AB 15 rfl (λK hK=>?_)
  go_simp
  refine hK.out _ _ (λ_=>h6) (λhG=>?_)
  clear hK K hG
  try simp only[As]
  refine Ae (by kernel_rfl) ?_ _
  have S6:=hid (ai (S5.o.keep h6) (ai hr6 (ai hd6 he6)))
  clear h6 hr6 hd6 he6 S5
  obtain⟨bz,hzb⟩:∃bz,(((rF.1.length:Nat):Int) == 0)=bz:=⟨_,rfl⟩
  cases bz
  all_goals try
   have hz:rF.1.length=0:=by simpa using hzb
   have h7:¬ kk=7:=by rw[HKK.o];decide
   have HE:U (RES=rF):=by
    show RES=rF
    rw[HO.o]
    unfold B3
    rw[if_pos ⟨by rw[List.isEmpty_iff,<- List.length_eq_zero_iff];exact hz,h7⟩]
   clear h7
   go_wp2
   refine bodyPost_ret (v:=.tuple #[.slice o6 rF.1.length c6,iv (rF.2:Int)]) (by simp[results,Tryz.results77,go_sem,hz]) rfl ?_
   rw[HE.o]
   exact⟨o6,c6,rfl,S6.o.2.1,S6.o.2.2.1,S6.o.2.2.2,S6.o.1.bel⟩
  all_goals
   have HN:U (¬ (rF.1.isEmpty=true/\¬ kk=7)):=by
    rintro⟨q,q2⟩
    first
     | exact q2 HKK.o
     | (rw[List.isEmpty_iff] at q;rw[q] at hzb;cases hzb)
   have hwo:IntKind.i64.wrap 1=1:=by rw[Wz];decide
   have hwz:IntKind.i64.wrap 0=0:=by rw[Wz];decide
   go_upto_region 9 with fail
   refine Ac (S:=λW=>Bl w6 W) 17 (by kernel_rfl) (Wt _ _).drew (λW hHeld=>?_)
   refine tx 0 rfl ?_
   refine tx 1 rfl ?_
   refine tx 2 rfl ?_
   refine tx 3 rfl ?_
   refine ty 4 rfl (λw' h=>by have q:=(S6.o.1.keep h).k0;have q1:=(S6.o.1.keep h).k1;clear h;go_simp;rfl) ?_
   refine tx 5 rfl ?_
   refine tx 6 rfl ?_
   refine tx 7 rfl ?_
   refine tx 8 rfl ?_
   refine ty 9 rfl (λw' h=>by have q:=(S6.o.1.keep h).s0;have q1:=(S6.o.1.keep h).s1;clear h;go_simp;rfl) ?_
   refine ty 10 rfl (λw' h=>by obtain⟨⟨y0,y1,y2⟩,-⟩:=(S6.o.1.keep h).cells;clear h;go_simp;rfl) ?_
   refine ty 11 rfl (λw' h=>by obtain⟨-,y3,y4⟩:=(S6.o.1.keep h).cells;clear h;go_simp;rfl) ?_
   refine AB 12 rfl (λK hK=>?_)
   refine Dy rfl 33 75 80 81 82 _ rfl _ _ _ _ rfl rfl rfl rfl (λ_ _=>rfl) ?_
   refine (HKG.o W (S6.o.1.keep hHeld).bel).mono ?_
   rintro e w7 ⟨o7,c7,rfl,hr7,hd7,he7,hbm⟩
   have h7:=hHeld.trans (hbm.mono hHeld.size)
   refine⟨_,rfl,hK.out _ _ (λ_=>h7) (λhG=>?_)⟩
   clear hK K hG hbm hHeld
   simp only[As]
   refine tx 13 rfl ?_
   refine tx 14 rfl ?_
   refine tx 15 rfl ?_
   refine AB 16 rfl (λK hK=>?_)
   go_simp
   refine hK.out _ _ (λ_=>h7) (λhG=>?_)
   clear hK K hG
   try simp only[As]
   refine AB 17 rfl (λK hK=>?_)
   go_simp
   refine hK.out _ _ (λ_=>h7) (λhG=>?_)
   clear hK K hG
   try simp only[As]
   refine Ae (by kernel_rfl) ?_ _
   have S7:=hid (ai (S6.o.2.1.below h7) (ai hr7 (ai hd7 (ai he7 ((S6.o.1.keep h7).bel)))))
   clear h7 hr7 hd7 he7 S6 hzb
   obtain⟨sm,hsm⟩:=gn (rF.2+rG.2)
   have hsw:IntKind.i64.wrap ((rF.2:Int)+(rG.2:Int))=(sm:Int):=by
    have:=HZ.o
    rw[Wz]
    omega
   have HE:U (RES=(D8 kk rF.1 rG.1,sm)):=by
    show RES=_
    rw[HO.o,hsm]
    unfold B3
    rw[if_neg HN.o]
   clear hsm HN
   obtain⟨A,hA⟩:=gn rF.1
   obtain⟨D,hD⟩:=gn rG.1
   have hAl:A.length<=400000:=by rw[hA];have:=HZ.o;omega
   have hDl:D.length<=400000:=by rw[hD];have:=HZ.o;omega
   rw[<- hA] at S7 HE ⊢
   rw[<- hD] at S7 HE ⊢
   clear hA hD HO
   obtain⟨W8,hW8⟩:=gn (w7.alloc (.cells #[] 2))
   have S8:U (W8.ownsRow w7.heap.size 2 1 (.slice (some (ad w7.heap.size 0)) 0 0) 0 []/\Bl w7 W8):=by
    rw[hW8]
    exact⟨BB w7 2 w7.heap.size 1 (Wu _),Aa _ _⟩
   obtain⟨iz,hiz,hiz0,hiz1,hiz2⟩:=info_parts N8
   have HI:=hid (ai hiz (ai hiz0 (ai hiz1 hiz2)))
   clear hiz hiz0 hiz1 hiz2
   go_upto_region 11 with fail
   rw[<- hW8]
   clear hW8
   go_wp2
   go_loopw [19,20] (λo i wr=>∃j:Nat,j<=A.length/\i=iv (j:Int)/\wr.ownsRow w7.heap.size 2 1 o (BU kk D (A.take j)).length (zl (BU kk D (A.take j)))/\Bl w7 wr) (λ_ i _=>A.length-(intOf i).toNat)
   case atStart=>exact⟨0,Ww _,rfl,S8.o.1,S8.o.2⟩
   case round=>
    obtain⟨j,hj,rfl,hown,hbel⟩:=hrel
    obtain⟨L,hLe⟩:=gn (BU kk D (A.take j))
    have hLl:L.length<=400000:=by
     rw[hLe]
     have:=Gl kk D (A.take j)
     rw[WI] at this
     omega
    rw[<- hLe] at hown
    have HL:=hid hLe
    obtain⟨va,vc,rfl⟩:=Dd hown
    have HA:=hid (ai hown hbel)
    have z8:=hbel.size
    clear hown hbel hLe
    by_cases hlt:j<A.length
    .obtain⟨b6,p6,rfl,s1⟩:=(S7.o.1.below HA.o.2).cell (i:=j) hlt
     have i0:(0:Int)<=(j:Int):=by omega
     have i1:(j:Int)<(A.length:Int):=by omega
     obtain⟨z,hz9⟩:=gn (gz A j)
     rw[<- hz9] at s1
     have HZ9:U (A.take (j+1)=A.take j++[z]):=by
      show _=_
      rw[WK hlt,hz9]
      unfold gz
      rw[List.getD,Wx hlt]
      rfl
     clear hz9
     have HIn:=hid (Dz o7 c7 D z wr (S7.o.2.1.below HA.o.2) (by omega))
     obtain⟨bc,hbc⟩:∃bc,bc=D.contains z:=⟨_,rfl⟩
     have HBC:U (bc=D.contains z):=hbc
     rw[<- hbc] at HIn
     clear hbc
     try
      go_wp2_with fail
      refine HIn.o.mono ?_
      rintro e w9 ⟨rfl,hw9⟩
      subst w9
      cases bc
     all_goals clear HIn
     all_goals first
      | focus
       have HK:U (BU kk D (A.take (j+1))=L++[z]):=by
        show _=_
        rw[HZ9.o,Ip,if_pos (by rw[HKK.o,<- HBC.o];first|rfl|simp),HL.o]
       have H1a:U ((wr.alloc (.cells #[iv z] 2)).ownsRow w7.heap.size 2 1 (.slice va L.length vc) L.length (zl L)):=Al HA.o.1 (Aa _ _)
       clear HBC
       go_wp2_with (at_builtin;refine wpList_append_own _ rfl _ _ 31 rfl w7.heap.size 2 iz (iv 0) 1 8 Tryz.underlying31 HI.o.1 HI.o.2.1 HI.o.2.2.1 HI.o.2.2.2 rfl (by decide) (.slice va L.length vc) L.length (zl L) rfl H1a.o (ad wr.heap.size 0) 1 1 [iv z] rfl rfl (Ef _ [iv z] _) (λu hu=>by simp at hu;subst hu;rfl) (by unfold maxLen;omega) (by omega) (by simp;omega) ?_)
       intro v2 w3 ho2 hg2 _
       have HX:U (w3.ownsRow w7.heap.size 2 1 v2 (BU kk D (A.take (j+1))).length (zl (BU kk D (A.take (j+1))))/\Bl w7 w3):=by
        have hl:L.length+1=(L++[z]).length:=by rw[WD];rfl
        rw[hl,show zl L++[iv z]=zl (L++[z]) from (MK L [z]).symm] at ho2
        rw[HK.o]
        exact⟨ho2,(HA.o.2.alloc z8 _).grown hg2 (by simp;omega) (λg e=>(Aw HA.o.1 g e).1)⟩
       clear ho2 hg2 HK H1a HA s1
       go_wp2
       go_roundw
       case rel=>exact⟨j+1,by omega,by go_num,HX.o.1,HX.o.2⟩
       case measure=>simp[intOf];omega
      | focus
       have HX:U (wr.ownsRow w7.heap.size 2 1 (.slice va L.length vc) (BU kk D (A.take (j+1))).length (zl (BU kk D (A.take (j+1))))/\Bl w7 wr):=by
        rw[HZ9.o,Ip,if_neg (by rw[HKK.o,<- HBC.o];decide),<- HL.o]
        exact HA.o
       clear HBC HA s1
       go_wp2
       go_roundw
       case rel=>exact⟨j+1,by omega,by go_num,HX.o.1,HX.o.2⟩
       case measure=>simp[intOf];omega
    .obtain rfl:j=A.length:=by omega
     have HL2:U (L=BU kk D A):=by
      show L=_
      rw[HL.o,WG]
     clear HL hj
     first
      | focus
       have HF:U (Gq w RES (.returned (.tuple #[.slice va L.length vc,iv (sm:Int)])) wr):=by
        rw[HE.o,Gp,if_neg (by rw[HKK.o];decide),<- HL2.o]
        obtain⟨a9,c9,e9,q1,q2,q3⟩:=Hu HA.o.1
        injection e9 with e1 e2 e3
        subst e1 e3
        exact⟨_,_,rfl,q1,q2,q3,S7.o.2.2.2.2.trans (HA.o.2.mono S7.o.2.2.2.2.size)⟩
       clear HA HE
       go_wp2
       go_loopw [19,21] (λo i w'=>o=.slice va L.length vc/\i=iv 0/\w'=wr) (λ_ _ _=>0)
       case atStart=>exact⟨rfl,rfl,rfl⟩
       case round=>
        obtain⟨rfl,rfl,rfl⟩:=hrel
        go_wp2
        refine bodyPost_ret (v:=.tuple #[.slice va L.length vc,iv (sm:Int)]) (by simp[results,Tryz.results77,go_sem]) rfl ?_
        exact HF.o
      | focus
       have HS:U (GQ wr va L/\L.length<=vc/\vc<=9223372036854775807):=by
        obtain⟨a9,c9,e9,q1,q2,q3⟩:=Hu HA.o.1
        injection e9 with e1 e2 e3
        subst e1 e3
        exact⟨q1,q2,q3⟩
       have HB:=hid HA.o.2
       clear HA
       go_wp2
       go_loopw [19,21] (λo i w'=>∃j:Nat,j<=D.length/\i=iv (j:Int)/\(∃oa oc,o=.slice oa (Bq L (D.take j)).length oc/\GQ w' oa (Bq L (D.take j))/\(Bq L (D.take j)).length<=oc/\oc<=9223372036854775807)/\Bl w7 w') (λ_ i _=>D.length-(intOf i).toNat)
       case atStart=>exact⟨0,Ww _,rfl,⟨va,vc,rfl,HS.o⟩,HB.o⟩
       case round=>
        obtain⟨j,hj,rfl,⟨oa,oc,rfl,hrd,hc1,hc2⟩,hbel⟩:=hrel
        obtain⟨M,hMe⟩:=gn (Bq L (D.take j))
        have hMl:M.length<=1000000:=by
         rw[hMe]
         have:=Du (D.take j) L
         rw[WI] at this
         omega
        rw[<- hMe] at hrd hc1 ⊢
        have HM:=hid hMe
        have HA:=hid (ai hrd (ai hc1 (ai hc2 hbel)))
        clear hrd hc1 hc2 hbel hMe
        by_cases hlt:j<D.length
        .obtain⟨b6,p6,rfl,s1⟩:=(S7.o.2.1.below HA.o.2.2.2).cell (i:=j) hlt
         have i0:(0:Int)<=(j:Int):=by omega
         have i1:(j:Int)<(D.length:Int):=by omega
         obtain⟨z,hz9⟩:=gn (gz D j)
         rw[<- hz9] at s1
         have HZ9:U (Bq L (D.take (j+1))=AH M z):=by
          show _=_
          rw[WK hlt,DV,HM.o,hz9]
          unfold gz
          rw[List.getD,Wx hlt]
          rfl
         clear hz9
         have HC:=hid (CP oa oc M z wr HA.o.1 (by omega) HA.o.2.1 HA.o.2.2.1)
         go_wp2_with fail
         refine HC.o.mono ?_
         rintro e w9 ⟨o9,c9,rfl,hr9,hd9,he9,hb9⟩
         have HX:=hid (ai hr9 (ai hd9 (ai he9 (HA.o.2.2.2.trans (hb9.mono HA.o.2.2.2.size)))))
         clear hr9 hd9 he9 hb9 HC HA s1
         generalize AH M z=M9 at HX HZ9 ⊢
         go_wp2
         go_roundw
         case rel=>
          refine⟨j+1,by omega,by go_num,⟨o9,c9,?_,?_,?_,HX.o.2.2.1⟩,HX.o.2.2.2⟩
          .rw[HZ9.o]
          .rw[HZ9.o];exact HX.o.1
          .rw[HZ9.o];exact HX.o.2.1
         case measure=>simp[intOf];omega
        .obtain rfl:j=D.length:=by omega
         have HF:U (Gq w RES (.returned (.tuple #[.slice oa M.length oc,iv (sm:Int)])) wr):=by
          rw[HE.o,Gp,if_pos HKK.o,<- HL2.o,show Bq L D=M by rw[HM.o,WG]]
          exact⟨_,_,rfl,HA.o.1,HA.o.2.1,HA.o.2.2.1,S7.o.2.2.2.2.trans (HA.o.2.2.2.mono S7.o.2.2.2.2.size)⟩
         clear HA HE
         go_wp2
         refine bodyPost_ret (v:=.tuple #[.slice oa M.length oc,iv (sm:Int)]) (by simp[results,Tryz.results77,go_sem]) rfl ?_
         exact HF.o
end Go.Proofs.YtacpbofiipdodaaGreat
