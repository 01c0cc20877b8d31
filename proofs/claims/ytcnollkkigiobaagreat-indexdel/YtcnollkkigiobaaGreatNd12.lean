import Derived.Test.YtcnollkkigiobaaGreatNd11
import Derived.Test.YtcnollkkigiobaaGreatNd9
import Derived.Test.YtcnollkkigiobaaGreatNd7
set_option linter.unusedVariables false
set_option maxRecDepth 100000
namespace Go.Proofs.YtcnollkkigiobaaGreat
open Go.RowKit Go.Deep

def koT (k:Nat) (N:Nat->Tn) (i:Nat):Nat:=k+2*i+sumT N i
def mkN (k:Nat) (N:Nat->Tn) (i:Nat):Tn:=
 { lf:=((koT k N i:Int) % 3 == 0),kn:=(N i).kn,ks:=fun j=>mkT (koT k N i+1+j),dn:=(N i).dn,kd:=fun j=>((koT k N i+1+(N i).kn+j:Nat):Int),ct:=((koT k N i+1+(N i).kn+(N i).dn:Nat):Int) }
def mkTo (k:Nat) (N:Nat->Tn) (j i:Nat):Tn:=if i<j then mkN k N i else N i

theorem koT_next (k:Nat) (N:Nat->Tn) (i:Nat):koT k N (i+1)=koT k N i+2+(N i).kn+(N i).dn:=by
 unfold koT
 have:sumT N (i+1)=sumT N i+(N i).kn+(N i).dn:=rfl
 omega
theorem mkTo_kn (k:Nat) (N:Nat->Tn) (j i:Nat):(mkTo k N j i).kn=(N i).kn:=by unfold mkTo;split <;> rfl
theorem mkTo_dn (k:Nat) (N:Nat->Tn) (j i:Nat):(mkTo k N j i).dn=(N i).dn:=by unfold mkTo;split <;> rfl

theorem mkTo_step (k:Nat) (N:Nat->Tn) (j p:Nat) (hp:p=koT k N j) (N1 N2 N3 N4:Nat->Tn)
  (h1:N1=fun i=>if i=j then { mkTo k N j j with lf:=((p:Int) % 3 == 0) } else mkTo k N j i)
  (h2:N2=fun i=>if i=j then { N1 j with ks:=fun i=>mkT (p+1+i) } else N1 i)
  (h3:N3=fun i=>if i=j then { N2 j with kd:=fun i=>((p+1+(N j).kn+i:Nat):Int) } else N2 i)
  (h4:N4=fun i=>if i=j then { N3 j with ct:=((p+1+(N j).kn+(N j).dn:Nat):Int) } else N3 i):N4=mkTo k N (j+1):=by
 funext i
 by_cases e:i=j
 ·subst e
  have q1:¬ i<i:=by omega
  have q2:i<i+1:=by omega
  have q3:mkTo k N i i=N i:=by unfold mkTo;rw [if_neg q1]
  rw [h4]
  simp only [if_true]
  rw [h3]
  simp only [if_true]
  rw [h2]
  simp only [if_true]
  rw [h1]
  simp only [if_true]
  rw [q3]
  unfold mkTo
  rw [if_pos q2]
  unfold mkN
  rw [hp]
 ·rw [h4]
  simp only [if_neg e]
  rw [h3]
  simp only [if_neg e]
  rw [h2]
  simp only [if_neg e]
  rw [h1]
  simp only [if_neg e]
  unfold mkTo
  by_cases e2:i<j
  ·rw [if_pos e2,if_pos (by omega)]
  ·rw [if_neg e2,if_neg (by omega)]

set_option maxHeartbeats 4000000 in
theorem markTNodeS_eq (B T g n c k:Nat) (N:Nat->Tn) (KA DA:Nat->Option Addr) (KC DC:Nat->Nat) (w:World) (h:OwnTn w B g n N KA DA KC DC) (hT:TnB T g n N KA DA B) (hk:1<=k) (hk2:k+2*n+sumT N n<=1073741824) :
  Calls Tryz.prog 75 #[.slice (some ⟨g,0,none⟩) n c,.int .i64 (k:Int)] w fun e w'=>e=.returned (.int .i64 ((koT k N n:Nat):Int))/\WiT B T w w'/\OwnTn w' B g n (mkN k N) KA DA KC DC:=by
 have HR:Hid (OwnTn w B g n N KA DA KC DC):=h
 have HT:Hid (TnB T g n N KA DA B):=hT
 clear h hT
 go_enter Tryz.func75,Tryz.ntmps75
 go_wp2
 go_loopw [1,5] (fun q i wr=>∃j p:Nat,j<=n/\i=.int .i64 j/\q=.int .i64 p/\p=koT k N j/\OwnTn wr B g n (mkTo k N j) KA DA KC DC/\WiT B T w wr) (fun _ i _=>n-(intOf i).toNat)
 case atStart=>exact ⟨0,k,Nat.zero_le _,rfl,rfl,rfl,by rw [show mkTo k N 0=N from funext fun i=>by unfold mkTo;rw [if_neg (Nat.not_lt_zero _)]];exact HR.out,WiT.refl _ _ _⟩
 case round=>
  obtain ⟨j,p,hj,rfl,rfl,hp,hm,hw⟩:=hrel
  by_cases hlt:j<n
  ·have hsum:sumT N (j+1)=sumT N j+(N j).kn+(N j).dn:=rfl
   have hsl:=sumT_le N n (j+1) (by omega)
   have hpe:p=k+2*j+sumT N j:=hp
   have hp1:1<=p:=by omega
   have hjb:j<1073741824:=by omega
   obtain ⟨kn,hkn⟩:∃x,x=(N j).kn:=⟨_,rfl⟩
   obtain ⟨dn,hdn⟩:∃x,x=(N j).dn:=⟨_,rfl⟩
   have hp2:p+2+kn+dn<=1073741824:=by omega
   have HP:Hid (p+2+kn+dn=koT k N (j+1)/\p=koT k N j):=by
    refine ⟨?_,hp⟩
    show p+2+kn+dn=koT k N (j+1)
    rw [koT_next,<- hp,<- hkn,<- hdn]
   have HM:Hid (OwnTn wr B g n (mkTo k N j) KA DA KC DC/\WiT B T w wr):=⟨hm,hw⟩
   have HK:Hid (kn=(N j).kn/\dn=(N j).dn):=⟨hkn,hdn⟩
   have hMT:MTn wr B g n N KA DA KC DC:=⟨_,hm,fun i=>⟨mkTo_kn _ _ _ _,mkTo_dn _ _ _ _⟩⟩
   obtain ⟨⟨b0,c0⟩,c1,c2,⟨x3,c3⟩,f0,f3,lg⟩:=hMT.cells hlt
   rw [<- hkn] at c1
   rw [<- hdn] at c2
   have i0:(0:Int)<=(j:Int):=by omega
   have i1:(j:Int)<(n:Int):=by omega
   obtain ⟨N1,hN1⟩:∃N1:Nat->Tn,N1=fun i=>if i=j then { mkTo k N j j with lf:=((p:Int) % 3 == 0) } else mkTo k N j i:=⟨_,rfl⟩
   obtain ⟨N2,hN2⟩:∃N2:Nat->Tn,N2=fun i=>if i=j then { N1 j with ks:=fun i=>mkT (p+1+i) } else N1 i:=⟨_,rfl⟩
   obtain ⟨N3,hN3⟩:∃N3:Nat->Tn,N3=fun i=>if i=j then { N2 j with kd:=fun i=>((p+1+(N j).kn+i:Nat):Int) } else N2 i:=⟨_,rfl⟩
   obtain ⟨N4,hN4⟩:∃N4:Nat->Tn,N4=fun i=>if i=j then { N3 j with ct:=((p+1+(N j).kn+(N j).dn:Nat):Int) } else N3 i:=⟨_,rfl⟩
   have k1:∀i,(N1 i).kn=(N i).kn/\(N1 i).dn=(N i).dn:=fun i=>by
    rw [hN1]
    by_cases e:i=j
    ·subst e;simp only [if_true];exact ⟨mkTo_kn _ _ _ _,mkTo_dn _ _ _ _⟩
    ·simp only [if_neg e];exact ⟨mkTo_kn _ _ _ _,mkTo_dn _ _ _ _⟩
   have k2:∀i,(N2 i).kn=(N i).kn/\(N2 i).dn=(N i).dn:=fun i=>by
    rw [hN2]
    by_cases e:i=j
    ·subst e;simp only [if_true];exact k1 i
    ·simp only [if_neg e];exact k1 i
   have HN:Hid (N1=(fun i=>if i=j then { mkTo k N j j with lf:=((p:Int) % 3 == 0) } else mkTo k N j i)/\N2=(fun i=>if i=j then { N1 j with ks:=fun i=>mkT (p+1+i) } else N1 i)/\N3=(fun i=>if i=j then { N2 j with kd:=fun i=>((p+1+(N j).kn+i:Nat):Int) } else N2 i)/\N4=(fun i=>if i=j then { N3 j with ct:=((p+1+(N j).kn+(N j).dn:Nat):Int) } else N3 i)/\(∀i,(N1 i).kn=(N i).kn/\(N1 i).dn=(N i).dn)/\(∀i,(N2 i).kn=(N i).kn/\(N2 i).dn=(N i).dn)/\N4=mkTo k N (j+1)):=⟨hN1,hN2,hN3,hN4,k1,k2,mkTo_step k N j p hp N1 N2 N3 N4 hN1 hN2 hN3 hN4⟩
   have HW1:Hid (OwnTn (wr.setCell ⟨g,j*4,none⟩ (.bool ((p:Int) % 3 == 0))) B g n N1 KA DA KC DC/\WiT B T w (wr.setCell ⟨g,j*4,none⟩ (.bool ((p:Int) % 3 == 0)))):=⟨by rw [hN1];exact HM.out.1.flag j _,HM.out.2.trans (WiT.grown (grown_set _ _ _ _) (fun b e=>by injection e with e;subst e;exact ⟨HT.out.1,HT.out.2.1⟩))⟩
   clear hsum hsl hp hm hw hkn hdn hk2 hpe hMT hN1 hN2 hN3 hN4 k1 k2 HM
   go_wp2_with fail
   refine (markStrsI _ (KA j) kn (KC j) (p+1) (by go_num) (N1 j).ks _ (by have q:=HW1.out.1.keys j hlt;rw [(HN.out.2.2.2.2.1 j).1,<- HK.out.1] at q;rcases q with q|⟨b,q1,_,q2⟩;exact .inl q;exact .inr ⟨b,q1,q2⟩) (by omega) (by omega)).mono ?_
   rintro e w1 ⟨rfl,hg1,hz1,ho1⟩
   have hK0:=HK.out
   have HW2:Hid (OwnTn w1 B g n N2 KA DA KC DC/\WiT B T w w1):=by
    have q1:=HW1.out.1.setKeys hlt _ hg1 (fun e=>hz1 (by rw [hK0.1,<- (HN.out.2.2.2.2.1 j).1];exact e)) (by rw [(HN.out.2.2.2.2.1 j).1,<- hK0.1];exact ho1)
    refine ⟨by rw [HN.out.2.1];exact q1,HW1.out.2.trans ?_⟩
    by_cases h0:kn=0
    ·rw [hz1 h0];exact WiT.refl _ _ _
    ·exact WiT.grown hg1 (HT.out.2.2.1 j hlt (by rw [<- hK0.1];exact h0))
   have hMT:MTn w1 B g n N KA DA KC DC:=⟨_,HW2.out.1,HN.out.2.2.2.2.2.1⟩
   clear hg1 hz1 ho1 HW1 c0 c1 c2 c3 f0 f3 lg hK0
   obtain ⟨⟨b0',c0⟩,c1,c2,⟨x3',c3⟩,f0,f3,lg⟩:=hMT.cells hlt
   rw [<- HK.out.1] at c1
   rw [<- HK.out.2] at c2
   clear hMT
   go_wp2_with fail
   refine (markIntsE _ (DA j) dn (DC j) (p+1+kn) (by go_num) (N2 j).kd _ (by have q:=HW2.out.1.kids j hlt;rw [(HN.out.2.2.2.2.2.1 j).2,<- HK.out.2] at q;rcases q with q|⟨b,q1,_,q2⟩;exact .inl q;exact .inr ⟨b,q1,q2⟩) (by omega) (by omega)).mono ?_
   rintro e w2 ⟨rfl,hg2,hz2,ho2⟩
   have hK0:=HK.out
   have HW3:Hid (OwnTn w2 B g n N3 KA DA KC DC/\WiT B T w w2):=by
    have q1:=HW2.out.1.setKids hlt _ hg2 (fun e=>hz2 (by rw [hK0.2,<- (HN.out.2.2.2.2.2.1 j).2];exact e)) (by rw [(HN.out.2.2.2.2.2.1 j).2,<- hK0.2];exact ho2)
    refine ⟨by rw [HN.out.2.2.1,<- hK0.1];exact q1,HW2.out.2.trans ?_⟩
    by_cases h0:dn=0
    ·rw [hz2 h0];exact WiT.refl _ _ _
    ·exact WiT.grown hg2 (HT.out.2.2.2 j hlt (by rw [<- hK0.2];exact h0))
   have hMT:MTn w2 B g n N KA DA KC DC:=⟨_,HW3.out.1,fun i=>by
    rw [HN.out.2.2.1]
    by_cases e:i=j
    ·subst e;simp only [if_true];exact HN.out.2.2.2.2.2.1 i
    ·simp only [if_neg e];exact HN.out.2.2.2.2.2.1 i⟩
   clear hg2 hz2 ho2 HW2 c0 c1 c2 c3 f0 f3 lg hK0
   obtain ⟨⟨b0'',c0⟩,c1,c2,⟨x3'',c3⟩,f0,f3,lg⟩:=hMT.cells hlt
   have HW4:Hid (∀v:Int,v=((p+1+kn+dn:Nat):Int)->OwnTn (w2.setCell ⟨g,j*4+3,none⟩ (.int .i64 v)) B g n (mkTo k N (j+1)) KA DA KC DC/\WiT B T w (w2.setCell ⟨g,j*4+3,none⟩ (.int .i64 v))):=fun v hv=>by
    refine ⟨?_,HW3.out.2.trans (WiT.grown (grown_set _ _ _ _) (fun b e=>by injection e with e;subst e;exact ⟨HT.out.1,HT.out.2.1⟩))⟩
    rw [<- HN.out.2.2.2.2.2.2,HN.out.2.2.2.1,<- HK.out.1,<- HK.out.2,hv]
    exact HW3.out.1.count j _
   clear HW3 c0 c1 c2 hMT
   go_wp2
   go_roundw
   case rel=>exact ⟨j+1,p+2+kn+dn,by omega,by go_num,by go_num,HP.out.1,HW4.out _ (by go_num)⟩
   case measure=>simp [intOf];omega
  ·have e:j=n:=by omega
   subst e
   have HM:Hid (p=koT k N j/\WiT B T w wr/\OwnTn wr B g j (mkN k N) KA DA KC DC):=by
    refine ⟨hp,hw,OwnTn.of hm _ (hm.row.congr (fun c hc=>?_)) (fun i=>?_) (fun i hi=>?_) (fun i hi=>?_)⟩
    ·have:c / 4<j:=by omega
     unfold tnCell mkTo
     simp [this]
    ·exact ⟨(mkTo_kn k N j i).symm,(mkTo_dn k N j i).symm⟩
    ·have q:=hm.keys i hi
     unfold mkTo at q
     rw [if_pos hi] at q
     exact q
    ·have q:=hm.kids i hi
     unfold mkTo at q
     rw [if_pos hi] at q
     exact q
   clear hm hw hp
   go_wp2
   go_ret
   exact ⟨by rw [HM.out.1];rfl,HM.out.2⟩

set_option maxHeartbeats 2000000 in
theorem heldTNodeS_any (a:Option Addr) (n c k:Nat) (N:Nat->Tn) (w:World) (h:RdTn w a n (mkN k N)) (hk:1<=k) (hk2:k+2*n+sumT N n<=1073741824) :
  Calls Tryz.prog 121 #[.slice a n c,.int .i64 (k:Int)] w fun e w'=>e=.returned (.int .i64 ((koT k N n:Nat):Int))/\Below w.heap.size w w':=by
 have HR:Hid (RdTn w a n (mkN k N)):=h
 clear h
 go_enter Tryz.func121,Tryz.ntmps121
 go_wp2
 go_loopw [1,5] (fun q i wr=>∃j p:Nat,j<=n/\i=.int .i64 j/\q=.int .i64 p/\p=koT k N j/\Below w.heap.size w wr) (fun _ i _=>n-(intOf i).toNat)
 case atStart=>exact ⟨0,k,Nat.zero_le _,rfl,rfl,rfl,Below.refl _ _⟩
 case round=>
  obtain ⟨j,p,hj,rfl,rfl,hp,hbel⟩:=hrel
  by_cases hlt:j<n
  ·have hsum:sumT N (j+1)=sumT N j+(N j).kn+(N j).dn:=rfl
   have hsl:=sumT_le N n (j+1) (by omega)
   have hpe:p=k+2*j+sumT N j:=hp
   have hp1:1<=p:=by omega
   have hjb:j<1073741824:=by omega
   rcases HR.out with q|⟨b,o,rfl,hc⟩
   ·omega
   have HC:Hid (∀W:World,Below w.heap.size w W->∃ka kc da dc,W.cell? ⟨b,o+j*4,none⟩=some (.bool ((p:Int) % 3 == 0))/\W.cell? ⟨b,o+j*4+1,none⟩=some (.slice ka (N j).kn kc)/\
  W.cell? ⟨b,o+j*4+2,none⟩=some (.slice da (N j).dn dc)/\W.cell? ⟨b,o+j*4+3,none⟩=some (.int .i64 ((p+1+(N j).kn+(N j).dn:Nat):Int))/\RdS W ka (N j).kn (fun i=>mkT (p+1+i))/\Rd .i64 W da (N j).dn (fun i=>((p+1+(N j).kn+i:Nat):Int))):=by
    obtain ⟨ka,kc,da,dc,h0,h1,h2,h3,h4,h5⟩:=hc j hlt
    intro W hb
    refine ⟨ka,kc,da,dc,?_,?_,?_,?_,?_,?_⟩
    ·rw [hb.cell (World.block_lt_of_cell? _ _ h0),hp];exact h0
    ·rw [hb.cell (World.block_lt_of_cell? _ _ h1)];exact h1
    ·rw [hb.cell (World.block_lt_of_cell? _ _ h2)];exact h2
    ·rw [hb.cell (World.block_lt_of_cell? _ _ h3),hp];exact h3
    ·rw [hp];exact h4.below hb
    ·rw [hp];exact h5.below hb
   have HB:Hid (Below w.heap.size w wr):=hbel
   obtain ⟨kn,hkn⟩:∃x,x=(N j).kn:=⟨_,rfl⟩
   obtain ⟨dn,hdn⟩:∃x,x=(N j).dn:=⟨_,rfl⟩
   have hp2:p+2+kn+dn<=1073741824:=by omega
   have HP:Hid (p+2+kn+dn=koT k N (j+1)):=by
    show p+2+kn+dn=koT k N (j+1)
    rw [koT_next,<- hp,<- hkn,<- hdn]
   rw [<- hkn,<- hdn] at HC
   obtain ⟨ka,kc,da,dc,c0,c1,c2,c3,r4,r5⟩:=HC.out wr hbel
   have H4:Hid (RdS wr ka kn (fun i=>mkT (p+1+i))):=r4
   have i0:(0:Int)<=(j:Int):=by omega
   have i1:(j:Int)<(n:Int):=by omega
   obtain ⟨fl,hfl⟩:∃fl:Bool,fl=((p:Int) % 3 == 0):=⟨_,rfl⟩
   have hfl' : ((p:Int) % 3 == 0)=fl:=hfl.symm
   rw [hfl'] at c0
   have hff:(fl != fl)=false:=by cases fl <;> rfl
   have HD:Hid (∀W:World,Below wr.heap.size wr W->W.cell? ⟨b,o+j*4+2,none⟩=some (.slice da dn dc)/\W.cell? ⟨b,o+j*4+3,none⟩=some (.int .i64 ((p+1+kn+dn:Nat):Int))/\Rd .i64 W da dn (fun i=>((p+1+kn+i:Nat):Int))/\b<W.heap.size):=fun W hb=>
    have lb:=World.block_lt_of_cell? _ _ c2
    ⟨by rw [hb.cell lb];exact c2,by rw [hb.cell (World.block_lt_of_cell? _ _ c3)];exact c3,r5.below hb,Nat.lt_of_lt_of_le lb hb.size⟩
   clear hsum hsl hp hpe hbel hc r4 r5 hk2 hkn hdn HC hfl c2 c3
   go_wp2_with fail
   refine (heldStrsI _ ka kn kc (p+1) (by go_num) wr H4.out (by omega) (by omega)).mono ?_
   rintro e w1 ⟨rfl,hb1⟩
   obtain ⟨d2,d3,d5,dl⟩:=HD.out w1 hb1
   have H5:Hid (Rd .i64 w1 da dn (fun i=>((p+1+kn+i:Nat):Int))/\Below wr.heap.size wr w1):=⟨d5,hb1⟩
   clear hb1 d5 H4 c0 c1 d3
   have hn1:¬ ((p:Int)+1+kn)<0:=by omega
   have hn1' : ¬ (((p+1+kn:Nat):Int))<0:=by omega
   go_wp2_with fail
   refine (heldInts_any _ da dn dc (p+1+kn) (by go_num) w1 H5.out.1 (by omega)).mono ?_
   rintro e w2 ⟨rfl,hb2⟩
   have HB2:Hid (Below w.heap.size w w2):=(HB.out.trans (H5.out.2.mono HB.out.size)).trans (hb2.mono (HB.out.trans (H5.out.2.mono HB.out.size)).size)
   obtain ⟨e2,e3,_,el⟩:=HD.out w2 (H5.out.2.trans (hb2.mono H5.out.2.size))
   clear hb2 d2 e2
   obtain ⟨M,hM⟩:∃M:Nat,M=p+1+kn+dn:=⟨_,rfl⟩
   rw [<- hM] at e3 ⊢
   have hM0:¬ (M:Int)<0:=by omega
   have hM1:((M:Int) != (M:Int))=false:=by simp
   have HMM:Hid (M+1=koT k N (j+1)):=by
    show M+1=koT k N (j+1)
    rw [<- HP.out]
    omega
   have hMb:M<=1073741824:=by omega
   clear hM
   go_wp2
   go_roundw
   case rel=>exact ⟨j+1,M+1,by omega,by go_num,by go_num,HMM.out,HB2.out⟩
   case measure=>simp [intOf];omega
  ·have e:j=n:=by omega
   subst e
   have HM:Hid (p=koT k N j/\Below w.heap.size w wr):=⟨hp,hbel⟩
   clear hp hbel
   go_wp2
   go_ret
   exact ⟨by rw [HM.out.1];rfl,HM.out.2⟩


set_option maxHeartbeats 1000000 in
theorem toQuad_any (a b c d:Int) (w:World) :
  Calls Tryz.prog 10 #[.agg #[.int .i64 a,.int .i64 b,.int .i64 c,.int .i64 d]] w fun e w'=>e=.returned (.agg #[.int .i64 a,.int .i64 b,.int .i64 c,.int .i64 d])/\Below w.heap.size w w':=by
 go_enter Tryz.func10,Tryz.ntmps10
 go_wp2
 refine bodyPost_ret (v:=.agg #[.int .i64 a,.int .i64 b,.int .i64 c,.int .i64 d]) (by simp [results,Tryz.results10,go_sem]) rfl ⟨rfl,?_⟩
 repeat (first|exact Below.refl _ _|refine bA ?_|refine bS (by simp <;> omega) ?_)


theorem OwnTn.low {w:World} {B B' g n:Nat} {N:Nat->Tn} {KA DA:Nat->Option Addr} {KC DC:Nat->Nat} (q:OwnTn w B g n N KA DA KC DC) (h:B'<=B):OwnTn w B' g n N KA DA KC DC:=by
 have hle:=q.le
 exact ⟨by omega,q.row,fun j hj=>(q.keys j hj).mono h,fun j hj=>(q.kids j hj).mono h,q.apartK,q.apartD⟩
theorem OwnTn.wit {w w' : World} {B T g n:Nat} {N:Nat->Tn} {KA DA:Nat->Option Addr} {KC DC:Nat->Nat} (q:OwnTn w B g n N KA DA KC DC) (hT:TnB T g n N KA DA B) (hk:∀b,B<=b->b<T->b<w.heap.size->w'.heap[b]?=w.heap[b]?):OwnTn w' B g n N KA DA KC DC:=by
 refine ⟨q.le,q.row.of_block (hk g hT.1 hT.2.1 q.row.lt),fun i hi=>?_,fun i hi=>?_,q.apartK,q.apartD⟩
 ·by_cases h0:(N i).kn=0
  ·exact .inl h0
  ·obtain ⟨gi,hA,hgi,hri⟩:=(q.keys i hi).resolve_left h0
   have:=hT.2.2.1 i hi h0 gi (by rw [hA];rfl)
   exact .inr ⟨gi,hA,hgi,hri.of_block (hk gi this.1 this.2 hri.lt)⟩
 ·by_cases h0:(N i).dn=0
  ·exact .inl h0
  ·obtain ⟨gi,hA,hgi,hri⟩:=(q.kids i hi).resolve_left h0
   have:=hT.2.2.2 i hi h0 gi (by rw [hA];rfl)
   exact .inr ⟨gi,hA,hgi,hri.of_block (hk gi this.1 this.2 hri.lt)⟩
def OwnIr (w:World) (B g n j k:Nat) (M:Nat->Nat) (T:Nat->Nat->Tn) (R:Nat->Nat):Prop:=
 g<B/\B<=R 0/\R k<=w.heap.size/\(∀i i',i<=i'->i'<=k->R i<=R i')/\∃cur:Array Value,Bx w g 59 cur/\cur.size=n/\∀i,j<=i->i<k->∃gi KA DA KC DC,cur[i]?=some (.slice (some ⟨gi,0,none⟩) (M i) (M i))/\OwnTn w (R i) gi (M i) (T i) KA DA KC DC/\TnB (R (i+1)) gi (M i) (T i) KA DA (R i)
theorem OwnIr.rd {w:World} {B g n:Nat} {M:Nat->Nat} {T:Nat->Nat->Tn} {R:Nat->Nat} (h:OwnIr w B g n 0 n M T R):RdIx w (some ⟨g,0,none⟩) n M T:=by
 obtain ⟨_,_,_,_,cur,h1,h2,h3⟩:=h
 refine .inr ⟨g,0,rfl,fun i hi=>?_⟩
 obtain ⟨gi,KA,DA,KC,DC,q1,q2,_⟩:=h3 i (Nat.zero_le _) hi
 exact ⟨some ⟨gi,0,none⟩,M i,by rw [Nat.zero_add,h1.cell i];exact q1,q2.rd⟩
theorem OwnIr.put {w w1:World} {B g n k:Nat} {M:Nat->Nat} {T:Nat->Nat->Tn} {R:Nat->Nat} (h:OwnIr w B g n 0 k M T R) (hk:k<n) (hb:Below w.heap.size w w1) {gk:Nat} {KA DA:Nat->Option Addr} {KC DC:Nat->Nat} (ho:OwnTn w1 w.heap.size gk (M k) (T k) KA DA KC DC):∃R',OwnIr (w1.setCell ⟨g,k,none⟩ (.slice (some ⟨gk,0,none⟩) (M k) (M k))) B g n 0 (k+1) M T R':=by
 obtain ⟨hg,hB,hR,hm,cur,h1,h2,h3⟩:=h
 have h1' : Bx w1 g 59 cur:=h1.below hb
 have hs:=h1'.set k (.slice (some ⟨gk,0,none⟩) (M k) (M k))
 have hz:=hb.size
 have hR0:=hm 0 k (Nat.zero_le _) (Nat.le_refl _)
 have hbd:∀i',i'<=k->R i'<=w1.heap.size:=fun i' hi=>by
  have:=hm i' k hi (Nat.le_refl _)
  omega
 obtain ⟨R',hR'⟩:∃R' : Nat->Nat,∀i,R' i=if i<=k then R i else w1.heap.size:=⟨_,fun _=>rfl⟩
 refine ⟨R',hg,by rw [hR',if_pos (Nat.zero_le _)];exact hB,by rw [hR',if_neg (by omega),World.size_setCell];exact Nat.le_refl _,fun i i' hi hi'=>?_,_,hs,by simpa using h2,fun i _ hi=>?_⟩
 ·rw [hR',hR']
  by_cases e:i'<=k
  ·rw [if_pos (by omega),if_pos e]
   exact hm i i' hi e
  ·rw [if_neg e]
   by_cases e2:i<=k
   ·rw [if_pos e2];exact hbd i e2
   ·rw [if_neg e2];exact Nat.le_refl _
 ·by_cases e:i=k
  ·subst e
   have q:=(ho.setO (p:=⟨g,i,none⟩) (by show g<w.heap.size;omega) (.slice (some ⟨gk,0,none⟩) (M i) (M i))).low hR
   have qb:=q.bound
   rw [World.size_setCell] at qb
   refine ⟨gk,KA,DA,KC,DC,by simp [h2,hk],?_,?_⟩
   ·rw [hR',if_pos (Nat.le_refl _)];exact q
   ·rw [hR',hR',if_neg (by omega),if_pos (Nat.le_refl _)];exact qb
  ·obtain ⟨gi,KA',DA',KC',DC',q1,q2,q3⟩:=h3 i (Nat.zero_le _) (by omega)
   have h0i:=hm 0 i (Nat.zero_le _) (by omega)
   refine ⟨gi,KA',DA',KC',DC',?_,?_,?_⟩
   ·rw [Array.getElem?_setIfInBounds_ne (by omega)]
    exact q1
   ·rw [hR',if_pos (by omega)]
    exact (q2.und hb).setO (p:=⟨g,k,none⟩) (by show g<R i;omega) _
   ·rw [hR',hR',if_pos (by omega),if_pos (by omega)]
    exact q3
theorem OwnIr.setO {w:World} {B g n:Nat} {M:Nat->Nat} {T:Nat->Nat->Tn} {R:Nat->Nat} (h:OwnIr w B g n 0 n M T R) {p:Addr} (hp:p.block<g) (v:Value):OwnIr (w.setCell p v) B g n 0 n M T R:=by
 obtain ⟨hg,hB,hR,hm,cur,h1,h2,h3⟩:=h
 refine ⟨hg,hB,by rw [World.size_setCell];exact hR,hm,cur,(Below.heap_setCell _ _ _ _ (show g≠p.block by omega)).trans h1,h2,fun i h0 hi=>?_⟩
 obtain ⟨gi,KA',DA',KC',DC',q1,q2,q3⟩:=h3 i h0 hi
 have h0i:=hm 0 i (Nat.zero_le _) (by omega)
 exact ⟨gi,KA',DA',KC',DC',q1,q2.setO (by omega) _,q3⟩
theorem OwnIr.below {w w' : World} {B g n:Nat} {M:Nat->Nat} {T:Nat->Nat->Tn} {R:Nat->Nat} (h:OwnIr w B g n 0 n M T R) (hb:Below w.heap.size w w'):OwnIr w' B g n 0 n M T R:=by
 obtain ⟨hg,hB,hR,hm,cur,h1,h2,h3⟩:=h
 refine ⟨hg,hB,Nat.le_trans hR hb.size,hm,cur,h1.below hb,h2,fun i h0 hi=>?_⟩
 obtain ⟨gi,KA',DA',KC',DC',q1,q2,q3⟩:=h3 i h0 hi
 exact ⟨gi,KA',DA',KC',DC',q1,q2.und hb,q3⟩
theorem OwnIr.next {w w' : World} {B g n j:Nat} {M:Nat->Nat} {T:Nat->Nat->Tn} {R:Nat->Nat} (h:OwnIr w B g n j n M T R) (hj:j<n) (hw:WiT (R j) (R (j+1)) w w'):OwnIr w' B g n (j+1) n M T R:=by
 obtain ⟨hg,hB,hR,hm,cur,h1,h2,h3⟩:=h
 have h0j:=hm 0 j (Nat.zero_le _) (by omega)
 refine ⟨hg,hB,Nat.le_trans hR hw.2.2.2.1,hm,cur,(hw.2.2.2.2 g h1.lt (.inl (by omega))).trans h1,h2,fun i h0 hi=>?_⟩
 obtain ⟨gi,KA',DA',KC',DC',q1,q2,q3⟩:=h3 i (by omega) hi
 have hji:=hm (j+1) i h0 (by omega)
 exact ⟨gi,KA',DA',KC',DC',q1,q2.wit q3 (fun b b1 b2 b3=>hw.2.2.2.2 b b3 (.inr (by omega))),q3⟩

theorem sumI_le (M:Nat->Nat) (T:Nat->Nat->Tn):∀(m j:Nat),j<=m->sumI M T j<=sumI M T m
 | 0,j,h=>by
  have:j=0:=by omega
  subst this
  exact Nat.le_refl _
 | m+1,j,h=>by
  by_cases e:j=m+1
  ·subst e;exact Nat.le_refl _
  ·have:=sumI_le M T m j (by omega)
   have e2:sumI M T (m+1)=sumI M T m+M m+sumT (T m) (M m):=rfl
   omega
theorem WiT.wide {B T B' T' : Nat} {w w' : World} (h:WiT B T w w') (h1:B'<=B) (h2:T<=T'):WiT B' T' w w':=⟨h.1,h.2.1,h.2.2.1,h.2.2.2.1,fun k hk ho=>h.2.2.2.2 k hk (by omega)⟩

set_option maxHeartbeats 2000000 in
theorem markTreeS_any (B g n c:Nat) (M:Nat->Nat) (T:Nat->Nat->Tn) (R:Nat->Nat) (w:World) (h:OwnIr w B g n 0 n M T R) (hs:n+sumI M T n<=1048576) :
  Calls Tryz.prog 40 #[.slice (some ⟨g,0,none⟩) n c,.int .i64 1] w fun e w'=>∃p:Nat,e=.returned (.int .i64 (p:Int))/\WiT (R 0) (R n) w w':=by
 have HR:Hid (OwnIr w B g n 0 n M T R):=h
 clear h
 go_enter Tryz.func40,Tryz.ntmps40
 go_wp2
 go_loopw [1,5] (fun q i wr=>∃j p:Nat,j<=n/\i=.int .i64 j/\q=.int .i64 p/\1<=p/\p<=1+2*sumI M T j/\OwnIr wr B g n j n M T R/\WiT (R 0) (R n) w wr) (fun _ i _=>n-(intOf i).toNat)
 case atStart=>exact ⟨0,1,Nat.zero_le _,rfl,rfl,Nat.le_refl _,by omega,HR.out,WiT.refl _ _ _⟩
 case round=>
  obtain ⟨j,p,hj,rfl,rfl,hp0,hp1,ho,hw⟩:=hrel
  clear HR
  have HW:Hid (WiT (R 0) (R n) w wr):=hw
  clear hw
  by_cases hlt:j<n
  ·have hsum:sumI M T (j+1)=sumI M T j+M j+sumT (T j) (M j):=rfl
   have hsl:=sumI_le M T n (j+1) (by omega)
   have HO:Hid (OwnIr wr B g n j n M T R):=ho
   obtain ⟨hg,hB,hRn,hm,cur,h1,h2,h3⟩:=ho
   obtain ⟨gi,KA,DA,KC,DC,q1,q2,q3⟩:=h3 j (Nat.le_refl _) hlt
   have HM:Hid (MTn wr (R j) gi (M j) (T j) KA DA KC DC/\TnB (R (j+1)) gi (M j) (T j) KA DA (R j)):=⟨⟨T j,q2,fun _=>⟨rfl,rfl⟩⟩,q3⟩
   have HWd:Hid (R 0<=R j/\R (j+1)<=R n):=⟨hm 0 j (Nat.zero_le _) (by omega),hm (j+1) n hlt (Nat.le_refl _)⟩
   have c1:=h1.cell j
   rw [q1] at c1
   have i0:(0:Int)<=(j:Int):=by omega
   have i1:(j:Int)<(n:Int):=by omega
   have hjb:j<1073741824:=by omega
   obtain ⟨Mj,hMj⟩:∃x,x=M j:=⟨_,rfl⟩
   obtain ⟨Sj,hSj⟩:∃x,x=sumT (T j) (M j):=⟨_,rfl⟩
   have HC:Hid (Calls Tryz.prog 75 #[.slice (some ⟨gi,0,none⟩) Mj Mj,.int .i64 (p:Int)] wr fun e w'=>∃p' : Nat,e=.returned (.int .i64 (p' : Int))/\WiT (R j) (R (j+1)) wr w'/\p'=p+2*Mj+Sj):=by
    rw [hMj,hSj]
    exact markTNodeS_any (R j) (R (j+1)) gi (M j) (M j) p (T j) KA DA KC DC wr HM.out.1 HM.out.2 hp0 (by omega)
   rw [<- hMj] at c1
   have HP:Hid (p+2*Mj+Sj<=1+2*sumI M T (j+1)):=by
    show _<=_
    omega
   clear hg hB hRn hm h1 h2 h3 q1 q2 q3 HM hsum hsl hMj hSj
   go_wp2_with fail
   (with_reducible refine HC.out.mono ?_)
   rintro e w1 ⟨p',rfl,hw1,hp'⟩
   have HX:Hid (OwnIr w1 B g n (j+1) n M T R/\WiT (R 0) (R n) w w1):=⟨HO.out.next hlt hw1,HW.out.trans (hw1.wide HWd.out.1 HWd.out.2)⟩
   have HP' : Hid (1<=p'/\p'<=1+2*sumI M T (j+1)):=⟨by omega,by rw [hp'];exact HP.out⟩
   clear hw1 HC HO HW c1 hp' HP
   go_wp2
   go_roundw
   case rel=>exact ⟨j+1,p',by omega,by go_num,rfl,HP'.out.1,HP'.out.2,HX.out⟩
   case measure=>simp [intOf];omega
  ·have e:j=n:=by omega
   subst e
   clear ho
   go_wp2
   go_ret
   exact ⟨p,rfl,HW.out⟩

set_option maxHeartbeats 1000000 in
theorem markIndex_any (B g n c:Nat) (M:Nat->Nat) (T:Nat->Nat->Tn) (R:Nat->Nat) (w:World) (h:OwnIr w B g n 0 n M T R) (hs:n+sumI M T n<=1048576) :
  Calls Tryz.prog 14 #[.agg #[.slice (some ⟨g,0,none⟩) n c],.int .i64 1] w fun e w'=>∃p:Nat,e=.returned (.int .i64 (p:Int))/\WiT (R 0) (R n) w w':=by
 have HR:Hid (∀O:Obj,OwnIr (w.alloc O) B g n 0 n M T R/\WiT (R 0) (R n) w (w.alloc O)):=fun O=>⟨h.below (below_alloc _ _),WiT.grown (grown_below (r:=none) (below_alloc _ _)) (fun b e=>by cases e)⟩
 clear h
 go_enter Tryz.func14,Tryz.ntmps14
 go_wp2_with fail
 (with_reducible refine (markTreeS_any B g n c M T R _ (HR.out _).1 hs).mono ?_)
 rintro e w1 ⟨p,rfl,hw⟩
 have HW:Hid (WiT (R 0) (R n) w w1):=(HR.out _).2.trans hw
 clear hw
 go_wp2
 go_ret
 exact ⟨p,rfl,HW.out⟩
end Go.Proofs.YtcnollkkigiobaaGreat
