import Derived.Test.YtacpbofiipdodaaGreatNv3
set_option linter.unusedVariables false
set_option linter.unusedSimpArgs false
set_option maxRecDepth 100000
set_option maxHeartbeats 90000000
namespace Go.Proofs.YtacpbofiipdodaaGreat
open Go Go.Deep Go.RowKit
def A3:(d:Nat)->Bool->Ro d->Int
 | 0,_,t=>t.elim
 | d+1,root,.inl t=>if 4<t.length then -1 else if t.length<2/\root=false then -1 else 0
 | d
  + 1,root,.inr l=>if 4<l.length then -1 else if l.length<2 then -1 else
  (match l with
  | []=>-1
  | t0::_=>if (∀t,t∈l->A3 d false t=A3 d false t0) then (if A3 d false t0<0 then -1 else A3 d false t0+1) else -1)
theorem FE (d:Nat) (root:Bool) (t:List ByteArray):A3 (d+1) root (.inl t)=if 4<t.length then -1 else if t.length<2/\root=false then -1 else 0:=rfl
theorem Gd (d:Nat) (root:Bool) (l:List (Ro d)):A3 (d+1) root (.inr l)=if 4<l.length then -1 else if l.length<2 then -1 else
   (match l with
   | []=>-1
   | t0::_=>if (∀t,t∈l->A3 d false t=A3 d false t0) then (if A3 d false t0<0 then -1 else A3 d false t0+1) else -1):=rfl
theorem IU:∀{d:Nat} {root:Bool} {t:Ro d},0<=A3 d root t->∃h:Nat,A3 d root t=(h:Int)/\Br d root t h
 | 0,root,t,_=>t.elim
 | d+1,root,.inl t,h=>by
  rw[FE] at h ⊢
  split at h
  .omega
  .rename_i h4
   split at h
   .omega
   .rename_i h2
    refine⟨0,by rw[if_neg h4,if_neg h2];rfl,rfl,by omega,?_⟩
    cases root
    .right
     simp at h2
     omega
    .exact Or.inl rfl
 | d+1,root,.inr l,h=>by
  rw[Gd] at h ⊢
  split at h
  .omega
  .rename_i h4
   split at h
   .omega
   .rename_i h2
    rw[if_neg h4,if_neg h2]
    cases l with
    | nil=>simp at h2
    | cons t0 ts=>
     simp only at h ⊢
     split at h
     .rename_i hall
      split at h
      .omega
      .rename_i h0
       obtain⟨h',e,hb⟩:=IU (d:=d) (root:=false) (t:=t0) (by omega)
       refine⟨h'+1,by rw[if_pos hall,if_neg h0,e];rfl,by omega,by omega,h',rfl,λt ht=>?_⟩
       obtain⟨h2,e2,hb2⟩:=IU (d:=d) (root:=false) (t:=t) (by rw[hall t ht];omega)
       rw[hall t ht,e] at e2
       have:h'=h2:=by omega
       subst this
       exact hb2
     .omega
theorem Ex:∀{d:Nat} {root:Bool} {t:Ro d} {h:Nat},Br d root t h->A3 d root t=(h:Int)
 | 0,root,t,_,_=>t.elim
 | d+1,root,.inl t,h,hb=>by
  obtain⟨rfl,h4,h2⟩:=hb
  rw[FE]
  rw[if_neg (by omega),if_neg (by rcases h2 with rfl|h2 <;> simp;omega)]
  rfl
 | d+1,root,.inr l,h,hb=>by
  obtain⟨h2,h4,h',rfl,hall⟩:=hb
  rw[Gd]
  rw[if_neg (by omega),if_neg (by omega)]
  cases l with
  | nil=>simp at h2
  | cons t0 ts=>
   have h0:=Ex (hall t0 (by simp))
   simp only
   rw[if_pos (λt ht=>by rw[Ex (hall t ht),h0]),if_neg (by omega),h0]
   rfl
theorem N5:∀(d:Nat) (root:Bool) (t:Ro d),-1<=A3 d root t/\A3 d root t<=(d:Int)
 | 0,root,t=>t.elim
 | d+1,root,.inl t=>by
  rw[FE]
  split
  .omega
  .split <;> omega
 | d+1,root,.inr l=>by
  rw[Gd]
  cases l with
  | nil=>simp;omega
  | cons t0 ts=>
   have:=N5 d false t0
   simp only
   split
   .omega
   .split
    .omega
    .split
     .split <;> omega
     .omega
theorem OH:∀(d:Nat) (t:Ro d) (v:Value) (root:Bool) (w:World),NA w d t v->Ad d t<=5000->d<=21->WS 111 #[v,.bool root] w (WT w (iv (A3 d root t))):=by
 intro d;induction d with
 | zero=>intro t;exact t.elim
 | succ d ih=>
  intro t v root w hv hnod hd21;rcases t with t|l
  .obtain⟨ka,kc,ca,cc,rfl,hk⟩:=hv;clear hnod ih hk;obtain⟨I,hI⟩:∃I,I=A3 (d+1) root (.inl t):=⟨_,rfl⟩;rw[<- hI];rw[FE] at hI;obtain⟨m,hm⟩:∃m,m=t.length:=⟨_,rfl⟩;rw[<- hm] at hI ⊢;have HI:U (I=if 4<m then -1 else if m<2/\root=false then -1 else 0):=hI;clear hm hI;have HS:U (∀W:World,WS 137 #[.agg #[.bool true,.slice ka m kc,.slice ca 0 cc]] W (WT W (iv (m:Int)))):=λW=>(Me true ka ca m kc 0 cc W).mono (λe w' h=>⟨by simpa using h.1,h.2⟩);have hbx:U (∀O (w1:World),Below (w.alloc O).heap.size (w.alloc O) w1->Bl w w1):=λO w1 h=>(Aa _ _).trans (h.mono (by simp));by_cases h4:4<m
   .have i4:(4:Int)<(m:Int):=by omega
    have i4' : decide ((4:Int)<(m:Int))=true:=decide_eq_true i4;go_enter Tryz.func111,Tryz.ntmps111;go_wp2_with fail
    refine (HS.o _).mono ?_;rintro e w1 ⟨rfl,hb1⟩;have HB:U (Bl w w1):=hbx.o _ _ hb1;clear hb1;go_wp2;go_ret;exact⟨by rw[HI.o,if_pos h4];rfl,HB.o⟩
   .have i4:¬ (4:Int)<(m:Int):=by omega
    have i4' : decide ((4:Int)<(m:Int))=false:=decide_eq_false i4;by_cases h2:m<2
    .have i2:(m:Int)<2:=by omega
     have i2' : decide ((m:Int)<2)=true:=decide_eq_true i2;cases root with
     | true=>
      go_enter Tryz.func111,Tryz.ntmps111;go_wp2_with fail
      refine (HS.o _).mono ?_;rintro e w1 ⟨rfl,hb1⟩;have HX:U (Bx w1 w.heap.size 134 #[.bool true,.slice ka m kc,.slice ca 0 cc]):=(Bx.new _ _ _).below hb1;have HB:U (Bl w w1):=hbx.o _ _ hb1;have z0:=HX.o.cell 0;have z1:=HX.o.cell 1;have z2:=HX.o.cell 2;simp at z0 z1 z2;clear hb1;go_wp2_with fail
      refine (HS.o _).mono ?_;rintro e w2 ⟨rfl,hb2⟩;have HX2:U (Bx w2 w.heap.size 134 #[.bool true,.slice ka m kc,.slice ca 0 cc]):=HX.o.below hb2;have HB2:U (Bl w w2):=HB.o.trans (hb2.mono HB.o.size);clear hb2 z0 z1 z2;have z0:=HX2.o.cell 0;simp at z0;go_wp2;go_ret;exact⟨by rw[HI.o,if_neg h4,if_neg (by simp)];rfl,HB2.o⟩
     | false=>
      go_enter Tryz.func111,Tryz.ntmps111;go_wp2_with fail
      refine (HS.o _).mono ?_;rintro e w1 ⟨rfl,hb1⟩;have HX:U (Bx w1 w.heap.size 134 #[.bool true,.slice ka m kc,.slice ca 0 cc]):=(Bx.new _ _ _).below hb1;have HB:U (Bl w w1):=hbx.o _ _ hb1;have z0:=HX.o.cell 0;have z1:=HX.o.cell 1;have z2:=HX.o.cell 2;simp at z0 z1 z2;clear hb1;go_wp2_with fail
      refine (HS.o _).mono ?_;rintro e w2 ⟨rfl,hb2⟩;have HB2:U (Bl w w2):=HB.o.trans (hb2.mono HB.o.size);clear hb2 z0 z1 z2;go_wp2;go_ret;exact⟨by rw[HI.o,if_neg h4,if_pos ⟨h2,trivial⟩];rfl,HB2.o⟩
    .have i2:¬ (m:Int)<2:=by omega
     have i2' : decide ((m:Int)<2)=false:=decide_eq_false i2;go_enter Tryz.func111,Tryz.ntmps111;go_wp2_with fail
     refine (HS.o _).mono ?_;rintro e w1 ⟨rfl,hb1⟩;have HX:U (Bx w1 w.heap.size 134 #[.bool true,.slice ka m kc,.slice ca 0 cc]):=(Bx.new _ _ _).below hb1;have HB:U (Bl w w1):=hbx.o _ _ hb1;have z0:=HX.o.cell 0;have z1:=HX.o.cell 1;have z2:=HX.o.cell 2;simp at z0 z1 z2;clear hb1;go_wp2_with fail
     refine (HS.o _).mono ?_;rintro e w2 ⟨rfl,hb2⟩;have HX2:U (Bx w2 w.heap.size 134 #[.bool true,.slice ka m kc,.slice ca 0 cc]):=HX.o.below hb2;have HB2:U (Bl w w2):=HB.o.trans (hb2.mono HB.o.size);clear hb2 z0 z1 z2;have z0:=HX2.o.cell 0;simp at z0;go_wp2;go_ret;exact⟨by rw[HI.o,if_neg h4,if_neg (by intro h;omega)];rfl,HB2.o⟩
  .obtain⟨ka,kc,b,cc,xs,rfl,_,hb,hl0,hx,hk⟩:=hv;have hl63:l.length<=5000:=by have:=Hn d l;omega
   have HKid:U (∀W:World,Bl w W->∀k (h:k<l.length),∃lf ka kn kc ca cn cc,W.cell? (ad b (k*3))=some (.bool lf)/\W.cell? (ad b (k*3+1))=some (.slice ka kn kc)/\W.cell? (ad b (k*3+2))=some (.slice ca cn cc)/\NA W d l[k] (.agg #[.bool lf,.slice ka kn kc,.slice ca cn cc])):=by intro W hW k h;obtain⟨lf,ka,kn,kc,ca,cn,cc,h0,h1,h2,h3⟩:=MG hx hk k h;exact⟨lf,ka,kn,kc,ca,cn,cc,(hW.cell (p:=⟨b,_,none⟩) hb).trans h0,(hW.cell (p:=⟨b,_,none⟩) hb).trans h1,(hW.cell (p:=⟨b,_,none⟩) hb).trans h2,NA.below h3 hW⟩
   have HIH:U (∀W k (h:k<l.length) v,NA W d l[k] v->WS 111 #[v,.bool false] W (WT W (iv (A3 d false l[k])))):=λW k h v hv=>ih l[k] v false W hv (by have:=Qh d l k h;omega) (by omega);have HIe:U (A3 (d+1) root (.inr l)=if 4<l.length then -1 else if l.length<2 then -1 else if h:0<l.length then (if (∀k (h:k<l.length),A3 d false l[k]=A3 d false l[0]) then (if A3 d false l[0]<0 then -1 else A3 d false l[0]+1) else -1) else -1):=by
    show A3 (d+1) root (.inr l)=_;rw[Gd];cases l with
    | nil=>simp
    | cons t0 ts=>
     have e:(∀t,t∈t0::ts->A3 d false t=A3 d false t0)↔(∀k (h:k<(t0::ts).length),A3 d false (t0::ts)[k]=A3 d false (t0::ts)[0]):=by
      constructor;.intro h k hk;exact h _ (WE hk)
      .intro h t ht;obtain⟨k,hk,rfl⟩:=List.getElem_of_mem ht;exact h k hk
     rw[dif_pos (by simp)];simp only[e];rfl
   clear hx hk ih hnod;obtain⟨I,hI⟩:∃I,I=A3 (d+1) root (.inr l):=⟨_,rfl⟩;rw[<- hI];have HI:U (I=if 4<l.length then -1 else if l.length<2 then -1 else if h:0<l.length then (if (∀k (h:k<l.length),A3 d false l[k]=A3 d false l[0]) then (if A3 d false l[0]<0 then -1 else A3 d false l[0]+1) else -1) else -1):=hI.trans HIe.o;clear hI HIe;obtain⟨m,hm⟩:∃m,m=l.length:=⟨_,rfl⟩;rw[<- hm] at hl0 hl63 ⊢;have HM:U (m=l.length):=hm;clear hm;have HS:U (∀W:World,WS 137 #[.agg #[.bool false,.slice ka 0 kc,.slice (some (ad b 0)) m cc]] W (WT W (iv (m:Int)))):=λW=>(Me false ka (some (ad b 0)) 0 kc m cc W).mono (λe w' h=>⟨by simpa using h.1,h.2⟩);have hbx:U (∀O (w1:World),Below (w.alloc O).heap.size (w.alloc O) w1->Bl w w1):=λO w1 h=>(Aa _ _).trans (h.mono (by simp));by_cases h4:4<m
   .have i4:(4:Int)<(m:Int):=by omega
    have i4' : decide ((4:Int)<(m:Int))=true:=decide_eq_true i4;go_enter Tryz.func111,Tryz.ntmps111;go_wp2_with fail
    refine (HS.o _).mono ?_;rintro e w1 ⟨rfl,hb1⟩;have HB:U (Bl w w1):=hbx.o _ _ hb1;clear hb1;go_wp2;go_ret;exact⟨by rw[HI.o,if_pos (by rw[<- HM.o];exact h4)];rfl,HB.o⟩
   .have i4:¬ (4:Int)<(m:Int):=by omega
    have i4' : decide ((4:Int)<(m:Int))=false:=decide_eq_false i4;by_cases h2:m<2
    .have i2:(m:Int)<2:=by omega
     have i2' : decide ((m:Int)<2)=true:=decide_eq_true i2;have HI2:U (I=-1):=by show I=-1;rw[HI.o,if_neg (by rw[<- HM.o];exact h4),if_pos (by rw[<- HM.o];exact h2)]
     cases root with
     | true=>
      go_enter Tryz.func111,Tryz.ntmps111;go_wp2_with fail
      refine (HS.o _).mono ?_;rintro e w1 ⟨rfl,hb1⟩;have HX:U (Bx w1 w.heap.size 134 #[.bool false,.slice ka 0 kc,.slice (some (ad b 0)) m cc]):=(Bx.new _ _ _).below hb1;have HB:U (Bl w w1):=hbx.o _ _ hb1;have z0:=HX.o.cell 0;have z1:=HX.o.cell 1;have z2:=HX.o.cell 2;simp at z0 z1 z2;clear hb1;go_wp2_with fail
      refine (HS.o _).mono ?_;rintro e w2 ⟨rfl,hb2⟩;have HX2:U (Bx w2 w.heap.size 134 #[.bool false,.slice ka 0 kc,.slice (some (ad b 0)) m cc]):=HX.o.below hb2;have HB2:U (Bl w w2):=HB.o.trans (hb2.mono HB.o.size);clear hb2 z0 z1 z2;have z0:=HX2.o.cell 0;simp at z0;go_wp2;go_ret;exact⟨by rw[HI2.o];rfl,HB2.o⟩
     | false=>
      go_enter Tryz.func111,Tryz.ntmps111;go_wp2_with fail
      refine (HS.o _).mono ?_;rintro e w1 ⟨rfl,hb1⟩;have HX:U (Bx w1 w.heap.size 134 #[.bool false,.slice ka 0 kc,.slice (some (ad b 0)) m cc]):=(Bx.new _ _ _).below hb1;have HB:U (Bl w w1):=hbx.o _ _ hb1;have z0:=HX.o.cell 0;have z1:=HX.o.cell 1;have z2:=HX.o.cell 2;simp at z0 z1 z2;clear hb1;go_wp2_with fail
      refine (HS.o _).mono ?_;rintro e w2 ⟨rfl,hb2⟩;have HB2:U (Bl w w2):=HB.o.trans (hb2.mono HB.o.size);clear hb2 z0 z1 z2;go_wp2;go_ret;exact⟨by rw[HI2.o];rfl,HB2.o⟩
    .have i2:¬ (m:Int)<2:=by omega
     have i2' : decide ((m:Int)<2)=false:=decide_eq_false i2;have hp:0<l.length:=by rw[<- HM.o];omega
     have HI2:U (I=if (∀k (h:k<l.length),A3 d false l[k]=A3 d false l[0]) then (if A3 d false l[0]<0 then -1 else A3 d false l[0]+1) else -1):=by show I=_;rw[HI.o,if_neg (by rw[<- HM.o];exact h4),if_neg (by rw[<- HM.o];exact h2),dif_pos hp]
     clear HI;go_enter Tryz.func111,Tryz.ntmps111;go_wp2_with fail
     refine (HS.o _).mono ?_;rintro e w1 ⟨rfl,hb1⟩;have HX:U (Bx w1 w.heap.size 134 #[.bool false,.slice ka 0 kc,.slice (some (ad b 0)) m cc]):=(Bx.new _ _ _).below hb1;have HB:U (Bl w w1):=hbx.o _ _ hb1;have z0:=HX.o.cell 0;have z1:=HX.o.cell 1;have z2:=HX.o.cell 2;simp at z0 z1 z2;clear hb1;go_wp2_with fail
     refine (HS.o _).mono ?_;rintro e w2 ⟨rfl,hb2⟩;have HX2:U (Bx w2 w.heap.size 134 #[.bool false,.slice ka 0 kc,.slice (some (ad b 0)) m cc]):=HX.o.below hb2;have HB2:U (Bl w w2):=HB.o.trans (hb2.mono HB.o.size);clear hb2 z0 z1 z2 HX HB;have z0:=HX2.o.cell 0;have z2:=HX2.o.cell 2;simp at z0 z2;obtain⟨lf1,ka1,kn1,kc1,ca1,cn1,cc1,c0,c1,c2,hna⟩:=HKid.o w2 HB2.o 0 hp;have HNA:U (NA w2 d l[0] (.agg #[.bool lf1,.slice ka1 kn1 kc1,.slice ca1 cn1 cc1])):=hna;simp only[Nat.zero_mul,WM] at c0 c1 c2;have im:(0:Int)<(m:Int):=by omega
     clear hna;go_wp2_with fail
     refine (HIH.o _ 0 hp _ HNA.o).mono ?_;rintro e w3 ⟨rfl,hb3⟩;have HX3:U (Bx w3 w.heap.size 134 #[.bool false,.slice ka 0 kc,.slice (some (ad b 0)) m cc]):=HX2.o.below hb3;have HB3:U (Bl w w3):=HB2.o.trans (hb3.mono HB2.o.size);have hdb:=N5 d false l[0];have hD:=HI2.o;have HAll:U (∀W:World,Bl w W->Bx W w.heap.size 134 #[.bool false,.slice ka 0 kc,.slice (some (ad b 0)) m cc]->True):=λ_ _ _=>trivial;generalize A3 d false l[0]=D0 at hdb hD ⊢;have HD:U (I=if (∀k (h:k<l.length),A3 d false l[k]=D0) then (if D0<0 then -1 else D0+1) else -1):=hD;clear hb3 z0 z2 c0 c1 c2 HNA HX2 HB2 HI2 hD hbx HAll;go_wp2;go_loopw [6] (λi wr=>∃k:Nat,k<=m/\i=iv k/\(∀j (h:j<l.length),j<k->A3 d false l[j]=D0)/\Bx wr w.heap.size 134 #[.bool false,.slice ka 0 kc,.slice (some (ad b 0)) m cc]/\Bl w wr) (λi _=>m-(intOf i).toNat)
     case atStart=>exact⟨0,Ww _,rfl,λj _ h=>absurd h (Wy _),HX3.o,HB3.o⟩
     case round=>
      obtain⟨k,hk,rfl,hall,hbx,hbel⟩:=hrel;clear HX3 HB3;have HA:U (∀j (h:j<l.length),j<k->A3 d false l[j]=D0):=hall;have HX:U (Bx wr w.heap.size 134 #[.bool false,.slice ka 0 kc,.slice (some (ad b 0)) m cc]):=hbx;have HB:U (Bl w wr):=hbel;have z2:=hbx.cell 2;simp at z2;clear hall hbx hbel;by_cases hlt:k<m
      .have hlk:k<l.length:=by rw[<- HM.o];exact hlt
       obtain⟨lf1,ka1,kn1,kc1,ca1,cn1,cc1,c0,c1,c2,hna⟩:=HKid.o wr HB.o k hlk;have HNA:U (NA wr d l[k] (.agg #[.bool lf1,.slice ka1 kn1 kc1,.slice ca1 cn1 cc1])):=hna;have hk0:(0:Int)<=(k:Int):=by omega
       have hkn:(k:Int)<(m:Int):=by omega
       clear hna;go_wp2_with fail
       refine (HIH.o _ k hlk _ HNA.o).mono ?_;rintro e w4 ⟨rfl,hb4⟩;have HX4:U (Bx w4 w.heap.size 134 #[.bool false,.slice ka 0 kc,.slice (some (ad b 0)) m cc]):=HX.o.below hb4;have HB4:U (Bl w w4):=HB.o.trans (hb4.mono HB.o.size);have HE:U (A3 d false l[k]=A3 d false l[k]):=rfl;obtain⟨Dk,hDk⟩:∃Dk,A3 d false l[k]=Dk:=⟨_,rfl⟩;rw[hDk];have HDk:U (A3 d false l[k]=Dk):=hDk;clear hb4 z2 c0 c1 c2 HNA HX HB hDk HE;by_cases hne:Dk=D0
       .subst hne;have hq:(Dk != Dk)=false:=by simp
        go_wp2;go_roundw;case rel=>
         refine⟨k+1,by omega,by go_num,λj h hj=>?_,HX4.o,HB4.o⟩;by_cases e:j=k;.subst e;exact HDk.o
         .exact HA.o j h (by omega)
        case measure=>simp[intOf];omega
       .have hq:(Dk != D0)=true:=by simpa using hne
        have hq2:(!(Dk == D0))=true:=by simpa using hne
        have HR:U (I=-1):=by show I=-1;rw[HD.o,if_neg (λh=>hne (by rw[<- HDk.o];exact h k hlk))]
        go_wp2;go_ret;exact⟨by rw[HR.o];rfl,HB4.o⟩
      .have e:k=m:=by omega
       subst e;have hall:∀j (h:j<l.length),A3 d false l[j]=D0:=λj h=>HA.o j h (by rw[HM.o];exact h);by_cases hneg:D0<0
       .have hn' : decide (D0<0)=true:=decide_eq_true hneg;have HR:U (I=-1):=by show I=-1;rw[HD.o,if_pos hall,if_pos hneg]
        clear hall;go_wp2;go_ret;exact⟨by rw[HR.o];rfl,HB.o⟩
       .have hn' : decide (D0<0)=false:=decide_eq_false hneg;have HR:U (I=D0+1):=by show I=D0+1;rw[HD.o,if_pos hall,if_neg hneg]
        clear hall;go_wp2;go_ret;exact⟨by rw[HR.o];rfl,HB.o⟩
theorem CM:∀l:List UInt8,Op.bytesLess l l=false
 | []=>rfl
 | a::x=>by simp[Op.bytesLess,CM x]
theorem AZ:∀a b c:List UInt8,Op.bytesLess a b=true->Op.bytesLess b c=true->Op.bytesLess a c=true
 | _,[],_,h,_=>by simp[Op.bytesLess] at h
 | _,_::_,[],_,h=>by simp[Op.bytesLess] at h
 | [],_::_,_::_,_,_=>rfl
 | a::x,b::y,c::z,h1,h2=>by
  simp only[Op.bytesLess,Bool.or_eq_true,Bool.and_eq_true,decide_eq_true_eq,beq_iff_eq] at h1 h2 ⊢
  rcases h1 with h1|⟨rfl,h1⟩
  .rcases h2 with h2|⟨rfl,h2⟩
   .exact .inl (UInt8.lt_trans h1 h2)
   .exact .inl h1
  .rcases h2 with h2|⟨rfl,h2⟩
   .exact .inl h2
   .exact .inr ⟨rfl,AZ x y z h1 h2⟩
theorem BR:∀a b:List UInt8,(Op.bytesLess b a || b == a)=!Op.bytesLess a b
 | [],[]=>rfl
 | [],_::_=>rfl
 | _::_,[]=>rfl
 | a::x,b::y=>by
  have ih:=BR x y
  simp only[Op.bytesLess]
  by_cases h:a=b
  .subst h
   have e1:((a::y) == (a::x))=(y == x):=by simp
   rw[e1]
   simp
   simpa using ih
  .have h' : ¬ b=a:=λe=>h e.symm
   have e0:(a == b)=false:=by simp[h]
   have e1:(b == a)=false:=by simp[h']
   have e2:((b::y) == (a::x))=false:=by simp[h']
   rw[e0,e1,e2]
   simp
   by_cases hl:a<b
   .simp[hl]
    exact UInt8.le_of_lt hl
   .simp[hl]
    have:=UInt8.not_lt.1 hl
    exact UInt8.lt_of_le_of_ne this h'
theorem PO {X:Nat->ByteArray} {k:Nat} (h:∀m,m<k->0<m->Op.bytesLess (X (m-1)).toList (X m).toList=true) (p:Nat) (hp:p<k):∀j,j<p->Op.bytesLess (X j).toList (X p).toList=true:=by
 induction p with
 | zero=>intro j hj;omega
 | succ p ih=>
  intro j hj;have h1:=h (p+1) hp (by omega);rw[show p+1-1=p from rfl] at h1;by_cases e:j=p;.subst e;exact h1
  .exact AZ _ _ _ (ih (by omega) j (by omega)) h1
theorem Hy {x y:ByteArray} (h:x.toList=y.toList):x=y:=by rw[ByteArray.toList_eq,ByteArray.toList_eq] at h;cases x;cases y;simp only at h;rw[Array.toList_inj.1 h]
def BX (x y:Tn):Prop:=x.lf=y.lf/\x.ct=y.ct/\x.kn=y.kn/\x.dn=y.dn/\(∀j,j<x.kn->x.ks j=y.ks j)/\∀j,j<x.dn->x.kd j=y.kd j
theorem JO (a b:Option Addr) (n m ca cb:Nat) (F N:Nat->Tn) (w:World) (ha:Bk w a n F) (hb:Bk w b m N) (hn:n<=1048576) (hm:m<=1048576) (hF:∀i,i<n->Bf (F i)) (hN:∀i,i<m->Bf (N i)) :
  WS 112 #[.slice a n ca,.slice b m cb] w (Vb w (n=m/\∀i,i<n->BX (F i) (N i))):=by
 by_cases hnm:n=m
 .subst hnm;have hll:((n:Int) != (n:Int))=false:=by simp
  have HR:U (∀i,i<n->Bf (F i)/\Bf (N i)):=λi hi=>⟨hF i hi,hN i hi⟩;clear hF hN;go_enter Tryz.func112,Tryz.ntmps112;go_wp2;go_loopw [5] (λi wr=>∃k:Nat,k<=n/\i=iv k/\(∀j,j<k->BX (F j) (N j))/\Bl w wr) (λi _=>n-(intOf i).toNat)
  case atStart=>exact⟨0,Ww _,rfl,λj h=>absurd h (Wy _),Wt _ _⟩
  case round=>
   obtain⟨k,hk,rfl,hall,hbel⟩:=hrel;have HA:U (∀j,j<k->BX (F j) (N j)):=hall;clear hall;by_cases hlt:k<n
   .have hne:¬ n=0:=by omega
    have HAB:U (∀W,Bl w W->Bk W a n F/\Bk W b n N):=λW hW=>⟨ha.below hW,hb.below hW⟩;have hk0:(0:Int)<=(k:Int):=by omega
    have hkn:(k:Int)<(n:Int):=by omega
    rcases ha.below hbel with h|⟨ba,oa,ea,hca⟩;.exact absurd h hne
    rcases hb.below hbel with h|⟨bb,ob,eb,hcb⟩;.exact absurd h hne
    subst ea;subst eb;obtain⟨ka,kc,da,dc,c0,c1,c2,c3,c4,c5⟩:=hca k hlt;obtain⟨kb,kc',db,dc',g0,g1,g2,g3,g4,g5⟩:=hcb k hlt;have HC:U (BE wr ka (F k).kn (F k).ks/\Rd .i64 wr da (F k).dn (F k).kd/\BE wr kb (N k).kn (N k).ks/\Rd .i64 wr db (N k).dn (N k).kd):=⟨c4,c5,g4,g5⟩;have HB:U (Bl w wr):=hbel;obtain⟨⟨fk1,fk2⟩,⟨fk3,fk4⟩⟩:=HR.o k hlt;clear hca hcb ha hb hbel c4 c5 g4 g5;by_cases e1:(F k).lf=(N k).lf
    .rw[<- e1] at g0;by_cases e2:(F k).ct=(N k).ct
     .rw[<- e2] at g3;by_cases e3:(F k).kn=(N k).kn
      .rw[<- e3] at g1;by_cases e4:(F k).dn=(N k).dn
       .rw[<- e4] at g2;have HE:U ((F k).lf=(N k).lf/\(F k).ct=(N k).ct/\(F k).kn=(N k).kn/\(F k).dn=(N k).dn):=⟨e1,e2,e3,e4⟩;have HC2:U (BE wr ka (F k).kn (F k).ks/\Rd .i64 wr da (F k).dn (F k).kd/\BE wr kb (F k).kn (N k).ks/\Rd .i64 wr db (F k).dn (N k).kd):=by obtain⟨h1,h2,h3,h4⟩:=HC.o;rw[<- e3] at h3;rw[<- e4] at h4;exact⟨h1,h2,h3,h4⟩
        clear e1 e2 e3 e4 HC fk3 fk4;go_wp2;go_quiet (fail)
        go_wp2;go_loopw [6] (λi w1=>∃(q z:Nat),q<=(F k).kn/\i=iv q/\(∀j,j<q->(F k).ks j=(N k).ks j)/\w1=wr.drewN z) (λi _=>(F k).kn-(intOf i).toNat)
        case atStart=>exact⟨0,nq,Ww _,rfl,λj h=>absurd h (Wy _),rfl⟩
        case round=>
         obtain⟨q,z,hq,rfl,hallq,rfl⟩:=hrel;have HQ:U (∀j,j<q->(F k).ks j=(N k).ks j):=hallq;clear hallq;by_cases hlq:q<(F k).kn
         .have hq0:(0:Int)<=(q:Int):=by omega
          have hqn:(q:Int)<((F k).kn:Int):=by omega
          rcases HC2.o.1 with h|⟨b1,o1,ek1,hs1⟩;.omega
          rcases HC2.o.2.2.1 with h|⟨b2,o2,ek2,hs2⟩;.omega
          subst ek1;subst ek2;have s1:=hs1 q hlq;have s2:=hs2 q hlq;clear hs1 hs2;by_cases hs:(F k).ks q=(N k).ks q
          .rw[<- hs] at s2;have HS:U ((F k).ks q=(N k).ks q):=hs;clear hs;go_wp2;go_quiet (fail)
           go_wp2;go_roundw;case rel=>
            refine⟨q+1,_,by omega,by go_num,λj hj=>?_,rfl⟩;by_cases e:j=q;.subst e;exact HS.o
            .exact HQ.o j (by omega)
           case measure=>simp[intOf];omega
          .have HNo:U (¬ (n=n/\∀i,i<n->BX (F i) (N i))):=λh=>hs ((h.2 k hlt).2.2.2.2.1 q hlq);have hs1:(((F k).ks q).toList == ((N k).ks q).toList)=false:=by rw[beq_eq_false_iff_ne];exact λh=>hs (Hy h)
           have hs2:(!(((F k).ks q).toList == ((N k).ks q).toList))=true:=by rw[hs1];rfl
           go_wp2;go_quiet (fail)
           go_wp2;go_ret;exact⟨false,rfl,by simp[HNo.o],Af (Af HB.o _) _⟩
         .have e:q=(F k).kn:=by omega
          have HQ2:U (∀j,j<(F k).kn->(F k).ks j=(N k).ks j):=by rw[<- e];exact HQ.o
          clear HQ;have hqf:¬ (q:Int)<((F k).kn:Int):=by omega
          have hqf' : decide ((q:Int)<((F k).kn:Int))=false:=decide_eq_false hqf;clear e hq hlq;go_wp2;go_loopw [7] (λi w1=>∃(q z:Nat),q<=(F k).dn/\i=iv q/\(∀j,j<q->(F k).kd j=(N k).kd j)/\w1=wr.drewN z) (λi _=>(F k).dn-(intOf i).toNat)
          case atStart=>exact⟨0,z,Ww _,rfl,λj h=>absurd h (Wy _),rfl⟩
          case round=>
           obtain⟨p,y,hp,rfl,hallp,rfl⟩:=hrel;have HP:U (∀j,j<p->(F k).kd j=(N k).kd j):=hallp;clear hallp;by_cases hlp:p<(F k).dn
           .have hp0:(0:Int)<=(p:Int):=by omega
            have hpn:(p:Int)<((F k).dn:Int):=by omega
            rcases HC2.o.2.1 with h|⟨b1,o1,ek1,hs1⟩;.omega
            rcases HC2.o.2.2.2 with h|⟨b2,o2,ek2,hs2⟩;.omega
            subst ek1;subst ek2;have s1:=hs1 p hlp;have s2:=hs2 p hlp;clear hs1 hs2;by_cases hs:(F k).kd p=(N k).kd p
            .rw[<- hs] at s2;have HS:U ((F k).kd p=(N k).kd p):=hs;clear hs;go_wp2;go_quiet (fail)
             go_wp2;go_roundw;case rel=>
              refine⟨p+1,_,by omega,by go_num,λj hj=>?_,rfl⟩;by_cases e:j=p;.subst e;exact HS.o
              .exact HP.o j (by omega)
             case measure=>simp[intOf];omega
            .have HNo:U (¬ (n=n/\∀i,i<n->BX (F i) (N i))):=λh=>hs ((h.2 k hlt).2.2.2.2.2 p hlp);have hs1:((F k).kd p != (N k).kd p)=true:=by simpa using hs
             go_wp2;go_quiet (fail)
             go_wp2;go_ret;exact⟨false,rfl,by simp[HNo.o],Af (Af HB.o _) _⟩
           .have e:p=(F k).dn:=by omega
            have HSame:U (BX (F k) (N k)):=⟨HE.o.1,HE.o.2.1,HE.o.2.2.1,HE.o.2.2.2,HQ2.o,by rw[<- e];exact HP.o⟩;have hpf:¬ (p:Int)<((F k).dn:Int):=by omega
            have hpf' : decide ((p:Int)<((F k).dn:Int))=false:=decide_eq_false hpf;clear e hp hlp;go_wp2;go_roundw;case rel=>
             refine⟨k+1,by omega,by go_num,λj hj=>?_,Af HB.o _⟩;by_cases e:j=k;.subst e;exact HSame.o
             .exact HA.o j (by omega)
            case measure=>simp[intOf];omega
       .have q4:(((F k).dn:Int) != ((N k).dn:Int))=true:=by simp;omega
        have HNo:U (¬ (n=n/\∀i,i<n->BX (F i) (N i))):=λh=>e4 (h.2 k hlt).2.2.2.1;clear e1 e2 e3 e4;go_wp2;go_quiet (fail)
        go_wp2;go_ret;exact⟨false,rfl,by simp[HNo.o],Af HB.o _⟩
      .have q3:(((F k).kn:Int) != ((N k).kn:Int))=true:=by simp;omega
       have e4:=e3;have HNo:U (¬ (n=n/\∀i,i<n->BX (F i) (N i))):=λh=>e3 (h.2 k hlt).2.2.1;clear e1 e2 e3 e4;go_wp2;go_quiet (fail)
       go_wp2;go_ret;exact⟨false,rfl,by simp[HNo.o],Af HB.o _⟩
     .have q2:((F k).ct != (N k).ct)=true:=by simpa using e2
      have e4:=e2;have e3:=e2;have HNo:U (¬ (n=n/\∀i,i<n->BX (F i) (N i))):=λh=>e2 (h.2 k hlt).2.1;clear e1 e2 e3 e4;go_wp2;go_quiet (fail)
      go_wp2;go_ret;exact⟨false,rfl,by simp[HNo.o],Af HB.o _⟩
    .have q1:((F k).lf != (N k).lf)=true:=by simpa using e1
     have q1' : (!((F k).lf == (N k).lf))=true:=by simpa using e1
     have e4:=e1;have e3:=e1;have e2:=e1;have HNo:U (¬ (n=n/\∀i,i<n->BX (F i) (N i))):=λh=>e1 (h.2 k hlt).1;clear e1 e2 e3 e4;go_wp2;go_quiet (fail)
     go_wp2;go_ret;exact⟨false,rfl,by simp[HNo.o],Af HB.o _⟩
   .have e:k=n:=by omega
    subst e;go_wp2;go_ret;exact⟨true,rfl,by simp only[true_iff];exact⟨trivial,HA.o⟩,hbel⟩
 .have hll:((n:Int) != (m:Int))=true:=by simp;omega
  have HN:=hid hnm;go_enter Tryz.func112,Tryz.ntmps112;go_wp2;go_ret;exact⟨false,rfl,by simp[HN.o],Wt _ _⟩
def AS (d:Nat) (l:List (Ro d)) (k:Nat):Nat:=((l.take k).map (Ad d)).sum
theorem D6 (d:Nat) (l:List (Ro d)):AS d l 0=0:=by simp[AS]
theorem BA (d:Nat) (l:List (Ro d)) (k:Nat) (h:k<l.length):AS d l (k+1)=AS d l k+Ad d l[k]:=by unfold AS;rw[<- List.take_append_getElem h,List.map_append,List.sum_append];simp
theorem B7 (d:Nat) (l:List (Ro d)):AS d l l.length=(l.map (Ad d)).sum:=by unfold AS;rw[WG]
theorem EQ (d:Nat) (l:List (Ro d)) {j k:Nat} (h:j<=k) (hk:k<=l.length):AS d l j<=AS d l k:=by
 induction k with
 | zero=>
  have:j=0:=by omega
  subst this;exact Wu _
 | succ k ih=>
  by_cases e:j=k+1;.subst e;exact Wu _
  .have:=ih (by omega) (by omega);rw[BA d l k (by omega)];omega
theorem ET (d:Nat) (l:List (Ro d)) (k:Nat) (h:k<l.length):AS d l k+Ad d l[k]<=(l.map (Ad d)).sum:=by rw[<- BA d l k h,<- B7];exact EQ d l (by omega) (Wu _)
theorem JR (d:Nat) (l:List (Ro d)) (m:Nat) (h:m<(l.map (Ad d)).sum):∃k,∃hk:k<l.length,AS d l k<=m/\m<AS d l k+Ad d l[k]:=by
 have key:∀k,k<=l.length->m<AS d l k->∃k,∃hk:k<l.length,AS d l k<=m/\m<AS d l k+Ad d l[k]:=by
  intro k;induction k with
  | zero=>intro _ h;rw[D6] at h;omega
  | succ k ih=>
   intro hk h;by_cases e:m<AS d l k;.exact ih (by omega) e
   .rw[BA d l k (by omega)] at h;exact⟨k,by omega,by omega,h⟩
 exact key l.length (Wu _) (by rw[B7];exact h)
def AJ (F:Nat->Tn) (base:Int):(d:Nat)->Ro d->Nat->Prop
 | 0,_,_=>False
 | d+1,.inl t,x=>(F x).lf=true/\(F x).kn=t.length/\(∀j,j<t.length->(F x).ks j=gt t j)/\(F x).dn=0/\(F x).ct=(t.length:Int)
 | d
  + 1,.inr l,x=>(F x).lf=false/\(F x).dn=l.length/\(F x).ct=((l.flatMap (Ab d)).length:Int)/\(F x).kn+1=l.length/\(∀k,k<l.length->(F x).kd k=base+((x+1+AS d l k:Nat):Int))/\
  (∀k (h:k+1<l.length),(F x).ks k=gt (Ab d l[k+1]) 0)/\∀k (h:k<l.length),AJ F base d l[k] (x+1+AS d l k)
theorem AJ.shift {F G:Nat->Tn} {base:Int} {s:Nat}:∀{d:Nat} {t:Ro d} {x:Nat},(∀i,x<=i->i<x+Ad d t->BX (G i) (F (i+s)))->AJ G (base+(s:Int)) d t x->AJ F base d t (x+s)
 | 0,_,_,_,h=>h
 | d+1,.inl t,x,hFG,h=>by
  obtain⟨h1,h2,h3,h4,h5⟩:=h
  obtain⟨q1,q2,q3,q4,q5,q6⟩:=hFG x (Wu _) (Nat.lt_succ_self _)
  exact⟨by rw[<- q1];exact h1,by rw[<- q3];exact h2,λj hj=>by rw[<- q5 j (by omega)];exact h3 j hj,by rw[<- q4];exact h4,by rw[<- q2];exact h5⟩
 | d+1,.inr l,x,hFG,h=>by
  obtain⟨h1,h2,h3,h4,h5,h6,h7⟩:=h
  have hn:Ad (d+1) (.inr l)=1+(l.map (Ad d)).sum:=rfl
  obtain⟨q1,q2,q3,q4,q5,q6⟩:=hFG x (Wu _) (by omega)
  refine⟨by rw[<- q1];exact h1,by rw[<- q4];exact h2,by rw[<- q2];exact h3,by rw[<- q3];exact h4,λk hk=>?_,λk hk=>?_,λk hk=>?_⟩
  .rw[<- q6 k (by omega),h5 k hk]
   omega
  .rw[<- q5 k (by omega)]
   exact h6 k hk
  .have hle:=ET d l k hk
   have:=AJ.shift (F:=F) (G:=G) (base:=base) (s:=s) (λi hi1 hi2=>hFG i (by omega) (by omega)) (h7 k hk)
   rwa [show x+1+AS d l k+s=x+s+1+AS d l k by omega] at this
theorem AJ.congr {F G:Nat->Tn} {base:Int} {d:Nat} {t:Ro d} {x:Nat} (hFG:∀i,x<=i->i<x+Ad d t->BX (G i) (F i)) (h:AJ G base d t x):AJ F base d t x:=
 AJ.shift (s:=0) (λi h1 h2=>hFG i h1 h2) (by simpa using h)
theorem AJ.same {F G:Nat->Tn} {base:Int}:∀{d:Nat} {t:Ro d} {x:Nat},AJ F base d t x->AJ G base d t x->∀i,x<=i->i<x+Ad d t->BX (F i) (G i)
 | 0,_,_,h,_,_,_,_=>h.elim
 | d+1,.inl t,x,h,g,i,hi1,hi2=>by
  have hn:Ad (d+1) (.inl t)=1:=rfl
  have e:i=x:=by omega
  subst e
  obtain⟨h1,h2,h3,h4,h5⟩:=h
  obtain⟨g1,g2,g3,g4,g5⟩:=g
  exact⟨h1.trans g1.symm,h5.trans g5.symm,h2.trans g2.symm,h4.trans g4.symm,λj hj=>(h3 j (by omega)).trans (g3 j (by omega)).symm,λj hj=>by omega⟩
 | d+1,.inr l,x,h,g,i,hi1,hi2=>by
  have hn:Ad (d+1) (.inr l)=1+(l.map (Ad d)).sum:=rfl
  obtain⟨h1,h2,h3,h4,h5,h6,h7⟩:=h
  obtain⟨g1,g2,g3,g4,g5,g6,g7⟩:=g
  by_cases e:i=x
  .subst e
   exact⟨h1.trans g1.symm,h3.trans g3.symm,by omega,h2.trans g2.symm,λj hj=>(h6 j (by omega)).trans (g6 j (by omega)).symm,λj hj=>(h5 j (by omega)).trans (g5 j (by omega)).symm⟩
  .obtain⟨k,hk,k1,k2⟩:=JR d l (i-(x+1)) (by omega)
   exact AJ.same (h7 k hk) (g7 k hk) i (by omega) (by omega)
theorem PT {T:Type} (f:T->List ByteArray) (l:List T) (h0:0<l.length) (h:∀t,t∈l->0<(f t).length):0<(l.flatMap f).length:=by
 cases l with
 | nil=>simp at h0
 | cons t l=>rw[List.flatMap_cons,WD];have:=h t (by simp);omega
theorem Ee:∀{d:Nat} {t:Ro d} {h:Nat},Br d false t h->0<(Ab d t).length
 | 0,t,_,_=>t.elim
 | d+1,.inl t,h,hb=>by
  obtain⟨_,_,h2⟩:=hb
  have:2<=t.length:=by simpa using h2
  show 0<t.length
  omega
 | d+1,.inr l,h,hb=>by
  obtain⟨h2,_,h',_,hall⟩:=hb
  exact PT _ l (by omega) (λt ht=>Ee (hall t ht))
def hd (d:Nat) (l:List (Ro d)) (j:Nat):ByteArray:=match l[j]? with
 | some t=>gt (Ab d t) 0
 | none=>{ data:=#[] }
def GK (d:Nat) (l:List (Ro d)) (k:Nat):List ByteArray:=(List.range (k-1)).map λj=>hd d l (j+1)
def Jq (a:Int) (d:Nat) (l:List (Ro d)) (k:Nat):List Int:=(List.range k).map λj=>a+((1+AS d l j:Nat):Int)
theorem Nw (d:Nat) (l:List (Ro d)) (k:Nat):(GK d l k).length=k-1:=by simp[GK]
theorem MO (a:Int) (d:Nat) (l:List (Ro d)) (k:Nat):(Jq a d l k).length=k:=by simp[Jq]
theorem Rh (d:Nat) (l:List (Ro d)) (k:Nat) (h:0<k):GK d l (k+1)=GK d l k++[hd d l k]:=by unfold GK;rw[show k+1-1=(k-1)+1 by omega,List.range_succ,List.map_append];simp;rw[show k-1+1=k by omega]
theorem QS (a:Int) (d:Nat) (l:List (Ro d)) (k:Nat):Jq a d l (k+1)=Jq a d l k++[a+((1+AS d l k:Nat):Int)]:=by unfold Jq;rw[List.range_succ,List.map_append];simp
theorem QC (d:Nat) (l:List (Ro d)) (j:Nat) (h:j<l.length):hd d l j=gt (Ab d l[j]) 0:=by unfold hd;rw[Wx h]
def gi (l:List Int) (i:Nat):Int:=l.getD i 0
theorem Ub (a:Int) (d:Nat) (l:List (Ro d)) (k j:Nat) (h:j<k):gi (Jq a d l k) j=a+((1+AS d l j:Nat):Int):=by unfold gi Jq;simp[WA,h]
theorem UK (d:Nat) (l:List (Ro d)) (k j:Nat) (h:j<k-1):gt (GK d l k) j=hd d l (j+1):=by unfold gt GK;simp[WA,h]
variable {S:Nat->Prop}{a a':Option Addr}{c' m n:Nat}{v1 v2:Value}{w:World}{xs ys:List Value}
def OV (S:Nat->Prop) (w:World) (a:Option Addr) (n:Nat) (f:Nat->Value):Prop:=
 n=0\/∃b,a=some (ad b 0)/\S b/\b<w.heap.size/\∀i,i<n->w.cell? (ad b i)=some (f i)
theorem OV.mono {S':Nat->Prop} {w':World} {f:Nat->Value} (h:OV S w a n f) (hz:w.heap.size<=w'.heap.size) (hS:∀b,S b->b<w.heap.size->S' b/\w'.heap[b]?=w.heap[b]?):OV S' w' a n f:=by
 rcases h with h|⟨b,rfl,hs,hb,hc⟩;.exact Or.inl h
 .obtain⟨q1,q2⟩:=hS b hs hb;exact Or.inr ⟨b,rfl,q1,by omega,λi hi=>by rw[World.cell?_of_block (a:=(ad b i)) q2];exact hc i hi⟩
def Wg (S:Nat->Prop) (w:World) (x:Tn) (v0 v1 v2 v3:Value):Prop:=
 v0=.bool x.lf/\v3=iv x.ct/\∃ka kc da dc,v1=.slice ka x.kn kc/\v2=.slice da x.dn dc/\OV S w ka x.kn (λi=>.string (x.ks i))/\OV S w da x.dn (λi=>iv (x.kd i))
def Dq (S:Nat->Prop) (w:World) (n:Nat) (F:Nat->Tn) (xs:List Value):Prop:=
 xs.length=n*4/\∀i,i<n->∃v0 v1 v2 v3,xs[i*4]?=some v0/\xs[i*4+1]?=some v1/\xs[i*4+2]?=some v2/\xs[i*4+3]?=some v3/\Wg S w (F i) v0 v1 v2 v3
theorem Dq.mono {S S' : Nat->Prop} {w w' : World} {n:Nat} {F:Nat->Tn} {xs:List Value} (h:Dq S w n F xs) (hz:w.heap.size<=w'.heap.size) (hS:∀b,S b->b<w.heap.size->S' b/\w'.heap[b]?=w.heap[b]?):Dq S' w' n F xs:=by refine⟨h.1,λi hi=>?_⟩;obtain⟨v0,v1,v2,v3,h0,h1,h2,h3,e0,e3,ka,kc,da,dc,e1,e2,r1,r2⟩:=h.2 i hi;exact⟨v0,v1,v2,v3,h0,h1,h2,h3,e0,e3,ka,kc,da,dc,e1,e2,r1.mono hz hS,r2.mono hz hS⟩
def D9 (n:Nat) (F G:Nat->Tn) (i:Nat):Tn:=if i<n then F i else G (i-n)
theorem Dq.app {F G:Nat->Tn} (h:Dq S w n F xs) (g:Dq S w m G ys):Dq S w (n+m) (D9 n F G) (xs++ys):=by
 refine⟨by rw[WD,h.1,g.1];omega,λi hi=>?_⟩;by_cases e:i<n
 .obtain⟨v0,v1,v2,v3,h0,h1,h2,h3,hv⟩:=h.2 i e;have hl:=h.1;refine⟨v0,v1,v2,v3,?_,?_,?_,?_,by unfold D9;rw[if_pos e];exact hv⟩;.rw[List.getElem?_append_left (by omega)];exact h0
  .rw[List.getElem?_append_left (by omega)];exact h1
  .rw[List.getElem?_append_left (by omega)];exact h2
  .rw[List.getElem?_append_left (by omega)];exact h3
 .obtain⟨v0,v1,v2,v3,h0,h1,h2,h3,hv⟩:=g.2 (i-n) (by omega);have hl:=h.1;refine⟨v0,v1,v2,v3,?_,?_,?_,?_,by unfold D9;rw[if_neg e];exact hv⟩;.rw[List.getElem?_append_right (by omega),show i*4-xs.length=(i-n)*4 by omega];exact h0
  .rw[List.getElem?_append_right (by omega),show i*4+1-xs.length=(i-n)*4+1 by omega];exact h1
  .rw[List.getElem?_append_right (by omega),show i*4+2-xs.length=(i-n)*4+2 by omega];exact h2
  .rw[List.getElem?_append_right (by omega),show i*4+3-xs.length=(i-n)*4+3 by omega];exact h3
theorem Dq.one {F:Nat->Tn} {v0 v3:Value} (h:Wg S w (F 0) v0 v1 v2 v3):Dq S w 1 F [v0,v1,v2,v3]:=by
 refine⟨rfl,λi hi=>?_⟩;have e:i=0:=by omega
 subst e;exact⟨v0,v1,v2,v3,rfl,rfl,rfl,rfl,h⟩
theorem Dq.oneCell {F:Nat->Tn} (h:Dq S w n F xs):∀u∈xs,u.oneCell'=true:=by
 intro u hu;obtain⟨j,hg⟩:=List.mem_iff_getElem?.1 hu;have hj:=(List.getElem?_eq_some_iff.1 hg).1;have hl:=h.1;obtain⟨v0,v1,v2,v3,h0,h1,h2,h3,e0,e3,ka,kc,da,dc,e1,e2,_⟩:=h.2 (j / 4) (by omega);have h4:j=j / 4*4\/j=j / 4*4+1\/j=j / 4*4+2\/j=j / 4*4+3:=by omega
 rcases h4 with e|e|e|e;.rw[e,h0] at hg;injection hg with hg;rw[<- hg,e0];rfl
 .rw[e,h1] at hg;injection hg with hg;rw[<- hg,e1];rfl
 .rw[e,h2] at hg;injection hg with hg;rw[<- hg,e2];rfl
 .rw[e,h3] at hg;injection hg with hg;rw[<- hg,e3];rfl
theorem OV.rdS {X:Nat->ByteArray} (h:OV S w a n (λi=>.string (X i))):BE w a n X:=by
 rcases h with h|⟨b,rfl,_,_,hc⟩;.exact Or.inl h
 .exact Or.inr ⟨b,0,rfl,λi hi=>by rw[WM];exact hc i hi⟩
theorem OV.rdI {X:Nat->Int} (h:OV S w a n (λi=>iv (X i))):Rd .i64 w a n X:=by
 rcases h with h|⟨b,rfl,_,_,hc⟩;.exact Or.inl h
 .exact Or.inr ⟨b,0,rfl,λi hi=>by rw[WM];exact hc i hi⟩
theorem Dq.rd {g:Nat} {F:Nat->Tn} (h:Dq S w n F xs) (hc:∀j u,xs[j]?=some u->w.cell? (ad g j)=some u):Bk w (some (ad g 0)) n F:=by
 refine Or.inr ⟨g,0,rfl,λi hi=>?_⟩;obtain⟨v0,v1,v2,v3,h0,h1,h2,h3,e0,e3,ka,kc,da,dc,e1,e2,r1,r2⟩:=h.2 i hi;subst e0 e1 e2 e3;refine⟨ka,kc,da,dc,?_,?_,?_,?_,r1.rdS,r2.rdI⟩;.rw[WM];exact hc _ _ h0
 .rw[WM];exact hc _ _ h1
 .rw[WM];exact hc _ _ h2
 .rw[WM];exact hc _ _ h3
theorem GC {b1 b2:Nat} {e1 e2:TypeId} {s1 s2:Nat} {n1 n2:Nat} {x1 x2:List Value} (h1:w.ownsRow b1 e1 s1 v1 n1 x1) (h2:w.ownsRow b2 e2 s2 v2 n2 x2) (he:e1≠e2):∀g,v1.ownBlock=some g->v2.ownBlock≠some g:=by
 intro g hg1 hg2;rcases h1.2 with ⟨rfl,_⟩|⟨g',cap,cur,rfl,hb,hh,_⟩;.simp[Value.ownBlock] at hg1
 .simp[Value.ownBlock] at hg1;subst hg1;rcases h2.2 with ⟨rfl,_⟩|⟨g2,cap2,cur2,rfl,hb2,hh2,_⟩;.simp[Value.ownBlock] at hg2
  .simp[Value.ownBlock] at hg2;subst hg2;rw[hh] at hh2;injection hh2 with q;injection q with _ q _;exact he q
def JF (L:List Int):List Value:=L.map (.int .i64)
theorem QE (L M:List Int):JF (L++M)=JF L++JF M:=by simp[JF]
theorem Qe (L:List Int) (i:Nat) (h:i<L.length):(JF L)[i]?=some (iv (gi L i)):=by simp[JF,gi,WA,h]
theorem Rq (L:List ByteArray) (i:Nat) (h:i<L.length):(AC L)[i]?=some (.string (gt L i)):=by simp[AC,gt,WA,h]
theorem Ej {base:Nat} {e:TypeId} {size:Nat} {v:Value} (h:w.ownsRow base e size v n xs) (p:Addr) (u:Value) (hp:p.block<base):(w.setCell p u).ownsRow base e size v n xs:=by
 refine⟨h.1,?_⟩;rcases h.2 with q|⟨g,cap,cur,q1,q2,q3,q4⟩;.exact Or.inl q
 .refine Or.inr ⟨g,cap,cur,q1,q2,?_,q4⟩;rw[Wv _ _ _ _ (show g≠p.block from by omega)];exact q3
def SS (nb:Nat) (v1 v2 v3:Value) (b:Nat):Prop:=nb+1<=b/\v1.ownBlock≠some b/\v2.ownBlock≠some b/\v3.ownBlock≠some b
structure CZ (w wr:World) (nb:Nat) (Ft:Array Value) (ct:Int) (ka:Option Addr) (kn kc:Nat) (da:Option Addr) (dn dc:Nat) (ra:Option Addr) (rn rc:Nat) (Lk:List ByteArray) (Dk:List Int) (R:Nat->Tn) (xs:List Value):Prop where
 tb:Bx wr w.heap.size 134 Ft
 nbx:Bx wr nb 267 #[.bool false,.slice ka kn kc,.slice da dn dc,iv ct]
 lt:w.heap.size<nb
 own1:wr.ownsRow (nb+1) 9 1 (.slice ka kn kc) kn (AC Lk)
 own2:wr.ownsRow (nb+1) 2 1 (.slice da dn dc) dn (JF Dk)
 own3:wr.ownsRow (nb+1) 267 4 (.slice ra rn rc) rn xs
 fl:Dq (SS nb (.slice ka kn kc) (.slice da dn dc) (.slice ra rn rc)) wr rn R xs
 bel:Bl w wr
section
variable {w wr w1 W2 w5:World} {nb:Nat} {Ft:Array Value} {ct:Int} {ka:Option Addr} {kn kc:Nat} {da:Option Addr} {dn dc:Nat} {ra:Option Addr} {rn rc:Nat} {Lk:List ByteArray} {Dk:List Int} {R:Nat->Tn} {xs:List Value}
theorem CZ.below (h:CZ w wr nb Ft ct ka kn kc da dn dc ra rn rc Lk Dk R xs) (hb:Bl wr w1):CZ w w1 nb Ft ct ka kn kc da dn dc ra rn rc Lk Dk R xs:=
 ⟨h.tb.below hb,h.nbx.below hb,h.lt,Al h.own1 hb,Al h.own2 hb,Al h.own3 hb,h.fl.mono hb.size (λb hs hlt=>⟨hs,hb.block b hlt⟩),h.bel.trans (hb.mono h.bel.size)⟩
theorem CZ.growD (h:CZ w wr nb Ft ct ka kn kc da dn dc ra rn rc Lk Dk R xs) (hg:wr.grownBy w5 (Value.slice da dn dc).ownBlock) {D':List Int} (ho:w5.ownsRow (nb+1) 2 1 (.slice a' (dn+1) c') (dn+1) (JF D')) (hat:(Value.slice a' (dn+1) c').ownBlock=(Value.slice da dn dc).ownBlock\/(Value.slice a' (dn+1) c').ownBlock=some wr.heap.size) :
  CZ w (w5.setCell (ad nb 2) (.slice a' (dn+1) c')) nb Ft ct ka kn kc a' (dn+1) c' ra rn rc Lk D' R xs:=by
 have hl:=Aw h.own2;have l1:=h.lt;have l2:=h.nbx.lt;have hz:=hg.size;refine⟨(h.tb.grown hg (λe=>by have:=hl _ e;omega)).other (by simp;omega) _,(h.nbx.grown hg (λe=>by have:=hl _ e;omega)).set 2 _,h.lt,Ej (h.own1.kept hg ?_) _ _ (by simp),Ej ho _ _ (by simp),Ej (h.own3.kept hg ?_) _ _ (by simp),?_,(h.bel.grown hg (by have:=h.bel.size;omega) (λg e=>by have:=hl g e;omega)).setCell (by simp;omega) _⟩
 .cases e:(Value.slice ka kn kc).ownBlock with
  | none=>exact Or.inl rfl
  | some g=>exact Or.inr (λq=>GC h.own1 h.own2 (by decide) g e q.symm)
 .cases e:(Value.slice ra rn rc).ownBlock with
  | none=>exact Or.inl rfl
  | some g=>exact Or.inr (λq=>GC h.own3 h.own2 (by decide) g e q.symm)
 .refine h.fl.mono (by simpa[World.setCell] using hz) (λb hs hlt=>⟨⟨hs.1,hs.2.1,?_,hs.2.2.2⟩,?_⟩)
  .rcases hat with e|e;.rw[e];exact hs.2.2.1
   .rw[e];intro q;injection q with q;omega
  .rw[Wv _ _ _ _ (show b≠nb from by have:=hs.1;omega)];exact hg.block b hlt (λe=>hs.2.2.1 e.symm)
theorem CZ.growK (h:CZ w wr nb Ft ct ka kn kc da dn dc ra rn rc Lk Dk R xs) (hg:wr.grownBy w5 (Value.slice ka kn kc).ownBlock) {L':List ByteArray} (ho:w5.ownsRow (nb+1) 9 1 (.slice a' (kn+1) c') (kn+1) (AC L')) (hat:(Value.slice a' (kn+1) c').ownBlock=(Value.slice ka kn kc).ownBlock\/(Value.slice a' (kn+1) c').ownBlock=some wr.heap.size) :
  CZ w (w5.setCell (ad nb 1) (.slice a' (kn+1) c')) nb Ft ct a' (kn+1) c' da dn dc ra rn rc L' Dk R xs:=by
 have hl:=Aw h.own1;have l1:=h.lt;have l2:=h.nbx.lt;have hz:=hg.size;refine⟨(h.tb.grown hg (λe=>by have:=hl _ e;omega)).other (by simp;omega) _,(h.nbx.grown hg (λe=>by have:=hl _ e;omega)).set 1 _,h.lt,Ej ho _ _ (by simp),Ej (h.own2.kept hg ?_) _ _ (by simp),Ej (h.own3.kept hg ?_) _ _ (by simp),?_,(h.bel.grown hg (by have:=h.bel.size;omega) (λg e=>by have:=hl g e;omega)).setCell (by simp;omega) _⟩
 .cases e:(Value.slice da dn dc).ownBlock with
  | none=>exact Or.inl rfl
  | some g=>exact Or.inr (λq=>GC h.own2 h.own1 (by decide) g e q.symm)
 .cases e:(Value.slice ra rn rc).ownBlock with
  | none=>exact Or.inl rfl
  | some g=>exact Or.inr (λq=>GC h.own3 h.own1 (by decide) g e q.symm)
 .refine h.fl.mono (by simpa[World.setCell] using hz) (λb hs hlt=>⟨⟨hs.1,?_,hs.2.2.1,hs.2.2.2⟩,?_⟩)
  .rcases hat with e|e;.rw[e];exact hs.2.1
   .rw[e];intro q;injection q with q;omega
  .rw[Wv _ _ _ _ (show b≠nb from by have:=hs.1;omega)];exact hg.block b hlt (λe=>hs.2.1 e.symm)
theorem CZ.growR (h:CZ w wr nb Ft ct ka kn kc da dn dc ra rn rc Lk Dk R xs) (hb:Bl wr w1) (hg:w1.grownBy w5 (Value.slice ra rn rc).ownBlock) {G:Nat->Tn} (hf:Dq (λb=>wr.heap.size<=b) w1 m G ys) (ho:w5.ownsRow (nb+1) 267 4 (.slice a' (rn+m) c') (rn+m) (xs++ys)) (hat:(Value.slice a' (rn+m) c').ownBlock=(Value.slice ra rn rc).ownBlock\/(Value.slice a' (rn+m) c').ownBlock=some w1.heap.size) :
  CZ w w5 nb Ft ct ka kn kc da dn dc a' (rn+m) c' Lk Dk (D9 rn R G) (xs++ys):=by
 have h1:=h.below hb;have hl:=Aw h.own3;have l1:=h.lt;have l2:=h.nbx.lt;have hz:=hg.size;have hz1:=hb.size;have hkk:=Aw h.own1;have hdd:=Aw h.own2;refine⟨h1.tb.grown hg (λe=>by have:=hl _ e;omega),h1.nbx.grown hg (λe=>by have:=hl _ e;omega),h.lt,h1.own1.kept hg ?_,h1.own2.kept hg ?_,ho,?_,h1.bel.grown hg (by have:=h1.bel.size;omega) (λg e=>by have:=hl g e;omega)⟩
 .cases e:(Value.slice ka kn kc).ownBlock with
  | none=>exact Or.inl rfl
  | some g=>exact Or.inr (λq=>GC h.own1 h.own3 (by decide) g e q.symm)
 .cases e:(Value.slice da dn dc).ownBlock with
  | none=>exact Or.inl rfl
  | some g=>exact Or.inr (λq=>GC h.own2 h.own3 (by decide) g e q.symm)
 .refine Dq.app (h1.fl.mono hz (λb hs hlt=>⟨⟨hs.1,hs.2.1,hs.2.2.1,?_⟩,hg.block b hlt (λe=>hs.2.2.2 e.symm)⟩)) (hf.mono hz (λb hs hlt=>⟨⟨by omega,λe=>by have:=hkk _ e;omega,λe=>by have:=hdd _ e;omega,?_⟩,hg.block b hlt (λe=>by have:=hl _ e.symm;omega)⟩))
  .rcases hat with e|e;.rw[e];exact hs.2.2.2
   .rw[e];intro q;injection q with q;omega
  .rcases hat with e|e;.rw[e];intro q;have:=hl _ q;omega
   .rw[e];intro q;injection q with q;omega
end
def EY (w:World) (d:Nat) (t:Ro d) (a:Int) (e:Ending) (w' : World):Prop:=
 ∃ra rc G xs,e=.returned (.slice ra (Ad d t) rc)/\Bl w w'/\w'.ownsRow w.heap.size 267 4 (.slice ra (Ad d t) rc) (Ad d t) xs/\Dq (λb=>w.heap.size<=b) w' (Ad d t) G xs/\AJ G a d t 0
end Go.Proofs.YtacpbofiipdodaaGreat
