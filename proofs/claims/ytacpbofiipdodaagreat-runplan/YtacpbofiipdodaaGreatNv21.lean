import Derived.Test.YtacpbofiipdodaaGreatNv15
set_option linter.unusedVariables false
set_option linter.unusedSimpArgs false
set_option maxRecDepth 100000
set_option maxHeartbeats 90000000
namespace Go.Proofs.YtacpbofiipdodaaGreat
open Go Go.Deep Go.RowKit
def Jh (w:World) (v:Value) (key:ByteArray) (r:Nat):Prop:=
 (∃p,v=.iface 306 (.pointer (some p))/\WS 230 #[.pointer (some p),.string key] w λe w'=>e=.returned (iv (r:Int))/\w'=w)\/
 (∃p,v=.iface 311 (.pointer (some p))/\WS 240 #[.pointer (some p),.string key] w λe w'=>e=.returned (iv (r:Int))/\w'=w)
theorem Rr (key:ByteArray) (w:World) (S:Nat->Prop):∀(d:Nat) (t:Ro d) (v:Value) (root:Bool) (h:Nat),Ei S w d t v->Br d root t h->DE (Ab d t)->(Ab d t).length<=1048576->Jh w v key (Bz key (Ab d t)):=by
 intro d;induction d with
 | zero=>intro t;exact t.elim
 | succ d ih=>
  intro t v root h ht hb ha hlen;rcases t with t|l;.obtain⟨b,ka,kc,rfl,_,hx,hr⟩:=ht;exact Or.inl ⟨_,rfl,KI b t.length kc ka _ t key w hx hr.rdS rfl hlen ha⟩
  .have ht2:=ht;obtain⟨b,g,kc,xs,rfl,_,hx,_,hgl,hl,hc,hk⟩:=ht2;obtain⟨hb1,hb2,h',_,hall⟩:=hb;refine Or.inr ⟨_,rfl,?_⟩;have ha' : DE (l.flatMap (Ab d)):=ha;have hlen' : (l.flatMap (Ab d)).length<=1048576:=hlen;have HKf:=hid (Je d b l S h' key w ht hall hb2);have HRk:U (∀k (hk:k<l.length),∃u,w.cell? (ad g k)=some u/\Jh w u key (Bz key (Ab d l[k]))):=by intro k hkl;obtain⟨u,hu,hut⟩:=hk k hkl;exact⟨u,hc k u hu,ih l[k] u false h' hut (hall _ (WE hkl)) (Oh ha' k hkl) (by have:=Bo d l k hkl;omega)⟩
   have HCt:U (∀k (hk:k<l.length),∃u bb,w.cell? (ad g k)=some u/\w.cell? (ad bb 0)=some (iv ((Ab d l[k]).length:Int))/\(u=.iface 306 (pt bb)\/u=.iface 311 (pt bb))):=by intro k hkl;obtain⟨u,hu,hut⟩:=hk k hkl;obtain⟨bb,_,_,q1,q2⟩:=hut.count;exact⟨u,bb,hc k u hu,q1,q2⟩
   have HMath:U (∀i (hi:i<l.length),(∀h:i<l.length,0<i->Op.bytesLess key.toList (gt (Ab d l[i]) 0).toList=false)->(∀h:i+1<l.length,Op.bytesLess key.toList (gt (Ab d l[i+1]) 0).toList=true)->Bz key (l.flatMap (Ab d))=((l.take i).flatMap (Ab d)).length+Bz key (Ab d l[i])):=λi hi q1 q2=>PU hi ha' (λk hk=>Ee (hall _ (WE hk))) (λh0=>q1 hi h0) q2;have HLe:=hid hlen';have c1:=hx.cell 1;simp at c1;obtain⟨ln,hln⟩:=gn l.length;obtain⟨_,hcap,hcapm⟩:=hgl;rw[<- hln] at c1 hl hb2 hcap;have HLn:=hid hln;clear hx hc hk hall ih ht ha hlen ha' hlen' hln hb1;have HGoal:U (Bz key (Ab (d+1) (.inr l))=Bz key (l.flatMap (Ab d))):=rfl;go_enter Tryz.func240,Tryz.ntmps240;go_wp2_with fail
   refine HKf.o.mono ?_;rintro e w1 ⟨i,rfl,rfl,hi,q1,q2⟩;have HM:U (Bz key (l.flatMap (Ab d))=((l.take i).flatMap (Ab d)).length+Bz key (Ab d l[i])):=HMath.o i hi q1 q2;obtain⟨u,hu,hrank⟩:=HRk.o i hi;have hin:i<ln:=by rw[HLn.o];exact hi
   have i0:(0:Int)<=(i:Int):=by omega
   have i1:(i:Int)<(ln:Int):=by omega
   have ic:(i:Int)<=(kc:Int):=by omega
   have icn:i<=kc:=by omega
   obtain⟨R,hR⟩:∃R,R=Bz key (Ab d l[i]):=⟨_,rfl⟩;rw[<- hR] at hrank;have HR:U (R=Bz key (Ab d l[i])/\R<=1048576):=by refine⟨hR,?_⟩;have h1:Bz key (Ab d l[i])<=(Ab d l[i]).length:=List.length_filter_le _ _;have h2:=Bo d l i hi;have:=HLe.o;omega
   have hRb:=HR.o.2;clear q1 q2 HKf HMath HRk hR;rcases hrank with ⟨p,rfl,hcall⟩|⟨p,rfl,hcall⟩
   .have HC:=hid hcall;clear hcall;go_wp2_with fail
    refine HC.o.mono ?_;rintro e w2 ⟨rfl,rfl⟩;go_wp2;go_loopw [6,28] (λq k wr=>∃j A:Nat,j<=i/\k=iv j/\q=iv (A:Int)/\A=R+((l.take j).flatMap (Ab d)).length/\wr=w2) (λ_ k _=>i-(intOf k).toNat)
    case atStart=>exact⟨0,R,Ww _,rfl,rfl,by simp,rfl⟩
    case round=>
     obtain⟨j,A,hj,rfl,rfl,hA,rfl⟩:=hrel;have HA:=hid hA;have hAb:A<=4194304:=by have:=By (Ab d) l j;have:=HLe.o;omega
     clear hA;by_cases hlt:j<i
     .have hjl:j<l.length:=by omega
      obtain⟨u,bb,hcu,hcc,hform⟩:=HCt.o j hjl;have j0:(0:Int)<=(j:Int):=by omega
      have j1:(j:Int)<(i:Int):=by omega
      obtain⟨C,hC⟩:=gn ((Ab d l[j]).length);rw[<- hC] at hcc;have HC2:=hid hC;have hCb:C<=1048576:=by have:=Bo d l j hjl;have:=HLe.o;omega
      have HN:U (A+C=R+((l.take (j+1)).flatMap (Ab d)).length):=by show A+C=R+((l.take (j+1)).flatMap (Ab d)).length;rw[CE l j hjl,HA.o,HC2.o];omega
      clear hC;have HB:=hid (BK bb (C:Int) wr hcc);rcases hform with rfl|rfl
      .go_wp2_with fail
       refine HB.o.mono ?_;rintro e w3 ⟨rfl,rfl⟩;go_wp2;go_roundw;case rel=>exact⟨j+1,A+C,by omega,by go_num,by go_num,HN.o,trivial⟩
       case measure=>simp[intOf];omega
      .go_wp2_with fail
       refine HB.o.mono ?_;rintro e w3 ⟨rfl,rfl⟩;go_wp2;go_roundw;case rel=>exact⟨j+1,A+C,by omega,by go_num,by go_num,HN.o,trivial⟩
       case measure=>simp[intOf];omega
     .have e:j=i:=by omega
      subst e;have hjf:¬ (j:Int)<(j:Int):=by omega
      have HEnd:U (Bz key (Ab (d+1) (.inr l))=A):=by show Bz key (Ab (d+1) (.inr l))=A;rw[HGoal.o,HM.o,HA.o,HR.o.1];omega
      go_wp2;go_ret;exact⟨by rw[HEnd.o];rfl,rfl⟩
   .have HC:=hid hcall;clear hcall;go_wp2_with fail
    refine HC.o.mono ?_;rintro e w2 ⟨rfl,rfl⟩;go_wp2;go_loopw [6,28] (λq k wr=>∃j A:Nat,j<=i/\k=iv j/\q=iv (A:Int)/\A=R+((l.take j).flatMap (Ab d)).length/\wr=w2) (λ_ k _=>i-(intOf k).toNat)
    case atStart=>exact⟨0,R,Ww _,rfl,rfl,by simp,rfl⟩
    case round=>
     obtain⟨j,A,hj,rfl,rfl,hA,rfl⟩:=hrel;have HA:=hid hA;have hAb:A<=4194304:=by have:=By (Ab d) l j;have:=HLe.o;omega
     clear hA;by_cases hlt:j<i
     .have hjl:j<l.length:=by omega
      obtain⟨u,bb,hcu,hcc,hform⟩:=HCt.o j hjl;have j0:(0:Int)<=(j:Int):=by omega
      have j1:(j:Int)<(i:Int):=by omega
      obtain⟨C,hC⟩:=gn ((Ab d l[j]).length);rw[<- hC] at hcc;have HC2:=hid hC;have hCb:C<=1048576:=by have:=Bo d l j hjl;have:=HLe.o;omega
      have HN:U (A+C=R+((l.take (j+1)).flatMap (Ab d)).length):=by show A+C=R+((l.take (j+1)).flatMap (Ab d)).length;rw[CE l j hjl,HA.o,HC2.o];omega
      clear hC;have HB:=hid (BK bb (C:Int) wr hcc);rcases hform with rfl|rfl
      .go_wp2_with fail
       refine HB.o.mono ?_;rintro e w3 ⟨rfl,rfl⟩;go_wp2;go_roundw;case rel=>exact⟨j+1,A+C,by omega,by go_num,by go_num,HN.o,trivial⟩
       case measure=>simp[intOf];omega
      .go_wp2_with fail
       refine HB.o.mono ?_;rintro e w3 ⟨rfl,rfl⟩;go_wp2;go_roundw;case rel=>exact⟨j+1,A+C,by omega,by go_num,by go_num,HN.o,trivial⟩
       case measure=>simp[intOf];omega
     .have e:j=i:=by omega
      subst e;have hjf:¬ (j:Int)<(j:Int):=by omega
      have HEnd:U (Bz key (Ab (d+1) (.inr l))=A):=by show Bz key (Ab (d+1) (.inr l))=A;rw[HGoal.o,HM.o,HA.o,HR.o.1];omega
      go_wp2;go_ret;exact⟨by rw[HEnd.o];rfl,rfl⟩
def We (w:World) (n:Nat) (N:Nat->Tn) (key:ByteArray) (e:Ending) (w' : World):Prop:=
 ∃r:Nat,e=.returned (iv (r:Int))/\Bl w w'/\((∃t,Dv n N t/\r=Bz key (Ab 21 t))\/(¬ VT n N/\r=0))
variable {L:List ByteArray}{hi lo:ByteArray}
def O9 (lo hi k:ByteArray):Bool:=!(Op.bytesLess k.toList lo.toList) && (hi.toList.isEmpty || Op.bytesLess k.toList hi.toList)
def Bp (lo hi:ByteArray) (L:List ByteArray):List ByteArray:=L.filter (O9 lo hi)
theorem KE (lo hi:ByteArray) (L M:List ByteArray):Bp lo hi (L++M)=Bp lo hi L++Bp lo hi M:=List.filter_append ..
theorem Ry (lo hi:ByteArray) (L:List ByteArray):(Bp lo hi L).length<=L.length:=List.length_filter_le _ _
theorem RH {k:Nat} (h:k<L.length):Bp lo hi (L.take (k+1))=Bp lo hi (L.take k)++(if O9 lo hi (gt L k)=true then [gt L k] else []):=by rw[Fp h,KE];congr 1;unfold Bp;rw[List.filter_cons,List.filter_nil]
theorem Mx (h:∀k,k∈L->O9 lo hi k=false):Bp lo hi L=[]:=by unfold Bp;rw[List.filter_eq_nil_iff];intro k hk;rw[h k hk];simp
def Iw (B:Nat) (w:World) (L:List ByteArray) (e:Ending) (w' : World):Prop:=
 ∃a c,e=.returned (.slice a L.length c)/\w'.ownsRow B 9 1 (.slice a L.length c) L.length (AC L)/\Below B w w'
theorem MU (B b n kc:Nat) (ka:Option Addr) (v0:Value) (L L0:List ByteArray) (lo hi:ByteArray) (a0:Option Addr) (n0 c0:Nat) (w:World) (hx:Bx w b 310 #[v0,.slice ka n kc]) (hbB:b<B) (hr:∀W:World,Below B w W->BE W ka n (gt L)) (hn:n=L.length) (hn2:n<=1048576) (h0:w.ownsRow B 9 1 (.slice a0 n0 c0) n0 (AC L0)) (hn0:n0=L0.length) (hn3:n0<=1073741824) (hB:B<=w.heap.size) :
  WS 227 #[pt b,.slice a0 n0 c0,.string lo,.string hi] w (Iw B w (L0++Bp lo hi L)):=by
 have HR:=hid (ai hr hn);have H0:=hid (ai h0 hn0);have c1:=hx.cell 1;simp at c1;clear hx hr hn h0 hn0;go_enter Tryz.func227,Tryz.ntmps227;go_wp2;go_loopw [1,16] (λq i wr=>∃(k m:Nat) (a:Option Addr) (c:Nat),k<=n/\i=iv k/\q=.slice a m c/\m=(L0++Bp lo hi (L.take k)).length/\wr.ownsRow B 9 1 (.slice a m c) m (AC (L0++Bp lo hi (L.take k)))/\Below B w wr) (λ_ i _=>n-(intOf i).toNat)
 case atStart=>exact⟨0,n0,a0,c0,Ww _,rfl,rfl,by simp[Bp,H0.o.2],by simpa[Bp] using H0.o.1,Wt _ _⟩
 case round=>
  obtain⟨k,m,a,c,hk,rfl,rfl,hm,hown,hbel⟩:=hrel;clear c1;have HS:U (m=(L0++Bp lo hi (L.take k)).length/\wr.ownsRow B 9 1 (.slice a m c) m (AC (L0++Bp lo hi (L.take k)))/\Below B w wr):=⟨hm,hown,hbel⟩;have hmb:m<=2147483648:=by rw[WD] at hm;have h1:=Ry lo hi (L.take k);have h2:(L.take k).length<=L.length:=List.length_take_le' _ _;have:=HR.o.2;have:=H0.o.2;omega
  have hz:=hbel.size;clear hm hown hbel;by_cases hlt:k<n
  .have hlk:k<L.length:=by rw[<- HR.o.2];exact hlt
   rcases HR.o.1 wr HS.o.2.2 with q|⟨b3,o3,rfl,hc3⟩;.omega
   have s1:=hc3 k hlt;have i0:(0:Int)<=(k:Int):=by omega
   have i1:(k:Int)<(n:Int):=by omega
   have htk:=RH (lo:=lo) (hi:=hi) hlk;have hbz:b<wr.heap.size:=by omega
   clear hc3;have htot:=BR (gt L k).toList lo.toList;have HYes:O9 lo hi (gt L k)=true->U (∀(v' : Value) (w5:World),w5.ownsRow B 9 1 v' (m+1) (AC (L0++Bp lo hi (L.take k))++[.string (gt L k)])->w5.ownsRow B 9 1 v' (m+1) (AC (L0++Bp lo hi (L.take (k+1))))/\m+1=(L0++Bp lo hi (L.take (k+1))).length):=by
    intro hin v' w5 ho;rw[htk,hin,if_pos rfl,<- List.append_assoc];constructor;.rw[CL];exact ho
    .rw[WD,<- HS.o.1];rfl
   have HNot:O9 lo hi (gt L k)=false->U (m=(L0++Bp lo hi (L.take (k+1))).length/\wr.ownsRow B 9 1 (.slice a m c) m (AC (L0++Bp lo hi (L.take (k+1))))/\Below B w wr):=by intro hin;rw[htk,hin,if_neg (by simp),List.append_nil];exact HS.o
   obtain⟨i9,hi9,hz0,hz1,hz2⟩:=info_parts Tryz.info9;have HI:U (Tryz.prog.info? 9=some i9/\i9.zero=some (.string { data:=#[] })/\i9.size=1/\i9.bytes=16):=⟨hi9,hz0,hz1,hz2⟩;clear hi9 hz0 hz1 hz2 htk;have HO:U ((wr.alloc (.cells #[.string (gt L k)] 9)).ownsRow B 9 1 (.slice a m c) m (AC (L0++Bp lo hi (L.take k)))):=Al HS.o.2.1 (Aa _ _);cases hl:Op.bytesLess (gt L k).toList lo.toList with
   | true=>
    rw[hl] at htot;have ht2:=htot;have HN:=HNot (by unfold O9;rw[hl];rfl);clear htot HYes HNot;go_wp2;go_roundw;case rel=>exact⟨k+1,m,a,c,by omega,by go_num,rfl,HN.o⟩
    case measure=>simp[intOf];omega
   | false=>
    rw[hl] at htot;have ht2:=htot;by_cases hem:hi.toList=[]
    .have HY:=HYes (by unfold O9;rw[hl,hem];rfl);clear htot HYes HNot;go_wp2_with (at_builtin;refine wpList_append_own_at _ rfl _ _ 35 rfl B 9 i9 _ 1 16 Tryz.underlying35 HI.o.1 HI.o.2.1 HI.o.2.2.1 HI.o.2.2.2 rfl (by decide) (.slice a m c) m _ rfl HO.o (ad wr.heap.size 0) 1 1 [.string (gt L k)] rfl rfl (cell_one_new _ _ _) (by intro u hu;simp at hu;subst hu;rfl) (by unfold maxLen;omega) (by omega) (by simp;omega) ?_)
     intro v' w5 ho hg _ hat;have HB5:=hid ((HS.o.2.2.trans ((Aa _ _).mono (by omega))).grown hg (by simp;omega) (λg e=>(Aw HS.o.2.1 g e).1));obtain⟨q1,q2⟩:=HY.o v' w5 ho;obtain⟨a5,c5,rfl,_⟩:=Ap ho;have HX:=hid (ai q2 (ai q1 HB5.o));clear ho hg hat q1 q2 HO;go_wp2;go_roundw;case rel=>exact⟨k+1,m+1,a5,c5,by omega,by go_num,rfl,HX.o⟩
     case measure=>simp[intOf];omega
    .have hem' : hi.toList.isEmpty=false:=by simpa using hem
     cases hh:Op.bytesLess (gt L k).toList hi.toList with
     | true=>
      have HY:=HYes (by unfold O9;rw[hl,hh];simp);clear htot HYes HNot;go_wp2_with (at_builtin;refine wpList_append_own_at _ rfl _ _ 35 rfl B 9 i9 _ 1 16 Tryz.underlying35 HI.o.1 HI.o.2.1 HI.o.2.2.1 HI.o.2.2.2 rfl (by decide) (.slice a m c) m _ rfl HO.o (ad wr.heap.size 0) 1 1 [.string (gt L k)] rfl rfl (cell_one_new _ _ _) (by intro u hu;simp at hu;subst hu;rfl) (by unfold maxLen;omega) (by omega) (by simp;omega) ?_)
      intro v' w5 ho hg _ hat;have HB5:=hid ((HS.o.2.2.trans ((Aa _ _).mono (by omega))).grown hg (by simp;omega) (λg e=>(Aw HS.o.2.1 g e).1));obtain⟨q1,q2⟩:=HY.o v' w5 ho;obtain⟨a5,c5,rfl,_⟩:=Ap ho;have HX:=hid (ai q2 (ai q1 HB5.o));clear ho hg hat q1 q2 HO;go_wp2;go_roundw;case rel=>exact⟨k+1,m+1,a5,c5,by omega,by go_num,rfl,HX.o⟩
      case measure=>simp[intOf];omega
     | false=>
      have HN:=HNot (by unfold O9;rw[hl,hh];simp[hem]);clear htot HYes HNot;go_wp2;go_roundw;case rel=>exact⟨k+1,m,a,c,by omega,by go_num,rfl,HN.o⟩
      case measure=>simp[intOf];omega
  .have e:k=n:=by omega
   subst e;have HE:U (L.take k=L):=by show L.take k=L;rw[HR.o.2,WG]
   go_wp2;go_ret;have q:=HS.o;rw[HE.o] at q;refine⟨a,c,by rw[<- q.1];rfl,by rw[<- q.1];exact q.2.1,q.2.2⟩
end Go.Proofs.YtacpbofiipdodaaGreat
