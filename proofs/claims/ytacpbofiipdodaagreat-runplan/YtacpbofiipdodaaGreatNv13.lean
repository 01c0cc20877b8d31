import Derived.Test.YtacpbofiipdodaaGreatNv11
set_option linter.unusedVariables false
set_option linter.unusedSimpArgs false
set_option maxRecDepth 100000
set_option maxHeartbeats 90000000
namespace Go.Proofs.YtacpbofiipdodaaGreat
open Go Go.Deep Go.RowKit
theorem Ec {x:Tn} {t:List ByteArray} (h1:x.kn=t.length) (h2:∀j,j<t.length->x.ks j=gt t j):t=JB x:=by
 apply List.ext_getElem?;intro i;by_cases h:i<t.length;.unfold JB;rw[Wx h];have:=h2 i h;unfold gt at this;rw[WA,Wx h] at this;simp only[Option.getD_some] at this;simp[h1,h,this]
 .rw[List.getElem?_eq_none (by omega),List.getElem?_eq_none (by rw[Be];omega)]
theorem PA {N:Nat->Tn} {n x:Nat} {dep D:Int} {hk:Bool} {lk:ByteArray} {d:Nat} {t:Ro (d+1)} {D' : Int} {hk' : Bool} {lk' : ByteArray} (hlf:(N x).lf=true) (h:Cg N n x dep D hk lk (d+1) t D' hk' lk') :
  (N x).kn<=4/\(dep=0\/2<=(N x).kn)/\(N x).dn=0/\(D=0\/D=dep)/\AI hk lk (JB (N x)) hk' lk'/\(N x).ct=((N x).kn:Int):=by
 rcases t with t|l
 .obtain⟨q1,q2,q3,q4,q5⟩:=h.tl;obtain⟨hh,⟨b1,b2,b3⟩,b4⟩:=h.bal;have e:=Ec q2 q3;subst b1;have hd:=h.dd;rw[b4] at hd;have ha:=h.asc;rw[e] at ha;refine⟨by omega,?_,q4,by simpa using hd,ha,by rw[q5,q2]⟩;rcases b3 with b3|b3;.exact Or.inl (by simpa using b3)
  .exact Or.inr (by omega)
 .have:=h.tl.1;rw[hlf] at this;cases this
theorem Kh (N:Nat->Tn) (rb b o n c x:Nat) (dep D:Int) (hk:Bool) (lk:ByteArray) (d:Nat) (w:World) (ka da:Option Addr) (kc dc:Nat) (h:CS w rb b o n c (x+1) D lk hk) (hx:x<n) (hlf:(N x).lf=true) (hfit:Bf (N x)) (hK:∀W:World,Below rb w W->BE W ka (N x).kn (N x).ks) (hd0:0<=dep) :
  WS 164 #[pt rb,.agg #[.bool true,.slice ka (N x).kn kc,.slice da (N x).dn dc,iv (N x).ct],iv dep] w (DZ N rb b o n c x dep D hk lk (d+1) w):=by
 have HR:U (CS w rb b o n c (x+1) D lk hk):=h;have hrl:=h.lt;have HK:U (∀W:World,Below rb w W->BE W ka (N x).kn (gt (JB (N x)))):=λW hW=>(hK W hW).congr (λj hj=>(Np (N x) j hj).symm);have HGL:U (∀(t:Ro (d+1)) D' hk' lk',Cg N n x dep D hk lk (d+1) t D' hk' lk'->(N x).kn<=4/\(dep=0\/2<=(N x).kn)/\(N x).dn=0/\(D=0\/D=dep)/\AI hk lk (JB (N x)) hk' lk'/\(N x).ct=((N x).kn:Int)):=λt D' hk' lk' g=>PA hlf g;have hm2:(N x).kn<=1048576:=hfit.1;have hd2:(N x).dn<=1048576:=hfit.2;have HML:U ((N x).kn=(JB (N x)).length):=(Be _).symm;have HYes:U (∀hk' lk',(N x).kn<=4->(dep=0\/2<=(N x).kn)->(N x).dn=0->(D=0\/D=dep)->AI hk lk (JB (N x)) hk' lk'->(N x).ct=((N x).kn:Int)->Cg N n x dep D hk lk (d+1) (.inl (JB (N x))) dep hk' lk'):=by
  intro hk' lk' a1 a2 a3 a4 a5 a6;refine⟨⟨hlf,(Be _).symm,λj hj=>(Np _ _ (by rw[Be] at hj;exact hj)).symm,a3,by rw[Be];exact a6⟩,?_,⟨0,⟨rfl,by rw[Be];exact a1,?_⟩,by simp⟩,a4,a5⟩;.have:Ad (d+1) (.inl (JB (N x)))=1:=rfl;omega
  .rw[Be];rcases a2 with a2|a2;.exact Or.inl (by simpa using a2)
   .exact Or.inr a2
 clear h hK hlf hfit;generalize (N x).kn=m at HK HGL hm2 HML HYes ⊢;generalize (N x).dn=dn at HGL hd2 HYes ⊢;generalize (N x).ct=ct at HGL HYes ⊢;generalize JB (N x)=L at HK HGL HML HYes ⊢;have HNo:U (∀w' : World,w.grownBy w' (some rb)->¬ (∃(t:Ro (d+1)) (D' : Int) (hk' : Bool) (lk' : ByteArray),Cg N n x dep D hk lk (d+1) t D' hk' lk')->∀v,DZ N rb b o n c x dep D hk lk (d+1) w (.returned (.tuple #[v,.bool false])) w'):=λw' hg hn v=>⟨hg,v,false,rfl,Or.inr ⟨rfl,hn⟩⟩;by_cases h4:4<m
 .have i4:(4:Int)<(m:Int):=by omega
  have i4' : decide ((4:Int)<(m:Int))=true:=decide_eq_true i4;have n4' : decide (4<m)=true:=decide_eq_true h4;go_enter Tryz.func164,Tryz.ntmps164;go_wp2;refine bodyPost_ret (v:=.tuple #[.nilIface,.bool false]) (by simp[results,Tryz.results164,go_sem]) rfl (HNo.o _ (Ak (Aa _ _)) (λ⟨t,D',hk',lk',g⟩=>by have:=HGL.o t D' hk' lk' g;omega) _)
 .have i4:¬ (4:Int)<(m:Int):=by omega
  have i4' : decide ((4:Int)<(m:Int))=false:=decide_eq_false i4;have n4' : decide (4<m)=false:=decide_eq_false h4;by_cases h2:m<2/\0<dep
  .have i2:(m:Int)<2:=by omega
   have i2' : decide ((m:Int)<2)=true:=decide_eq_true i2;have n2' : decide (m<2)=true:=decide_eq_true h2.1;have id:(0:Int)<dep:=h2.2;have id' : decide ((0:Int)<dep)=true:=decide_eq_true id;have H2:U (m<2/\0<dep):=h2;clear h2;go_enter Tryz.func164,Tryz.ntmps164;go_wp2;refine bodyPost_ret (v:=.tuple #[.nilIface,.bool false]) (by simp[results,Tryz.results164,go_sem]) rfl (HNo.o _ (Ak (Aa _ _)) (λ⟨t,D',hk',lk',g⟩=>by have:=HGL.o t D' hk' lk' g;have:=H2.o;omega) _)
  .have HB2:U (dep=0\/2<=m):=by show dep=0\/2<=m;omega
   have hpick:U (∀b1 b2:Bool,b1=decide ((m:Int)<2)->b2=decide ((0:Int)<dep)->(b1 && b2)=false):=by rintro b1 b2 rfl rfl;rw[Bool.and_eq_false_iff];simp;omega
   by_cases hm2' : m<2
   .have i2:(m:Int)<2:=by omega
    have i2' : decide ((m:Int)<2)=true:=decide_eq_true i2;have n2' : decide (m<2)=true:=decide_eq_true hm2';have id:¬ (0:Int)<dep:=by omega
    have id' : decide ((0:Int)<dep)=false:=decide_eq_false id;clear h2 hpick;go_enter Tryz.func164,Tryz.ntmps164;go_upto_region 3 with fail
    have S1:U (Bx (w.alloc (.cells #[.bool true,.slice ka m kc,.slice da dn dc,iv ct] 267)) w.heap.size 267 #[.bool true,.slice ka m kc,.slice da dn dc,iv ct]/\CS (w.alloc (.cells #[.bool true,.slice ka m kc,.slice da dn dc,iv ct] 267)) rb b o n c (x+1) D lk hk/\Bl w (w.alloc (.cells #[.bool true,.slice ka m kc,.slice da dn dc,iv ct] 267))):=⟨Bx.new _ _ _,HR.o.alloc _,Aa _ _⟩;clear HR;generalize (w.alloc (.cells #[.bool true,.slice ka m kc,.slice da dn dc,iv ct] 267))=W at S1 ⊢;have g2:=S1.o.1.cell 2;have hWl:=S1.o.1.lt;simp at g2;by_cases hdn0:0<dn
    .have id0:(0:Int)<(dn:Int):=by omega
     have id0' : decide ((0:Int)<(dn:Int))=true:=decide_eq_true id0;have nd0' : decide (0<dn)=true:=decide_eq_true hdn0;go_wp2;refine bodyPost_ret (v:=.tuple #[.nilIface,.bool false]) (by simp[results,Tryz.results164,go_sem]) rfl (HNo.o _ (Ak S1.o.2.2) (λ⟨t,D',hk',lk',g⟩=>by have:=HGL.o t D' hk' lk' g;omega) _)
    .have id0:¬ (0:Int)<(dn:Int):=by omega
     have id0' : decide ((0:Int)<(dn:Int))=false:=decide_eq_false id0;have nd0' : decide (0<dn)=false:=decide_eq_false hdn0;go_wp2_with fail
     refine (Fd rb b o n c (x+1) dep D lk hk _ S1.o.2.1 hd0).mono ?_;rintro e w1 ⟨ok,rfl,hg1,hs1,hr1⟩;have HG1:U (w.grownBy w1 (some rb)/\Bx w1 w.heap.size 267 #[.bool true,.slice ka m kc,.slice da dn dc,iv ct]):=⟨Aj (Ak S1.o.2.2) hg1,S1.o.1.grown hg1 (λe=>by injection e with e;omega)⟩;have HR1:U ((ok=true/\(D=0\/D=dep)/\CS w1 rb b o n c (x+1) dep lk hk)\/(ok=false/\¬ (D=0\/D=dep))):=hr1;clear hg1 hs1 hr1 g2 S1;have g1:=HG1.o.2.cell 1;have hWl1:=HG1.o.2.lt;simp at g1;cases ok with
     | false=>
      go_wp2;refine bodyPost_ret (v:=.tuple #[.nilIface,.bool false]) (by simp[results,Tryz.results164,go_sem]) rfl (HNo.o _ HG1.o.1 (λ⟨t,D',hk',lk',g⟩=>?_) _);have q:=HGL.o t D' hk' lk' g;rcases HR1.o with ⟨e,_⟩|⟨_,e⟩;.cases e
      .exact e q.2.2.2.1
     | true=>
      have HD:U ((D=0\/D=dep)/\CS w1 rb b o n c (x+1) dep lk hk):=by
       rcases HR1.o with ⟨_,e⟩|⟨e,_⟩;.exact e
       .cases e
      clear HR1;go_wp2_with fail
      refine (FM rb b o n c (x+1) m kc ka dep lk hk L w1 HD.o.2 HML.o hm2 (λW' hW'=>HK.o W' (A1 (Aj HG1.o.1 hW') (by omega) (Wu _)))).mono ?_;rintro e w2 ⟨ok2,rfl,hg2,hs2,hr2⟩;have HG2:U (w.grownBy w2 (some rb)/\Bx w2 w.heap.size 267 #[.bool true,.slice ka m kc,.slice da dn dc,iv ct]):=⟨Aj HG1.o.1 hg2,HG1.o.2.grown hg2 (λe=>by injection e with e;omega)⟩;have HR2:U ((ok2=true/\∃hk' lk',AI hk lk L hk' lk'/\CS w2 rb b o n c (x+1) dep lk' hk')\/(ok2=false/\∀hk' lk',¬ AI hk lk L hk' lk')):=hr2;clear hg2 hs2 hr2 g1 HG1;have g1:=HG2.o.2.cell 1;have hWl2:=HG2.o.2.lt;simp at g1;cases ok2 with
      | false=>
       go_wp2;refine bodyPost_ret (v:=.tuple #[.nilIface,.bool false]) (by simp[results,Tryz.results164,go_sem]) rfl (HNo.o _ HG2.o.1 (λ⟨t,D',hk',lk',g⟩=>?_) _);have q:=HGL.o t D' hk' lk' g;rcases HR2.o with ⟨e,_⟩|⟨_,e⟩;.cases e
       .exact e _ _ q.2.2.2.2.1
      | true=>
       obtain⟨hk',lk',hch,hrb⟩:∃hk' lk',AI hk lk L hk' lk'/\CS w2 rb b o n c (x+1) dep lk' hk':=by
        rcases HR2.o with ⟨_,e⟩|⟨e,_⟩;.exact e
        .cases e
       have HC:U (AI hk lk L hk' lk'/\CS w2 rb b o n c (x+1) dep lk' hk'):=⟨hch,hrb⟩;clear HR2 hch hrb;go_wp2_with fail
       refine (Gh ka m kc L w2 (HK.o w2 (A1 HG2.o.1 (by omega) (Wu _))) HML.o hm2).mono ?_;rintro e w3 ⟨a3,c3,rfl,ho3,hb3⟩;have HO3:U (w3.ownsRow w2.heap.size 9 1 (.slice a3 m c3) m (AC L)):=ho3;have H3:U (Bl w2 w3):=hb3;clear ho3 hb3 g1;go_upto_region 6 with fail
       have S4:U (Bx (w3.alloc (.cells #[iv 0,.slice a3 m c3] 310)) w3.heap.size 310 #[iv 0,.slice a3 m c3]/\Bl w2 (w3.alloc (.cells #[iv 0,.slice a3 m c3] 310))/\(w3.alloc (.cells #[iv 0,.slice a3 m c3] 310)).ownsRow w2.heap.size 9 1 (.slice a3 m c3) m (AC L)/\w2.heap.size<=w3.heap.size):=⟨Bx.new _ _ _,H3.o.trans ((Aa _ _).mono H3.o.size),Al HO3.o (Aa _ _),H3.o.size⟩;clear HO3;generalize (w3.alloc (.cells #[iv 0,.slice a3 m c3] 310))=w4 at S4 ⊢;generalize w3.heap.size=nb at S4 ⊢;clear H3;go_wp2_with fail
       refine (El nb m c3 a3 0 w4 S4.o.1).mono ?_;rintro e w5 ⟨rfl,hw5⟩;have hnb:=S4.o.2.2.2;have HX5:U (Bx w5 nb 310 #[iv (m:Int),.slice a3 m c3]/\Bl w2 w5/\w5.ownsRow w2.heap.size 9 1 (.slice a3 m c3) m (AC L)/\Bx w5 w.heap.size 267 #[.bool true,.slice ka m kc,.slice da dn dc,iv ct]):=by
        subst hw5;refine⟨S4.o.1.set 0 _,S4.o.2.1.setCell hnb _,?_,(HG2.o.2.below S4.o.2.1).other (by simp;omega) _⟩;have q:=S4.o.2.2.1;refine⟨q.1,?_⟩;rcases q.2 with q|⟨g,cap,cur,q1,q2,q3,q4⟩;.exact Or.inl q
        .refine Or.inr ⟨g,cap,cur,q1,q2,?_,q4⟩;rw[Wv _ _ _ _ (show g≠nb from λe=>?_)];.exact q3
         .subst e;have:=S4.o.1;unfold Bx at this;rw[q3] at this;injection this with this;injection this with _ this _;exact absurd this (by decide)
       clear hw5 S4;have z0:=HX5.o.1.cell 0;have g3:=HX5.o.2.2.2.cell 3;simp at z0 g3;have HTA:U (Ei (λbb=>w.heap.size<=bb) w5 (d+1) (.inl L) (.iface 306 (pt nb))):=by
        have hz2:=HG2.o.1.size;refine⟨nb,a3,c3,rfl,by omega,?_,?_⟩;.rw[<- HML.o];exact HX5.o.1
        .rw[<- HML.o];exact Hp HX5.o.2.2.1 HML.o (λbb hb=>by omega)
       have HRB:U (CS w5.drew rb b o n c (x+1) dep lk' hk'/\w.grownBy w5.drew (some rb)):=⟨HC.o.2.below HX5.o.2.1.drew,Aj HG2.o.1 (Ak HX5.o.2.1.drew)⟩;have HB:U (∀W:World,W.cell? (ad nb 0)=some (iv (m:Int))->WS 177 #[pt nb] W λe w'=>e=.returned (iv (m:Int))/\w'=W):=λW hW=>BK nb (m:Int) W hW;by_cases hct:ct=(m:Int)
       .subst hct;have hq:((m:Int) == (m:Int))=true:=by simp
        go_upto_region 7 with fail
        go_region_held3 (λw'=>w'.cell? (ad nb 0)=some (iv (m:Int))/\w'.cell? (ad w.heap.size 3)=some (iv (m:Int))) (go_keep) (first|(go_at_call 177;refine (HB.o _ (by simpa using z0)).mono ?_;rintro e w6 ⟨rfl,rfl⟩)|fail)
        all_goals
         go_wp2
         refine bodyPost_ret (v:=.tuple #[.iface 306 (pt nb),.bool true]) (by simp[results,Tryz.results164,go_sem]) rfl ⟨HRB.o.2,_,true,rfl,.inl ⟨rfl,.inl L,dep,hk',lk',HYes.o hk' lk' (by omega) HB2.o (by omega) HD.o.1 HC.o.1 trivial,HRB.o.1,HTA.o.below (Wt _ _).drew⟩⟩
       .have hq:((m:Int) == ct)=false:=by simp;omega
        go_upto_region 7 with fail
        go_region_held3 (λw'=>w'.cell? (ad nb 0)=some (iv (m:Int))/\w'.cell? (ad w.heap.size 3)=some (iv ct)) (go_keep) (first|(go_at_call 177;refine (HB.o _ (by simpa using z0)).mono ?_;rintro e w6 ⟨rfl,rfl⟩)|fail)
        all_goals
         go_wp2
         refine bodyPost_ret (v:=.tuple #[.iface 306 (pt nb),.bool false]) (by simp[results,Tryz.results164,go_sem]) rfl (HNo.o _ HRB.o.2 (λ⟨t,D',hk',lk',g⟩=>?_) _)
         have q:=HGL.o t D' hk' lk' g
         exact hct q.2.2.2.2.2
   .have i2:¬ (m:Int)<2:=by omega
    have i2' : decide ((m:Int)<2)=false:=decide_eq_false i2;have n2' : decide (m<2)=false:=decide_eq_false hm2';clear h2 hpick;go_enter Tryz.func164,Tryz.ntmps164;go_upto_region 3 with fail
    have S1:U (Bx (w.alloc (.cells #[.bool true,.slice ka m kc,.slice da dn dc,iv ct] 267)) w.heap.size 267 #[.bool true,.slice ka m kc,.slice da dn dc,iv ct]/\CS (w.alloc (.cells #[.bool true,.slice ka m kc,.slice da dn dc,iv ct] 267)) rb b o n c (x+1) D lk hk/\Bl w (w.alloc (.cells #[.bool true,.slice ka m kc,.slice da dn dc,iv ct] 267))):=⟨Bx.new _ _ _,HR.o.alloc _,Aa _ _⟩;clear HR;generalize (w.alloc (.cells #[.bool true,.slice ka m kc,.slice da dn dc,iv ct] 267))=W at S1 ⊢;have g2:=S1.o.1.cell 2;have hWl:=S1.o.1.lt;simp at g2;by_cases hdn0:0<dn
    .have id0:(0:Int)<(dn:Int):=by omega
     have id0' : decide ((0:Int)<(dn:Int))=true:=decide_eq_true id0;have nd0' : decide (0<dn)=true:=decide_eq_true hdn0;go_wp2;refine bodyPost_ret (v:=.tuple #[.nilIface,.bool false]) (by simp[results,Tryz.results164,go_sem]) rfl (HNo.o _ (Ak S1.o.2.2) (λ⟨t,D',hk',lk',g⟩=>by have:=HGL.o t D' hk' lk' g;omega) _)
    .have id0:¬ (0:Int)<(dn:Int):=by omega
     have id0' : decide ((0:Int)<(dn:Int))=false:=decide_eq_false id0;have nd0' : decide (0<dn)=false:=decide_eq_false hdn0;go_wp2_with fail
     refine (Fd rb b o n c (x+1) dep D lk hk _ S1.o.2.1 hd0).mono ?_;rintro e w1 ⟨ok,rfl,hg1,hs1,hr1⟩;have HG1:U (w.grownBy w1 (some rb)/\Bx w1 w.heap.size 267 #[.bool true,.slice ka m kc,.slice da dn dc,iv ct]):=⟨Aj (Ak S1.o.2.2) hg1,S1.o.1.grown hg1 (λe=>by injection e with e;omega)⟩;have HR1:U ((ok=true/\(D=0\/D=dep)/\CS w1 rb b o n c (x+1) dep lk hk)\/(ok=false/\¬ (D=0\/D=dep))):=hr1;clear hg1 hs1 hr1 g2 S1;have g1:=HG1.o.2.cell 1;have hWl1:=HG1.o.2.lt;simp at g1;cases ok with
     | false=>
      go_wp2;refine bodyPost_ret (v:=.tuple #[.nilIface,.bool false]) (by simp[results,Tryz.results164,go_sem]) rfl (HNo.o _ HG1.o.1 (λ⟨t,D',hk',lk',g⟩=>?_) _);have q:=HGL.o t D' hk' lk' g;rcases HR1.o with ⟨e,_⟩|⟨_,e⟩;.cases e
      .exact e q.2.2.2.1
     | true=>
      have HD:U ((D=0\/D=dep)/\CS w1 rb b o n c (x+1) dep lk hk):=by
       rcases HR1.o with ⟨_,e⟩|⟨e,_⟩;.exact e
       .cases e
      clear HR1;go_wp2_with fail
      refine (FM rb b o n c (x+1) m kc ka dep lk hk L w1 HD.o.2 HML.o hm2 (λW' hW'=>HK.o W' (A1 (Aj HG1.o.1 hW') (by omega) (Wu _)))).mono ?_;rintro e w2 ⟨ok2,rfl,hg2,hs2,hr2⟩;have HG2:U (w.grownBy w2 (some rb)/\Bx w2 w.heap.size 267 #[.bool true,.slice ka m kc,.slice da dn dc,iv ct]):=⟨Aj HG1.o.1 hg2,HG1.o.2.grown hg2 (λe=>by injection e with e;omega)⟩;have HR2:U ((ok2=true/\∃hk' lk',AI hk lk L hk' lk'/\CS w2 rb b o n c (x+1) dep lk' hk')\/(ok2=false/\∀hk' lk',¬ AI hk lk L hk' lk')):=hr2;clear hg2 hs2 hr2 g1 HG1;have g1:=HG2.o.2.cell 1;have hWl2:=HG2.o.2.lt;simp at g1;cases ok2 with
      | false=>
       go_wp2;refine bodyPost_ret (v:=.tuple #[.nilIface,.bool false]) (by simp[results,Tryz.results164,go_sem]) rfl (HNo.o _ HG2.o.1 (λ⟨t,D',hk',lk',g⟩=>?_) _);have q:=HGL.o t D' hk' lk' g;rcases HR2.o with ⟨e,_⟩|⟨_,e⟩;.cases e
       .exact e _ _ q.2.2.2.2.1
      | true=>
       obtain⟨hk',lk',hch,hrb⟩:∃hk' lk',AI hk lk L hk' lk'/\CS w2 rb b o n c (x+1) dep lk' hk':=by
        rcases HR2.o with ⟨_,e⟩|⟨e,_⟩;.exact e
        .cases e
       have HC:U (AI hk lk L hk' lk'/\CS w2 rb b o n c (x+1) dep lk' hk'):=⟨hch,hrb⟩;clear HR2 hch hrb;go_wp2_with fail
       refine (Gh ka m kc L w2 (HK.o w2 (A1 HG2.o.1 (by omega) (Wu _))) HML.o hm2).mono ?_;rintro e w3 ⟨a3,c3,rfl,ho3,hb3⟩;have HO3:U (w3.ownsRow w2.heap.size 9 1 (.slice a3 m c3) m (AC L)):=ho3;have H3:U (Bl w2 w3):=hb3;clear ho3 hb3 g1;go_upto_region 6 with fail
       have S4:U (Bx (w3.alloc (.cells #[iv 0,.slice a3 m c3] 310)) w3.heap.size 310 #[iv 0,.slice a3 m c3]/\Bl w2 (w3.alloc (.cells #[iv 0,.slice a3 m c3] 310))/\(w3.alloc (.cells #[iv 0,.slice a3 m c3] 310)).ownsRow w2.heap.size 9 1 (.slice a3 m c3) m (AC L)/\w2.heap.size<=w3.heap.size):=⟨Bx.new _ _ _,H3.o.trans ((Aa _ _).mono H3.o.size),Al HO3.o (Aa _ _),H3.o.size⟩;clear HO3;generalize (w3.alloc (.cells #[iv 0,.slice a3 m c3] 310))=w4 at S4 ⊢;generalize w3.heap.size=nb at S4 ⊢;clear H3;go_wp2_with fail
       refine (El nb m c3 a3 0 w4 S4.o.1).mono ?_;rintro e w5 ⟨rfl,hw5⟩;have hnb:=S4.o.2.2.2;have HX5:U (Bx w5 nb 310 #[iv (m:Int),.slice a3 m c3]/\Bl w2 w5/\w5.ownsRow w2.heap.size 9 1 (.slice a3 m c3) m (AC L)/\Bx w5 w.heap.size 267 #[.bool true,.slice ka m kc,.slice da dn dc,iv ct]):=by
        subst hw5;refine⟨S4.o.1.set 0 _,S4.o.2.1.setCell hnb _,?_,(HG2.o.2.below S4.o.2.1).other (by simp;omega) _⟩;have q:=S4.o.2.2.1;refine⟨q.1,?_⟩;rcases q.2 with q|⟨g,cap,cur,q1,q2,q3,q4⟩;.exact Or.inl q
        .refine Or.inr ⟨g,cap,cur,q1,q2,?_,q4⟩;rw[Wv _ _ _ _ (show g≠nb from λe=>?_)];.exact q3
         .subst e;have:=S4.o.1;unfold Bx at this;rw[q3] at this;injection this with this;injection this with _ this _;exact absurd this (by decide)
       clear hw5 S4;have z0:=HX5.o.1.cell 0;have g3:=HX5.o.2.2.2.cell 3;simp at z0 g3;have HTA:U (Ei (λbb=>w.heap.size<=bb) w5 (d+1) (.inl L) (.iface 306 (pt nb))):=by
        have hz2:=HG2.o.1.size;refine⟨nb,a3,c3,rfl,by omega,?_,?_⟩;.rw[<- HML.o];exact HX5.o.1
        .rw[<- HML.o];exact Hp HX5.o.2.2.1 HML.o (λbb hb=>by omega)
       have HRB:U (CS w5.drew rb b o n c (x+1) dep lk' hk'/\w.grownBy w5.drew (some rb)):=⟨HC.o.2.below HX5.o.2.1.drew,Aj HG2.o.1 (Ak HX5.o.2.1.drew)⟩;have HB:U (∀W:World,W.cell? (ad nb 0)=some (iv (m:Int))->WS 177 #[pt nb] W λe w'=>e=.returned (iv (m:Int))/\w'=W):=λW hW=>BK nb (m:Int) W hW;by_cases hct:ct=(m:Int)
       .subst hct;have hq:((m:Int) == (m:Int))=true:=by simp
        go_upto_region 7 with fail
        go_region_held3 (λw'=>w'.cell? (ad nb 0)=some (iv (m:Int))/\w'.cell? (ad w.heap.size 3)=some (iv (m:Int))) (go_keep) (first|(go_at_call 177;refine (HB.o _ (by simpa using z0)).mono ?_;rintro e w6 ⟨rfl,rfl⟩)|fail)
        all_goals
         go_wp2
         refine bodyPost_ret (v:=.tuple #[.iface 306 (pt nb),.bool true]) (by simp[results,Tryz.results164,go_sem]) rfl ⟨HRB.o.2,_,true,rfl,.inl ⟨rfl,.inl L,dep,hk',lk',HYes.o hk' lk' (by omega) HB2.o (by omega) HD.o.1 HC.o.1 trivial,HRB.o.1,HTA.o.below (Wt _ _).drew⟩⟩
       .have hq:((m:Int) == ct)=false:=by simp;omega
        go_upto_region 7 with fail
        go_region_held3 (λw'=>w'.cell? (ad nb 0)=some (iv (m:Int))/\w'.cell? (ad w.heap.size 3)=some (iv ct)) (go_keep) (first|(go_at_call 177;refine (HB.o _ (by simpa using z0)).mono ?_;rintro e w6 ⟨rfl,rfl⟩)|fail)
        all_goals
         go_wp2
         refine bodyPost_ret (v:=.tuple #[.iface 306 (pt nb),.bool false]) (by simp[results,Tryz.results164,go_sem]) rfl (HNo.o _ HRB.o.2 (λ⟨t,D',hk',lk',g⟩=>?_) _)
         have q:=HGL.o t D' hk' lk' g
         exact hct q.2.2.2.2.2
variable {D D' Dk:Int}{d n x:Nat}{hk hk' hkk:Bool}{lk lk' lkk:ByteArray}
theorem OP {l m:List (Ro d)} {k:Nat} (h:l.take k=m.take k):AS d l k=AS d m k:=by unfold AS;rw[h]
theorem GG {N:Nat->Tn} {y:Nat} (hu:∀(t t' : Ro d) (x:Nat),AJ N 0 d t x->AJ N 0 d t' x->t=t') {ts l:List (Ro d)} (ht:∀j (h:j<ts.length),AJ N 0 d ts[j] (y+AS d ts j)) (hl:∀j (h:j<l.length),AJ N 0 d l[j] (y+AS d l j)) (hle:ts.length<=l.length):l.take ts.length=ts:=by
 have key:∀k,k<=ts.length->ts.take k=l.take k:=by
  intro k;induction k with
  | zero=>intro _;simp
  | succ k ih=>
   intro hk;have e:=ih (by omega);have h1:k<ts.length:=by omega
   have h2:k<l.length:=by omega
   have q1:=ht k h1;have q2:=hl k h2;rw[OP e] at q1;have q:=hu _ _ _ q1 q2;rw[<- List.take_append_getElem h1,<- List.take_append_getElem h2,e,q]
 have:=key ts.length (Wu _);rw[WG] at this;exact this.symm
theorem Dn {N:Nat->Tn}:∀{d:Nat} (t t' : Ro d) (x:Nat),AJ N 0 d t x->AJ N 0 d t' x->t=t'
 | 0,t,_,_,_,_=>t.elim
 | d+1,.inl t,.inl t',x,h,g=>by
  have e1:=Ec h.2.1 h.2.2.1
  have e2:=Ec g.2.1 g.2.2.1
  rw[e1,e2]
 | d+1,.inl t,.inr l,x,h,g=>by
  have h1:=h.1
  rw[g.1] at h1
  cases h1
 | d+1,.inr l,.inl t,x,h,g=>by
  have h1:=h.1
  rw[g.1] at h1
  cases h1
 | d+1,.inr l,.inr l',x,h,g=>by
  have e1:l.length=l'.length:=h.2.1.symm.trans g.2.1
  have q:=GG (y:=x+1) (λt t' x=>Dn t t' x) (λj hj=>h.2.2.2.2.2.2 j hj) (λj hj=>g.2.2.2.2.2.2 j hj) (by omega)
  rw[e1,WG] at q
  rw[q]
theorem Up {r:Bool} {t:Ro d} {h h':Nat} (a:Br d r t h) (b:Br d r t h'):h=h':=by have h1:=Ex a;have h2:=Ex b;omega
theorem KV:∀{d:Nat} {r:Bool} {t:Ro d} {h:Nat},Br d r t h->R4 4 d t
 | 0,_,t,_,_=>t.elim
 | d+1,r,.inl t,h,hb=>hb.2.1
 | d+1,r,.inr l,h,hb=>by
  obtain⟨_,_,h',_,hall⟩:=hb
  exact λt ht=>KV (hall t ht)
structure Fb (N:Nat->Tn) (n x:Nat) (dep D:Int) (hk:Bool) (lk:ByteArray) (d:Nat) (ts:List (Ro d)) (Dk:Int) (hkk:Bool) (lkk:ByteArray):Prop where
 le:x+1+(ts.map (Ad d)).sum<=n
 kd:∀j (h:j<ts.length),(N x).kd j=((x+1+AS d ts j:Nat):Int)
 ks:∀j (h:j+1<ts.length),(N x).ks j=gt (Ab d ts[j+1]) 0
 tl:∀j (h:j<ts.length),AJ N 0 d ts[j] (x+1+AS d ts j)
 bal:(ts=[]/\Dk=D)\/(ts≠[]/\∃h' : Nat,(∀t,t∈ts->Br d false t h')/\Dk=dep+1+(h' : Int)/\(D=0\/D=Dk))
 asc:AI hk lk (ts.flatMap (Ab d)) hkk lkk
theorem Lv (ts:List (Ro d)) (t:Ro d) (j:Nat) (h:j<=ts.length):AS d (ts++[t]) j=AS d ts j:=by unfold AS;rw[List.take_append_of_le_length h]
theorem Fb.more {N:Nat->Tn} {dep:Int} {ts:List (Ro d)} (hdep:0<=dep) (h:Fb N n x dep D hk lk d ts Dk hkk lkk) {t:Ro d} (g:Cg N n (x+1+(ts.map (Ad d)).sum) (dep+1) Dk hkk lkk d t D' hk' lk')
  (hkd:(N x).kd ts.length=((x+1+(ts.map (Ad d)).sum:Nat):Int)) (hks:ts.length≠0->(N x).ks (ts.length-1)=gt (Ab d t) 0):Fb N n x dep D hk lk d (ts++[t]) D' hk' lk':=by
 have hall:=B7 d ts;refine⟨?_,λj hj=>?_,λj hj=>?_,λj hj=>?_,Or.inr ⟨by simp,?_⟩,?_⟩;.have:=g.le;rw[List.map_append,List.sum_append];simp;omega
 .rw[WD] at hj;simp at hj;rw[Lv ts t j (by omega)];by_cases e:j=ts.length;.subst e;rw[hall];exact hkd
  .exact h.kd j (by omega)
 .rw[WD] at hj;simp at hj;by_cases e:j+1=ts.length;.have q:=hks (by omega);rw[show ts.length-1=j by omega] at q;rw[q];simp[e]
  .rw[List.getElem_append_left (by omega)];exact h.ks j (by omega)
 .rw[WD] at hj;simp at hj;rw[Lv ts t j (by omega)];by_cases e:j=ts.length;.subst e;rw[hall];have q:=g.tl;simpa using q
  .rw[List.getElem_append_left (by omega)];exact h.tl j (by omega)
 .obtain⟨hh,hb,hd'⟩:=g.bal;have hr:decide (dep+1=0)=false:=decide_eq_false (by omega);rw[hr] at hb;refine⟨hh,λt' ht=>?_,hd',?_⟩
  .rcases List.mem_append.1 ht with ht|ht
   .rcases h.bal with ⟨e,_⟩|⟨_,h',hb',hd2,_⟩;.rw[e] at ht;cases ht
    .have hdd:=g.dd;have e:h'=hh:=by omega
     rw[<- e];exact hb' t' ht
   .simp at ht;subst ht;exact hb
  .rcases h.bal with ⟨_,e⟩|⟨_,h',_,hd2,hd3⟩;.rw[<- e];exact g.dd
   .have hdd:=g.dd;omega
 .rw[List.flatMap_append];refine AI.app h.asc ?_;simpa using g.asc
theorem MI {N:Nat->Tn} {dep:Int} {t:Ro (d+1)} (hlf:(N x).lf=false) (h:Cg N n x dep D hk lk (d+1) t D' hk' lk') :
  ∃l:List (Ro d),t=.inr l/\l.length=(N x).dn/\2<=l.length/\l.length<=4/\(N x).kn+1=l.length/\(N x).ct=((l.flatMap (Ab d)).length:Int):=by
 rcases t with t|l;.have:=h.tl.1;rw[hlf] at this;cases this
 .obtain⟨q1,q2,q3,q4,q5,q6,q7⟩:=h.tl;obtain⟨hh,⟨b1,b2,_⟩,_⟩:=h.bal;exact⟨l,rfl,q2.symm,b1,b2,q4,q3⟩
theorem GR {N:Nat->Tn} {dep:Int} {l:List (Ro d)} (h:Cg N n x dep D hk lk (d+1) (.inr l) D' hk' lk') {ts:List (Ro d)} (g:Fb N n x dep D hk lk d ts Dk hkk lkk) (hle:ts.length<=l.length):l.take ts.length=ts:=by obtain⟨q1,q2,q3,q4,q5,q6,q7⟩:=h.tl;exact GG (y:=x+1) (λt t' x=>Dn t t' x) g.tl q7 hle
theorem EW {N:Nat->Tn} {dep:Int} {l:List (Ro d)} (hdep:0<=dep) (h:Cg N n x dep D hk lk (d+1) (.inr l) D' hk' lk') {ts:List (Ro d)} (g:Fb N n x dep D hk lk d ts Dk hkk lkk) (hlt:ts.length<l.length) :
  (N x).kd ts.length=((x+1+(ts.map (Ad d)).sum:Nat):Int)/\(ts.length≠0->(N x).ks (ts.length-1)=gt (Ab d l[ts.length]) 0)/\∃h2 l2,Cg N n (x+1+(ts.map (Ad d)).sum) (dep+1) Dk hkk lkk d l[ts.length] D' h2 l2:=by
 have hp:=GR h g (by omega);obtain⟨q1,q2,q3,q4,q5,q6,q7⟩:=h.tl;have hoff:AS d l ts.length=(ts.map (Ad d)).sum:=by unfold AS;rw[hp]
 obtain⟨hh,⟨b1,b2,h',b3,b4⟩,b5⟩:=h.bal;refine⟨?_,λh0=>?_,?_⟩;.have:=q5 ts.length hlt;rw[hoff] at this;rw[this];omega
 .have:=q6 (ts.length-1) (by omega);rw[this];simp only[show ts.length-1+1=ts.length by omega]
 .have hle:=ET d l ts.length hlt;have h3:Ad (d+1) (.inr l)=1+(l.map (Ad d)).sum:=rfl;have hasc:AI hk lk (l.flatMap (Ab d)) hk' lk':=h.asc;have e:l=l.take ts.length++(l[ts.length]::l.drop (ts.length+1)):=by
   conv=>lhs;rw[<- List.take_append_drop (ts.length+1) l,<- List.take_append_getElem hlt]
   simp
  rw[e,List.flatMap_append,List.flatMap_cons,hp] at hasc;obtain⟨h1,l1,c1,c2⟩:=AI.split hasc;obtain⟨rfl,rfl⟩:=AI.fn g.asc c1;obtain⟨h2,l2,c3,c4⟩:=AI.split c2;refine⟨h2,l2,⟨?_,?_,⟨h',?_,by omega⟩,?_,c3⟩⟩;.have:=q7 ts.length hlt;rw[hoff] at this;exact this
  .have:=h.le;omega
  .rw[show decide (dep+1=0)=false from decide_eq_false (by omega)];exact b4 _ (WE hlt)
  .rcases g.bal with ⟨_,e2⟩|⟨hne,h2',hb2,hd2,_⟩;.rw[e2];exact h.dd
   .right;have hl0:=List.length_pos_iff.2 hne;have hmem:ts[0]∈l:=by
     have:ts[0]=(l.take ts.length)[0]'(by rw[hp];exact hl0):=by simp only[hp]
     rw[this];exact List.mem_of_mem_take (WE _)
    have:=Up (hb2 ts[0] (WE hl0)) (b4 ts[0] hmem);omega
theorem I8 {S T:Type} (f:S->List ByteArray) (g:T->List ByteArray):∀(l:List S) (m:List T),l.length=m.length->(∀k (h:k<l.length) (h' : k<m.length),f l[k]=g m[k])->l.flatMap f=m.flatMap g
 | [],[],_,_=>rfl
 | [],_::_,h,_=>by simp at h
 | _::_,[],h,_=>by simp at h
 | a::l,b::m,h,hf=>by
  rw[List.flatMap_cons,List.flatMap_cons]
  have h0:=hf 0 (by simp) (by simp)
  simp only[List.getElem_cons_zero] at h0
  rw[h0,I8 f g l m (by simpa using h) (λk hk hk'=>by
   have:=hf (k+1) (by simpa using hk) (by simpa using hk')
   simpa using this)]
theorem J1 {d d' : Nat} {l:List (Ro d)} {m:List (Ro d')} (h:∀j (h:j<l.length) (h' : j<m.length),Ad d l[j]=Ad d' m[j]):∀k,k<=l.length->k<=m.length->AS d l k=AS d' m k
 | 0,_,_=>by rw[D6,D6]
 | k+1,h1,h2=>by
  rw[BA d l k (by omega),BA d' m k (by omega),J1 h k (by omega) (by omega),h k (by omega) (by omega)]
theorem Fw {N:Nat->Tn} {n:Nat}:∀{d' d:Nat} {root:Bool} {t:Ro d} {h x:Nat},AJ N 0 d t x->x+Ad d t<=n->Br d root t h->h<d'->
  ∃t' : Ro d',AN N n d' x=some (t',x+Ad d t)/\Ab d' t'=Ab d t/\Ad d' t'=Ad d t/\Br d' root t' h/\AJ N 0 d' t' x
 | 0,_,_,_,h,_,_,_,_,hd=>by omega
 | d'+1,0,root,t,h,x,ht,hn,hb,hd=>t.elim
 | d'+1,d+1,root,.inl t,h,x,ht,hn,hb,hd=>by
  have h1:Ad (d+1) (.inl t)=1:=rfl
  have ht2:=ht
  obtain⟨q1,q2,q3,q4,q5⟩:=ht
  have e:=Ec q2 q3
  refine⟨.inl t,?_,rfl,rfl,hb,ht2⟩
  unfold AN
  rw[if_pos (by omega),if_pos q1,if_pos q4,h1,<- e]
 | d'+1,d+1,root,.inr l,h,x,ht,hn,hb,hd=>by
  have h1:Ad (d+1) (.inr l)=1+(l.map (Ad d)).sum:=rfl
  obtain⟨q1,q2,q3,q4,q5,q6,q7⟩:=ht
  obtain⟨b1,b2,h',rfl,b3⟩:=hb
  have key:∀k,k<=l.length->∃ts:List (Ro d'),BF (AN N n d') (N x).kd (x+1) k=some (ts,x+1+AS d l k)/\ts.length=k/\∀j (h:j<ts.length) (h2:j<l.length),Ab d' ts[j]=Ab d l[j]/\Ad d' ts[j]=Ad d l[j]/\Br d' false ts[j] h'/\AJ N 0 d' ts[j] (x+1+AS d l j):=by
   intro k
   induction k with
   | zero=>
    intro _
    exact⟨[],by rw[D6];rfl,rfl,λj hj=>absurd hj (Wy _)⟩
   | succ k ih=>
    intro hk
    obtain⟨ts,e1,e2,e3⟩:=ih (by omega)
    have hkl:k<l.length:=by omega
    have hle:=ET d l k hkl
    obtain⟨t',f1,f2,f3,f4,f5⟩:=Fw (n:=n) (d':=d') (q7 k hkl) (by omega) (b3 _ (WE hkl)) (by omega)
    refine⟨ts++[t'],?_,by rw[WD,e2];rfl,λj hj hj2=>?_⟩
    .unfold BF
     rw[e1]
     simp only
     rw[if_pos (by rw[q5 k hkl];omega),f1]
     simp only
     rw[BA d l k hkl]
     rw[show x+1+AS d l k+Ad d l[k]=x+1+(AS d l k+Ad d l[k]) by omega]
    .rw[WD] at hj
     simp at hj
     by_cases e:j=k
     .subst e
      rw[List.getElem_append_right (by omega)]
      simp only[e2,Nat.sub_self,List.getElem_cons_zero]
      exact⟨f2,f3,f4,f5⟩
     .rw[List.getElem_append_left (by omega)]
      exact e3 j (by omega) hj2
  obtain⟨ts,e1,e2,e3⟩:=key l.length (Wu _)
  have hoff:∀k,k<=l.length->AS d' ts k=AS d l k:=λk hk=>J1 (λj h h'=>(e3 j h h').2.1) k (by omega) hk
  have hsum:(ts.map (Ad d')).sum=(l.map (Ad d)).sum:=by
   have:=hoff l.length (Wu _)
   rw[B7,<- e2,B7] at this
   exact this
  have hflat:ts.flatMap (Ab d')=l.flatMap (Ab d):=I8 _ _ ts l e2 (λk hk hk'=>(e3 k hk hk').1)
  refine⟨.inr ts,?_,hflat,?_,⟨by omega,by omega,h',rfl,λt ht=>?_⟩,?_⟩
  .unfold AN
   rw[if_pos (by omega),if_neg (by rw[q1];simp),if_neg (by omega),q2,e1]
   simp only
   rw[B7,h1]
   rw[show x+1+(l.map (Ad d)).sum=x+(1+(l.map (Ad d)).sum) by omega]
  .show 1+(ts.map (Ad d')).sum=1+(l.map (Ad d)).sum
   rw[hsum]
  .obtain⟨j,hj,rfl⟩:=List.getElem_of_mem ht
   exact (e3 j hj (by omega)).2.2.1
  .refine⟨q1,by rw[q2,e2],by rw[q3,hflat],by rw[q4,e2],λk hk=>?_,λk hk=>?_,λk hk=>?_⟩
   .rw[hoff k (by omega)]
    exact q5 k (by omega)
   .rw[(e3 (k+1) hk (by omega)).1]
    exact q6 k (by omega)
   .rw[hoff k (by omega)]
    exact (e3 k hk (by omega)).2.2.2
theorem FT:∀(L:List ByteArray) (hk:Bool) (lk:ByteArray),(∀i,i<L.length->(gt L i).size<=16/\(0<i->Op.bytesLess (gt L (i-1)).toList (gt L i).toList=true))->(hk=true->0<L.length->Op.bytesLess lk.toList (gt L 0).toList=true)->∃hk' lk',AI hk lk L hk' lk'
 | [],hk,lk,_,_=>⟨hk,lk,rfl,rfl⟩
 | k::L,hk,lk,h,h0=>by
  obtain⟨hk',lk',q⟩:=FT L true k (λi hi=>by
   have:=h (i+1) (by simpa using hi)
   refine⟨by simpa[gt] using this.1,λhi0=>?_⟩
   have:=this.2 (by omega)
   rw[show i+1-1=(i-1)+1 by omega] at this
   simpa[gt] using this) (λ_ hl=>by
   have:=(h 1 (by simpa using hl)).2 (by omega)
   simpa[gt] using this)
  exact⟨hk',lk',by simpa[gt] using (h 0 (by simp)).1,λe=>by simpa[gt] using h0 e (by simp),q⟩
theorem FA:∀(L:List ByteArray) (hk:Bool) (lk:ByteArray) {hk' : Bool} {lk' : ByteArray},AI hk lk L hk' lk'->(∀i,i<L.length->(gt L i).size<=16/\(0<i->Op.bytesLess (gt L (i-1)).toList (gt L i).toList=true))/\(hk=true->0<L.length->Op.bytesLess lk.toList (gt L 0).toList=true)
 | [],hk,lk,_,_,_=>⟨λi hi=>absurd hi (Wy _),λ_ h=>absurd h (Nat.lt_irrefl _)⟩
 | k::L,hk,lk,hk',lk',h=>by
  obtain⟨q1,q2⟩:=FA L true k h.2.2
  refine⟨λi hi=>?_,λe _=>by simpa[gt] using h.2.1 e⟩
  cases i with
  | zero=>exact⟨by simpa[gt] using h.1,λh=>absurd h (Nat.lt_irrefl _)⟩
  | succ i=>
   have hi2:i<L.length:=by simpa using hi
   refine⟨by simpa[gt] using (q1 i hi2).1,λ_=>?_⟩
   cases i with
   | zero=>
    have:=q2 rfl hi2
    simpa[gt] using this
   | succ i=>
    have:=(q1 (i+1) hi2).2 (by omega)
    simpa[gt] using this
theorem SD {N:Nat->Tn} {t:Ro d} {D':Int} {hk':Bool} {lk':ByteArray} (hn:n<=5000) (h:Cg N n 0 0 0 false { data:=#[] } d t D' hk' lk') (he:Ad d t=n):∃t',Dv n N t'/\Ab 21 t'=Ab d t:=by obtain⟨hh,hb,_⟩:=h.bal;have hlow:=hb.low (by omega);obtain⟨t',q1,q2,q3,q4,q5⟩:=Fw (n:=n) (d':=21) h.tl (by omega) hb (by omega);rw[he] at q1;have hp:=DW d t;refine⟨t',⟨by omega,hn,by simpa using q1,⟨hh,by simpa using q4⟩,?_,q5⟩,q2⟩;rw[q2];exact (FA _ _ _ h.asc).1
theorem NU {N:Nat->Tn} {t':Ro 21} (h:Dv n N t') (hd:n<=d):∃(t:Ro d) (D' : Int) (hk' : Bool) (lk' : ByteArray),Cg N n 0 0 0 false { data:=#[] } d t D' hk' lk'/\Ad d t=n:=by obtain⟨h1,h2,h3,⟨hh,hb⟩,h5,h6⟩:=h;have hend:=DQ h3;have hnod:=hb.nodes;have hlt:hh<2 ^ hh:=Nat.lt_two_pow_self;obtain⟨t,q1,q2,q3,q4,q5⟩:=Fw (n:=n) (d':=d) h6 (by omega) hb (by omega);obtain⟨hk',lk',hc⟩:=FT (Ab d t) false { data:=#[] } (by rw[q2];exact h5) (λe=>by cases e);exact⟨t,(hh:Int),hk',lk',⟨q5,by omega,⟨hh,by simpa using q4,by simp⟩,.inl rfl,hc⟩,by omega⟩
end Go.Proofs.YtacpbofiipdodaaGreat
