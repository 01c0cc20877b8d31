import Derived.Test.YtpaomghibppgkaaGreatNv18
import Derived.Test.YtpaomghibppgkaaGreatNv27
import Derived.Test.YtpaomghibppgkaaGreatNv19
import Derived.Deep.RegionHeld3
set_option linter.unusedVariables false
set_option maxRecDepth 100000
namespace Go.Proofs.YtpaomghibppgkaaGreat
open Go.RowKit Go.Deep

theorem list_of_ks {x:Tn} {t:List ByteArray} (h1:x.kn=t.length) (h2:∀j,j<t.length->x.ks j=gt t j):t=ksL x:=by
 apply List.ext_getElem?
 intro i
 by_cases h:i<t.length
 ·unfold ksL
  rw [List.getElem?_eq_getElem h]
  have:=h2 i h
  unfold gt at this
  rw [List.getD_eq_getElem?_getD,List.getElem?_eq_getElem h] at this
  simp only [Option.getD_some] at this
  simp [h1,h,this]
 ·rw [List.getElem?_eq_none (by omega),List.getElem?_eq_none (by rw [ksL_length];omega)]

theorem good_leaf {N:Nat->Tn} {n x:Nat} {dep D:Int} {hk:Bool} {lk:ByteArray} {d:Nat} {t:Ro (d+1)} {D' : Int} {hk' : Bool} {lk' : ByteArray} (hlf:(N x).lf=true) (h:Good N n x dep D hk lk (d+1) t D' hk' lk') :
  (N x).kn<=4/\(dep=0\/2<=(N x).kn)/\(N x).dn=0/\(D=0\/D=dep)/\Chain hk lk (ksL (N x)) hk' lk'/\(N x).ct=((N x).kn:Int):=by
 rcases t with t|l
 ·obtain ⟨q1,q2,q3,q4,q5⟩:=h.tl
  obtain ⟨hh,⟨b1,b2,b3⟩,b4⟩:=h.bal
  have e:=list_of_ks q2 q3
  subst b1
  have hd:=h.dd
  rw [b4] at hd
  have ha:Chain hk lk t hk' lk':=h.asc
  rw [e] at ha
  refine ⟨by omega,?_,q4,by simpa using hd,ha,by rw [q5,q2]⟩
  rcases b3 with b3|b3
  ·exact Or.inl (by simpa using b3)
  ·exact Or.inr (by omega)
 ·have:=h.tl.1
  rw [hlf] at this
  cases this

set_option maxHeartbeats 4000000 in
theorem readLeaf_any (N:Nat->Tn) (rb b o n c x:Nat) (dep D:Int) (hk:Bool) (lk:ByteArray) (d:Nat) (w:World) (ka da:Option Addr) (kc dc:Nat) (h:RBx w rb b o n c (x+1) D lk hk) (hx:x<n) (hlf:(N x).lf=true) (hfit:TnFit (N x)) (hK:∀W:World,Below rb w W->RdS W ka (N x).kn (N x).ks) (hd0:0<=dep) :
  Calls Tryz.prog 137 #[.pointer (some ⟨rb,0,none⟩),.agg #[.bool true,.slice ka (N x).kn kc,.slice da (N x).dn dc,.int .i64 (N x).ct],.int .i64 dep] w (RetRd N rb b o n c x dep D hk lk (d+1) w):=by
 have HR:Hid (RBx w rb b o n c (x+1) D lk hk):=h
 have hrl:=h.lt
 have HK:Hid (∀W:World,Below rb w W->RdS W ka (N x).kn (gt (ksL (N x)))):=fun W hW=>(hK W hW).congr (fun j hj=>(gt_ksL (N x) j hj).symm)
 have HGL:Hid (∀(t:Ro (d+1)) D' hk' lk',Good N n x dep D hk lk (d+1) t D' hk' lk'->(N x).kn<=4/\(dep=0\/2<=(N x).kn)/\(N x).dn=0/\(D=0\/D=dep)/\Chain hk lk (ksL (N x)) hk' lk'/\(N x).ct=((N x).kn:Int)):=fun t D' hk' lk' g=>good_leaf hlf g
 have hm2:(N x).kn<=1048576:=hfit.1
 have hd2:(N x).dn<=1048576:=hfit.2
 have HML:Hid ((N x).kn=(ksL (N x)).length):=(ksL_length _).symm
 have HYes:Hid (∀hk' lk',(N x).kn<=4->(dep=0\/2<=(N x).kn)->(N x).dn=0->(D=0\/D=dep)->Chain hk lk (ksL (N x)) hk' lk'->(N x).ct=((N x).kn:Int)->Good N n x dep D hk lk (d+1) (.inl (ksL (N x))) dep hk' lk'):=by
  intro hk' lk' a1 a2 a3 a4 a5 a6
  refine ⟨⟨hlf,(ksL_length _).symm,fun j hj=>(gt_ksL _ _ (by rw [ksL_length] at hj;exact hj)).symm,a3,by rw [ksL_length];exact a6⟩,?_,⟨0,⟨rfl,by rw [ksL_length];exact a1,?_⟩,by simp⟩,a4,a5⟩
  ·have:nodesR (d+1) (.inl (ksL (N x)))=1:=rfl
   omega
  ·rw [ksL_length]
   rcases a2 with a2|a2
   ·exact Or.inl (by simpa using a2)
   ·exact Or.inr a2
 clear h hK hlf hfit
 generalize (N x).kn=m at HK HGL hm2 HML HYes ⊢
 generalize (N x).dn=dn at HGL hd2 HYes ⊢
 generalize (N x).ct=ct at HGL HYes ⊢
 generalize ksL (N x)=L at HK HGL HML HYes ⊢
 have HNo:Hid (∀w' : World,w.grownBy w' (some rb)->¬ (∃(t:Ro (d+1)) (D' : Int) (hk' : Bool) (lk' : ByteArray),Good N n x dep D hk lk (d+1) t D' hk' lk')->∀v,RetRd N rb b o n c x dep D hk lk (d+1) w (.returned (.tuple #[v,.bool false])) w'):=fun w' hg hn v=>⟨hg,v,false,rfl,Or.inr ⟨rfl,hn⟩⟩
 by_cases h4:4<m
 ·have i4:(4:Int)<(m:Int):=by omega
  have i4' : decide ((4:Int)<(m:Int))=true:=decide_eq_true i4
  have n4' : decide (4<m)=true:=decide_eq_true h4
  go_enter Tryz.func137,Tryz.ntmps137
  go_wp2
  refine bodyPost_ret (v:=.tuple #[.nilIface,.bool false]) (by simp [results,Tryz.results137,go_sem]) rfl (HNo.out _ (grown_below (below_alloc _ _)) (fun ⟨t,D',hk',lk',g⟩=>by have:=HGL.out t D' hk' lk' g;omega) _)
 ·have i4:¬ (4:Int)<(m:Int):=by omega
  have i4' : decide ((4:Int)<(m:Int))=false:=decide_eq_false i4
  have n4' : decide (4<m)=false:=decide_eq_false h4
  by_cases h2:m<2/\0<dep
  ·have i2:(m:Int)<2:=by omega
   have i2' : decide ((m:Int)<2)=true:=decide_eq_true i2
   have n2' : decide (m<2)=true:=decide_eq_true h2.1
   have id:(0:Int)<dep:=h2.2
   have id' : decide ((0:Int)<dep)=true:=decide_eq_true id
   have H2:Hid (m<2/\0<dep):=h2
   clear h2
   go_enter Tryz.func137,Tryz.ntmps137
   go_wp2
   refine bodyPost_ret (v:=.tuple #[.nilIface,.bool false]) (by simp [results,Tryz.results137,go_sem]) rfl (HNo.out _ (grown_below (below_alloc _ _)) (fun ⟨t,D',hk',lk',g⟩=>by have:=HGL.out t D' hk' lk' g;have:=H2.out;omega) _)
  ·have HB2:Hid (dep=0\/2<=m):=by
    show dep=0\/2<=m
    omega
   have hpick:Hid (∀b1 b2:Bool,b1=decide ((m:Int)<2)->b2=decide ((0:Int)<dep)->(b1 && b2)=false):=by
    rintro b1 b2 rfl rfl
    rw [Bool.and_eq_false_iff]
    simp
    omega
   by_cases hm2' : m<2
   ·have i2:(m:Int)<2:=by omega
    have i2' : decide ((m:Int)<2)=true:=decide_eq_true i2
    have n2' : decide (m<2)=true:=decide_eq_true hm2'
    have id:¬ (0:Int)<dep:=by omega
    have id' : decide ((0:Int)<dep)=false:=decide_eq_false id
    clear h2 hpick
    go_enter Tryz.func137,Tryz.ntmps137
    go_upto_region 3 with fail
    have S1:Hid (Bx (w.alloc (.cells #[.bool true,.slice ka m kc,.slice da dn dc,.int .i64 ct] 210)) w.heap.size 210 #[.bool true,.slice ka m kc,.slice da dn dc,.int .i64 ct]/\RBx (w.alloc (.cells #[.bool true,.slice ka m kc,.slice da dn dc,.int .i64 ct] 210)) rb b o n c (x+1) D lk hk/\Below w.heap.size w (w.alloc (.cells #[.bool true,.slice ka m kc,.slice da dn dc,.int .i64 ct] 210))):=⟨Bx.new _ _ _,HR.out.alloc _,below_alloc _ _⟩
    clear HR
    generalize (w.alloc (.cells #[.bool true,.slice ka m kc,.slice da dn dc,.int .i64 ct] 210))=W at S1 ⊢
    have g2:=S1.out.1.cell 2
    have hWl:=S1.out.1.lt
    simp at g2
    by_cases hdn0:0<dn
    ·have id0:(0:Int)<(dn:Int):=by omega
     have id0' : decide ((0:Int)<(dn:Int))=true:=decide_eq_true id0
     have nd0' : decide (0<dn)=true:=decide_eq_true hdn0
     go_wp2
     refine bodyPost_ret (v:=.tuple #[.nilIface,.bool false]) (by simp [results,Tryz.results137,go_sem]) rfl (HNo.out _ (grown_below S1.out.2.2) (fun ⟨t,D',hk',lk',g⟩=>by have:=HGL.out t D' hk' lk' g;omega) _)
    ·have id0:¬ (0:Int)<(dn:Int):=by omega
     have id0' : decide ((0:Int)<(dn:Int))=false:=decide_eq_false id0
     have nd0' : decide (0<dn)=false:=decide_eq_false hdn0
     go_wp2_with fail
     refine (leafDepth_any rb b o n c (x+1) dep D lk hk _ S1.out.2.1 hd0).mono ?_
     rintro e w1 ⟨ok,rfl,hg1,hs1,hr1⟩
     have HG1:Hid (w.grownBy w1 (some rb)/\Bx w1 w.heap.size 210 #[.bool true,.slice ka m kc,.slice da dn dc,.int .i64 ct]):=⟨grown_trans (grown_below S1.out.2.2) hg1,S1.out.1.grown hg1 (fun e=>by injection e with e;omega)⟩
     have HR1:Hid ((ok=true/\(D=0\/D=dep)/\RBx w1 rb b o n c (x+1) dep lk hk)\/(ok=false/\¬ (D=0\/D=dep))):=hr1
     clear hg1 hs1 hr1 g2 S1
     have g1:=HG1.out.2.cell 1
     have hWl1:=HG1.out.2.lt
     simp at g1
     cases ok with
     | false=>
      go_wp2
      refine bodyPost_ret (v:=.tuple #[.nilIface,.bool false]) (by simp [results,Tryz.results137,go_sem]) rfl (HNo.out _ HG1.out.1 (fun ⟨t,D',hk',lk',g⟩=>?_) _)
      have q:=HGL.out t D' hk' lk' g
      rcases HR1.out with ⟨e,_⟩|⟨_,e⟩
      ·cases e
      ·exact e q.2.2.2.1
     | true=>
      have HD:Hid ((D=0\/D=dep)/\RBx w1 rb b o n c (x+1) dep lk hk):=by
       rcases HR1.out with ⟨_,e⟩|⟨e,_⟩
       ·exact e
       ·cases e
      clear HR1
      go_wp2_with fail
      refine (passKeys_any rb b o n c (x+1) m kc ka dep lk hk L w1 HD.out.2 HML.out hm2 (fun W' hW'=>HK.out W' (below_grown (grown_trans HG1.out.1 hW') (by omega) (Nat.le_refl _)))).mono ?_
      rintro e w2 ⟨ok2,rfl,hg2,hs2,hr2⟩
      have HG2:Hid (w.grownBy w2 (some rb)/\Bx w2 w.heap.size 210 #[.bool true,.slice ka m kc,.slice da dn dc,.int .i64 ct]):=⟨grown_trans HG1.out.1 hg2,HG1.out.2.grown hg2 (fun e=>by injection e with e;omega)⟩
      have HR2:Hid ((ok2=true/\∃hk' lk',Chain hk lk L hk' lk'/\RBx w2 rb b o n c (x+1) dep lk' hk')\/(ok2=false/\∀hk' lk',¬ Chain hk lk L hk' lk')):=hr2
      clear hg2 hs2 hr2 g1 HG1
      have g1:=HG2.out.2.cell 1
      have hWl2:=HG2.out.2.lt
      simp at g1
      cases ok2 with
      | false=>
       go_wp2
       refine bodyPost_ret (v:=.tuple #[.nilIface,.bool false]) (by simp [results,Tryz.results137,go_sem]) rfl (HNo.out _ HG2.out.1 (fun ⟨t,D',hk',lk',g⟩=>?_) _)
       have q:=HGL.out t D' hk' lk' g
       rcases HR2.out with ⟨e,_⟩|⟨_,e⟩
       ·cases e
       ·exact e _ _ q.2.2.2.2.1
      | true=>
       obtain ⟨hk',lk',hch,hrb⟩:∃hk' lk',Chain hk lk L hk' lk'/\RBx w2 rb b o n c (x+1) dep lk' hk':=by
        rcases HR2.out with ⟨_,e⟩|⟨e,_⟩
        ·exact e
        ·cases e
       have HC:Hid (Chain hk lk L hk' lk'/\RBx w2 rb b o n c (x+1) dep lk' hk'):=⟨hch,hrb⟩
       clear HR2 hch hrb
       go_wp2_with fail
       refine (copyStrs_any ka m kc L w2 (HK.out w2 (below_grown HG2.out.1 (by omega) (Nat.le_refl _))) HML.out hm2).mono ?_
       rintro e w3 ⟨a3,c3,rfl,ho3,hb3⟩
       have HO3:Hid (w3.ownsRow w2.heap.size 9 1 (.slice a3 m c3) m (strL L)):=ho3
       have H3:Hid (Below w2.heap.size w2 w3):=hb3
       clear ho3 hb3 g1
       go_upto_region 6 with fail
       have S4:Hid (Bx (w3.alloc (.cells #[.int .i64 0,.slice a3 m c3] 247)) w3.heap.size 247 #[.int .i64 0,.slice a3 m c3]/\Below w2.heap.size w2 (w3.alloc (.cells #[.int .i64 0,.slice a3 m c3] 247))/\(w3.alloc (.cells #[.int .i64 0,.slice a3 m c3] 247)).ownsRow w2.heap.size 9 1 (.slice a3 m c3) m (strL L)/\w2.heap.size<=w3.heap.size):=⟨Bx.new _ _ _,H3.out.trans ((below_alloc _ _).mono H3.out.size),own_below HO3.out (below_alloc _ _),H3.out.size⟩
       clear HO3
       generalize (w3.alloc (.cells #[.int .i64 0,.slice a3 m c3] 247))=w4 at S4 ⊢
       generalize w3.heap.size=nb at S4 ⊢
       clear H3
       go_wp2_with fail
       refine (recountLeaf_any nb m c3 a3 0 w4 S4.out.1).mono ?_
       rintro e w5 ⟨rfl,hw5⟩
       have hnb:=S4.out.2.2.2
       have HX5:Hid (Bx w5 nb 247 #[.int .i64 (m:Int),.slice a3 m c3]/\Below w2.heap.size w2 w5/\w5.ownsRow w2.heap.size 9 1 (.slice a3 m c3) m (strL L)/\Bx w5 w.heap.size 210 #[.bool true,.slice ka m kc,.slice da dn dc,.int .i64 ct]):=by
        subst hw5
        refine ⟨S4.out.1.set 0 _,S4.out.2.1.setCell hnb _,?_,(HG2.out.2.below S4.out.2.1).other (by simp;omega) _⟩
        have q:=S4.out.2.2.1
        refine ⟨q.1,?_⟩
        rcases q.2 with q|⟨g,cap,cur,q1,q2,q3,q4⟩
        ·exact Or.inl q
        ·refine Or.inr ⟨g,cap,cur,q1,q2,?_,q4⟩
         rw [Below.heap_setCell _ _ _ _ (show g≠nb from fun e=>?_)]
         ·exact q3
         ·subst e
          have:=S4.out.1
          unfold Bx at this
          rw [q3] at this
          injection this with this
          injection this with _ this _
          exact absurd this (by decide)
       clear hw5 S4
       have z0:=HX5.out.1.cell 0
       have g3:=HX5.out.2.2.2.cell 3
       simp at z0 g3
       have HTA:Hid (TAt (fun bb=>w.heap.size<=bb) w5 (d+1) (.inl L) (.iface 243 (.pointer (some ⟨nb,0,none⟩)))):=by
        have hz2:=HG2.out.1.size
        refine ⟨nb,a3,c3,rfl,by omega,?_,?_⟩
        ·rw [<- HML.out];exact HX5.out.1
        ·rw [<- HML.out];exact own_rdS HX5.out.2.2.1 HML.out (fun bb hb=>by omega)
       have HRB:Hid (RBx w5.drew rb b o n c (x+1) dep lk' hk'/\w.grownBy w5.drew (some rb)):=⟨HC.out.2.below HX5.out.2.1.drew,grown_trans HG2.out.1 (grown_below HX5.out.2.1.drew)⟩
       have HB:Hid (∀W:World,W.cell? ⟨nb,0,none⟩=some (.int .i64 (m:Int))->Calls Tryz.prog 147 #[.pointer (some ⟨nb,0,none⟩)] W fun e w'=>e=.returned (.int .i64 (m:Int))/\w'=W):=fun W hW=>below_any nb (m:Int) W hW
       by_cases hct:ct=(m:Int)
       ·subst hct
        have hq:((m:Int) == (m:Int))=true:=by simp
        go_upto_region 7 with fail
        go_region_held3 (fun w'=>w'.cell? ⟨nb,0,none⟩=some (.int .i64 (m:Int))/\w'.cell? ⟨w.heap.size,3,none⟩=some (.int .i64 (m:Int))) (go_keep) (first|(go_at_call 147;refine (HB.out _ (by simpa using z0)).mono ?_;rintro e w6 ⟨rfl,rfl⟩)|fail)
        all_goals
         go_wp2
         refine bodyPost_ret (v:=.tuple #[.iface 243 (.pointer (some ⟨nb,0,none⟩)),.bool true]) (by simp [results,Tryz.results137,go_sem]) rfl ⟨HRB.out.2,_,true,rfl,.inl ⟨rfl,.inl L,dep,hk',lk',HYes.out hk' lk' (by omega) HB2.out (by omega) HD.out.1 HC.out.1 trivial,HRB.out.1,HTA.out.below (Below.refl _ _).drew⟩⟩
       ·have hq:((m:Int) == ct)=false:=by simp;omega
        go_upto_region 7 with fail
        go_region_held3 (fun w'=>w'.cell? ⟨nb,0,none⟩=some (.int .i64 (m:Int))/\w'.cell? ⟨w.heap.size,3,none⟩=some (.int .i64 ct)) (go_keep) (first|(go_at_call 147;refine (HB.out _ (by simpa using z0)).mono ?_;rintro e w6 ⟨rfl,rfl⟩)|fail)
        all_goals
         go_wp2
         refine bodyPost_ret (v:=.tuple #[.iface 243 (.pointer (some ⟨nb,0,none⟩)),.bool false]) (by simp [results,Tryz.results137,go_sem]) rfl (HNo.out _ HRB.out.2 (fun ⟨t,D',hk',lk',g⟩=>?_) _)
         have q:=HGL.out t D' hk' lk' g
         exact hct q.2.2.2.2.2
   ·have i2:¬ (m:Int)<2:=by omega
    have i2' : decide ((m:Int)<2)=false:=decide_eq_false i2
    have n2' : decide (m<2)=false:=decide_eq_false hm2'
    clear h2 hpick
    go_enter Tryz.func137,Tryz.ntmps137
    go_upto_region 3 with fail
    have S1:Hid (Bx (w.alloc (.cells #[.bool true,.slice ka m kc,.slice da dn dc,.int .i64 ct] 210)) w.heap.size 210 #[.bool true,.slice ka m kc,.slice da dn dc,.int .i64 ct]/\RBx (w.alloc (.cells #[.bool true,.slice ka m kc,.slice da dn dc,.int .i64 ct] 210)) rb b o n c (x+1) D lk hk/\Below w.heap.size w (w.alloc (.cells #[.bool true,.slice ka m kc,.slice da dn dc,.int .i64 ct] 210))):=⟨Bx.new _ _ _,HR.out.alloc _,below_alloc _ _⟩
    clear HR
    generalize (w.alloc (.cells #[.bool true,.slice ka m kc,.slice da dn dc,.int .i64 ct] 210))=W at S1 ⊢
    have g2:=S1.out.1.cell 2
    have hWl:=S1.out.1.lt
    simp at g2
    by_cases hdn0:0<dn
    ·have id0:(0:Int)<(dn:Int):=by omega
     have id0' : decide ((0:Int)<(dn:Int))=true:=decide_eq_true id0
     have nd0' : decide (0<dn)=true:=decide_eq_true hdn0
     go_wp2
     refine bodyPost_ret (v:=.tuple #[.nilIface,.bool false]) (by simp [results,Tryz.results137,go_sem]) rfl (HNo.out _ (grown_below S1.out.2.2) (fun ⟨t,D',hk',lk',g⟩=>by have:=HGL.out t D' hk' lk' g;omega) _)
    ·have id0:¬ (0:Int)<(dn:Int):=by omega
     have id0' : decide ((0:Int)<(dn:Int))=false:=decide_eq_false id0
     have nd0' : decide (0<dn)=false:=decide_eq_false hdn0
     go_wp2_with fail
     refine (leafDepth_any rb b o n c (x+1) dep D lk hk _ S1.out.2.1 hd0).mono ?_
     rintro e w1 ⟨ok,rfl,hg1,hs1,hr1⟩
     have HG1:Hid (w.grownBy w1 (some rb)/\Bx w1 w.heap.size 210 #[.bool true,.slice ka m kc,.slice da dn dc,.int .i64 ct]):=⟨grown_trans (grown_below S1.out.2.2) hg1,S1.out.1.grown hg1 (fun e=>by injection e with e;omega)⟩
     have HR1:Hid ((ok=true/\(D=0\/D=dep)/\RBx w1 rb b o n c (x+1) dep lk hk)\/(ok=false/\¬ (D=0\/D=dep))):=hr1
     clear hg1 hs1 hr1 g2 S1
     have g1:=HG1.out.2.cell 1
     have hWl1:=HG1.out.2.lt
     simp at g1
     cases ok with
     | false=>
      go_wp2
      refine bodyPost_ret (v:=.tuple #[.nilIface,.bool false]) (by simp [results,Tryz.results137,go_sem]) rfl (HNo.out _ HG1.out.1 (fun ⟨t,D',hk',lk',g⟩=>?_) _)
      have q:=HGL.out t D' hk' lk' g
      rcases HR1.out with ⟨e,_⟩|⟨_,e⟩
      ·cases e
      ·exact e q.2.2.2.1
     | true=>
      have HD:Hid ((D=0\/D=dep)/\RBx w1 rb b o n c (x+1) dep lk hk):=by
       rcases HR1.out with ⟨_,e⟩|⟨e,_⟩
       ·exact e
       ·cases e
      clear HR1
      go_wp2_with fail
      refine (passKeys_any rb b o n c (x+1) m kc ka dep lk hk L w1 HD.out.2 HML.out hm2 (fun W' hW'=>HK.out W' (below_grown (grown_trans HG1.out.1 hW') (by omega) (Nat.le_refl _)))).mono ?_
      rintro e w2 ⟨ok2,rfl,hg2,hs2,hr2⟩
      have HG2:Hid (w.grownBy w2 (some rb)/\Bx w2 w.heap.size 210 #[.bool true,.slice ka m kc,.slice da dn dc,.int .i64 ct]):=⟨grown_trans HG1.out.1 hg2,HG1.out.2.grown hg2 (fun e=>by injection e with e;omega)⟩
      have HR2:Hid ((ok2=true/\∃hk' lk',Chain hk lk L hk' lk'/\RBx w2 rb b o n c (x+1) dep lk' hk')\/(ok2=false/\∀hk' lk',¬ Chain hk lk L hk' lk')):=hr2
      clear hg2 hs2 hr2 g1 HG1
      have g1:=HG2.out.2.cell 1
      have hWl2:=HG2.out.2.lt
      simp at g1
      cases ok2 with
      | false=>
       go_wp2
       refine bodyPost_ret (v:=.tuple #[.nilIface,.bool false]) (by simp [results,Tryz.results137,go_sem]) rfl (HNo.out _ HG2.out.1 (fun ⟨t,D',hk',lk',g⟩=>?_) _)
       have q:=HGL.out t D' hk' lk' g
       rcases HR2.out with ⟨e,_⟩|⟨_,e⟩
       ·cases e
       ·exact e _ _ q.2.2.2.2.1
      | true=>
       obtain ⟨hk',lk',hch,hrb⟩:∃hk' lk',Chain hk lk L hk' lk'/\RBx w2 rb b o n c (x+1) dep lk' hk':=by
        rcases HR2.out with ⟨_,e⟩|⟨e,_⟩
        ·exact e
        ·cases e
       have HC:Hid (Chain hk lk L hk' lk'/\RBx w2 rb b o n c (x+1) dep lk' hk'):=⟨hch,hrb⟩
       clear HR2 hch hrb
       go_wp2_with fail
       refine (copyStrs_any ka m kc L w2 (HK.out w2 (below_grown HG2.out.1 (by omega) (Nat.le_refl _))) HML.out hm2).mono ?_
       rintro e w3 ⟨a3,c3,rfl,ho3,hb3⟩
       have HO3:Hid (w3.ownsRow w2.heap.size 9 1 (.slice a3 m c3) m (strL L)):=ho3
       have H3:Hid (Below w2.heap.size w2 w3):=hb3
       clear ho3 hb3 g1
       go_upto_region 6 with fail
       have S4:Hid (Bx (w3.alloc (.cells #[.int .i64 0,.slice a3 m c3] 247)) w3.heap.size 247 #[.int .i64 0,.slice a3 m c3]/\Below w2.heap.size w2 (w3.alloc (.cells #[.int .i64 0,.slice a3 m c3] 247))/\(w3.alloc (.cells #[.int .i64 0,.slice a3 m c3] 247)).ownsRow w2.heap.size 9 1 (.slice a3 m c3) m (strL L)/\w2.heap.size<=w3.heap.size):=⟨Bx.new _ _ _,H3.out.trans ((below_alloc _ _).mono H3.out.size),own_below HO3.out (below_alloc _ _),H3.out.size⟩
       clear HO3
       generalize (w3.alloc (.cells #[.int .i64 0,.slice a3 m c3] 247))=w4 at S4 ⊢
       generalize w3.heap.size=nb at S4 ⊢
       clear H3
       go_wp2_with fail
       refine (recountLeaf_any nb m c3 a3 0 w4 S4.out.1).mono ?_
       rintro e w5 ⟨rfl,hw5⟩
       have hnb:=S4.out.2.2.2
       have HX5:Hid (Bx w5 nb 247 #[.int .i64 (m:Int),.slice a3 m c3]/\Below w2.heap.size w2 w5/\w5.ownsRow w2.heap.size 9 1 (.slice a3 m c3) m (strL L)/\Bx w5 w.heap.size 210 #[.bool true,.slice ka m kc,.slice da dn dc,.int .i64 ct]):=by
        subst hw5
        refine ⟨S4.out.1.set 0 _,S4.out.2.1.setCell hnb _,?_,(HG2.out.2.below S4.out.2.1).other (by simp;omega) _⟩
        have q:=S4.out.2.2.1
        refine ⟨q.1,?_⟩
        rcases q.2 with q|⟨g,cap,cur,q1,q2,q3,q4⟩
        ·exact Or.inl q
        ·refine Or.inr ⟨g,cap,cur,q1,q2,?_,q4⟩
         rw [Below.heap_setCell _ _ _ _ (show g≠nb from fun e=>?_)]
         ·exact q3
         ·subst e
          have:=S4.out.1
          unfold Bx at this
          rw [q3] at this
          injection this with this
          injection this with _ this _
          exact absurd this (by decide)
       clear hw5 S4
       have z0:=HX5.out.1.cell 0
       have g3:=HX5.out.2.2.2.cell 3
       simp at z0 g3
       have HTA:Hid (TAt (fun bb=>w.heap.size<=bb) w5 (d+1) (.inl L) (.iface 243 (.pointer (some ⟨nb,0,none⟩)))):=by
        have hz2:=HG2.out.1.size
        refine ⟨nb,a3,c3,rfl,by omega,?_,?_⟩
        ·rw [<- HML.out];exact HX5.out.1
        ·rw [<- HML.out];exact own_rdS HX5.out.2.2.1 HML.out (fun bb hb=>by omega)
       have HRB:Hid (RBx w5.drew rb b o n c (x+1) dep lk' hk'/\w.grownBy w5.drew (some rb)):=⟨HC.out.2.below HX5.out.2.1.drew,grown_trans HG2.out.1 (grown_below HX5.out.2.1.drew)⟩
       have HB:Hid (∀W:World,W.cell? ⟨nb,0,none⟩=some (.int .i64 (m:Int))->Calls Tryz.prog 147 #[.pointer (some ⟨nb,0,none⟩)] W fun e w'=>e=.returned (.int .i64 (m:Int))/\w'=W):=fun W hW=>below_any nb (m:Int) W hW
       by_cases hct:ct=(m:Int)
       ·subst hct
        have hq:((m:Int) == (m:Int))=true:=by simp
        go_upto_region 7 with fail
        go_region_held3 (fun w'=>w'.cell? ⟨nb,0,none⟩=some (.int .i64 (m:Int))/\w'.cell? ⟨w.heap.size,3,none⟩=some (.int .i64 (m:Int))) (go_keep) (first|(go_at_call 147;refine (HB.out _ (by simpa using z0)).mono ?_;rintro e w6 ⟨rfl,rfl⟩)|fail)
        all_goals
         go_wp2
         refine bodyPost_ret (v:=.tuple #[.iface 243 (.pointer (some ⟨nb,0,none⟩)),.bool true]) (by simp [results,Tryz.results137,go_sem]) rfl ⟨HRB.out.2,_,true,rfl,.inl ⟨rfl,.inl L,dep,hk',lk',HYes.out hk' lk' (by omega) HB2.out (by omega) HD.out.1 HC.out.1 trivial,HRB.out.1,HTA.out.below (Below.refl _ _).drew⟩⟩
       ·have hq:((m:Int) == ct)=false:=by simp;omega
        go_upto_region 7 with fail
        go_region_held3 (fun w'=>w'.cell? ⟨nb,0,none⟩=some (.int .i64 (m:Int))/\w'.cell? ⟨w.heap.size,3,none⟩=some (.int .i64 ct)) (go_keep) (first|(go_at_call 147;refine (HB.out _ (by simpa using z0)).mono ?_;rintro e w6 ⟨rfl,rfl⟩)|fail)
        all_goals
         go_wp2
         refine bodyPost_ret (v:=.tuple #[.iface 243 (.pointer (some ⟨nb,0,none⟩)),.bool false]) (by simp [results,Tryz.results137,go_sem]) rfl (HNo.out _ HRB.out.2 (fun ⟨t,D',hk',lk',g⟩=>?_) _)
         have q:=HGL.out t D' hk' lk' g
         exact hct q.2.2.2.2.2
end Go.Proofs.YtpaomghibppgkaaGreat
