import Derived.Test.YtcnollkkigiobaaGreatNd38
import Derived.Test.YtcnollkkigiobaaGreatNd32
set_option linter.unusedVariables false
set_option maxRecDepth 100000
namespace Go.Proofs.YtcnollkkigiobaaGreat
open Go.RowKit Go.Deep

set_option maxHeartbeats 8000000 in
theorem specDelN (a:Option Addr) (n c:Nat) (N:Nat->Tn) (key:ByteArray) (w:World) (h:RdTnC capC w a n N) (hn:n<=1048576) (hN:∀i,i<n->TnFit (N i)) (hkey:key.size<=maxLen) :
  Calls Tryz.prog 50 #[.agg #[.slice a n c],.string key] w (RetDlN w n N key):=by
 have HR:Hid (RdTn w a n N/\∀i,i<n->TnFit (N i)):=⟨h.rd,hN⟩
 have HOf:Hid (∀W,Below w.heap.size w W->Calls Tryz.prog 57 #[.agg #[.slice a n c]] W (RetOfC capC W n N)):=fun W hW=>of_anyC capC a n c N W (h.below hW) hn hN
 clear h hN
 have HB0:Hid (∀O1 O2:Obj,Below w.heap.size w ((w.alloc O1).alloc O2)):=fun _ _=>(below_alloc _ _).alloc (by simp) _
 go_enter Tryz.func50,Tryz.ntmps50
 go_wp2_with fail
 (with_reducible refine (HOf.out _ (HB0.out _ _)).mono ?_)
 rintro e w1 ⟨hb1,lf,ka,kn,kc,ca,cn,cc,ok,rfl,hr⟩
 have htb:=((Bx.new w #[.slice a n c] 59).alloc (.cells #[.bool false,.slice none 0 0] 78)).below hb1
 have hrb:Bx w1 (w.heap.size+1) 78 #[.bool false,.slice none 0 0]:=by
  have q:=(Bx.new (w.alloc (.cells #[.slice a n c] 59)) #[.bool false,.slice none 0 0] 78).below hb1
  simpa using q
 have HB1:Hid (Below w.heap.size w w1):=(HB0.out _ _).trans (hb1.mono (by simp;omega))
 have BT1:Hid (∀W,Below w1.heap.size w1 W->Below w.heap.size w W/\W.cell? ⟨w.heap.size,0,none⟩=some (.slice a n c)/\w.heap.size<W.heap.size/\Bx W (w.heap.size+1) 78 #[.bool false,.slice none 0 0]):=fun W hW=>⟨HB1.out.trans (hW.mono HB1.out.size),by simpa using (htb.below hW).cell 0,(htb.below hW).lt,hrb.below hW⟩
 have HRR:Hid ((ok=false/\¬ VT n N)\/(ok=true/\∃t,VTt n N t/\NAC capC w1 21 t (.agg #[.bool lf,.slice ka kn kc,.slice ca cn cc]))):=by
  rcases hr with ⟨h1,h2,_⟩|h
  ·exact .inl ⟨h1,h2⟩
  ·exact .inr h
 clear hr hb1 htb hrb HOf
 have BX1:Hid (Below w1.heap.size w1 (w1.alloc (.cells #[.bool lf,.slice ka kn kc,.slice ca cn cc] 91))/\Bx (w1.alloc (.cells #[.bool lf,.slice ka kn kc,.slice ca cn cc] 91)) w1.heap.size 91 #[.bool lf,.slice ka kn kc,.slice ca cn cc]):=⟨below_alloc _ _,Bx.new _ _ _⟩
 cases ok with
 | false=>
  have HNo:Hid (DelNo n N key):=by
   intro t hv
   rcases HRR.out with ⟨_,q⟩|⟨q,_⟩
   ·exact absurd ⟨t,hv⟩ q
   ·cases q
  clear HRR
  go_upto_region 3 with fail
  generalize (w1.alloc (.cells #[.bool lf,.slice ka kn kc,.slice ca cn cc] 91))=W at BX1 ⊢
  have HBQ:Hid (Below w.heap.size w W):=(BT1.out W BX1.out.1).1
  have HBT:Hid (W.cell? ⟨w.heap.size,0,none⟩=some (.slice a n c)/\w.heap.size<W.heap.size/\Bx W (w.heap.size+1) 78 #[.bool false,.slice none 0 0]):=(BT1.out W BX1.out.1).2
  have HCp:Hid (Calls Tryz.prog 77 #[.agg #[.slice a n c]] W (RetNs W n N)):=copyS_any a n c N W (HR.out.1.below HBQ.out) hn HR.out.2
  have t0:=HBT.out.1
  have tz:=HBT.out.2.1
  go_wp2_with fail
  (with_reducible refine HCp.out.mono ?_)
  rintro e wz ⟨hbz,az,cz,rfl,hrz⟩
  have HZb:Hid (Below w.heap.size w wz/\Bx wz (w.heap.size+1) 78 #[.bool false,.slice none 0 0]/\RowN (w.heap.size+2) wz az n N):=by
   have q:Below w.heap.size w W:=HBQ.out
   have q2:=HBT.out.2.2
   exact ⟨q.trans (hbz.mono q.size),q2.below hbz,hrz.keep (by have:=q2.lt;have:=q.size;omega) (Nat.le_refl _) (fun _ _ _=>rfl)⟩
  have r0:=HZb.out.2.1.cell 0
  have r1:=HZb.out.2.1.cell 1
  simp at r0 r1
  have rz:=HZb.out.2.1.lt
  have rf:=fun i=>HZb.out.2.1.frozen i
  clear hbz hrz t0 tz
  go_wp2
  refine bodyPost_ret (v:=.agg #[.bool false,.slice az n cz]) (by simp [results,Tryz.results50,go_sem,r0,r1]) rfl ⟨(HZb.out.1.setCell (by simp) _).setCell (by simp) _,false,az,n,cz,N,rfl,?_,.inr ⟨rfl,rfl,rfl,HNo.out⟩⟩
  exact (HZb.out.2.2.keep (Nat.le_refl _) (by simp [World.setCell]) (fun b hb _=>by rw [Below.heap_setCell _ _ _ _ (show b≠w.heap.size+1 by omega),Below.heap_setCell _ _ _ _ (show b≠w.heap.size+1 by omega)]))
 | true=>
  obtain ⟨t,hvt,hna⟩:∃t,VTt n N t/\NAC capC w1 21 t (.agg #[.bool lf,.slice ka kn kc,.slice ca cn cc]):=by
   rcases HRR.out with ⟨q,_⟩|⟨_,q⟩
   ·cases q
   ·exact q
  have HVT:Hid (VTt n N t):=hvt
  have HNG:Hid (NG (fun b=>b<w1.heap.size) w1 21 t (.agg #[.bool lf,.slice ka kn kc,.slice ca cn cc])):=hna.ng
  obtain ⟨h1,h2,h3,⟨hh,h4⟩,h5,h6⟩:=hvt
  have hend:=nestR_end h3
  have hfl:=fit_len (bal_fit h4)
  have HF:Hid (nodesR 21 t<=5000/\(keysR 21 t).length<=20000/\BalR 21 true t hh/\Asc (keysR 21 t)):=⟨by omega,by omega,h4,asc_of_ascK h5⟩
  clear HRR hna h1 h2 h3 h4 h5 h6 hend hfl
  have HKeys:Hid (∀W,Below w1.heap.size w1 W->Calls Tryz.prog 58 #[.agg #[.bool lf,.slice ka kn kc,.slice ca cn cc]] W (RetStrs W (keysR 21 t))):=fun W hW=>keys_any 21 t _ W (HNG.out.below hW).na HF.out.1 (by have:=HF.out.2.1;omega)
  go_upto_region 2 with fail
  generalize (w1.alloc (.cells #[.bool lf,.slice ka kn kc,.slice ca cn cc] 91))=W at BX1 ⊢
  have x0:=BX1.out.2.cell 0
  have x1:=BX1.out.2.cell 1
  have x2:=BX1.out.2.cell 2
  simp at x0 x1 x2
  have xz:=BX1.out.2.lt
  go_wp2_with fail
  (with_reducible refine (HKeys.out W BX1.out.1).mono ?_)
  rintro e w3 ⟨a3,c3,rfl,ho3,hb3,_,_⟩
  have HB3:Hid (Below w1.heap.size w1 w3/\Bx w3 w1.heap.size 91 #[.bool lf,.slice ka kn kc,.slice ca cn cc]):=⟨BX1.out.1.trans (hb3.mono BX1.out.1.size),BX1.out.2.below hb3⟩
  have HHo:Hid (Calls Tryz.prog 78 #[.slice a3 (keysR 21 t).length c3,.string key] w3 fun e w'=>∃b:Bool,e=.returned (.bool b)/\(b=true↔key∈keysR 21 t)/\Below w3.heap.size w3 w'):=holds_any a3 (keysR 21 t).length c3 (keysR 21 t) key w3 ho3.rd rfl (by have:=HF.out.2.1;omega)
  clear ho3 hb3 x0 x1 x2 xz BX1 HKeys
  go_wp2_with fail
  (with_reducible refine HHo.out.mono ?_)
  rintro e w4 ⟨bb,rfl,hbb,hb4⟩
  have HB4:Hid (Below w1.heap.size w1 w4/\Bx w4 w1.heap.size 91 #[.bool lf,.slice ka kn kc,.slice ca cn cc]):=⟨HB3.out.1.trans (hb4.mono HB3.out.1.size),HB3.out.2.below hb4⟩
  have HBB:Hid (bb=true↔key∈keysR 21 t):=hbb
  clear hb4 hbb HHo HB3
  cases bb with
  | false=>
   have HNo:Hid (DelNo n N key):=fun t' hv q=>by
    have q2:false=true:=HBB.out.2 (by rw [<- hv.fn HVT.out];exact q)
    cases q2
   clear HVT HNG HF
   have HBQ:Hid (Below w.heap.size w w4):=(BT1.out w4 HB4.out.1).1
   have HBT:Hid (w4.cell? ⟨w.heap.size,0,none⟩=some (.slice a n c)/\w.heap.size<w4.heap.size/\Bx w4 (w.heap.size+1) 78 #[.bool false,.slice none 0 0]):=(BT1.out w4 HB4.out.1).2
   have HCp:Hid (Calls Tryz.prog 77 #[.agg #[.slice a n c]] w4 (RetNs w4 n N)):=copyS_any a n c N w4 (HR.out.1.below HBQ.out) hn HR.out.2
   have t0:=HBT.out.1
   have tz:=HBT.out.2.1
   go_wp2_with fail
   (with_reducible refine HCp.out.mono ?_)
   rintro e wz ⟨hbz,az,cz,rfl,hrz⟩
   have HZb:Hid (Below w.heap.size w wz/\Bx wz (w.heap.size+1) 78 #[.bool false,.slice none 0 0]/\RowN (w.heap.size+2) wz az n N):=by
    have q:Below w.heap.size w w4:=HBQ.out
    have q2:=HBT.out.2.2
    exact ⟨q.trans (hbz.mono q.size),q2.below hbz,hrz.keep (by have:=q2.lt;have:=q.size;omega) (Nat.le_refl _) (fun _ _ _=>rfl)⟩
   have r0:=HZb.out.2.1.cell 0
   have r1:=HZb.out.2.1.cell 1
   simp at r0 r1
   have rz:=HZb.out.2.1.lt
   have rf:=fun i=>HZb.out.2.1.frozen i
   clear hbz hrz t0 tz
   go_wp2
   refine bodyPost_ret (v:=.agg #[.bool false,.slice az n cz]) (by simp [results,Tryz.results50,go_sem,r0,r1]) rfl ⟨(HZb.out.1.setCell (by simp) _).setCell (by simp) _,false,az,n,cz,N,rfl,?_,.inr ⟨rfl,rfl,rfl,HNo.out⟩⟩
   exact (HZb.out.2.2.keep (Nat.le_refl _) (by simp [World.setCell]) (fun b hb _=>by rw [Below.heap_setCell _ _ _ _ (show b≠w.heap.size+1 by omega),Below.heap_setCell _ _ _ _ (show b≠w.heap.size+1 by omega)]))
  | true=>
   have HIn:Hid (key∈keysR 21 t):=HBB.out.1 rfl
   have HDl:Hid (Calls Tryz.prog 88 #[.agg #[.bool lf,.slice ka kn kc,.slice ca cn cc],.string key] w4 (fun e w'=>∃r,DelR key 21 t r/\RetG3 (fun b=>b<w1.heap.size) w4 21 r e w')):=del_any key 21 t _ true hh _ w4 (HNG.out.below HB4.out.1) HF.out.2.2.1 HF.out.2.2.2 HF.out.1 (by have:=HF.out.2.1;omega)
   have x0:=HB4.out.2.cell 0
   have x1:=HB4.out.2.cell 1
   have x2:=HB4.out.2.cell 2
   simp at x0 x1 x2
   have xz:=HB4.out.2.lt
   clear HBB
   go_wp2_with fail
   (with_reducible refine HDl.out.mono ?_)
   rintro e w5 ⟨r,hdel,hb5,lfy,kay,kny,kcy,cay,cny,ccy,rfl,hgy⟩
   have HB5:Hid (Below w1.heap.size w1 w5):=HB4.out.1.trans (hb5.mono HB4.out.1.size)
   have HDel:Hid (DelR key 21 t r):=hdel
   have HBU:Hid (BalU 21 r hh/\nodesR 21 r<=5000):=⟨(DelR.bal HF.out.2.2.1 HF.out.2.2.2 hdel).1,by have:=DelR.nodes HF.out.2.2.1 HF.out.2.2.2 hdel;have:=HF.out.1;omega⟩
   clear x0 x1 x2 xz HDl HB4 HF HNG hdel hb5
   rcases r with ks|l
   ·have hgy0:=hgy
    obtain ⟨ka',kc',ca',cc',e,_⟩:=hgy
    injection e with e
    injection e with e
    injection e with e0 e
    injection e0 with e0
    subst e0
    clear e
    have HNa:Hid (NG _ w5 21 (.inl ks) (.agg #[.bool true,.slice kay kny kcy,.slice cay cny ccy])):=hgy0
    have HBa:Hid (BalR 21 true (.inl ks) hh):=⟨HBU.out.1.1,HBU.out.1.2,Or.inl rfl⟩
    have HNd:Hid (nodesR 21 (.inl ks)<=5000):=HBU.out.2
    clear hgy0
    obtain ⟨m,hm⟩:∃m,m=nodesR 21 (.inl ks):=⟨_,rfl⟩
    have HM:Hid (m=nodesR 21 (.inl ks)):=hm
    have hm6:m<=5000:=by rw [hm];exact HNd.out
    have HFl:Hid (∀W,Below w5.heap.size w5 W->Calls Tryz.prog 80 #[.agg #[.bool true,.slice kay kny kcy,.slice cay cny ccy],.int .i64 0] W (fun e w'=>∃ra rc G,e=.returned (.slice ra m rc)/\Below w5.heap.size w5 w'/\RowN w5.heap.size w' ra m G/\Tells G 0 21 (.inl ks) 0)):=by
     intro W hW
     have hfy:=fit_len (bal_fit HBa.out)
     have hnd:=HNd.out
     refine (flat_any6 21 (.inl ks) _ true _ 0 W (HNa.out.below hW).na (by omega) (by omega) HBa.out (by omega) (by omega)).mono (fun e w' hr=>?_)
     obtain ⟨ra,rc,G,xs6,q1,q2,q3,q4,q5⟩:=hr
     rw [<- hm] at q1 q3 q4
     exact ⟨ra,rc,G,q1,hW.trans (q2.mono hW.size),(FlAt.rowN q3 q4).keep hW.size (Nat.le_refl _) (fun _ _ _=>rfl),q5⟩
    clear hm
    go_wp2_with fail
    (with_reducible refine (HFl.out _ (below_alloc _ _)).mono ?_)
    rintro e w6 ⟨ra,rc,G,rfl,hb6,hrow6,htl6⟩
    have hz5:w.heap.size+2<=w5.heap.size:=by have:=(BT1.out w5 HB5.out).2.2.2.lt;omega
    have HB6:Hid (Below w1.heap.size w1 w6):=HB5.out.trans (hb6.mono HB5.out.size)
    have HRow:Hid (RowN (w.heap.size+2) w6 ra m G/\Tells G 0 21 (.inl ks) 0):=⟨hrow6.keep (by omega) (Nat.le_refl _) (fun _ _ _=>rfl),htl6⟩
    clear hb6 hrow6 htl6 HFl
    have HRB:Hid (Bx w6 (w.heap.size+1) 78 #[.bool false,.slice none 0 0]/\Below w.heap.size w w6):=⟨(BT1.out w6 HB6.out).2.2.2,(BT1.out w6 HB6.out).1⟩
    have r0:=HRB.out.1.cell 0
    have r1:=HRB.out.1.cell 1
    simp at r0 r1
    have rz:=HRB.out.1.lt
    have rf:=fun i=>HRB.out.1.frozen i
    go_wp2
    refine bodyPost_ret (v:=.agg #[.bool true,.slice ra m rc]) (by simp [results,Tryz.results50,go_sem,r0,r1]) rfl ⟨(HRB.out.2.setCell (by simp) _).setCell (by simp) _,true,ra,m,rc,G,rfl,?_,.inl ⟨rfl,t,_,HVT.out,HIn.out,HDel.out,hm6,.inr ⟨fun y e=>(by cases e),HM.out,HRow.out.2⟩⟩⟩
    exact (HRow.out.1.keep (Nat.le_refl _) (by simp [World.setCell]) (fun b hb _=>by rw [Below.heap_setCell _ _ _ _ (show b≠w.heap.size+1 by omega),Below.heap_setCell _ _ _ _ (show b≠w.heap.size+1 by omega)]))
   ·have hgy0:=hgy
    obtain ⟨ka',kc',g,cc',xs,e,⟨hs,hcap⟩,hgl,hl,hx,hk⟩:=hgy
    injection e with e
    injection e with e
    injection e with e0 e
    injection e with e1 e
    injection e with e2 e
    injection e0 with e0
    injection e1 with e10 e11 e12
    injection e2 with e20 e21 e22
    subst e0 e10 e11 e12 e20 e21 e22
    clear e
    obtain ⟨b1,b4,hh',rfl,hball⟩:=HBU.out.1
    by_cases h1:l.length=1
    ·obtain ⟨y,ey⟩:∃y,l=[y]:=List.length_eq_one_iff.1 h1
     rw [h1] at hcap hl ⊢
     subst ey
     match xs,hk with
     | x0::x1::x2::[],hk=>
     obtain ⟨hy,_⟩:=hk
     have hy0:NG _ w5 20 y (.agg #[x0,x1,x2]):=hy
     obtain ⟨lfz,kaz,knz,kcz,caz,cnz,ccz,ey⟩:=NestAt.form hy
     injection ey with ey
     injection ey with ey
     injection ey with e0 ey
     injection ey with e1 ey
     injection ey with e2 ey
     subst e0 e1 e2
     have z0:=hx 0 _ rfl
     have z1:=hx 1 _ rfl
     have z2:=hx 2 _ rfl
     have HNa:Hid (NG _ w5 20 y (.agg #[.bool lfz,.slice kaz knz kcz,.slice caz cnz ccz])):=hy0
     have HBa0:Hid (BalR 20 false y hh'):=hball y (by simp)
     have HBa:Hid (BalR 20 true y hh'):=(BalU.of HBa0.out).full true HBa0.out.siz
     have HNd:Hid (nodesR 20 y<=5000):=by
      have q:=HBU.out.2
      have q2:nodesR 21 (.inr [y])=1+(nodesR 20 y+0):=rfl
      show _<=_
      omega
     clear hx hy hy0 ey hgy0 hball HBU
     obtain ⟨m,hm⟩:∃m,m=nodesR 20 y:=⟨_,rfl⟩
     have HM:Hid (m=nodesR 20 y):=hm
     have hm6:m<=5000:=by rw [hm];exact HNd.out
     have HFl:Hid (∀W,Below w5.heap.size w5 W->Calls Tryz.prog 80 #[.agg #[.bool lfz,.slice kaz knz kcz,.slice caz cnz ccz],.int .i64 0] W (fun e w'=>∃ra rc G,e=.returned (.slice ra m rc)/\Below w5.heap.size w5 w'/\RowN w5.heap.size w' ra m G/\Tells G 0 20 y 0)):=by
      intro W hW
      have hfy:=fit_len (bal_fit HBa.out)
      have hnd:=HNd.out
      refine (flat_any6 20 y _ true _ 0 W (HNa.out.below hW).na (by omega) (by omega) HBa.out (by omega) (by omega)).mono (fun e w' hr=>?_)
      obtain ⟨ra,rc,G,xs6,q1,q2,q3,q4,q5⟩:=hr
      rw [<- hm] at q1 q3 q4
      exact ⟨ra,rc,G,q1,hW.trans (q2.mono hW.size),(FlAt.rowN q3 q4).keep hW.size (Nat.le_refl _) (fun _ _ _=>rfl),q5⟩
     clear hm
     go_wp2_with fail
     (with_reducible refine (HFl.out _ (below_alloc _ _)).mono ?_)
     rintro e w6 ⟨ra,rc,G,rfl,hb6,hrow6,htl6⟩
     have hz5:w.heap.size+2<=w5.heap.size:=by have:=(BT1.out w5 HB5.out).2.2.2.lt;omega
     have HB6:Hid (Below w1.heap.size w1 w6):=HB5.out.trans (hb6.mono HB5.out.size)
     have HRow:Hid (RowN (w.heap.size+2) w6 ra m G/\Tells G 0 20 y 0):=⟨hrow6.keep (by omega) (Nat.le_refl _) (fun _ _ _=>rfl),htl6⟩
     clear hb6 hrow6 htl6 HFl
     have HRB:Hid (Bx w6 (w.heap.size+1) 78 #[.bool false,.slice none 0 0]/\Below w.heap.size w w6):=⟨(BT1.out w6 HB6.out).2.2.2,(BT1.out w6 HB6.out).1⟩
     have r0:=HRB.out.1.cell 0
     have r1:=HRB.out.1.cell 1
     simp at r0 r1
     have rz:=HRB.out.1.lt
     have rf:=fun i=>HRB.out.1.frozen i
     go_wp2
     refine bodyPost_ret (v:=.agg #[.bool true,.slice ra m rc]) (by simp [results,Tryz.results50,go_sem,r0,r1]) rfl ⟨(HRB.out.2.setCell (by simp) _).setCell (by simp) _,true,ra,m,rc,G,rfl,?_,.inl ⟨rfl,t,_,HVT.out,HIn.out,HDel.out,hm6,.inl ⟨y,rfl,HM.out,HRow.out.2⟩⟩⟩
     exact (HRow.out.1.keep (Nat.le_refl _) (by simp [World.setCell]) (fun b hb _=>by rw [Below.heap_setCell _ _ _ _ (show b≠w.heap.size+1 by omega),Below.heap_setCell _ _ _ _ (show b≠w.heap.size+1 by omega)]))
    ·have hld:decide ((l.length:Int)=1)=false:=decide_eq_false (by omega)
     have hli:¬ (l.length:Int)=1:=by omega
     have HNa:Hid (NG _ w5 21 (.inr l) (.agg #[.bool false,.slice kay 0 kcy,.slice (some ⟨g,0,none⟩) l.length ccy])):=hgy0
     have HBa:Hid (BalR 21 true (.inr l) (hh'+1)):=HBU.out.1.full true (by show 2<=l.length;omega)
     have HNd:Hid (nodesR 21 (.inr l)<=5000):=HBU.out.2
     have HN1:Hid (∀y:Ro 20,(Sum.inr l:Ro 21)≠.inr [y]):=fun y e=>by
      injection e with e
      rw [e] at h1
      exact h1 rfl
     clear hx hk hgy0 hball HBU
     obtain ⟨ln,hln⟩:∃ln,ln=l.length:=⟨_,rfl⟩
     rw [<- hln] at HNa hcap hl b1 b4 h1 hld hli ⊢
     clear hln
     obtain ⟨m,hm⟩:∃m,m=nodesR 21 (.inr l):=⟨_,rfl⟩
     have HM:Hid (m=nodesR 21 (.inr l)):=hm
     have hm6:m<=5000:=by rw [hm];exact HNd.out
     have HFl:Hid (∀W,Below w5.heap.size w5 W->Calls Tryz.prog 80 #[.agg #[.bool false,.slice kay 0 kcy,.slice (some ⟨g,0,none⟩) ln ccy],.int .i64 0] W (fun e w'=>∃ra rc G,e=.returned (.slice ra m rc)/\Below w5.heap.size w5 w'/\RowN w5.heap.size w' ra m G/\Tells G 0 21 (.inr l) 0)):=by
      intro W hW
      have hfy:=fit_len (bal_fit HBa.out)
      have hnd:=HNd.out
      refine (flat_any6 21 (.inr l) _ true _ 0 W (HNa.out.below hW).na (by omega) (by omega) HBa.out (by omega) (by omega)).mono (fun e w' hr=>?_)
      obtain ⟨ra,rc,G,xs6,q1,q2,q3,q4,q5⟩:=hr
      rw [<- hm] at q1 q3 q4
      exact ⟨ra,rc,G,q1,hW.trans (q2.mono hW.size),(FlAt.rowN q3 q4).keep hW.size (Nat.le_refl _) (fun _ _ _=>rfl),q5⟩
     clear hm
     go_wp2_with fail
     (with_reducible refine (HFl.out _ (below_alloc _ _)).mono ?_)
     rintro e w6 ⟨ra,rc,G,rfl,hb6,hrow6,htl6⟩
     have hz5:w.heap.size+2<=w5.heap.size:=by have:=(BT1.out w5 HB5.out).2.2.2.lt;omega
     have HB6:Hid (Below w1.heap.size w1 w6):=HB5.out.trans (hb6.mono HB5.out.size)
     have HRow:Hid (RowN (w.heap.size+2) w6 ra m G/\Tells G 0 21 (.inr l) 0):=⟨hrow6.keep (by omega) (Nat.le_refl _) (fun _ _ _=>rfl),htl6⟩
     clear hb6 hrow6 htl6 HFl
     have HRB:Hid (Bx w6 (w.heap.size+1) 78 #[.bool false,.slice none 0 0]/\Below w.heap.size w w6):=⟨(BT1.out w6 HB6.out).2.2.2,(BT1.out w6 HB6.out).1⟩
     have r0:=HRB.out.1.cell 0
     have r1:=HRB.out.1.cell 1
     simp at r0 r1
     have rz:=HRB.out.1.lt
     have rf:=fun i=>HRB.out.1.frozen i
     go_wp2
     refine bodyPost_ret (v:=.agg #[.bool true,.slice ra m rc]) (by simp [results,Tryz.results50,go_sem,r0,r1]) rfl ⟨(HRB.out.2.setCell (by simp) _).setCell (by simp) _,true,ra,m,rc,G,rfl,?_,.inl ⟨rfl,t,_,HVT.out,HIn.out,HDel.out,hm6,.inr ⟨HN1.out,HM.out,HRow.out.2⟩⟩⟩
     exact (HRow.out.1.keep (Nat.le_refl _) (by simp [World.setCell]) (fun b hb _=>by rw [Below.heap_setCell _ _ _ _ (show b≠w.heap.size+1 by omega),Below.heap_setCell _ _ _ _ (show b≠w.heap.size+1 by omega)]))
end Go.Proofs.YtcnollkkigiobaaGreat
