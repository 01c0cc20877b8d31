import Derived.Test.YtacpbofiipdodaaGreatNv23
set_option linter.unusedVariables false
set_option linter.unusedSimpArgs false
set_option maxRecDepth 100000
set_option maxHeartbeats 90000000
namespace Go.Proofs.YtacpbofiipdodaaGreat
open Go Go.Deep Go.RowKit
theorem VA {t t' : TypeId} {a b:Addr} (h:Value.iface t (.pointer (some a))=Value.iface t' (.pointer (some b))):t=t'/\a=b:=by injection h with h1 h2;injection h2 with h2;injection h2 with h2;exact⟨h1,h2⟩
theorem Jh.leaf {w:World} {a:Addr} {key:ByteArray} {r:Nat} (h:Jh w (.iface 306 (.pointer (some a))) key r):WS 230 #[.pointer (some a),.string key] w λe w'=>e=.returned (iv (r:Int))/\w'=w:=by
 rcases h with ⟨q,e,hc⟩|⟨q,e,hc⟩;.rw[(VA e).2];exact hc
 .exact absurd (VA e).1 (by decide)
theorem Jh.inner {w:World} {a:Addr} {key:ByteArray} {r:Nat} (h:Jh w (.iface 311 (.pointer (some a))) key r):WS 240 #[.pointer (some a),.string key] w λe w'=>e=.returned (iv (r:Int))/\w'=w:=by
 rcases h with ⟨q,e,hc⟩|⟨q,e,hc⟩;.exact absurd (VA e).1 (by decide)
 .rw[(VA e).2];exact hc
theorem OF (j:Nat) (hj:j<6) (p:Qd) (hok:BC (A8 j p) 4) (b o:Nat) (w:World) (n:Nat) (t:Ro n) (v:Value) (hh:Nat) (hc0:w.cell? (ad b o)=some (.func (.func (CN j)) #[] #[])) (hc1:w.cell? (ad b (o+1))=some v)
  (ht:Ei (λbb=>bb<w.heap.size) w n t v) (hb:Br n true t hh) (hasc:DE (Ab n t)) (hlen:(Ab n t).length<=300) (hK:∀k,k∈Ab n t->k.size=16) (L:List Qd) (hL:L=((Ab n t).map (Ag j)).filter (λq=>BN q p)) :
  WS 217 #[.pointer (some (ad b o)),qv p] w (WT w (iv (L.length:Int))):=by
 obtain⟨m,hm⟩:=Od (A8 j p);have hsp:∀W:World,WS 212 #[.func (.func (CN j)) #[] #[],.agg #[iv p.s,iv p.p,iv p.o,iv p.g]] W (WT W (.tuple #[.string (G2 (A8 j p) m),.string (KF (A8 j p) m)])):=λW=>Lw j hj p m hm (λi hi=>(hok i hi).1) W;have HSp:U (∀W:World,WS 212 #[.func (.func (CN j)) #[] #[],.agg #[iv p.s,iv p.p,iv p.o,iv p.g]] W (WT W (.tuple #[.string (G2 (A8 j p) m),.string (KF (A8 j p) m)]))):=hsp;have HRk:U (∀(W:World) (key:ByteArray),Bl w W->Jh W v key (Bz key (Ab n t))):=λW key hW=>Rr key W _ n t v true hh (ht.below hW) hb hasc (by omega);have hl0:=Ws _ _ hc0;have hcnt:=ht.count;have HT:U (∀W:World,Bl w W->W.cell? (ad b o)=some (.func (.func (CN j)) #[] #[])/\W.cell? (ad b (o+1))=some v):=λW hW=>⟨by rw[hW.cell (show b<w.heap.size from hl0)];exact hc0,by rw[hW.cell (show b<w.heap.size from hl0)];exact hc1⟩;have HM:U (KN (A8 j p) m/\BC (A8 j p) 4/\j<6/\(∀k,k∈Ab n t->k.size=16)/\L=((Ab n t).map (Ag j)).filter (λq=>BN q p)):=⟨hm,hok,hj,hK,hL⟩;obtain⟨nb,_,hnb,ce,hv⟩:=hcnt;have HCt:U (∀W:World,Bl w W->WS 177 #[pt nb] W λe w'=>e=.returned (iv ((Ab n t).length:Int))/\w'=W):=λW hW=>BK nb _ W (by rw[hW.cell (show nb<w.heap.size from hnb)];exact ce);clear hok hc0 hc1 ht hb hasc hsp hm hj hK hL ce hnb hl0;rcases hv with rfl|rfl
 .have HRv:=hid (λW key hW=>(HRk.o W key hW).leaf);clear HRk;unfold qv;have Hc:=HT.o _ (Aa w (.cells #[iv p.s,iv p.p,iv p.o,iv p.g] 140));obtain⟨c0,c1⟩:=Hc;have pb:=Bx.new w #[iv p.s,iv p.p,iv p.o,iv p.g] 140;have y0:=pb.cell 0;have y1:=pb.cell 1;have y2:=pb.cell 2;have y3:=pb.cell 3;simp at y0 y1 y2 y3;go_enter Tryz.func217,Tryz.ntmps217;go_wp2;go_region_with (go_at_call 212;refine (HSp.o _).mono ?_;rintro e w2 ⟨rfl,hb2⟩)
  all_goals
   have H2:=hid (((Aa w (.cells #[iv p.s,iv p.p,iv p.o,iv p.g] 140)).drew).trans (hb2.mono (by simp)))
   obtain⟨d0,d1⟩:=HT.o w2 H2.o
   clear hb2 c0 c1 y0 y1 y2 y3 pb HSp HT
   obtain⟨kl,hkl⟩:=gn ((Ab n t).length)
   obtain⟨lo,hlo⟩:=gn (G2 (A8 j p) m)
   obtain⟨hi,hhi⟩:=gn (KF (A8 j p) m)
   rw[<- hlo,<- hhi]
   cases m with
   | zero=>
    have hq:hi.toList.isEmpty=true:=by
     have e:({ data:=#[] }:ByteArray).toList=[]:=by unfold ByteArray.toList;unfold ByteArray.toList.loop;rfl
     rw[hhi]
     show ({ data:=#[] }:ByteArray).toList.isEmpty=true
     rw[e]
     rfl
    have HE:U (kl=L.length):=by
     show kl=L.length
     rw[HM.o.2.2.2.2,IV HM.o.2.2.1 HM.o.1 HM.o.2.1,hkl]
    have HB:U (WS 177 #[pt nb] w2 λe w'=>e=.returned (iv (kl:Int))/\w'=w2):=by
     rw[hkl]
     exact HCt.o w2 H2.o
    clear hkl hlo hhi HCt HRv
    go_wp2_with fail
    (with_reducible refine HB.o.mono ?_)
    rintro e w3 ⟨rfl,hw3⟩
    subst hw3
    go_wp2
    go_ret
    exact⟨by rw[<- HE.o];rfl,H2.o⟩
   | succ m=>
    have hq:hi.toList.isEmpty=false:=by
     rw[hhi,ByteArray.toList_eq,FC]
     cases EN (A8 j p) m <;> rfl
    obtain⟨r1,hr1⟩:=gn (Bz hi (Ab n t))
    obtain⟨r0,hr0⟩:=gn (Bz lo (Ab n t))
    have hle:r1<=kl:=by rw[hr1,hkl];exact List.length_filter_le _ _
    have HE:U (r1=r0+L.length):=by
     show r1=_
     rw[HM.o.2.2.2.2,hr1,hr0,hhi,hlo]
     exact Jn HM.o.2.2.1 HM.o.1 HM.o.2.1 HM.o.2.2.2.1
    have HEr:r0<=r1:=by rw[HE.o];omega
    have HR1:U (∀W:World,Bl w W->WS 230 #[pt nb,.string hi] W λe w'=>e=.returned (iv (r1:Int))/\w'=W):=by rw[hr1];exact λW hW=>HRv.o W hi hW
    have HR0:U (∀W:World,Bl w W->WS 230 #[pt nb,.string lo] W λe w'=>e=.returned (iv (r0:Int))/\w'=W):=by rw[hr0];exact λW hW=>HRv.o W lo hW
    have hkl3:kl<=300:=by rw[hkl];exact hlen
    clear hkl hlo hhi HCt HRv hr1 hr0 hlen
    go_wp2
    go_region_with (go_at_call 230;first|((with_reducible refine (HR1.o _ H2.o.drew).mono ?_);rintro e w5 ⟨rfl,hw5⟩;subst hw5)|((with_reducible refine (HR0.o _ H2.o.drew).mono ?_);rintro e w5 ⟨rfl,hw5⟩;subst hw5))
    all_goals
     go_wp2
     go_ret
     have hw:IntKind.i64.wrap ((r1:Int)-(r0:Int))=(L.length:Int):=by
      have:=HE.o
      rw[Wz]
      omega
     exact⟨by rw[hw];rfl,H2.o.drew⟩
 .have HRv:=hid (λW key hW=>(HRk.o W key hW).inner);clear HRk;unfold qv;have Hc:=HT.o _ (Aa w (.cells #[iv p.s,iv p.p,iv p.o,iv p.g] 140));obtain⟨c0,c1⟩:=Hc;have pb:=Bx.new w #[iv p.s,iv p.p,iv p.o,iv p.g] 140;have y0:=pb.cell 0;have y1:=pb.cell 1;have y2:=pb.cell 2;have y3:=pb.cell 3;simp at y0 y1 y2 y3;go_enter Tryz.func217,Tryz.ntmps217;go_wp2;go_region_with (go_at_call 212;refine (HSp.o _).mono ?_;rintro e w2 ⟨rfl,hb2⟩)
  all_goals
   have H2:=hid (((Aa w (.cells #[iv p.s,iv p.p,iv p.o,iv p.g] 140)).drew).trans (hb2.mono (by simp)))
   obtain⟨d0,d1⟩:=HT.o w2 H2.o
   clear hb2 c0 c1 y0 y1 y2 y3 pb HSp HT
   obtain⟨kl,hkl⟩:=gn ((Ab n t).length)
   obtain⟨lo,hlo⟩:=gn (G2 (A8 j p) m)
   obtain⟨hi,hhi⟩:=gn (KF (A8 j p) m)
   rw[<- hlo,<- hhi]
   cases m with
   | zero=>
    have hq:hi.toList.isEmpty=true:=by
     have e:({ data:=#[] }:ByteArray).toList=[]:=by unfold ByteArray.toList;unfold ByteArray.toList.loop;rfl
     rw[hhi]
     show ({ data:=#[] }:ByteArray).toList.isEmpty=true
     rw[e]
     rfl
    have HE:U (kl=L.length):=by
     show kl=L.length
     rw[HM.o.2.2.2.2,IV HM.o.2.2.1 HM.o.1 HM.o.2.1,hkl]
    have HB:U (WS 177 #[pt nb] w2 λe w'=>e=.returned (iv (kl:Int))/\w'=w2):=by
     rw[hkl]
     exact HCt.o w2 H2.o
    clear hkl hlo hhi HCt HRv
    go_wp2_with fail
    (with_reducible refine HB.o.mono ?_)
    rintro e w3 ⟨rfl,hw3⟩
    subst hw3
    go_wp2
    go_ret
    exact⟨by rw[<- HE.o];rfl,H2.o⟩
   | succ m=>
    have hq:hi.toList.isEmpty=false:=by
     rw[hhi,ByteArray.toList_eq,FC]
     cases EN (A8 j p) m <;> rfl
    obtain⟨r1,hr1⟩:=gn (Bz hi (Ab n t))
    obtain⟨r0,hr0⟩:=gn (Bz lo (Ab n t))
    have hle:r1<=kl:=by rw[hr1,hkl];exact List.length_filter_le _ _
    have HE:U (r1=r0+L.length):=by
     show r1=_
     rw[HM.o.2.2.2.2,hr1,hr0,hhi,hlo]
     exact Jn HM.o.2.2.1 HM.o.1 HM.o.2.1 HM.o.2.2.2.1
    have HEr:r0<=r1:=by rw[HE.o];omega
    have HR1:U (∀W:World,Bl w W->WS 240 #[pt nb,.string hi] W λe w'=>e=.returned (iv (r1:Int))/\w'=W):=by rw[hr1];exact λW hW=>HRv.o W hi hW
    have HR0:U (∀W:World,Bl w W->WS 240 #[pt nb,.string lo] W λe w'=>e=.returned (iv (r0:Int))/\w'=W):=by rw[hr0];exact λW hW=>HRv.o W lo hW
    have hkl3:kl<=300:=by rw[hkl];exact hlen
    clear hkl hlo hhi HCt HRv hr1 hr0 hlen
    go_wp2
    go_region_with (go_at_call 240;first|((with_reducible refine (HR1.o _ H2.o.drew).mono ?_);rintro e w5 ⟨rfl,hw5⟩;subst hw5)|((with_reducible refine (HR0.o _ H2.o.drew).mono ?_);rintro e w5 ⟨rfl,hw5⟩;subst hw5))
    all_goals
     go_wp2
     go_ret
     have hw:IntKind.i64.wrap ((r1:Int)-(r0:Int))=(L.length:Int):=by
      have:=HE.o
      rw[Wz]
      omega
     exact⟨by rw[hw];rfl,H2.o.drew⟩
end Go.Proofs.YtacpbofiipdodaaGreat
