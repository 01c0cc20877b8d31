import Derived.Test.YtpaomghibppgkaaGreatNv43
import Derived.Test.YtpaomghibppgkaaGreatNv45
import Derived.Test.YtpaomghibppgkaaGreatNv39
import Derived.BigQuiet
set_option linter.unusedVariables false
set_option maxRecDepth 100000
namespace Go.Proofs.YtpaomghibppgkaaGreat
open Go.RowKit Go.Deep

theorem ifc {t t' : TypeId} {a b:Addr} (h:Value.iface t (.pointer (some a))=Value.iface t' (.pointer (some b))):t=t'/\a=b:=by
 injection h with h1 h2
 injection h2 with h2
 injection h2 with h2
 exact ⟨h1,h2⟩
theorem RankC.leaf {w:World} {a:Addr} {key:ByteArray} {r:Nat} (h:RankC w (.iface 243 (.pointer (some a))) key r):Calls Tryz.prog 173 #[.pointer (some a),.string key] w fun e w'=>e=.returned (.int .i64 (r:Int))/\w'=w:=by
 rcases h with ⟨q,e,hc⟩|⟨q,e,hc⟩
 ·rw [(ifc e).2]
  exact hc
 ·exact absurd (ifc e).1 (by decide)
theorem RankC.inner {w:World} {a:Addr} {key:ByteArray} {r:Nat} (h:RankC w (.iface 248 (.pointer (some a))) key r):Calls Tryz.prog 185 #[.pointer (some a),.string key] w fun e w'=>e=.returned (.int .i64 (r:Int))/\w'=w:=by
 rcases h with ⟨q,e,hc⟩|⟨q,e,hc⟩
 ·exact absurd (ifc e).1 (by decide)
 ·rw [(ifc e).2]
  exact hc

set_option maxHeartbeats 4000000 in
theorem count_any (j:Nat) (hj:j<6) (p:Qd) (hok:okTo (ptO j p) 4) (b o:Nat) (w:World) (n:Nat) (t:Ro n) (v:Value) (hh:Nat) (hc0:w.cell? ⟨b,o,none⟩=some (.func (.func (layF j)) #[] #[])) (hc1:w.cell? ⟨b,o+1,none⟩=some v)
  (ht:TAt (fun bb=>bb<w.heap.size) w n t v) (hb:BalR n true t hh) (hasc:Asc (keysR n t)) (hlen:(keysR n t).length<=300) (hK:∀k,k∈keysR n t->k.size=16) (L:List Qd) (hL:L=((keysR n t).map (quadOf j)).filter (fun q=>fitB q p)) :
  Calls Tryz.prog 108 #[.pointer (some ⟨b,o,none⟩),qv p] w fun e w'=>e=.returned (.int .i64 (L.length:Int))/\Below w.heap.size w w':=by
 obtain ⟨m,hm⟩:=lead_ex (ptO j p)
 have hsp:∀W:World,Calls Tryz.prog 129 #[.func (.func (layF j)) #[] #[],.agg #[.int .i64 p.s,.int .i64 p.p,.int .i64 p.o,.int .i64 p.g]] W fun e w'=>e=.returned (.tuple #[.string (spL (ptO j p) m),.string (spH (ptO j p) m)])/\Below W.heap.size W w':=fun W=>span_any j hj p m hm (fun i hi=>(hok i hi).1) W
 have HSp:Hid (∀W:World,Calls Tryz.prog 129 #[.func (.func (layF j)) #[] #[],.agg #[.int .i64 p.s,.int .i64 p.p,.int .i64 p.o,.int .i64 p.g]] W fun e w'=>e=.returned (.tuple #[.string (spL (ptO j p) m),.string (spH (ptO j p) m)])/\Below W.heap.size W w'):=hsp
 have HRk:Hid (∀(W:World) (key:ByteArray),Below w.heap.size w W->RankC W v key (cntL key (keysR n t))):=fun W key hW=>rank_any key W _ n t v true hh (ht.below hW) hb hasc (by omega)
 have hl0:=World.block_lt_of_cell? _ _ hc0
 have hcnt:=ht.count
 have HT:Hid (∀W:World,Below w.heap.size w W->W.cell? ⟨b,o,none⟩=some (.func (.func (layF j)) #[] #[])/\W.cell? ⟨b,o+1,none⟩=some v):=fun W hW=>⟨by rw [hW.cell (show b<w.heap.size from hl0)];exact hc0,by rw [hW.cell (show b<w.heap.size from hl0)];exact hc1⟩
 have HM:Hid (Lead (ptO j p) m/\okTo (ptO j p) 4/\j<6/\(∀k,k∈keysR n t->k.size=16)/\L=((keysR n t).map (quadOf j)).filter (fun q=>fitB q p)):=⟨hm,hok,hj,hK,hL⟩
 obtain ⟨nb,_,hnb,ce,hv⟩:=hcnt
 have HCt:Hid (∀W:World,Below w.heap.size w W->Calls Tryz.prog 147 #[.pointer (some ⟨nb,0,none⟩)] W fun e w'=>e=.returned (.int .i64 ((keysR n t).length:Int))/\w'=W):=fun W hW=>below_any nb _ W (by rw [hW.cell (show nb<w.heap.size from hnb)];exact ce)
 clear hok hc0 hc1 ht hb hasc hsp hm hj hK hL ce hnb hl0
 rcases hv with rfl|rfl
 ·have HRv:Hid (∀(W:World) (key:ByteArray),Below w.heap.size w W->Calls Tryz.prog 173 #[.pointer (some ⟨nb,0,none⟩),.string key] W fun e w'=>e=.returned (.int .i64 (cntL key (keysR n t):Int))/\w'=W):=fun W key hW=>(HRk.out W key hW).leaf
  clear HRk
  unfold qv
  have Hc:=HT.out _ (below_alloc w (.cells #[.int .i64 p.s,.int .i64 p.p,.int .i64 p.o,.int .i64 p.g] 122))
  obtain ⟨c0,c1⟩:=Hc
  have pb:=Bx.new w #[.int .i64 p.s,.int .i64 p.p,.int .i64 p.o,.int .i64 p.g] 122
  have y0:=pb.cell 0
  have y1:=pb.cell 1
  have y2:=pb.cell 2
  have y3:=pb.cell 3
  simp at y0 y1 y2 y3
  go_enter Tryz.func108,Tryz.ntmps108
  go_wp2
  go_region_with (go_at_call 129;refine (HSp.out _).mono ?_;rintro e w2 ⟨rfl,hb2⟩)
  all_goals
   have H2:Hid (Below w.heap.size w w2):=((below_alloc w (.cells #[.int .i64 p.s,.int .i64 p.p,.int .i64 p.o,.int .i64 p.g] 122)).drew).trans (hb2.mono (by simp))
   obtain ⟨d0,d1⟩:=HT.out w2 H2.out
   clear hb2 c0 c1 y0 y1 y2 y3 pb HSp HT
   obtain ⟨kl,hkl⟩:∃kl,kl=(keysR n t).length:=⟨_,rfl⟩
   obtain ⟨lo,hlo⟩:∃lo,lo=spL (ptO j p) m:=⟨_,rfl⟩
   obtain ⟨hi,hhi⟩:∃hi,hi=spH (ptO j p) m:=⟨_,rfl⟩
   rw [<- hlo,<- hhi]
   cases m with
   | zero=>
    have hq:hi.toList.isEmpty=true:=by
     have e:({ data:=#[] }:ByteArray).toList=[]:=by unfold ByteArray.toList;unfold ByteArray.toList.loop;rfl
     rw [hhi]
     show ({ data:=#[] }:ByteArray).toList.isEmpty=true
     rw [e]
     rfl
    have HE:Hid (kl=L.length):=by
     show kl=L.length
     rw [HM.out.2.2.2.2,count_none HM.out.2.2.1 HM.out.1 HM.out.2.1,hkl]
    have HB:Hid (Calls Tryz.prog 147 #[.pointer (some ⟨nb,0,none⟩)] w2 fun e w'=>e=.returned (.int .i64 (kl:Int))/\w'=w2):=by
     rw [hkl]
     exact HCt.out w2 H2.out
    clear hkl hlo hhi HCt HRv
    go_wp2_with fail
    (with_reducible refine HB.out.mono ?_)
    rintro e w3 ⟨rfl,hw3⟩
    subst hw3
    go_wp2
    go_ret
    exact ⟨by rw [<- HE.out];rfl,H2.out⟩
   | succ m=>
    have hq:hi.toList.isEmpty=false:=by
     rw [hhi,ByteArray.toList_eq,spH_data]
     cases spLl (ptO j p) m <;> rfl
    obtain ⟨r1,hr1⟩:∃r,r=cntL hi (keysR n t):=⟨_,rfl⟩
    obtain ⟨r0,hr0⟩:∃r,r=cntL lo (keysR n t):=⟨_,rfl⟩
    have hle:r1<=kl:=by rw [hr1,hkl];exact List.length_filter_le _ _
    have HE:Hid (r1=r0+L.length):=by
     show r1=_
     rw [HM.out.2.2.2.2,hr1,hr0,hhi,hlo]
     exact count_span HM.out.2.2.1 HM.out.1 HM.out.2.1 HM.out.2.2.2.1
    have HEr:r0<=r1:=by rw [HE.out];omega
    have HR1:Hid (∀W:World,Below w.heap.size w W->Calls Tryz.prog 173 #[.pointer (some ⟨nb,0,none⟩),.string hi] W fun e w'=>e=.returned (.int .i64 (r1:Int))/\w'=W):=by rw [hr1];exact fun W hW=>HRv.out W hi hW
    have HR0:Hid (∀W:World,Below w.heap.size w W->Calls Tryz.prog 173 #[.pointer (some ⟨nb,0,none⟩),.string lo] W fun e w'=>e=.returned (.int .i64 (r0:Int))/\w'=W):=by rw [hr0];exact fun W hW=>HRv.out W lo hW
    have hkl3:kl<=300:=by rw [hkl];exact hlen
    clear hkl hlo hhi HCt HRv hr1 hr0 hlen
    go_wp2
    go_region_with (go_at_call 173;first|((with_reducible refine (HR1.out _ H2.out.drew).mono ?_);rintro e w5 ⟨rfl,hw5⟩;subst hw5)|((with_reducible refine (HR0.out _ H2.out.drew).mono ?_);rintro e w5 ⟨rfl,hw5⟩;subst hw5))
    all_goals
     go_wp2
     go_ret
     have hw:IntKind.i64.wrap ((r1:Int)-(r0:Int))=(L.length:Int):=by
      have:=HE.out
      rw [IntKind.wrap_i64]
      omega
     exact ⟨by rw [hw];rfl,H2.out.drew⟩
 ·have HRv:Hid (∀(W:World) (key:ByteArray),Below w.heap.size w W->Calls Tryz.prog 185 #[.pointer (some ⟨nb,0,none⟩),.string key] W fun e w'=>e=.returned (.int .i64 (cntL key (keysR n t):Int))/\w'=W):=fun W key hW=>(HRk.out W key hW).inner
  clear HRk
  unfold qv
  have Hc:=HT.out _ (below_alloc w (.cells #[.int .i64 p.s,.int .i64 p.p,.int .i64 p.o,.int .i64 p.g] 122))
  obtain ⟨c0,c1⟩:=Hc
  have pb:=Bx.new w #[.int .i64 p.s,.int .i64 p.p,.int .i64 p.o,.int .i64 p.g] 122
  have y0:=pb.cell 0
  have y1:=pb.cell 1
  have y2:=pb.cell 2
  have y3:=pb.cell 3
  simp at y0 y1 y2 y3
  go_enter Tryz.func108,Tryz.ntmps108
  go_wp2
  go_region_with (go_at_call 129;refine (HSp.out _).mono ?_;rintro e w2 ⟨rfl,hb2⟩)
  all_goals
   have H2:Hid (Below w.heap.size w w2):=((below_alloc w (.cells #[.int .i64 p.s,.int .i64 p.p,.int .i64 p.o,.int .i64 p.g] 122)).drew).trans (hb2.mono (by simp))
   obtain ⟨d0,d1⟩:=HT.out w2 H2.out
   clear hb2 c0 c1 y0 y1 y2 y3 pb HSp HT
   obtain ⟨kl,hkl⟩:∃kl,kl=(keysR n t).length:=⟨_,rfl⟩
   obtain ⟨lo,hlo⟩:∃lo,lo=spL (ptO j p) m:=⟨_,rfl⟩
   obtain ⟨hi,hhi⟩:∃hi,hi=spH (ptO j p) m:=⟨_,rfl⟩
   rw [<- hlo,<- hhi]
   cases m with
   | zero=>
    have hq:hi.toList.isEmpty=true:=by
     have e:({ data:=#[] }:ByteArray).toList=[]:=by unfold ByteArray.toList;unfold ByteArray.toList.loop;rfl
     rw [hhi]
     show ({ data:=#[] }:ByteArray).toList.isEmpty=true
     rw [e]
     rfl
    have HE:Hid (kl=L.length):=by
     show kl=L.length
     rw [HM.out.2.2.2.2,count_none HM.out.2.2.1 HM.out.1 HM.out.2.1,hkl]
    have HB:Hid (Calls Tryz.prog 147 #[.pointer (some ⟨nb,0,none⟩)] w2 fun e w'=>e=.returned (.int .i64 (kl:Int))/\w'=w2):=by
     rw [hkl]
     exact HCt.out w2 H2.out
    clear hkl hlo hhi HCt HRv
    go_wp2_with fail
    (with_reducible refine HB.out.mono ?_)
    rintro e w3 ⟨rfl,hw3⟩
    subst hw3
    go_wp2
    go_ret
    exact ⟨by rw [<- HE.out];rfl,H2.out⟩
   | succ m=>
    have hq:hi.toList.isEmpty=false:=by
     rw [hhi,ByteArray.toList_eq,spH_data]
     cases spLl (ptO j p) m <;> rfl
    obtain ⟨r1,hr1⟩:∃r,r=cntL hi (keysR n t):=⟨_,rfl⟩
    obtain ⟨r0,hr0⟩:∃r,r=cntL lo (keysR n t):=⟨_,rfl⟩
    have hle:r1<=kl:=by rw [hr1,hkl];exact List.length_filter_le _ _
    have HE:Hid (r1=r0+L.length):=by
     show r1=_
     rw [HM.out.2.2.2.2,hr1,hr0,hhi,hlo]
     exact count_span HM.out.2.2.1 HM.out.1 HM.out.2.1 HM.out.2.2.2.1
    have HEr:r0<=r1:=by rw [HE.out];omega
    have HR1:Hid (∀W:World,Below w.heap.size w W->Calls Tryz.prog 185 #[.pointer (some ⟨nb,0,none⟩),.string hi] W fun e w'=>e=.returned (.int .i64 (r1:Int))/\w'=W):=by rw [hr1];exact fun W hW=>HRv.out W hi hW
    have HR0:Hid (∀W:World,Below w.heap.size w W->Calls Tryz.prog 185 #[.pointer (some ⟨nb,0,none⟩),.string lo] W fun e w'=>e=.returned (.int .i64 (r0:Int))/\w'=W):=by rw [hr0];exact fun W hW=>HRv.out W lo hW
    have hkl3:kl<=300:=by rw [hkl];exact hlen
    clear hkl hlo hhi HCt HRv hr1 hr0 hlen
    go_wp2
    go_region_with (go_at_call 185;first|((with_reducible refine (HR1.out _ H2.out.drew).mono ?_);rintro e w5 ⟨rfl,hw5⟩;subst hw5)|((with_reducible refine (HR0.out _ H2.out.drew).mono ?_);rintro e w5 ⟨rfl,hw5⟩;subst hw5))
    all_goals
     go_wp2
     go_ret
     have hw:IntKind.i64.wrap ((r1:Int)-(r0:Int))=(L.length:Int):=by
      have:=HE.out
      rw [IntKind.wrap_i64]
      omega
     exact ⟨by rw [hw];rfl,H2.out.drew⟩
end Go.Proofs.YtpaomghibppgkaaGreat
