import Derived.Test.YtcnollkkigiobaaGreatNd44
import Derived.Test.YtcnollkkigiobaaGreatNd32
import Derived.Test.YtcnollkkigiobaaGreatNd37
set_option linter.unusedVariables false
set_option maxRecDepth 100000
namespace Go.Proofs.YtcnollkkigiobaaGreat
open Go.RowKit Go.Deep

theorem SzI.leaf {b n:Nat} {w:World} (h:SzI (.iface 204 (.pointer (some ⟨b,0,none⟩))) n w):Calls Tryz.prog 208 #[.pointer (some ⟨b,0,none⟩)] w fun e w'=>e=.returned (.int .i64 (n:Int))/\w'=w:=by
 rcases h with ⟨c,e,hc⟩|⟨c,e,hc⟩
 ·injection e with _ e
  rw [e]
  exact hc
 ·injection e with e _
  exact absurd e (by decide)
theorem SzI.inner {b n:Nat} {w:World} (h:SzI (.iface 174 (.pointer (some ⟨b,0,none⟩))) n w):Calls Tryz.prog 125 #[.pointer (some ⟨b,0,none⟩)] w fun e w'=>e=.returned (.int .i64 (n:Int))/\w'=w:=by
 rcases h with ⟨c,e,hc⟩|⟨c,e,hc⟩
 ·injection e with e _
  exact absurd e (by decide)
 ·injection e with _ e
  rw [e]
  exact hc
theorem DelR.keys {key:ByteArray} {d:Nat} {t r:Ro d} {root:Bool} {h:Nat} (hb:BalR d root t h) (ha:Asc (keysR d t)) (hn:nodesR d t<=5000) (hd:DelR key d t r):(keysR d r).length<=20000:=by
 have q1:=fit_len (DelR.bal hb ha hd).1.fit
 have q2:=DelR.nodes hb ha hd
 omega

theorem rem_fin {key:ByteArray} {d b g kc:Nat} {x:Int} {l M:List (Ro (d+1))} {ys:List Value} {bs:List Nat} {S:Nat->Prop} {cs:List Nat} {w w2 w3:World} {root:Bool} {h:Nat} (hbal:BalR (d+2) root (.inr l) h) (ha:Asc (keysR (d+2) (.inr l))) (hnod:nodesR (d+2) (.inr l)<=5000) (hdel:DelR key (d+2) (.inr l) (.inr M)) (hk:key∈keysR (d+2) (.inr l)) (hx:Bx w3 b 179 #[.int .i64 x,.slice (some ⟨g,0,none⟩) M.length kc]) (hcap:M.length<=kc/\kc<=9223372036854775807) (hce:∀j u,ys[j]?=some u->w3.cell? ⟨g,j,none⟩=some u) (hak:AllK (fun y=>S y\/y∈cs\/w2.heap.size<=y) w3 (d+1) M ys)
  (hS:∀y,S y->(y∈bs/\y≠b)\/w.heap.size<=y) (hcs:∀y,y∈cs->y∈bs/\y≠b) (hz:w.heap.size<=w2.heap.size) (hfr:Frs bs w w3) (hb:b∈bs) (hbl:b<w.heap.size) (hg:g∈bs) (hgb:g≠b) (hgl:g<w3.heap.size) :
  Calls Tryz.prog 118 #[.pointer (some ⟨b,0,none⟩)] w3 fun e w'=>e=.returned (.tuple #[])/\RetR key (d+2) (.inr l) (.iface 174 (.pointer (some ⟨b,0,none⟩))) bs w (.returned (.bool true)) w':=by
 obtain ⟨hm1,hm4,_⟩:=(DelR.bal hbal ha hdel).1
 have hke:=DelR.keys hbal ha hnod hdel
 refine (ins_fin (d+1) b g kc x M ys (fun y=>(y∈bs/\y≠b)\/w.heap.size<=y) w3 hx hcap (by omega) (by omega) hce (hak.keep (Nat.le_refl _) (fun y hy hl=>⟨?_,rfl⟩)) (fun q=>?_) (.inl ⟨hg,hgb⟩) hgl ?_).mono ?_
 ·rcases hy with q|q|q
  ·exact hS y q
  ·exact .inl (hcs y q)
  ·exact .inr (by omega)
 ·rcases q with q|q
  ·exact q.2 rfl
  ·omega
 ·have q:(M.flatMap (keysR (d+1))).length<=20000:=hke
  omega
 ·rintro e w' ⟨rfl,hg',hnd⟩
  exact ⟨rfl,.inr ⟨hk,rfl,hfr.trans (frs_grown hg' hb),.inr M,b,hb,hdel,hnd⟩⟩

set_option maxHeartbeats 8000000 in
theorem remInnerO (key:ByteArray) (d B:Nat) (l:List (Ro (d+1))) (v:Value) (bs:List Nat) (w:World) (root:Bool) (h:Nat) (hO:TOw B w (d+2) (.inr l) v bs) (hd:bs.Nodup) (hbal:BalR (d+2) root (.inr l) h) (ha:Asc (keysR (d+2) (.inr l))) (hnod:nodesR (d+2) (.inr l)<=5000)
  (ih:∀i (hi:i<l.length) (u:Value) (us:List Nat),TOw B w (d+1) l[i] u us->us.Nodup->CallR u key w (RetR key (d+1) l[i] u us w)):CallR v key w (RetR key (d+2) (.inr l) v bs w):=by
 have htat:=hO.tat
 have hOlt:=hO.lt
 have HBR:Hid (BalR (d+2) root (.inr l) h/\Asc (keysR (d+2) (.inr l))/\nodesR (d+2) (.inr l)<=5000):=⟨hbal,ha,hnod⟩
 obtain ⟨b,g,kc,xs,bss,rfl,hBb,hx,ho,hl0,hbl,rfl,hall⟩:=hO
 obtain ⟨b2,b4,h',rfl,hbk⟩:=hbal
 have ha' : Asc (l.flatMap (keysR (d+1))):=ha
 have hp:∀k (h:k<l.length),0<(keysR (d+1) l[k]).length:=fun k hk=>bal_keys (hbk _ (List.getElem_mem hk))
 refine .inr ⟨b,rfl,?_⟩
 have HKf:Hid (Calls Tryz.prog 193 #[.pointer (some ⟨b,0,none⟩),.string key] w (RetKf l key w)):=kidFor_any (d+1) b l _ h' key w htat hbk b4
 have hcap:=own_cap ho
 obtain ⟨ln,hln⟩:∃ln,ln=l.length:=⟨_,rfl⟩
 have HLn:Hid (ln=l.length):=hln
 rw [List.nodup_cons,List.nodup_cons] at hd
 have HD:Hid ((b∉g::bss.flatten)/\g∉bss.flatten/\bss.flatten.Nodup):=hd
 have HO:Hid (w.ownsRow B 68 1 (.slice (some ⟨g,0,none⟩) ln kc) ln xs):=by rw [hln];exact ho
 have HX:Hid (Bx w b 179 #[.int .i64 ((l.flatMap (keysR (d+1))).length:Int),.slice (some ⟨g,0,none⟩) ln kc]):=by rw [hln];exact hx
 have HAll:Hid (∀k (h:k<l.length),∃u us,xs[k]?=some u/\bss[k]?=some us/\TOw B w (d+1) l[k] u us):=hall
 have HOlt:Hid (∀x,x∈b::g::bss.flatten->B<=x/\x<w.heap.size):=hOlt
 have HIH:Hid (∀i (hi:i<l.length) (u:Value) (us:List Nat),TOw B w (d+1) l[i] u us->us.Nodup->CallR u key w (RetR key (d+1) l[i] u us w)):=ih
 have HBal:Hid ((∀t,t∈l->BalR (d+1) false t h')/\Asc (l.flatMap (keysR (d+1)))/\(∀k (h:k<l.length),0<(keysR (d+1) l[k]).length)/\(∀k (h:k<l.length),nodesR (d+1) l[k]<=5000)):=⟨hbk,ha',hp,fun k hk=>by
  have q:=kid_le (d+1) l k hk
  have q2:nodesR (d+1+1) (.inr l)<=5000:=hnod
  omega⟩
 have HBl:Hid (bss.length=l.length):=hbl
 obtain ⟨X,hX⟩:∃X:Int,X=((l.flatMap (keysR (d+1))).length:Int):=⟨_,rfl⟩
 rw [<- hX] at HX
 rw [<- hln] at hcap hl0 b2 b4
 have p1:=HX.out.cell 1
 simp at p1
 have pz:=HX.out.lt
 clear htat hOlt hx ho hall hbk ha ha' hp hd ih hnod hln hbl hX
 go_enter Tryz.func190,Tryz.ntmps190
 go_wp2_with fail
 (with_reducible refine HKf.out.mono ?_)
 rintro e w1 ⟨i,rfl,hw1,hi,hk1,hk2⟩
 subst hw1
 have HKI:Hid (KidIs l key i):=⟨hi,hk1,hk2⟩
 obtain ⟨u,us,eu,eus,htk⟩:=HAll.out i hi
 have hiln:i<ln:=by rw [HLn.out];exact hi
 have hmus:us∈bss:=List.mem_of_getElem? eus
 have hndu:us.Nodup:=by
  have:=HD.out.2.2
  unfold List.Nodup at this
  rw [List.pairwise_flatten] at this
  exact this.1 us hmus
 have HEq:Hid (xs[i]?=some u/\bss[i]?=some us/\us∈bss):=⟨eu,eus,hmus⟩
 have HNd:Hid (NdI (fun x=>x∈us/\x≠us.headD 0) w1 (us.headD 0) (d+1) l[i] u):=(htk.nd hndu).2
 have cgi:w1.cell? ⟨g,i,none⟩=some u:=by
  rw [HO.out.cellAt i (by omega)]
  exact eu
 have i0:(0:Int)<=(i:Int):=by omega
 have i1:(i:Int)<(ln:Int):=by omega
 have hCall:=HIH.out i hi u us htk hndu
 clear htk eu eus hk1 hk2 HKf HIH hndu hmus
 rcases hCall with ⟨kb,rfl,hcall⟩|⟨kb,rfl,hcall⟩
 ·have HC:Hid (Calls Tryz.prog 207 #[.pointer (some ⟨kb,0,none⟩),.string key] w1 (RetR key (d+1) l[i] (.iface 204 (.pointer (some ⟨kb,0,none⟩))) us w1)):=hcall
  clear hcall
  go_wp2_with fail
  (with_reducible refine HC.out.mono ?_)
  rintro e w2 (⟨hm,rfl,hb2⟩|⟨hm,rfl,hf2,y,kb',hkb',hdel,hnd⟩)
  ·have HR:Hid (RetR key (d+2) (.inr l) (.iface 174 (.pointer (some ⟨b,0,none⟩))) (b::g::bss.flatten) w1 (.returned (.bool false)) w2):=.inl ⟨fun q=>hm ((mem_kid HBal.out.2.1 HBal.out.2.2.1 HKI.out hi).1 q),rfl,hb2⟩
   clear hb2 hm HC
   go_wp2
   go_ret
   exact HR.out
  ·have HM:Hid (key∈keysR (d+2) (.inr l)):=(mem_kid HBal.out.2.1 HBal.out.2.2.1 HKI.out hi).2 hm
   have hli:=HBal.out.1 _ (List.getElem_mem hi)
   have hasi:=asc_kid HBal.out.2.1 i hi
   have HDel:Hid (DelR key (d+1) l[i] y/\BalU (d+1) y h'/\1<=sizD y/\(keysR (d+1) y).length<=20000):=by
    have q:=DelR.bal hli hasi hdel
    have q2:=hli.siz
    exact ⟨hdel,q.1,by omega,DelR.keys hli hasi (HBal.out.2.2.2 i hi) hdel⟩
   have hkk:kb'=kb:=hnd.box_eq (.inl rfl)
   have hhd:us.headD 0=kb:=HNd.out.box_eq (.inl rfl)
   subst hkk
   have HSz:Hid (Calls Tryz.prog 208 #[.pointer (some ⟨kb',0,none⟩)] w2 fun e w'=>e=.returned (.int .i64 (sizD y:Int))/\w'=w2):=hnd.szi.leaf
   have HNR:Hid (NR (fun z=>(z∈bss.flatten/\z∉bss.map (fun us=>us.headD 0))\/w1.heap.size<=z) w2 d b g ln kc X (l.set i y) xs (bss.map (fun us=>us.headD 0))):=NR.of HX.out HO.out HLn.out hl0 HBl.out HD.out HAll.out i hi _ us HEq.out.1 HEq.out.2.1 hf2 y (by rw [hhd];exact hnd) HOlt.out
   have HCS:Hid (∀z,z∈bss.map (fun us=>us.headD 0)->z∈bss.flatten):=fun z hz=>by
    obtain ⟨vs,hv,rfl⟩:=List.mem_map.1 hz
    obtain ⟨k,hk,e⟩:=List.getElem_of_mem hv
    obtain ⟨u',us',e1,e2,e3⟩:=HAll.out k (by rw [<- HBl.out];exact hk)
    rw [List.getElem?_eq_getElem hk,e] at e2
    injection e2 with e2
    subst e2
    have q:=(e3.nd ((List.pairwise_flatten.1 HD.out.2.2).1 vs hv)).1
    refine List.mem_flatten.2 ⟨vs,hv,?_⟩
    cases vs with
    | nil=>exact absurd rfl q
    | cons a ts=>simp
   have HF2:Hid (Frs (b::g::bss.flatten) w1 w2):=hf2.mono (fun z hz=>by simp [List.mem_flatten.2 ⟨us,HEq.out.2.2,hz⟩])
   obtain ⟨cs,hcs⟩:∃cs,cs=bss.map (fun us=>us.headD 0):=⟨_,rfl⟩
   rw [<- hcs] at HNR HCS
   obtain ⟨sy,hsy⟩:∃sy,sy=sizD y:=⟨_,rfl⟩
   have HSy:Hid (sy=sizD y):=hsy
   rw [<- hsy] at HSz
   have hsy4:sy<=4:=by rw [hsy];exact HDel.out.2.1.le
   have HFN:Hid (∀(w3:World) (M:List (Ro (d+1))) (ys:List Value),M=fixD (l.set i y) i->Frs (b::g::bss.flatten) w1 w3->Bx w3 b 179 #[.int .i64 X,.slice (some ⟨g,0,none⟩) M.length kc]->M.length<=kc->(∀j u,ys[j]?=some u->w3.cell? ⟨g,j,none⟩=some u)->AllK (fun z=>((z∈bss.flatten/\z∉cs)\/w1.heap.size<=z)\/z∈cs\/w2.heap.size<=z) w3 (d+1) M ys->Calls Tryz.prog 118 #[.pointer (some ⟨b,0,none⟩)] w3 fun e w'=>e=.returned (.tuple #[])/\RetR key (d+2) (.inr l) (.iface 174 (.pointer (some ⟨b,0,none⟩))) (b::g::bss.flatten) w1 (.returned (.bool true)) w'):=by
    intro w3 M ys hM hfr hbx hcp hce hak
    have hnb:∀z,z∈bss.flatten->z∈b::g::bss.flatten/\z≠b:=fun z hz=>⟨by simp [hz],fun e=>HD.out.1 (List.mem_cons_of_mem _ (e ▸ hz))⟩
    have hz2:=HF2.out.2.2.2.1
    have hz3:=hfr.2.2.2.1
    refine rem_fin (cs:=cs) (w2:=w2) HBR.out.1 HBR.out.2.1 HBR.out.2.2 ⟨i,HKI.out,hi,y,HDel.out.1,by rw [hM]⟩ HM.out hbx ⟨hcp,hcap.2⟩ hce hak (fun z hz=>?_) (fun z hz=>hnb z (HCS.out z hz)) hz2 hfr (by simp) (HOlt.out b (by simp)).2 (by simp) (fun e=>HD.out.1 (by rw [e];simp)) (by have:=(HOlt.out g (by simp)).2;omega)
    rcases hz with q|q
    ·exact .inl (hnb z q.1)
    ·exact .inr q
   have c1:=HNR.out.box.cell 1
   simp at c1
   have cz:=HNR.out.box.lt
   have c2:w2.cell? ⟨g,i,none⟩=some (.iface 204 (.pointer (some ⟨kb',0,none⟩))):=HNR.out.row i _ HEq.out.1
   clear hnd hf2 hkb' hm hdel HC cgi p1 hli hasi hcs hsy
   go_wp2_with fail
   (with_reducible refine HSz.out.mono ?_)
   rintro e w3 ⟨rfl,hw3⟩
   subst w3
   by_cases hful:2<=sy
   ·have hd2:decide ((sy:Int)<2)=false:=decide_eq_false (by omega)
    have hi2:¬ (sy:Int)<2:=by omega
    have HRc:Hid (Calls Tryz.prog 118 #[.pointer (some ⟨b,0,none⟩)] w2 fun e w'=>e=.returned (.tuple #[])/\RetR key (d+2) (.inr l) (.iface 174 (.pointer (some ⟨b,0,none⟩))) (b::g::bss.flatten) w1 (.returned (.bool true)) w'):=by
     refine HFN.out w2 (l.set i y) xs (fixD_full (y:=y) (by simp [hi]) (by rw [<- HSy.out];exact hful)).symm HF2.out ?_ ?_ HNR.out.row HNR.out.all
     ·rw [HNR.out.ml]
      exact HNR.out.box
     ·rw [HNR.out.ml]
      exact hcap.1
    clear HFN
    go_wp2_with fail
    (with_reducible refine HRc.out.mono ?_)
    rintro e w4 ⟨rfl,hret⟩
    have HRet:Hid (RetR key (d+2) (.inr l) (.iface 174 (.pointer (some ⟨b,0,none⟩))) (b::g::bss.flatten) w1 (.returned (.bool true)) w4):=hret
    clear hret HRc
    go_wp2
    go_ret
    exact HRet.out
   ·have hd2:decide ((sy:Int)<2)=true:=decide_eq_true (by omega)
    have hi2:(sy:Int)<2:=by omega
    have HFu:Hid (Calls Tryz.prog 195 #[.pointer (some ⟨b,0,none⟩),.int .i64 (i:Int)] w2 (RetF (fun z=>(z∈bss.flatten/\z∉cs)\/w1.heap.size<=z) w2 d b g kc X (fixD (l.set i y) i) cs)):=by
     refine fillUp_any HNR.out b4 b2 i hiln h' y (by simp [hi]) HDel.out.2.1 HDel.out.2.2.1 (by rw [<- HSy.out];exact hful) (fun j t ht hj=>?_) (fun t ht=>?_)
     ·rw [List.getElem?_set_ne (by omega)] at ht
      exact HBal.out.1 t (List.mem_of_getElem? ht)
     ·rcases List.mem_or_eq_of_mem_set ht with q|q
      ·obtain ⟨k,hk,e⟩:=List.getElem_of_mem q
       have q1:=fit_len (bal_fit (HBal.out.1 t q))
       have q2:=HBal.out.2.2.2 k hk
       rw [e] at q2
       omega
      ·rw [q]
       have:=HDel.out.2.2.2
       omega
    go_wp2_with fail
    (with_reducible refine HFu.out.mono ?_)
    rintro e w4 ⟨rfl,hf4,ys,hbx4,hcp4,hce4,hak4⟩
    have HRc:Hid (Calls Tryz.prog 118 #[.pointer (some ⟨b,0,none⟩)] w4 fun e w'=>e=.returned (.tuple #[])/\RetR key (d+2) (.inr l) (.iface 174 (.pointer (some ⟨b,0,none⟩))) (b::g::bss.flatten) w1 (.returned (.bool true)) w'):=by
     refine HFN.out w4 _ ys rfl (HF2.out.trans (hf4.mono (fun z hz=>?_))) hbx4 hcp4 hce4 hak4
     simp only [List.mem_cons] at hz ⊢
     rcases hz with q|q|q
     ·exact .inl q
     ·exact .inr (.inl q)
     ·exact .inr (.inr (HCS.out z q))
    clear hf4 hbx4 hcp4 hce4 hak4 HFN HFu
    go_wp2_with fail
    (with_reducible refine HRc.out.mono ?_)
    rintro e w5 ⟨rfl,hret⟩
    have HRet:Hid (RetR key (d+2) (.inr l) (.iface 174 (.pointer (some ⟨b,0,none⟩))) (b::g::bss.flatten) w1 (.returned (.bool true)) w5):=hret
    clear hret HRc
    go_wp2
    go_ret
    exact HRet.out
 ·have HC:Hid (Calls Tryz.prog 190 #[.pointer (some ⟨kb,0,none⟩),.string key] w1 (RetR key (d+1) l[i] (.iface 174 (.pointer (some ⟨kb,0,none⟩))) us w1)):=hcall
  clear hcall
  go_wp2_with fail
  (with_reducible refine HC.out.mono ?_)
  rintro e w2 (⟨hm,rfl,hb2⟩|⟨hm,rfl,hf2,y,kb',hkb',hdel,hnd⟩)
  ·have HR:Hid (RetR key (d+2) (.inr l) (.iface 174 (.pointer (some ⟨b,0,none⟩))) (b::g::bss.flatten) w1 (.returned (.bool false)) w2):=.inl ⟨fun q=>hm ((mem_kid HBal.out.2.1 HBal.out.2.2.1 HKI.out hi).1 q),rfl,hb2⟩
   clear hb2 hm HC
   go_wp2
   go_ret
   exact HR.out
  ·have HM:Hid (key∈keysR (d+2) (.inr l)):=(mem_kid HBal.out.2.1 HBal.out.2.2.1 HKI.out hi).2 hm
   have hli:=HBal.out.1 _ (List.getElem_mem hi)
   have hasi:=asc_kid HBal.out.2.1 i hi
   have HDel:Hid (DelR key (d+1) l[i] y/\BalU (d+1) y h'/\1<=sizD y/\(keysR (d+1) y).length<=20000):=by
    have q:=DelR.bal hli hasi hdel
    have q2:=hli.siz
    exact ⟨hdel,q.1,by omega,DelR.keys hli hasi (HBal.out.2.2.2 i hi) hdel⟩
   have hkk:kb'=kb:=hnd.box_eq (.inr rfl)
   have hhd:us.headD 0=kb:=HNd.out.box_eq (.inr rfl)
   subst hkk
   have HSz:Hid (Calls Tryz.prog 125 #[.pointer (some ⟨kb',0,none⟩)] w2 fun e w'=>e=.returned (.int .i64 (sizD y:Int))/\w'=w2):=hnd.szi.inner
   have HNR:Hid (NR (fun z=>(z∈bss.flatten/\z∉bss.map (fun us=>us.headD 0))\/w1.heap.size<=z) w2 d b g ln kc X (l.set i y) xs (bss.map (fun us=>us.headD 0))):=NR.of HX.out HO.out HLn.out hl0 HBl.out HD.out HAll.out i hi _ us HEq.out.1 HEq.out.2.1 hf2 y (by rw [hhd];exact hnd) HOlt.out
   have HCS:Hid (∀z,z∈bss.map (fun us=>us.headD 0)->z∈bss.flatten):=fun z hz=>by
    obtain ⟨vs,hv,rfl⟩:=List.mem_map.1 hz
    obtain ⟨k,hk,e⟩:=List.getElem_of_mem hv
    obtain ⟨u',us',e1,e2,e3⟩:=HAll.out k (by rw [<- HBl.out];exact hk)
    rw [List.getElem?_eq_getElem hk,e] at e2
    injection e2 with e2
    subst e2
    have q:=(e3.nd ((List.pairwise_flatten.1 HD.out.2.2).1 vs hv)).1
    refine List.mem_flatten.2 ⟨vs,hv,?_⟩
    cases vs with
    | nil=>exact absurd rfl q
    | cons a ts=>simp
   have HF2:Hid (Frs (b::g::bss.flatten) w1 w2):=hf2.mono (fun z hz=>by simp [List.mem_flatten.2 ⟨us,HEq.out.2.2,hz⟩])
   obtain ⟨cs,hcs⟩:∃cs,cs=bss.map (fun us=>us.headD 0):=⟨_,rfl⟩
   rw [<- hcs] at HNR HCS
   obtain ⟨sy,hsy⟩:∃sy,sy=sizD y:=⟨_,rfl⟩
   have HSy:Hid (sy=sizD y):=hsy
   rw [<- hsy] at HSz
   have hsy4:sy<=4:=by rw [hsy];exact HDel.out.2.1.le
   have HFN:Hid (∀(w3:World) (M:List (Ro (d+1))) (ys:List Value),M=fixD (l.set i y) i->Frs (b::g::bss.flatten) w1 w3->Bx w3 b 179 #[.int .i64 X,.slice (some ⟨g,0,none⟩) M.length kc]->M.length<=kc->(∀j u,ys[j]?=some u->w3.cell? ⟨g,j,none⟩=some u)->AllK (fun z=>((z∈bss.flatten/\z∉cs)\/w1.heap.size<=z)\/z∈cs\/w2.heap.size<=z) w3 (d+1) M ys->Calls Tryz.prog 118 #[.pointer (some ⟨b,0,none⟩)] w3 fun e w'=>e=.returned (.tuple #[])/\RetR key (d+2) (.inr l) (.iface 174 (.pointer (some ⟨b,0,none⟩))) (b::g::bss.flatten) w1 (.returned (.bool true)) w'):=by
    intro w3 M ys hM hfr hbx hcp hce hak
    have hnb:∀z,z∈bss.flatten->z∈b::g::bss.flatten/\z≠b:=fun z hz=>⟨by simp [hz],fun e=>HD.out.1 (List.mem_cons_of_mem _ (e ▸ hz))⟩
    have hz2:=HF2.out.2.2.2.1
    have hz3:=hfr.2.2.2.1
    refine rem_fin (cs:=cs) (w2:=w2) HBR.out.1 HBR.out.2.1 HBR.out.2.2 ⟨i,HKI.out,hi,y,HDel.out.1,by rw [hM]⟩ HM.out hbx ⟨hcp,hcap.2⟩ hce hak (fun z hz=>?_) (fun z hz=>hnb z (HCS.out z hz)) hz2 hfr (by simp) (HOlt.out b (by simp)).2 (by simp) (fun e=>HD.out.1 (by rw [e];simp)) (by have:=(HOlt.out g (by simp)).2;omega)
    rcases hz with q|q
    ·exact .inl (hnb z q.1)
    ·exact .inr q
   have c1:=HNR.out.box.cell 1
   simp at c1
   have cz:=HNR.out.box.lt
   have c2:w2.cell? ⟨g,i,none⟩=some (.iface 174 (.pointer (some ⟨kb',0,none⟩))):=HNR.out.row i _ HEq.out.1
   clear hnd hf2 hkb' hm hdel HC cgi p1 hli hasi hcs hsy
   go_wp2_with fail
   (with_reducible refine HSz.out.mono ?_)
   rintro e w3 ⟨rfl,hw3⟩
   subst w3
   by_cases hful:2<=sy
   ·have hd2:decide ((sy:Int)<2)=false:=decide_eq_false (by omega)
    have hi2:¬ (sy:Int)<2:=by omega
    have HRc:Hid (Calls Tryz.prog 118 #[.pointer (some ⟨b,0,none⟩)] w2 fun e w'=>e=.returned (.tuple #[])/\RetR key (d+2) (.inr l) (.iface 174 (.pointer (some ⟨b,0,none⟩))) (b::g::bss.flatten) w1 (.returned (.bool true)) w'):=by
     refine HFN.out w2 (l.set i y) xs (fixD_full (y:=y) (by simp [hi]) (by rw [<- HSy.out];exact hful)).symm HF2.out ?_ ?_ HNR.out.row HNR.out.all
     ·rw [HNR.out.ml]
      exact HNR.out.box
     ·rw [HNR.out.ml]
      exact hcap.1
    clear HFN
    go_wp2_with fail
    (with_reducible refine HRc.out.mono ?_)
    rintro e w4 ⟨rfl,hret⟩
    have HRet:Hid (RetR key (d+2) (.inr l) (.iface 174 (.pointer (some ⟨b,0,none⟩))) (b::g::bss.flatten) w1 (.returned (.bool true)) w4):=hret
    clear hret HRc
    go_wp2
    go_ret
    exact HRet.out
   ·have hd2:decide ((sy:Int)<2)=true:=decide_eq_true (by omega)
    have hi2:(sy:Int)<2:=by omega
    have HFu:Hid (Calls Tryz.prog 195 #[.pointer (some ⟨b,0,none⟩),.int .i64 (i:Int)] w2 (RetF (fun z=>(z∈bss.flatten/\z∉cs)\/w1.heap.size<=z) w2 d b g kc X (fixD (l.set i y) i) cs)):=by
     refine fillUp_any HNR.out b4 b2 i hiln h' y (by simp [hi]) HDel.out.2.1 HDel.out.2.2.1 (by rw [<- HSy.out];exact hful) (fun j t ht hj=>?_) (fun t ht=>?_)
     ·rw [List.getElem?_set_ne (by omega)] at ht
      exact HBal.out.1 t (List.mem_of_getElem? ht)
     ·rcases List.mem_or_eq_of_mem_set ht with q|q
      ·obtain ⟨k,hk,e⟩:=List.getElem_of_mem q
       have q1:=fit_len (bal_fit (HBal.out.1 t q))
       have q2:=HBal.out.2.2.2 k hk
       rw [e] at q2
       omega
      ·rw [q]
       have:=HDel.out.2.2.2
       omega
    go_wp2_with fail
    (with_reducible refine HFu.out.mono ?_)
    rintro e w4 ⟨rfl,hf4,ys,hbx4,hcp4,hce4,hak4⟩
    have HRc:Hid (Calls Tryz.prog 118 #[.pointer (some ⟨b,0,none⟩)] w4 fun e w'=>e=.returned (.tuple #[])/\RetR key (d+2) (.inr l) (.iface 174 (.pointer (some ⟨b,0,none⟩))) (b::g::bss.flatten) w1 (.returned (.bool true)) w'):=by
     refine HFN.out w4 _ ys rfl (HF2.out.trans (hf4.mono (fun z hz=>?_))) hbx4 hcp4 hce4 hak4
     simp only [List.mem_cons] at hz ⊢
     rcases hz with q|q|q
     ·exact .inl q
     ·exact .inr (.inl q)
     ·exact .inr (.inr (HCS.out z q))
    clear hf4 hbx4 hcp4 hce4 hak4 HFN HFu
    go_wp2_with fail
    (with_reducible refine HRc.out.mono ?_)
    rintro e w5 ⟨rfl,hret⟩
    have HRet:Hid (RetR key (d+2) (.inr l) (.iface 174 (.pointer (some ⟨b,0,none⟩))) (b::g::bss.flatten) w1 (.returned (.bool true)) w5):=hret
    clear hret HRc
    go_wp2
    go_ret
    exact HRet.out

theorem remO (key:ByteArray):∀(d:Nat) (t:Ro d) (v:Value) (bs:List Nat) (root:Bool) (h B:Nat) (w:World),TOw B w d t v bs->bs.Nodup->BalR d root t h->Asc (keysR d t)->nodesR d t<=5000->CallR v key w (RetR key d t v bs w)
 | 0,t,v,bs,root,h,B,w,hO,hd,hbal,ha,hnod=>t.elim
 | d+1,.inl L,v,bs,root,h,B,w,hO,hd,hbal,ha,hnod=>remLeafO key d B L v bs w hO hbal.2.1 ha
 | 1,.inr l,v,bs,root,h,B,w,hO,hd,hbal,ha,hnod=>by
  obtain ⟨b2,_⟩:=hbal
  cases l with
  | nil=>simp at b2
  | cons t ts=>exact t.elim
 | d+2,.inr l,v,bs,root,h,B,w,hO,hd,hbal,ha,hnod=>by
  have hbal':=hbal
  obtain ⟨b2,b4,h',rfl,hall⟩:=hbal
  refine remInnerO key d B l v bs w root _ hO hd hbal' ha hnod (fun i hi u us hu hus=>?_)
  exact remO key (d+1) l[i] u us false h' B w hu hus (hall _ (List.getElem_mem hi)) (asc_kid (show Asc (l.flatMap (keysR (d+1))) from ha) i hi) (by have:=kid_le (d+1) l i hi;have q:nodesR (d+1+1) (.inr l)<=5000:=hnod;omega)

theorem ta6 (p:Value) (W:World):(Instr.typeAssert (.iface 204 p) 68 174 true).run Tryz.prog W=.ok (.tuple #[.pointer none,.bool false]) W:=by kernel_rfl

def RetL2 (u:Ro 21) (w:World) (b:Nat) (S0:Nat->Prop) (e:Ending) (w' : World):Prop:=
 w'=w/\∃(D:Nat) (y:Ro D) (v' : Value) (S:Nat->Prop) (h:Nat),e=.returned v'/\TAo S w D y v'/\(∀x,S x->(S0 x\/x=b)/\x<w.heap.size)/\BalR D true y h/\nodesR D y<=nodesR 21 u/\∀M m,m=nodesR D y->Tells M 0 D y 0->DelT m M u

set_option maxHeartbeats 2000000 in
theorem lowered2_any (u:Ro 21) (v:Value) (b hh:Nat) (S:Nat->Prop) (w:World) (h:NdI S w b 21 u v) (hb:¬ S b) (hS:∀x,S x->x<w.heap.size) (hbw:b<w.heap.size) (hU:BalU 21 u hh):Calls Tryz.prog 89 #[v] w (RetL2 u w b S):=by
 have hall:=h.tao hb
 have hS' : ∀x,S x\/x=b->(S x\/x=b)/\x<w.heap.size:=fun x hx=>⟨hx,by
  rcases hx with q|q
  ·exact hS x q
  ·omega⟩
 match u,h,hU,hall with
 | .inl ks,h,hU,hall=>
  obtain ⟨rfl,ka,kc,hx,hc,hr⟩:=h
  have HF:Hid (RetL2 (.inl ks) w b S (.returned (.iface 204 (.pointer (some ⟨b,0,none⟩)))) w):=⟨rfl,21,.inl ks,_,_,hh,rfl,hall,hS',⟨hU.1,hU.2,Or.inl rfl⟩,Nat.le_refl _,fun M m hm ht=>.inr ⟨fun y e=>(by cases e),hm,ht⟩⟩
  have t6:=ta6 (.pointer (some ⟨b,0,none⟩))
  clear hall hx hc hr hU
  go_enter Tryz.func89,Tryz.ntmps89
  go_wp2
  go_ret
  exact HF.out
 | .inr l,h,hU,hall=>
  obtain ⟨rfl,g,o,kc,xs,hx,hg,hc,h0,hcc,hk⟩:=h
  obtain ⟨b1,b4,h',rfl,hb'⟩:=hU
  have t4:=ta4 (.pointer (some ⟨b,0,none⟩))
  obtain ⟨ln,hln⟩:∃ln,ln=l.length:=⟨_,rfl⟩
  rw [<- hln] at hx
  have HSz:Hid (Calls Tryz.prog 125 #[.pointer (some ⟨b,0,none⟩)] w fun e w'=>e=.returned (.int .i64 (ln:Int))/\w'=w):=sizeInner_any b ln kc _ _ w hx
  by_cases h1:l.length=1
  ·obtain ⟨y,ey⟩:∃y,l=[y]:=List.length_eq_one_iff.1 h1
   subst ey
   have e1:ln=1:=hln
   subst e1
   obtain ⟨u',hu',ht'⟩:=hk 0 (by simp)
   have HF:Hid (RetL2 (.inr [y]) w b S (.returned u') w):=by
    have hby:=hb' y (by simp)
    refine ⟨rfl,20,y,u',S,h',rfl,ht',fun x hx=>⟨.inl hx,hS x hx⟩,(BalU.of hby).full true hby.siz,?_,fun M m hm ht=>.inl ⟨y,rfl,hm,ht⟩⟩
    have q2:nodesR 21 (.inr [y])=1+(nodesR 20 y+0):=rfl
    omega
   have c1:=hx.cell 1
   simp at c1
   have z0:=hcc 0 u' hu'
   rw [Nat.add_zero] at z0
   have hgl:=hc.1
   have hcap:=hc.2
   clear hall hx hc hk hcc hb' ht' h0 hln
   go_enter Tryz.func89,Tryz.ntmps89
   go_wp2_with fail
   (with_reducible refine HSz.out.mono ?_)
   rintro e w1 ⟨rfl,hw1⟩
   subst w1
   go_wp2
   go_ret
   exact HF.out
  ·have HF:Hid (RetL2 (.inr l) w b S (.returned (.iface 174 (.pointer (some ⟨b,0,none⟩)))) w):=by
    have hbu:BalU 21 (.inr l) (h'+1):=⟨b1,b4,h',rfl,hb'⟩
    refine ⟨rfl,21,.inr l,_,_,h'+1,rfl,hall,hS',hbu.full true (by show 2<=l.length;omega),Nat.le_refl _,fun M m hm ht=>.inr ⟨fun y e=>?_,hm,ht⟩⟩
    injection e with e
    rw [e] at h1
    exact h1 rfl
   have hd1:decide ((ln:Int)=1)=false:=decide_eq_false (by omega)
   have hi1:¬ (ln:Int)=1:=by omega
   clear hall hx hc hk hcc hb' h0 hln h1
   go_enter Tryz.func89,Tryz.ntmps89
   go_wp2_with fail
   (with_reducible refine HSz.out.mono ?_)
   rintro e w1 ⟨rfl,hw1⟩
   subst w1
   go_wp2
   go_ret
   exact HF.out

def XD (lo hi H0:Nat) (w:World) (A:Array Value) (M:Nat->Nat) (T:Nat->Nat->Tn) (q:Qd) (p:Nat):Prop:=
 A[p*2]?=some (.func (.func (layF p)) #[] #[])/\∃(t' : Ro 21) (D:Nat) (y:Ro D) (v' : Value) (S:Nat->Prop) (hh:Nat) (u:Ro 21),VTt (M p) (T p) t'/\keyOf p q∈keysR 21 t'/\TAo S w D y v'/\(∀x,S x->((lo<=x/\x<hi)\/H0<=x)/\x<w.heap.size)/\BalR D true y hh/\DelR (keyOf p q) 21 t' u/\nodesR D y<=5000/\(∀M m,m=nodesR D y->Tells M 0 D y 0->DelT m M u)/\A[p*2+1]?=some v'
theorem XD.keep {lo hi H0:Nat} {w w' : World} {A:Array Value} {M:Nat->Nat} {T:Nat->Nat->Tn} {q:Qd} {p:Nat} (h:XD lo hi H0 w A M T q p) (hz:w.heap.size<=w'.heap.size) (hk:∀x,((lo<=x/\x<hi)\/H0<=x)->x<w.heap.size->w'.heap[x]?=w.heap[x]?):XD lo hi H0 w' A M T q p:=by
 obtain ⟨h0,t',D,y,v',S,hh,rs,h1,h2,h3,h4,h5⟩:=h
 exact ⟨h0,t',D,y,v',S,hh,rs,h1,h2,TAo.keep hz (fun b hb hl=>⟨hb,hk b (h4 b hb).1 hl⟩) h3,fun x hx=>⟨(h4 x hx).1,Nat.lt_of_lt_of_le (h4 x hx).2 hz⟩,h5⟩
theorem XD.set {lo hi H0:Nat} {w:World} {A:Array Value} {M:Nat->Nat} {T:Nat->Nat->Tn} {q:Qd} {p j:Nat} {v:Value} (h:XD lo hi H0 w A M T q p) (hp:p≠j):XD lo hi H0 w (A.setIfInBounds (j*2+1) v) M T q p:=by
 obtain ⟨h0,t',D,y,v',S,hh,rs,h1,h2,h3,h4,h5,h6,h8,h9,h10⟩:=h
 refine ⟨?_,t',D,y,v',S,hh,rs,h1,h2,h3,h4,h5,h6,h8,h9,?_⟩
 ·rw [Array.getElem?_setIfInBounds_ne (by omega)];exact h0
 ·rw [Array.getElem?_setIfInBounds_ne (by omega)];exact h10
def RetDel (w0 W:World) (M:Nat->Nat) (T:Nat->Nat->Tn) (q:Qd) (lo hi:Nat->Nat) (e:Ending) (w' : World):Prop:=
 Below (w0.heap.size+1) W w'/\((e=.returned (.bool false)/\¬ DelOk 6 M T q)\/(e=.returned (.bool true)/\DelOk 6 M T q/\∃A',Bx w' (w0.heap.size+1) 109 A'/\∀p,p<6->XD (lo p) (hi p) (W.heap.size+1) w' A' M T q p))
end Go.Proofs.YtcnollkkigiobaaGreat
