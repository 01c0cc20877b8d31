import Derived.Test.YtcnollkkigiobaaGreatNd32
import Derived.Test.YtcnollkkigiobaaGreatNd42
import Derived.Test.YtcnollkkigiobaaGreatNd40
import Derived.Test.YtcnollkkigiobaaGreatNd26
import Derived.Test.YtcnollkkigiobaaGreatNd48
set_option linter.unusedVariables false
set_option maxRecDepth 100000
namespace Go.Proofs.YtcnollkkigiobaaGreat
open Go.RowKit Go.Deep

def RetDd (w:World) (n:Nat) (M:Nat->Nat) (T:Nat->Nat->Tn) (q:Qd) (e:Ending) (w' : World):Prop:=
 Below w.heap.size w w'/\((DelOk n M T q/\∃a c M' T' us lo hi,e=.returned (.agg #[.bool true,.slice a 6 c])/\RowI TreeRd w' (w.heap.size+3) (.slice a 6 c) 6 M' T' us lo hi/\∀i,i<6->DelD (M i) (T i) (keyOf i q) (M' i) (T' i))\/
  (¬ DelOk n M T q/\∃a c us lo hi,e=.returned (.agg #[.bool false,.slice a n c])/\RowI TreeRd w' (w.heap.size+3) (.slice a n c) n M T us lo hi))
set_option maxHeartbeats 8000000 in
theorem specID (a:Option Addr) (n c:Nat) (M:Nat->Nat) (T:Nat->Nat->Tn) (q:Qd) (w:World) (h:RdIxC w a n M T) (hn:n<=1048576) (hN:IxFit n M T) :
  Calls Tryz.prog 22 #[.agg #[.slice a n c],qv q] w (RetDd w n M T q):=by
 have HR:Hid (RdIxC w a n M T/\IxFit n M T):=⟨h,hN⟩
 clear h hN
 obtain ⟨W0,hW0⟩:∃W0,W0=((w.alloc (.cells #[.slice a n c] 32)).alloc (.cells #[.int .i64 q.s,.int .i64 q.p,.int .i64 q.o,.int .i64 q.g] 34)).alloc (.cells #[.bool false,.slice none 0 0] 42):=⟨_,rfl⟩
 have B0:Hid (Bx W0 w.heap.size 32 #[.slice a n c]/\Bx W0 (w.heap.size+1) 34 #[.int .i64 q.s,.int .i64 q.p,.int .i64 q.o,.int .i64 q.g]/\Bx W0 (w.heap.size+2) 42 #[.bool false,.slice none 0 0]/\Below w.heap.size w W0/\W0.heap.size=w.heap.size+3):=by
  have b1:=Bx.new w #[.slice a n c] 32
  have b2:=Bx.new (w.alloc (.cells #[.slice a n c] 32)) #[.int .i64 q.s,.int .i64 q.p,.int .i64 q.o,.int .i64 q.g] 34
  have b3:=Bx.new ((w.alloc (.cells #[.slice a n c] 32)).alloc (.cells #[.int .i64 q.s,.int .i64 q.p,.int .i64 q.o,.int .i64 q.g] 34)) #[.bool false,.slice none 0 0] 42
  simp only [World.size_alloc] at b2 b3
  rw [hW0]
  exact ⟨(b1.alloc _).alloc _,b2.alloc _,b3,((below_alloc _ _).alloc (by simp) _).alloc (by simp;omega) _,by simp⟩
 have HBel:Hid (∀W,Below (w.heap.size+3) W0 W->Below w.heap.size w W):=fun W hb=>B0.out.2.2.2.1.trans (hb.mono (by omega))
 have HCe:Hid (∀W,Below (w.heap.size+3) W0 W->W.cell? ⟨w.heap.size,0,none⟩=some (.slice a n c)/\(W.cell? ⟨w.heap.size+1,0,none⟩=some (.int .i64 q.s)/\W.cell? ⟨w.heap.size+1,1,none⟩=some (.int .i64 q.p)/\W.cell? ⟨w.heap.size+1,2,none⟩=some (.int .i64 q.o)/\W.cell? ⟨w.heap.size+1,3,none⟩=some (.int .i64 q.g))/\W.cell? ⟨w.heap.size+2,0,none⟩=some (.bool false)/\W.cell? ⟨w.heap.size+2,1,none⟩=some (.slice none 0 0)/\w.heap.size+2<W.heap.size/\∀i,W.frozen? ⟨w.heap.size+2,i,none⟩=false):=fun W hb=>by
  have b1:=B0.out.1.below' hb (by omega)
  have b2:=B0.out.2.1.below' hb (by omega)
  have b3:=B0.out.2.2.1.below' hb (by omega)
  exact ⟨b1.cell 0,⟨b2.cell 0,b2.cell 1,b2.cell 2,b2.cell 3⟩,b3.cell 0,b3.cell 1,b3.lt,fun i=>b3.frozen i⟩
 have HVi:Hid (∀W,Below (w.heap.size+3) W0 W->Calls Tryz.prog 25 #[.agg #[.slice a n c]] W (AnsN W (VI n M T))):=fun W hb=>specVI a n c M T W (HR.out.1.rd.below (HBel.out W hb)) hn HR.out.2
 have HNx:Hid (∀W W' : World,Below (w.heap.size+3) W0 W->Below W.heap.size W W'->Below (w.heap.size+3) W0 W'):=fun W W' h1 h2=>h1.trans (h2.mono (by have:=h1.size;rw [B0.out.2.2.2.2] at this;exact this))
 unfold qv
 by_cases hvi:VI n M T
 case neg=>
  have HVn:Hid (∀W,Below (w.heap.size+3) W0 W->Calls Tryz.prog 25 #[.agg #[.slice a n c]] W fun e w'=>e=.returned (.bool false)/\Below W.heap.size W w'):=fun W hb=>(HVi.out W hb).mono fun e w' ⟨b,h1,h2,h3⟩=>by
   cases b with
   | true=>exact absurd (h2.1 rfl) hvi
   | false=>exact ⟨h1,h3⟩
  have HNO:Hid (¬ DelOk n M T q):=fun hk=>hvi hk.1
  clear HVi hvi
  go_enter Tryz.func22,Tryz.ntmps22
  go_upto_region 1 with fail
  rw [<- hW0]
  clear hW0
  have K0:Hid (Below (w.heap.size+3) W0 W0.drew):=(Below.refl _ _).drew
  obtain ⟨x0,⟨q0,q1,q2,q3⟩,_⟩:=HCe.out W0 (Below.refl _ _)
  go_cut [19] from 7 to 19 (fun s19 wx=>s19=.bool true/\Below (w.heap.size+3) W0 wx)
  case first=>
   first
    | go_region_with (first|(go_at_call 25;(with_reducible refine (HVn.out _ K0.out).mono ?_);rintro e w1 ⟨rfl,hb1⟩;have K1:Hid (Below (w.heap.size+3) W0 w1):=HNx.out _ w1 K0.out hb1;clear hb1 x0 q0 q1 q2 q3)|fail)
    | fail
   all_goals
    go_wp2
    go_meet
    case rel=>exact ⟨rfl,K1.out⟩
  case rest=>
  obtain ⟨w1,rfl⟩:∃x,x=wc:=⟨_,rfl⟩
  obtain ⟨rfl,hb1⟩:=hcut
  have K1:Hid (Below (w.heap.size+3) W0 w1):=hb1
  clear hb1 x0 q0 q1 q2 q3 HVn K0
  have f0:=(HCe.out w1 K1.out).1
  obtain ⟨fr0,fr1,frz,frf⟩:=(HCe.out w1 K1.out).2.2
  have HCp:Hid (Calls Tryz.prog 42 #[.agg #[.slice a n c]] w1 (RetCs w1 n M T)):=l5Copy_any a n c M T w1 (HR.out.1.rd.below (HBel.out w1 K1.out)) hn HR.out.2
  go_wp2_with fail
  (with_reducible refine HCp.out.mono ?_)
  rintro e wz ⟨az,cz,us,lo,hi,rfl,hrz,hbz⟩
  have HZz:Hid (Below (w.heap.size+3) W0 wz/\RowI TreeRd wz (w.heap.size+3) (.slice az n cz) n M T us lo hi):=by
   have q1:=K1.out
   have q2:w.heap.size+3<=w1.heap.size:=by
    have:=q1.size
    rw [B0.out.2.2.2.2] at this
    exact this
   exact ⟨q1.trans (hbz.mono q2),hrz.low (by omega)⟩
  obtain ⟨gr0,gr1,grz,grf⟩:=(HCe.out wz HZz.out.1).2.2
  clear f0 fr0 fr1 frz frf hrz hbz
  go_wp2
  refine bodyPost_ret (v:=.agg #[.bool false,.slice az n cz]) (by simp [results,Tryz.results22,go_sem,gr0,gr1]) rfl ⟨((HBel.out wz HZz.out.1).setCell (by simp;try omega) _).setCell (by simp;try omega) _,.inr ⟨HNO.out,az,cz,us,lo,hi,rfl,?_⟩⟩
  exact (HZz.out.2.setO TreeRd.pl (by simp) _).setO TreeRd.pl (by simp) _
 have e6:n=6:=hvi.1
 subst e6
 have HVy:Hid (∀W,Below (w.heap.size+3) W0 W->Calls Tryz.prog 25 #[.agg #[.slice a 6 c]] W fun e w'=>e=.returned (.bool true)/\Below W.heap.size W w'):=fun W hb=>(HVi.out W hb).mono fun e w' ⟨b,h1,h2,h3⟩=>by
  cases b with
  | false=>exact absurd (h2.2 hvi) (by decide)
  | true=>exact ⟨h1,h3⟩
 have HVv:Hid (VI 6 M T):=hvi
 clear hvi HVi
 obtain ⟨t0,ht0,hl0,hg0⟩:=HVv.out.2.1 0 (by omega)
 obtain ⟨L0,hL0⟩:∃L0,L0=(keysR 21 t0).map (quadOf 0):=⟨_,rfl⟩
 have hl300:L0.length<=300:=by rw [hL0,List.length_map];exact hl0
 have HOk:Hid (DelOk 6 M T q↔q∈L0):=by
  constructor
  ·intro hk
   rw [hL0]
   exact hk.2 t0 ht0
  ·intro hk
   refine ⟨HVv.out,fun t ht=>?_⟩
   have e:=vtt1 ht ht0
   subst e
   rw [hL0] at hk
   exact hk
 have HGd:Hid (q∈L0->quadB q=true):=by
  intro hm
  rw [hL0] at hm
  obtain ⟨k,hk,e⟩:=List.mem_map.1 hm
  rw [<- e]
  exact (hg0 k hk).2
 obtain ⟨bb,oo,ea,hbb,hrows⟩:∃bb oo,a=some ⟨bb,oo,none⟩/\bb<w.heap.size/\∀i,i<6->∃ai ci,w.cell? ⟨bb,oo+i,none⟩=some (.slice ai (M i) ci)/\RdTnC capC w ai (M i) (T i):=by
  rcases HR.out.1 with h0|⟨bb,oo,e,hc⟩
  ·omega
  ·obtain ⟨ai,ci,s0,_⟩:=hc 0 (by omega)
   exact ⟨bb,oo,e,World.block_lt_of_cell? _ _ s0,hc⟩
 subst ea
 have HRows:Hid (bb<w.heap.size/\∀i,i<6->∃ai ci,w.cell? ⟨bb,oo+i,none⟩=some (.slice ai (M i) ci)/\RdTnC capC w ai (M i) (T i)):=⟨hbb,hrows⟩
 clear hbb hrows
 obtain ⟨a0,c0,s0,hr0⟩:=HRows.out.2 0 (by omega)
 have HS0:Hid (∀W,Below (w.heap.size+3) W0 W->W.cell? ⟨bb,oo,none⟩=some (.slice a0 (M 0) c0)):=fun W hb=>by
  rw [(HBel.out W hb).cell (show (⟨bb,oo,none⟩:Addr).block<w.heap.size from HRows.out.1)]
  simpa using s0
 obtain ⟨ll,hll⟩:∃ll,ll=L0.length:=⟨_,rfl⟩
 obtain ⟨bh,hbh⟩:∃bh:Bool,(bh=true↔q∈L0):=by
  by_cases h:q∈L0
  ·exact ⟨true,by simp [h]⟩
  ·exact ⟨false,by simp [h]⟩
 have HQs:Hid (∀W,Below (w.heap.size+3) W0 W->Calls Tryz.prog 33 #[.agg #[.slice a0 (M 0) c0],.int .i64 0] W fun e w'=>∃a' c',e=.returned (.slice a' ll c')/\RdQ w' a' L0/\Below W.heap.size W w'):=fun W hb=>by
  rw [hll]
  exact l5Quads_any 0 (by omega) a0 (M 0) c0 (T 0) t0 W (hr0.rd.below (HBel.out W hb)) ht0 (HR.out.2 0 (by omega)).2 (fun k hk=>(hg0 k hk).1) hl0 L0 hL0
 have HHas:Hid (∀W a3 c3,RdQ W a3 L0->Calls Tryz.prog 43 #[.slice a3 ll c3,.agg #[.int .i64 q.s,.int .i64 q.p,.int .i64 q.o,.int .i64 q.g]] W fun e w'=>e=.returned (.bool bh)/\Below W.heap.size W w'):=fun W a3 c3 hr=>(l5Has_any a3 ll c3 L0 q W hr hll (by omega)).mono fun e w' ⟨b,h1,h2,h3⟩=>by
  have e:b=bh:=Bool.eq_iff_iff.2 (h2.trans hbh.symm)
  rw [<- e]
  exact ⟨h1,h3⟩
 have HBh:Hid (bh=true↔q∈L0):=hbh
 clear s0 hr0 ht0 hl0 hg0 hL0 hll hbh
 go_enter Tryz.func22,Tryz.ntmps22
 go_upto_region 1 with fail
 rw [<- hW0]
 clear hW0
 have K0:Hid (Below (w.heap.size+3) W0 W0.drew):=(Below.refl _ _).drew
 obtain ⟨x0,⟨q0,q1,q2,q3⟩,_⟩:=HCe.out W0 (Below.refl _ _)
 have s0':=HS0.out W0 (Below.refl _ _)
 obtain ⟨nb,hnb⟩:∃nb:Bool,nb=!bh:=⟨_,rfl⟩
 have HNb:Hid (nb=!bh):=hnb
 clear hnb
 go_cut [19] from 7 to 19 (fun s19 wx=>s19=.bool nb/\Below (w.heap.size+3) W0 wx)
 case first=>
  go_region_with (first
   | (go_at_call 25;(with_reducible refine (HVy.out _ K0.out).mono ?_);rintro e w1 ⟨rfl,hb1⟩;have K1:Hid (Below (w.heap.size+3) W0 w1):=HNx.out _ w1 K0.out hb1;clear hb1 x0 q0 q1 q2 q3 s0';obtain ⟨x0,⟨q0,q1,q2,q3⟩,_⟩:=HCe.out w1 K1.out;have s0':=HS0.out w1 K1.out)
   | (go_at_call 33;(with_reducible refine (HQs.out _ K1.out).mono ?_);rintro e w3 ⟨a3,c3,rfl,hrq,hb3⟩;have K3:Hid (Below (w.heap.size+3) W0 w3):=HNx.out w1 w3 K1.out hb3;have HH2:Hid (Calls Tryz.prog 43 #[.slice a3 ll c3,.agg #[.int .i64 q.s,.int .i64 q.p,.int .i64 q.o,.int .i64 q.g]] w3 fun e w'=>e=.returned (.bool bh)/\Below w3.heap.size w3 w'):=HHas.out w3 a3 c3 hrq;clear hb3 hrq x0 q0 q1 q2 q3 s0';obtain ⟨x0,⟨q0,q1,q2,q3⟩,_⟩:=HCe.out w3 K3.out)
   | (go_at_call 43;((with_reducible refine HH2.out.mono ?_);rintro e w4 ⟨rfl,hb4⟩;have K4:Hid (Below (w.heap.size+3) W0 w4):=HNx.out w3 w4 K3.out hb4;clear hb4 x0 q0 q1 q2 q3)))
  all_goals
   go_wp2
   go_meet
   case rel=>exact ⟨by rw [HNb.out],K4.out⟩
 case rest=>
 obtain ⟨w4,rfl⟩:∃x,x=wc:=⟨_,rfl⟩
 obtain ⟨rfl,hb4⟩:=hcut
 have K4:Hid (Below (w.heap.size+3) W0 w4):=hb4
 clear hb4 x0 q0 q1 q2 q3 s0' HVy HQs HHas HS0 K0
 cases bh with
 | false=>
  have hnb:nb=true:=HNb.out
  subst hnb
  have HNO:Hid (¬ DelOk 6 M T q):=fun hk=>absurd (HBh.out.2 (HOk.out.1 hk)) (by decide)
  have f0:=(HCe.out w4 K4.out).1
  obtain ⟨fr0,fr1,frz,frf⟩:=(HCe.out w4 K4.out).2.2
  have HCp:Hid (Calls Tryz.prog 42 #[.agg #[.slice (some ⟨bb,oo,none⟩) 6 c]] w4 (RetCs w4 6 M T)):=l5Copy_any (some ⟨bb,oo,none⟩) 6 c M T w4 (HR.out.1.rd.below (HBel.out w4 K4.out)) hn HR.out.2
  go_wp2_with fail
  (with_reducible refine HCp.out.mono ?_)
  rintro e wz ⟨az,cz,us,lo,hi,rfl,hrz,hbz⟩
  have HZz:Hid (Below (w.heap.size+3) W0 wz/\RowI TreeRd wz (w.heap.size+3) (.slice az 6 cz) 6 M T us lo hi):=by
   have q1:=K4.out
   have q2:w.heap.size+3<=w4.heap.size:=by
    have:=q1.size
    rw [B0.out.2.2.2.2] at this
    exact this
   exact ⟨q1.trans (hbz.mono q2),hrz.low (by omega)⟩
  obtain ⟨gr0,gr1,grz,grf⟩:=(HCe.out wz HZz.out.1).2.2
  clear f0 fr0 fr1 frz frf hrz hbz
  go_wp2
  refine bodyPost_ret (v:=.agg #[.bool false,.slice az 6 cz]) (by simp [results,Tryz.results22,go_sem,gr0,gr1]) rfl ⟨((HBel.out wz HZz.out.1).setCell (by simp;try omega) _).setCell (by simp;try omega) _,.inr ⟨HNO.out,az,cz,us,lo,hi,rfl,?_⟩⟩
  exact (HZz.out.2.setO TreeRd.pl (by simp) _).setO TreeRd.pl (by simp) _
 | true=>
 have hnb:nb=false:=HNb.out
 subst hnb
 have HYes:Hid (DelOk 6 M T q):=HOk.out.2 (HBh.out.1 rfl)
 have hgq:quadB q=true:=HGd.out (HBh.out.1 rfl)
 clear HOk HBh hl300 HNx HGd HNb
 have K6:Hid (Bx (w4.alloc (.cells #[.slice none 0 0] 32)) w4.heap.size 32 #[.slice none 0 0]/\Below (w.heap.size+3) W0 (w4.alloc (.cells #[.slice none 0 0] 32))/\w.heap.size+3<=w4.heap.size/\(w4.alloc (.cells #[.slice none 0 0] 32)).heap.size=w4.heap.size+1):=by
  have q2:w.heap.size+3<=w4.heap.size:=by
   have:=K4.out.size
   rw [B0.out.2.2.2.2] at this
   exact this
  exact ⟨Bx.new _ _ _,K4.out.trans ((below_alloc _ _).mono q2),q2,by simp⟩
 go_upto_region 4 with fail
 obtain ⟨W6,hW6⟩:∃W6,W6=w4.alloc (.cells #[.slice none 0 0] 32):=⟨_,rfl⟩
 rw [<- hW6] at K6 ⊢
 obtain ⟨b6,hb6⟩:∃b6,b6=w4.heap.size:=⟨_,rfl⟩
 rw [<- hb6] at K6 ⊢
 clear hW6 hb6 K4
 go_wp2
 go_loopw [6] (fun i wr=>∃(k:Nat) (v:Value) (M' : Nat->Nat) (T' : Nat->Nat->Tn) (us:List Value) (lo hi:Nat->Nat),k<=6/\i=.int .i64 k/\RowI TreeRd wr (b6+1) v k M' T' us lo hi/\Bx wr b6 32 #[v]/\Below b6 W6 wr/\∀i,i<k->DelD (M i) (T i) (keyOf i q) (M' i) (T' i)) (fun i _=>6-(intOf i).toNat)
 case atStart=>exact ⟨0,_,fun _=>0,fun _ _=>⟨false,0,fun _=>{ data:=#[] },0,fun _=>0,0⟩,[],_,_,Nat.zero_le _,rfl,RowI.nil _ _ _ _ _,K6.out.1,Below.refl _ _,fun i hi=>absurd hi (Nat.not_lt_zero _)⟩
 case round=>
  obtain ⟨k,v,M',T',us,lo,hi,hk,rfl,hrow,hbx,hbel,hins⟩:=hrel
  obtain ⟨av,cv,ev⟩:=hrow.form
  subst ev
  have hz:=hbel.size
  have hz6:=K6.out.2.2.2
  have hb63:=K6.out.2.2.1
  have HQ:Hid (RowI TreeRd wr (b6+1) (.slice av k cv) k M' T' us lo hi/\Below b6 W6 wr/\b6+1<=wr.heap.size/\Below (w.heap.size+3) W0 wr/\Bx wr b6 32 #[.slice av k cv]/\∀i,i<k->DelD (M i) (T i) (keyOf i q) (M' i) (T' i)):=⟨hrow,hbel,by omega,K6.out.2.1.trans (hbel.mono hb63),hbx,hins⟩
  have k0:(0:Int)<=(k:Int):=by omega
  by_cases hlt:k<6
  ·have k1:(k:Int)<6:=by omega
   obtain ⟨x1,⟨p0,p1,p2,p3⟩,_⟩:=HCe.out wr HQ.out.2.2.2.1
   obtain ⟨ai,ci,s9,hrd⟩:=HRows.out.2 k hlt
   have hbw:=HBel.out wr HQ.out.2.2.2.1
   have x2:wr.cell? ⟨bb,oo+k,none⟩=some (.slice ai (M k) ci):=by
    rw [hbw.cell (show (⟨bb,oo+k,none⟩:Addr).block<w.heap.size from HRows.out.1)]
    exact s9
   have x0:wr.cell? ⟨b6,0,none⟩=some (.slice av k cv):=by
    have:=hbx.cell 0
    simpa using this
   obtain ⟨key,hkey⟩:∃key,key=keyOf k q:=⟨_,rfl⟩
   have HKy:Hid (key=keyOf k q):=hkey
   have HKey:Hid (Calls Tryz.prog 45 #[.agg #[.int .i64 q.s,.int .i64 q.p,.int .i64 q.o,.int .i64 q.g],.int .i64 (k:Int)] wr.drew fun e w'=>e=.returned (.string key)/\Below wr.drew.heap.size wr.drew w'):=by
    rw [hkey]
    exact l5Key_any k hlt q (fun i hi=>⟨by have:=(part_pos hlt hgq i hi).1;omega,(part_pos hlt hgq i hi).2⟩) wr.drew
   have HC:Hid (∀W:World,Below wr.heap.size wr W->Calls Tryz.prog 50 #[.agg #[.slice ai (M k) ci],.string key] W (RetDlN W (M k) (T k) key)):=fun W hW=>specDelN ai (M k) ci (T k) key W ((hrd.below hbw).below hW) (HR.out.2 k hlt).1 (HR.out.2 k hlt).2 (by rw [hkey,keyOf_size];unfold maxLen;omega)
   have HK2:Hid (∀w2:World,Below wr.heap.size wr w2->w2.cell? ⟨b6,0,none⟩=some (.slice av k cv)/\w2.cell? ⟨w.heap.size,0,none⟩=some (.slice (some ⟨bb,oo,none⟩) 6 c)/\w2.cell? ⟨bb,oo+k,none⟩=some (.slice ai (M k) ci)/\w2.cell? ⟨w.heap.size+1,0,none⟩=some (.int .i64 q.s)/\w2.cell? ⟨w.heap.size+1,1,none⟩=some (.int .i64 q.p)/\w2.cell? ⟨w.heap.size+1,2,none⟩=some (.int .i64 q.o)/\w2.cell? ⟨w.heap.size+1,3,none⟩=some (.int .i64 q.g)):=fun w2 hb=>⟨(hb.cell (World.block_lt_of_cell? _ _ x0)).trans x0,(hb.cell (World.block_lt_of_cell? _ _ x1)).trans x1,(hb.cell (World.block_lt_of_cell? _ _ x2)).trans x2,(hb.cell (World.block_lt_of_cell? _ _ p0)).trans p0,(hb.cell (World.block_lt_of_cell? _ _ p1)).trans p1,(hb.cell (World.block_lt_of_cell? _ _ p2)).trans p2,(hb.cell (World.block_lt_of_cell? _ _ p3)).trans p3⟩
   have HK3:Hid (∀w2:World,Below wr.heap.size wr w2->∀O:Obj,(w2.alloc O).cell? ⟨b6,0,none⟩=some (.slice av k cv)/\(w2.alloc O).cell? ⟨w.heap.size,0,none⟩=some (.slice (some ⟨bb,oo,none⟩) 6 c)/\(w2.alloc O).cell? ⟨bb,oo+k,none⟩=some (.slice ai (M k) ci)/\(w2.alloc O).cell? ⟨w.heap.size+1,0,none⟩=some (.int .i64 q.s)/\(w2.alloc O).cell? ⟨w.heap.size+1,1,none⟩=some (.int .i64 q.p)/\(w2.alloc O).cell? ⟨w.heap.size+1,2,none⟩=some (.int .i64 q.o)/\(w2.alloc O).cell? ⟨w.heap.size+1,3,none⟩=some (.int .i64 q.g)):=fun w2 h O=>HK2.out _ (h.trans ((below_alloc w2 O).mono h.size))
   have hown:∀g,(Value.slice av k cv).ownBlock=some g->b6+1<=g:=fun g e=>(own_lt HQ.out.1.row g e).1
   have hbb:=HRows.out.1
   have HK4:Hid (∀(w2 w4:World),Below wr.heap.size wr w2->∀O:Obj,(w2.alloc O).grownBy w4 (Value.slice av k cv).ownBlock->(w4.cell? ⟨b6,0,none⟩=some (.slice av k cv)/\w4.cell? ⟨w.heap.size,0,none⟩=some (.slice (some ⟨bb,oo,none⟩) 6 c)/\w4.cell? ⟨bb,oo+k,none⟩=some (.slice ai (M k) ci)/\w4.cell? ⟨w.heap.size+1,0,none⟩=some (.int .i64 q.s)/\w4.cell? ⟨w.heap.size+1,1,none⟩=some (.int .i64 q.p)/\w4.cell? ⟨w.heap.size+1,2,none⟩=some (.int .i64 q.o)/\w4.cell? ⟨w.heap.size+1,3,none⟩=some (.int .i64 q.g))/\w4.frozen? ⟨b6,0,none⟩=false/\b6<w4.heap.size):=fun w2 w4 hb O hg=>by
    have bxx:Bx w4 b6 32 #[.slice av k cv]:=(keep_block hb hg hown (by omega) (by have:=HQ.out.2.2.1;omega)).trans HQ.out.2.2.2.2.1
    have kc:∀{p:Addr} {u:Value},p.block<b6+1->wr.cell? p=some u->w4.cell? p=some u:=fun hp hu=>(keep_cell hb hg hown hp (World.block_lt_of_cell? _ _ hu)).trans hu
    exact ⟨⟨by have:=bxx.cell 0;simpa using this,kc (by show w.heap.size<_;omega) x1,kc (by show bb<_;omega) x2,kc (by show w.heap.size+1<_;omega) p0,kc (by show w.heap.size+1<_;omega) p1,kc (by show w.heap.size+1<_;omega) p2,kc (by show w.heap.size+1<_;omega) p3⟩,bxx.frozen 0,bxx.lt⟩
   have HT:Hid (∀w2:World,Below wr.heap.size wr w2->∀O:Obj,(w2.alloc O).ownsRow (b6+1) 59 1 (.slice av k cv) k us):=fun w2 h O=>own_below (own_below HQ.out.1.row h) (below_alloc _ _)
   have HZ:Hid (∀w2:World,Below wr.heap.size wr w2->b6+1<=w2.heap.size):=fun w2 h=>Nat.le_trans HQ.out.2.2.1 h.size
   have xd0:wr.drew.cell? ⟨b6,0,none⟩=some (.slice av k cv):=x0
   have xd1:wr.drew.cell? ⟨w.heap.size,0,none⟩=some (.slice (some ⟨bb,oo,none⟩) 6 c):=x1
   have xd2:wr.drew.cell? ⟨bb,oo+k,none⟩=some (.slice ai (M k) ci):=x2
   have xd3:wr.drew.cell? ⟨w.heap.size+1,0,none⟩=some (.int .i64 q.s):=p0
   have xd4:wr.drew.cell? ⟨w.heap.size+1,1,none⟩=some (.int .i64 q.p):=p1
   have xd5:wr.drew.cell? ⟨w.heap.size+1,2,none⟩=some (.int .i64 q.o):=p2
   have xd6:wr.drew.cell? ⟨w.heap.size+1,3,none⟩=some (.int .i64 q.g):=p3
   clear hrow hbel hbx hins hrd hown hkey s9 hbw
   go_wp2
   refine wp_region_late (S:=(fun w'=>w'.cell? ⟨b6,0,none⟩=some (.slice av k cv)/\w'.cell? ⟨w.heap.size,0,none⟩=some (.slice (some ⟨bb,oo,none⟩) 6 c)/\w'.cell? ⟨bb,oo+k,none⟩=some (.slice ai (M k) ci)/\w'.cell? ⟨w.heap.size+1,0,none⟩=some (.int .i64 q.s)/\w'.cell? ⟨w.heap.size+1,1,none⟩=some (.int .i64 q.p)/\w'.cell? ⟨w.heap.size+1,2,none⟩=some (.int .i64 q.o)/\w'.cell? ⟨w.heap.size+1,3,none⟩=some (.int .i64 q.g))) 15 (by kernel_rfl) ?_ (fun hHeld=>?_)
   ·((try dsimp only);go_keep)
   refine tk 0 .zero (v:=?_) ?_ ?_
   rotate_left
   ·(intro w h;(try dsimp only at h);go_simp) <;> with_reducible rfl
   simp only [tkp]
   refine tk 1 (.succ .zero) (v:=?_) ?_ ?_
   rotate_left
   ·(intro w h;(try dsimp only at h);go_simp) <;> with_reducible rfl
   simp only [tkp]
   refine tk 2 (.succ (.succ .zero)) (v:=?_) ?_ ?_
   rotate_left
   ·(intro w h;(try dsimp only at h);go_simp) <;> with_reducible rfl
   simp only [tkp]
   refine tk 3 (.succ (.succ (.succ .zero))) (v:=?_) ?_ ?_
   rotate_left
   ·(intro w h;(try dsimp only at h);go_simp) <;> with_reducible rfl
   simp only [tkp]
   refine tk 4 (.succ (.succ (.succ (.succ .zero)))) (v:=?_) ?_ ?_
   rotate_left
   ·(intro w h;(try dsimp only at h);go_simp) <;> with_reducible rfl
   simp only [tkp]
   refine tk 5 (.s5 .zero) (v:=?_) ?_ ?_
   rotate_left
   ·(intro w h;(try dsimp only at h);go_simp) <;> with_reducible rfl
   simp only [tkp]
   refine tk 6 (.s5 (.succ .zero)) (v:=?_) ?_ ?_
   rotate_left
   ·(intro w h;(try dsimp only at h);go_simp) <;> with_reducible rfl
   simp only [tkp]
   refine tk 7 (.s5 (.succ (.succ .zero))) (v:=?_) ?_ ?_
   rotate_left
   ·(intro w h;(try dsimp only at h);go_simp) <;> with_reducible rfl
   simp only [tkp]
   refine tk 8 (.s5 (.succ (.succ (.succ .zero)))) (v:=?_) ?_ ?_
   rotate_left
   ·(intro w h;(try dsimp only at h);go_simp) <;> with_reducible rfl
   simp only [tkp]
   refine tk1 9 (.s5 (.succ (.succ (.succ (.succ .zero))))) (fun K hK=>?_)
   (refine step_f2 (by rfl) 45 35 36 _ (by rfl) _ _ (by rfl) (by rfl) (fun _ _=>rfl) ?_;refine HKey.out.mono ?_;rintro e w1 ⟨rfl,hb1⟩;refine ⟨_,rfl,?_⟩;obtain ⟨s0,s1,s2,s3,s4,s5,s6⟩:=HK2.out w1 (below_undrew hb1))
   refine hK.out _ _ ?_ (fun hG=>?_)
   ·(intro _;(try dsimp only);go_keep)
   clear hK K
   replace hHeld:=hG (by decide)
   clear hG
   try simp only [tkp]
   refine tk1 10 (.s5 (.s5 .zero)) (fun K hK=>?_)
   (refine step_f2 (by rfl) 50 34 37 _ (by rfl) _ _ (by rfl) (by rfl) (fun _ _=>rfl) ?_;refine (HC.out w1 (below_undrew hb1)).mono ?_;rintro e w2 ⟨hb2,ok2,a2,m2,c2,N2,rfl,hr2,hd2⟩;refine ⟨_,rfl,?_⟩;have HB2:Hid (Below wr.heap.size wr w2):=(below_undrew hb1).trans (hb2.mono (below_undrew hb1).size);obtain ⟨y0,y1,y2,y3,y4,y5,y6⟩:=HK2.out w2 HB2.out)
   refine hK.out _ _ ?_ (fun hG=>?_)
   ·(intro _;(try dsimp only);go_keep)
   clear hK K
   replace hHeld:=hG (by decide)
   clear hG
   try simp only [tkp]
   refine tk1 11 (.s5 (.s5 (.succ .zero))) (fun K hK=>?_)
   go_simp
   refine hK.out _ _ ?_ (fun hG=>?_)
   ·(intro _;(try dsimp only);go_keep)
   clear hK K
   replace hHeld:=hG (by decide)
   clear hG
   try simp only [tkp]
   refine tk1 12 (.s5 (.s5 (.succ (.succ .zero)))) (fun K hK=>?_)
   (refine step_tsl (by rfl) (by rfl) (by rfl) ?_;obtain ⟨z0,z1,z2,z3,z4,z5,z6⟩:=HK3.out w2 HB2.out (.cells #[.slice a2 m2 c2] 59))
   refine hK.out _ _ ?_ (fun hG=>?_)
   ·(intro _;(try dsimp only);go_keep)
   clear hK K
   replace hHeld:=hG (by decide)
   clear hG
   try simp only [tkp]
   refine tk1 13 (.s5 (.s5 (.succ (.succ (.succ .zero))))) (fun K hK=>?_)
   (refine step_tapp (by rfl) (.tmp 29) (.tmp 40) (by rfl) (b6+1) k (.slice av k cv) us (by rfl) _ (HT.out w2 HB2.out _) (by rfl) rfl (by omega) (HZ.out w2 HB2.out) ?_;intro v4 w4 hown4 hgr4 hat4;obtain ⟨a4,c4,e4,_⟩:=own_form hown4;subst e4;obtain ⟨⟨v0,v1,v2,v3,v5,v6,v7⟩,vf,vl⟩:=HK4.out w2 w4 HB2.out _ hgr4)
   refine hK.out _ _ ?_ (fun hG=>?_)
   ·(intro _;(try dsimp only);go_keep)
   clear hK K
   replace hHeld:=hG (by decide)
   clear hG
   try simp only [tkp]
   refine late_one 14 (.s5 (.s5 (.succ (.succ (.succ (.succ .zero)))))) (by kernel_rfl) (fun K hK=>?_)
   go_simp
   refine hK.out _ _ ?_ (fun hG=>?_)
   ·(intro _;(try dsimp only);go_keep)
   clear hK K
   replace hHeld:=hG (by decide)
   clear hG
   try simp only [tkp]
   refine tk1 15 (.s5 (.s5 (.s5 .zero))) (fun K hK=>?_)
   go_simp
   refine hK.out _ _ ?_ (fun hG=>?_)
   ·(intro hne;exact absurd rfl hne)
   clear hK K hG
   refine wpLate_done (by kernel_rfl) ?_ _
   have H7:Hid ((∃M'' T'' us'' lo'' hi'',RowI TreeRd (w4.setCell ⟨b6,0,none⟩ (.slice a4 (k+1) c4)) (b6+1) (.slice a4 (k+1) c4) (k+1) M'' T'' us'' lo'' hi''/\∀i,i<k+1->DelD (M i) (T i) (keyOf i q) (M'' i) (T'' i))/\Bx (w4.setCell ⟨b6,0,none⟩ (.slice a4 (k+1) c4)) b6 32 #[.slice a4 (k+1) c4]/\Below b6 W6 (w4.setCell ⟨b6,0,none⟩ (.slice a4 (k+1) c4))):=by
    have hb:=HB2.out
    have hz2:=hb.size
    have hz3:=HQ.out.2.2.1
    have hz1:=(below_undrew hb1).size
    have hown:∀g,(Value.slice av k cv).ownBlock=some g->b6+1<=g:=fun g e=>(own_lt HQ.out.1.row g e).1
    obtain ⟨M'',hM''⟩:∃M'' : Nat->Nat,∀i,M'' i=if i=k then m2 else M' i:=⟨_,fun _=>rfl⟩
    obtain ⟨T'',hT''⟩:∃T'' : Nat->Nat->Tn,∀i,T'' i=if i=k then N2 else T' i:=⟨_,fun _=>rfl⟩
    have hcg:=HQ.out.1.congr (M':=M'') (T':=T'') (fun i hi=>⟨by rw [hM'',if_neg (by omega)],by rw [hT'',if_neg (by omega)]⟩)
    obtain ⟨lo',hi',hr'⟩:=hcg.step TreeRd.pl hz3 hb (l:=w1.heap.size+2) (by omega) (by rw [hM'',hT'',if_pos rfl,if_pos rfl];exact TreeRd.of hr2) _ hgr4 hown4 hat4
    have bxx:Bx w4 b6 32 #[.slice av k cv]:=(keep_block hb hgr4 hown (by omega) (by omega)).trans HQ.out.2.2.2.2.1
    refine ⟨⟨M'',T'',_,lo',hi',hr'.setO TreeRd.pl (by simp) _,fun i hi=>?_⟩,?_,?_⟩
    ·rw [hM'',hT'']
     by_cases e:i=k
     ·subst e
      rw [if_pos rfl,if_pos rfl,<- HKy.out]
      rcases hd2 with ⟨_,h⟩|⟨_,h1,h2,h3⟩
      ·exact .inl h
      ·exact .inr ⟨h1,h2,h3⟩
     ·rw [if_neg e,if_neg e]
      exact HQ.out.2.2.2.2.2 i (by omega)
    ·have:=bxx.set 0 (.slice a4 (k+1) c4)
     simpa using this
    ·exact (((HQ.out.2.1.trans (hb.mono (by omega))).trans ((below_alloc _ _).mono (by omega))).grown hgr4 (by simp;omega) (fun g e=>by have:=hown g e;omega)).setCell (by simp) _
   clear hr2 hd2 hb1 hb2 hown4 hgr4 hat4 HT HK2 HK3 HK4 HZ y0 y1 y2 y3 y4 y5 y6 z0 z1 z2 z3 z4 z5 z6 v0 v1 v2 v3 v5 v6 v7 vf vl xd0 xd1 xd2 xd3 xd4 xd5 xd6 x0 x1 x2 p0 p1 p2 p3 s0 s1 s2 s3 s4 s5 s6 HC HKey HB2
   go_wp2
   go_roundw
   case rel=>
    obtain ⟨⟨M'',T'',us'',lo'',hi'',hr',hi2⟩,hb',hbb'⟩:=H7.out
    exact ⟨k+1,_,M'',T'',us'',lo'',hi'',by omega,by go_num,hr',hb',hbb',hi2⟩
   case measure=>simp [intOf];omega
  ·obtain rfl:k=6:=by omega
   have k1:¬ ((6:Nat):Int)<6:=by omega
   obtain ⟨_,_,gr0,gr1,grz,grf⟩:=HCe.out wr HQ.out.2.2.2.1
   have y1:=hbx.cell 0
   simp at y1
   clear hrow hbel hbx hins
   go_wp2
   refine bodyPost_ret (v:=.agg #[.bool true,.slice av 6 cv]) (by simp [results,Tryz.results22,go_sem,gr0,gr1]) rfl ⟨((HBel.out wr HQ.out.2.2.2.1).setCell (by simp;try omega) _).setCell (by simp;try omega) _,.inl ⟨HYes.out,av,cv,M',T',us,lo,hi,rfl,?_,HQ.out.2.2.2.2.2⟩⟩
   exact ((HQ.out.1.low (by omega)).setO TreeRd.pl (by simp) _).setO TreeRd.pl (by simp) _
end Go.Proofs.YtcnollkkigiobaaGreat
