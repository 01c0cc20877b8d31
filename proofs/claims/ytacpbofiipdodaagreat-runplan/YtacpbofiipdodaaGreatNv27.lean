import Derived.Test.YtacpbofiipdodaaGreatNv23
set_option linter.unusedVariables false
set_option linter.unusedSimpArgs false
set_option maxRecDepth 100000
set_option maxHeartbeats 90000000
namespace Go.Proofs.YtacpbofiipdodaaGreat
open Go Go.Deep Go.RowKit
theorem Q5 {j:Nat} (hj:j<6) {p:Qd} {m:Nat} (hm:KN (A8 j p) m) (hok:BC (A8 j p) 4) {K:List ByteArray} (hK:∀k,k∈K->k.size=16):Bp (G2 (A8 j p) m) (KF (A8 j p) m) K=K.filter (λk=>BN (Ag j k) p):=by
 cases m with
 | zero=>show Bp { data:=#[] } { data:=#[] } K=_;rw[Ki,List.filter_eq_self.2];intro k _;exact (IW hj hm hok k).2 (λi hi=>absurd hi (Wy _))
 | succ m=>
  have hq:(KF (A8 j p) (m+1)).toList.isEmpty=false:=by rw[ByteArray.toList_eq,FC];cases EN (A8 j p) m <;> rfl
  unfold Bp;refine List.filter_congr (λk hk=>?_);have h:=L5 hj hm hok (hK k hk);unfold O9;rw[hq,Bool.false_or];cases hf:BN (Ag j k) p with
  | true=>obtain⟨h1,h2⟩:=h.2 hf;rw[h1,h2];rfl
  | false=>
   cases h1:Op.bytesLess k.toList (G2 (A8 j p) (m+1)).toList with
   | true=>rfl
   | false=>
    cases h2:Op.bytesLess k.toList (KF (A8 j p) (m+1)).toList with
    | false=>rfl
    | true=>exact absurd (h.1 ⟨h1,h2⟩) (by rw[hf];decide)
theorem Qq (j:Nat) (hj:j<6) (p:Qd) (hok:BC (A8 j p) 4) (b o:Nat) (w:World) (n:Nat) (t:Ro n) (v:Value) (hh:Nat) (hc0:w.cell? (ad b o)=some (.func (.func (CN j)) #[] #[])) (hc1:w.cell? (ad b (o+1))=some v)
  (ht:Ei (λbb=>bb<w.heap.size) w n t v) (hb:Br n true t hh) (hasc:DE (Ab n t)) (hlen:(Ab n t).length<=300) (hK:∀k,k∈Ab n t->k.size=16) (L:List Qd) (hL:L=((Ab n t).map (Ag j)).filter (λq=>BN q p)) :
  WS 211 #[.pointer (some (ad b o)),qv p] w (Vp w L):=by
 obtain⟨m,hm⟩:=Od (A8 j p);have hsp:∀W:World,WS 212 #[.func (.func (CN j)) #[] #[],.agg #[iv p.s,iv p.p,iv p.o,iv p.g]] W (WT W (.tuple #[.string (G2 (A8 j p) m),.string (KF (A8 j p) m)])):=λW=>Lw j hj p m hm (λi hi=>(hok i hi).1) W;have hfil:=Q5 hj hm hok hK;obtain⟨lo,hlo⟩:=gn (G2 (A8 j p) m);obtain⟨hi,hhi⟩:=gn (KF (A8 j p) m);rw[<- hlo,<- hhi] at hfil;simp only[<- hlo,<- hhi] at hsp;have HSp:=hid hsp;have hga:=Jl lo hi w.heap.size w n t v true hh ht hb hasc (by omega);obtain⟨K,hKK⟩:=gn (Bp lo hi (Ab n t));have HKx:U ((∀k,k∈K->k.size=16)/\L=K.map (Ag j)):=by
  refine⟨λk hk=>hK k ?_,?_⟩;.rw[hKK,hfil] at hk;exact (List.mem_filter.1 hk).1
  .rw[hL,hKK,hfil,List.filter_map];rfl
 have hKl:K.length<=300:=by rw[hKK];exact WC (List.length_filter_le _ _) hlen
 have hl0:=Ws _ _ hc0;have HT:U (∀W:World,Bl w W->W.cell? (ad b o)=some (.func (.func (CN j)) #[] #[])/\W.cell? (ad b (o+1))=some v):=λW hW=>⟨by rw[hW.cell (show b<w.heap.size from hl0)];exact hc0,by rw[hW.cell (show b<w.heap.size from hl0)];exact hc1⟩;have HJ:=hid hj;obtain⟨i0,hi0,hz0,hz1,hz2⟩:=info_parts Tryz.info140;have HI:=hid (ai hi0 (ai hz0 (ai hz1 hz2)));have hkl2:(Ab n t).length<=1048576:=by omega
 clear hi0 hz0 hz1 hz2 hj hok hc0 hc1 ht hb hasc hK hL hm hsp hfil hlo hhi hl0;rcases hga with ⟨pp,rfl,hcall⟩|⟨pp,rfl,hcall⟩
 .have HC:U (∀W:World,Bl w W->WS 227 #[.pointer (some pp),.slice none 0 0,.string lo,.string hi] W (Iw w.heap.size W K)):=λW hW=>by have:=hcall W none 0 0 [] hW hW.size (World.ownsRow_nil _ _ _ _) rfl (by omega);rw[List.nil_append,<- hKK] at this;exact this
  clear hcall hkl2 hKK hlen;unfold qv;obtain⟨c0,c1⟩:=HT.o _ (Aa w (.cells #[iv p.s,iv p.p,iv p.o,iv p.g] 140));have pb:=Bx.new w #[iv p.s,iv p.p,iv p.o,iv p.g] 140;have y0:=pb.cell 0;have y1:=pb.cell 1;have y2:=pb.cell 2;have y3:=pb.cell 3;simp at y0 y1 y2 y3;go_enter Tryz.func211,Tryz.ntmps211;go_wp2;go_region_with (go_at_call 212;refine (HSp.o _).mono ?_;rintro e w2 ⟨rfl,hb2⟩)
  all_goals
   have H2:=hid (((Aa w (.cells #[iv p.s,iv p.p,iv p.o,iv p.g] 140)).drew).trans (hb2.mono (by simp)))
   obtain⟨d0,d1⟩:=HT.o w2 H2.o
   clear hb2 c0 c1 y0 y1 y2 y3 pb HSp
   go_wp2_with fail
   (with_reducible refine (HC.o _ H2.o).mono ?_)
   rintro e w3 ⟨a3,c3,rfl,ho3,hb3⟩
   obtain⟨kl,hkl⟩:=gn K.length
   have HKL:=hid hkl
   have S3:U (BE w3 a3 kl (gt K)/\Bl w w3):=by
    obtain⟨a6,c6,e6,q,_⟩:=Cp ho3 rfl
    injection e6 with e6 _ _
    subst e6
    exact⟨by rw[hkl];exact q.rd,H2.o.trans hb3⟩
   rw[<- hkl] at hKl ⊢
   clear hkl ho3 hb3 HC d0 d1 H2
   go_wp2
   go_loopw [5,9,27] (λout _ i wr=>∃(k:Nat) (R:List Qd),k<=kl/\i=iv k/\R=(K.take k).map (Ag j)/\wr.ownsRow w3.heap.size 140 4 out R.length (Aq R)/\Bl w3 wr) (λ_ _ i _=>kl-(intOf i).toNat)
   case atStart=>exact⟨0,[],Ww _,rfl,rfl,World.ownsRow_nil _ _ _ _,Wt _ _⟩
   case round=>
    obtain⟨k,R,hk,rfl,hR,hown,hbel⟩:=hrel
    obtain⟨ar,cr,er,_⟩:=Ap hown
    subst er
    have hRl:R.length=k:=by rw[hR,WH,WI,<- HKL.o];omega
    have HQ:=hid (ai hown (ai hbel (ai hR hRl)))
    clear hown hbel hR hRl
    obtain⟨rl,hrl⟩:=gn R.length
    have HRl:=hid hrl
    have hrlk:=hrl.trans HQ.o.2.2.2
    have hrlk1:rl<=k:=by omega
    rw[<- hrl] at HQ ⊢
    clear hrl hrlk
    have k0:(0:Int)<=(k:Int):=by omega
    have HBw:=hid (S3.o.2.trans (HQ.o.2.1.mono S3.o.2.size))
    by_cases hlt:k<kl
    .have k1:(k:Int)<(kl:Int):=by omega
     have hkK:k<K.length:=by rw[<- HKL.o];exact hlt
     obtain⟨bb,oo,ea2,s1⟩:=(S3.o.1.below HQ.o.2.1).cellOf k hlt
     obtain⟨key,hkey⟩:=gn (gt K k)
     rw[<- hkey] at s1
     have HKy:U (key=K[k]/\key∈K):=by
      have e:key=K[k]:=by rw[hkey,Kb hkK]
      exact⟨e,by rw[e];exact WE hkK⟩
     obtain⟨l0,_⟩:=HT.o wr HBw.o
     clear hkey
     subst ea2
     have HQd:=hid (FD j HJ.o key (HKx.o.1 key HKy.o.2) wr)
     go_wp2_with fail
     (with_reducible refine HQd.o.mono ?_)
     rintro e w5 ⟨rfl,hb5⟩
     obtain⟨qd,hqd⟩:=gn (Ag j key)
     have HQq:=hid hqd
     rw[<- hqd]
     clear hqd
     unfold qv
     have hz5:=hb5.size
     have hz3:=HQ.o.2.1.size
     have HO6:U (w5.ownsRow w3.heap.size 140 4 (.slice ar rl cr) rl (Aq R)/\Bl w3 w5/\Bl w w5):=by
      have q2:=HQ.o.2.1.trans (hb5.mono hz3)
      exact⟨Al HQ.o.1 hb5,q2,S3.o.2.trans (q2.mono S3.o.2.size)⟩
     have hz3r:w3.heap.size<=w5.heap.size:=by omega
     have HO7:U ((w5.alloc (.cells #[iv qd.s,iv qd.p,iv qd.o,iv qd.g] 140)).ownsRow w3.heap.size 140 4 (.slice ar rl cr) rl (Aq R)/\(∀j u,(Aq [qd])[j]?=some u->(w5.alloc (.cells #[iv qd.s,iv qd.p,iv qd.o,iv qd.g] 140)).cell? (ad w5.heap.size j)=some u)):=by
      refine⟨Al HO6.o.1 (Aa _ _),λj u hj=>?_⟩
      rw[(Bx.new w5 #[iv qd.s,iv qd.p,iv qd.o,iv qd.g] 140).cell j]
      simpa[Aq] using hj
     clear hb5 HQd l0 s1
     go_wp2_with (at_builtin;refine wpList_append_own_at _ rfl _ _ 69 rfl w3.heap.size 140 i0 _ 4 32 Tryz.underlying69 HI.o.1 HI.o.2.1 HI.o.2.2.1 HI.o.2.2.2 rfl (by decide) (.slice ar rl cr) rl (Aq R) rfl HO7.o.1 (ad w5.heap.size 0) 1 1 (Aq [qd]) rfl rfl (λj u hj=>by rw[Addr.add_lit,WM];exact HO7.o.2 j u hj) (by intro u hu;simp[Aq] at hu;rcases hu with rfl|rfl|rfl|rfl <;> rfl) (by unfold maxLen;omega) (by omega) (by simp;omega) ?_)
     intro v7 w7 ho7 hg7 _ hat7
     have H7:U (w7.ownsRow w3.heap.size 140 4 v7 (R++[qd]).length (Aq (R++[qd]))/\Bl w3 w7):=by
      refine⟨by rw[CB,WD,<- HRl.o];exact ho7,?_⟩
      exact (HO6.o.2.1.trans ((Aa _ _).mono hz3r)).grown hg7 (by simp;omega) (λg e=>(Aw HQ.o.1 g e).1)
     have HN:U (R++[qd]=(K.take (k+1)).map (Ag j)):=by
      show R++[qd]=_
      rw[List.take_add_one,Wx hkK,List.map_append,<- HQ.o.2.2.1,HQq.o,HKy.o.1]
      rfl
     obtain⟨a7,c7,e7,_⟩:=Ap ho7
     subst e7
     clear ho7 hg7 hat7 HO7
     go_wp2
     go_roundw
     case rel=>exact⟨k+1,R++[qd],by omega,by go_num,HN.o,H7.o⟩
     case measure=>simp[intOf];omega
    .obtain rfl:k=kl:=by omega
     have k1:¬ (k:Int)<(k:Int):=by omega
     have HF:U (rl=L.length/\wr.ownsRow w.heap.size 140 4 (.slice ar L.length cr) L.length (Aq L)/\Bl w wr):=by
      have e:R=L:=by rw[HQ.o.2.2.1,HKx.o.2,HKL.o,WG]
      have ho:=HQ.o.1
      rw[HRl.o,e] at ho
      exact⟨by rw[<- e];exact HRl.o,LS ho S3.o.2.size,HBw.o⟩
     go_wp2
     go_ret
     exact⟨ar,cr,by rw[<- HF.o.1];rfl,HF.o.2⟩
 .have HC:U (∀W:World,Bl w W->WS 237 #[.pointer (some pp),.slice none 0 0,.string lo,.string hi] W (Iw w.heap.size W K)):=λW hW=>by have:=hcall W none 0 0 [] hW hW.size (World.ownsRow_nil _ _ _ _) rfl (by simp;omega);rw[List.nil_append,<- hKK] at this;exact this
  clear hcall hkl2 hKK hlen;unfold qv;obtain⟨c0,c1⟩:=HT.o _ (Aa w (.cells #[iv p.s,iv p.p,iv p.o,iv p.g] 140));have pb:=Bx.new w #[iv p.s,iv p.p,iv p.o,iv p.g] 140;have y0:=pb.cell 0;have y1:=pb.cell 1;have y2:=pb.cell 2;have y3:=pb.cell 3;simp at y0 y1 y2 y3;go_enter Tryz.func211,Tryz.ntmps211;go_wp2;go_region_with (go_at_call 212;refine (HSp.o _).mono ?_;rintro e w2 ⟨rfl,hb2⟩)
  all_goals
   have H2:=hid (((Aa w (.cells #[iv p.s,iv p.p,iv p.o,iv p.g] 140)).drew).trans (hb2.mono (by simp)))
   obtain⟨d0,d1⟩:=HT.o w2 H2.o
   clear hb2 c0 c1 y0 y1 y2 y3 pb HSp
   go_wp2_with fail
   (with_reducible refine (HC.o _ H2.o).mono ?_)
   rintro e w3 ⟨a3,c3,rfl,ho3,hb3⟩
   obtain⟨kl,hkl⟩:=gn K.length
   have HKL:=hid hkl
   have S3:U (BE w3 a3 kl (gt K)/\Bl w w3):=by
    obtain⟨a6,c6,e6,q,_⟩:=Cp ho3 rfl
    injection e6 with e6 _ _
    subst e6
    exact⟨by rw[hkl];exact q.rd,H2.o.trans hb3⟩
   rw[<- hkl] at hKl ⊢
   clear hkl ho3 hb3 HC d0 d1 H2
   go_wp2
   go_loopw [5,9,27] (λout _ i wr=>∃(k:Nat) (R:List Qd),k<=kl/\i=iv k/\R=(K.take k).map (Ag j)/\wr.ownsRow w3.heap.size 140 4 out R.length (Aq R)/\Bl w3 wr) (λ_ _ i _=>kl-(intOf i).toNat)
   case atStart=>exact⟨0,[],Ww _,rfl,rfl,World.ownsRow_nil _ _ _ _,Wt _ _⟩
   case round=>
    obtain⟨k,R,hk,rfl,hR,hown,hbel⟩:=hrel
    obtain⟨ar,cr,er,_⟩:=Ap hown
    subst er
    have hRl:R.length=k:=by rw[hR,WH,WI,<- HKL.o];omega
    have HQ:=hid (ai hown (ai hbel (ai hR hRl)))
    clear hown hbel hR hRl
    obtain⟨rl,hrl⟩:=gn R.length
    have HRl:=hid hrl
    have hrlk:=hrl.trans HQ.o.2.2.2
    have hrlk1:rl<=k:=by omega
    rw[<- hrl] at HQ ⊢
    clear hrl hrlk
    have k0:(0:Int)<=(k:Int):=by omega
    have HBw:=hid (S3.o.2.trans (HQ.o.2.1.mono S3.o.2.size))
    by_cases hlt:k<kl
    .have k1:(k:Int)<(kl:Int):=by omega
     have hkK:k<K.length:=by rw[<- HKL.o];exact hlt
     obtain⟨bb,oo,ea2,s1⟩:=(S3.o.1.below HQ.o.2.1).cellOf k hlt
     obtain⟨key,hkey⟩:=gn (gt K k)
     rw[<- hkey] at s1
     have HKy:U (key=K[k]/\key∈K):=by
      have e:key=K[k]:=by rw[hkey,Kb hkK]
      exact⟨e,by rw[e];exact WE hkK⟩
     obtain⟨l0,_⟩:=HT.o wr HBw.o
     clear hkey
     subst ea2
     have HQd:=hid (FD j HJ.o key (HKx.o.1 key HKy.o.2) wr)
     go_wp2_with fail
     (with_reducible refine HQd.o.mono ?_)
     rintro e w5 ⟨rfl,hb5⟩
     obtain⟨qd,hqd⟩:=gn (Ag j key)
     have HQq:=hid hqd
     rw[<- hqd]
     clear hqd
     unfold qv
     have hz5:=hb5.size
     have hz3:=HQ.o.2.1.size
     have HO6:U (w5.ownsRow w3.heap.size 140 4 (.slice ar rl cr) rl (Aq R)/\Bl w3 w5/\Bl w w5):=by
      have q2:=HQ.o.2.1.trans (hb5.mono hz3)
      exact⟨Al HQ.o.1 hb5,q2,S3.o.2.trans (q2.mono S3.o.2.size)⟩
     have hz3r:w3.heap.size<=w5.heap.size:=by omega
     have HO7:U ((w5.alloc (.cells #[iv qd.s,iv qd.p,iv qd.o,iv qd.g] 140)).ownsRow w3.heap.size 140 4 (.slice ar rl cr) rl (Aq R)/\(∀j u,(Aq [qd])[j]?=some u->(w5.alloc (.cells #[iv qd.s,iv qd.p,iv qd.o,iv qd.g] 140)).cell? (ad w5.heap.size j)=some u)):=by
      refine⟨Al HO6.o.1 (Aa _ _),λj u hj=>?_⟩
      rw[(Bx.new w5 #[iv qd.s,iv qd.p,iv qd.o,iv qd.g] 140).cell j]
      simpa[Aq] using hj
     clear hb5 HQd l0 s1
     go_wp2_with (at_builtin;refine wpList_append_own_at _ rfl _ _ 69 rfl w3.heap.size 140 i0 _ 4 32 Tryz.underlying69 HI.o.1 HI.o.2.1 HI.o.2.2.1 HI.o.2.2.2 rfl (by decide) (.slice ar rl cr) rl (Aq R) rfl HO7.o.1 (ad w5.heap.size 0) 1 1 (Aq [qd]) rfl rfl (λj u hj=>by rw[Addr.add_lit,WM];exact HO7.o.2 j u hj) (by intro u hu;simp[Aq] at hu;rcases hu with rfl|rfl|rfl|rfl <;> rfl) (by unfold maxLen;omega) (by omega) (by simp;omega) ?_)
     intro v7 w7 ho7 hg7 _ hat7
     have H7:U (w7.ownsRow w3.heap.size 140 4 v7 (R++[qd]).length (Aq (R++[qd]))/\Bl w3 w7):=by
      refine⟨by rw[CB,WD,<- HRl.o];exact ho7,?_⟩
      exact (HO6.o.2.1.trans ((Aa _ _).mono hz3r)).grown hg7 (by simp;omega) (λg e=>(Aw HQ.o.1 g e).1)
     have HN:U (R++[qd]=(K.take (k+1)).map (Ag j)):=by
      show R++[qd]=_
      rw[List.take_add_one,Wx hkK,List.map_append,<- HQ.o.2.2.1,HQq.o,HKy.o.1]
      rfl
     obtain⟨a7,c7,e7,_⟩:=Ap ho7
     subst e7
     clear ho7 hg7 hat7 HO7
     go_wp2
     go_roundw
     case rel=>exact⟨k+1,R++[qd],by omega,by go_num,HN.o,H7.o⟩
     case measure=>simp[intOf];omega
    .obtain rfl:k=kl:=by omega
     have k1:¬ (k:Int)<(k:Int):=by omega
     have HF:U (rl=L.length/\wr.ownsRow w.heap.size 140 4 (.slice ar L.length cr) L.length (Aq L)/\Bl w wr):=by
      have e:R=L:=by rw[HQ.o.2.2.1,HKx.o.2,HKL.o,WG]
      have ho:=HQ.o.1
      rw[HRl.o,e] at ho
      exact⟨by rw[<- e];exact HRl.o,LS ho S3.o.2.size,HBw.o⟩
     go_wp2
     go_ret
     exact⟨ar,cr,by rw[<- HF.o.1];rfl,HF.o.2⟩
end Go.Proofs.YtacpbofiipdodaaGreat
