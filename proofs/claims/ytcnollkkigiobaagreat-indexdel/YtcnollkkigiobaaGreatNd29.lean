import Derived.Test.YtcnollkkigiobaaGreatNd27
import Derived.Test.YtcnollkkigiobaaGreatNd17
set_option linter.unusedVariables false
set_option maxRecDepth 100000
namespace Go.Proofs.YtcnollkkigiobaaGreat
open Go.RowKit Go.Deep

def CallT (v nodes:Value) (w:World) (Q:Ending->World->Prop):Prop:=
 (∃b,v=.iface 204 (.pointer (some ⟨b,0,none⟩))/\Calls Tryz.prog 209 #[.pointer (some ⟨b,0,none⟩),nodes] w Q)\/
 (∃b,v=.iface 174 (.pointer (some ⟨b,0,none⟩))/\Calls Tryz.prog 191 #[.pointer (some ⟨b,0,none⟩),nodes] w Q)
def CallL (v:Value) (w:World) (Q:Ending->World->Prop):Prop:=
 (∃b,v=.iface 204 (.pointer (some ⟨b,0,none⟩))/\Calls Tryz.prog 205 #[.pointer (some ⟨b,0,none⟩)] w Q)\/
 (∃b,v=.iface 174 (.pointer (some ⟨b,0,none⟩))/\Calls Tryz.prog 188 #[.pointer (some ⟨b,0,none⟩)] w Q)

theorem least_o {d:Nat} {t:Ro d} {v:Value} {S:Nat->Prop} {w:World} {h:Nat} (ht:TAo S w d t v) (hb:BalR d false t h):CallL v w fun e w'=>e=.returned (.string (gt (keysR d t) 0))/\w'=w:=by
 match d,t,ht,hb with
 | d+1,.inl L,ht,hb=>
  have hp:=bal_keys hb
  obtain ⟨b,ka,kc,rfl,_,hx,_,hr⟩:=ht
  exact .inl ⟨b,rfl,leastLeaf_any b L.length kc ka _ (gt L) w hx hr.rdS hp⟩
 | d+1,.inr l,ht,hb=>
  have ht2:=ht
  obtain ⟨b,g,o,kc,xs,rfl,_⟩:=ht2
  obtain ⟨_,_,h',_,hall⟩:=hb
  exact .inr ⟨b,rfl,leastO_any d l S b h' w ht hall⟩

theorem if_inj {t:TypeId} {a b:Nat} (e:Value.iface t (.pointer (some ⟨a,0,none⟩))=.iface t (.pointer (some ⟨b,0,none⟩))):a=b:=by
 injection e with _ e
 injection e with e
 injection e with e
 injection e with e
theorem if_ne {t s:TypeId} {a b:Value} (e:Value.iface t a=.iface s b):t=s:=by
 injection e with e _
theorem callT_leaf {kb:Nat} {x:Value}{w:World} {Q:Ending->World->Prop} (h:CallT (.iface 204 (.pointer (some ⟨kb,0,none⟩))) x w Q):Calls Tryz.prog 209 #[.pointer (some ⟨kb,0,none⟩),x] w Q:=by
 rcases h with ⟨b1,e,hcall⟩|⟨b1,e,hcall⟩
 ·exact (by rw [if_inj e];exact hcall)
 ·exact absurd (if_ne e) (by decide)
theorem callT_inner {kb:Nat} {x:Value}{w:World} {Q:Ending->World->Prop} (h:CallT (.iface 174 (.pointer (some ⟨kb,0,none⟩))) x w Q):Calls Tryz.prog 191 #[.pointer (some ⟨kb,0,none⟩),x] w Q:=by
 rcases h with ⟨b1,e,hcall⟩|⟨b1,e,hcall⟩
 ·exact absurd (if_ne e) (by decide)
 ·exact (by rw [if_inj e];exact hcall)
theorem callL_leaf {kb:Nat} {w:World} {Q:Ending->World->Prop} (h:CallL (.iface 204 (.pointer (some ⟨kb,0,none⟩))) w Q):Calls Tryz.prog 205 #[.pointer (some ⟨kb,0,none⟩)] w Q:=by
 rcases h with ⟨b1,e,hcall⟩|⟨b1,e,hcall⟩
 ·exact (by rw [if_inj e];exact hcall)
 ·exact absurd (if_ne e) (by decide)
theorem callL_inner {kb:Nat} {w:World} {Q:Ending->World->Prop} (h:CallL (.iface 174 (.pointer (some ⟨kb,0,none⟩))) w Q):Calls Tryz.prog 188 #[.pointer (some ⟨kb,0,none⟩)] w Q:=by
 rcases h with ⟨b1,e,hcall⟩|⟨b1,e,hcall⟩
 ·exact absurd (if_ne e) (by decide)
 ·exact (by rw [if_inj e];exact hcall)

theorem step_inv {ops:Array Oper} {o:Oper} {a:Act} {w:World} {K:Act->World->Prop} {Q:Exit->Act->World->Prop} {E:Prop} (hgd:o.guard=none) (k:Nat) (i:Nat) (nm:String) (ty:TypeId) (p:Value)
  (ho:o.op=.call { callee:=.invoke (.tmp i) nm,args:=#[],argTypes:=#[] }) (hx:a.tmps[i]?.getD undef=.iface ty p) (hm:∀w,(method 369 ty p nm).run Tryz.prog w=.ok (k,p) w) (heg:∀args w,(callFunc k args).run Tryz.prog w=.ok (.enter k args) w)
  (h:Calls Tryz.prog k #[p] w fun e w'=>∃r,e=.returned r/\K (a.put o.dst r) w') :
  if Region.wanted o (yielded ops a.tmps)=true then Oper.wp Tryz.prog o a w K Q else E:=by
 have hw:Region.wanted o (yielded ops a.tmps)=true:=by simp [Region.wanted,hgd]
 rw [if_pos hw]
 unfold Oper.wp
 simp [execOp,ho,resolve,invoke,hx,go_sem,hm,heg]
 refine h.mono ?_
 rintro e w' ⟨u,rfl,hk⟩
 exact hk

def LKs {d:Nat} (l:List (Ro d)) (k:Nat):List ByteArray:=(List.range (k-1)).map (fun j=>fst1 l (j+1))
def LDs (d:Nat) (l:List (Ro d)) (n k:Nat):List Int:=(List.range k).map (fun j=>((n+1+offR d l j:Nat):Int))
theorem LKs_succ {d:Nat} (l:List (Ro d)) (k:Nat) (h:0<k):LKs l (k+1)=LKs l k++[fst1 l k]:=by
 unfold LKs
 obtain ⟨j,rfl⟩:∃j,k=j+1:=⟨k-1,by omega⟩
 simp [List.range_succ]
theorem LDs_succ (d:Nat) (l:List (Ro d)) (n k:Nat):LDs d l n (k+1)=LDs d l n k++[((n+1+offR d l k:Nat):Int)]:=by
 unfold LDs
 simp [List.range_succ]

theorem tells_in {d n:Nat} {l:List (Ro d)} {N' : Nat->Tn} (hl:0<l.length) (h:∀j (h:j<l.length),Tells N' 0 d l[j] (n+1+offR d l j)) (kn dn:Nat) (hk:kn=(LKs l l.length).length) (hd:dn=l.length):Tells (fun i=>if i=n then toldN kn (LKs l l.length) dn (LDs d l n l.length) ((l.flatMap (keysR d)).length:Int) else N' i) 0 (d+1) (.inr l) n:=by
 have hkl:(LKs l l.length).length=l.length-1:=by simp [LKs]
 refine ⟨by simp [toldN],by simp [toldN,hd],by simp [toldN],by simp [toldN];omega,fun k hk=>?_,fun k hk=>?_,fun k hk=>?_⟩
 ·simp [toldN]
  unfold LDs gi
  rw [List.getD_eq_getElem?_getD,List.getElem?_map,List.getElem?_range hk]
  simp
 ·simp [toldN]
  unfold LKs gt
  rw [List.getD_eq_getElem?_getD,List.getElem?_map,List.getElem?_range (by omega)]
  simp only [Option.map_some,Option.getD_some]
  rw [fst1_at (by omega)]
  rfl
 ·refine Tells.congr (fun i h1 h2=>?_) (h k hk)
  have:i≠n:=by omega
  simp only [this,if_false]
  exact ⟨rfl,rfl,rfl,rfl,fun _ _=>rfl,fun _ _=>rfl⟩

set_option maxHeartbeats 16000000 in
theorem tellInner_any (d b:Nat) (l:List (Ro d)) (S:Nat->Prop) (w:World) (h0:TAo S w (d+1) (.inr l) (.iface 174 (.pointer (some ⟨b,0,none⟩)))) (h:Nat) (hbal:∀t,t∈l->BalR d false t h) (B n rc:Nat) (ra:Option Addr) (N:Nat->Tn) (KA DA:Nat->Option Addr) (KC DC:Nat->Nat) (hg:GT w B (.slice ra n rc) n N KA DA KC DC) (hB:B<=w.heap.size) (hSB:∀x,S x->x<B) (hl5:l.length<=1000) (hn:n+nodesR (d+1) (.inr l)<=100000)
  (ih:∀k (hk:k<l.length) (u:Value) (wr:World) (m rc' : Nat) (ra' : Option Addr) (N' : Nat->Tn) (KA' DA' : Nat->Option Addr) (KC' DC' : Nat->Nat),TAo S wr d l[k] u->GT wr B (.slice ra' m rc') m N' KA' DA' KC' DC'->B<=wr.heap.size->m+nodesR d l[k]<=100000->CallT u (.slice ra' m rc') wr (RetTl wr B (.slice ra' m rc') m N' KA' DA' (nodesR d l[k]) (fun N2=>Tells N2 0 d l[k] m))) :
  Calls Tryz.prog 191 #[.pointer (some ⟨b,0,none⟩),.slice ra n rc] w (RetTl w B (.slice ra n rc) n N KA DA (nodesR (d+1) (.inr l)) (fun N'=>Tells N' 0 (d+1) (.inr l) n)):=by
 obtain ⟨b',g,o,kc,xs,e,hsb,hx,⟨hsg,hgb⟩,⟨hgl,hcap⟩,hl0,hcc,hkk⟩:=h0
 injection e with _ e
 injection e with e
 injection e with e
 injection e with e
 subst e
 obtain ⟨ln,hln⟩:∃ln,ln=l.length:=⟨_,rfl⟩
 obtain ⟨C,hC⟩:∃C:Int,C=((l.flatMap (keysR d)).length:Int):=⟨_,rfl⟩
 have HLn:Hid (ln=l.length/\C=((l.flatMap (keysR d)).length:Int)):=⟨hln,hC⟩
 rw [<- hln,<- hC] at hx
 rw [<- hln] at hcap hl0 hl5
 have HX:Hid (Bx w b 179 #[.int .i64 C,.slice (some ⟨g,o,none⟩) ln kc]):=hx
 have HK:Hid (∀W,Below B w W->∀k (h:k<l.length),∃u,W.cell? ⟨g,o+k,none⟩=some u/\TAo S W d l[k] u):=by
  intro W hW k hk
  obtain ⟨u,q1,q2⟩:=hkk k hk
  exact ⟨u,(hW.cell (p:=⟨g,o+k,none⟩) (hSB g hsg)).trans (hcc k u q1),TAo.keep hW.size (fun x hx _=>⟨hx,hW.block x (hSB x hx)⟩) q2⟩
 have HG:Hid (GT w B (.slice ra n rc) n N KA DA KC DC):=hg
 have HBal:Hid ((∀t,t∈l->BalR d false t h)/\n+nodesR (d+1) (.inr l)<=100000):=⟨hbal,hn⟩
 have HIH:Hid (∀k (hk:k<l.length) (u:Value) (wr:World) (m rc' : Nat) (ra' : Option Addr) (N' : Nat->Tn) (KA' DA' : Nat->Option Addr) (KC' DC' : Nat->Nat),TAo S wr d l[k] u->GT wr B (.slice ra' m rc') m N' KA' DA' KC' DC'->B<=wr.heap.size->m+nodesR d l[k]<=100000->CallT u (.slice ra' m rc') wr (RetTl wr B (.slice ra' m rc') m N' KA' DA' (nodesR d l[k]) (fun N2=>Tells N2 0 d l[k] m))):=ih
 have HBb:Hid (∀W:World,w.grownBy W (Value.slice ra n rc).ownBlock->Below B w W):=fun W hW=>(Below.refl B w).grown hW hB (fun g e=>(own_lt hg.row g e).1)
 have hbB:b<B:=hSB b hsb
 have hgB:g<B:=hSB g hsg
 have hn1:n<=100000:=by omega
 obtain ⟨i1,hi1,hz0,hz1,hz2⟩:=info_parts Tryz.info168
 have HI1:Hid (Tryz.prog.info? 168=some i1/\i1.zero=some (.agg #[.bool false,.slice none 0 0,.slice none 0 0,.int .i64 0])/\i1.size=4/\i1.bytes=64):=⟨hi1,hz0,hz1,hz2⟩
 obtain ⟨i2,hi2,hy0,hy1,hy2⟩:=info_parts Tryz.info2
 have HI2:Hid (Tryz.prog.info? 2=some i2/\i2.zero=some (.int .i64 0)/\i2.size=1/\i2.bytes=8):=⟨hi2,hy0,hy1,hy2⟩
 have HO:Hid ((w.alloc (.cells #[.bool false,.slice none 0 0,.slice none 0 0,.int .i64 0] 168)).ownsRow B 168 4 (.slice ra n rc) n ((List.range (n*4)).map (tnCell N KA DA KC DC))):=own_below hg.row (below_alloc _ _)
 have HCe:Hid (∀j u,[Value.bool false,.slice none 0 0,.slice none 0 0,.int .i64 0][j]?=some u->(w.alloc (.cells #[.bool false,.slice none 0 0,.slice none 0 0,.int .i64 0] 168)).cell? ⟨w.heap.size,j,none⟩=some u):=fun j u hj=>by rw [(Bx.new w #[.bool false,.slice none 0 0,.slice none 0 0,.int .i64 0] 168).cell j];simpa using hj
 clear hx hcc hkk hg hbal hn ih hln hC hi1 hz0 hz1 hz2 hi2 hy0 hy1 hy2
 go_enter Tryz.func191,Tryz.ntmps191
 go_wp2_with (at_builtin;refine wpList_append_own_at _ rfl _ _ 57 rfl B 168 i1 _ 4 64 Tryz.underlying57 HI1.out.1 HI1.out.2.1 HI1.out.2.2.1 HI1.out.2.2.2 rfl (by decide) (.slice ra n rc) n _ rfl HO.out ⟨w.heap.size,0,none⟩ 1 1 [.bool false,.slice none 0 0,.slice none 0 0,.int .i64 0] rfl rfl (fun j u hj=>by rw [Addr.add_lit,Nat.zero_add];exact HCe.out j u hj) (by intro u hu;simp at hu;rcases hu with rfl|rfl|rfl <;> rfl) (by unfold maxLen;omega) (by omega) (by simp;omega) ?_)
 intro v1 w1 ho1 hg1 _ hat1
 obtain ⟨a1,c1,e1,_⟩:=own_form ho1
 subst e1
 have HM1:Hid (RetTl w B (.slice ra n rc) n N KA DA 1 (fun N'=>(N' n).kn=0/\(N' n).dn=0) (.returned (.slice a1 (n+1) c1)) w1):=GT.more HG.out hB (Below.refl _ _) ⟨false,0,fun _=>{ data:=#[] },0,fun _=>0,0⟩ none none 0 0 (.inl rfl) (.inl rfl) ho1 hg1 (by simpa using hat1) (by simp)
 clear ho1 hg1 hat1 HO HCe
 obtain ⟨v1',N1,KA1,DA1,KC1,DC1,e1,q1,q2,q3,q4,q5,q6⟩:=HM1.out
 injection e1 with e1
 subst e1
 have HB1:Hid (Below B w w1):=HBb.out w1 q2
 have x0:w1.cell? ⟨b,0,none⟩=some (.int .i64 C):=(HB1.out.cell (p:=⟨b,0,none⟩) hbB).trans (by simpa using HX.out.cell 0)
 have x1:w1.cell? ⟨b,1,none⟩=some (.slice (some ⟨g,o,none⟩) ln kc):=(HB1.out.cell (p:=⟨b,1,none⟩) hbB).trans (by simpa using HX.out.cell 1)
 have xz:b<w1.heap.size:=World.block_lt_of_cell? _ _ x0
 have S1:Hid (TlSt w (w1.alloc (.cells #[.bool false,.slice none 0 0,.slice none 0 0,.int .i64 C] 168)) B n (n+1) (.slice ra n rc) (.slice a1 (n+1) c1) N KA DA N1 KA1 DA1 KC1 DC1 w1.heap.size C none 0 0 none 0 0 [] []):=by
  have g2:=q2.size
  refine ⟨q1.below (below_alloc _ _),q4,q5,⟨q6.1,q6.2,by omega⟩,Bx.new _ _ _,⟨g2,fun u=>by have:=(q1.used u).2;omega⟩,⟨⟨rfl,.inl ⟨rfl,rfl⟩⟩,rfl⟩,⟨⟨rfl,.inl ⟨rfl,rfl⟩⟩,rfl⟩,fun g e=>(by cases e),fun g e=>(by cases e),?_,q3⟩
  exact ⟨q2.os,q2.tape,q2.output,by simp;omega,fun k hk hne=>((below_alloc w1 _).block k (by omega)).trans (q2.block k hk hne)⟩
 have HBl:Hid (Calls Tryz.prog 157 #[.pointer (some ⟨b,0,none⟩)] w1 fun e w'=>e=.returned (.int .i64 C)/\w'=w1):=below_any b C w1 x0
 clear q1 q2 q3 q4 q5 q6 HM1
 go_wp2_with fail
 (with_reducible refine HBl.out.mono ?_)
 rintro e w2 ⟨rfl,hw2⟩
 subst hw2
 obtain ⟨tb,htb⟩:∃tb,tb=w2.heap.size:=⟨_,rfl⟩
 have HTB:Hid (tb=w2.heap.size):=htb
 go_wp2
 rw [<- htb] at S1 ⊢
 generalize (w2.alloc (.cells #[.bool false,.slice none 0 0,.slice none 0 0,.int .i64 C] 168))=W3 at S1 ⊢
 clear htb
 go_loopw [1,25] (fun q i wr=>∃(k m kn kc' dc rc' : Nat) (ra' ka da:Option Addr) (N' : Nat->Tn) (KA' DA' : Nat->Option Addr) (KC' DC' : Nat->Nat),k<=ln/\i=.int .i64 k/\q=.slice ra' m rc'/\m=n+1+offR d l k/\TlSt w wr B n m (.slice ra n rc) (.slice ra' m rc') N KA DA N' KA' DA' KC' DC' tb C ka kn kc' da k dc (LKs l k) (LDs d l n k)/\∀j (h:j<l.length),j<k->Tells N' 0 d l[j] (n+1+offR d l j)) (fun _ i _=>ln-(intOf i).toNat)
 case atStart=>exact ⟨0,n+1,0,0,0,c1,a1,none,none,N1,KA1,DA1,KC1,DC1,Nat.zero_le _,rfl,rfl,by rw [offR_zero],S1.out,fun j _ hj=>absurd hj (Nat.not_lt_zero _)⟩
 case round=>
  obtain ⟨k,m,kn,kc',dc,rc',ra',ka,da,N',KA',DA',KC',DC',hk,rfl,rfl,hm,hst,htl⟩:=hrel
  clear S1 HBl x0 x1 xz
  have H0:Hid (m=n+1+offR d l k/\TlSt w wr B n m (.slice ra n rc) (.slice ra' m rc') N KA DA N' KA' DA' KC' DC' tb C ka kn kc' da k dc (LKs l k) (LDs d l n k)/\∀j (h:j<l.length),j<k->Tells N' 0 d l[j] (n+1+offR d l j)):=⟨hm,hst,htl⟩
  have HBw:Hid (Below B w wr/\B<=wr.heap.size):=⟨HBb.out wr hst.fr,Nat.le_trans hB hst.fr.size⟩
  have t0:=hst.box.cell 0
  have t1:=hst.box.cell 1
  have t2:=hst.box.cell 2
  have t3:=hst.box.cell 3
  simp at t0 t1 t2 t3
  have tz:=hst.box.lt
  have tf:=fun i=>hst.box.frozen i
  have hmb:m<=100000:=by
   have q:nodesR (d+1) (.inr l)=1+(l.map (nodesR d)).sum:=rfl
   have:=HBal.out.2
   have:=offR_mono d l (show k<=l.length by rw [<- HLn.out.1];exact hk) (Nat.le_refl _)
   rw [offR_all] at this
   omega
  clear hm hst htl
  by_cases hlt:k<ln
  ·have hkl:k<l.length:=by rw [<- HLn.out.1];exact hlt
   obtain ⟨u,cu,htu⟩:=HK.out wr HBw.out.1 k hkl
   have HTu:Hid (TAo S wr d l[k] u):=htu
   have j0:(0:Int)<=(k:Int):=by omega
   have j1:(k:Int)<(ln:Int):=by omega
   obtain ⟨bb,_,_,_,hfm⟩:=htu.count
   have hform:(∃kb,u=.iface 204 (.pointer (some ⟨kb,0,none⟩)))\/(∃kb,u=.iface 174 (.pointer (some ⟨kb,0,none⟩))):=by
    rcases hfm with h|h
    ·exact .inl ⟨_,h⟩
    ·exact .inr ⟨_,h⟩
   clear htu hfm
   by_cases hk0:k=0
   ·rcases hform with ⟨kb,rfl⟩|⟨kb,rfl⟩
    ·have HK0:Hid (k=0):=hk0
     have kz:¬ (0:Int)<(k:Int):=by omega
     have kzd:decide ((0:Int)<(k:Int))=false:=decide_eq_false kz
     clear hk0
     have HO9:Hid ((wr.alloc (.cells #[.int .i64 (m:Int)] 2)).ownsRow B 2 1 (.slice da k dc) k (intL (LDs d l n k))):=own_below H0.out.2.1.own2.1 (below_alloc _ _)
     have hBz:B<=wr.heap.size:=Nat.le_trans hB H0.out.2.1.fr.size
     go_wp2_with (at_builtin;refine wpList_append_own_at _ rfl _ _ 151 rfl B 2 i2 _ 1 8 Tryz.underlying151 HI2.out.1 HI2.out.2.1 HI2.out.2.2.1 HI2.out.2.2.2 rfl (by decide) (.slice da k dc) k _ rfl HO9.out ⟨wr.heap.size,0,none⟩ 1 1 [.int .i64 (m:Int)] rfl rfl (cell_one_new _ _ _) (by intro u hu;simp at hu;subst hu;rfl) (by unfold maxLen;omega) (by omega) (by simp;omega) ?_)
     intro v9 w9 ho9 hg9 _ hat9
     obtain ⟨a9,c9,e9,_⟩:=own_form ho9
     subst e9
     have H9:Hid (TlSt w (w9.setCell ⟨tb,2,none⟩ (.slice a9 (k+1) c9)) B n m (.slice ra n rc) (.slice ra' m rc') N KA DA N' KA' DA' KC' DC' tb C ka kn kc' a9 (k+1) c9 (LKs l k) (LDs d l n (k+1))/\Bx w9 tb 168 #[.bool false,.slice ka kn kc',.slice da k dc,.int .i64 C]):=by
      have q:=TlSt.kid H0.out.2.1 (below_alloc _ _) ho9 hg9 (by simpa using hat9)
      rw [LDs_succ,<- H0.out.1]
      exact q
     have s2:=H9.out.2.cell 2
     simp at s2
     have sz:=H9.out.2.lt
     have sf:=fun i=>H9.out.2.frozen i
     have HC:Hid (Calls Tryz.prog 209 #[.pointer (some ⟨kb,0,none⟩),.slice ra' m rc'] (w9.setCell ⟨tb,2,none⟩ (.slice a9 (k+1) c9)) (RetTl (w9.setCell ⟨tb,2,none⟩ (.slice a9 (k+1) c9)) B (.slice ra' m rc') m N' KA' DA' (nodesR d l[k]) (fun N2=>Tells N2 0 d l[k] m))):=by
      have hb9:=HBb.out _ H9.out.1.fr
      obtain ⟨u',cu',htu'⟩:=HK.out _ hb9 k hkl
      have eu:u'=.iface 204 (.pointer (some ⟨kb,0,none⟩)):=by
       have q:(w9.setCell ⟨tb,2,none⟩ (.slice a9 (k+1) c9)).cell? ⟨g,o+k,none⟩=wr.cell? ⟨g,o+k,none⟩:=(hb9.cell (p:=⟨g,o+k,none⟩) hgB).trans (HBw.out.1.cell (p:=⟨g,o+k,none⟩) hgB).symm
       rw [q,cu] at cu'
       injection cu' with cu'
       exact cu'.symm
      rw [eu] at htu'
      have hct:=HIH.out k hkl _ _ m rc' ra' N' KA' DA' KC' DC' htu' H9.out.1.gt (Nat.le_trans hB H9.out.1.fr.size) (by
       have q:nodesR (d+1) (.inr l)=1+(l.map (nodesR d)).sum:=rfl
       have:=HBal.out.2
       have:=offR_le d l k hkl
       have:=H0.out.1
       omega)
      exact callT_leaf hct
     clear ho9 hg9 hat9 HO9 t0 t1 t2 t3 tf cu
     go_wp2_with fail
     (with_reducible refine HC.out.mono ?_)
     intro e w11 hr
     obtain ⟨q2,N2,KA2,DA2,KC2,DC2,e2,st2,old2,tl2⟩:=TlSt.told H9.out.1 hr
     obtain ⟨a11,c11,e11,_⟩:=own_form st2.gt.row
     subst e11
     subst e2
     have HE:Hid (m+nodesR d l[k]=n+1+offR d l (k+1)/\TlSt w w11 B n (m+nodesR d l[k]) (.slice ra n rc) (.slice a11 (m+nodesR d l[k]) c11) N KA DA N2 KA2 DA2 KC2 DC2 tb C ka kn kc' a9 (k+1) c9 (LKs l k) (LDs d l n (k+1))/\∀j (h:j<l.length),j<k+1->Tells N2 0 d l[j] (n+1+offR d l j)):=by
      have hm:=H0.out.1
      refine ⟨by rw [offR_succ d l k hkl];omega,st2,fun j hj hjk=>?_⟩
      by_cases e:j=k
      ·subst e
       rw [<- hm]
       exact tl2
      ·refine Tells.congr (fun i h1 h2=>?_) (H0.out.2.2 j hj (by omega))
       have q1:=offR_succ d l j hj
       have q2:=offR_mono d l (show j+1<=k by omega) (by omega)
       rw [old2 i (by omega)]
       exact ⟨rfl,rfl,rfl,rfl,fun _ _=>rfl,fun _ _=>rfl⟩
     obtain ⟨m2,hm2⟩:∃m2,m2=m+nodesR d l[k]:=⟨_,rfl⟩
     rw [<- hm2] at HE ⊢
     clear st2 old2 tl2 hr HC s2 sz sf hm2 H9
     go_wp2
     go_roundw
     case rel=>exact ⟨k+1,m2,_,_,c9,c11,a11,_,a9,N2,KA2,DA2,KC2,DC2,by omega,by go_num,rfl,HE.out.1,(by rw [show LKs l (k+1)=LKs l k by rw [HK0.out];rfl];exact HE.out.2.1),HE.out.2.2⟩
     case measure=>simp [intOf];omega
    ·have HK0:Hid (k=0):=hk0
     have kz:¬ (0:Int)<(k:Int):=by omega
     have kzd:decide ((0:Int)<(k:Int))=false:=decide_eq_false kz
     clear hk0
     have HO9:Hid ((wr.alloc (.cells #[.int .i64 (m:Int)] 2)).ownsRow B 2 1 (.slice da k dc) k (intL (LDs d l n k))):=own_below H0.out.2.1.own2.1 (below_alloc _ _)
     have hBz:B<=wr.heap.size:=Nat.le_trans hB H0.out.2.1.fr.size
     go_wp2_with (at_builtin;refine wpList_append_own_at _ rfl _ _ 151 rfl B 2 i2 _ 1 8 Tryz.underlying151 HI2.out.1 HI2.out.2.1 HI2.out.2.2.1 HI2.out.2.2.2 rfl (by decide) (.slice da k dc) k _ rfl HO9.out ⟨wr.heap.size,0,none⟩ 1 1 [.int .i64 (m:Int)] rfl rfl (cell_one_new _ _ _) (by intro u hu;simp at hu;subst hu;rfl) (by unfold maxLen;omega) (by omega) (by simp;omega) ?_)
     intro v9 w9 ho9 hg9 _ hat9
     obtain ⟨a9,c9,e9,_⟩:=own_form ho9
     subst e9
     have H9:Hid (TlSt w (w9.setCell ⟨tb,2,none⟩ (.slice a9 (k+1) c9)) B n m (.slice ra n rc) (.slice ra' m rc') N KA DA N' KA' DA' KC' DC' tb C ka kn kc' a9 (k+1) c9 (LKs l k) (LDs d l n (k+1))/\Bx w9 tb 168 #[.bool false,.slice ka kn kc',.slice da k dc,.int .i64 C]):=by
      have q:=TlSt.kid H0.out.2.1 (below_alloc _ _) ho9 hg9 (by simpa using hat9)
      rw [LDs_succ,<- H0.out.1]
      exact q
     have s2:=H9.out.2.cell 2
     simp at s2
     have sz:=H9.out.2.lt
     have sf:=fun i=>H9.out.2.frozen i
     have HC:Hid (Calls Tryz.prog 191 #[.pointer (some ⟨kb,0,none⟩),.slice ra' m rc'] (w9.setCell ⟨tb,2,none⟩ (.slice a9 (k+1) c9)) (RetTl (w9.setCell ⟨tb,2,none⟩ (.slice a9 (k+1) c9)) B (.slice ra' m rc') m N' KA' DA' (nodesR d l[k]) (fun N2=>Tells N2 0 d l[k] m))):=by
      have hb9:=HBb.out _ H9.out.1.fr
      obtain ⟨u',cu',htu'⟩:=HK.out _ hb9 k hkl
      have eu:u'=.iface 174 (.pointer (some ⟨kb,0,none⟩)):=by
       have q:(w9.setCell ⟨tb,2,none⟩ (.slice a9 (k+1) c9)).cell? ⟨g,o+k,none⟩=wr.cell? ⟨g,o+k,none⟩:=(hb9.cell (p:=⟨g,o+k,none⟩) hgB).trans (HBw.out.1.cell (p:=⟨g,o+k,none⟩) hgB).symm
       rw [q,cu] at cu'
       injection cu' with cu'
       exact cu'.symm
      rw [eu] at htu'
      have hct:=HIH.out k hkl _ _ m rc' ra' N' KA' DA' KC' DC' htu' H9.out.1.gt (Nat.le_trans hB H9.out.1.fr.size) (by
       have q:nodesR (d+1) (.inr l)=1+(l.map (nodesR d)).sum:=rfl
       have:=HBal.out.2
       have:=offR_le d l k hkl
       have:=H0.out.1
       omega)
      exact callT_inner hct
     clear ho9 hg9 hat9 HO9 t0 t1 t2 t3 tf cu
     go_wp2_with fail
     (with_reducible refine HC.out.mono ?_)
     intro e w11 hr
     obtain ⟨q2,N2,KA2,DA2,KC2,DC2,e2,st2,old2,tl2⟩:=TlSt.told H9.out.1 hr
     obtain ⟨a11,c11,e11,_⟩:=own_form st2.gt.row
     subst e11
     subst e2
     have HE:Hid (m+nodesR d l[k]=n+1+offR d l (k+1)/\TlSt w w11 B n (m+nodesR d l[k]) (.slice ra n rc) (.slice a11 (m+nodesR d l[k]) c11) N KA DA N2 KA2 DA2 KC2 DC2 tb C ka kn kc' a9 (k+1) c9 (LKs l k) (LDs d l n (k+1))/\∀j (h:j<l.length),j<k+1->Tells N2 0 d l[j] (n+1+offR d l j)):=by
      have hm:=H0.out.1
      refine ⟨by rw [offR_succ d l k hkl];omega,st2,fun j hj hjk=>?_⟩
      by_cases e:j=k
      ·subst e
       rw [<- hm]
       exact tl2
      ·refine Tells.congr (fun i h1 h2=>?_) (H0.out.2.2 j hj (by omega))
       have q1:=offR_succ d l j hj
       have q2:=offR_mono d l (show j+1<=k by omega) (by omega)
       rw [old2 i (by omega)]
       exact ⟨rfl,rfl,rfl,rfl,fun _ _=>rfl,fun _ _=>rfl⟩
     obtain ⟨m2,hm2⟩:∃m2,m2=m+nodesR d l[k]:=⟨_,rfl⟩
     rw [<- hm2] at HE ⊢
     clear st2 old2 tl2 hr HC s2 sz sf hm2 H9
     go_wp2
     go_roundw
     case rel=>exact ⟨k+1,m2,_,_,c9,c11,a11,_,a9,N2,KA2,DA2,KC2,DC2,by omega,by go_num,rfl,HE.out.1,(by rw [show LKs l (k+1)=LKs l k by rw [HK0.out];rfl];exact HE.out.2.1),HE.out.2.2⟩
     case measure=>simp [intOf];omega
   ·rcases hform with ⟨kb,rfl⟩|⟨kb,rfl⟩
    ·have kz:(0:Int)<(k:Int):=by omega
     have HLs:Hid (Calls Tryz.prog 205 #[.pointer (some ⟨kb,0,none⟩)] wr.drew fun e w'=>e=.returned (.string (fst1 l k))/\w'=wr.drew):=by
      have hcl:=least_o (HTu.out.below (Below.refl _ _).drew) (HBal.out.1 _ (List.getElem_mem hkl))
      rw [<- fst1_at hkl] at hcl
      exact callL_leaf hcl
     have HO8:Hid ((wr.alloc (.cells #[.string (fst1 l k)] 9)).drew.ownsRow B 9 1 (.slice ka kn kc') kn (strL (LKs l k))):=own_below H0.out.2.1.own1.1 (below_alloc _ _).drew
     have t1d:wr.drew.cell? ⟨tb,1,none⟩=some (.slice ka kn kc'):=t1
     go_upto_region 8 with fail
     refine wp_region_late (S:=fun w'=>w'.cell? ⟨tb,1,none⟩=some (.slice ka kn kc')) 7 (by kernel_rfl) t1d (fun hHeld=>?_)
     refine tk 0 .zero (v:=?_) ?_ ?_
     rotate_left
     ·(intro w h;(try dsimp only at h);go_simp) <;> with_reducible rfl
     simp only [tkp]
     refine tk 1 (.succ .zero) (v:=?_) ?_ ?_
     rotate_left
     ·(intro w h;(try dsimp only at h);go_simp) <;> with_reducible rfl
     simp only [tkp]
     refine tk 2 (.succ (.succ .zero)) (v:=?_) ?_ ?_
     rotate_left
     ·(intro w h;(try dsimp only at h);go_simp) <;> with_reducible rfl
     simp only [tkp]
     refine tk1 3 (.succ (.succ (.succ .zero))) (fun K hK=>?_)
     refine step_inv (by rfl) 205 34 _ 204 (.pointer (some ⟨kb,0,none⟩)) (by rfl) (by rfl) (fun _=>by kernel_rfl) (fun _ _=>by rfl) ?_
     (with_reducible refine HLs.out.mono ?_)
     rintro e w4 ⟨rfl,hw4⟩
     subst hw4
     refine ⟨_,rfl,?_⟩
     refine hK.out _ _ ?_ (fun hG=>?_)
     ·(intro _;exact t1d)
     clear hK K
     replace hHeld:=hG (by decide)
     clear hG
     try simp only [tkp]
     refine tk1 4 (.succ (.succ (.succ (.succ .zero)))) (fun K hK=>?_)
     go_simp
     refine hK.out _ _ ?_ (fun hG=>?_)
     ·(intro _;exact ((below_alloc wr _).drew.cell (p:=⟨tb,1,none⟩) tz).trans t1)
     clear hK K
     replace hHeld:=hG (by decide)
     clear hG
     try simp only [tkp]
     refine tk1 5 (.s5 .zero) (fun K hK=>?_)
     refine step_append_str (by rfl) (.tmp 33) (.tmp 36) (by rfl) B (.slice ka kn kc') kn (strL (LKs l k)) (by rfl) HO8.out ⟨wr.heap.size,0,none⟩ (fst1 l k) (by rfl) (by rw [Addr.add_lit];exact (Bx.new wr #[.string (fst1 l k)] 9).drew.cell 0) (by have:=H0.out.2.1.own1.2;simp [LKs] at this;omega) (by have:=HBw.out.2;show B<=(wr.alloc _).heap.size;simp;omega) ?_
     intro v5 w5 ho5 hg5 hat5
     obtain ⟨a5,c5,e5,_⟩:=own_form ho5
     subst e5
     have H8:Hid (TlSt w (w5.setCell ⟨tb,1,none⟩ (.slice a5 (kn+1) c5)) B n m (.slice ra n rc) (.slice ra' m rc') N KA DA N' KA' DA' KC' DC' tb C a5 (kn+1) c5 da k dc (LKs l (k+1)) (LDs d l n k)/\Bx w5 tb 168 #[.bool false,.slice ka kn kc',.slice da k dc,.int .i64 C]):=by
      have q:=TlSt.key H0.out.2.1 (below_alloc _ _).drew ho5 hg5 hat5
      rw [LKs_succ l k (by omega)]
      exact q
     have s1:=H8.out.2.cell 1
     simp at s1
     have sz1:=H8.out.2.lt
     have sf1:=fun i=>H8.out.2.frozen i
     clear ho5 hg5 hat5
     refine hK.out _ _ ?_ (fun hG=>?_)
     ·(intro _;exact s1)
     clear hK K
     replace hHeld:=hG (by decide)
     clear hG
     try simp only [tkp]
     refine tk1 6 (.s5 (.succ .zero)) (fun K hK=>?_)
     go_simp
     refine hK.out _ _ ?_ (fun hG=>?_)
     ·(intro _;exact hHeld)
     clear hK K
     replace hHeld:=hG (by decide)
     clear hG
     try simp only [tkp]
     refine tk1 7 (.s5 (.succ (.succ .zero))) (fun K hK=>?_)
     go_simp
     refine hK.out _ _ ?_ (fun hG=>?_)
     ·(intro hne;exact absurd rfl hne)
     clear hK K hG
     refine wpLate_done (by kernel_rfl) ?_ _
     have H8a:Hid (TlSt w (w5.setCell ⟨tb,1,none⟩ (.slice a5 (kn+1) c5)) B n m (.slice ra n rc) (.slice ra' m rc') N KA DA N' KA' DA' KC' DC' tb C a5 (kn+1) c5 da k dc (LKs l (k+1)) (LDs d l n k)):=H8.out.1
     clear hHeld s1 sz1 sf1 t1d t0 t1 t2 t3 tf tz H8 HO8 HLs
     generalize w5.setCell ⟨tb,1,none⟩ (.slice a5 (kn+1) c5)=W8 at H8a ⊢
     have t0:=H8a.out.box.cell 0
     have t1:=H8a.out.box.cell 1
     have t2:=H8a.out.box.cell 2
     have t3:=H8a.out.box.cell 3
     simp at t0 t1 t2 t3
     have tz:=H8a.out.box.lt
     have tf:=fun i=>H8a.out.box.frozen i
     have HO9:Hid ((W8.alloc (.cells #[.int .i64 (m:Int)] 2)).ownsRow B 2 1 (.slice da k dc) k (intL (LDs d l n k))):=own_below H8a.out.own2.1 (below_alloc _ _)
     have hBz:B<=W8.heap.size:=Nat.le_trans hB H8a.out.fr.size
     go_wp2_with (at_builtin;refine wpList_append_own_at _ rfl _ _ 151 rfl B 2 i2 _ 1 8 Tryz.underlying151 HI2.out.1 HI2.out.2.1 HI2.out.2.2.1 HI2.out.2.2.2 rfl (by decide) (.slice da k dc) k _ rfl HO9.out ⟨W8.heap.size,0,none⟩ 1 1 [.int .i64 (m:Int)] rfl rfl (cell_one_new _ _ _) (by intro u hu;simp at hu;subst hu;rfl) (by unfold maxLen;omega) (by omega) (by simp;omega) ?_)
     intro v9 w9 ho9 hg9 _ hat9
     obtain ⟨a9,c9,e9,_⟩:=own_form ho9
     subst e9
     have H9:Hid (TlSt w (w9.setCell ⟨tb,2,none⟩ (.slice a9 (k+1) c9)) B n m (.slice ra n rc) (.slice ra' m rc') N KA DA N' KA' DA' KC' DC' tb C a5 (kn+1) c5 a9 (k+1) c9 (LKs l (k+1)) (LDs d l n (k+1))/\Bx w9 tb 168 #[.bool false,.slice a5 (kn+1) c5,.slice da k dc,.int .i64 C]):=by
      have q:=TlSt.kid H8a.out (below_alloc _ _) ho9 hg9 (by simpa using hat9)
      rw [LDs_succ,<- H0.out.1]
      exact q
     have s2:=H9.out.2.cell 2
     simp at s2
     have sz:=H9.out.2.lt
     have sf:=fun i=>H9.out.2.frozen i
     have HC:Hid (Calls Tryz.prog 209 #[.pointer (some ⟨kb,0,none⟩),.slice ra' m rc'] (w9.setCell ⟨tb,2,none⟩ (.slice a9 (k+1) c9)) (RetTl (w9.setCell ⟨tb,2,none⟩ (.slice a9 (k+1) c9)) B (.slice ra' m rc') m N' KA' DA' (nodesR d l[k]) (fun N2=>Tells N2 0 d l[k] m))):=by
      have hb9:=HBb.out _ H9.out.1.fr
      obtain ⟨u',cu',htu'⟩:=HK.out _ hb9 k hkl
      have eu:u'=.iface 204 (.pointer (some ⟨kb,0,none⟩)):=by
       have q:(w9.setCell ⟨tb,2,none⟩ (.slice a9 (k+1) c9)).cell? ⟨g,o+k,none⟩=wr.cell? ⟨g,o+k,none⟩:=(hb9.cell (p:=⟨g,o+k,none⟩) hgB).trans (HBw.out.1.cell (p:=⟨g,o+k,none⟩) hgB).symm
       rw [q,cu] at cu'
       injection cu' with cu'
       exact cu'.symm
      rw [eu] at htu'
      have hct:=HIH.out k hkl _ _ m rc' ra' N' KA' DA' KC' DC' htu' H9.out.1.gt (Nat.le_trans hB H9.out.1.fr.size) (by
       have q:nodesR (d+1) (.inr l)=1+(l.map (nodesR d)).sum:=rfl
       have:=HBal.out.2
       have:=offR_le d l k hkl
       have:=H0.out.1
       omega)
      exact callT_leaf hct
     clear ho9 hg9 hat9 HO9 t0 t1 t2 t3 tf cu
     go_wp2_with fail
     (with_reducible refine HC.out.mono ?_)
     intro e w11 hr
     obtain ⟨q2,N2,KA2,DA2,KC2,DC2,e2,st2,old2,tl2⟩:=TlSt.told H9.out.1 hr
     obtain ⟨a11,c11,e11,_⟩:=own_form st2.gt.row
     subst e11
     subst e2
     have HE:Hid (m+nodesR d l[k]=n+1+offR d l (k+1)/\TlSt w w11 B n (m+nodesR d l[k]) (.slice ra n rc) (.slice a11 (m+nodesR d l[k]) c11) N KA DA N2 KA2 DA2 KC2 DC2 tb C a5 (kn+1) c5 a9 (k+1) c9 (LKs l (k+1)) (LDs d l n (k+1))/\∀j (h:j<l.length),j<k+1->Tells N2 0 d l[j] (n+1+offR d l j)):=by
      have hm:=H0.out.1
      refine ⟨by rw [offR_succ d l k hkl];omega,st2,fun j hj hjk=>?_⟩
      by_cases e:j=k
      ·subst e
       rw [<- hm]
       exact tl2
      ·refine Tells.congr (fun i h1 h2=>?_) (H0.out.2.2 j hj (by omega))
       have q1:=offR_succ d l j hj
       have q2:=offR_mono d l (show j+1<=k by omega) (by omega)
       rw [old2 i (by omega)]
       exact ⟨rfl,rfl,rfl,rfl,fun _ _=>rfl,fun _ _=>rfl⟩
     obtain ⟨m2,hm2⟩:∃m2,m2=m+nodesR d l[k]:=⟨_,rfl⟩
     rw [<- hm2] at HE ⊢
     clear st2 old2 tl2 hr HC s2 sz sf hm2 H9
     go_wp2
     go_roundw
     case rel=>exact ⟨k+1,m2,_,_,c9,c11,a11,_,a9,N2,KA2,DA2,KC2,DC2,by omega,by go_num,rfl,HE.out.1,HE.out.2.1,HE.out.2.2⟩
     case measure=>simp [intOf];omega
    ·have kz:(0:Int)<(k:Int):=by omega
     have HLs:Hid (Calls Tryz.prog 188 #[.pointer (some ⟨kb,0,none⟩)] wr.drew fun e w'=>e=.returned (.string (fst1 l k))/\w'=wr.drew):=by
      have hcl:=least_o (HTu.out.below (Below.refl _ _).drew) (HBal.out.1 _ (List.getElem_mem hkl))
      rw [<- fst1_at hkl] at hcl
      exact callL_inner hcl
     have HO8:Hid ((wr.alloc (.cells #[.string (fst1 l k)] 9)).drew.ownsRow B 9 1 (.slice ka kn kc') kn (strL (LKs l k))):=own_below H0.out.2.1.own1.1 (below_alloc _ _).drew
     have t1d:wr.drew.cell? ⟨tb,1,none⟩=some (.slice ka kn kc'):=t1
     go_upto_region 8 with fail
     refine wp_region_late (S:=fun w'=>w'.cell? ⟨tb,1,none⟩=some (.slice ka kn kc')) 7 (by kernel_rfl) t1d (fun hHeld=>?_)
     refine tk 0 .zero (v:=?_) ?_ ?_
     rotate_left
     ·(intro w h;(try dsimp only at h);go_simp) <;> with_reducible rfl
     simp only [tkp]
     refine tk 1 (.succ .zero) (v:=?_) ?_ ?_
     rotate_left
     ·(intro w h;(try dsimp only at h);go_simp) <;> with_reducible rfl
     simp only [tkp]
     refine tk 2 (.succ (.succ .zero)) (v:=?_) ?_ ?_
     rotate_left
     ·(intro w h;(try dsimp only at h);go_simp) <;> with_reducible rfl
     simp only [tkp]
     refine tk1 3 (.succ (.succ (.succ .zero))) (fun K hK=>?_)
     refine step_inv (by rfl) 188 34 _ 174 (.pointer (some ⟨kb,0,none⟩)) (by rfl) (by rfl) (fun _=>by kernel_rfl) (fun _ _=>by rfl) ?_
     (with_reducible refine HLs.out.mono ?_)
     rintro e w4 ⟨rfl,hw4⟩
     subst hw4
     refine ⟨_,rfl,?_⟩
     refine hK.out _ _ ?_ (fun hG=>?_)
     ·(intro _;exact t1d)
     clear hK K
     replace hHeld:=hG (by decide)
     clear hG
     try simp only [tkp]
     refine tk1 4 (.succ (.succ (.succ (.succ .zero)))) (fun K hK=>?_)
     go_simp
     refine hK.out _ _ ?_ (fun hG=>?_)
     ·(intro _;exact ((below_alloc wr _).drew.cell (p:=⟨tb,1,none⟩) tz).trans t1)
     clear hK K
     replace hHeld:=hG (by decide)
     clear hG
     try simp only [tkp]
     refine tk1 5 (.s5 .zero) (fun K hK=>?_)
     refine step_append_str (by rfl) (.tmp 33) (.tmp 36) (by rfl) B (.slice ka kn kc') kn (strL (LKs l k)) (by rfl) HO8.out ⟨wr.heap.size,0,none⟩ (fst1 l k) (by rfl) (by rw [Addr.add_lit];exact (Bx.new wr #[.string (fst1 l k)] 9).drew.cell 0) (by have:=H0.out.2.1.own1.2;simp [LKs] at this;omega) (by have:=HBw.out.2;show B<=(wr.alloc _).heap.size;simp;omega) ?_
     intro v5 w5 ho5 hg5 hat5
     obtain ⟨a5,c5,e5,_⟩:=own_form ho5
     subst e5
     have H8:Hid (TlSt w (w5.setCell ⟨tb,1,none⟩ (.slice a5 (kn+1) c5)) B n m (.slice ra n rc) (.slice ra' m rc') N KA DA N' KA' DA' KC' DC' tb C a5 (kn+1) c5 da k dc (LKs l (k+1)) (LDs d l n k)/\Bx w5 tb 168 #[.bool false,.slice ka kn kc',.slice da k dc,.int .i64 C]):=by
      have q:=TlSt.key H0.out.2.1 (below_alloc _ _).drew ho5 hg5 hat5
      rw [LKs_succ l k (by omega)]
      exact q
     have s1:=H8.out.2.cell 1
     simp at s1
     have sz1:=H8.out.2.lt
     have sf1:=fun i=>H8.out.2.frozen i
     clear ho5 hg5 hat5
     refine hK.out _ _ ?_ (fun hG=>?_)
     ·(intro _;exact s1)
     clear hK K
     replace hHeld:=hG (by decide)
     clear hG
     try simp only [tkp]
     refine tk1 6 (.s5 (.succ .zero)) (fun K hK=>?_)
     go_simp
     refine hK.out _ _ ?_ (fun hG=>?_)
     ·(intro _;exact hHeld)
     clear hK K
     replace hHeld:=hG (by decide)
     clear hG
     try simp only [tkp]
     refine tk1 7 (.s5 (.succ (.succ .zero))) (fun K hK=>?_)
     go_simp
     refine hK.out _ _ ?_ (fun hG=>?_)
     ·(intro hne;exact absurd rfl hne)
     clear hK K hG
     refine wpLate_done (by kernel_rfl) ?_ _
     have H8a:Hid (TlSt w (w5.setCell ⟨tb,1,none⟩ (.slice a5 (kn+1) c5)) B n m (.slice ra n rc) (.slice ra' m rc') N KA DA N' KA' DA' KC' DC' tb C a5 (kn+1) c5 da k dc (LKs l (k+1)) (LDs d l n k)):=H8.out.1
     clear hHeld s1 sz1 sf1 t1d t0 t1 t2 t3 tf tz H8 HO8 HLs
     generalize w5.setCell ⟨tb,1,none⟩ (.slice a5 (kn+1) c5)=W8 at H8a ⊢
     have t0:=H8a.out.box.cell 0
     have t1:=H8a.out.box.cell 1
     have t2:=H8a.out.box.cell 2
     have t3:=H8a.out.box.cell 3
     simp at t0 t1 t2 t3
     have tz:=H8a.out.box.lt
     have tf:=fun i=>H8a.out.box.frozen i
     have HO9:Hid ((W8.alloc (.cells #[.int .i64 (m:Int)] 2)).ownsRow B 2 1 (.slice da k dc) k (intL (LDs d l n k))):=own_below H8a.out.own2.1 (below_alloc _ _)
     have hBz:B<=W8.heap.size:=Nat.le_trans hB H8a.out.fr.size
     go_wp2_with (at_builtin;refine wpList_append_own_at _ rfl _ _ 151 rfl B 2 i2 _ 1 8 Tryz.underlying151 HI2.out.1 HI2.out.2.1 HI2.out.2.2.1 HI2.out.2.2.2 rfl (by decide) (.slice da k dc) k _ rfl HO9.out ⟨W8.heap.size,0,none⟩ 1 1 [.int .i64 (m:Int)] rfl rfl (cell_one_new _ _ _) (by intro u hu;simp at hu;subst hu;rfl) (by unfold maxLen;omega) (by omega) (by simp;omega) ?_)
     intro v9 w9 ho9 hg9 _ hat9
     obtain ⟨a9,c9,e9,_⟩:=own_form ho9
     subst e9
     have H9:Hid (TlSt w (w9.setCell ⟨tb,2,none⟩ (.slice a9 (k+1) c9)) B n m (.slice ra n rc) (.slice ra' m rc') N KA DA N' KA' DA' KC' DC' tb C a5 (kn+1) c5 a9 (k+1) c9 (LKs l (k+1)) (LDs d l n (k+1))/\Bx w9 tb 168 #[.bool false,.slice a5 (kn+1) c5,.slice da k dc,.int .i64 C]):=by
      have q:=TlSt.kid H8a.out (below_alloc _ _) ho9 hg9 (by simpa using hat9)
      rw [LDs_succ,<- H0.out.1]
      exact q
     have s2:=H9.out.2.cell 2
     simp at s2
     have sz:=H9.out.2.lt
     have sf:=fun i=>H9.out.2.frozen i
     have HC:Hid (Calls Tryz.prog 191 #[.pointer (some ⟨kb,0,none⟩),.slice ra' m rc'] (w9.setCell ⟨tb,2,none⟩ (.slice a9 (k+1) c9)) (RetTl (w9.setCell ⟨tb,2,none⟩ (.slice a9 (k+1) c9)) B (.slice ra' m rc') m N' KA' DA' (nodesR d l[k]) (fun N2=>Tells N2 0 d l[k] m))):=by
      have hb9:=HBb.out _ H9.out.1.fr
      obtain ⟨u',cu',htu'⟩:=HK.out _ hb9 k hkl
      have eu:u'=.iface 174 (.pointer (some ⟨kb,0,none⟩)):=by
       have q:(w9.setCell ⟨tb,2,none⟩ (.slice a9 (k+1) c9)).cell? ⟨g,o+k,none⟩=wr.cell? ⟨g,o+k,none⟩:=(hb9.cell (p:=⟨g,o+k,none⟩) hgB).trans (HBw.out.1.cell (p:=⟨g,o+k,none⟩) hgB).symm
       rw [q,cu] at cu'
       injection cu' with cu'
       exact cu'.symm
      rw [eu] at htu'
      have hct:=HIH.out k hkl _ _ m rc' ra' N' KA' DA' KC' DC' htu' H9.out.1.gt (Nat.le_trans hB H9.out.1.fr.size) (by
       have q:nodesR (d+1) (.inr l)=1+(l.map (nodesR d)).sum:=rfl
       have:=HBal.out.2
       have:=offR_le d l k hkl
       have:=H0.out.1
       omega)
      exact callT_inner hct
     clear ho9 hg9 hat9 HO9 t0 t1 t2 t3 tf cu
     go_wp2_with fail
     (with_reducible refine HC.out.mono ?_)
     intro e w11 hr
     obtain ⟨q2,N2,KA2,DA2,KC2,DC2,e2,st2,old2,tl2⟩:=TlSt.told H9.out.1 hr
     obtain ⟨a11,c11,e11,_⟩:=own_form st2.gt.row
     subst e11
     subst e2
     have HE:Hid (m+nodesR d l[k]=n+1+offR d l (k+1)/\TlSt w w11 B n (m+nodesR d l[k]) (.slice ra n rc) (.slice a11 (m+nodesR d l[k]) c11) N KA DA N2 KA2 DA2 KC2 DC2 tb C a5 (kn+1) c5 a9 (k+1) c9 (LKs l (k+1)) (LDs d l n (k+1))/\∀j (h:j<l.length),j<k+1->Tells N2 0 d l[j] (n+1+offR d l j)):=by
      have hm:=H0.out.1
      refine ⟨by rw [offR_succ d l k hkl];omega,st2,fun j hj hjk=>?_⟩
      by_cases e:j=k
      ·subst e
       rw [<- hm]
       exact tl2
      ·refine Tells.congr (fun i h1 h2=>?_) (H0.out.2.2 j hj (by omega))
       have q1:=offR_succ d l j hj
       have q2:=offR_mono d l (show j+1<=k by omega) (by omega)
       rw [old2 i (by omega)]
       exact ⟨rfl,rfl,rfl,rfl,fun _ _=>rfl,fun _ _=>rfl⟩
     obtain ⟨m2,hm2⟩:∃m2,m2=m+nodesR d l[k]:=⟨_,rfl⟩
     rw [<- hm2] at HE ⊢
     clear st2 old2 tl2 hr HC s2 sz sf hm2 H9
     go_wp2
     go_roundw
     case rel=>exact ⟨k+1,m2,_,_,c9,c11,a11,_,a9,N2,KA2,DA2,KC2,DC2,by omega,by go_num,rfl,HE.out.1,HE.out.2.1,HE.out.2.2⟩
     case measure=>simp [intOf];omega
  ·have e:k=ln:=by omega
   subst e
   obtain ⟨ar,cr,er,hfr⟩:=own_form H0.out.2.1.gt.row
   injection er with er1 _ er2
   subst er1 er2
   obtain ⟨gr,rfl,hgr1,hgr2,hgr3⟩:=hfr (by have:=H0.out.1;omega)
   have hnm:n<m:=H0.out.2.1.zero.2.2
   have rr:∀j,j<m*4->wr.cell? ⟨gr,j,none⟩=some (tnCell N' KA' DA' KC' DC' j):=fun j hj=>hgr3 j _ (by simp [hj])
   have r0:=rr (n*4) (by omega)
   have r1:=rr (n*4+1) (by omega)
   have r2:=rr (n*4+2) (by omega)
   have r3:=rr (n*4+3) (by omega)
   have rf:∀j,wr.frozen? ⟨gr,j,none⟩=false:=by
    intro j
    rcases H0.out.2.1.gt.row.2 with ⟨q,_⟩|⟨g',cap,cur,q1,q2,q3,_⟩
    ·cases q
    ·injection q1 with q1
     injection q1 with q1
     injection q1 with q1
     subst q1
     exact (show Bx wr gr 168 cur from q3).frozen j
   have jn0:(0:Int)<=(n:Int):=by omega
   have jn1:(n:Int)<(m:Int):=by omega
   have HEnd:Hid (RetTl w B (.slice ra n rc) n N KA DA (nodesR (d+1) (.inr l)) (fun N'=>Tells N' 0 (d+1) (.inr l) n) (.returned (.slice (some ⟨gr,0,none⟩) m rc')) ((((wr.setCell ⟨gr,n*4,none⟩ (.bool false)).setCell ⟨gr,n*4+1,none⟩ (.slice ka kn kc')).setCell ⟨gr,n*4+2,none⟩ (.slice da k dc)).setCell ⟨gr,n*4+3,none⟩ (.int .i64 C))):=by
    have hkL:=HLn.out.1
    have st:=H0.out.2.1
    have hm:=H0.out.1
    rw [HLn.out.1] at hm
    rw [HLn.out.1,HLn.out.2] at st
    have hkl0:kn=(LKs l l.length).length:=st.own1.2
    have:=tlst_fin st (P:=fun N'=>Tells N' 0 (d+1) (.inr l) n) (tells_in (by omega) (fun j hj=>H0.out.2.2 j hj (by omega)) kn l.length hkl0 rfl) (c:=nodesR (d+1) (.inr l)) (by rw [hm,offR_all];show n+1+_=n+(1+_);omega)
    rw [<- HLn.out.1,<- HLn.out.2] at this
    exact this
   clear rr hgr3
   go_wp2
   go_ret
   exact HEnd.out

theorem tellO:∀(d:Nat) (t:Ro d) (v:Value) (S:Nat->Prop) (w:World) (root:Bool) (h B n rc:Nat) (ra:Option Addr) (N:Nat->Tn) (KA DA:Nat->Option Addr) (KC DC:Nat->Nat),TAo S w d t v->BalR d root t h->GT w B (.slice ra n rc) n N KA DA KC DC->B<=w.heap.size->(∀x,S x->x<B)->n+nodesR d t<=100000->CallT v (.slice ra n rc) w (RetTl w B (.slice ra n rc) n N KA DA (nodesR d t) (fun N'=>Tells N' 0 d t n))
 | 0,t,_,_,_,_,_,_,_,_,_,_,_,_,_,_,ht,_,_,_,_,_=>ht.elim
 | d+1,.inl L,v,S,w,root,h,B,n,rc,ra,N,KA,DA,KC,DC,ht,hb,hg,hB,hS,hn=>by
  have ht2:=ht
  obtain ⟨b,ka,kc,rfl,_⟩:=ht2
  exact .inl ⟨b,rfl,tellLeaf_any d b L S w ht B n rc ra N KA DA KC DC hg hB (by have:=hb.2.1;omega) (by omega)⟩
 | d+1,.inr l,v,S,w,root,h,B,n,rc,ra,N,KA,DA,KC,DC,ht,hb,hg,hB,hS,hn=>by
  have ht2:=ht
  obtain ⟨b,g,o,kc,xs,rfl,_⟩:=ht2
  obtain ⟨b2,b4,h',_,hall⟩:=hb
  exact .inr ⟨b,rfl,tellInner_any d b l S w ht h' hall B n rc ra N KA DA KC DC hg hB hS (by omega) hn (fun k hk u wr m rc' ra' N' KA' DA' KC' DC' h1 h2 h3 h4=>tellO d l[k] u S wr false h' B m rc' ra' N' KA' DA' KC' DC' h1 (hall _ (List.getElem_mem hk)) h2 h3 hS h4)⟩
end Go.Proofs.YtcnollkkigiobaaGreat
