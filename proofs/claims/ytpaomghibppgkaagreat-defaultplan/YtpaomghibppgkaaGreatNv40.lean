import Derived.Test.YtpaomghibppgkaaGreatNv38
import Derived.Deep.CutRange
import Derived.Deep.CutBlock
import Derived.Test.YtpaomghibppgkaaGreatNv36
set_option linter.unusedVariables false
set_option maxRecDepth 100000
namespace Go.Proofs.YtpaomghibppgkaaGreat
open Go.RowKit Go.Deep
set_option linter.unusedSimpArgs false

set_option maxHeartbeats 2000000 in
theorem l6Below_any (next:Int) (a:Option Addr) (n c:Nat) (qa:Option Addr) (qn qc:Nat) (id:ByteArray->Int) (x:Cx) (k:Int) (s t:ByteArray) (w:World) (hT:TidC w next a n c id) :
  Calls Tryz.prog 57 #[cv x,wv next a n c qa qn qc,nv k s t] w fun e w'=>e=.returned (cv (dnC id k s x))/\Below w.heap.size w w':=by
 obtain ⟨xb,xg⟩:=x
 have HT:Hid (TidC w next a n c id):=hT
 clear hT
 unfold cv wv nv
 have HB4:Hid (Below w.heap.size w ((((w.alloc (.cells #[.bool xb,.int .i64 xg] 72)).alloc (.cells #[.int .i64 next,.slice a n c,.slice qa qn qc] 70)).alloc (.cells #[.int .i64 k,.string s,.string t] 83)).alloc (.cells #[.bool false,.int .i64 0] 72))):=by
  repeat (first|exact Below.refl _ _|refine bA ?_)
 obtain ⟨W0,hW0⟩:∃W0,W0=((((w.alloc (.cells #[.bool xb,.int .i64 xg] 72)).alloc (.cells #[.int .i64 next,.slice a n c,.slice qa qn qc] 70)).alloc (.cells #[.int .i64 k,.string s,.string t] 83)).alloc (.cells #[.bool false,.int .i64 0] 72)):=⟨_,rfl⟩
 have HC:Hid (∀W,Below W0.heap.size W0 W->W.heap[w.heap.size+1+1+1]?=some (.cells #[.bool false,.int .i64 0] 72 (0,0))/\Below w.heap.size w W):=fun W hW=>by
  rw [hW0] at hW
  have b4:=Bx.new (((w.alloc (.cells #[.bool xb,.int .i64 xg] 72)).alloc (.cells #[.int .i64 next,.slice a n c,.slice qa qn qc] 70)).alloc (.cells #[.int .i64 k,.string s,.string t] 83)) #[.bool false,.int .i64 0] 72
  simp only [World.size_alloc] at b4
  exact ⟨(hW.block _ (by simp)).trans b4,HB4.out.trans (hW.mono HB4.out.size)⟩
 by_cases hk:k=9
 ·subst hk
  have HD:Hid (dnC id 9 s ⟨xb,xg⟩=⟨true,id s⟩):=rfl
  go_enter Tryz.func57,Tryz.ntmps57
  go_wp2_with fail
  refine (HT.out _ s HB4.out).mono ?_
  rintro e w1 ⟨rfl,hb1⟩
  obtain ⟨hh,hbw⟩:=HC.out w1 (by rw [hW0];exact hb1)
  have q0:w1.cell? ⟨w.heap.size+1+1+1,0,none⟩=some (.bool false):=by simp [World.cell?,hh]
  have q1:w1.cell? ⟨w.heap.size+1+1+1,1,none⟩=some (.int .i64 0):=by simp [World.cell?,hh]
  have qf:∀o,w1.frozen? ⟨w.heap.size+1+1+1,o,none⟩=false:=fun o=>by simp [World.frozen?,hh]
  have hlt:w.heap.size+1+1+1<w1.heap.size:=(Array.getElem?_eq_some_iff.1 hh).1
  have HBW:Hid (Below w.heap.size w w1):=hbw
  clear hb1 hh hbw hW0 HC HT HB4
  generalize id s=y at*
  go_wp2
  rw [HD.out]
  refine bodyPost_ret (v:=.agg #[.bool true,.int .i64 y]) (by simp [results,Tryz.results57,go_sem,q0,q1]) rfl ⟨rfl,?_⟩
  exact (HBW.out.setCell (by show w.heap.size<=w.heap.size+1+1+1;omega) _).setCell (by show w.heap.size<=w.heap.size+1+1+1;omega) _
 ·have hk' : (k == 9)=false:=by simp [hk]
  have HD:Hid (dnC id k s ⟨xb,xg⟩=⟨xb,xg⟩):=by show _=_;unfold dnC;rw [if_neg hk]
  clear hk HC hW0
  rw [HD.out]
  go_enter Tryz.func57,Tryz.ntmps57
  go_wp2
  refine bodyPost_ret (v:=.agg #[.bool xb,.int .i64 xg]) (by simp [results,Tryz.results57,go_sem]) rfl ⟨rfl,?_⟩
  repeat (first|exact Below.refl _ _|refine bA ?_|refine bS (by simp <;> omega) ?_)
set_option linter.unusedSimpArgs false

structure MtS (w W:World) (next:Int) (a:Option Addr) (n c:Nat) (qa:Option Addr) (qn qc:Nat) (p:Qd):Prop where
 wb:Bx W w.heap.size 70 #[.int .i64 next,.slice a n c,.slice qa qn qc]
 pb:Bx W (w.heap.size+2) 122 #[.int .i64 p.s,.int .i64 p.p,.int .i64 p.o,.int .i64 p.g]
 ob:W.ownsRow (w.heap.size+3) 122 4 (.slice (some ⟨w.heap.size+3,0,none⟩) 0 0) 0 []
 lt:w.heap.size+3<W.heap.size
 eb:∀o,W.cell? ⟨w.heap.size+3,o,none⟩=none
 bel:Below w.heap.size w W
def RetMt (w:World) (L:List Qd) (e:Ending) (w' : World):Prop:=∃a' c',e=.returned (.slice a' L.length c')/\RdQ w' a' L/\Below w.heap.size w w'
theorem undrewB {w w' : World} (h:Below w.drew.heap.size w.drew w'):Below w.heap.size w w':=((Below.refl _ _).drew).trans h
set_option maxHeartbeats 16000000 in
theorem l6Match_any (next:Int) (a:Option Addr) (n c:Nat) (qa:Option Addr) (ll qc:Nat) (LL:List Qd) (x:Cx) (p:Qd) (w:World) (hq:RdQ w qa LL) (hll:ll=LL.length) (hl3:ll<=300) :
  Calls Tryz.prog 94 #[wv next a n c qa ll qc,cv x,qv p] w (RetMt w (mtL LL x p)):=by
 obtain ⟨xb,xg⟩:=x
 obtain ⟨W0,hW0⟩:∃W0,W0=(((w.alloc (.cells #[.int .i64 next,.slice a n c,.slice qa ll qc] 70)).alloc (.cells #[.bool xb,.int .i64 xg] 72)).alloc (.cells #[.int .i64 p.s,.int .i64 p.p,.int .i64 p.o,.int .i64 p.g] 122)).alloc (.cells #[] 122):=⟨_,rfl⟩
 have hS:MtS w W0 next a n c qa ll qc p:=by
  rw [hW0]
  have b1:=Bx.new w #[.int .i64 next,.slice a n c,.slice qa ll qc] 70
  have b3:=Bx.new ((w.alloc (.cells #[.int .i64 next,.slice a n c,.slice qa ll qc] 70)).alloc (.cells #[.bool xb,.int .i64 xg] 72)) #[.int .i64 p.s,.int .i64 p.p,.int .i64 p.o,.int .i64 p.g] 122
  have q:=own_empty (((w.alloc (.cells #[.int .i64 next,.slice a n c,.slice qa ll qc] 70)).alloc (.cells #[.bool xb,.int .i64 xg] 72)).alloc (.cells #[.int .i64 p.s,.int .i64 p.p,.int .i64 p.o,.int .i64 p.g] 122)) 122 (w.heap.size+3) 4 (by simp)
  have b4:=Bx.new (((w.alloc (.cells #[.int .i64 next,.slice a n c,.slice qa ll qc] 70)).alloc (.cells #[.bool xb,.int .i64 xg] 72)).alloc (.cells #[.int .i64 p.s,.int .i64 p.p,.int .i64 p.o,.int .i64 p.g] 122)) #[] 122
  simp only [World.size_alloc] at b3 b4 q
  exact ⟨((b1.alloc _).alloc _).alloc _,b3.alloc _,q,by simp,fun o=>by rw [Bx.cell b4 o];rfl,(((below_alloc _ _).alloc (by simp) _).alloc (by simp;omega) _).alloc (by simp;omega) _⟩
 have hcx:Bx W0 (w.heap.size+1) 72 #[.bool xb,.int .i64 xg]:=by
  rw [hW0]
  have b2:=Bx.new (w.alloc (.cells #[.int .i64 next,.slice a n c,.slice qa ll qc] 70)) #[.bool xb,.int .i64 xg] 72
  simp only [World.size_alloc] at b2
  exact (b2.alloc _).alloc _
 have S0:Hid (MtS w W0 next a n c qa ll qc p/\RdQ W0 qa LL/\ll=LL.length):=⟨hS,hq.below hS.bel,hll⟩
 have c0:=hcx.cell 0
 have c1:=hcx.cell 1
 simp at c0 c1
 have p3:=hS.pb.cell 3
 simp at p3
 have pf:∀o,W0.frozen? ⟨w.heap.size+2,o,none⟩=false:=fun o=>by have:=hS.pb;simp [World.frozen?,show W0.heap[w.heap.size+2]?=_ from this]
 have hlt0:=hS.lt
 obtain ⟨i0,hi0,hz0,hz1,hz2⟩:=info_parts Tryz.info122
 have HI:Hid (Tryz.prog.info? 122=some i0/\i0.zero=some (.agg #[.int .i64 0,.int .i64 0,.int .i64 0,.int .i64 0])/\i0.size=4/\i0.bytes=32):=⟨hi0,hz0,hz1,hz2⟩
 have HQ0:Hid (RdQ w qa LL):=hq
 clear hi0 hz0 hz1 hz2 hq hll hcx hS
 unfold wv cv qv
 obtain ⟨pp,hpp⟩:∃pp,pp=inC ⟨xb,xg⟩ p:=⟨_,rfl⟩
 have HR:Hid (mtL LL ⟨xb,xg⟩ p=if noC ⟨xb,xg⟩=true then [] else LL.filter (fun q=>fitB q pp)):=by show _=_;rw [hpp];rfl
 have HPP:Hid (pp=inC ⟨xb,xg⟩ p):=hpp
 clear hpp
 generalize mtL LL ⟨xb,xg⟩ p=RES at*
 go_enter Tryz.func94,Tryz.ntmps94
 go_upto_region 2 with fail
 rw [<- hW0]
 clear hW0
 go_upto_if 11 with fail
 go_cut [7] from 9 to 41 (fun s7 wx=>s7=.slice (some ⟨w.heap.size+3,0,none⟩) 0 0/\noC ⟨xb,xg⟩=false/\Hid (MtS w wx next a n c qa ll qc pp/\RdQ wx qa LL/\ll=LL.length))
 case first=>
  cases xb with
  | false=>
   have HX:Hid (MtS w W0 next a n c qa ll qc pp/\RdQ W0 qa LL/\ll=LL.length):=by
    have e:pp=p:=HPP.out
    rw [e]
    exact S0.out
   go_wp2
   go_meet
   exact ⟨rfl,rfl,HX⟩
  | true=>
   by_cases hg:xg=0
   ·subst hg
    have HF:Hid (RetMt w RES (.returned (.slice (some ⟨w.heap.size+3,0,none⟩) 0 0)) (W0.setCell ⟨w.heap.size+2,3,none⟩ (.int .i64 0))):=by
     show RetMt _ _ _ _
     rw [HR.out]
     exact ⟨_,_,rfl,.inl rfl,S0.out.1.bel.setCell (by simp) _⟩
    go_wp2
    go_ret
    exact HF.out
   ·have hgb:(xg == 0)=false:=by simp [hg]
    have HX:Hid (MtS w (W0.setCell ⟨w.heap.size+2,3,none⟩ (.int .i64 xg)) next a n c qa ll qc pp/\RdQ (W0.setCell ⟨w.heap.size+2,3,none⟩ (.int .i64 xg)) qa LL/\ll=LL.length):=by
     have e:pp=⟨p.s,p.p,p.o,xg⟩:=HPP.out
     rw [e]
     obtain ⟨q1,q2,q3,q4,q5,q6⟩:=S0.out.1
     have ne:∀g,g≠w.heap.size+2->(W0.setCell ⟨w.heap.size+2,3,none⟩ (.int .i64 xg)).heap[g]?=W0.heap[g]?:=fun g hgne=>Below.heap_setCell _ _ _ _ hgne
     refine ⟨⟨(ne _ (by omega)).trans q1,?_,plS_keep q3 (fun g e=>by simp [Value.ownBlock] at e;subst e;exact ne _ (by omega)),by simpa using q4,fun o=>?_,q6.setCell (by simp) _⟩,?_,S0.out.2.2⟩
     ·show (W0.setCell ⟨w.heap.size+2,3,none⟩ (.int .i64 xg)).heap[w.heap.size+2]?=_
      simp [World.setCell,Array.getElem?_modify,show W0.heap[w.heap.size+2]?=_ from q2]
     ·rw [World.cell?_of_block (a:=⟨w.heap.size+3,o,none⟩) (ne _ (by simp))]
      exact q5 o
     ·exact HQ0.out.below (q6.setCell (by simp) _)
    go_wp2
    go_meet
    exact ⟨rfl,by simp [noC,hg],HX⟩
 case rest=>
  obtain ⟨rfl,hno,S3⟩:=hcut
  rw [hno] at HR
  have HRR:Hid (RES=LL.filter (fun q=>fitB q pp)):=HR.out
  clear HR hno S0 c0 c1 p3 pf hlt0
  generalize wc=w3 at*
  go_wp2
  go_loopw [7,8] (fun out i wr=>∃(k:Nat) (R:List Qd),k<=ll/\i=.int .i64 k/\R=(LL.take k).filter (fun q=>fitB q pp)/\wr.ownsRow (w.heap.size+3) 122 4 out R.length (quadL R)/\Ex1 (w.heap.size+3) w3 wr/\(∀g,out.ownBlock=some g->g=w.heap.size+3\/w3.heap.size<=g)) (fun _ i _=>ll-(intOf i).toNat)
  case atStart=>exact ⟨0,[],Nat.zero_le _,rfl,rfl,S3.out.1.ob,Ex1.refl _ _,fun g e=>.inl (by simp [Value.ownBlock] at e;omega)⟩
  case round=>
   obtain ⟨k,R,hk,rfl,hR,hown,hex,hblk⟩:=hrel
   obtain ⟨ar,cr,er,_⟩:=own_form hown
   subst er
   have hRl:R.length<=k:=by
    rw [hR]
    exact Nat.le_trans (List.length_filter_le _ _) (by rw [List.length_take];omega)
   have HQ:Hid (wr.ownsRow (w.heap.size+3) 122 4 (.slice ar R.length cr) R.length (quadL R)/\Ex1 (w.heap.size+3) w3 wr/\R=(LL.take k).filter (fun q=>fitB q pp)/\(∀g,(Value.slice ar R.length cr).ownBlock=some g->g=w.heap.size+3\/w3.heap.size<=g)):=⟨hown,hex,hR,hblk⟩
   clear hown hex hR hblk
   obtain ⟨rl,hrl⟩:∃rl,rl=R.length:=⟨_,rfl⟩
   have HRl:Hid (rl=R.length):=hrl
   rw [<- hrl] at HQ hRl ⊢
   clear hrl
   have k0:(0:Int)<=(k:Int):=by omega
   have hzr:=HQ.out.2.1.2.2.2.1
   have hz3:=S3.out.1.lt
   have wbr:Bx wr w.heap.size 70 #[.int .i64 next,.slice a n c,.slice qa ll qc]:=(HQ.out.2.1.2.2.2.2 _ S3.out.1.wb.lt (by omega)).trans S3.out.1.wb
   have z0:=wbr.cell 2
   simp at z0
   clear wbr
   by_cases hlt:k<ll
   ·have k1:(k:Int)<(ll:Int):=by omega
    have hkL:k<LL.length:=by rw [<- S3.out.2.2];exact hlt
    rcases rdq_ex1 S3.out.2.1 HQ.out.2.1 S3.out.1.eb with h0|⟨b,ea,hc⟩
    ·omega
    obtain ⟨s0,s1,s2,s3⟩:=hc k hkL
    obtain ⟨x,hx⟩:∃x,x=LL[k]:=⟨_,rfl⟩
    have HXk:Hid (LL[k]=x):=hx.symm
    rw [<- hx] at s0 s1 s2 s3
    have pbr:Bx wr (w.heap.size+2) 122 #[.int .i64 pp.s,.int .i64 pp.p,.int .i64 pp.o,.int .i64 pp.g]:=(HQ.out.2.1.2.2.2.2 _ S3.out.1.pb.lt (by omega)).trans S3.out.1.pb
    have y0:=pbr.cell 0
    have y1:=pbr.cell 1
    have y2:=pbr.cell 2
    have y3:=pbr.cell 3
    simp at y0 y1 y2 y3
    have HFt:Hid (∀W:World,Calls Tryz.prog 117 #[.agg #[.int .i64 x.s,.int .i64 x.p,.int .i64 x.o,.int .i64 x.g],.agg #[.int .i64 pp.s,.int .i64 pp.p,.int .i64 pp.o,.int .i64 pp.g]] W fun e w'=>e=.returned (.bool (fitB x pp))/\Below W.heap.size W w'):=fun W=>l5Fits_any x pp W
    subst ea
    clear hc hx pbr
    go_wp2
    go_region_with (go_at_call 117;refine (HFt.out _).mono ?_;rintro e w5 ⟨rfl,hb5⟩)
    all_goals
     have hbr:Below wr.heap.size wr w5:=undrewB hb5
     have t0:=(hbr.cell (World.block_lt_of_cell? _ _ s0)).trans s0
     have t1:=(hbr.cell (World.block_lt_of_cell? _ _ s1)).trans s1
     have t2:=(hbr.cell (World.block_lt_of_cell? _ _ s2)).trans s2
     have t3:=(hbr.cell (World.block_lt_of_cell? _ _ s3)).trans s3
     have z5:=(hbr.cell (World.block_lt_of_cell? _ _ z0)).trans z0
     have hz5:=hbr.size
     have H5:Hid (w5.ownsRow (w.heap.size+3) 122 4 (.slice ar rl cr) rl (quadL R)/\Ex1 (w.heap.size+3) w3 w5):=⟨own_below HQ.out.1 hbr,HQ.out.2.1.below hbr⟩
     clear hb5 hbr s0 s1 s2 s3 y0 y1 y2 y3 z0
     cases hf:fitB x pp with
     | false=>
      have HN:Hid (R=(LL.take (k+1)).filter (fun q=>fitB q pp)):=by
       show R=_
       rw [take_more' hkL,List.filter_append,<- HQ.out.2.2.1,HXk.out,List.filter_cons,hf]
       simp
      go_wp2
      go_roundw
      case rel=>exact ⟨k+1,R,by omega,by go_num,HN.out,by rw [<- HRl.out];exact H5.out.1,H5.out.2,HQ.out.2.2.2⟩
      case measure=>simp [intOf];omega
     | true=>
      have HN:Hid (R++[x]=(LL.take (k+1)).filter (fun q=>fitB q pp)):=by
       show R++[x]=_
       rw [take_more' hkL,List.filter_append,<- HQ.out.2.2.1,HXk.out,List.filter_cons,hf]
       simp
      have HO6:Hid ((w5.alloc (.cells #[.int .i64 x.s,.int .i64 x.p,.int .i64 x.o,.int .i64 x.g] 122)).ownsRow (w.heap.size+3) 122 4 (.slice ar rl cr) rl (quadL R)/\Ex1 (w.heap.size+3) w3 (w5.alloc (.cells #[.int .i64 x.s,.int .i64 x.p,.int .i64 x.o,.int .i64 x.g] 122))/\(∀j u,(quadL [x])[j]?=some u->(w5.alloc (.cells #[.int .i64 x.s,.int .i64 x.p,.int .i64 x.o,.int .i64 x.g] 122)).cell? ⟨w5.heap.size,j,none⟩=some u)):=by
       refine ⟨own_below H5.out.1 (below_alloc _ _),H5.out.2.below (below_alloc _ _),fun j u hj=>?_⟩
       rw [(Bx.new w5 #[.int .i64 x.s,.int .i64 x.p,.int .i64 x.o,.int .i64 x.g] 122).cell j]
       simpa [quadL] using hj
      go_wp2_with (at_builtin;refine wpList_append_own_at _ rfl _ _ 64 rfl (w.heap.size+3) 122 i0 _ 4 32 Tryz.underlying64 HI.out.1 HI.out.2.1 HI.out.2.2.1 HI.out.2.2.2 rfl (by decide) (.slice ar rl cr) rl (quadL R) rfl HO6.out.1 ⟨w5.heap.size,0,none⟩ 1 1 (quadL [x]) rfl rfl (fun j u hj=>by rw [Addr.add_lit,Nat.zero_add];exact HO6.out.2.2 j u hj) (by intro u hu;simp [quadL] at hu;rcases hu with rfl|rfl|rfl|rfl <;> rfl) (by unfold maxLen;omega) (by omega) (by simp;omega) ?_)
      intro v7 w7 ho7 hg7 _ hat7
      have H7:Hid (w7.ownsRow (w.heap.size+3) 122 4 v7 (R++[x]).length (quadL (R++[x]))/\Ex1 (w.heap.size+3) w3 w7/\(∀g,v7.ownBlock=some g->g=w.heap.size+3\/w3.heap.size<=g)):=by
       refine ⟨by rw [quadL_app,List.length_append,<- HRl.out];exact ho7,HO6.out.2.1.grown hg7 HQ.out.2.2.2,fun g e=>?_⟩
       rcases hat7 with q|q
       ·exact HQ.out.2.2.2 g (by rw [<- q];exact e)
       ·rw [q] at e
        injection e with e
        exact .inr (by omega)
      obtain ⟨a7,c7,e7,_⟩:=own_form ho7
      subst e7
      clear ho7 hg7 hat7 HO6
      go_wp2
      go_roundw
      case rel=>exact ⟨k+1,R++[x],by omega,by go_num,HN.out,H7.out⟩
      case measure=>simp [intOf];omega
   ·obtain rfl:k=ll:=by omega
    have k1:¬ (k:Int)<(k:Int):=by omega
    have HF:Hid (RetMt w RES (.returned (.slice ar rl cr)) wr):=by
     show RetMt _ _ _ _
     rw [HRR.out]
     have e:R=LL.filter (fun q=>fitB q pp):=by rw [HQ.out.2.2.1,S3.out.2.2,List.take_length]
     have ho:=HQ.out.1
     rw [HRl.out,e] at ho
     exact ⟨ar,cr,by rw [<- e,<- HRl.out],own_rdq ho,S3.out.1.bel.trans (HQ.out.2.1.bel S3.out.1.bel.size (by omega))⟩
    go_wp2
    go_ret
    exact HF.out
set_option linter.unusedSimpArgs false

structure OwS (w W:World) (next:Int) (a:Option Addr) (n c:Nat) (qa:Option Addr) (qn qc:Nat) (xb:Bool) (xg k:Int) (s t:ByteArray):Prop where
 nb:Bx W w.heap.size 83 #[.int .i64 k,.string s,.string t]
 wb:Bx W (w.heap.size+1) 70 #[.int .i64 next,.slice a n c,.slice qa qn qc]
 cb:Bx W (w.heap.size+1+1) 72 #[.bool xb,.int .i64 xg]
 bel:Below w.heap.size w W
theorem OwS.keep {w W W' : World} {next:Int} {a:Option Addr} {n c:Nat} {qa:Option Addr} {qn qc:Nat} {xb:Bool} {xg k:Int} {s t:ByteArray} (h:OwS w W next a n c qa qn qc xb xg k s t) (hb:Below W.heap.size W W'):OwS w W' next a n c qa qn qc xb xg k s t:=
 ⟨(hb.block _ h.nb.lt).trans h.nb,(hb.block _ h.wb.lt).trans h.wb,(hb.block _ h.cb.lt).trans h.cb,h.bel.trans (hb.mono h.bel.size)⟩
theorem OwS.cells {w W:World} {next:Int} {a:Option Addr} {n c:Nat} {qa:Option Addr} {qn qc:Nat} {xb:Bool} {xg k:Int} {s t:ByteArray} (h:OwS w W next a n c qa qn qc xb xg k s t) :
  (W.cell? ⟨w.heap.size,0,none⟩=some (.int .i64 k)/\W.cell? ⟨w.heap.size,1,none⟩=some (.string s)/\W.cell? ⟨w.heap.size,2,none⟩=some (.string t))/\(W.cell? ⟨w.heap.size+1,0,none⟩=some (.int .i64 next)/\W.cell? ⟨w.heap.size+1,1,none⟩=some (.slice a n c)/\W.cell? ⟨w.heap.size+1,2,none⟩=some (.slice qa qn qc))/\W.cell? ⟨w.heap.size+1+1,0,none⟩=some (.bool xb)/\W.cell? ⟨w.heap.size+1+1,1,none⟩=some (.int .i64 xg):=by
 have n0:=h.nb.cell 0
 have n1:=h.nb.cell 1
 have n2:=h.nb.cell 2
 have w0:=h.wb.cell 0
 have w1:=h.wb.cell 1
 have w2:=h.wb.cell 2
 have c0:=h.cb.cell 0
 have c1:=h.cb.cell 1
 simp at n0 n1 n2 w0 w1 w2 c0 c1
 exact ⟨⟨n0,n1,n2⟩,⟨w0,w1,w2⟩,c0,c1⟩
theorem ows_new (w:World) (next:Int) (a:Option Addr) (n c:Nat) (qa:Option Addr) (qn qc:Nat) (xb:Bool) (xg k:Int) (s t:ByteArray):OwS w (((w.alloc (.cells #[.int .i64 k,.string s,.string t] 83)).alloc (.cells #[.int .i64 next,.slice a n c,.slice qa qn qc] 70)).alloc (.cells #[.bool xb,.int .i64 xg] 72)) next a n c qa qn qc xb xg k s t:=by
 have b1:=Bx.new w #[.int .i64 k,.string s,.string t] 83
 have b2:=Bx.new (w.alloc (.cells #[.int .i64 k,.string s,.string t] 83)) #[.int .i64 next,.slice a n c,.slice qa qn qc] 70
 have b3:=Bx.new ((w.alloc (.cells #[.int .i64 k,.string s,.string t] 83)).alloc (.cells #[.int .i64 next,.slice a n c,.slice qa qn qc] 70)) #[.bool xb,.int .i64 xg] 72
 simp only [World.size_alloc] at b2 b3
 exact ⟨(b1.alloc _).alloc _,b2.alloc _,b3,((below_alloc _ _).alloc (by simp) _).alloc (by simp;omega) _⟩
set_option maxHeartbeats 8000000 in
theorem l6Own_any (next:Int) (a:Option Addr) (n c:Nat) (qa:Option Addr) (ll qc:Nat) (LL:List Qd) (id:ByteArray->Int) (x:Cx) (k:Int) (s t:ByteArray) (w:World) (hT:TidC w next a n c id) (hq:RdQ w qa LL) (hll:ll=LL.length) (hl3:ll<=300) :
  Calls Tryz.prog 61 #[nv k s t,wv next a n c qa ll qc,cv x] w fun e w'=>e=.returned (.int .i64 (ownN id LL k s t x:Int))/\Below w.heap.size w w':=by
 obtain ⟨xb,xg⟩:=x
 obtain ⟨W0,hW0⟩:∃W0,W0=((w.alloc (.cells #[.int .i64 k,.string s,.string t] 83)).alloc (.cells #[.int .i64 next,.slice a n c,.slice qa ll qc] 70)).alloc (.cells #[.bool xb,.int .i64 xg] 72):=⟨_,rfl⟩
 have hS:OwS w W0 next a n c qa ll qc xb xg k s t:=by rw [hW0];exact ows_new _ _ _ _ _ _ _ _ _ _ _ _ _
 have S0:Hid (OwS w W0 next a n c qa ll qc xb xg k s t):=hS
 have HT:Hid (TidC w next a n c id):=hT
 have HM:Hid (∀W p,Below w.heap.size w W->Calls Tryz.prog 94 #[.agg #[.int .i64 next,.slice a n c,.slice qa ll qc],.agg #[.bool xb,.int .i64 xg],.agg #[.int .i64 p.s,.int .i64 p.p,.int .i64 p.o,.int .i64 p.g]] W (RetMt W (mtL LL ⟨xb,xg⟩ p))):=fun W p hW=>l6Match_any next a n c qa ll qc LL ⟨xb,xg⟩ p W (hq.below hW) hll hl3
 clear hT hq hll hS
 obtain ⟨⟨n0,n1,n2⟩,⟨w0,w1,w2⟩,c0,c1⟩:=S0.out.cells
 have HO:Hid (ownN id LL k s t ⟨xb,xg⟩=if id s=0 then 0 else if k=5 then (if id t=0 then 0 else (mtL LL ⟨xb,xg⟩ ⟨0,id s,id t,0⟩).length) else (mtL LL ⟨xb,xg⟩ ⟨0,id s,0,0⟩).length):=rfl
 generalize ownN id LL k s t ⟨xb,xg⟩=RES at*
 unfold wv cv nv
 go_enter Tryz.func61,Tryz.ntmps61
 go_upto_region 1 with fail
 rw [<- hW0]
 clear hW0
 go_wp2_with fail
 refine (HT.out W0 s S0.out.bel).mono ?_
 rintro e w3 ⟨rfl,hb3⟩
 obtain ⟨is,his⟩:∃is,is=id s:=⟨_,rfl⟩
 rw [<- his] at HO ⊢
 clear his
 obtain ⟨W3,hW3⟩:∃W3,W3=w3.alloc (.cells #[.int .i64 0,.int .i64 is,.int .i64 0,.int .i64 0] 122):=⟨_,rfl⟩
 have hbb:Below w3.heap.size w3 W3:=by rw [hW3];exact below_alloc _ _
 have hpb:Bx W3 w3.heap.size 122 #[.int .i64 0,.int .i64 is,.int .i64 0,.int .i64 0]:=by rw [hW3];exact Bx.new _ _ _
 have S3:Hid (OwS w W3 next a n c qa ll qc xb xg k s t/\Bx W3 w3.heap.size 122 #[.int .i64 0,.int .i64 is,.int .i64 0,.int .i64 0]):=⟨(S0.out.keep hb3).keep hbb,hpb⟩
 have hz3:w.heap.size+1+1<w3.heap.size:=((S0.out.keep hb3).cb).lt
 clear hb3 hbb hpb n0 n1 n2 w0 w1 w2 c0 c1
 go_upto_region 2 with fail
 rw [<- hW3]
 clear hW3 S0
 generalize w3.heap.size=pb at*
 obtain ⟨⟨n0,n1,n2⟩,⟨w0,w1,w2⟩,c0,c1⟩:=S3.out.1.cells
 have p0:=S3.out.2.cell 0
 have p1:=S3.out.2.cell 1
 have p2:=S3.out.2.cell 2
 have p3:=S3.out.2.cell 3
 simp at p0 p1 p2 p3
 have pf:∀o,W3.frozen? ⟨pb,o,none⟩=false:=fun o=>by simp [World.frozen?,show W3.heap[pb]?=_ from S3.out.2]
 by_cases h0:is=0
 ·subst h0
  have HF:Hid (RES=0/\Below w.heap.size w W3):=⟨by rw [HO.out,if_pos rfl],S3.out.1.bel⟩
  go_wp2
  go_ret
  exact ⟨by rw [HF.out.1];rfl,HF.out.2⟩
 have h0b:(is == 0)=false:=by simp [h0]
 by_cases h5:k=5
 ·subst h5
  go_wp2_with fail
  refine (HT.out W3 t S3.out.1.bel).mono ?_
  rintro e w4 ⟨rfl,hb4⟩
  obtain ⟨it,hit⟩:∃it,it=id t:=⟨_,rfl⟩
  rw [<- hit] at HO ⊢
  clear hit
  have S4:Hid (OwS w w4 next a n c qa ll qc xb xg 5 s t/\Bx w4 pb 122 #[.int .i64 0,.int .i64 is,.int .i64 0,.int .i64 0]):=⟨S3.out.1.keep hb4,(hb4.block _ S3.out.2.lt).trans S3.out.2⟩
  clear hb4 n0 n1 n2 w0 w1 w2 c0 c1 p0 p1 p2 p3 pf
  have p2:=S4.out.2.cell 2
  simp at p2
  have pf:∀o,w4.frozen? ⟨pb,o,none⟩=false:=fun o=>by simp [World.frozen?,show w4.heap[pb]?=_ from S4.out.2]
  have hlt4:=S4.out.2.lt
  have S5:Hid (OwS w (w4.setCell ⟨pb,2,none⟩ (.int .i64 it)) next a n c qa ll qc xb xg 5 s t/\Bx (w4.setCell ⟨pb,2,none⟩ (.int .i64 it)) pb 122 #[.int .i64 0,.int .i64 is,.int .i64 it,.int .i64 0]):=by
   obtain ⟨q1,q2,q3,q4⟩:=S4.out.1
   have ne:∀g,g≠pb->(w4.setCell ⟨pb,2,none⟩ (.int .i64 it)).heap[g]?=w4.heap[g]?:=fun g hgne=>Below.heap_setCell _ _ _ _ hgne
   refine ⟨⟨(ne _ (by omega)).trans q1,(ne _ (by omega)).trans q2,(ne _ (by omega)).trans q3,q4.setCell (by show w.heap.size<=pb;omega) _⟩,?_⟩
   show (w4.setCell ⟨pb,2,none⟩ (.int .i64 it)).heap[pb]?=_
   simp [World.setCell,Array.getElem?_modify,show w4.heap[pb]?=_ from S4.out.2]
  go_upto_region 6 with fail
  generalize w4.setCell ⟨pb,2,none⟩ (.int .i64 it)=W5 at*
  clear S4 p2 pf hlt4
  obtain ⟨⟨n0,n1,n2⟩,⟨w0,w1,w2⟩,c0,c1⟩:=S5.out.1.cells
  have p0:=S5.out.2.cell 0
  have p1:=S5.out.2.cell 1
  have p2:=S5.out.2.cell 2
  have p3:=S5.out.2.cell 3
  simp at p0 p1 p2 p3
  by_cases ht:it=0
  ·subst ht
   have HF:Hid (RES=0/\Below w.heap.size w W5):=⟨by rw [HO.out,if_neg h0,if_pos trivial,if_pos rfl],S5.out.1.bel⟩
   go_wp2
   go_ret
   exact ⟨by rw [HF.out.1];rfl,HF.out.2⟩
  have htb:(it == 0)=false:=by simp [ht]
  have HMM:Hid (Calls Tryz.prog 94 #[.agg #[.int .i64 next,.slice a n c,.slice qa ll qc],.agg #[.bool xb,.int .i64 xg],.agg #[.int .i64 0,.int .i64 is,.int .i64 it,.int .i64 0]] W5 (RetMt W5 (mtL LL ⟨xb,xg⟩ ⟨0,is,it,0⟩))):=HM.out W5 ⟨0,is,it,0⟩ S5.out.1.bel
  go_wp2_with fail
  with_reducible refine HMM.out.mono ?_
  rintro e w6 ⟨a6,c6,rfl,-,hb6⟩
  have HF:Hid (RES=(mtL LL ⟨xb,xg⟩ ⟨0,is,it,0⟩).length/\Below w.heap.size w w6):=⟨by rw [HO.out,if_neg h0,if_pos trivial,if_neg ht],S5.out.1.bel.trans (hb6.mono S5.out.1.bel.size)⟩
  clear hb6 HMM
  generalize (mtL LL ⟨xb,xg⟩ ⟨0,is,it,0⟩).length=LN at*
  go_wp2
  go_ret
  exact ⟨by rw [HF.out.1];rfl,HF.out.2⟩
 ·have h5b:(k == 5)=false:=by simp [h5]
  have HMM:Hid (Calls Tryz.prog 94 #[.agg #[.int .i64 next,.slice a n c,.slice qa ll qc],.agg #[.bool xb,.int .i64 xg],.agg #[.int .i64 0,.int .i64 is,.int .i64 0,.int .i64 0]] W3 (RetMt W3 (mtL LL ⟨xb,xg⟩ ⟨0,is,0,0⟩))):=HM.out W3 ⟨0,is,0,0⟩ S3.out.1.bel
  have HF0:Hid (RES=(mtL LL ⟨xb,xg⟩ ⟨0,is,0,0⟩).length):=by show _=_;rw [HO.out,if_neg h0,if_neg h5]
  clear h5
  go_wp2_with fail
  with_reducible refine HMM.out.mono ?_
  rintro e w6 ⟨a6,c6,rfl,-,hb6⟩
  have HF:Hid (RES=(mtL LL ⟨xb,xg⟩ ⟨0,is,0,0⟩).length/\Below w.heap.size w w6):=⟨HF0.out,S3.out.1.bel.trans (hb6.mono S3.out.1.bel.size)⟩
  clear hb6 HMM HF0
  generalize (mtL LL ⟨xb,xg⟩ ⟨0,is,0,0⟩).length=LN at*
  go_wp2
  go_ret
  exact ⟨by rw [HF.out.1];rfl,HF.out.2⟩
end Go.Proofs.YtpaomghibppgkaaGreat
