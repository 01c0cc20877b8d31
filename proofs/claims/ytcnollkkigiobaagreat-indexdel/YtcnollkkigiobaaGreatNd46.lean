import Derived.Test.YtcnollkkigiobaaGreatNd45
import Derived.Test.YtcnollkkigiobaaGreatNd37
set_option linter.unusedVariables false
set_option maxRecDepth 100000
namespace Go.Proofs.YtcnollkkigiobaaGreat
open Go.RowKit Go.Deep

def RetRb (key:ByteArray) (t:Ro 21) (v:Value) (bs:List Nat) (w:World) (bq:Bool) (w' : World):Prop:=
 (bq=false/\key∉keysR 21 t/\Below w.heap.size w w')\/(bq=true/\key∈keysR 21 t/\Frs bs w w'/\∃u b,b∈bs/\DelR key 21 t u/\NdI (fun x=>(x∈bs/\x≠b)\/w.heap.size<=x) w' b 21 u v)
theorem RetR.b {key:ByteArray} {t:Ro 21} {v:Value} {bs:List Nat} {w w' : World} {e:Ending} (h:RetR key 21 t v bs w e w'):∃bq,e=.returned (.bool bq)/\RetRb key t v bs w bq w':=by
 rcases h with ⟨h1,h2,h3⟩|⟨h1,h2,h3,h4⟩
 ·exact ⟨false,h2,.inl ⟨rfl,h1,h3⟩⟩
 ·exact ⟨true,h2,.inr ⟨rfl,h1,h3,h4⟩⟩
structure DD (w0 W wr:World) (M:Nat->Nat) (T:Nat->Nat->Tn) (q:Qd) (lo hi:Nat->Nat) (j:Nat) (A:Array Value):Prop where
 xb:Bx wr (w0.heap.size+1) 109 A
 sz:A.size=12
 qb:Bx wr W.heap.size 34 #[.int .i64 q.s,.int .i64 q.p,.int .i64 q.o,.int .i64 q.g]
 bel:Below (w0.heap.size+1) W wr
 big:W.heap.size+1<=wr.heap.size
 old:∀p,j<=p->p<6->XO (lo p) (hi p) wr A M T p
 new:∀p,p<j->XD (lo p) (hi p) (W.heap.size+1) wr A M T q p
theorem DD.keep {w0 W wr w' : World} {M:Nat->Nat} {T:Nat->Nat->Tn} {q:Qd} {lo hi:Nat->Nat} {j:Nat} {A:Array Value} (h:DD w0 W wr M T q lo hi j A) (hb:Below wr.heap.size wr w'):DD w0 W w' M T q lo hi j A:=
 ⟨h.xb.below hb,h.sz,h.qb.below hb,h.bel.trans (hb.mono (by have:=h.xb.lt;omega)),Nat.le_trans h.big hb.size,fun p hp hp6=>(h.old p hp hp6).keep hb.size (fun k _ hk=>hb.block k (by have:=(h.old p hp hp6).top;omega)),fun p hp=>(h.new p hp).keep hb.size (fun x _ hx=>hb.block x hx)⟩
theorem DD.step {w0 W w1 w2:World} {M:Nat->Nat} {T:Nat->Nat->Tn} {q:Qd} {lo hi:Nat->Nat} {j:Nat} {A:Array Value} (h:DD w0 W w1 M T q lo hi j A) (hj:j<6) (hR:Rng w0 W lo hi) {bs:List Nat} (hlo:∀x,x∈bs->lo j<=x) (hbs:∀x,x∈bs->x<hi j) (hf:Frs bs w1 w2) {b:Nat} (hb:b∈bs) {S0:Nat->Prop} (hS0:∀x,S0 x->((x∈bs/\x≠b)\/w1.heap.size<=x)/\x<w2.heap.size)
  {t' : Ro 21} {D:Nat} {y:Ro D} {v' : Value} {S:Nat->Prop} {hh:Nat} {u:Ro 21} (h1:VTt (M j) (T j) t') (h2:keyOf j q∈keysR 21 t') (h3:TAo S w2 D y v') (h4:∀x,S x->(S0 x\/x=b)/\x<w2.heap.size) (h5:BalR D true y hh) (h6:DelR (keyOf j q) 21 t' u) (h8:nodesR D y<=5000) (h9:∀M m,m=nodesR D y->Tells M 0 D y 0->DelT m M u) :
  Bx w2 (w0.heap.size+1) 109 A/\DD w0 W (w2.setCell ⟨w0.heap.size+1,j*2+1,none⟩ v') M T q lo hi (j+1) (A.setIfInBounds (j*2+1) v'):=by
 obtain ⟨r1,r2,r3,r4⟩:=hR
 have hz2:=hf.2.2.2.1
 have hbig:=h.big
 have hl0:=r1 j hj
 have hh0:=r3 j hj
 have hk3:∀x,x<w1.heap.size->x∉bs->w2.heap[x]?=w1.heap[x]?:=fun x hx hn=>hf.2.2.2.2 x hx hn
 have hx3:Bx w2 (w0.heap.size+1) 109 A:=(hk3 _ h.xb.lt (fun q=>by have:=hlo _ q;omega)).trans h.xb
 have hk4:∀x,x≠w0.heap.size+1->x<w1.heap.size->x∉bs->(w2.setCell ⟨w0.heap.size+1,j*2+1,none⟩ v').heap[x]?=w1.heap[x]?:=fun x hx hl hn=>(Below.heap_setCell _ _ _ _ hx).trans (hk3 x hl hn)
 have hsz:=h.sz
 have hzz:(w2.setCell ⟨w0.heap.size+1,j*2+1,none⟩ v').heap.size=w2.heap.size:=World.size_setCell _ _ _
 refine ⟨hx3,hx3.set _ _,by simpa using hsz,?_,?_,by rw [hzz];omega,fun p hp hp6=>?_,fun p hp=>?_⟩
 ·exact (hk4 _ (by omega) h.qb.lt (fun q=>by have:=hbs _ q;omega)).trans h.qb
 ·refine h.bel.trans ⟨hf.1,hf.2.1,hf.2.2.1,by rw [hzz];omega,fun k hk=>hk4 k (by omega) (by have:=h.xb.lt;omega) (fun q=>by have:=hlo _ q;omega)⟩
 ·have ho:=r2 j p (by omega) hp6
  have hb':=r1 p hp6
  refine ((h.old p (by omega) hp6).keep (by rw [hzz];omega) (fun k k1 k2=>hk4 k (by omega) (by have:=(h.old p (by omega) hp6).top;omega) (fun q=>by have:=hbs _ q;omega))).set (by omega)
 ·by_cases e:p=j
  ·subst e
   have ho:=h.old p (Nat.le_refl _) hj
   refine ⟨?_,t',D,y,v',S,hh,u,h1,h2,TAo.keep (by rw [hzz];exact Nat.le_refl _) (fun x hx hl=>⟨hx,Below.heap_setCell _ _ _ _ ?_⟩) h3,fun x hx=>⟨?_,by rw [hzz];exact (h4 x hx).2⟩,h5,h6,h8,h9,?_⟩
   ·rw [Array.getElem?_setIfInBounds_ne (by omega)];exact ho.1
   ·show x≠w0.heap.size+1
    rcases (h4 x hx).1 with q|q
    ·rcases (hS0 x q).1 with q|q
     ·have:=hlo x q.1;omega
     ·have:=h.xb.lt;omega
    ·have:=hlo b hb;omega
   ·rcases (h4 x hx).1 with q|q
    ·rcases (hS0 x q).1 with q|q
     ·exact .inl ⟨hlo x q.1,hbs x q.1⟩
     ·exact .inr (by omega)
    ·exact .inl (by rw [q];exact ⟨hlo b hb,hbs b hb⟩)
   ·rw [Array.getElem?_setIfInBounds_self_of_lt (by omega)]
  ·have hpj:p<j:=by omega
   have ho:=r2 p j hpj hj
   have hb':=r1 p (by omega)
   refine ((h.new p hpj).keep (by rw [hzz];omega) (fun x hx hl=>hk4 x ?_ hl (fun q=>?_))).set e
   ·rcases hx with hx|hx
    ·omega
    ·omega
   ·have h7:=hbs _ q
    have h8:=hlo _ q
    rcases hx with hx|hx
    ·omega
    ·omega
theorem pigeon {α:Type}:∀(l l' : List α),l.Nodup->(∀x,x∈l->x∈l')->l'.length<=l.length->∀x,x∈l'->x∈l
 | [],l',_,_,hl,x,hx=>by
  have:l'=[]:=List.length_eq_zero_iff.1 (by simpa using hl)
  rw [this] at hx
  exact hx
 | a::t,l',hd,hs,hl,x,hx=>by
  obtain ⟨s1,s2,e⟩:=List.append_of_mem (hs a (by simp))
  subst e
  have hd':=List.nodup_cons.1 hd
  have hs' : ∀y,y∈t->y∈s1++s2:=fun y hy=>by
   have q:=hs y (List.mem_cons_of_mem _ hy)
   simp only [List.mem_append,List.mem_cons] at q ⊢
   rcases q with q|q|q
   ·exact .inl q
   ·subst q;exact absurd hy hd'.1
   ·exact .inr q
  have ih:=pigeon t (s1++s2) hd'.2 hs' (by simp at hl ⊢;omega)
  simp only [List.mem_append,List.mem_cons] at hx
  rcases hx with q|q|q
  ·exact List.mem_cons_of_mem _ (ih x (by simp [q]))
  ·simp [q]
  ·exact List.mem_cons_of_mem _ (ih x (by simp [q]))

set_option maxHeartbeats 8000000 in
theorem del2_any (w0 W:World) (a:Option Addr) (c:Nat) (M:Nat->Nat) (T:Nat->Nat->Tn) (A:Array Value) (lo hi:Nat->Nat) (hI:Ioo w0 W a c M T 6 A lo hi) (hV:VI 6 M T) (q:Qd) :
  Calls Tryz.prog 51 #[.pointer (some ⟨w0.heap.size+1,0,none⟩),qv q] W (RetDel w0 W M T q lo hi):=by
 have HRg:Hid (Rng w0 W lo hi):=⟨hI.base,hI.ord,fun p hp=>(hI.xt p hp).top,hI.xb.lt⟩
 have A1:Hid (DD w0 W (W.alloc (.cells #[.int .i64 q.s,.int .i64 q.p,.int .i64 q.o,.int .i64 q.g] 34)) M T q lo hi 0 A):=by
  have hk:=hI.keep (below_alloc W (.cells #[.int .i64 q.s,.int .i64 q.p,.int .i64 q.o,.int .i64 q.g] 34))
  exact ⟨hk.xb,hk.sz,Bx.new _ _ _,(below_alloc _ _).mono (by have:=hI.xb.lt;omega),by simp,fun p _ hp=>hk.xt p hp,fun p hp=>absurd hp (Nat.not_lt_zero _)⟩
 have HVv:Hid (VI 6 M T):=hV
 obtain ⟨t0,ht0,hl0,hg0⟩:=hV.2.1 0 (by omega)
 obtain ⟨L0,hL0⟩:∃L0,L0=(keysR 21 t0).map (quadOf 0):=⟨_,rfl⟩
 have HOk:Hid (DelOk 6 M T q↔q∈L0):=by
  constructor
  ·intro hk
   rw [hL0]
   exact hk.2 t0 ht0
  ·intro hk
   refine ⟨HVv.out,fun t ht=>?_⟩
   have e:=vtt1 ht ht0
   subst e
   rw [hL0] at hk
   exact hk
 have HGd:Hid (q∈L0->quadB q=true):=by
  intro hm
  rw [hL0] at hm
  obtain ⟨k,hk,e⟩:=List.mem_map.1 hm
  rw [<- e]
  exact (hg0 k hk).2
 have HIn:Hid (∀p,p<6->∀t,VTt (M p) (T p) t->quadB q=true->q∈L0->keyOf p q∈keysR 21 t):=by
  intro p hp t ht hq hm
  obtain ⟨t2,ht2,hl2,hg2⟩:=HVv.out.2.1 p hp
  have e:=vtt1 ht2 ht
  subst e
  have hm2:q∈(keysR 21 t2).map (quadOf p):=by
   by_cases e:p=0
   ·subst e
    have e:=vtt1 ht2 ht0
    subst e
    rw [<- hL0]
    exact hm
   ·obtain ⟨s1,s2⟩:=HVv.out.2.2 p (by omega) hp t2 t0 ht2 ht0
    refine pigeon _ L0 (quads_nodup hp (asc_of_ascK ht2.2.2.2.2.1) (fun k hk=>(hg2 k hk).1)) (fun x hx=>?_) (by rw [hL0,List.length_map,List.length_map];omega) q hm
    obtain ⟨k,hk,e⟩:=List.mem_map.1 hx
    rw [hL0,<- e]
    exact s2 k hk
  obtain ⟨k,hk,e⟩:=List.mem_map.1 hm2
  have:=quadOf_inj (perm:=p) hp (hg2 k hk).1 (keyOf_size p q) (by rw [keyOf_quad hp hq];exact e)
  rw [<- this]
  exact hk
 have HNo:Hid (quadB q=true->keyOf 0 q∈keysR 21 t0->q∈L0):=by
  intro hq hm
  rw [hL0]
  exact List.mem_map.2 ⟨_,hm,keyOf_quad (by omega) hq⟩
 have HT0:Hid (VTt (M 0) (T 0) t0):=ht0
 have HIq:Hid (∀W:World,Calls Tryz.prog 81 #[.agg #[.int .i64 q.s,.int .i64 q.p,.int .i64 q.o,.int .i64 q.g]] W fun e w'=>e=.returned (.bool (quadB q))/\Below W.heap.size W w'):=fun W=>isQuad_any q W
 clear hI hV ht0 hl0 hg0 hL0
 unfold qv
 obtain ⟨y0,y1,y2,y3⟩:(W.alloc (.cells #[.int .i64 q.s,.int .i64 q.p,.int .i64 q.o,.int .i64 q.g] 34)).cell? ⟨W.heap.size,0,none⟩=some (.int .i64 q.s)/\(W.alloc (.cells #[.int .i64 q.s,.int .i64 q.p,.int .i64 q.o,.int .i64 q.g] 34)).cell? ⟨W.heap.size,1,none⟩=some (.int .i64 q.p)/\(W.alloc (.cells #[.int .i64 q.s,.int .i64 q.p,.int .i64 q.o,.int .i64 q.g] 34)).cell? ⟨W.heap.size,2,none⟩=some (.int .i64 q.o)/\(W.alloc (.cells #[.int .i64 q.s,.int .i64 q.p,.int .i64 q.o,.int .i64 q.g] 34)).cell? ⟨W.heap.size,3,none⟩=some (.int .i64 q.g):=⟨A1.out.qb.cell 0,A1.out.qb.cell 1,A1.out.qb.cell 2,A1.out.qb.cell 3⟩
 go_enter Tryz.func51,Tryz.ntmps51
 go_wp2_with fail
 (with_reducible refine (HIq.out _).mono ?_)
 rintro e w1 ⟨rfl,hb1⟩
 have A2:Hid (DD w0 W w1 M T q lo hi 0 A):=A1.out.keep hb1
 clear hb1 y0 y1 y2 y3 HIq A1
 cases hgq:quadB q with
 | false=>
  have HNO:Hid (¬ DelOk 6 M T q):=fun hk=>by
   have:=HGd.out (HOk.out.1 hk)
   rw [hgq] at this
   cases this
  go_wp2
  go_ret
  exact ⟨A2.out.bel,.inl ⟨rfl,HNO.out⟩⟩
 | true=>
 go_wp2
 go_loopw [5,6,10] (fun _ _ i wr=>∃(j:Nat) (A:Array Value),j<=6/\i=.int .i64 j/\DD w0 W wr M T q lo hi j A) (fun _ _ i _=>6-(intOf i).toNat)
 case atStart=>exact ⟨0,A,Nat.zero_le _,rfl,A2.out⟩
 case round=>
  obtain ⟨j,A',hj,rfl,hAD⟩:=hrel
  have j0:(0:Int)<=(j:Int):=by omega
  clear A2
  by_cases hlt:j<6
  ·have j1:(j:Int)<6:=by omega
   have HA:Hid (DD w0 W wr M T q lo hi j A'):=hAD
   obtain ⟨x0,t,t',hh0,v,hvt,k1,k2,htl,k3,⟨bs,hnd,how,hbh,_⟩,x7⟩:=hAD.old j (Nat.le_refl _) hlt
   have c0:=hAD.xb.cell (j*2)
   have c1:=hAD.xb.cell (j*2+1)
   rw [x0] at c0
   rw [x7] at c1
   have y0:=hAD.qb.cell 0
   have y1:=hAD.qb.cell 1
   have y2:=hAD.qb.cell 2
   have y3:=hAD.qb.cell 3
   simp at y0 y1 y2 y3
   have hsm:=smR_of htl hvt.2.2.2.2.2
   have HOw:Hid (TOw (lo j) wr 21 t' v bs/\bs.Nodup/\(∀x,x∈bs->x<hi j)/\lo j<=wr.heap.size):=⟨hsm.tow how,hnd,hbh,by obtain ⟨b,hbm,hbw,_⟩:=(hsm.tow how).tat.count;have:=(how.lt b hbm).1;omega⟩
   have HVT:Hid (VTt (M j) (T j) t'):=hvt
   obtain ⟨g1,g2,g3,⟨hh,g4⟩,g5,g6⟩:=hvt
   have hend:=nestR_end g3
   have HF:Hid (nodesR 21 t'<=5000/\BalR 21 true t' hh/\Asc (keysR 21 t')):=⟨by omega,g4,asc_of_ascK g5⟩
   obtain ⟨key,hkey⟩:∃key,key=keyOf j q:=⟨_,rfl⟩
   have HKy:Hid (key=keyOf j q):=hkey
   have HKey:Hid (Calls Tryz.prog 83 #[.func (.func (layF j)) #[] #[],.agg #[.int .i64 q.s,.int .i64 q.p,.int .i64 q.o,.int .i64 q.g]] wr.drew fun e w'=>e=.returned (.string key)/\Below wr.drew.heap.size wr.drew w'):=by
    rw [hkey]
    exact key_any j hlt q (fun i hi=>⟨by have:=(part_pos hlt hgq i hi).1;omega,(part_pos hlt hgq i hi).2⟩) wr.drew
   have HIns:Hid (∀w1:World,Below wr.heap.size wr w1->CallR v key w1 (RetR key 21 t' v bs w1)):=fun w1 h=>remO key 21 t' v bs true hh (lo j) w1 (HOw.out.1.below h) HOw.out.2.1 HF.out.2.1 HF.out.2.2 HF.out.1
   obtain ⟨nb,hvf⟩:∃nb,v=.iface 204 (.pointer (some ⟨nb,0,none⟩))\/v=.iface 174 (.pointer (some ⟨nb,0,none⟩)):=by
    obtain ⟨nb,_,_,_,hv⟩:=(HOw.out.1.tat).count
    exact ⟨nb,hv⟩
   have Ax7:Hid (A'[j*2+1]?=some v):=x7
   clear k1 k2 k3 htl how hnd hbh hsm hend g1 g2 g3 g4 g5 g6 x0 x7 hkey hAD t hh0
   rcases hvf with rfl|rfl
   ·have HI2:Hid (∀w1:World,Below wr.heap.size wr w1->Calls Tryz.prog 207 #[.pointer (some ⟨nb,0,none⟩),.string key] w1 fun e w'=>∃bq,e=.returned (.bool bq)/\RetRb key t' (.iface 204 (.pointer (some ⟨nb,0,none⟩))) bs w1 bq w'):=fun w1 h=>by
     rcases HIns.out w1 h with ⟨kb,e,hc⟩|⟨kb,e,hc⟩
     all_goals first
      | exact absurd (ifq e).1 (by decide)
      | (
       have e2:=(ifq e).2
       injection e2 with e2
       subst e2
       exact hc.mono fun e w' h=>h.b)
    clear HIns
    go_wp2
    go_cut [30] from 17 to 30 (fun s30 wx=>∃bq w1,s30=.bool (!bq)/\Below wr.heap.size wr w1/\RetRb key t' (.iface 204 (.pointer (some ⟨nb,0,none⟩))) bs w1 bq wx)
    case first=>
     go_region_with (first
      | (go_at_call 83;(with_reducible refine HKey.out.mono ?_);rintro e w1 ⟨rfl,hb1⟩;have HB1:Hid (Below wr.heap.size wr w1):=below_undrew hb1;have d0:=(HB1.out.cell (World.block_lt_of_cell? _ _ c0)).trans c0;have d1:=(HB1.out.cell (World.block_lt_of_cell? _ _ c1)).trans c1;clear hb1)
      | (go_at_call 207;(with_reducible refine (HI2.out _ HB1.out).mono ?_);rintro e w5 ⟨bq,rfl,hr5⟩;have HR5:Hid (RetRb key t' (.iface 204 (.pointer (some ⟨nb,0,none⟩))) bs w1 bq w5):=hr5;clear hr5))
     all_goals
      go_wp2
      go_meet
      case rel=>exact ⟨bq,w1,rfl,HB1.out,HR5.out⟩
    case rest=>
    obtain ⟨w5,rfl⟩:∃x,x=wc:=⟨_,rfl⟩
    obtain ⟨bq,w1,rfl,hb1,hr5⟩:=hcut
    have HA1:Hid (DD w0 W w1 M T q lo hi j A'):=HA.out.keep hb1
    have HO1:Hid (TOw (lo j) w1 21 t' (.iface 204 (.pointer (some ⟨nb,0,none⟩))) bs):=HOw.out.1.below hb1
    clear c0 c1 y0 y1 y2 y3 HKey HI2 hb1
    rcases hr5 with ⟨rfl,hm,hb5⟩|⟨rfl,hm,hf5,u,b,hbm,hu,hnd⟩
    ·have HNO:Hid (¬ DelOk 6 M T q/\Below (w0.heap.size+1) W w5):=⟨fun hk=>hm (by rw [HKy.out];exact HIn.out j hlt t' HVT.out hgq (HOk.out.1 hk)),HA1.out.bel.trans (hb5.mono (by have:=HA1.out.xb.lt;omega))⟩
     clear hm hb5
     go_wp2
     go_ret
     exact ⟨HNO.out.2,.inl ⟨rfl,HNO.out.1⟩⟩
    ·have hbl:=HO1.out.lt b hbm
     have hz5:=hf5.2.2.2.1
     have bx5:Bx w5 (w0.heap.size+1) 109 A':=(hf5.2.2.2.2 _ HA1.out.xb.lt (fun q=>by have:=(HO1.out.lt _ q).1;have:=HRg.out.1 j hlt;omega)).trans HA1.out.xb
     have c5:=bx5.cell (j*2+1)
     rw [Ax7.out] at c5
     have HGr:Hid (Calls Tryz.prog 89 #[.iface 204 (.pointer (some ⟨nb,0,none⟩))] w5 (RetL2 u w5 b (fun x=>((x∈bs/\x≠b)\/w1.heap.size<=x)/\x<w5.heap.size))):=lowered2_any u _ b hh (fun x=>((x∈bs/\x≠b)\/w1.heap.size<=x)/\x<w5.heap.size) w5 (NdI.keep (Nat.le_refl _) rfl (fun x hx hl=>⟨⟨hx,hl⟩,rfl⟩) hnd) (fun q=>by rcases q.1 with q|q;exact q.2 rfl;omega) (fun x hx=>hx.2) (by omega) (DelR.bal HF.out.2.1 HF.out.2.2 hu).1
     have HNin:Hid (key∈keysR 21 t'/\Frs bs w1 w5/\b∈bs/\DelR key 21 t' u/\nodesR 21 u<=5000):=⟨hm,hf5,hbm,hu,by have:=DelR.nodes HF.out.2.1 HF.out.2.2 hu;have:=HF.out.1;omega⟩
     clear hnd hu hm hf5 hbl hbm bx5
     go_wp2_with fail
     (with_reducible refine HGr.out.mono ?_)
     rintro e w6 ⟨hw6,D,y,v',S,h3,rfl,hta,hS3,hby,hn6,htM⟩
     subst w6
     have HSt:Hid (Bx w5 (w0.heap.size+1) 109 A'/\DD w0 W (w5.setCell ⟨w0.heap.size+1,j*2+1,none⟩ v') M T q lo hi (j+1) (A'.setIfInBounds (j*2+1) v')):=by
      refine HA1.out.step hlt HRg.out (fun x hx=>(HO1.out.lt x hx).1) HOw.out.2.2.1 HNin.out.2.1 HNin.out.2.2.1 (fun x hx=>hx) HVT.out (by rw [<- HKy.out];exact HNin.out.1) hta hS3 hby (by rw [<- HKy.out];exact HNin.out.2.2.2.1) (by have:=HNin.out.2.2.2.2;omega) htM
     obtain ⟨ty,pv,hvf⟩:∃ty pv,v'=.iface ty pv:=by
      obtain ⟨bb,_,_,_,q⟩:=hta.count
      rcases q with q|q <;> exact ⟨_,_,q⟩
     subst hvf
     have c6:=HSt.out.1.cell (j*2+1)
     rw [Ax7.out] at c6
     have f6:=HSt.out.1.frozen (j*2+1)
     have l6:=HSt.out.1.lt
     clear hta hS3 hby hn6 htM HGr c5
     go_wp2
     go_roundw
     case rel=>exact ⟨j+1,_,by omega,by go_num,HSt.out.2⟩
     case measure=>simp [intOf];omega
   ·have HI2:Hid (∀w1:World,Below wr.heap.size wr w1->Calls Tryz.prog 190 #[.pointer (some ⟨nb,0,none⟩),.string key] w1 fun e w'=>∃bq,e=.returned (.bool bq)/\RetRb key t' (.iface 174 (.pointer (some ⟨nb,0,none⟩))) bs w1 bq w'):=fun w1 h=>by
     rcases HIns.out w1 h with ⟨kb,e,hc⟩|⟨kb,e,hc⟩
     all_goals first
      | exact absurd (ifq e).1 (by decide)
      | (
       have e2:=(ifq e).2
       injection e2 with e2
       subst e2
       exact hc.mono fun e w' h=>h.b)
    clear HIns
    go_wp2
    go_cut [30] from 17 to 30 (fun s30 wx=>∃bq w1,s30=.bool (!bq)/\Below wr.heap.size wr w1/\RetRb key t' (.iface 174 (.pointer (some ⟨nb,0,none⟩))) bs w1 bq wx)
    case first=>
     go_region_with (first
      | (go_at_call 83;(with_reducible refine HKey.out.mono ?_);rintro e w1 ⟨rfl,hb1⟩;have HB1:Hid (Below wr.heap.size wr w1):=below_undrew hb1;have d0:=(HB1.out.cell (World.block_lt_of_cell? _ _ c0)).trans c0;have d1:=(HB1.out.cell (World.block_lt_of_cell? _ _ c1)).trans c1;clear hb1)
      | (go_at_call 190;(with_reducible refine (HI2.out _ HB1.out).mono ?_);rintro e w5 ⟨bq,rfl,hr5⟩;have HR5:Hid (RetRb key t' (.iface 174 (.pointer (some ⟨nb,0,none⟩))) bs w1 bq w5):=hr5;clear hr5))
     all_goals
      go_wp2
      go_meet
      case rel=>exact ⟨bq,w1,rfl,HB1.out,HR5.out⟩
    case rest=>
    obtain ⟨w5,rfl⟩:∃x,x=wc:=⟨_,rfl⟩
    obtain ⟨bq,w1,rfl,hb1,hr5⟩:=hcut
    have HA1:Hid (DD w0 W w1 M T q lo hi j A'):=HA.out.keep hb1
    have HO1:Hid (TOw (lo j) w1 21 t' (.iface 174 (.pointer (some ⟨nb,0,none⟩))) bs):=HOw.out.1.below hb1
    clear c0 c1 y0 y1 y2 y3 HKey HI2 hb1
    rcases hr5 with ⟨rfl,hm,hb5⟩|⟨rfl,hm,hf5,u,b,hbm,hu,hnd⟩
    ·have HNO:Hid (¬ DelOk 6 M T q/\Below (w0.heap.size+1) W w5):=⟨fun hk=>hm (by rw [HKy.out];exact HIn.out j hlt t' HVT.out hgq (HOk.out.1 hk)),HA1.out.bel.trans (hb5.mono (by have:=HA1.out.xb.lt;omega))⟩
     clear hm hb5
     go_wp2
     go_ret
     exact ⟨HNO.out.2,.inl ⟨rfl,HNO.out.1⟩⟩
    ·have hbl:=HO1.out.lt b hbm
     have hz5:=hf5.2.2.2.1
     have bx5:Bx w5 (w0.heap.size+1) 109 A':=(hf5.2.2.2.2 _ HA1.out.xb.lt (fun q=>by have:=(HO1.out.lt _ q).1;have:=HRg.out.1 j hlt;omega)).trans HA1.out.xb
     have c5:=bx5.cell (j*2+1)
     rw [Ax7.out] at c5
     have HGr:Hid (Calls Tryz.prog 89 #[.iface 174 (.pointer (some ⟨nb,0,none⟩))] w5 (RetL2 u w5 b (fun x=>((x∈bs/\x≠b)\/w1.heap.size<=x)/\x<w5.heap.size))):=lowered2_any u _ b hh (fun x=>((x∈bs/\x≠b)\/w1.heap.size<=x)/\x<w5.heap.size) w5 (NdI.keep (Nat.le_refl _) rfl (fun x hx hl=>⟨⟨hx,hl⟩,rfl⟩) hnd) (fun q=>by rcases q.1 with q|q;exact q.2 rfl;omega) (fun x hx=>hx.2) (by omega) (DelR.bal HF.out.2.1 HF.out.2.2 hu).1
     have HNin:Hid (key∈keysR 21 t'/\Frs bs w1 w5/\b∈bs/\DelR key 21 t' u/\nodesR 21 u<=5000):=⟨hm,hf5,hbm,hu,by have:=DelR.nodes HF.out.2.1 HF.out.2.2 hu;have:=HF.out.1;omega⟩
     clear hnd hu hm hf5 hbl hbm bx5
     go_wp2_with fail
     (with_reducible refine HGr.out.mono ?_)
     rintro e w6 ⟨hw6,D,y,v',S,h3,rfl,hta,hS3,hby,hn6,htM⟩
     subst w6
     have HSt:Hid (Bx w5 (w0.heap.size+1) 109 A'/\DD w0 W (w5.setCell ⟨w0.heap.size+1,j*2+1,none⟩ v') M T q lo hi (j+1) (A'.setIfInBounds (j*2+1) v')):=by
      refine HA1.out.step hlt HRg.out (fun x hx=>(HO1.out.lt x hx).1) HOw.out.2.2.1 HNin.out.2.1 HNin.out.2.2.1 (fun x hx=>hx) HVT.out (by rw [<- HKy.out];exact HNin.out.1) hta hS3 hby (by rw [<- HKy.out];exact HNin.out.2.2.2.1) (by have:=HNin.out.2.2.2.2;omega) htM
     obtain ⟨ty,pv,hvf⟩:∃ty pv,v'=.iface ty pv:=by
      obtain ⟨bb,_,_,_,q⟩:=hta.count
      rcases q with q|q <;> exact ⟨_,_,q⟩
     subst hvf
     have c6:=HSt.out.1.cell (j*2+1)
     rw [Ax7.out] at c6
     have f6:=HSt.out.1.frozen (j*2+1)
     have l6:=HSt.out.1.lt
     clear hta hS3 hby hn6 htM HGr c5
     go_wp2
     go_roundw
     case rel=>exact ⟨j+1,_,by omega,by go_num,HSt.out.2⟩
     case measure=>simp [intOf];omega
  ·obtain rfl:j=6:=by omega
   have j1:¬ ((6:Nat):Int)<6:=by omega
   have HYes:Hid (RetDel w0 W M T q lo hi (.returned (.bool true)) wr):=by
    obtain ⟨_,t',D,y,v',S,hh,rs,x1,x2,_⟩:=hAD.new 0 (by omega)
    have e:=vtt1 x1 HT0.out
    subst e
    exact ⟨hAD.bel,.inr ⟨rfl,HOk.out.2 (HNo.out hgq x2),A',hAD.xb,hAD.new⟩⟩
   clear hAD
   go_wp2
   go_ret
   exact HYes.out
end Go.Proofs.YtcnollkkigiobaaGreat
