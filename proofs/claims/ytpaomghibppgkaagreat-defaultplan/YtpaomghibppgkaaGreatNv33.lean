import Derived.Test.YtpaomghibppgkaaGreatNv32
import Derived.Test.YtpaomghibppgkaaGreatNv31
import Derived.Test.YtpaomghibppgkaaGreatNv28
import Derived.Test.YtpaomghibppgkaaGreatNv30
import Derived.Laws.BytesString
import Derived.Maps.Own
import Derived.MapKept
import Derived.Test.YtpaomghibppgkaaGreatNv18
set_option linter.unusedVariables false
set_option maxRecDepth 100000
namespace Go.Proofs.YtpaomghibppgkaaGreat
open Go.RowKit Go.Deep

theorem RdS.cellOf {w:World} {a:Option Addr} {n:Nat} {X:Nat->ByteArray} (h:RdS w a n X) (i:Nat) (hi:i<n):∃b o,a=some ⟨b,o,none⟩/\w.cell? ⟨b,o+i,none⟩=some (.string (X i)):=by
 rcases h with q|⟨b,o,rfl,hc⟩
 ·omega
 ·exact ⟨b,o,rfl,hc i hi⟩
theorem gt_in {L:List ByteArray} {i:Nat} (h:i<L.length):gt L i=L[i]:=by
 unfold gt
 rw [List.getD_eq_getElem?_getD,List.getElem?_eq_getElem h]
 rfl

def Ex1 (b:Nat) (w w' : World):Prop:=w'.os=w.os/\w'.tape=w.tape/\w'.output=w.output/\w.heap.size<=w'.heap.size/\∀k,k<w.heap.size->k≠b->w'.heap[k]?=w.heap[k]?
theorem Ex1.refl (b:Nat) (w:World):Ex1 b w w:=⟨rfl,rfl,rfl,Nat.le_refl _,fun _ _ _=>rfl⟩
theorem Ex1.below {b:Nat} {w w1 w2:World} (h:Ex1 b w w1) (hb:Below w1.heap.size w1 w2):Ex1 b w w2:=⟨hb.os.trans h.1,hb.tape.trans h.2.1,hb.output.trans h.2.2.1,Nat.le_trans h.2.2.2.1 hb.size,fun k hk hn=>(hb.block k (Nat.lt_of_lt_of_le hk h.2.2.2.1)).trans (h.2.2.2.2 k hk hn)⟩
theorem Ex1.grown {b:Nat} {w w1 w2:World} {r:Option Nat} (h:Ex1 b w w1) (hg:w1.grownBy w2 r) (hr:∀g,r=some g->g=b\/w.heap.size<=g):Ex1 b w w2:=⟨hg.os.trans h.1,hg.tape.trans h.2.1,hg.output.trans h.2.2.1,Nat.le_trans h.2.2.2.1 hg.size,fun k hk hn=>(hg.block k (Nat.lt_of_lt_of_le hk h.2.2.2.1) (fun e=>by rcases hr k e.symm with q|q <;> omega)).trans (h.2.2.2.2 k hk hn)⟩
theorem Ex1.bel {b B:Nat} {w w' : World} (h:Ex1 b w w') (hB:B<=w.heap.size) (hb:B<=b):Below B w w':=⟨h.1,h.2.1,h.2.2.1,h.2.2.2.1,fun k hk=>h.2.2.2.2 k (by omega) (by omega)⟩
theorem RdS.ex1 {b:Nat} {w w' : World} {a:Option Addr} {n:Nat} {X:Nat->ByteArray} (h:RdS w a n X) (he:Ex1 b w w') (hne:∀g o,a=some ⟨g,o,none⟩->g≠b):RdS w' a n X:=by
 rcases h with q|⟨g,o,rfl,hc⟩
 ·exact .inl q
 ·refine .inr ⟨g,o,rfl,fun i hi=>?_⟩
  have hl:=World.block_lt_of_cell? _ _ (hc i hi)
  rw [World.cell?_of_block (a:=⟨g,o+i,none⟩) (he.2.2.2.2 g hl (hne g o rfl))]
  exact hc i hi

set_option maxHeartbeats 4000000 in
theorem l5Quads_any (perm:Nat) (hp:perm<6) (a:Option Addr) (n c:Nat) (N:Nat->Tn) (t:Ro 21) (w:World) (h:RdTn w a n N) (hv:VTt n N t) (hf:∀i,i<n->TnFit (N i)) (hk:∀k,k∈keysR 21 t->k.size=16) (hl:(keysR 21 t).length<=300) (L:List Qd) (hL:L=(keysR 21 t).map (quadOf perm)) :
  Calls Tryz.prog 28 #[.agg #[.slice a n c],.int .i64 (perm:Int)] w fun e w'=>∃a' c',e=.returned (.slice a' L.length c')/\RdQ w' a' L/\Below w.heap.size w w':=by
 have hn5:=hv.2.1
 have hend:=nestR_end hv.2.2.1
 have HR:Hid (RdTn w a n N/\VTt n N t/\(∀i,i<n->TnFit (N i))/\(∀k,k∈keysR 21 t->k.size=16)/\L=(keysR 21 t).map (quadOf perm)/\nodesR 21 t<=5000/\perm<6):=⟨h,hv,hf,hk,hL,by omega,hp⟩
 have HB0:Hid (∀O1 O2:Obj,Below w.heap.size w ((w.alloc O1).alloc O2)):=fun _ _=>(below_alloc _ _).alloc (by simp) _
 have HOf:Hid (∀W,Below w.heap.size w W->Calls Tryz.prog 50 #[.agg #[.slice a n c]] W (RetOf W n N)):=fun W hW=>of_any a n c N W (h.below hW) (by omega) hf
 obtain ⟨i0,hi0,hz0,hz1,hz2⟩:=info_parts Tryz.info122
 have HI:Hid (Tryz.prog.info? 122=some i0/\i0.zero=some (.agg #[.int .i64 0,.int .i64 0,.int .i64 0,.int .i64 0])/\i0.size=4/\i0.bytes=32):=⟨hi0,hz0,hz1,hz2⟩
 clear h hv hf hk hL hp hend hi0 hz0 hz1 hz2
 go_enter Tryz.func28,Tryz.ntmps28
 go_wp2_with fail
 (with_reducible refine (HOf.out _ (HB0.out _ _)).mono ?_)
 rintro e w1 ⟨hb1,lf,ka,kn,kc,ca,cn,cc,ok,rfl,hr⟩
 have HO1:Hid (w1.ownsRow (w.heap.size+1) 122 4 (.slice (some ⟨w.heap.size+1,0,none⟩) 0 0) 0 []/\Below w.heap.size w w1):=by
  have q:=own_empty (w.alloc (.cells #[.slice a n c] 68)) 122 (w.heap.size+1) 4 (by simp)
  rw [World.size_alloc] at q
  exact ⟨own_below q hb1,(HB0.out _ _).trans (hb1.mono (by simp;omega))⟩
 rcases hr with ⟨rfl,hno,_⟩|⟨rfl,t',hv',hna⟩
 ·exact absurd ⟨t,HR.out.2.1⟩ hno
 have et:t'=t:=by
  have q:=hv'.2.2.1
  rw [HR.out.2.1.2.2.1] at q
  injection q with q
  injection q with q _
  exact q.symm
 subst et
 have HNA:Hid (NA w1 21 t' (.agg #[.bool lf,.slice ka kn kc,.slice ca cn cc])):=hna
 have HKeys:Hid (∀W,Below w1.heap.size w1 W->Calls Tryz.prog 51 #[.agg #[.bool lf,.slice ka kn kc,.slice ca cn cc]] W (RetStrs W (keysR 21 t'))):=fun W hW=>keys_any 21 t' _ W (HNA.out.below hW) HR.out.2.2.2.2.2.1 (by omega)
 have hz1:w.heap.size+2<=w1.heap.size:=by have:=hb1.size;simpa using this
 clear hna hb1 hv' HOf HB0
 go_wp2_with fail
 (with_reducible refine (HKeys.out _ (below_alloc _ _)).mono ?_)
 rintro e w3 ⟨a3,c3,rfl,ho3,hb3,_,_⟩
 have hb13:Below w1.heap.size w1 w3:=(below_alloc _ _).trans (hb3.mono (by simp))
 obtain ⟨kl,hkl⟩:∃kl,kl=(keysR 21 t').length:=⟨_,rfl⟩
 have HKL:Hid (kl=(keysR 21 t').length):=hkl
 have S3:Hid ((kl≠0->∃g,a3=some ⟨g,0,none⟩/\g≠w.heap.size+1)/\RdS w3 a3 kl (gt (keysR 21 t'))/\w3.ownsRow (w.heap.size+1) 122 4 (.slice (some ⟨w.heap.size+1,0,none⟩) 0 0) 0 []/\Below w.heap.size w w3/\w.heap.size+1<=w3.heap.size):=by
  have q:=HO1.out.2.trans (hb13.mono HO1.out.2.size)
  have qs:=hb13.size
  refine ⟨fun h0=>?_,by rw [hkl];exact ho3.rd,own_below HO1.out.1 hb13,q,by omega⟩
  rcases ho3 with h' | ⟨g,e,hg,_⟩
  ·omega
  ·exact ⟨g,e,by simp at hg;omega⟩
 rw [<- hkl] at hl ⊢
 clear hkl ho3 hb3 hb13 HO1 HKeys HNA
 go_wp2
 go_loopw [5,9] (fun out i wr=>∃(k:Nat) (R:List Qd),k<=kl/\i=.int .i64 k/\R=((keysR 21 t').take k).map (quadOf perm)/\wr.ownsRow (w.heap.size+1) 122 4 out R.length (quadL R)/\Ex1 (w.heap.size+1) w3 wr/\(∀g,out.ownBlock=some g->g=w.heap.size+1\/w3.heap.size<=g)) (fun _ i _=>kl-(intOf i).toNat)
 case atStart=>exact ⟨0,[],Nat.zero_le _,rfl,rfl,S3.out.2.2.1,Ex1.refl _ _,fun g e=>.inl (by simp [Value.ownBlock] at e;omega)⟩
 case round=>
  obtain ⟨k,R,hk,rfl,hR,hown,hex,hblk⟩:=hrel
  obtain ⟨ar,cr,er,_⟩:=own_form hown
  subst er
  have hRl:R.length=k:=by rw [hR,List.length_map,List.length_take,<- HKL.out];omega
  have HQ:Hid (wr.ownsRow (w.heap.size+1) 122 4 (.slice ar R.length cr) R.length (quadL R)/\Ex1 (w.heap.size+1) w3 wr/\R=((keysR 21 t').take k).map (quadOf perm)/\(∀g,(Value.slice ar R.length cr).ownBlock=some g->g=w.heap.size+1\/w3.heap.size<=g)/\R.length=k):=⟨hown,hex,hR,hblk,hRl⟩
  clear hown hex hR hblk hRl
  obtain ⟨rl,hrl⟩:∃rl,rl=R.length:=⟨_,rfl⟩
  have HRl:Hid (rl=R.length):=hrl
  have hrlk:rl=k:=hrl.trans HQ.out.2.2.2.2
  have hrlk1:rl<=k:=by omega
  rw [<- hrl] at HQ ⊢
  clear hrl
  have k0:(0:Int)<=(k:Int):=by omega
  by_cases hlt:k<kl
  ·have k1:(k:Int)<(kl:Int):=by omega
   have hkK:k<(keysR 21 t').length:=by rw [<- HKL.out];exact hlt
   obtain ⟨gk,ea,hgne⟩:=S3.out.1 (by omega)
   have hrd:RdS wr a3 kl (gt (keysR 21 t')):=S3.out.2.1.ex1 HQ.out.2.1 (fun g o e=>by
    rw [ea] at e
    injection e with e
    injection e with e
    omega)
   obtain ⟨bb,oo,ea2,s1⟩:=hrd.cellOf k hlt
   obtain ⟨key,hkey⟩:∃key,key=gt (keysR 21 t') k:=⟨_,rfl⟩
   rw [<- hkey] at s1
   have HKy:Hid (key=(keysR 21 t')[k]/\key.size=16):=by
    have e:key=(keysR 21 t')[k]:=by rw [hkey,gt_in hkK]
    exact ⟨e,by rw [e];exact HR.out.2.2.2.1 _ (List.getElem_mem hkK)⟩
   have HQd:Hid (Calls Tryz.prog 53 #[.string key,.int .i64 (perm:Int)] wr fun e w'=>e=.returned (qv (quadOf perm key))/\Below wr.heap.size wr w'):=l5Quad_any perm HR.out.2.2.2.2.2.2 key HKy.out.2 wr
   clear hkey hrd ea hrlk
   subst ea2
   go_wp2_with fail
   (with_reducible refine HQd.out.mono ?_)
   rintro e w5 ⟨rfl,hb5⟩
   obtain ⟨qd,hqd⟩:∃qd,qd=quadOf perm key:=⟨_,rfl⟩
   have HQq:Hid (qd=quadOf perm key):=hqd
   rw [<- hqd]
   unfold qv
   have HO5:Hid ((w5.alloc (.cells #[.int .i64 qd.s,.int .i64 qd.p,.int .i64 qd.o,.int .i64 qd.g] 122)).ownsRow (w.heap.size+1) 122 4 (.slice ar rl cr) rl (quadL R)/\Ex1 (w.heap.size+1) w3 (w5.alloc (.cells #[.int .i64 qd.s,.int .i64 qd.p,.int .i64 qd.o,.int .i64 qd.g] 122))/\(∀j u,(quadL [qd])[j]?=some u->(w5.alloc (.cells #[.int .i64 qd.s,.int .i64 qd.p,.int .i64 qd.o,.int .i64 qd.g] 122)).cell? ⟨w5.heap.size,j,none⟩=some u)):=by
    refine ⟨own_below (own_below HQ.out.1 hb5) (below_alloc _ _),(HQ.out.2.1.below hb5).below (below_alloc _ _),fun j u hj=>?_⟩
    rw [(Bx.new w5 #[.int .i64 qd.s,.int .i64 qd.p,.int .i64 qd.o,.int .i64 qd.g] 122).cell j]
    simpa [quadL] using hj
   have hz5:=hb5.size
   have hzr:=HQ.out.2.1.2.2.2.1
   have hz3:=S3.out.2.2.2.2
   clear hb5 hqd HQd
   go_wp2_with (at_builtin;refine wpList_append_own_at _ rfl _ _ 64 rfl (w.heap.size+1) 122 i0 _ 4 32 Tryz.underlying64 HI.out.1 HI.out.2.1 HI.out.2.2.1 HI.out.2.2.2 rfl (by decide) (.slice ar rl cr) rl (quadL R) rfl HO5.out.1 ⟨w5.heap.size,0,none⟩ 1 1 (quadL [qd]) rfl rfl (fun j u hj=>by rw [Addr.add_lit,Nat.zero_add];exact HO5.out.2.2 j u hj) (by intro u hu;simp [quadL] at hu;rcases hu with rfl|rfl|rfl|rfl <;> rfl) (by unfold maxLen;omega) (by omega) (by simp;omega) ?_)
   intro v7 w7 ho7 hg7 _ hat7
   have H7:Hid (w7.ownsRow (w.heap.size+1) 122 4 v7 (R++[qd]).length (quadL (R++[qd]))/\Ex1 (w.heap.size+1) w3 w7/\(∀g,v7.ownBlock=some g->g=w.heap.size+1\/w3.heap.size<=g)):=by
    refine ⟨by rw [quadL_app,List.length_append,<- HRl.out];exact ho7,HO5.out.2.1.grown hg7 HQ.out.2.2.2.1,fun g e=>?_⟩
    rcases hat7 with q|q
    ·exact HQ.out.2.2.2.1 g (by rw [<- q];exact e)
    ·rw [q] at e
     injection e with e
     exact .inr (by omega)
   have HN:Hid (R++[qd]=((keysR 21 t').take (k+1)).map (quadOf perm)):=by
    show R++[qd]=_
    rw [List.take_add_one,List.getElem?_eq_getElem hkK,List.map_append,<- HQ.out.2.2.1,HQq.out,HKy.out.1]
    rfl
   obtain ⟨a7,c7,e7,_⟩:=own_form ho7
   subst e7
   clear ho7 hg7 hat7 HO5
   go_wp2
   go_roundw
   case rel=>exact ⟨k+1,R++[qd],by omega,by go_num,HN.out,H7.out⟩
   case measure=>simp [intOf];omega
  ·obtain rfl:k=kl:=by omega
   have k1:¬ (k:Int)<(k:Int):=by omega
   have HF:Hid (R=L/\RdQ wr ar L/\Below w.heap.size w wr/\rl=L.length):=by
    have e:R=L:=by rw [HQ.out.2.2.1,HR.out.2.2.2.2.1,HKL.out,List.take_length]
    have ho:=HQ.out.1
    rw [HRl.out] at ho
    refine ⟨e,by rw [<- e];exact own_rdq ho,S3.out.2.2.2.1.trans (HQ.out.2.1.bel S3.out.2.2.2.1.size (by omega)),by rw [<- e];exact HRl.out⟩
   clear hrlk
   go_wp2
   go_ret
   exact ⟨ar,⟨cr,by rw [<- HF.out.2.2.2];rfl⟩,HF.out.2.1,HF.out.2.2.1⟩

theorem offR_take {d:Nat} {l m:List (Ro d)} {k:Nat} (h:l.take k=m.take k):offR d l k=offR d m k:=by
 unfold offR
 rw [h]

theorem prefix_uniq {N:Nat->Tn} {d y:Nat} (hu:∀(t t' : Ro d) (x:Nat),Tells N 0 d t x->Tells N 0 d t' x->t=t') {ts l:List (Ro d)} (ht:∀j (h:j<ts.length),Tells N 0 d ts[j] (y+offR d ts j)) (hl:∀j (h:j<l.length),Tells N 0 d l[j] (y+offR d l j)) (hle:ts.length<=l.length):l.take ts.length=ts:=by
 have key:∀k,k<=ts.length->ts.take k=l.take k:=by
  intro k
  induction k with
  | zero=>intro _;simp
  | succ k ih=>
   intro hk
   have e:=ih (by omega)
   have h1:k<ts.length:=by omega
   have h2:k<l.length:=by omega
   have q1:=ht k h1
   have q2:=hl k h2
   rw [offR_take e] at q1
   have q:=hu _ _ _ q1 q2
   rw [<- List.take_append_getElem h1,<- List.take_append_getElem h2,e,q]
 have:=key ts.length (Nat.le_refl _)
 rw [List.take_length] at this
 exact this.symm

theorem tells_uniq {N:Nat->Tn}:∀{d:Nat} (t t' : Ro d) (x:Nat),Tells N 0 d t x->Tells N 0 d t' x->t=t'
 | 0,t,_,_,_,_=>t.elim
 | d+1,.inl t,.inl t',x,h,g=>by
  have e1:=list_of_ks h.2.1 h.2.2.1
  have e2:=list_of_ks g.2.1 g.2.2.1
  rw [e1,e2]
 | d+1,.inl t,.inr l,x,h,g=>by
  have h1:=h.1
  rw [g.1] at h1
  cases h1
 | d+1,.inr l,.inl t,x,h,g=>by
  have h1:=h.1
  rw [g.1] at h1
  cases h1
 | d+1,.inr l,.inr l',x,h,g=>by
  have e1:l.length=l'.length:=h.2.1.symm.trans g.2.1
  have q:=prefix_uniq (y:=x+1) (fun t t' x=>tells_uniq t t' x) (fun j hj=>h.2.2.2.2.2.2 j hj) (fun j hj=>g.2.2.2.2.2.2 j hj) (by omega)
  rw [e1,List.take_length] at q
  rw [q]

theorem bal_fn {d:Nat} {r:Bool} {t:Ro d} {h h' : Nat} (a:BalR d r t h) (b:BalR d r t h'):h=h':=by
 have h1:=bal_depI a
 have h2:=bal_depI b
 omega

theorem bal_fit:∀{d:Nat} {r:Bool} {t:Ro d} {h:Nat},BalR d r t h->FitR 4 d t
 | 0,_,t,_,_=>t.elim
 | d+1,r,.inl t,h,hb=>hb.2.1
 | d+1,r,.inr l,h,hb=>by
  obtain ⟨_,_,h',_,hall⟩:=hb
  exact fun t ht=>bal_fit (hall t ht)

structure KGood (N:Nat->Tn) (n x:Nat) (dep D:Int) (hk:Bool) (lk:ByteArray) (d:Nat) (ts:List (Ro d)) (Dk:Int) (hkk:Bool) (lkk:ByteArray):Prop where
 le:x+1+(ts.map (nodesR d)).sum<=n
 kd:∀j (h:j<ts.length),(N x).kd j=((x+1+offR d ts j:Nat):Int)
 ks:∀j (h:j+1<ts.length),(N x).ks j=gt (keysR d ts[j+1]) 0
 tl:∀j (h:j<ts.length),Tells N 0 d ts[j] (x+1+offR d ts j)
 bal:(ts=[]/\Dk=D)\/(ts≠[]/\∃h' : Nat,(∀t,t∈ts->BalR d false t h')/\Dk=dep+1+(h' : Int)/\(D=0\/D=Dk))
 asc:Chain hk lk (ts.flatMap (keysR d)) hkk lkk

theorem offR_app {d:Nat} (ts:List (Ro d)) (t:Ro d) (j:Nat) (h:j<=ts.length):offR d (ts++[t]) j=offR d ts j:=by
 unfold offR
 rw [List.take_append_of_le_length h]

theorem KGood.more {N:Nat->Tn} {n x:Nat} {dep D:Int} {hk:Bool} {lk:ByteArray} {d:Nat} {ts:List (Ro d)} {Dk:Int} {hkk:Bool} {lkk:ByteArray} (hdep:0<=dep) (h:KGood N n x dep D hk lk d ts Dk hkk lkk) {t:Ro d} {D' : Int} {hk' : Bool} {lk' : ByteArray} (g:Good N n (x+1+(ts.map (nodesR d)).sum) (dep+1) Dk hkk lkk d t D' hk' lk')
  (hkd:(N x).kd ts.length=((x+1+(ts.map (nodesR d)).sum:Nat):Int)) (hks:ts.length≠0->(N x).ks (ts.length-1)=gt (keysR d t) 0):KGood N n x dep D hk lk d (ts++[t]) D' hk' lk':=by
 have hall:offR d ts ts.length=(ts.map (nodesR d)).sum:=offR_all d ts
 refine ⟨?_,fun j hj=>?_,fun j hj=>?_,fun j hj=>?_,Or.inr ⟨by simp,?_⟩,?_⟩
 ·have:=g.le
  rw [List.map_append,List.sum_append]
  simp
  omega
 ·rw [List.length_append] at hj
  simp at hj
  rw [offR_app ts t j (by omega)]
  by_cases e:j=ts.length
  ·subst e;rw [hall];exact hkd
  ·exact h.kd j (by omega)
 ·rw [List.length_append] at hj
  simp at hj
  by_cases e:j+1=ts.length
  ·have q:=hks (by omega)
   rw [show ts.length-1=j by omega] at q
   rw [q]
   simp [e]
  ·rw [List.getElem_append_left (by omega)]
   exact h.ks j (by omega)
 ·rw [List.length_append] at hj
  simp at hj
  rw [offR_app ts t j (by omega)]
  by_cases e:j=ts.length
  ·subst e
   rw [hall]
   have q:=g.tl
   simpa using q
  ·rw [List.getElem_append_left (by omega)]
   exact h.tl j (by omega)
 ·obtain ⟨hh,hb,hd'⟩:=g.bal
  have hr:decide (dep+1=0)=false:=decide_eq_false (by omega)
  rw [hr] at hb
  refine ⟨hh,fun t' ht=>?_,hd',?_⟩
  ·rcases List.mem_append.1 ht with ht|ht
   ·rcases h.bal with ⟨e,_⟩|⟨_,h',hb',hd2,_⟩
    ·rw [e] at ht;cases ht
    ·have hdd:=g.dd
     have e:h'=hh:=by omega
     rw [<- e]
     exact hb' t' ht
   ·simp at ht
    subst ht
    exact hb
  ·rcases h.bal with ⟨_,e⟩|⟨_,h',_,hd2,hd3⟩
   ·rw [<- e];exact g.dd
   ·have hdd:=g.dd
    omega
 ·rw [List.flatMap_append]
  refine Chain.app h.asc ?_
  simpa using g.asc

theorem good_inner {N:Nat->Tn} {n x:Nat} {dep D:Int} {hk:Bool} {lk:ByteArray} {d:Nat} {t:Ro (d+1)} {D' : Int} {hk' : Bool} {lk' : ByteArray} (hlf:(N x).lf=false) (h:Good N n x dep D hk lk (d+1) t D' hk' lk') :
  ∃l:List (Ro d),t=.inr l/\l.length=(N x).dn/\2<=l.length/\l.length<=4/\(N x).kn+1=l.length/\(N x).ct=((l.flatMap (keysR d)).length:Int):=by
 rcases t with t|l
 ·have:=h.tl.1
  rw [hlf] at this
  cases this
 ·obtain ⟨q1,q2,q3,q4,q5,q6,q7⟩:=h.tl
  obtain ⟨hh,⟨b1,b2,_⟩,_⟩:=h.bal
  exact ⟨l,rfl,q2.symm,b1,b2,q4,q3⟩

theorem good_prefix {N:Nat->Tn} {n x:Nat} {dep D:Int} {hk:Bool} {lk:ByteArray} {d:Nat} {l:List (Ro d)} {D' : Int} {hk' : Bool} {lk' : ByteArray} (h:Good N n x dep D hk lk (d+1) (.inr l) D' hk' lk') {ts:List (Ro d)} {Dk:Int} {hkk:Bool} {lkk:ByteArray} (g:KGood N n x dep D hk lk d ts Dk hkk lkk) (hle:ts.length<=l.length):l.take ts.length=ts:=by
 obtain ⟨q1,q2,q3,q4,q5,q6,q7⟩:=h.tl
 exact prefix_uniq (y:=x+1) (fun t t' x=>tells_uniq t t' x) g.tl q7 hle

theorem good_next {N:Nat->Tn} {n x:Nat} {dep D:Int} {hk:Bool} {lk:ByteArray} {d:Nat} {l:List (Ro d)} {D' : Int} {hk' : Bool} {lk' : ByteArray} (hdep:0<=dep) (h:Good N n x dep D hk lk (d+1) (.inr l) D' hk' lk') {ts:List (Ro d)} {Dk:Int} {hkk:Bool} {lkk:ByteArray} (g:KGood N n x dep D hk lk d ts Dk hkk lkk) (hlt:ts.length<l.length) :
  (N x).kd ts.length=((x+1+(ts.map (nodesR d)).sum:Nat):Int)/\(ts.length≠0->(N x).ks (ts.length-1)=gt (keysR d l[ts.length]) 0)/\∃h2 l2,Good N n (x+1+(ts.map (nodesR d)).sum) (dep+1) Dk hkk lkk d l[ts.length] D' h2 l2:=by
 have hp:=good_prefix h g (by omega)
 obtain ⟨q1,q2,q3,q4,q5,q6,q7⟩:=h.tl
 have hoff:offR d l ts.length=(ts.map (nodesR d)).sum:=by
  unfold offR
  rw [hp]
 obtain ⟨hh,⟨b1,b2,h',b3,b4⟩,b5⟩:=h.bal
 refine ⟨?_,fun h0=>?_,?_⟩
 ·have:=q5 ts.length hlt
  rw [hoff] at this
  rw [this]
  omega
 ·have:=q6 (ts.length-1) (by omega)
  rw [this]
  simp only [show ts.length-1+1=ts.length by omega]
 ·have hle:=offR_le d l ts.length hlt
  have h3:nodesR (d+1) (.inr l)=1+(l.map (nodesR d)).sum:=rfl
  have hasc:Chain hk lk (l.flatMap (keysR d)) hk' lk':=h.asc
  have e:l=l.take ts.length++(l[ts.length]::l.drop (ts.length+1)):=by
   conv=>lhs;rw [<- List.take_append_drop (ts.length+1) l,<- List.take_append_getElem hlt]
   simp
  rw [e,List.flatMap_append,List.flatMap_cons,hp] at hasc
  obtain ⟨h1,l1,c1,c2⟩:=Chain.split hasc
  obtain ⟨rfl,rfl⟩:=Chain.fn g.asc c1
  obtain ⟨h2,l2,c3,c4⟩:=Chain.split c2
  refine ⟨h2,l2,⟨?_,?_,⟨h',?_,by omega⟩,?_,c3⟩⟩
  ·have:=q7 ts.length hlt
   rw [hoff] at this
   exact this
  ·have:=h.le
   omega
  ·rw [show decide (dep+1=0)=false from decide_eq_false (by omega)]
   exact b4 _ (List.getElem_mem hlt)
  ·rcases g.bal with ⟨_,e2⟩|⟨hne,h2',hb2,hd2,_⟩
   ·rw [e2];exact h.dd
   ·right
    have hl0:0<ts.length:=List.length_pos_iff.2 hne
    have hmem:ts[0]∈l:=by
     have:ts[0]=(l.take ts.length)[0]'(by rw [hp];exact hl0):=by simp only [hp]
     rw [this]
     exact List.mem_of_mem_take (List.getElem_mem _)
    have:=bal_fn (hb2 ts[0] (List.getElem_mem hl0)) (b4 ts[0] hmem)
    omega

theorem flat_congr {S T:Type} (f:S->List ByteArray) (g:T->List ByteArray):∀(l:List S) (m:List T),l.length=m.length->(∀k (h:k<l.length) (h' : k<m.length),f l[k]=g m[k])->l.flatMap f=m.flatMap g
 | [],[],_,_=>rfl
 | [],_::_,h,_=>by simp at h
 | _::_,[],h,_=>by simp at h
 | a::l,b::m,h,hf=>by
  rw [List.flatMap_cons,List.flatMap_cons]
  have h0:=hf 0 (by simp) (by simp)
  simp only [List.getElem_cons_zero] at h0
  rw [h0,flat_congr f g l m (by simpa using h) (fun k hk hk'=>by
   have:=hf (k+1) (by simpa using hk) (by simpa using hk')
   simpa using this)]

theorem off_congr {d d' : Nat} {l:List (Ro d)} {m:List (Ro d')} (h:∀j (h:j<l.length) (h' : j<m.length),nodesR d l[j]=nodesR d' m[j]):∀k,k<=l.length->k<=m.length->offR d l k=offR d' m k
 | 0,_,_=>by rw [offR_zero,offR_zero]
 | k+1,h1,h2=>by
  rw [offR_succ d l k (by omega),offR_succ d' m k (by omega),off_congr h k (by omega) (by omega),h k (by omega) (by omega)]

theorem tells_nest {N:Nat->Tn} {n:Nat}:∀{d' d:Nat} {root:Bool} {t:Ro d} {h x:Nat},Tells N 0 d t x->x+nodesR d t<=n->BalR d root t h->h<d'->
  ∃t' : Ro d',nestR N n d' x=some (t',x+nodesR d t)/\keysR d' t'=keysR d t/\nodesR d' t'=nodesR d t/\BalR d' root t' h/\Tells N 0 d' t' x
 | 0,_,_,_,h,_,_,_,_,hd=>by omega
 | d'+1,0,root,t,h,x,ht,hn,hb,hd=>t.elim
 | d'+1,d+1,root,.inl t,h,x,ht,hn,hb,hd=>by
  have h1:nodesR (d+1) (.inl t)=1:=rfl
  have ht2:=ht
  obtain ⟨q1,q2,q3,q4,q5⟩:=ht
  have e:=list_of_ks q2 q3
  refine ⟨.inl t,?_,rfl,rfl,hb,ht2⟩
  unfold nestR
  rw [if_pos (by omega),if_pos q1,if_pos q4,h1,<- e]
 | d'+1,d+1,root,.inr l,h,x,ht,hn,hb,hd=>by
  have h1:nodesR (d+1) (.inr l)=1+(l.map (nodesR d)).sum:=rfl
  obtain ⟨q1,q2,q3,q4,q5,q6,q7⟩:=ht
  obtain ⟨b1,b2,h',rfl,b3⟩:=hb
  have key:∀k,k<=l.length->∃ts:List (Ro d'),kidsF (nestR N n d') (N x).kd (x+1) k=some (ts,x+1+offR d l k)/\ts.length=k/\∀j (h:j<ts.length) (h2:j<l.length),keysR d' ts[j]=keysR d l[j]/\nodesR d' ts[j]=nodesR d l[j]/\BalR d' false ts[j] h'/\Tells N 0 d' ts[j] (x+1+offR d l j):=by
   intro k
   induction k with
   | zero=>
    intro _
    exact ⟨[],by rw [offR_zero];rfl,rfl,fun j hj=>absurd hj (Nat.not_lt_zero _)⟩
   | succ k ih=>
    intro hk
    obtain ⟨ts,e1,e2,e3⟩:=ih (by omega)
    have hkl:k<l.length:=by omega
    have hle:=offR_le d l k hkl
    obtain ⟨t',f1,f2,f3,f4,f5⟩:=tells_nest (n:=n) (d':=d') (q7 k hkl) (by omega) (b3 _ (List.getElem_mem hkl)) (by omega)
    refine ⟨ts++[t'],?_,by rw [List.length_append,e2];rfl,fun j hj hj2=>?_⟩
    ·unfold kidsF
     rw [e1]
     simp only
     rw [if_pos (by rw [q5 k hkl];omega),f1]
     simp only
     rw [offR_succ d l k hkl]
     rw [show x+1+offR d l k+nodesR d l[k]=x+1+(offR d l k+nodesR d l[k]) by omega]
    ·rw [List.length_append] at hj
     simp at hj
     by_cases e:j=k
     ·subst e
      rw [List.getElem_append_right (by omega)]
      simp only [e2,Nat.sub_self,List.getElem_cons_zero]
      exact ⟨f2,f3,f4,f5⟩
     ·rw [List.getElem_append_left (by omega)]
      exact e3 j (by omega) hj2
  obtain ⟨ts,e1,e2,e3⟩:=key l.length (Nat.le_refl _)
  have hoff:∀k,k<=l.length->offR d' ts k=offR d l k:=fun k hk=>off_congr (fun j h h'=>(e3 j h h').2.1) k (by omega) hk
  have hsum:(ts.map (nodesR d')).sum=(l.map (nodesR d)).sum:=by
   have:=hoff l.length (Nat.le_refl _)
   rw [offR_all,<- e2,offR_all] at this
   exact this
  have hflat:ts.flatMap (keysR d')=l.flatMap (keysR d):=flat_congr _ _ ts l e2 (fun k hk hk'=>(e3 k hk hk').1)
  refine ⟨.inr ts,?_,hflat,?_,⟨by omega,by omega,h',rfl,fun t ht=>?_⟩,?_⟩
  ·unfold nestR
   rw [if_pos (by omega),if_neg (by rw [q1];simp),if_neg (by omega),q2,e1]
   simp only
   rw [offR_all,h1]
   rw [show x+1+(l.map (nodesR d)).sum=x+(1+(l.map (nodesR d)).sum) by omega]
  ·show 1+(ts.map (nodesR d')).sum=1+(l.map (nodesR d)).sum
   rw [hsum]
  ·obtain ⟨j,hj,rfl⟩:=List.getElem_of_mem ht
   exact (e3 j hj (by omega)).2.2.1
  ·refine ⟨q1,by rw [q2,e2],by rw [q3,hflat],by rw [q4,e2],fun k hk=>?_,fun k hk=>?_,fun k hk=>?_⟩
   ·rw [hoff k (by omega)]
    exact q5 k (by omega)
   ·rw [(e3 (k+1) hk (by omega)).1]
    exact q6 k (by omega)
   ·rw [hoff k (by omega)]
    exact (e3 k hk (by omega)).2.2.2

theorem chain_of_asc:∀(L:List ByteArray) (hk:Bool) (lk:ByteArray),(∀i,i<L.length->(gt L i).size<=16/\(0<i->Op.bytesLess (gt L (i-1)).toList (gt L i).toList=true))->(hk=true->0<L.length->Op.bytesLess lk.toList (gt L 0).toList=true)->∃hk' lk',Chain hk lk L hk' lk'
 | [],hk,lk,_,_=>⟨hk,lk,rfl,rfl⟩
 | k::L,hk,lk,h,h0=>by
  obtain ⟨hk',lk',q⟩:=chain_of_asc L true k (fun i hi=>by
   have:=h (i+1) (by simpa using hi)
   refine ⟨by simpa [gt] using this.1,fun hi0=>?_⟩
   have:=this.2 (by omega)
   rw [show i+1-1=(i-1)+1 by omega] at this
   simpa [gt] using this) (fun _ hl=>by
   have:=(h 1 (by simpa using hl)).2 (by omega)
   simpa [gt] using this)
  exact ⟨hk',lk',by simpa [gt] using (h 0 (by simp)).1,fun e=>by simpa [gt] using h0 e (by simp),q⟩

theorem asc_of_chain:∀(L:List ByteArray) (hk:Bool) (lk:ByteArray) {hk' : Bool} {lk' : ByteArray},Chain hk lk L hk' lk'->(∀i,i<L.length->(gt L i).size<=16/\(0<i->Op.bytesLess (gt L (i-1)).toList (gt L i).toList=true))/\(hk=true->0<L.length->Op.bytesLess lk.toList (gt L 0).toList=true)
 | [],hk,lk,_,_,_=>⟨fun i hi=>absurd hi (Nat.not_lt_zero _),fun _ h=>absurd h (Nat.lt_irrefl _)⟩
 | k::L,hk,lk,hk',lk',h=>by
  obtain ⟨q1,q2⟩:=asc_of_chain L true k h.2.2
  refine ⟨fun i hi=>?_,fun e _=>by simpa [gt] using h.2.1 e⟩
  cases i with
  | zero=>exact ⟨by simpa [gt] using h.1,fun h=>absurd h (Nat.lt_irrefl _)⟩
  | succ i=>
   have hi2:i<L.length:=by simpa using hi
   refine ⟨by simpa [gt] using (q1 i hi2).1,fun _=>?_⟩
   cases i with
   | zero=>
    have:=q2 rfl hi2
    simpa [gt] using this
   | succ i=>
    have:=(q1 (i+1) hi2).2 (by omega)
    simpa [gt] using this

theorem good_vt {N:Nat->Tn} {n d:Nat} {t:Ro d} {D' : Int} {hk' : Bool} {lk' : ByteArray} (hn:n<=5000) (h:Good N n 0 0 0 false { data:=#[] } d t D' hk' lk') (he:nodesR d t=n):∃t',VTt n N t'/\keysR 21 t'=keysR d t:=by
 obtain ⟨hh,hb,_⟩:=h.bal
 have hlow:=hb.low (by omega)
 obtain ⟨t',q1,q2,q3,q4,q5⟩:=tells_nest (n:=n) (d':=21) h.tl (by omega) hb (by omega)
 rw [he] at q1
 have hp:=nodes_pos d t
 refine ⟨t',⟨by omega,hn,by simpa using q1,⟨hh,by simpa using q4⟩,?_,q5⟩,q2⟩
 rw [q2]
 exact (asc_of_chain _ _ _ h.asc).1

theorem vt_good {N:Nat->Tn} {n d:Nat} {t' : Ro 21} (h:VTt n N t') (hd:n<=d):∃(t:Ro d) (D' : Int) (hk' : Bool) (lk' : ByteArray),Good N n 0 0 0 false { data:=#[] } d t D' hk' lk'/\nodesR d t=n:=by
 obtain ⟨h1,h2,h3,⟨hh,hb⟩,h5,h6⟩:=h
 have hend:=nestR_end h3
 have hnod:=hb.nodes
 have hlt:hh<2 ^ hh:=Nat.lt_two_pow_self
 obtain ⟨t,q1,q2,q3,q4,q5⟩:=tells_nest (n:=n) (d':=d) h6 (by omega) hb (by omega)
 obtain ⟨hk',lk',hc⟩:=chain_of_asc (keysR d t) false { data:=#[] } (by rw [q2];exact h5) (fun e=>by cases e)
 exact ⟨t,(hh:Int),hk',lk',⟨q5,by omega,⟨hh,by simpa using q4,by simp⟩,.inl rfl,hc⟩,by omega⟩

def pkB (x:Int):ByteArray:=(((ByteArray.empty.push (UInt8.ofNat (x / 16777216).toNat)).push (UInt8.ofNat (x / 65536 % 256).toNat)).push (UInt8.ofNat (x / 256 % 256).toNat)).push (UInt8.ofNat (x % 256).toNat)

set_option maxHeartbeats 2000000 in
theorem partKey_any (x:Int) (h0:0<=x) (h1:x<4294967296) (w:World):Calls Tryz.prog 140 #[.int .i64 x] w fun e w'=>e=.returned (.string (pkB x))/\Below w.heap.size w w':=by
 obtain ⟨W,hW⟩:∃W,W=w.alloc (.cells #[.int .u8 (x / 16777216),.int .u8 (x / 65536 % 256),.int .u8 (x / 256 % 256),.int .u8 (x % 256)] 5):=⟨_,rfl⟩
 have b:=Bx.new w #[.int .u8 (x / 16777216),.int .u8 (x / 65536 % 256),.int .u8 (x / 256 % 256),.int .u8 (x % 256)] 5
 have c0:=b.cell 0
 have c1:=b.cell 1
 have c2:=b.cell 2
 have c3:=b.cell 3
 simp at c0 c1 c2 c3
 have hcv:(convert 208 9 (.slice (some ⟨w.heap.size,0,none⟩) 4 4)).run Tryz.prog (w.alloc (.cells #[.int .u8 (x / 16777216),.int .u8 (x / 65536 % 256),.int .u8 (x / 256 % 256),.int .u8 (x % 256)] 5))=.ok (.string (pkB x)) (w.alloc (.cells #[.int .u8 (x / 16777216),.int .u8 (x / 65536 % 256),.int .u8 (x / 256 % 256),.int .u8 (x % 256)] 5)):=by
  rw [run_convert_bytes_string (P:=Tryz.prog) _ 208 9 5 _ 4 4 rfl rfl rfl,run_bytesToString _ _ 4 4 [x / 16777216,x / 65536 % 256,x / 256 % 256,x % 256] (by simp [go_sem])]
  rfl
 clear hW W b c0 c1 c2 c3
 go_enter Tryz.func140,Tryz.ntmps140
 go_wp2
 go_ret
 exact ⟨rfl,below_alloc _ _⟩

def spL (x:Nat->Int):Nat->ByteArray
 | 0=>{ data:=#[] }
 | i+1=>spL x i++pkB (x i)
def spH (x:Nat->Int):Nat->ByteArray
 | 0=>{ data:=#[] }
 | i+1=>spL x i++pkB (x i+1)
theorem pkB_size (x:Int):(pkB x).size=4:=rfl
theorem spL_size (x:Nat->Int):∀i,(spL x i).size=4*i
 | 0=>rfl
 | i+1=>by
  show (spL x i++pkB (x i)).size=_
  rw [ByteArray.size_append,spL_size x i,pkB_size]
  omega
theorem qcell (p:Qd) (o:Nat) (ho:o<4):(#[.int .i64 p.s,.int .i64 p.p,.int .i64 p.o,.int .i64 p.g]:Array Value)[o]?=some (.int .i64 (partOf p.s p.p p.o p.g o)):=by
 rcases (show o=0\/o=1\/o=2\/o=3 by omega) with rfl|rfl|rfl|rfl <;> rfl
def Lead (x:Nat->Int) (m:Nat):Prop:=m<=4/\(∀i,i<m->x i≠0)/\(m<4->x m=0)

set_option maxHeartbeats 4000000 in
theorem span_any (j:Nat) (hj:j<6) (p:Qd) (m:Nat) (hm:Lead (ptO j p) m) (hr:∀i,i<4->0<=ptO j p i/\ptO j p i<=2000000000) (w:World) :
  Calls Tryz.prog 129 #[.func (.func (layF j)) #[] #[],qv p] w fun e w'=>e=.returned (.tuple #[.string (spL (ptO j p) m),.string (spH (ptO j p) m)])/\Below w.heap.size w w':=by
 have HL:Hid (∀W:World,Calls Tryz.prog (layF j) #[.pointer (some ⟨w.heap.size,0,none⟩)] W fun e w'=>e=.returned (.agg (ptrA j w.heap.size))/\Below W.heap.size W w'):=fun W=>lay_any j hj _ W
 have HK:Hid (j<6/\Lead (ptO j p) m/\∀i,i<4->0<=ptO j p i/\ptO j p i<=2000000000):=⟨hj,hm,hr⟩
 have heg:∀args W,(callFunc (layF j) args).run Tryz.prog W=.ok (.enter (layF j) args) W:=fun args W=>by
  rcases (show j=0\/j=1\/j=2\/j=3\/j=4\/j=5 by omega) with rfl|rfl|rfl|rfl|rfl|rfl <;> rfl
 have HPK:Hid (∀(x:Int) (W:World),0<=x->x<4294967296->Calls Tryz.prog 140 #[.int .i64 x] W fun e w'=>e=.returned (.string (pkB x))/\Below W.heap.size W w'):=fun x W h0 h1=>partKey_any x h0 h1 W
 clear hj hm hr
 unfold qv
 go_enter Tryz.func129,Tryz.ntmps129
 go_wp2_with fail
 (with_reducible refine (HL.out _).mono ?_)
 rintro e w1 ⟨rfl,hw1⟩
 have Q0:Hid (Bx w1 w.heap.size 122 #[.int .i64 p.s,.int .i64 p.p,.int .i64 p.o,.int .i64 p.g]/\Below w.heap.size w w1):=⟨(hw1.block _ (by simp)).trans (Bx.new w _ _),(below_alloc _ _).trans (hw1.mono (by simp))⟩
 clear hw1 HL
 go_wp2_with fail
 go_loopw [6,7,9,12] (fun lo hi _ i wr=>∃ii:Nat,ii<=m/\i=.int .i64 ii/\lo=.string (spL (ptO j p) ii)/\hi=.string (spH (ptO j p) ii)/\Bx wr w.heap.size 122 #[.int .i64 p.s,.int .i64 p.p,.int .i64 p.o,.int .i64 p.g]/\Below w.heap.size w wr) (fun _ _ _ i _=>4-(intOf i).toNat)
 case atStart=>exact ⟨0,Nat.zero_le _,rfl,rfl,rfl,Q0.out⟩
 case round=>
  obtain ⟨i,hi,rfl,rfl,rfl,hq,hb⟩:=hrel
  have QI:Hid (Bx wr w.heap.size 122 #[.int .i64 p.s,.int .i64 p.p,.int .i64 p.o,.int .i64 p.g]/\Below w.heap.size w wr):=⟨hq,hb⟩
  clear hq hb Q0
  by_cases hlt:i<4
  ·have hixp:∀W:World,(Instr.index 220 (.agg (ptrA j w.heap.size)) (.int .i64 (i:Int))).run Tryz.prog W=.ok (.pointer (some ⟨w.heap.size,ordF j i,none⟩)) W:=fun W=>by
    rcases (show i=0\/i=1\/i=2\/i=3 by omega) with rfl|rfl|rfl|rfl <;> rfl
   have c1:=QI.out.1.cell (ordF j i)
   rw [qcell p _ (ordF_lt j HK.out.1 i hlt)] at c1
   obtain ⟨x,hx⟩:∃x,x=ptO j p i:=⟨_,rfl⟩
   have HX:Hid (x=ptO j p i):=hx
   have hxr:=HK.out.2.2 i hlt
   have hxu:partOf p.s p.p p.o p.g (ordF j i)=x:=hx.symm
   rw [hxu] at c1
   rw [<- hx] at hxr
   obtain ⟨hx0,hx1⟩:=hxr
   clear hx hxu
   by_cases hz:x=0
   ·have hzb:(x == 0)=true:=by simp [hz]
    have hzd:decide (x=0)=true:=by simp [hz]
    have HM:Hid (i=m):=by
     rcases Nat.lt_or_ge i m with h|h
     ·exact absurd (by rw [<- HX.out];exact hz) (HK.out.2.1.2.1 i h)
     ·show i=m
      omega
    go_wp2
    refine bodyPost_ret (v:=.tuple #[.string (spL (ptO j p) i),.string (spH (ptO j p) i)]) (by simp [results,Tryz.results129,go_sem]) rfl ?_
    exact ⟨by rw [HM.out],QI.out.2⟩
   ·have hzb:(x == 0)=false:=by simp [hz]
    have hzd:decide (x=0)=false:=by simp [hz]
    have HM:Hid (i<m):=by
     rcases Nat.lt_or_ge i m with h|h
     ·exact h
     ·have e:i=m:=by omega
      exact absurd (by rw [HX.out,e];exact HK.out.2.1.2.2 (by omega)) hz
    obtain ⟨lo,hlo⟩:∃lo,lo=spL (ptO j p) i:=⟨_,rfl⟩
    obtain ⟨k1,hk1⟩:∃k1,k1=pkB (x+1):=⟨_,rfl⟩
    obtain ⟨k0,hk0⟩:∃k0,k0=pkB x:=⟨_,rfl⟩
    have HP1:Hid (∀W:World,Calls Tryz.prog 140 #[.int .i64 (x+1)] W fun e w'=>e=.returned (.string k1)/\Below W.heap.size W w'):=fun W=>by rw [hk1];exact HPK.out (x+1) W (by omega) (by omega)
    have HP0:Hid (∀W:World,Calls Tryz.prog 140 #[.int .i64 x] W fun e w'=>e=.returned (.string k0)/\Below W.heap.size W w'):=fun W=>by rw [hk0];exact HPK.out x W (by omega) (by omega)
    have HL1:Hid (lo++k0=spL (ptO j p) (i+1)/\lo++k1=spH (ptO j p) (i+1)):=by
     rw [hlo,hk0,hk1,HX.out]
     exact ⟨rfl,rfl⟩
    have z3:¬ (9223372036854775807:Int)<(lo.size:Int)+(k1.size:Int):=by rw [hlo,hk1,spL_size,pkB_size];omega
    have z4:¬ (9223372036854775807:Int)<(lo.size:Int)+(k0.size:Int):=by rw [hlo,hk0,spL_size,pkB_size];omega
    rw [<- hlo]
    clear hlo hk1 hk0
    go_wp2_with fail
    (with_reducible refine (HP1.out _).mono ?_)
    rintro e w2 ⟨rfl,hb2⟩
    have c2:w2.cell? ⟨w.heap.size,ordF j i,none⟩=some (.int .i64 x):=(hb2.cell (World.block_lt_of_cell? _ _ c1)).trans c1
    have Q2:Hid (Bx w2 w.heap.size 122 #[.int .i64 p.s,.int .i64 p.p,.int .i64 p.o,.int .i64 p.g]/\Below w.heap.size w w2):=⟨(hb2.block _ QI.out.1.lt).trans QI.out.1,QI.out.2.trans (hb2.mono QI.out.2.size)⟩
    clear hb2 c1
    go_wp2_with fail
    (with_reducible refine (HP0.out _).mono ?_)
    rintro e w3 ⟨rfl,hb3⟩
    have Q3:Hid (Bx w3 w.heap.size 122 #[.int .i64 p.s,.int .i64 p.p,.int .i64 p.o,.int .i64 p.g]/\Below w.heap.size w w3):=⟨(hb3.block _ Q2.out.1.lt).trans Q2.out.1,Q2.out.2.trans (hb3.mono Q2.out.2.size)⟩
    clear hb3 c2
    go_wp2
    go_roundw
    case rel=>exact ⟨i+1,HM.out,by go_num,by rw [<- HL1.out.1],by rw [<- HL1.out.2],Q3.out⟩
    case measure=>simp [intOf];omega
  ·have HM:Hid (i=m):=by
    have:=HK.out.2.1.1
    show i=m
    omega
   obtain rfl:i=4:=by have:=HK.out.2.1.1;omega
   go_wp2
   refine bodyPost_ret (v:=.tuple #[.string (spL (ptO j p) 4),.string (spH (ptO j p) 4)]) (by simp [results,Tryz.results129,go_sem]) rfl ?_
   exact ⟨by rw [HM.out],QI.out.2⟩
end Go.Proofs.YtpaomghibppgkaaGreat
namespace Go.Proofs.YtpaomghibppgkaaGreat
open Go.RowKit Go.Deep Go.MapKept Go.ChangeMaps

theorem undQ:Tryz.prog.underlying 122=some (.struct #[{ name := "S",type:=2,offset:=0,embedded:=false,tag := "",pkgPath := "",byteOffset:=0 },{ name := "P",type:=2,offset:=1,embedded:=false,tag := "",pkgPath := "",byteOffset:=8 },{ name := "O",type:=2,offset:=2,embedded:=false,tag := "",pkgPath := "",byteOffset:=16 },{ name := "G",type:=2,offset:=3,embedded:=false,tag := "",pkgPath := "",byteOffset:=24 }]):=by kernel_rfl

theorem undI:Tryz.prog.underlying 2=some (.int .i64):=by kernel_rfl
theorem checkI (e:Bool) (n:Nat) (x:Int) (w:World):(Instr.checkKey e (n+1) 2 (.int .i64 x)).run Tryz.prog w=.ok () w:=run_checkKey undI (by simp [IsKey]) e n
theorem partI (x y z u:Int) (i:Nat) (hi:i<4) (w:World):∃r,(part 2 #[.int .i64 x,.int .i64 y,.int .i64 z,.int .i64 u] i).run Tryz.prog w=.ok (.int .i64 r) w:=by
 rcases (show i=0\/i=1\/i=2\/i=3 by omega) with rfl|rfl|rfl|rfl
 ·exact ⟨x,by simp [go_sem]⟩
 ·exact ⟨y,by simp [go_sem]⟩
 ·exact ⟨z,by simp [go_sem]⟩
 ·exact ⟨u,by simp [go_sem]⟩
set_option maxHeartbeats 400000 in
theorem checkQ' (e:Bool) (n:Nat) (q:Qd) (w:World):(Instr.checkKey e (n+1+1) 122 (qv q)).run Tryz.prog w=.ok () w:=by
 unfold qv
 obtain ⟨r0,p0⟩:=partI q.s q.p q.o q.g 0 (by omega) w
 obtain ⟨r1,p1⟩:=partI q.s q.p q.o q.g 1 (by omega) w
 obtain ⟨r2,p2⟩:=partI q.s q.p q.o q.g 2 (by omega) w
 obtain ⟨r3,p3⟩:=partI q.s q.p q.o q.g 3 (by omega) w
 rw [Instr.checkKey]
 simp only [Sem.run_bind,run_underlying undQ,Result.andThen_ok]
 rw [<- Array.forIn_toList]
 simp only [List.forIn_cons,List.forIn_nil,Sem.run_bind,Sem.run_ite,Sem.run_pure,Result.andThen_ok,p0,checkI]
 simp [p1,p2,p3,checkI]
theorem checkQ (e:Bool) (q:Qd) (w:World):(Instr.checkKey e 10000 122 (qv q)).run Tryz.prog w=.ok () w:=checkQ' e 9998 q w
theorem equalQ_yes (x:Qd) (w:World):(Op.equal 122 (qv x) (qv x)).run Tryz.prog w=.ok true w:=by
 show (Op.equalIn 10000 122 (qv x) (qv x)).run Tryz.prog w=_
 unfold qv
 rw [eqQ,(qd_eq (x:=x) (y:=x)).2 rfl]
theorem equalQ_no {x y:Qd} (h:x≠y) (w:World):(Op.equal 122 (qv x) (qv y)).run Tryz.prog w=.ok false w:=by
 show (Op.equalIn 10000 122 (qv x) (qv y)).run Tryz.prog w=_
 unfold qv
 rw [eqQ]
 cases hb:(x.s == y.s && (x.p == y.p && (x.o == y.o && x.g == y.g))) with
 | false=>rfl
 | true=>exact absurd (qd_eq.1 hb) h
def EsQ (es:List MapEntry) (L:List Qd):Prop:=es.map (fun e=>(e.key,e.val))=L.map (fun q=>(qv q,.agg #[]))
theorem find_q (q:Qd) (w:World):∀(es:List MapEntry) (L:List Qd) (i:Nat),EsQ es L->
  (q∉L/\(Instr.findAsking 122 (qv q) es i).run Tryz.prog w=.ok none w)\/(q∈L/\∃j,(Instr.findAsking 122 (qv q) es i).run Tryz.prog w=.ok (some (j,.agg #[])) w)
 | [],[],i,_=>.inl ⟨by simp,by rw [Instr.findAsking];rfl⟩
 | [],x::L,i,h=>by simp [EsQ] at h
 | e::es,[],i,h=>by simp [EsQ] at h
 | e::es,x::L,i,h=>by
  have h2:e.key=qv x/\e.val=.agg #[]/\EsQ es L:=by
   unfold EsQ at h
   rw [List.map_cons,List.map_cons] at h
   injection h with h1 h2
   injection h1 with h1 h3
   exact ⟨h1,h3,h2⟩
  obtain ⟨h3,h4,h5⟩:=h2
  by_cases e0:q=x
  ·refine .inr ⟨by simp [e0],i,?_⟩
   rw [Instr.findAsking,h3,h4,e0]
   simp [equalQ_yes]
  ·rcases find_q q w es L (i+1) h5 with ⟨m,r⟩|⟨m,j,r⟩
   ·refine .inl ⟨by simp [e0,m],?_⟩
    rw [Instr.findAsking,h3]
    simp [equalQ_no e0,r]
   ·refine .inr ⟨by simp [m],j,?_⟩
    rw [Instr.findAsking,h3]
    simp [equalQ_no e0,r]
theorem findK_q (q:Qd) (w:World) (es:List MapEntry) (L:List Qd) (h:EsQ es L) :
  (q∉L/\(Instr.findKey 122 (qv q) es).run Tryz.prog w=.ok none w)\/(q∈L/\∃j,(Instr.findKey 122 (qv q) es).run Tryz.prog w=.ok (some (j,.agg #[])) w):=by
 have hk:(Instr.findKey 122 (qv q) es).run Tryz.prog w=(Instr.findAsking 122 (qv q) es).run Tryz.prog w:=by
  unfold Instr.findKey
  simp only [Sem.run_bind,run_underlying undQ,Result.andThen_ok]
  cases es with
  | nil=>rfl
  | cons e es=>rfl
 rw [hk]
 exact find_q q w es L 0 h
def QMap (w:World) (B:Nat) (L:List Qd):Prop:=∃es clock,w.heap[B]?=some (.map es clock)/\EsQ es.toList L
theorem QMap.lt {w:World} {B:Nat} {L:List Qd} (h:QMap w B L):B<w.heap.size:=by
 obtain ⟨es,c,h,_⟩:=h
 exact (Array.getElem?_eq_some_iff.1 h).1
theorem QMap.kept {w w' : World} {B:Nat} {L:List Qd} (h:QMap w B L) (hb:w'.heap[B]?=w.heap[B]?):QMap w' B L:=by
 obtain ⟨es,c,h,q⟩:=h
 exact ⟨es,c,hb.trans h,q⟩
theorem QMap.below {w w' : World} {B:Nat} {L:List Qd} (h:QMap w B L) (hb:Below w.heap.size w w'):QMap w' B L:=h.kept (hb.block _ h.lt)
theorem qmap_new (w:World):QMap (w.alloc (.map #[] 0)) w.heap.size []:=⟨#[],0,blk_alloc_new _ _,rfl⟩

theorem undM:Tryz.prog.underlying 193=some (.map 122 228):=by kernel_rfl
theorem QMap.look {w:World} {B:Nat} {L:List Qd} (h:QMap w B L) (q:Qd):∃b,(b=true↔q∈L)/\(Instr.lookup 193 (.map (some B)) (qv q) true).run Tryz.prog w=.ok (.tuple #[.agg #[],.bool b]) w:=by
 obtain ⟨es,c,hb,he⟩:=h
 rcases findK_q q w es.toList L he with ⟨m,r⟩|⟨m,j,r⟩
 ·exact ⟨false,by simp [m],by simp [Instr.lookup,run_underlying undM,MapKept.run_getObj_map hb,checkQ,r,Result.andThen]⟩
 ·exact ⟨true,by simp [m],by simp [Instr.lookup,run_underlying undM,MapKept.run_getObj_map hb,checkQ,r,Result.andThen]⟩
theorem QMap.put {w:World} {B:Nat} {L:List Qd} (h:QMap w B L) (q:Qd) (hn:q∉L):∃w',(Instr.mapUpdate 193 (.map (some B)) (qv q) (.agg #[])).run Tryz.prog w=.ok () w'/\QMap w' B (L++[q])/\w.grownBy w' (some B):=by
 obtain ⟨es,clock,hb,he⟩:=h
 rcases findK_q q w es.toList L he with ⟨m,r⟩|⟨m,_⟩
 ·refine ⟨setBlock w B (.map (es.push { key:=qv q,val:=.agg #[],born:=clock }) (clock+1)),?_,⟨_,_,heap_setBlock_same hb _,?_⟩,⟨rfl,rfl,rfl,by simp [setBlock],fun i _ hi=>heap_setBlock_other hb _ (fun e=>hi (by rw [e]))⟩⟩
  ·simp [Instr.mapUpdate,run_underlying undM,MapKept.run_getObj_map hb,checkQ,r,MapKept.run_setObj_map _ hb,Result.andThen,setBlock]
  ·unfold EsQ at he ⊢
   rw [Array.toList_push,List.map_append,List.map_append,he]
   rfl
 ·exact absurd m hn
theorem QMap.len {w:World} {B:Nat} {L:List Qd} (h:QMap w B L) (ty:TypeId):(Builtin.len_ #[193] ty #[.map (some B)]).run Tryz.prog w=.ok (.int .i64 L.length) w:=by
 obtain ⟨es,clock,hb,he⟩:=h
 have hs:es.size=L.length:=by
  have:=congrArg List.length he
  simpa using this
 simp [Builtin.len_,run_underlying undM,MapKept.run_getObj_map hb,Result.andThen,hs,goInt]
end Go.Proofs.YtpaomghibppgkaaGreat
namespace Go.Proofs.YtpaomghibppgkaaGreat
open Go.RowKit Go.Deep Go.MapKept Go.ChangeMaps

theorem take_more {L:List Qd} {k:Nat} (h:k<L.length):L.take (k+1)=L.take k++[L[k]]:=by
 rw [List.take_add_one,List.getElem?_eq_getElem h]
 rfl
theorem take_not {L:List Qd} {k:Nat} (hn:L.Nodup) (h:k<L.length):L[k]∉L.take k:=by
 intro hm
 have e:L=L.take k++(L[k]::L.drop (k+1)):=by
  rw [List.getElem_cons_drop,List.take_append_drop]
 rw [e] at hn
 have:=(List.nodup_append.1 hn).2.2 _ hm _ (List.mem_cons_self ..)
 exact this rfl

set_option maxHeartbeats 2000000 in
theorem setOf_any (a:Option Addr) (n c:Nat) (L:List Qd) (w:World) (h:RdQ w a L) (hn:n=L.length) (hn2:n<=1048576) (hnd:L.Nodup) :
  Calls Tryz.prog 105 #[.slice a n c] w fun e w'=>∃B,e=.returned (.map (some B))/\QMap w' B L/\Below w.heap.size w w'/\w.heap.size<=B:=by
 have HR:Hid (RdQ w a L/\n=L.length/\L.Nodup):=⟨h,hn,hnd⟩
 clear h hn hnd
 have hmm:=@run_makeMap Tryz.prog
 go_enter Tryz.func105,Tryz.ntmps105
 go_wp2
 go_loopw [5,9] (fun _ i wr=>∃k:Nat,k<=n/\i=.int .i64 k/\QMap wr w.heap.size (L.take k)/\Below w.heap.size w wr) (fun _ i _=>n-(intOf i).toNat)
 case atStart=>exact ⟨0,Nat.zero_le _,rfl,qmap_new w,below_alloc _ _⟩
 case round=>
  obtain ⟨k,hk,rfl,hq,hbel⟩:=hrel
  have HS:Hid (QMap wr w.heap.size (L.take k)/\Below w.heap.size w wr):=⟨hq,hbel⟩
  by_cases hlt:k<n
  ·have hkL:k<L.length:=by rw [<- HR.out.2.1];exact hlt
   rcases HR.out.1.below hbel with h0|⟨b,rfl,hc⟩
   ·omega
   obtain ⟨s0,s1,s2,s3⟩:=hc k hkL
   have i0:(0:Int)<=(k:Int):=by omega
   have i1:(k:Int)<(n:Int):=by omega
   have hx0:=take_not HR.out.2.2 hkL
   have hx1:=take_more hkL
   obtain ⟨x,hx⟩:∃x,x=L[k]:=⟨_,rfl⟩
   rw [<- hx] at s0 s1 s2 s3 hx0 hx1
   obtain ⟨w7,hrun,hm7,hg7⟩:=(hq.below (below_alloc wr (.cells #[.int .i64 x.s,.int .i64 x.p,.int .i64 x.o,.int .i64 x.g] 122))).put x hx0
   have H7:Hid (QMap w7 w.heap.size (L.take (k+1))/\Below w.heap.size w w7):=by
    refine ⟨by rw [hx1];exact hm7,?_⟩
    have h1:=hbel.trans ((below_alloc wr (.cells #[.int .i64 x.s,.int .i64 x.p,.int .i64 x.o,.int .i64 x.g] 122)).mono hbel.size)
    exact h1.trans (below_grown hg7 h1.size (Nat.le_refl _))
   unfold qv at hrun
   clear hc hq hbel hx hx0 hx1 hm7 hg7
   go_wp2
   go_roundw
   case rel=>exact ⟨k+1,by omega,by go_num,H7.out⟩
   case measure=>simp [intOf];omega
  ·obtain rfl:k=n:=by omega
   have k1:¬ (k:Int)<(k:Int):=by omega
   clear hq hbel
   go_wp2
   go_ret
   refine ⟨w.heap.size,rfl,?_,HS.out.2,Nat.le_refl _⟩
   have e:L.take k=L:=by rw [HR.out.2.1,List.take_length]
   rw [<- e]
   exact HS.out.1

def RetIs (w:World) (L M:List Qd) (e:Ending) (w' : World):Prop:=∃b:Bool,e=.returned (.bool b)/\(b=true↔(L.length=M.length/\∀q,q∈L->q∈M))/\Below w.heap.size w w'

set_option maxHeartbeats 2000000 in
theorem isOf_any (B:Nat) (a:Option Addr) (n c:Nat) (L M:List Qd) (w:World) (hm:QMap w B M) (h:RdQ w a L) (hn:n=L.length) (hn2:n<=1048576) :
  Calls Tryz.prog 106 #[.map (some B),.slice a n c] w (RetIs w L M):=by
 have HR:Hid (RdQ w a L/\n=L.length/\QMap w B M):=⟨h,hn,hm⟩
 clear h hn hm
 go_enter Tryz.func106,Tryz.ntmps106
 go_wp2
 go_loopw [6,7,8,11] (fun _ _ _ i wr=>∃k:Nat,k<=n/\i=.int .i64 k/\(∀j (h:j<L.length),j<k->L[j]∈M)/\Below w.heap.size w wr) (fun _ _ _ i _=>n-(intOf i).toNat)
 case atStart=>exact ⟨0,Nat.zero_le _,rfl,fun j _ hj=>absurd hj (Nat.not_lt_zero _),Below.refl _ _⟩
 case round=>
  obtain ⟨k,hk,rfl,hall,hbel⟩:=hrel
  have HS:Hid ((∀j (h:j<L.length),j<k->L[j]∈M)/\Below w.heap.size w wr):=⟨hall,hbel⟩
  by_cases hlt:k<n
  ·have hkL:k<L.length:=by rw [<- HR.out.2.1];exact hlt
   rcases HR.out.1.below hbel with h0|⟨b,rfl,hc⟩
   ·omega
   obtain ⟨s0,s1,s2,s3⟩:=hc k hkL
   have i0:(0:Int)<=(k:Int):=by omega
   have i1:(k:Int)<(n:Int):=by omega
   obtain ⟨x,hx⟩:∃x,x=L[k]:=⟨_,rfl⟩
   have HXk:Hid (L[k]=x):=hx.symm
   rw [<- hx] at s0 s1 s2 s3
   obtain ⟨bk,hbk,hl⟩:=((HR.out.2.2.below hbel).below (below_alloc wr (.cells #[.int .i64 x.s,.int .i64 x.p,.int .i64 x.o,.int .i64 x.g] 122))).look x
   have HBk:Hid (bk=true↔x∈M):=hbk
   unfold qv at hl
   clear hc hall hbel hx hbk
   cases bk with
   | false=>
    go_wp2
    go_ret
    refine ⟨false,rfl,?_,?_⟩
    ·constructor
     ·intro h
      cases h
     ·rintro ⟨_,hq⟩
      have:=HBk.out.2 (by rw [<- HXk.out];exact hq _ (List.getElem_mem hkL))
      cases this
    ·exact HS.out.2.trans (((below_alloc _ _).alloc (by simp) _).mono HS.out.2.size)
   | true=>
    go_wp2
    go_roundw
    case rel=>
     refine ⟨k+1,by omega,by go_num,fun j hj hjk=>?_,HS.out.2.trans (((below_alloc _ _).alloc (by simp) _).mono HS.out.2.size)⟩
     by_cases e:j=k
     ·subst e
      rw [HXk.out]
      exact HBk.out.1 rfl
     ·exact HS.out.1 j hj (by omega)
    case measure=>simp [intOf];omega
  ·obtain rfl:k=n:=by omega
   have k1:¬ (k:Int)<(k:Int):=by omega
   have hln:=(HR.out.2.2.below hbel).len
   clear hall hbel
   go_wp2
   go_ret
   refine ⟨((M.length:Int) == (k:Int)),rfl,?_,HS.out.2⟩
   constructor
   ·intro h
    have h1:(M.length:Int)=(k:Int):=by simpa using h
    refine ⟨by have:=HR.out.2.1;omega,fun q hq=>?_⟩
    obtain ⟨j,hj,e⟩:=List.getElem_of_mem hq
    rw [<- e]
    exact HS.out.1 j hj (by have:=HR.out.2.1;omega)
   ·rintro ⟨h1,_⟩
    have h2:(M.length:Int)=(k:Int):=by have:=HR.out.2.1;omega
    simpa using h2
end Go.Proofs.YtpaomghibppgkaaGreat
