import Derived.Test.YtpaomghibppgkaaGreatNv19
import Derived.Test.YtpaomghibppgkaaGreatNv9
import Derived.Laws.Cover1
import Derived.Deep.QuietTactic
import Derived.BigQuiet
set_option linter.unusedVariables false
set_option maxRecDepth 100000
namespace Go.Proofs.YtpaomghibppgkaaGreat
open Go.RowKit Go.Deep

def AscK (L:List ByteArray) (k:Nat):Prop:=∀i,i<k->(gt L i).size<=16/\(0<i->Op.bytesLess (gt L (i-1)).toList (gt L i).toList=true)

def VTt (n:Nat) (N:Nat->Tn) (t:Ro 21):Prop:=
 1<=n/\n<=5000/\nestR N n 21 0=some (t,n)/\(∃h,BalR 21 true t h)/\AscK (keysR 21 t) (keysR 21 t).length/\Tells N 0 21 t 0
def VT (n:Nat) (N:Nat->Tn):Prop:=∃t,VTt n N t

def FitR (M:Nat):(d:Nat)->Ro d->Prop
 | 0,_=>False
 | d+1,.inl t=>t.length<=M
 | d+1,.inr l=>∀t,t∈l->FitR M d t

theorem flat_fit {T:Type} {M:Nat} (f:T->List ByteArray) (g:T->Nat):∀l:List T,(∀t,t∈l->(f t).length<=g t*M)->(l.flatMap f).length<=(l.map g).sum*M
 | [],_=>by simp
 | t::l,h=>by
  have h1:=h t (by simp)
  have h2:=flat_fit f g l (fun t' ht=>h t' (by simp [ht]))
  rw [List.flatMap_cons,List.length_append,List.map_cons,List.sum_cons,Nat.add_mul]
  omega

theorem fit_len {M:Nat}:∀{d:Nat} {t:Ro d},FitR M d t->(keysR d t).length<=nodesR d t*M
 | 0,t,h=>h.elim
 | d+1,.inl t,h=>by
  have h1:t.length<=M:=h
  have h2:(keysR (d+1) (.inl t)).length=t.length:=rfl
  have h3:nodesR (d+1) (.inl t)=1:=rfl
  rw [h2,h3,Nat.one_mul]
  exact h1
 | d+1,.inr l,h=>by
  have h1:=flat_fit (keysR d) (nodesR d) l (fun t ht=>fit_len (h t ht))
  have h2:(keysR (d+1) (.inr l)).length=(l.flatMap (keysR d)).length:=rfl
  have h3:nodesR (d+1) (.inr l)=1+(l.map (nodesR d)).sum:=rfl
  rw [h2,h3,Nat.add_mul]
  omega

theorem kidsF_all {T:Type} {f:Nat->Option (T × Nat)} {P:T->Prop} (hf:∀x t e,f x=some (t,e)->P t) {kd:Nat->Int} {x:Nat}:∀{k:Nat} {ts:List T} {e:Nat},kidsF f kd x k=some (ts,e)->∀t,t∈ts->P t
 | 0,ts,e,h=>by
  simp only [kidsF,Option.some.injEq,Prod.mk.injEq] at h
  obtain ⟨rfl,rfl⟩:=h
  simp
 | k+1,ts,e,h=>by
  unfold kidsF at h
  split at h
  ·rename_i ts1 e1 h1
   have q2:=kidsF_all hf h1
   split at h
   ·split at h
    ·rename_i t e2 h2
     simp only [Option.some.injEq,Prod.mk.injEq] at h
     obtain ⟨rfl,rfl⟩:=h
     intro t' ht
     rcases List.mem_append.1 ht with ht|ht
     ·exact q2 t' ht
     ·simp at ht
      subst ht
      exact hf _ _ _ h2
    ·cases h
   ·cases h
  ·cases h

theorem nest_fit {N:Nat->Tn} {n:Nat} (hN:∀i,i<n->TnFit (N i)):∀{d x:Nat} {t:Ro d} {e:Nat},nestR N n d x=some (t,e)->FitR 1048576 d t
 | 0,x,t,e,h=>t.elim
 | d+1,x,t,e,h=>by
  unfold nestR at h
  split at h
  ·rename_i hx
   split at h
   ·split at h
    ·injection h with h
     cases h
     show (ksL (N x)).length<=1048576
     rw [ksL_length]
     exact (hN x hx).1
    ·cases h
   ·split at h
    ·cases h
    ·split at h
     ·rename_i ts e1 h1
      injection h with h
      cases h
      exact kidsF_all (fun x t e hx=>nest_fit hN hx) h1
     ·cases h
  ·cases h

theorem tells_small {F:Nat->Tn} {base:Int}:∀{d:Nat} {root:Bool} {t:Ro d} {h x:Nat},Tells F base d t x->BalR d root t h->∀i,x<=i->i<x+nodesR d t->TnFit (F i)
 | 0,_,_,_,_,h,_,_,_,_=>h.elim
 | d+1,root,.inl t,h,x,ht,hb,i,hi1,hi2=>by
  have hn:nodesR (d+1) (.inl t)=1:=rfl
  have e:i=x:=by omega
  subst e
  obtain ⟨_,h2,_,h4,_⟩:=ht
  obtain ⟨_,h5,_⟩:=hb
  exact ⟨by omega,by omega⟩
 | d+1,root,.inr l,h,x,ht,hb,i,hi1,hi2=>by
  have hn:nodesR (d+1) (.inr l)=1+(l.map (nodesR d)).sum:=rfl
  obtain ⟨h1,h2,h3,h4,h5,h6,h7⟩:=ht
  obtain ⟨g1,g2,h',_,hall⟩:=hb
  by_cases e:i=x
  ·subst e
   exact ⟨by omega,by omega⟩
  ·obtain ⟨k,hk,k1,k2⟩:=offR_find d l (i-(x+1)) (by omega)
   exact tells_small (h7 k hk) (hall _ (List.getElem_mem hk)) i (by omega) (by omega)

def XV (w:World) (v:Value):Prop:=v=.agg #[.bool false,.slice none 0 0,.slice none 0 0]\/∃t:Ro 21,NA w 21 t v/\nodesR 21 t<=5000/\(keysR 21 t).length<=1099511627776

def RetOf (w:World) (n:Nat) (N:Nat->Tn) (e:Ending) (w' : World):Prop:=
 Below w.heap.size w w'/\∃lf ka kn kc ca cn cc ok,e=.returned (.tuple #[.agg #[.bool lf,.slice ka kn kc,.slice ca cn cc],.bool ok])/\
  ((ok=false/\¬ VT n N/\XV w' (.agg #[.bool lf,.slice ka kn kc,.slice ca cn cc]))\/(ok=true/\∃t,VTt n N t/\NA w' 21 t (.agg #[.bool lf,.slice ka kn kc,.slice ca cn cc])))
def RetOfC (C:Nat->Nat->Prop) (w:World) (n:Nat) (N:Nat->Tn) (e:Ending) (w' : World):Prop:=
 Below w.heap.size w w'/\∃lf ka kn kc ca cn cc ok,e=.returned (.tuple #[.agg #[.bool lf,.slice ka kn kc,.slice ca cn cc],.bool ok])/\
  ((ok=false/\¬ VT n N/\XV w' (.agg #[.bool lf,.slice ka kn kc,.slice ca cn cc]))\/(ok=true/\∃t,VTt n N t/\NAC C w' 21 t (.agg #[.bool lf,.slice ka kn kc,.slice ca cn cc])))

structure OfSt (C:Nat->Nat->Prop) (w wr:World) (b o n c xb:Nat) (t:Ro 21) (lf:Bool) (ka:Option Addr) (kn kc:Nat) (ca:Option Addr) (cn cc:Nat):Prop where
 tb:Bx wr w.heap.size 68 #[.slice (some ⟨b,o,none⟩) n c]
 rb:Bx wr (w.heap.size+1) 116 #[.bool false,.slice none 0 0,.slice none 0 0]
 xx:Bx wr xb 116 #[.bool lf,.slice ka kn kc,.slice ca cn cc]
 lt:w.heap.size+2<=xb
 nat:NestAt (fun a n c X=>RdS w a n X/\C n c) (fun b=>w.heap.size+2<=b) wr 21 t (.agg #[.bool lf,.slice ka kn kc,.slice ca cn cc])
 bel:Below w.heap.size w wr

theorem OfSt.below {C:Nat->Nat->Prop} {w wr w1:World} {b o n c xb:Nat} {t:Ro 21} {lf:Bool} {ka:Option Addr} {kn kc:Nat} {ca:Option Addr} {cn cc:Nat} (h:OfSt C w wr b o n c xb t lf ka kn kc ca cn cc) (hb:Below wr.heap.size wr w1):OfSt C w w1 b o n c xb t lf ka kn kc ca cn cc:=
 ⟨h.tb.below hb,h.rb.below hb,h.xx.below hb,h.lt,h.nat.below hb,h.bel.trans (hb.mono h.bel.size)⟩

theorem OfSt.na {C:Nat->Nat->Prop} {w wr:World} {b o n c xb:Nat} {t:Ro 21} {lf:Bool} {ka:Option Addr} {kn kc:Nat} {ca:Option Addr} {cn cc:Nat} (h:OfSt C w wr b o n c xb t lf ka kn kc ca cn cc):NAC C wr 21 t (.agg #[.bool lf,.slice ka kn kc,.slice ca cn cc]):=
 h.nat.mono (fun _ _ _ _ q=>⟨q.1.below h.bel,q.2⟩) (fun _ _ _=>trivial) (Nat.le_refl _) (fun _ _ _ _=>rfl)

def RdTnC (C:Nat->Nat->Prop) (w:World) (a:Option Addr) (n:Nat) (N:Nat->Tn):Prop:=
 n=0\/∃b o,a=some ⟨b,o,none⟩/\∀i,i<n->∃ka kc da dc,w.cell? ⟨b,o+i*4,none⟩=some (.bool (N i).lf)/\w.cell? ⟨b,o+i*4+1,none⟩=some (.slice ka (N i).kn kc)/\
  w.cell? ⟨b,o+i*4+2,none⟩=some (.slice da (N i).dn dc)/\w.cell? ⟨b,o+i*4+3,none⟩=some (.int .i64 (N i).ct)/\RdS w ka (N i).kn (N i).ks/\Rd .i64 w da (N i).dn (N i).kd/\C (N i).kn kc

theorem RdTnC.rd {C:Nat->Nat->Prop} {w:World} {a:Option Addr} {n:Nat} {N:Nat->Tn} (h:RdTnC C w a n N):RdTn w a n N:=by
 rcases h with h|⟨b,o,rfl,hc⟩
 ·exact Or.inl h
 ·refine Or.inr ⟨b,o,rfl,fun i hi=>?_⟩
  obtain ⟨ka,kc,da,dc,h0,h1,h2,h3,h4,h5,h6⟩:=hc i hi
  exact ⟨ka,kc,da,dc,h0,h1,h2,h3,h4,h5⟩
theorem RdTn.any {w:World} {a:Option Addr} {n:Nat} {N:Nat->Tn} (h:RdTn w a n N):RdTnC (fun _ _=>True) w a n N:=by
 rcases h with h|⟨b,o,rfl,hc⟩
 ·exact Or.inl h
 ·refine Or.inr ⟨b,o,rfl,fun i hi=>?_⟩
  obtain ⟨ka,kc,da,dc,h0,h1,h2,h3,h4,h5⟩:=hc i hi
  exact ⟨ka,kc,da,dc,h0,h1,h2,h3,h4,h5,trivial⟩
theorem RdTnC.below {C:Nat->Nat->Prop} {w w' : World} {a:Option Addr} {n:Nat} {N:Nat->Tn} (h:RdTnC C w a n N) (hb:Below w.heap.size w w'):RdTnC C w' a n N:=by
 rcases h with h|⟨b,o,rfl,hc⟩
 ·exact Or.inl h
 ·refine Or.inr ⟨b,o,rfl,fun i hi=>?_⟩
  obtain ⟨ka,kc,da,dc,h0,h1,h2,h3,h4,h5,h6⟩:=hc i hi
  refine ⟨ka,kc,da,dc,?_,?_,?_,?_,h4.below hb,h5.below hb,h6⟩
  ·rw [hb.cell (World.block_lt_of_cell? _ _ h0)];exact h0
  ·rw [hb.cell (World.block_lt_of_cell? _ _ h1)];exact h1
  ·rw [hb.cell (World.block_lt_of_cell? _ _ h2)];exact h2
  ·rw [hb.cell (World.block_lt_of_cell? _ _ h3)];exact h3

theorem rdTn_ns {C:Nat->Nat->Prop} {w:World} {a:Option Addr} {n:Nat} {N:Nat->Tn} (h:RdTnC C w a n N) (hn:n≠0):∃b o KA DA KC DC,a=some ⟨b,o,none⟩/\NsAt w b o n N KA DA KC DC/\∀i,i<n->RdS w (KA i) (N i).kn (gt (ksL (N i)))/\C (N i).kn (KC i):=by
 rcases h with h|⟨b,o,rfl,hc⟩
 ·exact absurd h hn
 ·have each:∀i,i<n->∃q:Option Addr × Nat × Option Addr × Nat,w.cell? ⟨b,o+i*4,none⟩=some (.bool (N i).lf)/\w.cell? ⟨b,o+i*4+1,none⟩=some (.slice q.1 (N i).kn q.2.1)/\w.cell? ⟨b,o+i*4+2,none⟩=some (.slice q.2.2.1 (N i).dn q.2.2.2)/\w.cell? ⟨b,o+i*4+3,none⟩=some (.int .i64 (N i).ct)/\RdS w q.1 (N i).kn (N i).ks/\Rd .i64 w q.2.2.1 (N i).dn (N i).kd/\C (N i).kn q.2.1:=by
   intro i hi
   obtain ⟨ka,kc,da,dc,h0,h1,h2,h3,h4,h5,h6⟩:=hc i hi
   exact ⟨(ka,kc,da,dc),h0,h1,h2,h3,h4,h5,h6⟩
  obtain ⟨q,hq⟩:=choose_lt each
  refine ⟨b,o,fun i=>(q i).1,fun i=>(q i).2.2.1,fun i=>(q i).2.1,fun i=>(q i).2.2.2,rfl,fun i hi=>?_,fun i hi=>?_⟩
  ·obtain ⟨h0,h1,h2,h3,h4,h5,h6⟩:=hq i hi
   exact ⟨h0,h1,h2,h3,h5⟩
  ·obtain ⟨h0,h1,h2,h3,h4,h5,h6⟩:=hq i hi
   exact ⟨h4.congr (fun j hj=>(gt_ksL (N i) j hj).symm),h6⟩

theorem idxS (b o n c p:Nat) (hp:p<n) (w:World):(Instr.indexAt 113 (.slice (some ⟨b,o,none⟩) n c) (.int .i64 (p:Int))).run Tryz.prog w=.ok (.pointer (some ⟨b,o+p,none⟩)) w:=by
 simp [Instr.indexAt,go_sem]
 intro h
 omega

set_option maxHeartbeats 8000000 in
theorem of_anyC (C:Nat->Nat->Prop) (a:Option Addr) (n c:Nat) (N:Nat->Tn) (w:World) (h:RdTnC C w a n N) (hn:n<=1048576) (hN:∀i,i<n->TnFit (N i)) :
  Calls Tryz.prog 50 #[.agg #[.slice a n c]] w (RetOfC C w n N):=by
 by_cases h0:n=0
 ·have i0:(n:Int)<1:=by omega
  have i0' : decide ((n:Int)<1)=true:=decide_eq_true i0
  have HNo:Hid (¬ VT n N):=fun ⟨t,hv⟩=>by have:=hv.1;omega
  clear h hN h0
  go_enter Tryz.func50,Tryz.ntmps50
  go_wp2
  refine bodyPost_ret (v:=.tuple #[.agg #[.bool false,.slice none 0 0,.slice none 0 0],.bool false]) (by simp [results,Tryz.results50,go_sem]) rfl ⟨(below_alloc _ _).alloc (by simp) _,_,_,_,_,_,_,_,_,rfl,.inl ⟨rfl,HNo.out,.inl rfl⟩⟩
 ·by_cases h5:5000<n
  ·have i0:¬ (n:Int)<1:=by omega
   have i0' : decide ((n:Int)<1)=false:=decide_eq_false i0
   have i5:(5000:Int)<(n:Int):=by omega
   have i5' : decide ((5000:Int)<(n:Int))=true:=decide_eq_true i5
   have HNo:Hid (¬ VT n N):=fun ⟨t,hv⟩=>by have:=hv.2.1;omega
   clear h hN h0
   go_enter Tryz.func50,Tryz.ntmps50
   go_wp2
   refine bodyPost_ret (v:=.tuple #[.agg #[.bool false,.slice none 0 0,.slice none 0 0],.bool false]) (by simp [results,Tryz.results50,go_sem]) rfl ⟨(below_alloc _ _).alloc (by simp) _,_,_,_,_,_,_,_,_,rfl,.inl ⟨rfl,HNo.out,.inl rfl⟩⟩
  ·have i0:¬ (n:Int)<1:=by omega
   have i0' : decide ((n:Int)<1)=false:=decide_eq_false i0
   have i5:¬ (5000:Int)<(n:Int):=by omega
   have i5' : decide ((5000:Int)<(n:Int))=false:=decide_eq_false i5
   obtain ⟨b,o,KA,DA,KC,DC,rfl,hns,hks⟩:=rdTn_ns h h0
   have HNest:Hid (∀W,Below w.heap.size w W->Calls Tryz.prog 87 #[.slice (some ⟨b,o,none⟩) n c,.int .i64 0,.int .i64 0] W (RetNest (fun w' S t v=>NestAt (fun a n c X=>RdS w a n X/\C n c) S w' 21 t v) W (nestR N n 21 0) n)):=fun W hW=>nest_any (fun a n c X=>RdS w a n X/\C n c) b o n c N KA DA KC DC hks (by omega) hN 21 0 rfl (by omega) W 0 0 rfl (by omega) (hns.below hW)
   have HRd:Hid (RdTn w (some ⟨b,o,none⟩) n N/\∀i,i<n->TnFit (N i)):=⟨h.rd,hN⟩
   clear hns hks h hN
   go_enter Tryz.func50,Tryz.ntmps50
   go_wp2_with fail
   refine (HNest.out _ ((below_alloc _ _).alloc (by simp) _)).mono ?_
   rintro e w1 ⟨hb1,lf,ka,kn,kc,ca,cn,cc,y,ok,rfl,hr⟩
   have HR:Hid ((ok=false/\nestR N n 21 0=none)\/(ok=true/\∃t y',nestR N n 21 0=some (t,y')/\y=(y' : Int)/\y'<=n/\NestAt (fun a n c X=>RdS w a n X/\C n c) (fun b=>w.heap.size+2<=b) w1 21 t (.agg #[.bool lf,.slice ka kn kc,.slice ca cn cc]))):=by
    rcases hr with hr|⟨h1,t,y',h2,h3,h4,h5⟩
    ·exact Or.inl hr
    ·exact Or.inr ⟨h1,t,y',h2,h3,h4,NestAt.mono (fun _ _ _ _ q=>q) (fun b hs _=>by simpa using hs) (Nat.le_refl _) (fun _ _ _ _=>rfl) h5⟩
   have HB1:Hid (Bx w1 w.heap.size 68 #[.slice (some ⟨b,o,none⟩) n c]/\Bx w1 (w.heap.size+1) 116 #[.bool false,.slice none 0 0,.slice none 0 0]/\Below w.heap.size w w1/\w.heap.size+2<=w1.heap.size):=by
    have hs:=hb1.size
    simp at hs
    refine ⟨((Bx.new _ _ _).alloc _).below hb1,?_,((below_alloc _ _).alloc (by simp) _).trans (hb1.mono (by simp;omega)),by omega⟩
    have q:=(Bx.new (w.alloc (.cells #[.slice (some ⟨b,o,none⟩) n c] 68)) #[.bool false,.slice none 0 0,.slice none 0 0] 116).below hb1
    simpa using q
   clear hb1 hr HNest
   go_upto_region 4 with fail
   have HB2:Hid (Bx (w1.alloc (.cells #[.bool lf,.slice ka kn kc,.slice ca cn cc] 116)) w.heap.size 68 #[.slice (some ⟨b,o,none⟩) n c]/\Bx (w1.alloc (.cells #[.bool lf,.slice ka kn kc,.slice ca cn cc] 116)) (w.heap.size+1) 116 #[.bool false,.slice none 0 0,.slice none 0 0]/\Bx (w1.alloc (.cells #[.bool lf,.slice ka kn kc,.slice ca cn cc] 116)) w1.heap.size 116 #[.bool lf,.slice ka kn kc,.slice ca cn cc]/\Below w.heap.size w (w1.alloc (.cells #[.bool lf,.slice ka kn kc,.slice ca cn cc] 116))/\w.heap.size+2<=w1.heap.size/\∀t,NestAt (fun a n c X=>RdS w a n X/\C n c) (fun b=>w.heap.size+2<=b) w1 21 t (.agg #[.bool lf,.slice ka kn kc,.slice ca cn cc])->NestAt (fun a n c X=>RdS w a n X/\C n c) (fun b=>w.heap.size+2<=b) (w1.alloc (.cells #[.bool lf,.slice ka kn kc,.slice ca cn cc] 116)) 21 t (.agg #[.bool lf,.slice ka kn kc,.slice ca cn cc])):=
    ⟨HB1.out.1.alloc _,HB1.out.2.1.alloc _,Bx.new _ _ _,HB1.out.2.2.1.trans ((below_alloc _ _).mono HB1.out.2.2.1.size),HB1.out.2.2.2,fun t q=>q.below (below_alloc _ _)⟩
   generalize (w1.alloc (.cells #[.bool lf,.slice ka kn kc,.slice ca cn cc] 116))=W at HB2 ⊢
   clear HB1
   have hxb:w.heap.size+2<=w1.heap.size:=HB2.out.2.2.2.2.1
   have y0:=HB2.out.1.cell 0
   have r0:=HB2.out.2.1.cell 0
   have r1:=HB2.out.2.1.cell 1
   have r2:=HB2.out.2.1.cell 2
   have rf0:=HB2.out.2.1.frozen 0
   have rf1:=HB2.out.2.1.frozen 1
   have rf2:=HB2.out.2.1.frozen 2
   have rl:=HB2.out.2.1.lt
   simp at y0 r0 r1 r2
   have HZ:Hid (∀W',Below W.heap.size W W'->∀v0 v1 v2,Below w.heap.size w (((W'.setCell ⟨w.heap.size+1,0,none⟩ v0).setCell ⟨w.heap.size+1,1,none⟩ v1).setCell ⟨w.heap.size+1,2,none⟩ v2)):=fun W' hW' v0 v1 v2=>(((HB2.out.2.2.2.1.trans (hW'.mono HB2.out.2.2.2.1.size)).setCell (by simp) _).setCell (by simp) _).setCell (by simp) _
   cases ok with
   | false=>
    have HNo:Hid (¬ VT n N):=by
     rintro ⟨t,_,_,hv,_⟩
     rcases HR.out with ⟨_,q⟩|⟨q,_⟩
     ·rw [q] at hv;cases hv
     ·cases q
    clear HR
    go_wp2
    refine bodyPost_ret (v:=.tuple #[.agg #[.bool false,.slice none 0 0,.slice none 0 0],.bool false]) (by simp [results,Tryz.results50,go_sem,r0,r1,r2]) rfl ⟨HZ.out _ (Below.refl _ _) _ _ _,_,_,_,_,_,_,_,_,rfl,.inl ⟨rfl,HNo.out,.inl rfl⟩⟩
   | true=>
    obtain ⟨t,y',hne,hy,hyn,hna⟩:∃t y',nestR N n 21 0=some (t,y')/\y=(y' : Int)/\y'<=n/\NestAt (fun a n c X=>RdS w a n X/\C n c) (fun b=>w.heap.size+2<=b) w1 21 t (.agg #[.bool lf,.slice ka kn kc,.slice ca cn cc]):=by
     rcases HR.out with ⟨q,_⟩|⟨_,q⟩
     ·cases q
     ·exact q
    subst hy
    have HS:Hid (OfSt C w W b o n c w1.heap.size t lf ka kn kc ca cn cc):=⟨HB2.out.1,HB2.out.2.1,HB2.out.2.2.1,hxb,HB2.out.2.2.2.2.2 t hna,HB2.out.2.2.2.1⟩
    have HNe:Hid (nestR N n 21 0=some (t,y')):=hne
    have hend:=nestR_end hne
    have HFit:Hid (nodesR 21 t<=5000/\(keysR 21 t).length<=1099511627776):=by
     have h1:=fit_len (nest_fit HRd.out.2 hne)
     constructor
     ·omega
     ·omega
    clear HR hna HB2
    generalize w1.heap.size=xb at HS hxb ⊢
    by_cases hyn2:y'=n
    ·subst hyn2
     have HEnd:Hid (nodesR 21 t=y'):=by
      show nodesR 21 t=y'
      omega
     have iy:((y' : Int) != (y' : Int))=false:=by simp
     have x0:=HS.out.xx.cell 0
     have x1:=HS.out.xx.cell 1
     have x2:=HS.out.xx.cell 2
     simp at x0 x1 x2
     clear hne hend
     go_wp2_with fail
     refine (depth_any 21 t _ true _ HS.out.na.na HFit.out.1 (Nat.le_refl _)).mono ?_
     rintro e w2 ⟨rfl,hb2⟩
     have HS2:Hid (OfSt C w w2 b o y' c xb t lf ka kn kc ca cn cc):=HS.out.below hb2
     have HW2:Hid (Below W.heap.size W w2):=hb2
     obtain ⟨D,hD⟩:∃D,depI 21 true t=D:=⟨_,rfl⟩
     rw [hD]
     have HD:Hid (depI 21 true t=D):=hD
     clear hb2 hD y0 r0 r1 r2 rf0 rf1 rf2 rl x0 x1 x2
     have y0:=HS2.out.tb.cell 0
     have r0:=HS2.out.rb.cell 0
     have r1:=HS2.out.rb.cell 1
     have r2:=HS2.out.rb.cell 2
     have rf0:=HS2.out.rb.frozen 0
     have rf1:=HS2.out.rb.frozen 1
     have rf2:=HS2.out.rb.frozen 2
     have rl:=HS2.out.rb.lt
     have x0:=HS2.out.xx.cell 0
     have x1:=HS2.out.xx.cell 1
     have x2:=HS2.out.xx.cell 2
     simp at y0 r0 r1 r2 x0 x1 x2
     by_cases hneg:D<0
     ·have iD:decide (D<0)=true:=decide_eq_true hneg
      have HNo:Hid (¬ VT y' N):=by
       rintro ⟨t2,_,_,hv,⟨h2,hb⟩,_⟩
       rw [HNe.out] at hv
       injection hv with hv
       injection hv with hv _
       subst hv
       have:=bal_depI hb
       have:=HD.out
       omega
      go_wp2
      refine bodyPost_ret (v:=.tuple #[.agg #[.bool false,.slice none 0 0,.slice none 0 0],.bool false]) (by simp [results,Tryz.results50,go_sem,r0,r1,r2]) rfl ⟨HZ.out _ HW2.out _ _ _,_,_,_,_,_,_,_,_,rfl,.inl ⟨rfl,HNo.out,.inl rfl⟩⟩
     ·have iD:decide (D<0)=false:=decide_eq_false hneg
      have HBal:Hid (∃h,BalR 21 true t h):=by
       obtain ⟨h,_,hb⟩:=depI_bal (d:=21) (root:=true) (t:=t) (by rw [HD.out];omega)
       exact ⟨h,hb⟩
      go_wp2_with fail
      refine (keys_any 21 t _ _ HS2.out.na.na HFit.out.1 HFit.out.2).mono ?_
      rintro e w3 ⟨a3,c3,he,ho3,hb3,_⟩
      obtain ⟨L,hL⟩:∃L,keysR 21 t=L:=⟨_,rfl⟩
      obtain ⟨m,hm⟩:∃m,m=L.length:=⟨_,rfl⟩
      rw [hL,<- hm] at he ho3
      subst he
      have HL:Hid (keysR 21 t=L/\m=L.length):=⟨hL,hm⟩
      have HS3:Hid (OfSt C w w3 b o y' c xb t lf ka kn kc ca cn cc):=HS2.out.below hb3
      have HW3:Hid (Below W.heap.size W w3):=HW2.out.trans (hb3.mono HW2.out.size)
      have HK3:Hid (RdS w3 a3 m (gt L)):=ho3.rd
      have hm40:m<=1099511627776:=by have:=HFit.out.2;rw [hL] at this;omega
      clear hb3 ho3 y0 r0 r1 r2 rf0 rf1 rf2 rl x0 x1 x2 hL hm
      go_wp2
      go_loopw [8] (fun i wr=>∃k z:Nat,k<=m/\i=.int .i64 k/\AscK L k/\wr=w3.drewN z) (fun i _=>m-(intOf i).toNat)
      case atStart=>exact ⟨0,0,Nat.zero_le _,rfl,fun j hj=>absurd hj (Nat.not_lt_zero _),rfl⟩
      case round=>
       obtain ⟨k,z,hk,rfl,hasc,rfl⟩:=hrel
       have HA:Hid (AscK L k):=hasc
       clear hasc
       have r0:=HS3.out.rb.cell 0
       have r1:=HS3.out.rb.cell 1
       have r2:=HS3.out.rb.cell 2
       have rf0:=HS3.out.rb.frozen 0
       have rf1:=HS3.out.rb.frozen 1
       have rf2:=HS3.out.rb.frozen 2
       have rl:=HS3.out.rb.lt
       simp at r0 r1 r2
       by_cases hlt:k<m
       ·rcases HK3.out with q|⟨b3,o3,rfl,hc3⟩
        ·omega
        have s1:=hc3 k hlt
        have hk0:(0:Int)<=(k:Int):=by omega
        have hkm:(k:Int)<(m:Int):=by omega
        by_cases h16:16<(gt L k).size
        ·have j16:(16:Int)<((gt L k).size:Int):=by omega
         have j16' : decide ((16:Int)<((gt L k).size:Int))=true:=decide_eq_true j16
         have n16' : decide (16<(gt L k).size)=true:=decide_eq_true h16
         have HNo:Hid (¬ VT y' N):=by
          rintro ⟨t2,_,_,hv,_,hs,_⟩
          rw [HNe.out] at hv
          injection hv with hv
          injection hv with hv _
          subst hv
          rw [HL.out.1] at hs
          have:=(hs k (by rw [<- HL.out.2];exact hlt)).1
          omega
         clear hc3
         go_wp2
         go_quiet (fail)
         go_wp2
         refine bodyPost_ret (v:=.tuple #[.agg #[.bool false,.slice none 0 0,.slice none 0 0],.bool false]) (by simp [results,Tryz.results50,go_sem,r0,r1,r2]) rfl ⟨HZ.out _ (below_drewN HW3.out _) _ _ _,_,_,_,_,_,_,_,_,rfl,.inl ⟨rfl,HNo.out,.inl rfl⟩⟩
        ·have j16:¬ (16:Int)<((gt L k).size:Int):=by omega
         have j16' : decide ((16:Int)<((gt L k).size:Int))=false:=decide_eq_false j16
         have n16' : decide (16<(gt L k).size)=false:=decide_eq_false h16
         by_cases hk00:k=0
         ·have jk:¬ (0:Int)<(k:Int):=by omega
          have jk' : decide ((0:Int)<(k:Int))=false:=decide_eq_false jk
          have nk' : decide (0<k)=false:=decide_eq_false (by omega)
          have HA2:Hid (AscK L (k+1)):=by
           intro i hi
           have e:i=k:=by omega
           subst e
           exact ⟨by omega,fun h=>by omega⟩
          clear hc3 hk00
          go_wp2
          go_quiet (fail)
          go_wp2
          go_roundw
          case rel=>exact ⟨k+1,_,by omega,by go_num,HA2.out,rfl⟩
          case measure=>simp [intOf];omega
         ·obtain ⟨p,hp⟩:∃p,k=p+1:=⟨k-1,by omega⟩
          have jk:(0:Int)<(k:Int):=by omega
          have jk' : decide ((0:Int)<(k:Int))=true:=decide_eq_true jk
          have nk0:0<k:=by omega
          have nk' : decide (0<k)=true:=decide_eq_true nk0
          have hp1:p<m:=by omega
          have s2:=hc3 p hp1
          have hix:∀wz,(Instr.indexAt 113 (.slice (some ⟨b3,o3,none⟩) m c3) (.int .i64 ((k:Int)-1))).run Tryz.prog wz=.ok (.pointer (some ⟨b3,o3+p,none⟩)) wz:=fun wz=>by rw [show (k:Int)-1=(p:Int) by omega];exact idxS b3 o3 m c3 p hp1 wz
          have HPk:Hid (k=p+1):=hp
          have H16:Hid ((gt L k).size<=16):=by
           show (gt L k).size<=16
           omega
          clear hc3 hk00 hp
          cases hls:Op.bytesLess (gt L p).toList (gt L k).toList with
          | true=>
           have HA2:Hid (AscK L (k+1)):=by
            intro i hi
            by_cases e:i=k
            ·subst e
             exact ⟨H16.out,fun _=>by rw [show i-1=p by have:=HPk.out;omega];exact hls⟩
            ·exact HA.out i (by omega)
           go_wp2
           go_quiet (fail)
           go_wp2
           go_roundw
           case rel=>exact ⟨k+1,_,by omega,by go_num,HA2.out,rfl⟩
           case measure=>simp [intOf];omega
          | false=>
           have HNo:Hid (¬ VT y' N):=by
            rintro ⟨t2,_,_,hv,_,hs,_⟩
            rw [HNe.out] at hv
            injection hv with hv
            injection hv with hv _
            subst hv
            rw [HL.out.1] at hs
            have q:=(hs k (by rw [<- HL.out.2];exact hlt)).2 nk0
            rw [show k-1=p by have:=HPk.out;omega,hls] at q
            cases q
           go_wp2
           go_quiet (fail)
           go_wp2
           refine bodyPost_ret (v:=.tuple #[.agg #[.bool false,.slice none 0 0,.slice none 0 0],.bool false]) (by simp [results,Tryz.results50,go_sem,r0,r1,r2]) rfl ⟨HZ.out _ (below_drewN HW3.out _) _ _ _,_,_,_,_,_,_,_,_,rfl,.inl ⟨rfl,HNo.out,.inl rfl⟩⟩
       ·have e:k=m:=by omega
        subst e
        have HAll:Hid (AscK (keysR 21 t) (keysR 21 t).length):=by
         show AscK (keysR 21 t) (keysR 21 t).length
         rw [HL.out.1,<- HL.out.2]
         exact HA.out
        have hkf:¬ (k:Int)<(k:Int):=by omega
        have y0:=HS3.out.tb.cell 0
        have x0:=HS3.out.xx.cell 0
        have x1:=HS3.out.xx.cell 1
        have x2:=HS3.out.xx.cell 2
        have xl:=HS3.out.xx.lt
        simp at y0 x0 x1 x2
        clear HA hlt hk
        have HFl:Hid (∀W',Below w3.heap.size w3 W'->Calls Tryz.prog 90 #[.agg #[.bool lf,.slice ka kn kc,.slice ca cn cc],.int .i64 0] W' (fun e w'=>∃g rc F,e=.returned (.slice (some ⟨g,0,none⟩) y' rc)/\Below W'.heap.size W' w'/\RdTn w' (some ⟨g,0,none⟩) y' F/\Tells F 0 21 t 0/\∀i,i<y'->TnFit (F i))):=by
         intro W' hW'
         obtain ⟨h,hb⟩:=HBal.out
         refine (flat_any 21 t _ true h 0 W' (NA.below HS3.out.na.na hW') HFit.out.1 HFit.out.2 hb (by omega) (by have:=HFit.out.1;omega)).mono (fun e w' hr=>?_)
         obtain ⟨ra,rc,G,xs,e1,hb1,ho,hf,ht⟩:=hr
         rw [HEnd.out] at e1 ho hf
         obtain ⟨a6,c6,e6,hfo⟩:=own_form ho
         obtain ⟨g,eg,_,_,hc⟩:=hfo h0
         injection e6 with e6 _ _
         rw [<- e6] at eg
         subst eg
         exact ⟨g,rc,G,e1,hb1,hf.rd hc,ht,fun i hi=>tells_small ht hb i (Nat.zero_le _) (by rw [HEnd.out];omega)⟩
        have HB4:Hid (∀W' : World,Below w3.heap.size w3 W'->(OfSt C w W' b o y' c xb t lf ka kn kc ca cn cc/\RdTn W' (some ⟨b,o,none⟩) y' N/\Below W.heap.size W W')):=fun W' hW'=>⟨HS3.out.below hW',HRd.out.1.below (HS3.out.bel.trans (hW'.mono HS3.out.bel.size)),HW3.out.trans (hW'.mono HW3.out.size)⟩
        go_upto_region 12 with fail
        have H12:Hid (Below w3.heap.size w3 (w3.drewN z)):=below_drewN (Below.refl _ _) z
        clear y0 x0 x1 x2 xl r0 r1 r2 rf0 rf1 rf2 rl
        generalize w3.drewN z=W12 at H12 ⊢
        have HC:Hid (∀W',Below W12.heap.size W12 W'->(OfSt C w W' b o y' c xb t lf ka kn kc ca cn cc/\RdTn W' (some ⟨b,o,none⟩) y' N/\Below W.heap.size W W')):=fun W' hW'=>HB4.out W' (H12.out.trans (hW'.mono H12.out.size))
        have HS12:Hid (OfSt C w W12 b o y' c xb t lf ka kn kc ca cn cc):=(HC.out W12 (Below.refl _ _)).1
        have y0:=HS12.out.tb.cell 0
        have x0:=HS12.out.xx.cell 0
        have x1:=HS12.out.xx.cell 1
        have x2:=HS12.out.xx.cell 2
        simp at y0 x0 x1 x2
        have hxne:¬ xb=w.heap.size+1:=by omega
        have hxne2:¬ w.heap.size+1=xb:=by omega
        go_region_held3 (fun w'=>w'.cell? ⟨w.heap.size,0,none⟩=some (.slice (some ⟨b,o,none⟩) y' c)/\w'.cell? ⟨xb,0,none⟩=some (.bool lf)/\w'.cell? ⟨xb,1,none⟩=some (.slice ka kn kc)/\w'.cell? ⟨xb,2,none⟩=some (.slice ca cn cc)) (go_keep)
         (first
         | (go_at_call 90;refine (HFl.out W12.drew (H12.out.drew)).mono ?_;rintro e w4 ⟨g,rc,F,rfl,hb4,hr4,ht4,hf4⟩;have a0:=(HC.out w4 (below_undrew hb4)).1.tb.cell 0;have b0:=(HC.out w4 (below_undrew hb4)).1.xx.cell 0;have b1:=(HC.out w4 (below_undrew hb4)).1.xx.cell 1;have b2:=(HC.out w4 (below_undrew hb4)).1.xx.cell 2;simp at a0 b0 b1 b2)
         | (go_at_call 89;refine (sameNodes_any (some ⟨g,0,none⟩) (some ⟨b,o,none⟩) y' y' rc c F N w4 hr4 (HC.out w4 (below_undrew hb4)).2.1 (by omega) (by omega) hf4 HRd.out.2).mono ?_;rintro e w5 ⟨bb,rfl,hbb,hb5⟩;have a0:=((HC.out w4 (below_undrew hb4)).1.below hb5).tb.cell 0;have b0:=((HC.out w4 (below_undrew hb4)).1.below hb5).xx.cell 0;have b1:=((HC.out w4 (below_undrew hb4)).1.below hb5).xx.cell 1;have b2:=((HC.out w4 (below_undrew hb4)).1.below hb5).xx.cell 2;have r0:=((HC.out w4 (below_undrew hb4)).1.below hb5).rb.cell 0;have r1:=((HC.out w4 (below_undrew hb4)).1.below hb5).rb.cell 1;have r2:=((HC.out w4 (below_undrew hb4)).1.below hb5).rb.cell 2;have rf0:=((HC.out w4 (below_undrew hb4)).1.below hb5).rb.frozen 0;have rf1:=((HC.out w4 (below_undrew hb4)).1.below hb5).rb.frozen 1;have rf2:=((HC.out w4 (below_undrew hb4)).1.below hb5).rb.frozen 2;have rl:=((HC.out w4 (below_undrew hb4)).1.below hb5).rb.lt;simp at a0 b0 b1 b2 r0 r1 r2))
        have HV:Hid (bb=true↔VTt y' N t):=by
         show bb=true↔VTt y' N t
         rw [hbb]
         constructor
         ·rintro ⟨_,hs⟩
          refine ⟨by omega,by omega,HNe.out,HBal.out,HAll.out,Tells.congr (fun i _ hi=>hs i (by rw [HEnd.out] at hi;omega)) ht4⟩
         ·rintro ⟨_,_,_,_,_,ht⟩
          exact ⟨trivial,fun i hi=>Tells.same ht4 ht i (Nat.zero_le _) (by rw [HEnd.out];omega)⟩
        have HVT:Hid (VT y' N->VTt y' N t):=by
         rintro ⟨t2,hv⟩
         have q:=hv.2.2.1
         rw [HNe.out] at q
         injection q with q
         injection q with q _
         subst q
         exact hv
        have HF:Hid (OfSt C w w5 b o y' c xb t lf ka kn kc ca cn cc/\Below W.heap.size W w5):=⟨(HC.out w4 (below_undrew hb4)).1.below hb5,(HC.out w4 (below_undrew hb4)).2.2.trans (hb5.mono (HC.out w4 (below_undrew hb4)).2.2.size)⟩
        clear hbb hb5 hr4 hf4 ht4 hb4 HC HFl HB4
        go_wp2
        have HNA:Hid (NAC C (((w5.setCell ⟨w.heap.size+1,0,none⟩ (.bool lf)).setCell ⟨w.heap.size+1,1,none⟩ (.slice ka kn kc)).setCell ⟨w.heap.size+1,2,none⟩ (.slice ca cn cc)) 21 t (.agg #[.bool lf,.slice ka kn kc,.slice ca cn cc])):=by
         have hst:=HF.out.1
         have hbz:Below w.heap.size w (((w5.setCell ⟨w.heap.size+1,0,none⟩ (.bool lf)).setCell ⟨w.heap.size+1,1,none⟩ (.slice ka kn kc)).setCell ⟨w.heap.size+1,2,none⟩ (.slice ca cn cc)):=HZ.out _ HF.out.2 _ _ _
         refine hst.nat.mono (fun _ _ _ _ q=>⟨q.1.below hbz,q.2⟩) (fun _ _ _=>trivial) (by simp [World.setCell]) (fun b j hs _=>?_)
         refine World.cell?_of_block ?_
         show (((w5.setCell ⟨w.heap.size+1,0,none⟩ (.bool lf)).setCell ⟨w.heap.size+1,1,none⟩ (.slice ka kn kc)).setCell ⟨w.heap.size+1,2,none⟩ (.slice ca cn cc)).heap[b]?=_
         rw [Below.heap_setCell _ _ _ _ (show b≠w.heap.size+1 by omega),Below.heap_setCell _ _ _ _ (show b≠w.heap.size+1 by omega),Below.heap_setCell _ _ _ _ (show b≠w.heap.size+1 by omega)]
        cases bb with
        | true=>
         refine bodyPost_ret (v:=.tuple #[.agg #[.bool lf,.slice ka kn kc,.slice ca cn cc],.bool true]) (by simp [results,Tryz.results50,go_sem,r0,r1,r2]) rfl ⟨HZ.out _ HF.out.2 _ _ _,_,_,_,_,_,_,_,_,rfl,.inr ⟨rfl,t,HV.out.1 rfl,HNA.out⟩⟩
        | false=>
         refine bodyPost_ret (v:=.tuple #[.agg #[.bool lf,.slice ka kn kc,.slice ca cn cc],.bool false]) (by simp [results,Tryz.results50,go_sem,r0,r1,r2]) rfl ⟨HZ.out _ HF.out.2 _ _ _,_,_,_,_,_,_,_,_,rfl,.inl ⟨rfl,fun h=>absurd (HV.out.2 (HVT.out h)) (by simp),.inr ⟨t,HNA.out.na,HFit.out⟩⟩⟩
    ·have iy:((y' : Int) != (n:Int))=true:=by simp;omega
     have HNo:Hid (¬ VT n N):=by
      rintro ⟨t2,_,_,hv,_⟩
      rw [HNe.out] at hv
      injection hv with hv
      injection hv with _ hv
      exact hyn2 hv
     clear hne hend
     go_wp2
     refine bodyPost_ret (v:=.tuple #[.agg #[.bool false,.slice none 0 0,.slice none 0 0],.bool false]) (by simp [results,Tryz.results50,go_sem,r0,r1,r2]) rfl ⟨HZ.out _ (Below.refl _ _) _ _ _,_,_,_,_,_,_,_,_,rfl,.inl ⟨rfl,HNo.out,.inl rfl⟩⟩

theorem of_any (a:Option Addr) (n c:Nat) (N:Nat->Tn) (w:World) (h:RdTn w a n N) (hn:n<=1048576) (hN:∀i,i<n->TnFit (N i)) :
  Calls Tryz.prog 50 #[.agg #[.slice a n c]] w (RetOf w n N):=by
 refine (of_anyC (fun _ _=>True) a n c N w h.any hn hN).mono ?_
 rintro e w' ⟨hb,lf,ka,kn,kc,ca,cn,cc,ok,he,hr⟩
 refine ⟨hb,lf,ka,kn,kc,ca,cn,cc,ok,he,?_⟩
 rcases hr with hr|⟨h1,t,h2,h3⟩
 ·exact .inl hr
 ·exact .inr ⟨h1,t,h2,h3.na⟩

end Go.Proofs.YtpaomghibppgkaaGreat
