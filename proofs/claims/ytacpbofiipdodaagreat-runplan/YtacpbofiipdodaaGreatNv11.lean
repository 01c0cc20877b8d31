import Derived.Test.YtacpbofiipdodaaGreatNv7
import Derived.Test.YtacpbofiipdodaaGreatNv8
import Derived.Test.YtacpbofiipdodaaGreatNv10
set_option linter.unusedVariables false
set_option linter.unusedSimpArgs false
set_option maxRecDepth 100000
set_option maxHeartbeats 90000000
namespace Go.Proofs.YtacpbofiipdodaaGreat
open Go Go.Deep Go.RowKit
variable {a:Option Addr}{n:Nat}{w:World}
def L4 (L:List ByteArray) (k:Nat):Prop:=∀i,i<k->(gt L i).size<=16/\(0<i->Op.bytesLess (gt L (i-1)).toList (gt L i).toList=true)
def Dv (n:Nat) (N:Nat->Tn) (t:Ro 21):Prop:=
 1<=n/\n<=5000/\AN N n 21 0=some (t,n)/\(∃h,Br 21 true t h)/\L4 (Ab 21 t) (Ab 21 t).length/\AJ N 0 21 t 0
def VT (n:Nat) (N:Nat->Tn):Prop:=∃t,Dv n N t
def R4 (M:Nat):(d:Nat)->Ro d->Prop
 | 0,_=>False
 | d+1,.inl t=>t.length<=M
 | d+1,.inr l=>∀t,t∈l->R4 M d t
theorem IP {T:Type} {M:Nat} (f:T->List ByteArray) (g:T->Nat):∀l:List T,(∀t,t∈l->(f t).length<=g t*M)->(l.flatMap f).length<=(l.map g).sum*M
 | [],_=>by simp
 | t::l,h=>by
  have h1:=h t (by simp)
  have h2:=IP f g l (λt' ht=>h t' (by simp[ht]))
  rw[List.flatMap_cons,WD,List.map_cons,List.sum_cons,Nat.add_mul]
  omega
theorem Hs {M:Nat}:∀{d:Nat} {t:Ro d},R4 M d t->(Ab d t).length<=Ad d t*M
 | 0,t,h=>h.elim
 | d+1,.inl t,h=>by
  have h1:t.length<=M:=h
  have h2:(Ab (d+1) (.inl t)).length=t.length:=rfl
  have h3:Ad (d+1) (.inl t)=1:=rfl
  rw[h2,h3,Nat.one_mul]
  exact h1
 | d+1,.inr l,h=>by
  have h1:=IP (Ab d) (Ad d) l (λt ht=>Hs (h t ht))
  have h2:(Ab (d+1) (.inr l)).length=(l.flatMap (Ab d)).length:=rfl
  have h3:Ad (d+1) (.inr l)=1+(l.map (Ad d)).sum:=rfl
  rw[h2,h3,Nat.add_mul]
  omega
theorem JY {T:Type} {f:Nat->Option (T × Nat)} {P:T->Prop} (hf:∀x t e,f x=some (t,e)->P t) {kd:Nat->Int} {x:Nat}:∀{k:Nat} {ts:List T} {e:Nat},BF f kd x k=some (ts,e)->∀t,t∈ts->P t
 | 0,ts,e,h=>by
  simp only[BF,Option.some.injEq,Prod.mk.injEq] at h
  obtain⟨rfl,rfl⟩:=h
  simp
 | k+1,ts,e,h=>by
  unfold BF at h
  split at h
  .rename_i ts1 e1 h1
   have q2:=JY hf h1
   split at h
   .split at h
    .rename_i t e2 h2
     simp only[Option.some.injEq,Prod.mk.injEq] at h
     obtain⟨rfl,rfl⟩:=h
     intro t' ht
     rcases List.mem_append.1 ht with ht|ht
     .exact q2 t' ht
     .simp at ht
      subst ht
      exact hf _ _ _ h2
    .cases h
   .cases h
  .cases h
theorem Mr {N:Nat->Tn} {n:Nat} (hN:∀i,i<n->Bf (N i)):∀{d x:Nat} {t:Ro d} {e:Nat},AN N n d x=some (t,e)->R4 1048576 d t
 | 0,x,t,e,h=>t.elim
 | d+1,x,t,e,h=>by
  unfold AN at h
  split at h
  .rename_i hx
   split at h
   .split at h
    .injection h with h
     cases h
     show (JB (N x)).length<=1048576
     rw[Be]
     exact (hN x hx).1
    .cases h
   .split at h
    .cases h
    .split at h
     .rename_i ts e1 h1
      injection h with h
      cases h
      exact JY (λx t e hx=>Mr hN hx) h1
     .cases h
  .cases h
theorem GM {F:Nat->Tn} {base:Int}:∀{d:Nat} {root:Bool} {t:Ro d} {h x:Nat},AJ F base d t x->Br d root t h->∀i,x<=i->i<x+Ad d t->Bf (F i)
 | 0,_,_,_,_,h,_,_,_,_=>h.elim
 | d+1,root,.inl t,h,x,ht,hb,i,hi1,hi2=>by
  have hn:Ad (d+1) (.inl t)=1:=rfl
  have e:i=x:=by omega
  subst e
  obtain⟨_,h2,_,h4,_⟩:=ht
  obtain⟨_,h5,_⟩:=hb
  exact⟨by omega,by omega⟩
 | d+1,root,.inr l,h,x,ht,hb,i,hi1,hi2=>by
  have hn:Ad (d+1) (.inr l)=1+(l.map (Ad d)).sum:=rfl
  obtain⟨h1,h2,h3,h4,h5,h6,h7⟩:=ht
  obtain⟨g1,g2,h',_,hall⟩:=hb
  by_cases e:i=x
  .subst e
   exact⟨by omega,by omega⟩
  .obtain⟨k,hk,k1,k2⟩:=JR d l (i-(x+1)) (by omega)
   exact GM (h7 k hk) (hall _ (WE hk)) i (by omega) (by omega)
def XV (w:World) (v:Value):Prop:=v=.agg #[.bool false,.slice none 0 0,.slice none 0 0]\/∃t:Ro 21,NA w 21 t v/\Ad 21 t<=5000/\(Ab 21 t).length<=1099511627776
def To (w:World) (n:Nat) (N:Nat->Tn) (e:Ending) (w' : World):Prop:=
 Bl w w'/\∃lf ka kn kc ca cn cc ok,e=.returned (.tuple #[.agg #[.bool lf,.slice ka kn kc,.slice ca cn cc],.bool ok])/\
  ((ok=false/\¬ VT n N/\XV w' (.agg #[.bool lf,.slice ka kn kc,.slice ca cn cc]))\/(ok=true/\∃t,Dv n N t/\NA w' 21 t (.agg #[.bool lf,.slice ka kn kc,.slice ca cn cc])))
def Uh (C:Nat->Nat->Prop) (w:World) (n:Nat) (N:Nat->Tn) (e:Ending) (w' : World):Prop:=
 Bl w w'/\∃lf ka kn kc ca cn cc ok,e=.returned (.tuple #[.agg #[.bool lf,.slice ka kn kc,.slice ca cn cc],.bool ok])/\
  ((ok=false/\¬ VT n N/\XV w' (.agg #[.bool lf,.slice ka kn kc,.slice ca cn cc]))\/(ok=true/\∃t,Dv n N t/\TG C w' 21 t (.agg #[.bool lf,.slice ka kn kc,.slice ca cn cc])))
structure G5 (C:Nat->Nat->Prop) (w wr:World) (b o n c xb:Nat) (t:Ro 21) (lf:Bool) (ka:Option Addr) (kn kc:Nat) (ca:Option Addr) (cn cc:Nat):Prop where
 tb:Bx wr w.heap.size 73 #[.slice (some (ad b o)) n c]
 rb:Bx wr (w.heap.size+1) 134 #[.bool false,.slice none 0 0,.slice none 0 0]
 xx:Bx wr xb 134 #[.bool lf,.slice ka kn kc,.slice ca cn cc]
 lt:w.heap.size+2<=xb
 nat:AD (λa n c X=>BE w a n X/\C n c) (λb=>w.heap.size+2<=b) wr 21 t (.agg #[.bool lf,.slice ka kn kc,.slice ca cn cc])
 bel:Bl w wr
theorem G5.below {C:Nat->Nat->Prop} {w wr w1:World} {b o n c xb:Nat} {t:Ro 21} {lf:Bool} {ka:Option Addr} {kn kc:Nat} {ca:Option Addr} {cn cc:Nat} (h:G5 C w wr b o n c xb t lf ka kn kc ca cn cc) (hb:Bl wr w1):G5 C w w1 b o n c xb t lf ka kn kc ca cn cc:=
 ⟨h.tb.below hb,h.rb.below hb,h.xx.below hb,h.lt,h.nat.below hb,h.bel.trans (hb.mono h.bel.size)⟩
theorem G5.na {C:Nat->Nat->Prop} {wr:World} {b o c xb:Nat} {t:Ro 21} {lf:Bool} {ka:Option Addr} {kn kc:Nat} {ca:Option Addr} {cn cc:Nat} (h:G5 C w wr b o n c xb t lf ka kn kc ca cn cc):TG C wr 21 t (.agg #[.bool lf,.slice ka kn kc,.slice ca cn cc]):=
 h.nat.mono (λ_ _ _ _ q=>⟨q.1.below h.bel,q.2⟩) (λ_ _ _=>trivial) (Wu _) (λ_ _ _ _=>rfl)
def GN (C:Nat->Nat->Prop) (w:World) (a:Option Addr) (n:Nat) (N:Nat->Tn):Prop:=
 n=0\/∃b o,a=some (ad b o)/\∀i,i<n->∃ka kc da dc,w.cell? (ad b (o+i*4))=some (.bool (N i).lf)/\w.cell? (ad b (o+i*4+1))=some (.slice ka (N i).kn kc)/\
  w.cell? (ad b (o+i*4+2))=some (.slice da (N i).dn dc)/\w.cell? (ad b (o+i*4+3))=some (iv (N i).ct)/\BE w ka (N i).kn (N i).ks/\Rd .i64 w da (N i).dn (N i).kd/\C (N i).kn kc
theorem GN.rd {C:Nat->Nat->Prop} {N:Nat->Tn} (h:GN C w a n N):Bk w a n N:=by
 rcases h with h|⟨b,o,rfl,hc⟩;.exact Or.inl h
 .refine Or.inr ⟨b,o,rfl,λi hi=>?_⟩;obtain⟨ka,kc,da,dc,h0,h1,h2,h3,h4,h5,h6⟩:=hc i hi;exact⟨ka,kc,da,dc,h0,h1,h2,h3,h4,h5⟩
theorem Bk.any {N:Nat->Tn} (h:Bk w a n N):GN (λ_ _=>True) w a n N:=by
 rcases h with h|⟨b,o,rfl,hc⟩;.exact Or.inl h
 .refine Or.inr ⟨b,o,rfl,λi hi=>?_⟩;obtain⟨ka,kc,da,dc,h0,h1,h2,h3,h4,h5⟩:=hc i hi;exact⟨ka,kc,da,dc,h0,h1,h2,h3,h4,h5,trivial⟩
theorem GN.below {C:Nat->Nat->Prop} {w w' : World} {a:Option Addr} {n:Nat} {N:Nat->Tn} (h:GN C w a n N) (hb:Bl w w'):GN C w' a n N:=by
 rcases h with h|⟨b,o,rfl,hc⟩;.exact Or.inl h
 .refine Or.inr ⟨b,o,rfl,λi hi=>?_⟩;obtain⟨ka,kc,da,dc,h0,h1,h2,h3,h4,h5,h6⟩:=hc i hi;refine⟨ka,kc,da,dc,?_,?_,?_,?_,h4.below hb,h5.below hb,h6⟩;.rw[hb.cell (Ws _ _ h0)];exact h0
  .rw[hb.cell (Ws _ _ h1)];exact h1
  .rw[hb.cell (Ws _ _ h2)];exact h2
  .rw[hb.cell (Ws _ _ h3)];exact h3
theorem Sl {C:Nat->Nat->Prop} {N:Nat->Tn} (h:GN C w a n N) (hn:n≠0):∃b o KA DA KC DC,a=some (ad b o)/\O6 w b o n N KA DA KC DC/\∀i,i<n->BE w (KA i) (N i).kn (gt (JB (N i)))/\C (N i).kn (KC i):=by
 rcases h with h|⟨b,o,rfl,hc⟩;.exact absurd h hn
 .have each:∀i,i<n->∃q:Option Addr × Nat × Option Addr × Nat,w.cell? (ad b (o+i*4))=some (.bool (N i).lf)/\w.cell? (ad b (o+i*4+1))=some (.slice q.1 (N i).kn q.2.1)/\w.cell? (ad b (o+i*4+2))=some (.slice q.2.2.1 (N i).dn q.2.2.2)/\w.cell? (ad b (o+i*4+3))=some (iv (N i).ct)/\BE w q.1 (N i).kn (N i).ks/\Rd .i64 w q.2.2.1 (N i).dn (N i).kd/\C (N i).kn q.2.1:=by intro i hi;obtain⟨ka,kc,da,dc,h0,h1,h2,h3,h4,h5,h6⟩:=hc i hi;exact⟨(ka,kc,da,dc),h0,h1,h2,h3,h4,h5,h6⟩
  obtain⟨q,hq⟩:=choose_lt each;refine⟨b,o,λi=>(q i).1,λi=>(q i).2.2.1,λi=>(q i).2.1,λi=>(q i).2.2.2,rfl,λi hi=>?_,λi hi=>?_⟩;.obtain⟨h0,h1,h2,h3,h4,h5,h6⟩:=hq i hi;exact⟨h0,h1,h2,h3,h5⟩
  .obtain⟨h0,h1,h2,h3,h4,h5,h6⟩:=hq i hi;exact⟨h4.congr (λj hj=>(Np (N i) j hj).symm),h6⟩
theorem Vf (b o n c p:Nat) (hp:p<n) (w:World):(Instr.indexAt 35 (.slice (some (ad b o)) n c) (iv (p:Int))).run Tryz.prog w=.ok (.pointer (some (ad b (o+p)))) w:=by simp[Instr.indexAt,go_sem];intro h;omega
theorem Sy (C:Nat->Nat->Prop) (a:Option Addr) (n c:Nat) (N:Nat->Tn) (w:World) (h:GN C w a n N) (hn:n<=1048576) (hN:∀i,i<n->Bf (N i)) :
  WS 64 #[.agg #[.slice a n c]] w (Uh C w n N):=by
 by_cases h0:n=0
 .have i0:(n:Int)<1:=by omega
  have i0' : decide ((n:Int)<1)=true:=decide_eq_true i0;have HNo:U (¬ VT n N):=λ⟨t,hv⟩=>by have:=hv.1;omega
  clear h hN h0;go_enter Tryz.func64,Tryz.ntmps64;go_wp2;refine bodyPost_ret (v:=.tuple #[.agg #[.bool false,.slice none 0 0,.slice none 0 0],.bool false]) (by simp[results,Tryz.results64,go_sem]) rfl ⟨(Aa _ _).alloc (by simp) _,_,_,_,_,_,_,_,_,rfl,.inl ⟨rfl,HNo.o,.inl rfl⟩⟩
 .by_cases h5:5000<n
  .have i0:¬ (n:Int)<1:=by omega
   have i0' : decide ((n:Int)<1)=false:=decide_eq_false i0;have i5:(5000:Int)<(n:Int):=by omega
   have i5' : decide ((5000:Int)<(n:Int))=true:=decide_eq_true i5;have HNo:U (¬ VT n N):=λ⟨t,hv⟩=>by have:=hv.2.1;omega
   clear h hN h0;go_enter Tryz.func64,Tryz.ntmps64;go_wp2;refine bodyPost_ret (v:=.tuple #[.agg #[.bool false,.slice none 0 0,.slice none 0 0],.bool false]) (by simp[results,Tryz.results64,go_sem]) rfl ⟨(Aa _ _).alloc (by simp) _,_,_,_,_,_,_,_,_,rfl,.inl ⟨rfl,HNo.o,.inl rfl⟩⟩
  .have i0:¬ (n:Int)<1:=by omega
   have i0' : decide ((n:Int)<1)=false:=decide_eq_false i0;have i5:¬ (5000:Int)<(n:Int):=by omega
   have i5' : decide ((5000:Int)<(n:Int))=false:=decide_eq_false i5;obtain⟨b,o,KA,DA,KC,DC,rfl,hns,hks⟩:=Sl h h0;have HNest:U (∀W,Bl w W->WS 110 #[.slice (some (ad b o)) n c,iv 0,iv 0] W (Lh (λw' S t v=>AD (λa n c X=>BE w a n X/\C n c) S w' 21 t v) W (AN N n 21 0) n)):=λW hW=>RC (λa n c X=>BE w a n X/\C n c) b o n c N KA DA KC DC hks (by omega) hN 21 0 rfl (by omega) W 0 0 rfl (by omega) (hns.below hW);have HRd:U (Bk w (some (ad b o)) n N/\∀i,i<n->Bf (N i)):=⟨h.rd,hN⟩;clear hns hks h hN;go_enter Tryz.func64,Tryz.ntmps64;go_wp2_with fail
   refine (HNest.o _ ((Aa _ _).alloc (by simp) _)).mono ?_;rintro e w1 ⟨hb1,lf,ka,kn,kc,ca,cn,cc,y,ok,rfl,hr⟩;have HR:U ((ok=false/\AN N n 21 0=none)\/(ok=true/\∃t y',AN N n 21 0=some (t,y')/\y=(y' : Int)/\y'<=n/\AD (λa n c X=>BE w a n X/\C n c) (λb=>w.heap.size+2<=b) w1 21 t (.agg #[.bool lf,.slice ka kn kc,.slice ca cn cc]))):=by
    rcases hr with hr|⟨h1,t,y',h2,h3,h4,h5⟩;.exact Or.inl hr
    .exact Or.inr ⟨h1,t,y',h2,h3,h4,AD.mono (λ_ _ _ _ q=>q) (λb hs _=>by simpa using hs) (Wu _) (λ_ _ _ _=>rfl) h5⟩
   have HB1:U (Bx w1 w.heap.size 73 #[.slice (some (ad b o)) n c]/\Bx w1 (w.heap.size+1) 134 #[.bool false,.slice none 0 0,.slice none 0 0]/\Bl w w1/\w.heap.size+2<=w1.heap.size):=by have hs:=hb1.size;simp at hs;refine⟨((Bx.new _ _ _).alloc _).below hb1,?_,((Aa _ _).alloc (by simp) _).trans (hb1.mono (by simp;omega)),by omega⟩;have q:=(Bx.new (w.alloc (.cells #[.slice (some (ad b o)) n c] 73)) #[.bool false,.slice none 0 0,.slice none 0 0] 134).below hb1;simpa using q
   clear hb1 hr HNest;go_upto_region 4 with fail
   have HB2:U (Bx (w1.alloc (.cells #[.bool lf,.slice ka kn kc,.slice ca cn cc] 134)) w.heap.size 73 #[.slice (some (ad b o)) n c]/\Bx (w1.alloc (.cells #[.bool lf,.slice ka kn kc,.slice ca cn cc] 134)) (w.heap.size+1) 134 #[.bool false,.slice none 0 0,.slice none 0 0]/\Bx (w1.alloc (.cells #[.bool lf,.slice ka kn kc,.slice ca cn cc] 134)) w1.heap.size 134 #[.bool lf,.slice ka kn kc,.slice ca cn cc]/\Bl w (w1.alloc (.cells #[.bool lf,.slice ka kn kc,.slice ca cn cc] 134))/\w.heap.size+2<=w1.heap.size/\∀t,AD (λa n c X=>BE w a n X/\C n c) (λb=>w.heap.size+2<=b) w1 21 t (.agg #[.bool lf,.slice ka kn kc,.slice ca cn cc])->AD (λa n c X=>BE w a n X/\C n c) (λb=>w.heap.size+2<=b) (w1.alloc (.cells #[.bool lf,.slice ka kn kc,.slice ca cn cc] 134)) 21 t (.agg #[.bool lf,.slice ka kn kc,.slice ca cn cc])):=
    ⟨HB1.o.1.alloc _,HB1.o.2.1.alloc _,Bx.new _ _ _,HB1.o.2.2.1.trans ((Aa _ _).mono HB1.o.2.2.1.size),HB1.o.2.2.2,λt q=>q.below (Aa _ _)⟩
   generalize (w1.alloc (.cells #[.bool lf,.slice ka kn kc,.slice ca cn cc] 134))=W at HB2 ⊢;clear HB1;have hxb:w.heap.size+2<=w1.heap.size:=HB2.o.2.2.2.2.1;have y0:=HB2.o.1.cell 0;have r0:=HB2.o.2.1.cell 0;have r1:=HB2.o.2.1.cell 1;have r2:=HB2.o.2.1.cell 2;have rf0:=HB2.o.2.1.frozen 0;have rf1:=HB2.o.2.1.frozen 1;have rf2:=HB2.o.2.1.frozen 2;have rl:=HB2.o.2.1.lt;simp at y0 r0 r1 r2;have HZ:U (∀W',Bl W W'->∀v0 v1 v2,Bl w (((W'.setCell (ad (w.heap.size+1) 0) v0).setCell (ad (w.heap.size+1) 1) v1).setCell (ad (w.heap.size+1) 2) v2)):=λW' hW' v0 v1 v2=>(((HB2.o.2.2.2.1.trans (hW'.mono HB2.o.2.2.2.1.size)).setCell (by simp) _).setCell (by simp) _).setCell (by simp) _;cases ok with
   | false=>
    have HNo:U (¬ VT n N):=by
     rintro⟨t,_,_,hv,_⟩;rcases HR.o with ⟨_,q⟩|⟨q,_⟩;.rw[q] at hv;cases hv
     .cases q
    clear HR;go_wp2;refine bodyPost_ret (v:=.tuple #[.agg #[.bool false,.slice none 0 0,.slice none 0 0],.bool false]) (by simp[results,Tryz.results64,go_sem,r0,r1,r2]) rfl ⟨HZ.o _ (Wt _ _) _ _ _,_,_,_,_,_,_,_,_,rfl,.inl ⟨rfl,HNo.o,.inl rfl⟩⟩
   | true=>
    obtain⟨t,y',hne,hy,hyn,hna⟩:∃t y',AN N n 21 0=some (t,y')/\y=(y' : Int)/\y'<=n/\AD (λa n c X=>BE w a n X/\C n c) (λb=>w.heap.size+2<=b) w1 21 t (.agg #[.bool lf,.slice ka kn kc,.slice ca cn cc]):=by
     rcases HR.o with ⟨q,_⟩|⟨_,q⟩;.cases q
     .exact q
    subst hy;have HS:U (G5 C w W b o n c w1.heap.size t lf ka kn kc ca cn cc):=⟨HB2.o.1,HB2.o.2.1,HB2.o.2.2.1,hxb,HB2.o.2.2.2.2.2 t hna,HB2.o.2.2.2.1⟩;have HNe:U (AN N n 21 0=some (t,y')):=hne;have hend:=DQ hne;have HFit:U (Ad 21 t<=5000/\(Ab 21 t).length<=1099511627776):=by
     have h1:=Hs (Mr HRd.o.2 hne);constructor;.omega
     .omega
    clear HR hna HB2;generalize w1.heap.size=xb at HS hxb ⊢;by_cases hyn2:y'=n
    .subst hyn2;have HEnd:U (Ad 21 t=y'):=by show Ad 21 t=y';omega
     have iy:((y' : Int) != (y' : Int))=false:=by simp
     have x0:=HS.o.xx.cell 0;have x1:=HS.o.xx.cell 1;have x2:=HS.o.xx.cell 2;simp at x0 x1 x2;clear hne hend;go_wp2_with fail
     refine (OH 21 t _ true _ HS.o.na.na HFit.o.1 (Wu _)).mono ?_;rintro e w2 ⟨rfl,hb2⟩;have HS2:U (G5 C w w2 b o y' c xb t lf ka kn kc ca cn cc):=HS.o.below hb2;have HW2:U (Bl W w2):=hb2;obtain⟨D,hD⟩:∃D,A3 21 true t=D:=⟨_,rfl⟩;rw[hD];have HD:U (A3 21 true t=D):=hD;clear hb2 hD y0 r0 r1 r2 rf0 rf1 rf2 rl x0 x1 x2;have y0:=HS2.o.tb.cell 0;have r0:=HS2.o.rb.cell 0;have r1:=HS2.o.rb.cell 1;have r2:=HS2.o.rb.cell 2;have rf0:=HS2.o.rb.frozen 0;have rf1:=HS2.o.rb.frozen 1;have rf2:=HS2.o.rb.frozen 2;have rl:=HS2.o.rb.lt;have x0:=HS2.o.xx.cell 0;have x1:=HS2.o.xx.cell 1;have x2:=HS2.o.xx.cell 2;simp at y0 r0 r1 r2 x0 x1 x2;by_cases hneg:D<0
     .have iD:decide (D<0)=true:=decide_eq_true hneg;have HNo:U (¬ VT y' N):=by rintro⟨t2,_,_,hv,⟨h2,hb⟩,_⟩;rw[HNe.o] at hv;injection hv with hv;injection hv with hv _;subst hv;have:=Ex hb;have:=HD.o;omega
      go_wp2;refine bodyPost_ret (v:=.tuple #[.agg #[.bool false,.slice none 0 0,.slice none 0 0],.bool false]) (by simp[results,Tryz.results64,go_sem,r0,r1,r2]) rfl ⟨HZ.o _ HW2.o _ _ _,_,_,_,_,_,_,_,_,rfl,.inl ⟨rfl,HNo.o,.inl rfl⟩⟩
     .have iD:decide (D<0)=false:=decide_eq_false hneg;have HBal:U (∃h,Br 21 true t h):=by obtain⟨h,_,hb⟩:=IU (d:=21) (root:=true) (t:=t) (by rw[HD.o];omega);exact⟨h,hb⟩
      go_wp2_with fail
      refine (EI 21 t _ _ HS2.o.na.na HFit.o.1 HFit.o.2).mono ?_;rintro e w3 ⟨a3,c3,he,ho3,hb3,_⟩;obtain⟨L,hL⟩:∃L,Ab 21 t=L:=⟨_,rfl⟩;obtain⟨m,hm⟩:∃m,m=L.length:=⟨_,rfl⟩;rw[hL,<- hm] at he ho3;subst he;have HL:U (Ab 21 t=L/\m=L.length):=⟨hL,hm⟩;have HS3:U (G5 C w w3 b o y' c xb t lf ka kn kc ca cn cc):=HS2.o.below hb3;have HW3:U (Bl W w3):=HW2.o.trans (hb3.mono HW2.o.size);have HK3:U (BE w3 a3 m (gt L)):=ho3.rd;have hm40:m<=1099511627776:=by have:=HFit.o.2;rw[hL] at this;omega
      clear hb3 ho3 y0 r0 r1 r2 rf0 rf1 rf2 rl x0 x1 x2 hL hm;go_wp2;go_loopw [8] (λi wr=>∃k z:Nat,k<=m/\i=iv k/\L4 L k/\wr=w3.drewN z) (λi _=>m-(intOf i).toNat)
      case atStart=>exact⟨0,0,Ww _,rfl,λj hj=>absurd hj (Wy _),rfl⟩
      case round=>
       obtain⟨k,z,hk,rfl,hasc,rfl⟩:=hrel;have HA:U (L4 L k):=hasc;clear hasc;have r0:=HS3.o.rb.cell 0;have r1:=HS3.o.rb.cell 1;have r2:=HS3.o.rb.cell 2;have rf0:=HS3.o.rb.frozen 0;have rf1:=HS3.o.rb.frozen 1;have rf2:=HS3.o.rb.frozen 2;have rl:=HS3.o.rb.lt;simp at r0 r1 r2;by_cases hlt:k<m
       .rcases HK3.o with q|⟨b3,o3,rfl,hc3⟩;.omega
        have s1:=hc3 k hlt;have hk0:(0:Int)<=(k:Int):=by omega
        have hkm:(k:Int)<(m:Int):=by omega
        by_cases h16:16<(gt L k).size
        .have j16:(16:Int)<((gt L k).size:Int):=by omega
         have j16' : decide ((16:Int)<((gt L k).size:Int))=true:=decide_eq_true j16;have n16' : decide (16<(gt L k).size)=true:=decide_eq_true h16;have HNo:U (¬ VT y' N):=by rintro⟨t2,_,_,hv,_,hs,_⟩;rw[HNe.o] at hv;injection hv with hv;injection hv with hv _;subst hv;rw[HL.o.1] at hs;have:=(hs k (by rw[<- HL.o.2];exact hlt)).1;omega
         clear hc3;go_wp2;go_quiet (fail)
         go_wp2;refine bodyPost_ret (v:=.tuple #[.agg #[.bool false,.slice none 0 0,.slice none 0 0],.bool false]) (by simp[results,Tryz.results64,go_sem,r0,r1,r2]) rfl ⟨HZ.o _ (Af HW3.o _) _ _ _,_,_,_,_,_,_,_,_,rfl,.inl ⟨rfl,HNo.o,.inl rfl⟩⟩
        .have j16:¬ (16:Int)<((gt L k).size:Int):=by omega
         have j16' : decide ((16:Int)<((gt L k).size:Int))=false:=decide_eq_false j16;have n16' : decide (16<(gt L k).size)=false:=decide_eq_false h16;by_cases hk00:k=0
         .have jk:¬ (0:Int)<(k:Int):=by omega
          have jk' : decide ((0:Int)<(k:Int))=false:=decide_eq_false jk;have nk' : decide (0<k)=false:=decide_eq_false (by omega);have HA2:U (L4 L (k+1)):=by
           intro i hi;have e:i=k:=by omega
           subst e;exact⟨by omega,λh=>by omega⟩
          clear hc3 hk00;go_wp2;go_quiet (fail)
          go_wp2;go_roundw;case rel=>exact⟨k+1,_,by omega,by go_num,HA2.o,rfl⟩
          case measure=>simp[intOf];omega
         .obtain⟨p,hp⟩:∃p,k=p+1:=⟨k-1,by omega⟩;have jk:(0:Int)<(k:Int):=by omega
          have jk' : decide ((0:Int)<(k:Int))=true:=decide_eq_true jk;have nk0:0<k:=by omega
          have nk' : decide (0<k)=true:=decide_eq_true nk0;have hp1:p<m:=by omega
          have s2:=hc3 p hp1;have hix:∀wz,(Instr.indexAt 35 (.slice (some (ad b3 o3)) m c3) (iv ((k:Int)-1))).run Tryz.prog wz=.ok (.pointer (some (ad b3 (o3+p)))) wz:=λwz=>by rw[show (k:Int)-1=(p:Int) by omega];exact Vf b3 o3 m c3 p hp1 wz
          have HPk:U (k=p+1):=hp;have H16:U ((gt L k).size<=16):=by show (gt L k).size<=16;omega
          clear hc3 hk00 hp;cases hls:Op.bytesLess (gt L p).toList (gt L k).toList with
          | true=>
           have HA2:U (L4 L (k+1)):=by
            intro i hi;by_cases e:i=k;.subst e;exact⟨H16.o,λ_=>by rw[show i-1=p by have:=HPk.o;omega];exact hls⟩
            .exact HA.o i (by omega)
           go_wp2;go_quiet (fail)
           go_wp2;go_roundw;case rel=>exact⟨k+1,_,by omega,by go_num,HA2.o,rfl⟩
           case measure=>simp[intOf];omega
          | false=>
           have HNo:U (¬ VT y' N):=by rintro⟨t2,_,_,hv,_,hs,_⟩;rw[HNe.o] at hv;injection hv with hv;injection hv with hv _;subst hv;rw[HL.o.1] at hs;have q:=(hs k (by rw[<- HL.o.2];exact hlt)).2 nk0;rw[show k-1=p by have:=HPk.o;omega,hls] at q;cases q
           go_wp2;go_quiet (fail)
           go_wp2;refine bodyPost_ret (v:=.tuple #[.agg #[.bool false,.slice none 0 0,.slice none 0 0],.bool false]) (by simp[results,Tryz.results64,go_sem,r0,r1,r2]) rfl ⟨HZ.o _ (Af HW3.o _) _ _ _,_,_,_,_,_,_,_,_,rfl,.inl ⟨rfl,HNo.o,.inl rfl⟩⟩
       .have e:k=m:=by omega
        subst e;have HAll:U (L4 (Ab 21 t) (Ab 21 t).length):=by show L4 (Ab 21 t) (Ab 21 t).length;rw[HL.o.1,<- HL.o.2];exact HA.o
        have hkf:¬ (k:Int)<(k:Int):=by omega
        have y0:=HS3.o.tb.cell 0;have x0:=HS3.o.xx.cell 0;have x1:=HS3.o.xx.cell 1;have x2:=HS3.o.xx.cell 2;have xl:=HS3.o.xx.lt;simp at y0 x0 x1 x2;clear HA hlt hk;have HFl:U (∀W',Bl w3 W'->WS 113 #[.agg #[.bool lf,.slice ka kn kc,.slice ca cn cc],iv 0] W' (λe w'=>∃g rc F,e=.returned (.slice (some (ad g 0)) y' rc)/\Bl W' w'/\Bk w' (some (ad g 0)) y' F/\AJ F 0 21 t 0/\∀i,i<y'->Bf (F i))):=by intro W' hW';obtain⟨h,hb⟩:=HBal.o;refine (Rp 21 t _ true h 0 W' (NA.below HS3.o.na.na hW') HFit.o.1 HFit.o.2 hb (by omega) (by have:=HFit.o.1;omega)).mono (λe w' hr=>?_);obtain⟨ra,rc,G,xs,e1,hb1,ho,hf,ht⟩:=hr;rw[HEnd.o] at e1 ho hf;obtain⟨a6,c6,e6,hfo⟩:=Ap ho;obtain⟨g,eg,_,_,hc⟩:=hfo h0;injection e6 with e6 _ _;rw[<- e6] at eg;subst eg;exact⟨g,rc,G,e1,hb1,hf.rd hc,ht,λi hi=>GM ht hb i (Ww _) (by rw[HEnd.o];omega)⟩
        have HB4:U (∀W' : World,Bl w3 W'->(G5 C w W' b o y' c xb t lf ka kn kc ca cn cc/\Bk W' (some (ad b o)) y' N/\Bl W W')):=λW' hW'=>⟨HS3.o.below hW',HRd.o.1.below (HS3.o.bel.trans (hW'.mono HS3.o.bel.size)),HW3.o.trans (hW'.mono HW3.o.size)⟩;go_upto_region 12 with fail
        have H12:U (Bl w3 (w3.drewN z)):=Af (Wt _ _) z;clear y0 x0 x1 x2 xl r0 r1 r2 rf0 rf1 rf2 rl;generalize w3.drewN z=W12 at H12 ⊢;have HC:U (∀W',Bl W12 W'->(G5 C w W' b o y' c xb t lf ka kn kc ca cn cc/\Bk W' (some (ad b o)) y' N/\Bl W W')):=λW' hW'=>HB4.o W' (H12.o.trans (hW'.mono H12.o.size));have HS12:U (G5 C w W12 b o y' c xb t lf ka kn kc ca cn cc):=(HC.o W12 (Wt _ _)).1;have y0:=HS12.o.tb.cell 0;have x0:=HS12.o.xx.cell 0;have x1:=HS12.o.xx.cell 1;have x2:=HS12.o.xx.cell 2;simp at y0 x0 x1 x2;have hxne:¬ xb=w.heap.size+1:=by omega
        have hxne2:¬ w.heap.size+1=xb:=by omega
        go_region_held3 (λw'=>w'.cell? (ad w.heap.size 0)=some (.slice (some (ad b o)) y' c)/\w'.cell? (ad xb 0)=some (.bool lf)/\w'.cell? (ad xb 1)=some (.slice ka kn kc)/\w'.cell? (ad xb 2)=some (.slice ca cn cc)) (go_keep)
         (first
         | (go_at_call 113;refine (HFl.o W12.drew (H12.o.drew)).mono ?_;rintro e w4 ⟨g,rc,F,rfl,hb4,hr4,ht4,hf4⟩;have a0:=(HC.o w4 (Ao hb4)).1.tb.cell 0;have b0:=(HC.o w4 (Ao hb4)).1.xx.cell 0;have b1:=(HC.o w4 (Ao hb4)).1.xx.cell 1;have b2:=(HC.o w4 (Ao hb4)).1.xx.cell 2;simp at a0 b0 b1 b2)
         | (go_at_call 112;refine (JO (some (ad g 0)) (some (ad b o)) y' y' rc c F N w4 hr4 (HC.o w4 (Ao hb4)).2.1 (by omega) (by omega) hf4 HRd.o.2).mono ?_;rintro e w5 ⟨bb,rfl,hbb,hb5⟩;have a0:=((HC.o w4 (Ao hb4)).1.below hb5).tb.cell 0;have b0:=((HC.o w4 (Ao hb4)).1.below hb5).xx.cell 0;have b1:=((HC.o w4 (Ao hb4)).1.below hb5).xx.cell 1;have b2:=((HC.o w4 (Ao hb4)).1.below hb5).xx.cell 2;have r0:=((HC.o w4 (Ao hb4)).1.below hb5).rb.cell 0;have r1:=((HC.o w4 (Ao hb4)).1.below hb5).rb.cell 1;have r2:=((HC.o w4 (Ao hb4)).1.below hb5).rb.cell 2;have rf0:=((HC.o w4 (Ao hb4)).1.below hb5).rb.frozen 0;have rf1:=((HC.o w4 (Ao hb4)).1.below hb5).rb.frozen 1;have rf2:=((HC.o w4 (Ao hb4)).1.below hb5).rb.frozen 2;have rl:=((HC.o w4 (Ao hb4)).1.below hb5).rb.lt;simp at a0 b0 b1 b2 r0 r1 r2))
        have HV:U (bb=true↔Dv y' N t):=by
         show bb=true↔Dv y' N t;rw[hbb];constructor;.rintro⟨_,hs⟩;refine⟨by omega,by omega,HNe.o,HBal.o,HAll.o,AJ.congr (λi _ hi=>hs i (by rw[HEnd.o] at hi;omega)) ht4⟩
         .rintro⟨_,_,_,_,_,ht⟩;exact⟨trivial,λi hi=>AJ.same ht4 ht i (Ww _) (by rw[HEnd.o];omega)⟩
        have HVT:U (VT y' N->Dv y' N t):=by rintro⟨t2,hv⟩;have q:=hv.2.2.1;rw[HNe.o] at q;injection q with q;injection q with q _;subst q;exact hv
        have HF:U (G5 C w w5 b o y' c xb t lf ka kn kc ca cn cc/\Bl W w5):=⟨(HC.o w4 (Ao hb4)).1.below hb5,(HC.o w4 (Ao hb4)).2.2.trans (hb5.mono (HC.o w4 (Ao hb4)).2.2.size)⟩;clear hbb hb5 hr4 hf4 ht4 hb4 HC HFl HB4;go_wp2;have HNA:U (TG C (((w5.setCell (ad (w.heap.size+1) 0) (.bool lf)).setCell (ad (w.heap.size+1) 1) (.slice ka kn kc)).setCell (ad (w.heap.size+1) 2) (.slice ca cn cc)) 21 t (.agg #[.bool lf,.slice ka kn kc,.slice ca cn cc])):=by have hst:=HF.o.1;have hbz:Bl w (((w5.setCell (ad (w.heap.size+1) 0) (.bool lf)).setCell (ad (w.heap.size+1) 1) (.slice ka kn kc)).setCell (ad (w.heap.size+1) 2) (.slice ca cn cc)):=HZ.o _ HF.o.2 _ _ _;refine hst.nat.mono (λ_ _ _ _ q=>⟨q.1.below hbz,q.2⟩) (λ_ _ _=>trivial) (by simp[World.setCell]) (λb j hs _=>?_);refine World.cell?_of_block ?_;show (((w5.setCell (ad (w.heap.size+1) 0) (.bool lf)).setCell (ad (w.heap.size+1) 1) (.slice ka kn kc)).setCell (ad (w.heap.size+1) 2) (.slice ca cn cc)).heap[b]?=_;rw[Wv _ _ _ _ (show b≠w.heap.size+1 by omega),Wv _ _ _ _ (show b≠w.heap.size+1 by omega),Wv _ _ _ _ (show b≠w.heap.size+1 by omega)]
        cases bb with
        | true=>refine bodyPost_ret (v:=.tuple #[.agg #[.bool lf,.slice ka kn kc,.slice ca cn cc],.bool true]) (by simp[results,Tryz.results64,go_sem,r0,r1,r2]) rfl ⟨HZ.o _ HF.o.2 _ _ _,_,_,_,_,_,_,_,_,rfl,.inr ⟨rfl,t,HV.o.1 rfl,HNA.o⟩⟩
        | false=>refine bodyPost_ret (v:=.tuple #[.agg #[.bool lf,.slice ka kn kc,.slice ca cn cc],.bool false]) (by simp[results,Tryz.results64,go_sem,r0,r1,r2]) rfl ⟨HZ.o _ HF.o.2 _ _ _,_,_,_,_,_,_,_,_,rfl,.inl ⟨rfl,λh=>absurd (HV.o.2 (HVT.o h)) (by simp),.inr ⟨t,HNA.o.na,HFit.o⟩⟩⟩
    .have iy:((y' : Int) != (n:Int))=true:=by simp;omega
     have HNo:U (¬ VT n N):=by rintro⟨t2,_,_,hv,_⟩;rw[HNe.o] at hv;injection hv with hv;injection hv with _ hv;exact hyn2 hv
     clear hne hend;go_wp2;refine bodyPost_ret (v:=.tuple #[.agg #[.bool false,.slice none 0 0,.slice none 0 0],.bool false]) (by simp[results,Tryz.results64,go_sem,r0,r1,r2]) rfl ⟨HZ.o _ (Wt _ _) _ _ _,_,_,_,_,_,_,_,_,rfl,.inl ⟨rfl,HNo.o,.inl rfl⟩⟩
theorem Q1 (a:Option Addr) (n c:Nat) (N:Nat->Tn) (w:World) (h:Bk w a n N) (hn:n<=1048576) (hN:∀i,i<n->Bf (N i)) :
  WS 64 #[.agg #[.slice a n c]] w (To w n N):=by
 refine (Sy (λ_ _=>True) a n c N w h.any hn hN).mono ?_;rintro e w' ⟨hb,lf,ka,kn,kc,ca,cn,cc,ok,he,hr⟩;refine⟨hb,lf,ka,kn,kc,ca,cn,cc,ok,he,?_⟩;rcases hr with hr|⟨h1,t,h2,h3⟩;.exact .inl hr
 .exact .inr ⟨h1,t,h2,h3.na⟩
variable {L:List Qd}
theorem Tryz.info140 : (Tryz.prog.info? 140).map (λi=>(i.zero,i.size,i.bytes))=some (some (.agg #[iv 0,iv 0,iv 0,iv 0]),4,32):=by kernel_rfl
def Aq:List Qd->List Value
 | []=>[]
 | q::L=>iv q.s::iv q.p::iv q.o::iv q.g::Aq L
theorem CB:∀(L M:List Qd),Aq (L++M)=Aq L++Aq M
 | [],M=>rfl
 | q::L,M=>by
  show _::_::_::_::Aq (L++M)=_
  rw[CB L M]
  rfl
theorem Kc:∀(L:List Qd) (i:Nat) (h:i<L.length),(Aq L)[i*4]?=some (iv L[i].s)/\(Aq L)[i*4+1]?=some (iv L[i].p)/\(Aq L)[i*4+2]?=some (iv L[i].o)/\(Aq L)[i*4+3]?=some (iv L[i].g)
 | [],i,h=>absurd h (Wy _)
 | q::L,0,h=>⟨rfl,rfl,rfl,rfl⟩
 | q::L,i+1,h=>by
  have hh:=Kc L i (by simpa using h)
  have e:∀t,(Aq (q::L))[(i+1)*4+t]?=(Aq L)[i*4+t]?:=λt=>by
   rw[show (i+1)*4+t=(i*4+t)+1+1+1+1 by omega]
   rfl
  have e0:=e 0
  rw[Nat.add_zero,Nat.add_zero] at e0
  exact⟨e0.trans hh.1,(e 1).trans hh.2.1,(e 2).trans hh.2.2.1,(e 3).trans hh.2.2.2⟩
def BW (w:World) (a:Option Addr) (L:List Qd):Prop:=
 L.length=0\/∃b,a=some (ad b 0)/\∀i (h:i<L.length),w.cell? (ad b (i*4))=some (iv L[i].s)/\w.cell? (ad b (i*4+1))=some (iv L[i].p)/\w.cell? (ad b (i*4+2))=some (iv L[i].o)/\w.cell? (ad b (i*4+3))=some (iv L[i].g)
theorem BW.below {w':World} (h:BW w a L) (hb:Bl w w'):BW w' a L:=by
 rcases h with h|⟨b,rfl,hc⟩;.exact Or.inl h
 .refine Or.inr ⟨b,rfl,λi hi=>?_⟩;obtain⟨h0,h1,h2,h3⟩:=hc i hi;exact⟨by rw[hb.cell (Ws _ _ h0)];exact h0,by rw[hb.cell (Ws _ _ h1)];exact h1,by rw[hb.cell (Ws _ _ h2)];exact h2,by rw[hb.cell (Ws _ _ h3)];exact h3⟩
theorem F8 {B:Nat} {c:Nat} (h:w.ownsRow B 140 4 (.slice a L.length c) L.length (Aq L)):BW w a L:=by
 obtain⟨a',c',e,hf⟩:=Ap h;injection e with e;subst e;by_cases h0:L.length=0;.exact .inl h0
 .obtain⟨g,rfl,_,_,hc⟩:=hf h0;refine .inr ⟨g,rfl,λi hi=>?_⟩;obtain⟨q0,q1,q2,q3⟩:=Kc L i hi;exact⟨hc _ _ q0,hc _ _ q1,hc _ _ q2,hc _ _ q3⟩
theorem QO {x y:Qd}:(x.s == y.s && (x.p == y.p && (x.o == y.o && x.g == y.g)))=true↔x=y:=by obtain⟨a,b,c,d⟩:=x;obtain⟨a',b',c',d'⟩:=y;simp
theorem Pt (a:Option Addr) (n c:Nat) (L:List Qd) (q:Qd) (w:World) (h:BW w a L) (hn:n=L.length) (hn2:n<=1048576) :
  WS 68 #[.slice a n c,qv q] w λe w'=>∃b:Bool,e=.returned (.bool b)/\(b=true↔q∈L)/\Bl w w':=by
 have HR:=hid (ai h hn);clear h hn;have hEq:=VK;unfold qv;go_enter Tryz.func68,Tryz.ntmps68;go_wp2;go_loopw [5] (λi wr=>∃k:Nat,k<=n/\i=iv k/\(∀j (h:j<L.length),j<k->L[j]≠q)/\Bl w wr/\Bx wr w.heap.size 140 #[iv q.s,iv q.p,iv q.o,iv q.g]) (λi _=>n-(intOf i).toNat)
 case atStart=>exact⟨0,Ww _,rfl,λj _ hj=>absurd hj (Wy _),Aa _ _,Bx.new _ _ _⟩
 case round=>
  obtain⟨k,hk,rfl,hall,hbel,hbx⟩:=hrel;have HS:=hid (ai hall (ai hbel hbx));by_cases hlt:k<n
  .have hkL:k<L.length:=by rw[<- HR.o.2];exact hlt
   rcases HR.o.1.below hbel with h0|⟨b,rfl,hc⟩;.omega
   obtain⟨s0,s1,s2,s3⟩:=hc k hkL;have z0:=hbx.cell 0;have z1:=hbx.cell 1;have z2:=hbx.cell 2;have z3:=hbx.cell 3;simp at z0 z1 z2 z3;have i0:(0:Int)<=(k:Int):=by omega
   have i1:(k:Int)<(n:Int):=by omega
   have HE:=QO (x:=L[k]) (y:=q);clear hc hall hbel hbx;obtain⟨x,hx⟩:=gn (L[k]);have HXk:=hid hx.symm;rw[<- hx] at s0 s1 s2 s3 HE;clear hx;by_cases he:x=q
   .have HY:=hid (HXk.o.trans he);have hE:∀W:World,(Op.equalIn 10000 140 (.agg #[iv x.s,iv x.p,iv x.o,iv x.g]) (.agg #[iv q.s,iv q.p,iv q.o,iv q.g])).run Tryz.prog W=.ok true W:=λW=>by rw[hEq,HE.2 he]
    clear hEq HE he;go_wp2;go_quiet (fail)
    go_wp2;go_ret;exact⟨true,rfl,by simp only[true_iff];rw[<- HY.o];exact WE _,Af HS.o.2.1 _⟩
   .have hE:∀W:World,(Op.equalIn 10000 140 (.agg #[iv x.s,iv x.p,iv x.o,iv x.g]) (.agg #[iv q.s,iv q.p,iv q.o,iv q.g])).run Tryz.prog W=.ok false W:=λW=>by
     have e:(x.s == q.s && (x.p == q.p && (x.o == q.o && x.g == q.g)))=false:=by
      cases hb:(x.s == q.s && (x.p == q.p && (x.o == q.o && x.g == q.g))) with
      | false=>rfl
      | true=>exact absurd (HE.1 hb) he
     rw[hEq,e]
    have HN:U (∀j (h:j<L.length),j<k+1->L[j]≠q):=λj hj hj2=>by
     by_cases e:j=k;.subst e;rw[HXk.o];exact he
     .exact HS.o.1 j hj (by omega)
    clear hEq HE he;go_wp2;go_quiet (fail)
    go_wp2;go_roundw;case rel=>exact⟨k+1,by omega,by go_num,HN.o,Af HS.o.2.1 _,HS.o.2.2⟩
    case measure=>simp[intOf];omega
  .obtain rfl:k=n:=by omega
   have HN:U (q∉L):=λhm=>by obtain⟨j,hj,e⟩:=List.getElem_of_mem hm;exact HS.o.1 j hj (by rw[HR.o.2];exact hj) e
   clear hall hbel hbx;go_wp2;go_ret;exact⟨false,rfl,by simp[HN.o],HS.o.2.1⟩
variable {X:Nat->ByteArray}{b:Nat}{w' w1 w2:World}
theorem BE.cellOf (h:BE w a n X) (i:Nat) (hi:i<n):∃b o,a=some (ad b o)/\w.cell? (ad b (o+i))=some (.string (X i)):=by
 rcases h with q|⟨b,o,rfl,hc⟩;.omega
 .exact⟨b,o,rfl,hc i hi⟩
theorem Kb {L:List ByteArray} {i:Nat} (h:i<L.length):gt L i=L[i]:=by unfold gt;rw[WA,Wx h];rfl
def Jx (b:Nat) (w w' : World):Prop:=w'.os=w.os/\w'.tape=w.tape/\w'.output=w.output/\w.heap.size<=w'.heap.size/\∀k,k<w.heap.size->k≠b->w'.heap[k]?=w.heap[k]?
theorem Jx.refl (b:Nat) (w:World):Jx b w w:=⟨rfl,rfl,rfl,Wu _,λ_ _ _=>rfl⟩
theorem Jx.below (h:Jx b w w1) (hb:Bl w1 w2):Jx b w w2:=⟨hb.os.trans h.1,hb.tape.trans h.2.1,hb.output.trans h.2.2.1,WC h.2.2.2.1 hb.size,λk hk hn=>(hb.block k (WF hk h.2.2.2.1)).trans (h.2.2.2.2 k hk hn)⟩
theorem Jx.grown {r:Option Nat} (h:Jx b w w1) (hg:w1.grownBy w2 r) (hr:∀g,r=some g->g=b\/w.heap.size<=g):Jx b w w2:=⟨hg.os.trans h.1,hg.tape.trans h.2.1,hg.output.trans h.2.2.1,WC h.2.2.2.1 hg.size,λk hk hn=>(hg.block k (WF hk h.2.2.2.1) (λe=>by rcases hr k e.symm with q|q <;> omega)).trans (h.2.2.2.2 k hk hn)⟩
theorem Jx.bel {B:Nat} (h:Jx b w w') (hB:B<=w.heap.size) (hb:B<=b):Below B w w':=⟨h.1,h.2.1,h.2.2.1,h.2.2.2.1,λk hk=>h.2.2.2.2 k (by omega) (by omega)⟩
theorem BE.ex1 (h:BE w a n X) (he:Jx b w w') (hne:∀g o,a=some (ad g o)->g≠b):BE w' a n X:=by
 rcases h with q|⟨g,o,rfl,hc⟩;.exact .inl q
 .refine .inr ⟨g,o,rfl,λi hi=>?_⟩;have hl:=Ws _ _ (hc i hi);rw[World.cell?_of_block (a:=(ad g (o+i))) (he.2.2.2.2 g hl (hne g o rfl))];exact hc i hi
theorem GZ (perm:Nat) (hp:perm<6) (a:Option Addr) (n c:Nat) (N:Nat->Tn) (t:Ro 21) (w:World) (h:Bk w a n N) (hv:Dv n N t) (hf:∀i,i<n->Bf (N i)) (hk:∀k,k∈Ab 21 t->k.size=16) (hl:(Ab 21 t).length<=300) (L:List Qd) (hL:L=(Ab 21 t).map (Ag perm)) :
  WS 30 #[.agg #[.slice a n c],iv (perm:Int)] w λe w'=>∃a' c',e=.returned (.slice a' L.length c')/\BW w' a' L/\Bl w w':=by
 have hn5:=hv.2.1;have hend:=DQ hv.2.2.1;have HR:U (Bk w a n N/\Dv n N t/\(∀i,i<n->Bf (N i))/\(∀k,k∈Ab 21 t->k.size=16)/\L=(Ab 21 t).map (Ag perm)/\Ad 21 t<=5000/\perm<6):=⟨h,hv,hf,hk,hL,by omega,hp⟩;have HB0:U (∀O1 O2:Obj,Bl w ((w.alloc O1).alloc O2)):=λ_ _=>(Aa _ _).alloc (by simp) _;have HOf:=hid (λW hW=>Q1 a n c N W (h.below hW) (by omega) hf);obtain⟨i0,hi0,hz0,hz1,hz2⟩:=info_parts Tryz.info140;have HI:=hid (ai hi0 (ai hz0 (ai hz1 hz2)));clear h hv hf hk hL hp hend hi0 hz0 hz1 hz2;go_enter Tryz.func30,Tryz.ntmps30;go_wp2_with fail
 (with_reducible refine (HOf.o _ (HB0.o _ _)).mono ?_)
 rintro e w1 ⟨hb1,lf,ka,kn,kc,ca,cn,cc,ok,rfl,hr⟩;have HO1:U (w1.ownsRow (w.heap.size+1) 140 4 (.slice (some (ad (w.heap.size+1) 0)) 0 0) 0 []/\Bl w w1):=by have q:=BB (w.alloc (.cells #[.slice a n c] 73)) 140 (w.heap.size+1) 4 (by simp);rw[WJ] at q;exact⟨Al q hb1,(HB0.o _ _).trans (hb1.mono (by simp;omega))⟩
 rcases hr with ⟨rfl,hno,_⟩|⟨rfl,t',hv',hna⟩;.exact absurd ⟨t,HR.o.2.1⟩ hno
 have et:t'=t:=by have q:=hv'.2.2.1;rw[HR.o.2.1.2.2.1] at q;injection q with q;injection q with q _;exact q.symm
 subst et;have HNA:=hid hna;have HKeys:=hid (λW hW=>EI 21 t' _ W (HNA.o.below hW) HR.o.2.2.2.2.2.1 (by omega));have hz1:w.heap.size+2<=w1.heap.size:=by have:=hb1.size;simpa using this
 clear hna hb1 hv' HOf HB0;go_wp2_with fail
 (with_reducible refine (HKeys.o _ (Aa _ _)).mono ?_)
 rintro e w3 ⟨a3,c3,rfl,ho3,hb3,_,_⟩;have hb13:=(Aa _ _).trans (hb3.mono (by simp));obtain⟨kl,hkl⟩:=gn ((Ab 21 t').length);have HKL:=hid hkl;have S3:U ((kl≠0->∃g,a3=some (ad g 0)/\g≠w.heap.size+1)/\BE w3 a3 kl (gt (Ab 21 t'))/\w3.ownsRow (w.heap.size+1) 140 4 (.slice (some (ad (w.heap.size+1) 0)) 0 0) 0 []/\Bl w w3/\w.heap.size+1<=w3.heap.size):=by
  have q:=HO1.o.2.trans (hb13.mono HO1.o.2.size);have qs:=hb13.size;refine⟨λh0=>?_,by rw[hkl];exact ho3.rd,Al HO1.o.1 hb13,q,by omega⟩;rcases ho3 with h' | ⟨g,e,hg,_⟩;.omega
  .exact⟨g,e,by simp at hg;omega⟩
 rw[<- hkl] at hl ⊢;clear hkl ho3 hb3 hb13 HO1 HKeys HNA;go_wp2;go_loopw [5,9] (λout i wr=>∃(k:Nat) (R:List Qd),k<=kl/\i=iv k/\R=((Ab 21 t').take k).map (Ag perm)/\wr.ownsRow (w.heap.size+1) 140 4 out R.length (Aq R)/\Jx (w.heap.size+1) w3 wr/\(∀g,out.ownBlock=some g->g=w.heap.size+1\/w3.heap.size<=g)) (λ_ i _=>kl-(intOf i).toNat)
 case atStart=>exact⟨0,[],Ww _,rfl,rfl,S3.o.2.2.1,Jx.refl _ _,λg e=>.inl (by simp[Value.ownBlock] at e;omega)⟩
 case round=>
  obtain⟨k,R,hk,rfl,hR,hown,hex,hblk⟩:=hrel;obtain⟨ar,cr,er,_⟩:=Ap hown;subst er;have hRl:R.length=k:=by rw[hR,WH,WI,<- HKL.o];omega
  have HQ:=hid (ai hown (ai hex (ai hR (ai hblk hRl))));clear hown hex hR hblk hRl;obtain⟨rl,hrl⟩:=gn R.length;have HRl:=hid hrl;have hrlk:=hrl.trans HQ.o.2.2.2.2;have hrlk1:rl<=k:=by omega
  rw[<- hrl] at HQ ⊢;clear hrl;have k0:(0:Int)<=(k:Int):=by omega
  by_cases hlt:k<kl
  .have k1:(k:Int)<(kl:Int):=by omega
   have hkK:k<(Ab 21 t').length:=by rw[<- HKL.o];exact hlt
   obtain⟨gk,ea,hgne⟩:=S3.o.1 (by omega);have hrd:BE wr a3 kl (gt (Ab 21 t')):=S3.o.2.1.ex1 HQ.o.2.1 (λg o e=>by rw[ea] at e;injection e with e;injection e with e;omega)
   obtain⟨bb,oo,ea2,s1⟩:=hrd.cellOf k hlt;obtain⟨key,hkey⟩:=gn (gt (Ab 21 t') k);rw[<- hkey] at s1;have HKy:U (key=(Ab 21 t')[k]/\key.size=16):=by
    have e:key=(Ab 21 t')[k]:=by rw[hkey,Kb hkK]
    exact⟨e,by rw[e];exact HR.o.2.2.2.1 _ (WE hkK)⟩
   have HQd:=hid (IR perm HR.o.2.2.2.2.2.2 key HKy.o.2 wr);clear hkey hrd ea hrlk;subst ea2;go_wp2_with fail
   (with_reducible refine HQd.o.mono ?_)
   rintro e w5 ⟨rfl,hb5⟩;obtain⟨qd,hqd⟩:=gn (Ag perm key);have HQq:=hid hqd;rw[<- hqd];unfold qv;have HO5:U ((w5.alloc (.cells #[iv qd.s,iv qd.p,iv qd.o,iv qd.g] 140)).ownsRow (w.heap.size+1) 140 4 (.slice ar rl cr) rl (Aq R)/\Jx (w.heap.size+1) w3 (w5.alloc (.cells #[iv qd.s,iv qd.p,iv qd.o,iv qd.g] 140))/\(∀j u,(Aq [qd])[j]?=some u->(w5.alloc (.cells #[iv qd.s,iv qd.p,iv qd.o,iv qd.g] 140)).cell? (ad w5.heap.size j)=some u)):=by refine⟨Al (Al HQ.o.1 hb5) (Aa _ _),(HQ.o.2.1.below hb5).below (Aa _ _),λj u hj=>?_⟩;rw[(Bx.new w5 #[iv qd.s,iv qd.p,iv qd.o,iv qd.g] 140).cell j];simpa[Aq] using hj
   have hz5:=hb5.size;have hzr:=HQ.o.2.1.2.2.2.1;have hz3:=S3.o.2.2.2.2;clear hb5 hqd HQd;go_wp2_with (at_builtin;refine wpList_append_own_at _ rfl _ _ 69 rfl (w.heap.size+1) 140 i0 _ 4 32 Tryz.underlying69 HI.o.1 HI.o.2.1 HI.o.2.2.1 HI.o.2.2.2 rfl (by decide) (.slice ar rl cr) rl (Aq R) rfl HO5.o.1 (ad w5.heap.size 0) 1 1 (Aq [qd]) rfl rfl (λj u hj=>by rw[Addr.add_lit,WM];exact HO5.o.2.2 j u hj) (by intro u hu;simp[Aq] at hu;rcases hu with rfl|rfl|rfl|rfl <;> rfl) (by unfold maxLen;omega) (by omega) (by simp;omega) ?_)
   intro v7 w7 ho7 hg7 _ hat7;have H7:U (w7.ownsRow (w.heap.size+1) 140 4 v7 (R++[qd]).length (Aq (R++[qd]))/\Jx (w.heap.size+1) w3 w7/\(∀g,v7.ownBlock=some g->g=w.heap.size+1\/w3.heap.size<=g)):=by
    refine⟨by rw[CB,WD,<- HRl.o];exact ho7,HO5.o.2.1.grown hg7 HQ.o.2.2.2.1,λg e=>?_⟩;rcases hat7 with q|q;.exact HQ.o.2.2.2.1 g (by rw[<- q];exact e)
    .rw[q] at e;injection e with e;exact .inr (by omega)
   have HN:U (R++[qd]=((Ab 21 t').take (k+1)).map (Ag perm)):=by show R++[qd]=_;rw[List.take_add_one,Wx hkK,List.map_append,<- HQ.o.2.2.1,HQq.o,HKy.o.1];rfl
   obtain⟨a7,c7,e7,_⟩:=Ap ho7;subst e7;clear ho7 hg7 hat7 HO5;go_wp2;go_roundw;case rel=>exact⟨k+1,R++[qd],by omega,by go_num,HN.o,H7.o⟩
   case measure=>simp[intOf];omega
  .obtain rfl:k=kl:=by omega
   have k1:¬ (k:Int)<(k:Int):=by omega
   have HF:U (R=L/\BW wr ar L/\Bl w wr/\rl=L.length):=by
    have e:R=L:=by rw[HQ.o.2.2.1,HR.o.2.2.2.2.1,HKL.o,WG]
    have ho:=HQ.o.1;rw[HRl.o] at ho;refine⟨e,by rw[<- e];exact F8 ho,S3.o.2.2.2.1.trans (HQ.o.2.1.bel S3.o.2.2.2.1.size (by omega)),by rw[<- e];exact HRl.o⟩
   clear hrlk;go_wp2;go_ret;exact⟨ar,⟨cr,by rw[<- HF.o.2.2.2];rfl⟩,HF.o.2.1,HF.o.2.2.1⟩
end Go.Proofs.YtacpbofiipdodaaGreat
namespace Go.Proofs.YtacpbofiipdodaaGreat
open Go Go.ChangeAt Go.ChangeShapes Go.Deep Go.Joins Go.RowKit Go.WideShapes
variable {B g n:Nat}{DC KC:Nat->Nat}{w:World}
theorem Tryz.info73 : (Tryz.prog.info? 73).map (λi=>(i.zero,i.size,i.bytes))=some (some (.agg #[.slice none 0 0]),1,24):=by kernel_rfl
theorem AE.und {w':World} {N:Nat->Tn} {KA DA:Nat->Option Addr} (h:AE w B g n N KA DA KC DC) (hb:Bl w w'):AE w' B g n N KA DA KC DC:=
 ⟨h.le,h.row.of_block (hb.block g h.row.lt),λi hi=>(h.keys i hi).below hb,λi hi=>(h.kids i hi).below hb,h.apartK,h.apartD⟩
theorem G0.put {w1:World} {k:Nat} {M:Nat->Nat} {T:Nat->Nat->Tn} (h:G0 w B g n k M T) (hB:B<=w.heap.size) (hk:k<n) (hb:Bl w w1) {gk:Nat} {KA DA:Nat->Option Addr} (ho:AE w1 w.heap.size gk (M k) (T k) KA DA KC DC):G0 (w1.setCell (ad g k) (.slice (some (ad gk 0)) (M k) (M k))) B g n (k+1) M T:=by
 obtain⟨hg,cur,h1,h2,h3⟩:=h;have h1' : Bx w1 g 73 cur:=(show Bx w g 73 cur from h1).below hb;have hs:=h1'.set k (.slice (some (ad gk 0)) (M k) (M k));refine⟨hg,_,hs,by simpa using h2,λi hi=>?_⟩;by_cases e:i=k;.subst e;refine⟨gk,KA,DA,KC,DC,by simp[h2,hk],?_⟩;have q:=ho.setO (p:=(ad g i)) (by show g<w.heap.size;omega) (.slice (some (ad gk 0)) (M i) (M i));have hle:=q.le;exact⟨by omega,q.row,λj hj=>(q.keys j hj).mono (by omega),λj hj=>(q.kids j hj).mono (by omega),q.apartK,q.apartD⟩
 .obtain⟨gi,KA',DA',KC',DC',q1,q2⟩:=h3 i (by omega);refine⟨gi,KA',DA',KC',DC',?_,(q2.und hb).setO (p:=(ad g k)) hg _⟩;rw[Array.getElem?_setIfInBounds_ne (by omega)];exact q1
theorem G0.setO {w:World} {B g n:Nat} {M:Nat->Nat} {T:Nat->Nat->Tn} (h:G0 w B g n n M T) {p:Addr} (hp:p.block<g) (v:Value):G0 (w.setCell p v) B g n n M T:=by obtain⟨hg,cur,h1,h2,h3⟩:=h;refine⟨hg,cur,by rw[Wv _ _ _ _ (show g≠p.block by omega)];exact h1,h2,λi hi=>?_⟩;obtain⟨gi,KA',DA',KC',DC',q1,q2⟩:=h3 i hi;exact⟨gi,KA',DA',KC',DC',q1,q2.setO (by omega) _⟩
section
variable {H:Type} {enc:TypeId × Value->H} {W:World}
set_option maxRecDepth 100000 in
theorem Ru {fuel:Nat} {cs:List Value} {x:DataW H × List MemPlace} (h:DataW.trod enc Tryz.prog W 0 (λ_=>true) true fuel 28 cs=some x) :
  ∃a n c M T,cs=[.slice a n c]/\Co W a n M T/\(∀i,i<n->M i<=maxLen/\∀j,j<M i->Em (T i j))/\n<=maxLen:=by
 rcases open_slice (P:=Tryz.prog) (t:=28) (e:=126) (by kernel_rfl) h with ⟨hcs,_⟩|⟨a,len,cap,m,fu,D,Pl,hcs,_,hl,hm,hmm,_,hx⟩;.exact⟨none,0,0,λ_=>0,λ_ _=>⟨false,0,λ_=>{ data:=#[] },0,λ_=>0,0⟩,hcs,Or.inl rfl,λi hi=>absurd hi (Wy _),Ww _⟩
 .have hlm:len<=m:=by rw[hmm];split <;> omega
  have each:∀i,i<len->∃q:Nat × (Nat->Tn) × Option Addr × Nat,W.cell? (a.add i)=some (.slice q.2.2.1 q.1 q.2.2.2)/\Bk W q.2.2.1 q.1 q.2.1/\q.1<=maxLen/\∀j,j<q.1->Em (q.2.1 j):=by
   intro i hi;obtain⟨cs',h1,h2⟩:=hx i (by omega);rw[show Tryz.prog.cellsOf 126=1 by kernel_rfl] at h1;obtain⟨_,hlen,hcell⟩:=World.cells?_some h1;obtain⟨xs,k,hk,hxy,_,hxl,hf⟩:=DataW.trod_struct (P:=Tryz.prog) Tryz.underlying126 h2;have g0:=hf 0 _ rfl;rw[show Tryz.prog.cellsOf _=1 by kernel_rfl] at g0;match xs,hxl,cs',hlen with
   | [y0],_,[v0],_=>simp at g0;obtain⟨ai,n',c',N,e1,hr,hX,hn⟩:=Oz g0;simp at e1;subst e1;have c0:=hcell 0 (by omega);rw[Addr.add_add] at c0;exact⟨(n',N,ai,c'),by simpa using c0,hr,hn,hX⟩
  haveI:Inhabited (Nat × (Nat->Tn) × Option Addr × Nat):=⟨(0,λ_=>⟨false,0,λ_=>{ data:=#[] },0,λ_=>0,0⟩,none,0)⟩
  obtain⟨q,hq⟩:=choose_lt each;refine⟨some a,len,cap,λi=>(q i).1,λi=>(q i).2.1,hcs,?_,λi hi=>(hq i hi).2.2,by omega⟩;by_cases h0:len=0;.exact Or.inl h0
  .obtain⟨b,off,spot⟩:=a;have hs:=Fz (a:=⟨b,off,spot⟩) (by simpa using (hq 0 (by omega)).1);simp at hs;subst hs;refine Or.inr ⟨b,off,rfl,λi hi=>?_⟩;obtain⟨k0,k1,_⟩:=hq i hi;rw[Hw] at k0;exact⟨_,_,k0,k1⟩
def IsIndex (w:World) (v:Value):Prop:=
 ∃a n c M T,v=.agg #[.slice a n c]/\Co w a n M T/\(∀i,i<n->M i<=maxLen/\∀j,j<M i->Em (T i j))/\n<=maxLen
set_option maxRecDepth 100000 in
theorem openIndex {r:Reach} {b0:Nat} {v:Value} {d:DataW H} {p:List MemPlace} (hv:Value.okWide Tryz.prog W r b0 30 v) (h:DataW.Trod enc Tryz.prog W 0 (λ_=>true) true 30 v d p):IsIndex W v:=by
 obtain⟨cs,rfl,hsz⟩:=okWide_struct (P:=Tryz.prog) Tryz.underlying30 hv;have h1:cs.size=1:=hsz.trans (by kernel_rfl);obtain⟨l⟩:=cs;match l,h1 with
 | [c0],_=>
  obtain⟨fuel,hf⟩:=h;obtain⟨xs,k,hk,hxy,_,hxl,hff⟩:=DataW.trod_struct (P:=Tryz.prog) Tryz.underlying30 hf;have g0:=hff 0 _ rfl;rw[show Tryz.prog.cellsOf _=1 by kernel_rfl] at g0;match xs,hxl with
  | [y0],_=>simp[Value.cells] at g0;obtain⟨a,n',c,M,T,e1,hr,hX,hn⟩:=Ru g0;simp at e1;subst e1;exact⟨a,n',c,M,T,rfl,hr,hX,hn⟩
end
end Go.Proofs.YtacpbofiipdodaaGreat
