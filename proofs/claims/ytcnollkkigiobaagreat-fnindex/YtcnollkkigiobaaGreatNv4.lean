import Derived.Laws.Cover1
import Derived.Test.YtcnollkkigiobaaGreatNv2
import Derived.Test.YtcnollkkigiobaaGreatNv3
set_option linter.unusedVariables false
set_option linter.unusedSimpArgs false
set_option maxRecDepth 100000
set_option maxHeartbeats 90000000
namespace Go.Proofs.YtcnollkkigiobaaGreat
open Go Go.Deep Go.RowKit Go.Proofs.Tryz
variable {a:Option Addr}{n:Nat}{w:World}
def Kc (L:List ByteArray) (k:Nat):Prop:=∀i,i<k->(gt L i).size<=16/\(0<i->Op.bytesLess (gt L (i-1)).toList (gt L i).toList=true)
def BE (n:Nat) (N:Nat->Tn) (t:Ro 21):Prop:=
 1<=n/\n<=5000/\AV N n 21 0=some (t,n)/\(∃h,Aq 21 true t h)/\Kc (Ab 21 t) (Ab 21 t).length/\Am N 0 21 t 0
def VT (n:Nat) (N:Nat->Tn):Prop:=∃t,BE n N t
def PE (M:Nat):(d:Nat)->Ro d->Prop
 | 0,_=>False
 | d+1,.inl t=>t.length<=M
 | d+1,.inr l=>∀t,t∈l->PE M d t
theorem I5 {T:Type} {M:Nat} (f:T->List ByteArray) (g:T->Nat):∀l:List T,(∀t,t∈l->(f t).length<=g t*M)->(l.flatMap f).length<=(l.map g).sum*M
 | [],_=>by simp
 | t::l,h=>by
  have d:=h t (by simp)
  have e:=I5 f g l (λc b=>h c (by simp[b]))
  rw[List.flatMap_cons,Uz,List.map_cons,List.sum_cons,Nat.add_mul]
  omega
theorem BL {M:Nat}:∀{d:Nat} {t:Ro d},PE M d t->(Ab d t).length<=Ac d t*M
 | 0,t,h=>h.elim
 | d+1,.inl t,h=>by
  have e:t.length<=M:=h
  have b:(Ab (d+1) (.inl t)).length=t.length:=rfl
  have c:Ac (d+1) (.inl t)=1:=rfl
  rw[b,c,Nat.one_mul]
  exact e
 | d+1,.inr l,h=>by
  have e:=I5 (Ab d) (Ac d) l (λt f=>BL (h t f))
  have b:(Ab (d+1) (.inr l)).length=(l.flatMap (Ab d)).length:=rfl
  have c:Ac (d+1) (.inr l)=1+(l.map (Ac d)).sum:=rfl
  rw[b,c,Nat.add_mul]
  omega
theorem JR {T:Type} {f:Nat->Option (T × Nat)} {P:T->Prop} (c:∀x t e,f x=some (t,e)->P t) {d:Nat->Int} {x:Nat}:∀{k:Nat} {ts:List T} {e:Nat},Cj f d x k=some (ts,e)->∀t,t∈ts->P t
 | 0,ts,e,h=>by
  simp only[Cj,Option.some.injEq,Prod.mk.injEq] at h
  obtain⟨rfl,rfl⟩:=h
  simp
 | k+1,ts,e,h=>by
  unfold Cj at h
  split at h
  .rename_i j q g
   have l:=JR c g
   split at h
   .split at h
    .rename_i t p i
     simp only[Option.some.injEq,Prod.mk.injEq] at h
     obtain⟨rfl,rfl⟩:=h
     intro m b
     rcases List.mem_append.1 b with b|b
     .exact l m b
     .simp at b
      subst b
      exact c _ _ _ i
    .cases h
   .cases h
  .cases h
theorem KY {N:Nat->Tn} {n:Nat} (c:∀i,i<n->Bg (N i)):∀{d x:Nat} {t:Ro d} {e:Nat},AV N n d x=some (t,e)->PE 1048576 d t
 | 0,x,t,e,h=>t.elim
 | d+1,x,t,e,h=>by
  unfold AV at h
  split at h
  .rename_i b
   split at h
   .split at h
    .injection h with h
     cases h
     show (G8 (N x)).length<=1048576
     rw[AI]
     exact (c x b).1
    .cases h
   .split at h
    .cases h
    .split at h
     .rename_i g j f
      injection h with h
      cases h
      exact JR (λx t e b=>KY c b) f
     .cases h
  .cases h
theorem Hk {F:Nat->Tn} {base:Int}:∀{d:Nat} {root:Bool} {t:Ro d} {h x:Nat},Am F base d t x->Aq d root t h->∀i,x<=i->i<x+Ac d t->Bg (F i)
 | 0,_,_,_,_,h,_,_,_,_=>h.elim
 | d+1,root,.inl t,h,x,ht,hb,i,hi1,hi2=>by
  have j:Ac (d+1) (.inl t)=1:=rfl
  have e:i=x:=by omega
  subst e
  obtain⟨_,f,_,m,_⟩:=ht
  obtain⟨_,p,_⟩:=hb
  exact⟨by omega,by omega⟩
 | d+1,root,.inr l,h,x,ht,hb,i,hi1,hi2=>by
  have j:Ac (d+1) (.inr l)=1+(l.map (Ac d)).sum:=rfl
  obtain⟨z,f,C,m,p,q,g⟩:=ht
  obtain⟨u,r,s,_,b⟩:=hb
  by_cases e:i=x
  .subst e
   exact⟨by omega,by omega⟩
  .obtain⟨k,c,A,y⟩:=Fx d l (i-(x+1)) (by omega)
   exact Hk (g k c) (b _ (UA c)) i (by omega) (by omega)
def XV (w:World) (v:Value):Prop:=v=.agg #[.bool false,.slice none 0 0,.slice none 0 0]\/∃t:Ro 21,NA w 21 t v/\Ac 21 t<=5000/\(Ab 21 t).length<=1099511627776
def R4 (w:World) (n:Nat) (N:Nat->Tn) (e:Ending) (w' : World):Prop:=
 Bl w w'/\∃lf ka kn kc ca cn cc ok,e=.returned (.tuple #[.agg #[.bool lf,.slice ka kn kc,.slice ca cn cc],.bool ok])/\
  ((ok=false/\¬ VT n N/\XV w' (.agg #[.bool lf,.slice ka kn kc,.slice ca cn cc]))\/(ok=true/\∃t,BE n N t/\NA w' 21 t (.agg #[.bool lf,.slice ka kn kc,.slice ca cn cc])))
def Ms (C:Nat->Nat->Prop) (w:World) (n:Nat) (N:Nat->Tn) (e:Ending) (w' : World):Prop:=
 Bl w w'/\∃lf ka kn kc ca cn cc ok,e=.returned (.tuple #[.agg #[.bool lf,.slice ka kn kc,.slice ca cn cc],.bool ok])/\
  ((ok=false/\¬ VT n N/\XV w' (.agg #[.bool lf,.slice ka kn kc,.slice ca cn cc]))\/(ok=true/\∃t,BE n N t/\Nq C w' 21 t (.agg #[.bool lf,.slice ka kn kc,.slice ca cn cc])))
structure Hr (C:Nat->Nat->Prop) (w wr:World) (b o n c xb:Nat) (t:Ro 21) (lf:Bool) (ka:Option Addr) (kn kc:Nat) (ca:Option Addr) (cn cc:Nat):Prop where
 tb:Bx wr w.heap.size 59 #[.slice (some (ad b o)) n c]
 rb:Bx wr (w.heap.size+1) 91 #[.bool false,.slice none 0 0,.slice none 0 0]
 xx:Bx wr xb 91 #[.bool lf,.slice ka kn kc,.slice ca cn cc]
 lt:w.heap.size+2<=xb
 nat:Av (λa n c X=>Cg w a n X/\C n c) (λb=>w.heap.size+2<=b) wr 21 t (.agg #[.bool lf,.slice ka kn kc,.slice ca cn cc])
 bel:Bl w wr
theorem Hr.below {C:Nat->Nat->Prop} {w wr m:World} {b o n c g:Nat} {t:Ro 21} {l:Bool} {e:Option Addr} {k i:Nat} {p:Option Addr} {j f:Nat} (h:Hr C w wr b o n c g t l e k i p j f) (d:Bl wr m):Hr C w m b o n c g t l e k i p j f:=
 ⟨h.tb.below d,h.rb.below d,h.xx.below d,h.lt,h.nat.below d,h.bel.trans (d.mono h.bel.size)⟩
theorem Hr.na {C:Nat->Nat->Prop} {wr:World} {b o c l:Nat} {t:Ro 21} {j:Bool} {d:Option Addr} {i f:Nat} {k:Option Addr} {g e:Nat} (h:Hr C w wr b o n c l t j d i f k g e):Nq C wr 21 t (.agg #[.bool j,.slice d i f,.slice k g e]):=
 h.nat.mono (λ_ _ _ _ q=>⟨q.1.below h.bel,q.2⟩) (λ_ _ _=>trivial) (Uq _) (λ_ _ _ _=>rfl)
def CM (C:Nat->Nat->Prop) (w:World) (a:Option Addr) (n:Nat) (N:Nat->Tn):Prop:=
 n=0\/∃b o,a=some (ad b o)/\∀i,i<n->∃ka kc da dc,w.cell? (ad b (o+i*4))=some (.bool (N i).lf)/\w.cell? (ad b (o+i*4+1))=some (.slice ka (N i).kn kc)/\
  w.cell? (ad b (o+i*4+2))=some (.slice da (N i).dn dc)/\w.cell? (ad b (o+i*4+3))=some (iv (N i).ct)/\Cg w ka (N i).kn (N i).ks/\Rd .i64 w da (N i).dn (N i).kd/\C (N i).kn kc
theorem CM.rd {C:Nat->Nat->Prop} {N:Nat->Tn} (h:CM C w a n N):Cb w a n N:=by
 rcases h with h|⟨b,o,rfl,f⟩;.exact Or.inl h
 .refine Or.inr ⟨b,o,rfl,λi k=>?_⟩;obtain⟨c,e,p,j,g,l,d,m,q,r,s⟩:=f i k;exact⟨c,e,p,j,g,l,d,m,q,r⟩
theorem Cb.any {N:Nat->Tn} (h:Cb w a n N):CM (λ_ _=>True) w a n N:=by
 rcases h with h|⟨b,o,rfl,f⟩;.exact Or.inl h
 .refine Or.inr ⟨b,o,rfl,λi k=>?_⟩;obtain⟨c,e,p,j,g,l,d,m,q,r⟩:=f i k;exact⟨c,e,p,j,g,l,d,m,q,r,trivial⟩
theorem CM.below {C:Nat->Nat->Prop} {w w' : World} {a:Option Addr} {n:Nat} {N:Nat->Tn} (h:CM C w a n N) (c:Bl w w'):CM C w' a n N:=by
 rcases h with h|⟨b,o,rfl,m⟩;.exact Or.inl h
 .refine Or.inr ⟨b,o,rfl,λi q=>?_⟩;obtain⟨k,l,r,p,e,f,d,g,s,t,j⟩:=m i q;refine⟨k,l,r,p,?_,?_,?_,?_,s.below c,t.below c,j⟩;.rw[c.cell (Uo _ _ e)];exact e
  .rw[c.cell (Uo _ _ f)];exact f
  .rw[c.cell (Uo _ _ d)];exact d
  .rw[c.cell (Uo _ _ g)];exact g
theorem Rc {C:Nat->Nat->Prop} {N:Nat->Tn} (h:CM C w a n N) (D:n≠0):∃b o r G t H,a=some (ad b o)/\NX w b o n N r G t H/\∀i,i<n->Cg w (r i) (N i).kn (gt (G8 (N i)))/\C (N i).kn (t i):=by
 rcases h with h|⟨b,o,rfl,z⟩;.exact absurd h D
 .have d:∀i,i<n->∃q:Option Addr × Nat × Option Addr × Nat,w.cell? (ad b (o+i*4))=some (.bool (N i).lf)/\w.cell? (ad b (o+i*4+1))=some (.slice q.1 (N i).kn q.2.1)/\w.cell? (ad b (o+i*4+2))=some (.slice q.2.2.1 (N i).dn q.2.2.2)/\w.cell? (ad b (o+i*4+3))=some (iv (N i).ct)/\Cg w q.1 (N i).kn (N i).ks/\Rd .i64 w q.2.2.1 (N i).dn (N i).kd/\C (N i).kn q.2.1:=by intro i c;obtain⟨u,y,F,A,g,k,f,l,m,p,e⟩:=z i c;exact⟨(u,y,F,A),g,k,f,l,m,p,e⟩
  obtain⟨q,s⟩:=choose_lt d;refine⟨b,o,λi=>(q i).1,λi=>(q i).2.2.1,λi=>(q i).2.1,λi=>(q i).2.2.2,rfl,λi c=>?_,λi c=>?_⟩;.obtain⟨g,k,f,l,m,p,e⟩:=s i c;exact⟨g,k,f,l,p⟩
  .obtain⟨g,k,f,l,m,p,e⟩:=s i c;exact⟨m.congr (λj x=>(EG (N i) j x).symm),e⟩
theorem Tr (b o n c p:Nat) (d:p<n) (w:World):(Instr.indexAt 88 (.slice (some (ad b o)) n c) (iv (p:Int))).run prog w=.ok (.pointer (some (ad b (o+p)))) w:=by simp[Instr.indexAt,go_sem];intro h;omega
theorem KB (C:Nat->Nat->Prop) (a:Option Addr) (n c:Nat) (N:Nat->Tn) (w:World) (h:CM C w a n N) (hn:n<=1048576) (hN:∀i,i<n->Bg (N i)) :
  UO 57 #[.agg #[.slice a n c]] w (Ms C w n N):=by
 by_cases h0:n=0
 .have i0:(n:Int)<1:=by omega
  have bp : decide ((n:Int)<1)=true:=decide_eq_true i0;have A:U (¬ VT n N):=λ⟨t,s⟩=>by have:=s.1;omega
  clear h hN h0;go_enter func57,ntmps57;go_wp2;refine bodyPost_ret (v:=.tuple #[.agg #[.bool false,.slice none 0 0,.slice none 0 0],.bool false]) (by simp[results,results57,go_sem]) rfl ⟨(Aa _ _).alloc (by simp) _,_,_,_,_,_,_,_,_,rfl,.inl ⟨rfl,A.o,.inl rfl⟩⟩
 .by_cases h5:5000<n
  .have i0:¬ (n:Int)<1:=by omega
   have bp : decide ((n:Int)<1)=false:=decide_eq_false i0;have i5:(5000:Int)<(n:Int):=by omega
   have bw : decide ((5000:Int)<(n:Int))=true:=decide_eq_true i5;have A:U (¬ VT n N):=λ⟨t,s⟩=>by have:=s.2.1;omega
   clear h hN h0;go_enter func57,ntmps57;go_wp2;refine bodyPost_ret (v:=.tuple #[.agg #[.bool false,.slice none 0 0,.slice none 0 0],.bool false]) (by simp[results,results57,go_sem]) rfl ⟨(Aa _ _).alloc (by simp) _,_,_,_,_,_,_,_,_,rfl,.inl ⟨rfl,A.o,.inl rfl⟩⟩
  .have i0:¬ (n:Int)<1:=by omega
   have bp : decide ((n:Int)<1)=false:=decide_eq_false i0;have i5:¬ (5000:Int)<(n:Int):=by omega
   have bw : decide ((5000:Int)<(n:Int))=false:=decide_eq_false i5;obtain⟨b,o,KA,DA,KC,DC,rfl,bj,bl⟩:=Rc h h0;have al:U (∀W,Bl w W->UO 96 #[.slice (some (ad b o)) n c,iv 0,iv 0] W (Kx (λw' S t v=>Av (λa n c X=>Cg w a n X/\C n c) S w' 21 t v) W (AV N n 21 0) n)):=λW hW=>Qt (λa n c X=>Cg w a n X/\C n c) b o n c N KA DA KC DC bl (by omega) hN 21 0 rfl (by omega) W 0 0 rfl (by omega) (bj.below hW);have a2:U (Cb w (some (ad b o)) n N/\∀i,i<n->Bg (N i)):=⟨h.rd,hN⟩;clear bj bl h hN;go_enter func57,ntmps57;go_wp2_with fail
   refine (al.o _ ((Aa _ _).alloc (by simp) _)).mono ?_;rintro e w1 ⟨ab,O,T,J,R,P,I,K,y,ok,rfl,hr⟩;have HR:U ((ok=false/\AV N n 21 0=none)\/(ok=true/\∃t l,AV N n 21 0=some (t,l)/\y=(l : Int)/\l<=n/\Av (λa n c X=>Cg w a n X/\C n c) (λb=>w.heap.size+2<=b) w1 21 t (.agg #[.bool O,.slice T J R,.slice P I K]))):=by
    rcases hr with hr|⟨h1,t,l,h2,h3,h4,h5⟩;.exact Or.inl hr
    .exact Or.inr ⟨h1,t,l,h2,h3,h4,Av.mono (λ_ _ _ _ q=>q) (λb hs _=>by simpa using hs) (Uq _) (λ_ _ _ _=>rfl) h5⟩
   have aj:U (Bx w1 w.heap.size 59 #[.slice (some (ad b o)) n c]/\Bx w1 (w.heap.size+1) 91 #[.bool false,.slice none 0 0,.slice none 0 0]/\Bl w w1/\w.heap.size+2<=w1.heap.size):=by have hs:=ab.size;simp at hs;refine⟨((Bx.new _ _ _).alloc _).below ab,?_,((Aa _ _).alloc (by simp) _).trans (ab.mono (by simp;omega)),by omega⟩;have q:=(Bx.new (w.alloc (.cells #[.slice (some (ad b o)) n c] 59)) #[.bool false,.slice none 0 0,.slice none 0 0] 91).below ab;simpa using q
   clear ab hr al;go_upto_region 4 with fail
   have r:U (Bx (w1.alloc (.cells #[.bool O,.slice T J R,.slice P I K] 91)) w.heap.size 59 #[.slice (some (ad b o)) n c]/\Bx (w1.alloc (.cells #[.bool O,.slice T J R,.slice P I K] 91)) (w.heap.size+1) 91 #[.bool false,.slice none 0 0,.slice none 0 0]/\Bx (w1.alloc (.cells #[.bool O,.slice T J R,.slice P I K] 91)) w1.heap.size 91 #[.bool O,.slice T J R,.slice P I K]/\Bl w (w1.alloc (.cells #[.bool O,.slice T J R,.slice P I K] 91))/\w.heap.size+2<=w1.heap.size/\∀t,Av (λa n c X=>Cg w a n X/\C n c) (λb=>w.heap.size+2<=b) w1 21 t (.agg #[.bool O,.slice T J R,.slice P I K])->Av (λa n c X=>Cg w a n X/\C n c) (λb=>w.heap.size+2<=b) (w1.alloc (.cells #[.bool O,.slice T J R,.slice P I K] 91)) 21 t (.agg #[.bool O,.slice T J R,.slice P I K])):=
    ⟨aj.o.1.alloc _,aj.o.2.1.alloc _,Bx.new _ _ _,aj.o.2.2.1.trans ((Aa _ _).mono aj.o.2.2.1.size),aj.o.2.2.2,λt q=>q.below (Aa _ _)⟩
   generalize (w1.alloc (.cells #[.bool O,.slice T J R,.slice P I K] 91))=W at r ⊢;clear aj;have bh:w.heap.size+2<=w1.heap.size:=r.o.2.2.2.2.1;have y0:=r.o.1.cell 0;have r0:=r.o.2.1.cell 0;have r1:=r.o.2.1.cell 1;have r2:=r.o.2.1.cell 2;have af:=r.o.2.1.frozen 0;have ag:=r.o.2.1.frozen 1;have ak:=r.o.2.1.frozen 2;have rl:=r.o.2.1.lt;simp at y0 r0 r1 r2;have HZ:U (∀V,Bl W V->∀v0 v1 v2,Bl w (((V.setCell (ad (w.heap.size+1) 0) v0).setCell (ad (w.heap.size+1) 1) v1).setCell (ad (w.heap.size+1) 2) v2)):=λV aa v0 v1 v2=>(((r.o.2.2.2.1.trans (aa.mono r.o.2.2.2.1.size)).setCell (by simp) _).setCell (by simp) _).setCell (by simp) _;cases ok with
   | false=>
    have A:U (¬ VT n N):=by
     rintro⟨t,_,_,s,_⟩;rcases HR.o with ⟨_,q⟩|⟨q,_⟩;.rw[q] at s;cases s
     .cases q
    clear HR;go_wp2;refine bodyPost_ret (v:=.tuple #[.agg #[.bool false,.slice none 0 0,.slice none 0 0],.bool false]) (by simp[results,results57,go_sem,r0,r1,r2]) rfl ⟨HZ.o _ (Up _ _) _ _ _,_,_,_,_,_,_,_,_,rfl,.inl ⟨rfl,A.o,.inl rfl⟩⟩
   | true=>
    obtain⟨t,l,am,hy,cf,bt⟩:∃t l,AV N n 21 0=some (t,l)/\y=(l : Int)/\l<=n/\Av (λa n c X=>Cg w a n X/\C n c) (λb=>w.heap.size+2<=b) w1 21 t (.agg #[.bool O,.slice T J R,.slice P I K]):=by
     rcases HR.o with ⟨q,_⟩|⟨_,q⟩;.cases q
     .exact q
    subst hy;have HS:U (Hr C w W b o n c w1.heap.size t O T J R P I K):=⟨r.o.1,r.o.2.1,r.o.2.2.1,bh,r.o.2.2.2.2.2 t bt,r.o.2.2.2.1⟩;have ah:U (AV N n 21 0=some (t,l)):=am;have av:=BJ am;have M:U (Ac 21 t<=5000/\(Ab 21 t).length<=1099511627776):=by
     have h1:=BL (KY a2.o.2 am);constructor;.omega
     .omega
    clear HR bt r;generalize w1.heap.size=xb at HS bh ⊢;by_cases az:l=n
    .subst az;have ae:U (Ac 21 t=l):=by show Ac 21 t=l;omega
     have iy:((l : Int) != (l : Int))=false:=by simp
     have x0:=HS.o.xx.cell 0;have x1:=HS.o.xx.cell 1;have x2:=HS.o.xx.cell 2;simp at x0 x1 x2;clear am av;go_wp2_with fail
     refine (OG 21 t _ true _ HS.o.na.na M.o.1 (Uq _)).mono ?_;rintro e w2 ⟨rfl,a8⟩;have H:U (Hr C w w2 b o l c xb t O T J R P I K):=HS.o.below a8;have a7:U (Bl W w2):=a8;obtain⟨D,hD⟩:∃D,BA 21 true t=D:=⟨_,rfl⟩;rw[hD];have HD:U (BA 21 true t=D):=hD;clear a8 hD y0 r0 r1 r2 af ag ak rl x0 x1 x2;have y0:=H.o.tb.cell 0;have r0:=H.o.rb.cell 0;have r1:=H.o.rb.cell 1;have r2:=H.o.rb.cell 2;have af:=H.o.rb.frozen 0;have ag:=H.o.rb.frozen 1;have ak:=H.o.rb.frozen 2;have rl:=H.o.rb.lt;have x0:=H.o.xx.cell 0;have x1:=H.o.xx.cell 1;have x2:=H.o.xx.cell 2;simp at y0 r0 r1 r2 x0 x1 x2;by_cases aw:D<0
     .have iD:decide (D<0)=true:=decide_eq_true aw;have A:U (¬ VT l N):=by rintro⟨t2,_,_,s,⟨h2,hb⟩,_⟩;rw[ah.o] at s;injection s with s;injection s with s _;subst s;have:=E8 hb;have:=HD.o;omega
      go_wp2;refine bodyPost_ret (v:=.tuple #[.agg #[.bool false,.slice none 0 0,.slice none 0 0],.bool false]) (by simp[results,results57,go_sem,r0,r1,r2]) rfl ⟨HZ.o _ a7.o _ _ _,_,_,_,_,_,_,_,_,rfl,.inl ⟨rfl,A.o,.inl rfl⟩⟩
     .have iD:decide (D<0)=false:=decide_eq_false aw;have au:U (∃h,Aq 21 true t h):=by obtain⟨h,_,hb⟩:=Jb (d:=21) (root:=true) (t:=t) (by rw[HD.o];omega);exact⟨h,hb⟩
      go_wp2_with fail
      refine (Es 21 t _ _ H.o.na.na M.o.1 M.o.2).mono ?_;rintro e w3 ⟨a3,c3,he,a1,a9,_⟩;obtain⟨L,hL⟩:∃L,Ab 21 t=L:=⟨_,rfl⟩;obtain⟨m,hm⟩:∃m,m=L.length:=⟨_,rfl⟩;rw[hL,<- hm] at he a1;subst he;have HL:U (Ab 21 t=L/\m=L.length):=⟨hL,hm⟩;have u:U (Hr C w w3 b o l c xb t O T J R P I K):=H.o.below a9;have ao:U (Bl W w3):=a7.o.trans (a9.mono a7.o.size);have b5:U (Cg w3 a3 m (gt L)):=a1.rd;have b9:m<=1099511627776:=by have:=M.o.2;rw[hL] at this;omega
      clear a9 a1 y0 r0 r1 r2 af ag ak rl x0 x1 x2 hL hm;go_wp2;go_loopw [8] (λi wr=>∃k z:Nat,k<=m/\i=iv k/\Kc L k/\wr=w3.drewN z) (λi _=>m-(intOf i).toNat)
      case atStart=>exact⟨0,0,Us _,rfl,λj hj=>absurd hj (Uu _),rfl⟩
      case round=>
       obtain⟨k,z,hk,rfl,ay,rfl⟩:=hrel;have HA:U (Kc L k):=ay;clear ay;have r0:=u.o.rb.cell 0;have r1:=u.o.rb.cell 1;have r2:=u.o.rb.cell 2;have af:=u.o.rb.frozen 0;have ag:=u.o.rb.frozen 1;have ak:=u.o.rb.frozen 2;have rl:=u.o.rb.lt;simp at r0 r1 r2;by_cases ar:k<m
       .rcases b5.o with q|⟨b3,o3,rfl,an⟩;.omega
        have s1:=an k ar;have ce:(0:Int)<=(k:Int):=by omega
        have ch:(k:Int)<(m:Int):=by omega
        by_cases bc:16<(gt L k).size
        .have ba:(16:Int)<((gt L k).size:Int):=by omega
         have bg : decide ((16:Int)<((gt L k).size:Int))=true:=decide_eq_true ba;have be : decide (16<(gt L k).size)=true:=decide_eq_true bc;have A:U (¬ VT l N):=by rintro⟨t2,_,_,s,_,hs,_⟩;rw[ah.o] at s;injection s with s;injection s with s _;subst s;rw[HL.o.1] at hs;have:=(hs k (by rw[<- HL.o.2];exact ar)).1;omega
         clear an;go_wp2;go_quiet (fail)
         go_wp2;refine bodyPost_ret (v:=.tuple #[.agg #[.bool false,.slice none 0 0,.slice none 0 0],.bool false]) (by simp[results,results57,go_sem,r0,r1,r2]) rfl ⟨HZ.o _ (Ai ao.o _) _ _ _,_,_,_,_,_,_,_,_,rfl,.inl ⟨rfl,A.o,.inl rfl⟩⟩
        .have ba:¬ (16:Int)<((gt L k).size:Int):=by omega
         have bg : decide ((16:Int)<((gt L k).size:Int))=false:=decide_eq_false ba;have be : decide (16<(gt L k).size)=false:=decide_eq_false bc;by_cases ax:k=0
         .have jk:¬ (0:Int)<(k:Int):=by omega
          have b8 : decide ((0:Int)<(k:Int))=false:=decide_eq_false jk;have bv : decide (0<k)=false:=decide_eq_false (by omega);have a5:U (Kc L (k+1)):=by
           intro i hi;have e:i=k:=by omega
           subst e;exact⟨by omega,λh=>by omega⟩
          clear an ax;go_wp2;go_quiet (fail)
          go_wp2;go_roundw;case rel=>exact⟨k+1,_,by omega,by go_num,a5.o,rfl⟩
          case measure=>simp[intOf];omega
         .obtain⟨p,hp⟩:∃p,k=p+1:=⟨k-1,by omega⟩;have jk:(0:Int)<(k:Int):=by omega
          have b8 : decide ((0:Int)<(k:Int))=true:=decide_eq_true jk;have br:0<k:=by omega
          have bv : decide (0<k)=true:=decide_eq_true br;have bd:p<m:=by omega
          have s2:=an p bd;have cd:∀wz,(Instr.indexAt 88 (.slice (some (ad b3 o3)) m c3) (iv ((k:Int)-1))).run prog wz=.ok (.pointer (some (ad b3 (o3+p)))) wz:=λwz=>by rw[show (k:Int)-1=(p:Int) by omega];exact Tr b3 o3 m c3 p bd wz
          have bn:U (k=p+1):=hp;have bu:U ((gt L k).size<=16):=by show (gt L k).size<=16;omega
          clear an ax hp;cases hls:Op.bytesLess (gt L p).toList (gt L k).toList with
          | true=>
           have a5:U (Kc L (k+1)):=by
            intro i hi;by_cases e:i=k;.subst e;exact⟨bu.o,λ_=>by rw[show i-1=p by have:=bn.o;omega];exact hls⟩
            .exact HA.o i (by omega)
           go_wp2;go_quiet (fail)
           go_wp2;go_roundw;case rel=>exact⟨k+1,_,by omega,by go_num,a5.o,rfl⟩
           case measure=>simp[intOf];omega
          | false=>
           have A:U (¬ VT l N):=by rintro⟨t2,_,_,s,_,hs,_⟩;rw[ah.o] at s;injection s with s;injection s with s _;subst s;rw[HL.o.1] at hs;have q:=(hs k (by rw[<- HL.o.2];exact ar)).2 br;rw[show k-1=p by have:=bn.o;omega,hls] at q;cases q
           go_wp2;go_quiet (fail)
           go_wp2;refine bodyPost_ret (v:=.tuple #[.agg #[.bool false,.slice none 0 0,.slice none 0 0],.bool false]) (by simp[results,results57,go_sem,r0,r1,r2]) rfl ⟨HZ.o _ (Ai ao.o _) _ _ _,_,_,_,_,_,_,_,_,rfl,.inl ⟨rfl,A.o,.inl rfl⟩⟩
       .have e:k=m:=by omega
        subst e;have bq:U (Kc (Ab 21 t) (Ab 21 t).length):=by show Kc (Ab 21 t) (Ab 21 t).length;rw[HL.o.1,<- HL.o.2];exact HA.o
        have cg:¬ (k:Int)<(k:Int):=by omega
        have y0:=u.o.tb.cell 0;have x0:=u.o.xx.cell 0;have x1:=u.o.xx.cell 1;have x2:=u.o.xx.cell 2;have xl:=u.o.xx.lt;simp at y0 x0 x1 x2;clear HA ar hk;have bi:U (∀V,Bl w3 V->UO 80 #[.agg #[.bool O,.slice T J R,.slice P I K],iv 0] V (λe w'=>∃g rc F,e=.returned (.slice (some (ad g 0)) l rc)/\Bl V w'/\Cb w' (some (ad g 0)) l F/\Am F 0 21 t 0/\∀i,i<l->Bg (F i))):=by intro V aa;obtain⟨h,hb⟩:=au.o;refine (IJ 21 t _ true h 0 V (NA.below u.o.na.na aa) M.o.1 M.o.2 hb (by omega) (by have:=M.o.1;omega)).mono (λe w' hr=>?_);obtain⟨ra,rc,G,xs,e1,ab,ho,hf,ht⟩:=hr;rw[ae.o] at e1 ho hf;obtain⟨a6,c6,e6,bz⟩:=Af ho;obtain⟨g,eg,_,_,hc⟩:=bz h0;injection e6 with e6 _ _;rw[<- e6] at eg;subst eg;exact⟨g,rc,G,e1,ab,hf.rd hc,ht,λi hi=>Hk ht hb i (Us _) (by rw[ae.o];omega)⟩
        have bf:U (∀V : World,Bl w3 V->(Hr C w V b o l c xb t O T J R P I K/\Cb V (some (ad b o)) l N/\Bl W V)):=λV aa=>⟨u.o.below aa,a2.o.1.below (u.o.bel.trans (aa.mono u.o.bel.size)),ao.o.trans (aa.mono ao.o.size)⟩;go_upto_region 12 with fail
        have ap:U (Bl w3 (w3.drewN z)):=Ai (Up _ _) z;clear y0 x0 x1 x2 xl r0 r1 r2 af ag ak rl;generalize w3.drewN z=aq at ap ⊢;have Y:U (∀V,Bl aq V->(Hr C w V b o l c xb t O T J R P I K/\Cb V (some (ad b o)) l N/\Bl W V)):=λV aa=>bf.o V (ap.o.trans (aa.mono ap.o.size));have ac:U (Hr C w aq b o l c xb t O T J R P I K):=(Y.o aq (Up _ _)).1;have y0:=ac.o.tb.cell 0;have x0:=ac.o.xx.cell 0;have x1:=ac.o.xx.cell 1;have x2:=ac.o.xx.cell 2;simp at y0 x0 x1 x2;have cb:¬ xb=w.heap.size+1:=by omega
        have bx:¬ w.heap.size+1=xb:=by omega
        go_region_held3 (λw'=>w'.cell? (ad w.heap.size 0)=some (.slice (some (ad b o)) l c)/\w'.cell? (ad xb 0)=some (.bool O)/\w'.cell? (ad xb 1)=some (.slice T J R)/\w'.cell? (ad xb 2)=some (.slice P I K)) (go_keep)
         (first
         | (go_at_call 80;refine (bi.o aq.drew (ap.o.drew)).mono ?_;rintro e Z ⟨g,rc,F,rfl,f,bk,a4,bm⟩;have a0:=(Y.o Z (Ad f)).1.tb.cell 0;have b0:=(Y.o Z (Ad f)).1.xx.cell 0;have b1:=(Y.o Z (Ad f)).1.xx.cell 1;have b2:=(Y.o Z (Ad f)).1.xx.cell 2;simp at a0 b0 b1 b2)
         | (go_at_call 98;refine (Ju (some (ad g 0)) (some (ad b o)) l l rc c F N Z bk (Y.o Z (Ad f)).2.1 (by omega) (by omega) bm a2.o.2).mono ?_;rintro e w5 ⟨bb,rfl,bo,x⟩;have a0:=((Y.o Z (Ad f)).1.below x).tb.cell 0;have b0:=((Y.o Z (Ad f)).1.below x).xx.cell 0;have b1:=((Y.o Z (Ad f)).1.below x).xx.cell 1;have b2:=((Y.o Z (Ad f)).1.below x).xx.cell 2;have r0:=((Y.o Z (Ad f)).1.below x).rb.cell 0;have r1:=((Y.o Z (Ad f)).1.below x).rb.cell 1;have r2:=((Y.o Z (Ad f)).1.below x).rb.cell 2;have af:=((Y.o Z (Ad f)).1.below x).rb.frozen 0;have ag:=((Y.o Z (Ad f)).1.below x).rb.frozen 1;have ak:=((Y.o Z (Ad f)).1.below x).rb.frozen 2;have rl:=((Y.o Z (Ad f)).1.below x).rb.lt;simp at a0 b0 b1 b2 r0 r1 r2))
        have HV:U (bb=true↔BE l N t):=by
         show bb=true↔BE l N t;rw[bo];constructor;.rintro⟨_,hs⟩;refine⟨by omega,by omega,ah.o,au.o,bq.o,Am.congr (λi _ hi=>hs i (by rw[ae.o] at hi;omega)) a4⟩
         .rintro⟨_,_,_,_,_,ht⟩;exact⟨trivial,λi hi=>Am.same a4 ht i (Us _) (by rw[ae.o];omega)⟩
        have b4:U (VT l N->BE l N t):=by rintro⟨t2,s⟩;have q:=s.2.2.1;rw[ah.o] at q;injection q with q;injection q with q _;subst q;exact s
        have HF:U (Hr C w w5 b o l c xb t O T J R P I K/\Bl W w5):=⟨(Y.o Z (Ad f)).1.below x,(Y.o Z (Ad f)).2.2.trans (x.mono (Y.o Z (Ad f)).2.2.size)⟩;clear bo x bk bm a4 f Y bi bf;go_wp2;have bs:U (Nq C (((w5.setCell (ad (w.heap.size+1) 0) (.bool O)).setCell (ad (w.heap.size+1) 1) (.slice T J R)).setCell (ad (w.heap.size+1) 2) (.slice P I K)) 21 t (.agg #[.bool O,.slice T J R,.slice P I K])):=by have b7:=HF.o.1;have b6:Bl w (((w5.setCell (ad (w.heap.size+1) 0) (.bool O)).setCell (ad (w.heap.size+1) 1) (.slice T J R)).setCell (ad (w.heap.size+1) 2) (.slice P I K)):=HZ.o _ HF.o.2 _ _ _;refine b7.nat.mono (λ_ _ _ _ q=>⟨q.1.below b6,q.2⟩) (λ_ _ _=>trivial) (by simp[World.setCell]) (λb j hs _=>?_);refine World.cell?_of_block ?_;show (((w5.setCell (ad (w.heap.size+1) 0) (.bool O)).setCell (ad (w.heap.size+1) 1) (.slice T J R)).setCell (ad (w.heap.size+1) 2) (.slice P I K)).heap[b]?=_;rw[Ur _ _ _ _ (show b≠w.heap.size+1 by omega),Ur _ _ _ _ (show b≠w.heap.size+1 by omega),Ur _ _ _ _ (show b≠w.heap.size+1 by omega)]
        cases bb with
        | true=>refine bodyPost_ret (v:=.tuple #[.agg #[.bool O,.slice T J R,.slice P I K],.bool true]) (by simp[results,results57,go_sem,r0,r1,r2]) rfl ⟨HZ.o _ HF.o.2 _ _ _,_,_,_,_,_,_,_,_,rfl,.inr ⟨rfl,t,HV.o.1 rfl,bs.o⟩⟩
        | false=>refine bodyPost_ret (v:=.tuple #[.agg #[.bool O,.slice T J R,.slice P I K],.bool false]) (by simp[results,results57,go_sem,r0,r1,r2]) rfl ⟨HZ.o _ HF.o.2 _ _ _,_,_,_,_,_,_,_,_,rfl,.inl ⟨rfl,λh=>absurd (HV.o.2 (b4.o h)) (by simp),.inr ⟨t,bs.o.na,M.o⟩⟩⟩
    .have iy:((l : Int) != (n:Int))=true:=by simp;omega
     have A:U (¬ VT n N):=by rintro⟨t2,_,_,s,_⟩;rw[ah.o] at s;injection s with s;injection s with _ s;exact az s
     clear am av;go_wp2;refine bodyPost_ret (v:=.tuple #[.agg #[.bool false,.slice none 0 0,.slice none 0 0],.bool false]) (by simp[results,results57,go_sem,r0,r1,r2]) rfl ⟨HZ.o _ (Up _ _) _ _ _,_,_,_,_,_,_,_,_,rfl,.inl ⟨rfl,A.o,.inl rfl⟩⟩
theorem Qr (a:Option Addr) (n c:Nat) (N:Nat->Tn) (w:World) (h:Cb w a n N) (y:n<=1048576) (r:∀i,i<n->Bg (N i)) :
  UO 57 #[.agg #[.slice a n c]] w (R4 w n N):=by
 refine (KB (λ_ _=>True) a n c N w h.any y r).mono ?_;rintro e A ⟨l,u,d,s,j,z,k,g,m,p,b⟩;refine⟨l,u,d,s,j,z,k,g,m,p,?_⟩;rcases b with b|⟨q,t,f,x⟩;.exact .inl b
 .exact .inr ⟨q,t,f,x.na⟩
variable {B:Nat}{E:Prop}{Q:Exit->Act->World->Prop}{act:Act}{o:Oper}{v:Value}
theorem Dr {l:List Oper}{P:Program}{S:World->Prop}{c:Nat}{h g:Oper}{e:Nat}{b:Array Bool}{a:Act} (i j:Nat) (r:CW i l h) (p:CW j l g) (u:Region.ready .any l.toArray b=[i,j]) (hi:∀d : Act->World->Prop,Shut (∀a w,(i≠c->S w)->((i≠c->S w)->AG P .any l.toArray Q S c e (b.setIfInBounds i true) a w)->d a w)->if Region.wanted h (yielded l.toArray a.tmps)=true then Oper.wp P h a w d Q else d (a.put h.dst undef) w) (x:∀d : Act->World->Prop,Shut (∀a w,(j≠c->S w)->((j≠c->S w)->AG P .any l.toArray Q S c e (b.setIfInBounds j true) a w)->d a w)->if Region.wanted g (yielded l.toArray a.tmps)=true then Oper.wp P g a w d Q else d (a.put g.dst undef) w):
  AG P .any l.toArray Q S c (e+1) b a w:=
 ⟨λt=>(by rw[u] at t;cases t),λk m=>by
  rw[u] at m
  simp only[List.mem_cons,List.not_mem_nil,or_false] at m
  rcases m with rfl|rfl
  .exact wpOp_step r.get (λd s=>hi d (λa w f q=>s a w ⟨f,q f⟩))
  .exact wpOp_step p.get (λd s=>x d (λa w f q=>s a w ⟨f,q f⟩))⟩
theorem A8 {y:Array Oper} {K:Act->World->Prop} (N:o.guard=none) (s x:Operand)
  (U:o.op=.call { callee:=.builtin .append,args:=#[s,x],argTypes:=#[88,88] })
  (B:Nat) (v:Value) (n:Nat) (xs:List Value) (T:act.eval s=v) (f:w.ownsRow B 9 1 v n xs)
  (a:Option Addr) (m c:Nat) (L:List ByteArray) (V:act.eval x=.slice a m c) (hm:m=L.length) (D:Cg w a m (gt L)) (aa:n+m<=1099511627776) (hB:B<=w.heap.size)
  (h:∀A q,q.ownsRow B 9 1 A (n+m) (xs++Ap L)->w.grownBy q v.ownBlock->K (act.put o.dst A) q) :
  if Region.wanted o (yielded y act.tmps)=true then Oper.wp prog o act w K Q else E:=by
 have Z:Region.wanted o (yielded y act.tmps)=true:=by simp[Region.wanted,N]
 rw[if_pos Z];obtain⟨I,W,S,F,G⟩:=info_parts info9;by_cases z:m=0
 .subst z;have hL:=List.length_eq_zero_iff.1 hm.symm;subst hL;have t:Src prog I.size 88 (.slice a 0 c) 0 [] w:=by
   cases a with
   | none=>exact Src.ofNil w underlying88 c
   | some ad=>exact Src.ofSlice w underlying88 ad 0 c [] (by simp) (by simp) (by simp)
  have O:∃b l d,v=.slice b l d/\l<=d:=by
   rcases f.2 with ⟨rfl,rfl⟩|⟨g,d,X,rfl,_,_,J,_⟩;.exact⟨none,0,0,rfl,Uq _⟩
   .exact⟨_,n,d,rfl,J⟩
  obtain⟨b,l,d,R,H⟩:=O;have k:=run_append_nothing (P:=prog) w 88 88 o.type 9 I underlying88 W b l d H (.slice a 0 c) t;rw[<- R] at k;unfold Oper.wp;simp[execOp,U,resolve,invoke,builtin,T,V,k,Result.andThen];exact h v w (by simpa[Ap] using f) ⟨rfl,rfl,rfl,Uq _,λ_ _ _=>rfl⟩
 .rcases D with Y|⟨b,p,rfl,hc⟩;.exact absurd Y z
  .refine wp_append_own w s x 88 U B 9 I (.string { data:=#[] }) 1 16 underlying88 W S F G rfl (by decide) v n xs T f (ad b p) m c (Ap L) V (by rw[AF];omega) (λj u r=>?_) (λu C=>?_) (by unfold maxLen;omega) (by omega) hB (λA q J h2 _=>h A q J h2)
   .have M:j<m:=by have:=(List.getElem?_eq_some_iff.1 r).1;rw[AF] at this;omega
    rw[Bf L j (by omega)] at r;injection r with r;subst r;have e:(Addr.add (ad b p) j)=(ad b (p+j)):=by
     unfold Addr.add;by_cases h:j=0;.subst h;simp
     .simp[h]
    rw[e];exact hc j M
   .unfold Ap at C;simp only[List.mem_map] at C;obtain⟨i,_,rfl⟩:=C;rfl
def QM (x:Tn):List Int:=(List.range x.dn).map x.kd
theorem Ch (x:Tn):(QM x).length=x.dn:=by simp[QM]
theorem G3 (x:Tn) (i:Nat) (h:i<x.dn):gi (QM x) i=x.kd i:=by simp[gi,QM,Uw,h]
theorem DV {y:Array Oper} {K:Act->World->Prop} (N:o.guard=none) (s x:Operand)
  (U:o.op=.call { callee:=.builtin .append,args:=#[s,x],argTypes:=#[151,151] })
  (B:Nat) (v:Value) (n:Nat) (xs:List Value) (T:act.eval s=v) (f:w.ownsRow B 2 1 v n xs)
  (a:Option Addr) (m c:Nat) (L:List Int) (V:act.eval x=.slice a m c) (hm:m=L.length) (D:Rd .i64 w a m (gi L)) (aa:n+m<=1099511627776) (hB:B<=w.heap.size)
  (h:∀A q,q.ownsRow B 2 1 A (n+m) (xs++Cp L)->w.grownBy q v.ownBlock->K (act.put o.dst A) q) :
  if Region.wanted o (yielded y act.tmps)=true then Oper.wp prog o act w K Q else E:=by
 have Z:Region.wanted o (yielded y act.tmps)=true:=by simp[Region.wanted,N]
 rw[if_pos Z];obtain⟨I,W,S,F,G⟩:=info_parts info2;by_cases z:m=0
 .subst z;have hL:=List.length_eq_zero_iff.1 hm.symm;subst hL;have t:Src prog I.size 151 (.slice a 0 c) 0 [] w:=by
   cases a with
   | none=>exact Src.ofNil w underlying151 c
   | some ad=>exact Src.ofSlice w underlying151 ad 0 c [] (by simp) (by simp) (by simp)
  have O:∃b l d,v=.slice b l d/\l<=d:=by
   rcases f.2 with ⟨rfl,rfl⟩|⟨g,d,X,rfl,_,_,J,_⟩;.exact⟨none,0,0,rfl,Uq _⟩
   .exact⟨_,n,d,rfl,J⟩
  obtain⟨b,l,d,R,H⟩:=O;have k:=run_append_nothing (P:=prog) w 151 151 o.type 2 I underlying151 W b l d H (.slice a 0 c) t;rw[<- R] at k;unfold Oper.wp;simp[execOp,U,resolve,invoke,builtin,T,V,k,Result.andThen];exact h v w (by simpa[Cp] using f) ⟨rfl,rfl,rfl,Uq _,λ_ _ _=>rfl⟩
 .rcases D with Y|⟨b,p,rfl,hc⟩;.exact absurd Y z
  .refine wp_append_own w s x 151 U B 2 I (iv 0) 1 8 underlying151 W S F G rfl (by decide) v n xs T f (ad b p) m c (Cp L) V (by rw[DH];omega) (λj u r=>?_) (λu C=>?_) (by unfold maxLen;omega) (by omega) hB (λA q J h2 _=>h A q J h2)
   .have M:j<m:=by have:=(List.getElem?_eq_some_iff.1 r).1;rw[DH] at this;omega
    rw[Fd L j (by omega)] at r;injection r with r;subst r;have e:(Addr.add (ad b p) j)=(ad b (p+j)):=by
     unfold Addr.add;by_cases h:j=0;.subst h;simp
     .simp[h]
    rw[e];exact hc j M
   .unfold Cp at C;simp only[List.mem_map] at C;obtain⟨i,_,rfl⟩:=C;rfl
theorem AT {w':World} {i y:Nat} {c k:TypeId} {p G:Nat} {s l:Value} {m F:Nat} {r u:List Value} (d:w.ownsRow i c p s m r) (x:w.ownsRow y k G l F u) (A:c≠k) (z:w.grownBy w' l.ownBlock):w'.ownsRow i c p s m r:=by
 have f:=DZ d x A;refine⟨d.1,?_⟩;rcases d.2 with q|⟨g,h,b,t,D,j,C⟩;.exact Or.inl q
 .refine Or.inr ⟨g,h,b,t,D,?_,C⟩;rw[z.block g (Array.getElem?_eq_some_iff.1 j).1 (λe=>f g (by rw[t];rfl) e.symm)];exact j
theorem IR {L:List ByteArray} (h:w.ownsRow B 9 1 v n (Ap L)) (p:n=L.length) (X:Nat->ByteArray) (l:∀i,i<n->gt L i=X i):∃a c,v=.slice a n c/\∀S:Nat->Prop,(∀b,v.ownBlock=some b->S b)->ER 9 S w a n c (λi=>.string (X i)):=by
 obtain⟨a,c,rfl,m⟩:=Af h;refine⟨a,c,rfl,λS j=>.of ?_ h j⟩;by_cases f:n=0;.exact Or.inl f
 .obtain⟨g,rfl,_,e,d⟩:=m f;exact Or.inr ⟨g,rfl,j g rfl,e,λi k=>by show _=some (Value.string (X i));rw[<- l i k];exact d i _ (Bf L i (by omega))⟩
theorem Je {L:List Int} (h:w.ownsRow B 2 1 v n (Cp L)) (p:n=L.length) (X:Nat->Int) (l:∀i,i<n->gi L i=X i):∃a c,v=.slice a n c/\∀S:Nat->Prop,(∀b,v.ownBlock=some b->S b)->ER 2 S w a n c (λi=>iv (X i)):=by
 obtain⟨a,c,rfl,m⟩:=Af h;refine⟨a,c,rfl,λS j=>.of ?_ h j⟩;by_cases f:n=0;.exact Or.inl f
 .obtain⟨g,rfl,_,e,d⟩:=m f;exact Or.inr ⟨g,rfl,j g rfl,e,λi k=>by show _=some (Value.int .i64 (X i));rw[<- l i k];exact d i _ (Fd L i (by omega))⟩
theorem Cq {i:Array Oper} {K:Act->World->Prop} (t:o.guard=none) (s x:Operand)
  (G:o.op=.call { callee:=.builtin .append,args:=#[s,x],argTypes:=#[57,57] })
  (B:Nat) (v:Value) (n:Nat) (xs:List Value) (C:act.eval s=v) (d:w.ownsRow B 168 4 v n xs)
  (g c:Nat) (p l m k:Value) (H:act.eval x=.slice (some (ad g 0)) 1 c) (I:∀j u,[p,l,m,k][j]?=some u->w.cell? (ad g j)=some u) (R:∀u∈[p,l,m,k],u.oneCell'=true) (O:n<=1048576) (J:B<=w.heap.size)
  (h:∀b f,f.ownsRow B 168 4 b (n+1) (xs++[p,l,m,k])->w.grownBy f v.ownBlock->(b.ownBlock=v.ownBlock\/b.ownBlock=some w.heap.size)->K (act.put o.dst b) f) :
  if Region.wanted o (yielded i act.tmps)=true then Oper.wp prog o act w K Q else E:=by
 have z:Region.wanted o (yielded i act.tmps)=true:=by simp[Region.wanted,t]
 rw[if_pos z];obtain⟨M,N,y,q,r⟩:=info_parts info168;obtain⟨b,f,L,D,A,T,S⟩:=run_append_own_at (P:=prog) w B 57 o.type 168 M _ 4 64 underlying57 N y q r rfl (by decide) v n xs d (ad g 0) 1 c [p,l,m,k] rfl (λj u F=>by
  have e:(Addr.add (ad g 0) j)=(ad g j):=by
   unfold Addr.add;by_cases h:j=0;.subst h;simp
   .simp[h]
  rw[e];exact I j u F) R (by unfold maxLen;omega) (by omega) J
 unfold Oper.wp execOp;simp only[G,resolve,invoke,builtin,Sem.run_bind,Sem.run_pure,Result.andThen_ok,List.map_toArray,List.map_cons,List.map_nil,C,H,L];exact h b f D A S
end Go.Proofs.YtcnollkkigiobaaGreat
