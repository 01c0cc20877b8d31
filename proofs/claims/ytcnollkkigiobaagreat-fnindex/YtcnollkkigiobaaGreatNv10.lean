import Derived.Test.YtcnollkkigiobaaGreatNv6
import Derived.Test.YtcnollkkigiobaaGreatNv9
set_option linter.unusedVariables false
set_option linter.unusedSimpArgs false
set_option maxRecDepth 100000
set_option maxHeartbeats 90000000
namespace Go.Proofs.YtcnollkkigiobaaGreat
open Go Go.Deep Go.RowKit Go.Proofs.Tryz
variable {B i n:Nat}{S:Nat->Prop}{a:Option Addr}{w w':World}{xs:List Value}
theorem Bp.congr {F G:Nat->Tn} (h:Bp S w n F xs) (e:∀i,i<n->F i=G i):Bp S w n G xs:=
 ⟨h.1,λi b=>by rw[<- e i b];exact h.2 i b⟩
def MG (xs:List Value) (i:Nat):Option Nat:=(xs[i*4+1]?).bind Value.ownBlock
theorem Nj {b:Nat} {F:Nat->Tn} (h:Bp S w n F xs) (hi:i<n) (e:MG xs i=some b):b<w.heap.size:=by obtain⟨v0,o,l,j,_,f,_,_,_,_,ka,kc,da,dc,rfl,_,⟨_,_,r⟩,_⟩:=h.2 i hi;unfold MG at e;rw[f] at e;exact (r b e).2
theorem KM {b:List Value} {k:Nat} (e:xs.length=k*4) (hi:i<k):MG (xs++b) i=MG xs i:=by unfold MG;rw[List.getElem?_append_left (by omega)]
structure Gq (w wr:World) (v0:Value) (k:Nat) (N:Nat->Tn) (v:Value) (xs:List Value):Prop where
 tb:Bx wr w.heap.size 59 #[v0]
 rb:Bx wr (w.heap.size+1) 59 #[.slice none 0 0]
 ob:Bx wr (w.heap.size+2) 59 #[v]
 own:wr.ownsRow (w.heap.size+3) 168 4 v k xs
 fl:Bp (λb=>w.heap.size+3<=b/\v.ownBlock≠some b) wr k N xs
 bel:Bl w wr
 kd:∀i j,i<k->j<k->i≠j->∀b,MG xs i=some b->MG xs j≠some b
theorem Gq.below {w wr w1:World} {v0:Value} {k:Nat} {N:Nat->Tn} {v:Value} {xs:List Value} (h:Gq w wr v0 k N v xs) (e:Bl wr w1):Gq w w1 v0 k N v xs:=
 ⟨h.tb.below e,h.rb.below e,h.ob.below e,Ag h.own e,h.fl.mono e.size (λb j f=>⟨j,e.block b f⟩),h.bel.trans (e.mono h.bel.size),h.kd⟩
section
variable {w R W w16:World} {v0:Value} {k oc cA cB nb:Nat} {oa aA aB:Option Addr} {N:Nat->Tn} {xs:List Value} {v16:Value}
theorem MC (o:Gq w R v0 k N (.slice oa k oc) xs) (p:w.heap.size+3<=nb/\nb<R.heap.size/\∀g,(Value.slice oa k oc).ownBlock=some g->g<nb) (j:Bl R W) {O:Obj} (l:(W.alloc O).grownBy w16 (Value.slice oa k oc).ownBlock) (b:Nat) (h:b<R.heap.size) (f:(Value.slice oa k oc).ownBlock≠some b):w16.heap[b]?=R.heap[b]?:=by have r:=j.size;rw[l.block b (by simp;omega) (λe=>f e.symm)];exact ((j.alloc j.size O).block b h)
theorem Kb (f:Gq w R v0 k N (.slice oa k oc) xs) (hz:w.heap.size+3<=nb/\nb<R.heap.size/\∀g,(Value.slice oa k oc).ownBlock=some g->g<nb) (K:Bl R W)
  (X:∀S:Nat->Prop,(∀b,(Value.slice aA (N k).kn cA).ownBlock=some b->S b)->ER 9 S W aA (N k).kn cA (λi=>.string ((N k).ks i))) (Q:∀S:Nat->Prop,(∀b,(Value.slice aB (N k).dn cB).ownBlock=some b->S b)->ER 2 S W aB (N k).dn cB (λi=>iv ((N k).kd i)))
  (y:∀g,(Value.slice aA (N k).kn cA).ownBlock=some g->R.heap.size<=g/\g<W.heap.size) (V:∀g,(Value.slice aB (N k).dn cB).ownBlock=some g->R.heap.size<=g/\g<W.heap.size)
  {O:Obj} (ho:w16.ownsRow (w.heap.size+3) 168 4 v16 (k+1) (xs++[.bool (N k).lf,.slice aA (N k).kn cA,.slice aB (N k).dn cB,iv (N k).ct])) (J:(W.alloc O).grownBy w16 (Value.slice oa k oc).ownBlock) (T:v16.ownBlock=(Value.slice oa k oc).ownBlock\/v16.ownBlock=some (W.alloc O).heap.size) :
  Gq w (w16.setCell (ad (w.heap.size+2) 0) v16) v0 (k+1) N v16 (xs++[.bool (N k).lf,.slice aA (N k).kn cA,.slice aB (N k).dn cB,iv (N k).ct])/\w16.cell? (ad (w.heap.size+2) 0)=some (.slice oa k oc)/\Bx w16 (w.heap.size+2) 59 #[.slice oa k oc]:=by
 obtain⟨z1,z2,Z⟩:=hz;have hs:=K.size;have z:=Ah f.own;have r:=MC f ⟨z1,z2,Z⟩ K J;have A:∀b,b<w.heap.size+3->(Value.slice oa k oc).ownBlock≠some b:=λb K e=>by have:=(z b e).1;omega
 have p:Bx w16 (w.heap.size+2) 59 #[.slice oa k oc]:=f.ob.of_block (r _ (by omega) (A _ (by omega)));have P:=J.size;simp at P;have s:∀b,b<W.heap.size->(Value.slice oa k oc).ownBlock≠some b->v16.ownBlock≠some b:=λb h1 h2 e=>by
  rcases T with h|h;.rw[h] at e;exact h2 e
  .rw[h] at e;injection e with e;simp at e;omega
 have o:∀b,b≠w.heap.size+2->(w16.setCell (ad (w.heap.size+2) 0) v16).heap[b]?=w16.heap[b]?:=λb h=>Ur _ _ _ _ h;have x:(w16.setCell (ad (w.heap.size+2) 0) v16).heap.size=w16.heap.size:=by simp[World.setCell]
 refine⟨⟨?_,?_,?_,?_,?_,?_,?_⟩,by have:=p.cell 0;simpa using this,p⟩;.exact f.tb.of_block ((o _ (by omega)).trans (r _ (by omega) (A _ (by omega))))
 .exact f.rb.of_block ((o _ (by omega)).trans (r _ (by omega) (A _ (by omega))))
 .have:=p.set 0 v16;simpa using this
 .exact AC ho _ _ (by simp)
 .refine Bp.congr (F:=DT k N (λ_=>N k)) (Bp.app ?_ (Bp.one (F:=λ_=>N k) ?_)) (λi hi=>?_);.refine f.fl.mono (by rw[x];omega) (λb l H=>⟨⟨l.1,s b (by omega) l.2⟩,?_⟩);exact (o b (by omega)).trans (r b H l.2)
  .have t:∀b,R.heap.size<=b/\b<W.heap.size->(w.heap.size+3<=b/\v16.ownBlock≠some b)/\(w16.setCell (ad (w.heap.size+2) 0) v16).heap[b]?=W.heap[b]?:=by
    intro b G;have u:(Value.slice oa k oc).ownBlock≠some b:=λe=>by have:=(z b e).2;omega
    refine⟨⟨by omega,s b G.2 u⟩,?_⟩;rw[o b (by omega),J.block b (by simp;omega) (λe=>u e.symm)];exact (Aa W O).block b G.2
   refine⟨rfl,rfl,aA,cA,aB,cB,rfl,rfl,?_,?_⟩;.exact (X (λb=>R.heap.size<=b/\b<W.heap.size) (λb e=>y b e)).mono (by rw[x];omega) (λb l _=>t b l)
   .exact (Q (λb=>R.heap.size<=b/\b<W.heap.size) (λb e=>V b e)).mono (by rw[x];omega) (λb l _=>t b l)
  .unfold DT;by_cases e:i<k;.rw[if_pos e]
   .rw[if_neg e,show i=k by omega]
 .refine (((f.bel.trans (K.mono f.bel.size)).alloc (by have:=f.bel.size;omega) O).grown J (by have:=f.bel.size;simp;omega) (λg e=>by have:=(z g e).1;omega)).setCell (by simp) _
 .have H:=f.fl.1;have E:MG (xs++[.bool (N k).lf,.slice aA (N k).kn cA,.slice aB (N k).dn cB,iv (N k).ct]) k=(Value.slice aA (N k).kn cA).ownBlock:=by unfold MG;rw[List.getElem?_append_right (by omega),show k*4+1-xs.length=1 by omega];rfl
  intro i j hi hj M b I D;by_cases U:i<k
  .rw[KM H U] at I;have q1:=Nj f.fl U I;by_cases Y:j<k;.rw[KM H Y] at D;exact f.kd i j U Y M b I D
   .obtain rfl:j=k:=by omega
    rw[E] at D;have:=(y b D).1;omega
  .obtain rfl:i=k:=by omega
   rw[E] at I;have q1:=(y b I).1;rw[KM H (show j<i by omega)] at D;have q2:=Nj f.fl (show j<i by omega) D;omega
theorem Km {x u p r:Value} (b:Gq w R v0 k N (.slice oa k oc) xs) (j:w.heap.size+3<=nb/\nb<R.heap.size/\∀g,(Value.slice oa k oc).ownBlock=some g->g<nb) (s:Bl R W) (D:∀f,Bl R f->f.cell? (ad (w.heap.size+2) 0)=some (.slice oa k oc)/\f.cell? (ad nb 0)=some x/\f.cell? (ad nb 1)=some u/\f.cell? (ad nb 2)=some p/\f.cell? (ad nb 3)=some r) {O:Obj} (t:(W.alloc O).grownBy w16 (Value.slice oa k oc).ownBlock) :
  w16.cell? (ad (w.heap.size+2) 0)=some (.slice oa k oc)/\w16.cell? (ad nb 0)=some x/\w16.cell? (ad nb 1)=some u/\w16.cell? (ad nb 2)=some p/\w16.cell? (ad nb 3)=some r:=by obtain⟨A,E,z,F,G⟩:=D R (Up _ _);have o:=Ah b.own;have l:=b.ob.lt;have y:=MC b j s t (w.heap.size+2) l (λe=>by have:=(o _ e).1;omega);have h:=MC b j s t nb j.2.1 (λe=>by have:=j.2.2 _ e;omega);exact⟨(World.cell?_of_block (a:=(ad (w.heap.size+2) 0)) y).trans A,(World.cell?_of_block (a:=(ad nb 0)) h).trans E,(World.cell?_of_block (a:=(ad nb 1)) h).trans z,(World.cell?_of_block (a:=(ad nb 2)) h).trans F,(World.cell?_of_block (a:=(ad nb 3)) h).trans G⟩
end
def BQ (B:Nat) (w:World) (a:Option Addr) (n:Nat) (N:Nat->Tn):Prop:=
 n=0\/∃g xs,a=some (ad g 0)/\B<=g/\g<w.heap.size/\(∀j u,xs[j]?=some u->w.cell? (ad g j)=some u)/\Bp (λb=>B<=b) w n N xs
theorem BQ.rd {B:Nat} {w:World} {a:Option Addr} {n:Nat} {N:Nat->Tn} (h:BQ B w a n N):Cb w a n N:=by
 rcases h with h|⟨g,xs,rfl,_,_,e,b⟩;.exact Or.inl h
 .exact b.rd e
theorem BQ.keep {f:Nat} {N:Nat->Tn} (h:BQ B w a n N) (z:f<=B) (s:w.heap.size<=w'.heap.size) (e:∀b,B<=b->b<w.heap.size->w'.heap[b]?=w.heap[b]?):BQ f w' a n N:=by
 rcases h with h|⟨g,xs,rfl,r,l,p,x⟩;.exact Or.inl h
 .exact Or.inr ⟨g,xs,rfl,by omega,by omega,λj u o=>(World.cell?_of_block (a:=(ad g j)) (e g r l)).trans (p j u o),x.mono s (λb y t=>⟨by omega,e b y t⟩)⟩
theorem Bp.rowN {c:Nat} {N:Nat->Tn} (r:w.ownsRow B 168 4 (.slice a n c) n xs) (s:Bp (λb=>B<=b) w n N xs):BQ B w a n N:=by
 obtain⟨x,u,e,h⟩:=Af r;injection e with t _ o;subst t o;by_cases f:n=0;.exact Or.inl f
 .obtain⟨g,rfl,j,l,p⟩:=h f;exact Or.inr ⟨g,xs,rfl,j,l,p,s⟩
def RR (w:World) (n:Nat) (N:Nat->Tn) (e:Ending) (w' : World):Prop:=
 Bl w w'/\∃a c xs,e=.returned (.agg #[.slice a n c])/\w'.ownsRow (w.heap.size+2) 168 4 (.slice a n c) n xs/\Bp (λb=>w.heap.size+2<=b/\(Value.slice a n c).ownBlock≠some b) w' n N xs/\∀i j,i<n->j<n->i≠j->∀b,MG xs i=some b->MG xs j≠some b
def Gi (w:World) (n:Nat) (N:Nat->Tn) (e:Ending) (w' : World):Prop:=
 Bl w w'/\∃a c,e=.returned (.agg #[.slice a n c])/\BQ (w.heap.size+2) w' a n N
theorem J2 (a:Option Addr) (n c:Nat) (N:Nat->Tn) (w:World) (h:Cb w a n N) (hn:n<=1048576) (hN:∀i,i<n->Bg (N i)) :
  UO 77 #[.agg #[.slice a n c]] w (RR w n N):=by
 have HR:U (Cb w a n N/\∀i,i<n->Bg (N i)):=⟨h,hN⟩;clear h hN;go_enter func77,ntmps77;go_wp2;have S0:U (Gq w (((w.alloc (.cells #[.slice a n c] 59)).alloc (.cells #[.slice none 0 0] 59)).alloc (.cells #[.slice none 0 0] 59)) (.slice a n c) 0 N (.slice none 0 0) []):=by
  refine⟨((Bx.new w _ _).alloc _).alloc _,?_,?_,⟨rfl,Or.inl ⟨rfl,rfl⟩⟩,⟨rfl,λi hi=>absurd hi (Uu _)⟩,((Aa _ _).alloc (by simp) _).alloc (by simp;omega) _,λi j hi=>absurd hi (Uu _)⟩;.have:=(Bx.new (w.alloc (.cells #[.slice a n c] 59)) #[.slice none 0 0] 59).alloc (.cells #[.slice none 0 0] 59);simpa using this
  .have:=Bx.new ((w.alloc (.cells #[.slice a n c] 59)).alloc (.cells #[.slice none 0 0] 59)) #[.slice none 0 0] 59;simpa using this
 go_loopw [4] (λi wr=>∃(k:Nat) (oa:Option Addr) (oc:Nat) (xs:List Value),k<=n/\i=iv k/\Gq w wr (.slice a n c) k N (.slice oa k oc) xs) (λi _=>n-(intOf i).toNat)
 case atStart=>exact⟨0,none,0,[],Us _,rfl,S0.o⟩
 case round=>
  obtain⟨k,oa,oc,xs,hk,rfl,a9⟩:=hrel;clear S0;have x0:=a9.tb.cell 0;simp at x0;have xz:=a9.tb.lt;have o0:=a9.ob.cell 0;simp at o0;have oz:=a9.ob.lt;have H0:U (Gq w wr (.slice a n c) k N (.slice oa k oc) xs):=a9;clear a9;by_cases bq:k<n
  .obtain⟨b,o,rfl,hc⟩:=(HR.o.1.below H0.o.bel:Cb wr a n N).resolve_left (by omega);obtain⟨ka,kc,da,dc,c0,c1,c2,c3,c4,c5⟩:=hc k bq;have bc:=HR.o.2 k bq;have i0:(0:Int)<=(k:Int):=by omega
   have i1:(k:Int)<(n:Int):=by omega
   have bf:U (Cg wr ka (N k).kn (gt (G8 (N k)))/\Rd .i64 wr da (N k).dn (gi (QM (N k)))):=⟨c4.congr (λj hj=>(EG (N k) j hj).symm),c5.congr (λj hj=>(G3 (N k) j hj).symm)⟩;have be:k<=1048576:=by omega
   have aq:U ((N k).kn<=1048576/\(N k).dn<=1048576):=⟨bc.1,bc.2⟩;clear hc c4 c5 bc;go_upto_region 6 with fail
   obtain⟨nb,ba⟩:∃nb,nb=wr.heap.size:=⟨_,rfl⟩;rw[<- ba];have bj:Bx (wr.alloc (.cells #[.bool (N k).lf,.slice ka (N k).kn kc,.slice da (N k).dn dc,iv (N k).ct] 168)) nb 168 #[.bool (N k).lf,.slice ka (N k).kn kc,.slice da (N k).dn dc,iv (N k).ct]:=by rw[ba];exact Bx.new _ _ _
   have bb:Bl wr (wr.alloc (.cells #[.bool (N k).lf,.slice ka (N k).kn kc,.slice da (N k).dn dc,iv (N k).ct] 168)):=Aa _ _;generalize bt:wr.alloc (.cells #[.bool (N k).lf,.slice ka (N k).kn kc,.slice da (N k).dn dc,iv (N k).ct] 168)=W1 at bj bb ⊢;have am:U (Gq w W1.drew (.slice (some (ad b o)) n c) k N (.slice oa k oc) xs):=(H0.o.below bb).below (Up _ _).drew;have HZ:U (w.heap.size+3<=nb/\nb<W1.drew.heap.size/\∀g,(Value.slice oa k oc).ownBlock=some g->g<nb):=⟨by rw[ba];exact oz,bj.lt,λg e=>by rw[ba];exact (Ah H0.o.own g e).2⟩;have a3:U (Cg W1.drew ka (N k).kn (gt (G8 (N k)))/\Rd .i64 W1.drew da (N k).dn (gi (QM (N k)))):=⟨(bf.o.1.below bb).below (Up _ _).drew,(bf.o.2.below bb).below (Up _ _).drew⟩;have s:U (∀W',Below W1.drew.heap.size W1.drew W'->W'.cell? (ad (w.heap.size+2) 0)=some (.slice oa k oc)/\W'.cell? (ad nb 0)=some (.bool (N k).lf)/\W'.cell? (ad nb 1)=some (.slice ka (N k).kn kc)/\W'.cell? (ad nb 2)=some (.slice da (N k).dn dc)/\W'.cell? (ad nb 3)=some (iv (N k).ct)):=by intro W' bp;have q:=bj.drew.below bp;have q2:=am.o.ob.below bp;exact⟨by simpa using q2.cell 0,by simpa using q.cell 0,by simpa using q.cell 1,by simpa using q.cell 2,by simpa using q.cell 3⟩
   clear bj bb bf H0 x0 o0 c0 c1 c2 c3 bt ba xz oz;generalize hR:W1.drew=R at am HZ a3 s;refine Aj (S:=(λw'=>w'.cell? (ad (w.heap.size+2) 0)=some (.slice oa k oc)/\w'.cell? (ad nb 0)=some (.bool (N k).lf)/\w'.cell? (ad nb 1)=some (.slice ka (N k).kn kc)/\w'.cell? (ad nb 2)=some (.slice da (N k).dn dc)/\w'.cell? (ad nb 3)=some (iv (N k).ct))) 18 (by kernel_rfl) ?_ (λf=>?_);·(rw[hR];exact s.o _ (Up _ _))
   rw[hR] at f ⊢;clear hR;refine tz 0 rfl ?_;refine tz 1 rfl ?_;refine tz 2 rfl ?_;refine tz 3 rfl ?_;refine tz 5 rfl ?_;refine tz 6 rfl ?_;refine tz 9 rfl ?_;refine tz 10 rfl ?_;refine tz 12 rfl ?_;refine tz 13 rfl ?_;refine Dr 4 8 rfl rfl (by kernel_rfl) (λK t=>?_) (λK t=>?_)
   .skip
    go_simp;have O:Bl R (R.alloc (.cells #[] 9)):=(Up R.heap.size R).alloc (Up R.heap.size R).size _;have ax:(R.alloc (.cells #[] 9)).ownsRow R.heap.size 9 1 (.slice (some (ad R.heap.size 0)) 0 0) 0 []:=by simpa using Aw R 9 R.heap.size 1 (Up R.heap.size R).size
    refine tL t (by exact s.o _ O) ?_;clear t K f;intro f;try simp only[Ay]
    refine Dr 7 8 rfl rfl (by kernel_rfl) (λK t=>?_) (λK t=>?_)
    .skip
     refine A8 (by rfl) (.tmp 23) (.tmp 25) (by rfl) R.heap.size (.slice (some (ad R.heap.size 0)) 0 0) 0 [] (by rfl) ax ka (N k).kn kc (G8 (N k)) (by rfl) (AI _).symm (a3.o.1.below (O)) (by have:=aq.o;omega) O.size ?_;intro bs F a4 bl;rw[UI,List.nil_append] at a4;have ag:Bl R F:=O.grown bl O.size (λg e=>(Ah ax g e).1);refine tL t (by exact s.o _ ag) ?_;clear t K f;intro f;try simp only[Ay]
     refine At 8 rfl (λK t=>?_);go_simp;have A:Bl R (F.alloc (.cells #[] 2)):=ag.alloc ag.size _;have T:(F.alloc (.cells #[] 2)).ownsRow R.heap.size 2 1 (.slice (some (ad F.heap.size 0)) 0 0) 0 []:=by simpa using Aw F 2 R.heap.size 1 ag.size
     have a2:=Ag a4 (Aa F (.cells #[] 2));refine tL t (by exact s.o _ A) ?_;clear t K f;intro f;try simp only[Ay]
     refine At 11 rfl (λK t=>?_);refine DV (by rfl) (.tmp 27) (.tmp 29) (by rfl) R.heap.size (.slice (some (ad F.heap.size 0)) 0 0) 0 [] (by rfl) T da (N k).dn dc (QM (N k)) (by rfl) (Ch _).symm (a3.o.2.below (A)) (by have:=aq.o;omega) A.size ?_;intro bi z I ah;rw[UI,List.nil_append] at I;have l:Bl R z:=A.grown ah A.size (λg e=>(Ah T g e).1);have Y:=AT a2 T (by decide) ah;refine tL t (by exact s.o _ l) ?_;clear t K f;intro f;try simp only[Ay]
     obtain⟨aA,cA,eA,a1⟩:=IR Y (AI _).symm (N k).ks (λi hi=>EG (N k) i hi);obtain⟨aB,cB,eB,ay⟩:=Je I (Ch _).symm (N k).kd (λi hi=>G3 (N k) i hi);have a0:=Ah Y;have az:=Ah I;rw[eA] at a1 a0;rw[eB] at ay az;subst eA eB;refine At 14 rfl (λK t=>?_);go_simp;refine tL t (by exact s.o _ l) ?_;clear t K f;intro f;try simp only[Ay]
     refine At 15 rfl (λK t=>?_);go_simp;refine tL t (by exact s.o _ (l.alloc l.size _)) ?_;clear t K f;intro f;try simp only[Ay]
     refine At 16 rfl (λK t=>?_);have J:Bl R (z.alloc (.cells #[.bool (N k).lf,.slice aA (N k).kn cA,.slice aB (N k).dn cB,iv (N k).ct] 168)):=l.alloc l.size _;refine Cq (by rfl) (.tmp 20) (.tmp 34) (by rfl) (w.heap.size+3) (.slice oa k oc) k xs (by rfl) (Ag am.o.own J) z.heap.size 1 (.bool (N k).lf) (.slice aA (N k).kn cA) (.slice aB (N k).dn cB) (iv (N k).ct) (by rfl) (λj u hj=>by rw[(Bx.new z #[.bool (N k).lf,.slice aA (N k).kn cA,.slice aB (N k).dn cB,iv (N k).ct] 168).cell j];simpa using hj) (by intro u hu;simp at hu;rcases hu with rfl|rfl|rfl|rfl <;> rfl) be (by have:=J.size;have:=HZ.o;omega) ?_;intro v16 w16 V Z Q;obtain⟨an,al,bd,_⟩:=Af V;subst bd;have ao:U (Gq w (w16.setCell (ad (w.heap.size+2) 0) (.slice an (k+1) al)) (.slice (some (ad b o)) n c) (k+1) N (.slice an (k+1) al) (xs++[.bool (N k).lf,.slice aA (N k).kn cA,.slice aB (N k).dn cB,iv (N k).ct])/\w16.cell? (ad (w.heap.size+2) 0)=some (.slice oa k oc)/\Bx w16 (w.heap.size+2) 59 #[.slice oa k oc]):=Kb am.o HZ.o l (a1) (ay) a0 az V Z Q;have bo:=ao.o.2.1;refine tL t (by exact Km am.o HZ.o l s.o Z) ?_;clear t K f;intro f;try simp only[Ay]
     have br:w16.frozen? (ad (w.heap.size+2) 0)=false:=ao.o.2.2.frozen 0;refine At 17 rfl (λK t=>?_);go_simp;refine tL t (by exact f) ?_;clear t K f;intro f;try simp only[Ay]
     refine At 18 rfl (λK t=>?_);go_simp;refine tM t ?_;clear t K;clear V Z Q f;go_wp2;go_roundw;case rel=>exact⟨k+1,an,al,_,by omega,by go_num,ao.o.1⟩
     case measure=>simp[intOf];omega
    .skip
     go_simp;have aa:Bl R ((R.alloc (.cells #[] 9)).alloc (.cells #[] 2)):=O.alloc O.size _;have a5:((R.alloc (.cells #[] 9)).alloc (.cells #[] 2)).ownsRow R.heap.size 2 1 (.slice (some (ad (R.heap.size+1) 0)) 0 0) 0 []:=by simpa using Aw (R.alloc (.cells #[] 9)) 2 R.heap.size 1 O.size
     have aj:=Ag ax (Aa (R.alloc (.cells #[] 9)) (.cells #[] 2));refine tL t (by exact s.o _ aa) ?_;clear t K f;intro f;try simp only[Ay]
     refine At 7 rfl (λK t=>?_);refine A8 (by rfl) (.tmp 23) (.tmp 25) (by rfl) R.heap.size (.slice (some (ad R.heap.size 0)) 0 0) 0 [] (by rfl) aj ka (N k).kn kc (G8 (N k)) (by rfl) (AI _).symm (a3.o.1.below (aa)) (by have:=aq.o;omega) aa.size ?_;intro bn a8 ap ar;rw[UI,List.nil_append] at ap;have D:Bl R a8:=aa.grown ar aa.size (λg e=>(Ah aj g e).1);have X:=AT a5 aj (by decide) ar;refine tL t (by exact s.o _ D) ?_;clear t K f;intro f;try simp only[Ay]
     refine At 11 rfl (λK t=>?_);refine DV (by rfl) (.tmp 27) (.tmp 29) (by rfl) R.heap.size (.slice (some (ad (R.heap.size+1) 0)) 0 0) 0 [] (by rfl) X da (N k).dn dc (QM (N k)) (by rfl) (Ch _).symm (a3.o.2.below (D)) (by have:=aq.o;omega) D.size ?_;intro bg y G ae;rw[UI,List.nil_append] at G;have p:Bl R y:=D.grown ae D.size (λg e=>(Ah X g e).1);have ab:=AT ap X (by decide) ae;refine tL t (by exact s.o _ p) ?_;clear t K f;intro f;try simp only[Ay]
     obtain⟨aA,cA,eA,a1⟩:=IR ab (AI _).symm (N k).ks (λi hi=>EG (N k) i hi);obtain⟨aB,cB,eB,ay⟩:=Je G (Ch _).symm (N k).kd (λi hi=>G3 (N k) i hi);have a0:=Ah ab;have az:=Ah G;rw[eA] at a1 a0;rw[eB] at ay az;subst eA eB;refine At 14 rfl (λK t=>?_);go_simp;refine tL t (by exact s.o _ p) ?_;clear t K f;intro f;try simp only[Ay]
     refine At 15 rfl (λK t=>?_);go_simp;refine tL t (by exact s.o _ (p.alloc p.size _)) ?_;clear t K f;intro f;try simp only[Ay]
     refine At 16 rfl (λK t=>?_);have J:Bl R (y.alloc (.cells #[.bool (N k).lf,.slice aA (N k).kn cA,.slice aB (N k).dn cB,iv (N k).ct] 168)):=p.alloc p.size _;refine Cq (by rfl) (.tmp 20) (.tmp 34) (by rfl) (w.heap.size+3) (.slice oa k oc) k xs (by rfl) (Ag am.o.own J) y.heap.size 1 (.bool (N k).lf) (.slice aA (N k).kn cA) (.slice aB (N k).dn cB) (iv (N k).ct) (by rfl) (λj u hj=>by rw[(Bx.new y #[.bool (N k).lf,.slice aA (N k).kn cA,.slice aB (N k).dn cB,iv (N k).ct] 168).cell j];simpa using hj) (by intro u hu;simp at hu;rcases hu with rfl|rfl|rfl|rfl <;> rfl) be (by have:=J.size;have:=HZ.o;omega) ?_;intro v16 w16 V Z Q;obtain⟨an,al,bd,_⟩:=Af V;subst bd;have ao:U (Gq w (w16.setCell (ad (w.heap.size+2) 0) (.slice an (k+1) al)) (.slice (some (ad b o)) n c) (k+1) N (.slice an (k+1) al) (xs++[.bool (N k).lf,.slice aA (N k).kn cA,.slice aB (N k).dn cB,iv (N k).ct])/\w16.cell? (ad (w.heap.size+2) 0)=some (.slice oa k oc)/\Bx w16 (w.heap.size+2) 59 #[.slice oa k oc]):=Kb am.o HZ.o p (a1) (ay) a0 az V Z Q;have bo:=ao.o.2.1;refine tL t (by exact Km am.o HZ.o p s.o Z) ?_;clear t K f;intro f;try simp only[Ay]
     have br:w16.frozen? (ad (w.heap.size+2) 0)=false:=ao.o.2.2.frozen 0;refine At 17 rfl (λK t=>?_);go_simp;refine tL t (by exact f) ?_;clear t K f;intro f;try simp only[Ay]
     refine At 18 rfl (λK t=>?_);go_simp;refine tM t ?_;clear t K;clear V Z Q f;go_wp2;go_roundw;case rel=>exact⟨k+1,an,al,_,by omega,by go_num,ao.o.1⟩
     case measure=>simp[intOf];omega
   .skip
    go_simp;have aw:Bl R (R.alloc (.cells #[] 2)):=(Up R.heap.size R).alloc (Up R.heap.size R).size _;have bk:(R.alloc (.cells #[] 2)).ownsRow R.heap.size 2 1 (.slice (some (ad R.heap.size 0)) 0 0) 0 []:=by simpa using Aw R 2 R.heap.size 1 (Up R.heap.size R).size
    refine tL t (by exact s.o _ aw) ?_;clear t K f;intro f;try simp only[Ay]
    refine At 4 rfl (λK t=>?_);go_simp;have M:Bl R ((R.alloc (.cells #[] 2)).alloc (.cells #[] 9)):=aw.alloc aw.size _;have ak:((R.alloc (.cells #[] 2)).alloc (.cells #[] 9)).ownsRow R.heap.size 9 1 (.slice (some (ad (R.heap.size+1) 0)) 0 0) 0 []:=by simpa using Aw (R.alloc (.cells #[] 2)) 9 R.heap.size 1 aw.size
    have a7:=Ag bk (Aa (R.alloc (.cells #[] 2)) (.cells #[] 9));refine tL t (by exact s.o _ M) ?_;clear t K f;intro f;try simp only[Ay]
    refine At 7 rfl (λK t=>?_);refine A8 (by rfl) (.tmp 23) (.tmp 25) (by rfl) R.heap.size (.slice (some (ad (R.heap.size+1) 0)) 0 0) 0 [] (by rfl) ak ka (N k).kn kc (G8 (N k)) (by rfl) (AI _).symm (a3.o.1.below (M)) (by have:=aq.o;omega) M.size ?_;intro bm a6 au av;rw[UI,List.nil_append] at au;have E:Bl R a6:=M.grown av M.size (λg e=>(Ah ak g e).1);have P:=AT a7 ak (by decide) av;refine tL t (by exact s.o _ E) ?_;clear t K f;intro f;try simp only[Ay]
    refine At 11 rfl (λK t=>?_);refine DV (by rfl) (.tmp 27) (.tmp 29) (by rfl) R.heap.size (.slice (some (ad R.heap.size 0)) 0 0) 0 [] (by rfl) P da (N k).dn dc (QM (N k)) (by rfl) (Ch _).symm (a3.o.2.below (E)) (by have:=aq.o;omega) E.size ?_;intro bh x H af;rw[UI,List.nil_append] at H;have r:Bl R x:=E.grown af E.size (λg e=>(Ah P g e).1);have ac:=AT au P (by decide) af;refine tL t (by exact s.o _ r) ?_;clear t K f;intro f;try simp only[Ay]
    obtain⟨aA,cA,eA,a1⟩:=IR ac (AI _).symm (N k).ks (λi hi=>EG (N k) i hi);obtain⟨aB,cB,eB,ay⟩:=Je H (Ch _).symm (N k).kd (λi hi=>G3 (N k) i hi);have a0:=Ah ac;have az:=Ah H;rw[eA] at a1 a0;rw[eB] at ay az;subst eA eB;refine At 14 rfl (λK t=>?_);go_simp;refine tL t (by exact s.o _ r) ?_;clear t K f;intro f;try simp only[Ay]
    refine At 15 rfl (λK t=>?_);go_simp;refine tL t (by exact s.o _ (r.alloc r.size _)) ?_;clear t K f;intro f;try simp only[Ay]
    refine At 16 rfl (λK t=>?_);have J:Bl R (x.alloc (.cells #[.bool (N k).lf,.slice aA (N k).kn cA,.slice aB (N k).dn cB,iv (N k).ct] 168)):=r.alloc r.size _;refine Cq (by rfl) (.tmp 20) (.tmp 34) (by rfl) (w.heap.size+3) (.slice oa k oc) k xs (by rfl) (Ag am.o.own J) x.heap.size 1 (.bool (N k).lf) (.slice aA (N k).kn cA) (.slice aB (N k).dn cB) (iv (N k).ct) (by rfl) (λj u hj=>by rw[(Bx.new x #[.bool (N k).lf,.slice aA (N k).kn cA,.slice aB (N k).dn cB,iv (N k).ct] 168).cell j];simpa using hj) (by intro u hu;simp at hu;rcases hu with rfl|rfl|rfl|rfl <;> rfl) be (by have:=J.size;have:=HZ.o;omega) ?_;intro v16 w16 V Z Q;obtain⟨an,al,bd,_⟩:=Af V;subst bd;have ao:U (Gq w (w16.setCell (ad (w.heap.size+2) 0) (.slice an (k+1) al)) (.slice (some (ad b o)) n c) (k+1) N (.slice an (k+1) al) (xs++[.bool (N k).lf,.slice aA (N k).kn cA,.slice aB (N k).dn cB,iv (N k).ct])/\w16.cell? (ad (w.heap.size+2) 0)=some (.slice oa k oc)/\Bx w16 (w.heap.size+2) 59 #[.slice oa k oc]):=Kb am.o HZ.o r (a1) (ay) a0 az V Z Q;have bo:=ao.o.2.1;refine tL t (by exact Km am.o HZ.o r s.o Z) ?_;clear t K f;intro f;try simp only[Ay]
    have br:w16.frozen? (ad (w.heap.size+2) 0)=false:=ao.o.2.2.frozen 0;refine At 17 rfl (λK t=>?_);go_simp;refine tL t (by exact f) ?_;clear t K f;intro f;try simp only[Ay]
    refine At 18 rfl (λK t=>?_);go_simp;refine tM t ?_;clear t K;clear V Z Q f;go_wp2;go_roundw;case rel=>exact⟨k+1,an,al,_,by omega,by go_num,ao.o.1⟩
    case measure=>simp[intOf];omega
  .have e:k=n:=by omega
   subst e;have y0:=H0.o.ob.cell 0;have z0:=H0.o.rb.cell 0;simp at y0 z0;have zf:=H0.o.rb.frozen 0;have zl:=H0.o.rb.lt;go_wp2;refine bodyPost_ret (v:=.agg #[.slice oa k oc]) (by simp[results,results77,go_sem,z0]) rfl ⟨H0.o.bel.setCell (by simp) _,oa,oc,xs,rfl,Dn (AC H0.o.own (ad (w.heap.size+1) 0) (.slice oa k oc) (by show w.heap.size+1<_;omega)) (by omega),?_,H0.o.kd⟩;exact H0.o.fl.mono (by simp[World.setCell]) (λb hs _=>⟨⟨by have:=hs.1;omega,hs.2⟩,Ur _ _ _ _ (show b≠w.heap.size+1 by have:=hs.1;omega)⟩)
theorem CC (a:Option Addr) (n c:Nat) (N:Nat->Tn) (w:World) (h:Cb w a n N) (r:n<=1048576) (o:∀i,i<n->Bg (N i)) :
  UO 77 #[.agg #[.slice a n c]] w (Gi w n N):=
 (J2 a n c N w h r o).mono (by
  rintro e w' ⟨l,s,j,xs,rfl,f,p,_⟩
  exact⟨l,s,j,rfl,Bp.rowN f (p.mono (Uq _) (λb t _=>⟨t.1,rfl⟩))⟩)
def C5 (w:World) (B:Nat) (v:Value) (n:Nat) (N:Nat->Tn) (KA DA:Nat->Option Addr) (m:Nat) (P:(Nat->Tn)->Prop) (e:Ending) (w' : World):Prop:=
 ∃v' N' KA' DA' KC' DC',e=.returned v'/\GT w' B v' (n+m) N' KA' DA' KC' DC'/\w.grownBy w' v.ownBlock/\(v'.ownBlock=v.ownBlock\/∃g,v'.ownBlock=some g/\w.heap.size<=g)/\(∀i,i<n->N' i=N i/\KA' i=KA i/\DA' i=DA i)/\
  (∀i,n<=i->i<n+m->((N' i).kn≠0->∃g,KA' i=some (ad g 0)/\w.heap.size<=g)/\((N' i).dn≠0->∃g,DA' i=some (ad g 0)/\w.heap.size<=g))/\P N'
theorem Ip {c:Nat} {a:Option Addr} {L:List ByteArray} (h:w.ownsRow B 9 1 (.slice a n c) n (Ap L)) (b:n=L.length):Cy w B a n (gt L):=by obtain⟨j,f,e,q,_⟩:=BW h b;injection e with e;subst e;rw[b];exact q
theorem GT.more {w1 w':World} {o:Option Addr} {p:Nat} {v':Value} {N:Nat->Tn} {KA DA:Nat->Option Addr} {K H:Nat->Nat} (h:GT w B (.slice o n p) n N KA DA K H) (J:B<=w.heap.size) (I:Bl w w1) (x:Tn) (ka da:Option Addr) (kc dc:Nat) (s:Cy w1 w.heap.size ka x.kn x.ks) (G:Ei w1 w.heap.size da x.dn x.kd)
  (T:w'.ownsRow B 168 4 v' (n+1) ((List.range (n*4)).map (Bi N KA DA K H)++[.bool x.lf,.slice ka x.kn kc,.slice da x.dn dc,iv x.ct])) {O:Obj} (f:(w1.alloc O).grownBy w' (Value.slice o n p).ownBlock) (z:v'.ownBlock=(Value.slice o n p).ownBlock\/v'.ownBlock=some (w1.alloc O).heap.size) {P:(Nat->Tn)->Prop} (M:P (λi=>if i=n then x else N i)) :
  C5 w B (.slice o n p) n N KA DA 1 P (.returned v') w':=by
 have Q:=I.size;have b:=I.alloc Q O;have l:x.kn≠0->∃g,ka=some (ad g 0)/\w.heap.size<=g:=λy=>by obtain⟨g,e,f,_⟩:=s.resolve_left y;exact⟨g,e,f⟩
 have j:x.dn≠0->∃g,da=some (ad g 0)/\w.heap.size<=g:=λy=>by obtain⟨g,e,f,_⟩:=G.resolve_left y;exact⟨g,e,f⟩
 have A:=(h.below b).push x ka da kc dc ((s.below (Aa _ _)).mono J) ((G.below (Aa _ _)).mono J) (λi t u r e=>by
  obtain⟨g,D,E⟩:=l r;have:=(h.used (.inr (.inl ⟨i,t,u,by rw[e,D]⟩))).2;omega) (λi t u r e=>by
  obtain⟨g,D,E⟩:=j r;have:=(h.used (.inr (.inr ⟨i,t,u,by rw[e,D]⟩))).2;omega) T f
 refine⟨v',_,_,_,_,_,rfl,A,⟨f.os.trans b.os,f.tape.trans b.tape,f.output.trans b.output,by have:=f.size;have:=b.size;omega,λk s F=>(f.block k (by have:=b.size;omega) F).trans (b.block k s)⟩,?_,λi t=>?_,λi u r=>?_,M⟩
 .rcases z with e|e;.exact .inl e
  .exact .inr ⟨_,e,b.size⟩
 .have:i≠n:=by omega
  simp only[this,if_false];exact⟨trivial,trivial,trivial⟩
 .have:i=n:=by omega
  subst this;simp only[if_true];exact⟨l,j⟩
theorem Kr (d b:Nat) (t:List ByteArray) (S:Nat->Prop) (w:World) (h:AP S w (d+1) (.inl t) (.iface 204 (pt b))) (B n H:Nat) (G:Option Addr) (N:Nat->Tn) (KA DA:Nat->Option Addr) (KC DC:Nat->Nat) (hg:GT w B (.slice G n H) n N KA DA KC DC) (hB:B<=w.heap.size) (ht:t.length<=1000) (hn:n<=100000) :
  UO 209 #[pt b,.slice G n H] w (C5 w B (.slice G n H) n N KA DA 1 (λN'=>Am N' 0 (d+1) (.inl t) n)):=by
 obtain⟨b',ka,kc,e,_,A,x,I⟩:=h;injection e with _ e;injection e with e;injection e with e;injection e with e;subst e;obtain⟨m,M⟩:=gn t.length;rw[<- M] at A I x ht;have HX:=Ae (ai A I.rdS);have X:=Ae M;have T:=Ae hg;have V:=Ae (EF ka m kc t w.drew (I.rdS.below (Up _ _).drew) M (by omega));have c0:w.drew.cell? (ad b 0)=some (iv (m:Int)):=by have:=A.cell 0;simpa using this
 have c1:w.drew.cell? (ad b 1)=some (.slice ka m kc):=by have:=A.cell 1;simpa using this
 have cz:=A.lt;clear A I hg M x;go_enter func209,ntmps209;go_upto_region 1 with fail
 refine Aj (S:=λw'=>w'.cell? (ad b 0)=some (iv (m:Int))/\w'.cell? (ad b 1)=some (.slice ka m kc)) 13 (by kernel_rfl) ⟨c0,c1⟩ (λf=>?_);refine tz 0 rfl ?_;refine tz 1 rfl ?_;refine tz 2 rfl ?_;refine tz 3 rfl ?_;refine tz 4 rfl ?_;refine tz 6 rfl ?_;refine tz 7 rfl ?_;refine tz 8 rfl ?_;refine At 5 rfl (λK l=>?_);refine Dg (by rfl) 119 9 _ (by rfl) (.slice ka m kc) (by rfl) (λ_ _=>by rfl) ?_;(with_reducible refine V.o.mono ?_)
 rintro e w1 ⟨O,s,rfl,F,D⟩;refine⟨_,rfl,?_⟩;have r:=Ae (ai F (Ad D));have J:=(r.o.2.cell (p:=(ad b 0)) cz).trans c0;have P:=(r.o.2.cell (p:=(ad b 1)) cz).trans c1;clear F D;refine tL l (by exact⟨J,P⟩) ?_;clear l K f;intro f;try simp only[Ay]
 refine At 9 rfl (λK l=>?_);refine Dg (by rfl) 157 13 _ (by rfl) (pt b) (by rfl) (λ_ _=>by rfl) ?_;refine (BK b (m:Int) w1 J).mono ?_;rintro e w2 ⟨rfl,Y⟩;subst Y;refine⟨_,rfl,?_⟩;refine tL l (by exact⟨J,P⟩) ?_;clear l K f;intro f;try simp only[Ay]
 refine At 10 rfl (λK l=>?_);go_simp;refine tL l (by exact f) ?_;clear l K f;intro f;try simp only[Ay]
 refine At 11 rfl (λK l=>?_);go_simp;refine tL l (by exact⟨((Aa w2 _).cell (p:=(ad b 0)) (by have:=r.o.2.size;show b<w2.heap.size;omega)).trans J,((Aa w2 _).cell (p:=(ad b 1)) (by have:=r.o.2.size;show b<w2.heap.size;omega)).trans P⟩) ?_;clear l K f;intro f;try simp only[Ay]
 refine At 12 rfl (λK l=>?_);refine Cq (by rfl) (.tmp 5) (.tmp 16) (by rfl) B (.slice G n H) n _ (by rfl) (Ag (Ag T.o.row r.o.2) (Aa _ _)) w2.heap.size 1 (.bool true) (.slice O m s) (.slice none 0 0) (iv (m:Int)) (by rfl) (λj u hj=>by rw[(Bx.new w2 #[.bool true,.slice O m s,.slice none 0 0,iv (m:Int)] 168).cell j];simpa using hj) (by intro u hu;simp at hu;rcases hu with rfl|rfl|rfl|rfl <;> rfl) (by omega) (by have:=r.o.2.size;simp;omega) ?_;intro v3 Q E z y;have HR:U (C5 w B (.slice G n H) n N KA DA 1 (λN'=>Am N' 0 (d+1) (.inl t) n) (.returned v3) Q):=by refine GT.more T.o hB r.o.2 ⟨true,m,gt t,0,λ_=>0,(m:Int)⟩ O none s 0 (Ip r.o.1 X.o) (.inl rfl) E z y ?_;refine⟨by simp,by simp;exact X.o,λj hj=>by simp,by simp,by simp;rw[<- X.o]⟩
 have k3:Q.cell? (ad b 0)=some (iv (m:Int))/\Q.cell? (ad b 1)=some (.slice ka m kc):=by
  have bx:A6 w2 b 206 0 (λ_=>undef):=by have q:=HX.o.1.below r.o.2;exact⟨_,q,Us _,λi hi=>absurd hi (Uu _)⟩
  have Z:=F6 (Ag T.o.row r.o.2) bx (by decide);have q:=((HX.o.1.below r.o.2).alloc (.cells #[.bool true,.slice O m s,.slice none 0 0,iv (m:Int)] 168)).grown z Z;exact⟨by simpa using q.cell 0,by simpa using q.cell 1⟩
 clear E z y;refine tL l (by exact k3) ?_;clear l K f;intro f;try simp only[Ay]
 refine At 13 rfl (λK l=>?_);go_simp;refine tM l ?_;clear l K;go_wp2;go_ret;exact HR.o
theorem FO {F:Array Oper} {rest:List Oper} {o:Oper} {r:Act} {Q:Exit->Act->World->Prop} (E:o.guard=none) (s x:Operand)
  (ho:o.op=.call { callee:=.builtin .append,args:=#[s,x],argTypes:=#[151,151] })
  (B:Nat) (v:Value) (n:Nat) (xs:List Value) (hs:r.eval s=v) (p:w.ownsRow B 2 1 v n xs)
  (a:Option Addr) (m c:Nat) (L:List Int) (hx:r.eval x=.slice a m c) (hm:m=L.length) (H:Rd .i64 w a m (gi L)) (ab:n+m<=1099511627776) (hB:B<=w.heap.size)
  (h:∀z w',w'.ownsRow B 2 1 z (n+m) (xs++Cp L)->w.grownBy w' v.ownBlock->(z.ownBlock=v.ownBlock\/z.ownBlock=some w.heap.size)->wpList prog F Q rest (r.put o.dst z) w'):wpList prog F Q (o::rest) r w:=by
 obtain⟨O,hi,Y,I,J⟩:=info_parts info2;by_cases G:m=0
 .subst G;have hL:=List.length_eq_zero_iff.1 hm.symm;subst hL;have D:Src prog O.size 151 (.slice a 0 c) 0 [] w:=by
   cases a with
   | none=>exact Src.ofNil w underlying151 c
   | some ad=>exact Src.ofSlice w underlying151 ad 0 c [] (by simp) (by simp) (by simp)
  have V:∃b l f,v=.slice b l f/\l<=f:=by
   rcases p.2 with ⟨rfl,rfl⟩|⟨g,f,aa,rfl,_,_,T,_⟩;.exact⟨none,0,0,rfl,Uq _⟩
   .exact⟨_,n,f,rfl,T⟩
  obtain⟨b,l,f,X,M⟩:=V;have t:=run_append_nothing (P:=prog) w 151 151 o.type 2 O underlying151 hi b l f M (.slice a 0 c) D;rw[<- X] at t;refine wpList_plain E λK hK=>?_;unfold Oper.wp;simp[execOp,ho,resolve,invoke,builtin,hs,hx,t,Result.andThen];exact hK _ _ (h v w (by simpa[Cp] using p) ⟨rfl,rfl,rfl,Uq _,λ_ _ _=>rfl⟩ (Or.inl rfl))
 .rcases H with h0|⟨b,y,rfl,hc⟩;.exact absurd h0 G
  .refine wpList_append_own_at w E s x 151 ho B 2 O (iv 0) 1 8 underlying151 hi Y I J rfl (by decide) v n xs hs p (ad b y) m c (Cp L) hx (by rw[DH];omega) (λj u A=>?_) (λu Z=>?_) (by unfold maxLen;omega) (by omega) hB (λz w' T h2 _ h4=>h z w' T h2 h4)
   .have U:j<m:=by have:=(List.getElem?_eq_some_iff.1 A).1;rw[DH] at this;omega
    rw[Fd L j (by omega)] at A;injection A with A;subst A;have e:(Addr.add (ad b y) j)=(ad b (y+j)):=by
     unfold Addr.add;by_cases h:j=0;.subst h;simp
     .simp[h]
    rw[e];exact hc j U
   .simp only[Cp,List.mem_map] at Z;obtain⟨i,_,rfl⟩:=Z;rfl
theorem KI (a:Option Addr) (n c:Nat) (L:List Int) (w:World) (h:Rd .i64 w a n (gi L)) (s:n=L.length) (u:n<=1048576) :
  UO 120 #[.slice a n c] w λe w'=>∃f b,e=.returned (.slice f n b)/\w'.ownsRow w.heap.size 2 1 (.slice f n b) n (Cp L)/\Bl w w':=by
 have p:=Ae (ai h s);clear h s;go_enter func120,ntmps120;go_wp2_with (at_builtin;refine FO rfl _ _ rfl w.heap.size (.slice none 0 0) 0 [] rfl (World.ownsRow_nil _ _ _ _) a n c L rfl p.o.2 p.o.1 (by omega) (Uq _) ?_)
 intro y w' j r l;have x:=Ae ((Up _ _).grown r (Uq _) (λk e=>by simp[Value.ownBlock] at e));obtain⟨f,b,rfl,_⟩:=Af j;have t:=Ae j;clear j r l;go_wp2;go_ret;exact⟨f,b,rfl,t.o,x.o⟩
theorem Lv {c:Nat} {a:Option Addr} {L:List Int} (h:w.ownsRow B 2 1 (.slice a n c) n (Cp L)) (y:n=L.length) (X:Nat->Int) (p:∀i,i<n->gi L i=X i):Ei w B a n X:=by
 by_cases f:n=0;.exact .inl f
 .rcases h.2 with ⟨_,q⟩|⟨g,r,b,e,s,l,z,u,x,t⟩;.exact absurd q f
  .injection e with e;refine .inr ⟨g,e,s,b,l,by omega,λi o=>?_⟩;have j:(b.toList.take (n*1))[i]?=(Cp L)[i]?:=by rw[t]
   rw[List.getElem?_take,if_pos (by omega),Array.getElem?_toList,Fd L i (by omega),p i o] at j;exact j
theorem GT.congr {v:Value} {N N' : Nat->Tn} {KA DA:Nat->Option Addr} {o p:Nat->Nat} (h:GT w B v n N KA DA o p) (e:∀i,i<n->N i=N' i):GT w B v n N' KA DA o p:=by
 refine⟨?_,λi b=>by rw[<- e i b];exact h.keys i b,λi b=>by rw[<- e i b];exact h.kids i b,λi j b l f s r=>h.apartK i j b l f (by rw[e i b];exact s) (by rw[e j l];exact r),λi j b l f s r=>h.apartD i j b l f (by rw[e i b];exact s) (by rw[e j l];exact r)⟩;have q:(List.range (n*4)).map (Bi N' KA DA o p)=(List.range (n*4)).map (Bi N KA DA o p):=List.map_congr_left (λc t=>by have u : c<n*4:=List.mem_range.1 t;unfold Bi;rw[e (c / 4) (by omega)])
 rw[q];exact h.row
theorem GT.nil (w:World) (B:Nat) (N:Nat->Tn) (KA DA:Nat->Option Addr) (f e:Nat->Nat):GT w B (.slice none 0 0) 0 N KA DA f e:=
 ⟨⟨rfl,.inl ⟨rfl,rfl⟩⟩,λi b=>absurd b (Uu _),λi b=>absurd b (Uu _),λi j b=>absurd b (Uu _),λi j b=>absurd b (Uu _)⟩
def Tv (w:World) (n:Nat) (N:Nat->Tn) (e:Ending) (w' : World):Prop:=
 Bl w w'/\∃a c KA DA KC DC,e=.returned (.agg #[.slice a n c])/\GT w' (w.heap.size+1) (.slice a n c) n N KA DA KC DC
theorem OS (a:Option Addr) (n c:Nat) (N:Nat->Tn) (w:World) (h:Cb w a n N) (hn:n<=1048576) (hN:∀i,i<n->Bg (N i)) :
  UO 85 #[.agg #[.slice a n c]] w (Tv w n N):=by
 have HR:=Ae (ai h hN);clear h hN;go_enter func85,ntmps85;go_wp2;have S0:U (Bx ((w.alloc (.cells #[.slice a n c] 59)).alloc (.cells #[.slice none 0 0] 59)) (w.heap.size+1) 59 #[.slice none 0 0]/\Bl w ((w.alloc (.cells #[.slice a n c] 59)).alloc (.cells #[.slice none 0 0] 59))):=by refine⟨?_,(Aa _ _).alloc (by simp) _⟩;have:=Bx.new (w.alloc (.cells #[.slice a n c] 59)) #[.slice none 0 0] 59;rw[UF] at this;exact this
 generalize (w.alloc (.cells #[.slice a n c] 59)).alloc (.cells #[.slice none 0 0] 59)=W0 at S0 ⊢;go_loopw [3,9] (λq i wr=>∃(k:Nat) (J:Option Addr) (H:Nat) (KA DA:Nat->Option Addr) (KC DC:Nat->Nat),k<=n/\i=iv k/\q=.slice J k H/\GT wr (w.heap.size+2) (.slice J k H) k N KA DA KC DC/\Bx wr (w.heap.size+1) 59 #[.slice none 0 0]/\Bl w wr) (λ_ i _=>n-(intOf i).toNat)
 case atStart=>exact⟨0,none,0,λ_=>none,λ_=>none,λ_=>0,λ_=>0,Us _,rfl,rfl,GT.nil _ _ _ _ _ _ _,S0.o.1,S0.o.2⟩
 case round=>
  obtain⟨k,J,H,KA,DA,KC,DC,hk,rfl,rfl,ak,r,Q⟩:=hrel;clear S0;have t:=Ae (ai ak (ai r Q));have aq:=r.lt;clear ak r Q;by_cases y:k<n
  .obtain⟨b,o,rfl,hc⟩:=(HR.o.1.below t.o.2.2:Cb wr a n N).resolve_left (by omega);obtain⟨ka,kc,da,dc,c0,c1,c2,c3,c4,c5⟩:=hc k y;have z:=HR.o.2 k y;have i0:(0:Int)<=(k:Int):=by omega
   have i1:(k:Int)<(n:Int):=by omega
   have A:=Ae (ai (c4.congr (λj hj=>(EG (N k) j hj).symm)) (c5.congr (λj hj=>(G3 (N k) j hj).symm)));have X:=Ae (ai z.1 z.2);clear hc c4 c5 z;go_upto_region 5 with fail
   obtain⟨nb,ab⟩:=gn wr.heap.size;rw[<- ab];have r:Bx (wr.alloc (.cells #[.bool (N k).lf,.slice ka (N k).kn kc,.slice da (N k).dn dc,iv (N k).ct] 168)) nb 168 #[.bool (N k).lf,.slice ka (N k).kn kc,.slice da (N k).dn dc,iv (N k).ct]:=by rw[ab];exact Bx.new _ _ _
   have s:Bl wr (wr.alloc (.cells #[.bool (N k).lf,.slice ka (N k).kn kc,.slice da (N k).dn dc,iv (N k).ct] 168)):=Aa _ _;generalize ao:wr.alloc (.cells #[.bool (N k).lf,.slice ka (N k).kn kc,.slice da (N k).dn dc,iv (N k).ct] 168)=D at r s ⊢;have F:U (GT D.drew (w.heap.size+2) (.slice J k H) k N KA DA KC DC/\Bx D.drew (w.heap.size+1) 59 #[.slice none 0 0]/\Bl w D.drew/\w.heap.size+2<=D.drew.heap.size):=⟨(t.o.1.below s).below (Up _ _).drew,(t.o.2.1.below s).drew,(t.o.2.2.trans (s.mono t.o.2.2.size)).drew,by have:=s.size;show w.heap.size+2<=D.heap.size;omega⟩;have Z:=Ae (ai ((A.o.1.below s).below (Up _ _).drew) ((A.o.2.below s).below (Up _ _).drew));have l:U (∀O,Below D.drew.heap.size D.drew O->O.cell? (ad nb 0)=some (.bool (N k).lf)/\O.cell? (ad nb 1)=some (.slice ka (N k).kn kc)/\O.cell? (ad nb 2)=some (.slice da (N k).dn dc)/\O.cell? (ad nb 3)=some (iv (N k).ct)):=by intro O af;have q:=r.drew.below af;exact⟨by simpa using q.cell 0,by simpa using q.cell 1,by simpa using q.cell 2,by simpa using q.cell 3⟩
   have ae:U (Bx D.drew nb 168 #[.bool (N k).lf,.slice ka (N k).kn kc,.slice da (N k).dn dc,iv (N k).ct]/\∀g,(Value.slice J k H).ownBlock=some g->g≠nb):=⟨r.drew,λg e=>by have:=(Ah t.o.1.row g e).2;omega⟩;have am:=Ae (EF ka (N k).kn kc (G8 (N k)) D.drew Z.o.1 (AI _).symm X.o.1);have aj:=Ae (λO af=>KI da (N k).dn dc (QM (N k)) O (Z.o.2.below af) (Ch _).symm X.o.2);clear r s A t c0 c1 c2 c3 ao ab;generalize hR:D.drew=R at F Z l am aj ae;refine Aj (S:=λw'=>w'.cell? (ad nb 0)=some (.bool (N k).lf)/\w'.cell? (ad nb 1)=some (.slice ka (N k).kn kc)/\w'.cell? (ad nb 2)=some (.slice da (N k).dn dc)/\w'.cell? (ad nb 3)=some (iv (N k).ct)) 14 (by kernel_rfl) ?_ (λf=>?_);·(rw[hR];exact l.o _ (Up _ _))
   rw[hR] at f ⊢;clear hR;refine tz 0 rfl ?_;refine tz 1 rfl ?_;refine tz 2 rfl ?_;refine tz 3 rfl ?_;refine tz 4 rfl ?_;refine tz 6 rfl ?_;refine tz 7 rfl ?_;refine tz 9 rfl ?_;refine tz 10 rfl ?_;refine At 5 rfl (λK p=>?_);refine Dg (by rfl) 119 17 _ (by rfl) (.slice ka (N k).kn kc) (by rfl) (λ_ _=>by rfl) ?_;(with_reducible refine am.o.mono ?_)
   rintro e w1 ⟨a1,I,rfl,an,al⟩;refine⟨_,rfl,?_⟩;have H1:=Ae (ai an al);clear an al;refine tL p (by exact l.o _ H1.o.2) ?_;clear p K f;intro f;try simp only[Ay]
   refine At 8 rfl (λK p=>?_);have M:=Ae (aj.o w1 H1.o.2);refine Dg (by rfl) 120 20 _ (by rfl) (.slice da (N k).dn dc) (by rfl) (λ_ _=>by rfl) ?_;(with_reducible refine M.o.mono ?_)
   rintro e w2 ⟨a2,G,rfl,ah,ac⟩;refine⟨_,rfl,?_⟩;have E:U (Cy w2 R.heap.size a1 (N k).kn (N k).ks/\Ei w2 R.heap.size a2 (N k).dn (N k).kd/\Bl R w2):=by
    have q1:=Ip (Ag H1.o.1 ac) (AI _).symm;refine⟨?_,(Lv ah (Ch _).symm (N k).kd (λi T=>G3 (N k) i T)).mono H1.o.2.size,H1.o.2.trans (ac.mono H1.o.2.size)⟩;rcases q1 with q|⟨g,e,hg,hr⟩;.exact .inl q
    .exact .inr ⟨g,e,hg,hr.congr (λi T=>by rw[EG (N k) i T])⟩
   clear ah ac M;refine tL p (by exact l.o _ E.o.2.2) ?_;clear p K f;intro f;try simp only[Ay]
   refine At 11 rfl (λK p=>?_);go_simp;refine tL p (by exact f) ?_;clear p K f;intro f;try simp only[Ay]
   refine At 12 rfl (λK p=>?_);go_simp;refine tL p (by exact l.o _ (E.o.2.2.alloc E.o.2.2.size _)) ?_;clear p K f;intro f;try simp only[Ay]
   refine At 13 rfl (λK p=>?_);refine Cq (by rfl) (.tmp 13) (.tmp 25) (by rfl) (w.heap.size+2) (.slice J k H) k _ (by rfl) (Ag (Ag F.o.1.row E.o.2.2) (Aa _ _)) w2.heap.size 1 (.bool (N k).lf) (.slice a1 (N k).kn I) (.slice a2 (N k).dn G) (iv (N k).ct) (by rfl) (λj u hj=>by rw[(Bx.new w2 #[.bool (N k).lf,.slice a1 (N k).kn I,.slice a2 (N k).dn G,iv (N k).ct] 168).cell j];simpa using hj) (by intro u hu;simp at hu;rcases hu with rfl|rfl|rfl|rfl <;> rfl) (by omega) (by have:=E.o.2.2.size;have:=F.o.2.2.2;simp;omega) ?_;intro v3 w3 aa Y V;obtain⟨a3,ag,e3,_⟩:=Af aa;subst e3;have HX:U (∃KA' DA' KC' DC',GT w3 (w.heap.size+2) (.slice a3 (k+1) ag) (k+1) N KA' DA' KC' DC'/\Bx w3 (w.heap.size+1) 59 #[.slice none 0 0]/\Bl w w3):=by
    obtain⟨v',N',KA',DA',KC',DC',e,q1,q2,q3,q4,q5,q6⟩:=GT.more F.o.1 F.o.2.2.2 E.o.2.2 (N k) a1 a2 I G E.o.1 E.o.2.1 aa Y V (P:=λN'=>N' k=N k) (by simp);injection e with e;subst e;have y:=Ah F.o.1.row;refine⟨KA',DA',KC',DC',q1.congr (λi T=>?_),F.o.2.1.grown q2 (λe=>by have:=(y _ e).1;omega),F.o.2.2.1.grown q2 (by have:=F.o.2.2.2;omega) (λg e=>by have:=(y g e).1;omega)⟩;by_cases e:i=k;.subst e;exact q6
    .exact (q4 i (by omega)).1
   have k3:=l.o _ E.o.2.2;have k4:w3.cell? (ad nb 0)=some (.bool (N k).lf)/\w3.cell? (ad nb 1)=some (.slice ka (N k).kn kc)/\w3.cell? (ad nb 2)=some (.slice da (N k).dn dc)/\w3.cell? (ad nb 3)=some (iv (N k).ct):=by have q:=((ae.o.1.below E.o.2.2).alloc (.cells #[.bool (N k).lf,.slice a1 (N k).kn I,.slice a2 (N k).dn G,iv (N k).ct] 168)).grown Y (λe=>ae.o.2 _ e rfl);exact⟨by simpa using q.cell 0,by simpa using q.cell 1,by simpa using q.cell 2,by simpa using q.cell 3⟩
   clear aa Y V k3;refine tL p (by exact k4) ?_;clear p K f;intro f;try simp only[Ay]
   refine At 14 rfl (λK p=>?_);go_simp;refine tM p ?_;clear p K;obtain⟨KA',DA',KC',DC',hx⟩:=HX.o;have ap:=Ae hx;clear hx f k4;go_wp2;go_roundw;case rel=>exact⟨k+1,a3,ag,KA',DA',KC',DC',by omega,by go_num,rfl,ap.o⟩
   case measure=>simp[intOf];omega
  .have e:k=n:=by omega
   subst e;have z0:=t.o.2.1.cell 0;simp at z0;have zf:=t.o.2.1.frozen 0;go_wp2;refine bodyPost_ret (v:=.agg #[.slice J k H]) (by simp[results,results85,go_sem,z0]) rfl ⟨t.o.2.2.setCell (by simp) _,J,H,KA,DA,KC,DC,rfl,?_⟩;have q:=t.o.1.keep (w':=wr.setCell (ad (w.heap.size+1) 0) (.slice J k H)) (λx hx=>Ur _ _ _ _ (by have:=(t.o.1.used hx).1;show x≠w.heap.size+1;omega));exact⟨Dn q.row (by omega),λi T=>(q.keys i T).mono (by omega),λi T=>(q.kids i T).mono (by omega),q.apartK,q.apartD⟩
structure Dd (w wr:World) (B n m:Nat) (v q:Value) (N:Nat->Tn) (KA DA:Nat->Option Addr) (N' : Nat->Tn) (KA' DA' : Nat->Option Addr) (KC' DC' : Nat->Nat) (tb:Nat) (C:Int) (ka:Option Addr) (kn kc:Nat) (da:Option Addr) (dn dc:Nat) (LK:List ByteArray) (LD:List Int):Prop where
 gt:GT wr B q m N' KA' DA' KC' DC'
 old:∀i,i<n->N' i=N i/\KA' i=KA i/\DA' i=DA i
 new:∀i,n<=i->i<m->((N' i).kn≠0->∃g,KA' i=some (ad g 0)/\w.heap.size<=g)/\((N' i).dn≠0->∃g,DA' i=some (ad g 0)/\w.heap.size<=g)
 zero:(N' n).kn=0/\(N' n).dn=0/\n<m
 box:Bx wr tb 168 #[.bool false,.slice ka kn kc,.slice da dn dc,iv C]
 tbw:w.heap.size<=tb/\¬ Ga q m N' KA' DA' tb
 own1:wr.ownsRow B 9 1 (.slice ka kn kc) kn (Ap LK)/\kn=LK.length
 own2:wr.ownsRow B 2 1 (.slice da dn dc) dn (Cp LD)/\dn=LD.length
 far1:∀g,(Value.slice ka kn kc).ownBlock=some g->(w.heap.size<=g/\g≠tb)/\¬ Ga q m N' KA' DA' g
 far2:∀g,(Value.slice da dn dc).ownBlock=some g->(w.heap.size<=g/\g≠tb)/\¬ Ga q m N' KA' DA' g
 fr:w.grownBy wr v.ownBlock
 qat:q.ownBlock=v.ownBlock\/∃g,q.ownBlock=some g/\w.heap.size<=g
section
variable {w wr w1 w2:World} {B n m:Nat} {v q:Value} {N:Nat->Tn} {KA DA:Nat->Option Addr} {N' : Nat->Tn} {KA' DA' : Nat->Option Addr} {KC' DC' : Nat->Nat} {tb:Nat} {C:Int} {ka:Option Addr} {kn kc:Nat} {da:Option Addr} {dn dc:Nat} {LK:List ByteArray} {LD:List Int}
theorem Dd.key (h:Dd w wr B n m v q N KA DA N' KA' DA' KC' DC' tb C ka kn kc da dn dc LK LD) (y:Bl wr w1) {f:Option Addr} {b:Nat} {s:ByteArray} (F:w2.ownsRow B 9 1 (.slice f (kn+1) b) (kn+1) (Ap LK++[.string s])) (z:w1.grownBy w2 (Value.slice ka kn kc).ownBlock) (D:(Value.slice f (kn+1) b).ownBlock=(Value.slice ka kn kc).ownBlock\/(Value.slice f (kn+1) b).ownBlock=some w1.heap.size) :
  Dd w (w2.setCell (ad tb 1) (.slice f (kn+1) b)) B n m v q N KA DA N' KA' DA' KC' DC' tb C f (kn+1) b da dn dc (LK++[s]) LD/\Bx w2 tb 168 #[.bool false,.slice ka kn kc,.slice da dn dc,iv C]:=by
 have M:=y.size;have J:=z.size;have H:=h.fr.size;have r:∀x,x<wr.heap.size->(Value.slice ka kn kc).ownBlock≠some x->w2.heap[x]?=wr.heap[x]?:=λx p l=>(z.block x (by omega) (λe=>l e.symm)).trans (y.block x p);have j:∀x,x<wr.heap.size->(Value.slice ka kn kc).ownBlock≠some x->x≠tb->(w2.setCell (ad tb 1) (.slice f (kn+1) b)).heap[x]?=wr.heap[x]?:=λx p l I=>(Ur _ _ _ _ (show x≠tb from I)).trans (r x p l);have u:=h.box.lt;have A:=h.box.of_block (r tb u (λe=>(h.far1 tb e).1.2 rfl));have E:=Ah h.own1.1;have K:=λg e=>DZ h.own2.1 h.own1.1 (by decide) g e;have t:∀g,(Value.slice f (kn+1) b).ownBlock=some g->(Value.slice ka kn kc).ownBlock=some g\/wr.heap.size<=g:=λg e=>by
  rcases D with o|o;.rw[o] at e;exact .inl e
  .rw[o] at e;injection e with e;exact .inr (by omega)
 refine⟨⟨h.gt.keep (λx p=>j x (h.gt.used p).2 (λe=>(h.far1 x e).2 p) (λe=>h.tbw.2 (e ▸ p))),h.old,h.new,h.zero,?_,h.tbw,⟨?_,by rw[Uz,<- h.own1.2];rfl⟩,⟨AK h.own2.1 (λg e=>j g (Ah h.own2.1 g e).2 (K g e) (h.far2 g e).1.2),h.own2.2⟩,λg e=>?_,h.far2,?_,h.qat⟩,A⟩;.exact A.set 1 _
 .rw[Bv];refine AK F (λg e=>Ur _ _ _ _ (show g≠tb from ?_));rcases t g e with o|o;.exact (h.far1 g o).1.2
  .omega
 .rcases t g e with o|o;.exact h.far1 g o
  .exact⟨⟨by omega,by omega⟩,λq=>by have:=(h.gt.used q).2;omega⟩
 .refine⟨z.os.trans (y.os.trans h.fr.os),z.tape.trans (y.tape.trans h.fr.tape),z.output.trans (y.output.trans h.fr.output),by simp[World.setCell];omega,λk G l=>?_⟩;exact (j k (by omega) (λe=>by have:=(h.far1 k e).1;omega) (by have:=h.tbw.1;omega)).trans (h.fr.block k G l)
theorem Dd.kid (h:Dd w wr B n m v q N KA DA N' KA' DA' KC' DC' tb C ka kn kc da dn dc LK LD) (y:Bl wr w1) {b:Option Addr} {f:Nat} {s:Int} (E:w2.ownsRow B 2 1 (.slice b (dn+1) f) (dn+1) (Cp LD++[iv s])) (z:w1.grownBy w2 (Value.slice da dn dc).ownBlock) (D:(Value.slice b (dn+1) f).ownBlock=(Value.slice da dn dc).ownBlock\/(Value.slice b (dn+1) f).ownBlock=some w1.heap.size) :
  Dd w (w2.setCell (ad tb 2) (.slice b (dn+1) f)) B n m v q N KA DA N' KA' DA' KC' DC' tb C ka kn kc b (dn+1) f LK (LD++[s])/\Bx w2 tb 168 #[.bool false,.slice ka kn kc,.slice da dn dc,iv C]:=by
 have K:=y.size;have I:=z.size;have G:=h.fr.size;have r:∀x,x<wr.heap.size->(Value.slice da dn dc).ownBlock≠some x->w2.heap[x]?=wr.heap[x]?:=λx p l=>(z.block x (by omega) (λe=>l e.symm)).trans (y.block x p);have j:∀x,x<wr.heap.size->(Value.slice da dn dc).ownBlock≠some x->x≠tb->(w2.setCell (ad tb 2) (.slice b (dn+1) f)).heap[x]?=wr.heap[x]?:=λx p l H=>(Ur _ _ _ _ (show x≠tb from H)).trans (r x p l);have u:=h.box.lt;have A:=h.box.of_block (r tb u (λe=>(h.far2 tb e).1.2 rfl));have J:=λg e=>DZ h.own1.1 h.own2.1 (by decide) g e;have t:∀g,(Value.slice b (dn+1) f).ownBlock=some g->(Value.slice da dn dc).ownBlock=some g\/wr.heap.size<=g:=λg e=>by
  rcases D with o|o;.rw[o] at e;exact .inl e
  .rw[o] at e;injection e with e;exact .inr (by omega)
 refine⟨⟨h.gt.keep (λx p=>j x (h.gt.used p).2 (λe=>(h.far2 x e).2 p) (λe=>h.tbw.2 (e ▸ p))),h.old,h.new,h.zero,?_,h.tbw,⟨AK h.own1.1 (λg e=>j g (Ah h.own1.1 g e).2 (J g e) (h.far1 g e).1.2),h.own1.2⟩,⟨?_,by rw[Uz,<- h.own2.2];rfl⟩,h.far1,λg e=>?_,?_,h.qat⟩,A⟩;.exact A.set 2 _
 .rw[Is];refine AK E (λg e=>Ur _ _ _ _ (show g≠tb from ?_));rcases t g e with o|o;.exact (h.far2 g o).1.2
  .omega
 .rcases t g e with o|o;.exact h.far2 g o
  .exact⟨⟨by omega,by omega⟩,λq=>by have:=(h.gt.used q).2;omega⟩
 .refine⟨z.os.trans (y.os.trans h.fr.os),z.tape.trans (y.tape.trans h.fr.tape),z.output.trans (y.output.trans h.fr.output),by simp[World.setCell];omega,λk F l=>?_⟩;exact (j k (by omega) (λe=>by have:=(h.far2 k e).1;omega) (by have:=h.tbw.1;omega)).trans (h.fr.block k F l)
theorem Dd.told (h:Dd w wr B n m v q N KA DA N' KA' DA' KC' DC' tb C ka kn kc da dn dc LK LD) {c:Nat} {P:(Nat->Tn)->Prop} {e:Ending} (hr:C5 wr B q m N' KA' DA' c P e w1) :
  ∃J E r p y z,e=.returned J/\Dd w w1 B n (m+c) v J N KA DA E r p y z tb C ka kn kc da dn dc LK LD/\(∀i,i<m->E i=N' i)/\P E:=by
 obtain⟨J,E,r,p,y,z,rfl,g2,s,G,b,o,Z⟩:=hr;have aa:w.heap.size<=wr.heap.size:=h.fr.size;have f:∀x,x<wr.heap.size->Ga J (m+c) E r p x->Ga q m N' KA' DA' x:=by
  intro x hx D;rcases D with D|⟨i,A,I,e⟩|⟨i,A,I,e⟩
  .rcases G with l|⟨g,l,O⟩;.exact .inl (by rw[<- l];exact D)
   .rw[l] at D;injection D with D;omega
  .by_cases t:i<m;.obtain⟨j,F,_⟩:=b i t;exact .inr (.inl ⟨i,t,by rw[<- j];exact I,by rw[<- F];exact e⟩)
   .obtain⟨g,j,F⟩:=(o i (by omega) A).1 I;rw[e] at j;injection j with j;injection j with j;omega
  .by_cases t:i<m;.obtain⟨j,_,F⟩:=b i t;exact .inr (.inr ⟨i,t,by rw[<- j];exact I,by rw[<- F];exact e⟩)
   .obtain⟨g,j,F⟩:=(o i (by omega) A).2 I;rw[e] at j;injection j with j;injection j with j;omega
 have U:∀x,q.ownBlock=some x->Ga q m N' KA' DA' x:=λx e=>.inl e;have Y:=Ah h.own1.1;have X:=Ah h.own2.1;have V:=h.zero;refine⟨J,E,r,p,y,z,rfl,⟨g2,λi A=>?_,λi l O=>?_,?_,h.box.grown s (λe=>h.tbw.2 (U tb e)),⟨h.tbw.1,λu=>h.tbw.2 (f tb h.box.lt u)⟩,⟨AK h.own1.1 (λg e=>s.block g (Y g e).2 (λT=>(h.far1 g e).2 (U g T.symm))),h.own1.2⟩,⟨AK h.own2.1 (λg e=>s.block g (X g e).2 (λT=>(h.far2 g e).2 (U g T.symm))),h.own2.2⟩,λg e=>⟨(h.far1 g e).1,λu=>(h.far1 g e).2 (f g (Y g e).2 u)⟩,λg e=>⟨(h.far2 g e).1,λu=>(h.far2 g e).2 (f g (X g e).2 u)⟩,?_,?_⟩,λi A=>(b i A).1,Z⟩;.obtain⟨M,H,Q⟩:=b i (by omega);obtain⟨b1,b2,b3⟩:=h.old i A;exact⟨M.trans b1,H.trans b2,Q.trans b3⟩
 .by_cases t:i<m;.obtain⟨M,H,Q⟩:=b i t;rw[M,H,Q];exact h.new i l t
  .obtain⟨M,H⟩:=o i (by omega) O;exact⟨λq=>by obtain⟨g,e,hg⟩:=M q;exact⟨g,e,by omega⟩,λq=>by obtain⟨g,e,hg⟩:=H q;exact⟨g,e,by omega⟩⟩
 .rw[(b n V.2.2).1];exact⟨V.1,V.2.1,by omega⟩
 .refine⟨s.os.trans h.fr.os,s.tape.trans h.fr.tape,s.output.trans h.fr.output,by have:=s.size;omega,λk hk K=>?_⟩;refine (s.block k (by omega) (λe=>?_)).trans (h.fr.block k hk K);rcases h.qat with l|⟨g,l,O⟩;.exact K (by rw[<- l];exact e)
  .rw[l] at e;injection e with e;omega
 .rcases G with l|⟨g,l,O⟩;.rw[l];exact h.qat
  .exact .inr ⟨g,l,by omega⟩
end
variable {c g:Nat}
theorem FB {e:TypeId} {sz j:Nat} {xs:List Value} (h:w.ownsRow B e sz (.slice (some (ad g 0)) n c) n xs) (z:j<n*sz) (u:Value):(w.setCell (ad g j) u).ownsRow B e sz (.slice (some (ad g 0)) n c) n (xs.set j u):=by
 refine⟨by rw[List.length_set];exact h.1,?_⟩;rcases h.2 with ⟨q,_⟩|⟨A,t,f,b,x,o,s,l,p,y⟩;.cases q
 .injection b with b _ r;injection b with b;injection b with b;subst b r;refine .inr ⟨g,c,f.setIfInBounds j u,rfl,x,?_,s,l,by simp[p],?_⟩;.simp[World.setCell,Array.getElem?_modify,o]
  .rw[Array.toList_setIfInBounds,List.take_set,y]
def Em (kn:Nat) (LK:List ByteArray) (dn:Nat) (LD:List Int) (C:Int):Tn:=⟨false,kn,gt LK,dn,gi LD,C⟩
theorem Pj (N' : Nat->Tn) (KA' DA' : Nat->Option Addr) (KC' DC' : Nat->Nat) (n m:Nat) (o:n<m) (x:Tn) (ka da:Option Addr) (kc dc:Nat) :
  (((((List.range (m*4)).map (Bi N' KA' DA' KC' DC')).set (n*4) (.bool x.lf)).set (n*4+1) (.slice ka x.kn kc)).set (n*4+2) (.slice da x.dn dc)).set (n*4+3) (.int .i64 x.ct)=(List.range (m*4)).map (Bi (λi=>if i=n then x else N' i) (λi=>if i=n then ka else KA' i) (λi=>if i=n then da else DA' i) (λi=>if i=n then kc else KC' i) (λi=>if i=n then dc else DC' i)):=by
 apply List.ext_getElem?;intro j;by_cases b:j<m*4
 .simp only[List.getElem?_set,List.length_set,UD,List.length_range,UM,List.getElem?_range b,Option.map_some];by_cases l:n*4+3=j;.subst l;rw[if_pos rfl,if_pos b,Gl];simp
  .rw[if_neg l];by_cases e:n*4+2=j;.subst e;rw[if_pos rfl,if_pos b,Gg];simp
   .rw[if_neg e];by_cases f:n*4+1=j;.subst f;rw[if_pos rfl,if_pos b,GC];simp
    .rw[if_neg f];by_cases h:n*4=j;.subst h;rw[if_pos rfl,if_pos b,GQ];simp
     .rw[if_neg h];unfold Bi;have:j / 4≠n:=by omega
      simp only[this,if_false]
 .rw[List.getElem?_eq_none (by simp;omega),List.getElem?_eq_none (by simp;omega)]
theorem Pf {wr:World} {m Q:Nat} {v:Value} {N:Nat->Tn} {KA DA:Nat->Option Addr} {N' : Nat->Tn} {KA' DA' : Nat->Option Addr} {KC' DC':Nat->Nat} {tb:Nat} {C:Int} {ka:Option Addr} {kn kc:Nat} {da:Option Addr} {dn dc:Nat} {LK:List ByteArray} {LD:List Int}
  (h:Dd w wr B n m v (.slice (some (ad g 0)) m Q) N KA DA N' KA' DA' KC' DC' tb C ka kn kc da dn dc LK LD) {P:(Nat->Tn)->Prop} (V:P (λi=>if i=n then Em kn LK dn LD C else N' i)) (Z:m=n+c) :
  C5 w B v n N KA DA c P (.returned (.slice (some (ad g 0)) m Q)) ((((wr.setCell (ad g (n*4)) (.bool false)).setCell (ad g (n*4+1)) (.slice ka kn kc)).setCell (ad g (n*4+2)) (.slice da dn dc)).setCell (ad g (n*4+3)) (.int .i64 C)):=by
 have hz:=h.zero.2.2;have p:=FB (FB (FB (FB h.gt.row (j:=n*4) (by omega) (.bool false)) (j:=n*4+1) (by omega) (.slice ka kn kc)) (j:=n*4+2) (by omega) (.slice da dn dc)) (j:=n*4+3) (by omega) (.int .i64 C);rw[show (Value.bool false)=.bool (Em kn LK dn LD C).lf from rfl,show (Value.slice ka kn kc)=.slice ka (Em kn LK dn LD C).kn kc from rfl,show (Value.slice da dn dc)=.slice da (Em kn LK dn LD C).dn dc from rfl,show (Value.int .i64 C)=.int .i64 (Em kn LK dn LD C).ct from rfl,Pj N' KA' DA' KC' DC' n m hz] at p;have s:∀x,x≠g->((((wr.setCell (ad g (n*4)) (.bool false)).setCell (ad g (n*4+1)) (.slice ka kn kc)).setCell (ad g (n*4+2)) (.slice da dn dc)).setCell (ad g (n*4+3)) (.int .i64 C)).heap[x]?=wr.heap[x]?:=λx I=>by rw[Ur _ _ _ _ (show x≠g from I),Ur _ _ _ _ (show x≠g from I),Ur _ _ _ _ (show x≠g from I),Ur _ _ _ _ (show x≠g from I)]
 have D:((((wr.setCell (ad g (n*4)) (.bool false)).setCell (ad g (n*4+1)) (.slice ka kn kc)).setCell (ad g (n*4+2)) (.slice da dn dc)).setCell (ad g (n*4+3)) (.int .i64 C)).heap.size=wr.heap.size:=by simp[World.setCell]
 have t:((((wr.setCell (ad g (n*4)) (.bool false)).setCell (ad g (n*4+1)) (.slice ka kn kc)).setCell (ad g (n*4+2)) (.slice da dn dc)).setCell (ad g (n*4+3)) (.int .i64 C)).os=wr.os/\((((wr.setCell (ad g (n*4)) (.bool false)).setCell (ad g (n*4+1)) (.slice ka kn kc)).setCell (ad g (n*4+2)) (.slice da dn dc)).setCell (ad g (n*4+3)) (.int .i64 C)).tape=wr.tape/\((((wr.setCell (ad g (n*4)) (.bool false)).setCell (ad g (n*4+1)) (.slice ka kn kc)).setCell (ad g (n*4+2)) (.slice da dn dc)).setCell (ad g (n*4+3)) (.int .i64 C)).output=wr.output:=⟨rfl,rfl,rfl⟩;simp only[Em] at p;generalize (((wr.setCell (ad g (n*4)) (.bool false)).setCell (ad g (n*4+1)) (.slice ka kn kc)).setCell (ad g (n*4+2)) (.slice da dn dc)).setCell (ad g (n*4+3)) (.int .i64 C)=W at p s D t ⊢;have U:∀(a:Option Addr) (k:Nat) (X:Nat->ByteArray),Cy wr B a k X->Cy W B a k X:=by
  intro a k X q;rcases q with q|⟨x,rfl,A,F⟩;.exact .inl q
  .exact .inr ⟨x,rfl,A,F.of_block (s x (λe=>F6 h.gt.row F (by decide) (by rw[e];rfl)))⟩
 have O:∀(a:Option Addr) (k:Nat) (X:Nat->Int),Ei wr B a k X->Ei W B a k X:=by
  intro a k X q;rcases q with q|⟨x,rfl,A,F⟩;.exact .inl q
  .exact .inr ⟨x,rfl,A,F.of_block (s x (λe=>F6 h.gt.row F (by decide) (by rw[e];rfl)))⟩
 have J:=Ip h.own1.1 h.own1.2;have K:=Lv h.own2.1 h.own2.2 _ (λi _=>rfl);have T:∀i,i<m->(N' i).kn≠0->kn≠0->KA' i≠ka:=λi l u G e=>by obtain⟨x,o,_,_⟩:=J.resolve_left G;exact (h.far1 x (by rw[o];rfl)).2 (.inr (.inl ⟨i,l,u,by rw[e,o]⟩))
 have M:∀i,i<m->(N' i).dn≠0->dn≠0->DA' i≠da:=λi l u G e=>by obtain⟨x,o,_,_⟩:=K.resolve_left G;exact (h.far2 x (by rw[o];rfl)).2 (.inr (.inr ⟨i,l,u,by rw[e,o]⟩))
 subst Z;refine⟨_,_,_,_,_,_,rfl,⟨p,λi l=>?_,λi l=>?_,λi j l E y b f=>?_,λi j l E y b f=>?_⟩,?_,h.qat,λi l=>?_,λi b f=>?_,V⟩
 .by_cases e:i=n;.subst e;simp only[if_true];exact U _ _ _ J
  .simp only[e,if_false];exact U _ _ _ (h.gt.keys i l)
 .by_cases e:i=n;.subst e;simp only[if_true];exact O _ _ _ K
  .simp only[e,if_false];exact O _ _ _ (h.gt.kids i l)
 .by_cases z:i=n
  .have r:j≠n:=by omega
   simp only[z,if_true,r,if_false] at b f ⊢;exact λq=>T j E f b q.symm
  .by_cases r:j=n;.simp only[r,if_true,z,if_false] at b f ⊢;exact T i l b f
   .simp only[z,r,if_false] at b f ⊢;exact h.gt.apartK i j l E y b f
 .by_cases z:i=n
  .have r:j≠n:=by omega
   simp only[z,if_true,r,if_false] at b f ⊢;exact λq=>M j E f b q.symm
  .by_cases r:j=n;.simp only[r,if_true,z,if_false] at b f ⊢;exact M i l b f
   .simp only[z,r,if_false] at b f ⊢;exact h.gt.apartD i j l E y b f
 .refine⟨t.1.trans h.fr.os,t.2.1.trans h.fr.tape,t.2.2.trans h.fr.output,by rw[D];exact h.fr.size,λk G H=>(s k (λe=>?_)).trans (h.fr.block k G H)⟩;rcases h.qat with b|⟨Y,b,f⟩;.exact H (by rw[<- b,e];rfl)
  .injection b with b;have aa : g=Y:=b;omega
 .have e:i≠n:=by omega
  simp only[e,if_false];exact h.old i l
 .by_cases e:i=n
  .subst e;simp only[if_true];refine⟨λu=>?_,λu=>?_⟩;.obtain⟨x,o,_,_⟩:=J.resolve_left u;exact⟨x,o,(h.far1 x (by rw[o];rfl)).1.1⟩
   .obtain⟨x,o,_,_⟩:=K.resolve_left u;exact⟨x,o,(h.far2 x (by rw[o];rfl)).1.1⟩
  .simp only[e,if_false];exact h.new i b f
variable {S':Nat->Prop}{d:Nat}{v:Value}
def KS (S:Nat->Prop) (w:World) (a:Option Addr) (n c:Nat) (X:Nat->ByteArray):Prop:=
 Cg w a n X/\(n<=c/\c<=9223372036854775807)/\(n≠0->∃x,a=some x/\S x.block/\x.block<w.heap.size)
def NG (S:Nat->Prop) (w:World) (d:Nat) (t:Ro d) (v:Value):Prop:=Av (KS S w) S w d t v
theorem KS.keep {a:Option Addr} {n c:Nat} {X:Nat->ByteArray} (D:w.heap.size<=w'.heap.size) (s:∀b,S b->b<w.heap.size->S' b/\w'.heap[b]?=w.heap[b]?) (h:KS S w a n c X):KS S' w' a n c X:=by
 obtain⟨j,l,u⟩:=h;by_cases f:n=0;.exact⟨Or.inl f,l,λh=>absurd f h⟩
 .obtain⟨x,rfl,z,p⟩:=u f;obtain⟨A,y⟩:=s _ z p;rcases j with j|⟨b,o,e,r⟩;.exact absurd j f
  .injection e with e;subst e;exact⟨Or.inr ⟨b,o,rfl,λi t=>(World.cell?_of_block (a:=(ad b (o+i))) y).trans (r i t)⟩,l,λ_=>⟨_,rfl,A,by have:b<w.heap.size:=p;omega⟩⟩
theorem NG.keep {S S' : Nat->Prop} {w w' : World} {d:Nat} {t:Ro d} {v:Value} (h:NG S w d t v) (o:w.heap.size<=w'.heap.size) (e:∀b,S b->b<w.heap.size->S' b/\w'.heap[b]?=w.heap[b]?):NG S' w' d t v:=
 Av.mono (λ_ _ _ _ q=>q.keep o e) (λb l f=>(e b l f).1) o (λb j l f=>World.cell?_of_block (a:=(ad b j)) (e b l f).2) h
theorem NG.below {t:Ro d} (h:NG S w d t v) (e:Bl w w'):NG S w' d t v:=
 h.keep e.size (λb j f=>⟨j,e.block b f⟩)
theorem NG.wide {t:Ro d} (h:NG S w d t v) (e:∀b,S b->b<w.heap.size->S' b):NG S' w d t v:=
 h.keep (Uq _) (λb j f=>⟨e b j f,rfl⟩)
theorem NG.na {t:Ro d} (h:NG S w d t v):NA w d t v:=
 Av.mono (λ_ _ _ _ q=>q.1) (λ_ _ _=>trivial) (Uq _) (λ_ _ _ _=>rfl) h
theorem Nq.ng {t:Ro d} (h:Nq (λn c=>n<=c/\c<=9223372036854775807) w d t v):NG (λb=>b<w.heap.size) w d t v:=by
 refine Av.mono (λa n c X q=>⟨q.1,q.2,λj=>?_⟩) (λb _ e=>e) (Uq _) (λ_ _ _ _=>rfl) h;rcases q.1 with l|⟨b,o,rfl,f⟩;.exact absurd l j
 .have:=Uo _ _ (f 0 (by omega));exact⟨_,rfl,this,this⟩
theorem AN.cat {T:Type} {P:T->Value->Prop} {f:List T} {e:List Value} (b:AN P f e):∀{ts:List T} {xs:List Value},AN P ts xs->AN P (ts++f) (xs++e)
 | [],[],_=>b
 | t::ts,x0::x1::x2::xs,h=>⟨h.1,AN.cat b h.2⟩
 | [],x::xs,h=>h.elim
 | t::ts,[],h=>h.elim
 | t::ts,[x0],h=>h.elim
 | t::ts,[x0,x1],h=>h.elim
theorem AN.take {T:Type} {P:T->Value->Prop}:∀(k:Nat) {ts:List T} {xs:List Value},AN P ts xs->AN P (ts.take k) (xs.take (k*3))
 | 0,_,_,_=>by simp[AN]
 | k+1,[],[],_=>by simp[AN]
 | k+1,t::ts,x0::x1::x2::xs,h=>by
  rw[show (k+1)*3=k*3+3 by omega]
  exact⟨h.1,AN.take k h.2⟩
 | _+1,[],x::xs,h=>h.elim
 | _+1,t::ts,[],h=>h.elim
 | _+1,t::ts,[x0],h=>h.elim
 | _+1,t::ts,[x0,x1],h=>h.elim
theorem AN.drop {T:Type} {P:T->Value->Prop}:∀(k:Nat) {ts:List T} {xs:List Value},AN P ts xs->AN P (ts.drop k) (xs.drop (k*3))
 | 0,_,_,h=>by simpa using h
 | k+1,[],[],_=>by simp[AN]
 | k+1,t::ts,x0::x1::x2::xs,h=>by
  rw[show (k+1)*3=k*3+3 by omega]
  exact AN.drop k h.2
 | _+1,[],x::xs,h=>h.elim
 | _+1,t::ts,[],h=>h.elim
 | _+1,t::ts,[x0],h=>h.elim
 | _+1,t::ts,[x0,x1],h=>h.elim
theorem AN.cells {T:Type} {P:T->Value->Prop} (l:∀t e f j,P t (.agg #[e,f,j])->e.oneCell'=true/\f.oneCell'=true/\j.oneCell'=true):∀{ts:List T} {xs:List Value},AN P ts xs->∀u∈xs,u.oneCell'=true
 | [],[],_,u,b=>by cases b
 | t::ts,e::f::j::xs,h,u,b=>by
  obtain⟨r,p,o⟩:=l _ _ _ _ h.1
  simp only[List.mem_cons] at b
  rcases b with rfl|rfl|rfl|b
  .exact r
  .exact p
  .exact o
  .exact AN.cells l h.2 u b
 | [],x::xs,h,_,_=>h.elim
 | t::ts,[],h,_,_=>h.elim
 | t::ts,[e],h,_,_=>h.elim
 | t::ts,[e,f],h,_,_=>h.elim
theorem NG.one:∀(t:Ro d) (f j b:Value),NG S w d t (.agg #[f,j,b])->f.oneCell'=true/\j.oneCell'=true/\b.oneCell'=true:=by intro t f j b h;obtain⟨u,ka,kn,kc,x,s,r,e⟩:=Av.form h;injection e with e;injection e with e;injection e with p e;injection e with o e;injection e with l e;subst p o l;exact⟨rfl,rfl,rfl⟩
def CE (S:Nat->Prop) (w:World) (d:Nat) (t:Ro d) (e:Ending) (w' : World):Prop:=
 Bl w w'/\∃lf ka kn kc ca cn cc,e=.returned (.agg #[.bool lf,.slice ka kn kc,.slice ca cn cc])/\NG (λb=>S b\/w.heap.size<=b) w' d t (.agg #[.bool lf,.slice ka kn kc,.slice ca cn cc])
def Er (S:Nat->Prop) (w:World) (d:Nat) (ts:List (Ro d)) (e:Ending) (w' : World):Prop:=
 Bl w w'/\∃g c xs,e=.returned (.slice (some (ad g 0)) ts.length c)/\w.heap.size<=g/\g<w'.heap.size/\(ts.length<=c/\c<=9223372036854775807)/\(∀j u,xs[j]?=some u->w'.cell? (ad g j)=some u)/\AN (λt v=>NG (λb=>S b\/w.heap.size<=b) w' d t v) ts xs
def OX (sz b o lo c:Nat):Option Addr:=if c=lo then some (ad b o) else some (ad b (o+lo*sz))
theorem BN (b o k:Nat):Addr.add (ad b o) k=(ad b (o+k)):=by
 unfold Addr.add;by_cases h:k=0;.subst h;simp
 .simp[h]
theorem TU (b o n c lo hi:Nat) (f:lo<=hi) (h:hi<=n) (j:n<=c) (w:World):(Instr.sliceAt 88 (.slice (some (ad b o)) n c) (some (iv (lo:Int))) (some (iv (hi:Int))) none).run prog w=.ok (.slice (OX 1 b o lo c) (hi-lo) (c-lo)) w:=by
 have e:hi<=c:=by omega
 simp[Instr.sliceAt,Instr.slice,go_sem,OX,BN,e,f]
theorem R5 (a:Option Addr) (n c lo:Nat) (b:lo<=n) (e:n<=c) (w:World):(Instr.sliceAt 88 (.slice a n c) (some (iv (lo:Int))) none none).run prog w=.ok (.slice (if c=lo then a else a.map λx=>x.add lo) (n-lo) (c-lo)) w:=by simp[Instr.sliceAt,Instr.slice,go_sem];intro h;omega
theorem TT (b o n c lo hi:Nat) (f:lo<=hi) (h:hi<=n) (j:n<=c) (w:World):(Instr.sliceAt 89 (.slice (some (ad b o)) n c) (some (iv (lo:Int))) (some (iv (hi:Int))) none).run prog w=.ok (.slice (OX 3 b o lo c) (hi-lo) (c-lo)) w:=by
 have e:hi<=c:=by omega
 simp[Instr.sliceAt,Instr.slice,go_sem,OX,BN,e,f]
theorem RU (b o n c hi:Nat) (e:hi<=n) (f:n<=c) (w:World):(Instr.sliceAt 89 (.slice (some (ad b o)) n c) none (some (iv (hi:Int))) none).run prog w=.ok (.slice (some (ad b o)) hi c) w:=by simp[Instr.sliceAt,Instr.slice,go_sem];intro h;omega
theorem R1 (b o n c lo:Nat) (e:lo<=n) (f:n<=c) (w:World):(Instr.sliceAt 89 (.slice (some (ad b o)) n c) (some (iv (lo:Int))) none none).run prog w=.ok (.slice (OX 3 b o lo c) (n-lo) (c-lo)) w:=by simp[Instr.sliceAt,Instr.slice,go_sem,OX,BN,e]
variable {L:List ByteArray}
theorem Rt {b o n lo hi:Nat} (h:Cg w (some (ad b o)) n (gt L)) (y:n=L.length) (t:lo<hi) (x:hi<=n) (r:n<=c):Cg w (OX 1 b o lo c) (hi-lo) (gt ((L.take hi).drop lo)):=by
 rcases h with h|⟨s,u,e,j⟩;.exact absurd h (by omega)
 .injection e with e;injection e with l f;subst l f;refine Or.inr ⟨b,o+lo,by unfold OX;rw[if_neg (by omega),Nat.mul_one],λi p=>?_⟩;have:=j (lo+i) (by omega);rw[show o+lo+i=o+(lo+i) by omega,this];congr 2;unfold gt;rw[Uw,Uw,List.getElem?_drop,List.getElem?_take,if_pos (by omega)]
theorem Dz (w:World) (r:Nat) (v0 e f:Value) (b:Nat) (h:b≠r):(((w.setCell (ad r 0) v0).setCell (ad r 1) e).setCell (ad r 2) f).heap[b]?=w.heap[b]?:=by rw[Ur _ _ _ _ h,Ur _ _ _ _ h,Ur _ _ _ _ h]
theorem Ey (w:World) (r:Nat) (v0 b e:Value):(((w.setCell (ad r 0) v0).setCell (ad r 1) b).setCell (ad r 2) e).heap.size=w.heap.size:=by simp[World.setCell]
theorem Ck {e:World} (h:Below B e w) (r:Nat) (b:B<=r) (v0 f j:Value):Below B e (((w.setCell (ad r 0) v0).setCell (ad r 1) f).setCell (ad r 2) j):=
 ((h.setCell (by simpa using b) _).setCell (by simpa using b) _).setCell (by simpa using b) _
theorem Kj {S:Nat->Prop} {a:Option Addr} (h:Cy w B a L.length (gt L)) (j:L.length<=c/\c<=9223372036854775807) (f:∀b,B<=b->S b):KS S w a L.length c (gt L):=by
 refine⟨h.rd,j,λl=>?_⟩;rcases h with h|⟨g,rfl,e,o⟩;.exact absurd h l
 .exact⟨_,rfl,f _ e,o.lt⟩
theorem Ol (d:Nat) (L:List ByteArray) (v:Value) (lo hi:Nat) (S:Nat->Prop) (w:World) (Q:NG S w (d+1) (.inl L) v) (F:lo<hi) (s:hi<=L.length) (hL:L.length<=1000) :
  UO 124 #[v,iv (lo:Int),iv (hi:Int)] w (CE S w (d+1) (.inl ((L.take hi).drop lo))):=by
 obtain⟨ka,kc,X,cc,rfl,p,f,r⟩:=Q;obtain⟨⟨b,o,x⟩,rfl,V,A⟩:=r (by omega);obtain rfl:x=none:=by
  rcases p with h|⟨b',o',e,_⟩;.exact absurd h (by omega)
  .injection e with e;injection e
 obtain⟨n,E⟩:∃n,n=L.length:=⟨_,rfl⟩;rw[<- E] at p f s hL ⊢;have Y:=Ae (Rt p E F s f.1);have j:U (hi-lo=((L.take hi).drop lo).length):=by show _=_;rw[List.length_drop,UE];omega
 have aa:=TU b o n kc lo hi (by omega) s f.1;have HO:U (∀t u:Obj,(((w.alloc t).alloc u).alloc (.cells #[] 9)).ownsRow (w.heap.size+2) 9 1 (.slice (some (ad (w.heap.size+2) 0)) 0 0) 0 []):=λt u=>by simpa using Aw ((w.alloc t).alloc u) 9 (w.heap.size+2) 1 (by simp)
 have y:U (∀t u O3:Obj,Bl w (((w.alloc t).alloc u).alloc O3)):=λ_ _ _=>((Aa _ _).alloc (by simp) _).alloc (by simp;omega) _;have H:hi-lo<=1000:=by omega
 clear p E r V A F s f;go_enter func124,ntmps124;go_wp2_with (at_builtin;refine AX rfl _ _ rfl (w.heap.size+2) (.slice (some (ad (w.heap.size+2) 0)) 0 0) 0 [] rfl (HO.o _ _) (OX 1 b o lo kc) (hi-lo) (kc-lo) _ rfl j.o (Y.o.below (y.o _ _ _)) (by omega) (by simp) ?_)
 intro v' w' I z D;have HB:=Ae (((y.o _ _ _).grown z (by simp;omega) (λk e=>by simp[Value.ownBlock] at e;omega)));have hz:w.heap.size+3<=w'.heap.size:=by have:=z.size;simpa using this
 have l:Bx w' (w.heap.size+1) 91 #[.bool false,.slice none 0 0,.slice none 0 0]:=by have q:=(Bx.new (w.alloc (.cells #[.bool true,.slice (some (ad b o)) n kc,.slice X 0 cc] 91)) #[.bool false,.slice none 0 0,.slice none 0 0] 91).alloc (.cells #[] 9);simp only[UF] at q;exact q.of_block (z.block _ q.lt (by simp[Value.ownBlock]))
 obtain⟨P,G,rfl,s,Z,T⟩:=BW I j.o;have HK:=Ae (Kj s ⟨by rw[<- j.o];exact Z,T⟩ (λb M=>M));have O:=l.cell 0;have J:=l.cell 1;have K:=l.cell 2;simp at O J K;have hf:=λi=>l.frozen i;clear I z D s l;go_wp2;refine bodyPost_ret (v:=.agg #[.bool true,.slice P (hi-lo) G,.slice none 0 0]) (by simp[results,results124,go_sem,O,J,K]) rfl ⟨Ck HB.o _ (by omega) _ _ _,_,_,_,_,_,_,_,rfl,P,G,none,0,by rw[j.o],?_⟩;exact HK.o.keep (by rw[Ey];exact Uq _) (λb M _=>⟨Or.inr (by omega),Dz _ _ _ _ _ _ (by omega)⟩)
theorem Mi (d:Nat) (l:List (Ro d)) (v:Value) (lo hi:Nat) (S:Nat->Prop) (w:World) (hv:NG S w (d+1) (.inr l) v) (h0:lo<hi) (h1:hi<=l.length) (hL:l.length<=1000) :
  UO 124 #[v,iv (lo:Int),iv (hi:Int)] w (CE S w (d+1) (.inr ((l.take hi).drop lo))):=by
 obtain⟨ka,kc,b,F,xs,rfl,⟨X,f⟩,hb,hl,hx,hk⟩:=hv;obtain⟨n,hn⟩:∃n,n=l.length:=⟨_,rfl⟩;have H:U (xs.length=n*3):=by have:=hk.len;rw[<- hn] at this;exact this
 rw[<- hn] at f h1 hL hl ⊢;have r:U (AN (λt v=>NG S w d t v) ((l.take hi).drop lo) ((xs.take (hi*3)).drop (lo*3))):=(AN.take hi hk).drop lo;have s:U (hi-lo=((l.take hi).drop lo).length):=by show _=_;rw[List.length_drop,UE];omega
 have HC:U (∀j u,((xs.take (hi*3)).drop (lo*3))[j]?=some u->w.cell? (ad b (lo*3+j))=some u):=by
  intro j u y;rw[List.getElem?_drop,List.getElem?_take] at y;split at y;.exact hx _ _ y
  .cases y
 have O:U (((xs.take (hi*3)).drop (lo*3)).length=(hi-lo)*3):=by show _=_;rw[List.length_drop,UE,H.o];omega
 have x:U (∀u∈((xs.take (hi*3)).drop (lo*3)),u.oneCell'=true):=r.o.cells NG.one;have ag:∀W:World,(Instr.sliceAt 89 (.slice (some (ad b 0)) n F) (some (iv (lo:Int))) (some (iv (hi:Int))) none).run prog W=.ok (.slice (some (ad b (lo*3))) (hi-lo) (F-lo)) W:=by intro W;have:=TT b 0 n F lo hi (by omega) h1 f.1 W;unfold OX at this;rw[if_neg (by omega),UI] at this;exact this
 have HO:U (∀J K:Obj,(((w.alloc J).alloc K).alloc (.cells #[] 91)).ownsRow (w.heap.size+2) 91 3 (.slice (some (ad (w.heap.size+2) 0)) 0 0) 0 []):=λJ K=>by simpa using Aw ((w.alloc J).alloc K) 91 (w.heap.size+2) 3 (by simp)
 have T:U (∀J K O3:Obj,Bl w (((w.alloc J).alloc K).alloc O3)):=λ_ _ _=>((Aa _ _).alloc (by simp) _).alloc (by simp;omega) _;have aa:U (S b/\b<w.heap.size):=⟨X,hb⟩;have af:hi-lo<=1000:=by omega
 have z:0<hi-lo:=by omega
 generalize ae:(xs.take (hi*3)).drop (lo*3)=ys at r HC O x;obtain⟨V,Q,I,M,G⟩:=info_parts info91;have Y:U (prog.info? 91=some V/\V.zero=some (.agg #[.bool false,.slice none 0 0,.slice none 0 0])/\V.size=3/\V.bytes=56):=⟨Q,I,M,G⟩;clear hx hk hn X hb h0 h1 f Q I M G H ae;go_enter func124,ntmps124;go_wp2_with (at_builtin;refine wpList_append_own_at _ rfl _ _ 89 rfl (w.heap.size+2) 91 V _ 3 56 underlying89 Y.o.1 Y.o.2.1 Y.o.2.2.1 Y.o.2.2.2 rfl (by decide) (.slice (some (ad (w.heap.size+2) 0)) 0 0) 0 [] rfl (HO.o _ _) (ad b (lo*3)) (hi-lo) (F-lo) ys rfl O.o (λj u y=>by rw[BN];exact ((T.o _ _ _).cell (p:=⟨b,_,none⟩) aa.o.2).trans (HC.o j u y)) x.o (by unfold maxLen;omega) (by omega) (by simp) ?_)
 intro v' w' ho Z _ ab;have HB:U (Bl w w'):=((T.o _ _ _).grown Z (by simp;omega) (λk e=>by simp[Value.ownBlock] at e;omega));have hz:w.heap.size+3<=w'.heap.size:=by have:=Z.size;simpa using this
 have h:Bx w' (w.heap.size+1) 91 #[.bool false,.slice none 0 0,.slice none 0 0]:=by have q:=(Bx.new (w.alloc (.cells #[.bool false,.slice ka 0 kc,.slice (some (ad b 0)) n F] 91)) #[.bool false,.slice none 0 0,.slice none 0 0] 91).alloc (.cells #[] 91);simp only[UF] at q;exact q.of_block (Z.block _ q.lt (by simp[Value.ownBlock]))
 obtain⟨a',c',rfl,ac⟩:=Af ho;have f:=AS ho;obtain⟨g,rfl,D,P,A⟩:=ac (by omega);have E:U ((w.heap.size+2<=g/\g<w'.heap.size)/\(∀j u,ys[j]?=some u->w'.cell? (ad g j)=some u)/\(hi-lo<=c'/\c'<=9223372036854775807)):=⟨⟨D,P⟩,A,f⟩;have r0:=h.cell 0;have r1:=h.cell 1;have r2:=h.cell 2;simp at r0 r1 r2;have hf:=λi=>h.frozen i;clear ho Z ab h D P A f;go_wp2;refine bodyPost_ret (v:=.agg #[.bool false,.slice none 0 0,.slice (some (ad g 0)) (hi-lo) c']) (by simp[results,results124,go_sem,r0,r1,r2]) rfl ⟨Ck HB.o _ (by omega) _ _ _,_,_,_,_,_,_,_,rfl,none,0,g,c',ys,by rw[s.o],⟨Or.inr (by have:=E.o.1;omega),by rw[<- s.o];exact E.o.2.2⟩,by rw[Ey];exact E.o.1.2,by rw[<- s.o];exact z,λj u y=>?_,r.o.mono (λt v q=>?_)⟩;.have:=E.o.1;rw[World.cell?_of_block (a:=(ad g j)) (Dz _ _ _ _ _ _ (show g≠w.heap.size+1 by omega))];exact E.o.2.1 j u y
 .refine q.keep (by rw[Ey];exact HB.o.size) (λb X hl=>⟨Or.inl X,(Dz _ _ _ _ _ _ (by omega)).trans (HB.o.block b hl)⟩)
def Cn {d:Nat}:Ro (d+1)->Nat
 | .inl L=>L.length
 | .inr l=>l.length
def Bn {d:Nat} (lo hi:Nat):Ro (d+1)->Ro (d+1)
 | .inl L=>.inl ((L.take hi).drop lo)
 | .inr l=>.inr ((l.take hi).drop lo)
def Fe {d:Nat}:Ro (d+1)->List (Ro (d+1))
 | .inl L=>(Eo L).map Sum.inl
 | .inr l=>(Eo l).map Sum.inr
theorem Gn {t:Ro (d+1)} (h:Cn t<=4):Fe t=[t]:=by
 match t,h with
 | .inl L,h=>show (Eo L).map Sum.inl=_;rw[GM h];rfl
 | .inr l,h=>show (Eo l).map Sum.inr=_;rw[GM h];rfl
theorem Gy {t:Ro (d+1)} (h:Cn t=5):Fe t=[Bn 0 3 t,Bn 3 5 t]:=by
 match t,h with
 | .inl L,h=>have b:L.length=5:=h;show (Eo L).map Sum.inl=[Sum.inl _,Sum.inl _];rw[Gc (by omega),List.drop_zero,List.take_of_length_le (by omega:L.length<=5)];rfl
 | .inr l,h=>have b:l.length=5:=h;show (Eo l).map Sum.inr=[Sum.inr _,Sum.inr _];rw[Gc (by omega),List.drop_zero,List.take_of_length_le (by omega:l.length<=5)];rfl
theorem IG (d:Nat) (t:Ro (d+1)) (v:Value) (lo hi:Nat) (S:Nat->Prop) (w:World) (e:NG S w (d+1) t v) (h:lo<hi) (b:hi<=Cn t) (f:Cn t<=1000) :
  UO 124 #[v,iv (lo:Int),iv (hi:Int)] w (CE S w (d+1) (Bn lo hi t)):=by
 match t,e,b,f with
 | .inl L,e,b,f=>exact Ol d L v lo hi S w e h b f
 | .inr l,e,b,f=>exact Mi d l v lo hi S w e h b f
theorem NG.size {S:Nat->Prop} {w:World} {t:Ro (d+1)} {p:Bool} {ka s:Option Addr} {kn kc o r:Nat} (h:NG S w (d+1) t (.agg #[.bool p,.slice ka kn kc,.slice s o r])):(if p then kn else o)=Cn t:=by
 match t,h with
 | .inl L,h=>obtain⟨_,_,_,_,e,_⟩:=h;injection e with e;injection e with e;injection e with b e;injection e with f e;injection b with b;injection f with _ f;subst b;exact f
 | .inr l,h=>obtain⟨_,_,_,_,_,e,_⟩:=h;injection e with e;injection e with e;injection e with b e;injection e with f e;injection e with j e;injection b with b;injection j with _ j;subst b;exact j
theorem GY (d:Nat) (t:Ro (d+1)) (v:Value) (S:Nat->Prop) (w:World) (hv:NG S w (d+1) t v) (hL:Cn t<=5) :
  UO 114 #[v] w (Er S w (d+1) (Fe t)):=by
 obtain⟨lf,ka,kn,kc,ca,cn,cc,rfl⟩:=Av.form hv;have hsz:=hv.size;have HV:U (NG S w (d+1) t (.agg #[.bool lf,.slice ka kn kc,.slice ca cn cc])):=hv;obtain⟨m,hm⟩:∃m,m=Cn t:=⟨_,rfl⟩;have HS:U (∀W:World,UO 122 #[.agg #[.bool lf,.slice ka kn kc,.slice ca cn cc]] W (UP W (iv (m:Int)))):=λW=>(GF lf ka ca kn kc cn cc W).mono (λe w' h=>⟨by rw[h.1,hm,<- hsz];cases lf <;> rfl,h.2⟩)
 have HM:U (m=Cn t):=hm;rw[<- hm] at hL;clear hv hsz hm;by_cases h4:m<=4
 .have h4' : (m:Int)<=4:=by omega
  have h4d:decide ((m:Int)<=4)=true:=decide_eq_true h4';rw[Gn (by rw[<- HM.o];exact h4)];go_enter func114,ntmps114;go_wp2_with fail
  refine (HS.o _).mono ?_;rintro e w1 ⟨rfl,hb1⟩;have hb2:Bl w w1:=(Aa _ _).trans (hb1.mono (by simp));have hbx:=(Bx.new w #[.bool lf,.slice ka kn kc,.slice ca cn cc] 91).below hb1;have r0:=hbx.cell 0;have r1:=hbx.cell 1;have r2:=hbx.cell 2;simp at r0 r1 r2;have HB2:U (Bl w w1):=hb2;clear hb1 hb2 hbx;go_wp2;go_ret;refine⟨HB2.o.alloc HB2.o.size _,w1.heap.size,1,[.bool lf,.slice ka kn kc,.slice ca cn cc],rfl,HB2.o.size,by simp,by simp,λj u hj=>?_,?_,trivial⟩;.have:=(Bx.new w1 #[.bool lf,.slice ka kn kc,.slice ca cn cc] 91).cell j;rw[this];simpa using hj
  .exact ((HV.o.below HB2.o).below (Aa _ _)).wide (λb hs _=>Or.inl hs)
 .have h5:m=5:=by omega
  subst h5;have h4d:decide ((5:Int)<=4)=false:=by decide
  rw[Gy HM.o.symm];have HP1:U (∀(W:World),Bl w W->UO 124 #[.agg #[.bool lf,.slice ka kn kc,.slice ca cn cc],iv 0,iv 3] W (CE S W (d+1) (Bn 0 3 t))):=λW hW=>IG d t _ 0 3 S W (HV.o.below hW) (by omega) (by rw[<- HM.o];omega) (by rw[<- HM.o];omega);have HP2:U (∀(W:World),Bl w W->UO 124 #[.agg #[.bool lf,.slice ka kn kc,.slice ca cn cc],iv 3,iv 5] W (CE S W (d+1) (Bn 3 5 t))):=λW hW=>IG d t _ 3 5 S W (HV.o.below hW) (by omega) (by rw[<- HM.o];omega) (by rw[<- HM.o];omega);go_enter func114,ntmps114;go_wp2_with fail
  refine (HS.o _).mono ?_;rintro e w1 ⟨rfl,hb1⟩;have hb2:Bl w w1:=(Aa _ _).trans (hb1.mono (by simp));have hbx:=(Bx.new w #[.bool lf,.slice ka kn kc,.slice ca cn cc] 91).below hb1;have r0:=hbx.cell 0;have r1:=hbx.cell 1;have r2:=hbx.cell 2;simp at r0 r1 r2;have hzw:w.heap.size<w1.heap.size:=hbx.lt;have HB2:U (Bl w w1):=hb2;have HB3:U (∀W,Bl w1 W->Bl w W/\W.cell? (ad w.heap.size 0)=some (.bool lf)/\W.cell? (ad w.heap.size 1)=some (.slice ka kn kc)/\W.cell? (ad w.heap.size 2)=some (.slice ca cn cc)):=λW hW=>⟨hb2.trans (hW.mono hb2.size),(hW.cell (p:=(ad w.heap.size 0)) hzw).trans r0,(hW.cell (p:=(ad w.heap.size 1)) hzw).trans r1,(hW.cell (p:=(ad w.heap.size 2)) hzw).trans r2⟩;have HP1a:U (UO 124 #[.agg #[.bool lf,.slice ka kn kc,.slice ca cn cc],iv 0,iv 3] w1.drew (CE S w1.drew (d+1) (Bn 0 3 t))):=HP1.o w1.drew (HB3.o _ (Up _ _).drew).1;have HP2a:U (UO 124 #[.agg #[.bool lf,.slice ka kn kc,.slice ca cn cc],iv 3,iv 5] w1.drew (CE S w1.drew (d+1) (Bn 3 5 t))):=HP2.o w1.drew (HB3.o _ (Up _ _).drew).1;clear hb1 hb2 hbx;go_upto_region 3 with fail
  go_region_held3 (λw'=>w'.cell? (ad w.heap.size 0)=some (.bool lf)/\w'.cell? (ad w.heap.size 1)=some (.slice ka kn kc)/\w'.cell? (ad w.heap.size 2)=some (.slice ca cn cc)) (go_keep) (first
   | (go_at_call 124;(with_reducible refine HP1a.o.mono ?_);rintro e wa ⟨hba,lfa,kaa,kna,kca,caa,cna,cca,rfl,hga⟩;obtain⟨ba,q0,q1,q2⟩:=HB3.o wa (Ad hba))
   | (go_at_call 124;(with_reducible refine HP2a.o.mono ?_);rintro e wb ⟨hbb,lfb,kab,knb,kcb,cab,cnb,ccb,rfl,hgb⟩;obtain⟨bb,q0,q1,q2⟩:=HB3.o wb (Ad hbb))
   | (go_at_call 124;(with_reducible refine (HP1.o wb bb).mono ?_);rintro e wa ⟨hba,lfa,kaa,kna,kca,caa,cna,cca,rfl,hga⟩;obtain⟨ba,q0,q1,q2⟩:=HB3.o wa ((Ad hbb).trans (hba.mono (Ad hbb).size)))
   | (go_at_call 124;(with_reducible refine (HP2.o wa ba).mono ?_);rintro e wb ⟨hbb,lfb,kab,knb,kcb,cab,cnb,ccb,rfl,hgb⟩;obtain⟨bb,q0,q1,q2⟩:=HB3.o wb ((Ad hba).trans (hbb.mono (Ad hba).size))))
  have HE:U (NG (λb=>S b\/w.heap.size<=b) wb (d+1) (Bn 0 3 t) (.agg #[.bool lfa,.slice kaa kna kca,.slice caa cna cca])/\NG (λb=>S b\/w.heap.size<=b) wb (d+1) (Bn 3 5 t) (.agg #[.bool lfb,.slice kab knb kcb,.slice cab cnb ccb])/\Bl w wb):=by
   refine⟨(hga.wide (λb hs _=>?_)).below hbb,hgb.wide (λb hs _=>?_),bb⟩
   .rcases hs with hs|hs;.exact Or.inl hs
    .exact Or.inr (by have h1:=HB2.o.size;have h2:w1.heap.size<=b:=hs;omega)
   .rcases hs with hs|hs;.exact Or.inl hs
    .exact Or.inr (by have:=ba.size;omega)
  clear hga hgb hba hbb ba bb HP1a HP2a HP1 HP2 HB3 q0 q1 q2;go_wp2;go_ret;refine⟨HE.o.2.2.alloc HE.o.2.2.size _,wb.heap.size,2,[.bool lfa,.slice kaa kna kca,.slice caa cna cca,.bool lfb,.slice kab knb kcb,.slice cab cnb ccb],rfl,HE.o.2.2.size,by simp,by simp,λj u hj=>?_,HE.o.1.below (Aa _ _),HE.o.2.1.below (Aa _ _),trivial⟩;have:=(Bx.new wb #[.bool lfa,.slice kaa kna kca,.slice caa cna cca,.bool lfb,.slice kab knb kcb,.slice cab cnb ccb] 91).cell j;rw[this];simpa using hj
def Sa (w w' : World) (b:Nat) (a:Option Addr):Prop:=w'.os=w.os/\w'.tape=w.tape/\w'.output=w.output/\w.heap.size<=w'.heap.size/\∀k,k<w.heap.size->k≠b->a.map (·.block)≠some k->w'.heap[k]?=w.heap[k]?
def RK (B b:Nat) (ka:Option Addr) (L:List ByteArray) (key:ByteArray) (w:World) (e:Ending) (w' : World):Prop:=
 (key∈L/\e=.returned (.bool false)/\w'=w)\/
 (¬ key∈L/\e=.returned (.bool true)/\Sa w w' b ka/\∃a' c',Bx w' b 206 #[iv ((Be key L).length:Int),.slice a' (Be key L).length c']/\w'.ownsRow B 9 1 (.slice a' (Be key L).length c') (Be key L).length (Ap (Be key L))/\(a'=ka\/∃g,a'=some (ad g 0)/\w.heap.size<g))
theorem Lz (B b n kc:Nat) (ka:Option Addr) (L:List ByteArray) (key:ByteArray) (w:World) (I:Bx w b 206 #[iv (n:Int),.slice ka n kc]) (y:w.ownsRow B 9 1 (.slice ka n kc) n (Ap L)) (T:n=L.length) (af:n<=1000000) (ha:BI L) (hB:B<=w.heap.size) :
  UO 204 #[pt b,.string key] w (RK B b ka L key w):=by
 obtain⟨a6,c6,e6,D,E⟩:=BW y T;injection e6 with e6 e7 e8;subst e6;rw[<- T] at D;have l:=Ae (ai I (ai y (ai T (ai ha D.rd))));have c0:=I.cell 0;have c1:=I.cell 1;have f1:=I.frozen 1;have hl:=I.lt;simp at c0 c1;clear I y T ha D E e7 e8 c6;go_enter func204,ntmps204;go_wp2_with fail
 refine (MF ka n kc L key w l.o.2.2.2.2 l.o.2.2.1 (by omega) l.o.2.2.2.1).mono ?_;rintro e w1 ⟨i,ok,rfl,rfl,Z,Y,V,X⟩;have HC:=Ae (Hu Z Y V);have aa:i<=n:=by rw[l.o.2.2.1];exact Z
 cases ok with
 | true=>
  have HM:U (key∈L):=by show key∈L;obtain⟨p,H⟩:=X.1 rfl;rw[<- H];exact Cu p
  clear Z Y V X;go_wp2;go_ret;exact .inl ⟨HM.o,rfl,rfl⟩
 | false=>
  have HM:U (¬ key∈L):=λhm=>by
   obtain⟨j,hj,e⟩:=List.getElem_of_mem hm;have eg:gt L j=key:=by unfold gt;rw[Uw,Ut hj];exact e
   have ag:¬ j<i:=λq=>by have:=Y j q;rw[eg,A4] at this;cases this
   by_cases f:j=i;.subst f;have:=X.2 ⟨hj,eg⟩;cases this
   .have p:=D4 l.o.2.2.2.1 (show i<j by omega) hj;rw[eg] at p;have H:=V i (Uq _) (by omega);rw[p] at H;cases H
  clear Z Y V X;have HL:U (L.take i++key::L.drop i=Be key L):=by show L.take i++key::L.drop i=Be key L;unfold Be;rw[HC.o]
  have HI:U (UO 212 #[.slice ka n kc,iv (i:Int),.slice (some (ad w1.heap.size 0)) 1 1] (w1.alloc (.cells #[.string key] 9)) (Ko B w1 (w1.alloc (.cells #[.string key] 9)) ka (Be key L))):=by have q:=Qv B n kc i ka L key w1 l.o.2.1 l.o.2.2.1 aa hB (by omega);rw[HL.o] at q;exact q
  have Q:U (ka.map (·.block)≠some b):=λe=>by
   rcases l.o.2.1.2 with ⟨q,_⟩|⟨g,A,t,q,_,s,_⟩;.injection q with p _ _;rw[p] at e;cases e
   .injection q with p _ _;rw[p] at e;injection e with e;have z:=l.o.1;unfold Bx at z;rw[<- e] at z;have f:=s.symm.trans z;injection f with f;injection f with _ f _;exact absurd f (by decide)
  go_wp2_with fail
  refine HI.o.mono ?_;rintro e w2 ⟨u,G,rfl,x,r,P⟩;have h:=(l.o.1.alloc _).grown r Q.o;obtain⟨M,F⟩:=gn ((Be key L).length);rw[<- F] at x ⊢;have ae:M<=1048576:=by rw[F,Bw,<- l.o.2.2.1];omega
  have d0:=h.cell 0;have d1:=h.cell 1;have g1:=h.frozen 1;have l2:=h.lt;simp at d0 d1;have J:Bx (w2.setCell (ad b 1) (.slice u M G)) b 206 #[iv (n:Int),.slice u M G]:=by have q:=h.set 1 (.slice u M G);simpa using q
  have HX:=Ae J;have H2:=Ae (ai x (ai r (ai P F)));clear x r P F h J c0 c1 f1 HI;go_wp2_with fail
  refine (Cd b M G u (n:Int) _ HX.o).mono ?_;rintro e w3 ⟨rfl,rfl⟩;have HF:U (RK B b ka L key w1 (.returned (.bool true)) ((w2.setCell (ad b 1) (.slice u M G)).setCell (ad b 0) (iv (M:Int)))):=by
   obtain⟨y,s,ha,F⟩:=H2.o;refine .inr ⟨HM.o,rfl,⟨s.os,s.tape,s.output,?_,λk hk O ab=>?_⟩,u,G,?_,?_,ha⟩;.have q:=s.size;simp at q;simp[World.setCell];omega
   .rw[Ur _ _ _ _ O,Ur _ _ _ _ O,s.block k (by simp;omega) (λe=>ab e.symm)];exact (Aa _ _).block k hk
   .have q:=HX.o.set 0 (iv (M:Int));rw[<- F];simpa using q
   .rw[<- F];have ac:∀g,(Value.slice u M G).ownBlock=some g->g≠b:=λg e f=>by
     subst f;rcases y.2 with ⟨q,_⟩|⟨g2,A,t,q,_,r,_⟩;.rw[q] at e;cases e
     .rw[q] at e;injection e with e;have z:=(l.o.1.alloc (.cells #[.string key] 9)).grown s Q.o;unfold Bx at z;simp at e;rw[<- e] at z;have f:=r.symm.trans z;injection f with f;injection f with _ f _;exact absurd f (by decide)
    refine⟨y.1,?_⟩;rcases y.2 with q|⟨g,A,t,p,H,q3,q4⟩;.exact .inl q
    .have K:=ac g (by rw[p];rfl);refine .inr ⟨g,A,t,p,H,?_,q4⟩;rw[Ur _ _ _ _ K,Ur _ _ _ _ K];exact q3
  go_wp2;go_ret;exact HF.o
variable {L:List Qd}
theorem info34 : (prog.info? 34).map (λi=>(i.zero,i.size,i.bytes))=some (some (.agg #[iv 0,iv 0,iv 0,iv 0]),4,32):=by kernel_rfl
def AL:List Qd->List Value
 | []=>[]
 | q::L=>iv q.s::iv q.p::iv q.o::iv q.g::AL L
theorem EA:∀(L M:List Qd),AL (L++M)=AL L++AL M
 | [],M=>rfl
 | q::L,M=>by
  show _::_::_::_::AL (L++M)=_
  rw[EA L M]
  rfl
theorem JP:∀(L:List Qd) (i:Nat) (h:i<L.length),(AL L)[i*4]?=some (iv L[i].s)/\(AL L)[i*4+1]?=some (iv L[i].p)/\(AL L)[i*4+2]?=some (iv L[i].o)/\(AL L)[i*4+3]?=some (iv L[i].g)
 | [],i,h=>absurd h (Uu _)
 | q::L,0,h=>⟨rfl,rfl,rfl,rfl⟩
 | q::L,i+1,h=>by
  have b:=JP L i (by simpa using h)
  have e:∀t,(AL (q::L))[(i+1)*4+t]?=(AL L)[i*4+t]?:=λt=>by
   rw[show (i+1)*4+t=(i*4+t)+1+1+1+1 by omega]
   rfl
  have f:=e 0
  rw[Nat.add_zero,Nat.add_zero] at f
  exact⟨f.trans b.1,(e 1).trans b.2.1,(e 2).trans b.2.2.1,(e 3).trans b.2.2.2⟩
def FX (w:World) (a:Option Addr) (L:List Qd):Prop:=
 L.length=0\/∃b,a=some (ad b 0)/\∀i (h:i<L.length),w.cell? (ad b (i*4))=some (iv L[i].s)/\w.cell? (ad b (i*4+1))=some (iv L[i].p)/\w.cell? (ad b (i*4+2))=some (iv L[i].o)/\w.cell? (ad b (i*4+3))=some (iv L[i].g)
theorem FX.below {w':World} (h:FX w a L) (e:Bl w w'):FX w' a L:=by
 rcases h with h|⟨b,rfl,r⟩;.exact Or.inl h
 .refine Or.inr ⟨b,rfl,λi p=>?_⟩;obtain⟨o,f,j,l⟩:=r i p;exact⟨by rw[e.cell (Uo _ _ o)];exact o,by rw[e.cell (Uo _ _ f)];exact f,by rw[e.cell (Uo _ _ j)];exact j,by rw[e.cell (Uo _ _ l)];exact l⟩
theorem Hy {B:Nat} {c:Nat} (h:w.ownsRow B 34 4 (.slice a L.length c) L.length (AL L)):FX w a L:=by
 obtain⟨u,t,e,r⟩:=Af h;injection e with e;subst e;by_cases f:L.length=0;.exact .inl f
 .obtain⟨g,rfl,_,_,b⟩:=r f;refine .inr ⟨g,rfl,λi o=>?_⟩;obtain⟨l,j,s,p⟩:=JP L i o;exact⟨b _ _ l,b _ _ j,b _ _ s,b _ _ p⟩
theorem Qw {x y:Qd}:(x.s == y.s && (x.p == y.p && (x.o == y.o && x.g == y.g)))=true↔x=y:=by obtain⟨a,b,c,d⟩:=x;obtain⟨j,h,f,e⟩:=y;simp
theorem Fu (a:Option Addr) (n c:Nat) (L:List Qd) (q:Qd) (w:World) (h:FX w a L) (M:n=L.length) (X:n<=1048576) :
  UO 43 #[.slice a n c,qv q] w λe w'=>∃b:Bool,e=.returned (.bool b)/\(b=true↔q∈L)/\Bl w w':=by
 have H:=Ae (ai h M);clear h M;have t:=TL;unfold qv;go_enter func43,ntmps43;go_wp2;go_loopw [5] (λi wr=>∃k:Nat,k<=n/\i=iv k/\(∀j (h:j<L.length),j<k->L[j]≠q)/\Bl w wr/\Bx wr w.heap.size 34 #[iv q.s,iv q.p,iv q.o,iv q.g]) (λi _=>n-(intOf i).toNat)
 case atStart=>exact⟨0,Us _,rfl,λj _ A=>absurd A (Uu _),Aa _ _,Bx.new _ _ _⟩
 case round=>
  obtain⟨k,hk,rfl,r,l,f⟩:=hrel;have u:=Ae (ai r (ai l f));by_cases J:k<n
  .have F:k<L.length:=by rw[<- H.o.2];exact J
   rcases H.o.1.below l with h0|⟨b,rfl,K⟩;.omega
   obtain⟨s0,s1,Z,Y⟩:=K k F;have z0:=f.cell 0;have V:=f.cell 1;have P:=f.cell 2;have O:=f.cell 3;simp at z0 V P O;have i0:(0:Int)<=(k:Int):=by omega
   have i1:(k:Int)<(n:Int):=by omega
   have D:=Qw (x:=L[k]) (y:=q);clear K r l f;obtain⟨x,I⟩:=gn (L[k]);have E:=Ae I.symm;rw[<- I] at s0 s1 Z Y D;clear I;by_cases z:x=q
   .have T:=Ae (E.o.trans z);have Q:∀W:World,(Op.equalIn 10000 34 (.agg #[iv x.s,iv x.p,iv x.o,iv x.g]) (.agg #[iv q.s,iv q.p,iv q.o,iv q.g])).run prog W=.ok true W:=λW=>by rw[t,D.2 z]
    clear t D z;go_wp2;go_quiet (fail)
    go_wp2;go_ret;exact⟨true,rfl,by simp only[true_iff];rw[<- T.o];exact UA _,Ai u.o.2.1 _⟩
   .have Q:∀W:World,(Op.equalIn 10000 34 (.agg #[iv x.s,iv x.p,iv x.o,iv x.g]) (.agg #[iv q.s,iv q.p,iv q.o,iv q.g])).run prog W=.ok false W:=λW=>by
     have e:(x.s == q.s && (x.p == q.p && (x.o == q.o && x.g == q.g)))=false:=by
      cases hb:(x.s == q.s && (x.p == q.p && (x.o == q.o && x.g == q.g))) with
      | false=>rfl
      | true=>exact absurd (D.1 hb) z
     rw[t,e]
    have G:U (∀j (h:j<L.length),j<k+1->L[j]≠q):=λj A aa=>by
     by_cases e:j=k;.subst e;rw[E.o];exact z
     .exact u.o.1 j A (by omega)
    clear t D z;go_wp2;go_quiet (fail)
    go_wp2;go_roundw;case rel=>exact⟨k+1,by omega,by go_num,G.o,Ai u.o.2.1 _,u.o.2.2⟩
    case measure=>simp[intOf];omega
  .obtain rfl:k=n:=by omega
   have G:U (q∉L):=λhm=>by obtain⟨j,A,e⟩:=List.getElem_of_mem hm;exact u.o.1 j A (by rw[H.o.2];exact A) e
   clear r l f;go_wp2;go_ret;exact⟨false,rfl,by simp[G.o],u.o.2.1⟩
end Go.Proofs.YtcnollkkigiobaaGreat
