import Derived.Test.YtcnollkkigiobaaGreatNv30
set_option linter.unusedVariables false
set_option linter.unusedSimpArgs false
set_option maxRecDepth 100000
set_option maxHeartbeats 90000000
namespace Go.Proofs.YtcnollkkigiobaaGreat
open Go Go.Deep Go.RowKit Go.Proofs.Tryz
theorem RZ {t t' : TypeId} {a b:Addr} (h:Value.iface t (.pointer (some a))=Value.iface t' (.pointer (some b))):t=t'/\a=b:=by injection h with d c;injection c with c;injection c with c;exact⟨d,c⟩
def TJ (w0 W:World) (lo hi:Nat->Nat):Prop:=(∀p,p<6->w0.heap.size+2<=lo p)/\(∀i p,i<p->p<6->hi i<=lo p)/\(∀p,p<6->hi p<=W.heap.size)/\w0.heap.size+2<=W.heap.size
theorem XO.set {lo hi:Nat} {w:World} {A:Array Value} {M:Nat->Nat} {T:Nat->Nat->Tn} {p j:Nat} {v:Value} (h:XO lo hi w A M T p) (n:p≠j):XO lo hi w (A.setIfInBounds (j*2+1) v) M T p:=by
 obtain⟨d,t,l,b,f,e,c,g,i,m,a,k⟩:=h;refine⟨?_,t,l,b,f,e,c,g,i,m,a,?_⟩;.rw[Array.getElem?_setIfInBounds_ne (by omega)];exact d
 .rw[Array.getElem?_setIfInBounds_ne (by omega)];exact k
def SY (key:ByteArray) (t:Ro 21) (w:World) (b:Nat) (S0:Nat->Prop) (e:Ending) (w' : World):Prop:=
 ∃(D:Nat) (y:Ro D) (v' : Value) (S:Nat->Prop) (hh:Nat) (rs:List (Ro 21)),e=.returned v'/\D9 w w' b b/\AP S w' D y v'/\(∀x,S x->(S0 x\/x=b\/w.heap.size<=x)/\x<w'.heap.size)/\Aq D true y hh/\Bt key 21 t rs/\Ac D y=DU rs/\Ac D y<=6000/\∀M,Am M 0 D y 0->On M rs
theorem IH (key:ByteArray) (t u:Ro 21) (v:Value) (b hh:Nat) (S:Nat->Prop) (w:World) (h:DE S w b 21 u v) (q:¬ S b) (p:∀x,S x->x<w.heap.size) (B:b<w.heap.size) (g:Jz key 21 t u) (c:Aq 21 true t hh) (G:Ac 21 t<=5000):UO 84 #[v] w (SY key t w b S):=by
 have H:=Gb c g;have C:=JE c g G (by omega);have d:=g.insR.nodes;by_cases o:Cn u<=4
 .refine (Lf 20 b u v S w h o).mono ?_;rintro e n ⟨rfl,rfl⟩;have a:D5 21 u=[u]:=Gn o;have i:Aq 21 true u hh:=by
   rcases Bt.bal c g.insR with ⟨y,e,k⟩|⟨y,z,e,_⟩;.rw[a] at e;injection e with e;rw[e];exact k
   .rw[a] at e;injection e with _ e;cases e
  rw[a] at d;simp only[List.map_cons,List.map_nil,List.sum_cons,List.sum_nil] at d;refine⟨21,u,v,_,hh,[u],rfl,⟨rfl,rfl,rfl,Uq _,λ_ _ _ _=>rfl⟩,h.tao q,λx f=>?_,i,by rw[<- a];exact g.insR,by simp[DU],by omega,λM m=>m⟩;rcases f with f|f;.exact⟨.inl f,p x f⟩
  .exact⟨.inr (.inl f),by omega⟩
 .have j : Cn u=5:=by omega
  refine (Os 20 b u v S w h q p j C).mono ?_;rintro e n ⟨F,rfl,s,l⟩;have a:D5 21 u=[Bn 0 3 u,Bn 3 5 u]:=Gy j;have i:Aq 22 true (.inr [Bn 0 3 u,Bn 3 5 u]) (hh+1):=by
   rcases Bt.bal c g.insR with ⟨y,e,k⟩|⟨y,z,e,k,E⟩;.rw[a] at e;injection e with _ e;cases e
   .rw[a] at e;injection e with D e;injection e with A e;refine⟨by simp,by simp,hh,rfl,λt l=>?_⟩;simp at l;rcases l with rfl|rfl;.rw[D];exact k
    .rw[A];exact E
  rw[a] at d;refine⟨22,_,F,λx=>(S x\/x=b\/w.heap.size<=x)/\x<n.heap.size,hh+1,[Bn 0 3 u,Bn 3 5 u],rfl,s,AP.keep (Uq _) (λx f r=>⟨⟨f,r⟩,rfl⟩) l,λx f=>f,i,by rw[<- a];exact g.insR,rfl,?_,λM m=>m⟩;show 1+(([Bn 0 3 u,Bn 3 5 u]:List (Ro 21)).map (Ac 21)).sum<=6000;omega
def XA (lo hi H0:Nat) (w:World) (A:Array Value) (M:Nat->Nat) (T:Nat->Nat->Tn) (q:Qd) (p:Nat):Prop:=
 A[p*2]?=some (.func (.func (BY p)) #[] #[])/\∃(t' : Ro 21) (D:Nat) (y:Ro D) (v' : Value) (S:Nat->Prop) (hh:Nat) (rs:List (Ro 21)),BE (M p) (T p) t'/\AA p q∉Ab 21 t'/\AP S w D y v'/\(∀x,S x->((lo<=x/\x<hi)\/H0<=x)/\x<w.heap.size)/\Aq D true y hh/\Bt (AA p q) 21 t' rs/\Ac D y=DU rs/\Ac D y<=6000/\(∀M,Am M 0 D y 0->On M rs)/\A[p*2+1]?=some v'
theorem XA.keep {lo hi a:Nat} {w w' : World} {A:Array Value} {M:Nat->Nat} {T:Nat->Nat->Tn} {q:Qd} {p:Nat} (h:XA lo hi a w A M T q p) (f:w.heap.size<=w'.heap.size) (l:∀x,((lo<=x/\x<hi)\/a<=x)->x<w.heap.size->w'.heap[x]?=w.heap[x]?):XA lo hi a w' A M T q p:=by obtain⟨k,s,D,y,n,S,g,j,m,i,r,c,t⟩:=h;exact⟨k,s,D,y,n,S,g,j,m,i,AP.keep f (λb e o=>⟨e,l b (c b e).1 o⟩) r,λx d=>⟨(c x d).1,UB (c x d).2 f⟩,t⟩
theorem XA.set {lo hi b:Nat} {w:World} {A:Array Value} {M:Nat->Nat} {T:Nat->Nat->Tn} {q:Qd} {p j:Nat} {v:Value} (h:XA lo hi b w A M T q p) (u:p≠j):XA lo hi b w (A.setIfInBounds (j*2+1) v) M T q p:=by
 obtain⟨i,s,D,y,m,S,d,g,l,e,n,o,t,c,r,f,k,a⟩:=h;refine⟨?_,s,D,y,m,S,d,g,l,e,n,o,t,c,r,f,k,?_⟩;.rw[Array.getElem?_setIfInBounds_ne (by omega)];exact i
 .rw[Array.getElem?_setIfInBounds_ne (by omega)];exact a
def PM (w0 W:World) (M:Nat->Nat) (T:Nat->Nat->Tn) (q:Qd) (lo hi:Nat->Nat) (e:Ending) (w' : World):Prop:=
 Below (w0.heap.size+1) W w'/\((e=.returned (.bool false)/\¬ Co 6 M T q)\/(e=.returned (.bool true)/\Co 6 M T q/\∃A',Bx w' (w0.heap.size+1) 109 A'/\∀p,p<6->XA (lo p) (hi p) (W.heap.size+1) w' A' M T q p))
theorem NQ (i:Nat) (A:Array Value) (d:Nat) (t:Ro d) (v:Value) (S:Nat->Prop) (w:World) (j:Bx w i 109 A) (k:A[1]?=some v) (l:FZ S w d t v) (g:Nat) (a:g=(Ab d t).length) :
  UO 82 #[pt i] w λe n=>e=.returned (iv (g:Int))/\n=w:=by
 have p:=j.cell 1;rw[k] at p;obtain⟨m,_,c,h,q⟩:=l.count;rw[<- a] at h;have b:=Ae (BK m g w h);clear j l k a h c;rcases q with rfl|rfl;all_goals
  go_enter func82,ntmps82
  go_wp2_with fail
  (with_reducible refine b.o.mono ?_)
  rintro e r ⟨rfl,f⟩
  subst f
  go_wp2
  go_ret
  exact⟨rfl,rfl⟩
end Go.Proofs.YtcnollkkigiobaaGreat
