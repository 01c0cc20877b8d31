import Derived.Test.YtcnollkkigiobaaGreatNv43
set_option linter.unusedVariables false
set_option linter.unusedSimpArgs false
set_option maxRecDepth 100000
set_option maxHeartbeats 90000000
namespace Go.Proofs.YtcnollkkigiobaaGreat
open Go Go.Deep Go.RowKit Go.Proofs.Tryz
theorem Ig {d:Nat}:∀(l:List (Ro d)),(∀t,t∈l->Ac d t+1<=2*(Ab d t).length)->(l.map (Ac d)).sum+l.length<=2*(l.flatMap (Ab d)).length
 | [],_=>by simp
 | t::l,h=>by
  have b:=h t (by simp)
  have c:=Ig l (λt a=>h t (by simp[a]))
  simp only[List.map_cons,List.sum_cons,UJ,List.flatMap_cons,Uz]
  omega
theorem Ih:∀{d:Nat} {t:Ro d} {h:Nat},Aq d false t h->Ac d t+1<=2*(Ab d t).length
 | 0,t,_,_=>t.elim
 | d+1,.inl t,h,hb=>by
  have:2<=t.length:=hb.2.2.resolve_left (by decide)
  show 1+1<=2*t.length
  omega
 | d+1,.inr l,h,hb=>by
  obtain⟨c,_,e,_,a⟩:=hb
  have:=Ig l (λt b=>Ih (a t b))
  show 1+(l.map (Ac d)).sum+1<=2*(l.flatMap (Ab d)).length
  omega
theorem Mr {d:Nat} {t:Ro (d+1)} {h:Nat} (c:Aq (d+1) true t h):Ac (d+1) t<=2*(Ab (d+1) t).length+1:=by
 rcases t with t|l;.show 1<=2*t.length+1;omega
 .obtain⟨e,_,f,_,a⟩:=c;have:=Ig l (λt b=>Ih (a t b));show 1+(l.map (Ac d)).sum<=2*(l.flatMap (Ab d)).length+1;omega
def Tb (w:World) (n:Nat) (M:Nat->Nat) (T:Nat->Nat->Tn) (q:Qd) (e:Ending) (w' : World):Prop:=
 Bl w w'/\((Co n M T q/\∃a c M' T' us lo hi,e=.returned (.agg #[.bool true,.slice a 6 c])/\AJ TreeAt w' (w.heap.size+3) (.slice a 6 c) 6 M' T' us lo hi/\∀i,i<6->JW (M i) (T i) (AA i q) (M' i) (T' i))\/
  (¬ Co n M T q/\∃a c us lo hi,e=.returned (.agg #[.bool false,.slice a n c])/\AJ TreeAt w' (w.heap.size+3) (.slice a n c) n M T us lo hi))
theorem SC (a:Option Addr) (n c:Nat) (M:Nat->Nat) (T:Nat->Nat->Tn) (q:Qd) (w:World) (h:CO w a n M T) (hn:n<=1048576) (hN:BF n M T) :
  UO 18 #[.agg #[.slice a n c],qv q] w (Tb w n M T q):=by
 have HR:U (CO w a n M T/\BF n M T):=⟨h,hN⟩;clear h hN;obtain⟨d,Z⟩:∃d,d=((w.alloc (.cells #[.slice a n c] 32)).alloc (.cells #[iv q.s,iv q.p,iv q.o,iv q.g] 34)).alloc (.cells #[.bool false,.slice none 0 0] 42):=⟨_,rfl⟩;have G:U (Bx d w.heap.size 32 #[.slice a n c]/\Bx d (w.heap.size+1) 34 #[iv q.s,iv q.p,iv q.o,iv q.g]/\Bx d (w.heap.size+2) 42 #[.bool false,.slice none 0 0]/\Bl w d/\d.heap.size=w.heap.size+3):=by have b1:=Bx.new w #[.slice a n c] 32;have b2:=Bx.new (w.alloc (.cells #[.slice a n c] 32)) #[iv q.s,iv q.p,iv q.o,iv q.g] 34;have b3:=Bx.new ((w.alloc (.cells #[.slice a n c] 32)).alloc (.cells #[iv q.s,iv q.p,iv q.o,iv q.g] 34)) #[.bool false,.slice none 0 0] 42;simp only[UF] at b2 b3;rw[Z];exact⟨(b1.alloc _).alloc _,b2.alloc _,b3,((Aa _ _).alloc (by simp) _).alloc (by simp;omega) _,by simp⟩
 have l:U (∀W,Below (w.heap.size+3) d W->Bl w W):=λW O=>G.o.2.2.2.1.trans (O.mono (by omega));have f:U (∀W,Below (w.heap.size+3) d W->W.cell? (ad w.heap.size 0)=some (.slice a n c)/\(W.cell? (ad (w.heap.size+1) 0)=some (iv q.s)/\W.cell? (ad (w.heap.size+1) 1)=some (iv q.p)/\W.cell? (ad (w.heap.size+1) 2)=some (iv q.o)/\W.cell? (ad (w.heap.size+1) 3)=some (iv q.g))/\W.cell? (ad (w.heap.size+2) 0)=some (.bool false)/\W.cell? (ad (w.heap.size+2) 1)=some (.slice none 0 0)/\w.heap.size+2<W.heap.size/\∀i,W.frozen? (ad (w.heap.size+2) i)=false):=λW O=>by have b1:=G.o.1.below' O (by omega);have b2:=G.o.2.1.below' O (by omega);have b3:=G.o.2.2.1.below' O (by omega);exact⟨b1.cell 0,⟨b2.cell 0,b2.cell 1,b2.cell 2,b2.cell 3⟩,b3.cell 0,b3.cell 1,b3.lt,λi=>b3.frozen i⟩
 have am:U (UO 36 #[.agg #[.slice a n c]] d (MP d a n c M T)):=Do a n c M T d (HR.o.1.below G.o.2.2.2.1) hn HR.o.2;unfold qv;go_enter func18,ntmps18;go_upto_region 1 with fail
 rw[<- Z];clear Z;obtain⟨x0,⟨q0,B,z,q3⟩,_⟩:=f.o d (Up _ _);go_wp2_with fail
 (with_reducible refine am.o.mono ?_)
 rintro e C hr;clear x0 q0 B z q3 am;rcases hr with ⟨rfl,H,O⟩|⟨rfl,hv,A,lo,hi,hI⟩
 .have aa:U (¬ Co n M T q):=λhk=>H hk.1;have K1:U (Below (w.heap.size+3) d C):=by rw[<- G.o.2.2.2.2];exact O
  clear H O;have f0:=(f.o C K1.o).1;obtain⟨af,ag,ae,ab⟩:=(f.o C K1.o).2.2;have ah:=Ae (EB a n c M T C (HR.o.1.below (l.o C K1.o)) hn HR.o.2);go_wp2_with fail
  (with_reducible refine ah.o.mono ?_)
  rintro e R ⟨az,cz,V,j,k,rfl,K,J⟩;have r:U (Below (w.heap.size+3) d R/\AJ TreeAt R (w.heap.size+3) (.slice az n cz) n M T V j k):=by
   have B:=K1.o;have z:w.heap.size+3<=C.heap.size:=by have:=B.size;rw[G.o.2.2.2.2] at this;exact this
   exact⟨B.trans (J.mono z),K.low (by omega)⟩
  obtain⟨F,I,aq,av⟩:=(f.o R r.o.1).2.2;clear f0 af ag ae ab K J;go_wp2;refine bodyPost_ret (v:=.agg #[.bool false,.slice az n cz]) (by simp[results,results18,go_sem,F,I]) rfl ⟨((l.o R r.o.1).setCell (by simp;try omega) _).setCell (by simp;try omega) _,.inr ⟨aa.o,az,cz,V,j,k,rfl,?_⟩⟩;exact (r.o.2.setO TreeAt.pl (by simp) _).setO TreeAt.pl (by simp) _
 have e6:=hv.1;subst e6;have HI:=Ae (ai hI hv);have K1:U (Below (w.heap.size+3) d C):=by rw[<- G.o.2.2.2.2];exact hI.bel
 have ar:U (UO 46 #[pt (d.heap.size+1),.agg #[iv q.s,iv q.p,iv q.o,iv q.g]] C λe w'=>∃b:Bool,e=.returned (.bool b)/\Below (d.heap.size+1) C w'/\((b=false/\¬ Co 6 M T q)\/(b=true/\Co 6 M T q/\∃A',Bx w' (d.heap.size+1) 109 A'/\∀p,p<6->XA (lo p) (hi p) (C.heap.size+1) w' A' M T q p))):=(Rb d C a c M T A lo hi hI hv q).mono λe w' ⟨L,E⟩=>by
  rcases E with ⟨E,N⟩|⟨E,N,Q⟩;.exact⟨false,E,L,.inl ⟨rfl,N⟩⟩
  .exact⟨true,E,L,.inr ⟨rfl,N,Q⟩⟩
 clear hv hI;obtain⟨x0,⟨q0,B,z,q3⟩,_⟩:=f.o C K1.o;go_wp2_with fail
 (with_reducible refine ar.o.mono ?_)
 rintro e u ⟨ba,rfl,an,aw⟩;have K2:=Ae (K1.o.trans (an.mono (by rw[G.o.2.2.2.2];omega)));clear x0 q0 B z q3 ar an;rcases aw with ⟨rfl,H⟩|⟨rfl,ac,A',hx,X⟩
 .have aa:U (¬ Co 6 M T q):=H;clear H;have f0:=(f.o u K2.o).1;obtain⟨af,ag,ae,ab⟩:=(f.o u K2.o).2.2;have ah:U (UO 47 #[.agg #[.slice a 6 c]] u (RT u 6 M T)):=EB a 6 c M T u (HR.o.1.below (l.o u K2.o)) hn HR.o.2;go_wp2_with fail
  (with_reducible refine ah.o.mono ?_)
  rintro e R ⟨az,cz,V,j,k,rfl,K,J⟩;have r:U (Below (w.heap.size+3) d R/\AJ TreeAt R (w.heap.size+3) (.slice az 6 cz) 6 M T V j k):=by
   have B:=K2.o;have z:w.heap.size+3<=u.heap.size:=by have:=B.size;rw[G.o.2.2.2.2] at this;exact this
   exact⟨B.trans (J.mono z),K.low (by omega)⟩
  obtain⟨F,I,aq,av⟩:=(f.o R r.o.1).2.2;clear f0 af ag ae ab K J;go_wp2;refine bodyPost_ret (v:=.agg #[.bool false,.slice az 6 cz]) (by simp[results,results18,go_sem,F,I]) rfl ⟨((l.o R r.o.1).setCell (by simp;try omega) _).setCell (by simp;try omega) _,.inr ⟨aa.o,az,cz,V,j,k,rfl,?_⟩⟩;exact (r.o.2.setO TreeAt.pl (by simp) _).setO TreeAt.pl (by simp) _
 .haveI:Inhabited (Σ D:Nat,Ro D):=⟨⟨1,.inl []⟩⟩
  have Y:∀p,p<6->∃s:(Σ D:Nat,Ro D),∃(t : Ro 21) (v' : Value) (S:Nat->Prop) (hh:Nat) (m:List (Ro 21)),A'[p*2]?=some (.func (.func (BY p)) #[] #[])/\BE (M p) (T p) t/\AA p q∉Ab 21 t/\AP S u s.1 s.2 v'/\(∀x,S x->x<u.heap.size)/\Aq s.1 true s.2 hh/\Bt (AA p q) 21 t m/\Ac s.1 s.2=DU m/\Ac s.1 s.2<=6000/\(∀M,Am M 0 s.1 s.2 0->On M m)/\A'[p*2+1]?=some v':=λp P=>by obtain⟨h0,t,D,y,v',S,hh,m,L,E,N,Q,h5⟩:=X p P;exact⟨⟨D,y⟩,t,v',S,hh,m,h0,L,E,N,λx hx=>(Q x hx).2,h5⟩
  obtain⟨s,hs⟩:=choose_lt Y;have ap:U (UO 48 #[pt (d.heap.size+1)] u (Pl u (λp=>(s p).1) (λp=>(s p).2))):=LP (d.heap.size+1) A' (λp=>(s p).1) (λp=>(s p).2) u hx (λp P=>by obtain⟨t,v',S,hh,m,h0,L,E,N,Q,h5,h6,h7,h8,h9,aj⟩:=hs p P;exact⟨v',S,hh,h0,aj,N,Q,h5,by omega⟩)
  have HS:U (Co 6 M T q/\∀p,p<6->∃(t : Ro 21) (m:List (Ro 21)),BE (M p) (T p) t/\AA p q∉Ab 21 t/\Bt (AA p q) 21 t m/\Ac (s p).1 (s p).2=DU m/\DU m<=5000/\(∀M,Am M 0 (s p).1 (s p).2 0->On M m)):=⟨ac,λp P=>by obtain⟨t,v',S,hh,m,h0,L,E,N,Q,h5,h6,h7,h8,h9,aj⟩:=hs p P;refine⟨t,m,L,E,h6,h7,?_,h9⟩;obtain⟨t2,ax,ay,_⟩:=ac.1.2.1 p P;have e:=CR ax L;subst e;obtain⟨O,al⟩:=L.2.2.2.1;have B:Ac 21 t2<=2*(Ab 21 t2).length+1:=Mr al;have z:=h6.nodes;unfold DU;split <;> omega⟩
  clear ac hx X Y hs;obtain⟨x0,⟨q0,B,z,q3⟩,_⟩:=f.o u K2.o;go_wp2_with fail
  (with_reducible refine ap.o.mono ?_)
  rintro e w3 ⟨au,a3,c3,T',V,j,k,rfl,ak,ao⟩;have H3:U (Below (w.heap.size+3) d w3/\AJ TreeAt w3 (w.heap.size+3) (.slice a3 6 c3) 6 (λp=>Ac (s p).1 (s p).2) T' V j k/\∀p,p<6->JW (M p) (T p) (AA p q) (Ac (s p).1 (s p).2) (T' p)):=by
   have z:w.heap.size+3<=u.heap.size:=by have:=K2.o.size;rw[G.o.2.2.2.2] at this;exact this
   refine⟨K2.o.trans (au.mono z),ak.low (by omega),λp P=>?_⟩;obtain⟨t,m,L,E,N,Q,h5,h6⟩:=HS.o.2 p P;exact⟨t,m,L,by rw[Bq];omega,E,N,Q,by rw[Q];exact h5,h6 _ (ao p P)⟩
  obtain⟨F,I,aq,av⟩:=(f.o w3 H3.o.1).2.2;clear x0 q0 B z q3 au ak ao ap;go_wp2;refine bodyPost_ret (v:=.agg #[.bool true,.slice a3 6 c3]) (by simp[results,results18,go_sem,F,I]) rfl ⟨((l.o w3 H3.o.1).setCell (by simp;try omega) _).setCell (by simp;try omega) _,.inl ⟨HS.o.1,a3,c3,_,T',V,j,k,rfl,?_,H3.o.2.2⟩⟩;exact (H3.o.2.1.setO TreeAt.pl (by simp) _).setO TreeAt.pl (by simp) _
end Go.Proofs.YtcnollkkigiobaaGreat
