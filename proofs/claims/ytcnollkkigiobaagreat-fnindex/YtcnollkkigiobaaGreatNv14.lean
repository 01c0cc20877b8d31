import Derived.Test.YtcnollkkigiobaaGreatNv12
import Derived.Test.YtcnollkkigiobaaGreatNv13
set_option linter.unusedVariables false
set_option linter.unusedSimpArgs false
set_option maxRecDepth 100000
set_option maxHeartbeats 90000000
namespace Go.Proofs.YtcnollkkigiobaaGreat
open Go Go.Deep Go.RowKit Go.Proofs.Tryz
variable {S:Nat->Prop}{W W4 w w':World}{cc d gg r:Nat}{zs:List Value}
theorem GK {c:Array Oper} {o:Oper} {a:Act} {K:Act->World->Prop} {Q:Exit->Act->World->Prop} {E:Prop} (l:o.guard=none) (k:Nat) (i j:Nat) (f:Array TypeId)
  (m:o.op=.call { callee:=.value (.func k),args:=#[.tmp i,.tmp j],argTypes:=f }) (u v:Value) (n:a.tmps[i]?.getD undef=u) (p:a.tmps[j]?.getD undef=v) (g:∀b w,(callFunc k b).run prog w=.ok (.enter k b) w)
  (h:UO k #[u,v] w λe w'=>∃r,e=.returned r/\K (a.put o.dst r) w') :
  if Region.wanted o (yielded c a.tmps)=true then Oper.wp prog o a w K Q else E:=by
 have s:Region.wanted o (yielded c a.tmps)=true:=by simp[Region.wanted,l]
 rw[if_pos s];unfold Oper.wp;simp[execOp,m,resolve,invoke,n,p,go_sem,g];refine h.mono ?_;rintro e w' ⟨u,rfl,q⟩;exact q
theorem Ub (p:Value) (W:World):(Instr.typeAssert (.iface 204 p) 68 204 true).run prog W=.ok (.tuple #[p,.bool true]) W:=by kernel_rfl
theorem Uj (p:Value) (W:World):(Instr.typeAssert (.iface 204 p) 68 204 false).run prog W=.ok p W:=by kernel_rfl
theorem Ua (p:Value) (W:World):(Instr.typeAssert (.iface 174 p) 68 204 true).run prog W=.ok (.tuple #[.pointer none,.bool false]) W:=by kernel_rfl
theorem TS (p:Value) (W:World):(Instr.typeAssert (.iface 174 p) 68 174 true).run prog W=.ok (.tuple #[p,.bool true]) W:=by kernel_rfl
theorem Um (p:Value) (W:World):(Instr.typeAssert (.iface 174 p) 68 174 false).run prog W=.ok p W:=by kernel_rfl
def D9 (w w' : World) (b r:Nat):Prop:=w'.os=w.os/\w'.tape=w.tape/\w'.output=w.output/\w.heap.size<=w'.heap.size/\∀k,k<w.heap.size->k≠b->k≠r->w'.heap[k]?=w.heap[k]?
theorem Ix (w:World) (b r i j:Nat) (v u:Value):D9 w ((w.setCell (ad b i) v).setCell (ad r j) u) b r:=
 ⟨rfl,rfl,rfl,by simp[World.setCell],λk _ a c=>by rw[Ur _ _ _ _ (show k≠r from c),Ur _ _ _ _ (show k≠b from a)]⟩
theorem D9.trans {w f w2:World} {b r:Nat} (h:D9 w f b r) (k:D9 f w2 b r):D9 w w2 b r:=
 ⟨k.1.trans h.1,k.2.1.trans h.2.1,k.2.2.1.trans h.2.2.1,Uy h.2.2.2.1 k.2.2.2.1,λi a c e=>(k.2.2.2.2 i (UB a h.2.2.2.1) c e).trans (h.2.2.2.2 i a c e)⟩
theorem Ke (b r:Nat) (h:Bl w w'):D9 w w' b r:=⟨h.os,h.tape,h.output,h.size,λk a _ _=>h.block k a⟩
theorem Kw (d:Nat) {b e f c:Nat} {L:List ByteArray} {m:World} {M J:Int} (O:zs=Ap L) (Q:e+f=L.length) (l:b≠r) (C:b<W.heap.size) (E:r<W.heap.size) (F:c<=e+f) (h:Bl W m) (n:m.ownsRow (W.heap.size+1) 9 1 (.slice (some (ad gg 0)) (e+f) cc) (e+f) zs) (D:D9 m W4 b r) (B:Bx W4 b 206 #[iv M,.slice (some (ad gg 0)) c c]) (y:Bx W4 r 206 #[iv J,.slice (some (ad gg (BG cc c))) (e+f-c) (cc-c)]) :
  Ending.returned (.tuple #[])=.returned (.tuple #[])/\D9 W ((W4.setCell (ad b 0) (iv (c:Int))).setCell (ad r 0) (iv ((e+f-c:Nat):Int))) b r/\AP (λx=>x=b\/W.heap.size<=x) ((W4.setCell (ad b 0) (iv (c:Int))).setCell (ad r 0) (iv ((e+f-c:Nat):Int))) (d+1) (.inl (L.take c)) (.iface 204 (pt b))/\AP (λx=>x=r\/W.heap.size<=x) ((W4.setCell (ad b 0) (iv (c:Int))).setCell (ad r 0) (iv ((e+f-c:Nat):Int))) (d+1) (.inl (L.drop c)) (.iface 204 (pt r)):=by
 have t:=AS n;have s:=Ah n gg rfl;have I:=Ix W4 b r 0 0 (iv (c:Int)) (iv ((e+f-c:Nat):Int));have o:=D.trans I;have H:Bx ((W4.setCell (ad b 0) (iv (c:Int))).setCell (ad r 0) (iv ((e+f-c:Nat):Int))) b 206 #[iv (c:Int),.slice (some (ad gg 0)) c c]:=by have q:=(B.set 0 (iv (c:Int))).other (p:=(ad r 0)) l (iv ((e+f-c:Nat):Int));simpa using q
 have K:Bx ((W4.setCell (ad b 0) (iv (c:Int))).setCell (ad r 0) (iv ((e+f-c:Nat):Int))) r 206 #[iv ((e+f-c:Nat):Int),.slice (some (ad gg (BG cc c))) (e+f-c) (cc-c)]:=by have q:=(y.other (p:=(ad b 0)) l.symm (iv (c:Int))).set 0 (iv ((e+f-c:Nat):Int));simpa using q
 generalize (W4.setCell (ad b 0) (iv (c:Int))).setCell (ad r 0) (iv ((e+f-c:Nat):Int))=z at*
 have G:=h.size;have N:=o.2.2.2.1;have k:∀x,x=b\/x=r->gg≠x:=by rintro x (rfl|rfl) <;> omega
 have g:∀j,j<e+f->z.cell? (ad gg j)=some (.string (gt L j)):=by intro j P;rw[World.cell?_of_block (a:=(ad gg j)) (o.2.2.2.2 gg s.2 (k b (.inl rfl)) (k r (.inr rfl))),n.cellAt j (by omega),O,Bf L j (by omega)]
 have A:(L.take c).length=c:=by rw[UE];omega
 have v:(L.drop c).length=e+f-c:=by rw[List.length_drop];omega
 refine⟨rfl,(Ke b r h).trans o,⟨b,some (ad gg 0),c,rfl,.inl rfl,by rw[A];exact H,by omega,?_⟩,⟨r,some (ad gg (BG cc c)),cc-c,rfl,.inl rfl,by rw[v];exact K,by omega,?_⟩⟩;.refine .inr ⟨gg,0,rfl,.inr (by omega),by omega,λi u=>?_⟩;rw[UI,g i (by omega)];congr 2;unfold gt;rw[Uw,Uw,List.getElem?_take,if_pos (by omega)]
 .refine .inr ⟨gg,BG cc c,rfl,.inr (by omega),by omega,λi u=>?_⟩;rw[v] at u;rw[KF (show ¬ cc=c by omega),g (c+i) (by omega)];congr 2;unfold gt;rw[Uw,Uw,List.getElem?_drop]
theorem EH (d b r f j m n c:Nat) (l k:Option Addr) (M L:Int) (G F:List ByteArray) (W:World) (R:Bx W b 206 #[iv M,.slice l f m]) (T:Bx W r 206 #[iv L,.slice k j n]) (y:b≠r) (X:Hp W l f (Ap G)) (V:Hp W k j (Ap F)) (aj:c<=f+j) (an:0<c) (hn:f+j<=1000) :
  UO 137 #[.iface 204 (pt b),.iface 204 (pt r),iv (c:Int)] W λe w'=>e=.returned (.tuple #[])/\D9 W w' b r/\AP (λx=>x=b\/W.heap.size<=x) w' (d+1) (.inl ((G++F).take c)) (.iface 204 (pt b))/\AP (λx=>x=r\/W.heap.size<=x) w' (d+1) (.inl ((G++F).drop c)) (.iface 204 (pt r)):=by
 obtain⟨B,t⟩:∃B,B=Ap G:=⟨_,rfl⟩;obtain⟨H,u⟩:=gn (Ap F);rw[<- t] at X;rw[<- u] at V;have P:U (B++H=Ap (G++F)/\f+j=(G++F).length):=⟨by rw[t,u,Bv],by have q1:=X.1;have q2:=V.1;rw[t,AF] at q1;rw[u,AF] at q2;rw[Uz];omega⟩;have N:=Ae (ai X V);obtain⟨X0,ac⟩:=gn (iv M);have HX:=Ae (ai R T);have p1:=R.cell 1;have p2:=T.cell 1;simp at p1 p2;have al:=R.lt;have ah:=T.lt;clear X V R T t u ac X0;have t1:=Ub (pt b);have t2:=Uj (pt r);go_enter func137,ntmps137;go_upto_region 4 with fail
 have E:U (UO 161 #[.slice (some (ad W.heap.size 0)) 2 2] (W.alloc (.cells #[.slice l f m,.slice k j n] 88)).drew λe w'=>∃gg cc,e=.returned (.slice (some (ad gg 0)) (f+j) cc)/\w'.ownsRow (W.alloc (.cells #[.slice l f m,.slice k j n] 88)).drew.heap.size 9 1 (.slice (some (ad gg 0)) (f+j) cc) (f+j) (B++H)/\Below (W.alloc (.cells #[.slice l f m,.slice k j n] 88)).drew.heap.size (W.alloc (.cells #[.slice l f m,.slice k j n] 88)).drew w'):=by have nb:=(Bx.new W #[.slice l f m,.slice k j n] 88).drew;have O:Bl W (W.alloc (.cells #[.slice l f m,.slice k j n] 88)).drew:=(Aa W _).drew;exact KN W.heap.size 2 f j m n l k B H _ ((nb.cell 0).trans (by simp)) ((nb.cell 1).trans (by simp)) (N.o.1.below O) (N.o.2.below O) (by omega) hn
 have Z:U (∀A,Below (W.alloc (.cells #[.slice l f m,.slice k j n] 88)).drew.heap.size (W.alloc (.cells #[.slice l f m,.slice k j n] 88)).drew A->Bl W A):=λA h=>(Aa W _).drew.trans (h.mono (by show W.heap.size<=(W.alloc _).heap.size;simp));refine Aj (S:=λ_=>True) 22 (by kernel_rfl) trivial (λa=>?_);refine tz 0 rfl ?_;refine tz 1 rfl ?_;refine tz 2 rfl ?_;refine tz 3 rfl ?_;refine tz 4 rfl ?_;refine tz 6 rfl ?_;refine tz 7 rfl ?_;refine tz 8 rfl ?_;refine tz 12 rfl ?_;refine Dr 5 9 rfl rfl (by kernel_rfl) (λK g=>?_) (λK g=>?_);go_simp;refine tL g (by trivial) ?_;clear g K a;intro a;try simp only[Ay]
 refine At 9 rfl (λK g=>?_);go_simp;refine tL g (by trivial) ?_;clear g K a;intro a;try simp only[Ay]
 rotate_left;go_simp;refine tL g (by trivial) ?_;clear g K a;intro a;try simp only[Ay]
 refine At 5 rfl (λK g=>?_);go_simp;refine tL g (by trivial) ?_;clear g K a;intro a;try simp only[Ay]
 all_goals
  refine At 10 rfl (λK g=>?_)
  go_simp
  refine tL g (by trivial) ?_
  clear g K a
  intro a
  try simp only[Ay]
  refine At 11 rfl (λK g=>?_)
  refine Dg (by rfl) 161 27 _ (by rfl) (.slice (some (ad W.heap.size 0)) 2 2) (by rfl) (λ_ _=>by rfl) ?_
  (with_reducible refine E.o.mono ?_)
  rintro e A ⟨gg,cc,rfl,D,J⟩
  refine⟨_,rfl,?_⟩
  have Q:U (A.ownsRow (W.heap.size+1) 9 1 (.slice (some (ad gg 0)) (f+j) cc) (f+j) (B++H)/\Bl W A):=⟨by have q:(W.alloc (.cells #[.slice l f m,.slice k j n] 88)).drew.heap.size=W.heap.size+1:=(show (W.alloc (.cells #[.slice l f m,.slice k j n] 88)).heap.size=W.heap.size+1 by simp);rw[q] at D;exact D,Z.o A J⟩
  have aa:=AS Q.o.1
  clear D J
  refine tL g (by trivial) ?_
  clear g K a
  intro a
  try simp only[Ay]
  refine At 13 rfl (λK g=>?_)
  have z:=Ae (Py gg (f+j) cc c A (by omega) aa.1)
  refine GK (by rfl) 160 28 29 _ (by rfl) (.slice (some (ad gg 0)) (f+j) cc) (iv (c:Int)) (by rfl) (by rfl) (λ_ _=>by rfl) ?_
  (with_reducible refine z.o.mono ?_)
  rintro e v ⟨rfl,I⟩
  refine⟨_,rfl,?_⟩
  have s:U (Bx v b 206 #[iv M,.slice l f m]/\Bx v r 206 #[iv L,.slice k j n]/\v.ownsRow (W.heap.size+1) 9 1 (.slice (some (ad gg 0)) (f+j) cc) (f+j) (B++H)/\Bl W v):=by
   subst I
   exact⟨(HX.o.1.below Q.o.2).drew,(HX.o.2.below Q.o.2).drew,Ag Q.o.1 (Up _ _).drew,Q.o.2.drew⟩
  have l1:=s.o.1.cell 1
  have l2:=s.o.2.1.cell 1
  simp at l1 l2
  have am:=s.o.1.frozen 1
  have ae:=s.o.2.1.frozen 1
  have af:=s.o.1.lt
  have ab:=s.o.2.1.lt
  clear I z
  refine tL g (by trivial) ?_
  clear g K a
  intro a
  try simp only[Ay]
  refine At 14 rfl (λK g=>?_)
  go_simp
  refine tL g (by trivial) ?_
  clear g K a
  intro a
  try simp only[Ay]
  refine tz 15 rfl ?_
  refine tz 16 rfl ?_
  refine tz 17 rfl ?_
  refine tz 18 rfl ?_
  refine At 19 rfl (λK g=>?_)
  go_simp
  refine tL g (by trivial) ?_
  clear g K a
  intro a
  try simp only[Ay]
  refine At 20 rfl (λK g=>?_)
  go_simp
  refine tL g (by trivial) ?_
  clear g K a
  intro a
  try simp only[Ay]
  refine At 21 rfl (λK g=>?_)
  go_simp
  refine tL g (by trivial) ?_
  clear g K a
  intro a
  try simp only[Ay]
  refine At 22 rfl (λK g=>?_)
  go_simp
  refine tM g ?_
  clear g K
  have C:U (Bx ((v.setCell (ad b 1) (.slice (some (ad gg 0)) c c)).setCell (ad r 1) (.slice (some (ad gg (BG cc c))) (f+j-c) (cc-c))) b 206 #[iv M,.slice (some (ad gg 0)) c c]/\Bx ((v.setCell (ad b 1) (.slice (some (ad gg 0)) c c)).setCell (ad r 1) (.slice (some (ad gg (BG cc c))) (f+j-c) (cc-c))) r 206 #[iv L,.slice (some (ad gg (BG cc c))) (f+j-c) (cc-c)]/\D9 v ((v.setCell (ad b 1) (.slice (some (ad gg 0)) c c)).setCell (ad r 1) (.slice (some (ad gg (BG cc c))) (f+j-c) (cc-c))) b r):=by
   refine⟨?_,?_,Ix _ _ _ _ _ _ _⟩
   .have q:=(s.o.1.set 1 (.slice (some (ad gg 0)) c c)).other (p:=(ad r 1)) y (.slice (some (ad gg (BG cc c))) (f+j-c) (cc-c))
    simpa using q
   .have q:=(s.o.2.1.other (p:=(ad b 1)) y.symm (.slice (some (ad gg 0)) c c)).set 1 (.slice (some (ad gg (BG cc c))) (f+j-c) (cc-c))
    simpa using q
  generalize (v.setCell (ad b 1) (.slice (some (ad gg 0)) c c)).setCell (ad r 1) (.slice (some (ad gg (BG cc c))) (f+j-c) (cc-c))=W4 at C ⊢
  clear l1 l2 am ae af ab a
  have ag:=Ae (Cd b c c _ M W4 C.o.1)
  go_wp2_with fail
  (with_reducible refine ag.o.mono ?_)
  rintro e w5 ⟨rfl,rfl⟩
  have Y:U (Bx (W4.setCell (ad b 0) (iv (c:Int))) b 206 #[iv (c:Int),.slice (some (ad gg 0)) c c]/\Bx (W4.setCell (ad b 0) (iv (c:Int))) r 206 #[iv L,.slice (some (ad gg (BG cc c))) (f+j-c) (cc-c)]):=⟨by simpa using C.o.1.set 0 (iv (c:Int)),C.o.2.1.other (p:=(ad b 0)) y.symm _⟩
  have ak:=Ae (Cd r (f+j-c) (cc-c) _ L _ Y.o.2)
  go_wp2_with fail
  (with_reducible refine ak.o.mono ?_)
  rintro e w6 ⟨rfl,rfl⟩
  go_wp2
  go_end0
  exact Kw d P.o.1 P.o.2 y al ah aj s.o.2.2.2 s.o.2.2.1 C.o.2.2 C.o.1 C.o.2.1
theorem IN {b:Nat} {l:List (Ro d)} (q:∀k (h:k<l.length),∃u,zs[k]?=some u/\AP S W d l[k] u) (g:¬ S b) (f:¬ S r) (t:D9 W W4 b r) (k:Nat) (h:k<l.length):∃u c,zs[k]?=some u/\(c≠b/\c≠r)/\W4.cell? (ad c 0)=some (iv ((Ab d l[k]).length:Int))/\(u=.iface 204 (pt c)\/u=.iface 174 (pt c)):=by obtain⟨u,o,s⟩:=q k h;obtain⟨c,m,x,p,v⟩:=s.count;have j:c≠b:=λe=>g (e ▸ m);have n:c≠r:=λe=>f (e ▸ m);exact⟨u,c,o,⟨j,n⟩,(World.cell?_of_block (a:=(ad c 0)) (t.2.2.2.2 c x j n)).trans p,v⟩
theorem JN {b:Nat} (h:w.grownBy w' (some b)):D9 w w' b r:=⟨h.os,h.tape,h.output,h.size,λk c a _=>h.block k c (λe=>a (by injection e))⟩
theorem ME {b:Nat} (h:w.grownBy w' (some r)):D9 w w' b r:=⟨h.os,h.tape,h.output,h.size,λk c _ a=>h.block k c (λe=>a (by injection e))⟩
theorem Ha {b x o:Nat} {f:World} {l:List (Ro d)} {a m:Nat} (D:∀k (h:k<l.length),∃u,zs[k]?=some u/\AP S W d l[k] u) (v:¬ S b) (n:¬ S r) (z:D9 W f b r) (B:Bx f x 179 #[iv ((((l.drop a).take m).flatMap (Ab d)).length:Int),.slice (some (ad gg o)) m cc]) (s:W.heap.size<=gg) (g:gg<f.heap.size) (t:gg≠x) (H:a+m<=l.length) (G:0<m) (c:m<=cc/\cc<=9223372036854775807) (C:∀j u,((zs.drop a).take m)[j]?=some u->f.cell? (ad gg (o+j))=some u) :
  AP (λy=>S y\/y=x\/W.heap.size<=y) f (d+1) (.inr ((l.drop a).take m)) (.iface 174 (pt x)):=by
 have q:((l.drop a).take m).length=m:=by rw[UE,List.length_drop];omega
 refine⟨x,gg,o,cc,(zs.drop a).take m,rfl,.inr (.inl rfl),by rw[q];exact B,⟨.inr (.inr s),t⟩,⟨g,by rw[q];exact c⟩,by omega,C,λk h=>?_⟩;rw[q] at h;obtain⟨u,A,E⟩:=D (a+k) (by omega);refine⟨u,by rw[List.getElem?_take,if_pos h,List.getElem?_drop];exact A,?_⟩;rw[List.getElem_take,List.getElem_drop];exact AP.keep z.2.2.2.1 (λy p F=>⟨.inl p,z.2.2.2.2 y F (λe=>v (e ▸ p)) (λe=>n (e ▸ p))⟩) E
theorem DW (d b r g m A B f:Nat) (z y:Option Addr) (x0 y0:Int) (xs E:List Value) (l:List (Ro d)) (S:Nat->Prop) (W:World) (hb:Bx W b 179 #[iv x0,.slice z g A]) (hr:Bx W r 179 #[iv y0,.slice y m B]) (I:b≠r) (h1:Hp W z g xs) (h2:Hp W y m E) (hl:g+m=l.length) (hk:∀k (h:k<l.length),∃u,(xs++E)[k]?=some u/\AP S W d l[k] u) (ae:¬ S b) (aa:¬ S r) (F:(l.flatMap (Ab d)).length<=1099511627776) (a0:f<=g+m) (Z:0<f) (hn:g+m<=1000) :
  UO 137 #[.iface 174 (pt b),.iface 174 (pt r),iv (f:Int)] W λe w'=>e=.returned (.tuple #[])/\D9 W w' b r/\AP (λx=>S x\/x=b\/W.heap.size<=x) w' (d+1) (.inr ((l.drop 0).take f)) (.iface 174 (pt b))/\(f<g+m->AP (λx=>S x\/x=r\/W.heap.size<=x) w' (d+1) (.inr ((l.drop f).take (g+m-f))) (.iface 174 (pt r))):=by
 have C:U ((∀k (h:k<l.length),∃u,(xs++E)[k]?=some u/\AP S W d l[k] u)/\¬ S b/\¬ S r):=⟨hk,ae,aa⟩;have V:=Ae (ai hl F);have ab:=Ae (ai h1 h2);have HX:=Ae (ai hb hr);have p1:=hb.cell 1;have p2:=hr.cell 1;simp at p1 p2;have a3:=hb.lt;have ax:=hr.lt;clear h1 h2 hb hr hk ae aa hl F;have t3:=Ua (pt b);have t4:=TS (pt b);have t5:=Um (pt r);go_enter func137,ntmps137;go_upto_region 8 with fail
 have Q:U (UO 163 #[.slice (some (ad W.heap.size 0)) 2 2] (W.alloc (.cells #[.slice z g A,.slice y m B] 175)).drew λe w'=>∃gg cc,e=.returned (.slice (some (ad gg 0)) (g+m) cc)/\w'.ownsRow (W.alloc (.cells #[.slice z g A,.slice y m B] 175)).drew.heap.size 68 1 (.slice (some (ad gg 0)) (g+m) cc) (g+m) (xs++E)/\Below (W.alloc (.cells #[.slice z g A,.slice y m B] 175)).drew.heap.size (W.alloc (.cells #[.slice z g A,.slice y m B] 175)).drew w'):=by have nb:=(Bx.new W #[.slice z g A,.slice y m B] 175).drew;have ac:Bl W (W.alloc (.cells #[.slice z g A,.slice y m B] 175)).drew:=(Aa W _).drew;exact LA W.heap.size 2 g m A B z y xs E _ ((nb.cell 0).trans (by simp)) ((nb.cell 1).trans (by simp)) (ab.o.1.below ac) (ab.o.2.below ac) (by omega) hn
 have aj:U (∀M,Below (W.alloc (.cells #[.slice z g A,.slice y m B] 175)).drew.heap.size (W.alloc (.cells #[.slice z g A,.slice y m B] 175)).drew M->Bl W M):=λM h=>(Aa W _).drew.trans (h.mono (by show W.heap.size<=(W.alloc _).heap.size;simp));refine Aj (S:=λ_=>True) 22 (by kernel_rfl) trivial (λc=>?_);refine tz 0 rfl ?_;refine tz 1 rfl ?_;refine tz 2 rfl ?_;refine tz 3 rfl ?_;refine tz 4 rfl ?_;refine tz 6 rfl ?_;refine tz 7 rfl ?_;refine tz 8 rfl ?_;refine tz 12 rfl ?_;refine Dr 5 9 rfl rfl (by kernel_rfl) (λK n=>?_) (λK n=>?_);go_simp;refine tL n (by trivial) ?_;clear n K c;intro c;try simp only[Ay]
 refine At 9 rfl (λK n=>?_);go_simp;refine tL n (by trivial) ?_;clear n K c;intro c;try simp only[Ay]
 rotate_left;go_simp;refine tL n (by trivial) ?_;clear n K c;intro c;try simp only[Ay]
 refine At 5 rfl (λK n=>?_);go_simp;refine tL n (by trivial) ?_;clear n K c;intro c;try simp only[Ay]
 all_goals
  refine At 10 rfl (λK n=>?_)
  go_simp
  refine tL n (by trivial) ?_
  clear n K c
  intro c
  try simp only[Ay]
  refine At 11 rfl (λK n=>?_)
  refine Dg (by rfl) 163 53 _ (by rfl) (.slice (some (ad W.heap.size 0)) 2 2) (by rfl) (λ_ _=>by rfl) ?_
  (with_reducible refine Q.o.mono ?_)
  rintro e M ⟨gg,cc,rfl,N,X⟩
  refine⟨_,rfl,?_⟩
  have H2:U (M.ownsRow (W.heap.size+1) 68 1 (.slice (some (ad gg 0)) (g+m) cc) (g+m) (xs++E)/\Bl W M):=⟨by have q:(W.alloc (.cells #[.slice z g A,.slice y m B] 175)).drew.heap.size=W.heap.size+1:=(show (W.alloc (.cells #[.slice z g A,.slice y m B] 175)).heap.size=W.heap.size+1 by simp);rw[q] at N;exact N,aj.o M X⟩
  have ak:=AS H2.o.1
  clear N X
  refine tL n (by trivial) ?_
  clear n K c
  intro c
  try simp only[Ay]
  refine At 13 rfl (λK n=>?_)
  have J:=Ae (PF gg (g+m) cc f M (by omega) ak.1)
  refine GK (by rfl) 162 54 55 _ (by rfl) (.slice (some (ad gg 0)) (g+m) cc) (iv (f:Int)) (by rfl) (by rfl) (λ_ _=>by rfl) ?_
  (with_reducible refine J.o.mono ?_)
  rintro e H ⟨rfl,T⟩
  refine⟨_,rfl,?_⟩
  have D:U (Bx H b 179 #[iv x0,.slice z g A]/\Bx H r 179 #[iv y0,.slice y m B]/\H.ownsRow (W.heap.size+1) 68 1 (.slice (some (ad gg 0)) (g+m) cc) (g+m) (xs++E)/\Bl W H):=by
   subst T
   exact⟨(HX.o.1.below H2.o.2).drew,(HX.o.2.below H2.o.2).drew,Ag H2.o.1 (Up _ _).drew,H2.o.2.drew⟩
  have l1:=D.o.1.cell 1
  have l2:=D.o.2.1.cell 1
  simp at l1 l2
  have aq:=D.o.1.frozen 1
  have am:=D.o.2.1.frozen 1
  have an:=D.o.1.lt
  have al:=D.o.2.1.lt
  clear T J
  refine tL n (by trivial) ?_
  clear n K c
  intro c
  try simp only[Ay]
  refine At 14 rfl (λK n=>?_)
  go_simp
  refine tL n (by trivial) ?_
  clear n K c
  intro c
  try simp only[Ay]
  refine tz 15 rfl ?_
  refine tz 16 rfl ?_
  refine tz 17 rfl ?_
  refine tz 18 rfl ?_
  refine At 19 rfl (λK n=>?_)
  go_simp
  refine tL n (by trivial) ?_
  clear n K c
  intro c
  try simp only[Ay]
  refine At 20 rfl (λK n=>?_)
  go_simp
  refine tL n (by trivial) ?_
  clear n K c
  intro c
  try simp only[Ay]
  refine At 21 rfl (λK n=>?_)
  go_simp
  refine tL n (by trivial) ?_
  clear n K c
  intro c
  try simp only[Ay]
  refine At 22 rfl (λK n=>?_)
  go_simp
  refine tM n ?_
  clear n K
  have R:U (Bx ((H.setCell (ad b 1) (.slice (some (ad gg 0)) f f)).setCell (ad r 1) (.slice (some (ad gg (BG cc f))) (g+m-f) (cc-f))) b 179 #[iv x0,.slice (some (ad gg 0)) f f]/\Bx ((H.setCell (ad b 1) (.slice (some (ad gg 0)) f f)).setCell (ad r 1) (.slice (some (ad gg (BG cc f))) (g+m-f) (cc-f))) r 179 #[iv y0,.slice (some (ad gg (BG cc f))) (g+m-f) (cc-f)]/\D9 H ((H.setCell (ad b 1) (.slice (some (ad gg 0)) f f)).setCell (ad r 1) (.slice (some (ad gg (BG cc f))) (g+m-f) (cc-f))) b r):=by
   refine⟨?_,?_,Ix _ _ _ _ _ _ _⟩
   .have q:=(D.o.1.set 1 (.slice (some (ad gg 0)) f f)).other (p:=(ad r 1)) I (.slice (some (ad gg (BG cc f))) (g+m-f) (cc-f))
    simpa using q
   .have q:=(D.o.2.1.other (p:=(ad b 1)) I.symm (.slice (some (ad gg 0)) f f)).set 1 (.slice (some (ad gg (BG cc f))) (g+m-f) (cc-f))
    simpa using q
  generalize (H.setCell (ad b 1) (.slice (some (ad gg 0)) f f)).setCell (ad r 1) (.slice (some (ad gg (BG cc f))) (g+m-f) (cc-f))=W4 at R ⊢
  clear l1 l2 aq am an al c
  have au:f<=cc:=by omega
  have HF:=Ae ((Ke b r D.o.2.2.2).trans R.o.2.2)
  have ar:=Ah D.o.2.2.1 gg rfl
  have O:U (∀j u,(xs++E)[j]?=some u->W4.cell? (ad gg j)=some u):=by
   intro j u s
   have a5:=(List.getElem?_eq_some_iff.1 s).1
   have hz:=D.o.2.2.1.1
   rw[World.cell?_of_block (a:=(ad gg j)) (R.o.2.2.2.2.2.2 gg ar.2 (by omega) (by omega)),D.o.2.2.1.cellAt j (by omega)]
   exact s
  have Y:U (UO 118 #[pt b] W4 λe w'=>e=.returned (.tuple #[])/\W4.grownBy w' (some b)/\w'.heap.size=W4.heap.size/\Bx w' b 179 #[iv ((((l.drop 0).take f).flatMap (Ab d)).length:Int),.slice (some (ad gg 0)) f f]):=by
   refine EI d b gg 0 f f ((l.drop 0).take f) x0 (((xs++E).drop 0).take f) W4 R.o.1 (by rw[UE,List.length_drop,<- V.o.1];omega) (by omega) ?_ (λj u s=>?_) (by omega) (λk h=>?_)
   .have:=Bk (Ab d) l f
    rw[List.drop_zero]
    have:=V.o.2
    omega
   .rw[List.getElem?_take] at s
    split at s
    .rw[List.getElem?_drop] at s
     exact O.o _ u s
    .cases s
   .rw[UE,List.length_drop] at h
    obtain⟨u,bb,q1,q2,q3,q4⟩:=IN C.o.1 C.o.2.1 C.o.2.2 HF.o k (by omega)
    refine⟨u,bb,by rw[List.getElem?_take,if_pos (by omega),List.getElem?_drop,UI];exact q1,q2.1,?_,q4⟩
    rw[q3,List.getElem_take,List.getElem_drop]
    simp
  go_wp2_with fail
  (with_reducible refine Y.o.mono ?_)
  rintro e w5 ⟨rfl,P,ao,ag⟩
  have t:=Ae (ai P (ai ag (R.o.2.1.grown P (λe=>I (by injection e)))))
  clear P ao ag Y
  have af:U (UO 118 #[pt r] w5 λe w'=>e=.returned (.tuple #[])/\w5.grownBy w' (some r)/\w'.heap.size=w5.heap.size/\Bx w' r 179 #[iv ((((l.drop f).take (g+m-f)).flatMap (Ab d)).length:Int),.slice (some (ad gg (BG cc f))) (g+m-f) (cc-f)]):=by
   refine EI d r gg (BG cc f) (g+m-f) (cc-f) ((l.drop f).take (g+m-f)) y0 (((xs++E).drop f).take (g+m-f)) w5 t.o.2.2 (by rw[UE,List.length_drop,<- V.o.1];omega) (by omega) ?_ (λj u s=>?_) (by omega) (λk h=>?_)
   .have h1:=Bk (Ab d) (l.drop f) (g+m-f)
    have h2:((l.drop f).flatMap (Ab d)).length<=(l.flatMap (Ab d)).length:=by
     conv=>rhs;rw[<- List.take_append_drop f l,List.flatMap_append,Uz]
     omega
    have:=V.o.2
    omega
   .rw[List.getElem?_take] at s
    split at s
    .rw[List.getElem?_drop] at s
     rw[KF (show ¬ cc=f by omega)]
     exact t.o.1.cell (O.o _ u s) (λe=>by injection e with e;have e' : gg=b:=e;omega)
    .cases s
   .rw[UE,List.length_drop] at h
    obtain⟨u,bb,q1,q2,q3,q4⟩:=IN C.o.1 C.o.2.1 C.o.2.2 (HF.o.trans (JN t.o.1)) (f+k) (by omega)
    refine⟨u,bb,by rw[List.getElem?_take,if_pos (by omega),List.getElem?_drop];exact q1,q2.2,?_,q4⟩
    rw[q3,List.getElem_take,List.getElem_drop]
  go_wp2_with fail
  (with_reducible refine af.o.mono ?_)
  rintro e w6 ⟨rfl,G,ap,ah⟩
  have v:=Ae (ai ((HF.o.trans (JN t.o.1)).trans (ME G)) (ai G (ai (t.o.2.1.grown G (λe=>I (by injection e with e;exact e.symm))) ah)))
  clear G ap ah af
  go_wp2
  go_end0
  have hL:=V.o.1
  have az:=HF.o.2.2.2.1
  have ay:=R.o.2.2.2.2.2.1
  have a4:=t.o.1.size
  have aw:=v.o.2.1.size
  have L:∀j u,(xs++E)[j]?=some u->w6.cell? (ad gg j)=some u:=λj u s=>v.o.2.1.cell (t.o.1.cell (O.o j u s) (λe=>by injection e with e;have e' : gg=b:=e;omega)) (λe=>by injection e with e;have e' : gg=r:=e;omega)
  refine⟨rfl,v.o.1,Ha C.o.1 C.o.2.1 C.o.2.2 v.o.1 v.o.2.2.1 (by omega) (by omega) (by omega) (by omega) Z (by omega) (λj u s=>?_),λav=>Ha C.o.1 C.o.2.1 C.o.2.2 v.o.1 v.o.2.2.2 (by omega) (by omega) (by omega) (by omega) (by omega) (by omega) (λj u s=>?_)⟩
  .rw[List.getElem?_take] at s
   split at s
   .rw[List.getElem?_drop] at s
    exact L _ u s
   .cases s
  .rw[List.getElem?_take] at s
   split at s
   .rw[List.getElem?_drop] at s
    rw[KF (show ¬ cc=f by omega)]
    exact L _ u s
   .cases s
def DE (S:Nat->Prop) (w:World) (b:Nat):(d:Nat)->Ro d->Value->Prop
 | 0,_,_=>False
 | d+1,.inl t,v=>v=.iface 204 (pt b)/\∃ka kc,Bx w b 206 #[iv (t.length:Int),.slice ka t.length kc]/\(t.length<=kc/\kc<=9223372036854775807)/\Sb S w ka t.length (λi=>.string (gt t i))
 | d
  + 1,.inr l,v=>v=.iface 174 (pt b)/\∃(g o kc:Nat) (xs:List Value),Bx w b 179 #[iv ((l.flatMap (Ab d)).length:Int),.slice (some (ad g o)) l.length kc]/\S g/\(g<w.heap.size/\l.length<=kc/\kc<=9223372036854775807)/\(0<l.length/\xs.length=l.length)/\(∀j u,xs[j]?=some u->w.cell? (ad g (o+j))=some u)/\
  ∀k (h:k<l.length),∃u,xs[k]?=some u/\AP S w d l[k] u
theorem DE.tao {b:Nat}:∀{d:Nat} {t:Ro d} {v:Value},DE S w b d t v->¬ S b->AP (λx=>S x\/x=b) w d t v
 | 0,_,_,h,_=>h.elim
 | d+1,.inl t,v,h,hb=>by
  obtain⟨rfl,n,c,a,f,y⟩:=h
  exact⟨b,n,c,rfl,.inr rfl,a,f,y.keep (Uq _) (λx a _=>⟨.inl a,rfl⟩)⟩
 | d+1,.inr l,v,h,hb=>by
  obtain⟨rfl,g,o,c,q,a,m,f,p,j,s⟩:=h
  refine⟨b,g,o,c,q,rfl,.inr rfl,a,⟨.inl m,λe=>hb (e ▸ m)⟩,f,p.1,j,λk h=>?_⟩
  obtain⟨u,e,z⟩:=s k h
  exact⟨u,e,z.wide (λx a _=>.inl a)⟩
theorem DE.keep {S S' : Nat->Prop} {w w' : World} {b:Nat} (s:w.heap.size<=w'.heap.size) (q:w'.heap[b]?=w.heap[b]?) (n:∀x,S x->x<w.heap.size->S' x/\w'.heap[x]?=w.heap[x]?):∀{d:Nat} {t:Ro d} {v:Value},DE S w b d t v->DE S' w' b d t v
 | 0,_,_,h=>h
 | d+1,.inl t,v,h=>by
  obtain⟨rfl,y,m,f,c,D⟩:=h
  exact⟨rfl,y,m,f.of_block q,c,D.keep s n⟩
 | d+1,.inr l,v,h=>by
  obtain⟨rfl,g,o,m,B,f,E,c,A,p,C⟩:=h
  obtain⟨H,G⟩:=n g E c.1
  refine⟨rfl,g,o,m,B,f.of_block q,H,⟨by omega,c.2⟩,A,λj u z=>(World.cell?_of_block (a:=(ad g (o+j))) G).trans (p j u z),λk h=>?_⟩
  obtain⟨u,e,F⟩:=C k h
  exact⟨u,e,AP.keep s n F⟩
theorem AP.oneCell:∀{d:Nat} {t:Ro d} {v:Value},AP S w d t v->v.oneCell'=true
 | 0,_,_,h=>h.elim
 | d+1,.inl t,v,h=>by obtain⟨_,_,_,rfl,_⟩:=h;rfl
 | d+1,.inr l,v,h=>by obtain⟨_,_,_,_,_,rfl,_⟩:=h;rfl
def DK (S:Nat->Prop) (w:World) (b d:Nat) (t:Ro (d+1)) (v:Value) (e:Ending) (w' : World):Prop:=
 ∃u,e=.returned u/\D9 w w' b b/\AP (λx=>S x\/x=b\/w.heap.size<=x) w' (d+1) (Bn 0 3 t) v/\AP (λx=>S x\/w.heap.size<=x) w' (d+1) (Bn 3 5 t) u
theorem Nh {w':World} {b r:Nat} {o:Obj} (m:r=w.heap.size) (h:D9 (w.alloc o) w' b r):D9 w w' b b:=by obtain⟨a,c,e,f,l⟩:=h;refine⟨a,c,e,by simp at f;omega,λk j g _=>?_⟩;rw[l k (by simp;omega) g (by omega)];exact (Aa w o).block k j
theorem Kk (d b:Nat) (t:Ro (d+1)) (v:Value) (S:Nat->Prop) (w:World) (h:DE S w b (d+1) t v) (X:¬ S b) (V:∀x,S x->x<w.heap.size) (I:Cn t=5) (E:(Ab (d+1) t).length<=1099511627776) :
  UO 117 #[v] w (DK S w b d t v):=by
 rcases t with L|l
 .obtain⟨rfl,K,F,c,H,Q⟩:=h;have z : L.length=5:=I;have f:Bx (w.alloc (.cells #[iv 0,.slice none 0 0] 206)) b 206 #[iv (L.length:Int),.slice K L.length F]:=c.alloc _;have C:Hp w K L.length (Ap L):=by
   refine⟨AF L,Fb L,?_⟩;rcases Q with q|⟨g,o,rfl,_,T,n⟩;.exact .inl q
   .refine .inr ⟨g,o,rfl,T,λj u D=>?_⟩;have A:=(List.getElem?_eq_some_iff.1 D).1;rw[AF] at A;rw[Bf L j A] at D;injection D with D;subst D;exact n j A
  have y:U (UO 137 #[.iface 204 (pt b),.iface 204 (pt w.heap.size),iv 3] (w.alloc (.cells #[iv 0,.slice none 0 0] 206)) λe w'=>e=.returned (.tuple #[])/\DK S w b d (.inl L) (.iface 204 (pt b)) (.returned (.iface 204 (pt w.heap.size))) w'):=by
   refine (EH d b w.heap.size L.length 0 F 0 3 K none _ 0 L [] (w.alloc (.cells #[iv 0,.slice none 0 0] 206)) f (Bx.new _ _ _) (by have:=c.lt;omega) (C.below (Aa _ _)) ⟨rfl,λu B=>(by cases B),.inl rfl⟩ (by omega) (by omega) (by omega)).mono ?_;rintro e w' ⟨rfl,m,p,s⟩;refine⟨rfl,_,rfl,Nh rfl m,?_,?_⟩
   .rw[List.append_nil] at p;refine AP.wide (show AP _ _ (d+1) (.inl ((L.take 3).drop 0)) _ from by rw[List.drop_zero];exact p) (λx c _=>?_);rcases c with h|h;.exact .inr (.inl h)
    .exact .inr (.inr (by simp at h;omega))
   .rw[List.append_nil] at s;refine AP.wide (show AP _ _ (d+1) (.inl ((L.take 5).drop 3)) _ from by rw[List.take_of_length_le (by omega:L.length<=5)];exact s) (λx c _=>?_);rcases c with h|h;.exact .inr (by omega)
    .exact .inr (by simp at h;omega)
  have t1:=Ub (pt b);clear c H Q f C I z;go_enter func117,ntmps117;go_wp2_with fail
  (with_reducible refine y.o.mono ?_)
  rintro e R ⟨rfl,a⟩;have N:U (DK S w b d (.inl L) (.iface 204 (pt b)) (.returned (.iface 204 (pt w.heap.size))) R):=a;clear a;go_wp2;go_ret;exact N.o
 .obtain⟨rfl,g,o,F,M,c,Z,H,P,n,O⟩:=h;have z : l.length=5:=I;have f:Bx (w.alloc (.cells #[iv 0,.slice none 0 0] 179)) b 179 #[iv ((l.flatMap (Ab d)).length:Int),.slice (some (ad g o)) l.length F]:=c.alloc _;have C:Hp w (some (ad g o)) l.length M:=by refine⟨P.2,λu B=>?_,.inr ⟨g,o,rfl,H.1,n⟩⟩;obtain⟨k,J,e⟩:=List.getElem_of_mem B;obtain⟨Y,m,p⟩:=O k (by omega);rw[Ut J,e] at m;injection m with m;subst m;exact p.oneCell
  have G:∀k (h:k<l.length),∃u,(M++[])[k]?=some u/\AP S (w.alloc (.cells #[iv 0,.slice none 0 0] 179)) d l[k] u:=λk h=>by obtain⟨u,m,p⟩:=O k h;exact⟨u,by rw[List.append_nil];exact m,p.below (Aa _ _)⟩
  have y:U (UO 137 #[.iface 174 (pt b),.iface 174 (pt w.heap.size),iv 3] (w.alloc (.cells #[iv 0,.slice none 0 0] 179)) λe w'=>e=.returned (.tuple #[])/\DK S w b d (.inr l) (.iface 174 (pt b)) (.returned (.iface 174 (pt w.heap.size))) w'):=by
   refine (DW d b w.heap.size l.length 0 F 0 3 (some (ad g o)) none _ 0 M [] l S (w.alloc (.cells #[iv 0,.slice none 0 0] 179)) f (Bx.new _ _ _) (by have:=c.lt;omega) (C.below (Aa _ _)) ⟨rfl,λu B=>(by cases B),.inl rfl⟩ rfl G X (λh=>by have:=V _ h;omega) E (by omega) (by omega) (by omega)).mono ?_;rintro e w' ⟨rfl,m,p,s⟩;replace s:=s (by omega);refine⟨rfl,_,rfl,Nh rfl m,?_,?_⟩
   .refine AP.wide (show AP _ _ (d+1) (.inr ((l.take 3).drop 0)) _ from by rw[List.drop_zero];rw[List.drop_zero] at p;exact p) (λx c _=>?_);rcases c with h|h|h;.exact .inl h
    .exact .inr (.inl h)
    .exact .inr (.inr (by simp at h;omega))
   .refine AP.wide (show AP _ _ (d+1) (.inr ((l.take 5).drop 3)) _ from by rw[List.take_of_length_le (by omega:l.length<=5)];rw[List.take_of_length_le (by rw[List.length_drop];omega)] at s;exact s) (λx c _=>?_);rcases c with h|h|h;.exact .inl h
    .exact .inr (by omega)
    .exact .inr (by simp at h;omega)
  have t3:=Ua (pt b);have t4:=TS (pt b);clear c H f C I z O G n P;go_enter func117,ntmps117;go_wp2_with fail
  (with_reducible refine y.o.mono ?_)
  rintro e R ⟨rfl,a⟩;have N:=Ae a;clear a;go_wp2;go_ret;exact N.o
variable {bs:List Nat}{i:Nat}
def D5:(d:Nat)->Ro d->List (Ro d)
 | 0,_=>[]
 | d+1,t=>Fe t
def Jz (key:ByteArray):(d:Nat)->Ro d->Ro d->Prop
 | 0,_,_=>False
 | d+1,.inl ks,t'=>t'=.inl (Be key ks)
 | d+1,.inr l,t'=>∃i,Cf l key i/\∃(h:i<l.length) (u:Ro d),Jz key d l[i] u/\t'=.inr (l.take i++D5 d u++l.drop (i+1))
theorem Jz.insR {key:ByteArray}:∀{d:Nat} {t u:Ro d},Jz key d t u->Bt key d t (D5 d u)
 | 0,_,_,h=>h.elim
 | d+1,.inl ks,u,h=>by
  have f : u=.inl (Be key ks):=h
  subst f
  rw[Fg]
  rfl
 | d+1,.inr l,u,h=>by
  obtain⟨i,b,c,a,g,e⟩:=h
  subst e
  rw[E9]
  exact⟨i,b,c,D5 d a,Jz.insR g,rfl⟩
theorem Gb {key:ByteArray} {t u:Ro (d+1)} {root:Bool} {h:Nat} (f:Aq (d+1) root t h) (b:Jz key (d+1) t u):Cn u<=5:=by
 rcases t with g|l;.have c : u=.inl (Be key g):=b;subst c;show (Be key g).length<=5;rw[Bw];have:=f.2.1;omega
 .obtain⟨i,p,j,k,m,rfl⟩:=b;obtain⟨o,n,c,_,a⟩:=f;show (l.take i++D5 d k++l.drop (i+1)).length<=5;rw[Uz,Uz,UE,List.length_drop];rcases Bt.bal (a _ (UA j)) m.insR with ⟨y,e,_⟩|⟨y,z,e,_⟩;.rw[e];simp only[UJ,List.length_nil];omega
  .rw[e];simp only[UJ,List.length_nil];omega
theorem Hw {l:List (Ro d)} {key:ByteArray} (n:BI (l.flatMap (Ab d))) (s:∀k (h:k<l.length),0<(Ab d l[k]).length) (h:Cf l key i) (hi:i<l.length):key∈l.flatMap (Ab d)↔key∈Ab d l[i]:=by
 constructor
 .intro b;rw[List.mem_flatMap] at b;obtain⟨t,y,f⟩:=b;obtain⟨j,p,rfl⟩:=List.getElem_of_mem y;unfold BI at n;rw[List.pairwise_flatMap] at n;have u:=List.pairwise_iff_getElem.1 n.2;rcases Nat.lt_trichotomy j i with g|g|g;.have q:=u j i p hi g key f _ (Cu (s i hi));rw[h.2.1 hi (by omega)] at q;cases q
  .subst g;exact f
  .have a:i+1<l.length:=by omega
   have c:=h.2.2 a;by_cases e:j=i+1
   .subst e;obtain⟨m,b,x⟩:=List.getElem_of_mem f;have o:gt (Ab d l[i+1]) m=key:=by unfold gt;rw[Uw,Ut b];exact x
    by_cases z:m=0;.subst z;rw[o,A4] at c;cases c
    .have v:=D4 (n.1 _ (UA a)) (show 0<m by omega) b;rw[o] at v;rw[CV v] at c;cases c
   .have q:=u (i+1) j a p (by omega) _ (Cu (s _ a)) key f;rw[CV q] at c;cases c
 .intro b;exact List.mem_flatMap.2 ⟨_,UA hi,b⟩
def Ct (S:Nat->Prop) (w:World) (d:Nat) (ts:List (Ro d)) (us:List Value):Prop:=
 us.length=ts.length/\∀k (h:k<ts.length),∃u,us[k]?=some u/\AP S w d ts[k] u
section
variable {S S' : Nat->Prop} {w w' : World} {d:Nat}
theorem Ct.keep {ts:List (Ro d)} {a:List Value} (h:Ct S w d ts a) (c:w.heap.size<=w'.heap.size) (f:∀b,S b->b<w.heap.size->S' b/\w'.heap[b]?=w.heap[b]?):Ct S' w' d ts a:=
 ⟨h.1,λk g=>by obtain⟨u,e,q⟩:=h.2 k g;exact⟨u,e,AP.keep c f q⟩⟩
theorem Ct.app {ts a : List (Ro d)} {g b:List Value} (h:Ct S w d ts g) (f : Ct S w d a b):Ct S w d (ts++a) (g++b):=by
 refine⟨by rw[Uz,Uz,h.1,f.1],λk j=>?_⟩;by_cases e:k<ts.length;.obtain⟨u,c,q⟩:=h.2 k e;exact⟨u,by rw[List.getElem?_append_left (by rw[h.1];exact e)];exact c,by rw[List.getElem_append_left e];exact q⟩
 .rw[Uz] at j;obtain⟨u,c,q⟩:=f.2 (k-ts.length) (by omega);exact⟨u,by rw[List.getElem?_append_right (by rw[h.1];omega),h.1];exact c,by rw[List.getElem_append_right (by omega)];exact q⟩
theorem Ct.one {t:Ro d} {u:Value} (h:AP S w d t u):Ct S w d [t] [u]:=
 ⟨rfl,λk a=>by
  have e:k=0:=by simp at a;omega
  subst e
  exact⟨u,rfl,h⟩⟩
end
theorem IP {a:List (List Nat)} (h:a.flatten.Nodup) {k:Nat} {l n:List Nat} (hi:a[i]?=some l) (p:a[k]?=some n) (c:k≠i) {x:Nat} (g:x∈n):x∉l:=by
 unfold List.Nodup at h;rw[List.pairwise_flatten] at h;have o:=List.pairwise_iff_getElem.1 h.2;obtain⟨m,j⟩:=List.getElem?_eq_some_iff.1 hi;obtain⟨e,f⟩:=List.getElem?_eq_some_iff.1 p;intro b;rcases Nat.lt_or_gt_of_ne c with q|q;.exact o k i e m q x (by rw[f];exact g) x (by rw[j];exact b) rfl
 .exact o i k m e q x (by rw[j];exact b) x (by rw[f];exact g) rfl
def Fz (bs:List Nat) (w w' : World):Prop:=w'.os=w.os/\w'.tape=w.tape/\w'.output=w.output/\w.heap.size<=w'.heap.size/\∀k,k<w.heap.size->k∉bs->w'.heap[k]?=w.heap[k]?
theorem Fz.trans {bs:List Nat} {w c w2:World} (h:Fz bs w c) (k:Fz bs c w2):Fz bs w w2:=
 ⟨k.1.trans h.1,k.2.1.trans h.2.1,k.2.2.1.trans h.2.2.1,Uy h.2.2.2.1 k.2.2.2.1,λi a b=>(k.2.2.2.2 i (UB a h.2.2.2.1) b).trans (h.2.2.2.2 i a b)⟩
theorem Fz.mono {a:List Nat} (h:Fz bs w w') (c:∀x,x∈bs->x∈a):Fz a w w':=⟨h.1,h.2.1,h.2.2.1,h.2.2.2.1,λi b e=>h.2.2.2.2 i b (λq=>e (c i q))⟩
def Lc (v:Value) (key:ByteArray) (w:World) (Q:Ending->World->Prop):Prop:=
 (∃b,v=.iface 204 (pt b)/\UO 204 #[pt b,.string key] w Q)\/
 (∃b,v=.iface 174 (pt b)/\UO 187 #[pt b,.string key] w Q)
def Hq (key:ByteArray) (d:Nat) (t:Ro d) (v:Value) (bs:List Nat) (w:World) (e:Ending) (w' : World):Prop:=
 (key∈Ab d t/\e=.returned (.bool false)/\Bl w w')\/
 (key∉Ab d t/\e=.returned (.bool true)/\Fz bs w w'/\∃u b,b∈bs/\Jz key d t u/\DE (λx=>(x∈bs/\x≠b)\/w.heap.size<=x) w' b d u v)
theorem O9 (key:ByteArray) (d B:Nat) (L:List ByteArray) (v:Value) (bs:List Nat) (w:World) (h:CG B w (d+1) (.inl L) v bs) (m:L.length<=4) (J:BI L) (G:B<=w.heap.size) (N:bs.Nodup):Lc v key w (Hq key (d+1) (.inl L) v bs w):=by
 obtain⟨b,o,E,rfl,y,F,D,rfl⟩:=h;refine .inl ⟨b,rfl,(Lz B b L.length E o L key w F D rfl (by omega) J G).mono ?_⟩;rintro e w' (⟨l,rfl,rfl⟩|⟨l,rfl,a,K,x,f,c,j⟩);.exact .inl ⟨l,rfl,Up _ _⟩
 .refine .inr ⟨l,rfl,⟨a.1,a.2.1,a.2.2.1,a.2.2.2.1,λk H m=>a.2.2.2.2 k H (λe=>m (by rw[e];simp)) (λe=>m (by
   cases o with
   | none=>cases e
   | some p=>injection e with e;simp[<- e]))⟩,.inl (Be key L),b,by simp,rfl,rfl,K,x,f,AS c,?_⟩
  rcases c.2 with ⟨q,A⟩|⟨g,z,u,n,O,t,Q⟩;.exact .inl A
  .injection n with n _ s;subst n s;refine .inr ⟨g,0,rfl,?_,(Ah c g rfl).2,λi I=>?_⟩
   .rcases j with e|⟨P,e,M⟩;.refine .inl ⟨by rw[<- e];simp,λC=>?_⟩;subst C;have q:=f;unfold Bx at q;rw[t] at q;injection q with q;injection q with _ q _;exact absurd q (by decide)
    .injection e with e;injection e with e;subst e;exact .inr (by omega)
   .rw[UI,c.cellAt i (by omega),Bf _ i I]
theorem Jq (d b r c f n s g:Nat) (m h:Option Addr) (t q:Int) (l k:List ByteArray) (W:World) (A:Bx W b 206 #[iv t,.slice m c n]) (B:Bx W r 206 #[iv q,.slice h f s]) (j:b≠r) (u:Hp W m c (Ap l)) (p:Hp W h f (Ap k)) (v:g=c+f) (a:0<g) (D:c+f<=1000) :
  UO 137 #[.iface 204 (pt b),.iface 204 (pt r),iv (g:Int)] W λe w'=>e=.returned (.tuple #[])/\D9 W w' b r/\AP (λx=>x=b\/W.heap.size<=x) w' (d+1) (.inl (l++k)) (.iface 204 (pt b)):=by have E:=u.1;have y:=p.1;rw[AF] at E y;refine (EH d b r c f n s g m h t q l k W A B j u p (by omega) a D).mono ?_;rintro e w' ⟨C,z,o,_⟩;rw[List.take_of_length_le (by rw[Uz];omega)] at o;exact⟨C,z,o⟩
theorem Io (d b r c f t y j:Nat) (s o:Option Addr) (z v:Int) (xs m:List Value) (l:List (Ro d)) (S:Nat->Prop) (W:World) (F:Bx W b 179 #[iv z,.slice s c t]) (G:Bx W r 179 #[iv v,.slice o f y]) (q:b≠r) (J:Hp W s c xs) (D:Hp W o f m) (A:c+f=l.length) (H:∀k (h:k<l.length),∃u,(xs++m)[k]?=some u/\AP S W d l[k] u) (p:¬ S b) (n:¬ S r) (a:(l.flatMap (Ab d)).length<=1099511627776) (B:j=c+f) (g:0<j) (K:c+f<=1000) :
  UO 137 #[.iface 174 (pt b),.iface 174 (pt r),iv (j:Int)] W λe w'=>e=.returned (.tuple #[])/\D9 W w' b r/\AP (λx=>S x\/x=b\/W.heap.size<=x) w' (d+1) (.inr ((l.drop 0).take j)) (.iface 174 (pt b)):=by refine (DW d b r c f t y j s o z v xs m l S W F G q J D A H p n a (by omega) g K).mono ?_;rintro e w' ⟨I,E,C,_⟩;exact⟨I,E,C⟩
end Go.Proofs.YtcnollkkigiobaaGreat
