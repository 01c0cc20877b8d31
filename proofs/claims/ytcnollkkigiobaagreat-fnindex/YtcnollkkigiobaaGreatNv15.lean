import Derived.Test.YtcnollkkigiobaaGreatNv14
set_option linter.unusedVariables false
set_option linter.unusedSimpArgs false
set_option maxRecDepth 100000
set_option maxHeartbeats 90000000
namespace Go.Proofs.YtcnollkkigiobaaGreat
open Go Go.Deep Go.RowKit Go.Proofs.Tryz
theorem Er.weak {S S' : Nat->Prop} {w f w' : World} {d:Nat} {ts:List (Ro d)} {e:Ending} (h:Er S' f d ts e w') (i:Bl w f) (m:∀b,S' b->S b\/w.heap.size<=b):Er S w d ts e w':=by
 obtain⟨r,g,c,p,k,y,u,x,j,l⟩:=h;have s:=i.size;refine⟨i.trans (r.mono s),g,c,p,k,by omega,u,x,j,l.mono (λt v q=>q.wide (λb a _=>?_))⟩;rcases a with a|a;.exact m b a
 .exact Or.inr (by omega)
theorem Pr (d:Nat) (L:List ByteArray) (v:Value) (key:ByteArray) (S:Nat->Prop) (w:World) (hv:NG S w (d+1) (.inl L) v) (ha:BI L) (hL:L.length<=4) :
  UO 79 #[v,.string key] w (Er S w (d+1) (Fe (.inl (Be key L)))):=by
 obtain⟨J,y,ca,cc,rfl,ag,⟨F,a0⟩,av⟩:=hv;obtain⟨n,hn⟩:∃n,n=L.length:=⟨_,rfl⟩;rw[<- hn] at ag F hL ⊢;have af:U (Cg w J n (gt L)):=ag;have r:U (n=L.length):=hn;have HA:U (BI L):=ha;have aq:U (∀O1:Obj,((w.alloc O1).alloc (.cells #[] 9)).ownsRow (w.heap.size+1) 9 1 (.slice (some (ad (w.heap.size+1) 0)) 0 0) 0 []):=λO1=>by simpa using Aw (w.alloc O1) 9 (w.heap.size+1) 1 (by simp)
 have ap:U (∀O1 O2:Obj,Bl w ((w.alloc O1).alloc O2)):=λ_ _=>(Aa _ _).alloc (by simp) _;obtain⟨i9,ay,aw,ax,ar⟩:=info_parts info9;have I:U (prog.info? 9=some i9/\i9.zero=some (.string { data:=#[] })/\i9.size=1/\i9.bytes=16):=⟨ay,aw,ax,ar⟩;clear ag hn ha av ay aw ax ar;go_enter func79,ntmps79;go_wp2;go_loopw [5,6] (λq i wr=>∃(k:Nat) (a:Option Addr) (c:Nat),k<=n/\i=iv k/\q=.slice a k c/\wr.ownsRow (w.heap.size+1) 9 1 (.slice a k c) k (Ap (L.take k))/\Bx wr w.heap.size 91 #[.bool true,.slice J n y,.slice ca 0 cc]/\Bl w wr/\(∀j,j<k->Op.bytesLess (gt L j).toList key.toList=true)) (λ_ i _=>n-(intOf i).toNat)
 case atStart=>exact⟨0,_,0,Us _,rfl,rfl,aq.o _,(Bx.new w #[.bool true,.slice J n y,.slice ca 0 cc] 91).alloc _,ap.o _ _,λj hj=>absurd hj (Uu _)⟩
 case round=>
  obtain⟨k,a,c,hk,rfl,rfl,h1,h2,h3,h4⟩:=hrel;have s:U (wr.ownsRow (w.heap.size+1) 9 1 (.slice a k c) k (Ap (L.take k))/\Bx wr w.heap.size 91 #[.bool true,.slice J n y,.slice ca 0 cc]/\Bl w wr/\(∀j,j<k->Op.bytesLess (gt L j).toList key.toList=true)):=⟨h1,h2,h3,h4⟩;have x1:=h2.cell 1;simp at x1;have xz:=h2.lt;clear h1 h2 h3 h4 aq ap;by_cases au:k<n
  .obtain⟨b,o,rfl,hc⟩:=(af.o.below s.o.2.2.1:Cg wr J n (gt L)).resolve_left (by omega);have s0:=hc k au;have i0:(0:Int)<=(k:Int):=by omega
   have i1:(k:Int)<(n:Int):=by omega
   have a1:decide ((k:Int)<(n:Int))=true:=decide_eq_true i1;clear hc;cases hcmp:Op.bytesLess (gt L k).toList key.toList with
   | true=>
    have Z:U ((wr.alloc (.cells #[.string (gt L k)] 9)).ownsRow (w.heap.size+1) 9 1 (.slice a k c) k (Ap (L.take k))):=Ag s.o.1 (Aa _ _);have z2:=s.o.2.2.1.size;go_wp2_with (at_builtin;refine wpList_append_own_at _ rfl _ _ 88 rfl (w.heap.size+1) 9 i9 _ 1 16 underlying88 I.o.1 I.o.2.1 I.o.2.2.1 I.o.2.2.2 rfl (by decide) (.slice a k c) k _ rfl Z.o (ad wr.heap.size 0) 1 1 [.string (gt L k)] rfl rfl (cell_one_new _ _ _) (by intro u Y;simp at Y;subst Y;rfl) (by unfold maxLen;omega) (by omega) (by simp;omega) ?_)
    intro v2 C t p _ z;obtain⟨a2,c2,rfl,_⟩:=Af t;have HX:U (C.ownsRow (w.heap.size+1) 9 1 (.slice a2 (k+1) c2) (k+1) (Ap (L.take (k+1)))/\Bx C w.heap.size 91 #[.bool true,.slice (some (ad b o)) n y,.slice ca 0 cc]/\Bl w C/\(∀j,j<k+1->Op.bytesLess (gt L j).toList key.toList=true)):=by
     have f:=s.o;have A:∀g,(Value.slice a k c).ownBlock=some g->w.heap.size+1<=g:=λg e=>(Ah f.1 g e).1;have O:Bl w (wr.alloc (.cells #[.string (gt L k)] 9)):=f.2.2.1.alloc f.2.2.1.size _;have ao:k<L.length:=by rw[<- r.o];exact au
     have e1:L.take (k+1)=L.take k++[gt L k]:=by rw[List.take_add_one,Ut ao];unfold gt;rw[Uw,Ut ao];rfl
     refine⟨by rw[e1,Bv];exact t,(f.2.1.alloc _).grown p (λe=>by have:=A _ e;omega),O.grown p (by simp;omega) (λg e=>by have:=A g e;omega),λj hj=>?_⟩;by_cases e:j=k;.subst e;exact hcmp
     .exact f.2.2.2 j (by omega)
    clear t p z Z s0 x1;go_wp2;go_roundw;case rel=>exact⟨k+1,a2,c2,by omega,by go_num,rfl,HX.o⟩
    case measure=>simp[intOf];omega
   | false=>
    have HC:U (Bs key L=k):=by
     refine Hu (by rw[<- r.o];exact hk) s.o.2.2.2 (λj h1 h2=>?_);by_cases e:j=k;.subst e;exact hcmp
     .have q:=D4 HA.o (show k<j by omega) h2;cases hx:Op.bytesLess (gt L j).toList key.toList with
      | false=>rfl
      | true=>rw[AY _ _ _ q hx] at hcmp;cases hcmp
    have aj:U (Be key L=L.take k++key::L.drop k):=by show _=_;unfold Be;rw[HC.o]
    have f:=s.o;obtain⟨K,H⟩:∃K:Option Addr,K=(if y=k then some (ad b o) else (some (ad b o):Option Addr).map λx=>x.add k):=⟨_,rfl⟩;have ae:∀W:World,(Instr.sliceAt 88 (.slice (some (ad b o)) n y) (some (iv (k:Int))) none none).run prog W=.ok (.slice K (n-k) (y-k)) W:=λW=>by rw[H];exact R5 (some (ad b o)) n y k hk F W
    have ak:U (K=(if y=k then some (ad b o) else (some (ad b o):Option Addr).map λx=>x.add k)):=H;clear H;have Z:U ((wr.alloc (.cells #[.string key] 9)).ownsRow (w.heap.size+1) 9 1 (.slice a k c) k (Ap (L.take k))):=Ag f.1 (Aa _ _);have z2:=f.2.2.1.size;have P:=f.2.1.cell 1;simp at P;have G:=f.2.1.lt;clear f;go_wp2_with (at_builtin;refine wpList_append_own_at _ rfl _ _ 88 rfl (w.heap.size+1) 9 i9 _ 1 16 underlying88 I.o.1 I.o.2.1 I.o.2.2.1 I.o.2.2.2 rfl (by decide) (.slice a k c) k _ rfl Z.o (ad wr.heap.size 0) 1 1 [.string key] rfl rfl (cell_one_new _ _ _) (by intro u Y;simp at Y;subst Y;rfl) (by unfold maxLen;omega) (by omega) (by simp;omega) ?_)
    intro v2 C t p _ z;have h:U (C.ownsRow (w.heap.size+1) 9 1 v2 (k+1) (Ap (L.take k++[key]))/\Bx C w.heap.size 91 #[.bool true,.slice (some (ad b o)) n y,.slice ca 0 cc]/\Bl w C/\w.heap.size+1<=C.heap.size):=by have f:=s.o;have A:∀g,(Value.slice a k c).ownBlock=some g->w.heap.size+1<=g:=λg e=>(Ah f.1 g e).1;have O:Bl w (wr.alloc (.cells #[.string key] 9)):=f.2.2.1.alloc f.2.2.1.size _;refine⟨by rw[Bv];exact t,(f.2.1.alloc _).grown p (λe=>by have:=A _ e;omega),O.grown p (by simp;omega) (λg e=>by have:=A g e;omega),?_⟩;have:=p.size;simp at this;omega
    clear t p z Z I P G;obtain⟨a2,c2,rfl,_⟩:=Af h.o.1;have P:=h.o.2.1.cell 1;simp at P;have G:=h.o.2.1.lt;have m:U (Cg C K (n-k) (gt (L.drop k))/\n-k=(L.drop k).length):=by
     refine⟨?_,by rw[List.length_drop,<- r.o]⟩;rw[ak.o];rcases (af.o.below h.o.2.2.1:Cg C (some (ad b o)) n (gt L)) with q|⟨b',o',eb,hc⟩;.exact Or.inl (by omega)
     .by_cases e:n=k;.exact Or.inl (by omega)
      .injection eb with eb;injection eb with az a4;subst az a4;refine Or.inr ⟨b,o+k,by rw[if_neg (by omega)];simp[BN],λi hi=>?_⟩;have:=hc (k+i) (by omega);rw[show o+k+i=o+(k+i) by omega,this];congr 2;unfold gt;rw[Uw,Uw,List.getElem?_drop]
    go_wp2_with (at_builtin;refine AX rfl _ _ rfl (w.heap.size+1) (.slice a2 (k+1) c2) (k+1) _ rfl h.o.1 K (n-k) (y-k) (L.drop k) rfl m.o.2 m.o.1 (by omega) (by have:=h.o.2.2.2;omega) ?_)
    intro v3 T D M R;have l:k+1+(n-k)=(Be key L).length:=by rw[Bw,<- r.o];omega
    rw[<- Bv,show L.take k++[key]++L.drop k=Be key L by rw[aj.o];simp] at D;obtain⟨a3,c3,rfl,X,ab,an⟩:=BW D l;have ah:U (Bl w T):=h.o.2.2.1.grown M (by have:=h.o.2.2.2;omega) (λg e=>by have:=(Ah h.o.1 g e).1;omega);have N:U (NG (λb=>w.heap.size<=b) T (d+1) (.inl (Be key L)) (.agg #[.bool true,.slice a3 (k+1+(n-k)) c3,.slice none 0 0])):=⟨a3,c3,none,0,by rw[l],(Kj X ⟨by rw[<- l];exact ab,an⟩ (λb hb=>by omega))⟩;have am:U ((Be key L).length<=5):=by show _<=_;rw[Bw,<- r.o];omega
    have ac:U (UO 114 #[.agg #[.bool true,.slice a3 (Be key L).length c3,.slice none 0 0]] T (Er (λb=>w.heap.size<=b) T (d+1) (Fe (.inl (Be key L))))):=GY d (.inl (Be key L)) _ (λb=>w.heap.size<=b) T (by rw[l] at N;exact N.o) am.o;clear D M R X h m P G ae;go_wp2_with fail
    (with_reducible refine ac.o.mono ?_)
    intro e w4 hr;have V:U (Er S w (d+1) (Fe (.inl (Be key L))) e w4):=hr.weak ah.o (λb hb=>Or.inr hb);clear hr;obtain⟨aa,g4,c4,a5,rfl,al⟩:=V.o;clear aa al;go_wp2;go_ret;exact V.o
  .have i1:¬ (k:Int)<(n:Int):=by omega
   have a1:decide ((k:Int)<(n:Int))=false:=decide_eq_false i1;have HC:U (Bs key L=k):=Hu (by rw[<- r.o];exact hk) s.o.2.2.2 (λj h1 h2=>absurd h2 (by rw[<- r.o];omega));have aj:U (Be key L=L.take k++key::L.drop k):=by show _=_;unfold Be;rw[HC.o]
   have f:=s.o;obtain⟨K,H⟩:∃K:Option Addr,K=(if y=k then J else J.map λx=>x.add k):=⟨_,rfl⟩;have ae:∀W:World,(Instr.sliceAt 88 (.slice J n y) (some (iv (k:Int))) none none).run prog W=.ok (.slice K (n-k) (y-k)) W:=λW=>by rw[H];exact R5 J n y k hk F W
   have ak:U (K=(if y=k then J else J.map λx=>x.add k)):=H;clear H;have Z:U ((wr.alloc (.cells #[.string key] 9)).ownsRow (w.heap.size+1) 9 1 (.slice a k c) k (Ap (L.take k))):=Ag f.1 (Aa _ _);have z2:=f.2.2.1.size;have P:=f.2.1.cell 1;simp at P;have G:=f.2.1.lt;clear f;go_wp2_with (at_builtin;refine wpList_append_own_at _ rfl _ _ 88 rfl (w.heap.size+1) 9 i9 _ 1 16 underlying88 I.o.1 I.o.2.1 I.o.2.2.1 I.o.2.2.2 rfl (by decide) (.slice a k c) k _ rfl Z.o (ad wr.heap.size 0) 1 1 [.string key] rfl rfl (cell_one_new _ _ _) (by intro u Y;simp at Y;subst Y;rfl) (by unfold maxLen;omega) (by omega) (by simp;omega) ?_)
   intro v2 C t p _ z;have h:U (C.ownsRow (w.heap.size+1) 9 1 v2 (k+1) (Ap (L.take k++[key]))/\Bx C w.heap.size 91 #[.bool true,.slice J n y,.slice ca 0 cc]/\Bl w C/\w.heap.size+1<=C.heap.size):=by have f:=s.o;have A:∀g,(Value.slice a k c).ownBlock=some g->w.heap.size+1<=g:=λg e=>(Ah f.1 g e).1;have O:Bl w (wr.alloc (.cells #[.string key] 9)):=f.2.2.1.alloc f.2.2.1.size _;refine⟨by rw[Bv];exact t,(f.2.1.alloc _).grown p (λe=>by have:=A _ e;omega),O.grown p (by simp;omega) (λg e=>by have:=A g e;omega),?_⟩;have:=p.size;simp at this;omega
   clear t p z Z I P G;obtain⟨a2,c2,rfl,_⟩:=Af h.o.1;have P:=h.o.2.1.cell 1;simp at P;have G:=h.o.2.1.lt;have m:U (Cg C K (n-k) (gt (L.drop k))/\n-k=(L.drop k).length):=by
    refine⟨?_,by rw[List.length_drop,<- r.o]⟩;rw[ak.o];rcases (af.o.below h.o.2.2.1:Cg C J n (gt L)) with q|⟨b,o,rfl,hc⟩;.exact Or.inl (by omega)
    .by_cases e:n=k;.exact Or.inl (by omega)
     .refine Or.inr ⟨b,o+k,by rw[if_neg (by omega)];simp[BN],λi hi=>?_⟩;have:=hc (k+i) (by omega);rw[show o+k+i=o+(k+i) by omega,this];congr 2;unfold gt;rw[Uw,Uw,List.getElem?_drop]
   go_wp2_with (at_builtin;refine AX rfl _ _ rfl (w.heap.size+1) (.slice a2 (k+1) c2) (k+1) _ rfl h.o.1 K (n-k) (y-k) (L.drop k) rfl m.o.2 m.o.1 (by omega) (by have:=h.o.2.2.2;omega) ?_)
   intro v3 T D M R;have l:k+1+(n-k)=(Be key L).length:=by rw[Bw,<- r.o];omega
   rw[<- Bv,show L.take k++[key]++L.drop k=Be key L by rw[aj.o];simp] at D;obtain⟨a3,c3,rfl,X,ab,an⟩:=BW D l;have ah:U (Bl w T):=h.o.2.2.1.grown M (by have:=h.o.2.2.2;omega) (λg e=>by have:=(Ah h.o.1 g e).1;omega);have N:U (NG (λb=>w.heap.size<=b) T (d+1) (.inl (Be key L)) (.agg #[.bool true,.slice a3 (k+1+(n-k)) c3,.slice none 0 0])):=⟨a3,c3,none,0,by rw[l],(Kj X ⟨by rw[<- l];exact ab,an⟩ (λb hb=>by omega))⟩;have am:U ((Be key L).length<=5):=by show _<=_;rw[Bw,<- r.o];omega
   have ac:U (UO 114 #[.agg #[.bool true,.slice a3 (Be key L).length c3,.slice none 0 0]] T (Er (λb=>w.heap.size<=b) T (d+1) (Fe (.inl (Be key L))))):=GY d (.inl (Be key L)) _ (λb=>w.heap.size<=b) T (by rw[l] at N;exact N.o) am.o;clear D M R X h m P G ae;go_wp2_with fail
   (with_reducible refine ac.o.mono ?_)
   intro e w4 hr;have V:U (Er S w (d+1) (Fe (.inl (Be key L))) e w4):=hr.weak ah.o (λb hb=>Or.inr hb);clear hr;obtain⟨aa,g4,c4,a5,rfl,al⟩:=V.o;clear aa al;go_wp2;go_ret;exact V.o
theorem KP {w w' : World} {i v' : Value} {S:Nat->Prop} {d:Nat} {ts:List (Ro d)} {xs:List Value} (h:AN (λt v=>NG S w d t v) ts xs) (l:∀b,S b->b<w.heap.size->i.ownBlock≠some b) (m:w.grownBy w' i.ownBlock) (f:v'.ownBlock=i.ownBlock\/v'.ownBlock=some w.heap.size) :
  AN (λt v=>NG (λb=>S b/\v'.ownBlock≠some b) w' d t v) ts xs:=by
 refine h.mono (λt v q=>q.keep m.size (λb j a=>⟨⟨j,?_⟩,m.block b a (λe=>l b j a e.symm)⟩));rcases f with e|e;.rw[e];exact l b j a
 .rw[e];intro k;injection k with k;omega
theorem Lm (sz b o lo c n:Nat) (h:n<=c) (e:lo<=n):∃a,OX sz b o lo c=some (ad b a)/\(lo<n->a=o+lo*sz):=by
 unfold OX;split;.exact⟨o,rfl,λh=>by omega⟩
 .exact⟨_,rfl,λ_=>rfl⟩
theorem Nf (key:ByteArray):∀(d:Nat) (t:Ro d) (v:Value) (ap:Bool) (h:Nat) (S:Nat->Prop) (w:World),NG S w d t v->Aq d ap t h->BI (Ab d t)->Ac d t<=5000->(Ab d t).length<=1099511627776->
  UO 79 #[v,.string key] w (λe w'=>∃f,Bt key d t f/\Er S w d f e w'):=by
 intro d;induction d with
 | zero=>intro t;exact t.elim
 | succ d ih=>
  intro t v ap h S w hv aj Y an O;rcases t with L|l;.refine (Pr d L v key S w hv Y (by obtain⟨_,q,_⟩:=aj;exact q)).mono (λe w' hr=>⟨_,rfl,hr⟩)
  .obtain⟨b2,b4,h',rfl,C⟩:=aj;have K : BI (l.flatMap (Ab d)):=Y;have a8:U (∀(i:Nat) (hi:i<l.length) (v:Value) (S:Nat->Prop) (w:World),NG S w d l[i] v->UO 79 #[v,.string key] w (λe w'=>∃f,(Bt key d l[i] f/\(f.length=1\/f.length=2))/\Er S w d f e w')):=by
    intro i hi v S w hv;refine (ih l[i] v false h' S w hv (C _ (UA hi)) (Ca K i hi) (by have:=EM d l i hi;omega) ?_).mono (λe w' hr=>?_)
    .have:(Ab d l[i]).length<=(l.flatMap (Ab d)).length:=by exact Bo d l i hi
     have h3:(l.flatMap (Ab d)).length<=1099511627776:=O;omega
    .obtain⟨f,q1,q2⟩:=hr;refine⟨f,⟨q1,?_⟩,q2⟩;rcases Bt.bal (C _ (UA hi)) q1 with ⟨y,e,_⟩|⟨y,z,e,_⟩;.exact Or.inl (by rw[e];rfl)
     .exact Or.inr (by rw[e];rfl)
   have av:U (∀W,Bl w W->UO 115 #[v,.string key] W λe w'=>∃i:Nat,e=.returned (iv (i:Int))/\Cf l key i/\Bl W w'):=λW hW=>JH d l v key W (hv.below hW).na (λk hk=>CJ (C _ (UA hk))) an (λk hk=>by
    have:(Ab d l[k]).length<=(l.flatMap (Ab d)).length:=by exact Bo d l k hk
    have h3:(l.flatMap (Ab d)).length<=1099511627776:=O;omega)
   obtain⟨ka,kc,b,cc,I,rfl,⟨x,D⟩,hb,Z,hx,hk⟩:=hv;obtain⟨n,hn⟩:=gn l.length;have au:=Ae hn;have F:=Ae (ai hx hk);have bo:U (I.length=n*3):=by have:=hk.len;rw[<- hn] at this;exact this
   have ci:=Ae x;rw[<- hn] at D Z b2 b4 av ⊢;obtain⟨i0,bc,a9,bb,ag⟩:=info_parts info91;have G:=Ae (ai bc (ai a9 (ai bb ag)));clear ih Y K an O C hn hx hk x bc a9 bb ag;go_enter func79,ntmps79;go_wp2_with fail
   (with_reducible refine (av.o _ (Aa _ _)).mono ?_)
   rintro e H ⟨i,rfl,N,a1⟩;have HK:=Ae N;have ar:i<n:=by rw[au.o];exact N.1
   have ac:=(Bx.new w #[.bool false,.slice ka 0 kc,.slice (some (ad b 0)) n cc] 91).below a1;have m:=Ae ((Aa _ _).trans (a1.mono (by simp)));have ao:=Ae ac;have x2:=ac.cell 2;simp at x2;have xz:=ac.lt;have a4:=λW=>RU b 0 n cc i (by omega) D.1 W;have HO:=Ae (Aw H 91 H.heap.size 3 (Uq _));have J:U ((I.take (i*3)).length=i*3/\(∀j u,(I.take (i*3))[j]?=some u->(H.alloc (.cells #[] 91)).cell? (ad b j)=some u)/\AN (λt v=>NG S w d t v) (l.take i) (I.take (i*3))):=by
    refine⟨by rw[UE,bo.o];omega,λj u A=>?_,AN.take i F.o.2⟩;rw[List.getElem?_take] at A;split at A;.exact ((m.o.alloc m.o.size _).cell (p:=(ad b j)) hb).trans (F.o.1 j u A)
    .cases A
   clear ac a1 N av;go_wp2_with (at_builtin;refine wpList_append_own_at _ rfl _ _ 89 rfl H.heap.size 91 i0 _ 3 56 underlying89 G.o.1 G.o.2.1 G.o.2.2.1 G.o.2.2.2 rfl (by decide) (.slice (some (ad H.heap.size 0)) 0 0) 0 [] rfl HO.o (ad b 0) i cc _ rfl J.o.1 (λj u A=>by rw[BN,UI];exact J.o.2.1 j u A) (J.o.2.2.cells NG.one) (by unfold maxLen;omega) (by omega) (by simp) ?_)
   intro v3 w3 aa a0 _ bi;obtain⟨a3,c3,rfl,_⟩:=Af aa;have s:U (w3.ownsRow H.heap.size 91 3 (.slice a3 i c3) i (I.take (i*3))/\Bl H w3/\H.heap.size+1<=w3.heap.size/\(∀g,(Value.slice a3 i c3).ownBlock=some g->H.heap.size<=g/\g<w3.heap.size)):=
    ⟨aa,(Aa _ _).grown a0 (by simp) (λg e=>by simp[Value.ownBlock] at e;omega),by have:=a0.size;simpa using this,Ah aa⟩
   have af:=Ae (m.o.trans (s.o.2.1.mono m.o.size));have X:=Ae (ao.o.below s.o.2.1);clear aa a0 bi HO x2 a4;have x2:=X.o.cell 2;simp at x2;have ay:i<l.length:=by rw[<- au.o];exact ar
   obtain⟨cg,cl,cp,b6,cj,ck,cb,y0,y1,y2,bp⟩:=E3 F.o.1 F.o.2 i ay;have z0:=(af.o.cell (p:=(ad b (i*3))) hb).trans y0;have z1:=(af.o.cell (p:=(ad b (i*3+1))) hb).trans y1;have z2:=(af.o.cell (p:=(ad b (i*3+2))) hb).trans y2;have R:=Ae (a8.o i ay _ (λb=>S b/\b<w.heap.size) w3 (((show NG S w d l[i] _ from bp).wide (λb x Z=>⟨x,Z⟩)).below af.o));have cm : (0:Int)<=(i:Int):=by omega
   have cd : (i:Int)<(n:Int):=by omega
   have b8:=X.o.lt;clear bp y0 y1 y2 a8;go_wp2_with fail
   (with_reducible refine R.o.mono ?_)
   rintro e w4 ⟨f,⟨al,ch⟩,ab,g4,c4,ax,rfl,ca,b9,bz,bf,ba⟩;have r:=Ae (ai al (ai ab (ai bf ba)));have be:=Ae (Ag s.o.1 ab);have co:=ab.size;have cn:=s.o.2.2.1;clear al ab bf ba R z0 z1 z2;go_wp2_with (at_builtin;refine wpList_append_own_at _ rfl _ _ 89 rfl H.heap.size 91 i0 _ 3 56 underlying89 G.o.1 G.o.2.1 G.o.2.2.1 G.o.2.2.2 rfl (by decide) (.slice a3 i c3) i _ rfl be.o (ad g4 0) f.length c4 ax rfl r.o.2.2.2.len (λj u A=>by rw[BN,UI];exact r.o.2.2.1 j u A) (r.o.2.2.2.cells NG.one) (by unfold maxLen;omega) (by omega) (by omega) ?_)
   intro v5 w5 a2 V _ aq;obtain⟨a5,c5,rfl,_⟩:=Af a2;have a:U (w5.ownsRow H.heap.size 91 3 (.slice a5 (i+f.length) c5) (i+f.length) (I.take (i*3)++ax)/\Bl w w5/\w4.heap.size<=w5.heap.size/\Bx w5 w.heap.size 91 #[.bool false,.slice ka 0 kc,.slice (some (ad b 0)) n cc]/\
     AN (λt v=>NG (λb=>((S b/\b<w.heap.size)\/w3.heap.size<=b)/\(Value.slice a5 (i+f.length) c5).ownBlock≠some b) w5 d t v) (l.take i++f) (I.take (i*3)++ax)):=by
    have bk:=s.o.2.1.trans (r.o.2.1.mono (by omega))
    have P:=m.o.trans (bk.mono m.o.size)
    have am:=λg e=>(s.o.2.2.2 g e).1
    have ag:=m.o.size
    refine⟨a2,P.grown V (by omega) (λg e=>by have:=am g e;omega),V.size,((X.o.below r.o.2.1)).grown V (λe=>by have:=am _ e;have:=ao.o.lt;omega),?_⟩
    refine KP (AN.cat r.o.2.2.2 (J.o.2.2.mono (λt v q=>q.keep P.size (λb x Z=>⟨Or.inl ⟨x,Z⟩,P.block b Z⟩)))) (λb x Z e=>?_) V aq
    have h2:=s.o.2.2.2 b e
    have b5:=m.o.size
    rcases x with x|x
    .omega
    .omega
   clear a2 V aq be x2;have x2:=a.o.2.2.2.1.cell 2;simp at x2;have b3:=a.o.2.2.2.1.lt;obtain⟨oo,bj,ah⟩:=Lm 3 b 0 (i+1) cc n D.1 ar;have bh:∀W:World,(Instr.sliceAt 89 (.slice (some (ad b 0)) n cc) (some (iv ((i:Int)+1))) none none).run prog W=.ok (.slice (some (ad b oo)) (n-(i+1)) (cc-(i+1))) W:=λW=>by have:=R1 b 0 n cc (i+1) ar D.1 W;rw[bj] at this;simpa using this
   have T:U ((I.drop ((i+1)*3)).length=(n-(i+1))*3/\(∀j u,(I.drop ((i+1)*3))[j]?=some u->w5.cell? (ad b (oo+j))=some u)/\AN (λt v=>NG S w d t v) (l.drop (i+1)) (I.drop ((i+1)*3))):=by
    have bl:(I.drop ((i+1)*3)).length=(n-(i+1))*3:=by rw[List.length_drop,bo.o];omega
    refine⟨bl,λj u A=>?_,AN.drop (i+1) F.o.2⟩;have b1:=(List.getElem?_eq_some_iff.1 A).1;rw[bl] at b1;rw[List.getElem?_drop] at A;rw[ah (by omega),UI];exact (a.o.2.1.cell (p:=⟨b,_,none⟩) hb).trans (F.o.1 _ u A)
   have ce:=a.o.2.2.1;have ag:=m.o.size;clear bj ah;go_wp2_with (at_builtin;refine wpList_append_own_at _ rfl _ _ 89 rfl H.heap.size 91 i0 _ 3 56 underlying89 G.o.1 G.o.2.1 G.o.2.2.1 G.o.2.2.2 rfl (by decide) (.slice a5 (i+f.length) c5) (i+f.length) _ rfl a.o.1 (ad b oo) (n-(i+1)) (cc-(i+1)) _ rfl T.o.1 (λj u A=>by rw[BN];exact T.o.2.1 j u A) (T.o.2.2.cells NG.one) (by unfold maxLen;omega) (by omega) (by omega) ?_)
   intro v6 w6 ae aw _ ak;obtain⟨M,az⟩:=gn (l.take i++f++l.drop (i+1));have bd:=Ae az;have hM:i+f.length+(n-(i+1))=M.length:=by rw[az,Uz,Uz,UE,List.length_drop,<- au.o];omega
   have bu:M.length<=5:=by rw[<- hM];omega
   have bw:M.length≠0:=by rw[<- hM];omega
   rw[hM] at ae;obtain⟨a6,c6,rfl,b0⟩:=Af ae;obtain⟨g6,rfl,b7,bt,bn⟩:=b0 bw;have bv:=Ae (a.o.2.1.grown aw (by omega) (λg e=>by have:=(Ah a.o.1 g e).1;omega));have a7:U (NG (λb=>S b\/w.heap.size<=b) w6 (d+1) (.inr M) (.agg #[.bool false,.slice none 0 0,.slice (some (ad g6 0)) M.length c6])):=by
    refine⟨none,0,g6,c6,_,rfl,⟨Or.inr (by omega),AS ae⟩,bt,by omega,bn,?_⟩;rw[bd.o,List.append_assoc];have q:=KP (AN.cat (T.o.2.2.mono (λt v q=>q.keep (S':=λb=>((S b/\b<w.heap.size)\/w3.heap.size<=b)/\(Value.slice a5 (i+f.length) c5).ownBlock≠some b) a.o.2.1.size (λb x Z=>⟨⟨Or.inl ⟨x,Z⟩,λe=>by have:=(Ah a.o.1 b e).1;omega⟩,a.o.2.1.block b Z⟩))) a.o.2.2.2.2) (λb x _=>x.2) aw ak;rw[List.append_assoc] at q;try rw[List.append_assoc (I.take (i*3))] at q
    refine q.mono (λt v q=>q.wide (λb x _=>?_));rcases x.1.1 with h|h;.exact Or.inl h.1
    .exact Or.inr (by omega)
   have bx:=Ae (GY d (.inr M) _ _ w6 a7.o bu);have bm:=Ae r.o.1;clear ae aw ak bn a7 a r T J x2 bh s hM az;go_wp2_with fail
   (with_reducible refine bx.o.mono ?_)
   intro e w7 hr;have bg:=Ae (hr.weak bv.o (λb hb=>hb));clear hr;obtain⟨bq,g7,c7,cf,rfl,br⟩:=bg.o;clear bq br;go_wp2;go_ret;exact⟨_,⟨i,HK.o,ay,f,bm.o,by rw[<- bd.o];rfl⟩,bg.o⟩
theorem Si {L:List ByteArray} {k:ByteArray} (h:k∈L):∃i,i<L.length/\gt L i=k:=by obtain⟨i,a,e⟩:=List.getElem_of_mem h;refine⟨i,a,?_⟩;unfold gt;rw[Uw,Ut a];exact e
theorem JT (a:Option Addr) (n c:Nat) (L:List ByteArray) (key:ByteArray) (w:World) (h:Cg w a n (gt L)) (y:n=L.length) (F:n<=1048576) :
  UO 78 #[.slice a n c,.string key] w λe w'=>∃b:Bool,e=.returned (.bool b)/\(b=true↔key∈L)/\Bl w w':=by
 have s:=Ae (ai h y);clear h y;go_enter func78,ntmps78;go_wp2;go_loopw [5] (λi wr=>∃k:Nat,k<=n/\i=iv k/\(∀j,j<k->gt L j≠key)/\Bl w wr) (λi _=>n-(intOf i).toNat)
 case atStart=>exact⟨0,Us _,rfl,λj u=>absurd u (Uu _),Up _ _⟩
 case round=>
  obtain⟨k,H,rfl,l,f⟩:=hrel;have m:=Ae (ai l f);by_cases p:k<n
  .rcases s.o.1.below f with q|⟨b,o,rfl,x⟩;.omega
   have D:=x k p;have I:(0:Int)<=(k:Int):=by omega
   have J:(k:Int)<(n:Int):=by omega
   clear x l f;by_cases r:gt L k=key
   .have z:U (key∈L):=by show key∈L;rw[<- r];exact Cu (by rw[<- s.o.2];exact p)
    rw[r] at D;have A:(key.toList == key.toList)=true:=by simp
    go_wp2;go_ret;exact⟨true,rfl,by simp[z.o],m.o.2⟩
   .have A:((gt L k).toList == key.toList)=false:=by rw[beq_eq_false_iff_ne];intro e;exact r (DG e)
    have t:U (∀j,j<k+1->gt L j≠key):=λj u=>by
     by_cases e:j=k;.subst e;exact r
     .exact m.o.1 j (by omega)
    clear r;go_wp2;go_roundw;case rel=>exact⟨k+1,by omega,by go_num,t.o,m.o.2⟩
    case measure=>simp[intOf];omega
  .have e:k=n:=by omega
   subst e;have t:U (¬ key∈L):=λG=>by obtain⟨i,C,e⟩:=Si G;exact m.o.1 i (by rw[s.o.2];exact C) e
   clear l f;go_wp2;go_ret;exact⟨false,rfl,by simp[t.o],m.o.2⟩
theorem Ou {d:Nat} (l:List (Ro d)) (i:Nat) (hi:i<l.length) (r:List (Ro d)):((l.take i++r++l.drop (i+1)).map (Ac d)).sum+Ac d l[i]=(l.map (Ac d)).sum+(r.map (Ac d)).sum:=by
 have e:l=l.take i++[l[i]]++l.drop (i+1):=by rw[List.append_assoc,List.singleton_append,List.getElem_cons_drop,List.take_append_drop]
 have a:(l.map (Ac d)).sum=((l.take i).map (Ac d)).sum+Ac d l[i]+((l.drop (i+1)).map (Ac d)).sum:=by
  conv=>lhs;rw[e]
  rw[List.map_append,List.map_append,List.sum_append,List.sum_append];simp
 rw[a,List.map_append,List.map_append,List.sum_append,List.sum_append];omega
theorem Bt.nodes {key:ByteArray}:∀{d:Nat} {t:Ro d} {rs:List (Ro d)},Bt key d t rs->(rs.map (Ac d)).sum<=Ac d t+d
 | 0,t,_,_=>t.elim
 | d+1,.inl ks,rs,h=>by
  rw[Fg] at h
  subst h
  unfold Eo
  split
  .show 1+0<=1+(d+1);omega
  .show 1+(1+0)<=1+(d+1);omega
 | d+1,.inr l,rs,h=>by
  rw[E9] at h
  obtain⟨i,_,b,a,f,rfl⟩:=h
  have q:=Bt.nodes f
  have k:=Ou l i b a
  generalize l.take i++a++l.drop (i+1)=M at k
  have j:Ac (d+1) (.inr l)=1+(l.map (Ac d)).sum:=rfl
  rw[j]
  unfold Eo
  split
  .show (1+(M.map (Ac d)).sum)+0<=_
   omega
  .show (1+((M.take 3).map (Ac d)).sum)+((1+((M.drop 3).map (Ac d)).sum)+0)<=_
   have e:((M.take 3).map (Ac d)).sum+((M.drop 3).map (Ac d)).sum=(M.map (Ac d)).sum:=by
    rw[<- List.sum_append,<- List.map_append,List.take_append_drop]
   omega
def DU (rs:List (Ro 21)):Nat:=if rs.length<=1 then (rs.map (Ac 21)).sum else 1+(rs.map (Ac 21)).sum
def On (M:Nat->Tn):List (Ro 21)->Prop
 | [y]=>Am M 0 21 y 0
 | [y,z]=>Am M 0 22 (.inr [y,z]) 0
 | _=>False
def JW (n:Nat) (N:Nat->Tn) (key:ByteArray) (m:Nat) (M:Nat->Tn):Prop:=
 ∃t rs,BE n N t/\key.size<=16/\key∉Ab 21 t/\Bt key 21 t rs/\m=DU rs/\m<=5000/\On M rs
def Gs (n:Nat) (N:Nat->Tn) (key:ByteArray):Prop:=
 ∀t rs,BE n N t->key.size<=16->key∉Ab 21 t->Bt key 21 t rs->5000<DU rs
theorem BE.fn {n:Nat} {N:Nat->Tn} {t t' : Ro 21} (h:BE n N t) (a : BE n N t'):t=t':=by have q:=h.2.2.1;rw[a.2.2.1] at q;injection q with q;injection q with q _;exact q.symm
abbrev EY (n c:Nat):Prop:=n<=c/\c<=9223372036854775807
variable {bs:List Nat}{d:Nat}{w w':World}
theorem Gv {f:Array Oper} {o:Oper} {a:Act} {K:Act->World->Prop} {Q:Exit->Act->World->Prop} {E:Prop} (q:o.guard=none) (k:Nat) (i j m:Nat) (l:Array TypeId)
  (s:o.op=.call { callee:=.value (.func k),args:=#[.tmp i,.tmp j,.tmp m],argTypes:=l }) (u v x:Value) (t:a.tmps[i]?.getD undef=u) (y:a.tmps[j]?.getD undef=v) (C:a.tmps[m]?.getD undef=x) (p:∀b w,(callFunc k b).run prog w=.ok (.enter k b) w)
  (h:UO k #[u,v,x] w λe w'=>∃r,e=.returned r/\K (a.put o.dst r) w') :
  if Region.wanted o (yielded f a.tmps)=true then Oper.wp prog o a w K Q else E:=by
 have A:Region.wanted o (yielded f a.tmps)=true:=by simp[Region.wanted,q]
 rw[if_pos A];unfold Oper.wp;simp[execOp,s,resolve,invoke,t,y,C,go_sem,p];refine h.mono ?_;rintro e w' ⟨u,rfl,z⟩;exact z
theorem EC (d b f t:Nat) (x:Int) (M:List (Ro d)) (z:List Value) (S:Nat->Prop) (w:World) (N:Bx w b 179 #[iv x,.slice (some (ad f 0)) M.length t]) (q:M.length<=t/\t<=9223372036854775807) (L:0<M.length) (P:M.length<=1000) (r:∀j u,z[j]?=some u->w.cell? (ad f j)=some u) (p:Ct S w d M z) (m:¬ S b) (l:S f) (G:f<w.heap.size) (i:(M.flatMap (Ab d)).length<=1099511627776) :
  UO 118 #[pt b] w λe w'=>e=.returned (.tuple #[])/\w.grownBy w' (some b)/\DE S w' b (d+1) (.inr M) (.iface 174 (pt b)):=by
 have H:f≠b:=λe=>m (e ▸ l);refine (EI d b f 0 M.length t M x z w N rfl (by omega) i (λj u D=>by rw[UI];exact r j u D) H (λk h=>?_)).mono ?_;.obtain⟨u,e,O⟩:=p.2 k h;obtain⟨R,U,V,J,T⟩:=O.count;exact⟨u,R,e,λe=>m (e ▸ U),J,T⟩
 .rintro e w' ⟨rfl,A,X,C⟩;have s:∀y,S y->y<w.heap.size->S y/\w'.heap[y]?=w.heap[y]?:=λy I K=>⟨I,A.block y K (λe=>m (by injection e with e;exact e ▸ I))⟩;have F:=p.keep A.size s;exact⟨rfl,A,rfl,f,0,t,z,C,l,⟨by have:=A.size;omega,q⟩,⟨L,p.1⟩,λj u D=>by rw[UI];exact (World.cell?_of_block (a:=(ad f j)) (s f l G).2).trans (r j u D),F.2⟩
theorem FD {b:Nat} (h:w.grownBy w' (some b)) (a:b∈bs):Fz bs w w':=⟨h.os,h.tape,h.output,h.size,λk f i=>h.block k f (λe=>i (by injection e with e;rw[e];exact a))⟩
theorem Q4 {b:Nat} (h:D9 w w' b b) (a:b∈bs):Fz bs w w':=⟨h.1,h.2.1,h.2.2.1,h.2.2.2.1,λk i f=>h.2.2.2.2 k i (λe=>f (e ▸ a)) (λe=>f (e ▸ a))⟩
theorem OI (h:Bl w w'):Fz bs w w':=⟨h.os,h.tape,h.output,h.size,λk a _=>h.block k a⟩
theorem JE {key:ByteArray} {t u:Ro (d+1)} {root:Bool} {h:Nat} (i:Aq (d+1) root t h) (f:Jz key (d+1) t u) (F:Ac (d+1) t<=5000) (G:d+1<=22):(Ab (d+1) u).length<=100000:=by
 have p:=f.insR.nodes;have e:(Ab (d+1) u).length=((Fe u).map (λt=>(Ab (d+1) t).length)).sum:=by
  by_cases s:Cn u<=4;.rw[Gn s];simp
  .rw[Gy (by have:=Gb i f;omega)];rcases u with L|l
   .have x:L.length=5:=by have:Cn (Sum.inl L:Ro (d+1))=L.length:=rfl;have:=Gb i f;omega
    show L.length=_;simp only[List.map_cons,List.map_nil,List.sum_cons,List.sum_nil];show L.length=((L.take 3).drop 0).length+(((L.take 5).drop 3).length+0);simp only[List.length_drop,UE];omega
   .have x:l.length=5:=by have:Cn (Sum.inr l:Ro (d+1))=l.length:=rfl;have:=Gb i f;omega
    show (l.flatMap (Ab d)).length=_;simp only[List.map_cons,List.map_nil,List.sum_cons,List.sum_nil];show (l.flatMap (Ab d)).length=(((l.take 3).drop 0).flatMap (Ab d)).length+((((l.take 5).drop 3).flatMap (Ab d)).length+0);rw[List.drop_zero,List.take_of_length_le (by omega:l.length<=5),Nat.add_zero,<- Uz,<- List.flatMap_append,List.take_append_drop]
 have A:((Fe u).map (λt=>(Ab (d+1) t).length)).sum<=((Fe u).map (Ac (d+1))).sum*4:=by
  have b:∀t,t∈Fe u->(Ab (d+1) t).length<=Ac (d+1) t*4:=by
   intro t a;rcases Bt.bal i f.insR with ⟨y,e,k⟩|⟨y,z,e,k,q⟩;.have j : Fe u=[y]:=e;rw[j] at a;simp at a;subst a;exact BL (BR k)
   .have j : Fe u=[y,z]:=e;rw[j] at a;simp at a;rcases a with rfl|rfl;.exact BL (BR k)
    .exact BL (BR q)
  clear e;generalize Fe u=m at b;induction m with
  | nil=>simp
  | cons r m ih=>simp only[List.map_cons,List.sum_cons];have H:=b r (by simp);have C:=ih (λt a=>b t (by simp[a]));omega
 have D:((Fe u).map (Ac (d+1))).sum<=Ac (d+1) t+(d+1):=p;omega
theorem GI {t:Ro (d+1)} (a:Cn t=5):(([Bn 0 3 t,Bn 3 5 t]:List (Ro (d+1))).flatMap (Ab (d+1))).length=(Ab (d+1) t).length:=by
 rcases t with L|l;.have e:L.length=5:=a;show (((L.take 3).drop 0)++(((L.take 5).drop 3)++[])).length=L.length;rw[List.drop_zero,List.append_nil,List.take_of_length_le (by omega:L.length<=5),List.take_append_drop]
 .have e:l.length=5:=a;show ((((l.take 3).drop 0).flatMap (Ab d))++((((l.take 5).drop 3).flatMap (Ab d))++[])).length=(l.flatMap (Ab d)).length;rw[List.drop_zero,List.append_nil,List.take_of_length_le (by omega:l.length<=5),<- List.flatMap_append,List.take_append_drop]
theorem GJ {p:Nat} (l:List (Ro (d+1))) (i:Nat) (hi:i<l.length) (t' : Ro (d+1)) {b:List (Ro (d+1))} (a:D5 (d+1) t'=b) (e:(∀t,t∈l->Aq (d+1) false t p)/\BI (l.flatMap (Ab (d+1)))/\(∀k (h:k<l.length),0<(Ab (d+1) l[k]).length)/\Ac (d+2) (.inr l)<=5000) (x:(Ab (d+1) t').length<=100000) (q:(b.flatMap (Ab (d+1))).length=(Ab (d+1) t').length:=by first|rfl|simp):((l.take i++D5 (d+1) t'++l.drop (i+1)).flatMap (Ab (d+1))).length<=1000000:=by
 rw[a,List.flatMap_append,List.flatMap_append,Uz,Uz,q];have s:=Bk (Ab (d+1)) l i;have m:((l.drop (i+1)).flatMap (Ab (d+1))).length<=(l.flatMap (Ab (d+1))).length:=by
  conv=>rhs;rw[<- List.take_append_drop (i+1) l,List.flatMap_append,Uz]
  omega
 have j:=λt f=>BL (BR (e.1 t f));have y:(l.flatMap (Ab (d+1))).length<=(l.map (Ac (d+1))).sum*4:=by
  clear s m e hi;induction l with
  | nil=>simp
  | cons r b ih=>rw[List.flatMap_cons,Uz,List.map_cons,List.sum_cons];have A:=j r (by simp);have u:=ih (λt f=>j t (by simp[f]));omega
 have z:Ac (d+2) (.inr l)=1+(l.map (Ac (d+1))).sum:=rfl;have:=e.2.2.2;omega
theorem Oy (key:ByteArray) (d B:Nat) (l:List (Ro (d+1))) (v:Value) (bs:List Nat) (w:World) (root:Bool) (h:Nat) (hO:CG B w (d+2) (.inr l) v bs) (hd:bs.Nodup) (ce:Aq (d+2) root (.inr l) h) (ha:BI (Ab (d+2) (.inr l))) (bp:Ac (d+2) (.inr l)<=5000) (dl:d+2<=22) (hB:B<=w.heap.size)
  (ih:∀i (hi:i<l.length) (u:Value) (D:List Nat),CG B w (d+1) l[i] u D->D.Nodup->Lc u key w (Hq key (d+1) l[i] u D w)):Lc v key w (Hq key (d+2) (.inr l) v bs w):=by
 have bm:=hO.tat;have bx:=hO.lt;obtain⟨b,g,kc,C,m,rfl,dn,r,ho,c4,c5,rfl,br⟩:=hO;obtain⟨b2,b4,h',rfl,a9⟩:=ce;have ct : BI (l.flatMap (Ab (d+1))):=ha;have hp:∀k (h:k<l.length),0<(Ab (d+1) l[k]).length:=λk hk=>CJ (a9 _ (UA hk));refine .inr ⟨b,rfl,?_⟩;have ch:U (UO 193 #[pt b,.string key] w (Pg l key w)):=EE (d+1) b l _ h' key w bm a9 b4;have a5:=AS ho;obtain⟨G,a6⟩:∃G,G=l.length:=⟨_,rfl⟩;have ag:U (G=l.length):=a6;rw[List.nodup_cons,List.nodup_cons] at hd;have HD:U ((b∉g::m.flatten)/\g∉m.flatten/\m.flatten.Nodup):=hd;have HO:U (w.ownsRow B 68 1 (.slice (some (ad g 0)) G kc) G C):=by rw[a6];exact ho
 have HX:U (Bx w b 179 #[iv ((l.flatMap (Ab (d+1))).length:Int),.slice (some (ad g 0)) G kc]):=by rw[a6];exact r
 have a4:U (∀k (h:k<l.length),∃u D,C[k]?=some u/\m[k]?=some D/\CG B w (d+1) l[k] u D):=br;have ab:U (∀x,x∈b::g::m.flatten->B<=x/\x<w.heap.size):=bx;have cg:U (∀i (hi:i<l.length) (u:Value) (D:List Nat),CG B w (d+1) l[i] u D->D.Nodup->Lc u key w (Hq key (d+1) l[i] u D w)):=ih;have H:U ((∀t,t∈l->Aq (d+1) false t h')/\BI (l.flatMap (Ab (d+1)))/\(∀k (h:k<l.length),0<(Ab (d+1) l[k]).length)/\Ac (d+2) (.inr l)<=5000):=⟨a9,ct,hp,bp⟩;rw[<- a6] at a5 c4 b2 b4;have p1:=HX.o.cell 1;simp at p1;have pz:=HX.o.lt;clear bm bx r ho br a9 ha ct hp hd ih bp a6 c5;go_enter func187,ntmps187;go_wp2_with fail
 (with_reducible refine ch.o.mono ?_)
 rintro e z ⟨i,rfl,db,hi,cl,cf⟩;subst db;have bf:U (Cf l key i):=⟨hi,cl,cf⟩;obtain⟨u,D,eu,b8,cb⟩:=a4.o i hi;have dk:i<G:=by rw[ag.o];exact hi
 have bu:D∈m:=List.mem_of_getElem? b8;have N:U (∀x,x∈D->x∈m.flatten):=λx r=>List.mem_flatten.2 ⟨D,bu,r⟩;have bo:D.Nodup:=by have:=HD.o.2.2;unfold List.Nodup at this;rw[List.pairwise_flatten] at this;exact this.1 D bu
 have ah:U (C[i]?=some u/\m[i]?=some D):=⟨eu,b8⟩;have c8:z.cell? (ad g i)=some u:=by rw[HO.o.cellAt i (by omega)];exact eu
 have i0:(0:Int)<=(i:Int):=by omega
 have i1:(i:Int)<(G:Int):=by omega
 have b1:=cg.o i hi u D cb bo;have bn:=cb.lt;have am:U (∀x,x∈D->x<z.heap.size):=λx r=>(bn x r).2;clear cb eu b8 cl cf ch cg bn bo;rcases b1 with ⟨kb,rfl,X⟩|⟨kb,rfl,X⟩;have mk:=Us 0;rotate_left;have mk:=Us 1;rotate_left;all_goals
  first
   | have HC:U (UO 204 #[pt kb,.string key] z (Hq key (d+1) l[i] (.iface 204 (pt kb)) D z)):=X
   | have HC:U (UO 187 #[pt kb,.string key] z (Hq key (d+1) l[i] (.iface 174 (pt kb)) D z)):=X
  clear X
  go_wp2_with fail
  (with_reducible refine HC.o.mono ?_)
  rintro e w2 (⟨hm,rfl,cp⟩|⟨hm,rfl,a1,y,f,bt,be,ae⟩)
  .have HR:U (Hq key (d+2) (.inr l) (.iface 174 (pt b)) (b::g::m.flatten) z (.returned (.bool false)) w2):=.inl ⟨(Hw H.o.2.1 H.o.2.2.1 bf.o hi).2 hm,rfl,cp⟩
   clear cp hm HC
   go_wp2
   go_ret
   exact HR.o
  .have cn:U (key∉l.flatMap (Ab (d+1))):=λq=>hm ((Hw H.o.2.1 H.o.2.2.1 bf.o hi).1 q)
   have HU:U (Jz key (d+1) l[i] y):=be
   have h5:Cn y<=5:=Gb (H.o.1 _ (UA hi)) be
   have bz:(Ab (d+1) y).length<=100000:=JE (H.o.1 _ (UA hi)) be (by have:=EM (d+1) l i hi;have q:Ac (d+1+1) (.inr l)<=5000:=H.o.2.2.2;omega) (by omega)
   first
    | focus
     have:=(mk:0<=0)
     obtain⟨n,aa,M,cj,hn,a8⟩:∃n aa M,f=kb/\n=Cn y/\Bx w2 kb 206 #[iv ((Ab (d+1) y).length:Int),.slice aa n M]:=by
      rcases y with L' | l'
      .obtain⟨e,aa,M,b0,_,_⟩:=ae
       injection e with _ e
       injection e with e
       injection e with e
       injection e with e
       exact⟨_,aa,M,e.symm,rfl,e ▸ b0⟩
      .obtain⟨e,_⟩:=ae
       injection e with e _
       exact absurd e (by decide)
    | focus
     obtain⟨n,aa,M,cj,hn,a8⟩:∃n aa M,f=kb/\n=Cn y/\Bx w2 kb 179 #[iv ((Ab (d+1) y).length:Int),.slice aa n M]:=by
      rcases y with L' | l'
      .obtain⟨e,_⟩:=ae
       injection e with e _
       exact absurd e (by decide)
      .obtain⟨e,g',o',M,dm,b0,_⟩:=ae
       injection e with _ e
       injection e with e
       injection e with e
       injection e with e
       exact⟨_,_,M,e.symm,rfl,e ▸ b0⟩
   subst cj
   first
    | have a2:U (DE (λx=>(x∈D/\x≠f)\/z.heap.size<=x) w2 f (d+1) y (.iface 204 (pt f))):=ae
    | have a2:U (DE (λx=>(x∈D/\x≠f)\/z.heap.size<=x) w2 f (d+1) y (.iface 174 (pt f))):=ae
   have ao:U (Fz D z w2):=a1
   have J:U (f∈D):=bt
   have ac:U (n=Cn y/\Cn y<=5/\(Ab (d+1) y).length<=100000):=⟨hn,h5,bz⟩
   have R:b∉D:=λq=>HD.o.1 (List.mem_cons_of_mem _ (N.o b q))
   have bg:g∉D:=λq=>HD.o.2.1 (N.o g q)
   have b5:g≠b:=λe=>HD.o.1 (by rw[e];simp)
   have dj:g<z.heap.size:=(ab.o g (by simp)).2
   have ax:U (Bx w2 b 179 #[iv ((l.flatMap (Ab (d+1))).length:Int),.slice (some (ad g 0)) G kc]):=HX.o.of_block (a1.2.2.2.2 b pz R)
   have ak:U (w2.ownsRow B 68 1 (.slice (some (ad g 0)) G kc) G C):=AK HO.o (λg' e=>by injection e with e;subst e;exact a1.2.2.2.2 g dj bg)
   first
    | have bd:U (UO 210 #[pt f] w2 λe w'=>e=.returned (.bool (decide (4<n)))/\w'=w2):=DQ f n M aa _ w2 a8
    | have bd:U (UO 192 #[pt f] w2 λe w'=>e=.returned (.bool (decide (4<n)))/\w'=w2):=Dq f n M aa _ w2 a8
   have al:U (∀(S' : Nat->Prop) (W:World),z.heap.size<=W.heap.size->(∀x,x∈m.flatten->x∉D->S' x/\W.heap[x]?=z.heap[x]?)->Ct S' W (d+1) (l.take i) (C.take i)/\Ct S' W (d+1) (l.drop (i+1)) (C.drop (i+1))):=by
    intro S' W hz hS
    have af:C.length=l.length:=by have:=HO.o.1;rw[<- ag.o];omega
    have bw:∀k (h:k<l.length),k≠i->∃u,C[k]?=some u/\AP S' W (d+1) l[k] u:=by
     intro k hk c7
     obtain⟨uk,au,e1,e2,e3⟩:=a4.o k hk
     have cm:au∈m:=List.mem_of_getElem? e2
     have da:au.Nodup:=by
      have:=HD.o.2.2
      unfold List.Nodup at this
      rw[List.pairwise_flatten] at this
      exact this.1 au cm
     refine⟨uk,e1,AP.keep hz (λx r _=>?_) (e3.tao da)⟩
     exact hS x (List.mem_flatten.2 ⟨au,cm,r⟩) (IP HD.o.2.2 ah.o.2 e2 c7 r)
    refine⟨⟨by rw[UE,UE,af],λk hk=>?_⟩,⟨by rw[List.length_drop,List.length_drop,af],λk hk=>?_⟩⟩
    .rw[UE] at hk
     obtain⟨u,e,q⟩:=bw k (by omega) (by omega)
     exact⟨u,by rw[List.getElem?_take,if_pos (by omega)];exact e,by rw[List.getElem_take];exact q⟩
    .rw[List.length_drop] at hk
     obtain⟨u,e,q⟩:=bw (i+1+k) (by omega) (by omega)
     exact⟨u,by rw[List.getElem?_drop];exact e,by rw[List.getElem_drop];exact q⟩
   have c1:=ax.o.cell 1
   simp at c1
   have cz:=ax.o.lt
   first
    | focus
     have:=(mk:0<=0)
     have c2:w2.cell? (ad g i)=some (.iface 204 (pt f)):=by
      rw[ak.o.cellAt i (by omega)]
      exact ah.o.1
    | focus
     have c2:w2.cell? (ad g i)=some (.iface 174 (pt f)):=by
      rw[ak.o.cellAt i (by omega)]
      exact ah.o.1
   have cr:=a1.2.2.2.1
   clear ae a1 bt a8 hm be HC c8 p1
   go_wp2_with fail
   (with_reducible refine bd.o.mono ?_)
   rintro e A ⟨rfl,cy⟩
   subst cy
   by_cases h4:4<n
   .have aw:Cn y=5:=by have:=ac.o;omega
    have de:decide (4<n)=true:=decide_eq_true h4
    have F:D5 (d+1) y=[Bn 0 3 y,Bn 3 5 y]:=Gy aw
    first
     | focus
      have:=(mk:0<=0)
      have cw:U (UO 117 #[.iface 204 (pt f)] A.drew (DK (λx=>((x∈D/\x≠f)\/z.heap.size<=x)/\x<A.heap.size) A.drew f d y (.iface 204 (pt f)))):=by
       refine Kk d f y _ _ A.drew (DE.keep (w:=A) (w':=A.drew) (Uq _) rfl (λx r Y=>⟨⟨r,Y⟩,rfl⟩) a2.o) (λq=>?_) (λx r=>r.2) aw (by have:=ac.o.2.2;omega)
       rcases q.1 with q|q
       .exact q.2 rfl
       .have:=am.o f J.o;omega
     | focus
      have cw:U (UO 117 #[.iface 174 (pt f)] A.drew (DK (λx=>((x∈D/\x≠f)\/z.heap.size<=x)/\x<A.heap.size) A.drew f d y (.iface 174 (pt f)))):=by
       refine Kk d f y _ _ A.drew (DE.keep (w:=A) (w':=A.drew) (Uq _) rfl (λx r Y=>⟨⟨r,Y⟩,rfl⟩) a2.o) (λq=>?_) (λx r=>r.2) aw (by have:=ac.o.2.2;omega)
       rcases q.1 with q|q
       .exact q.2 rfl
       .have:=am.o f J.o;omega
    have bk:b≠f:=λe=>R (e ▸ J.o)
    have bi:g≠f:=λe=>bg (e ▸ J.o)
    have cu:∀v∈C,v.oneCell'=true:=by
     intro v hv
     obtain⟨k,bz,e⟩:=List.getElem_of_mem hv
     have af:=HO.o.1
     obtain⟨uk,au,e1,e2,e3⟩:=a4.o k (by rw[<- ag.o];omega)
     rw[Ut bz,e] at e1
     injection e1 with e1
     subst e1
     have:=e3.tat
     rcases hlk:l[k]'(by rw[<- ag.o];omega) with L' | l'
     .rw[hlk] at this;obtain⟨_,_,_,rfl,_⟩:=this;rfl
     .rw[hlk] at this;obtain⟨_,_,_,_,rfl,_⟩:=this;rfl
    have c9:U (∀v∈C,v.oneCell'=true):=cu
    have cv : A.drew.cell? (ad b 1)=some (.slice (some (ad g 0)) G kc):=c1
    first
     | have co : A.drew.cell? (ad g i)=some (.iface 204 (pt f)):=c2
     | have co : A.drew.cell? (ad g i)=some (.iface 174 (pt f)):=c2
    clear cu bd
    go_upto_region 5 with fail
    refine Aj (S:=λw'=>w'.cell? (ad b 1)=some (.slice (some (ad g 0)) G kc)) 19 (by kernel_rfl) cv (λs=>?_)
    refine tz 0 rfl ?_
    refine tz 1 rfl ?_
    refine tz 2 rfl ?_
    refine tz 3 rfl ?_
    refine tz 4 rfl ?_
    refine tz 5 rfl ?_
    refine tz 6 rfl ?_
    refine tz 7 rfl ?_
    refine tz 8 rfl ?_
    refine tz 9 rfl ?_
    refine tz 10 rfl ?_
    refine tz 11 rfl ?_
    refine tz 12 rfl ?_
    refine At 13 rfl (λK V=>?_)
    go_simp
    refine tL V (by exact s) ?_
    clear V K s
    intro s
    try simp only[Ay]
    refine At 14 rfl (λK V=>?_)
    first
     | refine Dg (by rfl) 117 40 _ (by rfl) (.iface 204 (pt f)) (by rfl) (λ_ _=>by rfl) ?_
     | refine Dg (by rfl) 117 40 _ (by rfl) (.iface 174 (pt f)) (by rfl) (λ_ _=>by rfl) ?_
    (with_reducible refine cw.o.mono ?_)
    rintro e I ⟨ur,rfl,an,b3,ba⟩
    obtain⟨ty,P,c0⟩:∃ty P,ur=.iface ty P:=by
     obtain⟨bb,_,_,_,q⟩:=ba.count
     rcases q with q|q <;> exact⟨_,_,q⟩
    subst c0
    refine⟨_,rfl,?_⟩
    first
     | have H4:U (D9 A I f f/\AP (λx=>(((x∈D/\x≠f)\/z.heap.size<=x)/\x<A.heap.size)\/x=f\/A.heap.size<=x) I (d+1) (Bn 0 3 y) (.iface 204 (pt f))/\AP (λx=>(((x∈D/\x≠f)\/z.heap.size<=x)/\x<A.heap.size)\/A.heap.size<=x) I (d+1) (Bn 3 5 y) (.iface ty P)):=⟨an,b3,ba⟩
     | have H4:U (D9 A I f f/\AP (λx=>(((x∈D/\x≠f)\/z.heap.size<=x)/\x<A.heap.size)\/x=f\/A.heap.size<=x) I (d+1) (Bn 0 3 y) (.iface 174 (pt f))/\AP (λx=>(((x∈D/\x≠f)\/z.heap.size<=x)/\x<A.heap.size)\/A.heap.size<=x) I (d+1) (Bn 3 5 y) (.iface ty P)):=⟨an,b3,ba⟩
    have b9:U (Bx I b 179 #[iv ((l.flatMap (Ab (d+1))).length:Int),.slice (some (ad g 0)) G kc]):=ax.o.of_block (an.2.2.2.2 b cz bk bk)
    have dc:U (I.ownsRow B 68 1 (.slice (some (ad g 0)) G kc) G C):=AK ak.o (λg' e=>by injection e with e;subst e;exact an.2.2.2.2 g (by show g<A.heap.size;omega) bi bi)
    have dp:A.heap.size<=I.heap.size:=an.2.2.2.1
    have b7:I.cell? (ad b 1)=some (.slice (some (ad g 0)) G kc):=by have:=b9.o.cell 1;simpa using this
    have c3:=b9.o.lt
    clear an b3 ba
    refine tL V (by exact b7) ?_
    clear V K s
    intro s
    try simp only[Ay]
    refine At 15 rfl (λK V=>?_)
    go_simp
    refine tL V (by exact ((Aa I _).cell (p:=(ad b 1)) c3).trans b7) ?_
    clear V K s
    intro s
    try simp only[Ay]
    refine At 16 rfl (λK V=>?_)
    have cx:U (UO 194 #[.slice (some (ad g 0)) G kc,iv (IntKind.i64.wrap ((i:Int)+1)),.slice (some (ad I.heap.size 0)) 1 1] (I.alloc (.cells #[(.iface ty P)] 68)) (Hd (I.alloc (.cells #[(.iface ty P)] 68)) g G (C.take (i+1)++(.iface ty P)::C.drop (i+1)))):=by
     have:=Pi B g G kc (i+1) I.heap.size C (.iface ty P) (I.alloc (.cells #[(.iface ty P)] 68)) (Ag dc.o (Aa _ _)) c9.o (blk_alloc_new _ _) H4.o.2.2.oneCell (by omega) (by omega) (by omega) (by simp;omega)
     rw[show (((i+1:Nat)):Int)=IntKind.i64.wrap ((i:Int)+1) by rw[Uv];omega] at this
     exact this
    refine Gv (by rfl) 194 31 33 42 _ (by rfl) (.slice (some (ad g 0)) G kc) (iv (IntKind.i64.wrap ((i:Int)+1))) (.slice (some (ad I.heap.size 0)) 1 1) (by rfl) (by rfl) (by rfl) (λ_ _=>by rfl) ?_
    (with_reducible refine cx.o.mono ?_)
    rintro e w5 ⟨gg,cc,rfl,ay,bv,cq,bl,ca⟩
    refine⟨_,rfl,?_⟩
    have bc:U (Bx w5 b 179 #[iv ((l.flatMap (Ab (d+1))).length:Int),.slice (some (ad g 0)) G kc]):=(b9.o.alloc _).grown ca (λe=>b5 (by injection e))
    have H5:U ((gg=g\/I.heap.size+1<=gg)/\(∀j v,(C.take (i+1)++(.iface ty P)::C.drop (i+1))[j]?=some v->w5.cell? (ad gg j)=some v)/\(I.alloc (.cells #[(.iface ty P)] 68)).grownBy w5 (some g)/\(G+1<=cc/\cc<=9223372036854775807)/\gg<w5.heap.size):=⟨by rcases cq with h|h;exact .inl h;exact .inr (by simpa using h),bl,ca,ay,bv⟩
    have cs:w5.cell? (ad b 1)=some (.slice (some (ad g 0)) G kc):=by have:=bc.o.cell 1;simpa using this
    have dd:=bc.o.lt
    have dh:=bc.o.frozen 1
    clear cq bl ca cx b7 ay bv
    refine tL V (by exact cs) ?_
    clear V K s
    intro s
    try simp only[Ay]
    refine At 17 rfl (λK V=>?_)
    go_simp
    refine tL V (by exact s) ?_
    clear V K s
    intro s
    try simp only[Ay]
    refine At 18 rfl (λK V=>?_)
    go_simp
    refine tL V (by exact s) ?_
    clear V K s
    intro s
    try simp only[Ay]
    refine At 19 rfl (λK V=>?_)
    go_simp
    refine tM V ?_
    clear V K
    have T:(l.take i++D5 (d+1) y++l.drop (i+1)).length=G+1:=by
     rw[F,Uz,Uz,UE,List.length_drop,ag.o]
     simp only[UJ,List.length_nil]
     omega
    have ar:gg≠b:=by rcases H5.o.1 with h|h <;> omega
    have L:U (∀x,x<I.heap.size->x≠g->x≠b->(w5.setCell (ad b 1) (.slice (some (ad gg 0)) (G+1) cc)).heap[x]?=I.heap[x]?):=by
     intro x r h1 h2
     rw[Ur _ _ _ _ (show x≠b from h2),H5.o.2.2.1.block x (by simp;omega) (λe=>h1 (by injection e))]
     exact (Aa I _).block x r
    have aq:U ((w5.setCell (ad b 1) (.slice (some (ad gg 0)) (G+1) cc)).heap.size=w5.heap.size/\I.heap.size+1<=w5.heap.size):=⟨by simp[World.setCell],by have:=H5.o.2.2.1.size;simpa using this⟩
    have cd:U (Bx (w5.setCell (ad b 1) (.slice (some (ad gg 0)) (G+1) cc)) b 179 #[iv ((l.flatMap (Ab (d+1))).length:Int),.slice (some (ad gg 0)) (G+1) cc]):=by
     exact bc.o.set 1 (.slice (some (ad gg 0)) (G+1) cc)
    have av:U (∀j v,(C.take (i+1)++(.iface ty P)::C.drop (i+1))[j]?=some v->(w5.setCell (ad b 1) (.slice (some (ad gg 0)) (G+1) cc)).cell? (ad gg j)=some v):=λj v hj=>(World.cell?_of_block (a:=(ad gg j)) (Ur _ _ _ _ ar)).trans (H5.o.2.1 j v hj)
    have bj:U (Fz (b::g::m.flatten) A (w5.setCell (ad b 1) (.slice (some (ad gg 0)) (G+1) cc))):=by
     have f1:Fz (b::g::m.flatten) A I:=Q4 H4.o.1 (List.mem_cons_of_mem _ (List.mem_cons_of_mem _ (N.o _ J.o)))
     have f2:Fz (b::g::m.flatten) I (I.alloc (.cells #[(.iface ty P)] 68)):=OI (Aa _ _)
     have f3:Fz (b::g::m.flatten) (I.alloc (.cells #[(.iface ty P)] 68)) w5:=FD H5.o.2.2.1 (by simp)
     have f4:Fz (b::g::m.flatten) w5 (w5.setCell (ad b 1) (.slice (some (ad gg 0)) (G+1) cc)):=⟨rfl,rfl,rfl,by simp[World.setCell],λk _ hn=>Ur _ _ _ _ (λe=>hn (by rw[e];simp))⟩
     exact ((f1.trans f2).trans f3).trans f4
    generalize w5.setCell (ad b 1) (.slice (some (ad gg 0)) (G+1) cc)=W6 at L aq cd av bj ⊢
    clear s cs dd dh cv co c1 c2
    first
     | focus
      have:=(mk:0<=0)
      have O:U (UO 118 #[pt b] W6 λe w'=>e=.returned (.tuple #[])/\W6.grownBy w' (some b)/\DE (λx=>(x∈(b::g::m.flatten)/\x≠b)\/z.heap.size<=x) w' b (d+2) (.inr (l.take i++D5 (d+1) y++l.drop (i+1))) (.iface 174 (pt b))):=by
       have c6:=aq.o
       have a3:∀x,(((x∈D/\x≠f)\/z.heap.size<=x)/\x<A.heap.size)\/x=f\/A.heap.size<=x->x<I.heap.size->((x∈(b::g::m.flatten)/\x≠b)\/z.heap.size<=x)/\W6.heap[x]?=I.heap[x]?:=by
        intro x r Y
        have a0:x∈D->((x∈(b::g::m.flatten)/\x≠b)\/z.heap.size<=x)/\W6.heap[x]?=I.heap[x]?:=λq=>⟨.inl ⟨List.mem_cons_of_mem _ (List.mem_cons_of_mem _ (N.o x q)),λe=>R (e ▸ q)⟩,L.o x Y (λe=>bg (e ▸ q)) (λe=>R (e ▸ q))⟩
        rcases r with ⟨q|q,_⟩|q|q
        .exact a0 q.1
        .exact⟨.inr q,L.o x Y (by omega) (by omega)⟩
        .exact a0 (q ▸ J.o)
        .exact⟨.inr (by omega),L.o x Y (by omega) (by omega)⟩
       have k1:AP (λx=>(x∈(b::g::m.flatten)/\x≠b)\/z.heap.size<=x) W6 (d+1) (Bn 0 3 y) (.iface 204 (pt f)):=AP.keep (by omega) (λx r Y=>a3 x r Y) H4.o.2.1
       have k2:AP (λx=>(x∈(b::g::m.flatten)/\x≠b)\/z.heap.size<=x) W6 (d+1) (Bn 3 5 y) (.iface ty P):=AP.keep (by omega) (λx r Y=>a3 x (by rcases r with h|h;exact .inl h;exact .inr (.inr h)) Y) H4.o.2.2
       obtain⟨o1,o2⟩:=al.o (λx=>(x∈(b::g::m.flatten)/\x≠b)\/z.heap.size<=x) W6 (by omega) (λx r hn=>by
        have af:=(ab.o x (List.mem_cons_of_mem _ (List.mem_cons_of_mem _ r))).2
        have az:x≠b:=λe=>HD.o.1 (by rw[<- e];exact List.mem_cons_of_mem _ r)
        have b6:x≠g:=λe=>HD.o.2.1 (e ▸ r)
        have a7:x≠f:=λe=>hn (e ▸ J.o)
        exact⟨.inl ⟨List.mem_cons_of_mem _ (List.mem_cons_of_mem _ r),az⟩,((L.o x (by omega) b6 az).trans (H4.o.1.2.2.2.2 x (by omega) a7 a7)).trans (ao.o.2.2.2.2 x af hn)⟩)
       have aj:C.take i++[.iface 204 (pt f)]++[(.iface ty P)]++C.drop (i+1)=C.take (i+1)++(.iface ty P)::C.drop (i+1):=by
        obtain⟨q1,q2⟩:=List.getElem?_eq_some_iff.1 ah.o.1
        rw[<- List.take_append_getElem q1,q2]
        simp
       have Z:Ct (λx=>(x∈(b::g::m.flatten)/\x≠b)\/z.heap.size<=x) W6 (d+1) (l.take i++D5 (d+1) y++l.drop (i+1)) (C.take (i+1)++(.iface ty P)::C.drop (i+1)):=by
        rw[F,<- aj,show l.take i++[Bn 0 3 y,Bn 3 5 y]=l.take i++[Bn 0 3 y]++[Bn 3 5 y] by simp]
        exact ((o1.app (Ct.one k1)).app (Ct.one k2)).app o2
       refine EC (d+1) b gg cc _ _ _ _ W6 (by rw[T];exact cd.o) (by rw[T];exact H5.o.2.2.2.1) (by omega) (by omega) av.o Z (λq=>?_) ?_ (by have:=H5.o.2.2.2.2;omega) ?_
       .rcases q with q|q
        .exact q.2 rfl
        .omega
       .rcases H5.o.1 with h|h
        .exact .inl ⟨by rw[h];simp,ar⟩
        .exact .inr (by omega)
       .exact Uy (GJ l i hi y F H.o ac.o.2.2 (GI aw)) (by omega)
     | focus
      have O:U (UO 118 #[pt b] W6 λe w'=>e=.returned (.tuple #[])/\W6.grownBy w' (some b)/\DE (λx=>(x∈(b::g::m.flatten)/\x≠b)\/z.heap.size<=x) w' b (d+2) (.inr (l.take i++D5 (d+1) y++l.drop (i+1))) (.iface 174 (pt b))):=by
       have c6:=aq.o
       have a3:∀x,(((x∈D/\x≠f)\/z.heap.size<=x)/\x<A.heap.size)\/x=f\/A.heap.size<=x->x<I.heap.size->((x∈(b::g::m.flatten)/\x≠b)\/z.heap.size<=x)/\W6.heap[x]?=I.heap[x]?:=by
        intro x r Y
        have a0:x∈D->((x∈(b::g::m.flatten)/\x≠b)\/z.heap.size<=x)/\W6.heap[x]?=I.heap[x]?:=λq=>⟨.inl ⟨List.mem_cons_of_mem _ (List.mem_cons_of_mem _ (N.o x q)),λe=>R (e ▸ q)⟩,L.o x Y (λe=>bg (e ▸ q)) (λe=>R (e ▸ q))⟩
        rcases r with ⟨q|q,_⟩|q|q
        .exact a0 q.1
        .exact⟨.inr q,L.o x Y (by omega) (by omega)⟩
        .exact a0 (q ▸ J.o)
        .exact⟨.inr (by omega),L.o x Y (by omega) (by omega)⟩
       have k1:AP (λx=>(x∈(b::g::m.flatten)/\x≠b)\/z.heap.size<=x) W6 (d+1) (Bn 0 3 y) (.iface 174 (pt f)):=AP.keep (by omega) (λx r Y=>a3 x r Y) H4.o.2.1
       have k2:AP (λx=>(x∈(b::g::m.flatten)/\x≠b)\/z.heap.size<=x) W6 (d+1) (Bn 3 5 y) (.iface ty P):=AP.keep (by omega) (λx r Y=>a3 x (by rcases r with h|h;exact .inl h;exact .inr (.inr h)) Y) H4.o.2.2
       obtain⟨o1,o2⟩:=al.o (λx=>(x∈(b::g::m.flatten)/\x≠b)\/z.heap.size<=x) W6 (by omega) (λx r hn=>by
        have af:=(ab.o x (List.mem_cons_of_mem _ (List.mem_cons_of_mem _ r))).2
        have az:x≠b:=λe=>HD.o.1 (by rw[<- e];exact List.mem_cons_of_mem _ r)
        have b6:x≠g:=λe=>HD.o.2.1 (e ▸ r)
        have a7:x≠f:=λe=>hn (e ▸ J.o)
        exact⟨.inl ⟨List.mem_cons_of_mem _ (List.mem_cons_of_mem _ r),az⟩,((L.o x (by omega) b6 az).trans (H4.o.1.2.2.2.2 x (by omega) a7 a7)).trans (ao.o.2.2.2.2 x af hn)⟩)
       have aj:C.take i++[.iface 174 (pt f)]++[(.iface ty P)]++C.drop (i+1)=C.take (i+1)++(.iface ty P)::C.drop (i+1):=by
        obtain⟨q1,q2⟩:=List.getElem?_eq_some_iff.1 ah.o.1
        rw[<- List.take_append_getElem q1,q2]
        simp
       have Z:Ct (λx=>(x∈(b::g::m.flatten)/\x≠b)\/z.heap.size<=x) W6 (d+1) (l.take i++D5 (d+1) y++l.drop (i+1)) (C.take (i+1)++(.iface ty P)::C.drop (i+1)):=by
        rw[F,<- aj,show l.take i++[Bn 0 3 y,Bn 3 5 y]=l.take i++[Bn 0 3 y]++[Bn 3 5 y] by simp]
        exact ((o1.app (Ct.one k1)).app (Ct.one k2)).app o2
       refine EC (d+1) b gg cc _ _ _ _ W6 (by rw[T];exact cd.o) (by rw[T];exact H5.o.2.2.2.1) (by omega) (by omega) av.o Z (λq=>?_) ?_ (by have:=H5.o.2.2.2.2;omega) ?_
       .rcases q with q|q
        .exact q.2 rfl
        .omega
       .rcases H5.o.1 with h|h
        .exact .inl ⟨by rw[h];simp,ar⟩
        .exact .inr (by omega)
       .exact Uy (GJ l i hi y F H.o ac.o.2.2 (GI aw)) (by omega)
    go_wp2_with fail
    (with_reducible refine O.o.mono ?_)
    rintro e w7 ⟨rfl,ci,bq⟩
    have HR:U (Hq key (d+2) (.inr l) (.iface 174 (pt b)) (b::g::m.flatten) z (.returned (.bool true)) w7):=.inr ⟨cn.o,rfl,((ao.o.mono (λx r=>List.mem_cons_of_mem _ (List.mem_cons_of_mem _ (N.o x r)))).trans bj.o).trans (FD ci (by simp)),_,b,by simp,⟨i,bf.o,hi,y,HU.o,rfl⟩,bq⟩
    clear ci bq O
    go_wp2
    go_ret
    exact HR.o
   .have dg:Cn y<=4:=by have:=ac.o;omega
    have de:decide (4<n)=false:=decide_eq_false h4
    have F:D5 (d+1) y=[y]:=Gn dg
    first
     | focus
      have:=(mk:0<=0)
      have O:U (UO 118 #[pt b] A λe w'=>e=.returned (.tuple #[])/\A.grownBy w' (some b)/\DE (λx=>(x∈(b::g::m.flatten)/\x≠b)\/z.heap.size<=x) w' b (d+2) (.inr (l.take i++D5 (d+1) y++l.drop (i+1))) (.iface 174 (pt b))):=by
       have T:(l.take i++D5 (d+1) y++l.drop (i+1)).length=G:=by
        rw[F,Uz,Uz,UE,List.length_drop,ag.o]
        simp only[UJ,List.length_nil]
        omega
       have ap:AP (λx=>(x∈(b::g::m.flatten)/\x≠b)\/z.heap.size<=x) A (d+1) y (.iface 204 (pt f)):=by
        refine AP.wide (a2.o.tao (λq=>?_)) (λx r _=>?_)
        .rcases q with q|q
         .exact q.2 rfl
         .have:=am.o f J.o;omega
        .rcases r with (r|r)|r
         .exact .inl ⟨List.mem_cons_of_mem _ (List.mem_cons_of_mem _ (N.o x r.1)),λe=>R (e ▸ r.1)⟩
         .exact .inr r
         .subst r
          exact .inl ⟨List.mem_cons_of_mem _ (List.mem_cons_of_mem _ (N.o _ J.o)),λe=>R (e ▸ J.o)⟩
       obtain⟨o1,o2⟩:=al.o (λx=>(x∈(b::g::m.flatten)/\x≠b)\/z.heap.size<=x) A cr (λx r hn=>⟨.inl ⟨List.mem_cons_of_mem _ (List.mem_cons_of_mem _ r),λe=>HD.o.1 (by rw[<- e];exact List.mem_cons_of_mem _ r)⟩,ao.o.2.2.2.2 x (ab.o x (List.mem_cons_of_mem _ (List.mem_cons_of_mem _ r))).2 hn⟩)
       have Z:Ct (λx=>(x∈(b::g::m.flatten)/\x≠b)\/z.heap.size<=x) A (d+1) (l.take i++D5 (d+1) y++l.drop (i+1)) (C.take i++[.iface 204 (pt f)]++C.drop (i+1)):=by
        rw[F]
        exact (o1.app (Ct.one ap)).app o2
       have aj:C.take i++[.iface 204 (pt f)]++C.drop (i+1)=C:=by
        obtain⟨q1,q2⟩:=List.getElem?_eq_some_iff.1 ah.o.1
        rw[<- q2,List.append_assoc,List.singleton_append,List.getElem_cons_drop,List.take_append_drop]
       rw[aj] at Z
       refine EC (d+1) b g kc _ _ C _ A (by rw[T];exact ax.o) (by rw[T];exact a5) (by omega) (by omega) (λj u hj=>?_) Z (λq=>?_) (.inl ⟨by simp,b5⟩) (by omega) ?_
       .have di:=(List.getElem?_eq_some_iff.1 hj).1
        have df:=ak.o.1
        rw[ak.o.cellAt j (by omega)]
        exact hj
       .rcases q with q|q
        .exact q.2 rfl
        .omega
       .exact Uy (GJ l i hi y F H.o ac.o.2.2) (by omega)
     | focus
      have O:U (UO 118 #[pt b] A λe w'=>e=.returned (.tuple #[])/\A.grownBy w' (some b)/\DE (λx=>(x∈(b::g::m.flatten)/\x≠b)\/z.heap.size<=x) w' b (d+2) (.inr (l.take i++D5 (d+1) y++l.drop (i+1))) (.iface 174 (pt b))):=by
       have T:(l.take i++D5 (d+1) y++l.drop (i+1)).length=G:=by
        rw[F,Uz,Uz,UE,List.length_drop,ag.o]
        simp only[UJ,List.length_nil]
        omega
       have ap:AP (λx=>(x∈(b::g::m.flatten)/\x≠b)\/z.heap.size<=x) A (d+1) y (.iface 174 (pt f)):=by
        refine AP.wide (a2.o.tao (λq=>?_)) (λx r _=>?_)
        .rcases q with q|q
         .exact q.2 rfl
         .have:=am.o f J.o;omega
        .rcases r with (r|r)|r
         .exact .inl ⟨List.mem_cons_of_mem _ (List.mem_cons_of_mem _ (N.o x r.1)),λe=>R (e ▸ r.1)⟩
         .exact .inr r
         .subst r
          exact .inl ⟨List.mem_cons_of_mem _ (List.mem_cons_of_mem _ (N.o _ J.o)),λe=>R (e ▸ J.o)⟩
       obtain⟨o1,o2⟩:=al.o (λx=>(x∈(b::g::m.flatten)/\x≠b)\/z.heap.size<=x) A cr (λx r hn=>⟨.inl ⟨List.mem_cons_of_mem _ (List.mem_cons_of_mem _ r),λe=>HD.o.1 (by rw[<- e];exact List.mem_cons_of_mem _ r)⟩,ao.o.2.2.2.2 x (ab.o x (List.mem_cons_of_mem _ (List.mem_cons_of_mem _ r))).2 hn⟩)
       have Z:Ct (λx=>(x∈(b::g::m.flatten)/\x≠b)\/z.heap.size<=x) A (d+1) (l.take i++D5 (d+1) y++l.drop (i+1)) (C.take i++[.iface 174 (pt f)]++C.drop (i+1)):=by
        rw[F]
        exact (o1.app (Ct.one ap)).app o2
       have aj:C.take i++[.iface 174 (pt f)]++C.drop (i+1)=C:=by
        obtain⟨q1,q2⟩:=List.getElem?_eq_some_iff.1 ah.o.1
        rw[<- q2,List.append_assoc,List.singleton_append,List.getElem_cons_drop,List.take_append_drop]
       rw[aj] at Z
       refine EC (d+1) b g kc _ _ C _ A (by rw[T];exact ax.o) (by rw[T];exact a5) (by omega) (by omega) (λj u hj=>?_) Z (λq=>?_) (.inl ⟨by simp,b5⟩) (by omega) ?_
       .have di:=(List.getElem?_eq_some_iff.1 hj).1
        have df:=ak.o.1
        rw[ak.o.cellAt j (by omega)]
        exact hj
       .rcases q with q|q
        .exact q.2 rfl
        .omega
       .exact Uy (GJ l i hi y F H.o ac.o.2.2) (by omega)
    clear c1 c2 bd
    go_wp2_with fail
    (with_reducible refine O.o.mono ?_)
    rintro e I ⟨rfl,ck,bh⟩
    have HR:U (Hq key (d+2) (.inr l) (.iface 174 (pt b)) (b::g::m.flatten) z (.returned (.bool true)) I):=.inr ⟨cn.o,rfl,(ao.o.mono (λx r=>List.mem_cons_of_mem _ (List.mem_cons_of_mem _ (N.o x r)))).trans (FD ck (by simp)),_,b,by simp,⟨i,bf.o,hi,y,HU.o,rfl⟩,bh⟩
    clear ck bh O
    go_wp2
    go_ret
    exact HR.o
def Ci (w:World) (a:Option Addr) (n:Nat) (M:Nat->Nat) (T:Nat->Nat->Tn):Prop:=
 n=0\/∃b o,a=some (ad b o)/\∀i,i<n->∃ai ci,w.cell? (ad b (o+i))=some (.slice ai (M i) ci)/\CM EY w ai (M i) (T i)
theorem Ci.rd {w:World} {a:Option Addr} {n:Nat} {M:Nat->Nat} {T:Nat->Nat->Tn} (h:Ci w a n M T):CO w a n M T:=by
 rcases h with h|⟨b,o,e,l⟩;.exact .inl h
 .refine .inr ⟨b,o,e,λi f=>?_⟩;obtain⟨ai,m,k,j⟩:=l i f;exact⟨ai,m,k,j.rd⟩
def OJ (m:Nat) (M:Nat->Tn) (r:Ro 21):Prop:=
 (∃y:Ro 20,r=.inr [y]/\m=Ac 20 y/\Am M 0 20 y 0)\/((∀y:Ro 20,r≠.inr [y])/\m=Ac 21 r/\Am M 0 21 r 0)
def Nd (n:Nat) (N:Nat->Tn) (key:ByteArray) (m:Nat) (M:Nat->Tn):Prop:=
 ∃t r,BE n N t/\key∈Ab 21 t/\Bu key 21 t r/\m<=5000/\OJ m M r
def Ny (n:Nat) (N:Nat->Tn) (key:ByteArray):Prop:=∀t,BE n N t->key∉Ab 21 t
def PJ (w:World) (n:Nat) (N:Nat->Tn) (key:ByteArray) (e:Ending) (w' : World):Prop:=
 Bl w w'/\∃ok a m c M,e=.returned (.agg #[.bool ok,.slice a m c])/\BQ (w.heap.size+2) w' a m M/\((ok=true/\Nd n N key m M)\/(ok=false/\m=n/\M=N/\Ny n N key))
def CH (n:Nat) (M:Nat->Nat) (T:Nat->Nat->Tn) (q:Qd):Prop:=VI n M T/\∀t,BE (M 0) (T 0) t->q∈(Ab 21 t).map (Al 0)
def NO (m0:Nat) (N0:Nat->Tn) (key:ByteArray) (m:Nat) (N:Nat->Tn):Prop:=Nd m0 N0 key m N\/(m=m0/\N=N0/\Ny m0 N0 key)
variable {B c g n:Nat}{E:Prop}{Q:Exit->Act->World->Prop}{S:Nat->Prop}{W:World}{o:Oper}{v:Value}
theorem Ec {j:World} {t:Ro d} (a:NG S j d t v) (W:World):UO 122 #[v] W (UP W (iv (An t:Int))):=by
 match d,t,a with
 | 0,t,_=>exact t.elim
 | d+1,t,a=>obtain⟨f,i,k,m,q,p,l,rfl⟩:=Av.form a;have b:=a.size;exact (GF f i q k m p l W).mono (λe w' h=>⟨by rw[h.1,show An (d:=d+1) t=Cn t from rfl,<- b];cases f <;> rfl,h.2⟩)
theorem Fr {t:Ro d} (b:NG S w d t v) (lo hi:Nat) (f:lo<hi) (a:hi<=An t) (e:An t<=1000):UO 124 #[v,iv (lo:Int),iv (hi:Int)] w (CE S w d (AH lo hi t)):=by
 match d,t,b,a,e with
 | 0,t,_,_,_=>exact t.elim
 | d+1,t,b,a,e=>exact IG d t v lo hi S w b f a e
theorem G0 {h:Nat} {t u:Ro d} {x:Value} (f:NG S w d t v) (i:NG S w d u x) (b:AE d t h) (a:AE d u h):UO 123 #[v,x] w (CE S w d (Ax t u)):=by
 match d,t,u,f,i,b,a with
 | 0,t,_,_,_,_,_=>exact t.elim
 | d+1,.inl L,.inl M,f,i,b,a=>exact NP d L M v x S w f i (by have:=b.2;omega) (by have:=a.2;omega)
 | d+1,.inr l,.inr m,f,i,b,a=>exact Mp d l m v x S w f i (by have:=b.2.1;omega) (by have:=a.2.1;omega)
 | d+1,.inl L,.inr m,f,i,b,a=>exact absurd a.2.2 (by rintro⟨q,e,_⟩;have:=b.1;omega)
 | d+1,.inr l,.inl M,f,i,b,a=>exact absurd b.2.2 (by rintro⟨q,e,_⟩;have:=a.1;omega)
structure DS (S:Nat->Prop) (w W:World) (B d g n c:Nat) (l:List (Ro d)):Prop where
 kw:KW (λb=>(S b/\b<w.heap.size)\/w.heap.size+2<=b) W B d g n c l
 bel:Bl w W
 box:Bx W (w.heap.size+1) 91 #[.bool false,.slice none 0 0,.slice none 0 0]
 sz:w.heap.size+2<=B
theorem DS.below {S:Nat->Prop} {w W b : World} {B d g n c:Nat} {l:List (Ro d)} (h:DS S w W B d g n c l) (a:Bl W b):DS S w b B d g n c l:=
 ⟨h.kw.below a,h.bel.trans (a.mono h.bel.size),h.box.below a,h.sz⟩
theorem DS.put {S:Nat->Prop} {w W:World} {B d g n c:Nat} {l:List (Ro d)} (h:DS S w W B d g n c l) (i:Nat) (hi:i<l.length) {y:Ro d} {e f a:Value} (k:NG (λb=>((S b/\b<w.heap.size)\/w.heap.size+2<=b)/\b≠g) W d y (.agg #[e,f,a])) :
  DS S w (((W.setCell (ad g (i*3)) e).setCell (ad g (i*3+1)) f).setCell (ad g (i*3+2)) a) B d g n c (l.set i y):=by have j:=h.kw.lt;have m:=h.sz;refine⟨h.kw.put i hi k,((h.bel.setCell (by show w.heap.size<=g;omega) _).setCell (by show w.heap.size<=g;omega) _).setCell (by show w.heap.size<=g;omega) _,?_,m⟩;refine h.box.of_block ?_;rw[Ur _ _ _ _ (show w.heap.size+1≠g by omega),Ur _ _ _ _ (show w.heap.size+1≠g by omega),Ur _ _ _ _ (show w.heap.size+1≠g by omega)]
theorem DS.new {f:World} {l:List (Ro d)} {e:Nat} {y:Ro e} (h:DS S w W B d g n c l) (m:Bl W f) (j:NG (λb=>(((S b/\b<w.heap.size)\/w.heap.size+2<=b)/\b≠g)\/W.heap.size<=b) f e y v):NG (λb=>((S b/\b<w.heap.size)\/w.heap.size+2<=b)/\b≠g) f e y v:=by
 have i:=h.kw.lt;have k:=h.sz;refine j.wide (λb a _=>?_);rcases a with a|a;.exact a
 .exact⟨Or.inr (by omega),by omega⟩
theorem DS.ret {l:List (Ro d)} (h:DS S w W B d g n c l) (f:0<n):CE S w (d+1) (.inr l) (.returned (.agg #[.bool false,.slice none 0 0,.slice (some (ad g 0)) n c])) (((W.setCell (ad (w.heap.size+1) 0) (.bool false)).setCell (ad (w.heap.size+1) 1) (.slice none 0 0)).setCell (ad (w.heap.size+1) 2) (.slice (some (ad g 0)) n c)):=by
 have e:=h.kw.lt;have i:=h.sz;refine⟨Ck h.bel _ (by omega) _ _ _,_,_,_,_,_,_,_,rfl,?_⟩;refine h.kw.ng f (by rw[Ey];exact Uq _) (λb a _=>⟨?_,Dz _ _ _ _ _ _ (by rcases a with a|a <;> omega)⟩) (Or.inr (by omega));rcases a with a|a;.exact Or.inl a.1
 .exact Or.inr (by omega)
theorem PD {f:Array Oper} {a:Act} {K:Act->World->Prop} (m:o.guard=none) (k:Nat) (i:Nat) (v x:Value) (j:Array TypeId)
  (p:o.op=.call { callee:=.value (.func k),args:=#[.tmp i,.const v,.const x],argTypes:=j }) (u:Value) (q:a.tmps[i]?.getD undef=u) (l:∀b w,(callFunc k b).run prog w=.ok (.enter k b) w)
  (h:UO k #[u,v,x] w λe w'=>∃r,e=.returned r/\K (a.put o.dst r) w') :
  if Region.wanted o (yielded f a.tmps)=true then Oper.wp prog o a w K Q else E:=by
 have t:Region.wanted o (yielded f a.tmps)=true:=by simp[Region.wanted,m]
 rw[if_pos t];unfold Oper.wp;simp[execOp,p,resolve,invoke,q,go_sem,l];refine h.mono ?_;rintro e w' ⟨u,rfl,s⟩;exact s
theorem KW.cells {T:Nat->Prop} {l:List (Ro d)} (h:KW T w B d g n c l) (y:0<n):∃f:List Value,U (f.length=n*3/\(∀j u,f[j]?=some u->w.cell? (ad g j)=some u)/\AN (λt v=>NG (λb=>T b/\b≠g) w d t v) l f):=by have p:=h.len;obtain⟨i,r,k⟩:=h;obtain⟨a,x,e,q⟩:=Af r;injection e with e;subst e;obtain⟨s,e,_,_,m⟩:=q (by omega);injection e with e;injection e with e;subst e;exact⟨i,by have:=k.len;rw[this,p],m,k⟩
theorem Q6 {i:Nat} (h:i<n):i+(n-(i+1))=n-1:=by omega
theorem SA (h:2<=n):n-1≠0:=by omega
theorem OA (i:Nat) (h:0<i) (a:i<=1000):IntKind.i64.wrap ((i:Int)-1)=((i-1:Nat):Int):=by rw[Uv];omega
theorem JA {f:Array Oper} {a:Act} {K:Act->World->Prop} (q:o.guard=none) (s x:Operand)
  (D:o.op=.call { callee:=.builtin .append,args:=#[s,x],argTypes:=#[89,89] })
  (B:Nat) (v:Value) (n:Nat) (xs:List Value) (z:a.eval s=v) (e:w.ownsRow B 91 3 v n xs)
  (g c:Nat) (l i k:Value) (F:a.eval x=.slice (some (ad g 0)) 1 c) (G:∀j u,[l,i,k][j]?=some u->w.cell? (ad g j)=some u) (N:∀u∈[l,i,k],u.oneCell'=true) (M:n<=1048576) (H:B<=w.heap.size)
  (h:∀b w',w'.ownsRow B 91 3 b (n+1) (xs++[l,i,k])->w.grownBy w' v.ownBlock->(b.ownBlock=v.ownBlock\/b.ownBlock=some w.heap.size)->K (a.put o.dst b) w') :
  if Region.wanted o (yielded f a.tmps)=true then Oper.wp prog o a w K Q else E:=by
 have t:Region.wanted o (yielded f a.tmps)=true:=by simp[Region.wanted,q]
 rw[if_pos t];obtain⟨J,L,r,m,p⟩:=info_parts info91;obtain⟨b,w',I,A,y,R,O⟩:=run_append_own_at (P:=prog) w B 89 o.type 91 J _ 3 56 underlying89 L r m p rfl (by decide) v n xs e (ad g 0) 1 c [l,i,k] rfl (λj u C=>by rw[BN,UI];exact G j u C) N (by unfold maxLen;omega) (by omega) H;unfold Oper.wp execOp;simp only[D,resolve,invoke,builtin,Sem.run_bind,Sem.run_pure,Result.andThen_ok,List.map_toArray,List.map_cons,List.map_nil,z,F,I];exact h b w' A y O
theorem Ri (key:ByteArray):∀(d:Nat) (t:Ro d) (v:Value) (ew:Bool) (h:Nat) (S:Nat->Prop) (w:World),NG S w d t v->Aq d ew t h->BI (Ab d t)->Ac d t<=5000->(Ab d t).length<=1099511627776->
  UO 88 #[v,.string key] w (λe w'=>∃r,Bu key d t r/\CE S w d r e w'):=by
 intro d;induction d with
 | zero=>intro t;exact t.elim
 | succ d ih=>
  intro t v ew h S w hv em ey eq dh;rcases t with L|l;.refine (QF d L v key S w hv (by obtain⟨_,q,_⟩:=em;omega)).mono (λe w' hr=>⟨_,rfl,hr⟩)
  .obtain⟨b2,b4,h',rfl,cz⟩:=em;have b6 : BI (l.flatMap (Ab d)):=ey;have df:U ((∀t,t∈l->Aq d false t h')/\BI (l.flatMap (Ab d))):=⟨cz,b6⟩;have go:U (∀(i:Nat) (hi:i<l.length) (v:Value) (S:Nat->Prop) (w:World),NG S w d l[i] v->UO 88 #[v,.string key] w (λe w'=>∃y,Bu key d l[i] y/\CE S w d y e w')):=by intro i hi v S w hv;refine ih l[i] v false h' S w hv (cz _ (UA hi)) (Ca b6 i hi) (by have:=EM d l i hi;omega) ?_;have:(Ab d l[i]).length<=(l.flatMap (Ab d)).length:=Bo d l i hi;have h3:(l.flatMap (Ab d)).length<=1099511627776:=dh;omega
   have fi:U (∀W,Bl w W->UO 115 #[v,.string key] W λe w'=>∃i:Nat,e=.returned (iv (i:Int))/\Cf l key i/\Bl W w'):=λW hW=>JH d l v key W (hv.below hW).na (λk hk=>CJ (cz _ (UA hk))) eq (λk hk=>by have:(Ab d l[k]).length<=(l.flatMap (Ab d)).length:=Bo d l k hk;have h3:(l.flatMap (Ab d)).length<=1099511627776:=dh;omega)
   obtain⟨ka,kc,b,cc,xs,rfl,⟨hs,ge⟩,hb,hl,hx,hk⟩:=hv;obtain⟨n,hn⟩:∃n,n=l.length:=⟨_,rfl⟩;have fg:U (n=l.length):=hn;have ec:U ((∀j u,xs[j]?=some u->w.cell? (ad b j)=some u)/\AN (λt v=>NG S w d t v) l xs/\b<w.heap.size):=⟨hx,hk,hb⟩;have hq:U (xs.length=n*3):=by have:=hk.len;rw[<- hn] at this;exact this
   rw[<- hn] at ge hl b2 b4 fi ⊢;obtain⟨i0,ce,f2,f4,ea⟩:=info_parts info91;have HI:U (prog.info? 91=some i0/\i0.zero=some (.agg #[.bool false,.slice none 0 0,.slice none 0 0])/\i0.size=3/\i0.bytes=56):=⟨ce,f2,f4,ea⟩;clear ih ey b6 eq dh cz hn hx hk hs ce f2 f4 ea hb;go_enter func88,ntmps88;go_wp2_with fail
   (with_reducible refine (fi.o _ ((Aa _ _).alloc (by simp) _)).mono ?_)
   rintro e N ⟨i,rfl,de,dr⟩;have HK:U (Cf l key i):=de;have hz:i<n:=by rw[fg.o];exact de.1
   have d7:=((Bx.new w #[.bool false,.slice ka 0 kc,.slice (some (ad b 0)) n cc] 91).alloc (.cells #[.bool false,.slice none 0 0,.slice none 0 0] 91)).below dr;have fv:=Bx.new (w.alloc (.cells #[.bool false,.slice ka 0 kc,.slice (some (ad b 0)) n cc] 91)) #[.bool false,.slice none 0 0,.slice none 0 0] 91;rw[UF] at fv;have c4:U (Bl w N/\w.heap.size+2<=N.heap.size):=⟨((Aa _ _).alloc (by simp) _).trans (dr.mono (by simp;omega)),by have:=dr.size;simpa using this⟩;have gx:U (Bx N w.heap.size 91 #[.bool false,.slice ka 0 kc,.slice (some (ad b 0)) n cc]/\Bx N (w.heap.size+1) 91 #[.bool false,.slice none 0 0,.slice none 0 0]):=⟨d7,fv.below dr⟩;have x2:=d7.cell 2;simp at x2;have xz:=d7.lt;have HO:U ((N.alloc (.cells #[] 91)).ownsRow N.heap.size 91 3 (.slice (some (ad N.heap.size 0)) 0 0) 0 []):=Aw N 91 N.heap.size 3 (Uq _);have g3:U (∀j u,xs[j]?=some u->(N.alloc (.cells #[] 91)).cell? (ad b j)=some u):=λj u hj=>((c4.o.1.alloc c4.o.1.size _).cell (p:=(ad b j)) ec.o.2.2).trans (ec.o.1 j u hj);clear d7 fv dr de fi;go_wp2_with (at_builtin;refine wpList_append_own_at _ rfl _ _ 89 rfl N.heap.size 91 i0 _ 3 56 underlying89 HI.o.1 HI.o.2.1 HI.o.2.2.1 HI.o.2.2.2 rfl (by decide) (.slice (some (ad N.heap.size 0)) 0 0) 0 [] rfl HO.o (ad b 0) n cc _ rfl hq.o (λj u hj=>by rw[BN,UI];exact g3.o j u hj) (ec.o.2.1.cells NG.one) (by unfold maxLen;omega) (by omega) (by simp) ?_)
   intro v3 w3 ed e8 _ gw;obtain⟨a3,Y,rfl,gs⟩:=Af ed;obtain⟨g,rfl,i6,it,_⟩:=gs (by omega);have c6:U (Bl w w3/\N.heap.size+1<=w3.heap.size/\Bx w3 (w.heap.size+1) 91 #[.bool false,.slice none 0 0,.slice none 0 0]):=by have q:Bl N w3:=(Aa _ _).grown e8 (by simp) (λg e=>by simp[Value.ownBlock] at e;omega);exact⟨c4.o.1.trans (q.mono c4.o.1.size),by have:=e8.size;simpa using this,gx.o.2.below q⟩
   have gm:U (KW (λb=>(S b/\b<w.heap.size)\/w.heap.size+2<=b) w3 N.heap.size d g n Y l):=by refine⟨xs,ed,ec.o.2.1.mono (λt v q=>NG.keep q c6.o.1.size (λb hs hl=>⟨⟨Or.inl ⟨hs,hl⟩,?_⟩,c6.o.1.block b hl⟩))⟩;have:=c4.o.2;omega
   have cn:=AS ed;clear ed e8 gw HO x2 gs;have bd:i<l.length:=by rw[<- fg.o];exact hz
   obtain⟨hc,h9,ic,g4,h7,h8,ha,z0,z1,z2,gh⟩:=gm.o.get i bd;have d1:U (UO 88 #[.agg #[.bool hc,.slice h9 ic g4,.slice h7 h8 ha],.string key] w3 (λe w'=>∃y,Bu key d l[i] y/\CE (λb=>((S b/\b<w.heap.size)\/w.heap.size+2<=b)/\b≠g) w3 d y e w')):=go.o i bd _ _ w3 gh;have i8 : (0:Int)<=(i:Int):=by omega
   have iu : (i:Int)<(n:Int):=by omega
   clear gh go;go_wp2_with fail
   (with_reducible refine d1.o.mono ?_)
   rintro e w4 ⟨y,es,ee,e9,fb,e5,fh,ff,fc,e0,rfl,c7⟩;have ea:=c4.o.2;have d4:U (DS S w w4 N.heap.size d g n Y l):=⟨gm.o.below ee,c6.o.1.trans (ee.mono c6.o.1.size),c6.o.2.2.below ee,ea⟩;have dk:U (Bu key d l[i] y):=es;have ft:U (NG (λb=>((S b/\b<w.heap.size)\/w.heap.size+2<=b)/\b≠g) w4 d y (.agg #[.bool e9,.slice fb e5 fh,.slice ff fc e0])):=by
    refine c7.wide (λb hs _=>?_);rcases hs with hs|hs;.exact hs
    .have:=c6.o.2.1;exact⟨Or.inr (by omega),by omega⟩
   have gf:=λj=>d4.o.kw.frozen j;clear c7 ee es d1 z0 z1 z2;obtain⟨i2,ir,i7,ja,iz,jb,i1,z0,z1,z2,_⟩:=d4.o.kw.get i bd;have dw:=d4.o.kw.lt;have gj:U (DS S w (((w4.setCell (ad g (i*3)) (.bool e9)).setCell (ad g (i*3+1)) (.slice fb e5 fh)).setCell (ad g (i*3+2)) (.slice ff fc e0)) N.heap.size d g n Y (l.set i y)):=d4.o.put i bd ft.o;have fz:U (∀W:World,UO 122 #[.agg #[.bool e9,.slice fb e5 fh,.slice ff fc e0]] W (UP W (iv (An y:Int)))):=λW=>Ec ft.o W;have dd:U (AE d y h'/\1<=An y/\An y<=4):=by have f7:=df.o.1 _ (UA bd);have q:=Bu.bal f7 (Ca df.o.2 i bd) dk.o;have q2:=f7.siz;exact⟨q.1,by omega,q.1.le⟩
   obtain⟨sy,d9⟩:∃sy,sy=An y:=⟨_,rfl⟩;have d3:U (sy=An y):=d9;have io:sy<=4:=by rw[d9];exact dd.o.2.2
   rw[<- d9] at fz;clear d9;go_wp2_with fail
   (with_reducible refine (fz.o _).mono ?_)
   rintro e w6 ⟨rfl,gl⟩;have a7:U (DS S w w6 N.heap.size d g n Y (l.set i y)):=gj.o.below gl;clear gl z0 z1 z2 gf d4 ft gj dw;have r0:=a7.o.box.cell 0;have r1:=a7.o.box.cell 1;have r2:=a7.o.box.cell 2;simp at r0 r1 r2;have hf:=λi=>a7.o.box.frozen i;have cb:=a7.o.box.lt;by_cases dg:2<=sy
   .have h2:decide ((2:Int)<=(sy:Int))=true:=decide_eq_true (by omega);have h5:(2:Int)<=(sy:Int):=by omega
    have il:(sy:Int) ≥ 2:=by omega
    go_wp2;refine bodyPost_ret (v:=.agg #[.bool false,.slice none 0 0,.slice (some (ad g 0)) n Y]) (by simp[results,results88,go_sem,r0,r1,r2]) rfl ⟨.inr (l.set i y),⟨i,HK.o,bd,y,dk.o,?_⟩,a7.o.ret (by omega)⟩;rw[Ex (y:=y) (by simp[bd]) (by rw[<- d3.o];exact dg)]
   .have h2:decide ((2:Int)<=(sy:Int))=false:=decide_eq_false (by omega);have h5:¬ (2:Int)<=(sy:Int):=by omega
    obtain⟨C,c0⟩:∃C,C=l.set i y:=⟨_,rfl⟩;have a6:U (C=l.set i y/\C[i]?=some y/\∀j t,C[j]?=some t->j≠i->Aq d false t h'):=by refine⟨c0,by rw[c0];simp[bd],λj t ht hj=>?_⟩;rw[c0,List.getElem?_set_ne (by omega)] at ht;exact df.o.1 t (List.mem_of_getElem? ht)
    have gq:C.length=n:=by rw[c0,List.length_set,fg.o]
    rw[<- c0] at a7;have dt:U (∀r,r=Ed C i->Bu key (d+1) (.inr l) (.inr r)):=λr hr=>⟨i,HK.o,bd,y,dk.o,by rw[<- a6.o.1,hr]⟩;have fo:U (¬ 2<=An y):=by rw[<- d3.o];exact dg
    clear c0;have ij:sy=1:=by have:=dd.o.2.1;rw[<- d3.o] at this;omega
    have f5:U (∀k t,C[k]?=some t->AE d t h'):=λk t ht=>by
     by_cases e:k=i;.subst e;rw[a6.o.2.1] at ht;injection ht with ht;subst ht;exact dd.o.1
     .exact AE.of (a6.o.2.2 k t ht e)
    go_upto_region 14 with fail
    go_cut [73] from 12 to 185 (λs wx=>∃c:Bool,s=.bool c/\U ((c=true↔0<i/\2<C7 C[i-1]?)/\DS S w wx N.heap.size d g n Y C))
    case first=>
     by_cases ce:0<i
     .skip
      have f8:decide ((0:Int)<(i:Int))=true:=decide_eq_true (by omega);have gb:(0:Int)<(i:Int):=by omega
      obtain⟨G,F,J,X,O,I,V,z0,z1,z2,Z⟩:=a7.o.kw.get (i-1) (by omega);have a2:C[i-1]?=some (C[i-1]'(by omega)):=Ut (by omega);generalize C[i-1]'(by omega)=z at Z a2;have HZ:U (C[i-1]?=some z/\Aq d false z h'):=⟨a2,a6.o.2.2 (i-1) z a2 (by omega)⟩;have d0:U (NG (λb=>((S b/\b<w.heap.size)\/w.heap.size+2<=b)/\b≠g) w6 d z (.agg #[.bool G,.slice F J X,.slice O I V])):=Z;have d2:U (∀W:World,UO 122 #[.agg #[.bool G,.slice F J X,.slice O I V]] W (UP W (iv (An z:Int)))):=λW=>Ec d0.o W;obtain⟨sz,be⟩:∃sz,sz=An z:=⟨_,rfl⟩;have a1:U (sz=An z):=be;have gg:sz<=4/\2<=sz:=by rw[be];exact⟨(AE.of HZ.o.2).le,HZ.o.2.siz⟩
      rw[<- be] at d2;clear be Z a2;go_wp2_with fail
      (with_reducible refine (d2.o _).mono ?_)
      rintro e w7 ⟨rfl,c8⟩;have ba:U (DS S w w7 N.heap.size d g n Y C):=a7.o.below c8;have fp:U (NG (λb=>((S b/\b<w.heap.size)\/w.heap.size+2<=b)/\b≠g) w7 d z (.agg #[.bool G,.slice F J X,.slice O I V])/\w7.cell? (ad g ((i-1)*3))=some (.bool G)/\w7.cell? (ad g ((i-1)*3+1))=some (.slice F J X)/\w7.cell? (ad g ((i-1)*3+2))=some (.slice O I V)):=by have dw:=a7.o.kw.lt;exact⟨d0.o.below c8,(c8.cell (p:=⟨g,_,none⟩) dw.2).trans z0,(c8.cell (p:=⟨g,_,none⟩) dw.2).trans z1,(c8.cell (p:=⟨g,_,none⟩) dw.2).trans z2⟩
      clear z0 z1 z2 c8 d0 r0 r1 r2 hf cb;have fx:U (C7 C[i-1]?=sz):=by show _=_;rw[HZ.o.1,a1.o];rfl
      by_cases h3:2<sz
      .have he:decide ((2:Int)<(sz:Int))=true:=decide_eq_true (by omega);have g2:(2:Int)<(sz:Int):=by omega
       go_wp2;go_meet
       exact⟨true,rfl,⟨⟨λ_=>⟨ce,by rw[fx.o];exact h3⟩,λ_=>rfl⟩,ba.o⟩⟩
      .have he:decide ((2:Int)<(sz:Int))=false:=decide_eq_false (by omega);have g2:¬ (2:Int)<(sz:Int):=by omega
       go_wp2;go_meet
       exact⟨false,rfl,⟨⟨λq=>(by cases q),λq=>absurd q.2 (by rw[fx.o];exact h3)⟩,ba.o⟩⟩
     .have f8:decide ((0:Int)<(i:Int))=false:=decide_eq_false (by omega);have gb:¬ (0:Int)<(i:Int):=by omega
      go_wp2;go_meet
      exact⟨false,rfl,⟨⟨λq=>(by cases q),λq=>absurd q.1 ce⟩,a7.o⟩⟩
    case rest=>
     obtain⟨c1,rfl,dy⟩:=hcut;obtain⟨w7,rfl⟩:∃x,x=wc:=⟨_,rfl⟩;clear a7 r0 r1 r2 hf cb;have ba:U (DS S w w7 N.heap.size d g n Y C):=dy.o.2;cases c1 with
     | true=>
      obtain⟨ce,h3⟩:=dy.o.1.1 rfl;clear dy;obtain⟨G,F,J,X,O,I,V,z0,z1,z2,Z⟩:=ba.o.kw.get (i-1) (by omega);have a2:C[i-1]?=some (C[i-1]'(by omega)):=Ut (by omega);generalize C[i-1]'(by omega)=z at Z a2;have HZ:U (C[i-1]?=some z/\Aq d false z h'):=⟨a2,a6.o.2.2 (i-1) z a2 (by omega)⟩;rw[a2] at h3;have d2:U (∀W:World,UO 122 #[.agg #[.bool G,.slice F J X,.slice O I V]] W (UP W (iv (An z:Int)))):=λW=>Ec Z W;obtain⟨sz,be⟩:∃sz,sz=An z:=⟨_,rfl⟩;replace h3:2<sz:=by rw[be];exact h3
      have a1:U (sz=An z):=be;have gg:sz<=4/\2<=sz:=by rw[be];exact⟨(AE.of HZ.o.2).le,HZ.o.2.siz⟩
      rw[<- be] at d2;have fp:U (NG (λb=>((S b/\b<w.heap.size)\/w.heap.size+2<=b)/\b≠g) w7 d z (.agg #[.bool G,.slice F J X,.slice O I V])):=Z;have gz:IntKind.i64.wrap ((i:Int)-1)=((i-1:Nat):Int):=by rw[Uv];omega
      have gr:(0:Int)<=((i-1:Nat):Int):=by omega
      have gt:((i-1:Nat):Int)<(n:Int):=by omega
      clear be Z a2;go_wp2_with fail
      (with_reducible refine (d2.o _).mono ?_)
      rintro e w8 ⟨rfl,dc⟩;have cv:=ba.o.kw.lt;have el:U (DS S w w8 N.heap.size d g n Y C):=ba.o.below dc;have ek:U (NG (λb=>((S b/\b<w.heap.size)\/w.heap.size+2<=b)/\b≠g) w8 d z (.agg #[.bool G,.slice F J X,.slice O I V])/\w8.cell? (ad g ((i-1)*3))=some (.bool G)/\w8.cell? (ad g ((i-1)*3+1))=some (.slice F J X)/\w8.cell? (ad g ((i-1)*3+2))=some (.slice O I V)):=⟨fp.o.below dc,(dc.cell (p:=⟨g,_,none⟩) cv.2).trans z0,(dc.cell (p:=⟨g,_,none⟩) cv.2).trans z1,(dc.cell (p:=⟨g,_,none⟩) cv.2).trans z2⟩;clear z0 z1 z2 dc cv fp ba;obtain⟨am,ac,al,af,ae,ah,aj,y0,y1,y2,ak⟩:=el.o.kw.get i (by omega);have cw : C[i]'(by omega)=y:=by have q:=a6.o.2.1;rw[Ut (by omega)] at q;injection q
      rw[cw] at ak;have dz:=el.o.kw.lt;have T:U (NG (λb=>((S b/\b<w.heap.size)\/w.heap.size+2<=b)/\b≠g) w8.drew d z (.agg #[.bool G,.slice F J X,.slice O I V])/\NG (λb=>((S b/\b<w.heap.size)\/w.heap.size+2<=b)/\b≠g) w8.drew d y (.agg #[.bool am,.slice ac al af,.slice ae ah aj])/\DS S w w8.drew N.heap.size d g n Y C):=⟨ek.o.1.below (Up _ _).drew,NG.below ak (Up _ _).drew,el.o.below (Up _ _).drew⟩;have A:U (∀w',Below w8.drew.heap.size w8.drew w'->w'.cell? (ad g ((i-1)*3))=some (.bool G)/\w'.cell? (ad g ((i-1)*3+1))=some (.slice F J X)/\w'.cell? (ad g ((i-1)*3+2))=some (.slice O I V)/\w'.cell? (ad g (i*3))=some (.bool am)/\w'.cell? (ad g (i*3+1))=some (.slice ac al af)/\w'.cell? (ad g (i*3+2))=some (.slice ae ah aj)):=by intro w' hb;obtain⟨_,z0,z1,z2⟩:=ek.o;have P : g<w8.drew.heap.size:=dz.2;exact⟨(hb.cell (p:=⟨g,_,none⟩) P).trans z0,(hb.cell (p:=⟨g,_,none⟩) P).trans z1,(hb.cell (p:=⟨g,_,none⟩) P).trans z2,(hb.cell (p:=⟨g,_,none⟩) P).trans y0,(hb.cell (p:=⟨g,_,none⟩) P).trans y1,(hb.cell (p:=⟨g,_,none⟩) P).trans y2⟩
      have gd:IntKind.i64.wrap ((sz:Int)-1)=((sz-1:Nat):Int):=by rw[Uv];omega
      have ch:U (UO 124 #[.agg #[.bool G,.slice F J X,.slice O I V],iv (IntKind.i64.wrap ((sz:Int)-1)),iv (sz:Int)] w8.drew (CE (λb=>((S b/\b<w.heap.size)\/w.heap.size+2<=b)/\b≠g) w8.drew d (AH (sz-1) sz z))):=by rw[gd];exact Fr T.o.1 (sz-1) sz (by omega) (by rw[a1.o];exact Uq _) (by rw[<- a1.o];omega)
      obtain⟨_,z0,z1,z2⟩:=ek.o;clear ak gd;go_wp2_with fail
      generalize hR:w8.drew=R at T A ch;refine Aj (S:=λw'=>w'.cell? (ad g ((i-1)*3))=some (.bool G)/\w'.cell? (ad g ((i-1)*3+1))=some (.slice F J X)/\w'.cell? (ad g ((i-1)*3+2))=some (.slice O I V)/\w'.cell? (ad g (i*3))=some (.bool am)/\w'.cell? (ad g (i*3+1))=some (.slice ac al af)/\w'.cell? (ad g (i*3+2))=some (.slice ae ah aj)) 17 (by kernel_rfl) ?_ (λa=>?_);·(rw[hR];exact A.o _ (Up _ _))
      rw[hR] at a ⊢;clear hR z0 z1 z2 y0 y1 y2;refine tz 0 rfl ?_;refine tz 1 rfl ?_;refine tz 2 rfl ?_;refine tz 3 rfl ?_;refine tz 4 rfl ?_;refine tz 5 rfl ?_;refine tz 6 rfl ?_;refine tz 7 rfl ?_;refine tz 8 rfl ?_;refine tz 9 rfl ?_;refine tz 11 rfl ?_;refine tz 12 rfl ?_;refine tz 13 rfl ?_;refine tz 14 rfl ?_;refine At 10 rfl (λK hK=>?_);refine Gv (by rfl) 124 86 88 89 _ (by rfl) (.agg #[.bool G,.slice F J X,.slice O I V]) (iv (IntKind.i64.wrap ((sz:Int)-1))) (iv (sz:Int)) (by rfl) (by rfl) (by rfl) (λ_ _=>by rfl) ?_;(with_reducible refine ch.o.mono ?_)
      rintro e w9 ⟨cq,cg,cd,ci,cp,cj,cr,co,rfl,dp⟩;refine⟨_,rfl,?_⟩;have ax:U (Bl R w9/\NG (λb=>((S b/\b<w.heap.size)\/w.heap.size+2<=b)/\b≠g) w9 d (AH (sz-1) sz z) (.agg #[.bool cg,.slice cd ci cp,.slice cj cr co])):=⟨cq,T.o.2.2.new cq dp⟩;clear dp cq;refine tL hK (by exact A.o _ ax.o.1) ?_;clear hK K a;intro a;try simp only[Ay]
      have HJ:U (UO 123 #[.agg #[.bool cg,.slice cd ci cp,.slice cj cr co],.agg #[.bool am,.slice ac al af,.slice ae ah aj]] w9 (CE (λb=>((S b/\b<w.heap.size)\/w.heap.size+2<=b)/\b≠g) w9 d (Ax (AH (sz-1) sz z) y))):=G0 ax.o.2 (NG.below T.o.2.1 ax.o.1) ((AE.of HZ.o.2).cut (lo:=sz-1) (hi:=sz) (by omega) (by rw[a1.o];exact Uq _)).1 dd.o.1;refine At 15 rfl (λK hK=>?_);refine GK (by rfl) 123 90 94 _ (by rfl) (.agg #[.bool cg,.slice cd ci cp,.slice cj cr co]) (.agg #[.bool am,.slice ac al af,.slice ae ah aj]) (by rfl) (by rfl) (λ_ _=>by rfl) ?_;(with_reducible refine HJ.o.mono ?_)
      rintro e a4 ⟨ay,au,av,ap,aw,aq,ar,ao,rfl,b3⟩;refine⟨_,rfl,?_⟩;have cm:U (DS S w w9 N.heap.size d g n Y C):=T.o.2.2.below ax.o.1;have M:U (Bl R a4/\NG (λb=>((S b/\b<w.heap.size)\/w.heap.size+2<=b)/\b≠g) a4 d (Ax (AH (sz-1) sz z) y) (.agg #[.bool au,.slice av ap aw,.slice aq ar ao])/\DS S w a4 N.heap.size d g n Y C):=⟨ax.o.1.trans (ay.mono ax.o.1.size),cm.o.new ay b3,cm.o.below ay⟩;clear b3 ay cm HJ;refine tL hK (by exact A.o _ M.o.1) ?_;clear hK K a;intro a;try simp only[Ay]
      refine At 16 rfl (λK hK=>?_);go_simp;refine tL hK (by exact a) ?_;clear hK K a;intro a;try simp only[Ay]
      obtain⟨u0,u1,u2,u3,u4,u5⟩:=A.o a4 M.o.1;have gf:=λj=>M.o.2.2.kw.frozen j;refine At 17 rfl (λK hK=>?_);go_simp;refine tM hK ?_;clear hK K;have ip:U (C.length=n/\(C.set i (Ax (AH (sz-1) sz z) y)).length=n):=⟨gq,by rw[List.length_set,gq]⟩;have H:U (DS S w (((a4.setCell (ad g (i*3)) (.bool au)).setCell (ad g (i*3+1)) (.slice av ap aw)).setCell (ad g (i*3+2)) (.slice aq ar ao)) N.heap.size d g n Y (C.set i (Ax (AH (sz-1) sz z) y))):=M.o.2.2.put i (by omega) M.o.2.1;clear u0 u1 u2 u3 u4 u5 gf a M ax ch A T el ek;generalize ((a4.setCell (ad g (i*3)) (.bool au)).setCell (ad g (i*3+1)) (.slice av ap aw)).setCell (ad g (i*3+2)) (.slice aq ar ao)=di at H ⊢;obtain⟨fk,fu,e3,fs,e4,fn,fe,z0,z1,z2,bb⟩:=H.o.kw.get (i-1) (by rw[List.length_set];omega);have ds:(C.set i (Ax (AH (sz-1) sz z) y))[i-1]'(by rw[List.length_set];omega)=z:=by rw[List.getElem_set_ne (by omega)];have q:=HZ.o.1;rw[Ut (by omega)] at q;injection q
      rw[ds] at bb;have dx:U (UO 124 #[.agg #[.bool fk,.slice fu e3 fs,.slice e4 fn fe],iv 0,iv ((sz-1:Nat):Int)] di (CE (λb=>((S b/\b<w.heap.size)\/w.heap.size+2<=b)/\b≠g) di d (AH 0 (sz-1) z))):=Fr bb 0 (sz-1) (by omega) (by rw[<- a1.o];omega) (by rw[<- a1.o];omega);have cs:=H.o.kw.lt;have gf:=λj=>H.o.kw.frozen j;have i9:(sz:Int)-1=((sz-1:Nat):Int):=by omega
      clear bb ds;go_wp2_with fail
      (with_reducible refine dx.o.mono ?_)
      rintro e bp ⟨a9,ca,b9,cf,cl,ck,b8,b7,rfl,dm⟩;have ag:U (DS S w bp N.heap.size d g n Y (C.set i (Ax (AH (sz-1) sz z) y))):=H.o.below a9;have d6:U (NG (λb=>((S b/\b<w.heap.size)\/w.heap.size+2<=b)/\b≠g) bp d (AH 0 (sz-1) z) (.agg #[.bool ca,.slice b9 cf cl,.slice ck b8 b7])):=H.o.new a9 dm;clear z0 z1 z2 a9 dm dx gf cs;obtain⟨g7,hy,h6,h1,ho,hh,g9,z0,z1,z2,_⟩:=ag.o.kw.get (i-1) (by rw[List.length_set];omega);have gf:=λj=>ag.o.kw.frozen j;have fa:=ag.o.kw.lt;have ga:=ag.o.sz;have D:U (DS S w (((bp.setCell (ad g ((i-1)*3)) (.bool ca)).setCell (ad g ((i-1)*3+1)) (.slice b9 cf cl)).setCell (ad g ((i-1)*3+2)) (.slice ck b8 b7)) N.heap.size d g n Y ((C.set i (Ax (AH (sz-1) sz z) y)).set (i-1) (AH 0 (sz-1) z))):=ag.o.put (i-1) (by rw[List.length_set];omega) d6.o;have r0:=D.o.box.cell 0;have r1:=D.o.box.cell 1;have r2:=D.o.box.cell 2;simp only[List.getElem?_toArray,List.getElem?_cons_zero,List.getElem?_cons_succ] at r0 r1 r2;have hf:=λi=>D.o.box.frozen i;have cb:=D.o.box.lt;go_wp2;clear r0 r1 r2 hf cb gf z0 z1 z2;generalize ((bp.setCell (ad g ((i-1)*3)) (.bool ca)).setCell (ad g ((i-1)*3+1)) (.slice b9 cf cl)).setCell (ad g ((i-1)*3+2)) (.slice ck b8 b7)=hw at D ⊢;have r0:=D.o.box.cell 0;have r1:=D.o.box.cell 1;have r2:=D.o.box.cell 2;simp at r0 r1 r2;refine bodyPost_ret (v:=.agg #[.bool false,.slice none 0 0,.slice (some (ad g 0)) n Y]) (by simp[results,results88,go_sem,r0,r1,r2]) rfl ⟨_,dt.o _ ?_,D.o.ret (by omega)⟩;rw[Ew a6.o.2.1 fo.o ce HZ.o.1 (by rw[<- a1.o];exact h3),<- a1.o]
     | false=>
      have f6:U (¬ (0<i/\2<C7 C[i-1]?)):=λq=>absurd (dy.o.1.2 q) (by decide);clear dy;go_upto_region 19 with fail
      go_cut [124] from 12 to 185 (λs wx=>∃c:Bool,s=.bool c/\U ((c=true↔i+1<n/\2<C7 C[i+1]?)/\DS S w wx N.heap.size d g n Y C))
      case first=>
       by_cases e2:i+1<n
       .skip
        have f1:decide ((i:Int)+1<(n:Int))=true:=decide_eq_true (by omega);have eu:(i:Int)+1<(n:Int):=by omega
        obtain⟨bq,br,bw,bv,bu,bx,bm,z0,z1,z2,an⟩:=ba.o.kw.get (i+1) (by omega);have bc:C[i+1]?=some (C[i+1]'(by omega)):=Ut (by omega);generalize C[i+1]'(by omega)=x at an bc;have HX:U (C[i+1]?=some x/\Aq d false x h'):=⟨bc,a6.o.2.2 (i+1) x bc (by omega)⟩;have dj:U (∀W:World,UO 122 #[.agg #[.bool bq,.slice br bw bv,.slice bu bx bm]] W (UP W (iv (An x:Int)))):=λW=>Ec an W;obtain⟨sx,bi⟩:∃sx,sx=An x:=⟨_,rfl⟩;have a0:U (sx=An x):=bi;have f3:sx<=4/\2<=sx:=by rw[bi];exact⟨(AE.of HX.o.2).le,HX.o.2.siz⟩
        rw[<- bi] at dj;clear bi an bc;go_wp2_with fail
        (with_reducible refine (dj.o _).mono ?_)
        rintro e eb ⟨rfl,eo⟩;have aa:U (DS S w eb N.heap.size d g n Y C):=ba.o.below eo;have gp:U (C7 C[i+1]?=sx):=by show _=_;rw[HX.o.1,a0.o];rfl
        clear z0 z1 z2 eo;by_cases h4:2<sx
        .have ia:decide ((2:Int)<(sx:Int))=true:=decide_eq_true (by omega);have g5:(2:Int)<(sx:Int):=by omega
         go_wp2;go_meet
         exact⟨true,rfl,⟨⟨λ_=>⟨e2,by rw[gp.o];exact h4⟩,λ_=>rfl⟩,aa.o⟩⟩
        .have ia:decide ((2:Int)<(sx:Int))=false:=decide_eq_false (by omega);have g5:¬ (2:Int)<(sx:Int):=by omega
         go_wp2;go_meet
         exact⟨false,rfl,⟨⟨λq=>(by cases q),λq=>absurd q.2 (by rw[gp.o];exact h4)⟩,aa.o⟩⟩
       .have f1:decide ((i:Int)+1<(n:Int))=false:=decide_eq_false (by omega);have eu:¬ (i:Int)+1<(n:Int):=by omega
        go_wp2;go_meet
        exact⟨false,rfl,⟨⟨λq=>(by cases q),λq=>absurd q.1 e2⟩,ba.o⟩⟩
      case rest=>
       obtain⟨c2,rfl,d5⟩:=hcut;obtain⟨eb,rfl⟩:∃x,x=wc:=⟨_,rfl⟩;have aa:U (DS S w eb N.heap.size d g n Y C):=d5.o.2;clear ba;cases c2 with
       | true=>
        obtain⟨e2,h4⟩:=d5.o.1.1 rfl;clear d5;obtain⟨bq,br,bw,bv,bu,bx,bm,z0,z1,z2,an⟩:=aa.o.kw.get (i+1) (by omega);have bc:C[i+1]?=some (C[i+1]'(by omega)):=Ut (by omega);generalize C[i+1]'(by omega)=x at an bc;have HX:U (C[i+1]?=some x/\Aq d false x h'):=⟨bc,a6.o.2.2 (i+1) x bc (by omega)⟩;rw[bc] at h4;have dj:U (∀W:World,UO 122 #[.agg #[.bool bq,.slice br bw bv,.slice bu bx bm]] W (UP W (iv (An x:Int)))):=λW=>Ec an W;obtain⟨sx,bi⟩:∃sx,sx=An x:=⟨_,rfl⟩;replace h4:2<sx:=by rw[bi];exact h4
        have a0:U (sx=An x):=bi;have f3:sx<=4/\2<=sx:=by rw[bi];exact⟨(AE.of HX.o.2).le,HX.o.2.siz⟩
        rw[<- bi] at dj;have eu:(i:Int)+1<(n:Int):=by omega
        have g0:U (NG (λb=>((S b/\b<w.heap.size)\/w.heap.size+2<=b)/\b≠g) eb d x (.agg #[.bool bq,.slice br bw bv,.slice bu bx bm])):=an;clear bi an bc;go_wp2_with fail
        (with_reducible refine (dj.o _).mono ?_)
        rintro e f ⟨rfl,bk⟩;have ab:U (DS S w f N.heap.size d g n Y C):=aa.o.below bk;replace z0:=(bk.cell (p:=⟨g,_,none⟩) aa.o.kw.lt.2).trans z0;replace z1:=(bk.cell (p:=⟨g,_,none⟩) aa.o.kw.lt.2).trans z1;replace z2:=(bk.cell (p:=⟨g,_,none⟩) aa.o.kw.lt.2).trans z2;have an:=g0.o.below bk;clear bk aa g0;obtain⟨am,ac,al,af,ae,ah,aj,y0,y1,y2,ak⟩:=ab.o.kw.get i (by omega);have cw : C[i]'(by omega)=y:=by have q:=a6.o.2.1;rw[Ut (by omega)] at q;injection q
        rw[cw] at ak;have dz:=ab.o.kw.lt;have T:U (NG (λb=>((S b/\b<w.heap.size)\/w.heap.size+2<=b)/\b≠g) f.drew d x (.agg #[.bool bq,.slice br bw bv,.slice bu bx bm])/\NG (λb=>((S b/\b<w.heap.size)\/w.heap.size+2<=b)/\b≠g) f.drew d y (.agg #[.bool am,.slice ac al af,.slice ae ah aj])/\DS S w f.drew N.heap.size d g n Y C):=⟨NG.below an (Up _ _).drew,NG.below ak (Up _ _).drew,ab.o.below (Up _ _).drew⟩;have A:U (∀w',Below f.drew.heap.size f.drew w'->w'.cell? (ad g ((i+1)*3))=some (.bool bq)/\w'.cell? (ad g ((i+1)*3+1))=some (.slice br bw bv)/\w'.cell? (ad g ((i+1)*3+2))=some (.slice bu bx bm)/\w'.cell? (ad g (i*3))=some (.bool am)/\w'.cell? (ad g (i*3+1))=some (.slice ac al af)/\w'.cell? (ad g (i*3+2))=some (.slice ae ah aj)):=by intro w' hb;have P : g<f.drew.heap.size:=dz.2;exact⟨(hb.cell (p:=⟨g,_,none⟩) P).trans z0,(hb.cell (p:=⟨g,_,none⟩) P).trans z1,(hb.cell (p:=⟨g,_,none⟩) P).trans z2,(hb.cell (p:=⟨g,_,none⟩) P).trans y0,(hb.cell (p:=⟨g,_,none⟩) P).trans y1,(hb.cell (p:=⟨g,_,none⟩) P).trans y2⟩
        have gz:IntKind.i64.wrap ((i:Int)+1)=((i+1:Nat):Int):=by rw[Uv];omega
        have gr:(0:Int)<=((i+1:Nat):Int):=by omega
        have iw:(0:Int)<=(i:Int)+1:=by omega
        have gt:((i+1:Nat):Int)<(n:Int):=by omega
        have ch:U (UO 124 #[.agg #[.bool bq,.slice br bw bv,.slice bu bx bm],iv 0,iv 1] f.drew (CE (λb=>((S b/\b<w.heap.size)\/w.heap.size+2<=b)/\b≠g) f.drew d (AH 0 1 x))):=Fr T.o.1 0 1 (by omega) (by rw[<- a0.o];omega) (by rw[<- a0.o];omega);clear ak an cw;go_wp2_with fail
        generalize hR:f.drew=R at T A ch;refine Aj (S:=λw'=>w'.cell? (ad g ((i+1)*3))=some (.bool bq)/\w'.cell? (ad g ((i+1)*3+1))=some (.slice br bw bv)/\w'.cell? (ad g ((i+1)*3+2))=some (.slice bu bx bm)/\w'.cell? (ad g (i*3))=some (.bool am)/\w'.cell? (ad g (i*3+1))=some (.slice ac al af)/\w'.cell? (ad g (i*3+2))=some (.slice ae ah aj)) 14 (by kernel_rfl) ?_ (λa=>?_);·(rw[hR];exact A.o _ (Up _ _))
        rw[hR] at a ⊢;clear hR z0 z1 z2 y0 y1 y2;refine tz 0 rfl ?_;refine tz 1 rfl ?_;refine tz 2 rfl ?_;refine tz 3 rfl ?_;refine tz 4 rfl ?_;refine tz 5 rfl ?_;refine tz 6 rfl ?_;refine tz 7 rfl ?_;refine tz 8 rfl ?_;refine tz 9 rfl ?_;refine tz 10 rfl ?_;refine At 11 rfl (λK hK=>?_);refine PD (by rfl) 124 141 (iv 0) (iv 1) _ (by rfl) (.agg #[.bool bq,.slice br bw bv,.slice bu bx bm]) (by rfl) (λ_ _=>by rfl) ?_;(with_reducible refine ch.o.mono ?_)
        rintro e w9 ⟨cq,cg,cd,ci,cp,cj,cr,co,rfl,dp⟩;refine⟨_,rfl,?_⟩;have ax:U (Bl R w9/\NG (λb=>((S b/\b<w.heap.size)\/w.heap.size+2<=b)/\b≠g) w9 d (AH 0 1 x) (.agg #[.bool cg,.slice cd ci cp,.slice cj cr co])):=⟨cq,T.o.2.2.new cq dp⟩;clear dp cq;refine tL hK (by exact A.o _ ax.o.1) ?_;clear hK K a;intro a;try simp only[Ay]
        have HJ:U (UO 123 #[.agg #[.bool am,.slice ac al af,.slice ae ah aj],.agg #[.bool cg,.slice cd ci cp,.slice cj cr co]] w9 (CE (λb=>((S b/\b<w.heap.size)\/w.heap.size+2<=b)/\b≠g) w9 d (Ax y (AH 0 1 x)))):=G0 (NG.below T.o.2.1 ax.o.1) ax.o.2 dd.o.1 ((AE.of HX.o.2).cut (lo:=0) (hi:=1) (by omega) (by rw[<- a0.o];omega)).1;refine At 12 rfl (λK hK=>?_);refine GK (by rfl) 123 136 142 _ (by rfl) (.agg #[.bool am,.slice ac al af,.slice ae ah aj]) (.agg #[.bool cg,.slice cd ci cp,.slice cj cr co]) (by rfl) (by rfl) (λ_ _=>by rfl) ?_;(with_reducible refine HJ.o.mono ?_)
        rintro e a4 ⟨ay,au,av,ap,aw,aq,ar,ao,rfl,b3⟩;refine⟨_,rfl,?_⟩;have cm:U (DS S w w9 N.heap.size d g n Y C):=T.o.2.2.below ax.o.1;have M:U (Bl R a4/\NG (λb=>((S b/\b<w.heap.size)\/w.heap.size+2<=b)/\b≠g) a4 d (Ax y (AH 0 1 x)) (.agg #[.bool au,.slice av ap aw,.slice aq ar ao])/\DS S w a4 N.heap.size d g n Y C):=⟨ax.o.1.trans (ay.mono ax.o.1.size),cm.o.new ay b3,cm.o.below ay⟩;clear b3 ay cm HJ;refine tL hK (by exact A.o _ M.o.1) ?_;clear hK K a;intro a;try simp only[Ay]
        refine At 13 rfl (λK hK=>?_);go_simp;refine tL hK (by exact a) ?_;clear hK K a;intro a;try simp only[Ay]
        obtain⟨u0,u1,u2,u3,u4,u5⟩:=A.o a4 M.o.1;have gf:=λj=>M.o.2.2.kw.frozen j;refine At 14 rfl (λK hK=>?_);go_simp;refine tM hK ?_;clear hK K;have H:U (DS S w (((a4.setCell (ad g (i*3)) (.bool au)).setCell (ad g (i*3+1)) (.slice av ap aw)).setCell (ad g (i*3+2)) (.slice aq ar ao)) N.heap.size d g n Y (C.set i (Ax y (AH 0 1 x)))):=M.o.2.2.put i (by omega) M.o.2.1;clear u0 u1 u2 u3 u4 u5 gf a M ax ch A T ab;generalize ((a4.setCell (ad g (i*3)) (.bool au)).setCell (ad g (i*3+1)) (.slice av ap aw)).setCell (ad g (i*3+2)) (.slice aq ar ao)=di at H ⊢;obtain⟨fk,fu,e3,fs,e4,fn,fe,z0,z1,z2,bb⟩:=H.o.kw.get (i+1) (by rw[List.length_set];omega);have ds:(C.set i (Ax y (AH 0 1 x)))[i+1]'(by rw[List.length_set];omega)=x:=by rw[List.getElem_set_ne (by omega)];have q:=HX.o.1;rw[Ut (by omega)] at q;injection q
        rw[ds] at bb;have dx:U (UO 124 #[.agg #[.bool fk,.slice fu e3 fs,.slice e4 fn fe],iv 1,iv (sx:Int)] di (CE (λb=>((S b/\b<w.heap.size)\/w.heap.size+2<=b)/\b≠g) di d (AH 1 sx x))):=Fr bb 1 sx (by omega) (by rw[<- a0.o];exact Uq _) (by rw[<- a0.o];omega);have cs:=H.o.kw.lt;have gf:=λj=>H.o.kw.frozen j;clear bb ds;go_wp2_with fail
        (with_reducible refine dx.o.mono ?_)
        rintro e bp ⟨a9,ca,b9,cf,cl,ck,b8,b7,rfl,dm⟩;have ag:U (DS S w bp N.heap.size d g n Y (C.set i (Ax y (AH 0 1 x)))):=H.o.below a9;have d6:U (NG (λb=>((S b/\b<w.heap.size)\/w.heap.size+2<=b)/\b≠g) bp d (AH 1 sx x) (.agg #[.bool ca,.slice b9 cf cl,.slice ck b8 b7])):=H.o.new a9 dm;clear z0 z1 z2 a9 dm dx gf cs;obtain⟨g7,hy,h6,h1,ho,hh,g9,z0,z1,z2,_⟩:=ag.o.kw.get (i+1) (by rw[List.length_set];omega);have gf:=λj=>ag.o.kw.frozen j;have fa:=ag.o.kw.lt;have ga:=ag.o.sz;have D:U (DS S w (((bp.setCell (ad g ((i+1)*3)) (.bool ca)).setCell (ad g ((i+1)*3+1)) (.slice b9 cf cl)).setCell (ad g ((i+1)*3+2)) (.slice ck b8 b7)) N.heap.size d g n Y ((C.set i (Ax y (AH 0 1 x))).set (i+1) (AH 1 sx x))):=ag.o.put (i+1) (by rw[List.length_set];omega) d6.o;have r0:=D.o.box.cell 0;have r1:=D.o.box.cell 1;have r2:=D.o.box.cell 2;simp only[List.getElem?_toArray,List.getElem?_cons_zero,List.getElem?_cons_succ] at r0 r1 r2;have hf:=λi=>D.o.box.frozen i;have cb:=D.o.box.lt;go_wp2;clear r0 r1 r2 hf cb gf z0 z1 z2;generalize ((bp.setCell (ad g ((i+1)*3)) (.bool ca)).setCell (ad g ((i+1)*3+1)) (.slice b9 cf cl)).setCell (ad g ((i+1)*3+2)) (.slice ck b8 b7)=hw at D ⊢;have r0:=D.o.box.cell 0;have r1:=D.o.box.cell 1;have r2:=D.o.box.cell 2;simp at r0 r1 r2;refine bodyPost_ret (v:=.agg #[.bool false,.slice none 0 0,.slice (some (ad g 0)) n Y]) (by simp[results,results88,go_sem,r0,r1,r2]) rfl ⟨_,dt.o _ ?_,D.o.ret (by omega)⟩;rw[Du a6.o.2.1 fo.o f6.o HX.o.1 (by rw[<- a0.o];exact h4),<- a0.o]
       | false=>
        have ie:U (¬ 2<C7 C[i+1]?):=λq=>by
         by_cases e:i+1<n;.exact absurd (d5.o.1.2 ⟨e,q⟩) (by decide)
         .rw[List.getElem?_eq_none (by omega)] at q;exact absurd q (by simp[C7])
        clear d5;obtain⟨m,hm⟩:∃m,m=max i 1:=⟨_,rfl⟩;have gu:0<m:=by omega
        have fq:m<n:=by omega
        go_upto_if 159 with fail
        go_cut [7] from 12 to 185 (λs wx=>s=iv (m:Int)/\U (DS S w wx N.heap.size d g n Y C))
        case first=>
         by_cases iq:i=0
         .have e1:m=1:=by omega
          have hd:decide ((i:Int)=0)=true:=decide_eq_true (by omega);go_wp2;go_meet
          exact⟨by rw[e1];rfl,aa.o⟩
         .have e1:m=i:=by omega
          have hd:decide ((i:Int)=0)=false:=decide_eq_false (by omega);go_wp2;go_meet
          exact⟨by rw[e1],aa.o⟩
        case rest=>
         obtain⟨rfl,f0⟩:=hcut;obtain⟨f,rfl⟩:∃x,x=wc:=⟨_,rfl⟩;have ab:U (DS S w f N.heap.size d g n Y C):=f0.o;have HM:U (m=max i 1):=hm;clear f0 hm aa;have hcut:m-1<=n:=by omega
         obtain⟨bg,bf⟩:=ab.o.kw.cells (by omega);have HO:U ((f.alloc (.cells #[] 91)).ownsRow f.heap.size 91 3 (.slice (some (ad f.heap.size 0)) 0 0) 0 []):=Aw f 91 f.heap.size 3 (Uq _);have a5:=ab.o.kw.lt;have HY:U ((bg.take ((m-1)*3)).length=(m-1)*3/\(∀j u,(bg.take ((m-1)*3))[j]?=some u->(f.alloc (.cells #[] 91)).cell? (ad g j)=some u)/\AN (λt v=>NG (λb=>((S b/\b<w.heap.size)\/w.heap.size+2<=b)/\b≠g) f d t v) (C.take (m-1)) (bg.take ((m-1)*3))):=by
          refine⟨by rw[UE,bf.o.1];omega,λj u hj=>?_,AN.take (m-1) bf.o.2.2⟩;rw[List.getElem?_take] at hj;split at hj;.exact ((Aa f _).cell (p:=(ad g j)) a5.2).trans (bf.o.2.1 j u hj)
          .cases hj
         have gk:∀W:World,(Instr.sliceAt 89 (.slice (some (ad g 0)) n Y) none (some (iv ((m-1:Nat):Int))) none).run prog W=.ok (.slice (some (ad g 0)) (m-1) Y) W:=λW=>RU g 0 n Y (m-1) hcut cn.1 W;go_wp2_with (at_builtin;refine wpList_append_own_at _ rfl _ _ 89 rfl f.heap.size 91 i0 _ 3 56 underlying89 HI.o.1 HI.o.2.1 HI.o.2.2.1 HI.o.2.2.2 rfl (by decide) (.slice (some (ad f.heap.size 0)) 0 0) 0 [] rfl HO.o (ad g 0) (m-1) Y _ rfl HY.o.1 (λj u hj=>by rw[BN,UI];exact HY.o.2.1 j u hj) (HY.o.2.2.cells NG.one) (by unfold maxLen;omega) (by omega) (by simp) ?_)
         intro iy az dl en _ e6;obtain⟨eh,d8,rfl,_⟩:=Af dl;have ej:Bl f az:=(Aa _ _).grown en (by simp) (λg e=>by simp[Value.ownBlock] at e;omega);have ik:U (DS S w az N.heap.size d g n Y C):=ab.o.below ej;have fw:U (az.ownsRow f.heap.size 91 3 (.slice eh (m-1) d8) (m-1) (bg.take ((m-1)*3))/\Bl f az/\f.heap.size<=az.heap.size):=⟨dl,ej,ej.size⟩;clear dl en e6 ej HO gk;obtain⟨am,ac,al,af,ae,ah,aj,y0,y1,y2,ak⟩:=E3 (K:=KS (λb=>((S b/\b<w.heap.size)\/w.heap.size+2<=b)/\b≠g) f) (S:=λb=>((S b/\b<w.heap.size)\/w.heap.size+2<=b)/\b≠g) bf.o.2.1 bf.o.2.2 m (by omega);obtain⟨G,F,J,X,O,I,V,z0,z1,z2,Z⟩:=E3 (K:=KS (λb=>((S b/\b<w.heap.size)\/w.heap.size+2<=b)/\b≠g) f) (S:=λb=>((S b/\b<w.heap.size)\/w.heap.size+2<=b)/\b≠g) bf.o.2.1 bf.o.2.2 (m-1) (by omega);have a2:C[m-1]?=some (C[m-1]'(by omega)):=Ut (by omega);have c7:C[m]?=some (C[m]'(by omega)):=Ut (by omega);generalize C[m-1]'(by omega)=z at Z a2;generalize C[m]'(by omega)=y9 at ak c7;have eg:U (C[m-1]?=some z/\C[m]?=some y9):=⟨a2,c7⟩;clear a2 c7;have c9:Bl f az.drew:=fw.o.2.1.drew;have dq:U (NG (λb=>(((S b/\b<w.heap.size)\/w.heap.size+2<=b)/\b≠g)/\b<f.heap.size) az.drew d z (.agg #[.bool G,.slice F J X,.slice O I V])/\NG (λb=>(((S b/\b<w.heap.size)\/w.heap.size+2<=b)/\b≠g)/\b<f.heap.size) az.drew d y9 (.agg #[.bool am,.slice ac al af,.slice ae ah aj])):=⟨NG.keep Z c9.size (λb hs hl=>⟨⟨hs,hl⟩,c9.block b hl⟩),NG.keep ak c9.size (λb hs hl=>⟨⟨hs,hl⟩,c9.block b hl⟩)⟩;have A:U (∀w',Bl f w'->w'.cell? (ad g ((m-1)*3))=some (.bool G)/\w'.cell? (ad g ((m-1)*3+1))=some (.slice F J X)/\w'.cell? (ad g ((m-1)*3+2))=some (.slice O I V)/\w'.cell? (ad g (m*3))=some (.bool am)/\w'.cell? (ad g (m*3+1))=some (.slice ac al af)/\w'.cell? (ad g (m*3+2))=some (.slice ae ah aj)):=by intro w' da;exact⟨(da.cell (p:=⟨g,_,none⟩) a5.2).trans z0,(da.cell (p:=⟨g,_,none⟩) a5.2).trans z1,(da.cell (p:=⟨g,_,none⟩) a5.2).trans z2,(da.cell (p:=⟨g,_,none⟩) a5.2).trans y0,(da.cell (p:=⟨g,_,none⟩) a5.2).trans y1,(da.cell (p:=⟨g,_,none⟩) a5.2).trans y2⟩
         have gz:IntKind.i64.wrap ((m:Int)-1)=((m-1:Nat):Int):=OA m gu (by omega);have gr:(0:Int)<=((m-1:Nat):Int):=by omega
         have gt:((m-1:Nat):Int)<(n:Int):=by omega
         have HJ:U (UO 123 #[.agg #[.bool G,.slice F J X,.slice O I V],.agg #[.bool am,.slice ac al af,.slice ae ah aj]] az.drew (CE (λb=>(((S b/\b<w.heap.size)\/w.heap.size+2<=b)/\b≠g)/\b<f.heap.size) az.drew d (Ax z y9))):=G0 dq.o.1 dq.o.2 (f5.o _ _ eg.o.1) (f5.o _ _ eg.o.2);have bh:U (Bl f az.drew):=c9;have bz:U (az.drew.ownsRow f.heap.size 91 3 (.slice eh (m-1) d8) (m-1) (bg.take ((m-1)*3))/\f.heap.size<=az.drew.heap.size):=⟨Ag fw.o.1 (Up _ _).drew,fw.o.2.2⟩;clear ak Z c9 z0 z1 z2 y0 y1 y2;go_wp2_with fail
         generalize hR:az.drew=R at dq HJ bz bh;refine Aj (S:=λw'=>w'.cell? (ad g ((m-1)*3))=some (.bool G)/\w'.cell? (ad g ((m-1)*3+1))=some (.slice F J X)/\w'.cell? (ad g ((m-1)*3+2))=some (.slice O I V)/\w'.cell? (ad g (m*3))=some (.bool am)/\w'.cell? (ad g (m*3+1))=some (.slice ac al af)/\w'.cell? (ad g (m*3+2))=some (.slice ae ah aj)) 13 (by kernel_rfl) ?_ (λa=>?_);·(rw[hR];exact A.o _ bh.o)
         rw[hR] at a ⊢;refine tz 0 rfl ?_;refine tz 1 rfl ?_;refine tz 2 rfl ?_;refine tz 3 rfl ?_;refine tz 4 rfl ?_;refine tz 5 rfl ?_;refine tz 6 rfl ?_;refine tz 7 rfl ?_;refine tz 8 rfl ?_;refine tz 9 rfl ?_;refine At 10 rfl (λK hK=>?_);refine GK (by rfl) 123 171 175 _ (by rfl) (.agg #[.bool G,.slice F J X,.slice O I V]) (.agg #[.bool am,.slice ac al af,.slice ae ah aj]) (by rfl) (by rfl) (λ_ _=>by rfl) ?_;(with_reducible refine HJ.o.mono ?_)
         rintro e b1 ⟨ex,au,av,ap,aw,aq,ar,ao,rfl,b3⟩;refine⟨_,rfl,?_⟩;have a8:U (Bl R b1/\NG (λb=>((((S b/\b<w.heap.size)\/w.heap.size+2<=b)/\b≠g)/\b<f.heap.size)\/R.heap.size<=b) b1 d (Ax z y9) (.agg #[.bool au,.slice av ap aw,.slice aq ar ao])):=⟨ex,b3⟩;clear b3 ex HJ;refine tL hK (by exact A.o _ (bh.o.trans (a8.o.1.mono bh.o.size))) ?_;clear hK K a;intro a;try simp only[Ay]
         refine At 11 rfl (λK hK=>?_);go_simp;refine tL hK (by exact A.o _ ((bh.o.trans (a8.o.1.mono bh.o.size)).alloc (bh.o.trans (a8.o.1.mono bh.o.size)).size _)) ?_;clear hK K a;intro a;try simp only[Ay]
         refine At 12 rfl (λK hK=>?_);refine JA (by rfl) (.tmp 166) (.tmp 177) (by rfl) f.heap.size (.slice eh (m-1) d8) (m-1) _ (by rfl) (Ag (Ag bz.o.1 a8.o.1) (Aa _ _)) b1.heap.size 1 (.bool au) (.slice av ap aw) (.slice aq ar ao) (by rfl) (λj u hj=>by rw[(Bx.new b1 #[.bool au,.slice av ap aw,.slice aq ar ao] 91).cell j];simpa using hj) (by intro u hu;simp at hu;rcases hu with rfl|rfl|rfl <;> rfl) (by omega) (by have:=a8.o.1.size;have:=bz.o.2;simp;omega) ?_;intro i5 b0 b5 cu dv;have ei:m-1+1=m:=Nat.sub_add_cancel gu;rw[ei] at b5;obtain⟨i4,fd,fm,ep⟩:=Af b5;subst fm;have g1:=AS b5;obtain⟨bt,fm,e7,ez,_⟩:=ep (by omega);subst fm;have bo:Bl f b1:=bh.o.trans (a8.o.1.mono bh.o.size);have ct:=Ah bz.o.1;have bn:Bl f b0:=(bo.alloc bo.size _).grown cu (by rw[UF];exact Nat.le_succ_of_le bo.size) (λg e=>(ct g e).1);have im:b1.heap.size+1<=b0.heap.size:=by have:=cu.size;simpa using this
         have db:U (b0.ownsRow f.heap.size 91 3 (.slice (some (ad bt 0)) m fd) m (bg.take ((m-1)*3)++[.bool au,.slice av ap aw,.slice aq ar ao])/\Bl f b0/\NG (λb=>(((((S b/\b<w.heap.size)\/w.heap.size+2<=b)/\b≠g)/\b<f.heap.size)\/R.heap.size<=b)/\b≠bt) b0 d (Ax z y9) (.agg #[.bool au,.slice av ap aw,.slice aq ar ao])/\f.heap.size<=R.heap.size):=by
          have hg:=bz.o.2;refine⟨b5,bn,NG.keep a8.o.2 (by omega) (λb hs hl=>?_),hg⟩;have f9:(Value.slice eh (m-1) d8).ownBlock≠some b:=λe=>by have q:=ct b e;rcases hs with hs|hs <;> omega
          refine⟨⟨hs,λe=>?_⟩,(cu.block b (by simp;omega) (λe=>f9 e.symm)).trans ((Aa b1 _).block b hl)⟩;rcases dv with h|h;.exact f9 (by rw[<- h,e];rfl)
          .have h' : some bt=some (b1.alloc (.cells #[.bool au,.slice av ap aw,.slice aq ar ao] 91)).heap.size:=h;injection h' with h';simp at h';omega
         have hp:U (f.heap.size<=bt/\bt<b0.heap.size):=⟨e7,ez⟩;clear b5 cu dv bo ct ep;refine tL hK (by exact A.o _ bn) ?_;clear hK K a;intro a;try simp only[Ay]
         refine At 13 rfl (λK hK=>?_);go_simp;refine tM hK ?_;clear hK K;clear a hR;obtain⟨oo,gc,et⟩:=Lm 3 g 0 (m+1) Y n cn.1 fq;have gv:∀W:World,(Instr.sliceAt 89 (.slice (some (ad g 0)) n Y) (some (iv ((m:Int)+1))) none none).run prog W=.ok (.slice (some (ad g oo)) (n-(m+1)) (Y-(m+1))) W:=λW=>by have:=R1 g 0 n Y (m+1) fq cn.1 W;rw[gc] at this;simpa using this
         have dn:U ((bg.drop ((m+1)*3)).length=(n-(m+1))*3/\(∀j u,(bg.drop ((m+1)*3))[j]?=some u->b0.cell? (ad g (oo+j))=some u)/\AN (λt v=>NG (λb=>((S b/\b<w.heap.size)\/w.heap.size+2<=b)/\b≠g) f d t v) (C.drop (m+1)) (bg.drop ((m+1)*3))):=by
          have gy:(bg.drop ((m+1)*3)).length=(n-(m+1))*3:=by rw[List.length_drop,bf.o.1];omega
          refine⟨gy,λj u hj=>?_,AN.drop (m+1) bf.o.2.2⟩;have ig:=(List.getElem?_eq_some_iff.1 hj).1;rw[gy] at ig;rw[List.getElem?_drop] at hj;rw[et (by omega),UI];exact (bn.cell (p:=⟨g,_,none⟩) a5.2).trans (bf.o.2.1 _ u hj)
         have ii:=bn.size;clear gc et;go_wp2_with (at_builtin;refine wpList_append_own_at _ rfl _ _ 89 rfl f.heap.size 91 i0 _ 3 56 underlying89 HI.o.1 HI.o.2.1 HI.o.2.2.1 HI.o.2.2.2 rfl (by decide) (.slice (some (ad bt 0)) m fd) m _ rfl db.o.1 (ad g oo) (n-(m+1)) (Y-(m+1)) _ rfl dn.o.1 (λj u hj=>by rw[BN];exact dn.o.2.1 j u hj) (dn.o.2.2.cells NG.one) (by unfold maxLen;omega) (by omega) (by omega) ?_)
         intro ix ef cy cx _ du;have g6:m+(n-(m+1))=n-1:=Q6 fq;rw[g6] at cy;obtain⟨i3,gi,fr,er⟩:=Af cy;subst fr;obtain⟨c5,fr,ib,g8,_⟩:=er (SA b2);subst fr;have bj:U (DS S w ef f.heap.size d c5 (n-1) gi (C.take (m-1)++Ax z y9::C.drop (m+1))):=by
          have fj:=Ah db.o.1;have bl:Bl f ef:=db.o.2.1.grown cx ii (λg e=>(fj g e).1);have hs:=ab.o.sz;have h0:(Value.slice (some (ad bt 0)) m fd).ownBlock=some bt:=rfl;refine⟨⟨_,cy,?_⟩,ab.o.bel.trans (bl.mono ab.o.bel.size),ab.o.box.below bl,by omega⟩;have ev:∀t v,NG (λb=>((S b/\b<w.heap.size)\/w.heap.size+2<=b)/\b≠g) f d t v->NG (λb=>((S b/\b<w.heap.size)\/w.heap.size+2<=b)/\b≠c5) ef d t v:=λt v q=>NG.keep q bl.size (λb hs hl=>⟨⟨hs.1,by omega⟩,bl.block b hl⟩);have fy:NG (λb=>((S b/\b<w.heap.size)\/w.heap.size+2<=b)/\b≠c5) ef d (Ax z y9) (.agg #[.bool au,.slice av ap aw,.slice aq ar ao]):=by
           refine NG.keep db.o.2.2.1 cx.size (λb fl hl=>⟨⟨?_,λe=>?_⟩,cx.block b hl (λe=>fl.2 (by rw[h0] at e;injection e with e))⟩)
           .rcases fl.1 with q|q;.exact q.1.1
            .exact Or.inr (by have:=db.o.2.2.2;omega)
           .rcases du with h|h;.have h' : some c5=some bt:=h;injection h' with h';exact fl.2 (by omega)
            .have h' : some c5=some b0.heap.size:=h;injection h' with h';omega
          exact AN.cat (AN.cat (dn.o.2.2.mono ev) (ts:=[Ax z y9]) (xs:=[.bool au,.slice av ap aw,.slice aq ar ao]) ⟨fy,trivial⟩) (HY.o.2.2.mono ev)
         clear cy cx du er db dn gv;have r0:=bj.o.box.cell 0;have r1:=bj.o.box.cell 1;have r2:=bj.o.box.cell 2;simp at r0 r1 r2;have hf:=λi=>bj.o.box.frozen i;have cb:=bj.o.box.lt;go_wp2;refine bodyPost_ret (v:=.agg #[.bool false,.slice none 0 0,.slice (some (ad c5 0)) (n-1) gi]) (by simp[results,results88,go_sem,r0,r1,r2]) rfl ⟨_,dt.o _ ?_,bj.o.ret (Nat.sub_pos_of_lt b2)⟩;rw[Dl (u:=z) (v:=y9) a6.o.2.1 fo.o f6.o ie.o (by rw[<- HM.o];exact eg.o.1) (by rw[<- HM.o];exact eg.o.2),<- HM.o]
end Go.Proofs.YtcnollkkigiobaaGreat
