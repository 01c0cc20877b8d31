import Derived.Test.YtcnollkkigiobaaGreatNv32
import Derived.Test.YtcnollkkigiobaaGreatNv31
set_option linter.unusedVariables false
set_option linter.unusedSimpArgs false
set_option maxRecDepth 100000
set_option maxHeartbeats 90000000
namespace Go.Proofs.YtcnollkkigiobaaGreat
open Go Go.Deep Go.RowKit Go.Proofs.Tryz
variable {d h:Nat}{root:Bool}
theorem Qk.leaf {b n:Nat} {w:World} (h:Qk (.iface 204 (pt b)) n w):UO 208 #[pt b] w λe f=>e=.returned (iv (n:Int))/\f=w:=by
 rcases h with ⟨c,e,a⟩|⟨c,e,a⟩;.injection e with _ e;rw[e];exact a
 .injection e with e _;exact absurd e (by decide)
theorem Qk.inner {b n:Nat} {w:World} (h:Qk (.iface 174 (pt b)) n w):UO 125 #[pt b] w λe f=>e=.returned (iv (n:Int))/\f=w:=by
 rcases h with ⟨c,e,a⟩|⟨c,e,a⟩;.injection e with e _;exact absurd e (by decide)
 .injection e with _ e;rw[e];exact a
theorem Bu.keys {key:ByteArray} {t r:Ro d} (c:Aq d root t h) (a:BI (Ab d t)) (e:Ac d t<=5000) (b:Bu key d t r):(Ab d r).length<=20000:=by have g:=BL (Bu.bal c a b).1.fit;have f:=Bu.nodes c a b;omega
theorem QU {key:ByteArray} {b g n:Nat} {x:Int} {l M:List (Ro (d+1))} {p:List Value} {i:List Nat} {S:Nat->Prop} {cs:List Nat} {w w2 f:World} (c:Aq (d+2) root (.inr l) h) (F:BI (Ab (d+2) (.inr l))) (m:Ac (d+2) (.inr l)<=5000) (a:Bu key (d+2) (.inr l) (.inr M)) (O:key∈Ab (d+2) (.inr l)) (K:Bx f b 179 #[iv x,.slice (some (ad g 0)) M.length n]) (k:M.length<=n/\n<=9223372036854775807) (t:∀j u,p[j]?=some u->f.cell? (ad g j)=some u) (s:Ct (λy=>S y\/y∈cs\/w2.heap.size<=y) f (d+1) M p)
  (N:∀y,S y->(y∈i/\y≠b)\/w.heap.size<=y) (z:∀y,y∈cs->y∈i/\y≠b) (Q:w.heap.size<=w2.heap.size) (r:Fz i w f) (E:b∈i) (G:b<w.heap.size) (H:g∈i) (C:g≠b) (B:g<f.heap.size) :
  UO 118 #[pt b] f λe D=>e=.returned (.tuple #[])/\Gz key (d+2) (.inr l) (.iface 174 (pt b)) i w (.returned (.bool true)) D:=by
 obtain⟨I,J,_⟩:=(Bu.bal c F a).1;have v:=Bu.keys c F m a;refine (EC (d+1) b g n x M p (λy=>(y∈i/\y≠b)\/w.heap.size<=y) f K k (by omega) (by omega) t (s.keep (Uq _) (λy L P=>⟨?_,rfl⟩)) (λq=>?_) (.inl ⟨H,C⟩) B ?_).mono ?_
 .rcases L with q|q|q;.exact N y q
  .exact .inl (z y q)
  .exact .inr (by omega)
 .rcases q with q|q;.exact q.2 rfl
  .omega
 .have q:(M.flatMap (Ab (d+1))).length<=20000:=v;omega
 .rintro e D ⟨rfl,A,o⟩;exact⟨rfl,.inr ⟨O,rfl,r.trans (FD A E),.inr M,b,E,a,o⟩⟩
theorem Of (key:ByteArray) (d B:Nat) (l:List (Ro (d+1))) (v:Value) (bs:List Nat) (w:World) (root:Bool) (h:Nat) (hO:CG B w (d+2) (.inr l) v bs) (hd:bs.Nodup) (aa:Aq (d+2) root (.inr l) h) (ha:BI (Ab (d+2) (.inr l))) (O:Ac (d+2) (.inr l)<=5000)
  (ih:∀i (C:i<l.length) (u:Value) (f:List Nat),CG B w (d+1) l[i] u f->f.Nodup->Lp u key w (Gz key (d+1) l[i] u f w)):Lp v key w (Gz key (d+2) (.inr l) v bs w):=by
 have ac:=hO.tat;have aj:=hO.lt;have am:U (Aq (d+2) root (.inr l) h/\BI (Ab (d+2) (.inr l))/\Ac (d+2) (.inr l)<=5000):=⟨aa,ha,O⟩;obtain⟨b,g,kc,xs,c,rfl,bu,hx,ho,a2,a3,rfl,af⟩:=hO;obtain⟨b2,b4,h',rfl,Y⟩:=aa;have bc : BI (l.flatMap (Ab (d+1))):=ha;have hp:∀k (h:k<l.length),0<(Ab (d+1) l[k]).length:=λk hk=>CJ (Y _ (UA hk));refine .inr ⟨b,rfl,?_⟩;have a0:=Ae (EE (d+1) b l _ h' key w ac Y b4);have Q:=AS ho;obtain⟨ln,S⟩:∃ln,ln=l.length:=⟨_,rfl⟩;have a1:U (ln=l.length):=S;rw[List.nodup_cons,List.nodup_cons] at hd;have HD:U ((b∉g::c.flatten)/\g∉c.flatten/\c.flatten.Nodup):=hd;have HO:U (w.ownsRow B 68 1 (.slice (some (ad g 0)) ln kc) ln xs):=by rw[S];exact ho
 have HX:U (Bx w b 179 #[iv ((l.flatMap (Ab (d+1))).length:Int),.slice (some (ad g 0)) ln kc]):=by rw[S];exact hx
 have P:U (∀k (h:k<l.length),∃u f,xs[k]?=some u/\c[k]?=some f/\CG B w (d+1) l[k] u f):=af;have I:U (∀x,x∈b::g::c.flatten->B<=x/\x<w.heap.size):=aj;have az:U (∀i (C:i<l.length) (u:Value) (f:List Nat),CG B w (d+1) l[i] u f->f.Nodup->Lp u key w (Gz key (d+1) l[i] u f w)):=ih;have m:U ((∀t,t∈l->Aq (d+1) false t h')/\BI (l.flatMap (Ab (d+1)))/\(∀k (h:k<l.length),0<(Ab (d+1) l[k]).length)/\(∀k (h:k<l.length),Ac (d+1) l[k]<=5000)):=⟨Y,bc,hp,λk hk=>by have q:=EM (d+1) l k hk;have q2:Ac (d+1+1) (.inr l)<=5000:=O;omega⟩
 have a9:U (c.length=l.length):=a3;obtain⟨X,hX⟩:∃X:Int,X=((l.flatMap (Ab (d+1))).length:Int):=⟨_,rfl⟩;rw[<- hX] at HX;rw[<- S] at Q a2 b2 b4;have p1:=HX.o.cell 1;simp at p1;have pz:=HX.o.lt;clear ac aj hx ho af Y ha bc hp hd ih O S a3 hX;go_enter func190,ntmps190;go_wp2_with fail
 (with_reducible refine a0.o.mono ?_)
 rintro e D ⟨i,rfl,bl,C,a5,ay⟩;subst bl;have av:U (Cf l key i):=⟨C,a5,ay⟩;obtain⟨u,f,eu,ap,au⟩:=P.o i C;have a8:i<ln:=by rw[a1.o];exact C
 have R:f∈c:=List.mem_of_getElem? ap;have N:f.Nodup:=by have:=HD.o.2.2;unfold List.Nodup at this;rw[List.pairwise_flatten] at this;exact this.1 f R
 have J:U (xs[i]?=some u/\c[i]?=some f/\f∈c):=⟨eu,ap,R⟩;have a6:U (DE (λx=>x∈f/\x≠f.headD 0) D (f.headD 0) (d+1) l[i] u):=(au.nd N).2;have bk:D.cell? (ad g i)=some u:=by rw[HO.o.cellAt i (by omega)];exact eu
 have i0:(0:Int)<=(i:Int):=by omega
 have i1:(i:Int)<(ln:Int):=by omega
 have al:=az.o i C u f au N;clear au eu ap a5 ay a0 az N R;rcases al with ⟨kb,rfl,p⟩|⟨kb,rfl,p⟩;all_goals
  first
   | have HC:U (UO 207 #[pt kb,.string key] D (Gz key (d+1) l[i] (.iface 204 (pt kb)) f D)):=p
   | have HC:U (UO 190 #[pt kb,.string key] D (Gz key (d+1) l[i] (.iface 174 (pt kb)) f D)):=p
  clear p
  go_wp2_with fail
  (with_reducible refine HC.o.mono ?_)
  rintro e A (⟨hm,rfl,ba⟩|⟨hm,rfl,ar,y,G,bf,E,F⟩)
  .have HR:U (Gz key (d+2) (.inr l) (.iface 174 (pt b)) (b::g::c.flatten) D (.returned (.bool false)) A):=.inl ⟨λq=>hm ((Hw m.o.2.1 m.o.2.2.1 av.o C).1 q),rfl,ba⟩
   clear ba hm HC
   go_wp2
   go_ret
   exact HR.o
  .have HM:U (key∈Ab (d+2) (.inr l)):=(Hw m.o.2.1 m.o.2.2.1 av.o C).2 hm
   have Z:=m.o.1 _ (UA C)
   have T:=Ca m.o.2.1 i C
   have r:U (Bu key (d+1) l[i] y/\AE (d+1) y h'/\1<=An y/\(Ab (d+1) y).length<=20000):=by
    have q:=Bu.bal Z T E
    have q2:=Z.siz
    exact⟨E,q.1,by omega,Bu.keys Z T (m.o.2.2.2 i C) E⟩
   first
    | have a4:G=kb:=F.box_eq (.inl rfl)
    | have a4:G=kb:=F.box_eq (.inr rfl)
   first
    | have bd:f.headD 0=kb:=a6.o.box_eq (.inl rfl)
    | have bd:f.headD 0=kb:=a6.o.box_eq (.inr rfl)
   subst a4
   first
    | have an:U (UO 208 #[pt G] A λe w'=>e=.returned (iv (An y:Int))/\w'=A):=F.szi.leaf
    | have an:U (UO 125 #[pt G] A λe w'=>e=.returned (iv (An y:Int))/\w'=A):=F.szi.inner
   have n:U (NR (λz=>(z∈c.flatten/\z∉c.map (λf=>f.headD 0))\/D.heap.size<=z) A d b g ln kc X (l.set i y) xs (c.map (λf=>f.headD 0))):=NR.of HX.o HO.o a1.o a2 a9.o HD.o P.o i C _ f J.o.1 J.o.2.1 ar y (by rw[bd];exact F) I.o
   have ao:U (∀z,z∈c.map (λf=>f.headD 0)->z∈c.flatten):=λz H=>by
    obtain⟨vs,hv,rfl⟩:=List.mem_map.1 H
    obtain⟨k,hk,e⟩:=List.getElem_of_mem hv
    obtain⟨u',bt,e1,e2,e3⟩:=P.o k (by rw[<- a9.o];exact hk)
    rw[Ut hk,e] at e2
    injection e2 with e2
    subst e2
    have q:=(e3.nd ((List.pairwise_flatten.1 HD.o.2.2).1 vs hv)).1
    refine List.mem_flatten.2 ⟨vs,hv,?_⟩
    cases vs with
    | nil=>exact absurd rfl q
    | cons a ts=>simp
   have aq:U (Fz (b::g::c.flatten) D A):=ar.mono (λz H=>by simp[List.mem_flatten.2 ⟨f,J.o.2.2,H⟩])
   obtain⟨cs,bb⟩:∃cs,cs=c.map (λf=>f.headD 0):=⟨_,rfl⟩
   rw[<- bb] at n ao
   obtain⟨sy,W⟩:∃sy,sy=An y:=⟨_,rfl⟩
   have aw:U (sy=An y):=W
   rw[<- W] at an
   have bq:sy<=4:=by rw[W];exact r.o.2.1.le
   have V:U (∀(w3:World) (M:List (Ro (d+1))) (ys:List Value),M=Ed (l.set i y) i->Fz (b::g::c.flatten) D w3->Bx w3 b 179 #[iv X,.slice (some (ad g 0)) M.length kc]->M.length<=kc->(∀j u,ys[j]?=some u->w3.cell? (ad g j)=some u)->Ct (λz=>((z∈c.flatten/\z∉cs)\/D.heap.size<=z)\/z∈cs\/A.heap.size<=z) w3 (d+1) M ys->UO 118 #[pt b] w3 λe w'=>e=.returned (.tuple #[])/\Gz key (d+2) (.inr l) (.iface 174 (pt b)) (b::g::c.flatten) D (.returned (.bool true)) w'):=by
    intro w3 M ys hM bg bi bn bj bp
    have ax:∀z,z∈c.flatten->z∈b::g::c.flatten/\z≠b:=λz H=>⟨by simp[H],λe=>HD.o.1 (List.mem_cons_of_mem _ (e ▸ H))⟩
    have bm:=aq.o.2.2.2.1
    have bv:=bg.2.2.2.1
    refine QU (cs:=cs) (w2:=A) am.o.1 am.o.2.1 am.o.2.2 ⟨i,av.o,C,y,r.o.1,by rw[hM]⟩ HM.o bi ⟨bn,Q.2⟩ bj bp (λz H=>?_) (λz H=>ax z (ao.o z H)) bm bg (by simp) (I.o b (by simp)).2 (by simp) (λe=>HD.o.1 (by rw[e];simp)) (by have:=(I.o g (by simp)).2;omega)
    rcases H with q|q
    .exact .inl (ax z q.1)
    .exact .inr q
   have c1:=n.o.box.cell 1
   simp at c1
   have cz:=n.o.box.lt
   first
    | have c2:A.cell? (ad g i)=some (.iface 204 (pt G)):=n.o.row i _ J.o.1
    | have c2:A.cell? (ad g i)=some (.iface 174 (pt G)):=n.o.row i _ J.o.1
   clear F ar bf hm E HC bk p1 Z T bb W
   go_wp2_with fail
   (with_reducible refine an.o.mono ?_)
   rintro e w3 ⟨rfl,br⟩
   subst w3
   by_cases ak:2<=sy
   .have bh:decide ((sy:Int)<2)=false:=decide_eq_false (by omega)
    have bo:¬ (sy:Int)<2:=by omega
    have L:U (UO 118 #[pt b] A λe w'=>e=.returned (.tuple #[])/\Gz key (d+2) (.inr l) (.iface 174 (pt b)) (b::g::c.flatten) D (.returned (.bool true)) w'):=by
     refine V.o A (l.set i y) xs (Ex (y:=y) (by simp[C]) (by rw[<- aw.o];exact ak)).symm aq.o ?_ ?_ n.o.row n.o.all
     .rw[n.o.ml]
      exact n.o.box
     .rw[n.o.ml]
      exact Q.1
    clear V
    go_wp2_with fail
    (with_reducible refine L.o.mono ?_)
    rintro e w4 ⟨rfl,s⟩
    have K:=Ae s
    clear s L
    go_wp2
    go_ret
    exact K.o
   .have bh:=decide_eq_true (by omega)
    have bo:(sy:Int)<2:=by omega
    have be:U (UO 195 #[pt b,iv (i:Int)] A (KJ (λz=>(z∈c.flatten/\z∉cs)\/D.heap.size<=z) A d b g kc X (Ed (l.set i y) i) cs)):=by
     refine LY n.o b4 b2 i a8 h' y (by simp[C]) r.o.2.1 r.o.2.2.1 (by rw[<- aw.o];exact ak) (λj t ht hj=>?_) (λt ht=>?_)
     .rw[List.getElem?_set_ne (by omega)] at ht
      exact m.o.1 t (List.mem_of_getElem? ht)
     .rcases List.mem_or_eq_of_mem_set ht with q|q
      .obtain⟨k,hk,e⟩:=List.getElem_of_mem q
       have q1:=BL (BR (m.o.1 t q))
       have q2:=m.o.2.2.2 k hk
       rw[e] at q2
       omega
      .rw[q]
       have:=r.o.2.2.2
       omega
    go_wp2_with fail
    (with_reducible refine be.o.mono ?_)
    rintro e w4 ⟨rfl,a7,ys,ag,ah,ab,ae⟩
    have L:U (UO 118 #[pt b] w4 λe w'=>e=.returned (.tuple #[])/\Gz key (d+2) (.inr l) (.iface 174 (pt b)) (b::g::c.flatten) D (.returned (.bool true)) w'):=by
     refine V.o w4 _ ys rfl (aq.o.trans (a7.mono (λz H=>?_))) ag ah ab ae
     simp only[List.mem_cons] at H ⊢
     rcases H with q|q|q
     .exact .inl q
     .exact .inr (.inl q)
     .exact .inr (.inr (ao.o z q))
    clear a7 ag ah ab ae V be
    go_wp2_with fail
    (with_reducible refine L.o.mono ?_)
    rintro e w5 ⟨rfl,s⟩
    have K:=Ae s
    clear s L
    go_wp2
    go_ret
    exact K.o
theorem Tm (key:ByteArray):∀(d:Nat) (t:Ro d) (v:Value) (a:List Nat) (root:Bool) (h B:Nat) (w:World),CG B w d t v a->a.Nodup->Aq d root t h->BI (Ab d t)->Ac d t<=5000->Lp v key w (Gz key d t v a w)
 | 0,t,v,a,root,h,B,w,hO,hd,hbal,ha,hnod=>t.elim
 | d+1,.inl L,v,a,root,h,B,w,hO,hd,hbal,ha,hnod=>Qz key d B L v a w hO hbal.2.1 ha
 | 1,.inr l,v,a,root,h,B,w,hO,hd,hbal,ha,hnod=>by
  obtain⟨g,_⟩:=hbal
  cases l with
  | nil=>simp at g
  | cons t o=>exact t.elim
 | d+2,.inr l,v,a,root,h,B,w,hO,hd,hbal,ha,hnod=>by
  have b:=hbal
  obtain⟨g,n,k,rfl,c⟩:=hbal
  refine Of key d B l v a w root _ hO hd b ha hnod (λi e u m j f=>?_)
  exact Tm key (d+1) l[i] u m false k B w j f (c _ (UA e)) (Ca (show BI (l.flatMap (Ab (d+1))) from ha) i e) (by have:=EM (d+1) l i e;have q:Ac (d+1+1) (.inr l)<=5000:=hnod;omega)
theorem Ul (p:Value) (W:World):(Instr.typeAssert (.iface 204 p) 68 174 true).run prog W=.ok (.tuple #[.pointer none,.bool false]) W:=by kernel_rfl
def MW (u:Ro 21) (w:World) (b:Nat) (S0:Nat->Prop) (e:Ending) (w' : World):Prop:=
 w'=w/\∃(D:Nat) (y:Ro D) (v' : Value) (S:Nat->Prop) (h:Nat),e=.returned v'/\AP S w D y v'/\(∀x,S x->(S0 x\/x=b)/\x<w.heap.size)/\Aq D true y h/\Ac D y<=Ac 21 u/\∀M m,m=Ac D y->Am M 0 D y 0->OJ m M u
theorem Ge (u:Ro 21) (v:Value) (b hh:Nat) (S:Nat->Prop) (w:World) (h:DE S w b 21 u v) (Y:¬ S b) (O:∀x,S x->x<w.heap.size) (W:b<w.heap.size) (j:AE 21 u hh):UO 89 #[v] w (MW u w b S):=by
 have a:=h.tao Y;have p : ∀x,S x\/x=b->(S x\/x=b)/\x<w.heap.size:=λx c=>⟨c,by
  rcases c with q|q;.exact O x q
  .omega⟩
 match u,h,j,a with
 | .inl ks,h,j,a=>obtain⟨rfl,ka,N,c,n,Z⟩:=h;have s:U (MW (.inl ks) w b S (.returned (.iface 204 (pt b))) w):=⟨rfl,21,.inl ks,_,_,hh,rfl,a,p,⟨j.1,j.2,Or.inl rfl⟩,Uq _,λM m B z=>.inr ⟨λy e=>(by cases e),B,z⟩⟩;have t6:=Ul (pt b);clear a c n Z j;go_enter func89,ntmps89;go_wp2;go_ret;exact s.o
 | .inr l,h,j,a=>
  obtain⟨rfl,g,o,N,xs,c,hg,n,K,k,J⟩:=h;obtain⟨V,Q,C,rfl,i⟩:=j;have t4:=TS (pt b);obtain⟨P,f⟩:=gn l.length;rw[<- f] at c;have A:=Ae (FI b P N _ _ w c);by_cases D:l.length=1
  .obtain⟨y,T⟩:∃y,l=[y]:=List.length_eq_one_iff.1 D;subst T;have e1:=f;subst e1;obtain⟨G,F,t⟩:=J 0 (by simp);have s:U (MW (.inr [y]) w b S (.returned G) w):=by have r:=i y (by simp);refine⟨rfl,20,y,G,S,C,rfl,t,λx c=>⟨.inl c,O x c⟩,(AE.of r).full true r.siz,?_,λM m B z=>.inl ⟨y,rfl,B,z⟩⟩;have q2:Ac 21 (.inr [y])=1+(Ac 20 y+0):=rfl;omega
   have R:=c.cell 1;simp at R;have z0:=k 0 G F;rw[Nat.add_zero] at z0;have ab:=n.1;have L:=n.2;clear a c n J k i t K f;go_enter func89,ntmps89;go_wp2_with fail
   (with_reducible refine A.o.mono ?_)
   rintro e H ⟨rfl,E⟩;subst H;go_wp2;go_ret;exact s.o
  .have s:U (MW (.inr l) w b S (.returned (.iface 174 (pt b))) w):=by have I:AE 21 (.inr l) (C+1):=⟨V,Q,C,rfl,i⟩;refine⟨rfl,21,.inr l,_,_,C+1,rfl,a,p,I.full true (by show 2<=l.length;omega),Uq _,λM m B z=>.inr ⟨λy e=>?_,B,z⟩⟩;injection e with e;rw[e] at D;exact D rfl
   have aa:=decide_eq_false (by omega);have X:¬ (P:Int)=1:=by omega
   clear a c n J k i K f D;go_enter func89,ntmps89;go_wp2_with fail
   (with_reducible refine A.o.mono ?_)
   rintro e H ⟨rfl,E⟩;subst H;go_wp2;go_ret;exact s.o
def XD (lo hi H0:Nat) (w:World) (A:Array Value) (M:Nat->Nat) (T:Nat->Nat->Tn) (q:Qd) (p:Nat):Prop:=
 A[p*2]?=some (.func (.func (BY p)) #[] #[])/\∃(t' : Ro 21) (D:Nat) (y:Ro D) (v' : Value) (S:Nat->Prop) (hh:Nat) (u:Ro 21),BE (M p) (T p) t'/\AA p q∈Ab 21 t'/\AP S w D y v'/\(∀x,S x->((lo<=x/\x<hi)\/H0<=x)/\x<w.heap.size)/\Aq D true y hh/\Bu (AA p q) 21 t' u/\Ac D y<=5000/\(∀M m,m=Ac D y->Am M 0 D y 0->OJ m M u)/\A[p*2+1]?=some v'
theorem XD.keep {lo hi a:Nat} {w w' : World} {A:Array Value} {M:Nat->Nat} {T:Nat->Nat->Tn} {q:Qd} {p:Nat} (h:XD lo hi a w A M T q p) (g:w.heap.size<=w'.heap.size) (m:∀x,((lo<=x/\x<hi)\/a<=x)->x<w.heap.size->w'.heap[x]?=w.heap[x]?):XD lo hi a w' A M T q p:=by obtain⟨l,t,D,y,o,S,i,k,n,j,s,c,u⟩:=h;exact⟨l,t,D,y,o,S,i,k,n,j,AP.keep g (λb f r=>⟨f,m b (c b f).1 r⟩) s,λx e=>⟨(c x e).1,UB (c x e).2 g⟩,u⟩
theorem XD.set {lo hi b:Nat} {w:World} {A:Array Value} {M:Nat->Nat} {T:Nat->Nat->Tn} {q:Qd} {p j:Nat} {v:Value} (h:XD lo hi b w A M T q p) (u:p≠j):XD lo hi b w (A.setIfInBounds (j*2+1) v) M T q p:=by
 obtain⟨k,s,D,y,n,S,e,i,m,f,o,r,t,c,g,l,a⟩:=h;refine⟨?_,s,D,y,n,S,e,i,m,f,o,r,t,c,g,l,?_⟩;.rw[Array.getElem?_setIfInBounds_ne (by omega)];exact k
 .rw[Array.getElem?_setIfInBounds_ne (by omega)];exact a
def Qe (w0 W:World) (M:Nat->Nat) (T:Nat->Nat->Tn) (q:Qd) (lo hi:Nat->Nat) (e:Ending) (w' : World):Prop:=
 Below (w0.heap.size+1) W w'/\((e=.returned (.bool false)/\¬ CH 6 M T q)\/(e=.returned (.bool true)/\CH 6 M T q/\∃A',Bx w' (w0.heap.size+1) 109 A'/\∀p,p<6->XD (lo p) (hi p) (W.heap.size+1) w' A' M T q p))
end Go.Proofs.YtcnollkkigiobaaGreat
