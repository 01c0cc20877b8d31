import Derived.Laws.BytesArg
import Derived.Test.YtcnollkkigiobaaGreatNv15
import Derived.Test.YtcnollkkigiobaaGreatNv18
import Derived.Test.YtcnollkkigiobaaGreatNv20
import Derived.Test.YtcnollkkigiobaaGreatNv25
set_option linter.unusedVariables false
set_option linter.unusedSimpArgs false
set_option maxRecDepth 100000
set_option maxHeartbeats 90000000
namespace Go.Proofs.YtcnollkkigiobaaGreat
open Go Go.Deep Go.RowKit Go.Proofs.Tryz
theorem Tl (key:ByteArray):∀(d:Nat) (t:Ro d) (v:Value) (f:List Nat) (e:Bool) (h B:Nat) (w:World),CG B w d t v f->f.Nodup->Aq d e t h->BI (Ab d t)->Ac d t<=5000->d<=22->B<=w.heap.size->Lc v key w (Hq key d t v f w)
 | 0,_,_,_,_,_,_,_,hO,_,_,_,_,_,_=>hO.elim
 | d+1,.inl L,v,f,e,h,B,w,hO,hd,hb,ha,hn,hd2,hB=>O9 key d B L v f w hO hb.2.1 ha hB hd
 | 1,.inr l,v,f,e,h,B,w,hO,hd,hb,ha,hn,hd2,hB=>by
  obtain⟨b,g,K,xs,F,rfl,D,N,J,s,C,rfl,p⟩:=hO
  obtain⟨_,_,_,_,q⟩:=p 0 s
  exact q.elim
 | d+2,.inr l,v,f,e,h,B,w,hO,hd,hb,ha,hn,hd2,hB=>by
  have y:=hb
  obtain⟨O,H,A,_,x⟩:=y
  exact Oy key d B l v f w e h hO hd hb ha hn hd2 hB (λi hi u us G z=>Tl key (d+1) l[i] u us false A B w G z (x _ (UA hi)) (Ca ha i hi) (by have:=EM (d+1) l i hi;have q:Ac (d+1+1) (.inr l)<=5000:=hn;omega) (by omega) hB)
theorem DE.form {S:Nat->Prop} {w:World} {b d:Nat} {t:Ro (d+1)} {v:Value} (h:DE S w b (d+1) t v):(v=.iface 204 (pt b)/\∃x f e,Bx w b 206 #[x,.slice f (Cn t) e])\/(v=.iface 174 (pt b)/\∃x f e,Bx w b 179 #[x,.slice f (Cn t) e]):=by
 rcases t with L|l;.obtain⟨rfl,f,e,i,_⟩:=h;exact .inl ⟨rfl,_,f,e,i⟩
 .obtain⟨rfl,g,o,e,xs,i,_⟩:=h;exact .inr ⟨rfl,_,_,e,i⟩
theorem Lf (d b:Nat) (t:Ro (d+1)) (v:Value) (S:Nat->Prop) (w:World) (h:DE S w b (d+1) t v) (z:Cn t<=4):UO 84 #[v] w λe w'=>e=.returned v/\w'=w:=by
 have i:decide (4<Cn t)=false:=decide_eq_false (by omega);rcases h.form with ⟨rfl,x,l,s,f⟩|⟨rfl,x,l,s,f⟩
 .have p:U (UO 210 #[pt b] w λe w'=>e=.returned (.bool false)/\w'=w):=by have:=DQ b (Cn t) s l x w f;rw[i] at this;exact this
  clear h f i;go_enter func84,ntmps84;go_wp2_with fail
  (with_reducible refine p.o.mono ?_)
  rintro e y ⟨rfl,rfl⟩;go_wp2;go_ret;exact⟨rfl,rfl⟩
 .have p:U (UO 192 #[pt b] w λe w'=>e=.returned (.bool false)/\w'=w):=by have:=Dq b (Cn t) s l x w f;rw[i] at this;exact this
  clear h f i;go_enter func84,ntmps84;go_wp2_with fail
  (with_reducible refine p.o.mono ?_)
  rintro e y ⟨rfl,rfl⟩;go_wp2;go_ret;exact⟨rfl,rfl⟩
def OY (S:Nat->Prop) (w:World) (b d:Nat) (t:Ro (d+1)) (e:Ending) (w' : World):Prop:=
 ∃v',e=.returned v'/\D9 w w' b b/\AP (λx=>S x\/x=b\/w.heap.size<=x) w' (d+2) (.inr [Bn 0 3 t,Bn 3 5 t]) v'
theorem Os (d b:Nat) (t:Ro (d+1)) (v:Value) (S:Nat->Prop) (w:World) (h:DE S w b (d+1) t v) (hb:¬ S b) (hS:∀x,S x->x<w.heap.size) (h5:Cn t=5) (hk:(Ab (d+1) t).length<=100000):UO 84 #[v] w (OY S w b d t):=by
 have Y:decide (4<Cn t)=true:=decide_eq_true (by omega);rcases h.form with ⟨rfl,x,ka,kc,i⟩|⟨rfl,x,ka,kc,i⟩
 .have V:U (UO 210 #[pt b] w λe w'=>e=.returned (.bool true)/\w'=w):=by have:=DQ b (Cn t) kc ka x w i;rw[Y] at this;exact this
  have F:U (UO 117 #[.iface 204 (pt b)] w (DK S w b d t (.iface 204 (pt b)))):=Kk d b t _ S w h hb hS h5 (by omega);clear h i Y;go_enter func84,ntmps84;go_wp2_with fail
  (with_reducible refine V.o.mono ?_)
  rintro e y ⟨rfl,G⟩;subst G;go_wp2_with fail
  (with_reducible refine F.o.mono ?_)
  rintro e w2 ⟨ur,rfl,s,D,z⟩;obtain⟨ty,f,H⟩:∃ty f,ur=.iface ty f:=by obtain⟨bb,_,_,_,q⟩:=z.count;rcases q with q|q <;> exact⟨_,_,q⟩
  subst H;have O:U (D9 y w2 b b/\AP (λx=>S x\/x=b\/y.heap.size<=x) w2 (d+1) (Bn 0 3 t) (.iface 204 (pt b))/\AP (λx=>S x\/y.heap.size<=x) w2 (d+1) (Bn 3 5 t) (.iface ty f)):=⟨s,D,z⟩;have N:=s.2.2.2.1;have l:U (UO 118 #[pt (w2.heap.size+1)] ((w2.alloc (.cells #[.iface 204 (pt b),.iface ty f] 68)).alloc (.cells #[iv 0,.slice (some (ad w2.heap.size 0)) 2 2] 179)) λe w'=>e=.returned (.tuple #[])/\((w2.alloc (.cells #[.iface 204 (pt b),.iface ty f] 68)).alloc (.cells #[iv 0,.slice (some (ad w2.heap.size 0)) 2 2] 179)).grownBy w' (some (w2.heap.size+1))/\DE (λx=>(S x\/x=b\/y.heap.size<=x)/\x<=w2.heap.size) w' (w2.heap.size+1) (d+2) (.inr [Bn 0 3 t,Bn 3 5 t]) (.iface 174 (pt (w2.heap.size+1)))):=by have W:=Bx.new (w2.alloc (.cells #[.iface 204 (pt b),.iface ty f] 68)) #[iv 0,.slice (some (ad w2.heap.size 0)) 2 2] 179;rw[UF] at W;have rx:=(Bx.new w2 #[.iface 204 (pt b),.iface ty f] 68).alloc (.cells #[iv 0,.slice (some (ad w2.heap.size 0)) 2 2] 179);have A:Bl w2 ((w2.alloc (.cells #[.iface 204 (pt b),.iface ty f] 68)).alloc (.cells #[iv 0,.slice (some (ad w2.heap.size 0)) 2 2] 179)):=(Aa _ _).alloc (by simp) _;have k1:AP (λx=>(S x\/x=b\/y.heap.size<=x)/\x<=w2.heap.size) ((w2.alloc (.cells #[.iface 204 (pt b),.iface ty f] 68)).alloc (.cells #[iv 0,.slice (some (ad w2.heap.size 0)) 2 2] 179)) (d+1) (Bn 0 3 t) (.iface 204 (pt b)):=AP.keep A.size (λx i J=>⟨⟨i,by omega⟩,A.block x J⟩) O.o.2.1;have k2:AP (λx=>(S x\/x=b\/y.heap.size<=x)/\x<=w2.heap.size) ((w2.alloc (.cells #[.iface 204 (pt b),.iface ty f] 68)).alloc (.cells #[iv 0,.slice (some (ad w2.heap.size 0)) 2 2] 179)) (d+1) (Bn 3 5 t) (.iface ty f):=AP.keep A.size (λx i J=>⟨⟨by rcases i with h|h;exact .inl h;exact .inr (.inr h),by omega⟩,A.block x J⟩) O.o.2.2;have aa:=GI h5;refine EC (d+1) (w2.heap.size+1) w2.heap.size 2 0 [Bn 0 3 t,Bn 3 5 t] [.iface 204 (pt b),.iface ty f] _ _ W (by simp) (by simp) (by simp) (λj u hj=>?_) ((Ct.one k1).app (Ct.one k2)) (λq=>by omega) ⟨.inr (.inr N),Uq _⟩ (by simp;omega) (by omega);rw[rx.cell j];simpa using hj
  clear s D z V F;go_wp2_with fail
  (with_reducible refine l.o.mono ?_)
  rintro e w3 ⟨rfl,C,p⟩;have HR:U (OY S y b d t (.returned (.iface 174 (pt (w2.heap.size+1)))) w3):=by
   have A:Bl w2 ((w2.alloc (.cells #[.iface 204 (pt b),.iface ty f] 68)).alloc (.cells #[iv 0,.slice (some (ad w2.heap.size 0)) 2 2] 179)):=(Aa _ _).alloc (by simp) _;have K:=A.grown C (by simp;omega) (λg e=>by injection e with e;omega);refine⟨_,rfl,O.o.1.trans (Ke b b K),AP.wide (p.tao (λq=>by omega)) (λx i _=>?_)⟩;rcases i with i|i;.exact i.1
   .exact .inr (.inr (by omega))
  clear C p l;go_wp2;go_ret;exact HR.o
 .have V:U (UO 192 #[pt b] w λe w'=>e=.returned (.bool true)/\w'=w):=by have:=Dq b (Cn t) kc ka x w i;rw[Y] at this;exact this
  have F:U (UO 117 #[.iface 174 (pt b)] w (DK S w b d t (.iface 174 (pt b)))):=Kk d b t _ S w h hb hS h5 (by omega);clear h i Y;go_enter func84,ntmps84;go_wp2_with fail
  (with_reducible refine V.o.mono ?_)
  rintro e y ⟨rfl,G⟩;subst G;go_wp2_with fail
  (with_reducible refine F.o.mono ?_)
  rintro e w2 ⟨ur,rfl,s,D,z⟩;obtain⟨ty,f,H⟩:∃ty f,ur=.iface ty f:=by obtain⟨bb,_,_,_,q⟩:=z.count;rcases q with q|q <;> exact⟨_,_,q⟩
  subst H;have O:U (D9 y w2 b b/\AP (λx=>S x\/x=b\/y.heap.size<=x) w2 (d+1) (Bn 0 3 t) (.iface 174 (pt b))/\AP (λx=>S x\/y.heap.size<=x) w2 (d+1) (Bn 3 5 t) (.iface ty f)):=⟨s,D,z⟩;have N:=s.2.2.2.1;have l:U (UO 118 #[pt (w2.heap.size+1)] ((w2.alloc (.cells #[.iface 174 (pt b),.iface ty f] 68)).alloc (.cells #[iv 0,.slice (some (ad w2.heap.size 0)) 2 2] 179)) λe w'=>e=.returned (.tuple #[])/\((w2.alloc (.cells #[.iface 174 (pt b),.iface ty f] 68)).alloc (.cells #[iv 0,.slice (some (ad w2.heap.size 0)) 2 2] 179)).grownBy w' (some (w2.heap.size+1))/\DE (λx=>(S x\/x=b\/y.heap.size<=x)/\x<=w2.heap.size) w' (w2.heap.size+1) (d+2) (.inr [Bn 0 3 t,Bn 3 5 t]) (.iface 174 (pt (w2.heap.size+1)))):=by have W:=Bx.new (w2.alloc (.cells #[.iface 174 (pt b),.iface ty f] 68)) #[iv 0,.slice (some (ad w2.heap.size 0)) 2 2] 179;rw[UF] at W;have rx:=(Bx.new w2 #[.iface 174 (pt b),.iface ty f] 68).alloc (.cells #[iv 0,.slice (some (ad w2.heap.size 0)) 2 2] 179);have A:Bl w2 ((w2.alloc (.cells #[.iface 174 (pt b),.iface ty f] 68)).alloc (.cells #[iv 0,.slice (some (ad w2.heap.size 0)) 2 2] 179)):=(Aa _ _).alloc (by simp) _;have k1:AP (λx=>(S x\/x=b\/y.heap.size<=x)/\x<=w2.heap.size) ((w2.alloc (.cells #[.iface 174 (pt b),.iface ty f] 68)).alloc (.cells #[iv 0,.slice (some (ad w2.heap.size 0)) 2 2] 179)) (d+1) (Bn 0 3 t) (.iface 174 (pt b)):=AP.keep A.size (λx i J=>⟨⟨i,by omega⟩,A.block x J⟩) O.o.2.1;have k2:AP (λx=>(S x\/x=b\/y.heap.size<=x)/\x<=w2.heap.size) ((w2.alloc (.cells #[.iface 174 (pt b),.iface ty f] 68)).alloc (.cells #[iv 0,.slice (some (ad w2.heap.size 0)) 2 2] 179)) (d+1) (Bn 3 5 t) (.iface ty f):=AP.keep A.size (λx i J=>⟨⟨by rcases i with h|h;exact .inl h;exact .inr (.inr h),by omega⟩,A.block x J⟩) O.o.2.2;have aa:=GI h5;refine EC (d+1) (w2.heap.size+1) w2.heap.size 2 0 [Bn 0 3 t,Bn 3 5 t] [.iface 174 (pt b),.iface ty f] _ _ W (by simp) (by simp) (by simp) (λj u hj=>?_) ((Ct.one k1).app (Ct.one k2)) (λq=>by omega) ⟨.inr (.inr N),Uq _⟩ (by simp;omega) (by omega);rw[rx.cell j];simpa using hj
  clear s D z V F;go_wp2_with fail
  (with_reducible refine l.o.mono ?_)
  rintro e w3 ⟨rfl,C,p⟩;have HR:U (OY S y b d t (.returned (.iface 174 (pt (w2.heap.size+1)))) w3):=by
   have A:Bl w2 ((w2.alloc (.cells #[.iface 174 (pt b),.iface ty f] 68)).alloc (.cells #[iv 0,.slice (some (ad w2.heap.size 0)) 2 2] 179)):=(Aa _ _).alloc (by simp) _;have K:=A.grown C (by simp;omega) (λg e=>by injection e with e;omega);refine⟨_,rfl,O.o.1.trans (Ke b b K),AP.wide (p.tao (λq=>by omega)) (λx i _=>?_)⟩;rcases i with i|i;.exact i.1
   .exact .inr (.inr (by omega))
  clear C p l;go_wp2;go_ret;exact HR.o
def RX (w:World) (d:Nat) (y:Ro d) (e:Ending) (w' : World):Prop:=
 Bl w w'/\∃a c N' KA DA KC DC,e=.returned (.agg #[.slice a (Ac d y) c])/\GT w' (w.heap.size+1) (.slice a (Ac d y) c) (Ac d y) N' KA DA KC DC/\Am N' 0 d y 0
theorem Kn (d:Nat) (y:Ro d) (v:Value) (S:Nat->Prop) (w:World) (root:Bool) (h:Nat) (W:AP S w d y v) (hb:Aq d root y h) (hS:∀x,S x->x<w.heap.size) (hn:Ac d y<=100000):UO 86 #[v] w (RX w d y):=by
 have i:=RH d y v S (w.alloc (.cells #[.slice none 0 0] 59)) root h (w.heap.size+1) 0 0 none (λ_=>⟨false,0,λ_=>{ data:=#[] },0,λ_=>0,0⟩) (λ_=>none) (λ_=>none) (λ_=>0) (λ_=>0) (W.below (Aa _ _)) hb (GT.nil _ _ _ _ _ _ _) (by simp) (λx J=>by have:=hS x J;omega) (by omega);obtain⟨m,K⟩:=gn (Ac d y);have V:=Ae K;obtain⟨bb,_,_,_,A⟩:=W.count;rcases A with rfl|rfl
 .have F:U (UO 209 #[pt bb,.slice none 0 0] (w.alloc (.cells #[.slice none 0 0] 59)) (C5 (w.alloc (.cells #[.slice none 0 0] 59)) (w.heap.size+1) (.slice none 0 0) 0 (λ_=>⟨false,0,λ_=>{ data:=#[] },0,λ_=>0,0⟩) (λ_=>none) (λ_=>none) m (λC=>Am C 0 d y 0))):=by rw[K];exact FP i
  clear i W hb hS hn K;go_enter func86,ntmps86;go_wp2_with fail
  (with_reducible refine F.o.mono ?_)
  rintro e w1 ⟨v',C,s,t,z,D,rfl,f,l,q3,q4,Y,H⟩;rw[UI] at f;obtain⟨N,G,e1,_⟩:=Af f.row;subst e1;have hz:=l.size;have b:=(Bx.new w #[.slice none 0 0] 59).grown l (λe=>by cases e);have p:=Ae (ai f (ai H (ai ((Aa _ _).grown l (by simp) (λg e=>by cases e)) b)));have O:=b.cell 0;simp at O;have zf:=b.frozen 0;have zl:=b.lt;clear f l q3 q4 Y H b hz F;go_wp2;refine bodyPost_ret (v:=.agg #[.slice N m G]) (by simp[results,results86,go_sem,O]) rfl ⟨p.o.2.2.1.setCell (by simp) _,N,G,C,s,t,z,D,by rw[V.o],?_,p.o.2.1⟩;rw[<- V.o];exact p.o.1.keep (λx J=>Ur _ _ _ _ (by have:=(p.o.1.used J).1;show x≠w.heap.size;omega))
 .have F:U (UO 191 #[pt bb,.slice none 0 0] (w.alloc (.cells #[.slice none 0 0] 59)) (C5 (w.alloc (.cells #[.slice none 0 0] 59)) (w.heap.size+1) (.slice none 0 0) 0 (λ_=>⟨false,0,λ_=>{ data:=#[] },0,λ_=>0,0⟩) (λ_=>none) (λ_=>none) m (λC=>Am C 0 d y 0))):=by rw[K];exact Fi i
  clear i W hb hS hn K;go_enter func86,ntmps86;go_wp2_with fail
  (with_reducible refine F.o.mono ?_)
  rintro e w1 ⟨v',C,s,t,z,D,rfl,f,l,q3,q4,Y,H⟩;rw[UI] at f;obtain⟨N,G,e1,_⟩:=Af f.row;subst e1;have hz:=l.size;have b:=(Bx.new w #[.slice none 0 0] 59).grown l (λe=>by cases e);have p:=Ae (ai f (ai H (ai ((Aa _ _).grown l (by simp) (λg e=>by cases e)) b)));have O:=b.cell 0;simp at O;have zf:=b.frozen 0;have zl:=b.lt;clear f l q3 q4 Y H b hz F;go_wp2;refine bodyPost_ret (v:=.agg #[.slice N m G]) (by simp[results,results86,go_sem,O]) rfl ⟨p.o.2.2.1.setCell (by simp) _,N,G,C,s,t,z,D,by rw[V.o],?_,p.o.2.1⟩;rw[<- V.o];exact p.o.1.keep (λx J=>Ur _ _ _ _ (by have:=(p.o.1.used J).1;show x≠w.heap.size;omega))
variable {B c n:Nat}{DC KC:Nat->Nat}{a:Option Addr}{w:World}
theorem Qb {N:Nat->Tn} {key:ByteArray} {m:Nat} {M:Nat->Tn} (h:JW n N key m M):∃(D:Nat) (y:Ro D) (b:Nat),m=Ac D y/\m<=5000/\Am M 0 D y 0/\Aq D true y b:=by
 obtain⟨t,C,A,_,_,s,i,l,f⟩:=h;obtain⟨_,_,_,⟨b,p⟩,_,_⟩:=A;rcases Bt.bal p s with ⟨y,rfl,d⟩|⟨y,z,rfl,d,x⟩;.exact⟨21,y,b,by rw[i];simp[DU],l,f,d⟩
 .refine⟨22,.inr [y,z],b+1,by rw[i];rfl,l,f,by simp,by simp,b,rfl,λt e=>?_⟩;simp at e;rcases e with rfl|rfl;.exact d
  .exact x
theorem Dt {F:Nat->Tn} {base:Int}:∀{d:Nat} {root:Bool} {t:Ro d} {h x:Nat},Am F base d t x->Aq d root t h->∀i,x<=i->i<x+Ac d t->(F i).kn<=4/\(F i).dn<=4
 | 0,_,_,_,_,h,_,_,_,_=>h.elim
 | d+1,root,.inl t,h,x,ht,hb,i,hi1,hi2=>by
  have y:Ac (d+1) (.inl t)=1:=rfl
  have e:i=x:=by omega
  subst e
  obtain⟨_,p,_,z,_⟩:=ht
  obtain⟨_,A,_⟩:=hb
  exact⟨by omega,by omega⟩
 | d+1,root,.inr l,h,x,ht,hb,i,hi1,hi2=>by
  have y:Ac (d+1) (.inr l)=1+(l.map (Ac d)).sum:=rfl
  obtain⟨K,p,O,z,A,C,s⟩:=ht
  obtain⟨H,D,G,_,b⟩:=hb
  by_cases e:i=x
  .subst e
   exact⟨by omega,by omega⟩
  .obtain⟨k,f,N,J⟩:=Fx d l (i-(x+1)) (by omega)
   exact Dt (s k f) (b _ (UA f)) i (by omega) (by omega)
theorem GT.ownTn {g:Nat} {N:Nat->Tn} {d e:Nat->Option Addr} (h:GT w B (.slice (some (ad g 0)) n c) n N d e KC DC):CL w B g n N d e KC DC:=by
 refine⟨(Ah h.row g rfl).1,?_,h.keys,h.kids,h.apartK,h.apartD⟩;rcases h.row.2 with ⟨q,_⟩|⟨A,x,cur,b,C,l,t,z,p,y⟩;.cases q
 .injection b with b _ s;injection b with b;injection b with b;subst b s;refine⟨cur,l,by rw[p];exact Nat.mul_le_mul_right 4 t,λi hi=>?_⟩;have f:(cur.toList.take (n*4))[i]?=((List.range (n*4)).map (Bi N d e KC DC))[i]?:=by rw[y]
  rw[List.getElem?_take,if_pos hi,Array.getElem?_toList,UM,List.getElem?_range hi] at f;exact f
theorem GT.form {N:Nat->Tn} {b i:Nat->Option Addr} (h:GT w B (.slice a n c) n N b i KC DC) (f:n≠0):∃g,a=some (ad g 0):=by obtain⟨p,l,e,d⟩:=Af h.row;injection e with e;obtain⟨g,q,_⟩:=d f;exact⟨g,by rw[e,q]⟩
theorem GT.rd {w:World} {B n c:Nat} {a:Option Addr} {N:Nat->Tn} {d e:Nat->Option Addr} {KC DC:Nat->Nat} (h:GT w B (.slice a n c) n N d e KC DC):Cb w a n N:=by
 by_cases b:n=0;.exact .inl b
 .obtain⟨g,rfl⟩:=h.form b;exact h.ownTn.rd
variable {lo m:Nat}
def TreeAt (w:World) (lo hi m:Nat) (N:Nat->Tn) (u:Value):Prop:=
 ∃a c KA DA KC DC,u=.slice a m c/\GT w lo (.slice a m c) m N KA DA KC DC/\(∀x,Ga (.slice a m c) m N KA DA x->x<hi)/\hi<=w.heap.size
theorem TreeAt.of {N:Nat->Tn} {b d:Nat->Option Addr} {KC DC:Nat->Nat} (h:GT w lo (.slice a m c) m N b d KC DC):TreeAt w lo w.heap.size m N (.slice a m c):=⟨a,c,b,d,KC,DC,rfl,h,λx e=>(h.used e).2,Uq _⟩
theorem TreeAt.keep {w w' : World} {lo hi m:Nat} {N:Nat->Tn} {u:Value} (h:TreeAt w lo hi m N u) (s:w.heap.size<=w'.heap.size) (p:∀x,lo<=x->x<hi->w'.heap[x]?=w.heap[x]?):TreeAt w' lo hi m N u:=by obtain⟨a,c,l,t,KC,DC,e,f,b,i⟩:=h;exact⟨a,c,l,t,KC,DC,e,f.keep (λx d=>p x (f.used d).1 (b x d)),b,Uy i s⟩
theorem TreeAt.form {hi:Nat} {N:Nat->Tn} {u:Value} (h:TreeAt w lo hi m N u):∃a c,u=.slice a m c/\Cb w a m N:=by obtain⟨a,c,i,l,KC,DC,e,b,d,f⟩:=h;exact⟨a,c,e,b.rd⟩
structure Se (P:World->Nat->Nat->Nat->(Nat->Tn)->Value->Prop):Prop where
 keep:∀{w w' : World} {lo hi m:Nat} {N:Nat->Tn} {u:Value},P w lo hi m N u->w.heap.size<=w'.heap.size->(∀x,lo<=x->x<hi->w'.heap[x]?=w.heap[x]?)->P w' lo hi m N u
 top:∀{w:World} {lo hi m:Nat} {N:Nat->Tn} {u:Value},P w lo hi m N u->hi<=w.heap.size
 form:∀{w:World} {lo hi m:Nat} {N:Nat->Tn} {u:Value},P w lo hi m N u->∃a c,u=.slice a m c/\Cb w a m N
theorem TreeAt.pl:Se TreeAt:=⟨λh b d=>h.keep b d,λ⟨_,_,_,_,_,_,_,_,_,q⟩=>q,λh=>h.form⟩
structure AJ (P:World->Nat->Nat->Nat->(Nat->Tn)->Value->Prop) (w:World) (B:Nat) (v:Value) (k:Nat) (M:Nat->Nat) (T:Nat->Nat->Tn) (us:List Value) (lo hi:Nat->Nat):Prop where
 row:w.ownsRow B 59 1 v k us
 len:us.length=k
 tree:∀i,i<k->∃u,us[i]?=some u/\P w (lo i) (hi i) (M i) (T i) u
 base:∀i,i<k->B<=lo i
 ord:∀i j,i<j->j<k->hi i<=lo j
 sep:∀g,v.ownBlock=some g->∀i,i<k->g<lo i\/hi i<=g
section
variable {P:World->Nat->Nat->Nat->(Nat->Tn)->Value->Prop} {w w' w2 w4:World} {B k:Nat} {v v' u:Value} {M:Nat->Nat} {T:Nat->Nat->Tn} {us:List Value} {lo hi:Nat->Nat}
theorem AJ.nil (P:World->Nat->Nat->Nat->(Nat->Tn)->Value->Prop) (w:World) (B:Nat) (M:Nat->Nat) (T:Nat->Nat->Tn):AJ P w B (.slice none 0 0) 0 M T [] (λ_=>0) (λ_=>0):=
 ⟨World.ownsRow_nil _ _ _ _,rfl,λi hi=>absurd hi (Uu _),λi hi=>absurd hi (Uu _),λi j _ b=>absurd b (Uu _),λg _ i hi=>absurd hi (Uu _)⟩
theorem AJ.keep (b:Se P) (h:AJ P w B v k M T us lo hi) (p:w.heap.size<=w'.heap.size) (f:∀x,B<=x->x<w.heap.size->w'.heap[x]?=w.heap[x]?):AJ P w' B v k M T us lo hi:=by refine⟨AK h.row (λg e=>f g (Ah h.row g e).1 (Ah h.row g e).2),h.len,λi hi=>?_,h.base,h.ord,h.sep⟩;obtain⟨u,l,d⟩:=h.tree i hi;have q:=b.top d;exact⟨u,l,b.keep d p (λx s t=>f x (Uy (h.base i hi) s) (by omega))⟩
theorem AJ.setO (b:Se P) (h:AJ P w B v k M T us lo hi) {p:Addr} (e:p.block<B) (x:Value):AJ P (w.setCell p x) B v k M T us lo hi:=h.keep b (by rw[World.size_setCell];exact Uq _) (λy d _=>Ur _ _ _ _ (by omega))
theorem AJ.form (h:AJ P w B v k M T us lo hi):∃a c,v=.slice a k c:=by obtain⟨a,c,e,_⟩:=Af h.row;exact⟨a,c,e⟩
theorem AJ.rd (s:Se P) (h:AJ P w B (.slice a k c) k M T us lo hi):CO w a k M T:=by
 by_cases b:k=0;.exact .inl b
 .obtain⟨z,y,e,t⟩:=Af h.row;injection e with e;subst e;obtain⟨g,rfl,_,_,f⟩:=t b;refine .inr ⟨g,0,rfl,λi hi=>?_⟩;obtain⟨u,p,d⟩:=h.tree i hi;obtain⟨ai,x,rfl,l⟩:=s.form d;exact⟨ai,x,by rw[UI];exact f i _ p,l⟩
theorem AJ.step (D:Se P) (h:AJ P w B v k M T us lo hi) (hB:B<=w.heap.size) (N:Bl w w2) {l:Nat} (hl:w.heap.size<=l) (Y:P w2 l w2.heap.size (M k) (T k) u) (O:Obj) (K:(w2.alloc O).grownBy w4 v.ownBlock) (U:w4.ownsRow B 59 1 v' (k+1) (us++[u])) (F:v'.ownBlock=v.ownBlock\/v'.ownBlock=some (w2.heap.size+1)):∃s b,AJ P w4 B v' (k+1) M T (us++[u]) s b:=by
 obtain⟨s,d⟩:∃s : Nat->Nat,∀i,s i=if i=k then l else lo i:=⟨_,λ_=>rfl⟩;obtain⟨b,f⟩:∃b : Nat->Nat,∀i,b i=if i=k then w2.heap.size else hi i:=⟨_,λ_=>rfl⟩;have hz:=N.size;have A:=K.size;rw[UF] at A;have z:=λg e=>(Ah h.row g e).2;have y:∀x,x<w2.heap.size->v.ownBlock≠some x->w4.heap[x]?=w2.heap[x]?:=λx V J=>(K.block x (by rw[UF];omega) (λe=>J e.symm)).trans ((Aa w2 O).block x V);have t:∀i,i<k->hi i<=w.heap.size:=λi hi=>by obtain⟨u,_,q⟩:=h.tree i hi;exact D.top q
 refine⟨s,b,U,by rw[Uz,h.len];rfl,λi hi=>?_,λi hi=>?_,λi j C hj=>?_,λg p i hi=>?_⟩
 .by_cases e:i=k;.subst e;refine⟨u,by rw[List.getElem?_append_right (by rw[h.len];exact Uq _),h.len];simp,?_⟩;rw[d,f,if_pos rfl,if_pos rfl];refine D.keep Y (by omega) (λx H G=>y x G (λe=>?_));have:=z x e;omega
  .have b : i<k:=by omega
   obtain⟨S,H,G⟩:=h.tree i b;have W:=t i b;refine⟨S,by rw[List.getElem?_append_left (by rw[h.len];exact b)];exact H,?_⟩;rw[d,f,if_neg e,if_neg e];refine D.keep G (by omega) (λx h3 h4=>(y x (by omega) (λe=>?_)).trans (N.block x (by omega)));have:=h.sep x e i b;omega
 .rw[d];by_cases e:i=k;.rw[if_pos e];omega
  .rw[if_neg e];exact h.base i (by omega)
 .rw[d,f,if_neg (show ¬ i=k by omega)];by_cases e:j=k;.rw[if_pos e];have:=t i (by omega);omega
  .rw[if_neg e];exact h.ord i j C (by omega)
 .rw[d,f];rcases F with q|q
  .rw[q] at p;have H:=z g p;by_cases e:i=k;.rw[if_pos e];left;omega
   .rw[if_neg e,if_neg e];exact h.sep g p i (by omega)
  .rw[q] at p;injection p with p;right;by_cases e:i=k;.rw[if_pos e];omega
   .rw[if_neg e];have:=t i (by omega);omega
end
def RT (w:World) (n:Nat) (M:Nat->Nat) (T:Nat->Nat->Tn) (e:Ending) (w' : World):Prop:=
 ∃a c us lo hi,e=.returned (.agg #[.slice a n c])/\AJ TreeAt w' (w.heap.size+2) (.slice a n c) n M T us lo hi/\Bl w w'
theorem EB (a:Option Addr) (n c:Nat) (M:Nat->Nat) (T:Nat->Nat->Tn) (w:World) (h:CO w a n M T) (hn:n<=1048576) (hN:BF n M T) :
  UO 47 #[.agg #[.slice a n c]] w (RT w n M T):=by
 obtain⟨i0,ae,aa,ac,S⟩:=info_parts info59;have HI:=Ae (ai ae (ai aa (ai ac S)));clear ae aa ac S;have HR:=Ae (ai h hN);clear h hN;obtain⟨A,s⟩:=gn ((w.alloc (.cells #[.slice a n c] 32)).alloc (.cells #[.slice none 0 0] 32));have B0:U (Bx A w.heap.size 32 #[.slice a n c]/\Bx A (w.heap.size+1) 32 #[.slice none 0 0]/\Bl w A/\A.heap.size=w.heap.size+2):=by have H:=Bx.new w #[.slice a n c] 32;have b2:=Bx.new (w.alloc (.cells #[.slice a n c] 32)) #[.slice none 0 0] 32;simp only[UF] at b2;rw[s];exact⟨H.alloc _,b2,(Aa _ _).alloc (by simp) _,by simp⟩
 have x0:=B0.o.1.cell 0;simp at x0;go_enter func47,ntmps47;go_upto_region 2 with fail
 rw[<- s];clear s;go_wp2;go_loopw [3,5,9] (λah _ i wr=>∃(k:Nat) (us:List Value) (lo hi:Nat->Nat),k<=n/\i=iv k/\AJ TreeAt wr (w.heap.size+2) ah k M T us lo hi/\Below (w.heap.size+2) A wr) (λ_ _ i _=>n-(intOf i).toNat)
 case atStart=>exact⟨0,[],_,_,Us _,rfl,AJ.nil _ _ _ _ _,Up _ _⟩
 case round=>
  obtain⟨k,us,lo,hi,hk,rfl,d,b⟩:=hrel;obtain⟨O,Y,er⟩:=d.form;subst er;have hz:=b.size;have am:=B0.o.2.2.2;have f:U (AJ TreeAt wr (w.heap.size+2) (.slice O k Y) k M T us lo hi/\Below (w.heap.size+2) A wr/\w.heap.size+2<=wr.heap.size/\Bl w wr):=⟨d,b,by omega,B0.o.2.2.1.trans (b.mono (by omega))⟩;have k0:(0:Int)<=(k:Int):=by omega
  by_cases V:k<n
  .have k1:(k:Int)<(n:Int):=by omega
   rcases HR.o.1.below f.o.2.2.2 with h0|⟨bb,oo,rfl,hc⟩;.omega
   obtain⟨ai,ci,s0,ab⟩:=hc k V;have HF:=HR.o.2 k V;have af:=Ae (λW hW=>OS ai (M k) ci (T k) W (ab.below hW) HF.1 HF.2);have ak:=Ae d.len;clear d b hc ab HF x0;go_wp2_with fail
   (with_reducible refine (af.o _ (Aa _ _)).mono ?_)
   rintro e l ⟨N,t,F,KA,DA,KC,DC,rfl,x⟩;have J:U (Bl wr l/\TreeAt l (wr.heap.size+1+1) l.heap.size (M k) (T k) (.slice t (M k) F)):=by rw[UF] at x;exact⟨(Aa _ _).trans (N.mono (by simp)),TreeAt.of x⟩
   have C:U ((l.alloc (.cells #[.slice t (M k) F] 59)).ownsRow (w.heap.size+2) 59 1 (.slice O k Y) k us/\(∀i u,[Value.slice t (M k) F][i]?=some u->(l.alloc (.cells #[.slice t (M k) F] 59)).cell? (ad l.heap.size i)=some u)):=by refine⟨Ag f.o.1.row (J.o.1.trans ((Aa _ _).mono J.o.1.size)),λi u hi=>?_⟩;rw[(Bx.new l #[.slice t (M k) F] 59).cell i];simpa using hi
   have al:=J.o.1.size;have K:=f.o.2.2.1;clear N x af s0;go_wp2_with (at_builtin;refine wpList_append_own_at _ rfl _ _ 30 rfl (w.heap.size+2) 59 i0 _ 1 24 underlying30 HI.o.1 HI.o.2.1 HI.o.2.2.1 HI.o.2.2.2 rfl (by decide) (.slice O k Y) k us rfl C.o.1 (ad l.heap.size 0) 1 1 [.slice t (M k) F] rfl rfl (λi u hi=>by rw[Addr.add_lit,UI];exact C.o.2 i u hi) (by intro u hu;simp at hu;subst hu;rfl) (by unfold maxLen;omega) (by omega) (by simp;omega) ?_)
   intro v7 w7 G z _ p;have H7:U ((∃y D,AJ TreeAt w7 (w.heap.size+2) v7 (k+1) M T (us++[.slice t (M k) F]) y D)/\Below (w.heap.size+2) A w7):=by refine⟨f.o.1.step TreeAt.pl K J.o.1 (by omega) J.o.2 _ z G p,?_⟩;exact ((f.o.2.1.trans (J.o.1.mono K)).trans ((Aa _ _).mono (by omega))).grown z (by simp;omega) (λg e=>(Ah f.o.1.row g e).1)
   obtain⟨a7,c7,e7,_⟩:=Af G;subst e7;clear G z p C;go_wp2;go_roundw;case rel=>obtain⟨⟨y,D,ag⟩,aj⟩:=H7.o;exact⟨k+1,_,y,D,by omega,by go_num,ag,aj⟩
   case measure=>simp[intOf];omega
  .obtain rfl:k=n:=by omega
   have k1:¬ (k:Int)<(k:Int):=by omega
   have H:=B0.o.2.1.below' b (by omega);have y0:=H.cell 0;simp at y0;have yf:=H.frozen 0;have yl:=H.lt;clear d b H x0;go_wp2;refine bodyPost_ret (v:=.agg #[.slice O k Y]) (by simp[results,results47,go_sem,y0]) rfl ⟨O,Y,us,lo,hi,rfl,f.o.1.setO TreeAt.pl (by simp) _,f.o.2.2.2.setCell (by simp) _⟩
variable {E:Prop}{Q:Exit->Act->World->Prop}{a:Act}{o:Oper}
def Ar (w:World) (lo hi m:Nat) (N:Nat->Tn) (u:Value):Prop:=
 ∃a c,u=.slice a m c/\hi<=w.heap.size/\(m=0\/∃g xs,a=some (ad g 0)/\lo<=g/\g<hi/\(∀j v,xs[j]?=some v->w.cell? (ad g j)=some v)/\Bp (λb=>lo<=b/\b<hi) w m N xs)
theorem Ar.of {lo m c:Nat} {a:Option Addr} {N:Nat->Tn} (h:BQ lo w a m N):Ar w lo w.heap.size m N (.slice a m c):=by
 refine⟨a,c,rfl,Uq _,?_⟩;rcases h with h|⟨g,xs,e,d,f,l,p⟩;.exact .inl h
 .exact .inr ⟨g,xs,e,d,f,l,p.mono (Uq _) (λb s i=>⟨⟨s,i⟩,rfl⟩)⟩
theorem Ar.pl:Se Ar where
 keep:=by
  rintro w w' lo hi m N u ⟨a,c,e,d,h⟩ x t
  refine⟨a,c,e,Uy d x,?_⟩
  rcases h with h|⟨g,xs,e,l,f,p,s⟩
  .exact .inl h
  .refine .inr ⟨g,xs,e,l,f,λj v y=>?_,s.mono x (λb i z=>⟨i,t b i.1 i.2⟩)⟩
   have:=p j v y
   simp only[World.cell?,t g l f] at this ⊢
   exact this
 top:=by
  rintro w lo hi m N u ⟨a,c,e,d,h⟩
  exact d
 form:=by
  rintro w lo hi m N u ⟨a,c,e,d,h⟩
  refine⟨a,c,e,?_⟩
  rcases h with h|⟨g,xs,rfl,l,f,p,s⟩
  .exact .inl h
  .exact s.rd p
theorem Ni {d:Array Oper} {K:Act->World->Prop} (p:o.guard=none) (k:Nat) (i:Nat) (f:Array TypeId)
  (s:o.op=.call { callee:=.value (.func k),args:=#[.tmp i],argTypes:=f }) (u:Value) (t:a.tmps[i]?.getD undef=u) (l:∀b w,(callFunc k b).run prog w=.ok (.enter k b) w)
  (h:UO k #[u] w λe w'=>∃r,e=.returned r/\K (a.put o.dst r) w') :
  if Region.wanted o (yielded d a.tmps)=true then Oper.wp prog o a w K Q else E:=by
 have y:Region.wanted o (yielded d a.tmps)=true:=by simp[Region.wanted,p]
 rw[if_pos y];unfold Oper.wp;simp[execOp,s,resolve,invoke,t,go_sem,l];refine h.mono ?_;rintro e w' ⟨u,rfl,x⟩;exact x
theorem BD {d:Array Oper} {K:Act->World->Prop} (p:o.guard=none) (k:Nat) (i j:Nat) (f:Array TypeId)
  (s:o.op=.call { callee:=.value (.func k),args:=#[.tmp i,.tmp j],argTypes:=f }) (u v:Value) (t:a.tmps[i]?.getD undef=u) (x:a.tmps[j]?.getD undef=v) (l:∀b w,(callFunc k b).run prog w=.ok (.enter k b) w)
  (h:UO k #[u,v] w λe w'=>∃r,e=.returned r/\K (a.put o.dst r) w') :
  if Region.wanted o (yielded d a.tmps)=true then Oper.wp prog o a w K Q else E:=by
 have z:Region.wanted o (yielded d a.tmps)=true:=by simp[Region.wanted,p]
 rw[if_pos z];unfold Oper.wp;simp[execOp,s,resolve,invoke,t,x,go_sem,l];refine h.mono ?_;rintro e w' ⟨u,rfl,y⟩;exact y
theorem Ej {b:Array Oper} {K:Act->World->Prop} {x:Nat} {u:Value} (d:o.guard=none)
  (f:o.op=.buildSlice 30 1 #[(0,.tmp x)]) (i:a.tmps[x]?.getD undef=.agg #[u])
  (h:K (a.put o.dst (.slice (some (ad w.heap.size 0)) 1 1)) (w.alloc (.cells #[u] 59))) :
  if Region.wanted o (yielded b a.tmps)=true then Oper.wp prog o a w K Q else E:=by
 have e:Region.wanted o (yielded b a.tmps)=true:=by simp[Region.wanted,d]
 rw[if_pos e];unfold Oper.wp;simp[execOp,f,i,go_sem];exact h
theorem Dm {e:Array Oper} {K:Act->World->Prop} (i:o.guard=none) (x y:Operand)
  (A:o.op=.call { callee:=.builtin .append,args:=#[x,y],argTypes:=#[30,30] })
  (B k:Nat) (v:Value) (xs:List Value) (C:a.eval x=v) (u:Value) (d:(w.alloc (.cells #[u] 59)).ownsRow B 59 1 v k xs) (D:a.eval y=.slice (some (ad w.heap.size 0)) 1 1)
  (F:u.oneCell'=true) (U:k<=1048576) (S:B<=w.heap.size)
  (h:∀v' w',w'.ownsRow B 59 1 v' (k+1) (xs++[u])->(w.alloc (.cells #[u] 59)).grownBy w' v.ownBlock->(v'.ownBlock=v.ownBlock\/v'.ownBlock=some (w.heap.size+1))->K (a.put o.dst v') w') :
  if Region.wanted o (yielded e a.tmps)=true then Oper.wp prog o a (w.alloc (.cells #[u] 59)) K Q else E:=by
 have N:Region.wanted o (yielded e a.tmps)=true:=by simp[Region.wanted,i]
 rw[if_pos N];obtain⟨H,hi,p,l,f⟩:=info_parts info59;obtain⟨v',w',G,z,O,V,t⟩:=run_append_own_at (P:=prog) (w.alloc (.cells #[u] 59)) B 30 o.type 59 H _ 1 24 underlying30 hi p l f rfl (by decide) v k xs d (ad w.heap.size 0) 1 1 [u] rfl (λj J b=>by
  match j,b with
  | 0,b=>simp at b;subst b;rw[Addr.add_lit];exact (Bx.new w #[u] 59).cell 0
  | j+1,b=>simp at b) (λJ s=>by simp at s;subst s;exact F) (by unfold maxLen;omega) (by omega) (by simp;omega)
 unfold Oper.wp execOp;simp only[A,resolve,invoke,builtin,Sem.run_bind,Sem.run_pure,Result.andThen_ok,List.map_toArray,List.map_cons,List.map_nil,C,D,G];rw[UF] at t;exact h v' w' z O t
variable {k:Nat}{M hi lo:Nat->Nat}{r:Option Nat}{us:List Value}{v:Value}{w2 w4 wr:World}
theorem AJ.low {P:World->Nat->Nat->Nat->(Nat->Tn)->Value->Prop} {b:Nat} {T:Nat->Nat->Tn} (h:AJ P w B v k M T us lo hi) (d:b<=B):AJ P w b v k M T us lo hi:=
 ⟨Dn h.row d,h.len,h.tree,λi hi=>Uy d (h.base i hi),h.ord,h.sep⟩
theorem AJ.congr {P:World->Nat->Nat->Nat->(Nat->Tn)->Value->Prop} {M':Nat->Nat} {T T' : Nat->Nat->Tn} (h:AJ P w B v k M T us lo hi) (e:∀i,i<k->M i=M' i/\T i=T' i):AJ P w B v k M' T' us lo hi:=
 ⟨h.row,h.len,λi hi=>by rw[<- (e i hi).1,<- (e i hi).2];exact h.tree i hi,h.base,h.ord,h.sep⟩
theorem Fs {O:Obj} (d:Bl wr w2) (f:(w2.alloc O).grownBy w4 r) (h:∀g,r=some g->B<=g) {p:Addr} (l:p.block<B) (b:p.block<wr.heap.size):w4.cell? p=wr.cell? p:=by have i:=d.size;have e:=(f.block p.block (by rw[UF];omega) (λe=>by have:=h _ e.symm;omega)).trans (((Aa w2 O).block p.block (by omega)).trans (d.block p.block b));simp only[World.cell?,e]
theorem BB {O:Obj} (f:Bl wr w2) (h:(w2.alloc O).grownBy w4 r) (i:∀g,r=some g->B<=g) {b:Nat} (p:b<B) (d:b<wr.heap.size):w4.heap[b]?=wr.heap[b]?:=by have l:=f.size;exact (h.block b (by rw[UF];omega) (λe=>by have:=i _ e.symm;omega)).trans (((Aa w2 O).block b (by omega)).trans (f.block b d))
def G9 (w:World) (n:Nat) (M:Nat->Nat) (T:Nat->Nat->Tn) (e:Ending) (w' : World):Prop:=
 ∃a c us lo hi,e=.returned (.agg #[.slice a n c])/\AJ Ar w' (w.heap.size+3) (.slice a n c) n M T us lo hi/\Bl w w'
theorem Cv (a:Option Addr) (n c:Nat) (M:Nat->Nat) (T:Nat->Nat->Tn) (w:World) (h:CO w a n M T) (hn:n<=1048576) (hN:BF n M T) :
  UO 42 #[.agg #[.slice a n c]] w (G9 w n M T):=by
 have HR:U (CO w a n M T/\BF n M T):=⟨h,hN⟩;clear h hN;obtain⟨W0,ac⟩:∃W0,W0=((w.alloc (.cells #[.slice a n c] 32)).alloc (.cells #[.slice none 0 0] 32)).alloc (.cells #[.slice none 0 0] 32):=⟨_,rfl⟩;have B0:U (Bx W0 w.heap.size 32 #[.slice a n c]/\Bx W0 (w.heap.size+1) 32 #[.slice none 0 0]/\Bx W0 (w.heap.size+2) 32 #[.slice none 0 0]/\Bl w W0/\W0.heap.size=w.heap.size+3):=by have b1:=Bx.new w #[.slice a n c] 32;have b2:=Bx.new (w.alloc (.cells #[.slice a n c] 32)) #[.slice none 0 0] 32;have b3:=Bx.new ((w.alloc (.cells #[.slice a n c] 32)).alloc (.cells #[.slice none 0 0] 32)) #[.slice none 0 0] 32;simp only[UF] at b2 b3;rw[ac];exact⟨(b1.alloc _).alloc _,b2.alloc _,b3,((Aa _ _).alloc (by simp) _).alloc (by simp;omega) _,by simp⟩
 go_enter func42,ntmps42;go_upto_region 2 with fail
 rw[<- ac];clear ac;go_wp2;go_loopw [4] (λi wr=>∃(k:Nat) (v:Value) (us:List Value) (lo hi:Nat->Nat),k<=n/\i=iv k/\AJ Ar wr (w.heap.size+3) v k M T us lo hi/\Bx wr (w.heap.size+2) 32 #[v]/\Below (w.heap.size+2) W0 wr) (λi _=>n-(intOf i).toNat)
 case atStart=>exact⟨0,_,[],_,_,Us _,rfl,AJ.nil _ _ _ _ _,B0.o.2.2.1,Up _ _⟩
 case round=>
  obtain⟨k,v,us,lo,hi,hk,rfl,G,N,d⟩:=hrel;obtain⟨s,x,ev⟩:=G.form;subst ev;have hz:=d.size;have ay:=B0.o.2.2.2.2;have F:U (AJ Ar wr (w.heap.size+3) (.slice s k x) k M T us lo hi/\Below (w.heap.size+2) W0 wr/\w.heap.size+3<=wr.heap.size/\Bl w wr/\Bx wr (w.heap.size+2) 32 #[.slice s k x]):=⟨G,d,by omega,B0.o.2.2.2.1.trans (d.mono (by omega)),N⟩;have k0:(0:Int)<=(k:Int):=by omega
  have x1:wr.cell? (ad w.heap.size 0)=some (.slice a n c):=by have:=(B0.o.1.below' d (by omega)).cell 0;simpa using this
  by_cases ag:k<n
  .have k1:(k:Int)<(n:Int):=by omega
   have ao:∃p z,a=some (ad p z)/\p<w.heap.size/\∃ai J,wr.cell? (ad p (z+k))=some (.slice ai (M k) J)/\Cb wr ai (M k) (T k):=by
    rcases HR.o.1 with h0|⟨p,z,e,hc⟩;.omega
    .obtain⟨ai,J,Y,aa⟩:=hc k ag;have am:=Uo _ _ Y;exact⟨p,z,e,am,ai,J,by rw[F.o.2.2.2.1.cell (show ((ad p (z+k)):Addr).block<w.heap.size from am)];exact Y,aa.below F.o.2.2.2.1⟩
   obtain⟨p,z,ea,ax,ai,J,Y,aa⟩:=ao;subst ea;have HF:=HR.o.2 k ag;have x0:wr.cell? (ad (w.heap.size+2) 0)=some (.slice s k x):=by have:=N.cell 0;simpa using this
   have HC:U (UO 77 #[.agg #[.slice ai (M k) J]] wr.drew (Gi wr.drew (M k) (T k))):=CC ai (M k) J (T k) wr.drew (aa.below ((Up _ _).drew)) HF.1 HF.2;have HU:U (∀w2:World,Below wr.drew.heap.size wr.drew w2->Bl wr w2):=λw2 h=>Ad h;have ak:U (∀w2:World,Below wr.drew.heap.size wr.drew w2->w2.cell? (ad (w.heap.size+2) 0)=some (.slice s k x)/\w2.cell? (ad w.heap.size 0)=some (.slice (some (ad p z)) n c)/\w2.cell? (ad p (z+k))=some (.slice ai (M k) J)):=λw2 h=>by have y:=Ad h;exact⟨(y.cell (Uo _ _ x0)).trans x0,(y.cell (Uo _ _ x1)).trans x1,(y.cell (Uo _ _ Y)).trans Y⟩
   have af:U (∀w2:World,Below wr.drew.heap.size wr.drew w2->∀O:Obj,(w2.alloc O).cell? (ad (w.heap.size+2) 0)=some (.slice s k x)/\(w2.alloc O).cell? (ad w.heap.size 0)=some (.slice (some (ad p z)) n c)/\(w2.alloc O).cell? (ad p (z+k))=some (.slice ai (M k) J)):=λw2 h O=>by have y:=(Ad h).trans ((Aa w2 O).mono (Ad h).size);exact⟨(y.cell (Uo _ _ x0)).trans x0,(y.cell (Uo _ _ x1)).trans x1,(y.cell (Uo _ _ Y)).trans Y⟩
   have f:∀g,(Value.slice s k x).ownBlock=some g->w.heap.size+3<=g:=λg e=>(Ah F.o.1.row g e).1;have ah:U (∀(w2 w4:World),Below wr.drew.heap.size wr.drew w2->∀O:Obj,(w2.alloc O).grownBy w4 (Value.slice s k x).ownBlock->w4.cell? (ad (w.heap.size+2) 0)=some (.slice s k x)/\w4.cell? (ad w.heap.size 0)=some (.slice (some (ad p z)) n c)/\w4.cell? (ad p (z+k))=some (.slice ai (M k) J)/\w4.frozen? (ad (w.heap.size+2) 0)=false/\w.heap.size+2<w4.heap.size):=λw2 w4 h O hg=>by have y:=Ad h;have H:Bx w4 (w.heap.size+2) 32 #[.slice s k x]:=(BB y hg f (by omega) (by have:=F.o.2.2.1;omega)).trans F.o.2.2.2.2;exact⟨by have:=H.cell 0;simpa using this,(Fs y hg f (by show w.heap.size<_;omega) (Uo _ _ x1)).trans x1,(Fs y hg f (by show p<_;omega) (Uo _ _ Y)).trans Y,H.frozen 0,H.lt⟩
   have HT:U (∀w2:World,Below wr.drew.heap.size wr.drew w2->∀O:Obj,(w2.alloc O).ownsRow (w.heap.size+3) 59 1 (.slice s k x) k us):=λw2 h O=>Ag (Ag F.o.1.row (Ad h)) (Aa _ _);have HZ:U (∀w2:World,Below wr.drew.heap.size wr.drew w2->w.heap.size+3<=w2.heap.size):=λw2 h=>Uy F.o.2.2.1 (Ad h).size;have ar:wr.drew.cell? (ad (w.heap.size+2) 0)=some (.slice s k x):=x0;have aq:wr.drew.cell? (ad w.heap.size 0)=some (.slice (some (ad p z)) n c):=x1;have an:wr.drew.cell? (ad p (z+k))=some (.slice ai (M k) J):=Y;clear G d N aa HF f;go_wp2;refine Aj (S:=(λw'=>w'.cell? (ad (w.heap.size+2) 0)=some (.slice s k x)/\w'.cell? (ad w.heap.size 0)=some (.slice (some (ad p z)) n c)/\w'.cell? (ad p (z+k))=some (.slice ai (M k) J))) 11 (by kernel_rfl) ?_ (λb=>?_);·((try dsimp only);go_keep)
   refine tz 0 rfl ?_;refine tz 1 rfl ?_;refine tz 2 rfl ?_;refine tz 3 rfl ?_;refine tz 4 rfl ?_;refine tz 5 rfl ?_;refine tz 6 rfl ?_;refine At 7 rfl (λK D=>?_);(refine Ni (by rfl) 77 19 _ (by rfl) _ (by rfl) (λ_ _=>rfl) ?_;refine HC.o.mono ?_;rintro e w2 ⟨C,a2,c2,rfl,al⟩;refine⟨_,rfl,?_⟩;obtain⟨y0,y1,y2⟩:=ak.o w2 C)
   refine tL D (by (try dsimp only);go_keep) ?_;clear D K b;intro b;try simp only[Ay]
   refine At 8 rfl (λK D=>?_);(refine Ej (by rfl) (by rfl) (by rfl) ?_;obtain⟨z0,z1,z2⟩:=af.o w2 C (.cells #[.slice a2 (M k) c2] 59))
   refine tL D (by (try dsimp only);go_keep) ?_;clear D K b;intro b;try simp only[Ay]
   refine At 9 rfl (λK D=>?_);(refine Dm (by rfl) (.tmp 14) (.tmp 21) (by rfl) (w.heap.size+3) k (.slice s k x) us (by rfl) _ (HT.o w2 C _) (by rfl) rfl (by omega) (HZ.o w2 C) ?_;intro v4 w4 A t ab;obtain⟨a4,c4,e4,_⟩:=Af A;subst e4;obtain⟨u0,u1,u2,uf,ul⟩:=ah.o w2 w4 C _ t)
   refine tL D (by (try dsimp only);go_keep) ?_;clear D K b;intro b;try simp only[Ay]
   refine At 10 rfl (λK D=>?_);go_simp;refine tL D (by (try dsimp only);go_keep) ?_;clear D K b;intro b;try simp only[Ay]
   refine At 11 rfl (λK D=>?_);go_simp;refine tM D ?_;clear D K;have H7:U ((∃V W,AJ Ar (w4.setCell (ad (w.heap.size+2) 0) (.slice a4 (k+1) c4)) (w.heap.size+3) (.slice a4 (k+1) c4) (k+1) M T (us++[.slice a2 (M k) c2]) V W)/\Bx (w4.setCell (ad (w.heap.size+2) 0) (.slice a4 (k+1) c4)) (w.heap.size+2) 32 #[.slice a4 (k+1) c4]/\Below (w.heap.size+2) W0 (w4.setCell (ad (w.heap.size+2) 0) (.slice a4 (k+1) c4))):=by
    have y:=HU.o w2 C;have aw:=y.size;have ap:=F.o.2.2.1;have f:∀g,(Value.slice s k x).ownBlock=some g->w.heap.size+3<=g:=λg e=>(Ah F.o.1.row g e).1;obtain⟨V,W,ae⟩:=F.o.1.step Ar.pl ap y (l:=wr.heap.size+2) (by omega) (Ar.of (by have:=al;exact this)) _ t A ab;have H:Bx w4 (w.heap.size+2) 32 #[.slice s k x]:=(BB y t f (by omega) (by omega)).trans F.o.2.2.2.2;refine⟨⟨V,W,ae.setO Ar.pl (by simp) _⟩,?_,?_⟩;.have:=H.set 0 (.slice a4 (k+1) c4);simpa using this
    .exact (((F.o.2.1.trans (y.mono (by omega))).trans ((Aa _ _).mono (by omega))).grown t (by simp;omega) (λg e=>by have:=f g e;omega)).setCell (by simp) _
   clear al C A t ab HT ak af ah HZ HU y0 y1 y2 z0 z1 z2 u0 u1 u2 uf ul ar aq an x0 x1 Y HC;go_wp2;go_roundw;case rel=>obtain⟨⟨V,W,ae⟩,au,aj⟩:=H7.o;exact⟨k+1,_,_,V,W,by omega,by go_num,ae,au,aj⟩
   case measure=>simp[intOf];omega
  .obtain rfl:k=n:=by omega
   have k1:¬ (k:Int)<(k:Int):=by omega
   have b1:Bx wr (w.heap.size+1) 32 #[.slice none 0 0]:=B0.o.2.1.below' d (by omega);have y0:=b1.cell 0;have y1:=N.cell 0;simp at y0 y1;have yf:=b1.frozen 0;have yl:=b1.lt;clear G d b1 N;go_wp2;refine bodyPost_ret (v:=.agg #[.slice s k x]) (by simp[results,results42,go_sem,y0]) rfl ⟨s,x,us,lo,hi,rfl,F.o.1.setO Ar.pl (by simp) _,F.o.2.2.2.1.setCell (by simp) _⟩
theorem Bp.rdC {S:Nat->Prop} {w:World} {g n:Nat} {F:Nat->Tn} {xs:List Value} (h:Bp S w n F xs) (b:∀j u,xs[j]?=some u->w.cell? (ad g j)=some u):CM EY w (some (ad g 0)) n F:=by
 refine Or.inr ⟨g,0,rfl,λi hi=>?_⟩;obtain⟨K,O,J,N,t,A,f,C,D,H,e,s,G,y,z,l,d,x⟩:=h.2 i hi;subst D z l H;obtain⟨L,p⟩:=d.2.1;refine⟨e,s,G,y,?_,?_,?_,?_,d.1.rdS,x.1.rdI,AS p⟩;.rw[UI];exact b _ _ t
 .rw[UI];exact b _ _ A
 .rw[UI];exact b _ _ f
 .rw[UI];exact b _ _ C
theorem BQ.rdC {B:Nat} {w:World} {a:Option Addr} {n:Nat} {N:Nat->Tn} (h:BQ B w a n N):CM EY w a n N:=by
 rcases h with h|⟨g,xs,rfl,_,_,d,b⟩;.exact Or.inl h
 .exact b.rdC d
def FV (Z:Nat) (w:World) (a:Option Addr) (n:Nat) (M:Nat->Nat) (T:Nat->Nat->Tn):Prop:=
 n=0\/∃g,a=some (ad g 0)/\Z<=g/\g<w.heap.size/\∀i,i<n->∃ai ci,w.cell? (ad g i)=some (.slice ai (M i) ci)/\BQ Z w ai (M i) (T i)
section
variable {Z:Nat} {w w' : World} {a:Option Addr} {n:Nat} {M:Nat->Nat} {T:Nat->Nat->Tn}
theorem FV.keep (h:FV Z w a n M T) (f:w.heap.size<=w'.heap.size) (l:∀b,Z<=b->b<w.heap.size->w'.heap[b]?=w.heap[b]?):FV Z w' a n M T:=by
 rcases h with h|⟨g,rfl,d,e,s⟩;.exact .inl h
 .refine .inr ⟨g,rfl,d,UB e f,λi hi=>?_⟩;obtain⟨ai,t,p,x⟩:=s i hi;exact⟨ai,t,(World.cell?_of_block (a:=(ad g i)) (l g d e)).trans p,x.keep (Uq _) f l⟩
theorem FV.below (h:FV Z w a n M T) (d:Bl w w'):FV Z w' a n M T:=h.keep d.size (λb _ e=>d.block b e)
theorem FV.rdC (h:FV Z w a n M T):Ci w a n M T:=by
 rcases h with h|⟨g,rfl,l,p,d⟩;.exact .inl h
 .refine .inr ⟨g,0,rfl,λi hi=>?_⟩;obtain⟨ai,e,b,f⟩:=d i hi;exact⟨ai,e,by rw[UI];exact b,f.rdC⟩
theorem FV.low {Z' : Nat} (h:FV Z w a n M T) (b:Z'<=Z):FV Z' w a n M T:=by
 rcases h with h|⟨g,rfl,e,f,l⟩;.exact .inl h
 .refine .inr ⟨g,rfl,Uy b e,f,λi hi=>?_⟩;obtain⟨ai,p,d,s⟩:=l i hi;exact⟨ai,p,d,s.keep b (Uq _) (λ_ _ _=>rfl)⟩
theorem AJ.ixw {B c:Nat} {us:List Value} {lo hi:Nat->Nat} (h:AJ Ar w B (.slice a n c) n M T us lo hi) (x:Z<=B):FV Z w a n M T:=by
 by_cases l:n=0;.exact .inl l
 .obtain⟨N,J,e,C⟩:=Af h.row;injection e with e;subst e;obtain⟨g,rfl,y,A,t⟩:=C l;refine .inr ⟨g,rfl,Uy x y,A,λi hi=>?_⟩;obtain⟨u,z,ai,D,rfl,G,d⟩:=h.tree i hi;refine⟨ai,D,t i _ z,?_⟩;rcases d with d|⟨s,xs,rfl,O,K,p,F⟩;.exact .inl d
  .have H:=h.base i hi;exact .inr ⟨s,xs,rfl,by omega,by omega,p,F.mono (Uq _) (λb f _=>⟨by have:=f.1;show Z<=b;omega,rfl⟩)⟩
end
variable {g:Nat}{I R:Nat->Int}{X:Nat->ByteArray}{cur:Array Value}{next:Int}{xs:List Value}
def T0 (e:Ending):Prop:=∃b:Bool,e=.returned (.bool b)
theorem P7 (x:ByteArray) (w:World):UO 144 #[.string x] w λe w'=>T0 e/\Bl w w':=by
 by_cases d:1<=(x.size:Int)
 .have b : ¬ (x.size:Int)<1:=by omega
  by_cases f:(x.size:Int)<=30;.go_enter func144,ntmps144;go_wp2;go_ret;exact⟨⟨_,rfl⟩,Up _ _⟩
  .go_enter func144,ntmps144;go_wp2;go_ret;exact⟨⟨_,rfl⟩,Up _ _⟩
 .go_enter func144,ntmps144;go_wp2;go_ret;exact⟨⟨_,rfl⟩,Up _ _⟩
theorem Ic (s p o g:ByteArray) (k:Nat) (d:k<4) (w:World):UO 145 #[.agg #[.string s,.string p,.string o,.string g],iv (k:Int)] w λe w'=>∃x,e=.returned (.string x)/\Bl w w':=by
 have b:U (Bl w (w.alloc (.cells #[.string s,.string p,.string o,.string g] 191))):=Aa _ _;rcases (show k=0\/k=1\/k=2\/k=3 by omega) with rfl|rfl|rfl|rfl;all_goals
  go_enter func145,ntmps145
  go_wp2
  go_ret
  first|exact b.o|exact⟨_,rfl,b.o⟩
theorem Qh {b:Array Oper} {K:Act->World->Prop} {x:Nat} {u:Value} (d:o.guard=none)
  (l:o.op=.buildSlice 151 1 #[(0,.tmp x)]) (p:a.tmps[x]?.getD undef=u) (e:∃i,u=iv i)
  (h:K (a.put o.dst (.slice (some (ad w.heap.size 0)) 1 1)) (w.alloc (.cells #[u] 2))) :
  if Region.wanted o (yielded b a.tmps)=true then Oper.wp prog o a w K Q else E:=by
 have f:Region.wanted o (yielded b a.tmps)=true:=by simp[Region.wanted,d]
 obtain⟨i,rfl⟩:=e;rw[if_pos f];unfold Oper.wp;simp[execOp,l,p,go_sem];exact h
theorem Oi {e:Array Oper} {K:Act->World->Prop} (i:o.guard=none) (x y:Operand)
  (z:o.op=.call { callee:=.builtin .append,args:=#[x,y],argTypes:=#[151,151] })
  (B k:Nat) (v:Value) (xs:List Value) (A:a.eval x=v) (u:Value) (d:(w.alloc (.cells #[u] 2)).ownsRow B 2 1 v k xs) (C:a.eval y=.slice (some (ad w.heap.size 0)) 1 1)
  (D:u.oneCell'=true) (S:k<=1048576) (O:B<=w.heap.size)
  (h:∀v' w',w'.ownsRow B 2 1 v' (k+1) (xs++[u])->(w.alloc (.cells #[u] 2)).grownBy w' v.ownBlock->K (a.put o.dst v') w') :
  if Region.wanted o (yielded e a.tmps)=true then Oper.wp prog o a (w.alloc (.cells #[u] 2)) K Q else E:=by
 have J:Region.wanted o (yielded e a.tmps)=true:=by simp[Region.wanted,i]
 rw[if_pos J];obtain⟨G,hi,p,l,f⟩:=info_parts info2;obtain⟨v',w',F,t,N,U,V⟩:=run_append_own_at (P:=prog) (w.alloc (.cells #[u] 2)) B 151 o.type 2 G _ 1 8 underlying151 hi p l f rfl (by decide) v k xs d (ad w.heap.size 0) 1 1 [u] rfl (λj H b=>by
  match j,b with
  | 0,b=>simp at b;subst b;rw[Addr.add_lit];exact (Bx.new w #[u] 2).cell 0
  | j+1,b=>simp at b) (λH s=>by simp at s;subst s;exact D) (by unfold maxLen;omega) (by omega) (by simp;omega)
 unfold Oper.wp execOp;simp only[z,resolve,invoke,builtin,Sem.run_bind,Sem.run_pure,Result.andThen_ok,List.map_toArray,List.map_cons,List.map_nil,A,C,F];exact h v' w' t N
theorem Iq {d:Array Oper} {K:Act->World->Prop} (p:o.guard=none) (k:Nat) (i:Nat) (v:Value) (f:Array TypeId)
  (s:o.op=.call { callee:=.value (.func k),args:=#[.tmp i,.const v],argTypes:=f }) (u:Value) (t:a.tmps[i]?.getD undef=u) (l:∀b w,(callFunc k b).run prog w=.ok (.enter k b) w)
  (h:UO k #[u,v] w λe w'=>∃r,e=.returned r/\K (a.put o.dst r) w') :
  if Region.wanted o (yielded d a.tmps)=true then Oper.wp prog o a w K Q else E:=by
 have y:Region.wanted o (yielded d a.tmps)=true:=by simp[Region.wanted,p]
 rw[if_pos y];unfold Oper.wp;simp[execOp,s,resolve,invoke,t,go_sem,l];refine h.mono ?_;rintro e w' ⟨u,rfl,x⟩;exact x
theorem Kt {t:TypeId} (h:w.ownsRow B t 1 (.slice (some (ad g 0)) n c) n xs):∃cur:Array Value,Bx w g t cur/\∀(j:Nat) (u:Value),xs[j]?=some u->cur[j]?=some u:=by
 rcases h.2 with ⟨q,_⟩|⟨s,f,cur,q,x,d,i,l,p,e⟩;.cases q
 .injection q with q;injection q with q;injection q with q;subst q;refine⟨cur,d,λj u b=>?_⟩;rw[<- e,List.getElem?_take] at b;split at b;.simpa using b
  .cases b
def Ep (w:World) (g:Nat):Prop:=∃cur:Array Value,Bx w g 2 cur/\∀j,j<4->∃x:Int,cur[j]?=some (iv x)
theorem Ep.of_block {w w' : World} {g:Nat} (h:Ep w g) (e:w'.heap[g]?=w.heap[g]?):Ep w' g:=by obtain⟨cur,b,d⟩:=h;exact⟨cur,b.of_block e,d⟩
theorem Ep.below {w w' : World} {g:Nat} (h:Ep w g) (e:Bl w w'):Ep w' g:=by obtain⟨cur,b,d⟩:=h;exact⟨cur,b.below e,d⟩
theorem Ep.cell {w:World} {g:Nat} (h:Ep w g) (j:Nat) (e:j<4):∃x:Int,w.cell? (ad g j)=some (iv x):=by obtain⟨cur,b,d⟩:=h;obtain⟨x,f⟩:=d j e;exact⟨x,(b.cell j).trans f⟩
theorem Ep.set {w:World} {g:Nat} (h:Ep w g) (k:Nat) (x:Int):Ep (w.setCell (ad g k) (iv x)) g:=by
 obtain⟨cur,d,f⟩:=h;refine⟨_,d.set k (iv x),λj i=>?_⟩;obtain⟨y,b⟩:=f j i;have l:=(Array.getElem?_eq_some_iff.1 b).1;by_cases e:k=j;.subst e;exact⟨x,by rw[Array.getElem?_setIfInBounds_self_of_lt l]⟩
 .exact⟨y,by rw[Array.getElem?_setIfInBounds_ne e];exact b⟩
theorem Ep.bx {b:Nat} {t:TypeId} (h:Ep w g) (e:Bx w b t cur) (d:2≠t):g≠b:=by obtain⟨i,f,_⟩:=h;rintro rfl;unfold Bx at f e;rw[f] at e;injection e with q;injection q with _ q _;exact d q
theorem Ep.frozen {w:World} {g:Nat} (h:Ep w g) (i:Nat):w.frozen? (ad g i)=false:=by obtain⟨d,b,_⟩:=h;exact b.frozen i
theorem Ep.lt {w:World} {g:Nat} (h:Ep w g):g<w.heap.size:=by obtain⟨d,b,_⟩:=h;exact b.lt
def Uc (W:World) (n:Nat) (e:Ending) (w' : World):Prop:=
 Bl W w'/\∃ok id nx a n' c I X R,e=.returned (.agg #[.bool ok,iv id,iv nx,.slice a n' c])/\Br w' W.heap.size a n' I X R/\n'<=c/\n'<=n+1
theorem J7 {a:Option Addr} (x:Int) (h:FF w a n I X R) (z:n<=1048576) (b:n<=c):UO 147 #[.agg #[iv next,.slice a n c],iv x] w (Uc w n):=by refine (LI next a n c I X R x w h z b).mono ?_;rintro e w' ⟨s,id,G,t,f,l,p,i,C,y,F,D,d,A⟩;refine⟨d,s,id,G,C,t,y,f,l,p,F,D,A,?_⟩;rcases i with ⟨_,_,_,_,e,_⟩|⟨_,_,_,_,_,_,_,_,e,_⟩|⟨_,_,_,_,_,_,_,_,e,_⟩ <;> omega
theorem Qm {a:Option Addr} (x:ByteArray) (h:FF w a n I X R) (z:n<=1048576) (b:n<=c):UO 148 #[.agg #[iv next,.slice a n c],.string x] w (Uc w n):=by refine (L8 next a n c I X R x w h z b).mono ?_;rintro e w' ⟨s,id,G,t,f,l,p,i,C,y,F,D,d,A⟩;refine⟨d,s,id,G,C,t,y,f,l,p,F,D,A,?_⟩;rcases i with ⟨_,_,_,_,e,_⟩|⟨_,_,_,_,_,_,_,_,e,_⟩|⟨_,_,_,_,_,_,_,_,e,_⟩ <;> omega
theorem ST {l:List Oper}{P:Program}{S:World->Prop}{d:Nat}{s p:Oper}{f:Nat}{b:Array Bool} (i j:Nat) (z:CW i l s) (x:CW j l p) (D:Region.ready .any l.toArray b=[i,j]) (hi:∀e : Act->World->Prop,Shut (∀a w,(i≠d->S w)->((i≠d->S w)->AG P .any l.toArray Q S d f (b.setIfInBounds i true) a w)->e a w)->if Region.wanted s (yielded l.toArray a.tmps)=true then Oper.wp P s a w e Q else e (a.put s.dst undef) w) (F:∀e : Act->World->Prop,Shut (∀a w,(j≠d->S w)->((j≠d->S w)->AG P .any l.toArray Q S d f (b.setIfInBounds j true) a w)->e a w)->if Region.wanted p (yielded l.toArray a.tmps)=true then Oper.wp P p a w e Q else e (a.put p.dst undef) w):
  AG P .any l.toArray Q S d (f+1) b a w:=
 ⟨λC=>(by rw[D] at C;cases C),λk t=>by
  rw[D] at t
  simp only[List.mem_cons,List.not_mem_nil,or_false] at t
  rcases t with rfl|rfl
  .exact wpOp_step z.get (λe A=>hi e (λa w h y=>A a w ⟨h,y h⟩))
  .exact wpOp_step x.get (λe A=>F e (λa w h y=>A a w ⟨h,y h⟩))⟩
theorem ED {b:Nat} {t t':TypeId} {s:Nat} {v:Value} (h:w.ownsRow B t s v n xs) (f:Bx w b t' cur) (d:t≠t'):v.ownBlock≠some b:=by
 intro e;rcases h.2 with ⟨rfl,_⟩|⟨g,l,p,rfl,_,i,_⟩;.simp[Value.ownBlock] at e
 .simp[Value.ownBlock] at e;subst e;unfold Bx at f;rw[i] at f;injection f with q;injection q with _ q _;exact d q
structure RW (Z:Nat) (w:World) (m:Nat) (dv ivx:Value):Prop where
 dict:∃next a n c I X R,dv=.agg #[iv next,.slice a n c]/\Br w Z a n I X R/\n<=c/\n<=m
 ix:∃a c M T,ivx=.agg #[.slice a 6 c]/\FV Z w a 6 M T/\VI 6 M T
theorem QW (h:A6 w g 232 (n*3) (Bh I X R)):FF w (some (ad g 0)) n I X R:=by
 refine Or.inr ⟨g,0,rfl,λi hi=>⟨?_,?_,?_⟩⟩;.have:=h.cell (i:=i*3) (by omega);rw[Ib] at this;simpa using this
 .have:=h.cell (i:=i*3+1) (by omega);rw[IV] at this;simpa using this
 .have:=h.cell (i:=i*3+2) (by omega);rw[CT] at this;simpa using this
theorem Br.rd {a:Option Addr} (h:Br w B a n I X R):FF w a n I X R:=by
 rcases h with h|⟨g,rfl,_,b⟩;.exact Or.inl h
 .exact QW b
theorem Br.keep {Z:Nat} {w':World} {a:Option Addr} (h:Br w Z a n I X R) (f:∀b,Z<=b->b<w.heap.size->w'.heap[b]?=w.heap[b]?):Br w' Z a n I X R:=by
 rcases h with h|⟨g,rfl,d,e⟩;.exact Or.inl h
 .exact Or.inr ⟨g,rfl,d,e.of_block (f g d e.lt)⟩
theorem RW.keep {Z m f : Nat} {w w' : World} {l d:Value} (h:RW Z w m l d) (F:m<=f) (y:w.heap.size<=w'.heap.size) (i:∀b,Z<=b->b<w.heap.size->w'.heap[b]?=w.heap[b]?):RW Z w' f l d:=by obtain⟨⟨next,a,n,c,I,X,R,e,x,p,D⟩,⟨A,t,M,T,s,z,C⟩⟩:=h;exact⟨⟨next,a,n,c,I,X,R,e,x.keep i,p,by omega⟩,⟨A,t,M,T,s,z.keep y i,C⟩⟩
variable {L:List Qd}{a:Option Addr}
def FM (w:World) (L:List Qd) (e:Ending) (w' : World):Prop:=
 ∃a' c',e=.returned (.slice a' L.length c')/\w'.ownsRow w.heap.size 34 4 (.slice a' L.length c') L.length (AL L)/\Bl w w'
theorem EZ {B d:Nat} {e:TypeId} {size:Nat} {v:Value} {xs:List Value} (h:w.ownsRow B e size v n xs) (l:d<=B):w.ownsRow d e size v n xs:=⟨h.1,h.2.imp id (λ⟨g,b,cur,p,i,f⟩=>⟨g,b,cur,p,Uy l i,f⟩)⟩
theorem Rq {b:Nat} {w':World} (h:FX w a L) (x:JI b w w') (f:∀o,w.cell? (ad b o)=none):FX w' a L:=by
 rcases h with q|⟨g,rfl,p⟩;.exact .inl q
 .refine .inr ⟨g,rfl,λi hi=>?_⟩;obtain⟨d,t,l,z⟩:=p i hi;have y:=Uo _ _ d;have s:g≠b:=by rintro rfl;rw[f] at d;cases d
  have e:=λo=>World.cell?_of_block (a:=(ad g o)) (x.2.2.2.2 g y s);exact⟨by rw[e];exact d,by rw[e];exact t,by rw[e];exact l,by rw[e];exact z⟩
theorem IQ {k:Nat} (h:k<L.length):L.take (k+1)=L.take k++[L[k]]:=by rw[List.take_add_one,Ut h];rfl
structure TO (w W:World) (a:Option Addr) (n c:Nat) (p:Qd):Prop where
 ib:Bx W w.heap.size 32 #[.slice a n c]
 pb:Bx W (w.heap.size+1) 34 #[iv p.s,iv p.p,iv p.o,iv p.g]
 ob:W.ownsRow (w.heap.size+2) 34 4 (.slice (some (ad (w.heap.size+2) 0)) 0 0) 0 []
 lt:w.heap.size+2<W.heap.size
 eb:∀o,W.cell? (ad (w.heap.size+2) o)=none
 bel:Bl w W
theorem TO.keep {W d:World} {c:Nat} {p:Qd} (h:TO w W a n c p) (b:Bl W d):TO w d a n c p:=
 ⟨(b.block _ h.ib.lt).trans h.ib,(b.block _ h.pb.lt).trans h.pb,Ag h.ob b,UB h.lt b.size,λo=>by rw[b.cell (show w.heap.size+2<W.heap.size from h.lt)];exact h.eb o,h.bel.trans (b.mono h.bel.size)⟩
theorem Ru (w:World) (a:Option Addr) (n c:Nat) (p:Qd):TO w (((w.alloc (.cells #[.slice a n c] 32)).alloc (.cells #[iv p.s,iv p.p,iv p.o,iv p.g] 34)).alloc (.cells #[] 34)) a n c p:=by have e:=Bx.new w #[.slice a n c] 32;have b:=Bx.new (w.alloc (.cells #[.slice a n c] 32)) #[iv p.s,iv p.p,iv p.o,iv p.g] 34;have q:=Aw ((w.alloc (.cells #[.slice a n c] 32)).alloc (.cells #[iv p.s,iv p.p,iv p.o,iv p.g] 34)) 34 (w.heap.size+2) 4 (by simp);have d:=Bx.new ((w.alloc (.cells #[.slice a n c] 32)).alloc (.cells #[iv p.s,iv p.p,iv p.o,iv p.g] 34)) #[] 34;simp only[UF] at b d q;exact⟨(e.alloc _).alloc _,b.alloc _,q,by simp,λo=>by rw[Bx.cell d o];rfl,((Aa _ _).alloc (by simp) _).alloc (by simp;omega) _⟩
theorem QE (a:Option Addr) (n c:Nat) (M:Nat->Nat) (T:Nat->Nat->Tn) (p:Qd) (perm:Int) (B:Bool) (L:List Qd) (w:World) (h:CO w a n M T) (hn:n<=1048576) (hN:BF n M T)
  (hE:∀w,UO 29 #[iv perm,qv p] w (UP w (.bool B)))
  (hL:(¬ (VI n M T/\B=true)/\L=[])\/(VI n M T/\B=true/\∃j:Nat,j<6/\perm=(j:Int)/\∃t,BE (M j) (T j) t/\L=((Ab 21 t).map (Al j)).filter (λq=>Cr q p))) :
  UO 8 #[.agg #[.slice a n c],qv p,iv perm] w (FM w L):=by
 have HV:=Ae (λW hb=>F3 a n c M T W (h.below hb) hn hN);unfold qv at hE;have HE:=Ae hE;have HR:=Ae (ai h hN);have HL:=hL;have J:=Ae hL;clear h hN hE hL HL;unfold qv;go_enter func8,ntmps8;have S0:=Ae (Ru w a n c p);obtain⟨i0,au,ao,ap,aw⟩:=info_parts info34;have HI:=Ae (ai au (ai ao (ai ap aw)));clear au ao ap aw;go_wp2_with fail
 (with_reducible refine (HV.o _ S0.o.bel).mono ?_)
 rintro e w1 ⟨bv,rfl,a0,ay⟩;have ab:=Ae a0;have S:=Ae (S0.o.keep ay);clear a0 ay S0 HV;cases bv with
 | false=>
  have HF:U (L=[]):=by
   rcases J.o with ⟨_,q⟩|⟨q,_⟩;.exact q
   .have:=ab.o.2 q;cases this
  go_wp2;go_ret;refine⟨some (ad (w.heap.size+2) 0),0,?_,?_,S.o.bel⟩;.rw[HF.o];rfl
  .rw[HF.o];exact EZ S.o.ob (by omega)
 | true=>
 have c0:=S.o.pb.cell 0;have c1:=S.o.pb.cell 1;have c2:=S.o.pb.cell 2;have c3:=S.o.pb.cell 3;simp at c0 c1 c2 c3;go_wp2_with fail
 (with_reducible refine (HE.o _).mono ?_)
 rintro e w2 ⟨rfl,av⟩;have S2:=Ae (S.o.keep av);clear av S HE c0 c1 c2 c3;cases B with
 | false=>
  have HF:U (L=[]):=by
   rcases J.o with ⟨_,q⟩|⟨_,q,_⟩;.exact q
   .cases q
  go_wp2;go_ret;refine⟨some (ad (w.heap.size+2) 0),0,?_,?_,S2.o.bel⟩;.rw[HF.o];rfl
  .rw[HF.o];exact EZ S2.o.ob (by omega)
 | true=>
 obtain⟨C,j,F,ep,t,H,eL⟩:VI n M T/\∃j:Nat,j<6/\perm=(j:Int)/\∃t,BE (M j) (T j) t/\L=((Ab 21 t).map (Al j)).filter (λq=>Cr q p):=by
  rcases J.o with ⟨q,_⟩|⟨q1,_,q2⟩;.exact absurd ⟨ab.o.1 trivial,rfl⟩ q
  .exact⟨q1,q2⟩
 subst ep;have e6:=C.1;subst e6;obtain⟨A,N⟩:=gn ((Ab 21 t).map (Al j));have a5:U (L=A.filter (λq=>Cr q p)):=by rw[N];exact eL
 have b0:=S2.o.ib.cell 0;simp at b0;rcases HR.o.1.below S2.o.bel with q|⟨bb,oo,ea,hc⟩;.omega
 obtain⟨aj,cj,s0,a1⟩:=hc j F;have Y:=HR.o.2 j F;obtain⟨m,hm⟩:=gn (M j);obtain⟨ll,K⟩:=gn A.length;have bd:ll<=300:=by obtain⟨t2,ac,aa,_⟩:=C.2.1 j F;have e:=CR ac H;subst e;rw[K,N,UD];exact aa
 have an:U (UO 33 #[.agg #[.slice aj m cj],iv (j:Int)] w2 λe w'=>∃a' c',e=.returned (.slice a' A.length c')/\FX w' a' A/\Bl w2 w'):=by obtain⟨t2,ac,aa,a6⟩:=C.2.1 j F;have e:=CR ac H;subst e;rw[hm];exact CB j F aj (M j) cj (T j) t2 w2 a1 H Y.2 (λk hk=>(a6 k hk).1) aa A N
 rw[<- hm] at s0;have j0:(0:Int)<=(j:Int):=by omega
 have j1:(j:Int)<6:=by omega
 subst ea;clear hc a1 Y hm C H eL N J ab;go_wp2_with fail
 (with_reducible refine an.o.mono ?_)
 rintro e w3 ⟨a3,c3,rfl,am,az⟩;have z:=Ae (ai (S2.o.keep az) (ai am K));rw[<- K];clear az am K an b0 s0 S2 HR;go_wp2;go_loopw [7,9] (λax i wr=>∃(k:Nat) (R:List Qd),k<=ll/\i=iv k/\R=(A.take k).filter (λq=>Cr q p)/\wr.ownsRow (w.heap.size+2) 34 4 ax R.length (AL R)/\JI (w.heap.size+2) w3 wr/\(∀g,ax.ownBlock=some g->g=w.heap.size+2\/w3.heap.size<=g)) (λ_ i _=>ll-(intOf i).toNat)
 case atStart=>exact⟨0,[],Us _,rfl,rfl,z.o.1.ob,JI.refl _ _,λg e=>.inl (by simp[Value.ownBlock] at e;omega)⟩
 case round=>
  obtain⟨k,R,hk,rfl,hR,l,aq,O⟩:=hrel;obtain⟨ar,cr,er,_⟩:=Af l;subst er;have a4:R.length<=k:=by rw[hR];exact Uy (List.length_filter_le _ _) (by rw[UE];omega)
  have f:=Ae (ai l (ai aq (ai hR O)));clear l aq hR O;obtain⟨rl,ag⟩:=gn R.length;have G:=Ae ag;rw[<- ag] at f a4 ⊢;clear ag;have k0:(0:Int)<=(k:Int):=by omega
  have ba:=f.o.2.1.2.2.2.1;have bc:=z.o.1.lt;by_cases a8:k<ll
  .have k1:(k:Int)<(ll:Int):=by omega
   have af:k<A.length:=by rw[<- z.o.2.2];exact a8
   rcases Rq z.o.2.1 f.o.2.1 z.o.1.eb with h0|⟨b,ea,hc⟩;.omega
   obtain⟨s0,s1,s2,s3⟩:=hc k af;obtain⟨x,hx⟩:=gn (A[k]);have ak:=Ae hx.symm;rw[<- hx] at s0 s1 s2 s3;have y:Bx wr (w.heap.size+1) 34 #[iv p.s,iv p.p,iv p.o,iv p.g]:=(f.o.2.1.2.2.2.2 _ z.o.1.pb.lt (by omega)).trans z.o.1.pb;have y0:=y.cell 0;have y1:=y.cell 1;have y2:=y.cell 2;have y3:=y.cell 3;simp at y0 y1 y2 y3;have a2:=Ae (λW=>Mq x p W);subst ea;clear hc hx y;go_wp2;go_region_with (go_at_call 34;refine (a2.o _).mono ?_;rintro e w5 ⟨rfl,ah⟩)
   all_goals
    have d:=Ad ah
    have t0:=(d.cell (Uo _ _ s0)).trans s0
    have t1:=(d.cell (Uo _ _ s1)).trans s1
    have t2:=(d.cell (Uo _ _ s2)).trans s2
    have t3:=(d.cell (Uo _ _ s3)).trans s3
    have a9:=d.size
    have H5:=Ae (ai (Ag f.o.1 d) (f.o.2.1.below d))
    clear ah d s0 s1 s2 s3 y0 y1 y2 y3
    cases hf:Cr x p with
    | false=>
     have HN:U (R=(A.take (k+1)).filter (λq=>Cr q p)):=by
      show R=_
      rw[IQ af,List.filter_append,<- f.o.2.2.1,ak.o,List.filter_cons,hf]
      simp
     go_wp2
     go_roundw
     case rel=>exact⟨k+1,R,by omega,by go_num,HN.o,by rw[<- G.o];exact H5.o.1,H5.o.2,f.o.2.2.2⟩
     case measure=>simp[intOf];omega
    | true=>
     have HN:U (R++[x]=(A.take (k+1)).filter (λq=>Cr q p)):=by
      show R++[x]=_
      rw[IQ af,List.filter_append,<- f.o.2.2.1,ak.o,List.filter_cons,hf]
      simp
     have D:U ((w5.alloc (.cells #[iv x.s,iv x.p,iv x.o,iv x.g] 34)).ownsRow (w.heap.size+2) 34 4 (.slice ar rl cr) rl (AL R)/\JI (w.heap.size+2) w3 (w5.alloc (.cells #[iv x.s,iv x.p,iv x.o,iv x.g] 34))/\(∀j u,(AL [x])[j]?=some u->(w5.alloc (.cells #[iv x.s,iv x.p,iv x.o,iv x.g] 34)).cell? (ad w5.heap.size j)=some u)):=by
      refine⟨Ag H5.o.1 (Aa _ _),H5.o.2.below (Aa _ _),λj u F=>?_⟩
      rw[(Bx.new w5 #[iv x.s,iv x.p,iv x.o,iv x.g] 34).cell j]
      simpa[AL] using F
     go_wp2_with (at_builtin;refine wpList_append_own_at _ rfl _ _ 28 rfl (w.heap.size+2) 34 i0 _ 4 32 underlying28 HI.o.1 HI.o.2.1 HI.o.2.2.1 HI.o.2.2.2 rfl (by decide) (.slice ar rl cr) rl (AL R) rfl D.o.1 (ad w5.heap.size 0) 1 1 (AL [x]) rfl rfl (λj u F=>by rw[Addr.add_lit,UI];exact D.o.2.2 j u F) (by intro u hu;simp[AL] at hu;rcases hu with rfl|rfl|rfl|rfl <;> rfl) (by unfold maxLen;omega) (by omega) (by simp;omega) ?_)
     intro v7 w7 ae al _ V
     have H7:U (w7.ownsRow (w.heap.size+2) 34 4 v7 (R++[x]).length (AL (R++[x]))/\JI (w.heap.size+2) w3 w7/\(∀g,v7.ownBlock=some g->g=w.heap.size+2\/w3.heap.size<=g)):=by
      refine⟨by rw[EA,Uz,<- G.o];exact ae,D.o.2.1.grown al f.o.2.2.2,λg e=>?_⟩
      rcases V with q|q
      .exact f.o.2.2.2 g (by rw[<- q];exact e)
      .rw[q] at e
       injection e with e
       exact .inr (by omega)
     obtain⟨a7,c7,e7,_⟩:=Af ae
     subst e7
     clear ae al V D
     go_wp2
     go_roundw
     case rel=>exact⟨k+1,R++[x],by omega,by go_num,HN.o,H7.o⟩
     case measure=>simp[intOf];omega
  .obtain rfl:k=ll:=by omega
   have k1:¬ (k:Int)<(k:Int):=by omega
   have HF:U (rl=L.length/\wr.ownsRow w.heap.size 34 4 (.slice ar L.length cr) L.length (AL L)/\Bl w wr):=by
    have e:R=L:=by rw[f.o.2.2.1,a5.o,z.o.2.2,UC]
    have ho:=f.o.1;rw[G.o,e] at ho;exact⟨by rw[<- e];exact G.o,EZ ho (by omega),z.o.1.bel.trans (f.o.2.1.bel z.o.1.bel.size (by omega))⟩
   go_wp2;go_ret;exact⟨ar,cr,by rw[<- HF.o.1];rfl,HF.o.2⟩
theorem SD (a:Option Addr) (n c:Nat) (M:Nat->Nat) (T:Nat->Nat->Tn) (p:Qd) (perm:Int) (B:Bool) (L:List Qd) (w:World) (h:CO w a n M T) (D:n<=1048576) (f:BF n M T)
  (d:∀w,UO 29 #[iv perm,qv p] w (UP w (.bool B)))
  (i:(¬ (VI n M T/\B=true)/\L=[])\/(VI n M T/\B=true/\∃j:Nat,j<6/\perm=(j:Int)/\∃t,BE (M j) (T j) t/\L=((Ab 21 t).map (Al j)).filter (λq=>Cr q p))) :
  UO 31 #[.agg #[.slice a n c],qv p,iv perm] w (UP w (iv (L.length:Int))):=by
 have x:U (∀W:World,Bl w W->UO 8 #[.agg #[.slice a n c],.agg #[iv p.s,iv p.p,iv p.o,iv p.g],iv perm] W (FM W L)):=λW z=>QE a n c M T p perm B L W (h.below z) D f d i;have l:U (∀A C:Obj,Bl w ((w.alloc A).alloc C)):=λ_ _=>(Aa _ _).alloc (by simp) _;clear h f d i;unfold qv;go_enter func31,ntmps31;go_wp2_with fail
 (with_reducible refine (x.o _ (l.o _ _)).mono ?_)
 rintro e G ⟨H,F,rfl,_,b⟩;have y:=Ae ((l.o _ _).trans (b.mono (by simp;omega)));clear b;go_wp2;go_ret;exact⟨rfl,y.o⟩
variable {j:Nat}{q:Qd}
def AA (j:Nat) (q:Qd):ByteArray:=FJ (A7 j q) 4
theorem Bq (j:Nat) (q:Qd):(AA j q).size=16:=Fa _ 4
theorem Ox (l:List UInt8):Op.bytesLess l l=false:=by
 cases h:Op.bytesLess l l with
 | false=>rfl
 | true=>have:=(Et l l rfl).1 h;omega
theorem BS (d:j<6) (h:AQ q=true) (i:Nat) (hi:i<4):1<=A7 j q i/\A7 j q i<=2000000000:=by
 have b:(1<=q.s/\q.s<=2000000000)/\(1<=q.p/\q.p<=2000000000)/\(1<=q.o/\q.o<=2000000000)/\(1<=q.g/\q.g<=2000000000):=by simp[AQ,BP] at h;omega
 have f:=DL j d i hi;unfold A7;rcases (show AM j i=0\/AM j i=1\/AM j i=2\/AM j i=3 by omega) with e|e|e|e <;> rw[e];.exact b.1
 .exact b.2.1
 .exact b.2.2.1
 .exact b.2.2.2
theorem A9 (f:j<6) (h:AQ q=true):Al j (AA j q)=q:=by
 have l:=BS f h;have y:Jw (A7 j q) 4:=⟨Uq _,λi hi=>by have:=l i hi;omega,λh=>absurd h (by omega)⟩;have b:Cx (A7 j q) 4:=by intro i hi;have t:=l i hi;exact⟨⟨by omega,t.2⟩,λr x e=>by have:=l r (by omega);omega⟩
 have x:=l 3 (by omega);obtain⟨D,z⟩:=J9 (A7 j q) 3 (by omega) x.2;have A:=(IX f y b (Bq j q)).1 ⟨Ox _,by show Op.bytesLess (FJ (A7 j q) 4).toList (JD (A7 j q) 4).toList=true;exact (Et _ _ z).2 (by omega)⟩
 have d:=(Gm f y b _).1 A;have e:∀s,s<4->pk (AA j q) (CK j s)=AB q.s q.p q.o q.g s:=λs C=>by have t:=Fq j f s C;rw[d _ t.2];unfold A7;rw[t.1]
 unfold Al;rw[e 0 (by omega),e 1 (by omega),e 2 (by omega),e 3 (by omega)];rfl
theorem Nk (j:Nat) (H:j<6) (p:Qd) (hr:∀i,i<4->0<=A7 j p i/\A7 j p i<=2000000000) (w:World) :
  UO 83 #[.func (.func (BY j)) #[] #[],qv p] w (UP w (.string (AA j p))):=by
 have O:U (∀W:World,UO (BY j) #[pt w.heap.size] W (UP W (.agg (Oc j w.heap.size)))):=λW=>Ku j H _ W;have HK:=Ae (ai H hr);have ab:∀b W,(callFunc (BY j) b).run prog W=.ok (.enter (BY j) b) W:=λb W=>by rcases (show j=0\/j=1\/j=2\/j=3\/j=4\/j=5 by omega) with rfl|rfl|rfl|rfl|rfl|rfl <;> rfl
 have K:=Ae (λx W h0 h1=>Hh x h0 h1 W);clear H hr;unfold qv;go_enter func83,ntmps83;go_wp2_with fail
 (with_reducible refine (O.o _).mono ?_)
 rintro e w1 ⟨rfl,h⟩;have S:=Ae (ai ((h.block _ (by simp)).trans (Bx.new w _ _)) ((Aa _ _).trans (h.mono (by simp))));clear h O;go_wp2_with fail
 go_loopw [5,7,10] (λlo _ i wr=>∃F:Nat,F<=4/\i=iv F/\lo=.string (FJ (A7 j p) F)/\Bx wr w.heap.size 34 #[iv p.s,iv p.p,iv p.o,iv p.g]/\Bl w wr) (λ_ _ i _=>4-(intOf i).toNat)
 case atStart=>exact⟨0,Us _,rfl,rfl,S.o⟩
 case round=>
  obtain⟨i,hi,rfl,rfl,V,Y⟩:=hrel;have t:=Ae (ai V Y);clear V Y S;by_cases A:i<4
  .have aa:∀W:World,(Instr.index 156 (.agg (Oc j w.heap.size)) (iv (i:Int))).run prog W=.ok (.pointer (some (ad w.heap.size (AM j i)))) W:=λW=>by rcases (show i=0\/i=1\/i=2\/i=3 by omega) with rfl|rfl|rfl|rfl <;> rfl
   have G:=t.o.1.cell (AM j i);rw[RF p _ (DL j HK.o.1 i A)] at G;obtain⟨x,C⟩:∃x,x=A7 j p i:=⟨_,rfl⟩;have HX:U (x=A7 j p i):=C;have z:=HK.o.2 i A;have y:AB p.s p.p p.o p.g (AM j i)=x:=C.symm;rw[y] at G;rw[<- C] at z;obtain⟨ae,ac⟩:=z;clear C y;obtain⟨lo,f⟩:=gn (FJ (A7 j p) i);obtain⟨D,d⟩:=gn (OW x);have N:U (∀W:World,UO 110 #[iv x] W (UP W (.string D))):=λW=>by rw[d];exact K.o x W (by omega) (by omega)
   have J:U (lo++D=FJ (A7 j p) (i+1)):=by rw[f,d,HX.o];rfl
   have z4:¬ (9223372036854775807:Int)<(lo.size:Int)+(D.size:Int):=by rw[f,d,Fa,Gt];omega
   rw[<- f];clear f d;go_wp2_with fail
   (with_reducible refine (N.o _).mono ?_)
   rintro e w3 ⟨rfl,l⟩;have Q3:=Ae (ai ((l.block _ t.o.1.lt).trans t.o.1) (t.o.2.trans (l.mono t.o.2.size)));clear l G;go_wp2;go_roundw;case rel=>exact⟨i+1,by omega,by go_num,by rw[<- J.o],Q3.o⟩
   case measure=>simp[intOf];omega
  .obtain rfl:i=4:=by omega
   go_wp2;go_ret;exact⟨rfl,t.o.2⟩
end Go.Proofs.YtcnollkkigiobaaGreat
