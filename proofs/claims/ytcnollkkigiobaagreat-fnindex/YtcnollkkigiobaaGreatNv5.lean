import Derived.Laws.Cover1
import Derived.Test.YtcnollkkigiobaaGreatNv2
set_option linter.unusedVariables false
set_option linter.unusedSimpArgs false
set_option maxRecDepth 100000
set_option maxHeartbeats 90000000
namespace Go.Proofs.YtcnollkkigiobaaGreat
open Go Go.Deep Go.RowKit Go.Proofs.Tryz
def FZ (S:Nat->Prop) (w:World):(d:Nat)->Ro d->Value->Prop
 | 0,_,_=>False
 | d+1,.inl t,v=>∃b ka kc,v=.iface 204 (pt b)/\S b/\Bx w b 206 #[iv (t.length:Int),.slice ka t.length kc]/\OU S w ka t.length (λi=>.string (gt t i))
 | d
  + 1,.inr l,v=>∃(b g kc:Nat) (xs:List Value),v=.iface 174 (pt b)/\S b/\Bx w b 179 #[iv ((l.flatMap (Ab d)).length:Int),.slice (some (ad g 0)) l.length kc]/\S g/\(g<w.heap.size/\l.length<=kc/\kc<=9223372036854775807)/\0<l.length/\(∀j u,xs[j]?=some u->w.cell? (ad g j)=some u)/\
  ∀k (h:k<l.length),∃u,xs[k]?=some u/\FZ S w d l[k] u
theorem FZ.mono {S S' : Nat->Prop} {w w' : World} (s:w.heap.size<=w'.heap.size) (i:∀b,S b->b<w.heap.size->S' b/\w'.heap[b]?=w.heap[b]?):∀{d:Nat} {t:Ro d} {v:Value},FZ S w d t v->FZ S' w' d t v
 | 0,_,_,h=>h
 | d+1,.inl t,v,h=>by
  obtain⟨b,y,m,rfl,p,f,E⟩:=h
  obtain⟨r,q⟩:=i b p f.lt
  exact⟨b,y,m,rfl,r,f.of_block q,E.mono s i⟩
 | d+1,.inr l,v,h=>by
  obtain⟨b,g,m,C,rfl,p,f,F,c,G,A,D⟩:=h
  obtain⟨r,q⟩:=i b p f.lt
  obtain⟨x,I⟩:=i g F c.1
  refine⟨b,g,m,C,rfl,r,f.of_block q,x,⟨by have:=c.1;omega,c.2⟩,G,λj u z=>by rw[World.cell?_of_block (a:=(ad g j)) I];exact A j u z,λk o=>?_⟩
  obtain⟨u,e,H⟩:=D k o
  exact⟨u,e,FZ.mono s i H⟩
theorem FZ.below {S:Nat->Prop} {w w' : World} {d:Nat} {t:Ro d} {v:Value} (h:FZ S w d t v) (e:Bl w w'):FZ S w' d t v:=
 h.mono e.size (λb f c=>⟨f,e.block b c⟩)
def AW:Bool->ByteArray->List ByteArray->Bool->ByteArray->Prop
 | hk,lk,[],hk',lk'=>hk'=hk/\lk'=lk
 | hk,lk,k::L,hk',lk'=>k.size<=16/\(hk=true->Op.bytesLess lk.toList k.toList=true)/\AW true k L hk' lk'
theorem AW.fn:∀{hk:Bool} {lk:ByteArray} {L:List ByteArray} {h1 h2:Bool} {l1 l2:ByteArray},AW hk lk L h1 l1->AW hk lk L h2 l2->h1=h2/\l1=l2
 | hk,lk,[],h1,h2,l1,l2,a,b=>⟨a.1.trans b.1.symm,a.2.trans b.2.symm⟩
 | hk,lk,k::L,h1,h2,l1,l2,a,b=>AW.fn a.2.2 b.2.2
theorem AW.app:∀{hk:Bool} {lk:ByteArray} {L M:List ByteArray} {h1 h2:Bool} {l1 l2:ByteArray},AW hk lk L h1 l1->AW h1 l1 M h2 l2->AW hk lk (L++M) h2 l2
 | hk,lk,[],M,h1,h2,l1,l2,a,b=>by
  obtain⟨rfl,rfl⟩:=a
  exact b
 | hk,lk,k::L,M,h1,h2,l1,l2,a,b=>⟨a.1,a.2.1,AW.app a.2.2 b⟩
theorem AW.split:∀{hk:Bool} {lk:ByteArray} {L M:List ByteArray} {h2:Bool} {l2:ByteArray},AW hk lk (L++M) h2 l2->∃b c,AW hk lk L b c/\AW b c M h2 l2
 | hk,lk,[],M,h2,l2,a=>⟨hk,lk,⟨rfl,rfl⟩,a⟩
 | hk,lk,k::L,M,h2,l2,a=>by
  obtain⟨b,c,e,f⟩:=AW.split a.2.2
  exact⟨b,c,⟨a.1,a.2.1,e⟩,f⟩
structure Cw (N:Nat->Tn) (n x:Nat) (dep D:Int) (hk:Bool) (lk:ByteArray) (d:Nat) (t:Ro d) (D' : Int) (hk' : Bool) (lk' : ByteArray):Prop where
 tl:Am N 0 d t x
 le:x+Ac d t<=n
 bal:∃h,Aq d (decide (dep=0)) t h/\D'=dep+(h:Int)
 dd:D=0\/D=D'
 asc:AW hk lk (Ab d t) hk' lk'
def DF (w:World) (rb b o n c x:Nat) (D:Int) (lk:ByteArray) (hk:Bool):Prop:=
 Bx w rb 161 #[.slice (some (ad b o)) n c,iv (x:Int),iv D,.string lk,.bool hk]
theorem BK (b:Nat) (x:Int) (w:World) (h:w.cell? (ad b 0)=some (iv x)) :
  UO 157 #[pt b] w λe w'=>e=.returned (iv x)/\w'=w:=by go_enter func157,ntmps157;go_wp2;go_ret;exact⟨rfl,rfl⟩
theorem C0 (b n g:Nat) (c:Option Addr) (j:Value) (X:Nat->ByteArray) (w:World) (h:Bx w b 206 #[j,.slice c n g]) (l:Cg w c n X) (o:0<n) :
  UO 205 #[pt b] w λe w'=>e=.returned (.string (X 0))/\w'=w:=by
 have m:=h.cell 1;simp at m;have i:(0:Int)<(n:Int):=by omega
 rcases l with p|⟨q,r,rfl,f⟩;.omega
 have k:=f 0 o;rw[Nat.add_zero] at k;clear h f;go_enter func205,ntmps205;go_wp2;go_ret;exact⟨rfl,rfl⟩
theorem J5 {d:Nat} {l:List (Ro d)} (c:0<l.length) (b:0<(Ab d l[0]).length):gt (l.flatMap (Ab d)) 0=gt (Ab d l[0]) 0:=by
 cases l with
 | nil=>simp at c
 | cons t l=>simp only[List.getElem_cons_zero] at b ⊢;rw[List.flatMap_cons];unfold gt;rw[Uw,Uw,List.getElem?_append_left b]
theorem IB:∀(d:Nat) (l:List (Ro d)) (S:Nat->Prop) (b:Nat) (h:Nat) (w:World),FZ S w (d+1) (.inr l) (.iface 174 (pt b))->(∀t,t∈l->Aq d false t h)->
  UO 188 #[pt b] w λe w'=>e=.returned (.string (gt (l.flatMap (Ab d)) 0))/\w'=w:=by
 intro d;induction d with
 | zero=>intro l S b h w F p;obtain⟨K,g,P,M,e,_,_,_,_,j,_,z⟩:=F;obtain⟨u,_,q⟩:=z 0 j;exact q.elim
 | succ d ih=>
  intro l S b h w F p;obtain⟨K,g,P,M,e,_,I,_,_,j,J,z⟩:=F;injection e with _ e;injection e with e;injection e with e;injection e with e;subst e;obtain⟨u,G,f⟩:=z 0 j;have c:=DI (p l[0] (UA j));rw[J5 j c];have H:=I.cell 1;simp at H;have V:=J 0 u G;have k:=p l[0] (UA j);have A:(0:Int)<(l.length:Int):=by omega
  clear I J z G;generalize l[0]=y at*
  generalize l.length=W at H A;clear j;rcases y with y|Q
  .obtain⟨D,C,r,rfl,_,x,s⟩:=f;have E:=Ae (C0 D y.length r C _ (gt y) w x s.rdS c);clear x s ih p k c;go_enter func188,ntmps188;go_wp2_with fail
   refine E.o.mono ?_;rintro e N ⟨rfl,rfl⟩;go_wp2;go_ret;exact⟨rfl,rfl⟩
  .obtain⟨U,T,L,_,i⟩:=k;have m:=f;obtain⟨D,R,r,O,rfl,_⟩:=m;have E:=Ae (ih Q S D L w f i);clear ih f i c p;go_enter func188,ntmps188;go_wp2_with fail
   refine E.o.mono ?_;rintro e N ⟨rfl,rfl⟩;go_wp2;go_ret;exact⟨rfl,rfl⟩
theorem EF (a:Option Addr) (n c:Nat) (L:List ByteArray) (w:World) (h:Cg w a n (gt L)) (m:n=L.length) (q:n<=1048576) :
  UO 119 #[.slice a n c] w λe w'=>∃f b,e=.returned (.slice f n b)/\w'.ownsRow w.heap.size 9 1 (.slice f n b) n (Ap L)/\Bl w w':=by
 have j:=Ae (ai h m);clear h m;go_enter func119,ntmps119;go_wp2_with (at_builtin;refine AX rfl _ _ rfl w.heap.size (.slice none 0 0) 0 [] rfl (World.ownsRow_nil _ _ _ _) a n c L rfl j.o.2 j.o.1 (by omega) (Uq _) ?_)
 intro s w' g l i;have r:=Ae ((Up _ _).grown l (Uq _) (λk e=>by simp[Value.ownBlock] at e));obtain⟨f,b,rfl,_⟩:=Af g;have p:=Ae g;clear g l i;go_wp2;go_ret;exact⟨f,b,rfl,p.o,r.o⟩
theorem Cd (b n g:Nat) (f:Option Addr) (x:Int) (w:World) (h:Bx w b 206 #[iv x,.slice f n g]) :
  UO 156 #[pt b] w λe w'=>e=.returned (.tuple #[])/\w'=w.setCell (ad b 0) (iv (n:Int)):=by
 have i:=h.cell 0;have c:=h.cell 1;have j:=h.frozen 0;have k:=h.lt;simp at i c;clear h;go_enter func156,ntmps156;go_wp2;go_end0
 exact⟨rfl,rfl⟩
def CG (B:Nat) (w:World):(d:Nat)->Ro d->Value->List Nat->Prop
 | 0,_,_,_=>False
 | d+1,.inl t,v,bs=>∃b ka kc,v=.iface 204 (pt b)/\B<=b/\Bx w b 206 #[iv (t.length:Int),.slice ka t.length kc]/\w.ownsRow B 9 1 (.slice ka t.length kc) t.length (Ap t)/\bs=b::(ka.map (·.block)).toList
 | d
  + 1,.inr l,v,bs=>∃(b g kc:Nat) (xs:List Value) (bss:List (List Nat)),v=.iface 174 (pt b)/\B<=b/\Bx w b 179 #[iv ((l.flatMap (Ab d)).length:Int),.slice (some (ad g 0)) l.length kc]/\w.ownsRow B 68 1 (.slice (some (ad g 0)) l.length kc) l.length xs/\0<l.length/\bss.length=l.length/\bs=b::g::bss.flatten/\
  ∀k (h:k<l.length),∃u us,xs[k]?=some u/\bss[k]?=some us/\CG B w d l[k] u us
theorem CG.keep {B:Nat} {w w' : World}:∀{d:Nat} {t:Ro d} {v:Value} {bs:List Nat},CG B w d t v bs->(∀b,b∈bs->w'.heap[b]?=w.heap[b]?)->CG B w' d t v bs
 | 0,_,_,_,h,_=>h
 | d+1,.inl t,v,bs,h,hk=>by
  obtain⟨b,x,j,rfl,o,m,i,rfl⟩:=h
  refine⟨b,x,j,rfl,o,m.of_block (hk b (by simp)),AK i (λg e=>hk g ?_),rfl⟩
  cases x with
  | none=>cases e
  | some p=>
   injection e with e
   subst e
   simp
 | d+1,.inr l,v,bs,h,hk=>by
  obtain⟨b,g,j,C,c,rfl,o,m,i,E,q,rfl,f⟩:=h
  refine⟨b,g,j,C,c,rfl,o,m.of_block (hk b (by simp)),AK i (λA e=>hk A ?_),E,q,rfl,λk h=>?_⟩
  .injection e with e
   subst e
   simp
  .obtain⟨u,r,D,y,F⟩:=f k h
   refine⟨u,r,D,y,CG.keep F (λz s=>hk z ?_)⟩
   have:r∈c:=List.mem_of_getElem? y
   simp only[List.mem_cons,List.mem_flatten]
   exact .inr (.inr ⟨r,this,s⟩)
theorem CG.lt {B:Nat} {w:World}:∀{d:Nat} {t:Ro d} {v:Value} {bs:List Nat},CG B w d t v bs->∀b,b∈bs->B<=b/\b<w.heap.size
 | 0,_,_,_,h,_,_=>h.elim
 | d+1,.inl t,v,bs,h,b',c=>by
  obtain⟨b,q,x,rfl,o,m,j,rfl⟩:=h
  rw[List.mem_cons] at c
  rcases c with rfl|c
  .exact⟨o,m.lt⟩
  .cases q with
   | none=>simp at c
   | some p=>
    simp at c
    exact Ah j b' (by rw[c];rfl)
 | d+1,.inr l,v,bs,h,b',c=>by
  obtain⟨b,g,x,E,C,rfl,o,m,j,H,y,rfl,f⟩:=h
  rw[List.mem_cons,List.mem_cons] at c
  rcases c with rfl|rfl|c
  .exact⟨o,m.lt⟩
  .exact Ah j b' rfl
  .rw[List.mem_flatten] at c
   obtain⟨F,A,r⟩:=c
   obtain⟨k,z,e⟩:=List.getElem_of_mem A
   obtain⟨u,s,G,i,D⟩:=f k (by omega)
   rw[Ut z,e] at i
   injection i with i
   subst i
   exact CG.lt D b' r
theorem CG.below {B:Nat} {w w' : World} {d:Nat} {t:Ro d} {v:Value} {c:List Nat} (h:CG B w d t v c) (f:Bl w w'):CG B w' d t v c:=h.keep (λb e=>f.block b (h.lt b e).2)
theorem CG.tat {B:Nat} {w:World}:∀{d:Nat} {t:Ro d} {v:Value} {bs:List Nat},CG B w d t v bs->FZ (λb=>b∈bs) w d t v
 | 0,_,_,_,h=>h.elim
 | d+1,.inl t,v,bs,h=>by
  obtain⟨b,C,o,rfl,L,p,c,rfl⟩:=h
  refine⟨b,C,o,rfl,by simp,p,?_⟩
  rcases c.2 with ⟨q,J⟩|⟨g,H,D,s,Q,O,R⟩
  .exact .inl J
  .injection s with s _ A
   subst s A
   refine .inr ⟨g,rfl,by simp,(Ah c g rfl).2,λi N=>?_⟩
   rw[c.cellAt i (by omega),Bf t i N]
 | d+1,.inr l,v,bs,h=>by
  obtain⟨b,g,o,E,m,rfl,L,p,c,G,F,rfl,f⟩:=h
  have y:=AS c
  refine⟨b,g,o,E,rfl,by simp,p,by simp,⟨(Ah c g rfl).2,y.1,y.2⟩,G,λj u x=>?_,λk h=>?_⟩
  .have e:=(List.getElem?_eq_some_iff.1 x).1
   rw[c.1] at e
   rw[c.cellAt j e]
   exact x
  .obtain⟨u,z,M,K,I⟩:=f k h
   refine⟨u,M,FZ.mono (Uq _) (λP r _=>⟨?_,rfl⟩) (CG.tat I)⟩
   have:z∈m:=List.mem_of_getElem? K
   simp only[List.mem_cons,List.mem_flatten]
   exact .inr (.inr ⟨z,this,r⟩)
variable {B n:Nat}{DC KC:Nat->Nat}{v:Value}{w w':World}
def Ga (v:Value) (n:Nat) (N:Nat->Tn) (KA DA:Nat->Option Addr) (x:Nat):Prop:=
 v.ownBlock=some x\/(∃i,i<n/\(N i).kn≠0/\KA i=some (ad x 0))\/(∃i,i<n/\(N i).dn≠0/\DA i=some (ad x 0))
structure GT (w:World) (B:Nat) (v:Value) (n:Nat) (N:Nat->Tn) (KA DA:Nat->Option Addr) (KC DC:Nat->Nat):Prop where
 row:w.ownsRow B 168 4 v n ((List.range (n*4)).map (Bi N KA DA KC DC))
 keys:∀i,i<n->Cy w B (KA i) (N i).kn (N i).ks
 kids:∀i,i<n->Ei w B (DA i) (N i).dn (N i).kd
 apartK:∀i j,i<n->j<n->i≠j->(N i).kn≠0->(N j).kn≠0->KA i≠KA j
 apartD:∀i j,i<n->j<n->i≠j->(N i).dn≠0->(N j).dn≠0->DA i≠DA j
theorem GT.keep {N:Nat->Tn} {k l:Nat->Option Addr} (h:GT w B v n N k l KC DC) (j:∀x,Ga v n N k l x->w'.heap[x]?=w.heap[x]?):GT w' B v n N k l KC DC:=by
 refine⟨AK h.row (λg e=>j g (.inl e)),λi b=>?_,λi b=>?_,h.apartK,h.apartD⟩
 .rcases h.keys i b with q|⟨g,e,f,m⟩;.exact .inl q
  .by_cases c:(N i).kn=0;.exact .inl c
   .exact .inr ⟨g,e,f,m.of_block (j g (.inr (.inl ⟨i,b,c,e⟩)))⟩
 .rcases h.kids i b with q|⟨g,e,f,m⟩;.exact .inl q
  .by_cases c:(N i).dn=0;.exact .inl c
   .exact .inr ⟨g,e,f,m.of_block (j g (.inr (.inr ⟨i,b,c,e⟩)))⟩
theorem GT.used {N:Nat->Tn} {m o:Nat->Option Addr} (h:GT w B v n N m o KC DC) {x:Nat} (j:Ga v n N m o x):B<=x/\x<w.heap.size:=by
 rcases j with j|⟨i,c,k,e⟩|⟨i,c,k,e⟩;.exact Ah h.row x j
 .rcases h.keys i c with q|⟨g,b,f,l⟩;.exact absurd q k
  .rw[e] at b;injection b with b;injection b with b;subst b;exact⟨f,l.lt⟩
 .rcases h.kids i c with q|⟨g,b,f,l⟩;.exact absurd q k
  .rw[e] at b;injection b with b;injection b with b;subst b;exact⟨f,l.lt⟩
theorem GT.below {N:Nat->Tn} {c b:Nat->Option Addr} (h:GT w B v n N c b KC DC) (e:Bl w w'):GT w' B v n N c b KC DC:=h.keep (λx f=>e.block x (h.used f).2)
theorem F6 {e t:TypeId} {sz m:Nat} {xs:List Value} {f:Nat->Value} {g:Nat} (k:w.ownsRow B e sz v n xs) (o:A6 w g t m f) (h:e≠t):v.ownBlock≠some g:=by
 intro q;rcases k.2 with ⟨rfl,_⟩|⟨l,r,j,rfl,s,i,_⟩;.cases q
 .injection q with q;have p : l=g:=q;subst p;obtain⟨c,b,_⟩:=o;rw[i] at b;injection b with b;injection b with _ b _;exact h b
theorem GT.push {v':Value} {N:Nat->Tn} {t y:Nat->Option Addr} (h:GT w B v n N t y KC DC) (x:Tn) (s u:Option Addr) (D C:Nat) (O:Cy w B s x.kn x.ks) (I:Ei w B u x.dn x.kd) (A:∀i,i<n->(N i).kn≠0->x.kn≠0->t i≠s) (z:∀i,i<n->(N i).dn≠0->x.dn≠0->y i≠u)
  (K:w'.ownsRow B 168 4 v' (n+1) ((List.range (n*4)).map (Bi N t y KC DC)++[.bool x.lf,.slice s x.kn D,.slice u x.dn C,iv x.ct])) (G:w.grownBy w' v.ownBlock) :
  GT w' B v' (n+1) (λi=>if i=n then x else N i) (λi=>if i=n then s else t i) (λi=>if i=n then u else y i) (λi=>if i=n then D else KC i) (λi=>if i=n then C else DC i):=by
 have H:∀(a:Option Addr) (m:Nat) (X:Nat->ByteArray),Cy w B a m X->Cy w' B a m X:=by
  intro a m X q;rcases q with q|⟨g,rfl,o,p⟩;.exact .inl q
  .exact .inr ⟨g,rfl,o,p.of_block (G.block g p.lt (λe=>F6 h.row p (by decide) e.symm))⟩
 have F:∀(a:Option Addr) (m:Nat) (X:Nat->Int),Ei w B a m X->Ei w' B a m X:=by
  intro a m X q;rcases q with q|⟨g,rfl,o,p⟩;.exact .inl q
  .exact .inr ⟨g,rfl,o,p.of_block (G.block g p.lt (λe=>F6 h.row p (by decide) e.symm))⟩
 refine⟨?_,λi E=>?_,λi E=>?_,λi j E J l f b=>?_,λi j E J l f b=>?_⟩
 .have e:(List.range ((n+1)*4)).map (Bi (λi=>if i=n then x else N i) (λi=>if i=n then s else t i) (λi=>if i=n then u else y i) (λi=>if i=n then D else KC i) (λi=>if i=n then C else DC i))=(List.range (n*4)).map (Bi N t y KC DC)++[.bool x.lf,.slice s x.kn D,.slice u x.dn C,iv x.ct]:=by
   rw[show (n+1)*4=n*4+1+1+1+1 by omega,List.range_succ,List.range_succ,List.range_succ,List.range_succ];simp only[List.map_append,List.map_cons,List.map_nil,List.append_assoc,List.cons_append,List.nil_append];rw[show n*4+1+1+1=n*4+3 by omega,show n*4+1+1=n*4+2 by omega,GQ,GC,Gg,Gl];simp only[if_true];congr 1;refine List.map_congr_left (λc L=>?_);have M : c<n*4:=List.mem_range.1 L;unfold Bi;have:c / 4≠n:=by omega
   simp only[this,if_false]
  rw[e];exact K
 .by_cases e:i=n;.subst e;simp only[if_true];exact H _ _ _ O
  .simp only[e,if_false];exact H _ _ _ (h.keys i (by omega))
 .by_cases e:i=n;.subst e;simp only[if_true];exact F _ _ _ I
  .simp only[e,if_false];exact F _ _ _ (h.kids i (by omega))
 .by_cases r:i=n
  .have k:j≠n:=by omega
   subst r;simp only[if_true,k,if_false] at f b ⊢;exact λq=>A j (by omega) b f q.symm
  .by_cases k:j=n;.subst k;simp only[if_true,r,if_false] at f b ⊢;exact A i (by omega) f b
   .simp only[r,k,if_false] at f b ⊢;exact h.apartK i j (by omega) (by omega) l f b
 .by_cases r:i=n
  .have k:j≠n:=by omega
   subst r;simp only[if_true,k,if_false] at f b ⊢;exact λq=>z j (by omega) b f q.symm
  .by_cases k:j=n;.subst k;simp only[if_true,r,if_false] at f b ⊢;exact z i (by omega) f b
   .simp only[r,k,if_false] at f b ⊢;exact h.apartD i j (by omega) (by omega) l f b
theorem FZ.count {S:Nat->Prop} {w:World}:∀{d:Nat} {t:Ro d} {v:Value},FZ S w d t v->∃b,S b/\b<w.heap.size/\w.cell? (ad b 0)=some (iv ((Ab d t).length:Int))/\(v=.iface 204 (pt b)\/v=.iface 174 (pt b))
 | 0,_,_,h=>h.elim
 | d+1,.inl t,v,h=>by
  obtain⟨b,i,f,rfl,e,c,k⟩:=h
  exact⟨b,e,c.lt,by rw[c.cell 0];rfl,Or.inl rfl⟩
 | d+1,.inr l,v,h=>by
  obtain⟨b,g,f,j,rfl,e,c,_⟩:=h
  exact⟨b,e,c.lt,by rw[c.cell 0];rfl,Or.inr rfl⟩
theorem CY {d:Nat} (l:List (Ro d)) (k:Nat) (h:k<l.length):((l.take (k+1)).flatMap (Ab d)).length=((l.take k).flatMap (Ab d)).length+(Ab d l[k]).length:=by rw[Fy (Ab d) l k h,Uz]
theorem G6 (d b g m L:Nat) (l:List (Ro d)) (x:Int) (S:Nat->Prop) (xs:List Value) (w:World) (h:Bx w b 179 #[iv x,.slice (some (ad g 0)) m L]) (J:m=l.length) (af:m<=5000) (r:(l.flatMap (Ab d)).length<=1099511627776)
  (hc:∀j u,xs[j]?=some u->w.cell? (ad g j)=some u) (hg:g≠b) (hS:¬ S b) (N:∀k (h:k<l.length),∃u,xs[k]?=some u/\FZ S w d l[k] u) :
  UO 118 #[pt b] w λe w'=>e=.returned (.tuple #[])/\w.grownBy w' (some b)/\w'.heap.size=w.heap.size/\Bx w' b 179 #[iv ((l.flatMap (Ab d)).length:Int),.slice (some (ad g 0)) m L]:=by
 have HK:U (∀W:World,w.grownBy W (some b)->∀k (h:k<l.length),∃u p,W.cell? (ad g k)=some u/\p≠b/\W.cell? (ad p 0)=some (iv ((Ab d l[k]).length:Int))/\(u=.iface 204 (pt p)\/u=.iface 174 (pt p))):=by intro W z k E;obtain⟨u,hu,ht⟩:=N k E;obtain⟨p,Q,ae,R,V⟩:=ht.count;have c:p≠b:=λe=>hS (e ▸ Q);exact⟨u,p,z.cell (hc k u hu) (λe=>by injection e with e;exact hg e),c,z.cell R (λe=>by injection e with e;exact c e),V⟩
 have y:=Ae (ai J r);have c1:=h.cell 1;have O:=h.cell 0;have f0:=h.frozen 0;have M:=h.lt;simp at O c1;have T:U (w.grownBy (w.setCell (ad b 0) (iv 0)) (some b)/\Bx (w.setCell (ad b 0) (iv 0)) b 179 #[iv 0,.slice (some (ad g 0)) m L]):=by refine⟨⟨rfl,rfl,rfl,by simp[World.setCell],λk N c=>Ur _ _ _ _ (λe=>c (by rw[e]))⟩,h.set 0 _⟩
 clear h hc N J r;go_enter func118,ntmps118;go_wp2;go_loopw [13] (λi wr=>∃k:Nat,k<=m/\i=iv k/\w.grownBy wr (some b)/\wr.heap.size=w.heap.size/\Bx wr b 179 #[iv (((l.take k).flatMap (Ab d)).length:Int),.slice (some (ad g 0)) m L]) (λi _=>m-(intOf i).toNat)
 case atStart=>exact⟨0,Us _,rfl,T.o.1,by simp[World.setCell],by simpa using T.o.2⟩
 case round=>
  obtain⟨k,E,rfl,I,G,f⟩:=hrel;clear T O c1 f0;have K:=Ae (ai I (ai G f));obtain⟨A,X⟩:=gn ((((l.take k).flatMap (Ab d)).length:Int));rw[<- X] at f;have O:=f.cell 0;have f0:=f.frozen 0;have aa:=f.lt;simp at O;clear I G f;by_cases M:k<m
  .have D:k<l.length:=by rw[<- y.o.1];exact M
   obtain⟨u,p,hu,c,s,t⟩:=HK.o wr K.o.1 k D;have F:=CY l k D;have Y:=Bk (Ab d) l (k+1);have hL:=y.o.2;obtain⟨C,P⟩:=gn (((Ab d l[k]).length:Int));have ab:0<=A/\A<=1099511627776:=by omega
   have ac:0<=C/\C<=1099511627776:=by omega
   rw[<- P] at s;have HS:U ((((l.take (k+1)).flatMap (Ab d)).length:Int)=A+C):=by show (((l.take (k+1)).flatMap (Ab d)).length:Int)=A+C;rw[F,X,P];omega
   have HX:U (w.grownBy (wr.drew.setCell (ad b 0) (iv (A+C))) (some b)/\(wr.drew.setCell (ad b 0) (iv (A+C))).heap.size=w.heap.size/\Bx (wr.drew.setCell (ad b 0) (iv (A+C))) b 179 #[iv (((l.take (k+1)).flatMap (Ab d)).length:Int),.slice (some (ad g 0)) m L]):=by
    obtain⟨H,q2,q3⟩:=K.o;have hs:=Eq.trans (show (wr.drew.setCell (ad b 0) (iv (A+C))).heap.size=wr.drew.heap.size by simp[World.setCell]) rfl;refine⟨⟨H.os,H.tape,H.output,by rw[hs];exact H.size,λk N c=>?_⟩,by rw[hs];exact q2,?_⟩;.rw[Ur _ _ _ _ (λe=>c (by rw[e]))];exact H.block k N c
    .rw[HS.o];exact q3.drew.set 0 _
   clear X P F Y hL;rcases t with rfl|rfl
   .have Z:=Ae (λW z=>BK p C W z);go_wp2;go_region_with (go_at_call 157;refine (Z.o _ (by simpa using s)).mono ?_;rintro e w2 ⟨rfl,rfl⟩)
    all_goals
     go_wp2
     go_roundw
     case rel=>exact⟨k+1,by omega,by go_num,HX.o⟩
     case measure=>simp[intOf];omega
   .have Z:=Ae (λW z=>BK p C W z);go_wp2;go_region_with (go_at_call 157;refine (Z.o _ (by simpa using s)).mono ?_;rintro e w2 ⟨rfl,rfl⟩)
    all_goals
     go_wp2
     go_roundw
     case rel=>exact⟨k+1,by omega,by go_num,HX.o⟩
     case measure=>simp[intOf];omega
  .have e:k=m:=by omega
   subst e;have HE:U ((l.take k).flatMap (Ab d)=l.flatMap (Ab d)):=by show (l.take k).flatMap (Ab d)=l.flatMap (Ab d);rw[y.o.1,UC]
   go_wp2;go_end0
   refine⟨rfl,K.o.1,K.o.2.1,?_⟩;have q:=K.o.2.2;rw[HE.o] at q;exact q
variable {S S':Nat->Prop}{a:Option Addr}{d:Nat}
def Sb (S:Nat->Prop) (w:World) (a:Option Addr) (n:Nat) (f:Nat->Value):Prop:=
 n=0\/∃b o,a=some (ad b o)/\S b/\b<w.heap.size/\∀i,i<n->w.cell? (ad b (o+i))=some (f i)
theorem Sb.keep {f:Nat->Value} (h:Sb S w a n f) (p:w.heap.size<=w'.heap.size) (j:∀b,S b->b<w.heap.size->S' b/\w'.heap[b]?=w.heap[b]?):Sb S' w' a n f:=by
 rcases h with h|⟨b,o,rfl,m,k,g⟩;.exact Or.inl h
 .obtain⟨c,l⟩:=j b m k;exact Or.inr ⟨b,o,rfl,c,by omega,λi e=>by rw[World.cell?_of_block (a:=(ad b (o+i))) l];exact g i e⟩
theorem Sb.rdS {X:Nat->ByteArray} (h:Sb S w a n (λi=>.string (X i))):Cg w a n X:=by
 rcases h with h|⟨b,o,rfl,_,_,c⟩;.exact Or.inl h
 .exact Or.inr ⟨b,o,rfl,c⟩
def AP (S:Nat->Prop) (w:World):(d:Nat)->Ro d->Value->Prop
 | 0,_,_=>False
 | d+1,.inl t,v=>∃b ka kc,v=.iface 204 (pt b)/\S b/\Bx w b 206 #[iv (t.length:Int),.slice ka t.length kc]/\(t.length<=kc/\kc<=9223372036854775807)/\Sb S w ka t.length (λi=>.string (gt t i))
 | d
  + 1,.inr l,v=>∃(b g o kc:Nat) (xs:List Value),v=.iface 174 (pt b)/\S b/\Bx w b 179 #[iv ((l.flatMap (Ab d)).length:Int),.slice (some (ad g o)) l.length kc]/\(S g/\g≠b)/\(g<w.heap.size/\l.length<=kc/\kc<=9223372036854775807)/\0<l.length/\(∀j u,xs[j]?=some u->w.cell? (ad g (o+j))=some u)/\
  ∀k (h:k<l.length),∃u,xs[k]?=some u/\AP S w d l[k] u
theorem AP.keep {S S' : Nat->Prop} {w w' : World} (x:w.heap.size<=w'.heap.size) (f:∀b,S b->b<w.heap.size->S' b/\w'.heap[b]?=w.heap[b]?):∀{d:Nat} {t:Ro d} {v:Value},AP S w d t v->AP S' w' d t v
 | 0,_,_,h=>h
 | d+1,.inl t,v,h=>by
  obtain⟨b,A,i,rfl,q,c,m,G⟩:=h
  obtain⟨r,p⟩:=f b q c.lt
  exact⟨b,A,i,rfl,r,c.of_block p,m,G.keep x f⟩
 | d+1,.inr l,v,h=>by
  obtain⟨b,g,o,i,E,rfl,q,c,⟨H,s⟩,y,D,m,F⟩:=h
  obtain⟨r,p⟩:=f b q c.lt
  obtain⟨z,J⟩:=f g H y.1
  refine⟨b,g,o,i,E,rfl,r,c.of_block p,⟨z,s⟩,⟨by omega,y.2⟩,D,λj u C=>(World.cell?_of_block (a:=(ad g (o+j))) J).trans (m j u C),λk h=>?_⟩
  obtain⟨u,e,I⟩:=F k h
  exact⟨u,e,AP.keep x f I⟩
theorem AP.below {t:Ro d} (h:AP S w d t v) (c:Bl w w'):AP S w' d t v:=
 AP.keep c.size (λb f e=>⟨f,c.block b e⟩) h
theorem AP.wide {t:Ro d} (h:AP S w d t v) (c:∀b,S b->b<w.heap.size->S' b):AP S' w d t v:=
 AP.keep (Uq _) (λb f e=>⟨c b f e,rfl⟩) h
theorem CG.tao {B:Nat} {w:World}:∀{d:Nat} {t:Ro d} {v:Value} {bs:List Nat},CG B w d t v bs->bs.Nodup->AP (λb=>b∈bs) w d t v
 | 0,_,_,_,h,_=>h.elim
 | d+1,.inl t,v,bs,h,hd=>by
  obtain⟨b,E,p,rfl,N,r,c,rfl⟩:=h
  refine⟨b,E,p,rfl,by simp,r,AS c,?_⟩
  rcases c.2 with ⟨q,L⟩|⟨g,J,F,y,T,Q,U⟩
  .exact .inl L
  .injection y with y _ D
   subst y D
   refine .inr ⟨g,0,rfl,by simp,(Ah c g rfl).2,λi P=>?_⟩
   rw[UI,c.cellAt i (by omega),Bf t i P]
 | d+1,.inr l,v,bs,h,hd=>by
  obtain⟨b,g,p,G,o,rfl,N,r,c,I,H,rfl,m⟩:=h
  have A:=AS c
  rw[List.nodup_cons,List.nodup_cons] at hd
  refine⟨b,g,0,p,G,rfl,by simp,r,⟨by simp,λe=>hd.1 (by rw[e];simp)⟩,⟨(Ah c g rfl).2,A.1,A.2⟩,I,λj u z=>?_,λk h=>?_⟩
  .have f:=(List.getElem?_eq_some_iff.1 z).1
   rw[c.1] at f
   rw[UI,c.cellAt j f]
   exact z
  .obtain⟨u,s,O,M,K⟩:=m k h
   have C:s∈o:=List.mem_of_getElem? M
   refine⟨u,O,AP.wide (CG.tao K ?_) (λR x _=>?_)⟩
   .exact (List.pairwise_flatten.1 hd.2.2).1 s C
   .simp only[List.mem_cons,List.mem_flatten]
    exact .inr (.inr ⟨s,C,x⟩)
theorem AP.count:∀{d:Nat} {t:Ro d} {v:Value},AP S w d t v->∃b,S b/\b<w.heap.size/\w.cell? (ad b 0)=some (iv ((Ab d t).length:Int))/\(v=.iface 204 (pt b)\/v=.iface 174 (pt b))
 | 0,_,_,h=>h.elim
 | d+1,.inl t,v,h=>by
  obtain⟨b,i,f,rfl,e,c,k⟩:=h
  exact⟨b,e,c.lt,by rw[c.cell 0];rfl,Or.inl rfl⟩
 | d+1,.inr l,v,h=>by
  obtain⟨b,g,o,f,j,rfl,e,c,_⟩:=h
  exact⟨b,e,c.lt,by rw[c.cell 0];rfl,Or.inr rfl⟩
theorem L9:∀(d:Nat) (l:List (Ro d)) (S:Nat->Prop) (b:Nat) (h:Nat) (w:World),AP S w (d+1) (.inr l) (.iface 174 (pt b))->(∀t,t∈l->Aq d false t h)->
  UO 188 #[pt b] w λe w'=>e=.returned (.string (gt (l.flatMap (Ab d)) 0))/\w'=w:=by
 intro d;induction d with
 | zero=>intro l S b h w F p;obtain⟨K,g,o,P,M,e,_,_,_,_,j,_,z⟩:=F;obtain⟨u,_,q⟩:=z 0 j;exact q.elim
 | succ d ih=>
  intro l S b h w F p;obtain⟨K,g,o,P,M,e,_,I,_,_,j,J,z⟩:=F;injection e with _ e;injection e with e;injection e with e;injection e with e;subst e;obtain⟨u,G,f⟩:=z 0 j;have c:=DI (p l[0] (UA j));rw[J5 j c];have H:=I.cell 1;simp at H;have R:=J 0 u G;rw[Nat.add_zero] at R;have k:=p l[0] (UA j);have A:(0:Int)<(l.length:Int):=by omega
  clear I J z G;generalize l[0]=y at*
  generalize l.length=X at H A;clear j;rcases y with y|Q
  .obtain⟨D,C,r,rfl,_,x,_,s⟩:=f;have E:=Ae (C0 D y.length r C _ (gt y) w x s.rdS c);clear x s ih p k c;go_enter func188,ntmps188;go_wp2_with fail
   refine E.o.mono ?_;rintro e N ⟨rfl,rfl⟩;go_wp2;go_ret;exact⟨rfl,rfl⟩
  .obtain⟨W,V,L,_,i⟩:=k;have m:=f;obtain⟨D,T,U,r,O,rfl,_⟩:=m;have E:=Ae (ih Q S D L w f i);clear ih f i c p;go_enter func188,ntmps188;go_wp2_with fail
   refine E.o.mono ?_;rintro e N ⟨rfl,rfl⟩;go_wp2;go_ret;exact⟨rfl,rfl⟩
theorem EI (d b g o p L:Nat) (l:List (Ro d)) (x:Int) (xs:List Value) (w:World) (h:Bx w b 179 #[iv x,.slice (some (ad g o)) p L]) (J:p=l.length) (ae:p<=5000) (r:(l.flatMap (Ab d)).length<=1099511627776)
  (hc:∀j u,xs[j]?=some u->w.cell? (ad g (o+j))=some u) (hg:g≠b) (N:∀k (h:k<l.length),∃u f,xs[k]?=some u/\f≠b/\w.cell? (ad f 0)=some (iv ((Ab d l[k]).length:Int))/\(u=.iface 204 (pt f)\/u=.iface 174 (pt f))) :
  UO 118 #[pt b] w λe w'=>e=.returned (.tuple #[])/\w.grownBy w' (some b)/\w'.heap.size=w.heap.size/\Bx w' b 179 #[iv ((l.flatMap (Ab d)).length:Int),.slice (some (ad g o)) p L]:=by
 have HK:U (∀W:World,w.grownBy W (some b)->∀k (h:k<l.length),∃u f,W.cell? (ad g (o+k))=some u/\f≠b/\W.cell? (ad f 0)=some (iv ((Ab d l[k]).length:Int))/\(u=.iface 204 (pt f)\/u=.iface 174 (pt f))):=by intro W z k E;obtain⟨u,f,Z,c,Q,T⟩:=N k E;exact⟨u,f,z.cell (hc k u Z) (λe=>by injection e with e;exact hg e),c,z.cell Q (λe=>by injection e with e;exact c e),T⟩
 have y:=Ae (ai J r);have c1:=h.cell 1;have O:=h.cell 0;have f0:=h.frozen 0;have M:=h.lt;simp at O c1;have R:U (w.grownBy (w.setCell (ad b 0) (iv 0)) (some b)/\Bx (w.setCell (ad b 0) (iv 0)) b 179 #[iv 0,.slice (some (ad g o)) p L]):=by refine⟨⟨rfl,rfl,rfl,by simp[World.setCell],λk N c=>Ur _ _ _ _ (λe=>c (by rw[e]))⟩,h.set 0 _⟩
 clear h hc N J r;go_enter func118,ntmps118;go_wp2;go_loopw [13] (λi wr=>∃k:Nat,k<=p/\i=iv k/\w.grownBy wr (some b)/\wr.heap.size=w.heap.size/\Bx wr b 179 #[iv (((l.take k).flatMap (Ab d)).length:Int),.slice (some (ad g o)) p L]) (λi _=>p-(intOf i).toNat)
 case atStart=>exact⟨0,Us _,rfl,R.o.1,by simp[World.setCell],by simpa using R.o.2⟩
 case round=>
  obtain⟨k,E,rfl,I,G,m⟩:=hrel;clear R O c1 f0;have K:=Ae (ai I (ai G m));obtain⟨A,V⟩:=gn ((((l.take k).flatMap (Ab d)).length:Int));rw[<- V] at m;have O:=m.cell 0;have f0:=m.frozen 0;have aa:=m.lt;simp at O;clear I G m;by_cases M:k<p
  .have D:k<l.length:=by rw[<- y.o.1];exact M
   obtain⟨u,f,Z,c,s,t⟩:=HK.o wr K.o.1 k D;have F:=CY l k D;have X:=Bk (Ab d) l (k+1);have hL:=y.o.2;obtain⟨C,P⟩:=gn (((Ab d l[k]).length:Int));have ab:0<=A/\A<=1099511627776:=by omega
   have ac:0<=C/\C<=1099511627776:=by omega
   rw[<- P] at s;have HS:U ((((l.take (k+1)).flatMap (Ab d)).length:Int)=A+C):=by show (((l.take (k+1)).flatMap (Ab d)).length:Int)=A+C;rw[F,V,P];omega
   have HX:U (w.grownBy (wr.drew.setCell (ad b 0) (iv (A+C))) (some b)/\(wr.drew.setCell (ad b 0) (iv (A+C))).heap.size=w.heap.size/\Bx (wr.drew.setCell (ad b 0) (iv (A+C))) b 179 #[iv (((l.take (k+1)).flatMap (Ab d)).length:Int),.slice (some (ad g o)) p L]):=by
    obtain⟨H,q2,q3⟩:=K.o;have hs:=Eq.trans (show (wr.drew.setCell (ad b 0) (iv (A+C))).heap.size=wr.drew.heap.size by simp[World.setCell]) rfl;refine⟨⟨H.os,H.tape,H.output,by rw[hs];exact H.size,λk N c=>?_⟩,by rw[hs];exact q2,?_⟩;.rw[Ur _ _ _ _ (λe=>c (by rw[e]))];exact H.block k N c
    .rw[HS.o];exact q3.drew.set 0 _
   clear V P F X hL;rcases t with rfl|rfl
   .have Y:=Ae (λW z=>BK f C W z);go_wp2;go_region_with (go_at_call 157;refine (Y.o _ (by simpa using s)).mono ?_;rintro e w2 ⟨rfl,rfl⟩)
    all_goals
     go_wp2
     go_roundw
     case rel=>exact⟨k+1,by omega,by go_num,HX.o⟩
     case measure=>simp[intOf];omega
   .have Y:=Ae (λW z=>BK f C W z);go_wp2;go_region_with (go_at_call 157;refine (Y.o _ (by simpa using s)).mono ?_;rintro e w2 ⟨rfl,rfl⟩)
    all_goals
     go_wp2
     go_roundw
     case rel=>exact⟨k+1,by omega,by go_num,HX.o⟩
     case measure=>simp[intOf];omega
  .have e:k=p:=by omega
   subst e;have HE:U ((l.take k).flatMap (Ab d)=l.flatMap (Ab d)):=by show (l.take k).flatMap (Ab d)=l.flatMap (Ab d);rw[y.o.1,UC]
   go_wp2;go_end0
   refine⟨rfl,K.o.1,K.o.2.1,?_⟩;have q:=K.o.2.2;rw[HE.o] at q;exact q
end Go.Proofs.YtcnollkkigiobaaGreat
