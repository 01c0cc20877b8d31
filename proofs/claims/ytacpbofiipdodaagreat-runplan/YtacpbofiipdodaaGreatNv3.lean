import Derived.Deep.CutBlock
import Derived.Maps.Own
import Derived.Laws.BytesArg
import Derived.Test.YtacpbofiipdodaaGreatNv2
set_option linter.unusedVariables false
set_option linter.unusedSimpArgs false
set_option maxRecDepth 100000
set_option maxHeartbeats 90000000
namespace Go.Proofs.YtacpbofiipdodaaGreat
open Go Go.Deep Go.RowKit
variable {S:Nat->Prop}{w:World}
def D7 {T:Type} (P:T->Value->Prop):List T->List Value->Prop
 | [],[]=>True
 | t::ts,x0::x1::x2::xs=>P t (.agg #[x0,x1,x2])/\D7 P ts xs
 | _,_=>False
theorem D7.len {T:Type} {P:T->Value->Prop}:∀{ts:List T} {xs:List Value},D7 P ts xs->xs.length=ts.length*3
 | [],[],_=>rfl
 | t::ts,x0::x1::x2::xs,h=>by
  have:=D7.len h.2
  simp only[WN]
  omega
 | [],x::xs,h=>h.elim
 | t::ts,[],h=>h.elim
 | t::ts,[x0],h=>h.elim
 | t::ts,[x0,x1],h=>h.elim
theorem D7.mono {T:Type} {P Q:T->Value->Prop} (hPQ:∀t v,P t v->Q t v):∀{ts:List T} {xs:List Value},D7 P ts xs->D7 Q ts xs
 | [],[],_=>trivial
 | t::ts,x0::x1::x2::xs,h=>⟨hPQ _ _ h.1,D7.mono hPQ h.2⟩
 | [],x::xs,h=>h.elim
 | t::ts,[],h=>h.elim
 | t::ts,[x0],h=>h.elim
 | t::ts,[x0,x1],h=>h.elim
theorem D7.app {T:Type} {P:T->Value->Prop} {t:T} {x0 x1 x2:Value} (ht:P t (.agg #[x0,x1,x2])):∀{ts:List T} {xs:List Value},D7 P ts xs->D7 P (ts++[t]) (xs++[x0,x1,x2])
 | [],[],_=>⟨ht,trivial⟩
 | t::ts,x0::x1::x2::xs,h=>⟨h.1,D7.app ht h.2⟩
 | [],x::xs,h=>h.elim
 | t::ts,[],h=>h.elim
 | t::ts,[x0],h=>h.elim
 | t::ts,[x0,x1],h=>h.elim
theorem D7.get {T:Type} {P:T->Value->Prop}:∀{ts:List T} {xs:List Value},D7 P ts xs->∀i (h:i<ts.length),∃x0 x1 x2,xs[i*3]?=some x0/\xs[i*3+1]?=some x1/\xs[i*3+2]?=some x2/\P ts[i] (.agg #[x0,x1,x2])
 | [],[],_,i,hi=>absurd hi (Wy _)
 | t::ts,x0::x1::x2::xs,h,0,hi=>⟨x0,x1,x2,rfl,rfl,rfl,h.1⟩
 | t::ts,x0::x1::x2::xs,h,i+1,hi=>by
  obtain⟨y0,y1,y2,h0,h1,h2,h3⟩:=D7.get h.2 i (by simpa using hi)
  refine⟨y0,y1,y2,?_,?_,?_,by simpa using h3⟩
  .rw[show (i+1)*3=i*3+3 by omega];simpa using h0
  .rw[show (i+1)*3+1=i*3+1+3 by omega];simpa using h1
  .rw[show (i+1)*3+2=i*3+2+3 by omega];simpa using h2
 | [],x::xs,h,_,_=>h.elim
 | t::ts,[],h,_,_=>h.elim
 | t::ts,[x0],h,_,_=>h.elim
 | t::ts,[x0,x1],h,_,_=>h.elim
def Vu (K:Option Addr->Nat->Nat->(Nat->ByteArray)->Prop) (t:List ByteArray) (v:Value):Prop:=
 ∃ka kc ca cc,v=.agg #[.bool true,.slice ka t.length kc,.slice ca 0 cc]/\K ka t.length kc (gt t)
def AD (K:Option Addr->Nat->Nat->(Nat->ByteArray)->Prop) (S:Nat->Prop) (w:World):(d:Nat)->Ro d->Value->Prop
 | 0,_,_=>False
 | d+1,.inl t,v=>Vu K t v
 | d+1,.inr l,v=>∃ka kc b cc xs,v=.agg #[.bool false,.slice ka 0 kc,.slice (some (ad b 0)) l.length cc]/\(S b/\l.length<=cc/\cc<=9223372036854775807)/\b<w.heap.size/\0<l.length/\(∀j u,xs[j]?=some u->w.cell? (ad b j)=some u)/\D7 (λt v=>AD K S w d t v) l xs
theorem AD.mono {K K' : Option Addr->Nat->Nat->(Nat->ByteArray)->Prop} {S S' : Nat->Prop} {w w' : World} (hK:∀a n c X,K a n c X->K' a n c X) (hS:∀b,S b->b<w.heap.size->S' b) (hz:w.heap.size<=w'.heap.size) (hw:∀b j,S b->b<w.heap.size->w'.cell? (ad b j)=w.cell? (ad b j)):∀{d:Nat} {t:Ro d} {v:Value},AD K S w d t v->AD K' S' w' d t v
 | 0,_,_,h=>h
 | d+1,.inl t,v,h=>by
  obtain⟨ka,kc,ca,cc,rfl,hk⟩:=h
  exact⟨ka,kc,ca,cc,rfl,hK _ _ _ _ hk⟩
 | d+1,.inr l,v,h=>by
  obtain⟨ka,kc,b,cc,xs,rfl,hs,hb,hl,hx,hk⟩:=h
  exact⟨ka,kc,b,cc,xs,rfl,⟨hS b hs.1 hb,hs.2⟩,by omega,hl,λj u hj=>by rw[hw b j hs.1 hb];exact hx j u hj,hk.mono (λt v h=>AD.mono hK hS hz hw h)⟩
theorem AD.below {K:Option Addr->Nat->Nat->(Nat->ByteArray)->Prop} {w':World} {d:Nat} {t:Ro d} {v:Value} (h:AD K S w d t v) (hb:Bl w w'):AD K S w' d t v:=
 h.mono (λ_ _ _ _ h=>h) (λ_ h _=>h) hb.size (λb j _ hlt=>hb.cell (p:=(ad b j)) hlt)
theorem AD.form {K:Option Addr->Nat->Nat->(Nat->ByteArray)->Prop}:∀{d:Nat} {t:Ro d} {v:Value},AD K S w d t v->∃lf ka kn kc ca cn cc,v=.agg #[.bool lf,.slice ka kn kc,.slice ca cn cc]
 | 0,_,_,h=>h.elim
 | d+1,.inl t,v,h=>by
  obtain⟨ka,kc,ca,cc,rfl,hk⟩:=h
  exact⟨_,_,_,_,_,_,_,rfl⟩
 | d+1,.inr l,v,h=>by
  obtain⟨ka,kc,b,cc,xs,rfl,hs,hb,hl,hx,hk⟩:=h
  exact⟨_,_,_,_,_,_,_,rfl⟩
def O6 (w:World) (b o n:Nat) (N:Nat->Tn) (KA DA:Nat->Option Addr) (KC DC:Nat->Nat):Prop:=
 ∀i,i<n->w.cell? (ad b (o+i*4))=some (.bool (N i).lf)/\w.cell? (ad b (o+i*4+1))=some (.slice (KA i) (N i).kn (KC i))/\
  w.cell? (ad b (o+i*4+2))=some (.slice (DA i) (N i).dn (DC i))/\w.cell? (ad b (o+i*4+3))=some (iv (N i).ct)/\Rd .i64 w (DA i) (N i).dn (N i).kd
theorem O6.below {w w' : World} {b o n:Nat} {N:Nat->Tn} {KA DA:Nat->Option Addr} {KC DC:Nat->Nat} (h:O6 w b o n N KA DA KC DC) (hb:Bl w w'):O6 w' b o n N KA DA KC DC:=by
 intro i hi;obtain⟨h0,h1,h2,h3,h5⟩:=h i hi;refine⟨?_,?_,?_,?_,h5.below hb⟩;.rw[hb.cell (Ws _ _ h0)];exact h0
 .rw[hb.cell (Ws _ _ h1)];exact h1
 .rw[hb.cell (Ws _ _ h2)];exact h2
 .rw[hb.cell (Ws _ _ h3)];exact h3
def Lh {T:Type} (P:World->(Nat->Prop)->T->Value->Prop) (w:World) (r:Option (T × Nat)) (n:Nat) (e:Ending) (w' : World):Prop:=
 Bl w w'/\∃lf ka kn kc ca cn cc x ok,e=.returned (.tuple #[.agg #[.bool lf,.slice ka kn kc,.slice ca cn cc],iv x,.bool ok])/\
  ((ok=false/\r=none)\/(ok=true/\∃t y,r=some (t,y)/\x=(y:Int)/\y<=n/\P w' (λb=>w.heap.size<=b) t (.agg #[.bool lf,.slice ka kn kc,.slice ca cn cc])))
variable {base n:Nat}{e:TypeId}{xs:List Value}
def Bx (w:World) (b:Nat) (t:TypeId) (cur:Array Value):Prop:=w.heap[b]?=some (.cells cur t (0,0))
namespace Bx
variable {w w' : World} {b:Nat} {t:TypeId} {cur:Array Value}
theorem new (w:World) (cur:Array Value) (t:TypeId):Bx (w.alloc (.cells cur t)) w.heap.size t cur:=blk_alloc_new _ _
theorem lt (h:Bx w b t cur):b<w.heap.size:=(Array.getElem?_eq_some_iff.1 h).1
theorem of_block (h:Bx w b t cur) (e:w'.heap[b]?=w.heap[b]?):Bx w' b t cur:=e.trans h
theorem below (h:Bx w b t cur) (hb:Bl w w'):Bx w' b t cur:=h.of_block (hb.block b h.lt)
theorem below' {B:Nat} (h:Bx w b t cur) (hb:Below B w w') (hB:b<B):Bx w' b t cur:=h.of_block (hb.block b hB)
theorem cell (h:Bx w b t cur) (i:Nat):w.cell? (ad b i)=cur[i]?:=by unfold Bx at h;simp[World.cell?,h]
theorem frozen (h:Bx w b t cur) (i:Nat):w.frozen? (ad b i)=false:=by unfold Bx at h;simp[World.frozen?,h]
theorem set (h:Bx w b t cur) (i:Nat) (v:Value):Bx (w.setCell (ad b i) v) b t (cur.setIfInBounds i v):=by unfold Bx at h ⊢;simp[World.setCell,Array.getElem?_modify,h]
theorem other (h:Bx w b t cur) {p:Addr} (hp:b≠p.block) (v:Value):Bx (w.setCell p v) b t cur:=h.of_block (Wv _ _ _ _ hp)
theorem grown {row:Option Nat} (h:Bx w b t cur) (hg:w.grownBy w' row) (hr:row≠some b):Bx w' b t cur:=h.of_block (hg.block b h.lt (λe=>hr e.symm))
theorem alloc (h:Bx w b t cur) (o:Obj):Bx (w.alloc o) b t cur:=h.below (Aa _ _)
theorem drew (h:Bx w b t cur):Bx w.drew b t cur:=h
end Bx
theorem Aw {size:Nat} {v:Value} (h:w.ownsRow base e size v n xs):∀g,v.ownBlock=some g->base<=g/\g<w.heap.size:=by
 intro g hg;rcases h.2 with ⟨rfl,_⟩|⟨g',cap,cur,rfl,hb,hh,_⟩;.simp[Value.ownBlock] at hg
 .simp[Value.ownBlock] at hg;subst hg;exact⟨hb,(Array.getElem?_eq_some_iff.1 hh).1⟩
theorem Ap {size:Nat} {v:Value} (h:w.ownsRow base e size v n xs):∃a c,v=.slice a n c/\(n≠0->∃g,a=some (ad g 0)/\base<=g/\g<w.heap.size/\∀j u,xs[j]?=some u->w.cell? (ad g j)=some u):=by
 rcases h.2 with ⟨rfl,rfl⟩|⟨g',cap,cur,rfl,hb,hh,h1,h2,h3,h4⟩;.exact⟨none,0,rfl,λh=>absurd rfl h⟩
 .refine⟨_,_,rfl,λ_=>⟨g',rfl,hb,(Array.getElem?_eq_some_iff.1 hh).1,λj u hj=>?_⟩⟩;rw[<- h4,List.getElem?_take] at hj;split at hj;.simp only[World.cell?,hh];simpa using hj
  .cases hj
theorem Al {w':World} {size:Nat} {v:Value} (h:w.ownsRow base e size v n xs) (hb:Bl w w'):w'.ownsRow base e size v n xs:=
 h.kept (w':=w') (row:=none) ⟨hb.os,hb.tape,hb.output,hb.size,λk hk _=>hb.block k hk⟩ (by cases hv:v.ownBlock <;> simp)
theorem On {size:Nat} {a:Option Addr} {c:Nat} (h:w.ownsRow base e size (.slice a n c) n xs):n<=c/\c<=9223372036854775807:=by
 rcases h.2 with ⟨q,rfl⟩|⟨g,cap,cur,q,_,_,h1,h2,_⟩;.injection q with _ _ q;omega
 .injection q with _ _ q;unfold maxLen at h2;omega
variable {d:Nat}
abbrev KR (w:World) (a:Option Addr) (n _c:Nat) (X:Nat->ByteArray):Prop:=BE w a n X
def NA (w:World) (d:Nat) (t:Ro d) (v:Value):Prop:=AD (KR w) (λ_=>True) w d t v
def TG (C:Nat->Nat->Prop) (w:World) (d:Nat) (t:Ro d) (v:Value):Prop:=AD (λa n c X=>BE w a n X/\C n c) (λ_=>True) w d t v
theorem TG.na {C:Nat->Nat->Prop} {t:Ro d} {v:Value} (h:TG C w d t v):NA w d t v:=
 AD.mono (λ_ _ _ _ q=>q.1) (λ_ q _=>q) (Wu _) (λ_ _ _ _=>rfl) h
theorem TG.below {C:Nat->Nat->Prop} {w w' : World} {d:Nat} {t:Ro d} {v:Value} (h:TG C w d t v) (hb:Bl w w'):TG C w' d t v:=
 AD.mono (λ_ _ _ _ q=>⟨q.1.below hb,q.2⟩) (λ_ q _=>q) hb.size (λb j _ hlt=>hb.cell (p:=(ad b j)) hlt) h
theorem NA.below {w w' : World} {d:Nat} {t:Ro d} {v:Value} (h:NA w d t v) (hb:Bl w w'):NA w' d t v:=
 AD.mono (λ_ _ _ _ q=>q.below hb) (λ_ q _=>q) hb.size (λb j _ hlt=>hb.cell (p:=(ad b j)) hlt) h
def AC (L:List ByteArray):List Value:=L.map .string
theorem EF (L:List ByteArray):(AC L).length=L.length:=by simp[AC]
theorem CL (L M:List ByteArray):AC (L++M)=AC L++AC M:=by simp[AC]
theorem Mt (L:List ByteArray):AC L=Fm (gt L) L.length:=by
 apply List.ext_getElem?;intro i;by_cases h:i<L.length;.rw[Fk _ _ _ h];simp[AC,gt,WA,h]
 .have h1:(AC L)[i]?=none:=List.getElem?_eq_none (by rw[EF];omega);have h2:(Fm (gt L) L.length)[i]?=none:=List.getElem?_eq_none (by rw[JH];omega);rw[h1,h2]
theorem AG {ops:Array Oper} {rest:List Oper} {o:Oper} {act:Act} {Q:Exit->Act->World->Prop} (hgd:o.guard=none) (s x:Operand)
  (ho:o.op=.call { callee:=.builtin .append,args:=#[s,x],argTypes:=#[35,35] })
  (B:Nat) (v:Value) (n:Nat) (xs:List Value) (hs:act.eval s=v) (hown:w.ownsRow B 9 1 v n xs)
  (a:Option Addr) (m c:Nat) (L:List ByteArray) (hx:act.eval x=.slice a m c) (hm:m=L.length) (hrd:BE w a m (gt L)) (hnm:n+m<=1099511627776) (hB:B<=w.heap.size)
  (h:∀v' w',w'.ownsRow B 9 1 v' (n+m) (xs++AC L)->w.grownBy w' v.ownBlock->(v'.ownBlock=v.ownBlock\/v'.ownBlock=some w.heap.size)->wpList Tryz.prog ops Q rest (act.put o.dst v') w'):wpList Tryz.prog ops Q (o::rest) act w:=by
 obtain⟨i0,hi,hz0,hz1,hz2⟩:=info_parts Tryz.info9;by_cases hm0:m=0
 .subst hm0;have hL:=List.length_eq_zero_iff.1 hm.symm;subst hL;have hsrc:Src Tryz.prog i0.size 35 (.slice a 0 c) 0 [] w:=by
   cases a with
   | none=>exact Src.ofNil w Tryz.underlying35 c
   | some ad=>exact Src.ofSlice w Tryz.underlying35 ad 0 c [] (by simp) (by simp) (by simp)
  have hsh:∃b l cap,v=.slice b l cap/\l<=cap:=by
   rcases hown.2 with ⟨rfl,rfl⟩|⟨g,cap,cur,rfl,_,_,h1,_⟩;.exact⟨none,0,0,rfl,Wu _⟩
   .exact⟨_,n,cap,rfl,h1⟩
  obtain⟨b,l,cap,hvv,hlc⟩:=hsh;have hrun:=run_append_nothing (P:=Tryz.prog) w 35 35 o.type 9 i0 Tryz.underlying35 hi b l cap hlc (.slice a 0 c) hsrc;rw[<- hvv] at hrun;refine wpList_plain hgd λK hK=>?_;unfold Oper.wp;simp[execOp,ho,resolve,invoke,builtin,hs,hx,hrun,Result.andThen];exact hK _ _ (h v w (by simpa[AC] using hown) ⟨rfl,rfl,rfl,Wu _,λ_ _ _=>rfl⟩ (Or.inl rfl))
 .rcases hrd with h0|⟨b,off,rfl,hc⟩;.exact absurd h0 hm0
  .refine wpList_append_own_at w hgd s x 35 ho B 9 i0 (.string { data:=#[] }) 1 16 Tryz.underlying35 hi hz0 hz1 hz2 rfl (by decide) v n xs hs hown (ad b off) m c (AC L) hx (by rw[EF];omega) (λj u hj=>?_) (λu hu=>?_) (by unfold maxLen;omega) (by omega) hB (λv' w' h1 h2 _ h4=>h v' w' h1 h2 h4)
   .have hjm:j<m:=by have:=(List.getElem?_eq_some_iff.1 hj).1;rw[EF] at this;omega
    rw[Mt,<- hm,Fk _ _ _ hjm] at hj;injection hj with hj;subst hj;have e:(Addr.add (ad b off) j)=(ad b (off+j)):=by
     unfold Addr.add;by_cases h:j=0;.subst h;simp
     .simp[h]
    rw[e];exact hc j hjm
   .simp only[AC,List.mem_map] at hu;obtain⟨i,_,rfl⟩:=hu;rfl
def Kj (w:World) (L:List ByteArray) (e:Ending) (w' : World):Prop:=
 ∃a c,e=.returned (.slice a L.length c)/\Cj w' w.heap.size a L.length (gt L)/\Bl w w'/\L.length<=c/\c<=9223372036854775807
theorem Me (lf:Bool) (ka ca:Option Addr) (kn kc cn cc:Nat) (w:World):WS 137 #[.agg #[.bool lf,.slice ka kn kc,.slice ca cn cc]] w (WT w (iv (if lf=true then (kn:Int) else (cn:Int)))):=by
 cases lf with
 | true=>go_enter Tryz.func137,Tryz.ntmps137;go_wp2;go_ret;exact⟨rfl,Aa _ _⟩
 | false=>go_enter Tryz.func137,Tryz.ntmps137;go_wp2;go_ret;exact⟨rfl,Aa _ _⟩
theorem BB (W:World) (t:TypeId) (B size:Nat) (hB:B<=W.heap.size):(W.alloc (.cells #[] t)).ownsRow B t size (.slice (some (ad W.heap.size 0)) 0 0) 0 []:=
 ⟨by simp,Or.inr ⟨W.heap.size,0,#[],rfl,hB,blk_alloc_new _ _,Wu _,Ww _,by simp,by simp⟩⟩
theorem Cp {B:Nat} {v:Value} {n:Nat} {L:List ByteArray} (h:w.ownsRow B 9 1 v n (AC L)) (hn:n=L.length):∃a c,v=.slice a n c/\Cj w B a L.length (gt L)/\n<=c/\c<=9223372036854775807:=by subst hn;rw[Mt] at h;exact MT h
theorem MG {K:Option Addr->Nat->Nat->(Nat->ByteArray)->Prop} {S:Nat->Prop} {b:Nat} {l:List (Ro d)} {xs:List Value} (hx:∀j u,xs[j]?=some u->w.cell? (ad b j)=some u) (hk:D7 (λt v=>AD K S w d t v) l xs) (k:Nat) (h:k<l.length) :
  ∃lf ka kn kc ca cn cc,w.cell? (ad b (k*3))=some (.bool lf)/\w.cell? (ad b (k*3+1))=some (.slice ka kn kc)/\w.cell? (ad b (k*3+2))=some (.slice ca cn cc)/\AD K S w d l[k] (.agg #[.bool lf,.slice ka kn kc,.slice ca cn cc]):=by obtain⟨x0,x1,x2,h0,h1,h2,h3⟩:=hk.get k h;obtain⟨lf,ka,kn,kc,ca,cn,cc,e⟩:=h3.form;injection e with e;simp at e;obtain⟨rfl,rfl,rfl⟩:=e;exact⟨lf,ka,kn,kc,ca,cn,cc,hx _ _ h0,hx _ _ h1,hx _ _ h2,h3⟩
theorem ES {T:Type} (f:T->List ByteArray) (l:List T) (k:Nat) (h:k<l.length):(l.take (k+1)).flatMap f=(l.take k).flatMap f++f l[k]:=by rw[<- List.take_append_getElem h,List.flatMap_append];simp
theorem By {T:Type} (f:T->List ByteArray) (l:List T) (k:Nat):((l.take k).flatMap f).length<=(l.flatMap f).length:=by
 conv=>rhs;rw[<- List.take_append_drop k l]
 rw[List.flatMap_append,WD];omega
theorem DW:∀(d:Nat) (t:Ro d),1<=Ad d t
 | 0,t=>t.elim
 | d+1,.inl _=>Wu _
 | d+1,.inr l=>by
  show 1<=1+(l.map (Ad d)).sum
  omega
theorem Hn (d:Nat) (l:List (Ro d)):l.length+1<=Ad (d+1) (.inr l):=by
 have h:=Rt (l:=l.map (Ad d)) (k:=1) (λx hx=>by obtain⟨t,_,rfl⟩:=List.mem_map.1 hx;exact DW d t)
 rw[WH] at h;show l.length+1<=1+(l.map (Ad d)).sum;omega
theorem Sq {l:List Nat} {x:Nat} (h:x∈l):x<=l.sum:=by
 induction l with
 | nil=>cases h
 | cons y l ih=>
  rw[List.sum_cons];rcases List.mem_cons.1 h with rfl|h;.omega
  .have:=ih h;omega
theorem Qh (d:Nat) (l:List (Ro d)) (k:Nat) (h:k<l.length):Ad d l[k]+1<=Ad (d+1) (.inr l):=by have h1:=Sq (l:=l.map (Ad d)) (x:=Ad d l[k]) (List.mem_map.2 ⟨_,WE h,rfl⟩);show Ad d l[k]+1<=1+(l.map (Ad d)).sum;omega
theorem EI:∀(d:Nat) (t:Ro d) (v:Value) (w:World),NA w d t v->Ad d t<=5000->(Ab d t).length<=1099511627776->WS 65 #[v] w (Kj w (Ab d t)):=by
 intro d;induction d with
 | zero=>intro t;exact t.elim
 | succ d ih=>
  intro t v w hv hnod hlen;rcases t with t|l
  .obtain⟨ka,kc,ca,cc,rfl,hk⟩:=hv;have HO:U (∀O:Obj,((w.alloc O).alloc (.cells #[] 9)).ownsRow (w.heap.size+1) 9 1 (.slice (some (ad (w.heap.size+1) 0)) 0 0) 0 []):=λO=>by simpa using BB (w.alloc O) 9 (w.heap.size+1) 1 (by simp)
   have hl:t.length<=1099511627776:=hlen;clear hlen;obtain⟨m,hm⟩:∃m,m=t.length:=⟨_,rfl⟩;rw[<- hm] at hk hl ⊢;have HK:U (BE w ka m (gt t)):=hk;have HM:U (m=t.length):=hm;clear hk ih hm;go_enter Tryz.func65,Tryz.ntmps65;go_wp2_with (at_builtin;refine AG rfl _ _ rfl (w.heap.size+1) (.slice (some (ad (w.heap.size+1) 0)) 0 0) 0 [] rfl (HO.o _) ka m kc t rfl HM.o (HK.o.below ((Aa _ _).alloc (by simp) _)) (by omega) (by simp) ?_)
   intro v' w' ho hg hat;have HB:U (Bl w w'):=(((Aa _ _).alloc (by simp) _).grown hg (by simp;omega) (λk e=>by simp[Value.ownBlock] at e;omega));obtain⟨a',c',rfl,h1,h2,h3⟩:=Cp (L:=t) ho HM.o;have HE:U (Cj w' (w.heap.size+1) a' t.length (gt t)):=h1;clear ho hg h1;go_wp2;go_ret;refine⟨a',c',by rw[<- show m=(Ab (d+1) (Sum.inl t)).length from HM.o];rfl,HE.o.mono (by omega),HB.o,?_,h3⟩;rw[<- show m=(Ab (d+1) (Sum.inl t)).length from HM.o];exact h2
  .obtain⟨ka,kc,b,cc,xs,rfl,_,hb,hl0,hx,hk⟩:=hv;have HX:U ((∀j u,xs[j]?=some u->w.cell? (ad b j)=some u)/\D7 (λt v=>AD (KR w) (λ_=>True) w d t v) l xs):=⟨hx,hk⟩;have HKid:U (∀W:World,Bl w W->∀k (h:k<l.length),∃lf ka kn kc ca cn cc,W.cell? (ad b (k*3))=some (.bool lf)/\W.cell? (ad b (k*3+1))=some (.slice ka kn kc)/\W.cell? (ad b (k*3+2))=some (.slice ca cn cc)/\NA W d l[k] (.agg #[.bool lf,.slice ka kn kc,.slice ca cn cc])):=by intro W hW k h;obtain⟨lf,ka,kn,kc,ca,cn,cc,h0,h1,h2,h3⟩:=MG hx hk k h;exact⟨lf,ka,kn,kc,ca,cn,cc,(hW.cell (p:=⟨b,_,none⟩) hb).trans h0,(hW.cell (p:=⟨b,_,none⟩) hb).trans h1,(hW.cell (p:=⟨b,_,none⟩) hb).trans h2,NA.below h3 hW⟩
   have HLen:U ((l.flatMap (Ab d)).length<=1099511627776):=hlen;have HIH:U (∀(t:Ro d) (v:Value) (w:World),NA w d t v->Ad d t<=5000->(Ab d t).length<=1099511627776->WS 65 #[v] w (Kj w (Ab d t))):=ih;have hl63:l.length<=5000:=by have:=Hn d l;omega
   have HNod:U (∀k (h:k<l.length),Ad d l[k]<=5000):=λk h=>by have:=Qh d l k h;omega
   clear hnod;clear hx hk hlen ih;obtain⟨ln,hln⟩:∃ln,ln=l.length:=⟨_,rfl⟩;rw[<- hln] at hl0 hl63 ⊢;have HLn:U (ln=l.length):=hln;clear hln;go_enter Tryz.func65,Tryz.ntmps65;go_upto_region 4 with fail
   have S1:U (Bx ((w.alloc (.cells #[.bool false,.slice ka 0 kc,.slice (some (ad b 0)) ln cc] 134)).alloc (.cells #[] 9)) w.heap.size 134 #[.bool false,.slice ka 0 kc,.slice (some (ad b 0)) ln cc]/\((w.alloc (.cells #[.bool false,.slice ka 0 kc,.slice (some (ad b 0)) ln cc] 134)).alloc (.cells #[] 9)).ownsRow (w.heap.size+1) 9 1 (.slice (some (ad (w.heap.size+1) 0)) 0 0) 0 []/\Bl w ((w.alloc (.cells #[.bool false,.slice ka 0 kc,.slice (some (ad b 0)) ln cc] 134)).alloc (.cells #[] 9))):=
    ⟨(Bx.new _ _ _).alloc _,by simpa using BB (w.alloc (.cells #[.bool false,.slice ka 0 kc,.slice (some (ad b 0)) ln cc] 134)) 9 (w.heap.size+1) 1 (by simp),(Aa _ _).alloc (by simp) _⟩
   generalize ((w.alloc (.cells #[.bool false,.slice ka 0 kc,.slice (some (ad b 0)) ln cc] 134)).alloc (.cells #[] 9))=W at S1 ⊢;go_wp2;go_loopw [3,4] (λq i wr=>∃k nk:Nat,k<=ln/\i=iv k/\nk=((l.take k).flatMap (Ab d)).length/\Bx wr w.heap.size 134 #[.bool false,.slice ka 0 kc,.slice (some (ad b 0)) ln cc]/\wr.ownsRow (w.heap.size+1) 9 1 q nk (AC ((l.take k).flatMap (Ab d)))/\Bl w wr) (λ_ i _=>ln-(intOf i).toNat)
   case atStart=>exact⟨0,0,Ww _,rfl,by simp,S1.o.1,S1.o.2.1,S1.o.2.2⟩
   case round=>
    obtain⟨k,nk,hk,rfl,hnk,hbx,hown,hbel⟩:=hrel;clear S1;obtain⟨qa,qc,rfl,_⟩:=Ap hown;have HST:U (Bx wr w.heap.size 134 #[.bool false,.slice ka 0 kc,.slice (some (ad b 0)) ln cc]/\wr.ownsRow (w.heap.size+1) 9 1 (.slice qa nk qc) nk (AC ((l.take k).flatMap (Ab d)))/\Bl w wr):=⟨hbx,hown,hbel⟩;have HNK:U (nk=((l.take k).flatMap (Ab d)).length):=hnk;have hnl:nk<=1099511627776:=by have:=By (Ab d) l k;have:=HLen.o;omega
    have y2:=hbx.cell 2;simp at y2;have hz:=hbx.lt;clear hbx hown hbel hnk;by_cases hlt:k<ln
    .have hlk:k<l.length:=by rw[<- HLn.o];exact hlt
     obtain⟨lf1,ka1,kn1,kc1,ca1,cn1,cc1,c0,c1,c2,hna⟩:=HKid.o wr HST.o.2.2 k hlk;have HNA:U (NA wr d l[k] (.agg #[.bool lf1,.slice ka1 kn1 kc1,.slice ca1 cn1 cc1])):=hna;have e12:=ES (Ab d) l k hlk;have HKL:U (nk+(Ab d l[k]).length<=1099511627776):=by have h1:=By (Ab d) l (k+1);rw[e12,WD,<- HNK.o] at h1;have:=HLen.o;show nk+(Ab d l[k]).length<=1099511627776;omega
     have hk0:(0:Int)<=(k:Int):=by omega
     have hkn:(k:Int)<(ln:Int):=by omega
     clear hna;go_wp2_with fail
     refine (HIH.o l[k] _ _ HNA.o (HNod.o k hlk) (by have:=HKL.o;omega)).mono ?_;rintro e w2 ⟨a2,cz2,he,ho2,hb2,hcc1,hcc2⟩;have HM:=hid e12;have HL2:=hid ho2.rd;clear ho2 e12 HNA;generalize hLk:Ab d l[k]=L2 at*
     obtain⟨n2,hn2⟩:=gn L2.length;rw[<- hn2] at he;subst he;have HN2:U (n2=L2.length/\nk+n2<=1099511627776):=⟨hn2,by rw[hn2];exact HKL.o⟩;have HS2:=hid (ai (HST.o.1.below hb2) (ai (Al HST.o.2.1 hb2) (HST.o.2.2.trans (hb2.mono HST.o.2.2.size))));clear hn2 hLk HKL HST hb2 c0 c1 c2 y2;have hz2:=HS2.o.1.lt;go_wp2_with (at_builtin;refine AG rfl _ _ rfl (w.heap.size+1) (.slice qa nk qc) nk _ rfl HS2.o.2.1 a2 n2 cz2 L2 rfl HN2.o.1 (by rw[HN2.o.1];exact HL2.o) HN2.o.2 (by omega) ?_)
     intro v' w5 ho hg hat;have HG:U (Bx w5 w.heap.size 134 #[.bool false,.slice ka 0 kc,.slice (some (ad b 0)) ln cc]/\w5.ownsRow (w.heap.size+1) 9 1 v' (nk+n2) (AC ((l.take (k+1)).flatMap (Ab d)))/\Bl w w5):=by refine⟨HS2.o.1.grown hg (λe=>by have:=Aw HS2.o.2.1 _ e;omega),?_,HS2.o.2.2.grown hg (by omega) (λg e=>by have:=Aw HS2.o.2.1 _ e;omega)⟩;rw[HM.o,CL];exact ho
     obtain⟨va,vc,rfl,_⟩:=Ap ho;clear ho hg hat HS2;go_wp2;go_roundw;case rel=>exact⟨k+1,nk+n2,by omega,by go_num,by rw[HM.o,WD,<- HNK.o,<- HN2.o.1],HG.o.1,HG.o.2.1,HG.o.2.2⟩
     case measure=>simp[intOf];omega
    .have e:k=ln:=by omega
     subst e;have HEq:U ((l.take k).flatMap (Ab d)=l.flatMap (Ab d)):=by show (l.take k).flatMap (Ab d)=l.flatMap (Ab d);rw[HLn.o,WG]
     go_wp2;go_ret;obtain⟨a',c',e',h1,h2,h3⟩:=Cp HST.o.2.1 HNK.o;injection e' with e1 _ e2;subst e1;subst e2;rw[HEq.o] at h1;refine⟨qa,qc,?_,h1.mono (by omega),HST.o.2.2,?_,h3⟩;.show Ending.returned (.slice qa nk qc)=Ending.returned (.slice qa (l.flatMap (Ab d)).length qc);rw[<- HEq.o,<- HNK.o]
     .show (l.flatMap (Ab d)).length<=qc;rw[<- HEq.o,<- HNK.o];exact h2
def kb (k:ByteArray) (i:Nat):Int:=match k[i]? with
 | some b=>(b.toNat:Int)
 | none=>0
theorem EB {k:ByteArray} {i:Nat} (h:i<k.size):∃b:UInt8,k[i]?=some b/\kb k i=(b.toNat:Int):=by have e:=getElem?_pos k i h;exact⟨k[i],e,by unfold kb;rw[e]⟩
theorem Dh (k:ByteArray) (i:Nat):0<=kb k i/\kb k i<256:=by
 unfold kb;split
 .rename_i b _
  have:=b.toNat_lt;omega
 .omega
def Fy (k:ByteArray) (i:Nat):Nat->Int
 | 0=>0
 | n+1=>256*Fy k i n+kb k (4*i+n)
def pk (k:ByteArray) (i:Nat):Int:=Fy k i 4
theorem J0 (k:ByteArray) (i:Nat):∀n,n<=4->0<=Fy k i n/\Fy k i n<4294967296:=by intro n hn;have h0:Fy k i 0=0:=rfl;have h1:Fy k i 1=256*Fy k i 0+kb k (4*i+0):=rfl;have h2:Fy k i 2=256*Fy k i 1+kb k (4*i+1):=rfl;have h3:Fy k i 3=256*Fy k i 2+kb k (4*i+2):=rfl;have h4:Fy k i 4=256*Fy k i 3+kb k (4*i+3):=rfl;have b0:=Dh k (4*i+0);have b1:=Dh k (4*i+1);have b2:=Dh k (4*i+2);have b3:=Dh k (4*i+3);rcases (show n=0\/n=1\/n=2\/n=3\/n=4 by omega) with rfl|rfl|rfl|rfl|rfl <;> omega
structure Qd where
 s:Int
 p:Int
 o:Int
 g:Int
def qv (q:Qd):Value:=.agg #[iv q.s,iv q.p,iv q.o,iv q.g]
def Bh (perm i:Nat):Nat:=
 match perm,i with
 | 0,i=>i
 | 1,0=>1|1,1=>2|1,2=>0|1,_=>3
 | 2,0=>2|2,1=>0|2,2=>1|2,_=>3
 | 3,0=>3|3,1=>0|3,2=>1|3,_=>2
 | 4,0=>3|4,1=>1|4,2=>2|4,_=>0
 | _,0=>3|_,1=>2|_,2=>0|_,_=>1
def Ck (perm s:Nat):Nat:=
 match perm,s with
 | 0,s=>s
 | 1,0=>2|1,1=>0|1,2=>1|1,_=>3
 | 2,0=>1|2,1=>2|2,2=>0|2,_=>3
 | 3,0=>1|3,1=>2|3,2=>3|3,_=>0
 | 4,0=>3|4,1=>1|4,2=>2|4,_=>0
 | _,0=>2|_,1=>3|_,2=>1|_,_=>0
def Ag (perm:Nat) (k:ByteArray):Qd:=⟨pk k (Ck perm 0),pk k (Ck perm 1),pk k (Ck perm 2),pk k (Ck perm 3)⟩
def PL (perm:Nat) (k:ByteArray) (i s:Nat):Int:=if Ck perm s<i then pk k (Ck perm s) else 0
theorem Rj (perm:Nat) (hp:perm<6) (k:ByteArray) (i:Nat) (hi:i<4):∀s,s<4->PL perm k (i+1) s=if s=Bh perm i then pk k i else PL perm k i s:=by
 intro s hs;rcases (show perm=0\/perm=1\/perm=2\/perm=3\/perm=4\/perm=5 by omega) with rfl|rfl|rfl|rfl|rfl|rfl <;>
 rcases (show i=0\/i=1\/i=2\/i=3 by omega) with rfl|rfl|rfl|rfl <;>
 rcases (show s=0\/s=1\/s=2\/s=3 by omega) with rfl|rfl|rfl|rfl <;> rfl
theorem Dw (perm:Nat) (hp:perm<6) (k:ByteArray) (s:Nat) (hs:s<4):PL perm k 4 s=pk k (Ck perm s):=by
 have:Ck perm s<4:=by
  rcases (show perm=0\/perm=1\/perm=2\/perm=3\/perm=4\/perm=5 by omega) with rfl|rfl|rfl|rfl|rfl|rfl <;>
  rcases (show s=0\/s=1\/s=2\/s=3 by omega) with rfl|rfl|rfl|rfl <;> decide
 unfold PL;rw[if_pos this]
theorem Gf (perm:Nat) (hp:perm<6) (i:Nat) (hi:i<4):Bh perm i<4:=by
 rcases (show perm=0\/perm=1\/perm=2\/perm=3\/perm=4\/perm=5 by omega) with rfl|rfl|rfl|rfl|rfl|rfl <;>
 rcases (show i=0\/i=1\/i=2\/i=3 by omega) with rfl|rfl|rfl|rfl <;> decide
def Bn (x:Int):Bool:=decide (1<=x) && decide (x<=2000000000)
def CV (q:Qd):Bool:=Bn q.s && Bn q.p && Bn q.o && Bn q.g
theorem Mp (perm:Nat) (hp:perm<6) (w:World):WS 114 #[iv (perm:Int)] w λe w'=>e=.returned (.slice (some (ad w.heap.size 0)) 4 4)/\w'=w.alloc (.cells #[iv (Bh perm 0:Int),iv (Bh perm 1:Int),iv (Bh perm 2:Int),iv (Bh perm 3:Int)] 3):=by
 rcases (show perm=0\/perm=1\/perm=2\/perm=3\/perm=4\/perm=5 by omega) with rfl|rfl|rfl|rfl|rfl|rfl;all_goals
  go_enter Tryz.func114,Tryz.ntmps114
  go_wp2
  go_ret
  exact⟨rfl,rfl⟩
theorem KJ (x:Int) (w:World):WS 63 #[iv x] w λe w'=>e=.returned (.bool (Bn x))/\w'=w:=by
 by_cases h1:1<=x
 .have h1d:=decide_eq_true h1;by_cases h2:x<=2000000000
  .have h2d:=decide_eq_true h2;have hd:Bn x=true:=by unfold Bn;rw[h1d,h2d];rfl
   rw[hd];clear hd;go_enter Tryz.func63,Tryz.ntmps63;go_wp2;go_ret;exact⟨rfl,rfl⟩
  .have h2d:=decide_eq_false h2;have hd:Bn x=false:=by unfold Bn;rw[h1d,h2d];rfl
   rw[hd];clear hd;go_enter Tryz.func63,Tryz.ntmps63;go_wp2;go_ret;exact⟨rfl,rfl⟩
 .have h1d:=decide_eq_false h1;have hd:Bn x=false:=by unfold Bn;rw[h1d];rfl
  rw[hd];clear hd;go_enter Tryz.func63,Tryz.ntmps63;go_wp2;go_ret;exact⟨rfl,rfl⟩
theorem MJ (q:Qd) (w:World):WS 66 #[qv q] w (WT w (.bool (CV q))):=by
 have HL:=hid KJ;unfold CV qv;go_enter Tryz.func66,Tryz.ntmps66;go_wp2_with fail
 (with_reducible refine (HL.o _ _).mono ?_)
 rintro e w1 ⟨rfl,hw1⟩;subst hw1;cases h1:Bn q.s with
 | false=>go_wp2;go_ret;exact⟨by rw[h1];rfl,Aa _ _⟩
 | true=>
 go_wp2_with fail
 (with_reducible refine (HL.o _ _).mono ?_)
 rintro e w1 ⟨rfl,hw1⟩;subst hw1;cases h2:Bn q.p with
 | false=>go_wp2;go_ret;exact⟨by rw[h1,h2];rfl,Aa _ _⟩
 | true=>
 go_wp2_with fail
 (with_reducible refine (HL.o _ _).mono ?_)
 rintro e w1 ⟨rfl,hw1⟩;subst hw1;cases h3:Bn q.o with
 | false=>go_wp2;go_ret;exact⟨by rw[h1,h2,h3];rfl,Aa _ _⟩
 | true=>
 go_wp2_with fail
 (with_reducible refine (HL.o _ _).mono ?_)
 rintro e w1 ⟨rfl,hw1⟩;subst hw1;cases h4:Bn q.g with
 | false=>go_wp2;go_ret;exact⟨by rw[h1,h2,h3,h4];rfl,Aa _ _⟩
 | true=>go_wp2;go_ret;exact⟨by rw[h1,h2,h3,h4];rfl,Aa _ _⟩
def Pa (perm:Nat) (k:ByteArray) (i:Nat):Array Value:=#[iv (PL perm k i 0),iv (PL perm k i 1),iv (PL perm k i 2),iv (PL perm k i 3)]
theorem Oc (perm:Nat) (hp:perm<6) (k:ByteArray) (i:Nat) (hi:i<4):(Pa perm k i).setIfInBounds (Bh perm i) (iv (pk k i))=Pa perm k (i+1):=by have h:=Rj perm hp k i hi;have ho:=Gf perm hp i hi;unfold Pa;rw[h 0 (by omega),h 1 (by omega),h 2 (by omega),h 3 (by omega)];generalize Bh perm i=o at ho ⊢;rcases (show o=0\/o=1\/o=2\/o=3 by omega) with rfl|rfl|rfl|rfl <;> simp
def SG (perm:Nat):Array Value:=#[iv (Bh perm 0:Int),iv (Bh perm 1:Int),iv (Bh perm 2:Int),iv (Bh perm 3:Int)]
theorem PX (perm i:Nat) (hi:i<4):(SG perm)[i]?=some (iv (Bh perm i:Int)):=by rcases (show i=0\/i=1\/i=2\/i=3 by omega) with rfl|rfl|rfl|rfl <;> rfl
theorem C1 (perm:Nat) (k:ByteArray) (j i:Nat) (hi:i<4):(Pa perm k j)[i]?=some (iv (PL perm k j i)):=by rcases (show i=0\/i=1\/i=2\/i=3 by omega) with rfl|rfl|rfl|rfl <;> rfl
structure V7 (w W:World) (perm:Nat) (k:ByteArray) (i:Nat):Prop where
 rb:Bx W w.heap.size 140 #[iv 0,iv 0,iv 0,iv 0]
 ob:Bx W (w.heap.size+1) 3 (SG perm)
 pb:Bx W (w.heap.size+2) 2 (Pa perm k i)
 bel:Bl w W
theorem IR (perm:Nat) (hp:perm<6) (key:ByteArray) (hk:key.size=16) (w:World):WS 67 #[.string key,iv (perm:Int)] w (WT w (qv (Ag perm key))):=by
 have HO:=hid (λW=>Mp perm hp W);have HK:=hid (ai hk hp);clear hk hp;go_enter Tryz.func67,Tryz.ntmps67;go_wp2_with fail
 (with_reducible refine (HO.o _).mono ?_)
 rintro e w1 ⟨rfl,hw1⟩;have Q0:U (V7 w (w1.alloc (.cells #[iv 0,iv 0,iv 0,iv 0] 2)) perm key 0):=by subst hw1;have b1:=Bx.new w #[iv 0,iv 0,iv 0,iv 0] 140;have b2:=Bx.new (w.alloc (.cells #[iv 0,iv 0,iv 0,iv 0] 140)) (SG perm) 3;have b3:=Bx.new ((w.alloc (.cells #[iv 0,iv 0,iv 0,iv 0] 140)).alloc (.cells (SG perm) 3)) #[iv 0,iv 0,iv 0,iv 0] 2;simp only[WJ] at b2 b3;exact⟨(b1.alloc _).alloc _,b2.alloc _,b3,((Aa _ _).alloc (by simp) _).alloc (by simp;omega) _⟩
 have hz1:w1.heap.size=w.heap.size+2:=by rw[hw1];simp
 have hw0:(w.alloc (.cells #[iv 0,iv 0,iv 0,iv 0] 140)).heap.size=w.heap.size+1:=by simp
 rw[hw0];clear hw1 HO hw0;go_upto_region 3 with fail
 generalize w1.alloc (.cells #[iv 0,iv 0,iv 0,iv 0] 2)=W0 at Q0 ⊢;clear hz1;go_wp2;go_loopw [7,8,9] (λi _ _ wr=>∃ii:Nat,ii<=4/\i=iv ii/\V7 w wr perm key ii) (λi _ _ _=>4-(intOf i).toNat)
 case atStart=>exact⟨0,by omega,rfl,Q0.o⟩
 case round=>
  obtain⟨i,hi,rfl,hq⟩:=hrel;obtain⟨W1,rfl⟩:=gn wr;have QI:=hid hq;clear hq Q0;by_cases hlt:i<4
  .go_wp2;go_loopw [8,9] (λx n wr=>∃nn:Nat,nn<=4/\n=iv nn/\x=iv (Fy key i nn)/\wr=W1) (λ_ n _=>4-(intOf n).toNat)
   case atStart=>exact⟨0,by omega,rfl,rfl,rfl⟩
   case round=>
    obtain⟨n,hn,rfl,rfl,rfl⟩:=hrel;obtain⟨x,hx⟩:=gn (Fy key i n);have HX:=hid hx;have hxr:=J0 key i n hn;rw[<- hx] at hxr ⊢;clear hx;by_cases hln:n<4
    .obtain⟨by0,eb,ekb⟩:=EB (k:=key) (i:=4*i+n) (by rw[HK.o.1];omega);have hbr:=Dh key (4*i+n);obtain⟨b,hb⟩:=gn (kb key (4*i+n));have HBb:=hid hb;rw[<- hb] at hbr ekb;have hix:∀W:World,(Instr.index 9 (.string key) (iv (4*(i:Int)+(n:Int)))).run Tryz.prog W=.ok (.int .u8 b) W:=λW=>by
      have e1:(4*(i:Int)+(n:Int)).toNat=4*i+n:=by omega
      have e2:(0:Int)<=4*(i:Int)+(n:Int):=by omega
      simp[Instr.index,go_sem,e1,e2,eb,ekb]
     clear hb eb ekb;have HN:U (256*x+b=Fy key i (n+1)):=by show 256*x+b=Fy key i (n+1);rw[HX.o,HBb.o];rfl
     obtain⟨hx0,hx1⟩:=hxr;obtain⟨hb0,hb1⟩:=hbr;go_wp2;go_roundw;case rel=>exact⟨n+1,by omega,by go_num,by rw[<- HN.o],by first|rfl|trivial⟩
     case measure=>simp[intOf];omega
    .obtain rfl:n=4:=by omega
     have HX4:U (x=pk key i):=HX.o;have hop:Bh perm i<4:=Gf perm HK.o.2 i hlt;obtain⟨o,ho⟩:∃o,o=Bh perm i:=⟨_,rfl⟩;have HOo:U (o=Bh perm i):=ho;rw[<- ho] at hop;have c1:wr.cell? (ad (w.heap.size+1) i)=some (iv (o:Int)):=by rw[QI.o.ob.cell i,PX perm i hlt,<- ho]
     have c2:wr.cell? (ad (w.heap.size+2) o)=some (iv (PL perm key i o)):=by rw[QI.o.pb.cell o,C1 perm key i o hop]
     have f2:=QI.o.pb.frozen o;have l2:=QI.o.pb.lt;have i0:(0:Int)<=(i:Int):=by omega
     have i1:(i:Int)<4:=by omega
     have o0:(0:Int)<=(o:Int):=by omega
     have o1:(o:Int)<4:=by omega
     have HS:U (V7 w (wr.setCell (ad (w.heap.size+2) o) (iv x)) perm key (i+1)):=by have q:=QI.o;refine⟨q.rb.other (by simp) _,q.ob.other (by simp) _,?_,q.bel.setCell (by simp) _⟩;have e:=q.pb.set o (iv x);rw[HOo.o,HX4.o,Oc perm HK.o.2 key i hlt] at e;rw[HOo.o,HX4.o];exact e
     clear ho;go_wp2;go_roundw;case rel=>exact⟨i+1,by omega,by go_num,HS.o⟩
     case measure=>simp[intOf];omega
  .obtain rfl:i=4:=by omega
   have p0:=QI.o.pb.cell 0;have p1:=QI.o.pb.cell 1;have p2:=QI.o.pb.cell 2;have p3:=QI.o.pb.cell 3;rw[C1 perm key 4 0 (by omega),Dw perm HK.o.2 key 0 (by omega)] at p0;rw[C1 perm key 4 1 (by omega),Dw perm HK.o.2 key 1 (by omega)] at p1;rw[C1 perm key 4 2 (by omega),Dw perm HK.o.2 key 2 (by omega)] at p2;rw[C1 perm key 4 3 (by omega),Dw perm HK.o.2 key 3 (by omega)] at p3;obtain⟨q0,hq0⟩:=gn (pk key (Ck perm 0));obtain⟨q1,hq1⟩:=gn (pk key (Ck perm 1));obtain⟨q2,hq2⟩:=gn (pk key (Ck perm 2));obtain⟨q3,hq3⟩:=gn (pk key (Ck perm 3));rw[<- hq0] at p0;rw[<- hq1] at p1;rw[<- hq2] at p2;rw[<- hq3] at p3;have HV:U (qv (Ag perm key)=.agg #[iv q0,iv q1,iv q2,iv q3]):=by show qv (Ag perm key)=_;rw[hq0,hq1,hq2,hq3];rfl
   clear hq0 hq1 hq2 hq3;have z0:=QI.o.rb.cell 0;have z1:=QI.o.rb.cell 1;have z2:=QI.o.rb.cell 2;have z3:=QI.o.rb.cell 3;simp at z0 z1 z2 z3;have zf:=λi=>QI.o.rb.frozen i;have zl:=QI.o.rb.lt;go_upto_region 12 with fail
   refine Au (S:=λw'=>w'.cell? (ad (w.heap.size+2) 0)=some (iv q0)/\w'.cell? (ad (w.heap.size+2) 1)=some (iv q1)/\w'.cell? (ad (w.heap.size+2) 2)=some (iv q2)/\w'.cell? (ad (w.heap.size+2) 3)=some (iv q3)) 13 (by kernel_rfl) ⟨p0,p1,p2,p3⟩ (λhHeld=>?_);refine tz 0 rfl ?_;refine tz 1 rfl ?_;refine tz 2 rfl ?_;refine tz 3 rfl ?_;refine tz 4 rfl ?_;refine tz 5 rfl ?_;refine tz 6 rfl ?_;refine tz 7 rfl ?_;refine tz 8 rfl ?_;refine tz 9 rfl ?_;refine tz 10 rfl ?_;refine tz 11 rfl ?_;refine tz 12 rfl ?_;refine AB 13 rfl (λK hK=>?_);go_simp;refine hK.out _ _ ?_ (λhG=>?_);·(intro hne;exact absurd rfl hne)
   clear hK K hG;refine Ae (by kernel_rfl) ?_ _;have HB:=hid (ai QI.o.bel.drew QI.o.rb.drew);clear hHeld;go_wp2;refine bodyPost_ret (v:=.agg #[iv q0,iv q1,iv q2,iv q3]) (by simp[results,Tryz.results67,go_sem,z0,z1,z2,z3]) rfl ⟨by rw[HV.o],?_⟩;exact (((HB.o.1.setCell (by simp) _).setCell (by simp) _).setCell (by simp) _).setCell (by simp) _
def Co (w:World) (a:Option Addr) (n:Nat) (M:Nat->Nat) (T:Nat->Nat->Tn):Prop:=
 n=0\/∃b o,a=some (ad b o)/\∀i,i<n->∃ai ci,w.cell? (ad b (o+i))=some (.slice ai (M i) ci)/\Bk w ai (M i) (T i)
theorem Co.below {w w' : World} {a:Option Addr} {n:Nat} {M:Nat->Nat} {T:Nat->Nat->Tn} (h:Co w a n M T) (hb:Bl w w'):Co w' a n M T:=by
 rcases h with h|⟨b,o,rfl,hc⟩;.exact Or.inl h
 .refine Or.inr ⟨b,o,rfl,λi hi=>?_⟩;obtain⟨ai,ci,h0,h1⟩:=hc i hi;exact⟨ai,ci,by rw[hb.cell (Ws _ _ h0)];exact h0,h1.below hb⟩
def CU (n:Nat) (M:Nat->Nat) (T:Nat->Nat->Tn):Prop:=∀i,i<n->M i<=1048576/\∀j,j<M i->Bf (T i j)
def Cb (M:Nat->Nat) (T:Nat->Nat->Tn):Nat->Nat
 | 0=>0
 | k+1=>Cb M T k+M k+B4 (T k) (M k)
theorem Mc (M:Nat->Nat) (T:Nat->Nat->Tn):∀(m i:Nat),i<m->M i+B4 (T i) (M i)<=Cb M T m
 | 0,i,h=>absurd h (Wy _)
 | m+1,i,h=>by
  have e:Cb M T (m+1)=Cb M T m+M m+B4 (T m) (M m):=rfl
  by_cases e2:i=m
  .subst e2;omega
  .have:=Mc M T m i (by omega)
   omega
theorem RM {n:Nat} {M:Nat->Nat} {T:Nat->Nat->Tn} (h:n+Cb M T n<=1048576):CU n M T:=λi hi=>by
 have q:=Mc M T n i hi
 refine⟨by omega,λj hj=>?_⟩
 have:=LG (T i) (M i) j hj
 exact⟨by omega,by omega⟩
theorem Lu (a:Option Addr) (m c:Nat) (N:Nat->Tn) (l:Int) (w:World) (h:Bk w a m N) (hm:m<=maxLen) (hN:∀i,i<m->Em (N i)) (h0:0<=l) (h1:l<=1048576) :
  WS 59 #[.agg #[.slice a m c],iv l] w λe w'=>∃r:Int,e=.returned (iv r)/\(r=-1\/(0<=r/\r+(m:Int)+(B4 N m:Int)<=l))/\Bl w w':=by
 have HR:=hid (ai h hN);clear h hN;go_enter Tryz.func59,Tryz.ntmps59;go_wp2_with fail
 refine (KU a m c N l _ (HR.o.1.below (Aa _ _)) hm HR.o.2 h0 h1).mono ?_;rintro e w1 ⟨r,rfl,hr,hb1⟩;have H1:=hid ((Aa _ _).trans (hb1.mono (by simp)));clear hb1;rcases hr with rfl|⟨hr0,hr1⟩;.go_wp2;go_ret;exact⟨-1,rfl,Or.inl rfl,H1.o⟩
 .have hr2:¬ r<0:=by omega
  have HF:=hid hr1;clear hr1;go_wp2;go_ret;exact⟨r,rfl,Or.inr ⟨hr0,HF.o⟩,H1.o⟩
theorem Mz (a:Option Addr) (m c:Nat) (M:Nat->Nat) (T:Nat->Nat->Tn) (l:Int) (w:World) (h:Co w a m M T) (hm:m<=maxLen) (hN:∀i,i<m->M i<=maxLen/\∀j,j<M i->Em (T i j)) (h0:0<=l) (h1:l<=1048576) :
  WS 26 #[.slice a m c,iv l] w λe w'=>∃r:Int,e=.returned (iv r)/\(r=-1\/(0<=r/\r+(m:Int)+(Cb M T m:Int)<=l))/\Bl w w':=by
 unfold maxLen at hm;by_cases hneg:l-(m:Int)<0;.go_enter Tryz.func26,Tryz.ntmps26;go_wp2;go_ret;exact⟨-1,rfl,Or.inl rfl,Wt _ _⟩
 .go_enter Tryz.func26,Tryz.ntmps26;go_wp2;go_loopw [1,5] (λq i wr=>∃(k:Nat) (l' : Int),k<=m/\i=iv k/\q=iv l'/\0<=l'/\l'+(Cb M T k:Int)<=l-(m:Int)/\Bl w wr) (λ_ i _=>m-(intOf i).toNat)
  case atStart=>exact⟨0,_,Ww _,rfl,rfl,by omega,by simp[Cb],Wt _ _⟩
  case round=>
   obtain⟨k,l',hk,rfl,rfl,hl0,hl1,hbel⟩:=hrel;by_cases hlt:k<m
   .have hne:¬ m=0:=by omega
    have h':=h.below hbel;have HB:=hid hbel;have hsz:=hbel.size;rcases h' with h' | ⟨b,o,rfl,hc⟩;.exact absurd h' hne
    obtain⟨ai,ci,c0,c4⟩:=hc k hlt;have HK:=hid c4;have HL:=hid (hN k hlt);clear hc hN hbel h c4;go_wp2_with fail
    refine (Lu ai (M k) ci (T k) l' _ HK.o HL.o.1 HL.o.2 hl0 (by omega)).mono ?_;rintro e w1 ⟨r,rfl,hr,hb1⟩;have HB1:=hid (HB.o.trans (hb1.mono hsz));clear hb1;rcases hr with rfl|⟨hr0,hr1⟩;.go_wp2;go_ret;exact⟨-1,rfl,Or.inl rfl,HB1.o⟩
    .have hr2:¬ r<0:=by omega
     have HN2:U (r+(Cb M T (k+1):Int)<=l-(m:Int)):=by show r+(Cb M T (k+1):Int)<=l-(m:Int);have:Cb M T (k+1)=Cb M T k+M k+B4 (T k) (M k):=rfl;omega
     go_wp2;go_roundw;case rel=>exact⟨k+1,r,by omega,by go_num,rfl,hr0,HN2.o,HB1.o⟩
     case measure=>simp[intOf];omega
   .have e:k=m:=by omega
    subst e;go_wp2;go_ret;exact⟨l',rfl,Or.inr ⟨hl0,by omega⟩,hbel⟩
theorem L7 (a b:Option Addr) (m ca cb:Nat) (M:Nat->Nat) (T:Nat->Nat->Tn) (w:World) (ha:Co w a m M T) (hb:Co w b m M T) (hm:m<=1048576) (hN:CU m M T) :
  WS 51 #[.slice a m ca,.slice b m cb] w (WT w (.bool true)):=by
 have hll:((m:Int) != (m:Int))=false:=by simp
 go_enter Tryz.func51,Tryz.ntmps51;go_wp2;go_loopw [5] (λi wr=>∃k:Nat,k<=m/\i=iv k/\Bl w wr) (λi _=>m-(intOf i).toNat)
 case atStart=>exact⟨0,Ww _,rfl,Wt _ _⟩
 case round=>
  obtain⟨k,hk,rfl,hbel⟩:=hrel;by_cases hlt:k<m
  .have hne:¬ m=0:=by omega
   have ha':=ha.below hbel;have hb':=hb.below hbel;rcases ha' with h|⟨ba,oa,rfl,hca⟩;.exact absurd h hne
   rcases hb' with h|⟨bb,ob,rfl,hcb⟩;.exact absurd h hne
   obtain⟨ai,ci,c0,c4⟩:=hca k hlt;obtain⟨bi,di,g0,g4⟩:=hcb k hlt;have HL:=hN k hlt;clear hca hcb ha hb hN;have hsz:=hbel.size;have HB:=hid hbel;clear hbel;go_wp2;go_region_with (go_at_call 104;refine (Nn ai bi (M k) ci di (T k) _ (by exact c4) (by exact g4) HL.1 HL.2).mono ?_;rintro e w2 ⟨rfl,hb2⟩)
   all_goals
    have HX:=hid ((HB.o.drew).trans (hb2.mono (by simpa using hsz)))
    clear hb2 c0 c4 g0 g4
    go_wp2
    go_roundw
    case rel=>exact⟨k+1,by omega,by go_num,HX.o⟩
    case measure=>simp[intOf];omega
  .have e:k=m:=by omega
   subst e;go_wp2;go_ret;exact⟨rfl,hbel⟩
theorem Mb (a b:Option Addr) (m ca cb:Nat) (M:Nat->Nat) (T:Nat->Nat->Tn) (w:World) (ha:Co w a m M T) (hb:Co w b m M T) (hm:m<=1048576) (hN:CU m M T) :
  WS 16 #[.agg #[.slice a m ca],.agg #[.slice b m cb]] w (WT w (.bool true)):=by
 have HR:U (Co w a m M T/\Co w b m M T/\CU m M T):=⟨ha,hb,hN⟩;clear ha hb hN;go_enter Tryz.func16,Tryz.ntmps16;go_wp2_with fail
 have hbel:∀o1 o2,Bl w ((w.alloc o1).alloc o2):=λo1 o2=>((Wt _ _).alloc (Wu _) o1).alloc (by simp) o2;refine (L7 a b m ca cb M T _ (HR.o.1.below (hbel _ _)) (HR.o.2.1.below (hbel _ _)) hm HR.o.2.2).mono ?_;rintro e w1 ⟨rfl,hb1⟩;have H1:=hid ((hbel _ _).trans (hb1.mono (by simp;omega)));clear hb1;go_wp2;go_ret;exact⟨rfl,H1.o⟩
theorem AE.setO {W:World} {B g m:Nat} {N:Nat->Tn} {KA DA:Nat->Option Addr} {KC DC:Nat->Nat} (q:AE W B g m N KA DA KC DC) {p:Addr} (hp:p.block<B) (v:Value):AE (W.setCell p v) B g m N KA DA KC DC:=by
 have hle:=q.le;refine⟨q.le,q.row.setOther (by omega) _,λi hi=>(q.keys i hi).setOther hp _,λi hi=>?_,q.apartK,q.apartD⟩;rcases q.kids i hi with h0|⟨g,hA,hg,hr⟩;.exact Or.inl h0
 .exact Or.inr ⟨g,hA,hg,hr.setOther (by omega) _⟩
def G0 (w:World) (B g n k:Nat) (M:Nat->Nat) (T:Nat->Nat->Tn):Prop:=
 g<B/\∃cur:Array Value,w.heap[g]?=some (.cells cur 73 (0,0))/\cur.size=n/\∀i,i<k->∃gi KA DA KC DC,cur[i]?=some (.slice (some (ad gi 0)) (M i) (M i))/\AE w B gi (M i) (T i) KA DA KC DC
theorem G0.rd {w:World} {B g n:Nat} {M:Nat->Nat} {T:Nat->Nat->Tn} (h:G0 w B g n n M T):Co w (some (ad g 0)) n M T:=by obtain⟨_,cur,h1,h2,h3⟩:=h;refine .inr ⟨g,0,rfl,λi hi=>?_⟩;obtain⟨gi,KA,DA,KC,DC,q1,q2⟩:=h3 i hi;exact⟨some (ad gi 0),M i,by rw[WM,Bx.cell (show Bx w g 73 cur from h1) i];exact q1,q2.rd⟩
variable {I R:Nat->Int}{X:Nat->ByteArray}
def E0 (w:World) (a:Option Addr) (n:Nat) (I:Nat->Int) (X:Nat->ByteArray) (R:Nat->Int):Prop:=
 n=0\/∃b o,a=some (ad b o)/\∀i,i<n->w.cell? (ad b (o+i*3))=some (iv (I i))/\w.cell? (ad b (o+i*3+1))=some (.string (X i))/\w.cell? (ad b (o+i*3+2))=some (iv (R i))
theorem E0.below {w':World} {a:Option Addr} (h:E0 w a n I X R) (hb:Bl w w'):E0 w' a n I X R:=by
 rcases h with h|⟨b,o,rfl,hc⟩;.exact Or.inl h
 .refine Or.inr ⟨b,o,rfl,λi hi=>?_⟩;obtain⟨h1,h2,h3⟩:=hc i hi;refine⟨?_,?_,?_⟩;.rw[hb.cell (p:=(ad b (o+i*3))) (Ws _ _ h1)];exact h1
  .rw[hb.cell (p:=(ad b (o+i*3+1))) (Ws _ _ h2)];exact h2
  .rw[hb.cell (p:=(ad b (o+i*3+2))) (Ws _ _ h3)];exact h3
def Az (I:Nat->Int) (X:Nat->ByteArray) (R:Nat->Int) (c:Nat):Value:=
 if c % 3=0 then iv (I (c / 3)) else if c % 3=1 then .string (X (c / 3)) else iv (R (c / 3))
theorem Bt (I:Nat->Int) (X:Nat->ByteArray) (R:Nat->Int) (i:Nat):Az I X R (i*3)=iv (I i):=by unfold Az;rw[if_pos (by omega),show i*3 / 3=i by omega]
theorem Bv (I:Nat->Int) (X:Nat->ByteArray) (R:Nat->Int) (i:Nat):Az I X R (i*3+1)=.string (X i):=by unfold Az;rw[if_neg (by omega),if_pos (by omega),show (i*3+1) / 3=i by omega]
theorem Bu (I:Nat->Int) (X:Nat->ByteArray) (R:Nat->Int) (i:Nat):Az I X R (i*3+2)=iv (R i):=by unfold Az;rw[if_neg (by omega),if_neg (by omega),show (i*3+2) / 3=i by omega]
theorem Ho {g:Nat} (h:Ai w g 131 (n*3) (Az I X R)):E0 w (some (ad g 0)) n I X R:=by
 refine Or.inr ⟨g,0,rfl,λi hi=>⟨?_,?_,?_⟩⟩;.have:=h.cell (i:=i*3) (by omega);rw[Bt] at this;simpa using this
 .have:=h.cell (i:=i*3+1) (by omega);rw[Bv] at this;simpa using this
 .have:=h.cell (i:=i*3+2) (by omega);rw[Bu] at this;simpa using this
theorem Vh (w:World) (m:Nat):Ai (w.alloc (.cells (madeCells #[iv 0,.string { data:=#[] },iv 0] (m*3)) 131)) w.heap.size 131 (m*3) (Az (λ_=>0) (λ_=>{ data:=#[] }) (λ_=>0)):=by
 refine⟨_,blk_alloc_new _ _,by rw[size_madeCells];exact Wu _,λi hi=>?_⟩;unfold Az;have h3:i % 3=0\/i % 3=1\/i % 3=2:=by omega
 rcases h3 with e|e|e;all_goals simp[madeCells,hi,e]
variable {P:Prop}{w':World}
def I6 (x:Int):Bool:=decide (1<=x) && decide (x<=2000000000)
def De (next:Int) (I:Nat->Int) (X:Nat->ByteArray) (R:Nat->Int) (i:Nat):Prop:=
 (1<=(X i).size/\(X i).size<=30)/\(1<=I i/\I i<next)/\(1<=R i/\R i<=2000000000)/\(0<i->Op.bytesLess (X (i-1)).toList (X i).toList=true)
def EK (I:Nat->Int) (i:Nat):Prop:=∀j,j<i->I j≠I i
def C8 (next:Int) (n:Nat) (I:Nat->Int) (X:Nat->ByteArray) (R:Nat->Int):Prop:=
 I6 next=true/\n<=1200/\∀i,i<n->De next I X R i/\EK I i
def C0 (w:World) (P:Prop) (e:Ending) (w' : World):Prop:=∃b:Bool,e=.returned (.bool b)/\(b=true↔P)/\Bl w w'
theorem C0.no (h:¬ P) (hb:Bl w w'):C0 w P (.returned (.bool false)) w':=⟨false,rfl,Iff.intro (λe=>by cases e) (λp=>absurd p h),hb⟩
theorem C0.yes (h:P) (hb:Bl w w'):C0 w P (.returned (.bool true)) w':=⟨true,rfl,Iff.intro (λ_=>h) (λ_=>rfl),hb⟩
theorem IN (x:Int) (w:World):WS 63 #[iv x] w λe w'=>e=.returned (.bool (I6 x))/\w'=w:=by
 by_cases h1:1<=x
 .have HE:U (I6 x=decide (x<=2000000000)):=by show _=_;unfold I6;rw[decide_eq_true h1];rfl
  go_enter Tryz.func63,Tryz.ntmps63;go_wp2;go_ret;exact⟨by rw[HE.o];rfl,rfl⟩
 .have HE:U (I6 x=false):=by show _=_;unfold I6;rw[decide_eq_false h1];rfl
  go_enter Tryz.func63,Tryz.ntmps63;go_wp2;go_ret;exact⟨by rw[HE.o];rfl,rfl⟩
theorem Vz (b o n c p:Nat) (hp:p<n) (w:World):(Instr.indexAt 43 (.slice (some (ad b o)) n c) (iv (p:Int))).run Tryz.prog w=.ok (.pointer (some (ad b (o+p*3)))) w:=by simp[Instr.indexAt,go_sem];intro h;omega
theorem KS {W:World} {v0 v1:Value} {t:TypeId} (hb:Below (W.heap.size+1) (W.alloc (.cells #[v0,v1] t)) w') :
  w'.cell? (ad W.heap.size 0)=some v0/\w'.cell? (ad W.heap.size 1)=some v1/\W.heap.size<w'.heap.size/\Bl W w':=by
 have hs:=hb.size;have g:=(hb.block W.heap.size (by omega)).trans (blk_alloc_new W (.cells #[v0,v1] t));refine⟨?_,?_,by simp at hs;omega,(Aa _ _).trans (hb.mono (by omega))⟩;.simp[World.cell?,g]
 .simp[World.cell?,g]
theorem Ft (w:World) (v0 v1 v2:Value) (nq:Nat):((w.alloc (.cells #[v0,v1,v2] 131)).drewN nq).cell? (ad w.heap.size 0)=some v0/\w.heap.size<((w.alloc (.cells #[v0,v1,v2] 131)).drewN nq).heap.size:=by have hb:Below (w.heap.size+1) (w.alloc (.cells #[v0,v1,v2] 131)) ((w.alloc (.cells #[v0,v1,v2] 131)).drewN nq):=Af (Wt _ _) nq;have g:=(hb.block w.heap.size (by omega)).trans (blk_alloc_new w (.cells #[v0,v1,v2] 131));have hs:=hb.size;simp only[WJ] at hs;exact⟨by unfold World.cell?;rw[g];rfl,by omega⟩
end Go.Proofs.YtacpbofiipdodaaGreat
namespace Go.Proofs.YtacpbofiipdodaaGreat
open Go Go.ChangeMaps Go.Deep Go.MapKept Go.RowKit
variable {B i:Nat}{K V:Nat->Value}{w:World}
def AP (w:World) (B k:Nat) (K V:Nat->Value):Prop:=
 ∃es clock,w.heap[B]?=some (.map es clock)/\Stamped es clock/\es.size=k/\∀i,i<k->∃e,es[i]?=some e/\e.key=K i/\e.val=V i
theorem AP.lt {k:Nat} (h:AP w B k K V):B<w.heap.size:=by obtain⟨es,clock,hb,_⟩:=h;exact (Array.getElem?_eq_some_iff.1 hb).1
theorem AP.kept {w':World} {k:Nat} (h:AP w B k K V) (hb:w'.heap[B]?=w.heap[B]?):AP w' B k K V:=by obtain⟨es,clock,h1,h2⟩:=h;exact⟨es,clock,hb.trans h1,h2⟩
theorem AP.ne_cells {k b:Nat} {cs:Array Value} {t:TypeId} {fr:Nat × Nat} (h:AP w B k K V) (hc:w.heap[b]?=some (.cells cs t fr)):b≠B:=by obtain⟨es,clock,h1,_⟩:=h;rintro rfl;rw[h1] at hc;cases hc
theorem JV (w:World) (K V:Nat->Value):AP (w.alloc (.map #[] 0)) w.heap.size 0 K V:=
 ⟨#[],0,blk_alloc_new _ _,stamped_empty 0,rfl,λi hi=>absurd hi (Wy _)⟩
section
variable {w:World} {B k:Nat} {K V:Nat->Value} {t kt et:TypeId} {d:TypeDesc} {key:Value}
theorem AP.look_none (h:AP w B k K V) (ht:Tryz.prog.underlying t=some (.map kt et)) (hd:Tryz.prog.underlying kt=some d) (hk:IsKey d key) (hK:∀i,i<k->IsKey d (K i)) (hne:∀i,i<k->K i≠key) {z:Value} (hz:(zeroValue et).run Tryz.prog w=.ok z w) :
  (Instr.lookup t (.map (some B)) key false).run Tryz.prog w=.ok z w:=by
 obtain⟨es,clock,hb,hst,hs,he⟩:=h;have hall:∀x∈es.toList,IsKey d x.key/\x.key≠key:=by
  intro x hx;obtain⟨i,hi,e⟩:=List.getElem_of_mem hx;simp at hi;obtain⟨e',h1,h2,_⟩:=he i (by omega);have:es[i]?=some x:=by rw[Array.getElem?_eq_getElem hi];simpa using e
  rw[this] at h1;cases h1;rw[h2];exact⟨hK i (by omega),hne i (by omega)⟩
 rcases findNow_spec hk es.toList 0 (λx hx=>(hall x hx).1) with ⟨h1,_⟩|⟨j,e,_,h2,h3⟩;.simp[Instr.lookup,run_underlying ht,MapKept.run_getObj_map hb,run_checkKey hd hk,run_findKey hd h1,hz,Result.andThen]
 .exact absurd h3 (hall e (List.mem_of_getElem? h2)).2
theorem AP.look_some (h:AP w B k K V) (ht:Tryz.prog.underlying t=some (.map kt et)) (hd:Tryz.prog.underlying kt=some d) (hk:IsKey d key) (hK:∀i,i<k->IsKey d (K i)) (hi:i<k) (hi2:K i=key) (hun:∀j,j<k->K j=key->V j=V i) :
  (Instr.lookup t (.map (some B)) key false).run Tryz.prog w=.ok (V i) w:=by
 obtain⟨es,clock,hb,hst,hs,he⟩:=h;have hall:∀(j:Nat) x,es.toList[j]?=some x->j<k/\x.key=K j/\x.val=V j:=by
  intro j x hx;have hx' : es[j]?=some x:=by simpa using hx
  have hj:=(Array.getElem?_eq_some_iff.1 hx').1;obtain⟨e',h1,h2,h3⟩:=he j (by omega);rw[hx'] at h1;cases h1;exact⟨by omega,h2,h3⟩
 rcases findNow_spec hk es.toList 0 (λx hx=>by obtain⟨j,hj,e⟩:=List.getElem_of_mem hx;have q:=hall j x (by rw[Wx hj,e]);rw[q.2.1];exact hK j q.1) with ⟨_,h1⟩|⟨j,e,h1,h2,h3⟩
 .obtain⟨e',h4,h5,_⟩:=he i hi;exact absurd (h5.trans hi2) (h1 e' (List.mem_of_getElem? (by simpa using h4)))
 .obtain⟨q1,q2,q3⟩:=hall j e h2;have hv:=q3.trans (hun j q1 (q2.symm.trans h3));simp[Instr.lookup,run_underlying ht,MapKept.run_getObj_map hb,run_checkKey hd hk,run_findKey hd h1,Result.andThen,hv]
theorem AP.store_new (h:AP w B k K V) (ht:Tryz.prog.underlying t=some (.map kt et)) (hd:Tryz.prog.underlying kt=some d) (hk:IsKey d key) (hK:∀i,i<k->IsKey d (K i)) (hne:∀i,i<k->K i≠key) (val:Value) :
  ∃w',(Instr.mapUpdate t (.map (some B)) key val).run Tryz.prog w=.ok () w'/\AP w' B (k+1) (λi=>if i=k then key else K i) (λi=>if i=k then val else V i)/\w.grownBy w' (some B):=by
 obtain⟨es,clock,hb,hst,hs,he⟩:=h;have hall:∀x∈es.toList,IsKey d x.key/\x.key≠key:=by
  intro x hx;obtain⟨i,hi,e⟩:=List.getElem_of_mem hx;simp at hi;obtain⟨e',h1,h2,_⟩:=he i (by omega);have:es[i]?=some x:=by rw[Array.getElem?_eq_getElem hi];simpa using e
  rw[this] at h1;cases h1;rw[h2];exact⟨hK i (by omega),hne i (by omega)⟩
 rcases findNow_spec hk es.toList 0 (λx hx=>(hall x hx).1) with ⟨h1,_⟩|⟨j,e,_,h2,h3⟩
 .refine⟨setBlock w B (.map (es.push { key:=key,val:=val,born:=clock }) (clock+1)),?_,⟨_,_,heap_setBlock_same hb _,stamped_push hst (λx hx=>(hall x hx).2),by simp[hs],λi hi=>?_⟩,⟨rfl,rfl,rfl,by simp[setBlock],λi _ hi=>heap_setBlock_other hb _ (λe=>hi (by rw[e]))⟩⟩;.simp[Instr.mapUpdate,run_underlying ht,MapKept.run_getObj_map hb,run_checkKey hd hk,run_findKey hd h1,MapKept.run_setObj_map _ hb,Result.andThen,setBlock]
  .by_cases e:i=k;.subst e;refine⟨{ key:=key,val:=val,born:=clock },?_,by simp,by simp⟩;rw[<- hs];simp
   .obtain⟨e',q1,q2,q3⟩:=he i (by omega);refine⟨e',?_,by simp[e,q2],by simp[e,q3]⟩;rw[Array.getElem?_push];rw[if_neg (by omega)];exact q1
 .exact absurd h3 (hall e (List.mem_of_getElem? h2)).2
theorem AP.drop (h:AP w B k K V) (ht:Tryz.prog.underlying t=some (.map kt et)) (hd:Tryz.prog.underlying kt=some d) (hk:IsKey d key) (hK:∀i,i<k->IsKey d (K i)) (hi:i<k) (hi2:K i=key) (ty:TypeId) :
  ∃w',(Builtin.delete_ #[t,kt] ty #[.map (some B),key]).run Tryz.prog w=.ok (.tuple #[]) w'/\AP w' B (k-1) (λj=>if j<i then K j else K (j+1)) (λj=>if j<i then V j else V (j+1))/\w.grownBy w' (some B):=by
 obtain⟨es,clock,hb,hst,hs,he⟩:=h;have hall:∀(j:Nat) x,es.toList[j]?=some x->j<k/\x.key=K j/\x.val=V j:=by
  intro j x hx;have hx' : es[j]?=some x:=by simpa using hx
  have hj:=(Array.getElem?_eq_some_iff.1 hx').1;obtain⟨e',h1,h2,h3⟩:=he j (by omega);rw[hx'] at h1;cases h1;exact⟨by omega,h2,h3⟩
 rcases findNow_spec hk es.toList 0 (λx hx=>by obtain⟨j,hj,e⟩:=List.getElem_of_mem hx;have q:=hall j x (by rw[Wx hj,e]);rw[q.2.1];exact hK j q.1) with ⟨_,h1⟩|⟨j,e,h1,h2,h3⟩
 .obtain⟨e',h4,h5,_⟩:=he i hi;exact absurd (h5.trans hi2) (h1 e' (List.mem_of_getElem? (by simpa using h4)))
 .obtain⟨q1,q2,q3⟩:=hall j e h2;obtain⟨e',p1,p2,_⟩:=he i hi;have hji:j=i:=by
   have hnd:=hst.2.2;have hjl:=(List.getElem?_eq_some_iff.1 h2).1;have hil:i<es.toList.length:=by simp;omega
   have a1:(es.toList.map (·.key))[j]?=some key:=by rw[WQ,h2];simp[h3]
   have a2:(es.toList.map (·.key))[i]?=some key:=by
    have:es.toList[i]?=some e':=by simpa using p1
    rw[WQ,this];simp[p2,hi2]
   exact (List.getElem?_inj (by simpa using hjl) hnd).1 (a1.trans a2.symm)
  subst hji;have hjs:j<es.size:=by omega
  have hsub:(es.eraseIdxIfInBounds j).toList=es.toList.eraseIdx j:=by unfold Array.eraseIdxIfInBounds;rw[dif_pos hjs];simp
  have hsz:(es.eraseIdxIfInBounds j).size=k-1:=by rw[<- Array.length_toList,hsub,List.length_eraseIdx,if_pos (by simpa using hjs),Array.length_toList,hs]
  refine⟨setBlock w B (.map (es.eraseIdxIfInBounds j) clock),?_,⟨_,_,heap_setBlock_same hb _,stamped_erase hst j,hsz,λm hm=>?_⟩,⟨rfl,rfl,rfl,by simp[setBlock],λi _ hi=>heap_setBlock_other hb _ (λe=>hi (by rw[e]))⟩⟩
  .have h1' : Instr.findNow d key es.toList 0=some (some (j,e.val)):=by rw[h1,WM]
   simp[Builtin.delete_,run_underlying ht,MapKept.run_getObj_map hb,run_checkKey hd hk,run_findKey hd h1',MapKept.run_setObj_map _ hb,Result.andThen,setBlock]
  .have hget:(es.eraseIdxIfInBounds j)[m]?=if m<j then es[m]? else es[m+1]?:=by rw[<- Array.getElem?_toList,hsub,List.getElem?_eraseIdx,Array.getElem?_toList,Array.getElem?_toList]
   by_cases hmj:m<j;.obtain⟨e1,r1,r2,r3⟩:=he m (by omega);exact⟨e1,by rw[hget,if_pos hmj];exact r1,by simp[hmj,r2],by simp[hmj,r3]⟩
   .obtain⟨e1,r1,r2,r3⟩:=he (m+1) (by omega);exact⟨e1,by rw[hget,if_neg hmj];exact r1,by simp[hmj,r2],by simp[hmj,r3]⟩
theorem AP.len (h:AP w B k K V) (ht:Tryz.prog.underlying t=some (.map kt et)) (ty:TypeId):(Builtin.len_ #[t] ty #[.map (some B)]).run Tryz.prog w=.ok (iv k) w:=by obtain⟨es,clock,hb,hst,hs,he⟩:=h;simp[Builtin.len_,run_underlying ht,MapKept.run_getObj_map hb,Result.andThen,hs,goInt]
end
end Go.Proofs.YtacpbofiipdodaaGreat
namespace Go.Proofs.YtacpbofiipdodaaGreat
open Go Go.Deep Go.RowKit
def RS:Nat->Nat->ByteArray->ByteArray
 | 0,_,x=>x
 | f+1,k,x=>if k=0 then x else RS f (k / 10) (strOfNums [48+(k:Int) % 10]++x)
theorem Qp (f:Nat) (x:ByteArray):RS f 0 x=x:=by cases f <;> simp[RS]
theorem Qw {f k:Nat} (x:ByteArray) (hk:0<k) (hf:k<=f):∃f',f=f'+1/\k / 10<=f'/\RS f k x=RS f' (k / 10) (strOfNums [48+(k:Int) % 10]++x):=by
 cases f with
 | zero=>omega
 | succ f=>exact⟨f,rfl,by omega,by rw[RS,if_neg (by omega)]⟩
def Ln (k:Nat):ByteArray:=ByteArray.mk #[109]++RS k k { data:=#[] }
theorem OQ (w:World) (d:Int):(convert 265 9 (.slice (some (ad w.heap.size 0)) 1 1)).run Tryz.prog (w.alloc (.cells #[.int .u8 d] 5))=.ok (.string (strOfNums [d])) (w.alloc (.cells #[.int .u8 d] 5)):=
 run_convert_bytes_arg (w.alloc (.cells #[.int .u8 d] 5)) 265 5 (by kernel_rfl) (by kernel_rfl) w.heap.size 0 1 1 [d] rfl (λi hi=>by
  obtain rfl:i=0:=by omega
  simp) 9 (by kernel_rfl)
theorem FO (k:Nat) (w:World) (hk:1<=k) (hk2:k<=1073741824) :
  WS 105 #[iv k] w (WT w (.string (Ln k))):=by
 have HM:U (Ln k=ByteArray.mk #[109]++RS k k { data:=#[] }):=rfl;generalize hT:Ln k=T at*
 clear hT;generalize hD:RS k k { data:=#[] }=D at*
 have HD:=hid hD;clear hD;have hcv:=OQ;go_enter Tryz.func105,Tryz.ntmps105;go_wp2;go_loopw [0,3] (λq s wr=>∃(j f:Nat) (x:ByteArray),x.size+j<=k/\j<=f/\q=iv j/\s=.string x/\RS f j x=D/\Bl w wr) (λq _ _=>(intOf q).toNat)
 case atStart=>exact⟨k,k,_,by simp[ByteArray.size],Wu _,rfl,rfl,HD.o,Wt _ _⟩
 case round=>
  obtain⟨j,f,x,hj,hf,rfl,rfl,hd,hb⟩:=hrel;have HB:=hid hb;clear hb;by_cases hlt:0<j
  .obtain⟨f',rfl,hf',e⟩:=Qw x hlt hf;have HQ:=hid (e.symm.trans hd);clear hd e;have hs1:¬ 9223372036854775807<(strOfNums [48+(j:Int) % 10]).size+x.size:=by have:(strOfNums [48+(j:Int) % 10]).size=1:=rfl;omega
   have HS:U ((strOfNums [48+(j:Int) % 10]++x).size=x.size+1):=by show _=_;rw[ByteArray.size_append];have:(strOfNums [48+(j:Int) % 10]).size=1:=rfl;omega
   have HE:U (((j / 10:Nat):Int)=(j:Int) / 10):=by show _=_;omega
   go_wp2;go_roundw;case rel=>exact⟨j / 10,f',_,by rw[HS.o];omega,hf',by simp,rfl,HQ.o,HB.o.alloc HB.o.size _⟩
   case measure=>simp[intOf];omega
  .obtain rfl:j=0:=by omega
   have HQ:U (x=D):=by rw[<- hd,Qp];rfl
   have hs1:¬ 9223372036854775807<1+x.size:=by omega
   clear hd;go_wp2;go_ret;exact⟨by rw[HM.o,HQ.o];rfl,HB.o⟩
end Go.Proofs.YtacpbofiipdodaaGreat
