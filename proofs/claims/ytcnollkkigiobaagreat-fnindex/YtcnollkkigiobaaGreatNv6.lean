import Derived.Test.YtcnollkkigiobaaGreatInsL
import Derived.Test.YtcnollkkigiobaaGreatNv5
import Derived.Test.YtcnollkkigiobaaGreatNv4
set_option linter.unusedVariables false
set_option linter.unusedSimpArgs false
set_option maxRecDepth 100000
set_option maxHeartbeats 90000000
namespace Go.Proofs.YtcnollkkigiobaaGreat
open Go Go.Deep Go.RowKit Go.Proofs.Tryz
variable {L:List ByteArray}{k:Nat}{r:Option Nat}{w w1:World}
theorem Eg (w:World) (b i:Nat) (v:Value):w.grownBy (w.setCell (ad b i) v) (some b):=
 ⟨rfl,rfl,rfl,by simp[World.setCell],λk hk a=>Ur _ _ _ _ (λe=>a (by rw[e]))⟩
theorem EP (w:World) (r:Option Nat):w.grownBy w r:=⟨rfl,rfl,rfl,Uq _,λ_ _ _=>rfl⟩
theorem Ao {w2:World} (h:w.grownBy w1 r) (g:w1.grownBy w2 r):w.grownBy w2 r:=
 ⟨g.os.trans h.os,g.tape.trans h.tape,g.output.trans h.output,Uy h.size g.size,λk hk a=>(g.block k (UB hk h.size) a).trans (h.block k hk a)⟩
theorem As (h:Bl w w1):w.grownBy w1 r:=⟨h.os,h.tape,h.output,h.size,λk hk _=>h.block k hk⟩
theorem B9 {B:Nat} {r:Nat} (h:w.grownBy w1 (some r)) (b:B<=w.heap.size) (a:B<=r):Below B w w1:=⟨h.os,h.tape,h.output,h.size,λk hk=>h.block k (by omega) (λe=>by injection e with e;omega)⟩
def Tt (rb b o n c x:Nat) (dep D:Int) (lk:ByteArray) (hk:Bool) (w:World) (e:Ending) (w' : World):Prop:=
 ∃ok,e=.returned (.bool ok)/\w.grownBy w' (some rb)/\w'.heap.size=w.heap.size/\((ok=true/\(D=0\/D=dep)/\DF w' rb b o n c x dep lk hk)\/(ok=false/\¬ (D=0\/D=dep)))
def Tw (rb b o n c x:Nat) (D:Int) (lk:ByteArray) (hk:Bool) (L:List ByteArray) (w:World) (e:Ending) (w' : World):Prop:=
 ∃ok,e=.returned (.bool ok)/\w.grownBy w' (some rb)/\w'.heap.size=w.heap.size/\((ok=true/\∃hk' lk',AW hk lk L hk' lk'/\DF w' rb b o n c x D lk' hk')\/(ok=false/\∀hk' lk',¬ AW hk lk L hk' lk'))
theorem JB (rb b o n c x:Nat) (dep D:Int) (lk:ByteArray) (hk:Bool) (w:World) (h:DF w rb b o n c x D lk hk) (u:0<=dep) :
  UO 154 #[pt rb,iv dep] w (Tt rb b o n c x dep D lk hk w):=by
 have q:=h.cell 2;have s:=h.frozen 2;have t:=h.lt;simp at q;have g:=Ae h;clear h;by_cases a:D=0;.subst a;have p:((0:Int) == 0)=true:=rfl;have l:U (DF (w.setCell (ad rb 2) (iv dep)) rb b o n c x dep lk hk):=g.o.set 2 _;have m:=l.o.cell 2;simp at m;go_enter func154,ntmps154;go_wp2;go_ret;exact⟨true,by simp,Eg _ _ _ _,by simp[World.setCell],.inl ⟨rfl,.inl rfl,l.o⟩⟩
 .have p:(D == 0)=false:=by simpa using a
  by_cases e:D=dep
  .subst e;have f:(D == D)=true:=by simp
   go_enter func154,ntmps154;go_wp2;go_ret;exact⟨true,by simp,EP _ _,rfl,.inl ⟨rfl,.inr rfl,g.o⟩⟩
  .have f:(D == dep)=false:=by simpa using e
   go_enter func154,ntmps154;go_wp2;go_ret;exact⟨false,by simp,EP _ _,rfl,.inr ⟨rfl,λh=>h.elim a e⟩⟩
theorem FY (h:k<L.length):L.take (k+1)=L.take k++[gt L k]:=by rw[<- List.take_append_getElem h];unfold gt;rw[Uw,Ut h];rfl
theorem IK {hk f:Bool} {lk g:ByteArray} (h:AW hk lk (L.take k) f g) (b:k<L.length) (a:¬ ((gt L k).size<=16/\(f=true->Op.bytesLess g.toList (gt L k).toList=true))) (m:Bool) (o:ByteArray):¬ AW hk lk L m o:=by
 intro c;have e:L=L.take k++(gt L k::L.drop (k+1)):=by
  conv=>lhs;rw[<- List.take_append_drop (k+1) L,FY b]
  simp
 rw[e] at c;obtain⟨q,s,p,l⟩:=AW.split c;obtain⟨rfl,rfl⟩:=AW.fn h p;exact a ⟨l.1,l.2.1⟩
theorem KK (rb b o n c x m kc:Nat) (K:Option Addr) (D:Int) (lk:ByteArray) (hk:Bool) (L:List ByteArray) (w:World) (h:DF w rb b o n c x D lk hk) (R:m=L.length) (T:m<=1048576) (P:∀W:World,w.grownBy W (some rb)->Cg W K m (gt L)) :
  UO 155 #[pt rb,.slice K m kc] w (Tw rb b o n c x D lk hk L w):=by
 have HR:=Ae P;have N:=Ae R;have M:=Ae h;clear h R P;go_enter func155,ntmps155;go_wp2;go_loopw [9] (λi wr=>∃(k:Nat) (z:Bool) (p:ByteArray),k<=m/\i=iv k/\w.grownBy wr (some rb)/\wr.heap.size=w.heap.size/\AW hk lk (L.take k) z p/\DF wr rb b o n c x D p z) (λi _=>m-(intOf i).toNat)
 case atStart=>exact⟨0,hk,lk,Us _,rfl,EP _ _,rfl,⟨rfl,rfl⟩,M.o⟩
 case round=>
  obtain⟨k,z,p,Y,rfl,E,A,B,g⟩:=hrel;clear M;have l:=Ae (ai E (ai A (ai B g)));have V:=g.cell 3;have c4:=g.cell 4;have f3:=g.frozen 3;have f4:=g.frozen 4;have hl:=g.lt;simp at V c4;clear E A B g;by_cases G:k<m
  .have s:k<L.length:=by rw[<- N.o];exact G
   rcases HR.o wr l.o.1 with q|⟨bk,ok,rfl,O⟩;.omega
   have s1:=O k G;have aa:(0:Int)<=(k:Int):=by omega
   have Q:(k:Int)<(m:Int):=by omega
   clear O;by_cases C:16<(gt L k).size
   .have v:(16:Int)<((gt L k).size:Int):=by omega
    have F : decide ((16:Int)<((gt L k).size:Int))=true:=decide_eq_true v;have H : decide (16<(gt L k).size)=true:=decide_eq_true C;have t:U (∀u y,¬ AW hk lk L u y):=λu y=>IK l.o.2.2.1 s (λq=>by omega) u y;go_wp2;go_ret;exact⟨false,rfl,l.o.1,l.o.2.1,.inr ⟨rfl,t.o⟩⟩
   .have v:¬ (16:Int)<((gt L k).size:Int):=by omega
    have F : decide ((16:Int)<((gt L k).size:Int))=false:=decide_eq_false v;have H : decide (16<(gt L k).size)=false:=decide_eq_false C;have f:(z=true->Op.bytesLess p.toList (gt L k).toList=true)->U (w.grownBy ((wr.setCell (ad rb 3) (.string (gt L k))).setCell (ad rb 4) (.bool true)) (some rb)/\((wr.setCell (ad rb 3) (.string (gt L k))).setCell (ad rb 4) (.bool true)).heap.size=w.heap.size/\AW hk lk (L.take (k+1)) true (gt L k)/\DF ((wr.setCell (ad rb 3) (.string (gt L k))).setCell (ad rb 4) (.bool true)) rb b o n c x D (gt L k) true):=by intro hp;obtain⟨q1,X,S,q4⟩:=l.o;refine⟨Ao (Ao q1 (Eg _ _ _ _)) (Eg _ _ _ _),by rw[<- X];simp[World.setCell],?_,(q4.set 3 _).set 4 _⟩;rw[FY s];exact AW.app S ⟨by omega,hp,rfl,rfl⟩
    cases z with
    | false=>
     have I:=f (λq=>by cases q);clear f;go_wp2;go_roundw;case rel=>exact⟨k+1,true,gt L k,by omega,by go_num,I.o⟩
     case measure=>simp[intOf];omega
    | true=>
     cases hls:Op.bytesLess p.toList (gt L k).toList with
     | true=>
      have I:=f (λ_=>hls);have a:=Cc p.toList (gt L k).toList;rw[hls] at a;have J:=a;clear f a;go_wp2;go_roundw;case rel=>exact⟨k+1,true,gt L k,by omega,by go_num,I.o⟩
      case measure=>simp[intOf];omega
     | false=>have t:U (∀u y,¬ AW hk lk L u y):=λu y=>IK l.o.2.2.1 s (λq=>by have:=q.2 rfl;rw[hls] at this;cases this) u y;have a:=Cc p.toList (gt L k).toList;rw[hls] at a;have J:=a;clear f a;go_wp2;go_ret;exact⟨false,rfl,l.o.1,l.o.2.1,.inr ⟨rfl,t.o⟩⟩
  .have e:k=m:=by omega
   subst e;have Z:U (L.take k=L):=by show L.take k=L;rw[N.o,UC]
   go_wp2;go_ret;refine⟨true,rfl,l.o.1,l.o.2.1,.inl ⟨rfl,z,p,?_,l.o.2.2.2⟩⟩;have q:=l.o.2.2.1;rw[Z.o] at q;exact q
theorem ET {x:Tn} {t:List ByteArray} (a:x.kn=t.length) (b:∀j,j<t.length->x.ks j=gt t j):t=G8 x:=by
 apply List.ext_getElem?;intro i;by_cases h:i<t.length;.unfold G8;rw[Ut h];have:=b i h;unfold gt at this;rw[Uw,Ut h] at this;simp only[Option.getD_some] at this;simp[a,h,this]
 .rw[List.getElem?_eq_none (by omega),List.getElem?_eq_none (by rw[AI];omega)]
theorem Ot {N:Nat->Tn} {n x:Nat} {dep D:Int} {hk:Bool} {lk:ByteArray} {d:Nat} {t:Ro (d+1)} {D' : Int} {hk' : Bool} {lk' : ByteArray} (b:(N x).lf=true) (h:Cw N n x dep D hk lk (d+1) t D' hk' lk') :
  (N x).kn<=4/\(dep=0\/2<=(N x).kn)/\(N x).dn=0/\(D=0\/D=dep)/\AW hk lk (G8 (N x)) hk' lk'/\(N x).ct=((N x).kn:Int):=by
 rcases t with t|l
 .obtain⟨y,g,p,s,m⟩:=h.tl;obtain⟨u,⟨o,v,a⟩,q⟩:=h.bal;have e:=ET g p;subst o;have f:=h.dd;rw[q] at f;have c:=h.asc;rw[e] at c;refine⟨by omega,?_,s,by simpa using f,c,by rw[m,g]⟩;rcases a with a|a;.exact Or.inl (by simpa using a)
  .exact Or.inr (by omega)
 .have:=h.tl.1;rw[b] at this;cases this
variable {D D' Dk dep:Int}{d n x:Nat}{hk hk' hkk:Bool}{lk lk' lkk:ByteArray}
theorem Oo {l m:List (Ro d)} {k:Nat} (h:l.take k=m.take k):AO d l k=AO d m k:=by unfold AO;rw[h]
theorem Hi {N:Nat->Tn} {y:Nat} (m:∀(t g : Ro d) (x:Nat),Am N 0 d t x->Am N 0 d g x->t=g) {ts l:List (Ro d)} (p:∀j (h:j<ts.length),Am N 0 d ts[j] (y+AO d ts j)) (s:∀j (h:j<l.length),Am N 0 d l[j] (y+AO d l j)) (o:ts.length<=l.length):l.take ts.length=ts:=by
 have a:∀k,k<=ts.length->ts.take k=l.take k:=by
  intro k;induction k with
  | zero=>intro _;simp
  | succ k ih=>
   intro hk;have e:=ih (by omega);have c:k<ts.length:=by omega
   have b:k<l.length:=by omega
   have f:=p k c;have u:=s k b;rw[Oo e] at f;have q:=m _ _ _ f u;rw[<- List.take_append_getElem c,<- List.take_append_getElem b,e,q]
 have:=a ts.length (Uq _);rw[UC] at this;exact this.symm
theorem Dx {N:Nat->Tn}:∀{d:Nat} (t b : Ro d) (x:Nat),Am N 0 d t x->Am N 0 d b x->t=b
 | 0,t,_,_,_,_=>t.elim
 | d+1,.inl t,.inl b,x,h,g=>by
  have e:=ET h.2.1 h.2.2.1
  have f:=ET g.2.1 g.2.2.1
  rw[e,f]
 | d+1,.inl t,.inr l,x,h,g=>by
  have a:=h.1
  rw[g.1] at a
  cases a
 | d+1,.inr l,.inl t,x,h,g=>by
  have a:=h.1
  rw[g.1] at a
  cases a
 | d+1,.inr l,.inr l',x,h,g=>by
  have e:l.length=l'.length:=h.2.1.symm.trans g.2.1
  have q:=Hi (y:=x+1) (λt b x=>Dx t b x) (λj c=>h.2.2.2.2.2.2 j c) (λj c=>g.2.2.2.2.2.2 j c) (by omega)
  rw[e,UC] at q
  rw[q]
theorem Sv {r:Bool} {t:Ro d} {h c:Nat} (a:Aq d r t h) (b:Aq d r t c):h=c:=by have e:=E8 a;have f:=E8 b;omega
theorem BR:∀{d:Nat} {r:Bool} {t:Ro d} {h:Nat},Aq d r t h->PE 4 d t
 | 0,_,t,_,_=>t.elim
 | d+1,r,.inl t,h,hb=>hb.2.1
 | d+1,r,.inr l,h,hb=>by
  obtain⟨_,_,c,_,a⟩:=hb
  exact λt b=>BR (a t b)
structure FG (N:Nat->Tn) (n x:Nat) (dep D:Int) (hk:Bool) (lk:ByteArray) (d:Nat) (ts:List (Ro d)) (Dk:Int) (hkk:Bool) (lkk:ByteArray):Prop where
 le:x+1+(ts.map (Ac d)).sum<=n
 kd:∀j (h:j<ts.length),(N x).kd j=((x+1+AO d ts j:Nat):Int)
 ks:∀j (h:j+1<ts.length),(N x).ks j=gt (Ab d ts[j+1]) 0
 tl:∀j (h:j<ts.length),Am N 0 d ts[j] (x+1+AO d ts j)
 bal:(ts=[]/\Dk=D)\/(ts≠[]/\∃h' : Nat,(∀t,t∈ts->Aq d false t h')/\Dk=dep+1+(h' : Int)/\(D=0\/D=Dk))
 asc:AW hk lk (ts.flatMap (Ab d)) hkk lkk
theorem LO (ts:List (Ro d)) (t:Ro d) (j:Nat) (h:j<=ts.length):AO d (ts++[t]) j=AO d ts j:=by unfold AO;rw[List.take_append_of_le_length h]
theorem FG.more {N:Nat->Tn} {ts:List (Ro d)} (z:0<=dep) (h:FG N n x dep D hk lk d ts Dk hkk lkk) {t:Ro d} (g:Cw N n (x+1+(ts.map (Ac d)).sum) (dep+1) Dk hkk lkk d t D' hk' lk')
  (s:(N x).kd ts.length=((x+1+(ts.map (Ac d)).sum:Nat):Int)) (f:ts.length≠0->(N x).ks (ts.length-1)=gt (Ab d t) 0):FG N n x dep D hk lk d (ts++[t]) D' hk' lk':=by
 have c:=BT d ts;refine⟨?_,λj a=>?_,λj a=>?_,λj a=>?_,Or.inr ⟨by simp,?_⟩,?_⟩;.have:=g.le;rw[List.map_append,List.sum_append];simp;omega
 .rw[Uz] at a;simp at a;rw[LO ts t j (by omega)];by_cases e:j=ts.length;.subst e;rw[c];exact s
  .exact h.kd j (by omega)
 .rw[Uz] at a;simp at a;by_cases e:j+1=ts.length;.have q:=f (by omega);rw[show ts.length-1=j by omega] at q;rw[q];simp[e]
  .rw[List.getElem_append_left (by omega)];exact h.ks j (by omega)
 .rw[Uz] at a;simp at a;rw[LO ts t j (by omega)];by_cases e:j=ts.length;.subst e;rw[c];have q:=g.tl;simpa using q
  .rw[List.getElem_append_left (by omega)];exact h.tl j (by omega)
 .obtain⟨u,y,o⟩:=g.bal;have B:decide (dep+1=0)=false:=decide_eq_false (by omega);rw[B] at y;refine⟨u,λC b=>?_,o,?_⟩
  .rcases List.mem_append.1 b with b|b
   .rcases h.bal with ⟨e,_⟩|⟨_,v,m,p,_⟩;.rw[e] at b;cases b
    .have l:=g.dd;have e:v=u:=by omega
     rw[<- e];exact m C b
   .simp at b;subst b;exact y
  .rcases h.bal with ⟨_,e⟩|⟨_,v,_,p,A⟩;.rw[<- e];exact g.dd
   .have l:=g.dd;omega
 .rw[List.flatMap_append];refine AW.app h.asc ?_;simpa using g.asc
theorem L6 {N:Nat->Tn} {t:Ro (d+1)} (a:(N x).lf=false) (h:Cw N n x dep D hk lk (d+1) t D' hk' lk') :
  ∃l:List (Ro d),t=.inr l/\l.length=(N x).dn/\2<=l.length/\l.length<=4/\(N x).kn+1=l.length/\(N x).ct=((l.flatMap (Ab d)).length:Int):=by
 rcases t with t|l;.have:=h.tl.1;rw[a] at this;cases this
 .obtain⟨s,g,c,f,m,q,p⟩:=h.tl;obtain⟨o,⟨b,e,_⟩,_⟩:=h.bal;exact⟨l,rfl,g.symm,b,e,f,c⟩
theorem Hm {N:Nat->Tn} {l:List (Ro d)} (h:Cw N n x dep D hk lk (d+1) (.inr l) D' hk' lk') {ts:List (Ro d)} (g:FG N n x dep D hk lk d ts Dk hkk lkk) (a:ts.length<=l.length):l.take ts.length=ts:=by obtain⟨q,p,f,o,e,m,b⟩:=h.tl;exact Hi (y:=x+1) (λt c x=>Dx t c x) g.tl b a
theorem FA {N:Nat->Tn} {l:List (Ro d)} (v:0<=dep) (h:Cw N n x dep D hk lk (d+1) (.inr l) D' hk' lk') {ts:List (Ro d)} (g:FG N n x dep D hk lk d ts Dk hkk lkk) (a:ts.length<l.length) :
  (N x).kd ts.length=((x+1+(ts.map (Ac d)).sum:Nat):Int)/\(ts.length≠0->(N x).ks (ts.length-1)=gt (Ab d l[ts.length]) 0)/\∃q s,Cw N n (x+1+(ts.map (Ac d)).sum) (dep+1) Dk hkk lkk d l[ts.length] D' q s:=by
 have o:=Hm h g (by omega);obtain⟨K,T,M,Z,y,C,J⟩:=h.tl;have b:AO d l ts.length=(ts.map (Ac d)).sum:=by unfold AO;rw[o]
 obtain⟨O,⟨U,W,z,S,u⟩,Y⟩:=h.bal;refine⟨?_,λP=>?_,?_⟩;.have:=y ts.length a;rw[b] at this;rw[this];omega
 .have:=C (ts.length-1) (by omega);rw[this];simp only[show ts.length-1+1=ts.length by omega]
 .have I:=CX d l ts.length a;have Q:Ac (d+1) (.inr l)=1+(l.map (Ac d)).sum:=rfl;have c:AW hk lk (l.flatMap (Ab d)) hk' lk':=h.asc;have e:l=l.take ts.length++(l[ts.length]::l.drop (ts.length+1)):=by
   conv=>lhs;rw[<- List.take_append_drop (ts.length+1) l,<- List.take_append_getElem a]
   simp
  rw[e,List.flatMap_append,List.flatMap_cons,o] at c;obtain⟨X,R,B,H⟩:=AW.split c;obtain⟨rfl,rfl⟩:=AW.fn g.asc B;obtain⟨q,s,A,V⟩:=AW.split H;refine⟨q,s,⟨?_,?_,⟨z,?_,by omega⟩,?_,A⟩⟩;.have:=J ts.length a;rw[b] at this;exact this
  .have:=h.le;omega
  .rw[show decide (dep+1=0)=false from decide_eq_false (by omega)];exact u _ (UA a)
  .rcases g.bal with ⟨_,G⟩|⟨t,F,p,E,_⟩;.rw[G];exact h.dd
   .right;have f:=List.length_pos_iff.2 t;have m:ts[0]∈l:=by
     have:ts[0]=(l.take ts.length)[0]'(by rw[o];exact f):=by simp only[o]
     rw[this];exact List.mem_of_mem_take (UA _)
    have:=Sv (p ts[0] (UA f)) (u ts[0] m);omega
variable {ca:Option Addr}{cc nb rb:Nat}{wr:World}{xs:List Value}
theorem info68 : (prog.info? 68).map (λi=>(i.zero,i.size,i.bytes))=some (some .nilIface,1,16):=by kernel_rfl
structure Kg (w wr:World) (rb nb:Nat) (nd:Array Value) (d:Nat) (ts:List (Ro d)) (k:Nat) (ca:Option Addr) (cc:Nat) (xs:List Value):Prop where
 gb:Bx wr w.heap.size 168 nd
 nbx:Bx wr nb 179 #[iv 0,.slice ca k cc]
 lt:w.heap.size<nb
 rlt:rb<w.heap.size
 own:wr.ownsRow (nb+1) 68 1 (.slice ca k cc) k xs
 kids:∀j (h:j<ts.length),∃u,xs[j]?=some u/\FZ (λbb=>nb+1<=bb/\(Value.slice ca k cc).ownBlock≠some bb) wr d ts[j] u
 gr:w.grownBy wr (some rb)
 len:ts.length=k
theorem Kg.read {c:Array Value} {ts:List (Ro d)} (h:Kg w wr rb nb c d ts k ca cc xs) (a:wr.grownBy w1 (some rb)):Kg w w1 rb nb c d ts k ca cc xs:=by
 have p:=h.rlt;have s:=h.lt;refine⟨h.gb.grown a (λe=>by injection e with e;omega),h.nbx.grown a (λe=>by injection e with e;omega),h.lt,h.rlt,h.own.kept a ?_,λj l=>?_,Ao h.gr a,h.len⟩
 .cases e:(Value.slice ca k cc).ownBlock with
  | none=>exact Or.inl rfl
  | some g=>exact Or.inr (λq=>by injection q with q;have:=Ah h.own g e;omega)
 .obtain⟨u,e,m⟩:=h.kids j l;exact⟨u,e,m.mono a.size (λo f b=>⟨f,a.block o b (λq=>by injection q with q;have:=f.1;omega)⟩)⟩
theorem Kg.grow {s:World} {H:Array Value} {ts:List (Ro d)} (h:Kg w wr rb nb H d ts k ca cc xs) (c:wr.grownBy w1 (some rb)) {t:Ro d} {v:Value} (P:FZ (λa=>wr.heap.size<=a) w1 d t v) {O:Obj} (f:(w1.alloc O).grownBy s (Value.slice ca k cc).ownBlock) {a':Option Addr} {c':Nat}
  (M:s.ownsRow (nb+1) 68 1 (.slice a' (k+1) c') (k+1) (xs++[v])) (z:(Value.slice a' (k+1) c').ownBlock=(Value.slice ca k cc).ownBlock\/(Value.slice a' (k+1) c').ownBlock=some (w1.alloc O).heap.size) :
  Kg w (s.setCell (ad nb 1) (.slice a' (k+1) c')) rb nb H d (ts++[t]) (k+1) a' c' (xs++[v]):=by
 have T:=h.rlt;have S:=h.lt;have B:=h.read c;have o:=Ah h.own;have R:=c.size;have U:=f.size;have N:=h.nbx.lt;have J:(w1.alloc O).heap.size=w1.heap.size+1:=by simp
 have p:∀g,g<nb+1->(Value.slice ca k cc).ownBlock≠some g:=λg f e=>by have:=o g e;omega
 have m:∀a,a<w1.heap.size->(Value.slice ca k cc).ownBlock≠some a->a≠nb->(s.setCell (ad nb 1) (.slice a' (k+1) c')).heap[a]?=w1.heap[a]?:=λa b E C=>by rw[Ur _ _ _ _ (show a≠nb from C),f.block a (by omega) (λe=>E e.symm),Below.heap_alloc _ _ _ b]
 have l:(s.setCell (ad nb 1) (.slice a' (k+1) c')).heap.size=s.heap.size:=by simp[World.setCell]
 refine⟨((B.gb.alloc _).grown f (p _ (by omega))).other (by simp;omega) _,((B.nbx.alloc _).grown f (p _ (by omega))).set 1 _,h.lt,h.rlt,AC M _ _ (by simp),λj G=>?_,?_,by rw[Uz,h.len];rfl⟩
 .rw[Uz] at G;simp at G;have y:xs.length=k:=by have:=h.own.1;omega
  by_cases e:j=ts.length
  .subst e;refine⟨v,by rw[h.len,List.getElem?_append_right (by omega),y];simp,?_⟩;rw[List.getElem_append_right (by omega)];simp only[Nat.sub_self,List.getElem_cons_zero];refine P.mono (by rw[l];omega) (λa A b=>⟨⟨by omega,?_⟩,m a b (λe=>by have:=o a e;omega) (by omega)⟩);rcases z with e|e;.rw[e];exact λe=>by have:=o a e;omega
   .rw[e];intro q;injection q with q;omega
  .obtain⟨u,K,F⟩:=B.kids j (by omega);refine⟨u,by rw[List.getElem?_append_left (by rw[y,<- h.len];omega)];exact K,?_⟩;rw[List.getElem_append_left (by omega)];refine F.mono (by rw[l];omega) (λa A b=>⟨⟨A.1,?_⟩,m a b A.2 (by have:=A.1;omega)⟩);rcases z with e|e;.rw[e];exact A.2
   .rw[e];intro q;injection q with q;omega
 .have I:=h.gr.size;refine⟨?_,?_,?_,by rw[l];omega,λa b Q=>?_⟩;.exact (f.os.trans (c.os.trans h.gr.os))
  .exact (f.tape.trans (c.tape.trans h.gr.tape))
  .exact (f.output.trans (c.output.trans h.gr.output))
  .rw[m a (by omega) (p a (by omega)) (by omega)];exact B.gr.block a b Q
theorem CU {S:Nat->Prop} {h:Nat}:∀{d:Nat} {t:Ro d} {v:Value},FZ S w d t v->Aq d false t h->
  (∃p,v=.iface 204 (.pointer (some p))/\∀W:World,Bl w W->UO 205 #[.pointer (some p)] W λe f=>e=.returned (.string (gt (Ab d t) 0))/\f=W)\/
  (∃p,v=.iface 174 (.pointer (some p))/\∀W:World,Bl w W->UO 188 #[.pointer (some p)] W λe f=>e=.returned (.string (gt (Ab d t) 0))/\f=W)
 | 0,_,_,h,_=>h.elim
 | d+1,.inl t,v,ht,hb=>by
  obtain⟨b,q,o,rfl,_,u,y⟩:=ht
  exact Or.inl ⟨_,rfl,λW c=>C0 b t.length o q _ (gt t) W (u.below c) (y.rdS.below c) (DI hb)⟩
 | d+1,.inr l,v,ht,hb=>by
  have m:=ht
  obtain⟨b,g,o,xs,rfl,_⟩:=m
  obtain⟨_,_,s,_,a⟩:=hb
  exact Or.inr ⟨_,rfl,λW c=>IB d l S b s W (ht.below c) a⟩
theorem F2 {S T:Type} (f:S->List ByteArray) (g:T->List ByteArray):∀(l:List S) (m:List T),l.length=m.length->(∀k (h:k<l.length) (h' : k<m.length),f l[k]=g m[k])->l.flatMap f=m.flatMap g
 | [],[],_,_=>rfl
 | [],_::_,h,_=>by simp at h
 | _::_,[],h,_=>by simp at h
 | a::l,b::m,h,hf=>by
  rw[List.flatMap_cons,List.flatMap_cons]
  have c:=hf 0 (by simp) (by simp)
  simp only[List.getElem_cons_zero] at c
  rw[c,F2 f g l m (by simpa using h) (λk hk hk'=>by
   have:=hf (k+1) (by simpa using hk) (by simpa using hk')
   simpa using this)]
theorem G7 {d d' : Nat} {l:List (Ro d)} {m:List (Ro d')} (h:∀j (h:j<l.length) (h' : j<m.length),Ac d l[j]=Ac d' m[j]):∀k,k<=l.length->k<=m.length->AO d l k=AO d' m k
 | 0,_,_=>by rw[CA,CA]
 | k+1,h1,h2=>by
  rw[Bc d l k (by omega),Bc d' m k (by omega),G7 h k (by omega) (by omega),h k (by omega) (by omega)]
theorem EQ {N:Nat->Tn} {n:Nat}:∀{d' d:Nat} {root:Bool} {t:Ro d} {h x:Nat},Am N 0 d t x->x+Ac d t<=n->Aq d root t h->h<d'->
  ∃m : Ro d',AV N n d' x=some (m,x+Ac d t)/\Ab d' m=Ab d t/\Ac d' m=Ac d t/\Aq d' root m h/\Am N 0 d' m x
 | 0,_,_,_,h,_,_,_,_,hd=>by omega
 | d'+1,0,root,t,h,x,p,hn,hb,hd=>t.elim
 | d'+1,d+1,root,.inl t,h,x,p,hn,hb,hd=>by
  have F:Ac (d+1) (.inl t)=1:=rfl
  have C:=p
  obtain⟨u,y,A,H,z⟩:=p
  have e:=ET y A
  refine⟨.inl t,?_,rfl,rfl,hb,C⟩
  unfold AV
  rw[if_pos (by omega),if_pos u,if_pos H,F,<- e]
 | d'+1,d+1,root,.inr l,h,x,p,hn,hb,hd=>by
  have F:Ac (d+1) (.inr l)=1+(l.map (Ac d)).sum:=rfl
  obtain⟨u,y,A,H,z,J,S⟩:=p
  obtain⟨T,U,v,rfl,K⟩:=hb
  have B:∀k,k<=l.length->∃a:List (Ro d'),Cj (AV N n d') (N x).kd (x+1) k=some (a,x+1+AO d l k)/\a.length=k/\∀j (h:j<a.length) (h2:j<l.length),Ab d' a[j]=Ab d l[j]/\Ac d' a[j]=Ac d l[j]/\Aq d' false a[j] v/\Am N 0 d' a[j] (x+1+AO d l j):=by
   intro k
   induction k with
   | zero=>
    intro _
    exact⟨[],by rw[CA];rfl,rfl,λj q=>absurd q (Uu _)⟩
   | succ k ih=>
    intro hk
    obtain⟨a,E,o,g⟩:=ih (by omega)
    have b:k<l.length:=by omega
    have R:=CX d l k b
    obtain⟨m,I,P,Q,M,O⟩:=EQ (n:=n) (d':=d') (S k b) (by omega) (K _ (UA b)) (by omega)
    refine⟨a++[m],?_,by rw[Uz,o];rfl,λj q G=>?_⟩
    .unfold Cj
     rw[E]
     simp only
     rw[if_pos (by rw[z k b];omega),I]
     simp only
     rw[Bc d l k b]
     rw[show x+1+AO d l k+Ac d l[k]=x+1+(AO d l k+Ac d l[k]) by omega]
    .rw[Uz] at q
     simp at q
     by_cases e:j=k
     .subst e
      rw[List.getElem_append_right (by omega)]
      simp only[o,Nat.sub_self,List.getElem_cons_zero]
      exact⟨P,Q,M,O⟩
     .rw[List.getElem_append_left (by omega)]
      exact g j (by omega) G
  obtain⟨a,E,o,g⟩:=B l.length (Uq _)
  have c:∀k,k<=l.length->AO d' a k=AO d l k:=λk hk=>G7 (λj h v=>(g j h v).2.1) k (by omega) hk
  have s:(a.map (Ac d')).sum=(l.map (Ac d)).sum:=by
   have:=c l.length (Uq _)
   rw[BT,<- o,BT] at this
   exact this
  have f:a.flatMap (Ab d')=l.flatMap (Ab d):=F2 _ _ a l o (λk hk hk'=>(g k hk hk').1)
  refine⟨.inr a,?_,f,?_,⟨by omega,by omega,v,rfl,λt p=>?_⟩,?_⟩
  .unfold AV
   rw[if_pos (by omega),if_neg (by rw[u];simp),if_neg (by omega),y,E]
   simp only
   rw[BT,F]
   rw[show x+1+(l.map (Ac d)).sum=x+(1+(l.map (Ac d)).sum) by omega]
  .show 1+(a.map (Ac d')).sum=1+(l.map (Ac d)).sum
   rw[s]
  .obtain⟨j,q,rfl⟩:=List.getElem_of_mem p
   exact (g j q (by omega)).2.2.1
  .refine⟨u,by rw[y,o],by rw[A,f],by rw[H,o],λk hk=>?_,λk hk=>?_,λk hk=>?_⟩
   .rw[c k (by omega)]
    exact z k (by omega)
   .rw[(g (k+1) hk (by omega)).1]
    exact J k (by omega)
   .rw[c k (by omega)]
    exact (g k hk (by omega)).2.2.2
theorem GB:∀(L:List ByteArray) (hk:Bool) (lk:ByteArray),(∀i,i<L.length->(gt L i).size<=16/\(0<i->Op.bytesLess (gt L (i-1)).toList (gt L i).toList=true))->(hk=true->0<L.length->Op.bytesLess lk.toList (gt L 0).toList=true)->∃hk' lk',AW hk lk L hk' lk'
 | [],hk,lk,_,_=>⟨hk,lk,rfl,rfl⟩
 | k::L,hk,lk,h,h0=>by
  obtain⟨hk',lk',q⟩:=GB L true k (λi a=>by
   have:=h (i+1) (by simpa using a)
   refine⟨by simpa[gt] using this.1,λc=>?_⟩
   have:=this.2 (by omega)
   rw[show i+1-1=(i-1)+1 by omega] at this
   simpa[gt] using this) (λ_ b=>by
   have:=(h 1 (by simpa using b)).2 (by omega)
   simpa[gt] using this)
  exact⟨hk',lk',by simpa[gt] using (h 0 (by simp)).1,λe=>by simpa[gt] using h0 e (by simp),q⟩
theorem GE:∀(L:List ByteArray) (hk:Bool) (lk:ByteArray) {hk' : Bool} {lk' : ByteArray},AW hk lk L hk' lk'->(∀i,i<L.length->(gt L i).size<=16/\(0<i->Op.bytesLess (gt L (i-1)).toList (gt L i).toList=true))/\(hk=true->0<L.length->Op.bytesLess lk.toList (gt L 0).toList=true)
 | [],hk,lk,_,_,_=>⟨λi b=>absurd b (Uu _),λ_ h=>absurd h (Nat.lt_irrefl _)⟩
 | k::L,hk,lk,hk',lk',h=>by
  obtain⟨c,f⟩:=GE L true k h.2.2
  refine⟨λi b=>?_,λe _=>by simpa[gt] using h.2.1 e⟩
  cases i with
  | zero=>exact⟨by simpa[gt] using h.1,λh=>absurd h (Nat.lt_irrefl _)⟩
  | succ i=>
   have a:i<L.length:=by simpa using b
   refine⟨by simpa[gt] using (c i a).1,λ_=>?_⟩
   cases i with
   | zero=>
    have:=f rfl a
    simpa[gt] using this
   | succ i=>
    have:=(c (i+1) a).2 (by omega)
    simpa[gt] using this
theorem Ry {N:Nat->Tn} {t:Ro d} {D':Int} {hk':Bool} {lk':ByteArray} (o:n<=5000) (h:Cw N n 0 0 0 false { data:=#[] } d t D' hk' lk') (m:Ac d t=n):∃a,BE n N a/\Ab 21 a=Ab d t:=by obtain⟨l,c,_⟩:=h.bal;have b:=c.low (by omega);obtain⟨a,f,e,q,p,g⟩:=EQ (n:=n) (d':=21) h.tl (by omega) c (by omega);rw[m] at f;have s:=Dj d t;refine⟨a,⟨by omega,o,by simpa using f,⟨l,by simpa using p⟩,?_,g⟩,e⟩;rw[e];exact (GE _ _ _ h.asc).1
theorem Nt {N:Nat->Tn} {t':Ro 21} (h:BE n N t') (A:n<=d):∃(t:Ro d) (D' : Int) (hk' : Bool) (lk' : ByteArray),Cw N n 0 0 0 false { data:=#[] } d t D' hk' lk'/\Ac d t=n:=by obtain⟨z,y,p,⟨a,f⟩,u,l⟩:=h;have c:=BJ p;have b:=f.nodes;have m:a<2 ^ a:=Nat.lt_two_pow_self;obtain⟨t,B,s,v,q,g⟩:=EQ (n:=n) (d':=d) l (by omega) f (by omega);obtain⟨hk',lk',o⟩:=GB (Ab d t) false { data:=#[] } (by rw[s];exact u) (λe=>by cases e);exact⟨t,(a:Int),hk',lk',⟨g,by omega,⟨a,by simpa using q,by simp⟩,.inl rfl,o⟩,by omega⟩
variable {i:Nat}
def BI (L:List ByteArray):Prop:=L.Pairwise (λa b=>Op.bytesLess a.toList b.toList=true)
def Bs (key:ByteArray) (L:List ByteArray):Nat:=(L.filter (λk=>Op.bytesLess k.toList key.toList)).length
theorem Bz (h:Kc L L.length):BI L:=by unfold BI;rw[List.pairwise_iff_getElem];intro i j c b a;have q:=KO (X:=gt L) (k:=L.length) (λm f e=>(h m f).2 e) j b i a;unfold gt at q;rw[Uw,Uw,Ut c,Ut b] at q;exact q
theorem E2 (key:ByteArray) (L M:List ByteArray):Bs key (L++M)=Bs key L+Bs key M:=by unfold Bs;rw[List.filter_append,Uz]
theorem Id {key:ByteArray} (h:∀k,k∈L->Op.bytesLess k.toList key.toList=true):Bs key L=L.length:=by unfold Bs;rw[List.filter_eq_self.2 h]
theorem Fm {key:ByteArray} (h:∀k,k∈L->Op.bytesLess k.toList key.toList=false):Bs key L=0:=by unfold Bs;rw[List.length_eq_zero_iff,List.filter_eq_nil_iff];intro k hk;rw[h k hk];simp
theorem Hu {key:ByteArray} (hi:i<=L.length) (b:∀j,j<i->Op.bytesLess (gt L j).toList key.toList=true) (c:∀j,i<=j->j<L.length->Op.bytesLess (gt L j).toList key.toList=false):Bs key L=i:=by
 rw[<- List.take_append_drop i L,E2,Id,Fm,UE];.omega
 .intro k hk;obtain⟨j,a,rfl⟩:=List.getElem_of_mem hk;rw[List.length_drop] at a;have q:=c (i+j) (by omega) (by omega);unfold gt at q;rw[Uw,Ut (by omega)] at q;rw[List.getElem_drop];exact q
 .intro k hk;obtain⟨j,a,rfl⟩:=List.getElem_of_mem hk;rw[UE] at a;have q:=b j (by omega);unfold gt at q;rw[Uw,Ut (by omega)] at q;rw[List.getElem_take];exact q
theorem Cu (h:i<L.length):gt L i∈L:=by unfold gt;rw[Uw,Ut h];exact UA h
theorem D4 (h:BI L) {j:Nat} (a:i<j) (b:j<L.length):Op.bytesLess (gt L i).toList (gt L j).toList=true:=by have q:=List.pairwise_iff_getElem.1 h i j (by omega) b a;unfold gt;rw[Uw,Uw,Ut (by omega),Ut b];exact q
theorem CV {a b:List UInt8} (h:Op.bytesLess a b=true):Op.bytesLess b a=false:=by
 cases e:Op.bytesLess b a with
 | false=>rfl
 | true=>have:=AY _ _ _ h e;rw[A4] at this;cases this
theorem CZ {x y z:List UInt8} (h:Op.bytesLess x y=true) (a:Op.bytesLess z y=false):Op.bytesLess x z=true:=by
 have t:=Cc y z;cases e:Op.bytesLess y z with
 | true=>exact AY _ _ _ h e
 | false=>rw[a,e] at t;simp at t;rw[t];exact h
theorem Qa {l:List (Ro d)} {key:ByteArray} (hi:i<l.length) (c:BI (l.flatMap (Ab d))) (q:∀k (h:k<l.length),0<(Ab d l[k]).length) (z:0<i->Op.bytesLess key.toList (gt (Ab d l[i]) 0).toList=false) (u:∀h:i+1<l.length,Op.bytesLess key.toList (gt (Ab d l[i+1]) 0).toList=true) :
  Bs key (l.flatMap (Ab d))=((l.take i).flatMap (Ab d)).length+Bs key (Ab d l[i]):=by
 have e:l=l.take i++(l[i]::l.drop (i+1)):=by
  conv=>lhs;rw[<- List.take_append_drop (i+1) l,<- List.take_append_getElem hi]
  simp
 have s:l.flatMap (Ab d)=(l.take i).flatMap (Ab d)++(Ab d l[i]++(l.drop (i+1)).flatMap (Ab d)):=by
  conv=>lhs;rw[e]
  rw[List.flatMap_append,List.flatMap_cons]
 rw[s] at c ⊢;unfold BI at c;rw[List.pairwise_append] at c;obtain⟨_,b,g⟩:=c;rw[List.pairwise_append] at b;obtain⟨_,a,E⟩:=b;rw[E2,E2,Id,Fm (L:=(l.drop (i+1)).flatMap (Ab d))];.rfl
 .intro k hk;by_cases m:i+1<l.length
  .have o:=u m;have B:=List.drop_eq_getElem_cons m;rw[B,List.flatMap_cons] at hk a;rw[List.pairwise_append] at a;obtain⟨C,_,t⟩:=a;have p:=Cu (q (i+1) m);rcases List.mem_append.1 hk with hk|hk
   .obtain⟨j,f,rfl⟩:=List.getElem_of_mem hk;by_cases A:j=0
    .subst A;have:(Ab d l[i+1])[0]=gt (Ab d l[i+1]) 0:=by unfold gt;rw[Uw,Ut f];rfl
     rw[this];exact CV o
    .have:=D4 C (show 0<j by omega) f;have y:(Ab d l[i+1])[j]=gt (Ab d l[i+1]) j:=by unfold gt;rw[Uw,Ut f];rfl
     rw[y];exact CV (AY _ _ _ o this)
   .exact CV (AY _ _ _ o (t _ p _ hk))
  .rw[List.drop_eq_nil_of_le (by omega)] at hk;simp at hk
 .intro k hk;by_cases v:0<i;.have p:=Cu (q i hi);have:=g k hk (gt (Ab d l[i]) 0) (List.mem_append_left _ p);exact CZ this (z v)
  .have:i=0:=by omega
   subst this;simp at hk
theorem Ca {l:List (Ro d)} (a:BI (l.flatMap (Ab d))) (i:Nat) (hi:i<l.length):BI (Ab d l[i]):=by
 have e:l=l.take i++(l[i]::l.drop (i+1)):=by
  conv=>lhs;rw[<- List.take_append_drop (i+1) l,<- List.take_append_getElem hi]
  simp
 rw[e,List.flatMap_append,List.flatMap_cons] at a;unfold BI at a ⊢;rw[List.pairwise_append] at a;have:=a.2.1;rw[List.pairwise_append] at this;exact this.1
end Go.Proofs.YtcnollkkigiobaaGreat
namespace Go.Proofs.YtcnollkkigiobaaGreat
open Go Go.Proofs.Tryz
variable {d i j:Nat}
def Be (key:ByteArray) (L:List ByteArray):List ByteArray:=L.take (Bs key L)++key::L.drop (Bs key L)
def Eo {T:Type} (L:List T):List (List T):=if L.length<=4 then [L] else [L.take 3,L.drop 3]
def Cf {d:Nat} (l:List (Ro d)) (key:ByteArray) (i:Nat):Prop:=
 i<l.length/\(∀h:i<l.length,0<i->Op.bytesLess key.toList (gt (Ab d l[i]) 0).toList=false)/\(∀h:i+1<l.length,Op.bytesLess key.toList (gt (Ab d l[i+1]) 0).toList=true)
def Bt (key:ByteArray):(d:Nat)->Ro d->List (Ro d)->Prop
 | 0,t,_=>t.elim
 | d+1,.inl ks,r=>r=(Eo (Be key ks)).map Sum.inl
 | d+1,.inr l,r=>∃i,Cf l key i/\∃(h:i<l.length) (r' : List (Ro d)),Bt key d l[i] r'/\r=(Eo (l.take i++r'++l.drop (i+1))).map Sum.inr
theorem Fg (key:ByteArray) (d:Nat) (a:List ByteArray) (r:List (Ro (d+1))):Bt key (d+1) (.inl a) r=(r=(Eo (Be key a)).map Sum.inl):=rfl
theorem E9 (key:ByteArray) (d:Nat) (l:List (Ro d)) (r:List (Ro (d+1))):Bt key (d+1) (.inr l) r=∃i,Cf l key i/\∃(h:i<l.length) (r' : List (Ro d)),Bt key d l[i] r'/\r=(Eo (l.take i++r'++l.drop (i+1))).map Sum.inr:=rfl
theorem P5 {l:List (Ro d)} (a:BI (l.flatMap (Ab d))) (e:∀k (h:k<l.length),0<(Ab d l[k]).length) (b:i<j) (c:j<l.length):Op.bytesLess (gt (Ab d (l[i]'(by omega))) 0).toList (gt (Ab d l[j]) 0).toList=true:=by unfold BI at a;rw[List.pairwise_flatMap] at a;have q:=(List.pairwise_iff_getElem.1 a.2) i j (by omega) c b;exact q _ (Cu (e i (by omega))) _ (Cu (e j c))
theorem Cf.fn {l:List (Ro d)} {key:ByteArray} (o:BI (l.flatMap (Ab d))) (p:∀k (h:k<l.length),0<(Ab d l[k]).length) (c:Cf l key i) (b:Cf l key j):i=j:=by
 have a:∀{i j:Nat},Cf l key i->Cf l key j->¬ i<j:=by
  intro i j c b q;have g:=c.2.2 (by have:=b.1;omega);have f:=b.2.1 b.1 (by omega);by_cases e:i+1=j;.subst e;rw[g] at f;cases f
  .have m:=P5 o p (show i+1<j by omega) b.1;rw[AY _ _ _ g m] at f;cases f
 have t:=a c b;have s:=a b c;omega
theorem CJ:∀{d:Nat} {t:Ro d} {h:Nat},Aq d false t h->0<(Ab d t).length
 | 0,t,h,hb=>t.elim
 | d+1,.inl t,h,hb=>by
  obtain⟨_,_,q⟩:=hb
  show 0<t.length
  rcases q with q|q
  .cases q
  .omega
 | d+1,.inr l,h,hb=>by
  obtain⟨b,_,c,_,a⟩:=hb
  show 0<(l.flatMap (Ab d)).length
  match l,b,a with
  | t::l',_,a=>
   have:=CJ (a t (by simp))
   rw[List.flatMap_cons,Uz]
   omega
theorem Bt.fn {key:ByteArray}:∀{d:Nat} {t:Ro d} {root:Bool} {h:Nat} {r r' : List (Ro d)},Aq d root t h->BI (Ab d t)->Bt key d t r->Bt key d t r'->r=r'
 | 0,t,_,_,_,_,_,_,_,_=>t.elim
 | d+1,.inl ks,root,h,r,r',hb,ha,h1,h2=>by
  rw[Fg] at h1 h2
  rw[h1,h2]
 | d+1,.inr l,root,h,r,r',hb,ha,h1,h2=>by
  obtain⟨_,_,q,_,a⟩:=hb
  rw[E9] at h1 h2
  obtain⟨i,o,c,s,m,rfl⟩:=h1
  obtain⟨j,g,p,u,f,rfl⟩:=h2
  have b : BI (l.flatMap (Ab d)):=ha
  have e:i=j:=Cf.fn b (λk hk=>CJ (a _ (UA hk))) o g
  subst e
  rw[Bt.fn (a _ (UA c)) (Ca b i c) m f]
theorem GM {T:Type} {L:List T} (h:L.length<=4):Eo L=[L]:=by unfold Eo;rw[if_pos h]
theorem Gc {T:Type} {L:List T} (h:¬ L.length<=4):Eo L=[L.take 3,L.drop 3]:=by unfold Eo;rw[if_neg h]
theorem Bw (key:ByteArray) (L:List ByteArray):(Be key L).length=L.length+1:=by unfold Be;rw[Uz,UJ,UE,List.length_drop];have:Bs key L<=L.length:=List.length_filter_le _ _;omega
theorem Bt.bal {key:ByteArray}:∀{d:Nat} {t:Ro d} {root:Bool} {h:Nat} {r:List (Ro d)},Aq d root t h->Bt key d t r->
  (∃y,r=[y]/\Aq d root y h)\/(∃y z,r=[y,z]/\Aq d false y h/\Aq d false z h)
 | 0,t,_,_,_,_,_=>t.elim
 | d+1,.inl ks,root,h,r,hb,h1=>by
  obtain⟨rfl,C,m⟩:=hb
  rw[Fg] at h1
  have G:=Bw key ks
  by_cases e:(Be key ks).length<=4
  .rw[GM e] at h1
   refine .inl ⟨.inl (Be key ks),h1,rfl,e,?_⟩
   rcases m with m|m
   .exact .inl m
   .exact .inr (by omega)
  .rw[Gc e] at h1
   refine .inr ⟨.inl ((Be key ks).take 3),.inl ((Be key ks).drop 3),h1,⟨rfl,?_,.inr ?_⟩,⟨rfl,?_,.inr ?_⟩⟩
   .rw[UE];omega
   .rw[UE];omega
   .rw[List.length_drop];omega
   .rw[List.length_drop];omega
 | d+1,.inr l,root,h,r,hb,h1=>by
  obtain⟨E,C,g,rfl,c⟩:=hb
  rw[E9] at h1
  obtain⟨i,F,A,s,v,rfl⟩:=h1
  have q:=Bt.bal (c _ (UA A)) v
  have p:(s.length=1\/s.length=2)/\∀t,t∈s->Aq d false t g:=by
   rcases q with ⟨y,rfl,o⟩|⟨y,z,rfl,o,B⟩
   .exact⟨.inl rfl,λt a=>by simp at a;subst a;exact o⟩
   .refine⟨.inr rfl,λt a=>?_⟩
    simp at a
    rcases a with rfl|rfl
    .exact o
    .exact B
  have f:(l.take i++s++l.drop (i+1)).length=l.length-1+s.length:=by
   rw[Uz,Uz,UE,List.length_drop]
   omega
  have b:∀t,t∈l.take i++s++l.drop (i+1)->Aq d false t g:=by
   intro t a
   rw[List.mem_append,List.mem_append] at a
   rcases a with (a|a)|a
   .exact c t (List.mem_of_mem_take a)
   .exact p.2 t a
   .exact c t (List.mem_of_mem_drop a)
  have u:=p.1
  generalize l.take i++s++l.drop (i+1)=M at f b ⊢
  by_cases e:M.length<=4
  .rw[GM e]
   exact .inl ⟨.inr M,rfl,by omega,e,g,rfl,b⟩
  .rw[Gc e]
   refine .inr ⟨.inr (M.take 3),.inr (M.drop 3),rfl,⟨?_,?_,g,rfl,λt a=>b t (List.mem_of_mem_take a)⟩,⟨?_,?_,g,rfl,λt a=>b t (List.mem_of_mem_drop a)⟩⟩
   .rw[UE];omega
   .rw[UE];omega
   .rw[List.length_drop];omega
   .rw[List.length_drop];omega
end Go.Proofs.YtcnollkkigiobaaGreat
namespace Go.Proofs.YtcnollkkigiobaaGreat
open Go Go.Deep Go.RowKit Go.Proofs.Tryz
def Gr {d:Nat} (l:List (Ro d)) (k:Nat):ByteArray:=match l[k]? with
 | some t=>gt (Ab d t) 0
 | none=>{ data:=#[] }
theorem Fp {d:Nat} {l:List (Ro d)} {k:Nat} (h:k<l.length):Gr l k=gt (Ab d l[k]) 0:=by unfold Gr;rw[Ut h]
theorem JH (d:Nat) (l:List (Ro d)) (v:Value) (key:ByteArray) (w:World) (hv:NA w (d+1) (.inr l) v) (hp:∀k (h:k<l.length),0<(Ab d l[k]).length) (H:Ac (d+1) (.inr l)<=5000) (z:∀k (h:k<l.length),(Ab d l[k]).length<=1099511627776) :
  UO 115 #[v,.string key] w λe w'=>∃i:Nat,e=.returned (iv (i:Int))/\Cf l key i/\Bl w w':=by
 obtain⟨t,s,b,cc,xs,rfl,_,hb,aa,hx,hk⟩:=hv;have N:U (∀W:World,Bl w W->∀k (h:k<l.length),∃V t R s ca Q cc,W.cell? (ad b (k*3))=some (.bool V)/\W.cell? (ad b (k*3+1))=some (.slice t R s)/\W.cell? (ad b (k*3+2))=some (.slice ca Q cc)/\NA W d l[k] (.agg #[.bool V,.slice t R s,.slice ca Q cc])):=by intro W T k h;obtain⟨V,t,R,s,ca,Q,cc,h0,F,X,h3⟩:=E3 hx hk k h;exact⟨V,t,R,s,ca,Q,cc,(T.cell (p:=⟨b,_,none⟩) hb).trans h0,(T.cell (p:=⟨b,_,none⟩) hb).trans F,(T.cell (p:=⟨b,_,none⟩) hb).trans X,NA.below h3 T⟩
 have f:U ((∀k (h:k<l.length),Ac d l[k]<=5000)/\(∀k (h:k<l.length),(Ab d l[k]).length<=1099511627776)/\∀k (h:k<l.length),0<(Ab d l[k]).length):=⟨λk h=>by have:=EM d l k h;omega,z,hp⟩;have M:l.length<=5000:=by have:=Gj d l;omega
 obtain⟨c,E⟩:∃c,c=l.length:=⟨_,rfl⟩;rw[<- E] at aa M ⊢;have K:=Ae E;clear H z hp hx hk E;go_enter func115,ntmps115;go_upto_region 3 with fail
 have S:U (Bx (w.alloc (.cells #[.bool false,.slice t 0 s,.slice (some (ad b 0)) c cc] 91)) w.heap.size 91 #[.bool false,.slice t 0 s,.slice (some (ad b 0)) c cc]/\Bl w (w.alloc (.cells #[.bool false,.slice t 0 s,.slice (some (ad b 0)) c cc] 91))):=⟨Bx.new _ _ _,Aa _ _⟩;generalize (w.alloc (.cells #[.bool false,.slice t 0 s,.slice (some (ad b 0)) c cc] 91))=W at S ⊢;go_loopw [5,6] (λq i wr=>∃k p:Nat,k<=c/\1<=k/\i=iv k/\q=iv p/\p<k/\(0<p->Op.bytesLess key.toList (Gr l p).toList=false)/\(∀j,p<j->j<k->Op.bytesLess key.toList (Gr l j).toList=true)/\Bx wr w.heap.size 91 #[.bool false,.slice t 0 s,.slice (some (ad b 0)) c cc]/\Bl w wr) (λ_ i _=>c-(intOf i).toNat)
 case atStart=>exact⟨1,0,by omega,by omega,rfl,rfl,by omega,λh=>absurd h (by omega),λj F X=>absurd F (by omega),S.o.1,S.o.2⟩
 case round=>
  obtain⟨k,p,hk,ao,rfl,rfl,ag,G,O,u,A⟩:=hrel;clear S;have y:=Ae (ai G (ai O (ai u A)));have y2:=u.cell 2;simp at y2;have hz:=u.lt;clear u A G O;by_cases Z:k<c
  .have g:k<l.length:=by rw[<- K.o];exact Z
   obtain⟨ar,al,am,af,aj,ak,ap,c0,c1,c2,I⟩:=N.o wr y.o.2.2.2 k g;have P:=Ae I;have HK:=Ae (Es d l[k] _ wr P.o (f.o.1 k g) (f.o.2.1 k g));have an:(0:Int)<=(k:Int):=by omega
   have ah:(k:Int)<(c:Int):=by omega
   clear I;go_wp2_with fail
   refine HK.o.mono ?_;rintro e w1 ⟨a1,ae,rfl,ab,C,_,_⟩;have B:=f.o.2.2 k g;obtain⟨g1,rfl,_,J⟩:=ab.resolve_left (by omega);have s1:=J.cell B;have hf:=Fp g;rw[<- hf] at s1;have HB:=Ae (ai (y.o.2.2.1.below C) (y.o.2.2.2.trans (C.mono y.o.2.2.2.size)));generalize (Ab d l[k]).length=m at B s1 ⊢;have aq:(0:Int)<(m:Int):=by omega
   have a:=Cc key.toList (Gr l k).toList;clear J C c0 c1 c2 y2 HK P hf;cases hl:Op.bytesLess key.toList (Gr l k).toList with
   | true=>
    rw[hl] at a;have ac:=a;have Y:U (∀j,p<j->j<k+1->Op.bytesLess key.toList (Gr l j).toList=true):=λj F X=>by
     by_cases e:j=k;.subst e;exact hl
     .exact y.o.2.1 j F (by omega)
    clear a hl;go_wp2;go_roundw;case rel=>exact⟨k+1,p,by omega,by omega,by go_num,rfl,by omega,y.o.1,Y.o,HB.o⟩
    case measure=>simp[intOf];omega
   | false=>
    rw[hl] at a;have ac:=a;have Y:=Ae hl;clear a hl;go_wp2;go_roundw;case rel=>exact⟨k+1,k,by omega,by omega,by go_num,rfl,by omega,λ_=>Y.o,λj F X=>absurd F (by omega),HB.o⟩
    case measure=>simp[intOf];omega
  .have e:k=c:=by omega
   have HF:U (Cf l key p):=by
    have hn:=K.o;refine⟨by omega,λh h0=>?_,λh=>?_⟩;.rw[<- Fp h];exact y.o.1 h0
    .rw[<- Fp h];exact y.o.2.1 (p+1) (by omega) (by omega)
   subst e;go_wp2;go_ret;exact⟨p,rfl,HF.o,y.o.2.2.2⟩
theorem BO {g:Nat} {t:TypeId}:∀(c:List Value) (o:Nat) (w:World) (a:Array Value),w.heap[g]?=some (.cells a t (0,0))->o+c.length<=a.size->∃b : Array Value,(w.setCells g o c).heap[g]?=some (.cells b t (0,0))/\b.size=a.size/\∀j,b[j]?=if o<=j/\j<o+c.length then c[j-o]? else a[j]?
 | [],o,w,a,h,hl=>⟨a,h,rfl,λj=>by rw[if_neg (by simp)]⟩
 | v::r,o,w,a,h,hl=>by
  rw[UJ] at hl
  have f:(w.setCell (ad g o) v).heap[g]?=some (.cells (a.setIfInBounds o v) t (0,0)):=by
   simp[World.setCell,Array.getElem?_modify,h]
  obtain⟨b,p,l,m⟩:=BO r (o+1) (w.setCell (ad g o) v) (a.setIfInBounds o v) f (by simp;omega)
  refine⟨b,p,by rw[l];simp,λj=>?_⟩
  rw[m j,UJ]
  by_cases q:o+1<=j/\j<o+1+r.length
  .rw[if_pos q,if_pos (by omega),show j-o=(j-(o+1))+1 by omega,List.getElem?_cons_succ]
  .rw[if_neg q,Array.getElem?_setIfInBounds]
   by_cases e:o=j
   .subst e
    rw[if_pos rfl,if_pos (by omega),if_pos (by omega)]
    simp
   .rw[if_neg e,if_neg (by omega)]
theorem Bb (g:Nat):∀(a:List Value) (o:Nat) (w:World),w.grownBy (w.setCells g o a) (some g)
 | [],o,w=>EP _ _
 | v::r,o,w=>Ao (Eg _ _ _ _) (Bb g r (o+1) _)
theorem My (w:World) (r:Option Nat):w.grownBy w.drew r:=As (Up _ _).drew
def Ko (B:Nat) (w0 w:World) (a:Option Addr) (L:List ByteArray) (e:Ending) (w' : World):Prop:=
 ∃a' c',e=.returned (.slice a' L.length c')/\w'.ownsRow B 9 1 (.slice a' L.length c') L.length (Ap L)/\w.grownBy w' (a.map (·.block))/\(a'=a\/∃g,a'=some (ad g 0)/\w0.heap.size<g)
theorem Fb (L:List ByteArray):∀v∈Ap L,v.oneCell'=true:=by intro v a;unfold Ap at a;obtain⟨x,_,rfl⟩:=List.mem_map.1 a;rfl
theorem OL (L:List ByteArray) (i:Nat):(Ap L).take i=Ap (L.take i):=by simp[Ap]
theorem Od (L:List ByteArray) (i:Nat):(Ap L).drop i=Ap (L.drop i):=by simp[Ap]
theorem Sw (w:World) (g c n:Nat) (a:Array Value) (L:List ByteArray) (f:w.heap[g]?=some (.cells a 9 (0,0))) (m:a.size=c) (l:n=L.length) (e:n<=c) (b:∀j,j<n->a[j]?=some (.string (gt L j))):a.toList.take n=Ap L:=by
 apply List.ext_getElem?;intro j;rw[List.getElem?_take];by_cases h:j<n;.rw[if_pos h,Array.getElem?_toList,b j h,Bf L j (by omega)]
 .rw[if_neg h];symm;rw[List.getElem?_eq_none_iff,AF];omega
theorem SM (L:List ByteArray) (key:ByteArray) (i:Nat) (hi:i<=L.length) (j:Nat) (e:j<L.length+1):gt (L.take i++key::L.drop i) j=if j<i then gt L j else if j=i then key else gt L (j-1):=by
 unfold gt;rw[Uw];have c:(L.take i).length=i:=by rw[UE];omega
 by_cases a:j<i;.rw[if_pos a,List.getElem?_append_left (by omega),List.getElem?_take,if_pos a,Uw]
 .rw[if_neg a,List.getElem?_append_right (by omega),c];by_cases b:j=i;.subst b;simp
  .rw[if_neg b,show j-i=(j-i-1)+1 by omega,List.getElem?_cons_succ,List.getElem?_drop,Uw,show i+(j-i-1)=j-1 by omega]
theorem Eu {B n b g:Nat} {o W w' : World} {a:Option Addr} {e : List ByteArray} {c:Array Value} (l:e.length=n+1) (m:w'.heap[g]?=some (.cells c 9 (0,0))) (v:c.size=b) (p:n+1<=b) (u:b<=maxLen) (s:B<=g) (q:∀j,j<n+1->c[j]?=some (.string (gt e j))) (f:W.grownBy w' (a.map (·.block))) (t:some (ad g 0)=a\/o.heap.size<g) :
  Ko B o W a e (.returned (.slice (some (ad g 0)) (n+1) b)) w':=by
 unfold Ko;rw[l];refine⟨_,_,rfl,⟨by rw[AF,l];omega,.inr ⟨g,b,c,rfl,s,m,p,u,by omega,?_⟩⟩,f,?_⟩;.rw[Nat.mul_one];exact Sw w' g b (n+1) c e m v l.symm p q
 .rcases t with h|h;.exact .inl h
  .exact .inr ⟨g,rfl,h⟩
theorem Qv (B n c i:Nat) (a:Option Addr) (L:List ByteArray) (key:ByteArray) (w:World) (h:w.ownsRow B 9 1 (.slice a n c) n (Ap L)) (hn:n=L.length) (hi:i<=n) (hB:B<=w.heap.size) (aj:n<=1048576) :
  UO 212 #[.slice a n c,iv (i:Int),.slice (some (ad w.heap.size 0)) 1 1] (w.alloc (.cells #[.string key] 9)) (Ko B w (w.alloc (.cells #[.string key] 9)) a (L.take i++key::L.drop i)):=by
 have s:(L.take i++key::L.drop i).length=n+1:=by rw[Uz,UJ,UE,List.length_drop];omega
 have u:∀j,j<n+1->gt (L.take i++key::L.drop i) j=if j<i then gt L j else if j=i then key else gt L (j-1):=λj m=>SM L key i (by omega) j (by omega);have h1:(w.alloc (.cells #[.string key] 9)).ownsRow B 9 1 (.slice a n c) n (Ap L):=h.alloc _;have C:∀j v,[Value.string key][j]?=some v->(w.alloc (.cells #[.string key] 9)).cell? (ad w.heap.size (0+j))=some v:=λj v m=>by
  have e:j=0:=by
   rcases j with _|j;.rfl
   .simp at m
  subst e;simpa using m
 have aa:(w.alloc (.cells #[.string key] 9)).heap.size=w.heap.size+1:=by simp
 have F:(w.alloc (.cells #[.string key] 9)).heap[w.heap.size]?=some (.cells #[.string key] 9 (0,0)):=heap_alloc_new w _;have af:∀g,a=some (ad g 0)->g<w.heap.size:=λg e=>(Ah h g (by rw[e];rfl)).2;obtain⟨W,ab⟩:∃W,W=w.alloc (.cells #[.string key] 9):=⟨_,rfl⟩;rw[<- ab] at h1 C aa F ⊢;generalize ag : L.take i++key::L.drop i=L' at s u ⊢;have b:(Ap L).length=n:=by rw[AF];exact hn.symm
 have o:∀v∈[Value.string key],v.oneCell'=true:=by intro v C;simp at C;subst C;rfl
 have Q:∀f,grownCap W (n+1) f 9<=maxLen:=λf=>grownCap_le_maxLen W (n+1) f 9 (by unfold maxLen;omega);have I:∀f,n+1<=grownCap W (n+1) f 9:=λf=>grownCap_ge W (n+1) f 9;have J:∀(O:Obj) (r:Option Nat),W.grownBy (W.drew.alloc O) r:=λO r=>⟨rfl,rfl,rfl,by simp,λk hk _=>(Aa W.drew O).block k hk⟩
 -- the row at the end,where there is no room
 have M:∀f:Nat,i=n->∃l:Array Value,(W.drew.alloc (.cells ((Ap L++[Value.string key]).toArray++Builtin.zeroCells (Value.string ⟨#[]⟩).cells (grownCap W (n+1) f 9 - (n+1))) 9)).heap[W.heap.size]?=some (.cells l 9 (0,0))/\l.size=grownCap W (n+1) f 9/\∀j,j<n+1->l[j]?=some (.string (gt L' j)):=by
  intro f V;refine⟨_,heap_alloc_new W.drew _,?_,λj m=>?_⟩;.have q:=I f;rw[Array.size_append,size_zeroCells,List.size_toArray,Uz,b];simp[Value.cells];omega
  .rw[Array.getElem?_append_left (by rw[List.size_toArray,Uz,b];simp;omega),List.getElem?_toArray,u j m];by_cases e:j<n;.rw[if_pos (by omega),List.getElem?_append_left (by omega),Bf L j (by omega)]
   .have t:j=n:=by omega
    rw[if_neg (by omega),if_pos (by omega),List.getElem?_append_right (by omega),b,t];simp
 rcases h1.2 with ⟨e,e0⟩|⟨g,ak,l,e,Z,N,X,H,U,Y⟩
 .injection e with e1 t e3;subst e1 e3;have ac:i=n:=by omega
  subst ac;refine (Any2.slices_Insert_string_end_grow lays22 none i 0 w.heap.size 0 1 1 (Ap L) [.string key] W (by omega) (by omega) (by omega) (by omega) b rfl (λ_=>e0) (λa h=>by cases h) C o).mono ?_;rintro e w' ⟨rfl,rfl⟩;obtain⟨l,E,K,G⟩:=M 0 rfl;exact Eu s E K (I 0) (Q 0) (by omega) G (J _ _) (.inr (by omega))
 .injection e with e1 t e3;subst e1 e3;have ah:=af g rfl;rw[Nat.mul_one] at U Y;have P:∀j,j<n->l[j]?=some (.string (gt L j)):=λj m=>by have q:=Bf L j (by omega);rw[<- Y,List.getElem?_take,if_pos m] at q;simpa using q
  have A : ∀j v,(Ap L)[j]?=some v->W.cell? (ad g (0+j))=some v:=λj v m=>by
   have ae:j<n:=by have:=(List.getElem?_eq_some_iff.1 m).1;omega
   rw[Bf L j (by omega)] at m;rw[UI];simp[World.cell?,N,P j ae];injection m
  by_cases V:i=n
  .subst V;by_cases p:i+1<=c
   .refine (Any2.slices_Insert_string_end_room lays22 g 0 i c w.heap.size 0 1 1 [.string key] W (by omega) p (by unfold maxLen at H;omega) rfl (λj m=>?_) (λj m=>?_) C o).mono ?_
    .have:i+j<l.size:=by omega
     simp[World.cell?,N,this]
    .simp[World.frozen?,N]
    rintro e w' ⟨rfl,rfl⟩;obtain⟨y,E,K,G⟩:=BO [.string key] (0+i) W l N (by simp;omega);refine Eu s E (K.trans U) p H Z (λj m=>?_) (Bb g _ _ _) (.inl rfl);rw[G j,u j m];by_cases e:j<i;.rw[if_neg (by simp;omega),if_pos e];exact P j e
    .have t:j=i:=by omega
     subst t;rw[if_pos (by simp),if_neg e,if_pos rfl];simp
   .refine (Any2.slices_Insert_string_end_grow lays22 (some (ad g 0)) i c w.heap.size 0 1 1 (Ap L) [.string key] W (by omega) X (by omega) (by omega) b rfl (λh=>by cases h) (λa h j v m=>?_) C o).mono ?_
    .injection h with h;subst h;have q:=A j v m;rw[UI] at q;rcases j with _|j;.simpa[Addr.add] using q
     .simpa[Addr.add] using q
    rintro e w' ⟨rfl,rfl⟩;obtain⟨y,E,K,G⟩:=M c rfl;exact Eu s E K (I c) (Q c) (by omega) G (J _ _) (.inr (by omega))
  .by_cases p:n+1<=c
   .refine (Any2.slices_Insert_string_shift lays22 g 0 n c i w.heap.size 0 1 1 (Ap L) [.string key] W (by omega) (by omega) p (by unfold maxLen at H;omega) (by omega) b rfl A (λj m=>?_) (λj m=>?_) C (Fb L) o 9 9 1 l.size ?_ ?_ (by omega) ?_ ?_).mono ?_
    .have:j<l.size:=by omega
     simp[World.cell?,N,this]
    .simp[World.frozen?,N]
    .simp[World.shape?,F]
    .simp[World.shape?,N]
    .simp[World.frozen?,F]
    .simp[World.frozen?,F]
    rintro e w' ⟨rfl,rfl⟩;obtain⟨z,p1,p2,S⟩:=BO ((Ap L).drop i) (0+(i+1)) W.drew l (show W.drew.heap[g]?=_ from N) (by rw[List.length_drop,b];omega);obtain⟨y,E,K,G⟩:=BO [.string key] (0+i) _ z p1 (by simp;omega);refine Eu s E (by omega) p H Z (λj m=>?_) (Ao (Ao (My _ _) (Bb g _ _ _)) (Bb g _ _ _)) (.inl rfl);rw[G j,u j m];by_cases e:j<i;.rw[if_neg (by simp;omega),S j,if_neg (by omega),if_pos e];exact P j (by omega)
    .by_cases t:j=i;.subst t;rw[if_pos (by simp),if_neg e,if_pos rfl];simp
     .rw[if_neg (by simp;omega),S j,if_pos (by rw[List.length_drop,b];omega),if_neg e,if_neg t,List.getElem?_drop,show i+(j-(0+(i+1)))=j-1 by omega,Bf L (j-1) (by omega)]
   .refine (Any2.slices_Insert_string_grow lays22 g 0 n c i w.heap.size 0 1 1 (Ap L) [.string key] W (by omega) (by omega) X (by omega) (by omega) b rfl A C (Fb L) o).mono ?_;rintro e w' ⟨rfl,rfl⟩;have q0:=I c;have hX:(((Ap L).take i).toArray++Builtin.zeroCells (Value.string ⟨#[]⟩).cells (n+1-i)++Builtin.zeroCells (Value.string ⟨#[]⟩).cells (grownCap W (n+1) c 9 - (n+1))).size=grownCap W (n+1) c 9:=by rw[Array.size_append,Array.size_append,size_zeroCells,size_zeroCells,List.size_toArray,UE,b];simp[Value.cells];omega
    obtain⟨z,p1,p2,S⟩:=BO [.string key] i (W.alloc (.cells (((Ap L).take i).toArray++Builtin.zeroCells (Value.string ⟨#[]⟩).cells (n+1-i)++Builtin.zeroCells (Value.string ⟨#[]⟩).cells (grownCap W (n+1) c 9 - (n+1))) 9)).drew _ (heap_alloc_new W _) (by rw[hX];simp;omega);rw[hX] at p2;obtain⟨y,E,K,G⟩:=BO ((Ap L).drop i) (i+1) (World.drew ((W.alloc (.cells (((Ap L).take i).toArray++Builtin.zeroCells (Value.string ⟨#[]⟩).cells (n+1-i)++Builtin.zeroCells (Value.string ⟨#[]⟩).cells (grownCap W (n+1) c 9 - (n+1))) 9)).drew.setCells W.heap.size i [Value.string key])) z p1 (by rw[List.length_drop,b];omega);refine Eu s E (K.trans p2) q0 (Q c) (by omega) (λj m=>?_) ?_ (.inr (by omega))
    .rw[G j,u j m];by_cases e:j<i;.rw[if_neg (by omega),S j,if_neg (by simp;omega),if_pos e,Array.getElem?_append_left (by rw[Array.size_append,List.size_toArray,UE,b];omega),Array.getElem?_append_left (by rw[List.size_toArray,UE,b];omega),List.getElem?_toArray,List.getElem?_take,if_pos e,Bf L j (by omega)]
     .by_cases t:j=i;.subst t;rw[if_neg (by omega),S j,if_pos (by simp),if_neg e,if_pos rfl];simp
      .rw[if_pos (by rw[List.length_drop,b];omega),if_neg e,if_neg t,List.getElem?_drop,show i+(j-(i+1))=j-1 by omega,Bf L (j-1) (by omega)]
    .have T:=Bb W.heap.size [Value.string key] i (W.alloc (.cells (((Ap L).take i).toArray++Builtin.zeroCells (Value.string ⟨#[]⟩).cells (n+1-i)++Builtin.zeroCells (Value.string ⟨#[]⟩).cells (grownCap W (n+1) c 9 - (n+1))) 9)).drew;have R:=Bb W.heap.size ((Ap L).drop i) (i+1) (World.drew ((W.alloc (.cells (((Ap L).take i).toArray++Builtin.zeroCells (Value.string ⟨#[]⟩).cells (n+1-i)++Builtin.zeroCells (Value.string ⟨#[]⟩).cells (grownCap W (n+1) c 9 - (n+1))) 9)).drew.setCells W.heap.size i [Value.string key]));have z0:∀O,(W.alloc O).drew.heap.size=W.heap.size+1:=λO=>by simp
     have z1:=T.size;have z2:=R.size;rw[z0] at z1;have z3:W.heap.size+1<=(World.drew ((W.alloc (.cells (((Ap L).take i).toArray++Builtin.zeroCells (Value.string ⟨#[]⟩).cells (n+1-i)++Builtin.zeroCells (Value.string ⟨#[]⟩).cells (grownCap W (n+1) c 9 - (n+1))) 9)).drew.setCells W.heap.size i [Value.string key])).heap.size:=z1;refine⟨R.os.trans T.os,R.tape.trans T.tape,R.output.trans T.output,Uy (by omega) (Uy z3 z2),λk hk _=>?_⟩;refine (R.block k (by omega) (λe=>by injection e with e;omega)).trans ?_;refine (T.block k (by rw[z0];omega) (λe=>by injection e with e;omega)).trans ?_;exact (Aa W _).block k hk
theorem Pn (x:ByteArray) (w:World):UO 218 #[.string x] w λe a=>e=.returned (.bool false)/\a=w:=by go_enter func218,ntmps218;go_wp2;go_ret;exact⟨by simp,rfl⟩
theorem PX (x:ByteArray) (w:World):UO 215 #[.string x] w λe a=>e=.returned (.bool false)/\a=w:=by go_enter func215,ntmps215;go_wp2;go_ret;exact⟨by simp,rfl⟩
theorem Oa (x y:ByteArray) (w:World):UO 214 #[.string x,.string y] w λe a=>e=.returned (.bool (Op.bytesLess x.toList y.toList))/\a=w:=by
 go_enter func214,ntmps214;go_wp2_with fail
 refine (Pn x _).mono ?_;rintro e w1 ⟨rfl,rfl⟩;go_wp2;go_ret;exact⟨by simp,rfl⟩
def Tq (L:List ByteArray) (key:ByteArray) (w:World) (e:Ending) (w' : World):Prop:=
 ∃(i:Nat) (ok:Bool),e=.returned (.tuple #[iv (i:Int),.bool ok])/\w'=w/\i<=L.length/\(∀j,j<i->Op.bytesLess (gt L j).toList key.toList=true)/\(∀j,i<=j->j<L.length->Op.bytesLess (gt L j).toList key.toList=false)/\(ok=true↔i<L.length/\gt L i=key)
theorem MF (a:Option Addr) (n c:Nat) (L:List ByteArray) (key:ByteArray) (w:World) (h:Cg w a n (gt L)) (O:n=L.length) (R:n<=1048576) (N:BI L) :
  UO 211 #[.slice a n c,.string key] w (Tq L key w):=by
 have s:=Ae (ai h (ai O N));clear h O N;go_enter func211,ntmps211;go_wp2;go_loopw [7,8] (λp q wr=>∃i j:Nat,i<=j/\j<=n/\p=iv i/\q=iv j/\wr=w/\(∀k,k<i->Op.bytesLess (gt L k).toList key.toList=true)/\(∀k,j<=k->k<n->Op.bytesLess (gt L k).toList key.toList=false)) (λp q _=>(intOf q).toNat-(intOf p).toNat)
 case atStart=>exact⟨0,n,Us _,Uq _,rfl,rfl,rfl,λk hk=>absurd hk (Uu _),λk E z=>by omega⟩
 case round=>
  obtain⟨i,j,F,C,rfl,rfl,rfl,E,z⟩:=hrel;have g:=Ae (ai E z);clear E z;by_cases J:i<j
  .obtain⟨m,Y⟩:∃m:Nat,((i:Int)+(j:Int)) / 2=(m:Int):=⟨(i+j) / 2,by omega⟩;have V:i<=m/\m<j:=by omega
   have A:m<n:=by omega
   rcases s.o.1 with q|⟨Q,S,rfl,B⟩;.omega
   have X:=B m A;have Z:(0:Int)<=(m:Int):=by omega
   have T:(m:Int)<(n:Int):=by omega
   have M:U (m<L.length/\n=L.length):=⟨by rw[<- s.o.2.1];exact A,s.o.2.1⟩;clear B;go_upto_region 5 with fail
   clear Y;go_wp2_with fail
   refine (Oa (gt L m) key _).mono ?_;rintro e w1 ⟨rfl,rfl⟩;cases hls:Op.bytesLess (gt L m).toList key.toList with
   | true=>
    have y:U (∀k,k<m+1->Op.bytesLess (gt L k).toList key.toList=true):=by
     intro k hk;by_cases e:k=m;.subst e;exact hls
     .exact AY _ _ _ (D4 s.o.2.2 (show k<m by omega) M.o.1) hls
    go_wp2;go_roundw;case rel=>exact⟨m+1,j,by omega,C,by go_num,rfl,trivial,y.o,g.o.2⟩
    case measure=>simp[intOf];omega
   | false=>
    have y:U (∀k,m<=k->k<n->Op.bytesLess (gt L k).toList key.toList=false):=by
     intro k W I;by_cases e:k=m;.subst e;exact hls
     .have q:=D4 s.o.2.2 (show m<k by omega) (by rw[<- M.o.2];exact I);cases e2:Op.bytesLess (gt L k).toList key.toList with
      | false=>rfl
      | true=>have:=AY _ _ _ q e2;rw[hls] at this;cases this
    go_wp2;go_roundw;case rel=>exact⟨i,m,by omega,by omega,rfl,rfl,trivial,g.o.1,y.o⟩
    case measure=>simp[intOf];omega
  .have e:i=j:=by omega
   subst e;have t:U (i<=L.length/\(∀j,j<i->Op.bytesLess (gt L j).toList key.toList=true)/\(∀j,i<=j->j<L.length->Op.bytesLess (gt L j).toList key.toList=false)):=⟨by rw[<- s.o.2.1];exact C,g.o.1,λj E z=>g.o.2 j E (by rw[s.o.2.1];exact z)⟩;have y:=Ae s.o.2.1;have P:¬ (i:Int)<(i:Int):=by omega
   clear g J F;by_cases l:i<n
   .have H:(i:Int)<(n:Int):=by omega
    have K : decide ((i:Int)<(n:Int))=true:=decide_eq_true H;have G : decide (i<n)=true:=decide_eq_true l;have i0:(0:Int)<=(i:Int):=by omega
    rcases s.o.1 with q|⟨Q,S,rfl,B⟩;.omega
    have X:=B i l;clear B;by_cases b:gt L i=key
    .have f:U (∀q:Bool,q=true->(q=true↔i<L.length/\gt L i=key)):=λq u=>⟨λ_=>⟨by rw[<- y.o];exact l,b⟩,λ_=>u⟩;have u:((gt L i).toList == key.toList)=true:=by rw[b];simp
     clear b;go_wp2;refine bodyPost_ret (v:=.tuple #[iv (i:Int),.bool true]) (by simp[results,results211,go_sem]) rfl ⟨i,true,rfl,rfl,t.o.1,t.o.2.1,t.o.2.2,f.o _ rfl⟩
    .have f:U (∀q:Bool,q=false->(q=true↔i<L.length/\gt L i=key)):=λq u=>⟨λh=>(by rw[u] at h;cases h),λh=>absurd h.2 b⟩;have u:((gt L i).toList == key.toList)=false:=by rw[beq_eq_false_iff_ne];exact λh=>b (DG h)
     clear b;go_wp2_with fail
     refine (PX (gt L i) _).mono ?_;rintro e w1 ⟨rfl,rfl⟩;go_wp2;refine bodyPost_ret (v:=.tuple #[iv (i:Int),.bool false]) (by simp[results,results211,go_sem]) rfl ⟨i,false,rfl,rfl,t.o.1,t.o.2.1,t.o.2.2,f.o _ rfl⟩
   .have H:¬ (i:Int)<(n:Int):=by omega
    have K : decide ((i:Int)<(n:Int))=false:=decide_eq_false H;have G : decide (i<n)=false:=decide_eq_false l;have f:U (∀q:Bool,q=false->(q=true↔i<L.length/\gt L i=key)):=λq u=>⟨λh=>(by rw[u] at h;cases h),λh=>absurd h.1 (by rw[<- y.o];exact l)⟩;go_wp2;refine bodyPost_ret (v:=.tuple #[iv (i:Int),.bool false]) (by simp[results,results211,go_sem]) rfl ⟨i,false,rfl,rfl,t.o.1,t.o.2.1,t.o.2.2,f.o _ rfl⟩
theorem KL (b n l:Nat) (c:Option Addr) (v:Value) (L:List ByteArray) (key:ByteArray) (w:World) (h:Bx w b 206 #[v,.slice c n l]) (m:Cg w c n (gt L)) (t:n=L.length) (f:n<=1048576) (s:BI L) :
  UO 206 #[pt b,.string key] w λe z=>e=.returned (iv (Bs key L:Int))/\z=w:=by
 have y:=h.cell 1;simp at y;have a:=Ae (ai m (ai t s));clear h m t s;go_enter func206,ntmps206;go_wp2_with fail
 refine (MF c n l L key w a.o.1 a.o.2.1 f a.o.2.2).mono ?_;rintro e w1 ⟨i,B,rfl,rfl,p,g,q,_⟩;have u:=Ae (Hu p g q);have A:i<=1048576:=by have:=a.o.2.1;omega
 clear p g q;go_wp2;go_ret;exact⟨by rw[u.o];rfl,rfl⟩
def Pg {d:Nat} (l:List (Ro d)) (key:ByteArray) (w:World) (e:Ending) (w' : World):Prop:=
 ∃i:Nat,e=.returned (iv (i:Int))/\w'=w/\i<l.length/\(∀h:i<l.length,0<i->Op.bytesLess key.toList (gt (Ab d l[i]) 0).toList=false)/\(∀h:i+1<l.length,Op.bytesLess key.toList (gt (Ab d l[i+1]) 0).toList=true)
theorem EE (d b:Nat) (l:List (Ro d)) (S:Nat->Prop) (h:Nat) (key:ByteArray) (w:World) (M:FZ S w (d+1) (.inr l) (.iface 174 (pt b))) (W:∀t,t∈l->Aq d false t h) (I:l.length<=4) :
  UO 193 #[pt b,.string key] w (Pg l key w):=by
 obtain⟨b',g,kc,xs,e,_,R,_,_,Z,T,hk⟩:=M;injection e with e1 e;injection e with e;injection e with e;injection e with e e3 e4;clear e1 e3 e4;subst e;have HK:U (∀k (h:k<l.length),∃u,w.cell? (ad g k)=some u/\((∃p,u=.iface 204 (.pointer (some p))/\UO 205 #[.pointer (some p)] w λe G=>e=.returned (.string (gt (Ab d l[k]) 0))/\G=w)\/(∃p,u=.iface 174 (.pointer (some p))/\UO 188 #[.pointer (some p)] w λe G=>e=.returned (.string (gt (Ab d l[k]) 0))/\G=w))):=by
  intro k C;obtain⟨u,N,M⟩:=hk k C;refine⟨u,T k u N,?_⟩;rcases CU M (W _ (UA C)) with ⟨p,e,q⟩|⟨p,e,q⟩;.exact Or.inl ⟨p,e,q w (Up _ _)⟩
  .exact Or.inr ⟨p,e,q w (Up _ _)⟩
 have O:=R.cell 1;simp at O;obtain⟨K,z⟩:=gn l.length;rw[<- z] at O Z I;have F:=Ae z;clear R T hk W z;go_enter func193,ntmps193;go_wp2;go_loopw [5] (λi wr=>∃k:Nat,k<K/\i=iv k/\wr=w/\(∀h:k+1<l.length,Op.bytesLess key.toList (gt (Ab d l[k+1]) 0).toList=true)) (λi _=>(intOf i).toNat)
 case atStart=>exact⟨K-1,by omega,by congr 1;omega,rfl,λh=>by have:=F.o;omega⟩
 case round=>
  obtain⟨k,hk,rfl,rfl,V⟩:=hrel;have J:=Ae V;clear V;have s:k<l.length:=by rw[<- F.o];exact hk
  by_cases Y:k=0;.subst Y;have HX:U (∀h:0<l.length,0<0->Op.bytesLess key.toList (gt (Ab d l[0]) 0).toList=false):=λ_ h=>absurd h (Nat.lt_irrefl _);go_wp2;go_ret;exact⟨0,rfl,rfl,s,HX.o,J.o⟩
  .have i0:(0:Int)<(k:Int):=by omega
   have X : decide ((0:Int)<(k:Int))=true:=decide_eq_true i0;have n0:0<k:=by omega
   have aa : decide (0<k)=true:=decide_eq_true n0;have ac:(0:Int)<=(k:Int):=by omega
   have ab:(k:Int)<(K:Int):=by omega
   obtain⟨u,N,m⟩:=HK.o k s;have c:=Cc key.toList (gt (Ab d l[k]) 0).toList;obtain⟨f,B⟩:∃f,gt (Ab d l[k]) 0=f:=⟨_,rfl⟩;rw[B] at m c;have E:=Ae B;clear B;have y:U (Op.bytesLess key.toList f.toList=true->∀h:k-1+1<l.length,Op.bytesLess key.toList (gt (Ab d l[k-1+1]) 0).toList=true):=by
    intro q h;have e:k-1+1=k:=by omega
    simp only[e];rw[E.o];exact q
   have A:U (Op.bytesLess key.toList f.toList=false->∀h:k<l.length,0<k->Op.bytesLess key.toList (gt (Ab d l[k]) 0).toList=false):=λq _ _=>by rw[E.o];exact q
   cases hls:Op.bytesLess key.toList f.toList with
   | true=>
    rw[hls] at c;have H:=c;have P:=Ae (y.o hls);clear c y A hls;rcases m with ⟨p,rfl,a⟩|⟨p,rfl,a⟩
    .have v:=Ae a;clear a;go_wp2_with fail
     refine v.o.mono ?_;rintro e w1 ⟨rfl,rfl⟩;go_wp2;go_roundw;case rel=>exact⟨k-1,by omega,by go_num,trivial,P.o⟩
     case measure=>simp[intOf];omega
    .have v:=Ae a;clear a;go_wp2_with fail
     refine v.o.mono ?_;rintro e w1 ⟨rfl,rfl⟩;go_wp2;go_roundw;case rel=>exact⟨k-1,by omega,by go_num,trivial,P.o⟩
     case measure=>simp[intOf];omega
   | false=>
    rw[hls] at c;have H:=c;have Q:=Ae (A.o hls);clear c y A hls;rcases m with ⟨p,rfl,a⟩|⟨p,rfl,a⟩
    .have v:=Ae a;clear a;go_wp2_with fail
     refine v.o.mono ?_;rintro e w1 ⟨rfl,rfl⟩;go_wp2;go_ret;exact⟨k,rfl,rfl,s,Q.o,J.o⟩
    .have v:=Ae a;clear a;go_wp2_with fail
     refine v.o.mono ?_;rintro e w1 ⟨rfl,rfl⟩;go_wp2;go_ret;exact⟨k,rfl,rfl,s,Q.o,J.o⟩
theorem Ka (b n g:Nat) (f:Option Addr) (l:Value) (w:World) (h:Bx w b 206 #[l,.slice f n g]) :
  UO 208 #[pt b] w λe a=>e=.returned (iv (n:Int))/\a=w:=by have c:=h.cell 1;have m:=h.lt;simp at c;clear h;go_enter func208,ntmps208;go_wp2;go_ret;exact⟨rfl,rfl⟩
theorem FI (b n g:Nat) (f:Option Addr) (l:Value) (w:World) (h:Bx w b 179 #[l,.slice f n g]) :
  UO 125 #[pt b] w λe a=>e=.returned (iv (n:Int))/\a=w:=by have c:=h.cell 1;have m:=h.lt;simp at c;clear h;go_enter func125,ntmps125;go_wp2;go_ret;exact⟨rfl,rfl⟩
theorem DQ (b n l:Nat) (f:Option Addr) (m:Value) (w:World) (h:Bx w b 206 #[m,.slice f n l]) :
  UO 210 #[pt b] w λe a=>e=.returned (.bool (decide (4<n)))/\a=w:=by
 have p:=Ae h;have c:=h.cell 1;have q:=h.lt;simp at c;clear h;by_cases o:4<n
 .have g:(4:Int)<(n:Int):=by omega
  go_enter func210,ntmps210;go_wp2;go_ret;exact⟨by simp[o],rfl⟩
 .have g:¬ (4:Int)<(n:Int):=by omega
  go_enter func210,ntmps210;go_wp2;go_ret;exact⟨by simp,rfl⟩
theorem Dq (b n l:Nat) (f:Option Addr) (m:Value) (w:World) (h:Bx w b 179 #[m,.slice f n l]) :
  UO 192 #[pt b] w λe a=>e=.returned (.bool (decide (4<n)))/\a=w:=by
 have p:=Ae h;have c:=h.cell 1;have q:=h.lt;simp at c;clear h;by_cases o:4<n
 .have g:(4:Int)<(n:Int):=by omega
  go_enter func192,ntmps192;go_wp2;go_ret;exact⟨by simp[o],rfl⟩
 .have g:¬ (4:Int)<(n:Int):=by omega
  go_enter func192,ntmps192;go_wp2;go_ret;exact⟨by simp,rfl⟩
end Go.Proofs.YtcnollkkigiobaaGreat
