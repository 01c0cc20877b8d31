import Derived.Below
import Derived.Test.YtcnollkkigiobaaGreatProg
import Derived.WalkKit
import Derived.Deep.OwnRows
import Derived.Deep.Draws
import Derived.Test.YtcnollkkigiobaaGreatRows
import Derived.Deep.Upon
import Derived.Handy
import Derived.Maps.AppendAt
import Derived.Deep.CutBlock
import Derived.Deep.QuietTactic
import Derived.BigQuiet
import Derived.Deep.RegionWith
import Derived.ProofKit
import Derived.OpenShut
import Derived.Lib.SmallJoins
import Derived.Deep.SlicePairs
import Derived.Deep.RegionHeld3
set_option linter.unusedVariables false
set_option linter.unusedSimpArgs false
set_option maxRecDepth 100000
set_option maxHeartbeats 90000000
namespace Go.Proofs.YtcnollkkigiobaaGreat
open Go Go.RowKit Go.Proofs.Tryz
def U(p:Prop):Prop:=p
theorem U.o{p:Prop}(h:U p):p:=h
abbrev ad(b o:Nat):Addr:=⟨b,o,none⟩
abbrev pt(b:Nat):Value:=.pointer (some ⟨b,0,none⟩)
abbrev iv(x:Int):Value:=.int .i64 x
abbrev Bl(w W:World):Prop:=Below w.heap.size w W
theorem Ae{p:Prop}(h:p):U p:=h
theorem gn.{u}{α:Sort u}(a:α):∃x,x=a:=⟨a,rfl⟩
theorem ai{p q:Prop}(h:p)(k:q):p/\q:=⟨h,k⟩
abbrev Uo:=@World.block_lt_of_cell?
abbrev Up:=@Below.refl
abbrev Uq:=@Nat.le_refl
abbrev Ur:=@Below.heap_setCell
abbrev Us:=@Nat.zero_le
abbrev Ut:=@List.getElem?_eq_getElem
abbrev Uu:=@Nat.not_lt_zero
abbrev Uv:=@IntKind.wrap_i64
abbrev Uw:=@List.getD_eq_getElem?_getD
abbrev Uy:=@Nat.le_trans
abbrev Uz:=@List.length_append
abbrev UA:=@List.getElem_mem
abbrev UB:=@Nat.lt_of_lt_of_le
abbrev UC:=@List.take_length
abbrev UD:=@List.length_map
abbrev UE:=@List.length_take
abbrev UF:=@World.size_alloc
abbrev UI:=@Nat.zero_add
abbrev UJ:=@List.length_cons
abbrev UM:=@List.getElem?_map
abbrev UO:=@Calls prog
abbrev UP(w:World)(v:Value)(e:Ending)(w':World):Prop:=e=.returned v/\Bl w w'
end Go.Proofs.YtcnollkkigiobaaGreat
namespace Go.Proofs.YtcnollkkigiobaaGreat
open Go Go.Deep Go.RowKit Go.Proofs.Tryz
variable {a:Option Addr}{f:Nat->Int}{w:World}
def Rd (k:IntKind) (w:World) (a:Option Addr) (len:Nat) (f:Nat->Int):Prop:=
 len=0\/∃b o,a=some (ad b o)/\∀i,i<len->w.cell? (ad b (o+i))=some (.int k (f i))
theorem Rd.below {k:IntKind} {w':World} {c:Nat} (h:Rd k w a c f) (r:Bl w w'):Rd k w' a c f:=by
 rcases h with h|⟨b,o,rfl,q⟩;.exact Or.inl h
 .refine Or.inr ⟨b,o,rfl,λi m=>?_⟩;have j:=Uo _ _ (q i m);rw[r.cell (p:=(ad b (o+i))) j];exact q i m
theorem Rd.congr {k:IntKind} {c:Nat} {g:Nat->Int} (h:Rd k w a c f) (e:∀i,i<c->f i=g i):Rd k w a c g:=by
 rcases h with h|⟨b,o,rfl,m⟩;.exact Or.inl h
 .exact Or.inr ⟨b,o,rfl,λi j=>by rw[m i j,e i j]⟩
theorem Ai {B:Nat} {a:World} (h:Below B a w) (n:Nat):Below B a (w.drewN n):=⟨h.os,h.tape,h.output,h.size,h.block⟩
theorem Aa (w:World) (o:Obj):Bl w (w.alloc o):=(Up _ _).alloc (Uq _) o
variable {B n:Nat}{w':World}
def A6 (w:World) (g:Nat) (t:TypeId) (n:Nat) (F:Nat->Value):Prop:=
 ∃cur:Array Value,w.heap[g]?=some (.cells cur t (0,0))/\n<=cur.size/\∀i,i<n->cur[i]?=some (F i)
namespace A6
variable {w:World} {g:Nat} {t:TypeId} {n:Nat} {F G:Nat->Value}
theorem cell (h:A6 w g t n F) {i:Nat} (hi:i<n):w.cell? (ad g i)=some (F i):=by obtain⟨c,m,_,j⟩:=h;simp[World.cell?,m,j i hi]
theorem frozen (h:A6 w g t n F) (i:Nat):w.frozen? (ad g i)=false:=by obtain⟨c,j,_,_⟩:=h;simp[World.frozen?,j]
theorem lt (h:A6 w g t n F):g<w.heap.size:=by obtain⟨c,m,_,_⟩:=h;obtain⟨j,_⟩:=Array.getElem?_eq_some_iff.1 m;exact j
theorem congr (h:A6 w g t n F) (e:∀i,i<n->F i=G i):A6 w g t n G:=by obtain⟨c,p,q,m⟩:=h;exact⟨c,p,q,λi j=>by rw[m i j,e i j]⟩
theorem of_block (h:A6 w g t n F) (e:w'.heap[g]?=w.heap[g]?):A6 w' g t n F:=by obtain⟨c,m,p,j⟩:=h;exact⟨c,e.trans m,p,j⟩
theorem set (h:A6 w g t n F) (i:Nat) (v:Value):A6 (w.setCell (ad g i) v) g t n (λj=>if j=i then v else F j):=by
 obtain⟨c,r,p,q⟩:=h;refine⟨c.setIfInBounds i v,?_,by simpa using p,λj m=>?_⟩;.simp[World.setCell,Array.getElem?_modify,r]
 .rw[Array.getElem?_setIfInBounds];by_cases e:j=i
  .subst e;have:j<c.size:=by omega
   simp[this]
  .rw[if_neg (λh=>e h.symm)];show c[j]?=some (if j=i then v else F j);rw[if_neg e];exact q j m
end A6
structure Ds (a:Option Addr) (w w' : World):Prop where
 os:w'.os=w.os
 tape:w'.tape=w.tape
 output:w'.output=w.output
 size:w'.heap.size=w.heap.size
 block:∀k,(∀x,a=some x->x.block≠k)->w'.heap[k]?=w.heap[k]?
theorem Ds.refl (a:Option Addr) (w:World):Ds a w w:=⟨rfl,rfl,rfl,rfl,λ_ _=>rfl⟩
theorem Ds.setCell {g:Nat} {w w' : World} (h:Ds (some (ad g 0)) w w') (i:Nat) (v:Value):Ds (some (ad g 0)) w (w'.setCell (ad g i) v):=
 ⟨h.os,h.tape,h.output,by rw[<- h.size];simp[World.setCell],λk c=>by
  rw[<- h.block k c]
  exact Ur _ _ _ _ (λe=>c _ rfl e.symm)⟩
def Cg (w:World) (a:Option Addr) (n:Nat) (X:Nat->ByteArray):Prop:=
 n=0\/∃b o,a=some (ad b o)/\∀i,i<n->w.cell? (ad b (o+i))=some (.string (X i))
def Cy (w:World) (B:Nat) (a:Option Addr) (n:Nat) (X:Nat->ByteArray):Prop:=
 n=0\/∃g,a=some (ad g 0)/\B<=g/\A6 w g 9 n (λi=>.string (X i))
def FU (X:Nat->ByteArray) (n:Nat):List Value:=(List.range n).map λj=>.string (X j)
theorem Jy (X:Nat->ByteArray) (n:Nat):(FU X n).length=n:=by simp[FU]
theorem F1 (X:Nat->ByteArray) (n i:Nat) (h:i<n):(FU X n)[i]?=some (.string (X i)):=by simp[FU,h]
section
variable {w w' : World} {B B' : Nat} {a:Option Addr} {n:Nat} {X X' : Nat->ByteArray}
theorem Cg.below (h:Cg w a n X) (m:Bl w w'):Cg w' a n X:=by
 rcases h with h|⟨b,o,rfl,j⟩;.exact Or.inl h
 .refine Or.inr ⟨b,o,rfl,λi c=>?_⟩;rw[m.cell (p:=(ad b (o+i))) (Uo _ _ (j i c))];exact j i c
theorem Cg.congr (h:Cg w a n X) (e:∀i,i<n->X i=X' i):Cg w a n X':=by
 rcases h with h|⟨b,o,rfl,j⟩;.exact Or.inl h
 .exact Or.inr ⟨b,o,rfl,λi c=>by rw[j i c,e i c]⟩
theorem Cy.rd (h:Cy w B a n X):Cg w a n X:=by
 rcases h with h|⟨g,rfl,_,j⟩;.exact Or.inl h
 .exact Or.inr ⟨g,0,rfl,λi c=>by rw[UI];exact j.cell c⟩
theorem Cy.mono (h:Cy w B a n X) (m:B'<=B):Cy w B' a n X:=by
 rcases h with h|⟨g,rfl,j,c⟩;.exact Or.inl h
 .exact Or.inr ⟨g,rfl,by omega,c⟩
theorem Cy.below (h:Cy w B a n X) (m:Bl w w'):Cy w' B a n X:=by
 rcases h with h|⟨g,rfl,j,c⟩;.exact Or.inl h
 .exact Or.inr ⟨g,rfl,j,c.of_block (m.block g c.lt)⟩
theorem Ma {v:Value} (h:w.ownsRow B 9 1 v n (FU X n)):∃a c,v=.slice a n c/\Cy w B a n X/\n<=c/\c<=9223372036854775807:=by
 obtain⟨_,h⟩:=h;rcases h with ⟨rfl,rfl⟩|⟨g,j,cur,rfl,r,p,s,m,z,u⟩;.exact⟨none,0,rfl,Or.inl rfl,Uq _,by omega⟩
 .unfold maxLen at m;refine⟨_,j,rfl,Or.inr ⟨g,rfl,r,cur,p,by omega,λi q=>?_⟩,s,m⟩;rw[<- F1 X n i q,<- u];have:i<n*1:=by omega
  rw[List.getElem?_take,if_pos this];simp
end
structure Tn where
 lf:Bool
 kn:Nat
 ks:Nat->ByteArray
 dn:Nat
 kd:Nat->Int
 ct:Int
def Cb (w:World) (a:Option Addr) (n:Nat) (N:Nat->Tn):Prop:=
 n=0\/∃b o,a=some (ad b o)/\∀i,i<n->∃ka kc da dc,w.cell? (ad b (o+i*4))=some (.bool (N i).lf)/\w.cell? (ad b (o+i*4+1))=some (.slice ka (N i).kn kc)/\
  w.cell? (ad b (o+i*4+2))=some (.slice da (N i).dn dc)/\w.cell? (ad b (o+i*4+3))=some (iv (N i).ct)/\Cg w ka (N i).kn (N i).ks/\Rd .i64 w da (N i).dn (N i).kd
theorem Cb.below {w w' : World} {a:Option Addr} {n:Nat} {N:Nat->Tn} (h:Cb w a n N) (c:Bl w w'):Cb w' a n N:=by
 rcases h with h|⟨b,o,rfl,u⟩;.exact Or.inl h
 .refine Or.inr ⟨b,o,rfl,λi A=>?_⟩;obtain⟨r,s,C,z,m,p,j,q,D,E⟩:=u i A;refine⟨r,s,C,z,?_,?_,?_,?_,D.below c,E.below c⟩;.rw[c.cell (Uo _ _ m)];exact m
  .rw[c.cell (Uo _ _ p)];exact p
  .rw[c.cell (Uo _ _ j)];exact j
  .rw[c.cell (Uo _ _ q)];exact q
def Bi (N:Nat->Tn) (KA DA:Nat->Option Addr) (KC DC:Nat->Nat) (c:Nat):Value:=
 if c % 4=0 then .bool (N (c / 4)).lf else if c % 4=1 then .slice (KA (c / 4)) (N (c / 4)).kn (KC (c / 4)) else if c % 4=2 then .slice (DA (c / 4)) (N (c / 4)).dn (DC (c / 4)) else iv (N (c / 4)).ct
section
variable (N:Nat->Tn) (KA DA:Nat->Option Addr) (KC DC:Nat->Nat) (i:Nat)
theorem GQ:Bi N KA DA KC DC (i*4)=.bool (N i).lf:=by unfold Bi;rw[if_pos (by omega),show i*4 / 4=i by omega]
theorem GC:Bi N KA DA KC DC (i*4+1)=.slice (KA i) (N i).kn (KC i):=by unfold Bi;rw[if_neg (by omega),if_pos (by omega),show (i*4+1) / 4=i by omega]
theorem Gg:Bi N KA DA KC DC (i*4+2)=.slice (DA i) (N i).dn (DC i):=by unfold Bi;rw[if_neg (by omega),if_neg (by omega),if_pos (by omega),show (i*4+2) / 4=i by omega]
theorem Gl:Bi N KA DA KC DC (i*4+3)=iv (N i).ct:=by unfold Bi;rw[if_neg (by omega),if_neg (by omega),if_neg (by omega),show (i*4+3) / 4=i by omega]
end
def Ei (w:World) (B:Nat) (a:Option Addr) (n:Nat) (f:Nat->Int):Prop:=
 n=0\/∃g,a=some (ad g 0)/\B<=g/\A6 w g 2 n (λi=>iv (f i))
theorem Ei.rd (h:Ei w B a n f):Rd .i64 w a n f:=by
 rcases h with h|⟨g,rfl,_,j⟩;.exact Or.inl h
 .exact Or.inr ⟨g,0,rfl,λi c=>by rw[UI];exact j.cell c⟩
theorem Ei.mono {B':Nat} (h:Ei w B a n f) (m:B'<=B):Ei w B' a n f:=by
 rcases h with h|⟨g,rfl,j,c⟩;.exact Or.inl h
 .exact Or.inr ⟨g,rfl,by omega,c⟩
theorem Ei.below {w':World} (h:Ei w B a n f) (m:Bl w w'):Ei w' B a n f:=by
 rcases h with h|⟨g,rfl,j,c⟩;.exact Or.inl h
 .exact Or.inr ⟨g,rfl,j,c.of_block (m.block g c.lt)⟩
structure CL (w:World) (B g n:Nat) (N:Nat->Tn) (KA DA:Nat->Option Addr) (KC DC:Nat->Nat):Prop where
 le:B<=g
 row:A6 w g 168 (n*4) (Bi N KA DA KC DC)
 keys:∀i,i<n->Cy w B (KA i) (N i).kn (N i).ks
 kids:∀i,i<n->Ei w B (DA i) (N i).dn (N i).kd
 apartK:∀i j,i<n->j<n->i≠j->(N i).kn≠0->(N j).kn≠0->KA i≠KA j
 apartD:∀i j,i<n->j<n->i≠j->(N i).dn≠0->(N j).dn≠0->DA i≠DA j
theorem CL.rd {w:World} {B g n:Nat} {N:Nat->Tn} {j p:Nat->Option Addr} {q m:Nat->Nat} (h:CL w B g n N j p q m):Cb w (some (ad g 0)) n N:=by
 refine Or.inr ⟨g,0,rfl,λi c=>⟨j i,q i,p i,m i,?_,?_,?_,?_,(h.keys i c).rd,(h.kids i c).rd⟩⟩;.have:=h.row.cell (i:=i*4) (by omega);rw[GQ] at this;simpa using this
 .have:=h.row.cell (i:=i*4+1) (by omega);rw[GC] at this;simpa using this
 .have:=h.row.cell (i:=i*4+2) (by omega);rw[Gg] at this;simpa using this
 .have:=h.row.cell (i:=i*4+3) (by omega);rw[Gl] at this;simpa using this
end Go.Proofs.YtcnollkkigiobaaGreat
namespace Go.Proofs.YtcnollkkigiobaaGreat
open Go Go.Proofs.Tryz
variable {k:Nat}
def Ro:Nat->Type
 | 0=>Empty
 | d+1=>Sum (List ByteArray) (List (Ro d))
def Ac:(d:Nat)->Ro d->Nat
 | 0,t=>t.elim
 | d+1,.inl _=>1
 | d+1,.inr l=>1+(l.map (Ac d)).sum
def Ab:(d:Nat)->Ro d->List ByteArray
 | 0,t=>t.elim
 | d+1,.inl t=>t
 | d+1,.inr l=>l.flatMap (Ab d)
def Aq:(d:Nat)->Bool->Ro d->Nat->Prop
 | 0,_,t,_=>t.elim
 | d+1,root,.inl t,h=>h=0/\t.length<=4/\(root=true\/2<=t.length)
 | d+1,root,.inr l,h=>2<=l.length/\l.length<=4/\∃h',h=h'+1/\∀t,t∈l->Aq d false t h'
theorem Po {l:List Nat} (h:∀x,x∈l->k<=x):l.length*k<=l.sum:=by
 induction l with
 | nil=>simp
 | cons x l ih=>have j:=h x (by simp);have m:=ih (λy c=>h y (by simp[c]));simp only[UJ,List.sum_cons,Nat.add_mul,Nat.one_mul];omega
theorem Aq.nodes:∀{d:Nat} {root:Bool} {t:Ro d} {h:Nat},Aq d root t h->2 ^ h<=Ac d t
 | 0,root,t,h,hb=>t.elim
 | d+1,root,.inl t,h,hb=>by
  obtain⟨rfl,_⟩:=hb
  exact Uq _
 | d+1,root,.inr l,h,hb=>by
  obtain⟨p,_,j,rfl,c⟩:=hb
  have m:∀x,x∈l.map (Ac d)->2 ^ j<=x:=by
   intro x s
   obtain⟨t,q,rfl⟩:=List.mem_map.1 s
   exact Aq.nodes (c t q)
  have r:=Po m
  rw[UD] at r
  have u:2*2 ^ j<=l.length*2 ^ j:=Nat.mul_le_mul_right _ p
  show 2 ^ (j+1)<=1+(l.map (Ac d)).sum
  rw[Nat.pow_succ]
  omega
theorem Aq.low {d:Nat} {root:Bool} {t:Ro d} {h:Nat} (c:Aq d root t h) (r:Ac d t<=5000):h<=12:=by
 rcases Nat.lt_or_ge h 13 with q|q;.omega
 .have j:=c.nodes;have m:2 ^ 13<=2 ^ h:=Nat.pow_le_pow_right (by decide) q;have p:2 ^ 13=8192:=by decide
  omega
def Cj {T:Type} (f:Nat->Option (T × Nat)) (kd:Nat->Int) (x:Nat):Nat->Option (List T × Nat)
 | 0=>some ([],x)
 | k+1=>match Cj f kd x k with
  | some (ts,e)=>if kd k=(e:Int) then (match f e with
   | some (t,e')=>some (ts++[t],e')
   | none=>none) else none
  | none=>none
def G8 (x:Tn):List ByteArray:=(List.range x.kn).map x.ks
theorem AI (x:Tn):(G8 x).length=x.kn:=by simp[G8]
def gt (l:List ByteArray) (i:Nat):ByteArray:=l.getD i { data:=#[] }
theorem EG (x:Tn) (i:Nat) (h:i<x.kn):gt (G8 x) i=x.ks i:=by unfold gt G8;simp[Uw,h]
def AV (N:Nat->Tn) (n:Nat):(d:Nat)->Nat->Option (Ro d × Nat)
 | 0,_=>none
 | d
  + 1,x=>if x<n then
  (if (N x).lf=true then (if (N x).dn=0 then some (.inl (G8 (N x)),x+1) else none)
   else (if (N x).dn=0 then none else (match Cj (AV N n d) (N x).kd (x+1) (N x).dn with
   | some (ts,e)=>some (.inr ts,e)
   | none=>none)))
  else none
theorem Jk {T:Type} {f:Nat->Option (T × Nat)} {c:Nat->Int} {x m:Nat} (h:Cj f c x k=none) (j:k<=m):Cj f c x m=none:=by
 induction m with
 | zero=>
  have e:k=0:=by omega
  subst e;exact h
 | succ m ih=>
  by_cases e:k=m+1;.subst e;exact h
  .unfold Cj;rw[ih (by omega)]
theorem JY {T:Type} {f:Nat->Option (T × Nat)} {g:T->Nat} (c:∀x t e,f x=some (t,e)->e=x+g t) {j:Nat->Int} {x:Nat}:∀{k:Nat} {ts:List T} {e:Nat},Cj f j x k=some (ts,e)->e=x+(ts.map g).sum/\ts.length=k
 | 0,ts,e,h=>by
  simp only[Cj,Option.some.injEq,Prod.mk.injEq] at h
  obtain⟨rfl,rfl⟩:=h
  simp
 | k+1,ts,e,h=>by
  unfold Cj at h
  split at h
  .rename_i q A m
   obtain⟨u,r⟩:=JY c m
   split at h
   .split at h
    .rename_i t s p
     simp only[Option.some.injEq,Prod.mk.injEq] at h
     obtain⟨rfl,rfl⟩:=h
     have z:=c _ _ _ p
     simp only[List.map_append,List.sum_append,Uz,List.map_cons,List.map_nil,List.sum_cons,List.sum_nil,UJ,List.length_nil]
     exact⟨by omega,by omega⟩
    .cases h
   .cases h
  .cases h
theorem BJ {N:Nat->Tn} {n:Nat}:∀{d x:Nat} {t:Ro d} {e:Nat},AV N n d x=some (t,e)->e=x+Ac d t
 | 0,x,t,e,h=>t.elim
 | d+1,x,t,e,h=>by
  unfold AV at h
  split at h
  .split at h
   .split at h
    .injection h with h
     cases h
     rfl
    .cases h
   .split at h
    .cases h
    .split at h
     .rename_i m p c
      injection h with h
      cases h
      have q:=(JY (g:=Ac d) (λx t e j=>BJ j) c).1
      show e=x+(1+(m.map (Ac d)).sum)
      omega
     .cases h
  .cases h
end Go.Proofs.YtcnollkkigiobaaGreat
namespace Go.Proofs.YtcnollkkigiobaaGreat
open Go Go.Deep Go.RowKit Go.Proofs.Tryz
variable {S:Nat->Prop}{w:World}
def AN {T:Type} (P:T->Value->Prop):List T->List Value->Prop
 | [],[]=>True
 | t::ts,x0::x1::x2::xs=>P t (.agg #[x0,x1,x2])/\AN P ts xs
 | _,_=>False
theorem AN.len {T:Type} {P:T->Value->Prop}:∀{ts:List T} {xs:List Value},AN P ts xs->xs.length=ts.length*3
 | [],[],_=>rfl
 | t::ts,x0::x1::x2::xs,h=>by
  have:=AN.len h.2
  simp only[UJ]
  omega
 | [],x::xs,h=>h.elim
 | t::ts,[],h=>h.elim
 | t::ts,[x0],h=>h.elim
 | t::ts,[x0,x1],h=>h.elim
theorem AN.mono {T:Type} {P Q:T->Value->Prop} (c:∀t v,P t v->Q t v):∀{ts:List T} {xs:List Value},AN P ts xs->AN Q ts xs
 | [],[],_=>trivial
 | t::ts,x0::x1::x2::xs,h=>⟨c _ _ h.1,AN.mono c h.2⟩
 | [],x::xs,h=>h.elim
 | t::ts,[],h=>h.elim
 | t::ts,[x0],h=>h.elim
 | t::ts,[x0,x1],h=>h.elim
theorem AN.app {T:Type} {P:T->Value->Prop} {t:T} {c j m:Value} (p:P t (.agg #[c,j,m])):∀{ts:List T} {xs:List Value},AN P ts xs->AN P (ts++[t]) (xs++[c,j,m])
 | [],[],_=>⟨p,trivial⟩
 | t::ts,c::j::m::xs,h=>⟨h.1,AN.app p h.2⟩
 | [],x::xs,h=>h.elim
 | t::ts,[],h=>h.elim
 | t::ts,[c],h=>h.elim
 | t::ts,[c,j],h=>h.elim
theorem AN.get {T:Type} {P:T->Value->Prop}:∀{ts:List T} {xs:List Value},AN P ts xs->∀i (h:i<ts.length),∃c j m,xs[i*3]?=some c/\xs[i*3+1]?=some j/\xs[i*3+2]?=some m/\P ts[i] (.agg #[c,j,m])
 | [],[],_,i,hi=>absurd hi (Uu _)
 | t::ts,c::j::m::xs,h,0,hi=>⟨c,j,m,rfl,rfl,rfl,h.1⟩
 | t::ts,c::j::m::xs,h,i+1,hi=>by
  obtain⟨u,A,p,z,q,r,s⟩:=AN.get h.2 i (by simpa using hi)
  refine⟨u,A,p,?_,?_,?_,by simpa using s⟩
  .rw[show (i+1)*3=i*3+3 by omega];simpa using z
  .rw[show (i+1)*3+1=i*3+1+3 by omega];simpa using q
  .rw[show (i+1)*3+2=i*3+2+3 by omega];simpa using r
 | [],x::xs,h,_,_=>h.elim
 | t::ts,[],h,_,_=>h.elim
 | t::ts,[c],h,_,_=>h.elim
 | t::ts,[c,j],h,_,_=>h.elim
def TC (K:Option Addr->Nat->Nat->(Nat->ByteArray)->Prop) (t:List ByteArray) (v:Value):Prop:=
 ∃ka kc ca cc,v=.agg #[.bool true,.slice ka t.length kc,.slice ca 0 cc]/\K ka t.length kc (gt t)
def Av (K:Option Addr->Nat->Nat->(Nat->ByteArray)->Prop) (S:Nat->Prop) (w:World):(d:Nat)->Ro d->Value->Prop
 | 0,_,_=>False
 | d+1,.inl t,v=>TC K t v
 | d+1,.inr l,v=>∃ka kc b cc xs,v=.agg #[.bool false,.slice ka 0 kc,.slice (some (ad b 0)) l.length cc]/\(S b/\l.length<=cc/\cc<=9223372036854775807)/\b<w.heap.size/\0<l.length/\(∀j u,xs[j]?=some u->w.cell? (ad b j)=some u)/\AN (λt v=>Av K S w d t v) l xs
theorem Av.mono {K z : Option Addr->Nat->Nat->(Nat->ByteArray)->Prop} {S S' : Nat->Prop} {w w' : World} (E:∀a n c X,K a n c X->z a n c X) (A:∀b,S b->b<w.heap.size->S' b) (L:w.heap.size<=w'.heap.size) (D:∀b j,S b->b<w.heap.size->w'.cell? (ad b j)=w.cell? (ad b j)):∀{d:Nat} {t:Ro d} {v:Value},Av K S w d t v->Av z S' w' d t v
 | 0,_,_,h=>h
 | d+1,.inl t,v,h=>by
  obtain⟨m,q,O,p,rfl,r⟩:=h
  exact⟨m,q,O,p,rfl,E _ _ _ _ r⟩
 | d+1,.inr l,v,h=>by
  obtain⟨m,q,b,p,xs,rfl,s,C,M,J,r⟩:=h
  exact⟨m,q,b,p,xs,rfl,⟨A b s.1 C,s.2⟩,by omega,M,λj u I=>by rw[D b j s.1 C];exact J j u I,r.mono (λt v h=>Av.mono E A L D h)⟩
theorem Av.below {K:Option Addr->Nat->Nat->(Nat->ByteArray)->Prop} {w':World} {d:Nat} {t:Ro d} {v:Value} (h:Av K S w d t v) (m:Bl w w'):Av K S w' d t v:=
 h.mono (λ_ _ _ _ h=>h) (λ_ h _=>h) m.size (λb j _ c=>m.cell (p:=(ad b j)) c)
theorem Av.form {K:Option Addr->Nat->Nat->(Nat->ByteArray)->Prop}:∀{d:Nat} {t:Ro d} {v:Value},Av K S w d t v->∃r c q m p s j,v=.agg #[.bool r,.slice c q m,.slice p s j]
 | 0,_,_,h=>h.elim
 | d+1,.inl t,v,h=>by
  obtain⟨c,m,p,j,rfl,u⟩:=h
  exact⟨_,_,_,_,_,_,_,rfl⟩
 | d+1,.inr l,v,h=>by
  obtain⟨c,m,b,j,xs,rfl,D,C,z,A,u⟩:=h
  exact⟨_,_,_,_,_,_,_,rfl⟩
def NX (w:World) (b o n:Nat) (N:Nat->Tn) (KA DA:Nat->Option Addr) (KC DC:Nat->Nat):Prop:=
 ∀i,i<n->w.cell? (ad b (o+i*4))=some (.bool (N i).lf)/\w.cell? (ad b (o+i*4+1))=some (.slice (KA i) (N i).kn (KC i))/\
  w.cell? (ad b (o+i*4+2))=some (.slice (DA i) (N i).dn (DC i))/\w.cell? (ad b (o+i*4+3))=some (iv (N i).ct)/\Rd .i64 w (DA i) (N i).dn (N i).kd
theorem NX.below {w w' : World} {b o n:Nat} {N:Nat->Tn} {m u:Nat->Option Addr} {q z:Nat->Nat} (h:NX w b o n N m u q z) (c:Bl w w'):NX w' b o n N m u q z:=by
 intro i A;obtain⟨p,r,j,s,C⟩:=h i A;refine⟨?_,?_,?_,?_,C.below c⟩;.rw[c.cell (Uo _ _ p)];exact p
 .rw[c.cell (Uo _ _ r)];exact r
 .rw[c.cell (Uo _ _ j)];exact j
 .rw[c.cell (Uo _ _ s)];exact s
def Kx {T:Type} (P:World->(Nat->Prop)->T->Value->Prop) (w:World) (r:Option (T × Nat)) (n:Nat) (e:Ending) (w' : World):Prop:=
 Bl w w'/\∃lf ka kn kc ca cn cc x ok,e=.returned (.tuple #[.agg #[.bool lf,.slice ka kn kc,.slice ca cn cc],iv x,.bool ok])/\
  ((ok=false/\r=none)\/(ok=true/\∃t y,r=some (t,y)/\x=(y:Int)/\y<=n/\P w' (λb=>w.heap.size<=b) t (.agg #[.bool lf,.slice ka kn kc,.slice ca cn cc])))
variable {B base n:Nat}{e:TypeId}{v:Value}{w':World}{xs:List Value}
def Bx (w:World) (b:Nat) (t:TypeId) (cur:Array Value):Prop:=w.heap[b]?=some (.cells cur t (0,0))
namespace Bx
variable {w w' : World} {b:Nat} {t:TypeId} {cur:Array Value}
theorem new (w:World) (cur:Array Value) (t:TypeId):Bx (w.alloc (.cells cur t)) w.heap.size t cur:=blk_alloc_new _ _
theorem lt (h:Bx w b t cur):b<w.heap.size:=(Array.getElem?_eq_some_iff.1 h).1
theorem of_block (h:Bx w b t cur) (e:w'.heap[b]?=w.heap[b]?):Bx w' b t cur:=e.trans h
theorem below (h:Bx w b t cur) (c:Bl w w'):Bx w' b t cur:=h.of_block (c.block b h.lt)
theorem below' (h:Bx w b t cur) (c:Below B w w') (j:b<B):Bx w' b t cur:=h.of_block (c.block b j)
theorem cell (h:Bx w b t cur) (i:Nat):w.cell? (ad b i)=cur[i]?:=by unfold Bx at h;simp[World.cell?,h]
theorem frozen (h:Bx w b t cur) (i:Nat):w.frozen? (ad b i)=false:=by unfold Bx at h;simp[World.frozen?,h]
theorem set (h:Bx w b t cur) (i:Nat) (v:Value):Bx (w.setCell (ad b i) v) b t (cur.setIfInBounds i v):=by unfold Bx at h ⊢;simp[World.setCell,Array.getElem?_modify,h]
theorem other (h:Bx w b t cur) {p:Addr} (c:b≠p.block) (v:Value):Bx (w.setCell p v) b t cur:=h.of_block (Ur _ _ _ _ c)
theorem grown {row:Option Nat} (h:Bx w b t cur) (c:w.grownBy w' row) (j:row≠some b):Bx w' b t cur:=h.of_block (c.block b h.lt (λe=>j e.symm))
theorem alloc (h:Bx w b t cur) (o:Obj):Bx (w.alloc o) b t cur:=h.below (Aa _ _)
theorem drew (h:Bx w b t cur):Bx w.drew b t cur:=h
end Bx
theorem Ah {size:Nat} (h:w.ownsRow base e size v n xs):∀g,v.ownBlock=some g->base<=g/\g<w.heap.size:=by
 intro g c;rcases h.2 with ⟨rfl,_⟩|⟨q,m,cur,rfl,p,j,_⟩;.simp[Value.ownBlock] at c
 .simp[Value.ownBlock] at c;subst c;exact⟨p,(Array.getElem?_eq_some_iff.1 j).1⟩
theorem Af {size:Nat} (h:w.ownsRow base e size v n xs):∃a c,v=.slice a n c/\(n≠0->∃g,a=some (ad g 0)/\base<=g/\g<w.heap.size/\∀j u,xs[j]?=some u->w.cell? (ad g j)=some u):=by
 rcases h.2 with ⟨rfl,rfl⟩|⟨q,z,cur,rfl,r,p,C,A,D,s⟩;.exact⟨none,0,rfl,λh=>absurd rfl h⟩
 .refine⟨_,_,rfl,λ_=>⟨q,rfl,r,(Array.getElem?_eq_some_iff.1 p).1,λj u m=>?_⟩⟩;rw[<- s,List.getElem?_take] at m;split at m;.simp only[World.cell?,p];simpa using m
  .cases m
theorem Ag {size:Nat} (h:w.ownsRow base e size v n xs) (c:Bl w w'):w'.ownsRow base e size v n xs:=
 h.kept (w':=w') (row:=none) ⟨c.os,c.tape,c.output,c.size,λk j _=>c.block k j⟩ (by cases hv:v.ownBlock <;> simp)
theorem AS {size:Nat} {a:Option Addr} {c:Nat} (h:w.ownsRow base e size (.slice a n c) n xs):n<=c/\c<=9223372036854775807:=by
 rcases h.2 with ⟨q,rfl⟩|⟨g,m,cur,q,_,_,p,j,_⟩;.injection q with _ _ q;omega
 .injection q with _ _ q;unfold maxLen at j;omega
theorem AK {size:Nat} (h:w.ownsRow B e size v n xs) (s:∀g,v.ownBlock=some g->w'.heap[g]?=w.heap[g]?):w'.ownsRow B e size v n xs:=by
 refine⟨h.1,?_⟩;rcases h.2 with q|⟨g,c,cur,j,r,m,p⟩;.exact .inl q
 .exact .inr ⟨g,c,cur,j,r,(s g (by rw[j];rfl)).trans m,p⟩
theorem Dn {B':Nat} {size:Nat} (h:w.ownsRow B e size v n xs) (r:B'<=B):w.ownsRow B' e size v n xs:=by
 refine⟨h.1,?_⟩;rcases h.2 with q|⟨g,c,cur,m,p,j⟩;.exact .inl q
 .exact .inr ⟨g,c,cur,m,by omega,j⟩
theorem info9 : (prog.info? 9).map (λi=>(i.zero,i.size,i.bytes))=some (some (.string { data:=#[] }),1,16):=by kernel_rfl
theorem info2 : (prog.info? 2).map (λi=>(i.zero,i.size,i.bytes))=some (some (iv 0),1,8):=by kernel_rfl
theorem info168 : (prog.info? 168).map (λi=>(i.zero,i.size,i.bytes))=some (some (.agg #[.bool false,.slice none 0 0,.slice none 0 0,iv 0]),4,64):=by kernel_rfl
variable {d:Nat}
abbrev KR (w:World) (a:Option Addr) (n _c:Nat) (X:Nat->ByteArray):Prop:=Cg w a n X
def NA (w:World) (d:Nat) (t:Ro d) (v:Value):Prop:=Av (KR w) (λ_=>True) w d t v
def Nq (C:Nat->Nat->Prop) (w:World) (d:Nat) (t:Ro d) (v:Value):Prop:=Av (λa n c X=>Cg w a n X/\C n c) (λ_=>True) w d t v
theorem Nq.na {C:Nat->Nat->Prop} {t:Ro d} (h:Nq C w d t v):NA w d t v:=
 Av.mono (λ_ _ _ _ q=>q.1) (λ_ q _=>q) (Uq _) (λ_ _ _ _=>rfl) h
theorem NA.below {w w' : World} {d:Nat} {t:Ro d} {v:Value} (h:NA w d t v) (m:Bl w w'):NA w' d t v:=
 Av.mono (λ_ _ _ _ q=>q.below m) (λ_ q _=>q) m.size (λb j _ c=>m.cell (p:=(ad b j)) c) h
def Ap (L:List ByteArray):List Value:=L.map .string
theorem AF (L:List ByteArray):(Ap L).length=L.length:=by simp[Ap]
theorem Bv (L M:List ByteArray):Ap (L++M)=Ap L++Ap M:=by simp[Ap]
theorem LU (L:List ByteArray):Ap L=FU (gt L) L.length:=by
 apply List.ext_getElem?;intro i;by_cases h:i<L.length;.rw[F1 _ _ _ h];simp[Ap,gt,Uw,h]
 .have c:(Ap L)[i]?=none:=List.getElem?_eq_none (by rw[AF];omega);have j:(FU (gt L) L.length)[i]?=none:=List.getElem?_eq_none (by rw[Jy];omega);rw[c,j]
theorem AX {ops:Array Oper} {rest:List Oper} {o:Oper} {r:Act} {Q:Exit->Act->World->Prop} (J:o.guard=none) (s x:Operand)
  (ho:o.op=.call { callee:=.builtin .append,args:=#[s,x],argTypes:=#[88,88] })
  (B:Nat) (v:Value) (n:Nat) (xs:List Value) (hs:r.eval s=v) (q:w.ownsRow B 9 1 v n xs)
  (a:Option Addr) (m c:Nat) (L:List ByteArray) (hx:r.eval x=.slice a m c) (hm:m=L.length) (O:Cg w a m (gt L)) (ac:n+m<=1099511627776) (hB:B<=w.heap.size)
  (h:∀C w',w'.ownsRow B 9 1 C (n+m) (xs++Ap L)->w.grownBy w' v.ownBlock->(C.ownBlock=v.ownBlock\/C.ownBlock=some w.heap.size)->wpList prog ops Q rest (r.put o.dst C) w'):wpList prog ops Q (o::rest) r w:=by
 obtain⟨V,hi,ab,R,T⟩:=info_parts info9;by_cases M:m=0
 .subst M;have hL:=List.length_eq_zero_iff.1 hm.symm;subst hL;have E:Src prog V.size 88 (.slice a 0 c) 0 [] w:=by
   cases a with
   | none=>exact Src.ofNil w underlying88 c
   | some ad=>exact Src.ofSlice w underlying88 ad 0 c [] (by simp) (by simp) (by simp)
  have Z:∃b l p,v=.slice b l p/\l<=p:=by
   rcases q.2 with ⟨rfl,rfl⟩|⟨g,p,cur,rfl,_,_,Y,_⟩;.exact⟨none,0,0,rfl,Uq _⟩
   .exact⟨_,n,p,rfl,Y⟩
  obtain⟨b,l,p,aa,U⟩:=Z;have z:=run_append_nothing (P:=prog) w 88 88 o.type 9 V underlying88 hi b l p U (.slice a 0 c) E;rw[<- aa] at z;refine wpList_plain J λK hK=>?_;unfold Oper.wp;simp[execOp,ho,resolve,invoke,builtin,hs,hx,z,Result.andThen];exact hK _ _ (h v w (by simpa[Ap] using q) ⟨rfl,rfl,rfl,Uq _,λ_ _ _=>rfl⟩ (Or.inl rfl))
 .rcases O with h0|⟨b,A,rfl,hc⟩;.exact absurd h0 M
  .refine wpList_append_own_at w J s x 88 ho B 9 V (.string { data:=#[] }) 1 16 underlying88 hi ab R T rfl (by decide) v n xs hs q (ad b A) m c (Ap L) hx (by rw[AF];omega) (λj u D=>?_) (λu hu=>?_) (by unfold maxLen;omega) (by omega) hB (λC w' Y h2 _ h4=>h C w' Y h2 h4)
   .have I:j<m:=by have:=(List.getElem?_eq_some_iff.1 D).1;rw[AF] at this;omega
    rw[LU,<- hm,F1 _ _ _ I] at D;injection D with D;subst D;have e:(Addr.add (ad b A) j)=(ad b (A+j)):=by
     unfold Addr.add;by_cases h:j=0;.subst h;simp
     .simp[h]
    rw[e];exact hc j I
   .simp only[Ap,List.mem_map] at hu;obtain⟨i,_,rfl⟩:=hu;rfl
def Fl (w:World) (L:List ByteArray) (e:Ending) (w' : World):Prop:=
 ∃a c,e=.returned (.slice a L.length c)/\Cy w' w.heap.size a L.length (gt L)/\Bl w w'/\L.length<=c/\c<=9223372036854775807
theorem GF (c:Bool) (m r:Option Addr) (h q j p:Nat) (w:World):UO 122 #[.agg #[.bool c,.slice m h q,.slice r j p]] w (UP w (iv (if c=true then (h:Int) else (j:Int)))):=by
 cases c with
 | true=>go_enter func122,ntmps122;go_wp2;go_ret;exact⟨rfl,Aa _ _⟩
 | false=>go_enter func122,ntmps122;go_wp2;go_ret;exact⟨rfl,Aa _ _⟩
theorem Aw (W:World) (t:TypeId) (B size:Nat) (c:B<=W.heap.size):(W.alloc (.cells #[] t)).ownsRow B t size (.slice (some (ad W.heap.size 0)) 0 0) 0 []:=
 ⟨by simp,Or.inr ⟨W.heap.size,0,#[],rfl,c,blk_alloc_new _ _,Uq _,Us _,by simp,by simp⟩⟩
theorem BW {B:Nat} {n:Nat} {L:List ByteArray} (h:w.ownsRow B 9 1 v n (Ap L)) (j:n=L.length):∃a c,v=.slice a n c/\Cy w B a L.length (gt L)/\n<=c/\c<=9223372036854775807:=by subst j;rw[LU] at h;exact Ma h
theorem E3 {K:Option Addr->Nat->Nat->(Nat->ByteArray)->Prop} {S:Nat->Prop} {b:Nat} {l:List (Ro d)} {xs:List Value} (A:∀j u,xs[j]?=some u->w.cell? (ad b j)=some u) (I:AN (λt v=>Av K S w d t v) l xs) (k:Nat) (h:k<l.length) :
  ∃s c r p z q m,w.cell? (ad b (k*3))=some (.bool s)/\w.cell? (ad b (k*3+1))=some (.slice c r p)/\w.cell? (ad b (k*3+2))=some (.slice z q m)/\Av K S w d l[k] (.agg #[.bool s,.slice c r p,.slice z q m]):=by obtain⟨M,O,L,E,J,D,C⟩:=I.get k h;obtain⟨s,c,r,p,z,q,m,e⟩:=C.form;injection e with e;simp at e;obtain⟨rfl,rfl,rfl⟩:=e;exact⟨s,c,r,p,z,q,m,A _ _ E,A _ _ J,A _ _ D,C⟩
theorem Fy {T:Type} (f:T->List ByteArray) (l:List T) (k:Nat) (h:k<l.length):(l.take (k+1)).flatMap f=(l.take k).flatMap f++f l[k]:=by rw[<- List.take_append_getElem h,List.flatMap_append];simp
theorem Bk {T:Type} (f:T->List ByteArray) (l:List T) (k:Nat):((l.take k).flatMap f).length<=(l.flatMap f).length:=by
 conv=>rhs;rw[<- List.take_append_drop k l]
 rw[List.flatMap_append,Uz];omega
theorem Dj:∀(d:Nat) (t:Ro d),1<=Ac d t
 | 0,t=>t.elim
 | d+1,.inl _=>Uq _
 | d+1,.inr l=>by
  show 1<=1+(l.map (Ac d)).sum
  omega
theorem Gj (d:Nat) (l:List (Ro d)):l.length+1<=Ac (d+1) (.inr l):=by
 have h:=Po (l:=l.map (Ac d)) (k:=1) (λx c=>by obtain⟨t,_,rfl⟩:=List.mem_map.1 c;exact Dj d t)
 rw[UD] at h;show l.length+1<=1+(l.map (Ac d)).sum;omega
theorem Ra {l:List Nat} {x:Nat} (h:x∈l):x<=l.sum:=by
 induction l with
 | nil=>cases h
 | cons y l ih=>
  rw[List.sum_cons];rcases List.mem_cons.1 h with rfl|h;.omega
  .have:=ih h;omega
theorem EM (d:Nat) (l:List (Ro d)) (k:Nat) (h:k<l.length):Ac d l[k]+1<=Ac (d+1) (.inr l):=by have c:=Ra (l:=l.map (Ac d)) (x:=Ac d l[k]) (List.mem_map.2 ⟨_,UA h,rfl⟩);show Ac d l[k]+1<=1+(l.map (Ac d)).sum;omega
theorem GZ:∀(d:Nat) (t:Ro d) (v:Value) (w:World),NA w d t v->Ac d t<=6000->(Ab d t).length<=1099511627776->UO 58 #[v] w (Fl w (Ab d t)):=by
 intro d;induction d with
 | zero=>intro t;exact t.elim
 | succ d ih=>
  intro t v w hv al E;rcases t with t|l
  .obtain⟨c,z,ca,A,rfl,Z⟩:=hv;have HO:U (∀O:Obj,((w.alloc O).alloc (.cells #[] 9)).ownsRow (w.heap.size+1) 9 1 (.slice (some (ad (w.heap.size+1) 0)) 0 0) 0 []):=λO=>by simpa using Aw (w.alloc O) 9 (w.heap.size+1) 1 (by simp)
   have hl:t.length<=1099511627776:=E;clear E;obtain⟨m,hm⟩:∃m,m=t.length:=⟨_,rfl⟩;rw[<- hm] at Z hl ⊢;have HK:U (Cg w c m (gt t)):=Z;have HM:U (m=t.length):=hm;clear Z ih hm;go_enter func58,ntmps58;go_wp2_with (at_builtin;refine AX rfl _ _ rfl (w.heap.size+1) (.slice (some (ad (w.heap.size+1) 0)) 0 0) 0 [] rfl (HO.o _) c m z t rfl HM.o (HK.o.below ((Aa _ _).alloc (by simp) _)) (by omega) (by simp) ?_)
   intro v' w' ho hg aj;have HB:U (Bl w w'):=(((Aa _ _).alloc (by simp) _).grown hg (by simp;omega) (λk e=>by simp[Value.ownBlock] at e;omega));obtain⟨a',c',rfl,V,h2,h3⟩:=BW (L:=t) ho HM.o;have HE:U (Cy w' (w.heap.size+1) a' t.length (gt t)):=V;clear ho hg V;go_wp2;go_ret;refine⟨a',c',by rw[<- show m=(Ab (d+1) (Sum.inl t)).length from HM.o];rfl,HE.o.mono (by omega),HB.o,?_,h3⟩;rw[<- show m=(Ab (d+1) (Sum.inl t)).length from HM.o];exact h2
  .obtain⟨c,z,b,A,xs,rfl,_,hb,a1,hx,Z⟩:=hv;have HX:U ((∀j u,xs[j]?=some u->w.cell? (ad b j)=some u)/\AN (λt v=>Av (KR w) (λ_=>True) w d t v) l xs):=⟨hx,Z⟩;have ap:U (∀W:World,Bl w W->∀k (h:k<l.length),∃lf c kn z ca cn A,W.cell? (ad b (k*3))=some (.bool lf)/\W.cell? (ad b (k*3+1))=some (.slice c kn z)/\W.cell? (ad b (k*3+2))=some (.slice ca cn A)/\NA W d l[k] (.agg #[.bool lf,.slice c kn z,.slice ca cn A])):=by intro W hW k h;obtain⟨lf,c,kn,z,ca,cn,A,h0,V,h2,h3⟩:=E3 hx Z k h;exact⟨lf,c,kn,z,ca,cn,A,(hW.cell (p:=⟨b,_,none⟩) hb).trans h0,(hW.cell (p:=⟨b,_,none⟩) hb).trans V,(hW.cell (p:=⟨b,_,none⟩) hb).trans h2,NA.below h3 hW⟩
   have aa:U ((l.flatMap (Ab d)).length<=1099511627776):=E;have ax:U (∀(t:Ro d) (v:Value) (w:World),NA w d t v->Ac d t<=6000->(Ab d t).length<=1099511627776->UO 58 #[v] w (Fl w (Ab d t))):=ih;have an:l.length<=6000:=by have:=Gj d l;omega
   have ah:U (∀k (h:k<l.length),Ac d l[k]<=6000):=λk h=>by have:=EM d l k h;omega
   clear al;clear hx Z E ih;obtain⟨s,af⟩:∃s,s=l.length:=⟨_,rfl⟩;rw[<- af] at a1 an ⊢;have ao:U (s=l.length):=af;clear af;go_enter func58,ntmps58;go_upto_region 4 with fail
   have S1:U (Bx ((w.alloc (.cells #[.bool false,.slice c 0 z,.slice (some (ad b 0)) s A] 91)).alloc (.cells #[] 9)) w.heap.size 91 #[.bool false,.slice c 0 z,.slice (some (ad b 0)) s A]/\((w.alloc (.cells #[.bool false,.slice c 0 z,.slice (some (ad b 0)) s A] 91)).alloc (.cells #[] 9)).ownsRow (w.heap.size+1) 9 1 (.slice (some (ad (w.heap.size+1) 0)) 0 0) 0 []/\Bl w ((w.alloc (.cells #[.bool false,.slice c 0 z,.slice (some (ad b 0)) s A] 91)).alloc (.cells #[] 9))):=
    ⟨(Bx.new _ _ _).alloc _,by simpa using Aw (w.alloc (.cells #[.bool false,.slice c 0 z,.slice (some (ad b 0)) s A] 91)) 9 (w.heap.size+1) 1 (by simp),(Aa _ _).alloc (by simp) _⟩
   generalize ((w.alloc (.cells #[.bool false,.slice c 0 z,.slice (some (ad b 0)) s A] 91)).alloc (.cells #[] 9))=W at S1 ⊢;go_wp2;go_loopw [3,4] (λq i wr=>∃k C:Nat,k<=s/\i=iv k/\C=((l.take k).flatMap (Ab d)).length/\Bx wr w.heap.size 91 #[.bool false,.slice c 0 z,.slice (some (ad b 0)) s A]/\wr.ownsRow (w.heap.size+1) 9 1 q C (Ap ((l.take k).flatMap (Ab d)))/\Bl w wr) (λ_ i _=>s-(intOf i).toNat)
   case atStart=>exact⟨0,0,Us _,rfl,by simp,S1.o.1,S1.o.2.1,S1.o.2.2⟩
   case round=>
    obtain⟨k,C,Z,rfl,ar,M,J,Y⟩:=hrel;clear S1;obtain⟨qa,qc,rfl,_⟩:=Af J;have r:U (Bx wr w.heap.size 91 #[.bool false,.slice c 0 z,.slice (some (ad b 0)) s A]/\wr.ownsRow (w.heap.size+1) 9 1 (.slice qa C qc) C (Ap ((l.take k).flatMap (Ab d)))/\Bl w wr):=⟨M,J,Y⟩;have I:U (C=((l.take k).flatMap (Ab d)).length):=ar;have bb:C<=1099511627776:=by have:=Bk (Ab d) l k;have:=aa.o;omega
    have y2:=M.cell 2;simp at y2;have hz:=M.lt;clear M J Y ar;by_cases av:k<s
    .have ae:k<l.length:=by rw[<- ao.o];exact av
     obtain⟨a7,a0,a3,au,aw,az,a5,c0,c1,c2,am⟩:=ap.o wr r.o.2.2 k ae;have aq:U (NA wr d l[k] (.agg #[.bool a7,.slice a0 a3 au,.slice aw az a5])):=am;have ab:=Fy (Ab d) l k ae;have ag:U (C+(Ab d l[k]).length<=1099511627776):=by have V:=Bk (Ab d) l (k+1);rw[ab,Uz,<- I.o] at V;have:=aa.o;show C+(Ab d l[k]).length<=1099511627776;omega
     have bc:(0:Int)<=(k:Int):=by omega
     have bd:(k:Int)<(s:Int):=by omega
     clear am;go_wp2_with fail
     refine (ax.o l[k] _ _ aq.o (ah.o k ae) (by have:=ag.o;omega)).mono ?_;rintro e w2 ⟨a2,a6,he,ak,K,a9,a8⟩;have HM:=Ae ab;have a4:=Ae ak.rd;clear ak ab aq;generalize ay:Ab d l[k]=L2 at*
     obtain⟨n2,R⟩:=gn L2.length;rw[<- R] at he;subst he;have T:U (n2=L2.length/\C+n2<=1099511627776):=⟨R,by rw[R];exact ag.o⟩;have D:=Ae (ai (r.o.1.below K) (ai (Ag r.o.2.1 K) (r.o.2.2.trans (K.mono r.o.2.2.size))));clear R ay ag r K c0 c1 c2 y2;have ba:=D.o.1.lt;go_wp2_with (at_builtin;refine AX rfl _ _ rfl (w.heap.size+1) (.slice qa C qc) C _ rfl D.o.2.1 a2 n2 a6 L2 rfl T.o.1 (by rw[T.o.1];exact a4.o) T.o.2 (by omega) ?_)
     intro v' w5 ho hg aj;have HG:U (Bx w5 w.heap.size 91 #[.bool false,.slice c 0 z,.slice (some (ad b 0)) s A]/\w5.ownsRow (w.heap.size+1) 9 1 v' (C+n2) (Ap ((l.take (k+1)).flatMap (Ab d)))/\Bl w w5):=by refine⟨D.o.1.grown hg (λe=>by have:=Ah D.o.2.1 _ e;omega),?_,D.o.2.2.grown hg (by omega) (λg e=>by have:=Ah D.o.2.1 _ e;omega)⟩;rw[HM.o,Bv];exact ho
     obtain⟨va,vc,rfl,_⟩:=Af ho;clear ho hg aj D;go_wp2;go_roundw;case rel=>exact⟨k+1,C+n2,by omega,by go_num,by rw[HM.o,Uz,<- I.o,<- T.o.1],HG.o.1,HG.o.2.1,HG.o.2.2⟩
     case measure=>simp[intOf];omega
    .have e:k=s:=by omega
     subst e;have ac:U ((l.take k).flatMap (Ab d)=l.flatMap (Ab d)):=by show (l.take k).flatMap (Ab d)=l.flatMap (Ab d);rw[ao.o,UC]
     go_wp2;go_ret;obtain⟨a',c',e',V,h2,h3⟩:=BW r.o.2.1 I.o;injection e' with e1 _ e2;subst e1;subst e2;rw[ac.o] at V;refine⟨qa,qc,?_,V.mono (by omega),r.o.2.2,?_,h3⟩;.show Ending.returned (.slice qa C qc)=Ending.returned (.slice qa (l.flatMap (Ab d)).length qc);rw[<- ac.o,<- I.o]
     .show (l.flatMap (Ab d)).length<=qc;rw[<- ac.o,<- I.o];exact h2
theorem Es:∀(d:Nat) (t:Ro d) (v:Value) (w:World),NA w d t v->Ac d t<=5000->(Ab d t).length<=1099511627776->UO 58 #[v] w (Fl w (Ab d t)):=λd t v w h c=>GZ d t v w h (by omega)
def BA:(d:Nat)->Bool->Ro d->Int
 | 0,_,t=>t.elim
 | d+1,root,.inl t=>if 4<t.length then -1 else if t.length<2/\root=false then -1 else 0
 | d
  + 1,root,.inr l=>if 4<l.length then -1 else if l.length<2 then -1 else
  (match l with
  | []=>-1
  | t0::_=>if (∀t,t∈l->BA d false t=BA d false t0) then (if BA d false t0<0 then -1 else BA d false t0+1) else -1)
theorem F8 (d:Nat) (root:Bool) (t:List ByteArray):BA (d+1) root (.inl t)=if 4<t.length then -1 else if t.length<2/\root=false then -1 else 0:=rfl
theorem GG (d:Nat) (root:Bool) (l:List (Ro d)):BA (d+1) root (.inr l)=if 4<l.length then -1 else if l.length<2 then -1 else
   (match l with
   | []=>-1
   | t0::_=>if (∀t,t∈l->BA d false t=BA d false t0) then (if BA d false t0<0 then -1 else BA d false t0+1) else -1):=rfl
theorem Jb:∀{d:Nat} {root:Bool} {t:Ro d},0<=BA d root t->∃h:Nat,BA d root t=(h:Int)/\Aq d root t h
 | 0,root,t,_=>t.elim
 | d+1,root,.inl t,h=>by
  rw[F8] at h ⊢
  split at h
  .omega
  .rename_i p
   split at h
   .omega
   .rename_i j
    refine⟨0,by rw[if_neg p,if_neg j];rfl,rfl,by omega,?_⟩
    cases root
    .right
     simp at j
     omega
    .exact Or.inl rfl
 | d+1,root,.inr l,h=>by
  rw[GG] at h ⊢
  split at h
  .omega
  .rename_i p
   split at h
   .omega
   .rename_i j
    rw[if_neg p,if_neg j]
    cases l with
    | nil=>simp at j
    | cons z C=>
     simp only at h ⊢
     split at h
     .rename_i c
      split at h
      .omega
      .rename_i u
       obtain⟨m,e,A⟩:=Jb (d:=d) (root:=false) (t:=z) (by omega)
       refine⟨m+1,by rw[if_pos c,if_neg u,e];rfl,by omega,by omega,m,rfl,λt r=>?_⟩
       obtain⟨j,s,q⟩:=Jb (d:=d) (root:=false) (t:=t) (by rw[c t r];omega)
       rw[c t r,e] at s
       have:m=j:=by omega
       subst this
       exact q
     .omega
theorem E8:∀{d:Nat} {root:Bool} {t:Ro d} {h:Nat},Aq d root t h->BA d root t=(h:Int)
 | 0,root,t,_,_=>t.elim
 | d+1,root,.inl t,h,hb=>by
  obtain⟨rfl,q,j⟩:=hb
  rw[F8]
  rw[if_neg (by omega),if_neg (by rcases j with rfl|j <;> simp;omega)]
  rfl
 | d+1,root,.inr l,h,hb=>by
  obtain⟨j,q,s,rfl,c⟩:=hb
  rw[GG]
  rw[if_neg (by omega),if_neg (by omega)]
  cases l with
  | nil=>simp at j
  | cons r u=>
   have m:=E8 (c r (by simp))
   simp only
   rw[if_pos (λt p=>by rw[E8 (c t p),m]),if_neg (by omega),m]
   rfl
theorem ND:∀(d:Nat) (c:Bool) (t:Ro d),-1<=BA d c t/\BA d c t<=(d:Int)
 | 0,c,t=>t.elim
 | d+1,c,.inl t=>by
  rw[F8]
  split
  .omega
  .split <;> omega
 | d+1,c,.inr l=>by
  rw[GG]
  cases l with
  | nil=>simp;omega
  | cons h j=>
   have:=ND d false h
   simp only
   split
   .omega
   .split
    .omega
    .split
     .split <;> omega
     .omega
theorem OG:∀(d:Nat) (t:Ro d) (v:Value) (r:Bool) (w:World),NA w d t v->Ac d t<=5000->d<=21->UO 97 #[v,.bool r] w (UP w (iv (BA d r t))):=by
 intro d;induction d with
 | zero=>intro t;exact t.elim
 | succ d ih=>
  intro t v r w hv af bb;rcases t with t|l
  .obtain⟨K,J,ca,E,rfl,hk⟩:=hv;clear af ih hk;obtain⟨I,hI⟩:∃I,I=BA (d+1) r (.inl t):=⟨_,rfl⟩;rw[<- hI];rw[F8] at hI;obtain⟨m,hm⟩:∃m,m=t.length:=⟨_,rfl⟩;rw[<- hm] at hI ⊢;have HI:U (I=if 4<m then -1 else if m<2/\r=false then -1 else 0):=hI;clear hm hI;have Y:U (∀W:World,UO 122 #[.agg #[.bool true,.slice K m J,.slice ca 0 E]] W (UP W (iv (m:Int)))):=λW=>(GF true K ca m J 0 E W).mono (λe w' h=>⟨by simpa using h.1,h.2⟩);have z:U (∀O (C:World),Below (w.alloc O).heap.size (w.alloc O) C->Bl w C):=λO C h=>(Aa _ _).trans (h.mono (by simp));by_cases h4:4<m
   .have i4:(4:Int)<(m:Int):=by omega
    have am : decide ((4:Int)<(m:Int))=true:=decide_eq_true i4;go_enter func97,ntmps97;go_wp2_with fail
    refine (Y.o _).mono ?_;rintro e C ⟨rfl,c⟩;have A:U (Bl w C):=z.o _ _ c;clear c;go_wp2;go_ret;exact⟨by rw[HI.o,if_pos h4];rfl,A.o⟩
   .have i4:¬ (4:Int)<(m:Int):=by omega
    have am : decide ((4:Int)<(m:Int))=false:=decide_eq_false i4;by_cases h2:m<2
    .have i2:(m:Int)<2:=by omega
     have aj : decide ((m:Int)<2)=true:=decide_eq_true i2;cases r with
     | true=>
      go_enter func97,ntmps97;go_wp2_with fail
      refine (Y.o _).mono ?_;rintro e C ⟨rfl,c⟩;have s:U (Bx C w.heap.size 91 #[.bool true,.slice K m J,.slice ca 0 E]):=(Bx.new _ _ _).below c;have A:U (Bl w C):=z.o _ _ c;have D:=s.o.cell 0;have T:=s.o.cell 1;have M:=s.o.cell 2;simp at D T M;clear c;go_wp2_with fail
      refine (Y.o _).mono ?_;rintro e V ⟨rfl,q⟩;have R:U (Bx V w.heap.size 91 #[.bool true,.slice K m J,.slice ca 0 E]):=s.o.below q;have u:U (Bl w V):=A.o.trans (q.mono A.o.size);clear q D T M;have D:=R.o.cell 0;simp at D;go_wp2;go_ret;exact⟨by rw[HI.o,if_neg h4,if_neg (by simp)];rfl,u.o⟩
     | false=>
      go_enter func97,ntmps97;go_wp2_with fail
      refine (Y.o _).mono ?_;rintro e C ⟨rfl,c⟩;have s:U (Bx C w.heap.size 91 #[.bool true,.slice K m J,.slice ca 0 E]):=(Bx.new _ _ _).below c;have A:U (Bl w C):=z.o _ _ c;have D:=s.o.cell 0;have T:=s.o.cell 1;have M:=s.o.cell 2;simp at D T M;clear c;go_wp2_with fail
      refine (Y.o _).mono ?_;rintro e V ⟨rfl,q⟩;have u:U (Bl w V):=A.o.trans (q.mono A.o.size);clear q D T M;go_wp2;go_ret;exact⟨by rw[HI.o,if_neg h4,if_pos ⟨h2,trivial⟩];rfl,u.o⟩
    .have i2:¬ (m:Int)<2:=by omega
     have aj : decide ((m:Int)<2)=false:=decide_eq_false i2;go_enter func97,ntmps97;go_wp2_with fail
     refine (Y.o _).mono ?_;rintro e C ⟨rfl,c⟩;have s:U (Bx C w.heap.size 91 #[.bool true,.slice K m J,.slice ca 0 E]):=(Bx.new _ _ _).below c;have A:U (Bl w C):=z.o _ _ c;have D:=s.o.cell 0;have T:=s.o.cell 1;have M:=s.o.cell 2;simp at D T M;clear c;go_wp2_with fail
     refine (Y.o _).mono ?_;rintro e V ⟨rfl,q⟩;have R:U (Bx V w.heap.size 91 #[.bool true,.slice K m J,.slice ca 0 E]):=s.o.below q;have u:U (Bl w V):=A.o.trans (q.mono A.o.size);clear q D T M;have D:=R.o.cell 0;simp at D;go_wp2;go_ret;exact⟨by rw[HI.o,if_neg h4,if_neg (by intro h;omega)];rfl,u.o⟩
  .obtain⟨K,J,b,E,xs,rfl,_,hb,a8,hx,hk⟩:=hv;have a1:l.length<=5000:=by have:=Gj d l;omega
   have ah:U (∀W:World,Bl w W->∀k (h:k<l.length),∃lf K kn J ca cn E,W.cell? (ad b (k*3))=some (.bool lf)/\W.cell? (ad b (k*3+1))=some (.slice K kn J)/\W.cell? (ad b (k*3+2))=some (.slice ca cn E)/\NA W d l[k] (.agg #[.bool lf,.slice K kn J,.slice ca cn E])):=by intro W hW k h;obtain⟨lf,K,kn,J,ca,cn,E,h0,h1,h2,h3⟩:=E3 hx hk k h;exact⟨lf,K,kn,J,ca,cn,E,(hW.cell (p:=⟨b,_,none⟩) hb).trans h0,(hW.cell (p:=⟨b,_,none⟩) hb).trans h1,(hW.cell (p:=⟨b,_,none⟩) hb).trans h2,NA.below h3 hW⟩
   have az:U (∀W k (h:k<l.length) v,NA W d l[k] v->UO 97 #[v,.bool false] W (UP W (iv (BA d false l[k])))):=λW k h v hv=>ih l[k] v false W hv (by have:=EM d l k h;omega) (by omega);have a4:U (BA (d+1) r (.inr l)=if 4<l.length then -1 else if l.length<2 then -1 else if h:0<l.length then (if (∀k (h:k<l.length),BA d false l[k]=BA d false l[0]) then (if BA d false l[0]<0 then -1 else BA d false l[0]+1) else -1) else -1):=by
    show BA (d+1) r (.inr l)=_;rw[GG];cases l with
    | nil=>simp
    | cons t0 ts=>
     have e:(∀t,t∈t0::ts->BA d false t=BA d false t0)↔(∀k (h:k<(t0::ts).length),BA d false (t0::ts)[k]=BA d false (t0::ts)[0]):=by
      constructor;.intro h k hk;exact h _ (UA hk)
      .intro h t ht;obtain⟨k,hk,rfl⟩:=List.getElem_of_mem ht;exact h k hk
     rw[dif_pos (by simp)];simp only[e];rfl
   clear hx hk ih af;obtain⟨I,hI⟩:∃I,I=BA (d+1) r (.inr l):=⟨_,rfl⟩;rw[<- hI];have HI:U (I=if 4<l.length then -1 else if l.length<2 then -1 else if h:0<l.length then (if (∀k (h:k<l.length),BA d false l[k]=BA d false l[0]) then (if BA d false l[0]<0 then -1 else BA d false l[0]+1) else -1) else -1):=hI.trans a4.o;clear hI a4;obtain⟨m,hm⟩:∃m,m=l.length:=⟨_,rfl⟩;rw[<- hm] at a8 a1 ⊢;have HM:U (m=l.length):=hm;clear hm;have Y:U (∀W:World,UO 122 #[.agg #[.bool false,.slice K 0 J,.slice (some (ad b 0)) m E]] W (UP W (iv (m:Int)))):=λW=>(GF false K (some (ad b 0)) 0 J m E W).mono (λe w' h=>⟨by simpa using h.1,h.2⟩);have z:U (∀O (C:World),Below (w.alloc O).heap.size (w.alloc O) C->Bl w C):=λO C h=>(Aa _ _).trans (h.mono (by simp));by_cases h4:4<m
   .have i4:(4:Int)<(m:Int):=by omega
    have am : decide ((4:Int)<(m:Int))=true:=decide_eq_true i4;go_enter func97,ntmps97;go_wp2_with fail
    refine (Y.o _).mono ?_;rintro e C ⟨rfl,c⟩;have A:U (Bl w C):=z.o _ _ c;clear c;go_wp2;go_ret;exact⟨by rw[HI.o,if_pos (by rw[<- HM.o];exact h4)];rfl,A.o⟩
   .have i4:¬ (4:Int)<(m:Int):=by omega
    have am : decide ((4:Int)<(m:Int))=false:=decide_eq_false i4;by_cases h2:m<2
    .have i2:(m:Int)<2:=by omega
     have aj : decide ((m:Int)<2)=true:=decide_eq_true i2;have ab:U (I=-1):=by show I=-1;rw[HI.o,if_neg (by rw[<- HM.o];exact h4),if_pos (by rw[<- HM.o];exact h2)]
     cases r with
     | true=>
      go_enter func97,ntmps97;go_wp2_with fail
      refine (Y.o _).mono ?_;rintro e C ⟨rfl,c⟩;have s:U (Bx C w.heap.size 91 #[.bool false,.slice K 0 J,.slice (some (ad b 0)) m E]):=(Bx.new _ _ _).below c;have A:U (Bl w C):=z.o _ _ c;have D:=s.o.cell 0;have T:=s.o.cell 1;have M:=s.o.cell 2;simp at D T M;clear c;go_wp2_with fail
      refine (Y.o _).mono ?_;rintro e V ⟨rfl,q⟩;have R:U (Bx V w.heap.size 91 #[.bool false,.slice K 0 J,.slice (some (ad b 0)) m E]):=s.o.below q;have u:U (Bl w V):=A.o.trans (q.mono A.o.size);clear q D T M;have D:=R.o.cell 0;simp at D;go_wp2;go_ret;exact⟨by rw[ab.o];rfl,u.o⟩
     | false=>
      go_enter func97,ntmps97;go_wp2_with fail
      refine (Y.o _).mono ?_;rintro e C ⟨rfl,c⟩;have s:U (Bx C w.heap.size 91 #[.bool false,.slice K 0 J,.slice (some (ad b 0)) m E]):=(Bx.new _ _ _).below c;have A:U (Bl w C):=z.o _ _ c;have D:=s.o.cell 0;have T:=s.o.cell 1;have M:=s.o.cell 2;simp at D T M;clear c;go_wp2_with fail
      refine (Y.o _).mono ?_;rintro e V ⟨rfl,q⟩;have u:U (Bl w V):=A.o.trans (q.mono A.o.size);clear q D T M;go_wp2;go_ret;exact⟨by rw[ab.o];rfl,u.o⟩
    .have i2:¬ (m:Int)<2:=by omega
     have aj : decide ((m:Int)<2)=false:=decide_eq_false i2;have hp:0<l.length:=by rw[<- HM.o];omega
     have ab:U (I=if (∀k (h:k<l.length),BA d false l[k]=BA d false l[0]) then (if BA d false l[0]<0 then -1 else BA d false l[0]+1) else -1):=by show I=_;rw[HI.o,if_neg (by rw[<- HM.o];exact h4),if_neg (by rw[<- HM.o];exact h2),dif_pos hp]
     clear HI;go_enter func97,ntmps97;go_wp2_with fail
     refine (Y.o _).mono ?_;rintro e C ⟨rfl,c⟩;have s:U (Bx C w.heap.size 91 #[.bool false,.slice K 0 J,.slice (some (ad b 0)) m E]):=(Bx.new _ _ _).below c;have A:U (Bl w C):=z.o _ _ c;have D:=s.o.cell 0;have T:=s.o.cell 1;have M:=s.o.cell 2;simp at D T M;clear c;go_wp2_with fail
     refine (Y.o _).mono ?_;rintro e V ⟨rfl,q⟩;have R:U (Bx V w.heap.size 91 #[.bool false,.slice K 0 J,.slice (some (ad b 0)) m E]):=s.o.below q;have u:U (Bl w V):=A.o.trans (q.mono A.o.size);clear q D T M s A;have D:=R.o.cell 0;have M:=R.o.cell 2;simp at D M;obtain⟨ax,ap,av,ak,an,ao,aw,c0,c1,c2,aa⟩:=ah.o V u.o 0 hp;have ac:U (NA V d l[0] (.agg #[.bool ax,.slice ap av ak,.slice an ao aw])):=aa;simp only[Nat.zero_mul,UI] at c0 c1 c2;have im:(0:Int)<(m:Int):=by omega
     clear aa;go_wp2_with fail
     refine (az.o _ 0 hp _ ac.o).mono ?_;rintro e w3 ⟨rfl,au⟩;have ay:U (Bx w3 w.heap.size 91 #[.bool false,.slice K 0 J,.slice (some (ad b 0)) m E]):=R.o.below au;have a5:U (Bl w w3):=u.o.trans (au.mono u.o.size);have a9:=ND d false l[0];have hD:=ab.o;have a2:U (∀W:World,Bl w W->Bx W w.heap.size 91 #[.bool false,.slice K 0 J,.slice (some (ad b 0)) m E]->True):=λ_ _ _=>trivial;generalize BA d false l[0]=D0 at a9 hD ⊢;have HD:U (I=if (∀k (h:k<l.length),BA d false l[k]=D0) then (if D0<0 then -1 else D0+1) else -1):=hD;clear au D M c0 c1 c2 ac R u ab hD z a2;go_wp2;go_loopw [6] (λi wr=>∃k:Nat,k<=m/\i=iv k/\(∀j (h:j<l.length),j<k->BA d false l[j]=D0)/\Bx wr w.heap.size 91 #[.bool false,.slice K 0 J,.slice (some (ad b 0)) m E]/\Bl w wr) (λi _=>m-(intOf i).toNat)
     case atStart=>exact⟨0,Us _,rfl,λj _ h=>absurd h (Uu _),ay.o,a5.o⟩
     case round=>
      obtain⟨k,hk,rfl,L,z,ag⟩:=hrel;clear ay a5;have HA:U (∀j (h:j<l.length),j<k->BA d false l[j]=D0):=L;have s:U (Bx wr w.heap.size 91 #[.bool false,.slice K 0 J,.slice (some (ad b 0)) m E]):=z;have A:U (Bl w wr):=ag;have M:=z.cell 2;simp at M;clear L z ag;by_cases a7:k<m
      .have aq:k<l.length:=by rw[<- HM.o];exact a7
       obtain⟨ax,ap,av,ak,an,ao,aw,c0,c1,c2,aa⟩:=ah.o wr A.o k aq;have ac:U (NA wr d l[k] (.agg #[.bool ax,.slice ap av ak,.slice an ao aw])):=aa;have bc:(0:Int)<=(k:Int):=by omega
       have be:(k:Int)<(m:Int):=by omega
       clear aa;go_wp2_with fail
       refine (az.o _ k aq _ ac.o).mono ?_;rintro e w4 ⟨rfl,al⟩;have a6:U (Bx w4 w.heap.size 91 #[.bool false,.slice K 0 J,.slice (some (ad b 0)) m E]):=s.o.below al;have a3:U (Bl w w4):=A.o.trans (al.mono A.o.size);have HE:U (BA d false l[k]=BA d false l[k]):=rfl;obtain⟨Dk,ar⟩:∃Dk,BA d false l[k]=Dk:=⟨_,rfl⟩;rw[ar];have a0:U (BA d false l[k]=Dk):=ar;clear al M c0 c1 c2 ac s A ar HE;by_cases ae:Dk=D0
       .subst ae;have hq:(Dk != Dk)=false:=by simp
        go_wp2;go_roundw;case rel=>
         refine⟨k+1,by omega,by go_num,λj h hj=>?_,a6.o,a3.o⟩;by_cases e:j=k;.subst e;exact a0.o
         .exact HA.o j h (by omega)
        case measure=>simp[intOf];omega
       .have hq:(Dk != D0)=true:=by simpa using ae
        have bd:(!(Dk == D0))=true:=by simpa using ae
        have HR:U (I=-1):=by show I=-1;rw[HD.o,if_neg (λh=>ae (by rw[<- a0.o];exact h k aq))]
        go_wp2;go_ret;exact⟨by rw[HR.o];rfl,a3.o⟩
      .have e:k=m:=by omega
       subst e;have L:∀j (h:j<l.length),BA d false l[j]=D0:=λj h=>HA.o j h (by rw[HM.o];exact h);by_cases Z:D0<0
       .have ba : decide (D0<0)=true:=decide_eq_true Z;have HR:U (I=-1):=by show I=-1;rw[HD.o,if_pos L,if_pos Z]
        clear L;go_wp2;go_ret;exact⟨by rw[HR.o];rfl,A.o⟩
       .have ba : decide (D0<0)=false:=decide_eq_false Z;have HR:U (I=D0+1):=by show I=D0+1;rw[HD.o,if_pos L,if_neg Z]
        clear L;go_wp2;go_ret;exact⟨by rw[HR.o];rfl,A.o⟩
def Bg (x:Tn):Prop:=x.kn<=1048576/\x.dn<=1048576
def TI:Tn:=⟨false,0,λ_=>{ data:=#[] },0,λ_=>0,0⟩
def O8 (w:World) (P:Prop) (e:Ending) (w' : World):Prop:=∃b,e=.returned (.bool b)/\(b=true↔P)/\Bl w w'
variable {x y:ByteArray}
theorem A4:∀l:List UInt8,Op.bytesLess l l=false
 | []=>rfl
 | a::x=>by simp[Op.bytesLess,A4 x]
theorem AY:∀a b c:List UInt8,Op.bytesLess a b=true->Op.bytesLess b c=true->Op.bytesLess a c=true
 | _,[],_,h,_=>by simp[Op.bytesLess] at h
 | _,_::_,[],_,h=>by simp[Op.bytesLess] at h
 | [],_::_,_::_,_,_=>rfl
 | a::x,b::y,c::z,m,j=>by
  simp only[Op.bytesLess,Bool.or_eq_true,Bool.and_eq_true,decide_eq_true_eq,beq_iff_eq] at m j ⊢
  rcases m with m|⟨rfl,m⟩
  .rcases j with j|⟨rfl,j⟩
   .exact .inl (UInt8.lt_trans m j)
   .exact .inl m
  .rcases j with j|⟨rfl,j⟩
   .exact .inl j
   .exact .inr ⟨rfl,AY x y z m j⟩
theorem Cc:∀a b:List UInt8,(Op.bytesLess b a || b == a)=!Op.bytesLess a b
 | [],[]=>rfl
 | [],_::_=>rfl
 | _::_,[]=>rfl
 | a::x,b::y=>by
  have ih:=Cc x y
  simp only[Op.bytesLess]
  by_cases h:a=b
  .subst h
   have m:((a::y) == (a::x))=(y == x):=by simp
   rw[m]
   simp
   simpa using ih
  .have j : ¬ b=a:=λe=>h e.symm
   have q:(a == b)=false:=by simp[h]
   have m:(b == a)=false:=by simp[j]
   have p:((b::y) == (a::x))=false:=by simp[j]
   rw[q,m,p]
   simp
   by_cases c:a<b
   .simp[c]
    exact UInt8.le_of_lt c
   .simp[c]
    have:=UInt8.not_lt.1 c
    exact UInt8.lt_of_le_of_ne this j
theorem KO {X:Nat->ByteArray} {k:Nat} (h:∀m,m<k->0<m->Op.bytesLess (X (m-1)).toList (X m).toList=true) (p:Nat) (r:p<k):∀j,j<p->Op.bytesLess (X j).toList (X p).toList=true:=by
 induction p with
 | zero=>intro j q;omega
 | succ p ih=>
  intro j q;have c:=h (p+1) r (by omega);rw[show p+1-1=p from rfl] at c;by_cases e:j=p;.subst e;exact c
  .exact AY _ _ _ (ih (by omega) j (by omega)) c
theorem DG (h:x.toList=y.toList):x=y:=by rw[ByteArray.toList_eq,ByteArray.toList_eq] at h;cases x;cases y;simp only at h;rw[Array.toList_inj.1 h]
end Go.Proofs.YtcnollkkigiobaaGreat
namespace Go.Proofs.YtcnollkkigiobaaGreat
open Go Go.Proofs.Tryz
variable {P:Program}{Q:Exit->Act->World->Prop}{S:World->Prop}{a:Act}{ch:List Nat}{fuel i k late:Nat}{l:List Oper}{listed:Array Bool}{o oi x:Oper}{v:Value}{w:World}
section
variable {P:Program} {ops:Array Oper} {Q:Exit->Act->World->Prop} {md:Region.Mode} {S:World->Prop} {late:Nat}
def AG (P:Program) (md:Region.Mode) (ops:Array Oper) (Q:Exit->Act->World->Prop) (S:World->Prop) (late:Nat):Nat->Array Bool->Act->World->Prop
 | 0,listed,a,w=>Region.ready md ops listed=[]/\Q .normal a w
 | fuel+1,listed,a,w=>(Region.ready md ops listed=[]->Q .normal a w)/\
  ∀i∈Region.ready md ops listed,wpOp P ops Q i (λa' w'=>(i≠late->S w')/\AG P md ops Q S late fuel (listed.setIfInBounds i true) a' w') a w
theorem FL:∀(fuel:Nat) (listed:Array Bool) (a:Act) (w:World),AG P md ops Q S late fuel listed a w->wpAny P md ops Q fuel listed a w
 | 0,_,_,_,h=>h
 | fuel+1,_,_,_,h=>⟨h.1,λi c=>wpOp_mono (λm w' j=>FL fuel _ m w' j.2) (h.2 i c)⟩
def M5 (md:Region.Mode) (ops:Array Oper) (i:Nat) (ch:List Nat):Prop:=
 ∀c∈ch,c=i\/∃o,ops[c]?=some o/\∃e∈o.after,Region.binds md e=true/\e.on∈ch
theorem M5.not_ready (h:M5 md ops i ch) (I:∀c∈ch,listed.getD c true=false) {j:Nat} (z:j∈Region.ready md ops listed) (s:j≠i):j∉ch:=λJ=>by
 rcases h j J with h|⟨o,A,e,E,D,C⟩
 .exact s h
 .obtain⟨_,K,m,p⟩:=mem_ready.1 z
  rw[A] at m
  injection m with m
  subst m
  have q:=p e E D
  have u:=I _ C
  rcases Nat.lt_or_ge e.on listed.size with r | r
  .simp[r] at q u
   rw[u] at q
   cases q
  .simp[Array.getElem?_eq_none r] at q
theorem Kp (hi:ops[i]?=some oi) (u:∀(j:Nat) (o:Oper) T b,ops[j]?=some o->o.op≠.select T b)
  (hQ:∀c a w,Q (.panic c) (a.put oi.dst v) w->Q (.panic c) a w) (hw:M5 md ops i ch) (A:late∈ch) (ae:i≠late) :
  ∀(fuel:Nat) (listed:Array Bool) (a:Act) (w:World),
   (∀j z,ops[j]?=some z->j≠i->listed.getD j true=false->(∀e∈z.after,Region.binds md e=true->e.on≠i)->oi.apart ops z=true)->
   (∀c∈ch,listed.getD c true=false)->
   i∈Region.ready md ops listed->YieldsIf P ops S oi v a->S w->
   AG P md ops Q S late fuel (listed.setIfInBounds i true) (a.put oi.dst v) w->AG P md ops Q S late (fuel+1) listed a w:=by
 intro fuel;induction fuel with
 | zero=>
  intro listed a w _ _ D hy R H;refine⟨λh=>(by rw[h] at D;cases D),λj O=>?_⟩;by_cases m:j=i;.subst m;exact hy.wpOp hi R ⟨λ_=>R,H⟩
  .have:=ready_mono O m;rw[H.1] at this;cases this
 | succ fuel ih=>
  intro listed a w p I D hy R H;refine⟨λh=>(by rw[h] at D;cases D),λj O=>?_⟩;by_cases m:j=i;.subst m;exact hy.wpOp hi R ⟨λ_=>R,H⟩
  .have Y:=hw.not_ready I O m;have U:j≠late:=λe=>Y (e ▸ A);have E:=H.2 j (ready_mono O m);obtain⟨s,z,C,V⟩:=mem_ready.1 O;have K:∀e∈z.after,Region.binds md e=true->e.on≠i:=λe he hb aa=>by
    have E:=V e he hb;have h0:=(mem_ready.1 D).1;rw[aa] at E;rcases Nat.lt_or_ge i listed.size with h' | h';.simp[h'] at h0 E;rw[h0] at E;cases E
    .simp[Array.getElem?_eq_none h'] at E
   have h2:=wpOp_putIf C (p j z C m s K) (λT b=>u i oi T b hi) (λT b=>u j z T b C) hQ hy E;have q : ∀k L,ops[k]?=some L->k≠i->(listed.setIfInBounds j true).getD k true=false->
     (∀e∈L.after,Region.binds md e=true->e.on≠i)->oi.apart ops L=true:=λk L hk ac J ab=>by
    refine p k L hk ac ?_ ab
    by_cases r:j=k
    .subst r;exact s
    .rw[getD_set_ne true r] at J;exact J
   have M : ∀c∈ch,(listed.setIfInBounds j true).getD c true=false:=λc hc=>by have r:j≠c:=λe=>Y (e ▸ hc);rw[getD_set_ne true r];exact I c hc
   refine wpOp_mono (λa' w' Z=>⟨λ_=>Z.2.1 U,ih (listed.setIfInBounds j true) a' w' q M (ready_mono D (Ne.symm m)) Z.1 (Z.2.1 U) ?_⟩) h2;rw[Array.setIfInBounds_comm _ _ m];exact Z.2.2
def Dy (ops:Array Oper) (i:Nat):Nat->List Nat
 | 0=>[i]
 | n+1=>let l:=Dy ops i n
  l++(List.range ops.size).filter λj=>!l.contains j && (match ops[j]? with|some o=>o.after.any λe=>Region.binds .any e && l.contains e.on|none=>false)
def Db (ops:Array Oper) (listed:Array Bool) (i late:Nat) (ch:List Nat):Bool:=
 ch.contains late && i != late && ch.all λc=>!(listed.getD c true) && (c == i || (match ops[c]? with|some o=>o.after.any λe=>Region.binds .any e && ch.contains e.on|none=>false))
theorem LH (h:Db ops listed i late ch=true):late∈ch/\i≠late/\M5 .any ops i ch/\∀c∈ch,listed.getD c true=false:=by
 unfold Db at h;simp only[Bool.and_eq_true,List.all_eq_true,Bool.not_eq_true',Bool.or_eq_true,bne_iff_ne,ne_eq,List.contains_iff_mem,beq_iff_eq] at h;obtain⟨⟨p,q⟩,m⟩:=h;refine⟨p,q,λc j=>?_,λc j=>(m c j).1⟩;rcases (m c j).2 with h|h;.exact Or.inl h
 .cases ho:ops[c]? with
  | none=>rw[ho] at h;cases h
  | some o=>rw[ho] at h;simp only[Array.any_eq_true',Bool.and_eq_true,List.contains_iff_mem] at h;obtain⟨e,r,u,s⟩:=h;exact Or.inr ⟨o,rfl,e,r,u,s⟩
theorem Hj (n:Nat) (hi:ops[i]?=some oi)
  (D:Region.noSelect ops=true) (A:Region.free .any ops listed i=true) (s:(Region.ready .any ops listed).contains i=true) (j:Db ops listed i late (Dy ops i n)=true)
  (q:∀c a w,Q (.panic c) (a.put oi.dst v) w->Q (.panic c) a w) (p:YieldsIf P ops S oi v a) (r:S w)
  (h:AG P .any ops Q S late fuel (listed.setIfInBounds i true) (a.put oi.dst v) w):AG P .any ops Q S late (fuel+1) listed a w:=by obtain⟨u,m,z,C⟩:=LH j;exact Kp hi (Region.noSelect_spec D) q z u m fuel listed a w (Region.free_spec hi A) C (by simpa using s) p r h
theorem L3 (q:Region.ready md ops listed=[i]) (s:ops[i]?=some o)
  (h:∀c : Act->World->Prop,Shut (∀a w,(i≠late->S w)->((i≠late->S w)->AG P md ops Q S late fuel (listed.setIfInBounds i true) a w)->c a w)->if Region.wanted o (yielded ops a.tmps)=true then Oper.wp P o a w c Q else c (a.put o.dst undef) w) :
  AG P md ops Q S late (fuel+1) listed a w:=
 ⟨λp=>(by rw[q] at p;cases p),λj m=>by
  rw[q] at m
  have:j=i:=by simpa using m
  subst this
  exact wpOp_step s (λc z=>h c (λa w r u=>z a w ⟨r,u r⟩))⟩
theorem Lj (c:Region.ready md ops listed=[]) (h:Q .normal a w):∀fuel,AG P md ops Q S late fuel listed a w
 | 0=>⟨c,h⟩
 | _+1=>⟨λ_=>h,by rw[c];simp⟩
theorem Aj {id:Nat} (late:Nat) (c:P.follows .mixedOrders=true) (j:S w.drew)
  (h:S w.drew->AG P .any ops Q S late ops.size (Array.replicate ops.size false) a w.drew):(Code.region id ops true).wp P Q a w:=
 wp_region_any c (FL _ _ _ _ (h j))
end
def CW:Nat->List Oper->Oper->Prop
 | 0,y::_,x=>y=x
 | k+1,_::l,x=>CW k l x
 | _,[],_=>False
theorem CW.get:∀{k:Nat} {l:List Oper} {x:Oper},CW k l x->l.toArray[k]?=some x
 | 0,y::l,x,h=>by
  have e:y=x:=h
  simp[e]
 | k+1,y::l,x,h=>by
  have e:CW k l x:=h
  simpa using e.get
 | 0,[],_,h=>h.elim
 | k+1,[],_,h=>h.elim
theorem En (i:Nat) (u:CW i l oi) 
  (z:Region.noSelect l.toArray=true) (p:Region.free .any l.toArray listed i=true) (A:(Region.ready .any l.toArray listed).contains i=true) (j:Db l.toArray listed i late (Dy l.toArray i 8)=true)
  (r:∀c a w,Q (.panic c) (a.put oi.dst v) w->Q (.panic c) a w) (m:Region.wanted oi (yielded l.toArray a.tmps)=true) (q:∀w,S w->(execOp a.eval oi).run P w=.ok (.value v) w) (s:S w)
  (h:AG P .any l.toArray Q S late fuel (listed.setIfInBounds i true) (a.put oi.dst v) w):AG P .any l.toArray Q S late (fuel+1) listed a w:=
 Hj 8 u.get z p A j r (Or.inl ⟨m,q⟩) s h
theorem Pc (i:Nat) (j:CW i l o) (m:Region.ready .any l.toArray listed=[i]) 
  (h:∀c : Act->World->Prop,Shut (∀a w,(i≠late->S w)->((i≠late->S w)->AG P .any l.toArray Q S late fuel (listed.setIfInBounds i true) a w)->c a w)->if Region.wanted o (yielded l.toArray a.tmps)=true then Oper.wp P o a w c Q else c (a.put o.dst undef) w) :
  AG P .any l.toArray Q S late (fuel+1) listed a w:=L3 m j.get h
theorem At (i:Nat) (j:CW i l o)
  (h:∀c : Act->World->Prop,Shut (∀a w,(i≠late->S w)->((i≠late->S w)->AG P .any l.toArray Q S late fuel (listed.setIfInBounds i true) a w)->c a w)->if Region.wanted o (yielded l.toArray a.tmps)=true then Oper.wp P o a w c Q else c (a.put o.dst undef) w) (m:Region.ready .any l.toArray listed=[i]:=by kernel_rfl) :
  AG P .any l.toArray Q S late (fuel+1) listed a w:=Pc i j m h
theorem Ay:(∀(a:Act) (d:Tmp) (v:Value),a.put (some d) v={ a with tmps:=a.tmps.setIfInBounds d v })/\(∀(a:Act) (v:Value),a.put none v=a)/\(∀(l:List Value) (i:Nat) (x:Value),l.toArray.setIfInBounds i x=(l.set i x).toArray)/\(∀(l:List Value) (x y:Value),(x::l).set 0 y=y::l)/\(∀(l:List Value) (x y:Value) (n:Nat),(x::l).set (n+1) y=x::l.set n y):=⟨λ_ _ _=>rfl,λ_ _=>rfl,λ_ _ _=>List.setIfInBounds_toArray ..,λ_ _ _=>rfl,λ_ _ _ _=>rfl⟩
theorem tz {v:Value}{a':Act} (i:Nat) (r:CW i l oi)
 (h:AG P .any l.toArray Q S late fuel (listed.setIfInBounds i true) a' w) (m:∀w,S w->(execOp a.eval oi).run P w=.ok (.value v) w:=by (intro w h;(try dsimp only at h);go_simp<;>with_reducible rfl)) (z:a.put oi.dst v=a':=by (simp only[Ay];rfl)) (C:Region.noSelect l.toArray=true:=by kernel_rfl) (A:Region.free .any l.toArray listed i=true:=by kernel_rfl) (s:(Region.ready .any l.toArray listed).contains i=true:=by kernel_rfl) (j:Db l.toArray listed i late (Dy l.toArray i 8)=true:=by kernel_rfl)
 (p:∀c a w,Q (.panic c) (a.put oi.dst v) w->Q (.panic c) a w:=by exact λ_ _ _ h=>h) (u:Region.wanted oi (yielded l.toArray a.tmps)=true:=by rfl) (q:S w:=by assumption):AG P .any l.toArray Q S late (fuel+1) listed a w:=En i r C A s j p u m q (by rw[z];exact h)
theorem tZ {v:Value}{a':Act} (i:Nat) (r:CW i l oi)
 (h:AG P .any l.toArray Q S late fuel (listed.setIfInBounds i true) a' w) (m:∀w,S w->(execOp a.eval oi).run P w=.ok (.value v) w:=by (intro w h;(try dsimp only at h);go_simp<;>with_reducible rfl)) (z:a.put oi.dst v=a':=by (simp only[Ay];rfl)) (C:Region.noSelect l.toArray=true:=by kernel_rfl) (A:Region.free .any l.toArray listed i=true:=by kernel_rfl) (s:(Region.ready .any l.toArray listed).contains i=true:=by kernel_rfl) (j:Db l.toArray listed i late (Dy l.toArray i 8)=true:=by kernel_rfl)
 (p:∀c a w,Q (.panic c) (a.put oi.dst v) w->Q (.panic c) a w:=by exact λ_ _ _ h=>h) (u:Region.wanted oi (yielded l.toArray a.tmps)=true:=by rfl) (q:S w:=by assumption):AG P .any l.toArray Q S late (fuel+1) listed a w:=En i r C A s j p u m q (by rw[z];exact h)
theorem tL{S:World->Prop}{i late:Nat}{W K:Act->World->Prop}{a:Act}{w:World} (j:Shut (∀a w,(i ≠ late->S w)->((i ≠ late->S w)->W a w)->K a w)) (c:S w) (h:S w->W a w):K a w:=j.out a w (λ_=>c) (λ_=>h c)
theorem tM{P:Program}{S:World->Prop}{i late fuel:Nat}{l:List Oper}{Q:Exit->Act->World->Prop}{listed:Array Bool}{K:Act->World->Prop}{a:Act}{w:World} (j:Shut (∀a w,(i ≠ i->S w)->((i ≠ i->S w)->AG P .any l.toArray Q S late fuel listed a w)->K a w)) (h:Q .normal a w) (c:Region.ready .any l.toArray listed=[]:=by kernel_rfl):K a w:=j.out a w (λh=>absurd rfl h) (λ_=>Lj c h _)
end Go.Proofs.YtcnollkkigiobaaGreat
namespace Go.Proofs.YtcnollkkigiobaaGreat
open Go Go.Deep Go.RowKit Go.Proofs.Tryz
def kb (k:ByteArray) (i:Nat):Int:=match k[i]? with
 | some b=>(b.toNat:Int)
 | none=>0
theorem E0 {k:ByteArray} {i:Nat} (h:i<k.size):∃b:UInt8,k[i]?=some b/\kb k i=(b.toNat:Int):=by have e:=getElem?_pos k i h;exact⟨k[i],e,by unfold kb;rw[e]⟩
theorem Dv (k:ByteArray) (i:Nat):0<=kb k i/\kb k i<256:=by
 unfold kb;split
 .rename_i b _
  have:=b.toNat_lt;omega
 .omega
def F5 (k:ByteArray) (i:Nat):Nat->Int
 | 0=>0
 | n+1=>256*F5 k i n+kb k (4*i+n)
def pk (k:ByteArray) (i:Nat):Int:=F5 k i 4
theorem JC (k:ByteArray) (i:Nat):∀n,n<=4->0<=F5 k i n/\F5 k i n<4294967296:=by intro n q;have u:F5 k i 0=0:=rfl;have h:F5 k i 1=256*F5 k i 0+kb k (4*i+0):=rfl;have j:F5 k i 2=256*F5 k i 1+kb k (4*i+1):=rfl;have m:F5 k i 3=256*F5 k i 2+kb k (4*i+2):=rfl;have s:F5 k i 4=256*F5 k i 3+kb k (4*i+3):=rfl;have p:=Dv k (4*i+0);have c:=Dv k (4*i+1);have r:=Dv k (4*i+2);have z:=Dv k (4*i+3);rcases (show n=0\/n=1\/n=2\/n=3\/n=4 by omega) with rfl|rfl|rfl|rfl|rfl <;> omega
structure Qd where
 s:Int
 p:Int
 o:Int
 g:Int
def qv (q:Qd):Value:=.agg #[iv q.s,iv q.p,iv q.o,iv q.g]
def AM (perm i:Nat):Nat:=
 match perm,i with
 | 0,i=>i
 | 1,0=>1|1,1=>2|1,2=>0|1,_=>3
 | 2,0=>2|2,1=>0|2,2=>1|2,_=>3
 | 3,0=>3|3,1=>0|3,2=>1|3,_=>2
 | 4,0=>3|4,1=>1|4,2=>2|4,_=>0
 | _,0=>3|_,1=>2|_,2=>0|_,_=>1
def CK (perm s:Nat):Nat:=
 match perm,s with
 | 0,s=>s
 | 1,0=>2|1,1=>0|1,2=>1|1,_=>3
 | 2,0=>1|2,1=>2|2,2=>0|2,_=>3
 | 3,0=>1|3,1=>2|3,2=>3|3,_=>0
 | 4,0=>3|4,1=>1|4,2=>2|4,_=>0
 | _,0=>2|_,1=>3|_,2=>1|_,_=>0
def Al (perm:Nat) (k:ByteArray):Qd:=⟨pk k (CK perm 0),pk k (CK perm 1),pk k (CK perm 2),pk k (CK perm 3)⟩
def OT (perm:Nat) (k:ByteArray) (i s:Nat):Int:=if CK perm s<i then pk k (CK perm s) else 0
theorem Qu (perm:Nat) (c:perm<6) (k:ByteArray) (i:Nat) (hi:i<4):∀s,s<4->OT perm k (i+1) s=if s=AM perm i then pk k i else OT perm k i s:=by
 intro s h;rcases (show perm=0\/perm=1\/perm=2\/perm=3\/perm=4\/perm=5 by omega) with rfl|rfl|rfl|rfl|rfl|rfl <;>
 rcases (show i=0\/i=1\/i=2\/i=3 by omega) with rfl|rfl|rfl|rfl <;>
 rcases (show s=0\/s=1\/s=2\/s=3 by omega) with rfl|rfl|rfl|rfl <;> rfl
theorem DP (perm:Nat) (h:perm<6) (k:ByteArray) (s:Nat) (c:s<4):OT perm k 4 s=pk k (CK perm s):=by
 have:CK perm s<4:=by
  rcases (show perm=0\/perm=1\/perm=2\/perm=3\/perm=4\/perm=5 by omega) with rfl|rfl|rfl|rfl|rfl|rfl <;>
  rcases (show s=0\/s=1\/s=2\/s=3 by omega) with rfl|rfl|rfl|rfl <;> decide
 unfold OT;rw[if_pos this]
theorem DL (perm:Nat) (c:perm<6) (i:Nat) (hi:i<4):AM perm i<4:=by
 rcases (show perm=0\/perm=1\/perm=2\/perm=3\/perm=4\/perm=5 by omega) with rfl|rfl|rfl|rfl|rfl|rfl <;>
 rcases (show i=0\/i=1\/i=2\/i=3 by omega) with rfl|rfl|rfl|rfl <;> decide
def BP (x:Int):Bool:=decide (1<=x) && decide (x<=2000000000)
def AQ (q:Qd):Bool:=BP q.s && BP q.p && BP q.o && BP q.g
theorem Hl (perm:Nat) (c:perm<6) (w:World):UO 64 #[iv (perm:Int)] w λe w'=>e=.returned (.slice (some (ad w.heap.size 0)) 4 4)/\w'=w.alloc (.cells #[iv (AM perm 0:Int),iv (AM perm 1:Int),iv (AM perm 2:Int),iv (AM perm 3:Int)] 3):=by
 rcases (show perm=0\/perm=1\/perm=2\/perm=3\/perm=4\/perm=5 by omega) with rfl|rfl|rfl|rfl|rfl|rfl;all_goals
  go_enter func64,ntmps64
  go_wp2
  go_ret
  exact⟨rfl,rfl⟩
theorem Ky (x:Int) (w:World):UO 76 #[iv x] w λe w'=>e=.returned (.bool (BP x))/\w'=w:=by
 by_cases m:1<=x
 .have c:=decide_eq_true m;by_cases p:x<=2000000000
  .have j:=decide_eq_true p;have h:BP x=true:=by unfold BP;rw[c,j];rfl
   rw[h];clear h;go_enter func76,ntmps76;go_wp2;go_ret;exact⟨rfl,rfl⟩
  .have j:=decide_eq_false p;have h:BP x=false:=by unfold BP;rw[c,j];rfl
   rw[h];clear h;go_enter func76,ntmps76;go_wp2;go_ret;exact⟨rfl,rfl⟩
 .have c:=decide_eq_false m;have h:BP x=false:=by unfold BP;rw[c];rfl
  rw[h];clear h;go_enter func76,ntmps76;go_wp2;go_ret;exact⟨rfl,rfl⟩
theorem IC (q:Qd) (w:World):UO 41 #[qv q] w (UP w (.bool (AQ q))):=by
 have h:=Ae Ky;unfold AQ qv;go_enter func41,ntmps41;go_wp2_with fail
 (with_reducible refine (h.o _ _).mono ?_)
 rintro e j ⟨rfl,c⟩;subst c;cases h1:BP q.s with
 | false=>go_wp2;go_ret;exact⟨by rw[h1];rfl,Aa _ _⟩
 | true=>
 go_wp2_with fail
 (with_reducible refine (h.o _ _).mono ?_)
 rintro e j ⟨rfl,c⟩;subst c;cases h2:BP q.p with
 | false=>go_wp2;go_ret;exact⟨by rw[h1,h2];rfl,Aa _ _⟩
 | true=>
 go_wp2_with fail
 (with_reducible refine (h.o _ _).mono ?_)
 rintro e j ⟨rfl,c⟩;subst c;cases h3:BP q.o with
 | false=>go_wp2;go_ret;exact⟨by rw[h1,h2,h3];rfl,Aa _ _⟩
 | true=>
 go_wp2_with fail
 (with_reducible refine (h.o _ _).mono ?_)
 rintro e j ⟨rfl,c⟩;subst c;cases h4:BP q.g with
 | false=>go_wp2;go_ret;exact⟨by rw[h1,h2,h3,h4];rfl,Aa _ _⟩
 | true=>go_wp2;go_ret;exact⟨by rw[h1,h2,h3,h4];rfl,Aa _ _⟩
def NV (perm:Nat) (k:ByteArray) (i:Nat):Array Value:=#[iv (OT perm k i 0),iv (OT perm k i 1),iv (OT perm k i 2),iv (OT perm k i 3)]
theorem M4 (perm:Nat) (c:perm<6) (k:ByteArray) (i:Nat) (hi:i<4):(NV perm k i).setIfInBounds (AM perm i) (iv (pk k i))=NV perm k (i+1):=by have h:=Qu perm c k i hi;have j:=DL perm c i hi;unfold NV;rw[h 0 (by omega),h 1 (by omega),h 2 (by omega),h 3 (by omega)];generalize AM perm i=o at j ⊢;rcases (show o=0\/o=1\/o=2\/o=3 by omega) with rfl|rfl|rfl|rfl <;> simp
def QZ (perm:Nat):Array Value:=#[iv (AM perm 0:Int),iv (AM perm 1:Int),iv (AM perm 2:Int),iv (AM perm 3:Int)]
theorem O4 (perm i:Nat) (hi:i<4):(QZ perm)[i]?=some (iv (AM perm i:Int)):=by rcases (show i=0\/i=1\/i=2\/i=3 by omega) with rfl|rfl|rfl|rfl <;> rfl
theorem Dh (perm:Nat) (k:ByteArray) (j i:Nat) (hi:i<4):(NV perm k j)[i]?=some (iv (OT perm k j i)):=by rcases (show i=0\/i=1\/i=2\/i=3 by omega) with rfl|rfl|rfl|rfl <;> rfl
structure T4 (w W:World) (perm:Nat) (k:ByteArray) (i:Nat):Prop where
 rb:Bx W w.heap.size 34 #[iv 0,iv 0,iv 0,iv 0]
 ob:Bx W (w.heap.size+1) 3 (QZ perm)
 pb:Bx W (w.heap.size+2) 2 (NV perm k i)
 bel:Bl w W
theorem Jj (perm:Nat) (hp:perm<6) (key:ByteArray) (hk:key.size=16) (w:World):UO 59 #[.string key,iv (perm:Int)] w (UP w (qv (Al perm key))):=by
 have HO:=Ae (λW=>Hl perm hp W);have s:=Ae (ai hk hp);clear hk hp;go_enter func59,ntmps59;go_wp2_with fail
 (with_reducible refine (HO.o _).mono ?_)
 rintro e w1 ⟨rfl,h⟩;have Q0:U (T4 w (w1.alloc (.cells #[iv 0,iv 0,iv 0,iv 0] 2)) perm key 0):=by subst h;have b1:=Bx.new w #[iv 0,iv 0,iv 0,iv 0] 34;have b2:=Bx.new (w.alloc (.cells #[iv 0,iv 0,iv 0,iv 0] 34)) (QZ perm) 3;have b3:=Bx.new ((w.alloc (.cells #[iv 0,iv 0,iv 0,iv 0] 34)).alloc (.cells (QZ perm) 3)) #[iv 0,iv 0,iv 0,iv 0] 2;simp only[UF] at b2 b3;exact⟨(b1.alloc _).alloc _,b2.alloc _,b3,((Aa _ _).alloc (by simp) _).alloc (by simp;omega) _⟩
 have aa:w1.heap.size=w.heap.size+2:=by rw[h];simp
 have I:(w.alloc (.cells #[iv 0,iv 0,iv 0,iv 0] 34)).heap.size=w.heap.size+1:=by simp
 rw[I];clear h HO I;go_upto_region 3 with fail
 generalize w1.alloc (.cells #[iv 0,iv 0,iv 0,iv 0] 2)=W0 at Q0 ⊢;clear aa;go_wp2;go_loopw [7,8,9] (λi _ _ wr=>∃O:Nat,O<=4/\i=iv O/\T4 w wr perm key O) (λi _ _ _=>4-(intOf i).toNat)
 case atStart=>exact⟨0,by omega,rfl,Q0.o⟩
 case round=>
  obtain⟨i,hi,rfl,hq⟩:=hrel;obtain⟨W1,rfl⟩:=gn wr;have c:=Ae hq;clear hq Q0;by_cases r:i<4
  .go_wp2;go_loopw [8,9] (λx n wr=>∃nn:Nat,nn<=4/\n=iv nn/\x=iv (F5 key i nn)/\wr=W1) (λ_ n _=>4-(intOf n).toNat)
   case atStart=>exact⟨0,by omega,rfl,rfl,rfl⟩
   case round=>
    obtain⟨n,hn,rfl,rfl,rfl⟩:=hrel;obtain⟨x,hx⟩:=gn (F5 key i n);have HX:=Ae hx;have D:=JC key i n hn;rw[<- hx] at D ⊢;clear hx;by_cases aj:n<4
    .obtain⟨ac,eb,m⟩:=E0 (k:=key) (i:=4*i+n) (by rw[s.o.1];omega);have L:=Dv key (4*i+n);obtain⟨b,hb⟩:=gn (kb key (4*i+n));have ab:=Ae hb;rw[<- hb] at L m;have af:∀W:World,(Instr.index 9 (.string key) (iv (4*(i:Int)+(n:Int)))).run prog W=.ok (.int .u8 b) W:=λW=>by
      have e1:(4*(i:Int)+(n:Int)).toNat=4*i+n:=by omega
      have e2:(0:Int)<=4*(i:Int)+(n:Int):=by omega
      simp[Instr.index,go_sem,e1,e2,eb,m]
     clear hb eb m;have HN:U (256*x+b=F5 key i (n+1)):=by show 256*x+b=F5 key i (n+1);rw[HX.o,ab.o];rfl
     obtain⟨ae,ak⟩:=D;obtain⟨ah,ag⟩:=L;go_wp2;go_roundw;case rel=>exact⟨n+1,by omega,by go_num,by rw[<- HN.o],by first|rfl|trivial⟩
     case measure=>simp[intOf];omega
    .obtain rfl:n=4:=by omega
     have C:U (x=pk key i):=HX.o;have J:AM perm i<4:=DL perm s.o.2 i r;obtain⟨o,M⟩:∃o,o=AM perm i:=⟨_,rfl⟩;have E:U (o=AM perm i):=M;rw[<- M] at J;have c1:wr.cell? (ad (w.heap.size+1) i)=some (iv (o:Int)):=by rw[c.o.ob.cell i,O4 perm i r,<- M]
     have c2:wr.cell? (ad (w.heap.size+2) o)=some (iv (OT perm key i o)):=by rw[c.o.pb.cell o,Dh perm key i o J]
     have f2:=c.o.pb.frozen o;have l2:=c.o.pb.lt;have i0:(0:Int)<=(i:Int):=by omega
     have i1:(i:Int)<4:=by omega
     have o0:(0:Int)<=(o:Int):=by omega
     have o1:(o:Int)<4:=by omega
     have HS:U (T4 w (wr.setCell (ad (w.heap.size+2) o) (iv x)) perm key (i+1)):=by have q:=c.o;refine⟨q.rb.other (by simp) _,q.ob.other (by simp) _,?_,q.bel.setCell (by simp) _⟩;have e:=q.pb.set o (iv x);rw[E.o,C.o,M4 perm s.o.2 key i r] at e;rw[E.o,C.o];exact e
     clear M;go_wp2;go_roundw;case rel=>exact⟨i+1,by omega,by go_num,HS.o⟩
     case measure=>simp[intOf];omega
  .obtain rfl:i=4:=by omega
   have R:=c.o.pb.cell 0;have T:=c.o.pb.cell 1;have p2:=c.o.pb.cell 2;have Z:=c.o.pb.cell 3;rw[Dh perm key 4 0 (by omega),DP perm s.o.2 key 0 (by omega)] at R;rw[Dh perm key 4 1 (by omega),DP perm s.o.2 key 1 (by omega)] at T;rw[Dh perm key 4 2 (by omega),DP perm s.o.2 key 2 (by omega)] at p2;rw[Dh perm key 4 3 (by omega),DP perm s.o.2 key 3 (by omega)] at Z;obtain⟨Y,u⟩:=gn (pk key (CK perm 0));obtain⟨q1,A⟩:=gn (pk key (CK perm 1));obtain⟨V,z⟩:=gn (pk key (CK perm 2));obtain⟨q3,p⟩:=gn (pk key (CK perm 3));rw[<- u] at R;rw[<- A] at T;rw[<- z] at p2;rw[<- p] at Z;have HV:U (qv (Al perm key)=.agg #[iv Y,iv q1,iv V,iv q3]):=by show qv (Al perm key)=_;rw[u,A,z,p];rfl
   clear u A z p;have z0:=c.o.rb.cell 0;have z1:=c.o.rb.cell 1;have z2:=c.o.rb.cell 2;have z3:=c.o.rb.cell 3;simp at z0 z1 z2 z3;have zf:=λi=>c.o.rb.frozen i;have zl:=c.o.rb.lt;go_upto_region 12 with fail
   refine Aj (S:=λw'=>w'.cell? (ad (w.heap.size+2) 0)=some (iv Y)/\w'.cell? (ad (w.heap.size+2) 1)=some (iv q1)/\w'.cell? (ad (w.heap.size+2) 2)=some (iv V)/\w'.cell? (ad (w.heap.size+2) 3)=some (iv q3)) 13 (by kernel_rfl) ⟨R,T,p2,Z⟩ (λj=>?_);refine tz 0 rfl ?_;refine tz 1 rfl ?_;refine tz 2 rfl ?_;refine tz 3 rfl ?_;refine tz 4 rfl ?_;refine tz 5 rfl ?_;refine tz 6 rfl ?_;refine tz 7 rfl ?_;refine tz 8 rfl ?_;refine tz 9 rfl ?_;refine tz 10 rfl ?_;refine tz 11 rfl ?_;refine tz 12 rfl ?_;refine At 13 rfl (λK hK=>?_);go_simp;refine tM hK ?_;clear hK K;have HB:=Ae (ai c.o.bel.drew c.o.rb.drew);clear j;go_wp2;refine bodyPost_ret (v:=.agg #[iv Y,iv q1,iv V,iv q3]) (by simp[results,results59,go_sem,z0,z1,z2,z3]) rfl ⟨by rw[HV.o],?_⟩;exact (((HB.o.1.setCell (by simp) _).setCell (by simp) _).setCell (by simp) _).setCell (by simp) _
end Go.Proofs.YtcnollkkigiobaaGreat
namespace Go.Proofs.YtcnollkkigiobaaGreat
open Go Go.ChangeAt Go.ChangeShapes Go.Deep Go.Joins Go.RowKit Go.WideShapes Go.Proofs.Tryz
variable {v:Value}
section
variable {H:Type} {enc:TypeId × Value->H} {W:World}
theorem Rm {w:World} {a:Addr} (h:w.cell? (a.add 0)=some v):a.spot=none:=by obtain⟨b,j,c⟩:=a;simpa[Addr.add] using World.cell?_spot h
theorem Su {b c i:Nat}:(Addr.add (ad b c) i)=(ad b (c+i)):=by
 unfold Addr.add;by_cases h:i=0;.subst h;simp
 .simp[h]
set_option maxRecDepth 100000 in
theorem Ql {fuel:Nat} {cs:List Value} {x:DataW H × List MemPlace} (h:DataW.trod enc prog W 0 (λ_=>true) true fuel 47 cs=some x) :
  ∃a n c f,cs=[.slice a n c]/\Rd .u8 W a n f/\(∀i,i<n->0<=f i/\f i<256)/\n<=maxLen:=by
 rcases open_ints underlying47 underlying5 (by kernel_rfl) h with ⟨m,_⟩|⟨y,l,c,p,m,_,I,J,z,_,j,r⟩;.exact⟨none,0,0,λ_=>0,m,Or.inl rfl,λi s=>absurd s (Uu _),Us _⟩
 .refine⟨_,l,c,λi=>p.getD i 0,m,?_,λi s=>?_,by omega⟩
  .by_cases D:l=0;.exact Or.inl D
   .simp at z;obtain⟨b,u,A⟩:=y;have C:=Rm (j 0 (by omega));simp at C;subst C;exact Or.inr ⟨b,u,rfl,λi s=>by rw[<- Su];exact j i (by omega)⟩
  .simp at z;have q:i<p.length:=by omega
   have E:=r (p.getD i 0) (by rw[Uw,Ut q];exact UA q);have:=bounds_u8 E;show 0<=p.getD i 0/\p.getD i 0<256;omega
def IsBytesR (w:World) (v:Value):Prop:=∃a n c f,v=.slice a n c/\Rd .u8 w a n f/\(∀i,i<n->0<=f i/\f i<256)/\n<=maxLen
theorem openByteR {r:Reach} {q:Nat} {d:DataW H} {p:List MemPlace} (u:Value.okWide prog W r q 47 v) (h:DataW.Trod enc prog W 0 (λ_=>true) true 47 v d p):IsBytesR W v:=by obtain⟨E,C,D,rfl⟩:=okWide_slice underlying47 u;obtain⟨fuel,A⟩:=h;obtain⟨a,n,c,f,j,s,z,m⟩:=Ql A;simp[Value.cells] at j;obtain⟨rfl,rfl,rfl⟩:=j;exact⟨_,_,_,f,rfl,s,z,m⟩
end
end Go.Proofs.YtcnollkkigiobaaGreat
