import Derived.Test.YtacpbofiipdodaaGreatNv16
import Derived.Test.YtacpbofiipdodaaGreatNv18
set_option linter.unusedVariables false
set_option linter.unusedSimpArgs false
set_option maxRecDepth 100000
set_option maxHeartbeats 90000000
namespace Go.Proofs.YtacpbofiipdodaaGreat
open Go Go.Deep Go.RowKit
variable {L:List Int}{Q:List Qd}{c:Cx}{ch x:Int}{id:ByteArray->Int}{s t:ByteArray}
def DD (k:Int) (q:Qd):Int:=if k=4 then q.o else q.s
def Gi (k:Int) (q:Qd):Int:=if k=3 then q.o else q.s
def AH (L:List Int) (x:Int):List Int:=if L.contains x=true then L else L++[x]
theorem F7 {y:Int}:y∈AH L x↔y∈L\/y=x:=by
 unfold AH;split
 .rename_i h
  have hx:x∈L:=by simpa using h
  exact⟨.inl,λq=>q.elim id (λe=>by rw[e];exact hx)⟩
 .simp
theorem Eg (h:L.Nodup):(AH L x).Nodup:=by
 unfold AH;split;.exact h
 .rename_i hc
  have hx:x∉L:=by simpa using hc
  rw[List.nodup_append];refine⟨h,by simp,λa ha b hb=>?_⟩;simp at hb;intro e;rw[hb] at e;exact hx (e ▸ ha)
theorem Qf {L:List Int} {x:Int}:(AH L x).length<=L.length+1:=by unfold AH;split <;> simp
def Av (k:Int) (big:Bool) (x:List Int):List Qd->List Int × Nat->List Int × Nat
 | [],r=>r
 | q::qs,r=>Av k big x qs (if x.contains (DD k q)=true then (AH r.1 (Gi k q),r.2+1) else if big=true then (r.1,r.2+1) else r)
def BO:List Qd->List Int->List Int
 | [],o=>o
 | q::qs,o=>BO qs (AH (AH o q.s) q.o)
def Bq:List Int->List Int->List Int
 | o,[]=>o
 | o,y::b=>Bq (AH o y) b
def D8 (k:Int) (a b:List Int):List Int:=if k=7 then Bq a b else a.filter (λy=>b.contains y == decide (k=6))
def B3 (k:Int) (a b:List Int × Nat):List Int × Nat:=if a.1.isEmpty=true/\¬ k=7 then a else (D8 k a.1 b.1,a.2+b.2)
def AV (id:ByteArray->Int) (Q:List Qd) (k:Int) (s t:ByteArray) (ch:Int) (c:Cx) (a b:List Int × Nat):List Int × Nat:=
 if k=1 then (BO (Cl Q c ⟨0,0,0,0⟩) [],(Cl Q c ⟨0,0,0,0⟩).length)
 else if k=2 then (if 0<id s/\0<(Cl Q c ⟨id s,0,0,0⟩).length+(Cl Q c ⟨0,0,id s,0⟩).length then ([id s],0) else ([],0))
 else if k=6 then (if ch=1 then B3 6 b a else B3 6 a b)
 else if k=7\/k=8 then B3 k a b
 else if k=9 then a
 else if id s=0\/(k=5/\id t=0) then ([],0)
 else Av k (decide (6<=ch)) a.1 (Cl Q c ⟨0,id s,if k=5 then id t else 0,0⟩) ([],a.2)
def PS (id:ByteArray->Int) (Q:List Qd) (I:Nat->Int) (X R:Nat->ByteArray) (Ch:Nat->Int):Nat->Nat->Cx->List Int × Nat
 | 0,_,_=>([],0)
 | f
  + 1,i,c=>AV id Q (I i) (X i) (R i) (Ch i) c
  (if AK (At I) i 0<i then PS id Q I X R Ch f (AK (At I) i 0) (DU id (I i) (X i) c) else ([],0))
  (if AK (At I) i 1<i then PS id Q I X R Ch f (AK (At I) i 1) (DU id (I i) (X i) c) else ([],0))
theorem Lf (id:ByteArray->Int) (Q:List Qd) (I:Nat->Int) (X R:Nat->ByteArray) (Ch:Nat->Int):∀(f h i:Nat),i<f->i<h->∀c,PS id Q I X R Ch f i c=PS id Q I X R Ch h i c
 | 0,_,_,q,_,_=>absurd q (Wy _)
 | _+1,0,_,_,q,_=>absurd q (Wy _)
 | f+1,h+1,i,h1,h2,c=>by
  have e:∀j,(if AK (At I) i j<i then PS id Q I X R Ch f (AK (At I) i j) (DU id (I i) (X i) c) else ([],0))=(if AK (At I) i j<i then PS id Q I X R Ch h (AK (At I) i j) (DU id (I i) (X i) c) else ([],0)):=λj=>by
   by_cases q:AK (At I) i j<i
   .rw[if_pos q,if_pos q];exact Lf id Q I X R Ch f h _ (by omega) (by omega) _
   .rw[if_neg q,if_neg q]
  show AV _ _ _ _ _ _ _ _ _=AV _ _ _ _ _ _ _ _ _
  rw[e 0,e 1]
def RN (id:ByteArray->Int) (Q:List Qd) (I:Nat->Int) (X R:Nat->ByteArray) (Ch:Nat->Int) (i:Nat) (c:Cx):List Int × Nat:=PS id Q I X R Ch (i+1) i c
theorem EM {k:Int} {a a' b b' : List Int × Nat} (hk:1<=k/\k<=9) (hA:1<=Ah k->a=a') (hB:Ah k=2->b=b'):AV id Q k s t ch c a b=AV id Q k s t ch c a' b':=by
 have h9:k=1\/k=2\/k=3\/k=4\/k=5\/k=6\/k=7\/k=8\/k=9:=by omega
 rcases h9 with rfl|rfl|rfl|rfl|rfl|rfl|rfl|rfl|rfl;all_goals
  simp[AV,Ah] at hA hB ⊢
  try simp[hA]
  try simp[hB]
theorem FI {I:Nat->Int} {X R:Nat->ByteArray} {Ch:Nat->Int} {i:Nat} (hk:1<=I i/\I i<=9) (h0:1<=Ah (I i)->AK (At I) i 0<i) (h1:Ah (I i)=2->AK (At I) i 1<i) (c:Cx) :
  RN id Q I X R Ch i c=AV id Q (I i) (X i) (R i) (Ch i) c (RN id Q I X R Ch (AK (At I) i 0) (DU id (I i) (X i) c)) (RN id Q I X R Ch (AK (At I) i 1) (DU id (I i) (X i) c)):=by
 show AV _ _ _ _ _ _ _ _ _=_;refine EM hk (λha=>?_) (λha=>?_);.rw[if_pos (h0 ha)];exact Lf id Q I X R Ch _ _ _ (h0 ha) (by omega) _
 .rw[if_pos (h1 ha)];exact Lf id Q I X R Ch _ _ _ (h1 ha) (by omega) _
theorem EE {k:Int} {big:Bool} {x:List Int}:∀(qs:List Qd) (r:List Int × Nat),r.1.Nodup->(Av k big x qs r).1.Nodup
 | [],_,h=>h
 | q::qs,r,h=>by
  refine EE qs _ ?_
  split
  .exact Eg h
  .split <;> exact h
theorem Fu:∀(qs:List Qd) (o:List Int),o.Nodup->(BO qs o).Nodup
 | [],_,h=>h
 | q::qs,o,h=>Fu qs _ (Eg (Eg h))
theorem BY:∀(b o:List Int),o.Nodup->(Bq o b).Nodup
 | [],_,h=>h
 | y::b,o,h=>BY b _ (Eg h)
theorem Fq {k:Int} {a b:List Int × Nat} (ha:a.1.Nodup):(B3 k a b).1.Nodup:=by
 unfold B3;split;.exact ha
 .show (D8 k a.1 b.1).Nodup;unfold D8;split;.exact BY _ _ ha
  .exact ha.filter _
theorem LC {k:Int} {a b:List Int × Nat} (ha:a.1.Nodup) (hb:b.1.Nodup):(AV id Q k s t ch c a b).1.Nodup:=by
 unfold AV;split;.exact Fu _ _ List.nodup_nil
 .split;.split <;> simp
  .split
   .split;.exact Fq hb
    .exact Fq ha
   .split;.exact Fq ha
    .split;.exact ha
     .split;.exact List.nodup_nil
      .exact EE _ _ List.nodup_nil
theorem Gj {id:ByteArray->Int} {Q:List Qd} {I:Nat->Int} {X R:Nat->ByteArray} {Ch:Nat->Int}:∀(f i:Nat) (c:Cx),(PS id Q I X R Ch f i c).1.Nodup
 | 0,_,_=>List.nodup_nil
 | f+1,i,c=>by
  refine LC ?_ ?_
  .split
   .exact Gj f _ _
   .exact List.nodup_nil
  .split
   .exact Gj f _ _
   .exact List.nodup_nil
theorem C5 {k:Int} {big:Bool} {x:List Int} {y:Int}:∀(qs:List Qd) (r:List Int × Nat),y∈(Av k big x qs r).1↔y∈r.1\/∃q,q∈qs/\DD k q∈x/\Gi k q=y
 | [],r=>by simp[Av]
 | q::qs,r=>by
  show y∈(Av k big x qs _).1↔_
  rw[C5 qs]
  by_cases h:x.contains (DD k q)=true
  .rw[if_pos h]
   have hx:DD k q∈x:=by simpa using h
   rw[F7]
   constructor
   .rintro ((h1|h1)|⟨z,h1,h2,h3⟩)
    .exact .inl h1
    .exact .inr ⟨q,by simp,hx,h1.symm⟩
    .exact .inr ⟨z,List.mem_cons_of_mem _ h1,h2,h3⟩
   .rintro (h1|⟨z,h1,h2,h3⟩)
    .exact .inl (.inl h1)
    .rcases List.mem_cons.1 h1 with rfl|h1
     .exact .inl (.inr h3.symm)
     .exact .inr ⟨z,h1,h2,h3⟩
  .rw[if_neg h]
   have hx:DD k q∉x:=by simpa using h
   have e:(if big=true then (r.1,r.2+1) else r).1=r.1:=by split <;> rfl
   rw[e]
   constructor
   .rintro (h1|⟨z,h1,h2,h3⟩)
    .exact .inl h1
    .exact .inr ⟨z,List.mem_cons_of_mem _ h1,h2,h3⟩
   .rintro (h1|⟨z,h1,h2,h3⟩)
    .exact .inl h1
    .rcases List.mem_cons.1 h1 with rfl|h1
     .exact absurd h2 hx
     .exact .inr ⟨z,h1,h2,h3⟩
theorem Et {k:Int} {big:Bool} {x:List Int}:∀(qs:List Qd) (r:List Int × Nat),(Av k big x qs r).2=r.2+(if big=true then qs.length else (qs.filter (λq=>x.contains (DD k q))).length)
 | [],r=>by simp[Av]
 | q::qs,r=>by
  show (Av k big x qs _).2=_
  rw[Et qs]
  by_cases h:x.contains (DD k q)=true
  .rw[if_pos h]
   cases big
   .rw[if_neg (by simp),if_neg (by simp),List.filter_cons_of_pos (p:=λq=>x.contains (DD k q)) h,WN]
    show r.2+1+_=_
    omega
   .rw[if_pos rfl,if_pos rfl,WN]
    show r.2+1+_=_
    omega
  .rw[if_neg h]
   cases big
   .rw[if_neg (by simp),if_neg (by simp),if_neg (by simp),List.filter_cons_of_neg (p:=λq=>x.contains (DD k q)) h]
   .rw[if_pos rfl,if_pos rfl,if_pos rfl,WN]
    show r.2+1+_=_
    omega
theorem Eu {y:Int}:∀(qs:List Qd) (o:List Int),y∈BO qs o↔y∈o\/∃q,q∈qs/\(q.s=y\/q.o=y)
 | [],o=>by simp[BO]
 | q::qs,o=>by
  show y∈BO qs _↔_
  rw[Eu qs,F7,F7]
  constructor
  .rintro (((h1|h1)|h1)|⟨z,h1,h2⟩)
   .exact .inl h1
   .exact .inr ⟨q,by simp,.inl h1.symm⟩
   .exact .inr ⟨q,by simp,.inr h1.symm⟩
   .exact .inr ⟨z,List.mem_cons_of_mem _ h1,h2⟩
  .rintro (h1|⟨z,h1,h2⟩)
   .exact .inl (.inl (.inl h1))
   .rcases List.mem_cons.1 h1 with rfl|h1
    .rcases h2 with h2|h2
     .exact .inl (.inl (.inr h2.symm))
     .exact .inl (.inr h2.symm)
    .exact .inr ⟨z,h1,h2⟩
theorem CF {y:Int}:∀(b o:List Int),y∈Bq o b↔y∈o\/y∈b
 | [],o=>by simp[Bq]
 | z::b,o=>by
  show y∈Bq _ b↔_
  rw[CF b,F7,List.mem_cons,or_assoc]
variable {B:Nat}{w:World}
theorem N8:(Tryz.prog.info? 2).map (λi=>(i.zero,i.size,i.bytes))=some (some (iv 0),1,8):=by kernel_rfl
theorem Dd {e:TypeId} {size:Nat} {v:Value} {n:Nat} {xs:List Value} (h:w.ownsRow B e size v n xs):∃a c,v=.slice a n c:=by
 rcases h.2 with ⟨rfl,h0⟩|⟨g,cap,cur,rfl,_⟩;.exact⟨none,0,by rw[h0]⟩
 .exact⟨_,_,rfl⟩
def gz (L:List Int) (i:Nat):Int:=L.getD i 0
def GQ (w:World) (a:Option Addr) (L:List Int):Prop:=Rd .i64 w a L.length (gz L)
theorem GQ.below {w w' : World} {a:Option Addr} {L:List Int} (h:GQ w a L) (hb:Bl w w'):GQ w' a L:=Rd.below h hb
theorem IL {i:Nat} (h:i<L.length):gz L i∈L:=by unfold gz;rw[List.getD,Wx h];exact WE h
theorem UD {x:Int} (h:x∈L):∃i,i<L.length/\gz L i=x:=by obtain⟨i,hi,e⟩:=List.getElem_of_mem h;refine⟨i,hi,?_⟩;unfold gz;rw[List.getD,Wx hi];exact e
theorem GQ.cell {w:World} {a:Option Addr} {L:List Int} (h:GQ w a L) {i:Nat} (hi:i<L.length):∃b o,a=some (ad b o)/\w.cell? (ad b (o+i))=some (iv (gz L i)):=by
 rcases h with h|⟨b,o,e,hc⟩;.omega
 .exact⟨b,o,e,hc i hi⟩
theorem Dz (a:Option Addr) (c:Nat) (L:List Int) (x:Int) (w:World) (h:GQ w a L) (hn:L.length<=1048576) :
  WS 79 #[.slice a L.length c,iv x] w λe w'=>e=.returned (.bool (L.contains x))/\w'=w:=by
 have HR:=hid h;obtain⟨n,hnn⟩:=gn L.length;rw[<- hnn] at hn ⊢;have HN:=hid hnn;obtain⟨bb,hbb⟩:=gn (L.contains x);have HBB:U (bb=true↔x∈L):=by show _↔_;rw[hbb];simp
 rw[<- hbb];clear h hnn hbb;go_enter Tryz.func79,Tryz.ntmps79;go_wp2;go_loopw [5] (λi wr=>∃k:Nat,k<=n/\i=iv k/\(∀j,j<k->gz L j≠x)/\wr=w) (λi _=>n-(intOf i).toNat)
 case atStart=>exact⟨0,Ww _,rfl,λj hj=>absurd hj (Wy _),rfl⟩
 case round=>
  obtain⟨k,hk,rfl,hall,rfl⟩:=hrel;have HS:=hid hall;clear hall;by_cases hlt:k<n
  .obtain⟨b,o,rfl,s1⟩:=HR.o.cell (i:=k) (by rw[<- HN.o];exact hlt);have i0:(0:Int)<=(k:Int):=by omega
   have i1:(k:Int)<(n:Int):=by omega
   obtain⟨z,hz⟩:=gn (gz L k);rw[<- hz] at s1;by_cases heq:z=x
   .have hb:(z == x)=true:=by simp[heq]
    have HM:=hid (HBB.o.2 (by rw[<- heq,hz];exact IL (by rw[<- HN.o];exact hlt)));clear heq hz;go_wp2;go_ret;exact⟨by rw[HM.o];rfl,rfl⟩
   .have hb:(z == x)=false:=by simp[heq]
    have HX:U (∀j,j<k+1->gz L j≠x):=λj hj=>by
     by_cases e:j=k;.rw[e,<- hz];exact heq
     .exact HS.o j (by omega)
    clear heq hz;go_wp2;go_roundw;case rel=>exact⟨k+1,by omega,by go_num,HX.o,by first|rfl|trivial⟩
    case measure=>simp[intOf];omega
  .have e:k=n:=by omega
   subst e;have HM:U (bb=false):=by
    show bb=false;cases hq:bb with
    | false=>rfl
    | true=>obtain⟨i,hi,e⟩:=UD (HBB.o.1 hq);exact absurd e (HS.o i (by rw[HN.o];exact hi))
   go_wp2;go_ret;exact⟨by rw[HM.o];rfl,rfl⟩
def zl (L:List Int):List Value:=L.map λx=>Value.int .i64 x
theorem MK (L M:List Int):zl (L++M)=zl L++zl M:=List.map_append
theorem QV (L:List Int):(zl L).length=L.length:=WH _
def Rz (w:World) (L:List Int) (e:Ending) (w' : World):Prop:=∃a c,e=.returned (.slice a L.length c)/\GQ w' a L/\L.length<=c/\c<=9223372036854775807/\Bl w w'
theorem Hu {v:Value} (h:w.ownsRow B 2 1 v L.length (zl L)):∃a c,v=.slice a L.length c/\GQ w a L/\L.length<=c/\c<=9223372036854775807:=by
 obtain⟨_,⟨rfl,h0⟩|⟨g,cap,cur,rfl,hg,hb,h1,h2,h3,h4⟩⟩:=h;.exact⟨none,0,by rw[h0],.inl h0,by omega,by omega⟩
 .refine⟨_,_,rfl,.inr ⟨g,0,rfl,λi hi=>?_⟩,h1,by unfold maxLen at h2;omega⟩;have e:(zl L)[i]?=some (iv (gz L i)):=by unfold zl gz;rw[WQ,Wx hi];simp[List.getD,Wx hi]
  rw[<- h4,WP (by omega),Array.getElem?_toList] at e;rw[WM];simp only[World.cell?,hb];exact e
theorem UA (L:List Int) (i:Nat) (h:i<L.length):(zl L)[i]?=some (iv (gz L i)):=by unfold zl gz;rw[WQ,Wx h];simp[List.getD,Wx h]
theorem Hb {w:World} {ops:Array Oper} {rest:List Oper} {o:Oper} {act:Act} {Q:Exit->Act->World->Prop} (hgd:o.guard=none) (s x:Operand)
  (ho:o.op=.call { callee:=.builtin .append,args:=#[s,x],argTypes:=#[31,31] })
  (B:Nat) (v:Value) (n:Nat) (xs:List Value) (hs:act.eval s=v) (hown:w.ownsRow B 2 1 v n xs)
  (a:Option Addr) (m c:Nat) (L:List Int) (hx:act.eval x=.slice a m c) (hm:m=L.length) (hrd:Rd .i64 w a m (gz L)) (hnm:n+m<=1099511627776) (hB:B<=w.heap.size)
  (h:∀v' w',w'.ownsRow B 2 1 v' (n+m) (xs++zl L)->w.grownBy w' v.ownBlock->(v'.ownBlock=v.ownBlock\/v'.ownBlock=some w.heap.size)->wpList Tryz.prog ops Q rest (act.put o.dst v') w'):wpList Tryz.prog ops Q (o::rest) act w:=by
 obtain⟨i0,hi,hz0,hz1,hz2⟩:=info_parts N8;by_cases hm0:m=0
 .subst hm0;have hL:=List.length_eq_zero_iff.1 hm.symm;subst hL;have hsrc:Src Tryz.prog i0.size 31 (.slice a 0 c) 0 [] w:=by
   cases a with
   | none=>exact Src.ofNil w Tryz.underlying31 c
   | some ad=>exact Src.ofSlice w Tryz.underlying31 ad 0 c [] (by simp) (by simp) (by simp)
  have hsh:∃b l cap,v=.slice b l cap/\l<=cap:=by
   rcases hown.2 with ⟨rfl,rfl⟩|⟨g,cap,cur,rfl,_,_,h1,_⟩;.exact⟨none,0,0,rfl,Wu _⟩
   .exact⟨_,n,cap,rfl,h1⟩
  obtain⟨b,l,cap,hvv,hlc⟩:=hsh;have hrun:=run_append_nothing (P:=Tryz.prog) w 31 31 o.type 2 i0 Tryz.underlying31 hi b l cap hlc (.slice a 0 c) hsrc;rw[<- hvv] at hrun;refine wpList_plain hgd λK hK=>?_;unfold Oper.wp;simp[execOp,ho,resolve,invoke,builtin,hs,hx,hrun,Result.andThen];exact hK _ _ (h v w (by simpa[zl] using hown) ⟨rfl,rfl,rfl,Wu _,λ_ _ _=>rfl⟩ (Or.inl rfl))
 .rcases hrd with h0|⟨b,off,rfl,hc⟩;.exact absurd h0 hm0
  .refine wpList_append_own_at w hgd s x 31 ho B 2 i0 (iv 0) 1 8 Tryz.underlying31 hi hz0 hz1 hz2 rfl (by decide) v n xs hs hown (ad b off) m c (zl L) hx (by rw[QV];omega) (λj u hj=>?_) (λu hu=>?_) (by unfold maxLen;omega) (by omega) hB (λv' w' h1 h2 _ h4=>h v' w' h1 h2 h4)
   .have hjm:j<m:=by have:=(List.getElem?_eq_some_iff.1 hj).1;rw[QV] at this;omega
    rw[UA L j (by omega)] at hj;injection hj with hj;subst hj;have e:(Addr.add (ad b off) j)=(ad b (off+j)):=by
     unfold Addr.add;by_cases h:j=0;.subst h;simp
     .simp[h]
    rw[e];exact hc j hjm
   .simp only[zl,List.mem_map] at hu;obtain⟨i,_,rfl⟩:=hu;rfl
theorem Ef (w:World) (cs:List Value) (t:TypeId):∀j u,cs[j]?=some u->(w.alloc (.cells cs.toArray t)).cell? (Addr.add (ad w.heap.size 0) j)=some u:=by
 intro j u h;have e:(Addr.add (ad w.heap.size 0) j)=(ad w.heap.size j):=by
  unfold Addr.add;by_cases h:j=0;.subst h;simp
  .simp[h]
 rw[e];have hh:(w.alloc (.cells cs.toArray t)).heap[w.heap.size]?=some (.cells cs.toArray t):=Array.getElem?_push_size;unfold World.cell?;rw[hh];show cs.toArray[j]?=some u;rw[List.getElem?_toArray];exact h
theorem CP (a:Option Addr) (c:Nat) (L:List Int) (x:Int) (w:World) (h:GQ w a L) (hn:L.length<=1048576) (hc:L.length<=c) (hcm:c<=9223372036854775807) :
  WS 75 #[.slice a L.length c,iv x] w (Rz w (AH L x)):=by
 have HR:=hid h;obtain⟨n,hnn⟩:=gn L.length;have HIn:U (WS 79 #[.slice a n c,iv x] w λe w'=>e=.returned (.bool (L.contains x))/\w'=w):=by rw[hnn];exact Dz a c L x w h hn
 rw[<- hnn] at hn hc ⊢;have HN:=hid hnn;clear h hnn;go_enter Tryz.func75,Tryz.ntmps75;go_wp2_with fail
 refine HIn.o.mono ?_;rintro e w1 ⟨rfl,hw1⟩;subst hw1;cases hb:L.contains x with
 | true=>
  have HF:U (Rz w1 (AH L x) (.returned (.slice a n c)) w1):=by
   have e:AH L x=L:=by unfold AH;rw[if_pos hb]
   rw[e];exact⟨a,c,by rw[HN.o],HR.o,by rw[<- HN.o];exact hc,hcm,Wt _ _⟩
  clear hb;go_wp2;go_ret;exact HF.o
 | false=>
  have HA:U (AH L x=L++[x]):=by show AH L x=_;unfold AH;rw[if_neg (by rw[hb];simp)]
  clear hb HIn;go_wp2_with (at_builtin;refine Hb rfl _ _ rfl w1.heap.size (.slice (some (ad w1.heap.size 0)) 0 0) 0 [] rfl (BB w1 2 w1.heap.size 1 (Wu _)) a n c L rfl HN.o (by rw[HN.o];exact HR.o.below (Aa _ _)) (by omega) (by simp) ?_)
  intro v1 w2 ho1 hg1 _;have H1:U (w2.ownsRow w1.heap.size 2 1 v1 n (zl L)/\Bl w1 w2):=⟨by simpa using ho1,(Aa _ _).grown hg1 (by simp) (λg e=>by simp[Value.ownBlock] at e;omega)⟩;clear ho1 hg1;obtain⟨va,vc,rfl⟩:=Dd H1.o.1;have z2:=H1.o.2.size;obtain⟨i0,hi,hz0,hz1,hz2⟩:=info_parts N8;have HI:=hid (ai hi (ai hz0 (ai hz1 hz2)));clear hi hz0 hz1 hz2;have H1a:U ((w2.alloc (.cells #[iv x] 2)).ownsRow w1.heap.size 2 1 (.slice va n vc) n (zl L)):=Al H1.o.1 (Aa _ _);go_wp2_with (at_builtin;refine wpList_append_own _ rfl _ _ 31 rfl w1.heap.size 2 i0 (iv 0) 1 8 Tryz.underlying31 HI.o.1 HI.o.2.1 HI.o.2.2.1 HI.o.2.2.2 rfl (by decide) (.slice va n vc) n (zl L) rfl H1a.o (ad w2.heap.size 0) 1 1 [iv x] rfl rfl (Ef _ [iv x] _) (λu hu=>by simp at hu;subst hu;rfl) (by unfold maxLen;omega) (by omega) (by simp;omega) ?_)
  intro v2 w3 ho2 hg2 _;have HF:U (Rz w1 (AH L x) (.returned v2) w3):=by
   rw[HA.o];have hl:n+1=(L++[x]).length:=by rw[WD,<- HN.o];rfl
   rw[hl,show zl L++[iv x]=zl (L++[x]) from (MK L [x]).symm] at ho2;obtain⟨a3,c3,rfl,h1,h2,h3⟩:=Hu ho2;exact⟨a3,c3,rfl,h1,h2,h3,(H1.o.2.alloc z2 _).grown hg2 (by simp;omega) (λg e=>(Aw H1.o.1 g e).1)⟩
  have hsh:=Dd ho2;clear ho2 hg2 H1 H1a HI;obtain⟨a8,c8,rfl⟩:=hsh;go_wp2;go_ret;exact HF.o
def BJ (k:Int) (b:Bool) (ch:Int):Bool:=
 if k=1 then decide (0<=ch/\ch<=5) && E8 ch.toNat (A6 1 0 b)
 else if k=3\/k=4\/k=5 then decide (0<=ch/\ch<12) && E8 (ch.toNat % 6) (A6 k ((ch.toNat / 6:Nat):Int) b)
 else if k=6 then decide (ch=0\/ch=1) else decide (ch=0)
theorem V9 (b:Bool) (ch:Int) (w:World):WS 72 #[iv 1,.bool b,iv ch] w (WT w (.bool (BJ 1 b ch))):=by
 by_cases h0:0<=ch
 .by_cases h5:ch<=5
  .obtain⟨j,rfl⟩:∃j:Nat,ch=(j:Int):=⟨ch.toNat,by omega⟩;have hj:j<6:=by omega
   obtain⟨R,hR⟩:=gn (E8 j (A6 1 0 b));have HG:U (BJ 1 b (j:Int)=R):=by show BJ 1 b (j:Int)=R;unfold BJ;rw[if_pos rfl,decide_eq_true ⟨h0,h5⟩,hR];rfl
   have HE:U (∀W,WS 115 #[iv (j:Int),.agg #[iv (A6 1 0 b).s,iv (A6 1 0 b).p,iv (A6 1 0 b).o,iv (A6 1 0 b).g]] W (WT W (.bool R))):=λW=>by rw[hR];exact (Gb j hj (A6 1 0 b) W).1
   have HS:U (∀W,WS 116 #[iv 1,iv 0,.bool b] W (WT W (.agg #[iv (A6 1 0 b).s,iv (A6 1 0 b).p,iv (A6 1 0 b).o,iv (A6 1 0 b).g]))):=λW=>GL 1 0 b W (.inl rfl) (.inl rfl);clear hR;generalize A6 1 0 b=qq at HE HS;go_enter Tryz.func72,Tryz.ntmps72;go_wp2_with fail
   (with_reducible refine (HS.o _).mono ?_)
   rintro e w1 ⟨rfl,hb1⟩;go_wp2_with fail
   (with_reducible refine (HE.o _).mono ?_)
   rintro e w2 ⟨rfl,hb2⟩;have HF:=hid (hb1.trans (hb2.mono hb1.size));clear hb1 hb2;go_wp2;go_ret;exact⟨by rw[HG.o];rfl,HF.o⟩
  .have HG:U (BJ 1 b ch=false):=by show BJ 1 b ch=false;unfold BJ;rw[if_pos rfl,decide_eq_false (λq=>h5 q.2)];rfl
   go_enter Tryz.func72,Tryz.ntmps72;go_wp2;go_ret;exact⟨by rw[HG.o];rfl,Wt _ _⟩
 .have HG:U (BJ 1 b ch=false):=by show BJ 1 b ch=false;unfold BJ;rw[if_pos rfl,decide_eq_false (λq=>h0 q.1)];rfl
  go_enter Tryz.func72,Tryz.ntmps72;go_wp2;go_ret;exact⟨by rw[HG.o];rfl,Wt _ _⟩
theorem Uo (k:Int) (hk:k=3\/k=4\/k=5) (b:Bool) (ch:Int) (w:World):WS 72 #[iv k,.bool b,iv ch] w (WT w (.bool (BJ k b ch))):=by
 have HK:=hid hk;have hun:BJ k b ch=(decide (0<=ch/\ch<12) && E8 (ch.toNat % 6) (A6 k ((ch.toNat / 6:Nat):Int) b)):=by unfold BJ;rw[if_neg (by omega),if_pos hk]
 by_cases h0:0<=ch
 .by_cases h5:ch<12
  .obtain⟨j,rfl⟩:∃j:Nat,ch=(j:Int):=⟨ch.toNat,by omega⟩;obtain⟨R,hR⟩:=gn (E8 (j % 6) (A6 k ((j / 6:Nat):Int) b));have HG:U (BJ k b (j:Int)=R):=by show BJ k b (j:Int)=R;rw[hun,decide_eq_true ⟨h0,h5⟩,hR];rfl
   obtain⟨jr,hjr⟩:=gn (j % 6);obtain⟨jq,hjq⟩:=gn (j / 6);have hq1:jq=0\/jq=1:=by omega
   rw[<- hjr,<- hjq] at hR;obtain⟨qq,hqq⟩:=gn (A6 k (jq:Int) b);rw[<- hqq] at hR;have HE:U (∀W,WS 115 #[iv (jr:Int),.agg #[iv qq.s,iv qq.p,iv qq.o,iv qq.g]] W (WT W (.bool R))):=λW=>by rw[hR];exact (Gb jr (by omega) qq W).1
   have HS:U (∀W,WS 116 #[iv k,iv (jq:Int),.bool b] W (WT W (.agg #[iv qq.s,iv qq.p,iv qq.o,iv qq.g]))):=λW=>by rw[hqq];exact GL k (jq:Int) b W (.inr hk) (by omega)
   have hm:Int.tmod (j:Int) 6=(jr:Int):=by rw[hjr];rfl
   have hd:Int.tdiv (j:Int) 6=(jq:Int):=by rw[hjq];rfl
   have hwq:IntKind.i64.wrap (jq:Int)=(jq:Int):=by rw[Wz];omega
   have hwr:IntKind.i64.wrap (jr:Int)=(jr:Int):=by rw[Wz];omega
   have hwd:IntKind.i64.wrap (Int.tdiv (j:Int) 6)=(jq:Int):=by rw[hd];exact hwq
   clear hR hqq hjr hjq hq1 hun;rcases hk with hk|hk|hk;all_goals
    have c1:(k == 1)=false:=by rw[hk];rfl
    (first|have c3:(k == 3)=true:=by rw[hk];rfl|have c3:(k == 3)=false:=by rw[hk];rfl)
    (first|have c4:(k == 4)=true:=by rw[hk];rfl|have c4:(k == 4)=false:=by rw[hk];rfl)
    (first|have c5:(k == 5)=true:=by rw[hk];rfl|have c5:(k == 5)=false:=by rw[hk];rfl)
    clear hk
    go_enter Tryz.func72,Tryz.ntmps72
    go_wp2_with fail
    (with_reducible refine (HS.o _).mono ?_)
    rintro e w1 ⟨rfl,hb1⟩
    go_wp2_with fail
    (with_reducible refine (HE.o _).mono ?_)
    rintro e w2 ⟨rfl,hb2⟩
    have HF:=hid (hb1.trans (hb2.mono hb1.size))
    clear hb1 hb2
    go_wp2
    go_ret
    exact⟨by rw[HG.o];rfl,HF.o⟩
  .have HG:U (BJ k b ch=false):=by show BJ k b ch=false;rw[hun,decide_eq_false (λq=>h5 q.2)];rfl
   clear hun;rcases hk with hk|hk|hk;all_goals
    subst hk
    go_enter Tryz.func72,Tryz.ntmps72
    go_wp2
    go_ret
    exact⟨by rw[HG.o];rfl,Wt _ _⟩
 .have HG:U (BJ k b ch=false):=by show BJ k b ch=false;rw[hun,decide_eq_false (λq=>h0 q.1)];rfl
  clear hun;rcases hk with hk|hk|hk;all_goals
   subst hk
   go_enter Tryz.func72,Tryz.ntmps72
   go_wp2
   go_ret
   exact⟨by rw[HG.o];rfl,Wt _ _⟩
theorem VU (b:Bool) (ch:Int) (w:World):WS 72 #[iv 6,.bool b,iv ch] w (WT w (.bool (BJ 6 b ch))):=by
 have HG0:U (BJ 6 b ch=decide (ch=0\/ch=1)):=rfl;by_cases h0:ch=0;.subst h0;go_enter Tryz.func72,Tryz.ntmps72;go_wp2;go_ret;exact⟨rfl,Wt _ _⟩
 .by_cases h1:ch=1;.subst h1;go_enter Tryz.func72,Tryz.ntmps72;go_wp2;go_ret;exact⟨rfl,Wt _ _⟩
  .have e0:(ch == 0)=false:=by simp[h0]
   have e1:(ch == 1)=false:=by simp[h1]
   have HG:U (BJ 6 b ch=false):=by show BJ 6 b ch=false;rw[HG0.o];simp[h0,h1]
   go_enter Tryz.func72,Tryz.ntmps72;go_wp2;go_ret;exact⟨by rw[HG.o];rfl,Wt _ _⟩
theorem SQ (k:Int) (hk:k=2\/k=7\/k=8\/k=9) (b:Bool) (ch:Int) (w:World):WS 72 #[iv k,.bool b,iv ch] w (WT w (.bool (BJ k b ch))):=by
 obtain⟨R,hR⟩:=gn ((ch == 0));have HG:U (BJ k b ch=R):=by show BJ k b ch=R;unfold BJ;rw[if_neg (by omega),if_neg (by omega),if_neg (by omega),hR];rfl
 have e0:=hR.symm;clear hR;rcases hk with rfl|rfl|rfl|rfl;all_goals
  go_enter Tryz.func72,Tryz.ntmps72
  go_wp2
  go_ret
  exact⟨by rw[HG.o];rfl,Wt _ _⟩
theorem Cz (k:Int) (hk:1<=k/\k<=9) (b:Bool) (ch:Int) (w:World):WS 72 #[iv k,.bool b,iv ch] w (WT w (.bool (BJ k b ch))):=by
 have h9:k=1\/(k=3\/k=4\/k=5)\/k=6\/(k=2\/k=7\/k=8\/k=9):=by omega
 rcases h9 with rfl|h|rfl|h;.exact V9 b ch w
 .exact Uo k h b ch w
 .exact VU b ch w
 .exact SQ k h b ch w
theorem Sm (b o n c lo hi:Nat) (h0:lo<=hi) (h1:hi<=n) (h2:n<=c) (h3:lo<c) (w:World):(Instr.sliceAt 31 (.slice (some (ad b o)) n c) (some (iv (lo:Int))) (some (iv (hi:Int))) none).run Tryz.prog w=.ok (.slice (some (ad b (o+lo))) (hi-lo) (c-lo)) w:=by
 have hc:hi<=c:=by omega
 have hne:¬ c=lo:=by omega
 have e:(Addr.add (ad b o) lo)=(ad b (o+lo)):=by
  unfold Addr.add;by_cases h:lo=0;.subst h;simp
  .simp[h]
 simp[Instr.sliceAt,Instr.slice,go_sem,hc,h0,hne,e]
def PK (w:World) (ns:Value) (k:Int) (s t:ByteArray) (ks:List Value):Prop:=(∀W,Bl w W->WS 71 #[ns] W (WT W (.agg #[iv k,.string s,.string t])))/\(∀W,Bl w W->WS 73 #[ns] W λe w'=>∃go cpo,e=.returned (.slice (some (ad go 0)) ks.length cpo)/\(∀i x,ks[i]?=some x->w'.cell? (ad go i)=some x)/\Bl W w')
def Sp (w:World) (v p:Value) (b R:Bool):Prop:=∀W,Bl w W->WS 32 #[v,p,.bool b] W (WT W (.bool R))
def VJ (l0 l1:Nat) (R0 R1:Bool) (j z:Nat):Prop:=z=(if j=0 then 0 else if j=1 then l0 else l0+l1)/\(0<j->R0=true)/\(1<j->R1=true)
structure OS (w W:World) (k:Int) (s t:ByteArray) (ks:List Value) (nb go:Nat):Prop where
 nd:Bx W nb 97 #[iv k,.string s,.string t]
 kd:∀i v,ks[i]?=some v->W.cell? (ad go i)=some v
 bel:Bl w W
theorem OS.keep {w W W' : World} {k:Int} {s t:ByteArray} {ks:List Value} {nb go:Nat} (h:OS w W k s t ks nb go) (hb:Bl W W'):OS w W' k s t ks nb go:=
 ⟨(hb.block _ h.nd.lt).trans h.nd,λi v hi=>(hb.cell (p:=(ad go i)) (Ws _ _ (h.kd i v hi))).trans (h.kd i v hi),h.bel.trans (hb.mono h.bel.size)⟩
theorem V5 (ns:Value) (k:Int) (hk:1<=k/\k<=9) (s t:ByteArray) (bd:Bool) (pb po pl pc:Nat) (ch:Int) (w:World) (hns:∃na nl nc,ns=.slice na nl nc) (hR:PK w ns k s t []) (hpl:pl=1) (hpc:pl<=pc) (hpm:pc<=9223372036854775807) (hl:pl<=1000) (hch:w.cell? (ad pb (po+(pl-1)))=some (iv ch)) :
  WS 32 #[ns,.slice (some (ad pb po)) pl pc,.bool bd] w (WT w (.bool (BJ k bd ch))):=by
 obtain⟨na,nl,nc,rfl⟩:=hns;have HR:=hid hR;have HC:=hid hch;obtain⟨gR,hgR⟩:=gn (BJ k bd ch);have HGC:U (∀W,WS 72 #[iv k,.bool bd,iv ch] W (WT W (.bool gR))):=λW=>by rw[hgR];exact Cz k hk bd ch W
 rw[<- hgR];obtain⟨q1,hq1⟩:=gn (pl-1);rw[<- hq1] at HC;have hpq:pl=q1+1:=by omega
 have hw1:IntKind.i64.wrap ((pl:Int)-1)=(q1:Int):=by rw[Wz];omega
 obtain⟨kb,hkb⟩:=gn ((k == 9));have e9:=hkb.symm;clear hR hch hgR hkb ;have i1:(0:Int)<=(q1:Int):=by omega
 have i2:(q1:Int)<(pl:Int):=by omega
 have HPL:=hid hpl;clear hpl hpq hq1;go_enter Tryz.func32,Tryz.ntmps32;go_wp2_with fail
 refine (HR.o.1 w (Wt _ _)).mono ?_;rintro e w1 ⟨rfl,hb1⟩;obtain⟨W1,hW1⟩:∃W1,W1=w1.alloc (.cells #[iv k,.string s,.string t] 97):=⟨_,rfl⟩;have S1:U (Bx W1 w1.heap.size 97 #[iv k,.string s,.string t]/\Bl w W1):=by rw[hW1];exact⟨Bx.new _ _ _,hb1.trans ((Aa _ _).mono hb1.size)⟩
 clear hb1;go_upto_region 2 with fail
 rw[<- hW1];clear hW1;generalize w1.heap.size=nb at S1 ⊢;refine Ac (S:=λW=>Bl W1 W) 10 (by kernel_rfl) (Wt _ _).drew (λW hHeld=>?_);refine tx 0 rfl ?_;refine ty 1 rfl (λw' h=>by have x1:Bx w' nb 97 #[iv k,.string s,.string t]:=(h.block _ S1.o.1.lt).trans S1.o.1;have x0:=x1.cell 0;clear x1;simp at x0;clear h;go_simp;rfl) ?_;refine tx 2 rfl ?_;refine tx 3 rfl ?_;refine tx 4 rfl ?_;refine tx 5 rfl ?_;refine tx 6 rfl ?_;refine tx 7 rfl ?_;refine ty 8 rfl (λw' h=>by have x0:=((S1.o.2.trans (h.mono S1.o.2.size)).cell (Ws _ _ HC.o)).trans HC.o;clear h;go_simp;rfl) ?_;refine AB 9 rfl (λK hK=>?_);refine A7 rfl 72 14 15 21 _ rfl (iv k) (.bool bd) (iv ch) rfl rfl rfl (λ_ _=>rfl) ?_;refine (HGC.o W).mono ?_;rintro e w2 ⟨rfl,hbm⟩;have h2:Bl W1 w2:=hHeld.trans (hbm.mono hHeld.size);refine⟨_,rfl,hK.out _ _ (λ_=>h2) (λhG=>?_)⟩;clear hK K hG hbm hHeld;simp only[As];refine AB 10 rfl (λK hK=>?_);go_simp;refine hK.out _ _ (λ_=>h2) (λhG=>?_);clear hK K hG;refine Ae (by kernel_rfl) ?_ _;have S2:U (Bx w2 nb 97 #[iv k,.string s,.string t]/\Bl w w2):=⟨(h2.block _ S1.o.1.lt).trans S1.o.1,S1.o.2.trans (h2.mono S1.o.2.size)⟩;clear h2 S1;cases gR with
 | false=>go_wp2;go_ret;exact⟨by simp,S2.o.2⟩
 | true=>
 go_wp2_with fail
 refine (HR.o.2 w2 S2.o.2).mono ?_;rintro e w3 ⟨go,cpo,rfl,hkd,hb3⟩;have S3:U (OS w w3 k s t [] nb go):=⟨(hb3.block _ S2.o.1.lt).trans S2.o.1,hkd,S2.o.2.trans (hb3.mono S2.o.2.size)⟩;clear hkd hb3 S2 HR;try simp only[WN,List.length_nil,WM,Nat.reduceAdd]
 go_wp2;go_loopw [6,9,10] (λ_ u i wr=>∃j z:Nat,j<=0/\i=iv (j:Int)/\u=iv (z:Int)/\VJ 0 0 true true j z/\Bl w3 wr) (λ_ _ i _=>0-(intOf i).toNat)
 case atStart=>exact⟨0,0,Ww _,rfl,rfl,⟨rfl,λh=>absurd h (Wy _),λh=>absurd h (Wy _)⟩,Wt _ _⟩
 case round=>
  obtain⟨j,z,hj,rfl,rfl,hgi,hbel⟩:=hrel;have S9:U (OS w wr k s t [] nb go):=S3.o.keep hbel;have HB:=hid hbel;have HGI:=hid hgi;clear hbel hgi;obtain rfl:j=0:=by omega
  have HF:=hid S9.o.bel;go_wp2;go_ret;exact⟨rfl,HF.o⟩
theorem V4 (ns:Value) (k:Int) (hk:1<=k/\k<=9) (s t:ByteArray) (bd:Bool) (pb po pl pc:Nat) (ch:Int) (a0:Option Addr) (l0 k0:Nat) (R0:Bool) (w:World) (hns:∃na nl nc,ns=.slice na nl nc) (hR:PK w ns k s t [.slice a0 l0 k0]) (hpl:pl=1+l0) (hpc:pl<=pc) (hpm:pc<=9223372036854775807) (hl:pl<=1000) (hch:w.cell? (ad pb (po+(pl-1)))=some (iv ch)) (hK0:Sp w (.slice a0 l0 k0) (.slice (some (ad pb po)) l0 pc) (bd || (k == 9)) R0) :
  WS 32 #[ns,.slice (some (ad pb po)) pl pc,.bool bd] w (WT w (.bool (BJ k bd ch && R0))):=by
 obtain⟨na,nl,nc,rfl⟩:=hns;have HR:=hid hR;have HC:=hid hch;obtain⟨gR,hgR⟩:=gn (BJ k bd ch);have HGC:U (∀W,WS 72 #[iv k,.bool bd,iv ch] W (WT W (.bool gR))):=λW=>by rw[hgR];exact Cz k hk bd ch W
 rw[<- hgR];obtain⟨q1,hq1⟩:=gn (pl-1);rw[<- hq1] at HC;have hpq:pl=q1+1:=by omega
 have hw1:IntKind.i64.wrap ((pl:Int)-1)=(q1:Int):=by rw[Wz];omega
 obtain⟨kb,hkb⟩:=gn ((k == 9));obtain⟨r0,hre0⟩:=gn R0;rw[<- hre0] at hK0;have HRE0:=hid hre0;clear hre0;rw[<- hkb] at hK0;have HK0:=hid hK0;have e9:=hkb.symm;clear hR hch hgR hkb hK0;have i1:(0:Int)<=(q1:Int):=by omega
 have i2:(q1:Int)<(pl:Int):=by omega
 have HPL:=hid hpl;clear hpl hpq hq1;go_enter Tryz.func32,Tryz.ntmps32;go_wp2_with fail
 refine (HR.o.1 w (Wt _ _)).mono ?_;rintro e w1 ⟨rfl,hb1⟩;obtain⟨W1,hW1⟩:∃W1,W1=w1.alloc (.cells #[iv k,.string s,.string t] 97):=⟨_,rfl⟩;have S1:U (Bx W1 w1.heap.size 97 #[iv k,.string s,.string t]/\Bl w W1):=by rw[hW1];exact⟨Bx.new _ _ _,hb1.trans ((Aa _ _).mono hb1.size)⟩
 clear hb1;go_upto_region 2 with fail
 rw[<- hW1];clear hW1;generalize w1.heap.size=nb at S1 ⊢;refine Ac (S:=λW=>Bl W1 W) 10 (by kernel_rfl) (Wt _ _).drew (λW hHeld=>?_);refine tx 0 rfl ?_;refine ty 1 rfl (λw' h=>by have x1:Bx w' nb 97 #[iv k,.string s,.string t]:=(h.block _ S1.o.1.lt).trans S1.o.1;have x0:=x1.cell 0;clear x1;simp at x0;clear h;go_simp;rfl) ?_;refine tx 2 rfl ?_;refine tx 3 rfl ?_;refine tx 4 rfl ?_;refine tx 5 rfl ?_;refine tx 6 rfl ?_;refine tx 7 rfl ?_;refine ty 8 rfl (λw' h=>by have x0:=((S1.o.2.trans (h.mono S1.o.2.size)).cell (Ws _ _ HC.o)).trans HC.o;clear h;go_simp;rfl) ?_;refine AB 9 rfl (λK hK=>?_);refine A7 rfl 72 14 15 21 _ rfl (iv k) (.bool bd) (iv ch) rfl rfl rfl (λ_ _=>rfl) ?_;refine (HGC.o W).mono ?_;rintro e w2 ⟨rfl,hbm⟩;have h2:Bl W1 w2:=hHeld.trans (hbm.mono hHeld.size);refine⟨_,rfl,hK.out _ _ (λ_=>h2) (λhG=>?_)⟩;clear hK K hG hbm hHeld;simp only[As];refine AB 10 rfl (λK hK=>?_);go_simp;refine hK.out _ _ (λ_=>h2) (λhG=>?_);clear hK K hG;refine Ae (by kernel_rfl) ?_ _;have S2:U (Bx w2 nb 97 #[iv k,.string s,.string t]/\Bl w w2):=⟨(h2.block _ S1.o.1.lt).trans S1.o.1,S1.o.2.trans (h2.mono S1.o.2.size)⟩;clear h2 S1;cases gR with
 | false=>go_wp2;go_ret;exact⟨by simp,S2.o.2⟩
 | true=>
 go_wp2_with fail
 refine (HR.o.2 w2 S2.o.2).mono ?_;rintro e w3 ⟨go,cpo,rfl,hkd,hb3⟩;have S3:U (OS w w3 k s t [.slice a0 l0 k0] nb go):=⟨(hb3.block _ S2.o.1.lt).trans S2.o.1,hkd,S2.o.2.trans (hb3.mono S2.o.2.size)⟩;clear hkd hb3 S2 HR;try simp only[WN,List.length_nil,WM,Nat.reduceAdd]
 go_wp2;go_loopw [6,9,10] (λ_ u i wr=>∃j z:Nat,j<=1/\i=iv (j:Int)/\u=iv (z:Int)/\VJ l0 0 R0 true j z/\Bl w3 wr) (λ_ _ i _=>1-(intOf i).toNat)
 case atStart=>exact⟨0,0,Ww _,rfl,rfl,⟨rfl,λh=>absurd h (Wy _),λh=>absurd h (Wy _)⟩,Wt _ _⟩
 case round=>
  obtain⟨j,z,hj,rfl,rfl,hgi,hbel⟩:=hrel;have S9:U (OS w wr k s t [.slice a0 l0 k0] nb go):=S3.o.keep hbel;have HB:=hid hbel;have HGI:=hid hgi;clear hbel hgi;by_cases hlt:j<1
  .obtain rfl:j=0:=by omega
   obtain rfl:z=0:=HGI.o.1;have hof:l0<=pl:=by have:=HPL.o;omega
   have hof2:0<pc:=by have:=HPL.o;omega
   have hcu:∀W:World,(Instr.sliceAt 31 (.slice (some (ad pb po)) pl pc) (some (iv 0)) (some (iv (l0:Int))) none).run Tryz.prog W=.ok (.slice (some (ad pb po)) l0 pc) W:=λW=>by have:=Sm pb po pl pc 0 l0 (by omega) hof hpc hof2 W;rw[show l0-0=l0 by omega] at this;exact this
   have hwa:IntKind.i64.wrap (0+(l0:Int))=(l0:Int):=by rw[Wz];omega
   have hwb:IntKind.i64.wrap (l0:Int)=(l0:Int):=by rw[Wz];omega
   clear hof hof2;cases bd
   .go_upto_region 9 with fail
    refine Ac (S:=λW=>Bl wr W) 21 (by kernel_rfl) (Wt _ _).drew (λW hHeld=>?_);refine tx 0 rfl ?_;refine tx 1 rfl ?_;refine tx 2 rfl ?_;refine ty 3 rfl (λw' h=>by have q:=(S9.o.keep h).kd 0 _ rfl;clear h;go_simp;rfl) ?_;refine tx 4 rfl ?_;refine tx 5 rfl ?_;refine tx 6 rfl ?_;refine tx 7 rfl ?_;refine tx 8 rfl ?_;refine tx 9 rfl ?_;refine ty 10 rfl (λw' h=>by have q:=(S9.o.keep h).kd 0 _ rfl;clear h;go_simp;rfl) ?_;refine tx 11 rfl ?_;refine tx 12 rfl ?_;refine tx 13 rfl ?_;refine tx 14 rfl (v:=.bool false) ?_;refine tx 15 rfl (v:=.bool false) ?_;refine tx 16 rfl ?_;refine ty 17 rfl (λw' h=>by have x0:=(S9.o.keep h).nd.cell 0;simp at x0;clear h;go_simp;rfl) ?_;refine tx 18 rfl ?_;refine tx 19 rfl ?_;refine AB 20 rfl (λK hK=>?_);refine A7 rfl 32 35 45 51 _ rfl (.slice a0 l0 k0) (.slice (some (ad pb po)) l0 pc) (.bool kb) rfl rfl rfl (λ_ _=>rfl) ?_;refine (HK0.o W (S9.o.keep hHeld).bel).mono ?_;rintro e w5 ⟨rfl,hbm⟩;have h5:=hHeld.trans (hbm.mono hHeld.size);refine⟨_,rfl,hK.out _ _ (λ_=>h5) (λhG=>?_)⟩;clear hK K hG hbm hHeld;simp only[As];refine AB 21 rfl (λK hK=>?_);go_simp;refine hK.out _ _ (λ_=>h5) (λhG=>?_);clear hK K hG;refine Ae (by kernel_rfl) ?_ _;have S5:=hid (ai (S9.o.keep h5) (HB.o.trans (h5.mono HB.o.size)));clear h5;have zk:=S5.o.1.kd 0 _ rfl;cases r0 with
    | false=>go_wp2;go_ret;exact⟨by rw[<- HRE0.o];simp,S5.o.1.bel⟩
    | true=>
     go_wp2;go_roundw;case rel=>exact⟨_,_,_,_,_,_,_,_,_,_,_,_,_,_,_,_,_,_,_,_,_,_,_,_,_,_,_,_,_,_,_,_,_,_,_,_,_,_,⟨1,l0,by omega,rfl,rfl,⟨rfl,(λ_=>HRE0.o.symm),(λh=>absurd h (by omega))⟩,S5.o.2⟩,rfl⟩
     case measure=>simp[intOf]
   .go_upto_region 9 with fail
    refine Ac (S:=λW=>Bl wr W) 21 (by kernel_rfl) (Wt _ _).drew (λW hHeld=>?_);refine tx 0 rfl ?_;refine tx 1 rfl ?_;refine tx 2 rfl ?_;refine ty 3 rfl (λw' h=>by have q:=(S9.o.keep h).kd 0 _ rfl;clear h;go_simp;rfl) ?_;refine tx 4 rfl ?_;refine tx 5 rfl ?_;refine tx 6 rfl ?_;refine tx 7 rfl ?_;refine tx 8 rfl ?_;refine tx 9 rfl ?_;refine ty 10 rfl (λw' h=>by have q:=(S9.o.keep h).kd 0 _ rfl;clear h;go_simp;rfl) ?_;refine tx 11 rfl ?_;refine tx 12 rfl ?_;refine tx 13 rfl ?_;refine tx 14 rfl (v:=.bool true) ?_;refine tx 15 rfl (v:=.bool true) ?_;refine sz 16 rfl ?_;simp only[As];refine sz 17 rfl ?_;simp only[As];refine sz 18 rfl ?_;simp only[As];refine tx 19 rfl (v:=.bool true) ?_;refine AB 20 rfl (λK hK=>?_);refine A7 rfl 32 35 45 51 _ rfl (.slice a0 l0 k0) (.slice (some (ad pb po)) l0 pc) (.bool true) rfl rfl rfl (λ_ _=>rfl) ?_;refine (HK0.o W (S9.o.keep hHeld).bel).mono ?_;rintro e w5 ⟨rfl,hbm⟩;have h5:=hHeld.trans (hbm.mono hHeld.size);refine⟨_,rfl,hK.out _ _ (λ_=>h5) (λhG=>?_)⟩;clear hK K hG hbm hHeld;simp only[As];refine AB 21 rfl (λK hK=>?_);go_simp;refine hK.out _ _ (λ_=>h5) (λhG=>?_);clear hK K hG;refine Ae (by kernel_rfl) ?_ _;have S5:=hid (ai (S9.o.keep h5) (HB.o.trans (h5.mono HB.o.size)));clear h5;have zk:=S5.o.1.kd 0 _ rfl;cases r0 with
    | false=>go_wp2;go_ret;exact⟨by rw[<- HRE0.o];simp,S5.o.1.bel⟩
    | true=>
     go_wp2;go_roundw;case rel=>exact⟨_,_,_,_,_,_,_,_,_,_,_,_,_,_,_,_,_,_,_,_,_,_,_,_,_,_,_,_,_,_,_,_,_,_,_,_,_,_,⟨1,l0,by omega,rfl,rfl,⟨rfl,(λ_=>HRE0.o.symm),(λh=>absurd h (by omega))⟩,S5.o.2⟩,rfl⟩
     case measure=>simp[intOf]
  .obtain rfl:j=1:=by omega
   have HF:=hid (ai S9.o.bel (HGI.o.2.1 (by omega)));go_wp2;go_ret;exact⟨by rw[HF.o.2];rfl,HF.o.1⟩
theorem VP (ns:Value) (k:Int) (hk:1<=k/\k<=9) (s t:ByteArray) (bd:Bool) (pb po pl pc:Nat) (ch:Int) (a0:Option Addr) (l0 k0:Nat) (R0:Bool) (a1:Option Addr) (l1 k1:Nat) (R1:Bool) (w:World) (hns:∃na nl nc,ns=.slice na nl nc) (hR:PK w ns k s t [.slice a0 l0 k0,.slice a1 l1 k1]) (hpl:pl=1+l0+l1) (hpc:pl<=pc) (hpm:pc<=9223372036854775807) (hl:pl<=1000) (hch:w.cell? (ad pb (po+(pl-1)))=some (iv ch)) (hK0:Sp w (.slice a0 l0 k0) (.slice (some (ad pb po)) l0 pc) (bd || (k == 9)) R0) (hK1:Sp w (.slice a1 l1 k1) (.slice (some (ad pb (po+l0))) l1 (pc-l0)) (bd || (k == 9)) R1) :
  WS 32 #[ns,.slice (some (ad pb po)) pl pc,.bool bd] w (WT w (.bool (BJ k bd ch && R0 && R1))):=by
 obtain⟨na,nl,nc,rfl⟩:=hns;have HR:=hid hR;have HC:=hid hch;obtain⟨gR,hgR⟩:=gn (BJ k bd ch);have HGC:U (∀W,WS 72 #[iv k,.bool bd,iv ch] W (WT W (.bool gR))):=λW=>by rw[hgR];exact Cz k hk bd ch W
 rw[<- hgR];obtain⟨q1,hq1⟩:=gn (pl-1);rw[<- hq1] at HC;have hpq:pl=q1+1:=by omega
 have hw1:IntKind.i64.wrap ((pl:Int)-1)=(q1:Int):=by rw[Wz];omega
 obtain⟨kb,hkb⟩:=gn ((k == 9));obtain⟨r0,hre0⟩:=gn R0;rw[<- hre0] at hK0;have HRE0:=hid hre0;clear hre0;rw[<- hkb] at hK0;have HK0:=hid hK0;obtain⟨r1,hre1⟩:=gn R1;rw[<- hre1] at hK1;have HRE1:U (r1=R1):=hre1;clear hre1;rw[<- hkb] at hK1;have HK1:U (Sp w (.slice a1 l1 k1) (.slice (some (ad pb (po+l0))) l1 (pc-l0)) (bd || kb) r1):=hK1;have e9:(k == 9)=kb:=hkb.symm;clear hR hch hgR hkb hK0 hK1;have i1:(0:Int)<=(q1:Int):=by omega
 have i2:(q1:Int)<(pl:Int):=by omega
 have HPL:U (pl=1+l0+l1):=hpl;clear hpl hpq hq1;go_enter Tryz.func32,Tryz.ntmps32;go_wp2_with fail
 refine (HR.o.1 w (Wt _ _)).mono ?_;rintro e w1 ⟨rfl,hb1⟩;obtain⟨W1,hW1⟩:∃W1,W1=w1.alloc (.cells #[iv k,.string s,.string t] 97):=⟨_,rfl⟩;have S1:U (Bx W1 w1.heap.size 97 #[iv k,.string s,.string t]/\Bl w W1):=by rw[hW1];exact⟨Bx.new _ _ _,hb1.trans ((Aa _ _).mono hb1.size)⟩
 clear hb1;go_upto_region 2 with fail
 rw[<- hW1];clear hW1;generalize w1.heap.size=nb at S1 ⊢;refine Ac (S:=λW=>Bl W1 W) 10 (by kernel_rfl) (Wt _ _).drew (λW hHeld=>?_);refine tx 0 rfl ?_;refine ty 1 rfl (λw' h=>by have x1:Bx w' nb 97 #[iv k,.string s,.string t]:=(h.block _ S1.o.1.lt).trans S1.o.1;have x0:=x1.cell 0;clear x1;simp at x0;clear h;go_simp;rfl) ?_;refine tx 2 rfl ?_;refine tx 3 rfl ?_;refine tx 4 rfl ?_;refine tx 5 rfl ?_;refine tx 6 rfl ?_;refine tx 7 rfl ?_;refine ty 8 rfl (λw' h=>by have x0:=((S1.o.2.trans (h.mono S1.o.2.size)).cell (Ws _ _ HC.o)).trans HC.o;clear h;go_simp;rfl) ?_;refine AB 9 rfl (λK hK=>?_);refine A7 rfl 72 14 15 21 _ rfl (iv k) (.bool bd) (iv ch) rfl rfl rfl (λ_ _=>rfl) ?_;refine (HGC.o W).mono ?_;rintro e w2 ⟨rfl,hbm⟩;have h2:Bl W1 w2:=hHeld.trans (hbm.mono hHeld.size);refine⟨_,rfl,hK.out _ _ (λ_=>h2) (λhG=>?_)⟩;clear hK K hG hbm hHeld;simp only[As];refine AB 10 rfl (λK hK=>?_);go_simp;refine hK.out _ _ (λ_=>h2) (λhG=>?_);clear hK K hG;refine Ae (by kernel_rfl) ?_ _;have S2:U (Bx w2 nb 97 #[iv k,.string s,.string t]/\Bl w w2):=⟨(h2.block _ S1.o.1.lt).trans S1.o.1,S1.o.2.trans (h2.mono S1.o.2.size)⟩;clear h2 S1;cases gR with
 | false=>go_wp2;go_ret;exact⟨by simp,S2.o.2⟩
 | true=>
 go_wp2_with fail
 refine (HR.o.2 w2 S2.o.2).mono ?_;rintro e w3 ⟨go,cpo,rfl,hkd,hb3⟩;have S3:U (OS w w3 k s t [.slice a0 l0 k0,.slice a1 l1 k1] nb go):=⟨(hb3.block _ S2.o.1.lt).trans S2.o.1,hkd,S2.o.2.trans (hb3.mono S2.o.2.size)⟩;clear hkd hb3 S2 HR;try simp only[WN,List.length_nil,WM,Nat.reduceAdd]
 go_wp2;go_loopw [6,9,10] (λ_ u i wr=>∃j z:Nat,j<=2/\i=iv (j:Int)/\u=iv (z:Int)/\VJ l0 l1 R0 R1 j z/\Bl w3 wr) (λ_ _ i _=>2-(intOf i).toNat)
 case atStart=>exact⟨0,0,Ww _,rfl,rfl,⟨rfl,λh=>absurd h (Wy _),λh=>absurd h (Wy _)⟩,Wt _ _⟩
 case round=>
  obtain⟨j,z,hj,rfl,rfl,hgi,hbel⟩:=hrel;have S9:U (OS w wr k s t [.slice a0 l0 k0,.slice a1 l1 k1] nb go):=S3.o.keep hbel;have HB:U (Bl w3 wr):=hbel;have HGI:U (VJ l0 l1 R0 R1 j z):=hgi;clear hbel hgi;by_cases hlt:j<2
  .rcases (show j=0\/j=1 by omega) with rfl|rfl
   .obtain rfl:z=0:=HGI.o.1;have hof:l0<=pl:=by have:=HPL.o;omega
    have hof2:0<pc:=by have:=HPL.o;omega
    have hcu:∀W:World,(Instr.sliceAt 31 (.slice (some (ad pb po)) pl pc) (some (iv 0)) (some (iv (l0:Int))) none).run Tryz.prog W=.ok (.slice (some (ad pb po)) l0 pc) W:=λW=>by have:=Sm pb po pl pc 0 l0 (by omega) hof hpc hof2 W;rw[show l0-0=l0 by omega] at this;exact this
    have hwa:IntKind.i64.wrap (0+(l0:Int))=(l0:Int):=by rw[Wz];omega
    have hwb:IntKind.i64.wrap (l0:Int)=(l0:Int):=by rw[Wz];omega
    clear hof hof2;cases bd
    .go_upto_region 9 with fail
     refine Ac (S:=λW=>Bl wr W) 21 (by kernel_rfl) (Wt _ _).drew (λW hHeld=>?_);refine tx 0 rfl ?_;refine tx 1 rfl ?_;refine tx 2 rfl ?_;refine ty 3 rfl (λw' h=>by have q:=(S9.o.keep h).kd 0 _ rfl;clear h;go_simp;rfl) ?_;refine tx 4 rfl ?_;refine tx 5 rfl ?_;refine tx 6 rfl ?_;refine tx 7 rfl ?_;refine tx 8 rfl ?_;refine tx 9 rfl ?_;refine ty 10 rfl (λw' h=>by have q:=(S9.o.keep h).kd 0 _ rfl;clear h;go_simp;rfl) ?_;refine tx 11 rfl ?_;refine tx 12 rfl ?_;refine tx 13 rfl ?_;refine tx 14 rfl (v:=.bool false) ?_;refine tx 15 rfl (v:=.bool false) ?_;refine tx 16 rfl ?_;refine ty 17 rfl (λw' h=>by have x0:=(S9.o.keep h).nd.cell 0;simp at x0;clear h;go_simp;rfl) ?_;refine tx 18 rfl ?_;refine tx 19 rfl ?_;refine AB 20 rfl (λK hK=>?_);refine A7 rfl 32 35 45 51 _ rfl (.slice a0 l0 k0) (.slice (some (ad pb po)) l0 pc) (.bool kb) rfl rfl rfl (λ_ _=>rfl) ?_;refine (HK0.o W (S9.o.keep hHeld).bel).mono ?_;rintro e w5 ⟨rfl,hbm⟩;have h5:Bl wr w5:=hHeld.trans (hbm.mono hHeld.size);refine⟨_,rfl,hK.out _ _ (λ_=>h5) (λhG=>?_)⟩;clear hK K hG hbm hHeld;simp only[As];refine AB 21 rfl (λK hK=>?_);go_simp;refine hK.out _ _ (λ_=>h5) (λhG=>?_);clear hK K hG;refine Ae (by kernel_rfl) ?_ _;have S5:U (OS w w5 k s t [.slice a0 l0 k0,.slice a1 l1 k1] nb go/\Bl w3 w5):=⟨S9.o.keep h5,HB.o.trans (h5.mono HB.o.size)⟩;clear h5;have zk:=S5.o.1.kd 0 _ rfl;cases r0 with
     | false=>go_wp2;go_ret;exact⟨by rw[<- HRE0.o];simp,S5.o.1.bel⟩
     | true=>
      go_wp2;go_roundw;case rel=>exact⟨_,_,_,_,_,_,_,_,_,_,_,_,_,_,_,_,_,_,_,_,_,_,_,_,_,_,_,_,_,_,_,_,_,_,_,_,_,_,⟨1,l0,by omega,rfl,rfl,⟨rfl,(λ_=>HRE0.o.symm),(λh=>absurd h (by omega))⟩,S5.o.2⟩,rfl⟩
      case measure=>simp[intOf];try omega
    .go_upto_region 9 with fail
     refine Ac (S:=λW=>Bl wr W) 21 (by kernel_rfl) (Wt _ _).drew (λW hHeld=>?_);refine tx 0 rfl ?_;refine tx 1 rfl ?_;refine tx 2 rfl ?_;refine ty 3 rfl (λw' h=>by have q:=(S9.o.keep h).kd 0 _ rfl;clear h;go_simp;rfl) ?_;refine tx 4 rfl ?_;refine tx 5 rfl ?_;refine tx 6 rfl ?_;refine tx 7 rfl ?_;refine tx 8 rfl ?_;refine tx 9 rfl ?_;refine ty 10 rfl (λw' h=>by have q:=(S9.o.keep h).kd 0 _ rfl;clear h;go_simp;rfl) ?_;refine tx 11 rfl ?_;refine tx 12 rfl ?_;refine tx 13 rfl ?_;refine tx 14 rfl (v:=.bool true) ?_;refine tx 15 rfl (v:=.bool true) ?_;refine sz 16 rfl ?_;simp only[As];refine sz 17 rfl ?_;simp only[As];refine sz 18 rfl ?_;simp only[As];refine tx 19 rfl (v:=.bool true) ?_;refine AB 20 rfl (λK hK=>?_);refine A7 rfl 32 35 45 51 _ rfl (.slice a0 l0 k0) (.slice (some (ad pb po)) l0 pc) (.bool true) rfl rfl rfl (λ_ _=>rfl) ?_;refine (HK0.o W (S9.o.keep hHeld).bel).mono ?_;rintro e w5 ⟨rfl,hbm⟩;have h5:Bl wr w5:=hHeld.trans (hbm.mono hHeld.size);refine⟨_,rfl,hK.out _ _ (λ_=>h5) (λhG=>?_)⟩;clear hK K hG hbm hHeld;simp only[As];refine AB 21 rfl (λK hK=>?_);go_simp;refine hK.out _ _ (λ_=>h5) (λhG=>?_);clear hK K hG;refine Ae (by kernel_rfl) ?_ _;have S5:U (OS w w5 k s t [.slice a0 l0 k0,.slice a1 l1 k1] nb go/\Bl w3 w5):=⟨S9.o.keep h5,HB.o.trans (h5.mono HB.o.size)⟩;clear h5;have zk:=S5.o.1.kd 0 _ rfl;cases r0 with
     | false=>go_wp2;go_ret;exact⟨by rw[<- HRE0.o];simp,S5.o.1.bel⟩
     | true=>
      go_wp2;go_roundw;case rel=>exact⟨_,_,_,_,_,_,_,_,_,_,_,_,_,_,_,_,_,_,_,_,_,_,_,_,_,_,_,_,_,_,_,_,_,_,_,_,_,_,⟨1,l0,by omega,rfl,rfl,⟨rfl,(λ_=>HRE0.o.symm),(λh=>absurd h (by omega))⟩,S5.o.2⟩,rfl⟩
      case measure=>simp[intOf];try omega
   .have ez:l0=z:=HGI.o.1.symm;subst ez;obtain⟨lz,hlz⟩:∃lz,lz=l0+l1:=⟨_,rfl⟩;have hof:lz<=pl:=by have:=HPL.o;omega
    have hof2:l0<pc:=by have:=HPL.o;omega
    have hcu:∀W:World,(Instr.sliceAt 31 (.slice (some (ad pb po)) pl pc) (some (iv (l0:Int))) (some (iv (lz:Int))) none).run Tryz.prog W=.ok (.slice (some (ad pb (po+l0))) l1 (pc-l0)) W:=λW=>by have:=Sm pb po pl pc l0 lz (by omega) hof hpc hof2 W;rw[show lz-l0=l1 by omega] at this;exact this
    have hwa:IntKind.i64.wrap ((l0:Int)+(l1:Int))=(lz:Int):=by rw[Wz];omega
    have hwb:IntKind.i64.wrap (l1:Int)=(l1:Int):=by rw[Wz];omega
    clear hof hof2;have HLZ:U (lz=l0+l1):=hlz;clear hlz;cases bd
    .go_upto_region 9 with fail
     refine Ac (S:=λW=>Bl wr W) 21 (by kernel_rfl) (Wt _ _).drew (λW hHeld=>?_);refine tx 0 rfl ?_;refine tx 1 rfl ?_;refine tx 2 rfl ?_;refine ty 3 rfl (λw' h=>by have q:=(S9.o.keep h).kd 1 _ rfl;clear h;go_simp;rfl) ?_;refine tx 4 rfl ?_;refine tx 5 rfl ?_;refine tx 6 rfl ?_;refine tx 7 rfl ?_;refine tx 8 rfl ?_;refine tx 9 rfl ?_;refine ty 10 rfl (λw' h=>by have q:=(S9.o.keep h).kd 1 _ rfl;clear h;go_simp;rfl) ?_;refine tx 11 rfl ?_;refine tx 12 rfl ?_;refine tx 13 rfl ?_;refine tx 14 rfl (v:=.bool false) ?_;refine tx 15 rfl (v:=.bool false) ?_;refine tx 16 rfl ?_;refine ty 17 rfl (λw' h=>by have x0:=(S9.o.keep h).nd.cell 0;simp at x0;clear h;go_simp;rfl) ?_;refine tx 18 rfl ?_;refine tx 19 rfl ?_;refine AB 20 rfl (λK hK=>?_);refine A7 rfl 32 35 45 51 _ rfl (.slice a1 l1 k1) (.slice (some (ad pb (po+l0))) l1 (pc-l0)) (.bool kb) rfl rfl rfl (λ_ _=>rfl) ?_;refine (HK1.o W (S9.o.keep hHeld).bel).mono ?_;rintro e w5 ⟨rfl,hbm⟩;have h5:Bl wr w5:=hHeld.trans (hbm.mono hHeld.size);refine⟨_,rfl,hK.out _ _ (λ_=>h5) (λhG=>?_)⟩;clear hK K hG hbm hHeld;simp only[As];refine AB 21 rfl (λK hK=>?_);go_simp;refine hK.out _ _ (λ_=>h5) (λhG=>?_);clear hK K hG;refine Ae (by kernel_rfl) ?_ _;have S5:U (OS w w5 k s t [.slice a0 l0 k0,.slice a1 l1 k1] nb go/\Bl w3 w5):=⟨S9.o.keep h5,HB.o.trans (h5.mono HB.o.size)⟩;clear h5;have zk:=S5.o.1.kd 1 _ rfl;cases r1 with
     | false=>go_wp2;go_ret;exact⟨by rw[<- HRE1.o];simp,S5.o.1.bel⟩
     | true=>
      go_wp2;go_roundw;case rel=>exact⟨_,_,_,_,_,_,_,_,_,_,_,_,_,_,_,_,_,_,_,_,_,_,_,_,_,_,_,_,_,_,_,_,_,_,_,_,_,_,⟨2,lz,by omega,rfl,rfl,⟨HLZ.o,(λ_=>HGI.o.2.1 (by omega)),(λ_=>HRE1.o.symm)⟩,S5.o.2⟩,rfl⟩
      case measure=>simp[intOf];try omega
    .go_upto_region 9 with fail
     refine Ac (S:=λW=>Bl wr W) 21 (by kernel_rfl) (Wt _ _).drew (λW hHeld=>?_);refine tx 0 rfl ?_;refine tx 1 rfl ?_;refine tx 2 rfl ?_;refine ty 3 rfl (λw' h=>by have q:=(S9.o.keep h).kd 1 _ rfl;clear h;go_simp;rfl) ?_;refine tx 4 rfl ?_;refine tx 5 rfl ?_;refine tx 6 rfl ?_;refine tx 7 rfl ?_;refine tx 8 rfl ?_;refine tx 9 rfl ?_;refine ty 10 rfl (λw' h=>by have q:=(S9.o.keep h).kd 1 _ rfl;clear h;go_simp;rfl) ?_;refine tx 11 rfl ?_;refine tx 12 rfl ?_;refine tx 13 rfl ?_;refine tx 14 rfl (v:=.bool true) ?_;refine tx 15 rfl (v:=.bool true) ?_;refine sz 16 rfl ?_;simp only[As];refine sz 17 rfl ?_;simp only[As];refine sz 18 rfl ?_;simp only[As];refine tx 19 rfl (v:=.bool true) ?_;refine AB 20 rfl (λK hK=>?_);refine A7 rfl 32 35 45 51 _ rfl (.slice a1 l1 k1) (.slice (some (ad pb (po+l0))) l1 (pc-l0)) (.bool true) rfl rfl rfl (λ_ _=>rfl) ?_;refine (HK1.o W (S9.o.keep hHeld).bel).mono ?_;rintro e w5 ⟨rfl,hbm⟩;have h5:Bl wr w5:=hHeld.trans (hbm.mono hHeld.size);refine⟨_,rfl,hK.out _ _ (λ_=>h5) (λhG=>?_)⟩;clear hK K hG hbm hHeld;simp only[As];refine AB 21 rfl (λK hK=>?_);go_simp;refine hK.out _ _ (λ_=>h5) (λhG=>?_);clear hK K hG;refine Ae (by kernel_rfl) ?_ _;have S5:U (OS w w5 k s t [.slice a0 l0 k0,.slice a1 l1 k1] nb go/\Bl w3 w5):=⟨S9.o.keep h5,HB.o.trans (h5.mono HB.o.size)⟩;clear h5;have zk:=S5.o.1.kd 1 _ rfl;cases r1 with
     | false=>go_wp2;go_ret;exact⟨by rw[<- HRE1.o];simp,S5.o.1.bel⟩
     | true=>
      go_wp2;go_roundw;case rel=>exact⟨_,_,_,_,_,_,_,_,_,_,_,_,_,_,_,_,_,_,_,_,_,_,_,_,_,_,_,_,_,_,_,_,_,_,_,_,_,_,⟨2,lz,by omega,rfl,rfl,⟨HLZ.o,(λ_=>HGI.o.2.1 (by omega)),(λ_=>HRE1.o.symm)⟩,S5.o.2⟩,rfl⟩
      case measure=>simp[intOf];try omega
  .obtain rfl:j=2:=by omega
   have HF:=hid (ai S9.o.bel (ai (HGI.o.2.1 (by omega)) (HGI.o.2.2 (by omega))));go_wp2;go_ret;exact⟨by rw[HF.o.2.1,HF.o.2.2];rfl,HF.o.1⟩
def Nj (I Ch:Nat->Int):Nat->Nat->Nat->Bool->Bool
 | 0,_,_,_=>true
 | f+1,base,m,b=>BJ (I (base+m)) b (Ch (base+m)) &&
  (if Ah (I (base+m))=0 then true
   else if Ah (I (base+m))=1 then Nj I Ch f base (m-1) (b || (I (base+m) == 9))
   else Nj I Ch f base (AK (At I) (base+m) 0-base) (b || (I (base+m) == 9)) && Nj I Ch f (AK (At I) (base+m) 0+1) (base+m-AK (At I) (base+m) 0-2) (b || (I (base+m) == 9)))
theorem Ie {I Ch:Nat->Int} {N:Nat} {Bd:Nat->Bool} (hcx:∀i,i<N->∀j,j<Ah (I i)->Bd (AK (At I) i j)=(Bd i || (I i == 9))) :
  ∀(f base m:Nat),m+1<=f->base+m<N->Am (λi=>Ah (I (base+i))) (m+1) 0->(Nj I Ch f base m (Bd (base+m))=true↔∀t,t<=m->BJ (I (base+t)) (Bd (base+t)) (Ch (base+t))=true)
 | 0,base,m,hf,_,_=>absurd hf (by omega)
 | f+1,base,m,hf,hN,hb=>by
  show (_ && _)=true↔_
  rw[Bool.and_eq_true]
  rcases Gz hb with ⟨e,hm⟩|⟨e,h0,e0,g0⟩|⟨e,s,h0,h1,e0,e1,g0,g1⟩
  .rw[if_pos e]
   subst hm
   exact⟨λh t ht=>by rw[show t=0 by omega];exact h.1,λh=>⟨h 0 (by omega),rfl⟩⟩
  .have hc:=hcx (base+m) hN 0 (by omega)
   rw[if_neg (by omega),if_pos e,<- hc,e0,Ie hcx f base (m-1) (by omega) (by omega) g0]
   constructor
   .rintro⟨h2,h3⟩ t ht
    by_cases q:t=m
    .rw[q];exact h2
    .exact h3 t (by omega)
   .intro h
    exact⟨h m (by omega),λt ht=>h t (by omega)⟩
  .have hc:=hcx (base+m) hN 0 (by omega)
   have hc1:=hcx (base+m) hN 1 (by omega)
   have d0:(Bd (base+m) || (I (base+m) == 9))=Bd (base+(s-1)):=by rw[<- hc,e0]
   have d1:(Bd (base+m) || (I (base+m) == 9))=Bd (base+s+(m-s-1)):=by rw[<- hc1,e1]
   have hs1:base+(s-1)+1=base+s:=by omega
   have hs2:base+m-(base+(s-1))-2=m-s-1:=by omega
   have hs3:base+(s-1)-base=s-1:=by omega
   rw[if_neg (by omega),if_neg (by omega),e0,hs1,hs2,hs3,Bool.and_eq_true]
   have ih0:=Ie (Ch:=Ch) hcx f base (s-1) (by omega) (by omega) g0
   have ih1:=Ie (Ch:=Ch) hcx f (base+s) (m-s-1) (by omega) (by omega) g1
   rw[<- d0] at ih0
   rw[<- d1] at ih1
   rw[ih0,ih1]
   constructor
   .rintro⟨h2,h3,h4⟩ t ht
    by_cases q:t=m
    .rw[q];exact h2
    .by_cases q2:t<s
     .exact h3 t (by omega)
     .have:=h4 (t-s) (by omega)
      rw[show base+s+(t-s)=base+t by omega] at this
      exact this
   .intro h
    refine⟨h m (by omega),λt ht=>h t (by omega),λt ht=>?_⟩
    have:=h (s+t) (by omega)
    rw[<- Nat.add_assoc] at this
    exact this
theorem D5 {I:Nat->Int} {b1 n1 b2 n2:Nat} (h1:Am (λi=>Ah (I (b1+i))) (n1+1) 0) (h2:Am (λi=>Ah (I (b2+i))) (n2+1) 0) (h:b1+n1=b2+n2):b1=b2/\n1=n2:=by have q1:=DB (A:=At I) (base:=b1) h1;have q2:=DB (A:=At I) (base:=b2) h2;rw[show b1+(n1+1)=b2+(n2+1) by omega] at q1;have:=q1.uniq q2;omega
def MX (w:World) (pb po n:Nat) (Ch:Nat->Int):Prop:=∀i,i<n->w.cell? (ad pb (po+i))=some (iv (Ch i))
theorem MX.below {w w' : World} {pb po n:Nat} {Ch:Nat->Int} (h:MX w pb po n Ch) (hb:Bl w w'):MX w' pb po n Ch:=λi hi=>(hb.cell (Ws _ _ (h i hi))).trans (h i hi)
theorem EP {N:Nat} {I Ch:Nat->Int} {X R:Nat->ByteArray} (hv:∀i,i<N->1<=I i/\I i<=9):∀(f b o base m cc pb po pc:Nat) (bd:Bool) (w:World),DP w (some (ad b o)) (m+1) (λi=>I (base+i)) (λi=>X (base+i)) (λi=>R (base+i))->MX w pb po (m+1) (λi=>Ch (base+i))->m+1<=f->f<=1000->m+1<=cc->cc<=9223372036854775807->m+1<=pc->pc<=9223372036854775807->base+m<N->Am (λi=>Ah (I (base+i))) (m+1) 0->
  WS 32 #[.slice (some (ad b o)) (m+1) cc,.slice (some (ad pb po)) (m+1) pc,.bool bd] w (WT w (.bool (Nj I Ch f base m bd)))
 | 0,b,o,base,m,cc,pb,po,pc,bd,w,_,_,hf,_,_,_,_,_,_,_=>absurd hf (by omega)
 | f+1,b,o,base,m,cc,pb,po,pc,bd,w,hR,hP,hf,hf2,hc,hcm,hpc,hpm,hN,hb=>by
  have IH:=EP (Ch:=Ch) (X:=X) (R:=R) hv f
  obtain⟨r,ks,hko⟩:=NY b o cc m hb (BD _)
  have hkd:∀W,Bl w W->WS 73 #[.slice (some (ad b o)) (m+1) cc] W λe w'=>∃go cpo,e=.returned (.slice (some (ad go 0)) ks.length cpo)/\(∀i x,ks[i]?=some x->w'.cell? (ad go i)=some x)/\Bl W w':=λW hW=>by
   refine (Fv b o m cc (λi=>I (base+i)) (λi=>X (base+i)) (λi=>R (base+i)) W (hR.below hW) (by omega) hc hcm hb).mono ?_
   rintro e w' ⟨v,r',ks',rfl,hko',hka,hb2⟩
   obtain⟨go,cpo,rfl,hks⟩:=hka
   have e:=J4 hko hko'
   subst e
   exact⟨go,cpo,rfl,hks,hb2⟩
  have hM:PK w (.slice (some (ad b o)) (m+1) cc) (I (base+m)) (X (base+m)) (R (base+m)) ks:=⟨λW hW=>I1 b o m cc _ _ _ W (hR.below hW) (by omega),hkd⟩
  have hkt:=J3 hko hR hc hb
  have hlen:=hko.len
  have hk9:=hv (base+m) hN
  have hch:w.cell? (ad pb (po+(m+1-1)))=some (iv (Ch (base+m))):=hP m (by omega)
  show Calls _ _ _ _ λe w'=>e=.returned (.bool (_ && _))/\_
  rcases Gz hb with ⟨e,hm⟩|⟨e,h0,e0,g0⟩|⟨e,s,h0,h1,e0,e1,g0,g1⟩
  .rw[if_pos e]
   rw[e] at hlen
   obtain rfl:ks=[]:=List.length_eq_zero_iff.1 hlen
   refine (V5 _ (I (base+m)) hk9 _ _ bd pb po (m+1) pc _ w ⟨_,_,_,rfl⟩ hM (by omega) hpc hpm (by omega) hch).mono ?_
   rintro e w' ⟨rfl,hb⟩
   exact⟨by simp,hb⟩
  .rw[if_neg (by omega),if_pos e]
   rw[e] at hlen
   obtain⟨o',n',c',base',q1,q2,q3,q4,q5,q6,q7,q8⟩:=hkt 0 (by omega)
   rw[e0] at q7
   obtain⟨rfl,rfl⟩:=D5 q3 g0 q7
   obtain rfl:ks=[.slice (some (ad b o')) (m-1+1) c']:=by
    match ks,hlen,q1 with
    | [z],_,q1=>injection q1 with q1;rw[q1]
   refine (V4 _ (I (base'+m)) hk9 _ _ bd pb po (m+1) pc _ _ (m-1+1) c' _ w ⟨_,_,_,rfl⟩ hM (by omega) hpc hpm (by omega) hch (λW hW=>IH b o' base' (m-1) c' pb po pc _ W (q2.below hW) (λi hi=>(hP.below hW) i (by omega)) (by omega) (by omega) q5 (by omega) (by omega) hpm (by omega) q3)).mono ?_
   rintro e w' ⟨rfl,hb⟩
   exact⟨rfl,hb⟩
  .rw[if_neg (by omega),if_neg (by omega)]
   rw[e] at hlen
   obtain⟨o0,n0,c0,b0,q1,q2,q3,q4,q5,q6,q7,q8⟩:=hkt 0 (by omega)
   obtain⟨o1,n1,c1,b1,p1,p2,p3,p4,p5,p6,p7,p8⟩:=hkt 1 (by omega)
   rw[e0] at q7
   rw[e1] at p7
   obtain⟨rfl,rfl⟩:=D5 q3 g0 q7
   obtain⟨rfl,rfl⟩:=D5 p3 g1 p7
   obtain rfl:ks=[.slice (some (ad b o0)) (s-1+1) c0,.slice (some (ad b o1)) (m-s-1+1) c1]:=by
    match ks,hlen,q1,p1 with
    | [z,z'],_,q1,p1=>injection q1 with q1;injection p1 with p1;rw[q1,p1]
   have hs1:b0+(s-1)+1=b0+s:=by omega
   have hs2:b0+m-(b0+(s-1))-2=m-s-1:=by omega
   have hs3:b0+(s-1)-b0=s-1:=by omega
   rw[e0,hs1,hs2,hs3]
   refine (VP _ (I (b0+m)) hk9 _ _ bd pb po (m+1) pc _ _ (s-1+1) c0 _ _ (m-s-1+1) c1 _ w ⟨_,_,_,rfl⟩ hM (by omega) hpc hpm (by omega) hch (λW hW=>IH b o0 b0 (s-1) c0 pb po pc _ W (q2.below hW) (λi hi=>(hP.below hW) i (by omega)) (by omega) (by omega) q5 (by omega) (by omega) hpm (by omega) q3) (λW hW=>IH b o1 (b0+s) (m-s-1) c1 pb (po+(s-1+1)) (pc-(s-1+1)) _ W (p2.below hW) (λi hi=>?_) (by omega) (by omega) p5 (by omega) (by omega) (by omega) (by omega) p3)).mono ?_
   .have:=(hP.below hW) (s+i) (by omega)
    rw[show po+(s-1+1)+i=po+(s+i) by omega]
    dsimp only at this ⊢
    rw[show b0+s+i=b0+(s+i) by omega]
    exact this
   .rintro e w' ⟨rfl,hb⟩
    exact⟨by rw[Bool.and_assoc],hb⟩
def V2 (n:Nat) (I:Nat->Int) (q:Qd):Prop:=∀k,k<4->∃i,i<n/\I i=Ar q.s q.p q.o q.g k
def Wp (n:Nat) (I:Nat->Int) (L:List Qd) (b:Bool):Prop:=b=true↔∀q,q∈L->V2 n I q
theorem Mq (next:Int) (a:Option Addr) (n c:Nat) (I:Nat->Int) (X:Nat->ByteArray) (R:Nat->Int) (qa:Option Addr) (ll qc:Nat) (LL:List Qd) (w:World) (h:E0 w a n I X R) (hn:n<=1048576) (hq:BW w qa LL) (hll:ll=LL.length) (hl3:ll<=300) :
  WS 31 #[.agg #[iv next,.slice a n c],.slice qa ll qc] w λe w'=>∃b,e=.returned (.bool b)/\Wp n I LL b/\Bl w w':=by
 have HQ:=hid hq;have HN:=hid hll;have HB:=hid (λW x hW=>IX next a n c I X R x W (h.below hW) hn);clear h hq hll;obtain⟨W0,hW0⟩:=gn (w.alloc (.cells #[iv next,.slice a n c] 45));have S0:U (Bx W0 w.heap.size 45 #[iv next,.slice a n c]/\Bl w W0):=by rw[hW0];exact⟨Bx.new _ _ _,Aa _ _⟩
 go_enter Tryz.func31,Tryz.ntmps31;go_upto_region 1 with fail
 rw[<- hW0];clear hW0;go_wp2;go_loopw [4,5,6] (λ_ i _ wr=>∃j:Nat,j<=ll/\i=iv (j:Int)/\(∀t (ht:t<LL.length),t<j->V2 n I LL[t])/\Bl W0 wr) (λ_ i _ _=>ll-(intOf i).toNat)
 case atStart=>exact⟨0,Ww _,rfl,λt _ ht=>absurd ht (Wy _),Wt _ _⟩
 case round=>
  obtain⟨j,hj,rfl,hall,hbel⟩:=hrel;have HA:=hid (ai hall hbel);clear hall hbel;by_cases hlt:j<ll
  .have hjl:j<LL.length:=by rw[<- HN.o];exact hlt
   obtain⟨q,hqe⟩:=gn (LL[j]);have HQE:=hid hqe;have HQC:U (∀W,Bl W0 W->∃b,qa=some (ad b 0)/\W.cell? (ad b (j*4))=some (iv q.s)/\W.cell? (ad b (j*4+1))=some (iv q.p)/\W.cell? (ad b (j*4+2))=some (iv q.o)/\W.cell? (ad b (j*4+3))=some (iv q.g)):=λW hW=>by
    rcases (HQ.o.below (S0.o.2.trans (hW.mono S0.o.2.size))) with h0|⟨b,e,hc⟩;.omega
    .rw[hqe];exact⟨b,e,hc j hjl⟩
   obtain⟨qb,rfl,-⟩:=HQC.o wr HA.o.2;have HQD:U (∀W,Bl W0 W->W.cell? (ad qb (j*4))=some (iv q.s)/\W.cell? (ad qb (j*4+1))=some (iv q.p)/\W.cell? (ad qb (j*4+2))=some (iv q.o)/\W.cell? (ad qb (j*4+3))=some (iv q.g)):=λW hW=>by obtain⟨b,e,hc⟩:=HQC.o W hW;injection e with e;injection e with e;subst e;exact hc
   clear hqe HQC;have i0:(0:Int)<=(j:Int):=by omega
   have i1:(j:Int)<(ll:Int):=by omega
   have HPt:=hid (λk hk W=>Ir q.s q.p q.o q.g k hk W);have HWR:=hid HA.o.2;go_wp2;go_loopw [4,6] (λ_ i wr=>∃k:Nat,k<=4/\i=iv (k:Int)/\(∀t,t<k->∃i,i<n/\I i=Ar q.s q.p q.o q.g t)/\Bl W0 wr) (λ_ i _=>4-(intOf i).toNat)
   case atStart=>exact⟨0,Ww _,rfl,λt ht=>absurd ht (Wy _),HWR.o⟩
   case round=>
    obtain⟨k,hk,rfl,hkall,hkb⟩:=hrel;have HK:=hid (ai hkall hkb);clear hkall hkb;by_cases hk4:k<4
    .have ik:(k:Int)<4:=by omega
     go_upto_region 7 with fail
     refine Ac (S:=λW=>Bl wr W) 8 (by kernel_rfl) (Wt _ _).drew (λW hHeld=>?_);refine ty 0 rfl (λw' h=>by have x1:Bx w' w.heap.size 45 #[iv next,.slice a n c]:=((HK.o.2.trans (h.mono HK.o.2.size)).block _ S0.o.1.lt).trans S0.o.1;have x0:=x1.cell 0;have x2:=x1.cell 1;clear x1;simp at x0 x2;clear h;go_simp;rfl) ?_;refine tx 1 rfl ?_;refine tx 2 rfl ?_;refine tx 3 rfl ?_;refine ty 4 rfl (λw' h=>by obtain⟨y0,y1,y2,y3⟩:=HQD.o w' (HK.o.2.trans (h.mono HK.o.2.size));clear h;go_simp;rfl) ?_;refine tx 5 rfl ?_;refine AB 6 rfl (λK hK=>?_);refine AF rfl 70 21 22 _ rfl (.agg #[iv q.s,iv q.p,iv q.o,iv q.g]) (iv (k:Int)) rfl rfl (λ_ _=>rfl) ?_;refine (HPt.o k hk4 W).mono ?_;rintro e w2 ⟨rfl,hbm⟩;have h2:=hHeld.trans (hbm.mono hHeld.size);refine⟨_,rfl,hK.out _ _ (λ_=>h2) (λhG=>?_)⟩;clear hK K hG hbm hHeld;simp only[As];obtain⟨x,hx⟩:=gn (Ar q.s q.p q.o q.g k);have HX:=hid hx;rw[<- hx];clear hx;refine AB 7 rfl (λK hK=>?_);refine AF rfl 69 17 23 _ rfl (.agg #[iv next,.slice a n c]) (iv x) rfl rfl (λ_ _=>rfl) ?_;refine (HB.o w2 x (S0.o.2.trans ((HK.o.2.trans (h2.mono HK.o.2.size)).mono S0.o.2.size))).mono ?_;rintro e w3 ⟨hres,hbm⟩;have h3:=h2.trans (hbm.mono h2.size);clear hbm h2;rcases hres with ⟨m,hm,hIm,rfl⟩|⟨hno,rfl⟩
     .have m0:¬ (m:Int)<0:=by omega
      have HM:=hid (ai hm hIm);clear hm hIm;refine⟨_,rfl,hK.out _ _ (λ_=>h3) (λhG=>?_)⟩;clear hK K hG;simp only[As];refine AB 8 rfl (λK hK=>?_);go_simp;refine hK.out _ _ (λ_=>h3) (λhG=>?_);clear hK K hG;refine Ae (by kernel_rfl) ?_ _;have S3:=hid (HK.o.2.trans (h3.mono HK.o.2.size));clear h3;go_wp2;go_roundw;case rel=>
       refine⟨k+1,by omega,by go_num,λt ht=>?_,S3.o⟩;by_cases htk:t<k;.exact HK.o.1 t htk
       .obtain rfl:t=k:=by omega
        exact⟨m,HM.o.1,HM.o.2.trans HX.o⟩
      case measure=>simp[intOf];omega
     .have HM:=hid hno;clear hno;refine⟨_,rfl,hK.out _ _ (λ_=>h3) (λhG=>?_)⟩;clear hK K hG;simp only[As];refine AB 8 rfl (λK hK=>?_);go_simp;refine hK.out _ _ (λ_=>h3) (λhG=>?_);clear hK K hG;refine Ae (by kernel_rfl) ?_ _;have S3:=hid (HK.o.2.trans (h3.mono HK.o.2.size));clear h3;go_wp2;go_ret;refine⟨false,rfl,⟨λh=>absurd h (by decide),λh=>?_⟩,S0.o.2.trans (S3.o.mono S0.o.2.size)⟩;obtain⟨i,hi,e⟩:=h q (by rw[HQE.o];exact WE _) k hk4;exact absurd (e.trans HX.o.symm) (HM.o i hi)
    .obtain rfl:k=4:=by omega
     have HE:=hid (ai HK.o.1 HK.o.2);go_wp2;go_roundw;case rel=>
      refine⟨j+1,by omega,by go_num,λt ht htj=>?_,HE.o.2⟩;by_cases h:t<j;.exact HA.o.1 t ht h
      .obtain rfl:t=j:=by omega
       rw[<- HQE.o];exact HE.o.1
     case measure=>simp[intOf];omega
  .obtain rfl:j=ll:=by omega
   go_wp2;go_ret;refine⟨true,rfl,⟨λ_ q hq=>?_,λ_=>rfl⟩,S0.o.2.trans (HA.o.2.mono S0.o.2.size)⟩;obtain⟨t,ht,e⟩:=List.getElem_of_mem hq;rw[<- e];exact HA.o.1 t ht (by rw[HN.o];exact ht)
def CQ (k:Int) (big:Bool) (x:List Int) (q:Qd) (r:List Int × Nat):List Int × Nat:=if x.contains (DD k q)=true then (AH r.1 (Gi k q),r.2+1) else if big=true then (r.1,r.2+1) else r
theorem Di (k:Int) (big:Bool) (x:List Int):∀(A:List Qd) (q:Qd) (r:List Int × Nat),Av k big x (A++[q]) r=CQ k big x q (Av k big x A r)
 | [],_,_=>rfl
 | _::A,q,r=>Di k big x A q _
theorem Pz (k:Int) (big:Bool) (x:List Int) (q:Qd) (r:List Int × Nat):(CQ k big x q r).1.length<=r.1.length+1/\(CQ k big x q r).2<=r.2+1:=by
 unfold CQ;split;.exact⟨Qf,Wu _⟩
 .split;.exact⟨Nat.le_succ _,Wu _⟩
  .exact⟨Nat.le_succ _,Nat.le_succ _⟩
theorem DR (k:Int) (big:Bool) (x:List Int):∀(A:List Qd) (r:List Int × Nat),(Av k big x A r).1.length<=r.1.length+A.length/\(Av k big x A r).2<=r.2+A.length
 | [],_=>⟨Wu _,Wu _⟩
 | q::A,r=>by
  have h:=DR k big x A (CQ k big x q r)
  have h1:=Pz k big x q r
  show (Av k big x A (CQ k big x q r)).1.length<=_/\(Av k big x A (CQ k big x q r)).2<=_
  simp only[WN]
  omega
theorem DV:∀(B:List Int) (y:Int) (o:List Int),Bq o (B++[y])=AH (Bq o B) y
 | [],_,_=>rfl
 | _::B,y,o=>DV B y _
theorem Du:∀(B o:List Int),(Bq o B).length<=o.length+B.length
 | [],_=>Wu _
 | y::B,o=>by
  have h:=Du B (AH o y)
  have h1:=@Qf o y
  show (Bq (AH o y) B).length<=_
  simp only[WN]
  omega
def BU (k:Int) (b:List Int) (a:List Int):List Int:=a.filter (λy=>k == 7 || (b.contains y == (k == 6)))
theorem Ip (k:Int) (b A:List Int) (y:Int):BU k b (A++[y])=if (k == 7 || (b.contains y == (k == 6)))=true then BU k b A++[y] else BU k b A:=by
 unfold BU;rw[List.filter_append];by_cases h:(k == 7 || (b.contains y == (k == 6)))=true;.rw[if_pos h,List.filter_cons_of_pos (p:=λy=>k == 7 || (b.contains y == (k == 6))) h];rfl
 .rw[if_neg h,List.filter_cons_of_neg (p:=λy=>k == 7 || (b.contains y == (k == 6))) h];simp
theorem Gl (k:Int) (b A:List Int):(BU k b A).length<=A.length:=List.length_filter_le _ _
theorem Se (b A:List Int):BU 7 b A=A:=by unfold BU;exact List.filter_eq_self.2 (λ_ _=>rfl)
theorem Gp (k:Int) (a b:List Int):D8 k a b=if k=7 then Bq (BU k b a) b else BU k b a:=by
 unfold D8;by_cases h:k=7;.rw[if_pos h,if_pos h,h,Se]
 .rw[if_neg h,if_neg h];unfold BU;congr 1;funext y;have e:(k == 7)=false:=by simp[h]
  rw[e,Bool.false_or];congr 1
theorem PY (k:Int) (a b:List Int):(D8 k a b).length<=a.length+b.length:=by
 rw[Gp];split;.have h:=Du b (BU k b a);have h1:=Gl k b a;omega
 .have h1:=Gl k b a;omega
variable {p:Qd}{t:Int}
theorem Jd {k:Int} (qs:List Qd):∀(x:List Int),x.Nodup->(x.map (λt=>(qs.filter (λq=>DD k q == t)).length)).sum=(qs.filter (λq=>x.contains (DD k q))).length
 | [],_=>by
  simp only[List.map_nil,List.sum_nil]
  rw[List.filter_eq_nil_iff.2 (by simp)]
  rfl
 | t::x,h=>by
  have hn:=List.nodup_cons.1 h
  rw[List.map_cons,List.sum_cons,Jd qs x hn.2]
  clear h
  induction qs with
  | nil=>rfl
  | cons q qs ih=>
   by_cases h1:DD k q=t
   .have h2:x.contains (DD k q)=false:=by
     rw[h1]
     simpa using hn.1
    have e1:(DD k q == t)=true:=by simp[h1]
    have e3:(t::x).contains (DD k q)=true:=by simp[h1]
    rw[List.filter_cons_of_pos (p:=λq=>DD k q == t) e1,List.filter_cons_of_neg (p:=λq=>x.contains (DD k q)) (by rw[h2];simp),List.filter_cons_of_pos (p:=λq=>(t::x).contains (DD k q)) e3,WN,WN]
    omega
   .have e1:¬ (DD k q == t)=true:=by simp[h1]
    by_cases h2:x.contains (DD k q)=true
    .have e3:(t::x).contains (DD k q)=true:=by simp at h2 ⊢;exact .inr h2
     rw[List.filter_cons_of_neg (p:=λq=>DD k q == t) e1,List.filter_cons_of_pos (p:=λq=>x.contains (DD k q)) h2,List.filter_cons_of_pos (p:=λq=>(t::x).contains (DD k q)) e3,WN,WN]
     omega
    .have e3:¬ (t::x).contains (DD k q)=true:=by simp at h2 ⊢;exact⟨h1,h2⟩
     rw[List.filter_cons_of_neg (p:=λq=>DD k q == t) e1,List.filter_cons_of_neg (p:=λq=>x.contains (DD k q)) h2,List.filter_cons_of_neg (p:=λq=>(t::x).contains (DD k q)) e3]
     exact ih
def A9 (k:Int) (p:Qd) (t:Int):Qd:=if k=4 then ⟨p.s,p.p,t,p.g⟩ else ⟨t,p.p,p.o,p.g⟩
theorem J7 (q:Int):Bb 0 q=true:=by unfold Bb;simp
theorem Mn (q:Int) (ht:t≠0):Bb t q=(q == t):=by unfold Bb;rw[Bool.eq_iff_iff];simp[ht];exact eq_comm
theorem Qv {k:Int} {q:Qd} (hp:(if k=4 then p.o else p.s)=0) (ht:t≠0):BN q (A9 k p t)=(BN q p && (DD k q == t)):=by
 obtain⟨a,b,c,d⟩:=q;obtain⟨e,f,g,h⟩:=p;unfold A9 DD BN;by_cases h4:k=4;.rw[if_pos h4] at hp ⊢;rw[if_pos h4];have hg:=hp;subst hg;show (Bb e a && Bb f b && Bb t c && Bb h d)=(Bb e a && Bb f b && Bb 0 c && Bb h d && (c == t));rw[J7,Mn c ht];cases Bb e a <;> cases Bb f b <;> cases Bb h d <;> cases (c == t) <;> rfl
 .rw[if_neg h4] at hp ⊢;rw[if_neg h4];have he:=hp;subst he;show (Bb t a && Bb f b && Bb g c && Bb h d)=(Bb 0 a && Bb f b && Bb g c && Bb h d && (a == t));rw[J7,Mn a ht];cases Bb f b <;> cases Bb g c <;> cases Bb h d <;> cases (a == t) <;> rfl
theorem Ri {k:Int} {Q:List Qd} {c:Cx} (hp:(if k=4 then p.o else p.s)=0) (ht:t≠0):Cl Q c (A9 k p t)=(Cl Q c p).filter (λq=>DD k q == t):=by
 unfold Cl;by_cases hn:Rb c=true;.rw[if_pos hn,if_pos hn];rfl
 .rw[if_neg hn,if_neg hn,List.filter_filter];have e:MH c (A9 k p t)=A9 k (MH c p) t:=by unfold MH A9;split <;> split <;> rfl
  rw[e];apply List.filter_congr;intro q _;have e1:(MH c p).o=p.o:=by unfold MH;split <;> rfl
  have e2:(MH c p).s=p.s:=by unfold MH;split <;> rfl
  rw[Qv (by rw[e1,e2];exact hp) ht,Bool.and_comm]
theorem Tq:(Tryz.prog.info? 104).map (λi=>(i.zero,i.size,i.bytes))=some (some .nilIface,1,16):=by kernel_rfl
def Ca (Ty Ob:Nat->Nat) (F:Nat->Nat) (q:Nat):List Value:=(List.range q).map (λj=>Value.iface (Ty (F j)) (.pointer (some (ad (Ob (F j)) 0))))
theorem L3 (Ty Ob:Nat->Nat) (F:Nat->Nat) (q:Nat):Ca Ty Ob F (q+1)=Ca Ty Ob F q++[.iface (Ty (F q)) (.pointer (some (ad (Ob (F q)) 0)))]:=by unfold Ca;rw[List.range_succ,List.map_append];rfl
theorem Pg (gt n ct:Nat) (Ty Ob:Nat->Nat) (aa:Option Addr) (q ca:Nat) (F:Nat->Nat) (w:World) (h1:∀j,j<q->w.cell? (ad gt (F j))=some (.iface (Ty (F j)) (.pointer (some (ad (Ob (F j)) 0))))) (h2:Rd .i64 w aa q (λj=>(F j:Int))) (hF:∀j,j<q->F j<n) (hq:q<=1000) (hn:n<=1000) :
  WS 44 #[.slice (some (ad gt 0)) n ct,.slice aa q ca] w λe w'=>∃v,e=.returned v/\w'.ownsRow w.heap.size 104 1 v q (Ca Ty Ob F q)/\Bl w w':=by
 have HR:=hid (ai h1 (ai h2 hF));clear h1 h2 hF;obtain⟨i0,hi,hz0,hz1,hz2⟩:=info_parts Tq;have HI:=hid (ai hi (ai hz0 (ai hz1 hz2)));clear hi hz0 hz1 hz2;go_enter Tryz.func44,Tryz.ntmps44;go_wp2;go_loopw [5,7,10] (λu _ i wr=>∃k:Nat,k<=q/\i=iv k/\wr.ownsRow w.heap.size 104 1 u k (Ca Ty Ob F k)/\Bl w wr) (λ_ _ i _=>q-(intOf i).toNat)
 case atStart=>exact⟨0,Ww _,rfl,⟨rfl,.inl ⟨rfl,rfl⟩⟩,Wt _ _⟩
 case round=>
  obtain⟨k,hk,rfl,hown,hbr⟩:=hrel;have HO:U (wr.ownsRow w.heap.size 104 1 u5 k (Ca Ty Ob F k)/\Bl w wr):=⟨hown,hbr⟩;have hsz:=hbr.size;clear hown hbr;by_cases hlt:k<q
  .rcases HR.o.2.1 with h0|⟨ba,oa,ea,hca⟩;.omega
   subst ea;have c1:wr.cell? (ad ba (oa+k))=some (iv (F k:Int)):=(HO.o.2.cell (Ws _ _ (hca k hlt))).trans (hca k hlt);have hFk:=HR.o.2.2 k hlt;have c2:wr.cell? (ad gt (F k))=some (.iface (Ty (F k)) (.pointer (some (ad (Ob (F k)) 0)))):=(HO.o.2.cell (Ws _ _ (HR.o.1 k hlt))).trans (HR.o.1 k hlt);obtain⟨fk,hfk⟩:∃fk,fk=F k:=⟨_,rfl⟩;rw[<- hfk] at c1 c2 hFk;have HF2:=hid hfk;clear hca hfk;have k0:(0:Int)<=(k:Int):=by omega
   have k1:(k:Int)<(q:Int):=by omega
   have f0:(0:Int)<=(fk:Int):=by omega
   have f1:(fk:Int)<(n:Int):=by omega
   go_wp2_with (at_builtin;refine wpList_append_own _ rfl _ _ 95 rfl w.heap.size 104 i0 .nilIface 1 16 (by kernel_rfl) HI.o.1 HI.o.2.1 HI.o.2.2.1 HI.o.2.2.2 rfl (by decide) u5 k (Ca Ty Ob F k) rfl (HO.o.1.alloc _) (ad wr.heap.size 0) 1 1 [.iface (Ty fk) (pt (Ob fk))] rfl rfl (Ef _ [.iface (Ty fk) (pt (Ob fk))] _) (λu hu=>by simp at hu;subst hu;rfl) (by unfold maxLen;omega) (by omega) (by simp;omega) ?_)
   intro v' w1 ho hg _;have HX:U (w1.ownsRow w.heap.size 104 1 v' (k+1) (Ca Ty Ob F (k+1))/\Bl w w1):=by rw[L3,<- HF2.o];exact⟨ho,(HO.o.2.alloc hsz _).grown hg (by simp;omega) (λb e=>(HO.o.1.lt b e).1)⟩
   clear ho hg HO c1 c2;go_wp2;go_roundw;case rel=>exact⟨k+1,by omega,by go_num,HX.o⟩
   case measure=>simp[intOf];omega
  .have e:k=q:=by omega
   subst e;have l1:¬ (k:Int)<(k:Int):=by omega
   go_wp2;go_ret;exact⟨_,rfl,HO.o⟩
theorem Pj (gt n ct:Nat) (ty ob:Nat) (w:World) (h:w.cell? (ad gt n)=some (.iface ty (pt ob))) (hn:n<=1000):WS 45 #[.slice (some (ad gt 0)) (n+1) ct] w λe w'=>e=.returned (.iface ty (pt ob))/\w'=w:=by
 have hw:IntKind.i64.wrap (((n+1:Nat):Int)-1)=(n:Int):=by rw[Wz];omega
 have hw2:IntKind.i64.wrap ((n:Int)+1-1)=(n:Int):=by rw[Wz];omega
 go_enter Tryz.func45,Tryz.ntmps45;go_wp2;go_ret;exact⟨rfl,rfl⟩
end Go.Proofs.YtacpbofiipdodaaGreat
