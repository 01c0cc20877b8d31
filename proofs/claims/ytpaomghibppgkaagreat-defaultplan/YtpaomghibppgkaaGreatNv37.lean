import Derived.Test.YtpaomghibppgkaaGreatNv15
import Derived.Test.YtpaomghibppgkaaGreatNv8
import Derived.Test.YtpaomghibppgkaaGreatNv35
import Derived.Test.YtpaomghibppgkaaGreatNv32
import Derived.Deep.CutRange
import Derived.Deep.CutBlock
import Derived.Test.YtpaomghibppgkaaGreatNv36
set_option linter.unusedVariables false
set_option maxRecDepth 100000
namespace Go.Proofs.YtpaomghibppgkaaGreat
open Go.RowKit Go.Deep
set_option linter.unusedSimpArgs false

theorem begins_lift {A:Nat->Nat} {base e s:Nat} (h:Begins (fun i=>A (base+i)) e s):Begins A (base+e) (base+s):=by
 obtain ⟨h1,h2,h3⟩:=h
 unfold need at h2 h3
 refine ⟨by omega,?_,fun j h4 h5=>?_⟩
 ·unfold need
  rw [dep_shift,dep_shift] at h2
  omega
 ·unfold need
  have:=h3 (j-base) (by omega) (by omega)
  rw [dep_shift,dep_shift,show base+(j-base)=j by omega] at this
  omega
theorem ops_at {I:Nat->Int} {base m:Nat} (hb:Begins (fun i=>arOf (I (base+i))) (m+1) 0) :
  (arOf (I (base+m))=0/\m=0)\/(arOf (I (base+m))=1/\0<m/\opf (arI I) (base+m) 0=base+(m-1)/\Begins (fun i=>arOf (I (base+i))) (m-1+1) 0)\/
  (arOf (I (base+m))=2/\∃s,0<s/\s<m/\opf (arI I) (base+m) 0=base+(s-1)/\opf (arI I) (base+m) 1=(base+s)+(m-s-1)/\Begins (fun i=>arOf (I (base+i))) (s-1+1) 0/\Begins (fun i=>arOf (I (base+s+i))) (m-s-1+1) 0):=by
 have hk:=kids_math (n:=m+1) (by omega) hb (by exact arOf_le _)
 rw [Nat.add_sub_cancel] at hk
 rcases hk with ⟨e,hm⟩|⟨e,h1⟩|⟨e,s,hs,h1,h2⟩
 ·exact .inl ⟨e,by omega⟩
 ·have hm:=h1.1
  refine .inr (.inl ⟨e,hm,?_,by rw [show m-1+1=m by omega];exact h1⟩)
  unfold opf arI
  rw [if_neg (by omega)]
  omega
 ·have hm:=h1.1
  have hs2:=h2.1
  refine .inr (.inr ⟨e,s,hs2,hm,?_,?_,by rw [show s-1+1=s by omega];exact h2,?_⟩)
  ·have q:=bgF_of (begins_lift (A:=arI I) h1)
   unfold opf
   rw [if_pos ⟨e,rfl⟩,q]
   omega
  ·unfold opf
   rw [if_neg (by omega)]
   omega
  ·rw [show m-s-1+1=m-s by omega]
   have:=h1.shift
   simpa only [Nat.add_assoc] using this
structure Cx where
 b:Bool
 g:Int
def inC (c:Cx) (p:Qd):Qd:=if c.b=true then ⟨p.s,p.p,p.o,c.g⟩ else p
def noC (c:Cx):Bool:=c.b && c.g == 0
def mtL (Q:List Qd) (c:Cx) (p:Qd):List Qd:=if noC c=true then [] else Q.filter (fun q=>fitB q (inC c p))
def ownN (id:ByteArray->Int) (Q:List Qd) (k:Int) (s t:ByteArray) (c:Cx):Nat:=
 if id s=0 then 0 else if k=5 then (if id t=0 then 0 else (mtL Q c ⟨0,id s,id t,0⟩).length) else (mtL Q c ⟨0,id s,0,0⟩).length
def dnC (id:ByteArray->Int) (k:Int) (s:ByteArray) (c:Cx):Cx:=if k=9 then ⟨true,id s⟩ else c
def nodeG (k:Int) (ow al a b:Nat):Nat:=
 if k=1 then 2*al else if k=2 then 1 else if k=5 then min a ow else if k=6 then min a b else if k=7 then a+b else if k=8\/k=9 then a else ow
def GSF (id:ByteArray->Int) (Q:List Qd) (I:Nat->Int) (X R:Nat->ByteArray):Nat->Nat->Cx->Nat
 | 0,_,_=>0
 | f
  + 1,i,c=>nodeG (I i) (ownN id Q (I i) (X i) (R i) c) (mtL Q c ⟨0,0,0,0⟩).length
  (if opf (arI I) i 0<i then GSF id Q I X R f (opf (arI I) i 0) (dnC id (I i) (X i) c) else 0)
  (if opf (arI I) i 1<i then GSF id Q I X R f (opf (arI I) i 1) (dnC id (I i) (X i) c) else 0)
theorem GSF_any (id:ByteArray->Int) (Q:List Qd) (I:Nat->Int) (X R:Nat->ByteArray):∀(f h i:Nat),i<f->i<h->∀c,GSF id Q I X R f i c=GSF id Q I X R h i c
 | 0,_,_,q,_,_=>absurd q (Nat.not_lt_zero _)
 | _+1,0,_,_,q,_=>absurd q (Nat.not_lt_zero _)
 | f+1,h+1,i,h1,h2,c=>by
  have e:∀j,(if opf (arI I) i j<i then GSF id Q I X R f (opf (arI I) i j) (dnC id (I i) (X i) c) else 0)=(if opf (arI I) i j<i then GSF id Q I X R h (opf (arI I) i j) (dnC id (I i) (X i) c) else 0):=fun j=>by
   by_cases q:opf (arI I) i j<i
   ·rw [if_pos q,if_pos q];exact GSF_any id Q I X R f h _ (by omega) (by omega) _
   ·rw [if_neg q,if_neg q]
  show nodeG _ _ _ _ _=nodeG _ _ _ _ _
  rw [e 0,e 1]
def GS (id:ByteArray->Int) (Q:List Qd) (I:Nat->Int) (X R:Nat->ByteArray) (i:Nat) (c:Cx):Nat:=GSF id Q I X R (i+1) i c
theorem nodeG_congr {k:Int} {ow al a a' b b' : Nat} (hk:1<=k/\k<=9) (hA:1<=arOf k->a=a') (hB:arOf k=2->b=b'):nodeG k ow al a b=nodeG k ow al a' b':=by
 have h9:k=1\/k=2\/k=3\/k=4\/k=5\/k=6\/k=7\/k=8\/k=9:=by omega
 rcases h9 with rfl|rfl|rfl|rfl|rfl|rfl|rfl|rfl|rfl
 all_goals
  simp [nodeG,arOf] at hA hB ⊢
  try simp [hA]
  try simp [hB]
theorem GS_eq {id:ByteArray->Int} {Q:List Qd} {I:Nat->Int} {X R:Nat->ByteArray} {i:Nat} (hk:1<=I i/\I i<=9) (h0:1<=arOf (I i)->opf (arI I) i 0<i) (h1:arOf (I i)=2->opf (arI I) i 1<i) (c:Cx) :
  GS id Q I X R i c=nodeG (I i) (ownN id Q (I i) (X i) (R i) c) (mtL Q c ⟨0,0,0,0⟩).length (GS id Q I X R (opf (arI I) i 0) (dnC id (I i) (X i) c)) (GS id Q I X R (opf (arI I) i 1) (dnC id (I i) (X i) c)):=by
 show nodeG _ _ _ _ _=_
 refine nodeG_congr hk (fun ha=>?_) (fun ha=>?_)
 ·rw [if_pos (h0 ha)]
  exact GSF_any id Q I X R _ _ _ (h0 ha) (by omega) _
 ·rw [if_pos (h1 ha)]
  exact GSF_any id Q I X R _ _ _ (h1 ha) (by omega) _
def shpQ (k way:Int) (b:Bool):Qd:=
 ⟨if way=0/\(k=3\/k=5) then 1 else 0,if k=3\/k=4\/k=5 then 1 else 0,if k=5\/(way=0/\k=4) then 1 else 0,if b=true then 1 else 0⟩
def chN (fs:Qd->Nat) (k:Int) (b:Bool) (ow a0 a1:Nat):Nat:=
 if k=1 then fs (shpQ 1 0 b)
 else if k=3\/k=4\/k=5 then (if a0<ow then fs (shpQ k 0 b) else 6+fs (shpQ k 1 b))
 else if k=6 then (if a1<a0 then 1 else 0)
 else 0
def CH (fs:Qd->Nat) (id:ByteArray->Int) (Q:List Qd) (I:Nat->Int) (X R:Nat->ByteArray) (i:Nat) (c:Cx):Nat:=
 chN fs (I i) c.b (ownN id Q (I i) (X i) (R i) c) (GS id Q I X R (opf (arI I) i 0) (dnC id (I i) (X i) c)) (GS id Q I X R (opf (arI I) i 1) (dnC id (I i) (X i) c))
def DLF (fs:Qd->Nat) (id:ByteArray->Int) (Q:List Qd) (I:Nat->Int) (X R:Nat->ByteArray):Nat->Nat->Nat->Cx->List Nat
 | 0,_,_,_=>[]
 | f+1,base,m,c=>
  (if arOf (I (base+m))=0 then []
   else if arOf (I (base+m))=1 then DLF fs id Q I X R f base (m-1) (dnC id (I (base+m)) (X (base+m)) c)
   else DLF fs id Q I X R f base (opf (arI I) (base+m) 0-base) (dnC id (I (base+m)) (X (base+m)) c)++DLF fs id Q I X R f (opf (arI I) (base+m) 0+1) (base+m-opf (arI I) (base+m) 0-2) (dnC id (I (base+m)) (X (base+m)) c))++[CH fs id Q I X R (base+m) c]
theorem range_map_add {α:Type} (g:Nat->α) (a b:Nat):(List.range (a+b)).map g=(List.range a).map g++(List.range b).map (fun t=>g (a+t)):=by
 rw [List.range_add,List.map_append,List.map_map]
 rfl
theorem DLF_map {fs:Qd->Nat} {id:ByteArray->Int} {Q:List Qd} {I:Nat->Int} {X R:Nat->ByteArray} {N:Nat} {cx:Nat->Cx} (hcx:∀i,i<N->∀j,j<arOf (I i)->cx (opf (arI I) i j)=dnC id (I i) (X i) (cx i)) :
  ∀(f base m:Nat),m+1<=f->base+m<N->Begins (fun i=>arOf (I (base+i))) (m+1) 0->DLF fs id Q I X R f base m (cx (base+m))=(List.range (m+1)).map (fun t=>CH fs id Q I X R (base+t) (cx (base+t)))
 | 0,base,m,hf,_,_=>absurd hf (by omega)
 | f+1,base,m,hf,hN,hb=>by
  show _++_=_
  rw [range_map_add (fun t=>CH fs id Q I X R (base+t) (cx (base+t))) m 1]
  congr 1
  rcases ops_at hb with ⟨e,hm⟩|⟨e,h0,e0,g0⟩|⟨e,s,h0,h1,e0,e1,g0,g1⟩
  ·rw [if_pos e,hm]
   rfl
  ·have hc:=hcx (base+m) hN 0 (by omega)
   rw [if_neg (by omega),if_pos e,<- hc,e0,DLF_map hcx f base (m-1) (by omega) (by omega) g0,show m-1+1=m by omega]
  ·have hc:=hcx (base+m) hN 0 (by omega)
   have hc1:=hcx (base+m) hN 1 (by omega)
   have hs1:base+(s-1)+1=base+s:=by omega
   have hs2:base+m-(base+(s-1))-2=m-s-1:=by omega
   have hs3:base+(s-1)-base=s-1:=by omega
   rw [if_neg (by omega),if_neg (by omega),e0,hs1,hs2,hs3]
   have d0:dnC id (I (base+m)) (X (base+m)) (cx (base+m))=cx (base+(s-1)):=by rw [<- hc,e0]
   have d1:dnC id (I (base+m)) (X (base+m)) (cx (base+m))=cx (base+s+(m-s-1)):=by rw [<- hc1,e1]
   have ih0:=DLF_map (fs:=fs) (Q:=Q) (R:=R) hcx f base (s-1) (by omega) (by omega) g0
   have ih1:=DLF_map (fs:=fs) (Q:=Q) (R:=R) hcx f (base+s) (m-s-1) (by omega) (by omega) g1
   rw [<- d0] at ih0
   rw [<- d1] at ih1
   rw [ih0,ih1,show m=s+(m-s) by omega,range_map_add (fun t=>CH fs id Q I X R (base+t) (cx (base+t))) s (m-s),show s-1+1=s by omega,show s+(m-s)-s-1+1=m-s by omega]
   congr 1
   apply List.map_congr_left
   intro t _
   rw [Nat.add_assoc]
set_option linter.unusedSimpArgs false

def elQ (j:Nat) (p:Qd):Bool:=eligB (ptO j p)
theorem eligB_congr {x y:Nat->Int} (h:∀i,i<4->x i=y i):eligB x=eligB y:=by
 rw [Bool.eq_iff_iff,eligB_iff,eligB_iff]
 exact ⟨okTo_congr h,okTo_congr (fun i hi=>(h i hi).symm)⟩
theorem elQ_both (j:Nat) (hj:j<6) (p:Qd) (w:World) :
  (Calls Tryz.prog 93 #[.int .i64 (j:Int),qv p] w fun e w'=>e=.returned (.bool (elQ j p))/\Below w.heap.size w w')/\
  (Calls Tryz.prog 109 #[.int .i64 (j:Int),qv p] w fun e w'=>e=.returned (.bool (elQ j p))/\Below w.heap.size w w'):=by
 obtain ⟨a,b,c,d⟩:=p
 have key:∀(o:Nat->Nat),(∀i,i<4->o i=ordF j i)->elQ j ⟨a,b,c,d⟩=eligB (fun i=>partOf a b c d (o i)):=fun o ho=>eligB_congr (fun i hi=>by unfold ptO;rw [ho i hi])
 have h6:j=0\/j=1\/j=2\/j=3\/j=4\/j=5:=by omega
 rcases h6 with rfl|rfl|rfl|rfl|rfl|rfl
 ·rw [key ord0 (four rfl rfl rfl rfl)];exact ⟨specElig_any 0 (by omega) (by omega) a b c d ord0 ordLt_0 l5Order_0 w,implElig_0 a b c d w⟩
 ·rw [key ord1 (four rfl rfl rfl rfl)];exact ⟨specElig_any 1 (by omega) (by omega) a b c d ord1 ordLt_1 l5Order_1 w,implElig_1 a b c d w⟩
 ·rw [key ord2 (four rfl rfl rfl rfl)];exact ⟨specElig_any 2 (by omega) (by omega) a b c d ord2 ordLt_2 l5Order_2 w,implElig_2 a b c d w⟩
 ·rw [key ord3 (four rfl rfl rfl rfl)];exact ⟨specElig_any 3 (by omega) (by omega) a b c d ord3 ordLt_3 l5Order_3 w,implElig_3 a b c d w⟩
 ·rw [key ord4 (four rfl rfl rfl rfl)];exact ⟨specElig_any 4 (by omega) (by omega) a b c d ord4 ordLt_4 l5Order_4 w,implElig_4 a b c d w⟩
 ·rw [key ord5 (four rfl rfl rfl rfl)];exact ⟨specElig_any 5 (by omega) (by omega) a b c d ord5 ordLt_5 l5Order_5 w,implElig_5 a b c d w⟩
def numQ (p:Qd):Prop:=(0<=p.s/\p.s<=2000000000)/\(0<=p.p/\p.p<=2000000000)/\(0<=p.o/\p.o<=2000000000)/\(0<=p.g/\p.g<=2000000000)
theorem elQ_iff (j:Nat) (p:Qd):elQ j p=true↔okTo (ptO j p) 4:=eligB_iff _
theorem okTo4 {x:Nat->Int} (h0:0<=x 0/\x 0<=2000000000) (h1:0<=x 1/\x 1<=2000000000) (h2:0<=x 2/\x 2<=2000000000) (h3:0<=x 3/\x 3<=2000000000) (e1:x 0=0->x 1=0) (e2:x 1=0->x 2=0) (e3:x 2=0->x 3=0):okTo x 4:=by
 intro q hq
 rcases (show q=0\/q=1\/q=2\/q=3 by omega) with rfl|rfl|rfl|rfl
 ·exact ⟨h0,fun r hr=>by omega⟩
 ·refine ⟨h1,fun r hr e=>?_⟩
  obtain rfl:r=0:=by omega
  exact e1 e
 ·refine ⟨h2,fun r hr e=>?_⟩
  rcases (show r=0\/r=1 by omega) with rfl|rfl
  ·exact e2 (e1 e)
  ·exact e2 e
 ·refine ⟨h3,fun r hr e=>?_⟩
  rcases (show r=0\/r=1\/r=2 by omega) with rfl|rfl|rfl
  ·exact e3 (e2 (e1 e))
  ·exact e3 (e2 e)
  ·exact e3 e
theorem elQ_ex (p:Qd) (h:numQ p):∃j,j<6/\elQ j p=true:=by
 obtain ⟨a,b,c,d⟩:=p
 obtain ⟨ha,hb,hc,hd⟩:=h
 simp only at ha hb hc hd
 have o0:(a=0->b=0)->(b=0->c=0)->(c=0->d=0)->elQ 0 ⟨a,b,c,d⟩=true:=fun e1 e2 e3=>(elQ_iff _ _).2 (okTo4 ha hb hc hd e1 e2 e3)
 have o1:(b=0->c=0)->(c=0->a=0)->(a=0->d=0)->elQ 1 ⟨a,b,c,d⟩=true:=fun e1 e2 e3=>(elQ_iff _ _).2 (okTo4 hb hc ha hd e1 e2 e3)
 have o2:(c=0->a=0)->(a=0->b=0)->(b=0->d=0)->elQ 2 ⟨a,b,c,d⟩=true:=fun e1 e2 e3=>(elQ_iff _ _).2 (okTo4 hc ha hb hd e1 e2 e3)
 have o3:(d=0->a=0)->(a=0->b=0)->(b=0->c=0)->elQ 3 ⟨a,b,c,d⟩=true:=fun e1 e2 e3=>(elQ_iff _ _).2 (okTo4 hd ha hb hc e1 e2 e3)
 have o4:(d=0->b=0)->(b=0->c=0)->(c=0->a=0)->elQ 4 ⟨a,b,c,d⟩=true:=fun e1 e2 e3=>(elQ_iff _ _).2 (okTo4 hd hb hc ha e1 e2 e3)
 have o5:(d=0->c=0)->(c=0->a=0)->(a=0->b=0)->elQ 5 ⟨a,b,c,d⟩=true:=fun e1 e2 e3=>(elQ_iff _ _).2 (okTo4 hd hc ha hb e1 e2 e3)
 by_cases za:a=0 <;> by_cases zb:b=0 <;> by_cases zc:c=0 <;> by_cases zd:d=0
 all_goals
  first
  | exact ⟨0,by omega,o0 (by omega) (by omega) (by omega)⟩
  | exact ⟨1,by omega,o1 (by omega) (by omega) (by omega)⟩
  | exact ⟨2,by omega,o2 (by omega) (by omega) (by omega)⟩
  | exact ⟨3,by omega,o3 (by omega) (by omega) (by omega)⟩
  | exact ⟨4,by omega,o4 (by omega) (by omega) (by omega)⟩
  | exact ⟨5,by omega,o5 (by omega) (by omega) (by omega)⟩
def fsQ (p:Qd):Nat:=if elQ 0 p=true then 0 else if elQ 1 p=true then 1 else if elQ 2 p=true then 2 else if elQ 3 p=true then 3 else if elQ 4 p=true then 4 else if elQ 5 p=true then 5 else 0
theorem fsQ_of {p:Qd} {k:Nat} (hk:k<6) (he:elQ k p=true) (hn:∀j,j<k->elQ j p=false):fsQ p=k:=by
 unfold fsQ
 rcases (show k=0\/k=1\/k=2\/k=3\/k=4\/k=5 by omega) with rfl|rfl|rfl|rfl|rfl|rfl
 ·simp [he]
 ·simp [he,hn 0 (by omega)]
 ·simp [he,hn 0 (by omega),hn 1 (by omega)]
 ·simp [he,hn 0 (by omega),hn 1 (by omega),hn 2 (by omega)]
 ·simp [he,hn 0 (by omega),hn 1 (by omega),hn 2 (by omega),hn 3 (by omega)]
 ·simp [he,hn 0 (by omega),hn 1 (by omega),hn 2 (by omega),hn 3 (by omega),hn 4 (by omega)]
theorem fsQ_none {p:Qd} (hn:∀j,j<6->elQ j p=false):fsQ p=0:=by
 unfold fsQ
 simp [hn 0 (by omega),hn 1 (by omega),hn 2 (by omega),hn 3 (by omega),hn 4 (by omega),hn 5 (by omega)]
theorem fsQ_lt (p:Qd):fsQ p<6:=by
 unfold fsQ
 repeat' split
 all_goals omega
set_option linter.unusedSimpArgs false

def wv (next:Int) (a:Option Addr) (n c:Nat) (qa:Option Addr) (qn qc:Nat):Value:=.agg #[.int .i64 next,.slice a n c,.slice qa qn qc]
def cv (c:Cx):Value:=.agg #[.bool c.b,.int .i64 c.g]
def nv (k:Int) (s t:ByteArray):Value:=.agg #[.int .i64 k,.string s,.string t]
def TidC (w:World) (next:Int) (a:Option Addr) (n c:Nat) (id:ByteArray->Int):Prop:=
 ∀W x,Below w.heap.size w W->Calls Tryz.prog 92 #[.agg #[.int .i64 next,.slice a n c],.string x] W fun e w'=>e=.returned (.int .i64 (id x))/\Below W.heap.size W w'
theorem TidC.below {w w' : World} {next:Int} {a:Option Addr} {n c:Nat} {id:ByteArray->Int} (h:TidC w next a n c id) (hb:Below w.heap.size w w'):TidC w' next a n c id:=fun W x hW=>h W x (hb.trans (hW.mono hb.size))
theorem l6Less_any (a b:Nat) (w:World):Calls Tryz.prog 95 #[.int .i64 (a:Int),.int .i64 (b:Int)] w fun e w'=>e=.returned (.int .i64 ((min a b:Nat):Int))/\w'=w:=by
 by_cases h:a<b
 ·have h' : (a:Int)<(b:Int):=by omega
  have e:min a b=a:=by omega
  rw [e]
  go_enter Tryz.func95,Tryz.ntmps95
  go_wp2
  go_ret
  exact ⟨rfl,rfl⟩
 ·have h' : ¬ (a:Int)<(b:Int):=by omega
  have e:min a b=b:=by omega
  rw [e]
  go_enter Tryz.func95,Tryz.ntmps95
  go_wp2
  go_ret
  exact ⟨rfl,rfl⟩
set_option maxHeartbeats 1000000 in
theorem l6First_any (p:Qd) (w:World):Calls Tryz.prog 58 #[qv p] w fun e w'=>e=.returned (.int .i64 (fsQ p:Int))/\Below w.heap.size w w':=by
 have HB:Hid (Below w.heap.size w (w.alloc (.cells #[.int .i64 p.s,.int .i64 p.p,.int .i64 p.o,.int .i64 p.g] 122))):=below_alloc _ _
 have HC:Hid (∀W,Below (w.heap.size+1) (w.alloc (.cells #[.int .i64 p.s,.int .i64 p.p,.int .i64 p.o,.int .i64 p.g] 122)) W->W.cell? ⟨w.heap.size,0,none⟩=some (.int .i64 p.s)/\W.cell? ⟨w.heap.size,1,none⟩=some (.int .i64 p.p)/\W.cell? ⟨w.heap.size,2,none⟩=some (.int .i64 p.o)/\W.cell? ⟨w.heap.size,3,none⟩=some (.int .i64 p.g)):=fun W hW=>by
  have hb:=hW.block w.heap.size (by omega)
  have hh:W.heap[w.heap.size]?=some (.cells #[.int .i64 p.s,.int .i64 p.p,.int .i64 p.o,.int .i64 p.g] 122 (0,0)):=hb.trans Array.getElem?_push_size
  refine ⟨?_,?_,?_,?_⟩ <;> simp [World.cell?,hh]
 unfold qv
 go_enter Tryz.func58,Tryz.ntmps58
 go_wp2
 go_loopw [3] (fun i wr=>∃k:Nat,k<=6/\i=.int .i64 (k:Int)/\(∀j,j<k->elQ j p=false)/\Below (w.heap.size+1) (w.alloc (.cells #[.int .i64 p.s,.int .i64 p.p,.int .i64 p.o,.int .i64 p.g] 122)) wr) (fun i _=>6-(intOf i).toNat)
 case atStart=>exact ⟨0,Nat.zero_le _,rfl,fun j hj=>absurd hj (Nat.not_lt_zero _),Below.refl _ _⟩
 case round=>
  obtain ⟨k,hk,rfl,hall,hbel⟩:=hrel
  have HW:Hid ((∀j,j<k->elQ j p=false)/\Below (w.heap.size+1) (w.alloc (.cells #[.int .i64 p.s,.int .i64 p.p,.int .i64 p.o,.int .i64 p.g] 122)) wr):=⟨hall,hbel⟩
  obtain ⟨x0,x1,x2,x3⟩:=HC.out wr hbel
  have hzr:w.heap.size+1<=wr.heap.size:=by have:=hbel.size;simpa using this
  clear hall hbel
  by_cases hlt:k<6
  ·have ik:(k:Int)<6:=by omega
   have HE:=(elQ_both k hlt p wr).1
   unfold qv at HE
   have HEE:Hid (Calls Tryz.prog 93 #[.int .i64 (k:Int),.agg #[.int .i64 p.s,.int .i64 p.p,.int .i64 p.o,.int .i64 p.g]] wr fun e w'=>e=.returned (.bool (elQ k p))/\Below wr.heap.size wr w'):=HE
   clear HE
   go_wp2_with fail
   with_reducible refine HEE.out.mono ?_
   rintro e w1 ⟨rfl,hb1⟩
   have H1:Hid (Below (w.heap.size+1) (w.alloc (.cells #[.int .i64 p.s,.int .i64 p.p,.int .i64 p.o,.int .i64 p.g] 122)) w1):=HW.out.2.trans (hb1.mono hzr)
   clear hb1 HEE
   cases he:elQ k p with
   | true=>
    have HF:Hid (fsQ p=k/\Below w.heap.size w w1):=⟨fsQ_of hlt he HW.out.1,HB.out.trans (H1.out.mono (by omega))⟩
    clear he
    go_wp2
    go_ret
    exact ⟨by rw [HF.out.1];rfl,HF.out.2⟩
   | false=>
    have HN:Hid (∀j,j<k+1->elQ j p=false):=fun j hj=>by
     by_cases e:j=k
     ·rw [e];exact he
     ·exact HW.out.1 j (by omega)
    clear he
    go_wp2
    go_roundw
    case rel=>exact ⟨k+1,by omega,by go_num,HN.out,H1.out⟩
    case measure=>simp [intOf];omega
  ·obtain rfl:k=6:=by omega
   have HF:Hid (fsQ p=0/\Below w.heap.size w wr):=⟨fsQ_none HW.out.1,HB.out.trans (HW.out.2.mono (by omega))⟩
   go_wp2
   go_ret
   exact ⟨by rw [HF.out.1];rfl,HF.out.2⟩

set_option maxHeartbeats 400000 in
theorem nanC_any (x:ByteArray) (w:World):Calls Tryz.prog 181 #[.string x] w fun e w'=>e=.returned (.bool false)/\w'=w:=by
 go_enter Tryz.func181,Tryz.ntmps181
 go_wp2
 go_ret
 exact ⟨by simp,rfl⟩

set_option maxHeartbeats 400000 in
theorem nanS_any (x:ByteArray) (w:World):Calls Tryz.prog 180 #[.string x] w fun e w'=>e=.returned (.bool false)/\w'=w:=by
 go_enter Tryz.func180,Tryz.ntmps180
 go_wp2
 go_ret
 exact ⟨by simp,rfl⟩

set_option maxHeartbeats 400000 in
theorem lessS_any (x y:ByteArray) (w:World):Calls Tryz.prog 179 #[.string x,.string y] w fun e w'=>e=.returned (.bool (Op.bytesLess x.toList y.toList))/\w'=w:=by
 go_enter Tryz.func179,Tryz.ntmps179
 go_wp2_with fail
 refine (nanC_any x _).mono ?_
 rintro e w1 ⟨rfl,rfl⟩
 go_wp2
 go_ret
 exact ⟨by simp,rfl⟩

def RetBs (L:List ByteArray) (key:ByteArray) (w:World) (e:Ending) (w' : World):Prop:=
 ∃(i:Nat) (ok:Bool),e=.returned (.tuple #[.int .i64 (i:Int),.bool ok])/\w'=w/\i<=L.length/\(∀j,j<i->Op.bytesLess (gt L j).toList key.toList=true)/\(∀j,i<=j->j<L.length->Op.bytesLess (gt L j).toList key.toList=false)/\(ok=true↔i<L.length/\gt L i=key)

set_option maxHeartbeats 4000000 in
theorem bs_any (a:Option Addr) (n c:Nat) (L:List ByteArray) (key:ByteArray) (w:World) (h:RdS w a n (gt L)) (hn:n=L.length) (hn2:n<=1048576) (ha:Asc L) :
  Calls Tryz.prog 178 #[.slice a n c,.string key] w (RetBs L key w):=by
 have HR:Hid (RdS w a n (gt L)/\n=L.length/\Asc L):=⟨h,hn,ha⟩
 clear h hn ha
 go_enter Tryz.func178,Tryz.ntmps178
 go_wp2
 go_loopw [7,8] (fun p q wr=>∃i j:Nat,i<=j/\j<=n/\p=.int .i64 i/\q=.int .i64 j/\wr=w/\(∀k,k<i->Op.bytesLess (gt L k).toList key.toList=true)/\(∀k,j<=k->k<n->Op.bytesLess (gt L k).toList key.toList=false)) (fun p q _=>(intOf q).toNat-(intOf p).toNat)
 case atStart=>exact ⟨0,n,Nat.zero_le _,Nat.le_refl _,rfl,rfl,rfl,fun k hk=>absurd hk (Nat.not_lt_zero _),fun k h1 h2=>by omega⟩
 case round=>
  obtain ⟨i,j,hij,hjn,rfl,rfl,rfl,h1,h2⟩:=hrel
  have H12:Hid ((∀k,k<i->Op.bytesLess (gt L k).toList key.toList=true)/\(∀k,j<=k->k<n->Op.bytesLess (gt L k).toList key.toList=false)):=⟨h1,h2⟩
  clear h1 h2
  by_cases hlt:i<j
  ·obtain ⟨m,hm⟩:∃m:Nat,((i:Int)+(j:Int)) / 2=(m:Int):=⟨(i+j) / 2,by omega⟩
   have hm1:i<=m/\m<j:=by omega
   have hmn:m<n:=by omega
   rcases HR.out.1 with q|⟨bk,ok,rfl,hc⟩
   ·omega
   have s1:=hc m hmn
   have hm0:(0:Int)<=(m:Int):=by omega
   have hmI:(m:Int)<(n:Int):=by omega
   have HL:Hid (m<L.length/\n=L.length):=⟨by rw [<- HR.out.2.1];exact hmn,HR.out.2.1⟩
   clear hc
   go_upto_region 5 with fail
   clear hm
   go_wp2_with fail
   refine (lessS_any (gt L m) key _).mono ?_
   rintro e w1 ⟨rfl,rfl⟩
   cases hls:Op.bytesLess (gt L m).toList key.toList with
   | true=>
    have HN:Hid (∀k,k<m+1->Op.bytesLess (gt L k).toList key.toList=true):=by
     intro k hk
     by_cases e:k=m
     ·subst e;exact hls
     ·exact less_trans _ _ _ (asc_lt HR.out.2.2 (show k<m by omega) HL.out.1) hls
    go_wp2
    go_roundw
    case rel=>exact ⟨m+1,j,by omega,hjn,by go_num,rfl,trivial,HN.out,H12.out.2⟩
    case measure=>simp [intOf];omega
   | false=>
    have HN:Hid (∀k,m<=k->k<n->Op.bytesLess (gt L k).toList key.toList=false):=by
     intro k hk1 hk2
     by_cases e:k=m
     ·subst e;exact hls
     ·have q:=asc_lt HR.out.2.2 (show m<k by omega) (by rw [<- HL.out.2];exact hk2)
      cases e2:Op.bytesLess (gt L k).toList key.toList with
      | false=>rfl
      | true=>
       have:=less_trans _ _ _ q e2
       rw [hls] at this
       cases this
    go_wp2
    go_roundw
    case rel=>exact ⟨i,m,by omega,by omega,rfl,rfl,trivial,H12.out.1,HN.out⟩
    case measure=>simp [intOf];omega
  ·have e:i=j:=by omega
   subst e
   have HB:Hid (i<=L.length/\(∀j,j<i->Op.bytesLess (gt L j).toList key.toList=true)/\(∀j,i<=j->j<L.length->Op.bytesLess (gt L j).toList key.toList=false)):=⟨by rw [<- HR.out.2.1];exact hjn,H12.out.1,fun j h1 h2=>H12.out.2 j h1 (by rw [HR.out.2.1];exact h2)⟩
   have HN:Hid (n=L.length):=HR.out.2.1
   have hif:¬ (i:Int)<(i:Int):=by omega
   clear H12 hlt hij
   by_cases hin:i<n
   ·have i1:(i:Int)<(n:Int):=by omega
    have i1' : decide ((i:Int)<(n:Int))=true:=decide_eq_true i1
    have i2' : decide (i<n)=true:=decide_eq_true hin
    have i0:(0:Int)<=(i:Int):=by omega
    rcases HR.out.1 with q|⟨bk,ok,rfl,hc⟩
    ·omega
    have s1:=hc i hin
    clear hc
    by_cases heq:gt L i=key
    ·have HOk:Hid (∀q:Bool,q=true->(q=true↔i<L.length/\gt L i=key)):=fun q hq=>⟨fun _=>⟨by rw [<- HN.out];exact hin,heq⟩,fun _=>hq⟩
     have hq:((gt L i).toList == key.toList)=true:=by rw [heq];simp
     clear heq
     go_wp2
     refine bodyPost_ret (v:=.tuple #[.int .i64 (i:Int),.bool true]) (by simp [results,Tryz.results178,go_sem]) rfl ⟨i,true,rfl,rfl,HB.out.1,HB.out.2.1,HB.out.2.2,HOk.out _ rfl⟩
    ·have HOk:Hid (∀q:Bool,q=false->(q=true↔i<L.length/\gt L i=key)):=fun q hq=>⟨fun h=>(by rw [hq] at h;cases h),fun h=>absurd h.2 heq⟩
     have hq:((gt L i).toList == key.toList)=false:=by
      rw [beq_eq_false_iff_ne]
      exact fun h=>heq (str_inj h)
     clear heq
     go_wp2_with fail
     refine (nanS_any (gt L i) _).mono ?_
     rintro e w1 ⟨rfl,rfl⟩
     go_wp2
     refine bodyPost_ret (v:=.tuple #[.int .i64 (i:Int),.bool false]) (by simp [results,Tryz.results178,go_sem]) rfl ⟨i,false,rfl,rfl,HB.out.1,HB.out.2.1,HB.out.2.2,HOk.out _ rfl⟩
   ·have i1:¬ (i:Int)<(n:Int):=by omega
    have i1' : decide ((i:Int)<(n:Int))=false:=decide_eq_false i1
    have i2' : decide (i<n)=false:=decide_eq_false hin
    have HOk:Hid (∀q:Bool,q=false->(q=true↔i<L.length/\gt L i=key)):=fun q hq=>⟨fun h=>(by rw [hq] at h;cases h),fun h=>absurd h.1 (by rw [<- HN.out];exact hin)⟩
    go_wp2
    refine bodyPost_ret (v:=.tuple #[.int .i64 (i:Int),.bool false]) (by simp [results,Tryz.results178,go_sem]) rfl ⟨i,false,rfl,rfl,HB.out.1,HB.out.2.1,HB.out.2.2,HOk.out _ rfl⟩

set_option maxHeartbeats 1000000 in
theorem rankLeaf_any (b n kc:Nat) (ka:Option Addr) (v0:Value) (L:List ByteArray) (key:ByteArray) (w:World) (h:Bx w b 247 #[v0,.slice ka n kc]) (hr:RdS w ka n (gt L)) (hn:n=L.length) (hn2:n<=1048576) (ha:Asc L) :
  Calls Tryz.prog 173 #[.pointer (some ⟨b,0,none⟩),.string key] w fun e w'=>e=.returned (.int .i64 (cntL key L:Int))/\w'=w:=by
 have c1:=h.cell 1
 simp at c1
 have HR:Hid (RdS w ka n (gt L)/\n=L.length/\Asc L):=⟨hr,hn,ha⟩
 clear h hr hn ha
 go_enter Tryz.func173,Tryz.ntmps173
 go_wp2_with fail
 refine (bs_any ka n kc L key w HR.out.1 HR.out.2.1 hn2 HR.out.2.2).mono ?_
 rintro e w1 ⟨i,ok,rfl,rfl,h1,h2,h3,_⟩
 have HE:Hid (cntL key L=i):=cntL_at h1 h2 h3
 have hi:i<=1048576:=by have:=HR.out.2.1;omega
 clear h1 h2 h3
 go_wp2
 go_ret
 exact ⟨by rw [HE.out];rfl,rfl⟩

def RetKf {d:Nat} (l:List (Ro d)) (key:ByteArray) (w:World) (e:Ending) (w' : World):Prop:=
 ∃i:Nat,e=.returned (.int .i64 (i:Int))/\w'=w/\i<l.length/\(∀h:i<l.length,0<i->Op.bytesLess key.toList (gt (keysR d l[i]) 0).toList=false)/\(∀h:i+1<l.length,Op.bytesLess key.toList (gt (keysR d l[i+1]) 0).toList=true)

set_option maxHeartbeats 4000000 in
theorem kidFor_any (d b:Nat) (l:List (Ro d)) (S:Nat->Prop) (h:Nat) (key:ByteArray) (w:World) (ht:TAt S w (d+1) (.inr l) (.iface 248 (.pointer (some ⟨b,0,none⟩)))) (hb:∀t,t∈l->BalR d false t h) (hl4:l.length<=4) :
  Calls Tryz.prog 190 #[.pointer (some ⟨b,0,none⟩),.string key] w (RetKf l key w):=by
 obtain ⟨b',g,kc,xs,e,_,hx,_,_,hl,hc,hk⟩:=ht
 injection e with e1 e
 injection e with e
 injection e with e
 injection e with e e3 e4
 clear e1 e3 e4
 subst e
 have HK:Hid (∀k (h:k<l.length),∃u,w.cell? ⟨g,k,none⟩=some u/\((∃p,u=.iface 243 (.pointer (some p))/\Calls Tryz.prog 172 #[.pointer (some p)] w fun e w'=>e=.returned (.string (gt (keysR d l[k]) 0))/\w'=w)\/(∃p,u=.iface 248 (.pointer (some p))/\Calls Tryz.prog 184 #[.pointer (some p)] w fun e w'=>e=.returned (.string (gt (keysR d l[k]) 0))/\w'=w))):=by
  intro k hkl
  obtain ⟨u,hu,ht⟩:=hk k hkl
  refine ⟨u,hc k u hu,?_⟩
  rcases least_call ht (hb _ (List.getElem_mem hkl)) with ⟨p,e,q⟩|⟨p,e,q⟩
  ·exact Or.inl ⟨p,e,q w (Below.refl _ _)⟩
  ·exact Or.inr ⟨p,e,q w (Below.refl _ _)⟩
 have c1:=hx.cell 1
 simp at c1
 obtain ⟨ln,hln⟩:∃ln,ln=l.length:=⟨_,rfl⟩
 rw [<- hln] at c1 hl hl4
 have HLn:Hid (ln=l.length):=hln
 clear hx hc hk hb hln
 go_enter Tryz.func190,Tryz.ntmps190
 go_wp2
 go_loopw [5] (fun i wr=>∃k:Nat,k<ln/\i=.int .i64 k/\wr=w/\(∀h:k+1<l.length,Op.bytesLess key.toList (gt (keysR d l[k+1]) 0).toList=true)) (fun i _=>(intOf i).toNat)
 case atStart=>exact ⟨ln-1,by omega,by congr 1;omega,rfl,fun h=>by have:=HLn.out;omega⟩
 case round=>
  obtain ⟨k,hk,rfl,rfl,hq⟩:=hrel
  have HQ:Hid (∀h:k+1<l.length,Op.bytesLess key.toList (gt (keysR d l[k+1]) 0).toList=true):=hq
  clear hq
  have hlk:k<l.length:=by rw [<- HLn.out];exact hk
  by_cases h0:k=0
  ·subst h0
   have HX:Hid (∀h:0<l.length,0<0->Op.bytesLess key.toList (gt (keysR d l[0]) 0).toList=false):=fun _ h=>absurd h (Nat.lt_irrefl _)
   go_wp2
   go_ret
   exact ⟨0,rfl,rfl,hlk,HX.out,HQ.out⟩
  ·have i0:(0:Int)<(k:Int):=by omega
   have i0' : decide ((0:Int)<(k:Int))=true:=decide_eq_true i0
   have n0:0<k:=by omega
   have n0' : decide (0<k)=true:=decide_eq_true n0
   have ik0:(0:Int)<=(k:Int):=by omega
   have ikl:(k:Int)<(ln:Int):=by omega
   obtain ⟨u,hu,hform⟩:=HK.out k hlk
   have htot:=less_total key.toList (gt (keysR d l[k]) 0).toList
   obtain ⟨least,hle⟩:∃least,gt (keysR d l[k]) 0=least:=⟨_,rfl⟩
   rw [hle] at hform htot
   have HLe:Hid (gt (keysR d l[k]) 0=least):=hle
   clear hle
   have HQ2:Hid (Op.bytesLess key.toList least.toList=true->∀h:k-1+1<l.length,Op.bytesLess key.toList (gt (keysR d l[k-1+1]) 0).toList=true):=by
    intro q h
    have e:k-1+1=k:=by omega
    simp only [e]
    rw [HLe.out]
    exact q
   have HQ3:Hid (Op.bytesLess key.toList least.toList=false->∀h:k<l.length,0<k->Op.bytesLess key.toList (gt (keysR d l[k]) 0).toList=false):=fun q _ _=>by rw [HLe.out];exact q
   cases hls:Op.bytesLess key.toList least.toList with
   | true=>
    rw [hls] at htot
    have ht2:(Op.bytesLess least.toList key.toList || least.toList == key.toList)=false:=htot
    have hg:Hid (∀h:k-1+1<l.length,Op.bytesLess key.toList (gt (keysR d l[k-1+1]) 0).toList=true):=HQ2.out hls
    clear htot HQ2 HQ3 hls
    rcases hform with ⟨p,rfl,hcall⟩|⟨p,rfl,hcall⟩
    ·have HC:Hid (Calls Tryz.prog 172 #[.pointer (some p)] wr fun e w'=>e=.returned (.string least)/\w'=wr):=hcall
     clear hcall
     go_wp2_with fail
     refine HC.out.mono ?_
     rintro e w1 ⟨rfl,rfl⟩
     go_wp2
     go_roundw
     case rel=>exact ⟨k-1,by omega,by go_num,trivial,hg.out⟩
     case measure=>simp [intOf];omega
    ·have HC:Hid (Calls Tryz.prog 184 #[.pointer (some p)] wr fun e w'=>e=.returned (.string least)/\w'=wr):=hcall
     clear hcall
     go_wp2_with fail
     refine HC.out.mono ?_
     rintro e w1 ⟨rfl,rfl⟩
     go_wp2
     go_roundw
     case rel=>exact ⟨k-1,by omega,by go_num,trivial,hg.out⟩
     case measure=>simp [intOf];omega
   | false=>
    rw [hls] at htot
    have ht2:(Op.bytesLess least.toList key.toList || least.toList == key.toList)=true:=htot
    have HG:Hid (∀h:k<l.length,0<k->Op.bytesLess key.toList (gt (keysR d l[k]) 0).toList=false):=HQ3.out hls
    clear htot HQ2 HQ3 hls
    rcases hform with ⟨p,rfl,hcall⟩|⟨p,rfl,hcall⟩
    ·have HC:Hid (Calls Tryz.prog 172 #[.pointer (some p)] wr fun e w'=>e=.returned (.string least)/\w'=wr):=hcall
     clear hcall
     go_wp2_with fail
     refine HC.out.mono ?_
     rintro e w1 ⟨rfl,rfl⟩
     go_wp2
     go_ret
     exact ⟨k,rfl,rfl,hlk,HG.out,HQ.out⟩
    ·have HC:Hid (Calls Tryz.prog 184 #[.pointer (some p)] wr fun e w'=>e=.returned (.string least)/\w'=wr):=hcall
     clear hcall
     go_wp2_with fail
     refine HC.out.mono ?_
     rintro e w1 ⟨rfl,rfl⟩
     go_wp2
     go_ret
     exact ⟨k,rfl,rfl,hlk,HG.out,HQ.out⟩
end Go.Proofs.YtpaomghibppgkaaGreat
