import Derived.Test.YtacpbofiipdodaaGreatNv5
import Derived.Test.YtacpbofiipdodaaGreatNv15
set_option linter.unusedVariables false
set_option linter.unusedSimpArgs false
set_option maxRecDepth 100000
set_option maxHeartbeats 90000000
namespace Go.Proofs.YtacpbofiipdodaaGreat
open Go Go.Deep Go.RowKit
variable {base:Nat}
theorem DB {A:Nat->Nat} {e s:Nat} (h:Am (λi=>A (base+i)) e s):Am A (base+e) (base+s):=by
 obtain⟨h1,h2,h3⟩:=h;unfold A4 at h2 h3;refine⟨by omega,?_,λj h4 h5=>?_⟩;.unfold A4;rw[A2,A2] at h2;omega
 .unfold A4;have:=h3 (j-base) (by omega) (by omega);rw[A2,A2,show base+(j-base)=j by omega] at this;omega
theorem Gz {I:Nat->Int} {m:Nat} (hb:Am (λi=>Ah (I (base+i))) (m+1) 0) :
  (Ah (I (base+m))=0/\m=0)\/(Ah (I (base+m))=1/\0<m/\AK (At I) (base+m) 0=base+(m-1)/\Am (λi=>Ah (I (base+i))) (m-1+1) 0)\/
  (Ah (I (base+m))=2/\∃s,0<s/\s<m/\AK (At I) (base+m) 0=base+(s-1)/\AK (At I) (base+m) 1=(base+s)+(m-s-1)/\Am (λi=>Ah (I (base+i))) (s-1+1) 0/\Am (λi=>Ah (I (base+s+i))) (m-s-1+1) 0):=by
 have hk:=DX (n:=m+1) (by omega) hb (by exact BD _);rw[WL] at hk;rcases hk with ⟨e,hm⟩|⟨e,h1⟩|⟨e,s,hs,h1,h2⟩;.exact .inl ⟨e,by omega⟩
 .have hm:=h1.1;refine .inr (.inl ⟨e,hm,?_,by rw[show m-1+1=m by omega];exact h1⟩);unfold AK At;rw[if_neg (by omega)];omega
 .have hm:=h1.1;have hs2:=h2.1;refine .inr (.inr ⟨e,s,hs2,hm,?_,?_,by rw[show s-1+1=s by omega];exact h2,?_⟩);.have q:=Gu (DB (A:=At I) h1);unfold AK;rw[if_pos ⟨e,rfl⟩,q];omega
  .unfold AK;rw[if_neg (by omega)];omega
  .rw[show m-s-1+1=m-s by omega];have:=h1.shift;simpa only [Nat.add_assoc] using this
structure Cx where
 b:Bool
 g:Int
def MH (c:Cx) (p:Qd):Qd:=if c.b=true then ⟨p.s,p.p,p.o,c.g⟩ else p
def Rb (c:Cx):Bool:=c.b && c.g == 0
def Cl (Q:List Qd) (c:Cx) (p:Qd):List Qd:=if Rb c=true then [] else Q.filter (λq=>BN q (MH c p))
def Va (id:ByteArray->Int) (Q:List Qd) (k:Int) (s t:ByteArray) (c:Cx):Nat:=
 if id s=0 then 0 else if k=5 then (if id t=0 then 0 else (Cl Q c ⟨0,id s,id t,0⟩).length) else (Cl Q c ⟨0,id s,0,0⟩).length
def DU (id:ByteArray->Int) (k:Int) (s:ByteArray) (c:Cx):Cx:=if k=9 then ⟨true,id s⟩ else c
def U0 (k:Int) (ow al a b:Nat):Nat:=
 if k=1 then 2*al else if k=2 then 1 else if k=5 then min a ow else if k=6 then min a b else if k=7 then a+b else if k=8\/k=9 then a else ow
def Wd (id:ByteArray->Int) (Q:List Qd) (I:Nat->Int) (X R:Nat->ByteArray):Nat->Nat->Cx->Nat
 | 0,_,_=>0
 | f
  + 1,i,c=>U0 (I i) (Va id Q (I i) (X i) (R i) c) (Cl Q c ⟨0,0,0,0⟩).length
  (if AK (At I) i 0<i then Wd id Q I X R f (AK (At I) i 0) (DU id (I i) (X i) c) else 0)
  (if AK (At I) i 1<i then Wd id Q I X R f (AK (At I) i 1) (DU id (I i) (X i) c) else 0)
def GS (id:ByteArray->Int) (Q:List Qd) (I:Nat->Int) (X R:Nat->ByteArray) (i:Nat) (c:Cx):Nat:=Wd id Q I X R (i+1) i c
def A6 (k way:Int) (b:Bool):Qd:=
 ⟨if way=0/\(k=3\/k=5) then 1 else 0,if k=3\/k=4\/k=5 then 1 else 0,if k=5\/(way=0/\k=4) then 1 else 0,if b=true then 1 else 0⟩
def Wo (fs:Qd->Nat) (k:Int) (b:Bool) (ow a0 a1:Nat):Nat:=
 if k=1 then fs (A6 1 0 b)
 else if k=3\/k=4\/k=5 then (if a0<ow then fs (A6 k 0 b) else 6+fs (A6 k 1 b))
 else if k=6 then (if a1<a0 then 1 else 0)
 else 0
def CH (fs:Qd->Nat) (id:ByteArray->Int) (Q:List Qd) (I:Nat->Int) (X R:Nat->ByteArray) (i:Nat) (c:Cx):Nat:=
 Wo fs (I i) c.b (Va id Q (I i) (X i) (R i) c) (GS id Q I X R (AK (At I) i 0) (DU id (I i) (X i) c)) (GS id Q I X R (AK (At I) i 1) (DU id (I i) (X i) c))
def Wc (fs:Qd->Nat) (id:ByteArray->Int) (Q:List Qd) (I:Nat->Int) (X R:Nat->ByteArray):Nat->Nat->Nat->Cx->List Nat
 | 0,_,_,_=>[]
 | f+1,base,m,c=>
  (if Ah (I (base+m))=0 then []
   else if Ah (I (base+m))=1 then Wc fs id Q I X R f base (m-1) (DU id (I (base+m)) (X (base+m)) c)
   else Wc fs id Q I X R f base (AK (At I) (base+m) 0-base) (DU id (I (base+m)) (X (base+m)) c)++Wc fs id Q I X R f (AK (At I) (base+m) 0+1) (base+m-AK (At I) (base+m) 0-2) (DU id (I (base+m)) (X (base+m)) c))++[CH fs id Q I X R (base+m) c]
theorem JD {α:Type} (g:Nat->α) (a b:Nat):(List.range (a+b)).map g=(List.range a).map g++(List.range b).map (λt=>g (a+t)):=by rw[List.range_add,List.map_append,List.map_map];rfl
variable {x:Nat->Int}
def E8 (j:Nat) (p:Qd):Bool:=Cm (A8 j p)
theorem LN {y:Nat->Int} (h:∀i,i<4->x i=y i):Cm x=Cm y:=by rw[Bool.eq_iff_iff,C9,C9];exact⟨I4 h,I4 (λi hi=>(h i hi).symm)⟩
theorem Gb (j:Nat) (hj:j<6) (p:Qd) (w:World) :
  (WS 115 #[iv (j:Int),qv p] w (WT w (.bool (E8 j p))))/\
  (WS 131 #[iv (j:Int),qv p] w (WT w (.bool (E8 j p)))):=by
 obtain⟨a,b,c,d⟩:=p;have key:∀(o:Nat->Nat),(∀i,i<4->o i=Bh j i)->E8 j ⟨a,b,c,d⟩=Cm (λi=>Ar a b c d (o i)):=λo ho=>LN (λi hi=>by unfold A8;rw[ho i hi]);have h6:j=0\/j=1\/j=2\/j=3\/j=4\/j=5:=by omega
 rcases h6 with rfl|rfl|rfl|rfl|rfl|rfl;.rw[key PI (Pk rfl rfl rfl rfl)];exact⟨BL 0 (by omega) (by omega) a b c d PI SO Ph w,MY a b c d w⟩
 .rw[key Ot (Pk rfl rfl rfl rfl)];exact⟨BL 1 (by omega) (by omega) a b c d Ot ST Pb w,M8 a b c d w⟩
 .rw[key OG (Pk rfl rfl rfl rfl)];exact⟨BL 2 (by omega) (by omega) a b c d OG Td Pu w,MQ a b c d w⟩
 .rw[key Pq (Pk rfl rfl rfl rfl)];exact⟨BL 3 (by omega) (by omega) a b c d Pq So Ov w,Nd a b c d w⟩
 .rw[key OZ (Pk rfl rfl rfl rfl)];exact⟨BL 4 (by omega) (by omega) a b c d OZ Ss O5 w,Nq a b c d w⟩
 .rw[key ON (Pk rfl rfl rfl rfl)];exact⟨BL 5 (by omega) (by omega) a b c d ON SX Pw w,Nx a b c d w⟩
def Kp (p:Qd):Prop:=(0<=p.s/\p.s<=2000000000)/\(0<=p.p/\p.p<=2000000000)/\(0<=p.o/\p.o<=2000000000)/\(0<=p.g/\p.g<=2000000000)
theorem CY (j:Nat) (p:Qd):E8 j p=true↔BC (A8 j p) 4:=C9 _
theorem J2 (h0:0<=x 0/\x 0<=2000000000) (h1:0<=x 1/\x 1<=2000000000) (h2:0<=x 2/\x 2<=2000000000) (h3:0<=x 3/\x 3<=2000000000) (e1:x 0=0->x 1=0) (e2:x 1=0->x 2=0) (e3:x 2=0->x 3=0):BC x 4:=by
 intro q hq;rcases (show q=0\/q=1\/q=2\/q=3 by omega) with rfl|rfl|rfl|rfl;.exact⟨h0,λr hr=>by omega⟩
 .refine⟨h1,λr hr e=>?_⟩;obtain rfl:r=0:=by omega
  exact e1 e
 .refine⟨h2,λr hr e=>?_⟩;rcases (show r=0\/r=1 by omega) with rfl|rfl;.exact e2 (e1 e)
  .exact e2 e
 .refine⟨h3,λr hr e=>?_⟩;rcases (show r=0\/r=1\/r=2 by omega) with rfl|rfl|rfl;.exact e3 (e2 (e1 e))
  .exact e3 (e2 e)
  .exact e3 e
theorem Ql (p:Qd) (h:Kp p):∃j,j<6/\E8 j p=true:=by
 obtain⟨a,b,c,d⟩:=p;obtain⟨ha,hb,hc,hd⟩:=h;simp only at ha hb hc hd;have o0:(a=0->b=0)->(b=0->c=0)->(c=0->d=0)->E8 0 ⟨a,b,c,d⟩=true:=λe1 e2 e3=>(CY _ _).2 (J2 ha hb hc hd e1 e2 e3);have o1:(b=0->c=0)->(c=0->a=0)->(a=0->d=0)->E8 1 ⟨a,b,c,d⟩=true:=λe1 e2 e3=>(CY _ _).2 (J2 hb hc ha hd e1 e2 e3);have o2:(c=0->a=0)->(a=0->b=0)->(b=0->d=0)->E8 2 ⟨a,b,c,d⟩=true:=λe1 e2 e3=>(CY _ _).2 (J2 hc ha hb hd e1 e2 e3);have o3:(d=0->a=0)->(a=0->b=0)->(b=0->c=0)->E8 3 ⟨a,b,c,d⟩=true:=λe1 e2 e3=>(CY _ _).2 (J2 hd ha hb hc e1 e2 e3);have o4:(d=0->b=0)->(b=0->c=0)->(c=0->a=0)->E8 4 ⟨a,b,c,d⟩=true:=λe1 e2 e3=>(CY _ _).2 (J2 hd hb hc ha e1 e2 e3);have o5:(d=0->c=0)->(c=0->a=0)->(a=0->b=0)->E8 5 ⟨a,b,c,d⟩=true:=λe1 e2 e3=>(CY _ _).2 (J2 hd hc ha hb e1 e2 e3);by_cases za:a=0 <;> by_cases zb:b=0 <;> by_cases zc:c=0 <;> by_cases zd:d=0;all_goals
  first
  | exact⟨0,by omega,o0 (by omega) (by omega) (by omega)⟩
  | exact⟨1,by omega,o1 (by omega) (by omega) (by omega)⟩
  | exact⟨2,by omega,o2 (by omega) (by omega) (by omega)⟩
  | exact⟨3,by omega,o3 (by omega) (by omega) (by omega)⟩
  | exact⟨4,by omega,o4 (by omega) (by omega) (by omega)⟩
  | exact⟨5,by omega,o5 (by omega) (by omega) (by omega)⟩
def Ti (p:Qd):Nat:=if E8 0 p=true then 0 else if E8 1 p=true then 1 else if E8 2 p=true then 2 else if E8 3 p=true then 3 else if E8 4 p=true then 4 else if E8 5 p=true then 5 else 0
theorem Us {p:Qd} {k:Nat} (hk:k<6) (he:E8 k p=true) (hn:∀j,j<k->E8 j p=false):Ti p=k:=by
 unfold Ti;rcases (show k=0\/k=1\/k=2\/k=3\/k=4\/k=5 by omega) with rfl|rfl|rfl|rfl|rfl|rfl;.simp[he]
 .simp[he,hn 0 (by omega)]
 .simp[he,hn 0 (by omega),hn 1 (by omega)]
 .simp[he,hn 0 (by omega),hn 1 (by omega),hn 2 (by omega)]
 .simp[he,hn 0 (by omega),hn 1 (by omega),hn 2 (by omega),hn 3 (by omega)]
 .simp[he,hn 0 (by omega),hn 1 (by omega),hn 2 (by omega),hn 3 (by omega),hn 4 (by omega)]
theorem TU (p:Qd):Ti p<6:=by
 unfold Ti;repeat' split
 all_goals omega
def wv (next:Int) (a:Option Addr) (n c:Nat) (qa:Option Addr) (qn qc:Nat):Value:=.agg #[iv next,.slice a n c,.slice qa qn qc]
def cv (c:Cx):Value:=.agg #[.bool c.b,iv c.g]
def nv (k:Int) (s t:ByteArray):Value:=.agg #[iv k,.string s,.string t]
def Jb (w:World) (next:Int) (a:Option Addr) (n c:Nat) (id:ByteArray->Int):Prop:=
 ∀W x,Bl w W->WS 76 #[.agg #[iv next,.slice a n c],.string x] W (WT W (iv (id x)))
theorem Jb.below {w w' : World} {next:Int} {a:Option Addr} {n c:Nat} {id:ByteArray->Int} (h:Jb w next a n c id) (hb:Bl w w'):Jb w' next a n c id:=λW x hW=>h W x (hb.trans (hW.mono hb.size))
theorem Hf (w:World):WS 116 #[iv 1,iv 0,.bool false] w (WT w (.agg #[iv 0,iv 0,iv 0,iv 0])):=by go_enter Tryz.func116,Tryz.ntmps116;go_wp2;refine bodyPost_ret (v:=.agg #[iv 0,iv 0,iv 0,iv 0]) (by simp[results,Tryz.results116,go_sem]) rfl ⟨rfl,?_⟩;repeat (first|exact Wt _ _|refine bA ?_|refine bS (by simp <;> omega) ?_)
theorem Js (w:World):WS 116 #[iv 1,iv 0,.bool true] w (WT w (.agg #[iv 0,iv 0,iv 0,iv 1])):=by go_enter Tryz.func116,Tryz.ntmps116;go_wp2;refine bodyPost_ret (v:=.agg #[iv 0,iv 0,iv 0,iv 1]) (by simp[results,Tryz.results116,go_sem]) rfl ⟨rfl,?_⟩;repeat (first|exact Wt _ _|refine bA ?_|refine bS (by simp <;> omega) ?_)
theorem He (w:World):WS 116 #[iv 1,iv 1,.bool false] w (WT w (.agg #[iv 0,iv 0,iv 0,iv 0])):=by go_enter Tryz.func116,Tryz.ntmps116;go_wp2;refine bodyPost_ret (v:=.agg #[iv 0,iv 0,iv 0,iv 0]) (by simp[results,Tryz.results116,go_sem]) rfl ⟨rfl,?_⟩;repeat (first|exact Wt _ _|refine bA ?_|refine bS (by simp <;> omega) ?_)
theorem Is (w:World):WS 116 #[iv 1,iv 1,.bool true] w (WT w (.agg #[iv 0,iv 0,iv 0,iv 1])):=by go_enter Tryz.func116,Tryz.ntmps116;go_wp2;refine bodyPost_ret (v:=.agg #[iv 0,iv 0,iv 0,iv 1]) (by simp[results,Tryz.results116,go_sem]) rfl ⟨rfl,?_⟩;repeat (first|exact Wt _ _|refine bA ?_|refine bS (by simp <;> omega) ?_)
theorem Hg (w:World):WS 116 #[iv 3,iv 0,.bool false] w (WT w (.agg #[iv 1,iv 1,iv 0,iv 0])):=by go_enter Tryz.func116,Tryz.ntmps116;go_wp2;refine bodyPost_ret (v:=.agg #[iv 1,iv 1,iv 0,iv 0]) (by simp[results,Tryz.results116,go_sem]) rfl ⟨rfl,?_⟩;repeat (first|exact Wt _ _|refine bA ?_|refine bS (by simp <;> omega) ?_)
theorem Jo (w:World):WS 116 #[iv 3,iv 0,.bool true] w (WT w (.agg #[iv 1,iv 1,iv 0,iv 1])):=by go_enter Tryz.func116,Tryz.ntmps116;go_wp2;refine bodyPost_ret (v:=.agg #[iv 1,iv 1,iv 0,iv 1]) (by simp[results,Tryz.results116,go_sem]) rfl ⟨rfl,?_⟩;repeat (first|exact Wt _ _|refine bA ?_|refine bS (by simp <;> omega) ?_)
theorem G3 (w:World):WS 116 #[iv 3,iv 1,.bool false] w (WT w (.agg #[iv 0,iv 1,iv 0,iv 0])):=by go_enter Tryz.func116,Tryz.ntmps116;go_wp2;refine bodyPost_ret (v:=.agg #[iv 0,iv 1,iv 0,iv 0]) (by simp[results,Tryz.results116,go_sem]) rfl ⟨rfl,?_⟩;repeat (first|exact Wt _ _|refine bA ?_|refine bS (by simp <;> omega) ?_)
theorem Iv (w:World):WS 116 #[iv 3,iv 1,.bool true] w (WT w (.agg #[iv 0,iv 1,iv 0,iv 1])):=by go_enter Tryz.func116,Tryz.ntmps116;go_wp2;refine bodyPost_ret (v:=.agg #[iv 0,iv 1,iv 0,iv 1]) (by simp[results,Tryz.results116,go_sem]) rfl ⟨rfl,?_⟩;repeat (first|exact Wt _ _|refine bA ?_|refine bS (by simp <;> omega) ?_)
theorem G8 (w:World):WS 116 #[iv 4,iv 0,.bool false] w (WT w (.agg #[iv 0,iv 1,iv 1,iv 0])):=by go_enter Tryz.func116,Tryz.ntmps116;go_wp2;refine bodyPost_ret (v:=.agg #[iv 0,iv 1,iv 1,iv 0]) (by simp[results,Tryz.results116,go_sem]) rfl ⟨rfl,?_⟩;repeat (first|exact Wt _ _|refine bA ?_|refine bS (by simp <;> omega) ?_)
theorem Ij (w:World):WS 116 #[iv 4,iv 0,.bool true] w (WT w (.agg #[iv 0,iv 1,iv 1,iv 1])):=by go_enter Tryz.func116,Tryz.ntmps116;go_wp2;refine bodyPost_ret (v:=.agg #[iv 0,iv 1,iv 1,iv 1]) (by simp[results,Tryz.results116,go_sem]) rfl ⟨rfl,?_⟩;repeat (first|exact Wt _ _|refine bA ?_|refine bS (by simp <;> omega) ?_)
theorem Hi (w:World):WS 116 #[iv 4,iv 1,.bool false] w (WT w (.agg #[iv 0,iv 1,iv 0,iv 0])):=by go_enter Tryz.func116,Tryz.ntmps116;go_wp2;refine bodyPost_ret (v:=.agg #[iv 0,iv 1,iv 0,iv 0]) (by simp[results,Tryz.results116,go_sem]) rfl ⟨rfl,?_⟩;repeat (first|exact Wt _ _|refine bA ?_|refine bS (by simp <;> omega) ?_)
theorem Jv (w:World):WS 116 #[iv 4,iv 1,.bool true] w (WT w (.agg #[iv 0,iv 1,iv 0,iv 1])):=by go_enter Tryz.func116,Tryz.ntmps116;go_wp2;refine bodyPost_ret (v:=.agg #[iv 0,iv 1,iv 0,iv 1]) (by simp[results,Tryz.results116,go_sem]) rfl ⟨rfl,?_⟩;repeat (first|exact Wt _ _|refine bA ?_|refine bS (by simp <;> omega) ?_)
theorem Hj (w:World):WS 116 #[iv 5,iv 0,.bool false] w (WT w (.agg #[iv 1,iv 1,iv 1,iv 0])):=by go_enter Tryz.func116,Tryz.ntmps116;go_wp2;refine bodyPost_ret (v:=.agg #[iv 1,iv 1,iv 1,iv 0]) (by simp[results,Tryz.results116,go_sem]) rfl ⟨rfl,?_⟩;repeat (first|exact Wt _ _|refine bA ?_|refine bS (by simp <;> omega) ?_)
theorem Ih (w:World):WS 116 #[iv 5,iv 0,.bool true] w (WT w (.agg #[iv 1,iv 1,iv 1,iv 1])):=by go_enter Tryz.func116,Tryz.ntmps116;go_wp2;refine bodyPost_ret (v:=.agg #[iv 1,iv 1,iv 1,iv 1]) (by simp[results,Tryz.results116,go_sem]) rfl ⟨rfl,?_⟩;repeat (first|exact Wt _ _|refine bA ?_|refine bS (by simp <;> omega) ?_)
theorem Hk (w:World):WS 116 #[iv 5,iv 1,.bool false] w (WT w (.agg #[iv 0,iv 1,iv 1,iv 0])):=by go_enter Tryz.func116,Tryz.ntmps116;go_wp2;refine bodyPost_ret (v:=.agg #[iv 0,iv 1,iv 1,iv 0]) (by simp[results,Tryz.results116,go_sem]) rfl ⟨rfl,?_⟩;repeat (first|exact Wt _ _|refine bA ?_|refine bS (by simp <;> omega) ?_)
theorem Jt (w:World):WS 116 #[iv 5,iv 1,.bool true] w (WT w (.agg #[iv 0,iv 1,iv 1,iv 1])):=by go_enter Tryz.func116,Tryz.ntmps116;go_wp2;refine bodyPost_ret (v:=.agg #[iv 0,iv 1,iv 1,iv 1]) (by simp[results,Tryz.results116,go_sem]) rfl ⟨rfl,?_⟩;repeat (first|exact Wt _ _|refine bA ?_|refine bS (by simp <;> omega) ?_)
theorem GL (k way:Int) (b:Bool) (w:World) (hk:k=1\/k=3\/k=4\/k=5) (hw:way=0\/way=1) :
  WS 116 #[iv k,iv way,.bool b] w (WT w (qv (A6 k way b))):=by
 rcases hk with rfl|rfl|rfl|rfl <;> rcases hw with rfl|rfl <;> cases b;.exact Hf w
 .exact Js w
 .exact He w
 .exact Is w
 .exact Hg w
 .exact Jo w
 .exact G3 w
 .exact Iv w
 .exact G8 w
 .exact Ij w
 .exact Hi w
 .exact Jv w
 .exact Hj w
 .exact Ih w
 .exact Hk w
 .exact Jt w
theorem LE (next:Int) (a:Option Addr) (n c:Nat) (qa:Option Addr) (qn qc:Nat) (id:ByteArray->Int) (x:Cx) (k:Int) (s t:ByteArray) (w:World) (hT:Jb w next a n c id) :
  WS 78 #[cv x,wv next a n c qa qn qc,nv k s t] w (WT w (cv (DU id k s x))):=by
 obtain⟨xb,xg⟩:=x;have HT:=hid hT;clear hT;unfold cv wv nv;have HB4:U (Bl w ((((w.alloc (.cells #[.bool xb,iv xg] 81)).alloc (.cells #[iv next,.slice a n c,.slice qa qn qc] 75)).alloc (.cells #[iv k,.string s,.string t] 97)).alloc (.cells #[.bool false,iv 0] 81))):=by repeat (first|exact Wt _ _|refine bA ?_)
 obtain⟨W0,hW0⟩:=gn (((((w.alloc (.cells #[.bool xb,iv xg] 81)).alloc (.cells #[iv next,.slice a n c,.slice qa qn qc] 75)).alloc (.cells #[iv k,.string s,.string t] 97)).alloc (.cells #[.bool false,iv 0] 81)));have HC:U (∀W,Bl W0 W->W.heap[w.heap.size+1+1+1]?=some (.cells #[.bool false,iv 0] 81 (0,0))/\Bl w W):=λW hW=>by rw[hW0] at hW;have b4:=Bx.new (((w.alloc (.cells #[.bool xb,iv xg] 81)).alloc (.cells #[iv next,.slice a n c,.slice qa qn qc] 75)).alloc (.cells #[iv k,.string s,.string t] 97)) #[.bool false,iv 0] 81;simp only[WJ] at b4;exact⟨(hW.block _ (by simp)).trans b4,HB4.o.trans (hW.mono HB4.o.size)⟩
 by_cases hk:k=9
 .subst hk;have HD:U (DU id 9 s ⟨xb,xg⟩=⟨true,id s⟩):=rfl;go_enter Tryz.func78,Tryz.ntmps78;go_wp2_with fail
  refine (HT.o _ s HB4.o).mono ?_;rintro e w1 ⟨rfl,hb1⟩;obtain⟨hh,hbw⟩:=HC.o w1 (by rw[hW0];exact hb1);have q0:w1.cell? (ad (w.heap.size+1+1+1) 0)=some (.bool false):=by simp[World.cell?,hh]
  have q1:w1.cell? (ad (w.heap.size+1+1+1) 1)=some (iv 0):=by simp[World.cell?,hh]
  have qf:∀o,w1.frozen? (ad (w.heap.size+1+1+1) o)=false:=λo=>by simp[World.frozen?,hh]
  have hlt:=(Array.getElem?_eq_some_iff.1 hh).1;have HBW:=hid hbw;clear hb1 hh hbw hW0 HC HT HB4;generalize id s=y at*
  go_wp2;rw[HD.o];refine bodyPost_ret (v:=.agg #[.bool true,iv y]) (by simp[results,Tryz.results78,go_sem,q0,q1]) rfl ⟨rfl,?_⟩;exact (HBW.o.setCell (by show w.heap.size<=w.heap.size+1+1+1;omega) _).setCell (by show w.heap.size<=w.heap.size+1+1+1;omega) _
 .have hk' : (k == 9)=false:=by simp[hk]
  have HD:U (DU id k s ⟨xb,xg⟩=⟨xb,xg⟩):=by show _=_;unfold DU;rw[if_neg hk]
  clear hk HC hW0;rw[HD.o];go_enter Tryz.func78,Tryz.ntmps78;go_wp2;refine bodyPost_ret (v:=.agg #[.bool xb,iv xg]) (by simp[results,Tryz.results78,go_sem]) rfl ⟨rfl,?_⟩;repeat (first|exact Wt _ _|refine bA ?_|refine bS (by simp <;> omega) ?_)
structure Vs (w W:World) (next:Int) (a:Option Addr) (n c:Nat) (qa:Option Addr) (qn qc:Nat) (p:Qd):Prop where
 wb:Bx W w.heap.size 75 #[iv next,.slice a n c,.slice qa qn qc]
 pb:Bx W (w.heap.size+2) 140 #[iv p.s,iv p.p,iv p.o,iv p.g]
 ob:W.ownsRow (w.heap.size+3) 140 4 (.slice (some (ad (w.heap.size+3) 0)) 0 0) 0 []
 lt:w.heap.size+3<W.heap.size
 eb:∀o,W.cell? (ad (w.heap.size+3) o)=none
 bel:Bl w W
def Fa (w:World) (L:List Qd) (e:Ending) (w' : World):Prop:=∃a' c',e=.returned (.slice a' L.length c')/\BW w' a' L/\Bl w w'
theorem RU {w w' : World} (h:Below w.drew.heap.size w.drew w'):Bl w w':=((Wt _ _).drew).trans h
theorem CK (next:Int) (a:Option Addr) (n c:Nat) (qa:Option Addr) (ll qc:Nat) (LL:List Qd) (x:Cx) (p:Qd) (w:World) (hq:BW w qa LL) (hll:ll=LL.length) (hl3:ll<=300) :
  WS 74 #[wv next a n c qa ll qc,cv x,qv p] w (Fa w (Cl LL x p)):=by
 obtain⟨xb,xg⟩:=x;obtain⟨W0,hW0⟩:∃W0,W0=(((w.alloc (.cells #[iv next,.slice a n c,.slice qa ll qc] 75)).alloc (.cells #[.bool xb,iv xg] 81)).alloc (.cells #[iv p.s,iv p.p,iv p.o,iv p.g] 140)).alloc (.cells #[] 140):=⟨_,rfl⟩;have hS:Vs w W0 next a n c qa ll qc p:=by rw[hW0];have b1:=Bx.new w #[iv next,.slice a n c,.slice qa ll qc] 75;have b3:=Bx.new ((w.alloc (.cells #[iv next,.slice a n c,.slice qa ll qc] 75)).alloc (.cells #[.bool xb,iv xg] 81)) #[iv p.s,iv p.p,iv p.o,iv p.g] 140;have q:=BB (((w.alloc (.cells #[iv next,.slice a n c,.slice qa ll qc] 75)).alloc (.cells #[.bool xb,iv xg] 81)).alloc (.cells #[iv p.s,iv p.p,iv p.o,iv p.g] 140)) 140 (w.heap.size+3) 4 (by simp);have b4:=Bx.new (((w.alloc (.cells #[iv next,.slice a n c,.slice qa ll qc] 75)).alloc (.cells #[.bool xb,iv xg] 81)).alloc (.cells #[iv p.s,iv p.p,iv p.o,iv p.g] 140)) #[] 140;simp only[WJ] at b3 b4 q;exact⟨((b1.alloc _).alloc _).alloc _,b3.alloc _,q,by simp,λo=>by rw[Bx.cell b4 o];rfl,(((Aa _ _).alloc (by simp) _).alloc (by simp;omega) _).alloc (by simp;omega) _⟩
 have hcx:Bx W0 (w.heap.size+1) 81 #[.bool xb,iv xg]:=by rw[hW0];have b2:=Bx.new (w.alloc (.cells #[iv next,.slice a n c,.slice qa ll qc] 75)) #[.bool xb,iv xg] 81;simp only[WJ] at b2;exact (b2.alloc _).alloc _
 have S0:U (Vs w W0 next a n c qa ll qc p/\BW W0 qa LL/\ll=LL.length):=⟨hS,hq.below hS.bel,hll⟩;have c0:=hcx.cell 0;have c1:=hcx.cell 1;simp at c0 c1;have p3:=hS.pb.cell 3;simp at p3;have pf:∀o,W0.frozen? (ad (w.heap.size+2) o)=false:=λo=>by have:=hS.pb;simp[World.frozen?,show W0.heap[w.heap.size+2]?=_ from this]
 have hlt0:=hS.lt;obtain⟨i0,hi0,hz0,hz1,hz2⟩:=info_parts Tryz.info140;have HI:U (Tryz.prog.info? 140=some i0/\i0.zero=some (.agg #[iv 0,iv 0,iv 0,iv 0])/\i0.size=4/\i0.bytes=32):=⟨hi0,hz0,hz1,hz2⟩;have HQ0:U (BW w qa LL):=hq;clear hi0 hz0 hz1 hz2 hq hll hcx hS;unfold wv cv qv;obtain⟨pp,hpp⟩:∃pp,pp=MH ⟨xb,xg⟩ p:=⟨_,rfl⟩;have HR:U (Cl LL ⟨xb,xg⟩ p=if Rb ⟨xb,xg⟩=true then [] else LL.filter (λq=>BN q pp)):=by show _=_;rw[hpp];rfl
 have HPP:U (pp=MH ⟨xb,xg⟩ p):=hpp;clear hpp;generalize Cl LL ⟨xb,xg⟩ p=RES at*
 go_enter Tryz.func74,Tryz.ntmps74;go_upto_region 2 with fail
 rw[<- hW0];clear hW0;go_upto_if 11 with fail
 go_cut [7] from 9 to 41 (λs7 wx=>s7=.slice (some (ad (w.heap.size+3) 0)) 0 0/\Rb ⟨xb,xg⟩=false/\U (Vs w wx next a n c qa ll qc pp/\BW wx qa LL/\ll=LL.length))
 case first=>
  cases xb with
  | false=>
   have HX:U (Vs w W0 next a n c qa ll qc pp/\BW W0 qa LL/\ll=LL.length):=by have e:pp=p:=HPP.o;rw[e];exact S0.o
   go_wp2;go_meet
   exact⟨rfl,rfl,HX⟩
  | true=>
   by_cases hg:xg=0
   .subst hg;have HF:U (Fa w RES (.returned (.slice (some (ad (w.heap.size+3) 0)) 0 0)) (W0.setCell (ad (w.heap.size+2) 3) (iv 0))):=by show Fa _ _ _ _;rw[HR.o];exact⟨_,_,rfl,.inl rfl,S0.o.1.bel.setCell (by simp) _⟩
    go_wp2;go_ret;exact HF.o
   .have hgb:(xg == 0)=false:=by simp[hg]
    have HX:U (Vs w (W0.setCell (ad (w.heap.size+2) 3) (iv xg)) next a n c qa ll qc pp/\BW (W0.setCell (ad (w.heap.size+2) 3) (iv xg)) qa LL/\ll=LL.length):=by
     have e:pp=⟨p.s,p.p,p.o,xg⟩:=HPP.o;rw[e];obtain⟨q1,q2,q3,q4,q5,q6⟩:=S0.o.1;have ne:∀g,g≠w.heap.size+2->(W0.setCell (ad (w.heap.size+2) 3) (iv xg)).heap[g]?=W0.heap[g]?:=λg hgne=>Wv _ _ _ _ hgne;refine⟨⟨(ne _ (by omega)).trans q1,?_,FW q3 (λg e=>by simp[Value.ownBlock] at e;subst e;exact ne _ (by omega)),by simpa using q4,λo=>?_,q6.setCell (by simp) _⟩,?_,S0.o.2.2⟩;.show (W0.setCell (ad (w.heap.size+2) 3) (iv xg)).heap[w.heap.size+2]?=_;simp[World.setCell,Array.getElem?_modify,show W0.heap[w.heap.size+2]?=_ from q2]
     .rw[World.cell?_of_block (a:=(ad (w.heap.size+3) o)) (ne _ (by simp))];exact q5 o
     .exact HQ0.o.below (q6.setCell (by simp) _)
    go_wp2;go_meet
    exact⟨rfl,by simp[Rb,hg],HX⟩
 case rest=>
  obtain⟨rfl,hno,S3⟩:=hcut;rw[hno] at HR;have HRR:U (RES=LL.filter (λq=>BN q pp)):=HR.o;clear HR hno S0 c0 c1 p3 pf hlt0;generalize wc=w3 at*
  go_wp2;go_loopw [7,8] (λout i wr=>∃(k:Nat) (R:List Qd),k<=ll/\i=iv k/\R=(LL.take k).filter (λq=>BN q pp)/\wr.ownsRow (w.heap.size+3) 140 4 out R.length (Aq R)/\Jx (w.heap.size+3) w3 wr/\(∀g,out.ownBlock=some g->g=w.heap.size+3\/w3.heap.size<=g)) (λ_ i _=>ll-(intOf i).toNat)
  case atStart=>exact⟨0,[],Ww _,rfl,rfl,S3.o.1.ob,Jx.refl _ _,λg e=>.inl (by simp[Value.ownBlock] at e;omega)⟩
  case round=>
   obtain⟨k,R,hk,rfl,hR,hown,hex,hblk⟩:=hrel;obtain⟨ar,cr,er,_⟩:=Ap hown;subst er;have hRl:R.length<=k:=by rw[hR];exact WC (List.length_filter_le _ _) (by rw[WI];omega)
   have HQ:U (wr.ownsRow (w.heap.size+3) 140 4 (.slice ar R.length cr) R.length (Aq R)/\Jx (w.heap.size+3) w3 wr/\R=(LL.take k).filter (λq=>BN q pp)/\(∀g,(Value.slice ar R.length cr).ownBlock=some g->g=w.heap.size+3\/w3.heap.size<=g)):=⟨hown,hex,hR,hblk⟩;clear hown hex hR hblk;obtain⟨rl,hrl⟩:∃rl,rl=R.length:=⟨_,rfl⟩;have HRl:U (rl=R.length):=hrl;rw[<- hrl] at HQ hRl ⊢;clear hrl;have k0:(0:Int)<=(k:Int):=by omega
   have hzr:=HQ.o.2.1.2.2.2.1;have hz3:=S3.o.1.lt;have wbr:Bx wr w.heap.size 75 #[iv next,.slice a n c,.slice qa ll qc]:=(HQ.o.2.1.2.2.2.2 _ S3.o.1.wb.lt (by omega)).trans S3.o.1.wb;have z0:=wbr.cell 2;simp at z0;clear wbr;by_cases hlt:k<ll
   .have k1:(k:Int)<(ll:Int):=by omega
    have hkL:k<LL.length:=by rw[<- S3.o.2.2];exact hlt
    rcases Si S3.o.2.1 HQ.o.2.1 S3.o.1.eb with h0|⟨b,ea,hc⟩;.omega
    obtain⟨s0,s1,s2,s3⟩:=hc k hkL;obtain⟨x,hx⟩:∃x,x=LL[k]:=⟨_,rfl⟩;have HXk:U (LL[k]=x):=hx.symm;rw[<- hx] at s0 s1 s2 s3;have pbr:Bx wr (w.heap.size+2) 140 #[iv pp.s,iv pp.p,iv pp.o,iv pp.g]:=(HQ.o.2.1.2.2.2.2 _ S3.o.1.pb.lt (by omega)).trans S3.o.1.pb;have y0:=pbr.cell 0;have y1:=pbr.cell 1;have y2:=pbr.cell 2;have y3:=pbr.cell 3;simp at y0 y1 y2 y3;have HFt:U (∀W:World,WS 117 #[.agg #[iv x.s,iv x.p,iv x.o,iv x.g],.agg #[iv pp.s,iv pp.p,iv pp.o,iv pp.g]] W (WT W (.bool (BN x pp)))):=λW=>ND x pp W;subst ea;clear hc hx pbr;go_wp2;go_region_with (go_at_call 117;refine (HFt.o _).mono ?_;rintro e w5 ⟨rfl,hb5⟩)
    all_goals
     have hbr:Bl wr w5:=RU hb5
     have t0:=(hbr.cell (Ws _ _ s0)).trans s0
     have t1:=(hbr.cell (Ws _ _ s1)).trans s1
     have t2:=(hbr.cell (Ws _ _ s2)).trans s2
     have t3:=(hbr.cell (Ws _ _ s3)).trans s3
     have z5:=(hbr.cell (Ws _ _ z0)).trans z0
     have hz5:=hbr.size
     have H5:U (w5.ownsRow (w.heap.size+3) 140 4 (.slice ar rl cr) rl (Aq R)/\Jx (w.heap.size+3) w3 w5):=⟨Al HQ.o.1 hbr,HQ.o.2.1.below hbr⟩
     clear hb5 hbr s0 s1 s2 s3 y0 y1 y2 y3 z0
     cases hf:BN x pp with
     | false=>
      have HN:U (R=(LL.take (k+1)).filter (λq=>BN q pp)):=by
       show R=_
       rw[IK hkL,List.filter_append,<- HQ.o.2.2.1,HXk.o,List.filter_cons,hf]
       simp
      go_wp2
      go_roundw
      case rel=>exact⟨k+1,R,by omega,by go_num,HN.o,by rw[<- HRl.o];exact H5.o.1,H5.o.2,HQ.o.2.2.2⟩
      case measure=>simp[intOf];omega
     | true=>
      have HN:U (R++[x]=(LL.take (k+1)).filter (λq=>BN q pp)):=by
       show R++[x]=_
       rw[IK hkL,List.filter_append,<- HQ.o.2.2.1,HXk.o,List.filter_cons,hf]
       simp
      have HO6:U ((w5.alloc (.cells #[iv x.s,iv x.p,iv x.o,iv x.g] 140)).ownsRow (w.heap.size+3) 140 4 (.slice ar rl cr) rl (Aq R)/\Jx (w.heap.size+3) w3 (w5.alloc (.cells #[iv x.s,iv x.p,iv x.o,iv x.g] 140))/\(∀j u,(Aq [x])[j]?=some u->(w5.alloc (.cells #[iv x.s,iv x.p,iv x.o,iv x.g] 140)).cell? (ad w5.heap.size j)=some u)):=by
       refine⟨Al H5.o.1 (Aa _ _),H5.o.2.below (Aa _ _),λj u hj=>?_⟩
       rw[(Bx.new w5 #[iv x.s,iv x.p,iv x.o,iv x.g] 140).cell j]
       simpa[Aq] using hj
      go_wp2_with (at_builtin;refine wpList_append_own_at _ rfl _ _ 69 rfl (w.heap.size+3) 140 i0 _ 4 32 Tryz.underlying69 HI.o.1 HI.o.2.1 HI.o.2.2.1 HI.o.2.2.2 rfl (by decide) (.slice ar rl cr) rl (Aq R) rfl HO6.o.1 (ad w5.heap.size 0) 1 1 (Aq [x]) rfl rfl (λj u hj=>by rw[Addr.add_lit,WM];exact HO6.o.2.2 j u hj) (by intro u hu;simp[Aq] at hu;rcases hu with rfl|rfl|rfl|rfl <;> rfl) (by unfold maxLen;omega) (by omega) (by simp;omega) ?_)
      intro v7 w7 ho7 hg7 _ hat7
      have H7:U (w7.ownsRow (w.heap.size+3) 140 4 v7 (R++[x]).length (Aq (R++[x]))/\Jx (w.heap.size+3) w3 w7/\(∀g,v7.ownBlock=some g->g=w.heap.size+3\/w3.heap.size<=g)):=by
       refine⟨by rw[CB,WD,<- HRl.o];exact ho7,HO6.o.2.1.grown hg7 HQ.o.2.2.2,λg e=>?_⟩
       rcases hat7 with q|q
       .exact HQ.o.2.2.2 g (by rw[<- q];exact e)
       .rw[q] at e
        injection e with e
        exact .inr (by omega)
      obtain⟨a7,c7,e7,_⟩:=Ap ho7
      subst e7
      clear ho7 hg7 hat7 HO6
      go_wp2
      go_roundw
      case rel=>exact⟨k+1,R++[x],by omega,by go_num,HN.o,H7.o⟩
      case measure=>simp[intOf];omega
   .obtain rfl:k=ll:=by omega
    have k1:¬ (k:Int)<(k:Int):=by omega
    have HF:U (Fa w RES (.returned (.slice ar rl cr)) wr):=by
     show Fa _ _ _ _;rw[HRR.o];have e:R=LL.filter (λq=>BN q pp):=by rw[HQ.o.2.2.1,S3.o.2.2,WG]
     have ho:=HQ.o.1;rw[HRl.o,e] at ho;exact⟨ar,cr,by rw[<- e,<- HRl.o],F8 ho,S3.o.1.bel.trans (HQ.o.2.1.bel S3.o.1.bel.size (by omega))⟩
    go_wp2;go_ret;exact HF.o
variable {A:Nat->Nat}{E:Prop}{Q:Exit->Act->World->Prop}{a:Act}{b c o r:Nat}{ks:List Value}{w:World}
theorem I1 (b o m c:Nat) (I:Nat->Int) (X R:Nat->ByteArray) (w:World) (h:DP w (some (ad b o)) (m+1) I X R) (hm:m<=1048576):WS 71 #[.slice (some (ad b o)) (m+1) c] w (WT w (.agg #[iv (I m),.string (X m),.string (R m)])):=by
 rcases h with h|⟨b',o',e,hc⟩;.omega
 injection e with e;injection e with e1 e2;subst e1 e2;obtain⟨c0,c1,c2⟩:=hc m (by omega);have hw:IntKind.i64.wrap (((m+1:Nat):Int)-1)=(m:Int):=by rw[Wz];omega
 have hw2:IntKind.i64.wrap ((m:Int)+1-1)=(m:Int):=by rw[Wz];omega
 have hb:=Ws _ _ c0;clear hc;go_enter Tryz.func71,Tryz.ntmps71;go_wp2;exact bodyPost_ret (v:=.agg #[iv (I m),.string (X m),.string (R m)]) (by simp[results,Tryz.results71,go_sem]) rfl ⟨rfl,Aa _ _⟩
theorem J4 {n j r':Nat} {ks':List Value} (h:Cr A b o c n j r ks) (h' : Cr A b o c n j r' ks'):ks'=ks:=by
 rcases h with ⟨h0,_,rfl⟩|⟨h1,h2,rfl⟩|⟨h1,_,s,h2,h3,rfl⟩ <;> rcases h' with ⟨g0,_,rfl⟩|⟨g1,g2,rfl⟩|⟨g1,_,s',g2,g3,rfl⟩ <;> first|(exfalso;omega)|rfl|skip
 .rw[h2.uniq g2]
 .rw[h2.uniq g2]
theorem NY (b o c m:Nat) (h:Am A (m+1) 0) (ha:A m<=2):∃r ks,Cr A b o c (m+1) (A m) r ks:=by
 rcases DX (by omega) h (by exact ha) with ⟨e,_⟩|⟨e,q⟩|⟨e,s,_,q1,q2⟩;.rw[WL] at e;exact⟨m,[],.inl ⟨e,rfl,rfl⟩⟩
 .rw[WL] at e;exact⟨0,_,.inr (.inl ⟨e,q,rfl⟩)⟩
 .rw[WL] at e;exact⟨0,_,.inr (.inr ⟨e,rfl,s,q1,q2,rfl⟩)⟩
theorem J3 {base m:Nat} {I:Nat->Int} {X R:Nat->ByteArray} (h:Cr (λi=>Ah (I (base+i))) b o c (m+1) (Ah (I (base+m))) r ks) (hR:DP w (some (ad b o)) (m+1) (λi=>I (base+i)) (λi=>X (base+i)) (λi=>R (base+i))) (hc:m+1<=c) (hb:Am (λi=>Ah (I (base+i))) (m+1) 0) :
  ∀i,i<Ah (I (base+m))->∃o' n' c' base',ks[i]?=some (.slice (some (ad b o')) (n'+1) c')/\DP w (some (ad b o')) (n'+1) (λi=>I (base'+i)) (λi=>X (base'+i)) (λi=>R (base'+i))/\Am (λi=>Ah (I (base'+i))) (n'+1) 0/\n'+1<=m/\n'+1<=c'/\c'<=c/\base'+n'=AK (At I) (base+m) i/\base'+n'<base+m:=by
 intro i hi;rcases h with ⟨h0,_,_⟩|⟨h1,h2,h3⟩|⟨h1,_,s,h2,h3,h4⟩;.omega
 .rw[WL] at h2 h3;have hr0:r=0:=by
   rcases DX (by omega) hb (by exact BD _) with ⟨e,_⟩|⟨_,e⟩|⟨e,_⟩;.rw[WL] at e;omega
   .rw[WL] at e;exact h2.uniq e
   .rw[WL] at e;omega
  subst hr0;have hi0:i=0:=by omega
  subst hi0;have hm:=h2.1;refine⟨o,m-1,c,base,?_,hR.take (by omega),?_,by omega,by omega,Wu _,?_,by omega⟩;.rw[h3,show m-1+1=m by omega];simp
  .rw[show m-1+1=m by omega];exact h2
  .unfold AK At;rw[if_neg (by omega)];omega
 .rw[WL] at h2 h4;have hs:=h2.1;have hs0:=h3.1;have hi2:i=0\/i=1:=by omega
  rcases hi2 with rfl|rfl
  .refine⟨o,s-1,c,base,?_,hR.take (by omega),?_,by omega,by omega,Wu _,?_,by omega⟩;.rw[h4,show s-1+1=s by omega];rfl
   .rw[show s-1+1=s by omega];exact h3
   .have e:=Gu (DB (A:=At I) h2);unfold AK;rw[if_pos ⟨h1,rfl⟩,e];omega
  .refine⟨o+s*3,m-s-1,c-s,base+s,?_,?_,?_,by omega,by omega,by omega,?_,by omega⟩;.rw[h4,show m-s-1+1=m-s by omega];rfl
   .rw[show m-s-1+1=m-s by omega];have:=(hR.shift s).take (show m-s<=m+1-s by omega);simpa only [Nat.add_assoc] using this
   .rw[show m-s-1+1=m-s by omega];have:=h2.shift;simpa only [Nat.add_assoc] using this
   .unfold AK;rw[if_neg (by omega)];omega
theorem Ac {P:Program} {ops:Array Oper} {S:World->Prop} {id:Nat} (late:Nat) (hm:P.follows .mixedOrders=true) (hS:S w.drew)
  (h:∀W,S W->Ay P .any ops Q S late ops.size (Array.replicate ops.size false) a W):(Code.region id ops true).wp P Q a w:=Au late hm hS (λh'=>h _ h')
theorem A7 {ops:Array Oper} {o:Oper} {K:Act->World->Prop} (hw:Region.wanted o (yielded ops a.tmps)=true) (k:Nat) (i j l:Nat) (tys:Array TypeId)
  (ho:o.op=.call { callee:=.value (.func k),args:=#[.tmp i,.tmp j,.tmp l],argTypes:=tys }) (u v z:Value) (hx:a.tmps[i]?.getD undef=u) (hy:a.tmps[j]?.getD undef=v) (hz:a.tmps[l]?.getD undef=z) (heg:∀args w,(callFunc k args).run Tryz.prog w=.ok (.enter k args) w)
  (h:WS k #[u,v,z] w λe w'=>∃r,e=.returned r/\K (a.put o.dst r) w') :
  if Region.wanted o (yielded ops a.tmps)=true then Oper.wp Tryz.prog o a w K Q else E:=by rw[if_pos hw];unfold Oper.wp;simp[execOp,ho,resolve,invoke,hx,hy,hz,go_sem,heg];refine h.mono ?_;rintro e w' ⟨u,rfl,hk⟩;exact hk
theorem AF {ops:Array Oper} {o:Oper} {K:Act->World->Prop} (hw:Region.wanted o (yielded ops a.tmps)=true) (k:Nat) (i j:Nat) (tys:Array TypeId)
  (ho:o.op=.call { callee:=.value (.func k),args:=#[.tmp i,.tmp j],argTypes:=tys }) (u v:Value) (hx:a.tmps[i]?.getD undef=u) (hy:a.tmps[j]?.getD undef=v) (heg:∀args w,(callFunc k args).run Tryz.prog w=.ok (.enter k args) w)
  (h:WS k #[u,v] w λe w'=>∃r,e=.returned r/\K (a.put o.dst r) w') :
  if Region.wanted o (yielded ops a.tmps)=true then Oper.wp Tryz.prog o a w K Q else E:=by rw[if_pos hw];unfold Oper.wp;simp[execOp,ho,resolve,invoke,hx,hy,go_sem,heg];refine h.mono ?_;rintro e w' ⟨u,rfl,hk⟩;exact hk
theorem FZ (p:Qd) (hp:Kp p) (w:World):WS 216 #[qv p] w (WT w (iv (Ti p:Int))):=by
 have HB:U (Bl w (w.alloc (.cells #[iv p.s,iv p.p,iv p.o,iv p.g] 140))):=Aa _ _;have HC:U (∀W,Below (w.heap.size+1) (w.alloc (.cells #[iv p.s,iv p.p,iv p.o,iv p.g] 140)) W->W.cell? (ad w.heap.size 0)=some (iv p.s)/\W.cell? (ad w.heap.size 1)=some (iv p.p)/\W.cell? (ad w.heap.size 2)=some (iv p.o)/\W.cell? (ad w.heap.size 3)=some (iv p.g)):=λW hW=>by have hb:=hW.block w.heap.size (by omega);have hh:=hb.trans Array.getElem?_push_size;refine⟨?_,?_,?_,?_⟩ <;> simp[World.cell?,hh]
 obtain⟨j0,hj0,he0⟩:=Ql p hp;have HJ:=hid he0;clear he0 hp;unfold qv;go_enter Tryz.func216,Tryz.ntmps216;go_wp2;go_loopw [3] (λi wr=>∃k:Nat,k<=j0/\i=iv (k:Int)/\(∀j,j<k->E8 j p=false)/\Below (w.heap.size+1) (w.alloc (.cells #[iv p.s,iv p.p,iv p.o,iv p.g] 140)) wr) (λi _=>6-(intOf i).toNat)
 case atStart=>exact⟨0,Ww _,rfl,λj hj=>absurd hj (Wy _),Wt _ _⟩
 case round=>
  obtain⟨k,hk,rfl,hall,hbel⟩:=hrel;have HW:=hid (ai hall hbel);obtain⟨x0,x1,x2,x3⟩:=HC.o wr hbel;have hzr:w.heap.size+1<=wr.heap.size:=by have:=hbel.size;simpa using this
  clear hall hbel;have hlt:k<6:=by omega
  have HE:=(Gb k hlt p wr).2;unfold qv at HE;have HEE:=hid HE;clear HE;go_wp2_with fail
  with_reducible refine HEE.o.mono ?_
  rintro e w1 ⟨rfl,hb1⟩;have H1:=hid (HW.o.2.trans (hb1.mono hzr));clear hb1 HEE;cases he:E8 k p with
  | true=>have HF:=hid (ai (Us hlt he HW.o.1) (HB.o.trans (H1.o.mono (by omega))));clear he;go_wp2;go_ret;exact⟨by rw[HF.o.1];rfl,HF.o.2⟩
  | false=>
   have hkj:k<j0:=by
    rcases Nat.lt_or_ge k j0 with q|q;.exact q
    .have e:k=j0:=by omega
     have:=HJ.o;rw[<- e,he] at this;cases this
   have HN:U (∀j,j<k+1->E8 j p=false):=λj hj=>by
    by_cases e:j=k;.rw[e];exact he
    .exact HW.o.1 j (by omega)
   clear he;have hw1:IntKind.i64.wrap ((k:Int)+1)=((k+1:Nat):Int):=by rw[Wz];omega
   go_wp2;go_roundw;case rel=>exact⟨k+1,by omega,by go_num,HN.o,H1.o⟩
   case measure=>simp[intOf];omega
end Go.Proofs.YtacpbofiipdodaaGreat
