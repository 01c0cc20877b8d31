import Derived.Maps.OwnSet
import Derived.Maps.RangeWalk
import Derived.Maps.Ext
import Derived.Test.YtacpbofiipdodaaGreatNv33
set_option linter.unusedVariables false
set_option linter.unusedSimpArgs false
set_option maxRecDepth 100000
set_option maxHeartbeats 90000000
namespace Go.Proofs.YtacpbofiipdodaaGreat
open Go Go.Deep Go.Maps Go.RowKit
variable {B N n:Nat}{L:List Int}{P:Nat->Prop}{W a b w w':World}{e:TypeId}{x:Int}{xs:List Value}
theorem QP:Tryz.prog.underlying 2=some (.int .i64):=by kernel_rfl
theorem Ok:Tryz.prog.underlying 184=some (.map 2 278):=by kernel_rfl
theorem Vj:Keyed Tryz.prog 2:=int_keyed QP
theorem Ud (w:World):(zeroValue 278).run Tryz.prog w=.ok (.agg #[]) w:=by kernel_rfl
def C7 (x:Int):Prop:=0<=x/\x<=9223372036854775807
def kI (x:Int):Lit:=.int .i64 x
theorem TX {y:Int} (h:kI x=kI y):x=y:=by unfold kI at h;injection h
theorem Rl (h:C7 x):keyOf Tryz.prog 2 (.int .i64 x)=some (kI x):=keyOf_int_mk QP (by
 obtain⟨h1,h2⟩:=h
 have e1:IntKind.i64.min=-9223372036854775808:=by decide
 have e2:IntKind.i64.max=9223372036854775807:=by decide
 simp[Lit.wf,e1,e2]
 omega)
theorem Ue (x:Int):WideAt.IsKeyLit (kI x):=by unfold kI;trivial
def C3 (w:World) (B N:Nat) (P:Int->Prop):Prop:=∃D:DataW Unit,w.ownsMap Tryz.prog 2 unitElem B N D/\∀x:Int,Maps.has D (kI x)=true↔P x
theorem C3.lt {w:World} {B N:Nat} {P:Int->Prop} (h:C3 w B N P):B<w.heap.size:=by obtain⟨D,h,_⟩:=h;exact h.lt
theorem C3.kept {w w' : World} {B N:Nat} {P:Int->Prop} {row:Option Nat} (h:C3 w B N P) (hg:w.grownBy w' row) (hne:some B≠row):C3 w' B N P:=by obtain⟨D,h,q⟩:=h;exact⟨D,h.kept hg hne,q⟩
theorem C3.congr {N':Nat} {P P':Int->Prop} (h:C3 w B N P) (e:∀x,P x↔P' x) (hN:N<=N'):C3 w B N' P':=by obtain⟨D,h,q⟩:=h;exact⟨D,h.mono hN,λx=>(q x).trans (e x)⟩
theorem Ml (w:World) (P:Int->Prop) (h:∀x,¬ P x):C3 (w.alloc (.map #[] 0)) w.heap.size 0 P:=
 ⟨.map [],World.ownsMap_made _ _ _ _,λx=>⟨(λq=>by cases q),λq=>absurd q (h x)⟩⟩
theorem RK (D:DataW Unit) (hD:IsMap D) (x y:Int) (d:DataW Unit):Maps.has (D.put (kI x) d) (kI y)=true↔Maps.has D (kI y)=true\/y=x:=by
 by_cases e:y=x;.subst e;exact⟨λ_=>.inr rfl,λ_=>Maps.has_put_same hD (Ue y) d⟩
 .rw[Maps.has_put_other (λq=>e (TX q)) d];exact⟨λq=>.inl q,λq=>q.resolve_right e⟩
theorem Rk (B N:Nat) (P:Int->Prop) (x:Int) (w:World) (h:C3 w B N P) (hN:N<=1048576) (hx:C7 x) :
  WS 200 #[.map (some B),.int .i64 x] w λe w'=>e=.returned (.tuple #[])/\C3 w' B (N+1) (λy=>P y\/y=x)/\w.grownBy w' (some B):=by
 obtain⟨D,hown,hP⟩:=h;go_enter Tryz.func200,Tryz.ntmps200;go_wp2_with (first
  | (at_mapUpdate;refine wpList_mapUpdate_own _ rfl _ _ _ 184 rfl 2 278 Vj Ok unitElem B N D rfl hown (by unfold maxLen;omega) _ _ (kI x) rfl rfl (Rl hx) _ [] unitElem_mk ?_;intro w1 hown1 hg1)
  | go_in)
 have HF:U (C3 w1 B (N+1) (λy=>P y\/y=x)/\w.grownBy w1 (some B)):=⟨⟨_,hown1,λy=>by rw[RK D hown.isMap x y,hP]⟩,hg1⟩;clear hown1 hg1;go_wp2;go_end0
 exact⟨rfl,HF.o⟩
theorem I2 (B N:Nat) (P:Int->Prop) (x:Int) (w:World) (h:C3 w B N P) (hx:C7 x) :
  WS 210 #[.map (some B),.int .i64 x] w λe w'=>∃b:Bool,e=.returned (.bool b)/\(b=true↔P x)/\Below w.heap.size w w':=by
 obtain⟨D,hown,hP⟩:=h;go_enter Tryz.func210,Tryz.ntmps210;go_wp2_with (first
  | (at_lookup;refine wpList_lookup_own_unit _ rfl _ _ 184 rfl 2 278 Vj Ok (Ud _) B N D rfl hown _ _ rfl (Rl hx) ?_)
  | go_in)
 go_ret;exact⟨Maps.has D (kI x),rfl,hP x,Aa _ _⟩
structure Fr (P:Nat->Prop) (w w' : World):Prop where
 os:w'.os=w.os
 tape:w'.tape=w.tape
 output:w'.output=w.output
 size:w.heap.size<=w'.heap.size
 block:∀k,k<w.heap.size->¬ P k->w'.heap[k]?=w.heap[k]?
theorem Fr.refl (P:Nat->Prop) (w:World):Fr P w w:=⟨rfl,rfl,rfl,Wu _,λ_ _ _=>rfl⟩
theorem Fr.trans {P P' P2:Nat->Prop} {a b c:World} (h:Fr P a b) (k:Fr P' b c) (h1:∀i,i<a.heap.size->P i->P2 i) (h2:∀i,i<a.heap.size->P' i->P2 i):Fr P2 a c:=
 ⟨k.os.trans h.os,k.tape.trans h.tape,k.output.trans h.output,WC h.size k.size,λi hi hn=>(k.block i (WF hi h.size) (λq=>hn (h2 i hi q))).trans (h.block i hi (λq=>hn (h1 i hi q)))⟩
theorem Fr.mono {P':Nat->Prop} (h:Fr P a b) (h1:∀i,i<a.heap.size->P i->P' i):Fr P' a b:=⟨h.os,h.tape,h.output,h.size,λi hi hn=>h.block i hi (λq=>hn (h1 i hi q))⟩
theorem Fr.ofBelow (h:Below a.heap.size a b):Fr P a b:=⟨h.os,h.tape,h.output,h.size,λi hi _=>h.block i hi⟩
theorem Fr.ofGrown {row:Option Nat} (h:a.grownBy b row) (hr:∀k,row=some k->P k):Fr P a b:=⟨h.os,h.tape,h.output,h.size,λi hi hn=>h.block i hi (λe=>hn (hr i e.symm))⟩
theorem Fr.ofSet {p:Addr} {v:Value} (h:P p.block):Fr P a (a.setCell p v):=⟨rfl,rfl,rfl,by simp[World.setCell],λi _ hn=>Wv _ _ _ _ (λe=>hn (by rw[e];exact h))⟩
theorem Fr.toBelow (h:Fr P a b) (hB:B<=a.heap.size) (hn:∀k,k<B->¬ P k):Below B a b:=⟨h.os,h.tape,h.output,h.size,λi hi=>h.block i (WF hi hB) (hn i hi)⟩
theorem Fr.cell {P:Nat->Prop} {a b:World} (h:Fr P a b) {p:Addr} {v:Value} (hc:a.cell? p=some v) (hn:¬ P p.block):b.cell? p=some v:=(World.cell?_of_block (w:=a) (h.block p.block (Ws _ _ hc) hn)).trans hc
theorem C3.fr {Q:Int->Prop} (h:C3 w B N Q) (hf:Fr P w w') (hn:¬ P B):C3 w' B N Q:=by obtain⟨D,⟨es,clock,hb,r⟩,q⟩:=h;exact⟨D,⟨es,clock,by rw[hf.block B (Array.getElem?_eq_some_iff.1 hb).1 hn];exact hb,r⟩,q⟩
theorem Bx.fr {b:Nat} {t:TypeId} {c:Array Value} (h:Bx w b t c) (hf:Fr P w w') (hn:¬ P b):Bx w' b t c:=(hf.block b h.lt hn).trans h
theorem Qa {size:Nat} {v:Value} (h:w.ownsRow B e size v n xs) (hf:Fr P w w') (hn:∀k,B<=k->k<w.heap.size->¬ P k):w'.ownsRow B e size v n xs:=by refine⟨h.1,h.2.imp id ?_⟩;rintro⟨g,cap,cur,h1,h2,h3,h4⟩;exact⟨g,cap,cur,h1,h2,by rw[hf.block g (Array.getElem?_eq_some_iff.1 h3).1 (hn g h2 (Array.getElem?_eq_some_iff.1 h3).1)];exact h3,h4⟩
theorem UE {a:Option Addr} (h:GQ w a L) (hf:Fr P w w') (hn:∀b o,a=some (ad b o)->¬ P b):GQ w' a L:=by
 rcases h with h0|⟨b,o,e,hc⟩;.exact .inl h0
 .exact .inr ⟨b,o,e,λi hi=>hf.cell (hc i hi) (hn b o e)⟩
def Dg (xb:Nat) (lab:Int) (nt:Bool) (rd:Int) (v:Value) (mb tl:Nat) (tail:List Value):Array Value:=(pt xb::.int .i64 lab::.bool nt::.int .i64 rd::v::.map (some mb)::.int .i64 (tl:Int)::tail).toArray
structure Fx where
 ob:Nat
 mb:Nat
 ty:TypeId
 xb:Nat
 lab:Int
 nt:Bool
 tail:List Value
def FB (W:World) (f:Fx) (rd:Int) (v:Value) (tl:Nat):Prop:=Bx W f.ob f.ty (Dg f.xb f.lab f.nt rd v f.mb tl f.tail)
theorem FB.cells {f:Fx} {rd:Int} {v:Value} {tl:Nat} (h:FB W f rd v tl):(W.cell? (ad f.ob 0)=some (pt f.xb)/\W.cell? (ad f.ob 1)=some (.int .i64 f.lab)/\W.cell? (ad f.ob 2)=some (.bool f.nt))/\W.cell? (ad f.ob 3)=some (.int .i64 rd)/\W.cell? (ad f.ob 4)=some v/\W.cell? (ad f.ob 5)=some (.map (some f.mb))/\W.cell? (ad f.ob 6)=some (.int .i64 (tl:Int)):=
 ⟨⟨Bx.cell h 0,Bx.cell h 1,Bx.cell h 2⟩,Bx.cell h 3,Bx.cell h 4,Bx.cell h 5,Bx.cell h 6⟩
theorem FB.open {f:Fx} {rd:Int} {v:Value} {tl:Nat} (h:FB W f rd v tl):∀o,W.frozen? (ad f.ob o)=false:=λo=>by simp[World.frozen?,show W.heap[f.ob]?=_ from h]
theorem FB.setRd {f:Fx} {rd rd':Int} {v:Value} {tl:Nat} (h:FB W f rd v tl):FB (W.setCell (ad f.ob 3) (.int .i64 rd')) f rd' v tl:=AL h rfl
theorem FB.setV {f:Fx} {rd:Int} {v v':Value} {tl:Nat} (h:FB W f rd v tl):FB (W.setCell (ad f.ob 4) v') f rd v' tl:=AL h rfl
theorem FB.setTl {f:Fx} {rd:Int} {v:Value} {tl tl':Nat} (h:FB W f rd v tl):FB (W.setCell (ad f.ob 6) (.int .i64 (tl' : Int))) f rd v tl':=AL h rfl
theorem FB.fr {P:Nat->Prop} {w w' : World} {f:Fx} {rd:Int} {v:Value} {tl:Nat} (h:FB w f rd v tl) (hf:Fr P w w') (hn:¬ P f.ob):FB w' f rd v tl:=Bx.fr h hf hn
structure Zf (W:World) (Z:Nat->Prop) (f:Fx) (rd:Int) (tl:Nat) (L:List Int):Prop where
 blk:∃v,FB W f rd v tl/\W.ownsRow 0 2 1 v L.length (zl L)/\∀g,v.ownBlock=some g->Z g
 set:C3 W f.mb L.length (λx=>x∈L)
 ob:¬ Z f.ob
 mb:¬ Z f.mb
 ne:f.ob≠f.mb
def PF (Z:Nat->Prop) (f:Fx) (k:Nat):Prop:=k=f.ob\/k=f.mb\/Z k
theorem HU {size:Nat} {v:Value} (h:w.ownsRow B e size v n xs) (hf:Fr P w w') (hn:∀g,v.ownBlock=some g->¬ P g):w'.ownsRow B e size v n xs:=by refine⟨h.1,h.2.imp id ?_⟩;rintro⟨g,cap,cur,h1,h2,h3,h4⟩;exact⟨g,cap,cur,h1,h2,by rw[hf.block g (Array.getElem?_eq_some_iff.1 h3).1 (hn g (by rw[h1];rfl))];exact h3,h4⟩
theorem Zf.fr {P Z:Nat->Prop} {w w' : World} {f:Fx} {rd:Int} {tl:Nat} {L:List Int} (h:Zf w Z f rd tl L) (hf:Fr P w w') (h1:¬ P f.ob) (h2:¬ P f.mb) (h3:∀k,Z k->¬ P k):Zf w' Z f rd tl L:=by obtain⟨⟨v,q1,q2,q7⟩,q3,q4,q5,q6⟩:=h;exact⟨⟨v,q1.fr hf h1,HU q2 hf (λg e=>h3 g (q7 g e)),q7⟩,q3.fr hf h2,q4,q5,q6⟩
theorem Zf.below {Z:Nat->Prop} {f:Fx} {rd:Int} {tl:Nat} (h:Zf w Z f rd tl L) (hb:Below w.heap.size w w'):Zf w' Z f rd tl L:=h.fr (P:=λ_=>False) (Fr.ofBelow hb) (λq=>q) (λq=>q) (λ_ _ q=>q)
theorem CJ (Z:Nat->Prop) (f:Fx) (rd:Int) (tl:Nat) (L:List Int) (x:Int) (w:World) (h:Zf w Z f rd tl L) (hx:C7 x) (hn:L.length<=1000000) (hB:∀k,w.heap.size<=k->Z k) :
  WS 208 #[pt f.ob,.int .i64 x] w λe w'=>e=.returned (.tuple #[])/\Zf w' Z f rd tl (AH L x)/\Fr (PF Z f) w w':=by
 have HS:U (Zf w Z f rd tl L):=h;obtain⟨⟨v,hb,hr,hz⟩,hset,ho,hm,hne⟩:=h;obtain⟨-,-,-,c5,-⟩:=hb.cells;have HHas:U (WS 210 #[.map (some f.mb),.int .i64 x] w λe w'=>∃b:Bool,e=.returned (.bool b)/\(b=true↔x∈L)/\Below w.heap.size w w'):=I2 f.mb L.length _ x w hset hx;clear hb hr hz hset ho hm hne;have HX:U (C7 x):=hx;clear hx;go_enter Tryz.func208,Tryz.ntmps208;go_wp2_with fail
 refine HHas.o.mono ?_;rintro e w1 ⟨b,rfl,hbx,hb1⟩;have S1:U (Zf w1 Z f rd tl L):=HS.o.below hb1;have F1:U (Fr (PF Z f) w w1):=Fr.ofBelow hb1;have hB1:∀k,w1.heap.size<=k->Z k:=λk hk=>hB k (WC hb1.size hk);clear hb1 c5 HS HHas;cases b with
 | true=>
  have HA:U (AH L x=L):=by show _=_;unfold AH;rw[if_pos (by simpa using hbx.1 rfl)]
  clear hbx;go_wp2;go_end0
  exact⟨rfl,by rw[HA.o];exact S1.o,F1.o⟩
 | false=>
  have HA:U (AH L x=L++[x]/\x∉L):=by
   have hn:x∉L:=λq=>by have:=hbx.2 q;cases this
   exact⟨by unfold AH;rw[if_neg (by simpa using hn)],hn⟩
  clear hbx;obtain⟨⟨v,hb,hr,hz⟩,hset,ho,hm,hne⟩:=S1.o;obtain⟨-,-,-,c5,-⟩:=hb.cells;have HAdd:U (WS 200 #[.map (some f.mb),.int .i64 x] w1 λe w'=>e=.returned (.tuple #[])/\C3 w' f.mb (L.length+1) (λy=>y∈L\/y=x)/\w1.grownBy w' (some f.mb)):=Rk f.mb L.length _ x w1 hset (by omega) HX.o;have HB0:U (FB w1 f rd v tl/\w1.ownsRow 0 2 1 v L.length (zl L)/\∀g,v.ownBlock=some g->Z g):=⟨hb,hr,hz⟩;clear hb hr hz hset;go_wp2_with fail
  refine HAdd.o.mono ?_;rintro e w2 ⟨rfl,hset,hg⟩;have hf2:Fr (λk=>k=f.mb) w1 w2:=Fr.ofGrown hg (λk e=>by injection e with e;exact e.symm);have S2:U (FB w2 f rd v tl/\w2.ownsRow 0 2 1 v L.length (zl L)/\C3 w2 f.mb (L.length+1) (λy=>y∈L\/y=x)/\∀g,v.ownBlock=some g->Z g):=⟨HB0.o.1.fr hf2 hne,HU HB0.o.2.1 hf2 (λg e q=>hm (q ▸ HB0.o.2.2 g e)),hset,HB0.o.2.2⟩;have F2:U (Fr (PF Z f) w w2):=F1.o.trans hf2 (λ_ _ q=>q) (λi _ q=>.inr (.inl q));have hB2:∀k,w2.heap.size<=k->Z k:=λk hk=>hB1 k (WC hf2.size hk);clear hset hg hf2 HAdd HB0 c5 F1;obtain⟨va,vc,rfl⟩:=Dd S2.o.2.1;obtain⟨-,-,c4,-,-⟩:=S2.o.1.cells;obtain⟨i0,hi,hz0,hz1,hz2⟩:=info_parts N8;have HI:U (Tryz.prog.info? 2=some i0/\i0.zero=some (.int .i64 0)/\i0.size=1/\i0.bytes=8):=⟨hi,hz0,hz1,hz2⟩;clear hi hz0 hz1 hz2;have H1a:U ((w2.alloc (.cells #[.int .i64 x] 2)).ownsRow 0 2 1 (.slice va L.length vc) L.length (zl L)):=Al S2.o.2.1 (Aa _ _);go_wp2_with (at_builtin;refine wpList_append_own_at _ rfl _ _ 31 rfl 0 2 i0 (.int .i64 0) 1 8 Tryz.underlying31 HI.o.1 HI.o.2.1 HI.o.2.2.1 HI.o.2.2.2 rfl (by decide) (.slice va L.length vc) L.length (zl L) rfl H1a.o (ad w2.heap.size 0) 1 1 [.int .i64 x] rfl rfl (Ef _ [.int .i64 x] _) (λu hu=>by simp at hu;subst hu;rfl) (by unfold maxLen;omega) (by omega) (by simp) ?_)
  intro v2 w3 ho2 hg2 _ hv2;have hfa:Fr (PF Z f) w2 (w2.alloc (.cells #[.int .i64 x] 2)):=Fr.ofBelow (Aa _ _);have hfg:Fr Z (w2.alloc (.cells #[.int .i64 x] 2)) w3:=Fr.ofGrown hg2 (λk e=>S2.o.2.2.2 k e);have hf3:Fr Z w2 w3:=(Fr.ofBelow (P:=Z) (Aa w2 (.cells #[.int .i64 x] 2))).trans hfg (λ_ _ q=>q) (λ_ _ q=>q);have S3:U (FB w3 f rd (.slice va L.length vc) tl/\w3.ownsRow 0 2 1 v2 (L++[x]).length (zl (L++[x]))/\C3 w3 f.mb (L.length+1) (λy=>y∈L\/y=x)/\∀g,v2.ownBlock=some g->Z g):=by
   refine⟨S2.o.1.fr hf3 ho,?_,S2.o.2.2.1.fr hf3 hm,λg e=>?_⟩;rotate_left
   .rcases hv2 with q|q;.exact S2.o.2.2.2 g (q ▸ e)
    .rw[q] at e;injection e with e;rw[<- e];exact hB2 _ (by simp)
   have hl:L.length+1=(L++[x]).length:=by rw[WD];rfl
   rw[hl,show zl L++[.int .i64 x]=zl (L++[x]) from (MK L [x]).symm] at ho2;exact ho2
  have F3:U (Fr (PF Z f) w w3):=F2.o.trans hf3 (λ_ _ q=>q) (λi _ q=>.inr (.inr q));have hsh:=Dd ho2;clear ho2 hg2 hv2 hfa hfg hf3 S2 F2 H1a HI c4;obtain⟨a8,c8,rfl⟩:=hsh;have HEnd:U (Zf (w3.setCell (ad f.ob 4) (.slice a8 (L.length+1) c8)) Z f rd tl (AH L x)/\Fr (PF Z f) w (w3.setCell (ad f.ob 4) (.slice a8 (L.length+1) c8))):=by rw[HA.o.1];have hs:Fr (λk=>k=f.ob) w3 (w3.setCell (ad f.ob 4) (.slice a8 (L.length+1) c8)):=Fr.ofSet rfl;refine⟨⟨⟨_,S3.o.1.setV,HU S3.o.2.1 hs (λg e q=>ho (q ▸ S3.o.2.2.2 g e)),S3.o.2.2.2⟩,?_,ho,hm,hne⟩,F3.o.trans hs (λ_ _ q=>q) (λi _ q=>.inl q)⟩;refine (S3.o.2.2.1.fr hs (λe=>hne e.symm)).congr (λy=>?_) (by simp);simp
  have c4:=S3.o.1.cells.2.2.1;have cf:=S3.o.1.open;have cl:=Bx.lt S3.o.1;clear S3 F3;go_wp2;go_end0
  exact⟨rfl,HEnd.o⟩
variable {HB:Nat}{Y Z:Nat->Prop}{f:Fx}
structure FQ (W:World) (HB:Nat) (Y:Nat->Prop) (f:Fx) (rd:Int) (tl:Nat) (L:List Int):Prop where
 blk:∃a c,FB W f rd (.slice a L.length c) tl/\GQ W a L/\∀b o,a=some (ad b o)->L≠[]->HB<=b/\Y b
 set:C3 W f.mb L.length (λx=>x∈L)
 ob:f.ob<HB
 mb:f.mb<HB
 ne:f.ob≠f.mb
theorem NO {P:Nat->Prop} {a:Option Addr} (h:GQ w a L) (hf:Fr P w w') (hn:∀b o,a=some (ad b o)->L≠[]->¬ P b):GQ w' a L:=by
 by_cases hL:L=[];.exact .inl (by rw[hL];rfl)
 .exact UE h hf (λb o e=>hn b o e hL)
theorem FQ.fr {P:Nat->Prop} {w w' : World} {HB:Nat} {Y:Nat->Prop} {f:Fx} {rd:Int} {tl:Nat} {L:List Int} (h:FQ w HB Y f rd tl L) (hf:Fr P w w') (h1:¬ P f.ob) (h2:¬ P f.mb) (h3:∀k,HB<=k->Y k->¬ P k):FQ w' HB Y f rd tl L:=by obtain⟨⟨a,c,q1,q2,q7⟩,q3,q4,q5,q6⟩:=h;exact⟨⟨a,c,q1.fr hf h1,NO q2 hf (λb o e hL=>h3 b (q7 b o e hL).1 (q7 b o e hL).2),q7⟩,q3.fr hf h2,q4,q5,q6⟩
theorem FQ.mono {Y':Nat->Prop} {rd:Int} {tl:Nat} (h:FQ w HB Y f rd tl L) (hT:∀k,HB<=k->Y k->Y' k):FQ w HB Y' f rd tl L:=by obtain⟨⟨a,c,q1,q2,q7⟩,q3,q4,q5,q6⟩:=h;exact⟨⟨a,c,q1,q2,λb o e hL=>⟨(q7 b o e hL).1,hT b (q7 b o e hL).1 (q7 b o e hL).2⟩⟩,q3,q4,q5,q6⟩
theorem FQ.below {rd:Int} {tl:Nat} (h:FQ w HB Y f rd tl L) (hb:Bl w w'):FQ w' HB Y f rd tl L:=h.fr (P:=λ_=>False) (Fr.ofBelow hb) (λq=>q) (λq=>q) (λ_ _ _ q=>q)
theorem Zf.fq {rd:Int} {tl:Nat} (h:Zf W Z f rd tl L) (hB:∀k,Z k->HB<=k) (h1:f.ob<HB) (h2:f.mb<HB):FQ W HB (λk=>Z k/\k<W.heap.size) f rd tl L:=by obtain⟨⟨v,q1,q2,q7⟩,q3,q4,q5,q6⟩:=h;obtain⟨a,c,rfl,r1,r2,r3⟩:=Hu q2;refine⟨⟨a,c,q1,r1,λb o e hL=>?_⟩,q3,h1,h2,q6⟩;subst e;exact⟨hB b (q7 b rfl),q7 b rfl,(Aw q2 b rfl).2⟩
theorem Dm {rd:Int} {tl:Nat} (h:FB W f rd (.slice none 0 0) tl/\C3 W f.mb 0 (λ_=>False)) (h1:¬ Z f.ob) (h2:¬ Z f.mb) (h3:f.ob≠f.mb):Zf W Z f rd tl []:=
 ⟨⟨_,h.1,⟨rfl,.inl ⟨rfl,rfl⟩⟩,λg e=>by cases e⟩,h.2.congr (λx=>by simp) (Wu _),h1,h2,h3⟩
theorem Es (HB:Nat) (Y:Nat->Prop) (f:Fx) (rd:Int) (tl:Nat) (L:List Int) (w:World) (h:FQ w HB Y f rd tl L) (ht:tl<=L.length) (hn:L.length<=1000000) :
  WS 204 #[pt f.ob] w λe w'=>(tl=L.length/\e=.returned (.tuple #[iv 0,.bool false])/\FQ w' HB Y f rd tl L/\Bl w w')\/(tl<L.length/\e=.returned (.tuple #[iv (gz L tl),.bool true])/\FQ w' HB Y f rd (tl+1) L/\Fr (λk=>k=f.ob) w w'):=by
 have HS:=hid h;obtain⟨⟨a,c,hb,hr,hlo⟩,hset,ho,hm,hne⟩:=h;have HB0:=hid (ai hb (ai hr hlo));clear hb hr hlo hset;go_enter Tryz.func204,Tryz.ntmps204;obtain⟨obx,hobx⟩:=gn f.ob;have HOB:=hid hobx;rw[<- hobx];clear hobx;by_cases hlt:tl=L.length
 .obtain⟨ll,hll⟩:=gn L.length;have HT:=hid hlt;have hbeq:((tl:Int) == (L.length:Int))=true:=by rw[hlt];simp
  clear hlt hll ll;go_upto_region 1 with fail
  refine Ac (S:=λW=>Bl w W) 9 (by kernel_rfl) (Wt _ _).drew (λW hHeld=>?_);refine tx 0 rfl ?_;refine tx 1 rfl ?_;refine tx 2 rfl ?_;refine tY 3 rfl (λw' h=>by obtain⟨-,-,x4,-,x6⟩:=(HB0.o.1.fr (P:=λ_=>False) (Fr.ofBelow h) (λq=>q)).cells;rw[<- HOB.o] at x4 x6;clear h;go_simp;rfl) ?_;refine tx 4 rfl ?_;refine tx 5 rfl ?_;refine tx 6 rfl ?_;refine tY 7 rfl (λw' h=>by obtain⟨-,-,x4,-,x6⟩:=(HB0.o.1.fr (P:=λ_=>False) (Fr.ofBelow h) (λq=>q)).cells;rw[<- HOB.o] at x4 x6;clear h;go_simp;rfl) ?_;refine tx 8 rfl ?_;refine AB 9 rfl (λK hK=>?_);go_simp;refine hK.out _ _ (λ_=>hHeld) (λhG=>?_);clear hK K hG;refine Ae (by kernel_rfl) ?_ _;have H1:=hid hHeld;clear hHeld;go_wp2;refine bodyPost_ret (v:=.tuple #[iv 0,.bool false]) (by simp[results,Tryz.results204,go_sem]) rfl ?_;exact .inl ⟨HT.o,rfl,HS.o.below H1.o,H1.o⟩
 .have HT:U (tl<L.length):=by show _<_;omega
  have hbeq:((tl:Int) == (L.length:Int))=false:=by simp;omega
  obtain⟨t1,ht1⟩:=gn (tl+1);have hw1:IntKind.i64.wrap ((tl:Int)+1)=(t1:Int):=by rw[Wz];omega
  have hw2:IntKind.i64.wrap ((t1:Int)-1)=(tl:Int):=by rw[Wz];omega
  have HT1:=hid ht1;clear hlt ht1;go_upto_region 1 with fail
  refine Ac (S:=λW=>Bl w W) 9 (by kernel_rfl) (Wt _ _).drew (λW hHeld=>?_);refine tx 0 rfl ?_;refine tx 1 rfl ?_;refine tx 2 rfl ?_;refine tY 3 rfl (λw' h=>by obtain⟨-,-,x4,-,x6⟩:=(HB0.o.1.fr (P:=λ_=>False) (Fr.ofBelow h) (λq=>q)).cells;rw[<- HOB.o] at x4 x6;clear h;go_simp;rfl) ?_;refine tx 4 rfl ?_;refine tx 5 rfl ?_;refine tx 6 rfl ?_;refine tY 7 rfl (λw' h=>by obtain⟨-,-,x4,-,x6⟩:=(HB0.o.1.fr (P:=λ_=>False) (Fr.ofBelow h) (λq=>q)).cells;rw[<- HOB.o] at x4 x6;clear h;go_simp;rfl) ?_;refine tx 8 rfl ?_;refine AB 9 rfl (λK hK=>?_);go_simp;refine hK.out _ _ (λ_=>hHeld) (λhG=>?_);clear hK K hG;refine Ae (by kernel_rfl) ?_ _;have F1:=hid (ai (HB0.o.1.fr (P:=λ_=>False) (Fr.ofBelow hHeld) (λq=>q)) hHeld);clear hHeld;obtain⟨x4,x6,xf,xl⟩:W.cell? (ad obx 4)=some (.slice a L.length c)/\W.cell? (ad obx 6)=some (iv (tl:Int))/\(∀o,W.frozen? (ad obx o)=false)/\obx<W.heap.size:=by rw[HOB.o];exact⟨F1.o.1.cells.2.2.1,F1.o.1.cells.2.2.2.2,F1.o.1.open,Bx.lt F1.o.1⟩
  have S2:U (FB (W.setCell (ad obx 6) (iv (t1:Int))) f rd (.slice a L.length c) t1/\Fr (λk=>k=f.ob) w (W.setCell (ad obx 6) (iv (t1:Int)))):=by rw[HOB.o];exact⟨F1.o.1.setTl,(Fr.ofBelow (P:=λk=>k=f.ob) F1.o.2).trans (Fr.ofSet (P:=λk=>k=f.ob) rfl) (λ_ _ q=>q) (λ_ _ q=>q)⟩
  go_upto_region 4 with fail
  generalize W.setCell (ad obx 6) (iv (t1:Int))=W2 at S2 ⊢;clear x4 x6 xf xl F1;obtain⟨rb,ro,rfl,hrc⟩:∃rb ro,a=some (ad rb ro)/\w.cell? (ad rb (ro+tl))=some (iv (gz L tl)):=HB0.o.2.1.cell (i:=tl) HT.o;have hrn:rb≠f.ob:=by have:=(HB0.o.2.2 rb ro rfl (λe=>by have:=HT.o;rw[e] at this;simp at this)).1;omega
  have HRC:U (∀W,Bl W2 W->W.cell? (ad rb (ro+tl))=some (iv (gz L tl))):=λW hW=>by have:=S2.o.2.cell hrc hrn;exact (hW.cell (Ws _ _ this)).trans this
  have HLL:=hid hn;clear hrc;have i0:(0:Int)<=(tl:Int):=by omega
  have i1:(tl:Int)<(L.length:Int):=by have:=HT.o;omega
  refine Ac (S:=λW=>Bl W2 W) 12 (by kernel_rfl) (Wt _ _).drew (λW hHeld=>?_);refine tx 0 rfl ?_;refine tx 1 rfl ?_;refine tx 2 rfl ?_;refine tY 3 rfl (λw' h=>by obtain⟨-,-,x4,-,x6⟩:=(S2.o.1.fr (P:=λ_=>False) (Fr.ofBelow h) (λq=>q)).cells;rw[<- HOB.o] at x4 x6;clear h;go_simp;rfl) ?_;refine tx 4 rfl ?_;refine tx 5 rfl ?_;refine tx 6 rfl ?_;refine tY 7 rfl (λw' h=>by obtain⟨-,-,x4,-,x6⟩:=(S2.o.1.fr (P:=λ_=>False) (Fr.ofBelow h) (λq=>q)).cells;rw[<- HOB.o] at x4 x6;clear h;go_simp;rfl) ?_;refine tx 8 rfl ?_;refine tx 9 rfl ?_;refine tY 10 rfl (λw' h=>by have x9:=HRC.o w' h;clear h;go_simp;rfl) ?_;refine AB 11 rfl (λK hK=>?_);go_simp;refine hK.out _ _ (λ_=>hHeld) (λhG=>?_);clear hK K hG;try simp only[As]
  refine AB 12 rfl (λK hK=>?_);go_simp;refine hK.out _ _ (λ_=>hHeld) (λhG=>?_);clear hK K hG;try simp only[As]
  refine Ae (by kernel_rfl) ?_ _;have HEnd:U (FQ W HB Y f rd (tl+1) L/\Fr (λk=>k=f.ob) w W):=by
   rw[<- HT1.o];have hf2:=S2.o.2;have hf3:=hf2.trans (Fr.ofBelow (P:=λ_=>False) hHeld) (λ_ _ q=>q) (λ_ _ q=>q.elim);refine⟨⟨⟨_,c,S2.o.1.fr (P:=λ_=>False) (Fr.ofBelow hHeld) (λq=>q),?_,HB0.o.2.2⟩,?_,ho,hm,hne⟩,hf3⟩;.exact NO HB0.o.2.1 hf3 (λb o e hL q=>by have:=(HB0.o.2.2 b o e hL).1;omega)
   .exact HS.o.set.fr hf3 (λq=>hne q.symm)
  clear hHeld S2 HRC;go_wp2;refine bodyPost_ret (v:=.tuple #[iv (gz L tl),.bool true]) (by simp[results,Tryz.results204,go_sem]) rfl ?_;exact .inr ⟨HT.o,rfl,HEnd.o.1,by rw[HOB.o];exact HEnd.o.2⟩
theorem Kg (HB:Nat) (Y:Nat->Prop) (f:Fx) (rd:Int) (tl:Nat) (L:List Int) (w:World) (h:FQ w HB Y f rd tl L) (hn:L.length<=1000000) :
  WS 201 #[pt f.ob] w (WT w (.bool (decide (L.length=0)))):=by
 obtain⟨⟨a,c,hb,hr,hlo⟩,hset,ho,hm,hne⟩:=h;have x4:=hb.cells.2.2.1;have hbeq:((L.length:Int) == 0)=decide (L.length=0):=by rw[Bool.eq_iff_iff];simp only[beq_iff_eq,decide_eq_true_eq];omega
 obtain⟨bz,hbz⟩:=gn (decide (L.length=0));rw[<- hbz] at hbeq ⊢;clear hb hr hlo hset hbz;go_enter Tryz.func201,Tryz.ntmps201;go_wp2;go_ret;exact⟨by first|rfl|simp,Wt _ _⟩
theorem Kd (HB:Nat) (Y:Nat->Prop) (f:Fx) (rd:Int) (tl:Nat) (L:List Int) (x:Int) (w:World) (h:FQ w HB Y f rd tl L) (hx:C7 x) :
  WS 202 #[pt f.ob,iv x] w λe w'=>∃b:Bool,e=.returned (.bool b)/\(b=true↔x∈L)/\Bl w w':=by
 obtain⟨⟨a,c,hb,hr,hlo⟩,hset,ho,hm,hne⟩:=h;have x5:=hb.cells.2.2.2.1;have HHas:=hid (I2 f.mb L.length _ x w hset hx);clear hb hr hlo hset;go_enter Tryz.func202,Tryz.ntmps202;go_wp2_with fail
 refine HHas.o.mono ?_;rintro e w1 ⟨b,rfl,hbx,hb1⟩;have HF:=hid (ai hbx hb1);clear hbx hb1;go_wp2;go_ret;exact⟨b,rfl,HF.o⟩
theorem OC (HB:Nat) (Y:Nat->Prop) (f:Fx) (rd:Int) (tl:Nat) (L:List Int) (x:Int) (w:World) (h:FQ w HB Y f rd tl L) (hx:C7 x) :
  WS 203 #[pt f.ob,iv x] w λe w'=>∃b:Bool,e=.returned (.bool b)/\(b=true↔¬ x∈L)/\Bl w w':=by
 obtain⟨⟨a,c,hb,hr,hlo⟩,hset,ho,hm,hne⟩:=h;have x5:=hb.cells.2.2.2.1;have HHas:=hid (I2 f.mb L.length _ x w hset hx);clear hb hr hlo hset;go_enter Tryz.func203,Tryz.ntmps203;go_wp2_with fail
 refine HHas.o.mono ?_;rintro e w1 ⟨b,rfl,hbx,hb1⟩;have HF:=hid (ai hbx hb1);clear hbx hb1;go_wp2;go_ret;exact⟨!b,rfl,by rw[<- HF.o.1];cases b <;> simp,HF.o.2⟩
def GT (ty:TypeId) (b:Nat) (nm:String) (F:Nat):Prop:=∀W,(method 452 ty (pt b) nm).run Tryz.prog W=.ok (F,pt b) W
structure NQ (ty:TypeId) (F:Nat):Prop where
 op:∀b,GT ty b "loop.example/s01136/impl.open" F
 nx:∀b,GT ty b "loop.example/s01136/impl.next" 204
 em:∀b,GT ty b "loop.example/s01136/impl.empty" 201
 ho:∀b,GT ty b "loop.example/s01136/impl.holds" 202
 la:∀b,GT ty b "loop.example/s01136/impl.lacks" 203
 sp:∀b,GT ty b "loop.example/s01136/impl.spent" 206
theorem Uq:NQ 187 205:=⟨λb W=>by kernel_rfl,λb W=>by kernel_rfl,λb W=>by kernel_rfl,λb W=>by kernel_rfl,λb W=>by kernel_rfl,λb W=>by kernel_rfl⟩
theorem UF:NQ 190 214:=⟨λb W=>by kernel_rfl,λb W=>by kernel_rfl,λb W=>by kernel_rfl,λb W=>by kernel_rfl,λb W=>by kernel_rfl,λb W=>by kernel_rfl⟩
theorem Kn:NQ 205 225:=⟨λb W=>by kernel_rfl,λb W=>by kernel_rfl,λb W=>by kernel_rfl,λb W=>by kernel_rfl,λb W=>by kernel_rfl,λb W=>by kernel_rfl⟩
theorem UI:NQ 194 218:=⟨λb W=>by kernel_rfl,λb W=>by kernel_rfl,λb W=>by kernel_rfl,λb W=>by kernel_rfl,λb W=>by kernel_rfl,λb W=>by kernel_rfl⟩
theorem U2:NQ 197 220:=⟨λb W=>by kernel_rfl,λb W=>by kernel_rfl,λb W=>by kernel_rfl,λb W=>by kernel_rfl,λb W=>by kernel_rfl,λb W=>by kernel_rfl⟩
theorem T7:NQ 200 222:=⟨λb W=>by kernel_rfl,λb W=>by kernel_rfl,λb W=>by kernel_rfl,λb W=>by kernel_rfl,λb W=>by kernel_rfl,λb W=>by kernel_rfl⟩
theorem Qs:NQ 202 223:=⟨λb W=>by kernel_rfl,λb W=>by kernel_rfl,λb W=>by kernel_rfl,λb W=>by kernel_rfl,λb W=>by kernel_rfl,λb W=>by kernel_rfl⟩
def BT (W:World) (b:Nat):Nat:=match W.cell? (ad b 6) with
 | some (.int _ q)=>q.toNat
 | _=>0
def PJ:Value->Nat
 | .bool true=>1
 | _=>0
theorem FQ.told {W:World} {HB:Nat} {Y:Nat->Prop} {f:Fx} {rd:Int} {tl:Nat} {L:List Int} (h:FQ W HB Y f rd tl L):BT W f.ob=tl:=by obtain⟨⟨a,c,q1,_⟩,_⟩:=h;unfold BT;rw[q1.cells.2.2.2.2];simp
def BP (f g:Fx):Prop:=f.ob≠g.ob/\f.ob≠g.mb/\f.mb≠g.ob/\f.mb≠g.mb
def G7 (wr:World) (HB:Nat) (Y:Nat->Prop) (g:Fx) (rg:Int) (K:List Int) (j:Nat) (tm ok:Value):Prop:=
 (j<K.length/\tm=iv (gz K j)/\ok=.bool true/\FQ wr HB Y g rg (j+1) K)\/(j=K.length/\ok=.bool false/\FQ wr HB Y g rg j K)
theorem G7.fr {P:Nat->Prop} {w w' : World} {HB:Nat} {Y:Nat->Prop} {g:Fx} {rg:Int} {K:List Int} {j:Nat} {tm ok:Value} (h:G7 w HB Y g rg K j tm ok) (hf:Fr P w w') (h1:¬ P g.ob) (h2:¬ P g.mb) (h3:∀k,HB<=k->Y k->¬ P k):G7 w' HB Y g rg K j tm ok:=
 h.imp (λ⟨a,b,c,d⟩=>⟨a,b,c,d.fr hf h1 h2 h3⟩) (λ⟨a,b,c⟩=>⟨a,b,c.fr hf h1 h2 h3⟩)
def PN (Z:Nat->Prop) (f g:Fx) (k:Nat):Prop:=PF Z f k\/k=g.ob
theorem EJ (Z:Nat->Prop) (HB:Nat) (Y:Nat->Prop) (f g:Fx) (rd rg:Int) (tl:Nat) (L K:List Int) (ty:TypeId) (F:Nat) (w:World) (hm:GT ty g.ob "loop.example/s01136/impl.next" 204) (hf:Zf w Z f rd tl L) (hg:FQ w HB Y g rg 0 K) (ha:BP f g) (hB:∀k,w.heap.size<=k->Z k) (hHB:∀k,Z k->HB<=k) (hZY:∀k,Y k->¬ Z k) (hfo:f.ob<HB) (hfm:f.mb<HB) (hok:∀x,x∈K->C7 x) (hL:L.length<=300000) (hK:K.length<=300000) :
  WS 221 #[pt f.ob,.iface ty (pt g.ob)] w λe w'=>e=.returned (.tuple #[])/\Zf w' Z f rd tl (Bq L K)/\FQ w' HB Y g rg K.length K/\Fr (PN Z f g) w w':=by
 have HF:U (Zf w Z f rd tl L):=hf;have HG:=hid hg;have HAP:=hid (ai ha (ai hfo (ai hfm hok)));have hgo:=hg.ob;have hgm:=hg.mb;have hgn:=hg.ne;unfold GT at hm;obtain⟨fo,hfoe⟩:=gn f.ob;obtain⟨go,hgoe⟩:=gn g.ob;have HEO:=hid (ai hfoe hgoe);rw[<- hgoe] at hm;rw[<- hfoe,<- hgoe];clear hf hg ha hfo hfm hok hfoe hgoe;have HNX:U (∀(W:World) (tk:Nat),FQ W HB Y g rg tk K->tk<=K.length->WS 204 #[pt go] W λe w'=>∃tm ok,e=.returned (.tuple #[tm,ok])/\(G7 w' HB Y g rg K tk tm ok)/\(tm=iv (intOf tm))/\(ok=.bool true\/ok=.bool false)/\Fr (λk=>k=g.ob) W w'):=λW tk h1 h2=>by
  rw[HEO.o.2];refine (Es HB Y g rg tk K W h1 h2 (by omega)).mono ?_;rintro e w' (⟨e1,rfl,q1,q2⟩|⟨e1,rfl,q1,q2⟩);.exact⟨_,_,rfl,.inr ⟨e1,rfl,q1⟩,rfl,.inr rfl,Fr.ofBelow q2⟩
  .exact⟨_,_,rfl,.inl ⟨e1,rfl,rfl,q1⟩,rfl,.inl rfl,q2⟩
 go_enter Tryz.func221,Tryz.ntmps221;go_wp2_with fail
 refine (HNX.o w 0 HG.o (Ww _)).mono ?_;rintro e w1 ⟨tm,ok,rfl,hnx,htm,hok,hf1⟩;have S1:U (G7 w1 HB Y g rg K 0 tm ok/\Zf w1 Z f rd tl L/\Fr (PN Z f g) w w1):=⟨hnx,HF.o.fr hf1 HAP.o.1.1 HAP.o.1.2.2.1 (λk h1 h3=>by have:=hHB k h1;omega),hf1.mono (λi _ q=>.inr q)⟩;have S1b:=hid (ai htm hok);have hB1:=λk hk=>hB k (WC hf1.size hk);clear hnx hf1 htm hok;go_wp2;go_loopw [4,5] (λtm ok wr=>∃j:Nat,j<=K.length/\G7 wr HB Y g rg K j tm ok/\(tm=iv (intOf tm))/\(ok=.bool true\/ok=.bool false)/\Zf wr Z f rd tl (Bq L (K.take j))/\Fr (PN Z f g) w wr) (λ_ ok wr=>2*(K.length-BT wr g.ob)+PJ ok)
 case atStart=>exact⟨0,Ww _,S1.o.1,S1b.o.1,S1b.o.2,S1.o.2.1,S1.o.2.2⟩
 case round=>
  obtain⟨j,hj,hnx,htm,hok,hfs,hfr⟩:=hrel;obtain⟨M,hMe⟩:=gn (Bq L (K.take j));have hMl:M.length<=600000:=by rw[hMe];have:=Du (K.take j) L;have h2:=Wu (K.take j).length;rw[WI] at h2;rw[WI] at this;omega
  rw[<- hMe] at hfs;have HM:=hid hMe;have HR:=hid (ai hfs hfr);have hBr:=λk hk=>hB k (WC hfr.size hk);clear hfs hfr hMe S1 S1b;rcases hnx with ⟨hlt,rfl,rfl,hq⟩|⟨he,rfl,hq⟩
  .have HQ:=hid hq;have htd:=hq.told;clear hq hok htm;obtain⟨z,hz⟩:=gn (gz K j);have HZ:U (K.take (j+1)=K.take j++[z]/\C7 z):=by
    constructor;.rw[WK hlt,hz];unfold gz;rw[List.getD,Wx hlt];rfl
    .rw[hz];exact HAP.o.2.2.2 _ (IL hlt)
   rw[<- hz];clear hz;have HN2:U (Bq L (K.take (j+1))=AH M z):=by show _=_;rw[HZ.o.1,DV,HM.o]
   have HFD:U (WS 208 #[pt fo,iv z] wr λe w'=>e=.returned (.tuple #[])/\Zf w' Z f rd tl (AH M z)/\Fr (PF Z f) wr w'):=by rw[HEO.o.1];exact CJ Z f rd tl M z wr HR.o.1 HZ.o.2 (by omega) hBr
   go_wp2_with fail
   refine HFD.o.mono ?_;rintro e w2 ⟨rfl,hfs2,hfr2⟩;have R2:U (Zf w2 Z f rd tl (AH M z)/\Fr (PN Z f g) w w2/\FQ w2 HB Y g rg (j+1) K):=by
    refine⟨hfs2,HR.o.2.trans hfr2 (λ_ _ q=>q) (λi _ q=>.inl q),HQ.o.fr hfr2 ?_ ?_ (λk h1 h2 q=>?_)⟩
    .rintro (q|q|q);.exact HAP.o.1.1 q.symm
     .exact HAP.o.1.2.2.1 q.symm
     .have:=hHB _ q;omega
    .rintro (q|q|q);.exact HAP.o.1.2.1 q.symm
     .exact HAP.o.1.2.2.2 q.symm
     .have:=hHB _ q;omega
    .have:=HAP.o.2;rcases q with q|q|q;.omega
     .omega
     .exact hZY k h2 q
   clear hfs2 hfr2 HFD;go_wp2_with fail
   refine (HNX.o w2 (j+1) (R2.o.2.2) (by omega)).mono ?_;rintro e w3 ⟨tm,ok,rfl,hnx,htm,hok,hf3⟩;have R3:U (G7 w3 HB Y g rg K (j+1) tm ok/\(tm=iv (intOf tm))/\(ok=.bool true\/ok=.bool false)/\Zf w3 Z f rd tl (Bq L (K.take (j+1)))/\Fr (PN Z f g) w w3):=by refine⟨hnx,htm,hok,?_,(R2.o.2.1).trans hf3 (λ_ _ q=>q) (λi _ q=>.inr q)⟩;rw[HN2.o];exact (R2.o.1).fr hf3 HAP.o.1.1 HAP.o.1.2.2.1 (λk h1 h3=>by have:=hHB k h1;omega)
   have hms:2*(K.length-BT w3 g.ob)+PJ ok<2*(K.length-(j+1))+1:=by
    rcases hnx with ⟨a1,a2,rfl,a4⟩|⟨a1,rfl,a4⟩;.rw[a4.told];show 2*(K.length-(j+1+1))+1<_;omega
    .rw[a4.told];show 2*(K.length-(j+1))+0<_;omega
   clear hnx htm hok hf3;go_wp2;go_roundw;case rel=>exact⟨j+1,by omega,R3.o.1,R3.o.2.1,R3.o.2.2.1,R3.o.2.2.2.1,R3.o.2.2.2.2⟩
   case measure=>rw[htd];exact hms
  .have HF2:U (Zf wr Z f rd tl (Bq L K)/\FQ wr HB Y g rg K.length K/\Fr (PN Z f g) w wr):=by rw[he] at hq;refine⟨?_,hq,HR.o.2⟩;rw[show Bq L K=M by rw[HM.o,he,WG]];exact HR.o.1
   clear hq hok htm HM HR he;go_wp2;go_end0
   exact⟨rfl,HF2.o⟩
theorem LH (Z:Nat->Prop) (HB:Nat) (Y:Nat->Prop) (f g:Fx) (rd rg:Int) (tl:Nat) (L K:List Int) (ty:TypeId) (F:Nat) (w:World) (hm:GT ty g.ob "loop.example/s01136/impl.next" 204) (hf:Zf w Z f rd tl L) (hg:FQ w HB Y g rg 0 K) (ha:BP f g) (hB:∀k,w.heap.size<=k->Z k) (hHB:∀k,Z k->HB<=k) (hZY:∀k,Y k->¬ Z k) (hfo:f.ob<HB) (hfm:f.mb<HB) (hok:∀x,x∈K->C7 x) (hL:L.length<=300000) (hK:K.length<=300000) (Y2:Nat->Prop) (ty2:TypeId) (h:Fx) (rh:Int) (th:Nat) (N:List Int) (hm2:GT ty2 h.ob "loop.example/s01136/impl.holds" 202) (hh:FQ w HB Y2 h rh th N) (hfh:BP f h) (hgh:g.ob≠h.ob/\g.ob≠h.mb) (hZY2:∀k,Y2 k->¬ Z k) :
  WS 219 #[pt f.ob,.iface ty (pt g.ob),.func (.method "loop.example/s01136/impl.holds") #[.iface ty2 (pt h.ob)] #[]] w λe w'=>e=.returned (.tuple #[])/\Zf w' Z f rd tl (Bq L (K.filter (λx=>N.contains x)))/\FQ w' HB Y g rg K.length K/\Fr (PN Z f g) w w':=by
 have HF:U (Zf w Z f rd tl L):=hf;have HG:=hid hg;have HAP:=hid (ai ha (ai hfo (ai hfm hok)));have hgo:=hg.ob;have hgm:=hg.mb;have hgn:=hg.ne;unfold GT at hm;unfold GT at hm2;have HH:=hid (ai hh (ai hfh hgh));clear hh hfh hgh;obtain⟨fo,hfoe⟩:=gn f.ob;obtain⟨go,hgoe⟩:=gn g.ob;have HEO:=hid (ai hfoe hgoe);rw[<- hgoe] at hm;rw[<- hfoe,<- hgoe];obtain⟨ho,hhoe⟩:=gn h.ob;have HEH:=hid hhoe;rw[<- hhoe] at hm2 ⊢;clear hhoe;clear hf hg ha hfo hfm hok hfoe hgoe;have HNX:U (∀(W:World) (tk:Nat),FQ W HB Y g rg tk K->tk<=K.length->WS 204 #[pt go] W λe w'=>∃tm ok,e=.returned (.tuple #[tm,ok])/\(G7 w' HB Y g rg K tk tm ok)/\(tm=iv (intOf tm))/\(ok=.bool true\/ok=.bool false)/\Fr (λk=>k=g.ob) W w'):=λW tk h1 h2=>by
  rw[HEO.o.2];refine (Es HB Y g rg tk K W h1 h2 (by omega)).mono ?_;rintro e w' (⟨e1,rfl,q1,q2⟩|⟨e1,rfl,q1,q2⟩);.exact⟨_,_,rfl,.inr ⟨e1,rfl,q1⟩,rfl,.inr rfl,Fr.ofBelow q2⟩
  .exact⟨_,_,rfl,.inl ⟨e1,rfl,rfl,q1⟩,rfl,.inl rfl,q2⟩
 go_enter Tryz.func219,Tryz.ntmps219;go_wp2_with fail
 refine (HNX.o w 0 HG.o (Ww _)).mono ?_;rintro e w1 ⟨tm,ok,rfl,hnx,htm,hok,hf1⟩;have S1:U (G7 w1 HB Y g rg K 0 tm ok/\Zf w1 Z f rd tl L/\Fr (PN Z f g) w w1):=⟨hnx,HF.o.fr hf1 HAP.o.1.1 HAP.o.1.2.2.1 (λk h1 h3=>by have:=hHB k h1;omega),hf1.mono (λi _ q=>.inr q)⟩;have S1b:=hid (ai htm hok);have hB1:=λk hk=>hB k (WC hf1.size hk);clear hnx hf1 htm hok;go_wp2;go_loopw [6,7] (λtm ok wr=>∃j:Nat,j<=K.length/\G7 wr HB Y g rg K j tm ok/\(tm=iv (intOf tm))/\(ok=.bool true\/ok=.bool false)/\Zf wr Z f rd tl (Bq L ((K.take j).filter (λx=>N.contains x)))/\Fr (PN Z f g) w wr) (λ_ ok wr=>2*(K.length-BT wr g.ob)+PJ ok)
 case atStart=>exact⟨0,Ww _,S1.o.1,S1b.o.1,S1b.o.2,S1.o.2.1,S1.o.2.2⟩
 case round=>
  obtain⟨j,hj,hnx,htm,hok,hfs,hfr⟩:=hrel;obtain⟨M,hMe⟩:=gn (Bq L ((K.take j).filter (λx=>N.contains x)));have hMl:M.length<=600000:=by rw[hMe];have:=Du ((K.take j).filter (λx=>N.contains x)) L;have h2:=List.length_filter_le (λx=>N.contains x) (K.take j);rw[WI] at h2;omega
  rw[<- hMe] at hfs;have HM:=hid hMe;have HR:=hid (ai hfs hfr);have hBr:=λk hk=>hB k (WC hfr.size hk);clear hfs hfr hMe S1 S1b;rcases hnx with ⟨hlt,rfl,rfl,hq⟩|⟨he,rfl,hq⟩
  .have HQ:=hid hq;have htd:=hq.told;clear hq hok htm;obtain⟨z,hz⟩:=gn (gz K j);have HZ:U (K.take (j+1)=K.take j++[z]/\C7 z):=by
    constructor;.rw[WK hlt,hz];unfold gz;rw[List.getD,Wx hlt];rfl
    .rw[hz];exact HAP.o.2.2.2 _ (IL hlt)
   rw[<- hz];clear hz;have HTS:U (WS 202 #[pt ho,iv z] wr λe w'=>∃b:Bool,e=.returned (.bool b)/\(b=N.contains z)/\Bl wr w'):=by
    rw[HEH.o];have hq2:=HH.o.1.fr HR.o.2 ?_ ?_ (λk h1 h2 q=>?_);.refine (Kd HB Y2 h rh th N z wr hq2 HZ.o.2).mono ?_;rintro e w' ⟨b,rfl,hb,hbel⟩;refine⟨b,rfl,?_,hbel⟩;rw[Bool.eq_iff_iff,hb];simp
    .have:=HH.o;rintro ((q|q|q)|q);.exact this.2.1.1 q.symm
     .exact this.2.1.2.2.1 q.symm
     .have:=this.1.ob;have:=hHB _ q;omega
     .exact this.2.2.1 q.symm
    .have:=HH.o;rintro ((q|q|q)|q);.exact this.2.1.2.1 q.symm
     .exact this.2.1.2.2.2 q.symm
     .have:=this.1.mb;have:=hHB _ q;omega
     .exact this.2.2.2 q.symm
    .have:=HAP.o.2;rcases q with (q|q|q)|q;.omega
     .omega
     .exact hZY2 k h2 q
     .omega
   go_wp2_with fail
   refine HTS.o.mono ?_;rintro e w5 ⟨b,rfl,hbx,hb5⟩;have R5:=hid (ai (HR.o.1.below hb5) (ai (HR.o.2.trans (Fr.ofBelow (P:=PN Z f g) hb5) (λ_ _ q=>q) (λ_ _ q=>q)) (HQ.o.below hb5)));have hB5:=λk hk=>hBr k (WC hb5.size hk);clear hb5 HTS;cases b with
   | true=>
    have HN2:U (Bq L ((K.take (j+1)).filter (λx=>N.contains x))=AH M z):=by show _=_;rw[HZ.o.1,List.filter_append,List.filter_cons_of_pos (p:=λx=>N.contains x) hbx.symm,List.filter_nil,DV,HM.o]
    clear hbx;have HFD:U (WS 208 #[pt fo,iv z] w5 λe w'=>e=.returned (.tuple #[])/\Zf w' Z f rd tl (AH M z)/\Fr (PF Z f) w5 w'):=by rw[HEO.o.1];exact CJ Z f rd tl M z w5 R5.o.1 HZ.o.2 (by omega) hB5
    go_wp2_with fail
    refine HFD.o.mono ?_;rintro e w2 ⟨rfl,hfs2,hfr2⟩;have R2:U (Zf w2 Z f rd tl (AH M z)/\Fr (PN Z f g) w w2/\FQ w2 HB Y g rg (j+1) K):=by
     refine⟨hfs2,R5.o.2.1.trans hfr2 (λ_ _ q=>q) (λi _ q=>.inl q),R5.o.2.2.fr hfr2 ?_ ?_ (λk h1 h2 q=>?_)⟩
     .rintro (q|q|q);.exact HAP.o.1.1 q.symm
      .exact HAP.o.1.2.2.1 q.symm
      .have:=hHB _ q;omega
     .rintro (q|q|q);.exact HAP.o.1.2.1 q.symm
      .exact HAP.o.1.2.2.2 q.symm
      .have:=hHB _ q;omega
     .have:=HAP.o.2;rcases q with q|q|q;.omega
      .omega
      .exact hZY k h2 q
    clear hfs2 hfr2 HFD;go_wp2_with fail
    refine (HNX.o w2 (j+1) (R2.o.2.2) (by omega)).mono ?_;rintro e w3 ⟨tm,ok,rfl,hnx,htm,hok,hf3⟩;have R3:U (G7 w3 HB Y g rg K (j+1) tm ok/\(tm=iv (intOf tm))/\(ok=.bool true\/ok=.bool false)/\Zf w3 Z f rd tl (Bq L ((K.take (j+1)).filter (λx=>N.contains x)))/\Fr (PN Z f g) w w3):=by refine⟨hnx,htm,hok,?_,(R2.o.2.1).trans hf3 (λ_ _ q=>q) (λi _ q=>.inr q)⟩;rw[HN2.o];exact (R2.o.1).fr hf3 HAP.o.1.1 HAP.o.1.2.2.1 (λk h1 h3=>by have:=hHB k h1;omega)
    have hms:2*(K.length-BT w3 g.ob)+PJ ok<2*(K.length-(j+1))+1:=by
     rcases hnx with ⟨a1,a2,rfl,a4⟩|⟨a1,rfl,a4⟩;.rw[a4.told];show 2*(K.length-(j+1+1))+1<_;omega
     .rw[a4.told];show 2*(K.length-(j+1))+0<_;omega
    clear hnx htm hok hf3;go_wp2;go_roundw;case rel=>exact⟨j+1,by omega,R3.o.1,R3.o.2.1,R3.o.2.2.1,R3.o.2.2.2.1,R3.o.2.2.2.2⟩
    case measure=>rw[htd];exact hms
   | false=>
    have HN2:U (Bq L ((K.take (j+1)).filter (λx=>N.contains x))=M):=by show _=_;rw[HZ.o.1,List.filter_append,List.filter_cons_of_neg (p:=λx=>N.contains x) (by rw[<- hbx];simp),List.filter_nil,List.append_nil,HM.o]
    clear hbx;go_wp2_with fail
    refine (HNX.o w5 (j+1) (R5.o.2.2) (by omega)).mono ?_;rintro e w3 ⟨tm,ok,rfl,hnx,htm,hok,hf3⟩;have R3:U (G7 w3 HB Y g rg K (j+1) tm ok/\(tm=iv (intOf tm))/\(ok=.bool true\/ok=.bool false)/\Zf w3 Z f rd tl (Bq L ((K.take (j+1)).filter (λx=>N.contains x)))/\Fr (PN Z f g) w w3):=by refine⟨hnx,htm,hok,?_,(R5.o.2.1).trans hf3 (λ_ _ q=>q) (λi _ q=>.inr q)⟩;rw[HN2.o];exact (R5.o.1).fr hf3 HAP.o.1.1 HAP.o.1.2.2.1 (λk h1 h3=>by have:=hHB k h1;omega)
    have hms:2*(K.length-BT w3 g.ob)+PJ ok<2*(K.length-(j+1))+1:=by
     rcases hnx with ⟨a1,a2,rfl,a4⟩|⟨a1,rfl,a4⟩;.rw[a4.told];show 2*(K.length-(j+1+1))+1<_;omega
     .rw[a4.told];show 2*(K.length-(j+1))+0<_;omega
    clear hnx htm hok hf3;go_wp2;go_roundw;case rel=>exact⟨j+1,by omega,R3.o.1,R3.o.2.1,R3.o.2.2.1,R3.o.2.2.2.1,R3.o.2.2.2.2⟩
    case measure=>rw[htd];exact hms
  .have HF2:U (Zf wr Z f rd tl (Bq L (K.filter (λx=>N.contains x)))/\FQ wr HB Y g rg K.length K/\Fr (PN Z f g) w wr):=by rw[he] at hq;refine⟨?_,hq,HR.o.2⟩;rw[show Bq L (K.filter (λx=>N.contains x))=M by rw[HM.o,he,WG]];exact HR.o.1
   clear hq hok htm HM HR he;go_wp2;go_end0
   exact⟨rfl,HF2.o⟩
theorem LU (Z:Nat->Prop) (HB:Nat) (Y:Nat->Prop) (f g:Fx) (rd rg:Int) (tl:Nat) (L K:List Int) (ty:TypeId) (F:Nat) (w:World) (hm:GT ty g.ob "loop.example/s01136/impl.next" 204) (hf:Zf w Z f rd tl L) (hg:FQ w HB Y g rg 0 K) (ha:BP f g) (hB:∀k,w.heap.size<=k->Z k) (hHB:∀k,Z k->HB<=k) (hZY:∀k,Y k->¬ Z k) (hfo:f.ob<HB) (hfm:f.mb<HB) (hok:∀x,x∈K->C7 x) (hL:L.length<=300000) (hK:K.length<=300000) (Y2:Nat->Prop) (ty2:TypeId) (h:Fx) (rh:Int) (th:Nat) (N:List Int) (hm2:GT ty2 h.ob "loop.example/s01136/impl.lacks" 203) (hh:FQ w HB Y2 h rh th N) (hfh:BP f h) (hgh:g.ob≠h.ob/\g.ob≠h.mb) (hZY2:∀k,Y2 k->¬ Z k) :
  WS 219 #[pt f.ob,.iface ty (pt g.ob),.func (.method "loop.example/s01136/impl.lacks") #[.iface ty2 (pt h.ob)] #[]] w λe w'=>e=.returned (.tuple #[])/\Zf w' Z f rd tl (Bq L (K.filter (λx=>!N.contains x)))/\FQ w' HB Y g rg K.length K/\Fr (PN Z f g) w w':=by
 have HF:U (Zf w Z f rd tl L):=hf;have HG:=hid hg;have HAP:=hid (ai ha (ai hfo (ai hfm hok)));have hgo:=hg.ob;have hgm:=hg.mb;have hgn:=hg.ne;unfold GT at hm;unfold GT at hm2;have HH:=hid (ai hh (ai hfh hgh));clear hh hfh hgh;obtain⟨fo,hfoe⟩:=gn f.ob;obtain⟨go,hgoe⟩:=gn g.ob;have HEO:=hid (ai hfoe hgoe);rw[<- hgoe] at hm;rw[<- hfoe,<- hgoe];obtain⟨ho,hhoe⟩:=gn h.ob;have HEH:=hid hhoe;rw[<- hhoe] at hm2 ⊢;clear hhoe;clear hf hg ha hfo hfm hok hfoe hgoe;have HNX:U (∀(W:World) (tk:Nat),FQ W HB Y g rg tk K->tk<=K.length->WS 204 #[pt go] W λe w'=>∃tm ok,e=.returned (.tuple #[tm,ok])/\(G7 w' HB Y g rg K tk tm ok)/\(tm=iv (intOf tm))/\(ok=.bool true\/ok=.bool false)/\Fr (λk=>k=g.ob) W w'):=λW tk h1 h2=>by
  rw[HEO.o.2];refine (Es HB Y g rg tk K W h1 h2 (by omega)).mono ?_;rintro e w' (⟨e1,rfl,q1,q2⟩|⟨e1,rfl,q1,q2⟩);.exact⟨_,_,rfl,.inr ⟨e1,rfl,q1⟩,rfl,.inr rfl,Fr.ofBelow q2⟩
  .exact⟨_,_,rfl,.inl ⟨e1,rfl,rfl,q1⟩,rfl,.inl rfl,q2⟩
 go_enter Tryz.func219,Tryz.ntmps219;go_wp2_with fail
 refine (HNX.o w 0 HG.o (Ww _)).mono ?_;rintro e w1 ⟨tm,ok,rfl,hnx,htm,hok,hf1⟩;have S1:U (G7 w1 HB Y g rg K 0 tm ok/\Zf w1 Z f rd tl L/\Fr (PN Z f g) w w1):=⟨hnx,HF.o.fr hf1 HAP.o.1.1 HAP.o.1.2.2.1 (λk h1 h3=>by have:=hHB k h1;omega),hf1.mono (λi _ q=>.inr q)⟩;have S1b:=hid (ai htm hok);have hB1:=λk hk=>hB k (WC hf1.size hk);clear hnx hf1 htm hok;go_wp2;go_loopw [6,7] (λtm ok wr=>∃j:Nat,j<=K.length/\G7 wr HB Y g rg K j tm ok/\(tm=iv (intOf tm))/\(ok=.bool true\/ok=.bool false)/\Zf wr Z f rd tl (Bq L ((K.take j).filter (λx=>!N.contains x)))/\Fr (PN Z f g) w wr) (λ_ ok wr=>2*(K.length-BT wr g.ob)+PJ ok)
 case atStart=>exact⟨0,Ww _,S1.o.1,S1b.o.1,S1b.o.2,S1.o.2.1,S1.o.2.2⟩
 case round=>
  obtain⟨j,hj,hnx,htm,hok,hfs,hfr⟩:=hrel;obtain⟨M,hMe⟩:=gn (Bq L ((K.take j).filter (λx=>!N.contains x)));have hMl:M.length<=600000:=by rw[hMe];have:=Du ((K.take j).filter (λx=>!N.contains x)) L;have h2:=List.length_filter_le (λx=>!N.contains x) (K.take j);rw[WI] at h2;omega
  rw[<- hMe] at hfs;have HM:=hid hMe;have HR:=hid (ai hfs hfr);have hBr:=λk hk=>hB k (WC hfr.size hk);clear hfs hfr hMe S1 S1b;rcases hnx with ⟨hlt,rfl,rfl,hq⟩|⟨he,rfl,hq⟩
  .have HQ:=hid hq;have htd:=hq.told;clear hq hok htm;obtain⟨z,hz⟩:=gn (gz K j);have HZ:U (K.take (j+1)=K.take j++[z]/\C7 z):=by
    constructor;.rw[WK hlt,hz];unfold gz;rw[List.getD,Wx hlt];rfl
    .rw[hz];exact HAP.o.2.2.2 _ (IL hlt)
   rw[<- hz];clear hz;have HTS:U (WS 203 #[pt ho,iv z] wr λe w'=>∃b:Bool,e=.returned (.bool b)/\(b=!N.contains z)/\Bl wr w'):=by
    rw[HEH.o];have hq2:=HH.o.1.fr HR.o.2 ?_ ?_ (λk h1 h2 q=>?_);.refine (OC HB Y2 h rh th N z wr hq2 HZ.o.2).mono ?_;rintro e w' ⟨b,rfl,hb,hbel⟩;refine⟨b,rfl,?_,hbel⟩;rw[Bool.eq_iff_iff,hb];simp
    .have:=HH.o;rintro ((q|q|q)|q);.exact this.2.1.1 q.symm
     .exact this.2.1.2.2.1 q.symm
     .have:=this.1.ob;have:=hHB _ q;omega
     .exact this.2.2.1 q.symm
    .have:=HH.o;rintro ((q|q|q)|q);.exact this.2.1.2.1 q.symm
     .exact this.2.1.2.2.2 q.symm
     .have:=this.1.mb;have:=hHB _ q;omega
     .exact this.2.2.2 q.symm
    .have:=HAP.o.2;rcases q with (q|q|q)|q;.omega
     .omega
     .exact hZY2 k h2 q
     .omega
   go_wp2_with fail
   refine HTS.o.mono ?_;rintro e w5 ⟨b,rfl,hbx,hb5⟩;have R5:=hid (ai (HR.o.1.below hb5) (ai (HR.o.2.trans (Fr.ofBelow (P:=PN Z f g) hb5) (λ_ _ q=>q) (λ_ _ q=>q)) (HQ.o.below hb5)));have hB5:=λk hk=>hBr k (WC hb5.size hk);clear hb5 HTS;cases b with
   | true=>
    have HN2:U (Bq L ((K.take (j+1)).filter (λx=>!N.contains x))=AH M z):=by show _=_;rw[HZ.o.1,List.filter_append,List.filter_cons_of_pos (p:=λx=>!N.contains x) hbx.symm,List.filter_nil,DV,HM.o]
    clear hbx;have HFD:U (WS 208 #[pt fo,iv z] w5 λe w'=>e=.returned (.tuple #[])/\Zf w' Z f rd tl (AH M z)/\Fr (PF Z f) w5 w'):=by rw[HEO.o.1];exact CJ Z f rd tl M z w5 R5.o.1 HZ.o.2 (by omega) hB5
    go_wp2_with fail
    refine HFD.o.mono ?_;rintro e w2 ⟨rfl,hfs2,hfr2⟩;have R2:U (Zf w2 Z f rd tl (AH M z)/\Fr (PN Z f g) w w2/\FQ w2 HB Y g rg (j+1) K):=by
     refine⟨hfs2,R5.o.2.1.trans hfr2 (λ_ _ q=>q) (λi _ q=>.inl q),R5.o.2.2.fr hfr2 ?_ ?_ (λk h1 h2 q=>?_)⟩
     .rintro (q|q|q);.exact HAP.o.1.1 q.symm
      .exact HAP.o.1.2.2.1 q.symm
      .have:=hHB _ q;omega
     .rintro (q|q|q);.exact HAP.o.1.2.1 q.symm
      .exact HAP.o.1.2.2.2 q.symm
      .have:=hHB _ q;omega
     .have:=HAP.o.2;rcases q with q|q|q;.omega
      .omega
      .exact hZY k h2 q
    clear hfs2 hfr2 HFD;go_wp2_with fail
    refine (HNX.o w2 (j+1) (R2.o.2.2) (by omega)).mono ?_;rintro e w3 ⟨tm,ok,rfl,hnx,htm,hok,hf3⟩;have R3:U (G7 w3 HB Y g rg K (j+1) tm ok/\(tm=iv (intOf tm))/\(ok=.bool true\/ok=.bool false)/\Zf w3 Z f rd tl (Bq L ((K.take (j+1)).filter (λx=>!N.contains x)))/\Fr (PN Z f g) w w3):=by refine⟨hnx,htm,hok,?_,(R2.o.2.1).trans hf3 (λ_ _ q=>q) (λi _ q=>.inr q)⟩;rw[HN2.o];exact (R2.o.1).fr hf3 HAP.o.1.1 HAP.o.1.2.2.1 (λk h1 h3=>by have:=hHB k h1;omega)
    have hms:2*(K.length-BT w3 g.ob)+PJ ok<2*(K.length-(j+1))+1:=by
     rcases hnx with ⟨a1,a2,rfl,a4⟩|⟨a1,rfl,a4⟩;.rw[a4.told];show 2*(K.length-(j+1+1))+1<_;omega
     .rw[a4.told];show 2*(K.length-(j+1))+0<_;omega
    clear hnx htm hok hf3;go_wp2;go_roundw;case rel=>exact⟨j+1,by omega,R3.o.1,R3.o.2.1,R3.o.2.2.1,R3.o.2.2.2.1,R3.o.2.2.2.2⟩
    case measure=>rw[htd];exact hms
   | false=>
    have HN2:U (Bq L ((K.take (j+1)).filter (λx=>!N.contains x))=M):=by show _=_;rw[HZ.o.1,List.filter_append,List.filter_cons_of_neg (p:=λx=>!N.contains x) (by rw[<- hbx];simp),List.filter_nil,List.append_nil,HM.o]
    clear hbx;go_wp2_with fail
    refine (HNX.o w5 (j+1) (R5.o.2.2) (by omega)).mono ?_;rintro e w3 ⟨tm,ok,rfl,hnx,htm,hok,hf3⟩;have R3:U (G7 w3 HB Y g rg K (j+1) tm ok/\(tm=iv (intOf tm))/\(ok=.bool true\/ok=.bool false)/\Zf w3 Z f rd tl (Bq L ((K.take (j+1)).filter (λx=>!N.contains x)))/\Fr (PN Z f g) w w3):=by refine⟨hnx,htm,hok,?_,(R5.o.2.1).trans hf3 (λ_ _ q=>q) (λi _ q=>.inr q)⟩;rw[HN2.o];exact (R5.o.1).fr hf3 HAP.o.1.1 HAP.o.1.2.2.1 (λk h1 h3=>by have:=hHB k h1;omega)
    have hms:2*(K.length-BT w3 g.ob)+PJ ok<2*(K.length-(j+1))+1:=by
     rcases hnx with ⟨a1,a2,rfl,a4⟩|⟨a1,rfl,a4⟩;.rw[a4.told];show 2*(K.length-(j+1+1))+1<_;omega
     .rw[a4.told];show 2*(K.length-(j+1))+0<_;omega
    clear hnx htm hok hf3;go_wp2;go_roundw;case rel=>exact⟨j+1,by omega,R3.o.1,R3.o.2.1,R3.o.2.2.1,R3.o.2.2.2.1,R3.o.2.2.2.2⟩
    case measure=>rw[htd];exact hms
  .have HF2:U (Zf wr Z f rd tl (Bq L (K.filter (λx=>!N.contains x)))/\FQ wr HB Y g rg K.length K/\Fr (PN Z f g) w wr):=by rw[he] at hq;refine⟨?_,hq,HR.o.2⟩;rw[show Bq L (K.filter (λx=>!N.contains x))=M by rw[HM.o,he,WG]];exact HR.o.1
   clear hq hok htm HM HR he;go_wp2;go_end0
   exact⟨rfl,HF2.o⟩
def Fj (Q:List Qd) (lab:Int) (nt:Bool) (p:Qd):List Qd:=if nt=true then [] else Q.filter (λq=>BN q ⟨p.s,p.p,p.o,lab⟩)
theorem FR (Q:List Qd) (lab:Int) (nt:Bool) (p:Qd):(Fj Q lab nt p).length<=Q.length:=by
 unfold Fj;split;.exact Ww _
 .exact List.length_filter_le _ _
theorem JN (xb:Nat) (Q:List Qd) (lab:Int) (nt:Bool) (j:Nat) (p:Qd) (w:World) (hX:Hz w xb Q) (hp:nt=false->j<6/\BC (A8 j ⟨p.s,p.p,p.o,lab⟩) 4) :
  WS 209 #[.agg #[pt xb,iv lab,.bool nt],iv (j:Int),qv p] w λe w'=>∃a c L,e=.returned (.slice a L.length c)/\BW w' a L/\L.Perm (Fj Q lab nt p)/\Bl w w'/\∀g,(Value.slice a L.length c).ownBlock=some g->w.heap.size<=g/\g<w'.heap.size:=by
 have HX:=hid hX;clear hX;unfold qv;cases nt with
 | true=>have HB:U (∀O1 O2,Bl w ((w.alloc O1).alloc O2)):=λ_ _=>(Aa _ _).alloc (by simp) _;go_enter Tryz.func209,Tryz.ntmps209;go_wp2;go_ret;exact⟨none,0,[],rfl,Or.inl rfl,List.Perm.refl _,HB.o _ _,λg e=>by cases e⟩
 | false=>
 obtain⟨hj6,hok⟩:=hp rfl;clear hp;have HCT:=hid (λW hW=>HX.o.2.1 W j ⟨p.s,p.p,p.o,lab⟩ hW hj6 hok);have hji:(j:Int)<6:=by omega
 have hj0:(0:Int)<=(j:Int):=by omega
 clear hok HX;obtain⟨W9,hW9⟩:=gn ((w.alloc (.cells #[pt xb,iv lab,.bool false] 181)).alloc (.cells #[iv p.s,iv p.p,iv p.o,iv lab] 140));have S9:U (Bx W9 w.heap.size 181 #[pt xb,iv lab,.bool false]/\Bx W9 (w.heap.size+1) 140 #[iv p.s,iv p.p,iv p.o,iv lab]/\Bl w W9):=by rw[hW9];have b2:=Bx.new (w.alloc (.cells #[pt xb,iv lab,.bool false] 181)) #[iv p.s,iv p.p,iv p.o,iv lab] 140;simp only[WJ] at b2;exact⟨(Bx.new w _ 181).alloc _,b2,(Aa _ _).alloc (by simp) _⟩
 have HC:U (∀W,Bl W9 W->W.cell? (ad w.heap.size 0)=some (pt xb)/\W.cell? (ad (w.heap.size+1) 0)=some (iv p.s)/\W.cell? (ad (w.heap.size+1) 1)=some (iv p.p)/\W.cell? (ad (w.heap.size+1) 2)=some (iv p.o)/\W.cell? (ad (w.heap.size+1) 3)=some (iv lab)):=λW hb=>by have q:=(hb.block _ S9.o.2.1.lt).trans S9.o.2.1;exact⟨Bx.cell ((hb.block _ S9.o.1.lt).trans S9.o.1) 0,Bx.cell q 0,Bx.cell q 1,Bx.cell q 2,Bx.cell q 3⟩
 go_enter Tryz.func209,Tryz.ntmps209;go_upto_region 4 with fail
 rw[<- hW9];clear hW9;refine Ac (S:=λW=>Bl W9 W) 7 (by kernel_rfl) (Wt _ _).drew (λW hHeld=>?_);refine tx 0 rfl ?_;refine ty 1 rfl (λw' h=>by obtain⟨q0,q1,q2,q3,q4⟩:=HC.o _ h;clear h;go_simp;rfl) ?_;refine tx 2 rfl ?_;refine tx 3 rfl ?_;refine tx 4 rfl ?_;refine ty 5 rfl (λw' h=>by obtain⟨q0,q1,q2,q3,q4⟩:=HC.o _ h;clear h;go_simp;rfl) ?_;refine AB 6 rfl (λK hK=>?_);refine AF rfl 211 16 17 _ rfl (.pointer (some (ad xb (j*2)))) (.agg #[iv p.s,iv p.p,iv p.o,iv lab]) rfl rfl (λ_ _=>rfl) ?_;refine (HCT.o W (S9.o.2.2.trans (hHeld.mono S9.o.2.2.size))).mono ?_;rintro e w6 ⟨a6,c6,L6,rfl,hr6,hp6,hbm,hg6⟩;have hb6:=hHeld.trans (hbm.mono hHeld.size);refine⟨_,rfl,hK.out _ _ (λ_=>hb6) (λhG=>?_)⟩;have HF:U (BW w6 a6 L6/\L6.Perm (Fj Q lab false p)/\Bl w w6/\∀g,(Value.slice a6 L6.length c6).ownBlock=some g->w.heap.size<=g/\g<w6.heap.size):=⟨hr6,hp6,S9.o.2.2.trans (hb6.mono S9.o.2.2.size),λg e=>⟨WC (WC S9.o.2.2.size hHeld.size) (hg6 g e).1,(hg6 g e).2⟩⟩;clear hK K hG hbm hr6 hp6 hg6;simp only[As];refine AB 7 rfl (λK hK=>?_);go_simp;refine hK.out _ _ (λhne=>absurd rfl hne) (λhG=>?_);clear hK K hG;refine Ae (by kernel_rfl) ?_ _;go_wp2;go_ret;exact⟨a6,c6,L6,rfl,HF.o⟩
def Zr (Z:Nat->Prop) (n m k:Nat):Prop:=(k<n/\Z k)\/m<=k
theorem Zf.re {w:World} {Z:Nat->Prop} {f:Fx} {rd:Int} {tl:Nat} {L:List Int} (h:Zf w Z f rd tl L) (n m:Nat) (hn:∀v,FB w f rd v tl->∀g,v.ownBlock=some g->g<n) (ho:f.ob<m) (hm:f.mb<m):Zf w (Zr Z n m) f rd tl L:=by obtain⟨⟨v,q1,q2,q7⟩,q3,q4,q5,q6⟩:=h;exact⟨⟨v,q1,q2,λg e=>.inl ⟨hn v q1 g e,q7 g e⟩⟩,q3,λq=>q.elim (λq=>q4 q.2) (λq=>by omega),λq=>q.elim (λq=>q5 q.2) (λq=>by omega),q6⟩
theorem Gs (Z:Nat->Prop) (f:Fx) (rd tl:Nat) (L:List Int) (Q:List Qd) (j:Nat) (p:Qd) (w:World) (h:Zf w Z f (rd:Int) tl L) (hX:Hz w f.xb Q) (hp:f.nt=false->j<6/\BC (A8 j ⟨p.s,p.p,p.o,f.lab⟩) 4) (hrd:rd<=1000000000000) (hQ:Q.length<=300) :
  WS 207 #[pt f.ob,iv (j:Int),qv p] w λe w'=>∃a c qs,e=.returned (.slice a qs.length c)/\BW w' a qs/\qs.Perm (Fj Q f.lab f.nt p)/\Zf w' (Zr Z w.heap.size w'.heap.size) f ((rd+qs.length:Nat):Int) tl L/\Fr (λk=>k=f.ob) w w'/\∀g,(Value.slice a qs.length c).ownBlock=some g->w.heap.size<=g/\g<w'.heap.size:=by
 have HS:U (Zf w Z f (rd:Int) tl L):=h;obtain⟨⟨v,hb,hr,hz⟩,hset,ho,hm,hne⟩:=h;obtain⟨ob,hob⟩:=gn f.ob;obtain⟨xb,hxb⟩:=gn f.xb;obtain⟨lab,hlab⟩:=gn f.lab;obtain⟨nt,hnt⟩:=gn f.nt;have HE:=hid (ai hob (ai (Bx.lt hb) hset.lt));have HSC:U (∀W,Bl w W->WS 209 #[.agg #[pt xb,iv lab,.bool nt],iv (j:Int),.agg #[iv p.s,iv p.p,iv p.o,iv p.g]] W λe w'=>∃a c L,e=.returned (.slice a L.length c)/\BW w' a L/\L.Perm (Fj Q f.lab f.nt p)/\Bl W w'/\∀g,(Value.slice a L.length c).ownBlock=some g->W.heap.size<=g/\g<w'.heap.size):=λW hW=>by rw[hxb,hlab,hnt];exact JN f.xb Q f.lab f.nt j p W (hX.below hW) hp
 have HFB:=hid (ai hb (ai hr hz));have HCF:U (∀W,Bl w W->(W.cell? (ad ob 0)=some (pt xb)/\W.cell? (ad ob 1)=some (iv lab)/\W.cell? (ad ob 2)=some (.bool nt))/\W.cell? (ad ob 3)=some (iv (rd:Int))/\W.cell? (ad ob 4)=some v/\W.cell? (ad ob 5)=some (.map (some f.mb))/\W.cell? (ad ob 6)=some (iv (tl:Int))):=λW hW=>by rw[hob,hxb,hlab,hnt];exact (hb.fr (P:=λ_=>False) (Fr.ofBelow hW) (λq=>q)).cells
 rw[<- hob];clear hb hr hz hset ho hm hne hX hp hob hxb hlab hnt;unfold qv;obtain⟨W9,hW9⟩:=gn (w.alloc (.cells #[iv p.s,iv p.p,iv p.o,iv p.g] 140));have S9:U (Bx W9 w.heap.size 140 #[iv p.s,iv p.p,iv p.o,iv p.g]/\Bl w W9):=by rw[hW9];exact⟨Bx.new _ _ _,Aa _ _⟩
 have HCQ:U (∀W,Bl W9 W->W.cell? (ad w.heap.size 0)=some (iv p.s)/\W.cell? (ad w.heap.size 1)=some (iv p.p)/\W.cell? (ad w.heap.size 2)=some (iv p.o)/\W.cell? (ad w.heap.size 3)=some (iv p.g)):=λW hb=>by have q:=(hb.block _ S9.o.1.lt).trans S9.o.1;exact⟨Bx.cell q 0,Bx.cell q 1,Bx.cell q 2,Bx.cell q 3⟩
 have HCF9:U (∀W,Bl W9 W->Bl w W):=λW hW=>S9.o.2.trans (hW.mono S9.o.2.size);go_enter Tryz.func207,Tryz.ntmps207;go_upto_region 1 with fail
 rw[<- hW9];clear hW9;refine Ac (S:=λW=>Bl W9 W) 7 (by kernel_rfl) (Wt _ _).drew (λW hHeld=>?_);refine tx 0 rfl ?_;refine tx 1 rfl ?_;refine tx 2 rfl ?_;refine ty 3 rfl (λw' h=>by obtain⟨⟨x0,x1,x2⟩,x3,x4,x5,x6⟩:=HCF.o _ (HCF9.o _ h);clear h;go_simp;rfl) ?_;refine tx 4 rfl ?_;refine ty 5 rfl (λw' h=>by obtain⟨y0,y1,y2,y3⟩:=HCQ.o _ h;clear h;go_simp;rfl) ?_;refine AB 6 rfl (λK hK=>?_);refine A7 rfl 209 11 12 13 _ rfl (.agg #[pt xb,iv lab,.bool nt]) (iv (j:Int)) (.agg #[iv p.s,iv p.p,iv p.o,iv p.g]) rfl rfl rfl (λ_ _=>rfl) ?_;refine (HSC.o W (HCF9.o _ hHeld)).mono ?_;rintro e w6 ⟨a6,c6,L6,rfl,hr6,hp6,hbm,hg6⟩;have hb6:=hHeld.trans (hbm.mono hHeld.size);refine⟨_,rfl,hK.out _ _ (λ_=>hb6) (λhG=>?_)⟩;have hl6:L6.length<=300:=by rw[hp6.length_eq];exact WC (FR _ _ _ _) hQ
 have HF:U (BW w6 a6 L6/\L6.Perm (Fj Q f.lab f.nt p)/\Bl w w6/\∀g,(Value.slice a6 L6.length c6).ownBlock=some g->w.heap.size<=g/\g<w6.heap.size):=⟨hr6,hp6,HCF9.o _ hb6,λg e=>⟨WC (HCF9.o _ hHeld).size (hg6 g e).1,(hg6 g e).2⟩⟩;clear hK K hG hbm hr6 hp6 hg6;simp only[As];refine AB 7 rfl (λK hK=>?_);go_simp;refine hK.out _ _ (λhne=>absurd rfl hne) (λhG=>?_);clear hK K hG;refine Ae (by kernel_rfl) ?_ _;clear hb6 hHeld;obtain⟨⟨x0,x1,x2⟩,x3,x4,x5,x6⟩:=HCF.o _ HF.o.2.2.1;obtain⟨r1,hr1⟩:∃r1,r1=rd+L6.length:=⟨_,rfl⟩;have hw1:IntKind.i64.wrap ((rd:Int)+(L6.length:Int))=(r1:Int):=by rw[Wz];omega
 have HFB6:U (FB w6 f (rd:Int) v tl):=HFB.o.1.fr (P:=λ_=>False) (Fr.ofBelow HF.o.2.2.1) (λq=>q);have HEnd:U (∀W,W=w6.setCell (ad ob 3) (iv (r1:Int))->BW W a6 L6/\Zf W (Zr Z w.heap.size W.heap.size) f ((rd+L6.length:Nat):Int) tl L/\Fr (λk=>k=f.ob) w W/\∀g,(Value.slice a6 L6.length c6).ownBlock=some g->w.heap.size<=g/\g<W.heap.size):=by
  rintro W rfl;rw[HE.o.1,hr1];have hs:Fr (λk=>k=f.ob) w6 (w6.setCell (ad f.ob 3) (iv ((rd+L6.length:Nat):Int))):=Fr.ofSet rfl;have hf:=(Fr.ofBelow (P:=λk=>k=f.ob) HF.o.2.2.1).trans hs (λ_ _ q=>q) (λ_ _ q=>q);have hsz:(w6.setCell (ad f.ob 3) (iv ((rd+L6.length:Nat):Int))).heap.size=w6.heap.size:=by simp[World.setCell]
  refine⟨?_,⟨⟨v,HFB6.o.setRd,HU HFB.o.2.1 hf (λg e q=>HS.o.ob (q ▸ HFB.o.2.2 g e)),λg e=>.inl ⟨(Aw HFB.o.2.1 g e).2,HFB.o.2.2 g e⟩⟩,HS.o.set.fr hf (λq=>HS.o.ne q.symm),?_,?_,HS.o.ne⟩,hf,λg e=>by rw[hsz];exact HF.o.2.2.2 g e⟩
  .rcases HF.o.1 with h0|⟨g,e,hc⟩;.exact .inl h0
   .refine .inr ⟨g,e,λi hi=>?_⟩;have hgn:g≠f.ob:=λq=>by have:=(HF.o.2.2.2 g (by rw[e];rfl)).1;have:=HE.o.2.1;omega
    have:=hc i hi;exact⟨hs.cell this.1 hgn,hs.cell this.2.1 hgn,hs.cell this.2.2.1 hgn,hs.cell this.2.2.2 hgn⟩
  .rintro (q|q);.exact HS.o.ob q.2
   .have:=HE.o.2.1;have:=hf.size;omega
  .rintro (q|q);.exact HS.o.mb q.2
   .have:=HE.o.2.2;have:=hf.size;omega
 have xf:∀o,w6.frozen? (ad ob o)=false:=by rw[HE.o.1];exact HFB6.o.open
 have xl:ob<w6.heap.size:=by rw[HE.o.1];exact Bx.lt HFB6.o
 clear hr1;go_wp2;go_ret;exact⟨a6,c6,L6,rfl,(HEnd.o _ rfl).1,HF.o.2.1,(HEnd.o _ rfl).2.1,by rw[show (λk=>k=ob)=(λk=>k=f.ob) by rw[HE.o.1]];exact (HEnd.o _ rfl).2.2.1,(HEnd.o _ rfl).2.2.2⟩
theorem Kx (f:Fx) (rd:Int) (v:Value) (tl:Nat) (tb:Nat) (id:ByteArray->Int) (Q:List Qd) (x:Int) (w:World) (h:FB w f rd v tl) (hX:Hz w f.xb Q) (hT:∀V x,Bl w V->WS 97 #[pt tb,.string x] V (WT V (iv (id x)))) (h1:f.nt=false->Kp ⟨x,0,0,f.lab⟩) (h2:f.nt=false->Kp ⟨0,0,x,f.lab⟩) :
  WS 215 #[pt f.ob,iv x] w (WT w (.bool (decide (0<FG Q f.lab f.nt ⟨x,0,0,0⟩) || decide (0<FG Q f.lab f.nt ⟨0,0,x,0⟩)))):=by
 obtain⟨ob,hob⟩:∃ob,ob=f.ob:=⟨_,rfl⟩;obtain⟨xb,hxb⟩:=gn f.xb;obtain⟨lab,hlab⟩:=gn f.lab;obtain⟨nt,hnt⟩:=gn f.nt;obtain⟨n1,hn1⟩:=gn (FG Q f.lab f.nt ⟨x,0,0,0⟩);obtain⟨n2,hn2⟩:=gn (FG Q f.lab f.nt ⟨0,0,x,0⟩);have HW:U (∀W,Bl w W->TQ W tb f.xb id Q):=λW hW=>⟨λV x hV=>hT V x (hW.trans (hV.mono hW.size)),λV j p hV=>(hX.below hW).1 V j p hV⟩;have HC1:U (∀W,Bl w W->WS 199 #[.agg #[pt xb,iv lab,.bool nt],.agg #[iv x,iv 0,iv 0,iv 0]] W (WT W (iv (n1:Int)))):=λW hW=>by rw[hxb,hlab,hnt,hn1];exact EL tb f.xb id Q f.lab f.nt ⟨x,0,0,0⟩ W (HW.o W hW) h1
 have HC2:U (∀W,Bl w W->WS 199 #[.agg #[pt xb,iv lab,.bool nt],.agg #[iv 0,iv 0,iv x,iv 0]] W (WT W (iv (n2:Int)))):=λW hW=>by rw[hxb,hlab,hnt,hn2];exact EL tb f.xb id Q f.lab f.nt ⟨0,0,x,0⟩ W (HW.o W hW) h2
 have HCF:U (∀W,Bl w W->(W.cell? (ad ob 0)=some (pt xb)/\W.cell? (ad ob 1)=some (iv lab)/\W.cell? (ad ob 2)=some (.bool nt))):=λW hW=>by rw[hob,hxb,hlab,hnt];exact (h.fr (P:=λ_=>False) (Fr.ofBelow hW) (λq=>q)).cells.1
 rw[<- hob,<- hn1,<- hn2];obtain⟨bz,hbz⟩:=gn ((decide (0<n1) || decide (0<n2)));have HO:=hid hbz;rw[<- hbz];clear h hX hT h1 h2 hob hxb hlab hnt hn1 hn2 HW hbz;obtain⟨x0,x1,x2⟩:=HCF.o w (Wt _ _);go_enter Tryz.func215,Tryz.ntmps215;go_wp2_with fail
 refine (HC1.o w (Wt _ _)).mono ?_;rintro e w1 ⟨rfl,hb1⟩;have H1:=hid hb1;clear hb1 x0 x1 x2;by_cases hz:0<n1
 .have HZ:U (bz=true):=by show _=_;rw[HO.o,decide_eq_true hz,Bool.true_or]
  have hi:(0:Int)<(n1:Int):=by omega
  clear hz HO;go_wp2;go_ret;exact⟨by rw[HZ.o];rfl,H1.o⟩
 .have HO2:U (bz=decide (0<n2)):=by show _=_;rw[HO.o,decide_eq_false hz,Bool.false_or]
  obtain rfl:n1=0:=by omega
  clear hz HO;obtain⟨x0,x1,x2⟩:=HCF.o w1 H1.o;go_wp2_with fail
  refine (HC2.o w1 H1.o).mono ?_;rintro e w2 ⟨rfl,hb2⟩;have H2:=hid (H1.o.trans (hb2.mono H1.o.size));clear hb2 x0 x1 x2;go_wp2;go_ret;exact⟨by rw[HO2.o];first|rfl|simp,H2.o⟩
variable {oi:Oper}
section
variable {P:Program} {ops:Array Oper} {Q:Exit->Act->World->Prop} {md:Region.Mode} {S:World->Prop} {late:Nat}
theorem JA {i:Nat} {v:Value} (hi:ops[i]?=some oi) (hsel:∀(j:Nat) (o:Oper) cs b,ops[j]?=some o->o.op≠.select cs b)
  (hQ:∀c a w,Q (.panic c) (a.put oi.dst v) w->Q (.panic c) a w) (hlate:ops.size<=late) :
  ∀(fuel:Nat) (listed:Array Bool) (a:Act) (w:World),
   (∀j oj,ops[j]?=some oj->j≠i->listed.getD j true=false->(∀e∈oj.after,Region.binds md e=true->e.on≠i)->oi.apart ops oj=true)->
   i∈Region.ready md ops listed->YieldsIf P ops S oi v a->S w->
   Ay P md ops Q S late fuel (listed.setIfInBounds i true) (a.put oi.dst v) w->Ay P md ops Q S late (fuel+1) listed a w:=by
 intro fuel;induction fuel with
 | zero=>
  intro listed a w _ hr hy hS H;refine⟨λh=>(by rw[h] at hr;cases hr),λj hj=>?_⟩;by_cases hji:j=i;.subst hji;exact hy.wpOp hi hS ⟨λ_=>hS,H⟩
  .have:=ready_mono hj hji;rw[H.1] at this;cases this
 | succ fuel ih=>
  intro listed a w hfree hr hy hS H;refine⟨λh=>(by rw[h] at hr;cases hr),λj hj=>?_⟩;by_cases hji:j=i;.subst hji;exact hy.wpOp hi hS ⟨λ_=>hS,H⟩
  .have h1:=H.2 j (ready_mono hj hji);obtain⟨hjun,oj,hoj,hall⟩:=mem_ready.1 hj;have hjl:j≠late:=λe=>by have:=(Array.getElem?_eq_some_iff.1 hoj).1;omega
   have hnot:∀e∈oj.after,Region.binds md e=true->e.on≠i:=λe he hb heq=>by
    have h1:=hall e he hb;have h0:=(mem_ready.1 hr).1;rw[heq] at h1;rcases Nat.lt_or_ge i listed.size with h' | h';.simp[h'] at h0 h1;rw[h0] at h1;cases h1
    .simp[Array.getElem?_eq_none h'] at h1
   have h2:=wpOp_putIf hoj (hfree j oj hoj hji hjun hnot) (λcs b=>hsel i oi cs b hi) (λcs b=>hsel j oj cs b hoj) hQ hy h1;have hfree' : ∀k ok,ops[k]?=some ok->k≠i->(listed.setIfInBounds j true).getD k true=false->
     (∀e∈ok.after,Region.binds md e=true->e.on≠i)->oi.apart ops ok=true:=λk ok hk hki hun hno=>by
    refine hfree k ok hk hki ?_ hno
    by_cases hjk:j=k
    .subst hjk;exact hjun
    .rw[getD_set_ne true hjk] at hun;exact hun
   refine wpOp_mono (λa' w' h3=>⟨λ_=>h3.2.1 hjl,ih (listed.setIfInBounds j true) a' w' hfree' (ready_mono hr (Ne.symm hji)) h3.1 (h3.2.1 hjl) ?_⟩) h2;rw[Array.setIfInBounds_comm _ _ hji];exact h3.2.2
end
theorem ta {l:List Oper}{P:Program}{Q:Exit->Act->World->Prop}{S:World->Prop}{late:Nat}{v:Value}{fuel:Nat}{listed:Array Bool}{a:Act} (i:Nat) (hp:Cq i l oi) (hy:∀w,S w->(execOp a.eval oi).run P w=.ok (.value v) w) (h:Ay P .any l.toArray Q S late fuel (listed.setIfInBounds i true) (a.put oi.dst v) w) (hs:Region.noSelect l.toArray=true:=by kernel_rfl) (hf:Region.free .any l.toArray listed i=true:=by kernel_rfl) (hr:(Region.ready .any l.toArray listed).contains i=true:=by kernel_rfl) (hl:decide (l.toArray.size<=late)=true:=by kernel_rfl) (hQ:∀c a w,Q (.panic c) (a.put oi.dst v) w->Q (.panic c) a w:=by exact λ_ _ _ h=>h) (hw:Region.wanted oi (yielded l.toArray a.tmps)=true:=by rfl) (hS:S w:=by assumption):Ay P .any l.toArray Q S late (fuel+1) listed a w:=
 JA hp.get (Region.noSelect_spec hs) hQ (of_decide_eq_true hl) fuel listed a w (Region.free_spec hp.get hf) (by simpa using hr) (Or.inl ⟨hw,hy⟩) hS h
theorem ub {l:List Oper}{P:Program}{Q:Exit->Act->World->Prop}{S:World->Prop}{late:Nat}{oi:Oper}{fuel:Nat}{listed:Array Bool}{a:Act}{w:World}{v:Value}{a':Act} (i:Nat) (hp:Cq i l oi) (hy:∀w,S w->(execOp a.eval oi).run P w=.ok (.value v) w)
 (h:Ay P .any l.toArray Q S late fuel (listed.setIfInBounds i true) a' w) (ha:a.put oi.dst v=a':=by (simp only[As];rfl)) (hs:Region.noSelect l.toArray=true:=by kernel_rfl) (hf:Region.free .any l.toArray listed i=true:=by kernel_rfl) (hr:(Region.ready .any l.toArray listed).contains i=true:=by kernel_rfl) (hl:decide (l.toArray.size<=late)=true:=by kernel_rfl)
 (hQ:∀c a w,Q (.panic c) (a.put oi.dst v) w->Q (.panic c) a w:=by exact λ_ _ _ h=>h) (hw:Region.wanted oi (yielded l.toArray a.tmps)=true:=by rfl) (hS:S w:=by assumption):Ay P .any l.toArray Q S late (fuel+1) listed a w:=by subst ha;exact ta i hp hy h hs hf hr hl hQ hw hS
theorem ua {l:List Oper}{P:Program}{Q:Exit->Act->World->Prop}{S:World->Prop}{late:Nat}{oi:Oper}{fuel:Nat}{listed:Array Bool}{a:Act}{w:World}{v:Value}{a':Act} (i:Nat) (hp:Cq i l oi)
 (h:Ay P .any l.toArray Q S late fuel (listed.setIfInBounds i true) a' w) (hy:∀w,S w->(execOp a.eval oi).run P w=.ok (.value v) w:=by (intro w h;clear h;go_simp<;>rfl)) (ha:a.put oi.dst v=a':=by (simp only[As];rfl)) (hs:Region.noSelect l.toArray=true:=by kernel_rfl) (hf:Region.free .any l.toArray listed i=true:=by kernel_rfl) (hr:(Region.ready .any l.toArray listed).contains i=true:=by kernel_rfl) (hl:decide (l.toArray.size<=late)=true:=by kernel_rfl)
 (hQ:∀c a w,Q (.panic c) (a.put oi.dst v) w->Q (.panic c) a w:=by exact λ_ _ _ h=>h) (hw:Region.wanted oi (yielded l.toArray a.tmps)=true:=by rfl) (hS:S w:=by assumption):Ay P .any l.toArray Q S late (fuel+1) listed a w:=ub i hp hy h ha hs hf hr hl hQ hw hS
theorem BW.fr {P:Nat->Prop} {w':World} {a:Option Addr} {c:Nat} {L:List Qd} (h:BW w a L) (hf:Fr P w w') (hn:∀g,(Value.slice a L.length c).ownBlock=some g->¬ P g):BW w' a L:=by
 rcases h with h0|⟨g,e,hc⟩;.exact .inl h0
 .refine .inr ⟨g,e,λi hi=>?_⟩;have hg:=hn g (by rw[e];rfl);have:=hc i hi;exact⟨hf.cell this.1 hg,hf.cell this.2.1 hg,hf.cell this.2.2.1 hg,hf.cell this.2.2.2 hg⟩
theorem FB.tl {W:World} {f:Fx} {rd:Int} {v:Value} {tl:Nat} (h:FB W f rd v tl) (i:Nat):W.cell? (ad f.ob (7+i))=f.tail[i]?:=by have e:=Bx.cell h (7+i);rw[e];unfold Dg;rw[List.getElem?_toArray,show 7+i=i+7 by omega];simp only[List.getElem?_cons_succ]
def A0 (W:World) (f:Fx):Prop:=FB W f 0 (.slice none 0 0) 0/\C3 W f.mb 0 (λ_=>False)
theorem A0.fr {P:Nat->Prop} {w w' : World} {f:Fx} (h:A0 w f) (hf:Fr P w w') (h1:¬ P f.ob) (h2:¬ P f.mb):A0 w' f:=⟨h.1.fr hf h1,h.2.fr hf h2⟩
def NG (f:Fx) (k:Nat):Prop:=k=f.ob\/k=f.mb
theorem Zf.mono {Z':Nat->Prop} {rd:Int} {tl:Nat} (h:Zf w Z f rd tl L) (hz:∀k,Z k->Z' k) (h1:¬ Z' f.ob) (h2:¬ Z' f.mb):Zf w Z' f rd tl L:=by obtain⟨⟨v,q1,q2,q7⟩,q3,q4,q5,q6⟩:=h;exact⟨⟨v,q1,q2,λg e=>hz g (q7 g e)⟩,q3,h1,h2,q6⟩
theorem Zf.row {W:World} {rd rd':Int} {tl tl':Nat} (h:Zf w Z f rd tl L) (hb:Bl w W):∀v,FB W f rd' v tl'->∀g,v.ownBlock=some g->g<w.heap.size:=by intro v hv g e;obtain⟨⟨v0,q1,q2,q7⟩,_⟩:=h;have c1:=(q1.fr (P:=λ_=>False) (Fr.ofBelow hb) (λq=>q)).cells.2.2.1;have c2:=hv.cells.2.2.1;rw[c1] at c2;injection c2 with c2;subst c2;exact (Aw q2 g e).2
theorem TK (HB:Nat) (f:Fx) (Q:List Qd) (j:Nat) (w:World) (h:A0 w f) (ht:f.tail=[iv (j:Int)]) (hX:Hz w f.xb Q) (hp:f.nt=false->j<6/\BC (A8 j ⟨0,0,0,f.lab⟩) 4) (hQ:Q.length<=300) (hq:∀q,q∈Q->C7 q.s/\C7 q.o) (h1:f.ob<HB) (h2:f.mb<HB) (h3:f.ob≠f.mb) (hHB:HB<=w.heap.size) :
  WS 205 #[pt f.ob] w λe w'=>e=.returned (.tuple #[])/\∃qs,qs.Perm (Fj Q f.lab f.nt ⟨0,0,0,0⟩)/\FQ w' HB (λk=>w.heap.size<=k/\k<w'.heap.size) f (qs.length:Int) 0 (BO qs [])/\Fr (NG f) w w':=by
 have HFS:U (Zf w (λk=>w.heap.size<=k) f ((0:Nat):Int) 0 []):=Dm h (by omega) (by omega) h3;obtain⟨ob,hob⟩:∃ob,ob=f.ob:=⟨_,rfl⟩;have HE:U (ob=f.ob/\f.ob<HB/\f.mb<HB/\HB<=w.heap.size):=⟨hob,h1,h2,hHB⟩;have x7:w.cell? (ad ob 7)=some (iv (j:Int)):=by rw[hob,h.1.tl 0,ht];rfl
 have HQ7:U (∀(W:World) rd v tl,FB W f rd v tl->W.cell? (ad ob 7)=some (iv (j:Int))):=λW rd v tl hb=>by rw[hob,hb.tl 0,ht];rfl
 have HRD:U (∀W,Bl w W->WS 207 #[pt ob,iv (j:Int),.agg #[iv 0,iv 0,iv 0,iv 0]] W λe w'=>∃a c qs,e=.returned (.slice a qs.length c)/\BW w' a qs/\qs.Perm (Fj Q f.lab f.nt ⟨0,0,0,0⟩)/\Zf w' (Zr (λk=>w.heap.size<=k) W.heap.size w'.heap.size) f ((0+qs.length:Nat):Int) 0 []/\Fr (λk=>k=f.ob) W w'/\∀g,(Value.slice a qs.length c).ownBlock=some g->W.heap.size<=g/\g<w'.heap.size):=λW hW=>by rw[hob];exact Gs (λk=>w.heap.size<=k) f 0 0 [] Q j ⟨0,0,0,0⟩ W (HFS.o.below hW) (hX.below hW) hp (by omega) hQ
 have HQO:U (Q.length<=300/\∀q,q∈Q->C7 q.s/\C7 q.o):=⟨hQ,hq⟩;rw[<- hob];clear h ht hX hp hQ hq h1 h2 h3 hHB hob;go_enter Tryz.func205,Tryz.ntmps205;go_upto_region 0 with fail
 refine Au (S:=λW=>W.cell? (ad ob 7)=some (iv (j:Int))) 1000 (by kernel_rfl) x7 (λhS=>?_);have hHeld:Bl w w.drew:=(Wt _ _).drew;generalize w.drew=W at hS hHeld ⊢;clear x7;refine ua 0 rfl ?_;refine ua 1 rfl ?_;refine ua 2 rfl ?_;refine ua 3 rfl ?_;refine ua 4 rfl ?_;refine ua 5 rfl ?_;refine ta 6 rfl (v:=iv (j:Int)) ?_ ?_;.intro w' h;go_simp
 simp only[As];refine ua 7 rfl ?_;refine ua 10 rfl ?_;refine AB 8 rfl (λK hK=>?_);refine A7 rfl 207 6 10 11 _ rfl (pt ob) (iv (j:Int)) (.agg #[iv 0,iv 0,iv 0,iv 0]) rfl rfl rfl (λ_ _=>rfl) ?_;refine (HRD.o W hHeld).mono ?_;rintro e w6 ⟨a6,c6,qs,rfl,hr6,hp6,hfs6,hf6,hg6⟩;have hS6:w6.cell? (ad ob 7)=some (iv (j:Int)):=by obtain⟨v6,q1,_⟩:=hfs6.blk;exact HQ7.o _ _ _ _ q1
 refine⟨_,rfl,hK.out _ _ (λ_=>hS6) (λhG=>?_)⟩;clear hK K hG hS;simp only[As];refine ua 9 rfl ?_;refine Ae (by kernel_rfl) ?_ _;clear hS6;have hl6:qs.length<=300:=by rw[hp6.length_eq];exact WC (FR _ _ _ _) HQO.o.1
 obtain⟨Z,hZ⟩:∃Z,Z=Zr (λk=>w.heap.size<=k) W.heap.size w6.heap.size:=⟨_,rfl⟩;rw[<- hZ,WM] at hfs6;have HZ:U ((∀k,w6.heap.size<=k->Z k)/\(∀k,Z k->w.heap.size<=k)/\∀g,(Value.slice a6 qs.length c6).ownBlock=some g->¬ PF Z f g):=by
  rw[hZ];refine⟨λk hk=>.inr hk,λk hk=>?_,λg e=>?_⟩
  .rcases hk with hk|hk;.exact hk.2
   .have:=hHeld.size;have:=hf6.size;omega
  .have:=hg6 g e;have h0:=HE.o;have:=hHeld.size;rintro (q|q|q|q);.omega
   .omega
   .omega
   .omega
 have HM:U (∀q,q∈qs->C7 q.s/\C7 q.o):=λq hq=>by
  have:=hp6.mem_iff.1 hq;unfold Fj at this;split at this;.cases this
  .exact HQO.o.2 q (List.mem_filter.1 this).1
 have S6:U (BW w6 a6 qs/\qs.Perm (Fj Q f.lab f.nt ⟨0,0,0,0⟩)/\Zf w6 Z f (qs.length:Int) 0 []/\Fr (NG f) w w6):=⟨hr6,hp6,hfs6,(Fr.ofBelow (P:=NG f) hHeld).trans hf6 (λ_ _ q=>q) (λ_ _ q=>.inl q)⟩;clear hr6 hp6 hfs6 hf6 hg6 hHeld hZ HRD HQO;go_wp2;go_loopw [3,14] (λ_ i wr=>∃k:Nat,k<=qs.length/\i=iv (k:Int)/\Zf wr Z f (qs.length:Int) 0 (BO (qs.take k) [])/\Fr (PF Z f) w6 wr) (λ_ i _=>qs.length-(intOf i).toNat)
 case atStart=>exact⟨0,Ww _,rfl,S6.o.2.2.1,Fr.refl _ _⟩
 case round=>
  obtain⟨k,hk,rfl,hfs,hfr⟩:=hrel;obtain⟨L,hLe⟩:∃L,L=BO (qs.take k) []:=⟨_,rfl⟩;have hLl:L.length<=600:=by rw[hLe];have:=FP (qs.take k) [];rw[WI] at this;simp only[List.length_nil] at this;omega
  rw[<- hLe] at hfs;have HL:U (L=BO (qs.take k) []):=hLe;have HR:U (Zf wr Z f (qs.length:Int) 0 L/\Fr (PF Z f) w6 wr/\BW wr a6 qs):=⟨hfs,hfr,S6.o.1.fr hfr HZ.o.2.2⟩;have hZr:∀k,wr.heap.size<=k->Z k:=λk hk=>HZ.o.1 k (WC hfr.size hk);have HZR:U (∀k,wr.heap.size<=k->Z k):=hZr;clear hfs hfr hLe hZr;by_cases hlt:k<qs.length
  .obtain⟨q,hqe⟩:∃q,q=qs[k]:=⟨_,rfl⟩;have HQE:U (q=qs[k]/\C7 q.s/\C7 q.o):=⟨hqe,HM.o q (by rw[hqe];exact WE hlt)⟩;obtain⟨qb,rfl,hqc⟩:∃qb,a6=some (ad qb 0)/\(wr.cell? (ad qb (k*4))=some (iv q.s)/\wr.cell? (ad qb (k*4+1))=some (iv q.p)/\wr.cell? (ad qb (k*4+2))=some (iv q.o)/\wr.cell? (ad qb (k*4+3))=some (iv q.g)):=by
    rcases HR.o.2.2 with h0|⟨b,e,hc⟩;.omega
    .rw[hqe];exact⟨b,e,hc k hlt⟩
   clear hqe;obtain⟨c0,c1,c2,c3⟩:=hqc;have i0:(0:Int)<=(k:Int):=by omega
   have i1:(k:Int)<(qs.length:Int):=by omega
   obtain⟨W1,hW1⟩:∃W1,W1=wr.alloc (.cells #[iv q.s,iv q.p,iv q.o,iv q.g] 140):=⟨_,rfl⟩;have P1:U (Bx W1 wr.heap.size 140 #[iv q.s,iv q.p,iv q.o,iv q.g]/\Bl wr W1):=by rw[hW1];exact⟨Bx.new _ _ _,Aa _ _⟩
   have HB1:U (∀W,Bl W1 W->W.cell? (ad wr.heap.size 0)=some (iv q.s)/\W.cell? (ad wr.heap.size 2)=some (iv q.o)):=λW hW=>by have:=(hW.block _ P1.o.1.lt).trans P1.o.1;exact⟨Bx.cell this 0,Bx.cell this 2⟩
   go_upto_region 3 with fail
   rw[<- hW1];have HS1:U (W1.heap.size=wr.heap.size+1):=by rw[hW1];simp[U]
   clear hW1 c0 c1 c2 c3;refine Ac (S:=λW=>Bl W1 W) 5 (by kernel_rfl) (Wt _ _).drew (λW hHeld=>?_);refine tx 0 rfl ?_;refine tx 1 rfl ?_;refine tx 2 rfl ?_;refine tx 3 rfl ?_;refine ty 4 rfl (λw' h=>by obtain⟨y0,y2⟩:=HB1.o _ h;clear h;go_simp;rfl) ?_;have hbb:=P1.o.2.trans (hHeld.mono P1.o.2.size);have hfs1:Zf W (Zr Z wr.heap.size W1.heap.size) f (qs.length:Int) 0 L:=((HR.o.1.below P1.o.2).below hHeld).re _ _ (λv hv g e=>HR.o.1.row hbb v hv g e) (by have:=HE.o;have:=HR.o.2.1.size;have:=S6.o.2.2.2.size;have:=P1.o.2.size;omega) (by have:=HE.o;have:=HR.o.2.1.size;have:=S6.o.2.2.2.size;have:=P1.o.2.size;omega);refine AB 5 rfl (λK hK=>?_);refine AF rfl 208 20 22 _ rfl (pt ob) (iv q.s) rfl rfl (λ_ _=>rfl) ?_;have HFD:WS 208 #[pt ob,iv q.s] W λe w'=>e=.returned (.tuple #[])/\Zf w' (Zr Z wr.heap.size W1.heap.size) f (qs.length:Int) 0 (AH L q.s)/\Fr (PF (Zr Z wr.heap.size W1.heap.size) f) W w':=by rw[HE.o.1];exact CJ (Zr Z wr.heap.size W1.heap.size) f (qs.length:Int) 0 L q.s W hfs1 HQE.o.2.1 (by have:=@Qf L q.s;omega) (λk hk=>.inr (WC hHeld.size hk))
   refine HFD.mono ?_;clear HFD;rintro e w7 ⟨rfl,hfs7,hfr7⟩;refine⟨_,rfl,hK.out _ _ (λhne=>absurd rfl hne) (λhG=>?_)⟩;clear hK K hG;refine Ae (by kernel_rfl) ?_ _;have P7:U (Zf w7 Z f (qs.length:Int) 0 (AH L q.s)/\Fr (PF Z f) w6 w7/\(∀k,w7.heap.size<=k->Z k)/\w7.cell? (ad wr.heap.size 2)=some (iv q.o)):=by
    have hz1:∀k,(Zr Z wr.heap.size W1.heap.size) k->Z k:=λk hk=>by
     rcases hk with hk|hk;.exact hk.2
     .exact HZR.o k (WC P1.o.2.size hk)
    have hpf:∀k,PF (Zr Z wr.heap.size W1.heap.size) f k->PF Z f k:=λk hk=>hk.imp id (Or.imp id (hz1 k));refine⟨hfs7.mono hz1 HR.o.1.ob HR.o.1.mb,(HR.o.2.1.trans (Fr.ofBelow (P:=PF Z f) hbb) (λ_ _ q=>q) (λ_ _ q=>q)).trans hfr7 (λ_ _ q=>q) (λk _ q=>hpf k q),λk hk=>HZR.o k (WC hbb.size (WC hfr7.size hk)),hfr7.cell (HB1.o _ hHeld).2 ?_⟩;have h0:=HE.o;have h1:=HR.o.2.1.size;have h2:=S6.o.2.2.2.size;have h3:=HS1.o;rintro (q|q|q|q);.dsimp only at q;omega
    .dsimp only at q;omega
    .have:=q.1;dsimp only at this;omega
    .dsimp only at q;omega
   clear hfs7 hfr7 hHeld hfs1 hbb;go_upto_region 4 with fail
   refine Ac (S:=λW=>Bl w7 W) 5 (by kernel_rfl) (Wt _ _).drew (λW hHeld=>?_);refine tx 0 rfl ?_;refine tx 1 rfl ?_;refine tx 2 rfl ?_;refine tx 3 rfl ?_;refine ty 4 rfl (λw' h=>by have y2:=(h.cell (Ws _ _ P7.o.2.2.2)).trans P7.o.2.2.2;clear h;go_simp;rfl) ?_;refine AB 5 rfl (λK hK=>?_);refine AF rfl 208 26 28 _ rfl (pt ob) (iv q.o) rfl rfl (λ_ _=>rfl) ?_;have HFD:WS 208 #[pt ob,iv q.o] W λe w'=>e=.returned (.tuple #[])/\Zf w' Z f (qs.length:Int) 0 (AH (AH L q.s) q.o)/\Fr (PF Z f) W w':=by rw[HE.o.1];exact CJ Z f (qs.length:Int) 0 (AH L q.s) q.o W (P7.o.1.below hHeld) HQE.o.2.2 (by have:=@Qf L q.s;omega) (λk hk=>P7.o.2.2.1 k (WC hHeld.size hk))
   refine HFD.mono ?_;clear HFD;rintro e w8 ⟨rfl,hfs7,hfr7⟩;refine⟨_,rfl,hK.out _ _ (λhne=>absurd rfl hne) (λhG=>?_)⟩;clear hK K hG;refine Ae (by kernel_rfl) ?_ _;have HX:U (Zf w8 Z f (qs.length:Int) 0 (BO (qs.take (k+1)) [])/\Fr (PF Z f) w6 w8):=by refine⟨?_,(P7.o.2.1.trans (Fr.ofBelow (P:=PF Z f) hHeld) (λ_ _ q=>q) (λ_ _ q=>q)).trans hfr7 (λ_ _ q=>q) (λ_ _ q=>q)⟩;rw[WK hlt,Gv,<- HL.o,<- HQE.o.1];exact hfs7
   clear hfs7 hfr7 hHeld P7 HR P1 HB1;go_wp2;go_roundw;case rel=>exact⟨k+1,by omega,by go_num,HX.o.1,HX.o.2⟩
   case measure=>simp[intOf];omega
  .obtain rfl:k=qs.length:=by omega
   have HX:U (FQ wr HB (λk=>w.heap.size<=k/\k<wr.heap.size) f (qs.length:Int) 0 (BO qs [])/\Fr (NG f) w wr):=by
    have hL2:L=BO qs []:=by rw[HL.o,WG]
    rw[<- hL2];refine⟨(HR.o.1.fq (λk hk=>by have:=HZ.o.2.1 k hk;have:=HE.o;omega) HE.o.2.1 HE.o.2.2.1).mono (λk _ q=>⟨HZ.o.2.1 k q.1,q.2⟩),S6.o.2.2.2.trans HR.o.2.1 (λ_ _ q=>q) (λi hi q=>?_)⟩;rcases q with q|q|q;.exact .inl q
    .exact .inr q
    .have:=HZ.o.2.1 i q;omega
   have HPM:=hid S6.o.2.1;clear HR S6 HZ HL;go_wp2;go_end0
   exact⟨rfl,qs,HPM.o,HX.o⟩
end Go.Proofs.YtacpbofiipdodaaGreat
