import Derived.RangeFuncNested
import Derived.RangeFuncBound
import Derived.RangeFuncCalls
import Derived.RangeFuncLeaves
import Derived.Shelf.Abstract
import Derived.Shelf.RegionOpen
import Derived.OwnWalkIn
import Derived.TacticsInMore
import Derived.LoopNIn
import Derived.LoopIn
import Derived.Test.YtacpbofiipdodaaGreatNv4
set_option linter.unusedVariables false
set_option linter.unusedSimpArgs false
set_option maxRecDepth 100000
set_option maxHeartbeats 90000000
namespace Go.Proofs.YtacpbofiipdodaaGreat
open Go Go.Deep Go.RowKit
theorem BV (x:ByteArray) (w:World):WS 120 #[.string x] w λe w'=>e=.returned (.bool (Ha x))/\w'=w:=by
 by_cases h1:1<=x.size
 .have i1:(1:Int)<=(x.size:Int):=by omega
  have i1' : decide ((1:Int)<=(x.size:Int))=true:=decide_eq_true i1;have HE:U (Ha x=decide (x.size<=30)):=by show _=_;unfold Ha;rw[decide_eq_true h1];rfl
  by_cases h2:x.size<=30
  .have i2:(x.size:Int)<=30:=by omega
   have i2' : decide ((x.size:Int)<=30)=true:=decide_eq_true i2;go_enter Tryz.func120,Tryz.ntmps120;go_wp2;go_ret;exact⟨by rw[HE.o,decide_eq_true h2];rfl,rfl⟩
  .have i2:¬ (x.size:Int)<=30:=by omega
   have i2' : decide ((x.size:Int)<=30)=false:=decide_eq_false i2;go_enter Tryz.func120,Tryz.ntmps120;go_wp2;go_ret;exact⟨by rw[HE.o,decide_eq_false h2];rfl,rfl⟩
 .have i1:¬ (1:Int)<=(x.size:Int):=by omega
  have i1' : decide ((1:Int)<=(x.size:Int))=false:=decide_eq_false i1;have HE:U (Ha x=false):=by show _=_;unfold Ha;rw[decide_eq_false h1];rfl
  go_enter Tryz.func120,Tryz.ntmps120;go_wp2;go_ret;exact⟨by rw[HE.o];rfl,rfl⟩
theorem Hr (k:Int) (hk:k=1\/k=6\/k=7\/k=8) (s t:ByteArray) (w:World):WS 85 #[.agg #[iv k,.string s,.string t]] w (WT w (.bool (KY s && KY t))):=by
 rcases hk with rfl|rfl|rfl|rfl;all_goals
  cases h1:KY s with
  | false=>
   have H1:=hid h1
   have e1:=h1
   have e1p:=Gm h1
   clear h1
   go_enter Tryz.func85,Tryz.ntmps85
   go_wp2
   go_ret
   exact⟨by first|rfl|simp,Aa _ _⟩
  | true=>
   have H1:=hid h1
   have e1:=h1
   have e1p:=Ea h1
   clear h1
   cases h2:KY t with
   | false=>
    have H2:=hid h2
    have e2:t.toList.isEmpty=false:=h2
    have e2p:=Gm h2
    clear h2
    go_enter Tryz.func85,Tryz.ntmps85
    go_wp2
    go_ret
    exact⟨by first|rfl|simp,Aa _ _⟩
   | true=>
    have H2:=hid h2
    have e2:=h2
    have e2p:=Ea h2
    clear h2
    go_enter Tryz.func85,Tryz.ntmps85
    go_wp2
    go_ret
    exact⟨by first|rfl|simp,Aa _ _⟩
theorem Ic (k:Int) (hk:k=2\/k=3\/k=4\/k=9) (s t:ByteArray) (w:World):WS 85 #[.agg #[iv k,.string s,.string t]] w (WT w (.bool (Ha s && KY t))):=by
 rcases hk with rfl|rfl|rfl|rfl;all_goals
  cases h1:Ha s with
  | false=>
   have H1:=hid h1
   clear h1
   go_enter Tryz.func85,Tryz.ntmps85
   go_wp2_with fail
   refine (BV s _).mono ?_
   rintro e w1 ⟨he,hw⟩
   subst hw
   rw[H1.o] at he
   subst he
   go_wp2
   go_ret
   exact⟨by first|rfl|simp,Aa _ _⟩
  | true=>
   have H1:=hid h1
   clear h1
   cases h2:KY t with
   | false=>
    have H2:=hid h2
    have e2:t.toList.isEmpty=false:=h2
    have e2p:=Gm h2
    clear h2
    go_enter Tryz.func85,Tryz.ntmps85
    go_wp2_with fail
    refine (BV s _).mono ?_
    rintro e w1 ⟨he,hw⟩
    subst hw
    rw[H1.o] at he
    subst he
    go_wp2
    go_ret
    exact⟨by first|rfl|simp,Aa _ _⟩
   | true=>
    have H2:=hid h2
    have e2:=h2
    have e2p:=Ea h2
    clear h2
    go_enter Tryz.func85,Tryz.ntmps85
    go_wp2_with fail
    refine (BV s _).mono ?_
    rintro e w1 ⟨he,hw⟩
    subst hw
    rw[H1.o] at he
    subst he
    go_wp2
    go_ret
    exact⟨by first|rfl|simp,Aa _ _⟩
theorem Sw (s t:ByteArray) (w:World):WS 85 #[.agg #[iv 5,.string s,.string t]] w (WT w (.bool (Ha s && Ha t))):=by
 cases h1:Ha s with
 | false=>
  have H1:=hid h1;clear h1;go_enter Tryz.func85,Tryz.ntmps85;go_wp2_with fail
  refine (BV s _).mono ?_;rintro e w1 ⟨he,hw⟩;subst hw;rw[H1.o] at he;subst he;go_wp2;go_ret;exact⟨by first|rfl|simp,Aa _ _⟩
 | true=>
  have H1:=hid h1;clear h1;cases h2:Ha t with
  | false=>
   have H2:=hid h2;clear h2;go_enter Tryz.func85,Tryz.ntmps85;go_wp2_with fail
   refine (BV s _).mono ?_;rintro e w1 ⟨he,hw⟩;subst hw;rw[H1.o] at he;subst he;go_wp2_with fail
   refine (BV t _).mono ?_;rintro e w2 ⟨he,hw⟩;subst hw;rw[H2.o] at he;subst he;go_wp2;go_ret;exact⟨by first|rfl|simp,Aa _ _⟩
  | true=>
   have H2:=hid h2;clear h2;go_enter Tryz.func85,Tryz.ntmps85;go_wp2_with fail
   refine (BV s _).mono ?_;rintro e w1 ⟨he,hw⟩;subst hw;rw[H1.o] at he;subst he;go_wp2_with fail
   refine (BV t _).mono ?_;rintro e w2 ⟨he,hw⟩;subst hw;rw[H2.o] at he;subst he;go_wp2;go_ret;exact⟨by first|rfl|simp,Aa _ _⟩
theorem ME (k:Int) (s t:ByteArray) (w:World) (hk:¬ (1<=k/\k<=9)):WS 85 #[.agg #[iv k,.string s,.string t]] w (WT w (.bool false)):=by
 have e1:(k == 1)=false:=by simp;omega
 have e2:(k == 2)=false:=by simp;omega
 have e3:(k == 3)=false:=by simp;omega
 have e4:(k == 4)=false:=by simp;omega
 have e5:(k == 5)=false:=by simp;omega
 have e6:(k == 6)=false:=by simp;omega
 have e7:(k == 7)=false:=by simp;omega
 have e8:(k == 8)=false:=by simp;omega
 have e9:(k == 9)=false:=by simp;omega
 have f1:¬ k=1:=by omega
 have f2:¬ k=2:=by omega
 have f3:¬ k=3:=by omega
 have f4:¬ k=4:=by omega
 have f5:¬ k=5:=by omega
 have f6:¬ k=6:=by omega
 have f7:¬ k=7:=by omega
 have f8:¬ k=8:=by omega
 have f9:¬ k=9:=by omega
 clear hk;go_enter Tryz.func85,Tryz.ntmps85;go_wp2;go_ret;exact⟨rfl,Aa _ _⟩
theorem Nb (k:Int) (s t:ByteArray) (w:World):WS 85 #[.agg #[iv k,.string s,.string t]] w (WT w (.bool (Ke k s t))):=by
 by_cases h:1<=k/\k<=9
 .have h9:k=1\/k=2\/k=3\/k=4\/k=5\/k=6\/k=7\/k=8\/k=9:=by omega
  rcases h9 with rfl|rfl|rfl|rfl|rfl|rfl|rfl|rfl|rfl;.exact Hr 1 (by decide) s t w
  .exact Ic 2 (by decide) s t w
  .exact Ic 3 (by decide) s t w
  .exact Ic 4 (by decide) s t w
  .exact Sw s t w
  .exact Hr 6 (by decide) s t w
  .exact Hr 7 (by decide) s t w
  .exact Hr 8 (by decide) s t w
  .exact Ic 9 (by decide) s t w
 .have e:Ke k s t=false:=by unfold Ke;rw[if_neg (by omega),if_neg (by omega),if_neg (by omega)]
  rw[e];exact ME k s t w h
theorem OM (w:World):WS 84 #[iv 1] w λe w'=>e=.returned (iv 0)/\w'=w:=by go_enter Tryz.func84,Tryz.ntmps84;go_wp2;go_ret;exact⟨rfl,rfl⟩
theorem OO (w:World):WS 84 #[iv 2] w λe w'=>e=.returned (iv 0)/\w'=w:=by go_enter Tryz.func84,Tryz.ntmps84;go_wp2;go_ret;exact⟨rfl,rfl⟩
theorem Pi (w:World):WS 84 #[iv 3] w λe w'=>e=.returned (iv 1)/\w'=w:=by go_enter Tryz.func84,Tryz.ntmps84;go_wp2;go_ret;exact⟨rfl,rfl⟩
theorem Ou (w:World):WS 84 #[iv 4] w λe w'=>e=.returned (iv 1)/\w'=w:=by go_enter Tryz.func84,Tryz.ntmps84;go_wp2;go_ret;exact⟨rfl,rfl⟩
theorem PH (w:World):WS 84 #[iv 5] w λe w'=>e=.returned (iv 1)/\w'=w:=by go_enter Tryz.func84,Tryz.ntmps84;go_wp2;go_ret;exact⟨rfl,rfl⟩
theorem OR (w:World):WS 84 #[iv 6] w λe w'=>e=.returned (iv 2)/\w'=w:=by go_enter Tryz.func84,Tryz.ntmps84;go_wp2;go_ret;exact⟨rfl,rfl⟩
theorem Oy (w:World):WS 84 #[iv 7] w λe w'=>e=.returned (iv 2)/\w'=w:=by go_enter Tryz.func84,Tryz.ntmps84;go_wp2;go_ret;exact⟨rfl,rfl⟩
theorem PC (w:World):WS 84 #[iv 8] w λe w'=>e=.returned (iv 2)/\w'=w:=by go_enter Tryz.func84,Tryz.ntmps84;go_wp2;go_ret;exact⟨rfl,rfl⟩
theorem Pf (w:World):WS 84 #[iv 9] w λe w'=>e=.returned (iv 1)/\w'=w:=by go_enter Tryz.func84,Tryz.ntmps84;go_wp2;go_ret;exact⟨rfl,rfl⟩
theorem LZ (k:Int) (w:World) (h:1<=k/\k<=9):WS 84 #[iv k] w λe w'=>e=.returned (iv (Ah k))/\w'=w:=by
 have h9:k=1\/k=2\/k=3\/k=4\/k=5\/k=6\/k=7\/k=8\/k=9:=by omega
 rcases h9 with rfl|rfl|rfl|rfl|rfl|rfl|rfl|rfl|rfl;.exact OM w
 .exact OO w
 .exact Pi w
 .exact Ou w
 .exact PH w
 .exact OR w
 .exact Oy w
 .exact PC w
 .exact Pf w
variable {B n:Nat}{a:Option Addr}{f:Nat->Int}{w w':World}
theorem Tryz.info3 : (Tryz.prog.info? 3).map (λi=>(i.zero,i.size,i.bytes))=some (some (iv 0),1,8):=by kernel_rfl
def AY (w:World) (B:Nat) (a:Option Addr) (n:Nat) (f:Nat->Int):Prop:=
 n=0\/∃g,a=some (ad g 0)/\B<=g/\Ai w g 3 n (λi=>iv (f i))
theorem AY.rd (h:AY w B a n f):Rd .i64 w a n f:=by
 rcases h with h|⟨g,rfl,_,hr⟩;.exact Or.inl h
 .exact Or.inr ⟨g,0,rfl,λi hi=>by rw[WM];exact hr.cell hi⟩
theorem AY.mono {B':Nat} (h:AY w B a n f) (hB:B'<=B):AY w B' a n f:=by
 rcases h with h|⟨g,rfl,hg,hr⟩;.exact Or.inl h
 .exact Or.inr ⟨g,rfl,by omega,hr⟩
theorem AY.congr {w:World} {B:Nat} {a:Option Addr} {n:Nat} {f f' : Nat->Int} (h:AY w B a n f) (e:∀i,i<n->f i=f' i):AY w B a n f':=by
 rcases h with h|⟨g,rfl,hg,hr⟩;.exact Or.inl h
 .exact Or.inr ⟨g,rfl,hg,hr.congr (λi hi=>by rw[e i hi])⟩
theorem AY.below (h:AY w B a n f) (hb:Bl w w'):AY w' B a n f:=by
 rcases h with h|⟨g,rfl,hg,hr⟩;.exact Or.inl h
 .exact Or.inr ⟨g,rfl,hg,hr.of_block (hb.block g hr.lt)⟩
theorem AY.only {a':Option Addr} (h:AY w B a n f) (ho:Ed a' w w') (hne:n≠0->∀x y,a=some x->a'=some y->y.block≠x.block):AY w' B a n f:=by
 rcases h with h|⟨g,rfl,hg,hr⟩;.exact Or.inl h
 .by_cases hn:n=0;.exact Or.inl hn
  .exact Or.inr ⟨g,rfl,hg,hr.of_block (ho.block g (λy e=>hne hn (ad g 0) y rfl e))⟩
def VX (w:World) (e:Ending) (w' : World) (n:Nat) (f:Nat->Int):Prop:=
 ∃a c,e=.returned (.slice a n c)/\AY w' w.heap.size a n f/\Bl w w'/\n<=c/\c<=9223372036854775807
def Bi (f:Nat->Int) (n:Nat):List Value:=(List.range n).map λi=>iv (f i)
theorem DN (f:Nat->Int) (n:Nat):(Bi f n).length=n:=by simp[Bi]
theorem Dl (f:Nat->Int) (n i:Nat) (h:i<n):(Bi f n)[i]?=some (iv (f i)):=by simp[Bi,h]
theorem FH {ops:Array Oper} {rest:List Oper} {o:Oper} {act:Act} {Q:Exit->Act->World->Prop} (hgd:o.guard=none) (s x:Operand)
  (ho:o.op=.call { callee:=.builtin .append,args:=#[s,x],argTypes:=#[100,100] })
  (B:Nat) (v:Value) (n:Nat) (xs:List Value) (hs:act.eval s=v) (hown:w.ownsRow B 3 1 v n xs)
  (a:Option Addr) (m c:Nat) (f:Nat->Int) (hx:act.eval x=.slice a m c) (hrd:Rd .i64 w a m f) (hnm:n+m<=1099511627776) (hB:B<=w.heap.size)
  (h:∀v' w',w'.ownsRow B 3 1 v' (n+m) (xs++Bi f m)->w.grownBy w' v.ownBlock->wpList Tryz.prog ops Q rest (act.put o.dst v') w'):wpList Tryz.prog ops Q (o::rest) act w:=by
 obtain⟨i0,hi,hz0,hz1,hz2⟩:=info_parts Tryz.info3;by_cases hm:m=0
 .subst hm;have hsrc:Src Tryz.prog i0.size 100 (.slice a 0 c) 0 [] w:=by
   cases a with
   | none=>exact Src.ofNil w Tryz.underlying100 c
   | some ad=>exact Src.ofSlice w Tryz.underlying100 ad 0 c [] (by simp) (by simp) (by simp)
  have hsh:∃b l cap,v=.slice b l cap/\l<=cap:=by
   rcases hown.2 with ⟨rfl,rfl⟩|⟨g,cap,cur,rfl,_,_,h1,_⟩;.exact⟨none,0,0,rfl,Wu _⟩
   .exact⟨_,n,cap,rfl,h1⟩
  obtain⟨b,l,cap,hvv,hlc⟩:=hsh;have hrun:=run_append_nothing (P:=Tryz.prog) w 100 100 o.type 3 i0 Tryz.underlying100 hi b l cap hlc (.slice a 0 c) hsrc;rw[<- hvv] at hrun;refine wpList_plain hgd λK hK=>?_;unfold Oper.wp;simp[execOp,ho,resolve,invoke,builtin,hs,hx,hrun,Result.andThen];exact hK _ _ (h v w (by simpa[Bi] using hown) ⟨rfl,rfl,rfl,Wu _,λ_ _ _=>rfl⟩)
 .rcases hrd with h0|⟨b,off,rfl,hc⟩;.exact absurd h0 hm
  .refine wpList_append_own w hgd s x 100 ho B 3 i0 (iv 0) 1 8 Tryz.underlying100 hi hz0 hz1 hz2 rfl (by decide) v n xs hs hown (ad b off) m c (Bi f m) hx (by simp[Bi]) (λj u hj=>?_) (λu hu=>?_) (by unfold maxLen;omega) (by omega) hB (λv' w' h1 h2 _=>h v' w' h1 h2)
   .have hjm:j<m:=by have:=(List.getElem?_eq_some_iff.1 hj).1;rwa [DN] at this
    rw[Dl f m j hjm] at hj;injection hj with hj;subst hj;have e:(Addr.add (ad b off) j)=(ad b (off+j)):=by
     unfold Addr.add;by_cases h:j=0;.subst h;simp
     .simp[h]
    rw[e];exact hc j hjm
   .simp only[Bi,List.mem_map] at hu;obtain⟨i,_,rfl⟩:=hu;rfl
theorem NI {v:Value} (h:w.ownsRow B 3 1 v n (Bi f n)):∃a c,v=.slice a n c/\AY w B a n f/\n<=c/\c<=9223372036854775807:=by
 obtain⟨_,h⟩:=h;rcases h with ⟨rfl,rfl⟩|⟨g,cap,cur,rfl,hg,hh,h1,h2,h3,h4⟩;.exact⟨none,0,rfl,Or.inl rfl,Wu _,by omega⟩
 .unfold maxLen at h2;refine⟨_,cap,rfl,Or.inr ⟨g,rfl,hg,cur,hh,by omega,λi hi=>?_⟩,h1,h2⟩;rw[<- Dl f n i hi,<- h4];have:i<n*1:=by omega
  rw[List.getElem?_take,if_pos this];simp
theorem Kq (a:Option Addr) (n c:Nat) (f:Nat->Int) (w:World) (h:Rd .i64 w a n f) (hn:n<=1048576) :
  WS 86 #[.slice a n c] w λe w'=>VX w e w' n f:=by
 have HR:=hid h;clear h;go_enter Tryz.func86,Tryz.ntmps86;go_wp2_with (at_builtin;refine FH rfl _ _ rfl w.heap.size (.slice none 0 0) 0 [] rfl (World.ownsRow_nil _ _ _ _) a n c f rfl HR.o (by omega) (Wu _) ?_)
 intro v' w' ho hg;have HB:=hid ((Wt _ _).grown hg (Wu _) (λk e=>by simp[Value.ownBlock] at e));obtain⟨a',c',rfl,h1,h2,h3⟩:=NI ho;have H1:=hid h1;clear ho hg h1;go_wp2;go_ret;exact⟨a',c',rfl,H1.o,HB.o,h2,h3⟩
variable {c d g l:Nat}{S:Nat->Int}{W w2:World}{p:Option Addr}
theorem TI:(Tryz.prog.info? 102).map (λi=>(i.zero,i.size,i.bytes))=some (some (.agg #[iv 0,.string { data:=#[] },.string { data:=#[] },.bool false,.string { data:=#[] },.slice none 0 0,iv 0]),7,96):=by kernel_rfl
theorem Rm:Tryz.prog.underlying 87=some (.slice 102):=by kernel_rfl
structure DK where
 kind:Int
 s:ByteArray
 t:ByteArray
 bound:Bool
 label:ByteArray
 ad:Option Addr
 cnt:Nat
 cap:Nat
 height:Int
def DK.cells (p:DK):List Value:=[iv p.kind,.string p.s,.string p.t,.bool p.bound,.string p.label,.slice p.ad p.cnt p.cap,iv p.height]
theorem DK.len (p:DK):p.cells.length=7:=rfl
def D4 (f:Nat->DK) (n:Nat):List Value:=(List.range n).flatMap λi=>(f i).cells
theorem Do (f:Nat->DK) (n:Nat):D4 f (n+1)=D4 f n++(f n).cells:=by unfold D4;rw[List.range_succ,List.flatMap_append];simp
theorem CX (f:Nat->DK):∀n,(D4 f n).length=n*7
 | 0=>rfl
 | n+1=>by rw[Do,WD,CX f n,DK.len];omega
theorem JW (f:Nat->DK):∀(n i r:Nat),i<n->r<7->(D4 f n)[i*7+r]?=(f i).cells[r]?
 | 0,_,_,h,_=>absurd h (Wy _)
 | n+1,i,r,h,hr=>by
  rw[Do]
  by_cases e:i=n
  .subst e
   rw[List.getElem?_append_right (by rw[CX];omega),CX,show i*7+r-i*7=r by omega]
  .rw[List.getElem?_append_left (by rw[CX];omega)]
   exact JW f n i r (by omega) hr
theorem GH {f f' : Nat->DK}:∀{n:Nat},(∀i,i<n->f i=f' i)->D4 f n=D4 f' n
 | 0,_=>rfl
 | n+1,h=>by rw[Do,Do,GH (n:=n) (λi hi=>h i (by omega)),h n (by omega)]
def Wq (f:Nat->DK) (n:Nat) (p:DK) (i:Nat):DK:=if i=n then p else f i
def AQ (w:World) (g n:Nat) (f:Nat->DK):Prop:=
 ∃cur,w.heap[g]?=some (.cells cur 102 (0,0))/\n*7<=cur.size/\∀i r,i<n->r<7->cur[i*7+r]?=(f i).cells[r]?
theorem AQ.lt {f:Nat->DK} (h:AQ w g n f):g<w.heap.size:=by obtain⟨cur,hh,_⟩:=h;exact (Array.getElem?_eq_some_iff.1 hh).1
theorem AQ.cell {w:World} {g n:Nat} {f:Nat->DK} (h:AQ w g n f) {i r:Nat} (hi:i<n) (hr:r<7):w.cell? (ad g (i*7+r))=(f i).cells[r]?:=by obtain⟨cur,hh,_,hc⟩:=h;rw[<- hc i r hi hr];simp[World.cell?,hh]
theorem AQ.of_block {f:Nat->DK} (h:AQ w g n f) (hb:w'.heap[g]?=w.heap[g]?):AQ w' g n f:=by obtain⟨cur,hh,h1,hc⟩:=h;exact⟨cur,hb.trans hh,h1,hc⟩
theorem AQ.below {f:Nat->DK} (h:AQ w g n f) (hb:Bl w w'):AQ w' g n f:=h.of_block (hb.block g h.lt)
theorem AQ.other {f:Nat->DK} (h:AQ w g n f) {p:Addr} (hp:g≠p.block) (v:Value):AQ (w.setCell p v) g n f:=h.of_block (Wv _ _ _ _ hp)
theorem AQ.seven {f:Nat->DK} (h:AQ w g n f) {i:Nat} (hi:i<n) :
  w.cell? (ad g (i*7))=some (iv (f i).kind)/\w.cell? (ad g (i*7+1))=some (.string (f i).s)/\w.cell? (ad g (i*7+2))=some (.string (f i).t)/\w.cell? (ad g (i*7+3))=some (.bool (f i).bound)/\w.cell? (ad g (i*7+4))=some (.string (f i).label)/\w.cell? (ad g (i*7+5))=some (.slice (f i).ad (f i).cnt (f i).cap)/\w.cell? (ad g (i*7+6))=some (iv (f i).height):=
 ⟨h.cell (r:=0) hi (by decide),h.cell (r:=1) hi (by decide),h.cell (r:=2) hi (by decide),h.cell (r:=3) hi (by decide),h.cell (r:=4) hi (by decide),h.cell (r:=5) hi (by decide),h.cell (r:=6) hi (by decide)⟩
theorem Nu {v:Value} {f:Nat->DK} (h:w.ownsRow B 102 7 v n (D4 f n)) (hn:0<n):∃g c,v=.slice (some (ad g 0)) n c/\B<=g/\AQ w g n f/\n<=c/\c<=9223372036854775807:=by
 obtain⟨_,h⟩:=h;rcases h with ⟨rfl,rfl⟩|⟨g,cap,cur,rfl,hg,hh,h1,h2,h3,h4⟩;.omega
 .unfold maxLen at h2;refine⟨g,cap,rfl,hg,⟨cur,hh,by omega,λi r hi hr=>?_⟩,h1,h2⟩;rw[<- JW f n i r hi hr,<- h4,List.getElem?_take,if_pos (by omega)];simp
def Wh (w:World) (B:Nat) (p:DK) (F:Nat->Nat):Prop:=AY w B p.ad p.cnt (λj=>(F j:Int))
theorem R7 (w:World) (p:DK):∀j u,p.cells[j]?=some u->(w.alloc (.cells #[iv p.kind,.string p.s,.string p.t,.bool p.bound,.string p.label,.slice p.ad p.cnt p.cap,iv p.height] 102)).cell? (((ad w.heap.size 0):Addr).add j)=some u:=by
 intro j u hj;match j,hj with
 | 0,hj|1,hj|2,hj|3,hj|4,hj|5,hj|6,hj=>simp[DK.cells] at hj;subst hj;simp[Addr.add]
 | j+7,hj=>simp[DK.cells] at hj
theorem SJ (p:DK):∀u∈p.cells,u.oneCell'=true:=by intro u hu;simp[DK.cells] at hu;rcases hu with rfl|rfl|rfl|rfl|rfl|rfl|rfl <;> rfl
theorem AQ.ne {f:Nat->DK} (h:AQ w g n f) {g':Nat} {t':TypeId} {n':Nat} {F:Nat->Value} (h' : Ai w g' t' n' F) (ht:102≠t'):g'≠g:=by rintro rfl;obtain⟨c,hb,_⟩:=h;obtain⟨c',hb',_,_⟩:=h';rw[hb] at hb';injection hb' with e;injection e with _ e2 _;exact ht e2
theorem AQ.set {w:World} {g n:Nat} {f f' : Nat->DK} (h:AQ w g n f) (i r:Nat) (v:Value) (hr:r<7) (hne:∀j,j≠i->f' j=f j) (hi:(f' i).cells=(f i).cells.set r v):AQ (w.setCell (ad g (i*7+r)) v) g n f':=by
 obtain⟨c,hb,hn,hc⟩:=h;refine⟨c.setIfInBounds (i*7+r) v,?_,by simpa using hn,λj q hj hq=>?_⟩;.simp[World.setCell,Array.getElem?_modify,hb]
 .rw[Array.getElem?_setIfInBounds];by_cases e:j=i
  .subst e;rw[hi,List.getElem?_set];by_cases e2:r=q
   .subst e2;have h1:j*7+r<c.size:=by omega
    have h2:r<(f j).cells.length:=by rw[DK.len];exact hr
    simp[h1,h2]
   .rw[if_neg (by omega),if_neg e2];exact hc j q hj hq
  .rw[if_neg (by omega),hne j e];exact hc j q hj hq
theorem AQ.congr {f f' : Nat->DK} (h:AQ w g n f) (e:∀i,i<n->f i=f' i):AQ w g n f':=by obtain⟨c,hb,hn,hc⟩:=h;exact⟨c,hb,hn,λj q hj hq=>by rw[<- e j hj];exact hc j q hj hq⟩
def TW (p:Option Addr) (l c:Nat):Option Addr:=if c=l then p else p.map (·.add (l*1))
theorem QN (h:W.ownsRow B 3 1 (.slice p d c) d (Bi S d)) (hl:l<=d):Rd .i64 W (TW p l c) (d-l) (λj=>S (l+j)):=by
 by_cases e:d-l=0;.exact Or.inl e
 .rcases h.2 with ⟨_,h0⟩|⟨g,cap,cur,hv,hg,hh,h1,h2,h3,h4⟩;.omega
  .injection hv with e1 e2 e3;subst e1 e3;refine Or.inr ⟨g,l,?_,λi hi=>?_⟩
   .unfold TW;rw[if_neg (by omega),Nat.mul_one];show some (Addr.add (ad g 0) l)=_;unfold Addr.add;by_cases h0:l=0;.subst h0;simp
    .simp[h0]
   .have e1:cur[l+i]?=some (iv (S (l+i))):=by rw[<- Dl S d (l+i) (by omega),<- h4,List.getElem?_take,if_pos (by omega)];simp
    simp[World.cell?,hh,e1]
theorem RF (h:W.ownsRow B 3 1 (.slice p d c) d (Bi S d)) (hl:l<=d):W.ownsRow B 3 1 (.slice p l c) l (Bi S l):=by
 refine⟨by rw[DN];omega,?_⟩;rcases h.2 with ⟨hv,h0⟩|⟨g,cap,cur,hv,hg,hh,h1,h2,h3,h4⟩;.injection hv with e1 e2 e3;subst e1 e2 e3;exact Or.inl ⟨by rw[show l=0 by omega],by omega⟩
 .injection hv with e1 e2 e3;subst e1 e3;refine Or.inr ⟨g,c,cur,rfl,hg,hh,by omega,h2,h3,?_⟩;have e:cur.toList.take (l*1)=(cur.toList.take (d*1)).take (l*1):=by rw[List.take_take,Nat.min_eq_left (by omega)]
  rw[e,h4];apply List.ext_getElem?;intro i;rw[List.getElem?_take];by_cases hi:i<l*1;.rw[if_pos hi,Dl _ _ _ (by omega),Dl _ _ _ (by omega)]
  .rw[if_neg hi,List.getElem?_eq_none (by rw[DN];omega)]
theorem LT (S:Nat->Int) (l:Nat) (x:Int):Bi S l++[iv x]=Bi (λj=>if j=l then x else S j) (l+1):=by
 unfold Bi;rw[List.range_succ,List.map_append];congr 1;.refine List.map_congr_left (λj hj=>?_);have:=List.mem_range.1 hj;simp only[if_neg (show j≠l by omega)]
 .simp
theorem Os {k:Int} (h:¬ (1<=k/\k<=9)):Ke k=λ_ _=>false:=by funext s t;unfold Ke;rw[if_neg (by omega),if_neg (by omega),if_neg (by omega)]
theorem KZ (k:Int) (w:World) (hk:¬ (1<=k/\k<=9)):WS 84 #[iv k] w λe w'=>e=.returned (iv 1)/\w'=w:=by
 have e1:(k == 1)=false:=by simp;omega
 have e2:(k == 2)=false:=by simp;omega
 have e3:(k == 3)=false:=by simp;omega
 have e4:(k == 4)=false:=by simp;omega
 have e5:(k == 5)=false:=by simp;omega
 have e6:(k == 6)=false:=by simp;omega
 have e7:(k == 7)=false:=by simp;omega
 have e8:(k == 8)=false:=by simp;omega
 have e9:(k == 9)=false:=by simp;omega
 have f1:¬ k=1:=by omega
 have f2:¬ k=2:=by omega
 have f3:¬ k=3:=by omega
 have f4:¬ k=4:=by omega
 have f5:¬ k=5:=by omega
 have f6:¬ k=6:=by omega
 have f7:¬ k=7:=by omega
 have f8:¬ k=8:=by omega
 have f9:¬ k=9:=by omega
 clear hk;go_enter Tryz.func84,Tryz.ntmps84;go_wp2;go_ret;exact⟨rfl,rfl⟩
theorem II {ops:Array Oper} {o:Oper} {a:Act} {K:Act->World->Prop} {Q:Exit->Act->World->Prop} {E:Prop} (hgd:o.guard=none) (x y:Operand)
  (ho:o.op=.call { callee:=.builtin .append,args:=#[x,y],argTypes:=#[87,87] })
  (B k:Nat) (v:Value) (xs:List Value) (p:DK) (hx:a.eval x=v) (hown:w2.ownsRow B 102 7 v k xs) (hy:a.eval y=.slice (some (ad w2.heap.size 0)) 1 1)
  (hk:k<=1048576) (hB:B<=w2.heap.size)
  (h:∀v' w',w'.ownsRow B 102 7 v' (k+1) (xs++p.cells)->(w2.alloc (.cells #[iv p.kind,.string p.s,.string p.t,.bool p.bound,.string p.label,.slice p.ad p.cnt p.cap,iv p.height] 102)).grownBy w' v.ownBlock->K (a.put o.dst v') w') :
  if Region.wanted o (yielded ops a.tmps)=true then Oper.wp Tryz.prog o a (w2.alloc (.cells #[iv p.kind,.string p.s,.string p.t,.bool p.bound,.string p.label,.slice p.ad p.cnt p.cap,iv p.height] 102)) K Q else E:=by
 have hw:Region.wanted o (yielded ops a.tmps)=true:=by simp[Region.wanted,hgd]
 rw[if_pos hw];obtain⟨i0,hi,hz0,hz1,hz2⟩:=info_parts TI;exact wp_append_own _ x y 87 ho B 102 i0 _ 7 96 Rm hi hz0 hz1 hz2 rfl (by decide) v k xs hx (hown.alloc _) (ad w2.heap.size 0) 1 1 p.cells hy rfl (R7 w2 p) (SJ p) (by unfold maxLen;omega) (by omega) (by simp;omega) (λv' w' q1 q2 _=>h v' w' q1 q2)
theorem Er {w3:World} {O:Obj} {row:Option Nat} (hg:(w2.alloc O).grownBy w3 row) {x:Addr} (hx:x.block<w2.heap.size) (hne:row≠some x.block):w3.cell? x=w2.cell? x:=by rw[World.cell?_of_block (w:=w2.alloc O) (hg.block x.block (by simp;omega) (λe=>hne e.symm))];exact World.cell?_of_block (w:=w2) (Below.heap_alloc _ _ _ hx)
variable {s:Nat}{W':World}{t:TypeId}{v':Value}{xs:List Value}
def B5 (I:Nat->Int) (X R:Nat->ByteArray) (AA:Nat->Option Addr) (CC:Nat->Nat) (Bd:Nat->Bool) (Lb:Nat->ByteArray) (H:Nat->Int) (i:Nat):DK:=⟨I i,X i,R i,Bd i,Lb i,AA i,Ah (I i),CC i,H i⟩
def At (I:Nat->Int) (i:Nat):Nat:=Ah (I i)
theorem Dc (I:Nat->Int) (i:Nat):At I i<=2:=BD _
theorem FW {v:Value} (h:W.ownsRow B t s v n xs) (hk:∀g,v.ownBlock=some g->W'.heap[g]?=W.heap[g]?):W'.ownsRow B t s v n xs:=by
 refine⟨h.1,?_⟩;rcases h.2 with h2|⟨g,cap,cur,rfl,hg,hh,r⟩;.exact Or.inl h2
 .exact Or.inr ⟨g,cap,cur,rfl,hg,(hk g rfl).trans hh,r⟩
theorem Bj {v:Value} (h:W.ownsRow B t s v n xs) (hb:Bl W W'):W'.ownsRow B t s v n xs:=
 FW h (λg e=>hb.block g (h.lt g e).2)
theorem Lg {v:Value} (h:W.ownsRow B t s v n xs) (e:v.ownBlock=some g):∃cur,W.heap[g]?=some (.cells cur t (0,0)):=by
 rcases h.2 with ⟨rfl,_⟩|⟨g',cap,cur,rfl,hg,hh,r⟩;.simp[Value.ownBlock] at e
 .simp[Value.ownBlock] at e;subst e;exact⟨cur,hh⟩
theorem Rc {c c':Array Value} {t':TypeId} (h:W.heap[g]?=some (.cells c t (0,0))) (h' : W.heap[g]?=some (.cells c' t' (0,0))) (ht:t≠t'):False:=by rw[h] at h';injection h' with e;injection e with _ e2 _;exact ht e2
structure D1 (W:World) (B:Nat) (I:Nat->Int) (X R:Nat->ByteArray) (kt ks:Nat) (v4 v5:Value) (d:Nat) (AA:Nat->Option Addr) (CC:Nat->Nat) (S:Nat->Nat):Prop where
 row:W.ownsRow B 102 7 v4 kt (D4 (B5 I X R AA CC (λ_=>false) (λ_=>{ data:=#[] }) (λ_=>0)) kt)
 ops:∀i,i<kt->AY W B (AA i) (Ah (I i)) (λj=>(AK (At I) i j:Int))
 caps:∀i,i<kt->Ah (I i)<=CC i/\CC i<=9223372036854775807
 stk:W.ownsRow B 3 1 v5 d (Bi (λj=>(S j:Int)) d)
 apart:∀i,i<kt->Ah (I i)≠0->∀x,AA i=some x->v5.ownBlock≠some x.block
 st:∀j,j<d->Cf (At I) ks (j+1) (S j)
 dd:dep (At I) ks=d
 ok:AM (At I) ks
section
variable {W W1 W2:World} {B:Nat} {I:Nat->Int} {X R:Nat->ByteArray} {k kt ks d:Nat} {v4 v5:Value} {AA:Nat->Option Addr} {CC:Nat->Nat} {S:Nat->Nat}
theorem D1.start (W:World) (B:Nat) (I:Nat->Int) (X R:Nat->ByteArray):D1 W B I X R 0 0 (.slice none 0 0) (.slice none 0 0) 0 (λ_=>none) (λ_=>0) (λ_=>0):=
 ⟨World.ownsRow_nil _ _ _ _,λi hi=>absurd hi (Wy _),λi hi=>absurd hi (Wy _),World.ownsRow_nil _ _ _ _,λi hi=>absurd hi (Wy _),λi hi=>absurd hi (Wy _),rfl,λi hi=>absurd hi (Wy _)⟩
theorem D1.below (h:D1 W B I X R kt ks v4 v5 d AA CC S) (hb:Bl W W1):D1 W1 B I X R kt ks v4 v5 d AA CC S:=
 ⟨Bj h.row hb,λi hi=>(h.ops i hi).below hb,h.caps,Bj h.stk hb,h.apart,h.st,h.dd,h.ok⟩
theorem D1.opnd (h:D1 W B I X R k k v4 v5 d AA CC S) (hd:Ah (I k)<=d) {j:Nat} (hj:j<Ah (I k)):S (d-Ah (I k)+j)=AK (At I) k j:=by
 have h1:=h.st (d-Ah (I k)+j) (by omega);have hok:AM (At I) (k+1):=by
  intro i hi;by_cases e:i=k;.subst e;rw[h.dd];show ((Ah (I i):Nat):Int)<=_;omega
  .exact h.ok i (by omega)
 exact h1.uniq (C4 hok (by omega) (Dc I k) hj h.dd)
theorem D1.push (h:D1 W B I X R k ks v4 v5 d AA CC S) (hB:B<=W.heap.size) (hb:Bl W W1) {ad:Option Addr} {c:Nat} (hn:AY W1 W.heap.size ad (Ah (I k)) (λj=>(AK (At I) k j:Int))) (hc:Ah (I k)<=c) (hcm:c<=9223372036854775807)
  (hr:W2.ownsRow B 102 7 v' (k+1) (D4 (B5 I X R AA CC (λ_=>false) (λ_=>{ data:=#[] }) (λ_=>0)) k++(DK.mk (I k) (X k) (R k) false { data:=#[] } ad (Ah (I k)) c 0).cells)) (hg:W1.grownBy W2 v4.ownBlock) :
  D1 W2 B I X R (k+1) ks v' v5 d (λi=>if i=k then ad else AA i) (λi=>if i=k then c else CC i) S:=by
 have keep:∀{g:Nat} {cur:Array Value},W1.heap[g]?=some (.cells cur 3 (0,0))->W2.heap[g]?=W1.heap[g]?:=by intro g cur hh;refine hg.block g (Array.getElem?_eq_some_iff.1 hh).1 (λe=>?_);obtain⟨cur',hh'⟩:=Lg (Bj h.row hb) e.symm;exact Rc hh' hh (by decide)
 have keepI:∀{B' : Nat} {a:Option Addr} {n:Nat} {f:Nat->Int},AY W1 B' a n f->AY W2 B' a n f:=by
  intro B' a n f ho;rcases ho with h0|⟨g,rfl,hg',hr'⟩;.exact Or.inl h0
  .obtain⟨cur,hh,q1,q2⟩:=hr';exact Or.inr ⟨g,rfl,hg',cur,(keep hh).trans hh,q1,q2⟩
 refine⟨?_,λi hi=>?_,λi hi=>?_,?_,λi hi hl x hx=>?_,h.st,h.dd,h.ok⟩
 .rw[Do];have e1:D4 (B5 I X R (λi=>if i=k then ad else AA i) (λi=>if i=k then c else CC i) (λ_=>false) (λ_=>{ data:=#[] }) (λ_=>0)) k=D4 (B5 I X R AA CC (λ_=>false) (λ_=>{ data:=#[] }) (λ_=>0)) k:=
   GH (λi hi=>by unfold B5;simp only[if_neg (show i≠k by omega)])
  rw[e1];have e2:B5 I X R (λi=>if i=k then ad else AA i) (λi=>if i=k then c else CC i) (λ_=>false) (λ_=>{ data:=#[] }) (λ_=>0) k=DK.mk (I k) (X k) (R k) false { data:=#[] } ad (Ah (I k)) c 0:=by unfold B5;simp only[if_true]
  rw[e2];exact hr
 .by_cases e:i=k;.subst e;simp only[if_true];exact keepI (hn.mono hB)
  .simp only[if_neg e];exact keepI ((h.ops i (by omega)).below hb)
 .by_cases e:i=k;.subst e;simp only[if_true];exact⟨hc,hcm⟩
  .simp only[if_neg e];exact h.caps i (by omega)
 .refine FW (Bj h.stk hb) (λg e=>?_);obtain⟨cur,hh⟩:=Lg (Bj h.stk hb) e;exact keep hh
 .by_cases e:i=k
  .subst e;simp only[if_true] at hx;rcases hn with h0|⟨g,rfl,hg',_⟩;.exact absurd h0 hl
   .injection hx with hx;subst hx;intro e2;have h3:g<W.heap.size:=(h.stk.lt _ e2).2;omega
  .simp only[if_neg e] at hx;exact h.apart i (by omega) hl x hx
theorem D1.put (h:D1 W B I X R (k+1) k v4 v5 d AA CC S) (hb:Bl W W1) (hd:Ah (I k)<=d)
  (hr:W2.ownsRow B 3 1 v' (d-Ah (I k)+1) (Bi (λj=>(S j:Int)) (d-Ah (I k))++[iv (k:Int)])) (hg:W1.grownBy W2 v5.ownBlock) (hat:v'.ownBlock=v5.ownBlock\/v'.ownBlock=some W1.heap.size) :
  D1 W2 B I X R (k+1) (k+1) v4 v' (d-Ah (I k)+1) AA CC (λj=>if j=d-Ah (I k) then k else S j):=by
 have e0:(At I k:Int)=(Ah (I k):Nat):=rfl;refine⟨?_,λi hi=>?_,h.caps,?_,λi hi hl x hx=>?_,λj hj=>?_,?_,λi hi=>?_⟩;.refine FW (Bj h.row hb) (λg e=>hg.block g ((Bj h.row hb).lt _ e).2 (λe2=>?_));obtain⟨cur,hh⟩:=Lg (Bj h.row hb) e;obtain⟨cur',hh'⟩:=Lg (Bj h.stk hb) e2.symm;exact Rc hh hh' (by decide)
 .rcases (h.ops i hi).below hb with h0|⟨g,e,hg',hr'⟩;.exact Or.inl h0
  .by_cases h0:Ah (I i)=0;.exact Or.inl h0
   .refine Or.inr ⟨g,e,hg',hr'.of_block (hg.block g hr'.lt (λe2=>?_))⟩;exact h.apart i hi h0 _ e e2.symm
 .rw[LT] at hr;refine (congrArg (W2.ownsRow B 3 1 v' (d-Ah (I k)+1)) ?_).mp hr;unfold Bi;refine List.map_congr_left (λj hj=>?_);by_cases e:j=d-Ah (I k);.simp only[if_pos e]
  .simp only[if_neg e]
 .rcases hat with e|e;.rw[e];exact h.apart i hi hl x hx
  .rw[e];intro e2;injection e2 with e2;rcases (h.ops i hi).below hb with h0|⟨g,e3,hg',hr'⟩;.exact hl h0
   .rw[hx] at e3;injection e3 with e3;subst e3;have h3:=hr'.lt;have e4:W1.heap.size=g:=e2;omega
 .by_cases e:j=d-Ah (I k);.simp only[if_pos e];subst e;refine GP ?_;rw[A5,h.dd];omega
  .simp only[if_neg e];refine (h.st j (by omega)).stay ?_;rw[h.dd];omega
 .rw[A5,h.dd];omega
 .by_cases e:i=k;.subst e;rw[h.dd];omega
  .exact h.ok i (by omega)
end
variable {I:Nat->Int}{s t:ByteArray}
def Lj (C:(Nat->Bool)->(Nat->ByteArray)->Prop) (w:World) (n:Nat) (I:Nat->Int) (X R:Nat->ByteArray) (e:Ending) (w' : World):Prop:=
 Bl w w'/\
 ((¬ Ce n I X R/\∃v,e=.returned (.tuple #[v,.bool false]))\/
 (Ce n I X R/\∃g c AA CC Bd Lb,e=.returned (.tuple #[.slice (some (ad g 0)) n c,.bool true])/\w.heap.size<=g/\n<=c/\c<=9223372036854775807/\C Bd Lb/\
  AQ w' g n (B5 I X R AA CC Bd Lb (λi=>(hM (At I) 100 i:Int)))/\(∀i,i<n->AY w' w.heap.size (AA i) (Ah (I i)) (λj=>(AK (At I) i j:Int)))/\(∀i,i<n->Ah (I i)<=CC i/\CC i<=9223372036854775807)))
def Qy (w:World) (b:Nat) (k:Int) (s t:ByteArray):Prop:=w.cell? (ad b 0)=some (iv k)/\w.cell? (ad b 1)=some (.string s)/\w.cell? (ad b 2)=some (.string t)
theorem Qy.below {b:Nat} {k:Int} (h:Qy w b k s t) (hb:Bl w w'):Qy w' b k s t:=by
 obtain⟨h1,h2,h3⟩:=h;refine⟨?_,?_,?_⟩;.rw[hb.cell (Ws _ _ h1)];exact h1
 .rw[hb.cell (Ws _ _ h2)];exact h2
 .rw[hb.cell (Ws _ _ h3)];exact h3
def MeasureOk:Prop:=∀(g n c B:Nat) (I:Nat->Int) (X R:Nat->ByteArray) (AA:Nat->Option Addr) (CC:Nat->Nat) (Bd:Nat->Bool) (Lb:Nat->ByteArray) (w:World),
 AQ w g n (B5 I X R AA CC Bd Lb (λ_=>0))->(∀i,i<n->AY w B (AA i) (Ah (I i)) (λj=>(AK (At I) i j:Int)))->(∀i,i<n->Ah (I i)<=CC i/\CC i<=9223372036854775807)->AM (At I) n->n<=100->0<n->
 WS 87 #[.slice (some (ad g 0)) n c] w λe w'=>e=.returned (.tuple #[])/\AQ w' g n (B5 I X R AA CC Bd Lb (λi=>(hM (At I) 100 i:Int)))/\w.grownBy w' (some g)
def M4 (C:Nat->(Nat->Int)->(Nat->ByteArray)->(Nat->Bool)->(Nat->ByteArray)->Prop):Prop:=∀(g n c B:Nat) (I:Nat->Int) (X R:Nat->ByteArray) (AA:Nat->Option Addr) (CC:Nat->Nat) (H:Nat->Int) (w:World),
 AQ w g n (B5 I X R AA CC (λ_=>false) (λ_=>{ data:=#[] }) H)->(∀i,i<n->AY w B (AA i) (Ah (I i)) (λj=>(AK (At I) i j:Int)))->(∀i,i<n->Ah (I i)<=CC i/\CC i<=9223372036854775807)->AM (At I) n->n<=100->0<n->B<=w.heap.size->
 WS 88 #[.slice (some (ad g 0)) n c] w λe w'=>e=.returned (.tuple #[])/\∃Bd Lb,C n I X Bd Lb/\AQ w' g n (B5 I X R AA CC Bd Lb H)/\w.grownBy w' (some g)
def LastOk:Prop:=∀(g n c:Nat) (f:Nat->DK) (w:World),AQ w g n f->0<n->n<=100->
 WS 89 #[.slice (some (ad g 0)) n c] w (WT w (.agg #[iv (f (n-1)).kind,.string (f (n-1)).s,.string (f (n-1)).t,.bool (f (n-1)).bound,.string (f (n-1)).label,.slice (f (n-1)).ad (f (n-1)).cnt (f (n-1)).cap,iv (f (n-1)).height]))
def LM (k:Int):Nat:=if 1<=k/\k<=9 then Ah k else 1
theorem SH (k:Int):LM k<=2:=by have:=BD k;unfold LM;split <;> omega
theorem LR (k:Int) (w:World):WS 84 #[iv k] w λe w'=>e=.returned (iv (LM k))/\w'=w:=by
 by_cases h:1<=k/\k<=9;.rw[show LM k=Ah k from if_pos h];exact LZ k w h
 .rw[show LM k=1 from if_neg h];exact KZ k w h
theorem PB {k:Int} (h:Ke k s t=true):LM k=Ah k:=by
 by_cases e:1<=k/\k<=9;.exact if_pos e
 .rw[Os e] at h;cases h
theorem TJ {X R:Nat->ByteArray} {k:Nat} (hk:k<n) (h:¬ (Ah (I k):Int)<=dep (At I) k):¬ Ce n I X R:=λhv=>by
 have h1:=(Ct (λi=>Ah (I i)) n (by omega)).1 hv.2.2.1
 exact h (h1.1 k hk)
theorem AY.grownP {B:Nat} {a:Option Addr} {f:Nat->Int} {g m:Nat} {F:Nat->DK} (h:AY w B a n f) (hp:AQ w g m F) (hg:w.grownBy w' (some g)):AY w' B a n f:=by
 rcases h with h|⟨q,rfl,hq,hr⟩;.exact Or.inl h
 .refine Or.inr ⟨q,rfl,hq,hr.of_block (hg.block q hr.lt (λe=>?_))⟩;injection e with e;exact hp.ne hr (by decide) e
theorem OE (hn:0<n) (hok:AM (At I) n) (hd:dep (At I) n=1):Am (λi=>Ah (I i)) n 0/\Hd 100 (λi=>Ah (I i)) n=hM (At I) 100 (n-1):=by
 have hb:=(Ct (At I) n hn).2 ⟨hok,hd⟩;refine⟨hb,?_⟩;have h1:=MN hok (Dc I) 100 (n-1) 0 (by omega) (by rw[show n-1+1=n by omega];exact hb);rw[show n-1+1-0=n by omega] at h1;have e:(λq=>At I (0+q))=λi=>Ah (I i):=by funext q;rw[WM];rfl
 rw[e] at h1;exact h1
theorem QB (a b d f:Value) (e:Value) (c:Value) (h:Value) (w:World):(Instr.field 102 (.agg #[a,b,c,d,e,f,h]) 3).run Tryz.prog w=.ok h w:=by kernel_rfl
theorem Kw (C:Nat->(Nat->Int)->(Nat->ByteArray)->(Nat->Bool)->(Nat->ByteArray)->Prop) (hME:MeasureOk) (hBI:M4 C) (hLA:LastOk) (a:Option Addr) (n c:Nat) (I:Nat->Int) (X R:Nat->ByteArray) (w:World) (h:DP w a n I X R) (hn:n<=1048576) (hc:n<=c) (hcm:c<=9223372036854775807) :
  WS 39 #[.agg #[.slice a n c]] w (Lj (C n I X) w n I X R):=by
 have HR:U (DP w a n I X R):=h;have HME:U MeasureOk:=hME;have HBI:U (M4 C):=hBI;have HLA:U LastOk:=hLA;clear h hME hBI hLA;by_cases h2:100<n
 .have i2:(100:Int)<(n:Int):=by omega
  have i2' : decide ((100:Int)<(n:Int))=true:=decide_eq_true i2;have HN:U (¬ Ce n I X R):=λh=>by have:=h.1;omega
  go_enter Tryz.func39,Tryz.ntmps39;go_wp2;refine bodyPost_ret (v:=.tuple #[.slice none 0 0,.bool false]) (by simp[results,Tryz.results39,go_sem]) rfl ⟨Aa _ _,.inl ⟨HN.o,_,rfl⟩⟩
 .have i2:¬ (100:Int)<(n:Int):=by omega
  have i2' : decide ((100:Int)<(n:Int))=false:=decide_eq_false i2;have HC:U (∀W:World,Bl w W->∀i,i<n->∃b o,a=some (ad b o)/\W.cell? (ad b (o+i*3))=some (iv (I i))/\W.cell? (ad b (o+i*3+1))=some (.string (X i))/\W.cell? (ad b (o+i*3+2))=some (.string (R i))):=by
   intro W hW i hi;rcases HR.o.below hW with h|⟨b',o',e,hcc⟩;.omega
   .exact⟨b',o',e,hcc i hi⟩
  go_enter Tryz.func39,Tryz.ntmps39;go_wp2;go_loopw [4,5,16] (λt o i wr=>∃k d:Nat,∃AA CC S,k<=n/\i=iv k/\(∀j,j<k->Ke (I j) (X j) (R j)=true)/\D1 wr (w.heap.size+1) I X R k k t o d AA CC S/\d<=k/\Below (w.heap.size+1) (w.alloc (.cells #[.slice a n c] 41)) wr) (λ_ _ i _=>n-(intOf i).toNat)
  case atStart=>exact⟨0,0,_,_,_,Ww _,rfl,λj hj=>absurd hj (Wy _),D1.start _ _ _ _ _,Wu _,Wt _ _⟩
  case round=>
   obtain⟨k,d,AA,CC,S,hk,rfl,hg,hst,hdk,hb⟩:=hrel;have HG:U (∀j,j<k->Ke (I j) (X j) (R j)=true):=hg;obtain⟨p4,c4,rfl⟩:=CG hst.row;obtain⟨p5,c5,rfl⟩:=CG hst.stk;have HST:U (D1 wr (w.heap.size+1) I X R k k (.slice p4 k c4) (.slice p5 d c5) d AA CC S):=hst;have HB:U (Below (w.heap.size+1) (w.alloc (.cells #[.slice a n c] 41)) wr):=hb;have HBW:U (Bl w wr):=(Aa _ _).trans (hb.mono (by omega));obtain⟨x0,xz⟩:=QA hb;clear hg hb hst;by_cases hlt:k<n
   .obtain⟨b,o,rfl,c0,c1,c2⟩:=HC.o wr HBW.o k hlt;have ik:(k:Int)<(n:Int):=by omega
    have ik0:(0:Int)<=(k:Int):=by omega
    go_upto_region 8 with fail
    have S1:U ((Qy (wr.alloc (Obj.cells #[iv (I k),.string (X k),.string (R k)] 97)) wr.heap.size (I k) (X k) (R k)/\wr.heap.size<(wr.alloc (Obj.cells #[iv (I k),.string (X k),.string (R k)] 97)).heap.size/\w.heap.size+1<=wr.heap.size)/\D1 (wr.alloc (Obj.cells #[iv (I k),.string (X k),.string (R k)] 97)) (w.heap.size+1) I X R k k (.slice p4 k c4) (.slice p5 d c5) d AA CC S/\Below (w.heap.size+1) (w.alloc (.cells #[.slice (some (ad b o)) n c] 41)) (wr.alloc (Obj.cells #[iv (I k),.string (X k),.string (R k)] 97))):=
     ⟨⟨⟨by simp,by simp,by simp⟩,by simp,by omega⟩,HST.o.below (Aa _ _),HB.o.trans ((Aa _ _).mono (by omega))⟩
    have HNB:U ((Value.slice p4 k c4).ownBlock≠some wr.heap.size/\(Value.slice p5 d c5).ownBlock≠some wr.heap.size):=⟨λe=>by have:=(HST.o.row.lt _ e).2;omega,λe=>by have:=(HST.o.stk.lt _ e).2;omega⟩;clear HST HB HBW x0 c0 c1 c2 HC;generalize (wr.alloc (Obj.cells #[iv (I k),.string (X k),.string (R k)] 97))=W at S1 ⊢;clear xz;generalize wr.heap.size=nb at S1 HNB ⊢;have hdd:=S1.o.2.1.dd;obtain⟨⟨y0,y1,y2⟩,yz,yb⟩:=S1.o.1;have hoc:=SH (I k);have wd:IntKind.i64.wrap ((d:Int)-(LM (I k):Int))=(d:Int)-(LM (I k):Int):=by rw[Wz];omega
    go_wp2_with fail
    refine (LR (I k) W).mono ?_;rintro e w2 ⟨rfl,hw2⟩;subst hw2;go_wp2_with fail
    refine (Nb (I k) (X k) (R k) w2).mono ?_;rintro e w3 ⟨he,hb3⟩;have S3:U ((Qy w3 nb (I k) (X k) (R k)/\nb<w3.heap.size/\w.heap.size+1<=nb)/\D1 w3 (w.heap.size+1) I X R k k (.slice p4 k c4) (.slice p5 d c5) d AA CC S/\Below (w.heap.size+1) (w.alloc (.cells #[.slice (some (ad b o)) n c] 41)) w3):=by have:=hb3.size;exact⟨⟨S1.o.1.1.below hb3,by omega,yb⟩,S1.o.2.1.below hb3,S1.o.2.2.trans (hb3.mono (by omega))⟩
    clear hb3 y0 y1 y2 S1;cases hgk:Ke (I k) (X k) (R k) with
    | false=>
     rw[hgk] at he;subst he;have HN:U (¬ Ce n I X R):=λh=>by have:=h.2.1 k hlt;rw[hgk] at this;cases this
     have HZ:U (Bl w w3):=(Aa _ _).trans (S3.o.2.2.mono (by omega));go_wp2;refine bodyPost_ret (v:=.tuple #[.slice none 0 0,.bool false]) (by simp[results,Tryz.results39,go_sem]) rfl ⟨HZ.o,.inl ⟨HN.o,_,rfl⟩⟩
    | true=>
     rw[hgk] at he;subst he;have eoc:=PB hgk;rw[eoc] at wd hoc ⊢;clear eoc;by_cases hda:d<Ah (I k)
     .have iz:(d:Int)-(Ah (I k):Int)<0:=by omega
      have iz' : decide ((d:Int)-(Ah (I k):Int)<0)=true:=decide_eq_true iz;have HN:U (¬ Ce n I X R):=TJ hlt (by rw[hdd];omega);have HZ:U (Bl w w3):=(Aa _ _).trans (S3.o.2.2.mono (by omega));clear hdd;go_wp2;refine bodyPost_ret (v:=.tuple #[.slice none 0 0,.bool false]) (by simp[results,Tryz.results39,go_sem]) rfl ⟨HZ.o,.inl ⟨HN.o,_,rfl⟩⟩
     .have iz:¬ (d:Int)-(Ah (I k):Int)<0:=by omega
      have iz' : decide ((d:Int)-(Ah (I k):Int)<0)=false:=decide_eq_false iz;have HG2:U (∀j,j<k+1->Ke (I j) (X j) (R j)=true):=λj hj=>by
       by_cases e:j=k;.subst e;exact hgk
       .exact HG.o j (by omega)
      clear hdd hgk HG;go_upto_region 11 with fail
      obtain⟨l,hl⟩:∃l:Nat,(d:Int)-(Ah (I k):Int)=(l:Int):=⟨d-Ah (I k),by omega⟩;rw[hl] at ⊢;have il0:(0:Int)<=(l:Int):=by omega
      have ild:(l:Int)<=(d:Int):=by omega
      obtain⟨⟨y0,y1,y2⟩,yz,_⟩:=S3.o.1;clear iz iz' wd;have hdl:d-l=Ah (I k):=by omega
      have HRD:U (Rd .i64 w3.drew (if c5=l then p5 else Option.map (λx=>x.add l) p5) (Ah (I k)) (λj=>((AK (At I) k j:Nat):Int))):=by
       have h1:=QN (S3.o.2.1.stk) (l:=l) (by omega);unfold TW at h1;simp only[Nat.mul_one] at h1;rw[hdl] at h1;have h2:Rd .i64 w3 (if c5=l then p5 else Option.map (λx=>x.add l) p5) (Ah (I k)) (λj=>((AK (At I) k j:Nat):Int)):=by
        rcases h1 with h1|⟨g,q,e,h1⟩;.exact Or.inl h1
        .refine Or.inr ⟨g,q,e,λi hi=>?_⟩;rw[h1 i hi];have h3:=S3.o.2.1.opnd (by omega) (j:=i) hi;rw[show d-Ah (I k)=l by omega] at h3;show some (Value.int .i64 ((S (l+i):Nat):Int))=_;rw[h3]
       exact h2
      have HC:U (∀w4:World,Below w3.drew.heap.size w3.drew w4->w4.cell? (ad nb 0)=some (iv (I k))/\w4.cell? (ad nb 1)=some (.string (X k))/\w4.cell? (ad nb 2)=some (.string (R k))):=λw4 hb4=>S3.o.1.1.below ((Wt _ _).drew.trans hb4);obtain⟨sa,hsa⟩:∃sa,(if c5=l then p5 else Option.map (λx=>x.add l) p5)=sa:=⟨_,rfl⟩;rw[hsa] at HRD;have HD:U (∀(w4 w5:World) (O:Obj),Below w3.drew.heap.size w3.drew w4->(w4.alloc O).grownBy w5 (Value.slice p4 k c4).ownBlock->w5.cell? (ad nb 0)=some (iv (I k))/\w5.cell? (ad nb 1)=some (.string (X k))/\w5.cell? (ad nb 2)=some (.string (R k))):=by
       intro w4 w5 O hb4 hg5;have hs:nb<w4.heap.size:=by have h1:w3.heap.size<=w4.heap.size:=hb4.size;omega
       obtain⟨q0,q1,q2⟩:=HC.o w4 hb4;have hne:(Value.slice p4 k c4).ownBlock≠some nb:=HNB.o.1;exact⟨(Er hg5 (x:=(ad nb 0)) hs hne).trans q0,(Er hg5 (x:=(ad nb 1)) hs hne).trans q1,(Er hg5 (x:=(ad nb 2)) hs hne).trans q2⟩
      have HT:U (∀w4:World,Below w3.drew.heap.size w3.drew w4->Bl w3 w4):=λw4 hb4=>(Wt _ _).drew.trans hb4;have hk2:k<=1048576:=by omega
      have hz3:w.heap.size+1<=w3.heap.size:=by omega
      go_region_held3 (λw'=>w'.cell? (ad nb 0)=some (iv (I k))/\w'.cell? (ad nb 1)=some (.string (X k))/\w'.cell? (ad nb 2)=some (.string (R k))) (go_keep)
       (first
       | (go_at_call 86;refine (Kq _ (Ah (I k)) (c5-l) (λj=>((AK (At I) k j:Nat):Int)) w3.drew HRD.o (by omega)).mono ?_;rintro e w4 ⟨a6,c6,rfl,ho4,hb4,hc6,hcm6⟩;obtain⟨u0,u1,u2⟩:=HC.o w4 hb4)
       | (refine II (by rfl) (.tmp 34) (.tmp 41) (by rfl) (w.heap.size+1) k (.slice p4 k c4) (D4 (B5 I X R AA CC (λ_=>false) (λ_=>{ data:=#[] }) (λ_=>0)) k) ⟨I k,X k,R k,false,{ data:=#[] },a6,Ah (I k),c6,0⟩ (by rfl) (Bj S3.o.2.1.row (HT.o w4 hb4)) (by rfl) hk2 (WC hz3 (HT.o w4 hb4).size) ?_;intro v5 w5 hr5 hg5;obtain⟨u0,u1,u2⟩:=HD.o w4 w5 _ hb4 hg5))
      obtain⟨p7,c7,rfl⟩:=CG hr5;have S5:U (D1 w5 (w.heap.size+1) I X R (k+1) k (.slice p7 (k+1) c7) (.slice p5 d c5) d (λi=>if i=k then a6 else AA i) (λi=>if i=k then c6 else CC i) S/\Below (w.heap.size+1) (w.alloc (.cells #[.slice (some (ad b o)) n c] 41)) w5/\w.heap.size+1<=w5.heap.size):=by have q1:=HT.o w4 hb4;have q2:=q1.size;have q3:=hg5.size;simp at q3;refine⟨S3.o.2.1.push hz3 (q1.trans ((Aa _ _).mono q2)) (ho4.below (Aa _ _)) hc6 hcm6 hr5 hg5,?_,by omega⟩;exact ((S3.o.2.2.trans (q1.mono hz3)).alloc (by omega) _).grown hg5 (by simp;omega) (λg e=>(S3.o.2.1.row.lt g e).1)
      clear hr5 hg5 ho4 hb4 u0 u1 u2 y0 y1 y2 S3 HD HC HRD HT hsa HNB;have hz5:=S5.o.2.2;have ilc:(l:Int)<=(c5:Int):=by
       have:d<=c5:=by
        rcases S5.o.1.stk.2 with ⟨e,_⟩|⟨g,cap,cur,e,_,_,h1,_⟩;.injection e with _ e2 e3;omega
        .injection e with _ e2 e3;omega
       omega
      have hs0:(if c5=0 then p5 else Option.map (λx=>x.add 0) p5)=p5:=by
       split;.rfl
       .cases p5 with
        | none=>rfl
        | some x=>simp[Addr.add]
      have HN1:U (∀j u,[Value.int .i64 (k:Int)][j]?=some u->(w5.alloc (.cells #[iv (k:Int)] 3)).cell? (((ad w5.heap.size 0):Addr).add j)=some u):=cell_one_new w5 (iv (k:Int)) 3;have HCU:U ((w5.alloc (.cells #[iv (k:Int)] 3)).ownsRow (w.heap.size+1) 3 1 (.slice p5 l c5) l (Bi (λj=>((S j:Nat):Int)) l)):=Bj (RF S5.o.1.stk (by omega)) (Aa _ _);obtain⟨i0,hi,hz0,hz1,hz2⟩:=info_parts Tryz.info3;go_wp2_with (at_builtin;refine wpList_append_own_at _ rfl _ _ 100 rfl (w.heap.size+1) 3 i0 (iv 0) 1 8 Tryz.underlying100 hi hz0 hz1 hz2 rfl (by decide) (.slice p5 l c5) l _ rfl HCU.o (ad w5.heap.size 0) 1 1 [iv (k:Int)] rfl rfl HN1.o (by intro u hu;simp at hu;subst hu;rfl) (by unfold maxLen;omega) (by omega) (by simp;omega) ?_)
      intro v8 w8 hr8 hg8 _ hat8;obtain⟨p8,c8,rfl⟩:=CG hr8;have S8:U (D1 w8 (w.heap.size+1) I X R (k+1) (k+1) (.slice p7 (k+1) c7) (.slice p8 (l+1) c8) (l+1) (λi=>if i=k then a6 else AA i) (λi=>if i=k then c6 else CC i) (λj=>if j=l then k else S j)/\Below (w.heap.size+1) (w.alloc (.cells #[.slice (some (ad b o)) n c] 41)) w8):=by
       have el:d-Ah (I k)=l:=by omega
       have hob:(Value.slice p5 l c5).ownBlock=(Value.slice p5 d c5).ownBlock:=by cases p5 <;> rfl
       rw[hob] at hg8 hat8;have hat9:(Value.slice p8 (l+1) c8).ownBlock=(Value.slice p5 d c5).ownBlock\/(Value.slice p8 (l+1) c8).ownBlock=some (w5.alloc (.cells #[iv (k:Int)] 3)).heap.size:=by
        rcases hat8 with h|h;.exact Or.inl h
        .exact Or.inr (by rw[h];simp)
       have h1:=S5.o.1.put (k:=k) (W1:=w5.alloc (.cells #[iv (k:Int)] 3)) (W2:=w8) (v':=.slice p8 (l+1) c8) (Aa _ _) (by omega) (by rw[el];exact hr8) hg8 hat9;rw[el] at h1;exact⟨h1,(S5.o.2.1.alloc hz5 _).grown hg8 (by simp;omega) (λg e=>(S5.o.1.stk.lt g e).1)⟩
      clear hr8 hg8 hat8 HCU HN1 S5 hs0 ilc;go_wp2;go_roundw;case rel=>exact⟨k+1,l+1,_,_,_,by omega,by go_num,HG2.o,S8.o.1,by omega,S8.o.2⟩
      case measure=>simp[intOf];omega
   .have e:k=n:=by omega
    subst e;have hdd:=HST.o.dd;by_cases h1:d=1
    .subst h1;have hpos:0<k:=by omega
     obtain⟨g,c7,e4,hg7,hpl,hc7,hcm7⟩:=Nu HST.o.row hpos;injection e4 with e5 e6 e7;subst e5 e7;have HOK:U (AM (At I) k/\dep (At I) k=1):=⟨HST.o.ok,hdd⟩;have HCP:U (∀i,i<k->Ah (I i)<=CC i/\CC i<=9223372036854775807):=HST.o.caps;have HPL:U (AQ wr g k (B5 I X R AA CC (λ_=>false) (λ_=>{ data:=#[] }) (λ_=>0))):=hpl;clear hpl hdd;go_wp2_with fail
     refine (HME.o g k c4 (w.heap.size+1) I X R AA CC _ _ wr HPL.o HST.o.ops HCP.o HOK.o.1 (by omega) hpos).mono ?_;rintro e w2 ⟨rfl,hp2,hg2⟩;have T2:U (AQ w2 g k (B5 I X R AA CC (λ_=>false) (λ_=>{ data:=#[] }) (λi=>(hM (At I) 100 i:Int)))/\(∀i,i<k->AY w2 (w.heap.size+1) (AA i) (Ah (I i)) (λj=>(AK (At I) i j:Int)))/\Bl w w2/\w.heap.size+1<=w2.heap.size):=by have q:=hg2.size;refine⟨hp2,λi hi=>(HST.o.ops i hi).grownP HPL.o hg2,HBW.o.grown hg2 (by omega) (λb e=>by injection e with e;omega),by omega⟩
     clear hp2 hg2 HST HB HBW HPL x0;go_wp2_with fail
     refine (HBI.o g k c4 (w.heap.size+1) I X R AA CC _ w2 T2.o.1 T2.o.2.1 HCP.o HOK.o.1 (by omega) hpos T2.o.2.2.2).mono ?_;rintro e w3 ⟨rfl,Bd,Lb,hC,hp3,hg3⟩;have T3:U (AQ w3 g k (B5 I X R AA CC Bd Lb (λi=>(hM (At I) 100 i:Int)))/\(∀i,i<k->AY w3 (w.heap.size+1) (AA i) (Ah (I i)) (λj=>(AK (At I) i j:Int)))/\Bl w w3):=by have q:=hg3.size;have q2:=T2.o.2.2.2;refine⟨hp3,λi hi=>(T2.o.2.1 i hi).grownP T2.o.1 hg3,T2.o.2.2.1.grown hg3 (by omega) (λb e=>by injection e with e;omega)⟩
     have HCC:U (C k I X Bd Lb):=hC;clear hp3 hg3 T2 hC;go_wp2_with fail
     refine (HLA.o g k c4 _ w3 T3.o.1 hpos (by omega)).mono ?_;rintro e w4 ⟨rfl,hb4⟩;have T4:U (AQ w4 g k (B5 I X R AA CC Bd Lb (λi=>(hM (At I) 100 i:Int)))/\(∀i,i<k->AY w4 (w.heap.size+1) (AA i) (Ah (I i)) (λj=>(AK (At I) i j:Int)))/\Bl w w4):=by have q:=T3.o.2.2.size;exact⟨T3.o.1.below hb4,λi hi=>(T3.o.2.1 i hi).below hb4,T3.o.2.2.trans (hb4.mono q)⟩
     clear hb4 T3;generalize (B5 I X R AA CC Bd Lb (λi=>(hM (At I) 100 i:Int)) (k-1)).kind=z0;generalize (B5 I X R AA CC Bd Lb (λi=>(hM (At I) 100 i:Int)) (k-1)).s=z1;generalize (B5 I X R AA CC Bd Lb (λi=>(hM (At I) 100 i:Int)) (k-1)).t=z2;generalize (B5 I X R AA CC Bd Lb (λi=>(hM (At I) 100 i:Int)) (k-1)).bound=z3;generalize (B5 I X R AA CC Bd Lb (λi=>(hM (At I) 100 i:Int)) (k-1)).label=z4;generalize (B5 I X R AA CC Bd Lb (λi=>(hM (At I) 100 i:Int)) (k-1)).ad=z5;generalize (B5 I X R AA CC Bd Lb (λi=>(hM (At I) 100 i:Int)) (k-1)).cnt=z6;generalize (B5 I X R AA CC Bd Lb (λi=>(hM (At I) 100 i:Int)) (k-1)).cap=z7;rw[show (B5 I X R AA CC Bd Lb (λi=>(hM (At I) 100 i:Int)) (k-1)).height=((hM (At I) 100 (k-1):Nat):Int) from rfl];obtain⟨hbg,hht⟩:=OE hpos HOK.o.1 HOK.o.2;have HVP:U (Ce k I X R↔hM (At I) 100 (k-1)<=64):=by
      constructor;.intro hv;rw[<- hht];exact hv.2.2.2
      .intro h6;exact⟨⟨by omega,by omega⟩,HG.o,hbg,by rw[hht];exact h6⟩
     clear hbg hht;generalize hM (At I) 100 (k-1)=Ht at HVP ⊢;have fl:=QB (iv z0) (.string z1) (.bool z3) (.slice z5 z6 z7) (.string z4) (.string z2) (iv Ht);by_cases h64:Ht<=64
     .have i64:((Ht:Nat):Int)<=64:=by omega
      have i64' : decide (((Ht:Nat):Int)<=64)=true:=decide_eq_true i64;go_wp2;refine bodyPost_ret (v:=.tuple #[.slice (some (ad g 0)) k c4,.bool true]) (by simp[results,Tryz.results39,go_sem]) rfl ⟨T4.o.2.2,.inr ⟨HVP.o.2 h64,g,c4,AA,CC,Bd,Lb,rfl,by omega,hc7,hcm7,HCC.o,T4.o.1,λi hi=>(T4.o.2.1 i hi).mono (by omega),HCP.o⟩⟩
     .have i64:¬ ((Ht:Nat):Int)<=64:=by omega
      have i64' : decide (((Ht:Nat):Int)<=64)=false:=decide_eq_false i64;go_wp2;refine bodyPost_ret (v:=.tuple #[.slice (some (ad g 0)) k c4,.bool false]) (by simp[results,Tryz.results39,go_sem]) rfl ⟨T4.o.2.2,.inl ⟨λhv=>h64 (HVP.o.1 hv),_,rfl⟩⟩
    .have i1:¬ ((d:Int)=1):=by omega
     have i1' : ((d:Int) == 1)=false:=by simpa using i1
     have HN:U (¬ Ce k I X R):=λhv=>by have h3:=(Ct (λi=>Ah (I i)) k (by have:=hv.1;omega)).1 hv.2.2.1;have h4:dep (At I) k=1:=h3.2;omega
     have HZ:U (Bl w wr):=HBW.o;clear hdd;go_wp2;refine bodyPost_ret (v:=.tuple #[.slice none 0 0,.bool false]) (by simp[results,Tryz.results39,go_sem]) rfl ⟨HZ.o,.inl ⟨HN.o,_,rfl⟩⟩
variable {A:Nat->Nat}{i m:Nat}
def Mo (A:Nat->Nat) (k:Nat) (m:Nat) (i:Nat):Int:=if i<k then (hM A 100 i:Int) else if i=k then (m:Int) else 0
theorem Ua {k:Nat} (h:i<k):Mo A k m i=(hM A 100 i:Int):=if_pos h
theorem Nm (A:Nat->Nat) (k m:Nat):Mo A k m k=(m:Int):=by unfold Mo;rw[if_neg (by omega),if_pos rfl]
theorem Mg {I:Nat->Int} {X R:Nat->ByteArray} {AA:Nat->Option Addr} {CC:Nat->Nat} {Bd:Nat->Bool} {Lb:Nat->ByteArray} {k m':Nat}
  (h:AQ w g n (B5 I X R AA CC Bd Lb (Mo (At I) k m))):AQ (w.setCell (ad g (k*7+6)) (iv (m' : Int))) g n (B5 I X R AA CC Bd Lb (Mo (At I) k m')):=by
 refine h.set k 6 _ (by decide) (λj hj=>?_) ?_;.unfold B5 Mo;rw[if_neg hj,if_neg hj]
 .unfold B5;simp[DK.cells,Nm]
theorem Qt {A:Nat->Nat}:∀(f i j:Nat),JU A (hM A f) i j<=f
 | f,i,0=>Ww _
 | f,i,j+1=>by
  have h1:=Qt (A:=A) f i j
  have h2:=Tj (A:=A) f (AK A i j)
  show max _ _<=f
  omega
theorem Vd (h:AM A n) (ha:∀i,A i<=2) (hn:n<=100) (hi:i<n):1+JU A (hM A 100) i (A i)=hM A 100 i:=by show _=1+JU A (hM A 99) i (A i);rw[Gr];intro m hm;have:=Gt h hi (ha i) hm;exact Oq h ha 100 99 _ (by omega) (by omega) (by omega)
theorem AQ.frozen {w:World} {g n:Nat} {f:Nat->DK} (h:AQ w g n f) (i:Nat):w.frozen? (ad g i)=false:=by obtain⟨cur,hh,_⟩:=h;simp[World.frozen?,hh]
theorem AQ.drew {w:World} {g n:Nat} {f:Nat->DK} (h:AQ w g n f):AQ w.drew g n f:=h
theorem Cu (h:w.grownBy W (some g)) (i:Nat) (v:Value):w.grownBy (W.setCell (ad g i) v) (some g):=
 ⟨h.os,h.tape,h.output,by have:=h.size;simpa[World.setCell] using this,λk hk hne=>by
  rw[<- h.block k hk hne]
  exact Wv _ _ _ _ (λe=>hne (by rw[e]))⟩
theorem Nr {r:Option Nat} (h:w.grownBy W r):w.grownBy W.drew r:=⟨h.os,h.tape,h.output,h.size,h.block⟩
theorem Mu:MeasureOk:=by
 intro g n c B I X R AA CC Bd Lb w hP hO hcap hok hn hn0;have HP0:U (AQ w g n (B5 I X R AA CC Bd Lb (λ_=>0))):=hP;have HO:U (∀W:World,w.grownBy W (some g)->∀i,i<n->Rd .i64 W (AA i) (Ah (I i)) (λj=>(AK (At I) i j:Int))):=λW hW i hi=>((hO i hi).grownP hP hW).rd;have HCP:=hid hcap;have HOK:=hid hok;clear hP hO hcap hok;go_enter Tryz.func87,Tryz.ntmps87;go_wp2;go_loopw [8] (λi wr=>∃k:Nat,k<=n/\i=iv k/\AQ wr g n (B5 I X R AA CC Bd Lb (Mo (At I) k 0))/\w.grownBy wr (some g)) (λi _=>n-(intOf i).toNat)
 case atStart=>
  refine⟨0,Ww _,rfl,HP0.o.congr (λi hi=>?_),⟨rfl,rfl,rfl,Wu _,λ_ _ _=>rfl⟩⟩;unfold B5 Mo;rw[if_neg (by omega)];by_cases e:i=0;.rw[if_pos e];rfl
  .rw[if_neg e]
 case round=>
  obtain⟨k,hk,rfl,hp,hg⟩:=hrel;by_cases hlt:k<n
  .have ik:(k:Int)<(n:Int):=by omega
   have ik0:(0:Int)<=(k:Int):=by omega
   obtain⟨c0,c1,c2,c3,c4,c5,c6⟩:=hp.seven hlt;have HP:=hid hp;have HG:=hid hg;have e5:wr.cell? (ad g (k*7+5))=some (.slice (AA k) (Ah (I k)) (CC k)):=c5;have hle:=BD (I k);clear hp hg c0 c1 c2 c3 c4 c5 c6;go_wp2;go_loopw [19] (λj ws=>∃q:Nat,q<=Ah (I k)/\j=iv q/\AQ ws g n (B5 I X R AA CC Bd Lb (Mo (At I) k (JU (At I) (hM (At I) 100) k q)))/\w.grownBy ws (some g)) (λj _=>Ah (I k)-(intOf j).toNat)
   case atStart=>exact⟨0,Ww _,rfl,HP.o,HG.o⟩
   case round=>
    obtain⟨q,hq,rfl,hp,hg⟩:=hrel;by_cases hql:q<Ah (I k)
    .have iq:(q:Int)<((Ah (I k):Nat):Int):=by omega
     have iq0:(0:Int)<=(q:Int):=by omega
     have hxl:=Gt HOK.o hlt (Dc I k) (j:=q) hql;obtain⟨b,o,hA,hcx⟩:∃b o,AA k=some (ad b o)/\wr.cell? (ad b (o+q))=some (iv ((AK (At I) k q:Nat):Int)):=by
      rcases HO.o wr hg k hlt with h|⟨b,o,e,hc⟩;.omega
      .exact⟨b,o,e,hc q hql⟩
     obtain⟨_,_,_,_,_,_,d6⟩:=hp.seven hlt;obtain⟨_,_,_,_,_,_,x6⟩:=hp.seven (i:=AK (At I) k q) (by omega);have y6:wr.cell? (ad g (k*7+6))=some (iv ((JU (At I) (hM (At I) 100) k q:Nat):Int)):=by rw[d6];show some (Value.int .i64 (Mo _ _ _ _))=_;rw[Nm]
     have z6:wr.cell? (ad g (AK (At I) k q*7+6))=some (iv ((hM (At I) 100 (AK (At I) k q):Nat):Int)):=by rw[x6];show some (Value.int .i64 (Mo _ _ _ _))=_;rw[Ua hxl]
     have HP2:U (AQ wr g n (B5 I X R AA CC Bd Lb (Mo (At I) k (JU (At I) (hM (At I) 100) k q)))):=hp;have HG2:U (w.grownBy wr (some g)):=hg;have HMX:U (JU (At I) (hM (At I) 100) k (q+1)=max (JU (At I) (hM (At I) 100) k q) (hM (At I) 100 (AK (At I) k q))):=rfl;clear hp hg d6 x6;rw[hA];generalize AK (At I) k q=x at hxl hcx z6 HMX;generalize JU (At I) (hM (At I) 100) k q=M0 at y6 HP2 HMX;generalize hM (At I) 100 x=M1 at z6 HMX;have ix:(x:Int)<(n:Int):=by omega
     have ix0:(0:Int)<=(x:Int):=by omega
     obtain⟨M2,hM2,hmx⟩:∃M2:Nat,max M0 M1=M2/\(if M0<M1 then (M1:Int) else (M0:Int))=(M2:Int):=⟨max M0 M1,rfl,by split <;> omega⟩;rw[hM2] at HMX;clear hM2;have fz:=HP2.o.frozen (k*7+6);have HPN:U (AQ (wr.drew.setCell (ad g (k*7+6)) (iv (M2:Int))) g n (B5 I X R AA CC Bd Lb (Mo (At I) k (JU (At I) (hM (At I) 100) k (q+1))))/\w.grownBy (wr.drew.setCell (ad g (k*7+6)) (iv (M2:Int))) (some g)):=⟨by rw[HMX.o];exact Mg HP2.o.drew,Cu (Nr HG2.o) _ _⟩;go_upto_region 7 with fail
     go_region
     go_wp2;go_roundw;case rel=>exact⟨q+1,by omega,by go_num,HPN.o⟩
     case measure=>simp[intOf];omega
    .have e:q=Ah (I k):=by omega
     have hml:=Qt (A:=At I) 100 k q;have HP2:=hid hp;have HG2:=hid hg;have HMX:U (1+JU (At I) (hM (At I) 100) k q=hM (At I) 100 k):=by rw[e];exact Vd HOK.o (Dc I) hn hlt
     obtain⟨_,_,_,_,_,_,d6⟩:=hp.seven hlt;have y6:wr.cell? (ad g (k*7+6))=some (iv ((JU (At I) (hM (At I) 100) k q:Nat):Int)):=by rw[d6];show some (Value.int .i64 (Mo _ _ _ _))=_;rw[Nm]
     have fz:=HP2.o.frozen (k*7+6);clear hp hg d6;generalize JU (At I) (hM (At I) 100) k q=M0 at y6 HP2 HMX hml;subst e;have wM:IntKind.i64.wrap ((M0:Int)+1)=(M0:Int)+1:=by rw[Wz];omega
     have HPN:U (AQ (wr.setCell (ad g (k*7+6)) (iv ((M0:Int)+1))) g n (B5 I X R AA CC Bd Lb (Mo (At I) (k+1) 0))/\w.grownBy (wr.setCell (ad g (k*7+6)) (iv ((M0:Int)+1))) (some g)):=by
      refine⟨?_,Cu HG2.o _ _⟩;have h1:=Mg (m':=1+M0) HP2.o;rw[show (((1+M0:Nat):Int))=(M0:Int)+1 by omega] at h1;refine h1.congr (λi hi=>?_);unfold B5 Mo;by_cases e1:i<k;.rw[if_pos e1,if_pos (by omega)]
      .by_cases e2:i=k;.subst e2;rw[if_neg e1,if_pos rfl,if_pos (by omega),HMX.o]
       .rw[if_neg e1,if_neg e2,if_neg (by omega)];by_cases e3:i=k+1;.rw[if_pos e3];rfl
        .rw[if_neg e3]
     go_wp2;go_roundw;case rel=>exact⟨k+1,by omega,by go_num,HPN.o⟩
     case measure=>simp[intOf];omega
  .have e:k=n:=by omega
   subst e;have HPN:U (AQ wr g k (B5 I X R AA CC Bd Lb (λi=>(hM (At I) 100 i:Int)))/\w.grownBy wr (some g)):=by refine⟨hp.congr (λi hi=>?_),hg⟩;unfold B5 Mo;rw[if_pos hi]
   clear hp hg;go_wp2;go_end0
   exact⟨rfl,HPN.o⟩
theorem PV:LastOk:=by
 intro g n c f w h hn h100;obtain⟨m,rfl⟩:∃m,n=m+1:=⟨n-1,by omega⟩;obtain⟨c0,c1,c2,c3,c4,c5,c6⟩:=h.seven (i:=m) (by omega);have wm:IntKind.i64.wrap (((m+1:Nat):Int)-1)=(m:Int):=by rw[Wz];omega
 have im:(m:Int)<((m+1:Nat):Int):=by omega
 have im0:(0:Int)<=(m:Int):=by omega
 have hg:=h.lt;have hne:¬ (g=w.heap.size):=by omega
 rw[show m+1-1=m by omega];generalize (f m).kind=z0 at*
 generalize (f m).s=z1 at*
 generalize (f m).t=z2 at*
 generalize (f m).bound=z3 at*
 generalize (f m).label=z4 at*
 generalize (f m).ad=z5 at*
 generalize (f m).cnt=z6 at*
 generalize (f m).cap=z7 at*
 generalize (f m).height=z8 at*
 clear h;go_enter Tryz.func89,Tryz.ntmps89;go_wp2;refine bodyPost_ret (v:=.agg #[iv z0,.string z1,.string z2,.bool z3,.string z4,.slice z5 z6 z7,iv z8]) (by simp[results,Tryz.results89,go_sem]) rfl ⟨rfl,?_⟩;exact Aa _ _
end Go.Proofs.YtacpbofiipdodaaGreat
namespace Go.Proofs.YtacpbofiipdodaaGreat
open Go Go.Deep Go.RowKit Go.Shelf
attribute [local go_sem] Oper.semAt_some
def XP (n:Nat):Type:={ x:Nat × Bool × ByteArray // x.1<n }
def Wk (I:Nat->Int) (X R:Nat->ByteArray) (AA:Nat->Option Addr) (CC:Nat->Nat) (H:Nat->Int) {n:Nat} (x:XP n):Array Value:=
 #[iv (x.1.1:Int),.agg #[iv (I x.1.1),.string (X x.1.1),.string (R x.1.1),.bool x.1.2.1,.string x.1.2.2,.slice (AA x.1.1) (Ah (I x.1.1)) (CC x.1.1),iv (H x.1.1)]]
def GI (W:World) (g n:Nat) (I:Nat->Int) (X R:Nat->ByteArray) (AA:Nat->Option Addr) (CC:Nat->Nat) (H:Nat->Int):Prop:=∃Bd Lb,AQ W g n (B5 I X R AA CC Bd Lb H)
def UJ (Bs g n:Nat) (I:Nat->Int) (X R:Nat->ByteArray) (AA:Nat->Option Addr) (CC:Nat->Nat) (H:Nat->Int) (W W' : World):Prop:=
 (∀v,W.cell? (ad Bs 0)=some v->W'.cell? (ad Bs 0)=some v)/\(GI W g n I X R AA CC H->GI W' g n I X R AA CC H)
theorem Vn (F:Fence) (nn:Nat) (hf:F.fn 121) (hro:F.round=none) (v:Value) (p:Option Addr) (k c:Nat) (hv:v=.slice p k c) (w:World) :
  CallsIn F nn Tryz.prog 121 #[.slice p k c] w λe w'=>e=.returned (.func (.func 139) #[] #[pt w.heap.size])/\w'=w.alloc (.cells #[.slice p k c] 87):=by
 refine callsIn_of_wp Tryz.func121 rfl hf ?_ hro;simp only[Tryz.ntmps121,List.size_toArray,WN,List.length_nil,Nat.reduceAdd,Nat.reduceSub,Array.replicate_succ,Array.replicate_zero,List.push_toArray,List.append_toArray,List.nil_append,List.cons_append];gi_wp2
 go_ret;exact⟨rfl,rfl⟩
variable {g:Nat}{w:World}
attribute [local go_sem] Oper.semAt_some
theorem Lx {I:Nat->Int} {X R:Nat->ByteArray} {AA:Nat->Option Addr} {CC:Nat->Nat} {Bd:Nat->Bool} {Lb:Nat->ByteArray} {H:Nat->Int} {x:Nat} {b:Bool} {l:ByteArray} {n:Nat}
  (h:AQ w g n (B5 I X R AA CC Bd Lb H)):AQ ((w.setCell (ad g (x*7+3)) (.bool b)).setCell (ad g (x*7+4)) (.string l)) g n (B5 I X R AA CC (λi=>if i=x then b else Bd i) (λi=>if i=x then l else Lb i) H):=by
 have h1:AQ (w.setCell (ad g (x*7+3)) (.bool b)) g n (B5 I X R AA CC (λi=>if i=x then b else Bd i) Lb H):=by
  refine h.set x 3 _ (by decide) (λj hj=>?_) ?_;.unfold B5;simp only[if_neg hj]
  .unfold B5;simp[DK.cells]
 refine h1.set x 4 _ (by decide) (λj hj=>?_) ?_;.unfold B5;simp only[if_neg hj]
 .unfold B5;simp[DK.cells]
section
variable {g n Bs:Nat} {I:Nat->Int} {X R:Nat->ByteArray} {AA:Nat->Option Addr} {CC:Nat->Nat} {H:Nat->Int} {w W W' : World} {row:Option Nat}
theorem Df {k:Nat} {cs:Array Value} {t:TypeId} (h:W.heap[k]?=some (.cells cs t (0,0))) (hg:W.grownBy W' row) (hr:∀r,row=some r->∃o:Obj,W.heap[r]?=some o/\o.isCells=false):W'.heap[k]?=some (.cells cs t (0,0)):=by refine (hg.block k (Array.getElem?_eq_some_iff.1 h).1 (λe=>?_)).trans h;obtain⟨o,ho,hc⟩:=hr k e.symm;rw[h] at ho;injection ho with ho;subst ho;cases hc
theorem GI.kept (h:GI W g n I X R AA CC H) (hg:W.grownBy W' row) (hr:∀r,row=some r->∃o:Obj,W.heap[r]?=some o/\o.isCells=false):GI W' g n I X R AA CC H:=by obtain⟨Bd,Lb,cur,hh,h1,h2⟩:=h;exact⟨Bd,Lb,cur,Df hh hg hr,h1,h2⟩
theorem UJ.refl (W:World):UJ Bs g n I X R AA CC H W W:=⟨λ_ h=>h,λh=>h⟩
theorem UJ.trans {A B C:World} (h:UJ Bs g n I X R AA CC H A B) (k:UJ Bs g n I X R AA CC H B C):UJ Bs g n I X R AA CC H A C:=⟨λv hv=>k.1 v (h.1 v hv),λq=>k.2 (h.2 q)⟩
theorem Eh {W W':World} {row:Option Nat} {B:Nat} (h:w.grownBy W (some g)) (hg:W.grownBy W' row) (hr:∀r,row=some r->B<=r) (hB:w.heap.size<=B):w.grownBy W' (some g):=
 ⟨hg.os.trans h.os,hg.tape.trans h.tape,hg.output.trans h.output,WC h.size hg.size,λk hk hne=>by
  rw[<- h.block k hk hne]
  exact hg.block k (WF hk h.size) (λe=>by have:=hr k e.symm;omega)⟩
end
structure Nh (w W:World) (g n c:Nat) (I:Nat->Int) (X R:Nat->ByteArray) (AA:Nat->Option Addr) (CC:Nat->Nat) (H:Nat->Int):Prop where
 pl:GI W g n I X R AA CC H
 gr:w.grownBy W (some g)
 b0:W.heap[w.heap.size]?=some (.cells #[.slice (some (ad g 0)) n c] 87 (0,0))
 b1:W.heap[w.heap.size+1]?=some (.cells #[.slice (some (ad g 0)) n c] 87 (0,0))
section
variable {w W W' : World} {g n c B:Nat} {I:Nat->Int} {X R:Nat->ByteArray} {AA:Nat->Option Addr} {CC:Nat->Nat} {H:Nat->Int} {row:Option Nat}
theorem Nh.kept (h:Nh w W g n c I X R AA CC H) (hg:W.grownBy W' row) (hr:∀r,row=some r->B<=r/\∃o:Obj,W.heap[r]?=some o/\o.isCells=false) (hB:w.heap.size<=B):Nh w W' g n c I X R AA CC H:=
 ⟨h.pl.kept hg (λr e=>(hr r e).2),Eh h.gr hg (λr e=>(hr r e).1) hB,Df h.b0 hg (λr e=>(hr r e).2),Df h.b1 hg (λr e=>(hr r e).2)⟩
theorem Nh.alloc (h:Nh w W g n c I X R AA CC H) (o:Obj):Nh w (W.alloc o) g n c I X R AA CC H:=
 h.kept (B:=w.heap.size) (World.grownBy_alloc W o none) (λr e=>by cases e) (Wu _)
theorem Nh.set (h:Nh w W g n c I X R AA CC H) (hg:g<w.heap.size) (x:Nat) (b:Bool) (l:ByteArray):Nh w ((W.setCell (ad g (x*7+3)) (.bool b)).setCell (ad g (x*7+4)) (.string l)) g n c I X R AA CC H:=by
 obtain⟨Bd,Lb,hp⟩:=h.pl;refine⟨⟨_,_,Lx hp⟩,Cu (Cu h.gr _ _) _ _,?_,?_⟩;.rw[Wv _ _ _ _ (by show w.heap.size≠g;omega),Wv _ _ _ _ (by show w.heap.size≠g;omega)];exact h.b0
 .rw[Wv _ _ _ _ (by show w.heap.size+1≠g;omega),Wv _ _ _ _ (by show w.heap.size+1≠g;omega)];exact h.b1
theorem Nh.other (h:Nh w W g n c I X R AA CC H) {p:Addr} (hp:w.heap.size+2<=p.block) (hg:g<w.heap.size) (v:Value):Nh w (W.setCell p v) g n c I X R AA CC H:=by
 obtain⟨Bd,Lb,hq⟩:=h.pl;refine⟨⟨_,_,hq.other (by omega) v⟩,⟨h.gr.os,h.gr.tape,h.gr.output,by have:=h.gr.size;simpa[World.setCell] using this,λk hk hne=>by rw[<- h.gr.block k hk hne];exact Wv _ _ _ _ (by omega)⟩,?_,?_⟩;.rw[Wv _ _ _ _ (by omega)];exact h.b0
 .rw[Wv _ _ _ _ (by omega)];exact h.b1
theorem Nh.kp (h:Nh w W g n c I X R AA CC H) (h' : Nh w W' g n c I X R AA CC H):UJ (w.heap.size+1) g n I X R AA CC H W W':=by
 refine⟨λv hv=>?_,λ_=>h'.pl⟩;have e1:W.cell? (ad (w.heap.size+1) 0)=some (.slice (some (ad g 0)) n c):=by simp[World.cell?,h.b1]
 have e2:W'.cell? (ad (w.heap.size+1) 0)=some (.slice (some (ad g 0)) n c):=by simp[World.cell?,h'.b1]
 rw[e2,<- e1];exact hv
end
def UU (K:World->Prop):Exit->Act->World->Prop
 | .normal,_,W'=>K W'
 | .ret,_,_=>False
 | .exit _,_,_=>False
 | .goto _,_,_=>False
 | .panic _,_,_=>False
 | .outgrown,_,_=>False
section
variable {F:Fence} {n:Nat} {P:Program}
theorem Uv {g:Operand} {ps:Array Tmp} {assign body:Code} {Q:Exit->Act->World->Prop} {a:Act} {w:World}
  (hro:F.round=none) (h1:1<=n) {gf:Nat} {lb:Array Value} (hg:a.eval g=.func (.func gf) #[] lb) (hFg:F.fn gf) (eg:∀args w,(callFunc gf args).run P w=.ok (.enter gf args) w)
  (N:Nat) (V:Nat->Array Value->World->Prop) (hV:∀k v W,V k v W->v.size=ps.size) (J:Nat->World->Prop) (hJ:OwnFrom w.heap.size J) (h0:J 0 w)
  (hseq:∀(l:Nat) (K:Nat->World->Prop) (W:World),Bl w W->(∀k W,K k W->J k W)->(∀k v W1,K k W1->V k v W1->k<N->YieldAt F (n-1-1) P l v W1 λe W'=>e=.returned (.bool true)/\K (k+1) W')->K 0 W->
   CallsIn F (n-1) P gf (#[.func (.yield l) #[] #[]]++lb) W λe W'=>(∃v,e=.returned v)/\K N W')
  (Ax:Nat->Array Value->Act->World->Prop) (hAx:∀k v a',OwnFrom w.heap.size (λ(_:Unit) W=>Ax k v a' W))
  (hassign:∀(l k:Nat) (v:Array Value) (W:World) (K:Act->World->Prop),J k W->V k v W->k<N->(∀a' W',KeepsFrom w.heap.size W W'->J k W'->Ax k v a' W'->K a' W')->
   assign.wpIn (F.inRound l) (n-1-1) P (Exit.then K (λ_ _ _=>False)) { tmps:=(ps.zip v).foldl (λt (p,v)=>t.setIfInBounds p v) a.tmps,defers:=[] } W)
  (hbody:∀(l k:Nat) (v:Array Value) (a' : Act) (W:World),w.heap.size<=l->J k W->Ax k v a' W->k<N->body.wpIn (F.inRound l) (n-1-1) P (UU λW'=>KeepsFrom w.heap.size W W'/\J (k+1) W') a' W)
  (hdone:∀(D:Nat) (W:World),w.heap.size<=D->J N W->W.heap[D]?=some (.deferred (some []))->Q .normal { a with defers:={ target:=.collected D,args:=#[] }::a.defers } W) :
  (Code.rangeFunc g ps assign body).wpIn F n P Q a w:=by
 refine wpIn_rangeFunc λfn hfn=>?_;rw[hro];obtain⟨z,hz⟩:∃z,z=w.heap.size:=⟨_,rfl⟩;obtain⟨rc,hrc⟩:∃rc:LoopState->Option Code->Loop,rc=λs p=>{ state:=s,pending:=p,fn,tmps:=a.tmps,params:=ps,assign,body,defers:=w.heap.size }:=⟨_,rfl⟩
 obtain⟨W1,hW1⟩:∃W1,W1=(w.alloc (.deferred (some []))).alloc (.loop (rc .ready none)):=⟨_,rfl⟩;have bk:W1.heap[z+1]?=some (.loop (rc .ready none))/\W1.heap[z]?=some (.deferred (some []))/\J 0 W1/\Bl w W1:=by rw[hW1,hz];refine⟨?_,(Below.heap_alloc _ _ _ (by simp)).trans (World.alloc_heap_new w _),hJ.alloc _ (hJ.alloc _ h0),((Wt _ w).alloc (Wu _) _).alloc (by simp) _⟩;have:=World.alloc_heap_new (w.alloc (.deferred (some []))) (.loop (rc .ready none));rwa [WJ] at this
 refine⟨z+1,[{ target:=.collected z,args:=#[] }],W1,{ target:=.fn (.func gf) lb,args:=#[.func (.yield (z+1)) #[] #[]] },W1,gf,#[.func (.yield (z+1)) #[] #[]]++lb,W1,?_,?_,?_,?_,λ_=>h1,?_⟩;.rw[hW1,hrc,hz];exact run_enterLoop_outer _ _ _ _ _
 .simp only[resolve,hg];simp[go_sem]
 .intro f' hf';simp[Target.leads] at hf';subst hf';exact hFg
 .simp[invoke,go_sem,eg]
 .refine (hseq (z+1) (λk W=>J k W/\W.heap[z+1]?=some (.loop (rc .ready none))/\W.heap[z]?=some (.deferred (some []))) W1 bk.2.2.2 (λ_ _ h=>h.1) ?_ ⟨bk.2.2.1,bk.1,bk.2.1⟩).mono ?_
  .rintro k v W ⟨hj,hl,hd⟩ hv hk;have hy:=run_yield (P:=P) (args:=v) hl (by rw[hrc];exact hV k v W hv);rw[hrc] at hy;refine⟨fn,_,assign,body,hy,roundIn_of_wpIn hfn (hassign _ k v W _ hj hv hk ?_)⟩;intro a' Wa hkf hja hax;have hl1:=hkf.same _ _ (by omega) hl rfl;have hd1:=hkf.same _ _ (by omega) hd rfl;have hlt:=(Array.getElem?_eq_some_iff.1 hl1).1;refine⟨_,run_beginRound hl1 (by rw[hrc]),?_⟩;have hl2:(Wa.putObj (z+1) (.loop { rc .ready none with state:=.busy })).heap[z+1]?=some (.loop { rc .ready none with state:=.busy }):=World.putObj_heap_same hlt;have hd2:(Wa.putObj (z+1) (.loop { rc .ready none with state:=.busy })).heap[z]?=some (.deferred (some [])):=(World.putObj_heap_other (by omega)).trans hd1;refine wpIn_mono (hbody _ k v a' _ (by omega) (hJ.putObj _ hja (by omega) hl1 rfl) ((hAx k v a').putObj (s:=()) _ hax (by omega) hl1 rfl) hk) ?_;intro e a3 W3 hp;cases e with
   | ret=>exact hp.elim
   | exit _=>exact hp.elim
   | goto _=>exact hp.elim
   | panic _=>exact hp.elim
   | outgrown=>exact hp.elim
   | normal=>
   obtain⟨hk3,hj3⟩:=hp;have hl3:=hk3.same _ _ (by omega) hl2 rfl;have hr:=run_endRound (P:=P) none hl3;refine⟨_,_,hr,rfl,hJ.putObj _ hj3 (by omega) hl3 rfl,?_,?_⟩;.rw[hrc];exact World.putObj_heap_same (Array.getElem?_eq_some_iff.1 hl3).1
   .exact (World.putObj_heap_other (by omega)).trans (hk3.same _ _ (by omega) hd2 rfl)
  .rintro e W2 ⟨⟨v,rfl⟩,hj,hl,hd⟩;exact⟨none,_,by have:=run_endLoop (P:=P) hl (by rw[hrc];simp);rw[hrc] at this;exact this,hdone _ _ (by omega) (hJ.putObj _ hj (by omega) hl rfl) ((World.putObj_heap_other (by omega)).trans hd)⟩
end
end Go.Proofs.YtacpbofiipdodaaGreat
namespace Go.Proofs.YtacpbofiipdodaaGreat
open Go Go.Deep Go.RowKit
def Wj (_:Nat) (_:Nat->Int) (_:Nat->ByteArray) (_:Nat->Bool) (_:Nat->ByteArray):Prop:=True
end Go.Proofs.YtacpbofiipdodaaGreat
