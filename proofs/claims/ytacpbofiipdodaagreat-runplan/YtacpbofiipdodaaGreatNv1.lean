import Derived.Below
import Derived.Test.YtacpbofiipdodaaGreatProg
import Derived.WalkKit
import Derived.Deep.OwnRows
import Derived.Deep.Draws
import Derived.Test.YtacpbofiipdodaaGreatRows
import Derived.Handy
import Derived.Laws.Cover1
import Derived.Maps.AppendAt
import Derived.Deep.Upon
import Derived.Deep.RegionHeld3
set_option linter.unusedVariables false
set_option linter.unusedSimpArgs false
set_option maxRecDepth 100000
set_option maxHeartbeats 90000000
namespace Go.Proofs.YtacpbofiipdodaaGreat
open Go Go.RowKit
def U(p:Prop):Prop:=p
theorem U.o{p:Prop}(h:U p):p:=h
abbrev ad(b o:Nat):Addr:=⟨b,o,none⟩
abbrev pt(b:Nat):Value:=.pointer (some ⟨b,0,none⟩)
abbrev iv(x:Int):Value:=.int .i64 x
abbrev Bl(w W:World):Prop:=Below w.heap.size w W
theorem hid{p:Prop}(h:p):U p:=h
theorem gn.{u}{α:Sort u}(a:α):∃x,x=a:=⟨a,rfl⟩
theorem ai{p q:Prop}(h:p)(k:q):p/\q:=⟨h,k⟩
abbrev Ws:=@World.block_lt_of_cell?
abbrev Wt:=@Below.refl
abbrev Wu:=@Nat.le_refl
abbrev Wv:=@Below.heap_setCell
abbrev Ww:=@Nat.zero_le
abbrev Wx:=@List.getElem?_eq_getElem
abbrev Wy:=@Nat.not_lt_zero
abbrev Wz:=@IntKind.wrap_i64
abbrev WA:=@List.getD_eq_getElem?_getD
abbrev WC:=@Nat.le_trans
abbrev WD:=@List.length_append
abbrev WE:=@List.getElem_mem
abbrev WF:=@Nat.lt_of_lt_of_le
abbrev WG:=@List.take_length
abbrev WH:=@List.length_map
abbrev WI:=@List.length_take
abbrev WJ:=@World.size_alloc
abbrev WK:=@List.take_succ_eq_append_getElem
abbrev WL:=@Nat.add_sub_cancel
abbrev WM:=@Nat.zero_add
abbrev WN:=@List.length_cons
abbrev WP:=@List.getElem?_take_of_lt
abbrev WQ:=@List.getElem?_map
abbrev WS:=@Calls Tryz.prog
abbrev WT(w:World)(v:Value)(e:Ending)(w':World):Prop:=e=.returned v/\Bl w w'
end Go.Proofs.YtacpbofiipdodaaGreat
namespace Go.Proofs.YtacpbofiipdodaaGreat
open Go Go.Deep Go.RowKit
variable {a:Option Addr}{f:Nat->Int}{w:World}
def Rd (k:IntKind) (w:World) (a:Option Addr) (len:Nat) (f:Nat->Int):Prop:=
 len=0\/∃b o,a=some (ad b o)/\∀i,i<len->w.cell? (ad b (o+i))=some (.int k (f i))
theorem Rd.below {k:IntKind} {w':World} {len:Nat} (h:Rd k w a len f) (hb:Bl w w'):Rd k w' a len f:=by
 rcases h with h|⟨b,o,rfl,hc⟩;.exact Or.inl h
 .refine Or.inr ⟨b,o,rfl,λi hi=>?_⟩;have hlt:=Ws _ _ (hc i hi);rw[hb.cell (p:=(ad b (o+i))) hlt];exact hc i hi
theorem Rd.congr {k:IntKind} {len:Nat} {g:Nat->Int} (h:Rd k w a len f) (e:∀i,i<len->f i=g i):Rd k w a len g:=by
 rcases h with h|⟨b,o,rfl,hc⟩;.exact Or.inl h
 .exact Or.inr ⟨b,o,rfl,λi hi=>by rw[hc i hi,e i hi]⟩
theorem NR {b:Nat} {t:TypeId} {n k:Nat} {f:Nat->Value} {z:Value} (h:w.rowIs b t n (λj=>if j<k then f j else z)) :
  (w.setCell (ad b k) (f k)).rowIs b t n (λj=>if j<k+1 then f j else z):=
 (h.set k (f k)).congr λj _=>by
  by_cases e:j=k
  .subst e;simp
  .by_cases hl:j<k
   .simp[e,hl];omega
   .have:¬ j<k+1:=by omega
    simp[e,hl,this]
theorem Af {B:Nat} {a:World} (h:Below B a w) (n:Nat):Below B a (w.drewN n):=⟨h.os,h.tape,h.output,h.size,h.block⟩
theorem Vo {W w1:World} (hb:Bl W w1):(∀b o,b<W.heap.size->w1.cell? (ad b o)=W.cell? (ad b o))/\(∀b o,b<W.heap.size->w1.frozen? (ad b o)=W.frozen? (ad b o)):=
 ⟨λb o h=>hb.cell (p:=(ad b o)) h,λb o h=>hb.frozen (p:=(ad b o)) h⟩
theorem Aa (w:World) (o:Obj):Bl w (w.alloc o):=(Wt _ _).alloc (Wu _) o
variable {B n:Nat}{w':World}
def Ai (w:World) (g:Nat) (t:TypeId) (n:Nat) (F:Nat->Value):Prop:=
 ∃cur:Array Value,w.heap[g]?=some (.cells cur t (0,0))/\n<=cur.size/\∀i,i<n->cur[i]?=some (F i)
namespace Ai
variable {w:World} {g:Nat} {t:TypeId} {n:Nat} {F G:Nat->Value}
theorem cell (h:Ai w g t n F) {i:Nat} (hi:i<n):w.cell? (ad g i)=some (F i):=by obtain⟨c,hb,_,hc⟩:=h;simp[World.cell?,hb,hc i hi]
theorem frozen (h:Ai w g t n F) (i:Nat):w.frozen? (ad g i)=false:=by obtain⟨c,hb,_,_⟩:=h;simp[World.frozen?,hb]
theorem lt (h:Ai w g t n F):g<w.heap.size:=by obtain⟨c,hb,_,_⟩:=h;obtain⟨hlt,_⟩:=Array.getElem?_eq_some_iff.1 hb;exact hlt
theorem congr (h:Ai w g t n F) (e:∀i,i<n->F i=G i):Ai w g t n G:=by obtain⟨c,hb,hn,hc⟩:=h;exact⟨c,hb,hn,λi hi=>by rw[hc i hi,e i hi]⟩
theorem of_block (h:Ai w g t n F) (e:w'.heap[g]?=w.heap[g]?):Ai w' g t n F:=by obtain⟨c,hb,hn,hc⟩:=h;exact⟨c,e.trans hb,hn,hc⟩
theorem set (h:Ai w g t n F) (i:Nat) (v:Value):Ai (w.setCell (ad g i) v) g t n (λj=>if j=i then v else F j):=by
 obtain⟨c,hb,hn,hc⟩:=h;refine⟨c.setIfInBounds i v,?_,by simpa using hn,λj hj=>?_⟩;.simp[World.setCell,Array.getElem?_modify,hb]
 .rw[Array.getElem?_setIfInBounds];by_cases e:j=i
  .subst e;have:j<c.size:=by omega
   simp[this]
  .rw[if_neg (λh=>e h.symm)];show c[j]?=some (if j=i then v else F j);rw[if_neg e];exact hc j hj
theorem setOther (h:Ai w g t n F) {p:Addr} (hp:g≠p.block) (v:Value):Ai (w.setCell p v) g t n F:=h.of_block (Wv _ _ _ _ hp)
theorem ofIs (h:w.rowIs g t n F):Ai w g t n F:=by obtain⟨c,hb,hn,hc⟩:=h;exact⟨c,hb,by omega,hc⟩
theorem ne {g':Nat} {t':TypeId} {n':Nat} (h:Ai w g t n F) (h' : Ai w g' t' n' G) (ht:t≠t'):g≠g':=by rintro rfl;obtain⟨c,hb,_,_⟩:=h;obtain⟨c',hb',_,_⟩:=h';rw[hb] at hb';injection hb' with e;injection e with _ e2 _;exact ht e2
end Ai
structure Ed (a:Option Addr) (w w' : World):Prop where
 os:w'.os=w.os
 tape:w'.tape=w.tape
 output:w'.output=w.output
 size:w'.heap.size=w.heap.size
 block:∀k,(∀x,a=some x->x.block≠k)->w'.heap[k]?=w.heap[k]?
theorem Ed.refl (a:Option Addr) (w:World):Ed a w w:=⟨rfl,rfl,rfl,rfl,λ_ _=>rfl⟩
theorem Ed.below (h:Ed a w w') (hB:∀x,a=some x->B<=x.block):Below B w w':=
 ⟨h.os,h.tape,h.output,by rw[h.size];exact Wu _,λk hk=>h.block k (λx e=>by have:=hB x e;omega)⟩
theorem Ed.setCell {g:Nat} {w w' : World} (h:Ed (some (ad g 0)) w w') (i:Nat) (v:Value):Ed (some (ad g 0)) w (w'.setCell (ad g i) v):=
 ⟨h.os,h.tape,h.output,by rw[<- h.size];simp[World.setCell],λk hk=>by
  rw[<- h.block k hk]
  exact Wv _ _ _ _ (λe=>hk _ rfl e.symm)⟩
def F5 (w:World) (B:Nat) (a:Option Addr) (n:Nat) (f:Nat->Int):Prop:=
 n=0\/∃g,a=some (ad g 0)/\B<=g/\Ai w g 5 n (λi=>.int .u8 (f i))
theorem F5.rd (h:F5 w B a n f):Rd .u8 w a n f:=by
 rcases h with h|⟨g,rfl,_,hr⟩;.exact Or.inl h
 .exact Or.inr ⟨g,0,rfl,λi hi=>by rw[WM];exact hr.cell hi⟩
theorem F5.mono {B':Nat} (h:F5 w B a n f) (hB:B'<=B):F5 w B' a n f:=by
 rcases h with h|⟨g,rfl,hg,hr⟩;.exact Or.inl h
 .exact Or.inr ⟨g,rfl,by omega,hr⟩
theorem F5.congr {w:World} {B:Nat} {a:Option Addr} {n:Nat} {f f' : Nat->Int} (h:F5 w B a n f) (e:∀i,i<n->f i=f' i):F5 w B a n f':=by
 rcases h with h|⟨g,rfl,hg,hr⟩;.exact Or.inl h
 .exact Or.inr ⟨g,rfl,hg,hr.congr (λi hi=>by rw[e i hi])⟩
theorem F5.below (h:F5 w B a n f) (hb:Bl w w'):F5 w' B a n f:=by
 rcases h with h|⟨g,rfl,hg,hr⟩;.exact Or.inl h
 .exact Or.inr ⟨g,rfl,hg,hr.of_block (hb.block g hr.lt)⟩
theorem F5.only {a':Option Addr} (h:F5 w B a n f) (ho:Ed a' w w') (hne:n≠0->∀x y,a=some x->a'=some y->y.block≠x.block):F5 w' B a n f:=by
 rcases h with h|⟨g,rfl,hg,hr⟩;.exact Or.inl h
 .by_cases hn:n=0;.exact Or.inl hn
  .exact Or.inr ⟨g,rfl,hg,hr.of_block (ho.block g (λy e=>hne hn (ad g 0) y rfl e))⟩
variable {I:Nat->Int}{R X:Nat->ByteArray}
def DP (w:World) (a:Option Addr) (n:Nat) (I:Nat->Int) (X:Nat->ByteArray) (R:Nat->ByteArray):Prop:=
 n=0\/∃b o,a=some (ad b o)/\∀i,i<n->w.cell? (ad b (o+i*3))=some (iv (I i))/\w.cell? (ad b (o+i*3+1))=some (.string (X i))/\w.cell? (ad b (o+i*3+2))=some (.string (R i))
theorem DP.below {w':World} {a:Option Addr} (h:DP w a n I X R) (hb:Bl w w'):DP w' a n I X R:=by
 rcases h with h|⟨b,o,rfl,hc⟩;.exact Or.inl h
 .refine Or.inr ⟨b,o,rfl,λi hi=>?_⟩;obtain⟨h1,h2,h3⟩:=hc i hi;refine⟨?_,?_,?_⟩;.rw[hb.cell (p:=(ad b (o+i*3))) (Ws _ _ h1)];exact h1
  .rw[hb.cell (p:=(ad b (o+i*3+1))) (Ws _ _ h2)];exact h2
  .rw[hb.cell (p:=(ad b (o+i*3+2))) (Ws _ _ h3)];exact h3
def AX (I:Nat->Int) (X:Nat->ByteArray) (R:Nat->ByteArray) (c:Nat):Value:=
 if c % 3=0 then iv (I (c / 3)) else if c % 3=1 then .string (X (c / 3)) else .string (R (c / 3))
theorem B8 (I:Nat->Int) (X:Nat->ByteArray) (R:Nat->ByteArray) (i:Nat):AX I X R (i*3)=iv (I i):=by unfold AX;rw[if_pos (by omega),show i*3 / 3=i by omega]
theorem Ci (I:Nat->Int) (X:Nat->ByteArray) (R:Nat->ByteArray) (i:Nat):AX I X R (i*3+1)=.string (X i):=by unfold AX;rw[if_neg (by omega),if_pos (by omega),show (i*3+1) / 3=i by omega]
theorem Cc (I:Nat->Int) (X:Nat->ByteArray) (R:Nat->ByteArray) (i:Nat):AX I X R (i*3+2)=.string (R i):=by unfold AX;rw[if_neg (by omega),if_neg (by omega),show (i*3+2) / 3=i by omega]
theorem Hm {g:Nat} (h:Ai w g 97 (n*3) (AX I X R)):DP w (some (ad g 0)) n I X R:=by
 refine Or.inr ⟨g,0,rfl,λi hi=>⟨?_,?_,?_⟩⟩;.have:=h.cell (i:=i*3) (by omega);rw[B8] at this;simpa using this
 .have:=h.cell (i:=i*3+1) (by omega);rw[Ci] at this;simpa using this
 .have:=h.cell (i:=i*3+2) (by omega);rw[Cc] at this;simpa using this
theorem Vy (w:World) (m:Nat):Ai (w.alloc (.cells (madeCells #[iv 0,.string { data:=#[] },.string { data:=#[] }] (m*3)) 97)) w.heap.size 97 (m*3) (AX (λ_=>0) (λ_=>{ data:=#[] }) (λ_=>{ data:=#[] })):=by
 refine⟨_,blk_alloc_new _ _,by rw[size_madeCells];exact Wu _,λi hi=>?_⟩;unfold AX;have h3:i % 3=0\/i % 3=1\/i % 3=2:=by omega
 rcases h3 with e|e|e;all_goals simp[madeCells,hi,e]
end Go.Proofs.YtacpbofiipdodaaGreat
namespace Go.Proofs.YtacpbofiipdodaaGreat
open Go
variable {a:Nat->Nat}{e n r s:Nat}
def dep (a:Nat->Nat):Nat->Int
 | 0=>0
 | i+1=>dep a i-a i+1
def AM (a:Nat->Nat) (n:Nat):Prop:=∀i,i<n->(a i:Int)<=dep a i
theorem A5 (a:Nat->Nat) (i:Nat):dep a (i+1)=dep a i-a i+1:=rfl
theorem AM.pos (h:AM a n):∀j,0<j->j<=n->1<=dep a j
 | 0,h0,_=>absurd h0 (Nat.lt_irrefl _)
 | j+1,_,h1=>by
  have:=h j (by omega)
  rw[A5]
  omega
theorem Ma (a:Nat->Nat) (n:Nat):AM a n↔∀j,0<j->j<=n->1<=dep a j:=by
 constructor;.intro h j h0 h1;exact h.pos j h0 h1
 .intro h i hi;have:=h (i+1) (by omega) (by omega);rw[A5] at this;omega
def A4 (a:Nat->Nat) (e j:Nat):Int:=1-dep a e+dep a j
theorem EG (a:Nat->Nat) (e:Nat):A4 a e e=1:=by unfold A4;omega
theorem DS (a:Nat->Nat) (e j:Nat):A4 a e j=A4 a e (j+1)-1+a j:=by unfold A4;rw[A5];omega
def Am (a:Nat->Nat) (e s:Nat):Prop:=s<e/\A4 a e s=0/\∀j,s<j->j<=e->0<A4 a e j
theorem Am.uniq {s':Nat} (h:Am a e s) (h' : Am a e s'):s=s':=by
 rcases Nat.lt_trichotomy s s' with hl|hl|hl;.have:=h.2.2 s' hl (by have:=h'.1;omega);have:=h'.2.1;omega
 .exact hl
 .have:=h'.2.2 s hl (by have:=h.1;omega);have:=h.2.1;omega
theorem AM.begins (h:AM a n):∀e,0<e->e<=n->∃s,Am a e s:=by
 intro e h0 h1;have hp:=h.pos e h0 h1;have key:∀k,k<=e->(∀j,e-k<j->j<=e->0<A4 a e j)\/∃s,Am a e s:=by
  intro k;induction k with
  | zero=>exact λ_=>Or.inl (λj h2 h3=>absurd h2 (by omega))
  | succ k ih=>
   intro hk;rcases ih (by omega) with h2|h2
   .by_cases hz:A4 a e (e-k)=0
    .have hk0:k≠0:=λe0=>by subst e0;rw[Nat.sub_zero,EG] at hz;omega
     exact Or.inr ⟨e-k,by omega,hz,h2⟩
    .refine Or.inl (λj h3 h4=>?_);by_cases hj:j=e-k
     .subst hj;by_cases hk0:k=0;.subst hk0;rw[Nat.sub_zero,EG];omega
      .have h5:=h2 (e-k+1) (by omega) (by omega);have h6:=DS a e (e-k);omega
     .exact h2 j (by omega) h4
   .exact Or.inr h2
 rcases key e (Wu _) with h2|h2
 .refine⟨0,h0,?_,λj hj hje=>h2 j (by omega) hje⟩;have h3:=h2 1 (by omega) (by omega);have h4:A4 a e 0=A4 a e 1-1+a 0:=DS a e 0;have h5:dep a 0=0:=rfl;have h6:A4 a e 0=1-dep a e:=by unfold A4;rw[h5];omega
  omega
 .exact h2
theorem Ct (a:Nat->Nat) (n:Nat) (hn:0<n):Am a n 0↔(AM a n/\dep a n=1):=by
 constructor
 .rintro⟨_,h1,h2⟩;have hd:dep a n=1:=by unfold A4 at h1;have:dep a 0=0:=rfl;omega
  refine⟨(Ma a n).2 (λj h3 h4=>?_),hd⟩;have:=h2 j h3 h4;unfold A4 at this;omega
 .rintro⟨h1,h2⟩;refine⟨hn,?_,λj h3 h4=>?_⟩;.unfold A4;have:dep a 0=0:=rfl;omega
  .have:=h1.pos j h3 h4;unfold A4;omega
def Cf (a:Nat->Nat) (e k r:Nat):Prop:=r<e/\dep a (r+1)=k/\∀j,r<j->j<e->k<dep a (j+1)
theorem Cf.uniq {k r':Nat} (h:Cf a e k r) (h' : Cf a e k r'):r=r':=by
 rcases Nat.lt_trichotomy r r' with hl|hl|hl;.have:=h.2.2 r' hl h'.1;have:=h'.2.1;omega
 .exact hl
 .have:=h'.2.2 r hl h.1;have:=h.2.1;omega
theorem GP {k:Nat} (hk:dep a (e+1)=k):Cf a (e+1) k e:=⟨by omega,hk,λj h1 h2=>absurd h1 (by omega)⟩
theorem Cf.stay {k:Nat} (h:Cf a e k r) (hk:(k:Int)<=dep a e-a e):Cf a (e+1) k r:=by
 refine⟨by have:=h.1;omega,h.2.1,λj h1 h2=>?_⟩;by_cases e1:j=e;.subst e1;rw[A5];omega
 .exact h.2.2 j h1 (by omega)
theorem Am.next {k:Nat} (h:Am a e s) (hk:dep a e=k+1) (h0:0<k):∃r,s=r+1/\Cf a e k r:=by
 obtain⟨h1,h2,h3⟩:=h;unfold A4 at h2;cases s with
 | zero=>have:dep a 0=0:=rfl;omega
 | succ r=>refine⟨r,rfl,by omega,by omega,λj h4 h5=>?_⟩;have:=h3 (j+1) (by omega) (by omega);unfold A4 at this;omega
end Go.Proofs.YtacpbofiipdodaaGreat
namespace Go.Proofs.YtacpbofiipdodaaGreat
open Go Go.Deep Go.RowKit
def Ah (k:Int):Nat:=if k<=2 then 0 else if 6<=k/\k<=8 then 2 else 1
theorem BD (k:Int):Ah k<=2:=by unfold Ah;split <;> (try split) <;> omega
theorem GX (k:Int) (w:World):WS 109 #[iv k] w λe w'=>e=.returned (iv (Ah k))/\w'=w:=by
 by_cases h1:k<=2
 .have HE:U (Ah k=0):=by show _=_;unfold Ah;rw[if_pos h1]
  go_enter Tryz.func109,Tryz.ntmps109;go_wp2;go_ret;exact⟨by rw[HE.o];rfl,rfl⟩
 .have h1' : decide (k<=2)=false:=decide_eq_false h1;by_cases h2:6<=k
  .have h2' : decide (6<=k)=true:=decide_eq_true h2;by_cases h3:k<=8
   .have h3' : decide (k<=8)=true:=decide_eq_true h3;have HE:U (Ah k=2):=by show _=_;unfold Ah;rw[if_neg h1,if_pos ⟨h2,h3⟩]
    go_enter Tryz.func109,Tryz.ntmps109;go_wp2;go_ret;exact⟨by rw[HE.o];rfl,rfl⟩
   .have h3' : decide (k<=8)=false:=decide_eq_false h3;have HE:U (Ah k=1):=by show _=_;unfold Ah;rw[if_neg h1,if_neg (λh=>h3 h.2)]
    go_enter Tryz.func109,Tryz.ntmps109;go_wp2;go_ret;exact⟨by rw[HE.o];rfl,rfl⟩
  .have h2' : decide (6<=k)=false:=decide_eq_false h2;have HE:U (Ah k=1):=by show _=_;unfold Ah;rw[if_neg h1,if_neg (λh=>h2 h.1)]
   go_enter Tryz.func109,Tryz.ntmps109;go_wp2;go_ret;exact⟨by rw[HE.o];rfl,rfl⟩
theorem Oe {a:Nat->Nat} (ha:∀i,a i<=2) (n:Nat):∀k,k<=n->A4 a n (n-k)<=1+k
 | 0,_=>by rw[Nat.sub_zero,EG];omega
 | k+1,h=>by
  have h1:=Oe ha n k (by omega)
  have h2:=DS a n (n-(k+1))
  rw[show n-(k+1)+1=n-k by omega] at h2
  have:=ha (n-(k+1))
  omega
def Sx (A:Nat->Nat) (n:Nat) (w:World) (e:Ending) (w' : World):Prop:=
 w'=w/\((∃s,Am A n s/\e=.returned (iv (s:Int)))\/((¬ ∃s,Am A n s)/\e=.returned (iv (-1))))
theorem IY (a:Option Addr) (n c:Nat) (I:Nat->Int) (X R:Nat->ByteArray) (w:World) (h:DP w a n I X R) (hn:n<=1048576) :
  WS 61 #[.slice a n c] w (Sx (λi=>Ah (I i)) n w):=by
 obtain⟨A,hA⟩:=gn (λi=>Ah (I i));rw[<- hA];have HA:U (∀i,Ah (I i)=A i):=λi=>by rw[hA]
 have HA2:U (∀i,A i<=2):=λi=>by rw[hA];exact BD _
 have HR:=hid h;clear hA h;go_enter Tryz.func61,Tryz.ntmps61;go_wp2;go_loop [3,4] (λm i=>∃k:Nat,k<=n/\i=iv k/\m=iv (A4 A n k)/\∀j,k<j->j<=n->0<A4 A n j) (λ_ i=>(intOf i).toNat+1)
 case atStart=>exact⟨n,Wu _,rfl,by rw[EG],λj h1 h2=>absurd h1 (by omega)⟩
 case round=>
  obtain⟨k,hk,rfl,rfl,hpos⟩:=hrel;have HP:=hid hpos;have hup:=Oe HA2.o n (n-k) (by omega);rw[show n-(n-k)=k by omega] at hup;clear hpos;by_cases h0:0<A4 A n k
  .have h0' : decide (0<A4 A n k)=true:=decide_eq_true h0;by_cases hk0:k=0
   .have HN:U (¬ ∃s,Am A n s):=by
     rintro⟨s,h1,h2,_⟩;by_cases hs:s=0;.rw[hs,<- hk0] at h2;omega
     .have:=HP.o s (by omega) (by omega);omega
    have e1:IntKind.i64.wrap ((k:Int)-1)=-1:=by rw[hk0];rfl
    have e2:IntKind.i64.wrap ((0:Int)-1)=-1:=rfl;have e3:IntKind.i64.wrap (-1)=-1:=rfl;have HK:=hid hk0;obtain⟨m,hm⟩:=gn (A4 A n k);rw[<- hm] at h0 h0' hup ⊢;clear hk0 hm HP;go_wp2;go_ret;exact⟨rfl,Or.inr ⟨HN.o,rfl⟩⟩
   .obtain⟨k',rfl⟩:∃k',k=k'+1:=⟨k-1,by omega⟩;have hne:¬ n=0:=by omega
    rcases HR.o with h|⟨b,o,rfl,hc⟩;.exact absurd h hne
    have c1:=(hc k' (by omega)).1;have e1:IntKind.i64.wrap (((k'+1:Nat):Int)-1)=(k' : Int):=by rw[Wz];omega
    have e1' : IntKind.i64.wrap ((k' : Int)+1-1)=(k' : Int):=by rw[Wz];omega
    have ek:IntKind.i64.wrap (k' : Int)=(k' : Int):=by rw[Wz];omega
    have ik:(k' : Int)<(n:Int):=by omega
    have ik0:¬ (k' : Int)<0:=by omega
    have ik1:(0:Int)<=(k' : Int):=by omega
    obtain⟨m,hm⟩:=gn (A4 A n (k'+1));obtain⟨q,hq⟩:=gn (A k');have HS:U (A4 A n k'=m-1+q/\m=A4 A n (k'+1)/\q=A k'):=⟨by rw[hm,hq];exact DS A n k',hm,hq⟩;have hq2:q<=2:=by rw[hq];exact HA2.o _
    rw[<- hm] at h0 h0' hup ⊢;clear hm hq hc;have e2:IntKind.i64.wrap (m-1)=m-1:=by rw[Wz];omega
    have e3:IntKind.i64.wrap (m-1+(q:Int))=m-1+(q:Int):=by rw[Wz];omega
    go_wp2_with fail
    refine (GX (I k') w).mono ?_;rintro e w1 ⟨rfl,hw1⟩;rw[HA.o,<- HS.o.2.2];subst hw1;go_wp2;go_round
    case rel=>
     refine⟨k',by omega,by go_num,?_,λj h1 h2=>?_⟩;.rw[HS.o.1]
     .by_cases e:j=k'+1;.subst e;rw[<- HS.o.2.1];exact h0
      .exact HP.o j (by omega) h2
    case measure=>simp[intOf]
  .have h0' : decide (0<A4 A n k)=false:=decide_eq_false h0;have HB:U (Am A n k):=by
    have hkn:k≠n:=λe=>by rw[e,EG] at h0;omega
    have h1:=HP.o (k+1) (by omega) (by omega);have h2:=DS A n k;exact⟨by omega,by omega,HP.o⟩
   go_wp2;go_ret;exact⟨rfl,Or.inl ⟨k,HB.o,rfl⟩⟩
variable {x:ByteArray}
def Ha (x:ByteArray):Bool:=decide (1<=x.size) && decide (x.size<=30)
def KY (x:ByteArray):Bool:=x.toList.isEmpty
theorem Ea (h:KY x=true):x.toList=[]:=by unfold KY at h;simpa using h
theorem Gm (h:KY x=false):¬ x.toList=[]:=by unfold KY at h;simpa using h
theorem BG (x:ByteArray) (w:World):WS 108 #[.string x] w λe w'=>e=.returned (.bool (Ha x))/\w'=w:=by
 by_cases h1:1<=x.size
 .have i1:(1:Int)<=(x.size:Int):=by omega
  have i1' : decide ((1:Int)<=(x.size:Int))=true:=decide_eq_true i1;have HE:U (Ha x=decide (x.size<=30)):=by show _=_;unfold Ha;rw[decide_eq_true h1];rfl
  by_cases h2:x.size<=30
  .have i2:(x.size:Int)<=30:=by omega
   have i2' : decide ((x.size:Int)<=30)=true:=decide_eq_true i2;go_enter Tryz.func108,Tryz.ntmps108;go_wp2;go_ret;exact⟨by rw[HE.o,decide_eq_true h2];rfl,rfl⟩
  .have i2:¬ (x.size:Int)<=30:=by omega
   have i2' : decide ((x.size:Int)<=30)=false:=decide_eq_false i2;go_enter Tryz.func108,Tryz.ntmps108;go_wp2;go_ret;exact⟨by rw[HE.o,decide_eq_false h2];rfl,rfl⟩
 .have i1:¬ (1:Int)<=(x.size:Int):=by omega
  have i1' : decide ((1:Int)<=(x.size:Int))=false:=decide_eq_false i1;have HE:U (Ha x=false):=by show _=_;unfold Ha;rw[decide_eq_false h1];rfl
  go_enter Tryz.func108,Tryz.ntmps108;go_wp2;go_ret;exact⟨by rw[HE.o];rfl,rfl⟩
def Ke (k:Int) (s t:ByteArray):Bool:=
 if k=1\/k=6\/k=7\/k=8 then KY s && KY t else if k=2\/k=3\/k=4\/k=9 then Ha s && KY t else if k=5 then Ha s && Ha t else false
theorem Kv (k:Int) (hk:k=1\/k=6\/k=7\/k=8) (s t:ByteArray) (w:World):WS 60 #[.agg #[iv k,.string s,.string t]] w (WT w (.bool (KY s && KY t))):=by
 rcases hk with rfl|rfl|rfl|rfl;all_goals
  cases h1:KY s with
  | false=>
   have H1:=hid h1
   have e1:=h1
   have e1p:=Gm h1
   clear h1
   go_enter Tryz.func60,Tryz.ntmps60
   go_wp2
   go_ret
   exact⟨by first|rfl|simp,Aa _ _⟩
  | true=>
   have H1:=hid h1
   have e1:=h1
   have e1p:=Ea h1
   clear h1
   cases h2:KY t with
   | false=>
    have H2:=hid h2
    have e2:t.toList.isEmpty=false:=h2
    have e2p:=Gm h2
    clear h2
    go_enter Tryz.func60,Tryz.ntmps60
    go_wp2
    go_ret
    exact⟨by first|rfl|simp,Aa _ _⟩
   | true=>
    have H2:=hid h2
    have e2:=h2
    have e2p:=Ea h2
    clear h2
    go_enter Tryz.func60,Tryz.ntmps60
    go_wp2
    go_ret
    exact⟨by first|rfl|simp,Aa _ _⟩
theorem Le (k:Int) (hk:k=2\/k=3\/k=4\/k=9) (s t:ByteArray) (w:World):WS 60 #[.agg #[iv k,.string s,.string t]] w (WT w (.bool (Ha s && KY t))):=by
 rcases hk with rfl|rfl|rfl|rfl;all_goals
  cases h1:Ha s with
  | false=>
   have H1:=hid h1
   clear h1
   go_enter Tryz.func60,Tryz.ntmps60
   go_wp2_with fail
   refine (BG s _).mono ?_
   rintro e w1 ⟨he,hw⟩
   subst hw
   rw[H1.o] at he
   subst he
   go_wp2
   go_ret
   exact⟨by first|rfl|simp,Aa _ _⟩
  | true=>
   have H1:=hid h1
   clear h1
   cases h2:KY t with
   | false=>
    have H2:=hid h2
    have e2:t.toList.isEmpty=false:=h2
    have e2p:=Gm h2
    clear h2
    go_enter Tryz.func60,Tryz.ntmps60
    go_wp2_with fail
    refine (BG s _).mono ?_
    rintro e w1 ⟨he,hw⟩
    subst hw
    rw[H1.o] at he
    subst he
    go_wp2
    go_ret
    exact⟨by first|rfl|simp,Aa _ _⟩
   | true=>
    have H2:=hid h2
    have e2:=h2
    have e2p:=Ea h2
    clear h2
    go_enter Tryz.func60,Tryz.ntmps60
    go_wp2_with fail
    refine (BG s _).mono ?_
    rintro e w1 ⟨he,hw⟩
    subst hw
    rw[H1.o] at he
    subst he
    go_wp2
    go_ret
    exact⟨by first|rfl|simp,Aa _ _⟩
theorem TZ (s t:ByteArray) (w:World):WS 60 #[.agg #[iv 5,.string s,.string t]] w (WT w (.bool (Ha s && Ha t))):=by
 cases h1:Ha s with
 | false=>
  have H1:=hid h1;clear h1;go_enter Tryz.func60,Tryz.ntmps60;go_wp2_with fail
  refine (BG s _).mono ?_;rintro e w1 ⟨he,hw⟩;subst hw;rw[H1.o] at he;subst he;go_wp2;go_ret;exact⟨by first|rfl|simp,Aa _ _⟩
 | true=>
  have H1:=hid h1;clear h1;cases h2:Ha t with
  | false=>
   have H2:=hid h2;clear h2;go_enter Tryz.func60,Tryz.ntmps60;go_wp2_with fail
   refine (BG s _).mono ?_;rintro e w1 ⟨he,hw⟩;subst hw;rw[H1.o] at he;subst he;go_wp2_with fail
   refine (BG t _).mono ?_;rintro e w2 ⟨he,hw⟩;subst hw;rw[H2.o] at he;subst he;go_wp2;go_ret;exact⟨by first|rfl|simp,Aa _ _⟩
  | true=>
   have H2:=hid h2;clear h2;go_enter Tryz.func60,Tryz.ntmps60;go_wp2_with fail
   refine (BG s _).mono ?_;rintro e w1 ⟨he,hw⟩;subst hw;rw[H1.o] at he;subst he;go_wp2_with fail
   refine (BG t _).mono ?_;rintro e w2 ⟨he,hw⟩;subst hw;rw[H2.o] at he;subst he;go_wp2;go_ret;exact⟨by first|rfl|simp,Aa _ _⟩
theorem OL (k:Int) (s t:ByteArray) (w:World) (hk:¬ (1<=k/\k<=9)):WS 60 #[.agg #[iv k,.string s,.string t]] w (WT w (.bool false)):=by
 have e1:(k == 1)=false:=by simp;omega
 have e2:(k == 2)=false:=by simp;omega
 have e3:(k == 3)=false:=by simp;omega
 have e4:(k == 4)=false:=by simp;omega
 have e5:(k == 5)=false:=by simp;omega
 have e6:(k == 6)=false:=by simp;omega
 have e7:(k == 7)=false:=by simp;omega
 have e8:(k == 8)=false:=by simp;omega
 have e9:(k == 9)=false:=by simp;omega
 have f1:¬ k=1:=by omega
 have f2:¬ k=2:=by omega
 have f3:¬ k=3:=by omega
 have f4:¬ k=4:=by omega
 have f5:¬ k=5:=by omega
 have f6:¬ k=6:=by omega
 have f7:¬ k=7:=by omega
 have f8:¬ k=8:=by omega
 have f9:¬ k=9:=by omega
 clear hk;go_enter Tryz.func60,Tryz.ntmps60;go_wp2;go_ret;exact⟨rfl,Aa _ _⟩
theorem I5 (k:Int) (s t:ByteArray) (w:World):WS 60 #[.agg #[iv k,.string s,.string t]] w (WT w (.bool (Ke k s t))):=by
 by_cases h:1<=k/\k<=9
 .have h9:k=1\/k=2\/k=3\/k=4\/k=5\/k=6\/k=7\/k=8\/k=9:=by omega
  rcases h9 with rfl|rfl|rfl|rfl|rfl|rfl|rfl|rfl|rfl;.exact Kv 1 (by decide) s t w
  .exact Le 2 (by decide) s t w
  .exact Le 3 (by decide) s t w
  .exact Le 4 (by decide) s t w
  .exact TZ s t w
  .exact Kv 6 (by decide) s t w
  .exact Kv 7 (by decide) s t w
  .exact Kv 8 (by decide) s t w
  .exact Le 9 (by decide) s t w
 .have e:Ke k s t=false:=by unfold Ke;rw[if_neg (by omega),if_neg (by omega),if_neg (by omega)]
  rw[e];exact OL k s t w h
variable {n:Nat}
theorem UY {b o i:Nat}:(Addr.add (ad b o) i)=(ad b (o+i)):=by
 unfold Addr.add;by_cases h:i=0;.subst h;simp
 .simp[h]
theorem Q8 (b o r c lo:Nat) (h1:lo<=r) (h2:r<=c) (h3:lo<c) (w:World):(Instr.sliceAt 39 (.slice (some (ad b o)) r c) (some (iv (lo:Int))) none none).run Tryz.prog w=.ok (.slice (some (ad b (o+lo*3))) (r-lo) (c-lo)) w:=by simp[Instr.sliceAt,Instr.slice,go_sem];rw[if_pos h1,if_neg (show ¬ c=lo by omega)]
theorem QX (b o r c hi:Nat) (h1:hi<=c) (w:World):(Instr.sliceAt 39 (.slice (some (ad b o)) r c) none (some (iv (hi:Int))) none).run Tryz.prog w=.ok (.slice (some (ad b o)) hi c) w:=by simp[Instr.sliceAt,Instr.slice,go_sem];intro h;omega
theorem QR:Tryz.prog.underlying 147=some (.slice 39):=by kernel_rfl
theorem RW:(Tryz.prog.info? 39).map (λi=>(i.zero,i.size,i.bytes))=some (some (.slice none 0 0),1,24):=by kernel_rfl
theorem DP.take {w:World} {a:Option Addr} {r:Nat} {I:Nat->Int} {X R:Nat->ByteArray} (h:DP w a n I X R) (hr:r<=n):DP w a r I X R:=by
 rcases h with h|⟨b,o,rfl,hc⟩;.exact Or.inl (by omega)
 .exact Or.inr ⟨b,o,rfl,λi hi=>hc i (by omega)⟩
def Kk (W:World) (v:Value) (ks:List Value):Prop:=∃g cp,v=.slice (some (ad g 0)) ks.length cp/\∀i x,ks[i]?=some x->W.cell? (ad g i)=some x
def Cr (A:Nat->Nat) (b o c n j r:Nat) (ks:List Value):Prop:=
 (j=0/\r=n-1/\ks=[])\/(j=1/\Am A (n-1) r/\ks=[.slice (some (ad b (o+r*3))) (n-1-r) (c-r)])\/
  (j=2/\r=0/\∃s,Am A (n-1) s/\Am A s 0/\ks=[.slice (some (ad b o)) s c,.slice (some (ad b (o+s*3))) (n-1-s) (c-s)])
theorem DX {A:Nat->Nat} (hn:0<n) (h:Am A n 0) (ha:A (n-1)<=2) :
  (A (n-1)=0/\n=1)\/(A (n-1)=1/\Am A (n-1) 0)\/(A (n-1)=2/\∃s,0<s/\Am A (n-1) s/\Am A s 0):=by
 obtain⟨hs,hd⟩:=(Ct A n hn).1 h;obtain⟨m,rfl⟩:∃m,n=m+1:=⟨n-1,by omega⟩;rw[WL] at ha ⊢;have h1:=A5 A m;have hsm:AM A m:=λi hi=>hs i (by omega);by_cases h0:m=0;.subst h0;have h2:dep A 0=0:=rfl;exact Or.inl ⟨by omega,rfl⟩
 .have hp:=hsm.pos m (by omega) (Wu _);by_cases h2:A m=1;.exact Or.inr (Or.inl ⟨h2,(Ct A m (by omega)).2 ⟨hsm,by omega⟩⟩)
  .have h3:A m=2:=by omega
   obtain⟨s,hb⟩:=hsm.begins m (by omega) (Wu _);have h4:=hb.2.1;unfold A4 at h4;have hs0:0<s:=by
    rcases Nat.eq_zero_or_pos s with e|e;.subst e;have h5:dep A 0=0:=rfl;omega
    .exact e
   have hss:AM A s:=λi hi=>hsm i (by have:=hb.1;omega);exact Or.inr (Or.inr ⟨h3,s,hs0,hb,(Ct A s hs0).2 ⟨hss,by omega⟩⟩)
variable {A:Nat->Nat}{B b c j o r:Nat}{e:TypeId}{ks xs:List Value}{w:World}
theorem Cr.len (h:Cr A b o c n j r ks):ks.length=j:=by rcases h with ⟨rfl,_,rfl⟩|⟨rfl,_,rfl⟩|⟨rfl,_,s,_,_,rfl⟩ <;> rfl
theorem Cr.one (h:Cr A b o c n j r ks):∀u∈ks,u.oneCell'=true:=by
 rcases h with ⟨rfl,_,rfl⟩|⟨rfl,_,rfl⟩|⟨rfl,_,s,_,_,rfl⟩;.intro u hu;simp at hu
 .intro u hu;simp at hu;subst hu;rfl
 .intro u hu;simp at hu;rcases hu with rfl|rfl;.rfl
  .rfl
theorem KH {k:Nat} {v:Value} (h:w.ownsRow B e 1 v k ks) (hk:k=ks.length) (h0:0<k):Kk w v ks:=by
 rcases h.2 with ⟨_,hk0⟩|⟨g,cap,cur,hv,hg,hh,h1,h2,h3,h4⟩;.omega
 .subst hk;subst hv;refine⟨g,cap,rfl,λi x hx=>?_⟩;have hi:=(List.getElem?_eq_some_iff.1 hx).1;rw[h.cellAt i (by omega),hx]
theorem Q9 {k:Nat} {z:Nat} {v:Value} (h:w.ownsRow B e z v k xs):∀g,v.ownBlock=some g->B<=g:=by
 intro g eg;rcases h.2 with ⟨hv,_⟩|⟨g2,cap,cur,hv,hB,_⟩;.rw[hv] at eg;simp[Value.ownBlock] at eg
 .rw[hv] at eg;simp[Value.ownBlock] at eg;omega
theorem CG {size:Nat} {v:Value} (h:w.ownsRow B e size v n xs):∃p q,v=.slice p n q:=by
 rcases h.2 with ⟨hv,hn⟩|⟨g,cap,cur,hv,_⟩;.subst hn;exact⟨none,0,hv⟩
 .exact⟨_,cap,hv⟩
theorem Pp {m q:Nat} (HM:(q=0/\m+1=1)\/(q=1/\Am A m 0)\/(q=2/\∃s,0<s/\Am A m s/\Am A s 0)) (h:Cr A b o c (m+1) j r ks) (hj:j<q) :
  ∃s,Am A r s/\r<=m/\Cr A b o c (m+1) (j+1) s (.slice (some (ad b (o+s*3))) (r-s) (c-s)::ks):=by
 rcases h with ⟨rfl,hr,rfl⟩|⟨rfl,hr,rfl⟩|⟨rfl,_,s,_,_,rfl⟩
 .rw[WL] at hr;subst hr;rcases HM with ⟨h1,_⟩|⟨_,h2⟩|⟨_,s,_,h2,_⟩;.omega
  .exact⟨0,h2,Wu _,Or.inr (Or.inl ⟨rfl,by rw[WL];exact h2,by rw[WL]⟩)⟩
  .exact⟨s,h2,Wu _,Or.inr (Or.inl ⟨rfl,by rw[WL];exact h2,by rw[WL]⟩)⟩
 .rw[WL] at hr;rcases HM with ⟨h1,_⟩|⟨h1,_⟩|⟨_,s,_,h2,h3⟩;.omega
  .omega
  .have e:=h2.uniq hr;subst e;refine⟨0,h3,by have:=hr.1;omega,Or.inr (Or.inr ⟨rfl,rfl,s,by rw[WL];exact h2,h3,?_⟩)⟩;simp
 .rcases HM with ⟨h1,_⟩|⟨h1,_⟩|⟨h1,_⟩ <;> omega
def NV (A:Nat->Nat) (b o c m q:Nat) (w:World) (e:Ending) (w' : World):Prop:=
 ∃v r ks,e=.returned v/\Cr A b o c (m+1) q r ks/\Kk w' v ks/\Bl w w'
theorem Fv (b o m c:Nat) (I:Nat->Int) (X R:Nat->ByteArray) (w:World) (h:DP w (some (ad b o)) (m+1) I X R) (hn:m<=1048576) (hc:m+1<=c) (hcm:c<=9223372036854775807) (ht:Am (λi=>Ah (I i)) (m+1) 0) :
  WS 73 #[.slice (some (ad b o)) (m+1) c] w (NV (λi=>Ah (I i)) b o c m (Ah (I m)) w):=by
 obtain⟨A,hA⟩:=gn (λi=>Ah (I i));obtain⟨q,hq⟩:=gn (Ah (I m));rw[<- hA] at ht;rw[<- hA,<- hq];have HM:=DX (by omega) ht (by rw[hA];exact BD _);rw[WL,show A m=q by rw[hA,hq]] at HM;have HMM:=hid HM;have HA:=hid hA;have HQ:=hid hq;have HR:=hid h;have hq2:q<=2:=by rw[hq];exact BD _
 have hcell:w.cell? (ad b (o+m*3))=some (iv (I m)):=by
  rcases h with h|⟨b',o',e,hcc⟩;.omega
  .injection e with e;injection e with e1 e2;subst e1 e2;exact (hcc m (by omega)).1
 have hcell2:=λO=>((Aa w O).cell (p:=(ad b (o+m*3))) (Ws _ _ hcell)).trans hcell;have e1:IntKind.i64.wrap (((m+1:Nat):Int)-1)=(m:Int):=by rw[Wz];omega
 have e1' : IntKind.i64.wrap ((m:Int)+1-1)=(m:Int):=by rw[Wz];omega
 have em:IntKind.i64.wrap (m:Int)=(m:Int):=by rw[Wz];omega
 have im:(m:Int)<((m+1:Nat):Int):=by omega
 have im' : (m:Int)<(m:Int)+1:=by omega
 have im0:(0:Int)<=(m:Int):=by omega
 have hsl:=QX b o (m+1) c m (by omega);clear h hA hq ht HM;go_enter Tryz.func73,Tryz.ntmps73;go_wp2_with fail
 refine (GX (I m) _).mono ?_;rintro e w1 ⟨rfl,hw1⟩;subst hw1;rw[<- HQ.o];clear hcell hcell2;go_wp2;go_loopw [3,4,5,6] (λrest out k _ wr=>∃(j r:Nat) (ks:List Value),j<=q/\k=iv ((q-j:Nat):Int)/\rest=.slice (some (ad b o)) r c/\Cr A b o c (m+1) j r ks/\Kk wr out ks/\Bl w wr) (λ_ _ k _ _=>(intOf k).toNat)
 case atStart=>refine⟨0,m,[],Ww _,by simp,rfl,Or.inl ⟨rfl,by omega,rfl⟩,⟨_,0,rfl,λi x hx=>by simp at hx⟩,Aa _ _⟩
 case round=>
  obtain⟨j,r,ks,hj,rfl,rfl,hko,hka,hb⟩:=hrel;obtain⟨go,cpo,rfl,hks⟩:=hka;have HKO:=hid hko;have HKS:=hid hks;have HB:=hid hb;have hz:=hb.size;have HLEN:=hid hko.len;clear hko hks hb;by_cases hlt:j<q
  .obtain⟨s,hs,hrm,hnext⟩:=Pp HMM.o HKO.o hlt;have HS:=hid (ai hs hnext);have hsr:=hs.1;have hgt:(0:Int)<((q-j:Nat):Int):=by omega
   have hgt' : decide ((0:Int)<((q-j:Nat):Int))=true:=decide_eq_true hgt;clear hs hnext;go_wp2_with fail
   refine (IY (some (ad b o)) r c I X R wr ((HR.o.below HB.o).take (by omega)) (by omega)).mono ?_;rintro e w2 ⟨hw2,hfr⟩;subst hw2;rw[<- HA.o] at hfr;have he:e=.returned (iv (s:Int)):=by
    rcases hfr with ⟨s',h1,h2⟩|⟨h1,_⟩;.rw[h1.uniq HS.o.1] at h2;exact h2
    .exact absurd ⟨s,HS.o.1⟩ h1
   subst he;clear hfr;have hslA:=Q8 b o r c s (by omega) (by omega) (by omega);have hslB:=QX b o r c s (by omega);have ek:IntKind.i64.wrap (((q-j:Nat):Int)-1)=((q-(j+1):Nat):Int):=by rw[Wz];omega
   have HO:=hid (World.ownsRow_lit w2 (e:=39) (size:=1) #[.slice (some (ad b (o+s*3))) (r-s) (c-s)] 1 (Wu _) (by unfold maxLen;omega) rfl);have HN:U (∀i x,ks[i]?=some x->(w2.alloc (.cells #[.slice (some (ad b (o+s*3))) (r-s) (c-s)] 39)).cell? (((ad go 0):Addr).add i)=some x):=by intro i x hx;have h1:=HKS.o i x hx;rw[UY,WM];exact ((Aa w2 _).cell (p:=(ad go i)) (Ws _ _ h1)).trans h1
   have hz9:w2.heap.size<=(w2.alloc (.cells #[.slice (some (ad b (o+s*3))) (r-s) (c-s)] 39)).heap.size:=by simp
   obtain⟨i0,hi,hz0,hz1,hz2⟩:=info_parts RW;have hj2:ks.length<=2:=by have:=HLEN.o;omega
   go_wp2_with (at_builtin;refine wpList_append_own _ rfl _ _ 147 rfl w2.heap.size 39 i0 (.slice none 0 0) 1 24 QR hi hz0 hz1 hz2 rfl (by decide) _ 1 _ rfl HO.o (ad go 0) ks.length cpo ks rfl (by omega) HN.o HKO.o.one (by unfold maxLen;omega) (by omega) hz9 ?_)
   intro v' w3 hown3 hgr3 _;have HX:U (Kk w3 v' (.slice (some (ad b (o+s*3))) (r-s) (c-s)::ks)/\Bl w w3):=by refine⟨KH hown3 (by simp;omega) (by omega),?_⟩;have hb2:=Below.grown (Aa w2 (.cells #[.slice (some (ad b (o+s*3))) (r-s) (c-s)] 39)) hgr3 hz9 (Q9 HO.o);exact HB.o.trans (hb2.mono hz)
   obtain⟨pv,qv,hvv⟩:=CG hown3;subst hvv;clear hown3 hgr3 HO HN;go_wp2;go_roundw;case rel=>exact⟨j+1,s,_,by omega,rfl,rfl,HS.o.2,HX.o.1,HX.o.2⟩
   case measure=>simp[intOf];omega
  .have e:j=q:=by omega
   subst e;have hgt:¬ (0:Int)<((j-j:Nat):Int):=by omega
   go_wp2;go_ret;exact⟨_,r,ks,rfl,HKO.o,⟨go,cpo,rfl,HKS.o⟩,HB.o⟩
variable {I:Nat->Int}{R X:Nat->ByteArray}{e s:Nat}
def Sf (A:Nat->Nat) (e:Nat):Nat->Nat
 | 0=>0
 | j+1=>if A4 A e j=0 then j else Sf A e j
def Qi (A:Nat->Nat) (e:Nat):Nat:=Sf A e e
theorem NK {A:Nat->Nat} {e s:Nat} (h:Am A e s):∀j,s<j->j<=e->Sf A e j=s
 | 0,h0,_=>absurd h0 (Wy _)
 | j+1,h0,h1=>by
  unfold Sf
  by_cases e1:j=s
  .subst e1;rw[if_pos h.2.1]
  .have:=h.2.2 j (by omega) (by omega)
   rw[if_neg (by omega)]
   exact NK h j (by omega) (by omega)
theorem Gu (h:Am A e s):Qi A e=s:=NK h e h.1 (Wu _)
theorem A2 (A:Nat->Nat) (s:Nat):∀j,dep (λi=>A (s+i)) j=dep A (s+j)-dep A s
 | 0=>by show (0:Int)=dep A s-dep A s;omega
 | j+1=>by
  rw[A5,A2 A s j,show s+(j+1)=(s+j)+1 by omega,A5]
  omega
theorem Am.shift (h:Am A e s):Am (λi=>A (s+i)) (e-s) 0:=by
 obtain⟨h1,h2,h3⟩:=h;unfold A4 at h2 h3;have hse:s+(e-s)=e:=by omega
 refine⟨by omega,?_,λj h4 h5=>?_⟩;.unfold A4;rw[A2,A2,hse,Nat.add_zero];omega
 .unfold A4;rw[A2,A2,hse];have:=h3 (s+j) (by omega) (by omega);omega
def Hd:Nat->(Nat->Nat)->Nat->Nat
 | 0,_,_=>0
 | f+1,A,n=>if A (n-1)=0 then 1 else if A (n-1)=1 then 1+Hd f A (n-1) else 1+max (Hd f A (Qi A (n-1))) (Hd f (λi=>A (Qi A (n-1)+i)) (n-1-Qi A (n-1)))
theorem Jp:∀f A n,Hd f A n<=f
 | 0,_,_=>Wu _
 | f+1,A,n=>by
  unfold Hd
  have h1:=Jp f A (n-1)
  have h2:=Jp f A (Qi A (n-1))
  have h3:=Jp f (λi=>A (Qi A (n-1)+i)) (n-1-Qi A (n-1))
  split
  .omega
  .split
   .omega
   .omega
theorem DP.shift {n:Nat} (h:DP w (some (ad b o)) n I X R) (s:Nat):DP w (some (ad b (o+s*3))) (n-s) (λi=>I (s+i)) (λi=>X (s+i)) (λi=>R (s+i)):=by
 rcases h with h|⟨b',o',e,hc⟩;.exact Or.inl (by omega)
 .injection e with e;injection e with e1 e2;subst e1 e2;refine Or.inr ⟨b,o+s*3,rfl,λi hi=>?_⟩;have:=hc (s+i) (by omega);rw[show o+(s+i)*3=o+s*3+i*3 by omega] at this;exact this
def ML (kh:Nat->Nat):Nat->Nat
 | 0=>0
 | i+1=>max (ML kh i) (kh i)
theorem PD {c m q r:Nat} {ks:List Value} (hA:A=λi=>Ah (I i)) (hq:q=A m) (h:Cr A b o c (m+1) q r ks) (hR:DP w (some (ad b o)) (m+1) I X R) (hc:m+1<=c) (hb:Am A (m+1) 0) (f:Nat) :
  ∃kh:Nat->Nat,Hd (f+1) A (m+1)=1+ML kh q/\(∀i,kh i<=f)/\∀i,i<q->∃o' n' c' I' X' R',ks[i]?=some (.slice (some (ad b o')) (n'+1) c')/\DP w (some (ad b o')) (n'+1) I' X' R'/\Am (λi=>Ah (I' i)) (n'+1) 0/\n'+1<=m/\n'+1<=c'/\c'<=c/\kh i=Hd f (λi=>Ah (I' i)) (n'+1):=by
 have hh:Hd (f+1) A (m+1)=if A m=0 then 1 else if A m=1 then 1+Hd f A m else 1+max (Hd f A (Qi A m)) (Hd f (λi=>A (Qi A m+i)) (m-Qi A m)):=by show (if A (m+1-1)=0 then 1 else _)=_;rw[WL]
 rw[hh,<- hq];rcases h with ⟨h0,_,_⟩|⟨h1,h2,h3⟩|⟨h1,_,s,h2,h3,h4⟩;.refine⟨λ_=>0,?_,λ_=>Ww _,λi hi=>absurd hi (by omega)⟩;rw[if_pos h0,h0];rfl
 .rw[WL] at h2 h3;have hr0:r=0:=by
   rcases DX (by omega) hb (by rw[hA];exact BD _) with ⟨e,_⟩|⟨_,e⟩|⟨e,_⟩;.rw[WL] at e;omega
   .rw[WL] at e;exact h2.uniq e
   .rw[WL] at e;omega
  subst hr0;refine⟨λ_=>Hd f A m,?_,λ_=>Jp _ _ _,λi hi=>?_⟩;.rw[if_neg (by omega),if_pos h1,h1];show _=1+max 0 (Hd f A m);rw[Nat.zero_max]
  .have hi0:i=0:=by omega
   subst hi0;have hm:=h2.1;refine⟨o,m-1,c,I,X,R,?_,hR.take (by omega),?_,by omega,by omega,Wu _,?_⟩;.rw[h3,show m-1+1=m by omega];simp
   .rw[show m-1+1=m by omega,<- hA];exact h2
   .rw[show m-1+1=m by omega,<- hA]
 .rw[WL] at h2 h4;have hs:=h2.1;have hs0:=h3.1;rw[Gu h2];refine⟨λi=>if i=0 then Hd f A s else Hd f (λi=>A (s+i)) (m-s),?_,λi=>?_,λi hi=>?_⟩;.rw[if_neg (by omega),if_neg (by omega),h1];show 1+_=1+max (max 0 _) _;simp
  .dsimp only;split <;> exact Jp _ _ _
  .have hi2:i=0\/i=1:=by omega
   rcases hi2 with rfl|rfl
   .refine⟨o,s-1,c,I,X,R,?_,hR.take (by omega),?_,by omega,by omega,Wu _,?_⟩;.rw[h4,show s-1+1=s by omega];rfl
    .rw[show s-1+1=s by omega,<- hA];exact h3
    .rw[show s-1+1=s by omega,<- hA];rfl
   .refine⟨o+s*3,m-s-1,c-s,λi=>I (s+i),λi=>X (s+i),λi=>R (s+i),?_,?_,?_,by omega,by omega,by omega,?_⟩;.rw[h4,show m-s-1+1=m-s by omega];rfl
    .rw[show m-s-1+1=m-s by omega];exact (hR.shift s).take (by omega)
    .rw[show m-s-1+1=m-s by omega];have:=h2.shift;rw[hA] at this;exact this
    .rw[show m-s-1+1=m-s by omega,hA];rfl
theorem Gg:∀(f:Nat) (b o m c:Nat) (I:Nat->Int) (X R:Nat->ByteArray) (w:World),DP w (some (ad b o)) (m+1) I X R->m+1<=f->f<=1048576->m+1<=c->c<=9223372036854775807->Am (λi=>Ah (I i)) (m+1) 0->
  WS 62 #[.slice (some (ad b o)) (m+1) c] w (WT w (iv (Hd f (λi=>Ah (I i)) (m+1))))
 | 0,b,o,m,c,I,X,R,w,_,hf,_,_,_,_=>absurd hf (by omega)
 | f+1,b,o,m,c,I,X,R,w,hR,hf,hf2,hc,hcm,hb=>by
  have IH:U (∀(b o m c:Nat) (I:Nat->Int) (X R:Nat->ByteArray) (w:World),DP w (some (ad b o)) (m+1) I X R->m+1<=f->f<=1048576->m+1<=c->c<=9223372036854775807->Am (λi=>Ah (I i)) (m+1) 0->
   WS 62 #[.slice (some (ad b o)) (m+1) c] w (WT w (iv (Hd f (λi=>Ah (I i)) (m+1))))):=Gg f
  obtain⟨A,hA⟩:∃A:Nat->Nat,A=λi=>Ah (I i):=⟨_,rfl⟩
  have HK:U (WS 73 #[.slice (some (ad b o)) (m+1) c] w (NV (λi=>Ah (I i)) b o c m (Ah (I m)) w)):=Fv b o m c I X R w hR (by omega) hc hcm hb
  rw[<- hA] at HK hb ⊢
  have HR:U (DP w (some (ad b o)) (m+1) I X R):=hR
  have HB:U (Am A (m+1) 0):=hb
  have HA:U (A=λi=>Ah (I i)):=hA
  obtain⟨H,hH⟩:∃H,H=Hd (f+1) A (m+1):=⟨_,rfl⟩
  rw[<- hH]
  have HHH:U (H=Hd (f+1) A (m+1)):=hH
  clear hR hb hA hH
  go_enter Tryz.func62,Tryz.ntmps62
  go_wp2_with fail
  refine HK.o.mono ?_
  rintro e w1 ⟨v,r,ks,rfl,hko,hka,hb1⟩
  obtain⟨go,cpo,rfl,hks⟩:=hka
  have hlen:=hko.len
  obtain⟨kh,hk1,hk2,hk3⟩:=PD HA.o (by rw[HA.o]) hko HR.o hc HB.o f
  have HKH:U (H=1+ML kh (Ah (I m))/\(∀i,kh i<=f)/\∀i,i<Ah (I m)->∃o' n' c' I' X' R',ks[i]?=some (.slice (some (ad b o')) (n'+1) c')/\DP w (some (ad b o')) (n'+1) I' X' R'/\Am (λi=>Ah (I' i)) (n'+1) 0/\n'+1<=m/\n'+1<=c'/\c'<=c/\kh i=Hd f (λi=>Ah (I' i)) (n'+1)):=⟨HHH.o.trans hk1,hk2,hk3⟩
  have HKS:U (∀i x,ks[i]?=some x->w1.cell? (ad go i)=some x):=hks
  have HB1:U (Bl w w1):=hb1
  obtain⟨q,hq⟩:∃q,q=Ah (I m):=⟨_,rfl⟩
  rw[<- hq] at HKH hlen
  have hq2:q<=2:=by rw[hq];exact BD _
  rw[hlen]
  have z1:=hb1.size
  clear hko hks hb1 hk1 hk2 hk3 HK hlen hq
  go_wp2
  go_loopw [4,5,6] (λmo i _ wr=>∃k:Nat,k<=q/\i=iv k/\mo=iv (ML kh k)/\Bl w1 wr) (λ_ i _ _=>q-(intOf i).toNat)
  case atStart=>exact⟨0,Ww _,rfl,rfl,Wt _ _⟩
  case round=>
   obtain⟨k,hk,rfl,rfl,hbr⟩:=hrel
   have HBR:U (Bl w1 wr):=hbr
   have hmx:ML kh k<=f:=by
    have h0:∀k,ML kh k<=f:=by
     intro k
     induction k with
     | zero=>exact Ww _
     | succ k ih=>
      have:=HKH.o.2.1 k
      show max (ML kh k) (kh k)<=f
      omega
    exact h0 k
   clear hbr
   by_cases hlt:k<q
   .obtain⟨o',n',c',I',X',R',h1,h2,h3,h4,h5,h6,h7⟩:=HKH.o.2.2 k hlt
    have hc1:wr.cell? (ad go k)=some (.slice (some (ad b o')) (n'+1) c'):=(HBR.o.cell (p:=(ad go k)) (Ws _ _ (HKS.o k _ h1))).trans (HKS.o k _ h1)
    have HC:U (WS 62 #[.slice (some (ad b o')) (n'+1) c'] wr (WT wr (iv (kh k)))):=by
     rw[h7]
     exact IH.o b o' n' c' I' X' R' wr ((h2.below HB1.o).below HBR.o) (by omega) (by omega) h5 (by omega) h3
    have hkk:kh k<=f:=HKH.o.2.1 k
    have ik:(k:Int)<(q:Int):=by omega
    have ik0:(0:Int)<=(k:Int):=by omega
    clear h1 h2 h3 h4 h5 h6 h7
    go_wp2_with fail
    refine HC.o.mono ?_
    rintro e w2 ⟨rfl,hb2⟩
    have HX:U (Bl w1 w2):=HBR.o.trans (hb2.mono HBR.o.size)
    have wk:IntKind.i64.wrap ((k:Int)+1)=(k:Int)+1:=by rw[Wz];omega
    have HM:U (ML kh (k+1)=max (ML kh k) (kh k)):=rfl
    clear hb2 hc1 HC
    by_cases hgt:ML kh k<kh k
    .have hgt1:((ML kh k:Nat):Int)<((kh k:Nat):Int):=by omega
     go_wp2
     go_roundw
     case rel=>exact⟨k+1,by omega,by go_num,by rw[HM.o,Nat.max_eq_right (by omega)],HX.o⟩
     case measure=>simp[intOf];omega
    .have hgt1:¬ ((ML kh k:Nat):Int)<((kh k:Nat):Int):=by omega
     go_wp2
     go_roundw
     case rel=>exact⟨k+1,by omega,by go_num,by rw[HM.o,Nat.max_eq_left (by omega)],HX.o⟩
     case measure=>simp[intOf];omega
   .have e:k=q:=by omega
    subst e
    have wm:IntKind.i64.wrap ((ML kh k:Nat)+1:Int)=((ML kh k:Nat):Int)+1:=by rw[Wz];omega
    have HE:U (((H:Nat):Int)=((ML kh k:Nat):Int)+1):=by
     show _=_
     rw[HKH.o.1]
     omega
    have HZ:U (Bl w wr):=HB1.o.trans (HBR.o.mono z1)
    go_wp2
    go_ret
    exact⟨by rw[HE.o];rfl,HZ.o⟩
end Go.Proofs.YtacpbofiipdodaaGreat
namespace Go.Proofs.YtacpbofiipdodaaGreat
open Go
variable {A:Nat->Nat}{i j j' n p:Nat}
def AK (A:Nat->Nat) (i j:Nat):Nat:=if A i=2/\j=0 then Qi A i-1 else i-1
theorem Oj (h:AM A n) (hi:i<n) (ha:0<A i):0<i:=by
 cases i with
 | zero=>have:=h 0 hi;have h0:dep A 0=0:=rfl;omega
 | succ i=>omega
theorem C4 (h:AM A n) (hi:i<n) (ha:A i<=2) (hj:j<A i) {d:Nat} (hd:dep A i=d):Cf A i (d-A i+j+1) (AK A i j):=by
 have h1:=h i hi;have hp:=Oj h hi (by omega);have top:Cf A i d (i-1):=by have:=GP (a:=A) (e:=i-1) (k:=d) (by rw[show i-1+1=i by omega];exact hd);rw[show i-1+1=i by omega] at this;exact this
 unfold AK;by_cases h2:A i=2/\j=0;.rw[if_pos h2];obtain⟨s,hs⟩:=h.begins i hp (by omega);rw[Gu hs];obtain⟨r,hr,hst⟩:=hs.next (k:=d-1) (by omega) (by omega);rw[hr,WL,show d-A i+j+1=d-1 by omega];exact hst
 .rw[if_neg h2,show d-A i+j+1=d by omega];exact top
theorem Gt (h:AM A n) (hi:i<n) (ha:A i<=2) (hj:j<A i):AK A i j<i:=by have h1:=h i hi;exact (C4 h hi ha hj (d:=(dep A i).toNat) (by omega)).1
theorem M7 {p':Nat} (h:AM A n) (hp:p<n) (hp' : p'<n) (ha:A p<=2) (ha' : A p'<=2) (hj:j<A p) (hj' : j'<A p') (e:AK A p j=AK A p' j'):p=p':=by
 have key:∀{p p' j j' : Nat},p<n->p'<n->A p<=2->A p'<=2->j<A p->j'<A p'->AK A p j=AK A p' j'->¬ p<p':=by intro p p' j j' hp hp' ha ha' hj hj' e hlt;have h1:=h p hp;have h2:=h p' hp';have q1:=C4 h hp ha hj (d:=(dep A p).toNat) (by omega);have q2:=C4 h hp' ha' hj' (d:=(dep A p').toNat) (by omega);rw[e] at q1;have e1:=q1.2.1;have e2:=q2.2.1;have q3:=q2.2.2 p (by have:=q1.1;omega) hlt;rw[A5] at q3;omega
 rcases Nat.lt_trichotomy p p' with q|q|q;.exact absurd q (key hp hp' ha ha' hj hj' e)
 .exact q
 .exact absurd q (key hp' hp ha' ha hj' hj e.symm)
theorem RY (h:AM A n) (hp:p<n) (ha:A p<=2) (hj:j<A p) (hj' : j'<A p) (e:AK A p j=AK A p j'):j=j':=by have h1:=h p hp;have q1:=C4 h hp ha hj (d:=(dep A p).toNat) (by omega);have q2:=C4 h hp ha hj' (d:=(dep A p).toNat) (by omega);rw[e] at q1;have e1:=q1.2.1;have e2:=q2.2.1;omega
def JU (A:Nat->Nat) (H:Nat->Nat) (i:Nat):Nat->Nat
 | 0=>0
 | j+1=>max (JU A H i j) (H (AK A i j))
def hM (A:Nat->Nat):Nat->Nat->Nat
 | 0,_=>0
 | f+1,i=>1+JU A (hM A f) i (A i)
theorem Gr {A:Nat->Nat} {H H' : Nat->Nat} {i:Nat}:∀j,(∀m,m<j->H (AK A i m)=H' (AK A i m))->JU A H i j=JU A H' i j
 | 0,_=>rfl
 | j+1,h=>by
  unfold JU
  rw[Gr j (λm hm=>h m (by omega)),h j (by omega)]
theorem Oq {A:Nat->Nat} {n:Nat} (h:AM A n) (ha:∀i,A i<=2):∀(f f' i:Nat),i<n->i<f->i<f'->hM A f i=hM A f' i
 | 0,_,_,_,h1,_=>absurd h1 (Wy _)
 | f+1,0,_,_,_,h2=>absurd h2 (Wy _)
 | f+1,f'+1,i,hi,h1,h2=>by
  show 1+_=1+_
  rw[Gr]
  intro m hm
  have:=Gt h hi (ha i) hm
  exact Oq h ha f f' _ (by omega) (by omega) (by omega)
theorem Tj {A:Nat->Nat}:∀(f i:Nat),hM A f i<=f
 | 0,_=>Wu _
 | f+1,i=>by
  have key:∀j,JU A (hM A f) i j<=f:=by
   intro j
   induction j with
   | zero=>exact Ww _
   | succ j ih=>
    have:=Tj (A:=A) f (AK A i j)
    show max _ _<=f
    omega
  show 1+_<=f+1
  have:=key (A i)
  omega
theorem MN {A:Nat->Nat} {n:Nat} (h:AM A n) (ha:∀i,A i<=2):∀(f i s:Nat),i<n->Am A (i+1) s->Hd f (λq=>A (s+q)) (i+1-s)=hM A f i
 | 0,_,_,_,_=>rfl
 | f+1,i,s,hi,hb=>by
  have hs:=hb.1
  have e0:s+(i+1-s-1)=i:=by omega
  have e1:i+1-s-1=i-s:=by omega
  show (if A (s+(i+1-s-1))=0 then 1 else if A (s+(i+1-s-1))=1 then _ else _)=1+JU A (hM A f) i (A i)
  rw[e0,e1]
  have h2:=ha i
  have hpos:0<A i->0<i:=λq=>Oj h hi q
  have hn0:=hb.2.1
  by_cases a0:A i=0
  .rw[if_pos a0,a0];rfl
  .rw[if_neg a0]
   have hip:=hpos (by omega)
   obtain⟨t,ht⟩:=h.begins i hip (by omega)
   have htl:=ht.1
   -- the last operand
   have last:AK A i (A i-1)=i-1:=by
    unfold AK
    rw[if_neg (by omega)]
   have L1:=MN h ha f (i-1) t (by omega) (by rw[show i-1+1=i by omega];exact ht)
   rw[show i-1+1-t=i-t by omega] at L1
   have d1:=h i hi
   by_cases a1:A i=1
   .have hst:t=s:=by
     refine ht.uniq ⟨?_,?_,λq q1 q2=>?_⟩
     .rcases Nat.lt_or_ge s i with q|q
      .exact q
      .have:s=i:=by omega
       subst this
       unfold A4 at hn0
       rw[A5] at hn0
       omega
     .unfold A4 at hn0 ⊢
      rw[A5] at hn0
      omega
     .have:=hb.2.2 q q1 (by omega)
      unfold A4 at this ⊢
      rw[A5] at this
      omega
    subst hst
    rw[if_pos a1,a1]
    show 1+Hd f (λq=>A (t+q)) (i-t)=1+max 0 (hM A f (AK A i 0))
    rw[a1] at last
    rw[last,L1,Nat.zero_max]
   .have a2:A i=2:=by omega
    have hs2:Am A t s:=by
     have n2:=ht.2.1
     unfold A4 at n2 hn0
     rw[A5] at hn0
     have hst:s<t:=by
      rcases Nat.lt_or_ge s t with q|q
      .exact q
      .have:s=t\/t<s:=by omega
       rcases this with e|e
       .subst e;omega
       .have:=ht.2.2 s e (by
         rcases Nat.lt_or_ge s (i+1) with q' | q'
         .omega
         .omega)
        unfold A4 at this
        omega
     refine⟨hst,?_,λq q1 q2=>?_⟩
     .unfold A4;omega
     .have:=hb.2.2 q q1 (by omega)
      unfold A4 at this ⊢
      rw[A5] at this
      omega
    have hst:=hs2.1
    have hb2:Am (λq=>A (s+q)) (i-s) (t-s):=by
     obtain⟨b1,b2,b3⟩:=ht
     unfold A4 at b2 b3
     have e3:s+(i-s)=i:=by omega
     refine⟨by omega,?_,λq q1 q2=>?_⟩
     .unfold A4
      rw[A2,A2,e3,show s+(t-s)=t by omega]
      omega
     .unfold A4
      rw[A2,A2,e3]
      have:=b3 (s+q) (by omega) (by omega)
      omega
    rw[if_neg a1,Gu hb2,a2]
    have L2:=MN h ha f (t-1) s (by omega) (by rw[show t-1+1=t by omega];exact hs2)
    rw[show t-1+1-s=t-s by omega] at L2
    have first:AK A i 0=t-1:=by
     unfold AK
     rw[if_pos ⟨a2,rfl⟩,Gu ht]
    rw[a2] at last
    have e4:(λq=>A (s+(t-s+q)))=λq=>A (t+q):=by
     funext q
     rw[show s+(t-s+q)=t+q by omega]
    rw[e4,show i-s-(t-s)=i-t by omega,L1,L2]
    show _=1+max (max 0 (hM A f (AK A i 0))) (hM A f (AK A i 1))
    rw[first,last,Nat.zero_max]
end Go.Proofs.YtacpbofiipdodaaGreat
namespace Go.Proofs.YtacpbofiipdodaaGreat
open Go Go.Deep Go.RowKit
def BE (w:World) (a:Option Addr) (n:Nat) (X:Nat->ByteArray):Prop:=
 n=0\/∃b o,a=some (ad b o)/\∀i,i<n->w.cell? (ad b (o+i))=some (.string (X i))
def Cj (w:World) (B:Nat) (a:Option Addr) (n:Nat) (X:Nat->ByteArray):Prop:=
 n=0\/∃g,a=some (ad g 0)/\B<=g/\Ai w g 9 n (λi=>.string (X i))
def Fm (X:Nat->ByteArray) (n:Nat):List Value:=(List.range n).map λj=>.string (X j)
theorem JH (X:Nat->ByteArray) (n:Nat):(Fm X n).length=n:=by simp[Fm]
theorem Fk (X:Nat->ByteArray) (n i:Nat) (h:i<n):(Fm X n)[i]?=some (.string (X i)):=by simp[Fm,h]
section
variable {w w' : World} {B B' : Nat} {a:Option Addr} {n:Nat} {X X' : Nat->ByteArray}
theorem BE.below (h:BE w a n X) (hb:Bl w w'):BE w' a n X:=by
 rcases h with h|⟨b,o,rfl,hc⟩;.exact Or.inl h
 .refine Or.inr ⟨b,o,rfl,λi hi=>?_⟩;rw[hb.cell (p:=(ad b (o+i))) (Ws _ _ (hc i hi))];exact hc i hi
theorem BE.congr (h:BE w a n X) (e:∀i,i<n->X i=X' i):BE w a n X':=by
 rcases h with h|⟨b,o,rfl,hc⟩;.exact Or.inl h
 .exact Or.inr ⟨b,o,rfl,λi hi=>by rw[hc i hi,e i hi]⟩
theorem Cj.rd (h:Cj w B a n X):BE w a n X:=by
 rcases h with h|⟨g,rfl,_,hr⟩;.exact Or.inl h
 .exact Or.inr ⟨g,0,rfl,λi hi=>by rw[WM];exact hr.cell hi⟩
theorem Cj.mono (h:Cj w B a n X) (hB:B'<=B):Cj w B' a n X:=by
 rcases h with h|⟨g,rfl,hg,hr⟩;.exact Or.inl h
 .exact Or.inr ⟨g,rfl,by omega,hr⟩
theorem Cj.below (h:Cj w B a n X) (hb:Bl w w'):Cj w' B a n X:=by
 rcases h with h|⟨g,rfl,hg,hr⟩;.exact Or.inl h
 .exact Or.inr ⟨g,rfl,hg,hr.of_block (hb.block g hr.lt)⟩
theorem Cj.congr (h:Cj w B a n X) (e:∀i,i<n->X i=X' i):Cj w B a n X':=by
 rcases h with h|⟨g,rfl,hg,hr⟩;.exact Or.inl h
 .exact Or.inr ⟨g,rfl,hg,hr.congr (λi hi=>by rw[e i hi])⟩
theorem Cj.setOther (h:Cj w B a n X) {p:Addr} (hp:p.block<B) (v:Value):Cj (w.setCell p v) B a n X:=by
 rcases h with h|⟨g,rfl,hg,hr⟩;.exact Or.inl h
 .exact Or.inr ⟨g,rfl,hg,hr.of_block (Wv _ _ _ _ (by omega))⟩
theorem MT {v:Value} (h:w.ownsRow B 9 1 v n (Fm X n)):∃a c,v=.slice a n c/\Cj w B a n X/\n<=c/\c<=9223372036854775807:=by
 obtain⟨_,h⟩:=h;rcases h with ⟨rfl,rfl⟩|⟨g,cap,cur,rfl,hg,hh,h1,h2,h3,h4⟩;.exact⟨none,0,rfl,Or.inl rfl,Wu _,by omega⟩
 .unfold maxLen at h2;refine⟨_,cap,rfl,Or.inr ⟨g,rfl,hg,cur,hh,by omega,λi hi=>?_⟩,h1,h2⟩;rw[<- Fk X n i hi,<- h4];have:i<n*1:=by omega
  rw[List.getElem?_take,if_pos this];simp
end
variable {B n:Nat}{a:Option Addr}{f:Nat->Int}{w:World}
structure Tn where
 lf:Bool
 kn:Nat
 ks:Nat->ByteArray
 dn:Nat
 kd:Nat->Int
 ct:Int
def Wl (w:World) (x:Tn) (v0 v1 v2 v3:Value):Prop:=
 v0=.bool x.lf/\v3=iv x.ct/\∃ka kc da dc,v1=.slice ka x.kn kc/\v2=.slice da x.dn dc/\BE w ka x.kn x.ks/\Rd .i64 w da x.dn x.kd
def Bk (w:World) (a:Option Addr) (n:Nat) (N:Nat->Tn):Prop:=
 n=0\/∃b o,a=some (ad b o)/\∀i,i<n->∃ka kc da dc,w.cell? (ad b (o+i*4))=some (.bool (N i).lf)/\w.cell? (ad b (o+i*4+1))=some (.slice ka (N i).kn kc)/\
  w.cell? (ad b (o+i*4+2))=some (.slice da (N i).dn dc)/\w.cell? (ad b (o+i*4+3))=some (iv (N i).ct)/\BE w ka (N i).kn (N i).ks/\Rd .i64 w da (N i).dn (N i).kd
theorem Bk.below {w w' : World} {a:Option Addr} {n:Nat} {N:Nat->Tn} (h:Bk w a n N) (hb:Bl w w'):Bk w' a n N:=by
 rcases h with h|⟨b,o,rfl,hc⟩;.exact Or.inl h
 .refine Or.inr ⟨b,o,rfl,λi hi=>?_⟩;obtain⟨ka,kc,da,dc,h0,h1,h2,h3,h4,h5⟩:=hc i hi;refine⟨ka,kc,da,dc,?_,?_,?_,?_,h4.below hb,h5.below hb⟩;.rw[hb.cell (Ws _ _ h0)];exact h0
  .rw[hb.cell (Ws _ _ h1)];exact h1
  .rw[hb.cell (Ws _ _ h2)];exact h2
  .rw[hb.cell (Ws _ _ h3)];exact h3
def AW (N:Nat->Tn) (KA DA:Nat->Option Addr) (KC DC:Nat->Nat) (c:Nat):Value:=
 if c % 4=0 then .bool (N (c / 4)).lf else if c % 4=1 then .slice (KA (c / 4)) (N (c / 4)).kn (KC (c / 4)) else if c % 4=2 then .slice (DA (c / 4)) (N (c / 4)).dn (DC (c / 4)) else iv (N (c / 4)).ct
section
variable (N:Nat->Tn) (KA DA:Nat->Option Addr) (KC DC:Nat->Nat) (i:Nat)
theorem Ey:AW N KA DA KC DC (i*4)=.bool (N i).lf:=by unfold AW;rw[if_pos (by omega),show i*4 / 4=i by omega]
theorem Ja:AW N KA DA KC DC (i*4+1)=.slice (KA i) (N i).kn (KC i):=by unfold AW;rw[if_neg (by omega),if_pos (by omega),show (i*4+1) / 4=i by omega]
theorem IC:AW N KA DA KC DC (i*4+2)=.slice (DA i) (N i).dn (DC i):=by unfold AW;rw[if_neg (by omega),if_neg (by omega),if_pos (by omega),show (i*4+2) / 4=i by omega]
theorem EH:AW N KA DA KC DC (i*4+3)=iv (N i).ct:=by unfold AW;rw[if_neg (by omega),if_neg (by omega),if_neg (by omega),show (i*4+3) / 4=i by omega]
end
def Ev (w:World) (B:Nat) (a:Option Addr) (n:Nat) (f:Nat->Int):Prop:=
 n=0\/∃g,a=some (ad g 0)/\B<=g/\Ai w g 2 n (λi=>iv (f i))
theorem Ev.rd (h:Ev w B a n f):Rd .i64 w a n f:=by
 rcases h with h|⟨g,rfl,_,hr⟩;.exact Or.inl h
 .exact Or.inr ⟨g,0,rfl,λi hi=>by rw[WM];exact hr.cell hi⟩
theorem Ev.mono {B':Nat} (h:Ev w B a n f) (hB:B'<=B):Ev w B' a n f:=by
 rcases h with h|⟨g,rfl,hg,hr⟩;.exact Or.inl h
 .exact Or.inr ⟨g,rfl,by omega,hr⟩
theorem Ev.below {w':World} (h:Ev w B a n f) (hb:Bl w w'):Ev w' B a n f:=by
 rcases h with h|⟨g,rfl,hg,hr⟩;.exact Or.inl h
 .exact Or.inr ⟨g,rfl,hg,hr.of_block (hb.block g hr.lt)⟩
structure AE (w:World) (B g n:Nat) (N:Nat->Tn) (KA DA:Nat->Option Addr) (KC DC:Nat->Nat):Prop where
 le:B<=g
 row:Ai w g 267 (n*4) (AW N KA DA KC DC)
 keys:∀i,i<n->Cj w B (KA i) (N i).kn (N i).ks
 kids:∀i,i<n->Ev w B (DA i) (N i).dn (N i).kd
 apartK:∀i j,i<n->j<n->i≠j->(N i).kn≠0->(N j).kn≠0->KA i≠KA j
 apartD:∀i j,i<n->j<n->i≠j->(N i).dn≠0->(N j).dn≠0->DA i≠DA j
theorem AE.rd {w:World} {B g n:Nat} {N:Nat->Tn} {KA DA:Nat->Option Addr} {KC DC:Nat->Nat} (h:AE w B g n N KA DA KC DC):Bk w (some (ad g 0)) n N:=by
 refine Or.inr ⟨g,0,rfl,λi hi=>⟨KA i,KC i,DA i,DC i,?_,?_,?_,?_,(h.keys i hi).rd,(h.kids i hi).rd⟩⟩;.have:=h.row.cell (i:=i*4) (by omega);rw[Ey] at this;simpa using this
 .have:=h.row.cell (i:=i*4+1) (by omega);rw[Ja] at this;simpa using this
 .have:=h.row.cell (i:=i*4+2) (by omega);rw[IC] at this;simpa using this
 .have:=h.row.cell (i:=i*4+3) (by omega);rw[EH] at this;simpa using this
end Go.Proofs.YtacpbofiipdodaaGreat
namespace Go.Proofs.YtacpbofiipdodaaGreat
open Go
def Ro:Nat->Type
 | 0=>Empty
 | d+1=>Sum (List ByteArray) (List (Ro d))
def Ad:(d:Nat)->Ro d->Nat
 | 0,t=>t.elim
 | d+1,.inl _=>1
 | d+1,.inr l=>1+(l.map (Ad d)).sum
def Ab:(d:Nat)->Ro d->List ByteArray
 | 0,t=>t.elim
 | d+1,.inl t=>t
 | d+1,.inr l=>l.flatMap (Ab d)
def Br:(d:Nat)->Bool->Ro d->Nat->Prop
 | 0,_,t,_=>t.elim
 | d+1,root,.inl t,h=>h=0/\t.length<=4/\(root=true\/2<=t.length)
 | d+1,root,.inr l,h=>2<=l.length/\l.length<=4/\∃h',h=h'+1/\∀t,t∈l->Br d false t h'
theorem Rt {l:List Nat} {k:Nat} (h:∀x,x∈l->k<=x):l.length*k<=l.sum:=by
 induction l with
 | nil=>simp
 | cons x l ih=>have h1:=h x (by simp);have h2:=ih (λy hy=>h y (by simp[hy]));simp only[WN,List.sum_cons,Nat.add_mul,Nat.one_mul];omega
theorem Br.nodes:∀{d:Nat} {root:Bool} {t:Ro d} {h:Nat},Br d root t h->2 ^ h<=Ad d t
 | 0,root,t,h,hb=>t.elim
 | d+1,root,.inl t,h,hb=>by
  obtain⟨rfl,_⟩:=hb
  exact Wu _
 | d+1,root,.inr l,h,hb=>by
  obtain⟨h2,_,h',rfl,hall⟩:=hb
  have h1:∀x,x∈l.map (Ad d)->2 ^ h'<=x:=by
   intro x hx
   obtain⟨t,ht,rfl⟩:=List.mem_map.1 hx
   exact Br.nodes (hall t ht)
  have h3:=Rt h1
  rw[WH] at h3
  have h4:2*2 ^ h'<=l.length*2 ^ h':=Nat.mul_le_mul_right _ h2
  show 2 ^ (h'+1)<=1+(l.map (Ad d)).sum
  rw[Nat.pow_succ]
  omega
theorem Br.low {d:Nat} {root:Bool} {t:Ro d} {h:Nat} (hb:Br d root t h) (hn:Ad d t<=5000):h<=12:=by
 rcases Nat.lt_or_ge h 13 with q|q;.omega
 .have h1:=hb.nodes;have h2:2 ^ 13<=2 ^ h:=Nat.pow_le_pow_right (by decide) q;have h3:2 ^ 13=8192:=by decide
  omega
def BF {T:Type} (f:Nat->Option (T × Nat)) (kd:Nat->Int) (x:Nat):Nat->Option (List T × Nat)
 | 0=>some ([],x)
 | k+1=>match BF f kd x k with
  | some (ts,e)=>if kd k=(e:Int) then (match f e with
   | some (t,e')=>some (ts++[t],e')
   | none=>none) else none
  | none=>none
def JB (x:Tn):List ByteArray:=(List.range x.kn).map x.ks
theorem Be (x:Tn):(JB x).length=x.kn:=by simp[JB]
def gt (l:List ByteArray) (i:Nat):ByteArray:=l.getD i { data:=#[] }
theorem Np (x:Tn) (i:Nat) (h:i<x.kn):gt (JB x) i=x.ks i:=by unfold gt JB;simp[WA,h]
def AN (N:Nat->Tn) (n:Nat):(d:Nat)->Nat->Option (Ro d × Nat)
 | 0,_=>none
 | d
  + 1,x=>if x<n then
  (if (N x).lf=true then (if (N x).dn=0 then some (.inl (JB (N x)),x+1) else none)
   else (if (N x).dn=0 then none else (match BF (AN N n d) (N x).kd (x+1) (N x).dn with
   | some (ts,e)=>some (.inr ts,e)
   | none=>none)))
  else none
theorem IM {T:Type} {f:Nat->Option (T × Nat)} {kd:Nat->Int} {x k m:Nat} (h:BF f kd x k=none) (hk:k<=m):BF f kd x m=none:=by
 induction m with
 | zero=>
  have e:k=0:=by omega
  subst e;exact h
 | succ m ih=>
  by_cases e:k=m+1;.subst e;exact h
  .unfold BF;rw[ih (by omega)]
theorem Kf {T:Type} {f:Nat->Option (T × Nat)} {g:T->Nat} (hf:∀x t e,f x=some (t,e)->e=x+g t) {kd:Nat->Int} {x:Nat}:∀{k:Nat} {ts:List T} {e:Nat},BF f kd x k=some (ts,e)->e=x+(ts.map g).sum/\ts.length=k
 | 0,ts,e,h=>by
  simp only[BF,Option.some.injEq,Prod.mk.injEq] at h
  obtain⟨rfl,rfl⟩:=h
  simp
 | k+1,ts,e,h=>by
  unfold BF at h
  split at h
  .rename_i ts1 e1 h1
   obtain⟨q2,q3⟩:=Kf hf h1
   split at h
   .split at h
    .rename_i t e2 h2
     simp only[Option.some.injEq,Prod.mk.injEq] at h
     obtain⟨rfl,rfl⟩:=h
     have q1:=hf _ _ _ h2
     simp only[List.map_append,List.sum_append,WD,List.map_cons,List.map_nil,List.sum_cons,List.sum_nil,WN,List.length_nil]
     exact⟨by omega,by omega⟩
    .cases h
   .cases h
  .cases h
theorem DQ {N:Nat->Tn} {n:Nat}:∀{d x:Nat} {t:Ro d} {e:Nat},AN N n d x=some (t,e)->e=x+Ad d t
 | 0,x,t,e,h=>t.elim
 | d+1,x,t,e,h=>by
  unfold AN at h
  split at h
  .split at h
   .split at h
    .injection h with h
     cases h
     rfl
    .cases h
   .split at h
    .cases h
    .split at h
     .rename_i ts e1 h1
      injection h with h
      cases h
      have q:=(Kf (g:=Ad d) (λx t e hx=>DQ hx) h1).1
      show e=x+(1+(ts.map (Ad d)).sum)
      omega
     .cases h
  .cases h
variable {P:Program}{Q:Exit->Act->World->Prop}{S:World->Prop}{a:Act}{ch:List Nat}{fuel i late:Nat}{l:List Oper}{listed:Array Bool}{o oi x:Oper}{w:World}
section
variable {P:Program} {ops:Array Oper} {Q:Exit->Act->World->Prop} {md:Region.Mode} {S:World->Prop} {late:Nat}
def Ay (P:Program) (md:Region.Mode) (ops:Array Oper) (Q:Exit->Act->World->Prop) (S:World->Prop) (late:Nat):Nat->Array Bool->Act->World->Prop
 | 0,listed,a,w=>Region.ready md ops listed=[]/\Q .normal a w
 | fuel+1,listed,a,w=>(Region.ready md ops listed=[]->Q .normal a w)/\
  ∀i∈Region.ready md ops listed,wpOp P ops Q i (λa' w'=>(i≠late->S w')/\Ay P md ops Q S late fuel (listed.setIfInBounds i true) a' w') a w
theorem Fg:∀(fuel:Nat) (listed:Array Bool) (a:Act) (w:World),Ay P md ops Q S late fuel listed a w->wpAny P md ops Q fuel listed a w
 | 0,_,_,_,h=>h
 | fuel+1,_,_,_,h=>⟨h.1,λi hi=>wpOp_mono (λa' w' h'=>Fg fuel _ a' w' h'.2) (h.2 i hi)⟩
def N9 (md:Region.Mode) (ops:Array Oper) (i:Nat) (ch:List Nat):Prop:=
 ∀c∈ch,c=i\/∃o,ops[c]?=some o/\∃e∈o.after,Region.binds md e=true/\e.on∈ch
theorem N9.not_ready (h:N9 md ops i ch) (hl:∀c∈ch,listed.getD c true=false) {j:Nat} (hj:j∈Region.ready md ops listed) (hji:j≠i):j∉ch:=λhm=>by
 rcases h j hm with h|⟨o,ho,e,he,hb,hc⟩
 .exact hji h
 .obtain⟨_,oj,hoj,hall⟩:=mem_ready.1 hj
  rw[ho] at hoj
  injection hoj with hoj
  subst hoj
  have h1:=hall e he hb
  have h2:=hl _ hc
  rcases Nat.lt_or_ge e.on listed.size with h' | h'
  .simp[h'] at h1 h2
   rw[h2] at h1
   cases h1
  .simp[Array.getElem?_eq_none h'] at h1
theorem KW {v:Value} (hi:ops[i]?=some oi) (hsel:∀(j:Nat) (o:Oper) cs b,ops[j]?=some o->o.op≠.select cs b)
  (hQ:∀c a w,Q (.panic c) (a.put oi.dst v) w->Q (.panic c) a w) (hw:N9 md ops i ch) (hlate:late∈ch) (hil:i≠late) :
  ∀(fuel:Nat) (listed:Array Bool) (a:Act) (w:World),
   (∀j oj,ops[j]?=some oj->j≠i->listed.getD j true=false->(∀e∈oj.after,Region.binds md e=true->e.on≠i)->oi.apart ops oj=true)->
   (∀c∈ch,listed.getD c true=false)->
   i∈Region.ready md ops listed->YieldsIf P ops S oi v a->S w->
   Ay P md ops Q S late fuel (listed.setIfInBounds i true) (a.put oi.dst v) w->Ay P md ops Q S late (fuel+1) listed a w:=by
 intro fuel;induction fuel with
 | zero=>
  intro listed a w _ _ hr hy hS H;refine⟨λh=>(by rw[h] at hr;cases hr),λj hj=>?_⟩;by_cases hji:j=i;.subst hji;exact hy.wpOp hi hS ⟨λ_=>hS,H⟩
  .have:=ready_mono hj hji;rw[H.1] at this;cases this
 | succ fuel ih=>
  intro listed a w hfree hch hr hy hS H;refine⟨λh=>(by rw[h] at hr;cases hr),λj hj=>?_⟩;by_cases hji:j=i;.subst hji;exact hy.wpOp hi hS ⟨λ_=>hS,H⟩
  .have hjc:=hw.not_ready hch hj hji;have hjl:j≠late:=λe=>hjc (e ▸ hlate);have h1:=H.2 j (ready_mono hj hji);obtain⟨hjun,oj,hoj,hall⟩:=mem_ready.1 hj;have hnot:∀e∈oj.after,Region.binds md e=true->e.on≠i:=λe he hb heq=>by
    have h1:=hall e he hb;have h0:=(mem_ready.1 hr).1;rw[heq] at h1;rcases Nat.lt_or_ge i listed.size with h' | h';.simp[h'] at h0 h1;rw[h0] at h1;cases h1
    .simp[Array.getElem?_eq_none h'] at h1
   have h2:=wpOp_putIf hoj (hfree j oj hoj hji hjun hnot) (λcs b=>hsel i oi cs b hi) (λcs b=>hsel j oj cs b hoj) hQ hy h1;have hfree' : ∀k ok,ops[k]?=some ok->k≠i->(listed.setIfInBounds j true).getD k true=false->
     (∀e∈ok.after,Region.binds md e=true->e.on≠i)->oi.apart ops ok=true:=λk ok hk hki hun hno=>by
    refine hfree k ok hk hki ?_ hno
    by_cases hjk:j=k
    .subst hjk;exact hjun
    .rw[getD_set_ne true hjk] at hun;exact hun
   have hch' : ∀c∈ch,(listed.setIfInBounds j true).getD c true=false:=λc hc=>by have hjk:j≠c:=λe=>hjc (e ▸ hc);rw[getD_set_ne true hjk];exact hch c hc
   refine wpOp_mono (λa' w' h3=>⟨λ_=>h3.2.1 hjl,ih (listed.setIfInBounds j true) a' w' hfree' hch' (ready_mono hr (Ne.symm hji)) h3.1 (h3.2.1 hjl) ?_⟩) h2;rw[Array.setIfInBounds_comm _ _ hji];exact h3.2.2
def DG (ops:Array Oper) (i:Nat):Nat->List Nat
 | 0=>[i]
 | n+1=>let l:=DG ops i n
  l++(List.range ops.size).filter λj=>!l.contains j && (match ops[j]? with|some o=>o.after.any λe=>Region.binds .any e && l.contains e.on|none=>false)
def Dj (ops:Array Oper) (listed:Array Bool) (i late:Nat) (ch:List Nat):Bool:=
 ch.contains late && i != late && ch.all λc=>!(listed.getD c true) && (c == i || (match ops[c]? with|some o=>o.after.any λe=>Region.binds .any e && ch.contains e.on|none=>false))
theorem Mi (h:Dj ops listed i late ch=true):late∈ch/\i≠late/\N9 .any ops i ch/\∀c∈ch,listed.getD c true=false:=by
 unfold Dj at h;simp only[Bool.and_eq_true,List.all_eq_true,Bool.not_eq_true',Bool.or_eq_true,bne_iff_ne,ne_eq,List.contains_iff_mem,beq_iff_eq] at h;obtain⟨⟨h1,h2⟩,h3⟩:=h;refine⟨h1,h2,λc hc=>?_,λc hc=>(h3 c hc).1⟩;rcases (h3 c hc).2 with h|h;.exact Or.inl h
 .cases ho:ops[c]? with
  | none=>rw[ho] at h;cases h
  | some o=>rw[ho] at h;simp only[Array.any_eq_true',Bool.and_eq_true,List.contains_iff_mem] at h;obtain⟨e,he,hb,hm⟩:=h;exact Or.inr ⟨o,rfl,e,he,hb,hm⟩
theorem GY {v:Value} (n:Nat) (hi:ops[i]?=some oi)
  (hs:Region.noSelect ops=true) (hf:Region.free .any ops listed i=true) (hr:(Region.ready .any ops listed).contains i=true) (hwt:Dj ops listed i late (DG ops i n)=true)
  (hQ:∀c a w,Q (.panic c) (a.put oi.dst v) w->Q (.panic c) a w) (hy:YieldsIf P ops S oi v a) (hS:S w)
  (h:Ay P .any ops Q S late fuel (listed.setIfInBounds i true) (a.put oi.dst v) w):Ay P .any ops Q S late (fuel+1) listed a w:=by obtain⟨h1,h2,h3,h4⟩:=Mi hwt;exact KW hi (Region.noSelect_spec hs) hQ h3 h1 h2 fuel listed a w (Region.free_spec hi hf) h4 (by simpa using hr) hy hS h
theorem Nc (hr:Region.ready md ops listed=[i]) (ho:ops[i]?=some o)
  (h:∀K' : Act->World->Prop,Shut (∀a w,(i≠late->S w)->((i≠late->S w)->Ay P md ops Q S late fuel (listed.setIfInBounds i true) a w)->K' a w)->if Region.wanted o (yielded ops a.tmps)=true then Oper.wp P o a w K' Q else K' (a.put o.dst undef) w) :
  Ay P md ops Q S late (fuel+1) listed a w:=
 ⟨λh0=>(by rw[hr] at h0;cases h0),λj hj=>by
  rw[hr] at hj
  have:j=i:=by simpa using hj
  subst this
  exact wpOp_step ho (λK' hK=>h K' (λa w hS hW=>hK a w ⟨hS,hW hS⟩))⟩
theorem Ae (hr:Region.ready md ops listed=[]) (h:Q .normal a w):∀fuel,Ay P md ops Q S late fuel listed a w
 | 0=>⟨hr,h⟩
 | _+1=>⟨λ_=>h,by rw[hr];simp⟩
theorem Au {id:Nat} (late:Nat) (hm:P.follows .mixedOrders=true) (hS:S w.drew)
  (h:S w.drew->Ay P .any ops Q S late ops.size (Array.replicate ops.size false) a w.drew):(Code.region id ops true).wp P Q a w:=
 wp_region_any hm (Fg _ _ _ _ (h hS))
end
def Cq:Nat->List Oper->Oper->Prop
 | 0,y::_,x=>y=x
 | k+1,_::l,x=>Cq k l x
 | _,[],_=>False
theorem Cq.zero:Cq 0 (x::l) x:=rfl
theorem Cq.succ {k:Nat} {y:Oper} (h:Cq k l x):Cq (k+1) (y::l) x:=h
theorem Cq.get:∀{k:Nat} {l:List Oper} {x:Oper},Cq k l x->l.toArray[k]?=some x
 | 0,y::l,x,h=>by
  have e:y=x:=h
  simp[e]
 | k+1,y::l,x,h=>by
  have e:Cq k l x:=h
  simpa using e.get
 | 0,[],_,h=>h.elim
 | k+1,[],_,h=>h.elim
theorem BI (i:Nat) (hp:Cq i l oi) {v:Value} 
  (hs:Region.noSelect l.toArray=true) (hf:Region.free .any l.toArray listed i=true) (hr:(Region.ready .any l.toArray listed).contains i=true) (hwt:Dj l.toArray listed i late (DG l.toArray i 8)=true)
  (hQ:∀c a w,Q (.panic c) (a.put oi.dst v) w->Q (.panic c) a w) (hw:Region.wanted oi (yielded l.toArray a.tmps)=true) (hy:∀w,S w->(execOp a.eval oi).run P w=.ok (.value v) w) (hS:S w)
  (h:Ay P .any l.toArray Q S late fuel (listed.setIfInBounds i true) (a.put oi.dst v) w):Ay P .any l.toArray Q S late (fuel+1) listed a w:=
 GY 8 hp.get hs hf hr hwt hQ (Or.inl ⟨hw,hy⟩) hS h
theorem Ez (i:Nat) (hp:Cq i l o) (hr:Region.ready .any l.toArray listed=[i]) 
  (h:∀K' : Act->World->Prop,Shut (∀a w,(i≠late->S w)->((i≠late->S w)->Ay P .any l.toArray Q S late fuel (listed.setIfInBounds i true) a w)->K' a w)->if Region.wanted o (yielded l.toArray a.tmps)=true then Oper.wp P o a w K' Q else K' (a.put o.dst undef) w) :
  Ay P .any l.toArray Q S late (fuel+1) listed a w:=Nc hr hp.get h
theorem Cq.s5 {k:Nat} {a b c d e:Oper} (h:Cq k l x):Cq (k+5) (a::b::c::d::e::l) x:=h
theorem tk (i:Nat) (hp:Cq i l oi) {v:Value}
  (hy:∀w,S w->(execOp a.eval oi).run P w=.ok (.value v) w) (h:Ay P .any l.toArray Q S late fuel (listed.setIfInBounds i true) (a.put oi.dst v) w) (hs:Region.noSelect l.toArray=true:=by kernel_rfl) (hf:Region.free .any l.toArray listed i=true:=by kernel_rfl) (hr:(Region.ready .any l.toArray listed).contains i=true:=by kernel_rfl) (hwt:Dj l.toArray listed i late (DG l.toArray i 8)=true:=by kernel_rfl)
  (hQ:∀c a w,Q (.panic c) (a.put oi.dst v) w->Q (.panic c) a w:=by exact λ_ _ _ h=>h) (hw:Region.wanted oi (yielded l.toArray a.tmps)=true:=by rfl) (hS:S w:=by assumption):Ay P .any l.toArray Q S late (fuel+1) listed a w:=BI i hp hs hf hr hwt hQ hw hy hS h
theorem AB (i:Nat) (hp:Cq i l o)
  (h:∀K' : Act->World->Prop,Shut (∀a w,(i≠late->S w)->((i≠late->S w)->Ay P .any l.toArray Q S late fuel (listed.setIfInBounds i true) a w)->K' a w)->if Region.wanted o (yielded l.toArray a.tmps)=true then Oper.wp P o a w K' Q else K' (a.put o.dst undef) w) (hr:Region.ready .any l.toArray listed=[i]:=by kernel_rfl) :
  Ay P .any l.toArray Q S late (fuel+1) listed a w:=Ez i hp hr h
theorem As:(∀(a:Act) (d:Tmp) (v:Value),a.put (some d) v={ a with tmps:=a.tmps.setIfInBounds d v })/\(∀(a:Act) (v:Value),a.put none v=a)/\(∀(l:List Value) (i:Nat) (x:Value),l.toArray.setIfInBounds i x=(l.set i x).toArray)/\(∀(l:List Value) (x y:Value),(x::l).set 0 y=y::l)/\(∀(l:List Value) (x y:Value) (n:Nat),(x::l).set (n+1) y=x::l.set n y):=⟨λ_ _ _=>rfl,λ_ _=>rfl,λ_ _ _=>List.setIfInBounds_toArray ..,λ_ _ _=>rfl,λ_ _ _ _=>rfl⟩
theorem tx {v:Value}{a':Act} (i:Nat) (hp:Cq i l oi)
 (h:Ay P .any l.toArray Q S late fuel (listed.setIfInBounds i true) a' w) (hy:∀w,S w->(execOp a.eval oi).run P w=.ok (.value v) w:=by (intro w h;clear h;go_simp<;>rfl)) (ha:a.put oi.dst v=a':=by (simp only[As];rfl)) (hs:Region.noSelect l.toArray=true:=by kernel_rfl) (hf:Region.free .any l.toArray listed i=true:=by kernel_rfl) (hr:(Region.ready .any l.toArray listed).contains i=true:=by kernel_rfl) (hwt:Dj l.toArray listed i late (DG l.toArray i 8)=true:=by kernel_rfl)
 (hQ:∀c a w,Q (.panic c) (a.put oi.dst v) w->Q (.panic c) a w:=by exact λ_ _ _ h=>h) (hw:Region.wanted oi (yielded l.toArray a.tmps)=true:=by rfl) (hS:S w:=by assumption):Ay P .any l.toArray Q S late (fuel+1) listed a w:=BI i hp hs hf hr hwt hQ hw hy hS (by rw[ha];exact h)
theorem ty {v:Value}{a':Act} (i:Nat) (hp:Cq i l oi) (hy:∀w,S w->(execOp a.eval oi).run P w=.ok (.value v) w)
 (h:Ay P .any l.toArray Q S late fuel (listed.setIfInBounds i true) a' w) (ha:a.put oi.dst v=a':=by (simp only[As];rfl)) (hs:Region.noSelect l.toArray=true:=by kernel_rfl) (hf:Region.free .any l.toArray listed i=true:=by kernel_rfl) (hr:(Region.ready .any l.toArray listed).contains i=true:=by kernel_rfl) (hwt:Dj l.toArray listed i late (DG l.toArray i 8)=true:=by kernel_rfl)
 (hQ:∀c a w,Q (.panic c) (a.put oi.dst v) w->Q (.panic c) a w:=by exact λ_ _ _ h=>h) (hw:Region.wanted oi (yielded l.toArray a.tmps)=true:=by rfl) (hS:S w:=by assumption):Ay P .any l.toArray Q S late (fuel+1) listed a w:=tx i hp h hy ha hs hf hr hwt hQ hw hS
theorem tY {v:Value}{a':Act} (i:Nat) (hp:Cq i l oi) (hy:∀w,S w->(execOp a.eval oi).run P w=.ok (.value v) w)
 (h:Ay P .any l.toArray Q S late fuel (listed.setIfInBounds i true) a' w) (ha:a.put oi.dst v=a':=by (simp only[As];rfl)) (hs:Region.noSelect l.toArray=true:=by kernel_rfl) (hf:Region.free .any l.toArray listed i=true:=by kernel_rfl) (hr:(Region.ready .any l.toArray listed).contains i=true:=by kernel_rfl) (hwt:Dj l.toArray listed i late (DG l.toArray i 8)=true:=by kernel_rfl)
 (hQ:∀c a w,Q (.panic c) (a.put oi.dst v) w->Q (.panic c) a w:=by exact λ_ _ _ h=>h) (hw:Region.wanted oi (yielded l.toArray a.tmps)=true:=by rfl) (hS:S w:=by assumption):Ay P .any l.toArray Q S late (fuel+1) listed a w:=tx i hp h hy ha hs hf hr hwt hQ hw hS
theorem tX {v:Value}{a':Act} (i:Nat) (hp:Cq i l oi)
 (h:Ay P .any l.toArray Q S late fuel (listed.setIfInBounds i true) a' w) (hy:∀w,S w->(execOp a.eval oi).run P w=.ok (.value v) w:=by (intro w h;clear h;go_simp<;>rfl)) (ha:a.put oi.dst v=a':=by (simp only[As];rfl)) (hs:Region.noSelect l.toArray=true:=by kernel_rfl) (hf:Region.free .any l.toArray listed i=true:=by kernel_rfl) (hr:(Region.ready .any l.toArray listed).contains i=true:=by kernel_rfl) (hwt:Dj l.toArray listed i late (DG l.toArray i 8)=true:=by kernel_rfl)
 (hQ:∀c a w,Q (.panic c) (a.put oi.dst v) w->Q (.panic c) a w:=by exact λ_ _ _ h=>h) (hw:Region.wanted oi (yielded l.toArray a.tmps)=true:=by rfl) (hS:S w:=by assumption):Ay P .any l.toArray Q S late (fuel+1) listed a w:=BI i hp hs hf hr hwt hQ hw hy hS (by rw[ha];exact h)
theorem tz {v:Value}{a':Act} (i:Nat) (hp:Cq i l oi)
 (h:Ay P .any l.toArray Q S late fuel (listed.setIfInBounds i true) a' w) (hy:∀w,S w->(execOp a.eval oi).run P w=.ok (.value v) w:=by (intro w h;(try dsimp only at h);go_simp<;>with_reducible rfl)) (ha:a.put oi.dst v=a':=by (simp only[As];rfl)) (hs:Region.noSelect l.toArray=true:=by kernel_rfl) (hf:Region.free .any l.toArray listed i=true:=by kernel_rfl) (hr:(Region.ready .any l.toArray listed).contains i=true:=by kernel_rfl) (hwt:Dj l.toArray listed i late (DG l.toArray i 8)=true:=by kernel_rfl)
 (hQ:∀c a w,Q (.panic c) (a.put oi.dst v) w->Q (.panic c) a w:=by exact λ_ _ _ h=>h) (hw:Region.wanted oi (yielded l.toArray a.tmps)=true:=by rfl) (hS:S w:=by assumption):Ay P .any l.toArray Q S late (fuel+1) listed a w:=BI i hp hs hf hr hwt hQ hw hy hS (by rw[ha];exact h)
theorem sz (i:Nat) (hp:Cq i l oi) (h:Ay P .any l.toArray Q S late fuel (listed.setIfInBounds i true) (a.put oi.dst undef) w) (hs:Region.noSelect l.toArray=true:=by kernel_rfl) (hf:Region.free .any l.toArray listed i=true:=by kernel_rfl) (hr:(Region.ready .any l.toArray listed).contains i=true:=by kernel_rfl) (hwt:Dj l.toArray listed i late (DG l.toArray i 8)=true:=by kernel_rfl)
 (hQ:∀c a w,Q (.panic c) (a.put oi.dst undef) w->Q (.panic c) a w:=by exact λ_ _ _ h=>h) (hw:Region.wanted oi (yielded l.toArray a.tmps)=false:=by rfl) (hS:S w:=by assumption):Ay P .any l.toArray Q S late (fuel+1) listed a w:=GY 8 hp.get hs hf hr hwt hQ (Or.inr ⟨hw,rfl⟩) hS h
end Go.Proofs.YtacpbofiipdodaaGreat
