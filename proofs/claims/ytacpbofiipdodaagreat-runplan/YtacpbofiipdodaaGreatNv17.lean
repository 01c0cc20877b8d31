import Derived.Test.YtacpbofiipdodaaGreatNv3
set_option linter.unusedVariables false
set_option linter.unusedSimpArgs false
set_option maxRecDepth 100000
set_option maxHeartbeats 90000000
namespace Go.Proofs.YtacpbofiipdodaaGreat
open Go Go.Deep Go.RowKit
theorem Nl (next:Int) (a:Option Addr) (n c:Nat) (I:Nat->Int) (X:Nat->ByteArray) (R:Nat->Int) (w:World) (h:E0 w a n I X R) (hn:n<=1048576) :
  WS 28 #[.agg #[iv next,.slice a n c]] w (C0 w (C8 next n I X R)):=by
 cases hnu:I6 next with
 | false=>
  go_enter Tryz.func28,Tryz.ntmps28;go_wp2_with fail
  refine (IN next _).mono ?_;rintro e w1 ⟨rfl,rfl⟩;rw[hnu];go_wp2;go_ret;exact C0.no (λq=>by have:=q.1;rw[hnu] at this;cases this) (Aa _ _)
 | true=>
 by_cases h12:1200<(n:Int)
 .go_enter Tryz.func28,Tryz.ntmps28;go_wp2_with fail
  refine (IN next _).mono ?_;rintro e w1 ⟨rfl,rfl⟩;rw[hnu];go_wp2;go_ret;exact C0.no (λq=>by have:=q.2.1;omega) (Aa _ _)
 .go_enter Tryz.func28,Tryz.ntmps28;go_wp2_with fail
  refine (IN next _).mono ?_;rintro e w1 ⟨rfl,rfl⟩;rw[hnu];go_wp2;go_loopw [3] (λi wr=>∃k:Nat,k<=n/\i=iv k/\(∀m,m<k->De next I X R m/\EK I m)/\Below (w.heap.size+1) (w.alloc (.cells #[iv next,.slice a n c] 45)) wr) (λi _=>n-(intOf i).toNat)
  case atStart=>exact⟨0,Ww _,rfl,λm hm=>absurd hm (Wy _),Wt _ _⟩
  case round=>
   obtain⟨k,hk,rfl,hgood,hb0⟩:=hrel;obtain⟨d0,d1,dz,hbel⟩:=KS hb0;have HG:U (∀m,m<k->De next I X R m/\EK I m):=hgood;have HB0:U (Below (w.heap.size+1) (w.alloc (.cells #[iv next,.slice a n c] 45)) wr):=hb0;have HB:U (Bl w wr):=hbel;have HN:U (I6 next=true):=hnu;clear hgood hb0 hnu;by_cases hlt:k<n
   .have hne:¬ n=0:=by omega
    have h':=h.below hbel;have HR:U (E0 wr a n I X R):=h';clear hbel;rcases h' with h' | ⟨b,o,rfl,hc⟩;.exact absurd h' hne
    obtain⟨c1,c2,c3⟩:=hc k hlt;clear hc h;by_cases q1:((X k).size:Int)<1
    .have HBAD:U (¬ C8 next n I X R):=λq=>by have g:=(q.2.2 k hlt).1;unfold De at g;omega
     have hd1:decide (((X k).size:Int)<1)=true:=by simpa using q1
     go_wp2;go_quiet (fail)
     go_wp2;go_ret;exact C0.no HBAD.o (Af (HB.o.alloc HB.o.size _) _)
    by_cases q2:30<((X k).size:Int)
    .have HBAD:U (¬ C8 next n I X R):=λq=>by have g:=(q.2.2 k hlt).1;unfold De at g;omega
     have hd1:decide (((X k).size:Int)<1)=false:=by simpa using q1
     have hd2:decide (30<((X k).size:Int))=true:=by simpa using q2
     go_wp2;go_quiet (fail)
     go_wp2;go_ret;exact C0.no HBAD.o (Af (HB.o.alloc HB.o.size _) _)
    by_cases q3:I k<1
    .have HBAD:U (¬ C8 next n I X R):=λq=>by have g:=(q.2.2 k hlt).1;unfold De at g;omega
     have hd1:decide (((X k).size:Int)<1)=false:=by simpa using q1
     have hd2:decide (30<((X k).size:Int))=false:=by simpa using q2
     have hd3:decide (I k<1)=true:=by simpa using q3
     go_wp2;go_quiet (fail)
     go_wp2;go_ret;exact C0.no HBAD.o (Af (HB.o.alloc HB.o.size _) _)
    by_cases q4:next<=I k
    .have HBAD:U (¬ C8 next n I X R):=λq=>by have g:=(q.2.2 k hlt).1;unfold De at g;omega
     have hd1:decide (((X k).size:Int)<1)=false:=by simpa using q1
     have hd2:decide (30<((X k).size:Int))=false:=by simpa using q2
     have hd3:decide (I k<1)=false:=by simpa using q3
     have hd4:decide (next<=I k)=true:=by simpa using q4
     go_wp2;go_quiet (fail)
     go_wp2;go_ret;exact C0.no HBAD.o (Af (HB.o.alloc HB.o.size _) _)
    by_cases q5:R k<1
    .have HBAD:U (¬ C8 next n I X R):=λq=>by have g:=(q.2.2 k hlt).1;unfold De at g;omega
     have hd1:decide (((X k).size:Int)<1)=false:=by simpa using q1
     have hd2:decide (30<((X k).size:Int))=false:=by simpa using q2
     have hd3:decide (I k<1)=false:=by simpa using q3
     have hd4:decide (next<=I k)=false:=by simpa using q4
     have hd5:decide (R k<1)=true:=by simpa using q5
     go_wp2;go_quiet (fail)
     go_wp2;go_ret;exact C0.no HBAD.o (Af (HB.o.alloc HB.o.size _) _)
    by_cases q6:2000000000<R k
    .have HBAD:U (¬ C8 next n I X R):=λq=>by have g:=(q.2.2 k hlt).1;unfold De at g;omega
     have hd1:decide (((X k).size:Int)<1)=false:=by simpa using q1
     have hd2:decide (30<((X k).size:Int))=false:=by simpa using q2
     have hd3:decide (I k<1)=false:=by simpa using q3
     have hd4:decide (next<=I k)=false:=by simpa using q4
     have hd5:decide (R k<1)=false:=by simpa using q5
     have hd6:decide (2000000000<R k)=true:=by simpa using q6
     go_wp2;go_quiet (fail)
     go_wp2;go_ret;exact C0.no HBAD.o (Af (HB.o.alloc HB.o.size _) _)
    have HGK:∀_:(0<k->Op.bytesLess (X (k-1)).toList (X k).toList=true),U (De next I X R k):=λh=>⟨⟨by omega,by omega⟩,⟨by omega,by omega⟩,⟨by omega,by omega⟩,h⟩;by_cases hk0:k=0
    .replace HGK:=HGK (λh=>by omega);have hdk:decide ((0:Int)<(k:Int))=false:=by simp;omega
     have hdn:decide (0<k)=false:=by simp;omega
     clear hk0;have hd1:decide (((X k).size:Int)<1)=false:=by simpa using q1
     have hd2:decide (30<((X k).size:Int))=false:=by simpa using q2
     have hd3:decide (I k<1)=false:=by simpa using q3
     have hd4:decide (next<=I k)=false:=by simpa using q4
     have hd5:decide (R k<1)=false:=by simpa using q5
     have hd6:decide (2000000000<R k)=false:=by simpa using q6
     go_wp2;go_quiet (fail)
     have HB2:U (Below (w.heap.size+1) (w.alloc (.cells #[iv next,.slice (some (ad b o)) n c] 45)) ((wr.alloc (.cells #[iv (I k),.string (X k),iv (R k)] 131)).drewN nq)):=Af (HB0.o.alloc (Nat.succ_le_of_lt dz) _) nq;have HR2:U (E0 ((wr.alloc (.cells #[iv (I k),.string (X k),iv (R k)] 131)).drewN nq) (some (ad b o)) n I X R):=HR.o.below (Af (Aa _ _) nq);have HT:U (((wr.alloc (.cells #[iv (I k),.string (X k),iv (R k)] 131)).drewN nq).cell? (ad wr.heap.size 0)=some (iv (I k))/\wr.heap.size<((wr.alloc (.cells #[iv (I k),.string (X k),iv (R k)] 131)).drewN nq).heap.size):=Ft _ _ _ _ _;clear c1 c2 c3;generalize (wr.alloc (.cells #[iv (I k),.string (X k),iv (R k)] 131)).drewN nq=wt at HB2 HR2 HT ⊢;generalize wr.heap.size=tb at HT ⊢;obtain⟨e0,e1,ez,hbt⟩:=KS HB2.o;clear d0 d1;have HBT:U (Bl w wt):=hbt;clear hbt;go_wp2;go_loopw [5] (λj wr=>∃m:Nat,m<=k/\j=iv m/\(∀q,q<m->I q≠I k)/\Bl wt wr) (λj _=>k-(intOf j).toNat)
     case atStart=>exact⟨0,Ww _,rfl,λq hq=>absurd hq (Wy _),Wt _ _⟩
     case round=>
      obtain⟨m,hm,rfl,hfr,hbq⟩:=hrel;have HF:U (∀q,q<m->I q≠I k):=hfr;clear hfr;have x0:wr.cell? (ad w.heap.size 0)=some (iv next):=(hbq.cell (p:=(ad w.heap.size 0)) ez).trans e0;have x1:wr.cell? (ad w.heap.size 1)=some (.slice (some (ad b o)) n c):=(hbq.cell (p:=(ad w.heap.size 1)) ez).trans e1;have x2:wr.cell? (ad tb 0)=some (iv (I k)):=(hbq.cell (p:=(ad tb 0)) HT.o.2).trans HT.o.1;have HBQ:U (Bl w wr):=HBT.o.trans (hbq.mono (by omega));have HBD:U (Below (w.heap.size+1) (w.alloc (.cells #[iv next,.slice (some (ad b o)) n c] 45)) wr):=HB2.o.trans (hbq.mono (by omega));have HBW:U (Bl wt wr):=hbq;by_cases hmk:m<k
      .have hmn:m<n:=by omega
       have hcm:wr.cell? (ad b (o+m*3))=some (iv (I m)):=by
        rcases HR2.o.below hbq with h0|⟨b',o',he,hc'⟩;.omega
        .simp at he;obtain⟨rfl,rfl⟩:=he;exact (hc' m hmn).1
       clear hbq e0 e1;by_cases heq:I m=I k
       .have HBAD:U (¬ C8 next n I X R):=λq=>(q.2.2 k hlt).2 m hmk heq;have hbeq:(I m == I k)=true:=by simp[heq]
        go_wp2;go_quiet (fail)
        go_wp2;go_ret;exact C0.no HBAD.o (Af HBQ.o _)
       .have hbeq:(I m == I k)=false:=by simp[heq]
        go_wp2;go_quiet (fail)
        go_wp2;go_roundw;case rel=>
         refine⟨m+1,by omega,by go_num,λq hq=>?_,Af HBW.o _⟩;by_cases e:q=m;.subst e;exact heq
         .exact HF.o q (by omega)
        case measure=>simp[intOf];omega
      .have e:k=m:=by omega
       subst e;clear hbq;go_wp2;go_roundw;case rel=>
        refine⟨k+1,by omega,by go_num,λq hq=>?_,HBD.o⟩;by_cases e:q=k;.subst e;exact⟨HGK.o,HF.o⟩
        .exact HG.o q (by omega)
       case measure=>simp[intOf];omega
    .obtain⟨p,hkp⟩:∃p,k=p+1:=⟨k-1,by omega⟩;have hp1:p<n:=by omega
     have hdk:decide ((0:Int)<(k:Int))=true:=by simp;omega
     have hdn:decide (0<k)=true:=by simp;omega
     have hwr:IntKind.i64.wrap ((k:Int)-1)=(k:Int)-1:=by rw[Wz];omega
     have hsb0:0<=(k:Int)-1:=by omega
     have hsb1:(k:Int)-1<(n:Int):=by omega
     have hix:∀wz,(Instr.indexAt 43 (.slice (some (ad b o)) n c) (iv ((k:Int)-1))).run Tryz.prog wz=.ok (.pointer (some (ad b (o+p*3)))) wz:=λwz=>by rw[show (k:Int)-1=(p:Int) by omega];exact Vz b o n c p hp1 wz
     have HPK:U (k-1=p):=by show k-1=p;omega
     clear hkp hk0;obtain⟨cp0,cp,cp2⟩:wr.cell? (ad b (o+p*3))=some (iv (I p))/\wr.cell? (ad b (o+p*3+1))=some (.string (X p))/\wr.cell? (ad b (o+p*3+2))=some (iv (R p)):=by
      rcases HR.o with h0|⟨b',o',he,hc'⟩;.omega
      .simp at he;obtain⟨rfl,rfl⟩:=he;exact hc' p hp1
     have cpA:(wr.alloc (.cells #[iv (I k),.string (X k),iv (R k)] 131)).cell? (ad b (o+p*3+1))=some (.string (X p)):=((Aa _ _).cell (p:=(ad b (o+p*3+1))) (Ws _ _ cp)).trans cp;have hblt:b<wr.heap.size:=Ws _ _ cp;have hbne:¬ (b=wr.heap.size):=by omega
     have hbne' : ¬ (wr.heap.size=b):=by omega
     cases hls:Op.bytesLess (X p).toList (X k).toList with
     | false=>
      have HBAD:U (¬ C8 next n I X R):=λq=>by have g:=(q.2.2 k hlt).1;unfold De at g;have:=g.2.2.2 (by omega);rw[HPK.o,hls] at this;cases this
      have hd1:decide (((X k).size:Int)<1)=false:=by simpa using q1
      have hd2:decide (30<((X k).size:Int))=false:=by simpa using q2
      have hd3:decide (I k<1)=false:=by simpa using q3
      have hd4:decide (next<=I k)=false:=by simpa using q4
      have hd5:decide (R k<1)=false:=by simpa using q5
      have hd6:decide (2000000000<R k)=false:=by simpa using q6
      go_wp2;go_quiet (fail)
      go_wp2;go_ret;exact C0.no HBAD.o (Af (HB.o.alloc HB.o.size _) _)
     | true=>
      replace HGK:=HGK (λ_=>by rw[HPK.o];exact hls);have hd1:decide (((X k).size:Int)<1)=false:=by simpa using q1
      have hd2:decide (30<((X k).size:Int))=false:=by simpa using q2
      have hd3:decide (I k<1)=false:=by simpa using q3
      have hd4:decide (next<=I k)=false:=by simpa using q4
      have hd5:decide (R k<1)=false:=by simpa using q5
      have hd6:decide (2000000000<R k)=false:=by simpa using q6
      go_wp2;go_quiet (fail)
      have HB2:U (Below (w.heap.size+1) (w.alloc (.cells #[iv next,.slice (some (ad b o)) n c] 45)) ((wr.alloc (.cells #[iv (I k),.string (X k),iv (R k)] 131)).drewN nq)):=Af (HB0.o.alloc (Nat.succ_le_of_lt dz) _) nq;have HR2:U (E0 ((wr.alloc (.cells #[iv (I k),.string (X k),iv (R k)] 131)).drewN nq) (some (ad b o)) n I X R):=HR.o.below (Af (Aa _ _) nq);have HT:U (((wr.alloc (.cells #[iv (I k),.string (X k),iv (R k)] 131)).drewN nq).cell? (ad wr.heap.size 0)=some (iv (I k))/\wr.heap.size<((wr.alloc (.cells #[iv (I k),.string (X k),iv (R k)] 131)).drewN nq).heap.size):=Ft _ _ _ _ _;clear c1 c2 c3 cp cp0 cp2 cpA hblt hbne hbne';generalize (wr.alloc (.cells #[iv (I k),.string (X k),iv (R k)] 131)).drewN nq=wt at HB2 HR2 HT ⊢;generalize wr.heap.size=tb at HT ⊢;obtain⟨e0,e1,ez,hbt⟩:=KS HB2.o;clear d0 d1;have HBT:U (Bl w wt):=hbt;clear hbt;go_wp2;go_loopw [5] (λj wr=>∃m:Nat,m<=k/\j=iv m/\(∀q,q<m->I q≠I k)/\Bl wt wr) (λj _=>k-(intOf j).toNat)
      case atStart=>exact⟨0,Ww _,rfl,λq hq=>absurd hq (Wy _),Wt _ _⟩
      case round=>
       obtain⟨m,hm,rfl,hfr,hbq⟩:=hrel;have HF:U (∀q,q<m->I q≠I k):=hfr;clear hfr;have x0:wr.cell? (ad w.heap.size 0)=some (iv next):=(hbq.cell (p:=(ad w.heap.size 0)) ez).trans e0;have x1:wr.cell? (ad w.heap.size 1)=some (.slice (some (ad b o)) n c):=(hbq.cell (p:=(ad w.heap.size 1)) ez).trans e1;have x2:wr.cell? (ad tb 0)=some (iv (I k)):=(hbq.cell (p:=(ad tb 0)) HT.o.2).trans HT.o.1;have HBQ:U (Bl w wr):=HBT.o.trans (hbq.mono (by omega));have HBD:U (Below (w.heap.size+1) (w.alloc (.cells #[iv next,.slice (some (ad b o)) n c] 45)) wr):=HB2.o.trans (hbq.mono (by omega));have HBW:U (Bl wt wr):=hbq;by_cases hmk:m<k
       .have hmn:m<n:=by omega
        have hcm:wr.cell? (ad b (o+m*3))=some (iv (I m)):=by
         rcases HR2.o.below hbq with h0|⟨b',o',he,hc'⟩;.omega
         .simp at he;obtain⟨rfl,rfl⟩:=he;exact (hc' m hmn).1
        clear hbq e0 e1;by_cases heq:I m=I k
        .have HBAD:U (¬ C8 next n I X R):=λq=>(q.2.2 k hlt).2 m hmk heq;have hbeq:(I m == I k)=true:=by simp[heq]
         go_wp2;go_quiet (fail)
         go_wp2;go_ret;exact C0.no HBAD.o (Af HBQ.o _)
        .have hbeq:(I m == I k)=false:=by simp[heq]
         go_wp2;go_quiet (fail)
         go_wp2;go_roundw;case rel=>
          refine⟨m+1,by omega,by go_num,λq hq=>?_,Af HBW.o _⟩;by_cases e:q=m;.subst e;exact heq
          .exact HF.o q (by omega)
         case measure=>simp[intOf];omega
       .have e:k=m:=by omega
        subst e;clear hbq;go_wp2;go_roundw;case rel=>
         refine⟨k+1,by omega,by go_num,λq hq=>?_,HBD.o⟩;by_cases e:q=k;.subst e;exact⟨HGK.o,HF.o⟩
         .exact HG.o q (by omega)
        case measure=>simp[intOf];omega
   .have e:k=n:=by omega
    subst e;go_wp2;go_ret;exact C0.yes ⟨HN.o,by omega,HG.o⟩ HB.o
theorem FL:∀l:List UInt8,Op.bytesLess l l=false
 | []=>rfl
 | a::x=>by simp[Op.bytesLess,FL x]
theorem GF:∀a b c:List UInt8,Op.bytesLess a b=true->Op.bytesLess b c=true->Op.bytesLess a c=true
 | _,[],_,h,_=>by simp[Op.bytesLess] at h
 | _,_::_,[],_,h=>by simp[Op.bytesLess] at h
 | [],_::_,_::_,_,_=>rfl
 | a::x,b::y,c::z,h1,h2=>by
  simp only[Op.bytesLess,Bool.or_eq_true,Bool.and_eq_true,decide_eq_true_eq,beq_iff_eq] at h1 h2 ⊢
  rcases h1 with h1|⟨rfl,h1⟩
  .rcases h2 with h2|⟨rfl,h2⟩
   .exact .inl (UInt8.lt_trans h1 h2)
   .exact .inl h1
  .rcases h2 with h2|⟨rfl,h2⟩
   .exact .inl h2
   .exact .inr ⟨rfl,GF x y z h1 h2⟩
theorem GE:∀a b:List UInt8,(Op.bytesLess b a || b == a)=!Op.bytesLess a b
 | [],[]=>rfl
 | [],_::_=>rfl
 | _::_,[]=>rfl
 | a::x,b::y=>by
  have ih:=GE x y
  simp only[Op.bytesLess]
  by_cases h:a=b
  .subst h
   have e1:((a::y) == (a::x))=(y == x):=by simp
   rw[e1]
   simp
   simpa using ih
  .have h' : ¬ b=a:=λe=>h e.symm
   have e0:(a == b)=false:=by simp[h]
   have e1:(b == a)=false:=by simp[h']
   have e2:((b::y) == (a::x))=false:=by simp[h']
   rw[e0,e1,e2]
   simp
   by_cases hl:a<b
   .simp[hl]
    exact UInt8.le_of_lt hl
   .simp[hl]
    have:=UInt8.not_lt.1 hl
    exact UInt8.lt_of_le_of_ne this h'
theorem Gy {X:Nat->ByteArray} {k:Nat} (h:∀m,m<k->0<m->Op.bytesLess (X (m-1)).toList (X m).toList=true) (p:Nat) (hp:p<k):∀j,j<p->Op.bytesLess (X j).toList (X p).toList=true:=by
 induction p with
 | zero=>intro j hj;omega
 | succ p ih=>
  intro j hj;have h1:=h (p+1) hp (by omega);rw[show p+1-1=p from rfl] at h1;by_cases e:j=p;.subst e;exact h1
  .exact GF _ _ _ (ih (by omega) j (by omega)) h1
theorem F4 {x y:ByteArray} (h:Op.bytesLess x.toList y.toList=true):x≠y:=by rintro rfl;rw[FL] at h;cases h
end Go.Proofs.YtacpbofiipdodaaGreat
