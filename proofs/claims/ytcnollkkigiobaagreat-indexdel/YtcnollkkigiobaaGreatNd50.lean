import Derived.Test.YtcnollkkigiobaaGreatNd47
import Derived.Test.YtcnollkkigiobaaGreatNd49
import Derived.Test.YtcnollkkigiobaaGreatNd39
import Derived.Test.YtcnollkkigiobaaGreatNd42
import Derived.Test.YtcnollkkigiobaaGreatNd41
import Derived.Test.YtcnollkkigiobaaGreatNd14
set_option linter.unusedVariables false
set_option maxRecDepth 100000
namespace Go.Proofs.YtcnollkkigiobaaGreat
open Go.RowKit Go.Deep

theorem DelOut_t {n:Nat} {N:Nat->Tn} {key:ByteArray} {m:Nat} {M:Nat->Tn} (h:DelTo n N key m M):∃(D:Nat) (y:Ro D) (hh:Nat),m=nodesR D y/\m<=5000/\Tells M 0 D y 0/\BalR D true y hh:=by
 obtain ⟨t,r,hv,_,hr,h5,hT⟩:=h
 obtain ⟨_,_,_,⟨hh,g4⟩,g5,_⟩:=hv
 have hU:=(DelR.bal g4 (asc_of_ascK g5) hr).1
 rcases hT with ⟨y,rfl,hm,ht⟩|⟨hne,hm,ht⟩
 ·obtain ⟨_,_,h',_,hall⟩:=hU
  have hy:=hall y (by simp)
  exact ⟨20,y,h',hm,h5,ht,(BalU.of hy).full true hy.siz⟩
 ·refine ⟨21,r,hh,hm,h5,ht,?_⟩
  rcases r with ks|l
  ·exact ⟨hU.1,hU.2,Or.inl rfl⟩
  ·refine hU.full true ?_
   show 2<=l.length
   have h1:=hU.1
   by_cases e:l.length=1
   ·obtain ⟨y,rfl⟩:=List.length_eq_one_iff.1 e
    exact absurd rfl (hne y)
   ·omega

theorem del_agree {n:Nat} {N:Nat->Tn} {key:ByteArray} {ok ok' : Bool} {m m' : Nat} {M M' : Nat->Tn} (h:(ok=true/\DelTo n N key m M)\/(ok=false/\m=n/\M=N/\DelNo n N key)) (h' : (ok'=true/\DelTo n N key m' M')\/(ok'=false/\m'=n/\M'=N/\DelNo n N key)):ok=ok'/\m=m'/\∀i,i<m->SameN (M i) (M' i):=by
 rcases h with ⟨rfl,t,r,hv,hk,hr,h5,hT⟩|⟨rfl,rfl,rfl,hno⟩
 ·rcases h' with ⟨rfl,t',r',hv',hk',hr',h5',hT'⟩|⟨rfl,rfl,rfl,hno'⟩
  ·obtain rfl:=hv.fn hv'
   obtain ⟨_,_,_,⟨hh,g4⟩,g5,_⟩:=hv
   have e:=DelR.fn g4 (asc_of_ascK g5) hr hr'
   subst e
   rcases hT with ⟨y,e1,hm,ht⟩|⟨hne,hm,ht⟩
   ·rcases hT' with ⟨y',e2,hm',ht'⟩|⟨hne',hm',ht'⟩
    ·rw [e1] at e2
     injection e2 with e2
     injection e2 with e2
     subst e2
     exact ⟨rfl,by omega,fun i hi=>Tells.same ht ht' i (Nat.zero_le _) (by omega)⟩
    ·exact absurd e1 (hne' y)
   ·rcases hT' with ⟨y',e2,hm',ht'⟩|⟨hne',hm',ht'⟩
    ·exact absurd e2 (hne y')
    ·exact ⟨rfl,by omega,fun i hi=>Tells.same ht ht' i (Nat.zero_le _) (by omega)⟩
  ·exact absurd hk (hno' t hv)
 ·rcases h' with ⟨rfl,t',r',hv',hk',hr',h5',hT'⟩|⟨rfl,rfl,rfl,hno'⟩
  ·exact absurd hk' (hno t' hv')
  ·exact ⟨rfl,rfl,fun i _=>SameN.refl _⟩
def RelS (okb:Bool) (mm:Nat) (M:Nat->Nat) (T:Nat->Nat->Tn) (q:Qd) (M' : Nat->Nat) (T' : Nat->Nat->Tn):Prop:=(okb=true/\mm=6/\∀i,i<6->DelD (M i) (T i) (keyOf i q) (M' i) (T' i))\/(okb=false/\M'=M/\T'=T)
def RelI (okb:Bool) (mm:Nat) (M:Nat->Nat) (T:Nat->Nat->Tn) (q:Qd) (M' : Nat->Nat) (T' : Nat->Nat->Tn):Prop:=(okb=true/\mm=6/\∀i,i<6->DelTo (M i) (T i) (keyOf i q) (M' i) (T' i))\/(okb=false/\M'=M/\T'=T)
theorem rel_agree {okb:Bool} {mm:Nat} {M:Nat->Nat} {T:Nat->Nat->Tn} {q:Qd} {Ms Mi:Nat->Nat} {Ts Ti:Nat->Nat->Tn} (hs:RelS okb mm M T q Ms Ts) (hi:RelI okb mm M T q Mi Ti):∀i,i<mm->Ms i=Mi i/\∀x,x<Ms i->SameN (Ts i x) (Ti i x):=by
 intro i hi'
 rcases hi with ⟨e,e6,h⟩|⟨e,e1,e2⟩
 ·rcases hs with ⟨_,_,h2⟩|⟨e',_⟩
  ·have a1:=h i (by omega)
   rcases h2 i (by omega) with a2|⟨a2,a3,a4⟩
   ·have:=del_agree (ok:=true) (ok':=true) (.inl ⟨rfl,a2⟩) (.inl ⟨rfl,a1⟩)
    exact this.2
   ·have:=del_agree (ok:=false) (ok':=true) (.inr ⟨rfl,a2,a3,a4⟩) (.inl ⟨rfl,a1⟩)
    exact absurd this.1 (by decide)
  ·rw [e] at e';cases e'
 ·rcases hs with ⟨e',_⟩|⟨_,e3,e4⟩
  ·rw [e] at e';cases e'
  ·subst e1 e2 e3 e4
   exact ⟨rfl,fun x _=>⟨rfl,rfl,rfl,rfl,fun _ _=>rfl,fun _ _=>rfl⟩⟩
abbrev ZRes:Obj:=.cells #[.bool false,.slice none 0 0] 42
def BoxA (R:World->Option Addr->Nat->Prop) (okb:Bool) (mm:Nat) (wx:World) (s:Value):Prop:=∃b8 a8 c8,s=.pointer (some ⟨b8,0,none⟩)/\Bx wx b8 42 #[.bool okb,.slice a8 mm c8]/\R wx a8 b8
theorem bx_two {w:World} {b:Nat} {v0 v1:Value} (h:Bx w b 42 #[.bool false,.slice none 0 0]):Bx ((w.setCell ⟨b,0,none⟩ v0).setCell ⟨b,1,none⟩ v1) b 42 #[v0,v1]:=by
 have:=(h.set 0 v0).set 1 v1
 simpa using this

section
variable {w w4:World} {a a8:Option Addr} {n c c8 mm bo B:Nat} {p:Qd} {okb:Bool} {M M8:Nat->Nat} {T T8:Nat->Nat->Tn} {us:List Value} {lo hi:Nat->Nat}
def SB (w:World) (a:Option Addr) (n c:Nat) (p:Qd) (okb:Bool) (mm:Nat) (M:Nat->Nat) (T:Nat->Nat->Tn) (wx:World) (s:Value):Prop:=∃b8 a8 c8 M8 T8,s=.pointer (some ⟨b8,0,none⟩)/\Bx wx b8 42 #[.bool okb,.slice a8 mm c8]/\Kp w a n c p wx/\RdIx wx a8 mm M8 T8/\RelS okb mm M T p M8 T8
theorem SB.new (k:Kp w a n c p w4) (row:RowI TreeRd w4 B (.slice a8 mm c8) mm M8 T8 us lo hi) (rel:RelS okb mm M T p M8 T8):SB w a n c p okb mm M T (w4.alloc (.cells #[.bool okb,.slice a8 mm c8] 42)) (.pointer (some ⟨w4.heap.size,0,none⟩)):=
 ⟨_,_,_,M8,T8,rfl,Bx.new _ _ _,k.next (below_alloc _ _),(row.below TreeRd.pl (below_alloc _ _)).rd TreeRd.pl,rel⟩
theorem Kp.setC {x:Nat} {v:Value} (k:Kp w a n c p w4) (h:w.heap.size+2<=bo):Kp w a n c p (w4.setCell ⟨bo,x,none⟩ v):=Below.setCell k h _
theorem SB.set (k:Kp w a n c p w4) (hbo:w.heap.size+2<=bo) (bx:Bx w4 bo 42 #[.bool false,.slice none 0 0]) (row:RowI TreeRd w4 B (.slice a8 mm c8) mm M8 T8 us lo hi) (hB:bo<B) (rel:RelS okb mm M T p M8 T8):SB w a n c p okb mm M T ((w4.setCell ⟨bo,0,none⟩ (.bool okb)).setCell ⟨bo,1,none⟩ (.slice a8 mm c8)) (.pointer (some ⟨bo,0,none⟩)):=
 ⟨_,_,_,M8,T8,rfl,bx_two bx,(k.setC hbo).setC hbo,((row.setO TreeRd.pl (by exact hB) _).setO TreeRd.pl (by exact hB) _).rd TreeRd.pl,rel⟩
theorem SB.late (k:Kp w a n c p w4) (row:RowI TreeRd w4 B (.slice a8 mm c8) mm M8 T8 us lo hi) (rel:RelS okb mm M T p M8 T8):SB w a n c p okb mm M T (((w4.alloc (.cells #[.bool false,.slice none 0 0] 42)).setCell ⟨w4.heap.size,0,none⟩ (.bool okb)).setCell ⟨w4.heap.size,1,none⟩ (.slice a8 mm c8)) (.pointer (some ⟨w4.heap.size,0,none⟩)):=by
 have hs:=k.size
 have k2:Kp w a n c p (w4.alloc (.cells #[.bool false,.slice none 0 0] 42)):=k.next (below_alloc _ _)
 refine ⟨_,_,_,M8,T8,rfl,bx_two (Bx.new _ _ _),(k2.setC hs).setC hs,?_,rel⟩
 refine RowI.rd TreeRd.pl (B:=B) (us:=us) (lo:=lo) (hi:=hi) (c:=c8) (row.keep TreeRd.pl (by simp) (fun x _ hx=>?_))
 rw [Below.heap_setCell _ _ _ _ (by show x≠w4.heap.size;omega),Below.heap_setCell _ _ _ _ (by show x≠w4.heap.size;omega)]
 exact (below_alloc _ _).block x hx
end


theorem RdIx.any {w:World} {a:Option Addr} {n:Nat} {M:Nat->Nat} {T:Nat->Nat->Tn} (h:RdIx w a n M T):RdIx w a n M T:=h
theorem relI_small {okb:Bool} {mm n:Nat} {M M' : Nat->Nat} {T T' : Nat->Nat->Tn} {q:Qd} (h:RelI okb mm M T q M' T') (hm:okb=false->mm=n) (hF:IxFit n M T) (hs:n+sumI M T n<=1048576):IxFit mm M' T'/\mm+sumI M' T' mm<=1048576/\mm<=1048576:=by
 rcases h with ⟨e,e6,h⟩|⟨e,e1,e2⟩
 ·subst e6
  have each:∀i,i<6->M' i<=5000/\sumT (T' i) (M' i)<=8*M' i/\∀x,x<M' i->TnFit (T' i x):=fun i hi=>by
   obtain ⟨D,y,hh,e1,e2,e3,e4⟩:=DelOut_t (h i hi)
   have h4:∀x,x<M' i->(T' i x).kn<=4/\(T' i x).dn<=4:=fun x hx=>tells_four e3 e4 x (Nat.zero_le _) (by omega)
   exact ⟨e2,sum_four _ _ h4,fun x hx=>⟨by have:=(h4 x hx).1;omega,by have:=(h4 x hx).2;omega⟩⟩
  have hsum:sumI M' T' 6<=270000:=by
   have a0:=each 0 (by omega);have a1:=each 1 (by omega);have a2:=each 2 (by omega)
   have a3:=each 3 (by omega);have a4:=each 4 (by omega);have a5:=each 5 (by omega)
   simp only [sumI]
   omega
  exact ⟨fun i hi=>⟨by have:=(each i hi).1;omega,(each i hi).2.2⟩,by omega,by omega⟩
 ·have:=hm e
  subst this e1 e2
  exact ⟨hF,hs,by omega⟩
def IB (W6:World) (okb:Bool) (mm:Nat) (M:Nat->Nat) (T:Nat->Nat->Tn) (p:Qd) (wx:World) (s:Value):Prop:=∃b8 a8 c8 M8 T8 us lo hi,s=.pointer (some ⟨b8,0,none⟩)/\Bx wx b8 42 #[.bool okb,.slice a8 mm c8]/\RowI TreeAt wx W6.heap.size (.slice a8 mm c8) mm M8 T8 us lo hi/\W6.heap.size<=b8/\(∀i,i<mm->b8<lo i\/hi i<=b8)/\RelI okb mm M T p M8 T8/\Below W6.heap.size W6 wx
section
variable {W6 w4:World} {a8:Option Addr} {c8 mm bo B:Nat} {p:Qd} {okb:Bool} {M M8:Nat->Nat} {T T8:Nat->Nat->Tn} {us:List Value} {lo hi:Nat->Nat}
theorem RowI.top (row:RowI TreeAt w4 B (.slice a8 mm c8) mm M8 T8 us lo hi):∀i,i<mm->hi i<=w4.heap.size:=fun i hi=>by
 obtain ⟨u,_,h⟩:=row.tree i hi
 exact TreeAt.pl.top h
theorem IB.new (k:Below W6.heap.size W6 w4) (row:RowI TreeAt w4 B (.slice a8 mm c8) mm M8 T8 us lo hi) (hB:W6.heap.size<=B) (rel:RelI okb mm M T p M8 T8):IB W6 okb mm M T p (w4.alloc (.cells #[.bool okb,.slice a8 mm c8] 42)) (.pointer (some ⟨w4.heap.size,0,none⟩)):=
 ⟨_,_,_,M8,T8,us,lo,hi,rfl,Bx.new _ _ _,(row.below TreeAt.pl (below_alloc _ _)).low hB,k.size,fun i hi=>.inr (row.top i hi),rel,k.alloc k.size _⟩
theorem IB.set (k:Below W6.heap.size W6 w4) (hbo:W6.heap.size<=bo) (bx:Bx w4 bo 42 #[.bool false,.slice none 0 0]) (row:RowI TreeAt w4 B (.slice a8 mm c8) mm M8 T8 us lo hi) (hB:bo<B) (rel:RelI okb mm M T p M8 T8):IB W6 okb mm M T p ((w4.setCell ⟨bo,0,none⟩ (.bool okb)).setCell ⟨bo,1,none⟩ (.slice a8 mm c8)) (.pointer (some ⟨bo,0,none⟩)):=
 ⟨_,_,_,M8,T8,us,lo,hi,rfl,bx_two bx,((row.setO TreeAt.pl (by exact hB) _).setO TreeAt.pl (by exact hB) _).low (by omega),hbo,fun i hi=>.inl (Nat.lt_of_lt_of_le hB (row.base i hi)),rel,(k.setCell hbo _).setCell hbo _⟩
theorem IB.late (k:Below W6.heap.size W6 w4) (row:RowI TreeAt w4 B (.slice a8 mm c8) mm M8 T8 us lo hi) (hB:W6.heap.size<=B) (rel:RelI okb mm M T p M8 T8):IB W6 okb mm M T p (((w4.alloc (.cells #[.bool false,.slice none 0 0] 42)).setCell ⟨w4.heap.size,0,none⟩ (.bool okb)).setCell ⟨w4.heap.size,1,none⟩ (.slice a8 mm c8)) (.pointer (some ⟨w4.heap.size,0,none⟩)):=by
 have k2:Below W6.heap.size W6 (w4.alloc (.cells #[.bool false,.slice none 0 0] 42)):=k.alloc k.size _
 refine ⟨_,_,_,M8,T8,us,lo,hi,rfl,bx_two (Bx.new _ _ _),(row.keep TreeAt.pl (by simp) (fun x _ hx=>?_)).low hB,k.size,fun i hi=>.inr (row.top i hi),rel,(k2.setCell k.size _).setCell k.size _⟩
 rw [Below.heap_setCell _ _ _ _ (by show x≠w4.heap.size;omega),Below.heap_setCell _ _ _ _ (by show x≠w4.heap.size;omega)]
 exact (below_alloc _ _).block x hx
end
structure Kt (w:World) (a:Option Addr) (n c:Nat) (p:Qd) (M:Nat->Nat) (T:Nat->Nat->Tn) (okb:Bool) (mm:Nat) (b8:Nat) (a8:Option Addr) (c8:Nat) (M8:Nat->Nat) (T8:Nat->Nat->Tn) (wk W6:World) (b g:Nat) (R:Nat->Nat):Prop where
 kp:Kp w a n c p wk
 bx:Bx wk b8 42 #[.bool okb,.slice a8 mm c8]
 q8:RdIx wk a8 mm M8 T8
 bel:Below wk.heap.size wk W6
 own:OwnIr W6 (g+1) g n 0 n M T R
 box:Bx W6 b 32 #[.slice (some ⟨g,0,none⟩) n n]
 low:wk.heap.size<=g
 hib:R n<=b
section
variable {w wk W5 W6 W:World} {a a8 a10:Option Addr} {n c mm b8 c8 c10 b10:Nat} {p:Qd} {M M8 M10:Nat->Nat} {T T8 T10:Nat->Nat->Tn} {okb:Bool} {b g:Nat} {R lo hi:Nat->Nat} {us:List Value}
theorem Kt.new (k:Kp w a n c p wk) (bx:Bx wk b8 42 #[.bool okb,.slice a8 mm c8]) (q:RdIx wk a8 mm M8 T8) (hg:wk.heap.size<=g) (ho:OwnIr W5 (g+1) g n 0 n M T R) (hb:Below wk.heap.size wk W5):Kt w a n c p M T okb mm b8 a8 c8 M8 T8 wk (W5.alloc (.cells #[.slice (some ⟨g,0,none⟩) n n] 32)) W5.heap.size g R:=
 ⟨k,bx,q,hb.trans ((below_alloc _ _).mono hb.size),ho.below (below_alloc _ _),Bx.new _ _ _,hg,ho.2.2.1⟩
theorem Kt.all (k:Kt w a n c p M T okb mm b8 a8 c8 M8 T8 wk W6 b g R) (hb:Below W6.heap.size W6 W):Below wk.heap.size wk W:=k.bel.trans (hb.mono k.bel.size)
theorem Kt.cells (k:Kt w a n c p M T okb mm b8 a8 c8 M8 T8 wk W6 b g R) (hb:Below W6.heap.size W6 W):W.cell? ⟨b,0,none⟩=some (.slice (some ⟨g,0,none⟩) n n):=(k.box.below hb).cell 0
theorem Kt.rdi (k:Kt w a n c p M T okb mm b8 a8 c8 M8 T8 wk W6 b g R) (hb:Below W6.heap.size W6 W):RdIx W (some ⟨g,0,none⟩) n M T:=k.own.rd.below hb
theorem Kt.ownW (k:Kt w a n c p M T okb mm b8 a8 c8 M8 T8 wk W6 b g R) (hb:Below W6.heap.size W6 W):OwnIr W (g+1) g n 0 n M T R:=k.own.below hb
theorem Kt.q8W (k:Kt w a n c p M T okb mm b8 a8 c8 M8 T8 wk W6 b g R) (hb:Below wk.heap.size wk W):RdIx W a8 mm M8 T8:=k.q8.below hb
theorem Kt.kpW (k:Kt w a n c p M T okb mm b8 a8 c8 M8 T8 wk W6 b g R) (hb:Below wk.heap.size wk W):Kp w a n c p W:=k.kp.next hb
theorem Kt.at8 (k:Kt w a n c p M T okb mm b8 a8 c8 M8 T8 wk W6 b g R) (hb:Below wk.heap.size wk W):W.cell? ⟨b8,0,none⟩=some (.bool okb)/\W.cell? ⟨b8,1,none⟩=some (.slice a8 mm c8):=⟨(k.bx.below hb).cell 0,(k.bx.below hb).cell 1⟩
structure St (wk W6:World) (okb:Bool) (mm:Nat) (b10:Nat) (a10:Option Addr) (c10:Nat) (M10:Nat->Nat) (T10:Nat->Nat->Tn) (us:List Value) (lo hi:Nat->Nat) (W:World):Prop where
 bel:Below wk.heap.size wk W
 bx:Bx W b10 42 #[.bool okb,.slice a10 mm c10]
 row:RowI TreeAt W W6.heap.size (.slice a10 mm c10) mm M10 T10 us lo hi
 big:W6.heap.size<=W.heap.size
theorem St.next {W' : World} (h:St wk W6 okb mm b10 a10 c10 M10 T10 us lo hi W) (hb:Below W.heap.size W W'):St wk W6 okb mm b10 a10 c10 M10 T10 us lo hi W':=⟨h.bel.trans (hb.mono h.bel.size),h.bx.below hb,h.row.below TreeAt.pl hb,Nat.le_trans h.big hb.size⟩
theorem St.at10 (h:St wk W6 okb mm b10 a10 c10 M10 T10 us lo hi W):W.cell? ⟨b10,0,none⟩=some (.bool okb)/\W.cell? ⟨b10,1,none⟩=some (.slice a10 mm c10):=⟨h.bx.cell 0,h.bx.cell 1⟩
theorem St.marked {W' : World} (h:St wk W6 okb mm b10 a10 c10 M10 T10 us lo hi W) (k:Kt w a n c p M T okb mm b8 a8 c8 M8 T8 wk W6 b g R) (hb10:W6.heap.size<=b10) (hw:WiT (R 0) (R n) W W'):St wk W6 okb mm b10 a10 c10 M10 T10 us lo hi W':=by
 have h1:=k.own.2.1
 have h2:=k.low
 have h3:=k.hib
 have h4:=k.box.lt
 have h5:=h.big
 have h6:=k.bel.size
 have h7:=k.own.2.2.2.1 0 n (Nat.zero_le _) (Nat.le_refl _)
 refine ⟨h.bel.trans ((hw.below (by omega)).mono (by omega)),(hw.2.2.2.2 b10 h.bx.lt (.inr (by omega))).trans h.bx,h.row.keep TreeAt.pl hw.2.2.2.1 (fun x x1 x2=>hw.2.2.2.2 x x2 (.inr (by omega))),Nat.le_trans h5 hw.2.2.2.1⟩
end
def LB (wk:World) (okb:Bool) (mm:Nat) (M:Nat->Nat) (T:Nat->Nat->Tn) (p:Qd) (wx:World) (s:Value):Prop:=∃b8 a8 c8 M8 T8,s=.pointer (some ⟨b8,0,none⟩)/\Bx wx b8 42 #[.bool okb,.slice a8 mm c8]/\RdIx wx a8 mm M8 T8/\RelI okb mm M T p M8 T8/\Below wk.heap.size wk wx
theorem IB.lb {W6 wx:World} {okb:Bool} {mm:Nat} {M:Nat->Nat} {T:Nat->Nat->Tn} {p:Qd} {s:Value} (h:IB W6 okb mm M T p wx s):LB W6 okb mm M T p wx s:=by
 obtain ⟨b8,a8,c8,M8,T8,us,lo,hi,h1,h2,h3,h4,h5,h6,h7⟩:=h
 exact ⟨b8,a8,c8,M8,T8,h1,h2,h3.rd TreeAt.pl,h6,h7⟩
end Go.Proofs.YtcnollkkigiobaaGreat
