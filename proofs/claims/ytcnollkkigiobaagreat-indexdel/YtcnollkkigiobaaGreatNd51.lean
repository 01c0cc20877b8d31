import Derived.Test.YtcnollkkigiobaaGreatNd50
import Derived.Deep.CutRange
set_option linter.unusedVariables false
set_option maxRecDepth 100000
namespace Go.Proofs.YtcnollkkigiobaaGreat
open Go.RowKit Go.Deep

set_option maxHeartbeats 20000000 in
theorem idLaw (a:Option Addr) (n c:Nat) (M:Nat->Nat) (T:Nat->Nat->Tn) (p:Qd) (w:World) (ha:RdIx w a n M T) (hX:∀i,i<n->M i<=maxLen/\∀j,j<M i->TnBig (T i j)) (hn:n<=maxLen) :
  Calls Tryz.prog 5 #[.agg #[.slice a n c],qv p] w fun e w'=>e=.returned (.bool true)/\Below w.heap.size w w':=by
 obtain ⟨okb,mm,hok⟩:∃(okb:Bool) (mm:Nat),(okb=true/\mm=6/\DelOk n M T p)\/(okb=false/\mm=n/\¬ DelOk n M T p):=by
  by_cases h:DelOk n M T p
  ·exact ⟨true,6,.inl ⟨rfl,rfl,h⟩⟩
  ·exact ⟨false,n,.inr ⟨rfl,rfl,h⟩⟩
 have HSz:Hid (∀W,Kp w a n c p W->Calls Tryz.prog 7 #[.agg #[.slice a n c],.int .i64 1048576] W fun e w'=>∃r:Int,e=.returned (.int .i64 r)/\(r=-1\/(0<=r/\n+sumI M T n<=1048576))/\Below W.heap.size W w'):=fun W k=>szIndex_sum a n c M T W (ha.below k.below) hn hX
 have HTq:Hid (∀W:World,Calls Tryz.prog 10 #[.agg #[.int .i64 p.s,.int .i64 p.p,.int .i64 p.o,.int .i64 p.g]] W fun e w'=>e=.returned (.agg #[.int .i64 p.s,.int .i64 p.p,.int .i64 p.o,.int .i64 p.g])/\Below W.heap.size W w'):=fun W=>toQuad_any _ _ _ _ W
 have HTi:Hid (n<=1048576->IxFit n M T->∀W,Kp w a n c p W->Calls Tryz.prog 9 #[.agg #[.slice a n c]] W fun e w'=>∃g R,e=.returned (.agg #[.slice (some ⟨g,0,none⟩) n n])/\W.heap.size<=g/\OwnIc w' (g+1) g n 0 n M T R/\Below W.heap.size W w'):=fun h1 h2 W k=>toIndexK_any a n c M T W (ha.below k.below) h1 h2
 have HSp:Hid (n<=1048576->IxFit n M T->∀W a,RdIxC W a n M T->Calls Tryz.prog 22 #[.agg #[.slice a n n],.agg #[.int .i64 p.s,.int .i64 p.p,.int .i64 p.o,.int .i64 p.g]] W fun e w'=>Below W.heap.size W w'/\∃a8 c8 M8 T8 us lo hi,e=.returned (.agg #[.bool okb,.slice a8 mm c8])/\RowI TreeRd w' (W.heap.size+3) (.slice a8 mm c8) mm M8 T8 us lo hi/\RelS okb mm M T p M8 T8):=fun h1 h2 W a h=>(specID a n n M T p W h h1 h2).mono fun e w' ⟨q1,q2⟩=>⟨q1,by
  rcases q2 with ⟨q2,a8,c8,M8,T8,us,lo,hi,e1,e2,e3⟩|⟨q2,a8,c8,us,lo,hi,e1,e2⟩
  ·rcases hok with ⟨rfl,rfl,_⟩|⟨_,_,q⟩
   ·exact ⟨a8,c8,M8,T8,us,lo,hi,e1,e2,.inl ⟨rfl,rfl,e3⟩⟩
   ·exact absurd q2 q
  ·rcases hok with ⟨_,_,q⟩|⟨rfl,rfl,_⟩
   ·exact absurd q q2
   ·exact ⟨a8,c8,M,T,us,lo,hi,e1,e2,.inr ⟨rfl,rfl,rfl⟩⟩⟩
 have HIm:Hid (n<=1048576->IxFit n M T->∀W a,RdIx W a n M T->Calls Tryz.prog 23 #[.agg #[.slice a n n],.agg #[.int .i64 p.s,.int .i64 p.p,.int .i64 p.o,.int .i64 p.g]] W fun e w'=>Below W.heap.size W w'/\∃a8 c8 M8 T8 us lo hi,e=.returned (.agg #[.bool okb,.slice a8 mm c8])/\RowI TreeAt w' (W.heap.size+3) (.slice a8 mm c8) mm M8 T8 us lo hi/\RelI okb mm M T p M8 T8):=fun h1 h2 W a h=>(implID a n n M T p W h h1 h2).mono fun e w' ⟨q1,q2⟩=>⟨q1,by
  rcases q2 with ⟨q2,a8,c8,M8,T8,us,lo,hi,e1,e2,e3⟩|⟨q2,a8,c8,us,lo,hi,e1,e2⟩
  ·rcases hok with ⟨rfl,rfl,_⟩|⟨_,_,q⟩
   ·exact ⟨a8,c8,M8,T8,us,lo,hi,e1,e2,.inl ⟨rfl,rfl,e3⟩⟩
   ·exact absurd q2 q
  ·rcases hok with ⟨_,_,q⟩|⟨rfl,rfl,_⟩
   ·exact absurd q q2
   ·exact ⟨a8,c8,M,T,us,lo,hi,e1,e2,.inr ⟨rfl,rfl,rfl⟩⟩⟩
 have HMm:Hid (okb=false->mm=n):=fun h0=>by
  rcases hok with ⟨e1,_⟩|⟨_,e,_⟩
  ·rw [e1] at h0;cases h0
  ·exact e
 have k0:Kp w a n c p ((w.alloc (.cells #[.slice a n c] 24)).alloc (.cells #[.int .i64 p.s,.int .i64 p.p,.int .i64 p.o,.int .i64 p.g] 26)):=Below.refl _ _
 have K0:Hid (Kp w a n c p ((w.alloc (.cells #[.slice a n c] 24)).alloc (.cells #[.int .i64 p.s,.int .i64 p.p,.int .i64 p.o,.int .i64 p.g] 26))):=k0
 clear ha hX hok k0
 unfold qv
 go_enter Tryz.func5,Tryz.ntmps5
 go_wp2_with fail
 (with_reducible refine (HSz.out _ K0.out).mono ?_)
 rintro e w1 ⟨r,rfl,hr,hb1⟩
 have K1:Hid (Kp w a n c p w1):=K0.out.next hb1
 clear hb1 HSz K0
 rcases hr with rfl|⟨hr0,hsum⟩
 ·go_wp2
  go_ret
  exact ⟨rfl,K1.out.below⟩
 have hr1:¬ r<0:=by omega
 have hn1:n<=1048576:=by omega
 have HTi2:Hid (∀W,Kp w a n c p W->Calls Tryz.prog 9 #[.agg #[.slice a n c]] W fun e w'=>∃g R,e=.returned (.agg #[.slice (some ⟨g,0,none⟩) n n])/\W.heap.size<=g/\OwnIc w' (g+1) g n 0 n M T R/\Below W.heap.size W w'):=HTi.out hn1 (ixFit_of hsum)
 have HSp2:=HSp.out hn1 (ixFit_of hsum)
 have HSp3:Hid _:=HSp2
 have HIm2:=HIm.out hn1 (ixFit_of hsum)
 have HIm3:Hid _:=HIm2
 have HFt:Hid (IxFit n M T/\n+sumI M T n<=1048576):=⟨ixFit_of hsum,hsum⟩
 clear hn hsum HTi HSp HIm HSp2 HIm2
 obtain ⟨x0,q0,q1,q2,q3⟩:=K1.out.cells
 have kd:Hid (Kp w a n c p w1.drew):=K1.out.next ((Below.refl _ _).drew)
 have xz:w.heap.size<w1.heap.size:=by have:=K1.out.size;omega
 have xy:w.heap.size+1<w1.heap.size:=by have:=K1.out.size;omega
 have HKd:Hid (∀W,Kp w a n c p W->∀O,Kp w a n c p (W.alloc O).drew):=fun W k O=>k.next ((below_alloc _ _).drew)
 have HKa:Hid (∀W,Kp w a n c p W->∀O,Kp w a n c p (W.alloc O)):=fun W k O=>k.next (below_alloc _ _)
 go_wp2
 go_cut [6] from 18 to 22 (fun s6 wx=>SB w a n c p okb mm M T wx s6)
 case first=>
  go_region_with (first
   | (go_at_call 9;(first|(with_reducible refine (HTi2.out _ kd.out).mono ?_)|(with_reducible refine (HTi2.out _ (HKa.out _ kd.out _)).mono ?_)|(with_reducible refine (HTi2.out _ (HKd.out _ K1.out _)).mono ?_));rintro e w2 ⟨g2,R2,rfl,h2,r2,b2⟩;have r2:Hid (RdIxC w2 (some ⟨g2,0,none⟩) n M T):=r2.rdC HFt.out.1;(try (have bx:=bx.below b2;have blt:=bx.lt));(try (have bx:=(Bx.new _ #[.bool false,.slice none 0 0] 42).below b2;have hbo:=kd.out.size;have blt:=bx.lt));(try (have bx:=(Bx.new w1 #[.bool false,.slice none 0 0] 42).drew.below b2;have hbo:=K1.out.size;have blt:=bx.lt));(first|(have kd:Hid (Kp w a n c p w2):=kd.out.next b2)|(have kd:Hid (Kp w a n c p w2):=(HKa.out _ kd.out _).next b2)|(have kd:Hid (Kp w a n c p w2):=(HKd.out _ K1.out _).next b2));clear b2 x0 q0 q1 q2 q3 xz xy;obtain ⟨x0,q0,q1,q2,q3⟩:=kd.out.cells;have xz:w.heap.size<w2.heap.size:=(by have:=kd.out.size;omega);have xy:w.heap.size+1<w2.heap.size:=(by have:=kd.out.size;omega))
   | (go_at_call 10;(with_reducible refine (HTq.out _).mono ?_);rintro e w3 ⟨rfl,b3⟩;(try (first|(have r2:Hid (RdIxC w3 (some ⟨g2,0,none⟩) n M T):=r2.out.below b3)|(have r2:Hid (RdIxC w3 (some ⟨g2,0,none⟩) n M T):=(r2.out.below (below_alloc _ _)).below b3)));(try (have bx:=bx.below b3;have blt:=bx.lt));(try (have bx:=(Bx.new _ #[.bool false,.slice none 0 0] 42).below b3;have hbo:=kd.out.size;have blt:=bx.lt));(try (have bx:=(Bx.new w1 #[.bool false,.slice none 0 0] 42).drew.below b3;have hbo:=K1.out.size;have blt:=bx.lt));(first|(have kd:Hid (Kp w a n c p w3):=kd.out.next b3)|(have kd:Hid (Kp w a n c p w3):=(HKa.out _ kd.out _).next b3)|(have kd:Hid (Kp w a n c p w3):=(HKd.out _ K1.out _).next b3));clear b3 x0 q0 q1 q2 q3 xz xy;obtain ⟨x0,q0,q1,q2,q3⟩:=kd.out.cells;have xz:w.heap.size<w3.heap.size:=(by have:=kd.out.size;omega);have xy:w.heap.size+1<w3.heap.size:=(by have:=kd.out.size;omega))
   | (go_at_call 22;(first|(with_reducible refine (HSp3.out _ _ r2.out).mono ?_)|(with_reducible refine (HSp3.out _ _ (r2.out.below (below_alloc _ _))).mono ?_));rintro e w4 ⟨b4,a8,c8,M8,T8,us,lo,hi,rfl,row8,rel8⟩;(try have hB0:=bx.lt);(try have hB1:=kd.out.size);(try (have bx:=bx.below b4;have blt:=bx.lt));(try (have bx:=(Bx.new _ #[.bool false,.slice none 0 0] 42).below b4;have hbo:=kd.out.size;have blt:=bx.lt));(try (have bx:=(Bx.new w1 #[.bool false,.slice none 0 0] 42).drew.below b4;have hbo:=K1.out.size;have blt:=bx.lt));(first|(have kd:Hid (Kp w a n c p w4):=kd.out.next b4)|(have kd:Hid (Kp w a n c p w4):=(HKa.out _ kd.out _).next b4)|(have kd:Hid (Kp w a n c p w4):=(HKd.out _ K1.out _).next b4));clear b4 x0 q0 q1 q2 q3 xz xy;obtain ⟨x0,q0,q1,q2,q3⟩:=kd.out.cells;have xz:w.heap.size<w4.heap.size:=(by have:=kd.out.size;omega);have xy:w.heap.size+1<w4.heap.size:=(by have:=kd.out.size;omega);(try (have bc0:=bx.cell 0;have bc1:=bx.cell 1;have bf0:=bx.frozen 0;have bf1:=bx.frozen 1;simp at bc0 bc1)))
   | fail)
  all_goals
   go_wp2
   go_meet
   case rel=>first
    | (with_reducible exact SB.new kd.out row8 rel8)
    | (with_reducible exact SB.late kd.out row8 rel8)
    | (with_reducible refine SB.set kd.out hbo bx row8 ?_ rel8;first|omega|(simp;omega))
 case rest=>
 obtain ⟨wk,rfl⟩:∃x,x=wc:=⟨_,rfl⟩
 obtain ⟨b8,a8,c8,M8,T8,rfl,hbx8,hk8,hr8,rel8⟩:=hcut
 have K8:Hid (Kp w a n c p wk/\Bx wk b8 42 #[.bool okb,.slice a8 mm c8]/\RdIx wk a8 mm M8 T8):=⟨hk8,hbx8,hr8⟩
 have HRel:Hid (RelS okb mm M T p M8 T8):=rel8
 clear hk8 hbx8 hr8 rel8 x0 q0 q1 q2 q3 kd K1 HSp3 HKa HKd xz xy
 obtain ⟨x0,q0,q1,q2,q3⟩:=K8.out.1.cells
 go_wp2_with fail
 (with_reducible refine (HTi2.out _ K8.out.1).mono ?_)
 rintro e w5 ⟨g5,R5,rfl,h5,o5,b5⟩
 have K6:Hid (Kt w a n c p M T okb mm b8 a8 c8 M8 T8 wk (w5.alloc (.cells #[.slice (some ⟨g5,0,none⟩) n n] 32)) w5.heap.size g5 R5):=Kt.new K8.out.1 K8.out.2.1 K8.out.2.2 h5 o5.ir b5
 obtain ⟨W6,hW6⟩:∃W6,W6=w5.alloc (.cells #[.slice (some ⟨g5,0,none⟩) n n] 32):=⟨_,rfl⟩
 go_upto_region 7 with fail
 rw [<- hW6] at K6 ⊢
 obtain ⟨b6,hb6⟩:∃b6,b6=w5.heap.size:=⟨_,rfl⟩
 rw [<- hb6] at K6 ⊢
 clear hW6 hb6 b5 o5 h5 x0 q0 q1 q2 q3 K8
 have KW:Hid (Below W6.heap.size W6 W6):=Below.refl _ _
 have kd:Hid (Below W6.heap.size W6 W6.drew):=(Below.refl _ _).drew
 have x9:=K6.out.cells (Below.refl _ _)
 obtain ⟨x0,q0,q1,q2,q3⟩:=(K6.out.kpW K6.out.bel).cells
 have xz:w.heap.size<W6.heap.size:=by have:=(K6.out.kpW K6.out.bel).size;omega
 have xy:w.heap.size+1<W6.heap.size:=by have:=(K6.out.kpW K6.out.bel).size;omega
 have xb:b6<W6.heap.size:=K6.out.box.lt
 have HKa:Hid (∀W,Below W6.heap.size W6 W->∀O,Below W6.heap.size W6 (W.alloc O)):=fun W k O=>k.alloc k.size _
 have HKd:Hid (∀W,Below W6.heap.size W6 W->∀O,Below W6.heap.size W6 (W.alloc O).drew):=fun W k O=>(k.alloc k.size _).drew
 go_cut [8] from 25 to 28 (fun s8 wx=>IB W6 okb mm M T p wx s8)
 case first=>
  go_region_with (first
   | (go_at_call 10;(with_reducible refine (HTq.out _).mono ?_);rintro e w7 ⟨rfl,b7⟩;(try (have bx:=bx.below b7;have blt:=bx.lt));(try (have bx:=(Bx.new _ #[.bool false,.slice none 0 0] 42).below b7;have hbo:=kd.out.size;have blt:=bx.lt));(try (have bx:=(Bx.new W6 #[.bool false,.slice none 0 0] 42).drew.below b7;have hbo:=KW.out.size;have blt:=bx.lt));(first|(have kd:Hid (Below W6.heap.size W6 w7):=kd.out.trans (b7.mono kd.out.size))|(have kd:Hid (Below W6.heap.size W6 w7):=(HKa.out _ kd.out _).trans (b7.mono (HKa.out _ kd.out _).size))|(have kd:Hid (Below W6.heap.size W6 w7):=(HKd.out _ KW.out _).trans (b7.mono (HKd.out _ KW.out _).size)));clear b7 x0 q0 q1 q2 q3 xz xy;obtain ⟨x0,q0,q1,q2,q3⟩:=(K6.out.kpW (K6.out.all kd.out)).cells;have xz:w.heap.size<w7.heap.size:=(by have:=(K6.out.kpW (K6.out.all kd.out)).size;omega);have xy:w.heap.size+1<w7.heap.size:=(by have:=(K6.out.kpW (K6.out.all kd.out)).size;omega);clear x9 xb;have x9:=K6.out.cells kd.out;have xb:b6<w7.heap.size:=Nat.lt_of_lt_of_le K6.out.box.lt kd.out.size)
   | (go_at_call 23;(first|(with_reducible refine (HIm3.out _ _ (K6.out.rdi kd.out)).mono ?_)|(with_reducible refine (HIm3.out _ _ (K6.out.rdi (HKa.out _ kd.out _))).mono ?_));rintro e w4 ⟨b4,a11,c11,M11,T11,us,lo,hi,rfl,row8,rel8⟩;have hkz:=kd.out.size;(try (have bx:=bx.below b4;have blt:=bx.lt));(try (have bx:=(Bx.new _ #[.bool false,.slice none 0 0] 42).below b4;have hbo:=kd.out.size;have blt:=bx.lt));(try (have bx:=(Bx.new W6 #[.bool false,.slice none 0 0] 42).drew.below b4;have hbo:=KW.out.size;have blt:=bx.lt));(first|(have kd:Hid (Below W6.heap.size W6 w4):=kd.out.trans (b4.mono kd.out.size))|(have kd:Hid (Below W6.heap.size W6 w4):=(HKa.out _ kd.out _).trans (b4.mono (HKa.out _ kd.out _).size))|(have kd:Hid (Below W6.heap.size W6 w4):=(HKd.out _ KW.out _).trans (b4.mono (HKd.out _ KW.out _).size)));clear b4 x0 q0 q1 q2 q3 xz xy;obtain ⟨x0,q0,q1,q2,q3⟩:=(K6.out.kpW (K6.out.all kd.out)).cells;have xz:w.heap.size<w4.heap.size:=(by have:=(K6.out.kpW (K6.out.all kd.out)).size;omega);have xy:w.heap.size+1<w4.heap.size:=(by have:=(K6.out.kpW (K6.out.all kd.out)).size;omega);clear x9 xb;(try (have bc0:=bx.cell 0;have bc1:=bx.cell 1;have bf0:=bx.frozen 0;have bf1:=bx.frozen 1;simp at bc0 bc1)))
   | fail)
  all_goals
   go_wp2
   go_meet
   case rel=>first
    | (with_reducible refine IB.new kd.out row8 ?_ rel8;first|omega|(simp;omega))
    | (with_reducible refine IB.late kd.out row8 ?_ rel8;first|omega|(simp;omega))
    | (with_reducible refine IB.set kd.out hbo bx row8 ?_ rel8;first|omega|(simp;omega))
 case rest=>
 obtain ⟨wm,rfl⟩:∃x,x=wc:=⟨_,rfl⟩
 obtain ⟨b10,a10,c10,M10,T10,us,lo,hi,rfl,hbx10,hrow10,hb10,hsep10,rel10,hbel10⟩:=hcut
 have HSm:Hid (IxFit mm M10 T10/\mm+sumI M10 T10 mm<=1048576/\mm<=1048576):=relI_small rel10 HMm.out HFt.out.1 HFt.out.2
 have HAg:Hid (∀i,i<mm->M8 i=M10 i/\∀x,x<M8 i->SameN (T8 i x) (T10 i x)):=rel_agree HRel.out rel10
 have HSep:Hid (W6.heap.size<=b10/\∀i,i<mm->b10<lo i\/hi i<=b10):=⟨hb10,hsep10⟩
 have K10:Hid (St wk W6 okb mm b10 a10 c10 M10 T10 us lo hi wm/\Below W6.heap.size W6 wm):=⟨⟨K6.out.all hbel10,hbx10,hrow10,hbel10.size⟩,hbel10⟩
 clear hbx10 hrow10 hb10 hsep10 rel10 hbel10 x9 x0 q0 q1 q2 q3 xz xy xb kd KW HKa HKd
 have HEq:Hid (∀W:World,RdIx W a10 mm M10 T10->Below wk.heap.size wk W->Calls Tryz.prog 19 #[.agg #[.bool okb,.slice a10 mm c10],.agg #[.bool okb,.slice a8 mm c8]] W fun e w'=>e=.returned (.bool true)/\Below W.heap.size W w'):=fun W h1 h2=>eqIndexRes_yes okb a10 a8 mm c10 c8 M10 T10 W h1 ((K6.out.q8W h2).same HAg.out) HSm.out.2.2 HSm.out.1
 obtain ⟨y0,y1⟩:=K10.out.1.at10
 obtain ⟨z0,z1⟩:=K6.out.at8 K10.out.1.bel
 go_wp2_with fail
 (with_reducible refine (HEq.out _ (K10.out.1.row.rd TreeAt.pl) K10.out.1.bel).mono ?_)
 rintro e w9 ⟨rfl,b9⟩
 have K9:Hid (St wk W6 okb mm b10 a10 c10 M10 T10 us lo hi w9/\Below W6.heap.size W6 w9):=⟨K10.out.1.next b9,K10.out.2.trans (b9.mono K10.out.2.size)⟩
 clear b9 K10 y0 y1 z0 z1
 have x9:=K6.out.cells K9.out.2
 obtain ⟨x0,q0,q1,q2,q3⟩:=(K6.out.kpW K9.out.1.bel).cells
 have kd:Hid (Below W6.heap.size W6 w9.drew):=K9.out.2.drew
 go_wp2
 go_cut [37] from 33 to 37 (fun s37 wx=>s37=.bool false/\St wk W6 okb mm b10 a10 c10 M10 T10 us lo hi wx/\Below W6.heap.size W6 wx)
 case first=>
  go_region_with (first
   | (go_at_call 9;(with_reducible refine (HTi2.out _ (K6.out.kpW (K6.out.all kd.out))).mono ?_);rintro e wa ⟨ga,Ra,rfl,ha,oa,ba⟩;have KA:Hid (Below W6.heap.size W6 wa/\St wk W6 okb mm b10 a10 c10 M10 T10 us lo hi wa):=⟨kd.out.trans (ba.mono kd.out.size),K9.out.1.next (below_undrew ba)⟩;have RA:Hid (RdIx wa (some ⟨ga,0,none⟩) n M T):=oa.ir.rd;clear ha oa ba x9 x0 q0 q1 q2 q3;have x9:=K6.out.cells KA.out.1)
   | (go_at_call 13;(with_reducible refine (eqIndex_yes (some ⟨g5,0,none⟩) (some ⟨ga,0,none⟩) n n n M T _ (K6.out.rdi KA.out.1) RA.out hn1 HFt.out.1).mono ?_);rintro e wb ⟨rfl,bb⟩;have HF:Hid (St wk W6 okb mm b10 a10 c10 M10 T10 us lo hi wb/\Below W6.heap.size W6 wb):=⟨KA.out.2.next bb,KA.out.1.trans (bb.mono KA.out.1.size)⟩;clear bb x9))
  all_goals
   go_wp2
   go_meet
   case rel=>exact ⟨rfl,HF.out⟩
 case rest=>
 obtain ⟨wm2,rfl⟩:∃x,x=wc:=⟨_,rfl⟩
 obtain ⟨rfl,hst11,hb11⟩:=hcut
 have K11:Hid (St wk W6 okb mm b10 a10 c10 M10 T10 us lo hi wm2/\Below W6.heap.size W6 wm2):=⟨hst11,hb11⟩
 clear hst11 hb11 x9 x0 q0 q1 q2 q3 kd K9
 have x9:=K6.out.cells K11.out.2
 go_wp2_with fail
 (with_reducible refine (markIndex_any (g5+1) g5 n n M T R5 _ (K6.out.ownW K11.out.2) HFt.out.2).mono ?_)
 rintro e w13 ⟨pk,rfl,hw13⟩
 have K13:Hid (St wk W6 okb mm b10 a10 c10 M10 T10 us lo hi w13):=K11.out.1.marked K6.out HSep.out.1 hw13
 have hpk:¬ (pk:Int)<0:=by omega
 have hpk' : decide ((pk:Int)<0)=false:=decide_eq_false hpk
 clear hw13 x9 K11
 obtain ⟨y0,y1⟩:=K13.out.at10
 obtain ⟨z0,z1⟩:=K6.out.at8 K13.out.bel
 go_wp2_with fail
 (with_reducible refine (HEq.out _ (K13.out.row.rd TreeAt.pl) K13.out.bel).mono ?_)
 rintro e w14 ⟨rfl,b14⟩
 have K14:Hid (St wk W6 okb mm b10 a10 c10 M10 T10 us lo hi w14):=K13.out.next b14
 clear b14 K13 y0 y1 z0 z1
 obtain ⟨z,hz⟩:∃z,z=ksI M10 T10 mm:=⟨_,rfl⟩
 have HMk:Hid (Calls Tryz.prog 20 #[.agg #[.bool okb,.slice a10 mm c10],.int .i64 1] w14 fun e w'=>e=.returned (.int .i64 (z:Int))/\Below wk.heap.size wk w'/\RdIx w' a10 mm M10 (fun i=>mkN (ksI M10 T10 i) (T10 i))/\Bx w' b10 42 #[.bool okb,.slice a10 mm c10]):=by
  rw [hz]
  refine (markIxR okb W6.heap.size a10 mm c10 M10 T10 us lo hi w14 K14.out.row K14.out.big HSm.out.2.1).mono (fun e w' ⟨h1,h2,h3,h4⟩=>⟨h1,K14.out.bel.trans (h2.mono K6.out.bel.size),h3,(h4.2 b10 K14.out.bx.lt HSep.out.2).trans K14.out.bx⟩)
 have HHd:Hid (∀W:World,RdIx W a10 mm M10 (fun i=>mkN (ksI M10 T10 i) (T10 i))->Calls Tryz.prog 21 #[.agg #[.bool okb,.slice a10 mm c10],.int .i64 1] W fun e w'=>e=.returned (.int .i64 (z:Int))/\Below W.heap.size W w'):=fun W h=>by
  rw [hz]
  exact heldIxR okb a10 mm c10 M10 T10 W h HSm.out.2.1
 have hz0:¬ (z:Int)<0:=by omega
 have hz0' : decide ((z:Int)<0)=false:=decide_eq_false hz0
 have hz1:((z:Int) != (z:Int))=false:=by simp
 clear hz
 obtain ⟨y0,y1⟩:=K14.out.at10
 go_wp2_with fail
 (with_reducible refine HMk.out.mono ?_)
 rintro e w17 ⟨rfl,b17,r17,x17⟩
 have K17:Hid (Below wk.heap.size wk w17/\RdIx w17 a10 mm M10 (fun i=>mkN (ksI M10 T10 i) (T10 i))):=⟨b17,r17⟩
 clear y0 y1
 have y0:=x17.cell 0
 have y1:=x17.cell 1
 simp at y0 y1
 clear b17 r17 x17 HMk K14
 go_wp2_with fail
 (with_reducible refine (HHd.out _ K17.out.2).mono ?_)
 rintro e w18 ⟨rfl,b18⟩
 have K18:Hid (Below wk.heap.size wk w18):=K17.out.1.trans (b18.mono K17.out.1.size)
 clear b18 HHd K17 y0 y1
 obtain ⟨x0,q0,q1,q2,q3⟩:=(K6.out.kpW K18.out).cells
 have kd:Hid (Below wk.heap.size wk w18.drew):=K18.out.drew
 have xz:w.heap.size<w18.heap.size:=by have:=(K6.out.kpW K18.out).size;omega
 have xy:w.heap.size+1<w18.heap.size:=by have:=(K6.out.kpW K18.out).size;omega
 have HKa:Hid (∀W,Below wk.heap.size wk W->∀O,Below wk.heap.size wk (W.alloc O)):=fun W k O=>k.alloc k.size _
 have HKd:Hid (∀W,Below wk.heap.size wk W->∀O,Below wk.heap.size wk (W.alloc O).drew):=fun W k O=>(k.alloc k.size _).drew
 go_wp2
 go_cut [12] from 60 to 64 (fun s12 wx=>LB wk okb mm M T p wx s12)
 case first=>
  go_region_with (first
   | (go_at_call 9;(first|(with_reducible refine (HTi2.out _ (K6.out.kpW kd.out)).mono ?_)|(with_reducible refine (HTi2.out _ (K6.out.kpW (HKa.out _ kd.out _))).mono ?_)|(with_reducible refine (HTi2.out _ (K6.out.kpW (HKd.out _ K18.out _))).mono ?_));rintro e w2 ⟨g2,R2,rfl,h2,r2,b2⟩;have r2:Hid (RdIx w2 (some ⟨g2,0,none⟩) n M T):=r2.ir.rd;(try (have bx:=bx.below b2;have blt:=bx.lt));(try (have bx:=(Bx.new _ #[.bool false,.slice none 0 0] 42).below b2;have hbo:=kd.out.size;have blt:=bx.lt));(try (have bx:=(Bx.new w18 #[.bool false,.slice none 0 0] 42).drew.below b2;have hbo:=K18.out.size;have blt:=bx.lt));(first|(have kd:Hid (Below wk.heap.size wk w2):=kd.out.trans (b2.mono kd.out.size))|(have kd:Hid (Below wk.heap.size wk w2):=(HKa.out _ kd.out _).trans (b2.mono (HKa.out _ kd.out _).size))|(have kd:Hid (Below wk.heap.size wk w2):=(HKd.out _ K18.out _).trans (b2.mono (HKd.out _ K18.out _).size)));clear b2 x0 q0 q1 q2 q3 xz xy;obtain ⟨x0,q0,q1,q2,q3⟩:=(K6.out.kpW kd.out).cells;have xz:w.heap.size<w2.heap.size:=(by have:=(K6.out.kpW kd.out).size;omega);have xy:w.heap.size+1<w2.heap.size:=(by have:=(K6.out.kpW kd.out).size;omega))
   | (go_at_call 10;(with_reducible refine (HTq.out _).mono ?_);rintro e w3 ⟨rfl,b3⟩;(try (first|(have r2:Hid (RdIx w3 (some ⟨g2,0,none⟩) n M T):=r2.out.below b3)|(have r2:Hid (RdIx w3 (some ⟨g2,0,none⟩) n M T):=(r2.out.below (below_alloc _ _)).below b3)));(try (have bx:=bx.below b3;have blt:=bx.lt));(try (have bx:=(Bx.new _ #[.bool false,.slice none 0 0] 42).below b3;have hbo:=kd.out.size;have blt:=bx.lt));(try (have bx:=(Bx.new w18 #[.bool false,.slice none 0 0] 42).drew.below b3;have hbo:=K18.out.size;have blt:=bx.lt));(first|(have kd:Hid (Below wk.heap.size wk w3):=kd.out.trans (b3.mono kd.out.size))|(have kd:Hid (Below wk.heap.size wk w3):=(HKa.out _ kd.out _).trans (b3.mono (HKa.out _ kd.out _).size))|(have kd:Hid (Below wk.heap.size wk w3):=(HKd.out _ K18.out _).trans (b3.mono (HKd.out _ K18.out _).size)));clear b3 x0 q0 q1 q2 q3 xz xy;obtain ⟨x0,q0,q1,q2,q3⟩:=(K6.out.kpW kd.out).cells;have xz:w.heap.size<w3.heap.size:=(by have:=(K6.out.kpW kd.out).size;omega);have xy:w.heap.size+1<w3.heap.size:=(by have:=(K6.out.kpW kd.out).size;omega))
   | (go_at_call 23;(first|(with_reducible refine (HIm3.out _ _ r2.out).mono ?_)|(with_reducible refine (HIm3.out _ _ (r2.out.below (below_alloc _ _))).mono ?_));rintro e w4 ⟨b4,a11,c11,M11,T11,us',lo',hi',rfl,row8,rel8⟩;have hkz:=kd.out.size;(try (have bx:=bx.below b4;have blt:=bx.lt));(try (have bx:=(Bx.new _ #[.bool false,.slice none 0 0] 42).below b4;have hbo:=kd.out.size;have blt:=bx.lt));(try (have bx:=(Bx.new w18 #[.bool false,.slice none 0 0] 42).drew.below b4;have hbo:=K18.out.size;have blt:=bx.lt));(first|(have kd:Hid (Below wk.heap.size wk w4):=kd.out.trans (b4.mono kd.out.size))|(have kd:Hid (Below wk.heap.size wk w4):=(HKa.out _ kd.out _).trans (b4.mono (HKa.out _ kd.out _).size))|(have kd:Hid (Below wk.heap.size wk w4):=(HKd.out _ K18.out _).trans (b4.mono (HKd.out _ K18.out _).size)));clear b4 x0 q0 q1 q2 q3 xz xy;obtain ⟨x0,q0,q1,q2,q3⟩:=(K6.out.kpW kd.out).cells;have xz:w.heap.size<w4.heap.size:=(by have:=(K6.out.kpW kd.out).size;omega);have xy:w.heap.size+1<w4.heap.size:=(by have:=(K6.out.kpW kd.out).size;omega);(try (have bc0:=bx.cell 0;have bc1:=bx.cell 1;have bf0:=bx.frozen 0;have bf1:=bx.frozen 1;simp at bc0 bc1)))
   | fail)
  all_goals
   go_wp2
   go_meet
   case rel=>first
    | (with_reducible refine (IB.new kd.out row8 ?_ rel8).lb;first|omega|(simp;omega))
    | (with_reducible refine (IB.late kd.out row8 ?_ rel8).lb;first|omega|(simp;omega))
    | (with_reducible refine (IB.set kd.out hbo bx row8 ?_ rel8).lb;first|omega|(simp;omega))
 case rest=>
 obtain ⟨wn,rfl⟩:∃x,x=wc:=⟨_,rfl⟩
 obtain ⟨b12,a12,c12,M12,T12,rfl,hbx12,hr12,rel12,hb12⟩:=hcut
 have HEq2:Hid (Calls Tryz.prog 19 #[.agg #[.bool okb,.slice a12 mm c12],.agg #[.bool okb,.slice a8 mm c8]] wn fun e w'=>e=.returned (.bool true)/\Below wn.heap.size wn w'):=by
  have hsm:=relI_small rel12 HMm.out HFt.out.1 HFt.out.2
  exact eqIndexRes_yes okb a12 a8 mm c12 c8 M12 T12 wn hr12 ((K6.out.q8W hb12).same (rel_agree HRel.out rel12)) hsm.2.2 hsm.1
 have K20:Hid (Kp w a n c p wn):=K6.out.kpW hb12
 clear x0 q0 q1 q2 q3 xz xy kd K18 HKa HKd
 have y0:=hbx12.cell 0
 have y1:=hbx12.cell 1
 simp at y0 y1
 obtain ⟨z0,z1⟩:=K6.out.at8 hb12
 clear hbx12 hr12 rel12 hb12
 go_wp2_with fail
 (with_reducible refine HEq2.out.mono ?_)
 rintro e w25 ⟨rfl,b25⟩
 have HZ:Hid (Below w.heap.size w w25):=(K20.out.next b25).below
 clear b25
 go_wp2
 go_ret
 exact ⟨rfl,HZ.out⟩
end Go.Proofs.YtcnollkkigiobaaGreat
