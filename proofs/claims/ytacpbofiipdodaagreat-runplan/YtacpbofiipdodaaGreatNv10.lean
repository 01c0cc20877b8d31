import Derived.Test.YtacpbofiipdodaaGreatNv9
import Derived.Test.YtacpbofiipdodaaGreatNv3
set_option linter.unusedVariables false
set_option linter.unusedSimpArgs false
set_option maxRecDepth 100000
set_option maxHeartbeats 90000000
namespace Go.Proofs.YtacpbofiipdodaaGreat
open Go Go.Deep Go.RowKit
theorem TE (g:Nat) (w:World) :
  WS 140 #[pt g] w (WT w (.agg #[pt g,.pointer (some (ad g 1)),.pointer (some (ad g 2)),.pointer (some (ad g 3))])):=by
 go_enter Tryz.func140,Tryz.ntmps140;go_wp2;go_region_held3 (λ_=>True) (go_keep) (fail)
 go_wp2;refine bodyPost_ret (v:=.agg #[pt g,.pointer (some (ad g 1)),.pointer (some (ad g 2)),.pointer (some (ad g 3))]) (by simp[results,Tryz.results140,go_sem]) rfl ⟨rfl,(Aa _ _).drew⟩
theorem TA (g:Nat) (w:World) :
  WS 141 #[pt g] w (WT w (.agg #[.pointer (some (ad g 1)),.pointer (some (ad g 2)),pt g,.pointer (some (ad g 3))])):=by
 go_enter Tryz.func141,Tryz.ntmps141;go_wp2;go_region_held3 (λ_=>True) (go_keep) (fail)
 go_wp2;refine bodyPost_ret (v:=.agg #[.pointer (some (ad g 1)),.pointer (some (ad g 2)),pt g,.pointer (some (ad g 3))]) (by simp[results,Tryz.results141,go_sem]) rfl ⟨rfl,(Aa _ _).drew⟩
theorem Tr (g:Nat) (w:World) :
  WS 142 #[pt g] w (WT w (.agg #[.pointer (some (ad g 2)),pt g,.pointer (some (ad g 1)),.pointer (some (ad g 3))])):=by
 go_enter Tryz.func142,Tryz.ntmps142;go_wp2;go_region_held3 (λ_=>True) (go_keep) (fail)
 go_wp2;refine bodyPost_ret (v:=.agg #[.pointer (some (ad g 2)),pt g,.pointer (some (ad g 1)),.pointer (some (ad g 3))]) (by simp[results,Tryz.results142,go_sem]) rfl ⟨rfl,(Aa _ _).drew⟩
theorem Tz (g:Nat) (w:World) :
  WS 143 #[pt g] w (WT w (.agg #[.pointer (some (ad g 3)),pt g,.pointer (some (ad g 1)),.pointer (some (ad g 2))])):=by
 go_enter Tryz.func143,Tryz.ntmps143;go_wp2;go_region_held3 (λ_=>True) (go_keep) (fail)
 go_wp2;refine bodyPost_ret (v:=.agg #[.pointer (some (ad g 3)),pt g,.pointer (some (ad g 1)),.pointer (some (ad g 2))]) (by simp[results,Tryz.results143,go_sem]) rfl ⟨rfl,(Aa _ _).drew⟩
theorem Tl (g:Nat) (w:World) :
  WS 144 #[pt g] w (WT w (.agg #[.pointer (some (ad g 3)),.pointer (some (ad g 1)),.pointer (some (ad g 2)),pt g])):=by
 go_enter Tryz.func144,Tryz.ntmps144;go_wp2;go_region_held3 (λ_=>True) (go_keep) (fail)
 go_wp2;refine bodyPost_ret (v:=.agg #[.pointer (some (ad g 3)),.pointer (some (ad g 1)),.pointer (some (ad g 2)),pt g]) (by simp[results,Tryz.results144,go_sem]) rfl ⟨rfl,(Aa _ _).drew⟩
theorem Ts (g:Nat) (w:World) :
  WS 145 #[pt g] w (WT w (.agg #[.pointer (some (ad g 3)),.pointer (some (ad g 2)),pt g,.pointer (some (ad g 1))])):=by
 go_enter Tryz.func145,Tryz.ntmps145;go_wp2;go_region_held3 (λ_=>True) (go_keep) (fail)
 go_wp2;refine bodyPost_ret (v:=.agg #[.pointer (some (ad g 3)),.pointer (some (ad g 2)),pt g,.pointer (some (ad g 1))]) (by simp[results,Tryz.results145,go_sem]) rfl ⟨rfl,(Aa _ _).drew⟩
variable {A B:Array Value}{b o o':Nat}{t:TypeId}{u:Value}{w w':World}
theorem CD (h:w.heap[b]?=some (.cells A t)) (o:Nat):w.cell? (ad b o)=A[o]?:=by simp[World.cell?,h]
theorem LA (h:w.heap[b]?=some (.cells A t)) (o:Nat):w.frozen? (ad b o)=false:=by simp[World.frozen?,h]
theorem VN {w2:World} {C:Array Value} (hb:Below (w.heap.size+3) (((w.alloc (.cells A t)).alloc (.cells B t)).alloc (.cells C t)) w2) :
  (∀o,w2.cell? (ad w.heap.size o)=A[o]?)/\(∀o,w2.cell? (ad (w.heap.size+1) o)=B[o]?)/\(∀o,w2.cell? (ad (w.heap.size+1+1) o)=C[o]?)/\
  (∀o,w2.frozen? (ad (w.heap.size+1) o)=false)/\(∀o,w2.frozen? (ad (w.heap.size+1+1) o)=false)/\w.heap.size+3<=w2.heap.size/\Bl w w2:=by
 have e1:(w.alloc (.cells A t)).heap.size=w.heap.size+1:=by simp
 have e2:((w.alloc (.cells A t)).alloc (.cells B t)).heap.size=w.heap.size+1+1:=by simp
 have b0:=blk_alloc_new w (.cells A t);have b1:=blk_alloc_new (w.alloc (.cells A t)) (.cells B t);have b2:=blk_alloc_new ((w.alloc (.cells A t)).alloc (.cells B t)) (.cells C t);rw[e1] at b1;rw[e2] at b2;have g0:=(hb.block w.heap.size (by omega)).trans (((Aa _ _).block w.heap.size (by omega)).trans (((Aa _ _).block w.heap.size (by omega)).trans b0));have g1:=(hb.block (w.heap.size+1) (by omega)).trans (((Aa _ _).block (w.heap.size+1) (by omega)).trans b1);have g2:=(hb.block (w.heap.size+1+1) (by omega)).trans b2;exact⟨CD g0,CD g1,CD g2,LA g1,LA g2,by have:=hb.size;simp at this;omega,((((Aa _ _).alloc (by simp) _).alloc (by simp;omega) _)).trans (hb.mono (by omega))⟩
theorem VM :
  (∀o,((w.alloc (.cells A t)).alloc (.cells B t)).cell? (ad w.heap.size o)=A[o]?)/\(∀o,((w.alloc (.cells A t)).alloc (.cells B t)).cell? (ad (w.heap.size+1) o)=B[o]?)/\
  (∀b o,b<w.heap.size->((w.alloc (.cells A t)).alloc (.cells B t)).cell? (ad b o)=w.cell? (ad b o))/\(∀b o,b<w.heap.size->((w.alloc (.cells A t)).alloc (.cells B t)).frozen? (ad b o)=w.frozen? (ad b o))/\True:=by
 have e1:(w.alloc (.cells A t)).heap.size=w.heap.size+1:=by simp
 have b0:=blk_alloc_new w (.cells A t);have b1:=blk_alloc_new (w.alloc (.cells A t)) (.cells B t);rw[e1] at b1;have g0:=((Aa (w.alloc (.cells A t)) (.cells B t)).block w.heap.size (by omega)).trans b0;have q:Bl w ((w.alloc (.cells A t)).alloc (.cells B t)):=(Aa _ _).alloc (by simp) _;exact⟨CD g0,CD b1,λb o h=>q.cell (p:=(ad b o)) h,λb o h=>q.frozen (p:=(ad b o)) h,trivial⟩
theorem Eb {b':Nat} {v:Value} (h:¬ b=b') (hc:w.cell? (ad b' o')=some u):(w.setCell (ad b o) v).drew.cell? (ad b' o')=some u:=(World.cell?_setCell_far w (ad b o) (ad b' o') v h).trans hc
theorem SK {v:Value} (h:¬ o=o') (hc:w.cell? (ad b o')=some u):(w.setCell (ad b o) v).drew.cell? (ad b o')=some u:=(World.cell?_setCell_other (w:=w) (v:=v) (a:=(ad b o)) (b:=(ad b o')) (by intro e;cases e;exact h rfl)).trans hc
theorem Vk {v:Value} (hc:w.cell? (ad b o)=some u):(w.setCell (ad b o) v).drew.cell? (ad b o)=some v:=World.cell?_setCell_same' w (ad b o) v (by rw[hc];rfl)
theorem bA {o:Obj} (h:Bl w w'):Bl w (w'.alloc o):=h.alloc h.size o
theorem bS {v:Value} (hb:w.heap.size<=b) (h:Bl w w'):Bl w (w'.setCell (ad b o) v):=h.setCell hb v
theorem bD (h:Bl w w'):Bl w w'.drew:=h.drew
variable {x:Nat->Int}
def Ar (a b c d:Int) (i:Nat):Int:=if i=0 then a else if i=1 then b else if i=2 then c else d
theorem Ir (a b c d:Int) (i:Nat) (hi:i<4) (w:World) :
  WS 70 #[.agg #[iv a,iv b,iv c,iv d],iv i] w λe w'=>e=.returned (iv (Ar a b c d i))/\Below w.heap.size w w':=by
 have h:i=0\/i=1\/i=2\/i=3:=by omega
 rcases h with rfl|rfl|rfl|rfl;all_goals
  go_enter Tryz.func70,Tryz.ntmps70
  go_wp2
  go_ret
  exact⟨rfl,Aa _ _⟩
def Fi (w:World) (q:Nat->Nat) (e:Ending) (w' : World):Prop:=∃g,e=.returned (.slice (some (ad g 0)) 4 4)/\w.heap.size<=g/\Ai w' g 3 4 (λi=>iv (q i))/\Below w.heap.size w w'
def PI (i:Nat):Nat:=if i=0 then 0 else if i=1 then 1 else if i=2 then 2 else 3
theorem Ph (w:World):WS 114 #[iv 0] w (Fi w PI):=by
 go_enter Tryz.func114,Tryz.ntmps114;go_wp2;go_ret;refine⟨_,rfl,Wu _,⟨_,blk_alloc_new _ _,by simp,λi hi=>?_⟩,Aa _ _⟩;match i,hi with
 | 0,_=>rfl
 | 1,_=>rfl
 | 2,_=>rfl
 | 3,_=>rfl
def Ot (i:Nat):Nat:=if i=0 then 1 else if i=1 then 2 else if i=2 then 0 else 3
theorem Pb (w:World):WS 114 #[iv 1] w (Fi w Ot):=by
 go_enter Tryz.func114,Tryz.ntmps114;go_wp2;go_ret;refine⟨_,rfl,Wu _,⟨_,blk_alloc_new _ _,by simp,λi hi=>?_⟩,Aa _ _⟩;match i,hi with
 | 0,_=>rfl
 | 1,_=>rfl
 | 2,_=>rfl
 | 3,_=>rfl
def OG (i:Nat):Nat:=if i=0 then 2 else if i=1 then 0 else if i=2 then 1 else 3
theorem Pu (w:World):WS 114 #[iv 2] w (Fi w OG):=by
 go_enter Tryz.func114,Tryz.ntmps114;go_wp2;go_ret;refine⟨_,rfl,Wu _,⟨_,blk_alloc_new _ _,by simp,λi hi=>?_⟩,Aa _ _⟩;match i,hi with
 | 0,_=>rfl
 | 1,_=>rfl
 | 2,_=>rfl
 | 3,_=>rfl
def Pq (i:Nat):Nat:=if i=0 then 3 else if i=1 then 0 else if i=2 then 1 else 2
theorem Ov (w:World):WS 114 #[iv 3] w (Fi w Pq):=by
 go_enter Tryz.func114,Tryz.ntmps114;go_wp2;go_ret;refine⟨_,rfl,Wu _,⟨_,blk_alloc_new _ _,by simp,λi hi=>?_⟩,Aa _ _⟩;match i,hi with
 | 0,_=>rfl
 | 1,_=>rfl
 | 2,_=>rfl
 | 3,_=>rfl
def OZ (i:Nat):Nat:=if i=0 then 3 else if i=1 then 1 else if i=2 then 2 else 0
theorem O5 (w:World):WS 114 #[iv 4] w (Fi w OZ):=by
 go_enter Tryz.func114,Tryz.ntmps114;go_wp2;go_ret;refine⟨_,rfl,Wu _,⟨_,blk_alloc_new _ _,by simp,λi hi=>?_⟩,Aa _ _⟩;match i,hi with
 | 0,_=>rfl
 | 1,_=>rfl
 | 2,_=>rfl
 | 3,_=>rfl
def ON (i:Nat):Nat:=if i=0 then 3 else if i=1 then 2 else if i=2 then 0 else 1
theorem Pw (w:World):WS 114 #[iv 5] w (Fi w ON):=by
 go_enter Tryz.func114,Tryz.ntmps114;go_wp2;go_ret;refine⟨_,rfl,Wu _,⟨_,blk_alloc_new _ _,by simp,λi hi=>?_⟩,Aa _ _⟩;match i,hi with
 | 0,_=>rfl
 | 1,_=>rfl
 | 2,_=>rfl
 | 3,_=>rfl
def BC (x:Nat->Int) (k:Nat):Prop:=∀q,q<k->(0<=x q/\x q<=2000000000)/\∀r,r<q->x r=0->x q=0
def Cs (x:Nat->Int):Nat->Bool
 | 0=>false
 | k+1=>Cs x k || x k == 0
theorem Il (x:Nat->Int) (k:Nat):Cs x k=true↔∃r,r<k/\x r=0:=by
 induction k with
 | zero=>simp[Cs]
 | succ k ih=>
  simp only[Cs,Bool.or_eq_true,ih,beq_iff_eq];constructor
  .rintro (⟨r,h,e⟩|e);.exact⟨r,by omega,e⟩
   .exact⟨k,by omega,e⟩
  .rintro⟨r,h,e⟩;by_cases hr:r=k;.subst hr;exact .inr e
   .exact .inl ⟨r,by omega,e⟩
theorem O4 {k:Nat} (h:BC x k) (h1:0<=x k) (h2:x k<=2000000000) (h3:Cs x k=true->x k<=0):BC x (k+1):=by
 intro q hq;by_cases e:q=k;.subst e;refine⟨⟨h1,h2⟩,λr hr e=>?_⟩;have:=h3 ((Il x q).2 ⟨r,hr,e⟩);omega
 .exact h q (by omega)
def Cm (x:Nat->Int):Bool:=(List.range 4).all λq=>decide (0<=x q/\x q<=2000000000) && (List.range q).all λr=>decide (x r=0->x q=0)
theorem C9 (x:Nat->Int):Cm x=true↔BC x 4:=by unfold Cm BC;simp only[List.all_eq_true,List.mem_range,Bool.and_eq_true,decide_eq_true_eq]
theorem Qj {k:Nat} (hk:k<4) (h:¬ ((0<=x k/\x k<=2000000000)/\(Cs x k=true->x k<=0))):Cm x=false:=by
 cases hc:Cm x with
 | false=>rfl
 | true=>have o:=(C9 x).1 hc k hk;refine absurd ⟨o.1,λf=>?_⟩ h;obtain⟨r,hr,e⟩:=(Il x k).1 f;have:=o.2 r hr e;omega
theorem BL (perm:Int) (h0:0<=perm) (h5:perm<=5) (a b c d:Int) (q:Nat->Nat) (hq:∀i,i<4->q i<4) (HO:∀w,WS 114 #[iv perm] w (Fi w q)) (w:World) :
  WS 115 #[iv perm,.agg #[iv a,iv b,iv c,iv d]] w λe w'=>e=.returned (.bool (Cm λi=>Ar a b c d (q i)))/\Below w.heap.size w w':=by
 have H:=hid HO;clear HO;go_enter Tryz.func115,Tryz.ntmps115;go_wp2_with fail
 refine (H.o _).mono ?_;rintro e w1 ⟨g,rfl,hg,hrow,hb1⟩;rw[WJ] at hg hb1;have p0:=(hb1.cell (p:=(ad w.heap.size 0)) (by show w.heap.size<w.heap.size+1;omega)).trans (CD (blk_alloc_new _ _) 0);have p1:=(hb1.cell (p:=(ad w.heap.size 1)) (by show w.heap.size<w.heap.size+1;omega)).trans (CD (blk_alloc_new _ _) 1);have p2:=(hb1.cell (p:=(ad w.heap.size 2)) (by show w.heap.size<w.heap.size+1;omega)).trans (CD (blk_alloc_new _ _) 2);have p3:=(hb1.cell (p:=(ad w.heap.size 3)) (by show w.heap.size<w.heap.size+1;omega)).trans (CD (blk_alloc_new _ _) 3);have HS:U (w.heap.size<w1.heap.size/\Ai w1 g 3 4 (λi=>iv (q i))/\(w1.cell? (ad w.heap.size 0)=some (iv a)/\w1.cell? (ad w.heap.size 1)=some (iv b)/\w1.cell? (ad w.heap.size 2)=some (iv c)/\w1.cell? (ad w.heap.size 3)=some (iv d))/\Below w.heap.size w w1):=⟨by have:=hb1.size;simp at this;omega,hrow,⟨p0,p1,p2,p3⟩,(Aa _ _).trans (hb1.mono (by omega))⟩;clear hrow p0 p1 p2 p3 hb1;go_wp2;go_loopw [6,7,8] (λfr i _ wr=>∃k:Nat,k<=4/\i=iv k/\fr=.bool (Cs (λi=>Ar a b c d (q i)) k)/\BC (λi=>Ar a b c d (q i)) k/\Below w1.heap.size w1 wr) (λ_ i _ _=>4-(intOf i).toNat)
 case atStart=>exact⟨0,by omega,rfl,rfl,λ_ h=>absurd h (Wy _),Wt _ _⟩
 case round=>
  obtain⟨k,hk,rfl,rfl,hok,hb⟩:=hrel;have HB:=hid (HS.o.2.2.2.trans (hb.mono (by have:=HS.o.1;omega)));have HOK:=hid hok;have HB1:=hid hb;by_cases hlt:k<4
  .obtain⟨zz,hrow,⟨p0',p1',p2',p3'⟩,bel⟩:=HS.o;have p0:=(hb.cell (p:=(ad w.heap.size 0)) zz).trans p0';have p1:=(hb.cell (p:=(ad w.heap.size 1)) zz).trans p1';have p2:=(hb.cell (p:=(ad w.heap.size 2)) zz).trans p2';have p3:=(hb.cell (p:=(ad w.heap.size 3)) zz).trans p3';have oc:=(hb.cell (p:=(ad g k)) hrow.lt).trans (hrow.cell hlt);clear p0' p1' p2' p3' bel hrow hok hb;generalize hX:Ar a b c d (q k)=X;have HX:=hid hX;have HP:U (∀wz,WS 70 #[.agg #[iv a,iv b,iv c,iv d],iv (q k)] wz λe w'=>e=.returned (iv X)/\Below wz.heap.size wz w'):=λwz=>by rw[<- HX.o];exact Ir a b c d (q k) (hq k hlt) wz
   clear hX;have hki:(k:Int)<4:=by omega
   have hk0:(0:Int)<=k:=by omega
   have HC:U (∀w2:World,Below wr.drew.heap.size wr.drew w2->w2.cell? (ad w.heap.size 0)=some (iv a)/\w2.cell? (ad w.heap.size 1)=some (iv b)/\w2.cell? (ad w.heap.size 2)=some (iv c)/\w2.cell? (ad w.heap.size 3)=some (iv d)/\w2.cell? (ad g k)=some (iv (q k))):=λw2 h2=>⟨(h2.cell (p:=(ad w.heap.size 0)) (Ws _ _ p0)).trans p0,(h2.cell (p:=(ad w.heap.size 1)) (Ws _ _ p1)).trans p1,(h2.cell (p:=(ad w.heap.size 2)) (Ws _ _ p2)).trans p2,(h2.cell (p:=(ad w.heap.size 3)) (Ws _ _ p3)).trans p3,(h2.cell (p:=(ad g k)) (Ws _ _ oc)).trans oc⟩
   go_wp2;go_region_held3 (λw'=>w'.cell? (ad w.heap.size 0)=some (iv a)/\w'.cell? (ad w.heap.size 1)=some (iv b)/\w'.cell? (ad w.heap.size 2)=some (iv c)/\w'.cell? (ad w.heap.size 3)=some (iv d)/\w'.cell? (ad g k)=some (iv (q k))) (go_keep)
    (first
    | (go_at_call 70;refine (HP.o wr.drew).mono ?_;rintro e w2 ⟨rfl,hb2⟩;obtain⟨y0,y1,y2,y3,y4⟩:=HC.o w2 hb2))
   have HB2:U (Below w.heap.size w w2):=HB.o.drew.trans (hb2.mono HB.o.size);have HB3:U (Below w1.heap.size w1 w2):=HB1.o.drew.trans (hb2.mono HB1.o.size);clear HC hb2 y0 y1 y2 y3 y4 p0 p1 p2 p3 oc;have bad:∀_:¬ ((0<=X/\X<=2000000000)/\(Cs (λi=>Ar a b c d (q i)) k=true->X<=0)),U (Cm (λi=>Ar a b c d (q i))=false):=λh=>Qj hlt (by show ¬ ((0<=Ar a b c d (q k)/\Ar a b c d (q k)<=2000000000)/\(Cs (λi=>Ar a b c d (q i)) k=true->Ar a b c d (q k)<=0));rw[HX.o];exact h);rcases Int.lt_or_le X 0 with h1|h1;.have hbad:=bad (by omega);clear bad;go_wp2;go_ret;exact⟨by rw[hbad.o];rfl,HB2.o⟩
   rcases Int.lt_or_le 2000000000 X with h2|h2;.have hbad:=bad (by omega);clear bad;go_wp2;go_ret;exact⟨by rw[hbad.o];rfl,HB2.o⟩
   have GO:∀_:(Cs (λi=>Ar a b c d (q i)) k=true->X<=0),U (BC (λi=>Ar a b c d (q i)) (k+1)):=λh=>O4 HOK.o (by show 0<=Ar a b c d (q k);rw[HX.o];omega) (by show Ar a b c d (q k)<=2000000000;rw[HX.o];omega) (by show _->Ar a b c d (q k)<=0;rw[HX.o];exact h);have Zf:U (Cs (λi=>Ar a b c d (q i)) (k+1)=(Cs (λi=>Ar a b c d (q i)) k || X == 0)):=by show _=_;rw[<- HX.o];rfl
   cases hf:Cs (λi=>Ar a b c d (q i)) k with
   | true=>
    by_cases h3:0<X;.have hbad:=bad (by intro h;have:=h.2 hf;omega);clear bad GO Zf;go_wp2;go_ret;exact⟨by rw[hbad.o];rfl,HB2.o⟩
    .have hg:=GO (λ_=>by omega);rw[hf] at Zf;clear bad GO;go_wp2;go_roundw;case rel=>exact⟨k+1,by omega,by go_num,by rw[Zf.o];rfl,hg.o,HB3.o⟩
     case measure=>simp[intOf];omega
   | false=>
    have hg:=GO (λh=>by rw[hf] at h;cases h);rw[hf] at Zf;clear bad GO;go_wp2;go_roundw;case rel=>exact⟨k+1,by omega,by go_num,by rw[Zf.o];rfl,hg.o,HB3.o⟩
    case measure=>simp[intOf];omega
  .have e4:k=4:=by omega
   subst e4;clear hb hok;go_wp2;go_ret;refine⟨?_,HB.o⟩;rw[(C9 _).2 HOK.o];rfl
theorem Tw (w:World):(Instr.index 250 (.agg #[.func (.func 140) #[] #[],.func (.func 141) #[] #[],.func (.func 142) #[] #[],.func (.func 143) #[] #[],.func (.func 144) #[] #[],.func (.func 145) #[] #[]]) (iv 0)).run Tryz.prog w=.ok (.func (.func 140) #[] #[]) w:=by simp[Instr.index,go_sem]
theorem Tk (w:World):(Instr.index 250 (.agg #[.func (.func 140) #[] #[],.func (.func 141) #[] #[],.func (.func 142) #[] #[],.func (.func 143) #[] #[],.func (.func 144) #[] #[],.func (.func 145) #[] #[]]) (iv 1)).run Tryz.prog w=.ok (.func (.func 141) #[] #[]) w:=by simp[Instr.index,go_sem]
theorem Tx (w:World):(Instr.index 250 (.agg #[.func (.func 140) #[] #[],.func (.func 141) #[] #[],.func (.func 142) #[] #[],.func (.func 143) #[] #[],.func (.func 144) #[] #[],.func (.func 145) #[] #[]]) (iv 2)).run Tryz.prog w=.ok (.func (.func 142) #[] #[]) w:=by simp[Instr.index,go_sem]
theorem Tv (w:World):(Instr.index 250 (.agg #[.func (.func 140) #[] #[],.func (.func 141) #[] #[],.func (.func 142) #[] #[],.func (.func 143) #[] #[],.func (.func 144) #[] #[],.func (.func 145) #[] #[]]) (iv 3)).run Tryz.prog w=.ok (.func (.func 143) #[] #[]) w:=by simp[Instr.index,go_sem]
theorem TB (w:World):(Instr.index 250 (.agg #[.func (.func 140) #[] #[],.func (.func 141) #[] #[],.func (.func 142) #[] #[],.func (.func 143) #[] #[],.func (.func 144) #[] #[],.func (.func 145) #[] #[]]) (iv 4)).run Tryz.prog w=.ok (.func (.func 144) #[] #[]) w:=by simp[Instr.index,go_sem]
theorem TC (w:World):(Instr.index 250 (.agg #[.func (.func 140) #[] #[],.func (.func 141) #[] #[],.func (.func 142) #[] #[],.func (.func 143) #[] #[],.func (.func 144) #[] #[],.func (.func 145) #[] #[]]) (iv 5)).run Tryz.prog w=.ok (.func (.func 145) #[] #[]) w:=by simp[Instr.index,go_sem]
theorem SV:(Tryz.prog.fieldsOf 140).toList=[{ name := "S",type:=2,offset:=0,embedded:=false,tag := "",pkgPath := "",byteOffset:=0 },{ name := "P",type:=2,offset:=1,embedded:=false,tag := "",pkgPath := "",byteOffset:=8 },{ name := "O",type:=2,offset:=2,embedded:=false,tag := "",pkgPath := "",byteOffset:=16 },{ name := "G",type:=2,offset:=3,embedded:=false,tag := "",pkgPath := "",byteOffset:=24 }]:=by kernel_rfl
theorem VK (a b c d a' b' c' d' : Int) (w:World):(Op.equalIn 10000 140 (.agg #[iv a,iv b,iv c,iv d]) (.agg #[iv a',iv b',iv c',iv d'])).run Tryz.prog w=.ok (a == a' && (b == b' && (c == c' && d == d'))) w:=by rw[show (10000:Nat)=9999+1 from rfl,run_equalIn_struct (P:=Tryz.prog) w 9999 140 _ _ (by kernel_rfl) (by kernel_rfl),SV];simp[Op.eqFields,go_sem];by_cases h1:a=a' <;> by_cases h2:b=b' <;> by_cases h3:c=c' <;> by_cases h4:d=d' <;> simp[h1,h2,h3,h4]
variable {P:Nat->Int}{m:Nat}{o:Nat->Nat}
def E7 (P:Nat->Int) (ps:Nat->Nat) (m j:Nat):Int:=if ps j<m then P j else 0
def Gw (P:Nat->Int) (o:Nat->Nat):Nat:=if P (o 0)=0 then 0 else if P (o 1)=0 then 1 else if P (o 2)=0 then 2 else if P (o 3)=0 then 3 else 4
theorem ED (hm:m<4) (h:∀i,i<m->P (o i)≠0) (h0:P (o m)=0):Gw P o=m:=by
 unfold Gw;rcases (show m=0\/m=1\/m=2\/m=3 by omega) with rfl|rfl|rfl|rfl;.rw[if_pos h0]
 .rw[if_neg (h 0 (by omega)),if_pos h0]
 .rw[if_neg (h 0 (by omega)),if_neg (h 1 (by omega)),if_pos h0]
 .rw[if_neg (h 0 (by omega)),if_neg (h 1 (by omega)),if_neg (h 2 (by omega)),if_pos h0]
theorem NW (h:∀i,i<4->P (o i)≠0):Gw P o=4:=by unfold Gw;rw[if_neg (h 0 (by omega)),if_neg (h 1 (by omega)),if_neg (h 2 (by omega)),if_neg (h 3 (by omega))]
theorem Bg {Q:Nat->Prop} (h0:Q 0) (h1:Q 1) (h2:Q 2) (h3:Q 3):∀i,i<4->Q i:=λi hi=>by
 rcases (show i=0\/i=1\/i=2\/i=3 by omega) with rfl|rfl|rfl|rfl <;> assumption
structure UX (w w2 W:World) (P:Nat->Int) (o ps:Nat->Nat) (m:Nat):Prop where
 nz:∀i,i<m->P (o i)≠0
 ld:∀j,j<4->W.cell? (ad (w.heap.size+1+1) j)=some (iv (E7 P ps m j))
 pt:∀j,j<4->W.cell? (ad w.heap.size j)=some (iv (P j))
 fr:∀i,i<4->W.cell? (ad w2.heap.size i)=some (.pointer (some (ad w.heap.size (o i))))
 tt:∀i,i<4->W.cell? (ad (w2.heap.size+1) i)=some (.pointer (some (ad (w.heap.size+1+1) (o i))))
 rs:∀j,j<4->W.cell? (ad (w.heap.size+1) j)=some (iv 0)
 f1:∀j,W.frozen? (ad (w.heap.size+1) j)=false
 f2:∀j,W.frozen? (ad (w.heap.size+1+1) j)=false
 z3:w.heap.size+3<=w2.heap.size
 zw:w2.heap.size+2<=W.heap.size
 bel:Below w.heap.size w W
theorem UX.step {w w2 W:World} {ps:Nat->Nat} (h:UX w w2 W P o ps m) (hm:m<4) (ho:∀i,i<4->o i<4/\ps (o i)=i) (hp:∀j,j<4->ps j<4/\o (ps j)=j) (hx:P (o m)≠0) :
  UX w w2 ((W.setCell (ad (w.heap.size+1+1) (o m)) (iv (P (o m)))).drew) P o ps (m+1):=by
 have z3:=h.z3;refine⟨λi hi=>?_,λj hj=>?_,λj hj=>Eb (by omega) (h.pt j hj),λi hi=>Eb (by omega) (h.fr i hi),λi hi=>Eb (by omega) (h.tt i hi),λj hj=>Eb (by omega) (h.rs j hj),λj=>by simpa using h.f1 j,λj=>by simpa using h.f2 j,h.z3,by simpa using h.zw,bD (bS (by omega) h.bel)⟩
 .by_cases e:i=m;.rw[e];exact hx
  .exact h.nz i (by omega)
 .by_cases e:j=o m;.rw[e,show E7 P ps (m+1) (o m)=P (o m) by unfold E7;rw[(ho m hm).2,if_pos (by omega)]];exact Vk (h.ld (o m) (ho m hm).1)
  .have hne:ps j≠m:=λq=>e (by rw[<- q];exact ((hp j hj).2).symm);have e2:E7 P ps (m+1) j=E7 P ps m j:=by
    unfold E7;by_cases q:ps j<m;.rw[if_pos q,if_pos (by omega)]
    .rw[if_neg q,if_neg (by omega)]
   rw[e2];exact SK (λq=>e q.symm) (h.ld j hj)
theorem Un (F:Nat) (o ps:Nat->Nat) (P:Nat->Int) (w:World) (ho:∀i,i<4->o i<4/\ps (o i)=i) (hp:∀j,j<4->ps j<4/\o (ps j)=j)
  (heg:∀args W,(callFunc F args).run Tryz.prog W=.ok (.enter F args) W)
  (hlay:∀(g:Nat) (W:World),WS F #[pt g] W λe w'=>e=.returned (.agg #[.pointer (some (ad g (o 0))),.pointer (some (ad g (o 1))),.pointer (some (ad g (o 2))),.pointer (some (ad g (o 3)))])/\Below W.heap.size W w') :
  WS 148 #[.func (.func F) #[] #[],.agg #[iv (P 0),iv (P 1),iv (P 2),iv (P 3)]] w λe w'=>e=.returned (.agg #[iv (E7 P ps (Gw P o) 0),iv (E7 P ps (Gw P o) 1),iv (E7 P ps (Gw P o) 2),iv (E7 P ps (Gw P o) 3)])/\Below w.heap.size w w':=by
 have HLY:=hid hlay;have HOP:=hid (ai ho hp);clear hlay ho hp;go_enter Tryz.func148,Tryz.ntmps148;go_wp2_with fail
 (with_reducible refine (HLY.o _ _).mono ?_)
 rintro e w1 ⟨rfl,hb1⟩;go_wp2_with fail
 (with_reducible refine (HLY.o _ _).mono ?_)
 rintro e w2 ⟨rfl,hb2⟩;simp only[WJ] at hb1;obtain⟨cA,cB,cC,f1,f2,z2,bel⟩:=VN (hb1.trans (hb2.mono (by have:=hb1.size;simp at this;omega)));clear hb1 hb2;have HS:=hid (ai cA (ai cB (ai cC (ai f1 (ai f2 bel)))));clear cA cB cC f1 f2 bel;go_wp2;go_loopw [8] (λi wr=>∃m:Nat,m<=4/\i=iv m/\UX w w2 wr P o ps m) (λi _=>4-(intOf i).toNat)
 case atStart=>
  obtain⟨cA,cB,cC,f1,f2,bel⟩:=HS.o;have q:=VM (w:=w2) (A:=#[.pointer (some (ad w.heap.size (o 0))),.pointer (some (ad w.heap.size (o 1))),.pointer (some (ad w.heap.size (o 2))),.pointer (some (ad w.heap.size (o 3)))]) (B:=#[.pointer (some (ad (w.heap.size+1+1) (o 0))),.pointer (some (ad (w.heap.size+1+1) (o 1))),.pointer (some (ad (w.heap.size+1+1) (o 2))),.pointer (some (ad (w.heap.size+1+1) (o 3)))]) (t:=273);refine⟨0,Ww _,rfl,λi hi=>absurd hi (Wy _),Bg ?_ ?_ ?_ ?_,Bg ?_ ?_ ?_ ?_,Bg (q.1 0) (q.1 1) (q.1 2) (q.1 3),Bg (q.2.1 0) (q.2.1 1) (q.2.1 2) (q.2.1 3),Bg ?_ ?_ ?_ ?_,λj=>(q.2.2.2.1 _ _ (by omega)).trans (f1 j),λj=>(q.2.2.2.1 _ _ (by omega)).trans (f2 j),z2,by simp,bA (bA bel)⟩;.exact (q.2.2.1 _ _ (by omega)).trans (cC 0)
  .exact (q.2.2.1 _ _ (by omega)).trans (cC 1)
  .exact (q.2.2.1 _ _ (by omega)).trans (cC 2)
  .exact (q.2.2.1 _ _ (by omega)).trans (cC 3)
  .exact (q.2.2.1 _ _ (by omega)).trans (cA 0)
  .exact (q.2.2.1 _ _ (by omega)).trans (cA 1)
  .exact (q.2.2.1 _ _ (by omega)).trans (cA 2)
  .exact (q.2.2.1 _ _ (by omega)).trans (cA 3)
  .exact (q.2.2.1 _ _ (by omega)).trans (cB 0)
  .exact (q.2.2.1 _ _ (by omega)).trans (cB 1)
  .exact (q.2.2.1 _ _ (by omega)).trans (cB 2)
  .exact (q.2.2.1 _ _ (by omega)).trans (cB 3)
 case round=>
  clear HS;obtain⟨m,hm,rfl,hst⟩:=hrel;have HL:=hid hst;have l0:=hst.ld 0 (by omega);have l1:=hst.ld 1 (by omega);have l2:=hst.ld 2 (by omega);have l3:=hst.ld 3 (by omega);have r0:=hst.rs 0 (by omega);have r1:=hst.rs 1 (by omega);have r2:=hst.rs 2 (by omega);have r3:=hst.rs 3 (by omega);have f1:=hst.f1;have f2:=hst.f2;have zz:=hst.zw;have z3:=hst.z3;clear hst;have g1:w.heap.size+1<wr.heap.size:=by omega
  have g2:w.heap.size+1+1<wr.heap.size:=by omega
  have HRes:U (∀W:World,Gw P o=m->Below w.heap.size w W->(Ending.returned (.agg #[iv (E7 P ps m 0),iv (E7 P ps m 1),iv (E7 P ps m 2),iv (E7 P ps m 3)])=.returned (.agg #[iv (E7 P ps (Gw P o) 0),iv (E7 P ps (Gw P o) 1),iv (E7 P ps (Gw P o) 2),iv (E7 P ps (Gw P o) 3)])/\Below w.heap.size w W)):=λW e hW=>by rw[e];exact⟨rfl,hW⟩
  by_cases hlt:m<4
  .have i0:(0:Int)<=(m:Int):=by omega
   have i1:(m:Int)<4:=by omega
   have fm:=HL.o.fr m hlt;have tm:=HL.o.tt m hlt;have om:=(HOP.o.1 m hlt).1;have cm:=HL.o.pt (o m) om;have lm:=HL.o.ld (o m) om;obtain⟨x,hx⟩:=gn (P (o m));rw[<- hx] at cm;obtain⟨om',hom⟩:=gn (o m);rw[<- hom] at fm tm cm lm om;have HX:=hid (ai hx hom);clear hx hom;by_cases hx0:x=0
   .have hxb:(x != 0)=false:=by simp[hx0]
    have hxe:(x == 0)=true:=by simp[hx0]
    have HN:=hid (ED hlt HL.o.nz (by rw[<- HX.o.1];exact hx0));go_wp2;refine bodyPost_ret (v:=.agg #[iv (E7 P ps m 0),iv (E7 P ps m 1),iv (E7 P ps m 2),iv (E7 P ps m 3)]) (by simp[results,Tryz.results148,go_sem,r0,r1,r2,r3]) rfl (HRes.o _ HN.o ?_);have HB:=HL.o.bel;repeat (first|refine bA ?_|refine bS (by omega) ?_|refine bD ?_)
    exact HB
   .have hxb:(x != 0)=true:=by simp[hx0]
    have hxe:(x == 0)=false:=by simp[hx0]
    have n1:¬ (w.heap.size+1+1=w2.heap.size):=by omega
    have n2:¬ (w.heap.size+1+1=w2.heap.size+1):=by omega
    have HNX:U (UX w w2 ((wr.setCell (ad (w.heap.size+1+1) om') (iv x)).drew) P o ps (m+1)):=by rw[HX.o.1,HX.o.2];exact HL.o.step hlt HOP.o.1 HOP.o.2 (by rw[<- HX.o.1];exact hx0)
    go_wp2;go_region_held3 (λw'=>w'.cell? (ad w2.heap.size m)=some (.pointer (some (ad w.heap.size om')))/\w'.cell? (ad (w2.heap.size+1) m)=some (.pointer (some (ad (w.heap.size+1+1) om')))/\w'.cell? (ad w.heap.size om')=some (iv x)) (first|exact⟨Eb n1 fm,Eb n2 tm,Eb (by omega) cm⟩|go_keep) (fail)
    go_wp2;go_roundw;case rel=>exact⟨m+1,by omega,by go_num,HNX.o⟩
    case measure=>simp[intOf];omega
  .have e4:m=4:=by omega
   have i1:¬ (m:Int)<4:=by omega
   have HN:U (Gw P o=m):=by rw[e4];rw[e4] at HL;exact NW HL.o.nz
   clear e4;go_wp2;refine bodyPost_ret (v:=.agg #[iv (E7 P ps m 0),iv (E7 P ps m 1),iv (E7 P ps m 2),iv (E7 P ps m 3)]) (by simp[results,Tryz.results148,go_sem,r0,r1,r2,r3]) rfl (HRes.o _ HN.o ?_);have HB:=HL.o.bel;repeat (first|refine bA ?_|refine bS (by omega) ?_|refine bD ?_)
   exact HB
theorem Ui:∀i,i<Gw P o->P (o i)≠0:=by
 unfold Gw;intro i hi;split at hi;.omega
 .split at hi
  .obtain rfl:i=0:=by omega
   assumption
  .split at hi;.rcases (show i=0\/i=1 by omega) with rfl|rfl <;> assumption
   .split at hi;.rcases (show i=0\/i=1\/i=2 by omega) with rfl|rfl|rfl <;> assumption
    .rcases (show i=0\/i=1\/i=2\/i=3 by omega) with rfl|rfl|rfl|rfl <;> assumption
theorem Vc (h:Gw P o<4):P (o (Gw P o))=0:=by
 by_cases h0:P (o 0)=0;.rw[ED (m:=0) (by omega) (λi hi=>by omega) h0];exact h0
 by_cases h1:P (o 1)=0;.rw[ED (m:=1) (by omega) (λi hi=>by rw[show i=0 by omega];exact h0) h1];exact h1
 by_cases h2:P (o 2)=0;.rw[ED (m:=2) (by omega) (λi hi=>by rcases (show i=0\/i=1 by omega) with rfl|rfl <;> assumption) h2];exact h2
 by_cases h3:P (o 3)=0;.rw[ED (m:=3) (by omega) (λi hi=>by rcases (show i=0\/i=1\/i=2 by omega) with rfl|rfl|rfl <;> assumption) h3];exact h3
 .rw[NW (Bg h0 h1 h2 h3)] at h;omega
theorem Pm {ps:Nat->Nat} (ho:∀i,i<4->o i<4/\ps (o i)=i) (hp:∀j,j<4->ps j<4/\o (ps j)=j) :
  ((∀j,j<4->0<=P j/\P j<=2000000000)/\∀j,j<4->E7 P ps (Gw P o) j=P j)↔BC (λi=>P (o i)) 4:=by
 constructor
 .rintro⟨h1,h2⟩ q hq;refine⟨h1 _ (ho q hq).1,λr hr h0=>?_⟩;by_cases e:P (o q)=0;.exact e
  .have h3:=h2 (o q) (ho q hq).1;unfold E7 at h3;rw[(ho q hq).2] at h3;by_cases hm:q<Gw P o;.exact absurd h0 (Ui r (by omega))
   .rw[if_neg hm] at h3;exact h3.symm
 .intro h;refine⟨λj hj=>?_,λj hj=>?_⟩;.have:=(h (ps j) (hp j hj).1).1;dsimp only at this;rw[(hp j hj).2] at this;exact this
  .unfold E7;split;.rfl
   .rename_i hm
    have hl:Gw P o<4:=by have:=(hp j hj).1;omega
    have hz:=Vc hl;by_cases e:Gw P o=ps j;.rw[e,(hp j hj).2] at hz;exact hz.symm
    .have:=(h (ps j) (hp j hj).1).2 (Gw P o) (by omega) hz;dsimp only at this;rw[(hp j hj).2] at this;exact this.symm
theorem Cw (J:Int) (F:Nat) (o ps:Nat->Nat) (ho:∀i,i<4->o i<4/\ps (o i)=i) (hp:∀j,j<4->ps j<4/\o (ps j)=j) (hJ:0<=J/\J<6) (heg:∀args W,(callFunc F args).run Tryz.prog W=.ok (.enter F args) W)
  (hlay:∀(g:Nat) (W:World),WS F #[pt g] W (WT W (.agg #[.pointer (some (ad g (o 0))),.pointer (some (ad g (o 1))),.pointer (some (ad g (o 2))),.pointer (some (ad g (o 3)))])))
  (hix:∀W,(Instr.index 250 (.agg #[.func (.func 140) #[] #[],.func (.func 141) #[] #[],.func (.func 142) #[] #[],.func (.func 143) #[] #[],.func (.func 144) #[] #[],.func (.func 145) #[] #[]]) (iv J)).run Tryz.prog W=.ok (.func (.func F) #[] #[]) W) (a b c d:Int) (w:World) :
  WS 131 #[iv J,.agg #[iv a,iv b,iv c,iv d]] w (WT w (.bool (Cm λi=>Ar a b c d (o i)))):=by
 obtain⟨R,hR⟩:=gn (Cm λi=>Ar a b c d (o i));have hl0:=Un F o ps (Ar a b c d) ;obtain⟨l0,e0⟩:=gn (E7 (Ar a b c d) ps (Gw (Ar a b c d) o) 0);obtain⟨l1,e1⟩:=gn (E7 (Ar a b c d) ps (Gw (Ar a b c d) o) 1);obtain⟨l2,e2⟩:=gn (E7 (Ar a b c d) ps (Gw (Ar a b c d) o) 2);obtain⟨l3,e3⟩:=gn (E7 (Ar a b c d) ps (Gw (Ar a b c d) o) 3);have HL:U (∀wz,WS 148 #[.func (.func F) #[] #[],.agg #[iv a,iv b,iv c,iv d]] wz (WT wz (.agg #[iv l0,iv l1,iv l2,iv l3]))):=λwz=>by rw[e0,e1,e2,e3];exact hl0 wz ho hp heg hlay
 have HE:U (R=true↔((AU a && AU b && AU c && AU d)=true/\(l0 == a && (l1 == b && (l2 == c && l3 == d)))=true)):=by
  show _↔_;rw[hR,C9,<- Pm (P:=Ar a b c d) ho hp,e0,e1,e2,e3];simp only[Bool.and_eq_true,AU,decide_eq_true_eq,beq_iff_eq];constructor;.rintro⟨h1,h2⟩;exact⟨⟨⟨⟨h1 0 (by omega),h1 1 (by omega)⟩,h1 2 (by omega)⟩,h1 3 (by omega)⟩,h2 0 (by omega),h2 1 (by omega),h2 2 (by omega),h2 3 (by omega)⟩
  .rintro⟨⟨⟨⟨h0,h1⟩,h2⟩,h3⟩,h4,h5,h6,h7⟩;exact⟨Bg h0 h1 h2 h3,Bg h4 h5 h6 h7⟩
 rw[<- hR];clear hR hl0 e0 e1 e2 e3 hlay;have hj0:=hJ.1;have hj6:=hJ.2;cases hp:(AU a && AU b && AU c && AU d) with
 | false=>
  have HR:U (R=false):=by
   show R=false;cases hq:R with
   | false=>rfl
   | true=>have:=(HE.o.1 hq).1;rw[hp] at this;cases this
  go_enter Tryz.func131,Tryz.ntmps131;go_wp2_with (first
   | (go_at_call 147;refine (E9 a b c d _).mono ?_;rintro e w1 ⟨rfl,hb1⟩;rw[hp])
   | fail)
  try unfold Bl at hb1
  rw[WJ] at hb1;refine bodyPost_ret (v:=.bool false) (by simp[results,Tryz.results131,go_sem]) rfl ⟨by rw[HR.o],(Aa _ _).trans (hb1.mono (by omega))⟩
 | true=>
  have HR:U (R=(l0 == a && (l1 == b && (l2 == c && l3 == d)))):=by show R=_;rw[Bool.eq_iff_iff,HE.o,hp];simp
  go_enter Tryz.func131,Tryz.ntmps131;go_wp2_with fail
  refine (E9 a b c d _).mono ?_;rintro e w1 ⟨rfl,hb1⟩;rw[hp];try unfold Bl at hb1
  rw[WJ] at hb1;have p0:=(hb1.cell (p:=(ad w.heap.size 0)) (by show w.heap.size<w.heap.size+1;omega)).trans (CD (blk_alloc_new _ _) 0);have p1:=(hb1.cell (p:=(ad w.heap.size 1)) (by show w.heap.size<w.heap.size+1;omega)).trans (CD (blk_alloc_new _ _) 1);have p2:=(hb1.cell (p:=(ad w.heap.size 2)) (by show w.heap.size<w.heap.size+1;omega)).trans (CD (blk_alloc_new _ _) 2);have p3:=(hb1.cell (p:=(ad w.heap.size 3)) (by show w.heap.size<w.heap.size+1;omega)).trans (CD (blk_alloc_new _ _) 3);have HC:U (∀wx w2:World,Bl wx w2->(wx.cell? (ad w.heap.size 0)=some (iv a)/\wx.cell? (ad w.heap.size 1)=some (iv b)/\wx.cell? (ad w.heap.size 2)=some (iv c)/\wx.cell? (ad w.heap.size 3)=some (iv d))->(w2.cell? (ad w.heap.size 0)=some (iv a)/\w2.cell? (ad w.heap.size 1)=some (iv b)/\w2.cell? (ad w.heap.size 2)=some (iv c)/\w2.cell? (ad w.heap.size 3)=some (iv d))):=λwx w2 h2 h=>⟨(h2.cell (p:=(ad w.heap.size 0)) (Ws _ _ h.1)).trans h.1,(h2.cell (p:=(ad w.heap.size 1)) (Ws _ _ h.2.1)).trans h.2.1,(h2.cell (p:=(ad w.heap.size 2)) (Ws _ _ h.2.2.1)).trans h.2.2.1,(h2.cell (p:=(ad w.heap.size 3)) (Ws _ _ h.2.2.2)).trans h.2.2.2⟩
  have HB1:=hid ((Aa _ _).trans (hb1.mono (by omega)));clear hb1;have heq:=VK l0 l1 l2 l3 a b c d;go_wp2;go_region_held3 (λw'=>w'.cell? (ad w.heap.size 0)=some (iv a)/\w'.cell? (ad w.heap.size 1)=some (iv b)/\w'.cell? (ad w.heap.size 2)=some (iv c)/\w'.cell? (ad w.heap.size 3)=some (iv d)) (go_keep)
   (first
   | (go_at_call 125;refine (Iq w1.drew).mono ?_;rintro e w2 ⟨rfl,hb2⟩;obtain⟨y0,y1,y2,y3⟩:=HC.o _ w2 hb2 ⟨p0,p1,p2,p3⟩)
   | (go_at_call 148;refine (HL.o w2).mono ?_;rintro e w3 ⟨rfl,hb3⟩;obtain⟨x0,x1,x2,x3⟩:=HC.o _ w3 hb3 ⟨y0,y1,y2,y3⟩))
  have HB3:=hid ((HB1.o.drew.trans (hb2.mono HB1.o.size)).trans (hb3.mono (WC HB1.o.size hb2.size)));clear HC hb2 hb3 hix heq;go_wp2;go_ret;exact⟨by rw[HR.o];rfl,HB3.o⟩
theorem MY (a b c d:Int) (w:World) :
  WS 131 #[iv 0,.agg #[iv a,iv b,iv c,iv d]] w (WT w (.bool (Cm λi=>Ar a b c d (PI i)))):=
 Cw 0 140 PI (λi=>if i=0 then 0 else if i=1 then 1 else if i=2 then 2 else 3) (Bg ⟨by decide,rfl⟩ ⟨by decide,rfl⟩ ⟨by decide,rfl⟩ ⟨by decide,rfl⟩) (Bg ⟨by decide,rfl⟩ ⟨by decide,rfl⟩ ⟨by decide,rfl⟩ ⟨by decide,rfl⟩) (by omega) (λ_ _=>rfl) (λg W=>TE g W) Tw a b c d w
theorem M8 (a b c d:Int) (w:World) :
  WS 131 #[iv 1,.agg #[iv a,iv b,iv c,iv d]] w (WT w (.bool (Cm λi=>Ar a b c d (Ot i)))):=
 Cw 1 141 Ot (λi=>if i=0 then 2 else if i=1 then 0 else if i=2 then 1 else 3) (Bg ⟨by decide,rfl⟩ ⟨by decide,rfl⟩ ⟨by decide,rfl⟩ ⟨by decide,rfl⟩) (Bg ⟨by decide,rfl⟩ ⟨by decide,rfl⟩ ⟨by decide,rfl⟩ ⟨by decide,rfl⟩) (by omega) (λ_ _=>rfl) (λg W=>TA g W) Tk a b c d w
theorem MQ (a b c d:Int) (w:World) :
  WS 131 #[iv 2,.agg #[iv a,iv b,iv c,iv d]] w (WT w (.bool (Cm λi=>Ar a b c d (OG i)))):=
 Cw 2 142 OG (λi=>if i=0 then 1 else if i=1 then 2 else if i=2 then 0 else 3) (Bg ⟨by decide,rfl⟩ ⟨by decide,rfl⟩ ⟨by decide,rfl⟩ ⟨by decide,rfl⟩) (Bg ⟨by decide,rfl⟩ ⟨by decide,rfl⟩ ⟨by decide,rfl⟩ ⟨by decide,rfl⟩) (by omega) (λ_ _=>rfl) (λg W=>Tr g W) Tx a b c d w
theorem Nd (a b c d:Int) (w:World) :
  WS 131 #[iv 3,.agg #[iv a,iv b,iv c,iv d]] w (WT w (.bool (Cm λi=>Ar a b c d (Pq i)))):=
 Cw 3 143 Pq (λi=>if i=0 then 1 else if i=1 then 2 else if i=2 then 3 else 0) (Bg ⟨by decide,rfl⟩ ⟨by decide,rfl⟩ ⟨by decide,rfl⟩ ⟨by decide,rfl⟩) (Bg ⟨by decide,rfl⟩ ⟨by decide,rfl⟩ ⟨by decide,rfl⟩ ⟨by decide,rfl⟩) (by omega) (λ_ _=>rfl) (λg W=>Tz g W) Tv a b c d w
theorem Nq (a b c d:Int) (w:World) :
  WS 131 #[iv 4,.agg #[iv a,iv b,iv c,iv d]] w (WT w (.bool (Cm λi=>Ar a b c d (OZ i)))):=
 Cw 4 144 OZ (λi=>if i=0 then 3 else if i=1 then 1 else if i=2 then 2 else 0) (Bg ⟨by decide,rfl⟩ ⟨by decide,rfl⟩ ⟨by decide,rfl⟩ ⟨by decide,rfl⟩) (Bg ⟨by decide,rfl⟩ ⟨by decide,rfl⟩ ⟨by decide,rfl⟩ ⟨by decide,rfl⟩) (by omega) (λ_ _=>rfl) (λg W=>Tl g W) TB a b c d w
theorem Nx (a b c d:Int) (w:World) :
  WS 131 #[iv 5,.agg #[iv a,iv b,iv c,iv d]] w (WT w (.bool (Cm λi=>Ar a b c d (ON i)))):=
 Cw 5 145 ON (λi=>if i=0 then 2 else if i=1 then 3 else if i=2 then 1 else 0) (Bg ⟨by decide,rfl⟩ ⟨by decide,rfl⟩ ⟨by decide,rfl⟩ ⟨by decide,rfl⟩) (Bg ⟨by decide,rfl⟩ ⟨by decide,rfl⟩ ⟨by decide,rfl⟩ ⟨by decide,rfl⟩) (by omega) (λ_ _=>rfl) (λg W=>Ts g W) TC a b c d w
theorem St (perm:Int) (h:perm<0\/5<perm) (a b c d:Int) (w:World) :
  (WS 115 #[iv perm,.agg #[iv a,iv b,iv c,iv d]] w (WT w (.bool false)))/\
  (WS 131 #[iv perm,.agg #[iv a,iv b,iv c,iv d]] w (WT w (.bool false))):=by
 rcases h with h|h
 .refine⟨?_,?_⟩;.go_enter Tryz.func115,Tryz.ntmps115;go_wp2;go_ret;exact⟨rfl,Aa _ _⟩
  .go_enter Tryz.func131,Tryz.ntmps131;go_wp2;go_ret;exact⟨rfl,Aa _ _⟩
 .have h6:6<=perm:=by omega
  have h0:0<=perm:=by omega
  refine⟨?_,?_⟩;.go_enter Tryz.func115,Tryz.ntmps115;go_wp2;go_ret;exact⟨rfl,Aa _ _⟩
  .go_enter Tryz.func131,Tryz.ntmps131;go_wp2;go_ret;exact⟨rfl,Aa _ _⟩
theorem SO (i:Nat) (hi:i<4):PI i<4:=by
 have h4:i=0\/i=1\/i=2\/i=3:=by omega
 rcases h4 with rfl|rfl|rfl|rfl <;> decide
theorem ST (i:Nat) (hi:i<4):Ot i<4:=by
 have h4:i=0\/i=1\/i=2\/i=3:=by omega
 rcases h4 with rfl|rfl|rfl|rfl <;> decide
theorem Td (i:Nat) (hi:i<4):OG i<4:=by
 have h4:i=0\/i=1\/i=2\/i=3:=by omega
 rcases h4 with rfl|rfl|rfl|rfl <;> decide
theorem So (i:Nat) (hi:i<4):Pq i<4:=by
 have h4:i=0\/i=1\/i=2\/i=3:=by omega
 rcases h4 with rfl|rfl|rfl|rfl <;> decide
theorem Ss (i:Nat) (hi:i<4):OZ i<4:=by
 have h4:i=0\/i=1\/i=2\/i=3:=by omega
 rcases h4 with rfl|rfl|rfl|rfl <;> decide
theorem SX (i:Nat) (hi:i<4):ON i<4:=by
 have h4:i=0\/i=1\/i=2\/i=3:=by omega
 rcases h4 with rfl|rfl|rfl|rfl <;> decide
def A8 (j:Nat) (p:Qd) (i:Nat):Int:=Ar p.s p.p p.o p.g (Bh j i)
theorem I4 {x y:Nat->Int} (h:∀i,i<4->x i=y i) (hx:BC x 4):BC y 4:=by intro q hq;obtain⟨h1,h2⟩:=hx q hq;rw[h q hq] at h1 h2;exact⟨h1,λr hr e=>h2 r hr (by rw[h r (by omega)];exact e)⟩
theorem Pk {P:Nat->Prop} (h0:P 0) (h1:P 1) (h2:P 2) (h3:P 3):∀i,i<4->P i:=λi hi=>by
 rcases (show i=0\/i=1\/i=2\/i=3 by omega) with rfl|rfl|rfl|rfl <;> assumption
end Go.Proofs.YtacpbofiipdodaaGreat
