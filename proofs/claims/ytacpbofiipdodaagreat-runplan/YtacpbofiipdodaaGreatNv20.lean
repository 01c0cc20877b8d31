import Derived.Lib.ConvBytes
import Derived.Laws.BytesString
import Derived.MapKept
import Derived.Test.YtacpbofiipdodaaGreatNv11
set_option linter.unusedVariables false
set_option linter.unusedSimpArgs false
set_option maxRecDepth 100000
set_option maxHeartbeats 90000000
namespace Go.Proofs.YtacpbofiipdodaaGreat
open Go Go.Deep Go.RowKit
def CN (perm:Nat):Nat:=match perm with
 | 0=>140 | 1=>141 | 2=>142 | 3=>143 | 4=>144 | _=>145
theorem NL (perm:Nat) (hp:perm<6) (g:Nat) (w:World):WS (CN perm) #[pt g] w (WT w (.agg #[.pointer (some (ad g (Bh perm 0))),.pointer (some (ad g (Bh perm 1))),.pointer (some (ad g (Bh perm 2))),.pointer (some (ad g (Bh perm 3)))])):=by
 rcases (show perm=0\/perm=1\/perm=2\/perm=3\/perm=4\/perm=5 by omega) with rfl|rfl|rfl|rfl|rfl|rfl;.exact TE g w
 .exact TA g w
 .exact Tr g w
 .exact Tz g w
 .exact Tl g w
 .exact Ts g w
theorem KT (x:Int) (w:World):WS 122 #[iv x] w λe w'=>e=.returned (.bool (Bn x))/\w'=w:=by
 by_cases h1:1<=x
 .have h1d:=decide_eq_true h1;by_cases h2:x<=2000000000
  .have h2d:=decide_eq_true h2;have hd:Bn x=true:=by unfold Bn;rw[h1d,h2d];rfl
   rw[hd];clear hd;go_enter Tryz.func122,Tryz.ntmps122;go_wp2;go_ret;exact⟨rfl,rfl⟩
  .have h2d:=decide_eq_false h2;have hd:Bn x=false:=by unfold Bn;rw[h1d,h2d];rfl
   rw[hd];clear hd;go_enter Tryz.func122,Tryz.ntmps122;go_wp2;go_ret;exact⟨rfl,rfl⟩
 .have h1d:=decide_eq_false h1;have hd:Bn x=false:=by unfold Bn;rw[h1d];rfl
  rw[hd];clear hd;go_enter Tryz.func122,Tryz.ntmps122;go_wp2;go_ret;exact⟨rfl,rfl⟩
theorem I3 (q:Qd) (w:World):WS 130 #[qv q] w (WT w (.bool (CV q))):=by
 unfold CV qv;have hs:Bn q.s=false\/(Bn q.s=true/\Bn q.p=false)\/(Bn q.s=true/\Bn q.p=true/\Bn q.o=false)\/(Bn q.s=true/\Bn q.p=true/\Bn q.o=true/\Bn q.g=false)\/(Bn q.s=true/\Bn q.p=true/\Bn q.o=true/\Bn q.g=true):=by cases Bn q.s <;> cases Bn q.p <;> cases Bn q.o <;> cases Bn q.g <;> simp
 rcases hs with ha|⟨ha,hb⟩|⟨ha,hb,hc⟩|⟨ha,hb,hc,hd⟩|⟨ha,hb,hc,hd⟩;all_goals
  have HA:=ha
  go_enter Tryz.func130,Tryz.ntmps130
  go_wp2_with (first
   | (go_at_call 122;refine (KT _ _).mono ?_;rintro e w1 ⟨rfl,rfl⟩)
   | go_in)
  go_ret
  exact⟨by simp_all,(Aa _ _).trans ((Aa _ _).mono (by simp))⟩
theorem SE (perm:Nat) (hp:perm<6) (k:ByteArray) (i:Nat) (hi:i<4):PL perm k i (Bh perm i)=0:=by unfold PL;rw[if_neg];rcases (show perm=0\/perm=1\/perm=2\/perm=3\/perm=4\/perm=5 by omega) with rfl|rfl|rfl|rfl|rfl|rfl <;> rcases (show i=0\/i=1\/i=2\/i=3 by omega) with rfl|rfl|rfl|rfl <;> decide
def RT (perm:Nat) (k:ByteArray) (i n:Nat):Array Value:=(Pa perm k i).setIfInBounds (Bh perm i) (iv (Fy k i n))
theorem RB (perm:Nat) (hp:perm<6) (k:ByteArray) (i:Nat) (hi:i<4):RT perm k i 0=Pa perm k i:=by have h:=SE perm hp k i hi;have ho:=Gf perm hp i hi;unfold RT;show (Pa perm k i).setIfInBounds (Bh perm i) (iv 0)=_;rw[<- h];unfold Pa;generalize Bh perm i=o at ho ⊢;rcases (show o=0\/o=1\/o=2\/o=3 by omega) with rfl|rfl|rfl|rfl <;> simp
theorem QZ (perm:Nat) (hp:perm<6) (k:ByteArray) (i:Nat) (hi:i<4):RT perm k i 4=Pa perm k (i+1):=Oc perm hp k i hi
theorem SL (perm:Nat) (hp:perm<6) (k:ByteArray) (i:Nat) (hi:i<4) (n:Nat):(RT perm k i n)[Bh perm i]?=some (iv (Fy k i n)):=by have ho:=Gf perm hp i hi;unfold RT;rw[Array.getElem?_setIfInBounds_self_of_lt (by simpa[Pa] using ho)]
theorem SU (perm:Nat) (k:ByteArray) (i n:Nat):(RT perm k i n).setIfInBounds (Bh perm i) (iv (Fy k i (n+1)))=RT perm k i (n+1):=by unfold RT;simp
theorem UC (x b:Int) (h0:0<=x) (h1:x<4294967296) (hb0:0<=b) (hb1:b<256):bits .or .i64 (x*256) b=256*x+b:=by
 obtain⟨X,rfl⟩:∃X:Nat,x=(X:Int):=⟨x.toNat,by omega⟩;obtain⟨B,rfl⟩:∃B:Nat,b=(B:Int):=⟨b.toNat,by omega⟩;have oi:∀a:Nat,a<1099511627776->(BitVec.ofInt 64 (a:Int)).toNat=a:=λa ha=>by rw[BitVec.ofInt_natCast,BitVec.toNat_ofNat];exact Nat.mod_eq_of_lt (by omega)
 have e0:((X:Int)*256)=((X*256:Nat):Int):=by omega
 rw[e0];show IntKind.i64.wrap ((BitVec.ofInt 64 ((X*256:Nat):Int) ||| BitVec.ofInt 64 (B:Int)).toNat:Int)=_;rw[BitVec.toNat_or,oi _ (by omega),oi _ (by omega),Wz];have h:=Nat.shiftLeft_add_eq_or_of_lt (i:=8) (b:=B) (by omega) X;rw[Nat.shiftLeft_eq,show (2:Nat) ^ 8=256 by rfl] at h;rw[<- h];omega
structure Uz (w W:World) (A:Array Value):Prop where
 rb:Bx W w.heap.size 140 #[iv 0,iv 0,iv 0,iv 0]
 qb:Bx W (w.heap.size+1) 140 A
 bel:Bl w W
theorem Uz.keep {w W W' : World} {A:Array Value} (h:Uz w W A) (hb:Bl W W'):Uz w W' A:=
 ⟨(hb.block _ h.rb.lt).trans h.rb,(hb.block _ h.qb.lt).trans h.qb,h.bel.trans (hb.mono h.bel.size)⟩
theorem Lt (w:World) (e:TypeId) (s:ByteArray):Bl w (Go.Lib.bytesWorld w e s):=
 ⟨rfl,rfl,rfl,by rw[Go.Lib.bytesWorld_size];omega,λk hk=>Go.Lib.bytesWorld_at_old w e s k hk⟩
theorem T8 (k:ByteArray) (i j:Nat) (hj:j<4) (hk:(i+1)*4<=k.size):kb k (4*i+j)=(((k.extract (i*4) ((i+1)*4)).data.toList.getD j 0).toNat:Int):=by
 obtain⟨b,e,eb⟩:=EB (k:=k) (i:=4*i+j) (by omega);rw[eb];have e2:k.data[4*i+j]?=some b:=by rw[<- e];first|rfl|simp
 have e1:(k.extract (i*4) ((i+1)*4)).data.toList.getD j 0=b:=by simp only[ByteArray.data_extract,WA,Array.getElem?_toList,Array.getElem?_extract];rw[if_pos (by have:k.data.size=k.size:=rfl;omega),show i*4+j=4*i+j by omega,e2];rfl
 rw[e1]
def SY (perm g:Nat):Array Value:=#[.pointer (some (ad g (Bh perm 0))),.pointer (some (ad g (Bh perm 1))),.pointer (some (ad g (Bh perm 2))),.pointer (some (ad g (Bh perm 3)))]
theorem FD (perm:Nat) (hp:perm<6) (key:ByteArray) (hk:key.size=16) (w:World):WS 129 #[.func (.func (CN perm)) #[] #[],.string key] w (WT w (qv (Ag perm key))):=by
 have HL:U (∀W:World,WS (CN perm) #[pt (w.heap.size+1)] W (WT W (.agg (SY perm (w.heap.size+1))))):=λW=>NL perm hp _ W;have HK:=hid (ai hk hp);have heg:∀args W,(callFunc (CN perm) args).run Tryz.prog W=.ok (.enter (CN perm) args) W:=λargs W=>by rcases (show perm=0\/perm=1\/perm=2\/perm=3\/perm=4\/perm=5 by omega) with rfl|rfl|rfl|rfl|rfl|rfl <;> rfl
 clear hp;go_enter Tryz.func129,Tryz.ntmps129;go_wp2_with fail
 (with_reducible refine (HL.o _).mono ?_)
 rintro e w1 ⟨rfl,hw1⟩;have Q0:U (Uz w w1 (Pa perm key 0)):=by have b1:=Bx.new w #[iv 0,iv 0,iv 0,iv 0] 140;have b2:=Bx.new (w.alloc (.cells #[iv 0,iv 0,iv 0,iv 0] 140)) #[iv 0,iv 0,iv 0,iv 0] 140;simp only[WJ] at b2;exact⟨(hw1.block _ (by simp;omega)).trans (b1.alloc _),(hw1.block _ (by simp)).trans b2,(((Aa _ _).alloc (by simp) _)).trans (hw1.mono (by simp;omega))⟩
 clear hw1 HL;go_wp2_with fail
 go_loopw [6,7,9,12] (λ_ _ _ i wr=>∃ii:Nat,ii<=4/\i=iv ii/\Uz w wr (Pa perm key ii)) (λ_ _ _ i _=>4-(intOf i).toNat)
 case atStart=>exact⟨0,by omega,rfl,Q0.o⟩
 case round=>
  obtain⟨i,hi,rfl,hq⟩:=hrel;obtain⟨W1,rfl⟩:=gn wr;have QI:=hid hq;clear hq Q0;by_cases hlt:i<4
  .have hixp:∀W:World,(Instr.index 273 (.agg (SY perm (w.heap.size+1))) (iv (i:Int))).run Tryz.prog W=.ok (.pointer (some (ad (w.heap.size+1) (Bh perm i)))) W:=λW=>by rcases (show i=0\/i=1\/i=2\/i=3 by omega) with rfl|rfl|rfl|rfl <;> rfl
   have e4:((i:Int)*4).toNat=i*4:=by omega
   have e5:(((i:Int)+1)*4).toNat=(i+1)*4:=by omega
   have hsl:∀W:World,(Instr.slice 9 (.string key) (some (iv ((i:Int)*4))) (some (iv (((i:Int)+1)*4))) none).run Tryz.prog W=.ok (.string (key.extract (i*4) ((i+1)*4))) W:=λW=>by
    have g1:(0:Int)<=(i:Int)*4:=by omega
    have g2:(0:Int)<=((i:Int)+1)*4:=by omega
    have g3:((i:Int)+1)*4<=(key.size:Int):=by rw[HK.o.1];omega
    have g4:(i:Int)<=(i:Int)+1:=by omega
    simp[Instr.slice,go_sem,e4,e5,g1,g2,g3,g4]
   obtain⟨sub,hsub⟩:=gn (key.extract (i*4) ((i+1)*4));rw[<- hsub] at hsl;have hss:sub.size=4:=by rw[hsub,ByteArray.size_extract,HK.o.1];omega
   have hcv:∀W:World,(convert 9 265 (.string sub)).run Tryz.prog W=.ok (.slice (some (ad W.heap.size 0)) 4 (grownCap W 4 0 5)) (Go.Lib.bytesWorld W 5 sub):=λW=>by have h:=Go.Lib.run_convert_string_bytes (P:=Tryz.prog) W 9 265 5 sub rfl rfl rfl;rw[hss] at h;exact h
   have HSub:=hid (ai hsub hss);clear hsub hss e4 e5;go_wp2;have HS0:U (Uz w (Go.Lib.bytesWorld W1 5 sub) (RT perm key i 0)/\∀j,j<4->(Go.Lib.bytesWorld W1 5 sub).cell? (ad W1.heap.size j)=some (.int .u8 (kb key (4*i+j)))):=by
    refine⟨?_,λj hj=>?_⟩;.rw[RB perm HK.o.2 key i hlt];exact QI.o.keep (Lt _ _ _)
    .rw[Go.Lib.bytesWorld_cell _ _ _ _ (by rw[HSub.o.2];exact hj),HSub.o.1];exact congrArg (λx=>some (Value.int .u8 x)) (T8 key i j hj (by rw[HK.o.1];omega)).symm
   obtain⟨g,hg⟩:=gn W1.heap.size;have HG:U (w.heap.size+1<g):=by rw[hg];exact QI.o.qb.lt
   rw[<- hg] at HS0 ⊢;clear hg;obtain⟨cp,hcp⟩:=gn (grownCap W1 4 0 5);rw[<- hcp];clear hcp hcv hsl hixp;generalize Go.Lib.bytesWorld W1 5 sub=W2 at HS0 ⊢;go_loopw [9,25] (λ_ n wr=>∃nn:Nat,nn<=4/\n=iv nn/\Uz w wr (RT perm key i nn)/\∀j,j<4->wr.cell? (ad g j)=some (.int .u8 (kb key (4*i+j)))) (λ_ n _=>4-(intOf n).toNat)
   case atStart=>exact⟨0,by omega,rfl,HS0.o.1,HS0.o.2⟩
   case round=>
    obtain⟨n,hn,rfl,hq,hc⟩:=hrel;obtain⟨W3,rfl⟩:=gn wr;have QJ:=hid (ai hq hc);clear hq hc HS0;by_cases hln:n<4
    .have c1:=QJ.o.2 n hln;have hbr:=Dh key (4*i+n);obtain⟨b,hb⟩:=gn (kb key (4*i+n));have HBb:=hid hb;rw[<- hb] at c1 hbr;clear hb;have c2:=QJ.o.1.qb.cell (Bh perm i);rw[SL perm HK.o.2 key i hlt n] at c2;have hxr:=J0 key i n hn;obtain⟨x,hx⟩:=gn (Fy key i n);have HX:=hid hx;rw[<- hx] at hxr c2;clear hx;have f2:=QJ.o.1.qb.frozen (Bh perm i);have l2:=QJ.o.1.qb.lt;have n0:(0:Int)<=(n:Int):=by omega
     have n1:(n:Int)<4:=by omega
     have HN:U (256*x+b=Fy key i (n+1)):=by show 256*x+b=Fy key i (n+1);rw[HX.o,HBb.o];rfl
     obtain⟨hx0,hx1⟩:=hxr;obtain⟨hb0,hb1⟩:=hbr;go_wp2;go_roundw;case rel=>
      refine⟨n+1,by omega,by go_num,?_,λj hj=>?_⟩;.rw[UC x b hx0 hx1 hb0 hb1,HN.o];have q:=QJ.o.1;refine⟨q.rb.other (by simp) _,?_,q.bel.setCell (by simp) _⟩;have e:=q.qb.set (Bh perm i) (iv (Fy key i (n+1)));rw[SU] at e;exact e
      .rw[<- QJ.o.2 j hj];exact World.cell?_of_block (a:=(ad g j)) (Wv _ _ _ _ (by have:=HG.o;simp;omega))
     case measure=>simp[intOf];omega
    .obtain rfl:n=4:=by omega
     go_wp2;go_roundw;case rel=>refine⟨i+1,by omega,by go_num,?_⟩;rw[<- QZ perm HK.o.2 key i hlt];exact QJ.o.1
     case measure=>simp[intOf];omega
  .obtain rfl:i=4:=by omega
   have p0:=QI.o.qb.cell 0;have p1:=QI.o.qb.cell 1;have p2:=QI.o.qb.cell 2;have p3:=QI.o.qb.cell 3;rw[C1 perm key 4 0 (by omega),Dw perm HK.o.2 key 0 (by omega)] at p0;rw[C1 perm key 4 1 (by omega),Dw perm HK.o.2 key 1 (by omega)] at p1;rw[C1 perm key 4 2 (by omega),Dw perm HK.o.2 key 2 (by omega)] at p2;rw[C1 perm key 4 3 (by omega),Dw perm HK.o.2 key 3 (by omega)] at p3;obtain⟨q0,hq0⟩:=gn (pk key (Ck perm 0));obtain⟨q1,hq1⟩:=gn (pk key (Ck perm 1));obtain⟨q2,hq2⟩:=gn (pk key (Ck perm 2));obtain⟨q3,hq3⟩:=gn (pk key (Ck perm 3));rw[<- hq0] at p0;rw[<- hq1] at p1;rw[<- hq2] at p2;rw[<- hq3] at p3;have HV:U (qv (Ag perm key)=.agg #[iv q0,iv q1,iv q2,iv q3]):=by show qv (Ag perm key)=_;rw[hq0,hq1,hq2,hq3];rfl
   clear hq0 hq1 hq2 hq3;have z0:=QI.o.rb.cell 0;have z1:=QI.o.rb.cell 1;have z2:=QI.o.rb.cell 2;have z3:=QI.o.rb.cell 3;simp at z0 z1 z2 z3;have zf:=λi=>QI.o.rb.frozen i;have zl:=QI.o.rb.lt;have HB:=hid QI.o.bel;go_wp2;refine bodyPost_ret (v:=.agg #[iv q0,iv q1,iv q2,iv q3]) (by simp[results,Tryz.results129,go_sem,z0,z1,z2,z3]) rfl ⟨by rw[HV.o],?_⟩;exact (((HB.o.setCell (by simp) _).setCell (by simp) _).setCell (by simp) _).setCell (by simp) _
def Qz (x:Int):ByteArray:=(((ByteArray.empty.push (UInt8.ofNat (x / 16777216).toNat)).push (UInt8.ofNat (x / 65536 % 256).toNat)).push (UInt8.ofNat (x / 256 % 256).toNat)).push (UInt8.ofNat (x % 256).toNat)
theorem Lp (x:Int) (h0:0<=x) (h1:x<4294967296) (w:World):WS 213 #[iv x] w (WT w (.string (Qz x))):=by
 obtain⟨W,hW⟩:=gn (w.alloc (.cells #[.int .u8 (x / 16777216),.int .u8 (x / 65536 % 256),.int .u8 (x / 256 % 256),.int .u8 (x % 256)] 5));have b:=Bx.new w #[.int .u8 (x / 16777216),.int .u8 (x / 65536 % 256),.int .u8 (x / 256 % 256),.int .u8 (x % 256)] 5;have c0:=b.cell 0;have c1:=b.cell 1;have c2:=b.cell 2;have c3:=b.cell 3;simp at c0 c1 c2 c3;have hcv:(convert 265 9 (.slice (some (ad w.heap.size 0)) 4 4)).run Tryz.prog (w.alloc (.cells #[.int .u8 (x / 16777216),.int .u8 (x / 65536 % 256),.int .u8 (x / 256 % 256),.int .u8 (x % 256)] 5))=.ok (.string (Qz x)) (w.alloc (.cells #[.int .u8 (x / 16777216),.int .u8 (x / 65536 % 256),.int .u8 (x / 256 % 256),.int .u8 (x % 256)] 5)):=by rw[run_convert_bytes_string (P:=Tryz.prog) _ 265 9 5 _ 4 4 rfl rfl rfl,run_bytesToString _ _ 4 4 [x / 16777216,x / 65536 % 256,x / 256 % 256,x % 256] (by simp[go_sem])];rfl
 clear hW W b c0 c1 c2 c3;go_enter Tryz.func213,Tryz.ntmps213;go_wp2;go_ret;exact⟨rfl,Aa _ _⟩
def G2 (x:Nat->Int):Nat->ByteArray
 | 0=>{ data:=#[] }
 | i+1=>G2 x i++Qz (x i)
def KF (x:Nat->Int):Nat->ByteArray
 | 0=>{ data:=#[] }
 | i+1=>G2 x i++Qz (x i+1)
theorem Iz (x:Int):(Qz x).size=4:=rfl
theorem Ju (x:Nat->Int):∀i,(G2 x i).size=4*i
 | 0=>rfl
 | i+1=>by
  show (G2 x i++Qz (x i)).size=_
  rw[ByteArray.size_append,Ju x i,Iz]
  omega
theorem UR (p:Qd) (o:Nat) (ho:o<4):(#[iv p.s,iv p.p,iv p.o,iv p.g]:Array Value)[o]?=some (iv (Ar p.s p.p p.o p.g o)):=by rcases (show o=0\/o=1\/o=2\/o=3 by omega) with rfl|rfl|rfl|rfl <;> rfl
def KN (x:Nat->Int) (m:Nat):Prop:=m<=4/\(∀i,i<m->x i≠0)/\(m<4->x m=0)
theorem Lw (j:Nat) (hj:j<6) (p:Qd) (m:Nat) (hm:KN (A8 j p) m) (hr:∀i,i<4->0<=A8 j p i/\A8 j p i<=2000000000) (w:World) :
  WS 212 #[.func (.func (CN j)) #[] #[],qv p] w (WT w (.tuple #[.string (G2 (A8 j p) m),.string (KF (A8 j p) m)])):=by
 have HL:U (∀W:World,WS (CN j) #[pt w.heap.size] W (WT W (.agg (SY j w.heap.size)))):=λW=>NL j hj _ W;have HK:U (j<6/\KN (A8 j p) m/\∀i,i<4->0<=A8 j p i/\A8 j p i<=2000000000):=⟨hj,hm,hr⟩;have heg:∀args W,(callFunc (CN j) args).run Tryz.prog W=.ok (.enter (CN j) args) W:=λargs W=>by rcases (show j=0\/j=1\/j=2\/j=3\/j=4\/j=5 by omega) with rfl|rfl|rfl|rfl|rfl|rfl <;> rfl
 have HPK:U (∀(x:Int) (W:World),0<=x->x<4294967296->WS 213 #[iv x] W (WT W (.string (Qz x)))):=λx W h0 h1=>Lp x h0 h1 W;clear hj hm hr;unfold qv;go_enter Tryz.func212,Tryz.ntmps212;go_wp2_with fail
 (with_reducible refine (HL.o _).mono ?_)
 rintro e w1 ⟨rfl,hw1⟩;have Q0:U (Bx w1 w.heap.size 140 #[iv p.s,iv p.p,iv p.o,iv p.g]/\Bl w w1):=⟨(hw1.block _ (by simp)).trans (Bx.new w _ _),(Aa _ _).trans (hw1.mono (by simp))⟩;clear hw1 HL;go_wp2_with fail
 go_loopw [6,7,9,12] (λlo hi _ i wr=>∃ii:Nat,ii<=m/\i=iv ii/\lo=.string (G2 (A8 j p) ii)/\hi=.string (KF (A8 j p) ii)/\Bx wr w.heap.size 140 #[iv p.s,iv p.p,iv p.o,iv p.g]/\Bl w wr) (λ_ _ _ i _=>4-(intOf i).toNat)
 case atStart=>exact⟨0,Ww _,rfl,rfl,rfl,Q0.o⟩
 case round=>
  obtain⟨i,hi,rfl,rfl,rfl,hq,hb⟩:=hrel;have QI:U (Bx wr w.heap.size 140 #[iv p.s,iv p.p,iv p.o,iv p.g]/\Bl w wr):=⟨hq,hb⟩;clear hq hb Q0;by_cases hlt:i<4
  .have hixp:∀W:World,(Instr.index 273 (.agg (SY j w.heap.size)) (iv (i:Int))).run Tryz.prog W=.ok (.pointer (some (ad w.heap.size (Bh j i)))) W:=λW=>by rcases (show i=0\/i=1\/i=2\/i=3 by omega) with rfl|rfl|rfl|rfl <;> rfl
   have c1:=QI.o.1.cell (Bh j i);rw[UR p _ (Gf j HK.o.1 i hlt)] at c1;obtain⟨x,hx⟩:∃x,x=A8 j p i:=⟨_,rfl⟩;have HX:U (x=A8 j p i):=hx;have hxr:=HK.o.2.2 i hlt;have hxu:Ar p.s p.p p.o p.g (Bh j i)=x:=hx.symm;rw[hxu] at c1;rw[<- hx] at hxr;obtain⟨hx0,hx1⟩:=hxr;clear hx hxu;by_cases hz:x=0
   .have hzb:(x == 0)=true:=by simp[hz]
    have hzd:decide (x=0)=true:=by simp[hz]
    have HM:U (i=m):=by
     rcases Nat.lt_or_ge i m with h|h;.exact absurd (by rw[<- HX.o];exact hz) (HK.o.2.1.2.1 i h)
     .show i=m;omega
    go_wp2;refine bodyPost_ret (v:=.tuple #[.string (G2 (A8 j p) i),.string (KF (A8 j p) i)]) (by simp[results,Tryz.results212,go_sem]) rfl ?_;exact⟨by rw[HM.o],QI.o.2⟩
   .have hzb:(x == 0)=false:=by simp[hz]
    have hzd:decide (x=0)=false:=by simp[hz]
    have HM:U (i<m):=by
     rcases Nat.lt_or_ge i m with h|h;.exact h
     .have e:i=m:=by omega
      exact absurd (by rw[HX.o,e];exact HK.o.2.1.2.2 (by omega)) hz
    obtain⟨lo,hlo⟩:∃lo,lo=G2 (A8 j p) i:=⟨_,rfl⟩;obtain⟨k1,hk1⟩:∃k1,k1=Qz (x+1):=⟨_,rfl⟩;obtain⟨k0,hk0⟩:∃k0,k0=Qz x:=⟨_,rfl⟩;have HP1:U (∀W:World,WS 213 #[iv (x+1)] W (WT W (.string k1))):=λW=>by rw[hk1];exact HPK.o (x+1) W (by omega) (by omega)
    have HP0:U (∀W:World,WS 213 #[iv x] W (WT W (.string k0))):=λW=>by rw[hk0];exact HPK.o x W (by omega) (by omega)
    have HL1:U (lo++k0=G2 (A8 j p) (i+1)/\lo++k1=KF (A8 j p) (i+1)):=by rw[hlo,hk0,hk1,HX.o];exact⟨rfl,rfl⟩
    have z3:¬ (9223372036854775807:Int)<(lo.size:Int)+(k1.size:Int):=by rw[hlo,hk1,Ju,Iz];omega
    have z4:¬ (9223372036854775807:Int)<(lo.size:Int)+(k0.size:Int):=by rw[hlo,hk0,Ju,Iz];omega
    rw[<- hlo];clear hlo hk1 hk0;go_wp2_with fail
    (with_reducible refine (HP1.o _).mono ?_)
    rintro e w2 ⟨rfl,hb2⟩;have c2:w2.cell? (ad w.heap.size (Bh j i))=some (iv x):=(hb2.cell (Ws _ _ c1)).trans c1;have Q2:U (Bx w2 w.heap.size 140 #[iv p.s,iv p.p,iv p.o,iv p.g]/\Bl w w2):=⟨(hb2.block _ QI.o.1.lt).trans QI.o.1,QI.o.2.trans (hb2.mono QI.o.2.size)⟩;clear hb2 c1;go_wp2_with fail
    (with_reducible refine (HP0.o _).mono ?_)
    rintro e w3 ⟨rfl,hb3⟩;have Q3:U (Bx w3 w.heap.size 140 #[iv p.s,iv p.p,iv p.o,iv p.g]/\Bl w w3):=⟨(hb3.block _ Q2.o.1.lt).trans Q2.o.1,Q2.o.2.trans (hb3.mono Q2.o.2.size)⟩;clear hb3 c2;go_wp2;go_roundw;case rel=>exact⟨i+1,HM.o,by go_num,by rw[<- HL1.o.1],by rw[<- HL1.o.2],Q3.o⟩
    case measure=>simp[intOf];omega
  .have HM:U (i=m):=by have:=HK.o.2.1.1;show i=m;omega
   obtain rfl:i=4:=by have:=HK.o.2.1.1;omega
   go_wp2;refine bodyPost_ret (v:=.tuple #[.string (G2 (A8 j p) 4),.string (KF (A8 j p) 4)]) (by simp[results,Tryz.results212,go_sem]) rfl ?_;exact⟨by rw[HM.o],QI.o.2⟩
end Go.Proofs.YtacpbofiipdodaaGreat
namespace Go.Proofs.YtacpbofiipdodaaGreat
open Go Go.ChangeMaps Go.Deep Go.MapKept Go.RowKit
variable {B:Nat}{L:List Qd}{w w':World}
theorem Ve:Tryz.prog.underlying 140=some (.struct #[{ name := "S",type:=2,offset:=0,embedded:=false,tag := "",pkgPath := "",byteOffset:=0 },{ name := "P",type:=2,offset:=1,embedded:=false,tag := "",pkgPath := "",byteOffset:=8 },{ name := "O",type:=2,offset:=2,embedded:=false,tag := "",pkgPath := "",byteOffset:=16 },{ name := "G",type:=2,offset:=3,embedded:=false,tag := "",pkgPath := "",byteOffset:=24 }]):=by kernel_rfl
theorem VR:Tryz.prog.underlying 2=some (.int .i64):=by kernel_rfl
theorem Qk (e:Bool) (n:Nat) (x:Int) (w:World):(Instr.checkKey e (n+1) 2 (iv x)).run Tryz.prog w=.ok () w:=run_checkKey VR (by simp[IsKey]) e n
theorem Om (x y z u:Int) (i:Nat) (hi:i<4) (w:World):∃r,(part 2 #[iv x,iv y,iv z,iv u] i).run Tryz.prog w=.ok (iv r) w:=by
 rcases (show i=0\/i=1\/i=2\/i=3 by omega) with rfl|rfl|rfl|rfl;.exact⟨x,by simp[go_sem]⟩
 .exact⟨y,by simp[go_sem]⟩
 .exact⟨z,by simp[go_sem]⟩
 .exact⟨u,by simp[go_sem]⟩
theorem SF (e:Bool) (n:Nat) (q:Qd) (w:World):(Instr.checkKey e (n+1+1) 140 (qv q)).run Tryz.prog w=.ok () w:=by unfold qv;obtain⟨r0,p0⟩:=Om q.s q.p q.o q.g 0 (by omega) w;obtain⟨r1,p1⟩:=Om q.s q.p q.o q.g 1 (by omega) w;obtain⟨r2,p2⟩:=Om q.s q.p q.o q.g 2 (by omega) w;obtain⟨r3,p3⟩:=Om q.s q.p q.o q.g 3 (by omega) w;rw[Instr.checkKey];simp only[Sem.run_bind,run_underlying Ve,Result.andThen_ok];rw[<- Array.forIn_toList];simp only[List.forIn_cons,List.forIn_nil,Sem.run_bind,Sem.run_ite,Sem.run_pure,Result.andThen_ok,p0,Qk];simp[p1,p2,p3,Qk]
theorem Ny (e:Bool) (q:Qd) (w:World):(Instr.checkKey e 10000 140 (qv q)).run Tryz.prog w=.ok () w:=SF e 9998 q w
theorem NE (x:Qd) (w:World):(Op.equal 140 (qv x) (qv x)).run Tryz.prog w=.ok true w:=by show (Op.equalIn 10000 140 (qv x) (qv x)).run Tryz.prog w=_;unfold qv;rw[VK,(QO (x:=x) (y:=x)).2 rfl]
theorem JX {x y:Qd} (h:x≠y) (w:World):(Op.equal 140 (qv x) (qv y)).run Tryz.prog w=.ok false w:=by
 show (Op.equalIn 10000 140 (qv x) (qv y)).run Tryz.prog w=_;unfold qv;rw[VK];cases hb:(x.s == y.s && (x.p == y.p && (x.o == y.o && x.g == y.g))) with
 | false=>rfl
 | true=>exact absurd (QO.1 hb) h
def Th (es:List MapEntry) (L:List Qd):Prop:=es.map (λe=>(e.key,e.val))=L.map (λq=>(qv q,.agg #[]))
theorem RI (q:Qd) (w:World):∀(es:List MapEntry) (L:List Qd) (i:Nat),Th es L->
  (q∉L/\(Instr.findAsking 140 (qv q) es i).run Tryz.prog w=.ok none w)\/(q∈L/\∃j,(Instr.findAsking 140 (qv q) es i).run Tryz.prog w=.ok (some (j,.agg #[])) w)
 | [],[],i,_=>.inl ⟨by simp,by rw[Instr.findAsking];rfl⟩
 | [],x::L,i,h=>by simp[Th] at h
 | e::es,[],i,h=>by simp[Th] at h
 | e::es,x::L,i,h=>by
  have h2:e.key=qv x/\e.val=.agg #[]/\Th es L:=by
   unfold Th at h
   rw[List.map_cons,List.map_cons] at h
   injection h with h1 h2
   injection h1 with h1 h3
   exact⟨h1,h3,h2⟩
  obtain⟨h3,h4,h5⟩:=h2
  by_cases e0:q=x
  .refine .inr ⟨by simp[e0],i,?_⟩
   rw[Instr.findAsking,h3,h4,e0]
   simp[NE]
  .rcases RI q w es L (i+1) h5 with ⟨m,r⟩|⟨m,j,r⟩
   .refine .inl ⟨by simp[e0,m],?_⟩
    rw[Instr.findAsking,h3]
    simp[JX e0,r]
   .refine .inr ⟨by simp[m],j,?_⟩
    rw[Instr.findAsking,h3]
    simp[JX e0,r]
theorem NM (q:Qd) (w:World) (es:List MapEntry) (L:List Qd) (h:Th es L) :
  (q∉L/\(Instr.findKey 140 (qv q) es).run Tryz.prog w=.ok none w)\/(q∈L/\∃j,(Instr.findKey 140 (qv q) es).run Tryz.prog w=.ok (some (j,.agg #[])) w):=by
 have hk:(Instr.findKey 140 (qv q) es).run Tryz.prog w=(Instr.findAsking 140 (qv q) es).run Tryz.prog w:=by
  unfold Instr.findKey;simp only[Sem.run_bind,run_underlying Ve,Result.andThen_ok];cases es with
  | nil=>rfl
  | cons e es=>rfl
 rw[hk];exact RI q w es L 0 h
def DO (w:World) (B:Nat) (L:List Qd):Prop:=∃es clock,w.heap[B]?=some (.map es clock)/\Th es.toList L
theorem DO.lt (h:DO w B L):B<w.heap.size:=by obtain⟨es,c,h,_⟩:=h;exact (Array.getElem?_eq_some_iff.1 h).1
theorem DO.kept (h:DO w B L) (hb:w'.heap[B]?=w.heap[B]?):DO w' B L:=by obtain⟨es,c,h,q⟩:=h;exact⟨es,c,hb.trans h,q⟩
theorem DO.below (h:DO w B L) (hb:Bl w w'):DO w' B L:=h.kept (hb.block _ h.lt)
theorem RD (w:World):DO (w.alloc (.map #[] 0)) w.heap.size []:=⟨#[],0,blk_alloc_new _ _,rfl⟩
theorem SN:Tryz.prog.underlying 249=some (.map 140 278):=by kernel_rfl
theorem DO.look (h:DO w B L) (q:Qd):∃b,(b=true↔q∈L)/\(Instr.lookup 249 (.map (some B)) (qv q) true).run Tryz.prog w=.ok (.tuple #[.agg #[],.bool b]) w:=by
 obtain⟨es,c,hb,he⟩:=h;rcases NM q w es.toList L he with ⟨m,r⟩|⟨m,j,r⟩;.exact⟨false,by simp[m],by simp[Instr.lookup,run_underlying SN,MapKept.run_getObj_map hb,Ny,r,Result.andThen]⟩
 .exact⟨true,by simp[m],by simp[Instr.lookup,run_underlying SN,MapKept.run_getObj_map hb,Ny,r,Result.andThen]⟩
theorem DO.put (h:DO w B L) (q:Qd) (hn:q∉L):∃w',(Instr.mapUpdate 249 (.map (some B)) (qv q) (.agg #[])).run Tryz.prog w=.ok () w'/\DO w' B (L++[q])/\w.grownBy w' (some B):=by
 obtain⟨es,clock,hb,he⟩:=h;rcases NM q w es.toList L he with ⟨m,r⟩|⟨m,_⟩
 .refine⟨setBlock w B (.map (es.push { key:=qv q,val:=.agg #[],born:=clock }) (clock+1)),?_,⟨_,_,heap_setBlock_same hb _,?_⟩,⟨rfl,rfl,rfl,by simp[setBlock],λi _ hi=>heap_setBlock_other hb _ (λe=>hi (by rw[e]))⟩⟩;.simp[Instr.mapUpdate,run_underlying SN,MapKept.run_getObj_map hb,Ny,r,MapKept.run_setObj_map _ hb,Result.andThen,setBlock]
  .unfold Th at he ⊢;rw[Array.toList_push,List.map_append,List.map_append,he];rfl
 .exact absurd m hn
theorem DO.len (h:DO w B L) (ty:TypeId):(Builtin.len_ #[249] ty #[.map (some B)]).run Tryz.prog w=.ok (iv L.length) w:=by
 obtain⟨es,clock,hb,he⟩:=h;have hs:es.size=L.length:=by have:=congrArg List.length he;simpa using this
 simp[Builtin.len_,run_underlying SN,MapKept.run_getObj_map hb,Result.andThen,hs,goInt]
theorem Pd {k:Nat} (h:k<L.length):L.take (k+1)=L.take k++[L[k]]:=by rw[List.take_add_one,Wx h];rfl
theorem QL {k:Nat} (hn:L.Nodup) (h:k<L.length):L[k]∉L.take k:=by
 intro hm;have e:L=L.take k++(L[k]::L.drop (k+1)):=by rw[List.getElem_cons_drop,List.take_append_drop]
 rw[e] at hn;have:=(List.nodup_append.1 hn).2.2 _ hm _ (List.mem_cons_self ..);exact this rfl
theorem E6 (a:Option Addr) (n c:Nat) (L:List Qd) (w:World) (h:BW w a L) (hn:n=L.length) (hn2:n<=1048576) (hnd:L.Nodup) :
  WS 127 #[.slice a n c] w λe w'=>∃B,e=.returned (.map (some B))/\DO w' B L/\Bl w w'/\w.heap.size<=B:=by
 have HR:=hid (ai h (ai hn hnd));clear h hn hnd;have hmm:=@run_makeMap Tryz.prog;go_enter Tryz.func127,Tryz.ntmps127;go_wp2;go_loopw [5,9] (λ_ i wr=>∃k:Nat,k<=n/\i=iv k/\DO wr w.heap.size (L.take k)/\Bl w wr) (λ_ i _=>n-(intOf i).toNat)
 case atStart=>exact⟨0,Ww _,rfl,RD w,Aa _ _⟩
 case round=>
  obtain⟨k,hk,rfl,hq,hbel⟩:=hrel;have HS:=hid (ai hq hbel);by_cases hlt:k<n
  .have hkL:k<L.length:=by rw[<- HR.o.2.1];exact hlt
   rcases HR.o.1.below hbel with h0|⟨b,rfl,hc⟩;.omega
   obtain⟨s0,s1,s2,s3⟩:=hc k hkL;have i0:(0:Int)<=(k:Int):=by omega
   have i1:(k:Int)<(n:Int):=by omega
   have hx0:=QL HR.o.2.2 hkL;have hx1:=Pd hkL;obtain⟨x,hx⟩:=gn (L[k]);rw[<- hx] at s0 s1 s2 s3 hx0 hx1;obtain⟨w7,hrun,hm7,hg7⟩:=(hq.below (Aa wr (.cells #[iv x.s,iv x.p,iv x.o,iv x.g] 140))).put x hx0;have H7:U (DO w7 w.heap.size (L.take (k+1))/\Bl w w7):=by refine⟨by rw[hx1];exact hm7,?_⟩;have h1:=hbel.trans ((Aa wr (.cells #[iv x.s,iv x.p,iv x.o,iv x.g] 140)).mono hbel.size);exact h1.trans (A1 hg7 h1.size (Wu _))
   unfold qv at hrun;clear hc hq hbel hx hx0 hx1 hm7 hg7;go_wp2;go_roundw;case rel=>exact⟨k+1,by omega,by go_num,H7.o⟩
   case measure=>simp[intOf];omega
  .obtain rfl:k=n:=by omega
   have k1:¬ (k:Int)<(k:Int):=by omega
   clear hq hbel;go_wp2;go_ret;refine⟨w.heap.size,rfl,?_,HS.o.2,Wu _⟩;have e:L.take k=L:=by rw[HR.o.2.1,WG]
   rw[<- e];exact HS.o.1
def U3 (w:World) (L M:List Qd) (e:Ending) (w' : World):Prop:=∃b:Bool,e=.returned (.bool b)/\(b=true↔(L.length=M.length/\∀q,q∈L->q∈M))/\Bl w w'
theorem FU (B:Nat) (a:Option Addr) (n c:Nat) (L M:List Qd) (w:World) (hm:DO w B M) (h:BW w a L) (hn:n=L.length) (hn2:n<=1048576) :
  WS 128 #[.map (some B),.slice a n c] w (U3 w L M):=by
 have HR:=hid (ai h (ai hn hm));clear h hn hm;go_enter Tryz.func128,Tryz.ntmps128;go_wp2;go_loopw [6,7,8,11] (λ_ _ _ i wr=>∃k:Nat,k<=n/\i=iv k/\(∀j (h:j<L.length),j<k->L[j]∈M)/\Bl w wr) (λ_ _ _ i _=>n-(intOf i).toNat)
 case atStart=>exact⟨0,Ww _,rfl,λj _ hj=>absurd hj (Wy _),Wt _ _⟩
 case round=>
  obtain⟨k,hk,rfl,hall,hbel⟩:=hrel;have HS:=hid (ai hall hbel);by_cases hlt:k<n
  .have hkL:k<L.length:=by rw[<- HR.o.2.1];exact hlt
   rcases HR.o.1.below hbel with h0|⟨b,rfl,hc⟩;.omega
   obtain⟨s0,s1,s2,s3⟩:=hc k hkL;have i0:(0:Int)<=(k:Int):=by omega
   have i1:(k:Int)<(n:Int):=by omega
   obtain⟨x,hx⟩:=gn (L[k]);have HXk:=hid hx.symm;rw[<- hx] at s0 s1 s2 s3;obtain⟨bk,hbk,hl⟩:=((HR.o.2.2.below hbel).below (Aa wr (.cells #[iv x.s,iv x.p,iv x.o,iv x.g] 140))).look x;have HBk:=hid hbk;unfold qv at hl;clear hc hall hbel hx hbk;cases bk with
   | false=>
    go_wp2;go_ret;refine⟨false,rfl,?_,?_⟩
    .constructor;.intro h;cases h
     .rintro⟨_,hq⟩;have:=HBk.o.2 (by rw[<- HXk.o];exact hq _ (WE hkL));cases this
    .exact HS.o.2.trans (((Aa _ _).alloc (by simp) _).mono HS.o.2.size)
   | true=>
    go_wp2;go_roundw;case rel=>
     refine⟨k+1,by omega,by go_num,λj hj hjk=>?_,HS.o.2.trans (((Aa _ _).alloc (by simp) _).mono HS.o.2.size)⟩;by_cases e:j=k;.subst e;rw[HXk.o];exact HBk.o.1 rfl
     .exact HS.o.1 j hj (by omega)
    case measure=>simp[intOf];omega
  .obtain rfl:k=n:=by omega
   have k1:¬ (k:Int)<(k:Int):=by omega
   have hln:=(HR.o.2.2.below hbel).len;clear hall hbel;go_wp2;go_ret;refine⟨((M.length:Int) == (k:Int)),rfl,?_,HS.o.2⟩;constructor
   .intro h;have h1:(M.length:Int)=(k:Int):=by simpa using h
    refine⟨by have:=HR.o.2.1;omega,λq hq=>?_⟩;obtain⟨j,hj,e⟩:=List.getElem_of_mem hq;rw[<- e];exact HS.o.1 j hj (by have:=HR.o.2.1;omega)
   .rintro⟨h1,_⟩;have h2:(M.length:Int)=(k:Int):=by have:=HR.o.2.1;omega
    simpa using h2
end Go.Proofs.YtacpbofiipdodaaGreat
