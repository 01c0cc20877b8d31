import Derived.Lib.ConvBytes
import Derived.Test.YtcnollkkigiobaaGreatNv7
set_option linter.unusedVariables false
set_option linter.unusedSimpArgs false
set_option maxRecDepth 100000
set_option maxHeartbeats 90000000
namespace Go.Proofs.YtcnollkkigiobaaGreat
open Go Go.Deep Go.RowKit Go.Proofs.Tryz
def BY (perm:Nat):Nat:=match perm with
 | 0=>101 | 1=>102 | 2=>103 | 3=>104 | 4=>105 | _=>106
theorem Ku (perm:Nat) (a:perm<6) (g:Nat) (w:World):UO (BY perm) #[pt g] w (UP w (.agg #[.pointer (some (ad g (AM perm 0))),.pointer (some (ad g (AM perm 1))),.pointer (some (ad g (AM perm 2))),.pointer (some (ad g (AM perm 3)))])):=by
 rcases (show perm=0\/perm=1\/perm=2\/perm=3\/perm=4\/perm=5 by omega) with rfl|rfl|rfl|rfl|rfl|rfl;.exact RL g w
 .exact RP g w
 .exact RE g w
 .exact R7 g w
 .exact RS g w
 .exact RO g w
theorem KH (x:Int) (w:World):UO 116 #[iv x] w λe g=>e=.returned (.bool (BP x))/\g=w:=by
 by_cases d:1<=x
 .have a:=decide_eq_true d;by_cases f:x<=2000000000
  .have c:=decide_eq_true f;have b:BP x=true:=by unfold BP;rw[a,c];rfl
   rw[b];clear b;go_enter func116,ntmps116;go_wp2;go_ret;exact⟨rfl,rfl⟩
  .have c:=decide_eq_false f;have b:BP x=false:=by unfold BP;rw[a,c];rfl
   rw[b];clear b;go_enter func116,ntmps116;go_wp2;go_ret;exact⟨rfl,rfl⟩
 .have a:=decide_eq_false d;have b:BP x=false:=by unfold BP;rw[a];rfl
  rw[b];clear b;go_enter func116,ntmps116;go_wp2;go_ret;exact⟨rfl,rfl⟩
theorem FR (q:Qd) (w:World):UO 81 #[qv q] w (UP w (.bool (AQ q))):=by
 unfold AQ qv;have f:BP q.s=false\/(BP q.s=true/\BP q.p=false)\/(BP q.s=true/\BP q.p=true/\BP q.o=false)\/(BP q.s=true/\BP q.p=true/\BP q.o=true/\BP q.g=false)\/(BP q.s=true/\BP q.p=true/\BP q.o=true/\BP q.g=true):=by cases BP q.s <;> cases BP q.p <;> cases BP q.o <;> cases BP q.g <;> simp
 rcases f with a|⟨a,b⟩|⟨a,b,c⟩|⟨a,b,c,d⟩|⟨a,b,c,d⟩;all_goals
  have h:=a
  go_enter func81,ntmps81
  go_wp2_with (first
   | (go_at_call 116;refine (KH _ _).mono ?_;rintro e i ⟨rfl,rfl⟩)
   | go_in)
  go_ret
  exact⟨by simp_all,(Aa _ _).trans ((Aa _ _).mono (by simp))⟩
theorem QV (perm:Nat) (a:perm<6) (k:ByteArray) (i:Nat) (hi:i<4):OT perm k i (AM perm i)=0:=by unfold OT;rw[if_neg];rcases (show perm=0\/perm=1\/perm=2\/perm=3\/perm=4\/perm=5 by omega) with rfl|rfl|rfl|rfl|rfl|rfl <;> rcases (show i=0\/i=1\/i=2\/i=3 by omega) with rfl|rfl|rfl|rfl <;> decide
def QL (perm:Nat) (k:ByteArray) (i n:Nat):Array Value:=(NV perm k i).setIfInBounds (AM perm i) (iv (F5 k i n))
theorem Pd (perm:Nat) (a:perm<6) (k:ByteArray) (i:Nat) (hi:i<4):QL perm k i 0=NV perm k i:=by have h:=QV perm a k i hi;have b:=DL perm a i hi;unfold QL;show (NV perm k i).setIfInBounds (AM perm i) (iv 0)=_;rw[<- h];unfold NV;generalize AM perm i=o at b ⊢;rcases (show o=0\/o=1\/o=2\/o=3 by omega) with rfl|rfl|rfl|rfl <;> simp
theorem PV (perm:Nat) (a:perm<6) (k:ByteArray) (i:Nat) (hi:i<4):QL perm k i 4=NV perm k (i+1):=M4 perm a k i hi
theorem Rp (perm:Nat) (b:perm<6) (k:ByteArray) (i:Nat) (hi:i<4) (n:Nat):(QL perm k i n)[AM perm i]?=some (iv (F5 k i n)):=by have a:=DL perm b i hi;unfold QL;rw[Array.getElem?_setIfInBounds_self_of_lt (by simpa[NV] using a)]
theorem Rg (perm:Nat) (k:ByteArray) (i n:Nat):(QL perm k i n).setIfInBounds (AM perm i) (iv (F5 k i (n+1)))=QL perm k i (n+1):=by unfold QL;simp
theorem Sx (x b:Int) (k:0<=x) (g:x<4294967296) (f:0<=b) (e:b<256):bits .or .i64 (x*256) b=256*x+b:=by
 obtain⟨X,rfl⟩:∃X:Nat,x=(X:Int):=⟨x.toNat,by omega⟩;obtain⟨B,rfl⟩:∃B:Nat,b=(B:Int):=⟨b.toNat,by omega⟩;have c:∀a:Nat,a<1099511627776->(BitVec.ofInt 64 (a:Int)).toNat=a:=λa j=>by rw[BitVec.ofInt_natCast,BitVec.toNat_ofNat];exact Nat.mod_eq_of_lt (by omega)
 have d:((X:Int)*256)=((X*256:Nat):Int):=by omega
 rw[d];show IntKind.i64.wrap ((BitVec.ofInt 64 ((X*256:Nat):Int) ||| BitVec.ofInt 64 (B:Int)).toNat:Int)=_;rw[BitVec.toNat_or,c _ (by omega),c _ (by omega),Uv];have h:=Nat.shiftLeft_add_eq_or_of_lt (i:=8) (b:=B) (by omega) X;rw[Nat.shiftLeft_eq,show (2:Nat) ^ 8=256 by rfl] at h;rw[<- h];omega
structure SO (w W:World) (A:Array Value):Prop where
 rb:Bx W w.heap.size 34 #[iv 0,iv 0,iv 0,iv 0]
 qb:Bx W (w.heap.size+1) 34 A
 bel:Bl w W
theorem SO.keep {w W b : World} {A:Array Value} (h:SO w W A) (a:Bl W b):SO w b A:=
 ⟨(a.block _ h.rb.lt).trans h.rb,(a.block _ h.qb.lt).trans h.qb,h.bel.trans (a.mono h.bel.size)⟩
theorem Lw (w:World) (e:TypeId) (s:ByteArray):Bl w (Go.Lib.bytesWorld w e s):=
 ⟨rfl,rfl,rfl,by rw[Go.Lib.bytesWorld_size];omega,λk a=>Go.Lib.bytesWorld_at_old w e s k a⟩
theorem SL (k:ByteArray) (i j:Nat) (f:j<4) (g:(i+1)*4<=k.size):kb k (4*i+j)=(((k.extract (i*4) ((i+1)*4)).data.toList.getD j 0).toNat:Int):=by
 obtain⟨b,e,a⟩:=E0 (k:=k) (i:=4*i+j) (by omega);rw[a];have c:k.data[4*i+j]?=some b:=by rw[<- e];first|rfl|simp
 have d:(k.extract (i*4) ((i+1)*4)).data.toList.getD j 0=b:=by simp only[ByteArray.data_extract,Uw,Array.getElem?_toList,Array.getElem?_extract];rw[if_pos (by have:k.data.size=k.size:=rfl;omega),show i*4+j=4*i+j by omega,c];rfl
 rw[d]
def Oc (perm g:Nat):Array Value:=#[.pointer (some (ad g (AM perm 0))),.pointer (some (ad g (AM perm 1))),.pointer (some (ad g (AM perm 2))),.pointer (some (ad g (AM perm 3)))]
theorem LM (perm:Nat) (M:perm<6) (key:ByteArray) (hk:key.size=16) (w:World):UO 73 #[.func (.func (BY perm)) #[] #[],.string key] w (UP w (qv (Al perm key))):=by
 have HL:U (∀W:World,UO (BY perm) #[pt (w.heap.size+1)] W (UP W (.agg (Oc perm (w.heap.size+1))))):=λW=>Ku perm M _ W;have m:=Ae (ai hk M);have aa:∀l W,(callFunc (BY perm) l).run prog W=.ok (.enter (BY perm) l) W:=λl W=>by rcases (show perm=0\/perm=1\/perm=2\/perm=3\/perm=4\/perm=5 by omega) with rfl|rfl|rfl|rfl|rfl|rfl <;> rfl
 clear M;go_enter func73,ntmps73;go_wp2_with fail
 (with_reducible refine (HL.o _).mono ?_)
 rintro e w1 ⟨rfl,p⟩;have Q0:U (SO w w1 (NV perm key 0)):=by have b1:=Bx.new w #[iv 0,iv 0,iv 0,iv 0] 34;have b2:=Bx.new (w.alloc (.cells #[iv 0,iv 0,iv 0,iv 0] 34)) #[iv 0,iv 0,iv 0,iv 0] 34;simp only[UF] at b2;exact⟨(p.block _ (by simp;omega)).trans (b1.alloc _),(p.block _ (by simp)).trans b2,(((Aa _ _).alloc (by simp) _)).trans (p.mono (by simp;omega))⟩
 clear p HL;go_wp2_with fail
 go_loopw [6,7,9,12] (λ_ _ _ i wr=>∃K:Nat,K<=4/\i=iv K/\SO w wr (NV perm key K)) (λ_ _ _ i _=>4-(intOf i).toNat)
 case atStart=>exact⟨0,by omega,rfl,Q0.o⟩
 case round=>
  obtain⟨i,hi,rfl,E⟩:=hrel;obtain⟨C,rfl⟩:=gn wr;have f:=Ae E;clear E Q0;by_cases y:i<4
  .have I:∀W:World,(Instr.index 156 (.agg (Oc perm (w.heap.size+1))) (iv (i:Int))).run prog W=.ok (.pointer (some (ad (w.heap.size+1) (AM perm i)))) W:=λW=>by rcases (show i=0\/i=1\/i=2\/i=3 by omega) with rfl|rfl|rfl|rfl <;> rfl
   have e4:((i:Int)*4).toNat=i*4:=by omega
   have e5:(((i:Int)+1)*4).toNat=(i+1)*4:=by omega
   have F:∀W:World,(Instr.slice 9 (.string key) (some (iv ((i:Int)*4))) (some (iv (((i:Int)+1)*4))) none).run prog W=.ok (.string (key.extract (i*4) ((i+1)*4))) W:=λW=>by
    have g1:(0:Int)<=(i:Int)*4:=by omega
    have g2:(0:Int)<=((i:Int)+1)*4:=by omega
    have g3:((i:Int)+1)*4<=(key.size:Int):=by rw[m.o.1];omega
    have g4:(i:Int)<=(i:Int)+1:=by omega
    simp[Instr.slice,go_sem,e4,e5,g1,g2,g3,g4]
   obtain⟨c,d⟩:=gn (key.extract (i*4) ((i+1)*4));rw[<- d] at F;have u:c.size=4:=by rw[d,ByteArray.size_extract,m.o.1];omega
   have O:∀W:World,(convert 9 47 (.string c)).run prog W=.ok (.slice (some (ad W.heap.size 0)) 4 (grownCap W 4 0 5)) (Go.Lib.bytesWorld W 5 c):=λW=>by have h:=Go.Lib.run_convert_string_bytes (P:=prog) W 9 47 5 c rfl rfl rfl;rw[u] at h;exact h
   have r:=Ae (ai d u);clear d u e4 e5;go_wp2;have k:U (SO w (Go.Lib.bytesWorld C 5 c) (QL perm key i 0)/\∀j,j<4->(Go.Lib.bytesWorld C 5 c).cell? (ad C.heap.size j)=some (.int .u8 (kb key (4*i+j)))):=by
    refine⟨?_,λj J=>?_⟩;.rw[Pd perm m.o.2 key i y];exact f.o.keep (Lw _ _ _)
    .rw[Go.Lib.bytesWorld_cell _ _ _ _ (by rw[r.o.2];exact J),r.o.1];exact congrArg (λx=>some (Value.int .u8 x)) (SL key i j J (by rw[m.o.1];omega)).symm
   obtain⟨g,S⟩:=gn C.heap.size;have HG:U (w.heap.size+1<g):=by rw[S];exact f.o.qb.lt
   rw[<- S] at k ⊢;clear S;obtain⟨cp,G⟩:=gn (grownCap C 4 0 5);rw[<- G];clear G O F I;generalize Go.Lib.bytesWorld C 5 c=W2 at k ⊢;go_loopw [9,25] (λ_ n wr=>∃Z:Nat,Z<=4/\n=iv Z/\SO w wr (QL perm key i Z)/\∀j,j<4->wr.cell? (ad g j)=some (.int .u8 (kb key (4*i+j)))) (λ_ n _=>4-(intOf n).toNat)
   case atStart=>exact⟨0,by omega,rfl,k.o.1,k.o.2⟩
   case round=>
    obtain⟨n,hn,rfl,E,hc⟩:=hrel;obtain⟨W3,rfl⟩:=gn wr;have s:=Ae (ai E hc);clear E hc k;by_cases T:n<4
    .have c1:=s.o.2 n T;have H:=Dv key (4*i+n);obtain⟨b,L⟩:=gn (kb key (4*i+n));have Y:=Ae L;rw[<- L] at c1 H;clear L;have c2:=s.o.1.qb.cell (AM perm i);rw[Rp perm m.o.2 key i y n] at c2;have D:=JC key i n hn;obtain⟨x,X⟩:=gn (F5 key i n);have HX:=Ae X;rw[<- X] at D c2;clear X;have f2:=s.o.1.qb.frozen (AM perm i);have l2:=s.o.1.qb.lt;have n0:(0:Int)<=(n:Int):=by omega
     have n1:(n:Int)<4:=by omega
     have HN:U (256*x+b=F5 key i (n+1)):=by show 256*x+b=F5 key i (n+1);rw[HX.o,Y.o];rfl
     obtain⟨N,V⟩:=D;obtain⟨R,Q⟩:=H;go_wp2;go_roundw;case rel=>
      refine⟨n+1,by omega,by go_num,?_,λj J=>?_⟩;.rw[Sx x b N V R Q,HN.o];have q:=s.o.1;refine⟨q.rb.other (by simp) _,?_,q.bel.setCell (by simp) _⟩;have e:=q.qb.set (AM perm i) (iv (F5 key i (n+1)));rw[Rg] at e;exact e
      .rw[<- s.o.2 j J];exact World.cell?_of_block (a:=(ad g j)) (Ur _ _ _ _ (by have:=HG.o;simp;omega))
     case measure=>simp[intOf];omega
    .obtain rfl:n=4:=by omega
     go_wp2;go_roundw;case rel=>refine⟨i+1,by omega,by go_num,?_⟩;rw[<- PV perm m.o.2 key i y];exact s.o.1
     case measure=>simp[intOf];omega
  .obtain rfl:i=4:=by omega
   have p0:=f.o.qb.cell 0;have p1:=f.o.qb.cell 1;have p2:=f.o.qb.cell 2;have p3:=f.o.qb.cell 3;rw[Dh perm key 4 0 (by omega),DP perm m.o.2 key 0 (by omega)] at p0;rw[Dh perm key 4 1 (by omega),DP perm m.o.2 key 1 (by omega)] at p1;rw[Dh perm key 4 2 (by omega),DP perm m.o.2 key 2 (by omega)] at p2;rw[Dh perm key 4 3 (by omega),DP perm m.o.2 key 3 (by omega)] at p3;obtain⟨q0,A⟩:=gn (pk key (CK perm 0));obtain⟨q1,z⟩:=gn (pk key (CK perm 1));obtain⟨q2,B⟩:=gn (pk key (CK perm 2));obtain⟨q3,t⟩:=gn (pk key (CK perm 3));rw[<- A] at p0;rw[<- z] at p1;rw[<- B] at p2;rw[<- t] at p3;have HV:U (qv (Al perm key)=.agg #[iv q0,iv q1,iv q2,iv q3]):=by show qv (Al perm key)=_;rw[A,z,B,t];rfl
   clear A z B t;have z0:=f.o.rb.cell 0;have z1:=f.o.rb.cell 1;have z2:=f.o.rb.cell 2;have z3:=f.o.rb.cell 3;simp at z0 z1 z2 z3;have zf:=λi=>f.o.rb.frozen i;have zl:=f.o.rb.lt;have HB:=Ae f.o.bel;go_wp2;refine bodyPost_ret (v:=.agg #[iv q0,iv q1,iv q2,iv q3]) (by simp[results,results73,go_sem,z0,z1,z2,z3]) rfl ⟨by rw[HV.o],?_⟩;exact (((HB.o.setCell (by simp) _).setCell (by simp) _).setCell (by simp) _).setCell (by simp) _
end Go.Proofs.YtcnollkkigiobaaGreat
