import Derived.Test.YtcnollkkigiobaaGreatNv26
import Derived.Test.YtcnollkkigiobaaGreatNv27
set_option linter.unusedVariables false
set_option linter.unusedSimpArgs false
set_option maxRecDepth 100000
set_option maxHeartbeats 90000000
namespace Go.Proofs.YtcnollkkigiobaaGreat
open Go Go.Deep Go.RowKit Go.Proofs.Tryz
theorem info5k:(prog.info? 5).map (λi=>(i.zero,i.size,i.bytes))=some (some (.int .u8 0),1,1):=by kernel_rfl
def kI (x:Nat->Int):Nat->List Int
 | 0=>[]
 | i+1=>kI x i++[x i / 16777216,x i / 65536 % 256,x i / 256 % 256,x i % 256]
theorem Mn (x:Nat->Int):∀i,(kI x i).length=4*i
 | 0=>rfl
 | i+1=>by
  show (kI x i++_).length=_
  rw[Uz,Mn x i]
  rfl
theorem SG (x:Nat->Int) (i:Nat):strOfNums (kI x i)=FJ x i:=by
 have h:∀i,(strOfNums (kI x i)).data.toList=EJ x i:=λi=>by
  rw[strOfNums_data];induction i with
  | zero=>rfl
  | succ i ih=>show List.map _ (kI x i++_)=EJ x i++OK (x i);rw[List.map_append,ih];rfl
 have a:=h i;rw[<- Ef] at a;exact ByteArray.ext (Array.toList_inj.1 a)
def Nw (l:List Int):List Value:=l.map (Value.int .u8)
theorem QR (a b:List Int):Nw (a++b)=Nw a++Nw b:=List.map_append ..
theorem Rl (l:List Int) (i:Nat) (h:i<l.length):(Nw l)[i]?=some (.int .u8 (l.getD i 0)):=by unfold Nw;rw[UM,Ut h,Uw,Ut h];rfl
theorem El (j:Nat) (Q:j<6) (p:Qd) (Z:∀i,i<4->0<=A7 j p i/\A7 j p i<=2000000000) (w:World) :
  UO 45 #[qv p,iv (j:Int)] w (UP w (.string (AA j p))):=by
 obtain⟨i0,H,E,G,v⟩:=info_parts info5k;have J:=Ae (ai H (ai E (ai G v)));clear H E G v;have Y:=Ae (λW=>Hl j Q W);have HK:=Ae (ai Q Z);clear Q Z;unfold qv;obtain⟨f,d⟩:=gn (((w.alloc (.cells #[iv p.s,iv p.p,iv p.o,iv p.g] 34)).alloc (.cells #[iv (AM j 0:Int),iv (AM j 1:Int),iv (AM j 2:Int),iv (AM j 3:Int)] 3)).alloc (.cells #[] 5));have C:U (Bx f w.heap.size 34 #[iv p.s,iv p.p,iv p.o,iv p.g]/\Bx f (w.heap.size+1) 3 #[iv (AM j 0:Int),iv (AM j 1:Int),iv (AM j 2:Int),iv (AM j 3:Int)]/\f.ownsRow (w.heap.size+2) 5 1 (.slice (some (ad (w.heap.size+2) 0)) 0 0) 0 []/\Bl w f/\w.heap.size+2<=f.heap.size):=by have b1:=Bx.new w #[iv p.s,iv p.p,iv p.o,iv p.g] 34;have V:=Bx.new (w.alloc (.cells #[iv p.s,iv p.p,iv p.o,iv p.g] 34)) #[iv (AM j 0:Int),iv (AM j 1:Int),iv (AM j 2:Int),iv (AM j 3:Int)] 3;have q:=Aw ((w.alloc (.cells #[iv p.s,iv p.p,iv p.o,iv p.g] 34)).alloc (.cells #[iv (AM j 0:Int),iv (AM j 1:Int),iv (AM j 2:Int),iv (AM j 3:Int)] 3)) 5 (w.heap.size+2) 1 (by simp);simp only[UF] at V q;rw[d];exact⟨(b1.alloc _).alloc _,V.alloc _,q,((Aa _ _).alloc (by simp) _).alloc (by simp;omega) _,by simp⟩
 go_enter func45,ntmps45;go_wp2_with fail
 (with_reducible refine (Y.o _).mono ?_)
 rintro e w1 ⟨rfl,rfl⟩;go_upto_region 4 with fail
 rw[<- d];clear d Y;go_loopw [6,7,8] (λO i _ wr=>∃k:Nat,k<=4/\i=iv k/\wr.ownsRow (w.heap.size+2) 5 1 O (4*k) (Nw (kI (A7 j p) k))/\Below (w.heap.size+2) f wr) (λ_ i _ _=>4-(intOf i).toNat)
 case atStart=>exact⟨0,Us _,rfl,C.o.2.2.1,Up _ _⟩
 case round=>
  obtain⟨k,hk,rfl,b,a⟩:=hrel;obtain⟨T,I,er,_⟩:=Af b;subst er;have m:=Ae (ai b (ai a (Uy C.o.2.2.2.2 a.size)));have k0:(0:Int)<=(k:Int):=by omega
  by_cases z:k<4
  .have k1:(k:Int)<4:=by omega
   have r:=C.o.1.below' a (by omega);have bo:=C.o.2.1.below' a (by omega);have X:=r.cell 0;have y1:=r.cell 1;have y2:=r.cell 2;have y3:=r.cell 3;have yo:=bo.cell k;have n:(#[iv (AM j 0:Int),iv (AM j 1:Int),iv (AM j 2:Int),iv (AM j 3:Int)]:Array Value)[k]?=some (iv (AM j k:Int)):=by rcases (show k=0\/k=1\/k=2\/k=3 by omega) with rfl|rfl|rfl|rfl <;> rfl
   rw[n] at yo;simp at X y1 y2 y3;obtain⟨x,K⟩:=gn (A7 j p k);have HX:=Ae K;have t:=HK.o.2 k z;rw[<- K] at t;obtain⟨aa,ac⟩:=t;have HP:U (∀W:World,UO 65 #[.agg #[iv p.s,iv p.p,iv p.o,iv p.g],iv (AM j k:Int)] W (UP W (iv x))):=λW=>by rw[K];exact Im _ _ _ _ (AM j k) (DL j HK.o.1 k z) W
   clear K n r bo b a;go_wp2;go_region_with (go_at_call 65;(with_reducible refine (HP.o _).mono ?_);rintro e y ⟨rfl,c⟩)
   all_goals
    have L:=Ae (ai (Ag m.o.1 (Ad c)) (ai (m.o.2.1.trans ((Ad c).mono m.o.2.2)) (Uy m.o.2.2 (Ad c).size)))
    clear c X y1 y2 y3 yo m
    have h:U ((y.alloc (.cells #[.int .u8 (x / 16777216),.int .u8 (x / 65536 % 256),.int .u8 (x / 256 % 256),.int .u8 (x % 256)] 5)).ownsRow (w.heap.size+2) 5 1 (.slice T (4*k) I) (4*k) (Nw (kI (A7 j p) k))/\(∀i u,(Nw [x / 16777216,x / 65536 % 256,x / 256 % 256,x % 256])[i]?=some u->(y.alloc (.cells #[.int .u8 (x / 16777216),.int .u8 (x / 65536 % 256),.int .u8 (x / 256 % 256),.int .u8 (x % 256)] 5)).cell? (ad y.heap.size i)=some u)):=by
     refine⟨Ag L.o.1 (Aa _ _),λi u B=>?_⟩
     rw[(Bx.new y #[.int .u8 (x / 16777216),.int .u8 (x / 65536 % 256),.int .u8 (x / 256 % 256),.int .u8 (x % 256)] 5).cell i]
     simpa[Nw] using B
    have R:=L.o.2.2
    go_wp2_with (at_builtin;refine wpList_append_own_at _ rfl _ _ 47 rfl (w.heap.size+2) 5 i0 _ 1 1 underlying47 J.o.1 J.o.2.1 J.o.2.2.1 J.o.2.2.2 rfl (by decide) (.slice T (4*k) I) (4*k) (Nw (kI (A7 j p) k)) rfl h.o.1 (ad y.heap.size 0) 4 4 (Nw [x / 16777216,x / 65536 % 256,x / 256 % 256,x % 256]) rfl rfl (λi u B=>by rw[Addr.add_lit,UI];exact h.o.2 i u B) (by intro u S;simp[Nw] at S;rcases S with rfl|rfl|rfl|rfl <;> rfl) (by unfold maxLen;omega) (by omega) (by simp;omega) ?_)
    intro v7 N l D _ F
    have H7:U (N.ownsRow (w.heap.size+2) 5 1 v7 (4*(k+1)) (Nw (kI (A7 j p) (k+1)))/\Below (w.heap.size+2) f N):=by
     refine⟨?_,?_⟩
     .show N.ownsRow _ _ 1 v7 (4*k+4) (Nw (kI (A7 j p) k++[A7 j p k / 16777216,A7 j p k / 65536 % 256,A7 j p k / 256 % 256,A7 j p k % 256]))
      rw[QR,<- HX.o]
      exact l
     .exact (L.o.2.1.trans ((Aa _ _).mono R)).grown D (by simp;omega) (λg e=>(Ah L.o.1 g e).1)
    obtain⟨a7,c7,e7,_⟩:=Af l
    subst e7
    clear l D F h
    go_wp2
    go_roundw
    case rel=>exact⟨k+1,by omega,by go_num,H7.o⟩
    case measure=>simp[intOf];omega
  .obtain rfl:k=4:=by omega
   have k1:¬ ((4:Nat):Int)<4:=by omega
   obtain⟨a',c',e',hf⟩:=Af b;injection e' with e1 _ e2;subst e1 e2;obtain⟨g,rfl,hg,ae,hc⟩:=hf (by omega);have ab:(convert 47 9 (.slice (some (ad g 0)) 16 I)).run prog wr=.ok (.string (AA j p)) wr:=by
    have:=run_convert_bytes_arg (P:=prog) (w:=wr) 47 5 (by kernel_rfl) (by kernel_rfl) g 0 16 I (kI (A7 j p) 4) (Mn _ 4) (λi B=>by rw[UI];exact hc i _ (Rl _ i (by rw[Mn];exact B))) 9 (by kernel_rfl)
    rw[SG] at this;exact this
   have HB:=Ae (C.o.2.2.2.1.trans (a.mono (by omega)));clear b a hc hf m;go_wp2;go_ret;exact⟨rfl,HB.o⟩
def Co (n:Nat) (M:Nat->Nat) (T:Nat->Nat->Tn) (q:Qd):Prop:=VI n M T/\AQ q=true/\∀t,BE (M 0) (T 0) t->q∉(Ab 21 t).map (Al 0)/\(Ab 21 t).length≠300
def OE (m0:Nat) (N0:Nat->Tn) (key:ByteArray) (m:Nat) (N:Nat->Tn):Prop:=JW m0 N0 key m N\/(m=m0/\N=N0/\Gs m0 N0 key)
def TQ (w:World) (n:Nat) (M:Nat->Nat) (T:Nat->Nat->Tn) (q:Qd) (e:Ending) (w' : World):Prop:=
 Bl w w'/\((Co n M T q/\∃a c M' T' us lo hi,e=.returned (.agg #[.bool true,.slice a 6 c])/\AJ Ar w' (w.heap.size+3) (.slice a 6 c) 6 M' T' us lo hi/\∀i,i<6->OE (M i) (T i) (AA i q) (M' i) (T' i))\/
  (¬ Co n M T q/\∃a c us lo hi,e=.returned (.agg #[.bool false,.slice a n c])/\AJ Ar w' (w.heap.size+3) (.slice a n c) n M T us lo hi))
theorem Md (a:Option Addr) (n c:Nat) (M:Nat->Nat) (T:Nat->Nat->Tn) (q:Qd) (w:World) (h:Ci w a n M T) (hn:n<=1048576) (hN:BF n M T) :
  UO 17 #[.agg #[.slice a n c],qv q] w (TQ w n M T q):=by
 have HR:U (Ci w a n M T/\BF n M T):=⟨h,hN⟩;clear h hN;obtain⟨B,bp⟩:∃B,B=((w.alloc (.cells #[.slice a n c] 32)).alloc (.cells #[iv q.s,iv q.p,iv q.o,iv q.g] 34)).alloc (.cells #[.bool false,.slice none 0 0] 42):=⟨_,rfl⟩;have B0:U (Bx B w.heap.size 32 #[.slice a n c]/\Bx B (w.heap.size+1) 34 #[iv q.s,iv q.p,iv q.o,iv q.g]/\Bx B (w.heap.size+2) 42 #[.bool false,.slice none 0 0]/\Bl w B/\B.heap.size=w.heap.size+3):=by have b1:=Bx.new w #[.slice a n c] 32;have b2:=Bx.new (w.alloc (.cells #[.slice a n c] 32)) #[iv q.s,iv q.p,iv q.o,iv q.g] 34;have b3:=Bx.new ((w.alloc (.cells #[.slice a n c] 32)).alloc (.cells #[iv q.s,iv q.p,iv q.o,iv q.g] 34)) #[.bool false,.slice none 0 0] 42;simp only[UF] at b2 b3;rw[bp];exact⟨(b1.alloc _).alloc _,b2.alloc _,b3,((Aa _ _).alloc (by simp) _).alloc (by simp;omega) _,by simp⟩
 have m:U (∀W,Below (w.heap.size+3) B W->Bl w W):=λW F=>B0.o.2.2.2.1.trans (F.mono (by omega));have r:U (∀W,Below (w.heap.size+3) B W->W.cell? (ad w.heap.size 0)=some (.slice a n c)/\(W.cell? (ad (w.heap.size+1) 0)=some (iv q.s)/\W.cell? (ad (w.heap.size+1) 1)=some (iv q.p)/\W.cell? (ad (w.heap.size+1) 2)=some (iv q.o)/\W.cell? (ad (w.heap.size+1) 3)=some (iv q.g))/\W.cell? (ad (w.heap.size+2) 0)=some (.bool false)/\W.cell? (ad (w.heap.size+2) 1)=some (.slice none 0 0)/\w.heap.size+2<W.heap.size/\∀i,W.frozen? (ad (w.heap.size+2) i)=false):=λW F=>by have b1:=B0.o.1.below' F (by omega);have b2:=B0.o.2.1.below' F (by omega);have b3:=B0.o.2.2.1.below' F (by omega);exact⟨b1.cell 0,⟨b2.cell 0,b2.cell 1,b2.cell 2,b2.cell 3⟩,b3.cell 0,b3.cell 1,b3.lt,λi=>b3.frozen i⟩
 have b4:U (∀W,Below (w.heap.size+3) B W->UO 25 #[.agg #[.slice a n c]] W (O8 W (VI n M T))):=λW F=>F3 a n c M T W (HR.o.1.rd.below (m.o W F)) hn HR.o.2;have ce:U (∀W:World,UO 41 #[.agg #[iv q.s,iv q.p,iv q.o,iv q.g]] W (UP W (.bool (AQ q)))):=λW=>IC q W;have aw:U (∀W W' : World,Below (w.heap.size+3) B W->Bl W W'->Below (w.heap.size+3) B W'):=λW W' h1 h2=>h1.trans (h2.mono (by have:=h1.size;rw[B0.o.2.2.2.2] at this;exact this));unfold qv;go_enter func17,ntmps17;go_upto_region 1 with fail
 rw[<- bp];clear bp;obtain⟨x0,⟨q0,L,Z,q3⟩,_⟩:=r.o B (Up _ _);go_wp2_with fail
 (with_reducible refine (b4.o B (Up _ _)).mono ?_)
 rintro e w1 ⟨bv,rfl,cj,V⟩;have K1:U (Below (w.heap.size+3) B w1):=aw.o B w1 (Up _ _) V;have HV:U (bv=true↔VI n M T):=cj;clear V cj b4 x0 q0 L Z q3;cases bv with
 | false=>
  have ae:U (¬ Co n M T q):=λhk=>by have:=HV.o.2 hk.1;cases this
  have f0:=(r.o w1 K1.o).1;obtain⟨am,af,al,ak⟩:=(r.o w1 K1.o).2.2;have ag:U (UO 42 #[.agg #[.slice a n c]] w1 (G9 w1 n M T)):=Cv a n c M T w1 (HR.o.1.rd.below (m.o w1 K1.o)) hn HR.o.2;go_wp2_with fail
  (with_reducible refine ag.o.mono ?_)
  rintro e X ⟨az,cz,Y,lo,D,rfl,H,G⟩;have y:U (Below (w.heap.size+3) B X/\AJ Ar X (w.heap.size+3) (.slice az n cz) n M T Y lo D):=by
   have L:=K1.o;have Z:w.heap.size+3<=w1.heap.size:=by have:=L.size;rw[B0.o.2.2.2.2] at this;exact this
   exact⟨L.trans (G.mono Z),H.low (by omega)⟩
  obtain⟨Q,R,bf,bi⟩:=(r.o X y.o.1).2.2;clear f0 am af al ak H G;go_wp2;refine bodyPost_ret (v:=.agg #[.bool false,.slice az n cz]) (by simp[results,results17,go_sem,Q,R]) rfl ⟨((m.o X y.o.1).setCell (by simp;try omega) _).setCell (by simp;try omega) _,.inr ⟨ae.o,az,cz,Y,lo,D,rfl,?_⟩⟩;exact (y.o.2.setO Ar.pl (by simp) _).setO Ar.pl (by simp) _
 | true=>
 have bo:VI n M T:=HV.o.1 rfl;have e6:n=6:=bo.1;subst e6;have cc:U (VI 6 M T):=bo;clear bo HV;obtain⟨x0,⟨q0,L,Z,q3⟩,_⟩:=r.o w1 K1.o;go_wp2_with fail
 (with_reducible refine (ce.o _).mono ?_)
 rintro e d ⟨rfl,ba⟩;have K2:U (Below (w.heap.size+3) B d):=aw.o w1 d K1.o ba;clear ba ce x0 q0 L Z q3 K1;cases hgq:AQ q with
 | false=>
  have ae:U (¬ Co 6 M T q):=λhk=>by have:=hk.2.1;rw[hgq] at this;cases this
  have f0:=(r.o d K2.o).1;obtain⟨am,af,al,ak⟩:=(r.o d K2.o).2.2;have ag:U (UO 42 #[.agg #[.slice a 6 c]] d (G9 d 6 M T)):=Cv a 6 c M T d (HR.o.1.rd.below (m.o d K2.o)) hn HR.o.2;go_wp2_with fail
  (with_reducible refine ag.o.mono ?_)
  rintro e X ⟨az,cz,Y,lo,D,rfl,H,G⟩;have y:U (Below (w.heap.size+3) B X/\AJ Ar X (w.heap.size+3) (.slice az 6 cz) 6 M T Y lo D):=by
   have L:=K2.o;have Z:w.heap.size+3<=d.heap.size:=by have:=L.size;rw[B0.o.2.2.2.2] at this;exact this
   exact⟨L.trans (G.mono Z),H.low (by omega)⟩
  obtain⟨Q,R,bf,bi⟩:=(r.o X y.o.1).2.2;clear f0 am af al ak H G;go_wp2;refine bodyPost_ret (v:=.agg #[.bool false,.slice az 6 cz]) (by simp[results,results17,go_sem,Q,R]) rfl ⟨((m.o X y.o.1).setCell (by simp;try omega) _).setCell (by simp;try omega) _,.inr ⟨ae.o,az,cz,Y,lo,D,rfl,?_⟩⟩;exact (y.o.2.setO Ar.pl (by simp) _).setO Ar.pl (by simp) _
 | true=>
 obtain⟨t0,bj,bs,b8⟩:=cc.o.2.1 0 (by omega);obtain⟨L0,ay⟩:∃L0,L0=(Ab 21 t0).map (Al 0):=⟨_,rfl⟩;have bd:L0.length<=300:=by rw[ay,UD];exact bs
 have au:U (Co 6 M T q↔q∉L0/\L0.length≠300):=by
  constructor;.intro hk;have:=hk.2.2 t0 bj;rw[ay,UD];exact this
  .intro hk;refine⟨cc.o,hgq,λt ht=>?_⟩;have e:=CR ht bj;subst e;rw[ay,UD] at hk;exact hk
 obtain⟨z,C,ea,bu,bc⟩:∃z C,a=some (ad z C)/\z<w.heap.size/\∀i,i<6->∃ai ci,w.cell? (ad z (C+i))=some (.slice ai (M i) ci)/\CM EY w ai (M i) (T i):=by
  rcases HR.o.1 with h0|⟨z,C,e,hc⟩;.omega
  .obtain⟨ai,ci,s0,_⟩:=hc 0 (by omega);exact⟨z,C,e,Uo _ _ s0,hc⟩
 subst ea;have E:U (z<w.heap.size/\∀i,i<6->∃ai ci,w.cell? (ad z (C+i))=some (.slice ai (M i) ci)/\CM EY w ai (M i) (T i)):=⟨bu,bc⟩;clear bu bc;obtain⟨x0,⟨q0,L,Z,q3⟩,_⟩:=r.o d K2.o;obtain⟨a0,c0,s0,cn⟩:=E.o.2 0 (by omega);have ct : d.cell? (ad z C)=some (.slice a0 (M 0) c0):=by rw[(m.o d K2.o).cell (show ((ad z C):Addr).block<w.heap.size from E.o.1)];simpa using s0
 obtain⟨ll,bk⟩:∃ll,ll=L0.length:=⟨_,rfl⟩;have b9:U (UO 33 #[.agg #[.slice a0 (M 0) c0],iv 0] d λe w'=>∃a' c',e=.returned (.slice a' ll c')/\FX w' a' L0/\Bl d w'):=by rw[bk];exact CB 0 (by omega) a0 (M 0) c0 (T 0) t0 d (cn.rd.below (m.o d K2.o)) bj (HR.o.2 0 (by omega)).2 (λk hk=>(b8 k hk).1) bs L0 ay
 rw[<- bk] at bd au;clear s0 cn bj bs b8 ay;go_wp2_with fail
 (with_reducible refine b9.o.mono ?_)
 rintro e w3 ⟨a3,c3,rfl,b7,ch⟩;have K3:U (Below (w.heap.size+3) B w3):=aw.o d w3 K2.o ch;have bm:U (UO 43 #[.slice a3 ll c3,.agg #[iv q.s,iv q.p,iv q.o,iv q.g]] w3 λe w'=>∃b:Bool,e=.returned (.bool b)/\(b=true↔q∈L0)/\Bl w3 w'):=Fu a3 ll c3 L0 q w3 b7 bk (by omega);clear ch b9 b7 x0 q0 L Z q3 ct K2 bk;obtain⟨x0,⟨q0,L,Z,q3⟩,_⟩:=r.o w3 K3.o;go_wp2_with fail
 (with_reducible refine bm.o.mono ?_)
 rintro e j ⟨bh,rfl,cd,bz⟩;have K4:U (Below (w.heap.size+3) B j):=aw.o w3 j K3.o bz;have br:U (bh=true↔q∈L0):=cd;clear bz cd bm x0 q0 L Z q3 K3;cases bh with
 | true=>
  have ae:U (¬ Co 6 M T q):=λhk=>(au.o.1 hk).1 (br.o.1 rfl);have f0:=(r.o j K4.o).1;obtain⟨am,af,al,ak⟩:=(r.o j K4.o).2.2;have ag:U (UO 42 #[.agg #[.slice (some (ad z C)) 6 c]] j (G9 j 6 M T)):=Cv (some (ad z C)) 6 c M T j (HR.o.1.rd.below (m.o j K4.o)) hn HR.o.2;go_wp2_with fail
  (with_reducible refine ag.o.mono ?_)
  rintro e X ⟨az,cz,Y,lo,D,rfl,H,G⟩;have y:U (Below (w.heap.size+3) B X/\AJ Ar X (w.heap.size+3) (.slice az 6 cz) 6 M T Y lo D):=by
   have L:=K4.o;have Z:w.heap.size+3<=j.heap.size:=by have:=L.size;rw[B0.o.2.2.2.2] at this;exact this
   exact⟨L.trans (G.mono Z),H.low (by omega)⟩
  obtain⟨Q,R,bf,bi⟩:=(r.o X y.o.1).2.2;clear f0 am af al ak H G;go_wp2;refine bodyPost_ret (v:=.agg #[.bool false,.slice az 6 cz]) (by simp[results,results17,go_sem,Q,R]) rfl ⟨((m.o X y.o.1).setCell (by simp;try omega) _).setCell (by simp;try omega) _,.inr ⟨ae.o,az,cz,Y,lo,D,rfl,?_⟩⟩;exact (y.o.2.setO Ar.pl (by simp) _).setO Ar.pl (by simp) _
 | false=>
 by_cases aq:ll=300
 .have ap:(ll:Int)=300:=by omega
  have cf:((ll:Int) == 300)=true:=by simp[ap]
  have ae:U (¬ Co 6 M T q):=λhk=>(au.o.1 hk).2 (by first|exact aq|(rw[aq]));have f0:=(r.o j K4.o).1;obtain⟨am,af,al,ak⟩:=(r.o j K4.o).2.2;have ag:U (UO 42 #[.agg #[.slice (some (ad z C)) 6 c]] j (G9 j 6 M T)):=Cv (some (ad z C)) 6 c M T j (HR.o.1.rd.below (m.o j K4.o)) hn HR.o.2;go_wp2_with fail
  (with_reducible refine ag.o.mono ?_)
  rintro e X ⟨az,cz,Y,lo,D,rfl,H,G⟩;have y:U (Below (w.heap.size+3) B X/\AJ Ar X (w.heap.size+3) (.slice az 6 cz) 6 M T Y lo D):=by
   have L:=K4.o;have Z:w.heap.size+3<=j.heap.size:=by have:=L.size;rw[B0.o.2.2.2.2] at this;exact this
   exact⟨L.trans (G.mono Z),H.low (by omega)⟩
  obtain⟨Q,R,bf,bi⟩:=(r.o X y.o.1).2.2;clear f0 am af al ak H G;go_wp2;refine bodyPost_ret (v:=.agg #[.bool false,.slice az 6 cz]) (by simp[results,results17,go_sem,Q,R]) rfl ⟨((m.o X y.o.1).setCell (by simp;try omega) _).setCell (by simp;try omega) _,.inr ⟨ae.o,az,cz,Y,lo,D,rfl,?_⟩⟩;exact (y.o.2.setO Ar.pl (by simp) _).setO Ar.pl (by simp) _
 have ap:¬ (ll:Int)=300:=by omega
 have cf:((ll:Int) == 300)=false:=by simp[ap]
 have cl:U (Co 6 M T q):=au.o.2 ⟨λhm=>absurd (br.o.2 hm) (by decide),aq⟩;clear au br aq ap bd aw;have K6:U (Bx (j.alloc (.cells #[.slice none 0 0] 32)) j.heap.size 32 #[.slice none 0 0]/\Below (w.heap.size+3) B (j.alloc (.cells #[.slice none 0 0] 32))/\w.heap.size+3<=j.heap.size/\(j.alloc (.cells #[.slice none 0 0] 32)).heap.size=j.heap.size+1):=by
  have Z:w.heap.size+3<=j.heap.size:=by have:=K4.o.size;rw[B0.o.2.2.2.2] at this;exact this
  exact⟨Bx.new _ _ _,K4.o.trans ((Aa _ _).mono Z),Z,by simp⟩
 go_upto_region 7 with fail
 obtain⟨W6,b0⟩:∃W6,W6=j.alloc (.cells #[.slice none 0 0] 32):=⟨_,rfl⟩;rw[<- b0] at K6 ⊢;obtain⟨x,bw⟩:∃x,x=j.heap.size:=⟨_,rfl⟩;rw[<- bw] at K6 ⊢;clear b0 bw K4;go_wp2;go_loopw [7] (λi wr=>∃(k:Nat) (v:Value) (M' : Nat->Nat) (T' : Nat->Nat->Tn) (Y:List Value) (lo D:Nat->Nat),k<=6/\i=iv k/\AJ Ar wr (x+1) v k M' T' Y lo D/\Bx wr x 32 #[v]/\Below x W6 wr/\∀i,i<k->OE (M i) (T i) (AA i q) (M' i) (T' i)) (λi _=>6-(intOf i).toNat)
 case atStart=>exact⟨0,_,λ_=>0,λ_ _=>⟨false,0,λ_=>{ data:=#[] },0,λ_=>0,0⟩,[],_,_,Us _,rfl,AJ.nil _ _ _ _ _,K6.o.1,Up _ _,λi D=>absurd D (Uu _)⟩
 case round=>
  obtain⟨k,v,M',T',Y,lo,D,hk,rfl,an,a5,aa,a7⟩:=hrel;obtain⟨av,cv,ev⟩:=an.form;subst ev;have hz:=aa.size;have da:=K6.o.2.2.2;have ck:=K6.o.2.2.1;have HQ:U (AJ Ar wr (x+1) (.slice av k cv) k M' T' Y lo D/\Below x W6 wr/\x+1<=wr.heap.size/\Below (w.heap.size+3) B wr/\Bx wr x 32 #[.slice av k cv]/\∀i,i<k->OE (M i) (T i) (AA i q) (M' i) (T' i)):=⟨an,aa,by omega,K6.o.2.1.trans (aa.mono ck),a5,a7⟩;have k0:(0:Int)<=(k:Int):=by omega
  by_cases ar:k<6
  .have k1:(k:Int)<6:=by omega
   obtain⟨x1,⟨p0,p1,p2,p3⟩,_⟩:=r.o wr HQ.o.2.2.2.1;obtain⟨ai,ci,s9,cm⟩:=E.o.2 k ar;have bt:=m.o wr HQ.o.2.2.2.1;have x2:wr.cell? (ad z (C+k))=some (.slice ai (M k) ci):=by rw[bt.cell (show ((ad z (C+k)):Addr).block<w.heap.size from E.o.1)];exact s9
   have x0:wr.cell? (ad x 0)=some (.slice av k cv):=by have:=a5.cell 0;simpa using this
   obtain⟨ah,ao⟩:∃ah,ah=AA k q:=⟨_,rfl⟩;have c8:U (ah=AA k q):=ao;have bl:U (UO 45 #[.agg #[iv q.s,iv q.p,iv q.o,iv q.g],iv (k:Int)] wr.drew λe w'=>e=.returned (.string ah)/\Below wr.drew.heap.size wr.drew w'):=by rw[ao];exact El k ar q (λi D=>⟨by have:=(BS ar hgq i D).1;omega,(BS ar hgq i D).2⟩) wr.drew
   have HC:U (∀W:World,Bl wr W->UO 44 #[.agg #[.slice ai (M k) ci],.string ah] W (QG W (M k) (T k) ah)):=λW hW=>Gf ai (M k) ci (T k) ah W ((cm.below bt).below hW) (HR.o.2 k ar).1 (HR.o.2 k ar).2 (by rw[ao,Bq];unfold maxLen;omega);have bg:U (∀d:World,Bl wr d->d.cell? (ad x 0)=some (.slice av k cv)/\d.cell? (ad w.heap.size 0)=some (.slice (some (ad z C)) 6 c)/\d.cell? (ad z (C+k))=some (.slice ai (M k) ci)/\d.cell? (ad (w.heap.size+1) 0)=some (iv q.s)/\d.cell? (ad (w.heap.size+1) 1)=some (iv q.p)/\d.cell? (ad (w.heap.size+1) 2)=some (iv q.o)/\d.cell? (ad (w.heap.size+1) 3)=some (iv q.g)):=λd F=>⟨(F.cell (Uo _ _ x0)).trans x0,(F.cell (Uo _ _ x1)).trans x1,(F.cell (Uo _ _ x2)).trans x2,(F.cell (Uo _ _ p0)).trans p0,(F.cell (Uo _ _ p1)).trans p1,(F.cell (Uo _ _ p2)).trans p2,(F.cell (Uo _ _ p3)).trans p3⟩;have cg:U (∀d:World,Bl wr d->∀O:Obj,(d.alloc O).cell? (ad x 0)=some (.slice av k cv)/\(d.alloc O).cell? (ad w.heap.size 0)=some (.slice (some (ad z C)) 6 c)/\(d.alloc O).cell? (ad z (C+k))=some (.slice ai (M k) ci)/\(d.alloc O).cell? (ad (w.heap.size+1) 0)=some (iv q.s)/\(d.alloc O).cell? (ad (w.heap.size+1) 1)=some (iv q.p)/\(d.alloc O).cell? (ad (w.heap.size+1) 2)=some (iv q.o)/\(d.alloc O).cell? (ad (w.heap.size+1) 3)=some (iv q.g)):=λd h O=>bg.o _ (h.trans ((Aa d O).mono h.size));have I:∀g,(Value.slice av k cv).ownBlock=some g->x+1<=g:=λg e=>(Ah HQ.o.1.row g e).1;have bu:=E.o.1;have b5:U (∀(d j:World),Bl wr d->∀O:Obj,(d.alloc O).grownBy j (Value.slice av k cv).ownBlock->(j.cell? (ad x 0)=some (.slice av k cv)/\j.cell? (ad w.heap.size 0)=some (.slice (some (ad z C)) 6 c)/\j.cell? (ad z (C+k))=some (.slice ai (M k) ci)/\j.cell? (ad (w.heap.size+1) 0)=some (iv q.s)/\j.cell? (ad (w.heap.size+1) 1)=some (iv q.p)/\j.cell? (ad (w.heap.size+1) 2)=some (iv q.o)/\j.cell? (ad (w.heap.size+1) 3)=some (iv q.g))/\j.frozen? (ad x 0)=false/\x<j.heap.size):=λd j F O hg=>by have a8:Bx j x 32 #[.slice av k cv]:=(BB F hg I (by omega) (by have:=HQ.o.2.2.1;omega)).trans HQ.o.2.2.2.2.1;have kc:∀{p:Addr} {u:Value},p.block<x+1->wr.cell? p=some u->j.cell? p=some u:=λhp hu=>(Fs F hg I hp (Uo _ _ hu)).trans hu;exact⟨⟨by have:=a8.cell 0;simpa using this,kc (by show w.heap.size<_;omega) x1,kc (by show z<_;omega) x2,kc (by show w.heap.size+1<_;omega) p0,kc (by show w.heap.size+1<_;omega) p1,kc (by show w.heap.size+1<_;omega) p2,kc (by show w.heap.size+1<_;omega) p3⟩,a8.frozen 0,a8.lt⟩
   have HT:U (∀d:World,Bl wr d->∀O:Obj,(d.alloc O).ownsRow (x+1) 59 1 (.slice av k cv) k Y):=λd h O=>Ag (Ag HQ.o.1.row h) (Aa _ _);have HZ:U (∀d:World,Bl wr d->x+1<=d.heap.size):=λd h=>Uy HQ.o.2.2.1 h.size;have c7:wr.drew.cell? (ad x 0)=some (.slice av k cv):=x0;have c6:wr.drew.cell? (ad w.heap.size 0)=some (.slice (some (ad z C)) 6 c):=x1;have cp:wr.drew.cell? (ad z (C+k))=some (.slice ai (M k) ci):=x2;have c1:wr.drew.cell? (ad (w.heap.size+1) 0)=some (iv q.s):=p0;have cq:wr.drew.cell? (ad (w.heap.size+1) 1)=some (iv q.p):=p1;have co:wr.drew.cell? (ad (w.heap.size+1) 2)=some (iv q.o):=p2;have cw:wr.drew.cell? (ad (w.heap.size+1) 3)=some (iv q.g):=p3;clear an aa a5 a7 cm I ao s9 bt;go_wp2;refine Aj (S:=(λw'=>w'.cell? (ad x 0)=some (.slice av k cv)/\w'.cell? (ad w.heap.size 0)=some (.slice (some (ad z C)) 6 c)/\w'.cell? (ad z (C+k))=some (.slice ai (M k) ci)/\w'.cell? (ad (w.heap.size+1) 0)=some (iv q.s)/\w'.cell? (ad (w.heap.size+1) 1)=some (iv q.p)/\w'.cell? (ad (w.heap.size+1) 2)=some (iv q.o)/\w'.cell? (ad (w.heap.size+1) 3)=some (iv q.g))) 15 (by kernel_rfl) ?_ (λf=>?_);·((try dsimp only);go_keep)
   refine tz 0 rfl ?_;refine tz 1 rfl ?_;refine tz 2 rfl ?_;refine tz 3 rfl ?_;refine tz 4 rfl ?_;refine tz 5 rfl ?_;refine tz 6 rfl ?_;refine tz 7 rfl ?_;refine tz 8 rfl ?_;refine At 9 rfl (λK J=>?_);(refine BD (by rfl) 45 47 48 _ (by rfl) _ _ (by rfl) (by rfl) (λ_ _=>rfl) ?_;refine bl.o.mono ?_;rintro e w1 ⟨rfl,V⟩;refine⟨_,rfl,?_⟩;obtain⟨s0,s1,s2,s3,s4,s5,s6⟩:=bg.o w1 (Ad V))
   refine tL J (by (try dsimp only);go_keep) ?_;clear J K f;intro f;try simp only[Ay]
   refine At 10 rfl (λK J=>?_);(refine BD (by rfl) 44 46 49 _ (by rfl) _ _ (by rfl) (by rfl) (λ_ _=>rfl) ?_;refine (HC.o w1 (Ad V)).mono ?_;rintro e d ⟨ba,c9,a2,m2,c2,N2,rfl,cb,bx⟩;refine⟨_,rfl,?_⟩;have ac:U (Bl wr d):=(Ad V).trans (ba.mono (Ad V).size);obtain⟨y0,y1,y2,y3,y4,y5,y6⟩:=bg.o d ac.o)
   refine tL J (by (try dsimp only);go_keep) ?_;clear J K f;intro f;try simp only[Ay]
   refine At 11 rfl (λK J=>?_);go_simp;refine tL J (by (try dsimp only);go_keep) ?_;clear J K f;intro f;try simp only[Ay]
   refine At 12 rfl (λK J=>?_);(refine Ej (by rfl) (by rfl) (by rfl) ?_;obtain⟨z0,z1,z2,z3,z4,z5,z6⟩:=cg.o d ac.o (.cells #[.slice a2 m2 c2] 59))
   refine tL J (by (try dsimp only);go_keep) ?_;clear J K f;intro f;try simp only[Ay]
   refine At 13 rfl (λK J=>?_);(refine Dm (by rfl) (.tmp 41) (.tmp 52) (by rfl) (x+1) k (.slice av k cv) Y (by rfl) _ (HT.o d ac.o _) (by rfl) rfl (by omega) (HZ.o d ac.o) ?_;intro v4 j aj ab bn;obtain⟨a4,c4,e4,_⟩:=Af aj;subst e4;obtain⟨⟨v0,v1,v2,v3,v5,v6,v7⟩,vf,vl⟩:=b5.o d j ac.o _ ab)
   refine tL J (by (try dsimp only);go_keep) ?_;clear J K f;intro f;try simp only[Ay]
   refine At 14 rfl (λK J=>?_);go_simp;refine tL J (by (try dsimp only);go_keep) ?_;clear J K f;intro f;try simp only[Ay]
   refine At 15 rfl (λK J=>?_);go_simp;refine tM J ?_;clear J K;have H7:U ((∃P N ax a1 be,AJ Ar (j.setCell (ad x 0) (.slice a4 (k+1) c4)) (x+1) (.slice a4 (k+1) c4) (k+1) P N ax a1 be/\∀i,i<k+1->OE (M i) (T i) (AA i q) (P i) (N i))/\Bx (j.setCell (ad x 0) (.slice a4 (k+1) c4)) x 32 #[.slice a4 (k+1) c4]/\Below x W6 (j.setCell (ad x 0) (.slice a4 (k+1) c4))):=by
    have F:=ac.o;have dc:=F.size;have cx:=HQ.o.2.2.1;have db:=(Ad V).size;have I:∀g,(Value.slice av k cv).ownBlock=some g->x+1<=g:=λg e=>(Ah HQ.o.1.row g e).1;obtain⟨P,a9⟩:∃P : Nat->Nat,∀i,P i=if i=k then m2 else M' i:=⟨_,λ_=>rfl⟩;obtain⟨N,a6⟩:∃N : Nat->Nat->Tn,∀i,N i=if i=k then N2 else T' i:=⟨_,λ_=>rfl⟩;have cs:=HQ.o.1.congr (M':=P) (T':=N) (λi D=>⟨by rw[a9,if_neg (by omega)],by rw[a6,if_neg (by omega)]⟩);obtain⟨cu,c5,bq⟩:=cs.step Ar.pl cx F (l:=w1.heap.size+2) (by omega) (by rw[a9,a6,if_pos rfl,if_pos rfl];exact Ar.of cb) _ ab aj bn;have a8:Bx j x 32 #[.slice av k cv]:=(BB F ab I (by omega) (by omega)).trans HQ.o.2.2.2.2.1;refine⟨⟨P,N,_,cu,c5,bq.setO Ar.pl (by simp) _,λi D=>?_⟩,?_,?_⟩
    .rw[a9,a6];by_cases e:i=k
     .subst e;rw[if_pos rfl,if_pos rfl,<- c8.o];rcases bx with ⟨_,h⟩|⟨_,h1,h2,h3⟩;.exact .inl h
      .exact .inr ⟨h1,h2,h3⟩
     .rw[if_neg e,if_neg e];exact HQ.o.2.2.2.2.2 i (by omega)
    .have:=a8.set 0 (.slice a4 (k+1) c4);simpa using this
    .exact (((HQ.o.2.1.trans (F.mono (by omega))).trans ((Aa _ _).mono (by omega))).grown ab (by simp;omega) (λg e=>by have:=I g e;omega)).setCell (by simp) _
   clear cb bx V ba aj ab bn HT bg cg b5 HZ y0 y1 y2 y3 y4 y5 y6 z0 z1 z2 z3 z4 z5 z6 v0 v1 v2 v3 v5 v6 v7 vf vl c7 c6 cp c1 cq co cw x0 x1 x2 p0 p1 p2 p3 s0 s1 s2 s3 s4 s5 s6 HC bl ac;go_wp2;go_roundw;case rel=>obtain⟨⟨P,N,ax,a1,be,bq,cy⟩,cr,ca⟩:=H7.o;exact⟨k+1,_,P,N,ax,a1,be,by omega,by go_num,bq,cr,ca,cy⟩
   case measure=>simp[intOf];omega
  .obtain rfl:k=6:=by omega
   have k1:¬ ((6:Nat):Int)<6:=by omega
   obtain⟨_,_,Q,R,bf,bi⟩:=r.o wr HQ.o.2.2.2.1;have y1:=a5.cell 0;simp at y1;clear an aa a5 a7;go_wp2;refine bodyPost_ret (v:=.agg #[.bool true,.slice av 6 cv]) (by simp[results,results17,go_sem,Q,R]) rfl ⟨((m.o wr HQ.o.2.2.2.1).setCell (by simp;try omega) _).setCell (by simp;try omega) _,.inl ⟨cl.o,av,cv,M',T',Y,lo,D,rfl,?_,HQ.o.2.2.2.2.2⟩⟩;exact ((HQ.o.1.low (by omega)).setO Ar.pl (by simp) _).setO Ar.pl (by simp) _
variable {A:Array Value}{M:Nat->Nat}{w:World}
def TN (lo hi:Nat) (w:World) (d:Nat) (t:Ro d) (v:Value):Prop:=∃bs:List Nat,bs.Nodup/\CG lo w d t v bs/\(∀b,b∈bs->b<hi)/\hi<=w.heap.size
theorem TN.keep {lo hi:Nat} {w w' : World} {d:Nat} {t:Ro d} {v:Value} (h:TN lo hi w d t v) (g:w.heap.size<=w'.heap.size) (l:∀k,lo<=k->k<hi->w'.heap[k]?=w.heap[k]?):TN lo hi w' d t v:=by obtain⟨j,f,a,c,i⟩:=h;exact⟨j,f,a.keep (λb e=>l b (a.lt b e).1 (c b e)),c,Uy i g⟩
def XO (lo hi:Nat) (w:World) (A:Array Value) (M:Nat->Nat) (T:Nat->Nat->Tn) (q:Nat):Prop:=
 A[q*2]?=some (.func (.func (BY q)) #[] #[])/\∃(t:Ro (M q)) (t' : Ro 21) (h:Nat) (v:Value),BE (M q) (T q) t'/\Ab 21 t'=Ab (M q) t/\Aq (M q) true t h/\Am (T q) 0 (M q) t 0/\Ac (M q) t=M q/\TN lo hi w (M q) t v/\A[q*2+1]?=some v
theorem XO.keep {lo hi:Nat} {w w' : World} {A:Array Value} {M:Nat->Nat} {T:Nat->Nat->Tn} {q:Nat} (h:XO lo hi w A M T q) (g:w.heap.size<=w'.heap.size) (e:∀k,lo<=k->k<hi->w'.heap[k]?=w.heap[k]?):XO lo hi w' A M T q:=by obtain⟨d,t,m,b,v,f,c,i,j,n,a,l⟩:=h;exact⟨d,t,m,b,v,f,c,i,j,n,a.keep g e,l⟩
theorem XO.top {lo hi:Nat} {T:Nat->Nat->Tn} {q:Nat} (h:XO lo hi w A M T q):hi<=w.heap.size:=by obtain⟨g,t,i,a,v,b,c,e,f,j,⟨_,_,_,_,q⟩,d⟩:=h;exact q
structure Ioo (w W:World) (a:Option Addr) (c:Nat) (M:Nat->Nat) (T:Nat->Nat->Tn) (j:Nat) (A:Array Value) (lo hi:Nat->Nat):Prop where
 ib:Bx W w.heap.size 32 #[.slice a 6 c]
 xb:Bx W (w.heap.size+1) 109 A
 sz:A.size=12
 bel:Bl w W
 xt:∀q,q<j->XO (lo q) (hi q) W A M T q
 base:∀q,q<j->w.heap.size+2<=lo q
 ord:∀i q,i<q->q<j->hi i<=lo q
theorem Ioo.keep {w W e : World} {a:Option Addr} {c:Nat} {M:Nat->Nat} {T:Nat->Nat->Tn} {j:Nat} {A:Array Value} {lo hi:Nat->Nat} (h:Ioo w W a c M T j A lo hi) (b:Bl W e):Ioo w e a c M T j A lo hi:=
 ⟨(b.block _ h.ib.lt).trans h.ib,(b.block _ h.xb.lt).trans h.xb,h.sz,h.bel.trans (b.mono h.bel.size),λq d=>(h.xt q d).keep b.size (λk _ f=>b.block k (by have:=(h.xt q d).top;omega)),h.base,h.ord⟩
theorem Ioo.put {W:World} {a:Option Addr} {c:Nat} {T:Nat->Nat->Tn} {j:Nat} {lo hi:Nat->Nat} (h:Ioo w W a c M T j A lo hi) (X:j<6) {l:Nat} (H:w.heap.size+2<=l) (x:∀q,q<j->hi q<=l) {t:Ro (M j)} {t':Ro 21} {hh:Nat} {v:Value} (S:BE (M j) (T j) t') (N:Ab 21 t'=Ab (M j) t) (I:Aq (M j) true t hh) (J:Am (T j) 0 (M j) t 0) (V:Ac (M j) t=M j) (K:GS l W (M j) t v) :
  ∃g f,Ioo w ((W.setCell (ad (w.heap.size+1) (j*2)) (.func (.func (BY j)) #[] #[])).setCell (ad (w.heap.size+1) (j*2+1)) v) a c M T (j+1) ((A.setIfInBounds (j*2) (.func (.func (BY j)) #[] #[])).setIfInBounds (j*2+1) v) g f:=by
 have U:=h.sz;obtain⟨g,d⟩:∃g : Nat->Nat,∀i,g i=if i=j then l else lo i:=⟨_,λ_=>rfl⟩;obtain⟨f,m⟩:∃f : Nat->Nat,∀i,f i=if i=j then W.heap.size else hi i:=⟨_,λ_=>rfl⟩;have r:∀k,w.heap.size+2<=k->((W.setCell (ad (w.heap.size+1) (j*2)) (.func (.func (BY j)) #[] #[])).setCell (ad (w.heap.size+1) (j*2+1)) v).heap[k]?=W.heap[k]?:=λk r=>(Ur _ _ _ _ (by simp;omega)).trans (Ur _ _ _ _ (by simp;omega));refine⟨g,f,(h.ib.other (by simp) _).other (by simp) _,(h.xb.set _ _).set _ _,by simp[U],(h.bel.setCell (by simp) _).setCell (by simp) _,λq y=>?_,λq y=>?_,λi q o y=>?_⟩
 .rw[d,m];by_cases e:q=j
  .subst e;rw[if_pos rfl,if_pos rfl];obtain⟨D,L,p⟩:=K;refine⟨?_,t,t',hh,v,S,N,I,J,V,⟨D,L,p.keep (λb n=>r b (by have:=(p.lt b n).1;omega)),λb n=>(p.lt b n).2,by simp⟩,?_⟩;.rw[Array.getElem?_setIfInBounds_ne (by omega),Array.getElem?_setIfInBounds_self_of_lt (by omega)]
   .rw[Array.getElem?_setIfInBounds_self_of_lt (by simp;omega)]
  .rw[if_neg e,if_neg e];have n:=h.base q (by omega);obtain⟨z,s,R,O,u,E,P,B,Q,C,G,F⟩:=h.xt q (by omega);refine⟨?_,s,R,O,u,E,P,B,Q,C,G.keep (by simp) (λk Y _=>r k (by omega)),?_⟩;.rw[Array.getElem?_setIfInBounds_ne (by omega),Array.getElem?_setIfInBounds_ne (by omega)];exact z
   .rw[Array.getElem?_setIfInBounds_ne (by omega),Array.getElem?_setIfInBounds_ne (by omega)];exact F
 .rw[d];by_cases e:q=j;.rw[if_pos e];exact H
  .rw[if_neg e];exact h.base q (by omega)
 .rw[d,m,if_neg (show ¬ i=j by omega)];by_cases e:q=j;.rw[if_pos e];exact x i (by omega)
  .rw[if_neg e];exact h.ord i q o (by omega)
def MP (w:World) (a:Option Addr) (n c:Nat) (M:Nat->Nat) (T:Nat->Nat->Tn) (e:Ending) (w' : World):Prop:=
 (e=.returned (.tuple #[.pointer none,.bool false])/\¬ VI n M T/\Bl w w')\/(e=.returned (.tuple #[pt (w.heap.size+1),.bool true])/\VI n M T/\∃A lo hi,Ioo w w' a c M T 6 A lo hi)
theorem Do (a:Option Addr) (n c:Nat) (M:Nat->Nat) (T:Nat->Nat->Tn) (w:World) (h:CO w a n M T) (hn:n<=1048576) (hN:BF n M T) :
  UO 36 #[.agg #[.slice a n c]] w (MP w a n c M T):=by
 by_cases h6:n=6;case neg=>
  have a8:¬ (n:Int)=6:=by omega
  have a7:((n:Int) != 6)=true:=by simp;omega
  have R:U (¬ VI n M T):=λq=>h6 q.1;clear h hN;go_enter func36,ntmps36;go_wp2;refine bodyPost_ret (v:=.tuple #[.pointer none,.bool false]) (by simp[results,results36,go_sem]) rfl ?_;exact .inl ⟨rfl,R.o,Aa _ _⟩
 case pos=>
 subst h6;have HR:U (CO w a 6 M T/\BF 6 M T):=⟨h,hN⟩;have au:U (∀W:World,UO 62 #[] W (UP W (.agg Tj))):=II;clear h hN hn;go_enter func36,ntmps36;go_wp2_with fail
 (with_reducible refine (au.o _).mono ?_)
 rintro e w0 ⟨rfl,V⟩;have I0:U (∃A,Ioo w w0 a c M T 0 A (λ_=>0) (λ_=>0)):=by have b1:=Bx.new w #[.slice a 6 c] 32;have b2:=Bx.new (w.alloc (.cells #[.slice a 6 c] 32)) #[.nilFunc,.nilIface,.nilFunc,.nilIface,.nilFunc,.nilIface,.nilFunc,.nilIface,.nilFunc,.nilIface,.nilFunc,.nilIface] 109;simp only[UF] at b2;exact⟨_,(V.block _ (by simp;omega)).trans (b1.alloc _),(V.block _ (by simp)).trans b2,rfl,((Aa _ _).alloc (by simp) _).trans (V.mono (by simp;omega)),λq H=>absurd H (Uu _),λq H=>absurd H (Uu _),λi q _ H=>absurd H (Uu _)⟩
 clear V au;go_wp2_with fail
 go_loopw [5,6,7,8,9,10,18] (λf _ _ _ _ _ i wr=>∃(j:Nat) (A:Array Value) (lo Z:Nat->Nat),j<=6/\i=iv j/\Ioo w wr a c M T j A lo Z/\OV wr M T j f/\TE M T j) (λ_ _ _ _ _ _ i _=>6-(intOf i).toNat)
 case atStart=>obtain⟨A,h⟩:=I0.o;exact⟨0,A,_,_,by omega,rfl,h,λh=>absurd h (by omega),λq H=>absurd H (Uu _),λi _ h2=>absurd h2 (by omega)⟩
 case round=>
  obtain⟨j,A,lo,Z,hj,rfl,I,hF,hV⟩:=hrel;have HS:U (Ioo w wr a c M T j A lo Z/\TE M T j):=⟨I,hV⟩;have ao:U (OV wr M T j u5):=hF;have j0:(0:Int)<=(j:Int):=by omega
  clear hF hV I0;by_cases d:j<6
  .have j1:(j:Int)<6:=by omega
   have b0:=I.ib.cell 0;simp at b0;have bl:=I.ib.lt;have a0:=Rr j d;rcases HR.o.1.below I.bel with q|⟨bb,oo,ea,hc⟩;.omega
   obtain⟨aj,cj,s0,aw⟩:=hc j d;have N:=HR.o.2 j d;obtain⟨m,hm⟩:∃m,m=M j:=⟨_,rfl⟩;have HM:U (m=M j):=hm;have ap:U (UO 68 #[.agg #[.slice aj m cj]] wr (MX wr (M j) (T j))):=by rw[hm];exact Jn aj (M j) cj (T j) wr aw N.1 N.2
   rw[<- hm] at s0;subst ea;clear hc aw N hm I;go_wp2_with fail
   (with_reducible refine ap.o.mono ?_)
   rintro e w1 ⟨X,v,ok,rfl,hr⟩;have p:U (Ioo w w1 (some (ad bb oo)) c M T j A lo Z/\OV w1 M T j u5/\TE M T j/\wr.heap.size<=w1.heap.size/\w.heap.size+2<=wr.heap.size/\∀q,q<j->Z q<=wr.heap.size):=⟨HS.o.1.keep X,ao.o.keep X,HS.o.2,X.size,HS.o.1.xb.lt,λq H=>(HS.o.1.xt q H).top⟩;clear X ap b0 bl s0 a0 ao;cases ok with
   | false=>
    have R:U (¬ VI 6 M T):=λq=>by
     obtain⟨t,ht,_⟩:=q.2.1 j d;rcases hr with ⟨q,_⟩|⟨_,ab⟩;.cases q
     .exact ab ⟨t,ht⟩
    clear hr;go_wp2;refine bodyPost_ret (v:=.tuple #[.pointer none,.bool false]) (by simp[results,results36,go_sem]) rfl ?_;exact .inl ⟨rfl,R.o,p.o.1.bel⟩
   | true=>
    obtain⟨t,t',hh,q1,q2,q3,q4,q5,q6⟩:∃(t:Ro (M j)) (t' : Ro 21) (h:Nat),BE (M j) (T j) t'/\Ab 21 t'=Ab (M j) t/\Aq (M j) true t h/\Am (T j) 0 (M j) t 0/\Ac (M j) t=M j/\GS wr.heap.size w1 (M j) t v:=by
     rcases hr with ⟨_,q⟩|⟨q,_⟩;.exact q
     .cases q
    have g:=Ae (ai q1 (ai q2 (ai q3 (ai q4 (ai q5 q6)))));obtain⟨nb,_,ax,c0,hv⟩:=q6.tat.count;obtain⟨kl,aa⟩:=gn ((Ab (M j) t).length);have K:=Ae aa;rw[<- aa] at c0;have ar:=Ae (BK nb kl w1 c0);clear hr q1 q2 q3 q4 q5 q6 aa ax c0;obtain⟨vv,Y⟩:∃x,U (x=v):=⟨v,rfl⟩;rw[<- Y.o] at g;rcases hv with rfl|rfl;all_goals
     go_wp2_with fail
     (with_reducible refine ar.o.mono ?_)
     rintro e w2 ⟨rfl,a1⟩
     subst a1
     rw[<- Y.o]
     obtain⟨tp,a2⟩:∃tp,vv=Value.iface tp (pt nb):=⟨_,Y.o⟩
     clear Y
     subst a2
     by_cases a6:300<kl
     .have Q:(300:Int)<(kl:Int):=by omega
      have af:=decide_eq_true Q
      have R:U (¬ VI 6 M T):=λq=>by
       obtain⟨t2,ac,az,_⟩:=q.2.1 j d
       have e:=CR ac g.o.1
       subst e
       rw[g.o.2.1,<- K.o] at az
       omega
      go_wp2
      refine bodyPost_ret (v:=.tuple #[.pointer none,.bool false]) (by simp[results,results36,go_sem]) rfl ?_
      exact .inl ⟨rfl,R.o,p.o.1.bel⟩
     .have Q:¬ (300:Int)<(kl:Int):=by omega
      have af:=decide_eq_false Q
      have am:=p.o.1.sz
      obtain⟨y0,x0⟩:∃y,w2.cell? (ad (w.heap.size+1) (j*2))=some y:=⟨A[j*2],by rw[p.o.1.xb.cell,Array.getElem?_eq_getElem (by omega)]⟩
      obtain⟨y1,x1⟩:∃y,w2.cell? (ad (w.heap.size+1) (j*2+1))=some y:=⟨A[j*2+1],by rw[p.o.1.xb.cell,Array.getElem?_eq_getElem (by omega)]⟩
      have f0:=p.o.1.xb.frozen (j*2)
      have f1:=p.o.1.xb.frozen (j*2+1)
      have xl:=p.o.1.xb.lt
      obtain⟨W2,B⟩:=gn ((w2.setCell (ad (w.heap.size+1) (j*2)) (.func (.func (BY j)) #[] #[])).setCell (ad (w.heap.size+1) (j*2+1)) (.iface tp (pt nb)))
      have H2:U (∃A' z C,Ioo w W2 (some (ad bb oo)) c M T (j+1) A' z C/\OV W2 M T j u5/\UO 69 #[.pointer (some (ad (w.heap.size+1) (j*2)))] W2 (RG W2 j (Ab (M j) t))):=by
       have q6:=g.o.2.2.2.2.2.tat.mono (Uq _) (λb hB _=>⟨Uy p.o.2.2.2.2.1 hB,rfl⟩)
       obtain⟨z,C,F⟩:=p.o.1.put d p.o.2.2.2.2.1 p.o.2.2.2.2.2 g.o.1 g.o.2.1 g.o.2.2.1 g.o.2.2.2.1 g.o.2.2.2.2.1 g.o.2.2.2.2.2
       rw[<- B] at F
       refine⟨_,z,C,F,by rw[B];exact p.o.2.1.put p.o.1.xb,?_⟩
       refine Og j d (w.heap.size+1) (j*2) W2 (M j) t (.iface tp (pt nb)) hh ?_ ?_ ?_ g.o.2.2.1 ?_ (by rw[<- K.o];omega)
       .rw[F.xb.cell,Array.getElem?_setIfInBounds_ne (by omega),Array.getElem?_setIfInBounds_self_of_lt (by omega)]
       .rw[F.xb.cell,Array.getElem?_setIfInBounds_self_of_lt (by simp;omega)]
       .refine q6.mono (by rw[B];simp) (λb hB d=>⟨by rw[B];simpa using d,?_⟩)
        rw[B]
        exact (Ur _ _ _ _ (by simp;omega)).trans (Ur _ _ _ _ (by simp;omega))
       .rw[<- g.o.2.1]
        exact Bz g.o.1.2.2.2.2.1
      go_wp2_with fail
      rw[<- B]
      clear B x0 x1 f0 f1 xl am
      obtain⟨A',z,C,g1,g2,g3⟩:=H2.o
      have HA:=Ae (ai g1 g2)
      have al:=Ae g3
      clear g1 g2 g3 H2
      (with_reducible refine al.o.mono ?_)
      rintro e w3 ⟨ay,a3,c3,L,rfl,ae,ak,J⟩
      obtain⟨l,hl⟩:=gn L.length
      have s:=Ae (ai (HA.o.1.keep ae) (ai (HA.o.2.keep ae) (ai ak hl)))
      have a9:l<=300:=by
       rcases J with ⟨_,q,_⟩|⟨_,q,_⟩
       .rw[hl,q,UD,<- K.o];omega
       .rw[hl,q];simp
      rw[<- hl]
      clear ae ak hl HA al
      cases ay with
      | false=>
       have R:U (¬ VI 6 M T/\L.Nodup):=by
        rcases J with ⟨q,_⟩|⟨_,q,ab⟩
        .cases q
        .refine⟨λq=>?_,by rw[q];exact List.nodup_nil⟩
         obtain⟨t2,ac,_,an⟩:=q.2.1 j d
         have e:=CR ac g.o.1
         subst e
         rw[g.o.2.1] at an
         exact ab an
       clear J
       by_cases aq:j=0
       .have O:(j:Int)=0:=by omega
        have P:((j:Int) == 0)=true:=by simp;omega
        have E:=Ae (JO a3 l c3 L w3 s.o.2.2.1 s.o.2.2.2 (by omega) R.o.2)
        go_wp2_with fail
        (with_reducible refine E.o.mono ?_)
        rintro e w4 ⟨Bm,rfl,r,G,_⟩
        have H4:=Ae (s.o.1.bel.trans (G.mono s.o.1.bel.size))
        clear G r
        go_wp2
        refine bodyPost_ret (v:=.tuple #[.pointer none,.bool false]) (by simp[results,results36,go_sem]) rfl ?_
        exact .inl ⟨rfl,R.o.1,H4.o⟩
       .have O:¬ (j:Int)=0:=by omega
        have P:((j:Int) == 0)=false:=by simp;omega
        go_wp2
        refine bodyPost_ret (v:=.tuple #[.pointer none,.bool false]) (by simp[results,results36,go_sem]) rfl ?_
        exact .inl ⟨rfl,R.o.1,s.o.1.bel⟩
      | true=>
       have HG:U (L=(Ab (M j) t).map (Al j)/\GD j (Ab (M j) t)/\L.Nodup/\Tp j (M j) (T j)):=by
        rcases J with ⟨_,q,ag⟩|⟨q,_⟩
        .refine⟨q,ag,?_,t',g.o.1,by rw[g.o.2.1,<- K.o];omega,by rw[g.o.2.1];exact ag⟩
         rw[q]
         refine DN d ?_ (λk hk=>(ag k hk).1)
         rw[<- g.o.2.1]
         exact Bz g.o.1.2.2.2.2.1
        .cases q
       clear J
       by_cases aq:j=0
       .have O:(j:Int)=0:=by omega
        have P:((j:Int) == 0)=true:=by simp;omega
        have E:=Ae (JO a3 l c3 L w3 s.o.2.2.1 s.o.2.2.2 (by omega) HG.o.2.2.1)
        go_wp2_with fail
        (with_reducible refine E.o.mono ?_)
        rintro e w4 ⟨Bm,rfl,r,G,_⟩
        have H4:=Ae (ai (s.o.1.keep G) r)
        have S:=Ae (KQ Bm a3 l c3 L L w4 r (s.o.2.2.1.below G) s.o.2.2.2 (by omega))
        clear G r E
        go_wp2_with fail
        (with_reducible refine S.o.mono ?_)
        rintro e w5 ⟨bq,rfl,D,u⟩
        have a5:=D.2 ⟨rfl,λq H=>H⟩
        subst a5
        have H5:U (Ioo w w5 (some (ad bb oo)) c M T (j+1) A' z C/\OV w5 M T (j+1) (.map (some Bm))/\TE M T (j+1)):=by
         refine⟨H4.o.1.keep u,λ_=>⟨Bm,?_⟩,λq H=>?_,λi h1 h2=>?_⟩
         .have q1:=g.o.1
          have q2:=g.o.2.1
          have q3:=HG.o.1
          have q4:=H4.o.2.below u
          rw[<- q2] at q3
          rw[q3] at q4
          clear g K ar HG H4 S s p HS HM D
          subst aq
          exact⟨t',rfl,q1,q4⟩
         .have e:q=j:=by omega
          rw[e]
          exact HG.o.2.2.2
         .omega
        clear u D
        go_wp2
        go_roundw
        case rel=>exact⟨j+1,A',z,C,by omega,by go_num,H5.o⟩
        case measure=>simp[intOf];omega
       .have O:¬ (j:Int)=0:=by omega
        have P:((j:Int) == 0)=false:=by simp;omega
        obtain⟨Bm,t0,ef,ah,r⟩:=s.o.2.1 (by omega)
        subst ef
        have S:=Ae (KQ Bm a3 l c3 L _ w3 r s.o.2.2.1 s.o.2.2.2 (by omega))
        have a4:=Ae ah
        clear r ah
        go_wp2_with fail
        (with_reducible refine S.o.mono ?_)
        rintro e w5 ⟨bq,rfl,D,u⟩
        have HB:U (bq=true↔JS j (M j) (T j) (M 0) (T 0)):=by
         rw[HG.o.1,QP g.o.1 a4.o g.o.2.1] at D
         exact D
        have H5:=Ae (ai (s.o.1.keep u) (s.o.2.1.keep u))
        clear u D S
        cases bq with
        | false=>
         have R:U (¬ VI 6 M T):=λq=>by
          have:=HB.o.2 (q.2.2 j (by omega) d)
          cases this
         go_wp2
         refine bodyPost_ret (v:=.tuple #[.pointer none,.bool false]) (by simp[results,results36,go_sem]) rfl ?_
         exact .inl ⟨rfl,R.o,H5.o.1.bel⟩
        | true=>
         have H6:U (OV w5 M T (j+1) (.map (some Bm))/\TE M T (j+1)):=by
          refine⟨λ_=>H5.o.2 (by omega),λq H=>?_,λi h1 h2=>?_⟩
          .by_cases e:q=j
           .rw[e]
            exact HG.o.2.2.2
           .exact p.o.2.2.1.1 q (by omega)
          .by_cases e:i=j
           .rw[e]
            exact HB.o.1 rfl
           .exact p.o.2.2.1.2 i h1 (by omega)
         go_wp2
         go_roundw
         case rel=>exact⟨j+1,A',z,C,by omega,by go_num,H5.o.1,H6.o⟩
         case measure=>simp[intOf];omega
  .obtain rfl:j=6:=by omega
   have j1:¬ (6:Int)<6:=by omega
   have av:U (VI 6 M T/\∃A lo Z,Ioo w wr a c M T 6 A lo Z):=⟨⟨rfl,HS.o.2.1,HS.o.2.2⟩,A,lo,Z,HS.o.1⟩;clear I;go_wp2;refine bodyPost_ret (v:=.tuple #[pt (w.heap.size+1),.bool true]) (by simp[results,results36,go_sem]) rfl ?_;exact .inr ⟨rfl,av.o⟩
theorem Ioo.is {w W:World} {a:Option Addr} {c:Nat} {M:Nat->Nat} {T:Nat->Nat->Tn} {j:Nat} {A:Array Value} {lo hi:Nat->Nat} (h:Ioo w W a c M T j A lo hi):IS w W a c M T j A:=
 ⟨h.ib,h.xb,h.sz,h.bel,λq e=>by
  obtain⟨k,t,r,f,v,m,g,n,o,s,⟨u,_,d,_⟩,i⟩:=h.xt q e
  have l:=h.base q e
  exact⟨k,t,r,f,v,m,g,n,o,s,d.tat.mono (Uq _) (λb p _=>⟨Uy l (d.lt b p).1,rfl⟩),i⟩⟩
theorem DR (a:Option Addr) (n c:Nat) (M:Nat->Nat) (T:Nat->Nat->Tn) (w:World) (h:CO w a n M T) (f:n<=1048576) (d:BF n M T) :
  UO 36 #[.agg #[.slice a n c]] w (Nb w a n c M T):=
 (Do a n c M T w h f d).mono λe k q=>by
  rcases q with q|⟨i,g,A,l,j,b⟩
  .exact .inl q
  .exact .inr ⟨i,g,A,b.is⟩
theorem SH (a:Option Addr) (n c:Nat) (M:Nat->Nat) (T:Nat->Nat->Tn) (w:World) (h:CO w a n M T) (p:n<=1048576) (j:BF n M T) :
  UO 26 #[.agg #[.slice a n c]] w (O8 w (VI n M T)):=by
 have l:U (∀W:World,Bl w W->UO 36 #[.agg #[.slice a n c]] W (Nb W a n c M T)):=λW f=>DR a n c M T W (h.below f) p j;have g:U (∀O:Obj,Bl w (w.alloc O)):=λO=>Aa _ _;clear h j;go_enter func26,ntmps26;go_wp2_with fail
 (with_reducible refine (l.o _ (g.o _)).mono ?_)
 rintro e q m;rcases m with ⟨rfl,d,f⟩|⟨rfl,k,A,i⟩;.have b:=Ae (ai d ((g.o _).trans (f.mono (by simp))));clear d f;go_wp2;go_ret;exact⟨false,rfl,by simp[b.o.1],b.o.2⟩
 .have b:=Ae (ai k ((g.o _).trans (i.bel.mono (by simp))));clear k i;go_wp2;go_ret;exact⟨true,rfl,by simp[b.o.1],b.o.2⟩
end Go.Proofs.YtcnollkkigiobaaGreat
