import Derived.Test.YtcnollkkigiobaaGreatNv1
set_option linter.unusedVariables false
set_option linter.unusedSimpArgs false
set_option maxRecDepth 100000
set_option maxHeartbeats 90000000
namespace Go.Proofs.YtcnollkkigiobaaGreat
open Go Go.Deep Go.RowKit Go.Proofs.Tryz
variable {W2 w5:World}{d:Nat}
theorem info91 : (prog.info? 91).map (λi=>(i.zero,i.size,i.bytes))=some (some (.agg #[.bool false,.slice none 0 0,.slice none 0 0]),3,56):=by kernel_rfl
theorem N8 {K:Option Addr->Nat->Nat->(Nat->ByteArray)->Prop} {B:Nat} {f:World} {l v':Value} {S:Nat->Prop} {t:Ro d} {v:Value} (h:Av K S f d t v) (i:∀b,S b->b<f.heap.size->B<=b/\l.ownBlock≠some b) (o:Bl f W2) (r:W2.grownBy w5 l.ownBlock) (k:v'.ownBlock=l.ownBlock\/v'.ownBlock=some W2.heap.size) :
  Av K (λb=>B<=b/\v'.ownBlock≠some b) w5 d t v:=by
 have u:=o.size;have s:=r.size;refine h.mono (λ_ _ _ _ h=>h) (λb c a=>⟨(i b c a).1,?own⟩) (by omega) (λb j c a=>?cel);case own=>
  rcases k with e|e;.rw[e];exact (i b c a).2
  .rw[e];intro m;injection m with m;omega
 case cel=>have q:w5.cell? (ad b j)=W2.cell? (ad b j):=World.cell?_of_block (r.block b (by omega) (λe=>(i b c a).2 e.symm));rw[q];exact o.cell (p:=(ad b j)) a
structure Iy (w wr:World) (K:Option Addr->Nat->Nat->(Nat->ByteArray)->Prop) (d k:Nat) (ts:List (Ro d)) (x:Tn) (ka da:Option Addr) (kc dc:Nat) (ck:Option Addr) (cc:Nat) (xs:List Value):Prop where
 res:Bx wr w.heap.size 91 #[.bool false,.slice none 0 0,.slice none 0 0]
 nod:Bx wr (w.heap.size+1) 168 #[.bool x.lf,.slice ka x.kn kc,.slice da x.dn dc,iv x.ct]
 o:Bx wr (w.heap.size+2) 91 #[.bool false,.slice none 0 0,.slice ck k cc]
 own:wr.ownsRow (w.heap.size+3) 91 3 (.slice ck k cc) k xs
 kids:AN (λt v=>Av K (λb=>w.heap.size+3<=b/\(Value.slice ck k cc).ownBlock≠some b) wr d t v) ts xs
 bel:Bl w wr
 len:ts.length=k
theorem Iy.below {w wr l:World} {K:Option Addr->Nat->Nat->(Nat->ByteArray)->Prop} {d k:Nat} {ts:List (Ro d)} {x:Tn} {b i:Option Addr} {e f:Nat} {j:Option Addr} {c:Nat} {xs:List Value} (h:Iy w wr K d k ts x b i e f j c xs) (a:Bl wr l):Iy w l K d k ts x b i e f j c xs:=
 ⟨h.res.below a,h.nod.below a,h.o.below a,Ag h.own a,h.kids.mono (λt v q=>q.below a),h.bel.trans (a.mono h.bel.size),h.len⟩
theorem Iy.grow {w wr r:World} {K:Option Addr->Nat->Nat->(Nat->ByteArray)->Prop} {k:Nat} {ts:List (Ro d)} {x:Tn} {L N:Option Addr} {P M:Nat} {m:Option Addr} {s:Nat} {xs:List Value} (h:Iy w wr K d k ts x L N P M m s xs) (H:Bl wr r) {t:Ro d} {I C y:Value} (X:Av K (λb=>wr.heap.size<=b) r d t (.agg #[I,C,y])) (a:Bl r W2)
  (i:W2.grownBy w5 (Value.slice m k s).ownBlock) {a':Option Addr} {c':Nat} (G:w5.ownsRow (w.heap.size+3) 91 3 (.slice a' (k+1) c') (k+1) (xs++[I,C,y])) (A:(Value.slice a' (k+1) c').ownBlock=(Value.slice m k s).ownBlock\/(Value.slice a' (k+1) c').ownBlock=some W2.heap.size) :
  Iy w (w5.setCell (ad (w.heap.size+2) 2) (.slice a' (k+1) c')) K d (k+1) (ts++[t]) x L N P M a' c' (xs++[I,C,y]):=by
 have J:=h.below H;have F:=J.below a;have hz:=h.bel.size;have T:=H.size;have V:=a.size;have R:=i.size;have c:=Ah h.own;have U:=h.o.lt;have f:∀b,b<w.heap.size+3->(Value.slice m k s).ownBlock≠some b:=λb H e=>by have:=c b e;omega
 have O : ∀g,(Value.slice a' (k+1) c').ownBlock=some g->w.heap.size+2≠g:=λg e=>by have:=Ah G g e;omega
 refine⟨(F.res.grown i (f _ (by omega))).other (by simp) _,(F.nod.grown i (f _ (by omega))).other (by simp) _,(F.o.grown i (f _ (by omega))).set 2 _,?_,?_,?_,by rw[Uz,h.len];rfl⟩
 .refine⟨G.1,?_⟩;rcases G.2 with ⟨u,E⟩|⟨g,D,z,u,E,Q,Y⟩;.exact Or.inl ⟨u,E⟩
  .refine Or.inr ⟨g,D,z,u,E,?_,Y⟩;rw[Ur _ _ _ _ (show g≠w.heap.size+2 from by omega)];exact Q
 .have l:∀(S:Nat->Prop) (t:Ro d) (v:Value),Av K S r d t v->(∀b,S b->b<r.heap.size->w.heap.size+3<=b/\(Value.slice m k s).ownBlock≠some b)->Av K (λb=>w.heap.size+3<=b/\(Value.slice a' (k+1) c').ownBlock≠some b) (w5.setCell (ad (w.heap.size+2) 2) (.slice a' (k+1) c')) d t v:=by intro S t v q W;have u:=N8 (B:=w.heap.size+3) (v':=.slice a' (k+1) c') q W a i A;refine u.mono (λ_ _ _ _ h=>h) (λb p _=>p) (by simp[World.setCell]) (λb j p _=>?_);exact World.cell?_of_block (Ur _ _ _ _ (show b≠w.heap.size+2 by omega))
  refine AN.app (l _ _ _ X (λb p Z=>⟨by omega,λe=>by have:=c b e;omega⟩)) (J.kids.mono (λt v q=>l _ _ _ q (λb p _=>p)))
 .exact (((J.bel.trans (a.mono (by omega))).grown i (by omega) (λg e=>by have:=c g e;omega))).setCell (by simp) _
theorem Qt (K:Option Addr->Nat->Nat->(Nat->ByteArray)->Prop) (b o n c:Nat) (N:Nat->Tn) (l z:Nat->Option Addr) (KC DC:Nat->Nat) (hK:∀i,i<n->K (l i) (N i).kn (KC i) (gt (G8 (N i)))) (hn:n<=5000) (hN:∀i,i<n->Bg (N i)):∀(d:Nat) (A:Int),A=21-(d:Int)->0<=A->∀(w:World) (x:Nat) (F:Int),F=(x:Int)->x<=n->NX w b o n N l z KC DC->
  UO 96 #[.slice (some (ad b o)) n c,iv F,iv A] w (Kx (λw S t v=>Av K S w d t v) w (AV N n d x) n):=by
 intro d;induction d with
 | zero=>
  intro A hd p w x F hx au X;have a5:A=21:=by omega
  subst a5;have HX:=Ae (ai hx au);have h0:decide (F<0)=false:=decide_eq_false (by omega);clear X hK hN hd;have af:¬ F<0:=by omega
  clear hx;by_cases C:(n:Int)<=F;.have E : decide ((n:Int)<=F)=true:=decide_eq_true C;go_enter func96,ntmps96;go_wp2;refine bodyPost_ret (v:=.tuple #[.agg #[.bool false,.slice none 0 0,.slice none 0 0],iv F,.bool false]) (by simp[results,results96,go_sem]) rfl ⟨?_,_,_,_,_,_,_,_,_,_,rfl,.inl ⟨rfl,rfl⟩⟩;exact Aa _ _
  .have E : decide ((n:Int)<=F)=false:=decide_eq_false C;go_enter func96,ntmps96;go_wp2;refine bodyPost_ret (v:=.tuple #[.agg #[.bool false,.slice none 0 0,.slice none 0 0],iv F,.bool false]) (by simp[results,results96,go_sem]) rfl ⟨?_,_,_,_,_,_,_,_,_,_,rfl,.inl ⟨rfl,rfl⟩⟩;exact Aa _ _
 | succ d ih=>
  intro A hd p w x F hx au X;have HX:=Ae hx;have ay:=Ae X;have bm:=Ae hK;have a6:U (∀(w:World) (y:Nat) (yI:Int),yI=(y:Int)->y<=n->NX w b o n N l z KC DC->
   UO 96 #[.slice (some (ad b o)) n c,iv yI,iv (A+1)] w (Kx (λw S t v=>Av K S w d t v) w (AV N n d y) n)):=λw y yI hy aj X=>ih (A+1) (by omega) (by omega) w y yI hy aj X
  have af:¬ F<0:=by omega
  have h0:=decide_eq_false af;have am:¬ 20<A:=by omega
  have bi : decide (20<A)=false:=decide_eq_false am;clear ih hK X hd;by_cases I:¬ x<n
  .have C:(n:Int)<=F:=by omega
   have E : decide ((n:Int)<=F)=true:=decide_eq_true C;have Y:U (AV N n (d+1) x=none):=by show AV N n (d+1) x=none;unfold AV;rw[if_neg I]
   clear hx hN;go_enter func96,ntmps96;go_wp2;refine bodyPost_ret (v:=.tuple #[.agg #[.bool false,.slice none 0 0,.slice none 0 0],iv F,.bool false]) (by simp[results,results96,go_sem]) rfl ⟨Aa _ _,_,_,_,_,_,_,_,_,_,rfl,.inl ⟨rfl,Y.o⟩⟩
  .have I:x<n:=by omega
   have C:¬ (n:Int)<=F:=by omega
   have E : decide ((n:Int)<=F)=false:=decide_eq_false C;obtain⟨c0,c1,c2,c3,c5⟩:=ay.o x I;have hb:=Uo _ _ c0;have ac:U (Bg (N x)):=hN x I;clear hx hN;go_enter func96,ntmps96;have hx:=HX.o;subst hx;clear HX C E h0 af;have C:¬ (n:Int)<=(x:Int):=by omega
   have E : decide ((n:Int)<=(x:Int))=false:=decide_eq_false C;cases hlf:(N x).lf with
   | true=>
    rw[hlf] at c0;go_upto_region 7 with fail
    have S1:U (Bx (((w.alloc (.cells #[.bool false,.slice none 0 0,.slice none 0 0] 91)).alloc (.cells #[.bool true,.slice (l x) (N x).kn (KC x),.slice (z x) (N x).dn (DC x),iv (N x).ct] 168)).alloc (.cells #[.bool true,.slice (l x) (N x).kn (KC x),.slice none 0 0] 91)) w.heap.size 91 #[.bool false,.slice none 0 0,.slice none 0 0]/\
      Bx (((w.alloc (.cells #[.bool false,.slice none 0 0,.slice none 0 0] 91)).alloc (.cells #[.bool true,.slice (l x) (N x).kn (KC x),.slice (z x) (N x).dn (DC x),iv (N x).ct] 168)).alloc (.cells #[.bool true,.slice (l x) (N x).kn (KC x),.slice none 0 0] 91)) (w.heap.size+1) 168 #[.bool true,.slice (l x) (N x).kn (KC x),.slice (z x) (N x).dn (DC x),iv (N x).ct]/\
      Bx (((w.alloc (.cells #[.bool false,.slice none 0 0,.slice none 0 0] 91)).alloc (.cells #[.bool true,.slice (l x) (N x).kn (KC x),.slice (z x) (N x).dn (DC x),iv (N x).ct] 168)).alloc (.cells #[.bool true,.slice (l x) (N x).kn (KC x),.slice none 0 0] 91)) (w.heap.size+2) 91 #[.bool true,.slice (l x) (N x).kn (KC x),.slice none 0 0]/\
      Bl w (((w.alloc (.cells #[.bool false,.slice none 0 0,.slice none 0 0] 91)).alloc (.cells #[.bool true,.slice (l x) (N x).kn (KC x),.slice (z x) (N x).dn (DC x),iv (N x).ct] 168)).alloc (.cells #[.bool true,.slice (l x) (N x).kn (KC x),.slice none 0 0] 91))):=by
     refine⟨((Bx.new _ _ _).alloc _).alloc _,?_,?_,((Aa _ _).alloc (by simp) _).alloc (by simp;omega) _⟩
     .have q:=(Bx.new (w.alloc (.cells #[.bool false,.slice none 0 0,.slice none 0 0] 91)) #[.bool true,.slice (l x) (N x).kn (KC x),.slice (z x) (N x).dn (DC x),iv (N x).ct] 168).alloc (.cells #[.bool true,.slice (l x) (N x).kn (KC x),.slice none 0 0] 91)
      simpa using q
     .have q:=Bx.new ((w.alloc (.cells #[.bool false,.slice none 0 0,.slice none 0 0] 91)).alloc (.cells #[.bool true,.slice (l x) (N x).kn (KC x),.slice (z x) (N x).dn (DC x),iv (N x).ct] 168)) #[.bool true,.slice (l x) (N x).kn (KC x),.slice none 0 0] 91
      simpa using q
    clear c0 c1 c2 c3 c5;generalize (((w.alloc (.cells #[.bool false,.slice none 0 0,.slice none 0 0] 91)).alloc (.cells #[.bool true,.slice (l x) (N x).kn (KC x),.slice (z x) (N x).dn (DC x),iv (N x).ct] 168)).alloc (.cells #[.bool true,.slice (l x) (N x).kn (KC x),.slice none 0 0] 91))=W at S1 ⊢;obtain⟨s0,s1,s2,s3⟩:=S1.o;have y2:=s1.cell 2;have z0:=s2.cell 0;have z1:=s2.cell 1;have z2:=s2.cell 2;have f0:=s0.frozen 0;have f1:=s0.frozen 1;have f2:=s0.frozen 2;have V:=s0.cell 0;have Z:=s0.cell 1;have T:=s0.cell 2;simp at y2 z0 z1 z2 V Z T;have a7:=s0.lt;have a8:=s1.lt;have bg:=s2.lt;have bk:(N x).dn<=1048576:=ac.o.2;have HZ:U (∀v0 v1 v2,Bl w (((W.setCell (ad w.heap.size 0) v0).setCell (ad w.heap.size 1) v1).setCell (ad w.heap.size 2) v2)):=λv0 v1 v2=>((s3.setCell (Uq _) _).setCell (Uq _) _).setCell (Uq _) _;clear s0 s1 s2 s3 S1;have s:U (AV N n (d+1) x=if (N x).dn=0 then some (.inl (G8 (N x)),x+1) else none):=by
     show AV N n (d+1) x=_;conv=>lhs;unfold AV
     rw[if_pos I,if_pos hlf]
    have bf:U (K (l x) (N x).kn (KC x) (gt (G8 (N x)))):=bm.o x I;have bv:IntKind.i64.wrap ((x:Int)+1)=(x:Int)+1:=by rw[Uv];omega
    by_cases p:(N x).dn=0
    .have hq:(((N x).dn:Int) == 0)=true:=by rw[p];rfl
     have Y:U (AV N n (d+1) x=some (.inl (G8 (N x)),x+1)):=by have:=s.o;rw[if_pos p] at this;exact this
     clear s;have HD:U ((N x).dn=0):=p;clear p;go_region_held3 (λD=>D.cell? (ad (w.heap.size+1) 2)=some (.slice (z x) (N x).dn (DC x))/\D.cell? (ad (w.heap.size+2) 0)=some (.bool true)/\D.cell? (ad (w.heap.size+2) 1)=some (.slice (l x) (N x).kn (KC x))/\D.cell? (ad (w.heap.size+2) 2)=some (.slice none 0 0)) (go_keep) (fail)
     go_wp2;refine bodyPost_ret (v:=.tuple #[.agg #[.bool true,.slice (l x) (N x).kn (KC x),.slice none 0 0],iv ((x:Int)+1),.bool true]) (by simp[results,results96,go_sem,V,Z,T]) rfl ⟨(HZ.o _ _ _).drew,_,_,_,_,_,_,_,_,_,rfl,.inr ⟨rfl,_,_,Y.o,by simp,by omega,?_⟩⟩;refine⟨l x,KC x,none,0,by rw[AI],?_⟩;rw[AI];exact bf.o
    .have hq:(((N x).dn:Int) == 0)=false:=by simp;omega
     have Y:U (AV N n (d+1) x=none):=by have:=s.o;rw[if_neg p] at this;exact this
     clear s p;go_region_held3 (λD=>D.cell? (ad (w.heap.size+1) 2)=some (.slice (z x) (N x).dn (DC x))/\D.cell? (ad (w.heap.size+2) 0)=some (.bool true)/\D.cell? (ad (w.heap.size+2) 1)=some (.slice (l x) (N x).kn (KC x))/\D.cell? (ad (w.heap.size+2) 2)=some (.slice none 0 0)) (go_keep) (fail)
     go_wp2;refine bodyPost_ret (v:=.tuple #[.agg #[.bool true,.slice (l x) (N x).kn (KC x),.slice none 0 0],iv ((x:Int)+1),.bool false]) (by simp[results,results96,go_sem,V,Z,T]) rfl ⟨(HZ.o _ _ _).drew,_,_,_,_,_,_,_,_,_,rfl,.inl ⟨rfl,Y.o⟩⟩
   | false=>
    rw[hlf] at c0;have s:U (AV N n (d+1) x=if (N x).dn=0 then none else (match Cj (AV N n d) (N x).kd (x+1) (N x).dn with
      | some (H,e)=>some (.inr H,e)
      | none=>none)):=by
     show AV N n (d+1) x=_
     conv=>lhs;unfold AV
     rw[if_pos I,if_neg (by rw[hlf];simp)]
     rfl
    go_upto_region 9 with fail
    have S1:U (Iy w (((w.alloc (.cells #[.bool false,.slice none 0 0,.slice none 0 0] 91)).alloc (.cells #[.bool false,.slice (l x) (N x).kn (KC x),.slice (z x) (N x).dn (DC x),iv (N x).ct] 168)).alloc (.cells #[.bool false,.slice none 0 0,.slice none 0 0] 91)) K d 0 [] ⟨false,(N x).kn,(N x).ks,(N x).dn,(N x).kd,(N x).ct⟩ (l x) (z x) (KC x) (DC x) none 0 []):=by
     refine⟨((Bx.new _ _ _).alloc _).alloc _,?_,?_,World.ownsRow_nil _ _ _ _,trivial,((Aa _ _).alloc (by simp) _).alloc (by simp;omega) _,rfl⟩;.have q:=(Bx.new (w.alloc (.cells #[.bool false,.slice none 0 0,.slice none 0 0] 91)) #[.bool false,.slice (l x) (N x).kn (KC x),.slice (z x) (N x).dn (DC x),iv (N x).ct] 168).alloc (.cells #[.bool false,.slice none 0 0,.slice none 0 0] 91);simpa using q
     .have q:=Bx.new ((w.alloc (.cells #[.bool false,.slice none 0 0,.slice none 0 0] 91)).alloc (.cells #[.bool false,.slice (l x) (N x).kn (KC x),.slice (z x) (N x).dn (DC x),iv (N x).ct] 168)) #[.bool false,.slice none 0 0,.slice none 0 0] 91;simpa using q
    clear c0 c1 c2 c3;have be:U (Rd .i64 w (z x) (N x).dn (N x).kd):=c5;clear c5;generalize (((w.alloc (.cells #[.bool false,.slice none 0 0,.slice none 0 0] 91)).alloc (.cells #[.bool false,.slice (l x) (N x).kn (KC x),.slice (z x) (N x).dn (DC x),iv (N x).ct] 168)).alloc (.cells #[.bool false,.slice none 0 0,.slice none 0 0] 91))=W at S1 ⊢;go_wp2;go_loopw [11,12] (λq i wr=>∃(k e:Nat) (H:List (Ro d)) (ck:Option Addr) (G:Nat) (xs:List Value),k<=(N x).dn/\i=iv k/\q=iv e/\e<=n/\Cj (AV N n d) (N x).kd (x+1) k=some (H,e)/\Iy w wr K d k H ⟨false,(N x).kn,(N x).ks,(N x).dn,(N x).kd,(N x).ct⟩ (l x) (z x) (KC x) (DC x) ck G xs) (λ_ i _=>(N x).dn-(intOf i).toNat)
    case atStart=>exact⟨0,x+1,[],none,0,[],Us _,rfl,by simp,by omega,rfl,S1.o⟩
    case round=>
     obtain⟨k,e,H,ck,G,xs,hk,rfl,rfl,av,a1,a4⟩:=hrel;clear S1;have a:U (Iy w wr K d k H ⟨false,(N x).kn,(N x).ks,(N x).dn,(N x).kd,(N x).ct⟩ (l x) (z x) (KC x) (DC x) ck G xs):=a4;have aa:U (Cj (AV N n d) (N x).kd (x+1) k=some (H,e)):=a1;clear a4 a1;have y2:=a.o.nod.cell 2;have z0:=a.o.o.cell 0;have z1:=a.o.o.cell 1;have z2:=a.o.o.cell 2;have f0:=a.o.res.frozen 0;have f1:=a.o.res.frozen 1;have f2:=a.o.res.frozen 2;have V:=a.o.res.cell 0;have Z:=a.o.res.cell 1;have T:=a.o.res.cell 2;simp at y2 z0 z1 z2 V Z T;have a7:=a.o.res.lt;have a8:=a.o.nod.lt;have bg:=a.o.o.lt;have HZ:U (∀v0 v1 v2,Bl w (((wr.setCell (ad w.heap.size 0) v0).setCell (ad w.heap.size 1) v1).setCell (ad w.heap.size 2) v2)):=λv0 v1 v2=>((a.o.bel.setCell (Uq _) _).setCell (Uq _) _).setCell (Uq _) _;have bk:(N x).dn<=1048576:=ac.o.2;by_cases ak:k<(N x).dn
     .have a9:=be.o.below a.o.bel;rcases a9 with h0|⟨bd,od,ag,a3⟩;.omega
      have ar:=a3 k ak;have bo:(0:Int)<=(k:Int):=by omega
      have bs:(k:Int)<((N x).dn:Int):=by omega
      have bu:U (z x=some (ad bd od)):=ag;rw[ag] at y2;clear a3 ag;by_cases R:(N x).kd k=(e:Int)
      .rw[R] at ar;have az:U ((N x).kd k=(e:Int)):=R;clear R;go_wp2_with fail
       refine (a6.o _ e _ rfl av (ay.o.below a.o.bel)).mono ?_;rintro e1 w0 ⟨a2,M,Q,L,P,O,J,r,y,ok,rfl,hr⟩;have ah:U (Bl wr w0):=a2;have ae:U (ok=false/\AV N n d e=none\/ok=true/\∃t y',AV N n d e=some (t,y')/\y=(y' : Int)/\y'<=n/\Av K (λb=>wr.heap.size<=b) w0 d t (.agg #[.bool M,.slice Q L P,.slice O J r])):=hr;clear a2 hr z0 z1 z2 f0 f1 f2 V Z T y2 ar HZ;go_upto_region 15 with fail
       have f:U (Iy w (w0.alloc (.cells #[.bool M,.slice Q L P,.slice O J r] 91)) K d k H ⟨false,(N x).kn,(N x).ks,(N x).dn,(N x).kd,(N x).ct⟩ (l x) (z x) (KC x) (DC x) ck G xs/\Bx (w0.alloc (.cells #[.bool M,.slice Q L P,.slice O J r] 91)) w0.heap.size 91 #[.bool M,.slice Q L P,.slice O J r]/\Bl wr (w0.alloc (.cells #[.bool M,.slice Q L P,.slice O J r] 91))/\
         (∀t v,Av K (λb=>wr.heap.size<=b) w0 d t v->Av K (λb=>wr.heap.size<=b) (w0.alloc (.cells #[.bool M,.slice Q L P,.slice O J r] 91)) d t v)):=
        ⟨(a.o.below ah.o).below (Aa _ _),Bx.new _ _ _,ah.o.trans ((Aa _ _).mono ah.o.size),λt v q=>q.below (Aa _ _)⟩
       generalize (w0.alloc (.cells #[.bool M,.slice Q L P,.slice O J r] 91))=w1 at f ⊢;have z0:=f.o.1.o.cell 0;have z1:=f.o.1.o.cell 1;have z2:=f.o.1.o.cell 2;have f0:=f.o.1.res.frozen 0;have f1:=f.o.1.res.frozen 1;have f2:=f.o.1.res.frozen 2;have V:=f.o.1.res.cell 0;have Z:=f.o.1.res.cell 1;have T:=f.o.1.res.cell 2;have k0:=f.o.2.1.cell 0;have k1:=f.o.2.1.cell 1;have k2:=f.o.2.1.cell 2;simp at z0 z1 z2 V Z T k0 k1 k2;have bt:=f.o.1.o.lt;have bq:=f.o.2.1.lt;cases ok with
       | false=>
        have Y:U (AV N n (d+1) x=none):=by
         have hf:AV N n d e=none:=by
          rcases ae.o with ⟨_,h⟩|⟨h,_⟩;.exact h
          .cases h
         have q:Cj (AV N n d) (N x).kd (x+1) (k+1)=none:=by unfold Cj;rw[aa.o];simp only[if_pos az.o,hf]
         have q2:=Jk q (m:=(N x).dn) (by omega);have:=s.o;rw[q2,if_neg (by omega)] at this;exact this
        have HZ:U (∀v0 v1 v2,Bl w (((w1.setCell (ad w.heap.size 0) v0).setCell (ad w.heap.size 1) v1).setCell (ad w.heap.size 2) v2)):=λv0 v1 v2=>((f.o.1.bel.setCell (Uq _) _).setCell (Uq _) _).setCell (Uq _) _;clear s;go_wp2;refine bodyPost_ret (v:=.tuple #[.agg #[.bool false,.slice none 0 0,.slice ck k G],iv (e:Int),.bool false]) (by simp[results,results96,go_sem,V,Z,T]) rfl ⟨(HZ.o _ _ _),_,_,_,_,_,_,_,_,_,rfl,.inl ⟨rfl,Y.o⟩⟩
       | true=>
        obtain⟨i0,hi,an,ap,a0⟩:=info_parts info91;have HI:U (prog.info? 91=some i0/\i0.zero=some (.agg #[.bool false,.slice none 0 0,.slice none 0 0])/\i0.size=3/\i0.bytes=56):=⟨hi,an,ap,a0⟩;clear hi an ap a0;have HO:U ((w1.alloc (.cells #[.bool M,.slice Q L P,.slice O J r] 91)).ownsRow (w.heap.size+3) 91 3 (.slice ck k G) k xs):=Ag f.o.1.own (Aa _ _);have HC:U (∀j u,[Value.bool M,.slice Q L P,.slice O J r][j]?=some u->(w1.alloc (.cells #[.bool M,.slice Q L P,.slice O J r] 91)).cell? (((ad w1.heap.size 0):Addr).add j)=some u):=by
         intro j u hj;match j,hj with
         | 0,hj=>simp at hj;subst hj;simp[Addr.add]
         | 1,hj=>simp at hj;subst hj;simp[Addr.add]
         | 2,hj=>simp at hj;subst hj;simp[Addr.add]
        go_wp2_with (at_builtin;refine wpList_append_own_at _ rfl _ _ 89 rfl (w.heap.size+3) 91 i0 _ 3 56 underlying89 HI.o.1 HI.o.2.1 HI.o.2.2.1 HI.o.2.2.2 rfl (by decide) (.slice ck k G) k xs rfl HO.o (ad w1.heap.size 0) 1 1 [.bool M,.slice Q L P,.slice O J r] rfl rfl HC.o (by intro u hu;simp at hu;rcases hu with rfl|rfl|rfl <;> rfl) (by unfold maxLen;omega) (by omega) (by simp;omega) ?_)
        intro v' w5 ho hg _ al;obtain⟨a',c',rfl,_⟩:=Af ho;rcases ae.o with ⟨h,_⟩|⟨_,t,y',hf,hy,aj,ab⟩;.cases h
        subst hy;have bj:=(((f.o.1.o.alloc (.cells #[.bool M,.slice Q L P,.slice O J r] 91)).grown hg (λe=>by have:=Ah f.o.1.own _ e;omega)).cell 2);have bx:=(((f.o.1.o.alloc (.cells #[.bool M,.slice Q L P,.slice O J r] 91)).grown hg (λe=>by have:=Ah f.o.1.own _ e;omega)).frozen 2);have bp:w.heap.size+2<w5.heap.size:=by have:=hg.size;simp at this;omega
        have HG:U (Iy w (w5.setCell (ad (w.heap.size+2) 2) (.slice a' (k+1) c')) K d (k+1) (H++[t]) ⟨false,(N x).kn,(N x).ks,(N x).dn,(N x).kd,(N x).ct⟩ (l x) (z x) (KC x) (DC x) a' c' (xs++[.bool M,.slice Q L P,.slice O J r])):=
         a.o.grow f.o.2.2.1 (f.o.2.2.2 _ _ ab) (Aa _ _) hg ho (by simpa using al)
        have ao:U (Cj (AV N n d) (N x).kd (x+1) (k+1)=some (H++[t],y')):=by show Cj (AV N n d) (N x).kd (x+1) (k+1)=some (H++[t],y');unfold Cj;rw[aa.o];simp only[if_pos az.o,hf]
        simp at bj;clear a f HO HC aa ae ho hg al ab z0 z1 z2 f0 f1 f2 V Z T k0 k1 k2;go_wp2;go_roundw;case rel=>exact⟨k+1,y',H++[t],a',c',_,by omega,by go_num,rfl,aj,ao.o,HG.o⟩
        case measure=>simp[intOf];omega
      .have br:(!((N x).kd k == (e:Int)))=true:=by simpa using R
       have bn:((N x).kd k != (e:Int))=true:=by simpa using R
       have Y:U (AV N n (d+1) x=none):=by
        have q:Cj (AV N n d) (N x).kd (x+1) (k+1)=none:=by unfold Cj;rw[aa.o];simp only[if_neg R]
        have q2:=Jk q (m:=(N x).dn) (by omega);have:=s.o;rw[q2,if_neg (by omega)] at this;exact this
       clear s;go_wp2;refine bodyPost_ret (v:=.tuple #[.agg #[.bool false,.slice none 0 0,.slice ck k G],iv (e:Int),.bool false]) (by simp[results,results96,go_sem,V,Z,T]) rfl ⟨(HZ.o _ _ _),_,_,_,_,_,_,_,_,_,rfl,.inl ⟨rfl,Y.o⟩⟩
     .have e1:k=(N x).dn:=by omega
      subst e1;have bw:¬ (0:Int)<0:=by omega
      by_cases p:(N x).dn=0
      .have HP:=Ae p;have hq:decide ((0:Int)<((N x).dn:Int))=false:=decide_eq_false (by omega);have Y:U (AV N n (d+1) x=none):=by have:=s.o;rw[if_pos p] at this;exact this
       have bh:¬ (0:Int)<((N x).dn:Int):=by omega
       clear s p ak hk;go_upto_region 19 with fail
       go_region_held3 (λD=>D.cell? (ad (w.heap.size+1) 2)=some (.slice (z x) (N x).dn (DC x))/\D.cell? (ad (w.heap.size+2) 0)=some (.bool false)/\D.cell? (ad (w.heap.size+2) 1)=some (.slice none 0 0)/\D.cell? (ad (w.heap.size+2) 2)=some (.slice ck (N x).dn G)) (go_keep) (fail)
       go_wp2;refine bodyPost_ret (v:=.tuple #[.agg #[.bool false,.slice none 0 0,.slice ck (N x).dn G],iv (e:Int),.bool false]) (by simp[results,results96,go_sem,V,Z,T];exact HP.o) rfl ⟨(HZ.o _ _ _).drew,_,_,_,_,_,_,_,_,_,rfl,.inl ⟨rfl,Y.o⟩⟩
      .have HP:U (0<(N x).dn):=Nat.pos_of_ne_zero p;have hq:decide ((0:Int)<((N x).dn:Int))=true:=decide_eq_true (by omega);have bh:(0:Int)<((N x).dn:Int):=by omega
       have Y:U (AV N n (d+1) x=some (.inr H,e)):=by have:=s.o;rw[if_neg p,aa.o] at this;exact this
       obtain⟨a',c',ea,aq⟩:=Af a.o.own;obtain⟨g,eg,ax,ba,aw⟩:=aq p;injection ea with bb _ bc;subst bb;subst bc;subst eg;have bl:U (∀v0 v1 v2,Av K (λb=>w.heap.size<=b) (((wr.setCell (ad w.heap.size 0) v0).setCell (ad w.heap.size 1) v1).setCell (ad w.heap.size 2) v2).drew (d+1) (.inr H) (.agg #[.bool false,.slice none 0 0,.slice (some (ad g 0)) (N x).dn G])):=by intro v0 v1 v2;have q:Av K (λb=>w.heap.size+3<=b) wr (d+1) (.inr H) (.agg #[.bool false,.slice none 0 0,.slice (some (ad g 0)) (N x).dn G]):=⟨none,0,g,G,xs,by rw[a.o.len],⟨ax,by rw[a.o.len];exact AS a.o.own⟩,ba,by rw[a.o.len];omega,aw,a.o.kids.mono (λt v q=>q.mono (λ_ _ _ _ h=>h) (λb hs _=>hs.1) (Uq _) (λ_ _ _ _=>rfl))⟩;refine q.mono (λ_ _ _ _ h=>h) (λb hs _=>by omega) (by simp[World.setCell,World.drew]) (λb j hs _=>?_);refine World.cell?_of_block ?_;show (((wr.setCell (ad w.heap.size 0) v0).setCell (ad w.heap.size 1) v1).setCell (ad w.heap.size 2) v2).heap[b]?=_;rw[Ur _ _ _ _ (show b≠w.heap.size by omega),Ur _ _ _ _ (show b≠w.heap.size by omega),Ur _ _ _ _ (show b≠w.heap.size by omega)]
       clear s p ak hk aw a aq ax;go_upto_region 19 with fail
       go_region_held3 (λD=>D.cell? (ad (w.heap.size+1) 2)=some (.slice (z x) (N x).dn (DC x))/\D.cell? (ad (w.heap.size+2) 0)=some (.bool false)/\D.cell? (ad (w.heap.size+2) 1)=some (.slice none 0 0)/\D.cell? (ad (w.heap.size+2) 2)=some (.slice (some (ad g 0)) (N x).dn G)) (go_keep) (fail)
       go_wp2;refine bodyPost_ret (v:=.tuple #[.agg #[.bool false,.slice none 0 0,.slice (some (ad g 0)) (N x).dn G],iv (e:Int),.bool true]) (by simp[results,results96,go_sem,V,Z,T];exact HP.o) rfl ⟨(HZ.o _ _ _).drew,_,_,_,_,_,_,_,_,_,rfl,.inr ⟨rfl,_,_,Y.o,rfl,av,bl.o _ _ _⟩⟩
def CO (w:World) (a:Option Addr) (n:Nat) (M:Nat->Nat) (T:Nat->Nat->Tn):Prop:=
 n=0\/∃b o,a=some (ad b o)/\∀i,i<n->∃ai ci,w.cell? (ad b (o+i))=some (.slice ai (M i) ci)/\Cb w ai (M i) (T i)
theorem CO.below {w w' : World} {a:Option Addr} {n:Nat} {M:Nat->Nat} {T:Nat->Nat->Tn} (h:CO w a n M T) (e:Bl w w'):CO w' a n M T:=by
 rcases h with h|⟨b,o,rfl,f⟩;.exact Or.inl h
 .refine Or.inr ⟨b,o,rfl,λi j=>?_⟩;obtain⟨ai,l,c,k⟩:=f i j;exact⟨ai,l,by rw[e.cell (Uo _ _ c)];exact c,k.below e⟩
def BF (n:Nat) (M:Nat->Nat) (T:Nat->Nat->Tn):Prop:=∀i,i<n->M i<=1048576/\∀j,j<M i->Bg (T i j)
end Go.Proofs.YtcnollkkigiobaaGreat
namespace Go.Proofs.YtcnollkkigiobaaGreat
open Go Go.ChangeAt Go.ChangeShapes Go.Deep Go.Joins Go.RowKit Go.WideShapes Go.Proofs.Tryz
variable {B g n:Nat}{DC KC:Nat->Nat}{w:World}
theorem info59 : (prog.info? 59).map (λi=>(i.zero,i.size,i.bytes))=some (some (.agg #[.slice none 0 0]),1,24):=by kernel_rfl
end Go.Proofs.YtcnollkkigiobaaGreat
