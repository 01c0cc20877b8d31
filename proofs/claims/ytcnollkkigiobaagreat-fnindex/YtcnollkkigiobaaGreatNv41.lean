import Derived.Test.YtcnollkkigiobaaGreatNv40
set_option linter.unusedVariables false
set_option linter.unusedSimpArgs false
set_option maxRecDepth 100000
set_option maxHeartbeats 90000000
namespace Go.Proofs.YtcnollkkigiobaaGreat
open Go Go.Deep Go.RowKit Go.Proofs.Tryz
def RI (Z g:Nat) (w:World) (e:Ending) (w' : World):Prop:=
 Dw Z g w'/\w.grownBy w' (some g)/\∃a n c M T,e=.returned (.agg #[.slice a n c])/\FV (w.heap.size+1) w' a n M T/\BF n M T/\n<=6
structure AR (Z g:Nat) (w W:World):Prop where
 dr:Dw Z g W
 fr:w.grownBy W (some g)
 r:Bx W w.heap.size 32 #[.slice none 0 0]
 gl:Z<=w.heap.size
section
variable {Z g:Nat} {w W W' : World}
theorem AR.draw (h:AR Z g w W) (b:Dw Z g W') (d:W.grownBy W' (some g)):AR Z g w W':=
 ⟨b,Az h.fr d,h.r.of_block (d.block _ h.r.lt (λe=>by injection e with e;have:=b.lt;have:=h.gl;omega)),h.gl⟩
theorem AR.below (h:AR Z g w W) (b:Bl W W'):AR Z g w W':=⟨h.dr.below b,BV h.fr b,h.r.below b,h.gl⟩
theorem AR.ret (h:AR Z g w W) {a:Option Addr} {n c:Nat} {M:Nat->Nat} {T:Nat->Nat->Tn} (d:FV (w.heap.size+1) W a n M T) (i:BF n M T) (f:n<=6) (v:Value):RI Z g w (.returned (.agg #[.slice a n c])) (W.setCell (ad w.heap.size 0) v):=by have l:=h.gl;exact⟨h.dr.grown Ak (λq e=>by injection e with e;omega),AZ h.fr Ak (λq e=>by injection e with e;omega),a,n,c,M,T,rfl,d.keep (by simp[World.setCell]) (λb j _=>Ur _ _ _ _ (show b≠w.heap.size by omega)),i,f⟩
theorem AR.new (b:Dw Z g w) (d:Z<=w.heap.size):AR Z g w (w.alloc (.cells #[.slice none 0 0] 32)):=⟨b.below (Aa _ _),BM (Aa _ _) _,Bx.new _ _ _,d⟩
end
theorem Rn {Z g:Nat} {w:World} (h:Dw Z g w) (hZ:Z<=w.heap.size) (ba:Option Addr) (bn bc:Nat) (ae:bn<=1048576):UO 53 #[pt g,.slice ba bn bc] w (RI Z g w):=by
 have X:=Ae (AR.new h hZ);have z:(w.alloc (.cells #[.slice none 0 0] 32)).heap.size=w.heap.size+1:=by simp
 have B:=Ae z;clear h hZ z;go_enter func53,ntmps53;go_upto_region 1 with fail
 generalize w.alloc (.cells #[.slice none 0 0] 32)=W0 at X B ⊢;go_wp2_with fail
 refine (Eb X.o.dr 60 (by omega) (by omega)).mono ?_;rintro e w1 ⟨_,rfl,⟨x,rfl⟩,l,f⟩;have D:=Ae (X.o.draw l f);have j:U (w.heap.size+1<=w1.heap.size):=by have:=B.o;have:=f.size;show _<=_;omega
 clear l f X B;cases x
 .have HM:=Ae (Qo ba bn bc w1 ae);go_wp2_with fail
  refine HM.o.mono ?_;rintro e w2 ⟨k,rfl,ac,H,rfl⟩;go_wp2_with fail
  refine (Ow D.o.dr (by have:=D.o.gl;have:=j.o;omega) k (by omega) H).mono ?_;rintro e C ⟨l,f,nx,Y,V,dc,u,m,M,T,rfl,hx,hv⟩;have H3:=Ae (D.o.draw l f);have HX:=Ae (And.intro (hx.low (Z':=w.heap.size+1) (by have:=j.o;omega)) hv);have ab:w.heap.size+1<=C.heap.size:=by have:=j.o;have:=f.size;omega
  have af:=Ae ab;clear l f hx hv D HM j ac H;have d:U (Bl C ((C.alloc (.cells #[iv nx,.slice Y V dc] 141)).alloc (.cells #[.slice u 6 m] 32))/\Bx ((C.alloc (.cells #[iv nx,.slice Y V dc] 141)).alloc (.cells #[.slice u 6 m] 32)) (C.heap.size+1) 32 #[.slice u 6 m]):=by have b2:=Bx.new (C.alloc (.cells #[iv nx,.slice Y V dc] 141)) #[.slice u 6 m] 32;rw[UF] at b2;exact⟨(Aa _ _).alloc (by simp) _,b2⟩
  go_upto_region 4 with fail
  generalize (C.alloc (.cells #[iv nx,.slice Y V dc] 141)).alloc (.cells #[.slice u 6 m] 32)=V4 at d ⊢;have I:=Ae (H3.o.below d.o.1);have A:=Ae (And.intro (HX.o.1.below d.o.1) HX.o.2);have K:U (w.heap.size+1<=V4.heap.size):=by have:=d.o.1.size;show _<=_;omega
  go_wp2_with fail
  refine (Eb I.o.dr 14 (by omega) (by omega)).mono ?_;rintro e w5 ⟨_,rfl,⟨y,rfl⟩,l,f⟩;have q:=Ae (I.o.draw l f);have B5:=d.o.2.of_block (f.block _ d.o.2.lt (λe=>by injection e with e;have:=l.lt;have:=I.o.gl;have:=af.o;omega));have i:=Ae (ai (A.o.1.keep f.size (λb hb hl=>f.block b hl (λe=>by injection e with e;have:=l.lt;have:=I.o.gl;omega))) A.o.2);have F:U (w.heap.size+1<=w5.heap.size):=by have:=K.o;have:=f.size;show _<=_;omega
  have x0:=B5.cell 0;simp at x0;clear l f H3 I HX A d K B5;cases y;.have t:=q.o.r.cell 0;simp at t;have yf:=q.o.r.frozen;have yl:=q.o.r.lt;have N:=Ae (q.o.ret (c:=m) i.o.1 i.o.2.fit (by omega) (.slice u 6 m));clear q i;go_wp2;refine bodyPost_ret (v:=.agg #[.slice u 6 m]) (by simp[results,results53,go_sem,t]) rfl ?_;exact N.o
  .go_wp2_with fail
   refine (OF q.o.dr (by have:=q.o.gl;have:=F.o;omega) u m M T i.o.1.rdC.rd i.o.2).mono ?_;rintro e w6 ⟨Q,J,a6,n6,c6,M6,T6,rfl,S,P,aa⟩;have L:=Ae (q.o.draw Q J);have t:=L.o.r.cell 0;simp at t;have yf:=L.o.r.frozen;have yl:=L.o.r.lt;have N:=Ae (L.o.ret (c:=c6) (S.low (by have:=F.o;omega)) P aa (.slice a6 n6 c6));clear q i L Q J S P x0;go_wp2;refine bodyPost_ret (v:=.agg #[.slice a6 n6 c6]) (by simp[results,results53,go_sem,t]) rfl ?_;exact N.o
 .go_wp2_with fail
  refine (MH w1).mono ?_;rintro e w2 ⟨G,a2,c2,M2,T2,rfl,O,E⟩;have R:=Ae (D.o.below G);have t:=R.o.r.cell 0;simp at t;have yf:=R.o.r.frozen;have yl:=R.o.r.lt;have N:=Ae (R.o.ret (c:=c2) (O.low j.o) E (by omega) (.slice a2 6 c2));clear D R G O E;go_wp2;refine bodyPost_ret (v:=.agg #[.slice a2 6 c2]) (by simp[results,results53,go_sem,t]) rfl ?_;exact N.o
variable {k' o' p' s':Int}{v:Value}
def NH (Z g:Nat) (w:World) (e:Ending) (w' : World):Prop:=Dw Z g w'/\w.grownBy w' (some g)/\∃q:Qd,e=.returned (qv q)
structure PB (Z g:Nat) (w:World) (tb:Nat) (s p o k:Int) (W:World):Prop where
 dr:Dw Z g W
 fr:w.grownBy W (some g)
 t:Bx W tb 34 #[iv s,iv p,iv o,iv k]
 r:Bx W (w.heap.size+1) 34 #[iv 0,iv 0,iv 0,iv 0]
 gl:Z<=w.heap.size/\w.heap.size<=tb/\w.heap.size+1≠tb
section
variable {Z g:Nat} {w W W' : World} {tb:Nat} {s p o k:Int}
theorem PB.draw (h:PB Z g w tb s p o k W) (d:Dw Z g W') (b:W.grownBy W' (some g)):PB Z g w tb s p o k W':=by have i:=d.lt;have f:=h.gl;exact⟨d,Az h.fr b,h.t.of_block (b.block _ h.t.lt (λe=>by injection e with e;omega)),h.r.of_block (b.block _ h.r.lt (λe=>by injection e with e;omega)),f⟩
theorem PB.below (h:PB Z g w tb s p o k W) (b:Bl W W'):PB Z g w tb s p o k W':=⟨h.dr.below b,BV h.fr b,h.t.below b,h.r.below b,h.gl⟩
theorem PB.setN (h:PB Z g w tb s p o k W) (i:Nat) (e:(#[iv s,iv p,iv o,iv k]:Array Value).setIfInBounds i v=#[iv s',iv p',iv o',iv k']):PB Z g w tb s' p' o' k' (W.setCell (ad tb i) v):=by have b:=h.gl;exact⟨h.dr.grown Ak (λq e=>by injection e with e;omega),AZ h.fr Ak (λq e=>by injection e with e;omega),e ▸ h.t.set i v,h.r.other (by show w.heap.size+1≠tb;omega) _,b⟩
theorem PB.set0 (h:PB Z g w tb s p o k W) (x:Int):PB Z g w tb x p o k (W.setCell (ad tb 0) (iv x)):=h.setN 0 rfl
theorem PB.set1 (h:PB Z g w tb s p o k W) (x:Int):PB Z g w tb s x o k (W.setCell (ad tb 1) (iv x)):=h.setN 1 rfl
theorem PB.set2 (h:PB Z g w tb s p o k W) (x:Int):PB Z g w tb s p x k (W.setCell (ad tb 2) (iv x)):=h.setN 2 rfl
theorem PB.set3 (h:PB Z g w tb s p o k W) (x:Int):PB Z g w tb s p o x (W.setCell (ad tb 3) (iv x)):=h.setN 3 rfl
theorem PB.ret (h:PB Z g w tb s p o k W):NH Z g w (.returned (qv ⟨s,p,o,k⟩)) ((((W.setCell (ad (w.heap.size+1) 0) (iv s)).setCell (ad (w.heap.size+1) 1) (iv p)).setCell (ad (w.heap.size+1) 2) (iv o)).setCell (ad (w.heap.size+1) 3) (iv k)):=by have f:=h.gl;have b:∀{V:World} (i:Nat) (v:Value),(Dw Z g V/\w.grownBy V (some g))->(Dw Z g (V.setCell (ad (w.heap.size+1) i) v)/\w.grownBy (V.setCell (ad (w.heap.size+1) i) v) (some g)):=λi v d=>⟨d.1.grown Ak (λq e=>by injection e with e;omega),AZ d.2 Ak (λq e=>by injection e with e;omega)⟩;have q:=b 3 (iv k) (b 2 (iv o) (b 1 (iv p) (b 0 (iv s) ⟨h.dr,h.fr⟩)));exact⟨q.1,q.2,_,rfl⟩
theorem FX.draw {a:Option Addr} {L:List Qd} (h:FX W a L) (A:Dw Z g W) (t:W.grownBy W' (some g)):FX W' a L:=by
 rcases h with h|⟨b,rfl,d⟩;.exact .inl h
 .by_cases x:L.length=0;.exact .inl x
  .have y:b≠g:=λe=>by obtain⟨D,n,c,f,s,z,C⟩:=A;have B:=z.cur.cells.1;have q:=(d 0 (by omega)).1;subst e;rw[Nat.zero_mul] at q;rw[B] at q;injection q with q;cases q
   have l:∀j u,W.cell? (ad b j)=some u->W'.cell? (ad b j)=some u:=λj u r=>(World.cell?_of_block (a:=(ad b j)) (t.block b (Uo _ _ r) (λe=>y (by injection e with e)))).trans r;exact .inr ⟨b,rfl,λi m=>⟨l _ _ (d i m).1,l _ _ (d i m).2.1,l _ _ (d i m).2.2.1,l _ _ (d i m).2.2.2⟩⟩
end
structure QB (Z g:Nat) (w:World) (a:Option Addr) (n c:Nat) (M:Nat->Nat) (T:Nat->Nat->Tn) (s p o k:Int) (W:World):Prop where
 pb:PB Z g w (w.heap.size+2) s p o k W
 ix:Bx W w.heap.size 32 #[.slice a n c]
 im:NI (λb=>Z<=b/\b<w.heap.size) W a n M T
section
variable {Z g:Nat} {w W W' : World} {a:Option Addr} {n c:Nat} {M:Nat->Nat} {T:Nat->Nat->Tn} {s p o k:Int}
theorem QB.draw (h:QB Z g w a n c M T s p o k W) (i:Dw Z g W') (d:W.grownBy W' (some g)):QB Z g w a n c M T s p o k W':=by have m:=i.lt;have l:=h.pb.gl;exact⟨h.pb.draw i d,h.ix.of_block (d.block _ h.ix.lt (λe=>by injection e with e;omega)),h.im.keep d.size (λb j f=>⟨j,d.block b f (λe=>by injection e with e;omega)⟩)⟩
theorem QB.below (h:QB Z g w a n c M T s p o k W) (d:Bl W W'):QB Z g w a n c M T s p o k W':=⟨h.pb.below d,h.ix.below d,h.im.keep d.size (λb f e=>⟨f,d.block b e⟩)⟩
theorem QB.set (h:QB Z g w a n c M T s p o k W) {i:Nat} (e:PB Z g w (w.heap.size+2) s' p' o' k' (W.setCell (ad (w.heap.size+2) i) v)):QB Z g w a n c M T s' p' o' k' (W.setCell (ad (w.heap.size+2) i) v):=
 ⟨e,h.ix.other (by show w.heap.size≠w.heap.size+2;omega) _,h.im.keep (by simp[World.setCell]) (λb d _=>⟨d,Ur _ _ _ _ (show b≠w.heap.size+2 by omega)⟩)⟩
theorem QB.rd (h:QB Z g w a n c M T s p o k W):Ci W a n M T:=(NI.ixw (Z:=0) h.im (λ_ _=>Us _)).rdC
end
theorem P3 {Z g:Nat} {w:World} (h:Dw Z g w) (hZ:Z<=w.heap.size) (a:Option Addr) (n c:Nat) (M:Nat->Nat) (T:Nat->Nat->Tn) (hx:FV Z w a n M T) (hf:BF n M T) (hn:n<=6):UO 55 #[pt g,.agg #[.slice a n c]] w (NH Z g w):=by
 have H0:U (QB Z g w a n c M T 0 0 0 0 (((w.alloc (.cells #[.slice a n c] 32)).alloc (.cells #[iv 0,iv 0,iv 0,iv 0] 34)).alloc (.cells #[iv 0,iv 0,iv 0,iv 0] 34))):=by have d:=DB.new h 32 34 #[.slice a n c] #[iv 0,iv 0,iv 0,iv 0];have hb:=Aa ((w.alloc (.cells #[.slice a n c] 32)).alloc (.cells #[iv 0,iv 0,iv 0,iv 0] 34)) (.cells #[iv 0,iv 0,iv 0,iv 0] 34);have e:=Bx.new ((w.alloc (.cells #[.slice a n c] 32)).alloc (.cells #[iv 0,iv 0,iv 0,iv 0] 34)) #[iv 0,iv 0,iv 0,iv 0] 34;rw[UF,UF] at e;have ac:Bl w (((w.alloc (.cells #[.slice a n c] 32)).alloc (.cells #[iv 0,iv 0,iv 0,iv 0] 34)).alloc (.cells #[iv 0,iv 0,iv 0,iv 0] 34)):=((Aa _ _).alloc (by simp) _).alloc (by simp;omega) _;exact⟨⟨d.dr.below hb,BV d.fr hb,e,d.b.below hb,hZ,by omega,by omega⟩,d.a.below hb,hx.ixs.keep ac.size (λb hs hl=>⟨hs,ac.block b hl⟩)⟩
 have HF:=Ae (And.intro hf hn);have an:=Ae hZ;clear h hZ hx hf;go_enter func55,ntmps55;go_upto_region 2 with fail
 generalize ((w.alloc (.cells #[.slice a n c] 32)).alloc (.cells #[iv 0,iv 0,iv 0,iv 0] 34)).alloc (.cells #[iv 0,iv 0,iv 0,iv 0] 34)=V0 at H0 ⊢;go_wp2_with fail
 refine (Bd H0.o.pb.dr 9 (by omega) (by omega)).mono ?_;rintro e w0 ⟨_,rfl,⟨x0,rfl,-⟩,l,j⟩;have P:=Ae (H0.o.draw l j);obtain⟨X0,K⟩:∃X,IntKind.i64.wrap (1+(x0:Int))=X:=⟨_,rfl⟩;have i:=P.o.pb.t.cell 0;simp at i;have F:=P.o.pb.t.frozen;have G:=P.o.pb.t.lt;have H1:=Ae (P.o.set (P.o.pb.set0 X0));clear l j H0 P;go_upto_region 3 with fail
 generalize w0.setCell (ad (w.heap.size+2) 0) (iv X0)=V1 at H1 ⊢;clear i F G K;go_wp2_with fail
 refine (Bd H1.o.pb.dr 9 (by omega) (by omega)).mono ?_;rintro e w1 ⟨_,rfl,⟨x1,rfl,-⟩,l,j⟩;have O:=Ae (H1.o.draw l j);obtain⟨X1,K⟩:∃X,IntKind.i64.wrap (1+(x1:Int))=X:=⟨_,rfl⟩;have i:=O.o.pb.t.cell 1;simp at i;have F:=O.o.pb.t.frozen;have G:=O.o.pb.t.lt;have H2:=Ae (O.o.set (O.o.pb.set1 X1));clear l j H1 O;go_upto_region 4 with fail
 generalize w1.setCell (ad (w.heap.size+2) 1) (iv X1)=V2 at H2 ⊢;clear i F G K;go_wp2_with fail
 refine (Bd H2.o.pb.dr 9 (by omega) (by omega)).mono ?_;rintro e w2 ⟨_,rfl,⟨x2,rfl,-⟩,l,j⟩;have Q:=Ae (H2.o.draw l j);obtain⟨X2,K⟩:∃X,IntKind.i64.wrap (1+(x2:Int))=X:=⟨_,rfl⟩;have i:=Q.o.pb.t.cell 2;simp at i;have F:=Q.o.pb.t.frozen;have G:=Q.o.pb.t.lt;have H3:=Ae (Q.o.set (Q.o.pb.set2 X2));clear l j H2 Q;go_upto_region 5 with fail
 generalize w2.setCell (ad (w.heap.size+2) 2) (iv X2)=V3 at H3 ⊢;clear i F G K;go_wp2_with fail
 refine (Bd H3.o.pb.dr 9 (by omega) (by omega)).mono ?_;rintro e w3 ⟨_,rfl,⟨x3,rfl,-⟩,l,j⟩;have N:=Ae (H3.o.draw l j);obtain⟨X3,K⟩:∃X,IntKind.i64.wrap (1+(x3:Int))=X:=⟨_,rfl⟩;have i:=N.o.pb.t.cell 3;simp at i;have F:=N.o.pb.t.frozen;have G:=N.o.pb.t.lt;have H4:=Ae (N.o.set (N.o.pb.set3 X3));clear l j H3 N;go_upto_region 6 with fail
 generalize w3.setCell (ad (w.heap.size+2) 3) (iv X3)=V4 at H4 ⊢;clear i F G K;have t0:=H4.o.ix.cell 0;simp at t0;go_wp2_with fail
 refine (F3 a n c M T V4 H4.o.rd.rd (by omega) HF.o.1).mono ?_;rintro e w5 ⟨vb,rfl,I,V⟩;have H5:=Ae (H4.o.below V);clear V H4 t0;cases vb;.have f:=Ae H5.o.pb;clear H5 I;have i:=f.o.t.cell 0;have D:=f.o.t.cell 1;have E:=f.o.t.cell 2;have C:=f.o.t.cell 3;have m:=f.o.r.cell 0;have A:=f.o.r.cell 1;have B:=f.o.r.cell 2;have x:=f.o.r.cell 3;simp at i D E C m A B x;have yf:=f.o.r.frozen;have yl:=f.o.r.lt;have J:=Ae f.o.ret;clear f;go_wp2;refine bodyPost_ret (v:=.agg #[iv X0,iv X1,iv X2,iv X3]) (by simp[results,results55,go_sem,m,A,B,x]) rfl ?_;exact J.o
 .have HV:=Ae (I.1 rfl);clear I;obtain rfl:n=6:=HV.o.1;go_wp2_with fail
  refine (Bd H5.o.pb.dr 4 (by omega) (by omega)).mono ?_;rintro e w6 ⟨_,rfl,⟨y,rfl,-⟩,l,j⟩;have R:=Ae (H5.o.draw l j);clear l j H5;rcases Nat.eq_zero_or_pos y with hy|hy
  .have al:¬ (0:Int)<(y:Int):=by omega
   have ap:¬ 0<y:=by omega
   clear hy;have f:=Ae R.o.pb;clear R;have i:=f.o.t.cell 0;have D:=f.o.t.cell 1;have E:=f.o.t.cell 2;have C:=f.o.t.cell 3;have m:=f.o.r.cell 0;have A:=f.o.r.cell 1;have B:=f.o.r.cell 2;have x:=f.o.r.cell 3;simp at i D E C m A B x;have yf:=f.o.r.frozen;have yl:=f.o.r.lt;have J:=Ae f.o.ret;clear f;go_wp2;refine bodyPost_ret (v:=.agg #[iv X0,iv X1,iv X2,iv X3]) (by simp[results,results55,go_sem,m,A,B,x]) rfl ?_;exact J.o
  .have al:(0:Int)<(y:Int):=by omega
   have u:=R.o.im;rcases u with u|⟨ib,rfl,-,-,u⟩;.omega
   obtain⟨a0,c0,z0,ah⟩:=u 0 (by omega);have ab:=Ae ah;have t0:=R.o.ix.cell 0;simp at t0;obtain⟨tt,v0,l0,k0⟩:=HV.o.t 0 (by omega);have HQ:U (UO 33 #[.agg #[.slice a0 (M 0) c0],iv 0] w6 λe w'=>∃a' L c',e=.returned (.slice a' (List.length L) c')/\FX w' a' L/\L.length<=300/\Bl w6 w'):=((CB 0 (by omega) a0 (M 0) c0 (T 0) tt w6 ab.o.rdC.rd v0 v0.fit (λk hk=>(k0 k hk).1) l0 _ rfl).mono (by rintro e w' ⟨a',c',q1,Y,q3⟩;exact⟨a',_,c',q1,Y,by simpa using l0,q3⟩));clear u ah v0 l0 k0;go_wp2_with fail
   refine HQ.o.mono ?_;rintro e w7 ⟨a7,L,c7,rfl,ae,ao,aa⟩;have S:=Ae (R.o.below aa);have ag:=Ae ae;clear aa R HQ t0 z0 ae ab;rcases Nat.eq_zero_or_pos L.length with hL|hL
   .have aj:¬ (0:Int)<(L.length:Int):=by omega
    have am:¬ 0<L.length:=by omega
    clear hL;have f:=Ae S.o.pb;clear S;have i:=f.o.t.cell 0;have D:=f.o.t.cell 1;have E:=f.o.t.cell 2;have C:=f.o.t.cell 3;have m:=f.o.r.cell 0;have A:=f.o.r.cell 1;have B:=f.o.r.cell 2;have x:=f.o.r.cell 3;simp at i D E C m A B x;have yf:=f.o.r.frozen;have yl:=f.o.r.lt;have J:=Ae f.o.ret;clear f;go_wp2;refine bodyPost_ret (v:=.agg #[iv X0,iv X1,iv X2,iv X3]) (by simp[results,results55,go_sem,m,A,B,x]) rfl ?_;exact J.o
   .have aj:(0:Int)<(L.length:Int):=by omega
    go_wp2_with fail
    refine (Bd S.o.pb.dr (L.length:Int) (by omega) (by omega)).mono ?_;rintro e w8 ⟨_,rfl,⟨z,rfl,hz⟩,l,j⟩;have H:=Ae (S.o.draw l j);have q:=ag.o.draw S.o.pb.dr j;have ak:z<L.length:=by omega
    have z0:(0:Int)<=(z:Int):=by omega
    rcases q with q|⟨qb,rfl,q⟩;.omega
    obtain⟨q0,q1,Y,q3⟩:=q z ak;obtain⟨⟨ls,lp,lo,lg⟩,af⟩:∃y,L[z]=y:=⟨_,rfl⟩;rw[af] at q0 q1 Y q3;simp only at q0 q1 Y q3;have i:=H.o.pb.t.cell 0;have D:=H.o.pb.t.cell 1;have E:=H.o.pb.t.cell 2;have C:=H.o.pb.t.cell 3;simp at i D E C;have F:=H.o.pb.t.frozen;have G:=H.o.pb.t.lt;have f:=Ae ((((H.o.pb.set0 ls).set1 lp).set2 lo).set3 lg);clear l j S H ag q af;go_upto_region 10 with fail
    generalize (((w8.setCell (ad (w.heap.size+2) 0) (iv ls)).setCell (ad (w.heap.size+2) 1) (iv lp)).setCell (ad (w.heap.size+2) 2) (iv lo)).setCell (ad (w.heap.size+2) 3) (iv lg)=V9 at f ⊢;clear i D E C F G q0 q1 Y q3;have i:=f.o.t.cell 0;have D:=f.o.t.cell 1;have E:=f.o.t.cell 2;have C:=f.o.t.cell 3;have m:=f.o.r.cell 0;have A:=f.o.r.cell 1;have B:=f.o.r.cell 2;have x:=f.o.r.cell 3;simp at i D E C m A B x;have yf:=f.o.r.frozen;have yl:=f.o.r.lt;have J:=Ae f.o.ret;clear f;go_wp2;refine bodyPost_ret (v:=.agg #[iv ls,iv lp,iv lo,iv lg]) (by simp[results,results55,go_sem,m,A,B,x]) rfl ?_;exact J.o
end Go.Proofs.YtcnollkkigiobaaGreat
