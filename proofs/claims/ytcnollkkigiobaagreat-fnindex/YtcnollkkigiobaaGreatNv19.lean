import Derived.ChangeKeysEq
import Derived.Deep.CutRange
import Derived.Test.YtcnollkkigiobaaGreatNv6
set_option linter.unusedVariables false
set_option linter.unusedSimpArgs false
set_option maxRecDepth 100000
set_option maxHeartbeats 90000000
namespace Go.Proofs.YtcnollkkigiobaaGreat
open Go Go.Deep Go.RowKit Go.Proofs.Tryz
variable {Z c g n:Nat}{f:Nat->Int}{h i:Int}{r:Option Nat}{v:Value}{w w' w1 w2:World}
theorem Az {row:Option Nat} (h:w.grownBy w1 row) (k:w1.grownBy w2 row):w.grownBy w2 row:=
 ⟨k.os.trans h.os,k.tape.trans h.tape,k.output.trans h.output,Uy h.size k.size,λb d a=>(k.block b (UB d h.size) a).trans (h.block b d a)⟩
theorem BM (h:Bl w w1) (row:Option Nat):w.grownBy w1 row:=⟨h.os,h.tape,h.output,h.size,λb a _=>h.block b a⟩
theorem Ak {i:Nat}:w.grownBy (w.setCell (ad g i) v) (some g):=
 ⟨rfl,rfl,rfl,by simp,λb d a=>Ur _ _ _ _ (λe=>a (by rw[e]))⟩
theorem Mk (x:Int):0<=bits .and .i64 x 255/\bits .and .i64 x 255<256:=by
 have a:(BitVec.ofInt 64 x &&& BitVec.ofInt 64 255).toNat<=255:=by rw[BitVec.toNat_and];exact Nat.and_le_right
 show 0<=IntKind.i64.wrap ((BitVec.ofInt 64 x &&& BitVec.ofInt 64 255).toNat:Int)/\IntKind.i64.wrap ((BitVec.ofInt 64 x &&& BitVec.ofInt 64 255).toNat:Int)<256;rw[Uv];omega
def Fk (v:Value) (i h:Int):Nat->Value:=λk=>if k=0 then v else if k=1 then iv i else iv h
def KU (w:World) (g:Nat) (v:Value) (i h:Int):Prop:=A6 w g 137 3 (Fk v i h)
theorem KU.cells (k:KU w g v i h):w.cell? (ad g 0)=some v/\w.cell? (ad g 1)=some (iv i)/\w.cell? (ad g 2)=some (iv h)/\(∀o,w.frozen? (ad g o)=false)/\g<w.heap.size:=
 ⟨by simpa[Fk] using A6.cell k (i:=0) (by omega),by simpa[Fk] using A6.cell k (i:=1) (by omega),by simpa[Fk] using A6.cell k (i:=2) (by omega),λo=>A6.frozen k o,A6.lt k⟩
theorem KU.setH (k:KU w g v i h) (x:Int):KU (w.setCell (ad g 2) (iv x)) g v i x:=
 (A6.set k 2 _).congr (λj d=>by
  unfold Fk
  by_cases e:j=2
  .subst e;simp
  .simp[e]
   by_cases a:j=0
   .simp[a]
   .have:j=1:=by omega
    simp[this])
theorem KU.setI (k:KU w g v i h) (x:Int):KU (w.setCell (ad g 1) (iv x)) g v x h:=
 (A6.set k 1 _).congr (λj a=>by
  unfold Fk
  by_cases e:j=1
  .subst e;simp
  .simp[e])
theorem KU.drew (k:KU w g v i h) (q:Nat):KU (w.drewN q) g v i h:=k.of_block ((Ai (Up _ w) q).block g (by exact k.lt))
def bH (h:Int):Int:=wrap64 (wrap64 (h*6364136223846793005)+1442695040888963407)
def TK (h:Int):Int:=bits .and .i64 (bits .xor .i64 (h / 8589934592) (h / 35184372088832)) 255
def bX (f:Nat->Int) (n:Nat) (s:Nat × Int):Int:=if s.1<n then bits .and .i64 (TK (bH s.2)+f s.1) 255 else TK (bH s.2)
def EW (n:Nat) (s:Nat × Int):Nat × Int:=(if s.1<n then s.1+1 else s.1,bH s.2)
theorem Ht (f:Nat->Int) (n:Nat) (s:Nat × Int):0<=bX f n s/\bX f n s<256:=by
 unfold bX TK;split;.exact Mk _
 .exact Mk _
structure Jo (w:World) (g:Nat) (b:Option Addr) (n c:Nat) (f:Nat->Int) (s:Nat × Int):Prop where
 cur:KU w g (.slice b n c) (s.1:Int) s.2
 le:s.1<=n
 rd:Rd .u8 w b n f
 ne:n≠0->∀x,b=some x->x.block≠g
 len:n<=1048576
 range:∀j,j<n->0<=f j/\f j<256
theorem NC (h:Ds (some (ad g 0)) w w'):w.grownBy w' (some g):=
 ⟨h.os,h.tape,h.output,by rw[h.size];exact Uq _,λb d a=>h.block b (λx e q=>a (by injection e with e;rw[<- e] at q;rw[<- q]))⟩
theorem KV {k:IntKind} {b:Option Addr} (h:Rd k w b n f) (d:n≠0->∀x,b=some x->x.block≠g) (t:w.grownBy w' (some g)):Rd k w' b n f:=by
 by_cases m:n=0;.exact Or.inl m
 rcases h with u|⟨j,o,rfl,p⟩;.exact Or.inl u
 .have l:=Uo _ _ (p 0 (by omega));exact Or.inr ⟨j,o,rfl,λi q=>(World.cell?_of_block (a:=(ad j (o+i))) (t.block j l (λe=>by injection e with e;exact d m _ rfl e))).trans (p i q)⟩
theorem Jo.lt {w:World} {g:Nat} {b:Option Addr} {n c:Nat} {f:Nat->Int} {s:Nat × Int} (h:Jo w g b n c f s):g<w.heap.size:=A6.lt h.cur
def Mx (g:Nat) (b:Option Addr) (n c:Nat) (f:Nat->Int) (v:Value) (s' : Nat × Int) (w:World) (e:Ending) (w' : World):Prop:=e=.returned v/\Jo w' g b n c f s'/\w.grownBy w' (some g)
theorem Gp {b:Option Addr} {s:Nat × Int} (h:Jo w g b n c f s) :
  UO 95 #[pt g] w (Mx g b n c f (iv (bX f n s)) (EW n s) w):=by
 obtain⟨i,p⟩:=s;obtain⟨c0,P,S,Y,X⟩:=h.cur.cells;have hi:=h.le;have hn:=h.len;have j:=Ae h;clear h;have T : w.cell? (ad g 1)=some (iv (i:Int)):=P;have Q : w.cell? (ad g 2)=some (iv p):=S;clear P S;go_enter func95,ntmps95;go_upto_region 2 with fail
 have F:U (∃k,k=bH p):=⟨_,rfl⟩;obtain⟨k,u⟩:=F.o;have L:=Ae u;have K:wrap64 (wrap64 (p*6364136223846793005)+1442695040888963407)=k:=u.symm;rw[K];clear u F K;obtain⟨w1,t⟩:=gn (w.setCell (ad g 2) (iv k));rw[<- t];have D:U (KU w1 g (.slice b n c) (i:Int) k/\Ds (some (ad g 0)) w w1):=by rw[t];exact⟨j.o.cur.setH k,(Ds.refl _ _).setCell 2 _⟩
 clear t c0 T Q Y X;obtain⟨c0,P,S,Y,X⟩:=D.o.1.cells;go_wp2_with fail
 go_quiet (fail)
 go_wp2_with fail
 obtain⟨x,J⟩:=gn (TK k);have E : bits .and .i64 (bits .xor .i64 (k / 8589934592) (k / 35184372088832)) 255=x:=J.symm;rw[E];have R:0<=x/\x<256:=by rw[J];exact Mk _
 have I:=Ae J;obtain⟨af,ac⟩:=R;clear J E;by_cases d:i<n
 .obtain⟨m,o,K,l⟩:∃m o,b=some (ad m o)/\∀i,i<n->w.cell? (ad m (o+i))=some (.int .u8 (f i)):=by
   rcases j.o.rd with h0|⟨m,o,e,l⟩;.omega
   .exact⟨m,o,e,l⟩
  subst K;have O:=j.o.ne (by omega) _ rfl;have z:w1.cell? (ad m (o+i))=some (.int .u8 (f i)):=(World.cell?_of_block (a:=(ad m (o+i))) (D.o.2.block m (λy e=>by injection e with e;subst e;exact λe=>O e.symm))).trans (l i d);clear l;have G:=j.o.range i d;obtain⟨M,C⟩:∃M,M=f i:=⟨_,rfl⟩;have N:U (M=f i):=C;rw[<- C] at G z;obtain⟨ab,ae⟩:=G;clear C;have ij:(i:Int)<(n:Int):=by omega
  have aa:(0:Int)<=(i:Int):=by omega
  go_quiet (fail)
  go_wp2_with fail
  go_quiet (fail)
  have V:U (∀q,Mx g (some (ad m o)) n c f (iv (bX f n (i,p))) (EW n (i,p)) w (.returned (iv (bits .and .i64 (x+M) 255))) ((w1.drewN q).setCell (ad g 1) (iv ((i:Int)+1)))):=λq=>by
   have H:w.grownBy ((w1.drewN q).setCell (ad g 1) (iv ((i:Int)+1))) (some g):=Az (Az (NC D.o.2) (BM (Ai (Up _ _) q) _)) Ak;refine⟨?_,⟨?_,?_,KV j.o.rd j.o.ne H,j.o.ne,j.o.len,j.o.range⟩,H⟩;.unfold bX;rw[if_pos d,I.o,N.o,L.o]
   .unfold EW;rw[if_pos d,<- L.o];show KU _ g _ ((i+1:Nat):Int) k;rw[Int.natCast_add];exact (D.o.1.drew q).setI _
   .unfold EW;rw[if_pos d];exact d
  go_wp2;go_ret;exact V.o _
 .have V:U (∀q,Mx g b n c f (iv (bX f n (i,p))) (EW n (i,p)) w (.returned (iv x)) (w1.drewN q)):=λq=>by
   have H:=Az (NC D.o.2) (BM (Ai (Up _ _) q) _);refine⟨?_,⟨?_,?_,KV j.o.rd j.o.ne H,j.o.ne,j.o.len,j.o.range⟩,H⟩;.unfold bX;rw[if_neg d,I.o,L.o]
   .unfold EW;rw[if_neg d,<- L.o];exact D.o.1.drew q
   .unfold EW;rw[if_neg d];exact hi
  have ij:¬ (i:Int)<(n:Int):=by omega
  go_quiet (fail)
  go_wp2;go_ret;exact V.o _
def ON (f:Nat->Int) (n:Nat) (k:Int) (s:Nat × Int):Int:=if k<=256 then bX f n s % k else (bX f n s*65536+bX f n (EW n s)*256+bX f n (EW n (EW n s))) % k
def nS (n:Nat) (k:Int) (s:Nat × Int):Nat × Int:=if k<=256 then EW n s else EW n (EW n (EW n s))
theorem N7 (f:Nat->Int) (n:Nat) {k:Int} (a:1<=k) (s:Nat × Int):0<=ON f n k s/\ON f n k s<k:=by
 unfold ON;split;.exact⟨Int.emod_nonneg _ (by omega),Int.emod_lt_of_pos _ (by omega)⟩
 .exact⟨Int.emod_nonneg _ (by omega),Int.emod_lt_of_pos _ (by omega)⟩
section
variable {g:Nat} {b:Option Addr} {n c:Nat} {f:Nat->Int} {s:Nat × Int} {w:World}
theorem J3 (h:Jo w g b n c f s) (k:Int) (hk:1<=k) (R:k<=2147483647) :
  UO 56 #[pt g,iv k] w (Mx g b n c f (iv (ON f n k s)) (nS n k s) w):=by
 have H:U (Jo w g b n c f s):=h;have Q:¬ k=0:=by omega
 have N : (k == 0)=false:=by simp;omega
 clear h;by_cases t:k<=256
 .have a:U (ON f n k s=bX f n s % k/\nS n k s=EW n s):=⟨by unfold ON;rw[if_pos t],by unfold nS;rw[if_pos t]⟩;go_enter func56,ntmps56;go_wp2_with fail
  refine (Gp H.o).mono ?_;rintro e w1 ⟨rfl,L,M⟩;have O:U (Jo w1 g b n c f (EW n s)/\w.grownBy w1 (some g)):=⟨L,M⟩;obtain⟨K,S⟩:=Ht f n s;have E:U (∀y,y=bX f n s % k->Mx g b n c f (iv (ON f n k s)) (nS n k s) w (.returned (iv y)) w1):=λy G=>by subst G;exact⟨by rw[a.o.1],by rw[a.o.2];exact O.o.1,O.o.2⟩
  generalize bX f n s=x at*
  have T:x.tmod k=x % k:=Int.tmod_eq_emod_of_nonneg K;have I:0<=x % k:=Int.emod_nonneg x (by omega);have D:x % k<k:=Int.emod_lt_of_pos x (by omega);clear L M a;go_wp2;go_ret;exact E.o _ rfl
 .have a:U (ON f n k s=(bX f n s*65536+bX f n (EW n s)*256+bX f n (EW n (EW n s))) % k/\nS n k s=EW n (EW n (EW n s))):=⟨by unfold ON;rw[if_neg t],by unfold nS;rw[if_neg t]⟩;go_enter func56,ntmps56;go_wp2_with fail
  refine (Gp H.o).mono ?_;rintro e w1 ⟨rfl,q,l⟩;have F:U (Jo w1 g b n c f (EW n s)/\w.grownBy w1 (some g)):=⟨q,l⟩;clear q l;go_wp2_with fail
  refine (Gp F.o.1).mono ?_;rintro e w2 ⟨rfl,m,p⟩;have J:U (Jo w2 g b n c f (EW n (EW n s))/\w.grownBy w2 (some g)):=⟨m,Az F.o.2 p⟩;clear m p F;go_wp2_with fail
  refine (Gp J.o.1).mono ?_;rintro e u ⟨rfl,d,j⟩;have P:U (Jo u g b n c f (EW n (EW n (EW n s)))/\w.grownBy u (some g)):=⟨d,Az J.o.2 j⟩;clear d j J;obtain⟨K,S⟩:=Ht f n s;obtain⟨Y,V⟩:=Ht f n (EW n s);obtain⟨X,h5⟩:=Ht f n (EW n (EW n s));have E:U (∀y,y=(bX f n s*65536+bX f n (EW n s)*256+bX f n (EW n (EW n s))) % k->Mx g b n c f (iv (ON f n k s)) (nS n k s) w (.returned (iv y)) u):=λy G=>by subst G;exact⟨by rw[a.o.1],by rw[a.o.2];exact P.o.1,P.o.2⟩
  generalize bX f n s=x at*
  generalize bX f n (EW n s)=y at*
  generalize bX f n (EW n (EW n s))=z at*
  have C:0<=x*65536+y*256+z:=by omega
  have T:(x*65536+y*256+z).tmod k=(x*65536+y*256+z) % k:=Int.tmod_eq_emod_of_nonneg C;have I:0<=(x*65536+y*256+z) % k:=Int.emod_nonneg _ (by omega);have D:(x*65536+y*256+z) % k<k:=Int.emod_lt_of_pos _ (by omega);clear a;go_wp2;go_ret;exact E.o _ rfl
theorem PC (h:Jo w g b n c f s) (k:Int) (m:1<=k) (a:k<=2147483647) :
  UO 90 #[pt g,iv k] w (Mx g b n c f (.bool (ON f n k s == 0)) (nS n k s) w):=by
 have H:=Ae h;clear h;go_enter func90,ntmps90;go_wp2_with fail
 refine (J3 H.o k m a).mono ?_;rintro e w1 ⟨rfl,j,d⟩;have l:=Ae (ai j d);clear j d;generalize ON f n k s=x at*
 go_wp2;go_ret;exact⟨rfl,l.o⟩
end
def hN (f:Nat->Int) (n:Nat):Nat->Int
 | 0=>54321+n
 | k+1=>bits .and .i64 (wrap64 (wrap64 (wrap64 (hN f n k*131)+f k)+7)) 1073741823
theorem KU.new (w:World) (v:Value) (i h:Int):KU (w.alloc (.cells #[v,iv i,iv h] 137)) w.heap.size v i h:=
 ⟨_,blk_alloc_new _ _,by simp,λj a=>by
  match j,a with
  | 0,_=>rfl
  | 1,_=>rfl
  | 2,_=>rfl⟩
theorem Ij {k:IntKind} {b:Option Addr} (h:Rd k w b n f) (a:n≠0):∀x,b=some x->x.block<w.heap.size:=by
 rcases h with j|⟨l,o,rfl,d⟩;.exact absurd j a
 .intro x e;injection e with e;subst e;exact Uo _ _ (d 0 (by omega))
theorem QX (b:Option Addr) (n c:Nat) (f:Nat->Int) (w:World) (m:Rd .u8 w b n f) (K:n<=1048576) (F:∀j,j<n->0<=f j/\f j<256) :
  UO 52 #[.slice b n c] w λe w'=>e=.returned (pt w.heap.size)/\Jo w' w.heap.size b n c f (0,hN f n n)/\Bl w w':=by
 have a:=Ae m;have H:=Ae F;clear m F;go_enter func52,ntmps52;go_wp2;go_loopw [3,4] (λh i wr=>∃(k:Nat) (y:Int),k<=n/\i=iv k/\h=iv y/\y=hN f n k/\wr=w) (λ_ i _=>n-(intOf i).toNat)
 case atStart=>exact⟨0,_,Us _,rfl,rfl,rfl,rfl⟩
 case round=>
  obtain⟨k,y,N,rfl,rfl,G,rfl⟩:=hrel;have E:=Ae G;clear G;by_cases p:k<n
  .obtain⟨q,o,C,t⟩:∃q o,b=some (ad q o)/\∀i,i<n->wr.cell? (ad q (o+i))=some (.int .u8 (f i)):=by
    rcases a.o with L|⟨q,o,C,t⟩;.omega
    .exact⟨q,o,C,t⟩
   subst C;have d:=t k p;obtain⟨z,D⟩:=H.o k p;clear t;obtain⟨M,l⟩:=gn (f k);have u:=Ae l;rw[<- l] at d z D;clear l;go_wp2;go_roundw;case rel=>exact⟨k+1,_,by omega,by go_num,rfl,by show _=bits .and .i64 (wrap64 (wrap64 (wrap64 (hN f n k*131)+f k)+7)) 1073741823;rw[<- E.o,<- u.o],trivial⟩
   case measure=>simp[intOf];omega
  .have e:k=n:=by omega
   subst e;have I:U (Jo (wr.alloc (.cells #[.slice b k c,iv 0,iv y] 137)) wr.heap.size b k c f (0,hN f k k)):=by show Jo _ _ _ _ _ _ _;rw[<- E.o];exact⟨KU.new _ _ _ _,Us _,a.o.below (Aa _ _),λJ x e=>Nat.ne_of_lt (Ij a.o J x e),K,H.o⟩
   go_wp2;go_ret;exact⟨rfl,I.o,Aa _ _⟩
def Ud (Z g:Nat) (b:Option Addr) (n:Nat):Prop:=g<Z/\(n≠0->∀x,b=some x->x.block<Z)
theorem Jo.grown {b:Option Addr} {s:Nat × Int} (h:Jo w g b n c f s) (y:Ud Z g b n) (x:w.grownBy w' r) (t:∀k,r=some k->Z<=k):Jo w' g b n c f s:=by
 refine⟨h.cur.of_block (x.block g h.lt (λe=>by have:=t g e.symm;have:=y.1;omega)),h.le,?_,h.ne,h.len,h.range⟩;by_cases p:n=0;.exact Or.inl p
 rcases h.rd with q|⟨d,o,rfl,m⟩;.exact Or.inl q
 .have j:=Uo _ _ (m 0 (by omega));have l:=y.2 p _ rfl;exact Or.inr ⟨d,o,rfl,λi z=>(World.cell?_of_block (a:=(ad d (o+i))) (x.block d j (λe=>by have:=t d e.symm;have u : d<Z:=l;omega))).trans (m i z)⟩
theorem AZ (h:w.grownBy w1 (some g)) (k:w1.grownBy w2 r) (j:∀x,r=some x->w.heap.size<=x):w.grownBy w2 (some g):=
 ⟨k.os.trans h.os,k.tape.trans h.tape,k.output.trans h.output,Uy h.size k.size,λb d a=>(k.block b (UB d h.size) (λe=>by have:=j b e.symm;omega)).trans (h.block b d a)⟩
theorem BV (h:w.grownBy w1 (some g)) (k:Bl w1 w2):w.grownBy w2 (some g):=Az h (BM k _)
def Dw (Z g:Nat) (w:World):Prop:=∃b n c f s,Jo w g b n c f s/\Ud Z g b n
theorem Dw.lt {Z g:Nat} {w:World} (h:Dw Z g w):g<Z/\g<w.heap.size:=by obtain⟨b,n,c,f,s,a,d⟩:=h;exact⟨d.1,a.lt⟩
theorem Dw.grown {Z g:Nat} {w w' : World} {r:Option Nat} (h:Dw Z g w) (e:w.grownBy w' r) (j:∀k,r=some k->Z<=k):Dw Z g w':=by obtain⟨b,n,c,f,s,d,a⟩:=h;exact⟨b,n,c,f,s,d.grown a e j,a⟩
theorem Dw.below (h:Dw Z g w) (a:Bl w w'):Dw Z g w':=h.grown (BM a none) (λk e=>by cases e)
def WD (Z g:Nat) (w:World) (P:Value->Prop) (e:Ending) (w' : World):Prop:=∃v,e=.returned v/\P v/\Dw Z g w'/\w.grownBy w' (some g)
theorem Bd (h:Dw Z g w) (k:Int) (d:1<=k) (a:k<=2147483647):UO 56 #[pt g,iv k] w (WD Z g w λv=>∃x:Nat,v=iv (x:Int)/\(x:Int)<k):=by obtain⟨b,n,c,f,s,m,j⟩:=h;refine (J3 m k d a).mono ?_;rintro e w' ⟨rfl,p,o⟩;obtain⟨l,q⟩:=N7 f n d s;exact⟨_,rfl,⟨(ON f n k s).toNat,by rw[Int.toNat_of_nonneg l],by omega⟩,⟨b,n,c,f,_,p,j⟩,o⟩
theorem Eb (h:Dw Z g w) (k:Int) (o:1<=k) (a:k<=2147483647):UO 90 #[pt g,iv k] w (WD Z g w λv=>∃x:Bool,v=.bool x):=by obtain⟨b,n,c,f,s,j,l⟩:=h;refine (PC j k o a).mono ?_;rintro e w' ⟨rfl,d,m⟩;exact⟨_,rfl,⟨_,rfl⟩,⟨b,n,c,f,_,d,l⟩,m⟩
variable {A B:Array Value}{W:World}{t1 t2:TypeId}
section
variable {Z g:Nat} {w:World}
theorem NZ (w:World) (L:List ByteArray) (t:TypeId):∀j (a:j<L.length),(w.alloc (.cells (L.map Value.string).toArray t)).cell? (ad w.heap.size j)=some (.string L[j]):=λj a=>by
 rw[(Bx.new w (L.map Value.string).toArray t).cell j,List.getElem?_toArray,UM,Ut a]
 rfl
def TA (v:Value):Prop:=∃x:ByteArray,v=.string x/\x.size<=31
theorem Pa (h:Dw Z g w) (L:List ByteArray) (k:Nat) (m I:Nat) (F:m=L.length) (N:1<=m) (J:m<=1000) (p:k≠g) (C:∀x,x∈L->x.size<=31) (l:∀j (hj:j<L.length),w.cell? (ad k j)=some (.string L[j])) :
  UO 164 #[pt g,.slice (some (ad k 0)) m I] w (WD Z g w TA):=by
 have E:=Ae (Bd h (m:Int) (by omega) (by omega));have u:=Ae l;have t:=Ae (And.intro C F);clear h F l C;go_enter func164,ntmps164;go_wp2_with fail
 refine E.o.mono ?_;rintro e w1 ⟨_,rfl,⟨x,rfl,K⟩,D,y⟩;have z:=Ae (And.intro D y);have H:x<m:=by omega
 have d:x<L.length:=by have:=t.o.2;omega
 obtain⟨Y,q⟩:∃Y,L[x]=Y:=⟨_,rfl⟩;have G:=Ae (t.o.1 Y (by rw[<- q];exact UA d));have O:w1.cell? (ad k x)=some (.string Y):=by have l:=u.o x d;rw[<- q,<- l];exact World.cell?_of_block (a:=(ad k x)) (z.o.2.block k (Uo _ _ l) (λe=>p (by injection e with e)))
 have M:(0:Int)<=(x:Int):=by omega
 clear D y E t u q d;go_wp2;go_ret;exact⟨_,rfl,⟨Y,rfl,G.o⟩,z.o⟩
def Un:List ByteArray:=[{ data:=#[34] },{ data:=#[92] },{ data:=#[255,0] },{ data:=#[97,32,98] },{ data:=#[49,50,51,52,53,54,55,56,57,48,49,50,51,52,53,54,55,56,57,48,49,50,51,52,53,54,55,56,57,48] },{ data:=#[112] },{ data:=#[103] }]
def Uk:List ByteArray:=[{ data:=#[97] },{ data:=#[98] },{ data:=#[99] },{ data:=#[100] },{ data:=#[101] },{ data:=#[97,98] },{ data:=#[122] }]
def Uh:List ByteArray:=[{ data:=#[112] },{ data:=#[112] },{ data:=#[113] },{ data:=#[114] },{ data:=#[97] }]
def Ui:List ByteArray:=[{ data:=#[103] },{ data:=#[103] },{ data:=#[104] },{ data:=#[97] }]
theorem Gw (a:Dw Z g W) (L:List ByteArray) (m:Nat) (u:m=L.length) (j:1<=m) (k:m<=1000) (o:(L.all λx=>decide (x.size<=31))=true):UO 164 #[pt g,.slice (some (ad W.heap.size 0)) m m] (W.alloc (.cells (L.map Value.string).toArray 9)) (WD Z g W TA):=by have d:=Aa W (.cells (L.map Value.string).toArray 9);refine (Pa (a.below d) L W.heap.size m m u j k (by have:=a.lt;omega) (λx q=>by simpa using List.all_eq_true.1 o x q) (NZ W L 9)).mono ?_;rintro e w1 ⟨v,rfl,l,p,t⟩;exact⟨v,rfl,l,p,Az (BM d _) t⟩
theorem PS (h:Dw Z g w):UO 142 #[pt g] w (WD Z g w TA):=by
 go_enter func142,ntmps142;go_wp2_with fail
 refine (Gw h Uh 5 rfl (by omega) (by omega) (by decide)).mono ?_;rintro e w1 ⟨_,rfl,⟨Y,rfl,j⟩,k,d⟩;have a:=Ae (And.intro j (And.intro k d));clear j k d h;go_wp2;go_ret;exact⟨_,rfl,⟨Y,rfl,a.o.1⟩,a.o.2⟩
theorem Om (h:Dw Z g w):UO 143 #[pt g] w (WD Z g w TA):=by
 go_enter func143,ntmps143;go_wp2_with fail
 refine (Gw h Ui 4 rfl (by omega) (by omega) (by decide)).mono ?_;rintro e w1 ⟨_,rfl,⟨Y,rfl,j⟩,k,d⟩;have a:=Ae (And.intro j (And.intro k d));clear j k d h;go_wp2;go_ret;exact⟨_,rfl,⟨Y,rfl,a.o.1⟩,a.o.2⟩
theorem LT (h:Dw Z g w):UO 141 #[pt g] w (WD Z g w TA):=by
 go_enter func141,ntmps141;go_wp2_with fail
 refine (Eb h 30 (by omega) (by omega)).mono ?_;rintro e w1 ⟨_,rfl,⟨x,rfl⟩,hd,ho⟩;have HX:=Ae (And.intro hd ho);clear hd ho h;cases x
 .go_wp2_with fail
  refine (Gw HX.o.1 Uk 7 rfl (by omega) (by omega) (by decide)).mono ?_;rintro e w2 ⟨_,rfl,⟨Y,rfl,hy⟩,hd,ho⟩;have HY:=Ae (And.intro hy (And.intro hd (Az HX.o.2 ho)));clear hy hd ho HX;go_wp2;go_ret;exact⟨_,rfl,⟨Y,rfl,HY.o.1⟩,HY.o.2⟩
 .go_wp2_with fail
  refine (Gw HX.o.1 Un 7 rfl (by omega) (by omega) (by decide)).mono ?_;rintro e w2 ⟨_,rfl,⟨Y,rfl,hy⟩,hd,ho⟩;have HY:=Ae (And.intro hy (And.intro hd (Az HX.o.2 ho)));clear hy hd ho HX;go_wp2;go_ret;exact⟨_,rfl,⟨Y,rfl,HY.o.1⟩,HY.o.2⟩
structure DB (Z g:Nat) (w:World) (t1 t2:TypeId) (A B:Array Value) (W:World):Prop where
 dr:Dw Z g W
 fr:w.grownBy W (some g)
 a:Bx W w.heap.size t1 A
 b:Bx W (w.heap.size+1) t2 B
theorem DB.call {d:World} (h:DB Z g w t1 t2 A B W) (l:Z<=w.heap.size) (k:Dw Z g d) (j:W.grownBy d (some g)):DB Z g w t1 t2 A B d:=by have m:=k.lt;exact⟨k,Az h.fr j,h.a.grown j (λe=>by injection e with e;omega),h.b.grown j (λe=>by injection e with e;omega)⟩
theorem DB.setB (h:DB Z g w t1 t2 A B W) (d:Z<=w.heap.size) (i:Nat) (v:Value):DB Z g w t1 t2 A (B.setIfInBounds i v) (W.setCell (ad (w.heap.size+1) i) v):=
 ⟨h.dr.grown Ak (λq e=>by injection e with e;omega),AZ h.fr Ak (λq e=>by injection e with e;omega),h.a.other (by show w.heap.size≠_;simp) _,h.b.set i v⟩
theorem DB.setA (h:DB Z g w t1 t2 A B W) (d:Z<=w.heap.size) (i:Nat) (v:Value):DB Z g w t1 t2 (A.setIfInBounds i v) B (W.setCell (ad w.heap.size i) v):=
 ⟨h.dr.grown Ak (λq e=>by injection e with e;omega),AZ h.fr Ak (λq e=>by injection e with e;omega),h.a.set i v,h.b.other (by show w.heap.size+1≠_;simp) _⟩
theorem DB.new (j:Dw Z g w) (t1 t2:TypeId) (A B:Array Value):DB Z g w t1 t2 A B ((w.alloc (.cells A t1)).alloc (.cells B t2)):=by have d:=Aa w (.cells A t1);have a:=Aa (w.alloc (.cells A t1)) (.cells B t2);have e:=Bx.new (w.alloc (.cells A t1)) B t2;rw[UF] at e;exact⟨(j.below d).below a,Az (BM d _) (BM a _),(Bx.new _ _ _).alloc _,e⟩
def Uf (v:Value):Prop:=∃s p o g:ByteArray,v=.agg #[.string s,.string p,.string o,.string g]/\s.size<=31/\p.size<=31/\o.size<=31/\g.size<=31
theorem PN (K:Z<=w.heap.size) (h:Dw Z g w):UO 128 #[pt g] w (WD Z g w Uf):=by
 have E:=Ae (DB.new h 191 191 #[.string { data:=#[] },.string { data:=#[] },.string { data:=#[] },.string { data:=#[] }] #[.string { data:=#[] },.string { data:=#[] },.string { data:=#[] },.string { data:=#[] }]);have d:=Ae K;clear h K;go_enter func128,ntmps128;go_upto_region 2 with fail
 generalize ((w.alloc (.cells #[.string { data:=#[] },.string { data:=#[] },.string { data:=#[] },.string { data:=#[] }] 191)).alloc (.cells #[.string { data:=#[] },.string { data:=#[] },.string { data:=#[] },.string { data:=#[] }] 191))=V0 at*
 try simp only[Array.size_push,World.heap_alloc_size,UF]
 go_wp2_with fail
 refine (LT E.o.dr).mono ?_;rintro e X ⟨_,rfl,⟨p,rfl,m⟩,k,l⟩;have J:=E.o.call d.o k l;have F:=Ae m;have c:=J.b.cell 0;have f:=J.b.frozen 0;have z:=J.b.lt;have H:=Ae (J.setB d.o 0 (.string p));simp at c;clear m k l J E;go_upto_region 3 with fail
 generalize X.setCell (ad (w.heap.size+1) 0) (.string p)=V1 at*
 clear c f z;go_wp2_with fail
 refine (PS H.o.dr).mono ?_;rintro e w1 ⟨_,rfl,⟨u,rfl,m⟩,k,l⟩;have J:=H.o.call d.o k l;have y:=Ae m;have c:=J.b.cell 1;have f:=J.b.frozen 1;have z:=J.b.lt;have G:=Ae (J.setB d.o 1 (.string u));simp at c;clear m k l J H;go_upto_region 4 with fail
 generalize w1.setCell (ad (w.heap.size+1) 1) (.string u)=V2 at*
 clear c f z;go_wp2_with fail
 refine (LT G.o.dr).mono ?_;rintro e w2 ⟨_,rfl,⟨t,rfl,m⟩,k,l⟩;have J:=G.o.call d.o k l;have I:=Ae m;have c:=J.b.cell 2;have f:=J.b.frozen 2;have z:=J.b.lt;have D:=Ae (J.setB d.o 2 (.string t));simp at c;clear m k l J G;go_upto_region 5 with fail
 generalize w2.setCell (ad (w.heap.size+1) 2) (.string t)=V3 at*
 clear c f z;go_wp2_with fail
 refine (Om D.o.dr).mono ?_;rintro e Q ⟨_,rfl,⟨x,rfl,m⟩,k,l⟩;have J:=D.o.call d.o k l;have C:=Ae m;have c:=J.b.cell 3;have f:=J.b.frozen 3;have z:=J.b.lt;have j:=Ae (J.setB d.o 3 (.string x));simp at c;clear m k l J D;go_upto_region 6 with fail
 generalize Q.setCell (ad (w.heap.size+1) 3) (.string x)=T at*
 clear c f z;have Y:=j.o.b.cell 0;have P:=j.o.b.cell 1;have R:=j.o.b.cell 2;have S:=j.o.b.cell 3;have N:=j.o.a.cell 0;have L:=j.o.a.cell 1;have M:=j.o.a.cell 2;have O:=j.o.a.cell 3;simp at Y P R S N L M O;have rf:=j.o.a.frozen;have zr:=j.o.a.lt;have V:U (WD Z g w Uf (.returned (.agg #[.string p,.string u,.string t,.string x])) ((((T.setCell (ad w.heap.size 0) (.string p)).setCell (ad w.heap.size 1) (.string u)).setCell (ad w.heap.size 2) (.string t)).setCell (ad w.heap.size 3) (.string x))):=by have q:=(((j.o.setA d.o 0 (.string p)).setA d.o 1 (.string u)).setA d.o 2 (.string t)).setA d.o 3 (.string x);exact⟨_,rfl,⟨p,u,t,x,rfl,F.o,y.o,I.o,C.o⟩,q.dr,q.fr⟩
 clear j;go_wp2;refine bodyPost_ret (v:=.agg #[.string p,.string u,.string t,.string x]) (by simp[results,results128,go_sem,N,L,M,O]) rfl V.o
end
theorem Qo (a:Option Addr) (n c:Nat) (w:World) (t:n<=1048576):UO 93 #[.slice a n c] w λe w'=>∃k:Nat,e=.returned (iv (k:Int))/\14<=k/\k<=34/\w'=w:=by
 obtain⟨q,m⟩:∃q:Nat,(q:Int)=14+Int.tdiv (n:Int) 10:=⟨(14+Int.tdiv (n:Int) 10).toNat,by have:=Int.tdiv_nonneg (a:=(n:Int)) (b:=10) (by omega) (by omega);omega⟩;have o:14<=q:=by have:=Int.tdiv_nonneg (a:=(n:Int)) (b:=10) (by omega) (by omega);omega
 have j:q<=200000:=by
  have:Int.tdiv (n:Int) 10<=150000:=by rw[Int.tdiv_eq_ediv_of_nonneg (by omega)];omega
  omega
 have d:Int.tdiv (n:Int) 10=(q:Int)-14:=by omega
 have u:(n:Int) / 10=(q:Int)-14:=by rw[<- Int.tdiv_eq_ediv_of_nonneg (by omega)];exact d
 have w1:IntKind.i64.wrap ((q:Int)-14)=(q:Int)-14:=by rw[Uv];omega
 have w2:IntKind.i64.wrap (14+((q:Int)-14))=(q:Int):=by rw[Uv];omega
 have p:14+((q:Int)-14)=(q:Int):=by omega
 clear m;by_cases h:34<q
 .have l : (34:Int)<(q:Int):=by omega
  go_enter func93,ntmps93;go_wp2;go_ret;exact⟨34,rfl,by omega,by omega,rfl⟩
 .have l : ¬ (34:Int)<(q:Int):=by omega
  go_enter func93,ntmps93;go_wp2;go_ret;exact⟨q,rfl,by omega,by omega,rfl⟩
end Go.Proofs.YtcnollkkigiobaaGreat
