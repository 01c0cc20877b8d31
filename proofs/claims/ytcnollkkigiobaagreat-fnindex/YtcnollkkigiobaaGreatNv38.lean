import Derived.Test.YtcnollkkigiobaaGreatNv37
set_option linter.unusedVariables false
set_option linter.unusedSimpArgs false
set_option maxRecDepth 100000
set_option maxHeartbeats 90000000
namespace Go.Proofs.YtcnollkkigiobaaGreat
open Go Go.Deep Go.RowKit Go.Proofs.Tryz
variable {W w:World}{Z c g ix n nb rc rg:Nat}{a:Option Addr}{v v0 v1 v2 v3:Value}{xs:List Value}
def Jh (Z g:Nat) (w:World) (e:Ending) (w' : World):Prop:=
 Dw Z g w'/\w.grownBy w' (some g)/\∃a m c N,e=.returned (.agg #[.slice a m c])/\BQ (w.heap.size+2) w' a m N/\m<=6000/\∀i,i<m->Bg (N i)
def NU (Z g:Nat) (w:World) (nb n ix rg rc:Nat) (xs:List Value) (W:World):Prop:=∃lf ka kn kc da dn dc ct,LS Z g w nb n ix (some (ad rg 0)) rc xs (.bool lf) (.slice ka kn kc) (.slice da dn dc) (iv ct) W
theorem Sg {f:Nat->Int} (h:Rd .u8 w a n f) (j:n≠0) (c:Nat):(convert 47 9 (.slice a n c)).run prog w=.ok (.string (strOfNums ((List.range n).map f))) w:=by
 rcases h with l|⟨b,d,rfl,k⟩;.exact absurd l j
 .exact run_convert_bytes_arg (P:=prog) w 47 5 (by kernel_rfl) (by kernel_rfl) b d n c ((List.range n).map f) (by simp) (λi e=>by rw[k i e];simp[List.getD,e]) 9 (by kernel_rfl)
theorem Jh.of {V:World} {d l:Array Value} (h:Dw Z g V/\w.grownBy V (some g)/\Bx V w.heap.size 59 d/\Bx V (w.heap.size+1) 59 l/\∃N:Nat->Tn,BQ (w.heap.size+2) V a n N/\∀i,i<n->Bg (N i)) (p:n<=5000) (o:Z<=w.heap.size):Jh Z g w (.returned (.agg #[.slice a n c])) (V.setCell (ad (w.heap.size+1) 0) v):=by obtain⟨f,j,_,_,N,k,m⟩:=h;exact⟨f.grown Ak (λq e=>by injection e with e;omega),AZ j Ak (λq e=>by injection e with e;omega),a,n,c,N,rfl,k.keep (Uq _) (by simp[World.setCell]) (λb r _=>Ur _ _ _ _ (show b≠w.heap.size+1 by omega)),by omega,m⟩
theorem OR (rg n c hi:Nat) (b:hi<=n) (d:n<=c) (w:World):(Instr.sliceAt 57 (.slice (some (ad rg 0)) n c) none (some (iv (hi:Int))) none).run prog w=.ok (.slice (some (ad rg 0)) hi c) w:=by simp[Instr.sliceAt,Instr.slice,go_sem];intro h;omega
theorem Hx.list {S:Nat->Prop} (h:Hx 9 Jp S w a n c):∃L,w.ownsRow 0 9 1 (.slice a n c) n L/\∀u∈L,Jp u:=by
 obtain⟨k,⟨L,f⟩,_⟩:=h;refine⟨L,f,λu l=>?_⟩;have s:=f.1;obtain⟨i,o,e⟩:=List.getElem_of_mem l;rcases k with k|⟨b,rfl,_,_,q⟩;.omega
 .obtain⟨t,r,j,p⟩:=Af f;injection j with j;subst j;obtain⟨g,d,_,_,m⟩:=p (by omega);injection d with d;injection d with d;subst d;obtain⟨v,v1,v2⟩:=q i (by omega);have:=m i u (by rw[Ut o,e]);rw[v1] at this;injection this with this;rw[<- this];exact v2
theorem LS.cut (h:LS Z g w nb n ix (some (ad rg 0)) rc xs v0 v1 v2 v3 W) (hi:ix<n) (I:n<=5000) (V:World) (r:V=W.setCell (ad w.heap.size 0) v):Jh Z g w (.returned (.agg #[.slice (some (ad rg 0)) ix rc])) (V.setCell (ad (w.heap.size+1) 0) (.slice (some (ad rg 0)) ix rc)):=by
 have H:=h.gl.2;have k:∀b,w.heap.size+2<=b->V.heap[b]?=W.heap[b]?:=λb f=>by rw[r];exact Ur _ _ _ _ (show b≠w.heap.size by omega)
 have m:W.heap.size<=V.heap.size:=by rw[r];simp[World.setCell]
 have A:Dw Z g V:=by rw[r];exact h.dr.grown Ak (λq e=>by injection e with e;omega)
 have B:w.grownBy V (some g):=by rw[r];exact AZ h.fr Ak (λq e=>by injection e with e;omega)
 obtain⟨x,p,s⟩:=Ce h.row;have d:=Ah h.row rg rfl;have z:=h.row.1;have o:SW (SQ w (some (ad rg 0)) n rc) V ix (xs.take (ix*4)):=by
  refine⟨by simp;omega,λj l=>?_⟩;obtain⟨u0,u1,u2,u3,D,G,F,E,q⟩:=h.fl j (by omega) (by omega);refine⟨u0,u1,u2,u3,?_,?_,?_,?_,q.keep m (λb f _=>⟨f,k b f.1⟩)⟩;all_goals
   rw[List.getElem?_take_of_lt (by omega)]
   assumption
 obtain⟨N,y,C⟩:=o.flat;refine⟨A.grown Ak (λq e=>by injection e with e;omega),AZ B Ak (λq e=>by injection e with e;omega),_,ix,rc,N,rfl,?_,by omega,C⟩;have t:∀j u,(xs.take (ix*4))[j]?=some u->V.cell? (ad rg j)=some u:=by
  intro j u l;rw[World.cell?_of_block (a:=(ad rg j)) (k rg d.1)];rw[List.getElem?_take] at l;split at l;.exact (p.cell j).trans (s j u l)
  .cases l
 have i:BQ (w.heap.size+2) V (some (ad rg 0)) ix N:=.inr ⟨rg,xs.take (ix*4),rfl,d.1,UB d.2 m,t,y.mono (Uq _) (λb f _=>⟨f.1,rfl⟩)⟩;exact i.keep (Uq _) (by simp[World.setCell]) (λb f _=>Ur _ _ _ _ (show b≠w.heap.size+1 by omega))
theorem LS.more {d:World} {m:Nat} {i:Option Addr} {O:Obj} (h:LS Z g w nb n ix (some (ad rg 0)) rc xs v0 v1 v2 v3 W) (hi:ix<n) (Q:n<=5000) (p:xs[ix*4]?=some v0/\xs[ix*4+1]?=some v1/\xs[ix*4+2]?=some v2/\xs[ix*4+3]?=some v3) (G:d.ownsRow (w.heap.size+2) 168 4 (.slice i (n+1) m) (n+1) (xs++[v0,v1,v2,v3])) (o:(W.alloc O).grownBy d (Value.slice (some (ad rg 0)) n rc).ownBlock) :
  Jh Z g w (.returned (.agg #[.slice i (n+1) m])) ((d.setCell (ad w.heap.size 0) (.slice i (n+1) m)).setCell (ad (w.heap.size+1) 0) (.slice i (n+1) m))/\Bx d w.heap.size 59 #[.slice (some (ad rg 0)) n rc]/\Bx d (w.heap.size+1) 59 #[.slice none 0 0]:=by
 have P:=h.gl.2;have H:=Ah h.row rg rfl;have s:=o.size;rw[UF] at s;have f:∀b,b<W.heap.size->b≠rg->d.heap[b]?=W.heap[b]?:=λb l z=>(o.block b (by simp;omega) (λe=>z (by simpa[Value.ownBlock] using e))).trans ((Aa W O).block b l);have E:=(h.dr.below (Aa W O)).grown o (λk e=>by have q:rg=k:=(by simpa[Value.ownBlock] using e);omega);have F:=AZ (BV h.fr (Aa W O)) o (λk e=>by have q:rg=k:=(by simpa[Value.ownBlock] using e);omega);have C:=h.row.1;have A:∀b,SQ w (some (ad rg 0)) n rc b->b<W.heap.size->(λb=>w.heap.size+2<=b) b/\d.heap[b]?=W.heap[b]?:=λb l D=>⟨l.1,f b D (λe=>l.2 (by rw[e];rfl))⟩;have x:SW (λb=>w.heap.size+2<=b) d (n+1) (xs++[v0,v1,v2,v3]):=by
  refine⟨by simp;omega,λj L=>?_⟩;by_cases e:j=n
  .subst e;refine⟨v0,v1,v2,v3,?_,?_,?_,?_,h.nt.keep (by omega) A⟩;.rw[List.getElem?_append_right (by omega),show j*4-xs.length=0 by omega];rfl
   .rw[List.getElem?_append_right (by omega),show j*4+1-xs.length=1 by omega];rfl
   .rw[List.getElem?_append_right (by omega),show j*4+2-xs.length=2 by omega];rfl
   .rw[List.getElem?_append_right (by omega),show j*4+3-xs.length=3 by omega];rfl
  .have u:∃u0 u1 u2 u3,xs[j*4]?=some u0/\xs[j*4+1]?=some u1/\xs[j*4+2]?=some u2/\xs[j*4+3]?=some u3/\PR (SQ w (some (ad rg 0)) n rc) W u0 u1 u2 u3:=by
    by_cases y:j=ix;.subst y;exact⟨v0,v1,v2,v3,p.1,p.2.1,p.2.2.1,p.2.2.2,h.nt⟩
    .exact h.fl j (by omega) y
   obtain⟨u0,u1,u2,u3,J,M,y,K,q⟩:=u;refine⟨u0,u1,u2,u3,?_,?_,?_,?_,q.keep (by omega) A⟩;all_goals
    rw[List.getElem?_append_left (by omega)]
    assumption
 obtain⟨N,B,I⟩:=x.flat;refine⟨⟨(E.grown Ak (λq e=>by injection e with e;omega)).grown Ak (λq e=>by injection e with e;omega),AZ (AZ F Ak (λq e=>by injection e with e;omega)) Ak (λq e=>by injection e with e;omega),i,n+1,m,N,rfl,?_,by omega,I⟩,h.t.of_block (f _ h.t.lt (by omega)),h.r.of_block (f _ h.r.lt (by omega))⟩;exact (Bp.rowN G B).keep (Uq _) (by simp[World.setCell]) (λb l _=>(Ur _ _ _ _ (show b≠w.heap.size+1 by omega)).trans (Ur _ _ _ _ (show b≠w.heap.size by omega)))
theorem OD (h:Dw Z g w) (hZ:Z<=w.heap.size) (a:Option Addr) (n c:Nat) (N:Nat->Tn) (hr:Cb w a n N) (h1:1<=n) (hn:n<=5000) (hN:∀i,i<n->(N i).kn<=4/\(N i).dn<=4) (hK:∀i,i<n->∀j,j<(N i).kn->((N i).ks j).size<=16):UO 130 #[pt g,.agg #[.slice a n c]] w (Jh Z g w):=by
 have B0:=Ae (And.intro (DB.new h 59 59 #[.slice a n c] #[.slice none 0 0]) hZ);have ay:((w.alloc (.cells #[.slice a n c] 59)).alloc (.cells #[.slice none 0 0] 59)).heap.size=w.heap.size+2:=by simp
 have HC:U (UO 77 #[.agg #[.slice a n c]] ((w.alloc (.cells #[.slice a n c] 59)).alloc (.cells #[.slice none 0 0] 59)) (RR ((w.alloc (.cells #[.slice a n c] 59)).alloc (.cells #[.slice none 0 0] 59)) n N)):=J2 a n c N _ (hr.below ((Aa _ _).alloc (by simp) _)) (by omega) (λi hi=>⟨by have:=hN i hi;omega,by have:=hN i hi;omega⟩);have az:=Ae ay;have HN:=Ae hN;have a8:=Ae hZ;have bv:=Ae hK;clear h hZ ay hr hN hK;go_enter func130,ntmps130;go_upto_region 1 with fail
 generalize (w.alloc (.cells #[.slice a n c] 59)).alloc (.cells #[.slice none 0 0] 59)=W0 at B0 az HC ⊢;have G:=B0.o.1.a.cell 0;simp at G;go_wp2_with fail
 refine HC.o.mono ?_;rintro e w1 ⟨ah,O,rc,xs,rfl,ba,a6,bp⟩;rw[az.o] at ba a6;have D1:=B0.o.1.a.below ah;have y0:=D1.cell 0;have yf:=D1.frozen;have yl:=D1.lt;simp at y0;have H1:U (Dw Z g (w1.setCell (ad w.heap.size 0) (.slice O n rc))/\w.grownBy (w1.setCell (ad w.heap.size 0) (.slice O n rc)) (some g)/\Bx (w1.setCell (ad w.heap.size 0) (.slice O n rc)) w.heap.size 59 #[.slice O n rc]/\Bx (w1.setCell (ad w.heap.size 0) (.slice O n rc)) (w.heap.size+1) 59 #[.slice none 0 0]/\(w1.setCell (ad w.heap.size 0) (.slice O n rc)).ownsRow (w.heap.size+2) 168 4 (.slice O n rc) n xs/\Bp (SQ w O n rc) (w1.setCell (ad w.heap.size 0) (.slice O n rc)) n N xs):=by have hz:=B0.o.2;refine⟨(B0.o.1.dr.below ah).grown Ak (λq e=>by injection e with e;omega),AZ (BV B0.o.1.fr ah) Ak (λq e=>by injection e with e;omega),by simpa using D1.set 0 (.slice O n rc),(B0.o.1.b.below ah).other (by show w.heap.size+1≠_;simp) _,Dn (AC ba (ad w.heap.size 0) _ (by show w.heap.size<_;omega)) (by omega),?_⟩;refine a6.mono (by simp[World.setCell]) (λb H _=>⟨⟨by have:=H.1;omega,H.2⟩,Ur _ _ _ _ (show b≠w.heap.size by have:=H.1;omega)⟩)
 have HK:=Ae bp;clear ah ba a6 bp D1 B0 HC az;go_upto_region 2 with fail
 generalize w1.setCell (ad w.heap.size 0) (.slice O n rc)=V1 at H1 ⊢;clear G y0 yf yl;have G:=H1.o.2.2.1.cell 0;simp at G;go_wp2_with fail
 refine (Bd H1.o.1 (n:Int) (by omega) (by omega)).mono ?_;rintro e M ⟨_,rfl,⟨ix,rfl,ci⟩,hd,ho⟩;have s:ix<n:=by omega
 have cg:(0:Int)<=(ix:Int):=by omega
 have b9:=hd.lt;have H2:U (Dw Z g M/\w.grownBy M (some g)/\Bx M w.heap.size 59 #[.slice O n rc]/\Bx M (w.heap.size+1) 59 #[.slice none 0 0]/\M.ownsRow (w.heap.size+2) 168 4 (.slice O n rc) n xs/\Bp (SQ w O n rc) M n N xs/\Z<=w.heap.size):=by have hz:Z<=w.heap.size:=a8.o;have R:∀b,w.heap.size<=b->b<V1.heap.size->M.heap[b]?=V1.heap[b]?:=λb H hl=>ho.block b hl (λe=>by injection e with e;omega);exact⟨hd,Az H1.o.2.1 ho,H1.o.2.2.1.of_block (R _ (by omega) H1.o.2.2.1.lt),H1.o.2.2.2.1.of_block (R _ (by omega) H1.o.2.2.2.1.lt),AK H1.o.2.2.2.2.1 (λq e=>R q (by have:=(Ah H1.o.2.2.2.2.1 q e).1;omega) (Ah H1.o.2.2.2.2.1 q e).2),H1.o.2.2.2.2.2.mono ho.size (λb H hl=>⟨H,R b (by have:=H.1;omega) hl⟩),hz⟩
 clear hd ho H1 G b9;obtain⟨a',c',e4,br⟩:=Af H2.o.2.2.2.2.1;injection e4 with e4 e5 e6;subst e4 e6;clear e5;obtain⟨rg,rfl,cf,bk,ag⟩:=br (by omega);have a3:=Ae (H2.o.2.2.2.2.2.1.flt HN.o);obtain⟨v0,v1,v2,v3,s0,s1,s2,s3,ht⟩:=a3.o.2 ix s;have p0:=ag _ _ s0;have p1:=ag _ _ s1;have p2:=ag _ _ s2;have p3:=ag _ _ s3;have HT:=Ae ht;have bu:=Ae (And.intro s0 (And.intro s1 (And.intro s2 s3)));obtain⟨lf,ka,A,kc,da,Q,dc,ct,rfl,rfl,rfl,rfl,-⟩:=ht;have bj:U (∀k,ka=some (ad k 0)->0<A->k≠g/\∃s0:ByteArray,M.cell? (ad k 0)=some (.string s0)/\s0.size<=16):=λk e I=>by
  obtain⟨u0,u1,u2,u3,f0,f1,f2,f3,_,_,au,aq,_,_,y,_,r1,_⟩:=H2.o.2.2.2.2.2.1.2 ix s;rw[s1] at f1;injection f1 with f1;rw[<- f1] at y;injection y with y e2 e3;subst y;rcases r1.1 with q|⟨b,eb,b7,_,hc⟩;.omega
  .rw[e] at eb;injection eb with eb;injection eb with eb;subst eb;have:=H2.o.1.lt;have:=b7.1;have:=a8.o;exact⟨by omega,_,hc 0 (by omega),bv.o ix s 0 (by omega)⟩
 have H3:U (LS Z g w M.heap.size n ix (some (ad rg 0)) rc xs (.bool lf) (.slice ka A kc) (.slice da Q dc) (iv ct) (M.alloc (.cells #[.bool lf,.slice ka A kc,.slice da Q dc,iv ct] 168))):=by
  have H:=Aa M (.cells #[.bool lf,.slice ka A kc,.slice da Q dc,iv ct] 168);have hS:∀b,SQ w (some (ad rg 0)) n rc b->b<M.heap.size->SQ w (some (ad rg 0)) n rc b/\(M.alloc (.cells #[.bool lf,.slice ka A kc,.slice da Q dc,iv ct] 168)).heap[b]?=M.heap[b]?:=λb h1 h2=>⟨h1,H.block b h2⟩;refine⟨H2.o.1.below H,BV H2.o.2.1 H,H2.o.2.2.1.below H,H2.o.2.2.2.1.below H,Ag H2.o.2.2.2.2.1 H,λj hj bq=>?_,Bx.new _ _ _,HT.o.keep (by simp) hS,λj hj bq b e=>HK.o ix j s hj (λe=>bq e.symm) b (by unfold MG;rw[s1];exact e),λe=>?_,by omega,H2.o.2.2.2.2.2.2⟩;.obtain⟨u0,u1,u2,u3,f0,f1,f2,f3,q⟩:=a3.o.2 j hj;exact⟨u0,u1,u2,u3,f0,f1,f2,f3,q.keep (by simp) hS⟩
  .have:rg=M.heap.size:=by simpa[Value.ownBlock] using e
   omega
 have G:=H2.o.2.2.1.cell 0;simp at G;go_upto_region 4 with fail
 obtain⟨nb,bc⟩:∃nb,nb=M.heap.size:=⟨_,rfl⟩;rw[<- bc] at H3 ⊢;have ap:=Ae (Aa M (.cells #[.bool lf,.slice ka A kc,.slice da Q dc,iv ct] 168));generalize M.alloc (.cells #[.bool lf,.slice ka A kc,.slice da Q dc,iv ct] 168)=V3 at H3 ap ⊢;have b8:U (A<=4):=by obtain⟨u0,u1,u2,u3,f0,f1,f2,f3,_,_,au,aq,_,_,y,_⟩:=H2.o.2.2.2.2.2.1.2 ix s;rw[bu.o.2.1] at f1;injection f1 with f1;rw[<- f1] at y;injection y with y e2 e3;rw[e2];exact (HN.o ix s).1
 clear bc G p0 p1 p2 p3 s0 s1 s2 s3 HT H2 HK ag br bk a3 HN bv;go_wp2_with fail
 refine (Bd H3.o.dr 9 (by omega) (by omega)).mono ?_;rintro e P ⟨_,rfl,⟨sw,rfl,b5⟩,hd,ho⟩;have d:=Ae (H3.o.draw hd ho);have bz:U (∀k,k≠g->∀s0:ByteArray,M.cell? (ad k 0)=some (.string s0)->P.cell? (ad k 0)=some (.string s0)):=λk R s0 hs=>(World.cell?_of_block (a:=(ad k 0)) (ho.block k (UB (Uo _ _ hs) ap.o.size) (λe=>R (by injection e with e)))).trans ((ap.o.cell (Uo _ _ hs)).trans hs);clear hd ho H3 ap;go_upto_block 0 with fail
 go_cut [5] from 22 to 116 (λs5 wx=>s5=iv (ix:Int)/\U (NU Z g w nb n ix rg rc xs wx))
 case first=>
  have bw:sw=0\/sw=1\/sw=2\/sw=3\/sw=4\/sw=5\/sw=6\/sw=7\/sw=8:=by omega
  clear b5;rcases bw with rfl|rfl|rfl|rfl|rfl|rfl|rfl|rfl|rfl
  .have F:=d.o.bn.cell 0;have B:=d.o.bn.cell 1;have E:=d.o.bn.cell 2;have D:=d.o.bn.cell 3;simp at F B E D;have bf:=d.o.bn.frozen;have bl:=d.o.bn.lt;obtain⟨x,hx⟩:∃x,IntKind.i64.wrap (ct+1)=x:=⟨_,rfl⟩;have C:U (NU Z g w nb n ix rg rc xs (P.setCell (ad nb 3) (iv x))):=⟨_,_,_,_,_,_,_,_,d.o.count x⟩;clear d;go_wp2;go_meet
   exact⟨rfl,C⟩
  .have F:=d.o.bn.cell 0;have B:=d.o.bn.cell 1;have E:=d.o.bn.cell 2;have D:=d.o.bn.cell 3;simp at F B E D;have bf:=d.o.bn.frozen;have bl:=d.o.bn.lt;have C:U (NU Z g w nb n ix rg rc xs (P.setCell (ad nb 0) (.bool (!lf)))):=⟨_,_,_,_,_,_,_,_,d.o.leaf (!lf)⟩;clear d;go_wp2;go_meet
   exact⟨rfl,C⟩
  .have F:=d.o.bn.cell 0;have B:=d.o.bn.cell 1;have E:=d.o.bn.cell 2;have D:=d.o.bn.cell 3;simp at F B E D;have bf:=d.o.bn.frozen;have bl:=d.o.bn.lt;rcases Nat.eq_zero_or_pos A with I|I
   .have X:¬ (0:Int)<(A:Int):=by omega
    have a2:¬ 0<A:=by omega
    clear I;have C:U (NU Z g w nb n ix rg rc xs P):=⟨_,_,_,_,_,_,_,_,d.o⟩;clear d;go_wp2;go_meet
    exact⟨rfl,C⟩
   .have X:(0:Int)<(A:Int):=by omega
    obtain⟨ar,ax,av,al,aw,an,ao,ak,-,y,-,-,r1,-⟩:=d.o.nt;injection y with y J m;subst y J m;obtain⟨k,rfl⟩:=r1.here (by omega);obtain⟨-,⟨s1,aj⟩,kf,kl,a7⟩:=d.o.key (o:=0) I { data:=#[] };obtain⟨cc,s0,b6,am⟩:=bj.o k rfl I;have ab:=bz.o k cc s0 b6;rw[aj] at ab;injection ab with ab;injection ab with ab;subst ab;have cu:¬ 9223372036854775807<s1.size+1:=by omega
    obtain⟨Y,hY⟩:∃Y,s1++{ data:=#[122] }=Y:=⟨_,rfl⟩;have C:U (NU Z g w nb n ix rg rc xs (P.setCell (ad k 0) (.string Y)).drew):=⟨_,_,_,_,_,_,_,_,(d.o.key (o:=0) I Y).1.below (Up _ _).drew⟩;clear r1 d;go_upto_region 12 with fail
    go_region
    go_wp2;go_meet
    exact⟨rfl,C⟩
  .have F:=d.o.bn.cell 0;have B:=d.o.bn.cell 1;have E:=d.o.bn.cell 2;have D:=d.o.bn.cell 3;simp at F B E D;have bf:=d.o.bn.frozen;have bl:=d.o.bn.lt;rcases Nat.eq_zero_or_pos Q with I|I
   .have X:¬ (0:Int)<(Q:Int):=by omega
    have a2:¬ 0<Q:=by omega
    clear I;have C:U (NU Z g w nb n ix rg rc xs P):=⟨_,_,_,_,_,_,_,_,d.o⟩;clear d;go_wp2;go_meet
    exact⟨rfl,C⟩
   .have X:(0:Int)<(Q:Int):=by omega
    obtain⟨ar,ax,av,al,aw,an,ao,ak,-,-,y,-,-,r1,R,cb⟩:=d.o.nt;injection y with y J m;subst y J m;obtain⟨k,rfl⟩:=r1.here (by omega);obtain⟨-,⟨s1,aj⟩,kf,kl,a7⟩:=d.o.kid (o:=0) I 0;obtain⟨x,hx⟩:∃x,IntKind.i64.wrap (s1+1)=x:=⟨_,rfl⟩;have C:U (NU Z g w nb n ix rg rc xs (P.setCell (ad k 0) (iv x)).drew):=⟨_,_,_,_,_,_,_,_,(d.o.kid (o:=0) I x).1.below (Up _ _).drew⟩;clear r1 d;go_upto_region 15 with fail
    go_region
    go_wp2;go_meet
    exact⟨rfl,C⟩
  .have F:=d.o.bn.cell 0;have B:=d.o.bn.cell 1;have E:=d.o.bn.cell 2;have D:=d.o.bn.cell 3;simp at F B E D;have bf:=d.o.bn.frozen;have bl:=d.o.bn.lt;obtain⟨ar,ax,av,al,aw,an,ao,ak,-,y,-,-,⟨-,⟨L,oL⟩,oS⟩,-,cm,-⟩:=d.o.nt;injection y with y J m;subst y J m;obtain⟨-,-,⟨bi,au,bt,aq,b4,be,bd,bo,-,e2,-,-,r2,-⟩⟩:=And.intro trivial (And.intro trivial d.o.nt);injection e2 with e2 cd bh;subst e2 cd bh;have ce:∃L,P.ownsRow 0 9 1 (.slice ka A kc) A L/\∀u∈L,Jp u:=Hx.list r2;obtain⟨L,oL,hL⟩:=ce;have cj:=b8.o;obtain⟨i0,a4,am,a1,a9⟩:=info_parts info9;go_wp2_with (at_builtin;refine JM rfl _ _ 88 9 rfl underlying88 a4 am a1 a9 rfl (by decide) 0 (.slice ka A kc) A L rfl (Ag oL (Aa _ _)) P.heap.size #[.string { data:=#[122,122,122,122,122] }] (Bx.new _ _ _) rfl rfl (λu hu=>by simp at hu;subst hu;rfl) (by omega) (by omega) (Us _) ?_)
   intro v5 w5 aa af ae;obtain⟨a5,c5,rfl,-⟩:=Af aa;obtain⟨bb,V⟩:=d.o.app (a':=a5) (c':=c5) (by omega) aa (λu hu=>by
    rcases List.mem_append.1 hu with q|q;.exact hL u q
    .simp at q;subst q;exact⟨_,rfl⟩) af (by rw[UF];exact ae)
   have C:U (NU Z g w nb n ix rg rc xs (w5.setCell (ad nb 1) (.slice a5 (A+1) c5))):=⟨_,_,_,_,_,_,_,_,bb⟩;clear F B E D bf bl;have B:=V.cell 1;simp at B;have bf:=V.frozen;have bl:=V.lt;clear bb V aa af ae oL hL r2 oS d;go_wp2;go_meet
   exact⟨rfl,C⟩
  .have F:=d.o.bn.cell 0;have B:=d.o.bn.cell 1;have E:=d.o.bn.cell 2;have D:=d.o.bn.cell 3;simp at F B E D;have bf:=d.o.bn.frozen;have bl:=d.o.bn.lt;rcases Nat.eq_zero_or_pos Q with I|I
   .have X:¬ (0:Int)<(Q:Int):=by omega
    have a2:¬ 0<Q:=by omega
    clear I;have C:U (NU Z g w nb n ix rg rc xs P):=⟨_,_,_,_,_,_,_,_,d.o⟩;clear d;go_wp2;go_meet
    exact⟨rfl,C⟩
   .have X:(0:Int)<(Q:Int):=by omega
    obtain⟨ar,ax,av,al,aw,an,ao,ak,-,-,y,-,-,r1,R,cb⟩:=d.o.nt;injection y with y J m;subst y J m;obtain⟨k,rfl⟩:=r1.here (by omega);obtain⟨q,rfl⟩:∃q,Q=q+1:=⟨Q-1,by omega⟩;obtain⟨-,⟨s1,aj⟩,kf,kl,a7⟩:=d.o.kid (o:=q) (by omega) 0;have C:U (NU Z g w nb n ix rg rc xs (P.setCell (ad k q) (iv 0))):=⟨_,_,_,_,_,_,_,_,(d.o.kid (o:=q) (by omega) 0).1⟩;have cr:q<100:=by omega
    have cl:IntKind.i64.wrap (((q+1:Nat):Int)-1)=(q:Int):=by rw[Uv];omega
    have ck:wrap64 (q:Int)=(q:Int):=by unfold wrap64;omega
    have cs:((q+1:Nat):Int)-1=(q:Int):=by omega
    have co:(q:Int)<((q+1:Nat):Int):=by omega
    clear r1 d;go_wp2;go_meet
    exact⟨rfl,C⟩
  .have F:=d.o.bn.cell 0;have B:=d.o.bn.cell 1;have E:=d.o.bn.cell 2;have D:=d.o.bn.cell 3;simp at F B E D;have bf:=d.o.bn.frozen;have bl:=d.o.bn.lt;have G:=d.o.t.cell 0;have y0:=d.o.r.cell 0;simp at G y0;have xf:=d.o.t.frozen;have xl:=d.o.t.lt;have yf:=d.o.r.frozen;have yl:=d.o.r.lt;obtain⟨O,a0⟩:∃O,U (O=some ((ad rg 0):Addr)):=⟨_,Ae rfl⟩;have cp:w.heap.size+2<=P.heap.size:=by have:=d.o.gl.1;omega
   have bm:P.ownsRow (w.heap.size+2) 168 4 (.slice O n rc) n xs:=by rw[a0.o];exact d.o.row
   rw[<- a0.o] at G;obtain⟨i0,a4,am,a1,a9⟩:=info_parts info168;go_wp2_with (at_builtin;refine JM rfl _ _ 57 168 rfl underlying57 a4 am a1 a9 rfl (by decide) (w.heap.size+2) (.slice O n rc) n xs rfl (Ag bm (Aa _ _)) P.heap.size #[.bool lf,.slice ka A kc,.slice da Q dc,iv ct] (Bx.new _ _ _) rfl rfl (λu hu=>by simp at hu;rcases hu with rfl|rfl|rfl|rfl <;> rfl) (by omega) (by omega) (by rw[UF];omega) ?_)
   intro v5 w5 aa af ae;obtain⟨a5,c5,rfl,-⟩:=Af aa;rw[a0.o] at af;have f:=d.o.more s hn bu.o aa af;clear G y0 xf xl yf yl F B E D bf bl;have G:=f.2.1.cell 0;have y0:=f.2.2.cell 0;simp at G y0;have xf:=f.2.1.frozen;have xl:=f.2.1.lt;have yf:=f.2.2.frozen;have yl:=f.2.2.lt;have HR:=Ae f.1;clear f aa af ae d;go_wp2;refine bodyPost_ret (v:=.agg #[.slice a5 (n+1) c5]) (by simp[results,results130,go_sem,y0]) rfl ?_;exact HR.o
  .have F:=d.o.bn.cell 0;have B:=d.o.bn.cell 1;have E:=d.o.bn.cell 2;have D:=d.o.bn.cell 3;simp at F B E D;have bf:=d.o.bn.frozen;have bl:=d.o.bn.lt;have G:=d.o.t.cell 0;have y0:=d.o.r.cell 0;simp at G y0;have xf:=d.o.t.frozen;have xl:=d.o.t.lt;have yf:=d.o.r.frozen;have yl:=d.o.r.lt;have ch:∀W:World,(Instr.sliceAt 57 (.slice (some (ad rg 0)) n rc) none (some (iv (ix:Int))) none).run prog W=.ok (.slice (some (ad rg 0)) ix rc) W:=OR rg n rc ix (by omega) (AS d.o.row).1;have HR:=Ae (d.o.cut s hn (P.setCell (ad w.heap.size 0) (.slice (some (ad rg 0)) ix rc)) rfl);clear d;go_wp2;refine bodyPost_ret (v:=.agg #[.slice (some (ad rg 0)) ix rc]) (by simp[results,results130,go_sem,y0]) rfl ?_;exact HR.o
  .have F:=d.o.bn.cell 0;have B:=d.o.bn.cell 1;have E:=d.o.bn.cell 2;have D:=d.o.bn.cell 3;simp at F B E D;have bf:=d.o.bn.frozen;have bl:=d.o.bn.lt;rcases Nat.eq_zero_or_pos A with I|I
   .have X:¬ (0:Int)<(A:Int):=by omega
    have a2:¬ 0<A:=by omega
    clear I;have C:U (NU Z g w nb n ix rg rc xs P):=⟨_,_,_,_,_,_,_,_,d.o⟩;clear d;go_wp2;go_meet
    exact⟨rfl,C⟩
   .have X:(0:Int)<(A:Int):=by omega
    obtain⟨ar,ax,av,al,aw,an,ao,ak,-,y,-,-,r1,-⟩:=d.o.nt;injection y with y J m;subst y J m;obtain⟨k,rfl⟩:=r1.here (by omega);obtain⟨-,⟨s1,aj⟩,kf,kl,a7⟩:=d.o.key (o:=0) I { data:=#[] };have l:U (∀W,Bl P W->W.cell? (ad nb 1)=some (.slice (some (ad k 0)) A kc)/\W.cell? (ad k 0)=some (.string s1)/\W.frozen? (ad k 0)=false):=λW H=>by have q:=d.o.below H;have q1:=q.bn.cell 1;simp at q1;obtain⟨-,⟨s2,ab⟩,q3,-⟩:=q.key (o:=0) I { data:=#[] };have q4:=(H.cell (p:=(ad k 0)) kl).trans aj;exact⟨q1,q4,q3 0⟩
    have bx:U (∀W,Bl P W->∀Y,(W.cell? (ad nb 1)=some (.slice (some (ad k 0)) A kc)/\W.cell? (ad k 0)=some (.string s1)/\W.frozen? (ad k 0)=false)/\NU Z g w nb n ix rg rc xs (W.setCell (ad k 0) (.string Y))):=λW H Y=>⟨l.o W H,_,_,_,_,_,_,_,_,((d.o.below H).key (o:=0) I Y).1⟩;clear r1;go_upto_region 29 with fail
    refine Aj (S:=(λw'=>w'.cell? (ad nb 1)=some (.slice (some (ad k 0)) A kc)/\w'.cell? (ad k 0)=some (.string s1)/\w'.frozen? (ad k 0)=false)) 5 (by kernel_rfl) ?_ (λz=>?_);·((try dsimp only);(first|exact l.o _ (Up _ _).drew|exact l.o _ B5.o))
    refine tz 0 rfl ?_;refine tz 1 rfl ?_;refine At 2 rfl (λK hK=>?_);refine Pu (by rfl) 149 (iv 17) _ (by rfl) (λ_ _=>rfl) ?_;refine (QY 17 P.drew (by omega)).mono ?_;rintro e w5 ⟨a5,c5,rfl,bs,V⟩;refine⟨_,rfl,?_⟩;have B5:=Ae (Ad V);have ca:=Sg bs (by omega) c5;obtain⟨Y,hY⟩:∃Y,strOfNums ((List.range 17).map λ_=>0)=Y:=⟨_,rfl⟩;rw[hY] at ca;obtain⟨q5,l5⟩:=bx.o w5 B5.o Y;have z1:=q5.1;have z2:=q5.2.1;have z3:=q5.2.2;clear V bs;refine tL hK (by (try dsimp only);(first|exact l.o _ (Up _ _).drew|exact l.o _ B5.o)) ?_;clear hK K z;intro z;try simp only[Ay]
    refine At 3 rfl (λK hK=>?_);go_simp;refine tL hK (by (try dsimp only);(first|exact l.o _ (Up _ _).drew|exact l.o _ B5.o)) ?_;clear hK K z;intro z;try simp only[Ay]
    refine At 4 rfl (λK hK=>?_);go_simp;refine tL hK (by (try dsimp only);(first|exact l.o _ (Up _ _).drew|exact l.o _ B5.o)) ?_;clear hK K z;intro z;try simp only[Ay]
    refine At 5 rfl (λK hK=>?_);go_simp;refine tM hK ?_;clear hK K;have C:U (NU Z g w nb n ix rg rc xs (w5.setCell (ad k 0) (.string Y))):=l5;clear d l bx l5;go_wp2;go_meet
    exact⟨rfl,C⟩
 case rest=>
  obtain⟨rfl,C⟩:=hcut;clear d bj bz;obtain⟨bi,au,bt,aq,b4,be,bd,bo,hl⟩:=C.o;obtain⟨cn,ac,bg⟩:=Ce hl.row;have T:∀j,j<n*4->∃u,wc.cell? (ad rg j)=some u:=λj hj=>by have cq:=hl.row.1;have e:xs[j]?=some (xs[j]'(by omega)):=Ut (by omega);exact⟨_,(ac.cell j).trans (bg j _ e)⟩
  obtain⟨u0,p0⟩:=T (ix*4) (by omega);obtain⟨u1,p1⟩:=T (ix*4+1) (by omega);obtain⟨u2,p2⟩:=T (ix*4+2) (by omega);obtain⟨u3,p3⟩:=T (ix*4+3) (by omega);have pf:=ac.frozen;have pl:=ac.lt;have F:=hl.bn.cell 0;have B:=hl.bn.cell 1;have E:=hl.bn.cell 2;have D:=hl.bn.cell 3;have G:=hl.t.cell 0;simp at F B E D G;have HB:=Ae (hl.back s);clear hl C ac bg T;go_upto_region 31 with fail
  generalize (((wc.setCell (ad rg (ix*4)) (.bool bi)).setCell (ad rg (ix*4+1)) (.slice au bt aq)).setCell (ad rg (ix*4+2)) (.slice b4 be bd)).setCell (ad rg (ix*4+3)) (iv bo)=V5 at HB ⊢;clear p0 p1 p2 p3 pf pl F B E D G;have G:=HB.o.2.2.1.cell 0;have y0:=HB.o.2.2.2.1.cell 0;simp at G y0;have yf:=HB.o.2.2.2.1.frozen;have yl:=HB.o.2.2.2.1.lt;have HR:=Ae (Jh.of (c:=rc) (v:=.slice (some (ad rg 0)) n rc) HB.o hn a8.o);clear HB;go_wp2;refine bodyPost_ret (v:=.agg #[.slice (some (ad rg 0)) n rc]) (by simp[results,results130,go_sem,y0]) rfl ?_;exact HR.o
end Go.Proofs.YtcnollkkigiobaaGreat
