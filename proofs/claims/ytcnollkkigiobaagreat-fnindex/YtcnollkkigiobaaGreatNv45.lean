import Derived.Test.YtcnollkkigiobaaGreatNv42
import Derived.Test.YtcnollkkigiobaaGreatNv44
set_option linter.unusedVariables false
set_option linter.unusedSimpArgs false
set_option maxRecDepth 100000
set_option maxHeartbeats 90000000
namespace Go.Proofs.YtcnollkkigiobaaGreat
open Go Go.Deep Go.RowKit Go.Proofs.Tryz
def PT (w:World) (e:Ending) (w' : World):Prop:=∃a n c M T q j,e=.returned (.tuple #[.agg #[.slice a n c],qv q,iv j])/\Ci w' a n M T/\BF n M T/\n<=6/\Bl w w'
structure QO (w:World) (Z g b6 b7:Nat) (a:Option Addr) (n c:Nat) (M:Nat->Nat) (T:Nat->Nat->Tn) (s p o k:Int) (W:World):Prop where
 dr:Dw Z g W
 bel:Bl w W
 r1:Bx W w.heap.size 32 #[.slice none 0 0]
 r2:Bx W (w.heap.size+1) 34 #[iv 0,iv 0,iv 0,iv 0]
 t:Bx W b6 32 #[.slice a n c]
 q:Bx W b7 34 #[iv s,iv p,iv o,iv k]
 ix:NI (λb=>w.heap.size+3<=b) W a n M T
 gl:g=w.heap.size+2/\g<b6/\b6<b7/\BF n M T/\n<=6
section
variable {w W W' : World} {Z g b6 b7:Nat} {a:Option Addr} {n c:Nat} {M:Nat->Nat} {T:Nat->Nat->Tn} {s p o k:Int}
theorem QO.draw (h:QO w Z g b6 b7 a n c M T s p o k W) (m:Dw Z g W') (i:W.grownBy W' (some g)):QO w Z g b6 b7 a n c M T s p o k W':=by have l:=h.gl;have d:∀b,b≠g->b<W.heap.size->W'.heap[b]?=W.heap[b]?:=λb j f=>i.block b f (λe=>j (by injection e with e));exact⟨m,h.bel.grown i h.bel.size (λq e=>by injection e with e;omega),h.r1.of_block (d _ (by omega) h.r1.lt),h.r2.of_block (d _ (by omega) h.r2.lt),h.t.of_block (d _ (by omega) h.t.lt),h.q.of_block (d _ (by omega) h.q.lt),h.ix.keep i.size (λb j f=>⟨j,d b (by omega) f⟩),l⟩
theorem QO.below (h:QO w Z g b6 b7 a n c M T s p o k W) (d:Bl W W'):QO w Z g b6 b7 a n c M T s p o k W':=
 ⟨h.dr.below d,h.bel.trans (d.mono h.bel.size),h.r1.below d,h.r2.below d,h.t.below d,h.q.below d,h.ix.keep d.size (λb f e=>⟨f,d.block b e⟩),h.gl⟩
theorem QO.fin (h:QO w Z g b6 b7 a n c M T s p o k W) (j:Int):PT w (.returned (.tuple #[.agg #[.slice a n c],.agg #[iv s,iv p,iv o,iv k],iv j])) (((((W.setCell (ad w.heap.size 0) (.slice a n c)).setCell (ad (w.heap.size+1) 0) (iv s)).setCell (ad (w.heap.size+1) 1) (iv p)).setCell (ad (w.heap.size+1) 2) (iv o)).setCell (ad (w.heap.size+1) 3) (iv k)).drew:=by have e:=h.gl;have f:=(Up ((((((W.setCell (ad w.heap.size 0) (.slice a n c)).setCell (ad (w.heap.size+1) 0) (iv s)).setCell (ad (w.heap.size+1) 1) (iv p)).setCell (ad (w.heap.size+1) 2) (iv o)).setCell (ad (w.heap.size+1) 3) (iv k)).heap.size) (((((W.setCell (ad w.heap.size 0) (.slice a n c)).setCell (ad (w.heap.size+1) 0) (iv s)).setCell (ad (w.heap.size+1) 1) (iv p)).setCell (ad (w.heap.size+1) 2) (iv o)).setCell (ad (w.heap.size+1) 3) (iv k))).drew;have d:Bl w (((((W.setCell (ad w.heap.size 0) (.slice a n c)).setCell (ad (w.heap.size+1) 0) (iv s)).setCell (ad (w.heap.size+1) 1) (iv p)).setCell (ad (w.heap.size+1) 2) (iv o)).setCell (ad (w.heap.size+1) 3) (iv k)):=((((h.bel.setCell (by simp) _).setCell (by simp) _).setCell (by simp) _).setCell (by simp) _).setCell (by simp) _;refine⟨a,n,c,M,T,⟨s,p,o,k⟩,j,rfl,(FV.below (NI.ixw (Z:=0) (h.ix.keep (S':=λ_=>True) (by simp[World.setCell]) (λb l i=>⟨trivial,?_⟩)) (λ_ _=>Us _)) f).rdC,e.2.2.2.1,e.2.2.2.2,d.trans (f.mono d.size)⟩;exact (Ur _ _ _ _ (show b≠w.heap.size+1 by omega)).trans ((Ur _ _ _ _ (show b≠w.heap.size+1 by omega)).trans ((Ur _ _ _ _ (show b≠w.heap.size+1 by omega)).trans ((Ur _ _ _ _ (show b≠w.heap.size+1 by omega)).trans (Ur _ _ _ _ (show b≠w.heap.size by omega)))))
end
theorem Kl (ba:Option Addr) (bn bc:Nat) (f:Nat->Int) (w:World) (al:Rd .u8 w ba bn f) (hn:bn<=1048576) (hf:∀j,j<bn->0<=f j/\f j<256):UO 24 #[.slice ba bn bc] w (PT w):=by
 obtain⟨W0,X⟩:=gn ((w.alloc (.cells #[.slice none 0 0] 32)).alloc (.cells #[iv 0,iv 0,iv 0,iv 0] 34));have B0:U (Bx W0 w.heap.size 32 #[.slice none 0 0]/\Bx W0 (w.heap.size+1) 34 #[iv 0,iv 0,iv 0,iv 0]/\Bl w W0/\W0.heap.size=w.heap.size+2):=by have b2:=Bx.new (w.alloc (.cells #[.slice none 0 0] 32)) #[iv 0,iv 0,iv 0,iv 0] 34;rw[UF] at b2;rw[X];exact⟨(Bx.new _ _ _).alloc _,b2,(Aa _ _).alloc (by simp) _,by simp⟩
 have F:=Ae (And.intro al hf);clear al hf;go_enter func24,ntmps24;go_upto_region 1 with fail
 rw[<- X];clear X;go_wp2_with fail
 refine (QX ba bn bc f W0 (F.o.1.below B0.o.2.2.1) hn F.o.2).mono ?_;rintro e R ⟨rfl,H,G⟩;obtain⟨g,hg⟩:=gn W0.heap.size;rw[<- hg] at H ⊢;have z:=hg.trans B0.o.2.2.2;have HG:=Ae z;have ag:Dw (w.heap.size+3) g R:=⟨ba,bn,bc,f,_,H,by omega,λh0 x e=>by have:=Ij F.o.1 h0 x e;omega⟩
 have A:U (Dw (w.heap.size+3) g R/\Bl w R/\Bx R w.heap.size 32 #[.slice none 0 0]/\Bx R (w.heap.size+1) 34 #[iv 0,iv 0,iv 0,iv 0]/\w.heap.size+3<=R.heap.size):=⟨ag,B0.o.2.2.1.trans (G.mono B0.o.2.2.1.size),B0.o.1.below G,B0.o.2.1.below G,by have:=H.lt;omega⟩;clear ag H G B0 F hg z;go_wp2_with fail
 refine (Rn A.o.1 A.o.2.2.2.2 ba bn bc hn).mono ?_;rintro e m ⟨ae,C,a,n,c,M,T,rfl,am,ab,aj⟩;have HF:=Ae (And.intro ab aj);have h:U (Dw (w.heap.size+3) g (m.alloc (.cells #[.slice a n c] 32))/\Bl w (m.alloc (.cells #[.slice a n c] 32))/\Bx (m.alloc (.cells #[.slice a n c] 32)) w.heap.size 32 #[.slice none 0 0]/\Bx (m.alloc (.cells #[.slice a n c] 32)) (w.heap.size+1) 34 #[iv 0,iv 0,iv 0,iv 0]/\Bx (m.alloc (.cells #[.slice a n c] 32)) m.heap.size 32 #[.slice a n c]/\FV (w.heap.size+3) (m.alloc (.cells #[.slice a n c] 32)) a n M T/\w.heap.size+3<=m.heap.size/\(m.alloc (.cells #[.slice a n c] 32)).heap.size=m.heap.size+1):=by have z:=HG.o;have hz:=C.size;have au:=A.o.2.2.2.2;have Y:∀b,b≠g->b<R.heap.size->m.heap[b]?=R.heap[b]?:=λb l hl=>C.block b hl (λe=>l (by injection e with e));have l:=Aa m (.cells #[.slice a n c] 32);have u:=A.o.2.1.grown C A.o.2.1.size (λq e=>by injection e with e;omega);exact⟨ae.below l,u.trans (l.mono u.size),(A.o.2.2.1.of_block (Y _ (by omega) A.o.2.2.1.lt)).below l,(A.o.2.2.2.1.of_block (Y _ (by omega) A.o.2.2.2.1.lt)).below l,Bx.new _ _ _,(am.low (by omega)).below l,by omega,by simp⟩
 clear ae C am ab aj A;go_upto_region 3 with fail
 obtain⟨b6,ac⟩:=gn m.heap.size;rw[<- ac] at h ⊢;generalize m.alloc (.cells #[.slice a n c] 32)=V3 at h ⊢;have x0:=h.o.2.2.2.2.1.cell 0;simp at x0;clear ac;go_wp2_with fail
 refine (P3 h.o.1 (by have:=h.o.2.2.2.2.2.2;omega) a n c M T h.o.2.2.2.2.2.1 HF.o.1 HF.o.2).mono ?_;rintro e w4 ⟨ah,aa,q4,rfl⟩;go_wp2_with fail
 refine (LF ah (by have:=h.o.2.2.2.2.2.2;have:=aa.size;omega) q4).mono ?_;rintro e w5 ⟨an,ak,⟨s,p,o,k⟩,rfl⟩;rw[show qv ⟨s,p,o,k⟩=.agg #[iv s,iv p,iv o,iv k] from rfl];have D:=Az aa ak;obtain⟨b7,r⟩:=gn w5.heap.size;have HS:U (QO w (w.heap.size+3) g b6 b7 a n c M T s p o k (w5.alloc (.cells #[iv s,iv p,iv o,iv k] 34))):=by have z:=HG.o;have hz:=D.size;obtain⟨h1,h2,h3,h4,h5,h6,h7,h8⟩:=h.o;have Y:∀b,b≠g->b<V3.heap.size->w5.heap[b]?=V3.heap[b]?:=λb l hl=>D.block b hl (λe=>l (by injection e with e));have l:=Aa w5 (.cells #[iv s,iv p,iv o,iv k] 34);have u:=h2.grown D h2.size (λq e=>by injection e with e;omega);refine⟨an.below l,u.trans (l.mono u.size),(h3.of_block (Y _ (by omega) h3.lt)).below l,(h4.of_block (Y _ (by omega) h4.lt)).below l,(h5.of_block (Y _ (by omega) h5.lt)).below l,r ▸ Bx.new _ _ _,?_,⟨z,by omega,by omega,HF.o.1,HF.o.2⟩⟩;have hx:=h6.keep (w':=w5) hz (λb l hl=>Y b (by omega) hl);exact (hx.below l).ixs.keep (Uq _) (λb l _=>⟨l.1,rfl⟩)
 clear ah aa an ak D h HF x0 HG;show _;go_upto_region 4 with fail
 rw[<- r];generalize w5.alloc (.cells #[iv s,iv p,iv o,iv k] 34)=V5 at HS ⊢;clear r;go_wp2_with fail
 refine (Bd HS.o.dr 6 (by omega) (by omega)).mono ?_;rintro e w6 ⟨_,rfl,⟨j,rfl,hj⟩,hd,ho⟩;have H6:=Ae (HS.o.draw hd ho);clear hd ho HS;go_wp2;go_loopw [8,9] (λsj si wr=>∃j i:Nat,sj=iv j/\si=iv i/\j<6/\i<=6/\U (QO w (w.heap.size+3) g b6 b7 a n c M T s p o k wr)) (λ_ si _=>6-(intOf si).toNat)
 case atStart=>exact⟨j,0,rfl,rfl,by omega,by omega,H6⟩
 case round=>
  clear H6;obtain⟨j,i,rfl,rfl,av,aq,d⟩:=hrel;have j0:(0:Int)<=(j:Int):=by omega
  have i0:(0:Int)<=(i:Int):=by omega
  by_cases ar:i<6
  .have i1:(i:Int)<6:=by omega
   obtain⟨B,hB,-⟩:=Tg (j:Int) ⟨s,p,o,k⟩;have HE:=Ae (λW=>(hB W).1);clear hB;have J:=d.o.q.cell 0;have N:=d.o.q.cell 1;have I:=d.o.q.cell 2;have O:=d.o.q.cell 3;simp at J N I O;go_wp2_with fail
   refine (HE.o _).mono ?_;rintro e w7 ⟨rfl,r⟩;have D7:=Ae (d.o.below r);clear r d J N I O HE;cases B
   .go_wp2_with fail
    refine (Bd D7.o.dr 8 (by omega) (by omega)).mono ?_;rintro e w8 ⟨_,rfl,⟨y,rfl,-⟩,hd,ho⟩;have d:=Ae (D7.o.draw hd ho);clear hd ho D7;rcases Nat.eq_zero_or_pos y with hy|hy
    .have ap:¬ (0:Int)<(y:Int):=by omega
     have aw:¬ 0<y:=by omega
     clear hy;have e0:=d.o.t.cell 0;have J:=d.o.q.cell 0;have N:=d.o.q.cell 1;have I:=d.o.q.cell 2;have O:=d.o.q.cell 3;have L:=d.o.r1.cell 0;have K:=d.o.r2.cell 0;have S:=d.o.r2.cell 1;have V:=d.o.r2.cell 2;have P:=d.o.r2.cell 3;simp at e0 J N I O L K S V P;have rf:=d.o.r1.frozen;have rl:=d.o.r1.lt;have yf:=d.o.r2.frozen;have yl:=d.o.r2.lt;have d1:¬ b6=w.heap.size:=by have:=d.o.gl;omega
     have d2:¬ w.heap.size=b6:=by have:=d.o.gl;omega
     have d3:¬ b7=w.heap.size:=by have:=d.o.gl;omega
     have d4:¬ w.heap.size=b7:=by have:=d.o.gl;omega
     have d5:¬ b6=w.heap.size+1:=by have:=d.o.gl;omega
     have d6:¬ w.heap.size+1=b6:=by have:=d.o.gl;omega
     have d7:¬ b7=w.heap.size+1:=by have:=d.o.gl;omega
     have d8:¬ w.heap.size+1=b7:=by have:=d.o.gl;omega
     have HR:=Ae (d.o.fin (j:Int));clear d;go_upto_region 9 with fail
     go_region
     go_wp2;refine bodyPost_ret (v:=.tuple #[.agg #[.slice a n c],.agg #[iv s,iv p,iv o,iv k],iv (j:Int)]) (by simp[results,results24,go_sem,L,K,S,V,P]) rfl ?_;exact HR.o
    .have ap:(0:Int)<(y:Int):=by omega
     obtain⟨j',af⟩:∃j' : Nat,Int.tmod ((j:Int)+1) 6=(j' : Int)/\j'<6:=⟨(j+1) % 6,by rw[Int.tmod_eq_emod_of_nonneg (by omega)];omega,Nat.mod_lt _ (by omega)⟩;have ao:=af.1;go_wp2;go_roundw;case rel=>exact⟨j',i+1,by first|rfl|go_num|(simp[ao]),by go_num,af.2,by omega,d⟩
     case measure=>simp[intOf];omega
   .have d:=D7;clear D7;have e0:=d.o.t.cell 0;have J:=d.o.q.cell 0;have N:=d.o.q.cell 1;have I:=d.o.q.cell 2;have O:=d.o.q.cell 3;have L:=d.o.r1.cell 0;have K:=d.o.r2.cell 0;have S:=d.o.r2.cell 1;have V:=d.o.r2.cell 2;have P:=d.o.r2.cell 3;simp at e0 J N I O L K S V P;have rf:=d.o.r1.frozen;have rl:=d.o.r1.lt;have yf:=d.o.r2.frozen;have yl:=d.o.r2.lt;have d1:¬ b6=w.heap.size:=by have:=d.o.gl;omega
    have d2:¬ w.heap.size=b6:=by have:=d.o.gl;omega
    have d3:¬ b7=w.heap.size:=by have:=d.o.gl;omega
    have d4:¬ w.heap.size=b7:=by have:=d.o.gl;omega
    have d5:¬ b6=w.heap.size+1:=by have:=d.o.gl;omega
    have d6:¬ w.heap.size+1=b6:=by have:=d.o.gl;omega
    have d7:¬ b7=w.heap.size+1:=by have:=d.o.gl;omega
    have d8:¬ w.heap.size+1=b7:=by have:=d.o.gl;omega
    have HR:=Ae (d.o.fin (j:Int));clear d;go_upto_region 9 with fail
    go_region
    go_wp2;refine bodyPost_ret (v:=.tuple #[.agg #[.slice a n c],.agg #[iv s,iv p,iv o,iv k],iv (j:Int)]) (by simp[results,results24,go_sem,L,K,S,V,P]) rfl ?_;exact HR.o
  .have i1:¬ (i:Int)<6:=by omega
   have e0:=d.o.t.cell 0;have J:=d.o.q.cell 0;have N:=d.o.q.cell 1;have I:=d.o.q.cell 2;have O:=d.o.q.cell 3;have L:=d.o.r1.cell 0;have K:=d.o.r2.cell 0;have S:=d.o.r2.cell 1;have V:=d.o.r2.cell 2;have P:=d.o.r2.cell 3;simp at e0 J N I O L K S V P;have rf:=d.o.r1.frozen;have rl:=d.o.r1.lt;have yf:=d.o.r2.frozen;have yl:=d.o.r2.lt;have d1:¬ b6=w.heap.size:=by have:=d.o.gl;omega
   have d2:¬ w.heap.size=b6:=by have:=d.o.gl;omega
   have d3:¬ b7=w.heap.size:=by have:=d.o.gl;omega
   have d4:¬ w.heap.size=b7:=by have:=d.o.gl;omega
   have d5:¬ b6=w.heap.size+1:=by have:=d.o.gl;omega
   have d6:¬ w.heap.size+1=b6:=by have:=d.o.gl;omega
   have d7:¬ b7=w.heap.size+1:=by have:=d.o.gl;omega
   have d8:¬ w.heap.size+1=b7:=by have:=d.o.gl;omega
   have HR:=Ae (d.o.fin (j:Int));clear d;go_upto_region 9 with fail
   go_region
   go_wp2;refine bodyPost_ret (v:=.tuple #[.agg #[.slice a n c],.agg #[iv s,iv p,iv o,iv k],iv (j:Int)]) (by simp[results,results24,go_sem,L,K,S,V,P]) rfl ?_;exact HR.o
variable {E:Prop}{Q:Exit->Act->World->Prop}{a:Act}{o:Oper}{w:World}
theorem Ci.below {w w' : World} {a:Option Addr} {n:Nat} {M:Nat->Nat} {T:Nat->Nat->Tn} (h:Ci w a n M T) (d:Bl w w'):Ci w' a n M T:=by
 rcases h with h|⟨b,o,rfl,f⟩;.exact .inl h
 .refine .inr ⟨b,o,rfl,λi j=>?_⟩;obtain⟨ai,l,e,m⟩:=f i j;exact⟨ai,l,(d.cell (Uo _ _ e)).trans e,m.below d⟩
theorem F7 (a:Option Addr) (n c i:Nat) (f:Nat->Int) (w:World) (h:Rd .u8 w a n f) (j:∀i,i<n->0<=f i/\f i<256) (u:n<=1048576) (hi:i<=1000) :
  UO 30 #[.slice a n c,iv i] w λe q=>∃v:Int,e=.returned (iv v)/\(0<=v/\v<256)/\q=w:=by
 by_cases d:i<n
 .rcases h with r|⟨b,o,rfl,l⟩;.omega
  have m:=l i d;have t:=j i d;clear l j;go_enter func30,ntmps30;go_wp2;go_ret;exact⟨_,rfl,by omega,rfl⟩
 .clear h j;go_enter func30,ntmps30;go_wp2;go_ret;exact⟨_,rfl,by omega,rfl⟩
theorem Nl {d:Array Oper} {K:Act->World->Prop} (v:Region.wanted o (yielded d a.tmps)=true) (k:Nat) (i:Nat) (f:Array TypeId)
  (m:o.op=.call { callee:=.value (.func k),args:=#[.tmp i],argTypes:=f }) (u:Value) (q:a.tmps[i]?.getD undef=u) (j:∀b w,(callFunc k b).run prog w=.ok (.enter k b) w)
  (h:UO k #[u] w λe l=>∃r,e=.returned r/\K (a.put o.dst r) l) :
  if Region.wanted o (yielded d a.tmps)=true then Oper.wp prog o a w K Q else E:=by rw[if_pos v];unfold Oper.wp;simp[execOp,m,resolve,invoke,q,go_sem,j];refine h.mono ?_;rintro e l ⟨r,rfl,t⟩;exact t
theorem Ia {d:Array Oper} {K:Act->World->Prop} (z:Region.wanted o (yielded d a.tmps)=true) (k:Nat) (i j:Nat) (f:Array TypeId)
  (q:o.op=.call { callee:=.value (.func k),args:=#[.tmp i,.tmp j],argTypes:=f }) (u v:Value) (t:a.tmps[i]?.getD undef=u) (x:a.tmps[j]?.getD undef=v) (l:∀b w,(callFunc k b).run prog w=.ok (.enter k b) w)
  (h:UO k #[u,v] w λe m=>∃r,e=.returned r/\K (a.put o.dst r) m) :
  if Region.wanted o (yielded d a.tmps)=true then Oper.wp prog o a w K Q else E:=by rw[if_pos z];unfold Oper.wp;simp[execOp,q,resolve,invoke,t,x,go_sem,l];refine h.mono ?_;rintro e m ⟨r,rfl,y⟩;exact y
theorem Rw {d:Array Oper} {K:Act->World->Prop} (B:Region.wanted o (yielded d a.tmps)=true) (k:Nat) (i j l:Nat) (f:Array TypeId)
  (t:o.op=.call { callee:=.value (.func k),args:=#[.tmp i,.tmp j,.tmp l],argTypes:=f }) (u v x:Value) (y:a.tmps[i]?.getD undef=u) (z:a.tmps[j]?.getD undef=v) (C:a.tmps[l]?.getD undef=x) (m:∀b w,(callFunc k b).run prog w=.ok (.enter k b) w)
  (h:UO k #[u,v,x] w λe q=>∃r,e=.returned r/\K (a.put o.dst r) q) :
  if Region.wanted o (yielded d a.tmps)=true then Oper.wp prog o a w K Q else E:=by rw[if_pos B];unfold Oper.wp;simp[execOp,t,resolve,invoke,y,z,C,go_sem,m];refine h.mono ?_;rintro e q ⟨r,rfl,A⟩;exact A
theorem GP {d:Array Oper} {K:Act->World->Prop} (A:Region.wanted o (yielded d a.tmps)=true) (k:Nat) (i j:Nat) (x:Value) (f:Array TypeId)
  (q:o.op=.call { callee:=.value (.func k),args:=#[.tmp i,.tmp j,.const x],argTypes:=f }) (u v:Value) (t:a.tmps[i]?.getD undef=u) (y:a.tmps[j]?.getD undef=v) (l:∀b w,(callFunc k b).run prog w=.ok (.enter k b) w)
  (h:UO k #[u,v,x] w λe m=>∃r,e=.returned r/\K (a.put o.dst r) m) :
  if Region.wanted o (yielded d a.tmps)=true then Oper.wp prog o a w K Q else E:=by rw[if_pos A];unfold Oper.wp;simp[execOp,q,resolve,invoke,t,y,go_sem,l];refine h.mono ?_;rintro e m ⟨r,rfl,z⟩;exact z
end Go.Proofs.YtcnollkkigiobaaGreat
