import Derived.Test.YtcnollkkigiobaaGreatNv38
import Derived.Test.YtcnollkkigiobaaGreatNv39
set_option linter.unusedVariables false
set_option linter.unusedSimpArgs false
set_option maxRecDepth 100000
set_option maxHeartbeats 90000000
namespace Go.Proofs.YtcnollkkigiobaaGreat
open Go Go.Deep Go.RowKit Go.Proofs.Tryz
variable {B j:Nat}
def SJ (w:World) (rb b:Nat):Prop:=w.heap.size+2<=b/\b≠rb
structure SI (Z g:Nat) (w:World) (rb rc n:Nat) (us:List Value) (M:Nat->Nat) (T:Nat->Nat->Tn) (W:World):Prop where
 dr:Dw Z g W
 fr:w.grownBy W (some g)
 t:Bx W w.heap.size 32 #[.slice (some (ad rb 0)) n rc]
 r:Bx W (w.heap.size+1) 32 #[.slice none 0 0]
 row:W.ownsRow (w.heap.size+2) 59 1 (.slice (some (ad rb 0)) 6 rc) 6 us
 tr:∀j,j<6->∃aj cj,us[j]?=some (.slice aj (M j) cj)/\Js (SJ w rb) W aj (M j) (T j)/\QC (M j) (T j)
 gl:n<=6/\Z<=w.heap.size
def R9 (Z g:Nat) (w:World) (e:Ending) (w' : World):Prop:=
 Dw Z g w'/\w.grownBy w' (some g)/\∃a n c M T,e=.returned (.agg #[.slice a n c])/\FV (w.heap.size+2) w' a n M T/\BF n M T/\n<=6
section
variable {Z g:Nat} {w W W' : World} {rb rc n:Nat} {us:List Value} {M:Nat->Nat} {T:Nat->Nat->Tn}
theorem Js.rdC {S:Nat->Prop} {a:Option Addr} {N:Nat->Tn} (h:Js S w a n N):CM EY w a n N:=by
 rcases h with h|⟨g,d,rfl,_,_,c,b⟩;.exact Or.inl h
 .exact b.rdC c
theorem BQ.rows {a:Option Addr} {N:Nat->Tn} (h:BQ B w a n N) {S:Nat->Prop} (c:∀b,B<=b->b<w.heap.size->S b):Js S w a n N:=by
 rcases h with h|⟨g,l,rfl,e,d,f,k⟩;.exact .inl h
 .exact .inr ⟨g,l,rfl,c g e d,d,f,k.mono (Uq _) (λb m i=>⟨c b m i,rfl⟩)⟩
theorem SI.keep (h:SI Z g w rb rc n us M T W) (l:Dw Z g W') (m:w.grownBy W' (some g)) (i:W.heap.size<=W'.heap.size) (a:∀b,w.heap.size<=b->b<W.heap.size->W'.heap[b]?=W.heap[b]?):SI Z g w rb rc n us M T W':=by refine⟨l,m,h.t.of_block (a _ (by omega) h.t.lt),h.r.of_block (a _ (by omega) h.r.lt),AK h.row (λb e=>a b (by have:=(Ah h.row b e).1;omega) (Ah h.row b e).2),λj f=>?_,h.gl⟩;obtain⟨d,p,e,q,o⟩:=h.tr j f;exact⟨d,p,e,q.keep i (λb c k=>⟨c,a b (by have:=c.1;omega) k⟩),o⟩
theorem SI.draw (h:SI Z g w rb rc n us M T W) (c:Dw Z g W') (a:W.grownBy W' (some g)):SI Z g w rb rc n us M T W':=
 h.keep c (Az h.fr a) a.size (λb f d=>a.block b d (λe=>by injection e with e;have:=c.lt;have:=h.gl;omega))
theorem SI.below (h:SI Z g w rb rc n us M T W) (a:Bl W W'):SI Z g w rb rc n us M T W':=
 h.keep (h.dr.below a) (BV h.fr a) a.size (λb _ c=>a.block b c)
theorem SI.of {lo hi:Nat->Nat} (s:Dw Z g W) (r:w.grownBy W (some g)) (q:Bx W w.heap.size 32 #[.slice (some (ad rb 0)) 6 rc]) (o:Bx W (w.heap.size+1) 32 #[.slice none 0 0]) (h:AJ Ar W B (.slice (some (ad rb 0)) 6 rc) 6 M T us lo hi) (m:w.heap.size+2<=B) (c:BF 6 M T) (i:Z<=w.heap.size):SI Z g w rb rc 6 us M T W:=by
 refine⟨s,r,q,o,Dn h.row m,λj d=>?_,⟨Uq _,i⟩⟩;obtain⟨u,p,ai,t,rfl,x,e⟩:=h.tree j d;have z:=h.base j d;have y:=h.sep rb rfl j d;refine⟨ai,t,p,?_,c j d⟩;rcases e with e|⟨k,l,rfl,C,A,f,v⟩;.exact .inl e
 .exact .inr ⟨k,l,rfl,⟨by omega,by omega⟩,by omega,f,v.mono (Uq _) (λb a _=>⟨⟨by have:=a.1;omega,by have:=a.1;have:=a.2;omega⟩,rfl⟩)⟩
theorem SI.at (h:SI Z g w rb rc n us M T W) (f:j<6):∃b d,W.cell? (ad rb j)=some (.slice b (M j) d)/\Js (SJ w rb) W b (M j) (T j)/\QC (M j) (T j):=by obtain⟨b,d,e,q,k⟩:=h.tr j f;obtain⟨i,a,c⟩:=Ce h.row;exact⟨b,d,(a.cell j).trans (c j _ e),q,k⟩
theorem SI.rbl (h:SI Z g w rb rc n us M T W):(∀i,W.frozen? (ad rb i)=false)/\rb<W.heap.size/\w.heap.size+2<=rb:=by obtain⟨c,a,b⟩:=Ce h.row;exact⟨a.frozen,a.lt,(Ah h.row rb rfl).1⟩
theorem SI.put (h:SI Z g w rb rc n us M T W) {a c':Nat} {a':Option Addr} {d : Nat->Tn} (y:j<6) (m:Js (SJ w rb) W a' a d) (u:QC a d):SI Z g w rb rc n (us.set j (.slice a' a c')) (λi=>if i=j then a else M i) (λi=>if i=j then d else T i) (W.setCell (ad rb j) (.slice a' a c')):=by
 have s:=h.gl;have l:=h.rbl.2.2;have p:=h.row.1;have f:∀b,SJ w rb b->b<W.heap.size->SJ w rb b/\(W.setCell (ad rb j) (.slice a' a c')).heap[b]?=W.heap[b]?:=λb k z=>⟨k,Ur _ _ _ _ (show b≠rb from k.2)⟩;refine⟨h.dr.grown Ak (λq e=>by injection e with e;omega),AZ h.fr Ak (λq e=>by injection e with e;omega),h.t.other (by show w.heap.size≠rb;omega) _,h.r.other (by show w.heap.size+1≠rb;omega) _,Ee h.row,λi o=>?_,s⟩;by_cases e:i=j;.subst e;simp only[if_pos];exact⟨a',c',List.getElem?_set_self (by omega),m.keep (by simp[World.setCell]) f,u⟩
 .obtain⟨ai,v,c,q,x⟩:=h.tr i o;simp only[if_neg e];exact⟨ai,v,by rw[List.getElem?_set_ne (λc=>e c.symm)];exact c,q.keep (by simp[World.setCell]) f,x⟩
theorem SI.cut (h:SI Z g w rb rc n us M T W) {n':Nat} (l:n'<=6):SI Z g w rb rc n' us M T (W.setCell (ad w.heap.size 0) (.slice (some (ad rb 0)) n' rc)):=by have k:=h.gl;have f:=h.rbl.2.2;refine⟨h.dr.grown Ak (λq e=>by injection e with e;omega),AZ h.fr Ak (λq e=>by injection e with e;omega),by simpa using h.t.set 0 (.slice (some (ad rb 0)) n' rc),h.r.other (by show w.heap.size+1≠w.heap.size;omega) _,AK h.row (λq e=>Ur _ _ _ _ (λa=>by have:=(Ah h.row q e).1;have s:q=w.heap.size:=a;omega)),λi d=>?_,⟨l,k.2⟩⟩;obtain⟨ai,m,a,q,o⟩:=h.tr i d;exact⟨ai,m,a,q.keep (by simp[World.setCell]) (λb c p=>⟨c,Ur _ _ _ _ (show b≠w.heap.size by have:=c.1;omega)⟩),o⟩
theorem SI.ret (h:SI Z g w rb rc n us M T W) (v:Value):R9 Z g w (.returned (.agg #[.slice (some (ad rb 0)) n rc])) (W.setCell (ad (w.heap.size+1) 0) v):=by
 have f:=h.gl;have c:=h.rbl;have p:∀b,w.heap.size+2<=b->(W.setCell (ad (w.heap.size+1) 0) v).heap[b]?=W.heap[b]?:=λb a=>Ur _ _ _ _ (show b≠w.heap.size+1 by omega);have k:NI (λb=>w.heap.size+2<=b) W (some (ad rb 0)) n M T:=.inr ⟨rb,rfl,c.2.2,c.2.1,λi d=>by obtain⟨ai,l,o,m,_⟩:=h.at (j:=i) (by omega);exact⟨ai,l,o,m.keep (Uq _) (λb a _=>⟨a.1,rfl⟩)⟩⟩
 refine⟨h.dr.grown Ak (λq e=>by injection e with e;omega),AZ h.fr Ak (λq e=>by injection e with e;omega),_,n,rc,M,T,rfl,NI.ixw (k.keep (by simp[World.setCell]) (λb a _=>⟨a,p b a⟩)) (λb a=>a),λi d=>(h.tr i (by omega)).choose_spec.choose_spec.2.2,f.1⟩
end
theorem LR:∀j:Nat,j<6->∀i:Nat,i<4->(0<=A7 j ⟨1,2,3,99⟩ i/\A7 j ⟨1,2,3,99⟩ i<=2000000000)/\(0<=A7 j ⟨1,2,0,4⟩ i/\A7 j ⟨1,2,0,4⟩ i<=2000000000):=by decide
theorem NK (rb rc:Nat) (h:6<=rc) (w:World):(Instr.sliceAt 30 (.slice (some (ad rb 0)) 6 rc) none (some (iv 5)) none).run prog w=.ok (.slice (some (ad rb 0)) 5 rc) w:=by simp[Instr.sliceAt,Instr.slice,go_sem];intro h;omega
theorem Kf (h:59<prog.types.size):(prog.types[59]'h).size=1:=by obtain⟨f,a,d,b,c⟩:=info_parts info59;rw[show prog.info? 59=prog.types[59]? from rfl,Array.getElem?_eq_getElem h] at a;injection a with e;rw[e];exact b
theorem OF {Z g:Nat} {w:World} (h:Dw Z g w) (hZ:Z<=w.heap.size) (a:Option Addr) (c:Nat) (M:Nat->Nat) (T:Nat->Nat->Tn) (hr:CO w a 6 M T) (hv:VI 6 M T):UO 94 #[pt g,.agg #[.slice a 6 c]] w (R9 Z g w):=by
 have B0:=Ae (And.intro (DB.new h 32 32 #[.slice a 6 c] #[.slice none 0 0]) hZ);have ak:((w.alloc (.cells #[.slice a 6 c] 32)).alloc (.cells #[.slice none 0 0] 32)).heap.size=w.heap.size+2:=by simp
 have HC:U (UO 42 #[.agg #[.slice a 6 c]] ((w.alloc (.cells #[.slice a 6 c] 32)).alloc (.cells #[.slice none 0 0] 32)) (G9 ((w.alloc (.cells #[.slice a 6 c] 32)).alloc (.cells #[.slice none 0 0] 32)) 6 M T)):=Cv a 6 c M T _ (hr.below ((Aa _ _).alloc (by simp) _)) (by omega) hv.fit;have al:=Ae ak;have a8:=Ae hZ;have HV:=Ae hv;clear h hZ ak hr hv;go_enter func94,ntmps94;go_upto_region 1 with fail
 generalize (w.alloc (.cells #[.slice a 6 c] 32)).alloc (.cells #[.slice none 0 0] 32)=W0 at B0 al HC ⊢;have x0:=B0.o.1.a.cell 0;simp at x0;go_wp2_with fail
 refine HC.o.mono ?_;rintro e w1 ⟨ra,rc,us,lo,hi,rfl,ab,ag⟩;rw[al.o] at ab;obtain⟨a',c',e4,ax⟩:=Af ab.row;injection e4 with e4 e5 e6;subst e4 e6;clear e5;obtain⟨rb,rfl,a9,aq,-⟩:=ax (by omega);clear ax;have D1:=B0.o.1.a.below ag;have P:=D1.cell 0;have yf:=D1.frozen;have yl:=D1.lt;simp at P;have H1:U (SI Z g w rb rc 6 us M T (w1.setCell (ad w.heap.size 0) (.slice (some (ad rb 0)) 6 rc))):=by have hz:=B0.o.2;exact SI.of ((B0.o.1.dr.below ag).grown Ak (λq e=>by injection e with e;omega)) (AZ (BV B0.o.1.fr ag) Ak (λq e=>by injection e with e;omega)) (by simpa using D1.set 0 (.slice (some (ad rb 0)) 6 rc)) ((B0.o.1.b.below ag).other (by show w.heap.size+1≠_;simp) _) (ab.setO Ar.pl (by show w.heap.size<_;omega) _) (by omega) HV.o.fit hz
 clear ag ab D1 B0 HC al aq;go_upto_region 2 with fail
 generalize w1.setCell (ad w.heap.size 0) (.slice (some (ad rb 0)) 6 rc)=V1 at H1 ⊢;clear x0 P yf yl;go_wp2_with fail
 refine (Bd H1.o.dr 6 (by omega) (by omega)).mono ?_;rintro e w2 ⟨_,rfl,⟨p,rfl,bc⟩,hd,ho⟩;have s:p<6:=by omega
 have ba:(0:Int)<=(p:Int):=by omega
 have H2:=Ae (H1.o.draw hd ho);clear hd ho H1;go_upto_region 3 with fail
 go_wp2_with fail
 refine (Bd H2.o.dr 5 (by omega) (by omega)).mono ?_;rintro e w4 ⟨_,rfl,⟨sw,rfl,a7⟩,hd,ho⟩;have H4:=Ae (H2.o.draw hd ho);clear hd ho H2;obtain⟨si,au⟩:∃si:Int,(sw:Int)=si:=⟨_,rfl⟩;rw[au];have a0:si=0\/si=1\/si=2\/si=3\/si=4:=by omega
 clear a7 au;go_upto_region 4 with fail
 rcases a0 with rfl|rfl|rfl|rfl|rfl
 .have l:=Ae (H4.o.below (Up _ _).drew);obtain⟨V,X,xj,F,D⟩:=l.o.at s;have I:=Ae (And.intro F D);have f:U (∀W,SI Z g w rb rc 6 us M T W->W.cell? (ad w.heap.size 0)=some (.slice (some (ad rb 0)) 6 rc)/\W.cell? (ad rb p)=some (.slice V (M p) X)):=λW H=>by obtain⟨a2,c2,e2,_⟩:=H.tr p s;obtain⟨a3,c3,e3,_⟩:=l.o.tr p s;obtain⟨am,A,Y⟩:=Ce H.row;obtain⟨af,y,E⟩:=Ce l.o.row;have q:=H.t.cell 0;simp at q;have N:=(y.cell p).trans (E p _ e3);rw[xj] at N;injection N with N;exact⟨q,(A.cell p).trans (Y p _ (by rw[e3,N]))⟩
  have xt:=(f.o _ l.o).1;clear H4 F D;have a1:U (UO 130 #[pt g,.agg #[.slice V (M p) X]] w4.drew (Jh Z g w4.drew)):=by obtain⟨t,ht,_⟩:=HV.o.t p s;have h1:=ht.1;have h2:=ht.2.1;have:=l.o.rbl;exact OD l.o.dr (by have:=a8.o;omega) V (M p) X (T p) I.o.1.rdC.rd h1 h2 ht.four ht.short
  clear xj;go_upto_region 5 with fail
  refine Aj (S:=(λw'=>w'.cell? (ad w.heap.size 0)=some (.slice (some (ad rb 0)) 6 rc)/\w'.cell? (ad rb p)=some (.slice V (M p) X))) 11 (by kernel_rfl) ?_ (λd=>?_);·((try dsimp only);(first|exact f.o _ l.o|exact f.o _ z.o|exact f.o _ x.o))
  refine tz 0 rfl ?_;refine tz 1 rfl ?_;refine tz 2 rfl ?_;refine tz 3 rfl ?_;refine tz 4 rfl ?_;refine tz 5 rfl ?_;refine tz 6 rfl ?_;refine tz 7 rfl ?_;refine tz 8 rfl ?_;refine At 9 rfl (λK m=>?_);refine BD (by rfl) 130 19 24 _ (by rfl) _ _ (by rfl) (by rfl) (λ_ _=>rfl) ?_;refine (a1.o).mono ?_;rintro e w5 ⟨a4,an,a5,m5,c5,N5,rfl,ay,ar,az⟩;refine⟨_,rfl,?_⟩;have z:=Ae (l.o.draw a4 an);obtain⟨z0,z1⟩:=f.o _ z.o;have zf:=z.o.rbl.1;have zl:=z.o.rbl.2.1;have ah:=Ae (And.intro ay (And.intro ar az));have bd:=an.size;clear a4 an ay ar az;refine tL m (by (try dsimp only);(first|exact f.o _ l.o|exact f.o _ z.o|exact f.o _ x.o)) ?_;clear m K d;intro d;try simp only[Ay]
  refine At 10 rfl (λK m=>?_);go_simp;refine tL m (by (try dsimp only);(first|exact f.o _ l.o|exact f.o _ z.o|exact f.o _ x.o)) ?_;clear m K d;intro d;try simp only[Ay]
  refine At 11 rfl (λK m=>?_);go_simp;refine tM m ?_;clear m K;have u:=Ae (z.o.put (c':=c5) s (ah.o.1.rows (λb hb _=>⟨by have:=l.o.rbl;omega,by have:=l.o.rbl;omega⟩)) ⟨by have:=ah.o.2.1;omega,ah.o.2.2⟩);clear z0 z1 zf zl ah z a1 f l I xt;try (generalize w5.setCell (ad rb p) (.slice a5 m5 c5)=V9 at u ⊢)
  have t0:=u.o.t.cell 0;have P:=u.o.r.cell 0;simp at t0 P;have yf:=u.o.r.frozen;have yl:=u.o.r.lt;have HR:=Ae (u.o.ret (.slice (some (ad rb 0)) 6 rc));clear u;go_wp2;refine bodyPost_ret (v:=.agg #[.slice (some (ad rb 0)) 6 rc]) (by simp[results,results94,go_sem,P]) rfl ?_;exact HR.o
 .have t0:=H4.o.t.cell 0;simp at t0;have tf:=H4.o.t.frozen;have tl:=H4.o.t.lt;have bb:=NK rb rc (AS H4.o.row).1;have u:=Ae (H4.o.cut (n':=5) (by omega));clear H4;go_upto_region 8 with fail
  generalize w4.setCell (ad w.heap.size 0) (.slice (some (ad rb 0)) 5 rc)=V9 at u ⊢;clear t0 tf tl;have t0:=u.o.t.cell 0;have P:=u.o.r.cell 0;simp at t0 P;have yf:=u.o.r.frozen;have yl:=u.o.r.lt;have HR:=Ae (u.o.ret (.slice (some (ad rb 0)) 5 rc));clear u;go_wp2;refine bodyPost_ret (v:=.agg #[.slice (some (ad rb 0)) 5 rc]) (by simp[results,results94,go_sem,P]) rfl ?_;exact HR.o
 .have l:=Ae (H4.o.below (Up _ _).drew);obtain⟨V,X,xj,F,D⟩:=l.o.at s;have I:=Ae (And.intro F D);have f:U (∀W,SI Z g w rb rc 6 us M T W->W.cell? (ad w.heap.size 0)=some (.slice (some (ad rb 0)) 6 rc)/\W.cell? (ad rb p)=some (.slice V (M p) X)):=λW H=>by obtain⟨a2,c2,e2,_⟩:=H.tr p s;obtain⟨a3,c3,e3,_⟩:=l.o.tr p s;obtain⟨am,A,Y⟩:=Ce H.row;obtain⟨af,y,E⟩:=Ce l.o.row;have q:=H.t.cell 0;simp at q;have N:=(y.cell p).trans (E p _ e3);rw[xj] at N;injection N with N;exact⟨q,(A.cell p).trans (Y p _ (by rw[e3,N]))⟩
  have xt:=(f.o _ l.o).1;clear H4 F D;obtain⟨aa,C⟩:=gn (AA p ⟨1,2,3,99⟩);have O:U (UO 45 #[.agg #[iv 1,iv 2,iv 3,iv 99],iv (p:Int)] w4.drew λe w'=>e=.returned (.string aa)/\Below w4.drew.heap.size w4.drew w'):=by rw[C];exact El p s ⟨1,2,3,99⟩ (λi hi=>(LR p s i hi).1) w4.drew
  have ae:aa.size<=maxLen:=by rw[C,Bq];unfold maxLen;omega
  have HC:=Ae (λW H=>Gf V (M p) X (T p) aa W (I.o.1.rdC.below H) I.o.2.1 I.o.2.2 ae);clear xj C;have aw:=Kf;go_upto_region 9 with fail
  refine Aj (S:=(λw'=>w'.cell? (ad w.heap.size 0)=some (.slice (some (ad rb 0)) 6 rc)/\w'.cell? (ad rb p)=some (.slice V (M p) X))) 14 (by kernel_rfl) ?_ (λd=>?_);·((try dsimp only);(first|exact f.o _ l.o|exact f.o _ z.o|exact f.o _ x.o))
  refine tz 0 rfl ?_;refine tz 1 rfl ?_;refine tz 2 rfl ?_;refine tz 3 rfl ?_;refine tz 4 rfl ?_;refine tz 5 rfl ?_;refine tz 6 rfl ?_;refine tz 7 rfl ?_;refine tz 8 rfl ?_;refine tz 9 rfl ?_;refine At 10 rfl (λK m=>?_);refine BD (by rfl) 45 43 44 _ (by rfl) _ _ (by rfl) (by rfl) (λ_ _=>rfl) ?_;refine O.o.mono ?_;rintro e w5 ⟨rfl,J⟩;refine⟨_,rfl,?_⟩;have z:=Ae (l.o.below J);obtain⟨s0,s1⟩:=f.o _ z.o;refine tL m (by (try dsimp only);(first|exact f.o _ l.o|exact f.o _ z.o|exact f.o _ x.o)) ?_;clear m K d;intro d;try simp only[Ay]
  refine At 11 rfl (λK m=>?_);refine BD (by rfl) 44 42 45 _ (by rfl) _ _ (by rfl) (by rfl) (λ_ _=>rfl) ?_;refine (HC.o w5 J).mono ?_;rintro e w6 ⟨L,av,a6,m6,c6,N6,rfl,R,Q⟩;refine⟨_,rfl,?_⟩;have x:=Ae (z.o.below L);obtain⟨z0,z1⟩:=f.o _ x.o;have zf:=x.o.rbl.1;have zl:=x.o.rbl.2.1;have ap:=J.size;have G:=Ae (And.intro R (Iw Q I.o.2));clear R Q L;refine tL m (by (try dsimp only);(first|exact f.o _ l.o|exact f.o _ z.o|exact f.o _ x.o)) ?_;clear m K d;intro d;try simp only[Ay]
  refine At 12 rfl (λK m=>?_);go_simp;refine tL m (by (try dsimp only);(first|exact f.o _ l.o|exact f.o _ z.o|exact f.o _ x.o)) ?_;clear m K d;intro d;try simp only[Ay]
  refine At 13 rfl (λK m=>?_);go_simp;refine tL m (by (try dsimp only);(first|exact f.o _ l.o|exact f.o _ z.o|exact f.o _ x.o)) ?_;clear m K d;intro d;try simp only[Ay]
  refine At 14 rfl (λK m=>?_);go_simp;refine tM m ?_;clear m K;have u:=Ae (x.o.put (c':=c6) s (G.o.1.rows (λb hb _=>⟨by have:=l.o.rbl;omega,by have:=l.o.rbl;omega⟩)) G.o.2);clear z0 z1 zf zl G z x HC O f l I xt s0 s1 J;try (generalize w6.setCell (ad rb p) (.slice a6 m6 c6)=V9 at u ⊢)
  have t0:=u.o.t.cell 0;have P:=u.o.r.cell 0;simp at t0 P;have yf:=u.o.r.frozen;have yl:=u.o.r.lt;have HR:=Ae (u.o.ret (.slice (some (ad rb 0)) 6 rc));clear u;go_wp2;refine bodyPost_ret (v:=.agg #[.slice (some (ad rb 0)) 6 rc]) (by simp[results,results94,go_sem,P]) rfl ?_;exact HR.o
 .have l:=Ae (H4.o.below (Up _ _).drew);obtain⟨V,X,xj,F,D⟩:=l.o.at s;have I:=Ae (And.intro F D);have f:U (∀W,SI Z g w rb rc 6 us M T W->W.cell? (ad w.heap.size 0)=some (.slice (some (ad rb 0)) 6 rc)/\W.cell? (ad rb p)=some (.slice V (M p) X)):=λW H=>by obtain⟨a2,c2,e2,_⟩:=H.tr p s;obtain⟨a3,c3,e3,_⟩:=l.o.tr p s;obtain⟨am,A,Y⟩:=Ce H.row;obtain⟨af,y,E⟩:=Ce l.o.row;have q:=H.t.cell 0;simp at q;have N:=(y.cell p).trans (E p _ e3);rw[xj] at N;injection N with N;exact⟨q,(A.cell p).trans (Y p _ (by rw[e3,N]))⟩
  have xt:=(f.o _ l.o).1;clear H4 F D;have ae:({ data:=#[115,104,111,114,116] }:ByteArray).size<=maxLen:=by decide
  have HC:=Ae (λW H=>Gf V (M p) X (T p) { data:=#[115,104,111,114,116] } W (I.o.1.rdC.below H) I.o.2.1 I.o.2.2 ae);clear xj;have aw:=Kf;go_upto_region 11 with fail
  refine Aj (S:=(λw'=>w'.cell? (ad w.heap.size 0)=some (.slice (some (ad rb 0)) 6 rc)/\w'.cell? (ad rb p)=some (.slice V (M p) X))) 11 (by kernel_rfl) ?_ (λd=>?_);·((try dsimp only);(first|exact f.o _ l.o|exact f.o _ z.o|exact f.o _ x.o))
  refine tz 0 rfl ?_;refine tz 1 rfl ?_;refine tz 2 rfl ?_;refine tz 3 rfl ?_;refine tz 4 rfl ?_;refine tz 5 rfl ?_;refine tz 6 rfl ?_;refine tz 7 rfl ?_;refine At 8 rfl (λK m=>?_);refine Iq (by rfl) 44 58 (.string { data:=#[115,104,111,114,116] }) _ (by rfl) _ (by rfl) (λ_ _=>rfl) ?_;refine (HC.o _ (Up _ _)).mono ?_;rintro e w6 ⟨L,av,a6,m6,c6,N6,rfl,R,Q⟩;refine⟨_,rfl,?_⟩;have x:=Ae (l.o.below L);obtain⟨z0,z1⟩:=f.o _ x.o;have zf:=x.o.rbl.1;have zl:=x.o.rbl.2.1;have ap:=L.size;have G:=Ae (And.intro R (Iw Q I.o.2));clear R Q L;refine tL m (by (try dsimp only);(first|exact f.o _ l.o|exact f.o _ z.o|exact f.o _ x.o)) ?_;clear m K d;intro d;try simp only[Ay]
  refine At 9 rfl (λK m=>?_);go_simp;refine tL m (by (try dsimp only);(first|exact f.o _ l.o|exact f.o _ z.o|exact f.o _ x.o)) ?_;clear m K d;intro d;try simp only[Ay]
  refine At 10 rfl (λK m=>?_);go_simp;refine tL m (by (try dsimp only);(first|exact f.o _ l.o|exact f.o _ z.o|exact f.o _ x.o)) ?_;clear m K d;intro d;try simp only[Ay]
  refine At 11 rfl (λK m=>?_);go_simp;refine tM m ?_;clear m K;have u:=Ae (x.o.put (c':=c6) s (G.o.1.rows (λb hb _=>⟨by have:=l.o.rbl;omega,by have:=l.o.rbl;omega⟩)) G.o.2);clear z0 z1 zf zl G x HC f l I xt;try (generalize w6.setCell (ad rb p) (.slice a6 m6 c6)=V9 at u ⊢)
  have t0:=u.o.t.cell 0;have P:=u.o.r.cell 0;simp at t0 P;have yf:=u.o.r.frozen;have yl:=u.o.r.lt;have HR:=Ae (u.o.ret (.slice (some (ad rb 0)) 6 rc));clear u;go_wp2;refine bodyPost_ret (v:=.agg #[.slice (some (ad rb 0)) 6 rc]) (by simp[results,results94,go_sem,P]) rfl ?_;exact HR.o
 .go_wp2;go_loopw [7] (λi wr=>∃(k:Nat) (ao:List Value) (M1:Nat->Nat) (T1:Nat->Nat->Tn),k<=6/\i=iv k/\U (SI Z g w rb rc 6 ao M1 T1 wr)) (λi _=>6-(intOf i).toNat)
  case atStart=>exact⟨0,_,_,_,by omega,rfl,H4⟩
  case round=>
   clear H4;obtain⟨k,ao,M1,T1,hk,rfl,H5⟩:=hrel;have k0:(0:Int)<=(k:Int):=by omega
   by_cases ac:k<6
   .have k1:(k:Int)<6:=by omega
    have l:=Ae (H5.o.below (Up _ _).drew);obtain⟨V,X,xj,F,D⟩:=l.o.at ac;have I:=Ae (And.intro F D);have f:U (∀W,SI Z g w rb rc 6 ao M1 T1 W->W.cell? (ad w.heap.size 0)=some (.slice (some (ad rb 0)) 6 rc)/\W.cell? (ad rb k)=some (.slice V (M1 k) X)):=λW H=>by obtain⟨a2,c2,e2,_⟩:=H.tr k ac;obtain⟨a3,c3,e3,_⟩:=l.o.tr k ac;obtain⟨am,A,Y⟩:=Ce H.row;obtain⟨af,y,E⟩:=Ce l.o.row;have q:=H.t.cell 0;simp at q;have N:=(y.cell k).trans (E k _ e3);rw[xj] at N;injection N with N;exact⟨q,(A.cell k).trans (Y k _ (by rw[e3,N]))⟩
    have xt:=(f.o _ l.o).1;clear H5 F D;obtain⟨aa,C⟩:=gn (AA k ⟨1,2,0,4⟩);have O:U (UO 45 #[.agg #[iv 1,iv 2,iv 0,iv 4],iv (k:Int)] wr.drew λe w'=>e=.returned (.string aa)/\Below wr.drew.heap.size wr.drew w'):=by rw[C];exact El k ac ⟨1,2,0,4⟩ (λi hi=>(LR k ac i hi).2) wr.drew
    have ae:aa.size<=maxLen:=by rw[C,Bq];unfold maxLen;omega
    have HC:=Ae (λW H=>Gf V (M1 k) X (T1 k) aa W (I.o.1.rdC.below H) I.o.2.1 I.o.2.2 ae);clear xj C;have aw:=Kf;go_wp2;refine Aj (S:=(λw'=>w'.cell? (ad w.heap.size 0)=some (.slice (some (ad rb 0)) 6 rc)/\w'.cell? (ad rb k)=some (.slice V (M1 k) X))) 14 (by kernel_rfl) ?_ (λd=>?_);·((try dsimp only);(first|exact f.o _ l.o|exact f.o _ z.o|exact f.o _ x.o))
    refine tz 0 rfl ?_;refine tz 1 rfl ?_;refine tz 2 rfl ?_;refine tz 3 rfl ?_;refine tz 4 rfl ?_;refine tz 5 rfl ?_;refine tz 6 rfl ?_;refine tz 7 rfl ?_;refine tz 8 rfl ?_;refine tz 9 rfl ?_;refine At 10 rfl (λK m=>?_);refine BD (by rfl) 45 76 77 _ (by rfl) _ _ (by rfl) (by rfl) (λ_ _=>rfl) ?_;refine O.o.mono ?_;rintro e w5 ⟨rfl,J⟩;refine⟨_,rfl,?_⟩;have z:=Ae (l.o.below J);obtain⟨s0,s1⟩:=f.o _ z.o;refine tL m (by (try dsimp only);(first|exact f.o _ l.o|exact f.o _ z.o|exact f.o _ x.o)) ?_;clear m K d;intro d;try simp only[Ay]
    refine At 11 rfl (λK m=>?_);refine BD (by rfl) 44 75 78 _ (by rfl) _ _ (by rfl) (by rfl) (λ_ _=>rfl) ?_;refine (HC.o w5 J).mono ?_;rintro e w6 ⟨L,av,a6,m6,c6,N6,rfl,R,Q⟩;refine⟨_,rfl,?_⟩;have x:=Ae (z.o.below L);obtain⟨z0,z1⟩:=f.o _ x.o;have zf:=x.o.rbl.1;have zl:=x.o.rbl.2.1;have ap:=J.size;have G:=Ae (And.intro R (Iw Q I.o.2));clear R Q L;refine tL m (by (try dsimp only);(first|exact f.o _ l.o|exact f.o _ z.o|exact f.o _ x.o)) ?_;clear m K d;intro d;try simp only[Ay]
    refine At 12 rfl (λK m=>?_);go_simp;refine tL m (by (try dsimp only);(first|exact f.o _ l.o|exact f.o _ z.o|exact f.o _ x.o)) ?_;clear m K d;intro d;try simp only[Ay]
    refine At 13 rfl (λK m=>?_);go_simp;refine tL m (by (try dsimp only);(first|exact f.o _ l.o|exact f.o _ z.o|exact f.o _ x.o)) ?_;clear m K d;intro d;try simp only[Ay]
    refine At 14 rfl (λK m=>?_);go_simp;refine tM m ?_;clear m K;have u:=Ae (x.o.put (c':=c6) ac (G.o.1.rows (λb hb _=>⟨by have:=l.o.rbl;omega,by have:=l.o.rbl;omega⟩)) G.o.2);clear z0 z1 zf zl G z x HC O f l I xt s0 s1 J;go_wp2;go_roundw;case rel=>exact⟨k+1,_,_,_,by omega,by go_num,u⟩
    case measure=>simp[intOf];omega
   .obtain rfl:k=6:=by omega
    have u:=H5;clear H5;have t0:=u.o.t.cell 0;have P:=u.o.r.cell 0;simp at t0 P;have yf:=u.o.r.frozen;have yl:=u.o.r.lt;have HR:=Ae (u.o.ret (.slice (some (ad rb 0)) 6 rc));clear u;go_wp2;refine bodyPost_ret (v:=.agg #[.slice (some (ad rb 0)) 6 rc]) (by simp[results,results94,go_sem,P]) rfl ?_;exact HR.o
variable {Z g:Nat}{w:World}
def RY (Z g:Nat) (w:World) (e:Ending) (w' : World):Prop:=
 Dw Z g w'/\w.grownBy w' (some g)/\∃nx da dn dc xa xc M T,e=.returned (.tuple #[.agg #[iv nx,.slice da dn dc],.agg #[.slice xa 6 xc]])/\FV (w.heap.size+2) w' xa 6 M T/\VI 6 M T
theorem WW.fin {W:World} {x t y u m:Nat} {s:Value} {l:Int} {i:Option Addr} {a f:Nat} {k:Option Addr} {c:Nat} (h:WW Z g w x t y u m s l i a f k c W):RY Z g w (.returned (.tuple #[.agg #[iv l,.slice i a f],.agg #[.slice k 6 c]])) (((W.setCell (ad w.heap.size 0) (iv l)).setCell (ad w.heap.size 1) (.slice i a f)).setCell (ad (w.heap.size+1) 0) (.slice k 6 c)).drew:=by obtain⟨S,⟨_,_,⟨M,T,v,r⟩⟩,p⟩:=h.st;have z:=h.zl;have o:∀{V:World},Bl V V.drew:=(Up _ _).drew;refine⟨(((h.dr.grown Ak (λq e=>by injection e with e;omega)).grown Ak (λq e=>by injection e with e;omega)).grown Ak (λq e=>by injection e with e;omega)).below o,BV (AZ (AZ (AZ h.fr Ak (λq e=>by injection e with e;omega)) Ak (λq e=>by injection e with e;omega)) Ak (λq e=>by injection e with e;omega)) o,l,i,a,f,k,c,M,T,rfl,?_,r⟩;refine FV.below ((v.keep (S':=S) (by simp[World.setCell]) (λb d A=>⟨d,?_⟩)).ixw (λb d=>(p b d).2.1)) o;have q:=(p b d).2.1;exact (Ur _ _ _ _ (show b≠w.heap.size+1 by omega)).trans ((Ur _ _ _ _ (show b≠w.heap.size by omega)).trans (Ur _ _ _ _ (show b≠w.heap.size by omega)))
theorem Ow (h:Dw Z g w) (hZ:Z<=w.heap.size) (k:Nat) (bk:1<=k) (bi:k<=34):UO 92 #[pt g,iv (k:Int)] w (RY Z g w):=by
 have B0:=Ae (And.intro (DB.new h 141 32 #[iv 0,.slice none 0 0] #[.slice none 0 0]) hZ);have ac:((w.alloc (.cells #[iv 0,.slice none 0 0] 141)).alloc (.cells #[.slice none 0 0] 32)).heap.size=w.heap.size+2:=by simp
 have O:=Ae ac;clear h hZ ac;go_enter func92,ntmps92;go_upto_region 1 with fail
 generalize (w.alloc (.cells #[iv 0,.slice none 0 0] 141)).alloc (.cells #[.slice none 0 0] 32)=W0 at B0 O ⊢;go_wp2_with fail
 refine (OP W0).mono ?_;rintro e C ⟨rfl,Y⟩;have L:=Ae (Y.trans ((Aa C (.cells #[iv 1,.slice none 0 0] 141)).mono Y.size));have D1:=Ae (And.intro (Bx.new C #[iv 1,.slice none 0 0] 141) (show w.heap.size+2<=C.heap.size by have:=Y.size;have:=O.o;omega));clear Y;go_upto_region 2 with fail
 obtain⟨E,a7⟩:=gn C.heap.size;rw[<- a7] at D1 ⊢;generalize C.alloc (.cells #[iv 1,.slice none 0 0] 141)=V1 at L D1 ⊢;clear a7;go_wp2_with fail
 refine (Mc V1).mono ?_;rintro e H ⟨Q,y,z,M,T,rfl,ar,an⟩;have ah:=Ae (Q.trans ((Aa H (.cells #[.slice y 6 z] 32)).mono Q.size));have D2:=Ae (And.intro (Bx.new H #[.slice y 6 z] 32) (And.intro (And.intro ar an) Q.size));clear Q ar an;go_upto_region 3 with fail
 have K:U (WW Z g w E H.heap.size (w.heap.size+1) 0 0 (.slice none 0 0) 1 none 0 0 y z (H.alloc (.cells #[.slice y 6 z] 32))):=by have hb:=L.o.trans (ah.o.mono L.o.size);have z0:=O.o;have z1:=D1.o.2;have z2:=L.o.size;have z3:=D2.o.2.2;have z4:=D1.o.1.lt;refine⟨B0.o.1.dr.below hb,BV B0.o.1.fr hb,B0.o.1.a.below hb,B0.o.1.b.below hb,D1.o.1.below ah.o,D2.o.1,⟨[],World.ownsRow_nil _ _ _ _,λu hu=>by cases hu⟩,⟨λb=>V1.heap.size<=b/\b<(H.alloc (.cells #[.slice y 6 z] 32)).heap.size/\b≠H.heap.size,⟨⟨λ_=>0,λ_=>{ data:=#[] },λ_=>0,.inl rfl⟩,⟨Uq _,Uq _⟩,⟨M,T,?_,D2.o.2.1.2⟩⟩,λb aa=>⟨aa.2.1,by omega,by omega,aa.2.2,by omega,by simp[Value.ownBlock]⟩⟩,B0.o.2,z1,by omega,by simp;omega⟩;exact D2.o.2.1.1.ixs.keep (by simp) (λb aa hl=>⟨⟨aa.1,by simp;omega,by omega⟩,(Aa _ _).block b hl⟩)
 obtain⟨N,av⟩:=gn H.heap.size;rw[<- av] at K ⊢;generalize H.alloc (.cells #[.slice y 6 z] 32)=V2 at K ⊢;clear av L D1 ah D2 B0 O;obtain⟨q,hq⟩:=gn (k / 3);have t3:Int.tdiv (k:Int) 3=(q:Int):=by rw[Int.tdiv_eq_ediv_of_nonneg (by omega)];omega
 have e3:(k:Int) / 3=(q:Int):=by omega
 have w3:IntKind.i64.wrap (q:Int)=(q:Int):=by rw[Uv];omega
 have br:q<=11:=by omega
 clear hq;go_wp2_with fail
 refine (Bd K.o.dr (k:Int) (by omega) (by omega)).mono ?_;rintro e ap ⟨_,rfl,⟨x,rfl,hx⟩,l,m⟩;have ao:=Ae (K.o.draw l m);obtain⟨nn,be⟩:=gn (q+x);have w4:IntKind.i64.wrap ((q:Int)+(x:Int))=(nn:Int):=by rw[Uv];omega
 have w5:(q:Int)+(x:Int)=(nn:Int):=by omega
 have bg:nn<=44:=by omega
 clear l m K be hx;go_upto_region 5 with fail
 have G:=Ae ao.o.facts;clear ao t3 e3 w3 w4 w5;generalize ap.heap.size=fb at G ⊢;generalize ap.alloc (.cells #[] 191)=V3 at G ⊢;have ag:U (w.heap.size+1<V3.heap.size):=by have:=G.o.gl.2.2;show _<_;omega
 go_wp2;go_loopw [9,10] (λv i wr=>∃(j c r:Nat) (nx:Int) (da:Option Addr) (dn dc:Nat) (y:Option Addr) (z:Nat),j<=nn/\i=iv j/\c<=j/\WW Z g w E N r c (4*j) v nx da dn dc y z wr/\r<wr.heap.size) (λ_ i _=>nn-(intOf i).toNat)
 case atStart=>exact⟨0,0,w.heap.size+1,_,_,_,_,_,_,by omega,rfl,by omega,G.o,ag.o⟩
 case round=>
  obtain⟨j,c,bl,nx,da,dn,dc,y,z,hj,rfl,bp,al,A⟩:=hrel;obtain⟨xs,a2,-⟩:=al.fc;obtain⟨fa,fc,rfl,-⟩:=Af a2;have f:=Ae (And.intro al A);have j0:(0:Int)<=(j:Int):=by omega
  clear al A a2 G ag;by_cases bo:j<nn
  .have j1:(j:Int)<(nn:Int):=by omega
   go_wp2_with fail
   refine (PN (by have:=f.o.1.zl;have:=f.o.1.gl;omega) f.o.1.dr).mono ?_;rintro e C ⟨_,rfl,⟨fs,fp,fo,fg,rfl,_⟩,l,m⟩;have F:U (WW Z g w E N C.heap.size c (4*j) (.slice fa c fc) nx da dn dc y z (C.alloc (.cells #[.bool true,.string fs,.string fp,.string fo,.string fg] 194))/\Bx (C.alloc (.cells #[.bool true,.string fs,.string fp,.string fo,.string fg] 194)) C.heap.size 194 #[.bool true,.string fs,.string fp,.string fo,.string fg]/\w.heap.size+2<=C.heap.size):=by have q:=f.o.1.draw l m;exact⟨q.fresh _,Bx.new _ _ _,q.gl.2.2⟩
   clear l m f;go_upto_region 9 with fail
   obtain⟨r,A⟩:=gn C.heap.size;rw[<- A] at F ⊢;generalize C.alloc (.cells #[.bool true,.string fs,.string fp,.string fo,.string fg] 194)=V at F ⊢;clear A;rcases Nat.eq_zero_or_pos c with au|au;focus
    have bm:¬ (0:Int)<(c:Int):=by omega
    go_upto_region 12 with fail
    have HP:U (TV Z g w E N r c (4*j) (.slice fa c fc) nx da dn dc y z V):=⟨_,_,_,_,_,F.o⟩
    clear F
   rotate_left;focus
    have f1:(0:Int)<(c:Int):=by omega
    go_wp2_with fail
    refine (Eb F.o.1.dr 5 (by omega) (by omega)).mono ?_
    rintro e H ⟨_,rfl,⟨b2,rfl⟩,l,m⟩
    have H2:=Ae (And.intro (F.o.1.draw l m) (And.intro (F.o.2.1.grown m (λe=>by injection e with e;have:=l.lt;have:=F.o.1.zl;have:=F.o.2.2;omega)) F.o.2.2))
    clear l m F
    cases b2
    focus
     go_upto_region 12 with fail
     have HP:U (TV Z g w E N r c (4*j) (.slice fa c fc) nx da dn dc y z H):=⟨_,_,_,_,_,H2.o⟩
     clear H2
     generalize H=V at HP ⊢
    rotate_left
    focus
     go_wp2_with fail
     refine (Bd H2.o.1.dr (c:Int) (by omega) (by omega)).mono ?_
     rintro e w3 ⟨_,rfl,⟨x3,rfl,bj⟩,l,m⟩
     have D:=Ae (And.intro (H2.o.1.draw l m) (And.intro (H2.o.2.1.grown m (λe=>by injection e with e;have:=l.lt;have:=H2.o.1.zl;have:=H2.o.2.2;omega)) H2.o.2.2))
     clear l m H2
     obtain⟨bc,rfl,bh,ys,yp,yo,yq,y0,y1,y2,y3⟩:=D.o.1.fc.get (x:=x3) (by omega)
     have bq:(0:Int)<=(x3:Int):=by omega
     have J:=D.o.2.1.cell 1
     have c1:=D.o.2.1.cell 2
     have c2:=D.o.2.1.cell 3
     have c3:=D.o.2.1.cell 4
     simp at J c1 c2 c3
     have cf:=D.o.2.1.frozen
     have cl:=D.o.2.1.lt
     have H4:=Ae (And.intro (D.o.1.set4 D.o.2.1 D.o.2.2 (.string ys) (.string yp) (.string yo) (.string yq)) D.o.2.2)
     clear D
     go_upto_region 11 with fail
     generalize (((w3.setCell (ad r 1) (.string ys)).setCell (ad r 2) (.string yp)).setCell (ad r 3) (.string yo)).setCell (ad r 4) (.string yq)=V4 at H4 ⊢
     clear J c1 c2 c3 cf cl y0 y1 y2 y3
     go_wp2_with fail
     refine (Eb H4.o.1.1.dr 3 (by omega) (by omega)).mono ?_
     rintro e w5 ⟨_,rfl,⟨b5,rfl⟩,l,m⟩
     have P:=Ae (And.intro (H4.o.1.1.draw l m) (And.intro (H4.o.1.2.grown m (λe=>by injection e with e;have:=l.lt;have:=H4.o.1.1.zl;have:=H4.o.2;omega)) H4.o.2))
     clear l m H4
     have J:=P.o.2.1.cell 0
     simp at J
     have cf:=P.o.2.1.frozen
     have cl:=P.o.2.1.lt
     go_upto_region 12 with fail
     have HP:U (TV Z g w E N r c (4*j) (.slice (some (ad bc 0)) c fc) nx da dn dc y z (w5.setCell (ad r 0) (.bool b5))):=⟨b5,ys,yp,yo,yq,P.o.1.set P.o.2.1 P.o.2.2 0 _,by simpa using P.o.2.1.set 0 (.bool b5),P.o.2.2⟩
     clear P J cf cl
     generalize w5.setCell (ad r 0) (.bool b5)=V at HP ⊢
   all_goals
    clear au
    obtain⟨aw,fs,fp,fo,fg,hw,t,A⟩:=HP.o
    have H6:=Ae (And.intro hw (And.intro t A))
    obtain⟨S,⟨⟨I,X,R,o1⟩,⟨o2,o3⟩,⟨M',T',o4,o5⟩⟩,-⟩:=hw.st
    have a1:=Ae (Mu nx da dn dc I X R y z M' T' aw fs fp fo fg (4*j) V o1.own o2 o3 (by omega) (o4.ixw (λb _=>Us b)) o5)
    obtain⟨⟨e0,e1,e2⟩,-⟩:=hw.cells
    have J:=t.cell 0
    have c1:=t.cell 1
    have c2:=t.cell 2
    have c3:=t.cell 3
    have c4:=t.cell 4
    simp at J c1 c2 c3 c4
    clear hw t HP o1 o2 o3 o4 o5
    go_wp2_with fail
    refine a1.o.mono ?_
    rintro e w7 af
    obtain⟨ak,ae,a5,a8,az,ax,a3,ay,rfl,aq⟩:=H6.o.1.change H6.o.2.1.lt af
    have k7:=H6.o.1.below ak
    clear e0 e1 e2 J c1 c2 c3 c4 a1 af
    obtain⟨⟨e0,e1,e2⟩,ef,ba,el,bd,a0⟩:=k7.cells
    have a4 : ¬ N=E:=λe=>a0 e.symm
    have q:=H6.o.2.1.below ak
    have q2:=((q.other (p:=(ad E 0)) (DJ q k7.d (by decide)) (iv a5)).other (p:=(ad E 1)) (DJ q k7.d (by decide)) (.slice a8 az ax)).other (p:=(ad N 0)) (DJ q k7.x (by decide)) (.slice a3 6 ay)
    have s:=Ae (And.intro aq (And.intro q2 q2.lt))
    clear q q2
    clear aq ak k7 H6
    go_upto_region 14 with fail
    generalize (((w7.setCell (ad E 0) (iv a5)).setCell (ad E 1) (.slice a8 az ax)).setCell (ad N 0) (.slice a3 6 ay))=V8 at s ⊢
    clear e0 e1 e2 ef ba el bd a0 a4
    have J:=s.o.2.1.cell 0
    have c1:=s.o.2.1.cell 1
    have c2:=s.o.2.1.cell 2
    have c3:=s.o.2.1.cell 3
    have c4:=s.o.2.1.cell 4
    simp at J c1 c2 c3 c4
    by_cases a6:ae=1
    .subst a6
     cases aw
     .go_wp2
      go_roundw
      case rel=>exact⟨j+1,c,r,_,_,_,_,_,_,by omega,by go_num,by omega,(show 4*(j+1)=4*j+4 by omega) ▸ s.o.1,s.o.2.2⟩
      case measure=>simp[intOf];omega
     .obtain⟨bb,o8,f8⟩:=s.o.1.fc
      go_wp2_with (at_builtin;refine Ho rfl _ _ rfl (w.heap.size+2) _ c bb rfl fs fp fo fg (Ag o8 (Aa _ _)) rfl (by omega) s.o.1.gl.2.2 ?_)
      intro v9 w9 am aj ab
      obtain⟨a9,c9,rfl,-⟩:=Af am
      have H9:=Ae ((s.o.1.below (Aa _ _)).app (by have:=s.o.2.2;simp;omega) am (λu hu=>by
       rcases List.mem_append.1 hu with q|q
       .exact f8 u q
       .simp at q
        rcases q with rfl|rfl|rfl|rfl <;> exact⟨_,rfl⟩) aj (by rw[UF];exact ab))
      have HL:=Ae (UB (show r<(V8.alloc (.cells #[.string fs,.string fp,.string fo,.string fg] 191)).heap.size by have:=s.o.2.2;simp;omega) aj.size)
      clear am aj ab o8 f8 J c1 c2 c3 c4 s
      go_wp2
      go_roundw
      case rel=>exact⟨j+1,c+1,r,_,_,_,_,_,_,by omega,by go_num,by omega,(show 4*(j+1)=4*j+4 by omega) ▸ H9.o,HL.o⟩
      case measure=>simp[intOf];omega
    .have bf : (ae == 1)=false:=by simp[a6]
     go_wp2
     go_roundw
     case rel=>exact⟨j+1,c,r,_,_,_,_,_,_,by omega,by go_num,by omega,(show 4*(j+1)=4*j+4 by omega) ▸ s.o.1,s.o.2.2⟩
     case measure=>simp[intOf];omega
  .obtain rfl:j=nn:=by omega
   have j1:¬ (j:Int)<(j:Int):=by omega
   obtain⟨⟨e0,e1,e2⟩,-⟩:=f.o.1.cells;have r0:=f.o.1.r0.cell 0;have r1:=f.o.1.r0.cell 1;have r2:=f.o.1.r1.cell 0;simp at r0 r1 r2;have rf:=f.o.1.r0.frozen;have bs:=f.o.1.r1.frozen;have rl:=f.o.1.r0.lt;have bn:=f.o.1.r1.lt;have d1:¬ N=w.heap.size:=by have:=f.o.1.gl;omega
   have d2:¬ w.heap.size=N:=by have:=f.o.1.gl;omega
   have HR:=Ae f.o.1.fin;clear f;go_upto_region 16 with fail
   go_region
   go_wp2;refine bodyPost_ret (v:=.tuple #[.agg #[iv nx,.slice da dn dc],.agg #[.slice y 6 z]]) (by simp[results,results92,go_sem,r0,r1,r2]) rfl ?_;exact HR.o
end Go.Proofs.YtcnollkkigiobaaGreat
