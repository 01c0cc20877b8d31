import Derived.Test.YtcnollkkigiobaaGreatNv19
set_option linter.unusedVariables false
set_option linter.unusedSimpArgs false
set_option maxRecDepth 100000
set_option maxHeartbeats 90000000
namespace Go.Proofs.YtcnollkkigiobaaGreat
open Go Go.Deep Go.MapKept Go.RowKit Go.Proofs.Tryz
variable {B bo c c1 i j k m n n' n2 p:Nat}{I I' I2 R R' R2:Nat->Int}{P:Prop}{Q:Exit->Act->World->Prop}{W w w' w3:World}{X X' X2:Nat->ByteArray}{a a1:Option Addr}{id id2 next next' next2:Int}{o:Oper}{ok ok2:Bool}{s:TypeId}{u0 u1 v v0 v1:Value}{x:ByteArray}{xs:List Value}
def FF (w:World) (a:Option Addr) (n:Nat) (I:Nat->Int) (X:Nat->ByteArray) (R:Nat->Int):Prop:=
 n=0\/∃b o,a=some (ad b o)/\∀i,i<n->w.cell? (ad b (o+i*3))=some (iv (I i))/\w.cell? (ad b (o+i*3+1))=some (.string (X i))/\w.cell? (ad b (o+i*3+2))=some (iv (R i))
theorem FF.below (h:FF w a n I X R) (d:Bl w w'):FF w' a n I X R:=by
 rcases h with h|⟨b,o,rfl,q⟩;.exact Or.inl h
 .refine Or.inr ⟨b,o,rfl,λi l=>?_⟩;obtain⟨e,f,g⟩:=q i l;refine⟨?_,?_,?_⟩;.rw[d.cell (p:=(ad b (o+i*3))) (Uo _ _ e)];exact e
  .rw[d.cell (p:=(ad b (o+i*3+1))) (Uo _ _ f)];exact f
  .rw[d.cell (p:=(ad b (o+i*3+2))) (Uo _ _ g)];exact g
def Bh (I:Nat->Int) (X:Nat->ByteArray) (R:Nat->Int) (c:Nat):Value:=
 if c % 3=0 then iv (I (c / 3)) else if c % 3=1 then .string (X (c / 3)) else iv (R (c / 3))
theorem Ib (I:Nat->Int) (X:Nat->ByteArray) (R:Nat->Int) (i:Nat):Bh I X R (i*3)=iv (I i):=by unfold Bh;rw[if_pos (by omega),show i*3 / 3=i by omega]
theorem IV (I:Nat->Int) (X:Nat->ByteArray) (R:Nat->Int) (i:Nat):Bh I X R (i*3+1)=.string (X i):=by unfold Bh;rw[if_neg (by omega),if_pos (by omega),show (i*3+1) / 3=i by omega]
theorem CT (I:Nat->Int) (X:Nat->ByteArray) (R:Nat->Int) (i:Nat):Bh I X R (i*3+2)=iv (R i):=by unfold Bh;rw[if_neg (by omega),if_neg (by omega),show (i*3+2) / 3=i by omega]
def QK (x:Int):Bool:=decide (1<=x) && decide (x<=2000000000)
def Fc (next:Int) (I:Nat->Int) (X:Nat->ByteArray) (R:Nat->Int) (i:Nat):Prop:=
 (1<=(X i).size/\(X i).size<=30)/\(1<=I i/\I i<next)/\(1<=R i/\R i<=2000000000)/\(0<i->Op.bytesLess (X (i-1)).toList (X i).toList=true)
def MD (I:Nat->Int) (i:Nat):Prop:=∀j,j<i->I j≠I i
def Hn (next:Int) (n:Nat) (I:Nat->Int) (X:Nat->ByteArray) (R:Nat->Int):Prop:=
 QK next=true/\n<=1200/\∀i,i<n->Fc next I X R i/\MD I i
def E5 (w:World) (P:Prop) (e:Ending) (w' : World):Prop:=∃b:Bool,e=.returned (.bool b)/\(b=true↔P)/\Bl w w'
theorem E5.no (h:¬ P) (b:Bl w w'):E5 w P (.returned (.bool false)) w':=⟨false,rfl,Iff.intro (λe=>by cases e) (λp=>absurd p h),b⟩
theorem E5.yes (h:P) (b:Bl w w'):E5 w P (.returned (.bool true)) w':=⟨true,rfl,Iff.intro (λ_=>h) (λ_=>rfl),b⟩
theorem Iz (x:Int) (w:World):UO 76 #[iv x] w λe w'=>e=.returned (.bool (QK x))/\w'=w:=by
 by_cases d:1<=x
 .have b:U (QK x=decide (x<=2000000000)):=by show _=_;unfold QK;rw[decide_eq_true d];rfl
  go_enter func76,ntmps76;go_wp2;go_ret;exact⟨by rw[b.o];rfl,rfl⟩
 .have b:U (QK x=false):=by show _=_;unfold QK;rw[decide_eq_false d];rfl
  go_enter func76,ntmps76;go_wp2;go_ret;exact⟨by rw[b.o];rfl,rfl⟩
theorem TW (b o n c p:Nat) (d:p<n) (w:World):(Instr.indexAt 139 (.slice (some (ad b o)) n c) (iv (p:Int))).run prog w=.ok (.pointer (some (ad b (o+p*3)))) w:=by simp[Instr.indexAt,go_sem];intro h;omega
theorem MJ {t:TypeId} (b:Below (W.heap.size+1) (W.alloc (.cells #[v0,v1] t)) w') :
  w'.cell? (ad W.heap.size 0)=some v0/\w'.cell? (ad W.heap.size 1)=some v1/\W.heap.size<w'.heap.size/\Bl W w':=by
 have d:=b.size;have g:=(b.block W.heap.size (by omega)).trans (blk_alloc_new W (.cells #[v0,v1] t));refine⟨?_,?_,by simp at d;omega,(Aa _ _).trans (b.mono (by omega))⟩;.simp[World.cell?,g]
 .simp[World.cell?,g]
theorem FT (w:World) (v0 v1 b:Value) (d:Nat):((w.alloc (.cells #[v0,v1,b] 232)).drewN d).cell? (ad w.heap.size 0)=some v0/\w.heap.size<((w.alloc (.cells #[v0,v1,b] 232)).drewN d).heap.size:=by have e:Below (w.heap.size+1) (w.alloc (.cells #[v0,v1,b] 232)) ((w.alloc (.cells #[v0,v1,b] 232)).drewN d):=Ai (Up _ _) d;have g:=(e.block w.heap.size (by omega)).trans (blk_alloc_new w (.cells #[v0,v1,b] 232));have f:=e.size;simp only[UF] at f;exact⟨by unfold World.cell?;rw[g];rfl,by omega⟩
theorem Sk:(prog.info? 232).map (λi=>(i.zero,i.size,i.bytes))=some (some (.agg #[iv 0,.string { data:=#[] },iv 0]),3,32):=by kernel_rfl
theorem Gh:prog.underlying 139=some (.slice 232):=by kernel_rfl
def Au (I:Nat->Int) (X:Nat->ByteArray) (R:Nat->Int) (n:Nat):List Value:=(List.range (n*3)).map (Bh I X R)
theorem BC (I:Nat->Int) (X:Nat->ByteArray) (R:Nat->Int) (n:Nat):(Au I X R n).length=n*3:=by simp[Au]
theorem CF (I:Nat->Int) (X:Nat->ByteArray) (R:Nat->Int) (n i:Nat) (h:i<n*3):(Au I X R n)[i]?=some (Bh I X R i):=by simp[Au,h]
theorem KG (I:Nat->Int) (X:Nat->ByteArray) (R:Nat->Int):Au I X R 0=[]:=by simp[Au]
def K8 {T:Type} (n:Nat) (f g:Nat->T) (j:Nat):T:=if j<n then f j else g (j-n)
theorem EN {T:Type} {f g:Nat->T} (h:j<n):K8 n f g j=f j:=if_pos h
theorem FC {T:Type} {f g:Nat->T} (h:¬ j<n):K8 n f g j=g (j-n):=if_neg h
theorem E7 (I I' : Nat->Int) (X X' : Nat->ByteArray) (R R' : Nat->Int) (n m:Nat) :
  Au I X R n++Au I' X' R' m=Au (K8 n I I') (K8 n X X') (K8 n R R') (n+m):=by
 apply List.ext_getElem?;intro i;by_cases b:i<n*3;.rw[List.getElem?_append_left (by rw[BC];exact b),CF _ _ _ _ _ b,CF _ _ _ _ _ (by omega)];unfold Bh;rw[EN (by omega),EN (by omega),EN (by omega)]
 .rw[List.getElem?_append_right (by rw[BC];omega),BC];by_cases d:i<(n+m)*3;.rw[CF _ _ _ _ _ (by omega),CF _ _ _ _ _ d];unfold Bh;rw[FC (by omega),FC (by omega),FC (by omega),show (i-n*3) % 3=i % 3 by omega,show (i-n*3) / 3=i / 3-n by omega]
  .rw[List.getElem?_eq_none (by rw[BC];omega),List.getElem?_eq_none (by rw[BC];omega)]
theorem Ff (h:I (c / 3)=I' (c / 3)/\X (c / 3)=X' (c / 3)/\R (c / 3)=R' (c / 3)):Bh I X R c=Bh I' X' R' c:=by unfold Bh;rw[h.1,h.2.1,h.2.2]
theorem FK (h:∀i,i<n->I i=I' i/\X i=X' i/\R i=R' i):Au I X R n=Au I' X' R' n:=by unfold Au;refine List.map_congr_left (λc b=>Ff (h _ ?_));have:=List.mem_range.1 b;omega
def Br (w:World) (B:Nat) (a:Option Addr) (n:Nat) (I:Nat->Int) (X:Nat->ByteArray) (R:Nat->Int):Prop:=
 n=0\/∃g,a=some (ad g 0)/\B<=g/\A6 w g 232 (n*3) (Bh I X R)
section
variable {w w' : World} {B B' : Nat} {a:Option Addr} {n:Nat} {I I' : Nat->Int} {X X' : Nat->ByteArray} {R R' : Nat->Int}
theorem Br.mono (h:Br w B a n I X R) (e:B'<=B):Br w B' a n I X R:=by
 rcases h with h|⟨g,rfl,d,b⟩;.exact Or.inl h
 .exact Or.inr ⟨g,rfl,by omega,b⟩
theorem Br.below (h:Br w B a n I X R) (e:Bl w w'):Br w' B a n I X R:=by
 rcases h with h|⟨g,rfl,d,b⟩;.exact Or.inl h
 .exact Or.inr ⟨g,rfl,d,b.of_block (e.block g b.lt)⟩
theorem Br.setOther (h:Br w B a n I X R) {p:Addr} (e:p.block<B) (v:Value):Br (w.setCell p v) B a n I X R:=by
 rcases h with h|⟨g,rfl,b,d⟩;.exact Or.inl h
 .exact Or.inr ⟨g,rfl,b,d.of_block (Ur _ _ _ _ (by omega))⟩
theorem EL (h:w.ownsRow B 232 3 v n (Au I X R n)):∃a c,v=.slice a n c/\Br w B a n I X R/\n<=c:=by
 obtain⟨_,h⟩:=h;rcases h with ⟨rfl,rfl⟩|⟨g,d,b,rfl,l,f,q,t,u,r⟩;.exact⟨none,0,rfl,Or.inl rfl,Uq _⟩
 .refine⟨_,d,rfl,Or.inr ⟨g,rfl,l,b,f,by omega,λi e=>?_⟩,q⟩;rw[<- CF I X R n i e,<- r,List.getElem?_take,if_pos e];simp
end
theorem F9 (f:w.ownsRow B 232 3 v n xs) (D:FF w a m I X R) (aa:n+m<=4194304) (hB:B<=w.heap.size) (ty:TypeId) :
  ∃C w',(Builtin.append_ #[139,139] ty #[v,.slice a m c]).run prog w=.ok C w'/\w'.ownsRow B 232 3 C (n+m) (xs++Au I X R m)/\w.grownBy w' v.ownBlock:=by
 obtain⟨H,S,N,E,F⟩:=info_parts Sk;by_cases T:m=0
 .subst T;have A:Src prog H.size 139 (.slice a 0 c) 0 [] w:=by
   cases a with
   | none=>exact Src.ofNil w Gh c
   | some ad=>exact Src.ofSlice w Gh ad 0 c [] (by simp) (by simp) (by simp)
  have L:∃b l d,v=.slice b l d/\l<=d:=by
   rcases f.2 with ⟨rfl,rfl⟩|⟨g,d,U,rfl,_,_,J,_⟩;.exact⟨none,0,0,rfl,Uq _⟩
   .exact⟨_,n,d,rfl,J⟩
  obtain⟨b,l,d,M,G⟩:=L;have r:=run_append_nothing (P:=prog) w 139 139 ty 232 H Gh S b l d G (.slice a 0 c) A;rw[<- M] at r;exact⟨v,w,r,by simpa[KG] using f,⟨rfl,rfl,rfl,Uq _,λ_ _ _=>rfl⟩⟩
 .rcases D with V|⟨b,y,rfl,hc⟩;.exact absurd V T
  .obtain⟨C,w',J,Z,Y,_⟩:=run_append_own (P:=prog) w B 139 ty 232 H _ 3 32 Gh S N E F rfl (by decide) v n xs f (ad b y) m c (Au I X R m) (BC _ _ _ _) (λj u z=>by
    have K:j<m*3:=by have:=(List.getElem?_eq_some_iff.1 z).1;rwa [BC] at this
    rw[CF _ _ _ _ _ K] at z;injection z with z;subst z;have e:(Addr.add (ad b y) j)=(ad b (y+j)):=by
     unfold Addr.add;by_cases h:j=0;.subst h;simp
     .simp[h]
    rw[e];obtain⟨q,t⟩:∃q,j=q*3\/j=q*3+1\/j=q*3+2:=⟨j / 3,by omega⟩;obtain⟨c0,c1,c2⟩:=hc q (by omega);rcases t with t|t|t;.subst t;rw[Ib];exact c0
    .subst t;rw[IV];exact c1
    .subst t;rw[CT];exact c2) (λu O=>by
    simp only[Au,List.mem_map] at O;obtain⟨i,_,rfl⟩:=O;unfold Bh;split;.rfl
    .split <;> rfl) (by unfold maxLen;omega) (by omega) hB
   exact⟨C,w',J,Z,Y⟩
theorem BH {e:Array Oper} {rest:List Oper} {b:Act} (q:o.guard=none) (s x:Operand)
  (u:o.op=.call { callee:=.builtin .append,args:=#[s,x],argTypes:=#[139,139] })
  (B:Nat) (v:Value) (n:Nat) (xs:List Value) (z:b.eval s=v) (d:w.ownsRow B 232 3 v n xs)
  (a:Option Addr) (m c:Nat) (I:Nat->Int) (X:Nat->ByteArray) (R:Nat->Int) (y:b.eval x=.slice a m c) (r:FF w a m I X R) (l:n+m<=4194304) (A:B<=w.heap.size)
  (h:∀g w',w'.ownsRow B 232 3 g (n+m) (xs++Au I X R m)->w.grownBy w' v.ownBlock->wpList prog e Q rest (b.put o.dst g) w'):wpList prog e Q (o::rest) b w:=by obtain⟨g,w',f,C,t⟩:=F9 (c:=c) d r l A o.type;refine wpList_plain q λK D=>?_;unfold Oper.wp;simp[execOp,u,resolve,invoke,builtin,z,y,f,Result.andThen];exact D _ _ (h g w' C t)
theorem DY {d:Array Oper} {a:Act} {K:Act->World->Prop} {E:Prop} (l:o.guard=none) (x y:Operand)
  (t:o.op=.call { callee:=.builtin .append,args:=#[x,y],argTypes:=#[139,139] })
  (B:Nat) (v:Value) (n:Nat) (xs:List Value) (u:a.eval x=v) (b:w.ownsRow B 232 3 v n xs)
  (ad:Option Addr) (m c:Nat) (I:Nat->Int) (X:Nat->ByteArray) (R:Nat->Int) (z:a.eval y=.slice ad m c) (q:FF w ad m I X R) (g:n+m<=4194304) (A:B<=w.heap.size)
  (h:∀f w',w'.ownsRow B 232 3 f (n+m) (xs++Au I X R m)->w.grownBy w' v.ownBlock->K (a.put o.dst f) w') :
  if Region.wanted o (yielded d a.tmps)=true then Oper.wp prog o a w K Q else E:=by
 have D:Region.wanted o (yielded d a.tmps)=true:=by simp[Region.wanted,l]
 rw[if_pos D];obtain⟨f,w',e,C,r⟩:=F9 (c:=c) b q g A o.type;unfold Oper.wp;simp[execOp,t,resolve,invoke,builtin,u,z,e,Result.andThen];exact h f w' C r
def Sr (w:World) (next:Int) (n:Nat) (I:Nat->Int) (X:Nat->ByteArray) (R:Nat->Int) (e:Ending) (w' : World):Prop:=
 ∃a c,e=.returned (.agg #[iv next,.slice a n c])/\Br w' w.heap.size a n I X R/\Bl w w'/\n<=c
theorem P2 (h:w.ownsRow B 232 3 v (0+n) ([]++Au I X R n)):∃a c,v=.slice a n c/\Br w B a n I X R/\n<=c:=by rw[UI,List.nil_append] at h;obtain⟨a,c,b,d,e⟩:=EL h;exact⟨a,c,b,d,e⟩
theorem To {t:TypeId} (b:Below (W.heap.size+2) ((W.alloc (.cells #[u0,u1] t)).alloc (.cells #[v0,v1] s)) w') :
  (w'.cell? (ad W.heap.size 0)=some u0/\w'.cell? (ad W.heap.size 1)=some u1)/\(w'.cell? (ad (W.heap.size+1) 0)=some v0/\w'.cell? (ad (W.heap.size+1) 1)=some v1/\∀o,w'.frozen? (ad (W.heap.size+1) o)=false)/\W.heap.size+1<w'.heap.size/\Bl W w':=by
 have f:=b.size;simp only[UF] at f;have e:=(b.block W.heap.size (by omega)).trans (((Aa _ _).block _ (by simp)).trans (blk_alloc_new W _));have d:w'.heap[W.heap.size+1]?=some (.cells #[v0,v1] s):=by have:=blk_alloc_new (W.alloc (.cells #[u0,u1] t)) (.cells #[v0,v1] s);rw[UF] at this;exact (b.block _ (by omega)).trans this
 refine⟨⟨by simp[World.cell?,e],by simp[World.cell?,e]⟩,⟨by simp[World.cell?,d],by simp[World.cell?,d],λo=>by simp[World.frozen?,d]⟩,by omega,?_⟩;exact ((Aa _ _).trans ((Aa _ _).mono (by simp))).trans (b.mono (by omega))
theorem F4 (next:Int) (a:Option Addr) (n c:Nat) (I:Nat->Int) (X:Nat->ByteArray) (R:Nat->Int) (w:World) (h:FF w a n I X R) (O:n<=1048576) :
  UO 167 #[.agg #[iv next,.slice a n c]] w (Sr w next n I X R):=by
 have y:U (∀o A f,FF (((w.alloc o).alloc A).alloc f).drew a n I X R):=λo A f=>h.below (((Aa _ _).trans ((Aa _ _).mono (by simp))).alloc (by simp;omega) _).drew;clear h;have C:U (((((w.alloc (.cells #[iv next,.slice a n c] 141)).alloc (.cells #[iv 0,.slice none 0 0] 141)).alloc (.cells #[] 232)).drew).ownsRow (w.heap.size+2) 232 3 (.slice (some (ad (w.heap.size+1+1) 0)) 0 0) 0 []):=by have:=World.ownsRow_lit (base:=w.heap.size+2) (e:=232) (size:=3) ((w.alloc (.cells #[iv next,.slice a n c] 141)).alloc (.cells #[iv 0,.slice none 0 0] 141)) #[] 0 (by simp) (Us _) rfl;rw[UF,UF] at this;exact this
 have u:U (∀q:World,((((w.alloc (.cells #[iv next,.slice a n c] 141)).alloc (.cells #[iv 0,.slice none 0 0] 141)).alloc (.cells #[] 232)).drew).grownBy q (Value.slice (some (ad (w.heap.size+1+1) 0)) 0 0).ownBlock->Below (w.heap.size+2) ((w.alloc (.cells #[iv next,.slice a n c] 141)).alloc (.cells #[iv 0,.slice none 0 0] 141)) q):=λq F=>(((Up _ _).alloc (by simp) _).drew).grown F (by simp) (λk e=>by simp[Value.ownBlock] at e;omega)
 have G:U (w.heap.size+2<=((((w.alloc (.cells #[iv next,.slice a n c] 141)).alloc (.cells #[iv 0,.slice none 0 0] 141)).alloc (.cells #[] 232)).drew).heap.size):=by show _<=_;simp
 go_enter func167,ntmps167;go_wp2;go_region_held3 (λw'=>w'.cell? (ad w.heap.size 0)=some (iv next)/\w'.cell? (ad w.heap.size 1)=some (.slice a n c)) (go_keep)
  (first
  | (refine DY (by rfl) (.tmp 5) (.tmp 7) (by rfl) (w.heap.size+2) (.slice (some (ad (w.heap.size+1+1) 0)) 0 0) 0 [] (by rfl) C.o a n c I X R (by rfl) (y.o _ _ _) (by omega) G.o ?_;intro L q g l;obtain⟨⟨M,J⟩,⟨H,E,K⟩,N,b⟩:=To (u.o q l);obtain⟨t,z,rfl,d,r⟩:=P2 g))
 have D:=Ae (ai d b);clear g d l b u y C;go_wp2;refine bodyPost_ret (v:=.agg #[iv next,.slice t n z]) (by simp[results,results167,go_sem,H,E]) rfl ⟨t,z,rfl,?_,?_,r⟩;.exact ((D.o.1.setOther (by simp) _).setOther (by simp) _).mono (by omega)
 .exact (D.o.2.setCell (by simp) _).setCell (by simp) _
def Sy (x:ByteArray):Bool:=decide (1<=(x.size:Int)) && decide ((x.size:Int)<=30)
theorem Cs {t:TypeId} {s:Nat} (h:w.ownsRow B t s v n xs):∃a c,v=.slice a n c:=by
 rcases h.2 with ⟨rfl,rfl⟩|⟨g,d,b,rfl,_⟩;.exact⟨_,_,rfl⟩
 .exact⟨_,_,rfl⟩
theorem Ln (w:World) (i r:Int) (x:ByteArray):FF (w.alloc (.cells #[iv i,.string x,iv r] 232)) (some (ad w.heap.size 0)) 1 (λ_=>i) (λ_=>x) (λ_=>r):=
 Or.inr ⟨w.heap.size,0,rfl,λj b=>by
  obtain rfl:j=0:=by omega
  refine⟨?_,?_,?_⟩ <;> simp⟩
def R0 {T:Type} (f:Nat->T) (k:Nat) (v:T):Nat->T:=λj=>if j=k then v else f j
theorem KT {T:Type} (f:Nat->T) (k:Nat) (v:T):R0 f k v k=v:=if_pos rfl
theorem Sf {T:Type} {f:Nat->T} {v:T} (h:j≠k):R0 f k v j=f j:=if_neg h
def Hb (x:ByteArray) (k:Nat) (next:Int):Bool:=Sy x && decide ((k:Int)<1200) && decide (next<2000000000)
def C9 {T:Type} (f:Nat->T) (i j:Nat):T:=if j<i then f j else f (j+1)
theorem P4 {T:Type} {f:Nat->T} (h:j<i):C9 f i j=f j:=if_pos h
theorem Pt {T:Type} {f:Nat->T} (h:¬ j<i):C9 f i j=f (j+1):=if_neg h
theorem Ml (next:Int) (a:Option Addr) (n c:Nat) (I:Nat->Int) (X:Nat->ByteArray) (R:Nat->Int) (w:World) (h:FF w a n I X R) (hn:n<=1048576) :
  UO 166 #[.agg #[iv next,.slice a n c]] w (E5 w (Hn next n I X R)):=by
 cases hnu:QK next with
 | false=>
  go_enter func166,ntmps166;go_wp2_with fail
  refine (Iz next _).mono ?_;rintro e w1 ⟨rfl,rfl⟩;rw[hnu];go_wp2;go_ret;exact E5.no (λq=>by have:=q.1;rw[hnu] at this;cases this) (Aa _ _)
 | true=>
 by_cases a0:1200<(n:Int)
 .go_enter func166,ntmps166;go_wp2_with fail
  refine (Iz next _).mono ?_;rintro e w1 ⟨rfl,rfl⟩;rw[hnu];go_wp2;go_ret;exact E5.no (λq=>by have:=q.2.1;omega) (Aa _ _)
 .go_enter func166,ntmps166;go_wp2_with fail
  refine (Iz next _).mono ?_;rintro e w1 ⟨rfl,rfl⟩;rw[hnu];go_wp2;go_loopw [3] (λi wr=>∃k:Nat,k<=n/\i=iv k/\(∀m,m<k->Fc next I X R m/\MD I m)/\Below (w.heap.size+1) (w.alloc (.cells #[iv next,.slice a n c] 141)) wr) (λi _=>n-(intOf i).toNat)
  case atStart=>exact⟨0,Us _,rfl,λm hm=>absurd hm (Uu _),Up _ _⟩
  case round=>
   obtain⟨k,hk,rfl,L,ac⟩:=hrel;obtain⟨d0,d1,dz,E⟩:=MJ ac;have HG:U (∀m,m<k->Fc next I X R m/\MD I m):=L;have ah:U (Below (w.heap.size+1) (w.alloc (.cells #[iv next,.slice a n c] 141)) wr):=ac;have z:U (Bl w wr):=E;have HN:U (QK next=true):=hnu;clear L ac hnu;by_cases l:k<n
   .have ax:¬ n=0:=by omega
    have h':=h.below E;have HR:U (FF wr a n I X R):=h';clear E;rcases h' with h' | ⟨b,o,rfl,hc⟩;.exact absurd h' ax
    obtain⟨c1,c2,c3⟩:=hc k l;clear hc h;by_cases N:((X k).size:Int)<1
    .have d:U (¬ Hn next n I X R):=λq=>by have g:=(q.2.2 k l).1;unfold Fc at g;omega
     have t:decide (((X k).size:Int)<1)=true:=by simpa using N
     go_wp2;go_quiet (fail)
     go_wp2;go_ret;exact E5.no d.o (Ai (z.o.alloc z.o.size _) _)
    by_cases T:30<((X k).size:Int)
    .have d:U (¬ Hn next n I X R):=λq=>by have g:=(q.2.2 k l).1;unfold Fc at g;omega
     have t:decide (((X k).size:Int)<1)=false:=by simpa using N
     have y:decide (30<((X k).size:Int))=true:=by simpa using T
     go_wp2;go_quiet (fail)
     go_wp2;go_ret;exact E5.no d.o (Ai (z.o.alloc z.o.size _) _)
    by_cases q3:I k<1
    .have d:U (¬ Hn next n I X R):=λq=>by have g:=(q.2.2 k l).1;unfold Fc at g;omega
     have t:decide (((X k).size:Int)<1)=false:=by simpa using N
     have y:decide (30<((X k).size:Int))=false:=by simpa using T
     have A:decide (I k<1)=true:=by simpa using q3
     go_wp2;go_quiet (fail)
     go_wp2;go_ret;exact E5.no d.o (Ai (z.o.alloc z.o.size _) _)
    by_cases q4:next<=I k
    .have d:U (¬ Hn next n I X R):=λq=>by have g:=(q.2.2 k l).1;unfold Fc at g;omega
     have t:decide (((X k).size:Int)<1)=false:=by simpa using N
     have y:decide (30<((X k).size:Int))=false:=by simpa using T
     have A:decide (I k<1)=false:=by simpa using q3
     have G:decide (next<=I k)=true:=by simpa using q4
     go_wp2;go_quiet (fail)
     go_wp2;go_ret;exact E5.no d.o (Ai (z.o.alloc z.o.size _) _)
    by_cases q5:R k<1
    .have d:U (¬ Hn next n I X R):=λq=>by have g:=(q.2.2 k l).1;unfold Fc at g;omega
     have t:decide (((X k).size:Int)<1)=false:=by simpa using N
     have y:decide (30<((X k).size:Int))=false:=by simpa using T
     have A:decide (I k<1)=false:=by simpa using q3
     have G:decide (next<=I k)=false:=by simpa using q4
     have O:decide (R k<1)=true:=by simpa using q5
     go_wp2;go_quiet (fail)
     go_wp2;go_ret;exact E5.no d.o (Ai (z.o.alloc z.o.size _) _)
    by_cases q6:2000000000<R k
    .have d:U (¬ Hn next n I X R):=λq=>by have g:=(q.2.2 k l).1;unfold Fc at g;omega
     have t:decide (((X k).size:Int)<1)=false:=by simpa using N
     have y:decide (30<((X k).size:Int))=false:=by simpa using T
     have A:decide (I k<1)=false:=by simpa using q3
     have G:decide (next<=I k)=false:=by simpa using q4
     have O:decide (R k<1)=false:=by simpa using q5
     have af:decide (2000000000<R k)=true:=by simpa using q6
     go_wp2;go_quiet (fail)
     go_wp2;go_ret;exact E5.no d.o (Ai (z.o.alloc z.o.size _) _)
    have C:∀_:(0<k->Op.bytesLess (X (k-1)).toList (X k).toList=true),U (Fc next I X R k):=λh=>⟨⟨by omega,by omega⟩,⟨by omega,by omega⟩,⟨by omega,by omega⟩,h⟩;by_cases al:k=0
    .replace C:=C (λh=>by omega);have ao:decide ((0:Int)<(k:Int))=false:=by simp;omega
     have aw:decide (0<k)=false:=by simp;omega
     clear al;have t:decide (((X k).size:Int)<1)=false:=by simpa using N
     have y:decide (30<((X k).size:Int))=false:=by simpa using T
     have A:decide (I k<1)=false:=by simpa using q3
     have G:decide (next<=I k)=false:=by simpa using q4
     have O:decide (R k<1)=false:=by simpa using q5
     have af:decide (2000000000<R k)=false:=by simpa using q6
     go_wp2;go_quiet (fail)
     have u:U (Below (w.heap.size+1) (w.alloc (.cells #[iv next,.slice (some (ad b o)) n c] 141)) ((wr.alloc (.cells #[iv (I k),.string (X k),iv (R k)] 232)).drewN nq)):=Ai (ah.o.alloc (Nat.succ_le_of_lt dz) _) nq;have J:U (FF ((wr.alloc (.cells #[iv (I k),.string (X k),iv (R k)] 232)).drewN nq) (some (ad b o)) n I X R):=HR.o.below (Ai (Aa _ _) nq);have M:U (((wr.alloc (.cells #[iv (I k),.string (X k),iv (R k)] 232)).drewN nq).cell? (ad wr.heap.size 0)=some (iv (I k))/\wr.heap.size<((wr.alloc (.cells #[iv (I k),.string (X k),iv (R k)] 232)).drewN nq).heap.size):=FT _ _ _ _ _;clear c1 c2 c3;generalize (wr.alloc (.cells #[iv (I k),.string (X k),iv (R k)] 232)).drewN nq=wt at u J M ⊢;generalize wr.heap.size=tb at M ⊢;obtain⟨e0,e1,ez,K⟩:=MJ u.o;clear d0 d1;have ab:U (Bl w wt):=K;clear K;go_wp2;go_loopw [5] (λj wr=>∃m:Nat,m<=k/\j=iv m/\(∀q,q<m->I q≠I k)/\Bl wt wr) (λj _=>k-(intOf j).toNat)
     case atStart=>exact⟨0,Us _,rfl,λq hq=>absurd hq (Uu _),Up _ _⟩
     case round=>
      obtain⟨m,hm,rfl,H,f⟩:=hrel;have HF:U (∀q,q<m->I q≠I k):=H;clear H;have x0:wr.cell? (ad w.heap.size 0)=some (iv next):=(f.cell (p:=(ad w.heap.size 0)) ez).trans e0;have x1:wr.cell? (ad w.heap.size 1)=some (.slice (some (ad b o)) n c):=(f.cell (p:=(ad w.heap.size 1)) ez).trans e1;have x2:wr.cell? (ad tb 0)=some (iv (I k)):=(f.cell (p:=(ad tb 0)) M.o.2).trans M.o.1;have aa:U (Bl w wr):=ab.o.trans (f.mono (by omega));have Y:U (Below (w.heap.size+1) (w.alloc (.cells #[iv next,.slice (some (ad b o)) n c] 141)) wr):=u.o.trans (f.mono (by omega));have ae:U (Bl wt wr):=f;by_cases V:m<k
      .have Z:m<n:=by omega
       have av:wr.cell? (ad b (o+m*3))=some (iv (I m)):=by
        rcases J.o.below f with h0|⟨b',o',S,F⟩;.omega
        .simp at S;obtain⟨rfl,rfl⟩:=S;exact (F m Z).1
       clear f e0 e1;by_cases r:I m=I k
       .have d:U (¬ Hn next n I X R):=λq=>(q.2.2 k l).2 m V r;have D:(I m == I k)=true:=by simp[r]
        go_wp2;go_quiet (fail)
        go_wp2;go_ret;exact E5.no d.o (Ai aa.o _)
       .have D:(I m == I k)=false:=by simp[r]
        go_wp2;go_quiet (fail)
        go_wp2;go_roundw;case rel=>
         refine⟨m+1,by omega,by go_num,λq hq=>?_,Ai ae.o _⟩;by_cases e:q=m;.subst e;exact r
         .exact HF.o q (by omega)
        case measure=>simp[intOf];omega
      .have e:k=m:=by omega
       subst e;clear f;go_wp2;go_roundw;case rel=>
        refine⟨k+1,by omega,by go_num,λq hq=>?_,Y.o⟩;by_cases e:q=k;.subst e;exact⟨C.o,HF.o⟩
        .exact HG.o q (by omega)
       case measure=>simp[intOf];omega
    .obtain⟨p,ap⟩:∃p,k=p+1:=⟨k-1,by omega⟩;have aj:p<n:=by omega
     have ao:decide ((0:Int)<(k:Int))=true:=by simp;omega
     have aw:decide (0<k)=true:=by simp;omega
     have a3:IntKind.i64.wrap ((k:Int)-1)=(k:Int)-1:=by rw[Uv];omega
     have ay:0<=(k:Int)-1:=by omega
     have az:(k:Int)-1<(n:Int):=by omega
     have a2:∀wz,(Instr.indexAt 139 (.slice (some (ad b o)) n c) (iv ((k:Int)-1))).run prog wz=.ok (.pointer (some (ad b (o+p*3)))) wz:=λwz=>by rw[show (k:Int)-1=(p:Int) by omega];exact TW b o n c p aj wz
     have an:U (k-1=p):=by show k-1=p;omega
     clear ap al;obtain⟨aq,cp,ar⟩:wr.cell? (ad b (o+p*3))=some (iv (I p))/\wr.cell? (ad b (o+p*3+1))=some (.string (X p))/\wr.cell? (ad b (o+p*3+2))=some (iv (R p)):=by
      rcases HR.o with h0|⟨b',o',S,F⟩;.omega
      .simp at S;obtain⟨rfl,rfl⟩:=S;exact F p aj
     have au:(wr.alloc (.cells #[iv (I k),.string (X k),iv (R k)] 232)).cell? (ad b (o+p*3+1))=some (.string (X p)):=((Aa _ _).cell (p:=(ad b (o+p*3+1))) (Uo _ _ cp)).trans cp;have ak:b<wr.heap.size:=Uo _ _ cp;have am:¬ (b=wr.heap.size):=by omega
     have ag : ¬ (wr.heap.size=b):=by omega
     cases hls:Op.bytesLess (X p).toList (X k).toList with
     | false=>
      have d:U (¬ Hn next n I X R):=λq=>by have g:=(q.2.2 k l).1;unfold Fc at g;have:=g.2.2.2 (by omega);rw[an.o,hls] at this;cases this
      have t:decide (((X k).size:Int)<1)=false:=by simpa using N
      have y:decide (30<((X k).size:Int))=false:=by simpa using T
      have A:decide (I k<1)=false:=by simpa using q3
      have G:decide (next<=I k)=false:=by simpa using q4
      have O:decide (R k<1)=false:=by simpa using q5
      have af:decide (2000000000<R k)=false:=by simpa using q6
      go_wp2;go_quiet (fail)
      go_wp2;go_ret;exact E5.no d.o (Ai (z.o.alloc z.o.size _) _)
     | true=>
      replace C:=C (λ_=>by rw[an.o];exact hls);have t:decide (((X k).size:Int)<1)=false:=by simpa using N
      have y:decide (30<((X k).size:Int))=false:=by simpa using T
      have A:decide (I k<1)=false:=by simpa using q3
      have G:decide (next<=I k)=false:=by simpa using q4
      have O:decide (R k<1)=false:=by simpa using q5
      have af:decide (2000000000<R k)=false:=by simpa using q6
      go_wp2;go_quiet (fail)
      have u:U (Below (w.heap.size+1) (w.alloc (.cells #[iv next,.slice (some (ad b o)) n c] 141)) ((wr.alloc (.cells #[iv (I k),.string (X k),iv (R k)] 232)).drewN nq)):=Ai (ah.o.alloc (Nat.succ_le_of_lt dz) _) nq;have J:U (FF ((wr.alloc (.cells #[iv (I k),.string (X k),iv (R k)] 232)).drewN nq) (some (ad b o)) n I X R):=HR.o.below (Ai (Aa _ _) nq);have M:U (((wr.alloc (.cells #[iv (I k),.string (X k),iv (R k)] 232)).drewN nq).cell? (ad wr.heap.size 0)=some (iv (I k))/\wr.heap.size<((wr.alloc (.cells #[iv (I k),.string (X k),iv (R k)] 232)).drewN nq).heap.size):=FT _ _ _ _ _;clear c1 c2 c3 cp aq ar au ak am ag;generalize (wr.alloc (.cells #[iv (I k),.string (X k),iv (R k)] 232)).drewN nq=wt at u J M ⊢;generalize wr.heap.size=tb at M ⊢;obtain⟨e0,e1,ez,K⟩:=MJ u.o;clear d0 d1;have ab:U (Bl w wt):=K;clear K;go_wp2;go_loopw [5] (λj wr=>∃m:Nat,m<=k/\j=iv m/\(∀q,q<m->I q≠I k)/\Bl wt wr) (λj _=>k-(intOf j).toNat)
      case atStart=>exact⟨0,Us _,rfl,λq hq=>absurd hq (Uu _),Up _ _⟩
      case round=>
       obtain⟨m,hm,rfl,H,f⟩:=hrel;have HF:U (∀q,q<m->I q≠I k):=H;clear H;have x0:wr.cell? (ad w.heap.size 0)=some (iv next):=(f.cell (p:=(ad w.heap.size 0)) ez).trans e0;have x1:wr.cell? (ad w.heap.size 1)=some (.slice (some (ad b o)) n c):=(f.cell (p:=(ad w.heap.size 1)) ez).trans e1;have x2:wr.cell? (ad tb 0)=some (iv (I k)):=(f.cell (p:=(ad tb 0)) M.o.2).trans M.o.1;have aa:U (Bl w wr):=ab.o.trans (f.mono (by omega));have Y:U (Below (w.heap.size+1) (w.alloc (.cells #[iv next,.slice (some (ad b o)) n c] 141)) wr):=u.o.trans (f.mono (by omega));have ae:U (Bl wt wr):=f;by_cases V:m<k
       .have Z:m<n:=by omega
        have av:wr.cell? (ad b (o+m*3))=some (iv (I m)):=by
         rcases J.o.below f with h0|⟨b',o',S,F⟩;.omega
         .simp at S;obtain⟨rfl,rfl⟩:=S;exact (F m Z).1
        clear f e0 e1;by_cases r:I m=I k
        .have d:U (¬ Hn next n I X R):=λq=>(q.2.2 k l).2 m V r;have D:(I m == I k)=true:=by simp[r]
         go_wp2;go_quiet (fail)
         go_wp2;go_ret;exact E5.no d.o (Ai aa.o _)
        .have D:(I m == I k)=false:=by simp[r]
         go_wp2;go_quiet (fail)
         go_wp2;go_roundw;case rel=>
          refine⟨m+1,by omega,by go_num,λq hq=>?_,Ai ae.o _⟩;by_cases e:q=m;.subst e;exact r
          .exact HF.o q (by omega)
         case measure=>simp[intOf];omega
       .have e:k=m:=by omega
        subst e;clear f;go_wp2;go_roundw;case rel=>
         refine⟨k+1,by omega,by go_num,λq hq=>?_,Y.o⟩;by_cases e:q=k;.subst e;exact⟨C.o,HF.o⟩
         .exact HG.o q (by omega)
        case measure=>simp[intOf];omega
   .have e:k=n:=by omega
    subst e;go_wp2;go_ret;exact E5.yes ⟨HN.o,by omega,HG.o⟩ z.o
theorem JL {a b:ByteArray} (h:a.toList=b.toList):a=b:=by rw[ByteArray.toList_eq,ByteArray.toList_eq] at h;obtain⟨⟨x⟩⟩:=a;obtain⟨⟨y⟩⟩:=b;simp at h;rw[h]
def SU (w:World) (n:Nat) (X:Nat->ByteArray) (x:ByteArray) (e:Ending) (w' : World):Prop:=
 ((∃i,i<n/\X i=x/\e=.returned (iv i))\/((∀i,i<n->X i≠x)/\e=.returned (iv (-1))))/\Bl w w'
theorem GH (next:Int) (a:Option Addr) (n c:Nat) (I:Nat->Int) (X:Nat->ByteArray) (R:Nat->Int) (x:ByteArray) (w:World) (h:FF w a n I X R) (K:n<=1048576) :
  UO 165 #[.agg #[iv next,.slice a n c],.string x] w (SU w n X x):=by
 go_enter func165,ntmps165;go_wp2;go_loopw [5] (λi wr=>∃k:Nat,k<=n/\i=iv k/\(∀m,m<k->X m≠x)/\Below (w.heap.size+1) (w.alloc (.cells #[iv next,.slice a n c] 141)) wr) (λi _=>n-(intOf i).toNat)
 case atStart=>exact⟨0,Us _,rfl,λm D=>absurd D (Uu _),Up _ _⟩
 case round=>
  obtain⟨k,J,rfl,l,f⟩:=hrel;obtain⟨L,E,G,d⟩:=MJ f;have A:=Ae l;have t:=Ae f;have C:=Ae d;clear l f;by_cases g:k<n
  .have y:¬ n=0:=by omega
   have r:=h.below d;clear d;rcases r with r | ⟨b,o,rfl,z⟩;.exact absurd r y
   obtain⟨c1,H,F⟩:=z k g;clear z h;by_cases q:X k=x
   .have u:((X k).toList == x.toList)=true:=by rw[q];simp
    go_wp2;go_ret;exact⟨.inl ⟨k,g,q,rfl⟩,C.o⟩
   .have u:((X k).toList == x.toList)=false:=by rw[beq_eq_false_iff_ne];exact λe=>q (JL e)
    go_wp2;go_roundw;case rel=>
     refine⟨k+1,by omega,by go_num,λm D=>?_,t.o⟩;by_cases e:m=k;.subst e;exact q
     .exact A.o m (by omega)
    case measure=>simp[intOf];omega
  .have e:n=k:=by omega
   subst e;clear d;go_wp2;go_ret;exact⟨.inr ⟨A.o,rfl⟩,C.o⟩
def TY (n:Nat) (I:Nat->Int) (X:Nat->ByteArray) (R:Nat->Int) (next:Int) (x:ByteArray) (r:Int):Prop:=
 (Hn next n I X R->(∃i,i<n/\X i=x/\r=I i)\/((∀i,i<n->X i≠x)/\r=0))/\(¬ Hn next n I X R->r=0)
def S9 (w:World) (n:Nat) (I:Nat->Int) (X:Nat->ByteArray) (R:Nat->Int) (next:Int) (x:ByteArray) (e:Ending) (w' : World):Prop:=
 ∃r,e=.returned (iv r)/\TY n I X R next x r/\Bl w w'
theorem MM (next:Int) (a:Option Addr) (n c:Nat) (I:Nat->Int) (X:Nat->ByteArray) (R:Nat->Int) (x:ByteArray) (w:World) (h:FF w a n I X R) (F:n<=1048576) :
  UO 146 #[.agg #[iv next,.slice a n c],.string x] w (S9 w n I X R next x):=by
 have z:=Ae h;clear h;go_enter func146,ntmps146;go_wp2_with fail
 refine (GH next a n c I X R x _ (z.o.below (Aa _ _)) F).mono ?_;rintro e K ⟨y,f⟩;try unfold Bl at f
 rw[UF] at f;have O:=Ae f;obtain⟨G,C,V,d⟩:=MJ f;have r:=Ae d;clear f d;rcases y with ⟨i,E,M,rfl⟩|⟨A,rfl⟩
 .have N:¬ ((i:Int)<0):=by omega
  go_wp2_with fail
  refine (Ml next a n c I X R K (z.o.below r.o) F).mono ?_;rintro e Z ⟨L,rfl,l,t⟩;have u:=Ae l;have S:=Ae (O.o.trans (t.mono (by omega)));clear l t G C;obtain⟨G,C,J,d⟩:=MJ S.o;have g:=Ae d;clear d;cases L with
  | false=>go_wp2;go_ret;exact⟨0,rfl,⟨λq=>absurd (u.o.2 q) (by simp),λ_=>rfl⟩,g.o⟩
  | true=>
   have H:=Ae (u.o.1 rfl);rcases z.o.below g.o with U|⟨b,o,rfl,D⟩;.omega
   obtain⟨c1,Y,T⟩:=D i E;clear D;go_wp2;go_ret;exact⟨I i,rfl,⟨λ_=>.inl ⟨i,E,M,rfl⟩,λq=>absurd H.o q⟩,g.o⟩
 .go_wp2;go_ret;exact⟨0,rfl,⟨λ_=>.inr ⟨A,rfl⟩,λ_=>rfl⟩,r.o⟩
def TZ (w:World) (n:Nat) (I:Nat->Int) (x:Int) (e:Ending) (w' : World):Prop:=
 ((∃i,i<n/\I i=x/\e=.returned (iv i))\/((∀i,i<n->I i≠x)/\e=.returned (iv (-1))))/\Bl w w'
theorem MN (next:Int) (a:Option Addr) (n c:Nat) (I:Nat->Int) (X:Nat->ByteArray) (R:Nat->Int) (x:Int) (w:World) (h:FF w a n I X R) (L:n<=1048576) :
  UO 168 #[.agg #[iv next,.slice a n c],iv x] w (TZ w n I x):=by
 go_enter func168,ntmps168;go_wp2;go_loopw [5] (λi wr=>∃k:Nat,k<=n/\i=iv k/\(∀m,m<k->I m≠x)/\Below (w.heap.size+1) (w.alloc (.cells #[iv next,.slice a n c] 141)) wr) (λi _=>n-(intOf i).toNat)
 case atStart=>exact⟨0,Us _,rfl,λm E=>absurd E (Uu _),Up _ _⟩
 case round=>
  obtain⟨k,K,rfl,q,f⟩:=hrel;obtain⟨M,F,H,d⟩:=MJ f;have C:=Ae q;have t:=Ae f;have D:=Ae d;clear q f;by_cases l:k<n
  .have z:¬ n=0:=by omega
   have r:=h.below d;clear d;rcases r with r | ⟨b,o,rfl,A⟩;.exact absurd r z
   obtain⟨c1,J,G⟩:=A k l;clear A h;by_cases g:I k=x
   .have u:(I k == x)=true:=by rw[g];simp
    have y:=Ae g;clear g;go_wp2;go_ret;exact⟨.inl ⟨k,l,y.o,rfl⟩,D.o⟩
   .have u:(I k == x)=false:=by simp[g]
    have y:=Ae g;go_wp2;go_roundw;case rel=>
     refine⟨k+1,by omega,by go_num,λm E=>?_,t.o⟩;by_cases e:m=k;.subst e;exact y.o
     .exact C.o m (by omega)
    case measure=>simp[intOf];omega
  .have e:n=k:=by omega
   subst e;clear d;go_wp2;go_ret;exact⟨.inr ⟨C.o,rfl⟩,D.o⟩
def EV {T:Type} (f:Nat->T) (p:Nat) (v:T) (j:Nat):T:=if j<p then f j else if j=p then v else f (j-1)
theorem Qq {T:Type} {f:Nat->T} {v:T} (h:j<p):EV f p v j=f j:=if_pos h
theorem QA {T:Type} (f:Nat->T) (p:Nat) (v:T):EV f p v p=v:=by unfold EV;rw[if_neg (Nat.lt_irrefl _),if_pos rfl]
theorem Px {T:Type} {f:Nat->T} {v:T} (h:p<j):EV f p v j=f (j-1):=by unfold EV;rw[if_neg (by omega),if_neg (by omega)]
def SF (w:World) (ok:Bool) (id next:Int) (n:Nat) (I:Nat->Int) (X:Nat->ByteArray) (R:Nat->Int) (e:Ending) (w' : World):Prop:=
 ∃a c,e=.returned (.agg #[.bool ok,iv id,iv next,.slice a n c])/\Br w' w.heap.size a n I X R/\Bl w w'/\n<=c
def O0 (n:Nat) (X:Nat->ByteArray) (x:ByteArray) (p:Nat):Prop:=p<=n/\(∀i,i<p->Op.bytesLess (X i).toList x.toList=true)/\∀i,p<=i->i<n->Op.bytesLess x.toList (X i).toList=true
theorem Rs {a b:ByteArray} (h:a≠b) (f : Op.bytesLess a.toList b.toList≠true):Op.bytesLess b.toList a.toList=true:=by
 have:=Cc b.toList a.toList;have d:(a.toList == b.toList)=false:=by rw[beq_eq_false_iff_ne];exact λe=>h (JL e)
 rw[d,Bool.or_false] at this;cases h2:Op.bytesLess b.toList a.toList with
 | true=>rfl
 | false=>rw[h2] at this;exact absurd this f
theorem Hn.asc (h:Hn next n I X R):∀i j,i<j->j<n->Op.bytesLess (X i).toList (X j).toList=true:=
 λi j b d=>KO (X:=X) (k:=n) (λm f e=>(h.2.2 m f).1.2.2.2 e) j d i b
def Tu (next:Int) (n:Nat) (I:Nat->Int) (X:Nat->ByteArray) (R:Nat->Int) (x:ByteArray) (ok:Bool) (id next' : Int) (n' : Nat) (I' : Nat->Int) (X' : Nat->ByteArray) (R' : Nat->Int):Prop:=
 ((¬ Hn next n I X R\/(∃i,i<n/\X i=x/\R i=2000000000)\/((∀i,i<n->X i≠x)/\Hb x n next=false))/\ok=false/\id=0/\next'=next/\n'=n/\I'=I/\X'=X/\R'=R)\/
 (Hn next n I X R/\∃i,i<n/\X i=x/\R i≠2000000000/\ok=true/\id=I i/\next'=next/\n'=n/\I'=I/\X'=X/\R'=R0 R i (R i+1))\/
 (Hn next n I X R/\(∀i,i<n->X i≠x)/\Hb x n next=true/\∃p,O0 n X x p/\ok=true/\id=next/\next'=next+1/\n'=n+1/\I'=EV I p next/\X'=EV X p x/\R'=EV R p 1)
def SZ (next:Int) (n:Nat) (I:Nat->Int) (X:Nat->ByteArray) (R:Nat->Int) (x:Int) (ok:Bool) (id next' : Int) (n' : Nat) (I' : Nat->Int) (X' : Nat->ByteArray) (R' : Nat->Int):Prop:=
 ((¬ Hn next n I X R\/(∀i,i<n->I i≠x))/\ok=false/\id=0/\next'=next/\n'=n/\I'=I/\X'=X/\R'=R)\/
 (Hn next n I X R/\∃i,i<n/\I i=x/\R i≠1/\ok=true/\id=x/\next'=next/\n'=n/\I'=I/\X'=X/\R'=R0 R i (R i-1))\/
 (Hn next n I X R/\∃i,i<n/\I i=x/\R i=1/\ok=true/\id=x/\next'=next/\n'=n-1/\I'=C9 I i/\X'=C9 X i/\R'=C9 R i)
def PI (w:World) (P:Bool->Int->Int->Nat->(Nat->Int)->(Nat->ByteArray)->(Nat->Int)->Prop) (e:Ending) (w' : World):Prop:=
 ∃ok id next n I X R,P ok id next n I X R/\SF w ok id next n I X R e w'
theorem EX {e d:Value} {t:TypeId} (f:Below (W.heap.size+2) ((W.alloc (.cells #[u0,u1] t)).alloc (.cells #[v0,v1,e,d] s)) w') :
  (w'.cell? (ad W.heap.size 0)=some u0/\w'.cell? (ad W.heap.size 1)=some u1)/\(w'.cell? (ad (W.heap.size+1) 0)=some v0/\w'.cell? (ad (W.heap.size+1) 1)=some v1/\w'.cell? (ad (W.heap.size+1) 2)=some e/\w'.cell? (ad (W.heap.size+1) 3)=some d/\∀o,w'.frozen? (ad (W.heap.size+1) o)=false)/\W.heap.size+1<w'.heap.size/\Bl W w':=by
 have h:=f.size;simp only[UF] at h;have g:=(f.block W.heap.size (by omega)).trans (((Aa _ _).block _ (by simp)).trans (blk_alloc_new W _));have b:w'.heap[W.heap.size+1]?=some (.cells #[v0,v1,e,d] s):=by have:=blk_alloc_new (W.alloc (.cells #[u0,u1] t)) (.cells #[v0,v1,e,d] s);rw[UF] at this;exact (f.block _ (by omega)).trans this
 refine⟨⟨by simp[World.cell?,g],by simp[World.cell?,g]⟩,⟨by simp[World.cell?,b],by simp[World.cell?,b],by simp[World.cell?,b],by simp[World.cell?,b],λo=>by simp[World.frozen?,b]⟩,by omega,?_⟩;exact ((Aa _ _).trans ((Aa _ _).mono (by simp))).trans (f.mono (by omega))
theorem Cl {w2:World} (e:Br w2 (w.heap.size+2) a n I X R) (f:Bl w w2) (g:n<=c) (v0 v1 d b:Value) :
  Br ((((w2.setCell (ad (w.heap.size+1) 0) v0).setCell (ad (w.heap.size+1) 1) v1).setCell (ad (w.heap.size+1) 2) d).setCell (ad (w.heap.size+1) 3) b) w.heap.size a n I X R/\Bl w ((((w2.setCell (ad (w.heap.size+1) 0) v0).setCell (ad (w.heap.size+1) 1) v1).setCell (ad (w.heap.size+1) 2) d).setCell (ad (w.heap.size+1) 3) b)/\n<=c:=
 ⟨((((e.setOther (by simp) _).setOther (by simp) _).setOther (by simp) _).setOther (by simp) _).mono (by omega),(((f.setCell (by simp) _).setCell (by simp) _).setCell (by simp) _).setCell (by simp) _,g⟩
theorem So {x:Int} (h:QK x=true):1<=x/\x<=2000000000:=by unfold QK at h;simpa using h
def Rj (a:Option Addr) (lo c:Nat):Option Addr:=if c=lo then a else a.map λx=>x.add (lo*3)
theorem GU (a:Option Addr) (n c lo:Nat) (b:lo<=n) (d:n<=c) (w:World):(Instr.sliceAt 139 (.slice a n c) (some (iv (lo:Int))) none none).run prog w=.ok (.slice (Rj a lo c) (n-lo) (c-lo)) w:=by simp[Instr.sliceAt,Instr.slice,go_sem,Rj];intro h;omega
theorem GW (a:Option Addr) (n c hi:Nat) (b:hi<=n) (d:n<=c) (w:World):(Instr.sliceAt 139 (.slice a n c) none (some (iv (hi:Int))) none).run prog w=.ok (.slice a hi c) w:=by simp[Instr.sliceAt,Instr.slice,go_sem];intro h;omega
theorem GV {lo:Nat} (c:Nat) (h:FF w a n I X R) (l:lo<=n) (r:n<=c):FF w (Rj a lo c) (n-lo) (λj=>I (lo+j)) (λj=>X (lo+j)) (λj=>R (lo+j)):=by
 rcases h with t|⟨b,o,rfl,d⟩;.exact Or.inl (by omega)
 .by_cases e:n=lo;.exact Or.inl (by omega)
  .refine Or.inr ⟨b,o+lo*3,?_,λi g=>?_⟩
   .unfold Rj;rw[if_neg (by omega)];simp only[Option.map_some];unfold Addr.add;by_cases f:lo=0;.subst f;simp
    .have:¬ lo*3=0:=by omega
     simp[this]
   .have q:=d (lo+i) (by omega);rw[show o+(lo+i)*3=o+lo*3+i*3 by omega] at q;exact q
theorem Ii (h:FF w a n I X R) (f:m<=n):FF w a m I X R:=by
 rcases h with g|⟨b,o,rfl,d⟩;.exact Or.inl (by omega)
 .exact Or.inr ⟨b,o,rfl,λi e=>d i (by omega)⟩
theorem PH {T:Type} (f:Nat->T) (v:T) (p j:Nat):K8 (p+1) (K8 p f (λ_=>v)) (λj=>f (p+j)) j=EV f p v j:=by
 rcases Nat.lt_trichotomy j p with b|b|b;.rw[EN (by omega),EN b,Qq b]
 .subst b;rw[EN (by omega),FC (by omega),QA]
 .rw[FC (by omega),Px b,show p+(j-(p+1))=j-1 by omega]
theorem Qy (I:Nat->Int) (X:Nat->ByteArray) (R:Nat->Int) (x:ByteArray) (next:Int) (b:p<=n) :
  Au I X R p++Au (λ_=>next) (λ_=>x) (λ_=>1) 1++Au (λj=>I (p+j)) (λj=>X (p+j)) (λj=>R (p+j)) (n-p)=Au (EV I p next) (EV X p x) (EV R p 1) (n+1):=by rw[E7,E7,show p+1+(n-p)=n+1 by omega];exact FK (λj _=>⟨PH _ _ _ _,PH _ _ _ _,PH _ _ _ _⟩)
theorem Br.setRef {g:Nat} (h:Br w B (some (ad g 0)) n I X R) (d:n≠0) (hi:i<n) (r:Int):Br (w.setCell (ad g (i*3+2)) (iv r)) B (some (ad g 0)) n I X (R0 R i r):=by
 rcases h with f|⟨q,e,b,l⟩;.exact absurd f d
 .injection e with e;injection e with e;subst e;refine Or.inr ⟨g,rfl,b,(l.set (i*3+2) (iv r)).congr (λc t=>?_)⟩;by_cases e:c=i*3+2;.subst e;rw[if_pos rfl,CT,KT]
  .rw[if_neg e];unfold Bh;split;.rfl
   .split;.rfl
    .rw[Sf (by omega)]
structure GX (w w3:World) (next:Int) (a:Option Addr) (n c:Nat) (I:Nat->Int) (X:Nat->ByteArray) (R:Nat->Int) (bo:Nat) (a1:Option Addr) (c1:Nat):Prop where
 low:Below (w.heap.size+2) ((w.alloc (.cells #[iv next,.slice a n c] 141)).alloc (.cells #[.bool false,iv 0,iv 0,.slice none 0 0] 213)) w3
 o:w3.heap[bo]?=some (.cells #[iv next,.slice a1 n c1] 141)
 ge:w.heap.size+2<=bo
 row:Br w3 (w.heap.size+2) a1 n I X R
theorem GX.keep {d:World} (h:GX w w3 next a n c I X R bo a1 c1) (b:Bl w3 d):GX w d next a n c I X R bo a1 c1:=by have e:=h.low.size;simp only[UF] at e;exact⟨h.low.trans (b.mono (by omega)),(b.block _ (Array.getElem?_eq_some_iff.1 h.o).1).trans h.o,h.ge,h.row.below b⟩
theorem GX.cells (h:GX w w3 next a n c I X R bo a1 c1):w3.cell? (ad bo 0)=some (iv next)/\w3.cell? (ad bo 1)=some (.slice a1 n c1)/\(∀o,w3.frozen? (ad bo o)=false)/\bo<w3.heap.size:=by have:=h.o;exact⟨by simp[World.cell?,this],by simp[World.cell?,this],λo=>by simp[World.frozen?,this],(Array.getElem?_eq_some_iff.1 this).1⟩
theorem Oh (g:Hn next n I X R) (b:Sy x=false):∀i,i<n->X i≠x:=λi d e=>by
 have f:=(g.2.2 i d).1.1
 rw[e] at f
 unfold Sy at b
 simp at b
 omega
theorem L8 (next:Int) (a:Option Addr) (n c:Nat) (I:Nat->Int) (X:Nat->ByteArray) (R:Nat->Int) (x:ByteArray) (w:World) (h:FF w a n I X R) (hn:n<=1048576) (M:n<=c) :
  UO 148 #[.agg #[iv next,.slice a n c],.string x] w (PI w (Tu next n I X R x)):=by
 have HR:U (FF w a n I X R):=h;have ag:U (((w.alloc (.cells #[iv next,.slice a n c] 141)).alloc (.cells #[.bool false,iv 0,iv 0,.slice none 0 0] 213)).heap.size=w.heap.size+2):=by show _=_;simp
 have az:=F4 next a n c I X R ((w.alloc (.cells #[iv next,.slice a n c] 141)).alloc (.cells #[.bool false,iv 0,iv 0,.slice none 0 0] 213)) (h.below ((Aa _ _).trans ((Aa _ _).mono (by simp)))) hn;clear h;go_enter func148,ntmps148;go_wp2_with fail
 refine az.mono ?_;clear az;rintro e w1 ⟨a1,c1,rfl,al,S,bm⟩;try unfold Bl at al
 try unfold Bl at S
 rw[ag.o] at al S;have S1:U (GX w (w1.alloc (.cells #[iv next,.slice a1 n c1] 141)) next a n c I X R w1.heap.size a1 c1):=by have hs:=S.size;rw[ag.o] at hs;exact⟨S.alloc hs _,blk_alloc_new _ _,hs,al.below (Aa _ _)⟩
 have a0:=S.size;rw[ag.o] at a0;clear S al;go_upto_region 2 with fail
 generalize w1.alloc (.cells #[iv next,.slice a1 n c1] 141)=W1 at S1 ⊢;generalize w1.heap.size=bo at S1 a0 ⊢;obtain⟨⟨y,C⟩,⟨g,f,r,l,T⟩,z,d⟩:=EX S1.o.low;have B1:=Ae d;clear d;go_wp2_with fail
 refine (F4 next a n c I X R W1 (HR.o.below B1.o) hn).mono ?_;rintro e w2 ⟨u,D,rfl,a3,O,br⟩;clear y C g f r l T z;have S2:U (GX w (w2.alloc (.cells #[.bool false,iv 0,iv next,.slice u n D] 213)) next a n c I X R bo a1 c1):=S1.o.keep (O.alloc O.size _);have N2:U ((w2.alloc (.cells #[.bool false,iv 0,iv next,.slice u n D] 213)).heap[w2.heap.size]?=some (.cells #[.bool false,iv 0,iv next,.slice u n D] 213)/\Br (w2.alloc (.cells #[.bool false,iv 0,iv next,.slice u n D] 213)) (w.heap.size+2) u n I X R):=by have hs:=S1.o.low.size;rw[ag.o] at hs;exact⟨blk_alloc_new _ _,(a3.below (Aa _ _)).mono hs⟩
 have bs:w.heap.size+2<=w2.heap.size:=by have hs:=S1.o.low.size;rw[ag.o] at hs;exact Uy hs O.size
 clear a3 O S1 B1;go_upto_region 3 with fail
 generalize w2.alloc (.cells #[.bool false,iv 0,iv next,.slice u n D] 213)=W2 at S2 N2 ⊢;generalize w2.heap.size=bn at N2 bs ⊢;obtain⟨⟨y,C⟩,⟨g,f,r,l,T⟩,z,d⟩:=EX S2.o.low;have B2:=Ae d;clear d;go_wp2_with fail
 refine (Ml next a n c I X R W2 (HR.o.below B2.o) hn).mono ?_;rintro e w3 ⟨bv,rfl,bb,ak⟩;clear y C g f r l T z;have S3:=Ae (S2.o.keep ak);have N3:=Ae (ai ((ak.block _ (Array.getElem?_eq_some_iff.1 N2.o.1).1).trans N2.o.1) (N2.o.2.below ak));have ap:=Ae bb;clear ak bb S2 N2 B2;obtain⟨⟨y,C⟩,⟨g,f,r,l,T⟩,z,d⟩:=EX S3.o.low;obtain⟨u0,u1,uf,ul⟩:=S3.o.cells;have B3:=Ae d;clear d;have aj:U (∀W:World,Bl w3 W->(W.cell? (ad bn 0)=some (.bool false)/\W.cell? (ad bn 1)=some (iv 0)/\W.cell? (ad bn 2)=some (iv next)/\W.cell? (ad bn 3)=some (.slice u n D))/\Br W (w.heap.size+2) u n I X R):=λW hb=>by have q:=(hb.block _ (Array.getElem?_eq_some_iff.1 N3.o.1).1).trans N3.o.1;exact⟨⟨by simp[World.cell?,q],by simp[World.cell?,q],by simp[World.cell?,q],by simp[World.cell?,q]⟩,N3.o.2.below hb⟩
 clear N3;by_cases hv:Hn next n I X R;case neg=>
  obtain rfl:bv=false:=by
   cases bv with
   | false=>rfl
   | true=>exact absurd (ap.o.1 rfl) hv
  obtain⟨⟨m0,m1,m2,m3⟩,mo⟩:=aj.o w3 (Up _ _);have V:=Ae mo;clear mo;go_wp2;refine bodyPost_ret (v:=.agg #[.bool false,iv 0,iv next,.slice u n D]) (by simp[results,results148,go_sem,g,f,r,l]) rfl ⟨false,0,next,n,I,X,R,.inl ⟨.inl hv,rfl,rfl,rfl,rfl,rfl,rfl,rfl⟩,u,D,rfl,?_⟩;exact Cl V.o B3.o (by assumption) _ _ _ _
 case pos=>
 obtain rfl:bv=true:=ap.o.2 hv;have HV:=Ae hv;have bw:=hv.2.1;have bx:=So hv.1;clear hv ap;cases htx:Sy x with
 | false=>
  have F:=Oh HV.o htx;have HQ:U ((∀i,i<n->X i≠x)/\Hb x n next=false):=⟨F,by unfold Hb;rw[htx];rfl⟩;obtain⟨⟨m0,m1,m2,m3⟩,mo⟩:=aj.o w3 (Up _ _);have V:=Ae mo;clear mo F;by_cases h1:(x.size:Int)<1;.go_wp2;refine bodyPost_ret (v:=.agg #[.bool false,iv 0,iv next,.slice u n D]) (by simp[results,results148,go_sem,g,f,r,l]) rfl ⟨false,0,next,n,I,X,R,.inl ⟨.inr (.inr HQ.o),rfl,rfl,rfl,rfl,rfl,rfl,rfl⟩,u,D,rfl,?_⟩;exact Cl V.o B3.o (by assumption) _ _ _ _
  .have h2:30<(x.size:Int):=by unfold Sy at htx;simp at htx;omega
   go_wp2;refine bodyPost_ret (v:=.agg #[.bool false,iv 0,iv next,.slice u n D]) (by simp[results,results148,go_sem,g,f,r,l]) rfl ⟨false,0,next,n,I,X,R,.inl ⟨.inr (.inr HQ.o),rfl,rfl,rfl,rfl,rfl,rfl,rfl⟩,u,D,rfl,?_⟩;exact Cl V.o B3.o (by assumption) _ _ _ _
 | true=>
 have bz:¬ (x.size:Int)<1:=by unfold Sy at htx;simp at htx;omega
 have b0:¬ 30<(x.size:Int):=by unfold Sy at htx;simp at htx;omega
 go_wp2_with fail
 refine (GH next a n c I X R x w3 (HR.o.below B3.o) hn).mono ?_;rintro e t ⟨bg,an⟩;have H:=Ae (S3.o.keep an);obtain⟨mc,mo⟩:=aj.o t an;have V:=Ae (ai mc mo);clear y C g f r l T z u0 u1 uf ul mc mo aj S3 B3 an;obtain⟨⟨y,C⟩,⟨g,f,r,l,T⟩,z,d⟩:=EX H.o.low;obtain⟨u0,u1,uf,ul⟩:=H.o.cells;have B4:=Ae d;clear d;rcases bg with ⟨i,hi,ay,rfl⟩|⟨ax,rfl⟩
 .rcases HR.o.below B4.o with h0|⟨b,o,rfl,hc⟩;.omega
  obtain⟨k1,k2,k3⟩:=hc i hi;have HX:=Ae ay;have b1:(0:Int)<=(i:Int):=by omega
  clear hc ay;by_cases A:R i=2000000000
  .have HQ:U (R i=2000000000):=A;have hb:(R i == 2000000000)=true:=by rw[A];rfl
   obtain⟨m0,m1,m2,m3⟩:=V.o.1;clear A;go_wp2;refine bodyPost_ret (v:=.agg #[.bool false,iv 0,iv next,.slice u n D]) (by simp[results,results148,go_sem,g,f,r,l]) rfl ⟨false,0,next,n,I,X,R,.inl ⟨.inr (.inl ⟨i,hi,HX.o,HQ.o⟩),rfl,rfl,rfl,rfl,rfl,rfl,rfl⟩,u,D,rfl,?_⟩;exact Cl V.o.2 B4.o (by assumption) _ _ _ _
  .have HQ:U (R i≠2000000000):=A;have hb:(R i == 2000000000)=false:=by simp[A]
   have b3:=(HV.o.2.2 i hi).1.2.2.1;have am:=H.o.row;have bc:=am;rcases am with h0|⟨g1,rfl,bp,Z⟩;.omega
   have r2:t.cell? (ad g1 (i*3+2))=some (iv (R i)):=by have:=Z.cell (i:=i*3+2) (by omega);rwa [CT] at this
   have rf:=Z.frozen;have rl:=Z.lt;have bk:bo≠g1:=λe=>by have q:=H.o.o;obtain⟨b2,hq,_⟩:=Z;rw[e,hq] at q;injection q with q;injection q with _ q2 _;revert q2;decide
   have S5:U (GX w (t.setCell (ad g1 (i*3+2)) (iv (R i+1))).drew next (some (ad b o)) n c I X (R0 R i (R i+1)) bo (some (ad g1 0)) c1):=by have q:Below (w.heap.size+2) _ (t.setCell (ad g1 (i*3+2)) (iv (R i+1))):=H.o.low.setCell bp _;exact⟨q.drew,(Ur _ _ _ _ bk).trans H.o.o,H.o.ge,bc.setRef (by omega) hi _⟩
   clear bc Z A V;go_upto_region 9 with fail
   go_region
   generalize (t.setCell (ad g1 (i*3+2)) (iv (R i+1))).drew=W5 at S5 ⊢;have B5:=Ae ((EX S5.o.low).2.2.2);clear y C g f r l T z u0 u1 uf ul r2 rf rl k1 k2 k3 H B4;obtain⟨⟨y,C⟩,⟨g,f,r,l,T⟩,z,-⟩:=EX S5.o.low;obtain⟨u0,u1,uf,ul⟩:=S5.o.cells;rcases HR.o.below B5.o with h0|⟨b',o',ar,hc⟩;.omega
   injection ar with ar;injection ar with e1 e2;subst e1 e2;obtain⟨k1,k2,k3⟩:=hc i hi;clear hc;go_upto_region 10 with fail
   go_region
   go_wp2;refine bodyPost_ret (v:=.agg #[.bool true,iv (I i),iv next,.slice (some (ad g1 0)) n c1]) (by simp[results,results148,go_sem,g,f,r,l]) rfl ⟨true,I i,next,n,I,X,_,.inr (.inl ⟨HV.o,i,hi,HX.o,HQ.o,rfl,rfl,rfl,rfl,rfl,rfl,rfl⟩),_,c1,rfl,?_⟩;have q:=Cl S5.o.row B5.o (c:=c1) (by assumption) (.bool true) (iv (I i)) (iv next) (.slice (some (ad g1 0)) n c1);exact⟨q.1,q.2.1.drew,q.2.2⟩
 .have F:=Ae ax;clear ax;cases hroom:Hb x n next with
  | false=>
   have HQ:=Ae hroom;obtain⟨m0,m1,m2,m3⟩:=V.o.1;by_cases ba:n=1200
   .have hb:((n:Int) == 1200)=true:=by
     have e:(n:Int)=1200:=by omega
     rw[e];rfl
    clear hroom ba;go_wp2;refine bodyPost_ret (v:=.agg #[.bool false,iv 0,iv next,.slice u n D]) (by simp[results,results148,go_sem,g,f,r,l]) rfl ⟨false,0,next,n,I,X,R,.inl ⟨.inr (.inr ⟨F.o,HQ.o⟩),rfl,rfl,rfl,rfl,rfl,rfl,rfl⟩,u,D,rfl,?_⟩;exact Cl V.o.2 B4.o (by assumption) _ _ _ _
   .have hb:((n:Int) == 1200)=false:=by simp;omega
    have O:(next == 2000000000)=true:=by unfold Hb at hroom;rw[htx] at hroom;simp at hroom;simp;omega
    clear hroom ba;go_wp2;refine bodyPost_ret (v:=.agg #[.bool false,iv 0,iv next,.slice u n D]) (by simp[results,results148,go_sem,g,f,r,l]) rfl ⟨false,0,next,n,I,X,R,.inl ⟨.inr (.inr ⟨F.o,HQ.o⟩),rfl,rfl,rfl,rfl,rfl,rfl,rfl⟩,u,D,rfl,?_⟩;exact Cl V.o.2 B4.o (by assumption) _ _ _ _
  | true=>
   have hb:((n:Int) == 1200)=false:=by unfold Hb at hroom;simp at hroom;simp;omega
   have O:(next == 2000000000)=false:=by unfold Hb at hroom;simp at hroom;simp;omega
   clear V;go_wp2;go_loop [8] (λi=>∃p:Nat,p<=n/\i=iv p/\∀j,j<p->Op.bytesLess (X j).toList x.toList=true) (λi=>n-(intOf i).toNat)
   case atStart=>exact⟨0,Us _,rfl,λj hj=>absurd hj (Uu _)⟩
   case round=>
    obtain⟨p,hp,rfl,ae⟩:=hrel;have HL:=Ae ae;clear ae;by_cases a8:p<n
    .have HH:=HR.o.below B4.o;rcases HH with h0|⟨b,o,rfl,hc⟩;.omega
     obtain⟨k1,k2,k3⟩:=hc p a8;clear hc;cases hl:Op.bytesLess (X p).toList x.toList with
     | true=>
      go_wp2;go_round
      case rel=>
       refine⟨p+1,by omega,by go_num,λj hj=>?_⟩;by_cases e:j=p;.subst e;exact hl
       .exact HL.o j (by omega)
      case measure=>simp[intOf];omega
     | false=>
      have N:U (O0 n X x p):=⟨hp,HL.o,λj bf bd=>by
       have h1:=Rs (F.o p a8) (by rw[hl];simp);by_cases e:j=p;.subst e;exact h1
       .exact AY _ _ _ h1 (HV.o.asc p j (by omega) bd)⟩
      clear HL;have aw:=GW (some (ad b o)) n c p N.o.1 M;have a4:=GU (some (ad b o)) n c p N.o.1 M;have av:=N.o.1;have bt:w.heap.size<t.heap.size:=by omega
      go_wp2_with (at_builtin;refine BH rfl _ _ rfl t.heap.size (.slice (some (ad t.heap.size 0)) 0 0) 0 [] rfl (World.ownsRow_lit t #[] 0 (Uq _) (Us _) rfl) (some (ad b o)) p c I X R rfl (Ii ((HR.o.below B4.o).below (Aa _ _)) N.o.1) (by omega) (by simp) ?_)
      intro v5 Y ah af;have K5:=Ae (((Aa _ _).grown af (by simp) (λk e=>by simp[Value.ownBlock] at e;omega)));have O5:U (Y.ownsRow t.heap.size 232 3 v5 p (Au I X R p)):=by
       have q:Y.ownsRow t.heap.size 232 3 v5 (0+p) ([]++Au I X R p):=by simpa using ah
       rw[UI,List.nil_append] at q;exact q
      obtain⟨a5,c5,ao⟩:=Cs O5.o;subst ao;have S5:=Ae (H.o.keep K5.o);clear y C g f r l T z u0 u1 uf ul ah af;obtain⟨⟨y,C⟩,-,z,-⟩:=EX S5.o.low;have bu:w.heap.size<Y.heap.size:=by omega
      have ac:=K5.o.size;go_wp2_with (at_builtin;refine BH rfl _ _ rfl t.heap.size (.slice a5 p c5) p (Au I X R p) rfl (O5.o.alloc _) (some (ad Y.heap.size 0)) 1 1 (λ_=>next) (λ_=>x) (λ_=>1) rfl (Ln Y next 1 x) (by omega) (by simp;omega) ?_)
      intro v6 w6 K ab;have K6:=Ae ((K5.o.alloc ac _).grown ab (by simp;omega) (λk e=>(O5.o.lt k e).1));have O6:=Ae K;obtain⟨a6,c6,aq⟩:=Cs K;subst aq;have S6:=Ae (H.o.keep K6.o);clear y C z K ab S5 O5 K5 ac;obtain⟨⟨y,C⟩,-,z,d⟩:=EX S6.o.low;have bj:w.heap.size<w6.heap.size:=by omega
      have B6:=Ae d;clear d;have J:=K6.o.size;go_wp2_with (at_builtin;refine BH rfl _ _ rfl t.heap.size (.slice a6 (p+1) c6) (p+1) (Au I X R p++Au (λ_=>next) (λ_=>x) (λ_=>1) 1) rfl O6.o (Rj (some (ad b o)) p c) (n-p) (c-p) (λj=>I (p+j)) (λj=>X (p+j)) (λj=>R (p+j)) rfl (GV c (HR.o.below B6.o) N.o.1 M) (by omega) J ?_)
      intro v7 w7 L aa;have K7:=Ae (K6.o.grown aa J (λk e=>(O6.o.lt k e).1));have eN:p+1+(n-p)=n+1:=by omega
      have eR:=Qy I X R x next av;rw[List.append_assoc] at eR;rw[eN,eR] at L;rw[eN] at*
      obtain⟨a7,c7,au,G,a9⟩:=EL L;subst au;have O7:=Ae G;have S7:=Ae (H.o.keep K7.o);clear y C z L aa G S6 O6 B6 J eN eR;obtain⟨⟨y,C⟩,⟨g,f,r,l,T⟩,z,d⟩:=EX S7.o.low;obtain⟨u0,u1,uf,ul⟩:=S7.o.cells;have B7:=Ae d;have bi:w.heap.size<w7.heap.size:=by omega
      have be:=S7.o.ge;have E:=H.o.cells.2.2.2;have bh:¬ bo=w.heap.size:=by omega
      have bq:¬ bo=w.heap.size+1:=by omega
      clear d;go_wp2;refine bodyPost_ret (v:=.agg #[.bool true,iv next,iv (next+1),.slice a7 (n+1) c7]) (by simp[results,results148,go_sem,g,f,r,l]) rfl ⟨true,next,next+1,n+1,_,_,_,.inr (.inr ⟨HV.o,F.o,hroom,p,N.o,rfl,rfl,rfl,rfl,rfl,rfl,rfl⟩),a7,c7,rfl,?_⟩;exact Cl (((O7.o.setOther E _).setOther E _).mono (by omega)) ((B7.o.setCell (by show w.heap.size<=bo;omega) _).setCell (by show w.heap.size<=bo;omega) _) (by assumption) _ _ _ _
    .have bl:p=n:=by omega
     have N:U (O0 n X x p):=⟨hp,HL.o,λj bf bd=>by omega⟩;clear HL bl;have aw:=GW a n c p N.o.1 M;have a4:=GU a n c p N.o.1 M;have av:=N.o.1;have bt:w.heap.size<t.heap.size:=by omega
     go_wp2_with (at_builtin;refine BH rfl _ _ rfl t.heap.size (.slice (some (ad t.heap.size 0)) 0 0) 0 [] rfl (World.ownsRow_lit t #[] 0 (Uq _) (Us _) rfl) a p c I X R rfl (Ii ((HR.o.below B4.o).below (Aa _ _)) N.o.1) (by omega) (by simp) ?_)
     intro v5 Y ah af;have K5:=Ae (((Aa _ _).grown af (by simp) (λk e=>by simp[Value.ownBlock] at e;omega)));have O5:U (Y.ownsRow t.heap.size 232 3 v5 p (Au I X R p)):=by
      have q:Y.ownsRow t.heap.size 232 3 v5 (0+p) ([]++Au I X R p):=by simpa using ah
      rw[UI,List.nil_append] at q;exact q
     obtain⟨a5,c5,ao⟩:=Cs O5.o;subst ao;have S5:=Ae (H.o.keep K5.o);clear y C g f r l T z u0 u1 uf ul ah af;obtain⟨⟨y,C⟩,-,z,-⟩:=EX S5.o.low;have bu:w.heap.size<Y.heap.size:=by omega
     have ac:=K5.o.size;go_wp2_with (at_builtin;refine BH rfl _ _ rfl t.heap.size (.slice a5 p c5) p (Au I X R p) rfl (O5.o.alloc _) (some (ad Y.heap.size 0)) 1 1 (λ_=>next) (λ_=>x) (λ_=>1) rfl (Ln Y next 1 x) (by omega) (by simp;omega) ?_)
     intro v6 w6 K ab;have K6:=Ae ((K5.o.alloc ac _).grown ab (by simp;omega) (λk e=>(O5.o.lt k e).1));have O6:=Ae K;obtain⟨a6,c6,aq⟩:=Cs K;subst aq;have S6:=Ae (H.o.keep K6.o);clear y C z K ab S5 O5 K5 ac;obtain⟨⟨y,C⟩,-,z,d⟩:=EX S6.o.low;have bj:w.heap.size<w6.heap.size:=by omega
     have B6:=Ae d;clear d;have J:=K6.o.size;go_wp2_with (at_builtin;refine BH rfl _ _ rfl t.heap.size (.slice a6 (p+1) c6) (p+1) (Au I X R p++Au (λ_=>next) (λ_=>x) (λ_=>1) 1) rfl O6.o (Rj a p c) (n-p) (c-p) (λj=>I (p+j)) (λj=>X (p+j)) (λj=>R (p+j)) rfl (GV c (HR.o.below B6.o) N.o.1 M) (by omega) J ?_)
     intro v7 w7 L aa;have K7:=Ae (K6.o.grown aa J (λk e=>(O6.o.lt k e).1));have eN:p+1+(n-p)=n+1:=by omega
     have eR:=Qy I X R x next av;rw[List.append_assoc] at eR;rw[eN,eR] at L;rw[eN] at*
     obtain⟨a7,c7,au,G,a9⟩:=EL L;subst au;have O7:=Ae G;have S7:=Ae (H.o.keep K7.o);clear y C z L aa G S6 O6 B6 J eN eR;obtain⟨⟨y,C⟩,⟨g,f,r,l,T⟩,z,d⟩:=EX S7.o.low;obtain⟨u0,u1,uf,ul⟩:=S7.o.cells;have B7:=Ae d;have bi:w.heap.size<w7.heap.size:=by omega
     have be:=S7.o.ge;have E:=H.o.cells.2.2.2;have bh:¬ bo=w.heap.size:=by omega
     have bq:¬ bo=w.heap.size+1:=by omega
     clear d;go_wp2;refine bodyPost_ret (v:=.agg #[.bool true,iv next,iv (next+1),.slice a7 (n+1) c7]) (by simp[results,results148,go_sem,g,f,r,l]) rfl ⟨true,next,next+1,n+1,_,_,_,.inr (.inr ⟨HV.o,F.o,hroom,p,N.o,rfl,rfl,rfl,rfl,rfl,rfl,rfl⟩),a7,c7,rfl,?_⟩;exact Cl (((O7.o.setOther E _).setOther E _).mono (by omega)) ((B7.o.setCell (by show w.heap.size<=bo;omega) _).setCell (by show w.heap.size<=bo;omega) _) (by assumption) _ _ _ _
theorem Sj (I:Nat->Int) (X:Nat->ByteArray) (R:Nat->Int) (hi:i<n) :
  Au I X R i++Au (λj=>I (i+1+j)) (λj=>X (i+1+j)) (λj=>R (i+1+j)) (n-(i+1))=Au (C9 I i) (C9 X i) (C9 R i) (n-1):=by
 have g:∀{T:Type} (f:Nat->T) (j:Nat),K8 i f (λj=>f (i+1+j)) j=C9 f i j:=λf j=>by
  by_cases h:j<i;.rw[EN h,P4 h]
  .rw[FC h,Pt h,show i+1+(j-i)=j+1 by omega]
 rw[E7,show i+(n-(i+1))=n-1 by omega];exact FK (λj _=>⟨g _ _,g _ _,g _ _⟩)
theorem LI (next:Int) (a:Option Addr) (n c:Nat) (I:Nat->Int) (X:Nat->ByteArray) (R:Nat->Int) (x:Int) (w:World) (h:FF w a n I X R) (hn:n<=1048576) (ae:n<=c) :
  UO 147 #[.agg #[iv next,.slice a n c],iv x] w (PI w (SZ next n I X R x)):=by
 have HR:U (FF w a n I X R):=h;have ah:U (((w.alloc (.cells #[iv next,.slice a n c] 141)).alloc (.cells #[.bool false,iv 0,iv 0,.slice none 0 0] 213)).heap.size=w.heap.size+2):=by show _=_;simp
 have am:=F4 next a n c I X R ((w.alloc (.cells #[iv next,.slice a n c] 141)).alloc (.cells #[.bool false,iv 0,iv 0,.slice none 0 0] 213)) (h.below ((Aa _ _).trans ((Aa _ _).mono (by simp)))) hn;clear h;go_enter func147,ntmps147;go_wp2_with fail
 refine am.mono ?_;clear am;rintro e w1 ⟨a1,c1,rfl,T,u,a9⟩;try unfold Bl at T
 try unfold Bl at u
 rw[ah.o] at T u;have S1:U (GX w (w1.alloc (.cells #[iv next,.slice a1 n c1] 141)) next a n c I X R w1.heap.size a1 c1):=by have hs:=u.size;rw[ah.o] at hs;exact⟨u.alloc hs _,blk_alloc_new _ _,hs,T.below (Aa _ _)⟩
 have an:=u.size;rw[ah.o] at an;clear u T;go_upto_region 2 with fail
 generalize w1.alloc (.cells #[iv next,.slice a1 n c1] 141)=W1 at S1 ⊢;generalize w1.heap.size=bo at S1 an ⊢;obtain⟨⟨Y,V⟩,⟨z,y,C,A,zf⟩,Z,d⟩:=EX S1.o.low;have B1:U (Bl w W1):=d;clear d;go_wp2_with fail
 refine (MN next a n c I X R x W1 (HR.o.below B1.o) hn).mono ?_;rintro e w2 ⟨ak,ar⟩;clear Y V z y C A zf Z;have S2:U (GX w w2 next a n c I X R bo a1 c1):=S1.o.keep ar;clear S1 B1 ar;obtain⟨⟨Y,V⟩,⟨z,y,C,A,zf⟩,Z,d⟩:=EX S2.o.low;have B2:U (Bl w w2):=d;clear d;have aq:U (∃t : Int,e=.returned (iv t)/\((∃i,i<n/\I i=x/\t=(i:Int))\/((∀i,i<n->I i≠x)/\t=-1))):=by
  rcases ak with ⟨i,J,hx,rfl⟩|⟨O,rfl⟩;.exact⟨_,rfl,.inl ⟨i,J,hx,rfl⟩⟩
  .exact⟨_,rfl,.inr ⟨O,rfl⟩⟩
 clear ak;obtain⟨t,rfl,ac⟩:=aq.o;have HA:U ((∃i,i<n/\I i=x/\t=(i:Int))\/((∀i,i<n->I i≠x)/\t=-1)):=ac;clear aq ac;go_wp2_with fail
 refine (Ml next a n c I X R w2 (HR.o.below B2.o) hn).mono ?_;rintro e w3 ⟨bv,rfl,aw,av⟩;clear Y V z y C A zf Z;have L:U (GX w w3 next a n c I X R bo a1 c1):=S2.o.keep av;have af:U (bv=true↔Hn next n I X R):=aw;clear av aw S2 B2;obtain⟨⟨Y,V⟩,⟨z,y,C,A,zf⟩,Z,d⟩:=EX L.o.low;obtain⟨u0,u1,uf,ul⟩:=L.o.cells;have B3:U (Bl w w3):=d;clear d;by_cases hv:Hn next n I X R;case neg=>
  obtain rfl:bv=false:=by
   cases bv with
   | false=>rfl
   | true=>exact absurd (af.o.1 rfl) hv
  go_wp2;refine bodyPost_ret (v:=.agg #[.bool false,iv 0,iv next,.slice a1 n c1]) (by simp[results,results147,go_sem,z,y,C,A]) rfl ⟨false,0,next,n,I,X,R,.inl ⟨.inl hv,rfl,rfl,rfl,rfl,rfl,rfl,rfl⟩,a1,c1,rfl,?_⟩;exact Cl L.o.row B3.o (by assumption) _ _ _ _
 case pos=>
 obtain rfl:bv=true:=af.o.2 hv;have HV:U (Hn next n I X R):=hv;have bf:=hv.2.1;clear hv af;rcases HA.o with ⟨i,J,al,rfl⟩|⟨O,rfl⟩;case inr=>have a4:U (∀i,i<n->I i≠x):=O;clear O HA;go_wp2;refine bodyPost_ret (v:=.agg #[.bool false,iv 0,iv next,.slice a1 n c1]) (by simp[results,results147,go_sem,z,y,C,A]) rfl ⟨false,0,next,n,I,X,R,.inl ⟨.inr a4.o,rfl,rfl,rfl,rfl,rfl,rfl,rfl⟩,a1,c1,rfl,?_⟩;exact Cl L.o.row B3.o (by assumption) _ _ _ _
 case inl=>
  have HX:U (I i=x):=al;have bj:¬ (i:Int)<0:=by omega
  have bi:(0:Int)<=(i:Int):=by omega
  clear al HA;have bn:=(HV.o.2.2 i J).1.2.2.1;have aa:=L.o.row;have ax:=aa;rcases aa with h0|⟨M,rfl,ba,E⟩;.omega
  have r2:w3.cell? (ad M (i*3+2))=some (iv (R i)):=by have:=E.cell (i:=i*3+2) (by omega);rwa [CT] at this
  have rf:=E.frozen;have rl:=E.lt;have a5:bo≠M:=λe=>by have q:=L.o.o;obtain⟨bk,hq,_⟩:=E;rw[e,hq] at q;injection q with q;injection q with _ q2 _;revert q2;decide
  have F:U (GX w (w3.setCell (ad M (i*3+2)) (iv (R i-1))).drew next a n c I X (R0 R i (R i-1)) bo (some (ad M 0)) c1):=by have q:Below (w.heap.size+2) _ (w3.setCell (ad M (i*3+2)) (iv (R i-1))):=L.o.low.setCell ba _;exact⟨q.drew,(Ur _ _ _ _ a5).trans L.o.o,L.o.ge,ax.setRef (by omega) J _⟩
  clear ax E;go_upto_region 5 with fail
  go_region
  generalize (w3.setCell (ad M (i*3+2)) (iv (R i-1))).drew=g at F ⊢;have B5:U (Bl w g):=(EX F.o.low).2.2.2;clear Y V z y C A zf Z u0 u1 uf ul r2 rf rl L B3;obtain⟨⟨Y,V⟩,⟨z,y,C,A,zf⟩,Z,-⟩:=EX F.o.low;obtain⟨u0,u1,uf,ul⟩:=F.o.cells;have r3:g.cell? (ad M (i*3+2))=some (iv (R i-1)):=by
   rcases F.o.row with h0|⟨g',e,_,az⟩;.omega
   .injection e with e;injection e with e;subst e;have:=az.cell (i:=i*3+2) (by omega);rw[CT,KT] at this;exact this
  by_cases h1:R i=1;case neg=>
   have HQ:U (R i≠1):=h1;have hz:(R i-1 == 0)=false:=by simp;omega
   clear h1;go_wp2;refine bodyPost_ret (v:=.agg #[.bool true,iv x,iv next,.slice (some (ad M 0)) n c1]) (by simp[results,results147,go_sem,z,y,C,A]) rfl ⟨true,x,next,n,I,X,_,.inr (.inl ⟨HV.o,i,J,HX.o,HQ.o,rfl,rfl,rfl,rfl,rfl,rfl,rfl⟩),_,c1,rfl,?_⟩;exact Cl F.o.row B5.o (by assumption) _ _ _ _
  case pos=>
   have HQ:U (R i=1):=h1;have hz:(R i-1 == 0)=true:=by rw[h1];rfl
   clear h1;rcases HR.o with h0|⟨b,o,ay,-⟩;.omega
   subst ay;have bg:i+1<=n:=J;have bm:IntKind.i64.wrap ((i:Int)+1)=(i:Int)+1:=by rw[Uv];omega
   have aj:∀W:World,(Instr.sliceAt 139 (.slice (some (ad b o)) n c) none (some (iv (i:Int))) none).run prog W=.ok (.slice (some (ad b o)) i c) W:=GW _ n c i (by omega) ae;have au:∀W:World,(Instr.sliceAt 139 (.slice (some (ad b o)) n c) (some (iv ((i:Int)+1))) none none).run prog W=.ok (.slice (Rj (some (ad b o)) (i+1) c) (n-(i+1)) (c-(i+1))) W:=λW=>by have:=GU (some (ad b o)) n c (i+1) J ae W;simpa using this
   have r:U (∀w' : World,Bl g w'->w'.cell? (ad w.heap.size 1)=some (.slice (some (ad b o)) n c)):=λw' hb=>(hb.cell (p:=(ad w.heap.size 1)) (by show w.heap.size<g.heap.size;omega)).trans V;have A0:U ((g.alloc (.cells #[] 232)).drew.ownsRow g.heap.size 232 3 (.slice (some (ad g.heap.size 0)) 0 0) 0 []/\FF (g.alloc (.cells #[] 232)).drew (some (ad b o)) i I X R/\g.heap.size<=(g.alloc (.cells #[] 232)).drew.heap.size):=
    ⟨World.ownsRow_lit g #[] 0 (Uq _) (Us _) rfl,Ii ((HR.o.below B5.o).below (Aa _ _).drew) (by omega),by show _<=(g.alloc _).heap.size;simp⟩
   have A5:U (∀v6 l,l.ownsRow g.heap.size 232 3 v6 (0+i) ([]++Au I X R i)->(g.alloc (.cells #[] 232)).drew.grownBy l (Value.slice (some (ad g.heap.size 0)) 0 0).ownBlock->∃D G,v6=.slice D i G/\U (l.ownsRow g.heap.size 232 3 (.slice D i G) i (Au I X R i))/\U (Bl g l)):=λv6 l ho hg=>by rw[UI,List.nil_append] at ho;obtain⟨D,G,rfl⟩:=Cs ho;exact⟨D,G,rfl,ho,((Aa _ _).drew).grown hg A0.o.2.2 (λk e=>by simp[Value.ownBlock] at e;omega)⟩
   have ag:U (∀l:World,Bl g l->FF l (Rj (some (ad b o)) (i+1) c) (n-(i+1)) (λj=>I (i+1+j)) (λj=>X (i+1+j)) (λj=>R (i+1+j))/\g.heap.size<=l.heap.size):=λl hb=>⟨GV c ((HR.o.below B5.o).below hb) J ae,hb.size⟩;have ap:U (∀(D:Option Addr) (G:Nat) (l:World) v7 N,l.ownsRow g.heap.size 232 3 (.slice D i G) i (Au I X R i)->Bl g l->N.ownsRow g.heap.size 232 3 v7 (i+(n-(i+1))) (Au I X R i++Au (λj=>I (i+1+j)) (λj=>X (i+1+j)) (λj=>R (i+1+j)) (n-(i+1)))->l.grownBy N (Value.slice D i G).ownBlock->∃a7 c7,n-1<=c7/\v7=.slice a7 (n-1) c7/\U (Br N g.heap.size a7 (n-1) (C9 I i) (C9 X i) (C9 R i))/\U (Bl g N)):=λD G l v7 N h6 hb ho hg=>by rw[Sj I X R J,show i+(n-(i+1))=n-1 by omega] at ho;obtain⟨a7,c7,hv,bc,ab⟩:=EL ho;exact⟨a7,c7,ab,hv,bc,hb.grown hg hb.size (λk e=>(h6.lt k e).1)⟩
   go_upto_region 7 with fail
   refine Aj (S:=λw'=>w'.cell? (ad w.heap.size 1)=some (.slice (some (ad b o)) n c)) 13 (by kernel_rfl) ?_ (λf=>?_);·((try dsimp only);(first|exact r.o _ (Up _ _).drew|exact r.o _ (Aa _ _).drew|exact r.o _ K6.o|exact r.o _ K7.o))
   refine tz 1 rfl ?_;refine tz 2 rfl ?_;refine tz 3 rfl ?_;refine tz 4 rfl ?_;refine tz 6 rfl ?_;refine tz 7 rfl ?_;refine tz 8 rfl ?_;refine tz 9 rfl ?_;refine tz 10 rfl ?_;refine At 0 rfl (λK H=>?_);go_simp;refine tL H (by (try dsimp only);(first|exact r.o _ (Up _ _).drew|exact r.o _ (Aa _ _).drew|exact r.o _ K6.o|exact r.o _ K7.o)) ?_;clear H K f;intro f;try simp only[Ay]
   refine At 5 rfl (λK H=>?_);refine DY (by rfl) (.tmp 40) (.tmp 44) (by rfl) g.heap.size (.slice (some (ad g.heap.size 0)) 0 0) 0 [] (by rfl) A0.o.1 (some (ad b o)) i c I X R (by rfl) A0.o.2.1 (by omega) A0.o.2.2 ?_;intro v6 l a2 a3;obtain⟨D,G,rfl,O6,K6⟩:=A5.o v6 l a2 a3;refine tL H (by (try dsimp only);(first|exact r.o _ (Up _ _).drew|exact r.o _ (Aa _ _).drew|exact r.o _ K6.o|exact r.o _ K7.o)) ?_;clear H K f;intro f;try simp only[Ay]
   refine At 11 rfl (λK H=>?_);refine DY (by rfl) (.tmp 45) (.tmp 50) (by rfl) g.heap.size (.slice D i G) i (Au I X R i) (by rfl) O6.o (Rj (some (ad b o)) (i+1) c) (n-(i+1)) (c-(i+1)) (λj=>I (i+1+j)) (λj=>X (i+1+j)) (λj=>R (i+1+j)) (by rfl) (ag.o l K6.o).1 (by omega) (ag.o l K6.o).2 ?_;intro v7 N a8 a0;obtain⟨a7,c7,ab,rfl,O7,K7⟩:=ap.o D G l v7 N O6.o K6.o a8 a0;have be:=(F.o.keep K7.o).cells.2.2.1;have bd:=(F.o.keep K7.o).cells.2.2.2;have bb:=(F.o.keep K7.o).cells.2.1;refine tL H (by (try dsimp only);(first|exact r.o _ (Up _ _).drew|exact r.o _ (Aa _ _).drew|exact r.o _ K6.o|exact r.o _ K7.o)) ?_;clear H K f;intro f;try simp only[Ay]
   refine tz 12 rfl ?_;refine At 13 rfl (λK H=>?_);go_simp;refine tM H ?_;clear H K;clear r A0 A5 ag ap aj au;have S7:U (GX w N next (some (ad b o)) n c I X (R0 R i (R i-1)) bo (some (ad M 0)) c1):=F.o.keep K7.o;clear Y V z y C A zf Z u0 u1 uf ul be bd bb f;obtain⟨⟨Y,V⟩,⟨z,y,C,A,zf⟩,Z,d⟩:=EX S7.o.low;obtain⟨u0,u1,uf,ul⟩:=S7.o.cells;have B7:U (Bl w N):=d;have bh:=S7.o.ge;have ao:bo<g.heap.size:=F.o.cells.2.2.2;have bl:¬ bo=w.heap.size+1:=by omega
   clear d;go_wp2;refine bodyPost_ret (v:=.agg #[.bool true,iv x,iv next,.slice a7 (n-1) c7]) (by simp[results,results147,go_sem,z,y,C,A]) rfl ⟨true,x,next,n-1,_,_,_,.inr (.inr ⟨HV.o,i,J,HX.o,HQ.o,rfl,rfl,rfl,rfl,rfl,rfl,rfl⟩),a7,c7,rfl,?_⟩;exact Cl ((O7.o.setOther ao _).mono (by omega)) (B7.o.setCell (by show w.heap.size<=bo;omega) _) (by assumption) _ _ _ _
end Go.Proofs.YtcnollkkigiobaaGreat
