import Derived.Shelf.Spec.SlicesInsert
import Derived.Lib.AppendZerosOnto
import Derived.Laws.NewBlocks
import Derived.Test.YtcnollkkigiobaaGreatNv6
set_option linter.unusedVariables false
set_option linter.unusedSimpArgs false
set_option maxRecDepth 100000
set_option maxHeartbeats 90000000
namespace Go.Proofs.YtcnollkkigiobaaGreat
open Go Go.Deep Go.Lib Go.RowKit Go.Shelf Go.Proofs.Tryz
def Hd (w:World) (b n:Nat) (L:List Value) (e:Ending) (w' : World):Prop:=
 ∃g c,e=.returned (.slice (some (ad g 0)) (n+1) c)/\(n+1<=c/\c<=9223372036854775807)/\g<w'.heap.size/\(g=b\/w.heap.size<=g)/\(∀j v,L[j]?=some v->w'.cell? (ad g j)=some v)/\w.grownBy w' (some b)
theorem MS:(prog.info? 68).map (·.size)=some 1:=by obtain⟨c,a,e,b,d⟩:=info_parts info68;rw[a];simp[b]
theorem PA (B b n c l:Nat) (xs:List Value) (u:Value) (w:World) (h:w.ownsRow B 68 1 (.slice (some (ad b 0)) n c) n xs) (A:w.heap[l]?=some (.cells #[u] 68 (0,0))) (G:u.oneCell'=true) (R:n<=1000) (L:B<=w.heap.size) :
  UO 194 #[.slice (some (ad b 0)) n c,iv (n:Int),.slice (some (ad l 0)) 1 1] w (Hd w b n (xs++[u])):=by
 obtain⟨N,q,s,m,p⟩:=info_parts info68;have t:=Ae (ai q (ai s (ai m p)));have a:=AS h;have M:=Ae h;have C:∀W:World,∃x,(Instr.sliceAt 175 (.slice (some (ad b 0)) n c) (some (iv (n:Int))) none none).run prog W=.ok (.slice x (n-n) (c-n)) W:=λW=>⟨if c=n then some (ad b 0) else some (ad b n),by have D:=a.1;simp[Instr.sliceAt,Instr.slice,go_sem,D]⟩
 obtain⟨x,C⟩:∃x,∀W:World,(Instr.sliceAt 175 (.slice (some (ad b 0)) n c) (some (iv (n:Int))) none none).run prog W=.ok (.slice x (n-n) (c-n)) W:=⟨if c=n then some (ad b 0) else some (ad b n),λW=>by have D:=a.1;simp[Instr.sliceAt,Instr.slice,go_sem,D]⟩
 have H:U (∀j k,[u][j]?=some k->w.cell? (ad l (0+j))=some k):=by intro j k y;have:=Bx.cell (show Bx w l 68 #[u] from A) j;rw[UI,this];simpa using y
 clear h q s m p;go_enter func194,ntmps194;go_wp2_with (at_builtin;refine wpList_append_own_at _ rfl _ _ 175 rfl B 68 N _ 1 16 underlying175 t.o.1 t.o.2.1 t.o.2.2.1 t.o.2.2.2 rfl (by decide) (.slice (some (ad b 0)) n c) n xs rfl M.o (ad l 0) 1 1 [u] rfl rfl (λj k y=>by rw[Addr.add_lit];exact H.o j k y) (by intro v E;simp at E;subst E;exact G) (by unfold maxLen;omega) (by omega) L ?_)
 intro Q J f r _ d;obtain⟨P,F,e,K⟩:=Af f;subst e;obtain⟨g,rfl,I,z,i⟩:=K (by omega);have O:U (Hd w b n (xs++[u]) (.returned (.slice (some (ad g 0)) (n+1) F)) J):=by
  refine⟨g,F,rfl,AS f,z,?_,i,r⟩;rcases d with h|h;.injection h with h;exact .inl h
  .injection h with h;exact .inr (by have:g=w.heap.size:=h;omega)
 clear f r d i;go_wp2;go_ret;exact O.o
theorem OB (b n c i l:Nat) (h:Array Value) (xs:List Value) (u:Value) (w:World) (Q:w.heap[b]?=some (.cells h 68 (0,0))) (P:h.size=c) (T:∀j v,xs[j]?=some v->w.cell? (ad b j)=some v) (J:xs.length=n) (h1:∀v∈xs,v.oneCell'=true) (B:w.heap[l]?=some (.cells #[u] 68 (0,0))) (hu:u.oneCell'=true) (F:l≠b) (hi:i<n) (y:n+1<=c) (C:c<=9223372036854775807) :
  UO 194 #[.slice (some (ad b 0)) n c,iv (i:Int),.slice (some (ad l 0)) 1 1] w (Hd w b n (xs.take i++u::xs.drop i)):=by
 have I:Bx w b 68 h:=Q;have H:Bx w l 68 #[u]:=B;have d:∀j,j<c->(w.cell? (ad b j)).isSome=true:=λj a=>by rw[I.cell j,Array.getElem?_eq_getElem (by omega)];rfl
 have m:(xs.drop i).length=n-i:=by rw[List.length_drop,J]
 have Y:∀L M,(callFunc 196 #[.slice (some (ad l 0)) 1 1,.slice (some (ad b (i+1))) L M]).run prog w=.ok (.value (.bool false)) w:=λL M=>by
  rw[run_callFunc_extern func196 (by kernel_rfl) (by kernel_rfl) (by kernel_rfl) (e:=Extern.SlicesOverlaps.overlaps #[175,175] #[4]) (by kernel_rfl),
   Lib.run_overlaps_apart w 175 4 68 underlying175 1 (λW=>by kernel_rfl) (ad l 0) (ad b (i+1)) 1 1 L M F 68 68 1 c (by simp[World.shape?,B]) (by simp[World.shape?,Q,P]) (by omega) (H.frozen 0) (H.frozen 1)]
  rfl
 have q:∀ty t K,(Builtin.copy_ #[175,175] ty #[.slice (some (ad b (i+1))) (n-i) t,.slice (some (ad b i)) (n+1-i) K]).run prog w.drew=.ok (goInt (xs.drop i).length) (w.drew.setCells b (i+1) (xs.drop i)):=λty t K=>
  run_copy_cells w.drew _ _ ty 68 b (i+1) (n-i) t (ad b i) (n+1-i) K (xs.drop i) underlying175 MS (by rw[m];simp only[Nat.min_def];split <;> omega)
   (λj v a=>by rw[Addr.add_lit];exact T (i+j) v (by rwa [List.getElem?_drop] at a)) (λj a=>d _ (by omega)) (λj a=>I.frozen _) (λv G=>h1 v (List.mem_of_mem_drop G))
 obtain⟨g,f⟩:∃g,g=w.drew.setCells b (i+1) (xs.drop i):=⟨_,rfl⟩;obtain⟨p,V,e2,N⟩:=BO (xs.drop i) (i+1) w.drew h Q (by rw[m];omega);rw[<- f] at V q;have r:w.grownBy g (some b):=by rw[f];exact Ao (⟨rfl,rfl,rfl,Uq _,λ_ _ _=>rfl⟩:w.grownBy w.drew (some b)) (Bb b (xs.drop i) (i+1) w.drew)
 have s:Bx g b 68 p:=V;have A:Bx g l 68 #[u]:=H.grown r (λe=>by injection e with e;exact F e.symm);have D:∀(W:World),(∀x,W.cell? x=g.cell? x)->(∀x,W.frozen? x=g.frozen? x)->∀ty t,(Builtin.copy_ #[175,175] ty #[.slice (some (ad b i)) (n+1-i) t,.slice (some (ad l 0)) 1 1]).run prog W=.ok (goInt [u].length) (W.setCells b i [u]):=λW z O ty t=>
  run_copy_cells W _ _ ty 68 b i (n+1-i) t (ad l 0) 1 1 [u] underlying175 MS (by simp only[Nat.min_def,UJ,List.length_nil];split <;> omega)
   (λj v a=>by rw[Addr.add_lit,z,UI,A.cell j];simpa using a) (λj a=>by simp at a;subst a;rw[z,s.cell,Array.getElem?_eq_getElem (by omega)];rfl) (λj a=>by rw[O];exact s.frozen _) (λv G=>by simp at G;subst G;exact hu)
 have HF:U (∀W:World,W.heap=g.heap->W.os=g.os->W.tape=g.tape->W.output=g.output->Hd w b n (xs.take i++u::xs.drop i) (.returned (.slice (some (ad b 0)) (n+1) c)) (W.setCells b i [u])):=by
  intro W R w1 w2 w3;have gW:w.grownBy W (some b):=⟨w1.trans r.os,w2.trans r.tape,w3.trans r.output,by rw[R];exact r.size,λk hk hn=>by rw[R];exact r.block k hk hn⟩;obtain⟨E,Z,f2,f3⟩:=BO [u] i W p (by rw[R];exact V) (by simp;omega);refine⟨b,c,rfl,⟨y,C⟩,(Array.getElem?_eq_some_iff.1 Z).1,.inl rfl,λj v a=>?_,Ao gW (Bb b [u] i W)⟩;rw[Bx.cell (show Bx _ b 68 E from Z) j,f3 j];have hl:(xs.take i).length=i:=by rw[UE];omega
  have X:=(List.getElem?_eq_some_iff.1 a).1;rw[Uz,UJ,hl,m] at X;by_cases q1:j<i;.rw[if_neg (by omega),N j,if_neg (by omega)];rw[List.getElem?_append_left (by omega),List.getElem?_take,if_pos q1] at a;rw[<- I.cell j];exact T j v a
  .rw[List.getElem?_append_right (by omega),hl] at a;by_cases q2:j=i;.subst q2;rw[if_pos (by simp)];simpa using a
   .rw[if_neg (by simp;omega),N j,if_pos (by rw[m];omega)];rw[show j-i=(j-(i+1))+1 by omega,List.getElem?_cons_succ] at a;exact a
 have z2:¬ ((i:Int)=(n:Int)):=by omega
 have y1:IntKind.i64.wrap ((i:Int)+1)=(i:Int)+1:=by rw[Uv];omega
 have y2:(0:Int)<=(i:Int)+1:=by omega
 have y3:i<=n:=by omega
 have y4:((i:Int)+1).toNat=i+1:=by omega
 have y5:¬ (c=i+1):=by omega
 have y6:(i:Int)<=(n:Int)+1:=by omega
 have y7:¬ (c=i):=by omega
 have y8:¬ (c:Int)<(n:Int)+1:=by omega
 have aa:=decide_eq_false y8;have S:prog.follows .mixedOrders=true:=by kernel_rfl
 clear T h1 d N s A r H I;go_enter func194,ntmps194;go_wp2_with (simp only[Y])
 go_region_law_o (refine step_copy_runI rfl _ _ 175 175 rfl _ _ (by simp[Act.eval,Act.put]) (by simp[Act.eval,Act.put]) (q _ _ _) ?_)
 go_wp2_with (at_builtin;refine wpList_copy_runI _ rfl _ _ 175 175 rfl _ _ rfl rfl (D _ (λ_=>rfl) (λ_=>rfl) _ _) ?_)
 go_ret;exact HF.o _ (by rw[f]) (by rw[f]) (by rw[f]) (by rw[f])
theorem Oz (b n c i K:Nat) (xs:List Value) (u:Value) (w:World) (hb:b<w.heap.size) (hx:∀j v,xs[j]?=some v->w.cell? (ad b j)=some v) (aa:xs.length=n) (h1:∀v∈xs,v.oneCell'=true) (ac:w.heap[K]?=some (.cells #[u] 68 (0,0))) (hu:u.oneCell'=true) (hi:i<n) (al:n<=c) (J:c<n+1) (hn:n<=1000) :
  UO 194 #[.slice (some (ad b 0)) n c,iv (i:Int),.slice (some (ad K 0)) 1 1] w (Hd w b n (xs.take i++u::xs.drop i)):=by
 have vx:Bx w K 68 #[u]:=ac;obtain⟨i0,T,M,L,F⟩:=info_parts info68;have y:(xs.drop i).length=n-i:=by rw[List.length_drop,aa]
 have B:(Builtin.firstCells i0.size i (.slice (some (ad b 0)) i c)).run prog w.drew=.ok (xs.take i).toArray w.drew:=by
  rw[L];refine run_firstCells_some w.drew 1 i (ad b 0) i c (xs.take i) (by rw[UE];omega) (λj v a=>?_);rw[Addr.add_lit,UI];rw[List.getElem?_take] at a;split at a;.exact hx j v a
  .cases a
 obtain⟨G,Y⟩:∃G,G=grownCap w (n+1) c 68:=⟨_,rfl⟩;obtain⟨d,l⟩:∃d:Array Value,d=(xs.take i).toArray++Builtin.zeroCells Value.nilIface.cells (n+1-i)++Builtin.zeroCells Value.nilIface.cells (G-(n+1)):=⟨_,rfl⟩;have P:∀ty,(Builtin.append_ #[175,3] ty #[.slice (some (ad b 0)) i c,iv ((n:Int)+1-(i:Int))]).run prog w=.ok (.slice (some (ad w.heap.size 0)) (n+1) G) (w.drew.alloc (.cells d 68)):=λty=>by have h:=Lib.run_append_grow_zeros w 175 3 ty 68 i0 _ .i64 .i64 underlying175 underlying3 T M (some (ad b 0)) i c (xs.take i) B (n+1-i) (by omega) (by omega) (by omega) (by omega) (by rw[F];omega) (by rw[F,show i+(n+1-i)=n+1 by omega];exact growslice_fits J (by omega));rw[show i+(n+1-i)=n+1 by omega,<- Y,<- l,show (((n+1-i:Nat)):Int)=(n:Int)+1-(i:Int) by omega] at h;exact h
 have ae:n+1<=G:=by rw[Y];exact grownCap_ge w _ _ _
 have O:G<=9223372036854775807:=by have:=grownCap_le_maxLen w (n+1) c 68 (by unfold maxLen;omega);rw[<- Y] at this;unfold maxLen at this;omega
 have ab:n+1<=d.size:=by rw[l];simp[Builtin.zeroCells,Value.cells];omega
 have N:∀j,j<i->d[j]?=xs[j]?:=λj a=>by
  have hl:(xs.take i).toArray.size=i:=by simp;omega
  rw[l,Array.append_assoc,Array.getElem?_append_left (by omega)];simp[List.getElem?_take,a]
 have R:Bx (w.drew.alloc (.cells d 68)) w.heap.size 68 d:=blk_alloc_new w.drew _;have r:Bl w (w.drew.alloc (.cells d 68)):=(Up w.heap.size w).drew.trans (show Below w.heap.size w.drew _ from Aa w.drew _);generalize w.drew.alloc (.cells d 68)=A at P R r;have vA:Bx A K 68 #[u]:=vx.below r;have V:∀(W:World),(∀x,W.cell? x=A.cell? x)->(∀x,W.frozen? x=A.frozen? x)->∀ty H,(Builtin.copy_ #[175,175] ty #[.slice (some (ad w.heap.size i)) (n+1-i) H,.slice (some (ad K 0)) 1 1]).run prog W=.ok (goInt [u].length) (W.setCells w.heap.size i [u]):=λW m D ty H=>
  run_copy_cells W _ _ ty 68 w.heap.size i (n+1-i) H (ad K 0) 1 1 [u] underlying175 MS (by simp only[Nat.min_def,UJ,List.length_nil];split <;> omega)
   (λj v a=>by rw[Addr.add_lit,m,UI,vA.cell j];simpa using a) (λj a=>by simp at a;subst a;rw[m,R.cell,Array.getElem?_eq_getElem (by omega)];rfl) (λj a=>by rw[D];exact R.frozen _) (λv X=>by simp at X;subst X;exact hu)
 obtain⟨z,Z,e2,e3⟩:=BO [u] i A d R (by simp;omega);obtain⟨s,t⟩:∃s,s=A.setCells w.heap.size i [u]:=⟨_,rfl⟩;rw[<- t] at Z;have f:Bl w s:=by have q:=Bb w.heap.size [u] i A;rw[t];exact r.grown q (by have:=r.size;omega) (λg e=>by injection e with e;omega)
 have E:Bx s w.heap.size 68 z:=Z;have C:∀(W:World),(∀x,W.cell? x=s.cell? x)->(∀x,W.frozen? x=s.frozen? x)->∀ty H sc,(Builtin.copy_ #[175,175] ty #[.slice (some (ad w.heap.size (i+1))) (n-i) H,.slice (some (ad b i)) (n-i) sc]).run prog W=.ok (goInt (xs.drop i).length) (W.setCells w.heap.size (i+1) (xs.drop i)):=λW m D ty H sc=>
  run_copy_cells W _ _ ty 68 w.heap.size (i+1) (n-i) H (ad b i) (n-i) sc (xs.drop i) underlying175 MS (by rw[y];simp only[Nat.min_def];split <;> omega)
   (λj v a=>by rw[Addr.add_lit,m,f.cell (p:=(ad b (i+j))) hb];exact hx (i+j) v (by rwa [List.getElem?_drop] at a))
   (λj a=>by rw[m,E.cell,Array.getElem?_eq_getElem (by omega)];rfl) (λj a=>by rw[D];exact E.frozen _) (λv X=>h1 v (List.mem_of_mem_drop X))
 have HF:U (∀W:World,W.heap=s.heap->W.os=s.os->W.tape=s.tape->W.output=s.output->Hd w b n (xs.take i++u::xs.drop i) (.returned (.slice (some (ad w.heap.size 0)) (n+1) G)) (W.setCells w.heap.size (i+1) (xs.drop i))):=by
  intro W hW w1 w2 w3;have gW:Bl w W:=⟨w1.trans f.os,w2.trans f.tape,w3.trans f.output,by rw[hW];exact f.size,λk hk=>by rw[hW];exact f.block k hk⟩;obtain⟨Q,f1,f2,f3⟩:=BO (xs.drop i) (i+1) W z (by rw[hW];exact Z) (by rw[y];omega);have S:=gW.grown (Bb w.heap.size (xs.drop i) (i+1) W) (by have:=gW.size;omega) (λg e=>by injection e with e;omega);refine⟨w.heap.size,G,rfl,⟨ae,O⟩,(Array.getElem?_eq_some_iff.1 f1).1,.inr (Uq _),λj v a=>?_,⟨S.os,S.tape,S.output,S.size,λk hk _=>S.block k hk⟩⟩;rw[Bx.cell (show Bx _ w.heap.size 68 Q from f1) j,f3 j];have hl:(xs.take i).length=i:=by rw[UE];omega
  have ag:=(List.getElem?_eq_some_iff.1 a).1;rw[Uz,UJ,hl,y] at ag;by_cases q1:j<i;.rw[if_neg (by omega),e3 j,if_neg (by omega),N j q1];rw[List.getElem?_append_left (by omega),List.getElem?_take,if_pos q1] at a;exact a
  .rw[List.getElem?_append_right (by omega),hl] at a;by_cases q2:j=i;.subst q2;rw[if_neg (by omega),e3 j,if_pos (by simp)];simpa using a
   .rw[if_pos (by rw[y];omega)];rw[show j-i=(j-(i+1))+1 by omega,List.getElem?_cons_succ] at a;exact a
 have z2:¬ ((i:Int)=(n:Int)):=by omega
 have y1:IntKind.i64.wrap ((i:Int)+1)=(i:Int)+1:=by rw[Uv];omega
 have y2:(0:Int)<=(i:Int)+1:=by omega
 have y3:i<=n:=by omega
 have ak:i<=n+1:=by omega
 have y4:((i:Int)+1).toNat=i+1:=by omega
 have y6:(i:Int)<=(n:Int):=by omega
 have am:(i:Int)<=(n:Int)+1:=by omega
 have y7:¬ (c=i):=by omega
 have yG:¬ (G=i):=by omega
 have aj:¬ (G=i+1):=by omega
 have y8:(c:Int)<(n:Int)+1:=by omega
 have ah:=decide_eq_true y8;have af:prog.follows .mixedOrders=true:=by kernel_rfl
 rw[t] at C HF;have I:=C (A.setCells w.heap.size i [u]).drew (λ_=>rfl) (λ_=>rfl);clear hx h1 e3 E f vA vx R r N B l ab t Z T M L F Y;go_enter func194,ntmps194;go_wp2_with (first
  | (at_builtin;refine Lib.wpList_append_run _ rfl _ _ _ _ rfl _ _ rfl rfl _ _ (P _) ?_)
  | (at_builtin;refine wpList_copy_runI _ rfl _ _ 175 175 rfl _ _ rfl rfl (V _ (λ_=>rfl) (λ_=>rfl) _ _) ?_))
 go_region_law_o (refine step_copy_runI rfl _ _ 175 175 rfl (.slice (some (ad w.heap.size (i+1))) (n-i) (G-(i+1))) (.slice (some (ad b i)) (n-i) (c-i)) (by simp[Act.eval,Act.put]) (by simp[Act.eval,Act.put]) (I 3 (G-(i+1)) (c-i)) ?_)
 go_wp2;go_ret;exact HF.o _ rfl rfl rfl rfl
theorem Pi (B b n c i k:Nat) (xs:List Value) (u:Value) (w:World) (h:w.ownsRow B 68 1 (.slice (some (ad b 0)) n c) n xs) (t:∀v∈xs,v.oneCell'=true) (d:w.heap[k]?=some (.cells #[u] 68 (0,0))) (m:u.oneCell'=true) (p:k≠b) (hi:i<=n) (x:n<=1000) (A:B<=w.heap.size) :
  UO 194 #[.slice (some (ad b 0)) n c,iv (i:Int),.slice (some (ad k 0)) 1 1] w (Hd w b n (xs.take i++u::xs.drop i)):=by
 have l:xs.length=n:=by have:=h.1;omega
 by_cases e:i=n;.subst e;rw[List.take_of_length_le (by omega),List.drop_of_length_le (by omega)];exact PA B b i c k xs u w h d m x A
 .have a:=AS h;have s:∀j v,xs[j]?=some v->w.cell? (ad b j)=some v:=by intro j v r;have E:=(List.getElem?_eq_some_iff.1 r).1;rw[h.cellAt j (by omega)];exact r
  by_cases C:n+1<=c
  .rcases h.2 with ⟨q,I⟩|⟨g,z,o,f,H,y,K,F,G,J⟩;.omega
   .injection f with f _ D;injection f with f;injection f with f;subst f D;exact OB b n c i k o xs u w y (by omega) s l t d m p (by omega) C a.2
  .exact Oz b n c i k xs u w (Ah h b rfl).2 s l t d m (by omega) a.1 (by omega) x
end Go.Proofs.YtcnollkkigiobaaGreat
