import Derived.Lib.AppendZerosOnto
import Derived.Laws.NewBlocks
import Derived.Test.YtcnollkkigiobaaGreatNv11
set_option linter.unusedVariables false
set_option linter.unusedSimpArgs false
set_option maxRecDepth 100000
set_option maxHeartbeats 90000000
namespace Go.Proofs.YtcnollkkigiobaaGreat
open Go Go.Deep Go.RowKit Go.Proofs.Tryz
variable {d:Nat}{w:World}{x:Value}
def LQ (v nodes:Value) (w:World) (Q:Ending->World->Prop):Prop:=
 (∃b,v=.iface 204 (pt b)/\UO 209 #[pt b,nodes] w Q)\/
 (∃b,v=.iface 174 (pt b)/\UO 191 #[pt b,nodes] w Q)
def Qp (v:Value) (w:World) (Q:Ending->World->Prop):Prop:=
 (∃b,v=.iface 204 (pt b)/\UO 205 #[pt b] w Q)\/
 (∃b,v=.iface 174 (pt b)/\UO 188 #[pt b] w Q)
theorem MT {t:Ro d} {v:Value} {S:Nat->Prop} {h:Nat} (a:AP S w d t v) (c:Aq d false t h):Qp v w λe s=>e=.returned (.string (gt (Ab d t) 0))/\s=w:=by
 match d,t,a,c with
 | d+1,.inl L,a,c=>have q:=CJ c;obtain⟨b,m,k,rfl,_,p,_,r⟩:=a;exact .inl ⟨b,rfl,C0 b L.length k m _ (gt L) w p r.rdS q⟩
 | d+1,.inr l,a,c=>have j:=a;obtain⟨b,g,o,k,u,rfl,_⟩:=j;obtain⟨_,_,n,_,f⟩:=c;exact .inr ⟨b,rfl,L9 d l S b n w a f⟩
theorem Kq {t:TypeId} {a b:Nat} (e:Value.iface t (pt a)=.iface t (pt b)):a=b:=by injection e with _ e;injection e with e;injection e with e;injection e with e
theorem NF {t s:TypeId} {a b:Value} (e:Value.iface t a=.iface s b):t=s:=by injection e with e _
theorem FP {b:Nat} {Q:Ending->World->Prop} (h:LQ (.iface 204 (pt b)) x w Q):UO 209 #[pt b,x] w Q:=by
 rcases h with ⟨c,e,a⟩|⟨c,e,a⟩;.exact (by rw[Kq e];exact a)
 .exact absurd (NF e) (by decide)
theorem Fi {b:Nat} {Q:Ending->World->Prop} (h:LQ (.iface 174 (pt b)) x w Q):UO 191 #[pt b,x] w Q:=by
 rcases h with ⟨c,e,a⟩|⟨c,e,a⟩;.exact absurd (NF e) (by decide)
 .exact (by rw[Kq e];exact a)
theorem Mv {b:Nat} {Q:Ending->World->Prop} (h:Qp (.iface 204 (pt b)) w Q):UO 205 #[pt b] w Q:=by
 rcases h with ⟨c,e,a⟩|⟨c,e,a⟩;.exact (by rw[Kq e];exact a)
 .exact absurd (NF e) (by decide)
theorem LV {b:Nat} {Q:Ending->World->Prop} (h:Qp (.iface 174 (pt b)) w Q):UO 188 #[pt b] w Q:=by
 rcases h with ⟨c,e,a⟩|⟨c,e,a⟩;.exact absurd (NF e) (by decide)
 .exact (by rw[Kq e];exact a)
theorem Lr {c:Array Oper} {o:Oper} {a:Act} {K:Act->World->Prop} {Q:Exit->Act->World->Prop} {E:Prop} (g:o.guard=none) (k:Nat) (i:Nat) (j:String) (ty:TypeId) (p:Value)
  (m:o.op=.call { callee:=.invoke (.tmp i) j,args:=#[],argTypes:=#[] }) (n:a.tmps[i]?.getD undef=.iface ty p) (t:∀w,(method 369 ty p j).run prog w=.ok (k,p) w) (f:∀b w,(callFunc k b).run prog w=.ok (.enter k b) w)
  (h:UO k #[p] w λe l=>∃r,e=.returned r/\K (a.put o.dst r) l) :
  if Region.wanted o (yielded c a.tmps)=true then Oper.wp prog o a w K Q else E:=by
 have s:Region.wanted o (yielded c a.tmps)=true:=by simp[Region.wanted,g]
 rw[if_pos s];unfold Oper.wp;simp[execOp,m,resolve,invoke,n,go_sem,t,f];refine h.mono ?_;rintro e l ⟨u,rfl,q⟩;exact q
def Jm {d:Nat} (l:List (Ro d)) (k:Nat):List ByteArray:=(List.range (k-1)).map (λj=>Gr l (j+1))
def Mg (d:Nat) (l:List (Ro d)) (n k:Nat):List Int:=(List.range k).map (λj=>((n+1+AO d l j:Nat):Int))
theorem Pw (l:List (Ro d)) (k:Nat) (h:0<k):Jm l (k+1)=Jm l k++[Gr l k]:=by unfold Jm;obtain⟨j,rfl⟩:∃j,k=j+1:=⟨k-1,by omega⟩;simp[List.range_succ]
theorem LC (d:Nat) (l:List (Ro d)) (n k:Nat):Mg d l n (k+1)=Mg d l n k++[((n+1+AO d l k:Nat):Int)]:=by unfold Mg;simp[List.range_succ]
theorem Pq {n:Nat} {l:List (Ro d)} {c : Nat->Tn} (q:0<l.length) (h:∀j (h:j<l.length),Am c 0 d l[j] (n+1+AO d l j)) (e b:Nat) (a:e=(Jm l l.length).length) (g:b=l.length):Am (λi=>if i=n then Em e (Jm l l.length) b (Mg d l n l.length) ((l.flatMap (Ab d)).length:Int) else c i) 0 (d+1) (.inr l) n:=by
 have f:(Jm l l.length).length=l.length-1:=by simp[Jm]
 refine⟨by simp[Em],by simp[Em,g],by simp[Em],by simp[Em];omega,λk a=>?_,λk a=>?_,λk a=>?_⟩;.simp[Em];unfold Mg gi;rw[Uw,UM,List.getElem?_range a];simp
 .simp[Em];unfold Jm gt;rw[Uw,UM,List.getElem?_range (by omega)];simp only[Option.map_some,Option.getD_some];rw[Fp (by omega)];rfl
 .refine Am.congr (λi p m=>?_) (h k a);have:i≠n:=by omega
  simp only[this,if_false];exact⟨rfl,rfl,rfl,rfl,λ_ _=>rfl,λ_ _=>rfl⟩
theorem Jr (d b:Nat) (l:List (Ro d)) (S:Nat->Prop) (w:World) (h0:AP S w (d+1) (.inr l) (.iface 174 (pt b))) (h:Nat) (a7:∀t,t∈l->Aq d false t h) (B n rc:Nat) (ra:Option Addr) (N:Nat->Tn) (KA DA:Nat->Option Addr) (KC DC:Nat->Nat) (hg:GT w B (.slice ra n rc) n N KA DA KC DC) (hB:B<=w.heap.size) (a6:∀x,S x->x<B) (cg:l.length<=1000) (hn:n+Ac (d+1) (.inr l)<=100000)
  (ih:∀k (hk:k<l.length) (u:Value) (wr:World) (m a : Nat) (f : Option Addr) (F : Nat->Tn) (s r : Nat->Option Addr) (G H : Nat->Nat),AP S wr d l[k] u->GT wr B (.slice f m a) m F s r G H->B<=wr.heap.size->m+Ac d l[k]<=100000->LQ u (.slice f m a) wr (C5 wr B (.slice f m a) m F s r (Ac d l[k]) (λN2=>Am N2 0 d l[k] m))) :
  UO 191 #[pt b,.slice ra n rc] w (C5 w B (.slice ra n rc) n N KA DA (Ac (d+1) (.inr l)) (λF=>Am F 0 (d+1) (.inr l) n)):=by
 obtain⟨b',g,o,kc,xs,e,cm,hx,⟨bp,c4⟩,⟨dg,b8⟩,ci,bl,bu⟩:=h0;injection e with _ e;injection e with e;injection e with e;injection e with e;subst e;obtain⟨ln,a4⟩:∃ln,ln=l.length:=⟨_,rfl⟩;obtain⟨C,hC⟩:∃C:Int,C=((l.flatMap (Ab d)).length:Int):=⟨_,rfl⟩;have aa:U (ln=l.length/\C=((l.flatMap (Ab d)).length:Int)):=⟨a4,hC⟩;rw[<- a4,<- hC] at hx;rw[<- a4] at b8 ci cg;have HX:U (Bx w b 179 #[iv C,.slice (some (ad g o)) ln kc]):=hx;have HK:U (∀W,Below B w W->∀k (h:k<l.length),∃u,W.cell? (ad g (o+k))=some u/\AP S W d l[k] u):=by intro W hW k hk;obtain⟨u,q1,q2⟩:=bu k hk;exact⟨u,(hW.cell (p:=(ad g (o+k))) (a6 g bp)).trans (bl k u q1),AP.keep hW.size (λx hx _=>⟨hx,hW.block x (a6 x hx)⟩) q2⟩
 have HG:U (GT w B (.slice ra n rc) n N KA DA KC DC):=hg;have O:U ((∀t,t∈l->Aq d false t h)/\n+Ac (d+1) (.inr l)<=100000):=⟨a7,hn⟩;have a2:U (∀k (hk:k<l.length) (u:Value) (wr:World) (m a : Nat) (f : Option Addr) (F : Nat->Tn) (s r : Nat->Option Addr) (G H : Nat->Nat),AP S wr d l[k] u->GT wr B (.slice f m a) m F s r G H->B<=wr.heap.size->m+Ac d l[k]<=100000->LQ u (.slice f m a) wr (C5 wr B (.slice f m a) m F s r (Ac d l[k]) (λN2=>Am N2 0 d l[k] m))):=ih;have ak:U (∀W:World,w.grownBy W (Value.slice ra n rc).ownBlock->Below B w W):=λW hW=>(Up B w).grown hW hB (λg e=>(Ah hg.row g e).1);have b9:b<B:=a6 b cm;have ac:g<B:=a6 g bp;have c8:n<=100000:=by omega
 obtain⟨i1,bn,bq,bt,b4⟩:=info_parts info168;have a3:U (prog.info? 168=some i1/\i1.zero=some (.agg #[.bool false,.slice none 0 0,.slice none 0 0,iv 0])/\i1.size=4/\i1.bytes=64):=⟨bn,bq,bt,b4⟩;obtain⟨i2,b7,ce,cb,bx⟩:=info_parts info2;have ae:U (prog.info? 2=some i2/\i2.zero=some (iv 0)/\i2.size=1/\i2.bytes=8):=⟨b7,ce,cb,bx⟩;have HO:U ((w.alloc (.cells #[.bool false,.slice none 0 0,.slice none 0 0,iv 0] 168)).ownsRow B 168 4 (.slice ra n rc) n ((List.range (n*4)).map (Bi N KA DA KC DC))):=Ag hg.row (Aa _ _);have bm:U (∀j u,[Value.bool false,.slice none 0 0,.slice none 0 0,iv 0][j]?=some u->(w.alloc (.cells #[.bool false,.slice none 0 0,.slice none 0 0,iv 0] 168)).cell? (ad w.heap.size j)=some u):=λj u hj=>by rw[(Bx.new w #[.bool false,.slice none 0 0,.slice none 0 0,iv 0] 168).cell j];simpa using hj
 clear hx bl bu hg a7 hn ih a4 hC bn bq bt b4 b7 ce cb bx;go_enter func191,ntmps191;go_wp2_with (at_builtin;refine wpList_append_own_at _ rfl _ _ 57 rfl B 168 i1 _ 4 64 underlying57 a3.o.1 a3.o.2.1 a3.o.2.2.1 a3.o.2.2.2 rfl (by decide) (.slice ra n rc) n _ rfl HO.o (ad w.heap.size 0) 1 1 [.bool false,.slice none 0 0,.slice none 0 0,iv 0] rfl rfl (λj u hj=>by rw[Addr.add_lit,UI];exact bm.o j u hj) (by intro u hu;simp at hu;rcases hu with rfl|rfl|rfl <;> rfl) (by unfold maxLen;omega) (by omega) (by simp;omega) ?_)
 intro v1 w1 bg b0 _ ba;obtain⟨a1,c1,e1,_⟩:=Af bg;subst e1;have bs:U (C5 w B (.slice ra n rc) n N KA DA 1 (λF=>(F n).kn=0/\(F n).dn=0) (.returned (.slice a1 (n+1) c1)) w1):=GT.more HG.o hB (Up _ _) ⟨false,0,λ_=>{ data:=#[] },0,λ_=>0,0⟩ none none 0 0 (.inl rfl) (.inl rfl) bg b0 (by simpa using ba) (by simp);clear bg b0 ba HO bm;obtain⟨db,N1,br,cd,cf,bw,e1,q1,q2,q3,q4,q5,q6⟩:=bs.o;injection e1 with e1;subst e1;have ca:U (Below B w w1):=ak.o w1 q2;have x0:w1.cell? (ad b 0)=some (iv C):=(ca.o.cell (p:=(ad b 0)) b9).trans (by simpa using HX.o.cell 0);have x1:w1.cell? (ad b 1)=some (.slice (some (ad g o)) ln kc):=(ca.o.cell (p:=(ad b 1)) b9).trans (by simpa using HX.o.cell 1);have xz:b<w1.heap.size:=Uo _ _ x0;have S1:U (Dd w (w1.alloc (.cells #[.bool false,.slice none 0 0,.slice none 0 0,iv C] 168)) B n (n+1) (.slice ra n rc) (.slice a1 (n+1) c1) N KA DA N1 br cd cf bw w1.heap.size C none 0 0 none 0 0 [] []):=by have g2:=q2.size;refine⟨q1.below (Aa _ _),q4,q5,⟨q6.1,q6.2,by omega⟩,Bx.new _ _ _,⟨g2,λu=>by have:=(q1.used u).2;omega⟩,⟨⟨rfl,.inl ⟨rfl,rfl⟩⟩,rfl⟩,⟨⟨rfl,.inl ⟨rfl,rfl⟩⟩,rfl⟩,λg e=>(by cases e),λg e=>(by cases e),?_,q3⟩;exact⟨q2.os,q2.tape,q2.output,by simp;omega,λk hk cl=>((Aa w1 _).block k (by omega)).trans (q2.block k hk cl)⟩
 have b1:U (UO 157 #[pt b] w1 λe w'=>e=.returned (iv C)/\w'=w1):=BK b C w1 x0;clear q1 q2 q3 q4 q5 q6 bs;go_wp2_with fail
 (with_reducible refine b1.o.mono ?_)
 rintro e w2 ⟨rfl,ck⟩;subst ck;obtain⟨E,bf⟩:∃E,E=w2.heap.size:=⟨_,rfl⟩;have dd:U (E=w2.heap.size):=bf;go_wp2;rw[<- bf] at S1 ⊢;generalize (w2.alloc (.cells #[.bool false,.slice none 0 0,.slice none 0 0,iv C] 168))=W3 at S1 ⊢;clear bf;go_loopw [1,25] (λq i wr=>∃(k m J I dc a : Nat) (f ka da:Option Addr) (F : Nat->Tn) (s r : Nat->Option Addr) (G H : Nat->Nat),k<=ln/\i=iv k/\q=.slice f m a/\m=n+1+AO d l k/\Dd w wr B n m (.slice ra n rc) (.slice f m a) N KA DA F s r G H E C ka J I da k dc (Jm l k) (Mg d l n k)/\∀j (h:j<l.length),j<k->Am F 0 d l[j] (n+1+AO d l j)) (λ_ i _=>ln-(intOf i).toNat)
 case atStart=>exact⟨0,n+1,0,0,0,c1,a1,none,none,N1,br,cd,cf,bw,Us _,rfl,rfl,by rw[CA],S1.o,λj _ hj=>absurd hj (Uu _)⟩
 case round=>
  obtain⟨k,m,J,I,dc,a,f,ka,da,F,s,r,G,H,hk,rfl,rfl,hm,Z,b6⟩:=hrel;clear S1 b1 x0 x1 xz;have M:U (m=n+1+AO d l k/\Dd w wr B n m (.slice ra n rc) (.slice f m a) N KA DA F s r G H E C ka J I da k dc (Jm l k) (Mg d l n k)/\∀j (h:j<l.length),j<k->Am F 0 d l[j] (n+1+AO d l j)):=⟨hm,Z,b6⟩;have al:U (Below B w wr/\B<=wr.heap.size):=⟨ak.o wr Z.fr,Uy hB Z.fr.size⟩;have t0:=Z.box.cell 0;have t1:=Z.box.cell 1;have t2:=Z.box.cell 2;have t3:=Z.box.cell 3;simp at t0 t1 t2 t3;have tz:=Z.box.lt;have tf:=λi=>Z.box.frozen i;have c2:m<=100000:=by have q:Ac (d+1) (.inr l)=1+(l.map (Ac d)).sum:=rfl;have:=O.o.2;have:=CQ d l (show k<=l.length by rw[<- aa.o.1];exact hk) (Uq _);rw[BT] at this;omega
  clear hm Z b6;by_cases cq:k<ln
  .have y:k<l.length:=by rw[<- aa.o.1];exact cq
   obtain⟨u,cu,bj⟩:=HK.o wr al.o.1 k y;have b3:U (AP S wr d l[k] u):=bj;have j0:(0:Int)<=(k:Int):=by omega
   have j1:(k:Int)<(ln:Int):=by omega
   obtain⟨bb,_,_,_,bz⟩:=bj.count;have a0:(∃kb,u=.iface 204 (pt kb))\/(∃kb,u=.iface 174 (pt kb)):=by
    rcases bz with h|h;.exact .inl ⟨_,h⟩
    .exact .inr ⟨_,h⟩
   clear bj bz;by_cases bv:k=0
   .rcases a0 with ⟨kb,rfl⟩|⟨kb,rfl⟩;have mk:=Us 0;rotate_left;have mk:=Us 1;rotate_left;all_goals
     have cs:U (k=0):=bv
     have kz:¬ (0:Int)<(k:Int):=by omega
     have c0:decide ((0:Int)<(k:Int))=false:=decide_eq_false kz
     clear bv
     have ap:U ((wr.alloc (.cells #[iv (m:Int)] 2)).ownsRow B 2 1 (.slice da k dc) k (Cp (Mg d l n k))):=Ag M.o.2.1.own2.1 (Aa _ _)
     have cx:B<=wr.heap.size:=Uy hB M.o.2.1.fr.size
     go_wp2_with (at_builtin;refine wpList_append_own_at _ rfl _ _ 151 rfl B 2 i2 _ 1 8 underlying151 ae.o.1 ae.o.2.1 ae.o.2.2.1 ae.o.2.2.2 rfl (by decide) (.slice da k dc) k _ rfl ap.o (ad wr.heap.size 0) 1 1 [iv (m:Int)] rfl rfl (cell_one_new _ _ _) (by intro u hu;simp at hu;subst hu;rfl) (by unfold maxLen;omega) (by omega) (by simp;omega) ?_)
     intro v9 w9 aj an _ ab
     obtain⟨X,Y,e9,_⟩:=Af aj
     subst e9
     have T:U (Dd w (w9.setCell (ad E 2) (.slice X (k+1) Y)) B n m (.slice ra n rc) (.slice f m a) N KA DA F s r G H E C ka J I X (k+1) Y (Jm l k) (Mg d l n (k+1))/\Bx w9 E 168 #[.bool false,.slice ka J I,.slice da k dc,iv C]):=by
      have q:=Dd.kid M.o.2.1 (Aa _ _) aj an (by simpa using ab)
      rw[LC,<- M.o.1]
      exact q
     have s2:=T.o.2.cell 2
     simp at s2
     have sz:=T.o.2.lt
     have sf:=λi=>T.o.2.frozen i
     first
      | focus
       have:=(mk:0<=0)
       have HC:U (UO 209 #[pt kb,.slice f m a] (w9.setCell (ad E 2) (.slice X (k+1) Y)) (C5 (w9.setCell (ad E 2) (.slice X (k+1) Y)) B (.slice f m a) m F s r (Ac d l[k]) (λN2=>Am N2 0 d l[k] m))):=by
        have R:=ak.o _ T.o.1.fr
        obtain⟨u',z,D⟩:=HK.o _ R k y
        have eu:u'=.iface 204 (pt kb):=by
         have q:(w9.setCell (ad E 2) (.slice X (k+1) Y)).cell? (ad g (o+k))=wr.cell? (ad g (o+k)):=(R.cell (p:=(ad g (o+k))) ac).trans (al.o.1.cell (p:=(ad g (o+k))) ac).symm
         rw[q,cu] at z
         injection z with z
         exact z.symm
        rw[eu] at D
        have ag:=a2.o k y _ _ m a f F s r G H D T.o.1.gt (Uy hB T.o.1.fr.size) (by
         have q:Ac (d+1) (.inr l)=1+(l.map (Ac d)).sum:=rfl
         have:=O.o.2
         have:=CX d l k y
         have:=M.o.1
         omega)
        exact FP ag
      | focus
       have HC:U (UO 191 #[pt kb,.slice f m a] (w9.setCell (ad E 2) (.slice X (k+1) Y)) (C5 (w9.setCell (ad E 2) (.slice X (k+1) Y)) B (.slice f m a) m F s r (Ac d l[k]) (λN2=>Am N2 0 d l[k] m))):=by
        have R:=ak.o _ T.o.1.fr
        obtain⟨u',z,D⟩:=HK.o _ R k y
        have eu:u'=.iface 174 (pt kb):=by
         have q:(w9.setCell (ad E 2) (.slice X (k+1) Y)).cell? (ad g (o+k))=wr.cell? (ad g (o+k)):=(R.cell (p:=(ad g (o+k))) ac).trans (al.o.1.cell (p:=(ad g (o+k))) ac).symm
         rw[q,cu] at z
         injection z with z
         exact z.symm
        rw[eu] at D
        have ag:=a2.o k y _ _ m a f F s r G H D T.o.1.gt (Uy hB T.o.1.fr.size) (by
         have q:Ac (d+1) (.inr l)=1+(l.map (Ac d)).sum:=rfl
         have:=O.o.2
         have:=CX d l k y
         have:=M.o.1
         omega)
        exact Fi ag
     clear aj an ab ap t0 t1 t2 t3 tf cu
     go_wp2_with fail
     (with_reducible refine HC.o.mono ?_)
     intro e be hr
     obtain⟨q2,N2,av,am,ax,az,e2,ah,af,au⟩:=Dd.told T.o.1 hr
     obtain⟨ao,aq,bd,_⟩:=Af ah.gt.row
     subst bd
     subst e2
     have HE:U (m+Ac d l[k]=n+1+AO d l (k+1)/\Dd w be B n (m+Ac d l[k]) (.slice ra n rc) (.slice ao (m+Ac d l[k]) aq) N KA DA N2 av am ax az E C ka J I X (k+1) Y (Jm l k) (Mg d l n (k+1))/\∀j (h:j<l.length),j<k+1->Am N2 0 d l[j] (n+1+AO d l j)):=by
      have hm:=M.o.1
      refine⟨by rw[Bc d l k y];omega,ah,λj hj ct=>?_⟩
      by_cases e:j=k
      .subst e
       rw[<- hm]
       exact au
      .refine Am.congr (λi h1 h2=>?_) (M.o.2.2 j hj (by omega))
       have q1:=Bc d l j hj
       have q2:=CQ d l (show j+1<=k by omega) (by omega)
       rw[af i (by omega)]
       exact⟨rfl,rfl,rfl,rfl,λ_ _=>rfl,λ_ _=>rfl⟩
     obtain⟨m2,aw⟩:∃m2,m2=m+Ac d l[k]:=⟨_,rfl⟩
     rw[<- aw] at HE ⊢
     clear ah af au hr HC s2 sz sf aw T
     go_wp2
     go_roundw
     case rel=>exact⟨k+1,m2,_,_,Y,aq,ao,_,X,N2,av,am,ax,az,by omega,by go_num,rfl,HE.o.1,(by rw[show Jm l (k+1)=Jm l k by rw[cs.o];rfl];exact HE.o.2.1),HE.o.2.2⟩
     case measure=>simp[intOf];omega
   .rcases a0 with ⟨kb,rfl⟩|⟨kb,rfl⟩;have mk:=Us 0;rotate_left;have mk:=Us 1;rotate_left;all_goals
     have kz:(0:Int)<(k:Int):=by omega
     first
      | focus
       have:=(mk:0<=0)
       have bk:U (UO 205 #[pt kb] wr.drew λe w'=>e=.returned (.string (Gr l k))/\w'=wr.drew):=by
        have ay:=MT (b3.o.below (Up _ _).drew) (O.o.1 _ (UA y))
        rw[<- Fp y] at ay
        exact Mv ay
      | focus
       have bk:U (UO 188 #[pt kb] wr.drew λe w'=>e=.returned (.string (Gr l k))/\w'=wr.drew):=by
        have ay:=MT (b3.o.below (Up _ _).drew) (O.o.1 _ (UA y))
        rw[<- Fp y] at ay
        exact LV ay
     have bo:U ((wr.alloc (.cells #[.string (Gr l k)] 9)).drew.ownsRow B 9 1 (.slice ka J I) J (Ap (Jm l k))):=Ag M.o.2.1.own1.1 (Aa _ _).drew
     have bh:wr.drew.cell? (ad E 1)=some (.slice ka J I):=t1
     go_upto_region 8 with fail
     refine Aj (S:=λw'=>w'.cell? (ad E 1)=some (.slice ka J I)) 7 (by kernel_rfl) bh (λv=>?_)
     refine tZ 0 rfl ?_
     refine tZ 1 rfl ?_
     refine tZ 2 rfl ?_
     refine At 3 rfl (λK hK=>?_)
     first
      | refine Lr (by rfl) 205 34 _ 204 (pt kb) (by rfl) (by rfl) (λ_=>by kernel_rfl) (λ_ _=>by rfl) ?_
      | refine Lr (by rfl) 188 34 _ 174 (pt kb) (by rfl) (by rfl) (λ_=>by kernel_rfl) (λ_ _=>by rfl) ?_
     (with_reducible refine bk.o.mono ?_)
     rintro e w4 ⟨rfl,ch⟩
     subst ch
     refine⟨_,rfl,?_⟩
     refine tL hK (by exact bh) ?_
     clear hK K v
     intro v
     try simp only[Ay]
     refine At 4 rfl (λK hK=>?_)
     go_simp
     refine tL hK (by exact ((Aa wr _).drew.cell (p:=(ad E 1)) tz).trans t1) ?_
     clear hK K v
     intro v
     try simp only[Ay]
     refine At 5 rfl (λK hK=>?_)
     refine EU (by rfl) (.tmp 33) (.tmp 36) (by rfl) B (.slice ka J I) J (Ap (Jm l k)) (by rfl) bo.o (ad wr.heap.size 0) (Gr l k) (by rfl) (by rw[Addr.add_lit];exact (Bx.new wr #[.string (Gr l k)] 9).drew.cell 0) (by have:=M.o.2.1.own1.2;simp[Jm] at this;omega) (by have:=al.o.2;show B<=(wr.alloc _).heap.size;simp;omega) ?_
     intro v5 w5 bi b5 bc
     obtain⟨a5,c5,e5,_⟩:=Af bi
     subst e5
     have H8:U (Dd w (w5.setCell (ad E 1) (.slice a5 (J+1) c5)) B n m (.slice ra n rc) (.slice f m a) N KA DA F s r G H E C a5 (J+1) c5 da k dc (Jm l (k+1)) (Mg d l n k)/\Bx w5 E 168 #[.bool false,.slice ka J I,.slice da k dc,iv C]):=by
      have q:=Dd.key M.o.2.1 (Aa _ _).drew bi b5 bc
      rw[Pw l k (by omega)]
      exact q
     have s1:=H8.o.2.cell 1
     simp at s1
     have cv:=H8.o.2.lt
     have cp:=λi=>H8.o.2.frozen i
     clear bi b5 bc
     refine tL hK (by exact s1) ?_
     clear hK K v
     intro v
     try simp only[Ay]
     refine At 6 rfl (λK hK=>?_)
     go_simp
     refine tL hK (by exact v) ?_
     clear hK K v
     intro v
     try simp only[Ay]
     refine At 7 rfl (λK hK=>?_)
     go_simp
     refine tM hK ?_
     clear hK K
     have V:U (Dd w (w5.setCell (ad E 1) (.slice a5 (J+1) c5)) B n m (.slice ra n rc) (.slice f m a) N KA DA F s r G H E C a5 (J+1) c5 da k dc (Jm l (k+1)) (Mg d l n k)):=H8.o.1
     clear v s1 cv cp bh t0 t1 t2 t3 tf tz H8 bo bk
     generalize w5.setCell (ad E 1) (.slice a5 (J+1) c5)=W8 at V ⊢
     have t0:=V.o.box.cell 0
     have t1:=V.o.box.cell 1
     have t2:=V.o.box.cell 2
     have t3:=V.o.box.cell 3
     simp at t0 t1 t2 t3
     have tz:=V.o.box.lt
     have tf:=λi=>V.o.box.frozen i
     have ap:U ((W8.alloc (.cells #[iv (m:Int)] 2)).ownsRow B 2 1 (.slice da k dc) k (Cp (Mg d l n k))):=Ag V.o.own2.1 (Aa _ _)
     have cx:B<=W8.heap.size:=Uy hB V.o.fr.size
     go_wp2_with (at_builtin;refine wpList_append_own_at _ rfl _ _ 151 rfl B 2 i2 _ 1 8 underlying151 ae.o.1 ae.o.2.1 ae.o.2.2.1 ae.o.2.2.2 rfl (by decide) (.slice da k dc) k _ rfl ap.o (ad W8.heap.size 0) 1 1 [iv (m:Int)] rfl rfl (cell_one_new _ _ _) (by intro u hu;simp at hu;subst hu;rfl) (by unfold maxLen;omega) (by omega) (by simp;omega) ?_)
     intro v9 w9 aj an _ ab
     obtain⟨X,Y,e9,_⟩:=Af aj
     subst e9
     have T:U (Dd w (w9.setCell (ad E 2) (.slice X (k+1) Y)) B n m (.slice ra n rc) (.slice f m a) N KA DA F s r G H E C a5 (J+1) c5 X (k+1) Y (Jm l (k+1)) (Mg d l n (k+1))/\Bx w9 E 168 #[.bool false,.slice a5 (J+1) c5,.slice da k dc,iv C]):=by
      have q:=Dd.kid V.o (Aa _ _) aj an (by simpa using ab)
      rw[LC,<- M.o.1]
      exact q
     have s2:=T.o.2.cell 2
     simp at s2
     have sz:=T.o.2.lt
     have sf:=λi=>T.o.2.frozen i
     first
      | focus
       have:=(mk:0<=0)
       have HC:U (UO 209 #[pt kb,.slice f m a] (w9.setCell (ad E 2) (.slice X (k+1) Y)) (C5 (w9.setCell (ad E 2) (.slice X (k+1) Y)) B (.slice f m a) m F s r (Ac d l[k]) (λN2=>Am N2 0 d l[k] m))):=by
        have R:=ak.o _ T.o.1.fr
        obtain⟨u',z,D⟩:=HK.o _ R k y
        have eu:u'=.iface 204 (pt kb):=by
         have q:(w9.setCell (ad E 2) (.slice X (k+1) Y)).cell? (ad g (o+k))=wr.cell? (ad g (o+k)):=(R.cell (p:=(ad g (o+k))) ac).trans (al.o.1.cell (p:=(ad g (o+k))) ac).symm
         rw[q,cu] at z
         injection z with z
         exact z.symm
        rw[eu] at D
        have ag:=a2.o k y _ _ m a f F s r G H D T.o.1.gt (Uy hB T.o.1.fr.size) (by
         have q:Ac (d+1) (.inr l)=1+(l.map (Ac d)).sum:=rfl
         have:=O.o.2
         have:=CX d l k y
         have:=M.o.1
         omega)
        exact FP ag
      | focus
       have HC:U (UO 191 #[pt kb,.slice f m a] (w9.setCell (ad E 2) (.slice X (k+1) Y)) (C5 (w9.setCell (ad E 2) (.slice X (k+1) Y)) B (.slice f m a) m F s r (Ac d l[k]) (λN2=>Am N2 0 d l[k] m))):=by
        have R:=ak.o _ T.o.1.fr
        obtain⟨u',z,D⟩:=HK.o _ R k y
        have eu:u'=.iface 174 (pt kb):=by
         have q:(w9.setCell (ad E 2) (.slice X (k+1) Y)).cell? (ad g (o+k))=wr.cell? (ad g (o+k)):=(R.cell (p:=(ad g (o+k))) ac).trans (al.o.1.cell (p:=(ad g (o+k))) ac).symm
         rw[q,cu] at z
         injection z with z
         exact z.symm
        rw[eu] at D
        have ag:=a2.o k y _ _ m a f F s r G H D T.o.1.gt (Uy hB T.o.1.fr.size) (by
         have q:Ac (d+1) (.inr l)=1+(l.map (Ac d)).sum:=rfl
         have:=O.o.2
         have:=CX d l k y
         have:=M.o.1
         omega)
        exact Fi ag
     clear aj an ab ap t0 t1 t2 t3 tf cu
     go_wp2_with fail
     (with_reducible refine HC.o.mono ?_)
     intro e be hr
     obtain⟨q2,N2,av,am,ax,az,e2,ah,af,au⟩:=Dd.told T.o.1 hr
     obtain⟨ao,aq,bd,_⟩:=Af ah.gt.row
     subst bd
     subst e2
     have HE:U (m+Ac d l[k]=n+1+AO d l (k+1)/\Dd w be B n (m+Ac d l[k]) (.slice ra n rc) (.slice ao (m+Ac d l[k]) aq) N KA DA N2 av am ax az E C a5 (J+1) c5 X (k+1) Y (Jm l (k+1)) (Mg d l n (k+1))/\∀j (h:j<l.length),j<k+1->Am N2 0 d l[j] (n+1+AO d l j)):=by
      have hm:=M.o.1
      refine⟨by rw[Bc d l k y];omega,ah,λj hj ct=>?_⟩
      by_cases e:j=k
      .subst e
       rw[<- hm]
       exact au
      .refine Am.congr (λi h1 h2=>?_) (M.o.2.2 j hj (by omega))
       have q1:=Bc d l j hj
       have q2:=CQ d l (show j+1<=k by omega) (by omega)
       rw[af i (by omega)]
       exact⟨rfl,rfl,rfl,rfl,λ_ _=>rfl,λ_ _=>rfl⟩
     obtain⟨m2,aw⟩:∃m2,m2=m+Ac d l[k]:=⟨_,rfl⟩
     rw[<- aw] at HE ⊢
     clear ah af au hr HC s2 sz sf aw T
     go_wp2
     go_roundw
     case rel=>exact⟨k+1,m2,_,_,Y,aq,ao,_,X,N2,av,am,ax,az,by omega,by go_num,rfl,HE.o.1,HE.o.2.1,HE.o.2.2⟩
     case measure=>simp[intOf];omega
  .have e:k=ln:=by omega
   subst e;obtain⟨ar,cr,er,cw⟩:=Af M.o.2.1.gt.row;injection er with cj _ cn;subst cj cn;obtain⟨gr,rfl,cz,cy,a8⟩:=cw (by have:=M.o.1;omega);have c3:n<m:=M.o.2.1.zero.2.2;have rr:∀j,j<m*4->wr.cell? (ad gr j)=some (Bi F s r G H j):=λj hj=>a8 j _ (by simp[hj]);have r0:=rr (n*4) (by omega);have r1:=rr (n*4+1) (by omega);have r2:=rr (n*4+2) (by omega);have r3:=rr (n*4+3) (by omega);have rf:∀j,wr.frozen? (ad gr j)=false:=by
    intro j;rcases M.o.2.1.gt.row.2 with ⟨q,_⟩|⟨g',df,co,q1,q2,q3,_⟩;.cases q
    .injection q1 with q1;injection q1 with q1;injection q1 with q1;subst q1;exact (show Bx wr gr 168 co from q3).frozen j
   have c7:(0:Int)<=(n:Int):=by omega
   have c6:(n:Int)<(m:Int):=by omega
   have b2:U (C5 w B (.slice ra n rc) n N KA DA (Ac (d+1) (.inr l)) (λF=>Am F 0 (d+1) (.inr l) n) (.returned (.slice (some (ad gr 0)) m a)) ((((wr.setCell (ad gr (n*4)) (.bool false)).setCell (ad gr (n*4+1)) (.slice ka J I)).setCell (ad gr (n*4+2)) (.slice da k dc)).setCell (ad gr (n*4+3)) (iv C))):=by have de:=aa.o.1;have st:=M.o.2.1;have hm:=M.o.1;rw[aa.o.1] at hm;rw[aa.o.1,aa.o.2] at st;have cc:J=(Jm l l.length).length:=st.own1.2;have:=Pf st (P:=λF=>Am F 0 (d+1) (.inr l) n) (Pq (by omega) (λj hj=>M.o.2.2 j hj (by omega)) J l.length cc rfl) (c:=Ac (d+1) (.inr l)) (by rw[hm,BT];show n+1+_=n+(1+_);omega);rw[<- aa.o.1,<- aa.o.2] at this;exact this
   clear rr a8;go_wp2;go_ret;exact b2.o
theorem RH:∀(d:Nat) (t:Ro d) (v:Value) (S:Nat->Prop) (w:World) (a:Bool) (h B n j:Nat) (e:Option Addr) (N:Nat->Tn) (p q:Nat->Option Addr) (s r:Nat->Nat),AP S w d t v->Aq d a t h->GT w B (.slice e n j) n N p q s r->B<=w.heap.size->(∀x,S x->x<B)->n+Ac d t<=100000->LQ v (.slice e n j) w (C5 w B (.slice e n j) n N p q (Ac d t) (λE=>Am E 0 d t n))
 | 0,t,_,_,_,_,_,_,_,_,_,_,_,_,_,_,ht,_,_,_,_,_=>ht.elim
 | d+1,.inl L,v,S,w,a,h,B,n,j,e,N,p,q,s,r,ht,hb,hg,hB,hS,hn=>by
  have f:=ht
  obtain⟨b,T,M,rfl,_⟩:=f
  exact .inl ⟨b,rfl,Kr d b L S w ht B n j e N p q s r hg hB (by have:=hb.2.1;omega) (by omega)⟩
 | d+1,.inr l,v,S,w,a,h,B,n,j,e,N,p,q,s,r,ht,hb,hg,hB,hS,hn=>by
  have f:=ht
  obtain⟨b,g,o,M,U,rfl,_⟩:=f
  obtain⟨V,R,H,_,c⟩:=hb
  exact .inr ⟨b,rfl,Jr d b l S w ht H c B n j e N p q s r hg hB hS (by omega) hn (λk O u wr m F z E y C D G P K I J=>RH d l[k] u S wr false H B m F z E y C D G P (c _ (UA O)) K I hS J)⟩
def MY:(d e:Nat)->Ro d->Ro e->Prop
 | d+1,e+1,.inl L,.inl L'=>L=L'
 | d+1,e+1,.inr l,.inr l'=>l.length=l'.length/\∀k (h:k<l.length) (h' : k<l'.length),MY d e l[k] l'[k]
 | _,_,_,_=>False
theorem MY.nodes:∀{d e:Nat} {t:Ro d} {t' : Ro e},MY d e t t'->Ac d t=Ac e t'
 | 0,_,t,_,_=>t.elim
 | _+1,0,_,t',_=>t'.elim
 | d+1,e+1,.inl L,.inl L',h=>rfl
 | d+1,e+1,.inr l,.inr l',h=>by
  have q:=G7 (λj b a=>MY.nodes (h.2 j b a)) l.length (Uq _) (by rw[h.1];exact Uq _)
  rw[BT] at q
  rw[h.1,BT] at q
  show 1+_=1+_
  rw[q]
 | d+1,e+1,.inl L,.inr l',h=>h.elim
 | d+1,e+1,.inr L,.inl l',h=>h.elim
theorem MY.keys:∀{d e:Nat} {t:Ro d} {t' : Ro e},MY d e t t'->Ab d t=Ab e t'
 | 0,_,t,_,_=>t.elim
 | _+1,0,_,t',_=>t'.elim
 | d+1,e+1,.inl L,.inl L',h=>h
 | d+1,e+1,.inr l,.inr l',h=>F2 (Ab d) (Ab e) l l' h.1 (λk a b=>MY.keys (h.2 k a b))
 | d+1,e+1,.inl L,.inr l',h=>h.elim
 | d+1,e+1,.inr L,.inl l',h=>h.elim
theorem Mo {N:Nat->Tn}:∀{d e:Nat} {t:Ro d} {t' : Ro e} {x:Nat},Am N 0 d t x->Am N 0 e t' x->MY d e t t'
 | 0,_,t,_,_,_,_=>t.elim
 | _+1,0,_,t',_,_,_=>t'.elim
 | d+1,e+1,.inl L,.inl L',x,h,h'=>by
  show L=L'
  obtain⟨_,c,u,_⟩:=h
  obtain⟨_,z,p,_⟩:=h'
  apply List.ext_getElem (by omega)
  intro i a n
  have b:=u i a
  rw[p i n] at b
  unfold gt at b
  rw[Uw,Uw,Ut a,Ut n] at b
  exact b.symm
 | d+1,e+1,.inl L,.inr l',x,h,h'=>by
  have q:=h.1
  rw[h'.1] at q
  cases q
 | d+1,e+1,.inr l,.inl L',x,h,h'=>by
  have q:=h.1
  rw[h'.1] at q
  cases q
 | d+1,e+1,.inr l,.inr l',x,h,h'=>by
  have s:l.length=l'.length:=h.2.1.symm.trans h'.2.1
  have v:=h.2.2.2.2.2.2
  have r:=h'.2.2.2.2.2.2
  have f:∀k,k<=l.length->AO d l k=AO e l' k/\∀j (h:j<l.length) (h' : j<l'.length),j<k->MY d e l[j] l'[j]:=by
   intro k
   induction k with
   | zero=>intro _;exact⟨by rw[CA,CA],λj _ _ m=>absurd m (Uu _)⟩
   | succ k ih=>
    intro B
    obtain⟨b,y⟩:=ih (by omega)
    have g:MY d e (l[k]'(by omega)) (l'[k]'(by omega)):=Mo (v k (by omega)) (by rw[b];exact r k (by omega))
    refine⟨by rw[Bc d l k (by omega),Bc e l' k (by omega),b,g.nodes],λj a c m=>?_⟩
    by_cases e:j=k
    .subst e;exact g
    .exact y j a c (by omega)
  exact⟨s,λk a c=>(f l.length (Uq _)).2 k a c a⟩
theorem MY.tow {B:Nat} {w:World}:∀{d e:Nat} {t:Ro d} {t' : Ro e} {v:Value} {bs:List Nat},MY d e t t'->CG B w d t v bs->CG B w e t' v bs
 | 0,_,t,_,_,_,_,_=>t.elim
 | _+1,0,_,t',_,_,_,_=>t'.elim
 | d+1,e+1,.inl L,.inl L',v,bs,h,ho=>by
  have y : L=L':=h
  subst y
  exact ho
 | d+1,e+1,.inr l,.inr l',v,bs,h,ho=>by
  have j:=MY.keys (d:=d+1) (e:=e+1) (t:=.inr l) (t':=.inr l') h
  have n : l.flatMap (Ab d)=l'.flatMap (Ab e):=j
  obtain⟨b,g,z,C,m,rfl,D,p,q,r,c,rfl,f⟩:=ho
  have a:=h.1
  rw[n,a] at p
  rw[a] at q r c
  refine⟨b,g,z,C,m,rfl,D,p,q,r,c,rfl,λk j=>?_⟩
  obtain⟨u,F,E,s,G⟩:=f k (by omega)
  exact⟨u,F,E,s,MY.tow (h.2 k (by omega) j) G⟩
 | d+1,e+1,.inl L,.inr l',_,_,h,_=>h.elim
 | d+1,e+1,.inr L,.inl l',_,_,h,_=>h.elim
variable {Q:Exit->Act->World->Prop}{act:Act}{o:Oper}{rest:List Oper}
def Hp (w:World) (a:Option Addr) (n:Nat) (xs:List Value):Prop:=
 xs.length=n/\(∀u∈xs,u.oneCell'=true)/\(n=0\/∃b o,a=some (ad b o)/\b<w.heap.size/\∀j u,xs[j]?=some u->w.cell? (ad b (o+j))=some u)
theorem Hp.below {w':World} {a:Option Addr} {n:Nat} {xs:List Value} (h:Hp w a n xs) (c:Bl w w'):Hp w' a n xs:=by
 refine⟨h.1,h.2.1,?_⟩;rcases h.2.2 with q|⟨b,o,rfl,f,g⟩;.exact Or.inl q
 .exact Or.inr ⟨b,o,rfl,by have:=c.size;omega,λj u e=>(c.cell (p:=(ad b (o+j))) f).trans (g j u e)⟩
theorem Ek {D:Array Oper} (C:o.guard=none) (s x:Operand)
  (T:o.op=.call { callee:=.builtin .append,args:=#[s,x],argTypes:=#[88,88] })
  (B:Nat) (v:Value) (n:Nat) (xs:List Value) (S:act.eval s=v) (k:w.ownsRow B 9 1 v n xs)
  (a:Option Addr) (m c:Nat) (G:List Value) (U:act.eval x=.slice a m c) (q:Hp w a m G) (aa:n+m<=1048576) (hB:B<=w.heap.size)
  (h:∀F t,t.ownsRow B 9 1 F (n+m) (xs++G)->w.grownBy t v.ownBlock->wpList prog D Q rest (act.put o.dst F) t):wpList prog D Q (o::rest) act w:=by
 obtain⟨M,V,R,H,I⟩:=info_parts info9;obtain⟨Y,z,q⟩:=q;by_cases E:m=0
 .subst E;have hL:=List.length_eq_zero_iff.1 Y;subst hL;have y:Src prog M.size 88 (.slice a 0 c) 0 [] w:=by
   cases a with
   | none=>exact Src.ofNil w underlying88 c
   | some ad=>exact Src.ofSlice w underlying88 ad 0 c [] (by simp) (by simp) (by simp)
  have N:∃b l f,v=.slice b l f/\l<=f:=by
   rcases k.2 with ⟨rfl,rfl⟩|⟨g,f,W,rfl,_,_,z,_⟩;.exact⟨none,0,0,rfl,Uq _⟩
   .exact⟨_,n,f,rfl,z⟩
  obtain⟨b,l,f,O,J⟩:=N;have p:=run_append_nothing (P:=prog) w 88 88 o.type 9 M underlying88 V b l f J (.slice a 0 c) y;rw[<- O] at p;refine wpList_plain C λK hK=>?_;unfold Oper.wp;simp[execOp,T,resolve,invoke,builtin,S,U,p,Result.andThen];exact hK _ _ (h v w (by simpa using k) ⟨rfl,rfl,rfl,Uq _,λ_ _ _=>rfl⟩)
 .rcases q with X|⟨b,r,rfl,_,hc⟩;.exact absurd X E
  .refine wpList_append_own_at w C s x 88 T B 9 M _ 1 16 underlying88 V R H I rfl (by decide) v n xs S k (ad b r) m c G U (by omega) (λj u Z=>?_) z (by unfold maxLen;omega) (by omega) hB (λF t z h2 _ _=>h F t z h2);have e:(Addr.add (ad b r) j)=(ad b (r+j)):=by
    unfold Addr.add;by_cases h:j=0;.subst h;simp
    .simp[h]
   rw[e];exact hc j u Z
theorem Ov (n:Nat) (C:0<n) (D:n<=1000) (w:World) :
  UO 169 #[.slice none 0 0,iv (n:Int)] w λe q=>∃c,e=.returned (.slice (some (ad w.heap.size 0)) 0 c)/\q.ownsRow w.heap.size 9 1 (.slice (some (ad w.heap.size 0)) 0 c) 0 []/\Bl w q:=by
 obtain⟨u,j,k,p,f⟩:=info_parts info9;have g:∀ty,(Builtin.append_ #[88,3] ty #[.slice none 0 0,iv (n:Int)]).run prog w=.ok (.slice (some (ad w.heap.size 0)) n (grownCap w n 0 9)) (w.drew.alloc (.cells (#[]++Builtin.zeroCells (Value.string { data:=#[] }).cells n++Builtin.zeroCells (Value.string { data:=#[] }).cells (grownCap w n 0 9 - n)) 9)):=λty=>by have h:=Lib.run_append_grow_zeros w 88 3 ty 9 u _ .i64 .i64 underlying88 underlying3 j k none 0 0 [] (by simp[run_firstCells_none]) n (by omega) (by omega) (by omega) (by omega) (by rw[f];omega) (by rw[f];exact growslice_fits (by omega) (by omega));simpa using h
 obtain⟨G,l⟩:∃G,G=grownCap w n 0 9:=⟨_,rfl⟩;have v:n<=G:=by rw[l];exact grownCap_ge w _ _ _
 have r:G<=9223372036854775807:=by have:=grownCap_le_maxLen w n 0 9 (by unfold maxLen;omega);rw[<- l] at this;unfold maxLen at this;omega
 rw[<- l] at g;obtain⟨b,a⟩:=gn (#[]++Builtin.zeroCells (Value.string { data:=#[] }).cells n++Builtin.zeroCells (Value.string { data:=#[] }).cells (G-n));rw[<- a] at g;have t:U ((w.drew.alloc (.cells b 9)).ownsRow w.heap.size 9 1 (.slice (some (ad w.heap.size 0)) 0 G) 0 []):=by refine⟨rfl,Or.inr ⟨w.heap.size,G,b,rfl,Uq _,blk_alloc_new w.drew _,Us _,by unfold maxLen;omega,?_,by simp⟩⟩;rw[a];simp[Builtin.zeroCells,Value.cells];omega
 have m:U (Bl w (w.drew.alloc (.cells b 9))):=(Up w.heap.size w).drew.trans (show Below w.heap.size w.drew _ from Aa w.drew _);have y:¬ (n:Int)<0:=by omega
 have B:(0:Int)<(n:Int):=by omega
 have s:=decide_eq_false y;have z:=decide_eq_true B;clear a l j k p f;go_enter func169,ntmps169;go_wp2_with (at_builtin;refine Lib.wpList_append_run _ rfl _ _ _ _ rfl _ _ rfl rfl _ _ (g _) ?_)
 go_ret;exact⟨G,rfl,t.o,m.o⟩
theorem KN (g c a b N O:Nat) (G z:Option Addr) (xs y:List Value) (w:World) (u:w.cell? (ad g 0)=some (.slice G a N)) (E:w.cell? (ad g 1)=some (.slice z b O)) (h1:Hp w G a xs) (h2:Hp w z b y) (h0:0<a+b) (hn:a+b<=1000) :
  UO 161 #[.slice (some (ad g 0)) 2 c] w λe s=>∃H cc,e=.returned (.slice (some (ad H 0)) (a+b) cc)/\s.ownsRow w.heap.size 9 1 (.slice (some (ad H 0)) (a+b) cc) (a+b) (xs++y)/\Bl w s:=by
 have HC:U (∀W,Bl w W->W.cell? (ad g 0)=some (.slice G a N)/\W.cell? (ad g 1)=some (.slice z b O)/\Hp W G a xs/\Hp W z b y):=by intro W J;have Y:=Uo _ _ u;exact⟨(J.cell (p:=(ad g 0)) Y).trans u,(J.cell (p:=(ad g 1)) Y).trans E,h1.below J,h2.below J⟩
 clear h1 h2;go_enter func161,ntmps161;go_wp2;go_loopw [3,11] (λq i wr=>∃k:Nat,k<=2/\i=iv k/\q=iv (((if k=0 then 0 else if k=1 then a else a+b:Nat)):Int)/\wr=w) (λ_ i _=>2-(intOf i).toNat)
 case atStart=>exact⟨0,by omega,rfl,rfl,rfl⟩
 case round=>
  obtain⟨k,hk,rfl,rfl,X⟩:=hrel;have R:=X.symm;clear X;subst R;by_cases K:k=0
  .subst K;go_wp2;go_roundw;case rel=>exact⟨1,by omega,by go_num,by first|go_num|simp,by simp⟩
   case measure=>simp[intOf]
  .by_cases V:k=1
   .subst V;have i1:¬ ((a:Int)+(b:Int))<0:=by omega
    have aa:=decide_eq_false i1;go_wp2;go_roundw;case rel=>exact⟨2,by omega,by go_num,by first|go_num|simp,by simp⟩
    case measure=>simp[intOf]
   .have M:k=2:=by omega
    subst M;have F:U (UO 169 #[.slice none 0 0,iv ((a:Int)+(b:Int))] w λe s=>∃c,e=.returned (.slice (some (ad w.heap.size 0)) 0 c)/\s.ownsRow w.heap.size 9 1 (.slice (some (ad w.heap.size 0)) 0 c) 0 []/\Bl w s):=by have:=Ov (a+b) h0 hn w;rw[show (((a+b:Nat)):Int)=(a:Int)+(b:Int) by omega] at this;exact this
    clear u E;go_wp2_with fail
    (with_reducible refine F.o.mono ?_)
    rintro e w1 ⟨gc,rfl,D,B⟩;have H1:=Ae (ai D B);clear D B F;go_wp2;go_loopw [6,27] (λq i wx=>∃(k j v:Nat) (C:Option Addr),k<=2/\i=iv k/\q=.slice C j v/\j=(if k=0 then 0 else if k=1 then a else a+b)/\wx.ownsRow w.heap.size 9 1 (.slice C j v) j (if k=0 then [] else if k=1 then xs else xs++y)/\Bl w wx) (λ_ i _=>2-(intOf i).toNat)
    case atStart=>exact⟨0,0,_,_,by omega,rfl,rfl,rfl,H1.o.1,H1.o.2⟩
    case round=>
     obtain⟨k,j,v,C,hk,rfl,rfl,h,ho,I⟩:=hrel;have r:=Ae (ai ho I);obtain⟨y0,y1,r1,r2⟩:=HC.o wr I;have Z:=Ae (ai r1 r2);have t:=I.size;clear ho I r1 r2;by_cases K:k=0
     .subst K;have e0:j=0:=by simpa using h
      subst e0;clear h;go_wp2_with (at_builtin;refine Ek rfl _ _ rfl w.heap.size (.slice C 0 v) 0 [] rfl r.o.1 G a N xs rfl Z.o.1 (by omega) t ?_)
      intro v' s f n;obtain⟨l,m,T,_⟩:=Af f;subst T;have S:U (s.ownsRow w.heap.size 9 1 (.slice l (0+a) m) (0+a) xs/\Bl w s):=⟨by simpa using f,r.o.2.grown n t (λg e=>(Ah r.o.1 g e).1)⟩;clear f n;go_wp2;go_roundw;case rel=>exact⟨1,0+a,m,l,by omega,by go_num,by simp,by simp,S.o⟩
      case measure=>simp[intOf]
     .by_cases V:k=1
      .subst V;have P:j=a:=by simpa using h
       subst P;clear h;go_wp2_with (at_builtin;refine Ek rfl _ _ rfl w.heap.size (.slice C j v) j xs rfl r.o.1 z b O y rfl Z.o.2 (by omega) t ?_)
       intro v' s f n;obtain⟨l,m,T,_⟩:=Af f;subst T;have S:=Ae (ai f (r.o.2.grown n t (λg e=>(Ah r.o.1 g e).1)));clear f n;go_wp2;go_roundw;case rel=>exact⟨2,j+b,m,l,by omega,by go_num,rfl,by simp,S.o⟩
       case measure=>simp[intOf]
      .have M:k=2:=by omega
       subst M;have e2:j=a+b:=by simpa using h
       subst e2;clear h;obtain⟨l,m,e,hf⟩:=Af r.o.1;injection e with P _ e3;subst P e3;obtain⟨H,rfl,_⟩:=hf (by omega);go_wp2;go_ret;exact⟨H,v,rfl,by simpa using r.o.1,r.o.2⟩
def BG (c k:Nat):Nat:=if c=k then 0 else k
theorem KF {c k:Nat} (h:¬ c=k):BG c k=k:=if_neg h
theorem Py (g n c k:Nat) (w:World) (b:k<=n) (j:n<=c) :
  UO 160 #[.slice (some (ad g 0)) n c,iv (k:Int)] w λe f=>e=.returned (.tuple #[.slice (some (ad g 0)) k k,.slice (some (ad g (BG c k))) (n-k) (c-k)])/\f=w.drew:=by
 have h:∀W:World,(Instr.sliceAt 88 (.slice (some (ad g 0)) n c) none (some (iv (k:Int))) (some (iv (k:Int)))).run prog W=.ok (.slice (some (ad g 0)) k k) W:=by
  intro W;have a:k<=c:=by omega
  simp[Instr.sliceAt,Instr.slice,go_sem,a]
 have l:∀W:World,(Instr.sliceAt 88 (.slice (some (ad g 0)) n c) (some (iv (k:Int))) none none).run prog W=.ok (.slice (some (ad g (BG c k))) (n-k) (c-k)) W:=by
  intro W;unfold BG;by_cases a:c=k;.subst a;simp[Instr.sliceAt,Instr.slice,go_sem,b]
  .simp[Instr.sliceAt,Instr.slice,go_sem,a,b]
 go_enter func160,ntmps160;go_wp2;go_region_held3 (λ_=>True) (go_keep) (fail)
 go_wp2;refine bodyPost_ret (v:=.tuple #[.slice (some (ad g 0)) k k,.slice (some (ad g (BG c k))) (n-k) (c-k)]) (by simp[results,results160,go_sem]) rfl ⟨rfl,rfl⟩
theorem Ez {D:Array Oper} (C:o.guard=none) (s x:Operand)
  (T:o.op=.call { callee:=.builtin .append,args:=#[s,x],argTypes:=#[175,175] })
  (B:Nat) (v:Value) (n:Nat) (xs:List Value) (S:act.eval s=v) (k:w.ownsRow B 68 1 v n xs)
  (a:Option Addr) (m c:Nat) (G:List Value) (U:act.eval x=.slice a m c) (q:Hp w a m G) (aa:n+m<=1048576) (hB:B<=w.heap.size)
  (h:∀F t,t.ownsRow B 68 1 F (n+m) (xs++G)->w.grownBy t v.ownBlock->wpList prog D Q rest (act.put o.dst F) t):wpList prog D Q (o::rest) act w:=by
 obtain⟨M,V,R,H,I⟩:=info_parts info68;obtain⟨Y,z,q⟩:=q;by_cases E:m=0
 .subst E;have hL:=List.length_eq_zero_iff.1 Y;subst hL;have y:Src prog M.size 175 (.slice a 0 c) 0 [] w:=by
   cases a with
   | none=>exact Src.ofNil w underlying175 c
   | some ad=>exact Src.ofSlice w underlying175 ad 0 c [] (by simp) (by simp) (by simp)
  have N:∃b l f,v=.slice b l f/\l<=f:=by
   rcases k.2 with ⟨rfl,rfl⟩|⟨g,f,W,rfl,_,_,z,_⟩;.exact⟨none,0,0,rfl,Uq _⟩
   .exact⟨_,n,f,rfl,z⟩
  obtain⟨b,l,f,O,J⟩:=N;have p:=run_append_nothing (P:=prog) w 175 175 o.type 68 M underlying175 V b l f J (.slice a 0 c) y;rw[<- O] at p;refine wpList_plain C λK hK=>?_;unfold Oper.wp;simp[execOp,T,resolve,invoke,builtin,S,U,p,Result.andThen];exact hK _ _ (h v w (by simpa using k) ⟨rfl,rfl,rfl,Uq _,λ_ _ _=>rfl⟩)
 .rcases q with X|⟨b,r,rfl,_,hc⟩;.exact absurd X E
  .refine wpList_append_own_at w C s x 175 T B 68 M _ 1 16 underlying175 V R H I rfl (by decide) v n xs S k (ad b r) m c G U (by omega) (λj u Z=>?_) z (by unfold maxLen;omega) (by omega) hB (λF t z h2 _ _=>h F t z h2);have e:(Addr.add (ad b r) j)=(ad b (r+j)):=by
    unfold Addr.add;by_cases h:j=0;.subst h;simp
    .simp[h]
   rw[e];exact hc j u Z
theorem Oq (n:Nat) (C:0<n) (D:n<=1000) (w:World) :
  UO 170 #[.slice none 0 0,iv (n:Int)] w λe q=>∃c,e=.returned (.slice (some (ad w.heap.size 0)) 0 c)/\q.ownsRow w.heap.size 68 1 (.slice (some (ad w.heap.size 0)) 0 c) 0 []/\Bl w q:=by
 obtain⟨u,j,k,p,f⟩:=info_parts info68;have g:∀ty,(Builtin.append_ #[175,3] ty #[.slice none 0 0,iv (n:Int)]).run prog w=.ok (.slice (some (ad w.heap.size 0)) n (grownCap w n 0 68)) (w.drew.alloc (.cells (#[]++Builtin.zeroCells Value.nilIface.cells n++Builtin.zeroCells Value.nilIface.cells (grownCap w n 0 68 - n)) 68)):=λty=>by have h:=Lib.run_append_grow_zeros w 175 3 ty 68 u _ .i64 .i64 underlying175 underlying3 j k none 0 0 [] (by simp[run_firstCells_none]) n (by omega) (by omega) (by omega) (by omega) (by rw[f];omega) (by rw[f];exact growslice_fits (by omega) (by omega));simpa using h
 obtain⟨G,l⟩:∃G,G=grownCap w n 0 68:=⟨_,rfl⟩;have v:n<=G:=by rw[l];exact grownCap_ge w _ _ _
 have r:G<=9223372036854775807:=by have:=grownCap_le_maxLen w n 0 68 (by unfold maxLen;omega);rw[<- l] at this;unfold maxLen at this;omega
 rw[<- l] at g;obtain⟨b,a⟩:=gn (#[]++Builtin.zeroCells Value.nilIface.cells n++Builtin.zeroCells Value.nilIface.cells (G-n));rw[<- a] at g;have t:U ((w.drew.alloc (.cells b 68)).ownsRow w.heap.size 68 1 (.slice (some (ad w.heap.size 0)) 0 G) 0 []):=by refine⟨rfl,Or.inr ⟨w.heap.size,G,b,rfl,Uq _,blk_alloc_new w.drew _,Us _,by unfold maxLen;omega,?_,by simp⟩⟩;rw[a];simp[Builtin.zeroCells,Value.cells];omega
 have m:U (Bl w (w.drew.alloc (.cells b 68))):=(Up w.heap.size w).drew.trans (show Below w.heap.size w.drew _ from Aa w.drew _);have y:¬ (n:Int)<0:=by omega
 have B:(0:Int)<(n:Int):=by omega
 have s:=decide_eq_false y;have z:=decide_eq_true B;clear a l j k p f;go_enter func170,ntmps170;go_wp2_with (at_builtin;refine Lib.wpList_append_run _ rfl _ _ _ _ rfl _ _ rfl rfl _ _ (g _) ?_)
 go_ret;exact⟨G,rfl,t.o,m.o⟩
theorem LA (g c a b N O:Nat) (G z:Option Addr) (xs y:List Value) (w:World) (u:w.cell? (ad g 0)=some (.slice G a N)) (E:w.cell? (ad g 1)=some (.slice z b O)) (h1:Hp w G a xs) (h2:Hp w z b y) (h0:0<a+b) (hn:a+b<=1000) :
  UO 163 #[.slice (some (ad g 0)) 2 c] w λe s=>∃H cc,e=.returned (.slice (some (ad H 0)) (a+b) cc)/\s.ownsRow w.heap.size 68 1 (.slice (some (ad H 0)) (a+b) cc) (a+b) (xs++y)/\Bl w s:=by
 have HC:U (∀W,Bl w W->W.cell? (ad g 0)=some (.slice G a N)/\W.cell? (ad g 1)=some (.slice z b O)/\Hp W G a xs/\Hp W z b y):=by intro W J;have Y:=Uo _ _ u;exact⟨(J.cell (p:=(ad g 0)) Y).trans u,(J.cell (p:=(ad g 1)) Y).trans E,h1.below J,h2.below J⟩
 clear h1 h2;go_enter func163,ntmps163;go_wp2;go_loopw [3,11] (λq i wr=>∃k:Nat,k<=2/\i=iv k/\q=iv (((if k=0 then 0 else if k=1 then a else a+b:Nat)):Int)/\wr=w) (λ_ i _=>2-(intOf i).toNat)
 case atStart=>exact⟨0,by omega,rfl,rfl,rfl⟩
 case round=>
  obtain⟨k,hk,rfl,rfl,X⟩:=hrel;have R:=X.symm;clear X;subst R;by_cases K:k=0
  .subst K;go_wp2;go_roundw;case rel=>exact⟨1,by omega,by go_num,by first|go_num|simp,by simp⟩
   case measure=>simp[intOf]
  .by_cases V:k=1
   .subst V;have i1:¬ ((a:Int)+(b:Int))<0:=by omega
    have aa:=decide_eq_false i1;go_wp2;go_roundw;case rel=>exact⟨2,by omega,by go_num,by first|go_num|simp,by simp⟩
    case measure=>simp[intOf]
   .have M:k=2:=by omega
    subst M;have F:U (UO 170 #[.slice none 0 0,iv ((a:Int)+(b:Int))] w λe s=>∃c,e=.returned (.slice (some (ad w.heap.size 0)) 0 c)/\s.ownsRow w.heap.size 68 1 (.slice (some (ad w.heap.size 0)) 0 c) 0 []/\Bl w s):=by have:=Oq (a+b) h0 hn w;rw[show (((a+b:Nat)):Int)=(a:Int)+(b:Int) by omega] at this;exact this
    clear u E;go_wp2_with fail
    (with_reducible refine F.o.mono ?_)
    rintro e w1 ⟨gc,rfl,D,B⟩;have H1:=Ae (ai D B);clear D B F;go_wp2;go_loopw [6,27] (λq i wx=>∃(k j v:Nat) (C:Option Addr),k<=2/\i=iv k/\q=.slice C j v/\j=(if k=0 then 0 else if k=1 then a else a+b)/\wx.ownsRow w.heap.size 68 1 (.slice C j v) j (if k=0 then [] else if k=1 then xs else xs++y)/\Bl w wx) (λ_ i _=>2-(intOf i).toNat)
    case atStart=>exact⟨0,0,_,_,by omega,rfl,rfl,rfl,H1.o.1,H1.o.2⟩
    case round=>
     obtain⟨k,j,v,C,hk,rfl,rfl,h,ho,I⟩:=hrel;have r:=Ae (ai ho I);obtain⟨y0,y1,r1,r2⟩:=HC.o wr I;have Z:=Ae (ai r1 r2);have t:=I.size;clear ho I r1 r2;by_cases K:k=0
     .subst K;have e0:j=0:=by simpa using h
      subst e0;clear h;go_wp2_with (at_builtin;refine Ez rfl _ _ rfl w.heap.size (.slice C 0 v) 0 [] rfl r.o.1 G a N xs rfl Z.o.1 (by omega) t ?_)
      intro v' s f n;obtain⟨l,m,T,_⟩:=Af f;subst T;have S:U (s.ownsRow w.heap.size 68 1 (.slice l (0+a) m) (0+a) xs/\Bl w s):=⟨by simpa using f,r.o.2.grown n t (λg e=>(Ah r.o.1 g e).1)⟩;clear f n;go_wp2;go_roundw;case rel=>exact⟨1,0+a,m,l,by omega,by go_num,by simp,by simp,S.o⟩
      case measure=>simp[intOf]
     .by_cases V:k=1
      .subst V;have P:j=a:=by simpa using h
       subst P;clear h;go_wp2_with (at_builtin;refine Ez rfl _ _ rfl w.heap.size (.slice C j v) j xs rfl r.o.1 z b O y rfl Z.o.2 (by omega) t ?_)
       intro v' s f n;obtain⟨l,m,T,_⟩:=Af f;subst T;have S:=Ae (ai f (r.o.2.grown n t (λg e=>(Ah r.o.1 g e).1)));clear f n;go_wp2;go_roundw;case rel=>exact⟨2,j+b,m,l,by omega,by go_num,rfl,by simp,S.o⟩
       case measure=>simp[intOf]
      .have M:k=2:=by omega
       subst M;have e2:j=a+b:=by simpa using h
       subst e2;clear h;obtain⟨l,m,e,hf⟩:=Af r.o.1;injection e with P _ e3;subst P e3;obtain⟨H,rfl,_⟩:=hf (by omega);go_wp2;go_ret;exact⟨H,v,rfl,by simpa using r.o.1,r.o.2⟩
theorem PF (g n c k:Nat) (w:World) (b:k<=n) (j:n<=c) :
  UO 162 #[.slice (some (ad g 0)) n c,iv (k:Int)] w λe f=>e=.returned (.tuple #[.slice (some (ad g 0)) k k,.slice (some (ad g (BG c k))) (n-k) (c-k)])/\f=w.drew:=by
 have h:∀W:World,(Instr.sliceAt 175 (.slice (some (ad g 0)) n c) none (some (iv (k:Int))) (some (iv (k:Int)))).run prog W=.ok (.slice (some (ad g 0)) k k) W:=by
  intro W;have a:k<=c:=by omega
  simp[Instr.sliceAt,Instr.slice,go_sem,a]
 have l:∀W:World,(Instr.sliceAt 175 (.slice (some (ad g 0)) n c) (some (iv (k:Int))) none none).run prog W=.ok (.slice (some (ad g (BG c k))) (n-k) (c-k)) W:=by
  intro W;unfold BG;by_cases a:c=k;.subst a;simp[Instr.sliceAt,Instr.slice,go_sem,b]
  .simp[Instr.sliceAt,Instr.slice,go_sem,a,b]
 go_enter func162,ntmps162;go_wp2;go_region_held3 (λ_=>True) (go_keep) (fail)
 go_wp2;refine bodyPost_ret (v:=.tuple #[.slice (some (ad g 0)) k k,.slice (some (ad g (BG c k))) (n-k) (c-k)]) (by simp[results,results162,go_sem]) rfl ⟨rfl,rfl⟩
variable {A L:List ByteArray}{i:Nat}
theorem LB {l:List (Ro d)} {key:ByteArray} (a:BI (l.flatMap (Ab d))) (g:∀k (h:k<l.length),0<(Ab d l[k]).length) (h:Cf l key i):∀x,x∈(l.take i).flatMap (Ab d)->Op.bytesLess x.toList key.toList=true:=by intro x b;rw[List.mem_flatMap] at b;obtain⟨t,f,c⟩:=b;obtain⟨j,e,rfl⟩:=List.getElem_of_mem f;rw[UE] at e;rw[List.getElem_take] at c;unfold BI at a;rw[List.pairwise_flatMap] at a;have q:=List.pairwise_iff_getElem.1 a.2 j i (by omega) h.1 (by omega) x c _ (Cu (g i h.1));exact CZ q (h.2.1 h.1 (by omega))
theorem J6 {l:List (Ro d)} {key:ByteArray} (b:BI (l.flatMap (Ab d))) (u:∀k (h:k<l.length),0<(Ab d l[k]).length) (h:Cf l key i):∀x,x∈(l.drop (i+1)).flatMap (Ab d)->Op.bytesLess key.toList x.toList=true:=by
 intro x n;rw[List.mem_flatMap] at n;obtain⟨t,v,c⟩:=n;obtain⟨j,r,rfl⟩:=List.getElem_of_mem v;rw[List.length_drop] at r;rw[List.getElem_drop] at c;have a:i+1<l.length:=by omega
 have f:=h.2.2 a;unfold BI at b;rw[List.pairwise_flatMap] at b;by_cases e:j=0
 .subst e;obtain⟨m,p,s⟩:=List.getElem_of_mem c;have g:gt (Ab d l[i+1+0]) m=x:=by unfold gt;rw[Uw,Ut p];exact s
  by_cases z:m=0;.subst z;rw[<- g];exact f
  .have y:=D4 (b.1 _ (UA a)) (show 0<m by omega) p;rw[<- g];exact AY _ _ _ f y
 .have q:=List.pairwise_iff_getElem.1 b.2 (i+1) (i+1+j) a (by omega) (by omega) _ (Cu (u _ a)) x c;exact AY _ _ _ f q
theorem G4 (l:List (Ro d)) (i:Nat) (hi:i<l.length):l.flatMap (Ab d)=(l.take i).flatMap (Ab d)++(Ab d l[i]++(l.drop (i+1)).flatMap (Ab d)):=by
 have e:l=l.take i++l[i]::l.drop (i+1):=by rw[List.getElem_cons_drop,List.take_append_drop]
 conv=>lhs;rw[e]
 rw[List.flatMap_append,List.flatMap_cons]
theorem Q1 (key:ByteArray) (A:List ByteArray):Bs key A<=A.length:=List.length_filter_le _ _
theorem MK {key:ByteArray} {C:List ByteArray} (c:∀x,x∈A->Op.bytesLess x.toList key.toList=true) (b:∀x,x∈C->Op.bytesLess key.toList x.toList=true):Be key (A++(L++C))=A++(Be key L++C):=by unfold Be;rw[E2,E2,Id c,Fm (λx e=>CV (b x e)),Nat.add_zero];have a:=Q1 key L;rw[List.take_length_add_append,List.drop_length_add_append,List.take_append_of_le_length a,List.drop_append_of_le_length a];simp
theorem Lg (key:ByteArray) (A C:List ByteArray):Ba key (A++C)=Ba key A++Ba key C:=by unfold Ba;rw[List.filter_append]
theorem Mt {key:ByteArray} (c:∀x,x∈A->Op.bytesLess x.toList key.toList=true):Ba key A=A:=by
 unfold Ba;rw[List.filter_eq_self];intro x f;have a:=c x f;have b:x.toList≠key.toList:=λe=>by rw[e,A4] at a;cases a
 simpa using b
theorem Mm {key:ByteArray} (c:∀x,x∈A->Op.bytesLess key.toList x.toList=true):Ba key A=A:=by
 unfold Ba;rw[List.filter_eq_self];intro x f;have a:=c x f;have b:x.toList≠key.toList:=λe=>by rw[e,A4] at a;cases a
 simpa using b
theorem Li {T:Type} (L:List T):(Eo L).flatten=L:=by
 unfold Eo;split;.simp
 .simp[List.take_append_drop]
theorem Ly {d:Nat}:∀(Ls:List (List ByteArray)),List.flatMap (Ab (d+1)) (Ls.map (Sum.inl:List ByteArray->Ro (d+1)))=Ls.flatten
 | []=>rfl
 | L::Ls=>by
  show L++List.flatMap (Ab (d+1)) (Ls.map (Sum.inl:List ByteArray->Ro (d+1)))=L++Ls.flatten
  rw[Ly Ls]
theorem Lu {d:Nat}:∀(Ls:List (List (Ro d))),List.flatMap (Ab (d+1)) (Ls.map (Sum.inr:List (Ro d)->Ro (d+1)))=Ls.flatten.flatMap (Ab d)
 | []=>rfl
 | L::Ls=>by
  show L.flatMap (Ab d)++List.flatMap (Ab (d+1)) (Ls.map (Sum.inr:List (Ro d)->Ro (d+1)))=(L++Ls.flatten).flatMap (Ab d)
  rw[Lu Ls,List.flatMap_append]
theorem Bt.keys {key:ByteArray}:∀{d:Nat} {t:Ro d} {root:Bool} {h:Nat} {r:List (Ro d)},Aq d root t h->BI (Ab d t)->Bt key d t r->r.flatMap (Ab d)=Be key (Ab d t)
 | 0,t,_,_,_,_,_,_=>t.elim
 | d+1,.inl ks,root,h,r,hb,ha,h1=>by
  rw[Fg] at h1
  subst h1
  refine (Ly (d:=d) (Eo (Be key ks))).trans ?_
  rw[Li]
  rfl
 | d+1,.inr l,root,h,r,hb,ha,h1=>by
  obtain⟨_,_,m,_,a⟩:=hb
  rw[E9] at h1
  obtain⟨i,e,c,s,j,rfl⟩:=h1
  have b : BI (l.flatMap (Ab d)):=ha
  have f:∀k (h:k<l.length),0<(Ab d l[k]).length:=λk g=>CJ (a _ (UA g))
  have q:=Bt.keys (a _ (UA c)) (Ca b i c) j
  refine (Lu (d:=d) (Eo (l.take i++s++l.drop (i+1)))).trans ?_
  rw[Li,List.flatMap_append,List.flatMap_append,q]
  show _=Be key (l.flatMap (Ab d))
  rw[G4 l i c,MK (LB b f e) (J6 b f e),List.append_assoc]
theorem F0:∀{d:Nat} {t u:Ro d} {h:Nat},AE d t h->AE d u h->Ab d (Ax t u)=Ab d t++Ab d u
 | 0,t,_,_,_,_=>t.elim
 | d+1,.inl L,.inl M,h,_,_=>rfl
 | d+1,.inr l,.inr m,h,_,_=>by
  show (l++m).flatMap (Ab d)=l.flatMap (Ab d)++m.flatMap (Ab d)
  rw[List.flatMap_append]
 | d+1,.inl L,.inr m,h,hb,hc=>by
  obtain⟨_,_,a,b,_⟩:=hc
  have:=hb.1
  omega
 | d+1,.inr l,.inl M,h,hb,hc=>by
  obtain⟨_,_,a,b,_⟩:=hb
  have:=hc.1
  omega
theorem JZ:∀{d:Nat} {t:Ro d} (k:Nat),k<=An t->Ab d (AH 0 k t)++Ab d (AH k (An t) t)=Ab d t
 | 0,t,_,_=>t.elim
 | d+1,.inl L,k,hk=>by
  show (L.take k).drop 0++(L.take L.length).drop k=L
  rw[List.drop_zero,UC,List.take_append_drop]
 | d+1,.inr l,k,hk=>by
  show ((l.take k).drop 0).flatMap (Ab d)++((l.take l.length).drop k).flatMap (Ab d)=l.flatMap (Ab d)
  rw[List.drop_zero,UC,<- List.flatMap_append,List.take_append_drop]
theorem Fw {T:Type} (l:List T) (m:Nat) (u v:T) (g:1<=m) (b:l[m-1]?=some u) (a:l[m]?=some v):l=l.take (m-1)++u::v::l.drop (m+1):=by
 have e:=(List.getElem?_eq_some_iff.1 a).1;have f:l.drop m=v::l.drop (m+1):=by rw[List.drop_eq_getElem_cons e];have:=(List.getElem?_eq_some_iff.1 a).2;rw[this]
 have c:l.drop (m-1)=u::l.drop m:=by rw[List.drop_eq_getElem_cons (show m-1<l.length by omega)];have:=(List.getElem?_eq_some_iff.1 b).2;rw[this,show m-1+1=m by omega]
 rw[<- f,<- c,List.take_append_drop]
theorem Nn {T:Type} (l:List T) (m:Nat) (u v a b:T) (g:1<=m) (h:l[m-1]?=some u) (e:l[m]?=some v):(l.set m b).set (m-1) a=l.take (m-1)++a::b::l.drop (m+1):=by have f:=(List.getElem?_eq_some_iff.1 e).1;have c:=Fw ((l.set m b).set (m-1) a) m a b g (by rw[List.getElem?_set_self (by rw[List.length_set];omega)]) (by rw[List.getElem?_set_ne (by omega),List.getElem?_set_self f]);rw[List.take_set_of_le (by omega),List.take_set_of_le (by omega),List.drop_set_of_lt (by omega),List.drop_set_of_lt (by omega)] at c;exact c
theorem NY {l:List (Ro d)} {h:Nat} {y:Ro d} (hi:i<l.length) (a:l[i]?=some y) (E:AE d y h) (R:1<=An y) (b:∀j t,l[j]?=some t->j≠i->Aq d false t h) (P:2<=l.length) :
  (Ed l i).flatMap (Ab d)=l.flatMap (Ab d):=by
 by_cases F:2<=An y;.rw[Ex a F]
 .by_cases H:0<i/\2<C7 l[i-1]?
  .obtain⟨k,p⟩:=H;have c:l[i-1]?=some (l[i-1]'(by omega)):=Ut (by omega);generalize l[i-1]'(by omega)=z at c;rw[c] at p;have f : 2<An z:=p;rw[Ew a F k c f];have g:=AE.of (b (i-1) z c (by omega));have G:=g.cut (lo:=An z-1) (hi:=An z) (by omega) (Uq _);have r:=F0 G.1 E;have K:=JZ (t:=z) (An z-1) (by omega);rw[Nn l i z y _ _ k c a];conv=>rhs;rw[Fw l i z y k c a]
   simp only[List.flatMap_append,List.flatMap_cons];rw[r,<- K];simp
  .by_cases C:2<C7 l[i+1]?
   .have I:i+1<l.length:=by
     by_cases q:i+1<l.length;.exact q
     .rw[List.getElem?_eq_none (by omega)] at C;exact absurd C (by simp[C7])
    have c:l[i+1]?=some l[i+1]:=Ut I;generalize l[i+1]=z at c;rw[c] at C;have f : 2<An z:=C;rw[Du a F H c f];have g:=AE.of (b (i+1) z c (by omega));have G:=g.cut (lo:=0) (hi:=1) (by omega) (by omega);have r:=F0 E G.1;have K:=JZ (t:=z) 1 (by omega);have e:=Nn l (i+1) y z (Ax y (AH 0 1 z)) (AH 1 (An z) z) (by omega) (by simpa using a) c;rw[Nat.add_sub_cancel] at e;have M:(l.set i (Ax y (AH 0 1 z))).set (i+1) (AH 1 (An z) z)=(l.set (i+1) (AH 1 (An z) z)).set i (Ax y (AH 0 1 z)):=List.set_comm _ _ (by omega);rw[M,e];conv=>rhs;rw[Fw l (i+1) y z (by omega) (by simpa using a) c]
    simp only[List.flatMap_append,List.flatMap_cons,Nat.add_sub_cancel];rw[r,<- K];simp
   .obtain⟨m,J⟩:∃m,m=max i 1:=⟨_,rfl⟩;have B:1<=m/\m<l.length/\(m=i\/(i=0/\m=1)):=by omega
    have n:l[m-1]?=some (l[m-1]'(by omega)):=Ut (by omega);have s:l[m]?=some (l[m]'(by omega)):=Ut (by omega);generalize l[m-1]'(by omega)=u at n;generalize l[m]'(by omega)=v at s;rw[Dl a F H C (u:=u) (v:=v) (by rw[<- J];exact n) (by rw[<- J];exact s),<- J];have D:AE d u h/\AE d v h:=by
     rcases B.2.2 with e|⟨O,N⟩;.subst e;rw[s] at a;injection a with a;subst a;exact⟨AE.of (b (m-1) u n (by omega)),E⟩
     .subst O N;rw[n] at a;injection a with a;subst a;exact⟨E,AE.of (b 1 v s (by omega))⟩
    have r:=F0 D.1 D.2;conv=>rhs;rw[Fw l m u v B.1 n s]
    simp only[List.flatMap_append,List.flatMap_cons];rw[r];simp
theorem Bu.keysD {key:ByteArray}:∀{d:Nat} {t:Ro d} {root:Bool} {h:Nat} {r:Ro d},Aq d root t h->BI (Ab d t)->Bu key d t r->Ab d r=Ba key (Ab d t)
 | 0,t,_,_,_,_,_,_=>t.elim
 | d+1,.inl ks,root,h,r,hb,ha,h1=>by
  rw[Ie] at h1
  subst h1
  rfl
 | d+1,.inr l,root,h,r,hb,ha,h1=>by
  obtain⟨v,D,z,rfl,a⟩:=hb
  rw[IE] at h1
  obtain⟨i,p,g,y,n,rfl⟩:=h1
  have b : BI (l.flatMap (Ab d)):=ha
  have c:=a _ (UA g)
  have m:∀k (h:k<l.length),0<(Ab d l[k]).length:=λk B=>CJ (a _ (UA B))
  have q:=Bu.bal c (Ca b i g) n
  have E:=c.siz
  have u:=Bu.keysD c (Ca b i g) n
  have f:=NY (l:=l.set i y) (i:=i) (h:=z) (y:=y) (by simpa using g) (by simp[g]) q.1 (by omega) (λj t s C=>by
   rw[List.getElem?_set_ne (by omega)] at s
   exact a t (List.mem_of_getElem? s)) (by simpa using v)
  show (Ed (l.set i y) i).flatMap (Ab d)=Ba key (l.flatMap (Ab d))
  rw[f,G4 l i g,Lg,Lg,Mt (LB b m p),Mm (J6 b m p),<- u]
  have e:=G4 (l.set i y) i (by simpa using g)
  rw[List.getElem_set_self,List.take_set_of_le (Uq _),List.drop_set_of_lt (by omega)] at e
  exact e
theorem FQ {d:Nat}:∀l:List (Ro d),(∀t,t∈l->Ac d t+1<=(Ab d t).length)->(l.map (Ac d)).sum+l.length<=(l.flatMap (Ab d)).length
 | [],_=>by simp
 | t::l,h=>by
  have c:=h t (by simp)
  have e:=FQ l (λb a=>h b (by simp[a]))
  rw[List.map_cons,List.sum_cons,List.flatMap_cons,Uz,UJ]
  omega
theorem Aq.few:∀{d:Nat} {t:Ro d} {h:Nat},Aq d false t h->Ac d t+1<=(Ab d t).length
 | 0,t,_,_=>t.elim
 | d+1,.inl L,h,hb=>by
  obtain⟨_,_,q⟩:=hb
  rcases q with q|q
  .cases q
  .exact q
 | d+1,.inr l,h,hb=>by
  obtain⟨c,_,e,_,a⟩:=hb
  have:=FQ l (λt b=>Aq.few (a t b))
  show (1+(l.map (Ac d)).sum)+1<=(l.flatMap (Ab d)).length
  omega
theorem Aq.few' : ∀{d:Nat} {t:Ro d} {root:Bool} {h:Nat},Aq d root t h->Ac d t<=(Ab d t).length+1
 | 0,t,_,_,_=>t.elim
 | d+1,.inl L,root,h,hb=>by
  show 1<=L.length+1
  omega
 | d+1,.inr l,root,h,hb=>by
  obtain⟨c,_,e,_,a⟩:=hb
  have:=FQ l (λt b=>Aq.few (a t b))
  show (1+(l.map (Ac d)).sum)<=(l.flatMap (Ab d)).length+1
  omega
theorem QS (c:BI L) (b:∀x,x∈L->x.size<=16):Kc L L.length:=by intro i a;refine⟨b _ (Cu a),λe=>?_⟩;exact D4 c (by omega) a
theorem C8 {M:Nat->Tn} {m D hh:Nat} {y:Ro D} (l:m=Ac D y) (q:m<=5000) (h:Am M 0 D y 0) (c:Aq D true y hh) (j:BI (Ab D y)) (p:∀x,x∈Ab D y->x.size<=16):∃a,BE m M a/\Ab 21 a=Ab D y:=by have b:=c.low (by omega);obtain⟨a,f,e,r,k,g⟩:=EQ (n:=m) (d':=21) h (by omega) c (by omega);rw[<- l] at f;have s:=Dj D y;refine⟨a,⟨by omega,q,by simpa using f,⟨hh,k⟩,?_,g⟩,e⟩;rw[e];exact QS j p
end Go.Proofs.YtcnollkkigiobaaGreat
