import Derived.Test.YtcnollkkigiobaaGreatNv22
set_option linter.unusedVariables false
set_option linter.unusedSimpArgs false
set_option maxRecDepth 100000
set_option maxHeartbeats 90000000
namespace Go.Proofs.YtcnollkkigiobaaGreat
open Go Go.Deep Go.RowKit Go.Proofs.Tryz
variable {d:Nat}{hi lo:ByteArray}
theorem MQ {l:List (Ro d)} {i:Nat} (b : i<l.length) (a:BI (l.flatMap (Ab d))) (h:0<(Ab d l[i]).length) (f:0<i->Op.bytesLess lo.toList (gt (Ab d l[i]) 0).toList=false):BZ lo hi ((l.take i).flatMap (Ab d))=[]:=by
 refine LJ (λk c=>?_);have e:l=l.take i++(l[i]::l.drop (i+1)):=by
  conv=>lhs;rw[<- List.take_append_drop (i+1) l,<- List.take_append_getElem b]
  simp
 rw[e,List.flatMap_append,List.flatMap_cons] at a;unfold BI at a;rw[List.pairwise_append] at a;by_cases g:0<i;.have q:=a.2.2 k c (gt (Ab d l[i]) 0) (List.mem_append_left _ (Cu h));have:=CZ q (f g);unfold NS;rw[this];rfl
 .have:i=0:=by omega
  subst this;simp at c
theorem OH {l:List (Ro d)} {k:Nat} (p:k<l.length) (f:BI (l.flatMap (Ab d))) (o:0<(Ab d l[k]).length) (r:¬ hi.toList=[]) (i:Op.bytesLess (gt (Ab d l[k]) 0).toList hi.toList=false):BZ lo hi (l.flatMap (Ab d))=BZ lo hi ((l.take k).flatMap (Ab d)):=by
 have e:l=l.take k++(l[k]::l.drop (k+1)):=by
  conv=>lhs;rw[<- List.take_append_drop (k+1) l,<- List.take_append_getElem p]
  simp
 have m:l.flatMap (Ab d)=(l.take k).flatMap (Ab d)++(Ab d l[k]++(l.drop (k+1)).flatMap (Ab d)):=by
  conv=>lhs;rw[e]
  rw[List.flatMap_append,List.flatMap_cons]
 rw[m] at f ⊢;unfold BI at f;rw[List.pairwise_append] at f;obtain⟨_,c,_⟩:=f;rw[KD,LJ (L:=Ab d l[k]++_),List.append_nil];intro x b;rw[List.pairwise_append] at c;obtain⟨u,_,n⟩:=c;have g:Op.bytesLess x.toList hi.toList=false:=by
  have a:x=gt (Ab d l[k]) 0\/Op.bytesLess (gt (Ab d l[k]) 0).toList x.toList=true:=by
   rcases List.mem_append.1 b with b|b
   .obtain⟨j,h,rfl⟩:=List.getElem_of_mem b;have q:(Ab d l[k])[j]=gt (Ab d l[k]) j:=by unfold gt;rw[Uw,Ut h];rfl
    rw[q];by_cases t:j=0;.subst t;exact Or.inl rfl
    .exact Or.inr (D4 u (show 0<j by omega) h)
   .exact Or.inr (n _ (Cu o) _ b)
  rcases a with rfl|s;.exact i
  .cases e:Op.bytesLess x.toList hi.toList with
   | false=>rfl
   | true=>have:=AY _ _ _ s e;rw[i] at this;cases this
 unfold NS;rw[g];have:hi.toList.isEmpty=false:=by simpa using r
 rw[this];simp
def Ue (B:Nat) (w:World) (v:Value) (lo hi:ByteArray) (K:List ByteArray):Prop:=
 (∃p,v=.iface 204 (.pointer (some p))/\∀(W:World) (a0:Option Addr) (n0 c0:Nat) (L0:List ByteArray),Below B w W->B<=W.heap.size->W.ownsRow B 9 1 (.slice a0 n0 c0) n0 (Ap L0)->n0=L0.length->n0<=1073741824->UO 203 #[.pointer (some p),.slice a0 n0 c0,.string lo,.string hi] W (GR B W (L0++BZ lo hi K)))\/
 (∃p,v=.iface 174 (.pointer (some p))/\∀(W:World) (a0:Option Addr) (n0 c0:Nat) (L0:List ByteArray),Below B w W->B<=W.heap.size->W.ownsRow B 9 1 (.slice a0 n0 c0) n0 (Ap L0)->n0=L0.length->n0+K.length<=1073741824->UO 186 #[.pointer (some p),.slice a0 n0 c0,.string lo,.string hi] W (GR B W (L0++BZ lo hi K)))
theorem IU (lo hi:ByteArray) (B:Nat) (w:World):∀(d:Nat) (t:Ro d) (v:Value) (am:Bool) (h:Nat),FZ (λV=>V<B) w d t v->Aq d am t h->BI (Ab d t)->(Ab d t).length<=1048576->Ue B w v lo hi (Ab d t):=by
 intro d;induction d with
 | zero=>intro t;exact t.elim
 | succ d ih=>
  intro t v am h ht hb ha S;rcases t with t|l;.obtain⟨b,ka,kc,rfl,af,hx,hr⟩:=ht;refine Or.inl ⟨_,rfl,λW a0 I c0 n hW a4 ho h1 h2=>?_⟩;refine ML B b t.length kc ka _ t n lo hi a0 I c0 W (hx.below' hW af) af (λz F=>?_) rfl S ho h1 h2 a4;exact (hr.mono (w':=z) (S':=λ_=>True) (by have:=hW.size;have:=F.size;omega) (λV hs _=>⟨trivial,((hW.trans F).block V hs)⟩)).rdS
  .have be:=ht;obtain⟨b,g,kc,xs,rfl,af,hx,bf,⟨_,a9,bj⟩,hl,hc,hk⟩:=be;obtain⟨bi,a3,h',_,D⟩:=hb;refine Or.inr ⟨_,rfl,λW a0 I c0 n hW a4 ho h1 h2=>?_⟩;have az:FZ (λV=>V<B) W (d+1) (.inr l) (.iface 174 (pt b)):=ht.mono hW.size (λV hs _=>⟨hs,hW.block V hs⟩);have ac : BI (l.flatMap (Ab d)):=ha;have aa : (l.flatMap (Ab d)).length<=1048576:=S;have aw:U (UO 193 #[pt b,.string lo] W.drew (Pg l lo W.drew)):=EE d b l _ h' lo W.drew (az.below (Up _ _).drew) D a3;have a6:U (∀k (hk:k<l.length),∃u,(∀z,Below B w z->z.cell? (ad g k)=some u)/\Ue B w u lo hi (Ab d l[k])/\((∃p,u=.iface 204 (.pointer (some p))/\∀z,Below B w z->UO 205 #[.pointer (some p)] z λe w'=>e=.returned (.string (gt (Ab d l[k]) 0))/\w'=z)\/(∃p,u=.iface 174 (.pointer (some p))/\∀z,Below B w z->UO 188 #[.pointer (some p)] z λe w'=>e=.returned (.string (gt (Ab d l[k]) 0))/\w'=z))):=by
    intro k C;obtain⟨u,hu,ar⟩:=hk k C;refine⟨u,λz F=>by rw[F.cell (p:=(ad g k)) bf];exact hc k u hu,ih l[k] u false h' ar (D _ (UA C)) (Ca ac k C) (by have:=Bo d l k C;omega),?_⟩;have a8:∀z,Below B w z->FZ (λV=>V<B) z d l[k] u:=λz F=>ar.mono F.size (λV hs _=>⟨hs,F.block V hs⟩);rcases CU ar (D _ (UA C)) with ⟨p,rfl,_⟩|⟨p,rfl,_⟩
    .refine Or.inl ⟨p,rfl,λz F=>?_⟩;rcases CU (a8 z F) (D _ (UA C)) with ⟨p',f,q⟩|⟨p',f,q⟩;.injection f with _ f;injection f with f;injection f with f;subst f;exact q z (Up _ _)
     .injection f with f _;exact absurd f (by decide)
    .refine Or.inr ⟨p,rfl,λz F=>?_⟩;rcases CU (a8 z F) (D _ (UA C)) with ⟨p',f,q⟩|⟨p',f,q⟩;.injection f with f _;exact absurd f (by decide)
     .injection f with _ f;injection f with f;injection f with f;subst f;exact q z (Up _ _)
   have ao:U (∀i (ae : i<l.length),(∀h:i<l.length,0<i->Op.bytesLess lo.toList (gt (Ab d l[i]) 0).toList=false)->BZ lo hi ((l.take i).flatMap (Ab d))=[]):=λi ae q=>MQ ae ac (DI (D _ (UA ae))) (q ae);have ah:U (∀k (hk:k<l.length),¬ hi.toList=[]->Op.bytesLess (gt (Ab d l[k]) 0).toList hi.toList=false->BZ lo hi (l.flatMap (Ab d))=BZ lo hi ((l.take k).flatMap (Ab d))):=λk hk q1 q2=>OH hk ac (DI (D _ (UA hk))) q1 q2;have bm:=Ae aa;have R:=Ae (ai ho (ai h1 hW));have av : I+(l.flatMap (Ab d)).length<=1073741824:=h2;have H2:=Ae av;have bc:=hx.below' hW af;have c1:=bc.cell 1;simp at c1;obtain⟨ln,aq⟩:∃ln,ln=l.length:=⟨_,rfl⟩;rw[<- aq] at c1 hl a3 a9;have X:U (ln=l.length):=aq;clear hx bc hc hk D ih ht az ha S ac aa aq bi ho h1 h2 av;go_enter func186,ntmps186;go_wp2;go_region_held3 (λw'=>w'.cell? (ad b 1)=some (.slice (some (ad g 0)) ln kc)) (go_keep) (first|(go_at_call 193;refine aw.o.mono ?_;rintro e w1 ⟨i,rfl,rfl,bd,q1,q2⟩;have i0:(0:Int)<=(i:Int):=(by omega);have i1:(i:Int)<=(ln:Int):=(by rw[X.o];omega);have bl:¬ kc=i:=(by have:=X.o;omega))|fail)
   have ag:U (BZ lo hi ((l.take i).flatMap (Ab d))=[]):=ao.o i bd q1;obtain⟨rl,ay⟩:∃rl,rl=ln-i:=⟨_,rfl⟩;have ak:i+rl=ln:=by have:=X.o;omega
   go_wp2;rw[<- ay];have a2:U (i+rl=ln):=ak;have bk:rl<=4:=by omega
   clear ay ak q1 q2 aw;go_loopw [1,20] (λq k wr=>∃(j m:Nat) (a:Option Addr) (c:Nat),j<=rl/\k=iv j/\q=.slice a m c/\m=(n++BZ lo hi ((l.take (i+j)).flatMap (Ab d))).length/\wr.ownsRow B 9 1 (.slice a m c) m (Ap (n++BZ lo hi ((l.take (i+j)).flatMap (Ab d))))/\Below B W wr) (λ_ k _=>rl-(intOf k).toNat)
   case atStart=>exact⟨0,I,a0,c0,Us _,rfl,rfl,by rw[Nat.add_zero,ag.o,List.append_nil];exact R.o.2.1,by rw[Nat.add_zero,ag.o,List.append_nil];exact R.o.1,(Up _ _).drew⟩
   case round=>
    obtain⟨j,m,a,c,hj,rfl,rfl,hm,aj,T⟩:=hrel;have E:U (m=(n++BZ lo hi ((l.take (i+j)).flatMap (Ab d))).length/\wr.ownsRow B 9 1 (.slice a m c) m (Ap (n++BZ lo hi ((l.take (i+j)).flatMap (Ab d))))/\Below B W wr):=⟨hm,aj,T⟩;have hz:=T.size;have bn:m<=I+((l.take (i+j)).flatMap (Ab d)).length:=by rw[Uz] at hm;have:=Pm lo hi ((l.take (i+j)).flatMap (Ab d));have:=R.o.2.1;omega
    clear hm aj T;by_cases bo:j<rl
    .have C:i+j<l.length:=by have:=X.o;have:=a2.o;omega
     obtain⟨u,a7,ba,P⟩:=a6.o (i+j) C;have cu:=a7 wr (R.o.2.2.trans E.o.2.2);have j0:(0:Int)<=(j:Int):=by omega
     have j1:(j:Int)<(rl:Int):=by omega
     have bg:=CY l (i+j) C;have bh:=Bk (Ab d) l (i+j+1);have an:m+(Ab d l[i+j]).length<=1073741824:=by have:=H2.o;omega
     have a1:m<=1073741824:=by omega
     have G:U (n++BZ lo hi ((l.take (i+j)).flatMap (Ab d))++BZ lo hi (Ab d l[i+j])=n++BZ lo hi ((l.take (i+j+1)).flatMap (Ab d))):=by show n++BZ lo hi ((l.take (i+j)).flatMap (Ab d))++BZ lo hi (Ab d l[i+j])=n++BZ lo hi ((l.take (i+j+1)).flatMap (Ab d));rw[Fy (Ab d) l (i+j) C,KD,List.append_assoc]
     obtain⟨A,ap⟩:∃A,gt (Ab d l[i+j]) 0=A:=⟨_,rfl⟩;rw[ap] at P;have al:U (gt (Ab d l[i+j]) 0=A):=ap;have au:U (m+(Ab d l[i+j]).length<=1073741824):=an;clear bg bh ap a7 an;rcases P with ⟨p,rfl,Y⟩|⟨p,rfl,Y⟩
     .rcases ba with ⟨p',f,L⟩|⟨p',f,L⟩
      .injection f with e1 f;injection f with f;injection f with f;clear e1;subst f;have HG:U (∀(W:World) (a0:Option Addr) (I c0:Nat) (n:List ByteArray),Below B w W->B<=W.heap.size->W.ownsRow B 9 1 (.slice a0 I c0) I (Ap n)->I=n.length->I<=1073741824->UO 203 #[.pointer (some p),.slice a0 I c0,.string lo,.string hi] W (GR B W (n++BZ lo hi (Ab d l[i+j])))):=L;have ax:=a1;clear L;have ab:U (∀z,Below B w z->UO 205 #[.pointer (some p)] z λe w'=>e=.returned (.string A)/\w'=z):=Y;clear Y;by_cases N:hi.toList=[]
       .have Z:hi.toList.isEmpty=true:=by simpa using N
        go_wp2_with fail
        refine (HG.o wr a m c (n++BZ lo hi ((l.take (i+j)).flatMap (Ab d))) (R.o.2.2.trans E.o.2.2) (by omega) E.o.2.1 E.o.1 ax).mono ?_;rintro e H ⟨Q,O,K,r,x⟩;rw[G.o] at K r;obtain⟨s,y⟩:∃s,s=(n++BZ lo hi ((l.take (i+j+1)).flatMap (Ab d))).length:=⟨_,rfl⟩;rw[<- y] at K r;subst K;have HX:U (s=(n++BZ lo hi ((l.take (i+(j+1))).flatMap (Ab d))).length/\H.ownsRow B 9 1 (.slice Q s O) s (Ap (n++BZ lo hi ((l.take (i+(j+1))).flatMap (Ab d))))/\Below B W wr->Below B W H):=λh=>h.2.2.trans x;have M:U (s=(n++BZ lo hi ((l.take (i+(j+1))).flatMap (Ab d))).length/\H.ownsRow B 9 1 (.slice Q s O) s (Ap (n++BZ lo hi ((l.take (i+(j+1))).flatMap (Ab d))))/\Below B W H):=⟨y,r,E.o.2.2.trans x⟩;clear y r x HX;go_wp2;go_roundw;case rel=>exact⟨j+1,s,Q,O,by omega,by go_num,rfl,M.o⟩
        case measure=>simp[intOf];omega
       .have Z:hi.toList.isEmpty=false:=by simpa using N
        cases hlh:Op.bytesLess A.toList hi.toList with
        | true=>
         go_wp2_with fail
         refine (ab.o wr (R.o.2.2.trans E.o.2.2)).mono ?_;rintro e w4 ⟨rfl,rfl⟩;go_wp2_with fail
         refine (HG.o w4 a m c (n++BZ lo hi ((l.take (i+j)).flatMap (Ab d))) (R.o.2.2.trans E.o.2.2) (by omega) E.o.2.1 E.o.1 ax).mono ?_;rintro e H ⟨Q,O,K,r,x⟩;rw[G.o] at K r;obtain⟨s,y⟩:∃s,s=(n++BZ lo hi ((l.take (i+j+1)).flatMap (Ab d))).length:=⟨_,rfl⟩;rw[<- y] at K r;subst K;have HX:U (s=(n++BZ lo hi ((l.take (i+(j+1))).flatMap (Ab d))).length/\H.ownsRow B 9 1 (.slice Q s O) s (Ap (n++BZ lo hi ((l.take (i+(j+1))).flatMap (Ab d))))/\Below B W w4->Below B W H):=λh=>h.2.2.trans x;have M:U (s=(n++BZ lo hi ((l.take (i+(j+1))).flatMap (Ab d))).length/\H.ownsRow B 9 1 (.slice Q s O) s (Ap (n++BZ lo hi ((l.take (i+(j+1))).flatMap (Ab d))))/\Below B W H):=⟨y,r,E.o.2.2.trans x⟩;clear y r x HX;go_wp2;go_roundw;case rel=>exact⟨j+1,s,Q,O,by omega,by go_num,rfl,M.o⟩
         case measure=>simp[intOf];omega
        | false=>
         have J:U (BZ lo hi (l.flatMap (Ab d))=BZ lo hi ((l.take (i+j)).flatMap (Ab d))):=ah.o (i+j) C N (by rw[al.o];exact hlh);go_wp2_with fail
         refine (ab.o wr (R.o.2.2.trans E.o.2.2)).mono ?_;rintro e w4 ⟨rfl,rfl⟩;go_wp2;go_ret;have q:=E.o;rw[<- J.o] at q;exact⟨a,c,by rw[show (n++BZ lo hi (Ab (d+1) (.inr l))).length=m from q.1.symm];rfl,by rw[show (n++BZ lo hi (Ab (d+1) (.inr l))).length=m from q.1.symm];exact q.2.1,q.2.2⟩
      .injection f with f _;exact absurd f (by decide)
     .rcases ba with ⟨p',f,L⟩|⟨p',f,L⟩;.injection f with f _;exact absurd f (by decide)
      .injection f with e1 f;injection f with f;injection f with f;clear e1;subst f;have HG:U (∀(W:World) (a0:Option Addr) (I c0:Nat) (n:List ByteArray),Below B w W->B<=W.heap.size->W.ownsRow B 9 1 (.slice a0 I c0) I (Ap n)->I=n.length->I+(Ab d l[i+j]).length<=1073741824->UO 186 #[.pointer (some p),.slice a0 I c0,.string lo,.string hi] W (GR B W (n++BZ lo hi (Ab d l[i+j])))):=L;clear L;have ab:U (∀z,Below B w z->UO 188 #[.pointer (some p)] z λe w'=>e=.returned (.string A)/\w'=z):=Y;clear Y;by_cases N:hi.toList=[]
       .have Z:hi.toList.isEmpty=true:=by simpa using N
        go_wp2_with fail
        refine (HG.o wr a m c (n++BZ lo hi ((l.take (i+j)).flatMap (Ab d))) (R.o.2.2.trans E.o.2.2) (by omega) E.o.2.1 E.o.1 au.o).mono ?_;rintro e H ⟨Q,O,K,r,x⟩;rw[G.o] at K r;obtain⟨s,y⟩:∃s,s=(n++BZ lo hi ((l.take (i+j+1)).flatMap (Ab d))).length:=⟨_,rfl⟩;rw[<- y] at K r;subst K;have HX:U (s=(n++BZ lo hi ((l.take (i+(j+1))).flatMap (Ab d))).length/\H.ownsRow B 9 1 (.slice Q s O) s (Ap (n++BZ lo hi ((l.take (i+(j+1))).flatMap (Ab d))))/\Below B W wr->Below B W H):=λh=>h.2.2.trans x;have M:U (s=(n++BZ lo hi ((l.take (i+(j+1))).flatMap (Ab d))).length/\H.ownsRow B 9 1 (.slice Q s O) s (Ap (n++BZ lo hi ((l.take (i+(j+1))).flatMap (Ab d))))/\Below B W H):=⟨y,r,E.o.2.2.trans x⟩;clear y r x HX;go_wp2;go_roundw;case rel=>exact⟨j+1,s,Q,O,by omega,by go_num,rfl,M.o⟩
        case measure=>simp[intOf];omega
       .have Z:hi.toList.isEmpty=false:=by simpa using N
        cases hlh:Op.bytesLess A.toList hi.toList with
        | true=>
         go_wp2_with fail
         refine (ab.o wr (R.o.2.2.trans E.o.2.2)).mono ?_;rintro e w4 ⟨rfl,rfl⟩;go_wp2_with fail
         refine (HG.o w4 a m c (n++BZ lo hi ((l.take (i+j)).flatMap (Ab d))) (R.o.2.2.trans E.o.2.2) (by omega) E.o.2.1 E.o.1 au.o).mono ?_;rintro e H ⟨Q,O,K,r,x⟩;rw[G.o] at K r;obtain⟨s,y⟩:∃s,s=(n++BZ lo hi ((l.take (i+j+1)).flatMap (Ab d))).length:=⟨_,rfl⟩;rw[<- y] at K r;subst K;have HX:U (s=(n++BZ lo hi ((l.take (i+(j+1))).flatMap (Ab d))).length/\H.ownsRow B 9 1 (.slice Q s O) s (Ap (n++BZ lo hi ((l.take (i+(j+1))).flatMap (Ab d))))/\Below B W w4->Below B W H):=λh=>h.2.2.trans x;have M:=Ae (ai y (ai r (E.o.2.2.trans x)));clear y r x HX;go_wp2;go_roundw;case rel=>exact⟨j+1,s,Q,O,by omega,by go_num,rfl,M.o⟩
         case measure=>simp[intOf];omega
        | false=>
         have J:=Ae (ah.o (i+j) C N (by rw[al.o];exact hlh));go_wp2_with fail
         refine (ab.o wr (R.o.2.2.trans E.o.2.2)).mono ?_;rintro e w4 ⟨rfl,rfl⟩;go_wp2;go_ret;have q:=E.o;rw[<- J.o] at q;exact⟨a,c,by rw[show (n++BZ lo hi (Ab (d+1) (.inr l))).length=m from q.1.symm];rfl,by rw[show (n++BZ lo hi (Ab (d+1) (.inr l))).length=m from q.1.symm];exact q.2.1,q.2.2⟩
    .have e:j=rl:=by omega
     subst e;have J:U ((l.take (i+j)).flatMap (Ab d)=l.flatMap (Ab d)):=by show (l.take (i+j)).flatMap (Ab d)=l.flatMap (Ab d);rw[a2.o,X.o,UC]
     go_wp2;go_ret;have q:=E.o;rw[J.o] at q;exact⟨a,c,by rw[show (n++BZ lo hi (Ab (d+1) (.inr l))).length=m from q.1.symm];rfl,by rw[show (n++BZ lo hi (Ab (d+1) (.inr l))).length=m from q.1.symm];exact q.2.1,q.2.2⟩
end Go.Proofs.YtcnollkkigiobaaGreat
