import Derived.Test.YtcnollkkigiobaaGreatNv28
import Derived.Test.YtcnollkkigiobaaGreatNv35
set_option linter.unusedVariables false
set_option linter.unusedSimpArgs false
set_option maxRecDepth 100000
set_option maxHeartbeats 90000000
namespace Go.Proofs.YtcnollkkigiobaaGreat
open Go Go.Deep Go.RowKit Go.Proofs.Tryz
theorem QH {j:Nat} (d:j<6) {p:Qd} {m:Nat} (e:Jw (A7 j p) m) (a:Cx (A7 j p) 4) {K:List ByteArray} (l:∀k,k∈K->k.size=16):BZ (FJ (A7 j p) m) (JD (A7 j p) m) K=K.filter (λk=>Cr (Al j k) p):=by
 cases m with
 | zero=>show BZ { data:=#[] } { data:=#[] } K=_;rw[Ns,List.filter_eq_self.2];intro k _;exact (Gm d e a k).2 (λi f=>absurd f (Uu _))
 | succ m=>
  have g:(JD (A7 j p) (m+1)).toList.isEmpty=false:=by rw[ByteArray.toList_eq,GL];cases EJ (A7 j p) m <;> rfl
  unfold BZ;refine List.filter_congr (λk n=>?_);have h:=IX d e a (l k n);unfold NS;rw[g,Bool.false_or];cases hf:Cr (Al j k) p with
  | true=>obtain⟨b,c⟩:=h.2 hf;rw[b,c];rfl
  | false=>
   cases b:Op.bytesLess k.toList (FJ (A7 j p) (m+1)).toList with
   | true=>rfl
   | false=>
    cases c:Op.bytesLess k.toList (JD (A7 j p) (m+1)).toList with
    | false=>rfl
    | true=>exact absurd (h.1 ⟨b,c⟩) (by rw[hf];decide)
theorem PP (j:Nat) (H:j<6) (p:Qd) (Y:Cx (A7 j p) 4) (b o:Nat) (w:World) (n:Nat) (t:Ro n) (v:Value) (hh:Nat) (V:w.cell? (ad b o)=some (.func (.func (BY j)) #[] #[])) (aw:w.cell? (ad b (o+1))=some v)
  (ht:FZ (λbb=>bb<w.heap.size) w n t v) (hb:Aq n true t hh) (I:BI (Ab n t)) (E:(Ab n t).length<=300) (hK:∀k,k∈Ab n t->k.size=16) (L:List Qd) (hL:L=((Ab n t).map (Al j)).filter (λq=>Cr q p)) :
  UO 37 #[.pointer (some (ad b o)),qv p] w (FM w L):=by
 obtain⟨m,hm⟩:=Na (A7 j p);have M:∀W:World,UO 72 #[.func (.func (BY j)) #[] #[],.agg #[iv p.s,iv p.p,iv p.o,iv p.g]] W (UP W (.tuple #[.string (FJ (A7 j p) m),.string (JD (A7 j p) m)])):=λW=>KZ j H p m hm (λi hi=>(Y i hi).1) W;have d:=QH H hm Y hK;obtain⟨lo,Q⟩:=gn (FJ (A7 j p) m);obtain⟨hi,J⟩:=gn (JD (A7 j p) m);rw[<- Q,<- J] at d;simp only[<- Q,<- J] at M;have aj:=Ae M;have a5:=IU lo hi w.heap.size w n t v true hh ht hb I (by omega);obtain⟨K,h⟩:=gn (BZ lo hi (Ab n t));have ac:U ((∀k,k∈K->k.size=16)/\L=K.map (Al j)):=by
  refine⟨λk hk=>hK k ?_,?_⟩;.rw[h,d] at hk;exact (List.mem_filter.1 hk).1
  .rw[hL,h,d,List.filter_map];rfl
 have a0:K.length<=300:=by rw[h];exact Uy (List.length_filter_le _ _) E
 have T:=Uo _ _ V;have HT:U (∀W:World,Bl w W->W.cell? (ad b o)=some (.func (.func (BY j)) #[] #[])/\W.cell? (ad b (o+1))=some v):=λW G=>⟨by rw[G.cell (show b<w.heap.size from T)];exact V,by rw[G.cell (show b<w.heap.size from T)];exact aw⟩;have HJ:=Ae H;obtain⟨i0,az,an,ax,ah⟩:=info_parts info34;have HI:=Ae (ai az (ai an (ai ax ah)));have ap:(Ab n t).length<=1048576:=by omega
 clear az an ax ah H Y V aw ht hb I hK hL hm M d Q J T;rcases a5 with ⟨pp,rfl,a⟩|⟨pp,rfl,a⟩;all_goals
  first
   | focus
    have HC:U (∀W:World,Bl w W->UO 203 #[.pointer (some pp),.slice none 0 0,.string lo,.string hi] W (GR w.heap.size W K)):=λW G=>by
     have:=a W none 0 0 [] G G.size (World.ownsRow_nil _ _ _ _) rfl (by omega)
     rw[List.nil_append,<- h] at this
     exact this
   | focus
    have HC:U (∀W:World,Bl w W->UO 186 #[.pointer (some pp),.slice none 0 0,.string lo,.string hi] W (GR w.heap.size W K)):=λW G=>by
     have:=a W none 0 0 [] G G.size (World.ownsRow_nil _ _ _ _) rfl (by simp;omega)
     rw[List.nil_append,<- h] at this
     exact this
  clear a ap h E
  unfold qv
  obtain⟨c0,c1⟩:=HT.o _ (Aa w (.cells #[iv p.s,iv p.p,iv p.o,iv p.g] 34))
  have pb:=Bx.new w #[iv p.s,iv p.p,iv p.o,iv p.g] 34
  have y0:=pb.cell 0
  have y1:=pb.cell 1
  have y2:=pb.cell 2
  have y3:=pb.cell 3
  simp at y0 y1 y2 y3
  go_enter func37,ntmps37
  go_wp2
  go_region_with (go_at_call 72;refine (aj.o _).mono ?_;rintro e w2 ⟨rfl,af⟩)
  all_goals
   have H2:=Ae (((Aa w (.cells #[iv p.s,iv p.p,iv p.o,iv p.g] 34)).drew).trans (af.mono (by simp)))
   obtain⟨d0,d1⟩:=HT.o w2 H2.o
   clear af c0 c1 y0 y1 y2 y3 pb aj
   go_wp2_with fail
   (with_reducible refine (HC.o _ H2.o).mono ?_)
   rintro e x ⟨a3,c3,rfl,aa,au⟩
   obtain⟨kl,z⟩:=gn K.length
   have X:=Ae z
   have S3:U (Cg x a3 kl (gt K)/\Bl w x):=by
    obtain⟨a6,c6,e6,q,_⟩:=BW aa rfl
    injection e6 with e6 _ _
    subst e6
    exact⟨by rw[z];exact q.rd,H2.o.trans au⟩
   rw[<- z] at a0 ⊢
   clear z aa au HC d0 d1 H2
   go_wp2
   go_loopw [5,9,27] (λa1 _ i wr=>∃(k:Nat) (R:List Qd),k<=kl/\i=iv k/\R=(K.take k).map (Al j)/\wr.ownsRow x.heap.size 34 4 a1 R.length (AL R)/\Bl x wr) (λ_ _ i _=>kl-(intOf i).toNat)
   case atStart=>exact⟨0,[],Us _,rfl,rfl,World.ownsRow_nil _ _ _ _,Up _ _⟩
   case round=>
    obtain⟨k,R,hk,rfl,hR,y,F⟩:=hrel
    obtain⟨ar,cr,er,_⟩:=Af y
    subst er
    have ab:R.length=k:=by rw[hR,UD,UE,<- X.o];omega
    have r:=Ae (ai y (ai F (ai hR ab)))
    clear y F hR ab
    obtain⟨D,A⟩:=gn R.length
    have N:=Ae A
    have ao:=A.trans r.o.2.2.2
    have a8:D<=k:=by omega
    rw[<- A] at r ⊢
    clear A ao
    have k0:(0:Int)<=(k:Int):=by omega
    have av:=Ae (S3.o.2.trans (r.o.2.1.mono S3.o.2.size))
    by_cases ak:k<kl
    .have k1:(k:Int)<(kl:Int):=by omega
     have O:k<K.length:=by rw[<- X.o];exact ak
     obtain⟨bb,oo,a9,s1⟩:=(S3.o.1.below r.o.2.1).cellOf k ak
     obtain⟨f,l⟩:=gn (gt K k)
     rw[<- l] at s1
     have ay:U (f=K[k]/\f∈K):=by
      have e:f=K[k]:=by rw[l,M7 O]
      exact⟨e,by rw[e];exact UA O⟩
     obtain⟨l0,_⟩:=HT.o wr av.o
     clear l
     subst a9
     have ag:=Ae (LM j HJ.o f (ac.o.1 f ay.o.2) wr)
     go_wp2_with fail
     (with_reducible refine ag.o.mono ?_)
     rintro e C ⟨rfl,B⟩
     obtain⟨c,P⟩:=gn (Al j f)
     have a4:=Ae P
     rw[<- P]
     clear P
     unfold qv
     have ba:=B.size
     have a2:=r.o.2.1.size
     have am:U (C.ownsRow x.heap.size 34 4 (.slice ar D cr) D (AL R)/\Bl x C/\Bl w C):=by
      have q2:=r.o.2.1.trans (B.mono a2)
      exact⟨Ag r.o.1 B,q2,S3.o.2.trans (q2.mono S3.o.2.size)⟩
     have ae:x.heap.size<=C.heap.size:=by omega
     have S:U ((C.alloc (.cells #[iv c.s,iv c.p,iv c.o,iv c.g] 34)).ownsRow x.heap.size 34 4 (.slice ar D cr) D (AL R)/\(∀j u,(AL [c])[j]?=some u->(C.alloc (.cells #[iv c.s,iv c.p,iv c.o,iv c.g] 34)).cell? (ad C.heap.size j)=some u)):=by
      refine⟨Ag am.o.1 (Aa _ _),λj u H=>?_⟩
      rw[(Bx.new C #[iv c.s,iv c.p,iv c.o,iv c.g] 34).cell j]
      simpa[AL] using H
     clear B ag l0 s1
     go_wp2_with (at_builtin;refine wpList_append_own_at _ rfl _ _ 28 rfl x.heap.size 34 i0 _ 4 32 underlying28 HI.o.1 HI.o.2.1 HI.o.2.2.1 HI.o.2.2.2 rfl (by decide) (.slice ar D cr) D (AL R) rfl S.o.1 (ad C.heap.size 0) 1 1 (AL [c]) rfl rfl (λj u H=>by rw[Addr.add_lit,UI];exact S.o.2 j u H) (by intro u hu;simp[AL] at hu;rcases hu with rfl|rfl|rfl|rfl <;> rfl) (by unfold maxLen;omega) (by omega) (by simp;omega) ?_)
     intro v7 w7 Z al _ aq
     have H7:U (w7.ownsRow x.heap.size 34 4 v7 (R++[c]).length (AL (R++[c]))/\Bl x w7):=by
      refine⟨by rw[EA,Uz,<- N.o];exact Z,?_⟩
      exact (am.o.2.1.trans ((Aa _ _).mono ae)).grown al (by simp;omega) (λg e=>(Ah r.o.1 g e).1)
     have HN:U (R++[c]=(K.take (k+1)).map (Al j)):=by
      show R++[c]=_
      rw[List.take_add_one,Ut O,List.map_append,<- r.o.2.2.1,a4.o,ay.o.1]
      rfl
     obtain⟨a7,c7,e7,_⟩:=Af Z
     subst e7
     clear Z al aq S
     go_wp2
     go_roundw
     case rel=>exact⟨k+1,R++[c],by omega,by go_num,HN.o,H7.o⟩
     case measure=>simp[intOf];omega
    .obtain rfl:k=kl:=by omega
     have k1:¬ (k:Int)<(k:Int):=by omega
     have HF:U (D=L.length/\wr.ownsRow w.heap.size 34 4 (.slice ar L.length cr) L.length (AL L)/\Bl w wr):=by
      have e:R=L:=by rw[r.o.2.2.1,ac.o.2,X.o,UC]
      have ho:=r.o.1
      rw[N.o,e] at ho
      exact⟨by rw[<- e];exact N.o,EZ ho S3.o.2.size,av.o⟩
     go_wp2
     go_ret
     exact⟨ar,cr,by rw[<- HF.o.1];rfl,HF.o.2⟩
theorem SN (a:Option Addr) (n c:Nat) (M:Nat->Nat) (T:Nat->Nat->Tn) (p:Qd) (perm:Int) (B:Bool) (L:List Qd) (w:World) (h:CO w a n M T) (hn:n<=1048576) (hN:BF n M T)
  (V:∀w,UO 28 #[iv perm,qv p] w (UP w (.bool B)))
  (hO:B=true->∃j:Nat,j<6/\perm=(j:Int)/\Cx (A7 j p) 4)
  (hL:(¬ (VI n M T/\B=true)/\L=[])\/(VI n M T/\B=true/\∃j:Nat,j<6/\perm=(j:Int)/\∃t,BE (M j) (T j) t/\L=((Ab 21 t).map (Al j)).filter (λq=>Cr q p))) :
  UO 11 #[.agg #[.slice a n c],qv p,iv perm] w (FM w L):=by
 have Z:U (∀W:World,Bl w W->UO 36 #[.agg #[.slice a n c]] W (Nb W a n c M T)):=λW H=>DR a n c M T W (h.below H) hn hN;have HB:U (∀O1 O2:Obj,Bl w ((w.alloc O1).alloc O2)):=λ_ _=>(Aa _ _).alloc (by simp) _;unfold qv at V;have HE:U (∀w,UO 28 #[iv perm,.agg #[iv p.s,iv p.p,iv p.o,iv p.g]] w (UP w (.bool B))):=V;have HO:U (B=true->∃j:Nat,j<6/\perm=(j:Int)/\Cx (A7 j p) 4):=hO;have l:U ((¬ (VI n M T/\B=true)/\L=[])\/(VI n M T/\B=true/\∃j:Nat,j<6/\perm=(j:Int)/\∃t,BE (M j) (T j) t/\L=((Ab 21 t).map (Al j)).filter (λq=>Cr q p))):=hL;clear h hN V hO hL;unfold qv;obtain⟨f,r⟩:∃f,f=(w.alloc (.cells #[.slice a n c] 32)).alloc (.cells #[iv p.s,iv p.p,iv p.o,iv p.g] 34):=⟨_,rfl⟩;have u:U (Bx f (w.heap.size+1) 34 #[iv p.s,iv p.p,iv p.o,iv p.g]/\Bl w f/\f.heap.size=w.heap.size+2):=by have b2:=Bx.new (w.alloc (.cells #[.slice a n c] 32)) #[iv p.s,iv p.p,iv p.o,iv p.g] 34;simp only[UF] at b2;rw[r];exact⟨b2,HB.o _ _,by simp⟩
 go_enter func11,ntmps11;go_wp2_with fail
 rw[<- r];clear r;(with_reducible refine (Z.o f u.o.2.1).mono ?_)
 rintro e F hr;rcases hr with ⟨rfl,C,H⟩|⟨rfl,K,A,I⟩
 .have x:U (L=[]/\Bl w F):=by
   refine⟨?_,u.o.2.1.trans (H.mono u.o.2.1.size)⟩;rcases l.o with ⟨_,q⟩|⟨q,_⟩;.exact q
   .exact absurd q C
  clear C H;go_wp2;go_ret;exact⟨none,0,by rw[x.o.1];rfl,by rw[x.o.1];exact World.ownsRow_nil _ _ _ _,x.o.2⟩
 have e6:n=6:=K.1;subst e6;have z:U (VI 6 M T/\IS f F a c M T 6 A/\Bl w F):=⟨K,I,u.o.2.1.trans (I.bel.mono u.o.2.1.size)⟩;have d:Bx F (w.heap.size+1) 34 #[iv p.s,iv p.p,iv p.o,iv p.g]:=(I.bel.block _ (by rw[u.o.2.2];omega)).trans u.o.1;have y0:=d.cell 0;have y1:=d.cell 1;have y2:=d.cell 2;have y3:=d.cell 3;simp at y0 y1 y2 y3;have Q:U (Bx F (w.heap.size+1) 34 #[iv p.s,iv p.p,iv p.o,iv p.g]):=d;clear K I d Z;go_wp2_with fail
 (with_reducible refine (HE.o _).mono ?_)
 rintro e m ⟨rfl,i⟩;have G:U (IS f m a c M T 6 A/\Bl w m):=⟨z.o.2.1.keep i,z.o.2.2.trans (i.mono z.o.2.2.size)⟩;have d:Bx m (w.heap.size+1) 34 #[iv p.s,iv p.p,iv p.o,iv p.g]:=(i.block _ Q.o.lt).trans Q.o;have x0:=d.cell 0;have x1:=d.cell 1;have x2:=d.cell 2;have x3:=d.cell 3;simp at x0 x1 x2 x3;clear i y0 y1 y2 y3 d Q HE;cases B with
 | false=>
  have x:U (L=[]):=by
   rcases l.o with ⟨_,q⟩|⟨_,q,_⟩;.exact q
   .cases q
  go_wp2;go_ret;exact⟨none,0,by rw[x.o];rfl,by rw[x.o];exact World.ownsRow_nil _ _ _ _,G.o.2⟩
 | true=>
 obtain⟨j,X,ep,D⟩:=HO.o rfl;subst ep;have Y:U (UO 37 #[.pointer (some (ad (f.heap.size+1) (j*2))),.agg #[iv p.s,iv p.p,iv p.o,iv p.g]] m.drew (FM m.drew L)):=by
  have N:=G.o.1.keep ((Up m.heap.size m).drew);obtain⟨h0,t,t',hh,v,S,O,q3,q4,q5,q6,q7⟩:=N.xt j X;obtain⟨s,hs,hl,hg⟩:=z.o.1.2.1 j X;have es:=CR hs S;subst es;rw[O] at hl hg;refine PP j X p D (f.heap.size+1) (j*2) m.drew (M j) t v hh (by rw[N.xb.cell];exact h0) (by rw[N.xb.cell];exact q7) (q6.mono (Uq _) (λb _ R=>⟨R,rfl⟩)) q3 (by rw[<- O];exact Bz S.2.2.2.2.1) hl (λk hk=>(hg k hk).1) L ?_;rcases l.o with ⟨q,_⟩|⟨_,_,j',_,ej,t0,P,J⟩;.exact absurd ⟨z.o.1,rfl⟩ q
  .have e:j'=j:=by omega
   subst e;have e0:=CR P S;subst e0;rw[J,O]
 have j0:(0:Int)<=(j:Int):=by omega
 have j1:(j:Int)<6:=by omega
 clear D l;go_wp2;go_region_with (go_at_call 37;(with_reducible refine Y.o.mono ?_);rintro e w5 ⟨a5,c5,rfl,E,y⟩)
 all_goals
  have H5:=Ae (ai (EZ E G.o.2.drew.size) (G.o.2.drew.trans (y.mono G.o.2.drew.size)))
  clear y E
  go_wp2
  go_ret
  exact⟨a5,c5,rfl,H5.o⟩
theorem Sl (a:Option Addr) (n c:Nat) (M:Nat->Nat) (T:Nat->Nat->Tn) (p:Qd) (perm:Int) (B:Bool) (L:List Qd) (w:World) (h:CO w a n M T) (hn:n<=1048576) (hN:BF n M T)
  (S:∀w,UO 28 #[iv perm,qv p] w (UP w (.bool B)))
  (hO:B=true->∃j:Nat,j<6/\perm=(j:Int)/\Cx (A7 j p) 4)
  (hL:(¬ (VI n M T/\B=true)/\L=[])\/(VI n M T/\B=true/\∃j:Nat,j<6/\perm=(j:Int)/\∃t,BE (M j) (T j) t/\L=((Ab 21 t).map (Al j)).filter (λq=>Cr q p))) :
  UO 27 #[.agg #[.slice a n c],qv p,iv perm] w (UP w (iv (L.length:Int))):=by
 have Y:U (∀W:World,Bl w W->UO 36 #[.agg #[.slice a n c]] W (Nb W a n c M T)):=λW E=>DR a n c M T W (h.below E) hn hN;have HB:U (∀O1 O2:Obj,Bl w ((w.alloc O1).alloc O2)):=λ_ _=>(Aa _ _).alloc (by simp) _;unfold qv at S;have HE:U (∀w,UO 28 #[iv perm,.agg #[iv p.s,iv p.p,iv p.o,iv p.g]] w (UP w (.bool B))):=S;have HO:U (B=true->∃j:Nat,j<6/\perm=(j:Int)/\Cx (A7 j p) 4):=hO;have l:U ((¬ (VI n M T/\B=true)/\L=[])\/(VI n M T/\B=true/\∃j:Nat,j<6/\perm=(j:Int)/\∃t,BE (M j) (T j) t/\L=((Ab 21 t).map (Al j)).filter (λq=>Cr q p))):=hL;clear h hN S hO hL;unfold qv;obtain⟨f,r⟩:∃f,f=(w.alloc (.cells #[.slice a n c] 32)).alloc (.cells #[iv p.s,iv p.p,iv p.o,iv p.g] 34):=⟨_,rfl⟩;have u:U (Bx f (w.heap.size+1) 34 #[iv p.s,iv p.p,iv p.o,iv p.g]/\Bl w f/\f.heap.size=w.heap.size+2):=by have Z:=Bx.new (w.alloc (.cells #[.slice a n c] 32)) #[iv p.s,iv p.p,iv p.o,iv p.g] 34;simp only[UF] at Z;rw[r];exact⟨Z,HB.o _ _,by simp⟩
 go_enter func27,ntmps27;go_wp2_with fail
 rw[<- r];clear r;(with_reducible refine (Y.o f u.o.2.1).mono ?_)
 rintro e D hr;rcases hr with ⟨rfl,z,E⟩|⟨rfl,J,A,F⟩
 .have G:U (L=[]/\Bl w D):=by
   refine⟨?_,u.o.2.1.trans (E.mono u.o.2.1.size)⟩;rcases l.o with ⟨_,q⟩|⟨q,_⟩;.exact q
   .exact absurd q z
  clear z E;go_wp2;go_ret;exact⟨by rw[G.o.1];rfl,G.o.2⟩
 have e6:n=6:=J.1;subst e6;have y:U (VI 6 M T/\IS f D a c M T 6 A/\Bl w D):=⟨J,F,u.o.2.1.trans (F.bel.mono u.o.2.1.size)⟩;have d:Bx D (w.heap.size+1) 34 #[iv p.s,iv p.p,iv p.o,iv p.g]:=(F.bel.block _ (by rw[u.o.2.2];omega)).trans u.o.1;have y0:=d.cell 0;have y1:=d.cell 1;have y2:=d.cell 2;have y3:=d.cell 3;simp at y0 y1 y2 y3;have P:U (Bx D (w.heap.size+1) 34 #[iv p.s,iv p.p,iv p.o,iv p.g]):=d;clear J F d Y;go_wp2_with fail
 (with_reducible refine (HE.o _).mono ?_)
 rintro e m ⟨rfl,i⟩;have H:U (IS f m a c M T 6 A/\Bl w m):=⟨y.o.2.1.keep i,y.o.2.2.trans (i.mono y.o.2.2.size)⟩;have d:Bx m (w.heap.size+1) 34 #[iv p.s,iv p.p,iv p.o,iv p.g]:=(i.block _ P.o.lt).trans P.o;have x0:=d.cell 0;have x1:=d.cell 1;have x2:=d.cell 2;have x3:=d.cell 3;simp at x0 x1 x2 x3;clear i y0 y1 y2 y3 d P HE;cases B with
 | false=>
  have G:U (L=[]):=by
   rcases l.o with ⟨_,q⟩|⟨_,q,_⟩;.exact q
   .cases q
  go_wp2;go_ret;exact⟨by rw[G.o];rfl,H.o.2⟩
 | true=>
 obtain⟨j,V,ep,C⟩:=HO.o rfl;subst ep;have X:U (UO 60 #[.pointer (some (ad (f.heap.size+1) (j*2))),.agg #[iv p.s,iv p.p,iv p.o,iv p.g]] m.drew λe w'=>e=.returned (iv (L.length:Int))/\Below m.drew.heap.size m.drew w'):=by
  have K:=H.o.1.keep ((Up m.heap.size m).drew);obtain⟨h0,t,t',hh,v,R,N,q3,q4,q5,q6,q7⟩:=K.xt j V;obtain⟨s,hs,hl,hg⟩:=y.o.1.2.1 j V;have es:=CR hs R;subst es;rw[N] at hl hg;refine Ok j V p C (f.heap.size+1) (j*2) m.drew (M j) t v hh (by rw[K.xb.cell];exact h0) (by rw[K.xb.cell];exact q7) (q6.mono (Uq _) (λb _ Q=>⟨Q,rfl⟩)) q3 (by rw[<- N];exact Bz R.2.2.2.2.1) hl (λk hk=>(hg k hk).1) L ?_;rcases l.o with ⟨q,_⟩|⟨_,_,j',_,ej,t0,O,I⟩;.exact absurd ⟨y.o.1,rfl⟩ q
  .have e:j'=j:=by omega
   subst e;have e0:=CR O R;subst e0;rw[I,N]
 have j0:(0:Int)<=(j:Int):=by omega
 have j1:(j:Int)<6:=by omega
 clear C l;go_wp2;go_region_with (go_at_call 60;(with_reducible refine X.o.mono ?_);rintro e w5 ⟨rfl,x⟩)
 all_goals
  have H5:=Ae (H.o.2.drew.trans (x.mono H.o.2.drew.size))
  clear x
  go_wp2
  go_ret
  exact⟨rfl,H5.o⟩
end Go.Proofs.YtcnollkkigiobaaGreat
