import Derived.Test.YtcnollkkigiobaaGreatNv16
set_option linter.unusedVariables false
set_option linter.unusedSimpArgs false
set_option maxRecDepth 100000
set_option maxHeartbeats 90000000
namespace Go.Proofs.YtcnollkkigiobaaGreat
open Go Go.Deep Go.RowKit Go.Proofs.Tryz
theorem Jf (N:Nat->Tn) (G b o n c x:Nat) (E D:Int) (hk:Bool) (lk:ByteArray) (d:Nat) (w:World) (ka da:Option Addr) (kc dc:Nat) (h:DF w G b o n c (x+1) D lk hk) (hx:x<n) (hn:n<=5000) (bv:(N x).lf=false) (a7:Bg (N x)) (hK:∀W:World,Below G w W->Cg W ka (N x).kn (N x).ks) (bz:∀W:World,Below G w W->Rd .i64 W da (N x).dn (N x).kd) (aw:0<=E) (dh:E+1<=100000)
  (a4:∀(W:World) (y:Nat) (D2:Int) (R:ByteArray) (K:Bool),Below G w W->x+1<=y->y<=n->DF W G b o n c y D2 R K->UO 109 #[pt G,iv (E+1)] W (Eh N G b o n c y (E+1) D2 K R d W)) :
  UO 134 #[pt G,.agg #[.bool false,.slice ka (N x).kn kc,.slice da (N x).dn dc,iv (N x).ct],iv E] w (Eh N G b o n c x E D hk lk (d+1) w):=by
 have HR:U (DF w G b o n c (x+1) D lk hk):=h;have cl:=h.lt;have HK:U ((∀W:World,Below G w W->Cg W ka (N x).kn (N x).ks)/\(∀W:World,Below G w W->Rd .i64 W da (N x).dn (N x).kd)):=⟨hK,bz⟩;have bm:U (∀(W:World) (y:Nat) (D2:Int) (R:ByteArray) (K:Bool),Below G w W->x+1<=y->y<=n->DF W G b o n c y D2 R K->UO 109 #[pt G,iv (E+1)] W (Eh N G b o n c y (E+1) D2 K R d W)):=a4;have a1:U (∀(t:Ro (d+1)) I f r,Cw N n x E D hk lk (d+1) t I f r->∃l:List (Ro d),t=.inr l/\l.length=(N x).dn/\2<=l.length/\l.length<=4/\(N x).kn+1=l.length/\(N x).ct=((l.flatMap (Ab d)).length:Int)):=λt I f r g=>L6 bv g;have cn:U ((N x).lf=false):=bv;have cq:(N x).kn<=1048576:=a7.1;have ci:(N x).dn<=1048576:=a7.2;have aq:U (∀T : World,w.grownBy T (some G)->¬ (∃(t:Ro (d+1)) (I : Int) (f : Bool) (r : ByteArray),Cw N n x E D hk lk (d+1) t I f r)->∀v,Eh N G b o n c x E D hk lk (d+1) w (.returned (.tuple #[v,.bool false])) T):=λT hg hn v=>⟨hg,v,false,rfl,Or.inr ⟨rfl,hn⟩⟩;obtain⟨m,hm⟩:∃m,(N x).kn=m:=⟨_,rfl⟩;obtain⟨C,ba⟩:∃C,(N x).dn=C:=⟨_,rfl⟩;obtain⟨ct,bj⟩:∃ct,(N x).ct=ct:=⟨_,rfl⟩;have ap:U ((N x).kn=m/\(N x).dn=C/\(N x).ct=ct):=⟨hm,ba,bj⟩;rw[hm] at cq;rw[ba] at ci;rw[hm,ba,bj];rw[hm,ba] at HK;clear h hK bz a4 bv a7 hm ba bj;by_cases bg:C<2\/4<C\/m+1≠C
 .have Y:U (¬ (∃(t:Ro (d+1)) (I : Int) (f : Bool) (r : ByteArray),Cw N n x E D hk lk (d+1) t I f r)):=by rintro⟨t,I,f,r,g⟩;obtain⟨l,_,e1,e2,e3,e4,_⟩:=a1.o t I f r g;obtain⟨q1,q2,_⟩:=ap.o;omega
  have be:(C<2)\/(¬ C<2/\4<C)\/(¬ C<2/\¬ 4<C/\m+1≠C):=by omega
  clear bg;rcases be with h1|⟨h1,h2⟩|⟨h1,h2,h3⟩
  .have i1:(C:Int)<2:=by omega
   have bq : decide ((C:Int)<2)=true:=decide_eq_true i1;have bs : decide (C<2)=true:=decide_eq_true h1;go_enter func134,ntmps134;go_wp2;refine bodyPost_ret (v:=.tuple #[.nilIface,.bool false]) (by simp[results,results134,go_sem]) rfl (aq.o _ (As (Aa _ _)) Y.o _)
  .have i1:¬ (C:Int)<2:=by omega
   have bq : decide ((C:Int)<2)=false:=decide_eq_false i1;have bs : decide (C<2)=false:=decide_eq_false h1;have i2:(4:Int)<(C:Int):=by omega
   have b7 : decide ((4:Int)<(C:Int))=true:=decide_eq_true i2;have b9 : decide (4<C)=true:=decide_eq_true h2;go_enter func134,ntmps134;go_wp2;refine bodyPost_ret (v:=.tuple #[.nilIface,.bool false]) (by simp[results,results134,go_sem]) rfl (aq.o _ (As (Aa _ _)) Y.o _)
  .have i1:¬ (C:Int)<2:=by omega
   have bq : decide ((C:Int)<2)=false:=decide_eq_false i1;have bs : decide (C<2)=false:=decide_eq_false h1;have i2:¬ (4:Int)<(C:Int):=by omega
   have b7 : decide ((4:Int)<(C:Int))=false:=decide_eq_false i2;have b9 : decide (4<C)=false:=decide_eq_false h2;have cs:IntKind.i64.wrap ((C:Int)-1)=(C:Int)-1:=by rw[Uv];omega
   have i3:((m:Int) != (C:Int)-1)=true:=by simp;omega
   go_enter func134,ntmps134;go_wp2;refine bodyPost_ret (v:=.tuple #[.nilIface,.bool false]) (by simp[results,results134,go_sem]) rfl (aq.o _ (As (Aa _ _)) Y.o _)
 .have h1:¬ C<2:=by omega
  have h2:¬ 4<C:=by omega
  have h3:m+1=C:=by omega
  have i1:¬ (C:Int)<2:=by omega
  have bq : decide ((C:Int)<2)=false:=decide_eq_false i1;have bs : decide (C<2)=false:=decide_eq_false h1;have i2:¬ (4:Int)<(C:Int):=by omega
  have b7 : decide ((4:Int)<(C:Int))=false:=decide_eq_false i2;have b9 : decide (4<C)=false:=decide_eq_false h2;have cs:IntKind.i64.wrap ((C:Int)-1)=(C:Int)-1:=by rw[Uv];omega
  have i3:((m:Int) != (C:Int)-1)=false:=by simp;omega
  have H3:U (m+1=C):=h3;clear bg h3;obtain⟨bd,od,rfl⟩:∃bd od,da=some (ad bd od):=by
   rcases HK.o.2 w (Up _ _) with q|⟨bd,od,e,_⟩;.omega
   .exact⟨bd,od,e⟩
  have b0:U (∀W:World,Below G w W->∀i,i<C->W.cell? (ad bd (od+i))=some (iv ((N x).kd i))):=by
   intro W hW i hi;rcases HK.o.2 W hW with q|⟨de,dj,e,hc⟩;.omega
   .injection e with e;injection e with e1 e2;subst e1;subst e2;exact hc i hi
  obtain⟨Q,V,rfl⟩:∃Q V,ka=some (ad Q V):=by
   rcases HK.o.1 w (Up _ _) with q|⟨Q,V,e,_⟩;.have:=H3.o;omega
   .exact⟨Q,V,e⟩
  go_enter func134,ntmps134;go_upto_region 5 with fail
  have S1:U (Da w ((w.alloc (.cells #[.bool false,.slice (some (ad Q V)) m kc,.slice (some (ad bd od)) C dc,iv ct] 168)).alloc (.cells #[iv 0,.slice none 0 0] 179)) G (w.heap.size+1) #[.bool false,.slice (some (ad Q V)) m kc,.slice (some (ad bd od)) C dc,iv ct] d [] 0 none 0 []/\DF ((w.alloc (.cells #[.bool false,.slice (some (ad Q V)) m kc,.slice (some (ad bd od)) C dc,iv ct] 168)).alloc (.cells #[iv 0,.slice none 0 0] 179)) G b o n c (x+1) D lk hk):=by refine⟨Da.nil ⟨(Bx.new _ _ _).alloc _,?_,by omega,cl,World.ownsRow_nil _ _ _ _,λj hj=>absurd hj (Uu _),As ((Aa _ _).alloc (by simp) _),rfl⟩,(HR.o.alloc _).alloc _⟩;have q:=Bx.new (w.alloc (.cells #[.bool false,.slice (some (ad Q V)) m kc,.slice (some (ad bd od)) C dc,iv ct] 168)) #[iv 0,.slice none 0 0] 179;simpa using q
  clear HR;generalize ((w.alloc (.cells #[.bool false,.slice (some (ad Q V)) m kc,.slice (some (ad bd od)) C dc,iv ct] 168)).alloc (.cells #[iv 0,.slice none 0 0] 179))=W at S1 ⊢;have g2:=S1.o.1.st.gb.cell 2;have gl:=S1.o.1.st.gb.lt;simp at g2;go_wp2;go_loopw [36] (λi wr=>∃(k:Nat) (B:List (Ro d)) (Dk:Int) (O:Bool) (P:ByteArray) (ca:Option Addr) (cc:Nat) (xs:List Value),k<=C/\i=iv k/\Da w wr G (w.heap.size+1) #[.bool false,.slice (some (ad Q V)) m kc,.slice (some (ad bd od)) C dc,iv ct] d B k ca cc xs/\DF wr G b o n c (x+1+(B.map (Ac d)).sum) Dk P O/\FG N n x E D hk lk d B Dk O P) (λi _=>C-(intOf i).toNat)
  case atStart=>exact⟨0,[],D,hk,lk,none,0,[],Us _,rfl,S1.o.1,S1.o.2,⟨by simp;omega,λj hj=>absurd hj (Uu _),λj hj=>absurd hj (Uu _),λj hj=>absurd hj (Uu _),.inl ⟨rfl,rfl⟩,⟨rfl,rfl⟩⟩⟩
  case round=>
   obtain⟨k,B,Dk,O,P,ca,cc,xs,di,rfl,cd,bc,an⟩:=hrel;clear S1 g2 gl;have a:U (Da w wr G (w.heap.size+1) #[.bool false,.slice (some (ad Q V)) m kc,.slice (some (ad bd od)) C dc,iv ct] d B k ca cc xs/\DF wr G b o n c (x+1+(B.map (Ac d)).sum) Dk P O):=⟨cd,bc⟩;have ag:U (FG N n x E D hk lk d B Dk O P):=an;have r1:=bc.cell 1;have cz:=bc.lt;have co:=an.le;obtain⟨y,hy⟩:∃y,y=x+1+(B.map (Ac d)).sum:=⟨_,rfl⟩;rw[<- hy] at r1 co;have ce : wr.cell? (ad G 1)=some (iv (y:Int)):=r1;have HY:U (y=x+1+(B.map (Ac d)).sum):=hy;clear r1 cd bc an hy;by_cases a8:k<C
   .have c8:(0:Int)<=(k:Int):=by omega
    have dg:(k:Int)<(C:Int):=by omega
    have ck:=b0.o wr (B9 a.o.1.st.gr (by omega) (Uq _)) k a8;by_cases ar:(N x).kd k=(y:Int)
    .have bp:U ((N x).kd B.length=((x+1+(B.map (Ac d)).sum:Nat):Int)):=by show (N x).kd B.length=((x+1+(B.map (Ac d)).sum:Nat):Int);rw[a.o.1.st.len,ar,HY.o]
     rw[ar] at ck;clear ar;go_wp2_with fail
     refine (bm.o wr y Dk P O (B9 a.o.1.st.gr (by omega) (Uq _)) (by have:=HY.o;omega) (by omega) (by rw[HY.o];exact a.o.2)).mono ?_;rintro e S ⟨au,v,ok,rfl,hr⟩;have aj:U (Da w S G (w.heap.size+1) #[.bool false,.slice (some (ad Q V)) m kc,.slice (some (ad bd od)) C dc,iv ct] d B k ca cc xs):=a.o.1.read au;cases ok with
     | false=>
      have Y:U (¬ (∃(t:Ro (d+1)) (I : Int) (f : Bool) (r : ByteArray),Cw N n x E D hk lk (d+1) t I f r)):=by
       rintro⟨t2,D2,K,R,g⟩;obtain⟨l,rfl,e1,_⟩:=a1.o t2 D2 K R g;have ac:B.length<l.length:=by rw[a.o.1.st.len,e1,ap.o.2.1];exact a8
       obtain⟨_,q2,h2,l2,q3⟩:=FA aw g ag.o ac;rcases hr with ⟨e,_⟩|⟨_,e⟩;.cases e
       .rw[HY.o] at e;exact e ⟨_,_,_,_,q3⟩
      have a0:U (∀z,w.grownBy (S.drewN z) (some G)):=λz=>Ao (Ao a.o.1.st.gr au) (As (Ai (Up _ _) z));clear hr au ce ck;go_wp2;go_quiet (fail)
      go_wp2;refine bodyPost_ret (v:=.tuple #[.nilIface,.bool false]) (by simp[results,results134,go_sem]) rfl (aq.o _ (a0.o _) Y.o _)
     | true=>
      obtain⟨t,I,f,r,ax,a2,b3⟩:∃(t:Ro d) (I : Int) (f : Bool) (r : ByteArray),Cw N n y (E+1) Dk O P d t I f r/\DF S G b o n c (y+Ac d t) I r f/\GS wr.heap.size S d t v:=by
       rcases hr with ⟨_,e⟩|⟨e,_⟩;.exact e
       .cases e
      rw[HY.o] at ax a2;have F:U (wr.grownBy S (some G)/\Cw N n (x+1+(B.map (Ac d)).sum) (E+1) Dk O P d t I f r/\DF S G b o n c (x+1+(B.map (Ac d)).sum+Ac d t) I r f/\GS wr.heap.size S d t v):=⟨au,ax,a2,b3⟩;have a0:U (∀z,w.grownBy (S.drewN z) (some G)):=λz=>Ao (Ao a.o.1.st.gr au) (As (Ai (Up _ _) z));clear hr au ce ck ax a2 b3;have g1:=aj.o.st.gb.cell 1;have ay:=aj.o.st.gb.lt;simp at g1;obtain⟨hh,ak,_⟩:=F.o.2.1.bal;rw[show decide (E+1=0)=false from decide_eq_false (by omega)] at ak;by_cases a9:k=0
      .have jk:¬ (0:Int)<(k:Int):=by omega
       have cv : decide ((0:Int)<(k:Int))=false:=decide_eq_false jk;have cj : decide (0<k)=false:=decide_eq_false (by omega);have am:U (FG N n x E D hk lk d (B++[t]) I f r):=ag.o.more aw F.o.2.1 bp.o (λbr=>absurd (a.o.1.st.len.trans a9) br);obtain⟨p,ev⟩:∃p,v=.iface 204 (.pointer (some p))\/v=.iface 174 (.pointer (some p)):=by
        rcases CU (GS.tat F.o.2.2.2) ak with ⟨p,e,_⟩|⟨p,e,_⟩;.exact⟨p,Or.inl e⟩
        .exact⟨p,Or.inr e⟩
       clear ak a9;rcases ev with rfl|rfl
       .go_wp2;go_quiet (fail)
        have s:U (Da w (S.drewN nq) G (w.heap.size+1) #[.bool false,.slice (some (ad Q V)) m kc,.slice (some (ad bd od)) C dc,iv ct] d B k ca cc xs):=aj.o.read (As (Ai (Up _ _) nq));have H:U (wr.grownBy (S.drewN nq) (some G)/\Cw N n (x+1+(B.map (Ac d)).sum) (E+1) Dk O P d t I f r/\DF (S.drewN nq) G b o n c (x+1+(B.map (Ac d)).sum+Ac d t) I r f/\GS wr.heap.size (S.drewN nq) d t (.iface 204 (.pointer (some p)))):=⟨Ao F.o.1 (As (Ai (Up _ _) nq)),F.o.2.1,F.o.2.2.1.below (Ai (Up _ _) nq),F.o.2.2.2.below (Ai (Up _ _) nq)⟩;clear aj F a0 g1 ay;generalize (S.drewN nq)=w2 at s H ⊢;obtain⟨i0,hi,ae,af,ah⟩:=info_parts info68;have HI:U (prog.info? 68=some i0/\i0.zero=some .nilIface/\i0.size=1/\i0.bytes=16):=⟨hi,ae,af,ah⟩;clear hi ae af ah;have n1:=s.o.st.nbx.cell 1;have nf:=s.o.st.nbx.frozen 1;have nl:=s.o.st.nbx.lt;simp at n1;have HO:U ((w2.alloc (.cells #[.iface 204 (.pointer (some p))] 68)).ownsRow (w.heap.size+1+1) 68 1 (.slice ca k cc) k xs):=Ag s.o.st.own (Aa _ _);go_wp2_with (at_builtin;refine wpList_append_own_at _ rfl _ _ 175 rfl (w.heap.size+1+1) 68 i0 .nilIface 1 16 underlying175 HI.o.1 HI.o.2.1 HI.o.2.2.1 HI.o.2.2.2 rfl (by decide) (.slice ca k cc) k xs rfl HO.o (ad w2.heap.size 0) 1 1 [.iface 204 (.pointer (some p))] rfl rfl (cell_one_new _ _ _) (by intro u hu;simp at hu;subst hu;rfl) (by unfold maxLen;omega) (by omega) (by simp;omega) ?_)
        intro v' w5 ho hg _ ab;obtain⟨a5,c5,rfl,_⟩:=Af ho;have J:=(s.o.st.nbx.alloc (.cells #[.iface 204 (.pointer (some p))] 68)).grown hg (λe=>by have:=Ah s.o.st.own _ e;omega);have u1:=J.cell 1;have uf:=J.frozen 1;have ul:=J.lt;simp at u1;have HX:U (Da w (w5.setCell (ad (w.heap.size+1) 1) (.slice a5 (k+1) c5)) G (w.heap.size+1) #[.bool false,.slice (some (ad Q V)) m kc,.slice (some (ad bd od)) C dc,iv ct] d (B++[t]) (k+1) a5 c5 (xs++[.iface 204 (.pointer (some p))])/\DF (w5.setCell (ad (w.heap.size+1) 1) (.slice a5 (k+1) c5)) G b o n c (x+1+((B++[t]).map (Ac d)).sum) I r f):=by
         refine⟨a.o.1.grow H.o.1 H.o.2.2.2 hg ho (by simpa using ab),?_⟩;have q:=((H.o.2.2.1.alloc (.cells #[.iface 204 (.pointer (some p))] 68)).grown hg (λe=>by have:=Ah s.o.st.own _ e;have:=a.o.1.st.rlt;omega)).other (p:=(ad (w.heap.size+1) 1)) (by simp;have:=a.o.1.st.rlt;omega) (.slice a5 (k+1) c5);have e:x+1+(B.map (Ac d)).sum+Ac d t=x+1+((B++[t]).map (Ac d)).sum:=by rw[List.map_append,List.sum_append];simp;omega
         rw[<- e];exact q
        clear ho hg ab J HO a s H n1 nf nl;go_wp2;go_roundw;case rel=>exact⟨k+1,B++[t],I,f,r,a5,c5,_,by omega,by go_num,HX.o.1,HX.o.2,am.o⟩
        case measure=>simp[intOf];omega
       .go_wp2;go_quiet (fail)
        have s:U (Da w (S.drewN nq) G (w.heap.size+1) #[.bool false,.slice (some (ad Q V)) m kc,.slice (some (ad bd od)) C dc,iv ct] d B k ca cc xs):=aj.o.read (As (Ai (Up _ _) nq));have H:U (wr.grownBy (S.drewN nq) (some G)/\Cw N n (x+1+(B.map (Ac d)).sum) (E+1) Dk O P d t I f r/\DF (S.drewN nq) G b o n c (x+1+(B.map (Ac d)).sum+Ac d t) I r f/\GS wr.heap.size (S.drewN nq) d t (.iface 174 (.pointer (some p)))):=⟨Ao F.o.1 (As (Ai (Up _ _) nq)),F.o.2.1,F.o.2.2.1.below (Ai (Up _ _) nq),F.o.2.2.2.below (Ai (Up _ _) nq)⟩;clear aj F a0 g1 ay;generalize (S.drewN nq)=w2 at s H ⊢;obtain⟨i0,hi,ae,af,ah⟩:=info_parts info68;have HI:U (prog.info? 68=some i0/\i0.zero=some .nilIface/\i0.size=1/\i0.bytes=16):=⟨hi,ae,af,ah⟩;clear hi ae af ah;have n1:=s.o.st.nbx.cell 1;have nf:=s.o.st.nbx.frozen 1;have nl:=s.o.st.nbx.lt;simp at n1;have HO:U ((w2.alloc (.cells #[.iface 174 (.pointer (some p))] 68)).ownsRow (w.heap.size+1+1) 68 1 (.slice ca k cc) k xs):=Ag s.o.st.own (Aa _ _);go_wp2_with (at_builtin;refine wpList_append_own_at _ rfl _ _ 175 rfl (w.heap.size+1+1) 68 i0 .nilIface 1 16 underlying175 HI.o.1 HI.o.2.1 HI.o.2.2.1 HI.o.2.2.2 rfl (by decide) (.slice ca k cc) k xs rfl HO.o (ad w2.heap.size 0) 1 1 [.iface 174 (.pointer (some p))] rfl rfl (cell_one_new _ _ _) (by intro u hu;simp at hu;subst hu;rfl) (by unfold maxLen;omega) (by omega) (by simp;omega) ?_)
        intro v' w5 ho hg _ ab;obtain⟨a5,c5,rfl,_⟩:=Af ho;have J:=(s.o.st.nbx.alloc (.cells #[.iface 174 (.pointer (some p))] 68)).grown hg (λe=>by have:=Ah s.o.st.own _ e;omega);have u1:=J.cell 1;have uf:=J.frozen 1;have ul:=J.lt;simp at u1;have HX:U (Da w (w5.setCell (ad (w.heap.size+1) 1) (.slice a5 (k+1) c5)) G (w.heap.size+1) #[.bool false,.slice (some (ad Q V)) m kc,.slice (some (ad bd od)) C dc,iv ct] d (B++[t]) (k+1) a5 c5 (xs++[.iface 174 (.pointer (some p))])/\DF (w5.setCell (ad (w.heap.size+1) 1) (.slice a5 (k+1) c5)) G b o n c (x+1+((B++[t]).map (Ac d)).sum) I r f):=by
         refine⟨a.o.1.grow H.o.1 H.o.2.2.2 hg ho (by simpa using ab),?_⟩;have q:=((H.o.2.2.1.alloc (.cells #[.iface 174 (.pointer (some p))] 68)).grown hg (λe=>by have:=Ah s.o.st.own _ e;have:=a.o.1.st.rlt;omega)).other (p:=(ad (w.heap.size+1) 1)) (by simp;have:=a.o.1.st.rlt;omega) (.slice a5 (k+1) c5);have e:x+1+(B.map (Ac d)).sum+Ac d t=x+1+((B++[t]).map (Ac d)).sum:=by rw[List.map_append,List.sum_append];simp;omega
         rw[<- e];exact q
        clear ho hg ab J HO a s H n1 nf nl;go_wp2;go_roundw;case rel=>exact⟨k+1,B++[t],I,f,r,a5,c5,_,by omega,by go_num,HX.o.1,HX.o.2,am.o⟩
        case measure=>simp[intOf];omega
      .obtain⟨Z,b1⟩:∃Z,k=Z+1:=⟨k-1,by omega⟩;have jk:(0:Int)<(k:Int):=by omega
       have cv : decide ((0:Int)<(k:Int))=true:=decide_eq_true jk;have cw:0<k:=by omega
       have cj : decide (0<k)=true:=decide_eq_true cw;have b2:Z<m:=by have:=H3.o;omega
       have bf:U (k=Z+1):=b1;have c0:IntKind.i64.wrap ((k:Int)-1)=(k:Int)-1:=by rw[Uv];omega
       have c1:(0:Int)<=(k:Int)-1:=by omega
       have c2:(k:Int)-1<(m:Int):=by omega
       have df:((k:Int)-1).toNat=Z:=by omega
       have c7:∀wz,(Instr.indexAt 88 (.slice (some (ad Q V)) m kc) (iv ((k:Int)-1))).run prog wz=.ok (.pointer (some (ad Q (V+Z)))) wz:=λwz=>by rw[show (k:Int)-1=(Z:Int) by omega];exact Tr Q V m kc Z b2 wz
       rcases HK.o.1 S (B9 (Ao a.o.1.st.gr F.o.1) (by omega) (Uq _)) with q|⟨dd,c3,bl,b8⟩;.omega
       have s1:=b8 Z b2;injection bl with bl;injection bl with bx cf;subst bx;subst cf;clear b8 a9 b1;rcases CU (GS.tat F.o.2.2.2) ak with ⟨p,rfl,aa⟩|⟨p,rfl,aa⟩
       .clear ak;have HL:U (∀W:World,Bl S W->UO 205 #[.pointer (some p)] W λe T=>e=.returned (.string (gt (Ab d t) 0))/\T=W):=aa;clear aa;by_cases L:gt (Ab d t) 0=(N x).ks Z
        .have am:U (FG N n x E D hk lk d (B++[t]) I f r):=ag.o.more aw F.o.2.1 bp.o (λ_=>by rw[a.o.1.st.len,show k-1=Z by have:=bf.o;omega];exact L.symm);rw[<- L] at s1;clear L;go_wp2;go_region_held3 (λT=>T.cell? (ad w.heap.size 1)=some (.slice (some (ad Q V)) m kc)/\T.cell? (ad Q (V+Z))=some (.string (gt (Ab d t) 0))) (go_keep) (first|(go_at_call 205;refine (HL.o _ (by first|exact Up _ _|exact (Up _ _).drew)).mono ?_;rintro e w6 ⟨rfl,rfl⟩)|fail)
         have s:U (Da w S.drew G (w.heap.size+1) #[.bool false,.slice (some (ad Q V)) m kc,.slice (some (ad bd od)) C dc,iv ct] d B k ca cc xs):=aj.o.read (As (Up _ _).drew);have H:U (wr.grownBy S.drew (some G)/\Cw N n (x+1+(B.map (Ac d)).sum) (E+1) Dk O P d t I f r/\DF S.drew G b o n c (x+1+(B.map (Ac d)).sum+Ac d t) I r f/\GS wr.heap.size S.drew d t (.iface 204 (.pointer (some p)))):=⟨Ao F.o.1 (As (Up _ _).drew),F.o.2.1,F.o.2.2.1.below (Up _ _).drew,F.o.2.2.2.below (Up _ _).drew⟩;clear aj F a0 g1 ay;generalize S.drew=w2 at s H ⊢;obtain⟨i0,hi,ae,af,ah⟩:=info_parts info68;have HI:U (prog.info? 68=some i0/\i0.zero=some .nilIface/\i0.size=1/\i0.bytes=16):=⟨hi,ae,af,ah⟩;clear hi ae af ah;have n1:=s.o.st.nbx.cell 1;have nf:=s.o.st.nbx.frozen 1;have nl:=s.o.st.nbx.lt;simp at n1;have HO:U ((w2.alloc (.cells #[.iface 204 (.pointer (some p))] 68)).ownsRow (w.heap.size+1+1) 68 1 (.slice ca k cc) k xs):=Ag s.o.st.own (Aa _ _);go_wp2_with (at_builtin;refine wpList_append_own_at _ rfl _ _ 175 rfl (w.heap.size+1+1) 68 i0 .nilIface 1 16 underlying175 HI.o.1 HI.o.2.1 HI.o.2.2.1 HI.o.2.2.2 rfl (by decide) (.slice ca k cc) k xs rfl HO.o (ad w2.heap.size 0) 1 1 [.iface 204 (.pointer (some p))] rfl rfl (cell_one_new _ _ _) (by intro u hu;simp at hu;subst hu;rfl) (by unfold maxLen;omega) (by omega) (by simp;omega) ?_)
         intro v' w5 ho hg _ ab;obtain⟨a5,c5,rfl,_⟩:=Af ho;have J:=(s.o.st.nbx.alloc (.cells #[.iface 204 (.pointer (some p))] 68)).grown hg (λe=>by have:=Ah s.o.st.own _ e;omega);have u1:=J.cell 1;have uf:=J.frozen 1;have ul:=J.lt;simp at u1;have HX:U (Da w (w5.setCell (ad (w.heap.size+1) 1) (.slice a5 (k+1) c5)) G (w.heap.size+1) #[.bool false,.slice (some (ad Q V)) m kc,.slice (some (ad bd od)) C dc,iv ct] d (B++[t]) (k+1) a5 c5 (xs++[.iface 204 (.pointer (some p))])/\DF (w5.setCell (ad (w.heap.size+1) 1) (.slice a5 (k+1) c5)) G b o n c (x+1+((B++[t]).map (Ac d)).sum) I r f):=by
          refine⟨a.o.1.grow H.o.1 H.o.2.2.2 hg ho (by simpa using ab),?_⟩;have q:=((H.o.2.2.1.alloc (.cells #[.iface 204 (.pointer (some p))] 68)).grown hg (λe=>by have:=Ah s.o.st.own _ e;have:=a.o.1.st.rlt;omega)).other (p:=(ad (w.heap.size+1) 1)) (by simp;have:=a.o.1.st.rlt;omega) (.slice a5 (k+1) c5);have e:x+1+(B.map (Ac d)).sum+Ac d t=x+1+((B++[t]).map (Ac d)).sum:=by rw[List.map_append,List.sum_append];simp;omega
          rw[<- e];exact q
         clear ho hg ab J HO a s H n1 nf nl;go_wp2;go_roundw;case rel=>exact⟨k+1,B++[t],I,f,r,a5,c5,_,by omega,by go_num,HX.o.1,HX.o.2,am.o⟩
         case measure=>simp[intOf];omega
        .have Y:U (¬ (∃(t:Ro (d+1)) (I : Int) (f : Bool) (r : ByteArray),Cw N n x E D hk lk (d+1) t I f r)):=by
          rintro⟨t2,D2,K,R,g⟩;obtain⟨l,rfl,e1,_⟩:=a1.o t2 D2 K R g;have ac:B.length<l.length:=by rw[a.o.1.st.len,e1,ap.o.2.1];exact a8
          obtain⟨_,q2,h2,l2,q3⟩:=FA aw g ag.o ac;have e:=Dx _ _ _ q3.tl F.o.2.1.tl;have cg:=a.o.1.st.len;have ch:=bf.o;have q:(N x).ks Z=gt (Ab d t) 0:=by rw[<- e,<- q2 (by omega),show B.length-1=Z by omega]
          exact L q.symm
         have bn:((gt (Ab d t) 0).toList == ((N x).ks Z).toList)=false:=by rw[beq_eq_false_iff_ne];exact λh=>L (DG h)
         have b4:(!((gt (Ab d t) 0).toList == ((N x).ks Z).toList))=true:=by rw[bn];rfl
         go_wp2;go_region_held3 (λT=>T.cell? (ad w.heap.size 1)=some (.slice (some (ad Q V)) m kc)/\T.cell? (ad Q (V+Z))=some (.string ((N x).ks Z))) (go_keep) (first|(go_at_call 205;refine (HL.o _ (by first|exact Up _ _|exact (Up _ _).drew)).mono ?_;rintro e w6 ⟨rfl,rfl⟩)|fail)
         go_wp2;refine bodyPost_ret (v:=.tuple #[.nilIface,.bool false]) (by simp[results,results134,go_sem]) rfl (aq.o _ (Ao (Ao a.o.1.st.gr F.o.1) (As (Up _ _).drew)) Y.o _)
       .clear ak;have HL:U (∀W:World,Bl S W->UO 188 #[.pointer (some p)] W λe T=>e=.returned (.string (gt (Ab d t) 0))/\T=W):=aa;clear aa;by_cases L:gt (Ab d t) 0=(N x).ks Z
        .have am:U (FG N n x E D hk lk d (B++[t]) I f r):=ag.o.more aw F.o.2.1 bp.o (λ_=>by rw[a.o.1.st.len,show k-1=Z by have:=bf.o;omega];exact L.symm);rw[<- L] at s1;clear L;go_wp2;go_region_held3 (λT=>T.cell? (ad w.heap.size 1)=some (.slice (some (ad Q V)) m kc)/\T.cell? (ad Q (V+Z))=some (.string (gt (Ab d t) 0))) (go_keep) (first|(go_at_call 188;refine (HL.o _ (by first|exact Up _ _|exact (Up _ _).drew)).mono ?_;rintro e w6 ⟨rfl,rfl⟩)|fail)
         have s:U (Da w S.drew G (w.heap.size+1) #[.bool false,.slice (some (ad Q V)) m kc,.slice (some (ad bd od)) C dc,iv ct] d B k ca cc xs):=aj.o.read (As (Up _ _).drew);have H:U (wr.grownBy S.drew (some G)/\Cw N n (x+1+(B.map (Ac d)).sum) (E+1) Dk O P d t I f r/\DF S.drew G b o n c (x+1+(B.map (Ac d)).sum+Ac d t) I r f/\GS wr.heap.size S.drew d t (.iface 174 (.pointer (some p)))):=⟨Ao F.o.1 (As (Up _ _).drew),F.o.2.1,F.o.2.2.1.below (Up _ _).drew,F.o.2.2.2.below (Up _ _).drew⟩;clear aj F a0 g1 ay;generalize S.drew=w2 at s H ⊢;obtain⟨i0,hi,ae,af,ah⟩:=info_parts info68;have HI:U (prog.info? 68=some i0/\i0.zero=some .nilIface/\i0.size=1/\i0.bytes=16):=⟨hi,ae,af,ah⟩;clear hi ae af ah;have n1:=s.o.st.nbx.cell 1;have nf:=s.o.st.nbx.frozen 1;have nl:=s.o.st.nbx.lt;simp at n1;have HO:U ((w2.alloc (.cells #[.iface 174 (.pointer (some p))] 68)).ownsRow (w.heap.size+1+1) 68 1 (.slice ca k cc) k xs):=Ag s.o.st.own (Aa _ _);go_wp2_with (at_builtin;refine wpList_append_own_at _ rfl _ _ 175 rfl (w.heap.size+1+1) 68 i0 .nilIface 1 16 underlying175 HI.o.1 HI.o.2.1 HI.o.2.2.1 HI.o.2.2.2 rfl (by decide) (.slice ca k cc) k xs rfl HO.o (ad w2.heap.size 0) 1 1 [.iface 174 (.pointer (some p))] rfl rfl (cell_one_new _ _ _) (by intro u hu;simp at hu;subst hu;rfl) (by unfold maxLen;omega) (by omega) (by simp;omega) ?_)
         intro v' w5 ho hg _ ab;obtain⟨a5,c5,rfl,_⟩:=Af ho;have J:=(s.o.st.nbx.alloc (.cells #[.iface 174 (.pointer (some p))] 68)).grown hg (λe=>by have:=Ah s.o.st.own _ e;omega);have u1:=J.cell 1;have uf:=J.frozen 1;have ul:=J.lt;simp at u1;have HX:U (Da w (w5.setCell (ad (w.heap.size+1) 1) (.slice a5 (k+1) c5)) G (w.heap.size+1) #[.bool false,.slice (some (ad Q V)) m kc,.slice (some (ad bd od)) C dc,iv ct] d (B++[t]) (k+1) a5 c5 (xs++[.iface 174 (.pointer (some p))])/\DF (w5.setCell (ad (w.heap.size+1) 1) (.slice a5 (k+1) c5)) G b o n c (x+1+((B++[t]).map (Ac d)).sum) I r f):=by
          refine⟨a.o.1.grow H.o.1 H.o.2.2.2 hg ho (by simpa using ab),?_⟩;have q:=((H.o.2.2.1.alloc (.cells #[.iface 174 (.pointer (some p))] 68)).grown hg (λe=>by have:=Ah s.o.st.own _ e;have:=a.o.1.st.rlt;omega)).other (p:=(ad (w.heap.size+1) 1)) (by simp;have:=a.o.1.st.rlt;omega) (.slice a5 (k+1) c5);have e:x+1+(B.map (Ac d)).sum+Ac d t=x+1+((B++[t]).map (Ac d)).sum:=by rw[List.map_append,List.sum_append];simp;omega
          rw[<- e];exact q
         clear ho hg ab J HO a s H n1 nf nl;go_wp2;go_roundw;case rel=>exact⟨k+1,B++[t],I,f,r,a5,c5,_,by omega,by go_num,HX.o.1,HX.o.2,am.o⟩
         case measure=>simp[intOf];omega
        .have Y:U (¬ (∃(t:Ro (d+1)) (I : Int) (f : Bool) (r : ByteArray),Cw N n x E D hk lk (d+1) t I f r)):=by
          rintro⟨t2,D2,K,R,g⟩;obtain⟨l,rfl,e1,_⟩:=a1.o t2 D2 K R g;have ac:B.length<l.length:=by rw[a.o.1.st.len,e1,ap.o.2.1];exact a8
          obtain⟨_,q2,h2,l2,q3⟩:=FA aw g ag.o ac;have e:=Dx _ _ _ q3.tl F.o.2.1.tl;have cg:=a.o.1.st.len;have ch:=bf.o;have q:(N x).ks Z=gt (Ab d t) 0:=by rw[<- e,<- q2 (by omega),show B.length-1=Z by omega]
          exact L q.symm
         have bn:((gt (Ab d t) 0).toList == ((N x).ks Z).toList)=false:=by rw[beq_eq_false_iff_ne];exact λh=>L (DG h)
         have b4:(!((gt (Ab d t) 0).toList == ((N x).ks Z).toList))=true:=by rw[bn];rfl
         go_wp2;go_region_held3 (λT=>T.cell? (ad w.heap.size 1)=some (.slice (some (ad Q V)) m kc)/\T.cell? (ad Q (V+Z))=some (.string ((N x).ks Z))) (go_keep) (first|(go_at_call 188;refine (HL.o _ (by first|exact Up _ _|exact (Up _ _).drew)).mono ?_;rintro e w6 ⟨rfl,rfl⟩)|fail)
         go_wp2;refine bodyPost_ret (v:=.tuple #[.nilIface,.bool false]) (by simp[results,results134,go_sem]) rfl (aq.o _ (Ao (Ao a.o.1.st.gr F.o.1) (As (Up _ _).drew)) Y.o _)
    .have Y:U (¬ (∃(t:Ro (d+1)) (I : Int) (f : Bool) (r : ByteArray),Cw N n x E D hk lk (d+1) t I f r)):=by
      rintro⟨t2,D2,K,R,g⟩;obtain⟨l,rfl,e1,_⟩:=a1.o t2 D2 K R g;have ac:B.length<l.length:=by rw[a.o.1.st.len,e1,ap.o.2.1];exact a8
      obtain⟨q1,_⟩:=FA aw g ag.o ac;rw[a.o.1.st.len,<- HY.o] at q1;exact ar q1
     have dk:((N x).kd k != (y:Int))=true:=by simpa using ar
     go_wp2;refine bodyPost_ret (v:=.tuple #[.nilIface,.bool false]) (by simp[results,results134,go_sem]) rfl (aq.o _ a.o.1.st.gr Y.o _)
   .have e:k=C:=by omega
    subst e;have ao:=a.o.1.st.len;have K:k≠0:=by omega
    obtain⟨a6,c6,e6,b6⟩:=Af a.o.1.st.own;obtain⟨g,eg,au,c9,bt⟩:=b6 K;injection e6 with e6 cu cx;clear cu cx;rw[<- e6] at eg;subst eg;obtain⟨h',av,b5,bw⟩:∃h' : Nat,(∀t,t∈B->Aq d false t h')/\Dk=E+1+(h' : Int)/\(D=0\/D=Dk):=by
     rcases ag.o.bal with ⟨e,_⟩|⟨_,e⟩;.rw[e] at ao;simp at ao;omega
     .exact e
    have HB:U ((∀t,t∈B->Aq d false t h')/\Dk=E+1+(h' : Int)/\(D=0\/D=Dk)):=⟨av,b5,bw⟩;have al:U (B.length=k/\(B.flatMap (Ab d)).length<=1099511627776):=by refine⟨ao,?_⟩;have h1:=I5 (M:=4) (Ab d) (Ac d) B (λt ht=>BL (BR (av t ht)));have h2:=ag.o.le;omega
    have cb:U (UO 118 #[pt (w.heap.size+1)] wr λe T=>e=.returned (.tuple #[])/\wr.grownBy T (some (w.heap.size+1))/\T.heap.size=wr.heap.size/\Bx T (w.heap.size+1) 179 #[iv ((B.flatMap (Ab d)).length:Int),.slice (some (ad g 0)) k cc]):=
     G6 d (w.heap.size+1) g k cc B 0 _ xs wr a.o.1.st.nbx ao.symm (by omega) al.o.2 bt (by omega) (λq=>by have:=q.1;omega) a.o.1.st.kids
    have db:U (∀j u,xs[j]?=some u->wr.cell? (ad g j)=some u):=bt;clear b6 bt av b5 bw e6 ao;go_wp2_with fail
    refine cb.o.mono ?_;rintro e w2 ⟨rfl,X,bh,az⟩;obtain⟨A,hA⟩:∃A:Int,A=((B.flatMap (Ab d)).length:Int):=⟨_,rfl⟩;rw[<- hA] at az;have HA:U (A=((B.flatMap (Ab d)).length:Int)):=hA;have cy:=a.o.1.st.rlt;have HF:U (wr.grownBy w2 (some (w.heap.size+1))/\w2.heap.size=wr.heap.size/\Bx w2 (w.heap.size+1) 179 #[iv A,.slice (some (ad g 0)) k cc]):=⟨X,bh,az⟩;have bo:U (w.grownBy w2.drew (some G)/\DF w2.drew G b o n c (x+1+(B.map (Ac d)).sum) Dk P O):=by have cr:=a.o.1.st.gr.size;have c4:=a.o.1.st.nbx.lt;have q:DF w2 G b o n c (x+1+(B.map (Ac d)).sum) Dk P O:=a.o.2.grown X (λe=>by injection e with e;omega);refine⟨⟨X.os.trans a.o.1.st.gr.os,X.tape.trans a.o.1.st.gr.tape,X.output.trans a.o.1.st.gr.output,Uy cr X.size,λbb cp br=>?_⟩,q.drew⟩;exact (X.block bb (by omega) (λe=>by injection e with e;omega)).trans (a.o.1.st.gr.block bb cp br)
    have z0:=az.cell 0;have g3:=(a.o.1.st.gb.grown X (λe=>by injection e with e;omega)).cell 3;simp at z0 g3;clear X bh az hA;have bi:U (∀W:World,W.cell? (ad (w.heap.size+1) 0)=some (iv A)->UO 157 #[pt (w.heap.size+1)] W λe T=>e=.returned (iv A)/\T=W):=λW hW=>BK (w.heap.size+1) A W hW;by_cases a3:ct=A
    .subst a3;have hq:(ct == ct)=true:=by simp
     have bu:U (Cw N n x E D hk lk (d+1) (.inr B) Dk O P):=by have an:=ag.o;obtain⟨q1,q2,q3⟩:=ap.o;refine⟨⟨cn.o,by rw[q2,al.o.1],by rw[q3,HA.o],by rw[q1,al.o.1];exact H3.o,λj hj=>by rw[an.kd j hj];omega,λj hj=>an.ks j hj,λj hj=>an.tl j hj⟩,?_,⟨h'+1,⟨by rw[al.o.1];omega,by rw[al.o.1];omega,h',rfl,HB.o.1⟩,by have:=HB.o.2.1;omega⟩,HB.o.2.2,an.asc⟩;have e:Ac (d+1) (.inr B)=1+(B.map (Ac d)).sum:=rfl;have:=an.le;omega
     have cm:U (GS w.heap.size w2.drew (d+1) (.inr B) (.iface 174 (pt (w.heap.size+1)))):=a.o.1.fin HF.o.1 HF.o.2.2 HA.o (by omega);go_upto_region 16 with fail
     go_region_held3 (λT=>T.cell? (ad (w.heap.size+1) 0)=some (iv ct)/\T.cell? (ad w.heap.size 3)=some (iv ct)) (go_keep) (first|(go_at_call 157;refine (bi.o _ (by simpa using z0)).mono ?_;rintro e w6 ⟨rfl,rfl⟩)|fail)
     go_wp2;refine bodyPost_ret (v:=.tuple #[.iface 174 (pt (w.heap.size+1)),.bool true]) (by simp[results,results134,go_sem]) rfl ⟨bo.o.1,_,true,rfl,.inl ⟨rfl,.inr B,Dk,O,P,bu.o,?_,cm.o⟩⟩;have e:x+Ac (d+1) (.inr B)=x+1+(B.map (Ac d)).sum:=by have e:Ac (d+1) (.inr B)=1+(B.map (Ac d)).sum:=rfl;omega
     rw[e];exact bo.o.2
    .have hq:(A == ct)=false:=by simpa using λe=>a3 (Eq.symm e)
     have Y:U (¬ (∃(t:Ro (d+1)) (I : Int) (f : Bool) (r : ByteArray),Cw N n x E D hk lk (d+1) t I f r)):=by
      rintro⟨t2,D2,K,R,gg⟩;obtain⟨l,rfl,e1,_,_,_,e5⟩:=a1.o t2 D2 K R gg;have hl:B.length=l.length:=by rw[al.o.1,e1,ap.o.2.1]
      have hp:=Hm gg ag.o (by omega);rw[hl,UC] at hp;subst hp;rw[ap.o.2.2,<- HA.o] at e5;exact a3 e5
     go_upto_region 16 with fail
     go_region_held3 (λT=>T.cell? (ad (w.heap.size+1) 0)=some (iv A)/\T.cell? (ad w.heap.size 3)=some (iv ct)) (go_keep) (first|(go_at_call 157;refine (bi.o _ (by simpa using z0)).mono ?_;rintro e w6 ⟨rfl,rfl⟩)|fail)
     go_wp2;refine bodyPost_ret (v:=.tuple #[.iface 174 (pt (w.heap.size+1)),.bool false]) (by simp[results,results134,go_sem]) rfl (aq.o _ bo.o.1 Y.o _)
end Go.Proofs.YtcnollkkigiobaaGreat
