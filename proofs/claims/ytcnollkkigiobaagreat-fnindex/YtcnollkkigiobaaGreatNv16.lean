import Derived.Test.YtcnollkkigiobaaGreatNv6
set_option linter.unusedVariables false
set_option linter.unusedSimpArgs false
set_option maxRecDepth 100000
set_option maxHeartbeats 90000000
namespace Go.Proofs.YtcnollkkigiobaaGreat
open Go Go.Deep Go.RowKit Go.Proofs.Tryz
def Eh (N:Nat->Tn) (rb b o n c x:Nat) (dep D:Int) (hk:Bool) (lk:ByteArray) (d:Nat) (w:World) (e:Ending) (w' : World):Prop:=
 w.grownBy w' (some rb)/\∃v ok,e=.returned (.tuple #[v,.bool ok])/\
  ((ok=true/\∃t D' hk' lk',Cw N n x dep D hk lk d t D' hk' lk'/\DF w' rb b o n c (x+Ac d t) D' lk' hk'/\∃bs:List Nat,bs.Nodup/\CG w.heap.size w' d t v bs)\/
   (ok=false/\¬ ∃t D' hk' lk',Cw N n x dep D hk lk d t D' hk' lk'))
theorem LW {w:World} {b B n c:Nat} {a:Option Addr} {h:Array Value} {xs:List Value} (i:Bx w b 206 h) (l:w.ownsRow B 9 1 (.slice a n c) n xs):(b::(a.map (·.block)).toList).Nodup:=by
 cases a with
 | none=>simp
 | some p=>
  simp;intro e;rcases l.2 with ⟨q,_⟩|⟨g,o,j,q,_,m,_⟩;.cases q
  .injection q with q _ _;injection q with q;subst q;subst e;unfold Bx at i;have f:=m.symm.trans i;injection f with f;injection f with _ f _;exact absurd f (by decide)
theorem Jv (N:Nat->Tn) (rb b o n c x:Nat) (i D:Int) (p:Bool) (r:ByteArray) (d:Nat) (w:World) (G P:Option Addr) (J R:Nat) (h:DF w rb b o n c (x+1) D r p) (hx:x<n) (ah:(N x).lf=true) (M:Bg (N x)) (hK:∀W:World,Below rb w W->Cg W G (N x).kn (N x).ks) (bg:0<=i) :
  UO 133 #[pt rb,.agg #[.bool true,.slice G (N x).kn J,.slice P (N x).dn R,iv (N x).ct],iv i] w (Eh N rb b o n c x i D p r (d+1) w):=by
 have HR:U (DF w rb b o n c (x+1) D r p):=h;have bk:=h.lt;have HK:U (∀W:World,Below rb w W->Cg W G (N x).kn (gt (G8 (N x)))):=λW hW=>(hK W hW).congr (λj hj=>(EG (N x) j hj).symm);have l:U (∀(t:Ro (d+1)) y a f,Cw N n x i D p r (d+1) t y a f->(N x).kn<=4/\(i=0\/2<=(N x).kn)/\(N x).dn=0/\(D=0\/D=i)/\AW p r (G8 (N x)) a f/\(N x).ct=((N x).kn:Int)):=λt y a f g=>Ot ah g;have ac:(N x).kn<=1048576:=M.1;have a7:(N x).dn<=1048576:=M.2;have F:U ((N x).kn=(G8 (N x)).length):=(AI _).symm;have u:U (∀a f,(N x).kn<=4->(i=0\/2<=(N x).kn)->(N x).dn=0->(D=0\/D=i)->AW p r (G8 (N x)) a f->(N x).ct=((N x).kn:Int)->Cw N n x i D p r (d+1) (.inl (G8 (N x))) i a f):=by
  intro a f a1 a2 C a4 a5 a6;refine⟨⟨ah,(AI _).symm,λj hj=>(EG _ _ (by rw[AI] at hj;exact hj)).symm,C,by rw[AI];exact a6⟩,?_,⟨0,⟨rfl,by rw[AI];exact a1,?_⟩,by simp⟩,a4,a5⟩;.have:Ac (d+1) (.inl (G8 (N x)))=1:=rfl;omega
  .rw[AI];rcases a2 with a2|a2;.exact Or.inl (by simpa using a2)
   .exact Or.inr a2
 clear h hK ah M;generalize (N x).kn=m at HK l ac F u ⊢;generalize (N x).dn=z at l a7 u ⊢;generalize (N x).ct=K at l u ⊢;generalize G8 (N x)=L at HK l F u ⊢;have E:U (∀I : World,w.grownBy I (some rb)->¬ (∃(t:Ro (d+1)) (y : Int) (a : Bool) (f : ByteArray),Cw N n x i D p r (d+1) t y a f)->∀v,Eh N rb b o n c x i D p r (d+1) w (.returned (.tuple #[v,.bool false])) I):=λI hg hn v=>⟨hg,v,false,rfl,Or.inr ⟨rfl,hn⟩⟩;by_cases h4:4<m
 .have i4:(4:Int)<(m:Int):=by omega
  have a9 : decide ((4:Int)<(m:Int))=true:=decide_eq_true i4;have bb : decide (4<m)=true:=decide_eq_true h4;go_enter func133,ntmps133;go_wp2;refine bodyPost_ret (v:=.tuple #[.nilIface,.bool false]) (by simp[results,results133,go_sem]) rfl (E.o _ (As (Aa _ _)) (λ⟨t,y,a,f,g⟩=>by have:=l.o t y a f g;omega) _)
 .have i4:¬ (4:Int)<(m:Int):=by omega
  have a9 : decide ((4:Int)<(m:Int))=false:=decide_eq_false i4;have bb : decide (4<m)=false:=decide_eq_false h4;by_cases h2:m<2/\0<i
  .have i2:(m:Int)<2:=by omega
   have am : decide ((m:Int)<2)=true:=decide_eq_true i2;have ar : decide (m<2)=true:=decide_eq_true h2.1;have id:(0:Int)<i:=h2.2;have a8 : decide ((0:Int)<i)=true:=decide_eq_true id;have H2:U (m<2/\0<i):=h2;clear h2;go_enter func133,ntmps133;go_wp2;refine bodyPost_ret (v:=.tuple #[.nilIface,.bool false]) (by simp[results,results133,go_sem]) rfl (E.o _ (As (Aa _ _)) (λ⟨t,y,a,f,g⟩=>by have:=l.o t y a f g;have:=H2.o;omega) _)
  .have ay:U (i=0\/2<=m):=by show i=0\/2<=m;omega
   have Z:U (∀b1 b2:Bool,b1=decide ((m:Int)<2)->b2=decide ((0:Int)<i)->(b1 && b2)=false):=by rintro b1 b2 rfl rfl;rw[Bool.and_eq_false_iff];simp;omega
   by_cases V : m<2;all_goals
    first
     | focus
      have i2:(m:Int)<2:=by omega
      have am : decide ((m:Int)<2)=true:=decide_eq_true i2
      have ar : decide (m<2)=true:=decide_eq_true V
      have id:¬ (0:Int)<i:=by omega
      have a8 : decide ((0:Int)<i)=false:=decide_eq_false id
     | focus
      have i2:¬ (m:Int)<2:=by omega
      have am : decide ((m:Int)<2)=false:=decide_eq_false i2
      have ar : decide (m<2)=false:=decide_eq_false V
    clear h2 Z
    go_enter func133,ntmps133
    go_upto_region 3 with fail
    have T:U (Bx (w.alloc (.cells #[.bool true,.slice G m J,.slice P z R,iv K] 168)) w.heap.size 168 #[.bool true,.slice G m J,.slice P z R,iv K]/\DF (w.alloc (.cells #[.bool true,.slice G m J,.slice P z R,iv K] 168)) rb b o n c (x+1) D r p/\Bl w (w.alloc (.cells #[.bool true,.slice G m J,.slice P z R,iv K] 168))):=⟨Bx.new _ _ _,HR.o.alloc _,Aa _ _⟩
    clear HR
    generalize (w.alloc (.cells #[.bool true,.slice G m J,.slice P z R,iv K] 168))=W at T ⊢
    have g2:=T.o.1.cell 2
    have bl:=T.o.1.lt
    simp at g2
    by_cases S:0<z
    .have af:(0:Int)<(z:Int):=by omega
     have ax : decide ((0:Int)<(z:Int))=true:=decide_eq_true af
     have aq : decide (0<z)=true:=decide_eq_true S
     go_wp2
     refine bodyPost_ret (v:=.tuple #[.nilIface,.bool false]) (by simp[results,results133,go_sem]) rfl (E.o _ (As T.o.2.2) (λ⟨t,y,a,f,g⟩=>by have:=l.o t y a f g;omega) _)
    .have af:¬ (0:Int)<(z:Int):=by omega
     have ax : decide ((0:Int)<(z:Int))=false:=decide_eq_false af
     have aq : decide (0<z)=false:=decide_eq_false S
     go_wp2_with fail
     refine (JB rb b o n c (x+1) i D r p _ T.o.2.1 bg).mono ?_
     rintro e w1 ⟨ok,rfl,Y,bf,ao⟩
     have A:U (w.grownBy w1 (some rb)/\Bx w1 w.heap.size 168 #[.bool true,.slice G m J,.slice P z R,iv K]):=⟨Ao (As T.o.2.2) Y,T.o.1.grown Y (λe=>by injection e with e;omega)⟩
     have ab:U ((ok=true/\(D=0\/D=i)/\DF w1 rb b o n c (x+1) i r p)\/(ok=false/\¬ (D=0\/D=i))):=ao
     clear Y bf ao g2 T
     have g1:=A.o.2.cell 1
     have bi:=A.o.2.lt
     simp at g1
     cases ok with
     | false=>
      go_wp2
      refine bodyPost_ret (v:=.tuple #[.nilIface,.bool false]) (by simp[results,results133,go_sem]) rfl (E.o _ A.o.1 (λ⟨t,y,a,f,g⟩=>?_) _)
      have q:=l.o t y a f g
      rcases ab.o with ⟨e,_⟩|⟨_,e⟩
      .cases e
      .exact e q.2.2.2.1
     | true=>
      have HD:U ((D=0\/D=i)/\DF w1 rb b o n c (x+1) i r p):=by
       rcases ab.o with ⟨_,e⟩|⟨e,_⟩
       .exact e
       .cases e
      clear ab
      go_wp2_with fail
      refine (KK rb b o n c (x+1) m J G i r p L w1 HD.o.2 F.o ac (λW' bd=>HK.o W' (B9 (Ao A.o.1 bd) (by omega) (Uq _)))).mono ?_
      rintro e w2 ⟨aa,rfl,ag,bh,av⟩
      have B:U (w.grownBy w2 (some rb)/\Bx w2 w.heap.size 168 #[.bool true,.slice G m J,.slice P z R,iv K]):=⟨Ao A.o.1 ag,A.o.2.grown ag (λe=>by injection e with e;omega)⟩
      have ae:U ((aa=true/\∃a f,AW p r L a f/\DF w2 rb b o n c (x+1) i f a)\/(aa=false/\∀a f,¬ AW p r L a f)):=av
      clear ag bh av g1 A
      have g1:=B.o.2.cell 1
      have bj:=B.o.2.lt
      simp at g1
      cases aa with
      | false=>
       go_wp2
       refine bodyPost_ret (v:=.tuple #[.nilIface,.bool false]) (by simp[results,results133,go_sem]) rfl (E.o _ B.o.1 (λ⟨t,y,a,f,g⟩=>?_) _)
       have q:=l.o t y a f g
       rcases ae.o with ⟨e,_⟩|⟨_,e⟩
       .cases e
       .exact e _ _ q.2.2.2.2.1
      | true=>
       obtain⟨a,f,aj,an⟩:∃a f,AW p r L a f/\DF w2 rb b o n c (x+1) i f a:=by
        rcases ae.o with ⟨_,e⟩|⟨e,_⟩
        .exact e
        .cases e
       have HC:U (AW p r L a f/\DF w2 rb b o n c (x+1) i f a):=⟨aj,an⟩
       clear ae aj an
       go_wp2_with fail
       refine (EF G m J L w2 (HK.o w2 (B9 B.o.1 (by omega) (Uq _))) F.o ac).mono ?_
       rintro e Q ⟨C,H,rfl,ak,au⟩
       have ap:U (Q.ownsRow w2.heap.size 9 1 (.slice C m H) m (Ap L)):=ak
       have H3:U (Bl w2 Q):=au
       clear ak au g1
       go_upto_region 6 with fail
       have O:U (Bx (Q.alloc (.cells #[iv 0,.slice C m H] 206)) Q.heap.size 206 #[iv 0,.slice C m H]/\Bl w2 (Q.alloc (.cells #[iv 0,.slice C m H] 206))/\(Q.alloc (.cells #[iv 0,.slice C m H] 206)).ownsRow w2.heap.size 9 1 (.slice C m H) m (Ap L)/\w2.heap.size<=Q.heap.size):=⟨Bx.new _ _ _,H3.o.trans ((Aa _ _).mono H3.o.size),Ag ap.o (Aa _ _),H3.o.size⟩
       clear ap
       generalize (Q.alloc (.cells #[iv 0,.slice C m H] 206))=w4 at O ⊢
       generalize Q.heap.size=nb at O ⊢
       clear H3
       go_wp2_with fail
       refine (Cd nb m H C 0 w4 O.o.1).mono ?_
       rintro e w5 ⟨rfl,aw⟩
       have a0:=O.o.2.2.2
       have s:U (Bx w5 nb 206 #[iv (m:Int),.slice C m H]/\Bl w2 w5/\w5.ownsRow w2.heap.size 9 1 (.slice C m H) m (Ap L)/\Bx w5 w.heap.size 168 #[.bool true,.slice G m J,.slice P z R,iv K]):=by
        subst aw
        refine⟨O.o.1.set 0 _,O.o.2.1.setCell a0 _,?_,(B.o.2.below O.o.2.1).other (by simp;omega) _⟩
        have q:=O.o.2.2.1
        refine⟨q.1,?_⟩
        rcases q.2 with q|⟨g,be,az,q1,q2,q3,q4⟩
        .exact Or.inl q
        .refine Or.inr ⟨g,be,az,q1,q2,?_,q4⟩
         rw[Ur _ _ _ _ (show g≠nb from λe=>?_)]
         .exact q3
         .subst e
          have:=O.o.1
          unfold Bx at this
          rw[q3] at this
          injection this with this
          injection this with _ this _
          exact absurd this (by decide)
       clear aw O
       have z0:=s.o.1.cell 0
       have g3:=s.o.2.2.2.cell 3
       simp at z0 g3
       have ba:U (∃bs:List Nat,bs.Nodup/\CG w.heap.size w5 (d+1) (.inl L) (.iface 204 (pt nb)) bs):=by
        have bc:=B.o.1.size
        refine⟨nb::(C.map (·.block)).toList,LW s.o.1 s.o.2.2.1,nb,C,H,rfl,by omega,?_,?_,rfl⟩
        .rw[<- F.o];exact s.o.1
        .rw[<- F.o];exact s.o.2.2.1.mono bc
       have X:U (DF w5.drew rb b o n c (x+1) i f a/\w.grownBy w5.drew (some rb)):=⟨HC.o.2.below s.o.2.1.drew,Ao B.o.1 (As s.o.2.1.drew)⟩
       have HB:U (∀W:World,W.cell? (ad nb 0)=some (iv (m:Int))->UO 157 #[pt nb] W λe I=>e=.returned (iv (m:Int))/\I=W):=λW hW=>BK nb (m:Int) W hW
       by_cases al:K=(m:Int)
       .subst al
        have hq:((m:Int) == (m:Int))=true:=by simp
        go_upto_region 7 with fail
        go_region_held3 (λI=>I.cell? (ad nb 0)=some (iv (m:Int))/\I.cell? (ad w.heap.size 3)=some (iv (m:Int))) (go_keep) (first|(go_at_call 157;refine (HB.o _ (by simpa using z0)).mono ?_;rintro e w6 ⟨rfl,rfl⟩)|fail)
        all_goals
         go_wp2
         refine bodyPost_ret (v:=.tuple #[.iface 204 (pt nb),.bool true]) (by simp[results,results133,go_sem]) rfl ⟨X.o.2,_,true,rfl,.inl ⟨rfl,.inl L,i,a,f,u.o a f (by omega) ay.o (by omega) HD.o.1 HC.o.1 trivial,X.o.1,(let ⟨bs,h1,h2⟩:=ba.o;⟨bs,h1,h2.below (Up _ _).drew⟩)⟩⟩
       .have hq:((m:Int) == K)=false:=by simp;omega
        go_upto_region 7 with fail
        go_region_held3 (λI=>I.cell? (ad nb 0)=some (iv (m:Int))/\I.cell? (ad w.heap.size 3)=some (iv K)) (go_keep) (first|(go_at_call 157;refine (HB.o _ (by simpa using z0)).mono ?_;rintro e w6 ⟨rfl,rfl⟩)|fail)
        all_goals
         go_wp2
         refine bodyPost_ret (v:=.tuple #[.iface 204 (pt nb),.bool false]) (by simp[results,results133,go_sem]) rfl (E.o _ X.o.2 (λ⟨t,y,a,f,g⟩=>?_) _)
         have q:=l.o t y a f g
         exact al q.2.2.2.2.2
theorem CG.mono {B n : Nat} {w:World} (i:n<=B):∀{d:Nat} {t:Ro d} {v:Value} {bs:List Nat},CG B w d t v bs->CG n w d t v bs
 | 0,_,_,_,h=>h
 | d+1,.inl t,v,bs,h=>by
  obtain⟨b,o,e,rfl,q,f,c,rfl⟩:=h
  exact⟨b,o,e,rfl,by omega,f,c.mono i,rfl⟩
 | d+1,.inr l,v,bs,h=>by
  obtain⟨b,g,e,xs,m,rfl,q,f,c,x,j,rfl,a⟩:=h
  refine⟨b,g,e,xs,m,rfl,by omega,f,c.mono i,x,j,rfl,λk h=>?_⟩
  obtain⟨u,s,r,p,y⟩:=a k h
  exact⟨u,s,r,p,CG.mono i y⟩
structure Mj (w wr:World) (rb nb:Nat) (nd:Array Value) (d:Nat) (ts:List (Ro d)) (k:Nat) (ca:Option Addr) (cc:Nat) (xs:List Value) (bss:List (List Nat)):Prop where
 st:Kg w wr rb nb nd d ts k ca cc xs
 bl:bss.length=ts.length
 ndp:bss.flatten.Nodup
 av:∀bb,bb∈bss.flatten->nb+1<=bb/\bb<wr.heap.size/\(Value.slice ca k cc).ownBlock≠some bb
 own:∀j (h:j<ts.length),∃u us,xs[j]?=some u/\bss[j]?=some us/\CG (nb+1) wr d ts[j] u us
theorem It {a:List (List Nat)} {c:List Nat} {j:Nat} (h:a[j]?=some c) {b:Nat} (e:b∈c):b∈a.flatten:=by rw[List.mem_flatten];exact⟨c,List.mem_of_getElem? h,e⟩
theorem Mj.read {w wr w1:World} {rb nb:Nat} {nd:Array Value} {d:Nat} {ts:List (Ro d)} {k:Nat} {ca:Option Addr} {cc:Nat} {xs:List Value} {a:List (List Nat)} (h:Mj w wr rb nb nd d ts k ca cc xs a) (f:wr.grownBy w1 (some rb)):Mj w w1 rb nb nd d ts k ca cc xs a:=by
 have s:=h.st.rlt;have r:=h.st.lt;have t:=f.size;refine⟨h.st.read f,h.bl,h.ndp,λb c=>?_,λj n=>?_⟩;.obtain⟨m,l,g⟩:=h.av b c;exact⟨m,by omega,g⟩
 .obtain⟨u,p,o,i,q⟩:=h.own j n;refine⟨u,p,o,i,q.keep (λb c=>?_)⟩;obtain⟨m,l,g⟩:=h.av b (It i c);exact f.block b l (λe=>by injection e with e;omega)
theorem Mj.grow {w wr w1 w5:World} {rb nb:Nat} {nd:Array Value} {d:Nat} {ts:List (Ro d)} {k:Nat} {ca:Option Addr} {cc:Nat} {xs:List Value} {s:List (List Nat)} (h:Mj w wr rb nb nd d ts k ca cc xs s) (m:wr.grownBy w1 (some rb)) {t:Ro d} {v:Value} {f:List Nat} (J:CG wr.heap.size w1 d t v f) (C:f.Nodup) {O:Obj} (F:(w1.alloc O).grownBy w5 (Value.slice ca k cc).ownBlock) {a' : Option Addr} {c' : Nat}
  (P:w5.ownsRow (nb+1) 68 1 (.slice a' (k+1) c') (k+1) (xs++[v])) (r:(Value.slice a' (k+1) c').ownBlock=(Value.slice ca k cc).ownBlock\/(Value.slice a' (k+1) c').ownBlock=some (w1.alloc O).heap.size) :
  Mj w (w5.setCell (ad nb 1) (.slice a' (k+1) c')) rb nb nd d (ts++[t]) (k+1) a' c' (xs++[v]) (s++[f]):=by
 have Z:=h.st.rlt;have Y:=h.st.lt;have H:=h.read m;have I:=Ah h.st.own;have X:=m.size;have hz:=F.size;have S:=h.st.nbx.lt;have N:(w1.alloc O).heap.size=w1.heap.size+1:=by simp
 have b:=CG.lt J;have p:∀a,a<w1.heap.size->(Value.slice ca k cc).ownBlock≠some a->a≠nb->(w5.setCell (ad nb 1) (.slice a' (k+1) c')).heap[a]?=w1.heap[a]?:=λa A G E=>by rw[Ur _ _ _ _ (show a≠nb from E),F.block a (by omega) (λe=>G e.symm),Below.heap_alloc _ _ _ A]
 have o:(w5.setCell (ad nb 1) (.slice a' (k+1) c')).heap.size=w5.heap.size:=by simp[World.setCell]
 have g:∀a,a<w1.heap.size->(Value.slice ca k cc).ownBlock≠some a->(Value.slice a' (k+1) c').ownBlock≠some a:=λa A W=>by
  rcases r with e|e;.rw[e];exact W
  .rw[e];intro q;injection q with q;omega
 have l:∀a,wr.heap.size<=a->(Value.slice ca k cc).ownBlock≠some a:=λa V e=>by have:=I a e;omega
 refine⟨h.st.grow m (FZ.mono (Uq _) (λa c _=>⟨(b a c).1,rfl⟩) (CG.tat J)) F P r,by rw[Uz,Uz,h.bl];rfl,?_,λa c=>?_,λj L=>?_⟩;.rw[List.flatten_append,List.nodup_append];refine⟨h.ndp,by simpa using C,λx Q y R e=>?_⟩;subst e;have n:=(h.av x Q).2.1;have i:=(b x (by simpa using R)).1;omega
 .rw[List.flatten_append,List.mem_append] at c;rcases c with c|c;.obtain⟨n,i,B⟩:=H.av a c;exact⟨n,by rw[o];omega,g a i B⟩
  .obtain⟨n,i⟩:=b a (by simpa using c);exact⟨by omega,by rw[o];omega,g a i (l a n)⟩
 .rw[Uz] at L;simp at L;have D:xs.length=k:=by have:=h.st.own.1;omega
  have z:=h.st.len;by_cases e:j=ts.length;.subst e;refine⟨v,f,by rw[z,List.getElem?_append_right (by omega),D];simp,by rw[List.getElem?_append_right (by rw[h.bl];omega),h.bl];simp,?_⟩;rw[List.getElem_append_right (by omega)];simp only[Nat.sub_self,List.getElem_cons_zero];refine CG.mono (by omega) (CG.keep J (λa c=>?_));obtain⟨n,i⟩:=b a c;exact p a i (l a n) (by omega)
  .obtain⟨u,T,U,K,M⟩:=H.own j (by omega);refine⟨u,T,by rw[List.getElem?_append_left (by omega)];exact U,by rw[List.getElem?_append_left (by rw[h.bl];omega)];exact K,?_⟩;rw[List.getElem_append_left (by omega)];refine CG.keep M (λa c=>?_);obtain⟨n,i,B⟩:=H.av a (It K c);exact p a i B (by omega)
def GS (B:Nat) (w:World) (d:Nat) (t:Ro d) (v:Value):Prop:=∃bs:List Nat,bs.Nodup/\CG B w d t v bs
theorem GS.below {B:Nat} {w w' : World} {d:Nat} {t:Ro d} {v:Value} (h:GS B w d t v) (a:Bl w w'):GS B w' d t v:=
 let ⟨bs,h1,h2⟩:=h
 ⟨bs,h1,h2.below a⟩
theorem GS.tat {B:Nat} {w:World} {d:Nat} {t:Ro d} {v:Value} (h:GS B w d t v):FZ (λb=>B<=b) w d t v:=
 let ⟨bs,h1,h2⟩:=h
 FZ.mono (Uq _) (λa c _=>⟨(CG.lt h2 a c).1,rfl⟩) (CG.tat h2)
def Da (w wr:World) (rb nb:Nat) (nd:Array Value) (d:Nat) (ts:List (Ro d)) (k:Nat) (ca:Option Addr) (cc:Nat) (xs:List Value):Prop:=∃bss,Mj w wr rb nb nd d ts k ca cc xs bss
section
variable {w wr w1 w2 w5:World} {rb nb:Nat} {nd:Array Value} {d:Nat} {ts:List (Ro d)} {k:Nat} {ca:Option Addr} {cc:Nat} {xs:List Value}
theorem Da.st (h:Da w wr rb nb nd d ts k ca cc xs):Kg w wr rb nb nd d ts k ca cc xs:=let ⟨_,h⟩:=h;h.st
theorem Da.read (h:Da w wr rb nb nd d ts k ca cc xs) (a:wr.grownBy w1 (some rb)):Da w w1 rb nb nd d ts k ca cc xs:=let ⟨bss,h⟩:=h;⟨bss,h.read a⟩
theorem Da.nil (h:Kg w wr rb nb nd d [] 0 none 0 []):Da w wr rb nb nd d [] 0 none 0 []:=⟨[],h,rfl,by simp,λc b=>by simp at b,λj a=>absurd a (Uu _)⟩
theorem Da.grow (h:Da w wr rb nb nd d ts k ca cc xs) (b:wr.grownBy w1 (some rb)) {t:Ro d} {v:Value} (e:GS wr.heap.size w1 d t v) {O:Obj} (c:(w1.alloc O).grownBy w5 (Value.slice ca k cc).ownBlock) {a' : Option Addr} {c' : Nat}
  (f:w5.ownsRow (nb+1) 68 1 (.slice a' (k+1) c') (k+1) (xs++[v])) (a:(Value.slice a' (k+1) c').ownBlock=(Value.slice ca k cc).ownBlock\/(Value.slice a' (k+1) c').ownBlock=some (w1.alloc O).heap.size) :
  Da w (w5.setCell (ad nb 1) (.slice a' (k+1) c')) rb nb nd d (ts++[t]) (k+1) a' c' (xs++[v]):=
 let ⟨bss,h⟩:=h
 let ⟨us,h1,h2⟩:=e
 ⟨bss++[us],h.grow b h2 h1 c f a⟩
theorem Da.fin {g:Nat} {A:Int} (h:Da w wr rb nb nd d ts k (some (ad g 0)) cc xs) (c:wr.grownBy w2 (some nb)) (o:Bx w2 nb 179 #[iv A,.slice (some (ad g 0)) k cc]) (t:A=((ts.flatMap (Ab d)).length:Int)) (B:0<k):GS w.heap.size w2.drew (d+1) (.inr ts) (.iface 174 (pt nb)):=by
 obtain⟨f,h⟩:=h;have p:=h.st.lt;have i:=Ah h.st.own g rfl;have a:=h.st.len;refine⟨nb::g::f.flatten,?_,nb,g,cc,xs,f,rfl,by omega,?_,?_,by omega,h.bl,rfl,λj n=>?_⟩
 .rw[List.nodup_cons,List.nodup_cons];refine⟨λb=>?_,λb=>(h.av g b).2.2 rfl,h.ndp⟩;rw[List.mem_cons] at b;rcases b with b|b;.omega
  .have:=(h.av nb b).1;omega
 .rw[<- t,a];exact o
 .rw[a];refine World.ownsRow.mono (base:=nb+1) (AK h.st.own (λz e=>?_)) (by omega);injection e with e;subst e;exact c.block g i.2 (λe=>by injection e with e;omega)
 .obtain⟨u,s,r,l,x⟩:=h.own j n;refine⟨u,s,r,l,CG.mono (show w.heap.size<=nb+1 by omega) (CG.keep x (λm q=>?_))⟩;obtain⟨C,v,y⟩:=h.av m (It l q);exact c.block m v (λe=>by injection e with e;omega)
end
end Go.Proofs.YtcnollkkigiobaaGreat
