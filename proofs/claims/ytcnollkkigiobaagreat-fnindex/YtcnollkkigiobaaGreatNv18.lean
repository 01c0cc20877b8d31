import Derived.Test.YtcnollkkigiobaaGreatNv17
set_option linter.unusedVariables false
set_option linter.unusedSimpArgs false
set_option maxRecDepth 100000
set_option maxHeartbeats 90000000
namespace Go.Proofs.YtcnollkkigiobaaGreat
open Go Go.Deep Go.RowKit Go.Proofs.Tryz
theorem GS.mono {B a : Nat} {w:World} {d:Nat} {t:Ro d} {v:Value} (h:GS B w d t v) (b:a<=B):GS a w d t v:=
 let ⟨bs,h1,h2⟩:=h
 ⟨bs,h1,CG.mono b h2⟩
theorem Eh.from {N:Nat->Tn} {f b o n c x:Nat} {a D:Int} {k:Bool} {l:ByteArray} {d:Nat} {w W:World} {e:Ending} {w' : World} (h:Eh N f b o n c x a D k l d W e w') (j:w.grownBy W (some f)):Eh N f b o n c x a D k l d w e w':=by
 obtain⟨z,v,r,y,u⟩:=h;refine⟨Ao j z,v,r,y,?_⟩;rcases u with ⟨B,t,p,i,g,s,m,A⟩|q;.exact Or.inl ⟨B,t,p,i,g,s,m,GS.mono A j.size⟩
 .exact Or.inr q
theorem NL (N:Nat->Tn) (a b o n c:Nat) (hn:n<=5000) (ak:b<a) (hN:∀i,i<n->Bg (N i)):∀(d x:Nat) (f D:Int) (F:Bool) (H:ByteArray) (w:World),n<=x+d->x<=n->0<=f->f<=(x:Int)->DF w a b o n c x D H F->(∀W:World,Below a w W->Cb W (some (ad b o)) n N)->
  UO 109 #[pt a,iv f] w (Eh N a b o n c x f D F H d w):=by
 intro d;induction d with
 | zero=>
  intro x f D F H w hf hx aa ah h m;have e:x=n:=by omega
  subst e;have R:=h.cell 0;have G:=h.cell 1;simp at R G;have hq:((x:Int) == (x:Int))=true:=by simp
  clear h m hf hN;go_enter func109,ntmps109;go_wp2;go_quiet (fail)
  go_wp2;refine bodyPost_ret (v:=.tuple #[.nilIface,.bool false]) (by simp[results,results109,go_sem]) rfl ⟨As (Ai (Up _ _) _),_,false,rfl,Or.inr ⟨rfl,λ⟨t,_⟩=>t.elim⟩⟩
 | succ d ih=>
  intro x f D F H w hf hx aa ah h m;have an:=h.lt;by_cases al:x=n
  .subst al;have R:=h.cell 0;have G:=h.cell 1;simp at R G;have hq:((x:Int) == (x:Int))=true:=by simp
   clear h m hf hN ih;go_enter func109,ntmps109;go_wp2;go_quiet (fail)
   go_wp2;refine bodyPost_ret (v:=.tuple #[.nilIface,.bool false]) (by simp[results,results109,go_sem]) rfl ⟨As (Ai (Up _ _) _),_,false,rfl,Or.inr ⟨rfl,λ⟨t,D',ar,az,g⟩=>?_⟩⟩;have h1:=g.le;have h2:=Dj (d+1) t;omega
  .have I:x<n:=by omega
   have HR:U (DF w a b o n c x D H F):=h;have av:U (∀W:World,Below a w W->Cb W (some (ad b o)) n N):=m;have af:U (∀(W:World) (y:Nat) (D2:Int) (A:ByteArray) (B:Bool),Below a w W->x+1<=y->y<=n->DF W a b o n c y D2 A B->UO 109 #[pt a,iv (f+1)] W (Eh N a b o n c y (f+1) D2 B A d W)):=λW y D2 A B C hy ae ac=>ih y (f+1) D2 B A W (by omega) ae (by omega) (by omega) ac (λW' aj=>m W' (C.trans aj));have V:U (Bg (N x)):=hN x I;obtain⟨s,u,r,z,j⟩:∃s u r z,∀W:World,Below a w W->W.cell? (ad b (o+x*4))=some (.bool (N x).lf)/\W.cell? (ad b (o+x*4+1))=some (.slice s (N x).kn u)/\W.cell? (ad b (o+x*4+2))=some (.slice r (N x).dn z)/\W.cell? (ad b (o+x*4+3))=some (iv (N x).ct)/\Cg W s (N x).kn (N x).ks/\Rd .i64 W r (N x).dn (N x).kd:=by
    rcases m w (Up _ _) with q|⟨b',o',e,hc⟩;.omega
    injection e with e;injection e with P M;subst P;subst M;obtain⟨s,u,r,z,h0,h1,h2,h3,h4,h5⟩:=hc x I;refine⟨s,u,r,z,λW C=>?_⟩;rcases m W C with q|⟨b',o',e,ag⟩;.omega
    injection e with e;injection e with P M;subst P;subst M;obtain⟨a2,ao,a0,am,X,S,T,Z,g4,g5⟩:=ag x I;have ab:b<a:=ak;have P:=(C.cell (p:=(ad b (o+x*4+1))) ab);have M:=(C.cell (p:=(ad b (o+x*4+2))) ab);rw[S,h1] at P;rw[T,h2] at M;injection P with P;injection P with P _ e3;injection M with M;injection M with M _ e4;subst P;subst M;subst e3;subst e4;exact⟨X,S,T,Z,g4,g5⟩
   have HC:U (∀W:World,Below a w W->W.cell? (ad b (o+x*4))=some (.bool (N x).lf)/\W.cell? (ad b (o+x*4+1))=some (.slice s (N x).kn u)/\W.cell? (ad b (o+x*4+2))=some (.slice r (N x).dn z)/\W.cell? (ad b (o+x*4+3))=some (iv (N x).ct)/\Cg W s (N x).kn (N x).ks/\Rd .i64 W r (N x).dn (N x).kd):=j;have R:=h.cell 0;have G:=h.cell 1;have f1:=h.frozen 1;simp at R G;obtain⟨d0,d1,d2,d3,_,_⟩:=j w (Up _ _);have hq:((x:Int) == (n:Int))=false:=by simp;omega
   have au:(0:Int)<=(x:Int):=by omega
   have a1:(x:Int)<(n:Int):=by omega
   clear h m ih j hN;go_enter func109,ntmps109;go_wp2;go_quiet (fail)
   go_wp2;have H1:U (Bl w (w.drewN nq)):=Ai (Up _ _) nq;clear R G f1 d0 d1 d2 d3;generalize w.drewN nq=O at H1 ⊢;have E:U (DF O a b o n c x D H F):=HR.o.below H1.o;have R:=E.o.cell 0;have G:=E.o.cell 1;have f1:=E.o.frozen 1;have ap:=E.o.lt;simp at R G;obtain⟨d0,d1,d2,d3,_,_⟩:=HC.o O (H1.o.mono (by omega));have aw:b<O.heap.size:=Uo _ _ d0;go_region_held3 (λw'=>w'.cell? (ad a 0)=some (.slice (some (ad b o)) n c)/\w'.cell? (ad a 1)=some (iv (x:Int))/\w'.cell? (ad b (o+x*4))=some (.bool (N x).lf)/\w'.cell? (ad b (o+x*4+1))=some (.slice s (N x).kn u)/\w'.cell? (ad b (o+x*4+2))=some (.slice r (N x).dn z)/\w'.cell? (ad b (o+x*4+3))=some (iv (N x).ct)) (go_keep) (fail)
   go_upto_region 4 with fail
   have Q:U (Bx (O.alloc (.cells #[.bool (N x).lf,.slice s (N x).kn u,.slice r (N x).dn z,iv (N x).ct] 168)).drew O.heap.size 168 #[.bool (N x).lf,.slice s (N x).kn u,.slice r (N x).dn z,iv (N x).ct]/\DF (O.alloc (.cells #[.bool (N x).lf,.slice s (N x).kn u,.slice r (N x).dn z,iv (N x).ct] 168)).drew a b o n c x D H F/\Bl O (O.alloc (.cells #[.bool (N x).lf,.slice s (N x).kn u,.slice r (N x).dn z,iv (N x).ct] 168)).drew):=⟨(Bx.new _ _ _).drew,(E.o.alloc _).drew,(Aa _ _).drew⟩;clear R G f1 d0 d1 d2 d3;generalize (O.alloc (.cells #[.bool (N x).lf,.slice s (N x).kn u,.slice r (N x).dn z,iv (N x).ct] 168)).drew=w2 at Q ⊢;have ax:=H1.o.size;have G:=Q.o.2.1.cell 1;have f1:=Q.o.2.1.frozen 1;have aq:=Q.o.2.1.lt;have ay:=Q.o.1.lt;simp at G;go_upto_region 5 with fail
   have k:U (Bx (w2.setCell (ad a 1) (iv ((x:Int)+1))) O.heap.size 168 #[.bool (N x).lf,.slice s (N x).kn u,.slice r (N x).dn z,iv (N x).ct]/\DF (w2.setCell (ad a 1) (iv ((x:Int)+1))) a b o n c (x+1) D H F/\w.grownBy (w2.setCell (ad a 1) (iv ((x:Int)+1))) (some a)/\Below a w (w2.setCell (ad a 1) (iv ((x:Int)+1)))):=by have hg:w.grownBy (w2.setCell (ad a 1) (iv ((x:Int)+1))) (some a):=Ao (As (H1.o.trans (Q.o.2.2.mono H1.o.size))) (Eg _ _ _ _);refine⟨Q.o.1.other (by simp;omega) _,?_,hg,B9 hg (by omega) (Uq _)⟩;have q:=Q.o.2.1.set 1 (iv ((x:Int)+1));exact q
   clear G f1 Q E HR;generalize (w2.setCell (ad a 1) (iv ((x:Int)+1)))=w3 at k ⊢;cases hlf:(N x).lf with
   | true=>
    rw[hlf] at k;have X:=k.o.1.cell 0;have S:=k.o.1.cell 1;have T:=k.o.1.cell 2;have Z:=k.o.1.cell 3;simp at X S T Z;go_wp2_with fail
    refine (Jv N a b o n c x f D F H d w3 s r u z k.o.2.1 I hlf V.o (λW C=>(HC.o W (k.o.2.2.2.trans C)).2.2.2.2.1) aa).mono ?_;rintro e w4 l;have J:=l.from k.o.2.2.1;obtain⟨K,v,Y,rfl,L⟩:=J;have HF:U (Eh N a b o n c x f D F H (d+1) w (.returned (.tuple #[v,.bool Y])) w4):=⟨K,v,Y,rfl,L⟩;clear l K L X S T Z;go_wp2;refine bodyPost_ret (v:=.tuple #[v,.bool Y]) (by simp[results,results109,go_sem]) rfl HF.o
   | false=>
    rw[hlf] at k;have X:=k.o.1.cell 0;have S:=k.o.1.cell 1;have T:=k.o.1.cell 2;have Z:=k.o.1.cell 3;simp at X S T Z;go_wp2_with fail
    refine (Jf N a b o n c x f D F H d w3 s r u z k.o.2.1 I hn hlf V.o (λW C=>(HC.o W (k.o.2.2.2.trans C)).2.2.2.2.1) (λW C=>(HC.o W (k.o.2.2.2.trans C)).2.2.2.2.2) aa (by omega) (λW y D2 A B C=>af.o W y D2 A B (k.o.2.2.2.trans C))).mono ?_;rintro e w4 l;have J:=l.from k.o.2.2.1;obtain⟨K,v,Y,rfl,L⟩:=J;have HF:U (Eh N a b o n c x f D F H (d+1) w (.returned (.tuple #[v,.bool Y])) w4):=⟨K,v,Y,rfl,L⟩;clear l K L X S T Z;go_wp2;refine bodyPost_ret (v:=.tuple #[v,.bool Y]) (by simp[results,results109,go_sem]) rfl HF.o
theorem LZ (a:Option Addr) (b c:Nat) (D:Int) (g:Bool) (d:ByteArray) (w:World) (h:Bx w b 161 #[.slice a 0 c,iv 0,iv D,.string d,.bool g]) :
  UO 109 #[pt b,iv 0] w (UP w (.tuple #[.nilIface,.bool false])):=by
 have f:=h.cell 0;have e:=h.cell 1;simp at f e;clear h;go_enter func109,ntmps109;go_wp2;go_quiet (fail)
 go_wp2;refine bodyPost_ret (v:=.tuple #[.nilIface,.bool false]) (by simp[results,results109,go_sem]) rfl ⟨rfl,Ai (Up _ _) _⟩
def MX (w:World) (n:Nat) (N:Nat->Tn) (e:Ending) (w' : World):Prop:=
 Bl w w'/\∃v ok,e=.returned (.tuple #[v,.bool ok])/\
  ((ok=true/\∃(t:Ro n) (t' : Ro 21) (h:Nat),BE n N t'/\Ab 21 t'=Ab n t/\Aq n true t h/\Am N 0 n t 0/\Ac n t=n/\GS w.heap.size w' n t v)\/(ok=false/\¬ VT n N))
theorem Jn (a:Option Addr) (n c:Nat) (N:Nat->Tn) (w:World) (h:Cb w a n N) (hn:n<=1048576) (M:∀i,i<n->Bg (N i)) :
  UO 68 #[.agg #[.slice a n c]] w (MX w n N):=by
 by_cases h5:5000<n
 .have R:(5000:Int)<(n:Int):=by omega
  have Q : decide ((5000:Int)<(n:Int))=true:=decide_eq_true R;have aa : decide (5000<n)=true:=decide_eq_true h5;have d:U (¬ VT n N):=λ⟨t,r⟩=>by have:=r.2.1;omega
  clear h M;go_enter func68,ntmps68;go_wp2;refine bodyPost_ret (v:=.tuple #[.nilIface,.bool false]) (by simp[results,results68,go_sem]) rfl ⟨Aa _ _,_,false,rfl,.inr ⟨rfl,d.o⟩⟩
 .have R:¬ (5000:Int)<(n:Int):=by omega
  have Q : decide ((5000:Int)<(n:Int))=false:=decide_eq_false R;have aa : decide (5000<n)=false:=decide_eq_false h5;by_cases h0:n=0
  .subst h0;have d:U (¬ VT 0 N):=λ⟨t,r⟩=>by have:=r.1;omega
   clear h M;go_enter func68,ntmps68;go_upto_region 4 with fail
   have j:U (Bx ((w.alloc (.cells #[.slice a 0 c] 59)).alloc (.cells #[.slice a 0 c,iv 0,iv 0,.string { data:=#[] },.bool false] 161)) (w.heap.size+1) 161 #[.slice a 0 c,iv 0,iv 0,.string { data:=#[] },.bool false]/\Bl w ((w.alloc (.cells #[.slice a 0 c] 59)).alloc (.cells #[.slice a 0 c,iv 0,iv 0,.string { data:=#[] },.bool false] 161))):=by refine⟨?_,(Aa _ _).alloc (by simp) _⟩;have q:=Bx.new (w.alloc (.cells #[.slice a 0 c] 59)) #[.slice a 0 c,iv 0,iv 0,.string { data:=#[] },.bool false] 161;simpa using q
   generalize ((w.alloc (.cells #[.slice a 0 c] 59)).alloc (.cells #[.slice a 0 c,iv 0,iv 0,.string { data:=#[] },.bool false] 161))=W at j ⊢;go_wp2_with fail
   refine (LZ a (w.heap.size+1) c 0 false _ W j.o.1).mono ?_;rintro e O ⟨rfl,K⟩;have A:=Ae (j.o.2.trans (K.mono j.o.2.size));clear K j;go_wp2;go_quiet (fail)
   go_wp2;refine bodyPost_ret (v:=.tuple #[.nilIface,.bool false]) (by simp[results,results68,go_sem]) rfl ⟨Ai A.o _,_,false,rfl,.inr ⟨rfl,d.o⟩⟩
  .obtain⟨b,o,rfl,ab⟩:∃b o,a=some (ad b o)/\b<w.heap.size:=by
    rcases h with q|⟨b,o,e,hc⟩;.exact absurd q h0
    .obtain⟨_,_,_,_,q,_⟩:=hc 0 (by omega);exact⟨b,o,e,Uo _ _ q⟩
   have HR:=Ae (ai h M);clear h M;go_enter func68,ntmps68;go_upto_region 4 with fail
   have j:U (DF ((w.alloc (.cells #[.slice (some (ad b o)) n c] 59)).alloc (.cells #[.slice (some (ad b o)) n c,iv 0,iv 0,.string { data:=#[] },.bool false] 161)) (w.heap.size+1) b o n c 0 0 { data:=#[] } false/\Bx ((w.alloc (.cells #[.slice (some (ad b o)) n c] 59)).alloc (.cells #[.slice (some (ad b o)) n c,iv 0,iv 0,.string { data:=#[] },.bool false] 161)) w.heap.size 59 #[.slice (some (ad b o)) n c]/\Bl w ((w.alloc (.cells #[.slice (some (ad b o)) n c] 59)).alloc (.cells #[.slice (some (ad b o)) n c,iv 0,iv 0,.string { data:=#[] },.bool false] 161))/\((w.alloc (.cells #[.slice (some (ad b o)) n c] 59)).alloc (.cells #[.slice (some (ad b o)) n c,iv 0,iv 0,.string { data:=#[] },.bool false] 161)).heap.size=w.heap.size+2):=by refine⟨?_,(Bx.new _ _ _).alloc _,(Aa _ _).alloc (by simp) _,by simp⟩;have q:=Bx.new (w.alloc (.cells #[.slice (some (ad b o)) n c] 59)) #[.slice (some (ad b o)) n c,iv 0,iv 0,.string { data:=#[] },.bool false] 161;simp only[UF] at q;exact q
   generalize ((w.alloc (.cells #[.slice (some (ad b o)) n c] 59)).alloc (.cells #[.slice (some (ad b o)) n c,iv 0,iv 0,.string { data:=#[] },.bool false] 161))=W at j ⊢;go_wp2_with fail
   refine (NL N (w.heap.size+1) b o n c (by omega) (by omega) HR.o.2 n 0 0 0 false _ W (by omega) (by omega) (by omega) (by omega) j.o.1 (λW' X=>HR.o.1.below (j.o.2.2.1.trans (X.mono (by omega))))).mono ?_;rintro e O ⟨y,v,ok,rfl,hr⟩;have Z:=j.o.2.2.2;have A:=Ae (j.o.2.2.1.trans (B9 y (by omega) (by omega)));have HT:=Ae (j.o.2.1.grown y (λe=>by injection e with e;omega));have B:=Ae hr;have P:U (w.heap.size<=W.heap.size):=by show w.heap.size<=W.heap.size;omega
   clear y hr j Z;cases ok with
   | false=>
    have d:U (¬ VT n N):=by
     rintro⟨t,r⟩;obtain⟨t2,J,k,l,g,_⟩:=Nt r (Uq n);rcases B.o with ⟨q,_⟩|⟨_,q⟩;.cases q
     .exact q ⟨t2,J,k,l,g⟩
    go_wp2;go_quiet (fail)
    go_wp2;refine bodyPost_ret (v:=.tuple #[.nilIface,.bool false]) (by simp[results,results68,go_sem]) rfl ⟨Ai A.o _,_,false,rfl,.inr ⟨rfl,d.o⟩⟩
   | true=>
    obtain⟨t,J,k,l,f,s,G⟩:∃t J k l,Cw N n 0 0 0 false { data:=#[] } n t J k l/\DF O (w.heap.size+1) b o n c (0+Ac n t) J l k/\GS W.heap.size O n t v:=by
     rcases B.o with ⟨_,q⟩|⟨q,_⟩;.exact q
     .cases q
    have C:=Ae (ai f G);have y0:=HT.o.cell 0;have F:=f.le;rw[UI] at s F;obtain⟨m,S⟩:=gn (Ac n t);rw[<- S] at s F;have r1:=s.cell 1;have HM:=Ae S;simp at y0 r1;clear B f s G S;obtain⟨vb,H⟩:∃p,v=.iface 204 (.pointer (some p))\/v=.iface 174 (.pointer (some p)):=by obtain⟨bb,_,_,_,r⟩:=(GS.tat C.o.2).count;exact⟨_,r⟩
    by_cases z:m=n
    .have u:U (∃(t:Ro n) (x : Ro 21) (h:Nat),BE n N x/\Ab 21 x=Ab n t/\Aq n true t h/\Am N 0 n t 0/\Ac n t=n/\GS w.heap.size O n t v):=by
      have L:Ac n t=n:=by rw[<- HM.o];exact z
      obtain⟨x,I,E⟩:=Ry (by omega) C.o.1 L;obtain⟨D,hb,_⟩:=C.o.1.bal;exact⟨t,x,D,I,E,by simpa using hb,C.o.1.tl,L,GS.mono C.o.2 (by have:=P.o;omega)⟩
     subst z;have hq:((m:Int) != (m:Int))=false:=by simp
     rcases H with rfl|rfl
     .go_wp2;go_quiet (fail)
      go_wp2;refine bodyPost_ret (v:=.tuple #[.iface 204 (.pointer (some vb)),.bool true]) (by simp[results,results68,go_sem]) rfl ⟨Ai A.o _,_,true,rfl,.inl ⟨rfl,?_⟩⟩;obtain⟨t,x,D,I,E,V,q4,T,Y⟩:=u.o;exact⟨t,x,D,I,E,V,q4,T,Y.below (Ai (Up _ _) _)⟩
     .go_wp2;go_quiet (fail)
      go_wp2;refine bodyPost_ret (v:=.tuple #[.iface 174 (.pointer (some vb)),.bool true]) (by simp[results,results68,go_sem]) rfl ⟨Ai A.o _,_,true,rfl,.inl ⟨rfl,?_⟩⟩;obtain⟨t,x,D,I,E,V,q4,T,Y⟩:=u.o;exact⟨t,x,D,I,E,V,q4,T,Y.below (Ai (Up _ _) _)⟩
    .have hq:((m:Int) != (n:Int))=true:=by simp;omega
     have d:U (¬ VT n N):=by rintro⟨t2,r⟩;obtain⟨t3,D3,ac,ae,g3,e3⟩:=Nt r (Uq n);have e:=Dx _ _ _ g3.tl C.o.1.tl;rw[e,<- HM.o] at e3;exact z e3
     rcases H with rfl|rfl
     .go_wp2;go_quiet (fail)
      go_wp2;refine bodyPost_ret (v:=.tuple #[.nilIface,.bool false]) (by simp[results,results68,go_sem]) rfl ⟨Ai A.o _,_,false,rfl,.inr ⟨rfl,d.o⟩⟩
     .go_wp2;go_quiet (fail)
      go_wp2;refine bodyPost_ret (v:=.tuple #[.nilIface,.bool false]) (by simp[results,results68,go_sem]) rfl ⟨Ai A.o _,_,false,rfl,.inr ⟨rfl,d.o⟩⟩
end Go.Proofs.YtcnollkkigiobaaGreat
