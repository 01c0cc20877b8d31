import Derived.Test.YtcnollkkigiobaaGreatNv6
set_option linter.unusedVariables false
set_option linter.unusedSimpArgs false
set_option maxRecDepth 100000
set_option maxHeartbeats 90000000
namespace Go.Proofs.YtcnollkkigiobaaGreat
open Go Go.Deep Go.RowKit Go.Proofs.Tryz
def I8 (w:World) (v:Value) (key:ByteArray) (r:Nat):Prop:=
 (∃p,v=.iface 204 (.pointer (some p))/\UO 206 #[.pointer (some p),.string key] w λe w'=>e=.returned (iv (r:Int))/\w'=w)\/
 (∃p,v=.iface 174 (.pointer (some p))/\UO 189 #[.pointer (some p),.string key] w λe w'=>e=.returned (iv (r:Int))/\w'=w)
theorem PK (key:ByteArray) (w:World) (S:Nat->Prop):∀(d:Nat) (t:Ro d) (v:Value) (x:Bool) (h:Nat),FZ S w d t v->Aq d x t h->BI (Ab d t)->(Ab d t).length<=1048576->I8 w v key (Bs key (Ab d t)):=by
 intro d;induction d with
 | zero=>intro t;exact t.elim
 | succ d ih=>
  intro t v x h X hb ha n;rcases t with t|l;.obtain⟨b,ka,W,rfl,_,Z,hr⟩:=X;exact Or.inl ⟨_,rfl,KL b t.length W ka _ t key w Z hr.rdS rfl n ha⟩
  .have ac:=X;obtain⟨b,g,W,xs,rfl,_,Z,_,ah,hl,hc,B⟩:=ac;obtain⟨ab,P,h',_,c⟩:=hb;refine Or.inr ⟨_,rfl,?_⟩;have z : BI (l.flatMap (Ab d)):=ha;have r : (l.flatMap (Ab d)).length<=1048576:=n;have Q:=Ae (EE d b l S h' key w X c P);have M:U (∀k (B:k<l.length),∃u,w.cell? (ad g k)=some u/\I8 w u key (Bs key (Ab d l[k]))):=by intro k f;obtain⟨u,V,G⟩:=B k f;exact⟨u,hc k u V,ih l[k] u false h' G (c _ (UA f)) (Ca z k f) (by have:=Bo d l k f;omega)⟩
   have ag:U (∀k (B:k<l.length),∃u D,w.cell? (ad g k)=some u/\w.cell? (ad D 0)=some (iv ((Ab d l[k]).length:Int))/\(u=.iface 204 (pt D)\/u=.iface 174 (pt D))):=by intro k f;obtain⟨u,V,G⟩:=B k f;obtain⟨D,_,_,K,J⟩:=G.count;exact⟨u,D,hc k u V,K,J⟩
   have m:U (∀i (hi:i<l.length),(∀h:i<l.length,0<i->Op.bytesLess key.toList (gt (Ab d l[i]) 0).toList=false)->(∀h:i+1<l.length,Op.bytesLess key.toList (gt (Ab d l[i+1]) 0).toList=true)->Bs key (l.flatMap (Ab d))=((l.take i).flatMap (Ab d)).length+Bs key (Ab d l[i])):=λi hi K J=>Qa hi z (λk B=>DI (c _ (UA B))) (λh0=>K hi h0) J;have F:=Ae r;have c1:=Z.cell 1;simp at c1;obtain⟨ln,E⟩:=gn l.length;obtain⟨_,T,ae⟩:=ah;rw[<- E] at c1 hl P T;have aa:=Ae E;clear Z hc B c ih X ha n z r E ab;have y:U (Bs key (Ab (d+1) (.inr l))=Bs key (l.flatMap (Ab d))):=rfl;go_enter func189,ntmps189;go_wp2_with fail
   refine Q.o.mono ?_;rintro e Y ⟨i,rfl,rfl,hi,K,J⟩;have HM:U (Bs key (l.flatMap (Ab d))=((l.take i).flatMap (Ab d)).length+Bs key (Ab d l[i])):=m.o i hi K J;obtain⟨u,V,s⟩:=M.o i hi;have an:i<ln:=by rw[aa.o];exact hi
   have i0:(0:Int)<=(i:Int):=by omega
   have i1:(i:Int)<(ln:Int):=by omega
   have ic:(i:Int)<=(W:Int):=by omega
   have ak:i<=W:=by omega
   obtain⟨R,hR⟩:∃R,R=Bs key (Ab d l[i]):=⟨_,rfl⟩;rw[<- hR] at s;have HR:U (R=Bs key (Ab d l[i])/\R<=1048576):=by refine⟨hR,?_⟩;have h1:Bs key (Ab d l[i])<=(Ab d l[i]).length:=List.length_filter_le _ _;have h2:=Bo d l i hi;have:=F.o;omega
   have aq:=HR.o.2;clear K J Q m M hR;rcases s with ⟨p,rfl,a⟩|⟨p,rfl,a⟩;all_goals
    first
     | have HC:U (UO 206 #[.pointer (some p),.string key] Y λe w'=>e=.returned (iv (R:Int))/\w'=Y):=a
     | have HC:U (UO 189 #[.pointer (some p),.string key] Y λe w'=>e=.returned (iv (R:Int))/\w'=Y):=a
    clear a
    go_wp2_with fail
    refine HC.o.mono ?_
    rintro e w2 ⟨rfl,rfl⟩
    go_wp2
    go_loopw [6,28] (λq k wr=>∃j A:Nat,j<=i/\k=iv j/\q=iv (A:Int)/\A=R+((l.take j).flatMap (Ab d)).length/\wr=w2) (λ_ k _=>i-(intOf k).toNat)
    case atStart=>exact⟨0,R,Us _,rfl,rfl,by simp,rfl⟩
    case round=>
     obtain⟨j,A,hj,rfl,rfl,hA,rfl⟩:=hrel
     have HA:=Ae hA
     have al:A<=4194304:=by
      have:=Bk (Ab d) l j
      have:=F.o
      omega
     clear hA
     by_cases am:j<i
     .have I:j<l.length:=by omega
      obtain⟨u,D,ao,O,H⟩:=ag.o j I
      have j0:(0:Int)<=(j:Int):=by omega
      have j1:(j:Int)<(i:Int):=by omega
      obtain⟨C,hC⟩:=gn ((Ab d l[j]).length)
      rw[<- hC] at O
      have af:=Ae hC
      have ap:C<=1048576:=by
       have:=Bo d l j I
       have:=F.o
       omega
      have HN:U (A+C=R+((l.take (j+1)).flatMap (Ab d)).length):=by
       show A+C=R+((l.take (j+1)).flatMap (Ab d)).length
       rw[CY l j I,HA.o,af.o]
       omega
      clear hC
      have HB:=Ae (BK D (C:Int) wr O)
      rcases H with rfl|rfl
      .go_wp2_with fail
       refine HB.o.mono ?_
       rintro e w3 ⟨rfl,rfl⟩
       go_wp2
       go_roundw
       case rel=>exact⟨j+1,A+C,by omega,by go_num,by go_num,HN.o,trivial⟩
       case measure=>simp[intOf];omega
      .go_wp2_with fail
       refine HB.o.mono ?_
       rintro e w3 ⟨rfl,rfl⟩
       go_wp2
       go_roundw
       case rel=>exact⟨j+1,A+C,by omega,by go_num,by go_num,HN.o,trivial⟩
       case measure=>simp[intOf];omega
     .have e:j=i:=by omega
      subst e
      have aj:¬ (j:Int)<(j:Int):=by omega
      have N:U (Bs key (Ab (d+1) (.inr l))=A):=by
       show Bs key (Ab (d+1) (.inr l))=A
       rw[y.o,HM.o,HA.o,HR.o.1]
       omega
      go_wp2
      go_ret
      exact⟨by rw[N.o];rfl,rfl⟩
variable {L:List ByteArray}{hi lo:ByteArray}
def NS (lo hi k:ByteArray):Bool:=!(Op.bytesLess k.toList lo.toList) && (hi.toList.isEmpty || Op.bytesLess k.toList hi.toList)
def BZ (lo hi:ByteArray) (L:List ByteArray):List ByteArray:=L.filter (NS lo hi)
theorem KD (lo hi:ByteArray) (L M:List ByteArray):BZ lo hi (L++M)=BZ lo hi L++BZ lo hi M:=List.filter_append ..
theorem Pm (lo hi:ByteArray) (L:List ByteArray):(BZ lo hi L).length<=L.length:=List.length_filter_le _ _
theorem PO {k:Nat} (h:k<L.length):BZ lo hi (L.take (k+1))=BZ lo hi (L.take k)++(if NS lo hi (gt L k)=true then [gt L k] else []):=by rw[FY h,KD];congr 1;unfold BZ;rw[List.filter_cons,List.filter_nil]
theorem LJ (h:∀k,k∈L->NS lo hi k=false):BZ lo hi L=[]:=by unfold BZ;rw[List.filter_eq_nil_iff];intro k a;rw[h k a];simp
def GR (B:Nat) (w:World) (L:List ByteArray) (e:Ending) (w' : World):Prop:=
 ∃a c,e=.returned (.slice a L.length c)/\w'.ownsRow B 9 1 (.slice a L.length c) L.length (Ap L)/\Below B w w'
theorem ML (B b n kc:Nat) (ka:Option Addr) (v0:Value) (L j:List ByteArray) (lo hi:ByteArray) (Z:Option Addr) (F c0:Nat) (w:World) (hx:Bx w b 206 #[v0,.slice ka n kc]) (aj:b<B) (hr:∀W:World,Below B w W->Cg W ka n (gt L)) (hn:n=L.length) (ah:n<=1048576) (h0:w.ownsRow B 9 1 (.slice Z F c0) F (Ap j)) (H:F=j.length) (af:F<=1073741824) (hB:B<=w.heap.size) :
  UO 203 #[pt b,.slice Z F c0,.string lo,.string hi] w (GR B w (j++BZ lo hi L)):=by
 have T:=Ae (ai hr hn);have X:=Ae (ai h0 H);have c1:=hx.cell 1;simp at c1;clear hx hr hn h0 H;go_enter func203,ntmps203;go_wp2;go_loopw [1,16] (λq i wr=>∃(k m:Nat) (a:Option Addr) (c:Nat),k<=n/\i=iv k/\q=.slice a m c/\m=(j++BZ lo hi (L.take k)).length/\wr.ownsRow B 9 1 (.slice a m c) m (Ap (j++BZ lo hi (L.take k)))/\Below B w wr) (λ_ i _=>n-(intOf i).toNat)
 case atStart=>exact⟨0,F,Z,c0,Us _,rfl,rfl,by simp[BZ,X.o.2],by simpa[BZ] using X.o.1,Up _ _⟩
 case round=>
  obtain⟨k,m,a,c,hk,rfl,rfl,hm,s,l⟩:=hrel;clear c1;have r:U (m=(j++BZ lo hi (L.take k)).length/\wr.ownsRow B 9 1 (.slice a m c) m (Ap (j++BZ lo hi (L.take k)))/\Below B w wr):=⟨hm,s,l⟩;have ae:m<=2147483648:=by rw[Uz] at hm;have h1:=Pm lo hi (L.take k);have h2:(L.take k).length<=L.length:=List.length_take_le' _ _;have:=T.o.2;have:=X.o.2;omega
  have hz:=l.size;clear hm s l;by_cases K:k<n
  .have aa:k<L.length:=by rw[<- T.o.2];exact K
   rcases T.o.1 wr r.o.2.2 with q|⟨b3,o3,rfl,Q⟩;.omega
   have s1:=Q k K;have i0:(0:Int)<=(k:Int):=by omega
   have i1:(k:Int)<(n:Int):=by omega
   have z:=PO (lo:=lo) (hi:=hi) aa;have ag:b<wr.heap.size:=by omega
   clear Q;have d:=Cc (gt L k).toList lo.toList;have h:NS lo hi (gt L k)=true->U (∀(A : Value) (x:World),x.ownsRow B 9 1 A (m+1) (Ap (j++BZ lo hi (L.take k))++[.string (gt L k)])->x.ownsRow B 9 1 A (m+1) (Ap (j++BZ lo hi (L.take (k+1))))/\m+1=(j++BZ lo hi (L.take (k+1))).length):=by
    intro y A x p;rw[z,y,if_pos rfl,<- List.append_assoc];constructor;.rw[Bv];exact p
    .rw[Uz,<- r.o.1];rfl
   have f:NS lo hi (gt L k)=false->U (m=(j++BZ lo hi (L.take (k+1))).length/\wr.ownsRow B 9 1 (.slice a m c) m (Ap (j++BZ lo hi (L.take (k+1))))/\Below B w wr):=by intro y;rw[z,y,if_neg (by simp),List.append_nil];exact r.o
   obtain⟨E,R,N,P,J⟩:=info_parts info9;have t:U (prog.info? 9=some E/\E.zero=some (.string { data:=#[] })/\E.size=1/\E.bytes=16):=⟨R,N,P,J⟩;clear R N P J z;have S:U ((wr.alloc (.cells #[.string (gt L k)] 9)).ownsRow B 9 1 (.slice a m c) m (Ap (j++BZ lo hi (L.take k)))):=Ag r.o.2.1 (Aa _ _);cases hl:Op.bytesLess (gt L k).toList lo.toList with
   | true=>
    rw[hl] at d;have ab:=d;have V:=f (by unfold NS;rw[hl];rfl);clear d h f;go_wp2;go_roundw;case rel=>exact⟨k+1,m,a,c,by omega,by go_num,rfl,V.o⟩
    case measure=>simp[intOf];omega
   | false=>
    rw[hl] at d;have ab:=d;by_cases D:hi.toList=[]
    .have HY:=h (by unfold NS;rw[hl,D];rfl);clear d h f;go_wp2_with (at_builtin;refine wpList_append_own_at _ rfl _ _ 88 rfl B 9 E _ 1 16 underlying88 t.o.1 t.o.2.1 t.o.2.2.1 t.o.2.2.2 rfl (by decide) (.slice a m c) m _ rfl S.o (ad wr.heap.size 0) 1 1 [.string (gt L k)] rfl rfl (cell_one_new _ _ _) (by intro u G;simp at G;subst G;rfl) (by unfold maxLen;omega) (by omega) (by simp;omega) ?_)
     intro A x p O _ v;have C:=Ae ((r.o.2.2.trans ((Aa _ _).mono (by omega))).grown O (by simp;omega) (λg e=>(Ah r.o.2.1 g e).1));obtain⟨M,I⟩:=HY.o A x p;obtain⟨Y,c5,rfl,_⟩:=Af p;have HX:=Ae (ai I (ai M C.o));clear p O v M I S;go_wp2;go_roundw;case rel=>exact⟨k+1,m+1,Y,c5,by omega,by go_num,rfl,HX.o⟩
     case measure=>simp[intOf];omega
    .have ac : hi.toList.isEmpty=false:=by simpa using D
     cases hh:Op.bytesLess (gt L k).toList hi.toList with
     | true=>
      have HY:=h (by unfold NS;rw[hl,hh];simp);clear d h f;go_wp2_with (at_builtin;refine wpList_append_own_at _ rfl _ _ 88 rfl B 9 E _ 1 16 underlying88 t.o.1 t.o.2.1 t.o.2.2.1 t.o.2.2.2 rfl (by decide) (.slice a m c) m _ rfl S.o (ad wr.heap.size 0) 1 1 [.string (gt L k)] rfl rfl (cell_one_new _ _ _) (by intro u G;simp at G;subst G;rfl) (by unfold maxLen;omega) (by omega) (by simp;omega) ?_)
      intro A x p O _ v;have C:=Ae ((r.o.2.2.trans ((Aa _ _).mono (by omega))).grown O (by simp;omega) (λg e=>(Ah r.o.2.1 g e).1));obtain⟨M,I⟩:=HY.o A x p;obtain⟨Y,c5,rfl,_⟩:=Af p;have HX:=Ae (ai I (ai M C.o));clear p O v M I S;go_wp2;go_roundw;case rel=>exact⟨k+1,m+1,Y,c5,by omega,by go_num,rfl,HX.o⟩
      case measure=>simp[intOf];omega
     | false=>
      have V:=f (by unfold NS;rw[hl,hh];simp[D]);clear d h f;go_wp2;go_roundw;case rel=>exact⟨k+1,m,a,c,by omega,by go_num,rfl,V.o⟩
      case measure=>simp[intOf];omega
  .have e:k=n:=by omega
   subst e;have HE:U (L.take k=L):=by show L.take k=L;rw[T.o.2,UC]
   go_wp2;go_ret;have q:=r.o;rw[HE.o] at q;refine⟨a,c,by rw[<- q.1];rfl,by rw[<- q.1];exact q.2.1,q.2.2⟩
end Go.Proofs.YtcnollkkigiobaaGreat
