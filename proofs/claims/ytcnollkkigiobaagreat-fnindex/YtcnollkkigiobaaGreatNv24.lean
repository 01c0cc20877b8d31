import Derived.Maps.Own
import Derived.MapKept
import Derived.Test.YtcnollkkigiobaaGreatNv11
set_option linter.unusedVariables false
set_option linter.unusedSimpArgs false
set_option maxRecDepth 100000
set_option maxHeartbeats 90000000
namespace Go.Proofs.YtcnollkkigiobaaGreat
open Go Go.ChangeMaps Go.Deep Go.MapKept Go.RowKit Go.Proofs.Tryz
variable {B:Nat}{L:List Qd}{w w':World}
theorem TG:prog.underlying 34=some (.struct #[{ name := "S",type:=2,offset:=0,embedded:=false,tag := "",pkgPath := "",byteOffset:=0 },{ name := "P",type:=2,offset:=1,embedded:=false,tag := "",pkgPath := "",byteOffset:=8 },{ name := "O",type:=2,offset:=2,embedded:=false,tag := "",pkgPath := "",byteOffset:=16 },{ name := "G",type:=2,offset:=3,embedded:=false,tag := "",pkgPath := "",byteOffset:=24 }]):=by kernel_rfl
theorem TX:prog.underlying 2=some (.int .i64):=by kernel_rfl
theorem PQ (e:Bool) (n:Nat) (x:Int) (w:World):(Instr.checkKey e (n+1) 2 (iv x)).run prog w=.ok () w:=run_checkKey TX (by simp[IsKey]) e n
theorem Nc (x y z u:Int) (i:Nat) (hi:i<4) (w:World):∃r,(part 2 #[iv x,iv y,iv z,iv u] i).run prog w=.ok (iv r) w:=by
 rcases (show i=0\/i=1\/i=2\/i=3 by omega) with rfl|rfl|rfl|rfl;.exact⟨x,by simp[go_sem]⟩
 .exact⟨y,by simp[go_sem]⟩
 .exact⟨z,by simp[go_sem]⟩
 .exact⟨u,by simp[go_sem]⟩
theorem Re (e:Bool) (n:Nat) (q:Qd) (w:World):(Instr.checkKey e (n+1+1) 34 (qv q)).run prog w=.ok () w:=by unfold qv;obtain⟨j,c⟩:=Nc q.s q.p q.o q.g 0 (by omega) w;obtain⟨h,d⟩:=Nc q.s q.p q.o q.g 1 (by omega) w;obtain⟨i,b⟩:=Nc q.s q.p q.o q.g 2 (by omega) w;obtain⟨f,a⟩:=Nc q.s q.p q.o q.g 3 (by omega) w;rw[Instr.checkKey];simp only[Sem.run_bind,run_underlying TG,Result.andThen_ok];rw[<- Array.forIn_toList];simp only[List.forIn_cons,List.forIn_nil,Sem.run_bind,Sem.run_ite,Sem.run_pure,Result.andThen_ok,c,PQ];simp[d,b,a,PQ]
theorem L5 (e:Bool) (q:Qd) (w:World):(Instr.checkKey e 10000 34 (qv q)).run prog w=.ok () w:=Re e 9998 q w
theorem LX (x:Qd) (w:World):(Op.equal 34 (qv x) (qv x)).run prog w=.ok true w:=by show (Op.equalIn 10000 34 (qv x) (qv x)).run prog w=_;unfold qv;rw[TL,(Qw (x:=x) (y:=x)).2 rfl]
theorem JJ {x y:Qd} (h:x≠y) (w:World):(Op.equal 34 (qv x) (qv y)).run prog w=.ok false w:=by
 show (Op.equalIn 10000 34 (qv x) (qv y)).run prog w=_;unfold qv;rw[TL];cases hb:(x.s == y.s && (x.p == y.p && (x.o == y.o && x.g == y.g))) with
 | false=>rfl
 | true=>exact absurd (Qw.1 hb) h
def Sd (es:List MapEntry) (L:List Qd):Prop:=es.map (λe=>(e.key,e.val))=L.map (λq=>(qv q,.agg #[]))
theorem Ps (q:Qd) (w:World):∀(a:List MapEntry) (L:List Qd) (i:Nat),Sd a L->
  (q∉L/\(Instr.findAsking 34 (qv q) a i).run prog w=.ok none w)\/(q∈L/\∃j,(Instr.findAsking 34 (qv q) a i).run prog w=.ok (some (j,.agg #[])) w)
 | [],[],i,_=>.inl ⟨by simp,by rw[Instr.findAsking];rfl⟩
 | [],x::L,i,h=>by simp[Sd] at h
 | e::a,[],i,h=>by simp[Sd] at h
 | e::a,x::L,i,h=>by
  have f:e.key=qv x/\e.val=.agg #[]/\Sd a L:=by
   unfold Sd at h
   rw[List.map_cons,List.map_cons] at h
   injection h with d f
   injection d with d b
   exact⟨d,b,f⟩
  obtain⟨b,g,l⟩:=f
  by_cases c:q=x
  .refine .inr ⟨by simp[c],i,?_⟩
   rw[Instr.findAsking,b,g,c]
   simp[LX]
  .rcases Ps q w a L (i+1) l with ⟨m,r⟩|⟨m,j,r⟩
   .refine .inl ⟨by simp[c,m],?_⟩
    rw[Instr.findAsking,b]
    simp[JJ c,r]
   .refine .inr ⟨by simp[m],j,?_⟩
    rw[Instr.findAsking,b]
    simp[JJ c,r]
theorem MZ (q:Qd) (w:World) (a:List MapEntry) (L:List Qd) (h:Sd a L) :
  (q∉L/\(Instr.findKey 34 (qv q) a).run prog w=.ok none w)\/(q∈L/\∃j,(Instr.findKey 34 (qv q) a).run prog w=.ok (some (j,.agg #[])) w):=by
 have b:(Instr.findKey 34 (qv q) a).run prog w=(Instr.findAsking 34 (qv q) a).run prog w:=by
  unfold Instr.findKey;simp only[Sem.run_bind,run_underlying TG,Result.andThen_ok];cases a with
  | nil=>rfl
  | cons e a=>rfl
 rw[b];exact Ps q w a L 0 h
def D8 (w:World) (B:Nat) (L:List Qd):Prop:=∃es clock,w.heap[B]?=some (.map es clock)/\Sd es.toList L
theorem D8.lt (h:D8 w B L):B<w.heap.size:=by obtain⟨a,c,h,_⟩:=h;exact (Array.getElem?_eq_some_iff.1 h).1
theorem D8.kept (h:D8 w B L) (b:w'.heap[B]?=w.heap[B]?):D8 w' B L:=by obtain⟨a,c,h,q⟩:=h;exact⟨a,c,b.trans h,q⟩
theorem D8.below (h:D8 w B L) (a:Bl w w'):D8 w' B L:=h.kept (a.block _ h.lt)
theorem Ph (w:World):D8 (w.alloc (.map #[] 0)) w.heap.size []:=⟨#[],0,blk_alloc_new _ _,rfl⟩
theorem Rf:prog.underlying 111=some (.map 34 163):=by kernel_rfl
theorem D8.look (h:D8 w B L) (q:Qd):∃b,(b=true↔q∈L)/\(Instr.lookup 111 (.map (some B)) (qv q) true).run prog w=.ok (.tuple #[.agg #[],.bool b]) w:=by
 obtain⟨d,c,a,e⟩:=h;rcases MZ q w d.toList L e with ⟨m,r⟩|⟨m,j,r⟩;.exact⟨false,by simp[m],by simp[Instr.lookup,run_underlying Rf,MapKept.run_getObj_map a,L5,r,Result.andThen]⟩
 .exact⟨true,by simp[m],by simp[Instr.lookup,run_underlying Rf,MapKept.run_getObj_map a,L5,r,Result.andThen]⟩
theorem D8.put (h:D8 w B L) (q:Qd) (g:q∉L):∃w',(Instr.mapUpdate 111 (.map (some B)) (qv q) (.agg #[])).run prog w=.ok () w'/\D8 w' B (L++[q])/\w.grownBy w' (some B):=by
 obtain⟨d,a,b,c⟩:=h;rcases MZ q w d.toList L c with ⟨m,r⟩|⟨m,_⟩
 .refine⟨setBlock w B (.map (d.push { key:=qv q,val:=.agg #[],born:=a }) (a+1)),?_,⟨_,_,heap_setBlock_same b _,?_⟩,⟨rfl,rfl,rfl,by simp[setBlock],λi _ f=>heap_setBlock_other b _ (λe=>f (by rw[e]))⟩⟩;.simp[Instr.mapUpdate,run_underlying Rf,MapKept.run_getObj_map b,L5,r,MapKept.run_setObj_map _ b,Result.andThen,setBlock]
  .unfold Sd at c ⊢;rw[Array.toList_push,List.map_append,List.map_append,c];rfl
 .exact absurd m g
theorem D8.len (h:D8 w B L) (ty:TypeId):(Builtin.len_ #[111] ty #[.map (some B)]).run prog w=.ok (iv L.length) w:=by
 obtain⟨b,a,d,c⟩:=h;have e:b.size=L.length:=by have:=congrArg List.length c;simpa using this
 simp[Builtin.len_,run_underlying Rf,MapKept.run_getObj_map d,Result.andThen,e,goInt]
variable {k:Nat}
theorem Oj (h:k<L.length):L.take (k+1)=L.take k++[L[k]]:=by rw[List.take_add_one,Ut h];rfl
theorem PG (a:L.Nodup) (h:k<L.length):L[k]∉L.take k:=by
 intro b;have e:L=L.take k++(L[k]::L.drop (k+1)):=by rw[List.getElem_cons_drop,List.take_append_drop]
 rw[e] at a;have:=(List.nodup_append.1 a).2.2 _ b _ (List.mem_cons_self ..);exact this rfl
theorem JO (a:Option Addr) (n c:Nat) (L:List Qd) (w:World) (h:FX w a L) (F:n=L.length) (G:n<=1048576) (m:L.Nodup) :
  UO 70 #[.slice a n c] w λe w'=>∃B,e=.returned (.map (some B))/\D8 w' B L/\Bl w w'/\w.heap.size<=B:=by
 have u:=Ae (ai h (ai F m));clear h F m;have H:=@run_makeMap prog;go_enter func70,ntmps70;go_wp2;go_loopw [5,9] (λ_ i wr=>∃k:Nat,k<=n/\i=iv k/\D8 wr w.heap.size (L.take k)/\Bl w wr) (λ_ i _=>n-(intOf i).toNat)
 case atStart=>exact⟨0,Us _,rfl,Ph w,Aa _ _⟩
 case round=>
  obtain⟨k,Q,rfl,v,d⟩:=hrel;have z:=Ae (ai v d);by_cases y:k<n
  .have f:k<L.length:=by rw[<- u.o.2.1];exact y
   rcases u.o.1.below d with O|⟨b,rfl,D⟩;.omega
   obtain⟨N,K,J,I⟩:=D k f;have R:(0:Int)<=(k:Int):=by omega
   have P:(k:Int)<(n:Int):=by omega
   have l:=PG u.o.2.2 f;have j:=Oj f;obtain⟨x,C⟩:=gn (L[k]);rw[<- C] at N K J I l j;obtain⟨A,t,q,r⟩:=(v.below (Aa wr (.cells #[iv x.s,iv x.p,iv x.o,iv x.g] 34))).put x l;have M:U (D8 A w.heap.size (L.take (k+1))/\Bl w A):=by refine⟨by rw[j];exact q,?_⟩;have E:=d.trans ((Aa wr (.cells #[iv x.s,iv x.p,iv x.o,iv x.g] 34)).mono d.size);exact E.trans (B9 r E.size (Uq _))
   unfold qv at t;clear D v d C l j q r;go_wp2;go_roundw;case rel=>exact⟨k+1,by omega,by go_num,M.o⟩
   case measure=>simp[intOf];omega
  .obtain rfl:k=n:=by omega
   have S:¬ (k:Int)<(k:Int):=by omega
   clear v d;go_wp2;go_ret;refine⟨w.heap.size,rfl,?_,z.o.2,Uq _⟩;have e:L.take k=L:=by rw[u.o.2.1,UC]
   rw[<- e];exact z.o.1
def Tx (w:World) (L M:List Qd) (e:Ending) (w' : World):Prop:=∃b:Bool,e=.returned (.bool b)/\(b=true↔(L.length=M.length/\∀q,q∈L->q∈M))/\Bl w w'
theorem KQ (B:Nat) (a:Option Addr) (n c:Nat) (L M:List Qd) (w:World) (F:D8 w B M) (h:FX w a L) (E:n=L.length) (H:n<=1048576) :
  UO 71 #[.map (some B),.slice a n c] w (Tx w L M):=by
 have m:=Ae (ai h (ai E F));clear h E F;go_enter func71,ntmps71;go_wp2;go_loopw [6,7,8,11] (λ_ _ _ i wr=>∃k:Nat,k<=n/\i=iv k/\(∀j (h:j<L.length),j<k->L[j]∈M)/\Bl w wr) (λ_ _ _ i _=>n-(intOf i).toNat)
 case atStart=>exact⟨0,Us _,rfl,λj _ v=>absurd v (Uu _),Up _ _⟩
 case round=>
  obtain⟨k,V,rfl,f,d⟩:=hrel;have l:=Ae (ai f d);by_cases A:k<n
  .have r:k<L.length:=by rw[<- m.o.2.1];exact A
   rcases m.o.1.below d with T|⟨b,rfl,D⟩;.omega
   obtain⟨S,Q,N,J⟩:=D k r;have W:(0:Int)<=(k:Int):=by omega
   have U:(k:Int)<(n:Int):=by omega
   obtain⟨x,z⟩:=gn (L[k]);have y:=Ae z.symm;rw[<- z] at S Q N J;obtain⟨G,u,K⟩:=((m.o.2.2.below d).below (Aa wr (.cells #[iv x.s,iv x.p,iv x.o,iv x.g] 34))).look x;have t:=Ae u;unfold qv at K;clear D f d z u;cases G with
   | false=>
    go_wp2;go_ret;refine⟨false,rfl,?_,?_⟩
    .constructor;.intro h;cases h
     .rintro⟨_,C⟩;have:=t.o.2 (by rw[<- y.o];exact C _ (UA r));cases this
    .exact l.o.2.trans (((Aa _ _).alloc (by simp) _).mono l.o.2.size)
   | true=>
    go_wp2;go_roundw;case rel=>
     refine⟨k+1,by omega,by go_num,λj v R=>?_,l.o.2.trans (((Aa _ _).alloc (by simp) _).mono l.o.2.size)⟩;by_cases e:j=k;.subst e;rw[y.o];exact t.o.1 rfl
     .exact l.o.1 j v (by omega)
    case measure=>simp[intOf];omega
  .obtain rfl:k=n:=by omega
   have X:¬ (k:Int)<(k:Int):=by omega
   have I:=(m.o.2.2.below d).len;clear f d;go_wp2;go_ret;refine⟨((M.length:Int) == (k:Int)),rfl,?_,l.o.2⟩;constructor
   .intro h;have P:(M.length:Int)=(k:Int):=by simpa using h
    refine⟨by have:=m.o.2.1;omega,λq C=>?_⟩;obtain⟨j,v,e⟩:=List.getElem_of_mem C;rw[<- e];exact l.o.1 j v (by have:=m.o.2.1;omega)
   .rintro⟨P,_⟩;have O:(M.length:Int)=(k:Int):=by have:=m.o.2.1;omega
    simpa using O
end Go.Proofs.YtcnollkkigiobaaGreat
