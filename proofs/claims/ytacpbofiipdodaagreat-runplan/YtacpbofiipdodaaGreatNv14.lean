import Derived.Test.YtacpbofiipdodaaGreatNv13
set_option linter.unusedVariables false
set_option linter.unusedSimpArgs false
set_option maxRecDepth 100000
set_option maxHeartbeats 90000000
namespace Go.Proofs.YtacpbofiipdodaaGreat
open Go Go.Deep Go.RowKit
variable {ca:Option Addr}{cc d nb rb:Nat}{nd:Array Value}{w w1 wr:World}{xs:List Value}
theorem Tryz.info175 : (Tryz.prog.info? 175).map (λi=>(i.zero,i.size,i.bytes))=some (some .nilIface,1,16):=by kernel_rfl
structure Ep (w wr:World) (rb nb:Nat) (nd:Array Value) (d:Nat) (ts:List (Ro d)) (k:Nat) (ca:Option Addr) (cc:Nat) (xs:List Value):Prop where
 gb:Bx wr w.heap.size 267 nd
 nbx:Bx wr nb 314 #[iv 0,.slice ca k cc]
 lt:w.heap.size<nb
 rlt:rb<w.heap.size
 own:wr.ownsRow (nb+1) 175 1 (.slice ca k cc) k xs
 kids:∀j (h:j<ts.length),∃u,xs[j]?=some u/\Ei (λbb=>nb+1<=bb/\(Value.slice ca k cc).ownBlock≠some bb) wr d ts[j] u
 gr:w.grownBy wr (some rb)
 len:ts.length=k
theorem Ep.read {ts:List (Ro d)} {k:Nat} (h:Ep w wr rb nb nd d ts k ca cc xs) (hg:wr.grownBy w1 (some rb)):Ep w w1 rb nb nd d ts k ca cc xs:=by
 have h1:=h.rlt;have h2:=h.lt;refine⟨h.gb.grown hg (λe=>by injection e with e;omega),h.nbx.grown hg (λe=>by injection e with e;omega),h.lt,h.rlt,h.own.kept hg ?_,λj hj=>?_,Aj h.gr hg,h.len⟩
 .cases e:(Value.slice ca k cc).ownBlock with
  | none=>exact Or.inl rfl
  | some g=>exact Or.inr (λq=>by injection q with q;have:=Aw h.own g e;omega)
 .obtain⟨u,e,ht⟩:=h.kids j hj;exact⟨u,e,ht.mono hg.size (λbb hs hlt=>⟨hs,hg.block bb hlt (λq=>by injection q with q;have:=hs.1;omega)⟩)⟩
theorem Ep.grow {w5:World} {ts:List (Ro d)} {k:Nat} (h:Ep w wr rb nb nd d ts k ca cc xs) (hg0:wr.grownBy w1 (some rb)) {t:Ro d} {v:Value} (ht:Ei (λbb=>wr.heap.size<=bb) w1 d t v) {O:Obj} (hg:(w1.alloc O).grownBy w5 (Value.slice ca k cc).ownBlock) {a':Option Addr} {c':Nat}
  (ho:w5.ownsRow (nb+1) 175 1 (.slice a' (k+1) c') (k+1) (xs++[v])) (hat:(Value.slice a' (k+1) c').ownBlock=(Value.slice ca k cc).ownBlock\/(Value.slice a' (k+1) c').ownBlock=some (w1.alloc O).heap.size) :
  Ep w (w5.setCell (ad nb 1) (.slice a' (k+1) c')) rb nb nd d (ts++[t]) (k+1) a' c' (xs++[v]):=by
 have h1:=h.rlt;have h2:=h.lt;have hr:=h.read hg0;have hlo:=Aw h.own;have hz0:=hg0.size;have hz:=hg.size;have hnl:=h.nbx.lt;have hza:(w1.alloc O).heap.size=w1.heap.size+1:=by simp
 have hne:∀g,g<nb+1->(Value.slice ca k cc).ownBlock≠some g:=λg hg e=>by have:=hlo g e;omega
 have hb5:∀bb,bb<w1.heap.size->(Value.slice ca k cc).ownBlock≠some bb->bb≠nb->(w5.setCell (ad nb 1) (.slice a' (k+1) c')).heap[bb]?=w1.heap[bb]?:=λbb hlt hn1 hn2=>by rw[Wv _ _ _ _ (show bb≠nb from hn2),hg.block bb (by omega) (λe=>hn1 e.symm),Below.heap_alloc _ _ _ hlt]
 have hs5:(w5.setCell (ad nb 1) (.slice a' (k+1) c')).heap.size=w5.heap.size:=by simp[World.setCell]
 refine⟨((hr.gb.alloc _).grown hg (hne _ (by omega))).other (by simp;omega) _,((hr.nbx.alloc _).grown hg (hne _ (by omega))).set 1 _,h.lt,h.rlt,Ej ho _ _ (by simp),λj hj=>?_,?_,by rw[WD,h.len];rfl⟩
 .rw[WD] at hj;simp at hj;have hxl:xs.length=k:=by have:=h.own.1;omega
  by_cases e:j=ts.length
  .subst e;refine⟨v,by rw[h.len,List.getElem?_append_right (by omega),hxl];simp,?_⟩;rw[List.getElem_append_right (by omega)];simp only[Nat.sub_self,List.getElem_cons_zero];refine ht.mono (by rw[hs5];omega) (λbb hs hlt=>⟨⟨by omega,?_⟩,hb5 bb hlt (λe=>by have:=hlo bb e;omega) (by omega)⟩);rcases hat with e|e;.rw[e];exact λe=>by have:=hlo bb e;omega
   .rw[e];intro q;injection q with q;omega
  .obtain⟨u,eu,htj⟩:=hr.kids j (by omega);refine⟨u,by rw[List.getElem?_append_left (by rw[hxl,<- h.len];omega)];exact eu,?_⟩;rw[List.getElem_append_left (by omega)];refine htj.mono (by rw[hs5];omega) (λbb hs hlt=>⟨⟨hs.1,?_⟩,hb5 bb hlt hs.2 (by have:=hs.1;omega)⟩);rcases hat with e|e;.rw[e];exact hs.2
   .rw[e];intro q;injection q with q;omega
 .have hgw:=h.gr.size;refine⟨?_,?_,?_,by rw[hs5];omega,λbb hlt hn=>?_⟩;.exact (hg.os.trans (hg0.os.trans h.gr.os))
  .exact (hg.tape.trans (hg0.tape.trans h.gr.tape))
  .exact (hg.output.trans (hg0.output.trans h.gr.output))
  .rw[hb5 bb (by omega) (hne bb (by omega)) (by omega)];exact hr.gr.block bb hlt hn
theorem Cv {S:Nat->Prop} {h:Nat}:∀{d:Nat} {t:Ro d} {v:Value},Ei S w d t v->Br d false t h->
  (∃p,v=.iface 306 (.pointer (some p))/\∀W:World,Bl w W->WS 229 #[.pointer (some p)] W λe w'=>e=.returned (.string (gt (Ab d t) 0))/\w'=W)\/
  (∃p,v=.iface 311 (.pointer (some p))/\∀W:World,Bl w W->WS 239 #[.pointer (some p)] W λe w'=>e=.returned (.string (gt (Ab d t) 0))/\w'=W)
 | 0,_,_,h,_=>h.elim
 | d+1,.inl t,v,ht,hb=>by
  obtain⟨b,ka,kc,rfl,_,hx,hr⟩:=ht
  exact Or.inl ⟨_,rfl,λW hW=>Fc b t.length kc ka _ (gt t) W (hx.below hW) (hr.rdS.below hW) (Ee hb)⟩
 | d+1,.inr l,v,ht,hb=>by
  have ht2:=ht
  obtain⟨b,g,kc,xs,rfl,_⟩:=ht2
  obtain⟨_,_,h',_,hall⟩:=hb
  exact Or.inr ⟨_,rfl,λW hW=>If d l S b h' W (ht.below hW) hall⟩
theorem Jz (N:Nat->Tn) (rb b o n c x:Nat) (dep D:Int) (hk:Bool) (lk:ByteArray) (d:Nat) (w:World) (ka da:Option Addr) (kc dc:Nat) (h:CS w rb b o n c (x+1) D lk hk) (hx:x<n) (hn:n<=5000) (hlf:(N x).lf=false) (hfit:Bf (N x)) (hK:∀W:World,Below rb w W->BE W ka (N x).kn (N x).ks) (hKd:∀W:World,Below rb w W->Rd .i64 W da (N x).dn (N x).kd) (hd0:0<=dep) (hd1:dep+1<=100000)
  (hread:∀(W:World) (y:Nat) (D2:Int) (lk2:ByteArray) (hk2:Bool),Below rb w W->x+1<=y->y<=n->CS W rb b o n c y D2 lk2 hk2->WS 146 #[pt rb,iv (dep+1)] W (DZ N rb b o n c y (dep+1) D2 hk2 lk2 d W)) :
  WS 165 #[pt rb,.agg #[.bool false,.slice ka (N x).kn kc,.slice da (N x).dn dc,iv (N x).ct],iv dep] w (DZ N rb b o n c x dep D hk lk (d+1) w):=by
 have HR:U (CS w rb b o n c (x+1) D lk hk):=h;have hrl:=h.lt;have HK:U ((∀W:World,Below rb w W->BE W ka (N x).kn (N x).ks)/\(∀W:World,Below rb w W->Rd .i64 W da (N x).dn (N x).kd)):=⟨hK,hKd⟩;have HRead:U (∀(W:World) (y:Nat) (D2:Int) (lk2:ByteArray) (hk2:Bool),Below rb w W->x+1<=y->y<=n->CS W rb b o n c y D2 lk2 hk2->WS 146 #[pt rb,iv (dep+1)] W (DZ N rb b o n c y (dep+1) D2 hk2 lk2 d W)):=hread;have HGI:U (∀(t:Ro (d+1)) D' hk' lk',Cg N n x dep D hk lk (d+1) t D' hk' lk'->∃l:List (Ro d),t=.inr l/\l.length=(N x).dn/\2<=l.length/\l.length<=4/\(N x).kn+1=l.length/\(N x).ct=((l.flatMap (Ab d)).length:Int)):=λt D' hk' lk' g=>MI hlf g;have HLf:U ((N x).lf=false):=hlf;have hm2:(N x).kn<=1048576:=hfit.1;have hd2:(N x).dn<=1048576:=hfit.2;have HNo:U (∀w' : World,w.grownBy w' (some rb)->¬ (∃(t:Ro (d+1)) (D' : Int) (hk' : Bool) (lk' : ByteArray),Cg N n x dep D hk lk (d+1) t D' hk' lk')->∀v,DZ N rb b o n c x dep D hk lk (d+1) w (.returned (.tuple #[v,.bool false])) w'):=λw' hg hn v=>⟨hg,v,false,rfl,Or.inr ⟨rfl,hn⟩⟩;obtain⟨m,hm⟩:∃m,(N x).kn=m:=⟨_,rfl⟩;obtain⟨dn,hdn⟩:∃dn,(N x).dn=dn:=⟨_,rfl⟩;obtain⟨ct,hct⟩:∃ct,(N x).ct=ct:=⟨_,rfl⟩;have HEq:U ((N x).kn=m/\(N x).dn=dn/\(N x).ct=ct):=⟨hm,hdn,hct⟩;rw[hm] at hm2;rw[hdn] at hd2;rw[hm,hdn,hct];rw[hm,hdn] at HK;clear h hK hKd hread hlf hfit hm hdn hct;by_cases hbad:dn<2\/4<dn\/m+1≠dn
 .have HNG:U (¬ (∃(t:Ro (d+1)) (D' : Int) (hk' : Bool) (lk' : ByteArray),Cg N n x dep D hk lk (d+1) t D' hk' lk')):=by rintro⟨t,D',hk',lk',g⟩;obtain⟨l,_,e1,e2,e3,e4,_⟩:=HGI.o t D' hk' lk' g;obtain⟨q1,q2,_⟩:=HEq.o;omega
  have hcases:(dn<2)\/(¬ dn<2/\4<dn)\/(¬ dn<2/\¬ 4<dn/\m+1≠dn):=by omega
  clear hbad;rcases hcases with h1|⟨h1,h2⟩|⟨h1,h2,h3⟩
  .have i1:(dn:Int)<2:=by omega
   have i1' : decide ((dn:Int)<2)=true:=decide_eq_true i1;have n1' : decide (dn<2)=true:=decide_eq_true h1;go_enter Tryz.func165,Tryz.ntmps165;go_wp2;refine bodyPost_ret (v:=.tuple #[.nilIface,.bool false]) (by simp[results,Tryz.results165,go_sem]) rfl (HNo.o _ (Ak (Aa _ _)) HNG.o _)
  .have i1:¬ (dn:Int)<2:=by omega
   have i1' : decide ((dn:Int)<2)=false:=decide_eq_false i1;have n1' : decide (dn<2)=false:=decide_eq_false h1;have i2:(4:Int)<(dn:Int):=by omega
   have i2' : decide ((4:Int)<(dn:Int))=true:=decide_eq_true i2;have n2' : decide (4<dn)=true:=decide_eq_true h2;go_enter Tryz.func165,Tryz.ntmps165;go_wp2;refine bodyPost_ret (v:=.tuple #[.nilIface,.bool false]) (by simp[results,Tryz.results165,go_sem]) rfl (HNo.o _ (Ak (Aa _ _)) HNG.o _)
  .have i1:¬ (dn:Int)<2:=by omega
   have i1' : decide ((dn:Int)<2)=false:=decide_eq_false i1;have n1' : decide (dn<2)=false:=decide_eq_false h1;have i2:¬ (4:Int)<(dn:Int):=by omega
   have i2' : decide ((4:Int)<(dn:Int))=false:=decide_eq_false i2;have n2' : decide (4<dn)=false:=decide_eq_false h2;have hwr:IntKind.i64.wrap ((dn:Int)-1)=(dn:Int)-1:=by rw[Wz];omega
   have i3:((m:Int) != (dn:Int)-1)=true:=by simp;omega
   go_enter Tryz.func165,Tryz.ntmps165;go_wp2;refine bodyPost_ret (v:=.tuple #[.nilIface,.bool false]) (by simp[results,Tryz.results165,go_sem]) rfl (HNo.o _ (Ak (Aa _ _)) HNG.o _)
 .have h1:¬ dn<2:=by omega
  have h2:¬ 4<dn:=by omega
  have h3:m+1=dn:=by omega
  have i1:¬ (dn:Int)<2:=by omega
  have i1' : decide ((dn:Int)<2)=false:=decide_eq_false i1;have n1' : decide (dn<2)=false:=decide_eq_false h1;have i2:¬ (4:Int)<(dn:Int):=by omega
  have i2' : decide ((4:Int)<(dn:Int))=false:=decide_eq_false i2;have n2' : decide (4<dn)=false:=decide_eq_false h2;have hwr:IntKind.i64.wrap ((dn:Int)-1)=(dn:Int)-1:=by rw[Wz];omega
  have i3:((m:Int) != (dn:Int)-1)=false:=by simp;omega
  have H3:U (m+1=dn):=h3;clear hbad h3;obtain⟨bd,od,rfl⟩:∃bd od,da=some (ad bd od):=by
   rcases HK.o.2 w (Wt _ _) with q|⟨bd,od,e,_⟩;.omega
   .exact⟨bd,od,e⟩
  have HKd2:U (∀W:World,Below rb w W->∀i,i<dn->W.cell? (ad bd (od+i))=some (iv ((N x).kd i))):=by
   intro W hW i hi;rcases HK.o.2 W hW with q|⟨bd',od',e,hc⟩;.omega
   .injection e with e;injection e with e1 e2;subst e1;subst e2;exact hc i hi
  obtain⟨bk,oo,rfl⟩:∃bk oo,ka=some (ad bk oo):=by
   rcases HK.o.1 w (Wt _ _) with q|⟨bk,oo,e,_⟩;.have:=H3.o;omega
   .exact⟨bk,oo,e⟩
  go_enter Tryz.func165,Tryz.ntmps165;go_upto_region 5 with fail
  have S1:U (Ep w ((w.alloc (.cells #[.bool false,.slice (some (ad bk oo)) m kc,.slice (some (ad bd od)) dn dc,iv ct] 267)).alloc (.cells #[iv 0,.slice none 0 0] 314)) rb (w.heap.size+1) #[.bool false,.slice (some (ad bk oo)) m kc,.slice (some (ad bd od)) dn dc,iv ct] d [] 0 none 0 []/\CS ((w.alloc (.cells #[.bool false,.slice (some (ad bk oo)) m kc,.slice (some (ad bd od)) dn dc,iv ct] 267)).alloc (.cells #[iv 0,.slice none 0 0] 314)) rb b o n c (x+1) D lk hk):=by refine⟨⟨(Bx.new _ _ _).alloc _,?_,by omega,hrl,World.ownsRow_nil _ _ _ _,λj hj=>absurd hj (Wy _),Ak ((Aa _ _).alloc (by simp) _),rfl⟩,(HR.o.alloc _).alloc _⟩;have q:=Bx.new (w.alloc (.cells #[.bool false,.slice (some (ad bk oo)) m kc,.slice (some (ad bd od)) dn dc,iv ct] 267)) #[iv 0,.slice none 0 0] 314;simpa using q
  clear HR;generalize ((w.alloc (.cells #[.bool false,.slice (some (ad bk oo)) m kc,.slice (some (ad bd od)) dn dc,iv ct] 267)).alloc (.cells #[iv 0,.slice none 0 0] 314))=W at S1 ⊢;have g2:=S1.o.1.gb.cell 2;have gl:=S1.o.1.gb.lt;simp at g2;go_wp2;go_loopw [36] (λi wr=>∃(k:Nat) (ts:List (Ro d)) (Dk:Int) (hkk:Bool) (lkk:ByteArray) (ca:Option Addr) (cc:Nat) (xs:List Value),k<=dn/\i=iv k/\Ep w wr rb (w.heap.size+1) #[.bool false,.slice (some (ad bk oo)) m kc,.slice (some (ad bd od)) dn dc,iv ct] d ts k ca cc xs/\CS wr rb b o n c (x+1+(ts.map (Ad d)).sum) Dk lkk hkk/\Fb N n x dep D hk lk d ts Dk hkk lkk) (λi _=>dn-(intOf i).toNat)
  case atStart=>exact⟨0,[],D,hk,lk,none,0,[],Ww _,rfl,S1.o.1,S1.o.2,⟨by simp;omega,λj hj=>absurd hj (Wy _),λj hj=>absurd hj (Wy _),λj hj=>absurd hj (Wy _),.inl ⟨rfl,rfl⟩,⟨rfl,rfl⟩⟩⟩
  case round=>
   obtain⟨k,ts,Dk,hkk,lkk,ca,cc,xs,hkd,rfl,hst,hrb,hkg⟩:=hrel;clear S1 g2 gl;have HST:U (Ep w wr rb (w.heap.size+1) #[.bool false,.slice (some (ad bk oo)) m kc,.slice (some (ad bd od)) dn dc,iv ct] d ts k ca cc xs/\CS wr rb b o n c (x+1+(ts.map (Ad d)).sum) Dk lkk hkk):=⟨hst,hrb⟩;have HKG:U (Fb N n x dep D hk lk d ts Dk hkk lkk):=hkg;have r1:=hrb.cell 1;have hrl2:=hrb.lt;have hle:=hkg.le;obtain⟨y,hy⟩:∃y,y=x+1+(ts.map (Ad d)).sum:=⟨_,rfl⟩;rw[<- hy] at r1 hle;have r1' : wr.cell? (ad rb 1)=some (iv (y:Int)):=r1;have HY:U (y=x+1+(ts.map (Ad d)).sum):=hy;clear r1 hst hrb hkg hy;by_cases hlt:k<dn
   .have hk0:(0:Int)<=(k:Int):=by omega
    have hkI:(k:Int)<(dn:Int):=by omega
    have ck:=HKd2.o wr (A1 HST.o.1.gr (by omega) (Wu _)) k hlt;by_cases hnum:(N x).kd k=(y:Int)
    .have HKd:U ((N x).kd ts.length=((x+1+(ts.map (Ad d)).sum:Nat):Int)):=by show (N x).kd ts.length=((x+1+(ts.map (Ad d)).sum:Nat):Int);rw[HST.o.1.len,hnum,HY.o]
     rw[hnum] at ck;clear hnum;go_wp2_with fail
     refine (HRead.o wr y Dk lkk hkk (A1 HST.o.1.gr (by omega) (Wu _)) (by have:=HY.o;omega) (by omega) (by rw[HY.o];exact HST.o.2)).mono ?_;rintro e w1 ⟨hg1,v,ok,rfl,hr⟩;have HS1:U (Ep w w1 rb (w.heap.size+1) #[.bool false,.slice (some (ad bk oo)) m kc,.slice (some (ad bd od)) dn dc,iv ct] d ts k ca cc xs):=HST.o.1.read hg1;cases ok with
     | false=>
      have HNG:U (¬ (∃(t:Ro (d+1)) (D' : Int) (hk' : Bool) (lk' : ByteArray),Cg N n x dep D hk lk (d+1) t D' hk' lk')):=by
       rintro⟨t2,D2,hk2,lk2,g⟩;obtain⟨l,rfl,e1,_⟩:=HGI.o t2 D2 hk2 lk2 g;have hlt2:ts.length<l.length:=by rw[HST.o.1.len,e1,HEq.o.2.1];exact hlt
       obtain⟨_,q2,h2,l2,q3⟩:=EW hd0 g HKG.o hlt2;rcases hr with ⟨e,_⟩|⟨_,e⟩;.cases e
       .rw[HY.o] at e;exact e ⟨_,_,_,_,q3⟩
      have HNd:U (∀z,w.grownBy (w1.drewN z) (some rb)):=λz=>Aj (Aj HST.o.1.gr hg1) (Ak (Af (Wt _ _) z));clear hr hg1 r1' ck;go_wp2;go_quiet (fail)
      go_wp2;refine bodyPost_ret (v:=.tuple #[.nilIface,.bool false]) (by simp[results,Tryz.results165,go_sem]) rfl (HNo.o _ (HNd.o _) HNG.o _)
     | true=>
      obtain⟨t,D',hk',lk',hgood,hrb1,hta⟩:∃(t:Ro d) (D' : Int) (hk' : Bool) (lk' : ByteArray),Cg N n y (dep+1) Dk hkk lkk d t D' hk' lk'/\CS w1 rb b o n c (y+Ad d t) D' lk' hk'/\Ei (λb=>wr.heap.size<=b) w1 d t v:=by
       rcases hr with ⟨_,e⟩|⟨e,_⟩;.exact e
       .cases e
      rw[HY.o] at hgood hrb1;have HG1:U (wr.grownBy w1 (some rb)/\Cg N n (x+1+(ts.map (Ad d)).sum) (dep+1) Dk hkk lkk d t D' hk' lk'/\CS w1 rb b o n c (x+1+(ts.map (Ad d)).sum+Ad d t) D' lk' hk'/\Ei (λb=>wr.heap.size<=b) w1 d t v):=⟨hg1,hgood,hrb1,hta⟩;have HNd:U (∀z,w.grownBy (w1.drewN z) (some rb)):=λz=>Aj (Aj HST.o.1.gr hg1) (Ak (Af (Wt _ _) z));clear hr hg1 r1' ck hgood hrb1 hta;have g1:=HS1.o.gb.cell 1;have hgl1:=HS1.o.gb.lt;simp at g1;obtain⟨hh,hbal,_⟩:=HG1.o.2.1.bal;rw[show decide (dep+1=0)=false from decide_eq_false (by omega)] at hbal;by_cases hk00:k=0
      .have jk:¬ (0:Int)<(k:Int):=by omega
       have jk' : decide ((0:Int)<(k:Int))=false:=decide_eq_false jk;have nk' : decide (0<k)=false:=decide_eq_false (by omega);have HKG2:U (Fb N n x dep D hk lk d (ts++[t]) D' hk' lk'):=HKG.o.more hd0 HG1.o.2.1 HKd.o (λhne=>absurd (HST.o.1.len.trans hk00) hne);obtain⟨p,ev⟩:∃p,v=.iface 306 (.pointer (some p))\/v=.iface 311 (.pointer (some p)):=by
        rcases Cv HG1.o.2.2.2 hbal with ⟨p,e,_⟩|⟨p,e,_⟩;.exact⟨p,Or.inl e⟩
        .exact⟨p,Or.inr e⟩
       clear hbal hk00;rcases ev with rfl|rfl
       .go_wp2;go_quiet (fail)
        have HS2:U (Ep w (w1.drewN nq) rb (w.heap.size+1) #[.bool false,.slice (some (ad bk oo)) m kc,.slice (some (ad bd od)) dn dc,iv ct] d ts k ca cc xs):=HS1.o.read (Ak (Af (Wt _ _) nq));have HG2:U (wr.grownBy (w1.drewN nq) (some rb)/\Cg N n (x+1+(ts.map (Ad d)).sum) (dep+1) Dk hkk lkk d t D' hk' lk'/\CS (w1.drewN nq) rb b o n c (x+1+(ts.map (Ad d)).sum+Ad d t) D' lk' hk'/\Ei (λb=>wr.heap.size<=b) (w1.drewN nq) d t (.iface 306 (.pointer (some p)))):=⟨Aj HG1.o.1 (Ak (Af (Wt _ _) nq)),HG1.o.2.1,HG1.o.2.2.1.below (Af (Wt _ _) nq),HG1.o.2.2.2.below (Af (Wt _ _) nq)⟩;clear HS1 HG1 HNd g1 hgl1;generalize (w1.drewN nq)=w2 at HS2 HG2 ⊢;obtain⟨i0,hi,hz0,hz1,hz2⟩:=info_parts Tryz.info175;have HI:U (Tryz.prog.info? 175=some i0/\i0.zero=some .nilIface/\i0.size=1/\i0.bytes=16):=⟨hi,hz0,hz1,hz2⟩;clear hi hz0 hz1 hz2;have n1:=HS2.o.nbx.cell 1;have nf:=HS2.o.nbx.frozen 1;have nl:=HS2.o.nbx.lt;simp at n1;have HO:U ((w2.alloc (.cells #[.iface 306 (.pointer (some p))] 175)).ownsRow (w.heap.size+1+1) 175 1 (.slice ca k cc) k xs):=Al HS2.o.own (Aa _ _);go_wp2_with (at_builtin;refine wpList_append_own_at _ rfl _ _ 312 rfl (w.heap.size+1+1) 175 i0 .nilIface 1 16 Tryz.underlying312 HI.o.1 HI.o.2.1 HI.o.2.2.1 HI.o.2.2.2 rfl (by decide) (.slice ca k cc) k xs rfl HO.o (ad w2.heap.size 0) 1 1 [.iface 306 (.pointer (some p))] rfl rfl (cell_one_new _ _ _) (by intro u hu;simp at hu;subst hu;rfl) (by unfold maxLen;omega) (by omega) (by simp;omega) ?_)
        intro v' w5 ho hg _ hat;obtain⟨a5,c5,rfl,_⟩:=Ap ho;have hx5:=(HS2.o.nbx.alloc (.cells #[.iface 306 (.pointer (some p))] 175)).grown hg (λe=>by have:=Aw HS2.o.own _ e;omega);have u1:=hx5.cell 1;have uf:=hx5.frozen 1;have ul:=hx5.lt;simp at u1;have HX:U (Ep w (w5.setCell (ad (w.heap.size+1) 1) (.slice a5 (k+1) c5)) rb (w.heap.size+1) #[.bool false,.slice (some (ad bk oo)) m kc,.slice (some (ad bd od)) dn dc,iv ct] d (ts++[t]) (k+1) a5 c5 (xs++[.iface 306 (.pointer (some p))])/\CS (w5.setCell (ad (w.heap.size+1) 1) (.slice a5 (k+1) c5)) rb b o n c (x+1+((ts++[t]).map (Ad d)).sum) D' lk' hk'):=by
         refine⟨HST.o.1.grow HG2.o.1 HG2.o.2.2.2 hg ho (by simpa using hat),?_⟩;have q:=((HG2.o.2.2.1.alloc (.cells #[.iface 306 (.pointer (some p))] 175)).grown hg (λe=>by have:=Aw HS2.o.own _ e;have:=HST.o.1.rlt;omega)).other (p:=(ad (w.heap.size+1) 1)) (by simp;have:=HST.o.1.rlt;omega) (.slice a5 (k+1) c5);have e:x+1+(ts.map (Ad d)).sum+Ad d t=x+1+((ts++[t]).map (Ad d)).sum:=by rw[List.map_append,List.sum_append];simp;omega
         rw[<- e];exact q
        clear ho hg hat hx5 HO HST HS2 HG2 n1 nf nl;go_wp2;go_roundw;case rel=>exact⟨k+1,ts++[t],D',hk',lk',a5,c5,_,by omega,by go_num,HX.o.1,HX.o.2,HKG2.o⟩
        case measure=>simp[intOf];omega
       .go_wp2;go_quiet (fail)
        have HS2:U (Ep w (w1.drewN nq) rb (w.heap.size+1) #[.bool false,.slice (some (ad bk oo)) m kc,.slice (some (ad bd od)) dn dc,iv ct] d ts k ca cc xs):=HS1.o.read (Ak (Af (Wt _ _) nq));have HG2:U (wr.grownBy (w1.drewN nq) (some rb)/\Cg N n (x+1+(ts.map (Ad d)).sum) (dep+1) Dk hkk lkk d t D' hk' lk'/\CS (w1.drewN nq) rb b o n c (x+1+(ts.map (Ad d)).sum+Ad d t) D' lk' hk'/\Ei (λb=>wr.heap.size<=b) (w1.drewN nq) d t (.iface 311 (.pointer (some p)))):=⟨Aj HG1.o.1 (Ak (Af (Wt _ _) nq)),HG1.o.2.1,HG1.o.2.2.1.below (Af (Wt _ _) nq),HG1.o.2.2.2.below (Af (Wt _ _) nq)⟩;clear HS1 HG1 HNd g1 hgl1;generalize (w1.drewN nq)=w2 at HS2 HG2 ⊢;obtain⟨i0,hi,hz0,hz1,hz2⟩:=info_parts Tryz.info175;have HI:U (Tryz.prog.info? 175=some i0/\i0.zero=some .nilIface/\i0.size=1/\i0.bytes=16):=⟨hi,hz0,hz1,hz2⟩;clear hi hz0 hz1 hz2;have n1:=HS2.o.nbx.cell 1;have nf:=HS2.o.nbx.frozen 1;have nl:=HS2.o.nbx.lt;simp at n1;have HO:U ((w2.alloc (.cells #[.iface 311 (.pointer (some p))] 175)).ownsRow (w.heap.size+1+1) 175 1 (.slice ca k cc) k xs):=Al HS2.o.own (Aa _ _);go_wp2_with (at_builtin;refine wpList_append_own_at _ rfl _ _ 312 rfl (w.heap.size+1+1) 175 i0 .nilIface 1 16 Tryz.underlying312 HI.o.1 HI.o.2.1 HI.o.2.2.1 HI.o.2.2.2 rfl (by decide) (.slice ca k cc) k xs rfl HO.o (ad w2.heap.size 0) 1 1 [.iface 311 (.pointer (some p))] rfl rfl (cell_one_new _ _ _) (by intro u hu;simp at hu;subst hu;rfl) (by unfold maxLen;omega) (by omega) (by simp;omega) ?_)
        intro v' w5 ho hg _ hat;obtain⟨a5,c5,rfl,_⟩:=Ap ho;have hx5:=(HS2.o.nbx.alloc (.cells #[.iface 311 (.pointer (some p))] 175)).grown hg (λe=>by have:=Aw HS2.o.own _ e;omega);have u1:=hx5.cell 1;have uf:=hx5.frozen 1;have ul:=hx5.lt;simp at u1;have HX:U (Ep w (w5.setCell (ad (w.heap.size+1) 1) (.slice a5 (k+1) c5)) rb (w.heap.size+1) #[.bool false,.slice (some (ad bk oo)) m kc,.slice (some (ad bd od)) dn dc,iv ct] d (ts++[t]) (k+1) a5 c5 (xs++[.iface 311 (.pointer (some p))])/\CS (w5.setCell (ad (w.heap.size+1) 1) (.slice a5 (k+1) c5)) rb b o n c (x+1+((ts++[t]).map (Ad d)).sum) D' lk' hk'):=by
         refine⟨HST.o.1.grow HG2.o.1 HG2.o.2.2.2 hg ho (by simpa using hat),?_⟩;have q:=((HG2.o.2.2.1.alloc (.cells #[.iface 311 (.pointer (some p))] 175)).grown hg (λe=>by have:=Aw HS2.o.own _ e;have:=HST.o.1.rlt;omega)).other (p:=(ad (w.heap.size+1) 1)) (by simp;have:=HST.o.1.rlt;omega) (.slice a5 (k+1) c5);have e:x+1+(ts.map (Ad d)).sum+Ad d t=x+1+((ts++[t]).map (Ad d)).sum:=by rw[List.map_append,List.sum_append];simp;omega
         rw[<- e];exact q
        clear ho hg hat hx5 HO HST HS2 HG2 n1 nf nl;go_wp2;go_roundw;case rel=>exact⟨k+1,ts++[t],D',hk',lk',a5,c5,_,by omega,by go_num,HX.o.1,HX.o.2,HKG2.o⟩
        case measure=>simp[intOf];omega
      .obtain⟨p0,hp0⟩:∃p0,k=p0+1:=⟨k-1,by omega⟩;have jk:(0:Int)<(k:Int):=by omega
       have jk' : decide ((0:Int)<(k:Int))=true:=decide_eq_true jk;have nk0:0<k:=by omega
       have nk' : decide (0<k)=true:=decide_eq_true nk0;have hp1:p0<m:=by have:=H3.o;omega
       have HP0:U (k=p0+1):=hp0;have hwrk:IntKind.i64.wrap ((k:Int)-1)=(k:Int)-1:=by rw[Wz];omega
       have hsb0:(0:Int)<=(k:Int)-1:=by omega
       have hsb1:(k:Int)-1<(m:Int):=by omega
       have htn:((k:Int)-1).toNat=p0:=by omega
       have hix:∀wz,(Instr.indexAt 35 (.slice (some (ad bk oo)) m kc) (iv ((k:Int)-1))).run Tryz.prog wz=.ok (.pointer (some (ad bk (oo+p0)))) wz:=λwz=>by rw[show (k:Int)-1=(p0:Int) by omega];exact Vf bk oo m kc p0 hp1 wz
       rcases HK.o.1 w1 (A1 (Aj HST.o.1.gr HG1.o.1) (by omega) (Wu _)) with q|⟨bk',ok',eka,hck⟩;.omega
       have s1:=hck p0 hp1;injection eka with eka;injection eka with eka1 eka2;subst eka1;subst eka2;clear hck hk00 hp0;rcases Cv HG1.o.2.2.2 hbal with ⟨p,rfl,hcall⟩|⟨p,rfl,hcall⟩
       .clear hbal;have HL:U (∀W:World,Bl w1 W->WS 229 #[.pointer (some p)] W λe w'=>e=.returned (.string (gt (Ab d t) 0))/\w'=W):=hcall;clear hcall;by_cases hseq:gt (Ab d t) 0=(N x).ks p0
        .have HKG2:U (Fb N n x dep D hk lk d (ts++[t]) D' hk' lk'):=HKG.o.more hd0 HG1.o.2.1 HKd.o (λ_=>by rw[HST.o.1.len,show k-1=p0 by have:=HP0.o;omega];exact hseq.symm);rw[<- hseq] at s1;clear hseq;go_wp2;go_region_held3 (λw'=>w'.cell? (ad w.heap.size 1)=some (.slice (some (ad bk oo)) m kc)/\w'.cell? (ad bk (oo+p0))=some (.string (gt (Ab d t) 0))) (go_keep) (first|(go_at_call 229;refine (HL.o _ (by first|exact Wt _ _|exact (Wt _ _).drew)).mono ?_;rintro e w6 ⟨rfl,rfl⟩)|fail)
         have HS2:U (Ep w w1.drew rb (w.heap.size+1) #[.bool false,.slice (some (ad bk oo)) m kc,.slice (some (ad bd od)) dn dc,iv ct] d ts k ca cc xs):=HS1.o.read (Ak (Wt _ _).drew);have HG2:U (wr.grownBy w1.drew (some rb)/\Cg N n (x+1+(ts.map (Ad d)).sum) (dep+1) Dk hkk lkk d t D' hk' lk'/\CS w1.drew rb b o n c (x+1+(ts.map (Ad d)).sum+Ad d t) D' lk' hk'/\Ei (λb=>wr.heap.size<=b) w1.drew d t (.iface 306 (.pointer (some p)))):=⟨Aj HG1.o.1 (Ak (Wt _ _).drew),HG1.o.2.1,HG1.o.2.2.1.below (Wt _ _).drew,HG1.o.2.2.2.below (Wt _ _).drew⟩;clear HS1 HG1 HNd g1 hgl1;generalize w1.drew=w2 at HS2 HG2 ⊢;obtain⟨i0,hi,hz0,hz1,hz2⟩:=info_parts Tryz.info175;have HI:U (Tryz.prog.info? 175=some i0/\i0.zero=some .nilIface/\i0.size=1/\i0.bytes=16):=⟨hi,hz0,hz1,hz2⟩;clear hi hz0 hz1 hz2;have n1:=HS2.o.nbx.cell 1;have nf:=HS2.o.nbx.frozen 1;have nl:=HS2.o.nbx.lt;simp at n1;have HO:U ((w2.alloc (.cells #[.iface 306 (.pointer (some p))] 175)).ownsRow (w.heap.size+1+1) 175 1 (.slice ca k cc) k xs):=Al HS2.o.own (Aa _ _);go_wp2_with (at_builtin;refine wpList_append_own_at _ rfl _ _ 312 rfl (w.heap.size+1+1) 175 i0 .nilIface 1 16 Tryz.underlying312 HI.o.1 HI.o.2.1 HI.o.2.2.1 HI.o.2.2.2 rfl (by decide) (.slice ca k cc) k xs rfl HO.o (ad w2.heap.size 0) 1 1 [.iface 306 (.pointer (some p))] rfl rfl (cell_one_new _ _ _) (by intro u hu;simp at hu;subst hu;rfl) (by unfold maxLen;omega) (by omega) (by simp;omega) ?_)
         intro v' w5 ho hg _ hat;obtain⟨a5,c5,rfl,_⟩:=Ap ho;have hx5:=(HS2.o.nbx.alloc (.cells #[.iface 306 (.pointer (some p))] 175)).grown hg (λe=>by have:=Aw HS2.o.own _ e;omega);have u1:=hx5.cell 1;have uf:=hx5.frozen 1;have ul:=hx5.lt;simp at u1;have HX:U (Ep w (w5.setCell (ad (w.heap.size+1) 1) (.slice a5 (k+1) c5)) rb (w.heap.size+1) #[.bool false,.slice (some (ad bk oo)) m kc,.slice (some (ad bd od)) dn dc,iv ct] d (ts++[t]) (k+1) a5 c5 (xs++[.iface 306 (.pointer (some p))])/\CS (w5.setCell (ad (w.heap.size+1) 1) (.slice a5 (k+1) c5)) rb b o n c (x+1+((ts++[t]).map (Ad d)).sum) D' lk' hk'):=by
          refine⟨HST.o.1.grow HG2.o.1 HG2.o.2.2.2 hg ho (by simpa using hat),?_⟩;have q:=((HG2.o.2.2.1.alloc (.cells #[.iface 306 (.pointer (some p))] 175)).grown hg (λe=>by have:=Aw HS2.o.own _ e;have:=HST.o.1.rlt;omega)).other (p:=(ad (w.heap.size+1) 1)) (by simp;have:=HST.o.1.rlt;omega) (.slice a5 (k+1) c5);have e:x+1+(ts.map (Ad d)).sum+Ad d t=x+1+((ts++[t]).map (Ad d)).sum:=by rw[List.map_append,List.sum_append];simp;omega
          rw[<- e];exact q
         clear ho hg hat hx5 HO HST HS2 HG2 n1 nf nl;go_wp2;go_roundw;case rel=>exact⟨k+1,ts++[t],D',hk',lk',a5,c5,_,by omega,by go_num,HX.o.1,HX.o.2,HKG2.o⟩
         case measure=>simp[intOf];omega
        .have HNG:U (¬ (∃(t:Ro (d+1)) (D' : Int) (hk' : Bool) (lk' : ByteArray),Cg N n x dep D hk lk (d+1) t D' hk' lk')):=by
          rintro⟨t2,D2,hk2,lk2,g⟩;obtain⟨l,rfl,e1,_⟩:=HGI.o t2 D2 hk2 lk2 g;have hlt2:ts.length<l.length:=by rw[HST.o.1.len,e1,HEq.o.2.1];exact hlt
          obtain⟨_,q2,h2,l2,q3⟩:=EW hd0 g HKG.o hlt2;have e:=Dn _ _ _ q3.tl HG1.o.2.1.tl;have hkl:=HST.o.1.len;have hkp:=HP0.o;have q:(N x).ks p0=gt (Ab d t) 0:=by rw[<- e,<- q2 (by omega),show ts.length-1=p0 by omega]
          exact hseq q.symm
         have hsq:((gt (Ab d t) 0).toList == ((N x).ks p0).toList)=false:=by rw[beq_eq_false_iff_ne];exact λh=>hseq (Hy h)
         have hsq2:(!((gt (Ab d t) 0).toList == ((N x).ks p0).toList))=true:=by rw[hsq];rfl
         go_wp2;go_region_held3 (λw'=>w'.cell? (ad w.heap.size 1)=some (.slice (some (ad bk oo)) m kc)/\w'.cell? (ad bk (oo+p0))=some (.string ((N x).ks p0))) (go_keep) (first|(go_at_call 229;refine (HL.o _ (by first|exact Wt _ _|exact (Wt _ _).drew)).mono ?_;rintro e w6 ⟨rfl,rfl⟩)|fail)
         go_wp2;refine bodyPost_ret (v:=.tuple #[.nilIface,.bool false]) (by simp[results,Tryz.results165,go_sem]) rfl (HNo.o _ (Aj (Aj HST.o.1.gr HG1.o.1) (Ak (Wt _ _).drew)) HNG.o _)
       .clear hbal;have HL:U (∀W:World,Bl w1 W->WS 239 #[.pointer (some p)] W λe w'=>e=.returned (.string (gt (Ab d t) 0))/\w'=W):=hcall;clear hcall;by_cases hseq:gt (Ab d t) 0=(N x).ks p0
        .have HKG2:U (Fb N n x dep D hk lk d (ts++[t]) D' hk' lk'):=HKG.o.more hd0 HG1.o.2.1 HKd.o (λ_=>by rw[HST.o.1.len,show k-1=p0 by have:=HP0.o;omega];exact hseq.symm);rw[<- hseq] at s1;clear hseq;go_wp2;go_region_held3 (λw'=>w'.cell? (ad w.heap.size 1)=some (.slice (some (ad bk oo)) m kc)/\w'.cell? (ad bk (oo+p0))=some (.string (gt (Ab d t) 0))) (go_keep) (first|(go_at_call 239;refine (HL.o _ (by first|exact Wt _ _|exact (Wt _ _).drew)).mono ?_;rintro e w6 ⟨rfl,rfl⟩)|fail)
         have HS2:U (Ep w w1.drew rb (w.heap.size+1) #[.bool false,.slice (some (ad bk oo)) m kc,.slice (some (ad bd od)) dn dc,iv ct] d ts k ca cc xs):=HS1.o.read (Ak (Wt _ _).drew);have HG2:U (wr.grownBy w1.drew (some rb)/\Cg N n (x+1+(ts.map (Ad d)).sum) (dep+1) Dk hkk lkk d t D' hk' lk'/\CS w1.drew rb b o n c (x+1+(ts.map (Ad d)).sum+Ad d t) D' lk' hk'/\Ei (λb=>wr.heap.size<=b) w1.drew d t (.iface 311 (.pointer (some p)))):=⟨Aj HG1.o.1 (Ak (Wt _ _).drew),HG1.o.2.1,HG1.o.2.2.1.below (Wt _ _).drew,HG1.o.2.2.2.below (Wt _ _).drew⟩;clear HS1 HG1 HNd g1 hgl1;generalize w1.drew=w2 at HS2 HG2 ⊢;obtain⟨i0,hi,hz0,hz1,hz2⟩:=info_parts Tryz.info175;have HI:U (Tryz.prog.info? 175=some i0/\i0.zero=some .nilIface/\i0.size=1/\i0.bytes=16):=⟨hi,hz0,hz1,hz2⟩;clear hi hz0 hz1 hz2;have n1:=HS2.o.nbx.cell 1;have nf:=HS2.o.nbx.frozen 1;have nl:=HS2.o.nbx.lt;simp at n1;have HO:U ((w2.alloc (.cells #[.iface 311 (.pointer (some p))] 175)).ownsRow (w.heap.size+1+1) 175 1 (.slice ca k cc) k xs):=Al HS2.o.own (Aa _ _);go_wp2_with (at_builtin;refine wpList_append_own_at _ rfl _ _ 312 rfl (w.heap.size+1+1) 175 i0 .nilIface 1 16 Tryz.underlying312 HI.o.1 HI.o.2.1 HI.o.2.2.1 HI.o.2.2.2 rfl (by decide) (.slice ca k cc) k xs rfl HO.o (ad w2.heap.size 0) 1 1 [.iface 311 (.pointer (some p))] rfl rfl (cell_one_new _ _ _) (by intro u hu;simp at hu;subst hu;rfl) (by unfold maxLen;omega) (by omega) (by simp;omega) ?_)
         intro v' w5 ho hg _ hat;obtain⟨a5,c5,rfl,_⟩:=Ap ho;have hx5:=(HS2.o.nbx.alloc (.cells #[.iface 311 (.pointer (some p))] 175)).grown hg (λe=>by have:=Aw HS2.o.own _ e;omega);have u1:=hx5.cell 1;have uf:=hx5.frozen 1;have ul:=hx5.lt;simp at u1;have HX:U (Ep w (w5.setCell (ad (w.heap.size+1) 1) (.slice a5 (k+1) c5)) rb (w.heap.size+1) #[.bool false,.slice (some (ad bk oo)) m kc,.slice (some (ad bd od)) dn dc,iv ct] d (ts++[t]) (k+1) a5 c5 (xs++[.iface 311 (.pointer (some p))])/\CS (w5.setCell (ad (w.heap.size+1) 1) (.slice a5 (k+1) c5)) rb b o n c (x+1+((ts++[t]).map (Ad d)).sum) D' lk' hk'):=by
          refine⟨HST.o.1.grow HG2.o.1 HG2.o.2.2.2 hg ho (by simpa using hat),?_⟩;have q:=((HG2.o.2.2.1.alloc (.cells #[.iface 311 (.pointer (some p))] 175)).grown hg (λe=>by have:=Aw HS2.o.own _ e;have:=HST.o.1.rlt;omega)).other (p:=(ad (w.heap.size+1) 1)) (by simp;have:=HST.o.1.rlt;omega) (.slice a5 (k+1) c5);have e:x+1+(ts.map (Ad d)).sum+Ad d t=x+1+((ts++[t]).map (Ad d)).sum:=by rw[List.map_append,List.sum_append];simp;omega
          rw[<- e];exact q
         clear ho hg hat hx5 HO HST HS2 HG2 n1 nf nl;go_wp2;go_roundw;case rel=>exact⟨k+1,ts++[t],D',hk',lk',a5,c5,_,by omega,by go_num,HX.o.1,HX.o.2,HKG2.o⟩
         case measure=>simp[intOf];omega
        .have HNG:U (¬ (∃(t:Ro (d+1)) (D' : Int) (hk' : Bool) (lk' : ByteArray),Cg N n x dep D hk lk (d+1) t D' hk' lk')):=by
          rintro⟨t2,D2,hk2,lk2,g⟩;obtain⟨l,rfl,e1,_⟩:=HGI.o t2 D2 hk2 lk2 g;have hlt2:ts.length<l.length:=by rw[HST.o.1.len,e1,HEq.o.2.1];exact hlt
          obtain⟨_,q2,h2,l2,q3⟩:=EW hd0 g HKG.o hlt2;have e:=Dn _ _ _ q3.tl HG1.o.2.1.tl;have hkl:=HST.o.1.len;have hkp:=HP0.o;have q:(N x).ks p0=gt (Ab d t) 0:=by rw[<- e,<- q2 (by omega),show ts.length-1=p0 by omega]
          exact hseq q.symm
         have hsq:((gt (Ab d t) 0).toList == ((N x).ks p0).toList)=false:=by rw[beq_eq_false_iff_ne];exact λh=>hseq (Hy h)
         have hsq2:(!((gt (Ab d t) 0).toList == ((N x).ks p0).toList))=true:=by rw[hsq];rfl
         go_wp2;go_region_held3 (λw'=>w'.cell? (ad w.heap.size 1)=some (.slice (some (ad bk oo)) m kc)/\w'.cell? (ad bk (oo+p0))=some (.string ((N x).ks p0))) (go_keep) (first|(go_at_call 239;refine (HL.o _ (by first|exact Wt _ _|exact (Wt _ _).drew)).mono ?_;rintro e w6 ⟨rfl,rfl⟩)|fail)
         go_wp2;refine bodyPost_ret (v:=.tuple #[.nilIface,.bool false]) (by simp[results,Tryz.results165,go_sem]) rfl (HNo.o _ (Aj (Aj HST.o.1.gr HG1.o.1) (Ak (Wt _ _).drew)) HNG.o _)
    .have HNG:U (¬ (∃(t:Ro (d+1)) (D' : Int) (hk' : Bool) (lk' : ByteArray),Cg N n x dep D hk lk (d+1) t D' hk' lk')):=by
      rintro⟨t2,D2,hk2,lk2,g⟩;obtain⟨l,rfl,e1,_⟩:=HGI.o t2 D2 hk2 lk2 g;have hlt2:ts.length<l.length:=by rw[HST.o.1.len,e1,HEq.o.2.1];exact hlt
      obtain⟨q1,_⟩:=EW hd0 g HKG.o hlt2;rw[HST.o.1.len,<- HY.o] at q1;exact hnum q1
     have hnn:((N x).kd k != (y:Int))=true:=by simpa using hnum
     go_wp2;refine bodyPost_ret (v:=.tuple #[.nilIface,.bool false]) (by simp[results,Tryz.results165,go_sem]) rfl (HNo.o _ HST.o.1.gr HNG.o _)
   .have e:k=dn:=by omega
    subst e;have hlen:=HST.o.1.len;have hk2:k≠0:=by omega
    obtain⟨a6,c6,e6,hfo⟩:=Ap HST.o.1.own;obtain⟨g,eg,hg1,hg2,hg3⟩:=hfo hk2;injection e6 with e6 e62 e63;clear e62 e63;rw[<- e6] at eg;subst eg;obtain⟨h',hball,hDk,hDD⟩:∃h' : Nat,(∀t,t∈ts->Br d false t h')/\Dk=dep+1+(h' : Int)/\(D=0\/D=Dk):=by
     rcases HKG.o.bal with ⟨e,_⟩|⟨_,e⟩;.rw[e] at hlen;simp at hlen;omega
     .exact e
    have HB:U ((∀t,t∈ts->Br d false t h')/\Dk=dep+1+(h' : Int)/\(D=0\/D=Dk)):=⟨hball,hDk,hDD⟩;have HLen:U (ts.length=k/\(ts.flatMap (Ab d)).length<=1099511627776):=by refine⟨hlen,?_⟩;have h1:=IP (M:=4) (Ab d) (Ad d) ts (λt ht=>Hs (KV (hball t ht)));have h2:=HKG.o.le;omega
    have HRec:U (WS 178 #[pt (w.heap.size+1)] wr λe w'=>e=.returned (.tuple #[])/\wr.grownBy w' (some (w.heap.size+1))/\w'.heap.size=wr.heap.size/\Bx w' (w.heap.size+1) 314 #[iv ((ts.flatMap (Ab d)).length:Int),.slice (some (ad g 0)) k cc]):=
     Gn d (w.heap.size+1) g k cc ts 0 _ xs wr HST.o.1.nbx hlen.symm (by omega) HLen.o.2 hg3 (by omega) (λq=>by have:=q.1;omega) HST.o.1.kids
    have HGc:U (∀j u,xs[j]?=some u->wr.cell? (ad g j)=some u):=hg3;clear hfo hg3 hball hDk hDD e6 hlen;go_wp2_with fail
    refine HRec.o.mono ?_;rintro e w2 ⟨rfl,hgr2,hsz2,hbx2⟩;obtain⟨A,hA⟩:∃A:Int,A=((ts.flatMap (Ab d)).length:Int):=⟨_,rfl⟩;rw[<- hA] at hbx2;have HA:U (A=((ts.flatMap (Ab d)).length:Int)):=hA;have hrlt:=HST.o.1.rlt;have HF:U (wr.grownBy w2 (some (w.heap.size+1))/\w2.heap.size=wr.heap.size/\Bx w2 (w.heap.size+1) 314 #[iv A,.slice (some (ad g 0)) k cc]):=⟨hgr2,hsz2,hbx2⟩;have HFr:U (w.grownBy w2.drew (some rb)/\CS w2.drew rb b o n c (x+1+(ts.map (Ad d)).sum) Dk lkk hkk):=by have hgw:=HST.o.1.gr.size;have hnl:=HST.o.1.nbx.lt;have q:CS w2 rb b o n c (x+1+(ts.map (Ad d)).sum) Dk lkk hkk:=HST.o.2.grown hgr2 (λe=>by injection e with e;omega);refine⟨⟨hgr2.os.trans HST.o.1.gr.os,hgr2.tape.trans HST.o.1.gr.tape,hgr2.output.trans HST.o.1.gr.output,WC hgw hgr2.size,λbb hbb hne=>?_⟩,q.drew⟩;exact (hgr2.block bb (by omega) (λe=>by injection e with e;omega)).trans (HST.o.1.gr.block bb hbb hne)
    have z0:=hbx2.cell 0;have g3:=(HST.o.1.gb.grown hgr2 (λe=>by injection e with e;omega)).cell 3;simp at z0 g3;clear hgr2 hsz2 hbx2 hA;have HBel:U (∀W:World,W.cell? (ad (w.heap.size+1) 0)=some (iv A)->WS 177 #[pt (w.heap.size+1)] W λe w'=>e=.returned (iv A)/\w'=W):=λW hW=>BK (w.heap.size+1) A W hW;by_cases hctA:ct=A
    .subst hctA;have hq:(ct == ct)=true:=by simp
     have HGood:U (Cg N n x dep D hk lk (d+1) (.inr ts) Dk hkk lkk):=by have hkg:=HKG.o;obtain⟨q1,q2,q3⟩:=HEq.o;refine⟨⟨HLf.o,by rw[q2,HLen.o.1],by rw[q3,HA.o],by rw[q1,HLen.o.1];exact H3.o,λj hj=>by rw[hkg.kd j hj];omega,λj hj=>hkg.ks j hj,λj hj=>hkg.tl j hj⟩,?_,⟨h'+1,⟨by rw[HLen.o.1];omega,by rw[HLen.o.1];omega,h',rfl,HB.o.1⟩,by have:=HB.o.2.1;omega⟩,HB.o.2.2,hkg.asc⟩;have e:Ad (d+1) (.inr ts)=1+(ts.map (Ad d)).sum:=rfl;have:=hkg.le;omega
     have HTA:U (Ei (λbb=>w.heap.size<=bb) w2.drew (d+1) (.inr ts) (.iface 311 (pt (w.heap.size+1)))):=by
      have hz2:=HF.o.2.1;refine⟨w.heap.size+1,g,cc,xs,rfl,by omega,?_,by omega,?_,by rw[HLen.o.1];omega,λj u hj=>?_,λj hj=>?_⟩;.rw[<- HA.o,HLen.o.1];exact HF.o.2.2
      .rw[HLen.o.1];exact⟨by show g<w2.heap.size;omega,On HST.o.1.own⟩
      .exact HF.o.1.cell (HGc.o j u hj) (λe=>by injection e with e;have e' : g=w.heap.size+1:=e;omega)
      .obtain⟨u,eu,ht⟩:=HST.o.1.kids j hj;refine⟨u,eu,ht.mono (w':=w2.drew) (by show wr.heap.size<=w2.heap.size;omega) (λbb hs hlt=>⟨by have:=hs.1;omega,?_⟩)⟩;exact HF.o.1.block bb hlt (λe=>by injection e with e;have:=hs.1;omega)
     go_upto_region 16 with fail
     go_region_held3 (λw'=>w'.cell? (ad (w.heap.size+1) 0)=some (iv ct)/\w'.cell? (ad w.heap.size 3)=some (iv ct)) (go_keep) (first|(go_at_call 177;refine (HBel.o _ (by simpa using z0)).mono ?_;rintro e w6 ⟨rfl,rfl⟩)|fail)
     go_wp2;refine bodyPost_ret (v:=.tuple #[.iface 311 (pt (w.heap.size+1)),.bool true]) (by simp[results,Tryz.results165,go_sem]) rfl ⟨HFr.o.1,_,true,rfl,.inl ⟨rfl,.inr ts,Dk,hkk,lkk,HGood.o,?_,HTA.o⟩⟩;have e:x+Ad (d+1) (.inr ts)=x+1+(ts.map (Ad d)).sum:=by have e:Ad (d+1) (.inr ts)=1+(ts.map (Ad d)).sum:=rfl;omega
     rw[e];exact HFr.o.2
    .have hq:(A == ct)=false:=by simpa using λe=>hctA (Eq.symm e)
     have HNG:U (¬ (∃(t:Ro (d+1)) (D' : Int) (hk' : Bool) (lk' : ByteArray),Cg N n x dep D hk lk (d+1) t D' hk' lk')):=by
      rintro⟨t2,D2,hk2,lk2,gg⟩;obtain⟨l,rfl,e1,_,_,_,e5⟩:=HGI.o t2 D2 hk2 lk2 gg;have hl:ts.length=l.length:=by rw[HLen.o.1,e1,HEq.o.2.1]
      have hp:=GR gg HKG.o (by omega);rw[hl,WG] at hp;subst hp;rw[HEq.o.2.2,<- HA.o] at e5;exact hctA e5
     go_upto_region 16 with fail
     go_region_held3 (λw'=>w'.cell? (ad (w.heap.size+1) 0)=some (iv A)/\w'.cell? (ad w.heap.size 3)=some (iv ct)) (go_keep) (first|(go_at_call 177;refine (HBel.o _ (by simpa using z0)).mono ?_;rintro e w6 ⟨rfl,rfl⟩)|fail)
     go_wp2;refine bodyPost_ret (v:=.tuple #[.iface 311 (pt (w.heap.size+1)),.bool false]) (by simp[results,Tryz.results165,go_sem]) rfl (HNo.o _ HFr.o.1 HNG.o _)
end Go.Proofs.YtacpbofiipdodaaGreat
