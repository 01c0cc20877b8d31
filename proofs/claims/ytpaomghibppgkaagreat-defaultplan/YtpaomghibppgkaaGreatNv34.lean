import Derived.Test.YtpaomghibppgkaaGreatNv33
import Derived.Deep.QuietTactic
import Derived.BigQuiet
set_option linter.unusedVariables false
set_option maxRecDepth 100000
namespace Go.Proofs.YtpaomghibppgkaaGreat
open Go.RowKit Go.Deep

theorem Tryz.info187 : (Tryz.prog.info? 187).map (fun i=>(i.zero,i.size,i.bytes))=some (some .nilIface,1,16):=by kernel_rfl

structure InSt (w wr:World) (rb nb:Nat) (nd:Array Value) (d:Nat) (ts:List (Ro d)) (k:Nat) (ca:Option Addr) (cc:Nat) (xs:List Value):Prop where
 gb:Bx wr w.heap.size 210 nd
 nbx:Bx wr nb 251 #[.int .i64 0,.slice ca k cc]
 lt:w.heap.size<nb
 rlt:rb<w.heap.size
 own:wr.ownsRow (nb+1) 187 1 (.slice ca k cc) k xs
 kids:∀j (h:j<ts.length),∃u,xs[j]?=some u/\TAt (fun bb=>nb+1<=bb/\(Value.slice ca k cc).ownBlock≠some bb) wr d ts[j] u
 gr:w.grownBy wr (some rb)
 len:ts.length=k

theorem InSt.read {w wr w1:World} {rb nb:Nat} {nd:Array Value} {d:Nat} {ts:List (Ro d)} {k:Nat} {ca:Option Addr} {cc:Nat} {xs:List Value} (h:InSt w wr rb nb nd d ts k ca cc xs) (hg:wr.grownBy w1 (some rb)):InSt w w1 rb nb nd d ts k ca cc xs:=by
 have h1:=h.rlt
 have h2:=h.lt
 refine ⟨h.gb.grown hg (fun e=>by injection e with e;omega),h.nbx.grown hg (fun e=>by injection e with e;omega),h.lt,h.rlt,h.own.kept hg ?_,fun j hj=>?_,grown_trans h.gr hg,h.len⟩
 ·cases e:(Value.slice ca k cc).ownBlock with
  | none=>exact Or.inl rfl
  | some g=>exact Or.inr (fun q=>by injection q with q;have:=own_lt h.own g e;omega)
 ·obtain ⟨u,e,ht⟩:=h.kids j hj
  exact ⟨u,e,ht.mono hg.size (fun bb hs hlt=>⟨hs,hg.block bb hlt (fun q=>by injection q with q;have:=hs.1;omega)⟩)⟩

theorem InSt.grow {w wr w1 w5:World} {rb nb:Nat} {nd:Array Value} {d:Nat} {ts:List (Ro d)} {k:Nat} {ca:Option Addr} {cc:Nat} {xs:List Value} (h:InSt w wr rb nb nd d ts k ca cc xs) (hg0:wr.grownBy w1 (some rb)) {t:Ro d} {v:Value} (ht:TAt (fun bb=>wr.heap.size<=bb) w1 d t v) {O:Obj} (hg:(w1.alloc O).grownBy w5 (Value.slice ca k cc).ownBlock) {a' : Option Addr} {c' : Nat}
  (ho:w5.ownsRow (nb+1) 187 1 (.slice a' (k+1) c') (k+1) (xs++[v])) (hat:(Value.slice a' (k+1) c').ownBlock=(Value.slice ca k cc).ownBlock\/(Value.slice a' (k+1) c').ownBlock=some (w1.alloc O).heap.size) :
  InSt w (w5.setCell ⟨nb,1,none⟩ (.slice a' (k+1) c')) rb nb nd d (ts++[t]) (k+1) a' c' (xs++[v]):=by
 have h1:=h.rlt
 have h2:=h.lt
 have hr:=h.read hg0
 have hlo:=own_lt h.own
 have hz0:=hg0.size
 have hz:=hg.size
 have hnl:=h.nbx.lt
 have hza:(w1.alloc O).heap.size=w1.heap.size+1:=by simp
 have hne:∀g,g<nb+1->(Value.slice ca k cc).ownBlock≠some g:=fun g hg e=>by have:=hlo g e;omega
 have hb5:∀bb,bb<w1.heap.size->(Value.slice ca k cc).ownBlock≠some bb->bb≠nb->(w5.setCell ⟨nb,1,none⟩ (.slice a' (k+1) c')).heap[bb]?=w1.heap[bb]?:=fun bb hlt hn1 hn2=>by
  rw [Below.heap_setCell _ _ _ _ (show bb≠nb from hn2),hg.block bb (by omega) (fun e=>hn1 e.symm),Below.heap_alloc _ _ _ hlt]
 have hs5:(w5.setCell ⟨nb,1,none⟩ (.slice a' (k+1) c')).heap.size=w5.heap.size:=by simp [World.setCell]
 refine ⟨((hr.gb.alloc _).grown hg (hne _ (by omega))).other (by simp;omega) _,((hr.nbx.alloc _).grown hg (hne _ (by omega))).set 1 _,h.lt,h.rlt,own_set ho _ _ (by simp),fun j hj=>?_,?_,by rw [List.length_append,h.len];rfl⟩
 ·rw [List.length_append] at hj
  simp at hj
  have hxl:xs.length=k:=by have:=h.own.1;omega
  by_cases e:j=ts.length
  ·subst e
   refine ⟨v,by rw [h.len,List.getElem?_append_right (by omega),hxl];simp,?_⟩
   rw [List.getElem_append_right (by omega)]
   simp only [Nat.sub_self,List.getElem_cons_zero]
   refine ht.mono (by rw [hs5];omega) (fun bb hs hlt=>⟨⟨by omega,?_⟩,hb5 bb hlt (fun e=>by have:=hlo bb e;omega) (by omega)⟩)
   rcases hat with e|e
   ·rw [e];exact fun e=>by have:=hlo bb e;omega
   ·rw [e]
    intro q
    injection q with q
    omega
  ·obtain ⟨u,eu,htj⟩:=hr.kids j (by omega)
   refine ⟨u,by rw [List.getElem?_append_left (by rw [hxl,<- h.len];omega)];exact eu,?_⟩
   rw [List.getElem_append_left (by omega)]
   refine htj.mono (by rw [hs5];omega) (fun bb hs hlt=>⟨⟨hs.1,?_⟩,hb5 bb hlt hs.2 (by have:=hs.1;omega)⟩)
   rcases hat with e|e
   ·rw [e];exact hs.2
   ·rw [e]
    intro q
    injection q with q
    omega
 ·have hgw:=h.gr.size
  refine ⟨?_,?_,?_,by rw [hs5];omega,fun bb hlt hn=>?_⟩
  ·exact (hg.os.trans (hg0.os.trans h.gr.os))
  ·exact (hg.tape.trans (hg0.tape.trans h.gr.tape))
  ·exact (hg.output.trans (hg0.output.trans h.gr.output))
  ·rw [hb5 bb (by omega) (hne bb (by omega)) (by omega)]
   exact hr.gr.block bb hlt hn

theorem least_call {S:Nat->Prop} {w:World} {h:Nat}:∀{d:Nat} {t:Ro d} {v:Value},TAt S w d t v->BalR d false t h->
  (∃p,v=.iface 243 (.pointer (some p))/\∀W:World,Below w.heap.size w W->Calls Tryz.prog 172 #[.pointer (some p)] W fun e w'=>e=.returned (.string (gt (keysR d t) 0))/\w'=W)\/
  (∃p,v=.iface 248 (.pointer (some p))/\∀W:World,Below w.heap.size w W->Calls Tryz.prog 184 #[.pointer (some p)] W fun e w'=>e=.returned (.string (gt (keysR d t) 0))/\w'=W)
 | 0,_,_,h,_=>h.elim
 | d+1,.inl t,v,ht,hb=>by
  obtain ⟨b,ka,kc,rfl,_,hx,hr⟩:=ht
  exact Or.inl ⟨_,rfl,fun W hW=>leastLeaf_any b t.length kc ka _ (gt t) W (hx.below hW) (hr.rdS.below hW) (bal_pos hb)⟩
 | d+1,.inr l,v,ht,hb=>by
  have ht2:=ht
  obtain ⟨b,g,kc,xs,rfl,_⟩:=ht2
  obtain ⟨_,_,h',_,hall⟩:=hb
  exact Or.inr ⟨_,rfl,fun W hW=>leastInner_any d l S b h' W (ht.below hW) hall⟩

set_option maxHeartbeats 8000000 in
theorem readInner_any (N:Nat->Tn) (rb b o n c x:Nat) (dep D:Int) (hk:Bool) (lk:ByteArray) (d:Nat) (w:World) (ka da:Option Addr) (kc dc:Nat) (h:RBx w rb b o n c (x+1) D lk hk) (hx:x<n) (hn:n<=5000) (hlf:(N x).lf=false) (hfit:TnFit (N x)) (hK:∀W:World,Below rb w W->RdS W ka (N x).kn (N x).ks) (hKd:∀W:World,Below rb w W->Rd .i64 W da (N x).dn (N x).kd) (hd0:0<=dep) (hd1:dep+1<=100000)
  (hread:∀(W:World) (y:Nat) (D2:Int) (lk2:ByteArray) (hk2:Bool),Below rb w W->x+1<=y->y<=n->RBx W rb b o n c y D2 lk2 hk2->Calls Tryz.prog 126 #[.pointer (some ⟨rb,0,none⟩),.int .i64 (dep+1)] W (RetRd N rb b o n c y (dep+1) D2 hk2 lk2 d W)) :
  Calls Tryz.prog 138 #[.pointer (some ⟨rb,0,none⟩),.agg #[.bool false,.slice ka (N x).kn kc,.slice da (N x).dn dc,.int .i64 (N x).ct],.int .i64 dep] w (RetRd N rb b o n c x dep D hk lk (d+1) w):=by
 have HR:Hid (RBx w rb b o n c (x+1) D lk hk):=h
 have hrl:=h.lt
 have HK:Hid ((∀W:World,Below rb w W->RdS W ka (N x).kn (N x).ks)/\(∀W:World,Below rb w W->Rd .i64 W da (N x).dn (N x).kd)):=⟨hK,hKd⟩
 have HRead:Hid (∀(W:World) (y:Nat) (D2:Int) (lk2:ByteArray) (hk2:Bool),Below rb w W->x+1<=y->y<=n->RBx W rb b o n c y D2 lk2 hk2->Calls Tryz.prog 126 #[.pointer (some ⟨rb,0,none⟩),.int .i64 (dep+1)] W (RetRd N rb b o n c y (dep+1) D2 hk2 lk2 d W)):=hread
 have HGI:Hid (∀(t:Ro (d+1)) D' hk' lk',Good N n x dep D hk lk (d+1) t D' hk' lk'->∃l:List (Ro d),t=.inr l/\l.length=(N x).dn/\2<=l.length/\l.length<=4/\(N x).kn+1=l.length/\(N x).ct=((l.flatMap (keysR d)).length:Int)):=fun t D' hk' lk' g=>good_inner hlf g
 have HLf:Hid ((N x).lf=false):=hlf
 have hm2:(N x).kn<=1048576:=hfit.1
 have hd2:(N x).dn<=1048576:=hfit.2
 have HNo:Hid (∀w' : World,w.grownBy w' (some rb)->¬ (∃(t:Ro (d+1)) (D' : Int) (hk' : Bool) (lk' : ByteArray),Good N n x dep D hk lk (d+1) t D' hk' lk')->∀v,RetRd N rb b o n c x dep D hk lk (d+1) w (.returned (.tuple #[v,.bool false])) w'):=fun w' hg hn v=>⟨hg,v,false,rfl,Or.inr ⟨rfl,hn⟩⟩
 obtain ⟨m,hm⟩:∃m,(N x).kn=m:=⟨_,rfl⟩
 obtain ⟨dn,hdn⟩:∃dn,(N x).dn=dn:=⟨_,rfl⟩
 obtain ⟨ct,hct⟩:∃ct,(N x).ct=ct:=⟨_,rfl⟩
 have HEq:Hid ((N x).kn=m/\(N x).dn=dn/\(N x).ct=ct):=⟨hm,hdn,hct⟩
 rw [hm] at hm2
 rw [hdn] at hd2
 rw [hm,hdn,hct]
 rw [hm,hdn] at HK
 clear h hK hKd hread hlf hfit hm hdn hct
 by_cases hbad:dn<2\/4<dn\/m+1≠dn
 ·have HNG:Hid (¬ (∃(t:Ro (d+1)) (D' : Int) (hk' : Bool) (lk' : ByteArray),Good N n x dep D hk lk (d+1) t D' hk' lk')):=by
   rintro ⟨t,D',hk',lk',g⟩
   obtain ⟨l,_,e1,e2,e3,e4,_⟩:=HGI.out t D' hk' lk' g
   obtain ⟨q1,q2,_⟩:=HEq.out
   omega
  have hcases:(dn<2)\/(¬ dn<2/\4<dn)\/(¬ dn<2/\¬ 4<dn/\m+1≠dn):=by omega
  clear hbad
  rcases hcases with h1|⟨h1,h2⟩|⟨h1,h2,h3⟩
  ·have i1:(dn:Int)<2:=by omega
   have i1' : decide ((dn:Int)<2)=true:=decide_eq_true i1
   have n1' : decide (dn<2)=true:=decide_eq_true h1
   go_enter Tryz.func138,Tryz.ntmps138
   go_wp2
   refine bodyPost_ret (v:=.tuple #[.nilIface,.bool false]) (by simp [results,Tryz.results138,go_sem]) rfl (HNo.out _ (grown_below (below_alloc _ _)) HNG.out _)
  ·have i1:¬ (dn:Int)<2:=by omega
   have i1' : decide ((dn:Int)<2)=false:=decide_eq_false i1
   have n1' : decide (dn<2)=false:=decide_eq_false h1
   have i2:(4:Int)<(dn:Int):=by omega
   have i2' : decide ((4:Int)<(dn:Int))=true:=decide_eq_true i2
   have n2' : decide (4<dn)=true:=decide_eq_true h2
   go_enter Tryz.func138,Tryz.ntmps138
   go_wp2
   refine bodyPost_ret (v:=.tuple #[.nilIface,.bool false]) (by simp [results,Tryz.results138,go_sem]) rfl (HNo.out _ (grown_below (below_alloc _ _)) HNG.out _)
  ·have i1:¬ (dn:Int)<2:=by omega
   have i1' : decide ((dn:Int)<2)=false:=decide_eq_false i1
   have n1' : decide (dn<2)=false:=decide_eq_false h1
   have i2:¬ (4:Int)<(dn:Int):=by omega
   have i2' : decide ((4:Int)<(dn:Int))=false:=decide_eq_false i2
   have n2' : decide (4<dn)=false:=decide_eq_false h2
   have hwr:IntKind.i64.wrap ((dn:Int)-1)=(dn:Int)-1:=by rw [IntKind.wrap_i64];omega
   have i3:((m:Int) != (dn:Int)-1)=true:=by simp;omega
   go_enter Tryz.func138,Tryz.ntmps138
   go_wp2
   refine bodyPost_ret (v:=.tuple #[.nilIface,.bool false]) (by simp [results,Tryz.results138,go_sem]) rfl (HNo.out _ (grown_below (below_alloc _ _)) HNG.out _)
 ·have h1:¬ dn<2:=by omega
  have h2:¬ 4<dn:=by omega
  have h3:m+1=dn:=by omega
  have i1:¬ (dn:Int)<2:=by omega
  have i1' : decide ((dn:Int)<2)=false:=decide_eq_false i1
  have n1' : decide (dn<2)=false:=decide_eq_false h1
  have i2:¬ (4:Int)<(dn:Int):=by omega
  have i2' : decide ((4:Int)<(dn:Int))=false:=decide_eq_false i2
  have n2' : decide (4<dn)=false:=decide_eq_false h2
  have hwr:IntKind.i64.wrap ((dn:Int)-1)=(dn:Int)-1:=by rw [IntKind.wrap_i64];omega
  have i3:((m:Int) != (dn:Int)-1)=false:=by simp;omega
  have H3:Hid (m+1=dn):=h3
  clear hbad h3
  obtain ⟨bd,od,rfl⟩:∃bd od,da=some ⟨bd,od,none⟩:=by
   rcases HK.out.2 w (Below.refl _ _) with q|⟨bd,od,e,_⟩
   ·omega
   ·exact ⟨bd,od,e⟩
  have HKd2:Hid (∀W:World,Below rb w W->∀i,i<dn->W.cell? ⟨bd,od+i,none⟩=some (.int .i64 ((N x).kd i))):=by
   intro W hW i hi
   rcases HK.out.2 W hW with q|⟨bd',od',e,hc⟩
   ·omega
   ·injection e with e
    injection e with e1 e2
    subst e1
    subst e2
    exact hc i hi
  obtain ⟨bk,oo,rfl⟩:∃bk oo,ka=some ⟨bk,oo,none⟩:=by
   rcases HK.out.1 w (Below.refl _ _) with q|⟨bk,oo,e,_⟩
   ·have:=H3.out
    omega
   ·exact ⟨bk,oo,e⟩
  go_enter Tryz.func138,Tryz.ntmps138
  go_upto_region 5 with fail
  have S1:Hid (InSt w ((w.alloc (.cells #[.bool false,.slice (some ⟨bk,oo,none⟩) m kc,.slice (some ⟨bd,od,none⟩) dn dc,.int .i64 ct] 210)).alloc (.cells #[.int .i64 0,.slice none 0 0] 251)) rb (w.heap.size+1) #[.bool false,.slice (some ⟨bk,oo,none⟩) m kc,.slice (some ⟨bd,od,none⟩) dn dc,.int .i64 ct] d [] 0 none 0 []/\RBx ((w.alloc (.cells #[.bool false,.slice (some ⟨bk,oo,none⟩) m kc,.slice (some ⟨bd,od,none⟩) dn dc,.int .i64 ct] 210)).alloc (.cells #[.int .i64 0,.slice none 0 0] 251)) rb b o n c (x+1) D lk hk):=by
   refine ⟨⟨(Bx.new _ _ _).alloc _,?_,by omega,hrl,World.ownsRow_nil _ _ _ _,fun j hj=>absurd hj (Nat.not_lt_zero _),grown_below ((below_alloc _ _).alloc (by simp) _),rfl⟩,(HR.out.alloc _).alloc _⟩
   have q:=Bx.new (w.alloc (.cells #[.bool false,.slice (some ⟨bk,oo,none⟩) m kc,.slice (some ⟨bd,od,none⟩) dn dc,.int .i64 ct] 210)) #[.int .i64 0,.slice none 0 0] 251
   simpa using q
  clear HR
  generalize ((w.alloc (.cells #[.bool false,.slice (some ⟨bk,oo,none⟩) m kc,.slice (some ⟨bd,od,none⟩) dn dc,.int .i64 ct] 210)).alloc (.cells #[.int .i64 0,.slice none 0 0] 251))=W at S1 ⊢
  have g2:=S1.out.1.gb.cell 2
  have gl:=S1.out.1.gb.lt
  simp at g2
  go_wp2
  go_loopw [36] (fun i wr=>∃(k:Nat) (ts:List (Ro d)) (Dk:Int) (hkk:Bool) (lkk:ByteArray) (ca:Option Addr) (cc:Nat) (xs:List Value),k<=dn/\i=.int .i64 k/\InSt w wr rb (w.heap.size+1) #[.bool false,.slice (some ⟨bk,oo,none⟩) m kc,.slice (some ⟨bd,od,none⟩) dn dc,.int .i64 ct] d ts k ca cc xs/\RBx wr rb b o n c (x+1+(ts.map (nodesR d)).sum) Dk lkk hkk/\KGood N n x dep D hk lk d ts Dk hkk lkk) (fun i _=>dn-(intOf i).toNat)
  case atStart=>exact ⟨0,[],D,hk,lk,none,0,[],Nat.zero_le _,rfl,S1.out.1,S1.out.2,⟨by simp;omega,fun j hj=>absurd hj (Nat.not_lt_zero _),fun j hj=>absurd hj (Nat.not_lt_zero _),fun j hj=>absurd hj (Nat.not_lt_zero _),.inl ⟨rfl,rfl⟩,⟨rfl,rfl⟩⟩⟩
  case round=>
   obtain ⟨k,ts,Dk,hkk,lkk,ca,cc,xs,hkd,rfl,hst,hrb,hkg⟩:=hrel
   clear S1 g2 gl
   have HST:Hid (InSt w wr rb (w.heap.size+1) #[.bool false,.slice (some ⟨bk,oo,none⟩) m kc,.slice (some ⟨bd,od,none⟩) dn dc,.int .i64 ct] d ts k ca cc xs/\RBx wr rb b o n c (x+1+(ts.map (nodesR d)).sum) Dk lkk hkk):=⟨hst,hrb⟩
   have HKG:Hid (KGood N n x dep D hk lk d ts Dk hkk lkk):=hkg
   have r1:=hrb.cell 1
   have hrl2:=hrb.lt
   have hle:=hkg.le
   obtain ⟨y,hy⟩:∃y,y=x+1+(ts.map (nodesR d)).sum:=⟨_,rfl⟩
   rw [<- hy] at r1 hle
   have r1' : wr.cell? ⟨rb,1,none⟩=some (.int .i64 (y:Int)):=r1
   have HY:Hid (y=x+1+(ts.map (nodesR d)).sum):=hy
   clear r1 hst hrb hkg hy
   by_cases hlt:k<dn
   ·have hk0:(0:Int)<=(k:Int):=by omega
    have hkI:(k:Int)<(dn:Int):=by omega
    have ck:=HKd2.out wr (below_grown HST.out.1.gr (by omega) (Nat.le_refl _)) k hlt
    by_cases hnum:(N x).kd k=(y:Int)
    ·have HKd:Hid ((N x).kd ts.length=((x+1+(ts.map (nodesR d)).sum:Nat):Int)):=by
      show (N x).kd ts.length=((x+1+(ts.map (nodesR d)).sum:Nat):Int)
      rw [HST.out.1.len,hnum,HY.out]
     rw [hnum] at ck
     clear hnum
     go_wp2_with fail
     refine (HRead.out wr y Dk lkk hkk (below_grown HST.out.1.gr (by omega) (Nat.le_refl _)) (by have:=HY.out;omega) (by omega) (by rw [HY.out];exact HST.out.2)).mono ?_
     rintro e w1 ⟨hg1,v,ok,rfl,hr⟩
     have HS1:Hid (InSt w w1 rb (w.heap.size+1) #[.bool false,.slice (some ⟨bk,oo,none⟩) m kc,.slice (some ⟨bd,od,none⟩) dn dc,.int .i64 ct] d ts k ca cc xs):=HST.out.1.read hg1
     cases ok with
     | false=>
      have HNG:Hid (¬ (∃(t:Ro (d+1)) (D' : Int) (hk' : Bool) (lk' : ByteArray),Good N n x dep D hk lk (d+1) t D' hk' lk')):=by
       rintro ⟨t2,D2,hk2,lk2,g⟩
       obtain ⟨l,rfl,e1,_⟩:=HGI.out t2 D2 hk2 lk2 g
       have hlt2:ts.length<l.length:=by rw [HST.out.1.len,e1,HEq.out.2.1];exact hlt
       obtain ⟨_,q2,h2,l2,q3⟩:=good_next hd0 g HKG.out hlt2
       rcases hr with ⟨e,_⟩|⟨_,e⟩
       ·cases e
       ·rw [HY.out] at e
        exact e ⟨_,_,_,_,q3⟩
      have HNd:Hid (∀z,w.grownBy (w1.drewN z) (some rb)):=fun z=>grown_trans (grown_trans HST.out.1.gr hg1) (grown_below (below_drewN (Below.refl _ _) z))
      clear hr hg1 r1' ck
      go_wp2
      go_quiet (fail)
      go_wp2
      refine bodyPost_ret (v:=.tuple #[.nilIface,.bool false]) (by simp [results,Tryz.results138,go_sem]) rfl (HNo.out _ (HNd.out _) HNG.out _)
     | true=>
      obtain ⟨t,D',hk',lk',hgood,hrb1,hta⟩:∃(t:Ro d) (D' : Int) (hk' : Bool) (lk' : ByteArray),Good N n y (dep+1) Dk hkk lkk d t D' hk' lk'/\RBx w1 rb b o n c (y+nodesR d t) D' lk' hk'/\TAt (fun b=>wr.heap.size<=b) w1 d t v:=by
       rcases hr with ⟨_,e⟩|⟨e,_⟩
       ·exact e
       ·cases e
      rw [HY.out] at hgood hrb1
      have HG1:Hid (wr.grownBy w1 (some rb)/\Good N n (x+1+(ts.map (nodesR d)).sum) (dep+1) Dk hkk lkk d t D' hk' lk'/\RBx w1 rb b o n c (x+1+(ts.map (nodesR d)).sum+nodesR d t) D' lk' hk'/\TAt (fun b=>wr.heap.size<=b) w1 d t v):=⟨hg1,hgood,hrb1,hta⟩
      have HNd:Hid (∀z,w.grownBy (w1.drewN z) (some rb)):=fun z=>grown_trans (grown_trans HST.out.1.gr hg1) (grown_below (below_drewN (Below.refl _ _) z))
      clear hr hg1 r1' ck hgood hrb1 hta
      have g1:=HS1.out.gb.cell 1
      have hgl1:=HS1.out.gb.lt
      simp at g1
      obtain ⟨hh,hbal,_⟩:=HG1.out.2.1.bal
      rw [show decide (dep+1=0)=false from decide_eq_false (by omega)] at hbal
      by_cases hk00:k=0
      ·have jk:¬ (0:Int)<(k:Int):=by omega
       have jk' : decide ((0:Int)<(k:Int))=false:=decide_eq_false jk
       have nk' : decide (0<k)=false:=decide_eq_false (by omega)
       have HKG2:Hid (KGood N n x dep D hk lk d (ts++[t]) D' hk' lk'):=HKG.out.more hd0 HG1.out.2.1 HKd.out (fun hne=>absurd (HST.out.1.len.trans hk00) hne)
       obtain ⟨p,ev⟩:∃p,v=.iface 243 (.pointer (some p))\/v=.iface 248 (.pointer (some p)):=by
        rcases least_call HG1.out.2.2.2 hbal with ⟨p,e,_⟩|⟨p,e,_⟩
        ·exact ⟨p,Or.inl e⟩
        ·exact ⟨p,Or.inr e⟩
       clear hbal hk00
       rcases ev with rfl|rfl
       ·go_wp2
        go_quiet (fail)
        have HS2:Hid (InSt w (w1.drewN nq) rb (w.heap.size+1) #[.bool false,.slice (some ⟨bk,oo,none⟩) m kc,.slice (some ⟨bd,od,none⟩) dn dc,.int .i64 ct] d ts k ca cc xs):=HS1.out.read (grown_below (below_drewN (Below.refl _ _) nq))
        have HG2:Hid (wr.grownBy (w1.drewN nq) (some rb)/\Good N n (x+1+(ts.map (nodesR d)).sum) (dep+1) Dk hkk lkk d t D' hk' lk'/\RBx (w1.drewN nq) rb b o n c (x+1+(ts.map (nodesR d)).sum+nodesR d t) D' lk' hk'/\TAt (fun b=>wr.heap.size<=b) (w1.drewN nq) d t (.iface 243 (.pointer (some p)))):=⟨grown_trans HG1.out.1 (grown_below (below_drewN (Below.refl _ _) nq)),HG1.out.2.1,HG1.out.2.2.1.below (below_drewN (Below.refl _ _) nq),HG1.out.2.2.2.below (below_drewN (Below.refl _ _) nq)⟩
        clear HS1 HG1 HNd g1 hgl1
        generalize (w1.drewN nq)=w2 at HS2 HG2 ⊢
        obtain ⟨i0,hi,hz0,hz1,hz2⟩:=info_parts Tryz.info187
        have HI:Hid (Tryz.prog.info? 187=some i0/\i0.zero=some .nilIface/\i0.size=1/\i0.bytes=16):=⟨hi,hz0,hz1,hz2⟩
        clear hi hz0 hz1 hz2
        have n1:=HS2.out.nbx.cell 1
        have nf:=HS2.out.nbx.frozen 1
        have nl:=HS2.out.nbx.lt
        simp at n1
        have HO:Hid ((w2.alloc (.cells #[.iface 243 (.pointer (some p))] 187)).ownsRow (w.heap.size+1+1) 187 1 (.slice ca k cc) k xs):=own_below HS2.out.own (below_alloc _ _)
        go_wp2_with (at_builtin;refine wpList_append_own_at _ rfl _ _ 249 rfl (w.heap.size+1+1) 187 i0 .nilIface 1 16 Tryz.underlying249 HI.out.1 HI.out.2.1 HI.out.2.2.1 HI.out.2.2.2 rfl (by decide) (.slice ca k cc) k xs rfl HO.out ⟨w2.heap.size,0,none⟩ 1 1 [.iface 243 (.pointer (some p))] rfl rfl (cell_one_new _ _ _) (by intro u hu;simp at hu;subst hu;rfl) (by unfold maxLen;omega) (by omega) (by simp;omega) ?_)
        intro v' w5 ho hg _ hat
        obtain ⟨a5,c5,rfl,_⟩:=own_form ho
        have hx5:=(HS2.out.nbx.alloc (.cells #[.iface 243 (.pointer (some p))] 187)).grown hg (fun e=>by have:=own_lt HS2.out.own _ e;omega)
        have u1:=hx5.cell 1
        have uf:=hx5.frozen 1
        have ul:=hx5.lt
        simp at u1
        have HX:Hid (InSt w (w5.setCell ⟨w.heap.size+1,1,none⟩ (.slice a5 (k+1) c5)) rb (w.heap.size+1) #[.bool false,.slice (some ⟨bk,oo,none⟩) m kc,.slice (some ⟨bd,od,none⟩) dn dc,.int .i64 ct] d (ts++[t]) (k+1) a5 c5 (xs++[.iface 243 (.pointer (some p))])/\RBx (w5.setCell ⟨w.heap.size+1,1,none⟩ (.slice a5 (k+1) c5)) rb b o n c (x+1+((ts++[t]).map (nodesR d)).sum) D' lk' hk'):=by
         refine ⟨HST.out.1.grow HG2.out.1 HG2.out.2.2.2 hg ho (by simpa using hat),?_⟩
         have q:=((HG2.out.2.2.1.alloc (.cells #[.iface 243 (.pointer (some p))] 187)).grown hg (fun e=>by have:=own_lt HS2.out.own _ e;have:=HST.out.1.rlt;omega)).other (p:=⟨w.heap.size+1,1,none⟩) (by simp;have:=HST.out.1.rlt;omega) (.slice a5 (k+1) c5)
         have e:x+1+(ts.map (nodesR d)).sum+nodesR d t=x+1+((ts++[t]).map (nodesR d)).sum:=by
          rw [List.map_append,List.sum_append]
          simp
          omega
         rw [<- e]
         exact q
        clear ho hg hat hx5 HO HST HS2 HG2 n1 nf nl
        go_wp2
        go_roundw
        case rel=>exact ⟨k+1,ts++[t],D',hk',lk',a5,c5,_,by omega,by go_num,HX.out.1,HX.out.2,HKG2.out⟩
        case measure=>simp [intOf];omega

       ·go_wp2
        go_quiet (fail)
        have HS2:Hid (InSt w (w1.drewN nq) rb (w.heap.size+1) #[.bool false,.slice (some ⟨bk,oo,none⟩) m kc,.slice (some ⟨bd,od,none⟩) dn dc,.int .i64 ct] d ts k ca cc xs):=HS1.out.read (grown_below (below_drewN (Below.refl _ _) nq))
        have HG2:Hid (wr.grownBy (w1.drewN nq) (some rb)/\Good N n (x+1+(ts.map (nodesR d)).sum) (dep+1) Dk hkk lkk d t D' hk' lk'/\RBx (w1.drewN nq) rb b o n c (x+1+(ts.map (nodesR d)).sum+nodesR d t) D' lk' hk'/\TAt (fun b=>wr.heap.size<=b) (w1.drewN nq) d t (.iface 248 (.pointer (some p)))):=⟨grown_trans HG1.out.1 (grown_below (below_drewN (Below.refl _ _) nq)),HG1.out.2.1,HG1.out.2.2.1.below (below_drewN (Below.refl _ _) nq),HG1.out.2.2.2.below (below_drewN (Below.refl _ _) nq)⟩
        clear HS1 HG1 HNd g1 hgl1
        generalize (w1.drewN nq)=w2 at HS2 HG2 ⊢
        obtain ⟨i0,hi,hz0,hz1,hz2⟩:=info_parts Tryz.info187
        have HI:Hid (Tryz.prog.info? 187=some i0/\i0.zero=some .nilIface/\i0.size=1/\i0.bytes=16):=⟨hi,hz0,hz1,hz2⟩
        clear hi hz0 hz1 hz2
        have n1:=HS2.out.nbx.cell 1
        have nf:=HS2.out.nbx.frozen 1
        have nl:=HS2.out.nbx.lt
        simp at n1
        have HO:Hid ((w2.alloc (.cells #[.iface 248 (.pointer (some p))] 187)).ownsRow (w.heap.size+1+1) 187 1 (.slice ca k cc) k xs):=own_below HS2.out.own (below_alloc _ _)
        go_wp2_with (at_builtin;refine wpList_append_own_at _ rfl _ _ 249 rfl (w.heap.size+1+1) 187 i0 .nilIface 1 16 Tryz.underlying249 HI.out.1 HI.out.2.1 HI.out.2.2.1 HI.out.2.2.2 rfl (by decide) (.slice ca k cc) k xs rfl HO.out ⟨w2.heap.size,0,none⟩ 1 1 [.iface 248 (.pointer (some p))] rfl rfl (cell_one_new _ _ _) (by intro u hu;simp at hu;subst hu;rfl) (by unfold maxLen;omega) (by omega) (by simp;omega) ?_)
        intro v' w5 ho hg _ hat
        obtain ⟨a5,c5,rfl,_⟩:=own_form ho
        have hx5:=(HS2.out.nbx.alloc (.cells #[.iface 248 (.pointer (some p))] 187)).grown hg (fun e=>by have:=own_lt HS2.out.own _ e;omega)
        have u1:=hx5.cell 1
        have uf:=hx5.frozen 1
        have ul:=hx5.lt
        simp at u1
        have HX:Hid (InSt w (w5.setCell ⟨w.heap.size+1,1,none⟩ (.slice a5 (k+1) c5)) rb (w.heap.size+1) #[.bool false,.slice (some ⟨bk,oo,none⟩) m kc,.slice (some ⟨bd,od,none⟩) dn dc,.int .i64 ct] d (ts++[t]) (k+1) a5 c5 (xs++[.iface 248 (.pointer (some p))])/\RBx (w5.setCell ⟨w.heap.size+1,1,none⟩ (.slice a5 (k+1) c5)) rb b o n c (x+1+((ts++[t]).map (nodesR d)).sum) D' lk' hk'):=by
         refine ⟨HST.out.1.grow HG2.out.1 HG2.out.2.2.2 hg ho (by simpa using hat),?_⟩
         have q:=((HG2.out.2.2.1.alloc (.cells #[.iface 248 (.pointer (some p))] 187)).grown hg (fun e=>by have:=own_lt HS2.out.own _ e;have:=HST.out.1.rlt;omega)).other (p:=⟨w.heap.size+1,1,none⟩) (by simp;have:=HST.out.1.rlt;omega) (.slice a5 (k+1) c5)
         have e:x+1+(ts.map (nodesR d)).sum+nodesR d t=x+1+((ts++[t]).map (nodesR d)).sum:=by
          rw [List.map_append,List.sum_append]
          simp
          omega
         rw [<- e]
         exact q
        clear ho hg hat hx5 HO HST HS2 HG2 n1 nf nl
        go_wp2
        go_roundw
        case rel=>exact ⟨k+1,ts++[t],D',hk',lk',a5,c5,_,by omega,by go_num,HX.out.1,HX.out.2,HKG2.out⟩
        case measure=>simp [intOf];omega

      ·obtain ⟨p0,hp0⟩:∃p0,k=p0+1:=⟨k-1,by omega⟩
       have jk:(0:Int)<(k:Int):=by omega
       have jk' : decide ((0:Int)<(k:Int))=true:=decide_eq_true jk
       have nk0:0<k:=by omega
       have nk' : decide (0<k)=true:=decide_eq_true nk0
       have hp1:p0<m:=by have:=H3.out;omega
       have HP0:Hid (k=p0+1):=hp0
       have hwrk:IntKind.i64.wrap ((k:Int)-1)=(k:Int)-1:=by rw [IntKind.wrap_i64];omega
       have hsb0:(0:Int)<=(k:Int)-1:=by omega
       have hsb1:(k:Int)-1<(m:Int):=by omega
       have htn:((k:Int)-1).toNat=p0:=by omega
       have hix:∀wz,(Instr.indexAt 113 (.slice (some ⟨bk,oo,none⟩) m kc) (.int .i64 ((k:Int)-1))).run Tryz.prog wz=.ok (.pointer (some ⟨bk,oo+p0,none⟩)) wz:=fun wz=>by rw [show (k:Int)-1=(p0:Int) by omega];exact idxS bk oo m kc p0 hp1 wz
       rcases HK.out.1 w1 (below_grown (grown_trans HST.out.1.gr HG1.out.1) (by omega) (Nat.le_refl _)) with q|⟨bk',ok',eka,hck⟩
       ·omega
       have s1:=hck p0 hp1
       injection eka with eka
       injection eka with eka1 eka2
       subst eka1
       subst eka2
       clear hck hk00 hp0
       rcases least_call HG1.out.2.2.2 hbal with ⟨p,rfl,hcall⟩|⟨p,rfl,hcall⟩
       ·clear hbal
        have HL:Hid (∀W:World,Below w1.heap.size w1 W->Calls Tryz.prog 172 #[.pointer (some p)] W fun e w'=>e=.returned (.string (gt (keysR d t) 0))/\w'=W):=hcall
        clear hcall
        by_cases hseq:gt (keysR d t) 0=(N x).ks p0
        ·have HKG2:Hid (KGood N n x dep D hk lk d (ts++[t]) D' hk' lk'):=HKG.out.more hd0 HG1.out.2.1 HKd.out (fun _=>by rw [HST.out.1.len,show k-1=p0 by have:=HP0.out;omega];exact hseq.symm)
         rw [<- hseq] at s1
         clear hseq
         go_wp2
         go_region_held3 (fun w'=>w'.cell? ⟨w.heap.size,1,none⟩=some (.slice (some ⟨bk,oo,none⟩) m kc)/\w'.cell? ⟨bk,oo+p0,none⟩=some (.string (gt (keysR d t) 0))) (go_keep) (first|(go_at_call 172;refine (HL.out _ (by first|exact Below.refl _ _|exact (Below.refl _ _).drew)).mono ?_;rintro e w6 ⟨rfl,rfl⟩)|fail)
         have HS2:Hid (InSt w w1.drew rb (w.heap.size+1) #[.bool false,.slice (some ⟨bk,oo,none⟩) m kc,.slice (some ⟨bd,od,none⟩) dn dc,.int .i64 ct] d ts k ca cc xs):=HS1.out.read (grown_below (Below.refl _ _).drew)
         have HG2:Hid (wr.grownBy w1.drew (some rb)/\Good N n (x+1+(ts.map (nodesR d)).sum) (dep+1) Dk hkk lkk d t D' hk' lk'/\RBx w1.drew rb b o n c (x+1+(ts.map (nodesR d)).sum+nodesR d t) D' lk' hk'/\TAt (fun b=>wr.heap.size<=b) w1.drew d t (.iface 243 (.pointer (some p)))):=⟨grown_trans HG1.out.1 (grown_below (Below.refl _ _).drew),HG1.out.2.1,HG1.out.2.2.1.below (Below.refl _ _).drew,HG1.out.2.2.2.below (Below.refl _ _).drew⟩
         clear HS1 HG1 HNd g1 hgl1
         generalize w1.drew=w2 at HS2 HG2 ⊢
         obtain ⟨i0,hi,hz0,hz1,hz2⟩:=info_parts Tryz.info187
         have HI:Hid (Tryz.prog.info? 187=some i0/\i0.zero=some .nilIface/\i0.size=1/\i0.bytes=16):=⟨hi,hz0,hz1,hz2⟩
         clear hi hz0 hz1 hz2
         have n1:=HS2.out.nbx.cell 1
         have nf:=HS2.out.nbx.frozen 1
         have nl:=HS2.out.nbx.lt
         simp at n1
         have HO:Hid ((w2.alloc (.cells #[.iface 243 (.pointer (some p))] 187)).ownsRow (w.heap.size+1+1) 187 1 (.slice ca k cc) k xs):=own_below HS2.out.own (below_alloc _ _)
         go_wp2_with (at_builtin;refine wpList_append_own_at _ rfl _ _ 249 rfl (w.heap.size+1+1) 187 i0 .nilIface 1 16 Tryz.underlying249 HI.out.1 HI.out.2.1 HI.out.2.2.1 HI.out.2.2.2 rfl (by decide) (.slice ca k cc) k xs rfl HO.out ⟨w2.heap.size,0,none⟩ 1 1 [.iface 243 (.pointer (some p))] rfl rfl (cell_one_new _ _ _) (by intro u hu;simp at hu;subst hu;rfl) (by unfold maxLen;omega) (by omega) (by simp;omega) ?_)
         intro v' w5 ho hg _ hat
         obtain ⟨a5,c5,rfl,_⟩:=own_form ho
         have hx5:=(HS2.out.nbx.alloc (.cells #[.iface 243 (.pointer (some p))] 187)).grown hg (fun e=>by have:=own_lt HS2.out.own _ e;omega)
         have u1:=hx5.cell 1
         have uf:=hx5.frozen 1
         have ul:=hx5.lt
         simp at u1
         have HX:Hid (InSt w (w5.setCell ⟨w.heap.size+1,1,none⟩ (.slice a5 (k+1) c5)) rb (w.heap.size+1) #[.bool false,.slice (some ⟨bk,oo,none⟩) m kc,.slice (some ⟨bd,od,none⟩) dn dc,.int .i64 ct] d (ts++[t]) (k+1) a5 c5 (xs++[.iface 243 (.pointer (some p))])/\RBx (w5.setCell ⟨w.heap.size+1,1,none⟩ (.slice a5 (k+1) c5)) rb b o n c (x+1+((ts++[t]).map (nodesR d)).sum) D' lk' hk'):=by
          refine ⟨HST.out.1.grow HG2.out.1 HG2.out.2.2.2 hg ho (by simpa using hat),?_⟩
          have q:=((HG2.out.2.2.1.alloc (.cells #[.iface 243 (.pointer (some p))] 187)).grown hg (fun e=>by have:=own_lt HS2.out.own _ e;have:=HST.out.1.rlt;omega)).other (p:=⟨w.heap.size+1,1,none⟩) (by simp;have:=HST.out.1.rlt;omega) (.slice a5 (k+1) c5)
          have e:x+1+(ts.map (nodesR d)).sum+nodesR d t=x+1+((ts++[t]).map (nodesR d)).sum:=by
           rw [List.map_append,List.sum_append]
           simp
           omega
          rw [<- e]
          exact q
         clear ho hg hat hx5 HO HST HS2 HG2 n1 nf nl
         go_wp2
         go_roundw
         case rel=>exact ⟨k+1,ts++[t],D',hk',lk',a5,c5,_,by omega,by go_num,HX.out.1,HX.out.2,HKG2.out⟩
         case measure=>simp [intOf];omega
        ·have HNG:Hid (¬ (∃(t:Ro (d+1)) (D' : Int) (hk' : Bool) (lk' : ByteArray),Good N n x dep D hk lk (d+1) t D' hk' lk')):=by
          rintro ⟨t2,D2,hk2,lk2,g⟩
          obtain ⟨l,rfl,e1,_⟩:=HGI.out t2 D2 hk2 lk2 g
          have hlt2:ts.length<l.length:=by rw [HST.out.1.len,e1,HEq.out.2.1];exact hlt
          obtain ⟨_,q2,h2,l2,q3⟩:=good_next hd0 g HKG.out hlt2
          have e:=tells_uniq _ _ _ q3.tl HG1.out.2.1.tl
          have hkl:=HST.out.1.len
          have hkp:=HP0.out
          have q:(N x).ks p0=gt (keysR d t) 0:=by
           rw [<- e,<- q2 (by omega),show ts.length-1=p0 by omega]
          exact hseq q.symm
         have hsq:((gt (keysR d t) 0).toList == ((N x).ks p0).toList)=false:=by
          rw [beq_eq_false_iff_ne]
          exact fun h=>hseq (str_inj h)
         have hsq2:(!((gt (keysR d t) 0).toList == ((N x).ks p0).toList))=true:=by rw [hsq];rfl
         go_wp2
         go_region_held3 (fun w'=>w'.cell? ⟨w.heap.size,1,none⟩=some (.slice (some ⟨bk,oo,none⟩) m kc)/\w'.cell? ⟨bk,oo+p0,none⟩=some (.string ((N x).ks p0))) (go_keep) (first|(go_at_call 172;refine (HL.out _ (by first|exact Below.refl _ _|exact (Below.refl _ _).drew)).mono ?_;rintro e w6 ⟨rfl,rfl⟩)|fail)
         go_wp2
         refine bodyPost_ret (v:=.tuple #[.nilIface,.bool false]) (by simp [results,Tryz.results138,go_sem]) rfl (HNo.out _ (grown_trans (grown_trans HST.out.1.gr HG1.out.1) (grown_below (Below.refl _ _).drew)) HNG.out _)

       ·clear hbal
        have HL:Hid (∀W:World,Below w1.heap.size w1 W->Calls Tryz.prog 184 #[.pointer (some p)] W fun e w'=>e=.returned (.string (gt (keysR d t) 0))/\w'=W):=hcall
        clear hcall
        by_cases hseq:gt (keysR d t) 0=(N x).ks p0
        ·have HKG2:Hid (KGood N n x dep D hk lk d (ts++[t]) D' hk' lk'):=HKG.out.more hd0 HG1.out.2.1 HKd.out (fun _=>by rw [HST.out.1.len,show k-1=p0 by have:=HP0.out;omega];exact hseq.symm)
         rw [<- hseq] at s1
         clear hseq
         go_wp2
         go_region_held3 (fun w'=>w'.cell? ⟨w.heap.size,1,none⟩=some (.slice (some ⟨bk,oo,none⟩) m kc)/\w'.cell? ⟨bk,oo+p0,none⟩=some (.string (gt (keysR d t) 0))) (go_keep) (first|(go_at_call 184;refine (HL.out _ (by first|exact Below.refl _ _|exact (Below.refl _ _).drew)).mono ?_;rintro e w6 ⟨rfl,rfl⟩)|fail)
         have HS2:Hid (InSt w w1.drew rb (w.heap.size+1) #[.bool false,.slice (some ⟨bk,oo,none⟩) m kc,.slice (some ⟨bd,od,none⟩) dn dc,.int .i64 ct] d ts k ca cc xs):=HS1.out.read (grown_below (Below.refl _ _).drew)
         have HG2:Hid (wr.grownBy w1.drew (some rb)/\Good N n (x+1+(ts.map (nodesR d)).sum) (dep+1) Dk hkk lkk d t D' hk' lk'/\RBx w1.drew rb b o n c (x+1+(ts.map (nodesR d)).sum+nodesR d t) D' lk' hk'/\TAt (fun b=>wr.heap.size<=b) w1.drew d t (.iface 248 (.pointer (some p)))):=⟨grown_trans HG1.out.1 (grown_below (Below.refl _ _).drew),HG1.out.2.1,HG1.out.2.2.1.below (Below.refl _ _).drew,HG1.out.2.2.2.below (Below.refl _ _).drew⟩
         clear HS1 HG1 HNd g1 hgl1
         generalize w1.drew=w2 at HS2 HG2 ⊢
         obtain ⟨i0,hi,hz0,hz1,hz2⟩:=info_parts Tryz.info187
         have HI:Hid (Tryz.prog.info? 187=some i0/\i0.zero=some .nilIface/\i0.size=1/\i0.bytes=16):=⟨hi,hz0,hz1,hz2⟩
         clear hi hz0 hz1 hz2
         have n1:=HS2.out.nbx.cell 1
         have nf:=HS2.out.nbx.frozen 1
         have nl:=HS2.out.nbx.lt
         simp at n1
         have HO:Hid ((w2.alloc (.cells #[.iface 248 (.pointer (some p))] 187)).ownsRow (w.heap.size+1+1) 187 1 (.slice ca k cc) k xs):=own_below HS2.out.own (below_alloc _ _)
         go_wp2_with (at_builtin;refine wpList_append_own_at _ rfl _ _ 249 rfl (w.heap.size+1+1) 187 i0 .nilIface 1 16 Tryz.underlying249 HI.out.1 HI.out.2.1 HI.out.2.2.1 HI.out.2.2.2 rfl (by decide) (.slice ca k cc) k xs rfl HO.out ⟨w2.heap.size,0,none⟩ 1 1 [.iface 248 (.pointer (some p))] rfl rfl (cell_one_new _ _ _) (by intro u hu;simp at hu;subst hu;rfl) (by unfold maxLen;omega) (by omega) (by simp;omega) ?_)
         intro v' w5 ho hg _ hat
         obtain ⟨a5,c5,rfl,_⟩:=own_form ho
         have hx5:=(HS2.out.nbx.alloc (.cells #[.iface 248 (.pointer (some p))] 187)).grown hg (fun e=>by have:=own_lt HS2.out.own _ e;omega)
         have u1:=hx5.cell 1
         have uf:=hx5.frozen 1
         have ul:=hx5.lt
         simp at u1
         have HX:Hid (InSt w (w5.setCell ⟨w.heap.size+1,1,none⟩ (.slice a5 (k+1) c5)) rb (w.heap.size+1) #[.bool false,.slice (some ⟨bk,oo,none⟩) m kc,.slice (some ⟨bd,od,none⟩) dn dc,.int .i64 ct] d (ts++[t]) (k+1) a5 c5 (xs++[.iface 248 (.pointer (some p))])/\RBx (w5.setCell ⟨w.heap.size+1,1,none⟩ (.slice a5 (k+1) c5)) rb b o n c (x+1+((ts++[t]).map (nodesR d)).sum) D' lk' hk'):=by
          refine ⟨HST.out.1.grow HG2.out.1 HG2.out.2.2.2 hg ho (by simpa using hat),?_⟩
          have q:=((HG2.out.2.2.1.alloc (.cells #[.iface 248 (.pointer (some p))] 187)).grown hg (fun e=>by have:=own_lt HS2.out.own _ e;have:=HST.out.1.rlt;omega)).other (p:=⟨w.heap.size+1,1,none⟩) (by simp;have:=HST.out.1.rlt;omega) (.slice a5 (k+1) c5)
          have e:x+1+(ts.map (nodesR d)).sum+nodesR d t=x+1+((ts++[t]).map (nodesR d)).sum:=by
           rw [List.map_append,List.sum_append]
           simp
           omega
          rw [<- e]
          exact q
         clear ho hg hat hx5 HO HST HS2 HG2 n1 nf nl
         go_wp2
         go_roundw
         case rel=>exact ⟨k+1,ts++[t],D',hk',lk',a5,c5,_,by omega,by go_num,HX.out.1,HX.out.2,HKG2.out⟩
         case measure=>simp [intOf];omega
        ·have HNG:Hid (¬ (∃(t:Ro (d+1)) (D' : Int) (hk' : Bool) (lk' : ByteArray),Good N n x dep D hk lk (d+1) t D' hk' lk')):=by
          rintro ⟨t2,D2,hk2,lk2,g⟩
          obtain ⟨l,rfl,e1,_⟩:=HGI.out t2 D2 hk2 lk2 g
          have hlt2:ts.length<l.length:=by rw [HST.out.1.len,e1,HEq.out.2.1];exact hlt
          obtain ⟨_,q2,h2,l2,q3⟩:=good_next hd0 g HKG.out hlt2
          have e:=tells_uniq _ _ _ q3.tl HG1.out.2.1.tl
          have hkl:=HST.out.1.len
          have hkp:=HP0.out
          have q:(N x).ks p0=gt (keysR d t) 0:=by
           rw [<- e,<- q2 (by omega),show ts.length-1=p0 by omega]
          exact hseq q.symm
         have hsq:((gt (keysR d t) 0).toList == ((N x).ks p0).toList)=false:=by
          rw [beq_eq_false_iff_ne]
          exact fun h=>hseq (str_inj h)
         have hsq2:(!((gt (keysR d t) 0).toList == ((N x).ks p0).toList))=true:=by rw [hsq];rfl
         go_wp2
         go_region_held3 (fun w'=>w'.cell? ⟨w.heap.size,1,none⟩=some (.slice (some ⟨bk,oo,none⟩) m kc)/\w'.cell? ⟨bk,oo+p0,none⟩=some (.string ((N x).ks p0))) (go_keep) (first|(go_at_call 184;refine (HL.out _ (by first|exact Below.refl _ _|exact (Below.refl _ _).drew)).mono ?_;rintro e w6 ⟨rfl,rfl⟩)|fail)
         go_wp2
         refine bodyPost_ret (v:=.tuple #[.nilIface,.bool false]) (by simp [results,Tryz.results138,go_sem]) rfl (HNo.out _ (grown_trans (grown_trans HST.out.1.gr HG1.out.1) (grown_below (Below.refl _ _).drew)) HNG.out _)

    ·have HNG:Hid (¬ (∃(t:Ro (d+1)) (D' : Int) (hk' : Bool) (lk' : ByteArray),Good N n x dep D hk lk (d+1) t D' hk' lk')):=by
      rintro ⟨t2,D2,hk2,lk2,g⟩
      obtain ⟨l,rfl,e1,_⟩:=HGI.out t2 D2 hk2 lk2 g
      have hlt2:ts.length<l.length:=by rw [HST.out.1.len,e1,HEq.out.2.1];exact hlt
      obtain ⟨q1,_⟩:=good_next hd0 g HKG.out hlt2
      rw [HST.out.1.len,<- HY.out] at q1
      exact hnum q1
     have hnn:((N x).kd k != (y:Int))=true:=by simpa using hnum
     go_wp2
     refine bodyPost_ret (v:=.tuple #[.nilIface,.bool false]) (by simp [results,Tryz.results138,go_sem]) rfl (HNo.out _ HST.out.1.gr HNG.out _)
   ·have e:k=dn:=by omega
    subst e
    have hlen:=HST.out.1.len
    have hk2:k≠0:=by omega
    obtain ⟨a6,c6,e6,hfo⟩:=own_form HST.out.1.own
    obtain ⟨g,eg,hg1,hg2,hg3⟩:=hfo hk2
    injection e6 with e6 e62 e63
    clear e62 e63
    rw [<- e6] at eg
    subst eg
    obtain ⟨h',hball,hDk,hDD⟩:∃h' : Nat,(∀t,t∈ts->BalR d false t h')/\Dk=dep+1+(h' : Int)/\(D=0\/D=Dk):=by
     rcases HKG.out.bal with ⟨e,_⟩|⟨_,e⟩
     ·rw [e] at hlen;simp at hlen;omega
     ·exact e
    have HB:Hid ((∀t,t∈ts->BalR d false t h')/\Dk=dep+1+(h' : Int)/\(D=0\/D=Dk)):=⟨hball,hDk,hDD⟩
    have HLen:Hid (ts.length=k/\(ts.flatMap (keysR d)).length<=1099511627776):=by
     refine ⟨hlen,?_⟩
     have h1:=flat_fit (M:=4) (keysR d) (nodesR d) ts (fun t ht=>fit_len (bal_fit (hball t ht)))
     have h2:=HKG.out.le
     omega
    have HRec:Hid (Calls Tryz.prog 148 #[.pointer (some ⟨w.heap.size+1,0,none⟩)] wr fun e w'=>e=.returned (.tuple #[])/\wr.grownBy w' (some (w.heap.size+1))/\w'.heap.size=wr.heap.size/\Bx w' (w.heap.size+1) 251 #[.int .i64 ((ts.flatMap (keysR d)).length:Int),.slice (some ⟨g,0,none⟩) k cc]):=
     recountInner_any d (w.heap.size+1) g k cc ts 0 _ xs wr HST.out.1.nbx hlen.symm (by omega) HLen.out.2 hg3 (by omega) (fun q=>by have:=q.1;omega) HST.out.1.kids
    have HGc:Hid (∀j u,xs[j]?=some u->wr.cell? ⟨g,j,none⟩=some u):=hg3
    clear hfo hg3 hball hDk hDD e6 hlen
    go_wp2_with fail
    refine HRec.out.mono ?_
    rintro e w2 ⟨rfl,hgr2,hsz2,hbx2⟩
    obtain ⟨A,hA⟩:∃A:Int,A=((ts.flatMap (keysR d)).length:Int):=⟨_,rfl⟩
    rw [<- hA] at hbx2
    have HA:Hid (A=((ts.flatMap (keysR d)).length:Int)):=hA
    have hrlt:=HST.out.1.rlt
    have HF:Hid (wr.grownBy w2 (some (w.heap.size+1))/\w2.heap.size=wr.heap.size/\Bx w2 (w.heap.size+1) 251 #[.int .i64 A,.slice (some ⟨g,0,none⟩) k cc]):=⟨hgr2,hsz2,hbx2⟩
    have HFr:Hid (w.grownBy w2.drew (some rb)/\RBx w2.drew rb b o n c (x+1+(ts.map (nodesR d)).sum) Dk lkk hkk):=by
     have hgw:=HST.out.1.gr.size
     have hnl:=HST.out.1.nbx.lt
     have q:RBx w2 rb b o n c (x+1+(ts.map (nodesR d)).sum) Dk lkk hkk:=HST.out.2.grown hgr2 (fun e=>by injection e with e;omega)
     refine ⟨⟨hgr2.os.trans HST.out.1.gr.os,hgr2.tape.trans HST.out.1.gr.tape,hgr2.output.trans HST.out.1.gr.output,Nat.le_trans hgw hgr2.size,fun bb hbb hne=>?_⟩,q.drew⟩
     exact (hgr2.block bb (by omega) (fun e=>by injection e with e;omega)).trans (HST.out.1.gr.block bb hbb hne)
    have z0:=hbx2.cell 0
    have g3:=(HST.out.1.gb.grown hgr2 (fun e=>by injection e with e;omega)).cell 3
    simp at z0 g3
    clear hgr2 hsz2 hbx2 hA
    have HBel:Hid (∀W:World,W.cell? ⟨w.heap.size+1,0,none⟩=some (.int .i64 A)->Calls Tryz.prog 147 #[.pointer (some ⟨w.heap.size+1,0,none⟩)] W fun e w'=>e=.returned (.int .i64 A)/\w'=W):=fun W hW=>below_any (w.heap.size+1) A W hW
    by_cases hctA:ct=A
    ·subst hctA
     have hq:(ct == ct)=true:=by simp
     have HGood:Hid (Good N n x dep D hk lk (d+1) (.inr ts) Dk hkk lkk):=by
      have hkg:=HKG.out
      obtain ⟨q1,q2,q3⟩:=HEq.out
      refine ⟨⟨HLf.out,by rw [q2,HLen.out.1],by rw [q3,HA.out],by rw [q1,HLen.out.1];exact H3.out,fun j hj=>by rw [hkg.kd j hj];omega,fun j hj=>hkg.ks j hj,fun j hj=>hkg.tl j hj⟩,?_,⟨h'+1,⟨by rw [HLen.out.1];omega,by rw [HLen.out.1];omega,h',rfl,HB.out.1⟩,by have:=HB.out.2.1;omega⟩,HB.out.2.2,hkg.asc⟩
      have e:nodesR (d+1) (.inr ts)=1+(ts.map (nodesR d)).sum:=rfl
      have:=hkg.le
      omega
     have HTA:Hid (TAt (fun bb=>w.heap.size<=bb) w2.drew (d+1) (.inr ts) (.iface 248 (.pointer (some ⟨w.heap.size+1,0,none⟩)))):=by
      have hz2:=HF.out.2.1
      refine ⟨w.heap.size+1,g,cc,xs,rfl,by omega,?_,by omega,?_,by rw [HLen.out.1];omega,fun j u hj=>?_,fun j hj=>?_⟩
      ·rw [<- HA.out,HLen.out.1]
       exact HF.out.2.2
      ·rw [HLen.out.1]
       exact ⟨by show g<w2.heap.size;omega,own_cap HST.out.1.own⟩
      ·exact HF.out.1.cell (HGc.out j u hj) (fun e=>by injection e with e;have e' : g=w.heap.size+1:=e;omega)
      ·obtain ⟨u,eu,ht⟩:=HST.out.1.kids j hj
       refine ⟨u,eu,ht.mono (w':=w2.drew) (by show wr.heap.size<=w2.heap.size;omega) (fun bb hs hlt=>⟨by have:=hs.1;omega,?_⟩)⟩
       exact HF.out.1.block bb hlt (fun e=>by injection e with e;have:=hs.1;omega)
     go_upto_region 16 with fail
     go_region_held3 (fun w'=>w'.cell? ⟨w.heap.size+1,0,none⟩=some (.int .i64 ct)/\w'.cell? ⟨w.heap.size,3,none⟩=some (.int .i64 ct)) (go_keep) (first|(go_at_call 147;refine (HBel.out _ (by simpa using z0)).mono ?_;rintro e w6 ⟨rfl,rfl⟩)|fail)
     go_wp2
     refine bodyPost_ret (v:=.tuple #[.iface 248 (.pointer (some ⟨w.heap.size+1,0,none⟩)),.bool true]) (by simp [results,Tryz.results138,go_sem]) rfl ⟨HFr.out.1,_,true,rfl,.inl ⟨rfl,.inr ts,Dk,hkk,lkk,HGood.out,?_,HTA.out⟩⟩
     have e:x+nodesR (d+1) (.inr ts)=x+1+(ts.map (nodesR d)).sum:=by
      have e:nodesR (d+1) (.inr ts)=1+(ts.map (nodesR d)).sum:=rfl
      omega
     rw [e]
     exact HFr.out.2
    ·have hq:(A == ct)=false:=by simpa using fun e=>hctA (Eq.symm e)
     have HNG:Hid (¬ (∃(t:Ro (d+1)) (D' : Int) (hk' : Bool) (lk' : ByteArray),Good N n x dep D hk lk (d+1) t D' hk' lk')):=by
      rintro ⟨t2,D2,hk2,lk2,gg⟩
      obtain ⟨l,rfl,e1,_,_,_,e5⟩:=HGI.out t2 D2 hk2 lk2 gg
      have hl:ts.length=l.length:=by rw [HLen.out.1,e1,HEq.out.2.1]
      have hp:=good_prefix gg HKG.out (by omega)
      rw [hl,List.take_length] at hp
      subst hp
      rw [HEq.out.2.2,<- HA.out] at e5
      exact hctA e5
     go_upto_region 16 with fail
     go_region_held3 (fun w'=>w'.cell? ⟨w.heap.size+1,0,none⟩=some (.int .i64 A)/\w'.cell? ⟨w.heap.size,3,none⟩=some (.int .i64 ct)) (go_keep) (first|(go_at_call 147;refine (HBel.out _ (by simpa using z0)).mono ?_;rintro e w6 ⟨rfl,rfl⟩)|fail)
     go_wp2
     refine bodyPost_ret (v:=.tuple #[.iface 248 (.pointer (some ⟨w.heap.size+1,0,none⟩)),.bool false]) (by simp [results,Tryz.results138,go_sem]) rfl (HNo.out _ HFr.out.1 HNG.out _)
end Go.Proofs.YtpaomghibppgkaaGreat
