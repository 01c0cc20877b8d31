import Derived.Test.YtcnollkkigiobaaGreatNd8
import Derived.Test.YtcnollkkigiobaaGreatNd1
import Derived.Test.YtcnollkkigiobaaGreatNd7
set_option linter.unusedVariables false
set_option maxRecDepth 100000
namespace Go.Proofs.YtcnollkkigiobaaGreat
open Go.RowKit Go.Deep

def TOw (B:Nat) (w:World):(d:Nat)->Ro d->Value->List Nat->Prop
 | 0,_,_,_=>False
 | d+1,.inl t,v,bs=>∃b ka kc,v=.iface 204 (.pointer (some ⟨b,0,none⟩))/\B<=b/\Bx w b 206 #[.int .i64 (t.length:Int),.slice ka t.length kc]/\w.ownsRow B 9 1 (.slice ka t.length kc) t.length (strL t)/\bs=b::(ka.map (·.block)).toList
 | d
  + 1,.inr l,v,bs=>∃(b g kc:Nat) (xs:List Value) (bss:List (List Nat)),v=.iface 174 (.pointer (some ⟨b,0,none⟩))/\B<=b/\Bx w b 179 #[.int .i64 ((l.flatMap (keysR d)).length:Int),.slice (some ⟨g,0,none⟩) l.length kc]/\w.ownsRow B 68 1 (.slice (some ⟨g,0,none⟩) l.length kc) l.length xs/\0<l.length/\bss.length=l.length/\bs=b::g::bss.flatten/\
  ∀k (h:k<l.length),∃u us,xs[k]?=some u/\bss[k]?=some us/\TOw B w d l[k] u us

theorem own_keep {w w' : World} {B:Nat} {e:TypeId} {size:Nat} {v:Value} {n:Nat} {xs:List Value} (h:w.ownsRow B e size v n xs) (hk:∀g,v.ownBlock=some g->w'.heap[g]?=w.heap[g]?):w'.ownsRow B e size v n xs:=by
 refine ⟨h.1,?_⟩
 rcases h.2 with q|⟨g,cap,cur,q1,q2,q3,q4⟩
 ·exact .inl q
 ·exact .inr ⟨g,cap,cur,q1,q2,(hk g (by rw [q1];rfl)).trans q3,q4⟩

theorem TOw.keep {B:Nat} {w w' : World}:∀{d:Nat} {t:Ro d} {v:Value} {bs:List Nat},TOw B w d t v bs->(∀b,b∈bs->w'.heap[b]?=w.heap[b]?)->TOw B w' d t v bs
 | 0,_,_,_,h,_=>h
 | d+1,.inl t,v,bs,h,hk=>by
  obtain ⟨b,ka,kc,rfl,hB,hx,ho,rfl⟩:=h
  refine ⟨b,ka,kc,rfl,hB,hx.of_block (hk b (by simp)),own_keep ho (fun g e=>hk g ?_),rfl⟩
  cases ka with
  | none=>cases e
  | some p=>
   injection e with e
   subst e
   simp
 | d+1,.inr l,v,bs,h,hk=>by
  obtain ⟨b,g,kc,xs,bss,rfl,hB,hx,ho,hl,hbl,rfl,hall⟩:=h
  refine ⟨b,g,kc,xs,bss,rfl,hB,hx.of_block (hk b (by simp)),own_keep ho (fun g' e=>hk g' ?_),hl,hbl,rfl,fun k h=>?_⟩
  ·injection e with e
   subst e
   simp
  ·obtain ⟨u,us,e1,e2,e3⟩:=hall k h
   refine ⟨u,us,e1,e2,TOw.keep e3 (fun b' hb'=>hk b' ?_)⟩
   have:us∈bss:=List.mem_of_getElem? e2
   simp only [List.mem_cons,List.mem_flatten]
   exact .inr (.inr ⟨us,this,hb'⟩)

theorem TOw.lt {B:Nat} {w:World}:∀{d:Nat} {t:Ro d} {v:Value} {bs:List Nat},TOw B w d t v bs->∀b,b∈bs->B<=b/\b<w.heap.size
 | 0,_,_,_,h,_,_=>h.elim
 | d+1,.inl t,v,bs,h,b',hb'=>by
  obtain ⟨b,ka,kc,rfl,hB,hx,ho,rfl⟩:=h
  rw [List.mem_cons] at hb'
  rcases hb' with rfl|hb'
  ·exact ⟨hB,hx.lt⟩
  ·cases ka with
   | none=>simp at hb'
   | some p=>
    simp at hb'
    exact own_lt ho b' (by rw [hb'];rfl)
 | d+1,.inr l,v,bs,h,b',hb'=>by
  obtain ⟨b,g,kc,xs,bss,rfl,hB,hx,ho,hl,hbl,rfl,hall⟩:=h
  rw [List.mem_cons,List.mem_cons] at hb'
  rcases hb' with rfl|rfl|hb'
  ·exact ⟨hB,hx.lt⟩
  ·exact own_lt ho b' rfl
  ·rw [List.mem_flatten] at hb'
   obtain ⟨us,h1,h2⟩:=hb'
   obtain ⟨k,hk,e⟩:=List.getElem_of_mem h1
   obtain ⟨u,us',e1,e2,e3⟩:=hall k (by omega)
   rw [List.getElem?_eq_getElem hk,e] at e2
   injection e2 with e2
   subst e2
   exact TOw.lt e3 b' h2

theorem TOw.below {B:Nat} {w w' : World} {d:Nat} {t:Ro d} {v:Value} {bs:List Nat} (h:TOw B w d t v bs) (hb:Below w.heap.size w w'):TOw B w' d t v bs:=h.keep (fun b hm=>hb.block b (h.lt b hm).2)

theorem TOw.tat {B:Nat} {w:World}:∀{d:Nat} {t:Ro d} {v:Value} {bs:List Nat},TOw B w d t v bs->TAt (fun b=>b∈bs) w d t v
 | 0,_,_,_,h=>h.elim
 | d+1,.inl t,v,bs,h=>by
  obtain ⟨b,ka,kc,rfl,hB,hx,ho,rfl⟩:=h
  refine ⟨b,ka,kc,rfl,by simp,hx,?_⟩
  rcases ho.2 with ⟨q,q0⟩|⟨g,cap,cur,q1,q2,q3,q4⟩
  ·exact .inl q0
  ·injection q1 with q1 _ q5
   subst q1 q5
   refine .inr ⟨g,rfl,by simp,(own_lt ho g rfl).2,fun i hi=>?_⟩
   rw [ho.cellAt i (by omega),strL_get t i hi]
 | d+1,.inr l,v,bs,h=>by
  obtain ⟨b,g,kc,xs,bss,rfl,hB,hx,ho,hl,hbl,rfl,hall⟩:=h
  have hc:=own_cap ho
  refine ⟨b,g,kc,xs,rfl,by simp,hx,by simp,⟨(own_lt ho g rfl).2,hc.1,hc.2⟩,hl,fun j u hj=>?_,fun k h=>?_⟩
  ·have hjl:=(List.getElem?_eq_some_iff.1 hj).1
   rw [ho.1] at hjl
   rw [ho.cellAt j hjl]
   exact hj
  ·obtain ⟨u,us,e1,e2,e3⟩:=hall k h
   refine ⟨u,e1,TAt.mono (Nat.le_refl _) (fun b' hb' _=>⟨?_,rfl⟩) (TOw.tat e3)⟩
   have:us∈bss:=List.mem_of_getElem? e2
   simp only [List.mem_cons,List.mem_flatten]
   exact .inr (.inr ⟨us,this,hb'⟩)

def UsedT (v:Value) (n:Nat) (N:Nat->Tn) (KA DA:Nat->Option Addr) (x:Nat):Prop:=
 v.ownBlock=some x\/(∃i,i<n/\(N i).kn≠0/\KA i=some ⟨x,0,none⟩)\/(∃i,i<n/\(N i).dn≠0/\DA i=some ⟨x,0,none⟩)
structure GT (w:World) (B:Nat) (v:Value) (n:Nat) (N:Nat->Tn) (KA DA:Nat->Option Addr) (KC DC:Nat->Nat):Prop where
 row:w.ownsRow B 168 4 v n ((List.range (n*4)).map (tnCell N KA DA KC DC))
 keys:∀i,i<n->OwnS w B (KA i) (N i).kn (N i).ks
 kids:∀i,i<n->OwnI w B (DA i) (N i).dn (N i).kd
 apartK:∀i j,i<n->j<n->i≠j->(N i).kn≠0->(N j).kn≠0->KA i≠KA j
 apartD:∀i j,i<n->j<n->i≠j->(N i).dn≠0->(N j).dn≠0->DA i≠DA j

theorem GT.keep {w w' : World} {B:Nat} {v:Value} {n:Nat} {N:Nat->Tn} {KA DA:Nat->Option Addr} {KC DC:Nat->Nat} (h:GT w B v n N KA DA KC DC) (hk:∀x,UsedT v n N KA DA x->w'.heap[x]?=w.heap[x]?):GT w' B v n N KA DA KC DC:=by
 refine ⟨own_keep h.row (fun g e=>hk g (.inl e)),fun i hi=>?_,fun i hi=>?_,h.apartK,h.apartD⟩
 ·rcases h.keys i hi with q|⟨g,e,hg,hr⟩
  ·exact .inl q
  ·by_cases h0:(N i).kn=0
   ·exact .inl h0
   ·exact .inr ⟨g,e,hg,hr.of_block (hk g (.inr (.inl ⟨i,hi,h0,e⟩)))⟩
 ·rcases h.kids i hi with q|⟨g,e,hg,hr⟩
  ·exact .inl q
  ·by_cases h0:(N i).dn=0
   ·exact .inl h0
   ·exact .inr ⟨g,e,hg,hr.of_block (hk g (.inr (.inr ⟨i,hi,h0,e⟩)))⟩

theorem GT.used {w:World} {B:Nat} {v:Value} {n:Nat} {N:Nat->Tn} {KA DA:Nat->Option Addr} {KC DC:Nat->Nat} (h:GT w B v n N KA DA KC DC) {x:Nat} (hx:UsedT v n N KA DA x):B<=x/\x<w.heap.size:=by
 rcases hx with hx|⟨i,hi,h0,e⟩|⟨i,hi,h0,e⟩
 ·exact own_lt h.row x hx
 ·rcases h.keys i hi with q|⟨g,e',hg,hr⟩
  ·exact absurd q h0
  ·rw [e] at e'
   injection e' with e'
   injection e' with e'
   subst e'
   exact ⟨hg,hr.lt⟩
 ·rcases h.kids i hi with q|⟨g,e',hg,hr⟩
  ·exact absurd q h0
  ·rw [e] at e'
   injection e' with e'
   injection e' with e'
   subst e'
   exact ⟨hg,hr.lt⟩
theorem GT.below {w w' : World} {B:Nat} {v:Value} {n:Nat} {N:Nat->Tn} {KA DA:Nat->Option Addr} {KC DC:Nat->Nat} (h:GT w B v n N KA DA KC DC) (hb:Below w.heap.size w w'):GT w' B v n N KA DA KC DC:=h.keep (fun x hx=>hb.block x (h.used hx).2)

theorem row_not {w:World} {B:Nat} {e t:TypeId} {sz n m:Nat} {v:Value} {xs:List Value} {f:Nat->Value} {g:Nat} (ho:w.ownsRow B e sz v n xs) (hr:rowIn w g t m f) (hne:e≠t):v.ownBlock≠some g:=by
 intro q
 rcases ho.2 with ⟨rfl,_⟩|⟨g',cap,cur,rfl,hb,hh,_⟩
 ·cases q
 ·injection q with q
  have q' : g'=g:=q
  subst q'
  obtain ⟨c,hc,_⟩:=hr
  rw [hh] at hc
  injection hc with hc
  injection hc with _ hc _
  exact hne hc

theorem GT.push {w w' : World} {B:Nat} {v v' : Value} {n:Nat} {N:Nat->Tn} {KA DA:Nat->Option Addr} {KC DC:Nat->Nat} (h:GT w B v n N KA DA KC DC) (x:Tn) (ka da:Option Addr) (kc dc:Nat) (hk:OwnS w B ka x.kn x.ks) (hd:OwnI w B da x.dn x.kd) (hka:∀i,i<n->(N i).kn≠0->x.kn≠0->KA i≠ka) (hda:∀i,i<n->(N i).dn≠0->x.dn≠0->DA i≠da)
  (ho:w'.ownsRow B 168 4 v' (n+1) ((List.range (n*4)).map (tnCell N KA DA KC DC)++[.bool x.lf,.slice ka x.kn kc,.slice da x.dn dc,.int .i64 x.ct])) (hg:w.grownBy w' v.ownBlock) :
  GT w' B v' (n+1) (fun i=>if i=n then x else N i) (fun i=>if i=n then ka else KA i) (fun i=>if i=n then da else DA i) (fun i=>if i=n then kc else KC i) (fun i=>if i=n then dc else DC i):=by
 have hS:∀(a:Option Addr) (m:Nat) (X:Nat->ByteArray),OwnS w B a m X->OwnS w' B a m X:=by
  intro a m X q
  rcases q with q|⟨g,rfl,hgB,hr⟩
  ·exact .inl q
  ·exact .inr ⟨g,rfl,hgB,hr.of_block (hg.block g hr.lt (fun e=>row_not h.row hr (by decide) e.symm))⟩
 have hI:∀(a:Option Addr) (m:Nat) (X:Nat->Int),OwnI w B a m X->OwnI w' B a m X:=by
  intro a m X q
  rcases q with q|⟨g,rfl,hgB,hr⟩
  ·exact .inl q
  ·exact .inr ⟨g,rfl,hgB,hr.of_block (hg.block g hr.lt (fun e=>row_not h.row hr (by decide) e.symm))⟩
 refine ⟨?_,fun i hi=>?_,fun i hi=>?_,fun i j hi hj hij h1 h2=>?_,fun i j hi hj hij h1 h2=>?_⟩
 ·have e:(List.range ((n+1)*4)).map (tnCell (fun i=>if i=n then x else N i) (fun i=>if i=n then ka else KA i) (fun i=>if i=n then da else DA i) (fun i=>if i=n then kc else KC i) (fun i=>if i=n then dc else DC i))=(List.range (n*4)).map (tnCell N KA DA KC DC)++[.bool x.lf,.slice ka x.kn kc,.slice da x.dn dc,.int .i64 x.ct]:=by
   rw [show (n+1)*4=n*4+1+1+1+1 by omega,List.range_succ,List.range_succ,List.range_succ,List.range_succ]
   simp only [List.map_append,List.map_cons,List.map_nil,List.append_assoc,List.cons_append,List.nil_append]
   rw [show n*4+1+1+1=n*4+3 by omega,show n*4+1+1=n*4+2 by omega,tnCell_0,tnCell_1,tnCell_2,tnCell_3]
   simp only [if_true]
   congr 1
   refine List.map_congr_left (fun c hc=>?_)
   have hc' : c<n*4:=List.mem_range.1 hc
   unfold tnCell
   have:c / 4≠n:=by omega
   simp only [this,if_false]
  rw [e]
  exact ho
 ·by_cases e:i=n
  ·subst e;simp only [if_true];exact hS _ _ _ hk
  ·simp only [e,if_false];exact hS _ _ _ (h.keys i (by omega))
 ·by_cases e:i=n
  ·subst e;simp only [if_true];exact hI _ _ _ hd
  ·simp only [e,if_false];exact hI _ _ _ (h.kids i (by omega))
 ·by_cases e1:i=n
  ·have e2:j≠n:=by omega
   subst e1
   simp only [if_true,e2,if_false] at h1 h2 ⊢
   exact fun q=>hka j (by omega) h2 h1 q.symm
  ·by_cases e2:j=n
   ·subst e2
    simp only [if_true,e1,if_false] at h1 h2 ⊢
    exact hka i (by omega) h1 h2
   ·simp only [e1,e2,if_false] at h1 h2 ⊢
    exact h.apartK i j (by omega) (by omega) hij h1 h2
 ·by_cases e1:i=n
  ·have e2:j≠n:=by omega
   subst e1
   simp only [if_true,e2,if_false] at h1 h2 ⊢
   exact fun q=>hda j (by omega) h2 h1 q.symm
  ·by_cases e2:j=n
   ·subst e2
    simp only [if_true,e1,if_false] at h1 h2 ⊢
    exact hda i (by omega) h1 h2
   ·simp only [e1,e2,if_false] at h1 h2 ⊢
    exact h.apartD i j (by omega) (by omega) hij h1 h2

theorem grown_set (w:World) (b i:Nat) (v:Value):w.grownBy (w.setCell ⟨b,i,none⟩ v) (some b):=
 ⟨rfl,rfl,rfl,by simp [World.setCell],fun k hk hne=>Below.heap_setCell _ _ _ _ (fun e=>hne (by rw [e]))⟩
theorem grown_refl (w:World) (r:Option Nat):w.grownBy w r:=⟨rfl,rfl,rfl,Nat.le_refl _,fun _ _ _=>rfl⟩
theorem grown_trans {w w1 w2:World} {r:Option Nat} (h:w.grownBy w1 r) (g:w1.grownBy w2 r):w.grownBy w2 r:=
 ⟨g.os.trans h.os,g.tape.trans h.tape,g.output.trans h.output,Nat.le_trans h.size g.size,fun k hk hne=>(g.block k (Nat.lt_of_lt_of_le hk h.size) hne).trans (h.block k hk hne)⟩
theorem grown_below {w w1:World} {r:Option Nat} (h:Below w.heap.size w w1):w.grownBy w1 r:=⟨h.os,h.tape,h.output,h.size,fun k hk _=>h.block k hk⟩
theorem below_grown {B:Nat} {w w1:World} {r:Nat} (h:w.grownBy w1 (some r)) (hB:B<=w.heap.size) (hr:B<=r):Below B w w1:=⟨h.os,h.tape,h.output,h.size,fun k hk=>h.block k (by omega) (fun e=>by injection e with e;omega)⟩

def RetLd (rb b o n c x:Nat) (dep D:Int) (lk:ByteArray) (hk:Bool) (w:World) (e:Ending) (w' : World):Prop:=
 ∃ok,e=.returned (.bool ok)/\w.grownBy w' (some rb)/\w'.heap.size=w.heap.size/\((ok=true/\(D=0\/D=dep)/\RBx w' rb b o n c x dep lk hk)\/(ok=false/\¬ (D=0\/D=dep)))

def RetPk (rb b o n c x:Nat) (D:Int) (lk:ByteArray) (hk:Bool) (L:List ByteArray) (w:World) (e:Ending) (w' : World):Prop:=
 ∃ok,e=.returned (.bool ok)/\w.grownBy w' (some rb)/\w'.heap.size=w.heap.size/\((ok=true/\∃hk' lk',Chain hk lk L hk' lk'/\RBx w' rb b o n c x D lk' hk')\/(ok=false/\∀hk' lk',¬ Chain hk lk L hk' lk'))

set_option maxHeartbeats 1000000 in
theorem leafDepth_any (rb b o n c x:Nat) (dep D:Int) (lk:ByteArray) (hk:Bool) (w:World) (h:RBx w rb b o n c x D lk hk) (hd:0<=dep) :
  Calls Tryz.prog 154 #[.pointer (some ⟨rb,0,none⟩),.int .i64 dep] w (RetLd rb b o n c x dep D lk hk w):=by
 have c2:=h.cell 2
 have f2:=h.frozen 2
 have hl:=h.lt
 simp at c2
 have HR:Hid (RBx w rb b o n c x D lk hk):=h
 clear h
 by_cases h0:D=0
 ·subst h0
  have hq:((0:Int) == 0)=true:=rfl
  have HX:Hid (RBx (w.setCell ⟨rb,2,none⟩ (.int .i64 dep)) rb b o n c x dep lk hk):=HR.out.set 2 _
  have c3:=HX.out.cell 2
  simp at c3
  go_enter Tryz.func154,Tryz.ntmps154
  go_wp2
  go_ret
  exact ⟨true,by simp,grown_set _ _ _ _,by simp [World.setCell],.inl ⟨rfl,.inl rfl,HX.out⟩⟩
 ·have hq:(D == 0)=false:=by simpa using h0
  by_cases h1:D=dep
  ·subst h1
   have hq1:(D == D)=true:=by simp
   go_enter Tryz.func154,Tryz.ntmps154
   go_wp2
   go_ret
   exact ⟨true,by simp,grown_refl _ _,rfl,.inl ⟨rfl,.inr rfl,HR.out⟩⟩
  ·have hq1:(D == dep)=false:=by simpa using h1
   go_enter Tryz.func154,Tryz.ntmps154
   go_wp2
   go_ret
   exact ⟨false,by simp,grown_refl _ _,rfl,.inr ⟨rfl,fun h=>h.elim h0 h1⟩⟩

theorem chain_take {L:List ByteArray} {k:Nat} (h:k<L.length):L.take (k+1)=L.take k++[gt L k]:=by
 rw [<- List.take_append_getElem h]
 unfold gt
 rw [List.getD_eq_getElem?_getD,List.getElem?_eq_getElem h]
 rfl

theorem chain_stop {hk h1:Bool} {lk l1:ByteArray} {L:List ByteArray} {k:Nat} (h:Chain hk lk (L.take k) h1 l1) (hlt:k<L.length) (hbad:¬ ((gt L k).size<=16/\(h1=true->Op.bytesLess l1.toList (gt L k).toList=true))) (h2:Bool) (l2:ByteArray):¬ Chain hk lk L h2 l2:=by
 intro hc
 have e:L=L.take k++(gt L k::L.drop (k+1)):=by
  conv=>lhs;rw [<- List.take_append_drop (k+1) L,chain_take hlt]
  simp
 rw [e] at hc
 obtain ⟨h3,l3,q1,q2⟩:=Chain.split hc
 obtain ⟨rfl,rfl⟩:=Chain.fn h q1
 exact hbad ⟨q2.1,q2.2.1⟩

set_option maxHeartbeats 4000000 in
theorem passKeys_any (rb b o n c x m kc:Nat) (ka:Option Addr) (D:Int) (lk:ByteArray) (hk:Bool) (L:List ByteArray) (w:World) (h:RBx w rb b o n c x D lk hk) (hm:m=L.length) (hm2:m<=1048576) (hr:∀W:World,w.grownBy W (some rb)->RdS W ka m (gt L)) :
  Calls Tryz.prog 155 #[.pointer (some ⟨rb,0,none⟩),.slice ka m kc] w (RetPk rb b o n c x D lk hk L w):=by
 have HR:Hid (∀W:World,w.grownBy W (some rb)->RdS W ka m (gt L)):=hr
 have HM:Hid (m=L.length):=hm
 have H0:Hid (RBx w rb b o n c x D lk hk):=h
 clear h hm hr
 go_enter Tryz.func155,Tryz.ntmps155
 go_wp2
 go_loopw [9] (fun i wr=>∃(k:Nat) (h1:Bool) (l1:ByteArray),k<=m/\i=.int .i64 k/\w.grownBy wr (some rb)/\wr.heap.size=w.heap.size/\Chain hk lk (L.take k) h1 l1/\RBx wr rb b o n c x D l1 h1) (fun i _=>m-(intOf i).toNat)
 case atStart=>exact ⟨0,hk,lk,Nat.zero_le _,rfl,grown_refl _ _,rfl,⟨rfl,rfl⟩,H0.out⟩
 case round=>
  obtain ⟨k,h1,l1,hkm,rfl,hgr,hsz,hch,hbx⟩:=hrel
  clear H0
  have HG:Hid (w.grownBy wr (some rb)/\wr.heap.size=w.heap.size/\Chain hk lk (L.take k) h1 l1/\RBx wr rb b o n c x D l1 h1):=⟨hgr,hsz,hch,hbx⟩
  have c3:=hbx.cell 3
  have c4:=hbx.cell 4
  have f3:=hbx.frozen 3
  have f4:=hbx.frozen 4
  have hl:=hbx.lt
  simp at c3 c4
  clear hgr hsz hch hbx
  by_cases hlt:k<m
  ·have hlk:k<L.length:=by rw [<- HM.out];exact hlt
   rcases HR.out wr HG.out.1 with q|⟨bk,ok,rfl,hc⟩
   ·omega
   have s1:=hc k hlt
   have hk0:(0:Int)<=(k:Int):=by omega
   have hkmI:(k:Int)<(m:Int):=by omega
   clear hc
   by_cases h16:16<(gt L k).size
   ·have j16:(16:Int)<((gt L k).size:Int):=by omega
    have j16' : decide ((16:Int)<((gt L k).size:Int))=true:=decide_eq_true j16
    have n16' : decide (16<(gt L k).size)=true:=decide_eq_true h16
    have HNo:Hid (∀h2 l2,¬ Chain hk lk L h2 l2):=fun h2 l2=>chain_stop HG.out.2.2.1 hlk (fun q=>by omega) h2 l2
    go_wp2
    go_ret
    exact ⟨false,rfl,HG.out.1,HG.out.2.1,.inr ⟨rfl,HNo.out⟩⟩
   ·have j16:¬ (16:Int)<((gt L k).size:Int):=by omega
    have j16' : decide ((16:Int)<((gt L k).size:Int))=false:=decide_eq_false j16
    have n16' : decide (16<(gt L k).size)=false:=decide_eq_false h16
    have HPass:(h1=true->Op.bytesLess l1.toList (gt L k).toList=true)->Hid (w.grownBy ((wr.setCell ⟨rb,3,none⟩ (.string (gt L k))).setCell ⟨rb,4,none⟩ (.bool true)) (some rb)/\((wr.setCell ⟨rb,3,none⟩ (.string (gt L k))).setCell ⟨rb,4,none⟩ (.bool true)).heap.size=w.heap.size/\Chain hk lk (L.take (k+1)) true (gt L k)/\RBx ((wr.setCell ⟨rb,3,none⟩ (.string (gt L k))).setCell ⟨rb,4,none⟩ (.bool true)) rb b o n c x D (gt L k) true):=by
     intro hp
     obtain ⟨q1,q2,q3,q4⟩:=HG.out
     refine ⟨grown_trans (grown_trans q1 (grown_set _ _ _ _)) (grown_set _ _ _ _),by rw [<- q2];simp [World.setCell],?_,(q4.set 3 _).set 4 _⟩
     rw [chain_take hlk]
     exact Chain.app q3 ⟨by omega,hp,rfl,rfl⟩
    cases h1 with
    | false=>
     have HP:=HPass (fun q=>by cases q)
     clear HPass
     go_wp2
     go_roundw
     case rel=>exact ⟨k+1,true,gt L k,by omega,by go_num,HP.out⟩
     case measure=>simp [intOf];omega
    | true=>
     cases hls:Op.bytesLess l1.toList (gt L k).toList with
     | true=>
      have HP:=HPass (fun _=>hls)
      have htot:=less_total l1.toList (gt L k).toList
      rw [hls] at htot
      have ht2:(Op.bytesLess (gt L k).toList l1.toList || (gt L k).toList == l1.toList)=false:=htot
      clear HPass htot
      go_wp2
      go_roundw
      case rel=>exact ⟨k+1,true,gt L k,by omega,by go_num,HP.out⟩
      case measure=>simp [intOf];omega
     | false=>
      have HNo:Hid (∀h2 l2,¬ Chain hk lk L h2 l2):=fun h2 l2=>chain_stop HG.out.2.2.1 hlk (fun q=>by have:=q.2 rfl;rw [hls] at this;cases this) h2 l2
      have htot:=less_total l1.toList (gt L k).toList
      rw [hls] at htot
      have ht2:(Op.bytesLess (gt L k).toList l1.toList || (gt L k).toList == l1.toList)=true:=htot
      clear HPass htot
      go_wp2
      go_ret
      exact ⟨false,rfl,HG.out.1,HG.out.2.1,.inr ⟨rfl,HNo.out⟩⟩
  ·have e:k=m:=by omega
   subst e
   have HE:Hid (L.take k=L):=by
    show L.take k=L
    rw [HM.out,List.take_length]
   go_wp2
   go_ret
   refine ⟨true,rfl,HG.out.1,HG.out.2.1,.inl ⟨rfl,h1,l1,?_,HG.out.2.2.2⟩⟩
   have q:=HG.out.2.2.1
   rw [HE.out] at q
   exact q

set_option maxHeartbeats 1000000 in
theorem sizeLeaf_any (b n kc:Nat) (ka:Option Addr) (v0:Value) (w:World) (h:Bx w b 206 #[v0,.slice ka n kc]) :
  Calls Tryz.prog 208 #[.pointer (some ⟨b,0,none⟩)] w fun e w'=>e=.returned (.int .i64 (n:Int))/\w'=w:=by
 have c1:=h.cell 1
 have hl:=h.lt
 simp at c1
 clear h
 go_enter Tryz.func208,Tryz.ntmps208
 go_wp2
 go_ret
 exact ⟨rfl,rfl⟩

set_option maxHeartbeats 1000000 in
theorem sizeInner_any (b n kc:Nat) (ka:Option Addr) (v0:Value) (w:World) (h:Bx w b 179 #[v0,.slice ka n kc]) :
  Calls Tryz.prog 125 #[.pointer (some ⟨b,0,none⟩)] w fun e w'=>e=.returned (.int .i64 (n:Int))/\w'=w:=by
 have c1:=h.cell 1
 have hl:=h.lt
 simp at c1
 clear h
 go_enter Tryz.func125,Tryz.ntmps125
 go_wp2
 go_ret
 exact ⟨rfl,rfl⟩


theorem cellOf {w:World} {b:Nat} {A:Array Value} {t:TypeId} (h:w.heap[b]?=some (.cells A t)) (o:Nat):w.cell? ⟨b,o,none⟩=A[o]?:=by simp [World.cell?,h]
theorem bA {w w' : World} {o:Obj} (h:Below w.heap.size w w'):Below w.heap.size w (w'.alloc o):=h.alloc h.size o
theorem bS {w w' : World} {b o:Nat} {v:Value} (hb:w.heap.size<=b) (h:Below w.heap.size w w'):Below w.heap.size w (w'.setCell ⟨b,o,none⟩ v):=h.setCell hb v

def partOf (a b c d:Int) (i:Nat):Int:=if i=0 then a else if i=1 then b else if i=2 then c else d

set_option maxHeartbeats 1000000 in
theorem l5Part_any (a b c d:Int) (i:Nat) (hi:i<4) (w:World) :
  Calls Tryz.prog 65 #[.agg #[.int .i64 a,.int .i64 b,.int .i64 c,.int .i64 d],.int .i64 i] w fun e w'=>e=.returned (.int .i64 (partOf a b c d i))/\Below w.heap.size w w':=by
 have h:i=0\/i=1\/i=2\/i=3:=by omega
 rcases h with rfl|rfl|rfl|rfl
 all_goals
  go_enter Tryz.func65,Tryz.ntmps65
  go_wp2
  go_ret
  exact ⟨rfl,below_alloc _ _⟩

def OrdRet (w:World) (q:Nat->Nat) (e:Ending) (w' : World):Prop:=∃g,e=.returned (.slice (some ⟨g,0,none⟩) 4 4)/\w.heap.size<=g/\rowIn w' g 3 4 (fun i=>.int .i64 (q i))/\Below w.heap.size w w'

def ord0 (i:Nat):Nat:=if i=0 then 0 else if i=1 then 1 else if i=2 then 2 else 3
def ord1 (i:Nat):Nat:=if i=0 then 1 else if i=1 then 2 else if i=2 then 0 else 3
def ord2 (i:Nat):Nat:=if i=0 then 2 else if i=1 then 0 else if i=2 then 1 else 3
def ord3 (i:Nat):Nat:=if i=0 then 3 else if i=1 then 0 else if i=2 then 1 else 2
def ord4 (i:Nat):Nat:=if i=0 then 3 else if i=1 then 1 else if i=2 then 2 else 0
def ord5 (i:Nat):Nat:=if i=0 then 3 else if i=1 then 2 else if i=2 then 0 else 1
def okTo (x:Nat->Int) (k:Nat):Prop:=∀q,q<k->(0<=x q/\x q<=2000000000)/\∀r,r<q->x r=0->x q=0
def freeTo (x:Nat->Int):Nat->Bool
 | 0=>false
 | k+1=>freeTo x k || x k == 0
def eligB (x:Nat->Int):Bool:=(List.range 4).all fun q=>decide (0<=x q/\x q<=2000000000) && (List.range q).all fun r=>decide (x r=0->x q=0)
theorem idx_0 (w:World):(Instr.index 97 (.agg #[.func (.func 101) #[] #[],.func (.func 102) #[] #[],.func (.func 103) #[] #[],.func (.func 104) #[] #[],.func (.func 105) #[] #[],.func (.func 106) #[] #[]]) (.int .i64 0)).run Tryz.prog w=.ok (.func (.func 101) #[] #[]) w:=by
 simp [Instr.index,go_sem]
theorem idx_1 (w:World):(Instr.index 97 (.agg #[.func (.func 101) #[] #[],.func (.func 102) #[] #[],.func (.func 103) #[] #[],.func (.func 104) #[] #[],.func (.func 105) #[] #[],.func (.func 106) #[] #[]]) (.int .i64 1)).run Tryz.prog w=.ok (.func (.func 102) #[] #[]) w:=by
 simp [Instr.index,go_sem]
theorem idx_2 (w:World):(Instr.index 97 (.agg #[.func (.func 101) #[] #[],.func (.func 102) #[] #[],.func (.func 103) #[] #[],.func (.func 104) #[] #[],.func (.func 105) #[] #[],.func (.func 106) #[] #[]]) (.int .i64 2)).run Tryz.prog w=.ok (.func (.func 103) #[] #[]) w:=by
 simp [Instr.index,go_sem]
theorem idx_3 (w:World):(Instr.index 97 (.agg #[.func (.func 101) #[] #[],.func (.func 102) #[] #[],.func (.func 103) #[] #[],.func (.func 104) #[] #[],.func (.func 105) #[] #[],.func (.func 106) #[] #[]]) (.int .i64 3)).run Tryz.prog w=.ok (.func (.func 104) #[] #[]) w:=by
 simp [Instr.index,go_sem]
theorem idx_4 (w:World):(Instr.index 97 (.agg #[.func (.func 101) #[] #[],.func (.func 102) #[] #[],.func (.func 103) #[] #[],.func (.func 104) #[] #[],.func (.func 105) #[] #[],.func (.func 106) #[] #[]]) (.int .i64 4)).run Tryz.prog w=.ok (.func (.func 105) #[] #[]) w:=by
 simp [Instr.index,go_sem]
theorem idx_5 (w:World):(Instr.index 97 (.agg #[.func (.func 101) #[] #[],.func (.func 102) #[] #[],.func (.func 103) #[] #[],.func (.func 104) #[] #[],.func (.func 105) #[] #[],.func (.func 106) #[] #[]]) (.int .i64 5)).run Tryz.prog w=.ok (.func (.func 106) #[] #[]) w:=by
 simp [Instr.index,go_sem]

theorem fieldsQ:(Tryz.prog.fieldsOf 34).toList=[{ name := "S",type:=2,offset:=0,embedded:=false,tag := "",pkgPath := "",byteOffset:=0 },{ name := "P",type:=2,offset:=1,embedded:=false,tag := "",pkgPath := "",byteOffset:=8 },{ name := "O",type:=2,offset:=2,embedded:=false,tag := "",pkgPath := "",byteOffset:=16 },{ name := "G",type:=2,offset:=3,embedded:=false,tag := "",pkgPath := "",byteOffset:=24 }]:=by kernel_rfl
theorem eqQ (a b c d a' b' c' d' : Int) (w:World):(Op.equalIn 10000 34 (.agg #[.int .i64 a,.int .i64 b,.int .i64 c,.int .i64 d]) (.agg #[.int .i64 a',.int .i64 b',.int .i64 c',.int .i64 d'])).run Tryz.prog w=.ok (a == a' && (b == b' && (c == c' && d == d'))) w:=by
 rw [show (10000:Nat)=9999+1 from rfl,run_equalIn_struct (P:=Tryz.prog) w 9999 34 _ _ (by kernel_rfl) (by kernel_rfl),fieldsQ]
 simp [Op.eqFields,go_sem]
 by_cases h1:a=a' <;> by_cases h2:b=b' <;> by_cases h3:c=c' <;> by_cases h4:d=d' <;> simp [h1,h2,h3,h4]
end Go.Proofs.YtcnollkkigiobaaGreat
