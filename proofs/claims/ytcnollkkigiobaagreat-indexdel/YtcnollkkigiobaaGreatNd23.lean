import Derived.Test.YtcnollkkigiobaaGreatNd19
import Derived.Test.YtcnollkkigiobaaGreatNd18
import Derived.Lib.AppendZerosOnto
import Derived.Laws.NewBlocks
import Derived.Test.YtcnollkkigiobaaGreatNd17
set_option linter.unusedVariables false
set_option maxRecDepth 100000
namespace Go.Proofs.YtcnollkkigiobaaGreat
open Go.RowKit Go.Deep

theorem RetRd.from {N:Nat->Tn} {rb b o n c x:Nat} {dep D:Int} {hk:Bool} {lk:ByteArray} {d:Nat} {w W:World} {e:Ending} {w' : World} (h:RetRd N rb b o n c x dep D hk lk d W e w') (hg:w.grownBy W (some rb)):RetRd N rb b o n c x dep D hk lk d w e w':=by
 obtain ⟨h1,v,ok,e1,h2⟩:=h
 refine ⟨grown_trans hg h1,v,ok,e1,?_⟩
 rcases h2 with ⟨q1,t,D',hk',lk',q2,q3,q4⟩|q
 ·exact Or.inl ⟨q1,t,D',hk',lk',q2,q3,q4.mono (Nat.le_refl _) (fun bb hs _=>⟨by have:=hg.size;show w.heap.size<=bb;have hs' : W.heap.size<=bb:=hs;omega,rfl⟩)⟩
 ·exact Or.inr q

def RetTree (w:World) (n:Nat) (N:Nat->Tn) (e:Ending) (w' : World):Prop:=
 Below w.heap.size w w'/\∃v ok,e=.returned (.tuple #[v,.bool ok])/\
  ((ok=true/\∃(t:Ro n) (t' : Ro 21) (h:Nat),VTt n N t'/\keysR 21 t'=keysR n t/\BalR n true t h/\Tells N 0 n t 0/\nodesR n t=n/\TAt (fun b=>w.heap.size<=b) w' n t v)\/(ok=false/\¬ VT n N))


def Asc (L:List ByteArray):Prop:=L.Pairwise (fun a b=>Op.bytesLess a.toList b.toList=true)
def cntL (key:ByteArray) (L:List ByteArray):Nat:=(L.filter (fun k=>Op.bytesLess k.toList key.toList)).length

theorem asc_of_ascK {L:List ByteArray} (h:AscK L L.length):Asc L:=by
 unfold Asc
 rw [List.pairwise_iff_getElem]
 intro i j hi hj hij
 have q:=asc_less (X:=gt L) (k:=L.length) (fun m hm h0=>(h m hm).2 h0) j hj i hij
 unfold gt at q
 rw [List.getD_eq_getElem?_getD,List.getD_eq_getElem?_getD,List.getElem?_eq_getElem hi,List.getElem?_eq_getElem hj] at q
 exact q

theorem gt_mem {L:List ByteArray} {i:Nat} (h:i<L.length):gt L i∈L:=by
 unfold gt
 rw [List.getD_eq_getElem?_getD,List.getElem?_eq_getElem h]
 exact List.getElem_mem h

theorem asc_lt {L:List ByteArray} (h:Asc L) {i j:Nat} (hij:i<j) (hj:j<L.length):Op.bytesLess (gt L i).toList (gt L j).toList=true:=by
 have q:=List.pairwise_iff_getElem.1 h i j (by omega) hj hij
 unfold gt
 rw [List.getD_eq_getElem?_getD,List.getD_eq_getElem?_getD,List.getElem?_eq_getElem (by omega),List.getElem?_eq_getElem hj]
 exact q

theorem less_asym {a b:List UInt8} (h:Op.bytesLess a b=true):Op.bytesLess b a=false:=by
 cases e:Op.bytesLess b a with
 | false=>rfl
 | true=>
  have:=less_trans _ _ _ h e
  rw [less_irrefl] at this
  cases this

theorem less_of_lt_le {x y z:List UInt8} (h:Op.bytesLess x y=true) (h2:Op.bytesLess z y=false):Op.bytesLess x z=true:=by
 have t:=less_total y z
 cases e:Op.bytesLess y z with
 | true=>exact less_trans _ _ _ h e
 | false=>
  rw [h2,e] at t
  simp at t
  rw [t]
  exact h

theorem asc_kid {d:Nat} {l:List (Ro d)} (ha:Asc (l.flatMap (keysR d))) (i:Nat) (hi:i<l.length):Asc (keysR d l[i]):=by
 have e:l=l.take i++(l[i]::l.drop (i+1)):=by
  conv=>lhs;rw [<- List.take_append_drop (i+1) l,<- List.take_append_getElem hi]
  simp
 rw [e,List.flatMap_append,List.flatMap_cons] at ha
 unfold Asc at ha ⊢
 rw [List.pairwise_append] at ha
 have:=ha.2.1
 rw [List.pairwise_append] at this
 exact this.1
end Go.Proofs.YtcnollkkigiobaaGreat
namespace Go.Proofs.YtcnollkkigiobaaGreat

def insK (key:ByteArray) (L:List ByteArray):List ByteArray:=L.take (cntL key L)++key::L.drop (cntL key L)
def splL {T:Type} (L:List T):List (List T):=if L.length<=4 then [L] else [L.take 3,L.drop 3]
def KidIs {d:Nat} (l:List (Ro d)) (key:ByteArray) (i:Nat):Prop:=
 i<l.length/\(∀h:i<l.length,0<i->Op.bytesLess key.toList (gt (keysR d l[i]) 0).toList=false)/\(∀h:i+1<l.length,Op.bytesLess key.toList (gt (keysR d l[i+1]) 0).toList=true)
def InsR (key:ByteArray):(d:Nat)->Ro d->List (Ro d)->Prop
 | 0,t,_=>t.elim
 | d+1,.inl ks,r=>r=(splL (insK key ks)).map Sum.inl
 | d+1,.inr l,r=>∃i,KidIs l key i/\∃(h:i<l.length) (r' : List (Ro d)),InsR key d l[i] r'/\r=(splL (l.take i++r'++l.drop (i+1))).map Sum.inr

theorem InsR_inl (key:ByteArray) (d:Nat) (ks:List ByteArray) (r:List (Ro (d+1))):InsR key (d+1) (.inl ks) r=(r=(splL (insK key ks)).map Sum.inl):=rfl
theorem InsR_inr (key:ByteArray) (d:Nat) (l:List (Ro d)) (r:List (Ro (d+1))):InsR key (d+1) (.inr l) r=∃i,KidIs l key i/\∃(h:i<l.length) (r' : List (Ro d)),InsR key d l[i] r'/\r=(splL (l.take i++r'++l.drop (i+1))).map Sum.inr:=rfl

theorem first_lt {d:Nat} {l:List (Ro d)} (ha:Asc (l.flatMap (keysR d))) (hp:∀k (h:k<l.length),0<(keysR d l[k]).length) {i j:Nat} (hij:i<j) (hj:j<l.length):Op.bytesLess (gt (keysR d (l[i]'(by omega))) 0).toList (gt (keysR d l[j]) 0).toList=true:=by
 unfold Asc at ha
 rw [List.pairwise_flatMap] at ha
 have q:=(List.pairwise_iff_getElem.1 ha.2) i j (by omega) hj hij
 exact q _ (gt_mem (hp i (by omega))) _ (gt_mem (hp j hj))

theorem KidIs.fn {d:Nat} {l:List (Ro d)} {key:ByteArray} (ha:Asc (l.flatMap (keysR d))) (hp:∀k (h:k<l.length),0<(keysR d l[k]).length) {i j:Nat} (h1:KidIs l key i) (h2:KidIs l key j):i=j:=by
 have key1:∀{i j:Nat},KidIs l key i->KidIs l key j->¬ i<j:=by
  intro i j h1 h2 hij
  have q1:=h1.2.2 (by have:=h2.1;omega)
  have q2:=h2.2.1 h2.1 (by omega)
  by_cases e:i+1=j
  ·subst e
   rw [q1] at q2
   cases q2
  ·have q3:=first_lt ha hp (show i+1<j by omega) h2.1
   rw [less_trans _ _ _ q1 q3] at q2
   cases q2
 have a1:=key1 h1 h2
 have a2:=key1 h2 h1
 omega

theorem bal_keys:∀{d:Nat} {t:Ro d} {h:Nat},BalR d false t h->0<(keysR d t).length
 | 0,t,h,hb=>t.elim
 | d+1,.inl t,h,hb=>by
  obtain ⟨_,_,q⟩:=hb
  show 0<t.length
  rcases q with q|q
  ·cases q
  ·omega
 | d+1,.inr l,h,hb=>by
  obtain ⟨h2,_,h',_,hall⟩:=hb
  show 0<(l.flatMap (keysR d)).length
  match l,h2,hall with
  | t::l',_,hall=>
   have:=bal_keys (hall t (by simp))
   rw [List.flatMap_cons,List.length_append]
   omega

theorem InsR.fn {key:ByteArray}:∀{d:Nat} {t:Ro d} {root:Bool} {h:Nat} {r r' : List (Ro d)},BalR d root t h->Asc (keysR d t)->InsR key d t r->InsR key d t r'->r=r'
 | 0,t,_,_,_,_,_,_,_,_=>t.elim
 | d+1,.inl ks,root,h,r,r',hb,ha,h1,h2=>by
  rw [InsR_inl] at h1 h2
  rw [h1,h2]
 | d+1,.inr l,root,h,r,r',hb,ha,h1,h2=>by
  obtain ⟨_,_,h',_,hall⟩:=hb
  rw [InsR_inr] at h1 h2
  obtain ⟨i,k1,hi,s,e1,rfl⟩:=h1
  obtain ⟨j,k2,hj,s',e2,rfl⟩:=h2
  have ha' : Asc (l.flatMap (keysR d)):=ha
  have e:i=j:=KidIs.fn ha' (fun k hk=>bal_keys (hall _ (List.getElem_mem hk))) k1 k2
  subst e
  rw [InsR.fn (hall _ (List.getElem_mem hi)) (asc_kid ha' i hi) e1 e2]

theorem splL_one {T:Type} {L:List T} (h:L.length<=4):splL L=[L]:=by unfold splL;rw [if_pos h]
theorem splL_two {T:Type} {L:List T} (h:¬ L.length<=4):splL L=[L.take 3,L.drop 3]:=by unfold splL;rw [if_neg h]
theorem insK_length (key:ByteArray) (L:List ByteArray):(insK key L).length=L.length+1:=by
 unfold insK
 rw [List.length_append,List.length_cons,List.length_take,List.length_drop]
 have:cntL key L<=L.length:=List.length_filter_le _ _
 omega

theorem InsR.bal {key:ByteArray}:∀{d:Nat} {t:Ro d} {root:Bool} {h:Nat} {r:List (Ro d)},BalR d root t h->InsR key d t r->
  (∃y,r=[y]/\BalR d root y h)\/(∃y z,r=[y,z]/\BalR d false y h/\BalR d false z h)
 | 0,t,_,_,_,_,_=>t.elim
 | d+1,.inl ks,root,h,r,hb,h1=>by
  obtain ⟨rfl,h4,hr⟩:=hb
  rw [InsR_inl] at h1
  have hl:=insK_length key ks
  by_cases e:(insK key ks).length<=4
  ·rw [splL_one e] at h1
   refine .inl ⟨.inl (insK key ks),h1,rfl,e,?_⟩
   rcases hr with hr|hr
   ·exact .inl hr
   ·exact .inr (by omega)
  ·rw [splL_two e] at h1
   refine .inr ⟨.inl ((insK key ks).take 3),.inl ((insK key ks).drop 3),h1,⟨rfl,?_,.inr ?_⟩,⟨rfl,?_,.inr ?_⟩⟩
   ·rw [List.length_take];omega
   ·rw [List.length_take];omega
   ·rw [List.length_drop];omega
   ·rw [List.length_drop];omega
 | d+1,.inr l,root,h,r,hb,h1=>by
  obtain ⟨h2,h4,h',rfl,hall⟩:=hb
  rw [InsR_inr] at h1
  obtain ⟨i,k1,hi,s,e1,rfl⟩:=h1
  have q:=InsR.bal (hall _ (List.getElem_mem hi)) e1
  have hs:(s.length=1\/s.length=2)/\∀t,t∈s->BalR d false t h':=by
   rcases q with ⟨y,rfl,hy⟩|⟨y,z,rfl,hy,hz⟩
   ·exact ⟨.inl rfl,fun t ht=>by simp at ht;subst ht;exact hy⟩
   ·refine ⟨.inr rfl,fun t ht=>?_⟩
    simp at ht
    rcases ht with rfl|rfl
    ·exact hy
    ·exact hz
  have hlen:(l.take i++s++l.drop (i+1)).length=l.length-1+s.length:=by
   rw [List.length_append,List.length_append,List.length_take,List.length_drop]
   omega
  have hmem:∀t,t∈l.take i++s++l.drop (i+1)->BalR d false t h':=by
   intro t ht
   rw [List.mem_append,List.mem_append] at ht
   rcases ht with (ht|ht)|ht
   ·exact hall t (List.mem_of_mem_take ht)
   ·exact hs.2 t ht
   ·exact hall t (List.mem_of_mem_drop ht)
  have hs1:=hs.1
  generalize l.take i++s++l.drop (i+1)=M at hlen hmem ⊢
  by_cases e:M.length<=4
  ·rw [splL_one e]
   exact .inl ⟨.inr M,rfl,by omega,e,h',rfl,hmem⟩
  ·rw [splL_two e]
   refine .inr ⟨.inr (M.take 3),.inr (M.drop 3),rfl,⟨?_,?_,h',rfl,fun t ht=>hmem t (List.mem_of_mem_take ht)⟩,⟨?_,?_,h',rfl,fun t ht=>hmem t (List.mem_of_mem_drop ht)⟩⟩
   ·rw [List.length_take];omega
   ·rw [List.length_take];omega
   ·rw [List.length_drop];omega
   ·rw [List.length_drop];omega
end Go.Proofs.YtcnollkkigiobaaGreat
namespace Go.Proofs.YtcnollkkigiobaaGreat
open Go.RowKit Go.Deep

def RdV (w:World) (a:Option Addr) (n:Nat) (xs:List Value):Prop:=
 xs.length=n/\(∀u∈xs,u.oneCell'=true)/\(n=0\/∃b o,a=some ⟨b,o,none⟩/\b<w.heap.size/\∀j u,xs[j]?=some u->w.cell? ⟨b,o+j,none⟩=some u)
theorem RdV.below {w w' : World} {a:Option Addr} {n:Nat} {xs:List Value} (h:RdV w a n xs) (hb:Below w.heap.size w w'):RdV w' a n xs:=by
 refine ⟨h.1,h.2.1,?_⟩
 rcases h.2.2 with q|⟨b,o,rfl,hl,hc⟩
 ·exact Or.inl q
 ·exact Or.inr ⟨b,o,rfl,by have:=hb.size;omega,fun j u hj=>(hb.cell (p:=⟨b,o+j,none⟩) hl).trans (hc j u hj)⟩

theorem wpList_append_vS {w:World} {ops:Array Oper} {rest:List Oper} {o:Oper} {act:Act} {Q:Exit->Act->World->Prop} (hgd:o.guard=none) (s x:Operand)
  (ho:o.op=.call { callee:=.builtin .append,args:=#[s,x],argTypes:=#[88,88] })
  (B:Nat) (v:Value) (n:Nat) (xs:List Value) (hs:act.eval s=v) (hown:w.ownsRow B 9 1 v n xs)
  (a:Option Addr) (m c:Nat) (ys:List Value) (hx:act.eval x=.slice a m c) (hrd:RdV w a m ys) (hnm:n+m<=1048576) (hB:B<=w.heap.size)
  (h:∀v' w',w'.ownsRow B 9 1 v' (n+m) (xs++ys)->w.grownBy w' v.ownBlock->wpList Tryz.prog ops Q rest (act.put o.dst v') w'):wpList Tryz.prog ops Q (o::rest) act w:=by
 obtain ⟨i0,hi,hz0,hz1,hz2⟩:=info_parts Tryz.info9
 obtain ⟨hl,h1,hrd⟩:=hrd
 by_cases hm0:m=0
 ·subst hm0
  have hL:ys=[]:=List.length_eq_zero_iff.1 hl
  subst hL
  have hsrc:Src Tryz.prog i0.size 88 (.slice a 0 c) 0 [] w:=by
   cases a with
   | none=>exact Src.ofNil w Tryz.underlying88 c
   | some ad=>exact Src.ofSlice w Tryz.underlying88 ad 0 c [] (by simp) (by simp) (by simp)
  have hsh:∃b l cap,v=.slice b l cap/\l<=cap:=by
   rcases hown.2 with ⟨rfl,rfl⟩|⟨g,cap,cur,rfl,_,_,h1,_⟩
   ·exact ⟨none,0,0,rfl,Nat.le_refl _⟩
   ·exact ⟨_,n,cap,rfl,h1⟩
  obtain ⟨b,l,cap,hvv,hlc⟩:=hsh
  have hrun:=run_append_nothing (P:=Tryz.prog) w 88 88 o.type 9 i0 Tryz.underlying88 hi b l cap hlc (.slice a 0 c) hsrc
  rw [<- hvv] at hrun
  refine wpList_plain hgd fun K hK=>?_
  unfold Oper.wp
  simp [execOp,ho,resolve,invoke,builtin,hs,hx,hrun,Result.andThen]
  exact hK _ _ (h v w (by simpa using hown) ⟨rfl,rfl,rfl,Nat.le_refl _,fun _ _ _=>rfl⟩)
 ·rcases hrd with h0|⟨b,off,rfl,_,hc⟩
  ·exact absurd h0 hm0
  ·refine wpList_append_own_at w hgd s x 88 ho B 9 i0 _ 1 16 Tryz.underlying88 hi hz0 hz1 hz2 rfl (by decide) v n xs hs hown ⟨b,off,none⟩ m c ys hx (by omega) (fun j u hj=>?_) h1 (by unfold maxLen;omega) (by omega) hB (fun v' w' h1 h2 _ _=>h v' w' h1 h2)
   have e:(Addr.add ⟨b,off,none⟩ j)=⟨b,off+j,none⟩:=by
    unfold Addr.add
    by_cases h:j=0
    ·subst h;simp
    ·simp [h]
   rw [e]
   exact hc j u hj

set_option maxHeartbeats 1000000 in
theorem growS_any (n:Nat) (h0:0<n) (hn:n<=1000) (w:World) :
  Calls Tryz.prog 169 #[.slice none 0 0,.int .i64 (n:Int)] w fun e w'=>∃c,e=.returned (.slice (some ⟨w.heap.size,0,none⟩) 0 c)/\w'.ownsRow w.heap.size 9 1 (.slice (some ⟨w.heap.size,0,none⟩) 0 c) 0 []/\Below w.heap.size w w':=by
 obtain ⟨i0,hi0,hz0,hzs,hzb⟩:=info_parts Tryz.info9
 have hrz:∀ty,(Builtin.append_ #[88,3] ty #[.slice none 0 0,.int .i64 (n:Int)]).run Tryz.prog w=.ok (.slice (some ⟨w.heap.size,0,none⟩) n (grownCap w n 0 9)) (w.drew.alloc (.cells (#[]++Builtin.zeroCells (Value.string { data:=#[] }).cells n++Builtin.zeroCells (Value.string { data:=#[] }).cells (grownCap w n 0 9 - n)) 9)):=fun ty=>by
  have h:=Lib.run_append_grow_zeros w 88 3 ty 9 i0 _ .i64 .i64 Tryz.underlying88 Tryz.underlying3 hi0 hz0 none 0 0 [] (by simp [run_firstCells_none]) n (by omega) (by omega) (by omega) (by omega) (by rw [hzb];omega) (by rw [hzb];exact growslice_fits (by omega) (by omega))
  simpa using h
 obtain ⟨G,hG⟩:∃G,G=grownCap w n 0 9:=⟨_,rfl⟩
 have hGn:n<=G:=by rw [hG];exact grownCap_ge w _ _ _
 have hG63:G<=9223372036854775807:=by
  have:=grownCap_le_maxLen w n 0 9 (by unfold maxLen;omega)
  rw [<- hG] at this
  unfold maxLen at this
  omega
 rw [<- hG] at hrz
 obtain ⟨ROW,hROW⟩:∃ROW:Array Value,ROW=#[]++Builtin.zeroCells (Value.string { data:=#[] }).cells n++Builtin.zeroCells (Value.string { data:=#[] }).cells (G-n):=⟨_,rfl⟩
 rw [<- hROW] at hrz
 have HO:Hid ((w.drew.alloc (.cells ROW 9)).ownsRow w.heap.size 9 1 (.slice (some ⟨w.heap.size,0,none⟩) 0 G) 0 []):=by
  refine ⟨rfl,Or.inr ⟨w.heap.size,G,ROW,rfl,Nat.le_refl _,blk_alloc_new w.drew _,Nat.zero_le _,by unfold maxLen;omega,?_,by simp⟩⟩
  rw [hROW]
  simp [Builtin.zeroCells,Value.cells]
  omega
 have HBl:Hid (Below w.heap.size w (w.drew.alloc (.cells ROW 9))):=(Below.refl w.heap.size w).drew.trans (show Below w.heap.size w.drew _ from below_alloc w.drew _)
 have i1:¬ (n:Int)<0:=by omega
 have i2:(0:Int)<(n:Int):=by omega
 have i1d:decide ((n:Int)<0)=false:=decide_eq_false i1
 have i2d:decide ((0:Int)<(n:Int))=true:=decide_eq_true i2
 clear hROW hG hi0 hz0 hzs hzb
 go_enter Tryz.func169,Tryz.ntmps169
 go_wp2_with (at_builtin;refine Lib.wpList_append_run _ rfl _ _ _ _ rfl _ _ rfl rfl _ _ (hrz _) ?_)
 go_ret
 exact ⟨G,rfl,HO.out,HBl.out⟩

set_option maxHeartbeats 4000000 in
theorem concatS_any (g c n1 n2 c1 c2:Nat) (a1 a2:Option Addr) (xs ys:List Value) (w:World) (hg0:w.cell? ⟨g,0,none⟩=some (.slice a1 n1 c1)) (hg1:w.cell? ⟨g,1,none⟩=some (.slice a2 n2 c2)) (h1:RdV w a1 n1 xs) (h2:RdV w a2 n2 ys) (h0:0<n1+n2) (hn:n1+n2<=1000) :
  Calls Tryz.prog 161 #[.slice (some ⟨g,0,none⟩) 2 c] w fun e w'=>∃gg cc,e=.returned (.slice (some ⟨gg,0,none⟩) (n1+n2) cc)/\w'.ownsRow w.heap.size 9 1 (.slice (some ⟨gg,0,none⟩) (n1+n2) cc) (n1+n2) (xs++ys)/\Below w.heap.size w w':=by
 have HC:Hid (∀W,Below w.heap.size w W->W.cell? ⟨g,0,none⟩=some (.slice a1 n1 c1)/\W.cell? ⟨g,1,none⟩=some (.slice a2 n2 c2)/\RdV W a1 n1 xs/\RdV W a2 n2 ys):=by
  intro W hW
  have hl:=World.block_lt_of_cell? _ _ hg0
  exact ⟨(hW.cell (p:=⟨g,0,none⟩) hl).trans hg0,(hW.cell (p:=⟨g,1,none⟩) hl).trans hg1,h1.below hW,h2.below hW⟩
 clear h1 h2
 go_enter Tryz.func161,Tryz.ntmps161
 go_wp2
 go_loopw [3,11] (fun q i wr=>∃k:Nat,k<=2/\i=.int .i64 k/\q=.int .i64 (((if k=0 then 0 else if k=1 then n1 else n1+n2:Nat)):Int)/\wr=w) (fun _ i _=>2-(intOf i).toNat)
 case atStart=>exact ⟨0,by omega,rfl,rfl,rfl⟩
 case round=>
  obtain ⟨k,hk,rfl,rfl,hw⟩:=hrel
  have hw':=hw.symm
  clear hw
  subst hw'
  by_cases k0:k=0
  ·subst k0
   go_wp2
   go_roundw
   case rel=>exact ⟨1,by omega,by go_num,by first|go_num|simp,by simp⟩
   case measure=>simp [intOf]
  ·by_cases k1:k=1
   ·subst k1
    have i1:¬ ((n1:Int)+(n2:Int))<0:=by omega
    have i1d:decide (((n1:Int)+(n2:Int))<0)=false:=decide_eq_false i1
    go_wp2
    go_roundw
    case rel=>exact ⟨2,by omega,by go_num,by first|go_num|simp,by simp⟩
    case measure=>simp [intOf]
   ·have k2:k=2:=by omega
    subst k2
    have HGr:Hid (Calls Tryz.prog 169 #[.slice none 0 0,.int .i64 ((n1:Int)+(n2:Int))] w fun e w'=>∃c,e=.returned (.slice (some ⟨w.heap.size,0,none⟩) 0 c)/\w'.ownsRow w.heap.size 9 1 (.slice (some ⟨w.heap.size,0,none⟩) 0 c) 0 []/\Below w.heap.size w w'):=by
     have:=growS_any (n1+n2) h0 hn w
     rw [show (((n1+n2:Nat)):Int)=(n1:Int)+(n2:Int) by omega] at this
     exact this
    clear hg0 hg1
    go_wp2_with fail
    (with_reducible refine HGr.out.mono ?_)
    rintro e w1 ⟨gc,rfl,ho1,hb1⟩
    have H1:Hid (w1.ownsRow w.heap.size 9 1 (.slice (some ⟨w.heap.size,0,none⟩) 0 gc) 0 []/\Below w.heap.size w w1):=⟨ho1,hb1⟩
    clear ho1 hb1 HGr
    go_wp2
    go_loopw [6,27] (fun q i wx=>∃(k nv cv:Nat) (av:Option Addr),k<=2/\i=.int .i64 k/\q=.slice av nv cv/\nv=(if k=0 then 0 else if k=1 then n1 else n1+n2)/\wx.ownsRow w.heap.size 9 1 (.slice av nv cv) nv (if k=0 then [] else if k=1 then xs else xs++ys)/\Below w.heap.size w wx) (fun _ i _=>2-(intOf i).toNat)
    case atStart=>exact ⟨0,0,_,_,by omega,rfl,rfl,rfl,H1.out.1,H1.out.2⟩
    case round=>
     obtain ⟨k,nv,cv,av,hk,rfl,rfl,hnv,ho,hb⟩:=hrel
     have HS:Hid (wr.ownsRow w.heap.size 9 1 (.slice av nv cv) nv (if k=0 then [] else if k=1 then xs else xs++ys)/\Below w.heap.size w wr):=⟨ho,hb⟩
     obtain ⟨y0,y1,r1,r2⟩:=HC.out wr hb
     have HR:Hid (RdV wr a1 n1 xs/\RdV wr a2 n2 ys):=⟨r1,r2⟩
     have hbs:=hb.size
     clear ho hb r1 r2
     by_cases k0:k=0
     ·subst k0
      have e0:nv=0:=by simpa using hnv
      subst e0
      clear hnv
      go_wp2_with (at_builtin;refine wpList_append_vS rfl _ _ rfl w.heap.size (.slice av 0 cv) 0 [] rfl HS.out.1 a1 n1 c1 xs rfl HR.out.1 (by omega) hbs ?_)
      intro v' w' ho' hg'
      obtain ⟨av',cv',ev,_⟩:=own_form ho'
      subst ev
      have HX:Hid (w'.ownsRow w.heap.size 9 1 (.slice av' (0+n1) cv') (0+n1) xs/\Below w.heap.size w w'):=⟨by simpa using ho',HS.out.2.grown hg' hbs (fun g e=>(own_lt HS.out.1 g e).1)⟩
      clear ho' hg'
      go_wp2
      go_roundw
      case rel=>exact ⟨1,0+n1,cv',av',by omega,by go_num,by simp,by simp,HX.out⟩
      case measure=>simp [intOf]
     ·by_cases k1:k=1
      ·subst k1
       have e1:nv=n1:=by simpa using hnv
       subst e1
       clear hnv
       go_wp2_with (at_builtin;refine wpList_append_vS rfl _ _ rfl w.heap.size (.slice av nv cv) nv xs rfl HS.out.1 a2 n2 c2 ys rfl HR.out.2 (by omega) hbs ?_)
       intro v' w' ho' hg'
       obtain ⟨av',cv',ev,_⟩:=own_form ho'
       subst ev
       have HX:Hid (w'.ownsRow w.heap.size 9 1 (.slice av' (nv+n2) cv') (nv+n2) (xs++ys)/\Below w.heap.size w w'):=⟨ho',HS.out.2.grown hg' hbs (fun g e=>(own_lt HS.out.1 g e).1)⟩
       clear ho' hg'
       go_wp2
       go_roundw
       case rel=>exact ⟨2,nv+n2,cv',av',by omega,by go_num,rfl,by simp,HX.out⟩
       case measure=>simp [intOf]
      ·have k2:k=2:=by omega
       subst k2
       have e2:nv=n1+n2:=by simpa using hnv
       subst e2
       clear hnv
       obtain ⟨av',cv',e,hf⟩:=own_form HS.out.1
       injection e with e1 _ e3
       subst e1 e3
       obtain ⟨gg,rfl,_⟩:=hf (by omega)
       go_wp2
       go_ret
       exact ⟨gg,cv,rfl,by simpa using HS.out.1,HS.out.2⟩

set_option maxHeartbeats 1000000 in
theorem cutS_any (g n c k:Nat) (w:World) (hk:k<=n) (hn:n<=c) (hkn:k<n) :
  Calls Tryz.prog 160 #[.slice (some ⟨g,0,none⟩) n c,.int .i64 (k:Int)] w fun e w'=>e=.returned (.tuple #[.slice (some ⟨g,0,none⟩) k k,.slice (some ⟨g,k,none⟩) (n-k) (c-k)])/\w'=w.drew:=by
 have s1:∀W:World,(Instr.sliceAt 88 (.slice (some ⟨g,0,none⟩) n c) none (some (.int .i64 (k:Int))) (some (.int .i64 (k:Int)))).run Tryz.prog W=.ok (.slice (some ⟨g,0,none⟩) k k) W:=by
  intro W
  have hkc:k<=c:=by omega
  simp [Instr.sliceAt,Instr.slice,go_sem,hkc]
 have s2:∀W:World,(Instr.sliceAt 88 (.slice (some ⟨g,0,none⟩) n c) (some (.int .i64 (k:Int))) none none).run Tryz.prog W=.ok (.slice (some ⟨g,k,none⟩) (n-k) (c-k)) W:=by
  intro W
  have hkc:¬ c=k:=by omega
  simp [Instr.sliceAt,Instr.slice,go_sem,hkc,hk]
 go_enter Tryz.func160,Tryz.ntmps160
 go_wp2
 go_region_held3 (fun _=>True) (go_keep) (fail)
 go_wp2
 refine bodyPost_ret (v:=.tuple #[.slice (some ⟨g,0,none⟩) k k,.slice (some ⟨g,k,none⟩) (n-k) (c-k)]) (by simp [results,Tryz.results160,go_sem]) rfl ⟨rfl,rfl⟩

theorem wpList_append_vN {w:World} {ops:Array Oper} {rest:List Oper} {o:Oper} {act:Act} {Q:Exit->Act->World->Prop} (hgd:o.guard=none) (s x:Operand)
  (ho:o.op=.call { callee:=.builtin .append,args:=#[s,x],argTypes:=#[175,175] })
  (B:Nat) (v:Value) (n:Nat) (xs:List Value) (hs:act.eval s=v) (hown:w.ownsRow B 68 1 v n xs)
  (a:Option Addr) (m c:Nat) (ys:List Value) (hx:act.eval x=.slice a m c) (hrd:RdV w a m ys) (hnm:n+m<=1048576) (hB:B<=w.heap.size)
  (h:∀v' w',w'.ownsRow B 68 1 v' (n+m) (xs++ys)->w.grownBy w' v.ownBlock->wpList Tryz.prog ops Q rest (act.put o.dst v') w'):wpList Tryz.prog ops Q (o::rest) act w:=by
 obtain ⟨i0,hi,hz0,hz1,hz2⟩:=info_parts Tryz.info68
 obtain ⟨hl,h1,hrd⟩:=hrd
 by_cases hm0:m=0
 ·subst hm0
  have hL:ys=[]:=List.length_eq_zero_iff.1 hl
  subst hL
  have hsrc:Src Tryz.prog i0.size 175 (.slice a 0 c) 0 [] w:=by
   cases a with
   | none=>exact Src.ofNil w Tryz.underlying175 c
   | some ad=>exact Src.ofSlice w Tryz.underlying175 ad 0 c [] (by simp) (by simp) (by simp)
  have hsh:∃b l cap,v=.slice b l cap/\l<=cap:=by
   rcases hown.2 with ⟨rfl,rfl⟩|⟨g,cap,cur,rfl,_,_,h1,_⟩
   ·exact ⟨none,0,0,rfl,Nat.le_refl _⟩
   ·exact ⟨_,n,cap,rfl,h1⟩
  obtain ⟨b,l,cap,hvv,hlc⟩:=hsh
  have hrun:=run_append_nothing (P:=Tryz.prog) w 175 175 o.type 68 i0 Tryz.underlying175 hi b l cap hlc (.slice a 0 c) hsrc
  rw [<- hvv] at hrun
  refine wpList_plain hgd fun K hK=>?_
  unfold Oper.wp
  simp [execOp,ho,resolve,invoke,builtin,hs,hx,hrun,Result.andThen]
  exact hK _ _ (h v w (by simpa using hown) ⟨rfl,rfl,rfl,Nat.le_refl _,fun _ _ _=>rfl⟩)
 ·rcases hrd with h0|⟨b,off,rfl,_,hc⟩
  ·exact absurd h0 hm0
  ·refine wpList_append_own_at w hgd s x 175 ho B 68 i0 _ 1 16 Tryz.underlying175 hi hz0 hz1 hz2 rfl (by decide) v n xs hs hown ⟨b,off,none⟩ m c ys hx (by omega) (fun j u hj=>?_) h1 (by unfold maxLen;omega) (by omega) hB (fun v' w' h1 h2 _ _=>h v' w' h1 h2)
   have e:(Addr.add ⟨b,off,none⟩ j)=⟨b,off+j,none⟩:=by
    unfold Addr.add
    by_cases h:j=0
    ·subst h;simp
    ·simp [h]
   rw [e]
   exact hc j u hj

set_option maxHeartbeats 1000000 in
theorem growN_any (n:Nat) (h0:0<n) (hn:n<=1000) (w:World) :
  Calls Tryz.prog 170 #[.slice none 0 0,.int .i64 (n:Int)] w fun e w'=>∃c,e=.returned (.slice (some ⟨w.heap.size,0,none⟩) 0 c)/\w'.ownsRow w.heap.size 68 1 (.slice (some ⟨w.heap.size,0,none⟩) 0 c) 0 []/\Below w.heap.size w w':=by
 obtain ⟨i0,hi0,hz0,hzs,hzb⟩:=info_parts Tryz.info68
 have hrz:∀ty,(Builtin.append_ #[175,3] ty #[.slice none 0 0,.int .i64 (n:Int)]).run Tryz.prog w=.ok (.slice (some ⟨w.heap.size,0,none⟩) n (grownCap w n 0 68)) (w.drew.alloc (.cells (#[]++Builtin.zeroCells Value.nilIface.cells n++Builtin.zeroCells Value.nilIface.cells (grownCap w n 0 68 - n)) 68)):=fun ty=>by
  have h:=Lib.run_append_grow_zeros w 175 3 ty 68 i0 _ .i64 .i64 Tryz.underlying175 Tryz.underlying3 hi0 hz0 none 0 0 [] (by simp [run_firstCells_none]) n (by omega) (by omega) (by omega) (by omega) (by rw [hzb];omega) (by rw [hzb];exact growslice_fits (by omega) (by omega))
  simpa using h
 obtain ⟨G,hG⟩:∃G,G=grownCap w n 0 68:=⟨_,rfl⟩
 have hGn:n<=G:=by rw [hG];exact grownCap_ge w _ _ _
 have hG63:G<=9223372036854775807:=by
  have:=grownCap_le_maxLen w n 0 68 (by unfold maxLen;omega)
  rw [<- hG] at this
  unfold maxLen at this
  omega
 rw [<- hG] at hrz
 obtain ⟨ROW,hROW⟩:∃ROW:Array Value,ROW=#[]++Builtin.zeroCells Value.nilIface.cells n++Builtin.zeroCells Value.nilIface.cells (G-n):=⟨_,rfl⟩
 rw [<- hROW] at hrz
 have HO:Hid ((w.drew.alloc (.cells ROW 68)).ownsRow w.heap.size 68 1 (.slice (some ⟨w.heap.size,0,none⟩) 0 G) 0 []):=by
  refine ⟨rfl,Or.inr ⟨w.heap.size,G,ROW,rfl,Nat.le_refl _,blk_alloc_new w.drew _,Nat.zero_le _,by unfold maxLen;omega,?_,by simp⟩⟩
  rw [hROW]
  simp [Builtin.zeroCells,Value.cells]
  omega
 have HBl:Hid (Below w.heap.size w (w.drew.alloc (.cells ROW 68))):=(Below.refl w.heap.size w).drew.trans (show Below w.heap.size w.drew _ from below_alloc w.drew _)
 have i1:¬ (n:Int)<0:=by omega
 have i2:(0:Int)<(n:Int):=by omega
 have i1d:decide ((n:Int)<0)=false:=decide_eq_false i1
 have i2d:decide ((0:Int)<(n:Int))=true:=decide_eq_true i2
 clear hROW hG hi0 hz0 hzs hzb
 go_enter Tryz.func170,Tryz.ntmps170
 go_wp2_with (at_builtin;refine Lib.wpList_append_run _ rfl _ _ _ _ rfl _ _ rfl rfl _ _ (hrz _) ?_)
 go_ret
 exact ⟨G,rfl,HO.out,HBl.out⟩

set_option maxHeartbeats 4000000 in
theorem concatN_any (g c n1 n2 c1 c2:Nat) (a1 a2:Option Addr) (xs ys:List Value) (w:World) (hg0:w.cell? ⟨g,0,none⟩=some (.slice a1 n1 c1)) (hg1:w.cell? ⟨g,1,none⟩=some (.slice a2 n2 c2)) (h1:RdV w a1 n1 xs) (h2:RdV w a2 n2 ys) (h0:0<n1+n2) (hn:n1+n2<=1000) :
  Calls Tryz.prog 163 #[.slice (some ⟨g,0,none⟩) 2 c] w fun e w'=>∃gg cc,e=.returned (.slice (some ⟨gg,0,none⟩) (n1+n2) cc)/\w'.ownsRow w.heap.size 68 1 (.slice (some ⟨gg,0,none⟩) (n1+n2) cc) (n1+n2) (xs++ys)/\Below w.heap.size w w':=by
 have HC:Hid (∀W,Below w.heap.size w W->W.cell? ⟨g,0,none⟩=some (.slice a1 n1 c1)/\W.cell? ⟨g,1,none⟩=some (.slice a2 n2 c2)/\RdV W a1 n1 xs/\RdV W a2 n2 ys):=by
  intro W hW
  have hl:=World.block_lt_of_cell? _ _ hg0
  exact ⟨(hW.cell (p:=⟨g,0,none⟩) hl).trans hg0,(hW.cell (p:=⟨g,1,none⟩) hl).trans hg1,h1.below hW,h2.below hW⟩
 clear h1 h2
 go_enter Tryz.func163,Tryz.ntmps163
 go_wp2
 go_loopw [3,11] (fun q i wr=>∃k:Nat,k<=2/\i=.int .i64 k/\q=.int .i64 (((if k=0 then 0 else if k=1 then n1 else n1+n2:Nat)):Int)/\wr=w) (fun _ i _=>2-(intOf i).toNat)
 case atStart=>exact ⟨0,by omega,rfl,rfl,rfl⟩
 case round=>
  obtain ⟨k,hk,rfl,rfl,hw⟩:=hrel
  have hw':=hw.symm
  clear hw
  subst hw'
  by_cases k0:k=0
  ·subst k0
   go_wp2
   go_roundw
   case rel=>exact ⟨1,by omega,by go_num,by first|go_num|simp,by simp⟩
   case measure=>simp [intOf]
  ·by_cases k1:k=1
   ·subst k1
    have i1:¬ ((n1:Int)+(n2:Int))<0:=by omega
    have i1d:decide (((n1:Int)+(n2:Int))<0)=false:=decide_eq_false i1
    go_wp2
    go_roundw
    case rel=>exact ⟨2,by omega,by go_num,by first|go_num|simp,by simp⟩
    case measure=>simp [intOf]
   ·have k2:k=2:=by omega
    subst k2
    have HGr:Hid (Calls Tryz.prog 170 #[.slice none 0 0,.int .i64 ((n1:Int)+(n2:Int))] w fun e w'=>∃c,e=.returned (.slice (some ⟨w.heap.size,0,none⟩) 0 c)/\w'.ownsRow w.heap.size 68 1 (.slice (some ⟨w.heap.size,0,none⟩) 0 c) 0 []/\Below w.heap.size w w'):=by
     have:=growN_any (n1+n2) h0 hn w
     rw [show (((n1+n2:Nat)):Int)=(n1:Int)+(n2:Int) by omega] at this
     exact this
    clear hg0 hg1
    go_wp2_with fail
    (with_reducible refine HGr.out.mono ?_)
    rintro e w1 ⟨gc,rfl,ho1,hb1⟩
    have H1:Hid (w1.ownsRow w.heap.size 68 1 (.slice (some ⟨w.heap.size,0,none⟩) 0 gc) 0 []/\Below w.heap.size w w1):=⟨ho1,hb1⟩
    clear ho1 hb1 HGr
    go_wp2
    go_loopw [6,27] (fun q i wx=>∃(k nv cv:Nat) (av:Option Addr),k<=2/\i=.int .i64 k/\q=.slice av nv cv/\nv=(if k=0 then 0 else if k=1 then n1 else n1+n2)/\wx.ownsRow w.heap.size 68 1 (.slice av nv cv) nv (if k=0 then [] else if k=1 then xs else xs++ys)/\Below w.heap.size w wx) (fun _ i _=>2-(intOf i).toNat)
    case atStart=>exact ⟨0,0,_,_,by omega,rfl,rfl,rfl,H1.out.1,H1.out.2⟩
    case round=>
     obtain ⟨k,nv,cv,av,hk,rfl,rfl,hnv,ho,hb⟩:=hrel
     have HS:Hid (wr.ownsRow w.heap.size 68 1 (.slice av nv cv) nv (if k=0 then [] else if k=1 then xs else xs++ys)/\Below w.heap.size w wr):=⟨ho,hb⟩
     obtain ⟨y0,y1,r1,r2⟩:=HC.out wr hb
     have HR:Hid (RdV wr a1 n1 xs/\RdV wr a2 n2 ys):=⟨r1,r2⟩
     have hbs:=hb.size
     clear ho hb r1 r2
     by_cases k0:k=0
     ·subst k0
      have e0:nv=0:=by simpa using hnv
      subst e0
      clear hnv
      go_wp2_with (at_builtin;refine wpList_append_vN rfl _ _ rfl w.heap.size (.slice av 0 cv) 0 [] rfl HS.out.1 a1 n1 c1 xs rfl HR.out.1 (by omega) hbs ?_)
      intro v' w' ho' hg'
      obtain ⟨av',cv',ev,_⟩:=own_form ho'
      subst ev
      have HX:Hid (w'.ownsRow w.heap.size 68 1 (.slice av' (0+n1) cv') (0+n1) xs/\Below w.heap.size w w'):=⟨by simpa using ho',HS.out.2.grown hg' hbs (fun g e=>(own_lt HS.out.1 g e).1)⟩
      clear ho' hg'
      go_wp2
      go_roundw
      case rel=>exact ⟨1,0+n1,cv',av',by omega,by go_num,by simp,by simp,HX.out⟩
      case measure=>simp [intOf]
     ·by_cases k1:k=1
      ·subst k1
       have e1:nv=n1:=by simpa using hnv
       subst e1
       clear hnv
       go_wp2_with (at_builtin;refine wpList_append_vN rfl _ _ rfl w.heap.size (.slice av nv cv) nv xs rfl HS.out.1 a2 n2 c2 ys rfl HR.out.2 (by omega) hbs ?_)
       intro v' w' ho' hg'
       obtain ⟨av',cv',ev,_⟩:=own_form ho'
       subst ev
       have HX:Hid (w'.ownsRow w.heap.size 68 1 (.slice av' (nv+n2) cv') (nv+n2) (xs++ys)/\Below w.heap.size w w'):=⟨ho',HS.out.2.grown hg' hbs (fun g e=>(own_lt HS.out.1 g e).1)⟩
       clear ho' hg'
       go_wp2
       go_roundw
       case rel=>exact ⟨2,nv+n2,cv',av',by omega,by go_num,rfl,by simp,HX.out⟩
       case measure=>simp [intOf]
      ·have k2:k=2:=by omega
       subst k2
       have e2:nv=n1+n2:=by simpa using hnv
       subst e2
       clear hnv
       obtain ⟨av',cv',e,hf⟩:=own_form HS.out.1
       injection e with e1 _ e3
       subst e1 e3
       obtain ⟨gg,rfl,_⟩:=hf (by omega)
       go_wp2
       go_ret
       exact ⟨gg,cv,rfl,by simpa using HS.out.1,HS.out.2⟩

set_option maxHeartbeats 1000000 in
theorem cutN_any (g n c k:Nat) (w:World) (hk:k<=n) (hn:n<=c) (hkn:k<n) :
  Calls Tryz.prog 162 #[.slice (some ⟨g,0,none⟩) n c,.int .i64 (k:Int)] w fun e w'=>e=.returned (.tuple #[.slice (some ⟨g,0,none⟩) k k,.slice (some ⟨g,k,none⟩) (n-k) (c-k)])/\w'=w.drew:=by
 have s1:∀W:World,(Instr.sliceAt 175 (.slice (some ⟨g,0,none⟩) n c) none (some (.int .i64 (k:Int))) (some (.int .i64 (k:Int)))).run Tryz.prog W=.ok (.slice (some ⟨g,0,none⟩) k k) W:=by
  intro W
  have hkc:k<=c:=by omega
  simp [Instr.sliceAt,Instr.slice,go_sem,hkc]
 have s2:∀W:World,(Instr.sliceAt 175 (.slice (some ⟨g,0,none⟩) n c) (some (.int .i64 (k:Int))) none none).run Tryz.prog W=.ok (.slice (some ⟨g,k,none⟩) (n-k) (c-k)) W:=by
  intro W
  have hkc:¬ c=k:=by omega
  simp [Instr.sliceAt,Instr.slice,go_sem,hkc,hk]
 go_enter Tryz.func162,Tryz.ntmps162
 go_wp2
 go_region_held3 (fun _=>True) (go_keep) (fail)
 go_wp2
 refine bodyPost_ret (v:=.tuple #[.slice (some ⟨g,0,none⟩) k k,.slice (some ⟨g,k,none⟩) (n-k) (c-k)]) (by simp [results,Tryz.results162,go_sem]) rfl ⟨rfl,rfl⟩

theorem TOw.mono {B B' : Nat} {w:World} (hB:B'<=B):∀{d:Nat} {t:Ro d} {v:Value} {bs:List Nat},TOw B w d t v bs->TOw B' w d t v bs
 | 0,_,_,_,h=>h
 | d+1,.inl t,v,bs,h=>by
  obtain ⟨b,ka,kc,rfl,hb,hx,ho,rfl⟩:=h
  exact ⟨b,ka,kc,rfl,by omega,hx,ho.mono hB,rfl⟩
 | d+1,.inr l,v,bs,h=>by
  obtain ⟨b,g,kc,xs,bss,rfl,hb,hx,ho,hl,hbl,rfl,hall⟩:=h
  refine ⟨b,g,kc,xs,bss,rfl,by omega,hx,ho.mono hB,hl,hbl,rfl,fun k h=>?_⟩
  obtain ⟨u,us,e1,e2,e3⟩:=hall k h
  exact ⟨u,us,e1,e2,TOw.mono hB e3⟩

structure InSo (w wr:World) (rb nb:Nat) (nd:Array Value) (d:Nat) (ts:List (Ro d)) (k:Nat) (ca:Option Addr) (cc:Nat) (xs:List Value) (bss:List (List Nat)):Prop where
 st:InSt w wr rb nb nd d ts k ca cc xs
 bl:bss.length=ts.length
 ndp:bss.flatten.Nodup
 av:∀bb,bb∈bss.flatten->nb+1<=bb/\bb<wr.heap.size/\(Value.slice ca k cc).ownBlock≠some bb
 own:∀j (h:j<ts.length),∃u us,xs[j]?=some u/\bss[j]?=some us/\TOw (nb+1) wr d ts[j] u us

theorem mem_flat {bss:List (List Nat)} {us:List Nat} {j:Nat} (h:bss[j]?=some us) {b:Nat} (hb:b∈us):b∈bss.flatten:=by
 rw [List.mem_flatten]
 exact ⟨us,List.mem_of_getElem? h,hb⟩

theorem InSo.read {w wr w1:World} {rb nb:Nat} {nd:Array Value} {d:Nat} {ts:List (Ro d)} {k:Nat} {ca:Option Addr} {cc:Nat} {xs:List Value} {bss:List (List Nat)} (h:InSo w wr rb nb nd d ts k ca cc xs bss) (hg:wr.grownBy w1 (some rb)):InSo w w1 rb nb nd d ts k ca cc xs bss:=by
 have h1:=h.st.rlt
 have h2:=h.st.lt
 have hz:=hg.size
 refine ⟨h.st.read hg,h.bl,h.ndp,fun bb hb=>?_,fun j hj=>?_⟩
 ·obtain ⟨q1,q2,q3⟩:=h.av bb hb
  exact ⟨q1,by omega,q3⟩
 ·obtain ⟨u,us,e1,e2,e3⟩:=h.own j hj
  refine ⟨u,us,e1,e2,e3.keep (fun bb hb=>?_)⟩
  obtain ⟨q1,q2,q3⟩:=h.av bb (mem_flat e2 hb)
  exact hg.block bb q2 (fun e=>by injection e with e;omega)

theorem InSo.grow {w wr w1 w5:World} {rb nb:Nat} {nd:Array Value} {d:Nat} {ts:List (Ro d)} {k:Nat} {ca:Option Addr} {cc:Nat} {xs:List Value} {bss:List (List Nat)} (h:InSo w wr rb nb nd d ts k ca cc xs bss) (hg0:wr.grownBy w1 (some rb)) {t:Ro d} {v:Value} {us0:List Nat} (ht:TOw wr.heap.size w1 d t v us0) (hnd:us0.Nodup) {O:Obj} (hg:(w1.alloc O).grownBy w5 (Value.slice ca k cc).ownBlock) {a' : Option Addr} {c' : Nat}
  (ho:w5.ownsRow (nb+1) 68 1 (.slice a' (k+1) c') (k+1) (xs++[v])) (hat:(Value.slice a' (k+1) c').ownBlock=(Value.slice ca k cc).ownBlock\/(Value.slice a' (k+1) c').ownBlock=some (w1.alloc O).heap.size) :
  InSo w (w5.setCell ⟨nb,1,none⟩ (.slice a' (k+1) c')) rb nb nd d (ts++[t]) (k+1) a' c' (xs++[v]) (bss++[us0]):=by
 have h1:=h.st.rlt
 have h2:=h.st.lt
 have hr:=h.read hg0
 have hlo:=own_lt h.st.own
 have hz0:=hg0.size
 have hz:=hg.size
 have hnl:=h.st.nbx.lt
 have hza:(w1.alloc O).heap.size=w1.heap.size+1:=by simp
 have hlt0:=TOw.lt ht
 have hb5:∀bb,bb<w1.heap.size->(Value.slice ca k cc).ownBlock≠some bb->bb≠nb->(w5.setCell ⟨nb,1,none⟩ (.slice a' (k+1) c')).heap[bb]?=w1.heap[bb]?:=fun bb hlt hn1 hn2=>by
  rw [Below.heap_setCell _ _ _ _ (show bb≠nb from hn2),hg.block bb (by omega) (fun e=>hn1 e.symm),Below.heap_alloc _ _ _ hlt]
 have hs5:(w5.setCell ⟨nb,1,none⟩ (.slice a' (k+1) c')).heap.size=w5.heap.size:=by simp [World.setCell]
 have hnew:∀bb,bb<w1.heap.size->(Value.slice ca k cc).ownBlock≠some bb->(Value.slice a' (k+1) c').ownBlock≠some bb:=fun bb hlt hn=>by
  rcases hat with e|e
  ·rw [e];exact hn
  ·rw [e]
   intro q
   injection q with q
   omega
 have hold:∀bb,wr.heap.size<=bb->(Value.slice ca k cc).ownBlock≠some bb:=fun bb hle e=>by have:=hlo bb e;omega
 refine ⟨h.st.grow hg0 (TAt.mono (Nat.le_refl _) (fun bb hb _=>⟨(hlt0 bb hb).1,rfl⟩) (TOw.tat ht)) hg ho hat,by rw [List.length_append,List.length_append,h.bl];rfl,?_,fun bb hb=>?_,fun j hj=>?_⟩
 ·rw [List.flatten_append,List.nodup_append]
  refine ⟨h.ndp,by simpa using hnd,fun x hx y hy e=>?_⟩
  subst e
  have q1:=(h.av x hx).2.1
  have q2:=(hlt0 x (by simpa using hy)).1
  omega
 ·rw [List.flatten_append,List.mem_append] at hb
  rcases hb with hb|hb
  ·obtain ⟨q1,q2,q3⟩:=hr.av bb hb
   exact ⟨q1,by rw [hs5];omega,hnew bb q2 q3⟩
  ·obtain ⟨q1,q2⟩:=hlt0 bb (by simpa using hb)
   exact ⟨by omega,by rw [hs5];omega,hnew bb q2 (hold bb q1)⟩
 ·rw [List.length_append] at hj
  simp at hj
  have hxl:xs.length=k:=by have:=h.st.own.1;omega
  have hlen:=h.st.len
  by_cases e:j=ts.length
  ·subst e
   refine ⟨v,us0,by rw [hlen,List.getElem?_append_right (by omega),hxl];simp,by rw [List.getElem?_append_right (by rw [h.bl];omega),h.bl];simp,?_⟩
   rw [List.getElem_append_right (by omega)]
   simp only [Nat.sub_self,List.getElem_cons_zero]
   refine TOw.mono (by omega) (TOw.keep ht (fun bb hb=>?_))
   obtain ⟨q1,q2⟩:=hlt0 bb hb
   exact hb5 bb q2 (hold bb q1) (by omega)
  ·obtain ⟨u,us,e1,e2,e3⟩:=hr.own j (by omega)
   refine ⟨u,us,by rw [List.getElem?_append_left (by omega)];exact e1,by rw [List.getElem?_append_left (by rw [h.bl];omega)];exact e2,?_⟩
   rw [List.getElem_append_left (by omega)]
   refine TOw.keep e3 (fun bb hb=>?_)
   obtain ⟨q1,q2,q3⟩:=hr.av bb (mem_flat e2 hb)
   exact hb5 bb q2 q3 (by omega)

def TOx (B:Nat) (w:World) (d:Nat) (t:Ro d) (v:Value):Prop:=∃bs:List Nat,bs.Nodup/\TOw B w d t v bs
theorem TOx.below {B:Nat} {w w' : World} {d:Nat} {t:Ro d} {v:Value} (h:TOx B w d t v) (hb:Below w.heap.size w w'):TOx B w' d t v:=
 let ⟨bs,h1,h2⟩:=h
 ⟨bs,h1,h2.below hb⟩
theorem TOx.tat {B:Nat} {w:World} {d:Nat} {t:Ro d} {v:Value} (h:TOx B w d t v):TAt (fun b=>B<=b) w d t v:=
 let ⟨bs,h1,h2⟩:=h
 TAt.mono (Nat.le_refl _) (fun bb hb _=>⟨(TOw.lt h2 bb hb).1,rfl⟩) (TOw.tat h2)
def InSx (w wr:World) (rb nb:Nat) (nd:Array Value) (d:Nat) (ts:List (Ro d)) (k:Nat) (ca:Option Addr) (cc:Nat) (xs:List Value):Prop:=∃bss,InSo w wr rb nb nd d ts k ca cc xs bss

section
variable {w wr w1 w2 w5:World} {rb nb:Nat} {nd:Array Value} {d:Nat} {ts:List (Ro d)} {k:Nat} {ca:Option Addr} {cc:Nat} {xs:List Value}
theorem InSx.st (h:InSx w wr rb nb nd d ts k ca cc xs):InSt w wr rb nb nd d ts k ca cc xs:=let ⟨_,h⟩:=h;h.st
theorem InSx.read (h:InSx w wr rb nb nd d ts k ca cc xs) (hg:wr.grownBy w1 (some rb)):InSx w w1 rb nb nd d ts k ca cc xs:=let ⟨bss,h⟩:=h;⟨bss,h.read hg⟩
theorem InSx.nil (h:InSt w wr rb nb nd d [] 0 none 0 []):InSx w wr rb nb nd d [] 0 none 0 []:=⟨[],h,rfl,by simp,fun bb hb=>by simp at hb,fun j hj=>absurd hj (Nat.not_lt_zero _)⟩
theorem InSx.grow (h:InSx w wr rb nb nd d ts k ca cc xs) (hg0:wr.grownBy w1 (some rb)) {t:Ro d} {v:Value} (ht:TOx wr.heap.size w1 d t v) {O:Obj} (hg:(w1.alloc O).grownBy w5 (Value.slice ca k cc).ownBlock) {a' : Option Addr} {c' : Nat}
  (ho:w5.ownsRow (nb+1) 68 1 (.slice a' (k+1) c') (k+1) (xs++[v])) (hat:(Value.slice a' (k+1) c').ownBlock=(Value.slice ca k cc).ownBlock\/(Value.slice a' (k+1) c').ownBlock=some (w1.alloc O).heap.size) :
  InSx w (w5.setCell ⟨nb,1,none⟩ (.slice a' (k+1) c')) rb nb nd d (ts++[t]) (k+1) a' c' (xs++[v]):=
 let ⟨bss,h⟩:=h
 let ⟨us,h1,h2⟩:=ht
 ⟨bss++[us],h.grow hg0 h2 h1 hg ho hat⟩
theorem InSx.fin {g:Nat} {A:Int} (h:InSx w wr rb nb nd d ts k (some ⟨g,0,none⟩) cc xs) (hgr:wr.grownBy w2 (some nb)) (hx:Bx w2 nb 179 #[.int .i64 A,.slice (some ⟨g,0,none⟩) k cc]) (hA:A=((ts.flatMap (keysR d)).length:Int)) (hk:0<k):TOx w.heap.size w2.drew (d+1) (.inr ts) (.iface 174 (.pointer (some ⟨nb,0,none⟩))):=by
 obtain ⟨bss,h⟩:=h
 have hlt:=h.st.lt
 have hgo:=own_lt h.st.own g rfl
 have hlen:=h.st.len
 refine ⟨nb::g::bss.flatten,?_,nb,g,cc,xs,bss,rfl,by omega,?_,?_,by omega,h.bl,rfl,fun j hj=>?_⟩
 ·rw [List.nodup_cons,List.nodup_cons]
  refine ⟨fun hm=>?_,fun hm=>(h.av g hm).2.2 rfl,h.ndp⟩
  rw [List.mem_cons] at hm
  rcases hm with hm|hm
  ·omega
  ·have:=(h.av nb hm).1
   omega
 ·rw [<- hA,hlen]
  exact hx
 ·rw [hlen]
  refine World.ownsRow.mono (base:=nb+1) (own_keep h.st.own (fun g' e=>?_)) (by omega)
  injection e with e
  subst e
  exact hgr.block g hgo.2 (fun e=>by injection e with e;omega)
 ·obtain ⟨u,us,e1,e2,e3⟩:=h.own j hj
  refine ⟨u,us,e1,e2,TOw.mono (show w.heap.size<=nb+1 by omega) (TOw.keep e3 (fun bb hb=>?_))⟩
  obtain ⟨q1,q2,q3⟩:=h.av bb (mem_flat e2 hb)
  exact hgr.block bb q2 (fun e=>by injection e with e;omega)
end
end Go.Proofs.YtcnollkkigiobaaGreat
