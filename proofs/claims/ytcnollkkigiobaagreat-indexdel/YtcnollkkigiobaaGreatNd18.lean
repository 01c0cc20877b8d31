import Derived.Test.YtcnollkkigiobaaGreatNd9
import Derived.Test.YtcnollkkigiobaaGreatNd15
import Derived.Test.YtcnollkkigiobaaGreatNd17
import Derived.Test.YtcnollkkigiobaaGreatNd7
import Derived.Test.YtcnollkkigiobaaGreatNd1
import Derived.Test.YtcnollkkigiobaaGreatNd13
import Derived.Test.YtcnollkkigiobaaGreatNd5
import Derived.Deep.QuietTactic
import Derived.BigQuiet
import Derived.Maps.Own
import Derived.MapKept
set_option linter.unusedVariables false
set_option maxRecDepth 100000
namespace Go.Proofs.YtcnollkkigiobaaGreat
open Go.RowKit Go.Deep

def RetTl (w:World) (B:Nat) (v:Value) (n:Nat) (N:Nat->Tn) (KA DA:Nat->Option Addr) (m:Nat) (P:(Nat->Tn)->Prop) (e:Ending) (w' : World):Prop:=
 ∃v' N' KA' DA' KC' DC',e=.returned v'/\GT w' B v' (n+m) N' KA' DA' KC' DC'/\w.grownBy w' v.ownBlock/\(v'.ownBlock=v.ownBlock\/∃g,v'.ownBlock=some g/\w.heap.size<=g)/\(∀i,i<n->N' i=N i/\KA' i=KA i/\DA' i=DA i)/\
  (∀i,n<=i->i<n+m->((N' i).kn≠0->∃g,KA' i=some ⟨g,0,none⟩/\w.heap.size<=g)/\((N' i).dn≠0->∃g,DA' i=some ⟨g,0,none⟩/\w.heap.size<=g))/\P N'

theorem own_ownS {w:World} {B n c:Nat} {a:Option Addr} {L:List ByteArray} (h:w.ownsRow B 9 1 (.slice a n c) n (strL L)) (hn:n=L.length):OwnS w B a n (gt L):=by
 obtain ⟨a',c',e,q,_⟩:=ownS_strL h hn
 injection e with e
 subst e
 rw [hn]
 exact q

theorem GT.more {w w1 w' : World} {B:Nat} {ra:Option Addr} {rc:Nat} {v' : Value} {n:Nat} {N:Nat->Tn} {KA DA:Nat->Option Addr} {KC DC:Nat->Nat} (h:GT w B (.slice ra n rc) n N KA DA KC DC) (hB:B<=w.heap.size) (hb:Below w.heap.size w w1) (x:Tn) (ka da:Option Addr) (kc dc:Nat) (hk:OwnS w1 w.heap.size ka x.kn x.ks) (hd:OwnI w1 w.heap.size da x.dn x.kd)
  (ho:w'.ownsRow B 168 4 v' (n+1) ((List.range (n*4)).map (tnCell N KA DA KC DC)++[.bool x.lf,.slice ka x.kn kc,.slice da x.dn dc,.int .i64 x.ct])) {O:Obj} (hg:(w1.alloc O).grownBy w' (Value.slice ra n rc).ownBlock) (hat:v'.ownBlock=(Value.slice ra n rc).ownBlock\/v'.ownBlock=some (w1.alloc O).heap.size) {P:(Nat->Tn)->Prop} (hP:P (fun i=>if i=n then x else N i)) :
  RetTl w B (.slice ra n rc) n N KA DA 1 P (.returned v') w':=by
 have hs:=hb.size
 have hbA:Below w.heap.size w (w1.alloc O):=hb.alloc hs O
 have newK:x.kn≠0->∃g,ka=some ⟨g,0,none⟩/\w.heap.size<=g:=fun h0=>by
  obtain ⟨g,e,hg,_⟩:=hk.resolve_left h0
  exact ⟨g,e,hg⟩
 have newD:x.dn≠0->∃g,da=some ⟨g,0,none⟩/\w.heap.size<=g:=fun h0=>by
  obtain ⟨g,e,hg,_⟩:=hd.resolve_left h0
  exact ⟨g,e,hg⟩
 have gt1:=(h.below hbA).push x ka da kc dc ((hk.below (below_alloc _ _)).mono hB) ((hd.below (below_alloc _ _)).mono hB) (fun i hi h1 h2 e=>by
   obtain ⟨g,e2,hg2⟩:=newK h2
   have:=(h.used (.inr (.inl ⟨i,hi,h1,by rw [e,e2]⟩))).2
   omega) (fun i hi h1 h2 e=>by
   obtain ⟨g,e2,hg2⟩:=newD h2
   have:=(h.used (.inr (.inr ⟨i,hi,h1,by rw [e,e2]⟩))).2
   omega) ho hg
 refine ⟨v',_,_,_,_,_,rfl,gt1,⟨hg.os.trans hbA.os,hg.tape.trans hbA.tape,hg.output.trans hbA.output,by have:=hg.size;have:=hbA.size;omega,fun k hk hne=>(hg.block k (by have:=hbA.size;omega) hne).trans (hbA.block k hk)⟩,?_,fun i hi=>?_,fun i h1 h2=>?_,hP⟩
 ·rcases hat with e|e
  ·exact .inl e
  ·exact .inr ⟨_,e,hbA.size⟩
 ·have:i≠n:=by omega
  simp only [this,if_false]
  exact ⟨trivial,trivial,trivial⟩
 ·have:i=n:=by omega
  subst this
  simp only [if_true]
  exact ⟨newK,newD⟩

set_option maxHeartbeats 8000000 in
theorem tellLeaf_any (d b:Nat) (t:List ByteArray) (S:Nat->Prop) (w:World) (h:TAo S w (d+1) (.inl t) (.iface 204 (.pointer (some ⟨b,0,none⟩)))) (B n rc:Nat) (ra:Option Addr) (N:Nat->Tn) (KA DA:Nat->Option Addr) (KC DC:Nat->Nat) (hg:GT w B (.slice ra n rc) n N KA DA KC DC) (hB:B<=w.heap.size) (ht:t.length<=1000) (hn:n<=100000) :
  Calls Tryz.prog 209 #[.pointer (some ⟨b,0,none⟩),.slice ra n rc] w (RetTl w B (.slice ra n rc) n N KA DA 1 (fun N'=>Tells N' 0 (d+1) (.inl t) n)):=by
 obtain ⟨b',ka,kc,e,_,hx,hcap,hr⟩:=h
 injection e with _ e
 injection e with e
 injection e with e
 injection e with e
 subst e
 obtain ⟨m,hm⟩:∃m,m=t.length:=⟨_,rfl⟩
 rw [<- hm] at hx hr hcap ht
 have HX:Hid (Bx w b 206 #[.int .i64 (m:Int),.slice ka m kc]/\RdS w ka m (gt t)):=⟨hx,hr.rdS⟩
 have HM:Hid (m=t.length):=hm
 have HG:Hid (GT w B (.slice ra n rc) n N KA DA KC DC):=hg
 have HCp:Hid (Calls Tryz.prog 119 #[.slice ka m kc] w.drew fun e w'=>∃a' c',e=.returned (.slice a' m c')/\w'.ownsRow w.drew.heap.size 9 1 (.slice a' m c') m (strL t)/\Below w.drew.heap.size w.drew w'):=copyStrs_any ka m kc t w.drew (hr.rdS.below (Below.refl _ _).drew) hm (by omega)
 have c0:w.drew.cell? ⟨b,0,none⟩=some (.int .i64 (m:Int)):=by have:=hx.cell 0;simpa using this
 have c1:w.drew.cell? ⟨b,1,none⟩=some (.slice ka m kc):=by have:=hx.cell 1;simpa using this
 have cz:=hx.lt
 clear hx hr hg hm hcap
 go_enter Tryz.func209,Tryz.ntmps209
 go_upto_region 1 with fail
 refine wp_region_late (S:=fun w'=>w'.cell? ⟨b,0,none⟩=some (.int .i64 (m:Int))/\w'.cell? ⟨b,1,none⟩=some (.slice ka m kc)) 13 (by kernel_rfl) ⟨c0,c1⟩ (fun hHeld=>?_)
 refine tk 0 .zero (v:=?_) ?_ ?_
 rotate_left
 ·(intro w h;(try dsimp only at h);go_simp) <;> with_reducible rfl
 simp only [tkp]
 refine tk 1 (.succ .zero) (v:=?_) ?_ ?_
 rotate_left
 ·(intro w h;(try dsimp only at h);go_simp) <;> with_reducible rfl
 simp only [tkp]
 refine tk 2 (.succ (.succ .zero)) (v:=?_) ?_ ?_
 rotate_left
 ·(intro w h;(try dsimp only at h);go_simp) <;> with_reducible rfl
 simp only [tkp]
 refine tk 3 (.succ (.succ (.succ .zero))) (v:=?_) ?_ ?_
 rotate_left
 ·(intro w h;(try dsimp only at h);go_simp) <;> with_reducible rfl
 simp only [tkp]
 refine tk 4 (.succ (.succ (.succ (.succ .zero)))) (v:=?_) ?_ ?_
 rotate_left
 ·(intro w h;(try dsimp only at h);go_simp) <;> with_reducible rfl
 simp only [tkp]
 refine tk 6 (.s5 (.succ .zero)) (v:=?_) ?_ ?_
 rotate_left
 ·(intro w h;(try dsimp only at h);go_simp) <;> with_reducible rfl
 simp only [tkp]
 refine tk 7 (.s5 (.succ (.succ .zero))) (v:=?_) ?_ ?_
 rotate_left
 ·(intro w h;(try dsimp only at h);go_simp) <;> with_reducible rfl
 simp only [tkp]
 refine tk 8 (.s5 (.succ (.succ (.succ .zero)))) (v:=?_) ?_ ?_
 rotate_left
 ·(intro w h;(try dsimp only at h);go_simp) <;> with_reducible rfl
 simp only [tkp]
 refine tk1 5 (.s5 .zero) (fun K hK=>?_)
 refine step_t1 (by rfl) 119 9 _ (by rfl) (.slice ka m kc) (by rfl) (fun _ _=>by rfl) ?_
 (with_reducible refine HCp.out.mono ?_)
 rintro e w1 ⟨a1,c1',rfl,ho1,hb1⟩
 refine ⟨_,rfl,?_⟩
 have H1:Hid (w1.ownsRow w.heap.size 9 1 (.slice a1 m c1') m (strL t)/\Below w.heap.size w w1):=⟨ho1,below_undrew hb1⟩
 have d0:w1.cell? ⟨b,0,none⟩=some (.int .i64 (m:Int)):=(H1.out.2.cell (p:=⟨b,0,none⟩) cz).trans c0
 have d1:w1.cell? ⟨b,1,none⟩=some (.slice ka m kc):=(H1.out.2.cell (p:=⟨b,1,none⟩) cz).trans c1
 clear ho1 hb1
 refine hK.out _ _ ?_ (fun hG=>?_)
 ·(intro _;exact ⟨d0,d1⟩)
 clear hK K
 replace hHeld:=hG (by decide)
 clear hG
 try simp only [tkp]
 refine tk1 9 (.s5 (.succ (.succ (.succ (.succ .zero))))) (fun K hK=>?_)
 refine step_t1 (by rfl) 157 13 _ (by rfl) (.pointer (some ⟨b,0,none⟩)) (by rfl) (fun _ _=>by rfl) ?_
 refine (below_any b (m:Int) w1 d0).mono ?_
 rintro e w2 ⟨rfl,hw2⟩
 subst hw2
 refine ⟨_,rfl,?_⟩
 refine hK.out _ _ ?_ (fun hG=>?_)
 ·(intro _;exact ⟨d0,d1⟩)
 clear hK K
 replace hHeld:=hG (by decide)
 clear hG
 try simp only [tkp]
 refine tk1 10 (.s5 (.s5 .zero)) (fun K hK=>?_)
 go_simp
 refine hK.out _ _ ?_ (fun hG=>?_)
 ·(intro _;exact hHeld)
 clear hK K
 replace hHeld:=hG (by decide)
 clear hG
 try simp only [tkp]
 refine tk1 11 (.s5 (.s5 (.succ .zero))) (fun K hK=>?_)
 go_simp
 refine hK.out _ _ ?_ (fun hG=>?_)
 ·(intro _;exact ⟨((below_alloc w2 _).cell (p:=⟨b,0,none⟩) (by have:=H1.out.2.size;show b<w2.heap.size;omega)).trans d0,((below_alloc w2 _).cell (p:=⟨b,1,none⟩) (by have:=H1.out.2.size;show b<w2.heap.size;omega)).trans d1⟩)
 clear hK K
 replace hHeld:=hG (by decide)
 clear hG
 try simp only [tkp]
 refine tk1 12 (.s5 (.s5 (.succ (.succ .zero)))) (fun K hK=>?_)
 refine step_app_node (by rfl) (.tmp 5) (.tmp 16) (by rfl) B (.slice ra n rc) n _ (by rfl) (own_below (own_below HG.out.row H1.out.2) (below_alloc _ _)) w2.heap.size 1 (.bool true) (.slice a1 m c1') (.slice none 0 0) (.int .i64 (m:Int)) (by rfl) (fun j u hj=>by rw [(Bx.new w2 #[.bool true,.slice a1 m c1',.slice none 0 0,.int .i64 (m:Int)] 168).cell j];simpa using hj) (by intro u hu;simp at hu;rcases hu with rfl|rfl|rfl|rfl <;> rfl) (by omega) (by have:=H1.out.2.size;simp;omega) ?_
 intro v3 w3 ho3 hg3 hat3
 have HR:Hid (RetTl w B (.slice ra n rc) n N KA DA 1 (fun N'=>Tells N' 0 (d+1) (.inl t) n) (.returned v3) w3):=by
  refine GT.more HG.out hB H1.out.2 ⟨true,m,gt t,0,fun _=>0,(m:Int)⟩ a1 none c1' 0 (own_ownS H1.out.1 HM.out) (.inl rfl) ho3 hg3 hat3 ?_
  refine ⟨by simp,by simp;exact HM.out,fun j hj=>by simp,by simp,by simp;rw [<- HM.out]⟩
 have k3:w3.cell? ⟨b,0,none⟩=some (.int .i64 (m:Int))/\w3.cell? ⟨b,1,none⟩=some (.slice ka m kc):=by
  have bx:rowIn w2 b 206 0 (fun _=>undef):=by
   have q:=HX.out.1.below H1.out.2
   exact ⟨_,q,Nat.zero_le _,fun i hi=>absurd hi (Nat.not_lt_zero _)⟩
  have hne:=row_not (own_below HG.out.row H1.out.2) bx (by decide)
  have q:=((HX.out.1.below H1.out.2).alloc (.cells #[.bool true,.slice a1 m c1',.slice none 0 0,.int .i64 (m:Int)] 168)).grown hg3 hne
  exact ⟨by simpa using q.cell 0,by simpa using q.cell 1⟩
 clear ho3 hg3 hat3
 refine hK.out _ _ ?_ (fun hG=>?_)
 ·(intro _;exact k3)
 clear hK K
 replace hHeld:=hG (by decide)
 clear hG
 try simp only [tkp]
 refine tk1 13 (.s5 (.s5 (.succ (.succ (.succ .zero))))) (fun K hK=>?_)
 go_simp
 refine hK.out _ _ ?_ (fun hG=>?_)
 ·(intro hne;exact absurd rfl hne)
 clear hK K hG
 refine wpLate_done (by kernel_rfl) ?_ _
 go_wp2
 go_ret
 exact HR.out

theorem flat_congr {S T:Type} (f:S->List ByteArray) (g:T->List ByteArray):∀(l:List S) (m:List T),l.length=m.length->(∀k (h:k<l.length) (h' : k<m.length),f l[k]=g m[k])->l.flatMap f=m.flatMap g
 | [],[],_,_=>rfl
 | [],_::_,h,_=>by simp at h
 | _::_,[],h,_=>by simp at h
 | a::l,b::m,h,hf=>by
  rw [List.flatMap_cons,List.flatMap_cons]
  have h0:=hf 0 (by simp) (by simp)
  simp only [List.getElem_cons_zero] at h0
  rw [h0,flat_congr f g l m (by simpa using h) (fun k hk hk'=>by
   have:=hf (k+1) (by simpa using hk) (by simpa using hk')
   simpa using this)]

theorem off_congr {d d' : Nat} {l:List (Ro d)} {m:List (Ro d')} (h:∀j (h:j<l.length) (h' : j<m.length),nodesR d l[j]=nodesR d' m[j]):∀k,k<=l.length->k<=m.length->offR d l k=offR d' m k
 | 0,_,_=>by rw [offR_zero,offR_zero]
 | k+1,h1,h2=>by
  rw [offR_succ d l k (by omega),offR_succ d' m k (by omega),off_congr h k (by omega) (by omega),h k (by omega) (by omega)]

theorem tells_nest {N:Nat->Tn} {n:Nat}:∀{d' d:Nat} {root:Bool} {t:Ro d} {h x:Nat},Tells N 0 d t x->x+nodesR d t<=n->BalR d root t h->h<d'->
  ∃t' : Ro d',nestR N n d' x=some (t',x+nodesR d t)/\keysR d' t'=keysR d t/\nodesR d' t'=nodesR d t/\BalR d' root t' h/\Tells N 0 d' t' x
 | 0,_,_,_,h,_,_,_,_,hd=>by omega
 | d'+1,0,root,t,h,x,ht,hn,hb,hd=>t.elim
 | d'+1,d+1,root,.inl t,h,x,ht,hn,hb,hd=>by
  have h1:nodesR (d+1) (.inl t)=1:=rfl
  have ht2:=ht
  obtain ⟨q1,q2,q3,q4,q5⟩:=ht
  have e:=list_of_ks q2 q3
  refine ⟨.inl t,?_,rfl,rfl,hb,ht2⟩
  unfold nestR
  rw [if_pos (by omega),if_pos q1,if_pos q4,h1,<- e]
 | d'+1,d+1,root,.inr l,h,x,ht,hn,hb,hd=>by
  have h1:nodesR (d+1) (.inr l)=1+(l.map (nodesR d)).sum:=rfl
  obtain ⟨q1,q2,q3,q4,q5,q6,q7⟩:=ht
  obtain ⟨b1,b2,h',rfl,b3⟩:=hb
  have key:∀k,k<=l.length->∃ts:List (Ro d'),kidsF (nestR N n d') (N x).kd (x+1) k=some (ts,x+1+offR d l k)/\ts.length=k/\∀j (h:j<ts.length) (h2:j<l.length),keysR d' ts[j]=keysR d l[j]/\nodesR d' ts[j]=nodesR d l[j]/\BalR d' false ts[j] h'/\Tells N 0 d' ts[j] (x+1+offR d l j):=by
   intro k
   induction k with
   | zero=>
    intro _
    exact ⟨[],by rw [offR_zero];rfl,rfl,fun j hj=>absurd hj (Nat.not_lt_zero _)⟩
   | succ k ih=>
    intro hk
    obtain ⟨ts,e1,e2,e3⟩:=ih (by omega)
    have hkl:k<l.length:=by omega
    have hle:=offR_le d l k hkl
    obtain ⟨t',f1,f2,f3,f4,f5⟩:=tells_nest (n:=n) (d':=d') (q7 k hkl) (by omega) (b3 _ (List.getElem_mem hkl)) (by omega)
    refine ⟨ts++[t'],?_,by rw [List.length_append,e2];rfl,fun j hj hj2=>?_⟩
    ·unfold kidsF
     rw [e1]
     simp only
     rw [if_pos (by rw [q5 k hkl];omega),f1]
     simp only
     rw [offR_succ d l k hkl]
     rw [show x+1+offR d l k+nodesR d l[k]=x+1+(offR d l k+nodesR d l[k]) by omega]
    ·rw [List.length_append] at hj
     simp at hj
     by_cases e:j=k
     ·subst e
      rw [List.getElem_append_right (by omega)]
      simp only [e2,Nat.sub_self,List.getElem_cons_zero]
      exact ⟨f2,f3,f4,f5⟩
     ·rw [List.getElem_append_left (by omega)]
      exact e3 j (by omega) hj2
  obtain ⟨ts,e1,e2,e3⟩:=key l.length (Nat.le_refl _)
  have hoff:∀k,k<=l.length->offR d' ts k=offR d l k:=fun k hk=>off_congr (fun j h h'=>(e3 j h h').2.1) k (by omega) hk
  have hsum:(ts.map (nodesR d')).sum=(l.map (nodesR d)).sum:=by
   have:=hoff l.length (Nat.le_refl _)
   rw [offR_all,<- e2,offR_all] at this
   exact this
  have hflat:ts.flatMap (keysR d')=l.flatMap (keysR d):=flat_congr _ _ ts l e2 (fun k hk hk'=>(e3 k hk hk').1)
  refine ⟨.inr ts,?_,hflat,?_,⟨by omega,by omega,h',rfl,fun t ht=>?_⟩,?_⟩
  ·unfold nestR
   rw [if_pos (by omega),if_neg (by rw [q1];simp),if_neg (by omega),q2,e1]
   simp only
   rw [offR_all,h1]
   rw [show x+1+(l.map (nodesR d)).sum=x+(1+(l.map (nodesR d)).sum) by omega]
  ·show 1+(ts.map (nodesR d')).sum=1+(l.map (nodesR d)).sum
   rw [hsum]
  ·obtain ⟨j,hj,rfl⟩:=List.getElem_of_mem ht
   exact (e3 j hj (by omega)).2.2.1
  ·refine ⟨q1,by rw [q2,e2],by rw [q3,hflat],by rw [q4,e2],fun k hk=>?_,fun k hk=>?_,fun k hk=>?_⟩
   ·rw [hoff k (by omega)]
    exact q5 k (by omega)
   ·rw [(e3 (k+1) hk (by omega)).1]
    exact q6 k (by omega)
   ·rw [hoff k (by omega)]
    exact (e3 k hk (by omega)).2.2.2

theorem chain_of_asc:∀(L:List ByteArray) (hk:Bool) (lk:ByteArray),(∀i,i<L.length->(gt L i).size<=16/\(0<i->Op.bytesLess (gt L (i-1)).toList (gt L i).toList=true))->(hk=true->0<L.length->Op.bytesLess lk.toList (gt L 0).toList=true)->∃hk' lk',Chain hk lk L hk' lk'
 | [],hk,lk,_,_=>⟨hk,lk,rfl,rfl⟩
 | k::L,hk,lk,h,h0=>by
  obtain ⟨hk',lk',q⟩:=chain_of_asc L true k (fun i hi=>by
   have:=h (i+1) (by simpa using hi)
   refine ⟨by simpa [gt] using this.1,fun hi0=>?_⟩
   have:=this.2 (by omega)
   rw [show i+1-1=(i-1)+1 by omega] at this
   simpa [gt] using this) (fun _ hl=>by
   have:=(h 1 (by simpa using hl)).2 (by omega)
   simpa [gt] using this)
  exact ⟨hk',lk',by simpa [gt] using (h 0 (by simp)).1,fun e=>by simpa [gt] using h0 e (by simp),q⟩

theorem asc_of_chain:∀(L:List ByteArray) (hk:Bool) (lk:ByteArray) {hk' : Bool} {lk' : ByteArray},Chain hk lk L hk' lk'->(∀i,i<L.length->(gt L i).size<=16/\(0<i->Op.bytesLess (gt L (i-1)).toList (gt L i).toList=true))/\(hk=true->0<L.length->Op.bytesLess lk.toList (gt L 0).toList=true)
 | [],hk,lk,_,_,_=>⟨fun i hi=>absurd hi (Nat.not_lt_zero _),fun _ h=>absurd h (Nat.lt_irrefl _)⟩
 | k::L,hk,lk,hk',lk',h=>by
  obtain ⟨q1,q2⟩:=asc_of_chain L true k h.2.2
  refine ⟨fun i hi=>?_,fun e _=>by simpa [gt] using h.2.1 e⟩
  cases i with
  | zero=>exact ⟨by simpa [gt] using h.1,fun h=>absurd h (Nat.lt_irrefl _)⟩
  | succ i=>
   have hi2:i<L.length:=by simpa using hi
   refine ⟨by simpa [gt] using (q1 i hi2).1,fun _=>?_⟩
   cases i with
   | zero=>
    have:=q2 rfl hi2
    simpa [gt] using this
   | succ i=>
    have:=(q1 (i+1) hi2).2 (by omega)
    simpa [gt] using this

theorem good_vt {N:Nat->Tn} {n d:Nat} {t:Ro d} {D' : Int} {hk' : Bool} {lk' : ByteArray} (hn:n<=5000) (h:Good N n 0 0 0 false { data:=#[] } d t D' hk' lk') (he:nodesR d t=n):∃t',VTt n N t'/\keysR 21 t'=keysR d t:=by
 obtain ⟨hh,hb,_⟩:=h.bal
 have hlow:=hb.low (by omega)
 obtain ⟨t',q1,q2,q3,q4,q5⟩:=tells_nest (n:=n) (d':=21) h.tl (by omega) hb (by omega)
 rw [he] at q1
 have hp:=nodes_pos d t
 refine ⟨t',⟨by omega,hn,by simpa using q1,⟨hh,by simpa using q4⟩,?_,q5⟩,q2⟩
 rw [q2]
 exact (asc_of_chain _ _ _ h.asc).1

theorem vt_good {N:Nat->Tn} {n d:Nat} {t' : Ro 21} (h:VTt n N t') (hd:n<=d):∃(t:Ro d) (D' : Int) (hk' : Bool) (lk' : ByteArray),Good N n 0 0 0 false { data:=#[] } d t D' hk' lk'/\nodesR d t=n:=by
 obtain ⟨h1,h2,h3,⟨hh,hb⟩,h5,h6⟩:=h
 have hend:=nestR_end h3
 have hnod:=hb.nodes
 have hlt:hh<2 ^ hh:=Nat.lt_two_pow_self
 obtain ⟨t,q1,q2,q3,q4,q5⟩:=tells_nest (n:=n) (d':=d) h6 (by omega) hb (by omega)
 obtain ⟨hk',lk',hc⟩:=chain_of_asc (keysR d t) false { data:=#[] } (by rw [q2];exact h5) (fun e=>by cases e)
 exact ⟨t,(hh:Int),hk',lk',⟨q5,by omega,⟨hh,by simpa using q4,by simp⟩,.inl rfl,hc⟩,by omega⟩

def SmR:(d e:Nat)->Ro d->Ro e->Prop
 | d+1,e+1,.inl L,.inl L'=>L=L'
 | d+1,e+1,.inr l,.inr l'=>l.length=l'.length/\∀k (h:k<l.length) (h' : k<l'.length),SmR d e l[k] l'[k]
 | _,_,_,_=>False

theorem SmR.nodes:∀{d e:Nat} {t:Ro d} {t' : Ro e},SmR d e t t'->nodesR d t=nodesR e t'
 | 0,_,t,_,_=>t.elim
 | _+1,0,_,t',_=>t'.elim
 | d+1,e+1,.inl L,.inl L',h=>rfl
 | d+1,e+1,.inr l,.inr l',h=>by
  have q:=off_congr (fun j h1 h2=>SmR.nodes (h.2 j h1 h2)) l.length (Nat.le_refl _) (by rw [h.1];exact Nat.le_refl _)
  rw [offR_all] at q
  rw [h.1,offR_all] at q
  show 1+_=1+_
  rw [q]
 | d+1,e+1,.inl L,.inr l',h=>h.elim
 | d+1,e+1,.inr L,.inl l',h=>h.elim

theorem SmR.keys:∀{d e:Nat} {t:Ro d} {t' : Ro e},SmR d e t t'->keysR d t=keysR e t'
 | 0,_,t,_,_=>t.elim
 | _+1,0,_,t',_=>t'.elim
 | d+1,e+1,.inl L,.inl L',h=>h
 | d+1,e+1,.inr l,.inr l',h=>flat_congr (keysR d) (keysR e) l l' h.1 (fun k h1 h2=>SmR.keys (h.2 k h1 h2))
 | d+1,e+1,.inl L,.inr l',h=>h.elim
 | d+1,e+1,.inr L,.inl l',h=>h.elim

theorem smR_of {N:Nat->Tn}:∀{d e:Nat} {t:Ro d} {t' : Ro e} {x:Nat},Tells N 0 d t x->Tells N 0 e t' x->SmR d e t t'
 | 0,_,t,_,_,_,_=>t.elim
 | _+1,0,_,t',_,_,_=>t'.elim
 | d+1,e+1,.inl L,.inl L',x,h,h'=>by
  show L=L'
  obtain ⟨_,h2,h3,_⟩:=h
  obtain ⟨_,g2,g3,_⟩:=h'
  apply List.ext_getElem (by omega)
  intro i h1 h4
  have q1:=h3 i h1
  rw [g3 i h4] at q1
  unfold gt at q1
  rw [List.getD_eq_getElem?_getD,List.getD_eq_getElem?_getD,List.getElem?_eq_getElem h1,List.getElem?_eq_getElem h4] at q1
  exact q1.symm
 | d+1,e+1,.inl L,.inr l',x,h,h'=>by
  have q:=h.1
  rw [h'.1] at q
  cases q
 | d+1,e+1,.inr l,.inl L',x,h,h'=>by
  have q:=h.1
  rw [h'.1] at q
  cases q
 | d+1,e+1,.inr l,.inr l',x,h,h'=>by
  have hl:l.length=l'.length:=h.2.1.symm.trans h'.2.1
  have t1:=h.2.2.2.2.2.2
  have t2:=h'.2.2.2.2.2.2
  have key:∀k,k<=l.length->offR d l k=offR e l' k/\∀j (h:j<l.length) (h' : j<l'.length),j<k->SmR d e l[j] l'[j]:=by
   intro k
   induction k with
   | zero=>intro _;exact ⟨by rw [offR_zero,offR_zero],fun j _ _ hj=>absurd hj (Nat.not_lt_zero _)⟩
   | succ k ih=>
    intro hk
    obtain ⟨q1,q2⟩:=ih (by omega)
    have sk:SmR d e (l[k]'(by omega)) (l'[k]'(by omega)):=smR_of (t1 k (by omega)) (by rw [q1];exact t2 k (by omega))
    refine ⟨by rw [offR_succ d l k (by omega),offR_succ e l' k (by omega),q1,sk.nodes],fun j h1 h2 hj=>?_⟩
    by_cases e:j=k
    ·subst e;exact sk
    ·exact q2 j h1 h2 (by omega)
  exact ⟨hl,fun k h1 h2=>(key l.length (Nat.le_refl _)).2 k h1 h2 h1⟩

theorem SmR.tow {B:Nat} {w:World}:∀{d e:Nat} {t:Ro d} {t' : Ro e} {v:Value} {bs:List Nat},SmR d e t t'->TOw B w d t v bs->TOw B w e t' v bs
 | 0,_,t,_,_,_,_,_=>t.elim
 | _+1,0,_,t',_,_,_,_=>t'.elim
 | d+1,e+1,.inl L,.inl L',v,bs,h,ho=>by
  have h' : L=L':=h
  subst h'
  exact ho
 | d+1,e+1,.inr l,.inr l',v,bs,h,ho=>by
  have hk:=SmR.keys (d:=d+1) (e:=e+1) (t:=.inr l) (t':=.inr l') h
  have hk' : l.flatMap (keysR d)=l'.flatMap (keysR e):=hk
  obtain ⟨b,g,kc,xs,bss,rfl,hB,hx,hr,hl,hbl,rfl,hall⟩:=ho
  have hl':=h.1
  rw [hk',hl'] at hx
  rw [hl'] at hr hl hbl
  refine ⟨b,g,kc,xs,bss,rfl,hB,hx,hr,hl,hbl,rfl,fun k hk=>?_⟩
  obtain ⟨u,us,e1,e2,e3⟩:=hall k (by omega)
  exact ⟨u,us,e1,e2,SmR.tow (h.2 k (by omega) hk) e3⟩
 | d+1,e+1,.inl L,.inr l',_,_,h,_=>h.elim
 | d+1,e+1,.inr L,.inl l',_,_,h,_=>h.elim

def shZ (sz b o lo c:Nat):Option Addr:=if c=lo then some ⟨b,o,none⟩ else some ⟨b,o+lo*sz,none⟩

theorem addr_add (b o k:Nat):Addr.add ⟨b,o,none⟩ k=⟨b,o+k,none⟩:=by
 unfold Addr.add
 by_cases h:k=0
 ·subst h;simp
 ·simp [h]

theorem cutS (b o n c lo hi:Nat) (h0:lo<=hi) (h1:hi<=n) (h2:n<=c) (w:World):(Instr.sliceAt 88 (.slice (some ⟨b,o,none⟩) n c) (some (.int .i64 (lo:Int))) (some (.int .i64 (hi:Int))) none).run Tryz.prog w=.ok (.slice (shZ 1 b o lo c) (hi-lo) (c-lo)) w:=by
 have hc:hi<=c:=by omega
 simp [Instr.sliceAt,Instr.slice,go_sem,shZ,addr_add,hc,h0]

theorem cutK (b o n c lo hi:Nat) (h0:lo<=hi) (h1:hi<=n) (h2:n<=c) (w:World):(Instr.sliceAt 89 (.slice (some ⟨b,o,none⟩) n c) (some (.int .i64 (lo:Int))) (some (.int .i64 (hi:Int))) none).run Tryz.prog w=.ok (.slice (shZ 3 b o lo c) (hi-lo) (c-lo)) w:=by
 have hc:hi<=c:=by omega
 simp [Instr.sliceAt,Instr.slice,go_sem,shZ,addr_add,hc,h0]

theorem uptoK (b o n c hi:Nat) (h1:hi<=n) (h2:n<=c) (w:World):(Instr.sliceAt 89 (.slice (some ⟨b,o,none⟩) n c) none (some (.int .i64 (hi:Int))) none).run Tryz.prog w=.ok (.slice (some ⟨b,o,none⟩) hi c) w:=by
 simp [Instr.sliceAt,Instr.slice,go_sem]
 intro h
 omega

theorem fromK (b o n c lo:Nat) (h1:lo<=n) (h2:n<=c) (w:World):(Instr.sliceAt 89 (.slice (some ⟨b,o,none⟩) n c) (some (.int .i64 (lo:Int))) none none).run Tryz.prog w=.ok (.slice (shZ 3 b o lo c) (n-lo) (c-lo)) w:=by
 simp [Instr.sliceAt,Instr.slice,go_sem,shZ,addr_add,h1]

theorem rdS_cut {w:World} {b o n c lo hi:Nat} {L:List ByteArray} (h:RdS w (some ⟨b,o,none⟩) n (gt L)) (hn:n=L.length) (h0:lo<hi) (h1:hi<=n) (h2:n<=c):RdS w (shZ 1 b o lo c) (hi-lo) (gt ((L.take hi).drop lo)):=by
 rcases h with h|⟨b',o',e,hc⟩
 ·exact absurd h (by omega)
 ·injection e with e
  injection e with e1 e2
  subst e1 e2
  refine Or.inr ⟨b,o+lo,by unfold shZ;rw [if_neg (by omega),Nat.mul_one],fun i hi'=>?_⟩
  have:=hc (lo+i) (by omega)
  rw [show o+lo+i=o+(lo+i) by omega,this]
  congr 2
  unfold gt
  rw [List.getD_eq_getElem?_getD,List.getD_eq_getElem?_getD,List.getElem?_drop,List.getElem?_take,if_pos (by omega)]

theorem set3_block (w:World) (r:Nat) (v0 v1 v2:Value) (b:Nat) (h:b≠r):(((w.setCell ⟨r,0,none⟩ v0).setCell ⟨r,1,none⟩ v1).setCell ⟨r,2,none⟩ v2).heap[b]?=w.heap[b]?:=by
 rw [Below.heap_setCell _ _ _ _ h,Below.heap_setCell _ _ _ _ h,Below.heap_setCell _ _ _ _ h]
theorem set3_size (w:World) (r:Nat) (v0 v1 v2:Value):(((w.setCell ⟨r,0,none⟩ v0).setCell ⟨r,1,none⟩ v1).setCell ⟨r,2,none⟩ v2).heap.size=w.heap.size:=by simp [World.setCell]
theorem set3_below {B:Nat} {w0 w:World} (h:Below B w0 w) (r:Nat) (hr:B<=r) (v0 v1 v2:Value):Below B w0 (((w.setCell ⟨r,0,none⟩ v0).setCell ⟨r,1,none⟩ v1).setCell ⟨r,2,none⟩ v2):=
 ((h.setCell (by simpa using hr) _).setCell (by simpa using hr) _).setCell (by simpa using hr) _

theorem ks_own {S:Nat->Prop} {w:World} {B c:Nat} {a:Option Addr} {L:List ByteArray} (h:OwnS w B a L.length (gt L)) (hc:L.length<=c/\c<=9223372036854775807) (hS:∀b,B<=b->S b):KS S w a L.length c (gt L):=by
 refine ⟨h.rd,hc,fun h0=>?_⟩
 rcases h with h|⟨g,rfl,hg,hr⟩
 ·exact absurd h h0
 ·exact ⟨_,rfl,hS _ hg,hr.lt⟩

set_option maxHeartbeats 1000000 in
theorem part_leaf (d:Nat) (L:List ByteArray) (v:Value) (lo hi:Nat) (S:Nat->Prop) (w:World) (hv:NG S w (d+1) (.inl L) v) (h0:lo<hi) (h1:hi<=L.length) (hL:L.length<=1000) :
  Calls Tryz.prog 124 #[v,.int .i64 (lo:Int),.int .i64 (hi:Int)] w (RetG3 S w (d+1) (.inl ((L.take hi).drop lo))):=by
 obtain ⟨ka,kc,ca,cc,rfl,hrd,hcap,hblk⟩:=hv
 obtain ⟨⟨b,o,x⟩,rfl,hs,hbl⟩:=hblk (by omega)
 obtain rfl:x=none:=by
  rcases hrd with h|⟨b',o',e,_⟩
  ·exact absurd h (by omega)
  ·injection e with e
   injection e
 obtain ⟨n,hn⟩:∃n,n=L.length:=⟨_,rfl⟩
 rw [<- hn] at hrd hcap h1 hL ⊢
 have HR:Hid (RdS w (shZ 1 b o lo kc) (hi-lo) (gt ((L.take hi).drop lo))):=rdS_cut hrd hn h0 h1 hcap.1
 have HLen:Hid (hi-lo=((L.take hi).drop lo).length):=by show _=_;rw [List.length_drop,List.length_take];omega
 have hsl:∀W:World,(Instr.sliceAt 88 (.slice (some ⟨b,o,none⟩) n kc) (some (.int .i64 (lo:Int))) (some (.int .i64 (hi:Int))) none).run Tryz.prog W=.ok (.slice (shZ 1 b o lo kc) (hi-lo) (kc-lo)) W:=cutS b o n kc lo hi (by omega) h1 hcap.1
 have HO:Hid (∀O1 O2:Obj,(((w.alloc O1).alloc O2).alloc (.cells #[] 9)).ownsRow (w.heap.size+2) 9 1 (.slice (some ⟨w.heap.size+2,0,none⟩) 0 0) 0 []):=fun O1 O2=>by simpa using own_empty ((w.alloc O1).alloc O2) 9 (w.heap.size+2) 1 (by simp)
 have HB3:Hid (∀O1 O2 O3:Obj,Below w.heap.size w (((w.alloc O1).alloc O2).alloc O3)):=fun _ _ _=>((below_alloc _ _).alloc (by simp) _).alloc (by simp;omega) _
 have hlen:hi-lo<=1000:=by omega
 clear hrd hn hblk hs hbl h0 h1 hcap
 go_enter Tryz.func124,Tryz.ntmps124
 go_wp2_with (at_builtin;refine wpList_append_strs rfl _ _ rfl (w.heap.size+2) (.slice (some ⟨w.heap.size+2,0,none⟩) 0 0) 0 [] rfl (HO.out _ _) (shZ 1 b o lo kc) (hi-lo) (kc-lo) _ rfl HLen.out (HR.out.below (HB3.out _ _ _)) (by omega) (by simp) ?_)
 intro v' w' ho hg hat
 have HB:Hid (Below w.heap.size w w'):=((HB3.out _ _ _).grown hg (by simp;omega) (fun k e=>by simp [Value.ownBlock] at e;omega))
 have hz:w.heap.size+3<=w'.heap.size:=by have:=hg.size;simpa using this
 have hbx:Bx w' (w.heap.size+1) 91 #[.bool false,.slice none 0 0,.slice none 0 0]:=by
  have q:=(Bx.new (w.alloc (.cells #[.bool true,.slice (some ⟨b,o,none⟩) n kc,.slice ca 0 cc] 91)) #[.bool false,.slice none 0 0,.slice none 0 0] 91).alloc (.cells #[] 9)
  simp only [World.size_alloc] at q
  exact q.of_block (hg.block _ q.lt (by simp [Value.ownBlock]))
 obtain ⟨a',c',rfl,h1,h2,h3⟩:=ownS_strL ho HLen.out
 have HK:Hid (KS (fun b=>w.heap.size+2<=b) w' a' ((L.take hi).drop lo).length c' (gt ((L.take hi).drop lo))):=ks_own h1 ⟨by rw [<- HLen.out];exact h2,h3⟩ (fun b hb=>hb)
 have r0:=hbx.cell 0
 have r1:=hbx.cell 1
 have r2:=hbx.cell 2
 simp at r0 r1 r2
 have hf:=fun i=>hbx.frozen i
 clear ho hg hat h1 hbx
 go_wp2
 refine bodyPost_ret (v:=.agg #[.bool true,.slice a' (hi-lo) c',.slice none 0 0]) (by simp [results,Tryz.results124,go_sem,r0,r1,r2]) rfl ⟨set3_below HB.out _ (by omega) _ _ _,_,_,_,_,_,_,_,rfl,a',c',none,0,by rw [HLen.out],?_⟩
 exact HK.out.keep (by rw [set3_size];exact Nat.le_refl _) (fun b hb _=>⟨Or.inr (by omega),set3_block _ _ _ _ _ _ (by omega)⟩)

set_option maxHeartbeats 1000000 in
theorem part_inner (d:Nat) (l:List (Ro d)) (v:Value) (lo hi:Nat) (S:Nat->Prop) (w:World) (hv:NG S w (d+1) (.inr l) v) (h0:lo<hi) (h1:hi<=l.length) (hL:l.length<=1000) :
  Calls Tryz.prog 124 #[v,.int .i64 (lo:Int),.int .i64 (hi:Int)] w (RetG3 S w (d+1) (.inr ((l.take hi).drop lo))):=by
 obtain ⟨ka,kc,b,cc,xs,rfl,⟨hs,hcap⟩,hb,hl,hx,hk⟩:=hv
 obtain ⟨n,hn⟩:∃n,n=l.length:=⟨_,rfl⟩
 have HLx:Hid (xs.length=n*3):=by have:=hk.len;rw [<- hn] at this;exact this
 rw [<- hn] at hcap h1 hL hl ⊢
 have HKid:Hid (KidL (fun t v=>NG S w d t v) ((l.take hi).drop lo) ((xs.take (hi*3)).drop (lo*3))):=(KidL.take hi hk).drop lo
 have HLen:Hid (hi-lo=((l.take hi).drop lo).length):=by show _=_;rw [List.length_drop,List.length_take];omega
 have HC:Hid (∀j u,((xs.take (hi*3)).drop (lo*3))[j]?=some u->w.cell? ⟨b,lo*3+j,none⟩=some u):=by
  intro j u hj
  rw [List.getElem?_drop,List.getElem?_take] at hj
  split at hj
  ·exact hx _ _ hj
  ·cases hj
 have HLy:Hid (((xs.take (hi*3)).drop (lo*3)).length=(hi-lo)*3):=by
  show _=_
  rw [List.length_drop,List.length_take,HLx.out]
  omega
 have HOne:Hid (∀u∈((xs.take (hi*3)).drop (lo*3)),u.oneCell'=true):=HKid.out.cells NG.one
 have hsl:∀W:World,(Instr.sliceAt 89 (.slice (some ⟨b,0,none⟩) n cc) (some (.int .i64 (lo:Int))) (some (.int .i64 (hi:Int))) none).run Tryz.prog W=.ok (.slice (some ⟨b,lo*3,none⟩) (hi-lo) (cc-lo)) W:=by
  intro W
  have:=cutK b 0 n cc lo hi (by omega) h1 hcap.1 W
  unfold shZ at this
  rw [if_neg (by omega),Nat.zero_add] at this
  exact this
 have HO:Hid (∀O1 O2:Obj,(((w.alloc O1).alloc O2).alloc (.cells #[] 91)).ownsRow (w.heap.size+2) 91 3 (.slice (some ⟨w.heap.size+2,0,none⟩) 0 0) 0 []):=fun O1 O2=>by simpa using own_empty ((w.alloc O1).alloc O2) 91 (w.heap.size+2) 3 (by simp)
 have HB3:Hid (∀O1 O2 O3:Obj,Below w.heap.size w (((w.alloc O1).alloc O2).alloc O3)):=fun _ _ _=>((below_alloc _ _).alloc (by simp) _).alloc (by simp;omega) _
 have HBl:Hid (S b/\b<w.heap.size):=⟨hs,hb⟩
 have hlen:hi-lo<=1000:=by omega
 have hlen0:0<hi-lo:=by omega
 generalize hys:(xs.take (hi*3)).drop (lo*3)=ys at HKid HC HLy HOne
 obtain ⟨i0,hi0,hz0,hz1,hz2⟩:=info_parts Tryz.info91
 have HI:Hid (Tryz.prog.info? 91=some i0/\i0.zero=some (.agg #[.bool false,.slice none 0 0,.slice none 0 0])/\i0.size=3/\i0.bytes=56):=⟨hi0,hz0,hz1,hz2⟩
 clear hx hk hn hs hb h0 h1 hcap hi0 hz0 hz1 hz2 HLx hys
 go_enter Tryz.func124,Tryz.ntmps124
 go_wp2_with (at_builtin;refine wpList_append_own_at _ rfl _ _ 89 rfl (w.heap.size+2) 91 i0 _ 3 56 Tryz.underlying89 HI.out.1 HI.out.2.1 HI.out.2.2.1 HI.out.2.2.2 rfl (by decide) (.slice (some ⟨w.heap.size+2,0,none⟩) 0 0) 0 [] rfl (HO.out _ _) ⟨b,lo*3,none⟩ (hi-lo) (cc-lo) ys rfl HLy.out (fun j u hj=>by rw [addr_add];exact ((HB3.out _ _ _).cell (p:=⟨b,_,none⟩) HBl.out.2).trans (HC.out j u hj)) HOne.out (by unfold maxLen;omega) (by omega) (by simp) ?_)
 intro v' w' ho hg _ hat
 have HB:Hid (Below w.heap.size w w'):=((HB3.out _ _ _).grown hg (by simp;omega) (fun k e=>by simp [Value.ownBlock] at e;omega))
 have hz:w.heap.size+3<=w'.heap.size:=by have:=hg.size;simpa using this
 have hbx:Bx w' (w.heap.size+1) 91 #[.bool false,.slice none 0 0,.slice none 0 0]:=by
  have q:=(Bx.new (w.alloc (.cells #[.bool false,.slice ka 0 kc,.slice (some ⟨b,0,none⟩) n cc] 91)) #[.bool false,.slice none 0 0,.slice none 0 0] 91).alloc (.cells #[] 91)
  simp only [World.size_alloc] at q
  exact q.of_block (hg.block _ q.lt (by simp [Value.ownBlock]))
 obtain ⟨a',c',rfl,hf'⟩:=own_form ho
 have hcap:=own_cap ho
 obtain ⟨g,rfl,hg1,hg2,hg3⟩:=hf' (by omega)
 have HG:Hid ((w.heap.size+2<=g/\g<w'.heap.size)/\(∀j u,ys[j]?=some u->w'.cell? ⟨g,j,none⟩=some u)/\(hi-lo<=c'/\c'<=9223372036854775807)):=⟨⟨hg1,hg2⟩,hg3,hcap⟩
 have r0:=hbx.cell 0
 have r1:=hbx.cell 1
 have r2:=hbx.cell 2
 simp at r0 r1 r2
 have hf:=fun i=>hbx.frozen i
 clear ho hg hat hbx hg1 hg2 hg3 hcap
 go_wp2
 refine bodyPost_ret (v:=.agg #[.bool false,.slice none 0 0,.slice (some ⟨g,0,none⟩) (hi-lo) c']) (by simp [results,Tryz.results124,go_sem,r0,r1,r2]) rfl ⟨set3_below HB.out _ (by omega) _ _ _,_,_,_,_,_,_,_,rfl,none,0,g,c',ys,by rw [HLen.out],⟨Or.inr (by have:=HG.out.1;omega),by rw [<- HLen.out];exact HG.out.2.2⟩,by rw [set3_size];exact HG.out.1.2,by rw [<- HLen.out];exact hlen0,fun j u hj=>?_,HKid.out.mono (fun t v q=>?_)⟩
 ·have:=HG.out.1
  rw [World.cell?_of_block (a:=⟨g,j,none⟩) (set3_block _ _ _ _ _ _ (show g≠w.heap.size+1 by omega))]
  exact HG.out.2.1 j u hj
 ·refine q.keep (by rw [set3_size];exact HB.out.size) (fun b hs hl=>⟨Or.inl hs,(set3_block _ _ _ _ _ _ (by omega)).trans (HB.out.block b hl)⟩)

theorem OwnTn.rdC {w:World} {B g n:Nat} {N:Nat->Tn} {KA DA:Nat->Option Addr} {KC DC:Nat->Nat} (h:OwnTn w B g n N KA DA KC DC) (C:Nat->Nat->Prop) (hC:∀i,i<n->C (N i).kn (KC i)):RdTnC C w (some ⟨g,0,none⟩) n N:=by
 refine Or.inr ⟨g,0,rfl,fun i hi=>⟨KA i,KC i,DA i,DC i,?_,?_,?_,?_,(h.keys i hi).rd,(h.kids i hi).rd,hC i hi⟩⟩
 ·have:=h.row.cell (i:=i*4) (by omega)
  rw [tnCell_0] at this
  simpa using this
 ·have:=h.row.cell (i:=i*4+1) (by omega)
  rw [tnCell_1] at this
  simpa using this
 ·have:=h.row.cell (i:=i*4+2) (by omega)
  rw [tnCell_2] at this
  simpa using this
 ·have:=h.row.cell (i:=i*4+3) (by omega)
  rw [tnCell_3] at this
  simpa using this

set_option maxHeartbeats 1000000 in
theorem toTNodeSC_any (a:Option Addr) (m c:Nat) (N:Nat->Tn) (w:World) (h:RdTn w a m N) (hm:m<=1048576) (hN:∀i,i<m->TnFit (N i)) :
  Calls Tryz.prog 108 #[.slice a m c] w fun e w'=>∃KA DA KC DC,e=.returned (.slice (some ⟨w.heap.size,0,none⟩) m m)/\OwnTn w' w.heap.size w.heap.size m N KA DA KC DC/\Below w.heap.size w w'/\∀i,i<m->KC i=(N i).kn:=by
 have hmk:∀w:World,(Instr.makeSlice 57 (.int .i64 (m:Int)) (.int .i64 (m:Int))).run Tryz.prog w=.ok (.slice (some ⟨w.heap.size,0,none⟩) m m) (w.alloc (.cells (madeCells #[.bool false,.slice none 0 0,.slice none 0 0,.int .i64 0] (m*4)) 168)):=by
  intro w
  obtain ⟨i0,hi,hz0,hz1,hz2⟩:=info_parts Tryz.info168
  have:=run_make (P:=Tryz.prog) w 57 168 i0 _ Tryz.underlying57 hi hz0 .i64 .i64 m m (by omega) (by omega) (by rw [hz2];omega) (by omega)
  rw [hz1,show (Value.agg #[.bool false,.slice none 0 0,.slice none 0 0,.int .i64 0]).cells=#[.bool false,.slice none 0 0,.slice none 0 0,.int .i64 0] from rfl] at this
  simpa using this
 have H0:Hid (OwnTn (w.alloc (.cells (madeCells #[.bool false,.slice none 0 0,.slice none 0 0,.int .i64 0] (m*4)) 168)) w.heap.size w.heap.size m (cutN N 0) (fun _=>none) (fun _=>none) (fun _=>0) (fun _=>0)):=
  ⟨Nat.le_refl _,(madeTn w m).congr (fun i _=>by simp [tnCell,cutN]),fun i _=>Or.inl (by simp [cutN,zTn]),fun i _=>Or.inl (by simp [cutN,zTn]),fun i j _ _ _ hl=>absurd (by simp [cutN,zTn]) hl,fun i j _ _ _ hl=>absurd (by simp [cutN,zTn]) hl⟩
 have HR:Hid (RdTn w a m N/\∀i,i<m->TnFit (N i)):=⟨h,hN⟩
 clear h hN
 go_enter Tryz.func108,Tryz.ntmps108
 go_wp2
 go_loopw [4] (fun i wr=>∃(k:Nat) (KA DA:Nat->Option Addr) (KC DC:Nat->Nat),k<=m/\i=.int .i64 k/\OwnTn wr w.heap.size w.heap.size m (cutN N k) KA DA KC DC/\Below w.heap.size w wr/\∀i,i<k->KC i=(N i).kn) (fun i _=>m-(intOf i).toNat)
 case atStart=>exact ⟨0,_,_,_,_,Nat.zero_le _,rfl,H0.out,below_alloc _ _,fun i hi=>absurd hi (Nat.not_lt_zero _)⟩
 case round=>
  obtain ⟨k,KA,DA,KC,DC,hk,rfl,hown,hbel,hcp⟩:=hrel
  have HCP:Hid (∀i,i<k->KC i=(N i).kn):=hcp
  clear hcp
  clear H0
  by_cases hlt:k<m
  ·have hne:¬ m=0:=by omega
   have h':=HR.out.1.below hbel
   have HB:Hid (Below w.heap.size w wr):=hbel
   have HO:Hid (OwnTn wr w.heap.size w.heap.size m (cutN N k) KA DA KC DC):=hown
   have hsz:=hbel.size
   rcases h' with h' | ⟨b,o,rfl,hc⟩
   ·exact absurd h' hne
   obtain ⟨ka,kc,da,dc,c0,c1,c2,c3,c4,c5⟩:=hc k hlt
   have HL:=HR.out.2 k hlt
   have HK:Hid (RdS wr ka (N k).kn (N k).ks/\Rd .i64 wr da (N k).dn (N k).kd):=⟨c4,c5⟩
   clear hc hbel hown hmk c4 c5
   go_wp2_with fail
   refine (toTNode_any (N k) ka da kc dc _ HK.out.1 HK.out.2 HL).mono ?_
   rintro e w1 ⟨gk,gd,rfl,hgk,hgd,hrk,hrd,hb1⟩
   have hrow:=HO.out.row.of_block (hb1.block _ HO.out.row.lt)
   have hc1:=hrow.cell (i:=k*4) (by omega)
   have hc2:=hrow.cell (i:=k*4+1) (by omega)
   have hc3:=hrow.cell (i:=k*4+2) (by omega)
   have hc4:=hrow.cell (i:=k*4+3) (by omega)
   rw [tnCell_0] at hc1
   rw [tnCell_1] at hc2
   rw [tnCell_2] at hc3
   rw [tnCell_3] at hc4
   have hf1:=hrow.frozen (k*4)
   have hf2:=hrow.frozen (k*4+1)
   have hf3:=hrow.frozen (k*4+2)
   have hf4:=hrow.frozen (k*4+3)
   have HX:Hid (OwnTn ((((w1.setCell ⟨w.heap.size,k*4,none⟩ (.bool (N k).lf)).setCell ⟨w.heap.size,k*4+1,none⟩ (.slice (some ⟨gk,0,none⟩) (N k).kn (N k).kn)).setCell ⟨w.heap.size,k*4+2,none⟩ (.slice (some ⟨gd,0,none⟩) (N k).dn (N k).dn)).setCell ⟨w.heap.size,k*4+3,none⟩ (.int .i64 (N k).ct)) w.heap.size w.heap.size m (cutN N (k+1))
     (fun i=>if i=k then some ⟨gk,0,none⟩ else KA i) (fun i=>if i=k then some ⟨gd,0,none⟩ else DA i) (fun i=>if i=k then (N k).kn else KC i) (fun i=>if i=k then (N k).dn else DC i)/\
     Below w.heap.size w ((((w1.setCell ⟨w.heap.size,k*4,none⟩ (.bool (N k).lf)).setCell ⟨w.heap.size,k*4+1,none⟩ (.slice (some ⟨gk,0,none⟩) (N k).kn (N k).kn)).setCell ⟨w.heap.size,k*4+2,none⟩ (.slice (some ⟨gd,0,none⟩) (N k).dn (N k).dn)).setCell ⟨w.heap.size,k*4+3,none⟩ (.int .i64 (N k).ct))):=by
    have q:=HO.out.put hsz hb1 k (N k) gk gd (N k).kn (N k).dn hgk hgd hrk hrd
    rw [cutN_put] at q
    exact ⟨q,((((HB.out.trans (hb1.mono hsz)).setCell (Nat.le_refl _) _).setCell (Nat.le_refl _) _).setCell (Nat.le_refl _) _).setCell (Nat.le_refl _) _⟩
   clear hrk hrd hb1 hrow HO HB c0 c1 c2 c3
   go_wp2
   go_roundw
   case rel=>exact ⟨k+1,_,_,_,_,by omega,by go_num,HX.out.1,HX.out.2,fun i hi=>by
    by_cases e:i=k
    ·simp [e]
    ·simp [e];exact HCP.out i (by omega)⟩
   case measure=>simp [intOf];omega
  ·have e:k=m:=by omega
   subst e
   have HO:Hid (OwnTn wr w.heap.size w.heap.size k (cutN N k) KA DA KC DC):=hown
   clear hown
   go_wp2
   go_ret
   refine ⟨KA,DA,KC,DC,rfl,?_,hbel,HCP.out⟩
   have e:∀i,i<k->cutN N k i=N i:=fun i hi=>by simp [cutN,hi]
   have hown:=HO.out
   refine ⟨hown.le,hown.row.congr (fun x hx=>?_),fun i hi=>?_,fun i hi=>?_,fun i j hi hj hij hl1 hl2=>?_,fun i j hi hj hij hl1 hl2=>?_⟩
   ·unfold tnCell
    rw [e (x / 4) (by omega)]
   ·have:=hown.keys i hi
    rwa [e i hi] at this
   ·have:=hown.kids i hi
    rwa [e i hi] at this
   ·exact hown.apartK i j hi hj hij (by rw [e i hi];exact hl1) (by rw [e j hj];exact hl2)
   ·exact hown.apartD i j hi hj hij (by rw [e i hi];exact hl1) (by rw [e j hj];exact hl2)

set_option maxHeartbeats 400000 in
theorem toTreeC_any (a:Option Addr) (m c:Nat) (N:Nat->Tn) (w:World) (h:RdTn w a m N) (hm:m<=1048576) (hN:∀i,i<m->TnFit (N i)) :
  Calls Tryz.prog 67 #[.agg #[.slice a m c]] w fun e w'=>∃g KA DA KC DC,e=.returned (.agg #[.slice (some ⟨g,0,none⟩) m m])/\w.heap.size<=g/\OwnTn w' w.heap.size g m N KA DA KC DC/\Below w.heap.size w w'/\∀i,i<m->KC i=(N i).kn:=by
 have HH:Hid ((∀o1 o2 o3,Below w.heap.size w (((w.alloc o1).alloc o2).alloc o3))/\(∀o1 o2 o3,(((w.alloc o1).alloc o2).alloc o3).heap.size=w.heap.size+3)/\RdTn w a m N/\∀i,i<m->TnFit (N i)):=⟨fun o1 o2 o3=>(((below_alloc _ _).alloc (by simp) _).alloc (by simp;omega) _),fun o1 o2 o3=>by simp,h,hN⟩
 clear h hN
 go_enter Tryz.func67,Tryz.ntmps67
 go_wp2_with fail
 refine (toTNodeSC_any a m c N _ (HH.out.2.2.1.below (HH.out.1 _ _ _)) hm HH.out.2.2.2).mono ?_
 rintro e w1 ⟨KA,DA,KC,DC,rfl,ho1,hb1,hcp⟩
 have HCP:Hid (∀i,i<m->KC i=(N i).kn):=hcp
 clear hcp
 rw [HH.out.2.1] at ho1 hb1 ⊢
 have hz:w.heap.size+2<w1.heap.size:=by have:=ho1.row.lt;omega
 have hc:∀b o,b<w.heap.size+3->w1.cell? ⟨b,o,none⟩=_:=fun b o hb=>hb1.cell (p:=⟨b,o,none⟩) hb
 have hfz:∀b o,b<w.heap.size+3->w1.frozen? ⟨b,o,none⟩=_:=fun b o hb=>hb1.frozen (p:=⟨b,o,none⟩) hb
 have HE:Hid (OwnTn w1 (w.heap.size+3) (w.heap.size+3) m N KA DA KC DC/\Below w.heap.size w w1):=⟨ho1,(HH.out.1 _ _ _).trans (hb1.mono (by omega))⟩
 clear ho1 hb1
 go_wp2
 refine bodyPost_ret (v:=.agg #[.slice (some ⟨w.heap.size+3,0,none⟩) m m]) (by simp [results,Tryz.results67,go_sem,hc]) rfl ⟨_,KA,DA,KC,DC,rfl,by omega,?_,?_,HCP.out⟩
 ·have hset:∀{W:World} {p:Addr} {v:Value},OwnTn W (w.heap.size+3) (w.heap.size+3) m N KA DA KC DC->p.block<w.heap.size+3->OwnTn (W.setCell p v) (w.heap.size+3) (w.heap.size+3) m N KA DA KC DC:=by
   intro W p v q hp
   refine ⟨q.le,q.row.setOther (by omega) _,fun i hi=>(q.keys i hi).setOther hp _,fun i hi=>?_,q.apartK,q.apartD⟩
   rcases q.kids i hi with h0|⟨g,hA,hg,hr⟩
   ·exact Or.inl h0
   ·exact Or.inr ⟨g,hA,hg,hr.setOther (by omega) _⟩
  have q:=hset (v:=.slice (some ⟨w.heap.size+3,0,none⟩) m m) (p:=⟨w.heap.size+1,0,none⟩) (hset (v:=.slice (some ⟨w.heap.size+3,0,none⟩) m m) (p:=⟨w.heap.size+2,0,none⟩) HE.out.1 (by simp)) (by simp)
  exact ⟨by omega,q.row,fun i hi=>(q.keys i hi).mono (by omega),fun i hi=>(q.kids i hi).mono (by omega),q.apartK,q.apartD⟩
 ·exact (HE.out.2.setCell (by simp;try omega) _).setCell (by simp;try omega) _

theorem Tryz.info34 : (Tryz.prog.info? 34).map (fun i=>(i.zero,i.size,i.bytes))=some (some (.agg #[.int .i64 0,.int .i64 0,.int .i64 0,.int .i64 0]),4,32):=by kernel_rfl

def quadL:List Qd->List Value
 | []=>[]
 | q::L=>.int .i64 q.s::.int .i64 q.p::.int .i64 q.o::.int .i64 q.g::quadL L
theorem quadL_app:∀(L M:List Qd),quadL (L++M)=quadL L++quadL M
 | [],M=>rfl
 | q::L,M=>by
  show _::_::_::_::quadL (L++M)=_
  rw [quadL_app L M]
  rfl
theorem quadL_get:∀(L:List Qd) (i:Nat) (h:i<L.length),(quadL L)[i*4]?=some (.int .i64 L[i].s)/\(quadL L)[i*4+1]?=some (.int .i64 L[i].p)/\(quadL L)[i*4+2]?=some (.int .i64 L[i].o)/\(quadL L)[i*4+3]?=some (.int .i64 L[i].g)
 | [],i,h=>absurd h (Nat.not_lt_zero _)
 | q::L,0,h=>⟨rfl,rfl,rfl,rfl⟩
 | q::L,i+1,h=>by
  have hh:=quadL_get L i (by simpa using h)
  have e:∀t,(quadL (q::L))[(i+1)*4+t]?=(quadL L)[i*4+t]?:=fun t=>by
   rw [show (i+1)*4+t=(i*4+t)+1+1+1+1 by omega]
   rfl
  have e0:=e 0
  rw [Nat.add_zero,Nat.add_zero] at e0
  exact ⟨e0.trans hh.1,(e 1).trans hh.2.1,(e 2).trans hh.2.2.1,(e 3).trans hh.2.2.2⟩
def RdQ (w:World) (a:Option Addr) (L:List Qd):Prop:=
 L.length=0\/∃b,a=some ⟨b,0,none⟩/\∀i (h:i<L.length),w.cell? ⟨b,i*4,none⟩=some (.int .i64 L[i].s)/\w.cell? ⟨b,i*4+1,none⟩=some (.int .i64 L[i].p)/\w.cell? ⟨b,i*4+2,none⟩=some (.int .i64 L[i].o)/\w.cell? ⟨b,i*4+3,none⟩=some (.int .i64 L[i].g)
theorem RdQ.below {w w' : World} {a:Option Addr} {L:List Qd} (h:RdQ w a L) (hb:Below w.heap.size w w'):RdQ w' a L:=by
 rcases h with h|⟨b,rfl,hc⟩
 ·exact Or.inl h
 ·refine Or.inr ⟨b,rfl,fun i hi=>?_⟩
  obtain ⟨h0,h1,h2,h3⟩:=hc i hi
  exact ⟨by rw [hb.cell (World.block_lt_of_cell? _ _ h0)];exact h0,by rw [hb.cell (World.block_lt_of_cell? _ _ h1)];exact h1,by rw [hb.cell (World.block_lt_of_cell? _ _ h2)];exact h2,by rw [hb.cell (World.block_lt_of_cell? _ _ h3)];exact h3⟩
theorem own_rdq {w:World} {B:Nat} {a:Option Addr} {c:Nat} {L:List Qd} (h:w.ownsRow B 34 4 (.slice a L.length c) L.length (quadL L)):RdQ w a L:=by
 obtain ⟨a',c',e,hf⟩:=own_form h
 injection e with e
 subst e
 by_cases h0:L.length=0
 ·exact .inl h0
 ·obtain ⟨g,rfl,_,_,hc⟩:=hf h0
  refine .inr ⟨g,rfl,fun i hi=>?_⟩
  obtain ⟨q0,q1,q2,q3⟩:=quadL_get L i hi
  exact ⟨hc _ _ q0,hc _ _ q1,hc _ _ q2,hc _ _ q3⟩
theorem qd_eq {x y:Qd}:(x.s == y.s && (x.p == y.p && (x.o == y.o && x.g == y.g)))=true↔x=y:=by
 obtain ⟨a,b,c,d⟩:=x
 obtain ⟨a',b',c',d'⟩:=y
 simp

set_option maxHeartbeats 2000000 in
theorem l5Has_any (a:Option Addr) (n c:Nat) (L:List Qd) (q:Qd) (w:World) (h:RdQ w a L) (hn:n=L.length) (hn2:n<=1048576) :
  Calls Tryz.prog 43 #[.slice a n c,qv q] w fun e w'=>∃b:Bool,e=.returned (.bool b)/\(b=true↔q∈L)/\Below w.heap.size w w':=by
 have HR:Hid (RdQ w a L/\n=L.length):=⟨h,hn⟩
 clear h hn
 have hEq:=eqQ
 unfold qv
 go_enter Tryz.func43,Tryz.ntmps43
 go_wp2
 go_loopw [5] (fun i wr=>∃k:Nat,k<=n/\i=.int .i64 k/\(∀j (h:j<L.length),j<k->L[j]≠q)/\Below w.heap.size w wr/\Bx wr w.heap.size 34 #[.int .i64 q.s,.int .i64 q.p,.int .i64 q.o,.int .i64 q.g]) (fun i _=>n-(intOf i).toNat)
 case atStart=>exact ⟨0,Nat.zero_le _,rfl,fun j _ hj=>absurd hj (Nat.not_lt_zero _),below_alloc _ _,Bx.new _ _ _⟩
 case round=>
  obtain ⟨k,hk,rfl,hall,hbel,hbx⟩:=hrel
  have HS:Hid ((∀j (h:j<L.length),j<k->L[j]≠q)/\Below w.heap.size w wr/\Bx wr w.heap.size 34 #[.int .i64 q.s,.int .i64 q.p,.int .i64 q.o,.int .i64 q.g]):=⟨hall,hbel,hbx⟩
  by_cases hlt:k<n
  ·have hkL:k<L.length:=by rw [<- HR.out.2];exact hlt
   rcases HR.out.1.below hbel with h0|⟨b,rfl,hc⟩
   ·omega
   obtain ⟨s0,s1,s2,s3⟩:=hc k hkL
   have z0:=hbx.cell 0
   have z1:=hbx.cell 1
   have z2:=hbx.cell 2
   have z3:=hbx.cell 3
   simp at z0 z1 z2 z3
   have i0:(0:Int)<=(k:Int):=by omega
   have i1:(k:Int)<(n:Int):=by omega
   have HE:=qd_eq (x:=L[k]) (y:=q)
   clear hc hall hbel hbx
   obtain ⟨x,hx⟩:∃x,x=L[k]:=⟨_,rfl⟩
   have HXk:Hid (L[k]=x):=hx.symm
   rw [<- hx] at s0 s1 s2 s3 HE
   clear hx
   by_cases he:x=q
   ·have HY:Hid (L[k]=q):=HXk.out.trans he
    have hE:∀W:World,(Op.equalIn 10000 34 (.agg #[.int .i64 x.s,.int .i64 x.p,.int .i64 x.o,.int .i64 x.g]) (.agg #[.int .i64 q.s,.int .i64 q.p,.int .i64 q.o,.int .i64 q.g])).run Tryz.prog W=.ok true W:=fun W=>by rw [hEq,HE.2 he]
    clear hEq HE he
    go_wp2
    go_quiet (fail)
    go_wp2
    go_ret
    exact ⟨true,rfl,by simp only [true_iff];rw [<- HY.out];exact List.getElem_mem _,below_drewN HS.out.2.1 _⟩
   ·have hE:∀W:World,(Op.equalIn 10000 34 (.agg #[.int .i64 x.s,.int .i64 x.p,.int .i64 x.o,.int .i64 x.g]) (.agg #[.int .i64 q.s,.int .i64 q.p,.int .i64 q.o,.int .i64 q.g])).run Tryz.prog W=.ok false W:=fun W=>by
     have e:(x.s == q.s && (x.p == q.p && (x.o == q.o && x.g == q.g)))=false:=by
      cases hb:(x.s == q.s && (x.p == q.p && (x.o == q.o && x.g == q.g))) with
      | false=>rfl
      | true=>exact absurd (HE.1 hb) he
     rw [hEq,e]
    have HN:Hid (∀j (h:j<L.length),j<k+1->L[j]≠q):=fun j hj hj2=>by
     by_cases e:j=k
     ·subst e
      rw [HXk.out]
      exact he
     ·exact HS.out.1 j hj (by omega)
    clear hEq HE he
    go_wp2
    go_quiet (fail)
    go_wp2
    go_roundw
    case rel=>exact ⟨k+1,by omega,by go_num,HN.out,below_drewN HS.out.2.1 _,HS.out.2.2⟩
    case measure=>simp [intOf];omega
  ·obtain rfl:k=n:=by omega
   have HN:Hid (q∉L):=fun hm=>by
    obtain ⟨j,hj,e⟩:=List.getElem_of_mem hm
    exact HS.out.1 j hj (by rw [HR.out.2];exact hj) e
   clear hall hbel hbx
   go_wp2
   go_ret
   exact ⟨false,rfl,by simp [HN.out],HS.out.2.1⟩
end Go.Proofs.YtcnollkkigiobaaGreat
namespace Go.Proofs.YtcnollkkigiobaaGreat
open Go.RowKit Go.Deep Go.MapKept Go.ChangeMaps

theorem undQ:Tryz.prog.underlying 34=some (.struct #[{ name := "S",type:=2,offset:=0,embedded:=false,tag := "",pkgPath := "",byteOffset:=0 },{ name := "P",type:=2,offset:=1,embedded:=false,tag := "",pkgPath := "",byteOffset:=8 },{ name := "O",type:=2,offset:=2,embedded:=false,tag := "",pkgPath := "",byteOffset:=16 },{ name := "G",type:=2,offset:=3,embedded:=false,tag := "",pkgPath := "",byteOffset:=24 }]):=by kernel_rfl

theorem undI:Tryz.prog.underlying 2=some (.int .i64):=by kernel_rfl
theorem checkI (e:Bool) (n:Nat) (x:Int) (w:World):(Instr.checkKey e (n+1) 2 (.int .i64 x)).run Tryz.prog w=.ok () w:=run_checkKey undI (by simp [IsKey]) e n
theorem partI (x y z u:Int) (i:Nat) (hi:i<4) (w:World):∃r,(part 2 #[.int .i64 x,.int .i64 y,.int .i64 z,.int .i64 u] i).run Tryz.prog w=.ok (.int .i64 r) w:=by
 rcases (show i=0\/i=1\/i=2\/i=3 by omega) with rfl|rfl|rfl|rfl
 ·exact ⟨x,by simp [go_sem]⟩
 ·exact ⟨y,by simp [go_sem]⟩
 ·exact ⟨z,by simp [go_sem]⟩
 ·exact ⟨u,by simp [go_sem]⟩
set_option maxHeartbeats 400000 in
theorem checkQ' (e:Bool) (n:Nat) (q:Qd) (w:World):(Instr.checkKey e (n+1+1) 34 (qv q)).run Tryz.prog w=.ok () w:=by
 unfold qv
 obtain ⟨r0,p0⟩:=partI q.s q.p q.o q.g 0 (by omega) w
 obtain ⟨r1,p1⟩:=partI q.s q.p q.o q.g 1 (by omega) w
 obtain ⟨r2,p2⟩:=partI q.s q.p q.o q.g 2 (by omega) w
 obtain ⟨r3,p3⟩:=partI q.s q.p q.o q.g 3 (by omega) w
 rw [Instr.checkKey]
 simp only [Sem.run_bind,run_underlying undQ,Result.andThen_ok]
 rw [<- Array.forIn_toList]
 simp only [List.forIn_cons,List.forIn_nil,Sem.run_bind,Sem.run_ite,Sem.run_pure,Result.andThen_ok,p0,checkI]
 simp [p1,p2,p3,checkI]
theorem checkQ (e:Bool) (q:Qd) (w:World):(Instr.checkKey e 10000 34 (qv q)).run Tryz.prog w=.ok () w:=checkQ' e 9998 q w
theorem equalQ_yes (x:Qd) (w:World):(Op.equal 34 (qv x) (qv x)).run Tryz.prog w=.ok true w:=by
 show (Op.equalIn 10000 34 (qv x) (qv x)).run Tryz.prog w=_
 unfold qv
 rw [eqQ,(qd_eq (x:=x) (y:=x)).2 rfl]
theorem equalQ_no {x y:Qd} (h:x≠y) (w:World):(Op.equal 34 (qv x) (qv y)).run Tryz.prog w=.ok false w:=by
 show (Op.equalIn 10000 34 (qv x) (qv y)).run Tryz.prog w=_
 unfold qv
 rw [eqQ]
 cases hb:(x.s == y.s && (x.p == y.p && (x.o == y.o && x.g == y.g))) with
 | false=>rfl
 | true=>exact absurd (qd_eq.1 hb) h
def EsQ (es:List MapEntry) (L:List Qd):Prop:=es.map (fun e=>(e.key,e.val))=L.map (fun q=>(qv q,.agg #[]))
theorem find_q (q:Qd) (w:World):∀(es:List MapEntry) (L:List Qd) (i:Nat),EsQ es L->
  (q∉L/\(Instr.findAsking 34 (qv q) es i).run Tryz.prog w=.ok none w)\/(q∈L/\∃j,(Instr.findAsking 34 (qv q) es i).run Tryz.prog w=.ok (some (j,.agg #[])) w)
 | [],[],i,_=>.inl ⟨by simp,by rw [Instr.findAsking];rfl⟩
 | [],x::L,i,h=>by simp [EsQ] at h
 | e::es,[],i,h=>by simp [EsQ] at h
 | e::es,x::L,i,h=>by
  have h2:e.key=qv x/\e.val=.agg #[]/\EsQ es L:=by
   unfold EsQ at h
   rw [List.map_cons,List.map_cons] at h
   injection h with h1 h2
   injection h1 with h1 h3
   exact ⟨h1,h3,h2⟩
  obtain ⟨h3,h4,h5⟩:=h2
  by_cases e0:q=x
  ·refine .inr ⟨by simp [e0],i,?_⟩
   rw [Instr.findAsking,h3,h4,e0]
   simp [equalQ_yes]
  ·rcases find_q q w es L (i+1) h5 with ⟨m,r⟩|⟨m,j,r⟩
   ·refine .inl ⟨by simp [e0,m],?_⟩
    rw [Instr.findAsking,h3]
    simp [equalQ_no e0,r]
   ·refine .inr ⟨by simp [m],j,?_⟩
    rw [Instr.findAsking,h3]
    simp [equalQ_no e0,r]
theorem findK_q (q:Qd) (w:World) (es:List MapEntry) (L:List Qd) (h:EsQ es L) :
  (q∉L/\(Instr.findKey 34 (qv q) es).run Tryz.prog w=.ok none w)\/(q∈L/\∃j,(Instr.findKey 34 (qv q) es).run Tryz.prog w=.ok (some (j,.agg #[])) w):=by
 have hk:(Instr.findKey 34 (qv q) es).run Tryz.prog w=(Instr.findAsking 34 (qv q) es).run Tryz.prog w:=by
  unfold Instr.findKey
  simp only [Sem.run_bind,run_underlying undQ,Result.andThen_ok]
  cases es with
  | nil=>rfl
  | cons e es=>rfl
 rw [hk]
 exact find_q q w es L 0 h
def QMap (w:World) (B:Nat) (L:List Qd):Prop:=∃es clock,w.heap[B]?=some (.map es clock)/\EsQ es.toList L
theorem QMap.lt {w:World} {B:Nat} {L:List Qd} (h:QMap w B L):B<w.heap.size:=by
 obtain ⟨es,c,h,_⟩:=h
 exact (Array.getElem?_eq_some_iff.1 h).1
theorem QMap.kept {w w' : World} {B:Nat} {L:List Qd} (h:QMap w B L) (hb:w'.heap[B]?=w.heap[B]?):QMap w' B L:=by
 obtain ⟨es,c,h,q⟩:=h
 exact ⟨es,c,hb.trans h,q⟩
theorem QMap.below {w w' : World} {B:Nat} {L:List Qd} (h:QMap w B L) (hb:Below w.heap.size w w'):QMap w' B L:=h.kept (hb.block _ h.lt)
theorem qmap_new (w:World):QMap (w.alloc (.map #[] 0)) w.heap.size []:=⟨#[],0,blk_alloc_new _ _,rfl⟩

theorem undM:Tryz.prog.underlying 111=some (.map 34 163):=by kernel_rfl
theorem QMap.look {w:World} {B:Nat} {L:List Qd} (h:QMap w B L) (q:Qd):∃b,(b=true↔q∈L)/\(Instr.lookup 111 (.map (some B)) (qv q) true).run Tryz.prog w=.ok (.tuple #[.agg #[],.bool b]) w:=by
 obtain ⟨es,c,hb,he⟩:=h
 rcases findK_q q w es.toList L he with ⟨m,r⟩|⟨m,j,r⟩
 ·exact ⟨false,by simp [m],by simp [Instr.lookup,run_underlying undM,MapKept.run_getObj_map hb,checkQ,r,Result.andThen]⟩
 ·exact ⟨true,by simp [m],by simp [Instr.lookup,run_underlying undM,MapKept.run_getObj_map hb,checkQ,r,Result.andThen]⟩
theorem QMap.put {w:World} {B:Nat} {L:List Qd} (h:QMap w B L) (q:Qd) (hn:q∉L):∃w',(Instr.mapUpdate 111 (.map (some B)) (qv q) (.agg #[])).run Tryz.prog w=.ok () w'/\QMap w' B (L++[q])/\w.grownBy w' (some B):=by
 obtain ⟨es,clock,hb,he⟩:=h
 rcases findK_q q w es.toList L he with ⟨m,r⟩|⟨m,_⟩
 ·refine ⟨setBlock w B (.map (es.push { key:=qv q,val:=.agg #[],born:=clock }) (clock+1)),?_,⟨_,_,heap_setBlock_same hb _,?_⟩,⟨rfl,rfl,rfl,by simp [setBlock],fun i _ hi=>heap_setBlock_other hb _ (fun e=>hi (by rw [e]))⟩⟩
  ·simp [Instr.mapUpdate,run_underlying undM,MapKept.run_getObj_map hb,checkQ,r,MapKept.run_setObj_map _ hb,Result.andThen,setBlock]
  ·unfold EsQ at he ⊢
   rw [Array.toList_push,List.map_append,List.map_append,he]
   rfl
 ·exact absurd m hn
theorem QMap.len {w:World} {B:Nat} {L:List Qd} (h:QMap w B L) (ty:TypeId):(Builtin.len_ #[111] ty #[.map (some B)]).run Tryz.prog w=.ok (.int .i64 L.length) w:=by
 obtain ⟨es,clock,hb,he⟩:=h
 have hs:es.size=L.length:=by
  have:=congrArg List.length he
  simpa using this
 simp [Builtin.len_,run_underlying undM,MapKept.run_getObj_map hb,Result.andThen,hs,goInt]
end Go.Proofs.YtcnollkkigiobaaGreat
namespace Go.Proofs.YtcnollkkigiobaaGreat
open Go.RowKit Go.Deep

theorem RdS.cellOf {w:World} {a:Option Addr} {n:Nat} {X:Nat->ByteArray} (h:RdS w a n X) (i:Nat) (hi:i<n):∃b o,a=some ⟨b,o,none⟩/\w.cell? ⟨b,o+i,none⟩=some (.string (X i)):=by
 rcases h with q|⟨b,o,rfl,hc⟩
 ·omega
 ·exact ⟨b,o,rfl,hc i hi⟩
theorem gt_in {L:List ByteArray} {i:Nat} (h:i<L.length):gt L i=L[i]:=by
 unfold gt
 rw [List.getD_eq_getElem?_getD,List.getElem?_eq_getElem h]
 rfl

def Ex1 (b:Nat) (w w' : World):Prop:=w'.os=w.os/\w'.tape=w.tape/\w'.output=w.output/\w.heap.size<=w'.heap.size/\∀k,k<w.heap.size->k≠b->w'.heap[k]?=w.heap[k]?
theorem Ex1.refl (b:Nat) (w:World):Ex1 b w w:=⟨rfl,rfl,rfl,Nat.le_refl _,fun _ _ _=>rfl⟩
theorem Ex1.below {b:Nat} {w w1 w2:World} (h:Ex1 b w w1) (hb:Below w1.heap.size w1 w2):Ex1 b w w2:=⟨hb.os.trans h.1,hb.tape.trans h.2.1,hb.output.trans h.2.2.1,Nat.le_trans h.2.2.2.1 hb.size,fun k hk hn=>(hb.block k (Nat.lt_of_lt_of_le hk h.2.2.2.1)).trans (h.2.2.2.2 k hk hn)⟩
theorem Ex1.grown {b:Nat} {w w1 w2:World} {r:Option Nat} (h:Ex1 b w w1) (hg:w1.grownBy w2 r) (hr:∀g,r=some g->g=b\/w.heap.size<=g):Ex1 b w w2:=⟨hg.os.trans h.1,hg.tape.trans h.2.1,hg.output.trans h.2.2.1,Nat.le_trans h.2.2.2.1 hg.size,fun k hk hn=>(hg.block k (Nat.lt_of_lt_of_le hk h.2.2.2.1) (fun e=>by rcases hr k e.symm with q|q <;> omega)).trans (h.2.2.2.2 k hk hn)⟩
theorem Ex1.bel {b B:Nat} {w w' : World} (h:Ex1 b w w') (hB:B<=w.heap.size) (hb:B<=b):Below B w w':=⟨h.1,h.2.1,h.2.2.1,h.2.2.2.1,fun k hk=>h.2.2.2.2 k (by omega) (by omega)⟩
theorem RdS.ex1 {b:Nat} {w w' : World} {a:Option Addr} {n:Nat} {X:Nat->ByteArray} (h:RdS w a n X) (he:Ex1 b w w') (hne:∀g o,a=some ⟨g,o,none⟩->g≠b):RdS w' a n X:=by
 rcases h with q|⟨g,o,rfl,hc⟩
 ·exact .inl q
 ·refine .inr ⟨g,o,rfl,fun i hi=>?_⟩
  have hl:=World.block_lt_of_cell? _ _ (hc i hi)
  rw [World.cell?_of_block (a:=⟨g,o+i,none⟩) (he.2.2.2.2 g hl (hne g o rfl))]
  exact hc i hi

set_option maxHeartbeats 4000000 in
theorem l5Quads_any (perm:Nat) (hp:perm<6) (a:Option Addr) (n c:Nat) (N:Nat->Tn) (t:Ro 21) (w:World) (h:RdTn w a n N) (hv:VTt n N t) (hf:∀i,i<n->TnFit (N i)) (hk:∀k,k∈keysR 21 t->k.size=16) (hl:(keysR 21 t).length<=300) (L:List Qd) (hL:L=(keysR 21 t).map (quadOf perm)) :
  Calls Tryz.prog 33 #[.agg #[.slice a n c],.int .i64 (perm:Int)] w fun e w'=>∃a' c',e=.returned (.slice a' L.length c')/\RdQ w' a' L/\Below w.heap.size w w':=by
 have hn5:=hv.2.1
 have hend:=nestR_end hv.2.2.1
 have HR:Hid (RdTn w a n N/\VTt n N t/\(∀i,i<n->TnFit (N i))/\(∀k,k∈keysR 21 t->k.size=16)/\L=(keysR 21 t).map (quadOf perm)/\nodesR 21 t<=5000/\perm<6):=⟨h,hv,hf,hk,hL,by omega,hp⟩
 have HB0:Hid (∀O1 O2:Obj,Below w.heap.size w ((w.alloc O1).alloc O2)):=fun _ _=>(below_alloc _ _).alloc (by simp) _
 have HOf:Hid (∀W,Below w.heap.size w W->Calls Tryz.prog 57 #[.agg #[.slice a n c]] W (RetOf W n N)):=fun W hW=>of_any a n c N W (h.below hW) (by omega) hf
 obtain ⟨i0,hi0,hz0,hz1,hz2⟩:=info_parts Tryz.info34
 have HI:Hid (Tryz.prog.info? 34=some i0/\i0.zero=some (.agg #[.int .i64 0,.int .i64 0,.int .i64 0,.int .i64 0])/\i0.size=4/\i0.bytes=32):=⟨hi0,hz0,hz1,hz2⟩
 clear h hv hf hk hL hp hend hi0 hz0 hz1 hz2
 go_enter Tryz.func33,Tryz.ntmps33
 go_wp2_with fail
 (with_reducible refine (HOf.out _ (HB0.out _ _)).mono ?_)
 rintro e w1 ⟨hb1,lf,ka,kn,kc,ca,cn,cc,ok,rfl,hr⟩
 have HO1:Hid (w1.ownsRow (w.heap.size+1) 34 4 (.slice (some ⟨w.heap.size+1,0,none⟩) 0 0) 0 []/\Below w.heap.size w w1):=by
  have q:=own_empty (w.alloc (.cells #[.slice a n c] 59)) 34 (w.heap.size+1) 4 (by simp)
  rw [World.size_alloc] at q
  exact ⟨own_below q hb1,(HB0.out _ _).trans (hb1.mono (by simp;omega))⟩
 rcases hr with ⟨rfl,hno,_⟩|⟨rfl,t',hv',hna⟩
 ·exact absurd ⟨t,HR.out.2.1⟩ hno
 have et:t'=t:=by
  have q:=hv'.2.2.1
  rw [HR.out.2.1.2.2.1] at q
  injection q with q
  injection q with q _
  exact q.symm
 subst et
 have HNA:Hid (NA w1 21 t' (.agg #[.bool lf,.slice ka kn kc,.slice ca cn cc])):=hna
 have HKeys:Hid (∀W,Below w1.heap.size w1 W->Calls Tryz.prog 58 #[.agg #[.bool lf,.slice ka kn kc,.slice ca cn cc]] W (RetStrs W (keysR 21 t'))):=fun W hW=>keys_any 21 t' _ W (HNA.out.below hW) HR.out.2.2.2.2.2.1 (by omega)
 have hz1:w.heap.size+2<=w1.heap.size:=by have:=hb1.size;simpa using this
 clear hna hb1 hv' HOf HB0
 go_wp2_with fail
 (with_reducible refine (HKeys.out _ (below_alloc _ _)).mono ?_)
 rintro e w3 ⟨a3,c3,rfl,ho3,hb3,_,_⟩
 have hb13:Below w1.heap.size w1 w3:=(below_alloc _ _).trans (hb3.mono (by simp))
 obtain ⟨kl,hkl⟩:∃kl,kl=(keysR 21 t').length:=⟨_,rfl⟩
 have HKL:Hid (kl=(keysR 21 t').length):=hkl
 have S3:Hid ((kl≠0->∃g,a3=some ⟨g,0,none⟩/\g≠w.heap.size+1)/\RdS w3 a3 kl (gt (keysR 21 t'))/\w3.ownsRow (w.heap.size+1) 34 4 (.slice (some ⟨w.heap.size+1,0,none⟩) 0 0) 0 []/\Below w.heap.size w w3/\w.heap.size+1<=w3.heap.size):=by
  have q:=HO1.out.2.trans (hb13.mono HO1.out.2.size)
  have qs:=hb13.size
  refine ⟨fun h0=>?_,by rw [hkl];exact ho3.rd,own_below HO1.out.1 hb13,q,by omega⟩
  rcases ho3 with h' | ⟨g,e,hg,_⟩
  ·omega
  ·exact ⟨g,e,by simp at hg;omega⟩
 rw [<- hkl] at hl ⊢
 clear hkl ho3 hb3 hb13 HO1 HKeys HNA
 go_wp2
 go_loopw [5,9] (fun out i wr=>∃(k:Nat) (R:List Qd),k<=kl/\i=.int .i64 k/\R=((keysR 21 t').take k).map (quadOf perm)/\wr.ownsRow (w.heap.size+1) 34 4 out R.length (quadL R)/\Ex1 (w.heap.size+1) w3 wr/\(∀g,out.ownBlock=some g->g=w.heap.size+1\/w3.heap.size<=g)) (fun _ i _=>kl-(intOf i).toNat)
 case atStart=>exact ⟨0,[],Nat.zero_le _,rfl,rfl,S3.out.2.2.1,Ex1.refl _ _,fun g e=>.inl (by simp [Value.ownBlock] at e;omega)⟩
 case round=>
  obtain ⟨k,R,hk,rfl,hR,hown,hex,hblk⟩:=hrel
  obtain ⟨ar,cr,er,_⟩:=own_form hown
  subst er
  have hRl:R.length=k:=by rw [hR,List.length_map,List.length_take,<- HKL.out];omega
  have HQ:Hid (wr.ownsRow (w.heap.size+1) 34 4 (.slice ar R.length cr) R.length (quadL R)/\Ex1 (w.heap.size+1) w3 wr/\R=((keysR 21 t').take k).map (quadOf perm)/\(∀g,(Value.slice ar R.length cr).ownBlock=some g->g=w.heap.size+1\/w3.heap.size<=g)/\R.length=k):=⟨hown,hex,hR,hblk,hRl⟩
  clear hown hex hR hblk hRl
  obtain ⟨rl,hrl⟩:∃rl,rl=R.length:=⟨_,rfl⟩
  have HRl:Hid (rl=R.length):=hrl
  have hrlk:rl=k:=hrl.trans HQ.out.2.2.2.2
  have hrlk1:rl<=k:=by omega
  rw [<- hrl] at HQ ⊢
  clear hrl
  have k0:(0:Int)<=(k:Int):=by omega
  by_cases hlt:k<kl
  ·have k1:(k:Int)<(kl:Int):=by omega
   have hkK:k<(keysR 21 t').length:=by rw [<- HKL.out];exact hlt
   obtain ⟨gk,ea,hgne⟩:=S3.out.1 (by omega)
   have hrd:RdS wr a3 kl (gt (keysR 21 t')):=S3.out.2.1.ex1 HQ.out.2.1 (fun g o e=>by
    rw [ea] at e
    injection e with e
    injection e with e
    omega)
   obtain ⟨bb,oo,ea2,s1⟩:=hrd.cellOf k hlt
   obtain ⟨key,hkey⟩:∃key,key=gt (keysR 21 t') k:=⟨_,rfl⟩
   rw [<- hkey] at s1
   have HKy:Hid (key=(keysR 21 t')[k]/\key.size=16):=by
    have e:key=(keysR 21 t')[k]:=by rw [hkey,gt_in hkK]
    exact ⟨e,by rw [e];exact HR.out.2.2.2.1 _ (List.getElem_mem hkK)⟩
   have HQd:Hid (Calls Tryz.prog 59 #[.string key,.int .i64 (perm:Int)] wr fun e w'=>e=.returned (qv (quadOf perm key))/\Below wr.heap.size wr w'):=l5Quad_any perm HR.out.2.2.2.2.2.2 key HKy.out.2 wr
   clear hkey hrd ea hrlk
   subst ea2
   go_wp2_with fail
   (with_reducible refine HQd.out.mono ?_)
   rintro e w5 ⟨rfl,hb5⟩
   obtain ⟨qd,hqd⟩:∃qd,qd=quadOf perm key:=⟨_,rfl⟩
   have HQq:Hid (qd=quadOf perm key):=hqd
   rw [<- hqd]
   unfold qv
   have HO5:Hid ((w5.alloc (.cells #[.int .i64 qd.s,.int .i64 qd.p,.int .i64 qd.o,.int .i64 qd.g] 34)).ownsRow (w.heap.size+1) 34 4 (.slice ar rl cr) rl (quadL R)/\Ex1 (w.heap.size+1) w3 (w5.alloc (.cells #[.int .i64 qd.s,.int .i64 qd.p,.int .i64 qd.o,.int .i64 qd.g] 34))/\(∀j u,(quadL [qd])[j]?=some u->(w5.alloc (.cells #[.int .i64 qd.s,.int .i64 qd.p,.int .i64 qd.o,.int .i64 qd.g] 34)).cell? ⟨w5.heap.size,j,none⟩=some u)):=by
    refine ⟨own_below (own_below HQ.out.1 hb5) (below_alloc _ _),(HQ.out.2.1.below hb5).below (below_alloc _ _),fun j u hj=>?_⟩
    rw [(Bx.new w5 #[.int .i64 qd.s,.int .i64 qd.p,.int .i64 qd.o,.int .i64 qd.g] 34).cell j]
    simpa [quadL] using hj
   have hz5:=hb5.size
   have hzr:=HQ.out.2.1.2.2.2.1
   have hz3:=S3.out.2.2.2.2
   clear hb5 hqd HQd
   go_wp2_with (at_builtin;refine wpList_append_own_at _ rfl _ _ 28 rfl (w.heap.size+1) 34 i0 _ 4 32 Tryz.underlying28 HI.out.1 HI.out.2.1 HI.out.2.2.1 HI.out.2.2.2 rfl (by decide) (.slice ar rl cr) rl (quadL R) rfl HO5.out.1 ⟨w5.heap.size,0,none⟩ 1 1 (quadL [qd]) rfl rfl (fun j u hj=>by rw [Addr.add_lit,Nat.zero_add];exact HO5.out.2.2 j u hj) (by intro u hu;simp [quadL] at hu;rcases hu with rfl|rfl|rfl|rfl <;> rfl) (by unfold maxLen;omega) (by omega) (by simp;omega) ?_)
   intro v7 w7 ho7 hg7 _ hat7
   have H7:Hid (w7.ownsRow (w.heap.size+1) 34 4 v7 (R++[qd]).length (quadL (R++[qd]))/\Ex1 (w.heap.size+1) w3 w7/\(∀g,v7.ownBlock=some g->g=w.heap.size+1\/w3.heap.size<=g)):=by
    refine ⟨by rw [quadL_app,List.length_append,<- HRl.out];exact ho7,HO5.out.2.1.grown hg7 HQ.out.2.2.2.1,fun g e=>?_⟩
    rcases hat7 with q|q
    ·exact HQ.out.2.2.2.1 g (by rw [<- q];exact e)
    ·rw [q] at e
     injection e with e
     exact .inr (by omega)
   have HN:Hid (R++[qd]=((keysR 21 t').take (k+1)).map (quadOf perm)):=by
    show R++[qd]=_
    rw [List.take_add_one,List.getElem?_eq_getElem hkK,List.map_append,<- HQ.out.2.2.1,HQq.out,HKy.out.1]
    rfl
   obtain ⟨a7,c7,e7,_⟩:=own_form ho7
   subst e7
   clear ho7 hg7 hat7 HO5
   go_wp2
   go_roundw
   case rel=>exact ⟨k+1,R++[qd],by omega,by go_num,HN.out,H7.out⟩
   case measure=>simp [intOf];omega
  ·obtain rfl:k=kl:=by omega
   have k1:¬ (k:Int)<(k:Int):=by omega
   have HF:Hid (R=L/\RdQ wr ar L/\Below w.heap.size w wr/\rl=L.length):=by
    have e:R=L:=by rw [HQ.out.2.2.1,HR.out.2.2.2.2.1,HKL.out,List.take_length]
    have ho:=HQ.out.1
    rw [HRl.out] at ho
    refine ⟨e,by rw [<- e];exact own_rdq ho,S3.out.2.2.2.1.trans (HQ.out.2.1.bel S3.out.2.2.2.1.size (by omega)),by rw [<- e];exact HRl.out⟩
   clear hrlk
   go_wp2
   go_ret
   exact ⟨ar,⟨cr,by rw [<- HF.out.2.2.2];rfl⟩,HF.out.2.1,HF.out.2.2.1⟩
end Go.Proofs.YtcnollkkigiobaaGreat
namespace Go.Proofs.YtcnollkkigiobaaGreat
open Go.RowKit Go.Deep Go.MapKept Go.ChangeMaps

theorem take_more {L:List Qd} {k:Nat} (h:k<L.length):L.take (k+1)=L.take k++[L[k]]:=by
 rw [List.take_add_one,List.getElem?_eq_getElem h]
 rfl
theorem take_not {L:List Qd} {k:Nat} (hn:L.Nodup) (h:k<L.length):L[k]∉L.take k:=by
 intro hm
 have e:L=L.take k++(L[k]::L.drop (k+1)):=by
  rw [List.getElem_cons_drop,List.take_append_drop]
 rw [e] at hn
 have:=(List.nodup_append.1 hn).2.2 _ hm _ (List.mem_cons_self ..)
 exact this rfl

set_option maxHeartbeats 2000000 in
theorem setOf_any (a:Option Addr) (n c:Nat) (L:List Qd) (w:World) (h:RdQ w a L) (hn:n=L.length) (hn2:n<=1048576) (hnd:L.Nodup) :
  Calls Tryz.prog 70 #[.slice a n c] w fun e w'=>∃B,e=.returned (.map (some B))/\QMap w' B L/\Below w.heap.size w w'/\w.heap.size<=B:=by
 have HR:Hid (RdQ w a L/\n=L.length/\L.Nodup):=⟨h,hn,hnd⟩
 clear h hn hnd
 have hmm:=@run_makeMap Tryz.prog
 go_enter Tryz.func70,Tryz.ntmps70
 go_wp2
 go_loopw [5,9] (fun _ i wr=>∃k:Nat,k<=n/\i=.int .i64 k/\QMap wr w.heap.size (L.take k)/\Below w.heap.size w wr) (fun _ i _=>n-(intOf i).toNat)
 case atStart=>exact ⟨0,Nat.zero_le _,rfl,qmap_new w,below_alloc _ _⟩
 case round=>
  obtain ⟨k,hk,rfl,hq,hbel⟩:=hrel
  have HS:Hid (QMap wr w.heap.size (L.take k)/\Below w.heap.size w wr):=⟨hq,hbel⟩
  by_cases hlt:k<n
  ·have hkL:k<L.length:=by rw [<- HR.out.2.1];exact hlt
   rcases HR.out.1.below hbel with h0|⟨b,rfl,hc⟩
   ·omega
   obtain ⟨s0,s1,s2,s3⟩:=hc k hkL
   have i0:(0:Int)<=(k:Int):=by omega
   have i1:(k:Int)<(n:Int):=by omega
   have hx0:=take_not HR.out.2.2 hkL
   have hx1:=take_more hkL
   obtain ⟨x,hx⟩:∃x,x=L[k]:=⟨_,rfl⟩
   rw [<- hx] at s0 s1 s2 s3 hx0 hx1
   obtain ⟨w7,hrun,hm7,hg7⟩:=(hq.below (below_alloc wr (.cells #[.int .i64 x.s,.int .i64 x.p,.int .i64 x.o,.int .i64 x.g] 34))).put x hx0
   have H7:Hid (QMap w7 w.heap.size (L.take (k+1))/\Below w.heap.size w w7):=by
    refine ⟨by rw [hx1];exact hm7,?_⟩
    have h1:=hbel.trans ((below_alloc wr (.cells #[.int .i64 x.s,.int .i64 x.p,.int .i64 x.o,.int .i64 x.g] 34)).mono hbel.size)
    exact h1.trans (below_grown hg7 h1.size (Nat.le_refl _))
   unfold qv at hrun
   clear hc hq hbel hx hx0 hx1 hm7 hg7
   go_wp2
   go_roundw
   case rel=>exact ⟨k+1,by omega,by go_num,H7.out⟩
   case measure=>simp [intOf];omega
  ·obtain rfl:k=n:=by omega
   have k1:¬ (k:Int)<(k:Int):=by omega
   clear hq hbel
   go_wp2
   go_ret
   refine ⟨w.heap.size,rfl,?_,HS.out.2,Nat.le_refl _⟩
   have e:L.take k=L:=by rw [HR.out.2.1,List.take_length]
   rw [<- e]
   exact HS.out.1

def RetIs (w:World) (L M:List Qd) (e:Ending) (w' : World):Prop:=∃b:Bool,e=.returned (.bool b)/\(b=true↔(L.length=M.length/\∀q,q∈L->q∈M))/\Below w.heap.size w w'

set_option maxHeartbeats 2000000 in
theorem isOf_any (B:Nat) (a:Option Addr) (n c:Nat) (L M:List Qd) (w:World) (hm:QMap w B M) (h:RdQ w a L) (hn:n=L.length) (hn2:n<=1048576) :
  Calls Tryz.prog 71 #[.map (some B),.slice a n c] w (RetIs w L M):=by
 have HR:Hid (RdQ w a L/\n=L.length/\QMap w B M):=⟨h,hn,hm⟩
 clear h hn hm
 go_enter Tryz.func71,Tryz.ntmps71
 go_wp2
 go_loopw [6,7,8,11] (fun _ _ _ i wr=>∃k:Nat,k<=n/\i=.int .i64 k/\(∀j (h:j<L.length),j<k->L[j]∈M)/\Below w.heap.size w wr) (fun _ _ _ i _=>n-(intOf i).toNat)
 case atStart=>exact ⟨0,Nat.zero_le _,rfl,fun j _ hj=>absurd hj (Nat.not_lt_zero _),Below.refl _ _⟩
 case round=>
  obtain ⟨k,hk,rfl,hall,hbel⟩:=hrel
  have HS:Hid ((∀j (h:j<L.length),j<k->L[j]∈M)/\Below w.heap.size w wr):=⟨hall,hbel⟩
  by_cases hlt:k<n
  ·have hkL:k<L.length:=by rw [<- HR.out.2.1];exact hlt
   rcases HR.out.1.below hbel with h0|⟨b,rfl,hc⟩
   ·omega
   obtain ⟨s0,s1,s2,s3⟩:=hc k hkL
   have i0:(0:Int)<=(k:Int):=by omega
   have i1:(k:Int)<(n:Int):=by omega
   obtain ⟨x,hx⟩:∃x,x=L[k]:=⟨_,rfl⟩
   have HXk:Hid (L[k]=x):=hx.symm
   rw [<- hx] at s0 s1 s2 s3
   obtain ⟨bk,hbk,hl⟩:=((HR.out.2.2.below hbel).below (below_alloc wr (.cells #[.int .i64 x.s,.int .i64 x.p,.int .i64 x.o,.int .i64 x.g] 34))).look x
   have HBk:Hid (bk=true↔x∈M):=hbk
   unfold qv at hl
   clear hc hall hbel hx hbk
   cases bk with
   | false=>
    go_wp2
    go_ret
    refine ⟨false,rfl,?_,?_⟩
    ·constructor
     ·intro h
      cases h
     ·rintro ⟨_,hq⟩
      have:=HBk.out.2 (by rw [<- HXk.out];exact hq _ (List.getElem_mem hkL))
      cases this
    ·exact HS.out.2.trans (((below_alloc _ _).alloc (by simp) _).mono HS.out.2.size)
   | true=>
    go_wp2
    go_roundw
    case rel=>
     refine ⟨k+1,by omega,by go_num,fun j hj hjk=>?_,HS.out.2.trans (((below_alloc _ _).alloc (by simp) _).mono HS.out.2.size)⟩
     by_cases e:j=k
     ·subst e
      rw [HXk.out]
      exact HBk.out.1 rfl
     ·exact HS.out.1 j hj (by omega)
    case measure=>simp [intOf];omega
  ·obtain rfl:k=n:=by omega
   have k1:¬ (k:Int)<(k:Int):=by omega
   have hln:=(HR.out.2.2.below hbel).len
   clear hall hbel
   go_wp2
   go_ret
   refine ⟨((M.length:Int) == (k:Int)),rfl,?_,HS.out.2⟩
   constructor
   ·intro h
    have h1:(M.length:Int)=(k:Int):=by simpa using h
    refine ⟨by have:=HR.out.2.1;omega,fun q hq=>?_⟩
    obtain ⟨j,hj,e⟩:=List.getElem_of_mem hq
    rw [<- e]
    exact HS.out.1 j hj (by have:=HR.out.2.1;omega)
   ·rintro ⟨h1,_⟩
    have h2:(M.length:Int)=(k:Int):=by have:=HR.out.2.1;omega
    simpa using h2
end Go.Proofs.YtcnollkkigiobaaGreat
