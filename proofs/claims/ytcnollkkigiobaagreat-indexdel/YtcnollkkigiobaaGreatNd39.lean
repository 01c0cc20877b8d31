import Derived.Test.YtcnollkkigiobaaGreatNd29
import Derived.Test.YtcnollkkigiobaaGreatNd18
import Derived.Test.YtcnollkkigiobaaGreatNd37
import Derived.Test.YtcnollkkigiobaaGreatNd34
import Derived.Test.YtcnollkkigiobaaGreatNd31
import Derived.Test.YtcnollkkigiobaaGreatNd12
import Derived.Test.YtcnollkkigiobaaGreatNd3
import Derived.Test.YtcnollkkigiobaaGreatNd16
import Derived.Test.YtcnollkkigiobaaGreatNd33
import Derived.Test.YtcnollkkigiobaaGreatNd32
import Derived.Test.YtcnollkkigiobaaGreatNd9
set_option linter.unusedVariables false
set_option maxRecDepth 100000
namespace Go.Proofs.YtcnollkkigiobaaGreat
open Go.RowKit Go.Deep

def RetTt (w:World) (d:Nat) (y:Ro d) (e:Ending) (w' : World):Prop:=
 Below w.heap.size w w'/\∃a c N' KA DA KC DC,e=.returned (.agg #[.slice a (nodesR d y) c])/\GT w' (w.heap.size+1) (.slice a (nodesR d y) c) (nodesR d y) N' KA DA KC DC/\Tells N' 0 d y 0

set_option maxHeartbeats 2000000 in
theorem tellTree_any (d:Nat) (y:Ro d) (v:Value) (S:Nat->Prop) (w:World) (root:Bool) (h:Nat) (ht:TAo S w d y v) (hb:BalR d root y h) (hS:∀x,S x->x<w.heap.size) (hn:nodesR d y<=100000):Calls Tryz.prog 86 #[v] w (RetTt w d y):=by
 have hct:=tellO d y v S (w.alloc (.cells #[.slice none 0 0] 59)) root h (w.heap.size+1) 0 0 none (fun _=>⟨false,0,fun _=>{ data:=#[] },0,fun _=>0,0⟩) (fun _=>none) (fun _=>none) (fun _=>0) (fun _=>0) (ht.below (below_alloc _ _)) hb (GT.nil _ _ _ _ _ _ _) (by simp) (fun x hx=>by have:=hS x hx;omega) (by omega)
 obtain ⟨m,hm⟩:∃m,m=nodesR d y:=⟨_,rfl⟩
 have HM:Hid (m=nodesR d y):=hm
 obtain ⟨bb,_,_,_,hform⟩:=ht.count
 rcases hform with rfl|rfl
 ·have HC:Hid (Calls Tryz.prog 209 #[.pointer (some ⟨bb,0,none⟩),.slice none 0 0] (w.alloc (.cells #[.slice none 0 0] 59)) (RetTl (w.alloc (.cells #[.slice none 0 0] 59)) (w.heap.size+1) (.slice none 0 0) 0 (fun _=>⟨false,0,fun _=>{ data:=#[] },0,fun _=>0,0⟩) (fun _=>none) (fun _=>none) m (fun N'=>Tells N' 0 d y 0))):=by
   rw [hm]
   exact callT_leaf hct
  clear hct ht hb hS hn hm
  go_enter Tryz.func86,Tryz.ntmps86
  go_wp2_with fail
  (with_reducible refine HC.out.mono ?_)
  rintro e w1 ⟨v',N',KA',DA',KC',DC',rfl,q1,q2,q3,q4,q5,q6⟩
  rw [Nat.zero_add] at q1
  obtain ⟨a1,c1,e1,_⟩:=own_form q1.row
  subst e1
  have hz:=q2.size
  have hbx:Bx w1 w.heap.size 59 #[.slice none 0 0]:=(Bx.new w #[.slice none 0 0] 59).grown q2 (fun e=>by cases e)
  have HX:Hid (GT w1 (w.heap.size+1) (.slice a1 m c1) m N' KA' DA' KC' DC'/\Tells N' 0 d y 0/\Below w.heap.size w w1/\Bx w1 w.heap.size 59 #[.slice none 0 0]):=⟨q1,q6,(below_alloc _ _).grown q2 (by simp) (fun g e=>by cases e),hbx⟩
  have z0:=hbx.cell 0
  simp at z0
  have zf:=hbx.frozen 0
  have zl:=hbx.lt
  clear q1 q2 q3 q4 q5 q6 hbx hz HC
  go_wp2
  refine bodyPost_ret (v:=.agg #[.slice a1 m c1]) (by simp [results,Tryz.results86,go_sem,z0]) rfl ⟨HX.out.2.2.1.setCell (by simp) _,a1,c1,N',KA',DA',KC',DC',by rw [HM.out],?_,HX.out.2.1⟩
  rw [<- HM.out]
  exact HX.out.1.keep (fun x hx=>Below.heap_setCell _ _ _ _ (by have:=(HX.out.1.used hx).1;show x≠w.heap.size;omega))
 ·have HC:Hid (Calls Tryz.prog 191 #[.pointer (some ⟨bb,0,none⟩),.slice none 0 0] (w.alloc (.cells #[.slice none 0 0] 59)) (RetTl (w.alloc (.cells #[.slice none 0 0] 59)) (w.heap.size+1) (.slice none 0 0) 0 (fun _=>⟨false,0,fun _=>{ data:=#[] },0,fun _=>0,0⟩) (fun _=>none) (fun _=>none) m (fun N'=>Tells N' 0 d y 0))):=by
   rw [hm]
   exact callT_inner hct
  clear hct ht hb hS hn hm
  go_enter Tryz.func86,Tryz.ntmps86
  go_wp2_with fail
  (with_reducible refine HC.out.mono ?_)
  rintro e w1 ⟨v',N',KA',DA',KC',DC',rfl,q1,q2,q3,q4,q5,q6⟩
  rw [Nat.zero_add] at q1
  obtain ⟨a1,c1,e1,_⟩:=own_form q1.row
  subst e1
  have hz:=q2.size
  have hbx:Bx w1 w.heap.size 59 #[.slice none 0 0]:=(Bx.new w #[.slice none 0 0] 59).grown q2 (fun e=>by cases e)
  have HX:Hid (GT w1 (w.heap.size+1) (.slice a1 m c1) m N' KA' DA' KC' DC'/\Tells N' 0 d y 0/\Below w.heap.size w w1/\Bx w1 w.heap.size 59 #[.slice none 0 0]):=⟨q1,q6,(below_alloc _ _).grown q2 (by simp) (fun g e=>by cases e),hbx⟩
  have z0:=hbx.cell 0
  simp at z0
  have zf:=hbx.frozen 0
  have zl:=hbx.lt
  clear q1 q2 q3 q4 q5 q6 hbx hz HC
  go_wp2
  refine bodyPost_ret (v:=.agg #[.slice a1 m c1]) (by simp [results,Tryz.results86,go_sem,z0]) rfl ⟨HX.out.2.2.1.setCell (by simp) _,a1,c1,N',KA',DA',KC',DC',by rw [HM.out],?_,HX.out.2.1⟩
  rw [<- HM.out]
  exact HX.out.1.keep (fun x hx=>Below.heap_setCell _ _ _ _ (by have:=(HX.out.1.used hx).1;show x≠w.heap.size;omega))
def RetTi (w:World) (n:Nat) (N:Nat->Tn) (key:ByteArray) (e:Ending) (w' : World):Prop:=
 Below w.heap.size w w'/\∃ok a m c M KA DA KC DC,e=.returned (.agg #[.bool ok,.slice a m c])/\GT w' w.heap.size (.slice a m c) m M KA DA KC DC/\((ok=true/\InsTo n N key m M)\/(ok=false/\m=n/\M=N/\InsNo n N key))

theorem GT.mono {w:World} {B B' : Nat} {v:Value} {n:Nat} {N:Nat->Tn} {KA DA:Nat->Option Addr} {KC DC:Nat->Nat} (h:GT w B v n N KA DA KC DC) (hB:B'<=B):GT w B' v n N KA DA KC DC:=
 ⟨own_mono h.row hB,fun i hi=>(h.keys i hi).mono hB,fun i hi=>(h.kids i hi).mono hB,h.apartK,h.apartD⟩

def RetGo (key:ByteArray) (t:Ro 21) (w:World) (b:Nat) (e:Ending) (w' : World):Prop:=
 ∃(D:Nat) (y:Ro D) (v' : Value) (S:Nat->Prop) (hh:Nat) (rs:List (Ro 21)),e=.returned v'/\Fr2 w w' b b/\TAo S w' D y v'/\(∀x,S x->x<w'.heap.size)/\BalR D true y hh/\InsR key 21 t rs/\nodesR D y=insN rs/\nodesR D y<=6000/\∀M,Tells M 0 D y 0->InsT M rs


theorem tells_four {F:Nat->Tn} {base:Int}:∀{d:Nat} {root:Bool} {t:Ro d} {h x:Nat},Tells F base d t x->BalR d root t h->∀i,x<=i->i<x+nodesR d t->(F i).kn<=4/\(F i).dn<=4
 | 0,_,_,_,_,h,_,_,_,_=>h.elim
 | d+1,root,.inl t,h,x,ht,hb,i,hi1,hi2=>by
  have hn:nodesR (d+1) (.inl t)=1:=rfl
  have e:i=x:=by omega
  subst e
  obtain ⟨_,h2,_,h4,_⟩:=ht
  obtain ⟨_,h5,_⟩:=hb
  exact ⟨by omega,by omega⟩
 | d+1,root,.inr l,h,x,ht,hb,i,hi1,hi2=>by
  have hn:nodesR (d+1) (.inr l)=1+(l.map (nodesR d)).sum:=rfl
  obtain ⟨h1,h2,h3,h4,h5,h6,h7⟩:=ht
  obtain ⟨g1,g2,h',_,hall⟩:=hb
  by_cases e:i=x
  ·subst e
   exact ⟨by omega,by omega⟩
  ·obtain ⟨k,hk,k1,k2⟩:=offR_find d l (i-(x+1)) (by omega)
   exact tells_four (h7 k hk) (hall _ (List.getElem_mem hk)) i (by omega) (by omega)

theorem sum_four (M:Nat->Tn):∀m,(∀i,i<m->(M i).kn<=4/\(M i).dn<=4)->sumT M m<=8*m
 | 0,_=>Nat.le_refl _
 | m+1,h=>by
  have q:=sum_four M m (fun i hi=>h i (by omega))
  have:=h m (by omega)
  show sumT M m+(M m).kn+(M m).dn<=_
  omega

theorem GT.ownTn {w:World} {B g n c:Nat} {N:Nat->Tn} {KA DA:Nat->Option Addr} {KC DC:Nat->Nat} (h:GT w B (.slice (some ⟨g,0,none⟩) n c) n N KA DA KC DC):OwnTn w B g n N KA DA KC DC:=by
 refine ⟨(own_lt h.row g rfl).1,?_,h.keys,h.kids,h.apartK,h.apartD⟩
 rcases h.row.2 with ⟨q,_⟩|⟨g',cap,cur,q1,q2,q3,q4,q5,q6,q7⟩
 ·cases q
 ·injection q1 with q1 _ q8
  injection q1 with q1
  injection q1 with q1
  subst q1 q8
  refine ⟨cur,q3,by rw [q6];exact Nat.mul_le_mul_right 4 q4,fun i hi=>?_⟩
  have q9:(cur.toList.take (n*4))[i]?=((List.range (n*4)).map (tnCell N KA DA KC DC))[i]?:=by rw [q7]
  rw [List.getElem?_take,if_pos hi,Array.getElem?_toList,List.getElem?_map,List.getElem?_range hi] at q9
  exact q9
theorem GT.form {w:World} {B n c:Nat} {a:Option Addr} {N:Nat->Tn} {KA DA:Nat->Option Addr} {KC DC:Nat->Nat} (h:GT w B (.slice a n c) n N KA DA KC DC) (h0:n≠0):∃g,a=some ⟨g,0,none⟩:=by
 obtain ⟨a',c',e,hf⟩:=own_form h.row
 injection e with e
 obtain ⟨g,q,_⟩:=hf h0
 exact ⟨g,by rw [e,q]⟩
theorem GT.rd {w:World} {B n c:Nat} {a:Option Addr} {N:Nat->Tn} {KA DA:Nat->Option Addr} {KC DC:Nat->Nat} (h:GT w B (.slice a n c) n N KA DA KC DC):RdTn w a n N:=by
 by_cases h0:n=0
 ·exact .inl h0
 ·obtain ⟨g,rfl⟩:=h.form h0
  exact h.ownTn.rd

theorem RdTn.same {w:World} {a:Option Addr} {n:Nat} {M M' : Nat->Tn} (h:RdTn w a n M) (hs:∀i,i<n->SameN (M i) (M' i)):RdTn w a n M':=by
 rcases h with h|⟨b,o,rfl,hc⟩
 ·exact .inl h
 ·refine .inr ⟨b,o,rfl,fun i hi=>?_⟩
  obtain ⟨ka,kc,da,dc,h0,h1,h2,h3,h4,h5⟩:=hc i hi
  obtain ⟨e1,e2,e3,e4,e5,e6⟩:=hs i hi
  refine ⟨ka,kc,da,dc,by rw [<- e1];exact h0,by rw [<- e3];exact h1,by rw [<- e4];exact h2,by rw [<- e2];exact h3,?_,?_⟩
  ·rw [<- e3];exact h4.congr e5
  ·rw [<- e4];exact h5.congr e6


theorem fil_all (K:List ByteArray):fil { data:=#[] } { data:=#[] } K=K:=by
 unfold fil
 rw [List.filter_eq_self]
 intro k _
 have e:(({ data:=#[] }:ByteArray)).toList=[]:=by unfold ByteArray.toList;unfold ByteArray.toList.loop;rfl
 unfold inR
 rw [e]
 cases k.toList <;> rfl
def GoodK (perm:Nat) (K:List ByteArray):Prop:=∀k,k∈K->k.size=16/\quadB (quadOf perm k)=true
def RetQs (w:World) (perm:Nat) (K:List ByteArray) (e:Ending) (w' : World):Prop:=
 ∃(ok:Bool) (a:Option Addr) (c:Nat) (L:List Qd),e=.returned (.tuple #[.slice a L.length c,.bool ok])/\Below w.heap.size w w'/\RdQ w' a L/\((ok=true/\L=K.map (quadOf perm)/\GoodK perm K)\/(ok=false/\L=[]/\¬ GoodK perm K))

set_option maxHeartbeats 8000000 in
theorem quads_any (perm:Nat) (hp:perm<6) (b o:Nat) (w:World) (n:Nat) (t:Ro n) (v:Value) (hh:Nat) (hc0:w.cell? ⟨b,o,none⟩=some (.func (.func (layF perm)) #[] #[])) (hc1:w.cell? ⟨b,o+1,none⟩=some v)
  (ht:TAt (fun bb=>bb<w.heap.size) w n t v) (hb:BalR n true t hh) (hasc:Asc (keysR n t)) (hlen:(keysR n t).length<=300) :
  Calls Tryz.prog 69 #[.pointer (some ⟨b,o,none⟩)] w (RetQs w perm (keysR n t)):=by
 have hga:=gather_any { data:=#[] } { data:=#[] } w.heap.size w n t v true hh ht hb hasc (by omega)
 obtain ⟨K,hK⟩:∃K,K=keysR n t:=⟨_,rfl⟩
 rw [<- hK] at hga hlen ⊢
 have HP:Hid (perm<6/\w.cell? ⟨b,o,none⟩=some (.func (.func (layF perm)) #[] #[])/\b<w.heap.size):=⟨hp,hc0,World.block_lt_of_cell? _ _ hc0⟩
 clear ht hb hasc hK hp hc0 hh t n
 obtain ⟨i0,hi0,hz0,hz1,hz2⟩:=info_parts Tryz.info34
 have HI:Hid (Tryz.prog.info? 34=some i0/\i0.zero=some (.agg #[.int .i64 0,.int .i64 0,.int .i64 0,.int .i64 0])/\i0.size=4/\i0.bytes=32):=⟨hi0,hz0,hz1,hz2⟩
 clear hi0 hz0 hz1 hz2
 rcases hga with ⟨p,rfl,hcall⟩|⟨p,rfl,hcall⟩
 ·have HC:Hid (Calls Tryz.prog 203 #[.pointer (some p),.slice none 0 0,.string { data:=#[] },.string { data:=#[] }] w (RetGa w.heap.size w ([]++fil { data:=#[] } { data:=#[] } K))):=hcall w none 0 0 [] (Below.refl _ _) (Nat.le_refl _) (World.ownsRow_nil _ _ _ _) rfl (by omega)
  clear hcall
  rw [List.nil_append,fil_all] at HC
  go_enter Tryz.func69,Tryz.ntmps69
  go_wp2_with fail
  (with_reducible refine HC.out.mono ?_)
  rintro e w3 ⟨a3,c3,rfl,ho3,hb3⟩
  obtain ⟨kl,hkl⟩:∃kl,kl=K.length:=⟨_,rfl⟩
  have HKL:Hid (kl=K.length):=hkl
  have S3:Hid (RdS w3 a3 kl (gt K)/\Below w.heap.size w w3):=by
   obtain ⟨a6,c6,e6,q,_⟩:=ownS_strL ho3 rfl
   injection e6 with e6 _ _
   subst e6
   exact ⟨by rw [hkl];exact q.rd,hb3⟩
  rw [<- hkl] at hlen ⊢
  clear hkl ho3 hb3 HC
  go_wp2
  go_loopw [4,6,7,14] (fun out _ _ i wr=>∃(k:Nat) (R:List Qd),k<=kl/\i=.int .i64 k/\R=(K.take k).map (quadOf perm)/\GoodK perm (K.take k)/\wr.ownsRow w3.heap.size 34 4 out R.length (quadL R)/\Below w3.heap.size w3 wr) (fun _ _ _ i _=>kl-(intOf i).toNat)
  case atStart=>exact ⟨0,[],Nat.zero_le _,rfl,rfl,(fun k hk=>by simp at hk),World.ownsRow_nil _ _ _ _,Below.refl _ _⟩
  case round=>
   obtain ⟨k,R,hk,rfl,hR,hgd,hown,hbel⟩:=hrel
   obtain ⟨ar,cr,er,_⟩:=own_form hown
   subst er
   have hRl:R.length=k:=by rw [hR,List.length_map,List.length_take,<- HKL.out];omega
   have HQ:Hid (wr.ownsRow w3.heap.size 34 4 (.slice ar R.length cr) R.length (quadL R)/\Below w3.heap.size w3 wr/\R=(K.take k).map (quadOf perm)/\GoodK perm (K.take k)/\R.length=k):=⟨hown,hbel,hR,hgd,hRl⟩
   clear hown hbel hR hgd hRl
   obtain ⟨rl,hrl⟩:∃rl,rl=R.length:=⟨_,rfl⟩
   have HRl:Hid (rl=R.length):=hrl
   have hrlk:rl=k:=hrl.trans HQ.out.2.2.2.2
   have hrlk1:rl<=k:=by omega
   rw [<- hrl] at HQ ⊢
   clear hrl hrlk
   have k0:(0:Int)<=(k:Int):=by omega
   have HBw:Hid (Below w.heap.size w wr):=S3.out.2.trans (HQ.out.2.1.mono S3.out.2.size)
   by_cases hlt:k<kl
   ·have k1:(k:Int)<(kl:Int):=by omega
    have hkK:k<K.length:=by rw [<- HKL.out];exact hlt
    obtain ⟨bb,oo,ea2,s1⟩:=(S3.out.1.below HQ.out.2.1).cellOf k hlt
    obtain ⟨key,hkey⟩:∃key,key=gt K k:=⟨_,rfl⟩
    rw [<- hkey] at s1
    have HKy:Hid (key=K[k]/\key∈K):=by
     have e:key=K[k]:=by rw [hkey,gt_in hkK]
     exact ⟨e,by rw [e];exact List.getElem_mem hkK⟩
    have l0:wr.cell? ⟨b,o,none⟩=some (.func (.func (layF perm)) #[] #[]):=by
     rw [HBw.out.cell (show b<w.heap.size from HP.out.2.2)]
     exact HP.out.2.1
    clear hkey hc1
    subst ea2
    by_cases hsz:key.size=16
    ·have hszi:(key.size:Int)=16:=by omega
     have HQd:Hid (Calls Tryz.prog 73 #[.func (.func (layF perm)) #[] #[],.string key] wr fun e w'=>e=.returned (qv (quadOf perm key))/\Below wr.heap.size wr w'):=quad_any perm HP.out.1 key hsz wr
     go_wp2_with fail
     (with_reducible refine HQd.out.mono ?_)
     rintro e w5 ⟨rfl,hb5⟩
     obtain ⟨qd,hqd⟩:∃qd,qd=quadOf perm key:=⟨_,rfl⟩
     have HQq:Hid (qd=quadOf perm key):=hqd
     have HIs:Hid (∀W:World,Calls Tryz.prog 81 #[.agg #[.int .i64 qd.s,.int .i64 qd.p,.int .i64 qd.o,.int .i64 qd.g]] W fun e w'=>e=.returned (.bool (quadB qd))/\Below W.heap.size W w'):=fun W=>isQuad_any qd W
     rw [<- hqd]
     clear hqd
     unfold qv
     go_wp2_with fail
     (with_reducible refine (HIs.out _).mono ?_)
     rintro e w6 ⟨rfl,hb6⟩
     have z:=(Bx.new w5 #[.int .i64 qd.s,.int .i64 qd.p,.int .i64 qd.o,.int .i64 qd.g] 34)
     have hz5:=hb5.size
     have hz6:=hb6.size
     have hz3:=HQ.out.2.1.size
     simp only [World.size_alloc] at hz6
     have hb56:Below w5.heap.size w5 w6:=(below_alloc w5 (.cells #[.int .i64 qd.s,.int .i64 qd.p,.int .i64 qd.o,.int .i64 qd.g] 34)).trans (hb6.mono (by simp))
     have z6:Bx w6 w5.heap.size 34 #[.int .i64 qd.s,.int .i64 qd.p,.int .i64 qd.o,.int .i64 qd.g]:=(hb6.block _ (by simp)).trans z
     have y0:=z6.cell 0
     have y1:=z6.cell 1
     have y2:=z6.cell 2
     have y3:=z6.cell 3
     simp at y0 y1 y2 y3
     have HO6:Hid (w6.ownsRow w3.heap.size 34 4 (.slice ar rl cr) rl (quadL R)/\Below w3.heap.size w3 w6/\Below w.heap.size w w6):=by
      have q1:Below wr.heap.size wr w6:=hb5.trans (hb56.mono hz5)
      have q2:Below w3.heap.size w3 w6:=HQ.out.2.1.trans (q1.mono hz3)
      exact ⟨own_below HQ.out.1 q1,q2,S3.out.2.trans (q2.mono S3.out.2.size)⟩
     cases hq:quadB qd with
     | false=>
      have HNo:Hid (¬ GoodK perm K):=fun h=>by
       have:=(h key HKy.out.2).2
       rw [<- HQq.out,hq] at this
       cases this
      clear hb5 hb6 hb56 z z6 HQd HIs
      go_wp2
      refine bodyPost_ret (v:=.tuple #[.slice none 0 0,.bool false]) (by simp [results,Tryz.results69,go_sem]) rfl ?_
      exact ⟨false,none,0,[],rfl,HO6.out.2.2,.inl rfl,.inr ⟨rfl,rfl,HNo.out⟩⟩
     | true=>
      have HG1:Hid (GoodK perm (K.take (k+1))):=by
       intro x hx
       rw [List.take_add_one,List.getElem?_eq_getElem hkK] at hx
       rcases List.mem_append.1 hx with hx|hx
       ·exact HQ.out.2.2.2.1 x hx
       ·have e:x=K[k]:=by simpa using hx
        rw [e,<- HKy.out.1]
        exact ⟨hsz,by rw [<- HQq.out];exact hq⟩
      have hz3r:w3.heap.size<=w6.heap.size:=by omega
      have HO7:Hid ((w6.alloc (.cells #[.int .i64 qd.s,.int .i64 qd.p,.int .i64 qd.o,.int .i64 qd.g] 34)).ownsRow w3.heap.size 34 4 (.slice ar rl cr) rl (quadL R)/\(∀j u,(quadL [qd])[j]?=some u->(w6.alloc (.cells #[.int .i64 qd.s,.int .i64 qd.p,.int .i64 qd.o,.int .i64 qd.g] 34)).cell? ⟨w6.heap.size,j,none⟩=some u)):=by
       refine ⟨own_below HO6.out.1 (below_alloc _ _),fun j u hj=>?_⟩
       rw [(Bx.new w6 #[.int .i64 qd.s,.int .i64 qd.p,.int .i64 qd.o,.int .i64 qd.g] 34).cell j]
       simpa [quadL] using hj
      clear hb5 hb6 hb56 z z6 HQd HIs
      go_wp2_with (at_builtin;refine wpList_append_own_at _ rfl _ _ 28 rfl w3.heap.size 34 i0 _ 4 32 Tryz.underlying28 HI.out.1 HI.out.2.1 HI.out.2.2.1 HI.out.2.2.2 rfl (by decide) (.slice ar rl cr) rl (quadL R) rfl HO7.out.1 ⟨w6.heap.size,0,none⟩ 1 1 (quadL [qd]) rfl rfl (fun j u hj=>by rw [Addr.add_lit,Nat.zero_add];exact HO7.out.2 j u hj) (by intro u hu;simp [quadL] at hu;rcases hu with rfl|rfl|rfl|rfl <;> rfl) (by unfold maxLen;omega) (by omega) (by simp;omega) ?_)
      intro v7 w7 ho7 hg7 _ hat7
      have H7:Hid (GoodK perm (K.take (k+1))/\w7.ownsRow w3.heap.size 34 4 v7 (R++[qd]).length (quadL (R++[qd]))/\Below w3.heap.size w3 w7):=by
       refine ⟨HG1.out,by rw [quadL_app,List.length_append,<- HRl.out];exact ho7,?_⟩
       exact (HO6.out.2.1.trans ((below_alloc _ _).mono hz3r)).grown hg7 (by simp;omega) (fun g e=>(own_lt HQ.out.1 g e).1)
      have HN:Hid (R++[qd]=(K.take (k+1)).map (quadOf perm)):=by
       show R++[qd]=_
       rw [List.take_add_one,List.getElem?_eq_getElem hkK,List.map_append,<- HQ.out.2.2.1,HQq.out,HKy.out.1]
       rfl
      obtain ⟨a7,c7,e7,_⟩:=own_form ho7
      subst e7
      clear ho7 hg7 hat7 HO7
      go_wp2
      go_roundw
      case rel=>exact ⟨k+1,R++[qd],by omega,by go_num,HN.out,H7.out⟩
      case measure=>simp [intOf];omega
    ·have hszi:¬ (key.size:Int)=16:=by omega
     have HNo:Hid (¬ GoodK perm K):=fun h=>hsz (h key HKy.out.2).1
     go_wp2
     refine bodyPost_ret (v:=.tuple #[.slice none 0 0,.bool false]) (by simp [results,Tryz.results69,go_sem]) rfl ?_
     exact ⟨false,none,0,[],rfl,HBw.out,.inl rfl,.inr ⟨rfl,rfl,HNo.out⟩⟩
   ·obtain rfl:k=kl:=by omega
    have k1:¬ (k:Int)<(k:Int):=by omega
    have HF:Hid (RdQ wr ar R/\rl=R.length/\R=K.map (quadOf perm)/\GoodK perm K):=by
     have ho:=HQ.out.1
     rw [HRl.out] at ho
     have e:K.take k=K:=by rw [HKL.out,List.take_length]
     refine ⟨own_rdq ho,HRl.out,?_,?_⟩
     ·rw [HQ.out.2.2.1,e]
     ·have:=HQ.out.2.2.2.1
      rw [e] at this
      exact this
    go_wp2
    refine bodyPost_ret (v:=.tuple #[.slice ar rl cr,.bool true]) (by simp [results,Tryz.results69,go_sem]) rfl ?_
    exact ⟨true,ar,cr,R,by rw [<- HF.out.2.1],HBw.out,HF.out.1,.inl ⟨rfl,HF.out.2.2.1,HF.out.2.2.2⟩⟩
 ·have HC:Hid (Calls Tryz.prog 186 #[.pointer (some p),.slice none 0 0,.string { data:=#[] },.string { data:=#[] }] w (RetGa w.heap.size w ([]++fil { data:=#[] } { data:=#[] } K))):=hcall w none 0 0 [] (Below.refl _ _) (Nat.le_refl _) (World.ownsRow_nil _ _ _ _) rfl (by omega)
  clear hcall
  rw [List.nil_append,fil_all] at HC
  go_enter Tryz.func69,Tryz.ntmps69
  go_wp2_with fail
  (with_reducible refine HC.out.mono ?_)
  rintro e w3 ⟨a3,c3,rfl,ho3,hb3⟩
  obtain ⟨kl,hkl⟩:∃kl,kl=K.length:=⟨_,rfl⟩
  have HKL:Hid (kl=K.length):=hkl
  have S3:Hid (RdS w3 a3 kl (gt K)/\Below w.heap.size w w3):=by
   obtain ⟨a6,c6,e6,q,_⟩:=ownS_strL ho3 rfl
   injection e6 with e6 _ _
   subst e6
   exact ⟨by rw [hkl];exact q.rd,hb3⟩
  rw [<- hkl] at hlen ⊢
  clear hkl ho3 hb3 HC
  go_wp2
  go_loopw [4,6,7,14] (fun out _ _ i wr=>∃(k:Nat) (R:List Qd),k<=kl/\i=.int .i64 k/\R=(K.take k).map (quadOf perm)/\GoodK perm (K.take k)/\wr.ownsRow w3.heap.size 34 4 out R.length (quadL R)/\Below w3.heap.size w3 wr) (fun _ _ _ i _=>kl-(intOf i).toNat)
  case atStart=>exact ⟨0,[],Nat.zero_le _,rfl,rfl,(fun k hk=>by simp at hk),World.ownsRow_nil _ _ _ _,Below.refl _ _⟩
  case round=>
   obtain ⟨k,R,hk,rfl,hR,hgd,hown,hbel⟩:=hrel
   obtain ⟨ar,cr,er,_⟩:=own_form hown
   subst er
   have hRl:R.length=k:=by rw [hR,List.length_map,List.length_take,<- HKL.out];omega
   have HQ:Hid (wr.ownsRow w3.heap.size 34 4 (.slice ar R.length cr) R.length (quadL R)/\Below w3.heap.size w3 wr/\R=(K.take k).map (quadOf perm)/\GoodK perm (K.take k)/\R.length=k):=⟨hown,hbel,hR,hgd,hRl⟩
   clear hown hbel hR hgd hRl
   obtain ⟨rl,hrl⟩:∃rl,rl=R.length:=⟨_,rfl⟩
   have HRl:Hid (rl=R.length):=hrl
   have hrlk:rl=k:=hrl.trans HQ.out.2.2.2.2
   have hrlk1:rl<=k:=by omega
   rw [<- hrl] at HQ ⊢
   clear hrl hrlk
   have k0:(0:Int)<=(k:Int):=by omega
   have HBw:Hid (Below w.heap.size w wr):=S3.out.2.trans (HQ.out.2.1.mono S3.out.2.size)
   by_cases hlt:k<kl
   ·have k1:(k:Int)<(kl:Int):=by omega
    have hkK:k<K.length:=by rw [<- HKL.out];exact hlt
    obtain ⟨bb,oo,ea2,s1⟩:=(S3.out.1.below HQ.out.2.1).cellOf k hlt
    obtain ⟨key,hkey⟩:∃key,key=gt K k:=⟨_,rfl⟩
    rw [<- hkey] at s1
    have HKy:Hid (key=K[k]/\key∈K):=by
     have e:key=K[k]:=by rw [hkey,gt_in hkK]
     exact ⟨e,by rw [e];exact List.getElem_mem hkK⟩
    have l0:wr.cell? ⟨b,o,none⟩=some (.func (.func (layF perm)) #[] #[]):=by
     rw [HBw.out.cell (show b<w.heap.size from HP.out.2.2)]
     exact HP.out.2.1
    clear hkey hc1
    subst ea2
    by_cases hsz:key.size=16
    ·have hszi:(key.size:Int)=16:=by omega
     have HQd:Hid (Calls Tryz.prog 73 #[.func (.func (layF perm)) #[] #[],.string key] wr fun e w'=>e=.returned (qv (quadOf perm key))/\Below wr.heap.size wr w'):=quad_any perm HP.out.1 key hsz wr
     go_wp2_with fail
     (with_reducible refine HQd.out.mono ?_)
     rintro e w5 ⟨rfl,hb5⟩
     obtain ⟨qd,hqd⟩:∃qd,qd=quadOf perm key:=⟨_,rfl⟩
     have HQq:Hid (qd=quadOf perm key):=hqd
     have HIs:Hid (∀W:World,Calls Tryz.prog 81 #[.agg #[.int .i64 qd.s,.int .i64 qd.p,.int .i64 qd.o,.int .i64 qd.g]] W fun e w'=>e=.returned (.bool (quadB qd))/\Below W.heap.size W w'):=fun W=>isQuad_any qd W
     rw [<- hqd]
     clear hqd
     unfold qv
     go_wp2_with fail
     (with_reducible refine (HIs.out _).mono ?_)
     rintro e w6 ⟨rfl,hb6⟩
     have z:=(Bx.new w5 #[.int .i64 qd.s,.int .i64 qd.p,.int .i64 qd.o,.int .i64 qd.g] 34)
     have hz5:=hb5.size
     have hz6:=hb6.size
     have hz3:=HQ.out.2.1.size
     simp only [World.size_alloc] at hz6
     have hb56:Below w5.heap.size w5 w6:=(below_alloc w5 (.cells #[.int .i64 qd.s,.int .i64 qd.p,.int .i64 qd.o,.int .i64 qd.g] 34)).trans (hb6.mono (by simp))
     have z6:Bx w6 w5.heap.size 34 #[.int .i64 qd.s,.int .i64 qd.p,.int .i64 qd.o,.int .i64 qd.g]:=(hb6.block _ (by simp)).trans z
     have y0:=z6.cell 0
     have y1:=z6.cell 1
     have y2:=z6.cell 2
     have y3:=z6.cell 3
     simp at y0 y1 y2 y3
     have HO6:Hid (w6.ownsRow w3.heap.size 34 4 (.slice ar rl cr) rl (quadL R)/\Below w3.heap.size w3 w6/\Below w.heap.size w w6):=by
      have q1:Below wr.heap.size wr w6:=hb5.trans (hb56.mono hz5)
      have q2:Below w3.heap.size w3 w6:=HQ.out.2.1.trans (q1.mono hz3)
      exact ⟨own_below HQ.out.1 q1,q2,S3.out.2.trans (q2.mono S3.out.2.size)⟩
     cases hq:quadB qd with
     | false=>
      have HNo:Hid (¬ GoodK perm K):=fun h=>by
       have:=(h key HKy.out.2).2
       rw [<- HQq.out,hq] at this
       cases this
      clear hb5 hb6 hb56 z z6 HQd HIs
      go_wp2
      refine bodyPost_ret (v:=.tuple #[.slice none 0 0,.bool false]) (by simp [results,Tryz.results69,go_sem]) rfl ?_
      exact ⟨false,none,0,[],rfl,HO6.out.2.2,.inl rfl,.inr ⟨rfl,rfl,HNo.out⟩⟩
     | true=>
      have HG1:Hid (GoodK perm (K.take (k+1))):=by
       intro x hx
       rw [List.take_add_one,List.getElem?_eq_getElem hkK] at hx
       rcases List.mem_append.1 hx with hx|hx
       ·exact HQ.out.2.2.2.1 x hx
       ·have e:x=K[k]:=by simpa using hx
        rw [e,<- HKy.out.1]
        exact ⟨hsz,by rw [<- HQq.out];exact hq⟩
      have hz3r:w3.heap.size<=w6.heap.size:=by omega
      have HO7:Hid ((w6.alloc (.cells #[.int .i64 qd.s,.int .i64 qd.p,.int .i64 qd.o,.int .i64 qd.g] 34)).ownsRow w3.heap.size 34 4 (.slice ar rl cr) rl (quadL R)/\(∀j u,(quadL [qd])[j]?=some u->(w6.alloc (.cells #[.int .i64 qd.s,.int .i64 qd.p,.int .i64 qd.o,.int .i64 qd.g] 34)).cell? ⟨w6.heap.size,j,none⟩=some u)):=by
       refine ⟨own_below HO6.out.1 (below_alloc _ _),fun j u hj=>?_⟩
       rw [(Bx.new w6 #[.int .i64 qd.s,.int .i64 qd.p,.int .i64 qd.o,.int .i64 qd.g] 34).cell j]
       simpa [quadL] using hj
      clear hb5 hb6 hb56 z z6 HQd HIs
      go_wp2_with (at_builtin;refine wpList_append_own_at _ rfl _ _ 28 rfl w3.heap.size 34 i0 _ 4 32 Tryz.underlying28 HI.out.1 HI.out.2.1 HI.out.2.2.1 HI.out.2.2.2 rfl (by decide) (.slice ar rl cr) rl (quadL R) rfl HO7.out.1 ⟨w6.heap.size,0,none⟩ 1 1 (quadL [qd]) rfl rfl (fun j u hj=>by rw [Addr.add_lit,Nat.zero_add];exact HO7.out.2 j u hj) (by intro u hu;simp [quadL] at hu;rcases hu with rfl|rfl|rfl|rfl <;> rfl) (by unfold maxLen;omega) (by omega) (by simp;omega) ?_)
      intro v7 w7 ho7 hg7 _ hat7
      have H7:Hid (GoodK perm (K.take (k+1))/\w7.ownsRow w3.heap.size 34 4 v7 (R++[qd]).length (quadL (R++[qd]))/\Below w3.heap.size w3 w7):=by
       refine ⟨HG1.out,by rw [quadL_app,List.length_append,<- HRl.out];exact ho7,?_⟩
       exact (HO6.out.2.1.trans ((below_alloc _ _).mono hz3r)).grown hg7 (by simp;omega) (fun g e=>(own_lt HQ.out.1 g e).1)
      have HN:Hid (R++[qd]=(K.take (k+1)).map (quadOf perm)):=by
       show R++[qd]=_
       rw [List.take_add_one,List.getElem?_eq_getElem hkK,List.map_append,<- HQ.out.2.2.1,HQq.out,HKy.out.1]
       rfl
      obtain ⟨a7,c7,e7,_⟩:=own_form ho7
      subst e7
      clear ho7 hg7 hat7 HO7
      go_wp2
      go_roundw
      case rel=>exact ⟨k+1,R++[qd],by omega,by go_num,HN.out,H7.out⟩
      case measure=>simp [intOf];omega
    ·have hszi:¬ (key.size:Int)=16:=by omega
     have HNo:Hid (¬ GoodK perm K):=fun h=>hsz (h key HKy.out.2).1
     go_wp2
     refine bodyPost_ret (v:=.tuple #[.slice none 0 0,.bool false]) (by simp [results,Tryz.results69,go_sem]) rfl ?_
     exact ⟨false,none,0,[],rfl,HBw.out,.inl rfl,.inr ⟨rfl,rfl,HNo.out⟩⟩
   ·obtain rfl:k=kl:=by omega
    have k1:¬ (k:Int)<(k:Int):=by omega
    have HF:Hid (RdQ wr ar R/\rl=R.length/\R=K.map (quadOf perm)/\GoodK perm K):=by
     have ho:=HQ.out.1
     rw [HRl.out] at ho
     have e:K.take k=K:=by rw [HKL.out,List.take_length]
     refine ⟨own_rdq ho,HRl.out,?_,?_⟩
     ·rw [HQ.out.2.2.1,e]
     ·have:=HQ.out.2.2.2.1
      rw [e] at this
      exact this
    go_wp2
    refine bodyPost_ret (v:=.tuple #[.slice ar rl cr,.bool true]) (by simp [results,Tryz.results69,go_sem]) rfl ?_
    exact ⟨true,ar,cr,R,by rw [<- HF.out.2.1],HBw.out,HF.out.1,.inl ⟨rfl,HF.out.2.2.1,HF.out.2.2.2⟩⟩

theorem rdv_leaf {S:Nat->Prop} {w:World} {ka:Option Addr} {L:List ByteArray} (hr:RdO S w ka L.length (fun i=>.string (gt L i))):RdV w ka L.length (strL L):=by
 refine ⟨strL_length L,strL_one L,?_⟩
 rcases hr with q|⟨g,o,rfl,_,hl,hcc⟩
 ·exact .inl q
 ·refine .inr ⟨g,o,rfl,hl,fun j u hj=>?_⟩
  have hj2:=(List.getElem?_eq_some_iff.1 hj).1
  rw [strL_length] at hj2
  rw [strL_get L j hj2] at hj
  injection hj with hj
  subst hj
  exact hcc j hj2
theorem rdv_inner {S:Nat->Prop} {w:World} {d g o:Nat} {l:List (Ro d)} {xs:List Value} (hg:g<w.heap.size) (h0:xs.length=l.length) (hcc:∀j u,xs[j]?=some u->w.cell? ⟨g,o+j,none⟩=some u) (hk:∀k (h:k<l.length),∃u,xs[k]?=some u/\TAo S w d l[k] u):RdV w (some ⟨g,o,none⟩) l.length xs:=by
 refine ⟨h0,fun u hu=>?_,.inr ⟨g,o,rfl,hg,hcc⟩⟩
 obtain ⟨k,hkl,e⟩:=List.getElem_of_mem hu
 obtain ⟨u',q1,q2⟩:=hk k (by omega)
 rw [List.getElem?_eq_getElem hkl,e] at q1
 injection q1 with q1
 subst q1
 exact q2.oneCell
theorem all_cat {S:Nat->Prop} {w:World} {d:Nat} {l m:List (Ro d)} {xs ys:List Value} (hx:xs.length=l.length) (h1:∀k (h:k<l.length),∃u,xs[k]?=some u/\TAo S w d l[k] u) (h2:∀k (h:k<m.length),∃u,ys[k]?=some u/\TAo S w d m[k] u):∀k (h:k<(l++m).length),∃u,(xs++ys)[k]?=some u/\TAo S w d (l++m)[k] u:=by
 intro k h
 by_cases q:k<l.length
 ·obtain ⟨u,e,ht⟩:=h1 k q
  exact ⟨u,by rw [List.getElem?_append_left (by omega)];exact e,by rw [List.getElem_append_left q];exact ht⟩
 ·rw [List.length_append] at h
  obtain ⟨u,e,ht⟩:=h2 (k-l.length) (by omega)
  exact ⟨u,by rw [List.getElem?_append_right (by omega),hx];exact e,by rw [List.getElem_append_right (by omega)];exact ht⟩

theorem dealD_any (d h b r st:Nat) (t u:Ro (d+1)) (v x:Value) (S:Nat->Prop) (w:World) (h1:NdI S w b (d+1) t v) (h2:NdI S w r (d+1) u x) (hU:BalU (d+1) t h) (hV:BalU (d+1) u h) (hSb:¬ S b) (hSr:¬ S r) (hbr:b≠r) (hst0:0<st) (hst:st<sizD t+sizD u) (hk:(keysR (d+1) t).length+(keysR (d+1) u).length<=1099511627776) :
  Calls Tryz.prog 137 #[v,x,.int .i64 (st:Int)] w fun e w'=>e=.returned (.tuple #[])/\Fr2 w w' b r/\TAo (fun y=>S y\/y=b\/w.heap.size<=y) w' (d+1) (cutD 0 st (joinD t u)) v/\TAo (fun y=>S y\/y=r\/w.heap.size<=y) w' (d+1) (cutD st (sizD t+sizD u) (joinD t u)) x:=by
 match t,u,h1,h2,hU,hV,hst,hk with
 | .inl L,.inl M,h1,h2,hU,hV,hst,hk=>
  obtain ⟨rfl,ka,kc,hx,hc,hr⟩:=h1
  obtain ⟨rfl,ka2,kc2,hx2,hc2,hr2⟩:=h2
  have hst' : st<L.length+M.length:=hst
  have hL:=hU.2
  have hM:=hV.2
  refine (dealLeaf_any d b r L.length M.length kc kc2 st ka ka2 _ _ L M w hx hx2 hbr (rdv_leaf hr) (rdv_leaf hr2) hst' hst0 (by omega)).mono ?_
  rintro e w' ⟨rfl,q1,q2,q3⟩
  refine ⟨rfl,q1,?_,?_⟩
  ·exact TAo.wide (show TAo _ w' (d+1) (.inl (((L++M).take st).drop 0)) _ from q2) (fun y hy _=>.inr hy)
  ·refine TAo.wide (show TAo _ w' (d+1) (.inl (((L++M).take (L.length+M.length)).drop st)) _ from ?_) (fun y hy _=>.inr hy)
   rw [<- List.length_append,List.take_length]
   exact q3
 | .inr l,.inr m,h1,h2,hU,hV,hst,hk=>
  obtain ⟨rfl,g,o,kc,xs,hx,hg,hc,h0,hcc,hk1⟩:=h1
  obtain ⟨rfl,g2,o2,kc2,xs2,hx2,hg2,hc2,h02,hcc2,hk2⟩:=h2
  have hst' : st<l.length+m.length:=hst
  have hL:=hU.2.1
  have hM:=hV.2.1
  refine (dealInner_any d b r l.length m.length kc kc2 st _ _ _ _ xs xs2 (l++m) S w hx hx2 hbr (rdv_inner hc.1 h0.2 hcc hk1) (rdv_inner hc2.1 h02.2 hcc2 hk2) (by rw [List.length_append]) (all_cat h0.2 hk1 hk2) hSb hSr ?_ hst' hst0 (by omega)).mono ?_
  ·rw [List.flatMap_append,List.length_append]
   exact hk
  rintro e w' ⟨rfl,q1,q2,q3⟩
  refine ⟨rfl,q1,?_,?_⟩
  ·exact (show TAo _ w' (d+1) (.inr (((l++m).take st).drop 0)) _ from q2)
  ·refine (show TAo _ w' (d+1) (.inr (((l++m).take (l.length+m.length)).drop st)) _ from ?_)
   rw [List.drop_take]
   exact q3
 | .inl L,.inr m,h1,h2,hU,hV,hst,hk=>
  obtain ⟨_,_,h2,e2,_⟩:=hV
  have:=hU.1
  omega
 | .inr l,.inl M,h1,h2,hU,hV,hst,hk=>
  obtain ⟨_,_,h2,e2,_⟩:=hU
  have:=hV.1
  omega
theorem dealDF_any (d h b r st:Nat) (t u:Ro (d+1)) (v x:Value) (S:Nat->Prop) (w:World) (h1:NdI S w b (d+1) t v) (h2:NdI S w r (d+1) u x) (hU:BalU (d+1) t h) (hV:BalU (d+1) u h) (hSb:¬ S b) (hSr:¬ S r) (hbr:b≠r) (hst0:0<st) (hst:st=sizD t+sizD u) (hk:(keysR (d+1) t).length+(keysR (d+1) u).length<=1099511627776) :
  Calls Tryz.prog 137 #[v,x,.int .i64 (st:Int)] w fun e w'=>e=.returned (.tuple #[])/\Fr2 w w' b r/\TAo (fun y=>S y\/y=b\/w.heap.size<=y) w' (d+1) (joinD t u) v:=by
 match t,u,h1,h2,hU,hV,hst,hk with
 | .inl L,.inl M,h1,h2,hU,hV,hst,hk=>
  obtain ⟨rfl,ka,kc,hx,hc,hr⟩:=h1
  obtain ⟨rfl,ka2,kc2,hx2,hc2,hr2⟩:=h2
  have hst' : st=L.length+M.length:=hst
  have hL:=hU.2
  have hM:=hV.2
  refine (dealLeafF_any d b r L.length M.length kc kc2 st ka ka2 _ _ L M w hx hx2 hbr (rdv_leaf hr) (rdv_leaf hr2) hst' hst0 (by omega)).mono ?_
  rintro e w' ⟨rfl,q1,q2⟩
  exact ⟨rfl,q1,TAo.wide (show TAo _ w' (d+1) (.inl (L++M)) _ from q2) (fun y hy _=>.inr hy)⟩
 | .inr l,.inr m,h1,h2,hU,hV,hst,hk=>
  obtain ⟨rfl,g,o,kc,xs,hx,hg,hc,h0,hcc,hk1⟩:=h1
  obtain ⟨rfl,g2,o2,kc2,xs2,hx2,hg2,hc2,h02,hcc2,hk2⟩:=h2
  have hst' : st=l.length+m.length:=hst
  have hL:=hU.2.1
  have hM:=hV.2.1
  refine (dealInnerF_any d b r l.length m.length kc kc2 st _ _ _ _ xs xs2 (l++m) S w hx hx2 hbr (rdv_inner hc.1 h0.2 hcc hk1) (rdv_inner hc2.1 h02.2 hcc2 hk2) (by rw [List.length_append]) (all_cat h0.2 hk1 hk2) hSb hSr ?_ hst' hst0 (by omega)).mono ?_
  ·rw [List.flatMap_append,List.length_append]
   exact hk
  rintro e w' ⟨rfl,q1,q2⟩
  refine ⟨rfl,q1,(show TAo _ w' (d+1) (.inr (l++m)) _ from ?_)⟩
  rw [List.drop_zero,hst',<- List.length_append,List.take_length] at q2
  exact q2
 | .inl L,.inr m,h1,h2,hU,hV,hst,hk=>
  obtain ⟨_,_,h2,e2,_⟩:=hV
  have:=hU.1
  omega
 | .inr l,.inl M,h1,h2,hU,hV,hst,hk=>
  obtain ⟨_,_,h2,e2,_⟩:=hU
  have:=hV.1
  omega

theorem take_l {T:Type} (L M:List T) (k:Nat) (h:k<=L.length):(L++M).take k=L.take k:=List.take_append_of_le_length h
theorem cut_left:∀{d h:Nat} {z y:Ro (d+1)},BalU (d+1) z h->BalU (d+1) y h->0<sizD z->cutD 0 (sizD z-1) (joinD z y)=cutD 0 (sizD z-1) z/\cutD (sizD z-1) (sizD z+sizD y) (joinD z y)=joinD (cutD (sizD z-1) (sizD z) z) y
 | d,h,.inl L,.inl M,hU,hV,hz=>by
  have hz' : 0<L.length:=hz
  constructor
  ·show Sum.inl (((L++M).take (L.length-1)).drop 0)=Sum.inl ((L.take (L.length-1)).drop 0)
   rw [take_l L M _ (by omega)]
  ·show Sum.inl (((L++M).take (L.length+M.length)).drop (L.length-1))=Sum.inl (((L.take L.length).drop (L.length-1))++M)
   rw [<- List.length_append,List.take_length,List.take_length,List.drop_append_of_le_length (by omega)]
 | d,h,.inr L,.inr M,hU,hV,hz=>by
  have hz' : 0<L.length:=hz
  constructor
  ·show Sum.inr (((L++M).take (L.length-1)).drop 0)=Sum.inr ((L.take (L.length-1)).drop 0)
   rw [take_l L M _ (by omega)]
  ·show Sum.inr (((L++M).take (L.length+M.length)).drop (L.length-1))=Sum.inr (((L.take L.length).drop (L.length-1))++M)
   rw [<- List.length_append,List.take_length,List.take_length,List.drop_append_of_le_length (by omega)]
 | d,h,.inl L,.inr m,hU,hV,hz=>by
  obtain ⟨_,_,h2,e2,_⟩:=hV
  have:=hU.1
  omega
 | d,h,.inr l,.inl M,hU,hV,hz=>by
  obtain ⟨_,_,h2,e2,_⟩:=hU
  have:=hV.1
  omega
theorem cut_right:∀{d h:Nat} {y z:Ro (d+1)},BalU (d+1) y h->BalU (d+1) z h->0<sizD z->cutD 0 (sizD y+1) (joinD y z)=joinD y (cutD 0 1 z)/\cutD (sizD y+1) (sizD y+sizD z) (joinD y z)=cutD 1 (sizD z) z
 | d,h,.inl L,.inl M,hU,hV,hz=>by
  have hz' : 0<M.length:=hz
  constructor
  ·show Sum.inl (((L++M).take (L.length+1)).drop 0)=Sum.inl (L++(M.take 1).drop 0)
   rw [List.take_length_add_append]
   rfl
  ·show Sum.inl (((L++M).take (L.length+M.length)).drop (L.length+1))=Sum.inl ((M.take M.length).drop 1)
   rw [<- List.length_append,List.take_length,List.take_length,List.drop_length_add_append]
 | d,h,.inr L,.inr M,hU,hV,hz=>by
  have hz' : 0<M.length:=hz
  constructor
  ·show Sum.inr (((L++M).take (L.length+1)).drop 0)=Sum.inr (L++(M.take 1).drop 0)
   rw [List.take_length_add_append]
   rfl
  ·show Sum.inr (((L++M).take (L.length+M.length)).drop (L.length+1))=Sum.inr ((M.take M.length).drop 1)
   rw [<- List.length_append,List.take_length,List.take_length,List.drop_length_add_append]
 | d,h,.inl L,.inr m,hU,hV,hz=>by
  obtain ⟨_,_,h2,e2,_⟩:=hV
  have:=hU.1
  omega
 | d,h,.inr l,.inl M,hU,hV,hz=>by
  obtain ⟨_,_,h2,e2,_⟩:=hU
  have:=hV.1
  omega

def SzI (v:Value) (n:Nat) (w:World):Prop:=
 (∃b,v=.iface 204 (.pointer (some ⟨b,0,none⟩))/\Calls Tryz.prog 208 #[.pointer (some ⟨b,0,none⟩)] w fun e w'=>e=.returned (.int .i64 (n:Int))/\w'=w)\/
 (∃b,v=.iface 174 (.pointer (some ⟨b,0,none⟩))/\Calls Tryz.prog 125 #[.pointer (some ⟨b,0,none⟩)] w fun e w'=>e=.returned (.int .i64 (n:Int))/\w'=w)
theorem NdI.szi {S:Nat->Prop} {w:World} {b d:Nat} {t:Ro (d+1)} {v:Value} (h:NdI S w b (d+1) t v):SzI v (sizD t) w:=by
 rcases h.form with ⟨rfl,x,ka,kc,hx⟩|⟨rfl,x,ka,kc,hx⟩
 ·exact .inl ⟨b,rfl,sizeLeaf_any b _ kc ka x w hx⟩
 ·exact .inr ⟨b,rfl,sizeInner_any b _ kc ka x w hx⟩
theorem step_size {ops:Array Oper} {o:Oper} {a:Act} {w:World} {K:Act->World->Prop} {Q:Exit->Act->World->Prop} {E:Prop} (hgd:o.guard=none) (i:Nat) (nm:String) (v:Value) (n:Nat)
  (ho:o.op=.call { callee:=.invoke (.tmp i) nm,args:=#[],argTypes:=#[] }) (hx:a.tmps[i]?.getD undef=v) (hm1:∀b w,(method 369 204 (.pointer (some ⟨b,0,none⟩)) nm).run Tryz.prog w=.ok (208,.pointer (some ⟨b,0,none⟩)) w) (hm2:∀b w,(method 369 174 (.pointer (some ⟨b,0,none⟩)) nm).run Tryz.prog w=.ok (125,.pointer (some ⟨b,0,none⟩)) w)
  (hs:SzI v n w) (h:K (a.put o.dst (.int .i64 (n:Int))) w) :
  if Region.wanted o (yielded ops a.tmps)=true then Oper.wp Tryz.prog o a w K Q else E:=by
 have hw:Region.wanted o (yielded ops a.tmps)=true:=by simp [Region.wanted,hgd]
 rw [if_pos hw]
 unfold Oper.wp
 rcases hs with ⟨b,rfl,hc⟩|⟨b,rfl,hc⟩
 ·have heg:∀args w,(callFunc 208 args).run Tryz.prog w=.ok (.enter 208 args) w:=fun _ _=>by rfl
  simp [execOp,ho,resolve,invoke,hx,go_sem,hm1,heg]
  refine hc.mono ?_
  rintro e w' ⟨rfl,rfl⟩
  exact h
 ·have heg:∀args w,(callFunc 125 args).run Tryz.prog w=.ok (.enter 125 args) w:=fun _ _=>by rfl
  simp [execOp,ho,resolve,invoke,hx,go_sem,hm2,heg]
  refine hc.mono ?_
  rintro e w' ⟨rfl,rfl⟩
  exact h
end Go.Proofs.YtcnollkkigiobaaGreat
