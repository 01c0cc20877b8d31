import Derived.Test.YtcnollkkigiobaaGreatNd23
import Derived.Test.YtcnollkkigiobaaGreatNd1
import Derived.Test.YtcnollkkigiobaaGreatNd21
import Derived.Test.YtcnollkkigiobaaGreatNd18
import Derived.Test.YtcnollkkigiobaaGreatNd26
import Derived.Test.YtcnollkkigiobaaGreatNd8
import Derived.Test.YtcnollkkigiobaaGreatNd19
import Derived.Shelf.Spec.SlicesInsert
import Derived.Lib.AppendZerosOnto
import Derived.Laws.NewBlocks
set_option linter.unusedVariables false
set_option maxRecDepth 100000
namespace Go.Proofs.YtcnollkkigiobaaGreat
open Go.RowKit Go.Deep

def fst1 {d:Nat} (l:List (Ro d)) (k:Nat):ByteArray:=match l[k]? with
 | some t=>gt (keysR d t) 0
 | none=>{ data:=#[] }
theorem fst1_at {d:Nat} {l:List (Ro d)} {k:Nat} (h:k<l.length):fst1 l k=gt (keysR d l[k]) 0:=by
 unfold fst1
 rw [List.getElem?_eq_getElem h]

set_option maxHeartbeats 4000000 in
theorem child_any (d:Nat) (l:List (Ro d)) (v:Value) (key:ByteArray) (w:World) (hv:NA w (d+1) (.inr l) v) (hp:∀k (h:k<l.length),0<(keysR d l[k]).length) (hnod:nodesR (d+1) (.inr l)<=5000) (hlen:∀k (h:k<l.length),(keysR d l[k]).length<=1099511627776) :
  Calls Tryz.prog 115 #[v,.string key] w fun e w'=>∃i:Nat,e=.returned (.int .i64 (i:Int))/\KidIs l key i/\Below w.heap.size w w':=by
 obtain ⟨ka,kc,b,cc,xs,rfl,_,hb,hl0,hx,hk⟩:=hv
 have HKid:Hid (∀W:World,Below w.heap.size w W->∀k (h:k<l.length),∃lf ka kn kc ca cn cc,W.cell? ⟨b,k*3,none⟩=some (.bool lf)/\W.cell? ⟨b,k*3+1,none⟩=some (.slice ka kn kc)/\W.cell? ⟨b,k*3+2,none⟩=some (.slice ca cn cc)/\NA W d l[k] (.agg #[.bool lf,.slice ka kn kc,.slice ca cn cc])):=by
  intro W hW k h
  obtain ⟨lf,ka,kn,kc,ca,cn,cc,h0,h1,h2,h3⟩:=kid_at hx hk k h
  exact ⟨lf,ka,kn,kc,ca,cn,cc,(hW.cell (p:=⟨b,_,none⟩) hb).trans h0,(hW.cell (p:=⟨b,_,none⟩) hb).trans h1,(hW.cell (p:=⟨b,_,none⟩) hb).trans h2,NA.below h3 hW⟩
 have HNod:Hid ((∀k (h:k<l.length),nodesR d l[k]<=5000)/\(∀k (h:k<l.length),(keysR d l[k]).length<=1099511627776)/\∀k (h:k<l.length),0<(keysR d l[k]).length):=⟨fun k h=>by have:=kid_le d l k h;omega,hlen,hp⟩
 have hl63:l.length<=5000:=by have:=kids_le d l;omega
 obtain ⟨ln,hln⟩:∃ln,ln=l.length:=⟨_,rfl⟩
 rw [<- hln] at hl0 hl63 ⊢
 have HLn:Hid (ln=l.length):=hln
 clear hnod hlen hp hx hk hln
 go_enter Tryz.func115,Tryz.ntmps115
 go_upto_region 3 with fail
 have S1:Hid (Bx (w.alloc (.cells #[.bool false,.slice ka 0 kc,.slice (some ⟨b,0,none⟩) ln cc] 91)) w.heap.size 91 #[.bool false,.slice ka 0 kc,.slice (some ⟨b,0,none⟩) ln cc]/\Below w.heap.size w (w.alloc (.cells #[.bool false,.slice ka 0 kc,.slice (some ⟨b,0,none⟩) ln cc] 91))):=⟨Bx.new _ _ _,below_alloc _ _⟩
 generalize (w.alloc (.cells #[.bool false,.slice ka 0 kc,.slice (some ⟨b,0,none⟩) ln cc] 91))=W at S1 ⊢
 go_loopw [5,6] (fun q i wr=>∃k p:Nat,k<=ln/\1<=k/\i=.int .i64 k/\q=.int .i64 p/\p<k/\(0<p->Op.bytesLess key.toList (fst1 l p).toList=false)/\(∀j,p<j->j<k->Op.bytesLess key.toList (fst1 l j).toList=true)/\Bx wr w.heap.size 91 #[.bool false,.slice ka 0 kc,.slice (some ⟨b,0,none⟩) ln cc]/\Below w.heap.size w wr) (fun _ i _=>ln-(intOf i).toNat)
 case atStart=>exact ⟨1,0,by omega,by omega,rfl,rfl,by omega,fun h=>absurd h (by omega),fun j h1 h2=>absurd h1 (by omega),S1.out.1,S1.out.2⟩
 case round=>
  obtain ⟨k,p,hk,hk1,rfl,rfl,hpk,hp1,hp2,hbx,hbel⟩:=hrel
  clear S1
  have HS:Hid ((0<p->Op.bytesLess key.toList (fst1 l p).toList=false)/\(∀j,p<j->j<k->Op.bytesLess key.toList (fst1 l j).toList=true)/\Bx wr w.heap.size 91 #[.bool false,.slice ka 0 kc,.slice (some ⟨b,0,none⟩) ln cc]/\Below w.heap.size w wr):=⟨hp1,hp2,hbx,hbel⟩
  have y2:=hbx.cell 2
  simp at y2
  have hz:=hbx.lt
  clear hbx hbel hp1 hp2
  by_cases hlt:k<ln
  ·have hlk:k<l.length:=by rw [<- HLn.out];exact hlt
   obtain ⟨lf1,ka1,kn1,kc1,ca1,cn1,cc1,c0,c1,c2,hna⟩:=HKid.out wr HS.out.2.2.2 k hlk
   have HNA:Hid (NA wr d l[k] (.agg #[.bool lf1,.slice ka1 kn1 kc1,.slice ca1 cn1 cc1])):=hna
   have HK:Hid (Calls Tryz.prog 58 #[.agg #[.bool lf1,.slice ka1 kn1 kc1,.slice ca1 cn1 cc1]] wr (RetStrs wr (keysR d l[k]))):=keys_any d l[k] _ wr HNA.out (HNod.out.1 k hlk) (HNod.out.2.1 k hlk)
   have hk0:(0:Int)<=(k:Int):=by omega
   have hk2:(k:Int)<(ln:Int):=by omega
   clear hna
   go_wp2_with fail
   refine HK.out.mono ?_
   rintro e w1 ⟨a1,cc2,rfl,ho1,hb1,_,_⟩
   have hpos:=HNod.out.2.2 k hlk
   obtain ⟨g1,rfl,_,hr1⟩:=ho1.resolve_left (by omega)
   have s1:=hr1.cell hpos
   have hf:=fst1_at hlk
   rw [<- hf] at s1
   have HB:Hid (Bx w1 w.heap.size 91 #[.bool false,.slice ka 0 kc,.slice (some ⟨b,0,none⟩) ln cc]/\Below w.heap.size w w1):=⟨HS.out.2.2.1.below hb1,HS.out.2.2.2.trans (hb1.mono HS.out.2.2.2.size)⟩
   generalize (keysR d l[k]).length=m at hpos s1 ⊢
   have hm0:(0:Int)<(m:Int):=by omega
   have htot:=less_total key.toList (fst1 l k).toList
   clear hr1 hb1 c0 c1 c2 y2 HK HNA hf
   cases hl:Op.bytesLess key.toList (fst1 l k).toList with
   | true=>
    rw [hl] at htot
    have ht2:(Op.bytesLess (fst1 l k).toList key.toList || (fst1 l k).toList == key.toList)=false:=htot
    have HN:Hid (∀j,p<j->j<k+1->Op.bytesLess key.toList (fst1 l j).toList=true):=fun j h1 h2=>by
     by_cases e:j=k
     ·subst e;exact hl
     ·exact HS.out.2.1 j h1 (by omega)
    clear htot hl
    go_wp2
    go_roundw
    case rel=>exact ⟨k+1,p,by omega,by omega,by go_num,rfl,by omega,HS.out.1,HN.out,HB.out⟩
    case measure=>simp [intOf];omega
   | false=>
    rw [hl] at htot
    have ht2:(Op.bytesLess (fst1 l k).toList key.toList || (fst1 l k).toList == key.toList)=true:=htot
    have HN:Hid (Op.bytesLess key.toList (fst1 l k).toList=false):=hl
    clear htot hl
    go_wp2
    go_roundw
    case rel=>exact ⟨k+1,k,by omega,by omega,by go_num,rfl,by omega,fun _=>HN.out,fun j h1 h2=>absurd h1 (by omega),HB.out⟩
    case measure=>simp [intOf];omega
  ·have e:k=ln:=by omega
   have HF:Hid (KidIs l key p):=by
    have hn:=HLn.out
    refine ⟨by omega,fun h h0=>?_,fun h=>?_⟩
    ·rw [<- fst1_at h];exact HS.out.1 h0
    ·rw [<- fst1_at h];exact HS.out.2.1 (p+1) (by omega) (by omega)
   subst e
   go_wp2
   go_ret
   exact ⟨p,rfl,HF.out,HS.out.2.2.2⟩

structure TlSt (w wr:World) (B n m:Nat) (v q:Value) (N:Nat->Tn) (KA DA:Nat->Option Addr) (N' : Nat->Tn) (KA' DA' : Nat->Option Addr) (KC' DC' : Nat->Nat) (tb:Nat) (C:Int) (ka:Option Addr) (kn kc:Nat) (da:Option Addr) (dn dc:Nat) (LK:List ByteArray) (LD:List Int):Prop where
 gt:GT wr B q m N' KA' DA' KC' DC'
 old:∀i,i<n->N' i=N i/\KA' i=KA i/\DA' i=DA i
 new:∀i,n<=i->i<m->((N' i).kn≠0->∃g,KA' i=some ⟨g,0,none⟩/\w.heap.size<=g)/\((N' i).dn≠0->∃g,DA' i=some ⟨g,0,none⟩/\w.heap.size<=g)
 zero:(N' n).kn=0/\(N' n).dn=0/\n<m
 box:Bx wr tb 168 #[.bool false,.slice ka kn kc,.slice da dn dc,.int .i64 C]
 tbw:w.heap.size<=tb/\¬ UsedT q m N' KA' DA' tb
 own1:wr.ownsRow B 9 1 (.slice ka kn kc) kn (strL LK)/\kn=LK.length
 own2:wr.ownsRow B 2 1 (.slice da dn dc) dn (intL LD)/\dn=LD.length
 far1:∀g,(Value.slice ka kn kc).ownBlock=some g->(w.heap.size<=g/\g≠tb)/\¬ UsedT q m N' KA' DA' g
 far2:∀g,(Value.slice da dn dc).ownBlock=some g->(w.heap.size<=g/\g≠tb)/\¬ UsedT q m N' KA' DA' g
 fr:w.grownBy wr v.ownBlock
 qat:q.ownBlock=v.ownBlock\/∃g,q.ownBlock=some g/\w.heap.size<=g

section
variable {w wr w1 w2:World} {B n m:Nat} {v q:Value} {N:Nat->Tn} {KA DA:Nat->Option Addr} {N' : Nat->Tn} {KA' DA' : Nat->Option Addr} {KC' DC' : Nat->Nat} {tb:Nat} {C:Int} {ka:Option Addr} {kn kc:Nat} {da:Option Addr} {dn dc:Nat} {LK:List ByteArray} {LD:List Int}

theorem TlSt.key (h:TlSt w wr B n m v q N KA DA N' KA' DA' KC' DC' tb C ka kn kc da dn dc LK LD) (hb:Below wr.heap.size wr w1) {ka2:Option Addr} {kc2:Nat} {s:ByteArray} (ho:w2.ownsRow B 9 1 (.slice ka2 (kn+1) kc2) (kn+1) (strL LK++[.string s])) (hg:w1.grownBy w2 (Value.slice ka kn kc).ownBlock) (hat:(Value.slice ka2 (kn+1) kc2).ownBlock=(Value.slice ka kn kc).ownBlock\/(Value.slice ka2 (kn+1) kc2).ownBlock=some w1.heap.size) :
  TlSt w (w2.setCell ⟨tb,1,none⟩ (.slice ka2 (kn+1) kc2)) B n m v q N KA DA N' KA' DA' KC' DC' tb C ka2 (kn+1) kc2 da dn dc (LK++[s]) LD/\Bx w2 tb 168 #[.bool false,.slice ka kn kc,.slice da dn dc,.int .i64 C]:=by
 have hs:=hb.size
 have hs2:=hg.size
 have hzw:w.heap.size<=wr.heap.size:=h.fr.size
 have blk:∀x,x<wr.heap.size->(Value.slice ka kn kc).ownBlock≠some x->w2.heap[x]?=wr.heap[x]?:=fun x hx hne=>(hg.block x (by omega) (fun e=>hne e.symm)).trans (hb.block x hx)
 have blk2:∀x,x<wr.heap.size->(Value.slice ka kn kc).ownBlock≠some x->x≠tb->(w2.setCell ⟨tb,1,none⟩ (.slice ka2 (kn+1) kc2)).heap[x]?=wr.heap[x]?:=fun x hx hne ht=>(Below.heap_setCell _ _ _ _ (show x≠tb from ht)).trans (blk x hx hne)
 have tblt:=h.box.lt
 have bx2:Bx w2 tb 168 #[.bool false,.slice ka kn kc,.slice da dn dc,.int .i64 C]:=h.box.of_block (blk tb tblt (fun e=>(h.far1 tb e).1.2 rfl))
 have hlt1:=own_lt h.own1.1
 have n2:∀g,(Value.slice da dn dc).ownBlock=some g->(Value.slice ka kn kc).ownBlock≠some g:=fun g e=>own_ne h.own2.1 h.own1.1 (by decide) g e
 have two:∀g,(Value.slice ka2 (kn+1) kc2).ownBlock=some g->(Value.slice ka kn kc).ownBlock=some g\/wr.heap.size<=g:=fun g e=>by
  rcases hat with h1|h1
  ·rw [h1] at e;exact .inl e
  ·rw [h1] at e;injection e with e;exact .inr (by omega)
 refine ⟨⟨h.gt.keep (fun x hx=>blk2 x (h.gt.used hx).2 (fun e=>(h.far1 x e).2 hx) (fun e=>h.tbw.2 (e ▸ hx))),h.old,h.new,h.zero,?_,h.tbw,⟨?_,by rw [List.length_append,<- h.own1.2];rfl⟩,⟨own_keep h.own2.1 (fun g e=>blk2 g (own_lt h.own2.1 g e).2 (n2 g e) (h.far2 g e).1.2),h.own2.2⟩,fun g e=>?_,h.far2,?_,h.qat⟩,bx2⟩
 ·exact bx2.set 1 _
 ·rw [strL_app]
  refine own_keep ho (fun g e=>Below.heap_setCell _ _ _ _ (show g≠tb from ?_))
  rcases two g e with h1|h1
  ·exact (h.far1 g h1).1.2
  ·omega
 ·rcases two g e with h1|h1
  ·exact h.far1 g h1
  ·exact ⟨⟨by omega,by omega⟩,fun q=>by have:=(h.gt.used q).2;omega⟩
 ·refine ⟨hg.os.trans (hb.os.trans h.fr.os),hg.tape.trans (hb.tape.trans h.fr.tape),hg.output.trans (hb.output.trans h.fr.output),by simp [World.setCell];omega,fun k hk hne=>?_⟩
  exact (blk2 k (by omega) (fun e=>by have:=(h.far1 k e).1;omega) (by have:=h.tbw.1;omega)).trans (h.fr.block k hk hne)

theorem TlSt.kid (h:TlSt w wr B n m v q N KA DA N' KA' DA' KC' DC' tb C ka kn kc da dn dc LK LD) (hb:Below wr.heap.size wr w1) {da2:Option Addr} {dc2:Nat} {s:Int} (ho:w2.ownsRow B 2 1 (.slice da2 (dn+1) dc2) (dn+1) (intL LD++[.int .i64 s])) (hg:w1.grownBy w2 (Value.slice da dn dc).ownBlock) (hat:(Value.slice da2 (dn+1) dc2).ownBlock=(Value.slice da dn dc).ownBlock\/(Value.slice da2 (dn+1) dc2).ownBlock=some w1.heap.size) :
  TlSt w (w2.setCell ⟨tb,2,none⟩ (.slice da2 (dn+1) dc2)) B n m v q N KA DA N' KA' DA' KC' DC' tb C ka kn kc da2 (dn+1) dc2 LK (LD++[s])/\Bx w2 tb 168 #[.bool false,.slice ka kn kc,.slice da dn dc,.int .i64 C]:=by
 have hs:=hb.size
 have hs2:=hg.size
 have hzw:w.heap.size<=wr.heap.size:=h.fr.size
 have blk:∀x,x<wr.heap.size->(Value.slice da dn dc).ownBlock≠some x->w2.heap[x]?=wr.heap[x]?:=fun x hx hne=>(hg.block x (by omega) (fun e=>hne e.symm)).trans (hb.block x hx)
 have blk2:∀x,x<wr.heap.size->(Value.slice da dn dc).ownBlock≠some x->x≠tb->(w2.setCell ⟨tb,2,none⟩ (.slice da2 (dn+1) dc2)).heap[x]?=wr.heap[x]?:=fun x hx hne ht=>(Below.heap_setCell _ _ _ _ (show x≠tb from ht)).trans (blk x hx hne)
 have tblt:=h.box.lt
 have bx2:Bx w2 tb 168 #[.bool false,.slice ka kn kc,.slice da dn dc,.int .i64 C]:=h.box.of_block (blk tb tblt (fun e=>(h.far2 tb e).1.2 rfl))
 have n2:∀g,(Value.slice ka kn kc).ownBlock=some g->(Value.slice da dn dc).ownBlock≠some g:=fun g e=>own_ne h.own1.1 h.own2.1 (by decide) g e
 have two:∀g,(Value.slice da2 (dn+1) dc2).ownBlock=some g->(Value.slice da dn dc).ownBlock=some g\/wr.heap.size<=g:=fun g e=>by
  rcases hat with h1|h1
  ·rw [h1] at e;exact .inl e
  ·rw [h1] at e;injection e with e;exact .inr (by omega)
 refine ⟨⟨h.gt.keep (fun x hx=>blk2 x (h.gt.used hx).2 (fun e=>(h.far2 x e).2 hx) (fun e=>h.tbw.2 (e ▸ hx))),h.old,h.new,h.zero,?_,h.tbw,⟨own_keep h.own1.1 (fun g e=>blk2 g (own_lt h.own1.1 g e).2 (n2 g e) (h.far1 g e).1.2),h.own1.2⟩,⟨?_,by rw [List.length_append,<- h.own2.2];rfl⟩,h.far1,fun g e=>?_,?_,h.qat⟩,bx2⟩
 ·exact bx2.set 2 _
 ·rw [intL_app]
  refine own_keep ho (fun g e=>Below.heap_setCell _ _ _ _ (show g≠tb from ?_))
  rcases two g e with h1|h1
  ·exact (h.far2 g h1).1.2
  ·omega
 ·rcases two g e with h1|h1
  ·exact h.far2 g h1
  ·exact ⟨⟨by omega,by omega⟩,fun q=>by have:=(h.gt.used q).2;omega⟩
 ·refine ⟨hg.os.trans (hb.os.trans h.fr.os),hg.tape.trans (hb.tape.trans h.fr.tape),hg.output.trans (hb.output.trans h.fr.output),by simp [World.setCell];omega,fun k hk hne=>?_⟩
  exact (blk2 k (by omega) (fun e=>by have:=(h.far2 k e).1;omega) (by have:=h.tbw.1;omega)).trans (h.fr.block k hk hne)

theorem TlSt.told (h:TlSt w wr B n m v q N KA DA N' KA' DA' KC' DC' tb C ka kn kc da dn dc LK LD) {c:Nat} {P:(Nat->Tn)->Prop} {e:Ending} (hr:RetTl wr B q m N' KA' DA' c P e w1) :
  ∃q2 N2 KA2 DA2 KC2 DC2,e=.returned q2/\TlSt w w1 B n (m+c) v q2 N KA DA N2 KA2 DA2 KC2 DC2 tb C ka kn kc da dn dc LK LD/\(∀i,i<m->N2 i=N' i)/\P N2:=by
 obtain ⟨q2,N2,KA2,DA2,KC2,DC2,rfl,g2,f2,at2,old2,new2,hP⟩:=hr
 have hzw:w.heap.size<=wr.heap.size:=h.fr.size
 have used2:∀x,x<wr.heap.size->UsedT q2 (m+c) N2 KA2 DA2 x->UsedT q m N' KA' DA' x:=by
  intro x hx hu
  rcases hu with hu|⟨i,hi,h0,e⟩|⟨i,hi,h0,e⟩
  ·rcases at2 with h1|⟨g,h1,h2⟩
   ·exact .inl (by rw [<- h1];exact hu)
   ·rw [h1] at hu;injection hu with hu;omega
  ·by_cases hm:i<m
   ·obtain ⟨q1,q3,_⟩:=old2 i hm
    exact .inr (.inl ⟨i,hm,by rw [<- q1];exact h0,by rw [<- q3];exact e⟩)
   ·obtain ⟨g,q1,q3⟩:=(new2 i (by omega) hi).1 h0
    rw [e] at q1;injection q1 with q1;injection q1 with q1;omega
  ·by_cases hm:i<m
   ·obtain ⟨q1,_,q3⟩:=old2 i hm
    exact .inr (.inr ⟨i,hm,by rw [<- q1];exact h0,by rw [<- q3];exact e⟩)
   ·obtain ⟨g,q1,q3⟩:=(new2 i (by omega) hi).2 h0
    rw [e] at q1;injection q1 with q1;injection q1 with q1;omega
 have qn:∀x,q.ownBlock=some x->UsedT q m N' KA' DA' x:=fun x e=>.inl e
 have k1:=own_lt h.own1.1
 have k2:=own_lt h.own2.1
 have hz:=h.zero
 refine ⟨q2,N2,KA2,DA2,KC2,DC2,rfl,⟨g2,fun i hi=>?_,fun i h1 h2=>?_,?_,h.box.grown f2 (fun e=>h.tbw.2 (qn tb e)),⟨h.tbw.1,fun u=>h.tbw.2 (used2 tb h.box.lt u)⟩,⟨own_keep h.own1.1 (fun g e=>f2.block g (k1 g e).2 (fun e2=>(h.far1 g e).2 (qn g e2.symm))),h.own1.2⟩,⟨own_keep h.own2.1 (fun g e=>f2.block g (k2 g e).2 (fun e2=>(h.far2 g e).2 (qn g e2.symm))),h.own2.2⟩,fun g e=>⟨(h.far1 g e).1,fun u=>(h.far1 g e).2 (used2 g (k1 g e).2 u)⟩,fun g e=>⟨(h.far2 g e).1,fun u=>(h.far2 g e).2 (used2 g (k2 g e).2 u)⟩,?_,?_⟩,fun i hi=>(old2 i hi).1,hP⟩
 ·obtain ⟨a1,a2,a3⟩:=old2 i (by omega)
  obtain ⟨b1,b2,b3⟩:=h.old i hi
  exact ⟨a1.trans b1,a2.trans b2,a3.trans b3⟩
 ·by_cases hm:i<m
  ·obtain ⟨a1,a2,a3⟩:=old2 i hm
   rw [a1,a2,a3]
   exact h.new i h1 hm
  ·obtain ⟨a1,a2⟩:=new2 i (by omega) h2
   exact ⟨fun q=>by obtain ⟨g,e,hg⟩:=a1 q;exact ⟨g,e,by omega⟩,fun q=>by obtain ⟨g,e,hg⟩:=a2 q;exact ⟨g,e,by omega⟩⟩
 ·rw [(old2 n hz.2.2).1]
  exact ⟨hz.1,hz.2.1,by omega⟩
 ·refine ⟨f2.os.trans h.fr.os,f2.tape.trans h.fr.tape,f2.output.trans h.fr.output,by have:=f2.size;omega,fun k hk hne=>?_⟩
  refine (f2.block k (by omega) (fun e=>?_)).trans (h.fr.block k hk hne)
  rcases h.qat with h1|⟨g,h1,h2⟩
  ·exact hne (by rw [<- h1];exact e)
  ·rw [h1] at e;injection e with e;omega
 ·rcases at2 with h1|⟨g,h1,h2⟩
  ·rw [h1];exact h.qat
  ·exact .inr ⟨g,h1,by omega⟩
end

theorem own_setIn {w:World} {B:Nat} {e:TypeId} {sz n c g j:Nat} {xs:List Value} (h:w.ownsRow B e sz (.slice (some ⟨g,0,none⟩) n c) n xs) (hj:j<n*sz) (u:Value):(w.setCell ⟨g,j,none⟩ u).ownsRow B e sz (.slice (some ⟨g,0,none⟩) n c) n (xs.set j u):=by
 refine ⟨by rw [List.length_set];exact h.1,?_⟩
 rcases h.2 with ⟨q,_⟩|⟨g',cap,cur,q1,q2,q3,q4,q5,q6,q7⟩
 ·cases q
 ·injection q1 with q1 _ q8
  injection q1 with q1
  injection q1 with q1
  subst q1 q8
  refine .inr ⟨g,c,cur.setIfInBounds j u,rfl,q2,?_,q4,q5,by simp [q6],?_⟩
  ·simp [World.setCell,Array.getElem?_modify,q3]
  ·rw [Array.toList_setIfInBounds,List.take_set,q7]

def toldN (kn:Nat) (LK:List ByteArray) (dn:Nat) (LD:List Int) (C:Int):Tn:=⟨false,kn,gt LK,dn,gi LD,C⟩

theorem set4_map (N' : Nat->Tn) (KA' DA' : Nat->Option Addr) (KC' DC' : Nat->Nat) (n m:Nat) (hn:n<m) (x:Tn) (ka da:Option Addr) (kc dc:Nat) :
  (((((List.range (m*4)).map (tnCell N' KA' DA' KC' DC')).set (n*4) (.bool x.lf)).set (n*4+1) (.slice ka x.kn kc)).set (n*4+2) (.slice da x.dn dc)).set (n*4+3) (.int .i64 x.ct)=(List.range (m*4)).map (tnCell (fun i=>if i=n then x else N' i) (fun i=>if i=n then ka else KA' i) (fun i=>if i=n then da else DA' i) (fun i=>if i=n then kc else KC' i) (fun i=>if i=n then dc else DC' i)):=by
 apply List.ext_getElem?
 intro j
 by_cases hj:j<m*4
 ·simp only [List.getElem?_set,List.length_set,List.length_map,List.length_range,List.getElem?_map,List.getElem?_range hj,Option.map_some]
  by_cases e3:n*4+3=j
  ·subst e3
   rw [if_pos rfl,if_pos hj,tnCell_3]
   simp
  ·rw [if_neg e3]
   by_cases e2:n*4+2=j
   ·subst e2
    rw [if_pos rfl,if_pos hj,tnCell_2]
    simp
   ·rw [if_neg e2]
    by_cases e1:n*4+1=j
    ·subst e1
     rw [if_pos rfl,if_pos hj,tnCell_1]
     simp
    ·rw [if_neg e1]
     by_cases e0:n*4=j
     ·subst e0
      rw [if_pos rfl,if_pos hj,tnCell_0]
      simp
     ·rw [if_neg e0]
      unfold tnCell
      have:j / 4≠n:=by omega
      simp only [this,if_false]
 ·rw [List.getElem?_eq_none (by simp;omega),List.getElem?_eq_none (by simp;omega)]

theorem tlst_fin {w wr:World} {B n m g rc:Nat} {v:Value} {N:Nat->Tn} {KA DA:Nat->Option Addr} {N' : Nat->Tn} {KA' DA' : Nat->Option Addr} {KC' DC' : Nat->Nat} {tb:Nat} {C:Int} {ka:Option Addr} {kn kc:Nat} {da:Option Addr} {dn dc:Nat} {LK:List ByteArray} {LD:List Int}
  (h:TlSt w wr B n m v (.slice (some ⟨g,0,none⟩) m rc) N KA DA N' KA' DA' KC' DC' tb C ka kn kc da dn dc LK LD) {P:(Nat->Tn)->Prop} (hP:P (fun i=>if i=n then toldN kn LK dn LD C else N' i)) {c:Nat} (hc:m=n+c) :
  RetTl w B v n N KA DA c P (.returned (.slice (some ⟨g,0,none⟩) m rc)) ((((wr.setCell ⟨g,n*4,none⟩ (.bool false)).setCell ⟨g,n*4+1,none⟩ (.slice ka kn kc)).setCell ⟨g,n*4+2,none⟩ (.slice da dn dc)).setCell ⟨g,n*4+3,none⟩ (.int .i64 C)):=by
 have hz:=h.zero.2.2
 have row:=own_setIn (own_setIn (own_setIn (own_setIn h.gt.row (j:=n*4) (by omega) (.bool false)) (j:=n*4+1) (by omega) (.slice ka kn kc)) (j:=n*4+2) (by omega) (.slice da dn dc)) (j:=n*4+3) (by omega) (.int .i64 C)
 rw [show (Value.bool false)=.bool (toldN kn LK dn LD C).lf from rfl,show (Value.slice ka kn kc)=.slice ka (toldN kn LK dn LD C).kn kc from rfl,show (Value.slice da dn dc)=.slice da (toldN kn LK dn LD C).dn dc from rfl,show (Value.int .i64 C)=.int .i64 (toldN kn LK dn LD C).ct from rfl,set4_map N' KA' DA' KC' DC' n m hz] at row
 have blk:∀x,x≠g->((((wr.setCell ⟨g,n*4,none⟩ (.bool false)).setCell ⟨g,n*4+1,none⟩ (.slice ka kn kc)).setCell ⟨g,n*4+2,none⟩ (.slice da dn dc)).setCell ⟨g,n*4+3,none⟩ (.int .i64 C)).heap[x]?=wr.heap[x]?:=fun x hx=>by
  rw [Below.heap_setCell _ _ _ _ (show x≠g from hx),Below.heap_setCell _ _ _ _ (show x≠g from hx),Below.heap_setCell _ _ _ _ (show x≠g from hx),Below.heap_setCell _ _ _ _ (show x≠g from hx)]
 have hsz:((((wr.setCell ⟨g,n*4,none⟩ (.bool false)).setCell ⟨g,n*4+1,none⟩ (.slice ka kn kc)).setCell ⟨g,n*4+2,none⟩ (.slice da dn dc)).setCell ⟨g,n*4+3,none⟩ (.int .i64 C)).heap.size=wr.heap.size:=by simp [World.setCell]
 have hos:((((wr.setCell ⟨g,n*4,none⟩ (.bool false)).setCell ⟨g,n*4+1,none⟩ (.slice ka kn kc)).setCell ⟨g,n*4+2,none⟩ (.slice da dn dc)).setCell ⟨g,n*4+3,none⟩ (.int .i64 C)).os=wr.os/\((((wr.setCell ⟨g,n*4,none⟩ (.bool false)).setCell ⟨g,n*4+1,none⟩ (.slice ka kn kc)).setCell ⟨g,n*4+2,none⟩ (.slice da dn dc)).setCell ⟨g,n*4+3,none⟩ (.int .i64 C)).tape=wr.tape/\((((wr.setCell ⟨g,n*4,none⟩ (.bool false)).setCell ⟨g,n*4+1,none⟩ (.slice ka kn kc)).setCell ⟨g,n*4+2,none⟩ (.slice da dn dc)).setCell ⟨g,n*4+3,none⟩ (.int .i64 C)).output=wr.output:=⟨rfl,rfl,rfl⟩
 simp only [toldN] at row
 generalize (((wr.setCell ⟨g,n*4,none⟩ (.bool false)).setCell ⟨g,n*4+1,none⟩ (.slice ka kn kc)).setCell ⟨g,n*4+2,none⟩ (.slice da dn dc)).setCell ⟨g,n*4+3,none⟩ (.int .i64 C)=W at row blk hsz hos ⊢
 have hS:∀(a:Option Addr) (k:Nat) (X:Nat->ByteArray),OwnS wr B a k X->OwnS W B a k X:=by
  intro a k X q
  rcases q with q|⟨x,rfl,hxB,hr⟩
  ·exact .inl q
  ·exact .inr ⟨x,rfl,hxB,hr.of_block (blk x (fun e=>row_not h.gt.row hr (by decide) (by rw [e];rfl)))⟩
 have hI:∀(a:Option Addr) (k:Nat) (X:Nat->Int),OwnI wr B a k X->OwnI W B a k X:=by
  intro a k X q
  rcases q with q|⟨x,rfl,hxB,hr⟩
  ·exact .inl q
  ·exact .inr ⟨x,rfl,hxB,hr.of_block (blk x (fun e=>row_not h.gt.row hr (by decide) (by rw [e];rfl)))⟩
 have oS:OwnS wr B ka kn (gt LK):=own_ownS h.own1.1 h.own1.2
 have oI:OwnI wr B da dn (gi LD):=own_ownI h.own2.1 h.own2.2 _ (fun i _=>rfl)
 have nK:∀i,i<m->(N' i).kn≠0->kn≠0->KA' i≠ka:=fun i hi h0 hk e=>by
  obtain ⟨x,ex,_,_⟩:=oS.resolve_left hk
  exact (h.far1 x (by rw [ex];rfl)).2 (.inr (.inl ⟨i,hi,h0,by rw [e,ex]⟩))
 have nD:∀i,i<m->(N' i).dn≠0->dn≠0->DA' i≠da:=fun i hi h0 hk e=>by
  obtain ⟨x,ex,_,_⟩:=oI.resolve_left hk
  exact (h.far2 x (by rw [ex];rfl)).2 (.inr (.inr ⟨i,hi,h0,by rw [e,ex]⟩))
 subst hc
 refine ⟨_,_,_,_,_,_,rfl,⟨row,fun i hi=>?_,fun i hi=>?_,fun i j hi hj hij h1 h2=>?_,fun i j hi hj hij h1 h2=>?_⟩,?_,h.qat,fun i hi=>?_,fun i h1 h2=>?_,hP⟩
 ·by_cases e:i=n
  ·subst e;simp only [if_true];exact hS _ _ _ oS
  ·simp only [e,if_false];exact hS _ _ _ (h.gt.keys i hi)
 ·by_cases e:i=n
  ·subst e;simp only [if_true];exact hI _ _ _ oI
  ·simp only [e,if_false];exact hI _ _ _ (h.gt.kids i hi)
 ·by_cases e1:i=n
  ·have e2:j≠n:=by omega
   simp only [e1,if_true,e2,if_false] at h1 h2 ⊢
   exact fun q=>nK j hj h2 h1 q.symm
  ·by_cases e2:j=n
   ·simp only [e2,if_true,e1,if_false] at h1 h2 ⊢
    exact nK i hi h1 h2
   ·simp only [e1,e2,if_false] at h1 h2 ⊢
    exact h.gt.apartK i j hi hj hij h1 h2
 ·by_cases e1:i=n
  ·have e2:j≠n:=by omega
   simp only [e1,if_true,e2,if_false] at h1 h2 ⊢
   exact fun q=>nD j hj h2 h1 q.symm
  ·by_cases e2:j=n
   ·simp only [e2,if_true,e1,if_false] at h1 h2 ⊢
    exact nD i hi h1 h2
   ·simp only [e1,e2,if_false] at h1 h2 ⊢
    exact h.gt.apartD i j hi hj hij h1 h2
 ·refine ⟨hos.1.trans h.fr.os,hos.2.1.trans h.fr.tape,hos.2.2.trans h.fr.output,by rw [hsz];exact h.fr.size,fun k hk hne=>(blk k (fun e=>?_)).trans (h.fr.block k hk hne)⟩
  rcases h.qat with h1|⟨g',h1,h2⟩
  ·exact hne (by rw [<- h1,e];rfl)
  ·injection h1 with h1;have h1' : g=g':=h1;omega
 ·have e:i≠n:=by omega
  simp only [e,if_false]
  exact h.old i hi
 ·by_cases e:i=n
  ·subst e
   simp only [if_true]
   refine ⟨fun h0=>?_,fun h0=>?_⟩
   ·obtain ⟨x,ex,_,_⟩:=oS.resolve_left h0
    exact ⟨x,ex,(h.far1 x (by rw [ex];rfl)).1.1⟩
   ·obtain ⟨x,ex,_,_⟩:=oI.resolve_left h0
    exact ⟨x,ex,(h.far2 x (by rw [ex];rfl)).1.1⟩
  ·simp only [e,if_false]
   exact h.new i h1 h2

def sizR {d:Nat}:Ro (d+1)->Nat
 | .inl L=>L.length
 | .inr l=>l.length
def cutR {d:Nat} (lo hi:Nat):Ro (d+1)->Ro (d+1)
 | .inl L=>.inl ((L.take hi).drop lo)
 | .inr l=>.inr ((l.take hi).drop lo)
def splR {d:Nat}:Ro (d+1)->List (Ro (d+1))
 | .inl L=>(splL L).map Sum.inl
 | .inr l=>(splL l).map Sum.inr
theorem part_any (d:Nat) (t:Ro (d+1)) (v:Value) (lo hi:Nat) (S:Nat->Prop) (w:World) (hv:NG S w (d+1) t v) (h0:lo<hi) (h1:hi<=sizR t) (hL:sizR t<=1000) :
  Calls Tryz.prog 124 #[v,.int .i64 (lo:Int),.int .i64 (hi:Int)] w (RetG3 S w (d+1) (cutR lo hi t)):=by
 match t,hv,h1,hL with
 | .inl L,hv,h1,hL=>exact part_leaf d L v lo hi S w hv h0 h1 hL
 | .inr l,hv,h1,hL=>exact part_inner d l v lo hi S w hv h0 h1 hL

theorem NG.size {S:Nat->Prop} {w:World} {d:Nat} {t:Ro (d+1)} {lf:Bool} {ka ca:Option Addr} {kn kc cn cc:Nat} (h:NG S w (d+1) t (.agg #[.bool lf,.slice ka kn kc,.slice ca cn cc])):(if lf then kn else cn)=sizR t:=by
 match t,h with
 | .inl L,h=>
  obtain ⟨_,_,_,_,e,_⟩:=h
  injection e with e
  injection e with e
  injection e with e0 e
  injection e with e1 e
  injection e0 with e0
  injection e1 with _ e1
  subst e0
  exact e1
 | .inr l,h=>
  obtain ⟨_,_,_,_,_,e,_⟩:=h
  injection e with e
  injection e with e
  injection e with e0 e
  injection e with e1 e
  injection e with e2 e
  injection e0 with e0
  injection e2 with _ e2
  subst e0
  exact e2


def Only2 (w w' : World) (b:Nat) (a:Option Addr):Prop:=w'.os=w.os/\w'.tape=w.tape/\w'.output=w.output/\w.heap.size<=w'.heap.size/\∀k,k<w.heap.size->k≠b->a.map (·.block)≠some k->w'.heap[k]?=w.heap[k]?

def RetLi (B b:Nat) (ka:Option Addr) (L:List ByteArray) (key:ByteArray) (w:World) (e:Ending) (w' : World):Prop:=
 (key∈L/\e=.returned (.bool false)/\w'=w)\/
 (¬ key∈L/\e=.returned (.bool true)/\Only2 w w' b ka/\∃a' c',Bx w' b 206 #[.int .i64 ((insK key L).length:Int),.slice a' (insK key L).length c']/\w'.ownsRow B 9 1 (.slice a' (insK key L).length c') (insK key L).length (strL (insK key L))/\(a'=ka\/∃g,a'=some ⟨g,0,none⟩/\w.heap.size<g))

end Go.Proofs.YtcnollkkigiobaaGreat
namespace Go.Proofs.YtcnollkkigiobaaGreat
open Go.RowKit Go.Deep Go.Shelf Go.Lib
set_option linter.unusedSimpArgs false

def RetIn (w:World) (b n:Nat) (L:List Value) (e:Ending) (w' : World):Prop:=
 ∃g c,e=.returned (.slice (some ⟨g,0,none⟩) (n+1) c)/\(n+1<=c/\c<=9223372036854775807)/\g<w'.heap.size/\(g=b\/w.heap.size<=g)/\(∀j v,L[j]?=some v->w'.cell? ⟨g,j,none⟩=some v)/\w.grownBy w' (some b)

end Go.Proofs.YtcnollkkigiobaaGreat
namespace Go.Proofs.YtcnollkkigiobaaGreat
open Go.RowKit Go.Deep

theorem shZ_form (sz b o lo c n:Nat) (h:n<=c) (h2:lo<=n):∃oo,shZ sz b o lo c=some ⟨b,oo,none⟩/\(lo<n->oo=o+lo*sz):=by
 unfold shZ
 split
 ·exact ⟨o,rfl,fun h=>by omega⟩
 ·exact ⟨_,rfl,fun _=>rfl⟩

end Go.Proofs.YtcnollkkigiobaaGreat
