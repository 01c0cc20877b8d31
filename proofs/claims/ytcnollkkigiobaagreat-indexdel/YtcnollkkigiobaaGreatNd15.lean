import Derived.Test.YtcnollkkigiobaaGreatNd9
import Derived.Test.YtcnollkkigiobaaGreatNd11
set_option linter.unusedVariables false
set_option maxRecDepth 100000
namespace Go.Proofs.YtcnollkkigiobaaGreat
open Go.RowKit Go.Deep

def RdO (S:Nat->Prop) (w:World) (a:Option Addr) (n:Nat) (f:Nat->Value):Prop:=
 n=0\/∃b o,a=some ⟨b,o,none⟩/\S b/\b<w.heap.size/\∀i,i<n->w.cell? ⟨b,o+i,none⟩=some (f i)
theorem RdO.keep {S S' : Nat->Prop} {w w' : World} {a:Option Addr} {n:Nat} {f:Nat->Value} (h:RdO S w a n f) (hz:w.heap.size<=w'.heap.size) (hS:∀b,S b->b<w.heap.size->S' b/\w'.heap[b]?=w.heap[b]?):RdO S' w' a n f:=by
 rcases h with h|⟨b,o,rfl,hs,hb,hc⟩
 ·exact Or.inl h
 ·obtain ⟨q1,q2⟩:=hS b hs hb
  exact Or.inr ⟨b,o,rfl,q1,by omega,fun i hi=>by rw [World.cell?_of_block (a:=⟨b,o+i,none⟩) q2];exact hc i hi⟩
theorem RdO.rdS {S:Nat->Prop} {w:World} {a:Option Addr} {n:Nat} {X:Nat->ByteArray} (h:RdO S w a n (fun i=>.string (X i))):RdS w a n X:=by
 rcases h with h|⟨b,o,rfl,_,_,hc⟩
 ·exact Or.inl h
 ·exact Or.inr ⟨b,o,rfl,hc⟩

def TAo (S:Nat->Prop) (w:World):(d:Nat)->Ro d->Value->Prop
 | 0,_,_=>False
 | d+1,.inl t,v=>∃b ka kc,v=.iface 204 (.pointer (some ⟨b,0,none⟩))/\S b/\Bx w b 206 #[.int .i64 (t.length:Int),.slice ka t.length kc]/\(t.length<=kc/\kc<=9223372036854775807)/\RdO S w ka t.length (fun i=>.string (gt t i))
 | d
  + 1,.inr l,v=>∃(b g o kc:Nat) (xs:List Value),v=.iface 174 (.pointer (some ⟨b,0,none⟩))/\S b/\Bx w b 179 #[.int .i64 ((l.flatMap (keysR d)).length:Int),.slice (some ⟨g,o,none⟩) l.length kc]/\(S g/\g≠b)/\(g<w.heap.size/\l.length<=kc/\kc<=9223372036854775807)/\0<l.length/\(∀j u,xs[j]?=some u->w.cell? ⟨g,o+j,none⟩=some u)/\
  ∀k (h:k<l.length),∃u,xs[k]?=some u/\TAo S w d l[k] u

theorem TAo.keep {S S' : Nat->Prop} {w w' : World} (hz:w.heap.size<=w'.heap.size) (hS:∀b,S b->b<w.heap.size->S' b/\w'.heap[b]?=w.heap[b]?):∀{d:Nat} {t:Ro d} {v:Value},TAo S w d t v->TAo S' w' d t v
 | 0,_,_,h=>h
 | d+1,.inl t,v,h=>by
  obtain ⟨b,ka,kc,rfl,hs,hx,hc,hr⟩:=h
  obtain ⟨q1,q2⟩:=hS b hs hx.lt
  exact ⟨b,ka,kc,rfl,q1,hx.of_block q2,hc,hr.keep hz hS⟩
 | d+1,.inr l,v,h=>by
  obtain ⟨b,g,o,kc,xs,rfl,hs,hx,⟨hg,hgb⟩,hl,h0,hc,hk⟩:=h
  obtain ⟨q1,q2⟩:=hS b hs hx.lt
  obtain ⟨q3,q4⟩:=hS g hg hl.1
  refine ⟨b,g,o,kc,xs,rfl,q1,hx.of_block q2,⟨q3,hgb⟩,⟨by omega,hl.2⟩,h0,fun j u hj=>(World.cell?_of_block (a:=⟨g,o+j,none⟩) q4).trans (hc j u hj),fun k h=>?_⟩
  obtain ⟨u,e,ht⟩:=hk k h
  exact ⟨u,e,TAo.keep hz hS ht⟩

theorem TAo.below {S:Nat->Prop} {w w' : World} {d:Nat} {t:Ro d} {v:Value} (h:TAo S w d t v) (hb:Below w.heap.size w w'):TAo S w' d t v:=
 TAo.keep hb.size (fun b hs hl=>⟨hs,hb.block b hl⟩) h
theorem TAo.wide {S S' : Nat->Prop} {w:World} {d:Nat} {t:Ro d} {v:Value} (h:TAo S w d t v) (hS:∀b,S b->b<w.heap.size->S' b):TAo S' w d t v:=
 TAo.keep (Nat.le_refl _) (fun b hs hl=>⟨hS b hs hl,rfl⟩) h

theorem TOw.tao {B:Nat} {w:World}:∀{d:Nat} {t:Ro d} {v:Value} {bs:List Nat},TOw B w d t v bs->bs.Nodup->TAo (fun b=>b∈bs) w d t v
 | 0,_,_,_,h,_=>h.elim
 | d+1,.inl t,v,bs,h,hd=>by
  obtain ⟨b,ka,kc,rfl,hB,hx,ho,rfl⟩:=h
  refine ⟨b,ka,kc,rfl,by simp,hx,own_cap ho,?_⟩
  rcases ho.2 with ⟨q,q0⟩|⟨g,cap,cur,q1,q2,q3,q4⟩
  ·exact .inl q0
  ·injection q1 with q1 _ q5
   subst q1 q5
   refine .inr ⟨g,0,rfl,by simp,(own_lt ho g rfl).2,fun i hi=>?_⟩
   rw [Nat.zero_add,ho.cellAt i (by omega),strL_get t i hi]
 | d+1,.inr l,v,bs,h,hd=>by
  obtain ⟨b,g,kc,xs,bss,rfl,hB,hx,ho,hl,hbl,rfl,hall⟩:=h
  have hc:=own_cap ho
  rw [List.nodup_cons,List.nodup_cons] at hd
  refine ⟨b,g,0,kc,xs,rfl,by simp,hx,⟨by simp,fun e=>hd.1 (by rw [e];simp)⟩,⟨(own_lt ho g rfl).2,hc.1,hc.2⟩,hl,fun j u hj=>?_,fun k h=>?_⟩
  ·have hjl:=(List.getElem?_eq_some_iff.1 hj).1
   rw [ho.1] at hjl
   rw [Nat.zero_add,ho.cellAt j hjl]
   exact hj
  ·obtain ⟨u,us,e1,e2,e3⟩:=hall k h
   have hm:us∈bss:=List.mem_of_getElem? e2
   refine ⟨u,e1,TAo.wide (TOw.tao e3 ?_) (fun b' hb' _=>?_)⟩
   ·exact (List.pairwise_flatten.1 hd.2.2).1 us hm
   ·simp only [List.mem_cons,List.mem_flatten]
    exact .inr (.inr ⟨us,hm,hb'⟩)

theorem TAo.count {S:Nat->Prop} {w:World}:∀{d:Nat} {t:Ro d} {v:Value},TAo S w d t v->∃b,S b/\b<w.heap.size/\w.cell? ⟨b,0,none⟩=some (.int .i64 ((keysR d t).length:Int))/\(v=.iface 204 (.pointer (some ⟨b,0,none⟩))\/v=.iface 174 (.pointer (some ⟨b,0,none⟩)))
 | 0,_,_,h=>h.elim
 | d+1,.inl t,v,h=>by
  obtain ⟨b,ka,kc,rfl,hb,hx,hr⟩:=h
  exact ⟨b,hb,hx.lt,by rw [hx.cell 0];rfl,Or.inl rfl⟩
 | d+1,.inr l,v,h=>by
  obtain ⟨b,g,o,kc,xs,rfl,hb,hx,_⟩:=h
  exact ⟨b,hb,hx.lt,by rw [hx.cell 0];rfl,Or.inr rfl⟩

set_option maxHeartbeats 1000000 in
theorem leastO_any:∀(d:Nat) (l:List (Ro d)) (S:Nat->Prop) (b:Nat) (h:Nat) (w:World),TAo S w (d+1) (.inr l) (.iface 174 (.pointer (some ⟨b,0,none⟩)))->(∀t,t∈l->BalR d false t h)->
  Calls Tryz.prog 188 #[.pointer (some ⟨b,0,none⟩)] w fun e w'=>e=.returned (.string (gt (l.flatMap (keysR d)) 0))/\w'=w:=by
 intro d
 induction d with
 | zero=>
  intro l S b h w ht hb
  obtain ⟨b',g,o,kc,xs,e,_,_,_,_,hl,_,hk⟩:=ht
  obtain ⟨u,_,q⟩:=hk 0 hl
  exact q.elim
 | succ d ih=>
  intro l S b h w ht hb
  obtain ⟨b',g,o,kc,xs,e,_,hx,_,_,hl,hc,hk⟩:=ht
  injection e with _ e
  injection e with e
  injection e with e
  injection e with e
  subst e
  obtain ⟨u,hu,hut⟩:=hk 0 hl
  have hpos:=bal_pos (hb l[0] (List.getElem_mem hl))
  rw [head_flat hl hpos]
  have c1:=hx.cell 1
  simp at c1
  have c2:=hc 0 u hu
  rw [Nat.add_zero] at c2
  have hb0:=hb l[0] (List.getElem_mem hl)
  have hlI:(0:Int)<(l.length:Int):=by omega
  clear hx hc hk hu
  generalize l[0]=t0 at*
  generalize l.length=ln at c1 hlI
  clear hl
  rcases t0 with t0|l0
  ·obtain ⟨b0,ka0,kc0,rfl,_,hx0,_,hr0⟩:=hut
   have HL:Hid (Calls Tryz.prog 205 #[.pointer (some ⟨b0,0,none⟩)] w fun e w'=>e=.returned (.string (gt t0 0))/\w'=w):=leastLeaf_any b0 t0.length kc0 ka0 _ (gt t0) w hx0 hr0.rdS hpos
   clear hx0 hr0 ih hb hb0 hpos
   go_enter Tryz.func188,Tryz.ntmps188
   go_wp2_with fail
   refine HL.out.mono ?_
   rintro e w1 ⟨rfl,rfl⟩
   go_wp2
   go_ret
   exact ⟨rfl,rfl⟩
  ·obtain ⟨h2,h4,h',_,hall⟩:=hb0
   have hut2:=hut
   obtain ⟨b0,g0,o0,kc0,xs0,rfl,_⟩:=hut2
   have HL:Hid (Calls Tryz.prog 188 #[.pointer (some ⟨b0,0,none⟩)] w fun e w'=>e=.returned (.string (gt (l0.flatMap (keysR d)) 0))/\w'=w):=ih l0 S b0 h' w hut hall
   clear ih hut hall hpos hb
   go_enter Tryz.func188,Tryz.ntmps188
   go_wp2_with fail
   refine HL.out.mono ?_
   rintro e w1 ⟨rfl,rfl⟩
   go_wp2
   go_ret
   exact ⟨rfl,rfl⟩

set_option maxHeartbeats 1000000 in
theorem recountO_any (d b g o ln kc:Nat) (l:List (Ro d)) (x:Int) (xs:List Value) (w:World) (h:Bx w b 179 #[.int .i64 x,.slice (some ⟨g,o,none⟩) ln kc]) (hln:ln=l.length) (hl5:ln<=5000) (hlen:(l.flatMap (keysR d)).length<=1099511627776)
  (hc:∀j u,xs[j]?=some u->w.cell? ⟨g,o+j,none⟩=some u) (hg:g≠b) (hk:∀k (h:k<l.length),∃u bb,xs[k]?=some u/\bb≠b/\w.cell? ⟨bb,0,none⟩=some (.int .i64 ((keysR d l[k]).length:Int))/\(u=.iface 204 (.pointer (some ⟨bb,0,none⟩))\/u=.iface 174 (.pointer (some ⟨bb,0,none⟩)))) :
  Calls Tryz.prog 118 #[.pointer (some ⟨b,0,none⟩)] w fun e w'=>e=.returned (.tuple #[])/\w.grownBy w' (some b)/\w'.heap.size=w.heap.size/\Bx w' b 179 #[.int .i64 ((l.flatMap (keysR d)).length:Int),.slice (some ⟨g,o,none⟩) ln kc]:=by
 have HK:Hid (∀W:World,w.grownBy W (some b)->∀k (h:k<l.length),∃u bb,W.cell? ⟨g,o+k,none⟩=some u/\bb≠b/\W.cell? ⟨bb,0,none⟩=some (.int .i64 ((keysR d l[k]).length:Int))/\(u=.iface 204 (.pointer (some ⟨bb,0,none⟩))\/u=.iface 174 (.pointer (some ⟨bb,0,none⟩)))):=by
  intro W hW k hkl
  obtain ⟨u,bb,hu,hne,hb3,hb4⟩:=hk k hkl
  exact ⟨u,bb,hW.cell (hc k u hu) (fun e=>by injection e with e;exact hg e),hne,hW.cell hb3 (fun e=>by injection e with e;exact hne e),hb4⟩
 have HLn:Hid (ln=l.length/\(l.flatMap (keysR d)).length<=1099511627776):=⟨hln,hlen⟩
 have c1:=h.cell 1
 have c0:=h.cell 0
 have f0:=h.frozen 0
 have hlt:=h.lt
 simp at c0 c1
 have H0:Hid (w.grownBy (w.setCell ⟨b,0,none⟩ (.int .i64 0)) (some b)/\Bx (w.setCell ⟨b,0,none⟩ (.int .i64 0)) b 179 #[.int .i64 0,.slice (some ⟨g,o,none⟩) ln kc]):=by
  refine ⟨⟨rfl,rfl,rfl,by simp [World.setCell],fun k hk hne=>Below.heap_setCell _ _ _ _ (fun e=>hne (by rw [e]))⟩,h.set 0 _⟩
 clear h hc hk hln hlen
 go_enter Tryz.func118,Tryz.ntmps118
 go_wp2
 go_loopw [13] (fun i wr=>∃k:Nat,k<=ln/\i=.int .i64 k/\w.grownBy wr (some b)/\wr.heap.size=w.heap.size/\Bx wr b 179 #[.int .i64 (((l.take k).flatMap (keysR d)).length:Int),.slice (some ⟨g,o,none⟩) ln kc]) (fun i _=>ln-(intOf i).toNat)
 case atStart=>exact ⟨0,Nat.zero_le _,rfl,H0.out.1,by simp [World.setCell],by simpa using H0.out.2⟩
 case round=>
  obtain ⟨k,hkl,rfl,hgr,hsz,hbx⟩:=hrel
  clear H0 c0 c1 f0
  have HG:Hid (w.grownBy wr (some b)/\wr.heap.size=w.heap.size/\Bx wr b 179 #[.int .i64 (((l.take k).flatMap (keysR d)).length:Int),.slice (some ⟨g,o,none⟩) ln kc]):=⟨hgr,hsz,hbx⟩
  obtain ⟨A,hA⟩:∃A:Int,A=(((l.take k).flatMap (keysR d)).length:Int):=⟨_,rfl⟩
  rw [<- hA] at hbx
  have c0:=hbx.cell 0
  have f0:=hbx.frozen 0
  have hlt2:=hbx.lt
  simp at c0
  clear hgr hsz hbx
  by_cases hlt:k<ln
  ·have hlk:k<l.length:=by rw [<- HLn.out.1];exact hlt
   obtain ⟨u,bb,hu,hne,hcc,hform⟩:=HK.out wr HG.out.1 k hlk
   have e12:=flat_len_take l k hlk
   have hle:=flat_take_le (keysR d) l (k+1)
   have hL:=HLn.out.2
   obtain ⟨C,hC⟩:∃C:Int,C=((keysR d l[k]).length:Int):=⟨_,rfl⟩
   have hA0:0<=A/\A<=1099511627776:=by omega
   have hC0:0<=C/\C<=1099511627776:=by omega
   rw [<- hC] at hcc
   have HS:Hid ((((l.take (k+1)).flatMap (keysR d)).length:Int)=A+C):=by
    show (((l.take (k+1)).flatMap (keysR d)).length:Int)=A+C
    rw [e12,hA,hC]
    omega
   have HX:Hid (w.grownBy (wr.drew.setCell ⟨b,0,none⟩ (.int .i64 (A+C))) (some b)/\(wr.drew.setCell ⟨b,0,none⟩ (.int .i64 (A+C))).heap.size=w.heap.size/\Bx (wr.drew.setCell ⟨b,0,none⟩ (.int .i64 (A+C))) b 179 #[.int .i64 (((l.take (k+1)).flatMap (keysR d)).length:Int),.slice (some ⟨g,o,none⟩) ln kc]):=by
    obtain ⟨q1,q2,q3⟩:=HG.out
    have hs:(wr.drew.setCell ⟨b,0,none⟩ (.int .i64 (A+C))).heap.size=wr.heap.size:=Eq.trans (show (wr.drew.setCell ⟨b,0,none⟩ (.int .i64 (A+C))).heap.size=wr.drew.heap.size by simp [World.setCell]) rfl
    refine ⟨⟨q1.os,q1.tape,q1.output,by rw [hs];exact q1.size,fun k hk hne=>?_⟩,by rw [hs];exact q2,?_⟩
    ·rw [Below.heap_setCell _ _ _ _ (fun e=>hne (by rw [e]))]
     exact q1.block k hk hne
    ·rw [HS.out]
     exact q3.drew.set 0 _
   clear hA hC e12 hle hL
   rcases hform with rfl|rfl
   ·have HB:Hid (∀W:World,W.cell? ⟨bb,0,none⟩=some (.int .i64 C)->Calls Tryz.prog 157 #[.pointer (some ⟨bb,0,none⟩)] W fun e w'=>e=.returned (.int .i64 C)/\w'=W):=fun W hW=>below_any bb C W hW
    go_wp2
    go_region_with (go_at_call 157;refine (HB.out _ (by simpa using hcc)).mono ?_;rintro e w2 ⟨rfl,rfl⟩)
    all_goals
     go_wp2
     go_roundw
     case rel=>exact ⟨k+1,by omega,by go_num,HX.out⟩
     case measure=>simp [intOf];omega
   ·have HB:Hid (∀W:World,W.cell? ⟨bb,0,none⟩=some (.int .i64 C)->Calls Tryz.prog 157 #[.pointer (some ⟨bb,0,none⟩)] W fun e w'=>e=.returned (.int .i64 C)/\w'=W):=fun W hW=>below_any bb C W hW
    go_wp2
    go_region_with (go_at_call 157;refine (HB.out _ (by simpa using hcc)).mono ?_;rintro e w2 ⟨rfl,rfl⟩)
    all_goals
     go_wp2
     go_roundw
     case rel=>exact ⟨k+1,by omega,by go_num,HX.out⟩
     case measure=>simp [intOf];omega
  ·have e:k=ln:=by omega
   subst e
   have HE:Hid ((l.take k).flatMap (keysR d)=l.flatMap (keysR d)):=by
    show (l.take k).flatMap (keysR d)=l.flatMap (keysR d)
    rw [HLn.out.1,List.take_length]
   go_wp2
   go_end0
   refine ⟨rfl,HG.out.1,HG.out.2.1,?_⟩
   have q:=HG.out.2.2
   rw [HE.out] at q
   exact q
end Go.Proofs.YtcnollkkigiobaaGreat
