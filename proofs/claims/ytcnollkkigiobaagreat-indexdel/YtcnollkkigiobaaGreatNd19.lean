import Derived.Test.YtcnollkkigiobaaGreatNd17
import Derived.Deep.QuietTactic
import Derived.BigQuiet
set_option linter.unusedVariables false
set_option maxRecDepth 100000
namespace Go.Proofs.YtcnollkkigiobaaGreat
open Go.RowKit Go.Deep

theorem Tryz.info68 : (Tryz.prog.info? 68).map (fun i=>(i.zero,i.size,i.bytes))=some (some .nilIface,1,16):=by kernel_rfl

structure InSt (w wr:World) (rb nb:Nat) (nd:Array Value) (d:Nat) (ts:List (Ro d)) (k:Nat) (ca:Option Addr) (cc:Nat) (xs:List Value):Prop where
 gb:Bx wr w.heap.size 168 nd
 nbx:Bx wr nb 179 #[.int .i64 0,.slice ca k cc]
 lt:w.heap.size<nb
 rlt:rb<w.heap.size
 own:wr.ownsRow (nb+1) 68 1 (.slice ca k cc) k xs
 kids:∀j (h:j<ts.length),∃u,xs[j]?=some u/\TAt (fun bb=>nb+1<=bb/\(Value.slice ca k cc).ownBlock≠some bb) wr d ts[j] u
 gr:w.grownBy wr (some rb)
 len:ts.length=k

theorem InSt.read {w wr w1:World} {rb nb:Nat} {nd:Array Value} {d:Nat} {ts:List (Ro d)} {k:Nat} {ca:Option Addr} {cc:Nat} {xs:List Value} (h:InSt w wr rb nb nd d ts k ca cc xs) (hg:wr.grownBy w1 (some rb)):InSt w w1 rb nb nd d ts k ca cc xs:=by
 have h1:=h.rlt
 have h2:=h.lt
 refine ⟨h.gb.grown hg (fun e=>by injection e with e;omega),h.nbx.grown hg (fun e=>by injection e with e;omega),h.lt,h.rlt,h.own.kept hg ?_,fun j hj=>?_,grown_trans h.gr hg,h.len⟩
 ·cases e:(Value.slice ca k cc).ownBlock with
  | none=>exact Or.inl rfl
  | some g=>exact Or.inr (fun q=>by injection q with q;have:=own_lt h.own g e;omega)
 ·obtain ⟨u,e,ht⟩:=h.kids j hj
  exact ⟨u,e,ht.mono hg.size (fun bb hs hlt=>⟨hs,hg.block bb hlt (fun q=>by injection q with q;have:=hs.1;omega)⟩)⟩

theorem InSt.grow {w wr w1 w5:World} {rb nb:Nat} {nd:Array Value} {d:Nat} {ts:List (Ro d)} {k:Nat} {ca:Option Addr} {cc:Nat} {xs:List Value} (h:InSt w wr rb nb nd d ts k ca cc xs) (hg0:wr.grownBy w1 (some rb)) {t:Ro d} {v:Value} (ht:TAt (fun bb=>wr.heap.size<=bb) w1 d t v) {O:Obj} (hg:(w1.alloc O).grownBy w5 (Value.slice ca k cc).ownBlock) {a' : Option Addr} {c' : Nat}
  (ho:w5.ownsRow (nb+1) 68 1 (.slice a' (k+1) c') (k+1) (xs++[v])) (hat:(Value.slice a' (k+1) c').ownBlock=(Value.slice ca k cc).ownBlock\/(Value.slice a' (k+1) c').ownBlock=some (w1.alloc O).heap.size) :
  InSt w (w5.setCell ⟨nb,1,none⟩ (.slice a' (k+1) c')) rb nb nd d (ts++[t]) (k+1) a' c' (xs++[v]):=by
 have h1:=h.rlt
 have h2:=h.lt
 have hr:=h.read hg0
 have hlo:=own_lt h.own
 have hz0:=hg0.size
 have hz:=hg.size
 have hnl:=h.nbx.lt
 have hza:(w1.alloc O).heap.size=w1.heap.size+1:=by simp
 have hne:∀g,g<nb+1->(Value.slice ca k cc).ownBlock≠some g:=fun g hg e=>by have:=hlo g e;omega
 have hb5:∀bb,bb<w1.heap.size->(Value.slice ca k cc).ownBlock≠some bb->bb≠nb->(w5.setCell ⟨nb,1,none⟩ (.slice a' (k+1) c')).heap[bb]?=w1.heap[bb]?:=fun bb hlt hn1 hn2=>by
  rw [Below.heap_setCell _ _ _ _ (show bb≠nb from hn2),hg.block bb (by omega) (fun e=>hn1 e.symm),Below.heap_alloc _ _ _ hlt]
 have hs5:(w5.setCell ⟨nb,1,none⟩ (.slice a' (k+1) c')).heap.size=w5.heap.size:=by simp [World.setCell]
 refine ⟨((hr.gb.alloc _).grown hg (hne _ (by omega))).other (by simp;omega) _,((hr.nbx.alloc _).grown hg (hne _ (by omega))).set 1 _,h.lt,h.rlt,own_set ho _ _ (by simp),fun j hj=>?_,?_,by rw [List.length_append,h.len];rfl⟩
 ·rw [List.length_append] at hj
  simp at hj
  have hxl:xs.length=k:=by have:=h.own.1;omega
  by_cases e:j=ts.length
  ·subst e
   refine ⟨v,by rw [h.len,List.getElem?_append_right (by omega),hxl];simp,?_⟩
   rw [List.getElem_append_right (by omega)]
   simp only [Nat.sub_self,List.getElem_cons_zero]
   refine ht.mono (by rw [hs5];omega) (fun bb hs hlt=>⟨⟨by omega,?_⟩,hb5 bb hlt (fun e=>by have:=hlo bb e;omega) (by omega)⟩)
   rcases hat with e|e
   ·rw [e];exact fun e=>by have:=hlo bb e;omega
   ·rw [e]
    intro q
    injection q with q
    omega
  ·obtain ⟨u,eu,htj⟩:=hr.kids j (by omega)
   refine ⟨u,by rw [List.getElem?_append_left (by rw [hxl,<- h.len];omega)];exact eu,?_⟩
   rw [List.getElem_append_left (by omega)]
   refine htj.mono (by rw [hs5];omega) (fun bb hs hlt=>⟨⟨hs.1,?_⟩,hb5 bb hlt hs.2 (by have:=hs.1;omega)⟩)
   rcases hat with e|e
   ·rw [e];exact hs.2
   ·rw [e]
    intro q
    injection q with q
    omega
 ·have hgw:=h.gr.size
  refine ⟨?_,?_,?_,by rw [hs5];omega,fun bb hlt hn=>?_⟩
  ·exact (hg.os.trans (hg0.os.trans h.gr.os))
  ·exact (hg.tape.trans (hg0.tape.trans h.gr.tape))
  ·exact (hg.output.trans (hg0.output.trans h.gr.output))
  ·rw [hb5 bb (by omega) (hne bb (by omega)) (by omega)]
   exact hr.gr.block bb hlt hn

theorem least_call {S:Nat->Prop} {w:World} {h:Nat}:∀{d:Nat} {t:Ro d} {v:Value},TAt S w d t v->BalR d false t h->
  (∃p,v=.iface 204 (.pointer (some p))/\∀W:World,Below w.heap.size w W->Calls Tryz.prog 205 #[.pointer (some p)] W fun e w'=>e=.returned (.string (gt (keysR d t) 0))/\w'=W)\/
  (∃p,v=.iface 174 (.pointer (some p))/\∀W:World,Below w.heap.size w W->Calls Tryz.prog 188 #[.pointer (some p)] W fun e w'=>e=.returned (.string (gt (keysR d t) 0))/\w'=W)
 | 0,_,_,h,_=>h.elim
 | d+1,.inl t,v,ht,hb=>by
  obtain ⟨b,ka,kc,rfl,_,hx,hr⟩:=ht
  exact Or.inl ⟨_,rfl,fun W hW=>leastLeaf_any b t.length kc ka _ (gt t) W (hx.below hW) (hr.rdS.below hW) (bal_pos hb)⟩
 | d+1,.inr l,v,ht,hb=>by
  have ht2:=ht
  obtain ⟨b,g,kc,xs,rfl,_⟩:=ht2
  obtain ⟨_,_,h',_,hall⟩:=hb
  exact Or.inr ⟨_,rfl,fun W hW=>leastInner_any d l S b h' W (ht.below hW) hall⟩

end Go.Proofs.YtcnollkkigiobaaGreat
