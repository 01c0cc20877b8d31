import Derived.Test.YtcnollkkigiobaaGreatNd32
import Derived.Test.YtcnollkkigiobaaGreatNd26
import Derived.Test.YtcnollkkigiobaaGreatNd9
import Derived.Test.YtcnollkkigiobaaGreatNd31
set_option linter.unusedVariables false
set_option maxRecDepth 100000
namespace Go.Proofs.YtcnollkkigiobaaGreat
open Go.RowKit Go.Deep

theorem step_t3 {ops:Array Oper} {o:Oper} {a:Act} {w:World} {K:Act->World->Prop} {Q:Exit->Act->World->Prop} {E:Prop} (hgd:o.guard=none) (k:Nat) (i j m:Nat) (tys:Array TypeId)
  (ho:o.op=.call { callee:=.value (.func k),args:=#[.tmp i,.tmp j,.tmp m],argTypes:=tys }) (u v x:Value) (hx:a.tmps[i]?.getD undef=u) (hy:a.tmps[j]?.getD undef=v) (hz:a.tmps[m]?.getD undef=x) (heg:∀args w,(callFunc k args).run Tryz.prog w=.ok (.enter k args) w)
  (h:Calls Tryz.prog k #[u,v,x] w fun e w'=>∃r,e=.returned r/\K (a.put o.dst r) w') :
  if Region.wanted o (yielded ops a.tmps)=true then Oper.wp Tryz.prog o a w K Q else E:=by
 have hw:Region.wanted o (yielded ops a.tmps)=true:=by simp [Region.wanted,hgd]
 rw [if_pos hw]
 unfold Oper.wp
 simp [execOp,ho,resolve,invoke,hx,hy,hz,go_sem,heg]
 refine h.mono ?_
 rintro e w' ⟨u,rfl,hk⟩
 exact hk

theorem ins_fin (d b gg kc:Nat) (x:Int) (M:List (Ro d)) (ys:List Value) (S:Nat->Prop) (w:World) (hx:Bx w b 179 #[.int .i64 x,.slice (some ⟨gg,0,none⟩) M.length kc]) (hcap:M.length<=kc/\kc<=9223372036854775807) (hM:0<M.length) (hM5:M.length<=1000) (hce:∀j u,ys[j]?=some u->w.cell? ⟨gg,j,none⟩=some u) (hak:AllK S w d M ys) (hSb:¬ S b) (hSg:S gg) (hgl:gg<w.heap.size) (hkeys:(M.flatMap (keysR d)).length<=1099511627776) :
  Calls Tryz.prog 118 #[.pointer (some ⟨b,0,none⟩)] w fun e w'=>e=.returned (.tuple #[])/\w.grownBy w' (some b)/\NdI S w' b (d+1) (.inr M) (.iface 174 (.pointer (some ⟨b,0,none⟩))):=by
 have hgb:gg≠b:=fun e=>hSb (e ▸ hSg)
 refine (recountO_any d b gg 0 M.length kc M x ys w hx rfl (by omega) hkeys (fun j u hj=>by rw [Nat.zero_add];exact hce j u hj) hgb (fun k h=>?_)).mono ?_
 ·obtain ⟨u,e,ht⟩:=hak.2 k h
  obtain ⟨bb,q1,q2,q3,q4⟩:=ht.count
  exact ⟨u,bb,e,fun e=>hSb (e ▸ q1),q3,q4⟩
 ·rintro e w' ⟨rfl,hg,hs,hx'⟩
  have blk:∀y,S y->y<w.heap.size->S y/\w'.heap[y]?=w.heap[y]?:=fun y hy hl=>⟨hy,hg.block y hl (fun e=>hSb (by injection e with e;exact e ▸ hy))⟩
  have hk2:=hak.keep hg.size blk
  exact ⟨rfl,hg,rfl,gg,0,kc,ys,hx',hSg,⟨by have:=hg.size;omega,hcap⟩,⟨hM,hak.1⟩,fun j u hj=>by rw [Nat.zero_add];exact (World.cell?_of_block (a:=⟨gg,j,none⟩) (blk gg hSg hgl).2).trans (hce j u hj),hk2.2⟩

theorem frs_grown {w w' : World} {b:Nat} {bs:List Nat} (h:w.grownBy w' (some b)) (hb:b∈bs):Frs bs w w':=⟨h.os,h.tape,h.output,h.size,fun k hk hn=>h.block k hk (fun e=>hn (by injection e with e;rw [e];exact hb))⟩
end Go.Proofs.YtcnollkkigiobaaGreat
