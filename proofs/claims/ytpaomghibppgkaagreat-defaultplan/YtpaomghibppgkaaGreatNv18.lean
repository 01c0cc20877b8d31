import Derived.Test.YtpaomghibppgkaaGreatNv17
import Derived.Test.YtpaomghibppgkaaGreatNv1
import Derived.Test.YtpaomghibppgkaaGreatNv16
import Derived.RangeFuncNested
import Derived.RangeFuncBound
import Derived.RangeFuncCalls
import Derived.RangeFuncLeaves
import Derived.Shelf.Abstract
import Derived.Shelf.RegionOpen
import Derived.OwnWalkIn
import Derived.TacticsInMore
import Derived.LoopNIn
import Derived.LoopIn
import Derived.Test.YtpaomghibppgkaaGreatNv6
import Derived.Test.YtpaomghibppgkaaGreatNv8
import Derived.Deep.RegionHeld3
set_option linter.unusedVariables false
set_option maxRecDepth 100000
namespace Go.Proofs.YtpaomghibppgkaaGreat
open Go.RowKit Go.Deep

theorem grown_set (w:World) (b i:Nat) (v:Value):w.grownBy (w.setCell ⟨b,i,none⟩ v) (some b):=
 ⟨rfl,rfl,rfl,by simp [World.setCell],fun k hk hne=>Below.heap_setCell _ _ _ _ (fun e=>hne (by rw [e]))⟩
theorem grown_refl (w:World) (r:Option Nat):w.grownBy w r:=⟨rfl,rfl,rfl,Nat.le_refl _,fun _ _ _=>rfl⟩
theorem grown_trans {w w1 w2:World} {r:Option Nat} (h:w.grownBy w1 r) (g:w1.grownBy w2 r):w.grownBy w2 r:=
 ⟨g.os.trans h.os,g.tape.trans h.tape,g.output.trans h.output,Nat.le_trans h.size g.size,fun k hk hne=>(g.block k (Nat.lt_of_lt_of_le hk h.size) hne).trans (h.block k hk hne)⟩
theorem grown_below {w w1:World} {r:Option Nat} (h:Below w.heap.size w w1):w.grownBy w1 r:=⟨h.os,h.tape,h.output,h.size,fun k hk _=>h.block k hk⟩
theorem below_grown {B:Nat} {w w1:World} {r:Nat} (h:w.grownBy w1 (some r)) (hB:B<=w.heap.size) (hr:B<=r):Below B w w1:=⟨h.os,h.tape,h.output,h.size,fun k hk=>h.block k (by omega) (fun e=>by injection e with e;omega)⟩

def RetLd (rb b o n c x:Nat) (dep D:Int) (lk:ByteArray) (hk:Bool) (w:World) (e:Ending) (w' : World):Prop:=
 ∃ok,e=.returned (.bool ok)/\w.grownBy w' (some rb)/\w'.heap.size=w.heap.size/\((ok=true/\(D=0\/D=dep)/\RBx w' rb b o n c x dep lk hk)\/(ok=false/\¬ (D=0\/D=dep)))

def RetPk (rb b o n c x:Nat) (D:Int) (lk:ByteArray) (hk:Bool) (L:List ByteArray) (w:World) (e:Ending) (w' : World):Prop:=
 ∃ok,e=.returned (.bool ok)/\w.grownBy w' (some rb)/\w'.heap.size=w.heap.size/\((ok=true/\∃hk' lk',Chain hk lk L hk' lk'/\RBx w' rb b o n c x D lk' hk')\/(ok=false/\∀hk' lk',¬ Chain hk lk L hk' lk'))

set_option maxHeartbeats 1000000 in
theorem leafDepth_any (rb b o n c x:Nat) (dep D:Int) (lk:ByteArray) (hk:Bool) (w:World) (h:RBx w rb b o n c x D lk hk) (hd:0<=dep) :
  Calls Tryz.prog 143 #[.pointer (some ⟨rb,0,none⟩),.int .i64 dep] w (RetLd rb b o n c x dep D lk hk w):=by
 have c2:=h.cell 2
 have f2:=h.frozen 2
 have hl:=h.lt
 simp at c2
 have HR:Hid (RBx w rb b o n c x D lk hk):=h
 clear h
 by_cases h0:D=0
 ·subst h0
  have hq:((0:Int) == 0)=true:=rfl
  have HX:Hid (RBx (w.setCell ⟨rb,2,none⟩ (.int .i64 dep)) rb b o n c x dep lk hk):=HR.out.set 2 _
  have c3:=HX.out.cell 2
  simp at c3
  go_enter Tryz.func143,Tryz.ntmps143
  go_wp2
  go_ret
  exact ⟨true,by simp,grown_set _ _ _ _,by simp [World.setCell],.inl ⟨rfl,.inl rfl,HX.out⟩⟩
 ·have hq:(D == 0)=false:=by simpa using h0
  by_cases h1:D=dep
  ·subst h1
   have hq1:(D == D)=true:=by simp
   go_enter Tryz.func143,Tryz.ntmps143
   go_wp2
   go_ret
   exact ⟨true,by simp,grown_refl _ _,rfl,.inl ⟨rfl,.inr rfl,HR.out⟩⟩
  ·have hq1:(D == dep)=false:=by simpa using h1
   go_enter Tryz.func143,Tryz.ntmps143
   go_wp2
   go_ret
   exact ⟨false,by simp,grown_refl _ _,rfl,.inr ⟨rfl,fun h=>h.elim h0 h1⟩⟩

theorem chain_take {L:List ByteArray} {k:Nat} (h:k<L.length):L.take (k+1)=L.take k++[gt L k]:=by
 rw [<- List.take_append_getElem h]
 unfold gt
 rw [List.getD_eq_getElem?_getD,List.getElem?_eq_getElem h]
 rfl

theorem chain_stop {hk h1:Bool} {lk l1:ByteArray} {L:List ByteArray} {k:Nat} (h:Chain hk lk (L.take k) h1 l1) (hlt:k<L.length) (hbad:¬ ((gt L k).size<=16/\(h1=true->Op.bytesLess l1.toList (gt L k).toList=true))) (h2:Bool) (l2:ByteArray):¬ Chain hk lk L h2 l2:=by
 intro hc
 have e:L=L.take k++(gt L k::L.drop (k+1)):=by
  conv=>lhs;rw [<- List.take_append_drop (k+1) L,chain_take hlt]
  simp
 rw [e] at hc
 obtain ⟨h3,l3,q1,q2⟩:=Chain.split hc
 obtain ⟨rfl,rfl⟩:=Chain.fn h q1
 exact hbad ⟨q2.1,q2.2.1⟩

set_option maxHeartbeats 4000000 in
theorem passKeys_any (rb b o n c x m kc:Nat) (ka:Option Addr) (D:Int) (lk:ByteArray) (hk:Bool) (L:List ByteArray) (w:World) (h:RBx w rb b o n c x D lk hk) (hm:m=L.length) (hm2:m<=1048576) (hr:∀W:World,w.grownBy W (some rb)->RdS W ka m (gt L)) :
  Calls Tryz.prog 144 #[.pointer (some ⟨rb,0,none⟩),.slice ka m kc] w (RetPk rb b o n c x D lk hk L w):=by
 have HR:Hid (∀W:World,w.grownBy W (some rb)->RdS W ka m (gt L)):=hr
 have HM:Hid (m=L.length):=hm
 have H0:Hid (RBx w rb b o n c x D lk hk):=h
 clear h hm hr
 go_enter Tryz.func144,Tryz.ntmps144
 go_wp2
 go_loopw [9] (fun i wr=>∃(k:Nat) (h1:Bool) (l1:ByteArray),k<=m/\i=.int .i64 k/\w.grownBy wr (some rb)/\wr.heap.size=w.heap.size/\Chain hk lk (L.take k) h1 l1/\RBx wr rb b o n c x D l1 h1) (fun i _=>m-(intOf i).toNat)
 case atStart=>exact ⟨0,hk,lk,Nat.zero_le _,rfl,grown_refl _ _,rfl,⟨rfl,rfl⟩,H0.out⟩
 case round=>
  obtain ⟨k,h1,l1,hkm,rfl,hgr,hsz,hch,hbx⟩:=hrel
  clear H0
  have HG:Hid (w.grownBy wr (some rb)/\wr.heap.size=w.heap.size/\Chain hk lk (L.take k) h1 l1/\RBx wr rb b o n c x D l1 h1):=⟨hgr,hsz,hch,hbx⟩
  have c3:=hbx.cell 3
  have c4:=hbx.cell 4
  have f3:=hbx.frozen 3
  have f4:=hbx.frozen 4
  have hl:=hbx.lt
  simp at c3 c4
  clear hgr hsz hch hbx
  by_cases hlt:k<m
  ·have hlk:k<L.length:=by rw [<- HM.out];exact hlt
   rcases HR.out wr HG.out.1 with q|⟨bk,ok,rfl,hc⟩
   ·omega
   have s1:=hc k hlt
   have hk0:(0:Int)<=(k:Int):=by omega
   have hkmI:(k:Int)<(m:Int):=by omega
   clear hc
   by_cases h16:16<(gt L k).size
   ·have j16:(16:Int)<((gt L k).size:Int):=by omega
    have j16' : decide ((16:Int)<((gt L k).size:Int))=true:=decide_eq_true j16
    have n16' : decide (16<(gt L k).size)=true:=decide_eq_true h16
    have HNo:Hid (∀h2 l2,¬ Chain hk lk L h2 l2):=fun h2 l2=>chain_stop HG.out.2.2.1 hlk (fun q=>by omega) h2 l2
    go_wp2
    go_ret
    exact ⟨false,rfl,HG.out.1,HG.out.2.1,.inr ⟨rfl,HNo.out⟩⟩
   ·have j16:¬ (16:Int)<((gt L k).size:Int):=by omega
    have j16' : decide ((16:Int)<((gt L k).size:Int))=false:=decide_eq_false j16
    have n16' : decide (16<(gt L k).size)=false:=decide_eq_false h16
    have HPass:(h1=true->Op.bytesLess l1.toList (gt L k).toList=true)->Hid (w.grownBy ((wr.setCell ⟨rb,3,none⟩ (.string (gt L k))).setCell ⟨rb,4,none⟩ (.bool true)) (some rb)/\((wr.setCell ⟨rb,3,none⟩ (.string (gt L k))).setCell ⟨rb,4,none⟩ (.bool true)).heap.size=w.heap.size/\Chain hk lk (L.take (k+1)) true (gt L k)/\RBx ((wr.setCell ⟨rb,3,none⟩ (.string (gt L k))).setCell ⟨rb,4,none⟩ (.bool true)) rb b o n c x D (gt L k) true):=by
     intro hp
     obtain ⟨q1,q2,q3,q4⟩:=HG.out
     refine ⟨grown_trans (grown_trans q1 (grown_set _ _ _ _)) (grown_set _ _ _ _),by rw [<- q2];simp [World.setCell],?_,(q4.set 3 _).set 4 _⟩
     rw [chain_take hlk]
     exact Chain.app q3 ⟨by omega,hp,rfl,rfl⟩
    cases h1 with
    | false=>
     have HP:=HPass (fun q=>by cases q)
     clear HPass
     go_wp2
     go_roundw
     case rel=>exact ⟨k+1,true,gt L k,by omega,by go_num,HP.out⟩
     case measure=>simp [intOf];omega
    | true=>
     cases hls:Op.bytesLess l1.toList (gt L k).toList with
     | true=>
      have HP:=HPass (fun _=>hls)
      have htot:=less_total l1.toList (gt L k).toList
      rw [hls] at htot
      have ht2:(Op.bytesLess (gt L k).toList l1.toList || (gt L k).toList == l1.toList)=false:=htot
      clear HPass htot
      go_wp2
      go_roundw
      case rel=>exact ⟨k+1,true,gt L k,by omega,by go_num,HP.out⟩
      case measure=>simp [intOf];omega
     | false=>
      have HNo:Hid (∀h2 l2,¬ Chain hk lk L h2 l2):=fun h2 l2=>chain_stop HG.out.2.2.1 hlk (fun q=>by have:=q.2 rfl;rw [hls] at this;cases this) h2 l2
      have htot:=less_total l1.toList (gt L k).toList
      rw [hls] at htot
      have ht2:(Op.bytesLess (gt L k).toList l1.toList || (gt L k).toList == l1.toList)=true:=htot
      clear HPass htot
      go_wp2
      go_ret
      exact ⟨false,rfl,HG.out.1,HG.out.2.1,.inr ⟨rfl,HNo.out⟩⟩
  ·have e:k=m:=by omega
   subst e
   have HE:Hid (L.take k=L):=by
    show L.take k=L
    rw [HM.out,List.take_length]
   go_wp2
   go_ret
   refine ⟨true,rfl,HG.out.1,HG.out.2.1,.inl ⟨rfl,h1,l1,?_,HG.out.2.2.2⟩⟩
   have q:=HG.out.2.2.1
   rw [HE.out] at q
   exact q
end Go.Proofs.YtpaomghibppgkaaGreat
namespace Go.Proofs.YtpaomghibppgkaaGreat
open Go.RowKit Go.Deep Go.Shelf
attribute [local go_sem] Oper.semAt_some

def XP (n:Nat):Type:={ x:Nat × Bool × ByteArray // x.1<n }
def encP (I:Nat->Int) (X R:Nat->ByteArray) (AA:Nat->Option Addr) (CC:Nat->Nat) (H:Nat->Int) {n:Nat} (x:XP n):Array Value:=
 #[.int .i64 (x.1.1:Int),.agg #[.int .i64 (I x.1.1),.string (X x.1.1),.string (R x.1.1),.bool x.1.2.1,.string x.1.2.2,.slice (AA x.1.1) (arOf (I x.1.1)) (CC x.1.1),.int .i64 (H x.1.1)]]

def AnyPl (W:World) (g n:Nat) (I:Nat->Int) (X R:Nat->ByteArray) (AA:Nat->Option Addr) (CC:Nat->Nat) (H:Nat->Int):Prop:=∃Bd Lb,PlAt W g n (plF I X R AA CC Bd Lb H)

def KpB (Bs g n:Nat) (I:Nat->Int) (X R:Nat->ByteArray) (AA:Nat->Option Addr) (CC:Nat->Nat) (H:Nat->Int) (W W' : World):Prop:=
 (∀v,W.cell? ⟨Bs,0,none⟩=some v->W'.cell? ⟨Bs,0,none⟩=some v)/\(AnyPl W g n I X R AA CC H->AnyPl W' g n I X R AA CC H)

set_option maxHeartbeats 1000000 in
theorem bw_in (F:Fence) (nn:Nat) (hf:F.fn 98) (hro:F.round=none) (v:Value) (p:Option Addr) (k c:Nat) (hv:v=.slice p k c) (w:World) :
  CallsIn F nn Tryz.prog 98 #[.slice p k c] w fun e w'=>e=.returned (.func (.func 119) #[] #[.pointer (some ⟨w.heap.size,0,none⟩)])/\w'=w.alloc (.cells #[.slice p k c] 76):=by
 refine callsIn_of_wp Tryz.func98 rfl hf ?_ hro
 simp only [Tryz.ntmps98,List.size_toArray,List.length_cons,List.length_nil,Nat.reduceAdd,Nat.reduceSub,Array.replicate_succ,Array.replicate_zero,List.push_toArray,List.append_toArray,List.nil_append,List.cons_append]
 gi_wp2
 go_ret
 exact ⟨rfl,rfl⟩

end Go.Proofs.YtpaomghibppgkaaGreat
namespace Go.Proofs.YtpaomghibppgkaaGreat
open Go.RowKit Go.Deep Go.Shelf
attribute [local go_sem] Oper.semAt_some

theorem plF_setC {I:Nat->Int} {X R:Nat->ByteArray} {AA:Nat->Option Addr} {CC:Nat->Nat} {Bd:Nat->Bool} {Lb:Nat->ByteArray} {H:Nat->Int} {x:Nat} {b:Bool} {l:ByteArray} {w:World} {g n:Nat}
  (h:PlAt w g n (plF I X R AA CC Bd Lb H)):PlAt ((w.setCell ⟨g,x*7+3,none⟩ (.bool b)).setCell ⟨g,x*7+4,none⟩ (.string l)) g n (plF I X R AA CC (fun i=>if i=x then b else Bd i) (fun i=>if i=x then l else Lb i) H):=by
 have h1:PlAt (w.setCell ⟨g,x*7+3,none⟩ (.bool b)) g n (plF I X R AA CC (fun i=>if i=x then b else Bd i) Lb H):=by
  refine h.set x 3 _ (by decide) (fun j hj=>?_) ?_
  ·unfold plF;simp only [if_neg hj]
  ·unfold plF;simp [Plc.cells]
 refine h1.set x 4 _ (by decide) (fun j hj=>?_) ?_
 ·unfold plF;simp only [if_neg hj]
 ·unfold plF;simp [Plc.cells]

section
variable {g n Bs:Nat} {I:Nat->Int} {X R:Nat->ByteArray} {AA:Nat->Option Addr} {CC:Nat->Nat} {H:Nat->Int} {w W W' : World} {row:Option Nat}

theorem blk_kept {k:Nat} {cs:Array Value} {t:TypeId} (h:W.heap[k]?=some (.cells cs t (0,0))) (hg:W.grownBy W' row) (hr:∀r,row=some r->∃o:Obj,W.heap[r]?=some o/\o.isCells=false):W'.heap[k]?=some (.cells cs t (0,0)):=by
 refine (hg.block k (Array.getElem?_eq_some_iff.1 h).1 (fun e=>?_)).trans h
 obtain ⟨o,ho,hc⟩:=hr k e.symm
 rw [h] at ho
 injection ho with ho
 subst ho
 cases hc
theorem AnyPl.kept (h:AnyPl W g n I X R AA CC H) (hg:W.grownBy W' row) (hr:∀r,row=some r->∃o:Obj,W.heap[r]?=some o/\o.isCells=false):AnyPl W' g n I X R AA CC H:=by
 obtain ⟨Bd,Lb,cur,hh,h1,h2⟩:=h
 exact ⟨Bd,Lb,cur,blk_kept hh hg hr,h1,h2⟩
theorem KpB.refl (W:World):KpB Bs g n I X R AA CC H W W:=⟨fun _ h=>h,fun h=>h⟩
theorem KpB.trans {A B C:World} (h:KpB Bs g n I X R AA CC H A B) (k:KpB Bs g n I X R AA CC H B C):KpB Bs g n I X R AA CC H A C:=⟨fun v hv=>k.1 v (h.1 v hv),fun q=>k.2 (h.2 q)⟩
theorem grown_more {w W W' : World} {row:Option Nat} {g B:Nat} (h:w.grownBy W (some g)) (hg:W.grownBy W' row) (hr:∀r,row=some r->B<=r) (hB:w.heap.size<=B):w.grownBy W' (some g):=
 ⟨hg.os.trans h.os,hg.tape.trans h.tape,hg.output.trans h.output,Nat.le_trans h.size hg.size,fun k hk hne=>by
  rw [<- h.block k hk hne]
  exact hg.block k (Nat.lt_of_lt_of_le hk h.size) (fun e=>by have:=hr k e.symm;omega)⟩
end

structure BSt (w W:World) (g n c:Nat) (I:Nat->Int) (X R:Nat->ByteArray) (AA:Nat->Option Addr) (CC:Nat->Nat) (H:Nat->Int):Prop where
 pl:AnyPl W g n I X R AA CC H
 gr:w.grownBy W (some g)
 b0:W.heap[w.heap.size]?=some (.cells #[.slice (some ⟨g,0,none⟩) n c] 76 (0,0))
 b1:W.heap[w.heap.size+1]?=some (.cells #[.slice (some ⟨g,0,none⟩) n c] 76 (0,0))

section
variable {w W W' : World} {g n c B:Nat} {I:Nat->Int} {X R:Nat->ByteArray} {AA:Nat->Option Addr} {CC:Nat->Nat} {H:Nat->Int} {row:Option Nat}
theorem BSt.kept (h:BSt w W g n c I X R AA CC H) (hg:W.grownBy W' row) (hr:∀r,row=some r->B<=r/\∃o:Obj,W.heap[r]?=some o/\o.isCells=false) (hB:w.heap.size<=B):BSt w W' g n c I X R AA CC H:=
 ⟨h.pl.kept hg (fun r e=>(hr r e).2),grown_more h.gr hg (fun r e=>(hr r e).1) hB,blk_kept h.b0 hg (fun r e=>(hr r e).2),blk_kept h.b1 hg (fun r e=>(hr r e).2)⟩
theorem BSt.alloc (h:BSt w W g n c I X R AA CC H) (o:Obj):BSt w (W.alloc o) g n c I X R AA CC H:=
 h.kept (B:=w.heap.size) (World.grownBy_alloc W o none) (fun r e=>by cases e) (Nat.le_refl _)
theorem BSt.set (h:BSt w W g n c I X R AA CC H) (hg:g<w.heap.size) (x:Nat) (b:Bool) (l:ByteArray):BSt w ((W.setCell ⟨g,x*7+3,none⟩ (.bool b)).setCell ⟨g,x*7+4,none⟩ (.string l)) g n c I X R AA CC H:=by
 obtain ⟨Bd,Lb,hp⟩:=h.pl
 refine ⟨⟨_,_,plF_setC hp⟩,grown_setP (grown_setP h.gr _ _) _ _,?_,?_⟩
 ·rw [Below.heap_setCell _ _ _ _ (by show w.heap.size≠g;omega),Below.heap_setCell _ _ _ _ (by show w.heap.size≠g;omega)];exact h.b0
 ·rw [Below.heap_setCell _ _ _ _ (by show w.heap.size+1≠g;omega),Below.heap_setCell _ _ _ _ (by show w.heap.size+1≠g;omega)];exact h.b1
theorem BSt.other (h:BSt w W g n c I X R AA CC H) {p:Addr} (hp:w.heap.size+2<=p.block) (hg:g<w.heap.size) (v:Value):BSt w (W.setCell p v) g n c I X R AA CC H:=by
 obtain ⟨Bd,Lb,hq⟩:=h.pl
 refine ⟨⟨_,_,hq.other (by omega) v⟩,⟨h.gr.os,h.gr.tape,h.gr.output,by have:=h.gr.size;simpa [World.setCell] using this,fun k hk hne=>by rw [<- h.gr.block k hk hne];exact Below.heap_setCell _ _ _ _ (by omega)⟩,?_,?_⟩
 ·rw [Below.heap_setCell _ _ _ _ (by omega)];exact h.b0
 ·rw [Below.heap_setCell _ _ _ _ (by omega)];exact h.b1
theorem BSt.kp (h:BSt w W g n c I X R AA CC H) (h' : BSt w W' g n c I X R AA CC H):KpB (w.heap.size+1) g n I X R AA CC H W W':=by
 refine ⟨fun v hv=>?_,fun _=>h'.pl⟩
 have e1:W.cell? ⟨w.heap.size+1,0,none⟩=some (.slice (some ⟨g,0,none⟩) n c):=by simp [World.cell?,h.b1]
 have e2:W'.cell? ⟨w.heap.size+1,0,none⟩=some (.slice (some ⟨g,0,none⟩) n c):=by simp [World.cell?,h'.b1]
 rw [e2,<- e1]
 exact hv
end

end Go.Proofs.YtpaomghibppgkaaGreat
namespace Go.Proofs.YtpaomghibppgkaaGreat
open Go.RowKit Go.Deep

set_option maxHeartbeats 400000 in
theorem markTextI (x:Int) (k:Nat) (h:x=(k:Int)) (w:World) (hk:1<=k) (hk2:k<=1073741824) :
  Calls Tryz.prog 82 #[.int .i64 x] w fun e w'=>e=.returned (.string (mkT k))/\Below w.heap.size w w':=by
 subst h
 exact markText_any k w hk hk2

def OwnV (w:World) (t:TypeId) (a:Option Addr) (n:Nat) (f:Nat->Value):Prop:=n=0\/∃g,a=some ⟨g,0,none⟩/\rowIn w g t n f

set_option maxHeartbeats 2000000 in
theorem markStrs_any (a:Option Addr) (n c k:Nat) (X:Nat->ByteArray) (w:World) (h:OwnV w 9 a n (fun i=>.string (X i))) (hk:1<=k) (hk2:k+n<=1073741824) :
  Calls Tryz.prog 112 #[.slice a n c,.int .i64 (k:Int)] w fun e w'=>e=.returned (.int .i64 ((k+n:Nat):Int))/\w.grownBy w' (a.map (·.block))/\(n=0->w'=w)/\OwnV w' 9 a n (fun i=>.string (mkT (k+i))):=by
 by_cases hn0:n=0
 ·subst hn0
  go_enter Tryz.func112,Tryz.ntmps112
  go_wp2
  go_loopw [1,5] (fun q i wr=>q=.int .i64 (k:Int)/\i=.int .i64 0/\wr=w) (fun _ i _=>1-(intOf i).toNat)
  case atStart=>exact ⟨rfl,rfl,rfl⟩
  case round=>
   obtain ⟨rfl,rfl,rfl⟩:=hrel
   go_wp2
   go_ret
   exact ⟨by simp,grown_refl _ _,fun _=>rfl,.inl rfl⟩
 ·obtain ⟨g,rfl,hrow⟩:=h.resolve_left hn0
  have HR:Hid (rowIn w g 9 n (fun i=>.string (X i))):=hrow
  clear hrow h
  have HN0:Hid (¬ n=0):=hn0
  clear hn0
  go_enter Tryz.func112,Tryz.ntmps112
  go_wp2
  go_loopw [1,5] (fun q i wr=>∃j p:Nat,j<=n/\i=.int .i64 j/\q=.int .i64 p/\p=k+j/\w.grownBy wr (some g)/\rowIn wr g 9 n (fun i=>.string (if i<j then mkT (k+i) else X i))) (fun _ i _=>n-(intOf i).toNat)
  case atStart=>exact ⟨0,k,Nat.zero_le _,rfl,rfl,rfl,grown_refl _ _,HR.out.congr (fun i _=>by simp)⟩
  case round=>
   obtain ⟨j,p,hj,rfl,rfl,hp,hgr,hrow⟩:=hrel
   have HS:Hid (p=k+j/\w.grownBy wr (some g)/\rowIn wr g 9 n (fun i=>.string (if i<j then mkT (k+i) else X i))):=⟨hp,hgr,hrow⟩
   by_cases hlt:j<n
   ·have hpb:1<=p/\p<=1073741824:=by omega
    have i0:(0:Int)<=(j:Int):=by omega
    have i1:(j:Int)<(n:Int):=by omega
    clear hp hgr hrow HR
    go_wp2_with fail
    refine (markTextI _ p rfl wr hpb.1 hpb.2).mono ?_
    rintro e w1 ⟨rfl,hb1⟩
    have hrow1:=HS.out.2.2.of_block (hb1.block g HS.out.2.2.lt)
    have c1:=hrow1.cell hlt
    have f1:=hrow1.frozen j
    have l1:=hrow1.lt
    have HX:Hid (w.grownBy (w1.setCell ⟨g,j,none⟩ (.string (mkT p))) (some g)/\rowIn (w1.setCell ⟨g,j,none⟩ (.string (mkT p))) g 9 n (fun i=>.string (if i<j+1 then mkT (k+i) else X i))):=by
     refine ⟨grown_trans (grown_trans HS.out.2.1 (grown_below hb1)) (grown_set _ _ _ _),(hrow1.set j _).congr (fun i hi=>?_)⟩
     by_cases e:i=j
     ·subst e;simp [HS.out.1]
     ·by_cases e2:i<j
      ·have:i<j+1:=by omega
       simp [e,e2,this]
      ·have:¬ i<j+1:=by omega
       simp [e,e2,this]
    have HP:Hid (p+1=k+(j+1)):=by
     show p+1=k+(j+1)
     have:=HS.out.1
     omega
    clear hrow1 hb1 HS
    go_wp2
    go_roundw
    case rel=>exact ⟨j+1,p+1,by omega,by go_num,by go_num,HP.out,HX.out⟩
    case measure=>simp [intOf];omega
   ·have e:j=n:=by omega
    subst e
    clear hp hgr hrow
    go_wp2
    go_ret
    exact ⟨by rw [HS.out.1];rfl,HS.out.2.1,fun h=>absurd h HN0.out,.inr ⟨g,rfl,HS.out.2.2.congr (fun i hi=>by simp [hi])⟩⟩

set_option maxHeartbeats 2000000 in
theorem markInts_any (a:Option Addr) (n c k:Nat) (X:Nat->Int) (w:World) (h:OwnV w 2 a n (fun i=>.int .i64 (X i))) (hk:1<=k) (hk2:k+n<=1073741824) :
  Calls Tryz.prog 19 #[.slice a n c,.int .i64 (k:Int)] w fun e w'=>e=.returned (.int .i64 ((k+n:Nat):Int))/\w.grownBy w' (a.map (·.block))/\(n=0->w'=w)/\∃X' : Nat->Int,OwnV w' 2 a n (fun i=>.int .i64 (X' i)):=by
 by_cases hn0:n=0
 ·subst hn0
  go_enter Tryz.func19,Tryz.ntmps19
  go_wp2
  go_loopw [1,5] (fun q i wr=>q=.int .i64 (k:Int)/\i=.int .i64 0/\wr=w) (fun _ i _=>1-(intOf i).toNat)
  case atStart=>exact ⟨rfl,rfl,rfl⟩
  case round=>
   obtain ⟨rfl,rfl,rfl⟩:=hrel
   go_wp2
   go_ret
   exact ⟨by simp,grown_refl _ _,fun _=>rfl,X,.inl rfl⟩
 ·obtain ⟨g,rfl,hrow⟩:=h.resolve_left hn0
  have HR:Hid (rowIn w g 2 n (fun i=>.int .i64 (X i))):=hrow
  clear hrow h
  have HN0:Hid (¬ n=0):=hn0
  clear hn0
  go_enter Tryz.func19,Tryz.ntmps19
  go_wp2
  go_loopw [1,5] (fun q i wr=>∃(j p:Nat) (Y:Nat->Int),j<=n/\i=.int .i64 j/\q=.int .i64 p/\p=k+j/\w.grownBy wr (some g)/\rowIn wr g 2 n (fun i=>.int .i64 (Y i))) (fun _ i _=>n-(intOf i).toNat)
  case atStart=>exact ⟨0,k,X,Nat.zero_le _,rfl,rfl,rfl,grown_refl _ _,HR.out⟩
  case round=>
   obtain ⟨j,p,Y,hj,rfl,rfl,hp,hgr,hrow⟩:=hrel
   have HS:Hid (p=k+j/\w.grownBy wr (some g)/\rowIn wr g 2 n (fun i=>.int .i64 (Y i))):=⟨hp,hgr,hrow⟩
   by_cases hlt:j<n
   ·have hpb:1<=p/\p<=1073741824:=by omega
    have i0:(0:Int)<=(j:Int):=by omega
    have i1:(j:Int)<(n:Int):=by omega
    have c1:=hrow.cell hlt
    have f1:=hrow.frozen j
    have l1:=hrow.lt
    have HX:Hid (w.grownBy (wr.setCell ⟨g,j,none⟩ (.int .i64 (p:Int))) (some g)/\rowIn (wr.setCell ⟨g,j,none⟩ (.int .i64 (p:Int))) g 2 n (fun i=>.int .i64 (if i=j then (p:Int) else Y i))):=by
     refine ⟨grown_trans HS.out.2.1 (grown_set _ _ _ _),(hrow.set j _).congr (fun i hi=>?_)⟩
     by_cases e:i=j
     ·subst e;simp
     ·simp [e]
    have HP:Hid (p+1=k+(j+1)):=by
     show p+1=k+(j+1)
     have:=HS.out.1
     omega
    clear hp hgr hrow HR HS
    go_wp2
    go_roundw
    case rel=>exact ⟨j+1,p+1,_,by omega,by go_num,by go_num,HP.out,HX.out⟩
    case measure=>simp [intOf];omega
   ·have e:j=n:=by omega
    subst e
    clear hp hgr hrow
    go_wp2
    go_ret
    exact ⟨by rw [HS.out.1];rfl,HS.out.2.1,fun h=>absurd h HN0.out,Y,.inr ⟨g,rfl,HS.out.2.2⟩⟩


def WiT (B T:Nat) (w w' : World):Prop:=w'.os=w.os/\w'.tape=w.tape/\w'.output=w.output/\w.heap.size<=w'.heap.size/\∀k,k<w.heap.size->(k<B\/T<=k)->w'.heap[k]?=w.heap[k]?

theorem WiT.refl (B T:Nat) (w:World):WiT B T w w:=⟨rfl,rfl,rfl,Nat.le_refl _,fun _ _ _=>rfl⟩
theorem WiT.trans {B T:Nat} {a b c:World} (h:WiT B T a b) (k:WiT B T b c):WiT B T a c:=
 ⟨k.1.trans h.1,k.2.1.trans h.2.1,k.2.2.1.trans h.2.2.1,Nat.le_trans h.2.2.2.1 k.2.2.2.1,fun i hi ho=>(k.2.2.2.2 i (Nat.lt_of_lt_of_le hi h.2.2.2.1) ho).trans (h.2.2.2.2 i hi ho)⟩
theorem WiT.grown {B T:Nat} {w w' : World} {r:Option Nat} (h:w.grownBy w' r) (hr:∀b,r=some b->B<=b/\b<T):WiT B T w w':=
 ⟨h.os,h.tape,h.output,h.size,fun k hk ho=>h.block k hk (fun e=>by have:=hr k e.symm;omega)⟩
theorem WiT.below {B T:Nat} {w w' : World} (h:WiT B T w w') (hB:B<=w.heap.size):Below B w w':=⟨h.1,h.2.1,h.2.2.1,h.2.2.2.1,fun k hk=>h.2.2.2.2 k (by omega) (.inl hk)⟩

def MTn (w:World) (B g n:Nat) (N:Nat->Tn) (KA DA:Nat->Option Addr) (KC DC:Nat->Nat):Prop:=
 ∃N',OwnTn w B g n N' KA DA KC DC/\∀i,(N' i).kn=(N i).kn/\(N' i).dn=(N i).dn

section
variable {w w' : World} {B g n:Nat} {N:Nat->Tn} {KA DA:Nat->Option Addr} {KC DC:Nat->Nat}

theorem MTn.cells (h:MTn w B g n N KA DA KC DC) {k:Nat} (hk:k<n):(∃b,w.cell? ⟨g,k*4,none⟩=some (.bool b))/\w.cell? ⟨g,k*4+1,none⟩=some (.slice (KA k) (N k).kn (KC k))/\w.cell? ⟨g,k*4+2,none⟩=some (.slice (DA k) (N k).dn (DC k))/\(∃x,w.cell? ⟨g,k*4+3,none⟩=some (.int .i64 x))/\w.frozen? ⟨g,k*4,none⟩=false/\w.frozen? ⟨g,k*4+3,none⟩=false/\g<w.heap.size:=by
 obtain ⟨N',h,e⟩:=h
 refine ⟨⟨(N' k).lf,?_⟩,?_,?_,⟨(N' k).ct,?_⟩,h.row.frozen _,h.row.frozen _,h.row.lt⟩
 ·rw [h.row.cell (i:=k*4) (by omega),tnCell_0]
 ·rw [h.row.cell (i:=k*4+1) (by omega),tnCell_1,(e k).1]
 ·rw [h.row.cell (i:=k*4+2) (by omega),tnCell_2,(e k).2]
 ·rw [h.row.cell (i:=k*4+3) (by omega),tnCell_3]

theorem MTn.keysV (h:MTn w B g n N KA DA KC DC) {k:Nat} (hk:k<n):∃X:Nat->ByteArray,OwnV w 9 (KA k) (N k).kn (fun i=>.string (X i)):=by
 obtain ⟨N',h,e⟩:=h
 have q:=h.keys k hk
 rw [(e k).1] at q
 rcases q with q|⟨b,e1,_,e2⟩
 ·exact ⟨(N' k).ks,.inl q⟩
 ·exact ⟨(N' k).ks,.inr ⟨b,e1,e2⟩⟩
theorem MTn.kidsV (h:MTn w B g n N KA DA KC DC) {k:Nat} (hk:k<n):∃X:Nat->Int,OwnV w 2 (DA k) (N k).dn (fun i=>.int .i64 (X i)):=by
 obtain ⟨N',h,e⟩:=h
 have q:=h.kids k hk
 rw [(e k).2] at q
 rcases q with q|⟨b,e1,_,e2⟩
 ·exact ⟨(N' k).kd,.inl q⟩
 ·exact ⟨(N' k).kd,.inr ⟨b,e1,e2⟩⟩

theorem MTn.of (h:MTn w B g n N KA DA KC DC) (N1:Nat->Tn) (hrow:rowIn w' g 210 (n*4) (tnCell N1 KA DA KC DC)) (he:∀i,(N1 i).kn=(N i).kn/\(N1 i).dn=(N i).dn) (hk:∀i,i<n->OwnS w' B (KA i) (N1 i).kn (N1 i).ks) (hd:∀i,i<n->OwnI w' B (DA i) (N1 i).dn (N1 i).kd):MTn w' B g n N KA DA KC DC:=by
 obtain ⟨N',h,e⟩:=h
 refine ⟨N1,⟨h.le,hrow,hk,hd,fun i j hi hj hij h1 h2=>h.apartK i j hi hj hij ?_ ?_,fun i j hi hj hij h1 h2=>h.apartD i j hi hj hij ?_ ?_⟩,he⟩
 ·rw [(e i).1,<- (he i).1];exact h1
 ·rw [(e j).1,<- (he j).1];exact h2
 ·rw [(e i).2,<- (he i).2];exact h1
 ·rw [(e j).2,<- (he j).2];exact h2

theorem MTn.flag (h:MTn w B g n N KA DA KC DC) (k:Nat) (v:Bool):MTn (w.setCell ⟨g,k*4,none⟩ (.bool v)) B g n N KA DA KC DC:=by
 obtain ⟨N',h1,e⟩:=h
 refine MTn.of ⟨N',h1,e⟩ (fun i=>if i=k then { N' k with lf:=v } else N' i) ((h1.row.set (k*4) _).congr (fun c hc=>?_)) (fun i=>?_) (fun i hi=>?_) (fun i hi=>?_)
 ·by_cases e1:c=k*4
  ·subst e1;rw [if_pos rfl,tnCell_0];simp
  ·rw [if_neg e1]
   unfold tnCell
   by_cases e2:c / 4=k
   ·have e3:¬ c % 4=0:=by omega
    simp [e2,e3]
   ·simp [e2]
 ·by_cases e1:i=k
  ·subst e1;simpa using e i
  ·simpa [e1] using e i
 ·have q:OwnS w B (KA i) ((fun i=>if i=k then { N' k with lf:=v } else N' i) i).kn ((fun i=>if i=k then { N' k with lf:=v } else N' i) i).ks:=by
   by_cases e1:i=k
   ·subst e1;simpa using h1.keys i hi
   ·simpa [e1] using h1.keys i hi
  rcases q with q|⟨b,q1,q2,q3⟩
  ·exact .inl q
  ·exact .inr ⟨b,q1,q2,q3.of_block (Below.heap_setCell _ _ _ _ (q3.ne h1.row (by decide)))⟩
 ·have q:OwnI w B (DA i) ((fun i=>if i=k then { N' k with lf:=v } else N' i) i).dn ((fun i=>if i=k then { N' k with lf:=v } else N' i) i).kd:=by
   by_cases e1:i=k
   ·subst e1;simpa using h1.kids i hi
   ·simpa [e1] using h1.kids i hi
  rcases q with q|⟨b,q1,q2,q3⟩
  ·exact .inl q
  ·exact .inr ⟨b,q1,q2,q3.of_block (Below.heap_setCell _ _ _ _ (q3.ne h1.row (by decide)))⟩

theorem MTn.count (h:MTn w B g n N KA DA KC DC) (k:Nat) (v:Int):MTn (w.setCell ⟨g,k*4+3,none⟩ (.int .i64 v)) B g n N KA DA KC DC:=by
 obtain ⟨N',h1,e⟩:=h
 refine MTn.of ⟨N',h1,e⟩ (fun i=>if i=k then { N' k with ct:=v } else N' i) ((h1.row.set (k*4+3) _).congr (fun c hc=>?_)) (fun i=>?_) (fun i hi=>?_) (fun i hi=>?_)
 ·by_cases e1:c=k*4+3
  ·subst e1;rw [if_pos rfl,tnCell_3];simp
  ·rw [if_neg e1]
   unfold tnCell
   by_cases e2:c / 4=k
   ·have e3:c % 4=0\/c % 4=1\/c % 4=2:=by omega
    rcases e3 with e3|e3|e3 <;> simp [e2,e3]
   ·simp [e2]
 ·by_cases e1:i=k
  ·subst e1;simpa using e i
  ·simpa [e1] using e i
 ·have q:OwnS w B (KA i) ((fun i=>if i=k then { N' k with ct:=v } else N' i) i).kn ((fun i=>if i=k then { N' k with ct:=v } else N' i) i).ks:=by
   by_cases e1:i=k
   ·subst e1;simpa using h1.keys i hi
   ·simpa [e1] using h1.keys i hi
  rcases q with q|⟨b,q1,q2,q3⟩
  ·exact .inl q
  ·exact .inr ⟨b,q1,q2,q3.of_block (Below.heap_setCell _ _ _ _ (q3.ne h1.row (by decide)))⟩
 ·have q:OwnI w B (DA i) ((fun i=>if i=k then { N' k with ct:=v } else N' i) i).dn ((fun i=>if i=k then { N' k with ct:=v } else N' i) i).kd:=by
   by_cases e1:i=k
   ·subst e1;simpa using h1.kids i hi
   ·simpa [e1] using h1.kids i hi
  rcases q with q|⟨b,q1,q2,q3⟩
  ·exact .inl q
  ·exact .inr ⟨b,q1,q2,q3.of_block (Below.heap_setCell _ _ _ _ (q3.ne h1.row (by decide)))⟩

theorem MTn.setKeys (h:MTn w B g n N KA DA KC DC) {k:Nat} (hk:k<n) (X:Nat->ByteArray) (hg:w.grownBy w' ((KA k).map (·.block))) (hz:(N k).kn=0->w'=w) (ho:OwnV w' 9 (KA k) (N k).kn (fun i=>.string (X i))):MTn w' B g n N KA DA KC DC:=by
 by_cases hl:(N k).kn=0
 ·rw [hz hl];exact h
 obtain ⟨N',h1,e⟩:=h
 have hl' : (N' k).kn≠0:=by rw [(e k).1];exact hl
 obtain ⟨gk,hA,hgB,hrk⟩:=(h1.keys k hk).resolve_left hl'
 rw [hA] at hg
 have hblk:∀i,i<w.heap.size->i≠gk->w'.heap[i]?=w.heap[i]?:=fun i hi hne=>hg.block i hi (fun q=>by injection q with q;exact hne q)
 refine MTn.of ⟨N',h1,e⟩ (fun i=>if i=k then { N' k with ks:=X } else N' i) ((h1.row.of_block (hblk g h1.row.lt (fun q=>(hrk.ne h1.row (by decide)) q.symm))).congr (fun c hc=>?_)) (fun i=>?_) (fun i hi=>?_) (fun i hi=>?_)
 ·unfold tnCell
  by_cases e2:c / 4=k
  ·simp [e2]
  ·simp [e2]
 ·by_cases e1:i=k
  ·subst e1;simpa using e i
  ·simpa [e1] using e i
 ·by_cases e1:i=k
  ·subst e1
   obtain ⟨g2,hA2,hr2⟩:=ho.resolve_left hl
   rw [hA] at hA2
   injection hA2 with hA2
   injection hA2 with hA2
   subst hA2
   simp only [if_true]
   rw [<- (e i).1] at hr2
   exact .inr ⟨gk,hA,hgB,hr2⟩
  ·simp only [if_neg e1]
   by_cases h0:(N' i).kn=0
   ·exact .inl h0
   ·obtain ⟨gi,hAi,hgi,hri⟩:=(h1.keys i hi).resolve_left h0
    refine .inr ⟨gi,hAi,hgi,hri.of_block (hblk gi hri.lt (fun q=>?_))⟩
    subst q
    exact h1.apartK i k hi hk e1 h0 hl' (by rw [hA,hAi])
 ·have q:OwnI w B (DA i) ((fun i=>if i=k then { N' k with ks:=X } else N' i) i).dn ((fun i=>if i=k then { N' k with ks:=X } else N' i) i).kd:=by
   by_cases e1:i=k
   ·subst e1;simpa using h1.kids i hi
   ·simpa [e1] using h1.kids i hi
  rcases q with q|⟨b,q1,q2,q3⟩
  ·exact .inl q
  ·exact .inr ⟨b,q1,q2,q3.of_block (hblk b q3.lt (q3.ne hrk (by decide)))⟩

theorem MTn.setKids (h:MTn w B g n N KA DA KC DC) {k:Nat} (hk:k<n) (X:Nat->Int) (hg:w.grownBy w' ((DA k).map (·.block))) (hz:(N k).dn=0->w'=w) (ho:OwnV w' 2 (DA k) (N k).dn (fun i=>.int .i64 (X i))):MTn w' B g n N KA DA KC DC:=by
 by_cases hl:(N k).dn=0
 ·rw [hz hl];exact h
 obtain ⟨N',h1,e⟩:=h
 have hl' : (N' k).dn≠0:=by rw [(e k).2];exact hl
 obtain ⟨gk,hA,hgB,hrk⟩:=(h1.kids k hk).resolve_left hl'
 rw [hA] at hg
 have hblk:∀i,i<w.heap.size->i≠gk->w'.heap[i]?=w.heap[i]?:=fun i hi hne=>hg.block i hi (fun q=>by injection q with q;exact hne q)
 refine MTn.of ⟨N',h1,e⟩ (fun i=>if i=k then { N' k with kd:=X } else N' i) ((h1.row.of_block (hblk g h1.row.lt (fun q=>(hrk.ne h1.row (by decide)) q.symm))).congr (fun c hc=>?_)) (fun i=>?_) (fun i hi=>?_) (fun i hi=>?_)
 ·unfold tnCell
  by_cases e2:c / 4=k
  ·simp [e2]
  ·simp [e2]
 ·by_cases e1:i=k
  ·subst e1;simpa using e i
  ·simpa [e1] using e i
 ·have q:OwnS w B (KA i) ((fun i=>if i=k then { N' k with kd:=X } else N' i) i).kn ((fun i=>if i=k then { N' k with kd:=X } else N' i) i).ks:=by
   by_cases e1:i=k
   ·subst e1;simpa using h1.keys i hi
   ·simpa [e1] using h1.keys i hi
  rcases q with q|⟨b,q1,q2,q3⟩
  ·exact .inl q
  ·exact .inr ⟨b,q1,q2,q3.of_block (hblk b q3.lt (q3.ne hrk (by decide)))⟩
 ·by_cases e1:i=k
  ·subst e1
   obtain ⟨g2,hA2,hr2⟩:=ho.resolve_left hl
   rw [hA] at hA2
   injection hA2 with hA2
   injection hA2 with hA2
   subst hA2
   simp only [if_true]
   rw [<- (e i).2] at hr2
   exact .inr ⟨gk,hA,hgB,hr2⟩
  ·simp only [if_neg e1]
   by_cases h0:(N' i).dn=0
   ·exact .inl h0
   ·obtain ⟨gi,hAi,hgi,hri⟩:=(h1.kids i hi).resolve_left h0
    refine .inr ⟨gi,hAi,hgi,hri.of_block (hblk gi hri.lt (fun q=>?_))⟩
    subst q
    exact h1.apartD i k hi hk e1 h0 hl' (by rw [hA,hAi])

def TnB (T g n:Nat) (N:Nat->Tn) (KA DA:Nat->Option Addr) (B:Nat):Prop:=
 B<=g/\g<T/\(∀i,i<n->(N i).kn≠0->∀b,(KA i).map (·.block)=some b->B<=b/\b<T)/\(∀i,i<n->(N i).dn≠0->∀b,(DA i).map (·.block)=some b->B<=b/\b<T)

theorem OwnTn.bound (h:OwnTn w B g n N KA DA KC DC):TnB w.heap.size g n N KA DA B:=by
 refine ⟨h.le,h.row.lt,fun i hi h0 b hb=>?_,fun i hi h0 b hb=>?_⟩
 ·obtain ⟨gi,hA,hgi,hri⟩:=(h.keys i hi).resolve_left h0
  rw [hA] at hb
  injection hb with hb
  subst hb
  exact ⟨hgi,hri.lt⟩
 ·obtain ⟨gi,hA,hgi,hri⟩:=(h.kids i hi).resolve_left h0
  rw [hA] at hb
  injection hb with hb
  subst hb
  exact ⟨hgi,hri.lt⟩
end

theorem sumT_le (N:Nat->Tn):∀(m j:Nat),j<=m->sumT N j<=sumT N m
 | 0,j,h=>by
  have:j=0:=by omega
  subst this
  exact Nat.le_refl _
 | m+1,j,h=>by
  by_cases e:j=m+1
  ·subst e;exact Nat.le_refl _
  ·have:=sumT_le N m j (by omega)
   have e2:sumT N (m+1)=sumT N m+(N m).kn+(N m).dn:=rfl
   omega

theorem markStrsI (x:Int) (a:Option Addr) (n c k:Nat) (hx:x=(k:Int)) (X:Nat->ByteArray) (w:World) (h:OwnV w 9 a n (fun i=>.string (X i))) (hk:1<=k) (hk2:k+n<=1073741824) :
  Calls Tryz.prog 112 #[.slice a n c,.int .i64 x] w fun e w'=>e=.returned (.int .i64 ((k+n:Nat):Int))/\w.grownBy w' (a.map (·.block))/\(n=0->w'=w)/\OwnV w' 9 a n (fun i=>.string (mkT (k+i))):=by
 subst hx;exact markStrs_any a n c k X w h hk hk2
theorem markIntsI (x:Int) (a:Option Addr) (n c k:Nat) (hx:x=(k:Int)) (X:Nat->Int) (w:World) (h:OwnV w 2 a n (fun i=>.int .i64 (X i))) (hk:1<=k) (hk2:k+n<=1073741824) :
  Calls Tryz.prog 19 #[.slice a n c,.int .i64 x] w fun e w'=>e=.returned (.int .i64 ((k+n:Nat):Int))/\w.grownBy w' (a.map (·.block))/\(n=0->w'=w)/\∃X' : Nat->Int,OwnV w' 2 a n (fun i=>.int .i64 (X' i)):=by
 subst hx;exact markInts_any a n c k X w h hk hk2

set_option maxHeartbeats 4000000 in
theorem markTNodeS_any (B T g n c k:Nat) (N:Nat->Tn) (KA DA:Nat->Option Addr) (KC DC:Nat->Nat) (w:World) (h:MTn w B g n N KA DA KC DC) (hT:TnB T g n N KA DA B) (hk:1<=k) (hk2:k+2*n+sumT N n<=1073741824) :
  Calls Tryz.prog 83 #[.slice (some ⟨g,0,none⟩) n c,.int .i64 (k:Int)] w fun e w'=>∃p:Nat,e=.returned (.int .i64 (p:Int))/\WiT B T w w'/\p=k+2*n+sumT N n:=by
 have HR:Hid (MTn w B g n N KA DA KC DC):=h
 have HT:Hid (TnB T g n N KA DA B):=hT
 clear h hT
 go_enter Tryz.func83,Tryz.ntmps83
 go_wp2
 go_loopw [1,5] (fun q i wr=>∃j p:Nat,j<=n/\i=.int .i64 j/\q=.int .i64 p/\p=k+2*j+sumT N j/\MTn wr B g n N KA DA KC DC/\WiT B T w wr) (fun _ i _=>n-(intOf i).toNat)
 case atStart=>exact ⟨0,k,Nat.zero_le _,rfl,rfl,rfl,HR.out,WiT.refl _ _ _⟩
 case round=>
  obtain ⟨j,p,hj,rfl,rfl,hp,hm,hw⟩:=hrel
  by_cases hlt:j<n
  ·have hsum:sumT N (j+1)=sumT N j+(N j).kn+(N j).dn:=rfl
   have hsl:=sumT_le N n (j+1) (by omega)
   have hp1:1<=p:=by omega
   have hjb:j<1073741824:=by omega
   obtain ⟨kn,hkn⟩:∃x,x=(N j).kn:=⟨_,rfl⟩
   obtain ⟨dn,hdn⟩:∃x,x=(N j).dn:=⟨_,rfl⟩
   have hp2:p+2+kn+dn<=1073741824:=by omega
   have HP:Hid (p+2+kn+dn=k+2*(j+1)+sumT N (j+1)):=by
    show p+2+kn+dn=k+2*(j+1)+sumT N (j+1)
    omega
   have HM:Hid (MTn wr B g n N KA DA KC DC/\WiT B T w wr):=⟨hm,hw⟩
   have HK:Hid (kn=(N j).kn/\dn=(N j).dn):=⟨hkn,hdn⟩
   obtain ⟨⟨b0,c0⟩,c1,c2,⟨x3,c3⟩,f0,f3,lg⟩:=hm.cells hlt
   rw [<- hkn] at c1
   rw [<- hdn] at c2
   have i0:(0:Int)<=(j:Int):=by omega
   have i1:(j:Int)<(n:Int):=by omega
   have HW1:Hid (∀v,MTn (wr.setCell ⟨g,j*4,none⟩ (.bool v)) B g n N KA DA KC DC/\WiT B T w (wr.setCell ⟨g,j*4,none⟩ (.bool v))):=fun v=>⟨HM.out.1.flag j v,HM.out.2.trans (WiT.grown (grown_set _ _ _ _) (fun b e=>by injection e with e;subst e;exact ⟨HT.out.1,HT.out.2.1⟩))⟩
   clear hsum hsl hp hm hw hkn hdn hk2
   go_wp2_with fail
   obtain ⟨X1,hX1⟩:=(HW1.out _).1.keysV hlt
   refine (markStrsI _ (KA j) kn (KC j) (p+1) (by go_num) X1 _ (by rw [HK.out.1];exact hX1) (by omega) (by omega)).mono ?_
   rintro e w1 ⟨rfl,hg1,hz1,ho1⟩
   have hK0:=HK.out
   have HW2:Hid (MTn w1 B g n N KA DA KC DC/\WiT B T w w1):=by
    have q1:=(HW1.out _).1.setKeys hlt _ hg1 (fun e=>hz1 (by rw [hK0.1];exact e)) (by rw [<- hK0.1];exact ho1)
    refine ⟨q1,(HW1.out ((p:Int) % 3 == 0)).2.trans ?_⟩
    by_cases h0:kn=0
    ·rw [hz1 h0];exact WiT.refl _ _ _
    ·exact WiT.grown hg1 (HT.out.2.2.1 j hlt (by rw [<- hK0.1];exact h0))
   clear hg1 hz1 ho1 hX1 X1 HW1 c0 c1 c2 c3 f0 f3 lg hK0
   obtain ⟨⟨b0',c0⟩,c1,c2,⟨x3',c3⟩,f0,f3,lg⟩:=HW2.out.1.cells hlt
   rw [<- HK.out.1] at c1
   rw [<- HK.out.2] at c2
   go_wp2_with fail
   obtain ⟨X2,hX2⟩:=HW2.out.1.kidsV hlt
   refine (markIntsI _ (DA j) dn (DC j) (p+1+kn) (by go_num) X2 _ (by rw [HK.out.2];exact hX2) (by omega) (by omega)).mono ?_
   rintro e w2 ⟨rfl,hg2,hz2,X3,ho2⟩
   have hK0:=HK.out
   have HW3:Hid (MTn w2 B g n N KA DA KC DC/\WiT B T w w2):=by
    have q1:=HW2.out.1.setKids hlt X3 hg2 (fun e=>hz2 (by rw [hK0.2];exact e)) (by rw [<- hK0.2];exact ho2)
    refine ⟨q1,HW2.out.2.trans ?_⟩
    by_cases h0:dn=0
    ·rw [hz2 h0];exact WiT.refl _ _ _
    ·exact WiT.grown hg2 (HT.out.2.2.2 j hlt (by rw [<- hK0.2];exact h0))
   clear hg2 hz2 ho2 hX2 X2 X3 HW2 c0 c1 c2 c3 f0 f3 lg hK0
   obtain ⟨⟨b0'',c0⟩,c1,c2,⟨x3'',c3⟩,f0,f3,lg⟩:=HW3.out.1.cells hlt
   have HW4:Hid (∀v,MTn (w2.setCell ⟨g,j*4+3,none⟩ (.int .i64 v)) B g n N KA DA KC DC/\WiT B T w (w2.setCell ⟨g,j*4+3,none⟩ (.int .i64 v))):=fun v=>⟨HW3.out.1.count j v,HW3.out.2.trans (WiT.grown (grown_set _ _ _ _) (fun b e=>by injection e with e;subst e;exact ⟨HT.out.1,HT.out.2.1⟩))⟩
   clear HW3 c0 c1 c2
   go_wp2
   go_roundw
   case rel=>exact ⟨j+1,p+2+kn+dn,by omega,by go_num,by go_num,HP.out,HW4.out _⟩
   case measure=>simp [intOf];omega
  ·have e:j=n:=by omega
   subst e
   have HM:Hid (WiT B T w wr/\p=k+2*j+sumT N j):=⟨hw,hp⟩
   clear hm hw hp
   go_wp2
   go_ret
   exact ⟨p,rfl,HM.out⟩

end Go.Proofs.YtpaomghibppgkaaGreat
