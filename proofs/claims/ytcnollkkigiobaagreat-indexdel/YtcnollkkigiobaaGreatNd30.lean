import Derived.Test.YtcnollkkigiobaaGreatNd26
import Derived.Test.YtcnollkkigiobaaGreatNd28
set_option linter.unusedVariables false
set_option maxRecDepth 100000
namespace Go.Proofs.YtcnollkkigiobaaGreat
open Go.RowKit Go.Deep

def RankC (w:World) (v:Value) (key:ByteArray) (r:Nat):Prop:=
 (∃p,v=.iface 204 (.pointer (some p))/\Calls Tryz.prog 206 #[.pointer (some p),.string key] w fun e w'=>e=.returned (.int .i64 (r:Int))/\w'=w)\/
 (∃p,v=.iface 174 (.pointer (some p))/\Calls Tryz.prog 189 #[.pointer (some p),.string key] w fun e w'=>e=.returned (.int .i64 (r:Int))/\w'=w)


def delK (key:ByteArray) (L:List ByteArray):List ByteArray:=L.filter (fun k=>!(k.toList == key.toList))
theorem delK_length (key:ByteArray) (L:List ByteArray):(delK key L).length<=L.length:=List.length_filter_le _ _
theorem delK_keep {key:ByteArray} {L:List ByteArray} {k:Nat} (h:k<L.length) (hq:((gt L k).toList == key.toList)=false):delK key (L.take (k+1))=delK key (L.take k)++[gt L k]:=by
 rw [List.take_add_one,List.getElem?_eq_getElem h]
 have e:gt L k=L[k]:=by unfold gt;rw [List.getD_eq_getElem?_getD,List.getElem?_eq_getElem h];rfl
 rw [e] at hq ⊢
 unfold delK
 rw [List.filter_append]
 simp [hq]
theorem delK_drop {key:ByteArray} {L:List ByteArray} {k:Nat} (h:k<L.length) (hq:((gt L k).toList == key.toList)=true):delK key (L.take (k+1))=delK key (L.take k):=by
 rw [List.take_add_one,List.getElem?_eq_getElem h]
 have e:gt L k=L[k]:=by unfold gt;rw [List.getD_eq_getElem?_getD,List.getElem?_eq_getElem h];rfl
 rw [e] at hq
 unfold delK
 rw [List.filter_append]
 simp [hq]

set_option maxHeartbeats 4000000 in
theorem del_leaf (d:Nat) (L:List ByteArray) (v:Value) (key:ByteArray) (S:Nat->Prop) (w:World) (hv:NG S w (d+1) (.inl L) v) (hL:L.length<=1000) :
  Calls Tryz.prog 88 #[v,.string key] w (RetG3 S w (d+1) (.inl (delK key L))):=by
 obtain ⟨ka,kc,ca,cc,rfl,hrd,⟨hcap1,hcap2⟩,hblk⟩:=hv
 obtain ⟨n,hn⟩:∃n,n=L.length:=⟨_,rfl⟩
 rw [<- hn] at hrd hcap1 hL ⊢
 have HRD:Hid (RdS w ka n (gt L)):=hrd
 have HLn:Hid (n=L.length):=hn
 obtain ⟨i9,hi9,hz0,hz1,hz2⟩:=info_parts Tryz.info9
 have HI:Hid (Tryz.prog.info? 9=some i9/\i9.zero=some (.string { data:=#[] })/\i9.size=1/\i9.bytes=16):=⟨hi9,hz0,hz1,hz2⟩
 clear hrd hn hblk hi9 hz0 hz1 hz2
 go_enter Tryz.func88,Tryz.ntmps88
 go_wp2
 have S0:Hid ((((w.alloc (.cells #[.bool true,.slice ka n kc,.slice ca 0 cc] 91)).alloc (.cells #[.bool false,.slice none 0 0,.slice none 0 0] 91)).alloc (.cells #[] 9)).ownsRow (w.heap.size+2) 9 1 (.slice (some ⟨w.heap.size+1+1,0,none⟩) 0 0) 0 (strL (delK key (L.take 0)))/\Bx (((w.alloc (.cells #[.bool true,.slice ka n kc,.slice ca 0 cc] 91)).alloc (.cells #[.bool false,.slice none 0 0,.slice none 0 0] 91)).alloc (.cells #[] 9)) w.heap.size 91 #[.bool true,.slice ka n kc,.slice ca 0 cc]/\Bx (((w.alloc (.cells #[.bool true,.slice ka n kc,.slice ca 0 cc] 91)).alloc (.cells #[.bool false,.slice none 0 0,.slice none 0 0] 91)).alloc (.cells #[] 9)) (w.heap.size+1) 91 #[.bool false,.slice none 0 0,.slice none 0 0]/\Below w.heap.size w (((w.alloc (.cells #[.bool true,.slice ka n kc,.slice ca 0 cc] 91)).alloc (.cells #[.bool false,.slice none 0 0,.slice none 0 0] 91)).alloc (.cells #[] 9))):=by
  refine ⟨by simpa [strL,delK] using own_empty ((w.alloc (.cells #[.bool true,.slice ka n kc,.slice ca 0 cc] 91)).alloc (.cells #[.bool false,.slice none 0 0,.slice none 0 0] 91)) 9 (w.heap.size+2) 1 (by simp),((Bx.new w _ _).alloc _).alloc _,?_,((below_alloc _ _).alloc (by simp) _).alloc (by simp;omega) _⟩
  have:=(Bx.new (w.alloc (.cells #[.bool true,.slice ka n kc,.slice ca 0 cc] 91)) #[.bool false,.slice none 0 0,.slice none 0 0] 91).alloc (.cells #[] 9)
  rw [World.size_alloc] at this
  exact this
 generalize ((w.alloc (.cells #[.bool true,.slice ka n kc,.slice ca 0 cc] 91)).alloc (.cells #[.bool false,.slice none 0 0,.slice none 0 0] 91)).alloc (.cells #[] 9)=W0 at S0 ⊢
 go_loopw [5,6] (fun q i wr=>∃(k m:Nat) (a:Option Addr) (c:Nat),k<=n/\m<=k/\i=.int .i64 k/\q=.slice a m c/\m=(delK key (L.take k)).length/\wr.ownsRow (w.heap.size+2) 9 1 (.slice a m c) m (strL (delK key (L.take k)))/\Bx wr w.heap.size 91 #[.bool true,.slice ka n kc,.slice ca 0 cc]/\Bx wr (w.heap.size+1) 91 #[.bool false,.slice none 0 0,.slice none 0 0]/\Below w.heap.size w wr) (fun _ i _=>n-(intOf i).toNat)
 case atStart=>exact ⟨0,0,_,0,Nat.zero_le _,Nat.zero_le _,rfl,rfl,by simp [delK],S0.out⟩
 case round=>
  obtain ⟨k,m,a,c,hk,hmk,rfl,rfl,h0,h1,h2,h3,h4⟩:=hrel
  have HST:Hid (m=(delK key (L.take k)).length/\wr.ownsRow (w.heap.size+2) 9 1 (.slice a m c) m (strL (delK key (L.take k)))/\Bx wr w.heap.size 91 #[.bool true,.slice ka n kc,.slice ca 0 cc]/\Bx wr (w.heap.size+1) 91 #[.bool false,.slice none 0 0,.slice none 0 0]/\Below w.heap.size w wr):=⟨h0,h1,h2,h3,h4⟩
  have x1:=h2.cell 1
  simp at x1
  have xz:=h2.lt
  have yz:=h3.lt
  clear h0 h1 h2 h3 h4 S0
  by_cases hlt:k<n
  ·obtain ⟨b,o,rfl,hc⟩:=(HRD.out.below HST.out.2.2.2.2:RdS wr ka n (gt L)).resolve_left (by omega)
   have s0:=hc k hlt
   have i0:(0:Int)<=(k:Int):=by omega
   have i1:(k:Int)<(n:Int):=by omega
   have hkl:k<L.length:=by rw [<- HLn.out];exact hlt
   have HKL:Hid (k<L.length):=hkl
   clear hc hkl
   cases hq:((gt L k).toList == key.toList) with
   | false=>
    have HO:Hid ((wr.alloc (.cells #[.string (gt L k)] 9)).ownsRow (w.heap.size+2) 9 1 (.slice a m c) m (strL (delK key (L.take k)))):=own_below HST.out.2.1 (below_alloc _ _)
    go_wp2_with (at_builtin;refine wpList_append_own_at _ rfl _ _ 88 rfl (w.heap.size+2) 9 i9 _ 1 16 Tryz.underlying88 HI.out.1 HI.out.2.1 HI.out.2.2.1 HI.out.2.2.2 rfl (by decide) (.slice a m c) m _ rfl HO.out ⟨wr.heap.size,0,none⟩ 1 1 [.string (gt L k)] rfl rfl (cell_one_new _ _ _) (by intro u hu;simp at hu;subst hu;rfl) (by unfold maxLen;omega) (by omega) (by simp;omega) ?_)
    intro v2 w2 ho2 hg2 _ hat2
    obtain ⟨a2,c2,rfl,_⟩:=own_form ho2
    have HX:Hid (m+1=(delK key (L.take (k+1))).length/\w2.ownsRow (w.heap.size+2) 9 1 (.slice a2 (m+1) c2) (m+1) (strL (delK key (L.take (k+1))))/\Bx w2 w.heap.size 91 #[.bool true,.slice (some ⟨b,o,none⟩) n kc,.slice ca 0 cc]/\Bx w2 (w.heap.size+1) 91 #[.bool false,.slice none 0 0,.slice none 0 0]/\Below w.heap.size w w2):=by
     have hst:=HST.out
     have hne:∀g,(Value.slice a m c).ownBlock=some g->w.heap.size+2<=g:=fun g e=>(own_lt hst.2.1 g e).1
     have hbA:Below w.heap.size w (wr.alloc (.cells #[.string (gt L k)] 9)):=hst.2.2.2.2.alloc hst.2.2.2.2.size _
     rw [delK_keep HKL.out hq]
     refine ⟨by rw [List.length_append,<- hst.1];rfl,by rw [strL_app];exact ho2,(hst.2.2.1.alloc _).grown hg2 (fun e=>by have:=hne _ e;omega),(hst.2.2.2.1.alloc _).grown hg2 (fun e=>by have:=hne _ e;omega),hbA.grown hg2 (by simp;omega) (fun g e=>by have:=hne g e;omega)⟩
    clear ho2 hg2 hat2 HO s0 x1
    go_wp2
    go_roundw
    case rel=>exact ⟨k+1,m+1,a2,c2,by omega,by omega,by go_num,rfl,HX.out⟩
    case measure=>simp [intOf];omega
   | true=>
    have HX:Hid (m=(delK key (L.take (k+1))).length/\wr.ownsRow (w.heap.size+2) 9 1 (.slice a m c) m (strL (delK key (L.take (k+1))))/\Bx wr w.heap.size 91 #[.bool true,.slice (some ⟨b,o,none⟩) n kc,.slice ca 0 cc]/\Bx wr (w.heap.size+1) 91 #[.bool false,.slice none 0 0,.slice none 0 0]/\Below w.heap.size w wr):=by
     rw [Hid,delK_drop HKL.out hq]
     exact HST.out
    go_wp2
    go_roundw
    case rel=>exact ⟨k+1,m,a,c,by omega,by omega,by go_num,rfl,HX.out⟩
    case measure=>simp [intOf];omega
  ·have i1:¬ (k:Int)<(n:Int):=by omega
   have i1d:decide ((k:Int)<(n:Int))=false:=decide_eq_false i1
   have HF:Hid (m=(delK key L).length/\wr.ownsRow (w.heap.size+2) 9 1 (.slice a m c) m (strL (delK key L))/\Below w.heap.size w wr):=by
    have hst:=HST.out
    have e:L.take k=L:=List.take_of_length_le (by rw [<- HLn.out];omega)
    rw [e] at hst
    exact ⟨hst.1,hst.2.1,hst.2.2.2.2⟩
   have hbx:=HST.out.2.2.2.1
   have r0:=hbx.cell 0
   have r1:=hbx.cell 1
   have r2:=hbx.cell 2
   simp at r0 r1 r2
   have hf:=fun i=>hbx.frozen i
   clear hbx
   go_wp2
   refine bodyPost_ret (v:=.agg #[.bool true,.slice a m c,.slice none 0 0]) (by simp [results,Tryz.results88,go_sem,r0,r1,r2]) rfl ⟨set3_below HF.out.2.2 _ (by omega) _ _ _,_,_,_,_,_,_,_,rfl,a,c,none,0,by rw [HF.out.1],?_⟩
   rw [<- HF.out.1]
   refine (ks_ownL (S:=fun b=>w.heap.size+2<=b) HF.out.2.1 HF.out.1 (fun b hb=>hb)).keep (by rw [set3_size];exact Nat.le_refl _) (fun b hb _=>⟨Or.inr (by omega),set3_block _ _ _ _ _ _ (by omega)⟩)
end Go.Proofs.YtcnollkkigiobaaGreat
