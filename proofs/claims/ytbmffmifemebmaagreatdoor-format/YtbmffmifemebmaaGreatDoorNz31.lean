import Derived.Test.YtbmffmifemebmaaGreatDoorNz30
import Derived.Test.YtbmffmifemebmaaGreatDoorIter
set_option linter.unusedVariables false
set_option maxRecDepth 100000
namespace Go.Proofs.YtbmffmifemebmaaGreatDoor
open Go.RowKit Go.Deep Go.MapKept Go.ChangeMaps

set_option maxHeartbeats 2000000 in
theorem readSnapshot_e (g c:Nat) (w:World) (hc:9<=c/\c<=9223372036854775807) (hrd:∀j,j<9->w.cell? ⟨g,j,none⟩=some (.int .u8 (pay9 j))) :
  Calls Tryz.prog 108 #[.slice (some ⟨g,0,none⟩) 9 c] w fun e w'=>(∃wb t m1 m2 x p A,e=.returned (.tuple #[.pointer (some ⟨wb,0,none⟩),.nilIface])/\WdE w' wb t m1 m2 x p A)/\Below w.heap.size w w':=by
 have HP:Hid (PR (w.alloc (.cells #[.slice (some ⟨g,0,none⟩) 9 c,.bool false] 256)) w.heap.size g 0 9 c):=
  ⟨Bx.new _ _ _,hc,World.block_lt_of_cell? _ _ (hrd 0 (by omega)),fun j hj=>by
   rw [Nat.zero_add,(below_alloc _ _).cell (p:=⟨g,j,none⟩) (World.block_lt_of_cell? _ _ (hrd j hj))]
   exact hrd j hj⟩
 clear hrd hc
 go_enter Tryz.func108,Tryz.ntmps108
 go_wp2_with fail
 refine (number_e w.heap.size g 0 9 c 1 _ _ HP.out rfl (by omega) (by omega) (by omega)).mono ?_
 rintro e w1 ⟨rfl,ht⟩
 rw [show getN pay9 0 1=83 from rfl]
 have H1:Hid (PR w1 w.heap.size g 1 8 (c-1)/\Below w.heap.size w w1):=⟨ht.2.1 (by omega),(below_alloc _ _).trans ht.2.2.1⟩
 clear ht HP
 go_wp2_with fail
 refine (dict_e w.heap.size g (c-1) w1 H1.out.1).mono ?_
 rintro e w2 ⟨rfl,hpr,hb2⟩
 have H2:Hid (PR w2 w.heap.size g 7 2 (c-1-4-2)/\Below w.heap.size w w2):=⟨hpr,H1.out.2.trans hb2⟩
 clear hpr hb2 H1
 go_upto_region 4 with fail
 have S3:Hid (PR (w2.alloc (.cells #[.int .i64 1,.slice none 0 0] 30)) w.heap.size g 7 2 (c-1-4-2)/\Bx (w2.alloc (.cells #[.int .i64 1,.slice none 0 0] 30)) w2.heap.size 30 #[.int .i64 1,.slice none 0 0]/\Below w.heap.size w (w2.alloc (.cells #[.int .i64 1,.slice none 0 0] 30))/\w.heap.size<w2.heap.size):=
  ⟨H2.out.1.below (below_alloc _ _),Bx.new _ _ _,H2.out.2.alloc H2.out.2.size _,H2.out.1.bx.lt⟩
 clear H2
 generalize (w2.alloc (.cells #[.int .i64 1,.slice none 0 0] 30))=W3 at S3 ⊢
 generalize w2.heap.size=db at S3 ⊢
 go_wp2_with fail
 refine (quadsR_e w.heap.size g _ W3 S3.out.1).mono ?_
 rintro e w4 ⟨rfl,a4,c4,hw4,hbx⟩
 have H4:Hid (Bx w4 w.heap.size 256 #[.slice a4 0 c4,.bool false]/\Below w.heap.size w w4/\w.heap.size<db/\db<w4.heap.size):=by
  refine ⟨hbx,?_,S3.out.2.2.2,?_⟩
  ·subst hw4;exact S3.out.2.2.1.setCell (by simp) _
  ·subst hw4;simpa [World.setCell] using S3.out.2.1.lt
 have HD:Hid (Bx w4 db 30 #[.int .i64 1,.slice none 0 0]):=by
  have:=S3.out.2.2.2
  subst hw4
  exact S3.out.2.1.other (by simp;omega) _
 clear hbx hw4
 go_wp2_with fail
 refine (ended_e w.heap.size a4 c4 w4 H4.out.1).mono ?_
 rintro e w5 ⟨rfl,hw⟩
 subst hw
 have d0:=HD.out.cell 0
 have d1:=HD.out.cell 1
 simp at d0 d1
 have HX:Hid (∀W:World,Below w5.drew.heap.size w5.drew W->W.cell? ⟨db,0,none⟩=some (.int .i64 1)/\W.cell? ⟨db,1,none⟩=some (.slice none 0 0)/\Below w.heap.size w W):=fun W hW=>
  ⟨(hW.cell (p:=⟨db,0,none⟩) H4.out.2.2.2).trans d0,(hW.cell (p:=⟨db,1,none⟩) H4.out.2.2.2).trans d1,H4.out.2.1.drew.trans (hW.mono H4.out.2.1.size)⟩
 go_wp2
 go_region_held3 (fun w'=>w'.cell? ⟨db,0,none⟩=some (.int .i64 1)/\w'.cell? ⟨db,1,none⟩=some (.slice none 0 0)) (go_keep)
  (first
  | (go_at_call 17;refine (implIx w5.drew).mono ?_;rintro e w6 ⟨gi,ci,G,C,Aa,rfl,hix,hb6⟩;obtain ⟨q0,q1,-⟩:=HX.out w6 hb6)
  | (go_at_call 167;refine (readWorld_e gi ci _ G C Aa w6 hix).mono ?_;rintro e w7 ⟨⟨wb,t,m1,m2,x,p,A,rfl,hwd⟩,hb7⟩;obtain ⟨r0,r1,hbw⟩:=HX.out w7 (hb6.trans (hb7.mono hb6.size)))
  | fail)
 have H7:Hid (WdE w7 wb t m1 m2 x p A/\Below w.heap.size w w7):=⟨hwd,hbw⟩
 clear hwd hbw hix hb6 hb7 q0 q1 r0 r1 d0 d1 HX HD H4 S3
 go_wp2_with fail
 refine (fill_e wb t m1 m2 x p A w7 H7.out.1).mono ?_
 rintro e w8 ⟨rfl,hb8⟩
 have H8:Hid (WdE w8 wb t m1 m2 x p A/\Below w.heap.size w w8):=⟨H7.out.1.below hb8,H7.out.2.trans (hb8.mono H7.out.2.size)⟩
 clear hb8 H7
 go_wp2_with fail
 refine (fits_e wb t m1 m2 x p A w8 H8.out.1).mono ?_
 rintro e w9 ⟨rfl,hw9⟩
 subst hw9
 go_wp2_with fail
 refine (isCounted_e wb t m1 m2 x p A w9 H8.out.1).mono ?_
 rintro e w10 ⟨rfl,hb10⟩
 have H10:Hid (WdE w10 wb t m1 m2 x p A/\Below w.heap.size w w10):=⟨H8.out.1.below hb10,H8.out.2.trans (hb10.mono H8.out.2.size)⟩
 clear hb10 H8
 go_wp2
 exact bodyPost_ret (v:=.tuple #[.pointer (some ⟨wb,0,none⟩),.nilIface]) (by simp [results,Tryz.results108,go_sem]) rfl ⟨⟨wb,t,m1,m2,x,p,A,rfl,H10.out.1⟩,H10.out.2⟩
end Go.Proofs.YtbmffmifemebmaaGreatDoor
namespace Go.Proofs.YtbmffmifemebmaaGreatDoor
open Go.RowKit Go.Deep Go.MapKept Go.ChangeMaps

theorem step_f1 {ops:Array Oper} {o:Oper} {a:Act} {w:World} {K:Act->World->Prop} {Q:Exit->Act->World->Prop} {E:Prop} (hgd:o.guard=none) (k:Nat) (i:Nat) (tys:Array TypeId)
  (ho:o.op=.call { callee:=.value (.func k),args:=#[.tmp i],argTypes:=tys }) (u:Value) (hx:a.tmps[i]?.getD undef=u) (heg:∀args w,(callFunc k args).run Tryz.prog w=.ok (.enter k args) w)
  (h:Calls Tryz.prog k #[u] w fun e w'=>∃r,e=.returned r/\K (a.put o.dst r) w') :
  if Region.wanted o (yielded ops a.tmps)=true then Oper.wp Tryz.prog o a w K Q else E:=by
 have hw:Region.wanted o (yielded ops a.tmps)=true:=by simp [Region.wanted,hgd]
 rw [if_pos hw]
 unfold Oper.wp
 simp [execOp,ho,resolve,invoke,hx,go_sem,heg]
 refine h.mono ?_
 rintro e w' ⟨u,rfl,hk⟩
 exact hk

set_option maxHeartbeats 4000000 in
theorem tellIx_e (x:Nat) (p:Nat->Nat) (A:Array Value) (w:World) (h:Six w 0 x p A 6) :
  Calls Tryz.prog 114 #[.pointer (some ⟨x,0,none⟩)] w (RetIx w):=by
 have HX:Hid (Six w 0 x p A 6):=h
 have xl:=h.bx.lt
 clear h
 go_enter Tryz.func114,Tryz.ntmps114
 go_wp2
 go_loopw [5,8] (fun _ i wr=>∃(k:Nat) (v:Value) (G C:Nat->Nat) (A:Nat->Option Addr),k<=6/\i=.int .i64 k/\IxSt w wr k v G C A) (fun _ i _=>6-(intOf i).toNat)
 case atStart=>exact ⟨0,_,fun _=>0,fun _=>0,fun _=>none,by omega,rfl,IxSt.start w⟩
 case round=>
  obtain ⟨k,v,G,C,Ad,hk,rfl,hst⟩:=hrel
  by_cases hlt:k<6
  ·have hki:(k:Int)<6:=by omega
   have hk0:(0:Int)<=(k:Int):=by omega
   have HS:Hid (IxSt w wr k v G C Ad):=hst
   have HXr:Hid (Six wr 0 x p A 6):=HX.out.below hst.below
   have a0:=(HXr.out.bx.cell (k*2)).trans (HXr.out.fn k hlt)
   have a1:=(HXr.out.bx.cell (k*2+1)).trans (HXr.out.rt k hlt)
   have xlr:=HXr.out.bx.lt
   obtain ⟨O,hO⟩:∃O:Obj,O=.cells #[.func (.func (layF k)) #[] #[],.iface 154 (.pointer (some ⟨p k,0,none⟩))] 172:=⟨_,rfl⟩
   have bc0:wr.cell? ⟨w.heap.size+1,0,none⟩=some v:=hst.boxCell
   have bz0:w.heap.size+1<wr.heap.size:=World.block_lt_of_cell? _ _ bc0
   have bc:(wr.alloc O).drew.cell? ⟨w.heap.size+1,0,none⟩=some v:=((below_alloc wr O).drew.cell (p:=⟨w.heap.size+1,0,none⟩) bz0).trans bc0
   have bz:w.heap.size+1<(wr.alloc O).drew.heap.size:=World.block_lt_of_cell? _ _ bc
   have qc:(wr.alloc O).drew.cell? ⟨wr.heap.size,1,none⟩=some (.iface 154 (.pointer (some ⟨p k,0,none⟩))):=by
    have:=(Bx.new wr #[.func (.func (layF k)) #[] #[],.iface 154 (.pointer (some ⟨p k,0,none⟩))] 172).cell 1
    rw [hO]
    exact this
   have qz:wr.heap.size<(wr.alloc O).drew.heap.size:=by simp
   have HTN:Hid (Calls Tryz.prog 97 #[.iface 154 (.pointer (some ⟨p k,0,none⟩))] (wr.alloc O).drew fun e w'=>(∃v,e=.returned (.agg #[v])/\OneS w' (wr.alloc O).drew.heap.size v)/\Below (wr.alloc O).drew.heap.size (wr.alloc O).drew w'):=by
    have hb:=((HXr.out.lf k hlt).1.alloc O).drew
    exact tellTree_new (p k) _ (hb.cell 0) (hb.cell 1)
   have HBW:Hid (∀w2:World,Below (wr.alloc O).drew.heap.size (wr.alloc O).drew w2->Below wr.drew.heap.size wr.drew w2):=fun w2 hb=>by
    have h1:Below wr.heap.size wr (wr.alloc O).drew:=(below_alloc wr O).drew
    have h2:Below wr.heap.size wr w2:=h1.trans (hb.mono h1.size)
    exact ⟨h2.os,h2.tape,h2.output,h2.size,h2.block⟩
   have HZ:Hid (w.heap.size+2<=wr.heap.size):=by show _<=_;omega
   have HT:Hid (∀(w2:World),Below wr.drew.heap.size wr.drew w2->∀O,(w2.alloc O).ownsRow (w.heap.size+2) 69 1 v k ((List.range k).map fun i=>.slice (some ⟨G i,0,none⟩) 1 (C i))):=fun w2 hb O=>hst.rowLater hb O
   have HK:Hid (∀(w2 w4:World),Below wr.drew.heap.size wr.drew w2->∀O,(w2.alloc O).grownBy w4 v.ownBlock->w4.cell? ⟨w.heap.size+1,0,none⟩=some v/\w4.frozen? ⟨w.heap.size+1,0,none⟩=false):=fun w2 w4 hb O hg=>hst.boxLater hb O hg
   have HNB:Hid (∀w2:World,Below wr.drew.heap.size wr.drew w2->v.ownBlock≠some wr.heap.size):=fun w2 _ e=>by
    obtain ⟨cur,fr,hh⟩:=hst.own _ e
    have:=(Array.getElem?_eq_some_iff.1 hh).1
    omega
   clear hst
   go_upto_region 5 with fail
   rw [<- hO]
   have HO:Hid (O=.cells #[.func (.func (layF k)) #[] #[],.iface 154 (.pointer (some ⟨p k,0,none⟩))] 172):=hO
   clear hO a0 a1
   refine wp_region_late (S:=(fun w'=>w'.cell? ⟨w.heap.size+1,0,none⟩=some v/\w'.cell? ⟨wr.heap.size,1,none⟩=some (.iface 154 (.pointer (some ⟨p k,0,none⟩))))) 8 (by kernel_rfl) ?_ (fun hHeld=>?_)
   ·((try dsimp only);go_keep)
   refine tk 0 .zero (v:=?_) ?_ ?_
   rotate_left
   ·(intro w h;(try dsimp only at h);go_simp) <;> with_reducible rfl
   simp only [tkp]
   refine tk 1 (.succ .zero) (v:=?_) ?_ ?_
   rotate_left
   ·(intro w h;(try dsimp only at h);go_simp) <;> with_reducible rfl
   simp only [tkp]
   refine tk 2 (.succ (.succ .zero)) (v:=?_) ?_ ?_
   rotate_left
   ·(intro w h;(try dsimp only at h);go_simp) <;> with_reducible rfl
   simp only [tkp]
   refine tk 3 (.succ (.succ (.succ .zero))) (v:=?_) ?_ ?_
   rotate_left
   ·(intro w h;(try dsimp only at h);go_simp) <;> with_reducible rfl
   simp only [tkp]
   refine tk1 4 (.succ (.succ (.succ (.succ .zero)))) (fun K hK=>?_)
   (refine step_f1 (by rfl) 97 16 _ (by rfl) _ (by rfl) (fun _ _=>rfl) ?_;refine HTN.out.mono ?_;rintro e w2 ⟨⟨u,rfl,hu⟩,hb2⟩;refine ⟨_,rfl,?_⟩;have yb2:w2.cell? ⟨w.heap.size+1,0,none⟩=some v:=(hb2.cell (p:=⟨w.heap.size+1,0,none⟩) bz).trans bc;have yq2:w2.cell? ⟨wr.heap.size,1,none⟩=some (.iface 154 (.pointer (some ⟨p k,0,none⟩))):=(hb2.cell (p:=⟨wr.heap.size,1,none⟩) qz).trans qc;obtain ⟨g2,a2,c2,rfl,hg2,hr2⟩:=hu)
   refine hK.out _ _ ?_ (fun hG=>?_)
   ·(intro _;(try dsimp only);go_keep)
   clear hK K
   replace hHeld:=hG (by decide)
   clear hG
   try simp only [tkp]
   refine tk1 5 (.s5 .zero) (fun K hK=>?_)
   (refine step_bslice (by rfl) (by rfl) (by rfl) ?_;have yb3:(w2.alloc (.cells #[.slice (some ⟨g2,0,none⟩) 1 c2] 69)).cell? ⟨w.heap.size+1,0,none⟩=some v:=((below_alloc _ _).cell (p:=⟨w.heap.size+1,0,none⟩) (World.block_lt_of_cell? _ _ yb2)).trans yb2;have yq3:(w2.alloc (.cells #[.slice (some ⟨g2,0,none⟩) 1 c2] 69)).cell? ⟨wr.heap.size,1,none⟩=some (.iface 154 (.pointer (some ⟨p k,0,none⟩))):=((below_alloc _ _).cell (p:=⟨wr.heap.size,1,none⟩) (World.block_lt_of_cell? _ _ yq2)).trans yq2)
   refine hK.out _ _ ?_ (fun hG=>?_)
   ·(intro _;(try dsimp only);go_keep)
   clear hK K
   replace hHeld:=hG (by decide)
   clear hG
   try simp only [tkp]
   refine tk1 6 (.s5 (.succ .zero)) (fun K hK=>?_)
   (refine step_append_tree (by rfl) (.tmp 14) (.tmp 18) (by rfl) (w.heap.size+2) k v _ (by rfl) (HT.out w2 (HBW.out w2 hb2) _) w2.heap.size 1 _ (by rfl) (cellOf0 (blk_alloc_new _ _)) rfl (by omega) (by have:=hb2.size;have h9:=HZ.out;simp at this ⊢;omega) ?_;intro v' w4 hown4 hgr4;obtain ⟨g4,c4,rfl⟩:=ownsRow_form1 hown4 (by omega);obtain ⟨yb4,yf4⟩:=HK.out w2 w4 (HBW.out w2 hb2) _ hgr4;have yq4:w4.cell? ⟨wr.heap.size,1,none⟩=some (.iface 154 (.pointer (some ⟨p k,0,none⟩))):=(World.cell?_of_block (hgr4.block wr.heap.size (by have q9:wr.heap.size<w2.heap.size:=World.block_lt_of_cell? _ _ yq2;simp;omega) (fun e=>HNB.out _ (HBW.out w2 hb2) e.symm))).trans yq3)
   refine hK.out _ _ ?_ (fun hG=>?_)
   ·(intro _;(try dsimp only);go_keep)
   clear hK K
   replace hHeld:=hG (by decide)
   clear hG
   try simp only [tkp]
   refine tk1 7 (.s5 (.succ (.succ .zero))) (fun K hK=>?_)
   go_simp
   refine hK.out _ _ ?_ (fun hG=>?_)
   ·(intro _;(try dsimp only);go_keep)
   clear hK K
   replace hHeld:=hG (by decide)
   clear hG
   try simp only [tkp]
   refine tk1 8 (.s5 (.succ (.succ (.succ .zero)))) (fun K hK=>?_)
   go_simp
   refine hK.out _ _ ?_ (fun hG=>?_)
   ·(intro hne;exact absurd rfl hne)
   clear hK K hG
   refine wpLate_done (by kernel_rfl) ?_ _
   have HN:Hid (IxSt w (w4.setCell ⟨w.heap.size+1,0,none⟩ (.slice (some ⟨g4,0,none⟩) (k+1) c4)) (k+1) (.slice (some ⟨g4,0,none⟩) (k+1) c4) (fun i=>if i=k then g2 else G i) (fun i=>if i=k then c2 else C i) (fun i=>if i=k then a2 else Ad i)):=HS.out.step (HBW.out w2 hb2) (by have:wr.heap.size<=(wr.alloc O).drew.heap.size:=(by simp);exact Nat.le_trans this hg2) hr2 hgr4 hown4
   clear hr2 hb2 hown4 hgr4 HT HK HS yb2 yb3 yb4 yf4 bc bc0 yq2 yq3 yq4
   go_wp2
   go_roundw
   case rel=>exact ⟨k+1,_,_,_,_,by omega,by go_num,HN.out⟩
   case measure=>simp [intOf];omega
  ·have e:k=6:=by omega
   subst e
   obtain ⟨g6,c6,rfl⟩:=ownsRow_form1 hst.row (by omega)
   obtain ⟨x0,x1,xf,xz,HR⟩:=hst.done
   have HRR:Hid (∀u,RetIx w (.returned (.agg #[.slice (some ⟨g6,0,none⟩) 6 c6])) (wr.setCell ⟨w.heap.size,0,none⟩ u)):=HR
   clear HR hst
   go_wp2
   refine bodyPost_ret (v:=.agg #[.slice (some ⟨g6,0,none⟩) 6 c6]) (by simp [results,Tryz.results114,go_sem,x1]) rfl (HRR.out _)
end Go.Proofs.YtbmffmifemebmaaGreatDoor
namespace Go.Proofs.YtbmffmifemebmaaGreatDoor
open Go.RowKit Go.Deep Go.MapKept Go.ChangeMaps

set_option maxHeartbeats 1000000 in
theorem tellTb_e (t m1 m2:Nat) (w:World) (h:TbE w t m1 m2) :
  Calls Tryz.prog 113 #[.pointer (some ⟨t,0,none⟩)] w fun e w'=>e=.returned (.agg #[.int .i64 1,.slice none 0 0])/\Below w.heap.size w w':=by
 have HT:Hid (TbE w t m1 m2):=h
 have t0:=h.bx.cell 0
 have t1:=h.bx.cell 1
 have tl:=h.bx.lt
 simp at t0 t1
 have HK:Hid (∀W:World,Calls Tryz.prog 175 #[.map (some m1)] W fun e w'=>e=.returned (.func (.func 218) #[] #[.pointer (some ⟨W.heap.size,0,none⟩)])/\w'=W.alloc (.cells #[.map (some m1)] 275)):=fun W=>mkeys_Mstring_pTerm_string_pTerm (some m1) W
 have HS:Hid (∀W:World,W.heap[m1]?=some (.map #[] 0)->Calls Tryz.prog 174 #[.func (.func 218) #[] #[.pointer (some ⟨W.heap.size,0,none⟩)]] (W.alloc (.cells #[.map (some m1)] 275)) fun e w'=>(∃a c,e=.returned (.slice a 0 c))/\Below W.heap.size W w'):=fun W hW=>by
  refine (sorted_Mstring_pTerm_string_pTerm m1 0 (.map []) noR W (ownsNone 9 hW) (by simp [Maps.size]) (by simp [Maps.size])).mono ?_
  rintro e w' ⟨v,ss,rfl,hp,hrow,hnil,hb⟩
  have e0:ss=[]:=List.Perm.eq_nil hp
  subst e0
  have:=hnil.2 rfl
  subst this
  exact ⟨⟨_,_,rfl⟩,(below_alloc _ _).trans (hb.mono (by simp))⟩
 clear h
 go_enter Tryz.func113,Tryz.ntmps113
 go_upto_region 2 with fail
 have S2:Hid (Bx ((w.alloc (.cells #[.int .i64 0,.slice none 0 0] 30)).alloc (.cells #[.int .i64 1,.slice none 0 0] 30)) w.heap.size 30 #[.int .i64 0,.slice none 0 0]/\Bx ((w.alloc (.cells #[.int .i64 0,.slice none 0 0] 30)).alloc (.cells #[.int .i64 1,.slice none 0 0] 30)) (w.heap.size+1) 30 #[.int .i64 1,.slice none 0 0]/\TbE ((w.alloc (.cells #[.int .i64 0,.slice none 0 0] 30)).alloc (.cells #[.int .i64 1,.slice none 0 0] 30)) t m1 m2/\Below w.heap.size w ((w.alloc (.cells #[.int .i64 0,.slice none 0 0] 30)).alloc (.cells #[.int .i64 1,.slice none 0 0] 30))):=by
  have b1:=Bx.new (w.alloc (.cells #[.int .i64 0,.slice none 0 0] 30)) #[.int .i64 1,.slice none 0 0] 30
  simp only [World.size_alloc] at b1
  have hb:Below w.heap.size w ((w.alloc (.cells #[.int .i64 0,.slice none 0 0] 30)).alloc (.cells #[.int .i64 1,.slice none 0 0] 30)):=(below_alloc _ _).alloc (by simp) _
  exact ⟨(Bx.new _ _ _).alloc _,b1,HT.out.below hb,hb⟩
 clear t0 t1 tl HT
 generalize ((w.alloc (.cells #[.int .i64 0,.slice none 0 0] 30)).alloc (.cells #[.int .i64 1,.slice none 0 0] 30))=W2 at S2 ⊢
 have t1:=S2.out.2.2.1.bx.cell 1
 have tl:=S2.out.2.2.1.bx.lt
 simp at t1
 go_wp2_with fail
 refine (HK.out W2).mono ?_
 rintro e w3 ⟨rfl,hw3⟩
 subst hw3
 go_wp2_with fail
 refine (HS.out W2 S2.out.2.2.1.m1).mono ?_
 rintro e w4 ⟨⟨a4,c4,rfl⟩,hb4⟩
 have S4:Hid (Bx w4 w.heap.size 30 #[.int .i64 0,.slice none 0 0]/\Bx w4 (w.heap.size+1) 30 #[.int .i64 1,.slice none 0 0]/\Below w.heap.size w w4):=
  ⟨S2.out.1.below hb4,S2.out.2.1.below hb4,S2.out.2.2.2.trans (hb4.mono S2.out.2.2.2.size)⟩
 clear hb4 S2 t1 tl HK HS
 have d0:=S4.out.2.1.cell 0
 have d1:=S4.out.2.1.cell 1
 have e0:=S4.out.1.cell 0
 have e1:=S4.out.1.cell 1
 have ef:=S4.out.1.frozen
 have el:=S4.out.1.lt
 simp at d0 d1 e0 e1
 go_wp2
 refine wp_loop_rounds 1 ?_
 rw [rounds_succ]
 go_wp2
 exact bodyPost_ret (v:=.agg #[.int .i64 1,.slice none 0 0]) (by simp [results,Tryz.results113,go_sem,e0,e1]) rfl ⟨rfl,(S4.out.2.2.setCell (by simp) _).setCell (by simp) _⟩
end Go.Proofs.YtbmffmifemebmaaGreatDoor
