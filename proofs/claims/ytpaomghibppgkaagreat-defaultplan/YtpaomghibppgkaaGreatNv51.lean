import Derived.Test.YtpaomghibppgkaaGreatNv50
import Derived.BigQuiet
set_option linter.unusedVariables false
set_option maxRecDepth 100000
namespace Go.Proofs.YtpaomghibppgkaaGreat
open Go.RowKit Go.Deep
set_option linter.unusedSimpArgs false

theorem late_2 {l:List Oper} {P:Program} {Q:Exit->Act->World->Prop} {S:World->Prop} {late:Nat} (i j:Nat) {oi oj:Oper} (hpi:Pick i l oi) (hpj:Pick j l oj) {fuel:Nat} {listed:Array Bool} {a:Act} {w:World} (hr:Region.ready .any l.toArray listed=[i,j])
  (hi:∀K' : Act->World->Prop,Shut (∀a w,(i≠late->S w)->((i≠late->S w)->wpLate P .any l.toArray Q S late fuel (listed.setIfInBounds i true) a w)->K' a w)->if Region.wanted oi (yielded l.toArray a.tmps)=true then Oper.wp P oi a w K' Q else K' (a.put oi.dst undef) w)
  (hj:∀K' : Act->World->Prop,Shut (∀a w,(j≠late->S w)->((j≠late->S w)->wpLate P .any l.toArray Q S late fuel (listed.setIfInBounds j true) a w)->K' a w)->if Region.wanted oj (yielded l.toArray a.tmps)=true then Oper.wp P oj a w K' Q else K' (a.put oj.dst undef) w) :
  wpLate P .any l.toArray Q S late (fuel+1) listed a w:=
 ⟨fun h0=>(by rw [hr] at h0;cases h0),fun k hk=>by
  rw [hr] at hk
  simp only [List.mem_cons,List.not_mem_nil,or_false] at hk
  rcases hk with rfl|rfl
  ·exact wpOp_step hpi.get (fun K' hK=>hi K' (fun a w hS hW=>hK a w ⟨hS,hW hS⟩))
  ·exact wpOp_step hpj.get (fun K' hK=>hj K' (fun a w hS hW=>hK a w ⟨hS,hW hS⟩))⟩
def TidI (w:World) (tb:Nat) (id:ByteArray->Int):Prop:=∀V x,Below w.heap.size w V->Calls Tryz.prog 107 #[.pointer (some ⟨tb,0,none⟩),.string x] V fun e w'=>e=.returned (.int .i64 (id x))/\Below V.heap.size V w'
structure PtS (w W:World) (k:Int) (s t:ByteArray) (b:Bool) (l:ByteArray) (oa:Option Addr) (ol oc:Nat) (h:Int):Prop where
 pb:Bx W w.heap.size 88 #[.int .i64 k,.string s,.string t,.bool b,.string l,.slice oa ol oc,.int .i64 h]
 qb:Bx W (w.heap.size+1) 122 #[.int .i64 0,.int .i64 0,.int .i64 0,.int .i64 0]
 bel:Below w.heap.size w W
theorem PtS.keep {w W W' : World} {k:Int} {s t:ByteArray} {b:Bool} {l:ByteArray} {oa:Option Addr} {ol oc:Nat} {h:Int} (q:PtS w W k s t b l oa ol oc h) (hb:Below W.heap.size W W'):PtS w W' k s t b l oa ol oc h:=
 ⟨(hb.block _ q.pb.lt).trans q.pb,(hb.block _ q.qb.lt).trans q.qb,q.bel.trans (hb.mono q.bel.size)⟩
theorem PtS.cells {w W:World} {k:Int} {s t:ByteArray} {b:Bool} {l:ByteArray} {oa:Option Addr} {ol oc:Nat} {h:Int} (q:PtS w W k s t b l oa ol oc h):W.cell? ⟨w.heap.size,0,none⟩=some (.int .i64 k)/\W.cell? ⟨w.heap.size,1,none⟩=some (.string s)/\W.cell? ⟨w.heap.size,2,none⟩=some (.string t):=by
 have p0:=q.pb.cell 0
 have p1:=q.pb.cell 1
 have p2:=q.pb.cell 2
 simp at p0 p1 p2
 exact ⟨p0,p1,p2⟩
theorem bx_set {W:World} {b:Nat} {t:TypeId} {c d:Array Value} {i:Nat} {v:Value} (h:Bx W b t c) (e:c.setIfInBounds i v=d):Bx (W.setCell ⟨b,i,none⟩ v) b t d:=by
 unfold Bx at h ⊢
 rw [<- e]
 simp [World.setCell,Array.getElem?_modify,h]
theorem pt_store {W:World} {b:Nat} {is it:Int} (h:Bx W b 122 #[.int .i64 0,.int .i64 0,.int .i64 0,.int .i64 0]):Bx ((((W.setCell ⟨b,0,none⟩ (.int .i64 0)).setCell ⟨b,1,none⟩ (.int .i64 is)).setCell ⟨b,2,none⟩ (.int .i64 it)).setCell ⟨b,3,none⟩ (.int .i64 0)) b 122 #[.int .i64 0,.int .i64 is,.int .i64 it,.int .i64 0]:=
 bx_set (bx_set (bx_set (bx_set h rfl) rfl) rfl) rfl
theorem PtS.keep_set {w W9 W:World} {k:Int} {s t:ByteArray} {b:Bool} {l:ByteArray} {oa:Option Addr} {ol oc:Nat} {h:Int} (q:PtS w W9 k s t b l oa ol oc h) (hb:Below W9.heap.size W9 W) {bb:Nat} (hbb:w.heap.size+2<=bb) {v0 v1 v2 v3:Value}:PtS w ((((W.setCell ⟨bb,0,none⟩ v0).setCell ⟨bb,1,none⟩ v1).setCell ⟨bb,2,none⟩ v2).setCell ⟨bb,3,none⟩ v3) k s t b l oa ol oc h:=by
 have q':=q.keep hb
 have ne:∀(V:World) (i:Nat) (v:Value) (g:Nat),g≠bb->(V.setCell ⟨bb,i,none⟩ v).heap[g]?=V.heap[g]?:=fun V i v g hg=>Below.heap_setCell _ _ _ _ hg
 refine ⟨?_,?_,(((q'.bel.setCell (by show w.heap.size<=bb;omega) _).setCell (by show w.heap.size<=bb;omega) _).setCell (by show w.heap.size<=bb;omega) _).setCell (by show w.heap.size<=bb;omega) _⟩
 ·unfold Bx
  rw [ne _ _ _ _ (by omega),ne _ _ _ _ (by omega),ne _ _ _ _ (by omega),ne _ _ _ _ (by omega)]
  exact q'.pb
 ·unfold Bx
  rw [ne _ _ _ _ (by omega),ne _ _ _ _ (by omega),ne _ _ _ _ (by omega),ne _ _ _ _ (by omega)]
  exact q'.qb
structure Pt2 (w W:World) (b6:Nat) (k:Int) (s t:ByteArray) (b:Bool) (l:ByteArray) (oa:Option Addr) (ol oc:Nat) (h is it:Int):Prop where
 pb:Bx W w.heap.size 88 #[.int .i64 k,.string s,.string t,.bool b,.string l,.slice oa ol oc,.int .i64 h]
 bb:Bx W b6 122 #[.int .i64 0,.int .i64 is,.int .i64 it,.int .i64 0]
 qx:∃c0 c1 c2 c3,Bx W (w.heap.size+1) 122 #[c0,c1,c2,c3]
 bel:Below w.heap.size w W
theorem Pt2.drew {w W:World} {b6:Nat} {k:Int} {s t:ByteArray} {b:Bool} {l:ByteArray} {oa:Option Addr} {ol oc:Nat} {h is it:Int} (q:Pt2 w W b6 k s t b l oa ol oc h is it):Pt2 w W.drew b6 k s t b l oa ol oc h is it:=⟨q.pb,q.bb,q.qx,q.bel.drew⟩
theorem Pt2.cells {w W:World} {b6:Nat} {k:Int} {s t:ByteArray} {b:Bool} {l:ByteArray} {oa:Option Addr} {ol oc:Nat} {h is it:Int} (q:Pt2 w W b6 k s t b l oa ol oc h is it):(W.cell? ⟨w.heap.size,0,none⟩=some (.int .i64 k)/\W.cell? ⟨w.heap.size,1,none⟩=some (.string s)/\W.cell? ⟨w.heap.size,2,none⟩=some (.string t))/\(W.cell? ⟨b6,0,none⟩=some (.int .i64 0)/\W.cell? ⟨b6,1,none⟩=some (.int .i64 is)/\W.cell? ⟨b6,2,none⟩=some (.int .i64 it)/\W.cell? ⟨b6,3,none⟩=some (.int .i64 0)):=by
 have p0:=q.pb.cell 0
 have p1:=q.pb.cell 1
 have p2:=q.pb.cell 2
 have b0:=q.bb.cell 0
 have b1:=q.bb.cell 1
 have b2:=q.bb.cell 2
 have b3:=q.bb.cell 3
 simp at p0 p1 p2 b0 b1 b2 b3
 exact ⟨⟨p0,p1,p2⟩,b0,b1,b2,b3⟩
theorem Pt2.store {w W:World} {b6:Nat} {k:Int} {s t:ByteArray} {b:Bool} {l:ByteArray} {oa:Option Addr} {ol oc:Nat} {h is it:Int} (q:Pt2 w W b6 k s t b l oa ol oc h is it) {c0 c1 c2 c3 v0 v1 v2 v3:Value} (hq:Bx W (w.heap.size+1) 122 #[c0,c1,c2,c3]) (h6:w.heap.size+2<=b6):Pt2 w ((((W.setCell ⟨w.heap.size+1,0,none⟩ v0).setCell ⟨w.heap.size+1,1,none⟩ v1).setCell ⟨w.heap.size+1,2,none⟩ v2).setCell ⟨w.heap.size+1,3,none⟩ v3) b6 k s t b l oa ol oc h is it/\Bx ((((W.setCell ⟨w.heap.size+1,0,none⟩ v0).setCell ⟨w.heap.size+1,1,none⟩ v1).setCell ⟨w.heap.size+1,2,none⟩ v2).setCell ⟨w.heap.size+1,3,none⟩ v3) (w.heap.size+1) 122 #[v0,v1,v2,v3]:=by
 have hbx:Bx ((((W.setCell ⟨w.heap.size+1,0,none⟩ v0).setCell ⟨w.heap.size+1,1,none⟩ v1).setCell ⟨w.heap.size+1,2,none⟩ v2).setCell ⟨w.heap.size+1,3,none⟩ v3) (w.heap.size+1) 122 #[v0,v1,v2,v3]:=bx_set (bx_set (bx_set (bx_set hq rfl) rfl) rfl) rfl
 have ne:∀(V:World) (i:Nat) (v:Value) (g:Nat),g≠w.heap.size+1->(V.setCell ⟨w.heap.size+1,i,none⟩ v).heap[g]?=V.heap[g]?:=fun V i v g hg=>Below.heap_setCell _ _ _ _ hg
 refine ⟨⟨?_,?_,⟨_,_,_,_,hbx⟩,(((q.bel.setCell (by show w.heap.size<=w.heap.size+1;omega) _).setCell (by show w.heap.size<=w.heap.size+1;omega) _).setCell (by show w.heap.size<=w.heap.size+1;omega) _).setCell (by show w.heap.size<=w.heap.size+1;omega) _⟩,hbx⟩
 ·unfold Bx
  rw [ne _ _ _ _ (by omega),ne _ _ _ _ (by omega),ne _ _ _ _ (by omega),ne _ _ _ _ (by omega)]
  exact q.pb
 ·unfold Bx
  rw [ne _ _ _ _ (by omega),ne _ _ _ _ (by omega),ne _ _ _ _ (by omega),ne _ _ _ _ (by omega)]
  exact q.bb
theorem sk {l:List Oper} {P:Program} {Q:Exit->Act->World->Prop} {S:World->Prop} {late:Nat} (i:Nat) {oi:Oper} (hp:Pick i l oi) {fuel:Nat} {listed:Array Bool} {a:Act} {w:World}
  (h:wpLate P .any l.toArray Q S late fuel (listed.setIfInBounds i true) (a.put oi.dst undef) w) (hs:Region.noSelect l.toArray=true:=by kernel_rfl) (hf:Region.free .any l.toArray listed i=true:=by kernel_rfl) (hr:(Region.ready .any l.toArray listed).contains i=true:=by kernel_rfl) (hwt:waitsB l.toArray listed i late (behind l.toArray i 8)=true:=by kernel_rfl)
  (hQ:∀c a w,Q (.panic c) (a.put oi.dst undef) w->Q (.panic c) a w:=by exact fun _ _ _ h=>h) (hw:Region.wanted oi (yielded l.toArray a.tmps)=false:=by rfl) (hS:S w:=by assumption):wpLate P .any l.toArray Q S late (fuel+1) listed a w:=wpLate_take 8 hp.get hs hf hr hwt hQ (Or.inr ⟨hw,rfl⟩) hS h
set_option maxHeartbeats 4000000 in
theorem pattern_any (k:Int) (s t:ByteArray) (b:Bool) (l:ByteArray) (oa:Option Addr) (ol oc:Nat) (h:Int) (tb:Nat) (id:ByteArray->Int) (w:World) (hI:TidI w tb id) :
  Calls Tryz.prog 75 #[.agg #[.int .i64 k,.string s,.string t,.bool b,.string l,.slice oa ol oc,.int .i64 h],.pointer (some ⟨tb,0,none⟩)] w fun e w'=>e=.returned (.tuple #[.agg #[.int .i64 0,.int .i64 (id s),.int .i64 (id t),.int .i64 0],.bool (decide (¬ id s=0) && (decide (¬ k=5) || decide (¬ id t=0)))])/\Below w.heap.size w w':=by
 have HI:Hid (TidI w tb id):=hI
 clear hI
 obtain ⟨is,his⟩:∃is,is=id s:=⟨_,rfl⟩
 obtain ⟨it,hit⟩:∃it,it=id t:=⟨_,rfl⟩
 have HIs:Hid (∀V,Below w.heap.size w V->Calls Tryz.prog 107 #[.pointer (some ⟨tb,0,none⟩),.string s] V fun e w'=>e=.returned (.int .i64 is)/\Below V.heap.size V w'):=fun V hV=>by rw [his];exact HI.out V s hV
 have HIt:Hid (∀V,Below w.heap.size w V->Calls Tryz.prog 107 #[.pointer (some ⟨tb,0,none⟩),.string t] V fun e w'=>e=.returned (.int .i64 it)/\Below V.heap.size V w'):=fun V hV=>by rw [hit];exact HI.out V t hV
 rw [<- his,<- hit]
 clear his hit HI
 obtain ⟨W9,hW9⟩:∃W9,W9=(w.alloc (.cells #[.int .i64 k,.string s,.string t,.bool b,.string l,.slice oa ol oc,.int .i64 h] 88)).alloc (.cells #[.int .i64 0,.int .i64 0,.int .i64 0,.int .i64 0] 122):=⟨_,rfl⟩
 have S9:Hid (PtS w W9 k s t b l oa ol oc h):=by
  rw [hW9]
  have b2:=Bx.new (w.alloc (.cells #[.int .i64 k,.string s,.string t,.bool b,.string l,.slice oa ol oc,.int .i64 h] 88)) #[.int .i64 0,.int .i64 0,.int .i64 0,.int .i64 0] 122
  simp only [World.size_alloc] at b2
  exact ⟨(Bx.new w _ 88).alloc _,b2,(below_alloc _ _).alloc (by simp) _⟩
 go_enter Tryz.func75,Tryz.ntmps75
 go_upto_region 1 with fail
 rw [<- hW9]
 clear hW9
 go_cut [6] from 7 to 17 (fun s6 wx=>∃b6,s6=.pointer (some ⟨b6,0,none⟩)/\w.heap.size+2<=b6/\Bx wx b6 122 #[.int .i64 0,.int .i64 is,.int .i64 it,.int .i64 0]/\PtS w wx k s t b l oa ol oc h)
 case first=>
  refine wp_region_lateT (S:=fun W=>Below W9.heap.size W9 W) 12 (by kernel_rfl) (Below.refl _ _).drew (fun W hHeld=>?_)
  refine tk 0 .zero (v:=.pointer (some ⟨tb,0,none⟩)) (fun w' h=>by clear h;go_simp) ?_
  simp only [tkp]
  refine tk 1 (.succ .zero) (v:=.pointer (some ⟨w.heap.size,0,none⟩)) (fun w' h=>by clear h;go_simp) ?_
  simp only [tkp]
  refine tk 2 (.succ (.succ .zero)) (v:=.pointer (some ⟨w.heap.size,1,none⟩)) (fun w' h=>by clear h;go_simp) ?_
  simp only [tkp]
  refine tk 3 (.succ (.succ (.succ .zero))) (v:=.string s) (fun w' h=>by obtain ⟨q0,q1,q2⟩:=(S9.out.keep h).cells;clear h;go_simp) ?_
  simp only [tkp]
  refine tk 5 (.s5 .zero) (v:=.pointer (some ⟨tb,0,none⟩)) (fun w' h=>by clear h;go_simp) ?_
  simp only [tkp]
  refine tk 6 (.s5 (.succ .zero)) (v:=.pointer (some ⟨w.heap.size,0,none⟩)) (fun w' h=>by clear h;go_simp) ?_
  simp only [tkp]
  refine tk 7 (.s5 (.succ (.succ .zero))) (v:=.pointer (some ⟨w.heap.size,2,none⟩)) (fun w' h=>by clear h;go_simp) ?_
  simp only [tkp]
  refine tk 8 (.s5 (.succ (.succ (.succ .zero)))) (v:=.string t) (fun w' h=>by obtain ⟨q0,q1,q2⟩:=(S9.out.keep h).cells;clear h;go_simp) ?_
  simp only [tkp]
  refine late_2 4 11 (.succ (.succ (.succ (.succ .zero)))) (.s5 (.s5 (.succ .zero))) (by kernel_rfl) (fun K hK=>?_) (fun K hK=>?_)
  ·refine step_h2 rfl 107 7 10 _ rfl (.pointer (some ⟨tb,0,none⟩)) (.string s) rfl rfl (fun _ _=>rfl) ?_
   refine (HIs.out W (S9.out.bel.trans (hHeld.mono S9.out.bel.size))).mono ?_
   rintro e u0 ⟨rfl,hbm⟩
   have h_u0:Below W9.heap.size W9 u0:=hHeld.trans (hbm.mono hHeld.size)
   refine ⟨_,rfl,hK.out _ _ (fun _=>h_u0) (fun hG=>?_)⟩
   clear hK K hG hbm
   simp only [tkp]
   refine late_2 9 11 (.s5 (.succ (.succ (.succ (.succ .zero))))) (.s5 (.s5 (.succ .zero))) (by kernel_rfl) (fun K hK=>?_) (fun K hK=>?_)
   ·refine step_h2 rfl 107 12 15 _ rfl (.pointer (some ⟨tb,0,none⟩)) (.string t) rfl rfl (fun _ _=>rfl) ?_
    refine (HIt.out u0 (S9.out.bel.trans (h_u0.mono S9.out.bel.size))).mono ?_
    rintro e u1 ⟨rfl,hbm⟩
    have h_u1:Below W9.heap.size W9 u1:=h_u0.trans (hbm.mono h_u0.size)
    refine ⟨_,rfl,hK.out _ _ (fun _=>h_u1) (fun hG=>?_)⟩
    clear hK K hG hbm
    simp only [tkp]
    refine tk 10 (.s5 (.s5 .zero)) (v:=.agg #[.int .i64 0,.int .i64 is,.int .i64 it,.int .i64 0]) (fun w' h=>by clear h;go_simp) ?_
    simp only [tkp]
    refine tk1 11 (.s5 (.s5 (.succ .zero))) (fun K hK=>?_)
    go_simp
    have h_wa:Below W9.heap.size W9 (u1.alloc (.cells #[.int .i64 0,.int .i64 0,.int .i64 0,.int .i64 0] 122)):=h_u1.alloc h_u1.size _
    have bx:Bx (u1.alloc (.cells #[.int .i64 0,.int .i64 0,.int .i64 0,.int .i64 0] 122)) u1.heap.size 122 #[.int .i64 0,.int .i64 0,.int .i64 0,.int .i64 0]:=Bx.new _ _ _
    have hbx:w.heap.size+2<=u1.heap.size:=by have:=(S9.out.keep h_u1).qb.lt;omega
    refine hK.out _ _ (fun _=>h_wa) (fun hG=>?_)
    clear hK K hG
    try simp only [tkp]
    obtain ⟨ba,hba⟩:∃ba,ba=u1.heap.size:=⟨_,rfl⟩
    rw [<- hba] at bx hbx ⊢
    generalize u1.alloc (.cells #[.int .i64 0,.int .i64 0,.int .i64 0,.int .i64 0] 122)=wa at bx h_wa ⊢
    clear hba
    refine tk1 12 (.s5 (.s5 (.succ (.succ .zero)))) (fun K hK=>?_)
    have c0:=bx.cell 0
    have c1:=bx.cell 1
    have c2:=bx.cell 2
    have c3:=bx.cell 3
    simp at c0 c1 c2 c3
    have ff:∀i,(wa).frozen? ⟨ba,i,none⟩=false:=fun i=>by have:=bx;unfold Bx at this;simp [World.frozen?,this]
    have hlt:=bx.lt
    have HBX:Hid (Bx (wa) ba 122 #[.int .i64 0,.int .i64 0,.int .i64 0,.int .i64 0]/\w.heap.size+2<=ba/\Below W9.heap.size W9 (wa)):=⟨bx,hbx,h_wa⟩
    clear bx hbx
    go_simp
    refine hK.out _ _ (fun hne=>absurd rfl hne) (fun hG=>?_)
    clear hK K hG
    refine wpLate_done (by kernel_rfl) ?_ _
    go_wp2
    go_meet
    case rel=>exact ⟨_,rfl,HBX.out.2.1,pt_store HBX.out.1,S9.out.keep_set HBX.out.2.2 HBX.out.2.1⟩
   ·go_simp
    have h_wa:Below W9.heap.size W9 (u0.alloc (.cells #[.int .i64 0,.int .i64 0,.int .i64 0,.int .i64 0] 122)):=h_u0.alloc h_u0.size _
    have bx:Bx (u0.alloc (.cells #[.int .i64 0,.int .i64 0,.int .i64 0,.int .i64 0] 122)) u0.heap.size 122 #[.int .i64 0,.int .i64 0,.int .i64 0,.int .i64 0]:=Bx.new _ _ _
    have hbx:w.heap.size+2<=u0.heap.size:=by have:=(S9.out.keep h_u0).qb.lt;omega
    refine hK.out _ _ (fun _=>h_wa) (fun hG=>?_)
    clear hK K hG
    try simp only [tkp]
    obtain ⟨ba,hba⟩:∃ba,ba=u0.heap.size:=⟨_,rfl⟩
    rw [<- hba] at bx hbx ⊢
    generalize u0.alloc (.cells #[.int .i64 0,.int .i64 0,.int .i64 0,.int .i64 0] 122)=wa at bx h_wa ⊢
    clear hba
    refine tk1 9 (.s5 (.succ (.succ (.succ (.succ .zero))))) (fun K hK=>?_)
    refine step_h2 rfl 107 12 15 _ rfl (.pointer (some ⟨tb,0,none⟩)) (.string t) rfl rfl (fun _ _=>rfl) ?_
    refine (HIt.out wa (S9.out.bel.trans (h_wa.mono S9.out.bel.size))).mono ?_
    rintro e v1 ⟨rfl,hbm⟩
    have h_v1:Below W9.heap.size W9 v1:=h_wa.trans (hbm.mono h_wa.size)
    replace bx:Bx v1 ba 122 #[.int .i64 0,.int .i64 0,.int .i64 0,.int .i64 0]:=(hbm.block _ bx.lt).trans bx
    refine ⟨_,rfl,hK.out _ _ (fun _=>h_v1) (fun hG=>?_)⟩
    clear hK K hG hbm
    simp only [tkp]
    refine tk 10 (.s5 (.s5 .zero)) (v:=.agg #[.int .i64 0,.int .i64 is,.int .i64 it,.int .i64 0]) (fun w' h=>by clear h;go_simp) ?_
    simp only [tkp]
    refine tk1 12 (.s5 (.s5 (.succ (.succ .zero)))) (fun K hK=>?_)
    have c0:=bx.cell 0
    have c1:=bx.cell 1
    have c2:=bx.cell 2
    have c3:=bx.cell 3
    simp at c0 c1 c2 c3
    have ff:∀i,(v1).frozen? ⟨ba,i,none⟩=false:=fun i=>by have:=bx;unfold Bx at this;simp [World.frozen?,this]
    have hlt:=bx.lt
    have HBX:Hid (Bx (v1) ba 122 #[.int .i64 0,.int .i64 0,.int .i64 0,.int .i64 0]/\w.heap.size+2<=ba/\Below W9.heap.size W9 (v1)):=⟨bx,hbx,h_v1⟩
    clear bx hbx
    go_simp
    refine hK.out _ _ (fun hne=>absurd rfl hne) (fun hG=>?_)
    clear hK K hG
    refine wpLate_done (by kernel_rfl) ?_ _
    go_wp2
    go_meet
    case rel=>exact ⟨_,rfl,HBX.out.2.1,pt_store HBX.out.1,S9.out.keep_set HBX.out.2.2 HBX.out.2.1⟩
  ·go_simp
   have h_wa:Below W9.heap.size W9 (W.alloc (.cells #[.int .i64 0,.int .i64 0,.int .i64 0,.int .i64 0] 122)):=hHeld.alloc hHeld.size _
   have bx:Bx (W.alloc (.cells #[.int .i64 0,.int .i64 0,.int .i64 0,.int .i64 0] 122)) W.heap.size 122 #[.int .i64 0,.int .i64 0,.int .i64 0,.int .i64 0]:=Bx.new _ _ _
   have hbx:w.heap.size+2<=W.heap.size:=by have:=(S9.out.keep hHeld).qb.lt;omega
   refine hK.out _ _ (fun _=>h_wa) (fun hG=>?_)
   clear hK K hG
   try simp only [tkp]
   obtain ⟨ba,hba⟩:∃ba,ba=W.heap.size:=⟨_,rfl⟩
   rw [<- hba] at bx hbx ⊢
   generalize W.alloc (.cells #[.int .i64 0,.int .i64 0,.int .i64 0,.int .i64 0] 122)=wa at bx h_wa ⊢
   clear hba
   refine tk1 4 (.succ (.succ (.succ (.succ .zero)))) (fun K hK=>?_)
   refine step_h2 rfl 107 7 10 _ rfl (.pointer (some ⟨tb,0,none⟩)) (.string s) rfl rfl (fun _ _=>rfl) ?_
   refine (HIs.out wa (S9.out.bel.trans (h_wa.mono S9.out.bel.size))).mono ?_
   rintro e v0 ⟨rfl,hbm⟩
   have h_v0:Below W9.heap.size W9 v0:=h_wa.trans (hbm.mono h_wa.size)
   replace bx:Bx v0 ba 122 #[.int .i64 0,.int .i64 0,.int .i64 0,.int .i64 0]:=(hbm.block _ bx.lt).trans bx
   refine ⟨_,rfl,hK.out _ _ (fun _=>h_v0) (fun hG=>?_)⟩
   clear hK K hG hbm
   simp only [tkp]
   refine tk1 9 (.s5 (.succ (.succ (.succ (.succ .zero))))) (fun K hK=>?_)
   refine step_h2 rfl 107 12 15 _ rfl (.pointer (some ⟨tb,0,none⟩)) (.string t) rfl rfl (fun _ _=>rfl) ?_
   refine (HIt.out v0 (S9.out.bel.trans (h_v0.mono S9.out.bel.size))).mono ?_
   rintro e v1 ⟨rfl,hbm⟩
   have h_v1:Below W9.heap.size W9 v1:=h_v0.trans (hbm.mono h_v0.size)
   replace bx:Bx v1 ba 122 #[.int .i64 0,.int .i64 0,.int .i64 0,.int .i64 0]:=(hbm.block _ bx.lt).trans bx
   refine ⟨_,rfl,hK.out _ _ (fun _=>h_v1) (fun hG=>?_)⟩
   clear hK K hG hbm
   simp only [tkp]
   refine tk 10 (.s5 (.s5 .zero)) (v:=.agg #[.int .i64 0,.int .i64 is,.int .i64 it,.int .i64 0]) (fun w' h=>by clear h;go_simp) ?_
   simp only [tkp]
   refine tk1 12 (.s5 (.s5 (.succ (.succ .zero)))) (fun K hK=>?_)
   have c0:=bx.cell 0
   have c1:=bx.cell 1
   have c2:=bx.cell 2
   have c3:=bx.cell 3
   simp at c0 c1 c2 c3
   have ff:∀i,(v1).frozen? ⟨ba,i,none⟩=false:=fun i=>by have:=bx;unfold Bx at this;simp [World.frozen?,this]
   have hlt:=bx.lt
   have HBX:Hid (Bx (v1) ba 122 #[.int .i64 0,.int .i64 0,.int .i64 0,.int .i64 0]/\w.heap.size+2<=ba/\Below W9.heap.size W9 (v1)):=⟨bx,hbx,h_v1⟩
   clear bx hbx
   go_simp
   refine hK.out _ _ (fun hne=>absurd rfl hne) (fun hG=>?_)
   clear hK K hG
   refine wpLate_done (by kernel_rfl) ?_ _
   go_wp2
   go_meet
   case rel=>exact ⟨_,rfl,HBX.out.2.1,pt_store HBX.out.1,S9.out.keep_set HBX.out.2.2 HBX.out.2.1⟩
 case rest=>
 obtain ⟨b6,rfl,hb6,bx6,hs6⟩:=hcut
 have P6:Hid (Pt2 w wc b6 k s t b l oa ol oc h is it):=⟨hs6.pb,bx6,⟨_,_,_,_,hs6.qb⟩,hs6.bel⟩
 clear hs6 bx6 S9 HIs HIt
 by_cases h1:is=0
 ·subst h1
  go_upto_region 2 with fail
  refine wp_region_lateT (S:=fun W=>Pt2 w W b6 k s t b l oa ol oc h 0 it) 16 (by kernel_rfl) P6.out.drew (fun W hHeld=>?_)
  refine tk 0 .zero (v:=.agg #[.int .i64 0,.int .i64 0,.int .i64 it,.int .i64 0]) (fun w' h=>by obtain ⟨⟨x0,x1,x2⟩,⟨y0,y1,y2,y3⟩⟩:=h.cells;clear h;go_simp) ?_
  simp only [tkp]
  refine tk 1 (.succ .zero) (v:=.pointer (some ⟨b6,1,none⟩)) (fun w' h=>by clear h;go_simp) ?_
  simp only [tkp]
  refine tk 2 (.succ (.succ .zero)) (v:=.int .i64 0) (fun w' h=>by obtain ⟨⟨x0,x1,x2⟩,⟨y0,y1,y2,y3⟩⟩:=h.cells;clear h;go_simp) ?_
  simp only [tkp]
  refine tk 3 (.succ (.succ (.succ .zero))) (v:=.bool false) (fun w' h=>by clear h;go_simp) ?_
  simp only [tkp]
  refine tk 4 (.succ (.succ (.succ (.succ .zero)))) (v:=.bool false) (fun w' h=>by clear h;go_simp) ?_
  simp only [tkp]
  refine sk 5 (.s5 .zero) ?_
  simp only [tkp]
  refine sk 6 (.s5 (.succ .zero)) ?_
  simp only [tkp]
  refine sk 7 (.s5 (.succ (.succ .zero))) ?_
  simp only [tkp]
  refine sk 8 (.s5 (.succ (.succ (.succ .zero)))) ?_
  simp only [tkp]
  refine sk 9 (.s5 (.succ (.succ (.succ (.succ .zero))))) ?_
  simp only [tkp]
  refine sk 10 (.s5 (.s5 .zero)) ?_
  simp only [tkp]
  refine sk 11 (.s5 (.s5 (.succ .zero))) ?_
  simp only [tkp]
  refine sk 12 (.s5 (.s5 (.succ (.succ .zero)))) ?_
  simp only [tkp]
  refine sk 13 (.s5 (.s5 (.succ (.succ (.succ .zero))))) ?_
  simp only [tkp]
  refine tk 14 (.s5 (.s5 (.succ (.succ (.succ (.succ .zero)))))) (v:=.bool false) (fun w' h=>by clear h;go_simp) ?_
  simp only [tkp]
  obtain ⟨c0,c1,c2,c3,hq⟩:=hHeld.qx
  have r0:=hq.cell 0
  have r1:=hq.cell 1
  have r2:=hq.cell 2
  have r3:=hq.cell 3
  simp at r0 r1 r2 r3
  have ff:∀i,W.frozen? ⟨w.heap.size+1,i,none⟩=false:=fun i=>by have:=hq;unfold Bx at this;simp [World.frozen?,this]
  have hlt:=hq.lt
  have HQ:Hid (Bx W (w.heap.size+1) 122 #[c0,c1,c2,c3]):=hq
  have HH:Hid (Pt2 w W b6 k s t b l oa ol oc h 0 it):=hHeld
  clear hHeld hq
  refine tk1 15 (.s5 (.s5 (.s5 .zero))) (fun K hK=>?_)
  go_simp
  obtain ⟨W7,hW7⟩:∃W7,W7=(((W.setCell ⟨w.heap.size+1,0,none⟩ (.int .i64 0)).setCell ⟨w.heap.size+1,1,none⟩ (.int .i64 0)).setCell ⟨w.heap.size+1,2,none⟩ (.int .i64 it)).setCell ⟨w.heap.size+1,3,none⟩ (.int .i64 0):=⟨_,rfl⟩
  have H7:Pt2 w W7 b6 k s t b l oa ol oc h 0 it/\Bx W7 (w.heap.size+1) 122 #[.int .i64 0,.int .i64 0,.int .i64 it,.int .i64 0]:=by
   rw [hW7]
   exact HH.out.store HQ.out hb6
  rw [<- hW7]
  clear hW7
  refine hK.out _ _ (fun _=>H7.1) (fun hG=>?_)
  clear hK K hG
  try simp only [tkp]
  refine tk1 16 (.s5 (.s5 (.s5 (.succ .zero)))) (fun K hK=>?_)
  go_simp
  refine hK.out _ _ (fun hne=>absurd rfl hne) (fun hG=>?_)
  clear hK K hG
  refine wpLate_done (by kernel_rfl) ?_ _
  have e0:=H7.2.cell 0
  have e1:=H7.2.cell 1
  have e2:=H7.2.cell 2
  have e3:=H7.2.cell 3
  simp at e0 e1 e2 e3
  go_wp2
  refine bodyPost_ret (v:=.tuple #[.agg #[.int .i64 0,.int .i64 0,.int .i64 it,.int .i64 0],.bool false]) (by simp [results,Tryz.results75,go_sem,e0,e1,e2,e3]) rfl ⟨by simp [*],H7.1.bel⟩
 have d1:decide (is=0)=false:=decide_eq_false h1
 by_cases h5:k=5
 ·subst h5
  by_cases h2:it=0
  ·subst h2
   go_upto_region 2 with fail
   refine wp_region_lateT (S:=fun W=>Pt2 w W b6 5 s t b l oa ol oc h is 0) 16 (by kernel_rfl) P6.out.drew (fun W hHeld=>?_)
   refine tk 0 .zero (v:=.agg #[.int .i64 0,.int .i64 is,.int .i64 0,.int .i64 0]) (fun w' h=>by obtain ⟨⟨x0,x1,x2⟩,⟨y0,y1,y2,y3⟩⟩:=h.cells;clear h;go_simp) ?_
   simp only [tkp]
   refine tk 1 (.succ .zero) (v:=.pointer (some ⟨b6,1,none⟩)) (fun w' h=>by clear h;go_simp) ?_
   simp only [tkp]
   refine tk 2 (.succ (.succ .zero)) (v:=.int .i64 is) (fun w' h=>by obtain ⟨⟨x0,x1,x2⟩,⟨y0,y1,y2,y3⟩⟩:=h.cells;clear h;go_simp) ?_
   simp only [tkp]
   refine tk 3 (.succ (.succ (.succ .zero))) (v:=.bool true) (fun w' h=>by clear h;go_simp) ?_
   simp only [tkp]
   refine tk 4 (.succ (.succ (.succ (.succ .zero)))) (v:=.bool true) (fun w' h=>by clear h;go_simp) ?_
   simp only [tkp]
   refine tk 5 (.s5 .zero) (v:=.pointer (some ⟨w.heap.size,0,none⟩)) (fun w' h=>by clear h;go_simp) ?_
   simp only [tkp]
   refine tk 6 (.s5 (.succ .zero)) (v:=.pointer (some ⟨w.heap.size,0,none⟩)) (fun w' h=>by clear h;go_simp) ?_
   simp only [tkp]
   refine tk 7 (.s5 (.succ (.succ .zero))) (v:=.int .i64 5) (fun w' h=>by obtain ⟨⟨x0,x1,x2⟩,⟨y0,y1,y2,y3⟩⟩:=h.cells;clear h;go_simp) ?_
   simp only [tkp]
   refine tk 8 (.s5 (.succ (.succ (.succ .zero)))) (v:=.bool false) (fun w' h=>by clear h;go_simp) ?_
   simp only [tkp]
   refine tk 9 (.s5 (.succ (.succ (.succ (.succ .zero))))) (v:=.bool false) (fun w' h=>by clear h;go_simp) ?_
   simp only [tkp]
   refine tk 10 (.s5 (.s5 .zero)) (v:=.pointer (some ⟨b6,2,none⟩)) (fun w' h=>by clear h;go_simp) ?_
   simp only [tkp]
   refine tk 11 (.s5 (.s5 (.succ .zero))) (v:=.int .i64 0) (fun w' h=>by obtain ⟨⟨x0,x1,x2⟩,⟨y0,y1,y2,y3⟩⟩:=h.cells;clear h;go_simp) ?_
   simp only [tkp]
   refine tk 12 (.s5 (.s5 (.succ (.succ .zero)))) (v:=.bool false) (fun w' h=>by clear h;go_simp) ?_
   simp only [tkp]
   refine tk 13 (.s5 (.s5 (.succ (.succ (.succ .zero))))) (v:=.bool false) (fun w' h=>by clear h;go_simp) ?_
   simp only [tkp]
   refine tk 14 (.s5 (.s5 (.succ (.succ (.succ (.succ .zero)))))) (v:=.bool false) (fun w' h=>by clear h;go_simp) ?_
   simp only [tkp]
   obtain ⟨c0,c1,c2,c3,hq⟩:=hHeld.qx
   have r0:=hq.cell 0
   have r1:=hq.cell 1
   have r2:=hq.cell 2
   have r3:=hq.cell 3
   simp at r0 r1 r2 r3
   have ff:∀i,W.frozen? ⟨w.heap.size+1,i,none⟩=false:=fun i=>by have:=hq;unfold Bx at this;simp [World.frozen?,this]
   have hlt:=hq.lt
   have HQ:Hid (Bx W (w.heap.size+1) 122 #[c0,c1,c2,c3]):=hq
   have HH:Hid (Pt2 w W b6 5 s t b l oa ol oc h is 0):=hHeld
   clear hHeld hq
   refine tk1 15 (.s5 (.s5 (.s5 .zero))) (fun K hK=>?_)
   go_simp
   obtain ⟨W7,hW7⟩:∃W7,W7=(((W.setCell ⟨w.heap.size+1,0,none⟩ (.int .i64 0)).setCell ⟨w.heap.size+1,1,none⟩ (.int .i64 is)).setCell ⟨w.heap.size+1,2,none⟩ (.int .i64 0)).setCell ⟨w.heap.size+1,3,none⟩ (.int .i64 0):=⟨_,rfl⟩
   have H7:Pt2 w W7 b6 5 s t b l oa ol oc h is 0/\Bx W7 (w.heap.size+1) 122 #[.int .i64 0,.int .i64 is,.int .i64 0,.int .i64 0]:=by
    rw [hW7]
    exact HH.out.store HQ.out hb6
   rw [<- hW7]
   clear hW7
   refine hK.out _ _ (fun _=>H7.1) (fun hG=>?_)
   clear hK K hG
   try simp only [tkp]
   refine tk1 16 (.s5 (.s5 (.s5 (.succ .zero)))) (fun K hK=>?_)
   go_simp
   refine hK.out _ _ (fun hne=>absurd rfl hne) (fun hG=>?_)
   clear hK K hG
   refine wpLate_done (by kernel_rfl) ?_ _
   have e0:=H7.2.cell 0
   have e1:=H7.2.cell 1
   have e2:=H7.2.cell 2
   have e3:=H7.2.cell 3
   simp at e0 e1 e2 e3
   go_wp2
   refine bodyPost_ret (v:=.tuple #[.agg #[.int .i64 0,.int .i64 is,.int .i64 0,.int .i64 0],.bool false]) (by simp [results,Tryz.results75,go_sem,e0,e1,e2,e3]) rfl ⟨by simp [*],H7.1.bel⟩
  ·have d2:decide (it=0)=false:=decide_eq_false h2
   go_upto_region 2 with fail
   refine wp_region_lateT (S:=fun W=>Pt2 w W b6 5 s t b l oa ol oc h is it) 16 (by kernel_rfl) P6.out.drew (fun W hHeld=>?_)
   refine tk 0 .zero (v:=.agg #[.int .i64 0,.int .i64 is,.int .i64 it,.int .i64 0]) (fun w' h=>by obtain ⟨⟨x0,x1,x2⟩,⟨y0,y1,y2,y3⟩⟩:=h.cells;clear h;go_simp) ?_
   simp only [tkp]
   refine tk 1 (.succ .zero) (v:=.pointer (some ⟨b6,1,none⟩)) (fun w' h=>by clear h;go_simp) ?_
   simp only [tkp]
   refine tk 2 (.succ (.succ .zero)) (v:=.int .i64 is) (fun w' h=>by obtain ⟨⟨x0,x1,x2⟩,⟨y0,y1,y2,y3⟩⟩:=h.cells;clear h;go_simp) ?_
   simp only [tkp]
   refine tk 3 (.succ (.succ (.succ .zero))) (v:=.bool true) (fun w' h=>by clear h;go_simp) ?_
   simp only [tkp]
   refine tk 4 (.succ (.succ (.succ (.succ .zero)))) (v:=.bool true) (fun w' h=>by clear h;go_simp) ?_
   simp only [tkp]
   refine tk 5 (.s5 .zero) (v:=.pointer (some ⟨w.heap.size,0,none⟩)) (fun w' h=>by clear h;go_simp) ?_
   simp only [tkp]
   refine tk 6 (.s5 (.succ .zero)) (v:=.pointer (some ⟨w.heap.size,0,none⟩)) (fun w' h=>by clear h;go_simp) ?_
   simp only [tkp]
   refine tk 7 (.s5 (.succ (.succ .zero))) (v:=.int .i64 5) (fun w' h=>by obtain ⟨⟨x0,x1,x2⟩,⟨y0,y1,y2,y3⟩⟩:=h.cells;clear h;go_simp) ?_
   simp only [tkp]
   refine tk 8 (.s5 (.succ (.succ (.succ .zero)))) (v:=.bool false) (fun w' h=>by clear h;go_simp) ?_
   simp only [tkp]
   refine tk 9 (.s5 (.succ (.succ (.succ (.succ .zero))))) (v:=.bool false) (fun w' h=>by clear h;go_simp) ?_
   simp only [tkp]
   refine tk 10 (.s5 (.s5 .zero)) (v:=.pointer (some ⟨b6,2,none⟩)) (fun w' h=>by clear h;go_simp) ?_
   simp only [tkp]
   refine tk 11 (.s5 (.s5 (.succ .zero))) (v:=.int .i64 it) (fun w' h=>by obtain ⟨⟨x0,x1,x2⟩,⟨y0,y1,y2,y3⟩⟩:=h.cells;clear h;go_simp) ?_
   simp only [tkp]
   refine tk 12 (.s5 (.s5 (.succ (.succ .zero)))) (v:=.bool true) (fun w' h=>by clear h;go_simp) ?_
   simp only [tkp]
   refine tk 13 (.s5 (.s5 (.succ (.succ (.succ .zero))))) (v:=.bool true) (fun w' h=>by clear h;go_simp) ?_
   simp only [tkp]
   refine tk 14 (.s5 (.s5 (.succ (.succ (.succ (.succ .zero)))))) (v:=.bool true) (fun w' h=>by clear h;go_simp) ?_
   simp only [tkp]
   obtain ⟨c0,c1,c2,c3,hq⟩:=hHeld.qx
   have r0:=hq.cell 0
   have r1:=hq.cell 1
   have r2:=hq.cell 2
   have r3:=hq.cell 3
   simp at r0 r1 r2 r3
   have ff:∀i,W.frozen? ⟨w.heap.size+1,i,none⟩=false:=fun i=>by have:=hq;unfold Bx at this;simp [World.frozen?,this]
   have hlt:=hq.lt
   have HQ:Hid (Bx W (w.heap.size+1) 122 #[c0,c1,c2,c3]):=hq
   have HH:Hid (Pt2 w W b6 5 s t b l oa ol oc h is it):=hHeld
   clear hHeld hq
   refine tk1 15 (.s5 (.s5 (.s5 .zero))) (fun K hK=>?_)
   go_simp
   obtain ⟨W7,hW7⟩:∃W7,W7=(((W.setCell ⟨w.heap.size+1,0,none⟩ (.int .i64 0)).setCell ⟨w.heap.size+1,1,none⟩ (.int .i64 is)).setCell ⟨w.heap.size+1,2,none⟩ (.int .i64 it)).setCell ⟨w.heap.size+1,3,none⟩ (.int .i64 0):=⟨_,rfl⟩
   have H7:Pt2 w W7 b6 5 s t b l oa ol oc h is it/\Bx W7 (w.heap.size+1) 122 #[.int .i64 0,.int .i64 is,.int .i64 it,.int .i64 0]:=by
    rw [hW7]
    exact HH.out.store HQ.out hb6
   rw [<- hW7]
   clear hW7
   refine hK.out _ _ (fun _=>H7.1) (fun hG=>?_)
   clear hK K hG
   try simp only [tkp]
   refine tk1 16 (.s5 (.s5 (.s5 (.succ .zero)))) (fun K hK=>?_)
   go_simp
   refine hK.out _ _ (fun hne=>absurd rfl hne) (fun hG=>?_)
   clear hK K hG
   refine wpLate_done (by kernel_rfl) ?_ _
   have e0:=H7.2.cell 0
   have e1:=H7.2.cell 1
   have e2:=H7.2.cell 2
   have e3:=H7.2.cell 3
   simp at e0 e1 e2 e3
   go_wp2
   refine bodyPost_ret (v:=.tuple #[.agg #[.int .i64 0,.int .i64 is,.int .i64 it,.int .i64 0],.bool true]) (by simp [results,Tryz.results75,go_sem,e0,e1,e2,e3]) rfl ⟨by simp [*],H7.1.bel⟩
 ·have d5:decide (k=5)=false:=decide_eq_false h5
  go_upto_region 2 with fail
  refine wp_region_lateT (S:=fun W=>Pt2 w W b6 k s t b l oa ol oc h is it) 16 (by kernel_rfl) P6.out.drew (fun W hHeld=>?_)
  refine tk 0 .zero (v:=.agg #[.int .i64 0,.int .i64 is,.int .i64 it,.int .i64 0]) (fun w' h=>by obtain ⟨⟨x0,x1,x2⟩,⟨y0,y1,y2,y3⟩⟩:=h.cells;clear h;go_simp) ?_
  simp only [tkp]
  refine tk 1 (.succ .zero) (v:=.pointer (some ⟨b6,1,none⟩)) (fun w' h=>by clear h;go_simp) ?_
  simp only [tkp]
  refine tk 2 (.succ (.succ .zero)) (v:=.int .i64 is) (fun w' h=>by obtain ⟨⟨x0,x1,x2⟩,⟨y0,y1,y2,y3⟩⟩:=h.cells;clear h;go_simp) ?_
  simp only [tkp]
  refine tk 3 (.succ (.succ (.succ .zero))) (v:=.bool true) (fun w' h=>by clear h;go_simp) ?_
  simp only [tkp]
  refine tk 4 (.succ (.succ (.succ (.succ .zero)))) (v:=.bool true) (fun w' h=>by clear h;go_simp) ?_
  simp only [tkp]
  refine tk 5 (.s5 .zero) (v:=.pointer (some ⟨w.heap.size,0,none⟩)) (fun w' h=>by clear h;go_simp) ?_
  simp only [tkp]
  refine tk 6 (.s5 (.succ .zero)) (v:=.pointer (some ⟨w.heap.size,0,none⟩)) (fun w' h=>by clear h;go_simp) ?_
  simp only [tkp]
  refine tk 7 (.s5 (.succ (.succ .zero))) (v:=.int .i64 k) (fun w' h=>by obtain ⟨⟨x0,x1,x2⟩,⟨y0,y1,y2,y3⟩⟩:=h.cells;clear h;go_simp) ?_
  simp only [tkp]
  refine tk 8 (.s5 (.succ (.succ (.succ .zero)))) (v:=.bool true) (fun w' h=>by clear h;go_simp) ?_
  simp only [tkp]
  refine tk 9 (.s5 (.succ (.succ (.succ (.succ .zero))))) (v:=.bool true) (fun w' h=>by clear h;go_simp) ?_
  simp only [tkp]
  refine sk 10 (.s5 (.s5 .zero)) ?_
  simp only [tkp]
  refine sk 11 (.s5 (.s5 (.succ .zero))) ?_
  simp only [tkp]
  refine sk 12 (.s5 (.s5 (.succ (.succ .zero)))) ?_
  simp only [tkp]
  refine tk 13 (.s5 (.s5 (.succ (.succ (.succ .zero))))) (v:=.bool true) (fun w' h=>by clear h;go_simp) ?_
  simp only [tkp]
  refine tk 14 (.s5 (.s5 (.succ (.succ (.succ (.succ .zero)))))) (v:=.bool true) (fun w' h=>by clear h;go_simp) ?_
  simp only [tkp]
  obtain ⟨c0,c1,c2,c3,hq⟩:=hHeld.qx
  have r0:=hq.cell 0
  have r1:=hq.cell 1
  have r2:=hq.cell 2
  have r3:=hq.cell 3
  simp at r0 r1 r2 r3
  have ff:∀i,W.frozen? ⟨w.heap.size+1,i,none⟩=false:=fun i=>by have:=hq;unfold Bx at this;simp [World.frozen?,this]
  have hlt:=hq.lt
  have HQ:Hid (Bx W (w.heap.size+1) 122 #[c0,c1,c2,c3]):=hq
  have HH:Hid (Pt2 w W b6 k s t b l oa ol oc h is it):=hHeld
  clear hHeld hq
  refine tk1 15 (.s5 (.s5 (.s5 .zero))) (fun K hK=>?_)
  go_simp
  obtain ⟨W7,hW7⟩:∃W7,W7=(((W.setCell ⟨w.heap.size+1,0,none⟩ (.int .i64 0)).setCell ⟨w.heap.size+1,1,none⟩ (.int .i64 is)).setCell ⟨w.heap.size+1,2,none⟩ (.int .i64 it)).setCell ⟨w.heap.size+1,3,none⟩ (.int .i64 0):=⟨_,rfl⟩
  have H7:Pt2 w W7 b6 k s t b l oa ol oc h is it/\Bx W7 (w.heap.size+1) 122 #[.int .i64 0,.int .i64 is,.int .i64 it,.int .i64 0]:=by
   rw [hW7]
   exact HH.out.store HQ.out hb6
  rw [<- hW7]
  clear hW7
  refine hK.out _ _ (fun _=>H7.1) (fun hG=>?_)
  clear hK K hG
  try simp only [tkp]
  refine tk1 16 (.s5 (.s5 (.s5 (.succ .zero)))) (fun K hK=>?_)
  go_simp
  refine hK.out _ _ (fun hne=>absurd rfl hne) (fun hG=>?_)
  clear hK K hG
  refine wpLate_done (by kernel_rfl) ?_ _
  have e0:=H7.2.cell 0
  have e1:=H7.2.cell 1
  have e2:=H7.2.cell 2
  have e3:=H7.2.cell 3
  simp at e0 e1 e2 e3
  go_wp2
  refine bodyPost_ret (v:=.tuple #[.agg #[.int .i64 0,.int .i64 is,.int .i64 it,.int .i64 0],.bool true]) (by simp [results,Tryz.results75,go_sem,e0,e1,e2,e3]) rfl ⟨by simp [*],H7.1.bel⟩
set_option linter.unusedSimpArgs false

structure EsS (w W:World) (wb tb xb b8:Nat) (id:ByteArray->Int) (Q:List Qd) (k:Int) (s t:ByteArray) (cb:Bool) (cl:ByteArray) (oa:Option Addr) (ol oc:Nat) (h lab:Int) (nt:Bool):Prop where
 pb:Bx W w.heap.size 88 #[.int .i64 k,.string s,.string t,.bool cb,.string cl,.slice oa ol oc,.int .i64 h]
 sb:Bx W b8 149 #[.pointer (some ⟨xb,0,none⟩),.int .i64 lab,.bool nt]
 wb:Bx W wb 147 #[.pointer (some ⟨tb,0,none⟩),.pointer (some ⟨xb,0,none⟩)]
 wt:WAt W tb xb id Q
 bel:Below w.heap.size w W
theorem EsS.keep {w W W' : World} {wb tb xb b8:Nat} {id:ByteArray->Int} {Q:List Qd} {k:Int} {s t:ByteArray} {cb:Bool} {cl:ByteArray} {oa:Option Addr} {ol oc:Nat} {h lab:Int} {nt:Bool} (q:EsS w W wb tb xb b8 id Q k s t cb cl oa ol oc h lab nt) (hb:Below W.heap.size W W'):EsS w W' wb tb xb b8 id Q k s t cb cl oa ol oc h lab nt:=
 ⟨(hb.block _ q.pb.lt).trans q.pb,(hb.block _ q.sb.lt).trans q.sb,(hb.block _ q.wb.lt).trans q.wb,q.wt.below hb,q.bel.trans (hb.mono q.bel.size)⟩
theorem EsS.cells {w W:World} {wb tb xb b8:Nat} {id:ByteArray->Int} {Q:List Qd} {k:Int} {s t:ByteArray} {cb:Bool} {cl:ByteArray} {oa:Option Addr} {ol oc:Nat} {h lab:Int} {nt:Bool} (q:EsS w W wb tb xb b8 id Q k s t cb cl oa ol oc h lab nt) :
  (W.cell? ⟨w.heap.size,0,none⟩=some (.int .i64 k)/\W.cell? ⟨w.heap.size,1,none⟩=some (.string s)/\W.cell? ⟨w.heap.size,2,none⟩=some (.string t)/\W.cell? ⟨w.heap.size,3,none⟩=some (.bool cb)/\W.cell? ⟨w.heap.size,4,none⟩=some (.string cl)/\W.cell? ⟨w.heap.size,5,none⟩=some (.slice oa ol oc)/\W.cell? ⟨w.heap.size,6,none⟩=some (.int .i64 h))/\
  (W.cell? ⟨b8,0,none⟩=some (.pointer (some ⟨xb,0,none⟩))/\W.cell? ⟨b8,1,none⟩=some (.int .i64 lab)/\W.cell? ⟨b8,2,none⟩=some (.bool nt))/\
  (W.cell? ⟨wb,0,none⟩=some (.pointer (some ⟨tb,0,none⟩))/\W.cell? ⟨wb,1,none⟩=some (.pointer (some ⟨xb,0,none⟩))):=by
 have p0:=q.pb.cell 0
 have p1:=q.pb.cell 1
 have p2:=q.pb.cell 2
 have p3:=q.pb.cell 3
 have p4:=q.pb.cell 4
 have p5:=q.pb.cell 5
 have p6:=q.pb.cell 6
 have s0:=q.sb.cell 0
 have s1:=q.sb.cell 1
 have s2:=q.sb.cell 2
 have w0:=q.wb.cell 0
 have w1:=q.wb.cell 1
 simp at p0 p1 p2 p3 p4 p5 p6 s0 s1 s2 w0 w1
 exact ⟨⟨p0,p1,p2,p3,p4,p5,p6⟩,⟨s0,s1,s2⟩,w0,w1⟩
def PkI (w:World) (ap:Option Addr) (q:Nat) (A:Nat->Nat):Prop:=0<q->∃g,ap=some ⟨g,0,none⟩/\∀j,j<q->w.cell? ⟨g,j,none⟩=some (.int .i64 (A j:Int))
theorem PkI.below {w w' : World} {ap:Option Addr} {q:Nat} {A:Nat->Nat} (h:PkI w ap q A) (hb:Below w.heap.size w w'):PkI w' ap q A:=fun h0=>by
 obtain ⟨g,e,hc⟩:=h h0
 exact ⟨g,e,fun j hj=>(hb.cell (World.block_lt_of_cell? _ _ (hc j hj))).trans (hc j hj)⟩
set_option maxHeartbeats 4000000 in
theorem est_1 (wb tb xb:Nat) (id:ByteArray->Int) (Q:List Qd) (s t:ByteArray) (cb:Bool) (cl:ByteArray) (oa:Option Addr) (ol oc:Nat) (h:Int) (w:World) (hB:Bx w wb 147 #[.pointer (some ⟨tb,0,none⟩),.pointer (some ⟨xb,0,none⟩)]) (hW:WAt w tb xb id Q) (ap:Option Addr) (q cp:Nat) (al:Nat) (hid:∀x,0<=id x/\id x<=2000000000) (hc0:cb=false->id cl=0) (hal:al=(mtL Q ⟨cb,if cb=true then id cl else 0⟩ ⟨0,0,0,0⟩).length) (hQ:al<=300) :
  Calls Tryz.prog 34 #[.pointer (some ⟨wb,0,none⟩),.agg #[.int .i64 1,.string s,.string t,.bool cb,.string cl,.slice oa ol oc,.int .i64 h],.slice ap q cp] w fun e w'=>e=.returned (.tuple #[.int .i64 0,.int .i64 (2*al:Int)])/\Below w.heap.size w w':=by
 obtain ⟨W0,hW0⟩:∃W0,W0=w.alloc (.cells #[.int .i64 1,.string s,.string t,.bool cb,.string cl,.slice oa ol oc,.int .i64 h] 88):=⟨_,rfl⟩
 obtain ⟨lab,hlab⟩:∃lab,lab=id cl:=⟨_,rfl⟩
 obtain ⟨nt,hnt⟩:∃nt,nt=(cb && decide (lab=0)):=⟨_,rfl⟩
 have S0:Hid (Bx W0 w.heap.size 88 #[.int .i64 1,.string s,.string t,.bool cb,.string cl,.slice oa ol oc,.int .i64 h]/\Bx W0 wb 147 #[.pointer (some ⟨tb,0,none⟩),.pointer (some ⟨xb,0,none⟩)]/\WAt W0 tb xb id Q/\Below w.heap.size w W0):=by
  rw [hW0]
  exact ⟨Bx.new _ _ _,((below_alloc _ _).block _ hB.lt).trans hB,hW.below (below_alloc _ _),below_alloc _ _⟩
 have HSc:Hid (Calls Tryz.prog 73 #[.pointer (some ⟨wb,0,none⟩),.agg #[.bool cb,.string cl]] W0 fun e w'=>e=.returned (.agg #[.pointer (some ⟨xb,0,none⟩),.int .i64 lab,.bool nt])/\Below W0.heap.size W0 w'):=by
  rw [hnt,hlab]
  exact worldScope_any wb tb xb id Q cb cl W0 S0.out.2.1 S0.out.2.2.1
 have HLN:Hid (lab=id cl/\nt=(cb && decide (lab=0))):=⟨hlab,hnt⟩
 clear hlab hnt hB hW
 have c0:=S0.out.1.cell 3
 have c1:=S0.out.1.cell 4
 simp at c0 c1
 go_enter Tryz.func34,Tryz.ntmps34
 go_upto_region 1 with fail
 rw [<- hW0]
 clear hW0
 go_wp2_with fail
 (with_reducible refine HSc.out.mono ?_)
 rintro e w1 ⟨rfl,hb1⟩
 obtain ⟨W1,hW1⟩:∃W1,W1=w1.alloc (.cells #[.pointer (some ⟨xb,0,none⟩),.int .i64 lab,.bool nt] 149):=⟨_,rfl⟩
 have S1:Hid (EsS w W1 wb tb xb w1.heap.size id Q 1 s t cb cl oa ol oc h lab nt):=by
  have hb2:Below W0.heap.size W0 W1:=by rw [hW1];exact hb1.trans ((below_alloc _ _).mono hb1.size)
  refine ⟨(hb2.block _ S0.out.1.lt).trans S0.out.1,by rw [hW1];exact Bx.new _ _ _,(hb2.block _ S0.out.2.1.lt).trans S0.out.2.1,S0.out.2.2.1.below hb2,S0.out.2.2.2.trans (hb2.mono S0.out.2.2.2.size)⟩
 clear hb1 HSc c0 c1
 go_upto_region 2 with fail
 rw [<- hW1]
 clear hW1 S0
 generalize w1.heap.size=b8 at S1 ⊢
 obtain ⟨⟨p0,p1,p2,p3,p4,p5,p6⟩,⟨s0,s1,s2⟩,g0,g1⟩:=S1.out.cells
 have HC:Hid (Calls Tryz.prog 74 #[.agg #[.pointer (some ⟨xb,0,none⟩),.int .i64 lab,.bool nt],.agg #[.int .i64 0,.int .i64 0,.int .i64 0,.int .i64 0]] W1 fun e w'=>e=.returned (.int .i64 (al:Int))/\Below W1.heap.size W1 w'):=by
  have hl:=hid cl
  rw [<- HLN.out.1] at hl
  have e:cntN Q lab nt ⟨0,0,0,0⟩=al:=by
   rw [hal,HLN.out.2,HLN.out.1]
   exact cntN_mtL id Q cb cl ⟨0,0,0,0⟩ hc0 rfl
  have:=scopeCount_any tb xb id Q lab nt ⟨0,0,0,0⟩ W1 S1.out.wt (fun _=>⟨by simp,by simp,by simp,hl⟩)
  rw [e] at this
  exact this
 clear hid hc0 hal
 have hw:IntKind.i64.wrap (2*(al:Int))=2*(al:Int):=by rw [IntKind.wrap_i64];omega
 go_wp2_with fail
 (with_reducible refine HC.out.mono ?_)
 rintro e w2 ⟨rfl,hb2⟩
 have HF:Hid (Below w.heap.size w w2):=S1.out.bel.trans (hb2.mono S1.out.bel.size)
 clear hb2
 go_wp2
 refine bodyPost_ret (v:=.tuple #[.int .i64 0,.int .i64 (2*al:Int)]) (by simp [results,Tryz.results34,go_sem]) rfl ⟨rfl,HF.out⟩
set_option maxHeartbeats 4000000 in
theorem est_2 (wb tb xb:Nat) (id:ByteArray->Int) (Q:List Qd) (s t:ByteArray) (cb:Bool) (cl:ByteArray) (oa:Option Addr) (ol oc:Nat) (h:Int) (w:World) (hB:Bx w wb 147 #[.pointer (some ⟨tb,0,none⟩),.pointer (some ⟨xb,0,none⟩)]) (hW:WAt w tb xb id Q) (ap:Option Addr) (q cp:Nat)  :
  Calls Tryz.prog 34 #[.pointer (some ⟨wb,0,none⟩),.agg #[.int .i64 2,.string s,.string t,.bool cb,.string cl,.slice oa ol oc,.int .i64 h],.slice ap q cp] w fun e w'=>e=.returned (.tuple #[.int .i64 0,.int .i64 1])/\Below w.heap.size w w':=by
 obtain ⟨W0,hW0⟩:∃W0,W0=w.alloc (.cells #[.int .i64 2,.string s,.string t,.bool cb,.string cl,.slice oa ol oc,.int .i64 h] 88):=⟨_,rfl⟩
 obtain ⟨lab,hlab⟩:∃lab,lab=id cl:=⟨_,rfl⟩
 obtain ⟨nt,hnt⟩:∃nt,nt=(cb && decide (lab=0)):=⟨_,rfl⟩
 have S0:Hid (Bx W0 w.heap.size 88 #[.int .i64 2,.string s,.string t,.bool cb,.string cl,.slice oa ol oc,.int .i64 h]/\Bx W0 wb 147 #[.pointer (some ⟨tb,0,none⟩),.pointer (some ⟨xb,0,none⟩)]/\WAt W0 tb xb id Q/\Below w.heap.size w W0):=by
  rw [hW0]
  exact ⟨Bx.new _ _ _,((below_alloc _ _).block _ hB.lt).trans hB,hW.below (below_alloc _ _),below_alloc _ _⟩
 have HSc:Hid (Calls Tryz.prog 73 #[.pointer (some ⟨wb,0,none⟩),.agg #[.bool cb,.string cl]] W0 fun e w'=>e=.returned (.agg #[.pointer (some ⟨xb,0,none⟩),.int .i64 lab,.bool nt])/\Below W0.heap.size W0 w'):=by
  rw [hnt,hlab]
  exact worldScope_any wb tb xb id Q cb cl W0 S0.out.2.1 S0.out.2.2.1
 have HLN:Hid (lab=id cl/\nt=(cb && decide (lab=0))):=⟨hlab,hnt⟩
 clear hlab hnt hB hW
 have c0:=S0.out.1.cell 3
 have c1:=S0.out.1.cell 4
 simp at c0 c1
 go_enter Tryz.func34,Tryz.ntmps34
 go_upto_region 1 with fail
 rw [<- hW0]
 clear hW0
 go_wp2_with fail
 (with_reducible refine HSc.out.mono ?_)
 rintro e w1 ⟨rfl,hb1⟩
 obtain ⟨W1,hW1⟩:∃W1,W1=w1.alloc (.cells #[.pointer (some ⟨xb,0,none⟩),.int .i64 lab,.bool nt] 149):=⟨_,rfl⟩
 have S1:Hid (EsS w W1 wb tb xb w1.heap.size id Q 2 s t cb cl oa ol oc h lab nt):=by
  have hb2:Below W0.heap.size W0 W1:=by rw [hW1];exact hb1.trans ((below_alloc _ _).mono hb1.size)
  refine ⟨(hb2.block _ S0.out.1.lt).trans S0.out.1,by rw [hW1];exact Bx.new _ _ _,(hb2.block _ S0.out.2.1.lt).trans S0.out.2.1,S0.out.2.2.1.below hb2,S0.out.2.2.2.trans (hb2.mono S0.out.2.2.2.size)⟩
 clear hb1 HSc c0 c1
 go_upto_region 2 with fail
 rw [<- hW1]
 clear hW1 S0
 generalize w1.heap.size=b8 at S1 ⊢
 obtain ⟨⟨p0,p1,p2,p3,p4,p5,p6⟩,⟨s0,s1,s2⟩,g0,g1⟩:=S1.out.cells
 go_wp2
 refine bodyPost_ret (v:=.tuple #[.int .i64 0,.int .i64 1]) (by simp [results,Tryz.results34,go_sem]) rfl ⟨rfl,S1.out.bel⟩
set_option maxHeartbeats 4000000 in
theorem est_7 (wb tb xb:Nat) (id:ByteArray->Int) (Q:List Qd) (s t:ByteArray) (cb:Bool) (cl:ByteArray) (oa:Option Addr) (ol oc:Nat) (h:Int) (w:World) (hB:Bx w wb 147 #[.pointer (some ⟨tb,0,none⟩),.pointer (some ⟨xb,0,none⟩)]) (hW:WAt w tb xb id Q) (ap:Option Addr) (q cp:Nat) (a0 a1:Nat) (hq:q=2) (hA:PkI w ap q (fun j=>if j=0 then a0 else a1)) (hb:a0<=1000000/\a1<=1000000) :
  Calls Tryz.prog 34 #[.pointer (some ⟨wb,0,none⟩),.agg #[.int .i64 7,.string s,.string t,.bool cb,.string cl,.slice oa ol oc,.int .i64 h],.slice ap q cp] w fun e w'=>e=.returned (.tuple #[.int .i64 0,.int .i64 ((a0+a1:Nat):Int)])/\Below w.heap.size w w':=by
 obtain ⟨gp,rfl,hcp⟩:=hA (by omega)
 have t0:w.cell? ⟨gp,0,none⟩=some (.int .i64 (a0:Int)):=hcp 0 (by omega)
 have t1:w.cell? ⟨gp,1,none⟩=some (.int .i64 (a1:Int)):=hcp 1 (by omega)
 have HP:Hid (w.cell? ⟨gp,0,none⟩=some (.int .i64 (a0:Int))/\w.cell? ⟨gp,1,none⟩=some (.int .i64 (a1:Int))):=⟨t0,t1⟩
 clear hcp hA t0 t1
 subst hq
 obtain ⟨W0,hW0⟩:∃W0,W0=w.alloc (.cells #[.int .i64 7,.string s,.string t,.bool cb,.string cl,.slice oa ol oc,.int .i64 h] 88):=⟨_,rfl⟩
 obtain ⟨lab,hlab⟩:∃lab,lab=id cl:=⟨_,rfl⟩
 obtain ⟨nt,hnt⟩:∃nt,nt=(cb && decide (lab=0)):=⟨_,rfl⟩
 have S0:Hid (Bx W0 w.heap.size 88 #[.int .i64 7,.string s,.string t,.bool cb,.string cl,.slice oa ol oc,.int .i64 h]/\Bx W0 wb 147 #[.pointer (some ⟨tb,0,none⟩),.pointer (some ⟨xb,0,none⟩)]/\WAt W0 tb xb id Q/\Below w.heap.size w W0):=by
  rw [hW0]
  exact ⟨Bx.new _ _ _,((below_alloc _ _).block _ hB.lt).trans hB,hW.below (below_alloc _ _),below_alloc _ _⟩
 have HSc:Hid (Calls Tryz.prog 73 #[.pointer (some ⟨wb,0,none⟩),.agg #[.bool cb,.string cl]] W0 fun e w'=>e=.returned (.agg #[.pointer (some ⟨xb,0,none⟩),.int .i64 lab,.bool nt])/\Below W0.heap.size W0 w'):=by
  rw [hnt,hlab]
  exact worldScope_any wb tb xb id Q cb cl W0 S0.out.2.1 S0.out.2.2.1
 have HLN:Hid (lab=id cl/\nt=(cb && decide (lab=0))):=⟨hlab,hnt⟩
 clear hlab hnt hB hW
 have c0:=S0.out.1.cell 3
 have c1:=S0.out.1.cell 4
 simp at c0 c1
 go_enter Tryz.func34,Tryz.ntmps34
 go_upto_region 1 with fail
 rw [<- hW0]
 clear hW0
 go_wp2_with fail
 (with_reducible refine HSc.out.mono ?_)
 rintro e w1 ⟨rfl,hb1⟩
 obtain ⟨W1,hW1⟩:∃W1,W1=w1.alloc (.cells #[.pointer (some ⟨xb,0,none⟩),.int .i64 lab,.bool nt] 149):=⟨_,rfl⟩
 have S1:Hid (EsS w W1 wb tb xb w1.heap.size id Q 7 s t cb cl oa ol oc h lab nt):=by
  have hb2:Below W0.heap.size W0 W1:=by rw [hW1];exact hb1.trans ((below_alloc _ _).mono hb1.size)
  refine ⟨(hb2.block _ S0.out.1.lt).trans S0.out.1,by rw [hW1];exact Bx.new _ _ _,(hb2.block _ S0.out.2.1.lt).trans S0.out.2.1,S0.out.2.2.1.below hb2,S0.out.2.2.2.trans (hb2.mono S0.out.2.2.2.size)⟩
 clear hb1 HSc c0 c1
 go_upto_region 2 with fail
 rw [<- hW1]
 clear hW1 S0
 generalize w1.heap.size=b8 at S1 ⊢
 obtain ⟨⟨p0,p1,p2,p3,p4,p5,p6⟩,⟨s0,s1,s2⟩,g0,g1⟩:=S1.out.cells
 have v0:W1.cell? ⟨gp,0,none⟩=some (.int .i64 (a0:Int)):=(S1.out.bel.cell (World.block_lt_of_cell? _ _ HP.out.1)).trans HP.out.1
 have v1:W1.cell? ⟨gp,1,none⟩=some (.int .i64 (a1:Int)):=(S1.out.bel.cell (World.block_lt_of_cell? _ _ HP.out.2)).trans HP.out.2
 have hw:IntKind.i64.wrap ((a0:Int)+(a1:Int))=(a0:Int)+(a1:Int):=by rw [IntKind.wrap_i64];omega
 have HF:Hid (Below w.heap.size w W1):=S1.out.bel
 go_wp2
 go_region
 all_goals
  go_wp2
  refine bodyPost_ret (v:=.tuple #[.int .i64 0,.int .i64 ((a0+a1:Nat):Int)]) (by simp [results,Tryz.results34,go_sem]) rfl ⟨by simp,HF.out.drew⟩
set_option maxHeartbeats 4000000 in
theorem est_8 (wb tb xb:Nat) (id:ByteArray->Int) (Q:List Qd) (s t:ByteArray) (cb:Bool) (cl:ByteArray) (oa:Option Addr) (ol oc:Nat) (h:Int) (w:World) (hB:Bx w wb 147 #[.pointer (some ⟨tb,0,none⟩),.pointer (some ⟨xb,0,none⟩)]) (hW:WAt w tb xb id Q) (ap:Option Addr) (q cp:Nat) (a0 a1:Nat) (hq:q=2) (hA:PkI w ap q (fun j=>if j=0 then a0 else a1)) :
  Calls Tryz.prog 34 #[.pointer (some ⟨wb,0,none⟩),.agg #[.int .i64 8,.string s,.string t,.bool cb,.string cl,.slice oa ol oc,.int .i64 h],.slice ap q cp] w fun e w'=>e=.returned (.tuple #[.int .i64 0,.int .i64 (a0:Int)])/\Below w.heap.size w w':=by
 obtain ⟨gp,rfl,hcp⟩:=hA (by omega)
 have t0:w.cell? ⟨gp,0,none⟩=some (.int .i64 (a0:Int)):=hcp 0 (by omega)
 have HP:Hid (w.cell? ⟨gp,0,none⟩=some (.int .i64 (a0:Int))):=t0
 clear hcp hA t0
 subst hq
 obtain ⟨W0,hW0⟩:∃W0,W0=w.alloc (.cells #[.int .i64 8,.string s,.string t,.bool cb,.string cl,.slice oa ol oc,.int .i64 h] 88):=⟨_,rfl⟩
 obtain ⟨lab,hlab⟩:∃lab,lab=id cl:=⟨_,rfl⟩
 obtain ⟨nt,hnt⟩:∃nt,nt=(cb && decide (lab=0)):=⟨_,rfl⟩
 have S0:Hid (Bx W0 w.heap.size 88 #[.int .i64 8,.string s,.string t,.bool cb,.string cl,.slice oa ol oc,.int .i64 h]/\Bx W0 wb 147 #[.pointer (some ⟨tb,0,none⟩),.pointer (some ⟨xb,0,none⟩)]/\WAt W0 tb xb id Q/\Below w.heap.size w W0):=by
  rw [hW0]
  exact ⟨Bx.new _ _ _,((below_alloc _ _).block _ hB.lt).trans hB,hW.below (below_alloc _ _),below_alloc _ _⟩
 have HSc:Hid (Calls Tryz.prog 73 #[.pointer (some ⟨wb,0,none⟩),.agg #[.bool cb,.string cl]] W0 fun e w'=>e=.returned (.agg #[.pointer (some ⟨xb,0,none⟩),.int .i64 lab,.bool nt])/\Below W0.heap.size W0 w'):=by
  rw [hnt,hlab]
  exact worldScope_any wb tb xb id Q cb cl W0 S0.out.2.1 S0.out.2.2.1
 have HLN:Hid (lab=id cl/\nt=(cb && decide (lab=0))):=⟨hlab,hnt⟩
 clear hlab hnt hB hW
 have c0:=S0.out.1.cell 3
 have c1:=S0.out.1.cell 4
 simp at c0 c1
 go_enter Tryz.func34,Tryz.ntmps34
 go_upto_region 1 with fail
 rw [<- hW0]
 clear hW0
 go_wp2_with fail
 (with_reducible refine HSc.out.mono ?_)
 rintro e w1 ⟨rfl,hb1⟩
 obtain ⟨W1,hW1⟩:∃W1,W1=w1.alloc (.cells #[.pointer (some ⟨xb,0,none⟩),.int .i64 lab,.bool nt] 149):=⟨_,rfl⟩
 have S1:Hid (EsS w W1 wb tb xb w1.heap.size id Q 8 s t cb cl oa ol oc h lab nt):=by
  have hb2:Below W0.heap.size W0 W1:=by rw [hW1];exact hb1.trans ((below_alloc _ _).mono hb1.size)
  refine ⟨(hb2.block _ S0.out.1.lt).trans S0.out.1,by rw [hW1];exact Bx.new _ _ _,(hb2.block _ S0.out.2.1.lt).trans S0.out.2.1,S0.out.2.2.1.below hb2,S0.out.2.2.2.trans (hb2.mono S0.out.2.2.2.size)⟩
 clear hb1 HSc c0 c1
 go_upto_region 2 with fail
 rw [<- hW1]
 clear hW1 S0
 generalize w1.heap.size=b8 at S1 ⊢
 obtain ⟨⟨p0,p1,p2,p3,p4,p5,p6⟩,⟨s0,s1,s2⟩,g0,g1⟩:=S1.out.cells
 have v0:W1.cell? ⟨gp,0,none⟩=some (.int .i64 (a0:Int)):=(S1.out.bel.cell (World.block_lt_of_cell? _ _ HP.out)).trans HP.out
 have HF:Hid (Below w.heap.size w W1):=S1.out.bel
 go_wp2
 go_region
 all_goals
  go_wp2
  refine bodyPost_ret (v:=.tuple #[.int .i64 0,.int .i64 (a0:Int)]) (by simp [results,Tryz.results34,go_sem]) rfl ⟨rfl,HF.out.drew⟩
set_option maxHeartbeats 4000000 in
theorem est_9 (wb tb xb:Nat) (id:ByteArray->Int) (Q:List Qd) (s t:ByteArray) (cb:Bool) (cl:ByteArray) (oa:Option Addr) (ol oc:Nat) (h:Int) (w:World) (hB:Bx w wb 147 #[.pointer (some ⟨tb,0,none⟩),.pointer (some ⟨xb,0,none⟩)]) (hW:WAt w tb xb id Q) (ap:Option Addr) (q cp:Nat) (a0:Nat) (hq:q=1) (hA:PkI w ap q (fun _=>a0)) :
  Calls Tryz.prog 34 #[.pointer (some ⟨wb,0,none⟩),.agg #[.int .i64 9,.string s,.string t,.bool cb,.string cl,.slice oa ol oc,.int .i64 h],.slice ap q cp] w fun e w'=>e=.returned (.tuple #[.int .i64 0,.int .i64 (a0:Int)])/\Below w.heap.size w w':=by
 obtain ⟨gp,rfl,hcp⟩:=hA (by omega)
 have t0:w.cell? ⟨gp,0,none⟩=some (.int .i64 (a0:Int)):=hcp 0 (by omega)
 have HP:Hid (w.cell? ⟨gp,0,none⟩=some (.int .i64 (a0:Int))):=t0
 clear hcp hA t0
 subst hq
 obtain ⟨W0,hW0⟩:∃W0,W0=w.alloc (.cells #[.int .i64 9,.string s,.string t,.bool cb,.string cl,.slice oa ol oc,.int .i64 h] 88):=⟨_,rfl⟩
 obtain ⟨lab,hlab⟩:∃lab,lab=id cl:=⟨_,rfl⟩
 obtain ⟨nt,hnt⟩:∃nt,nt=(cb && decide (lab=0)):=⟨_,rfl⟩
 have S0:Hid (Bx W0 w.heap.size 88 #[.int .i64 9,.string s,.string t,.bool cb,.string cl,.slice oa ol oc,.int .i64 h]/\Bx W0 wb 147 #[.pointer (some ⟨tb,0,none⟩),.pointer (some ⟨xb,0,none⟩)]/\WAt W0 tb xb id Q/\Below w.heap.size w W0):=by
  rw [hW0]
  exact ⟨Bx.new _ _ _,((below_alloc _ _).block _ hB.lt).trans hB,hW.below (below_alloc _ _),below_alloc _ _⟩
 have HSc:Hid (Calls Tryz.prog 73 #[.pointer (some ⟨wb,0,none⟩),.agg #[.bool cb,.string cl]] W0 fun e w'=>e=.returned (.agg #[.pointer (some ⟨xb,0,none⟩),.int .i64 lab,.bool nt])/\Below W0.heap.size W0 w'):=by
  rw [hnt,hlab]
  exact worldScope_any wb tb xb id Q cb cl W0 S0.out.2.1 S0.out.2.2.1
 have HLN:Hid (lab=id cl/\nt=(cb && decide (lab=0))):=⟨hlab,hnt⟩
 clear hlab hnt hB hW
 have c0:=S0.out.1.cell 3
 have c1:=S0.out.1.cell 4
 simp at c0 c1
 go_enter Tryz.func34,Tryz.ntmps34
 go_upto_region 1 with fail
 rw [<- hW0]
 clear hW0
 go_wp2_with fail
 (with_reducible refine HSc.out.mono ?_)
 rintro e w1 ⟨rfl,hb1⟩
 obtain ⟨W1,hW1⟩:∃W1,W1=w1.alloc (.cells #[.pointer (some ⟨xb,0,none⟩),.int .i64 lab,.bool nt] 149):=⟨_,rfl⟩
 have S1:Hid (EsS w W1 wb tb xb w1.heap.size id Q 9 s t cb cl oa ol oc h lab nt):=by
  have hb2:Below W0.heap.size W0 W1:=by rw [hW1];exact hb1.trans ((below_alloc _ _).mono hb1.size)
  refine ⟨(hb2.block _ S0.out.1.lt).trans S0.out.1,by rw [hW1];exact Bx.new _ _ _,(hb2.block _ S0.out.2.1.lt).trans S0.out.2.1,S0.out.2.2.1.below hb2,S0.out.2.2.2.trans (hb2.mono S0.out.2.2.2.size)⟩
 clear hb1 HSc c0 c1
 go_upto_region 2 with fail
 rw [<- hW1]
 clear hW1 S0
 generalize w1.heap.size=b8 at S1 ⊢
 obtain ⟨⟨p0,p1,p2,p3,p4,p5,p6⟩,⟨s0,s1,s2⟩,g0,g1⟩:=S1.out.cells
 have v0:W1.cell? ⟨gp,0,none⟩=some (.int .i64 (a0:Int)):=(S1.out.bel.cell (World.block_lt_of_cell? _ _ HP.out)).trans HP.out
 have HF:Hid (Below w.heap.size w W1):=S1.out.bel
 go_wp2
 go_region
 all_goals
  go_wp2
  refine bodyPost_ret (v:=.tuple #[.int .i64 0,.int .i64 (a0:Int)]) (by simp [results,Tryz.results34,go_sem]) rfl ⟨rfl,HF.out.drew⟩
set_option linter.unusedSimpArgs false

theorem min_three {e a b:Nat} (h:e=min a b):e<=a/\e<=b/\(e=a\/e=b):=by
 rw [h]
 refine ⟨Nat.min_le_left _ _,Nat.min_le_right _ _,?_⟩
 rcases Nat.le_total a b with q|q
 ·exact .inl (Nat.min_eq_left q)
 ·exact .inr (Nat.min_eq_right q)
set_option maxHeartbeats 4000000 in
theorem est_6 (wb tb xb:Nat) (id:ByteArray->Int) (Q:List Qd) (s t:ByteArray) (cb:Bool) (cl:ByteArray) (oa:Option Addr) (ol oc:Nat) (h:Int) (w:World) (hB:Bx w wb 147 #[.pointer (some ⟨tb,0,none⟩),.pointer (some ⟨xb,0,none⟩)]) (hW:WAt w tb xb id Q) (ap:Option Addr) (q cp:Nat) (a0 a1 mn:Nat) (wy:Int) (hwy:wy=if a0<=a1 then 0 else 1) (hmn:mn=min a0 a1) (hq:q=2) (hA:PkI w ap q (fun j=>if j=0 then a0 else a1)) (hb:a0<=1000000/\a1<=1000000) :
  Calls Tryz.prog 34 #[.pointer (some ⟨wb,0,none⟩),.agg #[.int .i64 6,.string s,.string t,.bool cb,.string cl,.slice oa ol oc,.int .i64 h],.slice ap q cp] w fun e w'=>e=.returned (.tuple #[.int .i64 wy,.int .i64 (mn:Int)])/\Below w.heap.size w w':=by
 obtain ⟨gp,rfl,hcp⟩:=hA (by omega)
 have t0:w.cell? ⟨gp,0,none⟩=some (.int .i64 (a0:Int)):=hcp 0 (by omega)
 have t1:w.cell? ⟨gp,1,none⟩=some (.int .i64 (a1:Int)):=hcp 1 (by omega)
 have HP:Hid (w.cell? ⟨gp,0,none⟩=some (.int .i64 (a0:Int))/\w.cell? ⟨gp,1,none⟩=some (.int .i64 (a1:Int))):=⟨t0,t1⟩
 clear hcp hA t0 t1
 subst hq
 obtain ⟨W0,hW0⟩:∃W0,W0=w.alloc (.cells #[.int .i64 6,.string s,.string t,.bool cb,.string cl,.slice oa ol oc,.int .i64 h] 88):=⟨_,rfl⟩
 obtain ⟨lab,hlab⟩:∃lab,lab=id cl:=⟨_,rfl⟩
 obtain ⟨nt,hnt⟩:∃nt,nt=(cb && decide (lab=0)):=⟨_,rfl⟩
 have S0:Hid (Bx W0 w.heap.size 88 #[.int .i64 6,.string s,.string t,.bool cb,.string cl,.slice oa ol oc,.int .i64 h]/\Bx W0 wb 147 #[.pointer (some ⟨tb,0,none⟩),.pointer (some ⟨xb,0,none⟩)]/\WAt W0 tb xb id Q/\Below w.heap.size w W0):=by
  rw [hW0]
  exact ⟨Bx.new _ _ _,((below_alloc _ _).block _ hB.lt).trans hB,hW.below (below_alloc _ _),below_alloc _ _⟩
 have HSc:Hid (Calls Tryz.prog 73 #[.pointer (some ⟨wb,0,none⟩),.agg #[.bool cb,.string cl]] W0 fun e w'=>e=.returned (.agg #[.pointer (some ⟨xb,0,none⟩),.int .i64 lab,.bool nt])/\Below W0.heap.size W0 w'):=by
  rw [hnt,hlab]
  exact worldScope_any wb tb xb id Q cb cl W0 S0.out.2.1 S0.out.2.2.1
 have HLN:Hid (lab=id cl/\nt=(cb && decide (lab=0))):=⟨hlab,hnt⟩
 clear hlab hnt hB hW
 have c0:=S0.out.1.cell 3
 have c1:=S0.out.1.cell 4
 simp at c0 c1
 go_enter Tryz.func34,Tryz.ntmps34
 go_upto_region 1 with fail
 rw [<- hW0]
 clear hW0
 go_wp2_with fail
 (with_reducible refine HSc.out.mono ?_)
 rintro e w1 ⟨rfl,hb1⟩
 obtain ⟨W1,hW1⟩:∃W1,W1=w1.alloc (.cells #[.pointer (some ⟨xb,0,none⟩),.int .i64 lab,.bool nt] 149):=⟨_,rfl⟩
 have S1:Hid (EsS w W1 wb tb xb w1.heap.size id Q 6 s t cb cl oa ol oc h lab nt):=by
  have hb2:Below W0.heap.size W0 W1:=by rw [hW1];exact hb1.trans ((below_alloc _ _).mono hb1.size)
  refine ⟨(hb2.block _ S0.out.1.lt).trans S0.out.1,by rw [hW1];exact Bx.new _ _ _,(hb2.block _ S0.out.2.1.lt).trans S0.out.2.1,S0.out.2.2.1.below hb2,S0.out.2.2.2.trans (hb2.mono S0.out.2.2.2.size)⟩
 clear hb1 HSc c0 c1
 go_upto_region 2 with fail
 rw [<- hW1]
 clear hW1 S0
 generalize w1.heap.size=b8 at S1 ⊢
 obtain ⟨⟨p0,p1,p2,p3,p4,p5,p6⟩,⟨s0,s1,s2⟩,g0,g1⟩:=S1.out.cells
 have HP1:Hid (∀W,Below W1.heap.size W1 W->W.cell? ⟨gp,0,none⟩=some (.int .i64 (a0:Int))/\W.cell? ⟨gp,1,none⟩=some (.int .i64 (a1:Int))):=fun W hb=>by
  have hbb:Below w.heap.size w W:=S1.out.bel.trans (hb.mono S1.out.bel.size)
  exact ⟨(hbb.cell (World.block_lt_of_cell? _ _ HP.out.1)).trans HP.out.1,(hbb.cell (World.block_lt_of_cell? _ _ HP.out.2)).trans HP.out.2⟩
 obtain ⟨bv,hbv⟩:∃bv,bv=decide (a0<=a1):=⟨_,rfl⟩
 have HFi:Hid (∀(W:World),Calls Tryz.prog 76 #[.bool bv] W fun e w'=>e=.returned (.int .i64 wy)/\w'=W):=fun W=>by
  rw [hwy,show (if a0<=a1 then (0:Int) else 1)=if bv=true then 0 else 1 by rw [hbv];simp]
  exact firstIf_any bv W
 have HBe:Hid (Below w.heap.size w W1):=S1.out.bel
 have il:decide (a0<=a1)=bv:=hbv.symm
 have HMn:Hid (mn<=a0/\mn<=a1/\(mn=a0\/mn=a1)):=min_three hmn
 clear hbv hwy hmn
 go_upto_region 18 with fail
 refine wp_region_lateT (S:=fun W=>Below W1.heap.size W1 W) 16 (by kernel_rfl) (Below.refl _ _).drew (fun W hHeld=>?_)
 refine tk 0 .zero (v:=.slice (some ⟨gp,0,none⟩) 2 cp) (fun w' h=>by clear h;go_simp) ?_
 simp only [tkp]
 refine tk 1 (.succ .zero) (v:=.pointer (some ⟨gp,0,none⟩)) (fun w' h=>by clear h;go_simp) ?_
 simp only [tkp]
 refine tk 2 (.succ (.succ .zero)) (v:=.int .i64 (a0:Int)) (fun w' h=>by have x0:=(HP1.out w' h).1;have x1:=(HP1.out w' h).2;clear h;go_simp) ?_
 simp only [tkp]
 refine tk 3 (.succ (.succ (.succ .zero))) (v:=.slice (some ⟨gp,0,none⟩) 2 cp) (fun w' h=>by clear h;go_simp) ?_
 simp only [tkp]
 refine tk 4 (.succ (.succ (.succ (.succ .zero)))) (v:=.pointer (some ⟨gp,1,none⟩)) (fun w' h=>by clear h;go_simp) ?_
 simp only [tkp]
 refine tk 5 (.s5 .zero) (v:=.int .i64 (a1:Int)) (fun w' h=>by have x0:=(HP1.out w' h).1;have x1:=(HP1.out w' h).2;clear h;go_simp) ?_
 simp only [tkp]
 refine tk 6 (.s5 (.succ .zero)) (v:=.bool bv) (fun w' h=>by clear h;go_simp) ?_
 simp only [tkp]
 refine tk 8 (.s5 (.succ (.succ (.succ .zero)))) (v:=.slice (some ⟨gp,0,none⟩) 2 cp) (fun w' h=>by clear h;go_simp) ?_
 simp only [tkp]
 refine tk 9 (.s5 (.succ (.succ (.succ (.succ .zero))))) (v:=.pointer (some ⟨gp,0,none⟩)) (fun w' h=>by clear h;go_simp) ?_
 simp only [tkp]
 refine tk 10 (.s5 (.s5 .zero)) (v:=.int .i64 (a0:Int)) (fun w' h=>by have x0:=(HP1.out w' h).1;have x1:=(HP1.out w' h).2;clear h;go_simp) ?_
 simp only [tkp]
 refine tk 11 (.s5 (.s5 (.succ .zero))) (v:=.slice (some ⟨gp,0,none⟩) 2 cp) (fun w' h=>by clear h;go_simp) ?_
 simp only [tkp]
 refine tk 12 (.s5 (.s5 (.succ (.succ .zero)))) (v:=.pointer (some ⟨gp,1,none⟩)) (fun w' h=>by clear h;go_simp) ?_
 simp only [tkp]
 refine tk 13 (.s5 (.s5 (.succ (.succ (.succ .zero))))) (v:=.int .i64 (a1:Int)) (fun w' h=>by have x0:=(HP1.out w' h).1;have x1:=(HP1.out w' h).2;clear h;go_simp) ?_
 simp only [tkp]
 refine tk 14 (.s5 (.s5 (.succ (.succ (.succ (.succ .zero)))))) (v:=.int .i64 (mn:Int)) ?_ ?_
 ·intro w' h
  clear h
  have hm9:=HMn.out
  go_simp
  all_goals omega
 simp only [tkp]
 refine tk1 7 (.s5 (.succ (.succ .zero))) (fun K hK=>?_)
 refine step_h1 rfl 76 72 _ rfl (.bool bv) rfl (fun _ _=>rfl) ?_
 refine (HFi.out W).mono ?_
 rintro e w5 ⟨rfl,rfl⟩
 refine ⟨_,rfl,hK.out _ _ (fun _=>hHeld) (fun hG=>?_)⟩
 clear hK K hG
 simp only [tkp]
 refine tk1 15 (.s5 (.s5 (.s5 .zero))) (fun K hK=>?_)
 go_simp
 refine hK.out _ _ (fun _=>hHeld) (fun hG=>?_)
 clear hK K hG
 try simp only [tkp]
 refine tk1 16 (.s5 (.s5 (.s5 (.succ .zero)))) (fun K hK=>?_)
 go_simp
 refine hK.out _ _ (fun _=>hHeld) (fun hG=>?_)
 clear hK K hG
 refine wpLate_done (by kernel_rfl) ?_ _
 have HF:Hid (Below w.heap.size w w5):=HBe.out.trans (hHeld.mono HBe.out.size)
 go_wp2
 refine bodyPost_ret (v:=.tuple #[.int .i64 wy,.int .i64 (mn:Int)]) (by simp [results,Tryz.results34,go_sem]) rfl ⟨rfl,HF.out⟩
set_option maxHeartbeats 4000000 in
theorem est_345 (wb tb xb:Nat) (id:ByteArray->Int) (Q:List Qd) (s t:ByteArray) (cb:Bool) (cl:ByteArray) (oa:Option Addr) (ol oc:Nat) (h:Int) (w:World) (hB:Bx w wb 147 #[.pointer (some ⟨tb,0,none⟩),.pointer (some ⟨xb,0,none⟩)]) (hW:WAt w tb xb id Q) (ap:Option Addr) (q cp:Nat) (k:Int) (hk:k=3\/k=4\/k=5) (a0 M es:Nat) (wy:Int) (hwy:wy=if a0<M then 0 else 1) (hes:(k≠5->es=M)/\(k=5->es=min a0 M)) (hq:q=1) (hA:PkI w ap q (fun _=>a0)) (hid:∀x,0<=id x/\id x<=2000000000) (hc0:cb=false->id cl=0) (ht:k=3\/k=4->id t=0) (hM:M=ownN id Q k s t ⟨cb,if cb=true then id cl else 0⟩) (ha:a0<=1000000) (hMl:M<=300) :
  Calls Tryz.prog 34 #[.pointer (some ⟨wb,0,none⟩),.agg #[.int .i64 k,.string s,.string t,.bool cb,.string cl,.slice oa ol oc,.int .i64 h],.slice ap q cp] w fun e w'=>e=.returned (.tuple #[.int .i64 wy,.int .i64 (es:Int)])/\Below w.heap.size w w':=by
 obtain ⟨gp,rfl,hcp⟩:=hA (by omega)
 have t0:w.cell? ⟨gp,0,none⟩=some (.int .i64 (a0:Int)):=hcp 0 (by omega)
 have HP:Hid (w.cell? ⟨gp,0,none⟩=some (.int .i64 (a0:Int))):=t0
 clear hcp hA t0
 subst hq
 obtain ⟨W0,hW0⟩:∃W0,W0=w.alloc (.cells #[.int .i64 k,.string s,.string t,.bool cb,.string cl,.slice oa ol oc,.int .i64 h] 88):=⟨_,rfl⟩
 obtain ⟨lab,hlab⟩:∃lab,lab=id cl:=⟨_,rfl⟩
 obtain ⟨nt,hnt⟩:∃nt,nt=(cb && decide (lab=0)):=⟨_,rfl⟩
 have S0:Hid (Bx W0 w.heap.size 88 #[.int .i64 k,.string s,.string t,.bool cb,.string cl,.slice oa ol oc,.int .i64 h]/\Bx W0 wb 147 #[.pointer (some ⟨tb,0,none⟩),.pointer (some ⟨xb,0,none⟩)]/\WAt W0 tb xb id Q/\Below w.heap.size w W0):=by
  rw [hW0]
  exact ⟨Bx.new _ _ _,((below_alloc _ _).block _ hB.lt).trans hB,hW.below (below_alloc _ _),below_alloc _ _⟩
 have HSc:Hid (Calls Tryz.prog 73 #[.pointer (some ⟨wb,0,none⟩),.agg #[.bool cb,.string cl]] W0 fun e w'=>e=.returned (.agg #[.pointer (some ⟨xb,0,none⟩),.int .i64 lab,.bool nt])/\Below W0.heap.size W0 w'):=by
  rw [hnt,hlab]
  exact worldScope_any wb tb xb id Q cb cl W0 S0.out.2.1 S0.out.2.2.1
 have HLN:Hid (lab=id cl/\nt=(cb && decide (lab=0))):=⟨hlab,hnt⟩
 clear hlab hnt hB hW
 have c0:=S0.out.1.cell 3
 have c1:=S0.out.1.cell 4
 simp at c0 c1
 go_enter Tryz.func34,Tryz.ntmps34
 go_upto_region 1 with fail
 rw [<- hW0]
 clear hW0
 go_wp2_with fail
 (with_reducible refine HSc.out.mono ?_)
 rintro e w1 ⟨rfl,hb1⟩
 obtain ⟨W1,hW1⟩:∃W1,W1=w1.alloc (.cells #[.pointer (some ⟨xb,0,none⟩),.int .i64 lab,.bool nt] 149):=⟨_,rfl⟩
 have S1:Hid (EsS w W1 wb tb xb w1.heap.size id Q k s t cb cl oa ol oc h lab nt):=by
  have hb2:Below W0.heap.size W0 W1:=by rw [hW1];exact hb1.trans ((below_alloc _ _).mono hb1.size)
  refine ⟨(hb2.block _ S0.out.1.lt).trans S0.out.1,by rw [hW1];exact Bx.new _ _ _,(hb2.block _ S0.out.2.1.lt).trans S0.out.2.1,S0.out.2.2.1.below hb2,S0.out.2.2.2.trans (hb2.mono S0.out.2.2.2.size)⟩
 clear hb1 HSc c0 c1
 go_upto_region 2 with fail
 rw [<- hW1]
 clear hW1 S0
 generalize w1.heap.size=b8 at S1 ⊢
 obtain ⟨⟨p0,p1,p2,p3,p4,p5,p6⟩,⟨s0,s1,s2⟩,g0,g1⟩:=S1.out.cells
 have v0:W1.cell? ⟨gp,0,none⟩=some (.int .i64 (a0:Int)):=(S1.out.bel.cell (World.block_lt_of_cell? _ _ HP.out)).trans HP.out
 obtain ⟨is,his⟩:∃is,is=id s:=⟨_,rfl⟩
 obtain ⟨it,hit⟩:∃it,it=id t:=⟨_,rfl⟩
 obtain ⟨ok,hok⟩:∃ok,ok=(decide (¬ is=0) && (decide (¬ k=5) || decide (¬ it=0))):=⟨_,rfl⟩
 have HPt:Hid (∀V,Below W1.heap.size W1 V->Calls Tryz.prog 75 #[.agg #[.int .i64 k,.string s,.string t,.bool cb,.string cl,.slice oa ol oc,.int .i64 h],.pointer (some ⟨tb,0,none⟩)] V fun e w'=>e=.returned (.tuple #[.agg #[.int .i64 0,.int .i64 is,.int .i64 it,.int .i64 0],.bool ok])/\Below V.heap.size V w'):=fun V hV=>by
  rw [hok,his,hit]
  exact pattern_any k s t cb cl oa ol oc h tb id V (fun V' x hx=>S1.out.wt.tid V' x (hV.trans (hx.mono hV.size)))
 have HCt:Hid (ok=true->∀V,Below W1.heap.size W1 V->Calls Tryz.prog 74 #[.agg #[.pointer (some ⟨xb,0,none⟩),.int .i64 lab,.bool nt],.agg #[.int .i64 0,.int .i64 is,.int .i64 it,.int .i64 0]] V fun e w'=>e=.returned (.int .i64 (M:Int))/\Below V.heap.size V w'):=fun ho V hV=>by
  have e:cntN Q lab nt ⟨0,is,it,0⟩=M:=by
   rw [hok] at ho
   simp at ho
   rw [HLN.out.2,HLN.out.1,cntN_mtL id Q cb cl ⟨0,is,it,0⟩ hc0 rfl,hM]
   unfold ownN
   rw [<- his,<- hit,if_neg ho.1]
   by_cases h5:k=5
   ·rw [if_pos h5,if_neg (ho.2.resolve_left (fun q=>q h5))]
   ·rw [if_neg h5,show it=0 from hit.trans (ht (by omega))]
  have hl:=hid cl
  rw [<- HLN.out.1] at hl
  have:=scopeCount_any tb xb id Q lab nt ⟨0,is,it,0⟩ V (S1.out.wt.below hV) (fun _=>⟨by simp,by rw [his];exact hid s,by rw [hit];exact hid t,hl⟩)
  rw [e] at this
  exact this
 have HM0:Hid (ok=false->M=0):=fun ho=>by
  rw [hM]
  unfold ownN
  rw [<- his,<- hit]
  by_cases h1:is=0
  ·rw [if_pos h1]
  ·have h5:k=5/\it=0:=by
    rw [hok] at ho
    simp [h1] at ho
    exact ho
   rw [if_neg h1,if_pos h5.1,if_pos h5.2]
 obtain ⟨lt,hlt0⟩:∃lt,lt=decide (a0<M):=⟨_,rfl⟩
 have HFi:Hid (∀(W:World),Calls Tryz.prog 76 #[.bool lt] W fun e w'=>e=.returned (.int .i64 wy)/\w'=W):=fun W=>by
  rw [hwy,show (if a0<M then (0:Int) else 1)=if lt=true then 0 else 1 by rw [hlt0];simp]
  exact firstIf_any lt W
 have HF0:Hid (∀(W:World),Calls Tryz.prog 76 #[.bool false] W fun e w'=>e=.returned (.int .i64 1)/\w'=W):=fun W=>firstIf_any false W
 have HRe:Hid ((M=0->wy=1)/\(k≠5->es=M)/\(k=5->es=min a0 M)):=⟨fun h=>by rw [hwy,if_neg (by omega)],hes⟩
 have il:decide (a0<M)=lt:=hlt0.symm
 clear hid hc0 hM hok his hit ht HP HLN hlt0 hwy hes
 rcases hk with hk|hk|hk
 all_goals
  have c1:(k == 1)=false:=by rw [hk];rfl
  have c2:(k == 2)=false:=by rw [hk];rfl
  (first|have c3:(k == 3)=true:=by rw [hk];rfl|have c3:(k == 3)=false:=by rw [hk];rfl)
  (first|have c4:(k == 4)=true:=by rw [hk];rfl|have c4:(k == 4)=false:=by rw [hk];rfl)
  (first|have c5:(k == 5)=true:=by rw [hk];rfl|have c5:(k == 5)=false:=by rw [hk];rfl)
  (first|have HK:Hid (es<=a0/\es<=M/\(es=a0\/es=M)):=min_three (HRe.out.2.2 hk)|have HK:Hid (es=M):=HRe.out.2.1 (by rw [hk];decide))
  clear hk
  go_upto_region 11 with fail
  refine wp_region_lateT (S:=fun W=>Below W1.heap.size W1 W) 11 (by kernel_rfl) (Below.refl _ _).drew (fun W hHeld=>?_)
  refine tk 0 .zero (v:=.agg #[.int .i64 k,.string s,.string t,.bool cb,.string cl,.slice oa ol oc,.int .i64 h]) (fun w' h=>by obtain ⟨⟨p0,p1,p2,p3,p4,p5,p6⟩,⟨s0,s1,s2⟩,g0,g1⟩:=(S1.out.keep h).cells;clear h;go_simp) ?_
  simp only [tkp]
  refine tk 1 (.succ .zero) (v:=.pointer (some ⟨wb,0,none⟩)) (fun w' h=>by clear h;go_simp) ?_
  simp only [tkp]
  refine tk 2 (.succ (.succ .zero)) (v:=.pointer (some ⟨wb,0,none⟩)) (fun w' h=>by clear h;go_simp) ?_
  simp only [tkp]
  refine tk 3 (.succ (.succ (.succ .zero))) (v:=.pointer (some ⟨wb,0,none⟩)) (fun w' h=>by clear h;go_simp) ?_
  simp only [tkp]
  refine tk 4 (.succ (.succ (.succ (.succ .zero)))) (v:=.pointer (some ⟨tb,0,none⟩)) (fun w' h=>by obtain ⟨⟨p0,p1,p2,p3,p4,p5,p6⟩,⟨s0,s1,s2⟩,g0,g1⟩:=(S1.out.keep h).cells;clear h;go_simp) ?_
  simp only [tkp]
  refine late_2 5 9 (.s5 .zero) (.s5 (.succ (.succ (.succ (.succ .zero))))) (by kernel_rfl) (fun K hK=>?_) (fun K hK=>?_)
  ·refine step_h2 rfl 75 36 40 _ rfl (.agg #[.int .i64 k,.string s,.string t,.bool cb,.string cl,.slice oa ol oc,.int .i64 h]) (.pointer (some ⟨tb,0,none⟩)) rfl rfl (fun _ _=>rfl) ?_
   refine (HPt.out W hHeld).mono ?_
   rintro e u5 ⟨rfl,hbm⟩
   have h_u5:Below W1.heap.size W1 u5:=hHeld.trans (hbm.mono hHeld.size)

   refine ⟨_,rfl,hK.out _ _ (fun _=>h_u5) (fun hG=>?_)⟩
   clear hK K hG hbm hHeld
   simp only [tkp]
   refine tk 6 (.s5 (.succ .zero)) (v:=.tuple #[.agg #[.int .i64 0,.int .i64 is,.int .i64 it,.int .i64 0],.bool ok]) (fun w' h=>by clear h;go_simp) ?_
   simp only [tkp]
   refine tk 7 (.s5 (.succ (.succ .zero))) (v:=.agg #[.int .i64 0,.int .i64 is,.int .i64 it,.int .i64 0]) (fun w' h=>by clear h;go_simp) ?_
   simp only [tkp]
   refine tk 8 (.s5 (.succ (.succ (.succ .zero)))) (v:=.bool ok) (fun w' h=>by clear h;go_simp) ?_
   simp only [tkp]
   refine tk1 9 (.s5 (.succ (.succ (.succ (.succ .zero))))) (fun K hK=>?_)
   go_simp
   have h_wa:Below W1.heap.size W1 (u5.alloc (.cells #[.int .i64 0,.int .i64 0,.int .i64 0,.int .i64 0] 122)):=h_u5.alloc h_u5.size _
   have bx:Bx (u5.alloc (.cells #[.int .i64 0,.int .i64 0,.int .i64 0,.int .i64 0] 122)) u5.heap.size 122 #[.int .i64 0,.int .i64 0,.int .i64 0,.int .i64 0]:=Bx.new _ _ _
   have hbx:W1.heap.size<=u5.heap.size:=h_u5.size
   refine hK.out _ _ (fun _=>h_wa) (fun hG=>?_)
   clear hK K hG h_u5
   try simp only [tkp]
   obtain ⟨ba,hba⟩:∃ba,ba=u5.heap.size:=⟨_,rfl⟩
   rw [<- hba] at bx hbx ⊢
   generalize u5.alloc (.cells #[.int .i64 0,.int .i64 0,.int .i64 0,.int .i64 0] 122)=wa at bx h_wa ⊢
   clear hba
   obtain ⟨wz,hwz⟩:∃wz,wz=wa:=⟨_,rfl⟩
   rw [<- hwz] at bx h_wa ⊢
   have h_wz:=h_wa
   clear h_wa hwz
   have c0:=bx.cell 0
   have d1:=bx.cell 1
   have d2:=bx.cell 2
   have d3:=bx.cell 3
   simp at c0 d1 d2 d3
   have ff:∀i,wz.frozen? ⟨ba,i,none⟩=false:=fun i=>by have:=bx;unfold Bx at this;simp [World.frozen?,this]
   have hlt:=bx.lt
   have HB:Hid (Bx wz ba 122 #[.int .i64 0,.int .i64 0,.int .i64 0,.int .i64 0]/\Below W1.heap.size W1 wz):=⟨bx,h_wz⟩
   clear bx
   refine tk1 10 (.s5 (.s5 .zero)) (fun K hK=>?_)
   go_simp
   obtain ⟨W7,hW7⟩:∃W7,W7=(((wz.setCell ⟨ba,0,none⟩ (.int .i64 0)).setCell ⟨ba,1,none⟩ (.int .i64 is)).setCell ⟨ba,2,none⟩ (.int .i64 it)).setCell ⟨ba,3,none⟩ (.int .i64 0):=⟨_,rfl⟩
   have h7:Below W1.heap.size W1 W7:=by
    rw [hW7]
    exact (((HB.out.2.setCell hbx _).setCell hbx _).setCell hbx _).setCell hbx _
   have H7:Hid (Below W1.heap.size W1 W7/\Bx W7 ba 122 #[.int .i64 0,.int .i64 is,.int .i64 it,.int .i64 0]/\EsS w W7 wb tb xb b8 id Q k s t cb cl oa ol oc h lab nt):=by
    refine ⟨h7,?_,S1.out.keep h7⟩
    rw [hW7]
    exact pt_store HB.out.1
   rw [<- hW7]
   clear hW7 c0 d1 d2 d3 ff hlt HB hbx h_wz
   refine hK.out _ _ (fun _=>h7) (fun hG=>?_)
   clear hK K hG
   try simp only [tkp]
   refine tk1 11 (.s5 (.s5 (.succ .zero))) (fun K hK=>?_)
   go_simp
   refine hK.out _ _ (fun _=>h7) (fun hG=>?_)
   clear hK K hG h7
   refine wpLate_done (by kernel_rfl) ?_ _
   clear p0 p1 p2 p3 p4 p5 p6 s0 s1 s2 g0 g1 v0
   obtain ⟨⟨p0,p1,p2,p3,p4,p5,p6⟩,⟨s0,s1,s2⟩,g0,g1⟩:=H7.out.2.2.cells
   have q0:=H7.out.2.1.cell 0
   have q1:=H7.out.2.1.cell 1
   have q2:=H7.out.2.1.cell 2
   have q3:=H7.out.2.1.cell 3
   simp at q0 q1 q2 q3
   cases ok with
   | false=>
    have HF:Hid (M=0/\Below w.heap.size w W7):=⟨HM0.out rfl,H7.out.2.2.bel⟩
    clear HCt HM0 il
    have i0:¬ (a0:Int)<0:=by omega
    have i1:decide ((a0:Int)<0)=false:=decide_eq_false i0
    go_wp2_with fail
    (with_reducible refine (HF0.out W7).mono ?_)
    rintro e w8 ⟨rfl,rfl⟩
    go_wp2
    all_goals
     refine bodyPost_ret (v:=.tuple #[.int .i64 1,.int .i64 (es:Int)]) (by simp [results,Tryz.results34,go_sem] <;> (have h1:=HK.out;have h2:=HF.out.1;omega)) rfl ⟨by rw [HRe.out.1 HF.out.1],HF.out.2⟩
   | true=>
    go_wp2_with fail
    (with_reducible refine (HCt.out (by simp) W7 H7.out.1).mono ?_)
    rintro e w8 ⟨rfl,hb8⟩
    have H8:Hid (EsS w w8 wb tb xb b8 id Q k s t cb cl oa ol oc h lab nt):=H7.out.2.2.keep hb8
    clear hb8 p0 p1 p2 p3 p4 p5 p6 s0 s1 s2 g0 g1 q0 q1 q2 q3 H7
    obtain ⟨⟨p0,p1,p2,p3,p4,p5,p6⟩,⟨s0,s1,s2⟩,g0,g1⟩:=H8.out.cells
    have HF:Hid (Below w.heap.size w w8):=H8.out.bel
    go_wp2_with fail
    (with_reducible refine (HFi.out w8).mono ?_)
    rintro e w9 ⟨rfl,rfl⟩
    go_wp2
    all_goals
     refine bodyPost_ret (v:=.tuple #[.int .i64 wy,.int .i64 (es:Int)]) (by simp [results,Tryz.results34,go_sem] <;> (have h1:=HK.out;omega)) rfl ⟨rfl,HF.out⟩
  ·go_simp
   have h_wa:Below W1.heap.size W1 (W.alloc (.cells #[.int .i64 0,.int .i64 0,.int .i64 0,.int .i64 0] 122)):=hHeld.alloc hHeld.size _
   have bx:Bx (W.alloc (.cells #[.int .i64 0,.int .i64 0,.int .i64 0,.int .i64 0] 122)) W.heap.size 122 #[.int .i64 0,.int .i64 0,.int .i64 0,.int .i64 0]:=Bx.new _ _ _
   have hbx:W1.heap.size<=W.heap.size:=hHeld.size
   refine hK.out _ _ (fun _=>h_wa) (fun hG=>?_)
   clear hK K hG hHeld
   try simp only [tkp]
   obtain ⟨ba,hba⟩:∃ba,ba=W.heap.size:=⟨_,rfl⟩
   rw [<- hba] at bx hbx ⊢
   generalize W.alloc (.cells #[.int .i64 0,.int .i64 0,.int .i64 0,.int .i64 0] 122)=wa at bx h_wa ⊢
   clear hba
   refine tk1 5 (.s5 .zero) (fun K hK=>?_)
   refine step_h2 rfl 75 36 40 _ rfl (.agg #[.int .i64 k,.string s,.string t,.bool cb,.string cl,.slice oa ol oc,.int .i64 h]) (.pointer (some ⟨tb,0,none⟩)) rfl rfl (fun _ _=>rfl) ?_
   refine (HPt.out wa h_wa).mono ?_
   rintro e v5 ⟨rfl,hbm⟩
   have h_v5:Below W1.heap.size W1 v5:=h_wa.trans (hbm.mono h_wa.size)
   replace bx:Bx v5 ba 122 #[.int .i64 0,.int .i64 0,.int .i64 0,.int .i64 0]:=(hbm.block _ bx.lt).trans bx
   refine ⟨_,rfl,hK.out _ _ (fun _=>h_v5) (fun hG=>?_)⟩
   clear hK K hG hbm h_wa
   simp only [tkp]
   refine tk 6 (.s5 (.succ .zero)) (v:=.tuple #[.agg #[.int .i64 0,.int .i64 is,.int .i64 it,.int .i64 0],.bool ok]) (fun w' h=>by clear h;go_simp) ?_
   simp only [tkp]
   refine tk 7 (.s5 (.succ (.succ .zero))) (v:=.agg #[.int .i64 0,.int .i64 is,.int .i64 it,.int .i64 0]) (fun w' h=>by clear h;go_simp) ?_
   simp only [tkp]
   refine tk 8 (.s5 (.succ (.succ (.succ .zero)))) (v:=.bool ok) (fun w' h=>by clear h;go_simp) ?_
   simp only [tkp]
   obtain ⟨wz,hwz⟩:∃wz,wz=v5:=⟨_,rfl⟩
   rw [<- hwz] at bx h_v5 ⊢
   have h_wz:=h_v5
   clear h_v5 hwz
   have c0:=bx.cell 0
   have d1:=bx.cell 1
   have d2:=bx.cell 2
   have d3:=bx.cell 3
   simp at c0 d1 d2 d3
   have ff:∀i,wz.frozen? ⟨ba,i,none⟩=false:=fun i=>by have:=bx;unfold Bx at this;simp [World.frozen?,this]
   have hlt:=bx.lt
   have HB:Hid (Bx wz ba 122 #[.int .i64 0,.int .i64 0,.int .i64 0,.int .i64 0]/\Below W1.heap.size W1 wz):=⟨bx,h_wz⟩
   clear bx
   refine tk1 10 (.s5 (.s5 .zero)) (fun K hK=>?_)
   go_simp
   obtain ⟨W7,hW7⟩:∃W7,W7=(((wz.setCell ⟨ba,0,none⟩ (.int .i64 0)).setCell ⟨ba,1,none⟩ (.int .i64 is)).setCell ⟨ba,2,none⟩ (.int .i64 it)).setCell ⟨ba,3,none⟩ (.int .i64 0):=⟨_,rfl⟩
   have h7:Below W1.heap.size W1 W7:=by
    rw [hW7]
    exact (((HB.out.2.setCell hbx _).setCell hbx _).setCell hbx _).setCell hbx _
   have H7:Hid (Below W1.heap.size W1 W7/\Bx W7 ba 122 #[.int .i64 0,.int .i64 is,.int .i64 it,.int .i64 0]/\EsS w W7 wb tb xb b8 id Q k s t cb cl oa ol oc h lab nt):=by
    refine ⟨h7,?_,S1.out.keep h7⟩
    rw [hW7]
    exact pt_store HB.out.1
   rw [<- hW7]
   clear hW7 c0 d1 d2 d3 ff hlt HB hbx h_wz
   refine hK.out _ _ (fun _=>h7) (fun hG=>?_)
   clear hK K hG
   try simp only [tkp]
   refine tk1 11 (.s5 (.s5 (.succ .zero))) (fun K hK=>?_)
   go_simp
   refine hK.out _ _ (fun _=>h7) (fun hG=>?_)
   clear hK K hG h7
   refine wpLate_done (by kernel_rfl) ?_ _
   clear p0 p1 p2 p3 p4 p5 p6 s0 s1 s2 g0 g1 v0
   obtain ⟨⟨p0,p1,p2,p3,p4,p5,p6⟩,⟨s0,s1,s2⟩,g0,g1⟩:=H7.out.2.2.cells
   have q0:=H7.out.2.1.cell 0
   have q1:=H7.out.2.1.cell 1
   have q2:=H7.out.2.1.cell 2
   have q3:=H7.out.2.1.cell 3
   simp at q0 q1 q2 q3
   cases ok with
   | false=>
    have HF:Hid (M=0/\Below w.heap.size w W7):=⟨HM0.out rfl,H7.out.2.2.bel⟩
    clear HCt HM0 il
    have i0:¬ (a0:Int)<0:=by omega
    have i1:decide ((a0:Int)<0)=false:=decide_eq_false i0
    go_wp2_with fail
    (with_reducible refine (HF0.out W7).mono ?_)
    rintro e w8 ⟨rfl,rfl⟩
    go_wp2
    all_goals
     refine bodyPost_ret (v:=.tuple #[.int .i64 1,.int .i64 (es:Int)]) (by simp [results,Tryz.results34,go_sem] <;> (have h1:=HK.out;have h2:=HF.out.1;omega)) rfl ⟨by rw [HRe.out.1 HF.out.1],HF.out.2⟩
   | true=>
    go_wp2_with fail
    (with_reducible refine (HCt.out (by simp) W7 H7.out.1).mono ?_)
    rintro e w8 ⟨rfl,hb8⟩
    have H8:Hid (EsS w w8 wb tb xb b8 id Q k s t cb cl oa ol oc h lab nt):=H7.out.2.2.keep hb8
    clear hb8 p0 p1 p2 p3 p4 p5 p6 s0 s1 s2 g0 g1 q0 q1 q2 q3 H7
    obtain ⟨⟨p0,p1,p2,p3,p4,p5,p6⟩,⟨s0,s1,s2⟩,g0,g1⟩:=H8.out.cells
    have HF:Hid (Below w.heap.size w w8):=H8.out.bel
    go_wp2_with fail
    (with_reducible refine (HFi.out w8).mono ?_)
    rintro e w9 ⟨rfl,rfl⟩
    go_wp2
    all_goals
     refine bodyPost_ret (v:=.tuple #[.int .i64 wy,.int .i64 (es:Int)]) (by simp [results,Tryz.results34,go_sem] <;> (have h1:=HK.out;omega)) rfl ⟨rfl,HF.out⟩
set_option linter.unusedSimpArgs false

theorem node_base {I:Nat->Int}:∀(f base m:Nat),m+1<=f->Begins (fun i=>arOf (I (base+i))) (m+1) 0->∀t,t<=m->∃b' m',b'+m'=base+t/\m'<=m/\Begins (fun i=>arOf (I (b'+i))) (m'+1) 0
 | 0,base,m,hf,_,_,_=>absurd hf (by omega)
 | f+1,base,m,hf,hb,t,ht=>by
  by_cases e:t=m
  ·exact ⟨base,m,by rw [e],Nat.le_refl _,hb⟩
  rcases ops_at hb with ⟨e,hm⟩|⟨e,h0,e0,g0⟩|⟨e,s,h0,h1,e0,e1,g0,g1⟩
  ·omega
  ·obtain ⟨b',m',q1,q2,q3⟩:=node_base f base (m-1) (by omega) g0 t (by omega)
   exact ⟨b',m',q1,by omega,q3⟩
  ·by_cases q:t<s
   ·obtain ⟨b',m',q1,q2,q3⟩:=node_base f base (s-1) (by omega) g0 t (by omega)
    exact ⟨b',m',q1,by omega,q3⟩
   ·obtain ⟨b',m',q1,q2,q3⟩:=node_base f (base+s) (m-s-1) (by omega) g1 (t-s) (by omega)
    exact ⟨b',m',by omega,by omega,q3⟩
theorem vp_begins {n:Nat} {I:Nat->Int} {X R:Nat->ByteArray} (hv:VPth n I X R):Begins (fun i=>arOf (I (0+i))) (n-1+1) 0:=by
 have:=hv.2.2.1
 have h1:=hv.1
 rw [show n-1+1=n by omega]
 simpa only [Nat.zero_add] using this
theorem vp_kind {n:Nat} {I:Nat->Int} {X R:Nat->ByteArray} (hv:VPth n I X R) {i:Nat} (hi:i<n):1<=I i/\I i<=9:=gn_range (hv.2.1 i hi)
theorem vp_oplt {n:Nat} {I:Nat->Int} {X R:Nat->ByteArray} (hv:VPth n I X R) {i j:Nat} (hi:i<n) (hj:j<arOf (I i)):opf (arI I) i j<i:=by
 have hs:StackOk (arI I) n:=((whole_iff _ n (by omega)).1 hv.2.2.1).1
 exact Go.Proofs.YtpaomghibppgkaaGreat.opf_lt hs hi (arI_le _ _) hj
theorem GS_small {id:ByteArray->Int} {Q:List Qd} {n:Nat} {I:Nat->Int} {X R:Nat->ByteArray} (hv:VPth n I X R) (hQ:Q.length<=300) {i:Nat} (hi:i<n) (x:Cx):GS id Q I X R i x<=1000000:=by
 have h1:=hv.1
 obtain ⟨b',m',q1,q2,q3⟩:=node_base n 0 (n-1) (by omega) (vp_begins hv) i (by omega)
 have:=GS_le (id:=id) (Q:=Q) (X:=X) (R:=R) (N:=n) (fun i hi=>vp_kind hv hi) hQ (m'+1) b' m' (Nat.le_refl _) (by omega) q3 x
 rw [q1,Nat.zero_add] at this
 have h9:GS id Q I X R i x<=600*(m'+1):=this
 omega
theorem idF_num {next:Int} {n:Nat} {I:Nat->Int} {X:Nat->ByteArray} {R:Nat->Int} (hv:VDt next n I X R) (x:ByteArray):0<=idF n I X x/\idF n I X x<=2000000000:=by
 have hn:next<=2000000000:=by
  have:=hv.1
  unfold nuB at this
  simp at this
  omega
 rcases (idF_of hv x).1 hv with ⟨i,hi,_,e⟩|⟨_,e⟩
 ·rw [e]
  have:=(hv.2.2 i hi).1.2.1
  omega
 ·rw [e]
  omega
theorem idF_none {next:Int} {n:Nat} {I:Nat->Int} {X:Nat->ByteArray} {R:Nat->Int} (hv:VDt next n I X R) {x:ByteArray} (hx:x.size=0):idF n I X x=0:=by
 rcases (idF_of hv x).1 hv with ⟨i,hi,e,_⟩|⟨_,e⟩
 ·have:=(hv.2.2 i hi).1.1
  rw [e] at this
  omega
 ·exact e
theorem vp_rest {n:Nat} {I:Nat->Int} {X R:Nat->ByteArray} (hv:VPth n I X R) {i:Nat} (hi:i<n) (hk:I i=3\/I i=4):(R i).size=0:=by
 have h:=hv.2.1 i hi
 unfold gnB at h
 rw [if_neg (by omega),if_pos (by omega),Bool.and_eq_true] at h
 have h2:=h.2
 have h3:=emS_yes h2
 rw [ByteArray.toList_eq] at h3
 show (R i).data.size=0
 have:=congrArg List.length h3
 simpa using this
theorem ctx_free {n:Nat} {I:Nat->Int} {X R:Nat->ByteArray} {Bd:Nat->Bool} {Lb:Nat->ByteArray} (hv:VPth n I X R) (hc:CtxC n I X Bd Lb) {i:Nat} (hi:i<n):Bd i=false->(Lb i).size=0:=by
 have h1:=hv.1
 have:=ctx_all (I:=I) (N:=n) (P:=fun i=>Bd i=false->(Lb i).size=0) (fun i hi h j hj hf=>by
  obtain ⟨q1,q2⟩:=hc.2.2 i (Nat.zero_le _) hi j hj
  rw [q1] at hf
  rw [q2]
  unfold dnB at hf
  unfold dnG
  by_cases h9:I i=9
  ·rw [if_pos h9] at hf;cases hf
  ·rw [if_neg h9] at hf ⊢
   exact h hf) n 0 (n-1) (by omega) (by omega) (vp_begins hv) (by
    show Bd (0+(n-1))=false->_
    rw [Nat.zero_add]
    intro _
    rw [hc.2.1]
    rfl) i (by omega)
 rw [Nat.zero_add] at this
 exact this
def cxN (id:ByteArray->Int) (Bd:Nat->Bool) (Lb:Nat->ByteArray) (i:Nat):Cx:=⟨Bd i,if Bd i=true then id (Lb i) else 0⟩
theorem cxN_down {id:ByteArray->Int} {n:Nat} {I:Nat->Int} {X:Nat->ByteArray} {Bd:Nat->Bool} {Lb:Nat->ByteArray} (hc:CtxC n I X Bd Lb) {i:Nat} (hi:i<n) {j:Nat} (hj:j<arOf (I i)):cxN id Bd Lb (opf (arI I) i j)=dnC id (I i) (X i) (cxN id Bd Lb i):=by
 obtain ⟨q1,q2⟩:=hc.2.2 i (Nat.zero_le _) hi j hj
 unfold cxN dnC
 rw [q1,q2]
 unfold dnB dnG
 by_cases h9:I i=9
 ·rw [if_pos h9,if_pos h9,if_pos h9,if_pos rfl]
 ·rw [if_neg h9,if_neg h9,if_neg h9]
theorem cxN_root {id:ByteArray->Int} {n:Nat} {I:Nat->Int} {X:Nat->ByteArray} {Bd:Nat->Bool} {Lb:Nat->ByteArray} (hc:CtxC n I X Bd Lb):cxN id Bd Lb (n-1)=⟨false,0⟩:=by
 unfold cxN
 rw [hc.1]
 rfl
theorem PkI.two {w:World} {ap:Option Addr} {q:Nat} {A:Nat->Nat} (h:PkI w ap q A) (hq:q=2):PkI w ap q (fun j=>if j=0 then A 0 else A 1):=fun h0=>by
 obtain ⟨g,e,hc⟩:=h h0
 refine ⟨g,e,fun j hj=>?_⟩
 rcases (show j=0\/j=1 by omega) with rfl|rfl
 ·exact hc 0 hj
 ·exact hc 1 hj
theorem PkI.one {w:World} {ap:Option Addr} {q:Nat} {A:Nat->Nat} (h:PkI w ap q A) (hq:q=1):PkI w ap q (fun _=>A 0):=fun h0=>by
 obtain ⟨g,e,hc⟩:=h h0
 refine ⟨g,e,fun j hj=>?_⟩
 obtain rfl:j=0:=by omega
 exact hc 0 hj
theorem pkI_of {w:World} {B q:Nat} {v:Value} {Y:Nat->Nat} {F:Nat->Nat} (h:w.ownsRow B 2 1 v q (picksI Y F q)):∃ap cp,v=.slice ap q cp/\PkI w ap q (fun j=>Y (F j)):=by
 obtain ⟨_,⟨rfl,h0⟩|⟨g,cap,cur,rfl,hg,hb,h1,h2,h3,h4⟩⟩:=h
 ·exact ⟨none,0,by rw [h0],fun q=>by omega⟩
 ·refine ⟨_,_,rfl,fun _=>⟨g,rfl,fun i hi=>?_⟩⟩
  have e:(picksI Y F q)[i]?=some (.int .i64 (Y (F i):Int)):=by
   unfold picksI
   rw [List.getElem?_map,List.getElem?_range hi]
   rfl
  rw [<- h4,List.getElem?_take_of_lt (by omega),Array.getElem?_toList] at e
  simp only [World.cell?,hb]
  exact e
theorem estimate_any (k:Int) (hk:1<=k/\k<=9) (wb tb xb:Nat) (id:ByteArray->Int) (Q:List Qd) (s t:ByteArray) (cb:Bool) (cl:ByteArray) (oa:Option Addr) (ol oc:Nat) (h:Int) (w:World) (hB:Bx w wb 147 #[.pointer (some ⟨tb,0,none⟩),.pointer (some ⟨xb,0,none⟩)]) (hW:WAt w tb xb id Q)
  (ap:Option Addr) (q cp:Nat) (hq:q=arOf k) (A:Nat->Nat) (hA:PkI w ap q A) (hb:∀j,j<q->A j<=1000000) (hid:∀x,0<=id x/\id x<=2000000000) (hc0:cb=false->id cl=0) (ht:k=3\/k=4->id t=0) (hQ:Q.length<=300) :
  Calls Tryz.prog 34 #[.pointer (some ⟨wb,0,none⟩),.agg #[.int .i64 k,.string s,.string t,.bool cb,.string cl,.slice oa ol oc,.int .i64 h],.slice ap q cp] w fun e w'=>e=.returned (.tuple #[.int .i64 (wayN k (ownN id Q k s t ⟨cb,if cb=true then id cl else 0⟩) (A 0) (A 1):Int),.int .i64 (nodeG k (ownN id Q k s t ⟨cb,if cb=true then id cl else 0⟩) (mtL Q ⟨cb,if cb=true then id cl else 0⟩ ⟨0,0,0,0⟩).length (A 0) (A 1):Int)])/\Below w.heap.size w w':=by
 obtain ⟨ow,how⟩:∃ow,ow=ownN id Q k s t ⟨cb,if cb=true then id cl else 0⟩:=⟨_,rfl⟩
 obtain ⟨al,hal⟩:∃al,al=(mtL Q ⟨cb,if cb=true then id cl else 0⟩ ⟨0,0,0,0⟩).length:=⟨_,rfl⟩
 have hol:ow<=300:=by rw [how];exact Nat.le_trans (ownN_le ..) hQ
 have hall:al<=300:=by rw [hal];exact Nat.le_trans (mtL_le ..) hQ
 rw [<- how,<- hal]
 have h9:k=1\/k=2\/k=3\/k=4\/k=5\/k=6\/k=7\/k=8\/k=9:=by omega
 rcases h9 with rfl|rfl|rfl|rfl|rfl|rfl|rfl|rfl|rfl
 ·refine (est_1 wb tb xb id Q s t cb cl oa ol oc h w hB hW ap q cp al hid hc0 hal hall).mono ?_
  rintro e w' ⟨rfl,hb⟩
  exact ⟨by simp [wayN,nodeG],hb⟩
 ·refine (est_2 wb tb xb id Q s t cb cl oa ol oc h w hB hW ap q cp).mono ?_
  rintro e w' ⟨rfl,hb⟩
  exact ⟨by simp [wayN,nodeG],hb⟩
 ·have hq1:q=1:=hq.trans (by simp [arOf])
  exact est_345 wb tb xb id Q s t cb cl oa ol oc h w hB hW ap q cp 3 (.inl rfl) (A 0) ow _ _ (by simp only [wayN];rw [if_pos (by decide)];split <;> rfl) ⟨fun _=>by simp [nodeG],fun h=>absurd h (by decide)⟩ hq1 (hA.one hq1) hid hc0 ht how (hb 0 (by omega)) hol
 ·have hq1:q=1:=hq.trans (by simp [arOf])
  exact est_345 wb tb xb id Q s t cb cl oa ol oc h w hB hW ap q cp 4 (.inr (.inl rfl)) (A 0) ow _ _ (by simp only [wayN];rw [if_pos (by decide)];split <;> rfl) ⟨fun _=>by simp [nodeG],fun h=>absurd h (by decide)⟩ hq1 (hA.one hq1) hid hc0 ht how (hb 0 (by omega)) hol
 ·have hq1:q=1:=hq.trans (by simp [arOf])
  exact est_345 wb tb xb id Q s t cb cl oa ol oc h w hB hW ap q cp 5 (.inr (.inr rfl)) (A 0) ow _ _ (by simp only [wayN];rw [if_pos (by decide)];split <;> rfl) ⟨fun h=>absurd rfl h,fun _=>by simp [nodeG]⟩ hq1 (hA.one hq1) hid hc0 ht how (hb 0 (by omega)) hol
 ·have hq2:q=2:=hq.trans (by simp [arOf])
  exact est_6 wb tb xb id Q s t cb cl oa ol oc h w hB hW ap q cp (A 0) (A 1) _ _ (by simp only [wayN];rw [if_neg (by decide),if_pos trivial];split <;> rfl) (by simp [nodeG]) hq2 (hA.two hq2) ⟨hb 0 (by omega),hb 1 (by omega)⟩
 ·have hq2:q=2:=hq.trans (by simp [arOf])
  refine (est_7 wb tb xb id Q s t cb cl oa ol oc h w hB hW ap q cp (A 0) (A 1) hq2 (hA.two hq2) ⟨hb 0 (by omega),hb 1 (by omega)⟩).mono ?_
  rintro e w' ⟨rfl,hb⟩
  exact ⟨by simp [wayN,nodeG],hb⟩
 ·have hq2:q=2:=hq.trans (by simp [arOf])
  refine (est_8 wb tb xb id Q s t cb cl oa ol oc h w hB hW ap q cp (A 0) (A 1) hq2 (hA.two hq2)).mono ?_
  rintro e w' ⟨rfl,hb⟩
  exact ⟨by simp [wayN,nodeG],hb⟩
 ·have hq1:q=1:=hq.trans (by simp [arOf])
  refine (est_9 wb tb xb id Q s t cb cl oa ol oc h w hB hW ap q cp (A 0) hq1 (hA.one hq1)).mono ?_
  rintro e w' ⟨rfl,hb⟩
  exact ⟨by simp [wayN,nodeG],hb⟩
end Go.Proofs.YtpaomghibppgkaaGreat
