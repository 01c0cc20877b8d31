import Derived.Test.YtpaomghibppgkaaGreatNv51
import Derived.Laws.Cover1
import Derived.Deep.CutRange
import Derived.Test.YtpaomghibppgkaaGreatNv30
import Derived.Test.YtpaomghibppgkaaGreatNv27
import Derived.Test.YtpaomghibppgkaaGreatNv4
import Derived.Test.YtpaomghibppgkaaGreatNv3
import Derived.Test.YtpaomghibppgkaaGreatNv1
import Derived.Deep.CutBlock
import Derived.Test.YtpaomghibppgkaaGreatNv11
set_option linter.unusedVariables false
set_option maxRecDepth 100000
namespace Go.Proofs.YtpaomghibppgkaaGreat
open Go.RowKit Go.Deep
set_option linter.unusedSimpArgs false

def OwI (W:World) (B:Nat) (ad:Option Addr) (L:List Nat):Prop:=L=[]\/∃g,ad=some ⟨g,0,none⟩/\B<=g/\rowIn W g 2 L.length (fun i=>.int .i64 ((L.getD i 0:Nat):Int))
def RetIr (w:World) (L:List Nat) (e:Ending) (w' : World):Prop:=∃a c,e=.returned (.slice a L.length c)/\OwI w' w.heap.size a L/\Below w.heap.size w w'
theorem RetIl.ir {w w' : World} {L:List Nat} {e:Ending} (h:RetIl w L e w'):RetIr w L e w':=by
 obtain ⟨v,rfl,⟨hl,ho⟩,hb⟩:=h
 rcases ho with ⟨rfl,h0⟩|⟨g,cap,cur,rfl,hg,hh,h1,h2,h3,h4⟩
 ·have e:L=[]:=List.length_eq_zero_iff.1 h0
  subst e
  exact ⟨none,0,rfl,.inl rfl,hb⟩
 ·refine ⟨_,_,rfl,.inr ⟨g,rfl,hg,cur,hh,by rw [h3];omega,fun i hi=>?_⟩,hb⟩
  have e:(il L)[i]?=some (.int .i64 ((L.getD i 0:Nat):Int)):=by
   unfold il
   rw [List.getElem?_map,List.getElem?_eq_getElem hi]
   simp [List.getD,List.getElem?_eq_getElem hi]
  rw [<- h4,List.getElem?_take_of_lt (by omega),Array.getElem?_toList] at e
  exact e
def RetDi (w:World) (n:Nat) (I:Nat->Int) (X R:Nat->ByteArray) (next:Int) (dn:Nat) (Id:Nat->Int) (Xd:Nat->ByteArray) (Rf:Nat->Int) (xn:Nat) (M:Nat->Nat) (T:Nat->Nat->Tn) (e:Ending) (w' : World):Prop:=
 ((VPth n I X R/\VDt next dn Id Xd Rf/\VI xn M T)->∀t,VTt (M 0) (T 0) t->RetIr w (DLF fsQ (idF dn Id Xd) ((keysR 21 t).map (quadOf 0)) I X R n 0 (n-1) ⟨false,0⟩) e w')/\(¬ (VPth n I X R/\VDt next dn Id Xd Rf/\VI xn M T)->RetIr w [] e w')
theorem RetDp.di {w:World} {n:Nat} {I:Nat->Int} {X R:Nat->ByteArray} {next:Int} {dn:Nat} {Id:Nat->Int} {Xd:Nat->ByteArray} {Rf:Nat->Int} {xn:Nat} {M:Nat->Nat} {T:Nat->Nat->Tn} {e:Ending} {w' : World} (h:RetDp w n I X R next dn Id Xd Rf xn M T e w'):RetDi w n I X R next dn Id Xd Rf xn M T e w':=
 ⟨fun q t ht=>(h.1 q t ht).ir,fun q=>(h.2 q).ir⟩
def DpR (W:World) (gp gt n k:Nat) (C G:Nat->Nat):Prop:=∃zp z:Nat->Nat,rowIn W gp 2 n (fun i=>.int .i64 (zp i:Int))/\rowIn W gt 2 n (fun i=>.int .i64 (z i:Int))/\(∀i,i<k->zp i=C i)/\∀i,i<k->z i=G i
set_option maxHeartbeats 8000000 in
theorem implDP (pa:Option Addr) (n pc:Nat) (I:Nat->Int) (X R:Nat->ByteArray) (next:Int) (da:Option Addr) (dn dc:Nat) (Id:Nat->Int) (Xd:Nat->ByteArray) (Rf:Nat->Int) (xa:Option Addr) (xn xc:Nat) (M:Nat->Nat) (T:Nat->Nat->Tn) (w:World)
  (hP:RdN w pa n I X R) (hn:n<=1048576) (hpc:n<=pc) (hpm:pc<=9223372036854775807) (hD:RdT w da dn Id Xd Rf) (hdn:dn<=1048576) (hX:RdIx w xa xn M T) (hxn:xn<=1048576) (hxf:IxFit xn M T) :
  Calls Tryz.prog 11 #[.agg #[.slice pa n pc],.agg #[.int .i64 next,.slice da dn dc],.agg #[.slice xa xn xc]] w (RetDi w n I X R next dn Id Xd Rf xn M T):=by
 have HRd:Hid (∀W,Below w.heap.size w W->Calls Tryz.prog 32 #[.agg #[.slice pa n pc]] W (PathRet (CtxC n I X) W n I X R)):=fun W hW=>readPath_c pa n pc I X R W (hP.below hW) hn hpc hpm
 have HRw:Hid (∀W,Below w.heap.size w W->Calls Tryz.prog 33 #[.agg #[.int .i64 next,.slice da dn dc],.agg #[.slice xa xn xc]] W (RetW W next dn Id Xd Rf xn M T)):=fun W hW=>readWorld_any next da dn dc Id Xd Rf xa xn xc M T W (hD.below hW) hdn (hX.below hW) hxn hxf
 clear hP hD hX hxf
 have HNil:Hid (∀W,Below w.heap.size w W->¬ (VPth n I X R/\VDt next dn Id Xd Rf/\VI xn M T)->RetDi w n I X R next dn Id Xd Rf xn M T (.returned (.slice none 0 0)) W):=fun W hW hno=>⟨fun h=>absurd h hno,fun _=>⟨none,0,rfl,.inl rfl,hW⟩⟩
 obtain ⟨W0,hW0⟩:∃W0,W0=((w.alloc (.cells #[.slice pa n pc] 38)).alloc (.cells #[.int .i64 next,.slice da dn dc] 42)).alloc (.cells #[.slice xa xn xc] 46):=⟨_,rfl⟩
 have S0:Hid (DpS w W0 pa n pc next da dn dc xa xn xc):=by
  rw [hW0]
  have b2:=Bx.new (w.alloc (.cells #[.slice pa n pc] 38)) #[.int .i64 next,.slice da dn dc] 42
  have b3:=Bx.new ((w.alloc (.cells #[.slice pa n pc] 38)).alloc (.cells #[.int .i64 next,.slice da dn dc] 42)) #[.slice xa xn xc] 46
  simp only [World.size_alloc] at b2 b3
  exact ⟨((Bx.new w #[.slice pa n pc] 38).alloc _).alloc _,b2.alloc _,b3,((below_alloc _ _).alloc (by simp) _).alloc (by simp;omega) _⟩
 go_enter Tryz.func11,Tryz.ntmps11
 go_upto_region 1 with fail
 rw [<- hW0]
 clear hW0
 obtain ⟨z0,⟨z1,z2⟩,z3⟩:=S0.out.cells
 go_wp2_with fail
 (with_reducible refine (HRd.out W0 S0.out.bel).mono ?_)
 rintro e w1 ⟨hb1,hr⟩
 have S1:Hid (DpS w w1 pa n pc next da dn dc xa xn xc):=S0.out.keep hb1
 have HW0s:Hid (w.heap.size<=W0.heap.size):=S0.out.bel.size
 clear hb1 S0 z0 z1 z2 z3
 obtain ⟨z0,⟨z1,z2⟩,z3⟩:=S1.out.cells
 rcases hr with ⟨hno,v,rfl⟩|⟨hv,g,cg,AA,CC,Bd,Lb,rfl,hg0,hcg,hcg2,hctx,hpl,hop,hcc⟩
 ·go_wp2_with fail
  (with_reducible refine (HRw.out w1 S1.out.bel).mono ?_)
  rintro e w2 ⟨hb2,wb,ok,rfl,-,-⟩
  have HF:Hid (RetDi w n I X R next dn Id Xd Rf xn M T (.returned (.slice none 0 0)) w2):=HNil.out w2 (S1.out.bel.trans (hb2.mono S1.out.bel.size)) (fun h=>hno h.1)
  clear hb2 hno
  go_wp2
  go_ret
  exact HF.out
 have HPl0:Hid (VPth n I X R/\PlAt w1 g n (plF I X R AA CC Bd Lb (fun i=>(hM (arI I) 100 i:Int)))/\(∀i,i<n->OwnIp w1 W0.heap.size (AA i) (arOf (I i)) (fun j=>(opf (arI I) i j:Int)))/\CtxC n I X Bd Lb):=⟨hv,hpl,hop,hctx⟩
 have hn1:1<=n/\n<=100:=hv.1
 clear hv hpl hop hctx hcc
 go_wp2_with fail
 (with_reducible refine (HRw.out w1 S1.out.bel).mono ?_)
 rintro e w2 ⟨hb2,wb,ok,rfl,hok,hex⟩
 have HB2:Hid (Below w.heap.size w w2):=S1.out.bel.trans (hb2.mono S1.out.bel.size)
 cases ok with
 | false=>
  have HF:Hid (RetDi w n I X R next dn Id Xd Rf xn M T (.returned (.slice none 0 0)) w2):=HNil.out w2 HB2.out (fun h=>by have:=hok.2 h.2;cases this)
  clear hb2 hok hex
  go_wp2
  go_ret
  exact HF.out
 | true=>
 obtain ⟨hVD,hVI⟩:=hok.1 rfl
 obtain ⟨tt,htt,hl3,hkq⟩:=hVI.2.1 0 (by omega)
 obtain ⟨tb,xb,hbx,hwt⟩:=hex rfl tt htt
 have HPl:Hid (VPth n I X R/\PlAt w2 g n (plF I X R AA CC Bd Lb (fun i=>(hM (arI I) 100 i:Int)))/\∀i,i<n->OwnIp w2 W0.heap.size (AA i) (arOf (I i)) (fun j=>(opf (arI I) i j:Int))):=⟨HPl0.out.1,HPl0.out.2.1.below hb2,fun i hi=>(HPl0.out.2.2.1 i hi).below hb2⟩
 have HCX:Hid (CtxC n I X Bd Lb/\VDt next dn Id Xd Rf):=⟨HPl0.out.2.2.2,hVD⟩
 obtain ⟨QQ,hQQ⟩:∃QQ,QQ=(keysR 21 tt).map (quadOf 0):=⟨_,rfl⟩
 rw [<- hQQ] at hwt
 obtain ⟨idd,hidd⟩:∃idd,idd=idF dn Id Xd:=⟨_,rfl⟩
 rw [<- hidd] at hwt
 have HW:Hid ((Bx w2 wb 147 #[.pointer (some ⟨tb,0,none⟩),.pointer (some ⟨xb,0,none⟩)]/\WAt w2 tb xb idd QQ)/\QQ.length<=300/\(∀x,0<=idd x/\idd x<=2000000000)/\∀x:ByteArray,x.size=0->idd x=0):=⟨⟨hbx,hwt⟩,by rw [hQQ,List.length_map];exact hl3,fun x=>by rw [hidd];exact idF_num hVD x,fun x hx=>by rw [hidd];exact idF_none hVD hx⟩
 obtain ⟨Cf,hCf⟩:∃Cf:Nat->Nat,Cf=fun i=>CH fsQ idd QQ I X R i (cxN idd Bd Lb i):=⟨_,rfl⟩
 obtain ⟨Gf,hGf⟩:∃Gf:Nat->Nat,Gf=fun i=>GS idd QQ I X R i (cxN idd Bd Lb i):=⟨_,rfl⟩
 have HCf:Hid (Cf=(fun i=>CH fsQ idd QQ I X R i (cxN idd Bd Lb i))/\Gf=fun i=>GS idd QQ I X R i (cxN idd Bd Lb i)):=⟨hCf,hGf⟩
 have HEnd:Hid (∀W gp,w.heap.size<=gp->Below w.heap.size w W->(∃zp:Nat->Nat,rowIn W gp 2 n (fun i=>.int .i64 (zp i:Int))/\∀i,i<n->zp i=Cf i)->RetDi w n I X R next dn Id Xd Rf xn M T (.returned (.slice (some ⟨gp,0,none⟩) n n)) W):=fun W gp hgp hW hz=>by
  refine ⟨fun _ t' ht'=>?_,fun hno=>absurd ⟨HPl0.out.1,hVD,hVI⟩ hno⟩
  obtain ⟨zp,hr,he⟩:=hz
  have eL:=DLF_map (fs:=fsQ) (id:=idF dn Id Xd) (Q:=(keysR 21 t').map (quadOf 0)) (R:=R) (N:=n) (cx:=cxN (idF dn Id Xd) Bd Lb) (fun i hi j hj=>cxN_down HPl0.out.2.2.2 hi hj) n 0 (n-1) (by omega) (by omega) (vp_begins HPl0.out.1)
  rw [Nat.zero_add,cxN_root HPl0.out.2.2.2,show n-1+1=n by omega] at eL
  rw [eL]
  refine ⟨some ⟨gp,0,none⟩,n,by rw [List.length_map,List.length_range],.inr ⟨gp,rfl,hgp,?_⟩,hW⟩
  rw [List.length_map,List.length_range]
  refine hr.congr (fun i hi=>?_)
  have e2:((List.range n).map (fun t=>CH fsQ (idF dn Id Xd) ((keysR 21 t').map (quadOf 0)) I X R (0+t) (cxN (idF dn Id Xd) Bd Lb (0+t)))).getD i 0=Cf i:=by
   rw [List.getD,List.getElem?_map,List.getElem?_range hi,hCf,hidd,hQQ,vtt1 ht' htt]
   simp
  rw [e2,he i hi]
 clear hCf hGf hQQ hidd hbx hwt hl3 hkq htt hVD hVI hex hok HPl0 HNil HRd HRw hb2 S1 z0 z1 z2 z3
 have hmk:∀W:World,(Instr.makeSlice 34 (.int .i64 (n:Int)) (.int .i64 (n:Int))).run Tryz.prog W=.ok (.slice (some ⟨W.heap.size,0,none⟩) n n) (W.alloc (.cells (madeCells #[.int .i64 0] (n*1)) 2)):=fun W=>by
  obtain ⟨i0,hi,hz0,hz1,hz2⟩:=info_parts infoI8
  have:=run_make (P:=Tryz.prog) W 34 2 i0 _ (by kernel_rfl) hi hz0 .i64 .i64 n n (by omega) (by omega) (by rw [hz2];omega) (by omega)
  rw [hz1,show (Value.int .i64 0).cells=#[.int .i64 0] from rfl] at this
  simpa using this
 have H0:Hid (DpR ((w2.alloc (.cells (madeCells #[.int .i64 0] n) 2)).alloc (.cells (madeCells #[.int .i64 0] n) 2)) w2.heap.size (w2.heap.size+1) n 0 Cf Gf):=by
  have row:∀V:World,rowIn (V.alloc (.cells (madeCells #[.int .i64 0] n) 2)) V.heap.size 2 n (fun i=>.int .i64 (((fun _=>0:Nat->Nat) i:Nat):Int)):=fun V=>by
   refine ⟨_,Array.getElem?_push_size,by rw [size_madeCells];omega,fun i hi=>?_⟩
   simp [madeCells,hi,Nat.mod_one]
  have r1:=row w2
  have r2:=row (w2.alloc (.cells (madeCells #[.int .i64 0] n) 2))
  rw [World.size_alloc] at r2
  exact ⟨fun _=>0,fun _=>0,r1.of_block ((below_alloc _ _).block _ r1.lt),r2,fun i hi=>absurd hi (Nat.not_lt_zero _),fun i hi=>absurd hi (Nat.not_lt_zero _)⟩
 have HB0:Hid (Below w2.heap.size w2 ((w2.alloc (.cells (madeCells #[.int .i64 0] n) 2)).alloc (.cells (madeCells #[.int .i64 0] n) 2))):=(below_alloc _ _).alloc (by simp) _
 obtain ⟨gp,hgp⟩:∃gp,gp=w2.heap.size:=⟨_,rfl⟩
 obtain ⟨gt,hgt⟩:∃gt,gt=w2.heap.size+1:=⟨_,rfl⟩
 go_upto_region 7 with fail
 rw [<- hgt,<- hgp] at H0 ⊢
 generalize ((w2.alloc (.cells (madeCells #[.int .i64 0] n) 2)).alloc (.cells (madeCells #[.int .i64 0] n) 2))=W6 at H0 HB0 ⊢
 have hgp1:w2.heap.size<=gp:=by omega
 have hgt1:w2.heap.size<=gt:=by omega
 have hgpt:gp≠gt:=by omega
 clear hgt hgp hmk
 go_wp2
 go_loopw [13,14,15,41] (fun _ _ _ i wr=>∃k:Nat,k<=n/\i=.int .i64 k/\DpR wr gp gt n k Cf Gf/\Below w2.heap.size w2 wr) (fun _ _ _ i _=>n-(intOf i).toNat)
 case atStart=>exact ⟨0,Nat.zero_le _,rfl,H0.out,HB0.out⟩
 case round=>
  obtain ⟨k,hk,rfl,htx,hbr⟩:=hrel
  have HX:Hid (DpR wr gp gt n k Cf Gf/\Below w2.heap.size w2 wr):=⟨htx,hbr⟩
  clear htx hbr
  by_cases hlt:k<n
  ·have hp:=(HPl.out.2.1).below HX.out.2
   have cc:∀r,r<7->wr.cell? ⟨g,k*7+r,none⟩=(plF I X R AA CC Bd Lb (fun i=>(hM (arI I) 100 i:Int)) k).cells[r]?:=fun r hr=>hp.cell hlt hr
   have d0:=cc 0 (by omega)
   have d1:=cc 1 (by omega)
   have d2:=cc 2 (by omega)
   have d3:=cc 3 (by omega)
   have d4:=cc 4 (by omega)
   have d5:=cc 5 (by omega)
   have d6:=cc 6 (by omega)
   simp [Plc.cells,plF] at d0 d1 d2 d3 d4 d5 d6
   obtain ⟨q,hq⟩:∃q,q=arOf (I k):=⟨_,rfl⟩
   rw [<- hq] at d5
   have hq2:q<=2:=by rw [hq];exact arOf_le _
   have hop:Hid (∀W,Below w2.heap.size w2 W->Rd .i64 W (AA k) q (fun j=>(opf (arI I) k j:Int))):=fun W hW=>by rw [hq];exact ((HPl.out.2.2 k hlt).rd).below hW
   have k0:(0:Int)<=(k:Int):=by omega
   have k1:(k:Int)<(n:Int):=by omega
   clear hp cc
   have HV:Hid (VPth n I X R):=HPl.out.1
   obtain ⟨zp,z,hzp,hz,htp,htz⟩:=HX.out.1
   have hg9:=vp_kind HV.out hlt
   have HK9:Hid (1<=I k/\I k<=9):=hg9
   clear hg9
   have HQ:Hid (q=arOf (I k)):=hq
   have hgtw:gt<wr.heap.size:=hz.lt
   obtain ⟨ik,hik⟩:∃ik,ik=I k:=⟨_,rfl⟩
   obtain ⟨xk,hxk⟩:∃xk,xk=X k:=⟨_,rfl⟩
   obtain ⟨rk,hrk⟩:∃rk,rk=R k:=⟨_,rfl⟩
   obtain ⟨bk,hbk⟩:∃bk,bk=Bd k:=⟨_,rfl⟩
   obtain ⟨lk,hlk⟩:∃lk,lk=Lb k:=⟨_,rfl⟩
   obtain ⟨ak,hak⟩:∃ak,ak=AA k:=⟨_,rfl⟩
   obtain ⟨ck,hck⟩:∃ck,ck=CC k:=⟨_,rfl⟩
   obtain ⟨mk,hmk⟩:∃mk,mk=hM (arI I) 100 k:=⟨_,rfl⟩
   rw [<- hik] at d0 HK9 HQ
   rw [<- hxk] at d1
   rw [<- hrk] at d2
   rw [<- hbk] at d3
   rw [<- hlk] at d4
   rw [<- hak,<- hck] at d5
   rw [<- hak] at hop
   rw [<- hmk] at d6
   have HE:Hid (ik=I k/\xk=X k/\rk=R k/\bk=Bd k/\lk=Lb k):=⟨hik,hxk,hrk,hbk,hlk⟩
   obtain ⟨W1,hW1⟩:∃W1,W1=wr.alloc (.cells #[.int .i64 ik,.string xk,.string rk,.bool bk,.string lk,.slice ak q ck,.int .i64 (mk:Int)] 88):=⟨_,rfl⟩
   obtain ⟨bx,hbx⟩:∃bx,bx=wr.heap.size:=⟨_,rfl⟩
   have hgx:gt<bx:=by omega
   have HW9:Hid (Below wr.heap.size wr W1/\W1.heap[bx]?=some (.cells #[.int .i64 ik,.string xk,.string rk,.bool bk,.string lk,.slice ak q ck,.int .i64 (mk:Int)] 88)/\W1.heap.size=bx+1):=by
    rw [hW1,hbx]
    exact ⟨below_alloc _ _,Array.getElem?_push_size,by simp⟩
   have HWB:Hid (∀W,Below W1.heap.size W1 W->Below w2.heap.size w2 W):=fun W hW=>HX.out.2.trans ((HW9.out.1.trans (hW.mono HW9.out.1.size)).mono HX.out.2.size)
   have HBX:Hid (∀W,Below W1.heap.size W1 W->W.cell? ⟨bx,0,none⟩=some (.int .i64 ik)/\W.cell? ⟨bx,1,none⟩=some (.string xk)/\W.cell? ⟨bx,2,none⟩=some (.string rk)/\W.cell? ⟨bx,3,none⟩=some (.bool bk)/\W.cell? ⟨bx,4,none⟩=some (.string lk)/\W.cell? ⟨bx,5,none⟩=some (.slice ak q ck)/\W.cell? ⟨bx,6,none⟩=some (.int .i64 (mk:Int))):=fun W hW=>by
    have hh:=(hW.block bx (by rw [HW9.out.2.2];omega)).trans HW9.out.2.1
    refine ⟨?_,?_,?_,?_,?_,?_,?_⟩ <;> simp [World.cell?,hh]
   have HZ:Hid (∀W,Below W1.heap.size W1 W->rowIn W gt 2 n (fun i=>.int .i64 (z i:Int))):=fun W hW=>by
    have hh:W.heap[gt]?=wr.heap[gt]?:=(hW.block gt (by rw [HW9.out.2.2];omega)).trans (HW9.out.1.block gt hgtw)
    exact hz.of_block hh
   have hgpw:gp<wr.heap.size:=hzp.lt
   have HZP:Hid (∀W,Below W1.heap.size W1 W->rowIn W gp 2 n (fun i=>.int .i64 (zp i:Int))):=fun W hW=>by
    have hh:W.heap[gp]?=wr.heap[gp]?:=(hW.block gp (by rw [HW9.out.2.2];omega)).trans (HW9.out.1.block gp hgpw)
    exact hzp.of_block hh
   have HTZ:Hid ((∀i,i<k->zp i=Cf i)/\∀i,i<k->z i=Gf i):=⟨htp,htz⟩
   have HS:Hid (∀W,Below W1.heap.size W1 W->Calls Tryz.prog 35 #[.slice (some ⟨gt,0,none⟩) n n,.slice ak q ck] W fun e w'=>∃ap cp,e=.returned (.slice ap q cp)/\PkI w' ap q (fun j=>z (opf (arI I) k j))/\Below W.heap.size W w'):=fun W hW=>by
    refine (pickI_any gt n n z ak q ck (fun j=>opf (arI I) k j) W (fun i hi=>(HZ.out W hW).cell hi) (hop.out W (HWB.out W hW)) (fun j hj=>Nat.lt_trans (vp_oplt HV.out hlt (by rw [<- HE.out.1,<- HQ.out];exact hj)) hlt) (by omega) (by omega)).mono ?_
    rintro e w' ⟨v,rfl,hv,hb⟩
    obtain ⟨ap,cp,rfl,hp⟩:=pkI_of hv
    exact ⟨ap,cp,rfl,hp,hb⟩
   obtain ⟨wy,hwy⟩:∃wy,wy=wayN (I k) (ownN idd QQ (I k) (X k) (R k) (cxN idd Bd Lb k)) (GS idd QQ I X R (opf (arI I) k 0) (dnC idd (I k) (X k) (cxN idd Bd Lb k))) (GS idd QQ I X R (opf (arI I) k 1) (dnC idd (I k) (X k) (cxN idd Bd Lb k))):=⟨_,rfl⟩
   have HEs:Hid (∀(W:World) (ap:Option Addr) (cp:Nat),Below W1.heap.size W1 W->PkI W ap q (fun j=>z (opf (arI I) k j))->Calls Tryz.prog 34 #[.pointer (some ⟨wb,0,none⟩),.agg #[.int .i64 ik,.string xk,.string rk,.bool bk,.string lk,.slice ak q ck,.int .i64 (mk:Int)],.slice ap q cp] W fun e w'=>e=.returned (.tuple #[.int .i64 (wy:Int),.int .i64 (Gf k:Int)])/\Below W.heap.size W w'):=fun W ap cp hW hp=>by
    have hwW:Below w2.heap.size w2 W:=HWB.out W hW
    have hjl:∀j,j<q->opf (arI I) k j<k:=fun j hj=>vp_oplt HV.out hlt (by rw [<- HE.out.1,<- HQ.out];exact hj)
    have hzj:∀j,j<q->z (opf (arI I) k j)=GS idd QQ I X R (opf (arI I) k j) (dnC idd (I k) (X k) (cxN idd Bd Lb k)):=fun j hj=>by
     rw [htz _ (hjl j hj),HCf.out.2]
     show GS _ _ _ _ _ _ _=_
     rw [cxN_down HCX.out.1 hlt (by rw [<- HE.out.1,<- HQ.out];exact hj)]
    refine (estimate_any ik HK9.out wb tb xb idd QQ xk rk bk lk ak q ck (mk:Int) W ((hwW.block _ HW.out.1.1.lt).trans HW.out.1.1) (HW.out.1.2.below hwW) ap q cp HQ.out (fun j=>GS idd QQ I X R (opf (arI I) k j) (dnC idd (I k) (X k) (cxN idd Bd Lb k))) (fun h0=>?_) (fun j hj=>?_) HW.out.2.2.1 (fun hf=>?_) (fun h34=>?_) HW.out.2.1).mono ?_
    ·obtain ⟨g1,e1,e2⟩:=hp h0
     exact ⟨g1,e1,fun j hj=>by have q9:=e2 j hj;dsimp only at q9 ⊢;rw [q9,hzj j hj]⟩
    ·exact GS_small HV.out HW.out.2.1 (Nat.lt_trans (hjl j hj) hlt) _
    ·rw [HE.out.2.2.2.2]
     exact HW.out.2.2.2 _ (ctx_free HV.out HCX.out.1 hlt (by rw [<- HE.out.2.2.2.1];exact hf))
    ·rw [HE.out.2.2.1]
     exact HW.out.2.2.2 _ (vp_rest HV.out hlt (by rw [<- HE.out.1];exact h34))
    ·rintro e w' ⟨rfl,hb⟩
     refine ⟨?_,hb⟩
     rw [hwy,HCf.out.2]
     show _=Ending.returned (.tuple #[_,.int .i64 ((GS idd QQ I X R k (cxN idd Bd Lb k):Nat):Int)])
     rw [GS_eq (vp_kind HV.out hlt) (fun h=>vp_oplt HV.out hlt (by omega)) (fun h=>vp_oplt HV.out hlt (by omega))]
     rw [HE.out.1,HE.out.2.1,HE.out.2.2.1,HE.out.2.2.2.1,HE.out.2.2.2.2]
     rfl
   have HSc:Hid (∀W,Calls Tryz.prog 36 #[.agg #[.int .i64 ik,.string xk,.string rk,.bool bk,.string lk,.slice ak q ck,.int .i64 (mk:Int)],.int .i64 (wy:Int)] W fun e w'=>e=.returned (.int .i64 (Cf k:Int))/\Below W.heap.size W w'):=fun W=>by
    refine (smallestChoice_any ik HK9.out wy (by rw [hwy];exact wayN_le _ _ _ _) (fun h1=>?_) bk xk rk lk ak q ck (mk:Int) W).mono ?_
    ·rw [hwy,<- HE.out.1,h1]
     rfl
    ·rintro e w' ⟨rfl,hb⟩
     refine ⟨?_,hb⟩
     rw [HCf.out.1]
     show _=Ending.returned (.int .i64 ((CH fsQ idd QQ I X R k (cxN idd Bd Lb k):Nat):Int))
     unfold CH
     rw [<- chN_sc,<- hwy,HE.out.1,HE.out.2.2.2.1]
     rfl
   have HXB:Hid (Below w2.heap.size w2 wr):=HX.out.2
   clear hz hzp htp htz hop hq hik hxk hrk hbk hlk hak hck hmk HK9 HE HQ HX hwy
   obtain ⟨gk,hgk⟩:∃gk,gk=Gf k:=⟨_,rfl⟩
   obtain ⟨ck9,hck9⟩:∃ck9,ck9=Cf k:=⟨_,rfl⟩
   have HGK:Hid (gk=Gf k/\ck9=Cf k):=⟨hgk,hck9⟩
   rw [<- hgk] at HEs
   rw [<- hck9] at HSc
   clear hgk hck9
   go_upto_region 11 with fail
   rw [<- hW1,<- hbx]
   clear hW1 hbx d0 d1 d2 d3 d4 d5 d6 hgtw
   refine wp_region_lateT (S:=fun W=>Below W1.heap.size W1 W) 14 (by kernel_rfl) (Below.refl _ _).drew (fun W hHeld=>?_)
   refine tk 0 .zero (v:=.slice (some ⟨gt,0,none⟩) n n) (fun w' h=>by clear h;go_simp) ?_
   simp only [tkp]
   refine tk 1 (.succ .zero) (v:=.int .i64 (k:Int)) (fun w' h=>by clear h;go_simp) ?_
   simp only [tkp]
   refine tk 2 (.succ (.succ .zero)) (v:=.pointer (some ⟨wb,0,none⟩)) (fun w' h=>by clear h;go_simp) ?_
   simp only [tkp]
   refine tk 3 (.succ (.succ (.succ .zero))) (v:=.agg #[.int .i64 ik,.string xk,.string rk,.bool bk,.string lk,.slice ak q ck,.int .i64 (mk:Int)]) (fun w' h=>by obtain ⟨x0,x1,x2,x3,x4,x5,x6⟩:=HBX.out _ h;clear h;go_simp) ?_
   simp only [tkp]
   refine tk 4 (.succ (.succ (.succ (.succ .zero)))) (v:=.slice (some ⟨gt,0,none⟩) n n) (fun w' h=>by clear h;go_simp) ?_
   simp only [tkp]
   refine tk 5 (.s5 .zero) (v:=.pointer (some ⟨bx,5,none⟩)) (fun w' h=>by clear h;go_simp) ?_
   simp only [tkp]
   refine tk 6 (.s5 (.succ .zero)) (v:=.slice ak q ck) (fun w' h=>by obtain ⟨x0,x1,x2,x3,x4,x5,x6⟩:=HBX.out _ h;clear h;go_simp) ?_
   simp only [tkp]
   refine tk1 7 (.s5 (.succ (.succ .zero))) (fun K hK=>?_)
   refine step_h2 rfl 35 51 53 _ rfl (.slice (some ⟨gt,0,none⟩) n n) (.slice ak q ck) rfl rfl (fun _ _=>rfl) ?_
   refine (HS.out W hHeld).mono ?_
   rintro e w3 ⟨ap,cp,rfl,hp3,hb3⟩
   have h3:Below W1.heap.size W1 w3:=hHeld.trans (hb3.mono hHeld.size)
   refine ⟨_,rfl,hK.out _ _ (fun _=>h3) (fun hG=>?_)⟩
   clear hK K hG hb3 hHeld
   simp only [tkp]
   refine tk1 8 (.s5 (.succ (.succ (.succ .zero)))) (fun K hK=>?_)
   refine step_h3 rfl 34 49 50 54 _ rfl (.pointer (some ⟨wb,0,none⟩)) (.agg #[.int .i64 ik,.string xk,.string rk,.bool bk,.string lk,.slice ak q ck,.int .i64 (mk:Int)]) (.slice ap q cp) rfl rfl rfl (fun _ _=>rfl) ?_
   refine (HEs.out w3 ap cp h3 hp3).mono ?_
   rintro e w4 ⟨rfl,hb4⟩
   have h4:Below W1.heap.size W1 w4:=h3.trans (hb4.mono h3.size)
   refine ⟨_,rfl,hK.out _ _ (fun _=>h4) (fun hG=>?_)⟩
   clear hK K hG hb4 h3 hp3
   simp only [tkp]
   refine tk 9 (.s5 (.succ (.succ (.succ (.succ .zero))))) (v:=.tuple #[.int .i64 (wy:Int),.int .i64 (gk:Int)]) (fun w' h=>by clear h;go_simp) ?_
   simp only [tkp]
   refine tk 10 (.s5 (.s5 .zero)) (v:=.int .i64 (wy:Int)) (fun w' h=>by clear h;go_simp) ?_
   simp only [tkp]
   refine tk 11 (.s5 (.s5 (.succ .zero))) (v:=.int .i64 (gk:Int)) (fun w' h=>by clear h;go_simp) ?_
   simp only [tkp]
   have hz4:=HZ.out w4 h4
   have y0:=hz4.cell hlt
   have y1:=hz4.frozen
   have y2:=hz4.lt
   have H4:Hid (Below W1.heap.size W1 w4):=h4
   clear hz4
   refine tk1 12 (.s5 (.s5 (.succ (.succ .zero)))) (fun K hK=>?_)
   go_simp
   refine hK.out _ _ (fun _=>H4.out) (fun hG=>?_)
   clear hK K hG
   try simp only [tkp]
   refine tk1 13 (.s5 (.s5 (.succ (.succ (.succ .zero))))) (fun K hK=>?_)
   go_simp
   refine hK.out _ _ (fun _=>H4.out) (fun hG=>?_)
   clear hK K hG
   try simp only [tkp]
   refine tk1 14 (.s5 (.s5 (.succ (.succ (.succ (.succ .zero)))))) (fun K hK=>?_)
   go_simp
   refine hK.out _ _ (fun hne=>absurd rfl hne) (fun hG=>?_)
   clear hK K hG
   refine wpLate_done (by kernel_rfl) ?_ _
   obtain ⟨W5,hW5⟩:∃W5,W5=w4.setCell ⟨gt,k,none⟩ (.int .i64 (gk:Int)):=⟨_,rfl⟩
   have ne5:∀b,b≠gt->W5.heap[b]?=w4.heap[b]?:=fun b hb=>by rw [hW5];exact Below.heap_setCell _ _ _ _ hb
   have H5:Hid (Bx W5 bx 88 #[.int .i64 ik,.string xk,.string rk,.bool bk,.string lk,.slice ak q ck,.int .i64 (mk:Int)]/\rowIn W5 gp 2 n (fun i=>.int .i64 (zp i:Int))/\rowIn W5 gt 2 n (fun i=>.int .i64 (((if i=k then gk else z i):Nat):Int))/\Below w2.heap.size w2 W5):=by
    have hbl:w4.heap[bx]?=_:=(H4.out.block bx (by rw [HW9.out.2.2];omega)).trans HW9.out.2.1
    refine ⟨(ne5 _ (by omega)).trans hbl,(HZP.out w4 H4.out).of_block (ne5 _ hgpt),?_,?_⟩
    ·rw [hW5]
     refine ((HZ.out w4 H4.out).set k _).congr (fun i hi=>?_)
     by_cases e:i=k
     ·rw [if_pos e,if_pos e]
     ·rw [if_neg e,if_neg e]
    ·rw [hW5]
     exact (HWB.out w4 H4.out).setCell hgt1 _
   rw [<- hW5]
   clear hW5 ne5 y0 y1 y2 h4 H4
   obtain ⟨x0,x1,x2,x3,x4,x5,x6⟩:W5.cell? ⟨bx,0,none⟩=some (.int .i64 ik)/\W5.cell? ⟨bx,1,none⟩=some (.string xk)/\W5.cell? ⟨bx,2,none⟩=some (.string rk)/\W5.cell? ⟨bx,3,none⟩=some (.bool bk)/\W5.cell? ⟨bx,4,none⟩=some (.string lk)/\W5.cell? ⟨bx,5,none⟩=some (.slice ak q ck)/\W5.cell? ⟨bx,6,none⟩=some (.int .i64 (mk:Int)):=⟨H5.out.1.cell 0,H5.out.1.cell 1,H5.out.1.cell 2,H5.out.1.cell 3,H5.out.1.cell 4,H5.out.1.cell 5,H5.out.1.cell 6⟩
   go_wp2_with fail
   (with_reducible refine (HSc.out W5).mono ?_)
   rintro e w6 ⟨rfl,hb6⟩
   have H6:Hid (rowIn w6 gp 2 n (fun i=>.int .i64 (zp i:Int))/\rowIn w6 gt 2 n (fun i=>.int .i64 (((if i=k then gk else z i):Nat):Int))/\Below w2.heap.size w2 w6):=⟨H5.out.2.1.of_block (hb6.block _ H5.out.2.1.lt),H5.out.2.2.1.of_block (hb6.block _ H5.out.2.2.1.lt),H5.out.2.2.2.trans (hb6.mono H5.out.2.2.2.size)⟩
   clear hb6 x0 x1 x2 x3 x4 x5 x6
   have y0:=H6.out.1.cell hlt
   have y1:=H6.out.1.frozen
   have y2:=H6.out.1.lt
   have HF:Hid (DpR (w6.setCell ⟨gp,k,none⟩ (.int .i64 (ck9:Int))) gp gt n (k+1) Cf Gf/\Below w2.heap.size w2 (w6.setCell ⟨gp,k,none⟩ (.int .i64 (ck9:Int)))):=by
    refine ⟨⟨fun i=>if i=k then ck9 else zp i,fun i=>if i=k then gk else z i,(H6.out.1.set k _).congr (fun i hi=>?_),H6.out.2.1.of_block (Below.heap_setCell _ _ _ _ (fun e=>hgpt e.symm)),fun i hi=>?_,fun i hi=>?_⟩,H6.out.2.2.setCell hgp1 _⟩
    ·dsimp only
     by_cases e:i=k
     ·rw [if_pos e,if_pos e]
     ·rw [if_neg e,if_neg e]
    ·dsimp only
     by_cases e:i=k
     ·rw [if_pos e,e,HGK.out.2]
     ·rw [if_neg e];exact HTZ.out.1 i (by omega)
    ·dsimp only
     by_cases e:i=k
     ·rw [if_pos e,e,HGK.out.1]
     ·rw [if_neg e];exact HTZ.out.2 i (by omega)
   go_wp2
   go_roundw
   case rel=>exact ⟨k+1,by omega,by go_num,HF.out⟩
   case measure=>simp [intOf];omega
  ·have e:k=n:=by omega
   subst e
   have l1:¬ (k:Int)<(k:Int):=by omega
   have HF:Hid (RetDi w k I X R next dn Id Xd Rf xn M T (.returned (.slice (some ⟨gp,0,none⟩) k k)) wr):=by
    obtain ⟨zp,z,hzp,hz,htp,htz⟩:=HX.out.1
    exact HEnd.out wr gp (Nat.le_trans HB2.out.size hgp1) (HB2.out.trans (HX.out.2.mono HB2.out.size)) ⟨zp,hzp,htp⟩
   go_wp2
   go_ret
   exact HF.out
set_option linter.unusedSimpArgs false

set_option maxHeartbeats 1000000 in
theorem szTermL_any (a:Option Addr) (n c:Nat) (I:Nat->Int) (X:Nat->ByteArray) (R:Nat->Int) (l:Int) (w:World) (h:RdT w a n I X R) (hn:n<=maxLen) (hX:∀i,i<n->(X i).size<=maxLen) (h0:0<=l) (h1:l<=1048576) :
  Calls Tryz.prog 22 #[.slice a n c,.int .i64 l] w fun e w'=>∃r:Int,e=.returned (.int .i64 r)/\(r=-1\/((0<=r/\r<=1048576)/\n<=1048576))/\Below w.heap.size w w':=by
 unfold maxLen at hn
 by_cases hneg:l-(n:Int)<0
 ·go_enter Tryz.func22,Tryz.ntmps22
  go_wp2
  go_ret
  exact ⟨-1,rfl,Or.inl rfl,Below.refl _ _⟩
 ·go_enter Tryz.func22,Tryz.ntmps22
  go_wp2
  go_loopw [1,5] (fun q i wr=>∃(k:Nat) (l' : Int),k<=n/\i=.int .i64 k/\q=.int .i64 l'/\0<=l'/\l'<=1048576/\Below w.heap.size w wr) (fun _ i _=>n-(intOf i).toNat)
  case atStart=>exact ⟨0,_,Nat.zero_le _,rfl,rfl,by omega,by omega,Below.refl _ _⟩
  case round=>
   obtain ⟨k,l',hk,rfl,rfl,hl0,hl1,hbel⟩:=hrel
   by_cases hlt:k<n
   ·have hne:¬ n=0:=by omega
    have h':=h.below hbel
    have HB:Hid (Below w.heap.size w wr):=hbel
    have hsz:=hbel.size
    rcases h' with h' | ⟨b,o,rfl,hc⟩
    ·exact absurd h' hne
    obtain ⟨c1,c2,c3⟩:=hc k hlt
    have HX:=hX k hlt
    clear hc h hbel hX
    go_wp2_with fail
    refine (szTerm_any (I k) (R k) (X k) l' _ HX hl0 hl1).mono ?_
    rintro e w1 ⟨q,rfl,hq,hb1⟩
    have HB1:Hid (Below w.heap.size w w1):=HB.out.trans (hb1.mono (by simpa using hsz))
    clear hb1 c1 c2 c3
    rcases hq with rfl|⟨hq0,hq1⟩
    ·go_wp2
     go_ret
     exact ⟨-1,rfl,Or.inl rfl,HB1.out⟩
    ·have hq2:¬ q<0:=by omega
     go_wp2
     go_roundw
     case rel=>exact ⟨k+1,q,by omega,by go_num,rfl,hq0,hq1,HB1.out⟩
     case measure=>simp [intOf];omega
   ·have e:k=n:=by omega
    subst e
    go_wp2
    go_ret
    exact ⟨l',rfl,Or.inr ⟨⟨hl0,hl1⟩,by omega⟩,hbel⟩

set_option maxHeartbeats 1000000 in
theorem szDictL_any (next:Int) (a:Option Addr) (n c:Nat) (I:Nat->Int) (X:Nat->ByteArray) (R:Nat->Int) (l:Int) (w:World) (h:RdT w a n I X R) (hn:n<=maxLen) (hX:∀i,i<n->(X i).size<=maxLen) (h0:0<=l) (h1:l<=1048576) :
  Calls Tryz.prog 5 #[.agg #[.int .i64 next,.slice a n c],.int .i64 l] w fun e w'=>∃r:Int,e=.returned (.int .i64 r)/\(r=-1\/((0<=r/\r<=1048576)/\n<=1048576))/\Below w.heap.size w w':=by
 go_enter Tryz.func5,Tryz.ntmps5
 go_wp2_with fail
 refine (szTermL_any a n c I X R l _ (h.below (below_alloc _ _)) hn hX h0 h1).mono ?_
 rintro e w1 ⟨r,rfl,hr,hb1⟩
 have HB1:Hid (Below w.heap.size w w1):=(below_alloc _ _).trans (hb1.mono (by simp))
 clear hb1
 rcases hr with rfl|⟨⟨hr,hr9⟩,hrn⟩
 ·go_wp2
  go_ret
  exact ⟨-1,rfl,Or.inl rfl,HB1.out⟩
 ·have hr1:¬ r<0:=by omega
  go_wp2
  go_ret
  exact ⟨r,rfl,Or.inr ⟨⟨hr,hr9⟩,hrn⟩,HB1.out⟩
set_option maxHeartbeats 1000000 in
theorem szIndexL_sum (a:Option Addr) (m c:Nat) (M:Nat->Nat) (T:Nat->Nat->Tn) (l:Int) (w:World) (hl0:0<=l) (hl1:l<=1048576) (h:RdIx w a m M T) (hm:m<=maxLen) (hN:∀i,i<m->M i<=maxLen/\∀j,j<M i->TnBig (T i j)) :
  Calls Tryz.prog 6 #[.agg #[.slice a m c],.int .i64 l] w fun e w'=>∃r:Int,e=.returned (.int .i64 r)/\(r=-1\/(0<=r/\m+sumI M T m<=1048576))/\Below w.heap.size w w':=by
 have HR:Hid (RdIx w a m M T/\∀i,i<m->M i<=maxLen/\∀j,j<M i->TnBig (T i j)):=⟨h,hN⟩
 clear h hN
 go_enter Tryz.func6,Tryz.ntmps6
 go_wp2_with fail
 refine (szTreeS_sum a m c M T l _ (HR.out.1.below (below_alloc _ _)) hm HR.out.2 hl0 hl1).mono ?_
 rintro e w1 ⟨r,rfl,hr,hb1⟩
 have H1:Hid (Below w.heap.size w w1):=(below_alloc _ _).trans (hb1.mono (by simp))
 clear hb1
 rcases hr with rfl|⟨hr0,hr1⟩
 ·go_wp2
  go_ret
  exact ⟨-1,rfl,Or.inl rfl,H1.out⟩
 ·have hr2:¬ r<0:=by omega
  have HF:Hid (m+sumI M T m<=1048576):=by
   show m+sumI M T m<=1048576
   omega
  clear hr1
  go_wp2
  go_ret
  exact ⟨r,rfl,Or.inr ⟨hr0,HF.out⟩,H1.out⟩

theorem OwnIr.stay {w w' : World} {B g n j:Nat} {M:Nat->Nat} {T:Nat->Nat->Tn} {R:Nat->Nat} (h:OwnIr w B g n j n M T R) (hs:w.heap.size<=w'.heap.size) (hk:∀b,g<=b->b<w.heap.size->w'.heap[b]?=w.heap[b]?):OwnIr w' B g n j n M T R:=by
 obtain ⟨h1,h2,h3,h4,cur,h5,h6,h7⟩:=h
 refine ⟨h1,h2,Nat.le_trans h3 hs,h4,cur,(hk g (Nat.le_refl _) h5.lt).trans h5,h6,fun i hi1 hi2=>?_⟩
 obtain ⟨gi,KA,DA,KC,DC,q1,q2,q3⟩:=h7 i hi1 hi2
 refine ⟨gi,KA,DA,KC,DC,q1,q2.wit q3 (fun b hb1 hb2 hb3=>hk b ?_ hb3),q3⟩
 have:=h4 0 i (Nat.zero_le _) (by omega)
 omega
theorem nrow_of {w:World} {g n:Nat} {I:Nat->Int} {X R:Nat->ByteArray} (h:rowIn w g 83 (n*3) (pnCell I X R)):NRow w g n:=⟨I,X,R,h⟩
theorem trow_of {w:World} {g n:Nat} {I:Nat->Int} {X:Nat->ByteArray} {R:Nat->Int} (h:rowIn w g 112 (n*3) (termCell I X R)):TRow w g n:=⟨I,X,R,h⟩
def RdI (w:World) (a:Option Addr) (L:List Nat):Prop:=Rd .i64 w a L.length (fun i=>((L.getD i 0:Nat):Int))
theorem RdI.below {w w' : World} {a:Option Addr} {L:List Nat} (h:RdI w a L) (hb:Below w.heap.size w w'):RdI w' a L:=Rd.below h hb
theorem OwI.rd {w:World} {B:Nat} {a:Option Addr} {L:List Nat} (h:OwI w B a L):RdI w a L:=by
 rcases h with rfl|⟨g,rfl,hg,hr⟩
 ·exact .inl rfl
 ·exact .inr ⟨g,0,rfl,fun i hi=>by rw [Nat.zero_add];exact hr.cell hi⟩
theorem OwI.v {w:World} {B:Nat} {a:Option Addr} {L:List Nat} (h:OwI w B a L):OwnV w 2 a L.length (fun i=>.int .i64 ((L.getD i 0:Nat):Int)):=by
 rcases h with rfl|⟨g,rfl,hg,hr⟩
 ·exact .inl rfl
 ·exact .inr ⟨g,rfl,hr⟩
theorem OwI.down {w:World} {B B' : Nat} {a:Option Addr} {L:List Nat} (h:OwI w B a L) (hB:B'<=B):OwI w B' a L:=by
 rcases h with h|⟨g,e,hg,hr⟩
 ·exact .inl h
 ·exact .inr ⟨g,e,Nat.le_trans hB hg,hr⟩
theorem OwI.stay {w w' : World} {B:Nat} {a:Option Addr} {L:List Nat} (h:OwI w B a L) (hk:∀b,B<=b->b<w.heap.size->w'.heap[b]?=w.heap[b]?):OwI w' B a L:=by
 rcases h with h|⟨g,e,hg,hr⟩
 ·exact .inl h
 ·exact .inr ⟨g,e,hg,hr.of_block (hk g hg hr.lt)⟩
theorem OwI.below {w w' : World} {B:Nat} {a:Option Addr} {L:List Nat} (h:OwI w B a L) (hb:Below w.heap.size w w'):OwI w' B a L:=h.stay (fun b _ hlt=>hb.block b hlt)
theorem OwI.ge {w:World} {B:Nat} {a:Option Addr} {L:List Nat} (h:OwI w B a L) (h0:L.length≠0):∀b,a.map (·.block)=some b->B<=b:=by
 rcases h with rfl|⟨g,rfl,hg,hr⟩
 ·exact absurd rfl h0
 ·intro b e
  simp at e
  omega
theorem dp_ex (n:Nat) (I:Nat->Int) (X R:Nat->ByteArray) (next:Int) (dn:Nat) (Id:Nat->Int) (Xd:Nat->ByteArray) (Rf:Nat->Int) (xn:Nat) (M:Nat->Nat) (T:Nat->Nat->Tn):∃L:List Nat,L.length<=100/\∀W e w',RetDi W n I X R next dn Id Xd Rf xn M T e w'->RetIr W L e w':=by
 by_cases h:VPth n I X R/\VDt next dn Id Xd Rf/\VI xn M T
 ·obtain ⟨t,ht,_,_⟩:=h.2.2.2.1 0 (by omega)
  refine ⟨_,?_,fun W e w' q=>q.1 h t ht⟩
  have h1:=h.1.1
  rw [DLF_len n 0 (n-1) _ (by omega) (vp_begins h.1)]
  omega
 ·exact ⟨[],by simp,fun W e w' q=>q.2 h⟩
def K3 (w:World) (a:Option Addr) (n c:Nat) (next:Int) (da:Option Addr) (dn dc:Nat) (xa:Option Addr) (xn xc:Nat) (W:World):Prop:=Below (w.heap.size+3) (((w.alloc (.cells #[.slice a n c] 24)).alloc (.cells #[.int .i64 next,.slice da dn dc] 27)).alloc (.cells #[.slice xa xn xc] 30)) W
section
variable {w W W' : World} {a:Option Addr} {n c:Nat} {next:Int} {da:Option Addr} {dn dc:Nat} {xa:Option Addr} {xn xc:Nat}
theorem K3.size (h:K3 w a n c next da dn dc xa xn xc W):w.heap.size+3<=W.heap.size:=by
 have:=Below.size h
 simpa using this
theorem K3.on (h:K3 w a n c next da dn dc xa xn xc W) (hb:Below W.heap.size W W'):K3 w a n c next da dn dc xa xn xc W':=Below.trans h (hb.mono h.size)
theorem K3.below (h:K3 w a n c next da dn dc xa xn xc W):Below w.heap.size w W:=(((below_alloc _ _).alloc (by simp) _).alloc (by simp;omega) _).trans (Below.mono h (by omega))
theorem K3.cells (h:K3 w a n c next da dn dc xa xn xc W):W.cell? ⟨w.heap.size,0,none⟩=some (.slice a n c)/\(W.cell? ⟨w.heap.size+1,0,none⟩=some (.int .i64 next)/\W.cell? ⟨w.heap.size+1,1,none⟩=some (.slice da dn dc))/\W.cell? ⟨w.heap.size+2,0,none⟩=some (.slice xa xn xc):=by
 have b1:=((Bx.new w #[.slice a n c] 24).alloc (.cells #[.int .i64 next,.slice da dn dc] 27)).alloc (.cells #[.slice xa xn xc] 30)
 have b2:=(Bx.new (w.alloc (.cells #[.slice a n c] 24)) #[.int .i64 next,.slice da dn dc] 27).alloc (.cells #[.slice xa xn xc] 30)
 have b3:=Bx.new ((w.alloc (.cells #[.slice a n c] 24)).alloc (.cells #[.int .i64 next,.slice da dn dc] 27)) #[.slice xa xn xc] 30
 simp only [World.size_alloc] at b2 b3
 have c1:Bx W w.heap.size 24 #[.slice a n c]:=(Below.block h _ (by omega)).trans b1
 have c2:Bx W (w.heap.size+1) 27 #[.int .i64 next,.slice da dn dc]:=(Below.block h _ (by omega)).trans b2
 have c3:Bx W (w.heap.size+2) 30 #[.slice xa xn xc]:=(Below.block h _ (by omega)).trans b3
 exact ⟨c1.cell 0,⟨c2.cell 0,c2.cell 1⟩,c3.cell 0⟩
end
structure L9 (w wk W:World) (a:Option Addr) (n c:Nat) (next:Int) (da:Option Addr) (dn dc:Nat) (xa:Option Addr) (xn xc:Nat) (I:Nat->Int) (X R:Nat->ByteArray) (Id:Nat->Int) (Xd:Nat->ByteArray) (Rf:Nat->Int) (M:Nat->Nat) (T:Nat->Nat->Tn) (L:List Nat) (a8:Option Addr) (b0 b1 b2 g0 g1 g2:Nat) (R9:Nat->Nat):Prop where
 kp:K3 w a n c next da dn dc xa xn xc wk
 q8:RdI wk a8 L
 bel:Below wk.heap.size wk W
 x0:Bx W b0 38 #[.slice (some ⟨g0,0,none⟩) n n]
 x1:Bx W b1 42 #[.int .i64 next,.slice (some ⟨g1,0,none⟩) dn dn]
 x2:Bx W b2 46 #[.slice (some ⟨g2,0,none⟩) xn xn]
 r0:rowIn W g0 83 (n*3) (pnCell I X R)
 r1:rowIn W g1 112 (dn*3) (termCell Id Xd Rf)
 r2:OwnIr W (g2+1) g2 xn 0 xn M T R9
 pos:wk.heap.size<=g0/\g0<b0/\b0<g1/\g1<b1/\b1<g2/\R9 xn<=b2
section
variable {w wk W W' : World} {a:Option Addr} {n c:Nat} {next:Int} {da:Option Addr} {dn dc:Nat} {xa:Option Addr} {xn xc:Nat} {I:Nat->Int} {X R:Nat->ByteArray} {Id:Nat->Int} {Xd:Nat->ByteArray} {Rf:Nat->Int} {M:Nat->Nat} {T:Nat->Nat->Tn} {L:List Nat} {a8:Option Addr} {b0 b1 b2 g0 g1 g2:Nat} {R9:Nat->Nat}
theorem L9.keep (h:L9 w wk W a n c next da dn dc xa xn xc I X R Id Xd Rf M T L a8 b0 b1 b2 g0 g1 g2 R9) (hb:Below W.heap.size W W'):L9 w wk W' a n c next da dn dc xa xn xc I X R Id Xd Rf M T L a8 b0 b1 b2 g0 g1 g2 R9:=
 ⟨h.kp,h.q8,h.bel.trans (hb.mono h.bel.size),(hb.block _ h.x0.lt).trans h.x0,(hb.block _ h.x1.lt).trans h.x1,(hb.block _ h.x2.lt).trans h.x2,h.r0.of_block (hb.block _ h.r0.lt),h.r1.of_block (hb.block _ h.r1.lt),h.r2.below hb,h.pos⟩
theorem L9.k (h:L9 w wk W a n c next da dn dc xa xn xc I X R Id Xd Rf M T L a8 b0 b1 b2 g0 g1 g2 R9):K3 w a n c next da dn dc xa xn xc W:=h.kp.on h.bel
theorem L9.cells (h:L9 w wk W a n c next da dn dc xa xn xc I X R Id Xd Rf M T L a8 b0 b1 b2 g0 g1 g2 R9):W.cell? ⟨b0,0,none⟩=some (.slice (some ⟨g0,0,none⟩) n n)/\(W.cell? ⟨b1,0,none⟩=some (.int .i64 next)/\W.cell? ⟨b1,1,none⟩=some (.slice (some ⟨g1,0,none⟩) dn dn))/\W.cell? ⟨b2,0,none⟩=some (.slice (some ⟨g2,0,none⟩) xn xn):=⟨h.x0.cell 0,⟨h.x1.cell 0,h.x1.cell 1⟩,h.x2.cell 0⟩
theorem L9.marks {W1 W2 W3 W9:World} {a12:Option Addr} (h:L9 w wk W a n c next da dn dc xa xn xc I X R Id Xd Rf M T L a8 b0 b1 b2 g0 g1 g2 R9) (h9:W9.heap.size<=W.heap.size) (hb9:b2<W9.heap.size) (ho:OwI W W9.heap.size a12 L) (m1:W.grownBy W1 (some g0)) :
  (Bx W1 b1 42 #[.int .i64 next,.slice (some ⟨g1,0,none⟩) dn dn]/\rowIn W1 g1 112 (dn*3) (termCell Id Xd Rf))/\(W1.grownBy W2 (some g1)->(Bx W2 b2 46 #[.slice (some ⟨g2,0,none⟩) xn xn]/\OwnIr W2 (g2+1) g2 xn 0 xn M T R9)/\(WiT (R9 0) (R9 xn) W2 W3->Below wk.heap.size wk W3/\OwI W3 W9.heap.size a12 L/\W9.heap.size<=W3.heap.size)):=by
 obtain ⟨p1,p2,p3,p4,p5,p6⟩:=h.pos
 have hg2:=h.r2.2.1
 have hR:=h.r2.2.2.2.1 0 xn (Nat.zero_le _) (Nat.le_refl _)
 have s1:=m1.size
 have sx:=h.x1.lt
 have e1:∀b,b<W.heap.size->b≠g0->W1.heap[b]?=W.heap[b]?:=fun b hb hne=>m1.block b hb (fun e=>hne (by injection e))
 have hx1:Bx W1 b1 42 #[.int .i64 next,.slice (some ⟨g1,0,none⟩) dn dn]:=(e1 _ h.x1.lt (by omega)).trans h.x1
 have hx2:Bx W1 b2 46 #[.slice (some ⟨g2,0,none⟩) xn xn]:=(e1 _ h.x2.lt (by omega)).trans h.x2
 have hr2:OwnIr W1 (g2+1) g2 xn 0 xn M T R9:=h.r2.stay s1 (fun b hb hlt=>e1 b hlt (by omega))
 have ho1:OwI W1 W9.heap.size a12 L:=ho.stay (fun b hb hlt=>e1 b hlt (by omega))
 have hb1:Below wk.heap.size wk W1:=h.bel.grown m1 h.bel.size (fun b e=>by injection e with e;omega)
 refine ⟨⟨hx1,h.r1.of_block (e1 _ h.r1.lt (by omega))⟩,fun m2=>?_⟩
 have s2:=m2.size
 have e2:∀b,b<W1.heap.size->b≠g1->W2.heap[b]?=W1.heap[b]?:=fun b hb hne=>m2.block b hb (fun e=>hne (by injection e))
 have hr3:OwnIr W2 (g2+1) g2 xn 0 xn M T R9:=hr2.stay s2 (fun b hb hlt=>e2 b hlt (by omega))
 refine ⟨⟨(e2 _ hx2.lt (by omega)).trans hx2,hr3⟩,fun m3=>?_⟩
 have hb2:Below wk.heap.size wk W2:=hb1.grown m2 hb1.size (fun b e=>by injection e with e;omega)
 have ho2:OwI W2 W9.heap.size a12 L:=ho1.stay (fun b hb hlt=>e2 b hlt (by omega))
 have s3:=m3.2.2.2.1
 exact ⟨hb2.trans ((m3.below (by omega)).mono (by omega)),ho2.stay (fun b hb hlt=>m3.2.2.2.2 b hlt (.inr (by omega))),by omega⟩
end
set_option linter.unusedSimpArgs false

set_option maxHeartbeats 8000000 in
theorem dpLaw0 (a:Option Addr) (n c:Nat) (I:Nat->Int) (X R:Nat->ByteArray) (next:Int) (da:Option Addr) (dn dc:Nat) (Id:Nat->Int) (Xd:Nat->ByteArray) (Rf:Nat->Int) (xa:Option Addr) (xn xc:Nat) (M:Nat->Nat) (T:Nat->Nat->Tn) (w:World)
  (ha:RdN w a n I X R) (hX:∀i,i<n->(X i).size<=maxLen/\(R i).size<=maxLen) (hn:n<=maxLen) (hda:RdT w da dn Id Xd Rf) (hdX:∀i,i<dn->(Xd i).size<=maxLen) (hdn:dn<=maxLen) (hxa:RdIx w xa xn M T) (hxX:∀i,i<xn->M i<=maxLen/\∀j,j<M i->TnBig (T i j)) (hxn:xn<=maxLen) :
  Calls Tryz.prog 3 #[.agg #[.slice a n c],.agg #[.int .i64 next,.slice da dn dc],.agg #[.slice xa xn xc]] w fun e w'=>e=.returned (.bool true)/\Below w.heap.size w w':=by
 obtain ⟨L,hl1,hL⟩:=dp_ex n I X R next dn Id Xd Rf xn M T
 have HSzp:Hid (∀W,K3 w a n c next da dn dc xa xn xc W->Calls Tryz.prog 4 #[.agg #[.slice a n c],.int .i64 1048576] W fun e w'=>∃r:Int,e=.returned (.int .i64 r)/\(r=-1\/((0<=r/\r<=1048576)/\n<=1048576))/\Below W.heap.size W w'):=fun W k=>szPath_le a n c I X R 1048576 W (ha.below k.below) hn hX (by omega) (by omega)
 have HSzd:Hid (∀W l,K3 w a n c next da dn dc xa xn xc W->0<=l->l<=1048576->Calls Tryz.prog 5 #[.agg #[.int .i64 next,.slice da dn dc],.int .i64 l] W fun e w'=>∃r:Int,e=.returned (.int .i64 r)/\(r=-1\/((0<=r/\r<=1048576)/\dn<=1048576))/\Below W.heap.size W w'):=fun W l k h0 h1=>szDictL_any next da dn dc Id Xd Rf l W (hda.below k.below) hdn hdX h0 h1
 have HSzx:Hid (∀W l,K3 w a n c next da dn dc xa xn xc W->0<=l->l<=1048576->Calls Tryz.prog 6 #[.agg #[.slice xa xn xc],.int .i64 l] W fun e w'=>∃r:Int,e=.returned (.int .i64 r)/\(r=-1\/(0<=r/\xn+sumI M T xn<=1048576))/\Below W.heap.size W w'):=fun W l k h0 h1=>szIndexL_sum xa xn xc M T l W h0 h1 (hxa.below k.below) hxn hxX
 have HTp0:Hid (n<=1048576->∀W,K3 w a n c next da dn dc xa xn xc W->Calls Tryz.prog 8 #[.agg #[.slice a n c]] W fun e w'=>∃g,e=.returned (.agg #[.slice (some ⟨g,0,none⟩) n n])/\W.heap.size<=g/\rowIn w' g 83 (n*3) (pnCell I X R)/\Below W.heap.size W w'):=fun h1 W k=>toPath_any a n c I X R W (ha.below k.below) h1
 have HTd0:Hid (dn<=1048576->∀W,K3 w a n c next da dn dc xa xn xc W->Calls Tryz.prog 9 #[.agg #[.int .i64 next,.slice da dn dc]] W fun e w'=>∃g,e=.returned (.agg #[.int .i64 next,.slice (some ⟨g,0,none⟩) dn dn])/\W.heap.size<=g/\rowIn w' g 112 (dn*3) (termCell Id Xd Rf)/\Below W.heap.size W w'):=fun h1 W k=>toDict_any next da dn dc Id Xd Rf W (hda.below k.below) h1
 have HTi0:Hid (xn<=1048576->IxFit xn M T->∀W,K3 w a n c next da dn dc xa xn xc W->Calls Tryz.prog 10 #[.agg #[.slice xa xn xc]] W fun e w'=>∃g R9,e=.returned (.agg #[.slice (some ⟨g,0,none⟩) xn xn])/\W.heap.size<=g/\OwnIr w' (g+1) g xn 0 xn M T R9/\Below W.heap.size W w'):=fun h1 h2 W k=>toIndexR_any xa xn xc M T W (hxa.below k.below) h1 h2
 obtain ⟨l,hl⟩:∃l,l=L.length:=⟨_,rfl⟩
 have HL:Hid (l=L.length):=hl
 have hlm:l<=100:=by rw [hl];exact hl1
 have HRt:Hid (∀W e w',RetDi W n I X R next dn Id Xd Rf xn M T e w'->∃a' c',e=.returned (.slice a' l c')/\OwI w' W.heap.size a' L/\Below W.heap.size W w'):=fun W e w' q=>by rw [hl];exact hL W e w' q
 clear ha hX hda hdX hxa hxX hL hl hl1
 have K0:Hid (K3 w a n c next da dn dc xa xn xc (((w.alloc (.cells #[.slice a n c] 24)).alloc (.cells #[.int .i64 next,.slice da dn dc] 27)).alloc (.cells #[.slice xa xn xc] 30))):=Below.refl _ _
 obtain ⟨W0,hW0⟩:∃W0,W0=(((w.alloc (.cells #[.slice a n c] 24)).alloc (.cells #[.int .i64 next,.slice da dn dc] 27)).alloc (.cells #[.slice xa xn xc] 30)):=⟨_,rfl⟩
 rw [<- hW0] at K0
 go_enter Tryz.func3,Tryz.ntmps3
 go_upto_region 2 with fail
 rw [<- hW0]
 clear hW0
 obtain ⟨z0,⟨z1,z2⟩,z3⟩:=K0.out.cells
 go_wp2_with fail
 (with_reducible refine (HSzp.out _ K0.out).mono ?_)
 rintro e w1 ⟨r1,rfl,hr1,hb1⟩
 have K1:Hid (K3 w a n c next da dn dc xa xn xc w1):=K0.out.on hb1
 clear hb1 HSzp K0 z0 z1 z2 z3
 rcases hr1 with rfl|⟨⟨hr0,hr9⟩,hn1⟩
 ·go_wp2
  go_ret
  exact ⟨rfl,K1.out.below⟩
 have hr2:¬ r1<0:=by omega
 obtain ⟨z0,⟨z1,z2⟩,z3⟩:=K1.out.cells
 go_wp2_with fail
 (with_reducible refine (HSzd.out _ _ K1.out hr0 hr9).mono ?_)
 rintro e w2 ⟨r2,rfl,hr,hb2⟩
 have K2:Hid (K3 w a n c next da dn dc xa xn xc w2):=K1.out.on hb2
 clear hb2 HSzd K1 z0 z1 z2 z3 hr2 hr0 hr9
 rcases hr with rfl|⟨⟨hr0,hr9⟩,hdn1⟩
 ·go_wp2
  go_ret
  exact ⟨rfl,K2.out.below⟩
 have hr2:¬ r2<0:=by omega
 obtain ⟨z0,⟨z1,z2⟩,z3⟩:=K2.out.cells
 go_wp2_with fail
 (with_reducible refine (HSzx.out _ _ K2.out hr0 hr9).mono ?_)
 rintro e w3 ⟨r3,rfl,hr,hb3⟩
 have K9:Hid (K3 w a n c next da dn dc xa xn xc w3):=K2.out.on hb3
 clear hb3 HSzx K2 z0 z1 z2 z3 hr2 hr0 hr9
 rcases hr with rfl|⟨hr0,hsum⟩
 ·go_wp2
  go_ret
  exact ⟨rfl,K9.out.below⟩
 have hr2:¬ r3<0:=by omega
 have hxn1:xn<=1048576:=by omega
 have HFt:Hid (IxFit xn M T/\xn+sumI M T xn<=1048576):=⟨ixFit_of hsum,hsum⟩
 have HTp:Hid (∀W,K3 w a n c next da dn dc xa xn xc W->Calls Tryz.prog 8 #[.agg #[.slice a n c]] W fun e w'=>∃g,e=.returned (.agg #[.slice (some ⟨g,0,none⟩) n n])/\W.heap.size<=g/\rowIn w' g 83 (n*3) (pnCell I X R)/\Below W.heap.size W w'):=HTp0.out hn1
 have HTd:Hid (∀W,K3 w a n c next da dn dc xa xn xc W->Calls Tryz.prog 9 #[.agg #[.int .i64 next,.slice da dn dc]] W fun e w'=>∃g,e=.returned (.agg #[.int .i64 next,.slice (some ⟨g,0,none⟩) dn dn])/\W.heap.size<=g/\rowIn w' g 112 (dn*3) (termCell Id Xd Rf)/\Below W.heap.size W w'):=HTd0.out hdn1
 have HTi:Hid (∀W,K3 w a n c next da dn dc xa xn xc W->Calls Tryz.prog 10 #[.agg #[.slice xa xn xc]] W fun e w'=>∃g R9,e=.returned (.agg #[.slice (some ⟨g,0,none⟩) xn xn])/\W.heap.size<=g/\OwnIr w' (g+1) g xn 0 xn M T R9/\Below W.heap.size W w'):=HTi0.out hxn1 HFt.out.1
 have HSp:Hid (∀W g0 g1 g2 R9,rowIn W g0 83 (n*3) (pnCell I X R)->rowIn W g1 112 (dn*3) (termCell Id Xd Rf)->OwnIr W (g2+1) g2 xn 0 xn M T R9->Calls Tryz.prog 7 #[.agg #[.slice (some ⟨g0,0,none⟩) n n],.agg #[.int .i64 next,.slice (some ⟨g1,0,none⟩) dn dn],.agg #[.slice (some ⟨g2,0,none⟩) xn xn]] W fun e w'=>∃a' c',e=.returned (.slice a' l c')/\OwI w' W.heap.size a' L/\Below W.heap.size W w'):=fun W g0 g1 g2 R9 h0 h1 h2=>(specDP _ n n I X R next _ dn dn Id Xd Rf _ xn xn M T W (rdN_row h0) hn1 (Nat.le_refl _) (by omega) (rdT_row h1) hdn1 h2.rd hxn1 HFt.out.1).mono fun e w' q=>HRt.out W e w' q.di
 have HIm:Hid (∀W g0 g1 g2 R9,rowIn W g0 83 (n*3) (pnCell I X R)->rowIn W g1 112 (dn*3) (termCell Id Xd Rf)->OwnIr W (g2+1) g2 xn 0 xn M T R9->Calls Tryz.prog 11 #[.agg #[.slice (some ⟨g0,0,none⟩) n n],.agg #[.int .i64 next,.slice (some ⟨g1,0,none⟩) dn dn],.agg #[.slice (some ⟨g2,0,none⟩) xn xn]] W fun e w'=>∃a' c',e=.returned (.slice a' l c')/\OwI w' W.heap.size a' L/\Below W.heap.size W w'):=fun W g0 g1 g2 R9 h0 h1 h2=>(implDP _ n n I X R next _ dn dn Id Xd Rf _ xn xn M T W (rdN_row h0) hn1 (Nat.le_refl _) (by omega) (rdT_row h1) hdn1 h2.rd hxn1 HFt.out.1).mono fun e w' q=>HRt.out W e w' q
 have HEq:Hid (∀(W:World) a1 c1 a2 c2,RdI W a1 L->RdI W a2 L->Calls Tryz.prog 12 #[.slice a1 l c1,.slice a2 l c2] W fun e w'=>e=.returned (.bool true)/\Below W.heap.size W w'):=fun W a1 c1 a2 c2 h1 h2=>by
  rw [HL.out]
  refine (eqInt64S_yes a1 a2 L.length c1 c2 _ W h1 h2 (by rw [<- HL.out];omega)).mono ?_
  rintro e w' ⟨rfl,m,rfl⟩
  exact ⟨rfl,below_drewN (Below.refl _ _) m⟩
 clear hn hdn hxn HTp0 HTd0 HTi0 HRt hsum
 go_upto_region 11 with fail
 refine wp_region_lateT (S:=fun W=>K3 w a n c next da dn dc xa xn xc W/\True) 7 (by kernel_rfl) ⟨K9.out.on (Below.refl _ _).drew,trivial⟩ (fun W hHeld=>?_)
 refine tk 0 .zero (v:=.agg #[.slice a n c]) (fun w' h=>by obtain ⟨z0,⟨z1,z2⟩,z3⟩:=h.1.cells;clear h;go_simp) ?_
 simp only [tkp]
 refine tk 2 (.succ (.succ .zero)) (v:=.agg #[.int .i64 next,.slice da dn dc]) (fun w' h=>by obtain ⟨z0,⟨z1,z2⟩,z3⟩:=h.1.cells;clear h;go_simp) ?_
 simp only [tkp]
 refine tk 4 (.succ (.succ (.succ (.succ .zero)))) (v:=.agg #[.slice xa xn xc]) (fun w' h=>by obtain ⟨z0,⟨z1,z2⟩,z3⟩:=h.1.cells;clear h;go_simp) ?_
 simp only [tkp]
 refine tk1 1 (.succ .zero) (fun K hK=>?_)
 refine step_h1 rfl 8 32 _ rfl (.agg #[.slice a n c]) rfl (fun _ _=>rfl) ?_
 refine (HTp.out W hHeld.1).mono ?_
 rintro e u1 ⟨g0,rfl,-,hr0,hb⟩
 have h1:K3 w a n c next da dn dc xa xn xc u1/\True:=⟨hHeld.1.on hb,trivial⟩
 refine ⟨_,rfl,hK.out _ _ (fun _=>h1) (fun hG=>?_)⟩
 clear hK K hG hb hHeld
 simp only [tkp]
 refine tk1 3 (.succ (.succ (.succ .zero))) (fun K hK=>?_)
 refine step_h1 rfl 9 34 _ rfl (.agg #[.int .i64 next,.slice da dn dc]) rfl (fun _ _=>rfl) ?_
 refine (HTd.out u1 h1.1).mono ?_
 rintro e u2 ⟨g1,rfl,-,hr1,hb⟩
 have h2:K3 w a n c next da dn dc xa xn xc u2/\True:=⟨h1.1.on hb,trivial⟩
 replace hr0:=hr0.of_block (hb.block _ hr0.lt)
 refine ⟨_,rfl,hK.out _ _ (fun _=>h2) (fun hG=>?_)⟩
 clear hK K hG hb h1
 simp only [tkp]
 refine tk1 5 (.s5 .zero) (fun K hK=>?_)
 refine step_h1 rfl 10 36 _ rfl (.agg #[.slice xa xn xc]) rfl (fun _ _=>rfl) ?_
 refine (HTi.out u2 h2.1).mono ?_
 rintro e u3 ⟨g2,R9,rfl,-,hr2,hb⟩
 have h3:K3 w a n c next da dn dc xa xn xc u3/\True:=⟨h2.1.on hb,trivial⟩
 replace hr0:=hr0.of_block (hb.block _ hr0.lt)
 replace hr1:=hr1.of_block (hb.block _ hr1.lt)
 refine ⟨_,rfl,hK.out _ _ (fun _=>h3) (fun hG=>?_)⟩
 clear hK K hG hb h2
 simp only [tkp]
 refine tk1 6 (.s5 (.succ .zero)) (fun K hK=>?_)
 refine step_h3 rfl 7 33 35 37 _ rfl (.agg #[.slice (some ⟨g0,0,none⟩) n n]) (.agg #[.int .i64 next,.slice (some ⟨g1,0,none⟩) dn dn]) (.agg #[.slice (some ⟨g2,0,none⟩) xn xn]) rfl rfl rfl (fun _ _=>rfl) ?_
 refine (HSp.out u3 g0 g1 g2 R9 hr0 hr1 hr2).mono ?_
 rintro e u4 ⟨a8,c8,rfl,ho,hb⟩
 have h4:K3 w a n c next da dn dc xa xn xc u4/\True:=⟨h3.1.on hb,trivial⟩
 have K8:Hid (K3 w a n c next da dn dc xa xn xc u4/\RdI u4 a8 L):=⟨h4.1,ho.rd⟩
 refine ⟨_,rfl,hK.out _ _ (fun _=>h4) (fun hG=>?_)⟩
 clear hK K hG hb h3 hr0 hr1 hr2 ho
 simp only [tkp]
 refine tk1 7 (.s5 (.succ (.succ .zero))) (fun K hK=>?_)
 go_simp
 refine hK.out _ _ (fun _=>h4) (fun hG=>?_)
 clear hK K hG
 refine wpLate_done (by kernel_rfl) ?_ _
 clear h4 HSp K9
 obtain ⟨wk,hwk⟩:∃wk,wk=u4:=⟨_,rfl⟩
 subst hwk
 obtain ⟨z0,⟨z1,z2⟩,z3⟩:=K8.out.1.cells
 go_wp2_with fail
 (with_reducible refine (HTp.out _ K8.out.1).mono ?_)
 rintro e w5 ⟨g0,rfl,hg0,hr0,hb5⟩
 obtain ⟨W6,hW6⟩:∃W6,W6=w5.alloc (.cells #[.slice (some ⟨g0,0,none⟩) n n] 38):=⟨_,rfl⟩
 have hb6:Below wk.heap.size wk W6:=by rw [hW6];exact hb5.trans ((below_alloc _ _).mono hb5.size)
 have X6:Hid (Below wk.heap.size wk W6/\Bx W6 w5.heap.size 38 #[.slice (some ⟨g0,0,none⟩) n n]/\rowIn W6 g0 83 (n*3) (pnCell I X R)/\wk.heap.size<=g0/\g0<w5.heap.size):=by
  refine ⟨hb6,?_,?_,hg0,hr0.lt⟩
  ·rw [hW6];exact Bx.new _ _ _
  ·rw [hW6];exact hr0.of_block ((below_alloc _ _).block _ hr0.lt)
 clear hg0 hr0 hb5 hb6 z0 z1 z2 z3
 go_upto_region 13 with fail
 rw [<- hW6]
 clear hW6
 generalize w5.heap.size=b0 at X6 ⊢
 obtain ⟨z0,⟨z1,z2⟩,z3⟩:=(K8.out.1.on X6.out.1).cells
 go_wp2_with fail
 (with_reducible refine (HTd.out _ (K8.out.1.on X6.out.1)).mono ?_)
 rintro e w7 ⟨g1,rfl,hg1,hr1,hb7⟩
 obtain ⟨W8,hW8⟩:∃W8,W8=w7.alloc (.cells #[.int .i64 next,.slice (some ⟨g1,0,none⟩) dn dn] 42):=⟨_,rfl⟩
 have hb8:Below W6.heap.size W6 W8:=by rw [hW8];exact hb7.trans ((below_alloc _ _).mono hb7.size)
 have X8:Hid ((Below wk.heap.size wk W8/\Bx W8 b0 38 #[.slice (some ⟨g0,0,none⟩) n n]/\rowIn W8 g0 83 (n*3) (pnCell I X R)/\wk.heap.size<=g0/\g0<b0)/\Bx W8 w7.heap.size 42 #[.int .i64 next,.slice (some ⟨g1,0,none⟩) dn dn]/\rowIn W8 g1 112 (dn*3) (termCell Id Xd Rf)/\b0<g1/\g1<w7.heap.size):=by
  refine ⟨⟨X6.out.1.trans (hb8.mono X6.out.1.size),(hb8.block _ X6.out.2.1.lt).trans X6.out.2.1,X6.out.2.2.1.of_block (hb8.block _ X6.out.2.2.1.lt),X6.out.2.2.2⟩,?_,?_,Nat.lt_of_lt_of_le X6.out.2.1.lt hg1,hr1.lt⟩
  ·rw [hW8];exact Bx.new _ _ _
  ·rw [hW8];exact hr1.of_block ((below_alloc _ _).block _ hr1.lt)
 clear hg1 hr1 hb7 hb8 z0 z1 z2 z3 X6
 go_upto_region 14 with fail
 rw [<- hW8]
 clear hW8
 generalize w7.heap.size=b1 at X8 ⊢
 obtain ⟨z0,⟨z1,z2⟩,z3⟩:=(K8.out.1.on X8.out.1.1).cells
 go_wp2_with fail
 (with_reducible refine (HTi.out _ (K8.out.1.on X8.out.1.1)).mono ?_)
 rintro e w9 ⟨g2,R9,rfl,hg2,hr2,hb9⟩
 obtain ⟨W9,hW9⟩:∃W9,W9=w9.alloc (.cells #[.slice (some ⟨g2,0,none⟩) xn xn] 46):=⟨_,rfl⟩
 have hb10:Below W8.heap.size W8 W9:=by rw [hW9];exact hb9.trans ((below_alloc _ _).mono hb9.size)
 have X9:Hid (L9 w wk W9 a n c next da dn dc xa xn xc I X R Id Xd Rf M T L a8 b0 b1 w9.heap.size g0 g1 g2 R9/\w9.heap.size<W9.heap.size):=by
  refine ⟨⟨K8.out.1,K8.out.2,X8.out.1.1.trans (hb10.mono X8.out.1.1.size),(hb10.block _ X8.out.1.2.1.lt).trans X8.out.1.2.1,(hb10.block _ X8.out.2.1.lt).trans X8.out.2.1,?_,X8.out.1.2.2.1.of_block (hb10.block _ X8.out.1.2.2.1.lt),X8.out.2.2.1.of_block (hb10.block _ X8.out.2.2.1.lt),?_,X8.out.1.2.2.2.1,X8.out.1.2.2.2.2,X8.out.2.2.2.1,X8.out.2.2.2.2,Nat.lt_of_lt_of_le X8.out.2.1.lt hg2,hr2.2.2.1⟩,?_⟩
  ·rw [hW9];exact Bx.new _ _ _
  ·rw [hW9];exact hr2.below (below_alloc _ _)
  ·rw [hW9];simp
 clear hg2 hr2 hb9 hb10 z0 z1 z2 z3 X8
 go_upto_region 15 with fail
 rw [<- hW9]
 clear hW9
 generalize w9.heap.size=b2 at X9 ⊢
 obtain ⟨y0,⟨y1,y2⟩,y3⟩:=X9.out.1.cells
 have HIg:Hid (Calls Tryz.prog 11 #[.agg #[.slice (some ⟨g0,0,none⟩) n n],.agg #[.int .i64 next,.slice (some ⟨g1,0,none⟩) dn dn],.agg #[.slice (some ⟨g2,0,none⟩) xn xn]] W9 fun e w'=>∃a' c',e=.returned (.slice a' l c')/\OwI w' W9.heap.size a' L/\Below W9.heap.size W9 w'):=HIm.out W9 g0 g1 g2 R9 X9.out.1.r0 X9.out.1.r1 X9.out.1.r2
 go_wp2_with fail
 (with_reducible refine HIg.out.mono ?_)
 rintro e w11 ⟨a12,c12,rfl,ho12,hb11⟩
 have X11:Hid (L9 w wk w11 a n c next da dn dc xa xn xc I X R Id Xd Rf M T L a8 b0 b1 b2 g0 g1 g2 R9/\OwI w11 W9.heap.size a12 L/\W9.heap.size<=w11.heap.size):=⟨X9.out.1.keep hb11,ho12,hb11.size⟩
 have HP9:Hid (b2<W9.heap.size):=X9.out.2
 clear HIg ho12 hb11 y0 y1 y2 y3 X9
 go_wp2_with fail
 (with_reducible refine (HEq.out w11 _ _ _ _ X11.out.2.1.rd (X11.out.1.q8.below X11.out.1.bel)).mono ?_)
 rintro e w13 ⟨rfl,hb13⟩
 have X13:Hid (L9 w wk w13 a n c next da dn dc xa xn xc I X R Id Xd Rf M T L a8 b0 b1 b2 g0 g1 g2 R9/\OwI w13 W9.heap.size a12 L/\W9.heap.size<=w13.heap.size):=⟨X11.out.1.keep hb13,X11.out.2.1.below hb13,Nat.le_trans X11.out.2.2 hb13.size⟩
 clear hb13 X11
 go_upto_region 18 with fail
 refine wp_region_lateT (S:=fun W=>L9 w wk W a n c next da dn dc xa xn xc I X R Id Xd Rf M T L a8 b0 b1 b2 g0 g1 g2 R9/\OwI W W9.heap.size a12 L/\W9.heap.size<=W.heap.size) 4 (by kernel_rfl) (⟨X13.out.1.keep (Below.refl _ _).drew,X13.out.2.1.below (Below.refl _ _).drew,X13.out.2.2⟩) (fun W hHeld=>?_)
 refine tk 0 .zero (v:=.agg #[.slice (some ⟨g0,0,none⟩) n n]) (fun w' h=>by obtain ⟨y0,⟨y1,y2⟩,y3⟩:=h.1.cells;obtain ⟨z0,⟨z1,z2⟩,z3⟩:=h.1.k.cells;clear h;go_simp) ?_
 simp only [tkp]
 refine tk 1 (.succ .zero) (v:=.agg #[.slice a n c]) (fun w' h=>by obtain ⟨y0,⟨y1,y2⟩,y3⟩:=h.1.cells;obtain ⟨z0,⟨z1,z2⟩,z3⟩:=h.1.k.cells;clear h;go_simp) ?_
 simp only [tkp]
 refine tk1 2 (.succ (.succ .zero)) (fun K hK=>?_)
 refine step_h1 rfl 8 54 _ rfl (.agg #[.slice a n c]) rfl (fun _ _=>rfl) ?_
 refine (HTp.out W hHeld.1.k).mono ?_
 rintro e u1 ⟨g9,rfl,-,hr9,hb⟩
 have h1:L9 w wk u1 a n c next da dn dc xa xn xc I X R Id Xd Rf M T L a8 b0 b1 b2 g0 g1 g2 R9/\OwI u1 W9.heap.size a12 L/\W9.heap.size<=u1.heap.size:=⟨hHeld.1.keep hb,hHeld.2.1.below hb,Nat.le_trans hHeld.2.2 hb.size⟩
 refine ⟨_,rfl,hK.out _ _ (fun _=>h1) (fun hG=>?_)⟩
 clear hK K hG hb hHeld
 simp only [tkp]
 refine tk1 3 (.succ (.succ (.succ .zero))) (fun K hK=>?_)
 refine step_h2 rfl 13 53 55 _ rfl (.agg #[.slice (some ⟨g0,0,none⟩) n n]) (.agg #[.slice (some ⟨g9,0,none⟩) n n]) rfl rfl (fun _ _=>rfl) ?_
 refine (eqPath_yes _ _ n n n I X R u1 (rdN_row h1.1.r0) (rdN_row hr9) hn1).mono ?_
 rintro e u2 ⟨rfl,hb⟩
 have X18:Hid (L9 w wk u2 a n c next da dn dc xa xn xc I X R Id Xd Rf M T L a8 b0 b1 b2 g0 g1 g2 R9/\OwI u2 W9.heap.size a12 L/\W9.heap.size<=u2.heap.size):=⟨h1.1.keep hb,h1.2.1.below hb,Nat.le_trans h1.2.2 hb.size⟩
 refine ⟨_,rfl,hK.out _ _ (fun _=>X18.out) (fun hG=>?_)⟩
 clear hK K hG hb h1 hr9
 simp only [tkp]
 refine tk1 4 (.succ (.succ (.succ (.succ .zero)))) (fun K hK=>?_)
 go_simp
 refine hK.out _ _ (fun _=>X18.out) (fun hG=>?_)
 clear hK K hG X13
 refine wpLate_done (by kernel_rfl) ?_ _
 go_upto_region 20 with fail
 refine wp_region_lateT (S:=fun W=>L9 w wk W a n c next da dn dc xa xn xc I X R Id Xd Rf M T L a8 b0 b1 b2 g0 g1 g2 R9/\OwI W W9.heap.size a12 L/\W9.heap.size<=W.heap.size) 4 (by kernel_rfl) (⟨X18.out.1.keep (Below.refl _ _).drew,X18.out.2.1.below (Below.refl _ _).drew,X18.out.2.2⟩) (fun W hHeld=>?_)
 refine tk 0 .zero (v:=.agg #[.int .i64 next,.slice (some ⟨g1,0,none⟩) dn dn]) (fun w' h=>by obtain ⟨y0,⟨y1,y2⟩,y3⟩:=h.1.cells;obtain ⟨z0,⟨z1,z2⟩,z3⟩:=h.1.k.cells;clear h;go_simp) ?_
 simp only [tkp]
 refine tk 1 (.succ .zero) (v:=.agg #[.int .i64 next,.slice da dn dc]) (fun w' h=>by obtain ⟨y0,⟨y1,y2⟩,y3⟩:=h.1.cells;obtain ⟨z0,⟨z1,z2⟩,z3⟩:=h.1.k.cells;clear h;go_simp) ?_
 simp only [tkp]
 refine tk1 2 (.succ (.succ .zero)) (fun K hK=>?_)
 refine step_h1 rfl 9 59 _ rfl (.agg #[.int .i64 next,.slice da dn dc]) rfl (fun _ _=>rfl) ?_
 refine (HTd.out W hHeld.1.k).mono ?_
 rintro e v1 ⟨g9,rfl,-,hr9,hb⟩
 have h1:L9 w wk v1 a n c next da dn dc xa xn xc I X R Id Xd Rf M T L a8 b0 b1 b2 g0 g1 g2 R9/\OwI v1 W9.heap.size a12 L/\W9.heap.size<=v1.heap.size:=⟨hHeld.1.keep hb,hHeld.2.1.below hb,Nat.le_trans hHeld.2.2 hb.size⟩
 refine ⟨_,rfl,hK.out _ _ (fun _=>h1) (fun hG=>?_)⟩
 clear hK K hG hb hHeld
 simp only [tkp]
 refine tk1 3 (.succ (.succ (.succ .zero))) (fun K hK=>?_)
 refine step_h2 rfl 14 58 60 _ rfl (.agg #[.int .i64 next,.slice (some ⟨g1,0,none⟩) dn dn]) (.agg #[.int .i64 next,.slice (some ⟨g9,0,none⟩) dn dn]) rfl rfl (fun _ _=>rfl) ?_
 refine (eqDict_yes next _ _ dn dn dn Id Xd Rf v1 (rdT_row h1.1.r1) (rdT_row hr9) hdn1).mono ?_
 rintro e v2 ⟨rfl,hb⟩
 have X20:Hid (L9 w wk v2 a n c next da dn dc xa xn xc I X R Id Xd Rf M T L a8 b0 b1 b2 g0 g1 g2 R9/\OwI v2 W9.heap.size a12 L/\W9.heap.size<=v2.heap.size):=⟨h1.1.keep hb,h1.2.1.below hb,Nat.le_trans h1.2.2 hb.size⟩
 refine ⟨_,rfl,hK.out _ _ (fun _=>X20.out) (fun hG=>?_)⟩
 clear hK K hG hb h1 hr9
 simp only [tkp]
 refine tk1 4 (.succ (.succ (.succ (.succ .zero)))) (fun K hK=>?_)
 go_simp
 refine hK.out _ _ (fun _=>X20.out) (fun hG=>?_)
 clear hK K hG X18
 refine wpLate_done (by kernel_rfl) ?_ _
 go_upto_region 22 with fail
 refine wp_region_lateT (S:=fun W=>L9 w wk W a n c next da dn dc xa xn xc I X R Id Xd Rf M T L a8 b0 b1 b2 g0 g1 g2 R9/\OwI W W9.heap.size a12 L/\W9.heap.size<=W.heap.size) 4 (by kernel_rfl) (⟨X20.out.1.keep (Below.refl _ _).drew,X20.out.2.1.below (Below.refl _ _).drew,X20.out.2.2⟩) (fun W hHeld=>?_)
 refine tk 0 .zero (v:=.agg #[.slice (some ⟨g2,0,none⟩) xn xn]) (fun w' h=>by obtain ⟨y0,⟨y1,y2⟩,y3⟩:=h.1.cells;obtain ⟨z0,⟨z1,z2⟩,z3⟩:=h.1.k.cells;clear h;go_simp) ?_
 simp only [tkp]
 refine tk 1 (.succ .zero) (v:=.agg #[.slice xa xn xc]) (fun w' h=>by obtain ⟨y0,⟨y1,y2⟩,y3⟩:=h.1.cells;obtain ⟨z0,⟨z1,z2⟩,z3⟩:=h.1.k.cells;clear h;go_simp) ?_
 simp only [tkp]
 refine tk1 2 (.succ (.succ .zero)) (fun K hK=>?_)
 refine step_h1 rfl 10 64 _ rfl (.agg #[.slice xa xn xc]) rfl (fun _ _=>rfl) ?_
 refine (HTi.out W hHeld.1.k).mono ?_
 rintro e t1 ⟨g9,R8,rfl,-,hr9,hb⟩
 have h1:L9 w wk t1 a n c next da dn dc xa xn xc I X R Id Xd Rf M T L a8 b0 b1 b2 g0 g1 g2 R9/\OwI t1 W9.heap.size a12 L/\W9.heap.size<=t1.heap.size:=⟨hHeld.1.keep hb,hHeld.2.1.below hb,Nat.le_trans hHeld.2.2 hb.size⟩
 refine ⟨_,rfl,hK.out _ _ (fun _=>h1) (fun hG=>?_)⟩
 clear hK K hG hb hHeld
 simp only [tkp]
 refine tk1 3 (.succ (.succ (.succ .zero))) (fun K hK=>?_)
 refine step_h2 rfl 15 63 65 _ rfl (.agg #[.slice (some ⟨g2,0,none⟩) xn xn]) (.agg #[.slice (some ⟨g9,0,none⟩) xn xn]) rfl rfl (fun _ _=>rfl) ?_
 refine (eqIndex_yes _ _ xn xn xn M T t1 h1.1.r2.rd hr9.rd hxn1 HFt.out.1).mono ?_
 rintro e t2 ⟨rfl,hb⟩
 have X22:Hid (L9 w wk t2 a n c next da dn dc xa xn xc I X R Id Xd Rf M T L a8 b0 b1 b2 g0 g1 g2 R9/\OwI t2 W9.heap.size a12 L/\W9.heap.size<=t2.heap.size):=⟨h1.1.keep hb,h1.2.1.below hb,Nat.le_trans h1.2.2 hb.size⟩
 refine ⟨_,rfl,hK.out _ _ (fun _=>X22.out) (fun hG=>?_)⟩
 clear hK K hG hb h1 hr9
 simp only [tkp]
 refine tk1 4 (.succ (.succ (.succ (.succ .zero)))) (fun K hK=>?_)
 go_simp
 refine hK.out _ _ (fun _=>X22.out) (fun hG=>?_)
 clear hK K hG X20
 refine wpLate_done (by kernel_rfl) ?_ _
 obtain ⟨y0,⟨y1,y2⟩,y3⟩:=X22.out.1.cells
 go_wp2_with fail
 (with_reducible refine (markPathK_any 1 g0 n n _ (by omega) (nrow_of X22.out.1.r0) (by omega)).mono ?_)
 rintro e w25 ⟨rfl,hm1⟩
 have X25:Hid ((Bx w25 b1 42 #[.int .i64 next,.slice (some ⟨g1,0,none⟩) dn dn]/\rowIn w25 g1 112 (dn*3) (termCell Id Xd Rf))/\∀W2 W3,w25.grownBy W2 (some g1)->(Bx W2 b2 46 #[.slice (some ⟨g2,0,none⟩) xn xn]/\OwnIr W2 (g2+1) g2 xn 0 xn M T R9)/\(WiT (R9 0) (R9 xn) W2 W3->Below wk.heap.size wk W3/\OwI W3 W9.heap.size a12 L/\W9.heap.size<=W3.heap.size)):=⟨(X22.out.1.marks (W2:=wk) (W3:=wk) X22.out.2.2 HP9.out X22.out.2.1 hm1).1,fun W2 W3=>(X22.out.1.marks X22.out.2.2 HP9.out X22.out.2.1 hm1).2⟩
 have X8:Hid (K3 w a n c next da dn dc xa xn xc wk/\RdI wk a8 L/\w.heap.size+3<=wk.heap.size/\wk.heap.size<=W9.heap.size):=⟨K8.out.1,K8.out.2,K8.out.1.size,by have:=X22.out.1.pos;have:=HP9.out;have:=X22.out.1.r2.2.2.2.1 0 xn (Nat.zero_le _) (Nat.le_refl _);have:=X22.out.1.r2.2.1;omega⟩
 clear hm1 y0 y1 y2 y3 X22 K8
 have y1:=X25.out.1.1.cell 0
 have y2:=X25.out.1.1.cell 1
 simp at y1 y2
 go_wp2_with fail
 (with_reducible refine (markDictK_any _ next g1 dn dn _ (by omega) (trow_of X25.out.1.2) (by omega)).mono ?_)
 rintro e w26 ⟨rfl,hm2⟩
 have X26:Hid ((Bx w26 b2 46 #[.slice (some ⟨g2,0,none⟩) xn xn]/\OwnIr w26 (g2+1) g2 xn 0 xn M T R9)/\∀W3,WiT (R9 0) (R9 xn) w26 W3->Below wk.heap.size wk W3/\OwI W3 W9.heap.size a12 L/\W9.heap.size<=W3.heap.size):=⟨(X25.out.2 w26 wk hm2).1,fun W3=>(X25.out.2 w26 W3 hm2).2⟩
 clear hm2 y1 y2 X25
 have y3:=X26.out.1.1.cell 0
 simp at y3
 go_wp2_with fail
 (with_reducible refine (markIndexK_any _ (1+3*n+3*dn) (by omega) (by omega) (g2+1) g2 xn xn M T R9 _ X26.out.1.2 HFt.out.2).mono ?_)
 rintro e w27 ⟨p27,rfl,hm3⟩
 have X27:Hid (Below wk.heap.size wk w27/\OwI w27 W9.heap.size a12 L/\W9.heap.size<=w27.heap.size):=X26.out.2 w27 hm3
 have hp27:¬ ((p27:Int)<0):=by omega
 clear hm3 y3 X26
 go_wp2_with fail
 (with_reducible refine (HEq.out w27 _ _ _ _ X27.out.2.1.rd (X8.out.2.1.below X27.out.1)).mono ?_)
 rintro e w28 ⟨rfl,hb28⟩
 have X28:Hid (Below wk.heap.size wk w28/\OwI w28 W9.heap.size a12 L/\W9.heap.size<=w28.heap.size):=⟨X27.out.1.trans (hb28.mono X27.out.1.size),X27.out.2.1.below hb28,Nat.le_trans X27.out.2.2 hb28.size⟩
 clear hb28 X27
 have HMk:Hid (Calls Tryz.prog 19 #[.slice a12 l c12,.int .i64 1] w28 fun e w'=>e=.returned (.int .i64 ((1+l:Nat):Int))/\w28.grownBy w' (a12.map (·.block))/\(l=0->w'=w28)/\OwnV w' 2 a12 l (fun i=>.int .i64 ((1+i:Nat):Int))):=by
  have:=markInts_eq a12 l c12 1 (fun i=>((L.getD i 0:Nat):Int)) w28 (by rw [HL.out];exact X28.out.2.1.v) (by omega) (by omega)
  exact this
 obtain ⟨ml,hml⟩:∃ml,ml=1+l:=⟨_,rfl⟩
 rw [<- hml] at HMk
 go_wp2_with fail
 (with_reducible refine HMk.out.mono ?_)
 rintro e w29 ⟨rfl,hg29,h029,hv29⟩
 have X29:Hid (Below wk.heap.size wk w29/\OwnV w29 2 a12 l (fun i=>.int .i64 ((1+i:Nat):Int))):=by
  refine ⟨?_,hv29⟩
  by_cases h0:l=0
  ·rw [h029 h0];exact X28.out.1
  ·exact X28.out.1.grown hg29 X28.out.1.size (fun b e=>Nat.le_trans X8.out.2.2.2 (X28.out.2.1.ge (by rw [<- HL.out];exact h0) b e))
 clear hg29 h029 hv29 HMk X28
 have HHd:Hid (Calls Tryz.prog 20 #[.slice a12 l c12,.int .i64 1] w29 fun e w'=>e=.returned (.int .i64 (ml:Int))/\Below w29.heap.size w29 w'):=by
  rw [hml]
  refine heldInts_any 1 a12 l c12 1 rfl w29 ?_ (by omega)
  rcases X29.out.2 with h|⟨g,rfl,hr⟩
  ·exact .inl h
  ·exact .inr ⟨g,0,rfl,fun i hi=>by rw [Nat.zero_add];exact hr.cell hi⟩
 clear hml
 go_wp2_with fail
 (with_reducible refine HHd.out.mono ?_)
 rintro e w30 ⟨rfl,hb30⟩
 have X30:Hid (K3 w a n c next da dn dc xa xn xc w30/\RdI w30 a8 L):=by
  have hb:Below wk.heap.size wk w30:=X29.out.1.trans (hb30.mono X29.out.1.size)
  exact ⟨X8.out.1.on hb,X8.out.2.1.below hb⟩
 have hm0:¬ ((ml:Int)<0):=by omega
 clear hb30 HHd X29
 go_upto_region 38 with fail
 refine wp_region_lateT (S:=fun W=>K3 w a n c next da dn dc xa xn xc W/\RdI W a8 L) 7 (by kernel_rfl) ⟨X30.out.1.on (Below.refl _ _).drew,X30.out.2.below (Below.refl _ _).drew⟩ (fun W hHeld=>?_)
 refine tk 0 .zero (v:=.agg #[.slice a n c]) (fun w' h=>by obtain ⟨z0,⟨z1,z2⟩,z3⟩:=h.1.cells;clear h;go_simp) ?_
 simp only [tkp]
 refine tk 2 (.succ (.succ .zero)) (v:=.agg #[.int .i64 next,.slice da dn dc]) (fun w' h=>by obtain ⟨z0,⟨z1,z2⟩,z3⟩:=h.1.cells;clear h;go_simp) ?_
 simp only [tkp]
 refine tk 4 (.succ (.succ (.succ (.succ .zero)))) (v:=.agg #[.slice xa xn xc]) (fun w' h=>by obtain ⟨z0,⟨z1,z2⟩,z3⟩:=h.1.cells;clear h;go_simp) ?_
 simp only [tkp]
 refine tk1 1 (.succ .zero) (fun K hK=>?_)
 refine step_h1 rfl 8 96 _ rfl (.agg #[.slice a n c]) rfl (fun _ _=>rfl) ?_
 refine (HTp.out W hHeld.1).mono ?_
 rintro e s1 ⟨g0,rfl,-,hr0,hb⟩
 have h1:K3 w a n c next da dn dc xa xn xc s1/\RdI s1 a8 L:=⟨hHeld.1.on hb,hHeld.2.below hb⟩
 refine ⟨_,rfl,hK.out _ _ (fun _=>h1) (fun hG=>?_)⟩
 clear hK K hG hb hHeld
 simp only [tkp]
 refine tk1 3 (.succ (.succ (.succ .zero))) (fun K hK=>?_)
 refine step_h1 rfl 9 98 _ rfl (.agg #[.int .i64 next,.slice da dn dc]) rfl (fun _ _=>rfl) ?_
 refine (HTd.out s1 h1.1).mono ?_
 rintro e s2 ⟨g1,rfl,-,hr1,hb⟩
 have h2:K3 w a n c next da dn dc xa xn xc s2/\RdI s2 a8 L:=⟨h1.1.on hb,h1.2.below hb⟩
 replace hr0:=hr0.of_block (hb.block _ hr0.lt)
 refine ⟨_,rfl,hK.out _ _ (fun _=>h2) (fun hG=>?_)⟩
 clear hK K hG hb h1
 simp only [tkp]
 refine tk1 5 (.s5 .zero) (fun K hK=>?_)
 refine step_h1 rfl 10 100 _ rfl (.agg #[.slice xa xn xc]) rfl (fun _ _=>rfl) ?_
 refine (HTi.out s2 h2.1).mono ?_
 rintro e s3 ⟨g2,R9,rfl,-,hr2,hb⟩
 have h3:K3 w a n c next da dn dc xa xn xc s3/\RdI s3 a8 L:=⟨h2.1.on hb,h2.2.below hb⟩
 replace hr0:=hr0.of_block (hb.block _ hr0.lt)
 replace hr1:=hr1.of_block (hb.block _ hr1.lt)
 refine ⟨_,rfl,hK.out _ _ (fun _=>h3) (fun hG=>?_)⟩
 clear hK K hG hb h2
 simp only [tkp]
 refine tk1 6 (.s5 (.succ .zero)) (fun K hK=>?_)
 refine step_h3 rfl 11 97 99 101 _ rfl (.agg #[.slice (some ⟨g0,0,none⟩) n n]) (.agg #[.int .i64 next,.slice (some ⟨g1,0,none⟩) dn dn]) (.agg #[.slice (some ⟨g2,0,none⟩) xn xn]) rfl rfl rfl (fun _ _=>rfl) ?_
 refine (HIm.out s3 g0 g1 g2 R9 hr0 hr1 hr2).mono ?_
 rintro e s4 ⟨a16,c16,rfl,ho,hb⟩
 have h4:K3 w a n c next da dn dc xa xn xc s4/\RdI s4 a8 L:=⟨h3.1.on hb,h3.2.below hb⟩
 have X31:Hid (K3 w a n c next da dn dc xa xn xc s4/\RdI s4 a16 L):=⟨h4.1,ho.rd⟩
 have X32:Hid (RdI s4 a8 L):=h4.2
 refine ⟨_,rfl,hK.out _ _ (fun _=>h4) (fun hG=>?_)⟩
 clear hK K hG hb h3 hr0 hr1 hr2 ho
 simp only [tkp]
 refine tk1 7 (.s5 (.succ (.succ .zero))) (fun K hK=>?_)
 go_simp
 refine hK.out _ _ (fun _=>h4) (fun hG=>?_)
 clear hK K hG
 refine wpLate_done (by kernel_rfl) ?_ _
 clear h4
 go_wp2_with fail
 (with_reducible refine (HEq.out s4 _ _ _ _ X31.out.2 X32.out).mono ?_)
 rintro e w33 ⟨rfl,hb33⟩
 have HF:Hid (Below w.heap.size w w33):=(X31.out.1.on hb33).below
 clear hb33
 go_wp2
 go_ret
 exact ⟨rfl,HF.out⟩

theorem dpLaw (v0 v1 v2:Value) (w:World) (h0:IsPath w v0) (h1:IsDict w v1) (h2:IsIndex w v2):Calls Tryz.prog 3 #[v0,v1,v2] w fun e w'=>e=.returned (.bool true)/\Below w.heap.size w w':=by
 obtain ⟨a,n,c,I,X,R,rfl,ha,hX,hn⟩:=h0
 obtain ⟨next,da,dn,dc,Id,Xd,Rf,rfl,hda,hdX,hdn⟩:=h1
 obtain ⟨xa,xn,xc,M,T,rfl,hxa,hxX,hxn⟩:=h2
 exact dpLaw0 a n c I X R next da dn dc Id Xd Rf xa xn xc M T w ha hX hn hda hdX hdn hxa hxX hxn
end Go.Proofs.YtpaomghibppgkaaGreat
