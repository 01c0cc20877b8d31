import Derived.Test.YtbmffmifemebmaaGreatDoorNz20
import Derived.Test.YtbmffmifemebmaaGreatDoorNz17
import Derived.Test.YtbmffmifemebmaaGreatDoorNz26
import Derived.Test.YtbmffmifemebmaaGreatDoorNz16
import Derived.Test.YtbmffmifemebmaaGreatDoorNz18
import Derived.Test.YtbmffmifemebmaaGreatDoorNz15
import Derived.Test.YtbmffmifemebmaaGreatDoorNz12
import Derived.Test.YtbmffmifemebmaaGreatDoorNz22
import Derived.Test.YtbmffmifemebmaaGreatDoorNz24
set_option linter.unusedVariables false
set_option maxRecDepth 100000
namespace Go.Proofs.YtbmffmifemebmaaGreatDoor
open Go.RowKit Go.Deep

def pay9 (i:Nat):Int:=if i=0 then 83 else if i=1 then 1 else 0
theorem pay9_range (j:Nat):0<=pay9 j/\pay9 j<256:=by
 unfold pay9
 split
 ·omega
 ·split <;> omega
def stt0:Stt:=⟨fun _=>0,0,fun _=>0,fun _=>0,fun _ _=>0,-1,false⟩
def dk1:Nat->Int:=over (fun _=>0) 2 (secW 9 1 pay9 0)
def dk2:Nat->Int:=over dk1 0 (superF 0 0 1)
theorem stt0_recd:stt0.recd 2 (secW 9 1 pay9) 0=⟨dk1,0,fun _=>0,fun _=>0,fun _ _=>0,-1,false⟩:=by
 simp [Stt.recd,Stt.writes,Stt.write,Stt.sync,stt0,Stt.push,Stt.flush,syncTo,dk1,fuelAfter]
theorem vd0 (n:Nat) (h1:16<=n) (h2:n<=1024) (S:Nat->Int) (L:Nat->Nat):VD (n*64) 0 S L (-1):=
 ⟨⟨by omega,by omega,by omega,by omega,by omega,by omega⟩,fun i hi=>absurd hi (Nat.not_lt_zero _)⟩
theorem cnt9:cntOf 9=0+1:=rfl

theorem secF_zero (d S:Nat->Int) (F:Nat->Nat->Int) (s:Nat):secF d S F 0 s=fun j=>d (s*64+j):=secF_none rfl
theorem dk2_zero (j:Nat) (hj:j<64):dk2 (0*64+j)=superF 0 0 1 j:=by
 unfold dk2;rw [over_sec _ _ _ _ _ hj,if_pos rfl]
theorem dk2_two (j:Nat) (hj:j<64):dk2 (2*64+j)=secW 9 1 pay9 0 j:=by
 unfold dk2 dk1;rw [over_sec _ _ _ _ _ hj,if_neg (by decide),over_sec _ _ _ _ _ hj,if_pos rfl]
theorem dk2_else (s j:Nat) (hj:j<64) (h0:s≠0) (h2:s≠2):dk2 (s*64+j)=0:=by
 unfold dk2 dk1;rw [over_sec _ _ _ _ _ hj,if_neg h0,over_sec _ _ _ _ _ hj,if_neg h2]

theorem dk2_range (i:Nat):0<=dk2 i/\dk2 i<256:=by
 obtain ⟨s,j,hj,rfl⟩:∃s j,j<64/\i=s*64+j:=⟨i / 64,i % 64,Nat.mod_lt _ (by decide),by omega⟩
 by_cases h0:s=0
 ·subst h0
  rw [dk2_zero j hj]
  exact putN_range (superH_range 0 0 1) j hj
 ·by_cases h2:s=2
  ·subst h2
   rw [dk2_two j hj]
   unfold secW recF sealF
   exact putN_range (recH_range _ _ _ _ _ (fun j _=>pay9_range _)) j hj
  ·rw [dk2_else s j hj h0 h2];omega

theorem sup_a:getN (superF 0 0 1) 0 4=0:=by simp [getN,superF,sealF,superH,putN,byteAt]
theorem sup_b:getN (superF 0 0 1) 6 1=0:=by simp [getN,superF,sealF,superH,putN,byteAt]
theorem sup_c:getN (superF 0 0 1) 8 4=1:=by simp [getN,superF,sealF,superH,putN,byteAt]
theorem sup0 (S:Nat->Int) (F:Nat->Nat->Int):supV (secF dk2 S F 0 0) 0=srV true 0 0 1:=by
 rw [secF_zero]
 have e:∀o k,o+k<=64->getN (fun j=>dk2 (0*64+j)) o k=getN (superF 0 0 1) o k:=fun o k h=>getN_congr (fun j hj=>dk2_zero _ (by omega))
 have hs:supAt (fun j=>dk2 (0*64+j)) 0=true:=by
  unfold supAt
  rw [e 0 4 (by omega),e 6 1 (by omega),e 8 4 (by omega),sup_a,sup_b,sup_c]
  have:sameB (fun j=>dk2 (0*64+j)) (superF 0 0 1)=true:=(sameB_iff _ _).2 (fun j hj=>dk2_zero j hj)
  rw [this];rfl
 unfold supV
 rw [if_pos hs,e 0 4 (by omega),e 6 1 (by omega),e 8 4 (by omega),sup_a,sup_b,sup_c];rfl
theorem sup1 (S:Nat->Int) (F:Nat->Nat->Int):supV (secF dk2 S F 0 1) 1=srV false 0 0 0:=by
 rw [secF_zero]
 have e:∀j,j<64->dk2 (1*64+j)=0:=fun j hj=>dk2_else 1 j hj (by decide) (by decide)
 have hs:¬ supAt (fun j=>dk2 (1*64+j)) 1=true:=by
  unfold supAt
  have e3:getN (fun j=>dk2 (1*64+j)) 8 4=getN (fun _=>0) 8 4:=getN_congr (fun j hj=>e _ (by omega))
  rw [e3]
  simp [getN,goodB,numB]
 unfold supV
 rw [if_neg hs];rfl

theorem arG_dk (S:Nat->Int) (F:Nat->Nat->Int) (s:Nat):arG (secF dk2 S F 0) s=fun i j=>dk2 ((s+i)*64+j):=by
 funext i;unfold arG;rw [secF_zero]
theorem whole2:∀r:Int,1<=r->recOk (fun i j=>dk2 ((2+i)*64+j)) r 1/\getN ((fun i j=>dk2 ((2+i)*64+j)) 0) 6 2=((0+1:Nat):Int)/\catL (recLz (fun i j=>dk2 ((2+i)*64+j))) (0+1)=9/\∀j,j<9->catF (recLz (fun i j=>dk2 ((2+i)*64+j))) (recFz (fun i j=>dk2 ((2+i)*64+j))) (0+1) j=pay9 j:=
 fun r hr=>whole_yes (by decide) cnt9 (by simpa using hr) (fun x hx=>by
  have:x=0:=by omega
  subst this
  exact fun j hj=>dk2_two j hj)
theorem arK_two (S:Nat->Int) (F:Nat->Nat->Int):arK (secF dk2 S F 0) 2=1:=by
 unfold arK
 rw [secF_zero]
 have:=(whole2 1 (by omega)).2.1
 simp only [Nat.add_zero] at this
 rw [this];rfl
theorem arU_one (S:Nat->Int) (F:Nat->Nat->Int):arU (secF dk2 S F 0) 2 1=1:=by
 show 0+arK (secF dk2 S F 0) (2+0)=1
 rw [Nat.add_zero,arK_two]
theorem ar_good (S:Nat->Int) (F:Nat->Nat->Int) (n:Nat) (h1:16<=n):∀j,j<1->arGood (secF dk2 S F 0) n ((n-2) / 2) 2 1 j:=by
 intro j hj
 have:j=0:=by omega
 subst this
 refine ⟨by decide,?_,?_,?_⟩
 ·show 2+0<n;omega
 ·show recOk (arG (secF dk2 S F 0) (2+0)) ((n:Int)-((2+0:Nat):Int)) (1+((0:Nat):Int))
  rw [Nat.add_zero,arG_dk]
  exact (whole2 _ (by omega)).1
 ·show 0+arK (secF dk2 S F 0) (2+0)<=_
  rw [Nat.add_zero,arK_two];omega
theorem ar_end (S:Nat->Int) (F:Nat->Nat->Int) (n:Nat):¬ arGood (secF dk2 S F 0) n ((n-2) / 2) 2 1 1:=by
 rintro ⟨_,_,⟨h,_⟩,_⟩
 rw [arU_one,arG_dk] at h
 have e:getN ((fun i j=>dk2 ((2+1+i)*64+j)) 0) 6 2=getN (fun _=>0) 6 2:=getN_congr (fun j hj=>dk2_else 3 _ (by omega) (by decide) (by decide))
 rw [e] at h
 simp [getN] at h
theorem arL_zero (S:Nat->Int) (F:Nat->Nat->Int):arL (secF dk2 S F 0) 2 0=9:=by
 show catL (recLz (arG (secF dk2 S F 0) (2+0))) (arK (secF dk2 S F 0) (2+0))=9
 rw [Nat.add_zero,arK_two,arG_dk]
 exact (whole2 1 (by omega)).2.2.1
theorem arF_zero (S:Nat->Int) (F:Nat->Nat->Int) (j:Nat) (hj:j<9):arF (secF dk2 S F 0) 2 0 j=pay9 j:=by
 show catF (recLz (arG (secF dk2 S F 0) (2+0))) (recFz (arG (secF dk2 S F 0) (2+0))) (arK (secF dk2 S F 0) (2+0)) j=_
 rw [Nat.add_zero,arK_two,arG_dk]
 exact (whole2 1 (by omega)).2.2.2 j hj

theorem ExtM.owns {B B' n:Nat} {w w' : World} {v:Value} {xs:List Value} (h:ExtM B w w') (hn:3<=n) (hr:w.ownsRow B' 5 1 v n xs):w'.ownsRow B' 5 1 v n xs:=by
 rcases hr.2 with ⟨_,h0⟩|⟨g,cap,cur,hv,hg,hh,h1,h2,h3,h4⟩
 ·omega
 ·obtain ⟨fr',h',e⟩:=h.2 _ _ _ _ hh
  rcases e with e|e
  ·subst e;exact ⟨hr.1,Or.inr ⟨g,cap,cur,hv,hg,h',h1,h2,h3,h4⟩⟩
  ·omega
def snPhi (B q:Nat):Nat->Value->World->Prop
 | 0,v,w=>∃g,v=.slice (some ⟨g,0,none⟩) 1 1/\B<=g/\∃fr,w.heap[g]?=some (.cells #[.int .u8 83] 5 fr)
 | 1,v,w=>∃a c,v=.slice a 1 c/\Rd .u8 w a 1 (fun _=>83)
 | 2,v,_=>v=.pointer (some ⟨q,0,none⟩)
 | 3,v,_=>v=.int .i64 1
 | 4,v,w=>∃a c,v=.slice a 4 c/\Rd .u8 w a 4 (byteAt 1)
 | 5,v,_=>v=.pointer (some ⟨q,1,none⟩)
 | 6,v,_=>v=.slice none 0 0
 | 7,v,_=>v=.int .i64 0
 | 8,v,w=>∃a c,v=.slice a 2 c/\Rd .u8 w a 2 (byteAt 0)
 | 9,v,w=>∃g,v=.slice (some ⟨g,0,none⟩) 3 3/\RdS w g 0 3 (three 1 4 2) (three (fun _=>83) (byteAt 1) (byteAt 0))
 | _,v,w=>w.ownsRow B 5 1 v 7 (byteRow pay9 7)
theorem snPhi_st {B q:Nat}:∀i v w w',snPhi B q i v w->ExtM B w w'->snPhi B q i v w':=by
 intro i v w w' h he
 match i,h with
 | 0,⟨g,e,hg,fr,h⟩=>obtain ⟨fr',h',_⟩:=he.2 _ _ _ _ h;exact ⟨g,e,hg,fr',h'⟩
 | 1,⟨a,c,e,h⟩=>exact ⟨a,c,e,he.rd h⟩
 | 2,h=>exact h
 | 3,h=>exact h
 | 4,⟨a,c,e,h⟩=>exact ⟨a,c,e,he.rd h⟩
 | 5,h=>exact h
 | 6,h=>exact h
 | 7,h=>exact h
 | 8,⟨a,c,e,h⟩=>exact ⟨a,c,e,he.rd h⟩
 | 9,⟨g,e,h⟩=>exact ⟨g,e,he.rdS h⟩
 | n+10,h=>exact he.owns (by omega) h
theorem rdMark1 {w:World} {g:Nat} {fr:Nat × Nat} (h:w.heap[g]?=some (.cells #[.int .u8 83] 5 fr)):Rd .u8 w (some ⟨g,0,none⟩) 1 (fun _=>83):=by
 refine Or.inr ⟨_,0,rfl,fun i hi=>?_⟩
 have:i=0:=by omega
 subst this
 simp [World.cell?,h]
theorem convMark1 {B:Nat} (w:World) (g:Nat) (fr:Nat × Nat) (hg:B<=g) (h:w.heap[g]?=some (.cells #[.int .u8 83] 5 fr)) :
  ∃w',(convert 22 22 (.slice (some ⟨g,0,none⟩) 1 1)).run Tryz.prog w=.ok (.slice (some ⟨g,0,none⟩) 1 1) w'/\ExtM B w w':=by
 have hsh:w.shape? g=some (5,1):=by unfold World.shape?;rw [h];rfl
 refine ⟨w.freeze ⟨g,1,none⟩ 1,?_,⟨rfl,rfl,rfl,by simp [World.freeze],fun k hk=>?_⟩,fun k c t f hc=>?_⟩
 ·simp [convert,run_underlying underBytes,run_underlying (show Tryz.prog.underlying 5=some (.int .u8) by kernel_rfl),markStringish,hsh]
 ·unfold World.freeze
  rw [if_neg (by decide)]
  show (w.heap.modify g _)[k]?=_
  rw [Array.getElem?_modify,if_neg (by omega)]
 ·unfold World.freeze
  rw [if_neg (by decide)]
  show ∃fr',(w.heap.modify g _)[k]?=_/\_
  rw [Array.getElem?_modify]
  by_cases e:g=k
  ·subst e
   rw [h] at hc
   injection hc with hc
   injection hc with e1 e2 e3
   subst e1 e2 e3
   rw [if_pos rfl,h]
   exact ⟨_,rfl,Or.inr (by simp)⟩
  ·rw [if_neg e]
   exact ⟨f,hc,Or.inl rfl⟩
theorem catL_sn:∀k,k<=3->catL (three 1 4 2) k<=1048576:=by
 intro k hk
 match k,hk with
 | 0,_=>decide
 | 1,_=>decide
 | 2,_=>decide
 | 3,_=>decide
theorem sn_cat (j:Nat) (hj:j<7):catF (three 1 4 2) (three (fun _=>83) (byteAt 1) (byteAt 0)) 3 j=pay9 j:=by
 match j,hj with
 | 0,_=>rfl
 | 1,_=>rfl
 | 2,_=>rfl
 | 3,_=>rfl
 | 4,_=>rfl
 | 5,_=>rfl
 | 6,_=>rfl
theorem byteRow_congr {f g:Nat->Int} {n:Nat} (h:∀i,i<n->f i=g i):byteRow f n=byteRow g n:=by
 unfold byteRow
 exact List.map_congr_left (fun i hi=>by rw [h i (List.mem_range.1 hi)])

theorem put_all {a0:Act} {vs:Nat->Value}:∀sl:List Nat,(∀s,s∈sl->s<a0.tmps.size)->(sl.foldr (fun s b=>b.put (some s) (vs s)) a0).tmps.size=a0.tmps.size/\(sl.foldr (fun s b=>b.put (some s) (vs s)) a0).defers=a0.defers/\∀t,(sl.foldr (fun s b=>b.put (some s) (vs s)) a0).tmps.getD t undef=if t∈sl then vs t else a0.tmps.getD t undef
 | [],_=>⟨rfl,rfl,fun t=>by simp⟩
 | s::l,h=>by
  obtain ⟨h1,h2,h3⟩:=put_all (a0:=a0) (vs:=vs) l (fun s hs=>h s (List.mem_cons_of_mem _ hs))
  have hs:=h s (List.mem_cons_self ..)
  refine ⟨?_,h2,fun t=>?_⟩
  ·rw [<- h1];simp [Act.put]
  ·rw [List.foldr_cons]
   by_cases e:s=t
   ·subst e
    rw [put_getD_same (by rw [h1];exact hs),if_pos (List.mem_cons_self ..)]
   ·rw [put_getD_other e,h3 t]
    have:(t∈s::l)=(t∈l):=by simp [Ne.symm e]
    simp only [this]
theorem Plain.eq {ops:Array Oper} {a0 a:Act} (h:Plain ops a0 a) (sl:List Nat) (hs:∀(i:Nat) (o:Oper),ops[i]?=some o->∀s,o.dst=some s->s∈sl) (hb:∀s,s∈sl->s<a0.tmps.size) (vs:Nat->Value) (hv:∀s,vs s=a.tmps.getD s undef):a=sl.foldr (fun s b=>b.put (some s) (vs s)) a0:=by
 obtain ⟨h1,h2,h3⟩:=put_all (a0:=a0) (vs:=vs) sl hb
 have hg:∀t,a.tmps.getD t undef=(sl.foldr (fun s b=>b.put (some s) (vs s)) a0).tmps.getD t undef:=fun t=>by
  rw [h3 t]
  split
  ·exact (hv t).symm
  ·rename_i hn
   exact h.other t (fun i o ho hd=>hn (hs i o ho t hd))
 obtain ⟨b,hb'⟩:∃b,b=sl.foldr (fun s b=>b.put (some s) (vs s)) a0:=⟨_,rfl⟩
 rw [<- hb'] at h1 h2 hg ⊢
 have e1:a.tmps=b.tmps:=by
  apply Array.ext
  ·rw [h.size,h1]
  ·intro i hi hi'
   have:=hg i
   simpa [hi,hi'] using this
 have e2:a.defers=b.defers:=h.defers.trans h2.symm
 cases a
 cases b
 simp only at e1 e2
 rw [e1,e2]

set_option maxHeartbeats 4000000 in
theorem l7Snap_e (g c B0:Nat) (G C:Nat->Nat) (Aa:Nat->Option Addr) (w:World) (h:IxOk w B0 g G C Aa) :
  Calls Tryz.prog 11 #[.agg #[.int .i64 1,.slice none 0 0],.agg #[.slice (some ⟨g,0,none⟩) 6 c]] w fun e w'=>RetOwn w e w' 9 pay9:=by
 have HR:Hid (IxOk w B0 g G C Aa):=h
 clear h
 obtain ⟨W0,hW⟩:∃W,W=(w.alloc (.cells #[.int .i64 1,.slice none 0 0] 30)).alloc (.cells #[.slice (some ⟨g,0,none⟩) 6 c] 33):=⟨_,rfl⟩
 have HC:Hid (Bx W0 w.heap.size 30 #[.int .i64 1,.slice none 0 0]/\Bx W0 (w.heap.size+1) 33 #[.slice (some ⟨g,0,none⟩) 6 c]/\Below w.heap.size w W0/\w.heap.size+2=W0.heap.size):=by
  rw [hW]
  have b1:=Bx.new (w.alloc (.cells #[.int .i64 1,.slice none 0 0] 30)) #[.slice (some ⟨g,0,none⟩) 6 c] 33
  simp only [World.size_alloc] at b1
  exact ⟨(Bx.new _ _ _).alloc _,b1,(below_alloc _ _).alloc (by simp) _,by simp⟩
 have HW:Hid (W0=(w.alloc (.cells #[.int .i64 1,.slice none 0 0] 30)).alloc (.cells #[.slice (some ⟨g,0,none⟩) 6 c] 33)):=hW
 clear hW
 go_enter Tryz.func11,Tryz.ntmps11
 go_wp2
 rw [<- HW.out]
 refine wp_region_makers (by kernel_rfl) (ExtM W0.heap.size) (snPhi W0.heap.size w.heap.size) (fun _ _ _ h k=>h.trans k) (ExtM.refl _ _) snPhi_st (by kernel_rfl) ?_ ?_
 ·intro i o ho a w1 hp he hdep K' hK
  have hB:W0.heap.size<=w1.heap.size:=he.1.size
  have ht1' : a.tmps.getD 2 undef=.pointer (some ⟨w.heap.size,0,none⟩):=hp.other 2 (fun j p hj=>by
   have hjl:j<12:=(Array.getElem?_eq_some_iff.1 hj).1
   match j,hj,hjl with
   | 0,hj,_=>have:=Option.some.inj hj;subst this;simp
   | 1,hj,_=>have:=Option.some.inj hj;subst this;simp
   | 2,hj,_=>have:=Option.some.inj hj;subst this;simp
   | 3,hj,_=>have:=Option.some.inj hj;subst this;simp
   | 4,hj,_=>have:=Option.some.inj hj;subst this;simp
   | 5,hj,_=>have:=Option.some.inj hj;subst this;simp
   | 6,hj,_=>have:=Option.some.inj hj;subst this;simp
   | 7,hj,_=>have:=Option.some.inj hj;subst this;simp
   | 8,hj,_=>have:=Option.some.inj hj;subst this;simp
   | 9,hj,_=>have:=Option.some.inj hj;subst this;simp
   | 10,hj,_=>have:=Option.some.inj hj;subst this;simp
   | 11,hj,_=>have:=Option.some.inj hj;subst this;simp
   )
  have ht1:a.tmps[2]?.getD undef=.pointer (some ⟨w.heap.size,0,none⟩):=by simpa using ht1'
  have hil:i<12:=(Array.getElem?_eq_some_iff.1 ho).1
  match i,ho,hil,hK with
  | 0,ho,_,hK=>
   have ho':=Option.some.inj ho
   subst ho'
   refine mk_value' rfl (v:=.slice (some ⟨w1.heap.size,0,none⟩) 1 1) (w':=w1.alloc (.cells #[.int .u8 83] 5)) (by simp [execOp,go_sem]) (hK _ _ (ExtM.ofBelow hB (below_alloc _ _)) ⟨_,rfl,hB,_,blk_alloc_new _ _⟩)
  | 1,ho,_,hK=>
   have ho':=Option.some.inj ho
   subst ho'
   have dd:snPhi W0.heap.size w.heap.size 0 (a.tmps.getD 11 undef) w1:=hdep ⟨0,.data⟩ (by simp) rfl
   obtain ⟨g,e3,hg,fr,hh⟩:=dd
   have d3:a.tmps[11]?.getD undef=.slice (some ⟨g,0,none⟩) 1 1:=by simpa using e3
   obtain ⟨w2,hrun,hx2⟩:=convMark1 (B:=W0.heap.size) w1 g fr hg hh
   refine mk_value' rfl (v:=.slice (some ⟨g,0,none⟩) 1 1) (w':=w2) (by simp [execOp,Act.eval,d3,hrun,Result.andThen]) (hK _ _ hx2 ⟨_,_,rfl,hx2.rd (rdMark1 hh)⟩)
  | 2,ho,_,hK=>
   have ho':=Option.some.inj ho
   subst ho'
   refine mk_value rfl (v:=.pointer (some ⟨w.heap.size,0,none⟩)) (by simp [execOp,ht1,go_sem]) (hK _ _ (ExtM.refl _ _) rfl)
  | 3,ho,_,hK=>
   have ho':=Option.some.inj ho
   subst ho'
   have d0' : a.tmps.getD 13 undef=.pointer (some ⟨w.heap.size,0,none⟩):=hdep ⟨2,.data⟩ (by simp) rfl
   have d0:a.tmps[13]?.getD undef=.pointer (some ⟨w.heap.size,0,none⟩):=by simpa using d0'
   have hc:w1.cell? ⟨w.heap.size,0,none⟩=some (.int .i64 1):=he.cell (HC.out.1.cell 0)
   refine mk_value rfl (v:=.int .i64 1) (by simp [execOp,d0,hc,go_sem]) (hK _ _ (ExtM.refl _ _) rfl)
  | 4,ho,_,hK=>
   have ho':=Option.some.inj ho
   subst ho'
   have d1' : a.tmps.getD 14 undef=.int .i64 1:=hdep ⟨3,.data⟩ (by simp) rfl
   have d1:a.tmps[14]?.getD undef=.int .i64 1:=by simpa using d1'
   rw [if_pos (by simp [Region.wanted])]
   unfold Oper.wp
   simp [execOp,resolve,invoke,d1,go_sem]
   refine (l2Put_any 1 4 w1 (by omega) (by omega) (by omega)).mono ?_
   rintro e w2 ⟨b,c,rfl,ho2,hb2,-,-⟩
   exact hK _ _ (ExtM.ofBelow hB hb2) ⟨b,c,rfl,ho2.rd⟩
  | 5,ho,_,hK=>
   have ho':=Option.some.inj ho
   subst ho'
   refine mk_value rfl (v:=.pointer (some ⟨w.heap.size,1,none⟩)) (by simp [execOp,ht1,go_sem]) (hK _ _ (ExtM.refl _ _) rfl)
  | 6,ho,_,hK=>
   have ho':=Option.some.inj ho
   subst ho'
   have d0' : a.tmps.getD 16 undef=.pointer (some ⟨w.heap.size,1,none⟩):=hdep ⟨5,.data⟩ (by simp) rfl
   have d0:a.tmps[16]?.getD undef=.pointer (some ⟨w.heap.size,1,none⟩):=by simpa using d0'
   have hc:w1.cell? ⟨w.heap.size,1,none⟩=some (.slice none 0 0):=he.cell (HC.out.1.cell 1)
   refine mk_value rfl (v:=.slice none 0 0) (by simp [execOp,d0,hc,go_sem]) (hK _ _ (ExtM.refl _ _) rfl)
  | 7,ho,_,hK=>
   have ho':=Option.some.inj ho
   subst ho'
   have d0' : a.tmps.getD 17 undef=.slice none 0 0:=hdep ⟨6,.data⟩ (by simp) rfl
   have d0:a.tmps[17]?.getD undef=.slice none 0 0:=by simpa using d0'
   refine mk_value rfl (v:=.int .i64 0) (by simp [execOp,resolve,invoke,builtin,d0,go_sem]) (hK _ _ (ExtM.refl _ _) rfl)
  | 8,ho,_,hK=>
   have ho':=Option.some.inj ho
   subst ho'
   have d1' : a.tmps.getD 18 undef=.int .i64 0:=hdep ⟨7,.data⟩ (by simp) rfl
   have d1:a.tmps[18]?.getD undef=.int .i64 0:=by simpa using d1'
   rw [if_pos (by simp [Region.wanted])]
   unfold Oper.wp
   simp [execOp,resolve,invoke,d1,go_sem]
   refine (l2Put_any 0 2 w1 (by omega) (by omega) (by omega)).mono ?_
   rintro e w2 ⟨b,c,rfl,ho2,hb2,-,-⟩
   exact hK _ _ (ExtM.ofBelow hB hb2) ⟨b,c,rfl,ho2.rd⟩
  | 9,ho,_,hK=>
   have ho':=Option.some.inj ho
   subst ho'
   have dd:snPhi W0.heap.size w.heap.size 1 (a.tmps.getD 12 undef) w1:=hdep ⟨1,.data⟩ (by simp) rfl
   obtain ⟨b0,c0,e0,r0⟩:=dd
   have dd:snPhi W0.heap.size w.heap.size 4 (a.tmps.getD 15 undef) w1:=hdep ⟨4,.data⟩ (by simp) rfl
   obtain ⟨b1,c1,e1,r1⟩:=dd
   have dd:snPhi W0.heap.size w.heap.size 8 (a.tmps.getD 19 undef) w1:=hdep ⟨8,.data⟩ (by simp) rfl
   obtain ⟨b2,c2,e2,r2⟩:=dd
   have d0:a.tmps[12]?.getD undef=.slice b0 1 c0:=by simpa using e0
   have d1:a.tmps[15]?.getD undef=.slice b1 4 c1:=by simpa using e1
   have d2:a.tmps[19]?.getD undef=.slice b2 2 c2:=by simpa using e2
   refine mk_value' rfl (v:=.slice (some ⟨w1.heap.size,0,none⟩) 3 3) (w':=w1.alloc (.cells #[.slice b0 1 c0,.slice b1 4 c1,.slice b2 2 c2] 22)) (by simp [execOp,d0,d1,d2,go_sem]) (hK _ _ (ExtM.ofBelow hB (below_alloc _ _)) ⟨_,rfl,rdS_three r0 r1 r2⟩)
  | 10,ho,_,hK=>
   have ho':=Option.some.inj ho
   subst ho'
   have dd:snPhi W0.heap.size w.heap.size 9 (a.tmps.getD 20 undef) w1:=hdep ⟨9,.data⟩ (by simp) rfl
   obtain ⟨g,e,rs⟩:=dd
   have d:a.tmps[20]?.getD undef=.slice (some ⟨g,0,none⟩) 3 3:=by simpa using e
   rw [if_pos (by simp [Region.wanted])]
   unfold Oper.wp
   simp [execOp,resolve,invoke,d,go_sem]
   refine (l2Cat_row g 0 3 3 _ _ w1 rs (by omega) catL_sn (fun k hk=>by unfold three;(repeat' split) <;> omega)).mono ?_
   rintro e w2 ⟨v2,rfl,ho2,hb2⟩
   refine hK _ _ (ExtM.ofBelow hB hb2) ?_
   have q:w2.ownsRow w1.heap.size 5 1 v2 7 (byteRow pay9 7):=by
    rw [<- byteRow_congr (fun i hi=>sn_cat i hi)]
    exact ho2
   show w2.ownsRow W0.heap.size 5 1 v2 7 (byteRow pay9 7)
   refine ⟨q.1,?_⟩
   rcases q.2 with q|⟨g,cap,cur,q1,q2,q3⟩
   ·exact Or.inl q
   ·exact Or.inr ⟨g,cap,cur,q1,by omega,q3⟩
  | 11,ho,_,hK=>
   have ho':=Option.some.inj ho
   subst ho'
   have dd:snPhi W0.heap.size w.heap.size 10 (a.tmps.getD 21 undef) w1:=hdep ⟨10,.data⟩ (by simp) rfl
   obtain ⟨v,hv⟩:∃v,v=a.tmps.getD 21 undef:=⟨_,rfl⟩
   rw [<- hv] at dd
   have d:a.tmps[21]?.getD undef=v:=by simpa using hv.symm
   refine mk_value rfl (v:=v) (by simp [execOp,d,go_sem]) (hK _ _ (ExtM.refl _ _) dd)
 ·intro a w1 hp he hall
  have dd:snPhi W0.heap.size w.heap.size 11 (a.tmps.getD 5 undef) w1:=hall 11 (by decide)
  obtain ⟨vs,hvs⟩:∃vs:Nat->Value,∀s,vs s=a.tmps.getD s undef:=⟨_,fun _=>rfl⟩
  have ea:=hp.eq [11,12,13,14,15,16,17,18,19,20,21,5] (by
   intro i o ho s hd
   have hil:i<12:=(Array.getElem?_eq_some_iff.1 ho).1
   match i,ho,hil with
   | 0,ho,_=>have:=Option.some.inj ho;subst this;simp at hd;simp [<- hd]
   | 1,ho,_=>have:=Option.some.inj ho;subst this;simp at hd;simp [<- hd]
   | 2,ho,_=>have:=Option.some.inj ho;subst this;simp at hd;simp [<- hd]
   | 3,ho,_=>have:=Option.some.inj ho;subst this;simp at hd;simp [<- hd]
   | 4,ho,_=>have:=Option.some.inj ho;subst this;simp at hd;simp [<- hd]
   | 5,ho,_=>have:=Option.some.inj ho;subst this;simp at hd;simp [<- hd]
   | 6,ho,_=>have:=Option.some.inj ho;subst this;simp at hd;simp [<- hd]
   | 7,ho,_=>have:=Option.some.inj ho;subst this;simp at hd;simp [<- hd]
   | 8,ho,_=>have:=Option.some.inj ho;subst this;simp at hd;simp [<- hd]
   | 9,ho,_=>have:=Option.some.inj ho;subst this;simp at hd;simp [<- hd]
   | 10,ho,_=>have:=Option.some.inj ho;subst this;simp at hd;simp [<- hd]
   | 11,ho,_=>have:=Option.some.inj ho;subst this;simp at hd;simp [<- hd]
   ) (fun s hs=>by simp at hs ⊢;omega) vs hvs
  rw [<- hvs 5] at dd
  have S1:Hid (w1.ownsRow W0.heap.size 5 1 (vs 5) 7 (byteRow pay9 7)/\Below w.heap.size w w1/\W0.heap.size<=w1.heap.size/\w.heap.size+2=W0.heap.size):=⟨dd,HC.out.2.2.1.drew.trans (he.1.mono (by have:=HC.out.2.2.2;omega)),he.1.size,HC.out.2.2.2⟩
  have k1:w1.cell? ⟨w.heap.size,1,none⟩=some (.slice none 0 0):=he.cell (HC.out.1.cell 1)
  have k2:w1.cell? ⟨w.heap.size+1,0,none⟩=some (.slice (some ⟨g,0,none⟩) 6 c):=he.cell (HC.out.2.1.cell 0)
  have k3:w1.cell? ⟨g,0,none⟩=some (.slice (some ⟨G 0,0,none⟩) 1 (C 0)):=rowIn.cell (rowIn.below HR.out.row S1.out.2.1) (by omega)
  rw [ea]
  clear ea hvs dd hall he hp
  simp only [List.foldr_cons,List.foldr_nil,Act.put,List.setIfInBounds_toArray,List.set_cons_zero,List.set_cons_succ]
  generalize vs 5=v5 at S1 ⊢
  go_wp2
  refine wp_loop_rounds 1 ?_
  rw [rounds_succ]
  go_wp2_with fail
  refine (l5Quads_e (G 0) (C 0) (Aa 0) w1 (rowIn.below (HR.out.each 0 (by omega)).2 S1.out.2.1)).mono ?_
  rintro e w2 ⟨⟨a2,rfl⟩,hb2⟩
  have S2:Hid (w2.ownsRow W0.heap.size 5 1 v5 7 (byteRow pay9 7)/\Below w.heap.size w w2/\W0.heap.size<=w2.heap.size/\w.heap.size+2=W0.heap.size):=⟨own_below S1.out.1 hb2,S1.out.2.1.trans (hb2.mono S1.out.2.1.size),Nat.le_trans S1.out.2.2.1 hb2.size,S1.out.2.2.2⟩
  clear hb2 S1 k1 k2 k3
  go_wp2_with fail
  refine (l2Put_any 0 2 w2 (by omega) (by omega) (by omega)).mono ?_
  rintro e w3 ⟨b3,c3,rfl,ho3,hb3,-,-⟩
  have S3:Hid (w3.ownsRow W0.heap.size 5 1 v5 7 (byteRow pay9 7)/\Below w.heap.size w w3/\W0.heap.size<=w3.heap.size/\w.heap.size+2=W0.heap.size/\Rd .u8 w3 b3 2 (byteAt 0)):=⟨own_below S2.out.1 hb3,S2.out.2.1.trans (hb3.mono S2.out.2.1.size),Nat.le_trans S2.out.2.2.1 hb3.size,S2.out.2.2.2,ho3.rd⟩
  clear hb3 S2 ho3
  go_wp2_with (at_builtin;refine wpList_append_rd rfl _ _ rfl W0.heap.size _ 7 (byteRow pay9 7) rfl S3.out.1 b3 2 c3 (byteAt 0) rfl S3.out.2.2.2.2 (by omega) S3.out.2.2.1 ?_)
  intro v4 w4 hown4 hgrow4
  have S4:Hid (w4.ownsRow W0.heap.size 5 1 v4 9 (byteRow pay9 9)/\Below w.heap.size w w4/\w.heap.size+2=W0.heap.size):=⟨hown4,S3.out.2.1.grown hgrow4 (Nat.le_trans (by have:=S3.out.2.2.2.1;omega) S3.out.2.2.1) (fun b e=>by have:=(S3.out.1.lt b e).1;have:=S3.out.2.2.2.1;omega),S3.out.2.2.2.1⟩
  clear hown4 hgrow4 S3
  obtain ⟨a5,c5,hvv,q1,q2,q3⟩:=ownB_ofRow S4.out.1
  subst hvv
  have S5:Hid (OwnB w4 W0.heap.size a5 9 pay9/\9<=c5/\c5<=9223372036854775807):=⟨q1,q2,q3⟩
  clear q1 q2 q3
  go_wp2
  refine wp_loop_rounds 1 ?_
  rw [rounds_succ]
  go_wp2
  go_ret
  exact ⟨a5,c5,rfl,S5.out.1.mono (by have:=S4.out.2.2;omega),S4.out.2.1,S5.out.2⟩
end Go.Proofs.YtbmffmifemebmaaGreatDoor
namespace Go.Proofs.YtbmffmifemebmaaGreatDoor
open Go.RowKit Go.Deep Go.MapKept Go.ChangeMaps

set_option maxHeartbeats 2000000 in
theorem appendNumber_any (B n k:Nat) (u:Value) (v:Int) (g:Nat->Int) (w:World) (h:w.ownsRow B 5 1 u n (byteRow g n)) (hB:B<=w.heap.size) (hn:n<=1000) (hk:k<=4) (hg:∀i,i<k->g (n+i)=byteAt v i) :
  Calls Tryz.prog 58 #[u,.int .i64 k,.int .i64 v] w fun e w'=>∃u',e=.returned u'/\w'.ownsRow B 5 1 u' (n+k) (byteRow g (n+k))/\Below B w w':=by
 obtain ⟨i0,hi,hz0,hz1,hz2⟩:=info_parts Tryz.info5
 have HI:Hid (Tryz.prog.info? 5=some i0/\i0.zero=some (.int .u8 0)/\i0.size=1/\i0.bytes=1):=⟨hi,hz0,hz1,hz2⟩
 have HG:Hid (∀i,i<k->g (n+i)=byteAt v i):=hg
 have HW:Hid (w.ownsRow B 5 1 u n (byteRow g n)):=h
 clear hi hz0 hz1 hz2 hg h
 go_enter Tryz.func58,Tryz.ntmps58
 go_wp2
 go_loopw [0,7,9] (fun x _ i wr=>∃j:Nat,j<=k/\i=.int .i64 j/\wr.ownsRow B 5 1 x (n+j) (byteRow g (n+j))/\Below B w wr) (fun _ _ i _=>k-(intOf i).toNat)
 case atStart=>exact ⟨0,Nat.zero_le _,rfl,HW.out,Below.refl _ _⟩
 case round=>
  obtain ⟨j,hj,rfl,hown,hbel⟩:=hrel
  have hsz:B<=wr.heap.size:=Nat.le_trans hB hbel.size
  have HB:Hid (Below B w wr):=hbel
  have HO:Hid (wr.ownsRow B 5 1 u0 (n+j) (byteRow g (n+j))):=hown
  clear hbel hown
  by_cases hlt:j<k
  ·have HV:Hid (v / 2 ^ (8*j) % 256=g (n+j)):=by
    show _=_
    rw [HG.out j hlt,pow256];rfl
   go_wp2_with (at_builtin;refine wpList_append_own _ rfl _ _ 22 rfl B 5 i0 (.int .u8 0) 1 1 Tryz.underlying22 HI.out.1 HI.out.2.1 HI.out.2.2.1 HI.out.2.2.2 rfl (by decide) _ (n+j) (byteRow g (n+j)) rfl (HO.out.alloc _) ⟨wr.heap.size,0,none⟩ 1 1 [.int .u8 (v / 2 ^ (8*j) % 256)] rfl rfl ?c1 ?c2 ?c3 ?c4 ?c5 ?_)
   case c1=>exact cell_one_new _ _ _
   case c2=>intro u hu;simp at hu;subst hu;rfl
   case c3=>unfold maxLen;omega
   case c4=>omega
   case c5=>simp;omega
   ·intro v' w1 hown' hgrow _
    have HX:Hid (w1.ownsRow B 5 1 v' (n+(j+1)) (byteRow g (n+(j+1)))/\Below B w w1):=
     ⟨by rw [<- Nat.add_assoc,<- byteRow_succ,<- HV.out];exact hown',(HB.out.alloc hsz _).grown hgrow (by simp;omega) (fun b e=>(HO.out.lt b e).1)⟩
    clear hown' hgrow HO HB
    go_wp2
    go_roundw
    case rel=>exact ⟨j+1,by omega,by go_num,HX.out⟩
    case measure=>simp [intOf];omega
  ·have e:j=k:=by omega
   subst e
   go_wp2
   go_ret
   exact ⟨u0,rfl,HO.out,HB.out⟩

set_option maxHeartbeats 2000000 in
theorem snapshot_e (g c B0:Nat) (G C:Nat->Nat) (Aa:Nat->Option Addr) (w:World) (h:IxOk w B0 g G C Aa) :
  Calls Tryz.prog 21 #[.agg #[.slice none 0 0,.slice none 0 0,.int .i64 0,.bool false,.int .i64 0,.int .i64 0,.int .i64 0,.int .i64 0,.int .i64 0,.int .i64 1,.slice none 0 0,.slice (some ⟨g,0,none⟩) 6 c]] w fun e w'=>RetOwn w e w' 9 pay9:=by
 have HR:Hid (IxOk w B0 g G C Aa):=h
 clear h
 go_enter Tryz.func21,Tryz.ntmps21
 go_upto_region 2 with fail
 have S2:Hid (Bx ((w.alloc (.cells #[.slice none 0 0,.slice none 0 0,.int .i64 0,.bool false,.int .i64 0,.int .i64 0,.int .i64 0,.int .i64 0,.int .i64 0,.int .i64 1,.slice none 0 0,.slice (some ⟨g,0,none⟩) 6 c] 35)).alloc (.cells #[.int .u8 83] 5)) w.heap.size 35 #[.slice none 0 0,.slice none 0 0,.int .i64 0,.bool false,.int .i64 0,.int .i64 0,.int .i64 0,.int .i64 0,.int .i64 0,.int .i64 1,.slice none 0 0,.slice (some ⟨g,0,none⟩) 6 c]/\((w.alloc (.cells #[.slice none 0 0,.slice none 0 0,.int .i64 0,.bool false,.int .i64 0,.int .i64 0,.int .i64 0,.int .i64 0,.int .i64 0,.int .i64 1,.slice none 0 0,.slice (some ⟨g,0,none⟩) 6 c] 35)).alloc (.cells #[.int .u8 83] 5)).ownsRow (w.heap.size+1) 5 1 (.slice (some ⟨w.heap.size+1,0,none⟩) 1 1) 1 (byteRow pay9 1)/\Below w.heap.size w ((w.alloc (.cells #[.slice none 0 0,.slice none 0 0,.int .i64 0,.bool false,.int .i64 0,.int .i64 0,.int .i64 0,.int .i64 0,.int .i64 0,.int .i64 1,.slice none 0 0,.slice (some ⟨g,0,none⟩) 6 c] 35)).alloc (.cells #[.int .u8 83] 5))/\w.heap.size+1<((w.alloc (.cells #[.slice none 0 0,.slice none 0 0,.int .i64 0,.bool false,.int .i64 0,.int .i64 0,.int .i64 0,.int .i64 0,.int .i64 0,.int .i64 1,.slice none 0 0,.slice (some ⟨g,0,none⟩) 6 c] 35)).alloc (.cells #[.int .u8 83] 5)).heap.size):=by
  refine ⟨(Bx.new _ _ _).alloc _,?_,(below_alloc _ _).alloc (by simp) _,by simp⟩
  have q:=World.ownsRow_lit (base:=w.heap.size+1) (e:=5) (size:=1) (w.alloc (.cells #[.slice none 0 0,.slice none 0 0,.int .i64 0,.bool false,.int .i64 0,.int .i64 0,.int .i64 0,.int .i64 0,.int .i64 0,.int .i64 1,.slice none 0 0,.slice (some ⟨g,0,none⟩) 6 c] 35)) #[.int .u8 83] 1 (by simp) (by unfold maxLen;omega) rfl
  simp only [World.size_alloc] at q
  exact q
 generalize ((w.alloc (.cells #[.slice none 0 0,.slice none 0 0,.int .i64 0,.bool false,.int .i64 0,.int .i64 0,.int .i64 0,.int .i64 0,.int .i64 0,.int .i64 1,.slice none 0 0,.slice (some ⟨g,0,none⟩) 6 c] 35)).alloc (.cells #[.int .u8 83] 5))=W2 at S2 ⊢
 have a9:=S2.out.1.cell 9
 simp at a9
 go_wp2_with fail
 refine (appendNumber_any (w.heap.size+1) 1 4 _ 1 pay9 W2 S2.out.2.1 (by have:=S2.out.2.2.2;omega) (by omega) (by omega) (fun i hi=>?_)).mono ?_
 ·rcases (show i=0\/i=1\/i=2\/i=3 by omega) with rfl|rfl|rfl|rfl <;> rfl
 rintro e w3 ⟨u3,rfl,ho3,hb3⟩
 have S3:Hid (Bx w3 w.heap.size 35 #[.slice none 0 0,.slice none 0 0,.int .i64 0,.bool false,.int .i64 0,.int .i64 0,.int .i64 0,.int .i64 0,.int .i64 0,.int .i64 1,.slice none 0 0,.slice (some ⟨g,0,none⟩) 6 c]/\w3.ownsRow (w.heap.size+1) 5 1 u3 5 (byteRow pay9 5)/\Below w.heap.size w w3/\w.heap.size+1<w3.heap.size):=
  ⟨S2.out.1.below' hb3 (by omega),ho3,S2.out.2.2.1.trans (hb3.mono (by omega)),Nat.lt_of_lt_of_le S2.out.2.2.2 hb3.size⟩
 clear ho3 hb3 S2 a9
 have a10:=S3.out.1.cell 10
 simp at a10
 go_wp2_with fail
 refine (appendNumber_any (w.heap.size+1) 5 2 _ 0 pay9 w3 S3.out.2.1 (by have:=S3.out.2.2.2;omega) (by omega) (by omega) (fun i hi=>?_)).mono ?_
 ·rcases (show i=0\/i=1 by omega) with rfl|rfl <;> rfl
 rintro e w4 ⟨u4,rfl,ho4,hb4⟩
 have S4:Hid (Bx w4 w.heap.size 35 #[.slice none 0 0,.slice none 0 0,.int .i64 0,.bool false,.int .i64 0,.int .i64 0,.int .i64 0,.int .i64 0,.int .i64 0,.int .i64 1,.slice none 0 0,.slice (some ⟨g,0,none⟩) 6 c]/\w4.ownsRow (w.heap.size+1) 5 1 u4 7 (byteRow pay9 7)/\Below w.heap.size w w4/\w.heap.size+1<w4.heap.size):=
  ⟨S3.out.1.below' hb4 (by omega),ho4,S3.out.2.2.1.trans (hb4.mono (by omega)),Nat.lt_of_lt_of_le S3.out.2.2.2 hb4.size⟩
 clear ho4 hb4 S3 a10
 have a10:=S4.out.1.cell 10
 have a11:=S4.out.1.cell 11
 simp at a10 a11
 go_wp2
 refine wp_loop_rounds 1 ?_
 rw [rounds_succ]
 go_wp2_with fail
 refine (scanQuads_e g c B0 G C Aa w4 (HR.out.keep S4.out.2.2.1)).mono ?_
 rintro e w5 ⟨rfl,hb5⟩
 have S5:Hid (w5.ownsRow (w.heap.size+1) 5 1 u4 7 (byteRow pay9 7)/\Below w.heap.size w w5/\w.heap.size+1<w5.heap.size):=
  ⟨own_below S4.out.2.1 hb5,S4.out.2.2.1.trans (hb5.mono (by have:=S4.out.2.2.2;omega)),Nat.lt_of_lt_of_le S4.out.2.2.2 hb5.size⟩
 clear hb5 S4 a10 a11
 go_wp2_with fail
 refine (appendNumber_any (w.heap.size+1) 7 2 _ 0 pay9 w5 S5.out.1 (by have:=S5.out.2.2;omega) (by omega) (by omega) (fun i hi=>?_)).mono ?_
 ·rcases (show i=0\/i=1 by omega) with rfl|rfl <;> rfl
 rintro e w6 ⟨u6,rfl,ho6,hb6⟩
 obtain ⟨a,cc,hvv,h1,h2,h3⟩:=ownB_ofRow ho6
 subst hvv
 have S6:Hid (OwnB w6 (w.heap.size+1) a 9 pay9/\Below w.heap.size w w6/\9<=cc/\cc<=9223372036854775807):=⟨h1,S5.out.2.1.trans (hb6.mono (by omega)),h2,h3⟩
 clear ho6 hb6 S5 h1 h2 h3
 go_wp2
 refine wp_loop_rounds 1 ?_
 rw [rounds_succ]
 go_wp2
 go_ret
 exact ⟨a,cc,rfl,S6.out.1.mono (by omega),S6.out.2⟩
end Go.Proofs.YtbmffmifemebmaaGreatDoor
namespace Go.Proofs.YtbmffmifemebmaaGreatDoor
open Go.RowKit Go.Deep Go.MapKept Go.ChangeMaps

theorem cutTo (g o m c k:Nat) (hk:k<=m) (h0:0<k) (hm:m<=c) (w:World):(Instr.sliceAt 22 (.slice (some ⟨g,o,none⟩) m c) none (some (.int .i64 (k:Int))) none).run Tryz.prog w=.ok (.slice (some ⟨g,o,none⟩) k c) w:=by
 have hkc:k<=c:=by omega
 simp [Instr.sliceAt,Instr.slice,go_sem,hkc,Addr.add]
theorem cutFrom (g o m c k:Nat) (hk:k<=m) (hm:m<=c) (hc:c<=9223372036854775807):∃a',(∀w:World,(Instr.sliceAt 22 (.slice (some ⟨g,o,none⟩) m c) (some (.int .i64 (k:Int))) none none).run Tryz.prog w=.ok (.slice a' (m-k) (c-k)) w)/\(k<c->a'=some ⟨g,o+k,none⟩):=by
 have hkc:k<=c:=by omega
 by_cases e:c=k
 ·refine ⟨some ⟨g,o,none⟩,fun w=>?_,fun h=>absurd h (by omega)⟩
  subst e
  simp [Instr.sliceAt,Instr.slice,go_sem,hk,hm]
 ·refine ⟨some ⟨g,o+k,none⟩,fun w=>?_,fun _=>rfl⟩
  simp [Instr.sliceAt,Instr.slice,go_sem,hk,e,Addr.add]

structure PR (w:World) (rb g o m c:Nat):Prop where
 bx:Bx w rb 256 #[.slice (some ⟨g,o,none⟩) m c,.bool false]
 le:m<=c/\c<=9223372036854775807
 lt:g<rb
 rd:∀j,j<m->w.cell? ⟨g,o+j,none⟩=some (.int .u8 (pay9 (o+j)))
theorem PR.below {w w' : World} {rb g o m c:Nat} (h:PR w rb g o m c) (hb:Below w.heap.size w w'):PR w' rb g o m c:=
 ⟨h.bx.below hb,h.le,h.lt,fun j hj=>(hb.cell (p:=⟨g,o+j,none⟩) (Nat.lt_trans h.lt h.bx.lt)).trans (h.rd j hj)⟩

def Took (w:World) (rb g o m c k:Nat) (w' : World):Prop:=(∃a',w'=w.setCell ⟨rb,0,none⟩ (.slice a' (m-k) (c-k))/\Bx w' rb 256 #[.slice a' (m-k) (c-k),.bool false])/\(k<m->PR w' rb g (o+k) (m-k) (c-k))/\Below rb w w'/\w'.heap.size=w.heap.size

set_option maxHeartbeats 1000000 in
theorem take_e (rb g o m c k:Nat) (x:Int) (w:World) (h:PR w rb g o m c) (hx:x=(k:Int)) (hk:k<=m) (h0:0<k) :
  Calls Tryz.prog 207 #[.pointer (some ⟨rb,0,none⟩),.int .i64 x] w fun e w'=>e=.returned (.slice (some ⟨g,o,none⟩) k c)/\Took w rb g o m c k w':=by
 obtain ⟨a',f1,f2⟩:=cutFrom g o m c k hk h.le.1 h.le.2
 have t1:=cutTo g o m c k hk h0 h.le.1
 have c0:=h.bx.cell 0
 have fz:=h.bx.frozen 0
 have hl:=h.bx.lt
 simp at c0
 have hkm:¬ (m:Int)<x:=by omega
 rw [<- hx] at f1 t1
 have HT:Hid (Took w rb g o m c k (w.setCell ⟨rb,0,none⟩ (.slice a' (m-k) (c-k)))):=by
  refine ⟨⟨a',rfl,h.bx.set 0 _⟩,fun hlt=>⟨?_,by have:=h.le;omega,h.lt,fun j hj=>?_⟩,(Below.refl _ _).setCell (by simp) _,by simp [World.setCell]⟩
  ·rw [<- f2 (by have:=h.le;omega)];exact h.bx.set 0 _
  ·have:=h.lt
   rw [World.cell?_of_block (Below.heap_setCell w ⟨rb,0,none⟩ _ g (by simp;omega))]
   have:=h.rd (k+j) (by omega)
   rw [<- Nat.add_assoc] at this
   exact this
 clear h hx f2
 go_enter Tryz.func207,Tryz.ntmps207
 go_wp2
 go_ret
 exact ⟨rfl,HT.out⟩

set_option maxHeartbeats 1000000 in
theorem number_e (rb g o m c k:Nat) (x:Int) (w:World) (h:PR w rb g o m c) (hx:x=(k:Int)) (hk:k<=m) (h0:0<k) (h4:k<=4) :
  Calls Tryz.prog 163 #[.pointer (some ⟨rb,0,none⟩),.int .i64 x] w fun e w'=>e=.returned (.int .i64 (getN pay9 o k))/\Took w rb g o m c k w':=by
 have HP:Hid (PR w rb g o m c/\x=(k:Int)):=⟨h,hx⟩
 clear h hx
 go_enter Tryz.func163,Tryz.ntmps163
 go_wp2_with fail
 refine (take_e rb g o m c k x w HP.out.1 HP.out.2 hk h0).mono ?_
 rintro e w1 ⟨rfl,ht⟩
 have HT:Hid (Took w rb g o m c k w1):=ht
 have HC:Hid (∀j,j<k->w1.cell? ⟨g,o+j,none⟩=some (.int .u8 (pay9 (o+j)))):=fun j hj=>(ht.2.2.1.cell (p:=⟨g,o+j,none⟩) HP.out.1.lt).trans (HP.out.1.rd j (by omega))
 clear ht
 go_wp2_with fail
 refine (littleEndian_any g o k c pay9 w1 HC.out (fun j _=>pay9_range _) h4).mono ?_
 rintro e w2 ⟨rfl,hw⟩
 subst hw
 go_wp2
 go_ret
 exact ⟨rfl,HT.out⟩
end Go.Proofs.YtbmffmifemebmaaGreatDoor
namespace Go.Proofs.YtbmffmifemebmaaGreatDoor
open Go.RowKit Go.Deep

set_option maxHeartbeats 400000 in
theorem l2AreaSize_any (a p:Option Addr) (n c m q:Nat) (fuel:Int) (dead:Bool) (A:Nat) (w:World) (hn:n<=1048576) (h16:16<=n / 64) (hA:A=(n / 64-2) / 2) :
  Calls Tryz.prog 86 #[.agg #[.slice a n c,.slice p m q,.int .i64 fuel,.bool dead]] w fun e w'=>e=.returned (.int .i64 A)/\Below w.heap.size w w':=by
 have e1:IntKind.i64.wrap ((n:Int) / 64-2)=(n:Int) / 64-2:=by rw [IntKind.wrap_i64];omega
 have e2:((n:Int) / 64-2).tdiv 2=(A:Int):=by rw [Int.tdiv_eq_ediv_of_nonneg (by omega)];omega
 have e3:IntKind.i64.wrap (A:Int)=(A:Int):=by rw [IntKind.wrap_i64];omega
 have HA:Hid (A=(n / 64-2) / 2):=hA
 clear hA
 go_enter Tryz.func86,Tryz.ntmps86
 go_wp2_with fail
 refine (l1Sectors_any a p n c m q fuel dead _ hn).mono ?_
 rintro e w1 ⟨rfl,hb1⟩
 have HX:Hid (Below w.heap.size w w1):=(below_alloc _ _).trans (hb1.mono (by simp))
 clear hb1
 go_wp2
 go_ret
 exact ⟨rfl,HX.out⟩

set_option maxHeartbeats 400000 in
theorem l2AreaFrom_any (a p:Option Addr) (n c m q:Nat) (fuel:Int) (dead:Bool) (A ar:Nat) (x:Int) (w:World) (hn:n<=1048576) (h16:16<=n / 64) (hA:A=(n / 64-2) / 2) (hx:x=(ar:Int)) (har:ar<=1) :
  Calls Tryz.prog 88 #[.agg #[.slice a n c,.slice p m q,.int .i64 fuel,.bool dead],.int .i64 x] w fun e w'=>e=.returned (.int .i64 ((2+ar*A:Nat):Int))/\Below w.heap.size w w':=by
 have hm1:x*(A:Int)=((ar*A:Nat):Int):=by rw [hx];simp
 have hm2:ar*A<=8192:=by
  have:ar*A<=1*A:=Nat.mul_le_mul_right _ har
  omega
 have e1:IntKind.i64.wrap (x*(A:Int))=((ar*A:Nat):Int):=by rw [IntKind.wrap_i64,hm1];omega
 have e2:IntKind.i64.wrap (2+((ar*A:Nat):Int))=((2+ar*A:Nat):Int):=by rw [IntKind.wrap_i64];omega
 obtain ⟨z,hz⟩:∃z:Int,z=((ar*A:Nat):Int):=⟨_,rfl⟩
 obtain ⟨y,hy⟩:∃y:Int,y=((2+ar*A:Nat):Int):=⟨_,rfl⟩
 rw [<- hz] at e1 e2
 rw [<- hy] at e2 ⊢
 clear hm1 hm2 hx hz hy
 have HA:Hid (A=(n / 64-2) / 2):=hA
 clear hA
 go_enter Tryz.func88,Tryz.ntmps88
 go_wp2_with fail
 refine (l2AreaSize_any a p n c m q fuel dead A _ hn h16 HA.out).mono ?_
 rintro e w1 ⟨rfl,hb1⟩
 have HX:Hid (Below w.heap.size w w1):=(below_alloc _ _).trans (hb1.mono (by simp))
 clear hb1
 go_wp2
 go_ret
 exact ⟨rfl,HX.out⟩

theorem specRec_st (a p:Option Addr) (n c m q:Nat) (d S:Nat->Int) (L:Nat->Nat) (F:Nat->Nat->Int) (fuel:Int) (dead:Bool) (y:Int) (s:Nat) (seq:Int) (w:World) (ha:Rd .u8 w a n d) (hp:RdP w p m S L F) (hv:VD n m S L fuel) (hq:numB seq=true) (hy:y=(s:Int)) (hs:s<n / 64) (hn:n<=1048576) (hnc:n<=c) (hcm:c<=9223372036854775807) (hm:m<=1048576) (hr:∀s i,i<64->0<=secF d S F m s i/\secF d S F m s i<256) :
  Calls Tryz.prog 87 #[.agg #[.slice a n c,.slice p m q,.int .i64 fuel,.bool dead],.int .i64 y,.int .i64 seq] w fun e w'=>Below w.heap.size w w'/\
   (((s<n / 64/\recOk (arG (secF d S F m) s) (((n / 64:Nat):Int)-(s:Int)) seq)/\∃a' c',e=.returned (.agg #[.bool true,.slice a' (catL (recLz (arG (secF d S F m) s)) (arK (secF d S F m) s)) c',.int .i64 (arK (secF d S F m) s)])/\OwnB w' w.heap.size a' (catL (recLz (arG (secF d S F m) s)) (arK (secF d S F m) s)) (catF (recLz (arG (secF d S F m) s)) (recFz (arG (secF d S F m) s)) (arK (secF d S F m) s))/\catL (recLz (arG (secF d S F m) s)) (arK (secF d S F m) s)<=c'/\c'<=9223372036854775807)\/
    (¬ (s<n / 64/\recOk (arG (secF d S F m) s) (((n / 64:Nat):Int)-(s:Int)) seq)/\e=.returned (.agg #[.bool false,.slice none 0 0,.int .i64 0]))):=by
 subst hy
 refine (specReadRec_in a p n c m q d S L F fuel dead s seq w ha hp hv hq hs hn hnc hcm hm hr).mono ?_
 rintro e w' ⟨hb,h⟩
 refine ⟨hb,?_⟩
 have e1:(n:Int) / 64-(s:Int)=((n / 64:Nat):Int)-(s:Int):=by omega
 rw [e1] at h
 rcases h with ⟨hok,a',c',he,ho,hc1,hc2⟩|⟨hno,he⟩
 ·refine Or.inl ⟨⟨hs,hok⟩,a',c',?_,ho,hc1,hc2⟩
  have e2:((arK (secF d S F m) s:Nat):Int)=getN (secF d S F m (s+0)) 6 2:=by
   have:=hok.1
   dsimp only at this
   unfold arK
   rw [Nat.add_zero] at this ⊢
   omega
  rw [e2]
  exact he
 ·exact Or.inr ⟨fun hh=>hno hh.2,he⟩
end Go.Proofs.YtbmffmifemebmaaGreatDoor
