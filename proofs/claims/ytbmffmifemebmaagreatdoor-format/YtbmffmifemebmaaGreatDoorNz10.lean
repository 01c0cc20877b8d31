import Derived.Test.YtbmffmifemebmaaGreatDoorNz7
import Derived.Deep.RegionWith
import Derived.Test.YtbmffmifemebmaaGreatDoorNz4
import Derived.Test.YtbmffmifemebmaaGreatDoorNz5
set_option linter.unusedVariables false
set_option maxRecDepth 100000
namespace Go.Proofs.YtbmffmifemebmaaGreatDoor
open Go.RowKit Go.Deep

structure IxMk (w:World) (B g:Nat) (G C:Nat->Nat) (A:Nat->Option Addr) (n:Nat):Prop where
 le:B<=g
 row:rowIn w g 69 6 (fun i=>.slice (some ⟨G i,0,none⟩) 1 (C i))
 each:∀i,i<6->B<=G i/\rowIn w (G i) 213 4 (if i<n then markCell (A i) (2*i+1) else leafCell (A i))
 apart:∀i,i<6->∀j,j<6->G i=G j->i=j

structure OnlyG (G:Nat->Nat) (w w' : World):Prop where
 os:w'.os=w.os
 tape:w'.tape=w.tape
 output:w'.output=w.output
 size:w.heap.size<=w'.heap.size
 block:∀b,b<w.heap.size->(∀j,j<6->b≠G j)->w'.heap[b]?=w.heap[b]?
theorem OnlyG.refl (G:Nat->Nat) (w:World):OnlyG G w w:=⟨rfl,rfl,rfl,Nat.le_refl _,fun _ _ _=>rfl⟩
theorem OnlyG.below {G:Nat->Nat} {B:Nat} {w w' : World} (h:OnlyG G w w') (hB:B<=w.heap.size) (hG:∀j,j<6->B<=G j):Below B w w':=
 ⟨h.os,h.tape,h.output,h.size,fun b hb=>h.block b (by omega) (fun j hj e=>by have:=hG j hj;omega)⟩
theorem OnlyG.later {G:Nat->Nat} {w w' w2:World} (h:OnlyG G w w') (hb:Below w'.heap.size w' w2):OnlyG G w w2:=
 ⟨hb.os.trans h.os,hb.tape.trans h.tape,hb.output.trans h.output,Nat.le_trans h.size hb.size,fun b h1 h2=>(hb.block b (Nat.lt_of_lt_of_le h1 h.size)).trans (h.block b h1 h2)⟩
theorem OnlyG.at {G:Nat->Nat} {w w' w2:World} {i:Nat} (h:OnlyG G w w') (hi:i<6) (ho:OnlyAt (some ⟨G i,0,none⟩) w' w2):OnlyG G w w2:=
 ⟨ho.os.trans h.os,ho.tape.trans h.tape,ho.output.trans h.output,by rw [ho.size];exact h.size,fun b h1 h2=>(ho.block b (fun x e=>by injection e with e;subst e;exact fun e=>h2 i hi e.symm)).trans (h.block b h1 h2)⟩

theorem IxMk.keep {w w2:World} {B g:Nat} {G C:Nat->Nat} {A:Nat->Option Addr} {n:Nat} (h:IxMk w B g G C A n) (hb:Below w.heap.size w w2):IxMk w2 B g G C A n:=
 ⟨h.le,h.row.of_block (hb.block _ h.row.lt),fun i hi=>⟨(h.each i hi).1,(h.each i hi).2.of_block (hb.block _ (h.each i hi).2.lt)⟩,h.apart⟩

theorem IxMk.next {w w2:World} {B g:Nat} {G C:Nat->Nat} {A:Nat->Option Addr} {n:Nat} (h:IxMk w B g G C A n) (hn:n<6) (ho:OnlyAt (some ⟨G n,0,none⟩) w w2) (hr:rowIn w2 (G n) 213 4 (markCell (A n) (2*n+1))):IxMk w2 B g G C A (n+1):=by
 have blk:∀b,b≠G n->w2.heap[b]?=w.heap[b]?:=fun b hne=>ho.block b (fun x e=>by injection e with e;subst e;exact fun e=>hne e.symm)
 refine ⟨h.le,h.row.of_block (blk g ?_),fun i hi=>?_,h.apart⟩
 ·obtain ⟨_,q⟩:=h.each n hn
  rw [if_neg (Nat.lt_irrefl _)] at q
  exact fun e=>h.row.ne q (by decide) e
 ·refine ⟨(h.each i hi).1,?_⟩
  by_cases e:i=n
  ·subst e
   rw [if_pos (by omega)]
   exact hr
  ·have q:=(h.each i hi).2
   have hne:G i≠G n:=fun e2=>e (h.apart i hi n hn e2)
   by_cases e3:i<n
   ·rw [if_pos e3] at q
    rw [if_pos (by omega)]
    exact q.of_block (blk _ hne)
   ·rw [if_neg e3] at q
    rw [if_neg (by omega)]
    exact q.of_block (blk _ hne)


theorem ans_true {e:Ending} {p:Prop} (h:AnsB e p) (hp:p):e=.returned (.bool true):=by
 obtain ⟨b,rfl,hb⟩:=h
 rw [hb.2 hp]
set_option maxHeartbeats 1000000 in
theorem specRead_good (a p:Option Addr) (n c m q:Nat) (d S:Nat->Int) (L:Nat->Nat) (F:Nat->Nat->Int) (fuel:Int) (dead:Bool) (s:Nat) (w:World) (ha:Rd .u8 w a n d) (hp:RdP w p m S L F) (hv:VD n m S L fuel) (hs:s<n / 64) (hn:n<=1048576) (hnc:n<=c) (hcm:c<=9223372036854775807) (hm:m<=1048576) :
  Calls Tryz.prog 135 #[.agg #[.slice a n c,.slice p m q,.int .i64 fuel,.bool dead],.int .i64 s] w fun e w'=>RetOwn w e w' 64 (secF d S F m s):=by
 have HP:Hid (RdP w p m S L F):=hp
 have HA:Hid (Rd .u8 w a n d):=ha
 have HV:Hid (VD n m S L fuel):=hv
 clear hp ha hv
 have hs1:¬ (s:Int)<0:=by omega
 have hs2:¬ (n:Int) / 64<=(s:Int):=by omega
 go_enter Tryz.func135,Tryz.ntmps135
 go_wp2_with fail
 refine (specValid_any a p n c m q S L F fuel dead _ (HP.out.below (below_alloc _ _)) hn hm).mono ?_
 rintro e w1 ⟨h1,hb1⟩
 have:=ans_true h1 HV.out
 subst this
 rw [show ∀O,(w.alloc O).heap.size=w.heap.size+1 from fun O=>by simp] at hb1
 have K1:Hid (Below (w.heap.size+1) (w.alloc _) w1):=hb1
 obtain ⟨x0,x1,x2,x3,xz⟩:=box4 hb1
 clear hb1 h1
 go_wp2_with fail
 refine (l1Sectors_any a p n c m q fuel dead _ hn).mono ?_
 rintro e w2 ⟨rfl,hb2⟩
 have K2:Hid (Below (w.heap.size+1) (w.alloc _) w2):=K1.out.trans (hb2.mono (by omega))
 clear x0 x1 x2 x3
 obtain ⟨x0,x1,x2,x3,xz2⟩:=box4 K2.out
 have HB2:Hid (Below w.heap.size w w2):=(below_alloc _ _).trans (K2.out.mono (by omega))
 have HS2:w.heap.size<=w2.heap.size:=HB2.out.size
 clear hb2
 go_wp2
 go_loop [5] (fun i=>∃k:Nat,k<=m/\i=.int .i64 ((k:Int)-1)/\lastAt S s m=lastAt S s k) (fun i=>(intOf i+1).toNat)
 case atStart=>exact ⟨m,Nat.le_refl _,rfl,rfl⟩
 case round=>
  obtain ⟨k,hk,rfl,hl⟩:=hrel
  have HLst:Hid (lastAt S s m=lastAt S s k):=hl
  clear hl
  cases k with
  | zero=>
   rcases HA.out.below HB2.out with h|⟨b,o,hpa,hc⟩
   ·omega
   subst hpa
   have h3:(s+1)*64-s*64=64:=by omega
   have HR:Hid (∀O,Rd .u8 (w2.alloc O) (some ⟨b,o+s*64,none⟩) ((s+1)*64-s*64) (secF d S F m s)):=fun O=>by rw [h3,secF_none (HLst.out.trans rfl)];exact (rd_sub hc s (by omega)).below (below_alloc _ _)
   have h1:(s:Int)*64<=((s:Int)+1)*64:=by omega
   have h2:((s:Int)+1)*64<=(c:Int):=by omega
   have H3:Hid ((s+1)*64-s*64=64):=h3
   clear hc h3
   go_wp2_with (at_builtin;refine wpList_append_rd rfl _ _ rfl w.heap.size (.slice (some ⟨w2.heap.size,0,none⟩) 0 0) 0 [] rfl (World.ownsRow_lit w2 #[] 0 HS2 (Nat.zero_le _) rfl) (some ⟨b,o+s*64,none⟩) ((s+1)*64-s*64) _ (secF d S F m s) rfl (HR.out _) (by omega) (by simp;omega) ?_)
   intro v' w' ho hg
   have HB:Hid (Below w.heap.size w w'):=(HB2.out.alloc HS2 _).grown hg (by simp;omega) (fun k e=>by simp [Value.ownBlock] at e;omega)
   rw [H3.out] at ho
   obtain ⟨a',c',rfl,q1,q2,q3⟩:=ownB_ofRow ho
   have H1:Hid (OwnB w' w.heap.size a' 64 (secF d S F m s)):=q1
   clear ho hg q1
   go_wp2
   go_ret
   exact ⟨a',c',rfl,H1.out,HB.out,q2,q3⟩
  | succ k=>
   rcases HP.out.below HB2.out with h|⟨b,o,hpa,hc⟩
   ·omega
   subst hpa
   obtain ⟨c1,ad,cp,c2,c3⟩:=hc k (by omega)
   have hL:=(HV.out.2 k (by omega)).2.2
   rw [hL] at c2 c3
   have ek:((k+1:Nat):Int)-1=(k:Int):=by omega
   rw [ek]
   have hkm:(k:Int)<(m:Int):=by omega
   have c1':=c1
   have hb1:=World.block_lt_of_cell? _ _ c1
   by_cases e:S k=(s:Int)
   ·have e' : (S k == (s:Int))=true:=by simp [e]
    have C3:Hid (∀O,Rd .u8 (w2.alloc O) ad 64 (secF d S F m s)):=fun O=>by rw [secF_some (HLst.out.trans (lastAt_hit e))];exact c3.below (below_alloc _ _)
    clear e hc c3 hL ek c1'
    go_wp2_with (at_builtin;refine wpList_append_rd rfl _ _ rfl w.heap.size (.slice (some ⟨w2.heap.size,0,none⟩) 0 0) 0 [] rfl (World.ownsRow_lit w2 #[] 0 HS2 (Nat.zero_le _) rfl) ad 64 cp (secF d S F m s) rfl (C3.out _) (by omega) (by simp;omega) ?_)
    intro v' w' ho hg
    have HB:Hid (Below w.heap.size w w'):=(HB2.out.alloc HS2 _).grown hg (by simp;omega) (fun k e=>by simp [Value.ownBlock] at e;omega)
    obtain ⟨a',c',rfl,q1,q2,q3⟩:=ownB_ofRow ho
    have H1:Hid (OwnB w' w.heap.size a' 64 (secF d S F m s)):=q1
    clear ho hg q1
    go_wp2
    go_ret
    exact ⟨a',c',rfl,H1.out,HB.out,q2,q3⟩
   ·have e' : (S k == (s:Int))=false:=by simp [e]
    have HF:Hid (lastAt S s m=lastAt S s k):=HLst.out.trans (lastAt_miss e)
    clear e hc c3 hL ek c1'
    go_wp2
    go_round
    case rel=>exact ⟨k,by omega,rfl,HF.out⟩
    case measure=>simp [intOf]

def syncTo (d S:Nat->Int) (F:Nat->Nat->Int):Nat->Nat->Int
 | 0=>d
 | k+1=>over (syncTo d S F k) (S k).toNat (F k)

theorem sectorFits {n s:Nat} {S:Nat->Int} {L:Nat->Nat} {i:Nat} (h:VP n S L i) (hs:S i=(s:Int)):s*64+64<=n:=by
 obtain ⟨h0,h1,_⟩:=h
 omega

set_option maxHeartbeats 400000 in
theorem sync_zero (b:Nat) (v0 v1:Value) (dead:Bool) (w:World) (h:Dev w b v0 v1 0 dead) :
  Calls Tryz.prog 102 #[.pointer (some ⟨b,0,none⟩)] w fun e w'=>e=.panicked [{ v:=.iface 231 (.agg #[]),recovered:=false }]/\Dev w' b v0 v1 0 true/\OnlyAt (some ⟨b,0,none⟩) w w':=by
 have H:Hid (Dev w b v0 v1 0 dead):=h
 clear h
 go_enter Tryz.func102,Tryz.ntmps102
 go_wp2_with fail
 refine (spend_zero b v0 v1 dead w H.out).mono ?_
 rintro e w1 ⟨rfl,hd,ho⟩
 have HE:Hid (Dev w1 b v0 v1 0 true/\OnlyAt (some ⟨b,0,none⟩) w w1):=⟨hd,ho⟩
 clear hd ho
 go_wp2
 exact ⟨rfl,rfl,HE.out⟩

set_option maxHeartbeats 400000 in
theorem sync_dead (b:Nat) (v0 v1:Value) (fuel:Int) (w:World) (h:Dev w b v0 v1 fuel true) (hf:fuel≠0) :
  Calls Tryz.prog 102 #[.pointer (some ⟨b,0,none⟩)] w fun e w'=>e=.panicked [{ v:=.iface 231 (.agg #[]),recovered:=false }]/\w'=w:=by
 have H:Hid (Dev w b v0 v1 fuel true):=h
 clear h
 go_enter Tryz.func102,Tryz.ntmps102
 go_wp2_with fail
 refine (spend_dead b v0 v1 fuel w H.out hf).mono ?_
 rintro e w1 ⟨rfl,hw⟩
 subst hw
 go_wp2
 exact ⟨rfl,rfl,rfl⟩

theorem rowIn.other {w w' : World} {g k:Nat} {t:TypeId} {n:Nat} {F:Nat->Value} (h:rowIn w k t n F) (hne:k≠g) (hw:Within g (g+1) w w'):rowIn w' k t n F:=
 h.within (by omega) hw

theorem pend_read {w wr:World} {B g n m q k:Nat} {p:Option Addr} {S:Nat->Int} {L:Nat->Nat} {F:Nat->Nat->Int} {A:Nat->Option Addr} {C:Nat->Nat} {f:Nat->Value} (hg:Gath w B (.slice p m q) m S L F A C) (hrow:rowIn w g 5 n f) (hw:Within g (g+1) w wr) (hk:k<m) (hl:L k≠0) (hap:A k≠some ⟨g,0,none⟩) :
  ∃b o,p=some ⟨b,o,none⟩/\wr.cell? ⟨b,o+k*2,none⟩=some (.int .i64 (S k))/\wr.cell? ⟨b,o+k*2+1,none⟩=some (.slice (A k) (L k) (C k))/\Rd .u8 wr (A k) (L k) (F k)/\b<wr.heap.size:=by
 rcases hg.row.2 with ⟨_,h0⟩|⟨gp,cap,cur,hv,hgB,hh,h1,h2,h3,h4⟩
 ·omega
 ·injection hv with e1 _ _
  subst e1
  have hrp:rowIn w gp 119 (m*2) (pendCell S A L C):=⟨cur,hh,by omega,fun i hi=>by
   rw [<- pendRow_get S A L C m i hi,<- h4,List.getElem?_take,if_pos hi]
   simp⟩
  have hne:gp≠g:=hrp.ne hrow (by decide)
  have hrp':=hrp.other hne hw
  refine ⟨gp,0,rfl,?_,?_,?_,hrp'.lt⟩
  ·have:=hrp'.cell (i:=k*2) (by omega)
   rw [pendCell_even] at this
   simpa using this
  ·have:=hrp'.cell (i:=k*2+1) (by omega)
   rw [pendCell_odd] at this
   simpa using this
  ·rcases hg.each k hk with h0|⟨gk,hA,hgk,hrk⟩
   ·exact absurd h0 hl
   ·have hnk:gk≠g:=fun e=>hap (by rw [hA,e])
    have:=hrk.other hnk hw
    rw [hA]
    exact Or.inr ⟨gk,0,rfl,fun i hi=>by rw [Nat.zero_add];exact this.cell hi⟩

set_option maxHeartbeats 2000000 in
theorem sync_live (b m q B n c' g:Nat) (p:Option Addr) (fuel:Int) (d S:Nat->Int) (L:Nat->Nat) (F:Nat->Nat->Int) (A:Nat->Option Addr) (C:Nat->Nat) (w:World)
  (h:Dev w b (.slice (some ⟨g,0,none⟩) n c') (.slice p m q) fuel false) (hf:fuel≠0) (h1:-1<=fuel) (h2:fuel<=1000000)
  (hgB:B<=g) (hr:rowIn w g 5 n (fun i=>.int .u8 (d i))) (hg:Gath w B (.slice p m q) m S L F A C) (hap:∀i,i<m->L i≠0->A i≠some ⟨g,0,none⟩) (hv:∀i,i<m->VP n S L i) (hn:n<=1048576) (hm:m<=1048576) (hnc:n<=c') (hcm:c'<=9223372036854775807) (hBb:B<=b) :
  Calls Tryz.prog 102 #[.pointer (some ⟨b,0,none⟩)] w fun e w'=>e=.returned (.tuple #[])/\Dev w' b (.slice (some ⟨g,0,none⟩) n c') (.slice none 0 0) (fuelAfter fuel) false/\rowIn w' g 5 n (fun i=>.int .u8 (syncTo d S F m i))/\Below B w w':=by
 have H:Hid (Dev w b (.slice (some ⟨g,0,none⟩) n c') (.slice p m q) fuel false):=h
 have HG:Hid (Gath w B (.slice p m q) m S L F A C):=hg
 have HAP:Hid (∀i,i<m->L i≠0->A i≠some ⟨g,0,none⟩):=hap
 have HV:Hid (∀i,i<m->VP n S L i):=hv
 have HR:Hid (rowIn w g 5 n (fun i=>.int .u8 (d i))):=hr
 clear h hg hap hv hr
 go_enter Tryz.func102,Tryz.ntmps102
 go_wp2_with fail
 refine (spend_live b _ _ fuel w H.out hf h1 h2).mono ?_
 rintro e w1 ⟨rfl,hd1,ho1⟩
 have D1:Hid (Dev w1 b (.slice (some ⟨g,0,none⟩) n c') (.slice p m q) (fuelAfter fuel) false):=hd1
 have G1:Hid (Gath w1 B (.slice p m q) m S L F A C):=HG.out.onlyDev H.out ho1
 have R1:Hid (rowIn w1 g 5 n (fun i=>.int .u8 (d i))):=HR.out.only (HR.out.ne H.out (by decide)) ho1
 have HB1:Hid (Below B w w1):=ho1.below (fun x e=>by injection e with e;subst e;exact hBb)
 have hgb:g≠b:=R1.out.ne D1.out (by decide)
 have hgl:=R1.out.lt
 clear hd1 ho1
 obtain ⟨c0,c1,c2,c3,cf,cl⟩:=D1.out.cells
 go_wp2
 go_loopw [3,12] (fun _ i wr=>∃k:Nat,k<=m/\i=.int .i64 k/\rowIn wr g 5 n (fun j=>.int .u8 (syncTo d S F k j))/\Within g (g+1) w1 wr) (fun _ i _=>m-(intOf i).toNat)
 case atStart=>exact ⟨0,Nat.zero_le _,rfl,R1.out,Within.refl _ _ _⟩
 case round=>
  clear c0 c1 c2 c3 cf cl
  obtain ⟨k,hkm,rfl,hrow,hwi⟩:=hrel
  have hz:=hwi.size
  have HW:Hid (Within g (g+1) w1 wr):=hwi
  have HRW:Hid (rowIn wr g 5 n (fun j=>.int .u8 (syncTo d S F k j))):=hrow
  have DR:Hid (Dev wr b (.slice (some ⟨g,0,none⟩) n c') (.slice p m q) (fuelAfter fuel) false):=rowIn.other D1.out (fun e=>hgb e.symm) hwi
  clear hwi hrow
  obtain ⟨c0,c1,c2,c3,cf,cl⟩:=DR.out.cells
  by_cases hlt:k<m
  ·have hvp:=HV.out k hlt
   have hl64:L k=64:=hvp.2.2
   obtain ⟨pb,po,hpa,e1,e2,e3,hpl⟩:=pend_read G1.out R1.out HW.out hlt (by omega) (HAP.out k hlt (by omega))
   subst hpa
   rw [hl64] at e2 e3
   obtain ⟨s,hs⟩:=Int.eq_ofNat_of_zero_le hvp.1
   have hfit:=sectorFits hvp hs
   have HS:Hid (S k=(s:Int)):=hs
   rw [hs] at e1
   have HT:Hid (syncTo d S F (k+1)=over (syncTo d S F k) s (F k)):=by
    show over _ _ _=_
    rw [HS.out,Int.toNat_natCast]
   have E3:Hid (Rd .u8 (wr.alloc (.cells #[.int .i64 s,.slice (A k) 64 (C k)] 119)).drew (A k) 64 (F k)):=e3.below (below_alloc _ _).drew
   have HRA:Hid (rowIn (wr.alloc (.cells #[.int .i64 s,.slice (A k) 64 (C k)] 119)).drew g 5 n (fun j=>.int .u8 (syncTo d S F k j))):=HRW.out.of_block (Below.heap_alloc _ _ _ HRW.out.lt)
   clear hvp hs e3 hl64
   have HC:Hid (∀(w3:World) (O:Obj),OnlyAt (some ⟨g,0,none⟩) ((wr.alloc (.cells #[.int .i64 s,.slice (A k) 64 (C k)] 119)).drew.alloc O) w3->w3.cell? ⟨b,0,none⟩=some (.slice (some ⟨g,0,none⟩) n c')/\w3.cell? ⟨wr.heap.size,0,none⟩=some (.int .i64 s)/\w3.cell? ⟨wr.heap.size,1,none⟩=some (.slice (A k) 64 (C k))):=by
    intro w3 O ho
    have hgr:=HRW.out.lt
    have q1:∀x,x≠g->x<wr.heap.size+1->w3.heap[x]?=((wr.alloc (.cells #[.int .i64 s,.slice (A k) 64 (C k)] 119)).drew).heap[x]?:=fun x hx hl=>
     (ho.block x (fun y e=>by injection e with e;subst e;exact fun e=>hx e.symm)).trans (Below.heap_alloc _ _ _ (by simpa using hl))
    refine ⟨?_,?_,?_⟩
    ·rw [World.cell?_of_block (a:=⟨b,0,none⟩) (q1 b (fun e=>hgb e.symm) (by omega)),(below_alloc wr _).drew.cell (p:=⟨b,0,none⟩) cl]
     exact c0
    ·rw [World.cell?_of_block (a:=⟨wr.heap.size,0,none⟩) (q1 wr.heap.size (by omega) (by omega))];simp
    ·rw [World.cell?_of_block (a:=⟨wr.heap.size,1,none⟩) (q1 wr.heap.size (by omega) (by omega))];simp
   go_wp2
   go_region_held3 (fun w'=>w'.cell? ⟨b,0,none⟩=some (.slice (some ⟨g,0,none⟩) n c')/\w'.cell? ⟨wr.heap.size,0,none⟩=some (.int .i64 s)/\w'.cell? ⟨wr.heap.size,1,none⟩=some (.slice (A k) 64 (C k))) (go_keep)
    (first
    | (go_at_call 151;refine (settle_any g n c' s (C k) (A k) _ (F k) (wr.alloc (.cells #[.int .i64 s,.slice (A k) 64 (C k)] 119)).drew HRA.out E3.out hfit hnc hcm hn).mono ?_;rintro e w3 ⟨rfl,hr3,ho3⟩;obtain ⟨k0,k1,k2⟩:=HC.out w3 _ ho3))
   have HX:Hid (rowIn w3 g 5 n (fun j=>.int .u8 (syncTo d S F (k+1) j))/\Within g (g+1) w1 w3):=
    ⟨by rw [HT.out];exact hr3,((HW.out.trans (Within.ofBelow (below_alloc _ _).drew)).trans (Within.ofBelow (below_alloc _ _))).trans (Within.ofOnly ho3 (fun x e=>by injection e with e;subst e;exact ⟨Nat.le_refl _,Nat.lt_succ_self _⟩))⟩
   clear hr3 ho3 k0 k1 k2 HC e1 e2 c0 c1 c2 c3 cf E3 HRA
   go_wp2
   go_roundw
   case rel=>exact ⟨k+1,by omega,by go_num,HX.out⟩
   case measure=>simp [intOf];omega
  ·have e:k=m:=by omega
   subst e
   have HB:Hid (Below B w wr):=HB1.out.trans ((HW.out.below (by omega)).mono hgB)
   go_wp2
   go_end0
   exact ⟨rfl,DR.out.setCache _,HRW.out.setOther (by simpa using hgb) _,HB.out.setCell (by simpa using hBb) _⟩

def SyncDoes (w0:World) (n m:Nat) (d S:Nat->Int) (L:Nat->Nat) (F:Nat->Nat->Int) (fuel:Int) (dead:Bool) (d2:Nat->Int) (m2:Nat) (S2:Nat->Int) (L2:Nat->Nat) (F2:Nat->Nat->Int) (fuel2:Int) (dead2:Bool):Prop:=
 ∀(W:World) (b B:Nat) (a' p' : Option Addr) (c' q' : Nat) (A:Nat->Option Addr) (C:Nat->Nat),Dev W b (.slice a' n c') (.slice p' m q') fuel dead->OwnB W B a' n d->Gath W B (.slice p' m q') m S L F A C->(n≠0->∀i,i<m->L i≠0->A i≠a')->n<=c'->c'<=9223372036854775807->B<=b->
  Calls Tryz.prog 102 #[.pointer (some ⟨b,0,none⟩)] W fun e w'=>Stepped e/\Left W b B n w' d2 m2 S2 L2 F2 fuel2 dead2

end Go.Proofs.YtbmffmifemebmaaGreatDoor
