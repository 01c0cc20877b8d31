import Derived.Test.YtbmffmifemebmaaGreatDoorNz5
import Derived.Test.YtbmffmifemebmaaGreatDoorNz10
import Derived.Deep.RegionHeld3
import Derived.ChangeKeysEq
import Derived.Test.YtbmffmifemebmaaGreatDoorNz8
set_option linter.unusedVariables false
set_option maxRecDepth 100000
namespace Go.Proofs.YtbmffmifemebmaaGreatDoor
open Go.RowKit Go.Deep

theorem step_copy_sec {ops:Array Oper} {o:Oper} {a:Act} {w:World} {K:Act->World->Prop} {Q:Exit->Act->World->Prop} {E:Prop} (hgd:o.guard=none) (x y:Operand)
  (ho:o.op=.call { callee:=.builtin .copy,args:=#[x,y],argTypes:=#[22,22] })
  (g sCap:Nat) (ad:Option Addr) (f0 f:Nat->Int) (hx:a.eval x=.slice (some ⟨g,0,none⟩) 64 64) (hy:a.eval y=.slice ad 64 sCap) (hs:Sec w g f0) (hrd:Rd .u8 w ad 64 f)
  (h:∀w',Sec w' g f->OnlyAt (some ⟨g,0,none⟩) w w'->K (a.put o.dst (goInt 64)) w') :
  if Region.wanted o (yielded ops a.tmps)=true then Oper.wp Tryz.prog o a w K Q else E:=by
 have hw:Region.wanted o (yielded ops a.tmps)=true:=by simp [Region.wanted,hgd]
 rw [if_pos hw]
 rcases hrd with h0|⟨b,off,rfl,hc⟩
 ·omega
 have hrun:=run_copy_row (P:=Tryz.prog) w 22 22 o.type 5 g 0 64 64 ⟨b,off,none⟩ 64 sCap (secA f0) 192 (byteRow f 64) underBytes (by kernel_rfl) hs (by rw [byteRow_length];rfl)
  (fun j u hj=>by
   have hjm:j<64:=by
    have:=(List.getElem?_eq_some_iff.1 hj).1
    rwa [byteRow_length] at this
   rw [byteRow_get f 64 j hjm] at hj
   injection hj with hj
   subst hj
   have e:(Addr.add ⟨b,off,none⟩ j)=⟨b,off+j,none⟩:=by
    unfold Addr.add
    by_cases h:j=0
    ·subst h;simp
    ·simp [h]
   rw [e]
   exact hc j hjm) (by rw [byteRow_length,secA_size];omega)
  (fun u hu=>by
   simp only [byteRow,List.mem_map] at hu
   obtain ⟨i,_,rfl⟩:=hu
   rfl)
 have e2:((secA f0).toList.take 0++byteRow f 64++(secA f0).toList.drop (0+(byteRow f 64).length)).toArray=secA f:=by
  rw [byteRow_length,List.drop_eq_nil_of_le (by have:=secA_size f0;simp [<- Array.length_toList] at this ⊢;omega)]
  simp [secA]
 rw [e2,byteRow_length] at hrun
 unfold Oper.wp
 simp [execOp,ho,resolve,invoke,builtin,hx,hy,hrun,Result.andThen]
 exact h _ (hs.setRow f).1 (hs.setRow f).2

set_option maxHeartbeats 2000000 in
theorem loadSector_any (a p:Option Addr) (n c m q:Nat) (d S:Nat->Int) (L:Nat->Nat) (F:Nat->Nat->Int) (fuel:Int) (dead:Bool) (s:Nat) (w:World) (ha:Rd .u8 w a n d) (hp:RdP w p m S L F) (hv:VD n m S L fuel) (hs:s<n / 64) (hn:n<=1048576) (hnc:n<=c) (hcm:c<=9223372036854775807) (hm:m<=1048576) :
  Calls Tryz.prog 203 #[.agg #[.slice a n c,.slice p m q,.int .i64 fuel,.bool dead],.int .i64 s] w fun e w'=>e=.returned (.agg (secA (secF d S F m s)))/\Below w.heap.size w w':=by
 have HA:Hid (Rd .u8 w a n d):=ha
 have HP:Hid (RdP w p m S L F):=hp
 have HV:Hid (VD n m S L fuel):=hv
 clear ha hp hv
 go_enter Tryz.func203,Tryz.ntmps203
 go_wp2
 rw [zeroSec]
 obtain ⟨W,hW⟩:∃W,W=((w.alloc (.cells #[.slice a n c,.slice p m q,.int .i64 fuel,.bool dead] 25)).alloc (.cells (secA fun _=>0) 192)).alloc (.cells (secA fun _=>0) 192):=⟨_,rfl⟩
 rw [<- hW]
 have BW:Below w.heap.size w W:=by rw [hW];exact (((below_alloc _ _).alloc (by simp) _).alloc (by simp;omega) _)
 have S0:Sec W (w.heap.size+1+1) (fun _=>0):=by
  rw [hW]
  have:=Sec.new ((w.alloc (.cells #[.slice a n c,.slice p m q,.int .i64 fuel,.bool dead] 25)).alloc (.cells (secA fun _=>0) 192)) (fun _=>0)
  simp only [World.size_alloc] at this
  exact this
 have R0:Sec W (w.heap.size+1) (fun _=>0):=by
  rw [hW]
  have:=Sec.new (w.alloc (.cells #[.slice a n c,.slice p m q,.int .i64 fuel,.bool dead] 25)) (fun _=>0)
  simp only [World.size_alloc] at this
  exact this.below (below_alloc _ _)
 have hb:Below (w.heap.size+1) (w.alloc (.cells #[.slice a n c,.slice p m q,.int .i64 fuel,.bool dead] 25)) W:=by
  rw [hW]
  exact (((Below.refl _ _).alloc (by simp) _).alloc (by simp) _)
 obtain ⟨x0,x1,x2,x3,xz⟩:=box4 hb
 have hz:W.heap.size=w.heap.size+1+1+1:=by rw [hW];simp
 have hz2:w.heap.size+1+1<W.heap.size:=by omega
 clear hW hb
 have HS0:Hid (Sec W (w.heap.size+1+1) (fun _=>0)/\Sec W (w.heap.size+1) (fun _=>0)/\Below w.heap.size w W):=⟨S0,R0,BW⟩
 clear S0 R0 BW
 have HC:Hid (∀w1:World,Below W.drew.heap.size W.drew w1->(w1.cell? ⟨w.heap.size,0,none⟩=some (.slice a n c)/\w1.cell? ⟨w.heap.size,1,none⟩=some (.slice p m q)/\w1.cell? ⟨w.heap.size,2,none⟩=some (.int .i64 fuel)/\w1.cell? ⟨w.heap.size,3,none⟩=some (.bool dead))/\Sec w1 (w.heap.size+1+1) (fun _=>0)/\Sec w1 (w.heap.size+1) (fun _=>0)/\Below w.heap.size w w1):=by
  intro w1 hb
  have hl:w.heap.size<W.drew.heap.size:=xz
  exact ⟨⟨(hb.cell (p:=⟨w.heap.size,0,none⟩) hl).trans x0,(hb.cell (p:=⟨w.heap.size,1,none⟩) hl).trans x1,(hb.cell (p:=⟨w.heap.size,2,none⟩) hl).trans x2,(hb.cell (p:=⟨w.heap.size,3,none⟩) hl).trans x3⟩,Sec.below (w:=W.drew) HS0.out.1 hb,Sec.below (w:=W.drew) HS0.out.2.1 hb,HS0.out.2.2.drew.trans (hb.mono HS0.out.2.2.size)⟩
 have HD:Hid (∀w1 w2:World,Below W.drew.heap.size W.drew w1->OnlyAt (some ⟨w.heap.size+1+1,0,none⟩) w1 w2->(w2.cell? ⟨w.heap.size,0,none⟩=some (.slice a n c)/\w2.cell? ⟨w.heap.size,1,none⟩=some (.slice p m q)/\w2.cell? ⟨w.heap.size,2,none⟩=some (.int .i64 fuel)/\w2.cell? ⟨w.heap.size,3,none⟩=some (.bool dead))/\Sec w2 (w.heap.size+1) (fun _=>0)/\Below w.heap.size w w2):=by
  intro w1 w2 hb ho
  obtain ⟨⟨q0,q1,q2,q3⟩,_,q5,q6⟩:=HC.out w1 hb
  have q:∀k,k≠w.heap.size+1+1->w2.heap[k]?=w1.heap[k]?:=fun k hk=>ho.block k (fun y e=>by injection e with e;subst e;exact fun e=>hk e.symm)
  have hne:w.heap.size≠w.heap.size+1+1:=by omega
  exact ⟨⟨(World.cell?_of_block (a:=⟨w.heap.size,0,none⟩) (q _ hne)).trans q0,(World.cell?_of_block (a:=⟨w.heap.size,1,none⟩) (q _ hne)).trans q1,(World.cell?_of_block (a:=⟨w.heap.size,2,none⟩) (q _ hne)).trans q2,(World.cell?_of_block (a:=⟨w.heap.size,3,none⟩) (q _ hne)).trans q3⟩,q5.of_block (q _ (by omega)),q6.trans (ho.below (fun y e=>by injection e with e;subst e;show w.heap.size<=w.heap.size+1+1;omega))⟩
 have HL:Hid (Calls Tryz.prog 230 #[.agg #[.slice a n c,.slice p m q,.int .i64 fuel,.bool dead],.int .i64 s] W.drew fun e w'=>RetRd W.drew e w' 64 (secF d S F m s)):=look_any a p n c m q d S L F fuel dead s W.drew (Rd.below HA.out HS0.out.2.2.drew) (RdP.below HP.out HS0.out.2.2.drew) HV.out hs hn hnc hcm hm
 go_region_held3 (fun w'=>w'.cell? ⟨w.heap.size,0,none⟩=some (.slice a n c)/\w'.cell? ⟨w.heap.size,1,none⟩=some (.slice p m q)/\w'.cell? ⟨w.heap.size,2,none⟩=some (.int .i64 fuel)/\w'.cell? ⟨w.heap.size,3,none⟩=some (.bool dead)) (go_keep)
  (first
  | (go_at_call 230;refine HL.out.mono ?_;rintro e w1 ⟨a1,c1,rfl,hr1,hb1⟩;obtain ⟨⟨y0,y1,y2,y3⟩,yr⟩:=HC.out w1 hb1)
  | (refine step_copy_sec (by rfl) (.tmp 6) (.tmp 9) (by rfl) (w.heap.size+1+1) c1 a1 (fun _=>0) (secF d S F m s) (by rfl) (by rfl) yr.1 hr1 ?_;intro w2 hs2 ho2;obtain ⟨⟨v0,v1,v2,v3⟩,vr⟩:=HD.out w1 w2 hb1 ho2)
  | fail)
 have S5:Hid (Sec w2 (w.heap.size+1+1) (secF d S F m s)):=hs2
 have R5:Hid (Sec w2 (w.heap.size+1) (fun _=>0)/\Below w.heap.size w w2):=vr
 clear hs2 ho2 vr yr hr1 hb1 y0 y1 y2 y3 v0 v1 v2 v3 HC HD HL x0 x1 x2 x3
 go_wp2_with (first|((with_reducible refine wpList_load_sec (w.heap.size+1+1) (secF d S F m s) ?_ S5.out ?_);rfl)|((with_reducible refine wpList_store_sec (w.heap.size+1) (fun _=>0) (secF d S F m s) ?_ ?_ R5.out.1 ?_);rfl;rfl))
 intro w6 hs6 ho6
 have HB6:Hid (Below w.heap.size w w6):=R5.out.2.trans (ho6.below (fun y e=>by injection e with e;subst e;show w.heap.size<=w.heap.size+1;omega))
 have S6:Hid (Sec w6 (w.heap.size+1) (secF d S F m s)):=hs6
 clear hs6 ho6
 go_wp2
 exact bodyPost_ret (v:=.agg (secA (secF d S F m s))) (retSec rfl _ w6 _ rfl S6.out) rfl ⟨rfl,HB6.out⟩


theorem wpList_alloc_sec {w:World} {ops:Array Oper} {rest:List Oper} {act:Act} {Q:Exit->Act->World->Prop} {dst:Option Nat} {ty:TypeId} {ps:String} {af:Array Edge}
  (h:wpList Tryz.prog ops Q rest (act.put dst (.pointer (some ⟨w.heap.size,0,none⟩))) (w.alloc (.cells (secA fun _=>0) 192))):wpList Tryz.prog ops Q ({ dst:=dst,op:=.alloc 192,type:=ty,pos:=ps,after:=af,guard:=none }::rest) act w:=by
 refine wpList_plain rfl fun K hK=>?_
 unfold Oper.wp
 simp [execOp,go_sem]
 exact hK _ _ h

theorem eqItems_sec (d:Nat) (f g:Nat->Int) (w:World):∀(l:List Nat),(∀i∈l,i<64)->(Op.eqItems (d+1) 5 1 (secA f) (secA g) l).run Tryz.prog w=.ok (l.all fun i=>f i == g i) w
 | [],_=>by simp [Op.eqItems]
 | i::l,h=>by
  have hi:i<64:=h i (by simp)
  have p1:=run_part_plain (P:=Tryz.prog) w (e:=5) (by kernel_rfl) (off:=i*1) (xs:=secA f) (by rw [Nat.mul_one];exact secA_get f i hi)
  have p2:=run_part_plain (P:=Tryz.prog) w (e:=5) (by kernel_rfl) (off:=i*1) (xs:=secA g) (by rw [Nat.mul_one];exact secA_get g i hi)
  have p3:=run_equalIn_int (P:=Tryz.prog) w d 5 .u8 .u8 (f i) (g i) (by kernel_rfl)
  have ih:=eqItems_sec d f g w l (fun j hj=>h j (by simp [hj]))
  simp only [Op.eqItems,Sem.run_bind,p1,p2,p3,Result.andThen_ok,List.all_cons]
  cases hb:(f i == g i)
  ·simp
  ·simpa using ih

def sameB (f g:Nat->Int):Bool:=(List.range 64).all fun i=>f i == g i
theorem sameB_iff (f g:Nat->Int):sameB f g=true↔∀i,i<64->f i=g i:=by
 simp only [sameB,List.all_eq_true,List.mem_range,beq_iff_eq]

theorem secEq (f g:Nat->Int) (w:World):(Op.equalIn 10000 192 (.agg (secA f)) (.agg (secA g))).run Tryz.prog w=.ok (sameB f g) w:=by
 obtain ⟨i0,hi,hz0,hz1,hz2⟩:=info_parts Tryz.info5
 rw [show (10000:Nat)=9999+1 from rfl,run_equalIn_array (P:=Tryz.prog) w 9999 (n:=64) (e:=5) (secA f) (secA g) (by kernel_rfl) hi]
 have hz:Tryz.prog.cellsOf 5=1:=by kernel_rfl
 rw [hz,show (9999:Nat)=9998+1 from rfl,eqItems_sec 9998 f g w (List.range 64) (fun i hi=>List.mem_range.1 hi)]
 rfl

def areaB (x:Int):Bool:=decide (0<=x) && decide (x<2)
def numB (x:Int):Bool:=decide (1<=x) && decide (x<=2000000000)
def goodB (gen ar fi:Int):Bool:=decide (0<=gen) && decide (gen<=2000000000) && areaB ar && numB fi

set_option maxHeartbeats 400000 in
theorem isArea_any (x:Int) (w:World):Calls Tryz.prog 115 #[.int .i64 x] w fun e w'=>e=.returned (.bool (areaB x))/\w'=w:=by
 by_cases h1:0<=x
 ·have HE:Hid (areaB x=decide (x<2)):=by show _=_;unfold areaB;rw [decide_eq_true h1];rfl
  go_enter Tryz.func115,Tryz.ntmps115
  go_wp2
  go_ret
  exact ⟨by rw [HE.out];rfl,rfl⟩
 ·have HE:Hid (areaB x=false):=by show _=_;unfold areaB;rw [decide_eq_false h1];rfl
  go_enter Tryz.func115,Tryz.ntmps115
  go_wp2
  go_ret
  exact ⟨by rw [HE.out];rfl,rfl⟩

set_option maxHeartbeats 400000 in
theorem isNumber_any (x:Int) (w:World):Calls Tryz.prog 51 #[.int .i64 x] w fun e w'=>e=.returned (.bool (numB x))/\w'=w:=by
 by_cases h1:1<=x
 ·have HE:Hid (numB x=decide (x<=2000000000)):=by show _=_;unfold numB;rw [decide_eq_true h1];rfl
  go_enter Tryz.func51,Tryz.ntmps51
  go_wp2
  go_ret
  exact ⟨by rw [HE.out];rfl,rfl⟩
 ·have HE:Hid (numB x=false):=by show _=_;unfold numB;rw [decide_eq_false h1];rfl
  go_enter Tryz.func51,Tryz.ntmps51
  go_wp2
  go_ret
  exact ⟨by rw [HE.out];rfl,rfl⟩

set_option maxHeartbeats 1000000 in
theorem validSuper_any (gen ar fi:Int) (w:World) :
  Calls Tryz.prog 65 #[.agg #[.int .i64 gen,.int .i64 ar,.int .i64 fi]] w fun e w'=>e=.returned (.bool (goodB gen ar fi))/\Below w.heap.size w w':=by
 by_cases h1:0<=gen
 ·by_cases h2:gen<=2000000000
  ·have HE:Hid (goodB gen ar fi=(areaB ar && numB fi)):=by show _=_;unfold goodB;rw [decide_eq_true h1,decide_eq_true h2];rfl
   cases h3:areaB ar with
   | true=>
    rw [h3] at HE
    go_enter Tryz.func65,Tryz.ntmps65
    go_wp2_with fail
    refine (isArea_any ar _).mono ?_
    rintro e w1 ⟨rfl,rfl⟩
    rw [h3]
    clear h3
    go_wp2_with fail
    refine (isNumber_any fi _).mono ?_
    rintro e w1 ⟨rfl,rfl⟩
    generalize numB fi=b at*
    go_wp2
    go_ret
    exact ⟨by rw [HE.out];rfl,below_alloc _ _⟩
   | false=>
    rw [h3] at HE
    go_enter Tryz.func65,Tryz.ntmps65
    go_wp2_with fail
    refine (isArea_any ar _).mono ?_
    rintro e w1 ⟨rfl,rfl⟩
    rw [h3]
    clear h3
    go_wp2
    go_ret
    exact ⟨by rw [HE.out];rfl,below_alloc _ _⟩
  ·have HE:Hid (goodB gen ar fi=false):=by show _=_;unfold goodB;rw [decide_eq_false h2];simp
   go_enter Tryz.func65,Tryz.ntmps65
   go_wp2
   go_ret
   exact ⟨by rw [HE.out];rfl,below_alloc _ _⟩
 ·have HE:Hid (goodB gen ar fi=false):=by show _=_;unfold goodB;rw [decide_eq_false h1];simp
  go_enter Tryz.func65,Tryz.ntmps65
  go_wp2
  go_ret
  exact ⟨by rw [HE.out];rfl,below_alloc _ _⟩

theorem box_res {w w1:World} {O:Obj} (h:Below (w.heap.size+2) ((w.alloc O).alloc (.cells #[.slice none 0 0,.slice none 0 0,.int .i64 0,.bool false] 25)) w1):DkRow w1 (w.heap.size+1) (.slice none 0 0) (.slice none 0 0) 0 false:=by
 have r:=rowInNew (w.alloc O) (.slice none 0 0) (.slice none 0 0) 0 false
 rw [alloc_size] at r
 exact rowIn.of_block r (h.block _ (by omega))
def set4 (w:World) (g:Nat) (v0 v1:Value) (fuel:Int) (dead:Bool):World:=(((w.setCell ⟨g,0,none⟩ v0).setCell ⟨g,1,none⟩ v1).setCell ⟨g,2,none⟩ (.int .i64 fuel)).setCell ⟨g,3,none⟩ (.bool dead)
theorem dk_set4 {w1:World} {g:Nat} {u0 u1 v0 v1:Value} {f0 fuel:Int} {d0 dead:Bool} (hr:DkRow w1 g u0 u1 f0 d0):DkRow (set4 w1 g v0 v1 fuel dead) g v0 v1 fuel dead:=by
 refine (rowIn.set (rowIn.set (rowIn.set (rowIn.set hr 0 _) 1 _) 2 _) 3 _).congr (fun i hi=>?_)
 unfold diskCell
 match i,hi with
 | 0,_=>simp
 | 1,_=>simp
 | 2,_=>simp
 | 3,_=>simp

set_option maxHeartbeats 1000000 in
theorem l1Step_zero (a p:Option Addr) (n c m q:Nat) (d S:Nat->Int) (L:Nat->Nat) (F:Nat->Nat->Int) (dead:Bool) (w:World) (ha:Rd .u8 w a n d) (hp:RdP w p m S L F) (hn:n<=1048576) (hm:m<=1048576) (hL:∀i,i<m->L i<=1048576) :
  Calls Tryz.prog 79 #[.agg #[.slice a n c,.slice p m q,.int .i64 0,.bool dead]] w fun e w'=>RetG w e w' n d m S L F 0 true:=by
 have HA:Hid (Rd .u8 w a n d):=ha
 have HP:Hid (RdP w p m S L F):=hp
 have HLL:Hid (∀i,i<m->L i<=1048576):=hL
 clear ha hp hL
 go_enter Tryz.func79,Tryz.ntmps79
 go_wp2_with fail
 refine (l1Copy_gath a p n c m q d S L F 0 dead _ (HA.out.below (below_alloc2' _ _ _)) (HP.out.below (below_alloc2' _ _ _)) hn hm HLL.out).mono ?_
 rintro e w1 ⟨a1,c1,p1,q1,A1,C1,rfl,ho1,hg1,hx1,hb1,hl1,hm9⟩
 have E2:∀O O',((w.alloc O).alloc O').heap.size=w.heap.size+2:=fun O O'=>by simp
 rw [E2] at ho1 hg1 hb1
 have z1:w.heap.size+2<=w1.heap.size:=by have:=hb1.size;simpa using this
 have hc3:∀b o,b<w.heap.size+2->w1.cell? ⟨b,o,none⟩=_:=fun b o hb=>hb1.cell (p:=⟨b,o,none⟩) hb
 have hf3:∀b o,b<w.heap.size+2->w1.frozen? ⟨b,o,none⟩=_:=fun b o hb=>hb1.frozen (p:=⟨b,o,none⟩) hb
 have DB:Hid (DkRow w1 (w.heap.size+1) (.slice none 0 0) (.slice none 0 0) 0 false):=box_res hb1
 have al:∀O o,(w1.alloc O).cell? ⟨w.heap.size+1,o,none⟩=w1.cell? ⟨w.heap.size+1,o,none⟩:=fun O o=>World.cell?_of_block (Below.heap_alloc _ _ _ (by show w.heap.size+1<_;omega))
 have af:∀O o,(w1.alloc O).frozen? ⟨w.heap.size+1,o,none⟩=w1.frozen? ⟨w.heap.size+1,o,none⟩:=fun O o=>(below_alloc w1 O).frozen (p:=⟨w.heap.size+1,o,none⟩) (by show w.heap.size+1<_;omega)
 have r0:∀O,(w1.alloc O).cell? ⟨w.heap.size+1,0,none⟩=some (.slice none 0 0):=fun O=>(al O 0).trans DB.out.cells.1
 have r1:∀O,(w1.alloc O).cell? ⟨w.heap.size+1,1,none⟩=some (.slice none 0 0):=fun O=>(al O 1).trans DB.out.cells.2.1
 have r2:∀O,(w1.alloc O).cell? ⟨w.heap.size+1,2,none⟩=some (.int .i64 0):=fun O=>(al O 2).trans DB.out.cells.2.2.1
 have r3:∀O,(w1.alloc O).cell? ⟨w.heap.size+1,3,none⟩=some (.bool false):=fun O=>(al O 3).trans DB.out.cells.2.2.2.1
 have rf:∀O o,(w1.alloc O).frozen? ⟨w.heap.size+1,o,none⟩=false:=fun O o=>(af O o).trans (DB.out.cells.2.2.2.2.1 o)
 have rl:w.heap.size+1<w1.heap.size:=by omega
 clear al af hc3 hf3
 obtain ⟨d0,d1,d2,d3,df,dl⟩:=DB.out.cells
 have HX:Hid ((OwnB w1 (w.heap.size+2) a1 n d/\Gath w1 (w.heap.size+2) (.slice p1 m q1) m S L F A1 C1/\(n≠0->∀i,i<m->L i≠0->A1 i≠a1))/\Below w.heap.size w w1):=⟨⟨ho1,hg1,hx1⟩,(below_alloc2' _ _ _).trans (hb1.mono (by omega))⟩
 clear ho1 hg1 hx1 hb1 E2
 go_wp2
 have DR:Hid (DkRow ((set4 w1 (w.heap.size+1) (.slice a1 n c1) (.slice p1 m q1) 0 true).alloc (.cells #[.slice a1 n c1,.slice p1 m q1,.int .i64 0,.bool true] 25)) (w.heap.size+1) (.slice a1 n c1) (.slice p1 m q1) 0 true):=(dk_set4 DB.out).below (below_alloc _ _)
 obtain ⟨y0,y1,y2,y3,yf,yl⟩:=DR.out.cells
 clear r0 r1 r2 r3 rf d0 d1 d2 d3 df
 unfold set4 at y0 y1 y2 y3
 refine bodyPost_ret (v:=.agg #[.slice a1 n c1,.slice p1 m q1,.int .i64 0,.bool true]) (by simp [results,Tryz.results79,go_sem,y0,y1,y2,y3]) rfl ⟨a1,c1,p1,q1,A1,C1,rfl,?_,?_,HX.out.1.2.2,?_,hl1,hm9⟩
 ·exact (((((HX.out.1.1.setOther (by simp) _).setOther (by simp) _).setOther (by simp) _).setOther (by simp) _).below (below_alloc _ _)).mono (by omega)
 ·exact (((((HX.out.1.2.1.setOther (by simp) _).setOther (by simp) _).setOther (by simp) _).setOther (by simp) _).below (below_alloc _ _)).mono (by omega)
 ·exact (((((HX.out.2.setCell (by simp) _).setCell (by simp) _).setCell (by simp) _).setCell (by simp) _).alloc (by simpa using HX.out.2.size) _)

set_option maxHeartbeats 1000000 in
theorem l1Step_live (a p:Option Addr) (n c m q:Nat) (d S:Nat->Int) (L:Nat->Nat) (F:Nat->Nat->Int) (fuel:Int) (dead:Bool) (w:World) (ha:Rd .u8 w a n d) (hp:RdP w p m S L F) (hf:fuel≠0) (h1:-1<=fuel) (h2:fuel<=1000000) (hn:n<=1048576) (hm:m<=1048576) (hL:∀i,i<m->L i<=1048576) :
  Calls Tryz.prog 79 #[.agg #[.slice a n c,.slice p m q,.int .i64 fuel,.bool dead]] w fun e w'=>RetG w e w' n d m S L F (fuelAfter fuel) dead:=by
 have HA:Hid (Rd .u8 w a n d):=ha
 have HP:Hid (RdP w p m S L F):=hp
 have HLL:Hid (∀i,i<m->L i<=1048576):=hL
 have hf' : (fuel == 0)=false:=by simp [hf]
 clear ha hp hL
 by_cases hm1:fuel=-1
 ·subst hm1
  go_enter Tryz.func79,Tryz.ntmps79
  go_wp2_with fail
  refine (l1Copy_gath a p n c m q d S L F (-1) dead _ (HA.out.below (below_alloc2' _ _ _)) (HP.out.below (below_alloc2' _ _ _)) hn hm HLL.out).mono ?_
  rintro e w1 ⟨a1,c1,p1,q1,A1,C1,rfl,ho1,hg1,hx1,hb1,hl1,hm9⟩
  have E2:∀O O',((w.alloc O).alloc O').heap.size=w.heap.size+2:=fun O O'=>by simp
  rw [E2] at ho1 hg1 hb1
  have z1:w.heap.size+2<=w1.heap.size:=by have:=hb1.size;simpa using this
  have hc3:∀b o,b<w.heap.size+2->w1.cell? ⟨b,o,none⟩=_:=fun b o hb=>hb1.cell (p:=⟨b,o,none⟩) hb
  have hf3:∀b o,b<w.heap.size+2->w1.frozen? ⟨b,o,none⟩=_:=fun b o hb=>hb1.frozen (p:=⟨b,o,none⟩) hb
  have DB:Hid (DkRow w1 (w.heap.size+1) (.slice none 0 0) (.slice none 0 0) 0 false):=box_res hb1
  have al:∀O o,(w1.alloc O).cell? ⟨w.heap.size+1,o,none⟩=w1.cell? ⟨w.heap.size+1,o,none⟩:=fun O o=>World.cell?_of_block (Below.heap_alloc _ _ _ (by show w.heap.size+1<_;omega))
  have af:∀O o,(w1.alloc O).frozen? ⟨w.heap.size+1,o,none⟩=w1.frozen? ⟨w.heap.size+1,o,none⟩:=fun O o=>(below_alloc w1 O).frozen (p:=⟨w.heap.size+1,o,none⟩) (by show w.heap.size+1<_;omega)
  have r0:∀O,(w1.alloc O).cell? ⟨w.heap.size+1,0,none⟩=some (.slice none 0 0):=fun O=>(al O 0).trans DB.out.cells.1
  have r1:∀O,(w1.alloc O).cell? ⟨w.heap.size+1,1,none⟩=some (.slice none 0 0):=fun O=>(al O 1).trans DB.out.cells.2.1
  have r2:∀O,(w1.alloc O).cell? ⟨w.heap.size+1,2,none⟩=some (.int .i64 0):=fun O=>(al O 2).trans DB.out.cells.2.2.1
  have r3:∀O,(w1.alloc O).cell? ⟨w.heap.size+1,3,none⟩=some (.bool false):=fun O=>(al O 3).trans DB.out.cells.2.2.2.1
  have rf:∀O o,(w1.alloc O).frozen? ⟨w.heap.size+1,o,none⟩=false:=fun O o=>(af O o).trans (DB.out.cells.2.2.2.2.1 o)
  have rl:w.heap.size+1<w1.heap.size:=by omega
  clear al af hc3 hf3
  obtain ⟨d0,d1,d2,d3,df,dl⟩:=DB.out.cells
  have HX:Hid ((OwnB w1 (w.heap.size+2) a1 n d/\Gath w1 (w.heap.size+2) (.slice p1 m q1) m S L F A1 C1/\(n≠0->∀i,i<m->L i≠0->A1 i≠a1))/\Below w.heap.size w w1):=⟨⟨ho1,hg1,hx1⟩,(below_alloc2' _ _ _).trans (hb1.mono (by omega))⟩
  clear ho1 hg1 hx1 hb1 E2
  go_wp2
  have DR:Hid (DkRow ((set4 w1 (w.heap.size+1) (.slice a1 n c1) (.slice p1 m q1) (-1) dead).alloc (.cells #[.slice a1 n c1,.slice p1 m q1,.int .i64 (-1),.bool dead] 25)) (w.heap.size+1) (.slice a1 n c1) (.slice p1 m q1) (-1) dead):=(dk_set4 DB.out).below (below_alloc _ _)
  obtain ⟨y0,y1,y2,y3,yf,yl⟩:=DR.out.cells
  clear r0 r1 r2 r3 rf d0 d1 d2 d3 df
  unfold set4 at y0 y1 y2 y3
  refine bodyPost_ret (v:=.agg #[.slice a1 n c1,.slice p1 m q1,.int .i64 (-1),.bool dead]) (by simp [results,Tryz.results79,go_sem,y0,y1,y2,y3]) rfl ⟨a1,c1,p1,q1,A1,C1,by simp [fuelAfter],?_,?_,HX.out.1.2.2,?_,hl1,hm9⟩
  ·exact (((((HX.out.1.1.setOther (by simp) _).setOther (by simp) _).setOther (by simp) _).setOther (by simp) _).below (below_alloc _ _)).mono (by omega)
  ·exact (((((HX.out.1.2.1.setOther (by simp) _).setOther (by simp) _).setOther (by simp) _).setOther (by simp) _).below (below_alloc _ _)).mono (by omega)
  ·exact (((((HX.out.2.setCell (by simp) _).setCell (by simp) _).setCell (by simp) _).setCell (by simp) _).alloc (by simpa using HX.out.2.size) _)
 ·have hp1:0<fuel:=by omega
  go_enter Tryz.func79,Tryz.ntmps79
  go_wp2_with fail
  refine (l1Copy_gath a p n c m q d S L F fuel dead _ (HA.out.below (below_alloc2' _ _ _)) (HP.out.below (below_alloc2' _ _ _)) hn hm HLL.out).mono ?_
  rintro e w1 ⟨a1,c1,p1,q1,A1,C1,rfl,ho1,hg1,hx1,hb1,hl1,hm9⟩
  have E2:∀O O',((w.alloc O).alloc O').heap.size=w.heap.size+2:=fun O O'=>by simp
  rw [E2] at ho1 hg1 hb1
  have z1:w.heap.size+2<=w1.heap.size:=by have:=hb1.size;simpa using this
  have hc3:∀b o,b<w.heap.size+2->w1.cell? ⟨b,o,none⟩=_:=fun b o hb=>hb1.cell (p:=⟨b,o,none⟩) hb
  have hf3:∀b o,b<w.heap.size+2->w1.frozen? ⟨b,o,none⟩=_:=fun b o hb=>hb1.frozen (p:=⟨b,o,none⟩) hb
  have DB:Hid (DkRow w1 (w.heap.size+1) (.slice none 0 0) (.slice none 0 0) 0 false):=box_res hb1
  have al:∀O o,(w1.alloc O).cell? ⟨w.heap.size+1,o,none⟩=w1.cell? ⟨w.heap.size+1,o,none⟩:=fun O o=>World.cell?_of_block (Below.heap_alloc _ _ _ (by show w.heap.size+1<_;omega))
  have af:∀O o,(w1.alloc O).frozen? ⟨w.heap.size+1,o,none⟩=w1.frozen? ⟨w.heap.size+1,o,none⟩:=fun O o=>(below_alloc w1 O).frozen (p:=⟨w.heap.size+1,o,none⟩) (by show w.heap.size+1<_;omega)
  have r0:∀O,(w1.alloc O).cell? ⟨w.heap.size+1,0,none⟩=some (.slice none 0 0):=fun O=>(al O 0).trans DB.out.cells.1
  have r1:∀O,(w1.alloc O).cell? ⟨w.heap.size+1,1,none⟩=some (.slice none 0 0):=fun O=>(al O 1).trans DB.out.cells.2.1
  have r2:∀O,(w1.alloc O).cell? ⟨w.heap.size+1,2,none⟩=some (.int .i64 0):=fun O=>(al O 2).trans DB.out.cells.2.2.1
  have r3:∀O,(w1.alloc O).cell? ⟨w.heap.size+1,3,none⟩=some (.bool false):=fun O=>(al O 3).trans DB.out.cells.2.2.2.1
  have rf:∀O o,(w1.alloc O).frozen? ⟨w.heap.size+1,o,none⟩=false:=fun O o=>(af O o).trans (DB.out.cells.2.2.2.2.1 o)
  have rl:w.heap.size+1<w1.heap.size:=by omega
  clear al af hc3 hf3
  obtain ⟨d0,d1,d2,d3,df,dl⟩:=DB.out.cells
  have HX:Hid ((OwnB w1 (w.heap.size+2) a1 n d/\Gath w1 (w.heap.size+2) (.slice p1 m q1) m S L F A1 C1/\(n≠0->∀i,i<m->L i≠0->A1 i≠a1))/\Below w.heap.size w w1):=⟨⟨ho1,hg1,hx1⟩,(below_alloc2' _ _ _).trans (hb1.mono (by omega))⟩
  clear ho1 hg1 hx1 hb1 E2
  go_wp2
  have DR:Hid (DkRow ((set4 w1 (w.heap.size+1) (.slice a1 n c1) (.slice p1 m q1) (fuel-1) dead).alloc (.cells #[.slice a1 n c1,.slice p1 m q1,.int .i64 (fuel-1),.bool dead] 25)) (w.heap.size+1) (.slice a1 n c1) (.slice p1 m q1) (fuel-1) dead):=(dk_set4 DB.out).below (below_alloc _ _)
  obtain ⟨y0,y1,y2,y3,yf,yl⟩:=DR.out.cells
  clear r0 r1 r2 r3 rf d0 d1 d2 d3 df
  unfold set4 at y0 y1 y2 y3
  refine bodyPost_ret (v:=.agg #[.slice a1 n c1,.slice p1 m q1,.int .i64 (fuel-1),.bool dead]) (by simp [results,Tryz.results79,go_sem,y0,y1,y2,y3]) rfl ⟨a1,c1,p1,q1,A1,C1,by simp [fuelAfter,hm1],?_,?_,HX.out.1.2.2,?_,hl1,hm9⟩
  ·exact (((((HX.out.1.1.setOther (by simp) _).setOther (by simp) _).setOther (by simp) _).setOther (by simp) _).below (below_alloc _ _)).mono (by omega)
  ·exact (((((HX.out.1.2.1.setOther (by simp) _).setOther (by simp) _).setOther (by simp) _).setOther (by simp) _).below (below_alloc _ _)).mono (by omega)
  ·exact (((((HX.out.2.setCell (by simp) _).setCell (by simp) _).setCell (by simp) _).setCell (by simp) _).alloc (by simpa using HX.out.2.size) _)
theorem l1Copy_any (a p:Option Addr) (n c m q:Nat) (d S:Nat->Int) (L:Nat->Nat) (F:Nat->Nat->Int) (fuel:Int) (dead:Bool) (w:World) (ha:Rd .u8 w a n d) (hp:RdP w p m S L F) (hn:n<=1048576) (hm:m<=1048576) (hL:∀i,i<m->L i<=1048576) :
  Calls Tryz.prog 31 #[.agg #[.slice a n c,.slice p m q,.int .i64 fuel,.bool dead]] w fun e w'=>RetD w e w' n d m S L F fuel dead:=
 (l1Copy_gath a p n c m q d S L F fuel dead w ha hp hn hm hL).mono (fun e w' h=>h.retD)

set_option maxHeartbeats 1000000 in
theorem specY_2 (a p:Option Addr) (n c m q:Nat) (d S:Nat->Int) (L:Nat->Nat) (F:Nat->Nat->Int) (fuel:Int) (w:World) (ha:Rd .u8 w a n d) (hp:RdP w p m S L F) (hn:n<=1048576) (hm:m<=1048576) (hL:∀i,i<m->L i<=1048576) (hv:VD n m S L fuel) :
  Calls Tryz.prog 34 #[.agg #[.slice a n c,.slice p m q,.int .i64 fuel,.bool true]] w fun e w'=>RetD w e w' n d m S L F fuel true:=by
 have HA:Hid (Rd .u8 w a n d):=ha
 have HP:Hid (RdP w p m S L F):=hp
 have HLL:Hid (∀i,i<m->L i<=1048576):=hL
 have HFIN:Hid (∀W:World,Below (w.heap.size+2) ((w.alloc (.cells #[.slice a n c,.slice p m q,.int .i64 fuel,.bool true] 25)).alloc (.cells #[.slice none 0 0,.slice none 0 0,.int .i64 0,.bool false] 25)) W->Below w.heap.size w W):=fun W h=>(below_alloc2' _ _ _).trans (h.mono (by omega))
 have HE2:Hid (∀o1 o2,((w.alloc o1).alloc o2).heap.size=w.heap.size+2):=fun _ _=>by simp
 have HV:Hid (VD n m S L fuel):=hv
 clear ha hp hL hv
 go_enter Tryz.func34,Tryz.ntmps34
 go_wp2_with fail
 refine (specValid_any a p n c m q S L F fuel true _ (HP.out.below (below_alloc2' _ _ _)) hn hm).mono ?_
 rintro e w1 ⟨h1,hb1⟩
 have e1:=ans_true' h1 HV.out
 subst e1
 rw [HE2.out] at hb1
 have K1:Hid (Below (w.heap.size+2) ((w.alloc (.cells #[.slice a n c,.slice p m q,.int .i64 fuel,.bool true] 25)).alloc (.cells #[.slice none 0 0,.slice none 0 0,.int .i64 0,.bool false] 25)) w1):=hb1
 have z1:w.heap.size+2<=w1.heap.size:=by have:=K1.out.size;rw [HE2.out] at this;exact this
 have hc1:∀b o,b<w.heap.size+2->w1.cell? ⟨b,o,none⟩=_:=fun b o hb=>K1.out.cell (p:=⟨b,o,none⟩) hb
 clear hb1 h1
 go_wp2_with fail
 refine (l1Copy_any a p n c m q d S L F fuel true w1 (HA.out.below (HFIN.out _ K1.out)) (HP.out.below (HFIN.out _ K1.out)) hn hm HLL.out).mono ?_
 rintro e w9 ⟨a9,c9,p9,q9,A9,rfl,ho9,hb9⟩
 have K9:Below (w.heap.size+2) ((w.alloc (.cells #[.slice a n c,.slice p m q,.int .i64 fuel,.bool true] 25)).alloc (.cells #[.slice none 0 0,.slice none 0 0,.int .i64 0,.bool false] 25)) w9:=K1.out.trans (hb9.mono (by omega))
 have hc9:∀b o,b<w.heap.size+2->w9.cell? ⟨b,o,none⟩=_:=fun b o hb=>K9.cell (p:=⟨b,o,none⟩) hb
 have hf9:∀b o,b<w.heap.size+2->w9.frozen? ⟨b,o,none⟩=_:=fun b o hb=>K9.frozen (p:=⟨b,o,none⟩) hb
 have hz9:w.heap.size+1<w9.heap.size:=by have:=hb9.size;omega
 have HX:Hid (OwnD w9 (w.heap.size+2) a9 n d p9 m S L F A9/\Below w.heap.size w w9):=⟨ho9.mono (by omega),HFIN.out _ K9⟩
 clear ho9 hb9 K9 hc1
 go_wp2
 refine bodyPost_ret (v:=.agg #[.slice a9 n c9,.slice p9 m q9,.int .i64 fuel,.bool true]) (by simp [results,Tryz.results34,go_sem,hc9]) rfl ⟨a9,c9,p9,q9,A9,rfl,?_,?_⟩
 ·exact ((((HX.out.1.setOther (by simp) _).setOther (by simp) _).setOther (by simp) _).setOther (by simp) _).mono (by omega)
 ·exact (((HX.out.2.setCell (by simp;try omega) _).setCell (by simp;try omega) _).setCell (by simp;try omega) _).setCell (by simp;try omega) _

set_option maxHeartbeats 1000000 in
theorem specY_zero (a p:Option Addr) (n c m q:Nat) (d S:Nat->Int) (L:Nat->Nat) (F:Nat->Nat->Int) (w:World) (ha:Rd .u8 w a n d) (hp:RdP w p m S L F) (hn:n<=1048576) (hm:m<=1048576) (hL:∀i,i<m->L i<=1048576) (hv:VD n m S L 0) :
  Calls Tryz.prog 34 #[.agg #[.slice a n c,.slice p m q,.int .i64 0,.bool false]] w fun e w'=>RetG w e w' n d m S L F 0 true:=by
 have HA:Hid (Rd .u8 w a n d):=ha
 have HP:Hid (RdP w p m S L F):=hp
 have HLL:Hid (∀i,i<m->L i<=1048576):=hL
 have HFIN:Hid (∀W:World,Below (w.heap.size+2) ((w.alloc (.cells #[.slice a n c,.slice p m q,.int .i64 0,.bool false] 25)).alloc (.cells #[.slice none 0 0,.slice none 0 0,.int .i64 0,.bool false] 25)) W->Below w.heap.size w W):=fun W h=>(below_alloc2' _ _ _).trans (h.mono (by omega))
 have HE2:Hid (∀o1 o2,((w.alloc o1).alloc o2).heap.size=w.heap.size+2):=fun _ _=>by simp
 have HV:Hid (VD n m S L 0):=hv
 clear ha hp hL hv
 go_enter Tryz.func34,Tryz.ntmps34
 go_wp2_with fail
 refine (specValid_any a p n c m q S L F 0 false _ (HP.out.below (below_alloc2' _ _ _)) hn hm).mono ?_
 rintro e w1 ⟨h1,hb1⟩
 have e1:=ans_true' h1 HV.out
 subst e1
 rw [HE2.out] at hb1
 have K1:Hid (Below (w.heap.size+2) ((w.alloc (.cells #[.slice a n c,.slice p m q,.int .i64 0,.bool false] 25)).alloc (.cells #[.slice none 0 0,.slice none 0 0,.int .i64 0,.bool false] 25)) w1):=hb1
 have z1:w.heap.size+2<=w1.heap.size:=by have:=K1.out.size;rw [HE2.out] at this;exact this
 have hc1:∀b o,b<w.heap.size+2->w1.cell? ⟨b,o,none⟩=_:=fun b o hb=>K1.out.cell (p:=⟨b,o,none⟩) hb
 clear hb1 h1
 go_wp2_with fail
 refine (l1Step_zero a p n c m q d S L F false w1 (HA.out.below (HFIN.out _ K1.out)) (HP.out.below (HFIN.out _ K1.out)) hn hm HLL.out).mono ?_
 rintro e w3 ⟨a3,c3,p3,q3,A3,C3,rfl,ho3,hg3,hx3,hb3,hl3,hm3⟩
 have z3:=hb3.size
 have K3:Hid (Below (w.heap.size+2) ((w.alloc (.cells #[.slice a n c,.slice p m q,.int .i64 0,.bool false] 25)).alloc (.cells #[.slice none 0 0,.slice none 0 0,.int .i64 0,.bool false] 25)) w3):=K1.out.trans (hb3.mono (by omega))
 have HX:Hid ((OwnB w3 (w.heap.size+2) a3 n d/\Gath w3 (w.heap.size+2) (.slice p3 m q3) m S L F A3 C3/\(n≠0->∀i,i<m->L i≠0->A3 i≠a3))/\Below w.heap.size w w3):=⟨⟨ho3.mono (by omega),hg3.mono (by omega),hx3⟩,HFIN.out _ K3.out⟩
 have DB:Hid (DkRow w3 (w.heap.size+1) (.slice none 0 0) (.slice none 0 0) 0 false):=box_res K3.out
 have al:∀O o,(w3.alloc O).cell? ⟨w.heap.size+1,o,none⟩=w3.cell? ⟨w.heap.size+1,o,none⟩:=fun O o=>World.cell?_of_block (Below.heap_alloc _ _ _ (by show w.heap.size+1<_;omega))
 have af:∀O o,(w3.alloc O).frozen? ⟨w.heap.size+1,o,none⟩=w3.frozen? ⟨w.heap.size+1,o,none⟩:=fun O o=>(below_alloc w3 O).frozen (p:=⟨w.heap.size+1,o,none⟩) (by show w.heap.size+1<_;omega)
 have r0:∀O,(w3.alloc O).cell? ⟨w.heap.size+1,0,none⟩=some (.slice none 0 0):=fun O=>(al O 0).trans DB.out.cells.1
 have r1:∀O,(w3.alloc O).cell? ⟨w.heap.size+1,1,none⟩=some (.slice none 0 0):=fun O=>(al O 1).trans DB.out.cells.2.1
 have r2:∀O,(w3.alloc O).cell? ⟨w.heap.size+1,2,none⟩=some (.int .i64 0):=fun O=>(al O 2).trans DB.out.cells.2.2.1
 have r3:∀O,(w3.alloc O).cell? ⟨w.heap.size+1,3,none⟩=some (.bool false):=fun O=>(al O 3).trans DB.out.cells.2.2.2.1
 have rf:∀O o,(w3.alloc O).frozen? ⟨w.heap.size+1,o,none⟩=false:=fun O o=>(af O o).trans (DB.out.cells.2.2.2.2.1 o)
 have rl:w.heap.size+1<w3.heap.size:=by omega
 clear al af hc1
 obtain ⟨d0,d1,d2,d3,df,dl⟩:=DB.out.cells
 clear ho3 hg3 hx3 hb3
 go_wp2
 have DR:Hid (DkRow ((set4 w3 (w.heap.size+1) (.slice a3 n c3) (.slice p3 m q3) 0 true).alloc (.cells #[.slice a3 n c3,.slice p3 m q3,.int .i64 0,.bool true] 25)) (w.heap.size+1) (.slice a3 n c3) (.slice p3 m q3) 0 true):=(dk_set4 DB.out).below (below_alloc _ _)
 obtain ⟨y0,y1,y2,y3,yf,yl⟩:=DR.out.cells
 clear r0 r1 r2 r3 rf d0 d1 d2 d3 df
 unfold set4 at y0 y1 y2 y3
 refine bodyPost_ret (v:=.agg #[.slice a3 n c3,.slice p3 m q3,.int .i64 0,.bool true]) (by simp [results,Tryz.results34,go_sem,y0,y1,y2,y3]) rfl ⟨a3,c3,p3,q3,A3,C3,rfl,?_,?_,HX.out.1.2.2,?_,hl3,hm3⟩
 ·exact (((((HX.out.1.1.setOther (by simp) _).setOther (by simp) _).setOther (by simp) _).setOther (by simp) _).below (below_alloc _ _)).mono (by omega)
 ·exact (((((HX.out.1.2.1.setOther (by simp) _).setOther (by simp) _).setOther (by simp) _).setOther (by simp) _).below (below_alloc _ _)).mono (by omega)
 ·exact (((((HX.out.2.setCell (by simp) _).setCell (by simp) _).setCell (by simp) _).setCell (by simp) _).alloc (by simpa using HX.out.2.size) _)

theorem step_l1Over {ops:Array Oper} {o:Oper} {a:Act} {w:World} {K:Act->World->Prop} {Q:Exit->Act->World->Prop} {E:Prop} (hgd:o.guard=none) (x y z:Nat)
  (ho:o.op=.call { callee:=.value (.func 80),args:=#[.tmp x,.tmp y,.tmp z],argTypes:=#[22,2,22] }) (u v t:Value) (hx:a.tmps[x]?.getD undef=u) (hy:a.tmps[y]?.getD undef=v) (hz:a.tmps[z]?.getD undef=t)
  (h:Calls Tryz.prog 80 #[u,v,t] w fun e w'=>∃r,e=.returned r/\K (a.put o.dst r) w') :
  if Region.wanted o (yielded ops a.tmps)=true then Oper.wp Tryz.prog o a w K Q else E:=by
 have hw:Region.wanted o (yielded ops a.tmps)=true:=by simp [Region.wanted,hgd]
 rw [if_pos hw]
 unfold Oper.wp
 simp [execOp,ho,resolve,invoke,hx,hy,hz,go_sem]
 refine h.mono ?_
 rintro e w' ⟨u,rfl,hk⟩
 exact hk

theorem DkRow.setData {w:World} {b:Nat} {v0 v1:Value} {fuel:Int} {dead:Bool} (h:DkRow w b v0 v1 fuel dead) (x:Value):DkRow (w.setCell ⟨b,0,none⟩ x) b x v1 fuel dead:=
 (rowIn.set h 0 _).congr (fun i hi=>by
  unfold diskCell
  by_cases e:i=0
  ·subst e;simp
  ·simp [e])

set_option maxHeartbeats 2000000 in
theorem specY_live (a p:Option Addr) (n c m q:Nat) (d S:Nat->Int) (L:Nat->Nat) (F:Nat->Nat->Int) (fuel:Int) (w:World) (ha:Rd .u8 w a n d) (hp:RdP w p m S L F) (hn:n<=1048576) (hm:m<=1048576) (hL:∀i,i<m->L i<=1048576) (hv:VD n m S L fuel) (hf0:fuel≠0) (hf1:-1<=fuel) (hf2:fuel<=1000000) (S2:Nat->Int) (L2:Nat->Nat) (F2:Nat->Nat->Int) :
  Calls Tryz.prog 34 #[.agg #[.slice a n c,.slice p m q,.int .i64 fuel,.bool false]] w fun e w'=>RetD w e w' n (syncTo d S F m) 0 S2 L2 F2 (fuelAfter fuel) false:=by
 have HA:Hid (Rd .u8 w a n d):=ha
 have HP:Hid (RdP w p m S L F):=hp
 have HLL:Hid (∀i,i<m->L i<=1048576):=hL
 have HFIN:Hid (∀W:World,Below (w.heap.size+2) ((w.alloc (.cells #[.slice a n c,.slice p m q,.int .i64 fuel,.bool false] 25)).alloc (.cells #[.slice none 0 0,.slice none 0 0,.int .i64 0,.bool false] 25)) W->Below w.heap.size w W):=fun W h=>(below_alloc2' _ _ _).trans (h.mono (by omega))
 have HE2:Hid (∀o1 o2,((w.alloc o1).alloc o2).heap.size=w.heap.size+2):=fun _ _=>by simp
 have HV:Hid (VD n m S L fuel):=hv
 clear ha hp hL hv
 go_enter Tryz.func34,Tryz.ntmps34
 go_wp2_with fail
 refine (specValid_any a p n c m q S L F fuel false _ (HP.out.below (below_alloc2' _ _ _)) hn hm).mono ?_
 rintro e w1 ⟨h1,hb1⟩
 have e1:=ans_true' h1 HV.out
 subst e1
 rw [HE2.out] at hb1
 have K1:Hid (Below (w.heap.size+2) ((w.alloc (.cells #[.slice a n c,.slice p m q,.int .i64 fuel,.bool false] 25)).alloc (.cells #[.slice none 0 0,.slice none 0 0,.int .i64 0,.bool false] 25)) w1):=hb1
 have z1:w.heap.size+2<=w1.heap.size:=by have:=K1.out.size;rw [HE2.out] at this;exact this
 have hc1:∀b o,b<w.heap.size+2->w1.cell? ⟨b,o,none⟩=_:=fun b o hb=>K1.out.cell (p:=⟨b,o,none⟩) hb
 clear hb1 h1
 go_wp2_with fail
 refine (l1Step_live a p n c m q d S L F fuel false w1 (HA.out.below (HFIN.out _ K1.out)) (HP.out.below (HFIN.out _ K1.out)) hf0 hf1 hf2 hn hm HLL.out).mono ?_
 rintro e w3 ⟨a3,c3,p3,q3,A3,C3,rfl,ho3,hg3,hx3,hb3,hl3,hm3⟩
 have z3:=hb3.size
 have K3:Below (w.heap.size+2) ((w.alloc (.cells #[.slice a n c,.slice p m q,.int .i64 fuel,.bool false] 25)).alloc (.cells #[.slice none 0 0,.slice none 0 0,.int .i64 0,.bool false] 25)) w3:=K1.out.trans (hb3.mono (by omega))
 have HX:Hid (DkRow (w3.alloc (.cells #[.slice a3 n c3,.slice p3 m q3,.int .i64 (fuelAfter fuel),.bool false] 25)) w3.heap.size (.slice a3 n c3) (.slice p3 m q3) (fuelAfter fuel) false/\OwnB (w3.alloc (.cells #[.slice a3 n c3,.slice p3 m q3,.int .i64 (fuelAfter fuel),.bool false] 25)) (w.heap.size+2) a3 n d/\Below (w.heap.size+2) ((w.alloc (.cells #[.slice a n c,.slice p m q,.int .i64 fuel,.bool false] 25)).alloc (.cells #[.slice none 0 0,.slice none 0 0,.int .i64 0,.bool false] 25)) (w3.alloc (.cells #[.slice a3 n c3,.slice p3 m q3,.int .i64 (fuelAfter fuel),.bool false] 25))):=
  ⟨rowInNew _ _ _ _ _,(ho3.mono (by omega)).below (below_alloc _ _),K3.alloc (by omega) _⟩
 have hbo:w.heap.size+2<=w3.heap.size:=by omega
 clear ho3 hg3 hx3 hb3 K3 hc1
 go_wp2
 generalize hbx:w3.heap.size=bo at HX hbo ⊢
 generalize hwx:w3.alloc (.cells #[.slice a3 n c3,.slice p3 m q3,.int .i64 (fuelAfter fuel),.bool false] 25)=wx at HX ⊢
 clear hbx hwx
 go_loopw [4] (fun i wr=>∃(k:Nat) (a' : Option Addr) (c' : Nat),k<=m/\i=.int .i64 k/\DkRow wr bo (.slice a' n c') (.slice p3 m q3) (fuelAfter fuel) false/\OwnB wr (w.heap.size+2) a' n (syncTo d S F k)/\n<=c'/\c'<=9223372036854775807/\Below (w.heap.size+2) ((w.alloc (.cells #[.slice a n c,.slice p m q,.int .i64 fuel,.bool false] 25)).alloc (.cells #[.slice none 0 0,.slice none 0 0,.int .i64 0,.bool false] 25)) wr) (fun i _=>m-(intOf i).toNat)
 case atStart=>exact ⟨0,a3,c3,Nat.zero_le _,rfl,HX.out.1,HX.out.2.1,hl3,hm3,HX.out.2.2⟩
 case round=>
  obtain ⟨k,a',c',hkm,rfl,hrow,hown,hc1',hc2',hbel⟩:=hrel
  have K4:Hid (Below (w.heap.size+2) ((w.alloc (.cells #[.slice a n c,.slice p m q,.int .i64 fuel,.bool false] 25)).alloc (.cells #[.slice none 0 0,.slice none 0 0,.int .i64 0,.bool false] 25)) wr):=hbel
  have hzr:w.heap.size+2<=wr.heap.size:=by have:=hbel.size;rw [HE2.out] at this;exact this
  have HRW:Hid (DkRow wr bo (.slice a' n c') (.slice p3 m q3) (fuelAfter fuel) false):=hrow
  have HOW:Hid (OwnB wr (w.heap.size+2) a' n (syncTo d S F k)):=hown
  clear hrow hown hbel HX
  obtain ⟨d0,d1,d2,d3,df,dl⟩:=HRW.out.cells
  have hc3:∀b o,b<w.heap.size+2->wr.cell? ⟨b,o,none⟩=_:=fun b o hb=>K4.out.cell (p:=⟨b,o,none⟩) hb
  have x1:=hc3 w.heap.size 1 (by omega)
  simp at x1
  clear hc3
  by_cases hlt:k<m
  ·rcases HP.out.below (HFIN.out _ K4.out) with h|⟨b,o,hpa,hc⟩
   ·omega
   subst hpa
   obtain ⟨e1,ad,cp,e2,e3⟩:=hc k hlt
   have hvp:=HV.out.2 k hlt
   rw [hvp.2.2] at e2 e3
   obtain ⟨s,hs⟩:=Int.eq_ofNat_of_zero_le hvp.1
   have hfit:=sectorFits hvp hs
   have HS:Hid (S k=(s:Int)):=hs
   rw [hs] at e1
   have HT:Hid (syncTo d S F (k+1)=over (syncTo d S F k) s (F k)):=by
    show over _ _ _=_
    rw [HS.out,Int.toNat_natCast]
   have E3:Hid (Rd .u8 wr.drew ad 64 (F k)):=e3
   have HRD:Hid (Rd .u8 wr.drew a' n (syncTo d S F k)):=HOW.out.rd
   have hbb:b<wr.heap.size:=World.block_lt_of_cell? _ _ e1
   clear hc e3 hvp hs
   have HC:Hid (∀w4:World,Below wr.drew.heap.size wr.drew w4->(w4.cell? ⟨bo,0,none⟩=some (.slice a' n c')/\w4.cell? ⟨w.heap.size,1,none⟩=some (.slice (some ⟨b,o,none⟩) m q)/\w4.cell? ⟨b,o+k*2,none⟩=some (.int .i64 s)/\w4.cell? ⟨b,o+k*2+1,none⟩=some (.slice ad 64 cp))/\(∀x,w4.frozen? ⟨bo,x,none⟩=false)/\bo<w4.heap.size):=by
    intro w4 hb
    refine ⟨⟨(hb.cell (p:=⟨bo,0,none⟩) dl).trans d0,(hb.cell (p:=⟨w.heap.size,1,none⟩) (by show w.heap.size<wr.heap.size;omega)).trans x1,(hb.cell (p:=⟨b,o+k*2,none⟩) hbb).trans e1,(hb.cell (p:=⟨b,o+k*2+1,none⟩) hbb).trans e2⟩,fun x=>(hb.frozen (p:=⟨bo,x,none⟩) dl).trans (df x),Nat.lt_of_lt_of_le dl hb.size⟩
   have ik:(k:Int)<(m:Int):=by omega
   go_wp2
   refine wp_region_late (S:=(fun w'=>w'.cell? ⟨bo,0,none⟩=some (.slice a' n c')/\w'.cell? ⟨w.heap.size,1,none⟩=some (.slice (some ⟨b,o,none⟩) m q)/\w'.cell? ⟨b,o+k*2,none⟩=some (.int .i64 s)/\w'.cell? ⟨b,o+k*2+1,none⟩=some (.slice ad 64 cp))) 16 (by kernel_rfl) ?_ (fun hHeld=>?_)
   ·((try dsimp only);go_keep)
   refine tk 0 .zero (v:=?_) ?_ ?_
   rotate_left
   ·(intro w h;(try dsimp only at h);go_simp) <;> with_reducible rfl
   simp only [tkp]
   refine tk 1 (.succ .zero) (v:=?_) ?_ ?_
   rotate_left
   ·(intro w h;(try dsimp only at h);go_simp) <;> with_reducible rfl
   simp only [tkp]
   refine tk 2 (.succ (.succ .zero)) (v:=?_) ?_ ?_
   rotate_left
   ·(intro w h;(try dsimp only at h);go_simp) <;> with_reducible rfl
   simp only [tkp]
   refine tk 3 (.succ (.succ (.succ .zero))) (v:=?_) ?_ ?_
   rotate_left
   ·(intro w h;(try dsimp only at h);go_simp) <;> with_reducible rfl
   simp only [tkp]
   refine tk 4 (.succ (.succ (.succ (.succ .zero)))) (v:=?_) ?_ ?_
   rotate_left
   ·(intro w h;(try dsimp only at h);go_simp) <;> with_reducible rfl
   simp only [tkp]
   refine tk 5 (.s5 .zero) (v:=?_) ?_ ?_
   rotate_left
   ·(intro w h;(try dsimp only at h);go_simp) <;> with_reducible rfl
   simp only [tkp]
   refine tk 6 (.s5 (.succ .zero)) (v:=?_) ?_ ?_
   rotate_left
   ·(intro w h;(try dsimp only at h);go_simp) <;> with_reducible rfl
   simp only [tkp]
   refine tk 7 (.s5 (.succ (.succ .zero))) (v:=?_) ?_ ?_
   rotate_left
   ·(intro w h;(try dsimp only at h);go_simp) <;> with_reducible rfl
   simp only [tkp]
   refine tk 8 (.s5 (.succ (.succ (.succ .zero)))) (v:=?_) ?_ ?_
   rotate_left
   ·(intro w h;(try dsimp only at h);go_simp) <;> with_reducible rfl
   simp only [tkp]
   refine tk 9 (.s5 (.succ (.succ (.succ (.succ .zero))))) (v:=?_) ?_ ?_
   rotate_left
   ·(intro w h;(try dsimp only at h);go_simp) <;> with_reducible rfl
   simp only [tkp]
   refine tk 10 (.s5 (.s5 .zero)) (v:=?_) ?_ ?_
   rotate_left
   ·(intro w h;(try dsimp only at h);go_simp) <;> with_reducible rfl
   simp only [tkp]
   refine tk 11 (.s5 (.s5 (.succ .zero))) (v:=?_) ?_ ?_
   rotate_left
   ·(intro w h;(try dsimp only at h);go_simp) <;> with_reducible rfl
   simp only [tkp]
   refine tk 12 (.s5 (.s5 (.succ (.succ .zero)))) (v:=?_) ?_ ?_
   rotate_left
   ·(intro w h;(try dsimp only at h);go_simp) <;> with_reducible rfl
   simp only [tkp]
   refine tk 13 (.s5 (.s5 (.succ (.succ (.succ .zero))))) (v:=?_) ?_ ?_
   rotate_left
   ·(intro w h;(try dsimp only at h);go_simp) <;> with_reducible rfl
   simp only [tkp]
   refine late_one 14 (.s5 (.s5 (.succ (.succ (.succ (.succ .zero)))))) (by kernel_rfl) (fun K hK=>?_)
   (refine step_l1Over (by rfl) 27 33 39 (by rfl) (.slice a' n c') (.int .i64 s) (.slice ad 64 cp) (by rfl) (by rfl) (by rfl) ?_;refine (l1Over_any a' ad n c' cp s (syncTo d S F k) (F k) wr.drew HRD.out E3.out hfit hn hc1' hc2').mono ?_;rintro e w4 ⟨a4,c4,he,ho4,hb4,hl4,hm4⟩;refine ⟨_,he,?_⟩;clear he;obtain ⟨⟨k0,k1,k2,k3⟩,kf,kl⟩:=HC.out w4 hb4)
   refine hK.out _ _ ?_ (fun hG=>?_)
   ·(intro _;(try dsimp only);go_keep)
   clear hK K
   replace hHeld:=hG (by decide)
   clear hG
   try simp only [tkp]
   refine tk 15 (.s5 (.s5 (.s5 .zero))) (v:=?_) ?_ ?_
   rotate_left
   ·(intro w h;(try dsimp only at h);go_simp) <;> with_reducible rfl
   simp only [tkp]
   refine tk1 16 (.s5 (.s5 (.s5 (.succ .zero)))) (fun K hK=>?_)
   go_simp
   refine hK.out _ _ ?_ (fun hG=>?_)
   ·(intro hne;exact absurd rfl hne)
   clear hK K hG
   refine wpLate_done (by kernel_rfl) ?_ _
   have HY:Hid (DkRow (w4.setCell ⟨bo,0,none⟩ (.slice a4 n c4)) bo (.slice a4 n c4) (.slice p3 m q3) (fuelAfter fuel) false/\OwnB (w4.setCell ⟨bo,0,none⟩ (.slice a4 n c4)) (w.heap.size+2) a4 n (syncTo d S F (k+1))/\n<=c4/\c4<=9223372036854775807/\Below (w.heap.size+2) ((w.alloc (.cells #[.slice a n c,.slice (some ⟨b,o,none⟩) m q,.int .i64 fuel,.bool false] 25)).alloc (.cells #[.slice none 0 0,.slice none 0 0,.int .i64 0,.bool false] 25)) (w4.setCell ⟨bo,0,none⟩ (.slice a4 n c4))):=by
    have hd4:DkRow w4 bo (.slice a' n c') (.slice p3 m q3) (fuelAfter fuel) false:=HRW.out.below (w':=w4) ((Below.refl _ _).drew.trans hb4)
    refine ⟨hd4.setData _,?_,hl4,hm4,(K4.out.drew.trans (hb4.mono hzr)).setCell (by simpa using hbo) _⟩
    rw [HT.out]
    exact (ho4.mono hzr).onlyDk hd4 ((OnlyAt.refl _ _).setCell 0 _)
   clear hb4 ho4 k0 k1 k2 k3 kf kl hHeld HC E3 HRD d0 d1 d2 d3 df x1 e1 e2
   go_wp2
   go_roundw
   case rel=>exact ⟨k+1,a4,c4,by omega,by go_num,HY.out⟩
   case measure=>simp [intOf];omega
  ·have e:k=m:=by omega
   subst e
   obtain ⟨r0,r1,r2,r3,rf,rl⟩:=(box_res K4.out).cells
   have HF:Hid (OwnB wr (w.heap.size+2) a' n (syncTo d S F k)/\Below w.heap.size w wr):=⟨HOW.out,HFIN.out _ K4.out⟩
   go_wp2
   have DR:Hid (DkRow ((set4 (wr.setCell ⟨bo,1,none⟩ (.slice (some ⟨wr.heap.size,0,none⟩) 0 0)) (w.heap.size+1) (.slice a' n c') (.slice (some ⟨wr.heap.size,0,none⟩) 0 0) (fuelAfter fuel) false).alloc (.cells #[] 119)) (w.heap.size+1) (.slice a' n c') (.slice (some ⟨wr.heap.size,0,none⟩) 0 0) (fuelAfter fuel) false):=(dk_set4 ((box_res K4.out).setOther (by simp;omega) _)).below (below_alloc _ _)
   obtain ⟨y0,y1,y2,y3,yf,yl⟩:=DR.out.cells
   unfold set4 at y0 y1 y2 y3
   clear r0 r1 r2 r3 rf d0 d1 d2 d3 df
   refine bodyPost_ret (v:=.agg #[.slice a' n c',.slice (some ⟨wr.heap.size,0,none⟩) 0 0,.int .i64 (fuelAfter fuel),.bool false]) (by simp [results,Tryz.results34,go_sem,y0,y1,y2,y3]) rfl ⟨a',c',some ⟨wr.heap.size,0,none⟩,0,fun _=>none,rfl,⟨?_,Or.inl rfl,fun _ i hi=>absurd hi (Nat.not_lt_zero _)⟩,?_⟩
   ·exact ((((((HOW.out.onlyDk HRW.out ((OnlyAt.refl _ _).setCell 1 _)).setOther (by simp) _).setOther (by simp) _).setOther (by simp) _).setOther (by simp) _).below (below_alloc _ _)).mono (by omega)
   ·exact ((((((HF.out.2.setCell (by simp;omega) _).setCell (by simp) _).setCell (by simp) _).setCell (by simp) _).setCell (by simp) _).alloc (by simpa using HF.out.2.size) _)
end Go.Proofs.YtbmffmifemebmaaGreatDoor
