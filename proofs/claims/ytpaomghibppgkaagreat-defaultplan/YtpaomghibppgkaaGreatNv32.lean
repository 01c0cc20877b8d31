import Derived.Test.YtpaomghibppgkaaGreatNv10
import Derived.Test.YtpaomghibppgkaaGreatNv11
import Derived.Test.YtpaomghibppgkaaGreatNv28
import Derived.Test.YtpaomghibppgkaaGreatNv17
import Derived.Deep.QuietTactic
import Derived.BigQuiet
import Derived.Test.YtpaomghibppgkaaGreatNv21
import Derived.Test.YtpaomghibppgkaaGreatNv22
import Derived.Test.YtpaomghibppgkaaGreatNv23
import Derived.Test.YtpaomghibppgkaaGreatNv24
import Derived.Test.YtpaomghibppgkaaGreatNv25
import Derived.Test.YtpaomghibppgkaaGreatNv26
import Derived.Test.YtpaomghibppgkaaGreatNv7
set_option linter.unusedVariables false
set_option maxRecDepth 100000
namespace Go.Proofs.YtpaomghibppgkaaGreat
open Go.RowKit Go.Deep

theorem Tryz.info122 : (Tryz.prog.info? 122).map (fun i=>(i.zero,i.size,i.bytes))=some (some (.agg #[.int .i64 0,.int .i64 0,.int .i64 0,.int .i64 0]),4,32):=by kernel_rfl

def quadL:List Qd->List Value
 | []=>[]
 | q::L=>.int .i64 q.s::.int .i64 q.p::.int .i64 q.o::.int .i64 q.g::quadL L
theorem quadL_app:∀(L M:List Qd),quadL (L++M)=quadL L++quadL M
 | [],M=>rfl
 | q::L,M=>by
  show _::_::_::_::quadL (L++M)=_
  rw [quadL_app L M]
  rfl
theorem quadL_get:∀(L:List Qd) (i:Nat) (h:i<L.length),(quadL L)[i*4]?=some (.int .i64 L[i].s)/\(quadL L)[i*4+1]?=some (.int .i64 L[i].p)/\(quadL L)[i*4+2]?=some (.int .i64 L[i].o)/\(quadL L)[i*4+3]?=some (.int .i64 L[i].g)
 | [],i,h=>absurd h (Nat.not_lt_zero _)
 | q::L,0,h=>⟨rfl,rfl,rfl,rfl⟩
 | q::L,i+1,h=>by
  have hh:=quadL_get L i (by simpa using h)
  have e:∀t,(quadL (q::L))[(i+1)*4+t]?=(quadL L)[i*4+t]?:=fun t=>by
   rw [show (i+1)*4+t=(i*4+t)+1+1+1+1 by omega]
   rfl
  have e0:=e 0
  rw [Nat.add_zero,Nat.add_zero] at e0
  exact ⟨e0.trans hh.1,(e 1).trans hh.2.1,(e 2).trans hh.2.2.1,(e 3).trans hh.2.2.2⟩
def RdQ (w:World) (a:Option Addr) (L:List Qd):Prop:=
 L.length=0\/∃b,a=some ⟨b,0,none⟩/\∀i (h:i<L.length),w.cell? ⟨b,i*4,none⟩=some (.int .i64 L[i].s)/\w.cell? ⟨b,i*4+1,none⟩=some (.int .i64 L[i].p)/\w.cell? ⟨b,i*4+2,none⟩=some (.int .i64 L[i].o)/\w.cell? ⟨b,i*4+3,none⟩=some (.int .i64 L[i].g)
theorem RdQ.below {w w' : World} {a:Option Addr} {L:List Qd} (h:RdQ w a L) (hb:Below w.heap.size w w'):RdQ w' a L:=by
 rcases h with h|⟨b,rfl,hc⟩
 ·exact Or.inl h
 ·refine Or.inr ⟨b,rfl,fun i hi=>?_⟩
  obtain ⟨h0,h1,h2,h3⟩:=hc i hi
  exact ⟨by rw [hb.cell (World.block_lt_of_cell? _ _ h0)];exact h0,by rw [hb.cell (World.block_lt_of_cell? _ _ h1)];exact h1,by rw [hb.cell (World.block_lt_of_cell? _ _ h2)];exact h2,by rw [hb.cell (World.block_lt_of_cell? _ _ h3)];exact h3⟩
theorem own_rdq {w:World} {B:Nat} {a:Option Addr} {c:Nat} {L:List Qd} (h:w.ownsRow B 122 4 (.slice a L.length c) L.length (quadL L)):RdQ w a L:=by
 obtain ⟨a',c',e,hf⟩:=own_form h
 injection e with e
 subst e
 by_cases h0:L.length=0
 ·exact .inl h0
 ·obtain ⟨g,rfl,_,_,hc⟩:=hf h0
  refine .inr ⟨g,rfl,fun i hi=>?_⟩
  obtain ⟨q0,q1,q2,q3⟩:=quadL_get L i hi
  exact ⟨hc _ _ q0,hc _ _ q1,hc _ _ q2,hc _ _ q3⟩
theorem qd_eq {x y:Qd}:(x.s == y.s && (x.p == y.p && (x.o == y.o && x.g == y.g)))=true↔x=y:=by
 obtain ⟨a,b,c,d⟩:=x
 obtain ⟨a',b',c',d'⟩:=y
 simp

set_option maxHeartbeats 2000000 in
theorem l5Has_any (a:Option Addr) (n c:Nat) (L:List Qd) (q:Qd) (w:World) (h:RdQ w a L) (hn:n=L.length) (hn2:n<=1048576) :
  Calls Tryz.prog 54 #[.slice a n c,qv q] w fun e w'=>∃b:Bool,e=.returned (.bool b)/\(b=true↔q∈L)/\Below w.heap.size w w':=by
 have HR:Hid (RdQ w a L/\n=L.length):=⟨h,hn⟩
 clear h hn
 have hEq:=eqQ
 unfold qv
 go_enter Tryz.func54,Tryz.ntmps54
 go_wp2
 go_loopw [5] (fun i wr=>∃k:Nat,k<=n/\i=.int .i64 k/\(∀j (h:j<L.length),j<k->L[j]≠q)/\Below w.heap.size w wr/\Bx wr w.heap.size 122 #[.int .i64 q.s,.int .i64 q.p,.int .i64 q.o,.int .i64 q.g]) (fun i _=>n-(intOf i).toNat)
 case atStart=>exact ⟨0,Nat.zero_le _,rfl,fun j _ hj=>absurd hj (Nat.not_lt_zero _),below_alloc _ _,Bx.new _ _ _⟩
 case round=>
  obtain ⟨k,hk,rfl,hall,hbel,hbx⟩:=hrel
  have HS:Hid ((∀j (h:j<L.length),j<k->L[j]≠q)/\Below w.heap.size w wr/\Bx wr w.heap.size 122 #[.int .i64 q.s,.int .i64 q.p,.int .i64 q.o,.int .i64 q.g]):=⟨hall,hbel,hbx⟩
  by_cases hlt:k<n
  ·have hkL:k<L.length:=by rw [<- HR.out.2];exact hlt
   rcases HR.out.1.below hbel with h0|⟨b,rfl,hc⟩
   ·omega
   obtain ⟨s0,s1,s2,s3⟩:=hc k hkL
   have z0:=hbx.cell 0
   have z1:=hbx.cell 1
   have z2:=hbx.cell 2
   have z3:=hbx.cell 3
   simp at z0 z1 z2 z3
   have i0:(0:Int)<=(k:Int):=by omega
   have i1:(k:Int)<(n:Int):=by omega
   have HE:=qd_eq (x:=L[k]) (y:=q)
   clear hc hall hbel hbx
   obtain ⟨x,hx⟩:∃x,x=L[k]:=⟨_,rfl⟩
   have HXk:Hid (L[k]=x):=hx.symm
   rw [<- hx] at s0 s1 s2 s3 HE
   clear hx
   by_cases he:x=q
   ·have HY:Hid (L[k]=q):=HXk.out.trans he
    have hE:∀W:World,(Op.equalIn 10000 122 (.agg #[.int .i64 x.s,.int .i64 x.p,.int .i64 x.o,.int .i64 x.g]) (.agg #[.int .i64 q.s,.int .i64 q.p,.int .i64 q.o,.int .i64 q.g])).run Tryz.prog W=.ok true W:=fun W=>by rw [hEq,HE.2 he]
    clear hEq HE he
    go_wp2
    go_quiet (fail)
    go_wp2
    go_ret
    exact ⟨true,rfl,by simp only [true_iff];rw [<- HY.out];exact List.getElem_mem _,below_drewN HS.out.2.1 _⟩
   ·have hE:∀W:World,(Op.equalIn 10000 122 (.agg #[.int .i64 x.s,.int .i64 x.p,.int .i64 x.o,.int .i64 x.g]) (.agg #[.int .i64 q.s,.int .i64 q.p,.int .i64 q.o,.int .i64 q.g])).run Tryz.prog W=.ok false W:=fun W=>by
     have e:(x.s == q.s && (x.p == q.p && (x.o == q.o && x.g == q.g)))=false:=by
      cases hb:(x.s == q.s && (x.p == q.p && (x.o == q.o && x.g == q.g))) with
      | false=>rfl
      | true=>exact absurd (HE.1 hb) he
     rw [hEq,e]
    have HN:Hid (∀j (h:j<L.length),j<k+1->L[j]≠q):=fun j hj hj2=>by
     by_cases e:j=k
     ·subst e
      rw [HXk.out]
      exact he
     ·exact HS.out.1 j hj (by omega)
    clear hEq HE he
    go_wp2
    go_quiet (fail)
    go_wp2
    go_roundw
    case rel=>exact ⟨k+1,by omega,by go_num,HN.out,below_drewN HS.out.2.1 _,HS.out.2.2⟩
    case measure=>simp [intOf];omega
  ·obtain rfl:k=n:=by omega
   have HN:Hid (q∉L):=fun hm=>by
    obtain ⟨j,hj,e⟩:=List.getElem_of_mem hm
    exact HS.out.1 j hj (by rw [HR.out.2];exact hj) e
   clear hall hbel hbx
   go_wp2
   go_ret
   exact ⟨false,rfl,by simp [HN.out],HS.out.2.1⟩


theorem eligAt_0 (a b c d:Int):eligB (fun i=>partOf a b c d (ord0 i))=(freeB a && freeB b && freeB c && freeB d && decide (a=0->b=0/\c=0/\d=0) && decide (b=0->c=0/\d=0) && decide (c=0->d=0)):=by
 rw [Bool.eq_iff_iff,eligB_iff]
 simp only [Bool.and_eq_true,freeB,decide_eq_true_eq]
 constructor
 ·intro h
  have h0:=h 0 (by omega)
  have h1:=h 1 (by omega)
  have h2:=h 2 (by omega)
  have h3:=h 3 (by omega)
  have h10:=h1.2 0 (by omega)
  have h20:=h2.2 0 (by omega)
  have h21:=h2.2 1 (by omega)
  have h30:=h3.2 0 (by omega)
  have h31:=h3.2 1 (by omega)
  have h32:=h3.2 2 (by omega)
  replace h0:=h0.1
  replace h1:=h1.1
  replace h2:=h2.1
  replace h3:=h3.1
  simp [ord0,partOf] at h0 h1 h2 h3 h10 h20 h21 h30 h31 h32
  omega
 ·rintro h q hq
  have hq4:q=0\/q=1\/q=2\/q=3:=by omega
  rcases hq4 with rfl|rfl|rfl|rfl
  all_goals
   refine ⟨by simp [ord0,partOf];omega,fun r hr=>?_⟩
   have hr4:r=0\/r=1\/r=2:=by omega
   rcases hr4 with rfl|rfl|rfl <;> simp [ord0,partOf] at hr ⊢ <;> omega

set_option maxHeartbeats 1000000 in
theorem implElig_0 (a b c d:Int) (w:World) :
  Calls Tryz.prog 109 #[.int .i64 0,.agg #[.int .i64 a,.int .i64 b,.int .i64 c,.int .i64 d]] w fun e w'=>e=.returned (.bool (eligB fun i=>partOf a b c d (ord0 i)))/\Below w.heap.size w w':=by
 cases hp:(freeB a && freeB b && freeB c && freeB d) with
 | false=>
  go_enter Tryz.func109,Tryz.ntmps109
  go_wp2_with (first
   | (go_at_call 130;refine (isPattern_any a b c d _).mono ?_;rintro e w1 ⟨rfl,hb1⟩;rw [hp])
   | fail)
  rw [World.size_alloc] at hb1
  refine bodyPost_ret (v:=.bool false) (by simp [results,Tryz.results109,go_sem]) rfl ⟨?_,(below_alloc _ _).trans (hb1.mono (by omega))⟩
  rw [eligAt_0,hp]
  rfl
 | true=>
  go_enter Tryz.func109,Tryz.ntmps109
  go_wp2_with fail
  refine (isPattern_any a b c d _).mono ?_
  rintro e w1 ⟨rfl,hb1⟩
  rw [hp]
  rw [World.size_alloc] at hb1
  have p0:w1.cell? ⟨w.heap.size,0,none⟩=some (.int .i64 a):=(hb1.cell (p:=⟨w.heap.size,0,none⟩) (by show w.heap.size<w.heap.size+1;omega)).trans (cellOf (blk_alloc_new _ _) 0)
  have p1:w1.cell? ⟨w.heap.size,1,none⟩=some (.int .i64 b):=(hb1.cell (p:=⟨w.heap.size,1,none⟩) (by show w.heap.size<w.heap.size+1;omega)).trans (cellOf (blk_alloc_new _ _) 1)
  have p2:w1.cell? ⟨w.heap.size,2,none⟩=some (.int .i64 c):=(hb1.cell (p:=⟨w.heap.size,2,none⟩) (by show w.heap.size<w.heap.size+1;omega)).trans (cellOf (blk_alloc_new _ _) 2)
  have p3:w1.cell? ⟨w.heap.size,3,none⟩=some (.int .i64 d):=(hb1.cell (p:=⟨w.heap.size,3,none⟩) (by show w.heap.size<w.heap.size+1;omega)).trans (cellOf (blk_alloc_new _ _) 3)
  have HC:Hid (∀wx w2:World,Below wx.heap.size wx w2->(wx.cell? ⟨w.heap.size,0,none⟩=some (.int .i64 a)/\wx.cell? ⟨w.heap.size,1,none⟩=some (.int .i64 b)/\wx.cell? ⟨w.heap.size,2,none⟩=some (.int .i64 c)/\wx.cell? ⟨w.heap.size,3,none⟩=some (.int .i64 d))->w2.cell? ⟨w.heap.size,0,none⟩=some (.int .i64 a)/\w2.cell? ⟨w.heap.size,1,none⟩=some (.int .i64 b)/\w2.cell? ⟨w.heap.size,2,none⟩=some (.int .i64 c)/\w2.cell? ⟨w.heap.size,3,none⟩=some (.int .i64 d)):=fun wx w2 h2 h=>
   ⟨(h2.cell (p:=⟨w.heap.size,0,none⟩) (World.block_lt_of_cell? _ _ h.1)).trans h.1,(h2.cell (p:=⟨w.heap.size,1,none⟩) (World.block_lt_of_cell? _ _ h.2.1)).trans h.2.1,(h2.cell (p:=⟨w.heap.size,2,none⟩) (World.block_lt_of_cell? _ _ h.2.2.1)).trans h.2.2.1,(h2.cell (p:=⟨w.heap.size,3,none⟩) (World.block_lt_of_cell? _ _ h.2.2.2)).trans h.2.2.2⟩
  have HB1:Hid (Below w.heap.size w w1):=(below_alloc _ _).trans (hb1.mono (by omega))
  clear hb1
  have hix:=idx_0
  obtain ⟨l0,l1,l2,l3,e0,e1,e2,e3⟩:∃l0 l1 l2 l3:Int,l0=(a)/\l1=(if a=0 then 0 else b)/\l2=(if a=0\/b=0 then 0 else c)/\l3=(if a=0\/b=0\/c=0 then 0 else d):=⟨_,_,_,_,rfl,rfl,rfl,rfl⟩
  have HL:Hid (∀wz,Calls Tryz.prog 131 #[.func (.func 120) #[] #[],.agg #[.int .i64 a,.int .i64 b,.int .i64 c,.int .i64 d]] wz fun e w'=>e=.returned (.agg #[.int .i64 l0,.int .i64 l1,.int .i64 l2,.int .i64 l3])/\Below wz.heap.size wz w'):=fun wz=>by rw [e0,e1,e2,e3];exact lead_1 a b c d wz
  have HE:Hid (l0=(a)/\l1=(if a=0 then 0 else b)/\l2=(if a=0\/b=0 then 0 else c)/\l3=(if a=0\/b=0\/c=0 then 0 else d)):=⟨e0,e1,e2,e3⟩
  clear e0 e1 e2 e3
  have heq:=eqQ l0 l1 l2 l3 a b c d
  go_wp2
  go_region_held3 (fun w'=>w'.cell? ⟨w.heap.size,0,none⟩=some (.int .i64 a)/\w'.cell? ⟨w.heap.size,1,none⟩=some (.int .i64 b)/\w'.cell? ⟨w.heap.size,2,none⟩=some (.int .i64 c)/\w'.cell? ⟨w.heap.size,3,none⟩=some (.int .i64 d)) (go_keep)
   (first
   | (go_at_call 102;refine (orders_any w1.drew).mono ?_;rintro e w2 ⟨rfl,hb2⟩;obtain ⟨y0,y1,y2,y3⟩:=HC.out _ w2 hb2 ⟨p0,p1,p2,p3⟩)
   | (go_at_call 131;refine (HL.out w2).mono ?_;rintro e w3 ⟨rfl,hb3⟩;obtain ⟨x0,x1,x2,x3⟩:=HC.out _ w3 hb3 ⟨y0,y1,y2,y3⟩))
  have HB3:Hid (Below w.heap.size w w3):=(HB1.out.drew.trans (hb2.mono HB1.out.size)).trans (hb3.mono (Nat.le_trans HB1.out.size hb2.size))
  clear HC hb2 hb3 hix heq
  go_wp2
  go_ret
  refine ⟨?_,HB3.out⟩
  rw [eligAt_0,hp]
  show Ending.returned (Value.bool _)=Ending.returned (Value.bool _)
  congr 2
  rw [Bool.eq_iff_iff]
  obtain ⟨e0,e1,e2,e3⟩:=HE.out
  simp only [Bool.and_eq_true,beq_iff_eq,decide_eq_true_eq,true_and]
  rw [e0,e1,e2,e3]
  by_cases hz0:a=0 <;> by_cases hz1:b=0 <;> by_cases hz2:c=0 <;> simp [hz0,hz1,hz2] <;> omega


theorem eligAt_1 (a b c d:Int):eligB (fun i=>partOf a b c d (ord1 i))=(freeB a && freeB b && freeB c && freeB d && decide (b=0->c=0/\a=0/\d=0) && decide (c=0->a=0/\d=0) && decide (a=0->d=0)):=by
 rw [Bool.eq_iff_iff,eligB_iff]
 simp only [Bool.and_eq_true,freeB,decide_eq_true_eq]
 constructor
 ·intro h
  have h0:=h 0 (by omega)
  have h1:=h 1 (by omega)
  have h2:=h 2 (by omega)
  have h3:=h 3 (by omega)
  have h10:=h1.2 0 (by omega)
  have h20:=h2.2 0 (by omega)
  have h21:=h2.2 1 (by omega)
  have h30:=h3.2 0 (by omega)
  have h31:=h3.2 1 (by omega)
  have h32:=h3.2 2 (by omega)
  replace h0:=h0.1
  replace h1:=h1.1
  replace h2:=h2.1
  replace h3:=h3.1
  simp [ord1,partOf] at h0 h1 h2 h3 h10 h20 h21 h30 h31 h32
  omega
 ·rintro h q hq
  have hq4:q=0\/q=1\/q=2\/q=3:=by omega
  rcases hq4 with rfl|rfl|rfl|rfl
  all_goals
   refine ⟨by simp [ord1,partOf];omega,fun r hr=>?_⟩
   have hr4:r=0\/r=1\/r=2:=by omega
   rcases hr4 with rfl|rfl|rfl <;> simp [ord1,partOf] at hr ⊢ <;> omega

set_option maxHeartbeats 1000000 in
theorem implElig_1 (a b c d:Int) (w:World) :
  Calls Tryz.prog 109 #[.int .i64 1,.agg #[.int .i64 a,.int .i64 b,.int .i64 c,.int .i64 d]] w fun e w'=>e=.returned (.bool (eligB fun i=>partOf a b c d (ord1 i)))/\Below w.heap.size w w':=by
 cases hp:(freeB a && freeB b && freeB c && freeB d) with
 | false=>
  go_enter Tryz.func109,Tryz.ntmps109
  go_wp2_with (first
   | (go_at_call 130;refine (isPattern_any a b c d _).mono ?_;rintro e w1 ⟨rfl,hb1⟩;rw [hp])
   | fail)
  rw [World.size_alloc] at hb1
  refine bodyPost_ret (v:=.bool false) (by simp [results,Tryz.results109,go_sem]) rfl ⟨?_,(below_alloc _ _).trans (hb1.mono (by omega))⟩
  rw [eligAt_1,hp]
  rfl
 | true=>
  go_enter Tryz.func109,Tryz.ntmps109
  go_wp2_with fail
  refine (isPattern_any a b c d _).mono ?_
  rintro e w1 ⟨rfl,hb1⟩
  rw [hp]
  rw [World.size_alloc] at hb1
  have p0:w1.cell? ⟨w.heap.size,0,none⟩=some (.int .i64 a):=(hb1.cell (p:=⟨w.heap.size,0,none⟩) (by show w.heap.size<w.heap.size+1;omega)).trans (cellOf (blk_alloc_new _ _) 0)
  have p1:w1.cell? ⟨w.heap.size,1,none⟩=some (.int .i64 b):=(hb1.cell (p:=⟨w.heap.size,1,none⟩) (by show w.heap.size<w.heap.size+1;omega)).trans (cellOf (blk_alloc_new _ _) 1)
  have p2:w1.cell? ⟨w.heap.size,2,none⟩=some (.int .i64 c):=(hb1.cell (p:=⟨w.heap.size,2,none⟩) (by show w.heap.size<w.heap.size+1;omega)).trans (cellOf (blk_alloc_new _ _) 2)
  have p3:w1.cell? ⟨w.heap.size,3,none⟩=some (.int .i64 d):=(hb1.cell (p:=⟨w.heap.size,3,none⟩) (by show w.heap.size<w.heap.size+1;omega)).trans (cellOf (blk_alloc_new _ _) 3)
  have HC:Hid (∀wx w2:World,Below wx.heap.size wx w2->(wx.cell? ⟨w.heap.size,0,none⟩=some (.int .i64 a)/\wx.cell? ⟨w.heap.size,1,none⟩=some (.int .i64 b)/\wx.cell? ⟨w.heap.size,2,none⟩=some (.int .i64 c)/\wx.cell? ⟨w.heap.size,3,none⟩=some (.int .i64 d))->w2.cell? ⟨w.heap.size,0,none⟩=some (.int .i64 a)/\w2.cell? ⟨w.heap.size,1,none⟩=some (.int .i64 b)/\w2.cell? ⟨w.heap.size,2,none⟩=some (.int .i64 c)/\w2.cell? ⟨w.heap.size,3,none⟩=some (.int .i64 d)):=fun wx w2 h2 h=>
   ⟨(h2.cell (p:=⟨w.heap.size,0,none⟩) (World.block_lt_of_cell? _ _ h.1)).trans h.1,(h2.cell (p:=⟨w.heap.size,1,none⟩) (World.block_lt_of_cell? _ _ h.2.1)).trans h.2.1,(h2.cell (p:=⟨w.heap.size,2,none⟩) (World.block_lt_of_cell? _ _ h.2.2.1)).trans h.2.2.1,(h2.cell (p:=⟨w.heap.size,3,none⟩) (World.block_lt_of_cell? _ _ h.2.2.2)).trans h.2.2.2⟩
  have HB1:Hid (Below w.heap.size w w1):=(below_alloc _ _).trans (hb1.mono (by omega))
  clear hb1
  have hix:=idx_1
  obtain ⟨l0,l1,l2,l3,e0,e1,e2,e3⟩:∃l0 l1 l2 l3:Int,l0=(if b=0\/c=0 then 0 else a)/\l1=(b)/\l2=(if b=0 then 0 else c)/\l3=(if b=0\/c=0\/a=0 then 0 else d):=⟨_,_,_,_,rfl,rfl,rfl,rfl⟩
  have HL:Hid (∀wz,Calls Tryz.prog 131 #[.func (.func 121) #[] #[],.agg #[.int .i64 a,.int .i64 b,.int .i64 c,.int .i64 d]] wz fun e w'=>e=.returned (.agg #[.int .i64 l0,.int .i64 l1,.int .i64 l2,.int .i64 l3])/\Below wz.heap.size wz w'):=fun wz=>by rw [e0,e1,e2,e3];exact lead_2 a b c d wz
  have HE:Hid (l0=(if b=0\/c=0 then 0 else a)/\l1=(b)/\l2=(if b=0 then 0 else c)/\l3=(if b=0\/c=0\/a=0 then 0 else d)):=⟨e0,e1,e2,e3⟩
  clear e0 e1 e2 e3
  have heq:=eqQ l0 l1 l2 l3 a b c d
  go_wp2
  go_region_held3 (fun w'=>w'.cell? ⟨w.heap.size,0,none⟩=some (.int .i64 a)/\w'.cell? ⟨w.heap.size,1,none⟩=some (.int .i64 b)/\w'.cell? ⟨w.heap.size,2,none⟩=some (.int .i64 c)/\w'.cell? ⟨w.heap.size,3,none⟩=some (.int .i64 d)) (go_keep)
   (first
   | (go_at_call 102;refine (orders_any w1.drew).mono ?_;rintro e w2 ⟨rfl,hb2⟩;obtain ⟨y0,y1,y2,y3⟩:=HC.out _ w2 hb2 ⟨p0,p1,p2,p3⟩)
   | (go_at_call 131;refine (HL.out w2).mono ?_;rintro e w3 ⟨rfl,hb3⟩;obtain ⟨x0,x1,x2,x3⟩:=HC.out _ w3 hb3 ⟨y0,y1,y2,y3⟩))
  have HB3:Hid (Below w.heap.size w w3):=(HB1.out.drew.trans (hb2.mono HB1.out.size)).trans (hb3.mono (Nat.le_trans HB1.out.size hb2.size))
  clear HC hb2 hb3 hix heq
  go_wp2
  go_ret
  refine ⟨?_,HB3.out⟩
  rw [eligAt_1,hp]
  show Ending.returned (Value.bool _)=Ending.returned (Value.bool _)
  congr 2
  rw [Bool.eq_iff_iff]
  obtain ⟨e0,e1,e2,e3⟩:=HE.out
  simp only [Bool.and_eq_true,beq_iff_eq,decide_eq_true_eq,true_and]
  rw [e0,e1,e2,e3]
  by_cases hz0:b=0 <;> by_cases hz1:c=0 <;> by_cases hz2:a=0 <;> simp [hz0,hz1,hz2] <;> omega


theorem eligAt_2 (a b c d:Int):eligB (fun i=>partOf a b c d (ord2 i))=(freeB a && freeB b && freeB c && freeB d && decide (c=0->a=0/\b=0/\d=0) && decide (a=0->b=0/\d=0) && decide (b=0->d=0)):=by
 rw [Bool.eq_iff_iff,eligB_iff]
 simp only [Bool.and_eq_true,freeB,decide_eq_true_eq]
 constructor
 ·intro h
  have h0:=h 0 (by omega)
  have h1:=h 1 (by omega)
  have h2:=h 2 (by omega)
  have h3:=h 3 (by omega)
  have h10:=h1.2 0 (by omega)
  have h20:=h2.2 0 (by omega)
  have h21:=h2.2 1 (by omega)
  have h30:=h3.2 0 (by omega)
  have h31:=h3.2 1 (by omega)
  have h32:=h3.2 2 (by omega)
  replace h0:=h0.1
  replace h1:=h1.1
  replace h2:=h2.1
  replace h3:=h3.1
  simp [ord2,partOf] at h0 h1 h2 h3 h10 h20 h21 h30 h31 h32
  omega
 ·rintro h q hq
  have hq4:q=0\/q=1\/q=2\/q=3:=by omega
  rcases hq4 with rfl|rfl|rfl|rfl
  all_goals
   refine ⟨by simp [ord2,partOf];omega,fun r hr=>?_⟩
   have hr4:r=0\/r=1\/r=2:=by omega
   rcases hr4 with rfl|rfl|rfl <;> simp [ord2,partOf] at hr ⊢ <;> omega

set_option maxHeartbeats 1000000 in
theorem implElig_2 (a b c d:Int) (w:World) :
  Calls Tryz.prog 109 #[.int .i64 2,.agg #[.int .i64 a,.int .i64 b,.int .i64 c,.int .i64 d]] w fun e w'=>e=.returned (.bool (eligB fun i=>partOf a b c d (ord2 i)))/\Below w.heap.size w w':=by
 cases hp:(freeB a && freeB b && freeB c && freeB d) with
 | false=>
  go_enter Tryz.func109,Tryz.ntmps109
  go_wp2_with (first
   | (go_at_call 130;refine (isPattern_any a b c d _).mono ?_;rintro e w1 ⟨rfl,hb1⟩;rw [hp])
   | fail)
  rw [World.size_alloc] at hb1
  refine bodyPost_ret (v:=.bool false) (by simp [results,Tryz.results109,go_sem]) rfl ⟨?_,(below_alloc _ _).trans (hb1.mono (by omega))⟩
  rw [eligAt_2,hp]
  rfl
 | true=>
  go_enter Tryz.func109,Tryz.ntmps109
  go_wp2_with fail
  refine (isPattern_any a b c d _).mono ?_
  rintro e w1 ⟨rfl,hb1⟩
  rw [hp]
  rw [World.size_alloc] at hb1
  have p0:w1.cell? ⟨w.heap.size,0,none⟩=some (.int .i64 a):=(hb1.cell (p:=⟨w.heap.size,0,none⟩) (by show w.heap.size<w.heap.size+1;omega)).trans (cellOf (blk_alloc_new _ _) 0)
  have p1:w1.cell? ⟨w.heap.size,1,none⟩=some (.int .i64 b):=(hb1.cell (p:=⟨w.heap.size,1,none⟩) (by show w.heap.size<w.heap.size+1;omega)).trans (cellOf (blk_alloc_new _ _) 1)
  have p2:w1.cell? ⟨w.heap.size,2,none⟩=some (.int .i64 c):=(hb1.cell (p:=⟨w.heap.size,2,none⟩) (by show w.heap.size<w.heap.size+1;omega)).trans (cellOf (blk_alloc_new _ _) 2)
  have p3:w1.cell? ⟨w.heap.size,3,none⟩=some (.int .i64 d):=(hb1.cell (p:=⟨w.heap.size,3,none⟩) (by show w.heap.size<w.heap.size+1;omega)).trans (cellOf (blk_alloc_new _ _) 3)
  have HC:Hid (∀wx w2:World,Below wx.heap.size wx w2->(wx.cell? ⟨w.heap.size,0,none⟩=some (.int .i64 a)/\wx.cell? ⟨w.heap.size,1,none⟩=some (.int .i64 b)/\wx.cell? ⟨w.heap.size,2,none⟩=some (.int .i64 c)/\wx.cell? ⟨w.heap.size,3,none⟩=some (.int .i64 d))->w2.cell? ⟨w.heap.size,0,none⟩=some (.int .i64 a)/\w2.cell? ⟨w.heap.size,1,none⟩=some (.int .i64 b)/\w2.cell? ⟨w.heap.size,2,none⟩=some (.int .i64 c)/\w2.cell? ⟨w.heap.size,3,none⟩=some (.int .i64 d)):=fun wx w2 h2 h=>
   ⟨(h2.cell (p:=⟨w.heap.size,0,none⟩) (World.block_lt_of_cell? _ _ h.1)).trans h.1,(h2.cell (p:=⟨w.heap.size,1,none⟩) (World.block_lt_of_cell? _ _ h.2.1)).trans h.2.1,(h2.cell (p:=⟨w.heap.size,2,none⟩) (World.block_lt_of_cell? _ _ h.2.2.1)).trans h.2.2.1,(h2.cell (p:=⟨w.heap.size,3,none⟩) (World.block_lt_of_cell? _ _ h.2.2.2)).trans h.2.2.2⟩
  have HB1:Hid (Below w.heap.size w w1):=(below_alloc _ _).trans (hb1.mono (by omega))
  clear hb1
  have hix:=idx_2
  obtain ⟨l0,l1,l2,l3,e0,e1,e2,e3⟩:∃l0 l1 l2 l3:Int,l0=(if c=0 then 0 else a)/\l1=(if c=0\/a=0 then 0 else b)/\l2=(c)/\l3=(if c=0\/a=0\/b=0 then 0 else d):=⟨_,_,_,_,rfl,rfl,rfl,rfl⟩
  have HL:Hid (∀wz,Calls Tryz.prog 131 #[.func (.func 122) #[] #[],.agg #[.int .i64 a,.int .i64 b,.int .i64 c,.int .i64 d]] wz fun e w'=>e=.returned (.agg #[.int .i64 l0,.int .i64 l1,.int .i64 l2,.int .i64 l3])/\Below wz.heap.size wz w'):=fun wz=>by rw [e0,e1,e2,e3];exact lead_3 a b c d wz
  have HE:Hid (l0=(if c=0 then 0 else a)/\l1=(if c=0\/a=0 then 0 else b)/\l2=(c)/\l3=(if c=0\/a=0\/b=0 then 0 else d)):=⟨e0,e1,e2,e3⟩
  clear e0 e1 e2 e3
  have heq:=eqQ l0 l1 l2 l3 a b c d
  go_wp2
  go_region_held3 (fun w'=>w'.cell? ⟨w.heap.size,0,none⟩=some (.int .i64 a)/\w'.cell? ⟨w.heap.size,1,none⟩=some (.int .i64 b)/\w'.cell? ⟨w.heap.size,2,none⟩=some (.int .i64 c)/\w'.cell? ⟨w.heap.size,3,none⟩=some (.int .i64 d)) (go_keep)
   (first
   | (go_at_call 102;refine (orders_any w1.drew).mono ?_;rintro e w2 ⟨rfl,hb2⟩;obtain ⟨y0,y1,y2,y3⟩:=HC.out _ w2 hb2 ⟨p0,p1,p2,p3⟩)
   | (go_at_call 131;refine (HL.out w2).mono ?_;rintro e w3 ⟨rfl,hb3⟩;obtain ⟨x0,x1,x2,x3⟩:=HC.out _ w3 hb3 ⟨y0,y1,y2,y3⟩))
  have HB3:Hid (Below w.heap.size w w3):=(HB1.out.drew.trans (hb2.mono HB1.out.size)).trans (hb3.mono (Nat.le_trans HB1.out.size hb2.size))
  clear HC hb2 hb3 hix heq
  go_wp2
  go_ret
  refine ⟨?_,HB3.out⟩
  rw [eligAt_2,hp]
  show Ending.returned (Value.bool _)=Ending.returned (Value.bool _)
  congr 2
  rw [Bool.eq_iff_iff]
  obtain ⟨e0,e1,e2,e3⟩:=HE.out
  simp only [Bool.and_eq_true,beq_iff_eq,decide_eq_true_eq,true_and]
  rw [e0,e1,e2,e3]
  by_cases hz0:c=0 <;> by_cases hz1:a=0 <;> by_cases hz2:b=0 <;> simp [hz0,hz1,hz2] <;> omega


theorem eligAt_3 (a b c d:Int):eligB (fun i=>partOf a b c d (ord3 i))=(freeB a && freeB b && freeB c && freeB d && decide (d=0->a=0/\b=0/\c=0) && decide (a=0->b=0/\c=0) && decide (b=0->c=0)):=by
 rw [Bool.eq_iff_iff,eligB_iff]
 simp only [Bool.and_eq_true,freeB,decide_eq_true_eq]
 constructor
 ·intro h
  have h0:=h 0 (by omega)
  have h1:=h 1 (by omega)
  have h2:=h 2 (by omega)
  have h3:=h 3 (by omega)
  have h10:=h1.2 0 (by omega)
  have h20:=h2.2 0 (by omega)
  have h21:=h2.2 1 (by omega)
  have h30:=h3.2 0 (by omega)
  have h31:=h3.2 1 (by omega)
  have h32:=h3.2 2 (by omega)
  replace h0:=h0.1
  replace h1:=h1.1
  replace h2:=h2.1
  replace h3:=h3.1
  simp [ord3,partOf] at h0 h1 h2 h3 h10 h20 h21 h30 h31 h32
  omega
 ·rintro h q hq
  have hq4:q=0\/q=1\/q=2\/q=3:=by omega
  rcases hq4 with rfl|rfl|rfl|rfl
  all_goals
   refine ⟨by simp [ord3,partOf];omega,fun r hr=>?_⟩
   have hr4:r=0\/r=1\/r=2:=by omega
   rcases hr4 with rfl|rfl|rfl <;> simp [ord3,partOf] at hr ⊢ <;> omega

set_option maxHeartbeats 1000000 in
theorem implElig_3 (a b c d:Int) (w:World) :
  Calls Tryz.prog 109 #[.int .i64 3,.agg #[.int .i64 a,.int .i64 b,.int .i64 c,.int .i64 d]] w fun e w'=>e=.returned (.bool (eligB fun i=>partOf a b c d (ord3 i)))/\Below w.heap.size w w':=by
 cases hp:(freeB a && freeB b && freeB c && freeB d) with
 | false=>
  go_enter Tryz.func109,Tryz.ntmps109
  go_wp2_with (first
   | (go_at_call 130;refine (isPattern_any a b c d _).mono ?_;rintro e w1 ⟨rfl,hb1⟩;rw [hp])
   | fail)
  rw [World.size_alloc] at hb1
  refine bodyPost_ret (v:=.bool false) (by simp [results,Tryz.results109,go_sem]) rfl ⟨?_,(below_alloc _ _).trans (hb1.mono (by omega))⟩
  rw [eligAt_3,hp]
  rfl
 | true=>
  go_enter Tryz.func109,Tryz.ntmps109
  go_wp2_with fail
  refine (isPattern_any a b c d _).mono ?_
  rintro e w1 ⟨rfl,hb1⟩
  rw [hp]
  rw [World.size_alloc] at hb1
  have p0:w1.cell? ⟨w.heap.size,0,none⟩=some (.int .i64 a):=(hb1.cell (p:=⟨w.heap.size,0,none⟩) (by show w.heap.size<w.heap.size+1;omega)).trans (cellOf (blk_alloc_new _ _) 0)
  have p1:w1.cell? ⟨w.heap.size,1,none⟩=some (.int .i64 b):=(hb1.cell (p:=⟨w.heap.size,1,none⟩) (by show w.heap.size<w.heap.size+1;omega)).trans (cellOf (blk_alloc_new _ _) 1)
  have p2:w1.cell? ⟨w.heap.size,2,none⟩=some (.int .i64 c):=(hb1.cell (p:=⟨w.heap.size,2,none⟩) (by show w.heap.size<w.heap.size+1;omega)).trans (cellOf (blk_alloc_new _ _) 2)
  have p3:w1.cell? ⟨w.heap.size,3,none⟩=some (.int .i64 d):=(hb1.cell (p:=⟨w.heap.size,3,none⟩) (by show w.heap.size<w.heap.size+1;omega)).trans (cellOf (blk_alloc_new _ _) 3)
  have HC:Hid (∀wx w2:World,Below wx.heap.size wx w2->(wx.cell? ⟨w.heap.size,0,none⟩=some (.int .i64 a)/\wx.cell? ⟨w.heap.size,1,none⟩=some (.int .i64 b)/\wx.cell? ⟨w.heap.size,2,none⟩=some (.int .i64 c)/\wx.cell? ⟨w.heap.size,3,none⟩=some (.int .i64 d))->w2.cell? ⟨w.heap.size,0,none⟩=some (.int .i64 a)/\w2.cell? ⟨w.heap.size,1,none⟩=some (.int .i64 b)/\w2.cell? ⟨w.heap.size,2,none⟩=some (.int .i64 c)/\w2.cell? ⟨w.heap.size,3,none⟩=some (.int .i64 d)):=fun wx w2 h2 h=>
   ⟨(h2.cell (p:=⟨w.heap.size,0,none⟩) (World.block_lt_of_cell? _ _ h.1)).trans h.1,(h2.cell (p:=⟨w.heap.size,1,none⟩) (World.block_lt_of_cell? _ _ h.2.1)).trans h.2.1,(h2.cell (p:=⟨w.heap.size,2,none⟩) (World.block_lt_of_cell? _ _ h.2.2.1)).trans h.2.2.1,(h2.cell (p:=⟨w.heap.size,3,none⟩) (World.block_lt_of_cell? _ _ h.2.2.2)).trans h.2.2.2⟩
  have HB1:Hid (Below w.heap.size w w1):=(below_alloc _ _).trans (hb1.mono (by omega))
  clear hb1
  have hix:=idx_3
  obtain ⟨l0,l1,l2,l3,e0,e1,e2,e3⟩:∃l0 l1 l2 l3:Int,l0=(if d=0 then 0 else a)/\l1=(if d=0\/a=0 then 0 else b)/\l2=(if d=0\/a=0\/b=0 then 0 else c)/\l3=(d):=⟨_,_,_,_,rfl,rfl,rfl,rfl⟩
  have HL:Hid (∀wz,Calls Tryz.prog 131 #[.func (.func 123) #[] #[],.agg #[.int .i64 a,.int .i64 b,.int .i64 c,.int .i64 d]] wz fun e w'=>e=.returned (.agg #[.int .i64 l0,.int .i64 l1,.int .i64 l2,.int .i64 l3])/\Below wz.heap.size wz w'):=fun wz=>by rw [e0,e1,e2,e3];exact lead_4 a b c d wz
  have HE:Hid (l0=(if d=0 then 0 else a)/\l1=(if d=0\/a=0 then 0 else b)/\l2=(if d=0\/a=0\/b=0 then 0 else c)/\l3=(d)):=⟨e0,e1,e2,e3⟩
  clear e0 e1 e2 e3
  have heq:=eqQ l0 l1 l2 l3 a b c d
  go_wp2
  go_region_held3 (fun w'=>w'.cell? ⟨w.heap.size,0,none⟩=some (.int .i64 a)/\w'.cell? ⟨w.heap.size,1,none⟩=some (.int .i64 b)/\w'.cell? ⟨w.heap.size,2,none⟩=some (.int .i64 c)/\w'.cell? ⟨w.heap.size,3,none⟩=some (.int .i64 d)) (go_keep)
   (first
   | (go_at_call 102;refine (orders_any w1.drew).mono ?_;rintro e w2 ⟨rfl,hb2⟩;obtain ⟨y0,y1,y2,y3⟩:=HC.out _ w2 hb2 ⟨p0,p1,p2,p3⟩)
   | (go_at_call 131;refine (HL.out w2).mono ?_;rintro e w3 ⟨rfl,hb3⟩;obtain ⟨x0,x1,x2,x3⟩:=HC.out _ w3 hb3 ⟨y0,y1,y2,y3⟩))
  have HB3:Hid (Below w.heap.size w w3):=(HB1.out.drew.trans (hb2.mono HB1.out.size)).trans (hb3.mono (Nat.le_trans HB1.out.size hb2.size))
  clear HC hb2 hb3 hix heq
  go_wp2
  go_ret
  refine ⟨?_,HB3.out⟩
  rw [eligAt_3,hp]
  show Ending.returned (Value.bool _)=Ending.returned (Value.bool _)
  congr 2
  rw [Bool.eq_iff_iff]
  obtain ⟨e0,e1,e2,e3⟩:=HE.out
  simp only [Bool.and_eq_true,beq_iff_eq,decide_eq_true_eq,true_and]
  rw [e0,e1,e2,e3]
  by_cases hz0:d=0 <;> by_cases hz1:a=0 <;> by_cases hz2:b=0 <;> simp [hz0,hz1,hz2] <;> omega


theorem eligAt_4 (a b c d:Int):eligB (fun i=>partOf a b c d (ord4 i))=(freeB a && freeB b && freeB c && freeB d && decide (d=0->b=0/\c=0/\a=0) && decide (b=0->c=0/\a=0) && decide (c=0->a=0)):=by
 rw [Bool.eq_iff_iff,eligB_iff]
 simp only [Bool.and_eq_true,freeB,decide_eq_true_eq]
 constructor
 ·intro h
  have h0:=h 0 (by omega)
  have h1:=h 1 (by omega)
  have h2:=h 2 (by omega)
  have h3:=h 3 (by omega)
  have h10:=h1.2 0 (by omega)
  have h20:=h2.2 0 (by omega)
  have h21:=h2.2 1 (by omega)
  have h30:=h3.2 0 (by omega)
  have h31:=h3.2 1 (by omega)
  have h32:=h3.2 2 (by omega)
  replace h0:=h0.1
  replace h1:=h1.1
  replace h2:=h2.1
  replace h3:=h3.1
  simp [ord4,partOf] at h0 h1 h2 h3 h10 h20 h21 h30 h31 h32
  omega
 ·rintro h q hq
  have hq4:q=0\/q=1\/q=2\/q=3:=by omega
  rcases hq4 with rfl|rfl|rfl|rfl
  all_goals
   refine ⟨by simp [ord4,partOf];omega,fun r hr=>?_⟩
   have hr4:r=0\/r=1\/r=2:=by omega
   rcases hr4 with rfl|rfl|rfl <;> simp [ord4,partOf] at hr ⊢ <;> omega

set_option maxHeartbeats 1000000 in
theorem implElig_4 (a b c d:Int) (w:World) :
  Calls Tryz.prog 109 #[.int .i64 4,.agg #[.int .i64 a,.int .i64 b,.int .i64 c,.int .i64 d]] w fun e w'=>e=.returned (.bool (eligB fun i=>partOf a b c d (ord4 i)))/\Below w.heap.size w w':=by
 cases hp:(freeB a && freeB b && freeB c && freeB d) with
 | false=>
  go_enter Tryz.func109,Tryz.ntmps109
  go_wp2_with (first
   | (go_at_call 130;refine (isPattern_any a b c d _).mono ?_;rintro e w1 ⟨rfl,hb1⟩;rw [hp])
   | fail)
  rw [World.size_alloc] at hb1
  refine bodyPost_ret (v:=.bool false) (by simp [results,Tryz.results109,go_sem]) rfl ⟨?_,(below_alloc _ _).trans (hb1.mono (by omega))⟩
  rw [eligAt_4,hp]
  rfl
 | true=>
  go_enter Tryz.func109,Tryz.ntmps109
  go_wp2_with fail
  refine (isPattern_any a b c d _).mono ?_
  rintro e w1 ⟨rfl,hb1⟩
  rw [hp]
  rw [World.size_alloc] at hb1
  have p0:w1.cell? ⟨w.heap.size,0,none⟩=some (.int .i64 a):=(hb1.cell (p:=⟨w.heap.size,0,none⟩) (by show w.heap.size<w.heap.size+1;omega)).trans (cellOf (blk_alloc_new _ _) 0)
  have p1:w1.cell? ⟨w.heap.size,1,none⟩=some (.int .i64 b):=(hb1.cell (p:=⟨w.heap.size,1,none⟩) (by show w.heap.size<w.heap.size+1;omega)).trans (cellOf (blk_alloc_new _ _) 1)
  have p2:w1.cell? ⟨w.heap.size,2,none⟩=some (.int .i64 c):=(hb1.cell (p:=⟨w.heap.size,2,none⟩) (by show w.heap.size<w.heap.size+1;omega)).trans (cellOf (blk_alloc_new _ _) 2)
  have p3:w1.cell? ⟨w.heap.size,3,none⟩=some (.int .i64 d):=(hb1.cell (p:=⟨w.heap.size,3,none⟩) (by show w.heap.size<w.heap.size+1;omega)).trans (cellOf (blk_alloc_new _ _) 3)
  have HC:Hid (∀wx w2:World,Below wx.heap.size wx w2->(wx.cell? ⟨w.heap.size,0,none⟩=some (.int .i64 a)/\wx.cell? ⟨w.heap.size,1,none⟩=some (.int .i64 b)/\wx.cell? ⟨w.heap.size,2,none⟩=some (.int .i64 c)/\wx.cell? ⟨w.heap.size,3,none⟩=some (.int .i64 d))->w2.cell? ⟨w.heap.size,0,none⟩=some (.int .i64 a)/\w2.cell? ⟨w.heap.size,1,none⟩=some (.int .i64 b)/\w2.cell? ⟨w.heap.size,2,none⟩=some (.int .i64 c)/\w2.cell? ⟨w.heap.size,3,none⟩=some (.int .i64 d)):=fun wx w2 h2 h=>
   ⟨(h2.cell (p:=⟨w.heap.size,0,none⟩) (World.block_lt_of_cell? _ _ h.1)).trans h.1,(h2.cell (p:=⟨w.heap.size,1,none⟩) (World.block_lt_of_cell? _ _ h.2.1)).trans h.2.1,(h2.cell (p:=⟨w.heap.size,2,none⟩) (World.block_lt_of_cell? _ _ h.2.2.1)).trans h.2.2.1,(h2.cell (p:=⟨w.heap.size,3,none⟩) (World.block_lt_of_cell? _ _ h.2.2.2)).trans h.2.2.2⟩
  have HB1:Hid (Below w.heap.size w w1):=(below_alloc _ _).trans (hb1.mono (by omega))
  clear hb1
  have hix:=idx_4
  obtain ⟨l0,l1,l2,l3,e0,e1,e2,e3⟩:∃l0 l1 l2 l3:Int,l0=(if d=0\/b=0\/c=0 then 0 else a)/\l1=(if d=0 then 0 else b)/\l2=(if d=0\/b=0 then 0 else c)/\l3=(d):=⟨_,_,_,_,rfl,rfl,rfl,rfl⟩
  have HL:Hid (∀wz,Calls Tryz.prog 131 #[.func (.func 124) #[] #[],.agg #[.int .i64 a,.int .i64 b,.int .i64 c,.int .i64 d]] wz fun e w'=>e=.returned (.agg #[.int .i64 l0,.int .i64 l1,.int .i64 l2,.int .i64 l3])/\Below wz.heap.size wz w'):=fun wz=>by rw [e0,e1,e2,e3];exact lead_5 a b c d wz
  have HE:Hid (l0=(if d=0\/b=0\/c=0 then 0 else a)/\l1=(if d=0 then 0 else b)/\l2=(if d=0\/b=0 then 0 else c)/\l3=(d)):=⟨e0,e1,e2,e3⟩
  clear e0 e1 e2 e3
  have heq:=eqQ l0 l1 l2 l3 a b c d
  go_wp2
  go_region_held3 (fun w'=>w'.cell? ⟨w.heap.size,0,none⟩=some (.int .i64 a)/\w'.cell? ⟨w.heap.size,1,none⟩=some (.int .i64 b)/\w'.cell? ⟨w.heap.size,2,none⟩=some (.int .i64 c)/\w'.cell? ⟨w.heap.size,3,none⟩=some (.int .i64 d)) (go_keep)
   (first
   | (go_at_call 102;refine (orders_any w1.drew).mono ?_;rintro e w2 ⟨rfl,hb2⟩;obtain ⟨y0,y1,y2,y3⟩:=HC.out _ w2 hb2 ⟨p0,p1,p2,p3⟩)
   | (go_at_call 131;refine (HL.out w2).mono ?_;rintro e w3 ⟨rfl,hb3⟩;obtain ⟨x0,x1,x2,x3⟩:=HC.out _ w3 hb3 ⟨y0,y1,y2,y3⟩))
  have HB3:Hid (Below w.heap.size w w3):=(HB1.out.drew.trans (hb2.mono HB1.out.size)).trans (hb3.mono (Nat.le_trans HB1.out.size hb2.size))
  clear HC hb2 hb3 hix heq
  go_wp2
  go_ret
  refine ⟨?_,HB3.out⟩
  rw [eligAt_4,hp]
  show Ending.returned (Value.bool _)=Ending.returned (Value.bool _)
  congr 2
  rw [Bool.eq_iff_iff]
  obtain ⟨e0,e1,e2,e3⟩:=HE.out
  simp only [Bool.and_eq_true,beq_iff_eq,decide_eq_true_eq,true_and]
  rw [e0,e1,e2,e3]
  by_cases hz0:d=0 <;> by_cases hz1:b=0 <;> by_cases hz2:c=0 <;> simp [hz0,hz1,hz2] <;> omega


theorem eligAt_5 (a b c d:Int):eligB (fun i=>partOf a b c d (ord5 i))=(freeB a && freeB b && freeB c && freeB d && decide (d=0->c=0/\a=0/\b=0) && decide (c=0->a=0/\b=0) && decide (a=0->b=0)):=by
 rw [Bool.eq_iff_iff,eligB_iff]
 simp only [Bool.and_eq_true,freeB,decide_eq_true_eq]
 constructor
 ·intro h
  have h0:=h 0 (by omega)
  have h1:=h 1 (by omega)
  have h2:=h 2 (by omega)
  have h3:=h 3 (by omega)
  have h10:=h1.2 0 (by omega)
  have h20:=h2.2 0 (by omega)
  have h21:=h2.2 1 (by omega)
  have h30:=h3.2 0 (by omega)
  have h31:=h3.2 1 (by omega)
  have h32:=h3.2 2 (by omega)
  replace h0:=h0.1
  replace h1:=h1.1
  replace h2:=h2.1
  replace h3:=h3.1
  simp [ord5,partOf] at h0 h1 h2 h3 h10 h20 h21 h30 h31 h32
  omega
 ·rintro h q hq
  have hq4:q=0\/q=1\/q=2\/q=3:=by omega
  rcases hq4 with rfl|rfl|rfl|rfl
  all_goals
   refine ⟨by simp [ord5,partOf];omega,fun r hr=>?_⟩
   have hr4:r=0\/r=1\/r=2:=by omega
   rcases hr4 with rfl|rfl|rfl <;> simp [ord5,partOf] at hr ⊢ <;> omega

set_option maxHeartbeats 1000000 in
theorem implElig_5 (a b c d:Int) (w:World) :
  Calls Tryz.prog 109 #[.int .i64 5,.agg #[.int .i64 a,.int .i64 b,.int .i64 c,.int .i64 d]] w fun e w'=>e=.returned (.bool (eligB fun i=>partOf a b c d (ord5 i)))/\Below w.heap.size w w':=by
 cases hp:(freeB a && freeB b && freeB c && freeB d) with
 | false=>
  go_enter Tryz.func109,Tryz.ntmps109
  go_wp2_with (first
   | (go_at_call 130;refine (isPattern_any a b c d _).mono ?_;rintro e w1 ⟨rfl,hb1⟩;rw [hp])
   | fail)
  rw [World.size_alloc] at hb1
  refine bodyPost_ret (v:=.bool false) (by simp [results,Tryz.results109,go_sem]) rfl ⟨?_,(below_alloc _ _).trans (hb1.mono (by omega))⟩
  rw [eligAt_5,hp]
  rfl
 | true=>
  go_enter Tryz.func109,Tryz.ntmps109
  go_wp2_with fail
  refine (isPattern_any a b c d _).mono ?_
  rintro e w1 ⟨rfl,hb1⟩
  rw [hp]
  rw [World.size_alloc] at hb1
  have p0:w1.cell? ⟨w.heap.size,0,none⟩=some (.int .i64 a):=(hb1.cell (p:=⟨w.heap.size,0,none⟩) (by show w.heap.size<w.heap.size+1;omega)).trans (cellOf (blk_alloc_new _ _) 0)
  have p1:w1.cell? ⟨w.heap.size,1,none⟩=some (.int .i64 b):=(hb1.cell (p:=⟨w.heap.size,1,none⟩) (by show w.heap.size<w.heap.size+1;omega)).trans (cellOf (blk_alloc_new _ _) 1)
  have p2:w1.cell? ⟨w.heap.size,2,none⟩=some (.int .i64 c):=(hb1.cell (p:=⟨w.heap.size,2,none⟩) (by show w.heap.size<w.heap.size+1;omega)).trans (cellOf (blk_alloc_new _ _) 2)
  have p3:w1.cell? ⟨w.heap.size,3,none⟩=some (.int .i64 d):=(hb1.cell (p:=⟨w.heap.size,3,none⟩) (by show w.heap.size<w.heap.size+1;omega)).trans (cellOf (blk_alloc_new _ _) 3)
  have HC:Hid (∀wx w2:World,Below wx.heap.size wx w2->(wx.cell? ⟨w.heap.size,0,none⟩=some (.int .i64 a)/\wx.cell? ⟨w.heap.size,1,none⟩=some (.int .i64 b)/\wx.cell? ⟨w.heap.size,2,none⟩=some (.int .i64 c)/\wx.cell? ⟨w.heap.size,3,none⟩=some (.int .i64 d))->w2.cell? ⟨w.heap.size,0,none⟩=some (.int .i64 a)/\w2.cell? ⟨w.heap.size,1,none⟩=some (.int .i64 b)/\w2.cell? ⟨w.heap.size,2,none⟩=some (.int .i64 c)/\w2.cell? ⟨w.heap.size,3,none⟩=some (.int .i64 d)):=fun wx w2 h2 h=>
   ⟨(h2.cell (p:=⟨w.heap.size,0,none⟩) (World.block_lt_of_cell? _ _ h.1)).trans h.1,(h2.cell (p:=⟨w.heap.size,1,none⟩) (World.block_lt_of_cell? _ _ h.2.1)).trans h.2.1,(h2.cell (p:=⟨w.heap.size,2,none⟩) (World.block_lt_of_cell? _ _ h.2.2.1)).trans h.2.2.1,(h2.cell (p:=⟨w.heap.size,3,none⟩) (World.block_lt_of_cell? _ _ h.2.2.2)).trans h.2.2.2⟩
  have HB1:Hid (Below w.heap.size w w1):=(below_alloc _ _).trans (hb1.mono (by omega))
  clear hb1
  have hix:=idx_5
  obtain ⟨l0,l1,l2,l3,e0,e1,e2,e3⟩:∃l0 l1 l2 l3:Int,l0=(if d=0\/c=0 then 0 else a)/\l1=(if d=0\/c=0\/a=0 then 0 else b)/\l2=(if d=0 then 0 else c)/\l3=(d):=⟨_,_,_,_,rfl,rfl,rfl,rfl⟩
  have HL:Hid (∀wz,Calls Tryz.prog 131 #[.func (.func 125) #[] #[],.agg #[.int .i64 a,.int .i64 b,.int .i64 c,.int .i64 d]] wz fun e w'=>e=.returned (.agg #[.int .i64 l0,.int .i64 l1,.int .i64 l2,.int .i64 l3])/\Below wz.heap.size wz w'):=fun wz=>by rw [e0,e1,e2,e3];exact lead_6 a b c d wz
  have HE:Hid (l0=(if d=0\/c=0 then 0 else a)/\l1=(if d=0\/c=0\/a=0 then 0 else b)/\l2=(if d=0 then 0 else c)/\l3=(d)):=⟨e0,e1,e2,e3⟩
  clear e0 e1 e2 e3
  have heq:=eqQ l0 l1 l2 l3 a b c d
  go_wp2
  go_region_held3 (fun w'=>w'.cell? ⟨w.heap.size,0,none⟩=some (.int .i64 a)/\w'.cell? ⟨w.heap.size,1,none⟩=some (.int .i64 b)/\w'.cell? ⟨w.heap.size,2,none⟩=some (.int .i64 c)/\w'.cell? ⟨w.heap.size,3,none⟩=some (.int .i64 d)) (go_keep)
   (first
   | (go_at_call 102;refine (orders_any w1.drew).mono ?_;rintro e w2 ⟨rfl,hb2⟩;obtain ⟨y0,y1,y2,y3⟩:=HC.out _ w2 hb2 ⟨p0,p1,p2,p3⟩)
   | (go_at_call 131;refine (HL.out w2).mono ?_;rintro e w3 ⟨rfl,hb3⟩;obtain ⟨x0,x1,x2,x3⟩:=HC.out _ w3 hb3 ⟨y0,y1,y2,y3⟩))
  have HB3:Hid (Below w.heap.size w w3):=(HB1.out.drew.trans (hb2.mono HB1.out.size)).trans (hb3.mono (Nat.le_trans HB1.out.size hb2.size))
  clear HC hb2 hb3 hix heq
  go_wp2
  go_ret
  refine ⟨?_,HB3.out⟩
  rw [eligAt_5,hp]
  show Ending.returned (Value.bool _)=Ending.returned (Value.bool _)
  congr 2
  rw [Bool.eq_iff_iff]
  obtain ⟨e0,e1,e2,e3⟩:=HE.out
  simp only [Bool.and_eq_true,beq_iff_eq,decide_eq_true_eq,true_and]
  rw [e0,e1,e2,e3]
  by_cases hz0:d=0 <;> by_cases hz1:c=0 <;> by_cases hz2:a=0 <;> simp [hz0,hz1,hz2] <;> omega

theorem ordLt_0 (i:Nat) (hi:i<4):ord0 i<4:=by
 have h4:i=0\/i=1\/i=2\/i=3:=by omega
 rcases h4 with rfl|rfl|rfl|rfl <;> decide
theorem ordLt_1 (i:Nat) (hi:i<4):ord1 i<4:=by
 have h4:i=0\/i=1\/i=2\/i=3:=by omega
 rcases h4 with rfl|rfl|rfl|rfl <;> decide
theorem ordLt_2 (i:Nat) (hi:i<4):ord2 i<4:=by
 have h4:i=0\/i=1\/i=2\/i=3:=by omega
 rcases h4 with rfl|rfl|rfl|rfl <;> decide
theorem ordLt_3 (i:Nat) (hi:i<4):ord3 i<4:=by
 have h4:i=0\/i=1\/i=2\/i=3:=by omega
 rcases h4 with rfl|rfl|rfl|rfl <;> decide
theorem ordLt_4 (i:Nat) (hi:i<4):ord4 i<4:=by
 have h4:i=0\/i=1\/i=2\/i=3:=by omega
 rcases h4 with rfl|rfl|rfl|rfl <;> decide
theorem ordLt_5 (i:Nat) (hi:i<4):ord5 i<4:=by
 have h4:i=0\/i=1\/i=2\/i=3:=by omega
 rcases h4 with rfl|rfl|rfl|rfl <;> decide


def ptO (j:Nat) (p:Qd) (i:Nat):Int:=partOf p.s p.p p.o p.g (ordF j i)
theorem okTo_congr {x y:Nat->Int} (h:∀i,i<4->x i=y i) (hx:okTo x 4):okTo y 4:=by
 intro q hq
 obtain ⟨h1,h2⟩:=hx q hq
 rw [h q hq] at h1 h2
 exact ⟨h1,fun r hr e=>h2 r hr (by rw [h r (by omega)];exact e)⟩
theorem four {P:Nat->Prop} (h0:P 0) (h1:P 1) (h2:P 2) (h3:P 3):∀i,i<4->P i:=fun i hi=>by
 rcases (show i=0\/i=1\/i=2\/i=3 by omega) with rfl|rfl|rfl|rfl <;> assumption
end Go.Proofs.YtpaomghibppgkaaGreat
