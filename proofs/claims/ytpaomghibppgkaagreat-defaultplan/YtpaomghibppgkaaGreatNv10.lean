import Derived.Test.YtpaomghibppgkaaGreatNv8
import Derived.Test.YtpaomghibppgkaaGreatNv7
import Derived.Test.YtpaomghibppgkaaGreatNv1
import Derived.Test.YtpaomghibppgkaaGreatNv6
set_option linter.unusedVariables false
set_option maxRecDepth 100000
namespace Go.Proofs.YtpaomghibppgkaaGreat
open Go.RowKit Go.Deep

theorem KidsOf.len {A:Nat->Nat} {b o c n j r:Nat} {ks:List Value} (h:KidsOf A b o c n j r ks):ks.length=j:=by
 rcases h with ⟨rfl,_,rfl⟩|⟨rfl,_,rfl⟩|⟨rfl,_,s,_,_,rfl⟩ <;> rfl
theorem KidsOf.one {A:Nat->Nat} {b o c n j r:Nat} {ks:List Value} (h:KidsOf A b o c n j r ks):∀u∈ks,u.oneCell'=true:=by
 rcases h with ⟨rfl,_,rfl⟩|⟨rfl,_,rfl⟩|⟨rfl,_,s,_,_,rfl⟩
 ·intro u hu
  simp at hu
 ·intro u hu
  simp at hu
  subst hu
  rfl
 ·intro u hu
  simp at hu
  rcases hu with rfl|rfl
  ·rfl
  ·rfl
theorem kidsAt_ofRow {w:World} {B k:Nat} {e:TypeId} {v:Value} {ks:List Value} (h:w.ownsRow B e 1 v k ks) (hk:k=ks.length) (h0:0<k):KidsAt w v ks:=by
 rcases h.2 with ⟨_,hk0⟩|⟨g,cap,cur,hv,hg,hh,h1,h2,h3,h4⟩
 ·omega
 ·subst hk
  subst hv
  refine ⟨g,cap,rfl,fun i x hx=>?_⟩
  have hi:i<ks.length:=(List.getElem?_eq_some_iff.1 hx).1
  rw [h.cellAt i (by omega),hx]

theorem owns_geN {w:World} {B k:Nat} {e:TypeId} {z:Nat} {v:Value} {xs:List Value} (h:w.ownsRow B e z v k xs):∀g,v.ownBlock=some g->B<=g:=by
 intro g eg
 rcases h.2 with ⟨hv,_⟩|⟨g2,cap,cur,hv,hB,_⟩
 ·rw [hv] at eg;simp [Value.ownBlock] at eg
 ·rw [hv] at eg
  simp [Value.ownBlock] at eg
  omega
theorem owns_shapeN {w:World} {B:Nat} {e:TypeId} {size:Nat} {v:Value} {n:Nat} {xs:List Value} (h:w.ownsRow B e size v n xs):∃p q,v=.slice p n q:=by
 rcases h.2 with ⟨hv,hn⟩|⟨g,cap,cur,hv,_⟩
 ·subst hn;exact ⟨none,0,hv⟩
 ·exact ⟨_,cap,hv⟩

theorem kids_next {A:Nat->Nat} {b o c m q j r:Nat} {ks:List Value} (HM:(q=0/\m+1=1)\/(q=1/\Begins A m 0)\/(q=2/\∃s,0<s/\Begins A m s/\Begins A s 0)) (h:KidsOf A b o c (m+1) j r ks) (hj:j<q) :
  ∃s,Begins A r s/\r<=m/\KidsOf A b o c (m+1) (j+1) s (.slice (some ⟨b,o+s*3,none⟩) (r-s) (c-s)::ks):=by
 rcases h with ⟨rfl,hr,rfl⟩|⟨rfl,hr,rfl⟩|⟨rfl,_,s,_,_,rfl⟩
 ·rw [Nat.add_sub_cancel] at hr
  subst hr
  rcases HM with ⟨h1,_⟩|⟨_,h2⟩|⟨_,s,_,h2,_⟩
  ·omega
  ·exact ⟨0,h2,Nat.le_refl _,Or.inr (Or.inl ⟨rfl,by rw [Nat.add_sub_cancel];exact h2,by rw [Nat.add_sub_cancel]⟩)⟩
  ·exact ⟨s,h2,Nat.le_refl _,Or.inr (Or.inl ⟨rfl,by rw [Nat.add_sub_cancel];exact h2,by rw [Nat.add_sub_cancel]⟩)⟩
 ·rw [Nat.add_sub_cancel] at hr
  rcases HM with ⟨h1,_⟩|⟨h1,_⟩|⟨_,s,_,h2,h3⟩
  ·omega
  ·omega
  ·have e:=h2.uniq hr
   subst e
   refine ⟨0,h3,by have:=hr.1;omega,Or.inr (Or.inr ⟨rfl,rfl,s,by rw [Nat.add_sub_cancel];exact h2,h3,?_⟩)⟩
   simp
 ·rcases HM with ⟨h1,_⟩|⟨h1,_⟩|⟨h1,_⟩ <;> omega

def KidsRet (A:Nat->Nat) (b o c m q:Nat) (w:World) (e:Ending) (w' : World):Prop:=
 ∃v r ks,e=.returned v/\KidsOf A b o c (m+1) q r ks/\KidsAt w' v ks/\Below w.heap.size w w'

set_option maxHeartbeats 2000000 in
theorem l6Kids_any (b o m c:Nat) (I:Nat->Int) (X R:Nat->ByteArray) (w:World) (h:RdN w (some ⟨b,o,none⟩) (m+1) I X R) (hn:m<=1048576) (hc:m+1<=c) (hcm:c<=9223372036854775807) (ht:Begins (fun i=>arOf (I i)) (m+1) 0) :
  Calls Tryz.prog 56 #[.slice (some ⟨b,o,none⟩) (m+1) c] w (KidsRet (fun i=>arOf (I i)) b o c m (arOf (I m)) w):=by
 obtain ⟨A,hA⟩:∃A:Nat->Nat,A=fun i=>arOf (I i):=⟨_,rfl⟩
 obtain ⟨q,hq⟩:∃q,q=arOf (I m):=⟨_,rfl⟩
 rw [<- hA] at ht
 rw [<- hA,<- hq]
 have HM:=kids_math (by omega) ht (by rw [hA];exact arOf_le _)
 rw [Nat.add_sub_cancel,show A m=q by rw [hA,hq]] at HM
 have HMM:Hid ((q=0/\m+1=1)\/(q=1/\Begins A m 0)\/(q=2/\∃s,0<s/\Begins A m s/\Begins A s 0)):=HM
 have HA:Hid (A=fun i=>arOf (I i)):=hA
 have HQ:Hid (q=arOf (I m)):=hq
 have HR:Hid (RdN w (some ⟨b,o,none⟩) (m+1) I X R):=h
 have hq2:q<=2:=by rw [hq];exact arOf_le _
 have hcell:w.cell? ⟨b,o+m*3,none⟩=some (.int .i64 (I m)):=by
  rcases h with h|⟨b',o',e,hcc⟩
  ·omega
  ·injection e with e
   injection e with e1 e2
   subst e1 e2
   exact (hcc m (by omega)).1
 have hcell2:∀O,(w.alloc O).cell? ⟨b,o+m*3,none⟩=some (.int .i64 (I m)):=fun O=>((below_alloc w O).cell (p:=⟨b,o+m*3,none⟩) (World.block_lt_of_cell? _ _ hcell)).trans hcell
 have e1:IntKind.i64.wrap (((m+1:Nat):Int)-1)=(m:Int):=by rw [IntKind.wrap_i64];omega
 have e1' : IntKind.i64.wrap ((m:Int)+1-1)=(m:Int):=by rw [IntKind.wrap_i64];omega
 have em:IntKind.i64.wrap (m:Int)=(m:Int):=by rw [IntKind.wrap_i64];omega
 have im:(m:Int)<((m+1:Nat):Int):=by omega
 have im' : (m:Int)<(m:Int)+1:=by omega
 have im0:(0:Int)<=(m:Int):=by omega
 have hsl:∀w:World,(Instr.sliceAt 36 (.slice (some ⟨b,o,none⟩) (m+1) c) none (some (.int .i64 (m:Int))) none).run Tryz.prog w=.ok (.slice (some ⟨b,o,none⟩) m c) w:=runToN b o (m+1) c m (by omega)
 clear h hA hq ht HM
 go_enter Tryz.func56,Tryz.ntmps56
 go_wp2_with fail
 refine (l6Arity_any (I m) _).mono ?_
 rintro e w1 ⟨rfl,hw1⟩
 subst hw1
 rw [<- HQ.out]
 clear hcell hcell2
 go_wp2
 go_loopw [3,4,5,6] (fun rest out k _ wr=>∃(j r:Nat) (ks:List Value),j<=q/\k=.int .i64 ((q-j:Nat):Int)/\rest=.slice (some ⟨b,o,none⟩) r c/\KidsOf A b o c (m+1) j r ks/\KidsAt wr out ks/\Below w.heap.size w wr) (fun _ _ k _ _=>(intOf k).toNat)
 case atStart=>
  refine ⟨0,m,[],Nat.zero_le _,by simp,rfl,Or.inl ⟨rfl,by omega,rfl⟩,⟨_,0,rfl,fun i x hx=>by simp at hx⟩,below_alloc _ _⟩
 case round=>
  obtain ⟨j,r,ks,hj,rfl,rfl,hko,hka,hb⟩:=hrel
  obtain ⟨go,cpo,rfl,hks⟩:=hka
  have HKO:Hid (KidsOf A b o c (m+1) j r ks):=hko
  have HKS:Hid (∀i x,ks[i]?=some x->wr.cell? ⟨go,i,none⟩=some x):=hks
  have HB:Hid (Below w.heap.size w wr):=hb
  have hz:=hb.size
  have HLEN:Hid (ks.length=j):=hko.len
  clear hko hks hb
  by_cases hlt:j<q
  ·obtain ⟨s,hs,hrm,hnext⟩:=kids_next HMM.out HKO.out hlt
   have HS:Hid (Begins A r s/\KidsOf A b o c (m+1) (j+1) s (.slice (some ⟨b,o+s*3,none⟩) (r-s) (c-s)::ks)):=⟨hs,hnext⟩
   have hsr:s<r:=hs.1
   have hgt:(0:Int)<((q-j:Nat):Int):=by omega
   have hgt' : decide ((0:Int)<((q-j:Nat):Int))=true:=decide_eq_true hgt
   clear hs hnext
   go_wp2_with fail
   refine (l6From_any (some ⟨b,o,none⟩) r c I X R wr ((HR.out.below HB.out).take (by omega)) (by omega)).mono ?_
   rintro e w2 ⟨hw2,hfr⟩
   subst hw2
   rw [<- HA.out] at hfr
   have he:e=.returned (.int .i64 (s:Int)):=by
    rcases hfr with ⟨s',h1,h2⟩|⟨h1,_⟩
    ·rw [h1.uniq HS.out.1] at h2;exact h2
    ·exact absurd ⟨s,HS.out.1⟩ h1
   subst he
   clear hfr
   have hslA:∀w:World,(Instr.sliceAt 36 (.slice (some ⟨b,o,none⟩) r c) (some (.int .i64 (s:Int))) none none).run Tryz.prog w=.ok (.slice (some ⟨b,o+s*3,none⟩) (r-s) (c-s)) w:=runFromN b o r c s (by omega) (by omega) (by omega)
   have hslB:∀w:World,(Instr.sliceAt 36 (.slice (some ⟨b,o,none⟩) r c) none (some (.int .i64 (s:Int))) none).run Tryz.prog w=.ok (.slice (some ⟨b,o,none⟩) s c) w:=runToN b o r c s (by omega)
   have ek:IntKind.i64.wrap (((q-j:Nat):Int)-1)=((q-(j+1):Nat):Int):=by rw [IntKind.wrap_i64];omega
   have HO:Hid ((w2.alloc (.cells #[.slice (some ⟨b,o+s*3,none⟩) (r-s) (c-s)] 36)).ownsRow w2.heap.size 36 1 (.slice (some ⟨w2.heap.size,0,none⟩) 1 1) 1 [.slice (some ⟨b,o+s*3,none⟩) (r-s) (c-s)]):=World.ownsRow_lit w2 (e:=36) (size:=1) #[.slice (some ⟨b,o+s*3,none⟩) (r-s) (c-s)] 1 (Nat.le_refl _) (by unfold maxLen;omega) rfl
   have HN:Hid (∀i x,ks[i]?=some x->(w2.alloc (.cells #[.slice (some ⟨b,o+s*3,none⟩) (r-s) (c-s)] 36)).cell? ((⟨go,0,none⟩:Addr).add i)=some x):=by
    intro i x hx
    have h1:=HKS.out i x hx
    rw [addN3,Nat.zero_add]
    exact ((below_alloc w2 _).cell (p:=⟨go,i,none⟩) (World.block_lt_of_cell? _ _ h1)).trans h1
   have hz9:w2.heap.size<=(w2.alloc (.cells #[.slice (some ⟨b,o+s*3,none⟩) (r-s) (c-s)] 36)).heap.size:=by simp
   obtain ⟨i0,hi,hz0,hz1,hz2⟩:=info_parts infoPns
   have hj2:ks.length<=2:=by have:=HLEN.out;omega
   go_wp2_with (at_builtin;refine wpList_append_own _ rfl _ _ 126 rfl w2.heap.size 36 i0 (.slice none 0 0) 1 24 underPss hi hz0 hz1 hz2 rfl (by decide) _ 1 _ rfl HO.out ⟨go,0,none⟩ ks.length cpo ks rfl (by omega) HN.out HKO.out.one (by unfold maxLen;omega) (by omega) hz9 ?_)
   intro v' w3 hown3 hgr3 _
   have HX:Hid (KidsAt w3 v' (.slice (some ⟨b,o+s*3,none⟩) (r-s) (c-s)::ks)/\Below w.heap.size w w3):=by
    refine ⟨kidsAt_ofRow hown3 (by simp;omega) (by omega),?_⟩
    have hb2:Below w2.heap.size w2 w3:=Below.grown (below_alloc w2 (.cells #[.slice (some ⟨b,o+s*3,none⟩) (r-s) (c-s)] 36)) hgr3 hz9 (owns_geN HO.out)
    exact HB.out.trans (hb2.mono hz)
   obtain ⟨pv,qv,hvv⟩:=owns_shapeN hown3
   subst hvv
   clear hown3 hgr3 HO HN
   go_wp2
   go_roundw
   case rel=>exact ⟨j+1,s,_,by omega,rfl,rfl,HS.out.2,HX.out.1,HX.out.2⟩
   case measure=>simp [intOf];omega
  ·have e:j=q:=by omega
   subst e
   have hgt:¬ (0:Int)<((j-j:Nat):Int):=by omega
   go_wp2
   go_ret
   exact ⟨_,r,ks,rfl,HKO.out,⟨go,cpo,rfl,HKS.out⟩,HB.out⟩

def bgGo (A:Nat->Nat) (e:Nat):Nat->Nat
 | 0=>0
 | j+1=>if need A e j=0 then j else bgGo A e j
def bgF (A:Nat->Nat) (e:Nat):Nat:=bgGo A e e
theorem bgGo_of {A:Nat->Nat} {e s:Nat} (h:Begins A e s):∀j,s<j->j<=e->bgGo A e j=s
 | 0,h0,_=>absurd h0 (Nat.not_lt_zero _)
 | j+1,h0,h1=>by
  unfold bgGo
  by_cases e1:j=s
  ·subst e1;rw [if_pos h.2.1]
  ·have:=h.2.2 j (by omega) (by omega)
   rw [if_neg (by omega)]
   exact bgGo_of h j (by omega) (by omega)
theorem bgF_of {A:Nat->Nat} {e s:Nat} (h:Begins A e s):bgF A e=s:=bgGo_of h e h.1 (Nat.le_refl _)

theorem dep_shift (A:Nat->Nat) (s:Nat):∀j,dep (fun i=>A (s+i)) j=dep A (s+j)-dep A s
 | 0=>by show (0:Int)=dep A s-dep A s;omega
 | j+1=>by
  rw [dep_succ,dep_shift A s j,show s+(j+1)=(s+j)+1 by omega,dep_succ]
  omega
theorem Begins.shift {A:Nat->Nat} {e s:Nat} (h:Begins A e s):Begins (fun i=>A (s+i)) (e-s) 0:=by
 obtain ⟨h1,h2,h3⟩:=h
 unfold need at h2 h3
 have hse:s+(e-s)=e:=by omega
 refine ⟨by omega,?_,fun j h4 h5=>?_⟩
 ·unfold need
  rw [dep_shift,dep_shift,hse,Nat.add_zero]
  omega
 ·unfold need
  rw [dep_shift,dep_shift,hse]
  have:=h3 (s+j) (by omega) (by omega)
  omega

def htF:Nat->(Nat->Nat)->Nat->Nat
 | 0,_,_=>0
 | f+1,A,n=>if A (n-1)=0 then 1 else if A (n-1)=1 then 1+htF f A (n-1) else 1+max (htF f A (bgF A (n-1))) (htF f (fun i=>A (bgF A (n-1)+i)) (n-1-bgF A (n-1)))

theorem htF_le:∀f A n,htF f A n<=f
 | 0,_,_=>Nat.le_refl _
 | f+1,A,n=>by
  unfold htF
  have h1:=htF_le f A (n-1)
  have h2:=htF_le f A (bgF A (n-1))
  have h3:=htF_le f (fun i=>A (bgF A (n-1)+i)) (n-1-bgF A (n-1))
  split
  ·omega
  ·split
   ·omega
   ·omega

theorem RdN.shift {w:World} {b o n:Nat} {I:Nat->Int} {X R:Nat->ByteArray} (h:RdN w (some ⟨b,o,none⟩) n I X R) (s:Nat):RdN w (some ⟨b,o+s*3,none⟩) (n-s) (fun i=>I (s+i)) (fun i=>X (s+i)) (fun i=>R (s+i)):=by
 rcases h with h|⟨b',o',e,hc⟩
 ·exact Or.inl (by omega)
 ·injection e with e
  injection e with e1 e2
  subst e1 e2
  refine Or.inr ⟨b,o+s*3,rfl,fun i hi=>?_⟩
  have:=hc (s+i) (by omega)
  rw [show o+(s+i)*3=o+s*3+i*3 by omega] at this
  exact this

def mxF (kh:Nat->Nat):Nat->Nat
 | 0=>0
 | i+1=>max (mxF kh i) (kh i)

theorem kids_info {A:Nat->Nat} {b o c m q r:Nat} {ks:List Value} {I:Nat->Int} {X R:Nat->ByteArray} {w:World} (hA:A=fun i=>arOf (I i)) (hq:q=A m) (h:KidsOf A b o c (m+1) q r ks) (hR:RdN w (some ⟨b,o,none⟩) (m+1) I X R) (hc:m+1<=c) (hb:Begins A (m+1) 0) (f:Nat) :
  ∃kh:Nat->Nat,htF (f+1) A (m+1)=1+mxF kh q/\(∀i,kh i<=f)/\∀i,i<q->∃o' n' c' I' X' R',ks[i]?=some (.slice (some ⟨b,o',none⟩) (n'+1) c')/\RdN w (some ⟨b,o',none⟩) (n'+1) I' X' R'/\Begins (fun i=>arOf (I' i)) (n'+1) 0/\n'+1<=m/\n'+1<=c'/\c'<=c/\kh i=htF f (fun i=>arOf (I' i)) (n'+1):=by
 have hh:htF (f+1) A (m+1)=if A m=0 then 1 else if A m=1 then 1+htF f A m else 1+max (htF f A (bgF A m)) (htF f (fun i=>A (bgF A m+i)) (m-bgF A m)):=by
  show (if A (m+1-1)=0 then 1 else _)=_
  rw [Nat.add_sub_cancel]
 rw [hh,<- hq]
 rcases h with ⟨h0,_,_⟩|⟨h1,h2,h3⟩|⟨h1,_,s,h2,h3,h4⟩
 ·refine ⟨fun _=>0,?_,fun _=>Nat.zero_le _,fun i hi=>absurd hi (by omega)⟩
  rw [if_pos h0,h0]
  rfl
 ·rw [Nat.add_sub_cancel] at h2 h3
  have hr0:r=0:=by
   rcases kids_math (by omega) hb (by rw [hA];exact arOf_le _) with ⟨e,_⟩|⟨_,e⟩|⟨e,_⟩
   ·rw [Nat.add_sub_cancel] at e;omega
   ·rw [Nat.add_sub_cancel] at e;exact h2.uniq e
   ·rw [Nat.add_sub_cancel] at e;omega
  subst hr0
  refine ⟨fun _=>htF f A m,?_,fun _=>htF_le _ _ _,fun i hi=>?_⟩
  ·rw [if_neg (by omega),if_pos h1,h1]
   show _=1+max 0 (htF f A m)
   rw [Nat.zero_max]
  ·have hi0:i=0:=by omega
   subst hi0
   have hm:=h2.1
   refine ⟨o,m-1,c,I,X,R,?_,hR.take (by omega),?_,by omega,by omega,Nat.le_refl _,?_⟩
   ·rw [h3,show m-1+1=m by omega];simp
   ·rw [show m-1+1=m by omega,<- hA];exact h2
   ·rw [show m-1+1=m by omega,<- hA]
 ·rw [Nat.add_sub_cancel] at h2 h4
  have hs:=h2.1
  have hs0:=h3.1
  rw [bgF_of h2]
  refine ⟨fun i=>if i=0 then htF f A s else htF f (fun i=>A (s+i)) (m-s),?_,fun i=>?_,fun i hi=>?_⟩
  ·rw [if_neg (by omega),if_neg (by omega),h1]
   show 1+_=1+max (max 0 _) _
   simp
  ·dsimp only
   split <;> exact htF_le _ _ _
  ·have hi2:i=0\/i=1:=by omega
   rcases hi2 with rfl|rfl
   ·refine ⟨o,s-1,c,I,X,R,?_,hR.take (by omega),?_,by omega,by omega,Nat.le_refl _,?_⟩
    ·rw [h4,show s-1+1=s by omega];rfl
    ·rw [show s-1+1=s by omega,<- hA];exact h3
    ·rw [show s-1+1=s by omega,<- hA];rfl
   ·refine ⟨o+s*3,m-s-1,c-s,fun i=>I (s+i),fun i=>X (s+i),fun i=>R (s+i),?_,?_,?_,by omega,by omega,by omega,?_⟩
    ·rw [h4,show m-s-1+1=m-s by omega];rfl
    ·rw [show m-s-1+1=m-s by omega]
     exact (hR.shift s).take (by omega)
    ·rw [show m-s-1+1=m-s by omega]
     have:=h2.shift
     rw [hA] at this
     exact this
    ·rw [show m-s-1+1=m-s by omega,hA]
     rfl

set_option maxHeartbeats 2000000 in
theorem l6Height_any:∀(f:Nat) (b o m c:Nat) (I:Nat->Int) (X R:Nat->ByteArray) (w:World),RdN w (some ⟨b,o,none⟩) (m+1) I X R->m+1<=f->f<=1048576->m+1<=c->c<=9223372036854775807->Begins (fun i=>arOf (I i)) (m+1) 0->
  Calls Tryz.prog 48 #[.slice (some ⟨b,o,none⟩) (m+1) c] w fun e w'=>e=.returned (.int .i64 (htF f (fun i=>arOf (I i)) (m+1)))/\Below w.heap.size w w'
 | 0,b,o,m,c,I,X,R,w,_,hf,_,_,_,_=>absurd hf (by omega)
 | f+1,b,o,m,c,I,X,R,w,hR,hf,hf2,hc,hcm,hb=>by
  have IH:Hid (∀(b o m c:Nat) (I:Nat->Int) (X R:Nat->ByteArray) (w:World),RdN w (some ⟨b,o,none⟩) (m+1) I X R->m+1<=f->f<=1048576->m+1<=c->c<=9223372036854775807->Begins (fun i=>arOf (I i)) (m+1) 0->
   Calls Tryz.prog 48 #[.slice (some ⟨b,o,none⟩) (m+1) c] w fun e w'=>e=.returned (.int .i64 (htF f (fun i=>arOf (I i)) (m+1)))/\Below w.heap.size w w'):=l6Height_any f
  obtain ⟨A,hA⟩:∃A:Nat->Nat,A=fun i=>arOf (I i):=⟨_,rfl⟩
  have HK:Hid (Calls Tryz.prog 56 #[.slice (some ⟨b,o,none⟩) (m+1) c] w (KidsRet (fun i=>arOf (I i)) b o c m (arOf (I m)) w)):=l6Kids_any b o m c I X R w hR (by omega) hc hcm hb
  rw [<- hA] at HK hb ⊢
  have HR:Hid (RdN w (some ⟨b,o,none⟩) (m+1) I X R):=hR
  have HB:Hid (Begins A (m+1) 0):=hb
  have HA:Hid (A=fun i=>arOf (I i)):=hA
  obtain ⟨H,hH⟩:∃H,H=htF (f+1) A (m+1):=⟨_,rfl⟩
  rw [<- hH]
  have HHH:Hid (H=htF (f+1) A (m+1)):=hH
  clear hR hb hA hH
  go_enter Tryz.func48,Tryz.ntmps48
  go_wp2_with fail
  refine HK.out.mono ?_
  rintro e w1 ⟨v,r,ks,rfl,hko,hka,hb1⟩
  obtain ⟨go,cpo,rfl,hks⟩:=hka
  have hlen:=hko.len
  obtain ⟨kh,hk1,hk2,hk3⟩:=kids_info HA.out (by rw [HA.out]) hko HR.out hc HB.out f
  have HKH:Hid (H=1+mxF kh (arOf (I m))/\(∀i,kh i<=f)/\∀i,i<arOf (I m)->∃o' n' c' I' X' R',ks[i]?=some (.slice (some ⟨b,o',none⟩) (n'+1) c')/\RdN w (some ⟨b,o',none⟩) (n'+1) I' X' R'/\Begins (fun i=>arOf (I' i)) (n'+1) 0/\n'+1<=m/\n'+1<=c'/\c'<=c/\kh i=htF f (fun i=>arOf (I' i)) (n'+1)):=⟨HHH.out.trans hk1,hk2,hk3⟩
  have HKS:Hid (∀i x,ks[i]?=some x->w1.cell? ⟨go,i,none⟩=some x):=hks
  have HB1:Hid (Below w.heap.size w w1):=hb1
  obtain ⟨q,hq⟩:∃q,q=arOf (I m):=⟨_,rfl⟩
  rw [<- hq] at HKH hlen
  have hq2:q<=2:=by rw [hq];exact arOf_le _
  rw [hlen]
  have z1:=hb1.size
  clear hko hks hb1 hk1 hk2 hk3 HK hlen hq
  go_wp2
  go_loopw [4,5,6] (fun mo i _ wr=>∃k:Nat,k<=q/\i=.int .i64 k/\mo=.int .i64 (mxF kh k)/\Below w1.heap.size w1 wr) (fun _ i _ _=>q-(intOf i).toNat)
  case atStart=>exact ⟨0,Nat.zero_le _,rfl,rfl,Below.refl _ _⟩
  case round=>
   obtain ⟨k,hk,rfl,rfl,hbr⟩:=hrel
   have HBR:Hid (Below w1.heap.size w1 wr):=hbr
   have hmx:mxF kh k<=f:=by
    have h0:∀k,mxF kh k<=f:=by
     intro k
     induction k with
     | zero=>exact Nat.zero_le _
     | succ k ih=>
      have:=HKH.out.2.1 k
      show max (mxF kh k) (kh k)<=f
      omega
    exact h0 k
   clear hbr
   by_cases hlt:k<q
   ·obtain ⟨o',n',c',I',X',R',h1,h2,h3,h4,h5,h6,h7⟩:=HKH.out.2.2 k hlt
    have hc1:wr.cell? ⟨go,k,none⟩=some (.slice (some ⟨b,o',none⟩) (n'+1) c'):=(HBR.out.cell (p:=⟨go,k,none⟩) (World.block_lt_of_cell? _ _ (HKS.out k _ h1))).trans (HKS.out k _ h1)
    have HC:Hid (Calls Tryz.prog 48 #[.slice (some ⟨b,o',none⟩) (n'+1) c'] wr fun e w'=>e=.returned (.int .i64 (kh k))/\Below wr.heap.size wr w'):=by
     rw [h7]
     exact IH.out b o' n' c' I' X' R' wr ((h2.below HB1.out).below HBR.out) (by omega) (by omega) h5 (by omega) h3
    have hkk:kh k<=f:=HKH.out.2.1 k
    have ik:(k:Int)<(q:Int):=by omega
    have ik0:(0:Int)<=(k:Int):=by omega
    clear h1 h2 h3 h4 h5 h6 h7
    go_wp2_with fail
    refine HC.out.mono ?_
    rintro e w2 ⟨rfl,hb2⟩
    have HX:Hid (Below w1.heap.size w1 w2):=HBR.out.trans (hb2.mono HBR.out.size)
    have wk:IntKind.i64.wrap ((k:Int)+1)=(k:Int)+1:=by rw [IntKind.wrap_i64];omega
    have HM:Hid (mxF kh (k+1)=max (mxF kh k) (kh k)):=rfl
    clear hb2 hc1 HC
    by_cases hgt:mxF kh k<kh k
    ·have hgt1:((mxF kh k:Nat):Int)<((kh k:Nat):Int):=by omega
     go_wp2
     go_roundw
     case rel=>exact ⟨k+1,by omega,by go_num,by rw [HM.out,Nat.max_eq_right (by omega)],HX.out⟩
     case measure=>simp [intOf];omega
    ·have hgt1:¬ ((mxF kh k:Nat):Int)<((kh k:Nat):Int):=by omega
     go_wp2
     go_roundw
     case rel=>exact ⟨k+1,by omega,by go_num,by rw [HM.out,Nat.max_eq_left (by omega)],HX.out⟩
     case measure=>simp [intOf];omega
   ·have e:k=q:=by omega
    subst e
    have wm:IntKind.i64.wrap ((mxF kh k:Nat)+1:Int)=((mxF kh k:Nat):Int)+1:=by rw [IntKind.wrap_i64];omega
    have HE:Hid (((H:Nat):Int)=((mxF kh k:Nat):Int)+1):=by
     show _=_
     rw [HKH.out.1]
     omega
    have HZ:Hid (Below w.heap.size w wr):=HB1.out.trans (HBR.out.mono z1)
    go_wp2
    go_ret
    exact ⟨by rw [HE.out];rfl,HZ.out⟩
end Go.Proofs.YtpaomghibppgkaaGreat
namespace Go.Proofs.YtpaomghibppgkaaGreat

def opf (A:Nat->Nat) (i j:Nat):Nat:=if A i=2/\j=0 then bgF A i-1 else i-1

theorem dep_pos {A:Nat->Nat} {n i:Nat} (h:StackOk A n) (hi:i<n) (ha:0<A i):0<i:=by
 cases i with
 | zero=>
  have:=h 0 hi
  have h0:dep A 0=0:=rfl
  omega
 | succ i=>omega

theorem opf_stack {A:Nat->Nat} {n i j:Nat} (h:StackOk A n) (hi:i<n) (ha:A i<=2) (hj:j<A i) {d:Nat} (hd:dep A i=d):StackAt A i (d-A i+j+1) (opf A i j):=by
 have h1:=h i hi
 have hp:=dep_pos h hi (by omega)
 have top:StackAt A i d (i-1):=by
  have:=stackAt_top (a:=A) (e:=i-1) (k:=d) (by rw [show i-1+1=i by omega];exact hd)
  rw [show i-1+1=i by omega] at this
  exact this
 unfold opf
 by_cases h2:A i=2/\j=0
 ·rw [if_pos h2]
  obtain ⟨s,hs⟩:=h.begins i hp (by omega)
  rw [bgF_of hs]
  obtain ⟨r,hr,hst⟩:=hs.next (k:=d-1) (by omega) (by omega)
  rw [hr,Nat.add_sub_cancel,show d-A i+j+1=d-1 by omega]
  exact hst
 ·rw [if_neg h2,show d-A i+j+1=d by omega]
  exact top

theorem opf_lt {A:Nat->Nat} {n i j:Nat} (h:StackOk A n) (hi:i<n) (ha:A i<=2) (hj:j<A i):opf A i j<i:=by
 have h1:=h i hi
 exact (opf_stack h hi ha hj (d:=(dep A i).toNat) (by omega)).1

theorem opf_parent {A:Nat->Nat} {n p p' j j' : Nat} (h:StackOk A n) (hp:p<n) (hp' : p'<n) (ha:A p<=2) (ha' : A p'<=2) (hj:j<A p) (hj' : j'<A p') (e:opf A p j=opf A p' j'):p=p':=by
 have key:∀{p p' j j' : Nat},p<n->p'<n->A p<=2->A p'<=2->j<A p->j'<A p'->opf A p j=opf A p' j'->¬ p<p':=by
  intro p p' j j' hp hp' ha ha' hj hj' e hlt
  have h1:=h p hp
  have h2:=h p' hp'
  have q1:=opf_stack h hp ha hj (d:=(dep A p).toNat) (by omega)
  have q2:=opf_stack h hp' ha' hj' (d:=(dep A p').toNat) (by omega)
  rw [e] at q1
  have e1:=q1.2.1
  have e2:=q2.2.1
  have q3:=q2.2.2 p (by have:=q1.1;omega) hlt
  rw [dep_succ] at q3
  omega
 rcases Nat.lt_trichotomy p p' with q|q|q
 ·exact absurd q (key hp hp' ha ha' hj hj' e)
 ·exact q
 ·exact absurd q (key hp' hp ha' ha hj' hj e.symm)

theorem opf_inj {A:Nat->Nat} {n p j j' : Nat} (h:StackOk A n) (hp:p<n) (ha:A p<=2) (hj:j<A p) (hj' : j'<A p) (e:opf A p j=opf A p j'):j=j':=by
 have h1:=h p hp
 have q1:=opf_stack h hp ha hj (d:=(dep A p).toNat) (by omega)
 have q2:=opf_stack h hp ha hj' (d:=(dep A p).toNat) (by omega)
 rw [e] at q1
 have e1:=q1.2.1
 have e2:=q2.2.1
 omega

def mxO (A:Nat->Nat) (H:Nat->Nat) (i:Nat):Nat->Nat
 | 0=>0
 | j+1=>max (mxO A H i j) (H (opf A i j))
def hM (A:Nat->Nat):Nat->Nat->Nat
 | 0,_=>0
 | f+1,i=>1+mxO A (hM A f) i (A i)

theorem mxO_congr {A:Nat->Nat} {H H' : Nat->Nat} {i:Nat}:∀j,(∀m,m<j->H (opf A i m)=H' (opf A i m))->mxO A H i j=mxO A H' i j
 | 0,_=>rfl
 | j+1,h=>by
  unfold mxO
  rw [mxO_congr j (fun m hm=>h m (by omega)),h j (by omega)]

theorem hM_fuel {A:Nat->Nat} {n:Nat} (h:StackOk A n) (ha:∀i,A i<=2):∀(f f' i:Nat),i<n->i<f->i<f'->hM A f i=hM A f' i
 | 0,_,_,_,h1,_=>absurd h1 (Nat.not_lt_zero _)
 | f+1,0,_,_,_,h2=>absurd h2 (Nat.not_lt_zero _)
 | f+1,f'+1,i,hi,h1,h2=>by
  show 1+_=1+_
  rw [mxO_congr]
  intro m hm
  have:=opf_lt h hi (ha i) hm
  exact hM_fuel h ha f f' _ (by omega) (by omega) (by omega)

theorem hM_le {A:Nat->Nat}:∀(f i:Nat),hM A f i<=f
 | 0,_=>Nat.le_refl _
 | f+1,i=>by
  have key:∀j,mxO A (hM A f) i j<=f:=by
   intro j
   induction j with
   | zero=>exact Nat.zero_le _
   | succ j ih=>
    have:=hM_le (A:=A) f (opf A i j)
    show max _ _<=f
    omega
  show 1+_<=f+1
  have:=key (A i)
  omega

theorem htF_hM {A:Nat->Nat} {n:Nat} (h:StackOk A n) (ha:∀i,A i<=2):∀(f i s:Nat),i<n->Begins A (i+1) s->htF f (fun q=>A (s+q)) (i+1-s)=hM A f i
 | 0,_,_,_,_=>rfl
 | f+1,i,s,hi,hb=>by
  have hs:=hb.1
  have e0:s+(i+1-s-1)=i:=by omega
  have e1:i+1-s-1=i-s:=by omega
  show (if A (s+(i+1-s-1))=0 then 1 else if A (s+(i+1-s-1))=1 then _ else _)=1+mxO A (hM A f) i (A i)
  rw [e0,e1]
  have h2:=ha i
  have hpos:0<A i->0<i:=fun q=>dep_pos h hi q
  have hn0:=hb.2.1
  by_cases a0:A i=0
  ·rw [if_pos a0,a0];rfl
  ·rw [if_neg a0]
   have hip:=hpos (by omega)
   obtain ⟨t,ht⟩:=h.begins i hip (by omega)
   have htl:=ht.1
   -- the last operand
   have last:opf A i (A i-1)=i-1:=by
    unfold opf
    rw [if_neg (by omega)]
   have L1:=htF_hM h ha f (i-1) t (by omega) (by rw [show i-1+1=i by omega];exact ht)
   rw [show i-1+1-t=i-t by omega] at L1
   have d1:=h i hi
   by_cases a1:A i=1
   ·have hst:t=s:=by
     refine ht.uniq ⟨?_,?_,fun q q1 q2=>?_⟩
     ·rcases Nat.lt_or_ge s i with q|q
      ·exact q
      ·have:s=i:=by omega
       subst this
       unfold need at hn0
       rw [dep_succ] at hn0
       omega
     ·unfold need at hn0 ⊢
      rw [dep_succ] at hn0
      omega
     ·have:=hb.2.2 q q1 (by omega)
      unfold need at this ⊢
      rw [dep_succ] at this
      omega
    subst hst
    rw [if_pos a1,a1]
    show 1+htF f (fun q=>A (t+q)) (i-t)=1+max 0 (hM A f (opf A i 0))
    rw [a1] at last
    rw [last,L1,Nat.zero_max]
   ·have a2:A i=2:=by omega
    have hs2:Begins A t s:=by
     have n2:=ht.2.1
     unfold need at n2 hn0
     rw [dep_succ] at hn0
     have hst:s<t:=by
      rcases Nat.lt_or_ge s t with q|q
      ·exact q
      ·have:s=t\/t<s:=by omega
       rcases this with e|e
       ·subst e;omega
       ·have:=ht.2.2 s e (by
         rcases Nat.lt_or_ge s (i+1) with q' | q'
         ·omega
         ·omega)
        unfold need at this
        omega
     refine ⟨hst,?_,fun q q1 q2=>?_⟩
     ·unfold need;omega
     ·have:=hb.2.2 q q1 (by omega)
      unfold need at this ⊢
      rw [dep_succ] at this
      omega
    have hst:=hs2.1
    have hb2:Begins (fun q=>A (s+q)) (i-s) (t-s):=by
     obtain ⟨b1,b2,b3⟩:=ht
     unfold need at b2 b3
     have e3:s+(i-s)=i:=by omega
     refine ⟨by omega,?_,fun q q1 q2=>?_⟩
     ·unfold need
      rw [dep_shift,dep_shift,e3,show s+(t-s)=t by omega]
      omega
     ·unfold need
      rw [dep_shift,dep_shift,e3]
      have:=b3 (s+q) (by omega) (by omega)
      omega
    rw [if_neg a1,bgF_of hb2,a2]
    have L2:=htF_hM h ha f (t-1) s (by omega) (by rw [show t-1+1=t by omega];exact hs2)
    rw [show t-1+1-s=t-s by omega] at L2
    have first:opf A i 0=t-1:=by
     unfold opf
     rw [if_pos ⟨a2,rfl⟩,bgF_of ht]
    rw [a2] at last
    have e4:(fun q=>A (s+(t-s+q)))=fun q=>A (t+q):=by
     funext q
     rw [show s+(t-s+q)=t+q by omega]
    rw [e4,show i-s-(t-s)=i-t by omega,L1,L2]
    show _=1+max (max 0 (hM A f (opf A i 0))) (hM A f (opf A i 1))
    rw [first,last,Nat.zero_max]
end Go.Proofs.YtpaomghibppgkaaGreat
namespace Go.Proofs.YtpaomghibppgkaaGreat
open Go.RowKit Go.Deep

set_option maxHeartbeats 2000000 in
theorem l5Good_any (q:Qd) (w:World):Calls Tryz.prog 52 #[qv q] w fun e w'=>e=.returned (.bool (quadB q))/\Below w.heap.size w w':=by
 have HL:Hid (∀(x:Int) (W:World),Calls Tryz.prog 49 #[.int .i64 x] W fun e w'=>e=.returned (.bool (numB x))/\w'=W):=l2Number_any
 unfold quadB qv
 go_enter Tryz.func52,Tryz.ntmps52
 go_wp2_with fail
 (with_reducible refine (HL.out _ _).mono ?_)
 rintro e w1 ⟨rfl,hw1⟩
 subst hw1
 cases h1:numB q.s with
 | false=>
  go_wp2
  go_ret
  exact ⟨by rw [h1];rfl,below_alloc _ _⟩
 | true=>
 go_wp2_with fail
 (with_reducible refine (HL.out _ _).mono ?_)
 rintro e w1 ⟨rfl,hw1⟩
 subst hw1
 cases h2:numB q.p with
 | false=>
  go_wp2
  go_ret
  exact ⟨by rw [h1,h2];rfl,below_alloc _ _⟩
 | true=>
 go_wp2_with fail
 (with_reducible refine (HL.out _ _).mono ?_)
 rintro e w1 ⟨rfl,hw1⟩
 subst hw1
 cases h3:numB q.o with
 | false=>
  go_wp2
  go_ret
  exact ⟨by rw [h1,h2,h3];rfl,below_alloc _ _⟩
 | true=>
 go_wp2_with fail
 (with_reducible refine (HL.out _ _).mono ?_)
 rintro e w1 ⟨rfl,hw1⟩
 subst hw1
 cases h4:numB q.g with
 | false=>
  go_wp2
  go_ret
  exact ⟨by rw [h1,h2,h3,h4];rfl,below_alloc _ _⟩
 | true=>
  go_wp2
  go_ret
  exact ⟨by rw [h1,h2,h3,h4];rfl,below_alloc _ _⟩

def ptA (perm:Nat) (k:ByteArray) (i:Nat):Array Value:=#[.int .i64 (ptF perm k i 0),.int .i64 (ptF perm k i 1),.int .i64 (ptF perm k i 2),.int .i64 (ptF perm k i 3)]
theorem ptA_set (perm:Nat) (hp:perm<6) (k:ByteArray) (i:Nat) (hi:i<4):(ptA perm k i).setIfInBounds (ordF perm i) (.int .i64 (pk k i))=ptA perm k (i+1):=by
 have h:=ptF_succ perm hp k i hi
 have ho:=ordF_lt perm hp i hi
 unfold ptA
 rw [h 0 (by omega),h 1 (by omega),h 2 (by omega),h 3 (by omega)]
 generalize ordF perm i=o at ho ⊢
 rcases (show o=0\/o=1\/o=2\/o=3 by omega) with rfl|rfl|rfl|rfl <;> simp
def ordA (perm:Nat):Array Value:=#[.int .i64 (ordF perm 0:Int),.int .i64 (ordF perm 1:Int),.int .i64 (ordF perm 2:Int),.int .i64 (ordF perm 3:Int)]
theorem ordA_get (perm i:Nat) (hi:i<4):(ordA perm)[i]?=some (.int .i64 (ordF perm i:Int)):=by
 rcases (show i=0\/i=1\/i=2\/i=3 by omega) with rfl|rfl|rfl|rfl <;> rfl
theorem ptA_get (perm:Nat) (k:ByteArray) (j i:Nat) (hi:i<4):(ptA perm k j)[i]?=some (.int .i64 (ptF perm k j i)):=by
 rcases (show i=0\/i=1\/i=2\/i=3 by omega) with rfl|rfl|rfl|rfl <;> rfl

structure QSt (w W:World) (perm:Nat) (k:ByteArray) (i:Nat):Prop where
 rb:Bx W w.heap.size 122 #[.int .i64 0,.int .i64 0,.int .i64 0,.int .i64 0]
 ob:Bx W (w.heap.size+1) 3 (ordA perm)
 pb:Bx W (w.heap.size+2) 2 (ptA perm k i)
 bel:Below w.heap.size w W

set_option maxHeartbeats 4000000 in
theorem l5Quad_any (perm:Nat) (hp:perm<6) (key:ByteArray) (hk:key.size=16) (w:World):Calls Tryz.prog 53 #[.string key,.int .i64 (perm:Int)] w fun e w'=>e=.returned (qv (quadOf perm key))/\Below w.heap.size w w':=by
 have HO:Hid (∀W:World,Calls Tryz.prog 91 #[.int .i64 (perm:Int)] W fun e w'=>e=.returned (.slice (some ⟨W.heap.size,0,none⟩) 4 4)/\w'=W.alloc (.cells (ordA perm) 3)):=fun W=>l5Order_any perm hp W
 have HK:Hid (key.size=16/\perm<6):=⟨hk,hp⟩
 clear hk hp
 go_enter Tryz.func53,Tryz.ntmps53
 go_wp2_with fail
 (with_reducible refine (HO.out _).mono ?_)
 rintro e w1 ⟨rfl,hw1⟩
 have Q0:Hid (QSt w (w1.alloc (.cells #[.int .i64 0,.int .i64 0,.int .i64 0,.int .i64 0] 2)) perm key 0):=by
  subst hw1
  have b1:=Bx.new w #[.int .i64 0,.int .i64 0,.int .i64 0,.int .i64 0] 122
  have b2:=Bx.new (w.alloc (.cells #[.int .i64 0,.int .i64 0,.int .i64 0,.int .i64 0] 122)) (ordA perm) 3
  have b3:=Bx.new ((w.alloc (.cells #[.int .i64 0,.int .i64 0,.int .i64 0,.int .i64 0] 122)).alloc (.cells (ordA perm) 3)) #[.int .i64 0,.int .i64 0,.int .i64 0,.int .i64 0] 2
  simp only [World.size_alloc] at b2 b3
  exact ⟨(b1.alloc _).alloc _,b2.alloc _,b3,((below_alloc _ _).alloc (by simp) _).alloc (by simp;omega) _⟩
 have hz1:w1.heap.size=w.heap.size+2:=by rw [hw1];simp
 have hw0:(w.alloc (.cells #[.int .i64 0,.int .i64 0,.int .i64 0,.int .i64 0] 122)).heap.size=w.heap.size+1:=by simp
 rw [hw0]
 clear hw1 HO hw0
 go_upto_region 3 with fail
 generalize w1.alloc (.cells #[.int .i64 0,.int .i64 0,.int .i64 0,.int .i64 0] 2)=W0 at Q0 ⊢
 clear hz1
 go_wp2
 go_loopw [7,8,9] (fun i _ _ wr=>∃ii:Nat,ii<=4/\i=.int .i64 ii/\QSt w wr perm key ii) (fun i _ _ _=>4-(intOf i).toNat)
 case atStart=>exact ⟨0,by omega,rfl,Q0.out⟩
 case round=>
  obtain ⟨i,hi,rfl,hq⟩:=hrel
  obtain ⟨W1,rfl⟩:∃W1,W1=wr:=⟨_,rfl⟩
  have QI:Hid (QSt w W1 perm key i):=hq
  clear hq Q0
  by_cases hlt:i<4
  ·go_wp2
   go_loopw [8,9] (fun x n wr=>∃nn:Nat,nn<=4/\n=.int .i64 nn/\x=.int .i64 (pkn key i nn)/\wr=W1) (fun _ n _=>4-(intOf n).toNat)
   case atStart=>exact ⟨0,by omega,rfl,rfl,rfl⟩
   case round=>
    obtain ⟨n,hn,rfl,rfl,rfl⟩:=hrel
    obtain ⟨x,hx⟩:∃x,x=pkn key i n:=⟨_,rfl⟩
    have HX:Hid (x=pkn key i n):=hx
    have hxr:=pkn_range key i n hn
    rw [<- hx] at hxr ⊢
    clear hx
    by_cases hln:n<4
    ·obtain ⟨by0,eb,ekb⟩:=kb_get (k:=key) (i:=4*i+n) (by rw [HK.out.1];omega)
     have hbr:=kb_range key (4*i+n)
     obtain ⟨b,hb⟩:∃b,b=kb key (4*i+n):=⟨_,rfl⟩
     have HBb:Hid (b=kb key (4*i+n)):=hb
     rw [<- hb] at hbr ekb
     have hix:∀W:World,(Instr.index 9 (.string key) (.int .i64 (4*(i:Int)+(n:Int)))).run Tryz.prog W=.ok (.int .u8 b) W:=fun W=>by
      have e1:(4*(i:Int)+(n:Int)).toNat=4*i+n:=by omega
      have e2:(0:Int)<=4*(i:Int)+(n:Int):=by omega
      simp [Instr.index,go_sem,e1,e2,eb,ekb]
     clear hb eb ekb
     have HN:Hid (256*x+b=pkn key i (n+1)):=by
      show 256*x+b=pkn key i (n+1)
      rw [HX.out,HBb.out]
      rfl
     obtain ⟨hx0,hx1⟩:=hxr
     obtain ⟨hb0,hb1⟩:=hbr
     go_wp2
     go_roundw
     case rel=>exact ⟨n+1,by omega,by go_num,by rw [<- HN.out],by first|rfl|trivial⟩
     case measure=>simp [intOf];omega
    ·obtain rfl:n=4:=by omega
     have HX4:Hid (x=pk key i):=HX.out
     have hop:ordF perm i<4:=ordF_lt perm HK.out.2 i hlt
     obtain ⟨o,ho⟩:∃o,o=ordF perm i:=⟨_,rfl⟩
     have HOo:Hid (o=ordF perm i):=ho
     rw [<- ho] at hop
     have c1:wr.cell? ⟨w.heap.size+1,i,none⟩=some (.int .i64 (o:Int)):=by rw [QI.out.ob.cell i,ordA_get perm i hlt,<- ho]
     have c2:wr.cell? ⟨w.heap.size+2,o,none⟩=some (.int .i64 (ptF perm key i o)):=by rw [QI.out.pb.cell o,ptA_get perm key i o hop]
     have f2:=QI.out.pb.frozen o
     have l2:=QI.out.pb.lt
     have i0:(0:Int)<=(i:Int):=by omega
     have i1:(i:Int)<4:=by omega
     have o0:(0:Int)<=(o:Int):=by omega
     have o1:(o:Int)<4:=by omega
     have HS:Hid (QSt w (wr.setCell ⟨w.heap.size+2,o,none⟩ (.int .i64 x)) perm key (i+1)):=by
      have q:=QI.out
      refine ⟨q.rb.other (by simp) _,q.ob.other (by simp) _,?_,q.bel.setCell (by simp) _⟩
      have e:=q.pb.set o (.int .i64 x)
      rw [HOo.out,HX4.out,ptA_set perm HK.out.2 key i hlt] at e
      rw [HOo.out,HX4.out]
      exact e
     clear ho
     go_wp2
     go_roundw
     case rel=>exact ⟨i+1,by omega,by go_num,HS.out⟩
     case measure=>simp [intOf];omega
  ·obtain rfl:i=4:=by omega
   have p0:=QI.out.pb.cell 0
   have p1:=QI.out.pb.cell 1
   have p2:=QI.out.pb.cell 2
   have p3:=QI.out.pb.cell 3
   rw [ptA_get perm key 4 0 (by omega),ptF_all perm HK.out.2 key 0 (by omega)] at p0
   rw [ptA_get perm key 4 1 (by omega),ptF_all perm HK.out.2 key 1 (by omega)] at p1
   rw [ptA_get perm key 4 2 (by omega),ptF_all perm HK.out.2 key 2 (by omega)] at p2
   rw [ptA_get perm key 4 3 (by omega),ptF_all perm HK.out.2 key 3 (by omega)] at p3
   obtain ⟨q0,hq0⟩:∃q0,q0=pk key (posF perm 0):=⟨_,rfl⟩
   obtain ⟨q1,hq1⟩:∃q1,q1=pk key (posF perm 1):=⟨_,rfl⟩
   obtain ⟨q2,hq2⟩:∃q2,q2=pk key (posF perm 2):=⟨_,rfl⟩
   obtain ⟨q3,hq3⟩:∃q3,q3=pk key (posF perm 3):=⟨_,rfl⟩
   rw [<- hq0] at p0
   rw [<- hq1] at p1
   rw [<- hq2] at p2
   rw [<- hq3] at p3
   have HV:Hid (qv (quadOf perm key)=.agg #[.int .i64 q0,.int .i64 q1,.int .i64 q2,.int .i64 q3]):=by
    show qv (quadOf perm key)=_
    rw [hq0,hq1,hq2,hq3]
    rfl
   clear hq0 hq1 hq2 hq3
   have z0:=QI.out.rb.cell 0
   have z1:=QI.out.rb.cell 1
   have z2:=QI.out.rb.cell 2
   have z3:=QI.out.rb.cell 3
   simp at z0 z1 z2 z3
   have zf:=fun i=>QI.out.rb.frozen i
   have zl:=QI.out.rb.lt
   go_upto_region 12 with fail
   refine wp_region_late (S:=fun w'=>w'.cell? ⟨w.heap.size+2,0,none⟩=some (.int .i64 q0)/\w'.cell? ⟨w.heap.size+2,1,none⟩=some (.int .i64 q1)/\w'.cell? ⟨w.heap.size+2,2,none⟩=some (.int .i64 q2)/\w'.cell? ⟨w.heap.size+2,3,none⟩=some (.int .i64 q3)) 13 (by kernel_rfl) ⟨p0,p1,p2,p3⟩ (fun hHeld=>?_)
   refine tk 0 .zero (v:=?_) ?_ ?_
   rotate_left
   ·(intro w h;(try dsimp only at h);go_simp) <;> with_reducible rfl
   simp only [tkp]
   refine tk 1 (.succ .zero) (v:=?_) ?_ ?_
   rotate_left
   ·(intro w h;(try dsimp only at h);go_simp) <;> with_reducible rfl
   simp only [tkp]
   refine tk 2 (.succ (.succ .zero)) (v:=?_) ?_ ?_
   rotate_left
   ·(intro w h;(try dsimp only at h);go_simp) <;> with_reducible rfl
   simp only [tkp]
   refine tk 3 (.succ (.succ (.succ .zero))) (v:=?_) ?_ ?_
   rotate_left
   ·(intro w h;(try dsimp only at h);go_simp) <;> with_reducible rfl
   simp only [tkp]
   refine tk 4 (.succ (.succ (.succ (.succ .zero)))) (v:=?_) ?_ ?_
   rotate_left
   ·(intro w h;(try dsimp only at h);go_simp) <;> with_reducible rfl
   simp only [tkp]
   refine tk 5 (.s5 .zero) (v:=?_) ?_ ?_
   rotate_left
   ·(intro w h;(try dsimp only at h);go_simp) <;> with_reducible rfl
   simp only [tkp]
   refine tk 6 (.s5 (.succ .zero)) (v:=?_) ?_ ?_
   rotate_left
   ·(intro w h;(try dsimp only at h);go_simp) <;> with_reducible rfl
   simp only [tkp]
   refine tk 7 (.s5 (.succ (.succ .zero))) (v:=?_) ?_ ?_
   rotate_left
   ·(intro w h;(try dsimp only at h);go_simp) <;> with_reducible rfl
   simp only [tkp]
   refine tk 8 (.s5 (.succ (.succ (.succ .zero)))) (v:=?_) ?_ ?_
   rotate_left
   ·(intro w h;(try dsimp only at h);go_simp) <;> with_reducible rfl
   simp only [tkp]
   refine tk 9 (.s5 (.succ (.succ (.succ (.succ .zero))))) (v:=?_) ?_ ?_
   rotate_left
   ·(intro w h;(try dsimp only at h);go_simp) <;> with_reducible rfl
   simp only [tkp]
   refine tk 10 (.s5 (.s5 .zero)) (v:=?_) ?_ ?_
   rotate_left
   ·(intro w h;(try dsimp only at h);go_simp) <;> with_reducible rfl
   simp only [tkp]
   refine tk 11 (.s5 (.s5 (.succ .zero))) (v:=?_) ?_ ?_
   rotate_left
   ·(intro w h;(try dsimp only at h);go_simp) <;> with_reducible rfl
   simp only [tkp]
   refine tk 12 (.s5 (.s5 (.succ (.succ .zero)))) (v:=?_) ?_ ?_
   rotate_left
   ·(intro w h;(try dsimp only at h);go_simp) <;> with_reducible rfl
   simp only [tkp]
   refine tk1 13 (.s5 (.s5 (.succ (.succ (.succ .zero))))) (fun K hK=>?_)
   go_simp
   refine hK.out _ _ ?_ (fun hG=>?_)
   ·(intro hne;exact absurd rfl hne)
   clear hK K hG
   refine wpLate_done (by kernel_rfl) ?_ _
   have HB:Hid (Below w.heap.size w W1.drew/\Bx W1.drew w.heap.size 122 #[.int .i64 0,.int .i64 0,.int .i64 0,.int .i64 0]):=⟨QI.out.bel.drew,QI.out.rb.drew⟩
   clear hHeld
   go_wp2
   refine bodyPost_ret (v:=.agg #[.int .i64 q0,.int .i64 q1,.int .i64 q2,.int .i64 q3]) (by simp [results,Tryz.results53,go_sem,z0,z1,z2,z3]) rfl ⟨by rw [HV.out],?_⟩
   exact (((HB.out.1.setCell (by simp) _).setCell (by simp) _).setCell (by simp) _).setCell (by simp) _
end Go.Proofs.YtpaomghibppgkaaGreat
namespace Go.Proofs.YtpaomghibppgkaaGreat
open Go.RowKit Go.Deep Go.MapKept

def TermAt (w:World) (p:Nat) (i:Int) (x:ByteArray) (r:Int):Prop:=w.heap[p]?=some (.cells #[.int .i64 i,.string x,.int .i64 r] 112)
theorem TermAt.cells {w:World} {p:Nat} {i r:Int} {x:ByteArray} (h:TermAt w p i x r):w.cell? ⟨p,0,none⟩=some (.int .i64 i)/\w.cell? ⟨p,1,none⟩=some (.string x)/\w.cell? ⟨p,2,none⟩=some (.int .i64 r):=by
 unfold TermAt at h
 exact ⟨by simp [World.cell?,h],by simp [World.cell?,h],by simp [World.cell?,h]⟩
theorem TermAt.lt {w:World} {p:Nat} {i r:Int} {x:ByteArray} (h:TermAt w p i x r):p<w.heap.size:=(Array.getElem?_eq_some_iff.1 h).1

def PutRet (w:World) (B1 B2 k p:Nat) (i:Int) (x:ByteArray) (I:Nat->Int) (X:Nat->ByteArray) (V:Nat->Nat) (e:Ending) (w' : World):Prop:=
 (∃v,e=.returned v)/\(∃w2,w.drew.grownBy w2 (some B1)/\w2.drew.grownBy w' (some B2))/\
  MapAt w' B1 (k+1) (fun j=>.string (if j=k then x else X j)) (fun j=>.pointer (some ⟨if j=k then p else V j,0,none⟩))/\MapAt w' B2 (k+1) (fun j=>.int .i64 (if j=k then i else I j)) (fun j=>.pointer (some ⟨if j=k then p else V j,0,none⟩))

theorem MapAt.congr {w:World} {B k:Nat} {K V K' V' : Nat->Value} (h:MapAt w B k K V) (hK:∀i,i<k->K i=K' i) (hV:∀i,i<k->V i=V' i):MapAt w B k K' V':=by
 obtain ⟨es,clock,h1,hst,h2,h3⟩:=h
 refine ⟨es,clock,h1,hst,h2,fun i hi=>?_⟩
 obtain ⟨e,a,b,c⟩:=h3 i hi
 exact ⟨e,a,b.trans (hK i hi),c.trans (hV i hi)⟩

set_option maxHeartbeats 2000000 in
theorem put_any (tb B1 B2 k p:Nat) (next i r:Int) (x:ByteArray) (I:Nat->Int) (X:Nat->ByteArray) (V:Nat->Nat) (w:World) (ht:TabAt w tb next B1 B2) (hp:TermAt w p i x r) (hB:B1≠B2)
  (h1:MapAt w B1 k (fun j=>.string (X j)) (fun j=>.pointer (some ⟨V j,0,none⟩))) (h2:MapAt w B2 k (fun j=>.int .i64 (I j)) (fun j=>.pointer (some ⟨V j,0,none⟩))) (n1:∀j,j<k->X j≠x) (n2:∀j,j<k->I j≠i) :
  Calls Tryz.prog 101 #[.pointer (some ⟨tb,0,none⟩),.pointer (some ⟨p,0,none⟩)] w (PutRet w B1 B2 k p i x I X V):=by
 obtain ⟨t0,t1,t2⟩:=ht.cells
 obtain ⟨p0,p1,p2⟩:=hp.cells
 have HC:Hid (∀(wx w2:World) (B:Nat),wx.grownBy w2 (some B)->B≠tb->B≠p->TabAt wx tb next B1 B2->TermAt wx p i x r->(w2.cell? ⟨tb,1,none⟩=some (.map (some B1))/\w2.cell? ⟨tb,2,none⟩=some (.map (some B2))/\w2.cell? ⟨p,0,none⟩=some (.int .i64 i)/\w2.cell? ⟨p,1,none⟩=some (.string x))/\TabAt w2 tb next B1 B2/\TermAt w2 p i x r):=by
  intro wx w2 B hg hb1 hb2 ha hb
  have q1:TabAt w2 tb next B1 B2:=(hg.block tb ha.lt (fun e=>hb1 (by injection e with e;exact e.symm))).trans ha
  have q2:TermAt w2 p i x r:=(hg.block p hb.lt (fun e=>hb2 (by injection e with e;exact e.symm))).trans hb
  exact ⟨⟨q1.cells.2.1,q1.cells.2.2,q2.cells.1,q2.cells.2.1⟩,q1,q2⟩
 have b1t:B1≠tb:=(h1.ne_cells ht).symm
 have b1p:B1≠p:=(h1.ne_cells hp).symm
 have b2t:B2≠tb:=(h2.ne_cells ht).symm
 have b2p:B2≠p:=(h2.ne_cells hp).symm
 have h1' : MapAt w.drew B1 k (fun j=>.string (X j)) (fun j=>.pointer (some ⟨V j,0,none⟩)):=h1
 obtain ⟨w2,hrun2,hm2,hg2⟩:=h1'.store_new (t:=177) (kt:=9) (et:=183) (d:=.string) (key:=.string x) (by kernel_rfl) (by kernel_rfl) trivial (fun _ _=>trivial) (fun j hj e=>n1 j hj (by injection e)) (.pointer (some ⟨p,0,none⟩))
 obtain ⟨⟨y1,y2,y3,y4⟩,yT,yP⟩:=HC.out _ w2 B1 hg2 b1t b1p ht hp
 have h2' : MapAt w2.drew B2 k (fun j=>.int .i64 (I j)) (fun j=>.pointer (some ⟨V j,0,none⟩)):=h2.kept (hg2.block B2 h2.lt (fun e=>hB (by injection e with e;exact e.symm)))
 obtain ⟨w3,hrun3,hm3,hg3⟩:=h2'.store_new (t:=178) (kt:=2) (et:=183) (d:=.int .i64) (key:=.int .i64 i) (by kernel_rfl) (by kernel_rfl) rfl (fun _ _=>rfl) (fun j hj e=>n2 j hj (by injection e)) (.pointer (some ⟨p,0,none⟩))
 obtain ⟨⟨z1,z2,z3,z4⟩,zT,zP⟩:=HC.out _ w3 B2 hg3 b2t b2p yT yP
 have HX:Hid ((∃w2,w.drew.grownBy w2 (some B1)/\w2.drew.grownBy w3 (some B2))/\
  MapAt w3 B1 (k+1) (fun j=>.string (if j=k then x else X j)) (fun j=>.pointer (some ⟨if j=k then p else V j,0,none⟩))/\MapAt w3 B2 (k+1) (fun j=>.int .i64 (if j=k then i else I j)) (fun j=>.pointer (some ⟨if j=k then p else V j,0,none⟩))):=by
  refine ⟨⟨w2,hg2,hg3⟩,(hm2.kept (hg3.block B1 hm2.lt (fun e=>hB (by injection e)))).congr (fun j _=>?_) (fun j _=>?_),hm3.congr (fun j _=>?_) (fun j _=>?_)⟩
  all_goals (split <;> simp_all)
 clear h1 h2 ht hp n1 n2 t0 p2 HC hm2 hg2 yT yP h1' h2' hm3 hg3 zT zP b1t b1p b2t b2p
 go_enter Tryz.func101,Tryz.ntmps101
 go_wp2
 go_region_held3 (fun w'=>w'.cell? ⟨tb,1,none⟩=some (.map (some B1))/\w'.cell? ⟨tb,2,none⟩=some (.map (some B2))/\w'.cell? ⟨p,0,none⟩=some (.int .i64 i)/\w'.cell? ⟨p,1,none⟩=some (.string x)) (go_keep) (fail)
 go_wp2
 go_region_held3 (fun w'=>w'.cell? ⟨tb,1,none⟩=some (.map (some B1))/\w'.cell? ⟨tb,2,none⟩=some (.map (some B2))/\w'.cell? ⟨p,0,none⟩=some (.int .i64 i)/\w'.cell? ⟨p,1,none⟩=some (.string x)) (go_keep) (fail)
 go_wp2
 refine bodyPost_end (v:=.tuple #[]) (by simp [results,Tryz.results101,go_sem]) rfl ⟨⟨_,rfl⟩,HX.out⟩
end Go.Proofs.YtpaomghibppgkaaGreat
