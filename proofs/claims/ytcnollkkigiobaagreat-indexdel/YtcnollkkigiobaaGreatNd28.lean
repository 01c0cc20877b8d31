import Derived.Test.YtcnollkkigiobaaGreatNd27
import Derived.Test.YtcnollkkigiobaaGreatNd18
import Derived.Test.YtcnollkkigiobaaGreatNd17
import Derived.Test.YtcnollkkigiobaaGreatNd23
import Derived.Test.YtcnollkkigiobaaGreatNd22
import Derived.Test.YtcnollkkigiobaaGreatNd26
set_option linter.unusedVariables false
set_option maxRecDepth 100000
namespace Go.Proofs.YtcnollkkigiobaaGreat
open Go.RowKit Go.Deep

def RdK (w:World) (a:Option Addr) (p:Nat) (xs:List Value):Prop:=
 xs.length=p*3/\(∀u∈xs,u.oneCell'=true)/\(p=0\/∃b o,a=some ⟨b,o,none⟩/\b<w.heap.size/\∀j u,xs[j]?=some u->w.cell? ⟨b,o+j,none⟩=some u)
theorem RdK.below {w w' : World} {a:Option Addr} {p:Nat} {xs:List Value} (h:RdK w a p xs) (hb:Below w.heap.size w w'):RdK w' a p xs:=by
 refine ⟨h.1,h.2.1,?_⟩
 rcases h.2.2 with h|⟨b,o,e,hl,hc⟩
 ·exact Or.inl h
 ·exact Or.inr ⟨b,o,e,by have:=hb.size;omega,fun j u hj=>(hb.cell (p:=⟨b,o+j,none⟩) hl).trans (hc j u hj)⟩
theorem RdK.nil (w:World) (a:Option Addr):RdK w a 0 []:=⟨rfl,(by intro u hu;cases hu),Or.inl rfl⟩
theorem own_mono' {w:World} {B B' : Nat} {e:TypeId} {size:Nat} {v:Value} {n:Nat} {xs:List Value} (h:w.ownsRow B e size v n xs) (hB:B'<=B):w.ownsRow B' e size v n xs:=by
 refine ⟨h.1,?_⟩
 rcases h.2 with q|⟨g,cap,cur,q1,q2,q3⟩
 ·exact .inl q
 ·exact .inr ⟨g,cap,cur,q1,by omega,q3⟩

theorem step_app_kids {w:World} {ops:Array Oper} {o:Oper} {act:Act} {K:Act->World->Prop} {Q:Exit->Act->World->Prop} {E:Prop} (hgd:o.guard=none) (s x:Operand)
  (ho:o.op=.call { callee:=.builtin .append,args:=#[s,x],argTypes:=#[89,89] })
  (B:Nat) (v:Value) (n:Nat) (xs:List Value) (hs:act.eval s=v) (hown:w.ownsRow B 91 3 v n xs)
  (a:Option Addr) (m c:Nat) (ys:List Value) (hx:act.eval x=.slice a m c) (hrd:RdK w a m ys) (hnm:n+m<=1048576) (hB:B<=w.heap.size)
  (h:∀v' w',w'.ownsRow B 91 3 v' (n+m) (xs++ys)->w.grownBy w' v.ownBlock->K (act.put o.dst v') w') :
  if Region.wanted o (yielded ops act.tmps)=true then Oper.wp Tryz.prog o act w K Q else E:=by
 have hw:Region.wanted o (yielded ops act.tmps)=true:=by simp [Region.wanted,hgd]
 rw [if_pos hw]
 obtain ⟨i0,hi,hz0,hz1,hz2⟩:=info_parts Tryz.info91
 obtain ⟨hm,hone,hrd⟩:=hrd
 by_cases hm0:m=0
 ·subst hm0
  have hL:ys=[]:=List.length_eq_zero_iff.1 (by omega)
  subst hL
  have hsrc:Src Tryz.prog i0.size 89 (.slice a 0 c) 0 [] w:=by
   cases a with
   | none=>exact Src.ofNil w Tryz.underlying89 c
   | some ad=>exact Src.ofSlice w Tryz.underlying89 ad 0 c [] (by simp) (by simp) (by simp)
  have hsh:∃b l cap,v=.slice b l cap/\l<=cap:=by
   rcases hown.2 with ⟨rfl,rfl⟩|⟨g,cap,cur,rfl,_,_,h1,_⟩
   ·exact ⟨none,0,0,rfl,Nat.le_refl _⟩
   ·exact ⟨_,n,cap,rfl,h1⟩
  obtain ⟨b,l,cap,hvv,hlc⟩:=hsh
  have hrun:=run_append_nothing (P:=Tryz.prog) w 89 89 o.type 91 i0 Tryz.underlying89 hi b l cap hlc (.slice a 0 c) hsrc
  rw [<- hvv] at hrun
  unfold Oper.wp
  simp [execOp,ho,resolve,invoke,builtin,hs,hx,hrun,Result.andThen]
  exact h v w (by simpa using hown) ⟨rfl,rfl,rfl,Nat.le_refl _,fun _ _ _=>rfl⟩
 ·rcases hrd with h0|⟨b,off,rfl,hl,hc⟩
  ·exact absurd h0 hm0
  ·exact wp_append_own w s x 89 ho B 91 i0 _ 3 56 Tryz.underlying89 hi hz0 hz1 hz2 rfl (by decide) v n xs hs hown ⟨b,off,none⟩ m c ys hx hm (fun j u hj=>by rw [addr_add];exact hc j u hj) hone (by unfold maxLen;omega) (by omega) hB (fun v' w' h1 h2 _=>h v' w' h1 h2)

def RetJ (w:World) (lf:Bool) (n:Nat) (L:List ByteArray) (p:Nat) (xs:List Value) (e:Ending) (w' : World):Prop:=
 Below w.heap.size w w'/\∃a1 c1 a2 c2,e=.returned (.agg #[.bool lf,.slice a1 n c1,.slice a2 p c2])/\w'.ownsRow (w.heap.size+3) 9 1 (.slice a1 n c1) n (strL L)/\w'.ownsRow (w.heap.size+3) 91 3 (.slice a2 p c2) p xs

set_option maxHeartbeats 8000000 in
theorem join_raw (lf lg:Bool) (ka ca kb cb:Option Addr) (n kc p cc m kd q cd:Nat) (La Lb:List ByteArray) (xa xb:List Value) (w:World) (h1:RdS w ka n (gt La)) (hn:n=La.length) (h2:RdS w kb m (gt Lb)) (hm:m=Lb.length) (h3:RdK w ca p xa) (h4:RdK w cb q xb) (hA:n<=1000/\m<=1000) (hB:p<=1000/\q<=1000) :
  Calls Tryz.prog 123 #[.agg #[.bool lf,.slice ka n kc,.slice ca p cc],.agg #[.bool lg,.slice kb m kd,.slice cb q cd]] w (RetJ w lf (n+m) (La++Lb) (p+q) (xa++xb)):=by
 obtain ⟨hA1,hA2⟩:=hA
 obtain ⟨hB1,hB2⟩:=hB
 have HR0:Hid ((RdS w ka n (gt La)/\n=La.length)/\(RdS w kb m (gt Lb)/\m=Lb.length)/\RdK w ca p xa/\RdK w cb q xb):=⟨⟨h1,hn⟩,⟨h2,hm⟩,h3,h4⟩
 clear h1 h2 h3 h4 hn hm
 go_enter Tryz.func123,Tryz.ntmps123
 go_wp2_with fail
 have hbel:Below w.heap.size w (((w.alloc (.cells #[.bool lf,.slice ka n kc,.slice ca p cc] 91)).alloc (.cells #[.bool lg,.slice kb m kd,.slice cb q cd] 91)).alloc (.cells #[.bool false,.slice none 0 0,.slice none 0 0] 91)):=((below_alloc _ _).alloc (by simp) _).alloc (by simp;omega) _
 have hsz:(((w.alloc (.cells #[.bool lf,.slice ka n kc,.slice ca p cc] 91)).alloc (.cells #[.bool lg,.slice kb m kd,.slice cb q cd] 91)).alloc (.cells #[.bool false,.slice none 0 0,.slice none 0 0] 91)).heap.size=w.heap.size+3:=by simp
 have b0:=((Bx.new w #[.bool lf,.slice ka n kc,.slice ca p cc] 91).alloc (.cells #[.bool lg,.slice kb m kd,.slice cb q cd] 91)).alloc (.cells #[.bool false,.slice none 0 0,.slice none 0 0] 91)
 have b1:=(Bx.new (w.alloc (.cells #[.bool lf,.slice ka n kc,.slice ca p cc] 91)) #[.bool lg,.slice kb m kd,.slice cb q cd] 91).alloc (.cells #[.bool false,.slice none 0 0,.slice none 0 0] 91)
 have b2:=Bx.new ((w.alloc (.cells #[.bool lf,.slice ka n kc,.slice ca p cc] 91)).alloc (.cells #[.bool lg,.slice kb m kd,.slice cb q cd] 91)) #[.bool false,.slice none 0 0,.slice none 0 0] 91
 simp only [World.size_alloc] at b1 b2
 generalize ((w.alloc (.cells #[.bool lf,.slice ka n kc,.slice ca p cc] 91)).alloc (.cells #[.bool lg,.slice kb m kd,.slice cb q cd] 91)).alloc (.cells #[.bool false,.slice none 0 0,.slice none 0 0] 91)=W1 at hbel hsz b0 b1 b2 ⊢
 have HBel:Hid (Below w.heap.size w W1.drew):=hbel.drew
 have HSz:Hid (W1.drew.heap.size=w.heap.size+3):=hsz
 have HBx:Hid (Bx W1.drew (w.heap.size+2) 91 #[.bool false,.slice none 0 0,.slice none 0 0]):=b2.drew
 have HR:Hid ((RdS W1.drew ka n (gt La)/\n=La.length)/\(RdS W1.drew kb m (gt Lb)/\m=Lb.length)/\RdK W1.drew ca p xa/\RdK W1.drew cb q xb):=⟨⟨HR0.out.1.1.below HBel.out,HR0.out.1.2⟩,⟨HR0.out.2.1.1.below HBel.out,HR0.out.2.1.2⟩,HR0.out.2.2.1.below HBel.out,HR0.out.2.2.2.below HBel.out⟩
 have HKeep:Hid (∀W',Below W1.drew.heap.size W1.drew W'->W'.cell? ⟨w.heap.size,0,none⟩=some (.bool lf)/\W'.cell? ⟨w.heap.size,1,none⟩=some (.slice ka n kc)/\W'.cell? ⟨w.heap.size,2,none⟩=some (.slice ca p cc)/\W'.cell? ⟨w.heap.size+1,1,none⟩=some (.slice kb m kd)/\W'.cell? ⟨w.heap.size+1,2,none⟩=some (.slice cb q cd)):=by
  intro W' hW'
  have q0:=b0.drew.below hW'
  have q1:=b1.drew.below hW'
  exact ⟨by simpa using q0.cell 0,by simpa using q0.cell 1,by simpa using q0.cell 2,by simpa using q1.cell 1,by simpa using q1.cell 2⟩
 clear hbel hsz b0 b1 b2 HR0
 generalize hR:W1.drew=R at HBel HSz HBx HR HKeep
 refine wp_region_late (S:=(fun w'=>w'.cell? ⟨w.heap.size,0,none⟩=some (.bool lf)/\w'.cell? ⟨w.heap.size,1,none⟩=some (.slice ka n kc)/\w'.cell? ⟨w.heap.size,2,none⟩=some (.slice ca p cc)/\w'.cell? ⟨w.heap.size+1,1,none⟩=some (.slice kb m kd)/\w'.cell? ⟨w.heap.size+1,2,none⟩=some (.slice cb q cd))) 17 (by kernel_rfl) ?_ (fun hHeld=>?_)
 ·(rw [hR];exact HKeep.out _ (Below.refl _ _))
 rw [hR] at hHeld ⊢
 clear hR
 refine tk 0 .zero (v:=?_) ?_ ?_
 rotate_left
 ·(intro w h;(try dsimp only at h);go_simp) <;> with_reducible rfl
 simp only [tkp]
 refine tk 1 (.succ .zero) (v:=?_) ?_ ?_
 rotate_left
 ·(intro w h;(try dsimp only at h);go_simp) <;> with_reducible rfl
 simp only [tkp]
 refine tk 3 (.succ (.succ (.succ .zero))) (v:=?_) ?_ ?_
 rotate_left
 ·(intro w h;(try dsimp only at h);go_simp) <;> with_reducible rfl
 simp only [tkp]
 refine tk 4 (.succ (.succ (.succ (.succ .zero)))) (v:=?_) ?_ ?_
 rotate_left
 ·(intro w h;(try dsimp only at h);go_simp) <;> with_reducible rfl
 simp only [tkp]
 refine tk 6 (.s5 (.succ .zero)) (v:=?_) ?_ ?_
 rotate_left
 ·(intro w h;(try dsimp only at h);go_simp) <;> with_reducible rfl
 simp only [tkp]
 refine tk 7 (.s5 (.succ (.succ .zero))) (v:=?_) ?_ ?_
 rotate_left
 ·(intro w h;(try dsimp only at h);go_simp) <;> with_reducible rfl
 simp only [tkp]
 refine tk 10 (.s5 (.s5 .zero)) (v:=?_) ?_ ?_
 rotate_left
 ·(intro w h;(try dsimp only at h);go_simp) <;> with_reducible rfl
 simp only [tkp]
 refine tk 11 (.s5 (.s5 (.succ .zero))) (v:=?_) ?_ ?_
 rotate_left
 ·(intro w h;(try dsimp only at h);go_simp) <;> with_reducible rfl
 simp only [tkp]
 refine tk 13 (.s5 (.s5 (.succ (.succ (.succ .zero))))) (v:=?_) ?_ ?_
 rotate_left
 ·(intro w h;(try dsimp only at h);go_simp) <;> with_reducible rfl
 simp only [tkp]
 refine late_take 14 (.s5 (.s5 (.succ (.succ (.succ (.succ .zero)))))) (v:=?_) (by kernel_rfl) (by kernel_rfl) (by kernel_rfl) (by kernel_rfl) (fun _ _ _ h=>h) (by rfl) ?_ (by assumption) ?_
 rotate_left
 ·(intro w h;(try dsimp only at h);go_simp) <;> with_reducible rfl
 simp only [tkp]
 refine late_two 2 9 (.succ (.succ .zero)) (.s5 (.succ (.succ (.succ (.succ .zero))))) (by kernel_rfl) (fun K hK=>?_) (fun K hK=>?_)
 ·skip
  go_simp
  have bel_2:Below R.heap.size R (R.alloc (.cells #[] 9)):=(Below.refl R.heap.size R).alloc (Below.refl R.heap.size R).size _
  have ownA_2:(R.alloc (.cells #[] 9)).ownsRow R.heap.size 9 1 (.slice (some ⟨R.heap.size,0,none⟩) 0 0) 0 []:=by simpa using own_empty R 9 R.heap.size 1 (Below.refl R.heap.size R).size
  refine hK.out _ _ ?_ (fun hG=>?_)
  ·(intro _;exact HKeep.out _ bel_2)
  clear hK K
  replace hHeld:=hG (by decide)
  clear hG
  try simp only [tkp]
  refine late_two 5 9 (.s5 .zero) (.s5 (.succ (.succ (.succ (.succ .zero))))) (by kernel_rfl) (fun K hK=>?_) (fun K hK=>?_)
  ·skip
   refine step_app_strs (by rfl) (.tmp 7) (.tmp 9) (by rfl) R.heap.size (.slice (some ⟨R.heap.size,0,none⟩) 0 0) 0 [] (by rfl) ownA_2 ka n kc La (by rfl) HR.out.1.2 (HR.out.1.1.below (bel_2)) (by omega) bel_2.size ?_
   intro v5_2_5 w5_2_5 ho_2_5 hg_2_5
   rw [Nat.zero_add,List.nil_append] at ho_2_5
   have bel_2_5:Below R.heap.size R w5_2_5:=bel_2.grown hg_2_5 bel_2.size (fun g e=>(own_lt ownA_2 g e).1)
   refine hK.out _ _ ?_ (fun hG=>?_)
   ·(intro _;exact HKeep.out _ bel_2_5)
   clear hK K
   replace hHeld:=hG (by decide)
   clear hG
   try simp only [tkp]
   refine late_two 8 9 (.s5 (.succ (.succ (.succ .zero)))) (.s5 (.succ (.succ (.succ (.succ .zero))))) (by kernel_rfl) (fun K hK=>?_) (fun K hK=>?_)
   ·skip
    refine step_app_strs (by rfl) (.tmp 10) (.tmp 12) (by rfl) R.heap.size v5_2_5 n (strL La) (by rfl) ho_2_5 kb m kd Lb (by rfl) HR.out.2.1.2 (HR.out.2.1.1.below (bel_2_5)) (by omega) bel_2_5.size ?_
    intro v8_2_5_8 w8_2_5_8 ho_2_5_8 hg_2_5_8
    have bel_2_5_8:Below R.heap.size R w8_2_5_8:=bel_2_5.grown hg_2_5_8 bel_2_5.size (fun g e=>(own_lt ho_2_5 g e).1)
    refine hK.out _ _ ?_ (fun hG=>?_)
    ·(intro _;exact HKeep.out _ bel_2_5_8)
    clear hK K
    replace hHeld:=hG (by decide)
    clear hG
    try simp only [tkp]
    refine tk1 9 (.s5 (.succ (.succ (.succ (.succ .zero))))) (fun K hK=>?_)
    go_simp
    have bel_2_5_8_9:Below R.heap.size R (w8_2_5_8.alloc (.cells #[] 91)):=bel_2_5_8.alloc bel_2_5_8.size _
    have ownB_2_5_8_9:(w8_2_5_8.alloc (.cells #[] 91)).ownsRow R.heap.size 91 3 (.slice (some ⟨w8_2_5_8.heap.size,0,none⟩) 0 0) 0 []:=by simpa using own_empty w8_2_5_8 91 R.heap.size 3 bel_2_5_8.size
    have ownA_2_5_8_9:=own_below ho_2_5_8 (below_alloc w8_2_5_8 (.cells #[] 91))
    refine hK.out _ _ ?_ (fun hG=>?_)
    ·(intro _;exact HKeep.out _ bel_2_5_8_9)
    clear hK K
    replace hHeld:=hG (by decide)
    clear hG
    try simp only [tkp]
    refine tk1 12 (.s5 (.s5 (.succ (.succ .zero)))) (fun K hK=>?_)
    refine step_app_kids (by rfl) (.tmp 14) (.tmp 16) (by rfl) R.heap.size (.slice (some ⟨w8_2_5_8.heap.size,0,none⟩) 0 0) 0 [] (by rfl) ownB_2_5_8_9 ca p cc xa (by rfl) (HR.out.2.2.1.below (bel_2_5_8_9)) (by omega) bel_2_5_8_9.size ?_
    intro v12_2_5_8_9_12 w12_2_5_8_9_12 ho_2_5_8_9_12 hg_2_5_8_9_12
    rw [Nat.zero_add,List.nil_append] at ho_2_5_8_9_12
    have bel_2_5_8_9_12:Below R.heap.size R w12_2_5_8_9_12:=bel_2_5_8_9.grown hg_2_5_8_9_12 bel_2_5_8_9.size (fun g e=>(own_lt ownB_2_5_8_9 g e).1)
    have ownA_2_5_8_9_12:=own_other ownA_2_5_8_9 ownB_2_5_8_9 (by decide) hg_2_5_8_9_12
    refine hK.out _ _ ?_ (fun hG=>?_)
    ·(intro _;exact HKeep.out _ bel_2_5_8_9_12)
    clear hK K
    replace hHeld:=hG (by decide)
    clear hG
    try simp only [tkp]
    refine tk1 15 (.s5 (.s5 (.s5 .zero))) (fun K hK=>?_)
    refine step_app_kids (by rfl) (.tmp 17) (.tmp 19) (by rfl) R.heap.size v12_2_5_8_9_12 p xa (by rfl) ho_2_5_8_9_12 cb q cd xb (by rfl) (HR.out.2.2.2.below (bel_2_5_8_9_12)) (by omega) bel_2_5_8_9_12.size ?_
    intro v15_2_5_8_9_12_15 w15_2_5_8_9_12_15 ho_2_5_8_9_12_15 hg_2_5_8_9_12_15
    have bel_2_5_8_9_12_15:Below R.heap.size R w15_2_5_8_9_12_15:=bel_2_5_8_9_12.grown hg_2_5_8_9_12_15 bel_2_5_8_9_12.size (fun g e=>(own_lt ho_2_5_8_9_12 g e).1)
    have ownA_2_5_8_9_12_15:=own_other ownA_2_5_8_9_12 ho_2_5_8_9_12 (by decide) hg_2_5_8_9_12_15
    refine hK.out _ _ ?_ (fun hG=>?_)
    ·(intro _;exact HKeep.out _ bel_2_5_8_9_12_15)
    clear hK K
    replace hHeld:=hG (by decide)
    clear hG
    try simp only [tkp]
    obtain ⟨aA,cA,eA,_⟩:=own_form ownA_2_5_8_9_12_15
    obtain ⟨aB,cB,eB,_⟩:=own_form ho_2_5_8_9_12_15
    subst eA eB
    have HE:Hid (w15_2_5_8_9_12_15.ownsRow R.heap.size 9 1 (.slice aA (n+m) cA) (n+m) (strL La++strL Lb)/\w15_2_5_8_9_12_15.ownsRow R.heap.size 91 3 (.slice aB (p+q) cB) (p+q) (xa++xb)/\Below R.heap.size R w15_2_5_8_9_12_15):=⟨ownA_2_5_8_9_12_15,ho_2_5_8_9_12_15,bel_2_5_8_9_12_15⟩
    have hbx:=HBx.out.below bel_2_5_8_9_12_15
    have r0:=hbx.cell 0
    have r1:=hbx.cell 1
    have r2:=hbx.cell 2
    simp at r0 r1 r2
    have hf:=fun i=>hbx.frozen i
    refine tk1 16 (.s5 (.s5 (.s5 (.succ .zero)))) (fun K hK=>?_)
    go_simp
    refine hK.out _ _ ?_ (fun hG=>?_)
    ·(intro _;exact HKeep.out _ bel_2_5_8_9_12_15)
    clear hK K
    replace hHeld:=hG (by decide)
    clear hG
    try simp only [tkp]
    refine tk1 17 (.s5 (.s5 (.s5 (.succ (.succ .zero))))) (fun K hK=>?_)
    go_simp
    refine hK.out _ _ ?_ (fun hG=>?_)
    ·(intro hne;exact absurd rfl hne)
    clear hK K hG
    refine wpLate_done (by kernel_rfl) ?_ _
    clear hHeld hbx
    go_wp2
    refine bodyPost_ret (v:=.agg #[.bool lf,.slice aA (n+m) cA,.slice aB (p+q) cB]) (by simp [results,Tryz.results123,go_sem,r0,r1,r2]) rfl ?_
    have hz:=HSz.out
    exact ⟨set3_below (HBel.out.trans (HE.out.2.2.mono HBel.out.size)) _ (by omega) _ _ _,aA,cA,aB,cB,rfl,by rw [strL_app];exact own_set (own_set (own_set (own_mono' HE.out.1 (by omega)) _ _ (by simp)) _ _ (by simp)) _ _ (by simp),own_set (own_set (own_set (own_mono' HE.out.2.1 (by omega)) _ _ (by simp)) _ _ (by simp)) _ _ (by simp)⟩
   ·skip
    go_simp
    have bel_2_5_9:Below R.heap.size R (w5_2_5.alloc (.cells #[] 91)):=bel_2_5.alloc bel_2_5.size _
    have ownB_2_5_9:(w5_2_5.alloc (.cells #[] 91)).ownsRow R.heap.size 91 3 (.slice (some ⟨w5_2_5.heap.size,0,none⟩) 0 0) 0 []:=by simpa using own_empty w5_2_5 91 R.heap.size 3 bel_2_5.size
    have ownA_2_5_9:=own_below ho_2_5 (below_alloc w5_2_5 (.cells #[] 91))
    refine hK.out _ _ ?_ (fun hG=>?_)
    ·(intro _;exact HKeep.out _ bel_2_5_9)
    clear hK K
    replace hHeld:=hG (by decide)
    clear hG
    try simp only [tkp]
    refine tk1 8 (.s5 (.succ (.succ (.succ .zero)))) (fun K hK=>?_)
    refine step_app_strs (by rfl) (.tmp 10) (.tmp 12) (by rfl) R.heap.size v5_2_5 n (strL La) (by rfl) ownA_2_5_9 kb m kd Lb (by rfl) HR.out.2.1.2 (HR.out.2.1.1.below (bel_2_5_9)) (by omega) bel_2_5_9.size ?_
    intro v8_2_5_9_8 w8_2_5_9_8 ho_2_5_9_8 hg_2_5_9_8
    have bel_2_5_9_8:Below R.heap.size R w8_2_5_9_8:=bel_2_5_9.grown hg_2_5_9_8 bel_2_5_9.size (fun g e=>(own_lt ownA_2_5_9 g e).1)
    have ownB_2_5_9_8:=own_other ownB_2_5_9 ownA_2_5_9 (by decide) hg_2_5_9_8
    refine hK.out _ _ ?_ (fun hG=>?_)
    ·(intro _;exact HKeep.out _ bel_2_5_9_8)
    clear hK K
    replace hHeld:=hG (by decide)
    clear hG
    try simp only [tkp]
    refine tk1 12 (.s5 (.s5 (.succ (.succ .zero)))) (fun K hK=>?_)
    refine step_app_kids (by rfl) (.tmp 14) (.tmp 16) (by rfl) R.heap.size (.slice (some ⟨w5_2_5.heap.size,0,none⟩) 0 0) 0 [] (by rfl) ownB_2_5_9_8 ca p cc xa (by rfl) (HR.out.2.2.1.below (bel_2_5_9_8)) (by omega) bel_2_5_9_8.size ?_
    intro v12_2_5_9_8_12 w12_2_5_9_8_12 ho_2_5_9_8_12 hg_2_5_9_8_12
    rw [Nat.zero_add,List.nil_append] at ho_2_5_9_8_12
    have bel_2_5_9_8_12:Below R.heap.size R w12_2_5_9_8_12:=bel_2_5_9_8.grown hg_2_5_9_8_12 bel_2_5_9_8.size (fun g e=>(own_lt ownB_2_5_9_8 g e).1)
    have ownA_2_5_9_8_12:=own_other ho_2_5_9_8 ownB_2_5_9_8 (by decide) hg_2_5_9_8_12
    refine hK.out _ _ ?_ (fun hG=>?_)
    ·(intro _;exact HKeep.out _ bel_2_5_9_8_12)
    clear hK K
    replace hHeld:=hG (by decide)
    clear hG
    try simp only [tkp]
    refine tk1 15 (.s5 (.s5 (.s5 .zero))) (fun K hK=>?_)
    refine step_app_kids (by rfl) (.tmp 17) (.tmp 19) (by rfl) R.heap.size v12_2_5_9_8_12 p xa (by rfl) ho_2_5_9_8_12 cb q cd xb (by rfl) (HR.out.2.2.2.below (bel_2_5_9_8_12)) (by omega) bel_2_5_9_8_12.size ?_
    intro v15_2_5_9_8_12_15 w15_2_5_9_8_12_15 ho_2_5_9_8_12_15 hg_2_5_9_8_12_15
    have bel_2_5_9_8_12_15:Below R.heap.size R w15_2_5_9_8_12_15:=bel_2_5_9_8_12.grown hg_2_5_9_8_12_15 bel_2_5_9_8_12.size (fun g e=>(own_lt ho_2_5_9_8_12 g e).1)
    have ownA_2_5_9_8_12_15:=own_other ownA_2_5_9_8_12 ho_2_5_9_8_12 (by decide) hg_2_5_9_8_12_15
    refine hK.out _ _ ?_ (fun hG=>?_)
    ·(intro _;exact HKeep.out _ bel_2_5_9_8_12_15)
    clear hK K
    replace hHeld:=hG (by decide)
    clear hG
    try simp only [tkp]
    obtain ⟨aA,cA,eA,_⟩:=own_form ownA_2_5_9_8_12_15
    obtain ⟨aB,cB,eB,_⟩:=own_form ho_2_5_9_8_12_15
    subst eA eB
    have HE:Hid (w15_2_5_9_8_12_15.ownsRow R.heap.size 9 1 (.slice aA (n+m) cA) (n+m) (strL La++strL Lb)/\w15_2_5_9_8_12_15.ownsRow R.heap.size 91 3 (.slice aB (p+q) cB) (p+q) (xa++xb)/\Below R.heap.size R w15_2_5_9_8_12_15):=⟨ownA_2_5_9_8_12_15,ho_2_5_9_8_12_15,bel_2_5_9_8_12_15⟩
    have hbx:=HBx.out.below bel_2_5_9_8_12_15
    have r0:=hbx.cell 0
    have r1:=hbx.cell 1
    have r2:=hbx.cell 2
    simp at r0 r1 r2
    have hf:=fun i=>hbx.frozen i
    refine tk1 16 (.s5 (.s5 (.s5 (.succ .zero)))) (fun K hK=>?_)
    go_simp
    refine hK.out _ _ ?_ (fun hG=>?_)
    ·(intro _;exact HKeep.out _ bel_2_5_9_8_12_15)
    clear hK K
    replace hHeld:=hG (by decide)
    clear hG
    try simp only [tkp]
    refine tk1 17 (.s5 (.s5 (.s5 (.succ (.succ .zero))))) (fun K hK=>?_)
    go_simp
    refine hK.out _ _ ?_ (fun hG=>?_)
    ·(intro hne;exact absurd rfl hne)
    clear hK K hG
    refine wpLate_done (by kernel_rfl) ?_ _
    clear hHeld hbx
    go_wp2
    refine bodyPost_ret (v:=.agg #[.bool lf,.slice aA (n+m) cA,.slice aB (p+q) cB]) (by simp [results,Tryz.results123,go_sem,r0,r1,r2]) rfl ?_
    have hz:=HSz.out
    exact ⟨set3_below (HBel.out.trans (HE.out.2.2.mono HBel.out.size)) _ (by omega) _ _ _,aA,cA,aB,cB,rfl,by rw [strL_app];exact own_set (own_set (own_set (own_mono' HE.out.1 (by omega)) _ _ (by simp)) _ _ (by simp)) _ _ (by simp),own_set (own_set (own_set (own_mono' HE.out.2.1 (by omega)) _ _ (by simp)) _ _ (by simp)) _ _ (by simp)⟩
  ·skip
   go_simp
   have bel_2_9:Below R.heap.size R ((R.alloc (.cells #[] 9)).alloc (.cells #[] 91)):=bel_2.alloc bel_2.size _
   have ownB_2_9:((R.alloc (.cells #[] 9)).alloc (.cells #[] 91)).ownsRow R.heap.size 91 3 (.slice (some ⟨R.heap.size+1,0,none⟩) 0 0) 0 []:=by simpa using own_empty (R.alloc (.cells #[] 9)) 91 R.heap.size 3 bel_2.size
   have ownA_2_9:=own_below ownA_2 (below_alloc (R.alloc (.cells #[] 9)) (.cells #[] 91))
   refine hK.out _ _ ?_ (fun hG=>?_)
   ·(intro _;exact HKeep.out _ bel_2_9)
   clear hK K
   replace hHeld:=hG (by decide)
   clear hG
   try simp only [tkp]
   refine tk1 5 (.s5 .zero) (fun K hK=>?_)
   refine step_app_strs (by rfl) (.tmp 7) (.tmp 9) (by rfl) R.heap.size (.slice (some ⟨R.heap.size,0,none⟩) 0 0) 0 [] (by rfl) ownA_2_9 ka n kc La (by rfl) HR.out.1.2 (HR.out.1.1.below (bel_2_9)) (by omega) bel_2_9.size ?_
   intro v5_2_9_5 w5_2_9_5 ho_2_9_5 hg_2_9_5
   rw [Nat.zero_add,List.nil_append] at ho_2_9_5
   have bel_2_9_5:Below R.heap.size R w5_2_9_5:=bel_2_9.grown hg_2_9_5 bel_2_9.size (fun g e=>(own_lt ownA_2_9 g e).1)
   have ownB_2_9_5:=own_other ownB_2_9 ownA_2_9 (by decide) hg_2_9_5
   refine hK.out _ _ ?_ (fun hG=>?_)
   ·(intro _;exact HKeep.out _ bel_2_9_5)
   clear hK K
   replace hHeld:=hG (by decide)
   clear hG
   try simp only [tkp]
   refine tk1 8 (.s5 (.succ (.succ (.succ .zero)))) (fun K hK=>?_)
   refine step_app_strs (by rfl) (.tmp 10) (.tmp 12) (by rfl) R.heap.size v5_2_9_5 n (strL La) (by rfl) ho_2_9_5 kb m kd Lb (by rfl) HR.out.2.1.2 (HR.out.2.1.1.below (bel_2_9_5)) (by omega) bel_2_9_5.size ?_
   intro v8_2_9_5_8 w8_2_9_5_8 ho_2_9_5_8 hg_2_9_5_8
   have bel_2_9_5_8:Below R.heap.size R w8_2_9_5_8:=bel_2_9_5.grown hg_2_9_5_8 bel_2_9_5.size (fun g e=>(own_lt ho_2_9_5 g e).1)
   have ownB_2_9_5_8:=own_other ownB_2_9_5 ho_2_9_5 (by decide) hg_2_9_5_8
   refine hK.out _ _ ?_ (fun hG=>?_)
   ·(intro _;exact HKeep.out _ bel_2_9_5_8)
   clear hK K
   replace hHeld:=hG (by decide)
   clear hG
   try simp only [tkp]
   refine tk1 12 (.s5 (.s5 (.succ (.succ .zero)))) (fun K hK=>?_)
   refine step_app_kids (by rfl) (.tmp 14) (.tmp 16) (by rfl) R.heap.size (.slice (some ⟨R.heap.size+1,0,none⟩) 0 0) 0 [] (by rfl) ownB_2_9_5_8 ca p cc xa (by rfl) (HR.out.2.2.1.below (bel_2_9_5_8)) (by omega) bel_2_9_5_8.size ?_
   intro v12_2_9_5_8_12 w12_2_9_5_8_12 ho_2_9_5_8_12 hg_2_9_5_8_12
   rw [Nat.zero_add,List.nil_append] at ho_2_9_5_8_12
   have bel_2_9_5_8_12:Below R.heap.size R w12_2_9_5_8_12:=bel_2_9_5_8.grown hg_2_9_5_8_12 bel_2_9_5_8.size (fun g e=>(own_lt ownB_2_9_5_8 g e).1)
   have ownA_2_9_5_8_12:=own_other ho_2_9_5_8 ownB_2_9_5_8 (by decide) hg_2_9_5_8_12
   refine hK.out _ _ ?_ (fun hG=>?_)
   ·(intro _;exact HKeep.out _ bel_2_9_5_8_12)
   clear hK K
   replace hHeld:=hG (by decide)
   clear hG
   try simp only [tkp]
   refine tk1 15 (.s5 (.s5 (.s5 .zero))) (fun K hK=>?_)
   refine step_app_kids (by rfl) (.tmp 17) (.tmp 19) (by rfl) R.heap.size v12_2_9_5_8_12 p xa (by rfl) ho_2_9_5_8_12 cb q cd xb (by rfl) (HR.out.2.2.2.below (bel_2_9_5_8_12)) (by omega) bel_2_9_5_8_12.size ?_
   intro v15_2_9_5_8_12_15 w15_2_9_5_8_12_15 ho_2_9_5_8_12_15 hg_2_9_5_8_12_15
   have bel_2_9_5_8_12_15:Below R.heap.size R w15_2_9_5_8_12_15:=bel_2_9_5_8_12.grown hg_2_9_5_8_12_15 bel_2_9_5_8_12.size (fun g e=>(own_lt ho_2_9_5_8_12 g e).1)
   have ownA_2_9_5_8_12_15:=own_other ownA_2_9_5_8_12 ho_2_9_5_8_12 (by decide) hg_2_9_5_8_12_15
   refine hK.out _ _ ?_ (fun hG=>?_)
   ·(intro _;exact HKeep.out _ bel_2_9_5_8_12_15)
   clear hK K
   replace hHeld:=hG (by decide)
   clear hG
   try simp only [tkp]
   obtain ⟨aA,cA,eA,_⟩:=own_form ownA_2_9_5_8_12_15
   obtain ⟨aB,cB,eB,_⟩:=own_form ho_2_9_5_8_12_15
   subst eA eB
   have HE:Hid (w15_2_9_5_8_12_15.ownsRow R.heap.size 9 1 (.slice aA (n+m) cA) (n+m) (strL La++strL Lb)/\w15_2_9_5_8_12_15.ownsRow R.heap.size 91 3 (.slice aB (p+q) cB) (p+q) (xa++xb)/\Below R.heap.size R w15_2_9_5_8_12_15):=⟨ownA_2_9_5_8_12_15,ho_2_9_5_8_12_15,bel_2_9_5_8_12_15⟩
   have hbx:=HBx.out.below bel_2_9_5_8_12_15
   have r0:=hbx.cell 0
   have r1:=hbx.cell 1
   have r2:=hbx.cell 2
   simp at r0 r1 r2
   have hf:=fun i=>hbx.frozen i
   refine tk1 16 (.s5 (.s5 (.s5 (.succ .zero)))) (fun K hK=>?_)
   go_simp
   refine hK.out _ _ ?_ (fun hG=>?_)
   ·(intro _;exact HKeep.out _ bel_2_9_5_8_12_15)
   clear hK K
   replace hHeld:=hG (by decide)
   clear hG
   try simp only [tkp]
   refine tk1 17 (.s5 (.s5 (.s5 (.succ (.succ .zero))))) (fun K hK=>?_)
   go_simp
   refine hK.out _ _ ?_ (fun hG=>?_)
   ·(intro hne;exact absurd rfl hne)
   clear hK K hG
   refine wpLate_done (by kernel_rfl) ?_ _
   clear hHeld hbx
   go_wp2
   refine bodyPost_ret (v:=.agg #[.bool lf,.slice aA (n+m) cA,.slice aB (p+q) cB]) (by simp [results,Tryz.results123,go_sem,r0,r1,r2]) rfl ?_
   have hz:=HSz.out
   exact ⟨set3_below (HBel.out.trans (HE.out.2.2.mono HBel.out.size)) _ (by omega) _ _ _,aA,cA,aB,cB,rfl,by rw [strL_app];exact own_set (own_set (own_set (own_mono' HE.out.1 (by omega)) _ _ (by simp)) _ _ (by simp)) _ _ (by simp),own_set (own_set (own_set (own_mono' HE.out.2.1 (by omega)) _ _ (by simp)) _ _ (by simp)) _ _ (by simp)⟩
 ·skip
  go_simp
  have bel_9:Below R.heap.size R (R.alloc (.cells #[] 91)):=(Below.refl R.heap.size R).alloc (Below.refl R.heap.size R).size _
  have ownB_9:(R.alloc (.cells #[] 91)).ownsRow R.heap.size 91 3 (.slice (some ⟨R.heap.size,0,none⟩) 0 0) 0 []:=by simpa using own_empty R 91 R.heap.size 3 (Below.refl R.heap.size R).size
  refine hK.out _ _ ?_ (fun hG=>?_)
  ·(intro _;exact HKeep.out _ bel_9)
  clear hK K
  replace hHeld:=hG (by decide)
  clear hG
  try simp only [tkp]
  refine tk1 2 (.succ (.succ .zero)) (fun K hK=>?_)
  go_simp
  have bel_9_2:Below R.heap.size R ((R.alloc (.cells #[] 91)).alloc (.cells #[] 9)):=bel_9.alloc bel_9.size _
  have ownA_9_2:((R.alloc (.cells #[] 91)).alloc (.cells #[] 9)).ownsRow R.heap.size 9 1 (.slice (some ⟨R.heap.size+1,0,none⟩) 0 0) 0 []:=by simpa using own_empty (R.alloc (.cells #[] 91)) 9 R.heap.size 1 bel_9.size
  have ownB_9_2:=own_below ownB_9 (below_alloc (R.alloc (.cells #[] 91)) (.cells #[] 9))
  refine hK.out _ _ ?_ (fun hG=>?_)
  ·(intro _;exact HKeep.out _ bel_9_2)
  clear hK K
  replace hHeld:=hG (by decide)
  clear hG
  try simp only [tkp]
  refine tk1 5 (.s5 .zero) (fun K hK=>?_)
  refine step_app_strs (by rfl) (.tmp 7) (.tmp 9) (by rfl) R.heap.size (.slice (some ⟨R.heap.size+1,0,none⟩) 0 0) 0 [] (by rfl) ownA_9_2 ka n kc La (by rfl) HR.out.1.2 (HR.out.1.1.below (bel_9_2)) (by omega) bel_9_2.size ?_
  intro v5_9_2_5 w5_9_2_5 ho_9_2_5 hg_9_2_5
  rw [Nat.zero_add,List.nil_append] at ho_9_2_5
  have bel_9_2_5:Below R.heap.size R w5_9_2_5:=bel_9_2.grown hg_9_2_5 bel_9_2.size (fun g e=>(own_lt ownA_9_2 g e).1)
  have ownB_9_2_5:=own_other ownB_9_2 ownA_9_2 (by decide) hg_9_2_5
  refine hK.out _ _ ?_ (fun hG=>?_)
  ·(intro _;exact HKeep.out _ bel_9_2_5)
  clear hK K
  replace hHeld:=hG (by decide)
  clear hG
  try simp only [tkp]
  refine tk1 8 (.s5 (.succ (.succ (.succ .zero)))) (fun K hK=>?_)
  refine step_app_strs (by rfl) (.tmp 10) (.tmp 12) (by rfl) R.heap.size v5_9_2_5 n (strL La) (by rfl) ho_9_2_5 kb m kd Lb (by rfl) HR.out.2.1.2 (HR.out.2.1.1.below (bel_9_2_5)) (by omega) bel_9_2_5.size ?_
  intro v8_9_2_5_8 w8_9_2_5_8 ho_9_2_5_8 hg_9_2_5_8
  have bel_9_2_5_8:Below R.heap.size R w8_9_2_5_8:=bel_9_2_5.grown hg_9_2_5_8 bel_9_2_5.size (fun g e=>(own_lt ho_9_2_5 g e).1)
  have ownB_9_2_5_8:=own_other ownB_9_2_5 ho_9_2_5 (by decide) hg_9_2_5_8
  refine hK.out _ _ ?_ (fun hG=>?_)
  ·(intro _;exact HKeep.out _ bel_9_2_5_8)
  clear hK K
  replace hHeld:=hG (by decide)
  clear hG
  try simp only [tkp]
  refine tk1 12 (.s5 (.s5 (.succ (.succ .zero)))) (fun K hK=>?_)
  refine step_app_kids (by rfl) (.tmp 14) (.tmp 16) (by rfl) R.heap.size (.slice (some ⟨R.heap.size,0,none⟩) 0 0) 0 [] (by rfl) ownB_9_2_5_8 ca p cc xa (by rfl) (HR.out.2.2.1.below (bel_9_2_5_8)) (by omega) bel_9_2_5_8.size ?_
  intro v12_9_2_5_8_12 w12_9_2_5_8_12 ho_9_2_5_8_12 hg_9_2_5_8_12
  rw [Nat.zero_add,List.nil_append] at ho_9_2_5_8_12
  have bel_9_2_5_8_12:Below R.heap.size R w12_9_2_5_8_12:=bel_9_2_5_8.grown hg_9_2_5_8_12 bel_9_2_5_8.size (fun g e=>(own_lt ownB_9_2_5_8 g e).1)
  have ownA_9_2_5_8_12:=own_other ho_9_2_5_8 ownB_9_2_5_8 (by decide) hg_9_2_5_8_12
  refine hK.out _ _ ?_ (fun hG=>?_)
  ·(intro _;exact HKeep.out _ bel_9_2_5_8_12)
  clear hK K
  replace hHeld:=hG (by decide)
  clear hG
  try simp only [tkp]
  refine tk1 15 (.s5 (.s5 (.s5 .zero))) (fun K hK=>?_)
  refine step_app_kids (by rfl) (.tmp 17) (.tmp 19) (by rfl) R.heap.size v12_9_2_5_8_12 p xa (by rfl) ho_9_2_5_8_12 cb q cd xb (by rfl) (HR.out.2.2.2.below (bel_9_2_5_8_12)) (by omega) bel_9_2_5_8_12.size ?_
  intro v15_9_2_5_8_12_15 w15_9_2_5_8_12_15 ho_9_2_5_8_12_15 hg_9_2_5_8_12_15
  have bel_9_2_5_8_12_15:Below R.heap.size R w15_9_2_5_8_12_15:=bel_9_2_5_8_12.grown hg_9_2_5_8_12_15 bel_9_2_5_8_12.size (fun g e=>(own_lt ho_9_2_5_8_12 g e).1)
  have ownA_9_2_5_8_12_15:=own_other ownA_9_2_5_8_12 ho_9_2_5_8_12 (by decide) hg_9_2_5_8_12_15
  refine hK.out _ _ ?_ (fun hG=>?_)
  ·(intro _;exact HKeep.out _ bel_9_2_5_8_12_15)
  clear hK K
  replace hHeld:=hG (by decide)
  clear hG
  try simp only [tkp]
  obtain ⟨aA,cA,eA,_⟩:=own_form ownA_9_2_5_8_12_15
  obtain ⟨aB,cB,eB,_⟩:=own_form ho_9_2_5_8_12_15
  subst eA eB
  have HE:Hid (w15_9_2_5_8_12_15.ownsRow R.heap.size 9 1 (.slice aA (n+m) cA) (n+m) (strL La++strL Lb)/\w15_9_2_5_8_12_15.ownsRow R.heap.size 91 3 (.slice aB (p+q) cB) (p+q) (xa++xb)/\Below R.heap.size R w15_9_2_5_8_12_15):=⟨ownA_9_2_5_8_12_15,ho_9_2_5_8_12_15,bel_9_2_5_8_12_15⟩
  have hbx:=HBx.out.below bel_9_2_5_8_12_15
  have r0:=hbx.cell 0
  have r1:=hbx.cell 1
  have r2:=hbx.cell 2
  simp at r0 r1 r2
  have hf:=fun i=>hbx.frozen i
  refine tk1 16 (.s5 (.s5 (.s5 (.succ .zero)))) (fun K hK=>?_)
  go_simp
  refine hK.out _ _ ?_ (fun hG=>?_)
  ·(intro _;exact HKeep.out _ bel_9_2_5_8_12_15)
  clear hK K
  replace hHeld:=hG (by decide)
  clear hG
  try simp only [tkp]
  refine tk1 17 (.s5 (.s5 (.s5 (.succ (.succ .zero))))) (fun K hK=>?_)
  go_simp
  refine hK.out _ _ ?_ (fun hG=>?_)
  ·(intro hne;exact absurd rfl hne)
  clear hK K hG
  refine wpLate_done (by kernel_rfl) ?_ _
  clear hHeld hbx
  go_wp2
  refine bodyPost_ret (v:=.agg #[.bool lf,.slice aA (n+m) cA,.slice aB (p+q) cB]) (by simp [results,Tryz.results123,go_sem,r0,r1,r2]) rfl ?_
  have hz:=HSz.out
  exact ⟨set3_below (HBel.out.trans (HE.out.2.2.mono HBel.out.size)) _ (by omega) _ _ _,aA,cA,aB,cB,rfl,by rw [strL_app];exact own_set (own_set (own_set (own_mono' HE.out.1 (by omega)) _ _ (by simp)) _ _ (by simp)) _ _ (by simp),own_set (own_set (own_set (own_mono' HE.out.2.1 (by omega)) _ _ (by simp)) _ _ (by simp)) _ _ (by simp)⟩

theorem ks_ownL {S:Nat->Prop} {w:World} {B c n:Nat} {a:Option Addr} {L:List ByteArray} (h:w.ownsRow B 9 1 (.slice a n c) n (strL L)) (hn:n=L.length) (hS:∀b,B<=b->S b):KS S w a n c (gt L):=by
 obtain ⟨a',c',e,h1,h2,h3⟩:=ownS_strL h hn
 injection e with e1 _ e2
 subst e1 e2
 subst hn
 exact ks_own h1 ⟨h2,h3⟩ hS

def joinR {d:Nat}:Ro (d+1)->Ro (d+1)->Ro (d+1)
 | .inl L,.inl M=>.inl (L++M)
 | .inr l,.inr m=>.inr (l++m)
 | x,_=>x

theorem join_leaf (d:Nat) (La Lb:List ByteArray) (va vb:Value) (S:Nat->Prop) (w:World) (ha:NG S w (d+1) (.inl La) va) (hb:NG S w (d+1) (.inl Lb) vb) (hA:La.length<=1000) (hB:Lb.length<=1000) :
  Calls Tryz.prog 123 #[va,vb] w (RetG3 S w (d+1) (.inl (La++Lb))):=by
 obtain ⟨ka,kc,ca,cc,rfl,hrd,hcap,hblk⟩:=ha
 obtain ⟨kb,kd,cb,cd,rfl,hrdb,hcapb,hblkb⟩:=hb
 refine (join_raw true true ka ca kb cb La.length kc 0 cc Lb.length kd 0 cd La Lb [] [] w hrd rfl hrdb rfl (RdK.nil _ _) (RdK.nil _ _) ⟨hA,hB⟩ ⟨by omega,by omega⟩).mono ?_
 rintro e w' ⟨h1,a1,c1,a2,c2,rfl,h2,h3⟩
 exact ⟨h1,_,_,_,_,_,_,_,rfl,a1,c1,a2,c2,by rw [List.length_append],by
  rw [<- List.length_append] at h2
  exact ks_ownL h2 rfl (fun b hb=>Or.inr (by omega))⟩

theorem kid_rdK {S:Nat->Prop} {w:World} {d:Nat} {l:List (Ro d)} {b:Nat} {xs:List Value} (hl:b<w.heap.size) (hx:∀j u,xs[j]?=some u->w.cell? ⟨b,j,none⟩=some u) (hk:KidL (fun t v=>NG S w d t v) l xs):RdK w (some ⟨b,0,none⟩) l.length xs:=
 ⟨hk.len,hk.cells NG.one,Or.inr ⟨b,0,rfl,hl,fun j u hj=>by rw [Nat.zero_add];exact hx j u hj⟩⟩

theorem join_inner (d:Nat) (la lb:List (Ro d)) (va vb:Value) (S:Nat->Prop) (w:World) (ha:NG S w (d+1) (.inr la) va) (hb:NG S w (d+1) (.inr lb) vb) (hA:la.length<=1000) (hB:lb.length<=1000) :
  Calls Tryz.prog 123 #[va,vb] w (RetG3 S w (d+1) (.inr (la++lb))):=by
 obtain ⟨ka,kc,b,cc,xs,rfl,⟨hs,hcap⟩,hbl,hl,hx,hk⟩:=ha
 obtain ⟨kb,kd,b2,cd,ys,rfl,⟨hs2,hcap2⟩,hbl2,hl2,hx2,hk2⟩:=hb
 refine (join_raw false false ka (some ⟨b,0,none⟩) kb (some ⟨b2,0,none⟩) 0 kc la.length cc 0 kd lb.length cd [] [] xs ys w (Or.inl rfl) rfl (Or.inl rfl) rfl (kid_rdK hbl hx hk) (kid_rdK hbl2 hx2 hk2) ⟨by omega,by omega⟩ ⟨hA,hB⟩).mono ?_
 rintro e w' ⟨h1,a1,c1,a2,c2,rfl,h2,h3⟩
 have hcap3:=own_cap h3
 obtain ⟨a3,c3,e3,h4⟩:=own_form h3
 injection e3 with e3 _ e4
 subst e3 e4
 obtain ⟨g,rfl,hg1,hg2,hg3⟩:=h4 (by omega)
 have hz:=h1.size
 refine ⟨h1,_,_,_,_,_,_,_,rfl,a1,c1,g,c2,xs++ys,by rw [List.length_append],⟨Or.inr (by omega),by rw [List.length_append];exact hcap3⟩,hg2,by rw [List.length_append];omega,hg3,?_⟩
 exact KidL.cat (hk2.mono (fun t v q=>NG.wide (NG.below q h1) (fun b hs _=>Or.inl hs))) (hk.mono (fun t v q=>NG.wide (NG.below q h1) (fun b hs _=>Or.inl hs)))

def RetSc (w:World) (L:List Qd) (e:Ending) (w' : World):Prop:=
 ∃a' c',e=.returned (.slice a' L.length c')/\w'.ownsRow w.heap.size 34 4 (.slice a' L.length c') L.length (quadL L)/\Below w.heap.size w w'

structure ScS (w W:World) (a:Option Addr) (n c:Nat) (p:Qd):Prop where
 ib:Bx W w.heap.size 32 #[.slice a n c]
 pb:Bx W (w.heap.size+1) 34 #[.int .i64 p.s,.int .i64 p.p,.int .i64 p.o,.int .i64 p.g]
 ob:W.ownsRow (w.heap.size+2) 34 4 (.slice (some ⟨w.heap.size+2,0,none⟩) 0 0) 0 []
 lt:w.heap.size+2<W.heap.size
 eb:∀o,W.cell? ⟨w.heap.size+2,o,none⟩=none
 bel:Below w.heap.size w W
theorem ScS.keep {w W W' : World} {a:Option Addr} {n c:Nat} {p:Qd} (h:ScS w W a n c p) (hb:Below W.heap.size W W'):ScS w W' a n c p:=
 ⟨(hb.block _ h.ib.lt).trans h.ib,(hb.block _ h.pb.lt).trans h.pb,own_below h.ob hb,Nat.lt_of_lt_of_le h.lt hb.size,fun o=>by rw [hb.cell (show w.heap.size+2<W.heap.size from h.lt)];exact h.eb o,h.bel.trans (hb.mono h.bel.size)⟩
end Go.Proofs.YtcnollkkigiobaaGreat
