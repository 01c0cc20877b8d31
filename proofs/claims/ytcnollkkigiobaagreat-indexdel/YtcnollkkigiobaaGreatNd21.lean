import Derived.Test.YtcnollkkigiobaaGreatNd18
import Derived.Test.YtcnollkkigiobaaGreatNd17
set_option linter.unusedVariables false
set_option maxRecDepth 100000
namespace Go.Proofs.YtcnollkkigiobaaGreat
open Go.RowKit Go.Deep

theorem wpList_append_ints {w:World} {ops:Array Oper} {rest:List Oper} {o:Oper} {act:Act} {Q:Exit->Act->World->Prop} (hgd:o.guard=none) (s x:Operand)
  (ho:o.op=.call { callee:=.builtin .append,args:=#[s,x],argTypes:=#[151,151] })
  (B:Nat) (v:Value) (n:Nat) (xs:List Value) (hs:act.eval s=v) (hown:w.ownsRow B 2 1 v n xs)
  (a:Option Addr) (m c:Nat) (L:List Int) (hx:act.eval x=.slice a m c) (hm:m=L.length) (hrd:Rd .i64 w a m (gi L)) (hnm:n+m<=1099511627776) (hB:B<=w.heap.size)
  (h:∀v' w',w'.ownsRow B 2 1 v' (n+m) (xs++intL L)->w.grownBy w' v.ownBlock->(v'.ownBlock=v.ownBlock\/v'.ownBlock=some w.heap.size)->wpList Tryz.prog ops Q rest (act.put o.dst v') w'):wpList Tryz.prog ops Q (o::rest) act w:=by
 obtain ⟨i0,hi,hz0,hz1,hz2⟩:=info_parts Tryz.info2
 by_cases hm0:m=0
 ·subst hm0
  have hL:L=[]:=List.length_eq_zero_iff.1 hm.symm
  subst hL
  have hsrc:Src Tryz.prog i0.size 151 (.slice a 0 c) 0 [] w:=by
   cases a with
   | none=>exact Src.ofNil w Tryz.underlying151 c
   | some ad=>exact Src.ofSlice w Tryz.underlying151 ad 0 c [] (by simp) (by simp) (by simp)
  have hsh:∃b l cap,v=.slice b l cap/\l<=cap:=by
   rcases hown.2 with ⟨rfl,rfl⟩|⟨g,cap,cur,rfl,_,_,h1,_⟩
   ·exact ⟨none,0,0,rfl,Nat.le_refl _⟩
   ·exact ⟨_,n,cap,rfl,h1⟩
  obtain ⟨b,l,cap,hvv,hlc⟩:=hsh
  have hrun:=run_append_nothing (P:=Tryz.prog) w 151 151 o.type 2 i0 Tryz.underlying151 hi b l cap hlc (.slice a 0 c) hsrc
  rw [<- hvv] at hrun
  refine wpList_plain hgd fun K hK=>?_
  unfold Oper.wp
  simp [execOp,ho,resolve,invoke,builtin,hs,hx,hrun,Result.andThen]
  exact hK _ _ (h v w (by simpa [intL] using hown) ⟨rfl,rfl,rfl,Nat.le_refl _,fun _ _ _=>rfl⟩ (Or.inl rfl))
 ·rcases hrd with h0|⟨b,off,rfl,hc⟩
  ·exact absurd h0 hm0
  ·refine wpList_append_own_at w hgd s x 151 ho B 2 i0 (.int .i64 0) 1 8 Tryz.underlying151 hi hz0 hz1 hz2 rfl (by decide) v n xs hs hown ⟨b,off,none⟩ m c (intL L) hx (by rw [intL_length];omega) (fun j u hj=>?_) (fun u hu=>?_) (by unfold maxLen;omega) (by omega) hB (fun v' w' h1 h2 _ h4=>h v' w' h1 h2 h4)
   ·have hjm:j<m:=by
     have:=(List.getElem?_eq_some_iff.1 hj).1
     rw [intL_length] at this
     omega
    rw [intL_get L j (by omega)] at hj
    injection hj with hj
    subst hj
    have e:(Addr.add ⟨b,off,none⟩ j)=⟨b,off+j,none⟩:=by
     unfold Addr.add
     by_cases h:j=0
     ·subst h;simp
     ·simp [h]
    rw [e]
    exact hc j hjm
   ·simp only [intL,List.mem_map] at hu
    obtain ⟨i,_,rfl⟩:=hu
    rfl

set_option maxHeartbeats 400000 in
theorem copyInts_any (a:Option Addr) (n c:Nat) (L:List Int) (w:World) (h:Rd .i64 w a n (gi L)) (hn:n=L.length) (hn2:n<=1048576) :
  Calls Tryz.prog 120 #[.slice a n c] w fun e w'=>∃a' c',e=.returned (.slice a' n c')/\w'.ownsRow w.heap.size 2 1 (.slice a' n c') n (intL L)/\Below w.heap.size w w':=by
 have HR:Hid (Rd .i64 w a n (gi L)/\n=L.length):=⟨h,hn⟩
 clear h hn
 go_enter Tryz.func120,Tryz.ntmps120
 go_wp2_with (at_builtin;refine wpList_append_ints rfl _ _ rfl w.heap.size (.slice none 0 0) 0 [] rfl (World.ownsRow_nil _ _ _ _) a n c L rfl HR.out.2 HR.out.1 (by omega) (Nat.le_refl _) ?_)
 intro v' w' ho hg hat
 have HB:Hid (Below w.heap.size w w'):=(Below.refl _ _).grown hg (Nat.le_refl _) (fun k e=>by simp [Value.ownBlock] at e)
 obtain ⟨a',c',rfl,_⟩:=own_form ho
 have HO:Hid (w'.ownsRow w.heap.size 2 1 (.slice a' n c') n (intL L)):=ho
 clear ho hg hat
 go_wp2
 go_ret
 exact ⟨a',c',rfl,HO.out,HB.out⟩

theorem own_ownI {w:World} {B n c:Nat} {a:Option Addr} {L:List Int} (h:w.ownsRow B 2 1 (.slice a n c) n (intL L)) (hn:n=L.length) (X:Nat->Int) (hX:∀i,i<n->gi L i=X i):OwnI w B a n X:=by
 by_cases h0:n=0
 ·exact .inl h0
 ·rcases h.2 with ⟨_,q⟩|⟨g,cap,cur,q1,q2,q3,q4,q5,q6,q7⟩
  ·exact absurd q h0
  ·injection q1 with q1
   refine .inr ⟨g,q1,q2,cur,q3,by omega,fun i hi=>?_⟩
   have q8:(cur.toList.take (n*1))[i]?=(intL L)[i]?:=by rw [q7]
   rw [List.getElem?_take,if_pos (by omega),Array.getElem?_toList,intL_get L i (by omega),hX i hi] at q8
   exact q8

theorem GT.congr {w:World} {B:Nat} {v:Value} {n:Nat} {N N' : Nat->Tn} {KA DA:Nat->Option Addr} {KC DC:Nat->Nat} (h:GT w B v n N KA DA KC DC) (e:∀i,i<n->N i=N' i):GT w B v n N' KA DA KC DC:=by
 refine ⟨?_,fun i hi=>by rw [<- e i hi];exact h.keys i hi,fun i hi=>by rw [<- e i hi];exact h.kids i hi,fun i j hi hj hij h1 h2=>h.apartK i j hi hj hij (by rw [e i hi];exact h1) (by rw [e j hj];exact h2),fun i j hi hj hij h1 h2=>h.apartD i j hi hj hij (by rw [e i hi];exact h1) (by rw [e j hj];exact h2)⟩
 have q:(List.range (n*4)).map (tnCell N' KA DA KC DC)=(List.range (n*4)).map (tnCell N KA DA KC DC):=List.map_congr_left (fun c hc=>by
  have hc' : c<n*4:=List.mem_range.1 hc
  unfold tnCell
  rw [e (c / 4) (by omega)])
 rw [q]
 exact h.row

theorem GT.nil (w:World) (B:Nat) (N:Nat->Tn) (KA DA:Nat->Option Addr) (KC DC:Nat->Nat):GT w B (.slice none 0 0) 0 N KA DA KC DC:=
 ⟨⟨rfl,.inl ⟨rfl,rfl⟩⟩,fun i hi=>absurd hi (Nat.not_lt_zero _),fun i hi=>absurd hi (Nat.not_lt_zero _),fun i j hi=>absurd hi (Nat.not_lt_zero _),fun i j hi=>absurd hi (Nat.not_lt_zero _)⟩

theorem own_mono {w:World} {B B' : Nat} {e:TypeId} {size:Nat} {v:Value} {n:Nat} {xs:List Value} (h:w.ownsRow B e size v n xs) (hB:B'<=B):w.ownsRow B' e size v n xs:=by
 refine ⟨h.1,?_⟩
 rcases h.2 with q|⟨g,cap,cur,q1,q2,q3⟩
 ·exact .inl q
 ·exact .inr ⟨g,cap,cur,q1,by omega,q3⟩

def RetOt (w:World) (n:Nat) (N:Nat->Tn) (e:Ending) (w' : World):Prop:=
 Below w.heap.size w w'/\∃a c KA DA KC DC,e=.returned (.agg #[.slice a n c])/\GT w' (w.heap.size+1) (.slice a n c) n N KA DA KC DC

set_option maxHeartbeats 8000000 in
theorem copyI_any (a:Option Addr) (n c:Nat) (N:Nat->Tn) (w:World) (h:RdTn w a n N) (hn:n<=1048576) (hN:∀i,i<n->TnFit (N i)) :
  Calls Tryz.prog 85 #[.agg #[.slice a n c]] w (RetOt w n N):=by
 have HR:Hid (RdTn w a n N/\∀i,i<n->TnFit (N i)):=⟨h,hN⟩
 clear h hN
 go_enter Tryz.func85,Tryz.ntmps85
 go_wp2
 have S0:Hid (Bx ((w.alloc (.cells #[.slice a n c] 59)).alloc (.cells #[.slice none 0 0] 59)) (w.heap.size+1) 59 #[.slice none 0 0]/\Below w.heap.size w ((w.alloc (.cells #[.slice a n c] 59)).alloc (.cells #[.slice none 0 0] 59))):=by
  refine ⟨?_,(below_alloc _ _).alloc (by simp) _⟩
  have:=Bx.new (w.alloc (.cells #[.slice a n c] 59)) #[.slice none 0 0] 59
  rw [World.size_alloc] at this
  exact this
 generalize (w.alloc (.cells #[.slice a n c] 59)).alloc (.cells #[.slice none 0 0] 59)=W0 at S0 ⊢
 go_loopw [3,9] (fun q i wr=>∃(k:Nat) (ra:Option Addr) (rc:Nat) (KA DA:Nat->Option Addr) (KC DC:Nat->Nat),k<=n/\i=.int .i64 k/\q=.slice ra k rc/\GT wr (w.heap.size+2) (.slice ra k rc) k N KA DA KC DC/\Bx wr (w.heap.size+1) 59 #[.slice none 0 0]/\Below w.heap.size w wr) (fun _ i _=>n-(intOf i).toNat)
 case atStart=>exact ⟨0,none,0,fun _=>none,fun _=>none,fun _=>0,fun _=>0,Nat.zero_le _,rfl,rfl,GT.nil _ _ _ _ _ _ _,S0.out.1,S0.out.2⟩
 case round=>
  obtain ⟨k,ra,rc,KA,DA,KC,DC,hk,rfl,rfl,hgt,hbx,hbel⟩:=hrel
  clear S0
  have H0:Hid (GT wr (w.heap.size+2) (.slice ra k rc) k N KA DA KC DC/\Bx wr (w.heap.size+1) 59 #[.slice none 0 0]/\Below w.heap.size w wr):=⟨hgt,hbx,hbel⟩
  have hz0:=hbx.lt
  clear hgt hbx hbel
  by_cases hlt:k<n
  ·obtain ⟨b,o,rfl,hc⟩:=(HR.out.1.below H0.out.2.2:RdTn wr a n N).resolve_left (by omega)
   obtain ⟨ka,kc,da,dc,c0,c1,c2,c3,c4,c5⟩:=hc k hlt
   have hfit:=HR.out.2 k hlt
   have i0:(0:Int)<=(k:Int):=by omega
   have i1:(k:Int)<(n:Int):=by omega
   have HRK0:Hid (RdS wr ka (N k).kn (gt (ksL (N k)))/\Rd .i64 wr da (N k).dn (gi (kdL (N k)))):=⟨c4.congr (fun j hj=>(gt_ksL (N k) j hj).symm),c5.congr (fun j hj=>(gi_kdL (N k) j hj).symm)⟩
   have HFit:Hid ((N k).kn<=1048576/\(N k).dn<=1048576):=⟨hfit.1,hfit.2⟩
   clear hc c4 c5 hfit
   go_upto_region 5 with fail
   obtain ⟨nb,hnb⟩:∃nb,nb=wr.heap.size:=⟨_,rfl⟩
   rw [<- hnb]
   have hbx:Bx (wr.alloc (.cells #[.bool (N k).lf,.slice ka (N k).kn kc,.slice da (N k).dn dc,.int .i64 (N k).ct] 168)) nb 168 #[.bool (N k).lf,.slice ka (N k).kn kc,.slice da (N k).dn dc,.int .i64 (N k).ct]:=by rw [hnb];exact Bx.new _ _ _
   have hb0:Below wr.heap.size wr (wr.alloc (.cells #[.bool (N k).lf,.slice ka (N k).kn kc,.slice da (N k).dn dc,.int .i64 (N k).ct] 168)):=below_alloc _ _
   generalize hW1:wr.alloc (.cells #[.bool (N k).lf,.slice ka (N k).kn kc,.slice da (N k).dn dc,.int .i64 (N k).ct] 168)=W1 at hbx hb0 ⊢
   have HG:Hid (GT W1.drew (w.heap.size+2) (.slice ra k rc) k N KA DA KC DC/\Bx W1.drew (w.heap.size+1) 59 #[.slice none 0 0]/\Below w.heap.size w W1.drew/\w.heap.size+2<=W1.drew.heap.size):=⟨(H0.out.1.below hb0).below (Below.refl _ _).drew,(H0.out.2.1.below hb0).drew,(H0.out.2.2.trans (hb0.mono H0.out.2.2.size)).drew,by have:=hb0.size;show w.heap.size+2<=W1.heap.size;omega⟩
   have HRK:Hid (RdS W1.drew ka (N k).kn (gt (ksL (N k)))/\Rd .i64 W1.drew da (N k).dn (gi (kdL (N k)))):=⟨(HRK0.out.1.below hb0).below (Below.refl _ _).drew,(HRK0.out.2.below hb0).below (Below.refl _ _).drew⟩
   have HKeep:Hid (∀W',Below W1.drew.heap.size W1.drew W'->W'.cell? ⟨nb,0,none⟩=some (.bool (N k).lf)/\W'.cell? ⟨nb,1,none⟩=some (.slice ka (N k).kn kc)/\W'.cell? ⟨nb,2,none⟩=some (.slice da (N k).dn dc)/\W'.cell? ⟨nb,3,none⟩=some (.int .i64 (N k).ct)):=by
    intro W' hW'
    have q:=hbx.drew.below hW'
    exact ⟨by simpa using q.cell 0,by simpa using q.cell 1,by simpa using q.cell 2,by simpa using q.cell 3⟩
   have HNb:Hid (Bx W1.drew nb 168 #[.bool (N k).lf,.slice ka (N k).kn kc,.slice da (N k).dn dc,.int .i64 (N k).ct]/\∀g,(Value.slice ra k rc).ownBlock=some g->g≠nb):=⟨hbx.drew,fun g e=>by have:=(own_lt H0.out.1.row g e).2;omega⟩
   have HCS:Hid (Calls Tryz.prog 119 #[.slice ka (N k).kn kc] W1.drew fun e w'=>∃a' c',e=.returned (.slice a' (N k).kn c')/\w'.ownsRow W1.drew.heap.size 9 1 (.slice a' (N k).kn c') (N k).kn (strL (ksL (N k)))/\Below W1.drew.heap.size W1.drew w'):=copyStrs_any ka (N k).kn kc (ksL (N k)) W1.drew HRK.out.1 (ksL_length _).symm HFit.out.1
   have HCI:Hid (∀W',Below W1.drew.heap.size W1.drew W'->Calls Tryz.prog 120 #[.slice da (N k).dn dc] W' fun e w'=>∃a' c',e=.returned (.slice a' (N k).dn c')/\w'.ownsRow W'.heap.size 2 1 (.slice a' (N k).dn c') (N k).dn (intL (kdL (N k)))/\Below W'.heap.size W' w'):=fun W' hW'=>copyInts_any da (N k).dn dc (kdL (N k)) W' (HRK.out.2.below hW') (kdL_length _).symm HFit.out.2
   clear hbx hb0 HRK0 H0 c0 c1 c2 c3 hW1 hnb
   generalize hR:W1.drew=R at HG HRK HKeep HCS HCI HNb
   refine wp_region_late (S:=fun w'=>w'.cell? ⟨nb,0,none⟩=some (.bool (N k).lf)/\w'.cell? ⟨nb,1,none⟩=some (.slice ka (N k).kn kc)/\w'.cell? ⟨nb,2,none⟩=some (.slice da (N k).dn dc)/\w'.cell? ⟨nb,3,none⟩=some (.int .i64 (N k).ct)) 14 (by kernel_rfl) ?_ (fun hHeld=>?_)
   ·(rw [hR];exact HKeep.out _ (Below.refl _ _))
   rw [hR] at hHeld ⊢
   clear hR
   refine tk 0 .zero (v:=?_) ?_ ?_
   rotate_left
   ·(intro w h;(try dsimp only at h);go_simp) <;> with_reducible rfl
   simp only [tkp]
   refine tk 1 (.succ .zero) (v:=?_) ?_ ?_
   rotate_left
   ·(intro w h;(try dsimp only at h);go_simp) <;> with_reducible rfl
   simp only [tkp]
   refine tk 2 (.succ (.succ .zero)) (v:=?_) ?_ ?_
   rotate_left
   ·(intro w h;(try dsimp only at h);go_simp) <;> with_reducible rfl
   simp only [tkp]
   refine tk 3 (.succ (.succ (.succ .zero))) (v:=?_) ?_ ?_
   rotate_left
   ·(intro w h;(try dsimp only at h);go_simp) <;> with_reducible rfl
   simp only [tkp]
   refine tk 4 (.succ (.succ (.succ (.succ .zero)))) (v:=?_) ?_ ?_
   rotate_left
   ·(intro w h;(try dsimp only at h);go_simp) <;> with_reducible rfl
   simp only [tkp]
   refine tk 6 (.s5 (.succ .zero)) (v:=?_) ?_ ?_
   rotate_left
   ·(intro w h;(try dsimp only at h);go_simp) <;> with_reducible rfl
   simp only [tkp]
   refine tk 7 (.s5 (.succ (.succ .zero))) (v:=?_) ?_ ?_
   rotate_left
   ·(intro w h;(try dsimp only at h);go_simp) <;> with_reducible rfl
   simp only [tkp]
   refine tk 9 (.s5 (.succ (.succ (.succ (.succ .zero))))) (v:=?_) ?_ ?_
   rotate_left
   ·(intro w h;(try dsimp only at h);go_simp) <;> with_reducible rfl
   simp only [tkp]
   refine tk 10 (.s5 (.s5 .zero)) (v:=?_) ?_ ?_
   rotate_left
   ·(intro w h;(try dsimp only at h);go_simp) <;> with_reducible rfl
   simp only [tkp]
   refine tk1 5 (.s5 .zero) (fun K hK=>?_)
   refine step_t1 (by rfl) 119 17 _ (by rfl) (.slice ka (N k).kn kc) (by rfl) (fun _ _=>by rfl) ?_
   (with_reducible refine HCS.out.mono ?_)
   rintro e w1 ⟨a1,c1',rfl,ho1,hb1⟩
   refine ⟨_,rfl,?_⟩
   have H1:Hid (w1.ownsRow R.heap.size 9 1 (.slice a1 (N k).kn c1') (N k).kn (strL (ksL (N k)))/\Below R.heap.size R w1):=⟨ho1,hb1⟩
   clear ho1 hb1
   refine hK.out _ _ ?_ (fun hG=>?_)
   ·(intro _;exact HKeep.out _ H1.out.2)
   clear hK K
   replace hHeld:=hG (by decide)
   clear hG
   try simp only [tkp]
   refine tk1 8 (.s5 (.succ (.succ (.succ .zero)))) (fun K hK=>?_)
   have HCI1:Hid (Calls Tryz.prog 120 #[.slice da (N k).dn dc] w1 fun e w'=>∃a' c',e=.returned (.slice a' (N k).dn c')/\w'.ownsRow w1.heap.size 2 1 (.slice a' (N k).dn c') (N k).dn (intL (kdL (N k)))/\Below w1.heap.size w1 w'):=HCI.out w1 H1.out.2
   refine step_t1 (by rfl) 120 20 _ (by rfl) (.slice da (N k).dn dc) (by rfl) (fun _ _=>by rfl) ?_
   (with_reducible refine HCI1.out.mono ?_)
   rintro e w2 ⟨a2,c2',rfl,ho2,hb2⟩
   refine ⟨_,rfl,?_⟩
   have H2:Hid (OwnS w2 R.heap.size a1 (N k).kn (N k).ks/\OwnI w2 R.heap.size a2 (N k).dn (N k).kd/\Below R.heap.size R w2):=by
    have q1:=own_ownS (own_below H1.out.1 hb2) (ksL_length _).symm
    refine ⟨?_,(own_ownI ho2 (kdL_length _).symm (N k).kd (fun i hi=>gi_kdL (N k) i hi)).mono H1.out.2.size,H1.out.2.trans (hb2.mono H1.out.2.size)⟩
    rcases q1 with q|⟨g,e,hg,hr⟩
    ·exact .inl q
    ·exact .inr ⟨g,e,hg,hr.congr (fun i hi=>by rw [gt_ksL (N k) i hi])⟩
   clear ho2 hb2 HCI1
   refine hK.out _ _ ?_ (fun hG=>?_)
   ·(intro _;exact HKeep.out _ H2.out.2.2)
   clear hK K
   replace hHeld:=hG (by decide)
   clear hG
   try simp only [tkp]
   refine tk1 11 (.s5 (.s5 (.succ .zero))) (fun K hK=>?_)
   go_simp
   refine hK.out _ _ ?_ (fun hG=>?_)
   ·(intro _;exact hHeld)
   clear hK K
   replace hHeld:=hG (by decide)
   clear hG
   try simp only [tkp]
   refine tk1 12 (.s5 (.s5 (.succ (.succ .zero)))) (fun K hK=>?_)
   go_simp
   refine hK.out _ _ ?_ (fun hG=>?_)
   ·(intro _;exact HKeep.out _ (H2.out.2.2.alloc H2.out.2.2.size _))
   clear hK K
   replace hHeld:=hG (by decide)
   clear hG
   try simp only [tkp]
   refine tk1 13 (.s5 (.s5 (.succ (.succ (.succ .zero))))) (fun K hK=>?_)
   refine step_app_node (by rfl) (.tmp 13) (.tmp 25) (by rfl) (w.heap.size+2) (.slice ra k rc) k _ (by rfl) (own_below (own_below HG.out.1.row H2.out.2.2) (below_alloc _ _)) w2.heap.size 1 (.bool (N k).lf) (.slice a1 (N k).kn c1') (.slice a2 (N k).dn c2') (.int .i64 (N k).ct) (by rfl) (fun j u hj=>by rw [(Bx.new w2 #[.bool (N k).lf,.slice a1 (N k).kn c1',.slice a2 (N k).dn c2',.int .i64 (N k).ct] 168).cell j];simpa using hj) (by intro u hu;simp at hu;rcases hu with rfl|rfl|rfl|rfl <;> rfl) (by omega) (by have:=H2.out.2.2.size;have:=HG.out.2.2.2;simp;omega) ?_
   intro v3 w3 ho3 hg3 hat3
   obtain ⟨a3,c3',e3,_⟩:=own_form ho3
   subst e3
   have HX:Hid (∃KA' DA' KC' DC',GT w3 (w.heap.size+2) (.slice a3 (k+1) c3') (k+1) N KA' DA' KC' DC'/\Bx w3 (w.heap.size+1) 59 #[.slice none 0 0]/\Below w.heap.size w w3):=by
    obtain ⟨v',N',KA',DA',KC',DC',e,q1,q2,q3,q4,q5,q6⟩:=GT.more HG.out.1 HG.out.2.2.2 H2.out.2.2 (N k) a1 a2 c1' c2' H2.out.1 H2.out.2.1 ho3 hg3 hat3 (P:=fun N'=>N' k=N k) (by simp)
    injection e with e
    subst e
    have hlt:=own_lt HG.out.1.row
    refine ⟨KA',DA',KC',DC',q1.congr (fun i hi=>?_),HG.out.2.1.grown q2 (fun e=>by have:=(hlt _ e).1;omega),HG.out.2.2.1.grown q2 (by have:=HG.out.2.2.2;omega) (fun g e=>by have:=(hlt g e).1;omega)⟩
    by_cases e:i=k
    ·subst e;exact q6
    ·exact (q4 i (by omega)).1
   have k3:=HKeep.out _ H2.out.2.2
   have k4:w3.cell? ⟨nb,0,none⟩=some (.bool (N k).lf)/\w3.cell? ⟨nb,1,none⟩=some (.slice ka (N k).kn kc)/\w3.cell? ⟨nb,2,none⟩=some (.slice da (N k).dn dc)/\w3.cell? ⟨nb,3,none⟩=some (.int .i64 (N k).ct):=by
    have q:=((HNb.out.1.below H2.out.2.2).alloc (.cells #[.bool (N k).lf,.slice a1 (N k).kn c1',.slice a2 (N k).dn c2',.int .i64 (N k).ct] 168)).grown hg3 (fun e=>HNb.out.2 _ e rfl)
    exact ⟨by simpa using q.cell 0,by simpa using q.cell 1,by simpa using q.cell 2,by simpa using q.cell 3⟩
   clear ho3 hg3 hat3 k3
   refine hK.out _ _ ?_ (fun hG=>?_)
   ·(intro _;exact k4)
   clear hK K
   replace hHeld:=hG (by decide)
   clear hG
   try simp only [tkp]
   refine late_one 14 (.s5 (.s5 (.succ (.succ (.succ (.succ .zero)))))) (by kernel_rfl) (fun K hK=>?_)
   go_simp
   refine hK.out _ _ ?_ (fun hG=>?_)
   ·(intro hne;exact absurd rfl hne)
   clear hK K hG
   refine wpLate_done (by kernel_rfl) ?_ _
   obtain ⟨KA',DA',KC',DC',hx⟩:=HX.out
   have HX2:Hid (GT w3 (w.heap.size+2) (.slice a3 (k+1) c3') (k+1) N KA' DA' KC' DC'/\Bx w3 (w.heap.size+1) 59 #[.slice none 0 0]/\Below w.heap.size w w3):=hx
   clear hx hHeld k4
   go_wp2
   go_roundw
   case rel=>exact ⟨k+1,a3,c3',KA',DA',KC',DC',by omega,by go_num,rfl,HX2.out⟩
   case measure=>simp [intOf];omega
  ·have e:k=n:=by omega
   subst e
   have z0:=H0.out.2.1.cell 0
   simp at z0
   have zf:=H0.out.2.1.frozen 0
   go_wp2
   refine bodyPost_ret (v:=.agg #[.slice ra k rc]) (by simp [results,Tryz.results85,go_sem,z0]) rfl ⟨H0.out.2.2.setCell (by simp) _,ra,rc,KA,DA,KC,DC,rfl,?_⟩
   have q:=H0.out.1.keep (w':=wr.setCell ⟨w.heap.size+1,0,none⟩ (.slice ra k rc)) (fun x hx=>Below.heap_setCell _ _ _ _ (by have:=(H0.out.1.used hx).1;show x≠w.heap.size+1;omega))
   exact ⟨own_mono q.row (by omega),fun i hi=>(q.keys i hi).mono (by omega),fun i hi=>(q.kids i hi).mono (by omega),q.apartK,q.apartD⟩
end Go.Proofs.YtcnollkkigiobaaGreat
