import Derived.Test.YtpaomghibppgkaaGreatNv34
import Derived.Test.YtpaomghibppgkaaGreatNv33
import Derived.Test.YtpaomghibppgkaaGreatNv8
import Derived.Test.YtpaomghibppgkaaGreatNv35
set_option linter.unusedVariables false
set_option maxRecDepth 100000
namespace Go.Proofs.YtpaomghibppgkaaGreat
open Go.RowKit Go.Deep

theorem RetRd.from {N:Nat->Tn} {rb b o n c x:Nat} {dep D:Int} {hk:Bool} {lk:ByteArray} {d:Nat} {w W:World} {e:Ending} {w' : World} (h:RetRd N rb b o n c x dep D hk lk d W e w') (hg:w.grownBy W (some rb)):RetRd N rb b o n c x dep D hk lk d w e w':=by
 obtain ⟨h1,v,ok,e1,h2⟩:=h
 refine ⟨grown_trans hg h1,v,ok,e1,?_⟩
 rcases h2 with ⟨q1,t,D',hk',lk',q2,q3,q4⟩|q
 ·exact Or.inl ⟨q1,t,D',hk',lk',q2,q3,q4.mono (Nat.le_refl _) (fun bb hs _=>⟨by have:=hg.size;show w.heap.size<=bb;have hs' : W.heap.size<=bb:=hs;omega,rfl⟩)⟩
 ·exact Or.inr q

set_option maxHeartbeats 4000000 in
theorem read_any (N:Nat->Tn) (rb b o n c:Nat) (hn:n<=5000) (hbr:b<rb) (hN:∀i,i<n->TnFit (N i)):∀(d x:Nat) (dep D:Int) (hk:Bool) (lk:ByteArray) (w:World),n<=x+d->x<=n->0<=dep->dep<=(x:Int)->RBx w rb b o n c x D lk hk->(∀W:World,Below rb w W->RdTn W (some ⟨b,o,none⟩) n N)->
  Calls Tryz.prog 126 #[.pointer (some ⟨rb,0,none⟩),.int .i64 dep] w (RetRd N rb b o n c x dep D hk lk d w):=by
 intro d
 induction d with
 | zero=>
  intro x dep D hk lk w hf hx hd0 hd1 h hRd
  have e:x=n:=by omega
  subst e
  have c0:=h.cell 0
  have c1:=h.cell 1
  simp at c0 c1
  have hq:((x:Int) == (x:Int))=true:=by simp
  clear h hRd hf hN
  go_enter Tryz.func126,Tryz.ntmps126
  go_wp2
  go_quiet (fail)
  go_wp2
  refine bodyPost_ret (v:=.tuple #[.nilIface,.bool false]) (by simp [results,Tryz.results126,go_sem]) rfl ⟨grown_below (below_drewN (Below.refl _ _) _),_,false,rfl,Or.inr ⟨rfl,fun ⟨t,_⟩=>t.elim⟩⟩
 | succ d ih=>
  intro x dep D hk lk w hf hx hd0 hd1 h hRd
  have hrl:=h.lt
  by_cases hxn:x=n
  ·subst hxn
   have c0:=h.cell 0
   have c1:=h.cell 1
   simp at c0 c1
   have hq:((x:Int) == (x:Int))=true:=by simp
   clear h hRd hf hN ih
   go_enter Tryz.func126,Tryz.ntmps126
   go_wp2
   go_quiet (fail)
   go_wp2
   refine bodyPost_ret (v:=.tuple #[.nilIface,.bool false]) (by simp [results,Tryz.results126,go_sem]) rfl ⟨grown_below (below_drewN (Below.refl _ _) _),_,false,rfl,Or.inr ⟨rfl,fun ⟨t,D',hk',lk',g⟩=>?_⟩⟩
   have h1:=g.le
   have h2:=nodes_pos (d+1) t
   omega
  ·have hlt:x<n:=by omega
   have HR:Hid (RBx w rb b o n c x D lk hk):=h
   have HRd:Hid (∀W:World,Below rb w W->RdTn W (some ⟨b,o,none⟩) n N):=hRd
   have HIH:Hid (∀(W:World) (y:Nat) (D2:Int) (lk2:ByteArray) (hk2:Bool),Below rb w W->x+1<=y->y<=n->RBx W rb b o n c y D2 lk2 hk2->Calls Tryz.prog 126 #[.pointer (some ⟨rb,0,none⟩),.int .i64 (dep+1)] W (RetRd N rb b o n c y (dep+1) D2 hk2 lk2 d W)):=fun W y D2 lk2 hk2 hW hy hyn hrb=>ih y (dep+1) D2 hk2 lk2 W (by omega) hyn (by omega) (by omega) hrb (fun W' hW'=>hRd W' (hW.trans hW'))
   have HFit:Hid (TnFit (N x)):=hN x hlt
   obtain ⟨ka,kc,da,dc,hcells⟩:∃ka kc da dc,∀W:World,Below rb w W->W.cell? ⟨b,o+x*4,none⟩=some (.bool (N x).lf)/\W.cell? ⟨b,o+x*4+1,none⟩=some (.slice ka (N x).kn kc)/\W.cell? ⟨b,o+x*4+2,none⟩=some (.slice da (N x).dn dc)/\W.cell? ⟨b,o+x*4+3,none⟩=some (.int .i64 (N x).ct)/\RdS W ka (N x).kn (N x).ks/\Rd .i64 W da (N x).dn (N x).kd:=by
    rcases hRd w (Below.refl _ _) with q|⟨b',o',e,hc⟩
    ·omega
    injection e with e
    injection e with e1 e2
    subst e1
    subst e2
    obtain ⟨ka,kc,da,dc,h0,h1,h2,h3,h4,h5⟩:=hc x hlt
    refine ⟨ka,kc,da,dc,fun W hW=>?_⟩
    rcases hRd W hW with q|⟨b',o',e,hc'⟩
    ·omega
    injection e with e
    injection e with e1 e2
    subst e1
    subst e2
    obtain ⟨ka',kc',da',dc',g0,g1,g2,g3,g4,g5⟩:=hc' x hlt
    have hbb:b<rb:=hbr
    have e1:=(hW.cell (p:=⟨b,o+x*4+1,none⟩) hbb)
    have e2:=(hW.cell (p:=⟨b,o+x*4+2,none⟩) hbb)
    rw [g1,h1] at e1
    rw [g2,h2] at e2
    injection e1 with e1
    injection e1 with e1 _ e3
    injection e2 with e2
    injection e2 with e2 _ e4
    subst e1
    subst e2
    subst e3
    subst e4
    exact ⟨g0,g1,g2,g3,g4,g5⟩
   have HC:Hid (∀W:World,Below rb w W->W.cell? ⟨b,o+x*4,none⟩=some (.bool (N x).lf)/\W.cell? ⟨b,o+x*4+1,none⟩=some (.slice ka (N x).kn kc)/\W.cell? ⟨b,o+x*4+2,none⟩=some (.slice da (N x).dn dc)/\W.cell? ⟨b,o+x*4+3,none⟩=some (.int .i64 (N x).ct)/\RdS W ka (N x).kn (N x).ks/\Rd .i64 W da (N x).dn (N x).kd):=hcells
   have c0:=h.cell 0
   have c1:=h.cell 1
   have f1:=h.frozen 1
   simp at c0 c1
   obtain ⟨d0,d1,d2,d3,_,_⟩:=hcells w (Below.refl _ _)
   have hq:((x:Int) == (n:Int))=false:=by simp;omega
   have hx0:(0:Int)<=(x:Int):=by omega
   have hxI:(x:Int)<(n:Int):=by omega
   clear h hRd ih hcells hN
   go_enter Tryz.func126,Tryz.ntmps126
   go_wp2
   go_quiet (fail)
   go_wp2
   have H1:Hid (Below w.heap.size w (w.drewN nq)):=below_drewN (Below.refl _ _) nq
   clear c0 c1 f1 d0 d1 d2 d3
   generalize w.drewN nq=w1 at H1 ⊢
   have HR1:Hid (RBx w1 rb b o n c x D lk hk):=HR.out.below H1.out
   have c0:=HR1.out.cell 0
   have c1:=HR1.out.cell 1
   have f1:=HR1.out.frozen 1
   have hl1:=HR1.out.lt
   simp at c0 c1
   obtain ⟨d0,d1,d2,d3,_,_⟩:=HC.out w1 (H1.out.mono (by omega))
   have hbl:b<w1.heap.size:=World.block_lt_of_cell? _ _ d0
   go_region_held3 (fun w'=>w'.cell? ⟨rb,0,none⟩=some (.slice (some ⟨b,o,none⟩) n c)/\w'.cell? ⟨rb,1,none⟩=some (.int .i64 (x:Int))/\w'.cell? ⟨b,o+x*4,none⟩=some (.bool (N x).lf)/\w'.cell? ⟨b,o+x*4+1,none⟩=some (.slice ka (N x).kn kc)/\w'.cell? ⟨b,o+x*4+2,none⟩=some (.slice da (N x).dn dc)/\w'.cell? ⟨b,o+x*4+3,none⟩=some (.int .i64 (N x).ct)) (go_keep) (fail)
   go_upto_region 4 with fail
   have S2:Hid (Bx (w1.alloc (.cells #[.bool (N x).lf,.slice ka (N x).kn kc,.slice da (N x).dn dc,.int .i64 (N x).ct] 210)).drew w1.heap.size 210 #[.bool (N x).lf,.slice ka (N x).kn kc,.slice da (N x).dn dc,.int .i64 (N x).ct]/\RBx (w1.alloc (.cells #[.bool (N x).lf,.slice ka (N x).kn kc,.slice da (N x).dn dc,.int .i64 (N x).ct] 210)).drew rb b o n c x D lk hk/\Below w1.heap.size w1 (w1.alloc (.cells #[.bool (N x).lf,.slice ka (N x).kn kc,.slice da (N x).dn dc,.int .i64 (N x).ct] 210)).drew):=⟨(Bx.new _ _ _).drew,(HR1.out.alloc _).drew,(below_alloc _ _).drew⟩
   clear c0 c1 f1 d0 d1 d2 d3
   generalize (w1.alloc (.cells #[.bool (N x).lf,.slice ka (N x).kn kc,.slice da (N x).dn dc,.int .i64 (N x).ct] 210)).drew=w2 at S2 ⊢
   have hz1:=H1.out.size
   have c1:=S2.out.2.1.cell 1
   have f1:=S2.out.2.1.frozen 1
   have hl2:=S2.out.2.1.lt
   have hl3:=S2.out.1.lt
   simp at c1
   go_upto_region 5 with fail
   have S3:Hid (Bx (w2.setCell ⟨rb,1,none⟩ (.int .i64 ((x:Int)+1))) w1.heap.size 210 #[.bool (N x).lf,.slice ka (N x).kn kc,.slice da (N x).dn dc,.int .i64 (N x).ct]/\RBx (w2.setCell ⟨rb,1,none⟩ (.int .i64 ((x:Int)+1))) rb b o n c (x+1) D lk hk/\w.grownBy (w2.setCell ⟨rb,1,none⟩ (.int .i64 ((x:Int)+1))) (some rb)/\Below rb w (w2.setCell ⟨rb,1,none⟩ (.int .i64 ((x:Int)+1)))):=by
    have hg:w.grownBy (w2.setCell ⟨rb,1,none⟩ (.int .i64 ((x:Int)+1))) (some rb):=grown_trans (grown_below (H1.out.trans (S2.out.2.2.mono H1.out.size))) (grown_set _ _ _ _)
    refine ⟨S2.out.1.other (by simp;omega) _,?_,hg,below_grown hg (by omega) (Nat.le_refl _)⟩
    have q:=S2.out.2.1.set 1 (.int .i64 ((x:Int)+1))
    exact q
   clear c1 f1 S2 HR1 HR
   generalize (w2.setCell ⟨rb,1,none⟩ (.int .i64 ((x:Int)+1)))=w3 at S3 ⊢
   cases hlf:(N x).lf with
   | true=>
    rw [hlf] at S3
    have g0:=S3.out.1.cell 0
    have g1:=S3.out.1.cell 1
    have g2:=S3.out.1.cell 2
    have g3:=S3.out.1.cell 3
    simp at g0 g1 g2 g3
    go_wp2_with fail
    refine (readLeaf_any N rb b o n c x dep D hk lk d w3 ka da kc dc S3.out.2.1 hlt hlf HFit.out (fun W hW=>(HC.out W (S3.out.2.2.2.trans hW)).2.2.2.2.1) hd0).mono ?_
    rintro e w4 hret
    have HRet:=hret.from S3.out.2.2.1
    obtain ⟨hg4,v,ok,rfl,hr4⟩:=HRet
    have HF:Hid (RetRd N rb b o n c x dep D hk lk (d+1) w (.returned (.tuple #[v,.bool ok])) w4):=⟨hg4,v,ok,rfl,hr4⟩
    clear hret hg4 hr4 g0 g1 g2 g3
    go_wp2
    refine bodyPost_ret (v:=.tuple #[v,.bool ok]) (by simp [results,Tryz.results126,go_sem]) rfl HF.out
   | false=>
    rw [hlf] at S3
    have g0:=S3.out.1.cell 0
    have g1:=S3.out.1.cell 1
    have g2:=S3.out.1.cell 2
    have g3:=S3.out.1.cell 3
    simp at g0 g1 g2 g3
    go_wp2_with fail
    refine (readInner_any N rb b o n c x dep D hk lk d w3 ka da kc dc S3.out.2.1 hlt hn hlf HFit.out (fun W hW=>(HC.out W (S3.out.2.2.2.trans hW)).2.2.2.2.1) (fun W hW=>(HC.out W (S3.out.2.2.2.trans hW)).2.2.2.2.2) hd0 (by omega) (fun W y D2 lk2 hk2 hW=>HIH.out W y D2 lk2 hk2 (S3.out.2.2.2.trans hW))).mono ?_
    rintro e w4 hret
    have HRet:=hret.from S3.out.2.2.1
    obtain ⟨hg4,v,ok,rfl,hr4⟩:=HRet
    have HF:Hid (RetRd N rb b o n c x dep D hk lk (d+1) w (.returned (.tuple #[v,.bool ok])) w4):=⟨hg4,v,ok,rfl,hr4⟩
    clear hret hg4 hr4 g0 g1 g2 g3
    go_wp2
    refine bodyPost_ret (v:=.tuple #[v,.bool ok]) (by simp [results,Tryz.results126,go_sem]) rfl HF.out

set_option maxHeartbeats 1000000 in
theorem read_none (a:Option Addr) (rb c:Nat) (D:Int) (hk:Bool) (lk:ByteArray) (w:World) (h:Bx w rb 223 #[.slice a 0 c,.int .i64 0,.int .i64 D,.string lk,.bool hk]) :
  Calls Tryz.prog 126 #[.pointer (some ⟨rb,0,none⟩),.int .i64 0] w fun e w'=>e=.returned (.tuple #[.nilIface,.bool false])/\Below w.heap.size w w':=by
 have c0:=h.cell 0
 have c1:=h.cell 1
 simp at c0 c1
 clear h
 go_enter Tryz.func126,Tryz.ntmps126
 go_wp2
 go_quiet (fail)
 go_wp2
 refine bodyPost_ret (v:=.tuple #[.nilIface,.bool false]) (by simp [results,Tryz.results126,go_sem]) rfl ⟨rfl,below_drewN (Below.refl _ _) _⟩

def RetTree (w:World) (n:Nat) (N:Nat->Tn) (e:Ending) (w' : World):Prop:=
 Below w.heap.size w w'/\∃v ok,e=.returned (.tuple #[v,.bool ok])/\
  ((ok=true/\∃(t:Ro n) (t' : Ro 21) (h:Nat),VTt n N t'/\keysR 21 t'=keysR n t/\BalR n true t h/\Tells N 0 n t 0/\nodesR n t=n/\TAt (fun b=>w.heap.size<=b) w' n t v)\/(ok=false/\¬ VT n N))

set_option maxHeartbeats 4000000 in
theorem readTree_any (a:Option Addr) (n c:Nat) (N:Nat->Tn) (w:World) (h:RdTn w a n N) (hn:n<=1048576) (hN:∀i,i<n->TnFit (N i)) :
  Calls Tryz.prog 103 #[.agg #[.slice a n c]] w (RetTree w n N):=by
 by_cases h5:5000<n
 ·have i5:(5000:Int)<(n:Int):=by omega
  have i5' : decide ((5000:Int)<(n:Int))=true:=decide_eq_true i5
  have n5' : decide (5000<n)=true:=decide_eq_true h5
  have HNo:Hid (¬ VT n N):=fun ⟨t,hv⟩=>by have:=hv.2.1;omega
  clear h hN
  go_enter Tryz.func103,Tryz.ntmps103
  go_wp2
  refine bodyPost_ret (v:=.tuple #[.nilIface,.bool false]) (by simp [results,Tryz.results103,go_sem]) rfl ⟨below_alloc _ _,_,false,rfl,.inr ⟨rfl,HNo.out⟩⟩
 ·have i5:¬ (5000:Int)<(n:Int):=by omega
  have i5' : decide ((5000:Int)<(n:Int))=false:=decide_eq_false i5
  have n5' : decide (5000<n)=false:=decide_eq_false h5
  by_cases h0:n=0
  ·subst h0
   have HNo:Hid (¬ VT 0 N):=fun ⟨t,hv⟩=>by have:=hv.1;omega
   clear h hN
   go_enter Tryz.func103,Tryz.ntmps103
   go_upto_region 4 with fail
   have S1:Hid (Bx ((w.alloc (.cells #[.slice a 0 c] 68)).alloc (.cells #[.slice a 0 c,.int .i64 0,.int .i64 0,.string { data:=#[] },.bool false] 223)) (w.heap.size+1) 223 #[.slice a 0 c,.int .i64 0,.int .i64 0,.string { data:=#[] },.bool false]/\Below w.heap.size w ((w.alloc (.cells #[.slice a 0 c] 68)).alloc (.cells #[.slice a 0 c,.int .i64 0,.int .i64 0,.string { data:=#[] },.bool false] 223))):=by
    refine ⟨?_,(below_alloc _ _).alloc (by simp) _⟩
    have q:=Bx.new (w.alloc (.cells #[.slice a 0 c] 68)) #[.slice a 0 c,.int .i64 0,.int .i64 0,.string { data:=#[] },.bool false] 223
    simpa using q
   generalize ((w.alloc (.cells #[.slice a 0 c] 68)).alloc (.cells #[.slice a 0 c,.int .i64 0,.int .i64 0,.string { data:=#[] },.bool false] 223))=W at S1 ⊢
   go_wp2_with fail
   refine (read_none a (w.heap.size+1) c 0 false _ W S1.out.1).mono ?_
   rintro e w1 ⟨rfl,hb1⟩
   have HB:Hid (Below w.heap.size w w1):=S1.out.2.trans (hb1.mono S1.out.2.size)
   clear hb1 S1
   go_wp2
   go_quiet (fail)
   go_wp2
   refine bodyPost_ret (v:=.tuple #[.nilIface,.bool false]) (by simp [results,Tryz.results103,go_sem]) rfl ⟨below_drewN HB.out _,_,false,rfl,.inr ⟨rfl,HNo.out⟩⟩
  ·obtain ⟨b,o,rfl,hbw⟩:∃b o,a=some ⟨b,o,none⟩/\b<w.heap.size:=by
    rcases h with q|⟨b,o,e,hc⟩
    ·exact absurd q h0
    ·obtain ⟨_,_,_,_,q,_⟩:=hc 0 (by omega)
     exact ⟨b,o,e,World.block_lt_of_cell? _ _ q⟩
   have HR:Hid (RdTn w (some ⟨b,o,none⟩) n N/\∀i,i<n->TnFit (N i)):=⟨h,hN⟩
   clear h hN
   go_enter Tryz.func103,Tryz.ntmps103
   go_upto_region 4 with fail
   have S1:Hid (RBx ((w.alloc (.cells #[.slice (some ⟨b,o,none⟩) n c] 68)).alloc (.cells #[.slice (some ⟨b,o,none⟩) n c,.int .i64 0,.int .i64 0,.string { data:=#[] },.bool false] 223)) (w.heap.size+1) b o n c 0 0 { data:=#[] } false/\Bx ((w.alloc (.cells #[.slice (some ⟨b,o,none⟩) n c] 68)).alloc (.cells #[.slice (some ⟨b,o,none⟩) n c,.int .i64 0,.int .i64 0,.string { data:=#[] },.bool false] 223)) w.heap.size 68 #[.slice (some ⟨b,o,none⟩) n c]/\Below w.heap.size w ((w.alloc (.cells #[.slice (some ⟨b,o,none⟩) n c] 68)).alloc (.cells #[.slice (some ⟨b,o,none⟩) n c,.int .i64 0,.int .i64 0,.string { data:=#[] },.bool false] 223))/\((w.alloc (.cells #[.slice (some ⟨b,o,none⟩) n c] 68)).alloc (.cells #[.slice (some ⟨b,o,none⟩) n c,.int .i64 0,.int .i64 0,.string { data:=#[] },.bool false] 223)).heap.size=w.heap.size+2):=by
    refine ⟨?_,(Bx.new _ _ _).alloc _,(below_alloc _ _).alloc (by simp) _,by simp⟩
    have q:=Bx.new (w.alloc (.cells #[.slice (some ⟨b,o,none⟩) n c] 68)) #[.slice (some ⟨b,o,none⟩) n c,.int .i64 0,.int .i64 0,.string { data:=#[] },.bool false] 223
    simp only [World.size_alloc] at q
    exact q
   generalize ((w.alloc (.cells #[.slice (some ⟨b,o,none⟩) n c] 68)).alloc (.cells #[.slice (some ⟨b,o,none⟩) n c,.int .i64 0,.int .i64 0,.string { data:=#[] },.bool false] 223))=W at S1 ⊢
   go_wp2_with fail
   refine (read_any N (w.heap.size+1) b o n c (by omega) (by omega) HR.out.2 n 0 0 0 false _ W (by omega) (by omega) (by omega) (by omega) S1.out.1 (fun W' hW'=>HR.out.1.below (S1.out.2.2.1.trans (hW'.mono (by omega))))).mono ?_
   rintro e w1 ⟨hg1,v,ok,rfl,hr⟩
   have hsW:=S1.out.2.2.2
   have HB:Hid (Below w.heap.size w w1):=S1.out.2.2.1.trans (below_grown hg1 (by omega) (by omega))
   have HT:Hid (Bx w1 w.heap.size 68 #[.slice (some ⟨b,o,none⟩) n c]):=S1.out.2.1.grown hg1 (fun e=>by injection e with e;omega)
   have HRR:Hid ((ok=true/\∃t D' hk' lk',Good N n 0 0 0 false { data:=#[] } n t D' hk' lk'/\RBx w1 (w.heap.size+1) b o n c (0+nodesR n t) D' lk' hk'/\TAt (fun b=>W.heap.size<=b) w1 n t v)\/(ok=false/\¬ ∃t D' hk' lk',Good N n 0 0 0 false { data:=#[] } n t D' hk' lk')):=hr
   have HWs:Hid (w.heap.size<=W.heap.size):=by
    show w.heap.size<=W.heap.size
    omega
   clear hg1 hr S1 hsW
   cases ok with
   | false=>
    have HNo:Hid (¬ VT n N):=by
     rintro ⟨t,hv⟩
     obtain ⟨t2,D',hk',lk',g,_⟩:=vt_good hv (Nat.le_refl n)
     rcases HRR.out with ⟨q,_⟩|⟨_,q⟩
     ·cases q
     ·exact q ⟨t2,D',hk',lk',g⟩
    go_wp2
    go_quiet (fail)
    go_wp2
    refine bodyPost_ret (v:=.tuple #[.nilIface,.bool false]) (by simp [results,Tryz.results103,go_sem]) rfl ⟨below_drewN HB.out _,_,false,rfl,.inr ⟨rfl,HNo.out⟩⟩
   | true=>
    obtain ⟨t,D',hk',lk',hgood,hrb,hta⟩:∃t D' hk' lk',Good N n 0 0 0 false { data:=#[] } n t D' hk' lk'/\RBx w1 (w.heap.size+1) b o n c (0+nodesR n t) D' lk' hk'/\TAt (fun b=>W.heap.size<=b) w1 n t v:=by
     rcases HRR.out with ⟨_,q⟩|⟨q,_⟩
     ·exact q
     ·cases q
    have HG:Hid (Good N n 0 0 0 false { data:=#[] } n t D' hk' lk'/\TAt (fun b=>W.heap.size<=b) w1 n t v):=⟨hgood,hta⟩
    have y0:=HT.out.cell 0
    have hle:=hgood.le
    rw [Nat.zero_add] at hrb hle
    obtain ⟨m,hm⟩:∃m,m=nodesR n t:=⟨_,rfl⟩
    rw [<- hm] at hrb hle
    have r1:=hrb.cell 1
    have HM:Hid (m=nodesR n t):=hm
    simp at y0 r1
    clear HRR hgood hrb hta hm
    obtain ⟨vb,hvf⟩:∃p,v=.iface 243 (.pointer (some p))\/v=.iface 248 (.pointer (some p)):=by
     obtain ⟨bb,_,_,_,hv⟩:=HG.out.2.count
     exact ⟨_,hv⟩
    by_cases hmn:m=n
    ·have HOut:Hid (∃(t:Ro n) (t' : Ro 21) (h:Nat),VTt n N t'/\keysR 21 t'=keysR n t/\BalR n true t h/\Tells N 0 n t 0/\nodesR n t=n/\TAt (fun b=>w.heap.size<=b) w1 n t v):=by
      have hnt:nodesR n t=n:=by rw [<- HM.out];exact hmn
      obtain ⟨t',q1,q2⟩:=good_vt (by omega) HG.out.1 hnt
      obtain ⟨hh,hb,_⟩:=HG.out.1.bal
      exact ⟨t,t',hh,q1,q2,by simpa using hb,HG.out.1.tl,hnt,HG.out.2.mono (Nat.le_refl _) (fun bb hs _=>⟨by have:=HWs.out;have hs' : W.heap.size<=bb:=hs;show w.heap.size<=bb;omega,rfl⟩)⟩
     subst hmn
     have hq:((m:Int) != (m:Int))=false:=by simp
     rcases hvf with rfl|rfl
     ·go_wp2
      go_quiet (fail)
      go_wp2
      refine bodyPost_ret (v:=.tuple #[.iface 243 (.pointer (some vb)),.bool true]) (by simp [results,Tryz.results103,go_sem]) rfl ⟨below_drewN HB.out _,_,true,rfl,.inl ⟨rfl,?_⟩⟩
      obtain ⟨t,t',hh,q1,q2,q3,q4,q5,q6⟩:=HOut.out
      exact ⟨t,t',hh,q1,q2,q3,q4,q5,q6.below (below_drewN (Below.refl _ _) _)⟩
     ·go_wp2
      go_quiet (fail)
      go_wp2
      refine bodyPost_ret (v:=.tuple #[.iface 248 (.pointer (some vb)),.bool true]) (by simp [results,Tryz.results103,go_sem]) rfl ⟨below_drewN HB.out _,_,true,rfl,.inl ⟨rfl,?_⟩⟩
      obtain ⟨t,t',hh,q1,q2,q3,q4,q5,q6⟩:=HOut.out
      exact ⟨t,t',hh,q1,q2,q3,q4,q5,q6.below (below_drewN (Below.refl _ _) _)⟩
    ·have hq:((m:Int) != (n:Int))=true:=by simp;omega
     have HNo:Hid (¬ VT n N):=by
      rintro ⟨t2,hv⟩
      obtain ⟨t3,D3,hk3,lk3,g3,e3⟩:=vt_good hv (Nat.le_refl n)
      have e:=tells_uniq _ _ _ g3.tl HG.out.1.tl
      rw [e,<- HM.out] at e3
      exact hmn e3
     rcases hvf with rfl|rfl
     ·go_wp2
      go_quiet (fail)
      go_wp2
      refine bodyPost_ret (v:=.tuple #[.nilIface,.bool false]) (by simp [results,Tryz.results103,go_sem]) rfl ⟨below_drewN HB.out _,_,false,rfl,.inr ⟨rfl,HNo.out⟩⟩
     ·go_wp2
      go_quiet (fail)
      go_wp2
      refine bodyPost_ret (v:=.tuple #[.nilIface,.bool false]) (by simp [results,Tryz.results103,go_sem]) rfl ⟨below_drewN HB.out _,_,false,rfl,.inr ⟨rfl,HNo.out⟩⟩


def Asc (L:List ByteArray):Prop:=L.Pairwise (fun a b=>Op.bytesLess a.toList b.toList=true)
def cntL (key:ByteArray) (L:List ByteArray):Nat:=(L.filter (fun k=>Op.bytesLess k.toList key.toList)).length

theorem asc_of_ascK {L:List ByteArray} (h:AscK L L.length):Asc L:=by
 unfold Asc
 rw [List.pairwise_iff_getElem]
 intro i j hi hj hij
 have q:=asc_less (X:=gt L) (k:=L.length) (fun m hm h0=>(h m hm).2 h0) j hj i hij
 unfold gt at q
 rw [List.getD_eq_getElem?_getD,List.getD_eq_getElem?_getD,List.getElem?_eq_getElem hi,List.getElem?_eq_getElem hj] at q
 exact q

theorem cntL_app (key:ByteArray) (L M:List ByteArray):cntL key (L++M)=cntL key L+cntL key M:=by
 unfold cntL
 rw [List.filter_append,List.length_append]
theorem cntL_all {key:ByteArray} {L:List ByteArray} (h:∀k,k∈L->Op.bytesLess k.toList key.toList=true):cntL key L=L.length:=by
 unfold cntL
 rw [List.filter_eq_self.2 h]
theorem cntL_none {key:ByteArray} {L:List ByteArray} (h:∀k,k∈L->Op.bytesLess k.toList key.toList=false):cntL key L=0:=by
 unfold cntL
 rw [List.length_eq_zero_iff,List.filter_eq_nil_iff]
 intro k hk
 rw [h k hk]
 simp

theorem cntL_at {key:ByteArray} {L:List ByteArray} {i:Nat} (hi:i<=L.length) (h1:∀j,j<i->Op.bytesLess (gt L j).toList key.toList=true) (h2:∀j,i<=j->j<L.length->Op.bytesLess (gt L j).toList key.toList=false):cntL key L=i:=by
 rw [<- List.take_append_drop i L,cntL_app,cntL_all,cntL_none,List.length_take]
 ·omega
 ·intro k hk
  obtain ⟨j,hj,rfl⟩:=List.getElem_of_mem hk
  rw [List.length_drop] at hj
  have q:=h2 (i+j) (by omega) (by omega)
  unfold gt at q
  rw [List.getD_eq_getElem?_getD,List.getElem?_eq_getElem (by omega)] at q
  rw [List.getElem_drop]
  exact q
 ·intro k hk
  obtain ⟨j,hj,rfl⟩:=List.getElem_of_mem hk
  rw [List.length_take] at hj
  have q:=h1 j (by omega)
  unfold gt at q
  rw [List.getD_eq_getElem?_getD,List.getElem?_eq_getElem (by omega)] at q
  rw [List.getElem_take]
  exact q

theorem gt_mem {L:List ByteArray} {i:Nat} (h:i<L.length):gt L i∈L:=by
 unfold gt
 rw [List.getD_eq_getElem?_getD,List.getElem?_eq_getElem h]
 exact List.getElem_mem h

theorem asc_lt {L:List ByteArray} (h:Asc L) {i j:Nat} (hij:i<j) (hj:j<L.length):Op.bytesLess (gt L i).toList (gt L j).toList=true:=by
 have q:=List.pairwise_iff_getElem.1 h i j (by omega) hj hij
 unfold gt
 rw [List.getD_eq_getElem?_getD,List.getD_eq_getElem?_getD,List.getElem?_eq_getElem (by omega),List.getElem?_eq_getElem hj]
 exact q

theorem less_asym {a b:List UInt8} (h:Op.bytesLess a b=true):Op.bytesLess b a=false:=by
 cases e:Op.bytesLess b a with
 | false=>rfl
 | true=>
  have:=less_trans _ _ _ h e
  rw [less_irrefl] at this
  cases this

theorem less_of_lt_le {x y z:List UInt8} (h:Op.bytesLess x y=true) (h2:Op.bytesLess z y=false):Op.bytesLess x z=true:=by
 have t:=less_total y z
 cases e:Op.bytesLess y z with
 | true=>exact less_trans _ _ _ h e
 | false=>
  rw [h2,e] at t
  simp at t
  rw [t]
  exact h

theorem cntL_kid {d:Nat} {l:List (Ro d)} {key:ByteArray} {i:Nat} (hi:i<l.length) (ha:Asc (l.flatMap (keysR d))) (hp:∀k (h:k<l.length),0<(keysR d l[k]).length) (h1:0<i->Op.bytesLess key.toList (gt (keysR d l[i]) 0).toList=false) (h2:∀h:i+1<l.length,Op.bytesLess key.toList (gt (keysR d l[i+1]) 0).toList=true) :
  cntL key (l.flatMap (keysR d))=((l.take i).flatMap (keysR d)).length+cntL key (keysR d l[i]):=by
 have e:l=l.take i++(l[i]::l.drop (i+1)):=by
  conv=>lhs;rw [<- List.take_append_drop (i+1) l,<- List.take_append_getElem hi]
  simp
 have ef:l.flatMap (keysR d)=(l.take i).flatMap (keysR d)++(keysR d l[i]++(l.drop (i+1)).flatMap (keysR d)):=by
  conv=>lhs;rw [e]
  rw [List.flatMap_append,List.flatMap_cons]
 rw [ef] at ha ⊢
 unfold Asc at ha
 rw [List.pairwise_append] at ha
 obtain ⟨_,ha2,ha3⟩:=ha
 rw [List.pairwise_append] at ha2
 obtain ⟨_,ha4,ha5⟩:=ha2
 rw [cntL_app,cntL_app,cntL_all,cntL_none (L:=(l.drop (i+1)).flatMap (keysR d))]
 ·rfl
 ·intro k hk
  by_cases hl:i+1<l.length
  ·have h3:=h2 hl
   have hd:l.drop (i+1)=l[i+1]::l.drop (i+2):=List.drop_eq_getElem_cons hl
   rw [hd,List.flatMap_cons] at hk ha4
   rw [List.pairwise_append] at ha4
   obtain ⟨q1,_,q3⟩:=ha4
   have hf:gt (keysR d l[i+1]) 0∈keysR d l[i+1]:=gt_mem (hp (i+1) hl)
   rcases List.mem_append.1 hk with hk|hk
   ·obtain ⟨j,hj,rfl⟩:=List.getElem_of_mem hk
    by_cases e0:j=0
    ·subst e0
     have:(keysR d l[i+1])[0]=gt (keysR d l[i+1]) 0:=by
      unfold gt
      rw [List.getD_eq_getElem?_getD,List.getElem?_eq_getElem hj]
      rfl
     rw [this]
     exact less_asym h3
    ·have:=asc_lt q1 (show 0<j by omega) hj
     have e1:(keysR d l[i+1])[j]=gt (keysR d l[i+1]) j:=by
      unfold gt
      rw [List.getD_eq_getElem?_getD,List.getElem?_eq_getElem hj]
      rfl
     rw [e1]
     exact less_asym (less_trans _ _ _ h3 this)
   ·exact less_asym (less_trans _ _ _ h3 (q3 _ hf _ hk))
  ·rw [List.drop_eq_nil_of_le (by omega)] at hk
   simp at hk
 ·intro k hk
  by_cases h0:0<i
  ·have hf:gt (keysR d l[i]) 0∈keysR d l[i]:=gt_mem (hp i hi)
   have:=ha3 k hk (gt (keysR d l[i]) 0) (List.mem_append_left _ hf)
   exact less_of_lt_le this (h1 h0)
  ·have:i=0:=by omega
   subst this
   simp at hk

theorem asc_kid {d:Nat} {l:List (Ro d)} (ha:Asc (l.flatMap (keysR d))) (i:Nat) (hi:i<l.length):Asc (keysR d l[i]):=by
 have e:l=l.take i++(l[i]::l.drop (i+1)):=by
  conv=>lhs;rw [<- List.take_append_drop (i+1) l,<- List.take_append_getElem hi]
  simp
 rw [e,List.flatMap_append,List.flatMap_cons] at ha
 unfold Asc at ha ⊢
 rw [List.pairwise_append] at ha
 have:=ha.2.1
 rw [List.pairwise_append] at this
 exact this.1

def OkT (perm m:Nat) (N:Nat->Tn):Prop:=∃t,VTt m N t/\(keysR 21 t).length<=300/\∀k,k∈keysR 21 t->k.size=16/\quadB (quadOf perm k)=true
def SameQ (i m:Nat) (N:Nat->Tn) (m0:Nat) (N0:Nat->Tn):Prop:=∀t t0,VTt m N t->VTt m0 N0 t0->(keysR 21 t).length=(keysR 21 t0).length/\∀k,k∈keysR 21 t->quadOf i k∈(keysR 21 t0).map (quadOf 0)
def VI (n:Nat) (M:Nat->Nat) (T:Nat->Nat->Tn):Prop:=n=6/\(∀j,j<6->OkT j (M j) (T j))/\∀i,1<=i->i<6->SameQ i (M i) (T i) (M 0) (T 0)
theorem vtt1 {n:Nat} {N:Nat->Tn} {t t' : Ro 21} (h:VTt n N t) (h' : VTt n N t'):t=t':=by
 have q:=h.2.2.1
 rw [h'.2.2.1] at q
 injection q with q
 injection q with q _
 exact q.symm

set_option maxHeartbeats 8000000 in
theorem specVI (a:Option Addr) (n c:Nat) (M:Nat->Nat) (T:Nat->Nat->Tn) (w:World) (h:RdIx w a n M T) (hn:n<=1048576) (hN:IxFit n M T) :
  Calls Tryz.prog 26 #[.agg #[.slice a n c]] w (AnsN w (VI n M T)):=by
 by_cases h6:n=6
 case neg=>
  have h6i:¬ (n:Int)=6:=by omega
  have h6d:((n:Int) != 6)=true:=by simp;omega
  have HF:Hid (¬ VI n M T):=fun q=>h6 q.1
  clear h hN
  go_enter Tryz.func26,Tryz.ntmps26
  go_wp2
  go_ret
  exact ⟨false,rfl,by simp [HF.out],below_alloc _ _⟩
 case pos=>
 subst h6
 have HR:Hid (RdIx w a 6 M T/\IxFit 6 M T):=⟨h,hN⟩
 clear h hN hn
 go_enter Tryz.func26,Tryz.ntmps26
 go_wp2
 go_loopw [3,4,5,6,7] (fun i _ _ _ _ wr=>∃j:Nat,j<=6/\i=.int .i64 j/\(∀q,q<j->OkT q (M q) (T q))/\Below w.heap.size w wr/\Bx wr w.heap.size 46 #[.slice a 6 c]) (fun i _ _ _ _ _=>6-(intOf i).toNat)
 case atStart=>exact ⟨0,by omega,rfl,fun q hq=>absurd hq (Nat.not_lt_zero _),below_alloc _ _,Bx.new _ _ _⟩
 case round=>
  obtain ⟨j,hj,rfl,hok,hbel,hbx⟩:=hrel
  have HS:Hid ((∀q,q<j->OkT q (M q) (T q))/\Below w.heap.size w wr/\Bx wr w.heap.size 46 #[.slice a 6 c]):=⟨hok,hbel,hbx⟩
  have b0:=hbx.cell 0
  simp at b0
  have bl:=hbx.lt
  have j0:(0:Int)<=(j:Int):=by omega
  by_cases hlt:j<6
  ·have j1:(j:Int)<6:=by omega
   rcases HR.out.1.below hbel with q|⟨bb,oo,ea,hc⟩
   ·omega
   obtain ⟨aj,cj,s0,hrd⟩:=hc j hlt
   have hfit:=HR.out.2 j hlt
   obtain ⟨m,hm⟩:∃m,m=M j:=⟨_,rfl⟩
   have HM:Hid (m=M j):=hm
   have HOf:Hid (Calls Tryz.prog 50 #[.agg #[.slice aj m cj]] wr (RetOf wr (M j) (T j))):=by
    rw [hm]
    exact of_any aj (M j) cj (T j) wr hrd hfit.1 hfit.2
   rw [<- hm] at s0
   subst ea
   clear hok hbel hbx hc hrd hfit hm
   go_wp2_with fail
   (with_reducible refine HOf.out.mono ?_)
   rintro e w1 ⟨hb1,lf,ka,kn,kc,ca,cn,cc,ok,rfl,hr⟩
   have H1:Hid (Below w.heap.size w w1/\Bx w1 w.heap.size 46 #[.slice (some ⟨bb,oo,none⟩) 6 c]):=⟨HS.out.2.1.trans (hb1.mono HS.out.2.1.size),HS.out.2.2.below hb1⟩
   clear hb1 HOf b0 bl s0
   cases ok with
   | false=>
    have HF:Hid (¬ VI 6 M T):=fun q=>by
     obtain ⟨t,ht,_⟩:=q.2.1 j hlt
     rcases hr with ⟨_,hno,_⟩|⟨q,_⟩
     ·exact hno ⟨t,ht⟩
     ·cases q
    clear hr
    go_wp2
    go_ret
    exact ⟨false,rfl,by simp [HF.out],H1.out.1.alloc H1.out.1.size _⟩
   | true=>
    obtain ⟨t,hvt,hna⟩:∃t,VTt (M j) (T j) t/\NA w1 21 t (.agg #[.bool lf,.slice ka kn kc,.slice ca cn cc]):=by
     rcases hr with ⟨q,_⟩|⟨_,q⟩
     ·cases q
     ·exact q
    have hend:=nestR_end hvt.2.2.1
    have hm5:=hvt.2.1
    obtain ⟨hh,hbal⟩:=hvt.2.2.2.1
    have hfl:=fit_len (bal_fit hbal)
    have HV:Hid (VTt (M j) (T j) t):=hvt
    have HKeys:Hid (∀W,Below w1.heap.size w1 W->Calls Tryz.prog 51 #[.agg #[.bool lf,.slice ka kn kc,.slice ca cn cc]] W (RetStrs W (keysR 21 t))):=fun W hW=>keys_any 21 t _ W (hna.below hW) (by omega) (by omega)
    have hk20:(keysR 21 t).length<=20000:=by omega
    clear hr hna hvt hend hm5 hbal hfl
    go_wp2_with fail
    (with_reducible refine (HKeys.out _ (below_alloc _ _)).mono ?_)
    rintro e w3 ⟨a3,c3,rfl,ho3,hb3,_,_⟩
    obtain ⟨kl,hkl⟩:∃kl,kl=(keysR 21 t).length:=⟨_,rfl⟩
    have HKL:Hid (kl=(keysR 21 t).length):=hkl
    have H3:Hid (Below w.heap.size w w3/\Bx w3 w.heap.size 46 #[.slice (some ⟨bb,oo,none⟩) 6 c]/\RdS w3 a3 kl (gt (keysR 21 t))):=by
     have q:=H1.out.1.alloc H1.out.1.size (.cells #[.bool lf,.slice ka kn kc,.slice ca cn cc] 116)
     exact ⟨q.trans (hb3.mono q.size),(H1.out.2.alloc _).below hb3,by rw [hkl];exact ho3.rd⟩
    rw [<- hkl] at hk20 ⊢
    clear hkl ho3 hb3 HKeys H1
    by_cases h300:300<kl
    ·have h3i:(300:Int)<(kl:Int):=by omega
     have h3d:decide ((300:Int)<(kl:Int))=true:=decide_eq_true h3i
     have HF:Hid (¬ VI 6 M T):=fun q=>by
      obtain ⟨t',ht',hl',_⟩:=q.2.1 j hlt
      rw [vtt1 ht' HV.out,<- HKL.out] at hl'
      omega
     go_wp2
     go_ret
     exact ⟨false,rfl,by simp [HF.out],H3.out.1⟩
    ·have h3i:¬ (300:Int)<(kl:Int):=by omega
     have h3d:decide ((300:Int)<(kl:Int))=false:=decide_eq_false h3i
     go_wp2
     go_loopw [7] (fun i wr=>∃k:Nat,k<=kl/\i=.int .i64 k/\(∀x,x<k->(gt (keysR 21 t) x).size=16/\quadB (quadOf j (gt (keysR 21 t) x))=true)/\Below w3.heap.size w3 wr) (fun i _=>kl-(intOf i).toNat)
     case atStart=>exact ⟨0,Nat.zero_le _,rfl,fun x hx=>absurd hx (Nat.not_lt_zero _),Below.refl _ _⟩
     case round=>
      obtain ⟨k,hk,rfl,hall,hbq⟩:=hrel
      have HQ:Hid ((∀x,x<k->(gt (keysR 21 t) x).size=16/\quadB (quadOf j (gt (keysR 21 t) x))=true)/\Below w3.heap.size w3 wr/\Below w.heap.size w wr/\Bx wr w.heap.size 46 #[.slice (some ⟨bb,oo,none⟩) 6 c]):=⟨hall,hbq,H3.out.1.trans (hbq.mono H3.out.1.size),H3.out.2.1.below hbq⟩
      have k0:(0:Int)<=(k:Int):=by omega
      by_cases hkl:k<kl
      ·have k1:(k:Int)<(kl:Int):=by omega
       obtain ⟨b5,o5,ea,s1⟩:=(H3.out.2.2.below hbq).cellOf k hkl
       obtain ⟨key,hkey⟩:∃key,key=gt (keysR 21 t) k:=⟨_,rfl⟩
       have HKy:Hid (key=gt (keysR 21 t) k/\key∈keysR 21 t):=⟨hkey,by rw [hkey];exact gt_mem (by rw [<- HKL.out];exact hkl)⟩
       rw [<- hkey] at s1
       clear hkey hall hbq
       subst ea
       by_cases hs:key.size=16
       ·have hsi:(key.size:Int)=16:=by omega
        have hsd:((key.size:Int) != 16)=false:=by simp [hsi]
        have HQd:Hid (Calls Tryz.prog 53 #[.string key,.int .i64 (j:Int)] wr fun e w'=>e=.returned (qv (quadOf j key))/\Below wr.heap.size wr w'):=l5Quad_any j hlt key hs wr
        have HSz:Hid (key.size=16):=hs
        clear hs hsi
        go_wp2_with fail
        (with_reducible refine HQd.out.mono ?_)
        rintro e w5 ⟨rfl,hb5⟩
        have HG:Hid (∀W,Calls Tryz.prog 52 #[qv (quadOf j key)] W fun e w'=>e=.returned (.bool (quadB (quadOf j key)))/\Below W.heap.size W w'):=fun W=>l5Good_any _ W
        have H5:Hid (Below w3.heap.size w3 w5/\Below w.heap.size w w5):=⟨HQ.out.2.1.trans (hb5.mono HQ.out.2.1.size),HQ.out.2.2.1.trans (hb5.mono HQ.out.2.2.1.size)⟩
        have HQB:Hid (∀b,b=quadB (quadOf j key)->b=quadB (quadOf j (gt (keysR 21 t) k))):=fun b hb=>by rw [hb,HKy.out.1]
        generalize hqv:qv (quadOf j key)=qq at HG ⊢
        unfold qv at hqv
        subst hqv
        clear hb5 HQd
        go_wp2_with fail
        (with_reducible refine (HG.out _).mono ?_)
        rintro e w6 ⟨rfl,hb6⟩
        have H6:Hid (Below w3.heap.size w3 w6/\Below w.heap.size w w6):=⟨H5.out.1.trans (hb6.mono H5.out.1.size),H5.out.2.trans (hb6.mono H5.out.2.size)⟩
        clear hb6 HG
        cases hqb:quadB (quadOf j key) with
        | false=>
         have HF:Hid (¬ VI 6 M T):=fun q=>by
          obtain ⟨t',ht',_,hg'⟩:=q.2.1 j hlt
          rw [vtt1 ht' HV.out] at hg'
          have q2:=(hg' key HKy.out.2).2
          rw [hqb] at q2
          cases q2
         go_wp2
         go_ret
         exact ⟨false,rfl,by simp [HF.out],H6.out.2⟩
        | true=>
         have HN:Hid (∀x,x<k+1->(gt (keysR 21 t) x).size=16/\quadB (quadOf j (gt (keysR 21 t) x))=true):=fun x hx=>by
          by_cases e:x=k
          ·subst e
           rw [<- HKy.out.1]
           exact ⟨HSz.out,hqb⟩
          ·exact HQ.out.1 x (by omega)
         go_wp2
         go_roundw
         case rel=>exact ⟨k+1,by omega,by go_num,HN.out,H6.out.1⟩
         case measure=>simp [intOf];omega
       ·have hsi:¬ (key.size:Int)=16:=by omega
        have hsd:((key.size:Int) != 16)=true:=by simp;omega
        have HF:Hid (¬ VI 6 M T):=fun q=>by
         obtain ⟨t',ht',_,hg'⟩:=q.2.1 j hlt
         rw [vtt1 ht' HV.out] at hg'
         exact hs (hg' key HKy.out.2).1
        go_wp2
        go_ret
        exact ⟨false,rfl,by simp [HF.out],HQ.out.2.2.1⟩
      ·obtain rfl:k=kl:=by omega
       have HN:Hid (∀q,q<j+1->OkT q (M q) (T q)):=fun q hq=>by
        by_cases e:q=j
        ·subst e
         refine ⟨t,HV.out,by rw [<- HKL.out];omega,fun x hx=>?_⟩
         obtain ⟨y,hy,e⟩:=List.getElem_of_mem hx
         have q2:=HQ.out.1 y (by rw [HKL.out];exact hy)
         rw [gt_in hy,e] at q2
         exact q2
        ·exact HS.out.1 q (by omega)
       clear hall hbq
       go_wp2
       go_roundw
       case rel=>exact ⟨j+1,by omega,by go_num,HN.out,HQ.out.2.2⟩
       case measure=>simp [intOf];omega
  ·obtain rfl:j=6:=by omega
   have HOk:Hid (∀q,q<6->OkT q (M q) (T q)):=hok
   have HRd:Hid (∀(W:World) (i:Nat),Below w.heap.size w W->i<6->∃bb oo ai ci,a=some ⟨bb,oo,none⟩/\W.cell? ⟨bb,oo+i,none⟩=some (.slice ai (M i) ci)/\RdTn W ai (M i) (T i)):=fun W i hW hi=>by
    rcases HR.out.1.below hW with q|⟨bb,oo,ea,hc⟩
    ·omega
    ·obtain ⟨ai,ci,q1,q2⟩:=hc i hi
     exact ⟨bb,oo,ai,ci,ea,q1,q2⟩
   have HQs:Hid (∀(W:World) (i:Nat) (ai:Option Addr) (ci:Nat) (t:Ro 21) (L:List Qd),i<6->RdTn W ai (M i) (T i)->VTt (M i) (T i) t->L=(keysR 21 t).map (quadOf i)->Calls Tryz.prog 28 #[.agg #[.slice ai (M i) ci],.int .i64 (i:Int)] W fun e w'=>∃a' c',e=.returned (.slice a' L.length c')/\RdQ w' a' L/\Below W.heap.size W w'):=fun W i ai ci t L hi hr hv hL=>by
    obtain ⟨t',ht',hl',hg'⟩:=HOk.out i hi
    rw [vtt1 ht' hv] at hl' hg'
    exact l5Quads_any i hi ai (M i) ci (T i) t W hr hv (HR.out.2 i hi).2 (fun k hk=>(hg' k hk).1) hl' L hL
   obtain ⟨t0,hv0,hl0,hg0⟩:=hok 0 (by omega)
   obtain ⟨L0,hL0⟩:∃L0,L0=(keysR 21 t0).map (quadOf 0):=⟨_,rfl⟩
   obtain ⟨bb,oo,a0,c0,ea,s0,hrd0⟩:=HRd.out wr 0 hbel (by omega)
   have HQ0:Hid (Calls Tryz.prog 28 #[.agg #[.slice a0 (M 0) c0],.int .i64 0] wr fun e w'=>∃a' c',e=.returned (.slice a' L0.length c')/\RdQ w' a' L0/\Below wr.heap.size wr w'):=HQs.out wr 0 a0 c0 t0 L0 (by omega) hrd0 hv0 hL0
   have H0:Hid (VTt (M 0) (T 0) t0/\L0=(keysR 21 t0).map (quadOf 0)/\L0.length<=300):=⟨hv0,hL0,by rw [hL0,List.length_map];exact hl0⟩
   clear hv0 hl0 hg0 hL0 hrd0 hok hbel hbx
   rw [Nat.add_zero] at s0
   subst ea
   go_wp2_with fail
   (with_reducible refine HQ0.out.mono ?_)
   rintro e w1 ⟨a1,c1,rfl,hq1,hb1⟩
   obtain ⟨l0,hl0⟩:∃l0,l0=L0.length:=⟨_,rfl⟩
   have HL0:Hid (l0=L0.length):=hl0
   have hl300:l0<=300:=by rw [hl0];exact H0.out.2.2
   have H1:Hid (Below w.heap.size w w1/\Bx w1 w.heap.size 46 #[.slice (some ⟨bb,oo,none⟩) 6 c]/\RdQ w1 a1 L0):=⟨HS.out.2.1.trans (hb1.mono HS.out.2.1.size),HS.out.2.2.below hb1,hq1⟩
   rw [<- hl0]
   clear hq1 hb1 HQ0 hl0 s0 b0 bl
   go_wp2
   go_loopw [9,10,11] (fun i _ _ wr=>∃x:Nat,1<=x/\x<=6/\i=.int .i64 x/\(∀q,1<=q->q<x->SameQ q (M q) (T q) (M 0) (T 0))/\Below w1.heap.size w1 wr) (fun i _ _ _=>6-(intOf i).toNat)
   case atStart=>exact ⟨1,by omega,by omega,rfl,fun q h1 h2=>by omega,Below.refl _ _⟩
   case round=>
    obtain ⟨x,hx1,hx6,rfl,hsm,hbq⟩:=hrel
    have hbw:Below w.heap.size w wr:=H1.out.1.trans (hbq.mono H1.out.1.size)
    have HQ:Hid ((∀q,1<=q->q<x->SameQ q (M q) (T q) (M 0) (T 0))/\Below w1.heap.size w1 wr/\Below w.heap.size w wr):=⟨hsm,hbq,hbw⟩
    have x0:(0:Int)<=(x:Int):=by omega
    by_cases hxl:x<6
    ·have x1:(x:Int)<6:=by omega
     obtain ⟨t,hvt,hlt,hgt⟩:=HOk.out x hxl
     obtain ⟨L,hL⟩:∃L,L=(keysR 21 t).map (quadOf x):=⟨_,rfl⟩
     obtain ⟨bb',oo',ax,cx,ea,s0,hrdx⟩:=HRd.out wr x hbw hxl
     injection ea with ea
     injection ea with ea1 ea2
     subst ea1 ea2
     obtain ⟨m,hm⟩:∃m,m=M x:=⟨_,rfl⟩
     have HQx:Hid (Calls Tryz.prog 28 #[.agg #[.slice ax m cx],.int .i64 (x:Int)] wr fun e w'=>∃a' c',e=.returned (.slice a' L.length c')/\RdQ w' a' L/\Below wr.heap.size wr w'):=by
      rw [hm]
      exact HQs.out wr x ax cx t L hxl hrdx hvt hL
     rw [<- hm] at s0
     have HT:Hid (VTt (M x) (T x) t/\L=(keysR 21 t).map (quadOf x)/\L.length<=300):=⟨hvt,hL,by rw [hL,List.length_map];exact hlt⟩
     have hbxr:=H1.out.2.1.below hbq
     have b0:=hbxr.cell 0
     simp at b0
     have bl:=hbxr.lt
     clear hvt hlt hgt hL hrdx hm hsm hbq hbw hbxr
     go_wp2_with fail
     (with_reducible refine HQx.out.mono ?_)
     rintro e w3 ⟨a3,c3,rfl,hq3,hb3⟩
     obtain ⟨l3,hl3⟩:∃l3,l3=L.length:=⟨_,rfl⟩
     have HL3:Hid (l3=L.length):=hl3
     have hl33:l3<=300:=by rw [hl3];exact HT.out.2.2
     have H3:Hid (Below w1.heap.size w1 w3/\Below w.heap.size w w3/\RdQ w3 a3 L):=⟨HQ.out.2.1.trans (hb3.mono HQ.out.2.1.size),HQ.out.2.2.trans (hb3.mono HQ.out.2.2.size),hq3⟩
     rw [<- hl3]
     clear hq3 hb3 HQx hl3 s0 b0 bl
     by_cases hne:l3=l0
     ·have hned:((l3:Int) != (l0:Int))=false:=by simp [hne]
      have HNe:Hid (l3=l0):=hne
      clear hne
      go_wp2
      go_loopw [11] (fun i wr=>∃k:Nat,k<=l3/\i=.int .i64 k/\(∀y (h:y<L.length),y<k->L[y]∈L0)/\Below w3.heap.size w3 wr) (fun i _=>l3-(intOf i).toNat)
      case atStart=>exact ⟨0,Nat.zero_le _,rfl,fun y _ hy=>absurd hy (Nat.not_lt_zero _),Below.refl _ _⟩
      case round=>
       obtain ⟨k,hk,rfl,hall,hbr⟩:=hrel
       have HK:Hid ((∀y (h:y<L.length),y<k->L[y]∈L0)/\Below w1.heap.size w1 wr/\Below w.heap.size w wr/\Below w3.heap.size w3 wr):=⟨hall,H3.out.1.trans (hbr.mono H3.out.1.size),H3.out.2.1.trans (hbr.mono H3.out.2.1.size),hbr⟩
       have k0:(0:Int)<=(k:Int):=by omega
       by_cases hkl:k<l3
       ·have k1:(k:Int)<(l3:Int):=by omega
        have hkL:k<L.length:=by rw [<- HL3.out];exact hkl
        rcases H3.out.2.2.below hbr with q|⟨gb,ea,hc⟩
        ·omega
        obtain ⟨s0,s1,s2,s3⟩:=hc k hkL
        obtain ⟨qd,hqd⟩:∃qd,qd=L[k]:=⟨_,rfl⟩
        have HQd:Hid (L[k]=qd):=hqd.symm
        rw [<- hqd] at s0 s1 s2 s3
        have HHs:Hid (Calls Tryz.prog 54 #[.slice a1 l0 c1,.agg #[.int .i64 qd.s,.int .i64 qd.p,.int .i64 qd.o,.int .i64 qd.g]] wr fun e w'=>∃b:Bool,e=.returned (.bool b)/\(b=true↔qd∈L0)/\Below wr.heap.size wr w'):=l5Has_any a1 l0 c1 L0 qd wr (H1.out.2.2.below HK.out.2.1) HL0.out (by omega)
        subst ea
        clear hc hqd hall hbr
        go_wp2_with fail
        (with_reducible refine HHs.out.mono ?_)
        rintro e w5 ⟨b5,rfl,hb5,hbe5⟩
        have H5:Hid (Below w3.heap.size w3 w5/\Below w.heap.size w w5/\(b5=true↔qd∈L0)):=⟨HK.out.2.2.2.trans (hbe5.mono HK.out.2.2.2.size),HK.out.2.2.1.trans (hbe5.mono HK.out.2.2.1.size),hb5⟩
        clear hb5 hbe5 HHs
        cases b5 with
        | false=>
         have HF:Hid (¬ VI 6 M T):=fun q=>by
          have q2:=(q.2.2 x hx1 hxl t t0 HT.out.1 H0.out.1).2
          have hkt:k<(keysR 21 t).length:=by
           have:=HT.out.2.1
           rw [this,List.length_map] at hkL
           exact hkL
          have q3:=q2 _ (List.getElem_mem hkt)
          have e:L[k]=quadOf x (keysR 21 t)[k]:=by
           have e0:=HT.out.2.1
           subst e0
           rw [List.getElem_map]
          rw [<- e,HQd.out,<- H0.out.2.1] at q3
          have q4:false=true:=H5.out.2.2.2 q3
          cases q4
         go_wp2
         go_ret
         exact ⟨false,rfl,by simp [HF.out],H5.out.2.1⟩
        | true=>
         have HN:Hid (∀y (h:y<L.length),y<k+1->L[y]∈L0):=fun y hy hy2=>by
          by_cases e:y=k
          ·subst e
           rw [HQd.out]
           exact H5.out.2.2.1 rfl
          ·exact HK.out.1 y hy (by omega)
         go_wp2
         go_roundw
         case rel=>exact ⟨k+1,by omega,by go_num,HN.out,H5.out.1⟩
         case measure=>simp [intOf];omega
       ·obtain rfl:k=l3:=by omega
        have HN:Hid (∀q,1<=q->q<x+1->SameQ q (M q) (T q) (M 0) (T 0)):=fun q h1 h2=>by
         by_cases e:q=x
         ·subst e
          intro t' t0' ht' ht0'
          rw [vtt1 ht' HT.out.1,vtt1 ht0' H0.out.1]
          have eL:=HT.out.2.1
          have eL0:=H0.out.2.1
          have e3:=HL3.out
          have e0:=HL0.out
          have ee:=HNe.out
          refine ⟨by rw [eL,List.length_map] at e3;rw [eL0,List.length_map] at e0;omega,fun ky hky=>?_⟩
          obtain ⟨y,hy,e⟩:=List.getElem_of_mem hky
          have hyL:y<L.length:=by rw [eL,List.length_map];exact hy
          have q2:=HK.out.1 y hyL (by omega)
          rw [<- eL0]
          have e4:L[y]=quadOf q ky:=by
           subst eL
           rw [List.getElem_map,e]
          rw [<- e4]
          exact q2
         ·exact HQ.out.1 q h1 (by omega)
        clear hall hbr
        go_wp2
        go_roundw
        case rel=>exact ⟨x+1,by omega,by omega,by go_num,HN.out,HK.out.2.1⟩
        case measure=>simp [intOf];omega
     ·have hnei:¬ (l3:Int)=(l0:Int):=by omega
      have hned:((l3:Int) != (l0:Int))=true:=by simp;omega
      have HF:Hid (¬ VI 6 M T):=fun q=>by
       have q2:=(q.2.2 x hx1 hxl t t0 HT.out.1 H0.out.1).1
       have e3:=HL3.out
       have e0:=HL0.out
       rw [HT.out.2.1,List.length_map] at e3
       rw [H0.out.2.1,List.length_map] at e0
       omega
      go_wp2
      go_ret
      exact ⟨false,rfl,by simp [HF.out],H3.out.2.1⟩
    ·obtain rfl:x=6:=by omega
     have HF:Hid (VI 6 M T):=⟨rfl,HOk.out,fun i h1 h2=>HQ.out.1 i h1 h2⟩
     clear hsm hbq hbw
     go_wp2
     go_ret
     exact ⟨true,rfl,by simp [HF.out],HQ.out.2.2⟩

def RetSc (w:World) (L:List Qd) (e:Ending) (w' : World):Prop:=
 ∃a' c',e=.returned (.slice a' L.length c')/\w'.ownsRow w.heap.size 122 4 (.slice a' L.length c') L.length (quadL L)/\Below w.heap.size w w'

theorem rdq_ex1 {b:Nat} {w w' : World} {a:Option Addr} {L:List Qd} (h:RdQ w a L) (he:Ex1 b w w') (hne:∀o,w.cell? ⟨b,o,none⟩=none):RdQ w' a L:=by
 rcases h with q|⟨g,rfl,hc⟩
 ·exact .inl q
 ·refine .inr ⟨g,rfl,fun i hi=>?_⟩
  obtain ⟨h0,h1,h2,h3⟩:=hc i hi
  have hl:=World.block_lt_of_cell? _ _ h0
  have hg:g≠b:=by
   rintro rfl
   rw [hne] at h0
   cases h0
  have e:=fun o=>World.cell?_of_block (a:=⟨g,o,none⟩) (he.2.2.2.2 g hl hg)
  exact ⟨by rw [e];exact h0,by rw [e];exact h1,by rw [e];exact h2,by rw [e];exact h3⟩
theorem take_more' {L:List Qd} {k:Nat} (h:k<L.length):L.take (k+1)=L.take k++[L[k]]:=by
 rw [List.take_add_one,List.getElem?_eq_getElem h]
 rfl
structure ScS (w W:World) (a:Option Addr) (n c:Nat) (p:Qd):Prop where
 ib:Bx W w.heap.size 46 #[.slice a n c]
 pb:Bx W (w.heap.size+1) 122 #[.int .i64 p.s,.int .i64 p.p,.int .i64 p.o,.int .i64 p.g]
 ob:W.ownsRow (w.heap.size+2) 122 4 (.slice (some ⟨w.heap.size+2,0,none⟩) 0 0) 0 []
 lt:w.heap.size+2<W.heap.size
 eb:∀o,W.cell? ⟨w.heap.size+2,o,none⟩=none
 bel:Below w.heap.size w W
theorem ScS.keep {w W W' : World} {a:Option Addr} {n c:Nat} {p:Qd} (h:ScS w W a n c p) (hb:Below W.heap.size W W'):ScS w W' a n c p:=
 ⟨(hb.block _ h.ib.lt).trans h.ib,(hb.block _ h.pb.lt).trans h.pb,own_below h.ob hb,Nat.lt_of_lt_of_le h.lt hb.size,fun o=>by rw [hb.cell (show w.heap.size+2<W.heap.size from h.lt)];exact h.eb o,h.bel.trans (hb.mono h.bel.size)⟩
end Go.Proofs.YtpaomghibppgkaaGreat
