import Derived.Test.YtcnollkkigiobaaGreatNd24
import Derived.Test.YtcnollkkigiobaaGreatNd23
set_option linter.unusedVariables false
set_option maxRecDepth 100000
namespace Go.Proofs.YtcnollkkigiobaaGreat
open Go.RowKit Go.Deep

theorem TOx.mono {B B' : Nat} {w:World} {d:Nat} {t:Ro d} {v:Value} (h:TOx B w d t v) (hB:B'<=B):TOx B' w d t v:=
 let ⟨bs,h1,h2⟩:=h
 ⟨bs,h1,TOw.mono hB h2⟩

theorem RetRo.from {N:Nat->Tn} {rb b o n c x:Nat} {dep D:Int} {hk:Bool} {lk:ByteArray} {d:Nat} {w W:World} {e:Ending} {w' : World} (h:RetRo N rb b o n c x dep D hk lk d W e w') (hg:w.grownBy W (some rb)):RetRo N rb b o n c x dep D hk lk d w e w':=by
 obtain ⟨h1,v,ok,e1,h2⟩:=h
 refine ⟨grown_trans hg h1,v,ok,e1,?_⟩
 rcases h2 with ⟨q1,t,D',hk',lk',q2,q3,q4⟩|q
 ·exact Or.inl ⟨q1,t,D',hk',lk',q2,q3,TOx.mono q4 hg.size⟩
 ·exact Or.inr q

set_option maxHeartbeats 4000000 in
theorem readO_any (N:Nat->Tn) (rb b o n c:Nat) (hn:n<=5000) (hbr:b<rb) (hN:∀i,i<n->TnFit (N i)):∀(d x:Nat) (dep D:Int) (hk:Bool) (lk:ByteArray) (w:World),n<=x+d->x<=n->0<=dep->dep<=(x:Int)->RBx w rb b o n c x D lk hk->(∀W:World,Below rb w W->RdTn W (some ⟨b,o,none⟩) n N)->
  Calls Tryz.prog 109 #[.pointer (some ⟨rb,0,none⟩),.int .i64 dep] w (RetRo N rb b o n c x dep D hk lk d w):=by
 intro d
 induction d with
 | zero=>
  intro x dep D hk lk w hf hx hd0 hd1 h hRd
  have e:x=n:=by omega
  subst e
  have c0:=h.cell 0
  have c1:=h.cell 1
  simp at c0 c1
  have hq:((x:Int) == (x:Int))=true:=by simp
  clear h hRd hf hN
  go_enter Tryz.func109,Tryz.ntmps109
  go_wp2
  go_quiet (fail)
  go_wp2
  refine bodyPost_ret (v:=.tuple #[.nilIface,.bool false]) (by simp [results,Tryz.results109,go_sem]) rfl ⟨grown_below (below_drewN (Below.refl _ _) _),_,false,rfl,Or.inr ⟨rfl,fun ⟨t,_⟩=>t.elim⟩⟩
 | succ d ih=>
  intro x dep D hk lk w hf hx hd0 hd1 h hRd
  have hrl:=h.lt
  by_cases hxn:x=n
  ·subst hxn
   have c0:=h.cell 0
   have c1:=h.cell 1
   simp at c0 c1
   have hq:((x:Int) == (x:Int))=true:=by simp
   clear h hRd hf hN ih
   go_enter Tryz.func109,Tryz.ntmps109
   go_wp2
   go_quiet (fail)
   go_wp2
   refine bodyPost_ret (v:=.tuple #[.nilIface,.bool false]) (by simp [results,Tryz.results109,go_sem]) rfl ⟨grown_below (below_drewN (Below.refl _ _) _),_,false,rfl,Or.inr ⟨rfl,fun ⟨t,D',hk',lk',g⟩=>?_⟩⟩
   have h1:=g.le
   have h2:=nodes_pos (d+1) t
   omega
  ·have hlt:x<n:=by omega
   have HR:Hid (RBx w rb b o n c x D lk hk):=h
   have HRd:Hid (∀W:World,Below rb w W->RdTn W (some ⟨b,o,none⟩) n N):=hRd
   have HIH:Hid (∀(W:World) (y:Nat) (D2:Int) (lk2:ByteArray) (hk2:Bool),Below rb w W->x+1<=y->y<=n->RBx W rb b o n c y D2 lk2 hk2->Calls Tryz.prog 109 #[.pointer (some ⟨rb,0,none⟩),.int .i64 (dep+1)] W (RetRo N rb b o n c y (dep+1) D2 hk2 lk2 d W)):=fun W y D2 lk2 hk2 hW hy hyn hrb=>ih y (dep+1) D2 hk2 lk2 W (by omega) hyn (by omega) (by omega) hrb (fun W' hW'=>hRd W' (hW.trans hW'))
   have HFit:Hid (TnFit (N x)):=hN x hlt
   obtain ⟨ka,kc,da,dc,hcells⟩:∃ka kc da dc,∀W:World,Below rb w W->W.cell? ⟨b,o+x*4,none⟩=some (.bool (N x).lf)/\W.cell? ⟨b,o+x*4+1,none⟩=some (.slice ka (N x).kn kc)/\W.cell? ⟨b,o+x*4+2,none⟩=some (.slice da (N x).dn dc)/\W.cell? ⟨b,o+x*4+3,none⟩=some (.int .i64 (N x).ct)/\RdS W ka (N x).kn (N x).ks/\Rd .i64 W da (N x).dn (N x).kd:=by
    rcases hRd w (Below.refl _ _) with q|⟨b',o',e,hc⟩
    ·omega
    injection e with e
    injection e with e1 e2
    subst e1
    subst e2
    obtain ⟨ka,kc,da,dc,h0,h1,h2,h3,h4,h5⟩:=hc x hlt
    refine ⟨ka,kc,da,dc,fun W hW=>?_⟩
    rcases hRd W hW with q|⟨b',o',e,hc'⟩
    ·omega
    injection e with e
    injection e with e1 e2
    subst e1
    subst e2
    obtain ⟨ka',kc',da',dc',g0,g1,g2,g3,g4,g5⟩:=hc' x hlt
    have hbb:b<rb:=hbr
    have e1:=(hW.cell (p:=⟨b,o+x*4+1,none⟩) hbb)
    have e2:=(hW.cell (p:=⟨b,o+x*4+2,none⟩) hbb)
    rw [g1,h1] at e1
    rw [g2,h2] at e2
    injection e1 with e1
    injection e1 with e1 _ e3
    injection e2 with e2
    injection e2 with e2 _ e4
    subst e1
    subst e2
    subst e3
    subst e4
    exact ⟨g0,g1,g2,g3,g4,g5⟩
   have HC:Hid (∀W:World,Below rb w W->W.cell? ⟨b,o+x*4,none⟩=some (.bool (N x).lf)/\W.cell? ⟨b,o+x*4+1,none⟩=some (.slice ka (N x).kn kc)/\W.cell? ⟨b,o+x*4+2,none⟩=some (.slice da (N x).dn dc)/\W.cell? ⟨b,o+x*4+3,none⟩=some (.int .i64 (N x).ct)/\RdS W ka (N x).kn (N x).ks/\Rd .i64 W da (N x).dn (N x).kd):=hcells
   have c0:=h.cell 0
   have c1:=h.cell 1
   have f1:=h.frozen 1
   simp at c0 c1
   obtain ⟨d0,d1,d2,d3,_,_⟩:=hcells w (Below.refl _ _)
   have hq:((x:Int) == (n:Int))=false:=by simp;omega
   have hx0:(0:Int)<=(x:Int):=by omega
   have hxI:(x:Int)<(n:Int):=by omega
   clear h hRd ih hcells hN
   go_enter Tryz.func109,Tryz.ntmps109
   go_wp2
   go_quiet (fail)
   go_wp2
   have H1:Hid (Below w.heap.size w (w.drewN nq)):=below_drewN (Below.refl _ _) nq
   clear c0 c1 f1 d0 d1 d2 d3
   generalize w.drewN nq=w1 at H1 ⊢
   have HR1:Hid (RBx w1 rb b o n c x D lk hk):=HR.out.below H1.out
   have c0:=HR1.out.cell 0
   have c1:=HR1.out.cell 1
   have f1:=HR1.out.frozen 1
   have hl1:=HR1.out.lt
   simp at c0 c1
   obtain ⟨d0,d1,d2,d3,_,_⟩:=HC.out w1 (H1.out.mono (by omega))
   have hbl:b<w1.heap.size:=World.block_lt_of_cell? _ _ d0
   go_region_held3 (fun w'=>w'.cell? ⟨rb,0,none⟩=some (.slice (some ⟨b,o,none⟩) n c)/\w'.cell? ⟨rb,1,none⟩=some (.int .i64 (x:Int))/\w'.cell? ⟨b,o+x*4,none⟩=some (.bool (N x).lf)/\w'.cell? ⟨b,o+x*4+1,none⟩=some (.slice ka (N x).kn kc)/\w'.cell? ⟨b,o+x*4+2,none⟩=some (.slice da (N x).dn dc)/\w'.cell? ⟨b,o+x*4+3,none⟩=some (.int .i64 (N x).ct)) (go_keep) (fail)
   go_upto_region 4 with fail
   have S2:Hid (Bx (w1.alloc (.cells #[.bool (N x).lf,.slice ka (N x).kn kc,.slice da (N x).dn dc,.int .i64 (N x).ct] 168)).drew w1.heap.size 168 #[.bool (N x).lf,.slice ka (N x).kn kc,.slice da (N x).dn dc,.int .i64 (N x).ct]/\RBx (w1.alloc (.cells #[.bool (N x).lf,.slice ka (N x).kn kc,.slice da (N x).dn dc,.int .i64 (N x).ct] 168)).drew rb b o n c x D lk hk/\Below w1.heap.size w1 (w1.alloc (.cells #[.bool (N x).lf,.slice ka (N x).kn kc,.slice da (N x).dn dc,.int .i64 (N x).ct] 168)).drew):=⟨(Bx.new _ _ _).drew,(HR1.out.alloc _).drew,(below_alloc _ _).drew⟩
   clear c0 c1 f1 d0 d1 d2 d3
   generalize (w1.alloc (.cells #[.bool (N x).lf,.slice ka (N x).kn kc,.slice da (N x).dn dc,.int .i64 (N x).ct] 168)).drew=w2 at S2 ⊢
   have hz1:=H1.out.size
   have c1:=S2.out.2.1.cell 1
   have f1:=S2.out.2.1.frozen 1
   have hl2:=S2.out.2.1.lt
   have hl3:=S2.out.1.lt
   simp at c1
   go_upto_region 5 with fail
   have S3:Hid (Bx (w2.setCell ⟨rb,1,none⟩ (.int .i64 ((x:Int)+1))) w1.heap.size 168 #[.bool (N x).lf,.slice ka (N x).kn kc,.slice da (N x).dn dc,.int .i64 (N x).ct]/\RBx (w2.setCell ⟨rb,1,none⟩ (.int .i64 ((x:Int)+1))) rb b o n c (x+1) D lk hk/\w.grownBy (w2.setCell ⟨rb,1,none⟩ (.int .i64 ((x:Int)+1))) (some rb)/\Below rb w (w2.setCell ⟨rb,1,none⟩ (.int .i64 ((x:Int)+1)))):=by
    have hg:w.grownBy (w2.setCell ⟨rb,1,none⟩ (.int .i64 ((x:Int)+1))) (some rb):=grown_trans (grown_below (H1.out.trans (S2.out.2.2.mono H1.out.size))) (grown_set _ _ _ _)
    refine ⟨S2.out.1.other (by simp;omega) _,?_,hg,below_grown hg (by omega) (Nat.le_refl _)⟩
    have q:=S2.out.2.1.set 1 (.int .i64 ((x:Int)+1))
    exact q
   clear c1 f1 S2 HR1 HR
   generalize (w2.setCell ⟨rb,1,none⟩ (.int .i64 ((x:Int)+1)))=w3 at S3 ⊢
   cases hlf:(N x).lf with
   | true=>
    rw [hlf] at S3
    have g0:=S3.out.1.cell 0
    have g1:=S3.out.1.cell 1
    have g2:=S3.out.1.cell 2
    have g3:=S3.out.1.cell 3
    simp at g0 g1 g2 g3
    go_wp2_with fail
    refine (readLeafO_any N rb b o n c x dep D hk lk d w3 ka da kc dc S3.out.2.1 hlt hlf HFit.out (fun W hW=>(HC.out W (S3.out.2.2.2.trans hW)).2.2.2.2.1) hd0).mono ?_
    rintro e w4 hret
    have HRet:=hret.from S3.out.2.2.1
    obtain ⟨hg4,v,ok,rfl,hr4⟩:=HRet
    have HF:Hid (RetRo N rb b o n c x dep D hk lk (d+1) w (.returned (.tuple #[v,.bool ok])) w4):=⟨hg4,v,ok,rfl,hr4⟩
    clear hret hg4 hr4 g0 g1 g2 g3
    go_wp2
    refine bodyPost_ret (v:=.tuple #[v,.bool ok]) (by simp [results,Tryz.results109,go_sem]) rfl HF.out
   | false=>
    rw [hlf] at S3
    have g0:=S3.out.1.cell 0
    have g1:=S3.out.1.cell 1
    have g2:=S3.out.1.cell 2
    have g3:=S3.out.1.cell 3
    simp at g0 g1 g2 g3
    go_wp2_with fail
    refine (readInnerO_any N rb b o n c x dep D hk lk d w3 ka da kc dc S3.out.2.1 hlt hn hlf HFit.out (fun W hW=>(HC.out W (S3.out.2.2.2.trans hW)).2.2.2.2.1) (fun W hW=>(HC.out W (S3.out.2.2.2.trans hW)).2.2.2.2.2) hd0 (by omega) (fun W y D2 lk2 hk2 hW=>HIH.out W y D2 lk2 hk2 (S3.out.2.2.2.trans hW))).mono ?_
    rintro e w4 hret
    have HRet:=hret.from S3.out.2.2.1
    obtain ⟨hg4,v,ok,rfl,hr4⟩:=HRet
    have HF:Hid (RetRo N rb b o n c x dep D hk lk (d+1) w (.returned (.tuple #[v,.bool ok])) w4):=⟨hg4,v,ok,rfl,hr4⟩
    clear hret hg4 hr4 g0 g1 g2 g3
    go_wp2
    refine bodyPost_ret (v:=.tuple #[v,.bool ok]) (by simp [results,Tryz.results109,go_sem]) rfl HF.out

set_option maxHeartbeats 1000000 in
theorem readO_none (a:Option Addr) (rb c:Nat) (D:Int) (hk:Bool) (lk:ByteArray) (w:World) (h:Bx w rb 161 #[.slice a 0 c,.int .i64 0,.int .i64 D,.string lk,.bool hk]) :
  Calls Tryz.prog 109 #[.pointer (some ⟨rb,0,none⟩),.int .i64 0] w fun e w'=>e=.returned (.tuple #[.nilIface,.bool false])/\Below w.heap.size w w':=by
 have c0:=h.cell 0
 have c1:=h.cell 1
 simp at c0 c1
 clear h
 go_enter Tryz.func109,Tryz.ntmps109
 go_wp2
 go_quiet (fail)
 go_wp2
 refine bodyPost_ret (v:=.tuple #[.nilIface,.bool false]) (by simp [results,Tryz.results109,go_sem]) rfl ⟨rfl,below_drewN (Below.refl _ _) _⟩

def RetTreO (w:World) (n:Nat) (N:Nat->Tn) (e:Ending) (w' : World):Prop:=
 Below w.heap.size w w'/\∃v ok,e=.returned (.tuple #[v,.bool ok])/\
  ((ok=true/\∃(t:Ro n) (t' : Ro 21) (h:Nat),VTt n N t'/\keysR 21 t'=keysR n t/\BalR n true t h/\Tells N 0 n t 0/\nodesR n t=n/\TOx w.heap.size w' n t v)\/(ok=false/\¬ VT n N))

set_option maxHeartbeats 4000000 in
theorem readTreeO_any (a:Option Addr) (n c:Nat) (N:Nat->Tn) (w:World) (h:RdTn w a n N) (hn:n<=1048576) (hN:∀i,i<n->TnFit (N i)) :
  Calls Tryz.prog 68 #[.agg #[.slice a n c]] w (RetTreO w n N):=by
 by_cases h5:5000<n
 ·have i5:(5000:Int)<(n:Int):=by omega
  have i5' : decide ((5000:Int)<(n:Int))=true:=decide_eq_true i5
  have n5' : decide (5000<n)=true:=decide_eq_true h5
  have HNo:Hid (¬ VT n N):=fun ⟨t,hv⟩=>by have:=hv.2.1;omega
  clear h hN
  go_enter Tryz.func68,Tryz.ntmps68
  go_wp2
  refine bodyPost_ret (v:=.tuple #[.nilIface,.bool false]) (by simp [results,Tryz.results68,go_sem]) rfl ⟨below_alloc _ _,_,false,rfl,.inr ⟨rfl,HNo.out⟩⟩
 ·have i5:¬ (5000:Int)<(n:Int):=by omega
  have i5' : decide ((5000:Int)<(n:Int))=false:=decide_eq_false i5
  have n5' : decide (5000<n)=false:=decide_eq_false h5
  by_cases h0:n=0
  ·subst h0
   have HNo:Hid (¬ VT 0 N):=fun ⟨t,hv⟩=>by have:=hv.1;omega
   clear h hN
   go_enter Tryz.func68,Tryz.ntmps68
   go_upto_region 4 with fail
   have S1:Hid (Bx ((w.alloc (.cells #[.slice a 0 c] 59)).alloc (.cells #[.slice a 0 c,.int .i64 0,.int .i64 0,.string { data:=#[] },.bool false] 161)) (w.heap.size+1) 161 #[.slice a 0 c,.int .i64 0,.int .i64 0,.string { data:=#[] },.bool false]/\Below w.heap.size w ((w.alloc (.cells #[.slice a 0 c] 59)).alloc (.cells #[.slice a 0 c,.int .i64 0,.int .i64 0,.string { data:=#[] },.bool false] 161))):=by
    refine ⟨?_,(below_alloc _ _).alloc (by simp) _⟩
    have q:=Bx.new (w.alloc (.cells #[.slice a 0 c] 59)) #[.slice a 0 c,.int .i64 0,.int .i64 0,.string { data:=#[] },.bool false] 161
    simpa using q
   generalize ((w.alloc (.cells #[.slice a 0 c] 59)).alloc (.cells #[.slice a 0 c,.int .i64 0,.int .i64 0,.string { data:=#[] },.bool false] 161))=W at S1 ⊢
   go_wp2_with fail
   refine (readO_none a (w.heap.size+1) c 0 false _ W S1.out.1).mono ?_
   rintro e w1 ⟨rfl,hb1⟩
   have HB:Hid (Below w.heap.size w w1):=S1.out.2.trans (hb1.mono S1.out.2.size)
   clear hb1 S1
   go_wp2
   go_quiet (fail)
   go_wp2
   refine bodyPost_ret (v:=.tuple #[.nilIface,.bool false]) (by simp [results,Tryz.results68,go_sem]) rfl ⟨below_drewN HB.out _,_,false,rfl,.inr ⟨rfl,HNo.out⟩⟩
  ·obtain ⟨b,o,rfl,hbw⟩:∃b o,a=some ⟨b,o,none⟩/\b<w.heap.size:=by
    rcases h with q|⟨b,o,e,hc⟩
    ·exact absurd q h0
    ·obtain ⟨_,_,_,_,q,_⟩:=hc 0 (by omega)
     exact ⟨b,o,e,World.block_lt_of_cell? _ _ q⟩
   have HR:Hid (RdTn w (some ⟨b,o,none⟩) n N/\∀i,i<n->TnFit (N i)):=⟨h,hN⟩
   clear h hN
   go_enter Tryz.func68,Tryz.ntmps68
   go_upto_region 4 with fail
   have S1:Hid (RBx ((w.alloc (.cells #[.slice (some ⟨b,o,none⟩) n c] 59)).alloc (.cells #[.slice (some ⟨b,o,none⟩) n c,.int .i64 0,.int .i64 0,.string { data:=#[] },.bool false] 161)) (w.heap.size+1) b o n c 0 0 { data:=#[] } false/\Bx ((w.alloc (.cells #[.slice (some ⟨b,o,none⟩) n c] 59)).alloc (.cells #[.slice (some ⟨b,o,none⟩) n c,.int .i64 0,.int .i64 0,.string { data:=#[] },.bool false] 161)) w.heap.size 59 #[.slice (some ⟨b,o,none⟩) n c]/\Below w.heap.size w ((w.alloc (.cells #[.slice (some ⟨b,o,none⟩) n c] 59)).alloc (.cells #[.slice (some ⟨b,o,none⟩) n c,.int .i64 0,.int .i64 0,.string { data:=#[] },.bool false] 161))/\((w.alloc (.cells #[.slice (some ⟨b,o,none⟩) n c] 59)).alloc (.cells #[.slice (some ⟨b,o,none⟩) n c,.int .i64 0,.int .i64 0,.string { data:=#[] },.bool false] 161)).heap.size=w.heap.size+2):=by
    refine ⟨?_,(Bx.new _ _ _).alloc _,(below_alloc _ _).alloc (by simp) _,by simp⟩
    have q:=Bx.new (w.alloc (.cells #[.slice (some ⟨b,o,none⟩) n c] 59)) #[.slice (some ⟨b,o,none⟩) n c,.int .i64 0,.int .i64 0,.string { data:=#[] },.bool false] 161
    simp only [World.size_alloc] at q
    exact q
   generalize ((w.alloc (.cells #[.slice (some ⟨b,o,none⟩) n c] 59)).alloc (.cells #[.slice (some ⟨b,o,none⟩) n c,.int .i64 0,.int .i64 0,.string { data:=#[] },.bool false] 161))=W at S1 ⊢
   go_wp2_with fail
   refine (readO_any N (w.heap.size+1) b o n c (by omega) (by omega) HR.out.2 n 0 0 0 false _ W (by omega) (by omega) (by omega) (by omega) S1.out.1 (fun W' hW'=>HR.out.1.below (S1.out.2.2.1.trans (hW'.mono (by omega))))).mono ?_
   rintro e w1 ⟨hg1,v,ok,rfl,hr⟩
   have hsW:=S1.out.2.2.2
   have HB:Hid (Below w.heap.size w w1):=S1.out.2.2.1.trans (below_grown hg1 (by omega) (by omega))
   have HT:Hid (Bx w1 w.heap.size 59 #[.slice (some ⟨b,o,none⟩) n c]):=S1.out.2.1.grown hg1 (fun e=>by injection e with e;omega)
   have HRR:Hid ((ok=true/\∃t D' hk' lk',Good N n 0 0 0 false { data:=#[] } n t D' hk' lk'/\RBx w1 (w.heap.size+1) b o n c (0+nodesR n t) D' lk' hk'/\TOx W.heap.size w1 n t v)\/(ok=false/\¬ ∃t D' hk' lk',Good N n 0 0 0 false { data:=#[] } n t D' hk' lk')):=hr
   have HWs:Hid (w.heap.size<=W.heap.size):=by
    show w.heap.size<=W.heap.size
    omega
   clear hg1 hr S1 hsW
   cases ok with
   | false=>
    have HNo:Hid (¬ VT n N):=by
     rintro ⟨t,hv⟩
     obtain ⟨t2,D',hk',lk',g,_⟩:=vt_good hv (Nat.le_refl n)
     rcases HRR.out with ⟨q,_⟩|⟨_,q⟩
     ·cases q
     ·exact q ⟨t2,D',hk',lk',g⟩
    go_wp2
    go_quiet (fail)
    go_wp2
    refine bodyPost_ret (v:=.tuple #[.nilIface,.bool false]) (by simp [results,Tryz.results68,go_sem]) rfl ⟨below_drewN HB.out _,_,false,rfl,.inr ⟨rfl,HNo.out⟩⟩
   | true=>
    obtain ⟨t,D',hk',lk',hgood,hrb,hta⟩:∃t D' hk' lk',Good N n 0 0 0 false { data:=#[] } n t D' hk' lk'/\RBx w1 (w.heap.size+1) b o n c (0+nodesR n t) D' lk' hk'/\TOx W.heap.size w1 n t v:=by
     rcases HRR.out with ⟨_,q⟩|⟨q,_⟩
     ·exact q
     ·cases q
    have HG:Hid (Good N n 0 0 0 false { data:=#[] } n t D' hk' lk'/\TOx W.heap.size w1 n t v):=⟨hgood,hta⟩
    have y0:=HT.out.cell 0
    have hle:=hgood.le
    rw [Nat.zero_add] at hrb hle
    obtain ⟨m,hm⟩:∃m,m=nodesR n t:=⟨_,rfl⟩
    rw [<- hm] at hrb hle
    have r1:=hrb.cell 1
    have HM:Hid (m=nodesR n t):=hm
    simp at y0 r1
    clear HRR hgood hrb hta hm
    obtain ⟨vb,hvf⟩:∃p,v=.iface 204 (.pointer (some p))\/v=.iface 174 (.pointer (some p)):=by
     obtain ⟨bb,_,_,_,hv⟩:=(TOx.tat HG.out.2).count
     exact ⟨_,hv⟩
    by_cases hmn:m=n
    ·have HOut:Hid (∃(t:Ro n) (t' : Ro 21) (h:Nat),VTt n N t'/\keysR 21 t'=keysR n t/\BalR n true t h/\Tells N 0 n t 0/\nodesR n t=n/\TOx w.heap.size w1 n t v):=by
      have hnt:nodesR n t=n:=by rw [<- HM.out];exact hmn
      obtain ⟨t',q1,q2⟩:=good_vt (by omega) HG.out.1 hnt
      obtain ⟨hh,hb,_⟩:=HG.out.1.bal
      exact ⟨t,t',hh,q1,q2,by simpa using hb,HG.out.1.tl,hnt,TOx.mono HG.out.2 (by have:=HWs.out;omega)⟩
     subst hmn
     have hq:((m:Int) != (m:Int))=false:=by simp
     rcases hvf with rfl|rfl
     ·go_wp2
      go_quiet (fail)
      go_wp2
      refine bodyPost_ret (v:=.tuple #[.iface 204 (.pointer (some vb)),.bool true]) (by simp [results,Tryz.results68,go_sem]) rfl ⟨below_drewN HB.out _,_,true,rfl,.inl ⟨rfl,?_⟩⟩
      obtain ⟨t,t',hh,q1,q2,q3,q4,q5,q6⟩:=HOut.out
      exact ⟨t,t',hh,q1,q2,q3,q4,q5,q6.below (below_drewN (Below.refl _ _) _)⟩
     ·go_wp2
      go_quiet (fail)
      go_wp2
      refine bodyPost_ret (v:=.tuple #[.iface 174 (.pointer (some vb)),.bool true]) (by simp [results,Tryz.results68,go_sem]) rfl ⟨below_drewN HB.out _,_,true,rfl,.inl ⟨rfl,?_⟩⟩
      obtain ⟨t,t',hh,q1,q2,q3,q4,q5,q6⟩:=HOut.out
      exact ⟨t,t',hh,q1,q2,q3,q4,q5,q6.below (below_drewN (Below.refl _ _) _)⟩
    ·have hq:((m:Int) != (n:Int))=true:=by simp;omega
     have HNo:Hid (¬ VT n N):=by
      rintro ⟨t2,hv⟩
      obtain ⟨t3,D3,hk3,lk3,g3,e3⟩:=vt_good hv (Nat.le_refl n)
      have e:=tells_uniq _ _ _ g3.tl HG.out.1.tl
      rw [e,<- HM.out] at e3
      exact hmn e3
     rcases hvf with rfl|rfl
     ·go_wp2
      go_quiet (fail)
      go_wp2
      refine bodyPost_ret (v:=.tuple #[.nilIface,.bool false]) (by simp [results,Tryz.results68,go_sem]) rfl ⟨below_drewN HB.out _,_,false,rfl,.inr ⟨rfl,HNo.out⟩⟩
     ·go_wp2
      go_quiet (fail)
      go_wp2
      refine bodyPost_ret (v:=.tuple #[.nilIface,.bool false]) (by simp [results,Tryz.results68,go_sem]) rfl ⟨below_drewN HB.out _,_,false,rfl,.inr ⟨rfl,HNo.out⟩⟩

end Go.Proofs.YtcnollkkigiobaaGreat
