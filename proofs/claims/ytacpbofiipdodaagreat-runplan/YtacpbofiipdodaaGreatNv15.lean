import Derived.Test.YtacpbofiipdodaaGreatNv14
import Derived.Test.YtacpbofiipdodaaGreatNv12
set_option linter.unusedVariables false
set_option linter.unusedSimpArgs false
set_option maxRecDepth 100000
set_option maxHeartbeats 90000000
namespace Go.Proofs.YtacpbofiipdodaaGreat
open Go Go.Deep Go.RowKit
theorem DZ.from {N:Nat->Tn} {rb b o n c x:Nat} {dep D:Int} {hk:Bool} {lk:ByteArray} {d:Nat} {w W:World} {e:Ending} {w' : World} (h:DZ N rb b o n c x dep D hk lk d W e w') (hg:w.grownBy W (some rb)):DZ N rb b o n c x dep D hk lk d w e w':=by
 obtain⟨h1,v,ok,e1,h2⟩:=h;refine⟨Aj hg h1,v,ok,e1,?_⟩;rcases h2 with ⟨q1,t,D',hk',lk',q2,q3,q4⟩|q;.exact Or.inl ⟨q1,t,D',hk',lk',q2,q3,q4.mono (Wu _) (λbb hs _=>⟨by have:=hg.size;show w.heap.size<=bb;have hs' : W.heap.size<=bb:=hs;omega,rfl⟩)⟩
 .exact Or.inr q
theorem PQ (N:Nat->Tn) (rb b o n c:Nat) (hn:n<=5000) (hbr:b<rb) (hN:∀i,i<n->Bf (N i)):∀(d x:Nat) (dep D:Int) (hk:Bool) (lk:ByteArray) (w:World),n<=x+d->x<=n->0<=dep->dep<=(x:Int)->CS w rb b o n c x D lk hk->(∀W:World,Below rb w W->Bk W (some (ad b o)) n N)->
  WS 146 #[pt rb,iv dep] w (DZ N rb b o n c x dep D hk lk d w):=by
 intro d;induction d with
 | zero=>
  intro x dep D hk lk w hf hx hd0 hd1 h hRd;have e:x=n:=by omega
  subst e;have c0:=h.cell 0;have c1:=h.cell 1;simp at c0 c1;have hq:((x:Int) == (x:Int))=true:=by simp
  clear h hRd hf hN;go_enter Tryz.func146,Tryz.ntmps146;go_wp2;go_quiet (fail)
  go_wp2;refine bodyPost_ret (v:=.tuple #[.nilIface,.bool false]) (by simp[results,Tryz.results146,go_sem]) rfl ⟨Ak (Af (Wt _ _) _),_,false,rfl,Or.inr ⟨rfl,λ⟨t,_⟩=>t.elim⟩⟩
 | succ d ih=>
  intro x dep D hk lk w hf hx hd0 hd1 h hRd;have hrl:=h.lt;by_cases hxn:x=n
  .subst hxn;have c0:=h.cell 0;have c1:=h.cell 1;simp at c0 c1;have hq:((x:Int) == (x:Int))=true:=by simp
   clear h hRd hf hN ih;go_enter Tryz.func146,Tryz.ntmps146;go_wp2;go_quiet (fail)
   go_wp2;refine bodyPost_ret (v:=.tuple #[.nilIface,.bool false]) (by simp[results,Tryz.results146,go_sem]) rfl ⟨Ak (Af (Wt _ _) _),_,false,rfl,Or.inr ⟨rfl,λ⟨t,D',hk',lk',g⟩=>?_⟩⟩;have h1:=g.le;have h2:=DW (d+1) t;omega
  .have hlt:x<n:=by omega
   have HR:U (CS w rb b o n c x D lk hk):=h;have HRd:U (∀W:World,Below rb w W->Bk W (some (ad b o)) n N):=hRd;have HIH:U (∀(W:World) (y:Nat) (D2:Int) (lk2:ByteArray) (hk2:Bool),Below rb w W->x+1<=y->y<=n->CS W rb b o n c y D2 lk2 hk2->WS 146 #[pt rb,iv (dep+1)] W (DZ N rb b o n c y (dep+1) D2 hk2 lk2 d W)):=λW y D2 lk2 hk2 hW hy hyn hrb=>ih y (dep+1) D2 hk2 lk2 W (by omega) hyn (by omega) (by omega) hrb (λW' hW'=>hRd W' (hW.trans hW'));have HFit:U (Bf (N x)):=hN x hlt;obtain⟨ka,kc,da,dc,hcells⟩:∃ka kc da dc,∀W:World,Below rb w W->W.cell? (ad b (o+x*4))=some (.bool (N x).lf)/\W.cell? (ad b (o+x*4+1))=some (.slice ka (N x).kn kc)/\W.cell? (ad b (o+x*4+2))=some (.slice da (N x).dn dc)/\W.cell? (ad b (o+x*4+3))=some (iv (N x).ct)/\BE W ka (N x).kn (N x).ks/\Rd .i64 W da (N x).dn (N x).kd:=by
    rcases hRd w (Wt _ _) with q|⟨b',o',e,hc⟩;.omega
    injection e with e;injection e with e1 e2;subst e1;subst e2;obtain⟨ka,kc,da,dc,h0,h1,h2,h3,h4,h5⟩:=hc x hlt;refine⟨ka,kc,da,dc,λW hW=>?_⟩;rcases hRd W hW with q|⟨b',o',e,hc'⟩;.omega
    injection e with e;injection e with e1 e2;subst e1;subst e2;obtain⟨ka',kc',da',dc',g0,g1,g2,g3,g4,g5⟩:=hc' x hlt;have hbb:b<rb:=hbr;have e1:=(hW.cell (p:=(ad b (o+x*4+1))) hbb);have e2:=(hW.cell (p:=(ad b (o+x*4+2))) hbb);rw[g1,h1] at e1;rw[g2,h2] at e2;injection e1 with e1;injection e1 with e1 _ e3;injection e2 with e2;injection e2 with e2 _ e4;subst e1;subst e2;subst e3;subst e4;exact⟨g0,g1,g2,g3,g4,g5⟩
   have HC:U (∀W:World,Below rb w W->W.cell? (ad b (o+x*4))=some (.bool (N x).lf)/\W.cell? (ad b (o+x*4+1))=some (.slice ka (N x).kn kc)/\W.cell? (ad b (o+x*4+2))=some (.slice da (N x).dn dc)/\W.cell? (ad b (o+x*4+3))=some (iv (N x).ct)/\BE W ka (N x).kn (N x).ks/\Rd .i64 W da (N x).dn (N x).kd):=hcells;have c0:=h.cell 0;have c1:=h.cell 1;have f1:=h.frozen 1;simp at c0 c1;obtain⟨d0,d1,d2,d3,_,_⟩:=hcells w (Wt _ _);have hq:((x:Int) == (n:Int))=false:=by simp;omega
   have hx0:(0:Int)<=(x:Int):=by omega
   have hxI:(x:Int)<(n:Int):=by omega
   clear h hRd ih hcells hN;go_enter Tryz.func146,Tryz.ntmps146;go_wp2;go_quiet (fail)
   go_wp2;have H1:U (Bl w (w.drewN nq)):=Af (Wt _ _) nq;clear c0 c1 f1 d0 d1 d2 d3;generalize w.drewN nq=w1 at H1 ⊢;have HR1:U (CS w1 rb b o n c x D lk hk):=HR.o.below H1.o;have c0:=HR1.o.cell 0;have c1:=HR1.o.cell 1;have f1:=HR1.o.frozen 1;have hl1:=HR1.o.lt;simp at c0 c1;obtain⟨d0,d1,d2,d3,_,_⟩:=HC.o w1 (H1.o.mono (by omega));have hbl:b<w1.heap.size:=Ws _ _ d0;go_region_held3 (λw'=>w'.cell? (ad rb 0)=some (.slice (some (ad b o)) n c)/\w'.cell? (ad rb 1)=some (iv (x:Int))/\w'.cell? (ad b (o+x*4))=some (.bool (N x).lf)/\w'.cell? (ad b (o+x*4+1))=some (.slice ka (N x).kn kc)/\w'.cell? (ad b (o+x*4+2))=some (.slice da (N x).dn dc)/\w'.cell? (ad b (o+x*4+3))=some (iv (N x).ct)) (go_keep) (fail)
   go_upto_region 4 with fail
   have S2:U (Bx (w1.alloc (.cells #[.bool (N x).lf,.slice ka (N x).kn kc,.slice da (N x).dn dc,iv (N x).ct] 267)).drew w1.heap.size 267 #[.bool (N x).lf,.slice ka (N x).kn kc,.slice da (N x).dn dc,iv (N x).ct]/\CS (w1.alloc (.cells #[.bool (N x).lf,.slice ka (N x).kn kc,.slice da (N x).dn dc,iv (N x).ct] 267)).drew rb b o n c x D lk hk/\Bl w1 (w1.alloc (.cells #[.bool (N x).lf,.slice ka (N x).kn kc,.slice da (N x).dn dc,iv (N x).ct] 267)).drew):=⟨(Bx.new _ _ _).drew,(HR1.o.alloc _).drew,(Aa _ _).drew⟩;clear c0 c1 f1 d0 d1 d2 d3;generalize (w1.alloc (.cells #[.bool (N x).lf,.slice ka (N x).kn kc,.slice da (N x).dn dc,iv (N x).ct] 267)).drew=w2 at S2 ⊢;have hz1:=H1.o.size;have c1:=S2.o.2.1.cell 1;have f1:=S2.o.2.1.frozen 1;have hl2:=S2.o.2.1.lt;have hl3:=S2.o.1.lt;simp at c1;go_upto_region 5 with fail
   have S3:U (Bx (w2.setCell (ad rb 1) (iv ((x:Int)+1))) w1.heap.size 267 #[.bool (N x).lf,.slice ka (N x).kn kc,.slice da (N x).dn dc,iv (N x).ct]/\CS (w2.setCell (ad rb 1) (iv ((x:Int)+1))) rb b o n c (x+1) D lk hk/\w.grownBy (w2.setCell (ad rb 1) (iv ((x:Int)+1))) (some rb)/\Below rb w (w2.setCell (ad rb 1) (iv ((x:Int)+1)))):=by have hg:w.grownBy (w2.setCell (ad rb 1) (iv ((x:Int)+1))) (some rb):=Aj (Ak (H1.o.trans (S2.o.2.2.mono H1.o.size))) (BH _ _ _ _);refine⟨S2.o.1.other (by simp;omega) _,?_,hg,A1 hg (by omega) (Wu _)⟩;have q:=S2.o.2.1.set 1 (iv ((x:Int)+1));exact q
   clear c1 f1 S2 HR1 HR;generalize (w2.setCell (ad rb 1) (iv ((x:Int)+1)))=w3 at S3 ⊢;cases hlf:(N x).lf with
   | true=>
    rw[hlf] at S3;have g0:=S3.o.1.cell 0;have g1:=S3.o.1.cell 1;have g2:=S3.o.1.cell 2;have g3:=S3.o.1.cell 3;simp at g0 g1 g2 g3;go_wp2_with fail
    refine (Kh N rb b o n c x dep D hk lk d w3 ka da kc dc S3.o.2.1 hlt hlf HFit.o (λW hW=>(HC.o W (S3.o.2.2.2.trans hW)).2.2.2.2.1) hd0).mono ?_;rintro e w4 hret;have HRet:=hret.from S3.o.2.2.1;obtain⟨hg4,v,ok,rfl,hr4⟩:=HRet;have HF:U (DZ N rb b o n c x dep D hk lk (d+1) w (.returned (.tuple #[v,.bool ok])) w4):=⟨hg4,v,ok,rfl,hr4⟩;clear hret hg4 hr4 g0 g1 g2 g3;go_wp2;refine bodyPost_ret (v:=.tuple #[v,.bool ok]) (by simp[results,Tryz.results146,go_sem]) rfl HF.o
   | false=>
    rw[hlf] at S3;have g0:=S3.o.1.cell 0;have g1:=S3.o.1.cell 1;have g2:=S3.o.1.cell 2;have g3:=S3.o.1.cell 3;simp at g0 g1 g2 g3;go_wp2_with fail
    refine (Jz N rb b o n c x dep D hk lk d w3 ka da kc dc S3.o.2.1 hlt hn hlf HFit.o (λW hW=>(HC.o W (S3.o.2.2.2.trans hW)).2.2.2.2.1) (λW hW=>(HC.o W (S3.o.2.2.2.trans hW)).2.2.2.2.2) hd0 (by omega) (λW y D2 lk2 hk2 hW=>HIH.o W y D2 lk2 hk2 (S3.o.2.2.2.trans hW))).mono ?_;rintro e w4 hret;have HRet:=hret.from S3.o.2.2.1;obtain⟨hg4,v,ok,rfl,hr4⟩:=HRet;have HF:U (DZ N rb b o n c x dep D hk lk (d+1) w (.returned (.tuple #[v,.bool ok])) w4):=⟨hg4,v,ok,rfl,hr4⟩;clear hret hg4 hr4 g0 g1 g2 g3;go_wp2;refine bodyPost_ret (v:=.tuple #[v,.bool ok]) (by simp[results,Tryz.results146,go_sem]) rfl HF.o
theorem Pr (a:Option Addr) (rb c:Nat) (D:Int) (hk:Bool) (lk:ByteArray) (w:World) (h:Bx w rb 276 #[.slice a 0 c,iv 0,iv D,.string lk,.bool hk]) :
  WS 146 #[pt rb,iv 0] w (WT w (.tuple #[.nilIface,.bool false])):=by
 have c0:=h.cell 0;have c1:=h.cell 1;simp at c0 c1;clear h;go_enter Tryz.func146,Tryz.ntmps146;go_wp2;go_quiet (fail)
 go_wp2;refine bodyPost_ret (v:=.tuple #[.nilIface,.bool false]) (by simp[results,Tryz.results146,go_sem]) rfl ⟨rfl,Af (Wt _ _) _⟩
def NS (w:World) (n:Nat) (N:Nat->Tn) (e:Ending) (w' : World):Prop:=
 Bl w w'/\∃v ok,e=.returned (.tuple #[v,.bool ok])/\
  ((ok=true/\∃(t:Ro n) (t' : Ro 21) (h:Nat),Dv n N t'/\Ab 21 t'=Ab n t/\Br n true t h/\AJ N 0 n t 0/\Ad n t=n/\Ei (λb=>w.heap.size<=b) w' n t v)\/(ok=false/\¬ VT n N))
theorem KB (a:Option Addr) (n c:Nat) (N:Nat->Tn) (w:World) (h:Bk w a n N) (hn:n<=1048576) (hN:∀i,i<n->Bf (N i)) :
  WS 126 #[.agg #[.slice a n c]] w (NS w n N):=by
 by_cases h5:5000<n
 .have i5:(5000:Int)<(n:Int):=by omega
  have i5' : decide ((5000:Int)<(n:Int))=true:=decide_eq_true i5;have n5' : decide (5000<n)=true:=decide_eq_true h5;have HNo:U (¬ VT n N):=λ⟨t,hv⟩=>by have:=hv.2.1;omega
  clear h hN;go_enter Tryz.func126,Tryz.ntmps126;go_wp2;refine bodyPost_ret (v:=.tuple #[.nilIface,.bool false]) (by simp[results,Tryz.results126,go_sem]) rfl ⟨Aa _ _,_,false,rfl,.inr ⟨rfl,HNo.o⟩⟩
 .have i5:¬ (5000:Int)<(n:Int):=by omega
  have i5' : decide ((5000:Int)<(n:Int))=false:=decide_eq_false i5;have n5' : decide (5000<n)=false:=decide_eq_false h5;by_cases h0:n=0
  .subst h0;have HNo:U (¬ VT 0 N):=λ⟨t,hv⟩=>by have:=hv.1;omega
   clear h hN;go_enter Tryz.func126,Tryz.ntmps126;go_upto_region 4 with fail
   have S1:U (Bx ((w.alloc (.cells #[.slice a 0 c] 73)).alloc (.cells #[.slice a 0 c,iv 0,iv 0,.string { data:=#[] },.bool false] 276)) (w.heap.size+1) 276 #[.slice a 0 c,iv 0,iv 0,.string { data:=#[] },.bool false]/\Bl w ((w.alloc (.cells #[.slice a 0 c] 73)).alloc (.cells #[.slice a 0 c,iv 0,iv 0,.string { data:=#[] },.bool false] 276))):=by refine⟨?_,(Aa _ _).alloc (by simp) _⟩;have q:=Bx.new (w.alloc (.cells #[.slice a 0 c] 73)) #[.slice a 0 c,iv 0,iv 0,.string { data:=#[] },.bool false] 276;simpa using q
   generalize ((w.alloc (.cells #[.slice a 0 c] 73)).alloc (.cells #[.slice a 0 c,iv 0,iv 0,.string { data:=#[] },.bool false] 276))=W at S1 ⊢;go_wp2_with fail
   refine (Pr a (w.heap.size+1) c 0 false _ W S1.o.1).mono ?_;rintro e w1 ⟨rfl,hb1⟩;have HB:=hid (S1.o.2.trans (hb1.mono S1.o.2.size));clear hb1 S1;go_wp2;go_quiet (fail)
   go_wp2;refine bodyPost_ret (v:=.tuple #[.nilIface,.bool false]) (by simp[results,Tryz.results126,go_sem]) rfl ⟨Af HB.o _,_,false,rfl,.inr ⟨rfl,HNo.o⟩⟩
  .obtain⟨b,o,rfl,hbw⟩:∃b o,a=some (ad b o)/\b<w.heap.size:=by
    rcases h with q|⟨b,o,e,hc⟩;.exact absurd q h0
    .obtain⟨_,_,_,_,q,_⟩:=hc 0 (by omega);exact⟨b,o,e,Ws _ _ q⟩
   have HR:=hid (ai h hN);clear h hN;go_enter Tryz.func126,Tryz.ntmps126;go_upto_region 4 with fail
   have S1:U (CS ((w.alloc (.cells #[.slice (some (ad b o)) n c] 73)).alloc (.cells #[.slice (some (ad b o)) n c,iv 0,iv 0,.string { data:=#[] },.bool false] 276)) (w.heap.size+1) b o n c 0 0 { data:=#[] } false/\Bx ((w.alloc (.cells #[.slice (some (ad b o)) n c] 73)).alloc (.cells #[.slice (some (ad b o)) n c,iv 0,iv 0,.string { data:=#[] },.bool false] 276)) w.heap.size 73 #[.slice (some (ad b o)) n c]/\Bl w ((w.alloc (.cells #[.slice (some (ad b o)) n c] 73)).alloc (.cells #[.slice (some (ad b o)) n c,iv 0,iv 0,.string { data:=#[] },.bool false] 276))/\((w.alloc (.cells #[.slice (some (ad b o)) n c] 73)).alloc (.cells #[.slice (some (ad b o)) n c,iv 0,iv 0,.string { data:=#[] },.bool false] 276)).heap.size=w.heap.size+2):=by refine⟨?_,(Bx.new _ _ _).alloc _,(Aa _ _).alloc (by simp) _,by simp⟩;have q:=Bx.new (w.alloc (.cells #[.slice (some (ad b o)) n c] 73)) #[.slice (some (ad b o)) n c,iv 0,iv 0,.string { data:=#[] },.bool false] 276;simp only[WJ] at q;exact q
   generalize ((w.alloc (.cells #[.slice (some (ad b o)) n c] 73)).alloc (.cells #[.slice (some (ad b o)) n c,iv 0,iv 0,.string { data:=#[] },.bool false] 276))=W at S1 ⊢;go_wp2_with fail
   refine (PQ N (w.heap.size+1) b o n c (by omega) (by omega) HR.o.2 n 0 0 0 false _ W (by omega) (by omega) (by omega) (by omega) S1.o.1 (λW' hW'=>HR.o.1.below (S1.o.2.2.1.trans (hW'.mono (by omega))))).mono ?_;rintro e w1 ⟨hg1,v,ok,rfl,hr⟩;have hsW:=S1.o.2.2.2;have HB:=hid (S1.o.2.2.1.trans (A1 hg1 (by omega) (by omega)));have HT:=hid (S1.o.2.1.grown hg1 (λe=>by injection e with e;omega));have HRR:=hid hr;have HWs:U (w.heap.size<=W.heap.size):=by show w.heap.size<=W.heap.size;omega
   clear hg1 hr S1 hsW;cases ok with
   | false=>
    have HNo:U (¬ VT n N):=by
     rintro⟨t,hv⟩;obtain⟨t2,D',hk',lk',g,_⟩:=NU hv (Wu n);rcases HRR.o with ⟨q,_⟩|⟨_,q⟩;.cases q
     .exact q ⟨t2,D',hk',lk',g⟩
    go_wp2;go_quiet (fail)
    go_wp2;refine bodyPost_ret (v:=.tuple #[.nilIface,.bool false]) (by simp[results,Tryz.results126,go_sem]) rfl ⟨Af HB.o _,_,false,rfl,.inr ⟨rfl,HNo.o⟩⟩
   | true=>
    obtain⟨t,D',hk',lk',hgood,hrb,hta⟩:∃t D' hk' lk',Cg N n 0 0 0 false { data:=#[] } n t D' hk' lk'/\CS w1 (w.heap.size+1) b o n c (0+Ad n t) D' lk' hk'/\Ei (λb=>W.heap.size<=b) w1 n t v:=by
     rcases HRR.o with ⟨_,q⟩|⟨q,_⟩;.exact q
     .cases q
    have HG:=hid (ai hgood hta);have y0:=HT.o.cell 0;have hle:=hgood.le;rw[WM] at hrb hle;obtain⟨m,hm⟩:=gn (Ad n t);rw[<- hm] at hrb hle;have r1:=hrb.cell 1;have HM:=hid hm;simp at y0 r1;clear HRR hgood hrb hta hm;obtain⟨vb,hvf⟩:∃p,v=.iface 306 (.pointer (some p))\/v=.iface 311 (.pointer (some p)):=by obtain⟨bb,_,_,_,hv⟩:=HG.o.2.count;exact⟨_,hv⟩
    by_cases hmn:m=n
    .have HOut:U (∃(t:Ro n) (t' : Ro 21) (h:Nat),Dv n N t'/\Ab 21 t'=Ab n t/\Br n true t h/\AJ N 0 n t 0/\Ad n t=n/\Ei (λb=>w.heap.size<=b) w1 n t v):=by
      have hnt:Ad n t=n:=by rw[<- HM.o];exact hmn
      obtain⟨t',q1,q2⟩:=SD (by omega) HG.o.1 hnt;obtain⟨hh,hb,_⟩:=HG.o.1.bal;exact⟨t,t',hh,q1,q2,by simpa using hb,HG.o.1.tl,hnt,HG.o.2.mono (Wu _) (λbb hs _=>⟨by have:=HWs.o;have hs' : W.heap.size<=bb:=hs;show w.heap.size<=bb;omega,rfl⟩)⟩
     subst hmn;have hq:((m:Int) != (m:Int))=false:=by simp
     rcases hvf with rfl|rfl
     .go_wp2;go_quiet (fail)
      go_wp2;refine bodyPost_ret (v:=.tuple #[.iface 306 (.pointer (some vb)),.bool true]) (by simp[results,Tryz.results126,go_sem]) rfl ⟨Af HB.o _,_,true,rfl,.inl ⟨rfl,?_⟩⟩;obtain⟨t,t',hh,q1,q2,q3,q4,q5,q6⟩:=HOut.o;exact⟨t,t',hh,q1,q2,q3,q4,q5,q6.below (Af (Wt _ _) _)⟩
     .go_wp2;go_quiet (fail)
      go_wp2;refine bodyPost_ret (v:=.tuple #[.iface 311 (.pointer (some vb)),.bool true]) (by simp[results,Tryz.results126,go_sem]) rfl ⟨Af HB.o _,_,true,rfl,.inl ⟨rfl,?_⟩⟩;obtain⟨t,t',hh,q1,q2,q3,q4,q5,q6⟩:=HOut.o;exact⟨t,t',hh,q1,q2,q3,q4,q5,q6.below (Af (Wt _ _) _)⟩
    .have hq:((m:Int) != (n:Int))=true:=by simp;omega
     have HNo:U (¬ VT n N):=by rintro⟨t2,hv⟩;obtain⟨t3,D3,hk3,lk3,g3,e3⟩:=NU hv (Wu n);have e:=Dn _ _ _ g3.tl HG.o.1.tl;rw[e,<- HM.o] at e3;exact hmn e3
     rcases hvf with rfl|rfl
     .go_wp2;go_quiet (fail)
      go_wp2;refine bodyPost_ret (v:=.tuple #[.nilIface,.bool false]) (by simp[results,Tryz.results126,go_sem]) rfl ⟨Af HB.o _,_,false,rfl,.inr ⟨rfl,HNo.o⟩⟩
     .go_wp2;go_quiet (fail)
      go_wp2;refine bodyPost_ret (v:=.tuple #[.nilIface,.bool false]) (by simp[results,Tryz.results126,go_sem]) rfl ⟨Af HB.o _,_,false,rfl,.inr ⟨rfl,HNo.o⟩⟩
variable {L:List ByteArray}{d i:Nat}{key:ByteArray}
def DE (L:List ByteArray):Prop:=L.Pairwise (λa b=>Op.bytesLess a.toList b.toList=true)
def Bz (key:ByteArray) (L:List ByteArray):Nat:=(L.filter (λk=>Op.bytesLess k.toList key.toList)).length
theorem Ba (h:L4 L L.length):DE L:=by unfold DE;rw[List.pairwise_iff_getElem];intro i j hi hj hij;have q:=PO (X:=gt L) (k:=L.length) (λm hm h0=>(h m hm).2 h0) j hj i hij;unfold gt at q;rw[WA,WA,Wx hi,Wx hj] at q;exact q
theorem IE (key:ByteArray) (L M:List ByteArray):Bz key (L++M)=Bz key L+Bz key M:=by unfold Bz;rw[List.filter_append,WD]
theorem LI (h:∀k,k∈L->Op.bytesLess k.toList key.toList=true):Bz key L=L.length:=by unfold Bz;rw[List.filter_eq_self.2 h]
theorem JZ (h:∀k,k∈L->Op.bytesLess k.toList key.toList=false):Bz key L=0:=by unfold Bz;rw[List.length_eq_zero_iff,List.filter_eq_nil_iff];intro k hk;rw[h k hk];simp
theorem SA (hi:i<=L.length) (h1:∀j,j<i->Op.bytesLess (gt L j).toList key.toList=true) (h2:∀j,i<=j->j<L.length->Op.bytesLess (gt L j).toList key.toList=false):Bz key L=i:=by
 rw[<- List.take_append_drop i L,IE,LI,JZ,WI];.omega
 .intro k hk;obtain⟨j,hj,rfl⟩:=List.getElem_of_mem hk;rw[List.length_drop] at hj;have q:=h2 (i+j) (by omega) (by omega);unfold gt at q;rw[WA,Wx (by omega)] at q;rw[List.getElem_drop];exact q
 .intro k hk;obtain⟨j,hj,rfl⟩:=List.getElem_of_mem hk;rw[WI] at hj;have q:=h1 j (by omega);unfold gt at q;rw[WA,Wx (by omega)] at q;rw[List.getElem_take];exact q
theorem Fs (h:i<L.length):gt L i∈L:=by unfold gt;rw[WA,Wx h];exact WE h
theorem Li (h:DE L) {j:Nat} (hij:i<j) (hj:j<L.length):Op.bytesLess (gt L i).toList (gt L j).toList=true:=by have q:=List.pairwise_iff_getElem.1 h i j (by omega) hj hij;unfold gt;rw[WA,WA,Wx (by omega),Wx hj];exact q
theorem EZ {a b:List UInt8} (h:Op.bytesLess a b=true):Op.bytesLess b a=false:=by
 cases e:Op.bytesLess b a with
 | false=>rfl
 | true=>have:=AZ _ _ _ h e;rw[CM] at this;cases this
theorem DH {x y z:List UInt8} (h:Op.bytesLess x y=true) (h2:Op.bytesLess z y=false):Op.bytesLess x z=true:=by
 have t:=BR y z;cases e:Op.bytesLess y z with
 | true=>exact AZ _ _ _ h e
 | false=>rw[h2,e] at t;simp at t;rw[t];exact h
theorem PU {l:List (Ro d)} (hi:i<l.length) (ha:DE (l.flatMap (Ab d))) (hp:∀k (h:k<l.length),0<(Ab d l[k]).length) (h1:0<i->Op.bytesLess key.toList (gt (Ab d l[i]) 0).toList=false) (h2:∀h:i+1<l.length,Op.bytesLess key.toList (gt (Ab d l[i+1]) 0).toList=true) :
  Bz key (l.flatMap (Ab d))=((l.take i).flatMap (Ab d)).length+Bz key (Ab d l[i]):=by
 have e:l=l.take i++(l[i]::l.drop (i+1)):=by
  conv=>lhs;rw[<- List.take_append_drop (i+1) l,<- List.take_append_getElem hi]
  simp
 have ef:l.flatMap (Ab d)=(l.take i).flatMap (Ab d)++(Ab d l[i]++(l.drop (i+1)).flatMap (Ab d)):=by
  conv=>lhs;rw[e]
  rw[List.flatMap_append,List.flatMap_cons]
 rw[ef] at ha ⊢;unfold DE at ha;rw[List.pairwise_append] at ha;obtain⟨_,ha2,ha3⟩:=ha;rw[List.pairwise_append] at ha2;obtain⟨_,ha4,ha5⟩:=ha2;rw[IE,IE,LI,JZ (L:=(l.drop (i+1)).flatMap (Ab d))];.rfl
 .intro k hk;by_cases hl:i+1<l.length
  .have h3:=h2 hl;have hd:=List.drop_eq_getElem_cons hl;rw[hd,List.flatMap_cons] at hk ha4;rw[List.pairwise_append] at ha4;obtain⟨q1,_,q3⟩:=ha4;have hf:=Fs (hp (i+1) hl);rcases List.mem_append.1 hk with hk|hk
   .obtain⟨j,hj,rfl⟩:=List.getElem_of_mem hk;by_cases e0:j=0
    .subst e0;have:(Ab d l[i+1])[0]=gt (Ab d l[i+1]) 0:=by unfold gt;rw[WA,Wx hj];rfl
     rw[this];exact EZ h3
    .have:=Li q1 (show 0<j by omega) hj;have e1:(Ab d l[i+1])[j]=gt (Ab d l[i+1]) j:=by unfold gt;rw[WA,Wx hj];rfl
     rw[e1];exact EZ (AZ _ _ _ h3 this)
   .exact EZ (AZ _ _ _ h3 (q3 _ hf _ hk))
  .rw[List.drop_eq_nil_of_le (by omega)] at hk;simp at hk
 .intro k hk;by_cases h0:0<i;.have hf:=Fs (hp i hi);have:=ha3 k hk (gt (Ab d l[i]) 0) (List.mem_append_left _ hf);exact DH this (h1 h0)
  .have:i=0:=by omega
   subst this;simp at hk
theorem Oh {l:List (Ro d)} (ha:DE (l.flatMap (Ab d))) (i:Nat) (hi:i<l.length):DE (Ab d l[i]):=by
 have e:l=l.take i++(l[i]::l.drop (i+1)):=by
  conv=>lhs;rw[<- List.take_append_drop (i+1) l,<- List.take_append_getElem hi]
  simp
 rw[e,List.flatMap_append,List.flatMap_cons] at ha;unfold DE at ha ⊢;rw[List.pairwise_append] at ha;have:=ha.2.1;rw[List.pairwise_append] at this;exact this.1
def UN (perm m:Nat) (N:Nat->Tn):Prop:=∃t,Dv m N t/\(Ab 21 t).length<=300/\∀k,k∈Ab 21 t->k.size=16/\CV (Ag perm k)=true
def ID (i m:Nat) (N:Nat->Tn) (m0:Nat) (N0:Nat->Tn):Prop:=∀t t0,Dv m N t->Dv m0 N0 t0->(Ab 21 t).length=(Ab 21 t0).length/\∀k,k∈Ab 21 t->Ag i k∈(Ab 21 t0).map (Ag 0)
def VI (n:Nat) (M:Nat->Nat) (T:Nat->Nat->Tn):Prop:=n=6/\(∀j,j<6->UN j (M j) (T j))/\∀i,1<=i->i<6->ID i (M i) (T i) (M 0) (T 0)
theorem Dp {n:Nat} {N:Nat->Tn} {t t' : Ro 21} (h:Dv n N t) (h' : Dv n N t'):t=t':=by have q:=h.2.2.1;rw[h'.2.2.1] at q;injection q with q;injection q with q _;exact q.symm
theorem TR (a:Option Addr) (n c:Nat) (M:Nat->Nat) (T:Nat->Nat->Tn) (w:World) (h:Co w a n M T) (hn:n<=1048576) (hN:CU n M T) :
  WS 29 #[.agg #[.slice a n c]] w (Vb w (VI n M T)):=by
 by_cases h6:n=6;case neg=>
  have h6i:¬ (n:Int)=6:=by omega
  have h6d:((n:Int) != 6)=true:=by simp;omega
  have HF:U (¬ VI n M T):=λq=>h6 q.1;clear h hN;go_enter Tryz.func29,Tryz.ntmps29;go_wp2;go_ret;exact⟨false,rfl,by simp[HF.o],Aa _ _⟩
 case pos=>
 subst h6;have HR:=hid (ai h hN);clear h hN hn;go_enter Tryz.func29,Tryz.ntmps29;go_wp2;go_loopw [3,4,5,6,7] (λi _ _ _ _ wr=>∃j:Nat,j<=6/\i=iv j/\(∀q,q<j->UN q (M q) (T q))/\Bl w wr/\Bx wr w.heap.size 49 #[.slice a 6 c]) (λi _ _ _ _ _=>6-(intOf i).toNat)
 case atStart=>exact⟨0,by omega,rfl,λq hq=>absurd hq (Wy _),Aa _ _,Bx.new _ _ _⟩
 case round=>
  obtain⟨j,hj,rfl,hok,hbel,hbx⟩:=hrel;have HS:=hid (ai hok (ai hbel hbx));have b0:=hbx.cell 0;simp at b0;have bl:=hbx.lt;have j0:(0:Int)<=(j:Int):=by omega
  by_cases hlt:j<6
  .have j1:(j:Int)<6:=by omega
   rcases HR.o.1.below hbel with q|⟨bb,oo,ea,hc⟩;.omega
   obtain⟨aj,cj,s0,hrd⟩:=hc j hlt;have hfit:=HR.o.2 j hlt;obtain⟨m,hm⟩:=gn (M j);have HM:=hid hm;have HOf:U (WS 64 #[.agg #[.slice aj m cj]] wr (To wr (M j) (T j))):=by rw[hm];exact Q1 aj (M j) cj (T j) wr hrd hfit.1 hfit.2
   rw[<- hm] at s0;subst ea;clear hok hbel hbx hc hrd hfit hm;go_wp2_with fail
   (with_reducible refine HOf.o.mono ?_)
   rintro e w1 ⟨hb1,lf,ka,kn,kc,ca,cn,cc,ok,rfl,hr⟩;have H1:=hid (ai (HS.o.2.1.trans (hb1.mono HS.o.2.1.size)) (HS.o.2.2.below hb1));clear hb1 HOf b0 bl s0;cases ok with
   | false=>
    have HF:U (¬ VI 6 M T):=λq=>by
     obtain⟨t,ht,_⟩:=q.2.1 j hlt;rcases hr with ⟨_,hno,_⟩|⟨q,_⟩;.exact hno ⟨t,ht⟩
     .cases q
    clear hr;go_wp2;go_ret;exact⟨false,rfl,by simp[HF.o],H1.o.1.alloc H1.o.1.size _⟩
   | true=>
    obtain⟨t,hvt,hna⟩:∃t,Dv (M j) (T j) t/\NA w1 21 t (.agg #[.bool lf,.slice ka kn kc,.slice ca cn cc]):=by
     rcases hr with ⟨q,_⟩|⟨_,q⟩;.cases q
     .exact q
    have hend:=DQ hvt.2.2.1;have hm5:=hvt.2.1;obtain⟨hh,hbal⟩:=hvt.2.2.2.1;have hfl:=Hs (KV hbal);have HV:=hid hvt;have HKeys:=hid (λW hW=>EI 21 t _ W (hna.below hW) (by omega) (by omega));have hk20:(Ab 21 t).length<=20000:=by omega
    clear hr hna hvt hend hm5 hbal hfl;go_wp2_with fail
    (with_reducible refine (HKeys.o _ (Aa _ _)).mono ?_)
    rintro e w3 ⟨a3,c3,rfl,ho3,hb3,_,_⟩;obtain⟨kl,hkl⟩:=gn ((Ab 21 t).length);have HKL:=hid hkl;have H3:U (Bl w w3/\Bx w3 w.heap.size 49 #[.slice (some (ad bb oo)) 6 c]/\BE w3 a3 kl (gt (Ab 21 t))):=by have q:=H1.o.1.alloc H1.o.1.size (.cells #[.bool lf,.slice ka kn kc,.slice ca cn cc] 134);exact⟨q.trans (hb3.mono q.size),(H1.o.2.alloc _).below hb3,by rw[hkl];exact ho3.rd⟩
    rw[<- hkl] at hk20 ⊢;clear hkl ho3 hb3 HKeys H1;by_cases h300:300<kl
    .have h3i:(300:Int)<(kl:Int):=by omega
     have h3d:=decide_eq_true h3i;have HF:U (¬ VI 6 M T):=λq=>by obtain⟨t',ht',hl',_⟩:=q.2.1 j hlt;rw[Dp ht' HV.o,<- HKL.o] at hl';omega
     go_wp2;go_ret;exact⟨false,rfl,by simp[HF.o],H3.o.1⟩
    .have h3i:¬ (300:Int)<(kl:Int):=by omega
     have h3d:=decide_eq_false h3i;go_wp2;go_loopw [7] (λi wr=>∃k:Nat,k<=kl/\i=iv k/\(∀x,x<k->(gt (Ab 21 t) x).size=16/\CV (Ag j (gt (Ab 21 t) x))=true)/\Bl w3 wr) (λi _=>kl-(intOf i).toNat)
     case atStart=>exact⟨0,Ww _,rfl,λx hx=>absurd hx (Wy _),Wt _ _⟩
     case round=>
      obtain⟨k,hk,rfl,hall,hbq⟩:=hrel;have HQ:=hid (ai hall (ai hbq (ai (H3.o.1.trans (hbq.mono H3.o.1.size)) (H3.o.2.1.below hbq))));have k0:(0:Int)<=(k:Int):=by omega
      by_cases hkl:k<kl
      .have k1:(k:Int)<(kl:Int):=by omega
       obtain⟨b5,o5,ea,s1⟩:=(H3.o.2.2.below hbq).cellOf k hkl;obtain⟨key,hkey⟩:=gn (gt (Ab 21 t) k);have HKy:U (key=gt (Ab 21 t) k/\key∈Ab 21 t):=⟨hkey,by rw[hkey];exact Fs (by rw[<- HKL.o];exact hkl)⟩;rw[<- hkey] at s1;clear hkey hall hbq;subst ea;by_cases hs:key.size=16
       .have hsi:(key.size:Int)=16:=by omega
        have hsd:((key.size:Int) != 16)=false:=by simp[hsi]
        have HQd:U (WS 67 #[.string key,iv (j:Int)] wr (WT wr (qv (Ag j key)))):=IR j hlt key hs wr;have HSz:U (key.size=16):=hs;clear hs hsi;go_wp2_with fail
        (with_reducible refine HQd.o.mono ?_)
        rintro e w5 ⟨rfl,hb5⟩;have HG:U (∀W,WS 66 #[qv (Ag j key)] W (WT W (.bool (CV (Ag j key))))):=λW=>MJ _ W;have H5:=hid (ai (HQ.o.2.1.trans (hb5.mono HQ.o.2.1.size)) (HQ.o.2.2.1.trans (hb5.mono HQ.o.2.2.1.size)));have HQB:U (∀b,b=CV (Ag j key)->b=CV (Ag j (gt (Ab 21 t) k))):=λb hb=>by rw[hb,HKy.o.1]
        generalize hqv:qv (Ag j key)=qq at HG ⊢;unfold qv at hqv;subst hqv;clear hb5 HQd;go_wp2_with fail
        (with_reducible refine (HG.o _).mono ?_)
        rintro e w6 ⟨rfl,hb6⟩;have H6:=hid (ai (H5.o.1.trans (hb6.mono H5.o.1.size)) (H5.o.2.trans (hb6.mono H5.o.2.size)));clear hb6 HG;cases hqb:CV (Ag j key) with
        | false=>
         have HF:U (¬ VI 6 M T):=λq=>by obtain⟨t',ht',_,hg'⟩:=q.2.1 j hlt;rw[Dp ht' HV.o] at hg';have q2:=(hg' key HKy.o.2).2;rw[hqb] at q2;cases q2
         go_wp2;go_ret;exact⟨false,rfl,by simp[HF.o],H6.o.2⟩
        | true=>
         have HN:U (∀x,x<k+1->(gt (Ab 21 t) x).size=16/\CV (Ag j (gt (Ab 21 t) x))=true):=λx hx=>by
          by_cases e:x=k;.subst e;rw[<- HKy.o.1];exact⟨HSz.o,hqb⟩
          .exact HQ.o.1 x (by omega)
         go_wp2;go_roundw;case rel=>exact⟨k+1,by omega,by go_num,HN.o,H6.o.1⟩
         case measure=>simp[intOf];omega
       .have hsi:¬ (key.size:Int)=16:=by omega
        have hsd:((key.size:Int) != 16)=true:=by simp;omega
        have HF:U (¬ VI 6 M T):=λq=>by obtain⟨t',ht',_,hg'⟩:=q.2.1 j hlt;rw[Dp ht' HV.o] at hg';exact hs (hg' key HKy.o.2).1
        go_wp2;go_ret;exact⟨false,rfl,by simp[HF.o],HQ.o.2.2.1⟩
      .obtain rfl:k=kl:=by omega
       have HN:U (∀q,q<j+1->UN q (M q) (T q)):=λq hq=>by
        by_cases e:q=j;.subst e;refine⟨t,HV.o,by rw[<- HKL.o];omega,λx hx=>?_⟩;obtain⟨y,hy,e⟩:=List.getElem_of_mem hx;have q2:=HQ.o.1 y (by rw[HKL.o];exact hy);rw[Kb hy,e] at q2;exact q2
        .exact HS.o.1 q (by omega)
       clear hall hbq;go_wp2;go_roundw;case rel=>exact⟨j+1,by omega,by go_num,HN.o,HQ.o.2.2⟩
       case measure=>simp[intOf];omega
  .obtain rfl:j=6:=by omega
   have HOk:=hid hok;have HRd:U (∀(W:World) (i:Nat),Bl w W->i<6->∃bb oo ai ci,a=some (ad bb oo)/\W.cell? (ad bb (oo+i))=some (.slice ai (M i) ci)/\Bk W ai (M i) (T i)):=λW i hW hi=>by
    rcases HR.o.1.below hW with q|⟨bb,oo,ea,hc⟩;.omega
    .obtain⟨ai,ci,q1,q2⟩:=hc i hi;exact⟨bb,oo,ai,ci,ea,q1,q2⟩
   have HQs:U (∀(W:World) (i:Nat) (ai:Option Addr) (ci:Nat) (t:Ro 21) (L:List Qd),i<6->Bk W ai (M i) (T i)->Dv (M i) (T i) t->L=(Ab 21 t).map (Ag i)->WS 30 #[.agg #[.slice ai (M i) ci],iv (i:Int)] W λe w'=>∃a' c',e=.returned (.slice a' L.length c')/\BW w' a' L/\Bl W w'):=λW i ai ci t L hi hr hv hL=>by obtain⟨t',ht',hl',hg'⟩:=HOk.o i hi;rw[Dp ht' hv] at hl' hg';exact GZ i hi ai (M i) ci (T i) t W hr hv (HR.o.2 i hi).2 (λk hk=>(hg' k hk).1) hl' L hL
   obtain⟨t0,hv0,hl0,hg0⟩:=hok 0 (by omega);obtain⟨L0,hL0⟩:=gn ((Ab 21 t0).map (Ag 0));obtain⟨bb,oo,a0,c0,ea,s0,hrd0⟩:=HRd.o wr 0 hbel (by omega);have HQ0:U (WS 30 #[.agg #[.slice a0 (M 0) c0],iv 0] wr λe w'=>∃a' c',e=.returned (.slice a' L0.length c')/\BW w' a' L0/\Bl wr w'):=HQs.o wr 0 a0 c0 t0 L0 (by omega) hrd0 hv0 hL0;have H0:U (Dv (M 0) (T 0) t0/\L0=(Ab 21 t0).map (Ag 0)/\L0.length<=300):=⟨hv0,hL0,by rw[hL0,WH];exact hl0⟩;clear hv0 hl0 hg0 hL0 hrd0 hok hbel hbx;rw[Nat.add_zero] at s0;subst ea;go_wp2_with fail
   (with_reducible refine HQ0.o.mono ?_)
   rintro e w1 ⟨a1,c1,rfl,hq1,hb1⟩;obtain⟨l0,hl0⟩:=gn L0.length;have HL0:=hid hl0;have hl300:l0<=300:=by rw[hl0];exact H0.o.2.2
   have H1:=hid (ai (HS.o.2.1.trans (hb1.mono HS.o.2.1.size)) (ai (HS.o.2.2.below hb1) hq1));rw[<- hl0];clear hq1 hb1 HQ0 hl0 s0 b0 bl;go_wp2;go_loopw [9,10,11] (λi _ _ wr=>∃x:Nat,1<=x/\x<=6/\i=iv x/\(∀q,1<=q->q<x->ID q (M q) (T q) (M 0) (T 0))/\Bl w1 wr) (λi _ _ _=>6-(intOf i).toNat)
   case atStart=>exact⟨1,by omega,by omega,rfl,λq h1 h2=>by omega,Wt _ _⟩
   case round=>
    obtain⟨x,hx1,hx6,rfl,hsm,hbq⟩:=hrel;have hbw:=H1.o.1.trans (hbq.mono H1.o.1.size);have HQ:=hid (ai hsm (ai hbq hbw));have x0:(0:Int)<=(x:Int):=by omega
    by_cases hxl:x<6
    .have x1:(x:Int)<6:=by omega
     obtain⟨t,hvt,hlt,hgt⟩:=HOk.o x hxl;obtain⟨L,hL⟩:=gn ((Ab 21 t).map (Ag x));obtain⟨bb',oo',ax,cx,ea,s0,hrdx⟩:=HRd.o wr x hbw hxl;injection ea with ea;injection ea with ea1 ea2;subst ea1 ea2;obtain⟨m,hm⟩:=gn (M x);have HQx:U (WS 30 #[.agg #[.slice ax m cx],iv (x:Int)] wr λe w'=>∃a' c',e=.returned (.slice a' L.length c')/\BW w' a' L/\Bl wr w'):=by rw[hm];exact HQs.o wr x ax cx t L hxl hrdx hvt hL
     rw[<- hm] at s0;have HT:U (Dv (M x) (T x) t/\L=(Ab 21 t).map (Ag x)/\L.length<=300):=⟨hvt,hL,by rw[hL,WH];exact hlt⟩;have hbxr:=H1.o.2.1.below hbq;have b0:=hbxr.cell 0;simp at b0;have bl:=hbxr.lt;clear hvt hlt hgt hL hrdx hm hsm hbq hbw hbxr;go_wp2_with fail
     (with_reducible refine HQx.o.mono ?_)
     rintro e w3 ⟨a3,c3,rfl,hq3,hb3⟩;obtain⟨l3,hl3⟩:=gn L.length;have HL3:=hid hl3;have hl33:l3<=300:=by rw[hl3];exact HT.o.2.2
     have H3:=hid (ai (HQ.o.2.1.trans (hb3.mono HQ.o.2.1.size)) (ai (HQ.o.2.2.trans (hb3.mono HQ.o.2.2.size)) hq3));rw[<- hl3];clear hq3 hb3 HQx hl3 s0 b0 bl;by_cases hne:l3=l0
     .have hned:((l3:Int) != (l0:Int))=false:=by simp[hne]
      have HNe:=hid hne;clear hne;go_wp2;go_loopw [11] (λi wr=>∃k:Nat,k<=l3/\i=iv k/\(∀y (h:y<L.length),y<k->L[y]∈L0)/\Bl w3 wr) (λi _=>l3-(intOf i).toNat)
      case atStart=>exact⟨0,Ww _,rfl,λy _ hy=>absurd hy (Wy _),Wt _ _⟩
      case round=>
       obtain⟨k,hk,rfl,hall,hbr⟩:=hrel;have HK:=hid (ai hall (ai (H3.o.1.trans (hbr.mono H3.o.1.size)) (ai (H3.o.2.1.trans (hbr.mono H3.o.2.1.size)) hbr)));have k0:(0:Int)<=(k:Int):=by omega
       by_cases hkl:k<l3
       .have k1:(k:Int)<(l3:Int):=by omega
        have hkL:k<L.length:=by rw[<- HL3.o];exact hkl
        rcases H3.o.2.2.below hbr with q|⟨gb,ea,hc⟩;.omega
        obtain⟨s0,s1,s2,s3⟩:=hc k hkL;obtain⟨qd,hqd⟩:∃qd,qd=L[k]:=⟨_,rfl⟩;have HQd:U (L[k]=qd):=hqd.symm;rw[<- hqd] at s0 s1 s2 s3;have HHs:U (WS 68 #[.slice a1 l0 c1,.agg #[iv qd.s,iv qd.p,iv qd.o,iv qd.g]] wr λe w'=>∃b:Bool,e=.returned (.bool b)/\(b=true↔qd∈L0)/\Bl wr w'):=Pt a1 l0 c1 L0 qd wr (H1.o.2.2.below HK.o.2.1) HL0.o (by omega);subst ea;clear hc hqd hall hbr;go_wp2_with fail
        (with_reducible refine HHs.o.mono ?_)
        rintro e w5 ⟨b5,rfl,hb5,hbe5⟩;have H5:=hid (ai (HK.o.2.2.2.trans (hbe5.mono HK.o.2.2.2.size)) (ai (HK.o.2.2.1.trans (hbe5.mono HK.o.2.2.1.size)) hb5));clear hb5 hbe5 HHs;cases b5 with
        | false=>
         have HF:U (¬ VI 6 M T):=λq=>by
          have q2:=(q.2.2 x hx1 hxl t t0 HT.o.1 H0.o.1).2;have hkt:k<(Ab 21 t).length:=by have:=HT.o.2.1;rw[this,WH] at hkL;exact hkL
          have q3:=q2 _ (WE hkt);have e:L[k]=Ag x (Ab 21 t)[k]:=by have e0:=HT.o.2.1;subst e0;rw[List.getElem_map]
          rw[<- e,HQd.o,<- H0.o.2.1] at q3;have q4:=H5.o.2.2.2 q3;cases q4
         go_wp2;go_ret;exact⟨false,rfl,by simp[HF.o],H5.o.2.1⟩
        | true=>
         have HN:U (∀y (h:y<L.length),y<k+1->L[y]∈L0):=λy hy hy2=>by
          by_cases e:y=k;.subst e;rw[HQd.o];exact H5.o.2.2.1 rfl
          .exact HK.o.1 y hy (by omega)
         go_wp2;go_roundw;case rel=>exact⟨k+1,by omega,by go_num,HN.o,H5.o.1⟩
         case measure=>simp[intOf];omega
       .obtain rfl:k=l3:=by omega
        have HN:U (∀q,1<=q->q<x+1->ID q (M q) (T q) (M 0) (T 0)):=λq h1 h2=>by
         by_cases e:q=x
         .subst e;intro t' t0' ht' ht0';rw[Dp ht' HT.o.1,Dp ht0' H0.o.1];have eL:=HT.o.2.1;have eL0:=H0.o.2.1;have e3:=HL3.o;have e0:=HL0.o;have ee:=HNe.o;refine⟨by rw[eL,WH] at e3;rw[eL0,WH] at e0;omega,λky hky=>?_⟩;obtain⟨y,hy,e⟩:=List.getElem_of_mem hky;have hyL:y<L.length:=by rw[eL,WH];exact hy
          have q2:=HK.o.1 y hyL (by omega);rw[<- eL0];have e4:L[y]=Ag q ky:=by subst eL;rw[List.getElem_map,e]
          rw[<- e4];exact q2
         .exact HQ.o.1 q h1 (by omega)
        clear hall hbr;go_wp2;go_roundw;case rel=>exact⟨x+1,by omega,by omega,by go_num,HN.o,HK.o.2.1⟩
        case measure=>simp[intOf];omega
     .have hnei:¬ (l3:Int)=(l0:Int):=by omega
      have hned:((l3:Int) != (l0:Int))=true:=by simp;omega
      have HF:U (¬ VI 6 M T):=λq=>by have q2:=(q.2.2 x hx1 hxl t t0 HT.o.1 H0.o.1).1;have e3:=HL3.o;have e0:=HL0.o;rw[HT.o.2.1,WH] at e3;rw[H0.o.2.1,WH] at e0;omega
      go_wp2;go_ret;exact⟨false,rfl,by simp[HF.o],H3.o.2.1⟩
    .obtain rfl:x=6:=by omega
     have HF:U (VI 6 M T):=⟨rfl,HOk.o,λi h1 h2=>HQ.o.1 i h1 h2⟩;clear hsm hbq hbw;go_wp2;go_ret;exact⟨true,rfl,by simp[HF.o],HQ.o.2.2⟩
variable {L:List Qd}{a:Option Addr}{n:Nat}{w:World}
def Vp (w:World) (L:List Qd) (e:Ending) (w' : World):Prop:=
 ∃a' c',e=.returned (.slice a' L.length c')/\w'.ownsRow w.heap.size 140 4 (.slice a' L.length c') L.length (Aq L)/\Bl w w'
theorem LS {B B':Nat} {e:TypeId} {size:Nat} {v:Value} {xs:List Value} (h:w.ownsRow B e size v n xs) (hB:B'<=B):w.ownsRow B' e size v n xs:=⟨h.1,h.2.imp id (λ⟨g,cap,cur,q1,q2,q3⟩=>⟨g,cap,cur,q1,WC hB q2,q3⟩)⟩
theorem Si {b:Nat} {w':World} (h:BW w a L) (he:Jx b w w') (hne:∀o,w.cell? (ad b o)=none):BW w' a L:=by
 rcases h with q|⟨g,rfl,hc⟩;.exact .inl q
 .refine .inr ⟨g,rfl,λi hi=>?_⟩;obtain⟨h0,h1,h2,h3⟩:=hc i hi;have hl:=Ws _ _ h0;have hg:g≠b:=by rintro rfl;rw[hne] at h0;cases h0
  have e:=λo=>World.cell?_of_block (a:=(ad g o)) (he.2.2.2.2 g hl hg);exact⟨by rw[e];exact h0,by rw[e];exact h1,by rw[e];exact h2,by rw[e];exact h3⟩
theorem IK {k:Nat} (h:k<L.length):L.take (k+1)=L.take k++[L[k]]:=by rw[List.take_add_one,Wx h];rfl
structure VZ (w W:World) (a:Option Addr) (n c:Nat) (p:Qd):Prop where
 ib:Bx W w.heap.size 49 #[.slice a n c]
 pb:Bx W (w.heap.size+1) 140 #[iv p.s,iv p.p,iv p.o,iv p.g]
 ob:W.ownsRow (w.heap.size+2) 140 4 (.slice (some (ad (w.heap.size+2) 0)) 0 0) 0 []
 lt:w.heap.size+2<W.heap.size
 eb:∀o,W.cell? (ad (w.heap.size+2) o)=none
 bel:Bl w W
theorem VZ.keep {W W':World} {c:Nat} {p:Qd} (h:VZ w W a n c p) (hb:Bl W W'):VZ w W' a n c p:=
 ⟨(hb.block _ h.ib.lt).trans h.ib,(hb.block _ h.pb.lt).trans h.pb,Al h.ob hb,WF h.lt hb.size,λo=>by rw[hb.cell (show w.heap.size+2<W.heap.size from h.lt)];exact h.eb o,h.bel.trans (hb.mono h.bel.size)⟩
theorem Rs (x:ByteArray) (w:World):WS 172 #[.string x] w λe w'=>e=.returned (.bool false)/\w'=w:=by go_enter Tryz.func172,Tryz.ntmps172;go_wp2;go_ret;exact⟨by simp,rfl⟩
theorem QG (x:ByteArray) (w:World):WS 236 #[.string x] w λe w'=>e=.returned (.bool false)/\w'=w:=by go_enter Tryz.func236,Tryz.ntmps236;go_wp2;go_ret;exact⟨by simp,rfl⟩
theorem OX (x y:ByteArray) (w:World):WS 155 #[.string x,.string y] w λe w'=>e=.returned (.bool (Op.bytesLess x.toList y.toList))/\w'=w:=by
 go_enter Tryz.func155,Tryz.ntmps155;go_wp2_with fail
 refine (Rs x _).mono ?_;rintro e w1 ⟨rfl,rfl⟩;go_wp2;go_ret;exact⟨by simp,rfl⟩
def UV (L:List ByteArray) (key:ByteArray) (w:World) (e:Ending) (w' : World):Prop:=
 ∃(i:Nat) (ok:Bool),e=.returned (.tuple #[iv (i:Int),.bool ok])/\w'=w/\i<=L.length/\(∀j,j<i->Op.bytesLess (gt L j).toList key.toList=true)/\(∀j,i<=j->j<L.length->Op.bytesLess (gt L j).toList key.toList=false)/\(ok=true↔i<L.length/\gt L i=key)
theorem Ug (a:Option Addr) (n c:Nat) (L:List ByteArray) (key:ByteArray) (w:World) (h:BE w a n (gt L)) (hn:n=L.length) (hn2:n<=1048576) (ha:DE L) :
  WS 235 #[.slice a n c,.string key] w (UV L key w):=by
 have HR:=hid (ai h (ai hn ha));clear h hn ha;go_enter Tryz.func235,Tryz.ntmps235;go_wp2;go_loopw [7,8] (λp q wr=>∃i j:Nat,i<=j/\j<=n/\p=iv i/\q=iv j/\wr=w/\(∀k,k<i->Op.bytesLess (gt L k).toList key.toList=true)/\(∀k,j<=k->k<n->Op.bytesLess (gt L k).toList key.toList=false)) (λp q _=>(intOf q).toNat-(intOf p).toNat)
 case atStart=>exact⟨0,n,Ww _,Wu _,rfl,rfl,rfl,λk hk=>absurd hk (Wy _),λk h1 h2=>by omega⟩
 case round=>
  obtain⟨i,j,hij,hjn,rfl,rfl,rfl,h1,h2⟩:=hrel;have H12:=hid (ai h1 h2);clear h1 h2;by_cases hlt:i<j
  .obtain⟨m,hm⟩:∃m:Nat,((i:Int)+(j:Int)) / 2=(m:Int):=⟨(i+j) / 2,by omega⟩;have hm1:i<=m/\m<j:=by omega
   have hmn:m<n:=by omega
   rcases HR.o.1 with q|⟨bk,ok,rfl,hc⟩;.omega
   have s1:=hc m hmn;have hm0:(0:Int)<=(m:Int):=by omega
   have hmI:(m:Int)<(n:Int):=by omega
   have HL:U (m<L.length/\n=L.length):=⟨by rw[<- HR.o.2.1];exact hmn,HR.o.2.1⟩;clear hc;go_upto_region 5 with fail
   clear hm;go_wp2_with fail
   refine (OX (gt L m) key _).mono ?_;rintro e w1 ⟨rfl,rfl⟩;cases hls:Op.bytesLess (gt L m).toList key.toList with
   | true=>
    have HN:U (∀k,k<m+1->Op.bytesLess (gt L k).toList key.toList=true):=by
     intro k hk;by_cases e:k=m;.subst e;exact hls
     .exact AZ _ _ _ (Li HR.o.2.2 (show k<m by omega) HL.o.1) hls
    go_wp2;go_roundw;case rel=>exact⟨m+1,j,by omega,hjn,by go_num,rfl,trivial,HN.o,H12.o.2⟩
    case measure=>simp[intOf];omega
   | false=>
    have HN:U (∀k,m<=k->k<n->Op.bytesLess (gt L k).toList key.toList=false):=by
     intro k hk1 hk2;by_cases e:k=m;.subst e;exact hls
     .have q:=Li HR.o.2.2 (show m<k by omega) (by rw[<- HL.o.2];exact hk2);cases e2:Op.bytesLess (gt L k).toList key.toList with
      | false=>rfl
      | true=>have:=AZ _ _ _ q e2;rw[hls] at this;cases this
    go_wp2;go_roundw;case rel=>exact⟨i,m,by omega,by omega,rfl,rfl,trivial,H12.o.1,HN.o⟩
    case measure=>simp[intOf];omega
  .have e:i=j:=by omega
   subst e;have HB:U (i<=L.length/\(∀j,j<i->Op.bytesLess (gt L j).toList key.toList=true)/\(∀j,i<=j->j<L.length->Op.bytesLess (gt L j).toList key.toList=false)):=⟨by rw[<- HR.o.2.1];exact hjn,H12.o.1,λj h1 h2=>H12.o.2 j h1 (by rw[HR.o.2.1];exact h2)⟩;have HN:=hid HR.o.2.1;have hif:¬ (i:Int)<(i:Int):=by omega
   clear H12 hlt hij;by_cases hin:i<n
   .have i1:(i:Int)<(n:Int):=by omega
    have i1' : decide ((i:Int)<(n:Int))=true:=decide_eq_true i1;have i2' : decide (i<n)=true:=decide_eq_true hin;have i0:(0:Int)<=(i:Int):=by omega
    rcases HR.o.1 with q|⟨bk,ok,rfl,hc⟩;.omega
    have s1:=hc i hin;clear hc;by_cases heq:gt L i=key
    .have HOk:U (∀q:Bool,q=true->(q=true↔i<L.length/\gt L i=key)):=λq hq=>⟨λ_=>⟨by rw[<- HN.o];exact hin,heq⟩,λ_=>hq⟩;have hq:((gt L i).toList == key.toList)=true:=by rw[heq];simp
     clear heq;go_wp2;refine bodyPost_ret (v:=.tuple #[iv (i:Int),.bool true]) (by simp[results,Tryz.results235,go_sem]) rfl ⟨i,true,rfl,rfl,HB.o.1,HB.o.2.1,HB.o.2.2,HOk.o _ rfl⟩
    .have HOk:U (∀q:Bool,q=false->(q=true↔i<L.length/\gt L i=key)):=λq hq=>⟨λh=>(by rw[hq] at h;cases h),λh=>absurd h.2 heq⟩;have hq:((gt L i).toList == key.toList)=false:=by rw[beq_eq_false_iff_ne];exact λh=>heq (Hy h)
     clear heq;go_wp2_with fail
     refine (QG (gt L i) _).mono ?_;rintro e w1 ⟨rfl,rfl⟩;go_wp2;refine bodyPost_ret (v:=.tuple #[iv (i:Int),.bool false]) (by simp[results,Tryz.results235,go_sem]) rfl ⟨i,false,rfl,rfl,HB.o.1,HB.o.2.1,HB.o.2.2,HOk.o _ rfl⟩
   .have i1:¬ (i:Int)<(n:Int):=by omega
    have i1' : decide ((i:Int)<(n:Int))=false:=decide_eq_false i1;have i2' : decide (i<n)=false:=decide_eq_false hin;have HOk:U (∀q:Bool,q=false->(q=true↔i<L.length/\gt L i=key)):=λq hq=>⟨λh=>(by rw[hq] at h;cases h),λh=>absurd h.1 (by rw[<- HN.o];exact hin)⟩;go_wp2;refine bodyPost_ret (v:=.tuple #[iv (i:Int),.bool false]) (by simp[results,Tryz.results235,go_sem]) rfl ⟨i,false,rfl,rfl,HB.o.1,HB.o.2.1,HB.o.2.2,HOk.o _ rfl⟩
theorem KI (b n kc:Nat) (ka:Option Addr) (v0:Value) (L:List ByteArray) (key:ByteArray) (w:World) (h:Bx w b 310 #[v0,.slice ka n kc]) (hr:BE w ka n (gt L)) (hn:n=L.length) (hn2:n<=1048576) (ha:DE L) :
  WS 230 #[pt b,.string key] w λe w'=>e=.returned (iv (Bz key L:Int))/\w'=w:=by
 have c1:=h.cell 1;simp at c1;have HR:=hid (ai hr (ai hn ha));clear h hr hn ha;go_enter Tryz.func230,Tryz.ntmps230;go_wp2_with fail
 refine (Ug ka n kc L key w HR.o.1 HR.o.2.1 hn2 HR.o.2.2).mono ?_;rintro e w1 ⟨i,ok,rfl,rfl,h1,h2,h3,_⟩;have HE:=hid (SA h1 h2 h3);have hi:i<=1048576:=by have:=HR.o.2.1;omega
 clear h1 h2 h3;go_wp2;go_ret;exact⟨by rw[HE.o];rfl,rfl⟩
def TD {d:Nat} (l:List (Ro d)) (key:ByteArray) (w:World) (e:Ending) (w' : World):Prop:=
 ∃i:Nat,e=.returned (iv (i:Int))/\w'=w/\i<l.length/\(∀h:i<l.length,0<i->Op.bytesLess key.toList (gt (Ab d l[i]) 0).toList=false)/\(∀h:i+1<l.length,Op.bytesLess key.toList (gt (Ab d l[i+1]) 0).toList=true)
theorem Je (d b:Nat) (l:List (Ro d)) (S:Nat->Prop) (h:Nat) (key:ByteArray) (w:World) (ht:Ei S w (d+1) (.inr l) (.iface 311 (pt b))) (hb:∀t,t∈l->Br d false t h) (hl4:l.length<=4) :
  WS 245 #[pt b,.string key] w (TD l key w):=by
 obtain⟨b',g,kc,xs,e,_,hx,_,_,hl,hc,hk⟩:=ht;injection e with e1 e;injection e with e;injection e with e;injection e with e e3 e4;clear e1 e3 e4;subst e;have HK:U (∀k (h:k<l.length),∃u,w.cell? (ad g k)=some u/\((∃p,u=.iface 306 (.pointer (some p))/\WS 229 #[.pointer (some p)] w λe w'=>e=.returned (.string (gt (Ab d l[k]) 0))/\w'=w)\/(∃p,u=.iface 311 (.pointer (some p))/\WS 239 #[.pointer (some p)] w λe w'=>e=.returned (.string (gt (Ab d l[k]) 0))/\w'=w))):=by
  intro k hkl;obtain⟨u,hu,ht⟩:=hk k hkl;refine⟨u,hc k u hu,?_⟩;rcases Cv ht (hb _ (WE hkl)) with ⟨p,e,q⟩|⟨p,e,q⟩;.exact Or.inl ⟨p,e,q w (Wt _ _)⟩
  .exact Or.inr ⟨p,e,q w (Wt _ _)⟩
 have c1:=hx.cell 1;simp at c1;obtain⟨ln,hln⟩:=gn l.length;rw[<- hln] at c1 hl hl4;have HLn:=hid hln;clear hx hc hk hb hln;go_enter Tryz.func245,Tryz.ntmps245;go_wp2;go_loopw [5] (λi wr=>∃k:Nat,k<ln/\i=iv k/\wr=w/\(∀h:k+1<l.length,Op.bytesLess key.toList (gt (Ab d l[k+1]) 0).toList=true)) (λi _=>(intOf i).toNat)
 case atStart=>exact⟨ln-1,by omega,by congr 1;omega,rfl,λh=>by have:=HLn.o;omega⟩
 case round=>
  obtain⟨k,hk,rfl,rfl,hq⟩:=hrel;have HQ:=hid hq;clear hq;have hlk:k<l.length:=by rw[<- HLn.o];exact hk
  by_cases h0:k=0;.subst h0;have HX:U (∀h:0<l.length,0<0->Op.bytesLess key.toList (gt (Ab d l[0]) 0).toList=false):=λ_ h=>absurd h (Nat.lt_irrefl _);go_wp2;go_ret;exact⟨0,rfl,rfl,hlk,HX.o,HQ.o⟩
  .have i0:(0:Int)<(k:Int):=by omega
   have i0' : decide ((0:Int)<(k:Int))=true:=decide_eq_true i0;have n0:0<k:=by omega
   have n0' : decide (0<k)=true:=decide_eq_true n0;have ik0:(0:Int)<=(k:Int):=by omega
   have ikl:(k:Int)<(ln:Int):=by omega
   obtain⟨u,hu,hform⟩:=HK.o k hlk;have htot:=BR key.toList (gt (Ab d l[k]) 0).toList;obtain⟨least,hle⟩:∃least,gt (Ab d l[k]) 0=least:=⟨_,rfl⟩;rw[hle] at hform htot;have HLe:=hid hle;clear hle;have HQ2:U (Op.bytesLess key.toList least.toList=true->∀h:k-1+1<l.length,Op.bytesLess key.toList (gt (Ab d l[k-1+1]) 0).toList=true):=by
    intro q h;have e:k-1+1=k:=by omega
    simp only[e];rw[HLe.o];exact q
   have HQ3:U (Op.bytesLess key.toList least.toList=false->∀h:k<l.length,0<k->Op.bytesLess key.toList (gt (Ab d l[k]) 0).toList=false):=λq _ _=>by rw[HLe.o];exact q
   cases hls:Op.bytesLess key.toList least.toList with
   | true=>
    rw[hls] at htot;have ht2:=htot;have hg:=hid (HQ2.o hls);clear htot HQ2 HQ3 hls;rcases hform with ⟨p,rfl,hcall⟩|⟨p,rfl,hcall⟩
    .have HC:=hid hcall;clear hcall;go_wp2_with fail
     refine HC.o.mono ?_;rintro e w1 ⟨rfl,rfl⟩;go_wp2;go_roundw;case rel=>exact⟨k-1,by omega,by go_num,trivial,hg.o⟩
     case measure=>simp[intOf];omega
    .have HC:=hid hcall;clear hcall;go_wp2_with fail
     refine HC.o.mono ?_;rintro e w1 ⟨rfl,rfl⟩;go_wp2;go_roundw;case rel=>exact⟨k-1,by omega,by go_num,trivial,hg.o⟩
     case measure=>simp[intOf];omega
   | false=>
    rw[hls] at htot;have ht2:=htot;have HG:=hid (HQ3.o hls);clear htot HQ2 HQ3 hls;rcases hform with ⟨p,rfl,hcall⟩|⟨p,rfl,hcall⟩
    .have HC:=hid hcall;clear hcall;go_wp2_with fail
     refine HC.o.mono ?_;rintro e w1 ⟨rfl,rfl⟩;go_wp2;go_ret;exact⟨k,rfl,rfl,hlk,HG.o,HQ.o⟩
    .have HC:=hid hcall;clear hcall;go_wp2_with fail
     refine HC.o.mono ?_;rintro e w1 ⟨rfl,rfl⟩;go_wp2;go_ret;exact⟨k,rfl,rfl,hlk,HG.o,HQ.o⟩
variable {L:List ByteArray}{x y:ByteArray}
theorem Ia:(Tryz.prog.info? 9).map (λi=>(i.zero,i.size,i.bytes))=some (some (.string { data:=#[] }),1,16):=by kernel_rfl
def CO (w:World) (a:Option Addr) (L:List ByteArray):Prop:=BE w a L.length (gt L)
theorem CO.below {w w' : World} {a:Option Addr} {L:List ByteArray} (h:CO w a L) (hb:Bl w w'):CO w' a L:=BE.below h hb
theorem Rv {i:Nat} (h:i<L.length):L[i]?=some (gt L i):=by unfold gt;rw[WA,Wx h];rfl
theorem TH (h:x∈L):∃i,i<L.length/\gt L i=x:=by obtain⟨i,hi,e⟩:=List.getElem_of_mem h;refine⟨i,hi,?_⟩;have:=Rv hi;rw[Wx hi,e] at this;injection this with this;exact this.symm
theorem CO.cell {w:World} {a:Option Addr} {L:List ByteArray} (h:CO w a L) {i:Nat} (hi:i<L.length):∃b o,a=some (ad b o)/\w.cell? (ad b (o+i))=some (.string (gt L i)):=by
 rcases h with h0|⟨b,o,e,hc⟩;.omega
 .exact⟨b,o,e,hc i hi⟩
theorem KL:(x.toList == y.toList)=true↔x=y:=by
 rw[beq_iff_eq];constructor;.intro h;rw[ByteArray.toList_eq,ByteArray.toList_eq] at h;cases x;cases y;simp at h;rw[h]
 .intro h;rw[h]
theorem Sd (h:Op.bytesLess x.toList y.toList=false) (hn:x≠y):Op.bytesLess y.toList x.toList=true:=by
 have:=BR x.toList y.toList;rw[h] at this;have e:(y.toList == x.toList)=false:=by
  cases hb:(y.toList == x.toList) with
  | false=>rfl
  | true=>exact absurd (KL.1 hb).symm hn
 rw[e] at this;simpa using this
theorem PZ (a:Option Addr) (c:Nat) (L:List ByteArray) (key:ByteArray) (w:World) (h:CO w a L) (hn:L.length<=1048576) :
  WS 80 #[.slice a L.length c,.string key] w λe w'=>∃b:Bool,e=.returned (.bool b)/\(b=true↔key∈L)/\w'=w:=by
 have HR:=hid h;obtain⟨n,hnn⟩:=gn L.length;rw[<- hnn] at hn ⊢;have HN:=hid hnn;clear h hnn;go_enter Tryz.func80,Tryz.ntmps80;go_wp2;go_loopw [5] (λi wr=>∃k:Nat,k<=n/\i=iv k/\(∀j,j<k->gt L j≠key)/\wr=w) (λi _=>n-(intOf i).toNat)
 case atStart=>exact⟨0,Ww _,rfl,λj hj=>absurd hj (Wy _),rfl⟩
 case round=>
  obtain⟨k,hk,rfl,hall,rfl⟩:=hrel;have HS:=hid hall;clear hall;by_cases hlt:k<n
  .obtain⟨b,o,rfl,s1⟩:=HR.o.cell (i:=k) (by rw[<- HN.o];exact hlt);have i0:(0:Int)<=(k:Int):=by omega
   have i1:(k:Int)<(n:Int):=by omega
   by_cases heq:gt L k=key
   .have hb:=KL.2 heq;have HM:U (key∈L):=by rw[<- heq];exact Fs (by rw[<- HN.o];exact hlt)
    clear heq;go_wp2;go_ret;exact⟨true,rfl,⟨λ_=>HM.o,λ_=>rfl⟩,rfl⟩
   .have hb:((gt L k).toList == key.toList)=false:=by
     cases hq:((gt L k).toList == key.toList) with
     | false=>rfl
     | true=>exact absurd (KL.1 hq) heq
    have HX:U (∀j,j<k+1->gt L j≠key):=λj hj=>by
     by_cases e:j=k;.rw[e];exact heq
     .exact HS.o j (by omega)
    clear heq;go_wp2;go_roundw;case rel=>exact⟨k+1,by omega,by go_num,HX.o,by first|rfl|trivial⟩
    case measure=>simp[intOf];omega
  .have e:k=n:=by omega
   subst e;have HM:U (¬ key∈L):=λhm=>by obtain⟨i,hi,e⟩:=TH hm;exact HS.o i (by rw[HN.o];exact hi) e
   go_wp2;go_ret;exact⟨false,rfl,⟨(λq=>by cases q),λq=>absurd q HM.o⟩,rfl⟩
theorem Vl (b o k:Nat):Addr.add (ad b o) k=(ad b (o+k)):=by
 unfold Addr.add;by_cases h:k=0;.subst h;simp
 .simp[h]
theorem Vi (a:Option Addr) (n c lo:Nat) (h1:lo<=n) (h2:n<=c) (w:World):(Instr.sliceAt 35 (.slice a n c) (some (iv (lo:Int))) none none).run Tryz.prog w=.ok (.slice (if c=lo then a else a.map λx=>x.add lo) (n-lo) (c-lo)) w:=by simp[Instr.sliceAt,Instr.slice,go_sem];intro h;omega
theorem U5 (a:Option Addr) (n c hi:Nat) (h1:hi<=n) (h2:n<=c) (w:World):(Instr.sliceAt 35 (.slice a n c) none (some (iv (hi:Int))) none).run Tryz.prog w=.ok (.slice a hi c) w:=by
 have hc:hi<=c:=by omega
 cases a <;> simp[Instr.sliceAt,Instr.slice,go_sem,hc]
theorem Da {w:World} {base:Nat} {e:TypeId} {size:Nat} {v:Value} {n:Nat} {xs:List Value} (h:w.ownsRow base e size v n xs):∃a c,v=.slice a n c:=by
 rcases h.2 with ⟨rfl,rfl⟩|⟨g',cap,cur,rfl,_⟩;.exact⟨none,0,rfl⟩
 .exact⟨_,_,rfl⟩
theorem CO.take {w:World} {a:Option Addr} {L:List ByteArray} (h:CO w a L) (k:Nat) (hk:k<=L.length):BE w a k (gt (L.take k)):=by
 rcases h with h0|⟨b,o,e,hc⟩;.exact .inl (by omega)
 .refine .inr ⟨b,o,e,λi hi=>?_⟩;rw[hc i (by omega)];congr 2;unfold gt;rw[WA,WA,List.getElem?_take,if_pos hi]
theorem CO.drop {w:World} {a:Option Addr} {L:List ByteArray} (h:CO w a L) (k c:Nat) (hk:k<=L.length) (hc:L.length<=c):BE w (if c=k then a else a.map λx=>x.add k) (L.length-k) (gt (L.drop k)):=by
 by_cases hz:L.length=k;.exact .inl (by omega)
 rcases h with h0|⟨b,o,rfl,hcc⟩;.exact .inl (by omega)
 .refine .inr ⟨b,o+k,by rw[if_neg (by omega)];simp[Vl],λi hi=>?_⟩;rw[Nat.add_assoc,hcc (k+i) (by omega)];congr 2;unfold gt;rw[WA,WA,List.getElem?_drop]
def Ta (w:World) (m:Nat) (P:ByteArray->Prop) (e:Ending) (w' : World):Prop:=
 ∃(a:Option Addr) (c:Nat) (L:List ByteArray),e=.returned (.slice a L.length c)/\CO w' a L/\DE L/\(∀x,x∈L↔P x)/\L.length<=m/\L.length<=c/\c<=9223372036854775807/\Bl w w'
theorem Sk {L:List ByteArray} {t:ByteArray} {k:Nat} (h:DE L) (hk:k<=L.length) (h1:∀j,j<k->Op.bytesLess (gt L j).toList t.toList=true) (h2:k<L.length->Op.bytesLess (gt L k).toList t.toList=false) (hn:¬ t∈L):DE (L.take k++t::L.drop k):=by
 have hd:=h;rw[<- List.take_append_drop k L] at hd;unfold DE at hd ⊢;rw[List.pairwise_append] at hd ⊢;have hlow:∀x,x∈L.take k->Op.bytesLess x.toList t.toList=true:=λx hx=>by obtain⟨j,hj,e⟩:=List.getElem_of_mem hx;rw[WI] at hj;rw[List.getElem_take] at e;have:=h1 j (by omega);unfold gt at this;rw[WA,Wx (by omega)] at this;rw[<- e];exact this
 have hhigh:∀y,y∈L.drop k->Op.bytesLess t.toList y.toList=true:=λy hy=>by
  obtain⟨j,hj,e⟩:=List.getElem_of_mem hy;rw[List.length_drop] at hj;have q:=h2 (by omega);have g1:gt L k≠t:=λe=>hn (by rw[<- e];exact Fs (by omega));have l1:=Sd q g1;rw[List.getElem_drop] at e;by_cases ej:j=0;.subst ej;rw[<- e];unfold gt at l1;rw[WA,Wx (by omega)] at l1;exact l1
  .have l2:=(List.pairwise_iff_getElem.1 h) k (k+j) (by omega) (by omega) (by omega);unfold gt at l1;rw[WA,Wx (by omega)] at l1;rw[<- e];exact AZ _ _ _ l1 l2
 refine⟨hd.1,List.pairwise_cons.2 ⟨hhigh,hd.2.1⟩,λx hx y hy=>?_⟩;rcases List.mem_cons.1 hy with rfl|hy;.exact hlow x hx
 .exact AZ _ _ _ (hlow x hx) (hhigh y hy)
theorem Pv (a:Option Addr) (c:Nat) (L:List ByteArray) (t:ByteArray) (w:World) (h:CO w a L) (hA:DE L) (hn:L.length<=1048576) (hc:L.length<=c) (hcm:c<=9223372036854775807) :
  WS 34 #[.slice a L.length c,.string t] w (Ta w (L.length+1) (λx=>x∈L\/x=t)):=by
 have HR:=hid (ai h hA);obtain⟨n,hnn⟩:=gn L.length;have HIn:U (WS 80 #[.slice a n c,.string t] w λe w'=>∃b:Bool,e=.returned (.bool b)/\(b=true↔t∈L)/\w'=w):=by rw[hnn];exact PZ a c L t w h hn
 rw[<- hnn] at hn hc ⊢;have HN:=hid hnn;clear h hA hnn;go_enter Tryz.func34,Tryz.ntmps34;go_wp2_with fail
 refine HIn.o.mono ?_;rintro e w1 ⟨b,rfl,hb,hw1⟩;subst hw1;cases b with
 | true=>
  have HM:=hid (hb.1 rfl);have HF:U (Ta w1 (n+1) (λx=>x∈L\/x=t) (.returned (.slice a n c)) w1):=by
   refine⟨a,c,L,by rw[HN.o],HR.o.1,HR.o.2,λx=>⟨λq=>.inl q,λq=>?_⟩,by have:=HN.o;omega,by rw[<- HN.o];exact hc,hcm,Wt _ _⟩;rcases q with q|q;.exact q
   .rw[q];exact HM.o
  clear hb;go_wp2;go_ret;exact HF.o
 | false=>
  have HM:U (¬ t∈L):=λq=>by have:=hb.2 q;cases this
  clear hb HIn;go_wp2;go_loopw [5] (λi wr=>∃k:Nat,k<=n/\i=iv k/\(∀j,j<k->Op.bytesLess (gt L j).toList t.toList=true)/\wr=w1) (λi _=>n-(intOf i).toNat)
  case atStart=>exact⟨0,Ww _,rfl,λj hj=>absurd hj (Wy _),rfl⟩
  case round=>
   obtain⟨k,hk,rfl,hall,rfl⟩:=hrel;have HS:=hid hall;clear hall;have hEnd:=λh2=>Sk HR.o.2 (by rw[<- HN.o];exact hk) HS.o (by rw[<- HN.o];exact h2) HM.o;have HEnd:=hid hEnd;clear hEnd;have hup:=λW=>U5 a n c k hk hc W;obtain⟨ra,hra⟩:=gn ((if c=k then a else a.map λx=>x.add k));have hfr:∀W:World,(Instr.sliceAt 35 (.slice a n c) (some (iv (k:Int))) none none).run Tryz.prog W=.ok (.slice ra (n-k) (c-k)) W:=λW=>by rw[hra];exact Vi a n c k hk hc W
   have HRA:U (∀W,Bl wr W->BE W ra (n-k) (gt (L.drop k))/\BE W a k (gt (L.take k))):=λW hW=>by
    have q:=HR.o.1.below hW;have hkl:k<=L.length:=by rw[<- HN.o];exact hk
    refine⟨?_,q.take k hkl⟩;rw[hra,HN.o];exact q.drop k c hkl (by rw[<- HN.o];exact hc)
   clear hra;have HIF:=hid ((Classical.choose_spec (Option.map_eq_some_iff.1 Ia)).1);have HBODY:U (DE (L.take k++t::L.drop k)->∀(v3:Value) (w3:World),w3.ownsRow wr.heap.size 9 1 v3 (k+1+(n-k)) (AC (L.take k++t::L.drop k))->Bl wr w3->Ta wr (n+1) (λx=>x∈L\/x=t) (.returned v3) w3):=λhA v3 w3 ho hb=>by
    have hlen:k+1+(n-k)=(L.take k++t::L.drop k).length:=by rw[WD,WN,WI,List.length_drop,<- HN.o];omega
    obtain⟨a3,c3,rfl,h1,h2,h3⟩:=Cp ho hlen;refine⟨a3,c3,_,by rw[hlen],h1.rd,hA,λx=>?_,by rw[<- hlen];omega,by rw[<- hlen];exact h2,h3,hb⟩;rw[List.mem_append,List.mem_cons];constructor
    .rintro (q|q|q);.exact .inl (List.mem_of_mem_take q)
     .exact .inr q
     .exact .inl (List.mem_of_mem_drop q)
    .rintro (q|q)
     .rw[<- List.take_append_drop k L,List.mem_append] at q;rcases q with q|q;.exact .inl q
      .exact .inr (.inr q)
     .exact .inr (.inl q)
   have tail:True:=trivial;by_cases hlt:k<n
   .obtain⟨bb,o,rfl,s1⟩:=HR.o.1.cell (i:=k) (by rw[<- HN.o];exact hlt);have i0:(0:Int)<=(k:Int):=by omega
    have i1:(k:Int)<(n:Int):=by omega
    cases hcmp:Op.bytesLess (gt L k).toList t.toList with
    | true=>
     have HX:U (∀j,j<k+1->Op.bytesLess (gt L j).toList t.toList=true):=λj hj=>by
      by_cases e:j=k;.rw[e];exact hcmp
      .exact HS.o j (by omega)
     clear hup hfr;go_wp2;go_roundw;case rel=>exact⟨k+1,by omega,by go_num,HX.o,by first|rfl|trivial⟩
     case measure=>simp[intOf];omega
    | false=>
     have HA:=HEnd.o (λ_=>hcmp);have HB9:=hid (HBODY.o HA);clear HA HBODY HEnd;go_wp2_with (at_builtin;refine AG rfl _ _ rfl wr.heap.size (.slice (some (ad wr.heap.size 0)) 0 0) 0 [] rfl (BB wr 9 wr.heap.size 1 (Wu _)) (some (ad bb o)) k c (L.take k) rfl (by rw[WI,<- HN.o];omega) (HRA.o _ (Aa _ _)).2 (by omega) (by simp) ?_)
     intro v1 w2 ho1 hg1 _;have H1:U (w2.ownsRow wr.heap.size 9 1 v1 k (AC (L.take k))/\Bl wr w2):=⟨by simpa using ho1,(Aa _ _).grown hg1 (by simp) (λg e=>by simp[Value.ownBlock] at e;omega)⟩;clear ho1 hg1;obtain⟨va,vc,rfl⟩:=Da H1.o.1;have z2:=H1.o.2.size;obtain⟨i0,hi,hz0,hz1,hz2⟩:=info_parts Ia;have HI:=hid (ai hi (ai hz0 (ai hz1 hz2)));clear hi hz0 hz1 hz2;have H1a:U ((w2.alloc (.cells #[.string t] 9)).ownsRow wr.heap.size 9 1 (.slice va k vc) k (AC (L.take k))):=Al H1.o.1 (Aa _ _);go_wp2_with (at_builtin;refine wpList_append_own_at _ rfl _ _ 35 rfl wr.heap.size 9 i0 (.string { data:=#[] }) 1 16 Tryz.underlying35 HI.o.1 HI.o.2.1 HI.o.2.2.1 HI.o.2.2.2 rfl (by decide) (.slice va k vc) k _ rfl H1a.o (ad w2.heap.size 0) 1 1 [.string t] rfl rfl (cell_one_new _ _ _) (by intro u hu;simp at hu;subst hu;rfl) (by unfold maxLen;omega) (by omega) (by simp;omega) ?_)
     intro v2 w3 ho2 hg2 _ _;have H2:U (w3.ownsRow wr.heap.size 9 1 v2 (k+1) (AC (L.take k++[t]))/\Bl wr w3):=⟨by rw[CL];exact ho2,(H1.o.2.alloc z2 _).grown hg2 (by simp;omega) (λg e=>(Aw H1.o.1 g e).1)⟩;clear ho2 hg2 H1 H1a HI;obtain⟨vb,vd,rfl⟩:=Da H2.o.1;have z3:=H2.o.2.size;go_wp2_with (at_builtin;refine AG rfl _ _ rfl wr.heap.size (.slice vb (k+1) vd) (k+1) _ rfl H2.o.1 ra (n-k) (c-k) (L.drop k) rfl (by rw[List.length_drop,<- HN.o]) (HRA.o _ H2.o.2).1 (by omega) z3 ?_)
     intro v3 w4 ho3 hg3 _;have H3:=hid (HB9.o v3 w4 (by rw[<- CL] at ho3;simpa using ho3) (H2.o.2.grown hg3 z3 (λg e=>(Aw H2.o.1 g e).1)));clear ho3 hg3 H2;go_wp2;go_ret;exact H3.o
   .have i1:¬ (k:Int)<(n:Int):=by omega
    have HA:=HEnd.o (λq=>absurd q hlt);have HB9:U (∀(v3:Value) (w3:World),w3.ownsRow wr.heap.size 9 1 v3 (k+1+(n-k)) (AC (L.take k++t::L.drop k))->Bl wr w3->Ta wr (n+1) (λx=>x∈L\/x=t) (.returned v3) w3):=HBODY.o HA;clear HA HBODY HEnd;go_wp2_with (at_builtin;refine AG rfl _ _ rfl wr.heap.size (.slice (some (ad wr.heap.size 0)) 0 0) 0 [] rfl (BB wr 9 wr.heap.size 1 (Wu _)) a k c (L.take k) rfl (by rw[WI,<- HN.o];omega) (HRA.o _ (Aa _ _)).2 (by omega) (by simp) ?_)
    intro v1 w2 ho1 hg1 _;have H1:U (w2.ownsRow wr.heap.size 9 1 v1 k (AC (L.take k))/\Bl wr w2):=⟨by simpa using ho1,(Aa _ _).grown hg1 (by simp) (λg e=>by simp[Value.ownBlock] at e;omega)⟩;clear ho1 hg1;obtain⟨va,vc,rfl⟩:=Da H1.o.1;have z2:=H1.o.2.size;obtain⟨i0,hi,hz0,hz1,hz2⟩:=info_parts Ia;have HI:U (Tryz.prog.info? 9=some i0/\i0.zero=some (.string { data:=#[] })/\i0.size=1/\i0.bytes=16):=⟨hi,hz0,hz1,hz2⟩;clear hi hz0 hz1 hz2;have H1a:U ((w2.alloc (.cells #[.string t] 9)).ownsRow wr.heap.size 9 1 (.slice va k vc) k (AC (L.take k))):=Al H1.o.1 (Aa _ _);go_wp2_with (at_builtin;refine wpList_append_own_at _ rfl _ _ 35 rfl wr.heap.size 9 i0 (.string { data:=#[] }) 1 16 Tryz.underlying35 HI.o.1 HI.o.2.1 HI.o.2.2.1 HI.o.2.2.2 rfl (by decide) (.slice va k vc) k _ rfl H1a.o (ad w2.heap.size 0) 1 1 [.string t] rfl rfl (cell_one_new _ _ _) (by intro u hu;simp at hu;subst hu;rfl) (by unfold maxLen;omega) (by omega) (by simp;omega) ?_)
    intro v2 w3 ho2 hg2 _ _;have H2:U (w3.ownsRow wr.heap.size 9 1 v2 (k+1) (AC (L.take k++[t]))/\Bl wr w3):=⟨by rw[CL];exact ho2,(H1.o.2.alloc z2 _).grown hg2 (by simp;omega) (λg e=>(Aw H1.o.1 g e).1)⟩;clear ho2 hg2 H1 H1a HI;obtain⟨vb,vd,rfl⟩:=Da H2.o.1;have z3:=H2.o.2.size;go_wp2_with (at_builtin;refine AG rfl _ _ rfl wr.heap.size (.slice vb (k+1) vd) (k+1) _ rfl H2.o.1 ra (n-k) (c-k) (L.drop k) rfl (by rw[List.length_drop,<- HN.o]) (HRA.o _ H2.o.2).1 (by omega) z3 ?_)
    intro v3 w4 ho3 hg3 _;have H3:=hid (HB9.o v3 w4 (by rw[<- CL] at ho3;simpa using ho3) (H2.o.2.grown hg3 z3 (λg e=>(Aw H2.o.1 g e).1)));clear ho3 hg3 H2;go_wp2;go_ret;exact H3.o
end Go.Proofs.YtacpbofiipdodaaGreat
