import Derived.Test.YtacpbofiipdodaaGreatNv3
set_option linter.unusedVariables false
set_option linter.unusedSimpArgs false
set_option maxRecDepth 100000
set_option maxHeartbeats 90000000
namespace Go.Proofs.YtacpbofiipdodaaGreat
open Go Go.Deep Go.RowKit
variable {W2 w5:World}{d:Nat}
theorem Tryz.info134 : (Tryz.prog.info? 134).map (λi=>(i.zero,i.size,i.bytes))=some (some (.agg #[.bool false,.slice none 0 0,.slice none 0 0]),3,56):=by kernel_rfl
theorem OK {K:Option Addr->Nat->Nat->(Nat->ByteArray)->Prop} {B:Nat} {w4:World} {vk v':Value} {S:Nat->Prop} {t:Ro d} {v:Value} (h:AD K S w4 d t v) (hS:∀b,S b->b<w4.heap.size->B<=b/\vk.ownBlock≠some b) (hb:Bl w4 W2) (hg:W2.grownBy w5 vk.ownBlock) (hat:v'.ownBlock=vk.ownBlock\/v'.ownBlock=some W2.heap.size) :
  AD K (λb=>B<=b/\v'.ownBlock≠some b) w5 d t v:=by
 have hz1:=hb.size;have hz2:=hg.size;refine h.mono (λ_ _ _ _ h=>h) (λb hs hlt=>⟨(hS b hs hlt).1,?own⟩) (by omega) (λb j hs hlt=>?cel);case own=>
  rcases hat with e|e;.rw[e];exact (hS b hs hlt).2
  .rw[e];intro e2;injection e2 with e2;omega
 case cel=>have q:w5.cell? (ad b j)=W2.cell? (ad b j):=World.cell?_of_block (hg.block b (by omega) (λe=>(hS b hs hlt).2 e.symm));rw[q];exact hb.cell (p:=(ad b j)) hlt
structure Io (w wr:World) (K:Option Addr->Nat->Nat->(Nat->ByteArray)->Prop) (d k:Nat) (ts:List (Ro d)) (x:Tn) (ka da:Option Addr) (kc dc:Nat) (ck:Option Addr) (cc:Nat) (xs:List Value):Prop where
 res:Bx wr w.heap.size 134 #[.bool false,.slice none 0 0,.slice none 0 0]
 nod:Bx wr (w.heap.size+1) 267 #[.bool x.lf,.slice ka x.kn kc,.slice da x.dn dc,iv x.ct]
 o:Bx wr (w.heap.size+2) 134 #[.bool false,.slice none 0 0,.slice ck k cc]
 own:wr.ownsRow (w.heap.size+3) 134 3 (.slice ck k cc) k xs
 kids:D7 (λt v=>AD K (λb=>w.heap.size+3<=b/\(Value.slice ck k cc).ownBlock≠some b) wr d t v) ts xs
 bel:Bl w wr
 len:ts.length=k
theorem Io.below {w wr w1:World} {K:Option Addr->Nat->Nat->(Nat->ByteArray)->Prop} {d k:Nat} {ts:List (Ro d)} {x:Tn} {ka da:Option Addr} {kc dc:Nat} {ck:Option Addr} {cc:Nat} {xs:List Value} (h:Io w wr K d k ts x ka da kc dc ck cc xs) (hb:Bl wr w1):Io w w1 K d k ts x ka da kc dc ck cc xs:=
 ⟨h.res.below hb,h.nod.below hb,h.o.below hb,Al h.own hb,h.kids.mono (λt v q=>q.below hb),h.bel.trans (hb.mono h.bel.size),h.len⟩
theorem Io.grow {w wr w1:World} {K:Option Addr->Nat->Nat->(Nat->ByteArray)->Prop} {k:Nat} {ts:List (Ro d)} {x:Tn} {ka da:Option Addr} {kc dc:Nat} {ck:Option Addr} {cc:Nat} {xs:List Value} (h:Io w wr K d k ts x ka da kc dc ck cc xs) (hb:Bl wr w1) {t:Ro d} {x0 x1 x2:Value} (ht:AD K (λb=>wr.heap.size<=b) w1 d t (.agg #[x0,x1,x2])) (hb2:Bl w1 W2)
  (hg:W2.grownBy w5 (Value.slice ck k cc).ownBlock) {a':Option Addr} {c':Nat} (ho:w5.ownsRow (w.heap.size+3) 134 3 (.slice a' (k+1) c') (k+1) (xs++[x0,x1,x2])) (hat:(Value.slice a' (k+1) c').ownBlock=(Value.slice ck k cc).ownBlock\/(Value.slice a' (k+1) c').ownBlock=some W2.heap.size) :
  Io w (w5.setCell (ad (w.heap.size+2) 2) (.slice a' (k+1) c')) K d (k+1) (ts++[t]) x ka da kc dc a' c' (xs++[x0,x1,x2]):=by
 have h1:=h.below hb;have h2:=h1.below hb2;have hz:=h.bel.size;have hz1:=hb.size;have hz2:=hb2.size;have hz3:=hg.size;have hlt:=Aw h.own;have hl3:=h.o.lt;have hne:∀b,b<w.heap.size+3->(Value.slice ck k cc).ownBlock≠some b:=λb hb e=>by have:=hlt b e;omega
 have hne' : ∀g,(Value.slice a' (k+1) c').ownBlock=some g->w.heap.size+2≠g:=λg e=>by have:=Aw ho g e;omega
 refine⟨(h2.res.grown hg (hne _ (by omega))).other (by simp) _,(h2.nod.grown hg (hne _ (by omega))).other (by simp) _,(h2.o.grown hg (hne _ (by omega))).set 2 _,?_,?_,?_,by rw[WD,h.len];rfl⟩
 .refine⟨ho.1,?_⟩;rcases ho.2 with ⟨q1,q2⟩|⟨g,cap,cur,q1,q2,q3,q4⟩;.exact Or.inl ⟨q1,q2⟩
  .refine Or.inr ⟨g,cap,cur,q1,q2,?_,q4⟩;rw[Wv _ _ _ _ (show g≠w.heap.size+2 from by omega)];exact q3
 .have key:∀(S:Nat->Prop) (t:Ro d) (v:Value),AD K S w1 d t v->(∀b,S b->b<w1.heap.size->w.heap.size+3<=b/\(Value.slice ck k cc).ownBlock≠some b)->AD K (λb=>w.heap.size+3<=b/\(Value.slice a' (k+1) c').ownBlock≠some b) (w5.setCell (ad (w.heap.size+2) 2) (.slice a' (k+1) c')) d t v:=by intro S t v q hS;have q1:=OK (B:=w.heap.size+3) (v':=.slice a' (k+1) c') q hS hb2 hg hat;refine q1.mono (λ_ _ _ _ h=>h) (λb hs _=>hs) (by simp[World.setCell]) (λb j hs _=>?_);exact World.cell?_of_block (Wv _ _ _ _ (show b≠w.heap.size+2 by omega))
  refine D7.app (key _ _ _ ht (λb hs hl=>⟨by omega,λe=>by have:=hlt b e;omega⟩)) (h1.kids.mono (λt v q=>key _ _ _ q (λb hs _=>hs)))
 .exact (((h1.bel.trans (hb2.mono (by omega))).grown hg (by omega) (λg e=>by have:=hlt g e;omega))).setCell (by simp) _
theorem RC (K:Option Addr->Nat->Nat->(Nat->ByteArray)->Prop) (b o n c:Nat) (N:Nat->Tn) (KA DA:Nat->Option Addr) (KC DC:Nat->Nat) (hK:∀i,i<n->K (KA i) (N i).kn (KC i) (gt (JB (N i)))) (hn:n<=5000) (hN:∀i,i<n->Bf (N i)):∀(d:Nat) (dep:Int),dep=21-(d:Int)->0<=dep->∀(w:World) (x:Nat) (xI:Int),xI=(x:Int)->x<=n->O6 w b o n N KA DA KC DC->
  WS 110 #[.slice (some (ad b o)) n c,iv xI,iv dep] w (Lh (λw S t v=>AD K S w d t v) w (AN N n d x) n):=by
 intro d;induction d with
 | zero=>
  intro dep hd hd0 w x xI hx hxn hNs;have e21:dep=21:=by omega
  subst e21;have HX:=hid (ai hx hxn);have h0:decide (xI<0)=false:=decide_eq_false (by omega);clear hNs hK hN hd;have hx0:¬ xI<0:=by omega
  clear hx;by_cases hge:(n:Int)<=xI;.have hge' : decide ((n:Int)<=xI)=true:=decide_eq_true hge;go_enter Tryz.func110,Tryz.ntmps110;go_wp2;refine bodyPost_ret (v:=.tuple #[.agg #[.bool false,.slice none 0 0,.slice none 0 0],iv xI,.bool false]) (by simp[results,Tryz.results110,go_sem]) rfl ⟨?_,_,_,_,_,_,_,_,_,_,rfl,.inl ⟨rfl,rfl⟩⟩;exact Aa _ _
  .have hge' : decide ((n:Int)<=xI)=false:=decide_eq_false hge;go_enter Tryz.func110,Tryz.ntmps110;go_wp2;refine bodyPost_ret (v:=.tuple #[.agg #[.bool false,.slice none 0 0,.slice none 0 0],iv xI,.bool false]) (by simp[results,Tryz.results110,go_sem]) rfl ⟨?_,_,_,_,_,_,_,_,_,_,rfl,.inl ⟨rfl,rfl⟩⟩;exact Aa _ _
 | succ d ih=>
  intro dep hd hd0 w x xI hx hxn hNs;have HX:=hid hx;have HNS:=hid hNs;have HKK:=hid hK;have HIH:U (∀(w:World) (y:Nat) (yI:Int),yI=(y:Int)->y<=n->O6 w b o n N KA DA KC DC->
   WS 110 #[.slice (some (ad b o)) n c,iv yI,iv (dep+1)] w (Lh (λw S t v=>AD K S w d t v) w (AN N n d y) n)):=λw y yI hy hyn hNs=>ih (dep+1) (by omega) (by omega) w y yI hy hyn hNs
  have hx0:¬ xI<0:=by omega
  have h0:=decide_eq_false hx0;have hd20:¬ 20<dep:=by omega
  have hd20' : decide (20<dep)=false:=decide_eq_false hd20;clear ih hK hNs hd;by_cases hlt:¬ x<n
  .have hge:(n:Int)<=xI:=by omega
   have hge' : decide ((n:Int)<=xI)=true:=decide_eq_true hge;have HR:U (AN N n (d+1) x=none):=by show AN N n (d+1) x=none;unfold AN;rw[if_neg hlt]
   clear hx hN;go_enter Tryz.func110,Tryz.ntmps110;go_wp2;refine bodyPost_ret (v:=.tuple #[.agg #[.bool false,.slice none 0 0,.slice none 0 0],iv xI,.bool false]) (by simp[results,Tryz.results110,go_sem]) rfl ⟨Aa _ _,_,_,_,_,_,_,_,_,_,rfl,.inl ⟨rfl,HR.o⟩⟩
  .have hlt:x<n:=by omega
   have hge:¬ (n:Int)<=xI:=by omega
   have hge' : decide ((n:Int)<=xI)=false:=decide_eq_false hge;obtain⟨c0,c1,c2,c3,c5⟩:=HNS.o x hlt;have hb:=Ws _ _ c0;have HFit:U (Bf (N x)):=hN x hlt;clear hx hN;go_enter Tryz.func110,Tryz.ntmps110;have hx:=HX.o;subst hx;clear HX hge hge' h0 hx0;have hge:¬ (n:Int)<=(x:Int):=by omega
   have hge' : decide ((n:Int)<=(x:Int))=false:=decide_eq_false hge;cases hlf:(N x).lf with
   | true=>
    rw[hlf] at c0;go_upto_region 7 with fail
    have S1:U (Bx (((w.alloc (.cells #[.bool false,.slice none 0 0,.slice none 0 0] 134)).alloc (.cells #[.bool true,.slice (KA x) (N x).kn (KC x),.slice (DA x) (N x).dn (DC x),iv (N x).ct] 267)).alloc (.cells #[.bool true,.slice (KA x) (N x).kn (KC x),.slice none 0 0] 134)) w.heap.size 134 #[.bool false,.slice none 0 0,.slice none 0 0]/\
      Bx (((w.alloc (.cells #[.bool false,.slice none 0 0,.slice none 0 0] 134)).alloc (.cells #[.bool true,.slice (KA x) (N x).kn (KC x),.slice (DA x) (N x).dn (DC x),iv (N x).ct] 267)).alloc (.cells #[.bool true,.slice (KA x) (N x).kn (KC x),.slice none 0 0] 134)) (w.heap.size+1) 267 #[.bool true,.slice (KA x) (N x).kn (KC x),.slice (DA x) (N x).dn (DC x),iv (N x).ct]/\
      Bx (((w.alloc (.cells #[.bool false,.slice none 0 0,.slice none 0 0] 134)).alloc (.cells #[.bool true,.slice (KA x) (N x).kn (KC x),.slice (DA x) (N x).dn (DC x),iv (N x).ct] 267)).alloc (.cells #[.bool true,.slice (KA x) (N x).kn (KC x),.slice none 0 0] 134)) (w.heap.size+2) 134 #[.bool true,.slice (KA x) (N x).kn (KC x),.slice none 0 0]/\
      Bl w (((w.alloc (.cells #[.bool false,.slice none 0 0,.slice none 0 0] 134)).alloc (.cells #[.bool true,.slice (KA x) (N x).kn (KC x),.slice (DA x) (N x).dn (DC x),iv (N x).ct] 267)).alloc (.cells #[.bool true,.slice (KA x) (N x).kn (KC x),.slice none 0 0] 134))):=by
     refine⟨((Bx.new _ _ _).alloc _).alloc _,?_,?_,((Aa _ _).alloc (by simp) _).alloc (by simp;omega) _⟩
     .have q:=(Bx.new (w.alloc (.cells #[.bool false,.slice none 0 0,.slice none 0 0] 134)) #[.bool true,.slice (KA x) (N x).kn (KC x),.slice (DA x) (N x).dn (DC x),iv (N x).ct] 267).alloc (.cells #[.bool true,.slice (KA x) (N x).kn (KC x),.slice none 0 0] 134)
      simpa using q
     .have q:=Bx.new ((w.alloc (.cells #[.bool false,.slice none 0 0,.slice none 0 0] 134)).alloc (.cells #[.bool true,.slice (KA x) (N x).kn (KC x),.slice (DA x) (N x).dn (DC x),iv (N x).ct] 267)) #[.bool true,.slice (KA x) (N x).kn (KC x),.slice none 0 0] 134
      simpa using q
    clear c0 c1 c2 c3 c5;generalize (((w.alloc (.cells #[.bool false,.slice none 0 0,.slice none 0 0] 134)).alloc (.cells #[.bool true,.slice (KA x) (N x).kn (KC x),.slice (DA x) (N x).dn (DC x),iv (N x).ct] 267)).alloc (.cells #[.bool true,.slice (KA x) (N x).kn (KC x),.slice none 0 0] 134))=W at S1 ⊢;obtain⟨s0,s1,s2,s3⟩:=S1.o;have y2:=s1.cell 2;have z0:=s2.cell 0;have z1:=s2.cell 1;have z2:=s2.cell 2;have f0:=s0.frozen 0;have f1:=s0.frozen 1;have f2:=s0.frozen 2;have r0:=s0.cell 0;have r1:=s0.cell 1;have r2:=s0.cell 2;simp at y2 z0 z1 z2 r0 r1 r2;have hl1:=s0.lt;have hl2:=s1.lt;have hl3:=s2.lt;have hdn:(N x).dn<=1048576:=HFit.o.2;have HZ:U (∀v0 v1 v2,Bl w (((W.setCell (ad w.heap.size 0) v0).setCell (ad w.heap.size 1) v1).setCell (ad w.heap.size 2) v2)):=λv0 v1 v2=>((s3.setCell (Wu _) _).setCell (Wu _) _).setCell (Wu _) _;clear s0 s1 s2 s3 S1;have HRR:U (AN N n (d+1) x=if (N x).dn=0 then some (.inl (JB (N x)),x+1) else none):=by
     show AN N n (d+1) x=_;conv=>lhs;unfold AN
     rw[if_pos hlt,if_pos hlf]
    have HKx:U (K (KA x) (N x).kn (KC x) (gt (JB (N x)))):=HKK.o x hlt;have hwr:IntKind.i64.wrap ((x:Int)+1)=(x:Int)+1:=by rw[Wz];omega
    by_cases hd0:(N x).dn=0
    .have hq:(((N x).dn:Int) == 0)=true:=by rw[hd0];rfl
     have HR:U (AN N n (d+1) x=some (.inl (JB (N x)),x+1)):=by have:=HRR.o;rw[if_pos hd0] at this;exact this
     clear HRR;have HD:U ((N x).dn=0):=hd0;clear hd0;go_region_held3 (λw'=>w'.cell? (ad (w.heap.size+1) 2)=some (.slice (DA x) (N x).dn (DC x))/\w'.cell? (ad (w.heap.size+2) 0)=some (.bool true)/\w'.cell? (ad (w.heap.size+2) 1)=some (.slice (KA x) (N x).kn (KC x))/\w'.cell? (ad (w.heap.size+2) 2)=some (.slice none 0 0)) (go_keep) (fail)
     go_wp2;refine bodyPost_ret (v:=.tuple #[.agg #[.bool true,.slice (KA x) (N x).kn (KC x),.slice none 0 0],iv ((x:Int)+1),.bool true]) (by simp[results,Tryz.results110,go_sem,r0,r1,r2]) rfl ⟨(HZ.o _ _ _).drew,_,_,_,_,_,_,_,_,_,rfl,.inr ⟨rfl,_,_,HR.o,by simp,by omega,?_⟩⟩;refine⟨KA x,KC x,none,0,by rw[Be],?_⟩;rw[Be];exact HKx.o
    .have hq:(((N x).dn:Int) == 0)=false:=by simp;omega
     have HR:U (AN N n (d+1) x=none):=by have:=HRR.o;rw[if_neg hd0] at this;exact this
     clear HRR hd0;go_region_held3 (λw'=>w'.cell? (ad (w.heap.size+1) 2)=some (.slice (DA x) (N x).dn (DC x))/\w'.cell? (ad (w.heap.size+2) 0)=some (.bool true)/\w'.cell? (ad (w.heap.size+2) 1)=some (.slice (KA x) (N x).kn (KC x))/\w'.cell? (ad (w.heap.size+2) 2)=some (.slice none 0 0)) (go_keep) (fail)
     go_wp2;refine bodyPost_ret (v:=.tuple #[.agg #[.bool true,.slice (KA x) (N x).kn (KC x),.slice none 0 0],iv ((x:Int)+1),.bool false]) (by simp[results,Tryz.results110,go_sem,r0,r1,r2]) rfl ⟨(HZ.o _ _ _).drew,_,_,_,_,_,_,_,_,_,rfl,.inl ⟨rfl,HR.o⟩⟩
   | false=>
    rw[hlf] at c0;have HRR:U (AN N n (d+1) x=if (N x).dn=0 then none else (match BF (AN N n d) (N x).kd (x+1) (N x).dn with
      | some (ts,e)=>some (.inr ts,e)
      | none=>none)):=by
     show AN N n (d+1) x=_
     conv=>lhs;unfold AN
     rw[if_pos hlt,if_neg (by rw[hlf];simp)]
     rfl
    go_upto_region 9 with fail
    have S1:U (Io w (((w.alloc (.cells #[.bool false,.slice none 0 0,.slice none 0 0] 134)).alloc (.cells #[.bool false,.slice (KA x) (N x).kn (KC x),.slice (DA x) (N x).dn (DC x),iv (N x).ct] 267)).alloc (.cells #[.bool false,.slice none 0 0,.slice none 0 0] 134)) K d 0 [] ⟨false,(N x).kn,(N x).ks,(N x).dn,(N x).kd,(N x).ct⟩ (KA x) (DA x) (KC x) (DC x) none 0 []):=by
     refine⟨((Bx.new _ _ _).alloc _).alloc _,?_,?_,World.ownsRow_nil _ _ _ _,trivial,((Aa _ _).alloc (by simp) _).alloc (by simp;omega) _,rfl⟩;.have q:=(Bx.new (w.alloc (.cells #[.bool false,.slice none 0 0,.slice none 0 0] 134)) #[.bool false,.slice (KA x) (N x).kn (KC x),.slice (DA x) (N x).dn (DC x),iv (N x).ct] 267).alloc (.cells #[.bool false,.slice none 0 0,.slice none 0 0] 134);simpa using q
     .have q:=Bx.new ((w.alloc (.cells #[.bool false,.slice none 0 0,.slice none 0 0] 134)).alloc (.cells #[.bool false,.slice (KA x) (N x).kn (KC x),.slice (DA x) (N x).dn (DC x),iv (N x).ct] 267)) #[.bool false,.slice none 0 0,.slice none 0 0] 134;simpa using q
    clear c0 c1 c2 c3;have HC5:U (Rd .i64 w (DA x) (N x).dn (N x).kd):=c5;clear c5;generalize (((w.alloc (.cells #[.bool false,.slice none 0 0,.slice none 0 0] 134)).alloc (.cells #[.bool false,.slice (KA x) (N x).kn (KC x),.slice (DA x) (N x).dn (DC x),iv (N x).ct] 267)).alloc (.cells #[.bool false,.slice none 0 0,.slice none 0 0] 134))=W at S1 ⊢;go_wp2;go_loopw [11,12] (λq i wr=>∃(k e:Nat) (ts:List (Ro d)) (ck:Option Addr) (cc:Nat) (xs:List Value),k<=(N x).dn/\i=iv k/\q=iv e/\e<=n/\BF (AN N n d) (N x).kd (x+1) k=some (ts,e)/\Io w wr K d k ts ⟨false,(N x).kn,(N x).ks,(N x).dn,(N x).kd,(N x).ct⟩ (KA x) (DA x) (KC x) (DC x) ck cc xs) (λ_ i _=>(N x).dn-(intOf i).toNat)
    case atStart=>exact⟨0,x+1,[],none,0,[],Ww _,rfl,by simp,by omega,rfl,S1.o⟩
    case round=>
     obtain⟨k,e,ts,ck,cc,xs,hk,rfl,rfl,hen,hkf,hst⟩:=hrel;clear S1;have HST:U (Io w wr K d k ts ⟨false,(N x).kn,(N x).ks,(N x).dn,(N x).kd,(N x).ct⟩ (KA x) (DA x) (KC x) (DC x) ck cc xs):=hst;have HKF:U (BF (AN N n d) (N x).kd (x+1) k=some (ts,e)):=hkf;clear hst hkf;have y2:=HST.o.nod.cell 2;have z0:=HST.o.o.cell 0;have z1:=HST.o.o.cell 1;have z2:=HST.o.o.cell 2;have f0:=HST.o.res.frozen 0;have f1:=HST.o.res.frozen 1;have f2:=HST.o.res.frozen 2;have r0:=HST.o.res.cell 0;have r1:=HST.o.res.cell 1;have r2:=HST.o.res.cell 2;simp at y2 z0 z1 z2 r0 r1 r2;have hl1:=HST.o.res.lt;have hl2:=HST.o.nod.lt;have hl3:=HST.o.o.lt;have HZ:U (∀v0 v1 v2,Bl w (((wr.setCell (ad w.heap.size 0) v0).setCell (ad w.heap.size 1) v1).setCell (ad w.heap.size 2) v2)):=λv0 v1 v2=>((HST.o.bel.setCell (Wu _) _).setCell (Wu _) _).setCell (Wu _) _;have hdn:(N x).dn<=1048576:=HFit.o.2;by_cases hkd:k<(N x).dn
     .have hRd:=HC5.o.below HST.o.bel;rcases hRd with h0|⟨bd,od,hDA,hcd⟩;.omega
      have ck0:=hcd k hkd;have hk0:(0:Int)<=(k:Int):=by omega
      have hkn:(k:Int)<((N x).dn:Int):=by omega
      have HDA:U (DA x=some (ad bd od)):=hDA;rw[hDA] at y2;clear hcd hDA;by_cases hke:(N x).kd k=(e:Int)
      .rw[hke] at ck0;have HKE:U ((N x).kd k=(e:Int)):=hke;clear hke;go_wp2_with fail
       refine (HIH.o _ e _ rfl hen (HNS.o.below HST.o.bel)).mono ?_;rintro e1 w0 ⟨hb1,lf,ka,kn,kc,ca,cn,cc1,y,ok,rfl,hr⟩;have HB0:U (Bl wr w0):=hb1;have HR1:U (ok=false/\AN N n d e=none\/ok=true/\∃t y',AN N n d e=some (t,y')/\y=(y' : Int)/\y'<=n/\AD K (λb=>wr.heap.size<=b) w0 d t (.agg #[.bool lf,.slice ka kn kc,.slice ca cn cc1])):=hr;clear hb1 hr z0 z1 z2 f0 f1 f2 r0 r1 r2 y2 ck0 HZ;go_upto_region 15 with fail
       have HS1:U (Io w (w0.alloc (.cells #[.bool lf,.slice ka kn kc,.slice ca cn cc1] 134)) K d k ts ⟨false,(N x).kn,(N x).ks,(N x).dn,(N x).kd,(N x).ct⟩ (KA x) (DA x) (KC x) (DC x) ck cc xs/\Bx (w0.alloc (.cells #[.bool lf,.slice ka kn kc,.slice ca cn cc1] 134)) w0.heap.size 134 #[.bool lf,.slice ka kn kc,.slice ca cn cc1]/\Bl wr (w0.alloc (.cells #[.bool lf,.slice ka kn kc,.slice ca cn cc1] 134))/\
         (∀t v,AD K (λb=>wr.heap.size<=b) w0 d t v->AD K (λb=>wr.heap.size<=b) (w0.alloc (.cells #[.bool lf,.slice ka kn kc,.slice ca cn cc1] 134)) d t v)):=
        ⟨(HST.o.below HB0.o).below (Aa _ _),Bx.new _ _ _,HB0.o.trans ((Aa _ _).mono HB0.o.size),λt v q=>q.below (Aa _ _)⟩
       generalize (w0.alloc (.cells #[.bool lf,.slice ka kn kc,.slice ca cn cc1] 134))=w1 at HS1 ⊢;have z0:=HS1.o.1.o.cell 0;have z1:=HS1.o.1.o.cell 1;have z2:=HS1.o.1.o.cell 2;have f0:=HS1.o.1.res.frozen 0;have f1:=HS1.o.1.res.frozen 1;have f2:=HS1.o.1.res.frozen 2;have r0:=HS1.o.1.res.cell 0;have r1:=HS1.o.1.res.cell 1;have r2:=HS1.o.1.res.cell 2;have k0:=HS1.o.2.1.cell 0;have k1:=HS1.o.2.1.cell 1;have k2:=HS1.o.2.1.cell 2;simp at z0 z1 z2 r0 r1 r2 k0 k1 k2;have hw1:=HS1.o.1.o.lt;have hw2:=HS1.o.2.1.lt;cases ok with
       | false=>
        have HR:U (AN N n (d+1) x=none):=by
         have hf:AN N n d e=none:=by
          rcases HR1.o with ⟨_,h⟩|⟨h,_⟩;.exact h
          .cases h
         have q:BF (AN N n d) (N x).kd (x+1) (k+1)=none:=by unfold BF;rw[HKF.o];simp only[if_pos HKE.o,hf]
         have q2:=IM q (m:=(N x).dn) (by omega);have:=HRR.o;rw[q2,if_neg (by omega)] at this;exact this
        have HZ:U (∀v0 v1 v2,Bl w (((w1.setCell (ad w.heap.size 0) v0).setCell (ad w.heap.size 1) v1).setCell (ad w.heap.size 2) v2)):=λv0 v1 v2=>((HS1.o.1.bel.setCell (Wu _) _).setCell (Wu _) _).setCell (Wu _) _;clear HRR;go_wp2;refine bodyPost_ret (v:=.tuple #[.agg #[.bool false,.slice none 0 0,.slice ck k cc],iv (e:Int),.bool false]) (by simp[results,Tryz.results110,go_sem,r0,r1,r2]) rfl ⟨(HZ.o _ _ _),_,_,_,_,_,_,_,_,_,rfl,.inl ⟨rfl,HR.o⟩⟩
       | true=>
        obtain⟨i0,hi,hz0,hz1,hz2⟩:=info_parts Tryz.info134;have HI:U (Tryz.prog.info? 134=some i0/\i0.zero=some (.agg #[.bool false,.slice none 0 0,.slice none 0 0])/\i0.size=3/\i0.bytes=56):=⟨hi,hz0,hz1,hz2⟩;clear hi hz0 hz1 hz2;have HO:U ((w1.alloc (.cells #[.bool lf,.slice ka kn kc,.slice ca cn cc1] 134)).ownsRow (w.heap.size+3) 134 3 (.slice ck k cc) k xs):=Al HS1.o.1.own (Aa _ _);have HC:U (∀j u,[Value.bool lf,.slice ka kn kc,.slice ca cn cc1][j]?=some u->(w1.alloc (.cells #[.bool lf,.slice ka kn kc,.slice ca cn cc1] 134)).cell? (((ad w1.heap.size 0):Addr).add j)=some u):=by
         intro j u hj;match j,hj with
         | 0,hj=>simp at hj;subst hj;simp[Addr.add]
         | 1,hj=>simp at hj;subst hj;simp[Addr.add]
         | 2,hj=>simp at hj;subst hj;simp[Addr.add]
        go_wp2_with (at_builtin;refine wpList_append_own_at _ rfl _ _ 132 rfl (w.heap.size+3) 134 i0 _ 3 56 Tryz.underlying132 HI.o.1 HI.o.2.1 HI.o.2.2.1 HI.o.2.2.2 rfl (by decide) (.slice ck k cc) k xs rfl HO.o (ad w1.heap.size 0) 1 1 [.bool lf,.slice ka kn kc,.slice ca cn cc1] rfl rfl HC.o (by intro u hu;simp at hu;rcases hu with rfl|rfl|rfl <;> rfl) (by unfold maxLen;omega) (by omega) (by simp;omega) ?_)
        intro v' w5 ho hg _ hat;obtain⟨a',c',rfl,_⟩:=Ap ho;rcases HR1.o with ⟨h,_⟩|⟨_,t,y',hf,hy,hyn,hat2⟩;.cases h
        subst hy;have hx5:=(((HS1.o.1.o.alloc (.cells #[.bool lf,.slice ka kn kc,.slice ca cn cc1] 134)).grown hg (λe=>by have:=Aw HS1.o.1.own _ e;omega)).cell 2);have hf5:=(((HS1.o.1.o.alloc (.cells #[.bool lf,.slice ka kn kc,.slice ca cn cc1] 134)).grown hg (λe=>by have:=Aw HS1.o.1.own _ e;omega)).frozen 2);have hz5:w.heap.size+2<w5.heap.size:=by have:=hg.size;simp at this;omega
        have HG:U (Io w (w5.setCell (ad (w.heap.size+2) 2) (.slice a' (k+1) c')) K d (k+1) (ts++[t]) ⟨false,(N x).kn,(N x).ks,(N x).dn,(N x).kd,(N x).ct⟩ (KA x) (DA x) (KC x) (DC x) a' c' (xs++[.bool lf,.slice ka kn kc,.slice ca cn cc1])):=
         HST.o.grow HS1.o.2.2.1 (HS1.o.2.2.2 _ _ hat2) (Aa _ _) hg ho (by simpa using hat)
        have HKF2:U (BF (AN N n d) (N x).kd (x+1) (k+1)=some (ts++[t],y')):=by show BF (AN N n d) (N x).kd (x+1) (k+1)=some (ts++[t],y');unfold BF;rw[HKF.o];simp only[if_pos HKE.o,hf]
        simp at hx5;clear HST HS1 HO HC HKF HR1 ho hg hat hat2 z0 z1 z2 f0 f1 f2 r0 r1 r2 k0 k1 k2;go_wp2;go_roundw;case rel=>exact⟨k+1,y',ts++[t],a',c',_,by omega,by go_num,rfl,hyn,HKF2.o,HG.o⟩
        case measure=>simp[intOf];omega
      .have hne:(!((N x).kd k == (e:Int)))=true:=by simpa using hke
       have hne2:((N x).kd k != (e:Int))=true:=by simpa using hke
       have HR:U (AN N n (d+1) x=none):=by
        have q:BF (AN N n d) (N x).kd (x+1) (k+1)=none:=by unfold BF;rw[HKF.o];simp only[if_neg hke]
        have q2:=IM q (m:=(N x).dn) (by omega);have:=HRR.o;rw[q2,if_neg (by omega)] at this;exact this
       clear HRR;go_wp2;refine bodyPost_ret (v:=.tuple #[.agg #[.bool false,.slice none 0 0,.slice ck k cc],iv (e:Int),.bool false]) (by simp[results,Tryz.results110,go_sem,r0,r1,r2]) rfl ⟨(HZ.o _ _ _),_,_,_,_,_,_,_,_,_,rfl,.inl ⟨rfl,HR.o⟩⟩
     .have e1:k=(N x).dn:=by omega
      subst e1;have hwn:¬ (0:Int)<0:=by omega
      by_cases hd0:(N x).dn=0
      .have HP:=hid hd0;have hq:decide ((0:Int)<((N x).dn:Int))=false:=decide_eq_false (by omega);have HR:U (AN N n (d+1) x=none):=by have:=HRR.o;rw[if_pos hd0] at this;exact this
       have hq2:¬ (0:Int)<((N x).dn:Int):=by omega
       clear HRR hd0 hkd hk;go_upto_region 19 with fail
       go_region_held3 (λw'=>w'.cell? (ad (w.heap.size+1) 2)=some (.slice (DA x) (N x).dn (DC x))/\w'.cell? (ad (w.heap.size+2) 0)=some (.bool false)/\w'.cell? (ad (w.heap.size+2) 1)=some (.slice none 0 0)/\w'.cell? (ad (w.heap.size+2) 2)=some (.slice ck (N x).dn cc)) (go_keep) (fail)
       go_wp2;refine bodyPost_ret (v:=.tuple #[.agg #[.bool false,.slice none 0 0,.slice ck (N x).dn cc],iv (e:Int),.bool false]) (by simp[results,Tryz.results110,go_sem,r0,r1,r2];exact HP.o) rfl ⟨(HZ.o _ _ _).drew,_,_,_,_,_,_,_,_,_,rfl,.inl ⟨rfl,HR.o⟩⟩
      .have HP:U (0<(N x).dn):=Nat.pos_of_ne_zero hd0;have hq:decide ((0:Int)<((N x).dn:Int))=true:=decide_eq_true (by omega);have hq2:(0:Int)<((N x).dn:Int):=by omega
       have HR:U (AN N n (d+1) x=some (.inr ts,e)):=by have:=HRR.o;rw[if_neg hd0,HKF.o] at this;exact this
       obtain⟨a',c',ea,hfo⟩:=Ap HST.o.own;obtain⟨g,eg,hg1,hg2,hg3⟩:=hfo hd0;injection ea with ea1 _ ea2;subst ea1;subst ea2;subst eg;have HNE:U (∀v0 v1 v2,AD K (λb=>w.heap.size<=b) (((wr.setCell (ad w.heap.size 0) v0).setCell (ad w.heap.size 1) v1).setCell (ad w.heap.size 2) v2).drew (d+1) (.inr ts) (.agg #[.bool false,.slice none 0 0,.slice (some (ad g 0)) (N x).dn cc])):=by intro v0 v1 v2;have q:AD K (λb=>w.heap.size+3<=b) wr (d+1) (.inr ts) (.agg #[.bool false,.slice none 0 0,.slice (some (ad g 0)) (N x).dn cc]):=⟨none,0,g,cc,xs,by rw[HST.o.len],⟨hg1,by rw[HST.o.len];exact On HST.o.own⟩,hg2,by rw[HST.o.len];omega,hg3,HST.o.kids.mono (λt v q=>q.mono (λ_ _ _ _ h=>h) (λb hs _=>hs.1) (Wu _) (λ_ _ _ _=>rfl))⟩;refine q.mono (λ_ _ _ _ h=>h) (λb hs _=>by omega) (by simp[World.setCell,World.drew]) (λb j hs _=>?_);refine World.cell?_of_block ?_;show (((wr.setCell (ad w.heap.size 0) v0).setCell (ad w.heap.size 1) v1).setCell (ad w.heap.size 2) v2).heap[b]?=_;rw[Wv _ _ _ _ (show b≠w.heap.size by omega),Wv _ _ _ _ (show b≠w.heap.size by omega),Wv _ _ _ _ (show b≠w.heap.size by omega)]
       clear HRR hd0 hkd hk hg3 HST hfo hg1;go_upto_region 19 with fail
       go_region_held3 (λw'=>w'.cell? (ad (w.heap.size+1) 2)=some (.slice (DA x) (N x).dn (DC x))/\w'.cell? (ad (w.heap.size+2) 0)=some (.bool false)/\w'.cell? (ad (w.heap.size+2) 1)=some (.slice none 0 0)/\w'.cell? (ad (w.heap.size+2) 2)=some (.slice (some (ad g 0)) (N x).dn cc)) (go_keep) (fail)
       go_wp2;refine bodyPost_ret (v:=.tuple #[.agg #[.bool false,.slice none 0 0,.slice (some (ad g 0)) (N x).dn cc],iv (e:Int),.bool true]) (by simp[results,Tryz.results110,go_sem,r0,r1,r2];exact HP.o) rfl ⟨(HZ.o _ _ _).drew,_,_,_,_,_,_,_,_,_,rfl,.inr ⟨rfl,_,_,HR.o,rfl,hen,HNE.o _ _ _⟩⟩
end Go.Proofs.YtacpbofiipdodaaGreat
