import Derived.Test.YtpaomghibppgkaaGreatNv4
import Derived.Test.YtpaomghibppgkaaGreatNv1
import Derived.Deep.RegionHeld3
import Derived.Deep.CutBlock
set_option linter.unusedVariables false
set_option maxRecDepth 100000
namespace Go.Proofs.YtpaomghibppgkaaGreat
open Go.RowKit Go.Deep

theorem Tryz.info116 : (Tryz.prog.info? 116).map (fun i=>(i.zero,i.size,i.bytes))=some (some (.agg #[.bool false,.slice none 0 0,.slice none 0 0]),3,56):=by kernel_rfl

theorem nest_grow {K:Option Addr->Nat->Nat->(Nat->ByteArray)->Prop} {d B:Nat} {w4 W2 w5:World} {vk v' : Value} {S:Nat->Prop} {t:Ro d} {v:Value} (h:NestAt K S w4 d t v) (hS:∀b,S b->b<w4.heap.size->B<=b/\vk.ownBlock≠some b) (hb:Below w4.heap.size w4 W2) (hg:W2.grownBy w5 vk.ownBlock) (hat:v'.ownBlock=vk.ownBlock\/v'.ownBlock=some W2.heap.size) :
  NestAt K (fun b=>B<=b/\v'.ownBlock≠some b) w5 d t v:=by
 have hz1:=hb.size
 have hz2:=hg.size
 refine h.mono (fun _ _ _ _ h=>h) (fun b hs hlt=>⟨(hS b hs hlt).1,?own⟩) (by omega) (fun b j hs hlt=>?cel)
 case own=>
  rcases hat with e|e
  ·rw [e];exact (hS b hs hlt).2
  ·rw [e]
   intro e2
   injection e2 with e2
   omega
 case cel=>
  have q:w5.cell? ⟨b,j,none⟩=W2.cell? ⟨b,j,none⟩:=World.cell?_of_block (hg.block b (by omega) (fun e=>(hS b hs hlt).2 e.symm))
  rw [q]
  exact hb.cell (p:=⟨b,j,none⟩) hlt

structure NsSt (w wr:World) (K:Option Addr->Nat->Nat->(Nat->ByteArray)->Prop) (d k:Nat) (ts:List (Ro d)) (x:Tn) (ka da:Option Addr) (kc dc:Nat) (ck:Option Addr) (cc:Nat) (xs:List Value):Prop where
 res:Bx wr w.heap.size 116 #[.bool false,.slice none 0 0,.slice none 0 0]
 nod:Bx wr (w.heap.size+1) 210 #[.bool x.lf,.slice ka x.kn kc,.slice da x.dn dc,.int .i64 x.ct]
 out:Bx wr (w.heap.size+2) 116 #[.bool false,.slice none 0 0,.slice ck k cc]
 own:wr.ownsRow (w.heap.size+3) 116 3 (.slice ck k cc) k xs
 kids:KidL (fun t v=>NestAt K (fun b=>w.heap.size+3<=b/\(Value.slice ck k cc).ownBlock≠some b) wr d t v) ts xs
 bel:Below w.heap.size w wr
 len:ts.length=k

theorem NsSt.below {w wr w1:World} {K:Option Addr->Nat->Nat->(Nat->ByteArray)->Prop} {d k:Nat} {ts:List (Ro d)} {x:Tn} {ka da:Option Addr} {kc dc:Nat} {ck:Option Addr} {cc:Nat} {xs:List Value} (h:NsSt w wr K d k ts x ka da kc dc ck cc xs) (hb:Below wr.heap.size wr w1):NsSt w w1 K d k ts x ka da kc dc ck cc xs:=
 ⟨h.res.below hb,h.nod.below hb,h.out.below hb,own_below h.own hb,h.kids.mono (fun t v q=>q.below hb),h.bel.trans (hb.mono h.bel.size),h.len⟩

theorem NsSt.grow {w wr w1 W2 w5:World} {K:Option Addr->Nat->Nat->(Nat->ByteArray)->Prop} {d k:Nat} {ts:List (Ro d)} {x:Tn} {ka da:Option Addr} {kc dc:Nat} {ck:Option Addr} {cc:Nat} {xs:List Value} (h:NsSt w wr K d k ts x ka da kc dc ck cc xs) (hb:Below wr.heap.size wr w1) {t:Ro d} {x0 x1 x2:Value} (ht:NestAt K (fun b=>wr.heap.size<=b) w1 d t (.agg #[x0,x1,x2])) (hb2:Below w1.heap.size w1 W2)
  (hg:W2.grownBy w5 (Value.slice ck k cc).ownBlock) {a' : Option Addr} {c' : Nat} (ho:w5.ownsRow (w.heap.size+3) 116 3 (.slice a' (k+1) c') (k+1) (xs++[x0,x1,x2])) (hat:(Value.slice a' (k+1) c').ownBlock=(Value.slice ck k cc).ownBlock\/(Value.slice a' (k+1) c').ownBlock=some W2.heap.size) :
  NsSt w (w5.setCell ⟨w.heap.size+2,2,none⟩ (.slice a' (k+1) c')) K d (k+1) (ts++[t]) x ka da kc dc a' c' (xs++[x0,x1,x2]):=by
 have h1:=h.below hb
 have h2:=h1.below hb2
 have hz:=h.bel.size
 have hz1:=hb.size
 have hz2:=hb2.size
 have hz3:=hg.size
 have hlt:=own_lt h.own
 have hl3:=h.out.lt
 have hne:∀b,b<w.heap.size+3->(Value.slice ck k cc).ownBlock≠some b:=fun b hb e=>by have:=hlt b e;omega
 have hne' : ∀g,(Value.slice a' (k+1) c').ownBlock=some g->w.heap.size+2≠g:=fun g e=>by have:=own_lt ho g e;omega
 refine ⟨(h2.res.grown hg (hne _ (by omega))).other (by simp) _,(h2.nod.grown hg (hne _ (by omega))).other (by simp) _,(h2.out.grown hg (hne _ (by omega))).set 2 _,?_,?_,?_,by rw [List.length_append,h.len];rfl⟩
 ·refine ⟨ho.1,?_⟩
  rcases ho.2 with ⟨q1,q2⟩|⟨g,cap,cur,q1,q2,q3,q4⟩
  ·exact Or.inl ⟨q1,q2⟩
  ·refine Or.inr ⟨g,cap,cur,q1,q2,?_,q4⟩
   rw [Below.heap_setCell _ _ _ _ (show g≠w.heap.size+2 from by omega)]
   exact q3
 ·have key:∀(S:Nat->Prop) (t:Ro d) (v:Value),NestAt K S w1 d t v->(∀b,S b->b<w1.heap.size->w.heap.size+3<=b/\(Value.slice ck k cc).ownBlock≠some b)->NestAt K (fun b=>w.heap.size+3<=b/\(Value.slice a' (k+1) c').ownBlock≠some b) (w5.setCell ⟨w.heap.size+2,2,none⟩ (.slice a' (k+1) c')) d t v:=by
   intro S t v q hS
   have q1:=nest_grow (B:=w.heap.size+3) (v':=.slice a' (k+1) c') q hS hb2 hg hat
   refine q1.mono (fun _ _ _ _ h=>h) (fun b hs _=>hs) (by simp [World.setCell]) (fun b j hs _=>?_)
   exact World.cell?_of_block (Below.heap_setCell _ _ _ _ (show b≠w.heap.size+2 by omega))
  refine KidL.app (key _ _ _ ht (fun b hs hl=>⟨by omega,fun e=>by have:=hlt b e;omega⟩)) (h1.kids.mono (fun t v q=>key _ _ _ q (fun b hs _=>hs)))
 ·exact (((h1.bel.trans (hb2.mono (by omega))).grown hg (by omega) (fun g e=>by have:=hlt g e;omega))).setCell (by simp) _

set_option maxHeartbeats 4000000 in
theorem nest_any (K:Option Addr->Nat->Nat->(Nat->ByteArray)->Prop) (b o n c:Nat) (N:Nat->Tn) (KA DA:Nat->Option Addr) (KC DC:Nat->Nat) (hK:∀i,i<n->K (KA i) (N i).kn (KC i) (gt (ksL (N i)))) (hn:n<=5000) (hN:∀i,i<n->TnFit (N i)):∀(d:Nat) (dep:Int),dep=21-(d:Int)->0<=dep->∀(w:World) (x:Nat) (xI:Int),xI=(x:Int)->x<=n->NsAt w b o n N KA DA KC DC->
  Calls Tryz.prog 87 #[.slice (some ⟨b,o,none⟩) n c,.int .i64 xI,.int .i64 dep] w (RetNest (fun w S t v=>NestAt K S w d t v) w (nestR N n d x) n):=by
 intro d
 induction d with
 | zero=>
  intro dep hd hd0 w x xI hx hxn hNs
  have e21:dep=21:=by omega
  subst e21
  have HX:Hid (xI=(x:Int)/\x<=n):=⟨hx,hxn⟩
  have h0:decide (xI<0)=false:=decide_eq_false (by omega)
  clear hNs hK hN hd
  have hx0:¬ xI<0:=by omega
  clear hx
  by_cases hge:(n:Int)<=xI
  ·have hge' : decide ((n:Int)<=xI)=true:=decide_eq_true hge
   go_enter Tryz.func87,Tryz.ntmps87
   go_wp2
   refine bodyPost_ret (v:=.tuple #[.agg #[.bool false,.slice none 0 0,.slice none 0 0],.int .i64 xI,.bool false]) (by simp [results,Tryz.results87,go_sem]) rfl ⟨?_,_,_,_,_,_,_,_,_,_,rfl,.inl ⟨rfl,rfl⟩⟩
   exact below_alloc _ _
  ·have hge' : decide ((n:Int)<=xI)=false:=decide_eq_false hge
   go_enter Tryz.func87,Tryz.ntmps87
   go_wp2
   refine bodyPost_ret (v:=.tuple #[.agg #[.bool false,.slice none 0 0,.slice none 0 0],.int .i64 xI,.bool false]) (by simp [results,Tryz.results87,go_sem]) rfl ⟨?_,_,_,_,_,_,_,_,_,_,rfl,.inl ⟨rfl,rfl⟩⟩
   exact below_alloc _ _
 | succ d ih=>
  intro dep hd hd0 w x xI hx hxn hNs
  have HX:Hid (xI=(x:Int)):=hx
  have HNS:Hid (NsAt w b o n N KA DA KC DC):=hNs
  have HKK:Hid (∀i,i<n->K (KA i) (N i).kn (KC i) (gt (ksL (N i)))):=hK
  have HIH:Hid (∀(w:World) (y:Nat) (yI:Int),yI=(y:Int)->y<=n->NsAt w b o n N KA DA KC DC->
   Calls Tryz.prog 87 #[.slice (some ⟨b,o,none⟩) n c,.int .i64 yI,.int .i64 (dep+1)] w (RetNest (fun w S t v=>NestAt K S w d t v) w (nestR N n d y) n)):=fun w y yI hy hyn hNs=>ih (dep+1) (by omega) (by omega) w y yI hy hyn hNs
  have hx0:¬ xI<0:=by omega
  have h0:decide (xI<0)=false:=decide_eq_false hx0
  have hd20:¬ 20<dep:=by omega
  have hd20' : decide (20<dep)=false:=decide_eq_false hd20
  clear ih hK hNs hd
  by_cases hlt:¬ x<n
  ·have hge:(n:Int)<=xI:=by omega
   have hge' : decide ((n:Int)<=xI)=true:=decide_eq_true hge
   have HR:Hid (nestR N n (d+1) x=none):=by
    show nestR N n (d+1) x=none
    unfold nestR
    rw [if_neg hlt]
   clear hx hN
   go_enter Tryz.func87,Tryz.ntmps87
   go_wp2
   refine bodyPost_ret (v:=.tuple #[.agg #[.bool false,.slice none 0 0,.slice none 0 0],.int .i64 xI,.bool false]) (by simp [results,Tryz.results87,go_sem]) rfl ⟨below_alloc _ _,_,_,_,_,_,_,_,_,_,rfl,.inl ⟨rfl,HR.out⟩⟩
  ·have hlt:x<n:=by omega
   have hge:¬ (n:Int)<=xI:=by omega
   have hge' : decide ((n:Int)<=xI)=false:=decide_eq_false hge
   obtain ⟨c0,c1,c2,c3,c5⟩:=HNS.out x hlt
   have hb:b<w.heap.size:=World.block_lt_of_cell? _ _ c0
   have HFit:Hid (TnFit (N x)):=hN x hlt
   clear hx hN
   go_enter Tryz.func87,Tryz.ntmps87
   have hx:=HX.out
   subst hx
   clear HX hge hge' h0 hx0
   have hge:¬ (n:Int)<=(x:Int):=by omega
   have hge' : decide ((n:Int)<=(x:Int))=false:=decide_eq_false hge
   cases hlf:(N x).lf with
   | true=>
    rw [hlf] at c0
    go_upto_region 7 with fail
    have S1:Hid (Bx (((w.alloc (.cells #[.bool false,.slice none 0 0,.slice none 0 0] 116)).alloc (.cells #[.bool true,.slice (KA x) (N x).kn (KC x),.slice (DA x) (N x).dn (DC x),.int .i64 (N x).ct] 210)).alloc (.cells #[.bool true,.slice (KA x) (N x).kn (KC x),.slice none 0 0] 116)) w.heap.size 116 #[.bool false,.slice none 0 0,.slice none 0 0]/\
      Bx (((w.alloc (.cells #[.bool false,.slice none 0 0,.slice none 0 0] 116)).alloc (.cells #[.bool true,.slice (KA x) (N x).kn (KC x),.slice (DA x) (N x).dn (DC x),.int .i64 (N x).ct] 210)).alloc (.cells #[.bool true,.slice (KA x) (N x).kn (KC x),.slice none 0 0] 116)) (w.heap.size+1) 210 #[.bool true,.slice (KA x) (N x).kn (KC x),.slice (DA x) (N x).dn (DC x),.int .i64 (N x).ct]/\
      Bx (((w.alloc (.cells #[.bool false,.slice none 0 0,.slice none 0 0] 116)).alloc (.cells #[.bool true,.slice (KA x) (N x).kn (KC x),.slice (DA x) (N x).dn (DC x),.int .i64 (N x).ct] 210)).alloc (.cells #[.bool true,.slice (KA x) (N x).kn (KC x),.slice none 0 0] 116)) (w.heap.size+2) 116 #[.bool true,.slice (KA x) (N x).kn (KC x),.slice none 0 0]/\
      Below w.heap.size w (((w.alloc (.cells #[.bool false,.slice none 0 0,.slice none 0 0] 116)).alloc (.cells #[.bool true,.slice (KA x) (N x).kn (KC x),.slice (DA x) (N x).dn (DC x),.int .i64 (N x).ct] 210)).alloc (.cells #[.bool true,.slice (KA x) (N x).kn (KC x),.slice none 0 0] 116))):=by
     refine ⟨((Bx.new _ _ _).alloc _).alloc _,?_,?_,((below_alloc _ _).alloc (by simp) _).alloc (by simp;omega) _⟩
     ·have q:=(Bx.new (w.alloc (.cells #[.bool false,.slice none 0 0,.slice none 0 0] 116)) #[.bool true,.slice (KA x) (N x).kn (KC x),.slice (DA x) (N x).dn (DC x),.int .i64 (N x).ct] 210).alloc (.cells #[.bool true,.slice (KA x) (N x).kn (KC x),.slice none 0 0] 116)
      simpa using q
     ·have q:=Bx.new ((w.alloc (.cells #[.bool false,.slice none 0 0,.slice none 0 0] 116)).alloc (.cells #[.bool true,.slice (KA x) (N x).kn (KC x),.slice (DA x) (N x).dn (DC x),.int .i64 (N x).ct] 210)) #[.bool true,.slice (KA x) (N x).kn (KC x),.slice none 0 0] 116
      simpa using q
    clear c0 c1 c2 c3 c5
    generalize (((w.alloc (.cells #[.bool false,.slice none 0 0,.slice none 0 0] 116)).alloc (.cells #[.bool true,.slice (KA x) (N x).kn (KC x),.slice (DA x) (N x).dn (DC x),.int .i64 (N x).ct] 210)).alloc (.cells #[.bool true,.slice (KA x) (N x).kn (KC x),.slice none 0 0] 116))=W at S1 ⊢
    obtain ⟨s0,s1,s2,s3⟩:=S1.out
    have y2:=s1.cell 2
    have z0:=s2.cell 0
    have z1:=s2.cell 1
    have z2:=s2.cell 2
    have f0:=s0.frozen 0
    have f1:=s0.frozen 1
    have f2:=s0.frozen 2
    have r0:=s0.cell 0
    have r1:=s0.cell 1
    have r2:=s0.cell 2
    simp at y2 z0 z1 z2 r0 r1 r2
    have hl1:=s0.lt
    have hl2:=s1.lt
    have hl3:=s2.lt
    have hdn:(N x).dn<=1048576:=HFit.out.2
    have HZ:Hid (∀v0 v1 v2,Below w.heap.size w (((W.setCell ⟨w.heap.size,0,none⟩ v0).setCell ⟨w.heap.size,1,none⟩ v1).setCell ⟨w.heap.size,2,none⟩ v2)):=fun v0 v1 v2=>((s3.setCell (Nat.le_refl _) _).setCell (Nat.le_refl _) _).setCell (Nat.le_refl _) _
    clear s0 s1 s2 s3 S1
    have HRR:Hid (nestR N n (d+1) x=if (N x).dn=0 then some (.inl (ksL (N x)),x+1) else none):=by
     show nestR N n (d+1) x=_
     conv=>lhs;unfold nestR
     rw [if_pos hlt,if_pos hlf]
    have HKx:Hid (K (KA x) (N x).kn (KC x) (gt (ksL (N x)))):=HKK.out x hlt
    have hwr:IntKind.i64.wrap ((x:Int)+1)=(x:Int)+1:=by rw [IntKind.wrap_i64];omega
    by_cases hd0:(N x).dn=0
    ·have hq:(((N x).dn:Int) == 0)=true:=by rw [hd0];rfl
     have HR:Hid (nestR N n (d+1) x=some (.inl (ksL (N x)),x+1)):=by
      have:=HRR.out
      rw [if_pos hd0] at this
      exact this
     clear HRR
     have HD:Hid ((N x).dn=0):=hd0
     clear hd0
     go_region_held3 (fun w'=>w'.cell? ⟨w.heap.size+1,2,none⟩=some (.slice (DA x) (N x).dn (DC x))/\w'.cell? ⟨w.heap.size+2,0,none⟩=some (.bool true)/\w'.cell? ⟨w.heap.size+2,1,none⟩=some (.slice (KA x) (N x).kn (KC x))/\w'.cell? ⟨w.heap.size+2,2,none⟩=some (.slice none 0 0)) (go_keep) (fail)
     go_wp2
     refine bodyPost_ret (v:=.tuple #[.agg #[.bool true,.slice (KA x) (N x).kn (KC x),.slice none 0 0],.int .i64 ((x:Int)+1),.bool true]) (by simp [results,Tryz.results87,go_sem,r0,r1,r2]) rfl ⟨(HZ.out _ _ _).drew,_,_,_,_,_,_,_,_,_,rfl,.inr ⟨rfl,_,_,HR.out,by simp,by omega,?_⟩⟩
     refine ⟨KA x,KC x,none,0,by rw [ksL_length],?_⟩
     rw [ksL_length]
     exact HKx.out
    ·have hq:(((N x).dn:Int) == 0)=false:=by simp;omega
     have HR:Hid (nestR N n (d+1) x=none):=by
      have:=HRR.out
      rw [if_neg hd0] at this
      exact this
     clear HRR hd0
     go_region_held3 (fun w'=>w'.cell? ⟨w.heap.size+1,2,none⟩=some (.slice (DA x) (N x).dn (DC x))/\w'.cell? ⟨w.heap.size+2,0,none⟩=some (.bool true)/\w'.cell? ⟨w.heap.size+2,1,none⟩=some (.slice (KA x) (N x).kn (KC x))/\w'.cell? ⟨w.heap.size+2,2,none⟩=some (.slice none 0 0)) (go_keep) (fail)
     go_wp2
     refine bodyPost_ret (v:=.tuple #[.agg #[.bool true,.slice (KA x) (N x).kn (KC x),.slice none 0 0],.int .i64 ((x:Int)+1),.bool false]) (by simp [results,Tryz.results87,go_sem,r0,r1,r2]) rfl ⟨(HZ.out _ _ _).drew,_,_,_,_,_,_,_,_,_,rfl,.inl ⟨rfl,HR.out⟩⟩
   | false=>
    rw [hlf] at c0
    have HRR:Hid (nestR N n (d+1) x=if (N x).dn=0 then none else (match kidsF (nestR N n d) (N x).kd (x+1) (N x).dn with
      | some (ts,e)=>some (.inr ts,e)
      | none=>none)):=by
     show nestR N n (d+1) x=_
     conv=>lhs;unfold nestR
     rw [if_pos hlt,if_neg (by rw [hlf];simp)]
     rfl
    go_upto_region 9 with fail
    have S1:Hid (NsSt w (((w.alloc (.cells #[.bool false,.slice none 0 0,.slice none 0 0] 116)).alloc (.cells #[.bool false,.slice (KA x) (N x).kn (KC x),.slice (DA x) (N x).dn (DC x),.int .i64 (N x).ct] 210)).alloc (.cells #[.bool false,.slice none 0 0,.slice none 0 0] 116)) K d 0 [] ⟨false,(N x).kn,(N x).ks,(N x).dn,(N x).kd,(N x).ct⟩ (KA x) (DA x) (KC x) (DC x) none 0 []):=by
     refine ⟨((Bx.new _ _ _).alloc _).alloc _,?_,?_,World.ownsRow_nil _ _ _ _,trivial,((below_alloc _ _).alloc (by simp) _).alloc (by simp;omega) _,rfl⟩
     ·have q:=(Bx.new (w.alloc (.cells #[.bool false,.slice none 0 0,.slice none 0 0] 116)) #[.bool false,.slice (KA x) (N x).kn (KC x),.slice (DA x) (N x).dn (DC x),.int .i64 (N x).ct] 210).alloc (.cells #[.bool false,.slice none 0 0,.slice none 0 0] 116)
      simpa using q
     ·have q:=Bx.new ((w.alloc (.cells #[.bool false,.slice none 0 0,.slice none 0 0] 116)).alloc (.cells #[.bool false,.slice (KA x) (N x).kn (KC x),.slice (DA x) (N x).dn (DC x),.int .i64 (N x).ct] 210)) #[.bool false,.slice none 0 0,.slice none 0 0] 116
      simpa using q
    clear c0 c1 c2 c3
    have HC5:Hid (Rd .i64 w (DA x) (N x).dn (N x).kd):=c5
    clear c5
    generalize (((w.alloc (.cells #[.bool false,.slice none 0 0,.slice none 0 0] 116)).alloc (.cells #[.bool false,.slice (KA x) (N x).kn (KC x),.slice (DA x) (N x).dn (DC x),.int .i64 (N x).ct] 210)).alloc (.cells #[.bool false,.slice none 0 0,.slice none 0 0] 116))=W at S1 ⊢
    go_wp2
    go_loopw [11,12] (fun q i wr=>∃(k e:Nat) (ts:List (Ro d)) (ck:Option Addr) (cc:Nat) (xs:List Value),k<=(N x).dn/\i=.int .i64 k/\q=.int .i64 e/\e<=n/\kidsF (nestR N n d) (N x).kd (x+1) k=some (ts,e)/\NsSt w wr K d k ts ⟨false,(N x).kn,(N x).ks,(N x).dn,(N x).kd,(N x).ct⟩ (KA x) (DA x) (KC x) (DC x) ck cc xs) (fun _ i _=>(N x).dn-(intOf i).toNat)
    case atStart=>exact ⟨0,x+1,[],none,0,[],Nat.zero_le _,rfl,by simp,by omega,rfl,S1.out⟩
    case round=>
     obtain ⟨k,e,ts,ck,cc,xs,hk,rfl,rfl,hen,hkf,hst⟩:=hrel
     clear S1
     have HST:Hid (NsSt w wr K d k ts ⟨false,(N x).kn,(N x).ks,(N x).dn,(N x).kd,(N x).ct⟩ (KA x) (DA x) (KC x) (DC x) ck cc xs):=hst
     have HKF:Hid (kidsF (nestR N n d) (N x).kd (x+1) k=some (ts,e)):=hkf
     clear hst hkf
     have y2:=HST.out.nod.cell 2
     have z0:=HST.out.out.cell 0
     have z1:=HST.out.out.cell 1
     have z2:=HST.out.out.cell 2
     have f0:=HST.out.res.frozen 0
     have f1:=HST.out.res.frozen 1
     have f2:=HST.out.res.frozen 2
     have r0:=HST.out.res.cell 0
     have r1:=HST.out.res.cell 1
     have r2:=HST.out.res.cell 2
     simp at y2 z0 z1 z2 r0 r1 r2
     have hl1:=HST.out.res.lt
     have hl2:=HST.out.nod.lt
     have hl3:=HST.out.out.lt
     have HZ:Hid (∀v0 v1 v2,Below w.heap.size w (((wr.setCell ⟨w.heap.size,0,none⟩ v0).setCell ⟨w.heap.size,1,none⟩ v1).setCell ⟨w.heap.size,2,none⟩ v2)):=fun v0 v1 v2=>((HST.out.bel.setCell (Nat.le_refl _) _).setCell (Nat.le_refl _) _).setCell (Nat.le_refl _) _
     have hdn:(N x).dn<=1048576:=HFit.out.2
     by_cases hkd:k<(N x).dn
     ·have hRd:=HC5.out.below HST.out.bel
      rcases hRd with h0|⟨bd,od,hDA,hcd⟩
      ·omega
      have ck0:=hcd k hkd
      have hk0:(0:Int)<=(k:Int):=by omega
      have hkn:(k:Int)<((N x).dn:Int):=by omega
      have HDA:Hid (DA x=some ⟨bd,od,none⟩):=hDA
      rw [hDA] at y2
      clear hcd hDA
      by_cases hke:(N x).kd k=(e:Int)
      ·rw [hke] at ck0
       have HKE:Hid ((N x).kd k=(e:Int)):=hke
       clear hke
       go_wp2_with fail
       refine (HIH.out _ e _ rfl hen (HNS.out.below HST.out.bel)).mono ?_
       rintro e1 w0 ⟨hb1,lf,ka,kn,kc,ca,cn,cc1,y,ok,rfl,hr⟩
       have HB0:Hid (Below wr.heap.size wr w0):=hb1
       have HR1:Hid (ok=false/\nestR N n d e=none\/ok=true/\∃t y',nestR N n d e=some (t,y')/\y=(y' : Int)/\y'<=n/\NestAt K (fun b=>wr.heap.size<=b) w0 d t (.agg #[.bool lf,.slice ka kn kc,.slice ca cn cc1])):=hr
       clear hb1 hr z0 z1 z2 f0 f1 f2 r0 r1 r2 y2 ck0 HZ
       go_upto_region 15 with fail
       have HS1:Hid (NsSt w (w0.alloc (.cells #[.bool lf,.slice ka kn kc,.slice ca cn cc1] 116)) K d k ts ⟨false,(N x).kn,(N x).ks,(N x).dn,(N x).kd,(N x).ct⟩ (KA x) (DA x) (KC x) (DC x) ck cc xs/\Bx (w0.alloc (.cells #[.bool lf,.slice ka kn kc,.slice ca cn cc1] 116)) w0.heap.size 116 #[.bool lf,.slice ka kn kc,.slice ca cn cc1]/\Below wr.heap.size wr (w0.alloc (.cells #[.bool lf,.slice ka kn kc,.slice ca cn cc1] 116))/\
         (∀t v,NestAt K (fun b=>wr.heap.size<=b) w0 d t v->NestAt K (fun b=>wr.heap.size<=b) (w0.alloc (.cells #[.bool lf,.slice ka kn kc,.slice ca cn cc1] 116)) d t v)):=
        ⟨(HST.out.below HB0.out).below (below_alloc _ _),Bx.new _ _ _,HB0.out.trans ((below_alloc _ _).mono HB0.out.size),fun t v q=>q.below (below_alloc _ _)⟩
       generalize (w0.alloc (.cells #[.bool lf,.slice ka kn kc,.slice ca cn cc1] 116))=w1 at HS1 ⊢
       have z0:=HS1.out.1.out.cell 0
       have z1:=HS1.out.1.out.cell 1
       have z2:=HS1.out.1.out.cell 2
       have f0:=HS1.out.1.res.frozen 0
       have f1:=HS1.out.1.res.frozen 1
       have f2:=HS1.out.1.res.frozen 2
       have r0:=HS1.out.1.res.cell 0
       have r1:=HS1.out.1.res.cell 1
       have r2:=HS1.out.1.res.cell 2
       have k0:=HS1.out.2.1.cell 0
       have k1:=HS1.out.2.1.cell 1
       have k2:=HS1.out.2.1.cell 2
       simp at z0 z1 z2 r0 r1 r2 k0 k1 k2
       have hw1:=HS1.out.1.out.lt
       have hw2:=HS1.out.2.1.lt
       cases ok with
       | false=>
        have HR:Hid (nestR N n (d+1) x=none):=by
         have hf:nestR N n d e=none:=by
          rcases HR1.out with ⟨_,h⟩|⟨h,_⟩
          ·exact h
          ·cases h
         have q:kidsF (nestR N n d) (N x).kd (x+1) (k+1)=none:=by
          unfold kidsF
          rw [HKF.out]
          simp only [if_pos HKE.out,hf]
         have q2:=kidsF_none q (m:=(N x).dn) (by omega)
         have:=HRR.out
         rw [q2,if_neg (by omega)] at this
         exact this
        have HZ:Hid (∀v0 v1 v2,Below w.heap.size w (((w1.setCell ⟨w.heap.size,0,none⟩ v0).setCell ⟨w.heap.size,1,none⟩ v1).setCell ⟨w.heap.size,2,none⟩ v2)):=fun v0 v1 v2=>((HS1.out.1.bel.setCell (Nat.le_refl _) _).setCell (Nat.le_refl _) _).setCell (Nat.le_refl _) _
        clear HRR
        go_wp2
        refine bodyPost_ret (v:=.tuple #[.agg #[.bool false,.slice none 0 0,.slice ck k cc],.int .i64 (e:Int),.bool false]) (by simp [results,Tryz.results87,go_sem,r0,r1,r2]) rfl ⟨(HZ.out _ _ _),_,_,_,_,_,_,_,_,_,rfl,.inl ⟨rfl,HR.out⟩⟩
       | true=>
        obtain ⟨i0,hi,hz0,hz1,hz2⟩:=info_parts Tryz.info116
        have HI:Hid (Tryz.prog.info? 116=some i0/\i0.zero=some (.agg #[.bool false,.slice none 0 0,.slice none 0 0])/\i0.size=3/\i0.bytes=56):=⟨hi,hz0,hz1,hz2⟩
        clear hi hz0 hz1 hz2
        have HO:Hid ((w1.alloc (.cells #[.bool lf,.slice ka kn kc,.slice ca cn cc1] 116)).ownsRow (w.heap.size+3) 116 3 (.slice ck k cc) k xs):=own_below HS1.out.1.own (below_alloc _ _)
        have HC:Hid (∀j u,[Value.bool lf,.slice ka kn kc,.slice ca cn cc1][j]?=some u->(w1.alloc (.cells #[.bool lf,.slice ka kn kc,.slice ca cn cc1] 116)).cell? ((⟨w1.heap.size,0,none⟩:Addr).add j)=some u):=by
         intro j u hj
         match j,hj with
         | 0,hj=>simp at hj;subst hj;simp [Addr.add]
         | 1,hj=>simp at hj;subst hj;simp [Addr.add]
         | 2,hj=>simp at hj;subst hj;simp [Addr.add]
        go_wp2_with (at_builtin;refine wpList_append_own_at _ rfl _ _ 114 rfl (w.heap.size+3) 116 i0 _ 3 56 Tryz.underlying114 HI.out.1 HI.out.2.1 HI.out.2.2.1 HI.out.2.2.2 rfl (by decide) (.slice ck k cc) k xs rfl HO.out ⟨w1.heap.size,0,none⟩ 1 1 [.bool lf,.slice ka kn kc,.slice ca cn cc1] rfl rfl HC.out (by intro u hu;simp at hu;rcases hu with rfl|rfl|rfl <;> rfl) (by unfold maxLen;omega) (by omega) (by simp;omega) ?_)
        intro v' w5 ho hg _ hat
        obtain ⟨a',c',rfl,_⟩:=own_form ho
        rcases HR1.out with ⟨h,_⟩|⟨_,t,y',hf,hy,hyn,hat2⟩
        ·cases h
        subst hy
        have hx5:=(((HS1.out.1.out.alloc (.cells #[.bool lf,.slice ka kn kc,.slice ca cn cc1] 116)).grown hg (fun e=>by have:=own_lt HS1.out.1.own _ e;omega)).cell 2)
        have hf5:=(((HS1.out.1.out.alloc (.cells #[.bool lf,.slice ka kn kc,.slice ca cn cc1] 116)).grown hg (fun e=>by have:=own_lt HS1.out.1.own _ e;omega)).frozen 2)
        have hz5:w.heap.size+2<w5.heap.size:=by have:=hg.size;simp at this;omega
        have HG:Hid (NsSt w (w5.setCell ⟨w.heap.size+2,2,none⟩ (.slice a' (k+1) c')) K d (k+1) (ts++[t]) ⟨false,(N x).kn,(N x).ks,(N x).dn,(N x).kd,(N x).ct⟩ (KA x) (DA x) (KC x) (DC x) a' c' (xs++[.bool lf,.slice ka kn kc,.slice ca cn cc1])):=
         HST.out.grow HS1.out.2.2.1 (HS1.out.2.2.2 _ _ hat2) (below_alloc _ _) hg ho (by simpa using hat)
        have HKF2:Hid (kidsF (nestR N n d) (N x).kd (x+1) (k+1)=some (ts++[t],y')):=by
         show kidsF (nestR N n d) (N x).kd (x+1) (k+1)=some (ts++[t],y')
         unfold kidsF
         rw [HKF.out]
         simp only [if_pos HKE.out,hf]
        simp at hx5
        clear HST HS1 HO HC HKF HR1 ho hg hat hat2 z0 z1 z2 f0 f1 f2 r0 r1 r2 k0 k1 k2
        go_wp2
        go_roundw
        case rel=>exact ⟨k+1,y',ts++[t],a',c',_,by omega,by go_num,rfl,hyn,HKF2.out,HG.out⟩
        case measure=>simp [intOf];omega
      ·have hne:(!((N x).kd k == (e:Int)))=true:=by simpa using hke
       have hne2:((N x).kd k != (e:Int))=true:=by simpa using hke
       have HR:Hid (nestR N n (d+1) x=none):=by
        have q:kidsF (nestR N n d) (N x).kd (x+1) (k+1)=none:=by
         unfold kidsF
         rw [HKF.out]
         simp only [if_neg hke]
        have q2:=kidsF_none q (m:=(N x).dn) (by omega)
        have:=HRR.out
        rw [q2,if_neg (by omega)] at this
        exact this
       clear HRR
       go_wp2
       refine bodyPost_ret (v:=.tuple #[.agg #[.bool false,.slice none 0 0,.slice ck k cc],.int .i64 (e:Int),.bool false]) (by simp [results,Tryz.results87,go_sem,r0,r1,r2]) rfl ⟨(HZ.out _ _ _),_,_,_,_,_,_,_,_,_,rfl,.inl ⟨rfl,HR.out⟩⟩
     ·have e1:k=(N x).dn:=by omega
      subst e1
      have hwn:¬ (0:Int)<0:=by omega
      by_cases hd0:(N x).dn=0
      ·have HP:Hid ((N x).dn=0):=hd0
       have hq:decide ((0:Int)<((N x).dn:Int))=false:=decide_eq_false (by omega)
       have HR:Hid (nestR N n (d+1) x=none):=by
        have:=HRR.out
        rw [if_pos hd0] at this
        exact this
       have hq2:¬ (0:Int)<((N x).dn:Int):=by omega
       clear HRR hd0 hkd hk
       go_upto_region 19 with fail
       go_region_held3 (fun w'=>w'.cell? ⟨w.heap.size+1,2,none⟩=some (.slice (DA x) (N x).dn (DC x))/\w'.cell? ⟨w.heap.size+2,0,none⟩=some (.bool false)/\w'.cell? ⟨w.heap.size+2,1,none⟩=some (.slice none 0 0)/\w'.cell? ⟨w.heap.size+2,2,none⟩=some (.slice ck (N x).dn cc)) (go_keep) (fail)
       go_wp2
       refine bodyPost_ret (v:=.tuple #[.agg #[.bool false,.slice none 0 0,.slice ck (N x).dn cc],.int .i64 (e:Int),.bool false]) (by simp [results,Tryz.results87,go_sem,r0,r1,r2];exact HP.out) rfl ⟨(HZ.out _ _ _).drew,_,_,_,_,_,_,_,_,_,rfl,.inl ⟨rfl,HR.out⟩⟩
      ·have HP:Hid (0<(N x).dn):=Nat.pos_of_ne_zero hd0
       have hq:decide ((0:Int)<((N x).dn:Int))=true:=decide_eq_true (by omega)
       have hq2:(0:Int)<((N x).dn:Int):=by omega
       have HR:Hid (nestR N n (d+1) x=some (.inr ts,e)):=by
        have:=HRR.out
        rw [if_neg hd0,HKF.out] at this
        exact this
       obtain ⟨a',c',ea,hfo⟩:=own_form HST.out.own
       obtain ⟨g,eg,hg1,hg2,hg3⟩:=hfo hd0
       injection ea with ea1 _ ea2
       subst ea1
       subst ea2
       subst eg
       have HNE:Hid (∀v0 v1 v2,NestAt K (fun b=>w.heap.size<=b) (((wr.setCell ⟨w.heap.size,0,none⟩ v0).setCell ⟨w.heap.size,1,none⟩ v1).setCell ⟨w.heap.size,2,none⟩ v2).drew (d+1) (.inr ts) (.agg #[.bool false,.slice none 0 0,.slice (some ⟨g,0,none⟩) (N x).dn cc])):=by
        intro v0 v1 v2
        have q:NestAt K (fun b=>w.heap.size+3<=b) wr (d+1) (.inr ts) (.agg #[.bool false,.slice none 0 0,.slice (some ⟨g,0,none⟩) (N x).dn cc]):=⟨none,0,g,cc,xs,by rw [HST.out.len],⟨hg1,by rw [HST.out.len];exact own_cap HST.out.own⟩,hg2,by rw [HST.out.len];omega,hg3,HST.out.kids.mono (fun t v q=>q.mono (fun _ _ _ _ h=>h) (fun b hs _=>hs.1) (Nat.le_refl _) (fun _ _ _ _=>rfl))⟩
        refine q.mono (fun _ _ _ _ h=>h) (fun b hs _=>by omega) (by simp [World.setCell,World.drew]) (fun b j hs _=>?_)
        refine World.cell?_of_block ?_
        show (((wr.setCell ⟨w.heap.size,0,none⟩ v0).setCell ⟨w.heap.size,1,none⟩ v1).setCell ⟨w.heap.size,2,none⟩ v2).heap[b]?=_
        rw [Below.heap_setCell _ _ _ _ (show b≠w.heap.size by omega),Below.heap_setCell _ _ _ _ (show b≠w.heap.size by omega),Below.heap_setCell _ _ _ _ (show b≠w.heap.size by omega)]
       clear HRR hd0 hkd hk hg3 HST hfo hg1
       go_upto_region 19 with fail
       go_region_held3 (fun w'=>w'.cell? ⟨w.heap.size+1,2,none⟩=some (.slice (DA x) (N x).dn (DC x))/\w'.cell? ⟨w.heap.size+2,0,none⟩=some (.bool false)/\w'.cell? ⟨w.heap.size+2,1,none⟩=some (.slice none 0 0)/\w'.cell? ⟨w.heap.size+2,2,none⟩=some (.slice (some ⟨g,0,none⟩) (N x).dn cc)) (go_keep) (fail)
       go_wp2
       refine bodyPost_ret (v:=.tuple #[.agg #[.bool false,.slice none 0 0,.slice (some ⟨g,0,none⟩) (N x).dn cc],.int .i64 (e:Int),.bool true]) (by simp [results,Tryz.results87,go_sem,r0,r1,r2];exact HP.out) rfl ⟨(HZ.out _ _ _).drew,_,_,_,_,_,_,_,_,_,rfl,.inr ⟨rfl,_,_,HR.out,rfl,hen,HNE.out _ _ _⟩⟩
end Go.Proofs.YtpaomghibppgkaaGreat
