import Derived.Test.YtpaomghibppgkaaGreatNv16
import Derived.Test.YtpaomghibppgkaaGreatNv1
import Derived.Deep.CutBlock
import Derived.Deep.RegionHeld3
import Derived.Test.YtpaomghibppgkaaGreatNv18
set_option linter.unusedVariables false
set_option maxRecDepth 100000
namespace Go.Proofs.YtpaomghibppgkaaGreat
open Go.RowKit Go.Deep

theorem below_undrew {w w1:World} (hb:Below w.drew.heap.size w.drew w1):Below w.heap.size w w1:=(Below.refl _ _).drew.trans hb

theorem step_t1 {ops:Array Oper} {o:Oper} {a:Act} {w:World} {K:Act->World->Prop} {Q:Exit->Act->World->Prop} {E:Prop} (hgd:o.guard=none) (k:Nat) (i:Nat) (tys:Array TypeId)
  (ho:o.op=.call { callee:=.value (.func k),args:=#[.tmp i],argTypes:=tys }) (u:Value) (hx:a.tmps[i]?.getD undef=u) (heg:∀args w,(callFunc k args).run Tryz.prog w=.ok (.enter k args) w)
  (h:Calls Tryz.prog k #[u] w fun e w'=>∃r,e=.returned r/\K (a.put o.dst r) w') :
  if Region.wanted o (yielded ops a.tmps)=true then Oper.wp Tryz.prog o a w K Q else E:=by
 have hw:Region.wanted o (yielded ops a.tmps)=true:=by simp [Region.wanted,hgd]
 rw [if_pos hw]
 unfold Oper.wp
 simp [execOp,ho,resolve,invoke,hx,go_sem,heg]
 refine h.mono ?_
 rintro e w' ⟨u,rfl,hk⟩
 exact hk

theorem step_append_str {ops:Array Oper} {o:Oper} {a:Act} {w:World} {K:Act->World->Prop} {Q:Exit->Act->World->Prop} {E:Prop} (hgd:o.guard=none) (x y:Operand)
  (ho:o.op=.call { callee:=.builtin .append,args:=#[x,y],argTypes:=#[113,113] }) (B:Nat) (v:Value) (n:Nat) (xs:List Value) (hx:a.eval x=v) (hown:w.ownsRow B 9 1 v n xs) (ad:Addr) (s:ByteArray) (hy:a.eval y=.slice (some ad) 1 1) (hc:w.cell? (ad.add 0)=some (.string s)) (hn:n<=1048576) (hB:B<=w.heap.size)
  (h:∀v' w',w'.ownsRow B 9 1 v' (n+1) (xs++[.string s])->w.grownBy w' v.ownBlock->(v'.ownBlock=v.ownBlock\/v'.ownBlock=some w.heap.size)->K (a.put o.dst v') w') :
  if Region.wanted o (yielded ops a.tmps)=true then Oper.wp Tryz.prog o a w K Q else E:=by
 have hw:Region.wanted o (yielded ops a.tmps)=true:=by simp [Region.wanted,hgd]
 rw [if_pos hw]
 obtain ⟨i0,hi,hz0,hz1,hz2⟩:=info_parts Tryz.info9
 obtain ⟨v',w',hr,h2,h3,h4,h5⟩:=run_append_own_at (P:=Tryz.prog) w B 113 o.type 9 i0 _ 1 16 Tryz.underlying113 hi hz0 hz1 hz2 rfl (by decide) v n xs hown ad 1 1 [.string s] rfl (fun j u hj=>by
  match j,hj with
  | 0,hj=>
   simp at hj
   subst hj
   exact hc) (by intro u hu;simp at hu;subst hu;rfl) (by unfold maxLen;omega) (by omega) hB
 unfold Oper.wp execOp
 simp only [ho,resolve,invoke,builtin,Sem.run_bind,Sem.run_pure,Result.andThen_ok,List.map_toArray,List.map_cons,List.map_nil,hx,hy,hr]
 exact h v' w' h2 h3 h5

theorem kid_keys_le (d:Nat) (l:List (Ro d)) (k:Nat) (h:k<l.length):(keysR d l[k]).length<=(l.flatMap (keysR d)).length:=by
 have h1:=flat_take_le (keysR d) l (k+1)
 rw [flat_take (keysR d) l k h,List.length_append] at h1
 omega

theorem own_rdS {w:World} {B:Nat} {a:Option Addr} {n c:Nat} {L:List ByteArray} {S:Nat->Prop} (h:w.ownsRow B 9 1 (.slice a n c) n (strL L)) (hn:n=L.length) (hS:∀b,B<=b->S b):RdX S w a n (fun i=>.string (gt L i)):=by
 by_cases h0:n=0
 ·exact Or.inl h0
 ·obtain ⟨a',c',e,hf⟩:=own_form h
  obtain ⟨g,e2,h1,h2,h3⟩:=hf h0
  injection e with e _ _
  subst e
  exact Or.inr ⟨g,e2,hS g h1,h2,fun i hi=>h3 i _ (strL_get L i (by omega))⟩
theorem own_rdI {w:World} {B:Nat} {a:Option Addr} {n c:Nat} {L:List Int} {S:Nat->Prop} (h:w.ownsRow B 2 1 (.slice a n c) n (intL L)) (hn:n=L.length) (hS:∀b,B<=b->S b):RdX S w a n (fun i=>.int .i64 (gi L i)):=by
 by_cases h0:n=0
 ·exact Or.inl h0
 ·obtain ⟨a',c',e,hf⟩:=own_form h
  obtain ⟨g,e2,h1,h2,h3⟩:=hf h0
  injection e with e _ _
  subst e
  exact Or.inr ⟨g,e2,hS g h1,h2,fun i hi=>h3 i _ (intL_get L i (by omega))⟩

theorem SameN.refl (x:Tn):SameN x x:=⟨rfl,rfl,rfl,rfl,fun _ _=>rfl,fun _ _=>rfl⟩
theorem add0_eq {b i:Nat}:(Addr.add ⟨b,0,none⟩ i)=⟨b,i,none⟩:=by
 unfold Addr.add
 by_cases h:i=0
 ·subst h;simp
 ·simp [h]

def FlBox (w wx:World) (tbox:Array Value) (lf:Bool) (m:Nat) (s:Value):Prop:=
 ∃nb,s=.pointer (some ⟨nb,0,none⟩)/\w.heap.size<nb/\Bx wx w.heap.size 116 tbox/\Bx wx nb 210 #[.bool lf,.slice none 0 0,.slice none 0 0,.int .i64 (m:Int)]/\Below w.heap.size w wx

set_option maxHeartbeats 8000000 in
theorem flat_any:∀(d:Nat) (t:Ro d) (v:Value) (root:Bool) (h:Nat) (a:Int) (w:World),NA w d t v->nodesR d t<=5000->(keysR d t).length<=1099511627776->BalR d root t h->0<=a->a+(nodesR d t:Int)<=100000->Calls Tryz.prog 90 #[v,.int .i64 a] w (RetFlat w d t a):=by
 intro d
 induction d with
 | zero=>intro t;exact t.elim
 | succ d ih=>
  intro t v root h a w hv hnod hlen hbal ha0 ha1
  obtain ⟨lf,ka0,kn0,kc0,ca0,cn0,cc0,hform⟩:=NestAt.form hv
  have HKeys:Hid (∀W,Below w.heap.size w W->Calls Tryz.prog 51 #[.agg #[.bool lf,.slice ka0 kn0 kc0,.slice ca0 cn0 cc0]] W (RetStrs W (keysR (d+1) t))):=fun W hW=>by
   have q:=keys_any (d+1) t v W (NA.below hv hW) hnod hlen
   rw [hform] at q
   exact q
  subst hform
  obtain ⟨m,hm⟩:∃m,m=(keysR (d+1) t).length:=⟨_,rfl⟩
  have HK:Hid (∀W,Below w.heap.size w W->Calls Tryz.prog 51 #[.agg #[.bool lf,.slice ka0 kn0 kc0,.slice ca0 cn0 cc0]] W (fun e w'=>∃a1 c1,e=.returned (.slice a1 m c1)/\Below W.heap.size W w')):=fun W hW=>(HKeys.out W hW).mono (fun e w' hr=>by
   obtain ⟨a1,c1,e1,_,hb,_⟩:=hr
   exact ⟨a1,c1,by rw [hm];exact e1,hb⟩)
  clear HKeys
  have HM:Hid (m=(keysR (d+1) t).length):=hm
  have hm40:m<=1099511627776:=by rw [hm];exact hlen
  clear hm hlen
  have HV:Hid (NA w (d+1) t (.agg #[.bool lf,.slice ka0 kn0 kc0,.slice ca0 cn0 cc0])):=hv
  have HBal:Hid (BalR (d+1) root t h):=hbal
  have HNod:Hid (nodesR (d+1) t<=5000/\a+(nodesR (d+1) t:Int)<=100000):=⟨hnod,ha1⟩
  have HIH:Hid (∀(t:Ro d) (v:Value) (h:Nat) (a:Int) (w:World),NA w d t v->nodesR d t<=5000->(keysR d t).length<=1099511627776->BalR d false t h->0<=a->a+(nodesR d t:Int)<=100000->Calls Tryz.prog 90 #[v,.int .i64 a] w (RetFlat w d t a)):=fun t v h a w=>ih t v false h a w
  have ha2:a<=100000:=by omega
  clear hv hnod hbal ih ha1
  have HA1:Hid (∀w1:World,Below (w.alloc (.cells #[.bool lf,.slice ka0 kn0 kc0,.slice ca0 cn0 cc0] 116)).drew.heap.size (w.alloc (.cells #[.bool lf,.slice ka0 kn0 kc0,.slice ca0 cn0 cc0] 116)).drew w1->Bx w1 w.heap.size 116 #[.bool lf,.slice ka0 kn0 kc0,.slice ca0 cn0 cc0]/\Below w.heap.size w w1):=fun w1 hb=>⟨(Bx.new _ _ _).below (below_undrew hb),(below_alloc _ _).trans ((below_undrew hb).mono (by simp))⟩
  have HA2:Hid (∀w1:World,Below ((w.alloc (.cells #[.bool lf,.slice ka0 kn0 kc0,.slice ca0 cn0 cc0] 116)).alloc (.cells #[.bool false,.slice none 0 0,.slice none 0 0,.int .i64 0] 210)).drew.heap.size ((w.alloc (.cells #[.bool lf,.slice ka0 kn0 kc0,.slice ca0 cn0 cc0] 116)).alloc (.cells #[.bool false,.slice none 0 0,.slice none 0 0,.int .i64 0] 210)).drew w1->Bx w1 w.heap.size 116 #[.bool lf,.slice ka0 kn0 kc0,.slice ca0 cn0 cc0]/\Bx w1 (w.heap.size+1) 210 #[.bool false,.slice none 0 0,.slice none 0 0,.int .i64 0]/\Below w.heap.size w w1):=fun w1 hb=>by
   refine ⟨((Bx.new _ _ _).alloc _).below (below_undrew hb),?_,((below_alloc _ _).alloc (by simp) _).trans ((below_undrew hb).mono (by simp;omega))⟩
   have q:=(Bx.new (w.alloc (.cells #[.bool lf,.slice ka0 kn0 kc0,.slice ca0 cn0 cc0] 116)) #[.bool false,.slice none 0 0,.slice none 0 0,.int .i64 0] 210).below (below_undrew hb)
   simpa using q
  go_enter Tryz.func90,Tryz.ntmps90
  go_wp2
  go_cut [5] from 8 to 13 (fun s5 wx=>FlBox w wx #[.bool lf,.slice ka0 kn0 kc0,.slice ca0 cn0 cc0] lf m s5)
  case first=>
   go_region_held3 (fun w'=>w'.cell? ⟨w.heap.size,0,none⟩=some (.bool lf)/\w'.cell? ⟨w.heap.size,1,none⟩=some (.slice ka0 kn0 kc0)/\w'.cell? ⟨w.heap.size,2,none⟩=some (.slice ca0 cn0 cc0)) (go_keep)
    (first
    | (go_at_call 51;refine (HK.out (w.alloc (.cells #[.bool lf,.slice ka0 kn0 kc0,.slice ca0 cn0 cc0] 116)).drew (below_alloc _ _).drew).mono ?_;rintro e w1 ⟨a1,c1,rfl,hb1⟩;have y0:=(HA1.out w1 hb1).1.cell 0;have y1:=(HA1.out w1 hb1).1.cell 1;have y2:=(HA1.out w1 hb1).1.cell 2;simp at y0 y1 y2)
    | (go_at_call 51;refine (HK.out ((w.alloc (.cells #[.bool lf,.slice ka0 kn0 kc0,.slice ca0 cn0 cc0] 116)).alloc (.cells #[.bool false,.slice none 0 0,.slice none 0 0,.int .i64 0] 210)).drew ((below_alloc _ _).alloc (by simp) _).drew).mono ?_;rintro e w1 ⟨a1,c1,rfl,hb1⟩;have y0:=(HA2.out w1 hb1).1.cell 0;have y1:=(HA2.out w1 hb1).1.cell 1;have y2:=(HA2.out w1 hb1).1.cell 2;have r0:=(HA2.out w1 hb1).2.1.cell 0;have r1:=(HA2.out w1 hb1).2.1.cell 1;have r2:=(HA2.out w1 hb1).2.1.cell 2;have r3:=(HA2.out w1 hb1).2.1.cell 3;have rf0:=(HA2.out w1 hb1).2.1.frozen 0;have rf1:=(HA2.out w1 hb1).2.1.frozen 1;have rf2:=(HA2.out w1 hb1).2.1.frozen 2;have rf3:=(HA2.out w1 hb1).2.1.frozen 3;have rl:=(HA2.out w1 hb1).2.1.lt;simp at y0 y1 y2 r0 r1 r2 r3))
   ·go_wp2
    go_meet
    case rel=>exact ⟨_,rfl,(HA1.out w1 hb1).1.lt,(HA1.out w1 hb1).1.alloc _,Bx.new _ _ _,(HA1.out w1 hb1).2.alloc (HA1.out w1 hb1).2.size _⟩
   ·go_wp2
    go_meet
    case rel=>
     obtain ⟨q1,q2,q3⟩:=HA2.out w1 hb1
     exact ⟨_,rfl,by simp,(((q1.other (by simp) _).other (by simp) _).other (by simp) _).other (by simp) _,((((q2.set 0 _).set 1 _).set 2 _).set 3 _),(((q3.setCell (by simp) _).setCell (by simp) _).setCell (by simp) _).setCell (by simp) _⟩
  case rest=>
   obtain ⟨nb,rfl,hnb,htb,hnbx,hbel⟩:=hcut
   clear HA1 HA2 HK
   have HC:Hid (Bx wc w.heap.size 116 #[.bool lf,.slice ka0 kn0 kc0,.slice ca0 cn0 cc0]/\Bx wc nb 210 #[.bool lf,.slice none 0 0,.slice none 0 0,.int .i64 (m:Int)]/\Below w.heap.size w wc):=⟨htb,hnbx,hbel⟩
   have hz:=htb.lt
   have hzn:=hnbx.lt
   rcases t with t|l
   ·obtain ⟨ka1,kc1,ca1,cc1,e1,hk1⟩:=HV.out
    injection e1 with e1
    simp at e1
    obtain ⟨rfl,⟨rfl,rfl,rfl⟩,⟨rfl,rfl,rfl⟩⟩:=e1
    have HKs:Hid (RdS w ka0 t.length (gt t)):=hk1
    have hm2:m=t.length:=HM.out
    rw [<- hm2] at HKs htb HC ⊢
    have y0:=htb.cell 0
    have y1:=htb.cell 1
    have z0:=hnbx.cell 0
    have z1:=hnbx.cell 1
    have z2:=hnbx.cell 2
    have z3:=hnbx.cell 3
    have zf:=hnbx.frozen 1
    simp at y0 y1 z0 z1 z2 z3
    have HO:Hid ((wc.alloc (.cells #[] 9)).ownsRow wc.heap.size 9 1 (.slice (some ⟨wc.heap.size,0,none⟩) 0 0) 0 []):=own_empty wc 9 wc.heap.size 1 (Nat.le_refl _)
    clear htb hnbx hbel hm2 hk1 HV HIH
    go_wp2_with (at_builtin;refine wpList_append_strs rfl _ _ rfl wc.heap.size (.slice (some ⟨wc.heap.size,0,none⟩) 0 0) 0 [] rfl HO.out ka0 m kc0 t rfl HM.out (HKs.out.below (HC.out.2.2.trans ((below_alloc _ _).mono HC.out.2.2.size))) (by omega) (by simp) ?_)
    intro v' w5 ho hg hat
    have hown:∀g,(Value.slice (some ⟨wc.heap.size,0,none⟩) 0 0).ownBlock=some g->g=wc.heap.size:=fun g e=>by simpa [Value.ownBlock] using e.symm
    have hx5:=(HC.out.2.1.alloc (.cells #[] 9)).grown hg (fun e=>by have:=hown _ e;omega)
    have z0:=hx5.cell 0
    have z1:=hx5.cell 1
    have z2:=hx5.cell 2
    have z3:=hx5.cell 3
    have zf:=hx5.frozen 1
    have zl:=hx5.lt
    simp at z0 z1 z2 z3
    obtain ⟨a',c',rfl,_⟩:=own_form ho
    have H5:Hid (Below w.heap.size w w5/\RdX (fun b=>wc.heap.size<=b) w5 a' m (fun i=>.string (gt t i))/\Bx w5 nb 210 #[.bool true,.slice none 0 0,.slice none 0 0,.int .i64 (m:Int)]):=
     ⟨(HC.out.2.2.trans ((below_alloc _ _).mono HC.out.2.2.size)).grown hg (by simp;omega) (fun g e=>by have:=hown g e;omega),own_rdS ho HM.out (fun b hb=>hb),hx5⟩
    have HWT:Hid (w.heap.size<nb):=hnb
    clear ho hg hat hx5 y0 y1 HO hown HC
    go_wp2
    go_ret
    have hn1:nodesR (d+1) (.inl t)=1:=rfl
    refine ⟨some ⟨w5.heap.size,0,none⟩,1,fun _=>⟨true,t.length,gt t,0,fun _=>0,(t.length:Int)⟩,[.bool true,.slice a' m c',.slice none 0 0,.int .i64 (m:Int)],by rw [hn1];rfl,?_,?_,?_,?_⟩
    ·exact ((H5.out.1.setCell (by show w.heap.size<=nb;omega) _).alloc (by simp [World.setCell];have:=H5.out.1.size;omega) _)
    ·rw [hn1]
     refine ⟨rfl,Or.inr ⟨w5.heap.size,1,#[.bool true,.slice a' m c',.slice none 0 0,.int .i64 (m:Int)],rfl,H5.out.1.size,?_,Nat.le_refl _,by unfold maxLen;omega,rfl,rfl⟩⟩
     have q:=Bx.new (w5.setCell ⟨nb,1,none⟩ (.slice a' m c')) #[.bool true,.slice a' m c',.slice none 0 0,.int .i64 (m:Int)] 210
     rw [show (w5.setCell ⟨nb,1,none⟩ (.slice a' m c')).heap.size=w5.heap.size by simp [World.setCell]] at q
     exact q
    ·rw [hn1]
     refine FlAt.one ⟨rfl,by rw [<- show m=t.length from HM.out],a',c',none,0,by rw [<- show m=t.length from HM.out],rfl,?_,Or.inl rfl⟩
     have q:=H5.out.2.1
     rw [show m=t.length from HM.out] at q
     refine q.mono (by simp [World.setCell]) (fun b hs hlt=>⟨by show w.heap.size<=b;omega,?_⟩)
     rw [Below.heap_alloc _ _ _ (by simpa [World.setCell] using hlt),Below.heap_setCell _ _ _ _ (show b≠nb by omega)]
    ·exact ⟨rfl,rfl,fun j _=>rfl,rfl,rfl⟩
   ·obtain ⟨ka1,kc1,b,cc1,xs0,e1,_,hbl,hl0,hx,hk⟩:=HV.out
    injection e1 with e1
    simp at e1
    obtain ⟨rfl,⟨rfl,rfl,rfl⟩,⟨rfl,rfl,rfl⟩⟩:=e1
    have hl63:l.length<=5000:=by have:=kids_le d l;have:=HNod.out.1;omega
    have HKid:Hid (∀W:World,Below w.heap.size w W->∀k (h:k<l.length),∃lf ka kn kc ca cn cc,W.cell? ⟨b,k*3,none⟩=some (.bool lf)/\W.cell? ⟨b,k*3+1,none⟩=some (.slice ka kn kc)/\W.cell? ⟨b,k*3+2,none⟩=some (.slice ca cn cc)/\NA W d l[k] (.agg #[.bool lf,.slice ka kn kc,.slice ca cn cc])):=by
     intro W hW k h
     obtain ⟨lf,ka,kn,kc,ca,cn,cc,h0,h1,h2,h3⟩:=kid_at hx hk k h
     exact ⟨lf,ka,kn,kc,ca,cn,cc,(hW.cell (p:=⟨b,_,none⟩) hbl).trans h0,(hW.cell (p:=⟨b,_,none⟩) hbl).trans h1,(hW.cell (p:=⟨b,_,none⟩) hbl).trans h2,NA.below h3 hW⟩
    have HBk:Hid (∀k (h:k<l.length),∃h',BalR d false l[k] h'):=by
     obtain ⟨_,_,h',_,hall⟩:=HBal.out
     exact fun k hk=>⟨h',hall _ (List.getElem_mem hk)⟩
    have HML:Hid (m=(l.flatMap (keysR d)).length):=HM.out
    have HNs:Hid (1+(l.map (nodesR d)).sum<=5000/\a+((1+(l.map (nodesR d)).sum:Nat):Int)<=100000):=HNod.out
    clear hx hk HV HNod HM HBal
    obtain ⟨ln,hln⟩:∃ln,ln=l.length:=⟨_,rfl⟩
    rw [<- hln] at hl0 hl63 htb HC ⊢
    have HLn:Hid (ln=l.length):=hln
    clear hln
    have y0:=htb.cell 0
    simp at y0
    go_upto_region 6 with fail
    clear y0
    have S1:Hid (FlSt w (wc.alloc (.cells #[] 210)) nb #[.bool false,.slice ka0 0 kc0,.slice (some ⟨b,0,none⟩) ln cc0] (m:Int) none 0 0 none 0 0 (some ⟨wc.heap.size,0,none⟩) 0 0 (hdL d l 0) (stL a d l 0) (fun _=>zTn) []):=by
     refine ⟨HC.out.1.alloc _,HC.out.2.1.alloc _,hnb,?_,?_,own_empty wc 210 (nb+1) 4 (by omega),⟨rfl,fun i hi=>absurd hi (Nat.not_lt_zero _)⟩,HC.out.2.2.trans ((below_alloc _ _).mono HC.out.2.2.size)⟩
     ·exact World.ownsRow_nil _ _ _ _
     ·exact World.ownsRow_nil _ _ _ _
    clear HC htb hnbx hbel hz hzn
    generalize (wc.alloc (.cells #[] 210))=W at S1 ⊢
    generalize wc.heap.size=g0 at S1 ⊢
    go_wp2
    go_loopw [6,7] (fun q i wr=>∃(k kn rn:Nat) (ka da ra:Option Addr) (kc dc rc:Nat) (R:Nat->Tn) (xs:List Value),k<=ln/\i=.int .i64 k/\q=.slice ra rn rc/\rn=offR d l k/\kn=k-1/\FlSt w wr nb #[.bool false,.slice ka0 0 kc0,.slice (some ⟨b,0,none⟩) ln cc0] (m:Int) ka kn kc da k dc ra rn rc (hdL d l k) (stL a d l k) R xs/\∀j (h:j<l.length),j<k->Tells R (a+1) d l[j] (offR d l j)) (fun _ i _=>ln-(intOf i).toNat)
    case atStart=>exact ⟨0,0,0,_,_,_,_,_,_,_,_,Nat.zero_le _,rfl,rfl,(offR_zero d l).symm,rfl,S1.out,fun j _ h=>absurd h (Nat.not_lt_zero _)⟩
    case round=>
     obtain ⟨k,kn,rn,ka,da,ra,kc,dc,rc,R,xs,hk,rfl,rfl,hrn,hkn,hst,htells⟩:=hrel
     clear S1
     have HST:Hid (FlSt w wr nb #[.bool false,.slice ka0 0 kc0,.slice (some ⟨b,0,none⟩) ln cc0] (m:Int) ka kn kc da k dc ra rn rc (hdL d l k) (stL a d l k) R xs):=hst
     have HT:Hid (∀j (h:j<l.length),j<k->Tells R (a+1) d l[j] (offR d l j)):=htells
     have HP:Hid (rn=offR d l k/\kn=k-1):=⟨hrn,hkn⟩
     have y2:=hst.tb.cell 2
     have z0:=hst.nbx.cell 0
     have z1:=hst.nbx.cell 1
     have z2:=hst.nbx.cell 2
     have z3:=hst.nbx.cell 3
     have zf2:=hst.nbx.frozen 2
     have zl:=hst.nbx.lt
     have zt:=hst.tb.lt
     simp at y2 z0 z1 z2 z3
     have hrn5:rn<=5000:=by
      have h1:=offR_mono d l (j:=k) (k:=l.length) (by rw [<- HLn.out];exact hk) (Nat.le_refl _)
      rw [offR_all] at h1
      have:=HNs.out.1
      omega
     clear hst htells hrn hkn
     by_cases hlt:k<ln
     ·have hlk:k<l.length:=by rw [<- HLn.out];exact hlt
      have hk0:(0:Int)<=(k:Int):=by omega
      have hkl:(k:Int)<(ln:Int):=by omega
      obtain ⟨i0,hi,hz0,hz1,hz2⟩:=info_parts Tryz.info2
      have HI:Hid (Tryz.prog.info? 2=some i0/\i0.zero=some (.int .i64 0)/\i0.size=1/\i0.bytes=8):=⟨hi,hz0,hz1,hz2⟩
      clear hi hz0 hz1 hz2
      have HO:Hid ((wr.alloc (.cells #[.int .i64 (a+1+(rn:Int))] 2)).ownsRow (nb+1) 2 1 (.slice da k dc) k (intL (stL a d l k))):=own_below HST.out.own2 (below_alloc _ _)
      go_wp2_with (at_builtin;refine wpList_append_own_at _ rfl _ _ 34 rfl (nb+1) 2 i0 (.int .i64 0) 1 8 Tryz.underlying34 HI.out.1 HI.out.2.1 HI.out.2.2.1 HI.out.2.2.2 rfl (by decide) (.slice da k dc) k _ rfl HO.out ⟨wr.heap.size,0,none⟩ 1 1 [.int .i64 (a+1+(rn:Int))] rfl rfl (cell_one_new _ _ _) (by intro u hu;simp at hu;subst hu;rfl) (by unfold maxLen;omega) (by omega) (by simp;omega) ?_)
      intro v' w5 ho hg _ hat
      obtain ⟨a5,c5,rfl,_⟩:=own_form ho
      have hx5:=(HST.out.nbx.alloc (.cells #[.int .i64 (a+1+(rn:Int))] 2)).grown hg (fun e=>by have:=own_lt HST.out.own2 _ e;omega)
      have u2:=hx5.cell 2
      have uf:=hx5.frozen 2
      have ul:=hx5.lt
      simp at u2
      have H9:Hid (FlSt w (w5.setCell ⟨nb,2,none⟩ (.slice a5 (k+1) c5)) nb #[.bool false,.slice ka0 0 kc0,.slice (some ⟨b,0,none⟩) ln cc0] (m:Int) ka kn kc a5 (k+1) c5 ra rn rc (hdL d l k) (stL a d l (k+1)) R xs):=by
       refine (HST.out.below (below_alloc _ _)).growD hg ?_ (by simpa using hat)
       rw [stL_succ,intL_app]
       have e:(a+1+(rn:Int))=a+((1+offR d l k:Nat):Int):=by rw [HP.out.1];omega
       rw [e] at ho
       exact ho
      clear ho hg hat hx5 HO HST y2 z0 z1 z2 z3 zf2 zl zt
      go_upto_region 10 with fail
      generalize (w5.setCell ⟨nb,2,none⟩ (.slice a5 (k+1) c5))=W9 at H9 ⊢
      clear u2 uf ul
      by_cases hk00:k=0
      ·have hq:decide ((0:Int)<(k:Int))=false:=decide_eq_false (by omega)
       have hq2:¬ (0:Int)<(k:Int):=by omega
       have HE:Hid (hdL d l (k+1)=hdL d l k/\kn=k+1-1):=⟨by rw [hk00];rfl,by have:=HP.out.2;omega⟩
       clear hk00
       go_upto_region 12 with fail
       obtain ⟨ka',kn',kc',hkn',hst'⟩:∃(ka' : Option Addr) (kn' kc' : Nat),kn'=k+1-1/\FlSt w W9 nb #[.bool false,.slice ka0 0 kc0,.slice (some ⟨b,0,none⟩) ln cc0] (m:Int) ka' kn' kc' a5 (k+1) c5 ra rn rc (hdL d l (k+1)) (stL a d l (k+1)) R xs:=⟨ka,kn,kc,HE.out.2,by rw [HE.out.1];exact H9.out⟩
       have HS' : Hid (FlSt w W9 nb #[.bool false,.slice ka0 0 kc0,.slice (some ⟨b,0,none⟩) ln cc0] (m:Int) ka' kn' kc' a5 (k+1) c5 ra rn rc (hdL d l (k+1)) (stL a d l (k+1)) R xs):=hst'
       have HKn:Hid (kn'=k+1-1):=hkn'
       have y2:=hst'.tb.cell 2
       have zt:=hst'.tb.lt
       simp at y2
       obtain ⟨lf1,ka1,kn1,kc1,ca1,cn1,cc1,c0,c1,c2,hna⟩:=HKid.out W9 hst'.bel k hlk
       have HNA:Hid (NA W9 d l[k] (.agg #[.bool lf1,.slice ka1 kn1 kc1,.slice ca1 cn1 cc1])):=hna
       have hoff:=offR_le d l k hlk
       have HSum:Hid (rn+nodesR d l[k]<=(l.map (nodesR d)).sum):=by
        show rn+nodesR d l[k]<=(l.map (nodesR d)).sum
        rw [HP.out.1]
        exact hoff
       have HCall:Hid (∀W,NA W d l[k] (.agg #[.bool lf1,.slice ka1 kn1 kc1,.slice ca1 cn1 cc1])->Calls Tryz.prog 90 #[.agg #[.bool lf1,.slice ka1 kn1 kc1,.slice ca1 cn1 cc1],.int .i64 (a+1+(rn:Int))] W (RetFlat W d l[k] (a+1+(rn:Int)))):=fun W hW=>by
        obtain ⟨h',hb'⟩:=HBk.out k hlk
        refine HIH.out l[k] _ h' _ W hW ?_ ?_ hb' (by omega) ?_
        ·have:=HNs.out.1
         omega
        ·have:=kid_keys_le d l k hlk
         have:=HML.out
         omega
        ·have:=HNs.out.2
         have:=HSum.out
         omega
       clear hst' hkn' hna hoff H9
       go_wp2_with fail
       refine (HCall.out _ HNA.out).mono ?_
       rintro e w2 ⟨ra2,rc2,G,ys,he,hb2,ho2,hf2,ht2⟩
       obtain ⟨n2,hn2⟩:∃n2,n2=nodesR d l[k]:=⟨_,rfl⟩
       have hn20:n2≠0:=by have:=nodes_pos d l[k];omega
       rw [<- hn2] at he ho2 hf2
       subst he
       obtain ⟨a6,c6,e6,hfo⟩:=own_form ho2
       obtain ⟨g2,eg2,hg21,hg22,hg23⟩:=hfo hn20
       injection e6 with e6 e62 e63
       clear e62 e63
       rw [<- e6] at eg2
       subst eg2
       have HTG:Hid (Tells G (a+1+(rn:Int)) d l[k] 0/\n2=nodesR d l[k]):=⟨ht2,hn2⟩
       have HF2:Hid (FlAt (fun b=>W9.heap.size<=b) w2 n2 G ys):=hf2
       have HCe:Hid (∀j u,ys[j]?=some u->w2.cell? ((⟨g2,0,none⟩:Addr).add j)=some u):=fun j u hj=>by
        rw [add0_eq]
        exact hg23 j u hj
       have HB2:Hid (Below W9.heap.size W9 w2):=hb2
       have hn2b:n2<=5000:=by have:=HSum.out;have:=HNs.out.1;omega
       have hzz:=HS'.out.nbx.lt
       have hzz2:=hb2.size
       obtain ⟨i1,hi,hz0,hz1,hz2⟩:=info_parts Tryz.info210
       have HI1:Hid (Tryz.prog.info? 210=some i1/\i1.zero=some (.agg #[.bool false,.slice none 0 0,.slice none 0 0,.int .i64 0])/\i1.size=4/\i1.bytes=64):=⟨hi,hz0,hz1,hz2⟩
       clear hi hz0 hz1 hz2 hb2 ho2 hf2 ht2 hfo hg23 hn2 y2 c0 c1 c2 HCall HNA e6
       go_wp2_with (at_builtin;(refine wpList_append_own_at _ rfl _ _ 66 rfl (nb+1) 210 i1 _ 4 64 Tryz.underlying66 HI1.out.1 HI1.out.2.1 HI1.out.2.2.1 HI1.out.2.2.2 rfl (by decide) (.slice ra rn rc) rn xs rfl (HS'.out.below HB2.out).own3 ⟨g2,0,none⟩ n2 rc2 ys rfl HF2.out.1 HCe.out HF2.out.oneCell (by unfold maxLen;omega) (by omega) (by omega) ?_))
       intro v' w5' ho hg _ hat
       obtain ⟨a7,c7,rfl,_⟩:=own_form ho
       have HX:Hid (FlSt w w5' nb #[.bool false,.slice ka0 0 kc0,.slice (some ⟨b,0,none⟩) ln cc0] (m:Int) ka' kn' kc' a5 (k+1) c5 a7 (rn+n2) c7 (hdL d l (k+1)) (stL a d l (k+1)) (catN rn R G) (xs++ys)):=HS'.out.growR HB2.out hg HF2.out ho hat
       have HTT:Hid (∀j (h:j<l.length),j<k+1->Tells (catN rn R G) (a+1) d l[j] (offR d l j)):=by
        intro j hj hjk
        by_cases e:j=k
        ·subst e
         have q:=Tells.shift (F:=catN rn R G) (G:=G) (base:=a+1) (s:=rn) (x:=0) (fun i _ hi=>by
          unfold catN
          rw [if_neg (by omega),show i+rn-rn=i by omega]
          exact SameN.refl _) HTG.out.1
         rw [<- HP.out.1]
         simpa using q
        ·refine Tells.congr (fun i _ hi=>?_) (HT.out j hj (by omega))
         have h1:=offR_succ d l j hj
         have h2:=offR_mono d l (j:=j+1) (k:=k) (by omega) (by omega)
         have h3:=HP.out.1
         unfold catN
         rw [if_pos (by omega)]
         exact SameN.refl _
       have HRN:Hid (rn+n2=offR d l (k+1)):=by
        show rn+n2=offR d l (k+1)
        rw [offR_succ d l k hlk,HP.out.1,HTG.out.2]
       clear ho hg hat HS' HT HTG HF2 HCe HB2
       go_wp2
       go_roundw
       case rel=>exact ⟨k+1,kn',rn+n2,ka',a5,a7,kc',c5,c7,catN rn R G,xs++ys,by omega,by go_num,rfl,HRN.out,HKn.out,HX.out,HTT.out⟩
       case measure=>simp [intOf];omega
      ·have hq:decide ((0:Int)<(k:Int))=true:=decide_eq_true (by omega)
       have hq2:(0:Int)<(k:Int):=by omega
       have hq3:0<k:=by omega
       have hq4:decide (0<k)=true:=decide_eq_true hq3
       have HE:Hid (hdL d l (k+1)=hdL d l k++[hd d l k]/\kn+1=k+1-1):=⟨hdL_succ d l k (by omega),by have:=HP.out.2;omega⟩
       have hkn9:kn<=5000:=by have:=HP.out.2;omega
       have y2:=H9.out.tb.cell 2
       have z1:=H9.out.nbx.cell 1
       have zf1:=H9.out.nbx.frozen 1
       have zl:=H9.out.nbx.lt
       have zt:=H9.out.tb.lt
       simp at y2 z1
       obtain ⟨lf1,ka1,kn1,kc1,ca1,cn1,cc1,c0,c1,c2,hna⟩:=HKid.out W9 H9.out.bel k hlk
       obtain ⟨mk,hmk⟩:∃mk,mk=(keysR d l[k]).length:=⟨_,rfl⟩
       have hmk0:0<mk:=by
        obtain ⟨h',hb'⟩:=HBk.out k hlk
        rw [hmk]
        exact bal_pos hb'
       have hmkI:(0:Int)<(mk:Int):=by omega
       have HKK:Hid (∀W,Below W9.heap.size W9 W->Calls Tryz.prog 51 #[.agg #[.bool lf1,.slice ka1 kn1 kc1,.slice ca1 cn1 cc1]] W (fun e w'=>∃g2 c2,e=.returned (.slice (some ⟨g2,0,none⟩) mk c2)/\Below W.heap.size W w'/\w'.cell? ⟨g2,0,none⟩=some (.string (hd d l k)))):=fun W hW=>by
        refine (keys_any d l[k] _ W (NA.below hna hW) ?_ ?_).mono (fun e w' hr=>?_)
        ·have h1:=offR_le d l k hlk
         have:=HNs.out.1
         omega
        ·have:=kid_keys_le d l k hlk
         have:=HML.out
         omega
        ·obtain ⟨a1,c1,e1,ho1,hb1,_⟩:=hr
         rw [<- hmk] at e1 ho1
         rcases ho1 with h0|⟨g,rfl,_,hrow⟩
         ·omega
         ·refine ⟨g,c1,e1,hb1,?_⟩
          rw [hd_get d l k hlk]
          exact hrow.cell hmk0
       have hbW:b<W9.heap.size:=World.block_lt_of_cell? _ _ c0
       have HF:Hid (∀W,Below W9.heap.size W9 W->W.cell? ⟨nb,1,none⟩=some (.slice ka kn kc)/\W.cell? ⟨w.heap.size,2,none⟩=some (.slice (some ⟨b,0,none⟩) ln cc0)/\W.cell? ⟨b,k*3,none⟩=some (.bool lf1)/\W.cell? ⟨b,k*3+1,none⟩=some (.slice ka1 kn1 kc1)/\W.cell? ⟨b,k*3+2,none⟩=some (.slice ca1 cn1 cc1)):=fun W hW=>⟨(hW.cell (p:=⟨nb,_,none⟩) zl).trans z1,(hW.cell (p:=⟨w.heap.size,_,none⟩) zt).trans y2,(hW.cell (p:=⟨b,_,none⟩) hbW).trans c0,(hW.cell (p:=⟨b,_,none⟩) hbW).trans c1,(hW.cell (p:=⟨b,_,none⟩) hbW).trans c2⟩
       have hbw:b<w.heap.size:=hbl
       have HF2:Hid (∀Wa Wb,Below W9.heap.size W9 Wa->Wa.grownBy Wb (Value.slice ka kn kc).ownBlock->Wb.cell? ⟨nb,1,none⟩=some (.slice ka kn kc)/\Wb.cell? ⟨w.heap.size,2,none⟩=some (.slice (some ⟨b,0,none⟩) ln cc0)/\Wb.cell? ⟨b,k*3,none⟩=some (.bool lf1)/\Wb.cell? ⟨b,k*3+1,none⟩=some (.slice ka1 kn1 kc1)/\Wb.cell? ⟨b,k*3+2,none⟩=some (.slice ca1 cn1 cc1)):=fun Wa Wb hW hg=>by
        obtain ⟨q1,q2,q3,q4,q5⟩:=HF.out Wa hW
        have hs:=hW.size
        have hlo:=own_lt H9.out.own1
        have hlt9:=H9.out.lt
        exact ⟨hg.cell q1 (fun e=>by have:=hlo nb e.symm;omega),hg.cell q2 (fun e=>by have:=hlo w.heap.size e.symm;omega),hg.cell q3 (fun e=>by have:=hlo b e.symm;omega),hg.cell q4 (fun e=>by have:=hlo b e.symm;omega),hg.cell q5 (fun e=>by have:=hlo b e.symm;omega)⟩
       have HW:Hid (FlSt w W9 nb #[.bool false,.slice ka0 0 kc0,.slice (some ⟨b,0,none⟩) ln cc0] (m:Int) ka kn kc a5 (k+1) c5 ra rn rc (hdL d l k) (stL a d l (k+1)) R xs):=H9.out
       clear hna hmk
       go_wp2
       refine wp_region_late (S:=fun w'=>w'.cell? ⟨nb,1,none⟩=some (.slice ka kn kc)/\w'.cell? ⟨w.heap.size,2,none⟩=some (.slice (some ⟨b,0,none⟩) ln cc0)/\w'.cell? ⟨b,k*3,none⟩=some (.bool lf1)/\w'.cell? ⟨b,k*3+1,none⟩=some (.slice ka1 kn1 kc1)/\w'.cell? ⟨b,k*3+2,none⟩=some (.slice ca1 cn1 cc1)) 13 (by kernel_rfl) ?_ (fun hHeld=>?_)
       ·((try dsimp only);(first|exact HF.out _ (Below.refl _ _).drew|exact HF.out _ HB2.out|exact HF.out _ (HB2.out.trans ((below_alloc _ _).mono HB2.out.size))|exact HF2.out _ _ (HB2.out.trans ((below_alloc _ _).mono HB2.out.size)) hg3))
       refine tk 0 .zero (v:=?_) ?_ ?_
       rotate_left
       ·(intro w h;(try dsimp only at h);go_simp) <;> with_reducible rfl
       simp only [tkp]
       refine tk 1 (.succ .zero) (v:=?_) ?_ ?_
       rotate_left
       ·(intro w h;(try dsimp only at h);go_simp) <;> with_reducible rfl
       simp only [tkp]
       refine tk 2 (.succ (.succ .zero)) (v:=?_) ?_ ?_
       rotate_left
       ·(intro w h;(try dsimp only at h);go_simp) <;> with_reducible rfl
       simp only [tkp]
       refine tk 3 (.succ (.succ (.succ .zero))) (v:=?_) ?_ ?_
       rotate_left
       ·(intro w h;(try dsimp only at h);go_simp) <;> with_reducible rfl
       simp only [tkp]
       refine tk 4 (.succ (.succ (.succ (.succ .zero)))) (v:=?_) ?_ ?_
       rotate_left
       ·(intro w h;(try dsimp only at h);go_simp) <;> with_reducible rfl
       simp only [tkp]
       refine tk 5 (.s5 .zero) (v:=?_) ?_ ?_
       rotate_left
       ·(intro w h;(try dsimp only at h);go_simp) <;> with_reducible rfl
       simp only [tkp]
       refine tk 6 (.s5 (.succ .zero)) (v:=?_) ?_ ?_
       rotate_left
       ·(intro w h;(try dsimp only at h);go_simp) <;> with_reducible rfl
       simp only [tkp]
       refine tk1 7 (.s5 (.succ (.succ .zero))) (fun K hK=>?_)
       refine step_t1 (by rfl) 51 49 _ (by rfl) (.agg #[.bool lf1,.slice ka1 kn1 kc1,.slice ca1 cn1 cc1]) (by rfl) (fun _ _=>by rfl) ?_
       refine (HKK.out _ (Below.refl _ _).drew).mono ?_
       rintro e w2 ⟨gz2,cz2,rfl,hb2,hk0c⟩
       refine ⟨_,rfl,?_⟩
       have HB2:Hid (Below W9.heap.size W9 w2):=(Below.refl _ _).drew.trans hb2
       have hsz2:=HB2.out.size
       refine hK.out _ _ ?_ (fun hG=>?_)
       ·(intro _;(try dsimp only);(first|exact HF.out _ (Below.refl _ _).drew|exact HF.out _ HB2.out|exact HF.out _ (HB2.out.trans ((below_alloc _ _).mono HB2.out.size))|exact HF2.out _ _ (HB2.out.trans ((below_alloc _ _).mono HB2.out.size)) hg3))
       clear hK K
       replace hHeld:=hG (by decide)
       clear hG
       try simp only [tkp]
       refine tk 8 (.s5 (.succ (.succ (.succ .zero)))) (v:=?_) ?_ ?_
       rotate_left
       ·(intro w h;(try dsimp only at h);go_simp) <;> with_reducible rfl
       simp only [tkp]
       refine tk1 9 (.s5 (.succ (.succ (.succ (.succ .zero))))) (fun K hK=>?_)
       go_simp
       refine hK.out _ _ ?_ (fun hG=>?_)
       ·(intro _;(try dsimp only);(first|exact HF.out _ (Below.refl _ _).drew|exact HF.out _ HB2.out|exact HF.out _ (HB2.out.trans ((below_alloc _ _).mono HB2.out.size))|exact HF2.out _ _ (HB2.out.trans ((below_alloc _ _).mono HB2.out.size)) hg3))
       clear hK K
       replace hHeld:=hG (by decide)
       clear hG
       try simp only [tkp]
       refine tk1 10 (.s5 (.s5 .zero)) (fun K hK=>?_)
       go_simp
       refine hK.out _ _ ?_ (fun hG=>?_)
       ·(intro _;(try dsimp only);(first|exact HF.out _ (Below.refl _ _).drew|exact HF.out _ HB2.out|exact HF.out _ (HB2.out.trans ((below_alloc _ _).mono HB2.out.size))|exact HF2.out _ _ (HB2.out.trans ((below_alloc _ _).mono HB2.out.size)) hg3))
       clear hK K
       replace hHeld:=hG (by decide)
       clear hG
       try simp only [tkp]
       refine tk1 11 (.s5 (.s5 (.succ .zero))) (fun K hK=>?_)
       refine step_append_str (by rfl) (.tmp 44) (.tmp 53) (by rfl) (nb+1) (.slice ka kn kc) kn _ (by rfl) (own_below (HW.out.below HB2.out).own1 (below_alloc _ _)) ⟨w2.heap.size,0,none⟩ (hd d l k) (by rfl) (cell_one_new w2 (.string (hd d l k)) 9 0 _ rfl) (by omega) (by simp;omega) ?_
       intro v3 w3 ho3 hg3 hat3
       obtain ⟨a3,c3,rfl,_⟩:=own_form ho3
       have HW3:Hid (Below W9.heap.size W9 (w2.alloc (.cells #[.string (hd d l k)] 9))):=HB2.out.trans ((below_alloc _ _).mono HB2.out.size)
       have hx3:=((HW.out.below HW3.out).nbx.grown hg3 (fun e=>by have:=own_lt HW.out.own1 _ e;omega))
       have c31:=hx3.cell 1
       have f31:=hx3.frozen 1
       have l31:=hx3.lt
       simp at c31
       refine hK.out _ _ ?_ (fun hG=>?_)
       ·(intro _;(try dsimp only);(first|exact HF.out _ (Below.refl _ _).drew|exact HF.out _ HB2.out|exact HF.out _ (HB2.out.trans ((below_alloc _ _).mono HB2.out.size))|exact HF2.out _ _ (HB2.out.trans ((below_alloc _ _).mono HB2.out.size)) hg3))
       clear hK K
       replace hHeld:=hG (by decide)
       clear hG
       try simp only [tkp]
       refine tk 12 (.s5 (.s5 (.succ (.succ .zero)))) (v:=?_) ?_ ?_
       rotate_left
       ·(intro w h;(try dsimp only at h);go_simp) <;> with_reducible rfl
       simp only [tkp]
       refine tk1 13 (.s5 (.s5 (.succ (.succ (.succ .zero))))) (fun K hK=>?_)
       go_simp
       refine hK.out _ _ ?_ (fun hG=>?_)
       ·(intro hne;exact absurd rfl hne)
       clear hK K hG
       refine wpLate_done (by kernel_rfl) ?_ _
       have HX:Hid (FlSt w (w3.setCell ⟨nb,1,none⟩ (.slice a3 (kn+1) c3)) nb #[.bool false,.slice ka0 0 kc0,.slice (some ⟨b,0,none⟩) ln cc0] (m:Int) a3 (kn+1) c3 a5 (k+1) c5 ra rn rc (hdL d l (k+1)) (stL a d l (k+1)) R xs):=by
        refine (HW.out.below HW3.out).growK hg3 ?_ (by simpa using hat3)
        rw [HE.out.1,strL_app]
        exact ho3
       clear ho3 hg3 hat3 hx3
       clear hHeld
       go_upto_region 12 with fail
       obtain ⟨ka',kn',kc',hkn',hst'⟩:∃(ka' : Option Addr) (kn' kc' : Nat),kn'=k+1-1/\FlSt w (w3.setCell ⟨nb,1,none⟩ (.slice a3 (kn+1) c3)) nb #[.bool false,.slice ka0 0 kc0,.slice (some ⟨b,0,none⟩) ln cc0] (m:Int) ka' kn' kc' a5 (k+1) c5 ra rn rc (hdL d l (k+1)) (stL a d l (k+1)) R xs:=⟨a3,kn+1,c3,HE.out.2,HX.out⟩
       clear HX HW HW3 HF HF2 HKK HB2 c31 f31 l31 y2 z1 zf1 zl zt c0 c1 c2 hk0c hb2 hsz2 hmk0 hmkI
       clear H9
       have H9:Hid True:=trivial
       generalize (w3.setCell ⟨nb,1,none⟩ (.slice a3 (kn+1) c3))=WX at hst' ⊢
       have HS' : Hid (FlSt w WX nb #[.bool false,.slice ka0 0 kc0,.slice (some ⟨b,0,none⟩) ln cc0] (m:Int) ka' kn' kc' a5 (k+1) c5 ra rn rc (hdL d l (k+1)) (stL a d l (k+1)) R xs):=hst'
       have HKn:Hid (kn'=k+1-1):=hkn'
       have y2:=hst'.tb.cell 2
       have zt:=hst'.tb.lt
       simp at y2
       obtain ⟨lf1,ka1,kn1,kc1,ca1,cn1,cc1,c0,c1,c2,hna⟩:=HKid.out WX hst'.bel k hlk
       have HNA:Hid (NA WX d l[k] (.agg #[.bool lf1,.slice ka1 kn1 kc1,.slice ca1 cn1 cc1])):=hna
       have hoff:=offR_le d l k hlk
       have HSum:Hid (rn+nodesR d l[k]<=(l.map (nodesR d)).sum):=by
        show rn+nodesR d l[k]<=(l.map (nodesR d)).sum
        rw [HP.out.1]
        exact hoff
       have HCall:Hid (∀W,NA W d l[k] (.agg #[.bool lf1,.slice ka1 kn1 kc1,.slice ca1 cn1 cc1])->Calls Tryz.prog 90 #[.agg #[.bool lf1,.slice ka1 kn1 kc1,.slice ca1 cn1 cc1],.int .i64 (a+1+(rn:Int))] W (RetFlat W d l[k] (a+1+(rn:Int)))):=fun W hW=>by
        obtain ⟨h',hb'⟩:=HBk.out k hlk
        refine HIH.out l[k] _ h' _ W hW ?_ ?_ hb' (by omega) ?_
        ·have:=HNs.out.1
         omega
        ·have:=kid_keys_le d l k hlk
         have:=HML.out
         omega
        ·have:=HNs.out.2
         have:=HSum.out
         omega
       clear hst' hkn' hna hoff H9
       go_wp2_with fail
       refine (HCall.out _ HNA.out).mono ?_
       rintro e w2 ⟨ra2,rc2,G,ys,he,hb2,ho2,hf2,ht2⟩
       obtain ⟨n2,hn2⟩:∃n2,n2=nodesR d l[k]:=⟨_,rfl⟩
       have hn20:n2≠0:=by have:=nodes_pos d l[k];omega
       rw [<- hn2] at he ho2 hf2
       subst he
       obtain ⟨a6,c6,e6,hfo⟩:=own_form ho2
       obtain ⟨g2,eg2,hg21,hg22,hg23⟩:=hfo hn20
       injection e6 with e6 e62 e63
       clear e62 e63
       rw [<- e6] at eg2
       subst eg2
       have HTG:Hid (Tells G (a+1+(rn:Int)) d l[k] 0/\n2=nodesR d l[k]):=⟨ht2,hn2⟩
       have HF2:Hid (FlAt (fun b=>WX.heap.size<=b) w2 n2 G ys):=hf2
       have HCe:Hid (∀j u,ys[j]?=some u->w2.cell? ((⟨g2,0,none⟩:Addr).add j)=some u):=fun j u hj=>by
        rw [add0_eq]
        exact hg23 j u hj
       have HB2:Hid (Below WX.heap.size WX w2):=hb2
       have hn2b:n2<=5000:=by have:=HSum.out;have:=HNs.out.1;omega
       have hzz:=HS'.out.nbx.lt
       have hzz2:=hb2.size
       obtain ⟨i1,hi,hz0,hz1,hz2⟩:=info_parts Tryz.info210
       have HI1:Hid (Tryz.prog.info? 210=some i1/\i1.zero=some (.agg #[.bool false,.slice none 0 0,.slice none 0 0,.int .i64 0])/\i1.size=4/\i1.bytes=64):=⟨hi,hz0,hz1,hz2⟩
       clear hi hz0 hz1 hz2 hb2 ho2 hf2 ht2 hfo hg23 hn2 y2 c0 c1 c2 HCall HNA e6
       go_wp2_with (at_builtin;(refine wpList_append_own_at _ rfl _ _ 66 rfl (nb+1) 210 i1 _ 4 64 Tryz.underlying66 HI1.out.1 HI1.out.2.1 HI1.out.2.2.1 HI1.out.2.2.2 rfl (by decide) (.slice ra rn rc) rn xs rfl (HS'.out.below HB2.out).own3 ⟨g2,0,none⟩ n2 rc2 ys rfl HF2.out.1 HCe.out HF2.out.oneCell (by unfold maxLen;omega) (by omega) (by omega) ?_))
       intro v' w5' ho hg _ hat
       obtain ⟨a7,c7,rfl,_⟩:=own_form ho
       have HX:Hid (FlSt w w5' nb #[.bool false,.slice ka0 0 kc0,.slice (some ⟨b,0,none⟩) ln cc0] (m:Int) ka' kn' kc' a5 (k+1) c5 a7 (rn+n2) c7 (hdL d l (k+1)) (stL a d l (k+1)) (catN rn R G) (xs++ys)):=HS'.out.growR HB2.out hg HF2.out ho hat
       have HTT:Hid (∀j (h:j<l.length),j<k+1->Tells (catN rn R G) (a+1) d l[j] (offR d l j)):=by
        intro j hj hjk
        by_cases e:j=k
        ·subst e
         have q:=Tells.shift (F:=catN rn R G) (G:=G) (base:=a+1) (s:=rn) (x:=0) (fun i _ hi=>by
          unfold catN
          rw [if_neg (by omega),show i+rn-rn=i by omega]
          exact SameN.refl _) HTG.out.1
         rw [<- HP.out.1]
         simpa using q
        ·refine Tells.congr (fun i _ hi=>?_) (HT.out j hj (by omega))
         have h1:=offR_succ d l j hj
         have h2:=offR_mono d l (j:=j+1) (k:=k) (by omega) (by omega)
         have h3:=HP.out.1
         unfold catN
         rw [if_pos (by omega)]
         exact SameN.refl _
       have HRN:Hid (rn+n2=offR d l (k+1)):=by
        show rn+n2=offR d l (k+1)
        rw [offR_succ d l k hlk,HP.out.1,HTG.out.2]
       clear ho hg hat HS' HT HTG HF2 HCe HB2
       go_wp2
       go_roundw
       case rel=>exact ⟨k+1,kn',rn+n2,ka',a5,a7,kc',c5,c7,catN rn R G,xs++ys,by omega,by go_num,rfl,HRN.out,HKn.out,HX.out,HTT.out⟩
       case measure=>simp [intOf];omega
     ·have e:k=ln:=by omega
      subst e
      have hkf:¬ (k:Int)<(k:Int):=by omega
      have hrn0:rn≠0:=by
       have h1:=HP.out.1
       rw [HLn.out,offR_all] at h1
       have h2:=kids_le d l
       have h3:nodesR (d+1) (.inr l)=1+(l.map (nodesR d)).sum:=rfl
       have h4:=HLn.out
       omega
      obtain ⟨a6,c6,e6,hfo⟩:=own_form HST.out.own3
      obtain ⟨g3,eg3,hg31,hg32,hg33⟩:=hfo hrn0
      injection e6 with e6 e62 e63
      clear e62 e63
      rw [<- e6] at eg3
      subst eg3
      have HO:Hid ((wr.alloc (.cells #[.bool false,.slice ka kn kc,.slice da k dc,.int .i64 (m:Int)] 210)).ownsRow wr.heap.size 210 4 (.slice (some ⟨wr.heap.size,0,none⟩) 1 1) 1 [.bool false,.slice ka kn kc,.slice da k dc,.int .i64 (m:Int)]):=
       ⟨rfl,Or.inr ⟨wr.heap.size,1,#[.bool false,.slice ka kn kc,.slice da k dc,.int .i64 (m:Int)],rfl,Nat.le_refl _,blk_alloc_new _ _,Nat.le_refl _,by unfold maxLen;omega,rfl,rfl⟩⟩
      have HCe:Hid (∀j u,xs[j]?=some u->(wr.alloc (.cells #[.bool false,.slice ka kn kc,.slice da k dc,.int .i64 (m:Int)] 210)).cell? ((⟨g3,0,none⟩:Addr).add j)=some u):=fun j u hj=>by
       rw [add0_eq,(below_alloc wr _).cell (p:=⟨g3,j,none⟩) hg32]
       exact hg33 j u hj
      obtain ⟨i1,hi,hz0,hz1,hz2⟩:=info_parts Tryz.info210
      have HI1:Hid (Tryz.prog.info? 210=some i1/\i1.zero=some (.agg #[.bool false,.slice none 0 0,.slice none 0 0,.int .i64 0])/\i1.size=4/\i1.bytes=64):=⟨hi,hz0,hz1,hz2⟩
      clear hi hz0 hz1 hz2 hfo hg33 e6 hlt hk
      go_wp2_with (at_builtin;refine wpList_append_own_at _ rfl _ _ 66 rfl wr.heap.size 210 i1 _ 4 64 Tryz.underlying66 HI1.out.1 HI1.out.2.1 HI1.out.2.2.1 HI1.out.2.2.2 rfl (by decide) (.slice (some ⟨wr.heap.size,0,none⟩) 1 1) 1 _ rfl HO.out ⟨g3,0,none⟩ rn rc xs rfl HST.out.fl.1 HCe.out HST.out.fl.oneCell (by unfold maxLen;omega) (by omega) (by simp) ?_)
      intro v' w5 ho hg _ hat
      obtain ⟨a7,c7,rfl,_⟩:=own_form ho
      have hns:nodesR (d+1) (.inr l)=1+rn:=by
       have h1:=HP.out.1
       rw [HLn.out,offR_all] at h1
       rw [h1]
       rfl
      have HB5:Hid (Below wr.heap.size wr w5):=(below_alloc _ _).grown hg (by simp) (fun g e=>by simp [Value.ownBlock] at e;omega)
      have HO5:Hid (w5.ownsRow wr.heap.size 210 4 (.slice a7 (1+rn) c7) (1+rn) ([.bool false,.slice ka kn kc,.slice da k dc,.int .i64 (m:Int)]++xs)):=ho
      have HNs2:Hid (nodesR (d+1) (.inr l)=1+rn):=hns
      clear ho hg hat hns HO HCe y2 z0 z1 z2 z3 zf2
      go_wp2
      go_ret
      have hst:=HST.out
      have hb5:=HB5.out
      have hl1:=hst.lt
      have hkl:k=l.length:=HLn.out
      have hkn:kn=k-1:=HP.out.2
      rw [show RetFlat w (d+1) (.inr l) a=RetFlat w (d+1) (Sum.inr l:Ro (d+1)) a from rfl]
      refine ⟨a7,c7,catN 1 (fun _=>⟨false,kn,gt (hdL d l k),k,gi (stL a d l k),(m:Int)⟩) R,[.bool false,.slice ka kn kc,.slice da k dc,.int .i64 (m:Int)]++xs,by rw [HNs2.out];rfl,hst.bel.trans (hb5.mono hst.bel.size),?_,?_,?_⟩
      ·rw [HNs2.out]
       obtain ⟨q1,q2⟩:=HO5.out
       refine ⟨q1,?_⟩
       rcases q2 with q2|⟨g,cap,cur,r1,r2,r3⟩
       ·exact Or.inl q2
       ·exact Or.inr ⟨g,cap,cur,r1,by have:=hst.bel.size;omega,r3⟩
      ·rw [HNs2.out]
       refine FlAt.app (FlAt.one ⟨rfl,rfl,ka,kc,da,dc,rfl,rfl,?_,?_⟩) (hst.fl.mono hb5.size (fun b hs hlt=>⟨by have:=hs.1;show w.heap.size<=b;omega,hb5.block b hlt⟩))
       ·exact (own_rdS (S:=fun b=>nb+1<=b) hst.own1 (by rw [hdL_length];exact hkn) (fun b hb=>hb)).mono hb5.size (fun b hs hlt=>⟨by show w.heap.size<=b;omega,hb5.block b hlt⟩)
       ·exact (own_rdI (S:=fun b=>nb+1<=b) hst.own2 (by rw [stL_length]) (fun b hb=>hb)).mono hb5.size (fun b hs hlt=>⟨by show w.heap.size<=b;omega,hb5.block b hlt⟩)
      ·refine ⟨rfl,hkl,?_,?_,fun j hj=>?_,fun j hj=>?_,fun j hj=>?_⟩
       ·show (m:Int)=((l.flatMap (keysR d)).length:Int)
        rw [HML.out]
       ·show kn+1=l.length
        omega
       ·show gi (stL a d l k) j=a+((0+1+offR d l j:Nat):Int)
        rw [gi_stL a d l k j (by omega),Nat.zero_add]
       ·show gt (hdL d l k) j=gt (keysR d l[j+1]) 0
        rw [gt_hdL d l k j (by omega),hd_get d l (j+1) hj]
       ·have q:=Tells.shift (F:=catN 1 (fun _=>⟨false,kn,gt (hdL d l k),k,gi (stL a d l k),(m:Int)⟩) R) (G:=R) (base:=a) (s:=1) (x:=offR d l j) (fun i _ _=>by
         unfold catN
         rw [if_neg (by omega),show i+1-1=i by omega]
         exact SameN.refl _) (HT.out j hj (by omega))
        rw [show 0+1+offR d l j=offR d l j+1 by omega]
        exact q
end Go.Proofs.YtpaomghibppgkaaGreat
namespace Go.Proofs.YtpaomghibppgkaaGreat
open Go.RowKit Go.Deep Go.Shelf

def onlyN (K:World->Prop):Exit->Act->World->Prop
 | .normal,_,W'=>K W'
 | .ret,_,_=>False
 | .exit _,_,_=>False
 | .goto _,_,_=>False
 | .panic _,_,_=>False
 | .outgrown,_,_=>False
section
variable {F:Fence} {n:Nat} {P:Program}
theorem rangeT {g:Operand} {ps:Array Tmp} {assign body:Code} {Q:Exit->Act->World->Prop} {a:Act} {w:World}
  (hro:F.round=none) (h1:1<=n) {gf:Nat} {lb:Array Value} (hg:a.eval g=.func (.func gf) #[] lb) (hFg:F.fn gf) (eg:∀args w,(callFunc gf args).run P w=.ok (.enter gf args) w)
  (N:Nat) (V:Nat->Array Value->World->Prop) (hV:∀k v W,V k v W->v.size=ps.size) (J:Nat->World->Prop) (hJ:OwnFrom w.heap.size J) (h0:J 0 w)
  (hseq:∀(l:Nat) (K:Nat->World->Prop) (W:World),Below w.heap.size w W->(∀k W,K k W->J k W)->(∀k v W1,K k W1->V k v W1->k<N->YieldAt F (n-1-1) P l v W1 fun e W'=>e=.returned (.bool true)/\K (k+1) W')->K 0 W->
   CallsIn F (n-1) P gf (#[.func (.yield l) #[] #[]]++lb) W fun e W'=>(∃v,e=.returned v)/\K N W')
  (Ax:Nat->Array Value->Act->World->Prop) (hAx:∀k v a',OwnFrom w.heap.size (fun (_:Unit) W=>Ax k v a' W))
  (hassign:∀(l k:Nat) (v:Array Value) (W:World) (K:Act->World->Prop),J k W->V k v W->k<N->(∀a' W',KeepsFrom w.heap.size W W'->J k W'->Ax k v a' W'->K a' W')->
   assign.wpIn (F.inRound l) (n-1-1) P (Exit.then K (fun _ _ _=>False)) { tmps:=(ps.zip v).foldl (fun t (p,v)=>t.setIfInBounds p v) a.tmps,defers:=[] } W)
  (hbody:∀(l k:Nat) (v:Array Value) (a' : Act) (W:World),w.heap.size<=l->J k W->Ax k v a' W->k<N->body.wpIn (F.inRound l) (n-1-1) P (onlyN fun W'=>KeepsFrom w.heap.size W W'/\J (k+1) W') a' W)
  (hdone:∀(D:Nat) (W:World),w.heap.size<=D->J N W->W.heap[D]?=some (.deferred (some []))->Q .normal { a with defers:={ target:=.collected D,args:=#[] }::a.defers } W) :
  (Code.rangeFunc g ps assign body).wpIn F n P Q a w:=by
 refine wpIn_rangeFunc fun fn hfn=>?_
 rw [hro]
 obtain ⟨z,hz⟩:∃z,z=w.heap.size:=⟨_,rfl⟩
 obtain ⟨rc,hrc⟩:∃rc:LoopState->Option Code->Loop,rc=fun s p=>{ state:=s,pending:=p,fn,tmps:=a.tmps,params:=ps,assign,body,defers:=w.heap.size }:=⟨_,rfl⟩
 -- the world once the loop is entered: two blocks of book-keeping
 obtain ⟨W1,hW1⟩:∃W1,W1=(w.alloc (.deferred (some []))).alloc (.loop (rc .ready none)):=⟨_,rfl⟩
 have bk:W1.heap[z+1]?=some (.loop (rc .ready none))/\W1.heap[z]?=some (.deferred (some []))/\J 0 W1/\Below w.heap.size w W1:=by
  rw [hW1,hz]
  refine ⟨?_,(Below.heap_alloc _ _ _ (by simp)).trans (World.alloc_heap_new w _),hJ.alloc _ (hJ.alloc _ h0),((Below.refl _ w).alloc (Nat.le_refl _) _).alloc (by simp) _⟩
  have:=World.alloc_heap_new (w.alloc (.deferred (some []))) (.loop (rc .ready none))
  rwa [World.size_alloc] at this
 refine ⟨z+1,[{ target:=.collected z,args:=#[] }],W1,{ target:=.fn (.func gf) lb,args:=#[.func (.yield (z+1)) #[] #[]] },W1,gf,#[.func (.yield (z+1)) #[] #[]]++lb,W1,?_,?_,?_,?_,fun _=>h1,?_⟩
 ·rw [hW1,hrc,hz];exact run_enterLoop_outer _ _ _ _ _
 ·simp only [resolve,hg]
  simp [go_sem]
 ·intro f' hf';simp [Target.leads] at hf';subst hf';exact hFg
 ·simp [invoke,go_sem,eg]
 ·refine (hseq (z+1) (fun k W=>J k W/\W.heap[z+1]?=some (.loop (rc .ready none))/\W.heap[z]?=some (.deferred (some []))) W1 bk.2.2.2 (fun _ _ h=>h.1) ?_ ⟨bk.2.2.1,bk.1,bk.2.1⟩).mono ?_
  ·rintro k v W ⟨hj,hl,hd⟩ hv hk
   have hy:=run_yield (P:=P) (args:=v) hl (by rw [hrc];exact hV k v W hv)
   rw [hrc] at hy
   refine ⟨fn,_,assign,body,hy,roundIn_of_wpIn hfn (hassign _ k v W _ hj hv hk ?_)⟩
   intro a' Wa hkf hja hax
   have hl1:=hkf.same _ _ (by omega) hl rfl
   have hd1:=hkf.same _ _ (by omega) hd rfl
   have hlt:=(Array.getElem?_eq_some_iff.1 hl1).1
   refine ⟨_,run_beginRound hl1 (by rw [hrc]),?_⟩
   have hl2:(Wa.putObj (z+1) (.loop { rc .ready none with state:=.busy })).heap[z+1]?=some (.loop { rc .ready none with state:=.busy }):=World.putObj_heap_same hlt
   have hd2:(Wa.putObj (z+1) (.loop { rc .ready none with state:=.busy })).heap[z]?=some (.deferred (some [])):=(World.putObj_heap_other (by omega)).trans hd1
   refine wpIn_mono (hbody _ k v a' _ (by omega) (hJ.putObj _ hja (by omega) hl1 rfl) ((hAx k v a').putObj (s:=()) _ hax (by omega) hl1 rfl) hk) ?_
   intro e a3 W3 hp
   cases e with
   | ret=>exact hp.elim
   | exit _=>exact hp.elim
   | goto _=>exact hp.elim
   | panic _=>exact hp.elim
   | outgrown=>exact hp.elim
   | normal=>
   obtain ⟨hk3,hj3⟩:=hp
   have hl3:=hk3.same _ _ (by omega) hl2 rfl
   have hr:=run_endRound (P:=P) none hl3
   refine ⟨_,_,hr,rfl,hJ.putObj _ hj3 (by omega) hl3 rfl,?_,?_⟩
   ·rw [hrc];exact World.putObj_heap_same (Array.getElem?_eq_some_iff.1 hl3).1
   ·exact (World.putObj_heap_other (by omega)).trans (hk3.same _ _ (by omega) hd2 rfl)
  ·rintro e W2 ⟨⟨v,rfl⟩,hj,hl,hd⟩
   exact ⟨none,_,by have:=run_endLoop (P:=P) hl (by rw [hrc];simp);rw [hrc] at this;exact this,hdone _ _ (by omega) (hJ.putObj _ hj (by omega) hl rfl) ((World.putObj_heap_other (by omega)).trans hd)⟩
end
end Go.Proofs.YtpaomghibppgkaaGreat
