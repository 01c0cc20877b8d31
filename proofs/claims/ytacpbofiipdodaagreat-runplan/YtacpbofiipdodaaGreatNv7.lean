import Derived.Test.YtacpbofiipdodaaGreatNv6
set_option linter.unusedVariables false
set_option linter.unusedSimpArgs false
set_option maxRecDepth 100000
set_option maxHeartbeats 90000000
namespace Go.Proofs.YtacpbofiipdodaaGreat
open Go Go.Deep Go.RowKit
variable {B c n:Nat}{E:Prop}{Q:Exit->Act->World->Prop}{S:Nat->Prop}{a:Act}{o:Oper}{w:World}
theorem Ao {w1:World} (hb:Below w.drew.heap.size w.drew w1):Bl w w1:=(Wt _ _).drew.trans hb
theorem SR {ops:Array Oper} {K:Act->World->Prop} (hgd:o.guard=none) (k:Nat) (i:Nat) (tys:Array TypeId)
  (ho:o.op=.call { callee:=.value (.func k),args:=#[.tmp i],argTypes:=tys }) (u:Value) (hx:a.tmps[i]?.getD undef=u) (heg:∀args w,(callFunc k args).run Tryz.prog w=.ok (.enter k args) w)
  (h:WS k #[u] w λe w'=>∃r,e=.returned r/\K (a.put o.dst r) w') :
  if Region.wanted o (yielded ops a.tmps)=true then Oper.wp Tryz.prog o a w K Q else E:=by
 have hw:Region.wanted o (yielded ops a.tmps)=true:=by simp[Region.wanted,hgd]
 rw[if_pos hw];unfold Oper.wp;simp[execOp,ho,resolve,invoke,hx,go_sem,heg];refine h.mono ?_;rintro e w' ⟨u,rfl,hk⟩;exact hk
theorem G9 {ops:Array Oper} {K:Act->World->Prop} (hgd:o.guard=none) (x y:Operand)
  (ho:o.op=.call { callee:=.builtin .append,args:=#[x,y],argTypes:=#[35,35] }) (B:Nat) (v:Value) (n:Nat) (xs:List Value) (hx:a.eval x=v) (hown:w.ownsRow B 9 1 v n xs) (ad:Addr) (s:ByteArray) (hy:a.eval y=.slice (some ad) 1 1) (hc:w.cell? (ad.add 0)=some (.string s)) (hn:n<=1048576) (hB:B<=w.heap.size)
  (h:∀v' w',w'.ownsRow B 9 1 v' (n+1) (xs++[.string s])->w.grownBy w' v.ownBlock->(v'.ownBlock=v.ownBlock\/v'.ownBlock=some w.heap.size)->K (a.put o.dst v') w') :
  if Region.wanted o (yielded ops a.tmps)=true then Oper.wp Tryz.prog o a w K Q else E:=by
 have hw:Region.wanted o (yielded ops a.tmps)=true:=by simp[Region.wanted,hgd]
 rw[if_pos hw];obtain⟨i0,hi,hz0,hz1,hz2⟩:=info_parts Tryz.info9;obtain⟨v',w',hr,h2,h3,h4,h5⟩:=run_append_own_at (P:=Tryz.prog) w B 35 o.type 9 i0 _ 1 16 Tryz.underlying35 hi hz0 hz1 hz2 rfl (by decide) v n xs hown ad 1 1 [.string s] rfl (λj u hj=>by
  match j,hj with
  | 0,hj=>simp at hj;subst hj;exact hc) (by intro u hu;simp at hu;subst hu;rfl) (by unfold maxLen;omega) (by omega) hB
 unfold Oper.wp execOp;simp only[ho,resolve,invoke,builtin,Sem.run_bind,Sem.run_pure,Result.andThen_ok,List.map_toArray,List.map_cons,List.map_nil,hx,hy,hr];exact h v' w' h2 h3 h5
theorem Bo (d:Nat) (l:List (Ro d)) (k:Nat) (h:k<l.length):(Ab d l[k]).length<=(l.flatMap (Ab d)).length:=by have h1:=By (Ab d) l (k+1);rw[ES (Ab d) l k h,WD] at h1;omega
theorem Hp {a:Option Addr} {L:List ByteArray} (h:w.ownsRow B 9 1 (.slice a n c) n (AC L)) (hn:n=L.length) (hS:∀b,B<=b->S b):OV S w a n (λi=>.string (gt L i)):=by
 by_cases h0:n=0;.exact Or.inl h0
 .obtain⟨a',c',e,hf⟩:=Ap h;obtain⟨g,e2,h1,h2,h3⟩:=hf h0;injection e with e _ _;subst e;exact Or.inr ⟨g,e2,hS g h1,h2,λi hi=>h3 i _ (Rq L i (by omega))⟩
theorem Te {a:Option Addr} {L:List Int} (h:w.ownsRow B 2 1 (.slice a n c) n (JF L)) (hn:n=L.length) (hS:∀b,B<=b->S b):OV S w a n (λi=>iv (gi L i)):=by
 by_cases h0:n=0;.exact Or.inl h0
 .obtain⟨a',c',e,hf⟩:=Ap h;obtain⟨g,e2,h1,h2,h3⟩:=hf h0;injection e with e _ _;subst e;exact Or.inr ⟨g,e2,hS g h1,h2,λi hi=>h3 i _ (Qe L i (by omega))⟩
theorem BX.refl (x:Tn):BX x x:=⟨rfl,rfl,rfl,rfl,λ_ _=>rfl,λ_ _=>rfl⟩
theorem Kz {b i:Nat}:(Addr.add (ad b 0) i)=(ad b i):=by
 unfold Addr.add;by_cases h:i=0;.subst h;simp
 .simp[h]
def Vq (w wx:World) (Ft:Array Value) (lf:Bool) (m:Nat) (s:Value):Prop:=
 ∃nb,s=pt nb/\w.heap.size<nb/\Bx wx w.heap.size 134 Ft/\Bx wx nb 267 #[.bool lf,.slice none 0 0,.slice none 0 0,iv (m:Int)]/\Bl w wx
theorem Rp:∀(d:Nat) (t:Ro d) (v:Value) (root:Bool) (h:Nat) (a:Int) (w:World),NA w d t v->Ad d t<=5000->(Ab d t).length<=1099511627776->Br d root t h->0<=a->a+(Ad d t:Int)<=100000->WS 113 #[v,iv a] w (EY w d t a):=by
 intro d;induction d with
 | zero=>intro t;exact t.elim
 | succ d ih=>
  intro t v root h a w hv hnod hlen hbal ha0 ha1;obtain⟨lf,ka0,kn0,kc0,ca0,cn0,cc0,hform⟩:=AD.form hv;have HKeys:U (∀W,Bl w W->WS 65 #[.agg #[.bool lf,.slice ka0 kn0 kc0,.slice ca0 cn0 cc0]] W (Kj W (Ab (d+1) t))):=λW hW=>by have q:=EI (d+1) t v W (NA.below hv hW) hnod hlen;rw[hform] at q;exact q
  subst hform;obtain⟨m,hm⟩:∃m,m=(Ab (d+1) t).length:=⟨_,rfl⟩;have HK:U (∀W,Bl w W->WS 65 #[.agg #[.bool lf,.slice ka0 kn0 kc0,.slice ca0 cn0 cc0]] W (λe w'=>∃a1 c1,e=.returned (.slice a1 m c1)/\Bl W w')):=λW hW=>(HKeys.o W hW).mono (λe w' hr=>by obtain⟨a1,c1,e1,_,hb,_⟩:=hr;exact⟨a1,c1,by rw[hm];exact e1,hb⟩)
  clear HKeys;have HM:U (m=(Ab (d+1) t).length):=hm;have hm40:m<=1099511627776:=by rw[hm];exact hlen
  clear hm hlen;have HV:U (NA w (d+1) t (.agg #[.bool lf,.slice ka0 kn0 kc0,.slice ca0 cn0 cc0])):=hv;have HBal:U (Br (d+1) root t h):=hbal;have HNod:U (Ad (d+1) t<=5000/\a+(Ad (d+1) t:Int)<=100000):=⟨hnod,ha1⟩;have HIH:U (∀(t:Ro d) (v:Value) (h:Nat) (a:Int) (w:World),NA w d t v->Ad d t<=5000->(Ab d t).length<=1099511627776->Br d false t h->0<=a->a+(Ad d t:Int)<=100000->WS 113 #[v,iv a] w (EY w d t a)):=λt v h a w=>ih t v false h a w;have ha2:a<=100000:=by omega
  clear hv hnod hbal ih ha1;have HA1:U (∀w1:World,Below (w.alloc (.cells #[.bool lf,.slice ka0 kn0 kc0,.slice ca0 cn0 cc0] 134)).drew.heap.size (w.alloc (.cells #[.bool lf,.slice ka0 kn0 kc0,.slice ca0 cn0 cc0] 134)).drew w1->Bx w1 w.heap.size 134 #[.bool lf,.slice ka0 kn0 kc0,.slice ca0 cn0 cc0]/\Bl w w1):=λw1 hb=>⟨(Bx.new _ _ _).below (Ao hb),(Aa _ _).trans ((Ao hb).mono (by simp))⟩;have HA2:U (∀w1:World,Below ((w.alloc (.cells #[.bool lf,.slice ka0 kn0 kc0,.slice ca0 cn0 cc0] 134)).alloc (.cells #[.bool false,.slice none 0 0,.slice none 0 0,iv 0] 267)).drew.heap.size ((w.alloc (.cells #[.bool lf,.slice ka0 kn0 kc0,.slice ca0 cn0 cc0] 134)).alloc (.cells #[.bool false,.slice none 0 0,.slice none 0 0,iv 0] 267)).drew w1->Bx w1 w.heap.size 134 #[.bool lf,.slice ka0 kn0 kc0,.slice ca0 cn0 cc0]/\Bx w1 (w.heap.size+1) 267 #[.bool false,.slice none 0 0,.slice none 0 0,iv 0]/\Bl w w1):=λw1 hb=>by refine⟨((Bx.new _ _ _).alloc _).below (Ao hb),?_,((Aa _ _).alloc (by simp) _).trans ((Ao hb).mono (by simp;omega))⟩;have q:=(Bx.new (w.alloc (.cells #[.bool lf,.slice ka0 kn0 kc0,.slice ca0 cn0 cc0] 134)) #[.bool false,.slice none 0 0,.slice none 0 0,iv 0] 267).below (Ao hb);simpa using q
  go_enter Tryz.func113,Tryz.ntmps113;go_wp2;go_cut [5] from 8 to 13 (λs5 wx=>Vq w wx #[.bool lf,.slice ka0 kn0 kc0,.slice ca0 cn0 cc0] lf m s5)
  case first=>
   go_region_held3 (λw'=>w'.cell? (ad w.heap.size 0)=some (.bool lf)/\w'.cell? (ad w.heap.size 1)=some (.slice ka0 kn0 kc0)/\w'.cell? (ad w.heap.size 2)=some (.slice ca0 cn0 cc0)) (go_keep)
    (first
    | (go_at_call 65;refine (HK.o (w.alloc (.cells #[.bool lf,.slice ka0 kn0 kc0,.slice ca0 cn0 cc0] 134)).drew (Aa _ _).drew).mono ?_;rintro e w1 ⟨a1,c1,rfl,hb1⟩;have y0:=(HA1.o w1 hb1).1.cell 0;have y1:=(HA1.o w1 hb1).1.cell 1;have y2:=(HA1.o w1 hb1).1.cell 2;simp at y0 y1 y2)
    | (go_at_call 65;refine (HK.o ((w.alloc (.cells #[.bool lf,.slice ka0 kn0 kc0,.slice ca0 cn0 cc0] 134)).alloc (.cells #[.bool false,.slice none 0 0,.slice none 0 0,iv 0] 267)).drew ((Aa _ _).alloc (by simp) _).drew).mono ?_;rintro e w1 ⟨a1,c1,rfl,hb1⟩;have y0:=(HA2.o w1 hb1).1.cell 0;have y1:=(HA2.o w1 hb1).1.cell 1;have y2:=(HA2.o w1 hb1).1.cell 2;have r0:=(HA2.o w1 hb1).2.1.cell 0;have r1:=(HA2.o w1 hb1).2.1.cell 1;have r2:=(HA2.o w1 hb1).2.1.cell 2;have r3:=(HA2.o w1 hb1).2.1.cell 3;have rf0:=(HA2.o w1 hb1).2.1.frozen 0;have rf1:=(HA2.o w1 hb1).2.1.frozen 1;have rf2:=(HA2.o w1 hb1).2.1.frozen 2;have rf3:=(HA2.o w1 hb1).2.1.frozen 3;have rl:=(HA2.o w1 hb1).2.1.lt;simp at y0 y1 y2 r0 r1 r2 r3))
   .go_wp2;go_meet
    case rel=>exact⟨_,rfl,(HA1.o w1 hb1).1.lt,(HA1.o w1 hb1).1.alloc _,Bx.new _ _ _,(HA1.o w1 hb1).2.alloc (HA1.o w1 hb1).2.size _⟩
   .go_wp2;go_meet
    case rel=>obtain⟨q1,q2,q3⟩:=HA2.o w1 hb1;exact⟨_,rfl,by simp,(((q1.other (by simp) _).other (by simp) _).other (by simp) _).other (by simp) _,((((q2.set 0 _).set 1 _).set 2 _).set 3 _),(((q3.setCell (by simp) _).setCell (by simp) _).setCell (by simp) _).setCell (by simp) _⟩
  case rest=>
   obtain⟨nb,rfl,hnb,htb,hnbx,hbel⟩:=hcut;clear HA1 HA2 HK;have HC:U (Bx wc w.heap.size 134 #[.bool lf,.slice ka0 kn0 kc0,.slice ca0 cn0 cc0]/\Bx wc nb 267 #[.bool lf,.slice none 0 0,.slice none 0 0,iv (m:Int)]/\Bl w wc):=⟨htb,hnbx,hbel⟩;have hz:=htb.lt;have hzn:=hnbx.lt;rcases t with t|l
   .obtain⟨ka1,kc1,ca1,cc1,e1,hk1⟩:=HV.o;injection e1 with e1;simp at e1;obtain⟨rfl,⟨rfl,rfl,rfl⟩,⟨rfl,rfl,rfl⟩⟩:=e1;have HKs:U (BE w ka0 t.length (gt t)):=hk1;have hm2:m=t.length:=HM.o;rw[<- hm2] at HKs htb HC ⊢;have y0:=htb.cell 0;have y1:=htb.cell 1;have z0:=hnbx.cell 0;have z1:=hnbx.cell 1;have z2:=hnbx.cell 2;have z3:=hnbx.cell 3;have zf:=hnbx.frozen 1;simp at y0 y1 z0 z1 z2 z3;have HO:U ((wc.alloc (.cells #[] 9)).ownsRow wc.heap.size 9 1 (.slice (some (ad wc.heap.size 0)) 0 0) 0 []):=BB wc 9 wc.heap.size 1 (Wu _);clear htb hnbx hbel hm2 hk1 HV HIH;go_wp2_with (at_builtin;refine AG rfl _ _ rfl wc.heap.size (.slice (some (ad wc.heap.size 0)) 0 0) 0 [] rfl HO.o ka0 m kc0 t rfl HM.o (HKs.o.below (HC.o.2.2.trans ((Aa _ _).mono HC.o.2.2.size))) (by omega) (by simp) ?_)
    intro v' w5 ho hg hat;have hown:∀g,(Value.slice (some (ad wc.heap.size 0)) 0 0).ownBlock=some g->g=wc.heap.size:=λg e=>by simpa[Value.ownBlock] using e.symm
    have hx5:=(HC.o.2.1.alloc (.cells #[] 9)).grown hg (λe=>by have:=hown _ e;omega);have z0:=hx5.cell 0;have z1:=hx5.cell 1;have z2:=hx5.cell 2;have z3:=hx5.cell 3;have zf:=hx5.frozen 1;have zl:=hx5.lt;simp at z0 z1 z2 z3;obtain⟨a',c',rfl,_⟩:=Ap ho;have H5:U (Bl w w5/\OV (λb=>wc.heap.size<=b) w5 a' m (λi=>.string (gt t i))/\Bx w5 nb 267 #[.bool true,.slice none 0 0,.slice none 0 0,iv (m:Int)]):=
     ⟨(HC.o.2.2.trans ((Aa _ _).mono HC.o.2.2.size)).grown hg (by simp;omega) (λg e=>by have:=hown g e;omega),Hp ho HM.o (λb hb=>hb),hx5⟩
    have HWT:U (w.heap.size<nb):=hnb;clear ho hg hat hx5 y0 y1 HO hown HC;go_wp2;go_ret;have hn1:Ad (d+1) (.inl t)=1:=rfl;refine⟨some (ad w5.heap.size 0),1,λ_=>⟨true,t.length,gt t,0,λ_=>0,(t.length:Int)⟩,[.bool true,.slice a' m c',.slice none 0 0,iv (m:Int)],by rw[hn1];rfl,?_,?_,?_,?_⟩;.exact ((H5.o.1.setCell (by show w.heap.size<=nb;omega) _).alloc (by simp[World.setCell];have:=H5.o.1.size;omega) _)
    .rw[hn1];refine⟨rfl,Or.inr ⟨w5.heap.size,1,#[.bool true,.slice a' m c',.slice none 0 0,iv (m:Int)],rfl,H5.o.1.size,?_,Wu _,by unfold maxLen;omega,rfl,rfl⟩⟩;have q:=Bx.new (w5.setCell (ad nb 1) (.slice a' m c')) #[.bool true,.slice a' m c',.slice none 0 0,iv (m:Int)] 267;rw[show (w5.setCell (ad nb 1) (.slice a' m c')).heap.size=w5.heap.size by simp[World.setCell]] at q;exact q
    .rw[hn1];refine Dq.one ⟨rfl,by rw[<- show m=t.length from HM.o],a',c',none,0,by rw[<- show m=t.length from HM.o],rfl,?_,Or.inl rfl⟩;have q:=H5.o.2.1;rw[show m=t.length from HM.o] at q;refine q.mono (by simp[World.setCell]) (λb hs hlt=>⟨by show w.heap.size<=b;omega,?_⟩);rw[Below.heap_alloc _ _ _ (by simpa[World.setCell] using hlt),Wv _ _ _ _ (show b≠nb by omega)]
    .exact⟨rfl,rfl,λj _=>rfl,rfl,rfl⟩
   .obtain⟨ka1,kc1,b,cc1,xs0,e1,_,hbl,hl0,hx,hk⟩:=HV.o;injection e1 with e1;simp at e1;obtain⟨rfl,⟨rfl,rfl,rfl⟩,⟨rfl,rfl,rfl⟩⟩:=e1;have hl63:l.length<=5000:=by have:=Hn d l;have:=HNod.o.1;omega
    have HKid:U (∀W:World,Bl w W->∀k (h:k<l.length),∃lf ka kn kc ca cn cc,W.cell? (ad b (k*3))=some (.bool lf)/\W.cell? (ad b (k*3+1))=some (.slice ka kn kc)/\W.cell? (ad b (k*3+2))=some (.slice ca cn cc)/\NA W d l[k] (.agg #[.bool lf,.slice ka kn kc,.slice ca cn cc])):=by intro W hW k h;obtain⟨lf,ka,kn,kc,ca,cn,cc,h0,h1,h2,h3⟩:=MG hx hk k h;exact⟨lf,ka,kn,kc,ca,cn,cc,(hW.cell (p:=⟨b,_,none⟩) hbl).trans h0,(hW.cell (p:=⟨b,_,none⟩) hbl).trans h1,(hW.cell (p:=⟨b,_,none⟩) hbl).trans h2,NA.below h3 hW⟩
    have HBk:U (∀k (h:k<l.length),∃h',Br d false l[k] h'):=by obtain⟨_,_,h',_,hall⟩:=HBal.o;exact λk hk=>⟨h',hall _ (WE hk)⟩
    have HML:U (m=(l.flatMap (Ab d)).length):=HM.o;have HNs:U (1+(l.map (Ad d)).sum<=5000/\a+((1+(l.map (Ad d)).sum:Nat):Int)<=100000):=HNod.o;clear hx hk HV HNod HM HBal;obtain⟨ln,hln⟩:∃ln,ln=l.length:=⟨_,rfl⟩;rw[<- hln] at hl0 hl63 htb HC ⊢;have HLn:U (ln=l.length):=hln;clear hln;have y0:=htb.cell 0;simp at y0;go_upto_region 6 with fail
    clear y0;have S1:U (CZ w (wc.alloc (.cells #[] 267)) nb #[.bool false,.slice ka0 0 kc0,.slice (some (ad b 0)) ln cc0] (m:Int) none 0 0 none 0 0 (some (ad wc.heap.size 0)) 0 0 (GK d l 0) (Jq a d l 0) (λ_=>Tu) []):=by
     refine⟨HC.o.1.alloc _,HC.o.2.1.alloc _,hnb,?_,?_,BB wc 267 (nb+1) 4 (by omega),⟨rfl,λi hi=>absurd hi (Wy _)⟩,HC.o.2.2.trans ((Aa _ _).mono HC.o.2.2.size)⟩;.exact World.ownsRow_nil _ _ _ _
     .exact World.ownsRow_nil _ _ _ _
    clear HC htb hnbx hbel hz hzn;generalize (wc.alloc (.cells #[] 267))=W at S1 ⊢;generalize wc.heap.size=g0 at S1 ⊢;go_wp2;go_loopw [6,7] (λq i wr=>∃(k kn rn:Nat) (ka da ra:Option Addr) (kc dc rc:Nat) (R:Nat->Tn) (xs:List Value),k<=ln/\i=iv k/\q=.slice ra rn rc/\rn=AS d l k/\kn=k-1/\CZ w wr nb #[.bool false,.slice ka0 0 kc0,.slice (some (ad b 0)) ln cc0] (m:Int) ka kn kc da k dc ra rn rc (GK d l k) (Jq a d l k) R xs/\∀j (h:j<l.length),j<k->AJ R (a+1) d l[j] (AS d l j)) (λ_ i _=>ln-(intOf i).toNat)
    case atStart=>exact⟨0,0,0,_,_,_,_,_,_,_,_,Ww _,rfl,rfl,(D6 d l).symm,rfl,S1.o,λj _ h=>absurd h (Wy _)⟩
    case round=>
     obtain⟨k,kn,rn,ka,da,ra,kc,dc,rc,R,xs,hk,rfl,rfl,hrn,hkn,hst,htells⟩:=hrel;clear S1;have HST:U (CZ w wr nb #[.bool false,.slice ka0 0 kc0,.slice (some (ad b 0)) ln cc0] (m:Int) ka kn kc da k dc ra rn rc (GK d l k) (Jq a d l k) R xs):=hst;have HT:U (∀j (h:j<l.length),j<k->AJ R (a+1) d l[j] (AS d l j)):=htells;have HP:U (rn=AS d l k/\kn=k-1):=⟨hrn,hkn⟩;have y2:=hst.tb.cell 2;have z0:=hst.nbx.cell 0;have z1:=hst.nbx.cell 1;have z2:=hst.nbx.cell 2;have z3:=hst.nbx.cell 3;have zf2:=hst.nbx.frozen 2;have zl:=hst.nbx.lt;have zt:=hst.tb.lt;simp at y2 z0 z1 z2 z3;have hrn5:rn<=5000:=by have h1:=EQ d l (j:=k) (k:=l.length) (by rw[<- HLn.o];exact hk) (Wu _);rw[B7] at h1;have:=HNs.o.1;omega
     clear hst htells hrn hkn;by_cases hlt:k<ln
     .have hlk:k<l.length:=by rw[<- HLn.o];exact hlt
      have hk0:(0:Int)<=(k:Int):=by omega
      have hkl:(k:Int)<(ln:Int):=by omega
      obtain⟨i0,hi,hz0,hz1,hz2⟩:=info_parts Tryz.info2;have HI:U (Tryz.prog.info? 2=some i0/\i0.zero=some (iv 0)/\i0.size=1/\i0.bytes=8):=⟨hi,hz0,hz1,hz2⟩;clear hi hz0 hz1 hz2;have HO:U ((wr.alloc (.cells #[iv (a+1+(rn:Int))] 2)).ownsRow (nb+1) 2 1 (.slice da k dc) k (JF (Jq a d l k))):=Al HST.o.own2 (Aa _ _);go_wp2_with (at_builtin;refine wpList_append_own_at _ rfl _ _ 31 rfl (nb+1) 2 i0 (iv 0) 1 8 Tryz.underlying31 HI.o.1 HI.o.2.1 HI.o.2.2.1 HI.o.2.2.2 rfl (by decide) (.slice da k dc) k _ rfl HO.o (ad wr.heap.size 0) 1 1 [iv (a+1+(rn:Int))] rfl rfl (cell_one_new _ _ _) (by intro u hu;simp at hu;subst hu;rfl) (by unfold maxLen;omega) (by omega) (by simp;omega) ?_)
      intro v' w5 ho hg _ hat;obtain⟨a5,c5,rfl,_⟩:=Ap ho;have hx5:=(HST.o.nbx.alloc (.cells #[iv (a+1+(rn:Int))] 2)).grown hg (λe=>by have:=Aw HST.o.own2 _ e;omega);have u2:=hx5.cell 2;have uf:=hx5.frozen 2;have ul:=hx5.lt;simp at u2;have H9:U (CZ w (w5.setCell (ad nb 2) (.slice a5 (k+1) c5)) nb #[.bool false,.slice ka0 0 kc0,.slice (some (ad b 0)) ln cc0] (m:Int) ka kn kc a5 (k+1) c5 ra rn rc (GK d l k) (Jq a d l (k+1)) R xs):=by
       refine (HST.o.below (Aa _ _)).growD hg ?_ (by simpa using hat);rw[QS,QE];have e:(a+1+(rn:Int))=a+((1+AS d l k:Nat):Int):=by rw[HP.o.1];omega
       rw[e] at ho;exact ho
      clear ho hg hat hx5 HO HST y2 z0 z1 z2 z3 zf2 zl zt;go_upto_region 10 with fail
      generalize (w5.setCell (ad nb 2) (.slice a5 (k+1) c5))=W9 at H9 ⊢;clear u2 uf ul;by_cases hk00:k=0
      .have hq:decide ((0:Int)<(k:Int))=false:=decide_eq_false (by omega);have hq2:¬ (0:Int)<(k:Int):=by omega
       have HE:U (GK d l (k+1)=GK d l k/\kn=k+1-1):=⟨by rw[hk00];rfl,by have:=HP.o.2;omega⟩;clear hk00;go_upto_region 12 with fail
       obtain⟨ka',kn',kc',hkn',hst'⟩:∃(ka' : Option Addr) (kn' kc' : Nat),kn'=k+1-1/\CZ w W9 nb #[.bool false,.slice ka0 0 kc0,.slice (some (ad b 0)) ln cc0] (m:Int) ka' kn' kc' a5 (k+1) c5 ra rn rc (GK d l (k+1)) (Jq a d l (k+1)) R xs:=⟨ka,kn,kc,HE.o.2,by rw[HE.o.1];exact H9.o⟩;have HS' : U (CZ w W9 nb #[.bool false,.slice ka0 0 kc0,.slice (some (ad b 0)) ln cc0] (m:Int) ka' kn' kc' a5 (k+1) c5 ra rn rc (GK d l (k+1)) (Jq a d l (k+1)) R xs):=hst';have HKn:U (kn'=k+1-1):=hkn';have y2:=hst'.tb.cell 2;have zt:=hst'.tb.lt;simp at y2;obtain⟨lf1,ka1,kn1,kc1,ca1,cn1,cc1,c0,c1,c2,hna⟩:=HKid.o W9 hst'.bel k hlk;have HNA:U (NA W9 d l[k] (.agg #[.bool lf1,.slice ka1 kn1 kc1,.slice ca1 cn1 cc1])):=hna;have hoff:=ET d l k hlk;have HSum:U (rn+Ad d l[k]<=(l.map (Ad d)).sum):=by show rn+Ad d l[k]<=(l.map (Ad d)).sum;rw[HP.o.1];exact hoff
       have HCall:U (∀W,NA W d l[k] (.agg #[.bool lf1,.slice ka1 kn1 kc1,.slice ca1 cn1 cc1])->WS 113 #[.agg #[.bool lf1,.slice ka1 kn1 kc1,.slice ca1 cn1 cc1],iv (a+1+(rn:Int))] W (EY W d l[k] (a+1+(rn:Int)))):=λW hW=>by
        obtain⟨h',hb'⟩:=HBk.o k hlk;refine HIH.o l[k] _ h' _ W hW ?_ ?_ hb' (by omega) ?_;.have:=HNs.o.1;omega
        .have:=Bo d l k hlk;have:=HML.o;omega
        .have:=HNs.o.2;have:=HSum.o;omega
       clear hst' hkn' hna hoff H9;go_wp2_with fail
       refine (HCall.o _ HNA.o).mono ?_;rintro e w2 ⟨ra2,rc2,G,ys,he,hb2,ho2,hf2,ht2⟩;obtain⟨n2,hn2⟩:∃n2,n2=Ad d l[k]:=⟨_,rfl⟩;have hn20:n2≠0:=by have:=DW d l[k];omega
       rw[<- hn2] at he ho2 hf2;subst he;obtain⟨a6,c6,e6,hfo⟩:=Ap ho2;obtain⟨g2,eg2,hg21,hg22,hg23⟩:=hfo hn20;injection e6 with e6 e62 e63;clear e62 e63;rw[<- e6] at eg2;subst eg2;have HTG:U (AJ G (a+1+(rn:Int)) d l[k] 0/\n2=Ad d l[k]):=⟨ht2,hn2⟩;have HF2:U (Dq (λb=>W9.heap.size<=b) w2 n2 G ys):=hf2;have HCe:U (∀j u,ys[j]?=some u->w2.cell? (((ad g2 0):Addr).add j)=some u):=λj u hj=>by rw[Kz];exact hg23 j u hj
       have HB2:U (Bl W9 w2):=hb2;have hn2b:n2<=5000:=by have:=HSum.o;have:=HNs.o.1;omega
       have hzz:=HS'.o.nbx.lt;have hzz2:=hb2.size;obtain⟨i1,hi,hz0,hz1,hz2⟩:=info_parts Tryz.info267;have HI1:U (Tryz.prog.info? 267=some i1/\i1.zero=some (.agg #[.bool false,.slice none 0 0,.slice none 0 0,iv 0])/\i1.size=4/\i1.bytes=64):=⟨hi,hz0,hz1,hz2⟩;clear hi hz0 hz1 hz2 hb2 ho2 hf2 ht2 hfo hg23 hn2 y2 c0 c1 c2 HCall HNA e6;go_wp2_with (at_builtin;(refine wpList_append_own_at _ rfl _ _ 71 rfl (nb+1) 267 i1 _ 4 64 Tryz.underlying71 HI1.o.1 HI1.o.2.1 HI1.o.2.2.1 HI1.o.2.2.2 rfl (by decide) (.slice ra rn rc) rn xs rfl (HS'.o.below HB2.o).own3 (ad g2 0) n2 rc2 ys rfl HF2.o.1 HCe.o HF2.o.oneCell (by unfold maxLen;omega) (by omega) (by omega) ?_))
       intro v' w5' ho hg _ hat;obtain⟨a7,c7,rfl,_⟩:=Ap ho;have HX:U (CZ w w5' nb #[.bool false,.slice ka0 0 kc0,.slice (some (ad b 0)) ln cc0] (m:Int) ka' kn' kc' a5 (k+1) c5 a7 (rn+n2) c7 (GK d l (k+1)) (Jq a d l (k+1)) (D9 rn R G) (xs++ys)):=HS'.o.growR HB2.o hg HF2.o ho hat;have HTT:U (∀j (h:j<l.length),j<k+1->AJ (D9 rn R G) (a+1) d l[j] (AS d l j)):=by
        intro j hj hjk;by_cases e:j=k
        .subst e;have q:=AJ.shift (F:=D9 rn R G) (G:=G) (base:=a+1) (s:=rn) (x:=0) (λi _ hi=>by unfold D9;rw[if_neg (by omega),show i+rn-rn=i by omega];exact BX.refl _) HTG.o.1
         rw[<- HP.o.1];simpa using q
        .refine AJ.congr (λi _ hi=>?_) (HT.o j hj (by omega));have h1:=BA d l j hj;have h2:=EQ d l (j:=j+1) (k:=k) (by omega) (by omega);have h3:=HP.o.1;unfold D9;rw[if_pos (by omega)];exact BX.refl _
       have HRN:U (rn+n2=AS d l (k+1)):=by show rn+n2=AS d l (k+1);rw[BA d l k hlk,HP.o.1,HTG.o.2]
       clear ho hg hat HS' HT HTG HF2 HCe HB2;go_wp2;go_roundw;case rel=>exact⟨k+1,kn',rn+n2,ka',a5,a7,kc',c5,c7,D9 rn R G,xs++ys,by omega,by go_num,rfl,HRN.o,HKn.o,HX.o,HTT.o⟩
       case measure=>simp[intOf];omega
      .have hq:decide ((0:Int)<(k:Int))=true:=decide_eq_true (by omega);have hq2:(0:Int)<(k:Int):=by omega
       have hq3:0<k:=by omega
       have hq4:decide (0<k)=true:=decide_eq_true hq3;have HE:U (GK d l (k+1)=GK d l k++[hd d l k]/\kn+1=k+1-1):=⟨Rh d l k (by omega),by have:=HP.o.2;omega⟩;have hkn9:kn<=5000:=by have:=HP.o.2;omega
       have y2:=H9.o.tb.cell 2;have z1:=H9.o.nbx.cell 1;have zf1:=H9.o.nbx.frozen 1;have zl:=H9.o.nbx.lt;have zt:=H9.o.tb.lt;simp at y2 z1;obtain⟨lf1,ka1,kn1,kc1,ca1,cn1,cc1,c0,c1,c2,hna⟩:=HKid.o W9 H9.o.bel k hlk;obtain⟨mk,hmk⟩:∃mk,mk=(Ab d l[k]).length:=⟨_,rfl⟩;have hmk0:0<mk:=by obtain⟨h',hb'⟩:=HBk.o k hlk;rw[hmk];exact Ee hb'
       have hmkI:(0:Int)<(mk:Int):=by omega
       have HKK:U (∀W,Bl W9 W->WS 65 #[.agg #[.bool lf1,.slice ka1 kn1 kc1,.slice ca1 cn1 cc1]] W (λe w'=>∃g2 c2,e=.returned (.slice (some (ad g2 0)) mk c2)/\Bl W w'/\w'.cell? (ad g2 0)=some (.string (hd d l k)))):=λW hW=>by
        refine (EI d l[k] _ W (NA.below hna hW) ?_ ?_).mono (λe w' hr=>?_);.have h1:=ET d l k hlk;have:=HNs.o.1;omega
        .have:=Bo d l k hlk;have:=HML.o;omega
        .obtain⟨a1,c1,e1,ho1,hb1,_⟩:=hr;rw[<- hmk] at e1 ho1;rcases ho1 with h0|⟨g,rfl,_,hrow⟩;.omega
         .refine⟨g,c1,e1,hb1,?_⟩;rw[QC d l k hlk];exact hrow.cell hmk0
       have hbW:b<W9.heap.size:=Ws _ _ c0;have HF:U (∀W,Bl W9 W->W.cell? (ad nb 1)=some (.slice ka kn kc)/\W.cell? (ad w.heap.size 2)=some (.slice (some (ad b 0)) ln cc0)/\W.cell? (ad b (k*3))=some (.bool lf1)/\W.cell? (ad b (k*3+1))=some (.slice ka1 kn1 kc1)/\W.cell? (ad b (k*3+2))=some (.slice ca1 cn1 cc1)):=λW hW=>⟨(hW.cell (p:=⟨nb,_,none⟩) zl).trans z1,(hW.cell (p:=⟨w.heap.size,_,none⟩) zt).trans y2,(hW.cell (p:=⟨b,_,none⟩) hbW).trans c0,(hW.cell (p:=⟨b,_,none⟩) hbW).trans c1,(hW.cell (p:=⟨b,_,none⟩) hbW).trans c2⟩;have hbw:b<w.heap.size:=hbl;have HF2:U (∀Wa Wb,Bl W9 Wa->Wa.grownBy Wb (Value.slice ka kn kc).ownBlock->Wb.cell? (ad nb 1)=some (.slice ka kn kc)/\Wb.cell? (ad w.heap.size 2)=some (.slice (some (ad b 0)) ln cc0)/\Wb.cell? (ad b (k*3))=some (.bool lf1)/\Wb.cell? (ad b (k*3+1))=some (.slice ka1 kn1 kc1)/\Wb.cell? (ad b (k*3+2))=some (.slice ca1 cn1 cc1)):=λWa Wb hW hg=>by obtain⟨q1,q2,q3,q4,q5⟩:=HF.o Wa hW;have hs:=hW.size;have hlo:=Aw H9.o.own1;have hlt9:=H9.o.lt;exact⟨hg.cell q1 (λe=>by have:=hlo nb e.symm;omega),hg.cell q2 (λe=>by have:=hlo w.heap.size e.symm;omega),hg.cell q3 (λe=>by have:=hlo b e.symm;omega),hg.cell q4 (λe=>by have:=hlo b e.symm;omega),hg.cell q5 (λe=>by have:=hlo b e.symm;omega)⟩
       have HW:U (CZ w W9 nb #[.bool false,.slice ka0 0 kc0,.slice (some (ad b 0)) ln cc0] (m:Int) ka kn kc a5 (k+1) c5 ra rn rc (GK d l k) (Jq a d l (k+1)) R xs):=H9.o;clear hna hmk;go_wp2;refine Au (S:=λw'=>w'.cell? (ad nb 1)=some (.slice ka kn kc)/\w'.cell? (ad w.heap.size 2)=some (.slice (some (ad b 0)) ln cc0)/\w'.cell? (ad b (k*3))=some (.bool lf1)/\w'.cell? (ad b (k*3+1))=some (.slice ka1 kn1 kc1)/\w'.cell? (ad b (k*3+2))=some (.slice ca1 cn1 cc1)) 13 (by kernel_rfl) ?_ (λhHeld=>?_);·((try dsimp only);(first|exact HF.o _ (Wt _ _).drew|exact HF.o _ HB2.o|exact HF.o _ (HB2.o.trans ((Aa _ _).mono HB2.o.size))|exact HF2.o _ _ (HB2.o.trans ((Aa _ _).mono HB2.o.size)) hg3))
       refine tz 0 rfl ?_;refine tz 1 rfl ?_;refine tz 2 rfl ?_;refine tz 3 rfl ?_;refine tz 4 rfl ?_;refine tz 5 rfl ?_;refine tz 6 rfl ?_;refine AB 7 rfl (λK hK=>?_);refine SR (by rfl) 65 49 _ (by rfl) (.agg #[.bool lf1,.slice ka1 kn1 kc1,.slice ca1 cn1 cc1]) (by rfl) (λ_ _=>by rfl) ?_;refine (HKK.o _ (Wt _ _).drew).mono ?_;rintro e w2 ⟨gz2,cz2,rfl,hb2,hk0c⟩;refine⟨_,rfl,?_⟩;have HB2:U (Bl W9 w2):=(Wt _ _).drew.trans hb2;have hsz2:=HB2.o.size;refine hK.out _ _ ?_ (λhG=>?_);·(intro _;(try dsimp only);(first|exact HF.o _ (Wt _ _).drew|exact HF.o _ HB2.o|exact HF.o _ (HB2.o.trans ((Aa _ _).mono HB2.o.size))|exact HF2.o _ _ (HB2.o.trans ((Aa _ _).mono HB2.o.size)) hg3))
       clear hK K;replace hHeld:=hG (by decide);clear hG;try simp only[As]
       refine tz 8 rfl ?_;refine AB 9 rfl (λK hK=>?_);go_simp;refine hK.out _ _ ?_ (λhG=>?_);·(intro _;(try dsimp only);(first|exact HF.o _ (Wt _ _).drew|exact HF.o _ HB2.o|exact HF.o _ (HB2.o.trans ((Aa _ _).mono HB2.o.size))|exact HF2.o _ _ (HB2.o.trans ((Aa _ _).mono HB2.o.size)) hg3))
       clear hK K;replace hHeld:=hG (by decide);clear hG;try simp only[As]
       refine AB 10 rfl (λK hK=>?_);go_simp;refine hK.out _ _ ?_ (λhG=>?_);·(intro _;(try dsimp only);(first|exact HF.o _ (Wt _ _).drew|exact HF.o _ HB2.o|exact HF.o _ (HB2.o.trans ((Aa _ _).mono HB2.o.size))|exact HF2.o _ _ (HB2.o.trans ((Aa _ _).mono HB2.o.size)) hg3))
       clear hK K;replace hHeld:=hG (by decide);clear hG;try simp only[As]
       refine AB 11 rfl (λK hK=>?_);refine G9 (by rfl) (.tmp 44) (.tmp 53) (by rfl) (nb+1) (.slice ka kn kc) kn _ (by rfl) (Al (HW.o.below HB2.o).own1 (Aa _ _)) (ad w2.heap.size 0) (hd d l k) (by rfl) (cell_one_new w2 (.string (hd d l k)) 9 0 _ rfl) (by omega) (by simp;omega) ?_;intro v3 w3 ho3 hg3 hat3;obtain⟨a3,c3,rfl,_⟩:=Ap ho3;have HW3:U (Bl W9 (w2.alloc (.cells #[.string (hd d l k)] 9))):=HB2.o.trans ((Aa _ _).mono HB2.o.size);have hx3:=((HW.o.below HW3.o).nbx.grown hg3 (λe=>by have:=Aw HW.o.own1 _ e;omega));have c31:=hx3.cell 1;have f31:=hx3.frozen 1;have l31:=hx3.lt;simp at c31;refine hK.out _ _ ?_ (λhG=>?_);·(intro _;(try dsimp only);(first|exact HF.o _ (Wt _ _).drew|exact HF.o _ HB2.o|exact HF.o _ (HB2.o.trans ((Aa _ _).mono HB2.o.size))|exact HF2.o _ _ (HB2.o.trans ((Aa _ _).mono HB2.o.size)) hg3))
       clear hK K;replace hHeld:=hG (by decide);clear hG;try simp only[As]
       refine tz 12 rfl ?_;refine AB 13 rfl (λK hK=>?_);go_simp;refine hK.out _ _ ?_ (λhG=>?_);·(intro hne;exact absurd rfl hne)
       clear hK K hG;refine Ae (by kernel_rfl) ?_ _;have HX:U (CZ w (w3.setCell (ad nb 1) (.slice a3 (kn+1) c3)) nb #[.bool false,.slice ka0 0 kc0,.slice (some (ad b 0)) ln cc0] (m:Int) a3 (kn+1) c3 a5 (k+1) c5 ra rn rc (GK d l (k+1)) (Jq a d l (k+1)) R xs):=by refine (HW.o.below HW3.o).growK hg3 ?_ (by simpa using hat3);rw[HE.o.1,CL];exact ho3
       clear ho3 hg3 hat3 hx3;clear hHeld;go_upto_region 12 with fail
       obtain⟨ka',kn',kc',hkn',hst'⟩:∃(ka' : Option Addr) (kn' kc' : Nat),kn'=k+1-1/\CZ w (w3.setCell (ad nb 1) (.slice a3 (kn+1) c3)) nb #[.bool false,.slice ka0 0 kc0,.slice (some (ad b 0)) ln cc0] (m:Int) ka' kn' kc' a5 (k+1) c5 ra rn rc (GK d l (k+1)) (Jq a d l (k+1)) R xs:=⟨a3,kn+1,c3,HE.o.2,HX.o⟩;clear HX HW HW3 HF HF2 HKK HB2 c31 f31 l31 y2 z1 zf1 zl zt c0 c1 c2 hk0c hb2 hsz2 hmk0 hmkI;clear H9;have H9:U True:=trivial;generalize (w3.setCell (ad nb 1) (.slice a3 (kn+1) c3))=WX at hst' ⊢;have HS' : U (CZ w WX nb #[.bool false,.slice ka0 0 kc0,.slice (some (ad b 0)) ln cc0] (m:Int) ka' kn' kc' a5 (k+1) c5 ra rn rc (GK d l (k+1)) (Jq a d l (k+1)) R xs):=hst';have HKn:U (kn'=k+1-1):=hkn';have y2:=hst'.tb.cell 2;have zt:=hst'.tb.lt;simp at y2;obtain⟨lf1,ka1,kn1,kc1,ca1,cn1,cc1,c0,c1,c2,hna⟩:=HKid.o WX hst'.bel k hlk;have HNA:U (NA WX d l[k] (.agg #[.bool lf1,.slice ka1 kn1 kc1,.slice ca1 cn1 cc1])):=hna;have hoff:=ET d l k hlk;have HSum:U (rn+Ad d l[k]<=(l.map (Ad d)).sum):=by show rn+Ad d l[k]<=(l.map (Ad d)).sum;rw[HP.o.1];exact hoff
       have HCall:U (∀W,NA W d l[k] (.agg #[.bool lf1,.slice ka1 kn1 kc1,.slice ca1 cn1 cc1])->WS 113 #[.agg #[.bool lf1,.slice ka1 kn1 kc1,.slice ca1 cn1 cc1],iv (a+1+(rn:Int))] W (EY W d l[k] (a+1+(rn:Int)))):=λW hW=>by
        obtain⟨h',hb'⟩:=HBk.o k hlk;refine HIH.o l[k] _ h' _ W hW ?_ ?_ hb' (by omega) ?_;.have:=HNs.o.1;omega
        .have:=Bo d l k hlk;have:=HML.o;omega
        .have:=HNs.o.2;have:=HSum.o;omega
       clear hst' hkn' hna hoff H9;go_wp2_with fail
       refine (HCall.o _ HNA.o).mono ?_;rintro e w2 ⟨ra2,rc2,G,ys,he,hb2,ho2,hf2,ht2⟩;obtain⟨n2,hn2⟩:∃n2,n2=Ad d l[k]:=⟨_,rfl⟩;have hn20:n2≠0:=by have:=DW d l[k];omega
       rw[<- hn2] at he ho2 hf2;subst he;obtain⟨a6,c6,e6,hfo⟩:=Ap ho2;obtain⟨g2,eg2,hg21,hg22,hg23⟩:=hfo hn20;injection e6 with e6 e62 e63;clear e62 e63;rw[<- e6] at eg2;subst eg2;have HTG:U (AJ G (a+1+(rn:Int)) d l[k] 0/\n2=Ad d l[k]):=⟨ht2,hn2⟩;have HF2:U (Dq (λb=>WX.heap.size<=b) w2 n2 G ys):=hf2;have HCe:U (∀j u,ys[j]?=some u->w2.cell? (((ad g2 0):Addr).add j)=some u):=λj u hj=>by rw[Kz];exact hg23 j u hj
       have HB2:U (Bl WX w2):=hb2;have hn2b:n2<=5000:=by have:=HSum.o;have:=HNs.o.1;omega
       have hzz:=HS'.o.nbx.lt;have hzz2:=hb2.size;obtain⟨i1,hi,hz0,hz1,hz2⟩:=info_parts Tryz.info267;have HI1:U (Tryz.prog.info? 267=some i1/\i1.zero=some (.agg #[.bool false,.slice none 0 0,.slice none 0 0,iv 0])/\i1.size=4/\i1.bytes=64):=⟨hi,hz0,hz1,hz2⟩;clear hi hz0 hz1 hz2 hb2 ho2 hf2 ht2 hfo hg23 hn2 y2 c0 c1 c2 HCall HNA e6;go_wp2_with (at_builtin;(refine wpList_append_own_at _ rfl _ _ 71 rfl (nb+1) 267 i1 _ 4 64 Tryz.underlying71 HI1.o.1 HI1.o.2.1 HI1.o.2.2.1 HI1.o.2.2.2 rfl (by decide) (.slice ra rn rc) rn xs rfl (HS'.o.below HB2.o).own3 (ad g2 0) n2 rc2 ys rfl HF2.o.1 HCe.o HF2.o.oneCell (by unfold maxLen;omega) (by omega) (by omega) ?_))
       intro v' w5' ho hg _ hat;obtain⟨a7,c7,rfl,_⟩:=Ap ho;have HX:U (CZ w w5' nb #[.bool false,.slice ka0 0 kc0,.slice (some (ad b 0)) ln cc0] (m:Int) ka' kn' kc' a5 (k+1) c5 a7 (rn+n2) c7 (GK d l (k+1)) (Jq a d l (k+1)) (D9 rn R G) (xs++ys)):=HS'.o.growR HB2.o hg HF2.o ho hat;have HTT:U (∀j (h:j<l.length),j<k+1->AJ (D9 rn R G) (a+1) d l[j] (AS d l j)):=by
        intro j hj hjk;by_cases e:j=k
        .subst e;have q:=AJ.shift (F:=D9 rn R G) (G:=G) (base:=a+1) (s:=rn) (x:=0) (λi _ hi=>by unfold D9;rw[if_neg (by omega),show i+rn-rn=i by omega];exact BX.refl _) HTG.o.1
         rw[<- HP.o.1];simpa using q
        .refine AJ.congr (λi _ hi=>?_) (HT.o j hj (by omega));have h1:=BA d l j hj;have h2:=EQ d l (j:=j+1) (k:=k) (by omega) (by omega);have h3:=HP.o.1;unfold D9;rw[if_pos (by omega)];exact BX.refl _
       have HRN:U (rn+n2=AS d l (k+1)):=by show rn+n2=AS d l (k+1);rw[BA d l k hlk,HP.o.1,HTG.o.2]
       clear ho hg hat HS' HT HTG HF2 HCe HB2;go_wp2;go_roundw;case rel=>exact⟨k+1,kn',rn+n2,ka',a5,a7,kc',c5,c7,D9 rn R G,xs++ys,by omega,by go_num,rfl,HRN.o,HKn.o,HX.o,HTT.o⟩
       case measure=>simp[intOf];omega
     .have e:k=ln:=by omega
      subst e;have hkf:¬ (k:Int)<(k:Int):=by omega
      have hrn0:rn≠0:=by have h1:=HP.o.1;rw[HLn.o,B7] at h1;have h2:=Hn d l;have h3:Ad (d+1) (.inr l)=1+(l.map (Ad d)).sum:=rfl;have h4:=HLn.o;omega
      obtain⟨a6,c6,e6,hfo⟩:=Ap HST.o.own3;obtain⟨g3,eg3,hg31,hg32,hg33⟩:=hfo hrn0;injection e6 with e6 e62 e63;clear e62 e63;rw[<- e6] at eg3;subst eg3;have HO:U ((wr.alloc (.cells #[.bool false,.slice ka kn kc,.slice da k dc,iv (m:Int)] 267)).ownsRow wr.heap.size 267 4 (.slice (some (ad wr.heap.size 0)) 1 1) 1 [.bool false,.slice ka kn kc,.slice da k dc,iv (m:Int)]):=
       ⟨rfl,Or.inr ⟨wr.heap.size,1,#[.bool false,.slice ka kn kc,.slice da k dc,iv (m:Int)],rfl,Wu _,blk_alloc_new _ _,Wu _,by unfold maxLen;omega,rfl,rfl⟩⟩
      have HCe:U (∀j u,xs[j]?=some u->(wr.alloc (.cells #[.bool false,.slice ka kn kc,.slice da k dc,iv (m:Int)] 267)).cell? (((ad g3 0):Addr).add j)=some u):=λj u hj=>by rw[Kz,(Aa wr _).cell (p:=(ad g3 j)) hg32];exact hg33 j u hj
      obtain⟨i1,hi,hz0,hz1,hz2⟩:=info_parts Tryz.info267;have HI1:U (Tryz.prog.info? 267=some i1/\i1.zero=some (.agg #[.bool false,.slice none 0 0,.slice none 0 0,iv 0])/\i1.size=4/\i1.bytes=64):=⟨hi,hz0,hz1,hz2⟩;clear hi hz0 hz1 hz2 hfo hg33 e6 hlt hk;go_wp2_with (at_builtin;refine wpList_append_own_at _ rfl _ _ 71 rfl wr.heap.size 267 i1 _ 4 64 Tryz.underlying71 HI1.o.1 HI1.o.2.1 HI1.o.2.2.1 HI1.o.2.2.2 rfl (by decide) (.slice (some (ad wr.heap.size 0)) 1 1) 1 _ rfl HO.o (ad g3 0) rn rc xs rfl HST.o.fl.1 HCe.o HST.o.fl.oneCell (by unfold maxLen;omega) (by omega) (by simp) ?_)
      intro v' w5 ho hg _ hat;obtain⟨a7,c7,rfl,_⟩:=Ap ho;have hns:Ad (d+1) (.inr l)=1+rn:=by have h1:=HP.o.1;rw[HLn.o,B7] at h1;rw[h1];rfl
      have HB5:U (Bl wr w5):=(Aa _ _).grown hg (by simp) (λg e=>by simp[Value.ownBlock] at e;omega);have HO5:U (w5.ownsRow wr.heap.size 267 4 (.slice a7 (1+rn) c7) (1+rn) ([.bool false,.slice ka kn kc,.slice da k dc,iv (m:Int)]++xs)):=ho;have HNs2:U (Ad (d+1) (.inr l)=1+rn):=hns;clear ho hg hat hns HO HCe y2 z0 z1 z2 z3 zf2;go_wp2;go_ret;have hst:=HST.o;have hb5:=HB5.o;have hl1:=hst.lt;have hkl:k=l.length:=HLn.o;have hkn:kn=k-1:=HP.o.2;rw[show EY w (d+1) (.inr l) a=EY w (d+1) (Sum.inr l:Ro (d+1)) a from rfl];refine⟨a7,c7,D9 1 (λ_=>⟨false,kn,gt (GK d l k),k,gi (Jq a d l k),(m:Int)⟩) R,[.bool false,.slice ka kn kc,.slice da k dc,iv (m:Int)]++xs,by rw[HNs2.o];rfl,hst.bel.trans (hb5.mono hst.bel.size),?_,?_,?_⟩
      .rw[HNs2.o];obtain⟨q1,q2⟩:=HO5.o;refine⟨q1,?_⟩;rcases q2 with q2|⟨g,cap,cur,r1,r2,r3⟩;.exact Or.inl q2
       .exact Or.inr ⟨g,cap,cur,r1,by have:=hst.bel.size;omega,r3⟩
      .rw[HNs2.o];refine Dq.app (Dq.one ⟨rfl,rfl,ka,kc,da,dc,rfl,rfl,?_,?_⟩) (hst.fl.mono hb5.size (λb hs hlt=>⟨by have:=hs.1;show w.heap.size<=b;omega,hb5.block b hlt⟩));.exact (Hp (S:=λb=>nb+1<=b) hst.own1 (by rw[Nw];exact hkn) (λb hb=>hb)).mono hb5.size (λb hs hlt=>⟨by show w.heap.size<=b;omega,hb5.block b hlt⟩)
       .exact (Te (S:=λb=>nb+1<=b) hst.own2 (by rw[MO]) (λb hb=>hb)).mono hb5.size (λb hs hlt=>⟨by show w.heap.size<=b;omega,hb5.block b hlt⟩)
      .refine⟨rfl,hkl,?_,?_,λj hj=>?_,λj hj=>?_,λj hj=>?_⟩;.show (m:Int)=((l.flatMap (Ab d)).length:Int);rw[HML.o]
       .show kn+1=l.length;omega
       .show gi (Jq a d l k) j=a+((0+1+AS d l j:Nat):Int);rw[Ub a d l k j (by omega),WM]
       .show gt (GK d l k) j=gt (Ab d l[j+1]) 0;rw[UK d l k j (by omega),QC d l (j+1) hj]
       .have q:=AJ.shift (F:=D9 1 (λ_=>⟨false,kn,gt (GK d l k),k,gi (Jq a d l k),(m:Int)⟩) R) (G:=R) (base:=a) (s:=1) (x:=AS d l j) (λi _ _=>by unfold D9;rw[if_neg (by omega),show i+1-1=i by omega];exact BX.refl _) (HT.o j hj (by omega))
        rw[show 0+1+AS d l j=AS d l j+1 by omega];exact q
def Ei (S:Nat->Prop) (w:World):(d:Nat)->Ro d->Value->Prop
 | 0,_,_=>False
 | d+1,.inl t,v=>∃b ka kc,v=.iface 306 (pt b)/\S b/\Bx w b 310 #[iv (t.length:Int),.slice ka t.length kc]/\OV S w ka t.length (λi=>.string (gt t i))
 | d
  + 1,.inr l,v=>∃(b g kc:Nat) (xs:List Value),v=.iface 311 (pt b)/\S b/\Bx w b 314 #[iv ((l.flatMap (Ab d)).length:Int),.slice (some (ad g 0)) l.length kc]/\S g/\(g<w.heap.size/\l.length<=kc/\kc<=9223372036854775807)/\0<l.length/\(∀j u,xs[j]?=some u->w.cell? (ad g j)=some u)/\
  ∀k (h:k<l.length),∃u,xs[k]?=some u/\Ei S w d l[k] u
theorem Ei.mono {S S' : Nat->Prop} {w w' : World} (hz:w.heap.size<=w'.heap.size) (hS:∀b,S b->b<w.heap.size->S' b/\w'.heap[b]?=w.heap[b]?):∀{d:Nat} {t:Ro d} {v:Value},Ei S w d t v->Ei S' w' d t v
 | 0,_,_,h=>h
 | d+1,.inl t,v,h=>by
  obtain⟨b,ka,kc,rfl,hb,hx,hr⟩:=h
  obtain⟨q1,q2⟩:=hS b hb hx.lt
  exact⟨b,ka,kc,rfl,q1,hx.of_block q2,hr.mono hz hS⟩
 | d+1,.inr l,v,h=>by
  obtain⟨b,g,kc,xs,rfl,hb,hx,hg,hgl,hl,hc,hk⟩:=h
  obtain⟨q1,q2⟩:=hS b hb hx.lt
  obtain⟨q3,q4⟩:=hS g hg hgl.1
  refine⟨b,g,kc,xs,rfl,q1,hx.of_block q2,q3,⟨by have:=hgl.1;omega,hgl.2⟩,hl,λj u hj=>by rw[World.cell?_of_block (a:=(ad g j)) q4];exact hc j u hj,λk hk2=>?_⟩
  obtain⟨u,e,ht⟩:=hk k hk2
  exact⟨u,e,Ei.mono hz hS ht⟩
theorem Ei.below {S:Nat->Prop} {w w' : World} {d:Nat} {t:Ro d} {v:Value} (h:Ei S w d t v) (hb:Bl w w'):Ei S w' d t v:=
 h.mono hb.size (λb hs hlt=>⟨hs,hb.block b hlt⟩)
def AI:Bool->ByteArray->List ByteArray->Bool->ByteArray->Prop
 | hk,lk,[],hk',lk'=>hk'=hk/\lk'=lk
 | hk,lk,k::L,hk',lk'=>k.size<=16/\(hk=true->Op.bytesLess lk.toList k.toList=true)/\AI true k L hk' lk'
theorem AI.fn:∀{hk:Bool} {lk:ByteArray} {L:List ByteArray} {h1 h2:Bool} {l1 l2:ByteArray},AI hk lk L h1 l1->AI hk lk L h2 l2->h1=h2/\l1=l2
 | hk,lk,[],h1,h2,l1,l2,a,b=>⟨a.1.trans b.1.symm,a.2.trans b.2.symm⟩
 | hk,lk,k::L,h1,h2,l1,l2,a,b=>AI.fn a.2.2 b.2.2
theorem AI.app:∀{hk:Bool} {lk:ByteArray} {L M:List ByteArray} {h1 h2:Bool} {l1 l2:ByteArray},AI hk lk L h1 l1->AI h1 l1 M h2 l2->AI hk lk (L++M) h2 l2
 | hk,lk,[],M,h1,h2,l1,l2,a,b=>by
  obtain⟨rfl,rfl⟩:=a
  exact b
 | hk,lk,k::L,M,h1,h2,l1,l2,a,b=>⟨a.1,a.2.1,AI.app a.2.2 b⟩
theorem AI.split:∀{hk:Bool} {lk:ByteArray} {L M:List ByteArray} {h2:Bool} {l2:ByteArray},AI hk lk (L++M) h2 l2->∃h1 l1,AI hk lk L h1 l1/\AI h1 l1 M h2 l2
 | hk,lk,[],M,h2,l2,a=>⟨hk,lk,⟨rfl,rfl⟩,a⟩
 | hk,lk,k::L,M,h2,l2,a=>by
  obtain⟨h1,l1,q1,q2⟩:=AI.split a.2.2
  exact⟨h1,l1,⟨a.1,a.2.1,q1⟩,q2⟩
structure Cg (N:Nat->Tn) (n x:Nat) (dep D:Int) (hk:Bool) (lk:ByteArray) (d:Nat) (t:Ro d) (D' : Int) (hk' : Bool) (lk' : ByteArray):Prop where
 tl:AJ N 0 d t x
 le:x+Ad d t<=n
 bal:∃h,Br d (decide (dep=0)) t h/\D'=dep+(h:Int)
 dd:D=0\/D=D'
 asc:AI hk lk (Ab d t) hk' lk'
def CS (w:World) (rb b o n c x:Nat) (D:Int) (lk:ByteArray) (hk:Bool):Prop:=
 Bx w rb 276 #[.slice (some (ad b o)) n c,iv (x:Int),iv D,.string lk,.bool hk]
def DZ (N:Nat->Tn) (rb b o n c x:Nat) (dep D:Int) (hk:Bool) (lk:ByteArray) (d:Nat) (w:World) (e:Ending) (w' : World):Prop:=
 w.grownBy w' (some rb)/\∃v ok,e=.returned (.tuple #[v,.bool ok])/\
  ((ok=true/\∃t D' hk' lk',Cg N n x dep D hk lk d t D' hk' lk'/\CS w' rb b o n c (x+Ad d t) D' lk' hk'/\Ei (λb=>w.heap.size<=b) w' d t v)\/
   (ok=false/\¬ ∃t D' hk' lk',Cg N n x dep D hk lk d t D' hk' lk'))
theorem BK (b:Nat) (x:Int) (w:World) (h:w.cell? (ad b 0)=some (iv x)) :
  WS 177 #[pt b] w λe w'=>e=.returned (iv x)/\w'=w:=by go_enter Tryz.func177,Tryz.ntmps177;go_wp2;go_ret;exact⟨rfl,rfl⟩
theorem Fc (b n kc:Nat) (ka:Option Addr) (v0:Value) (X:Nat->ByteArray) (w:World) (h:Bx w b 310 #[v0,.slice ka n kc]) (hr:BE w ka n X) (hn:0<n) :
  WS 229 #[pt b] w λe w'=>e=.returned (.string (X 0))/\w'=w:=by
 have c1:=h.cell 1;simp at c1;have hnI:(0:Int)<(n:Int):=by omega
 rcases hr with h0|⟨bk,ok,rfl,hc⟩;.omega
 have c2:=hc 0 hn;rw[Nat.add_zero] at c2;clear h hc;go_enter Tryz.func229,Tryz.ntmps229;go_wp2;go_ret;exact⟨rfl,rfl⟩
theorem OU {d:Nat} {l:List (Ro d)} (h0:0<l.length) (hp:0<(Ab d l[0]).length):gt (l.flatMap (Ab d)) 0=gt (Ab d l[0]) 0:=by
 cases l with
 | nil=>simp at h0
 | cons t l=>simp only[List.getElem_cons_zero] at hp ⊢;rw[List.flatMap_cons];unfold gt;rw[WA,WA,List.getElem?_append_left hp]
theorem If:∀(d:Nat) (l:List (Ro d)) (S:Nat->Prop) (b:Nat) (h:Nat) (w:World),Ei S w (d+1) (.inr l) (.iface 311 (pt b))->(∀t,t∈l->Br d false t h)->
  WS 239 #[pt b] w λe w'=>e=.returned (.string (gt (l.flatMap (Ab d)) 0))/\w'=w:=by
 intro d;induction d with
 | zero=>intro l S b h w ht hb;obtain⟨b',g,kc,xs,e,_,_,_,_,hl,_,hk⟩:=ht;obtain⟨u,_,q⟩:=hk 0 hl;exact q.elim
 | succ d ih=>
  intro l S b h w ht hb;obtain⟨b',g,kc,xs,e,_,hx,_,_,hl,hc,hk⟩:=ht;injection e with _ e;injection e with e;injection e with e;injection e with e;subst e;obtain⟨u,hu,hut⟩:=hk 0 hl;have hpos:=Ee (hb l[0] (WE hl));rw[OU hl hpos];have c1:=hx.cell 1;simp at c1;have c2:=hc 0 u hu;have hb0:=hb l[0] (WE hl);have hlI:(0:Int)<(l.length:Int):=by omega
  clear hx hc hk hu;generalize l[0]=t0 at*
  generalize l.length=ln at c1 hlI;clear hl;rcases t0 with t0|l0
  .obtain⟨b0,ka0,kc0,rfl,_,hx0,hr0⟩:=hut;have HL:=hid (Fc b0 t0.length kc0 ka0 _ (gt t0) w hx0 hr0.rdS hpos);clear hx0 hr0 ih hb hb0 hpos;go_enter Tryz.func239,Tryz.ntmps239;go_wp2_with fail
   refine HL.o.mono ?_;rintro e w1 ⟨rfl,rfl⟩;go_wp2;go_ret;exact⟨rfl,rfl⟩
  .obtain⟨h2,h4,h',_,hall⟩:=hb0;have hut2:=hut;obtain⟨b0,g0,kc0,xs0,rfl,_⟩:=hut2;have HL:=hid (ih l0 S b0 h' w hut hall);clear ih hut hall hpos hb;go_enter Tryz.func239,Tryz.ntmps239;go_wp2_with fail
   refine HL.o.mono ?_;rintro e w1 ⟨rfl,rfl⟩;go_wp2;go_ret;exact⟨rfl,rfl⟩
theorem Gh (a:Option Addr) (n c:Nat) (L:List ByteArray) (w:World) (h:BE w a n (gt L)) (hn:n=L.length) (hn2:n<=1048576) :
  WS 175 #[.slice a n c] w λe w'=>∃a' c',e=.returned (.slice a' n c')/\w'.ownsRow w.heap.size 9 1 (.slice a' n c') n (AC L)/\Bl w w':=by
 have HR:=hid (ai h hn);clear h hn;go_enter Tryz.func175,Tryz.ntmps175;go_wp2_with (at_builtin;refine AG rfl _ _ rfl w.heap.size (.slice none 0 0) 0 [] rfl (World.ownsRow_nil _ _ _ _) a n c L rfl HR.o.2 HR.o.1 (by omega) (Wu _) ?_)
 intro v' w' ho hg hat;have HB:=hid ((Wt _ _).grown hg (Wu _) (λk e=>by simp[Value.ownBlock] at e));obtain⟨a',c',rfl,_⟩:=Ap ho;have HO:=hid ho;clear ho hg hat;go_wp2;go_ret;exact⟨a',c',rfl,HO.o,HB.o⟩
theorem El (b n kc:Nat) (ka:Option Addr) (x:Int) (w:World) (h:Bx w b 310 #[iv x,.slice ka n kc]) :
  WS 176 #[pt b] w λe w'=>e=.returned (.tuple #[])/\w'=w.setCell (ad b 0) (iv (n:Int)):=by
 have c0:=h.cell 0;have c1:=h.cell 1;have f0:=h.frozen 0;have hl:=h.lt;simp at c0 c1;clear h;go_enter Tryz.func176,Tryz.ntmps176;go_wp2;go_end0
 exact⟨rfl,rfl⟩
variable {L:List ByteArray}{r:Option Nat}{w1:World}
theorem BH (w:World) (b i:Nat) (v:Value):w.grownBy (w.setCell (ad b i) v) (some b):=
 ⟨rfl,rfl,rfl,by simp[World.setCell],λk hk hne=>Wv _ _ _ _ (λe=>hne (by rw[e]))⟩
theorem Bw (w:World) (r:Option Nat):w.grownBy w r:=⟨rfl,rfl,rfl,Wu _,λ_ _ _=>rfl⟩
theorem Aj {w2:World} (h:w.grownBy w1 r) (g:w1.grownBy w2 r):w.grownBy w2 r:=
 ⟨g.os.trans h.os,g.tape.trans h.tape,g.output.trans h.output,WC h.size g.size,λk hk hne=>(g.block k (WF hk h.size) hne).trans (h.block k hk hne)⟩
theorem Ak (h:Bl w w1):w.grownBy w1 r:=⟨h.os,h.tape,h.output,h.size,λk hk _=>h.block k hk⟩
theorem A1 {B:Nat} {r:Nat} (h:w.grownBy w1 (some r)) (hB:B<=w.heap.size) (hr:B<=r):Below B w w1:=⟨h.os,h.tape,h.output,h.size,λk hk=>h.block k (by omega) (λe=>by injection e with e;omega)⟩
def U8 (rb b o n c x:Nat) (dep D:Int) (lk:ByteArray) (hk:Bool) (w:World) (e:Ending) (w' : World):Prop:=
 ∃ok,e=.returned (.bool ok)/\w.grownBy w' (some rb)/\w'.heap.size=w.heap.size/\((ok=true/\(D=0\/D=dep)/\CS w' rb b o n c x dep lk hk)\/(ok=false/\¬ (D=0\/D=dep)))
def Vm (rb b o n c x:Nat) (D:Int) (lk:ByteArray) (hk:Bool) (L:List ByteArray) (w:World) (e:Ending) (w' : World):Prop:=
 ∃ok,e=.returned (.bool ok)/\w.grownBy w' (some rb)/\w'.heap.size=w.heap.size/\((ok=true/\∃hk' lk',AI hk lk L hk' lk'/\CS w' rb b o n c x D lk' hk')\/(ok=false/\∀hk' lk',¬ AI hk lk L hk' lk'))
theorem Fd (rb b o n c x:Nat) (dep D:Int) (lk:ByteArray) (hk:Bool) (w:World) (h:CS w rb b o n c x D lk hk) (hd:0<=dep) :
  WS 173 #[pt rb,iv dep] w (U8 rb b o n c x dep D lk hk w):=by
 have c2:=h.cell 2;have f2:=h.frozen 2;have hl:=h.lt;simp at c2;have HR:=hid h;clear h;by_cases h0:D=0;.subst h0;have hq:((0:Int) == 0)=true:=rfl;have HX:U (CS (w.setCell (ad rb 2) (iv dep)) rb b o n c x dep lk hk):=HR.o.set 2 _;have c3:=HX.o.cell 2;simp at c3;go_enter Tryz.func173,Tryz.ntmps173;go_wp2;go_ret;exact⟨true,by simp,BH _ _ _ _,by simp[World.setCell],.inl ⟨rfl,.inl rfl,HX.o⟩⟩
 .have hq:(D == 0)=false:=by simpa using h0
  by_cases h1:D=dep
  .subst h1;have hq1:(D == D)=true:=by simp
   go_enter Tryz.func173,Tryz.ntmps173;go_wp2;go_ret;exact⟨true,by simp,Bw _ _,rfl,.inl ⟨rfl,.inr rfl,HR.o⟩⟩
  .have hq1:(D == dep)=false:=by simpa using h1
   go_enter Tryz.func173,Tryz.ntmps173;go_wp2;go_ret;exact⟨false,by simp,Bw _ _,rfl,.inr ⟨rfl,λh=>h.elim h0 h1⟩⟩
theorem Fp {k:Nat} (h:k<L.length):L.take (k+1)=L.take k++[gt L k]:=by rw[<- List.take_append_getElem h];unfold gt;rw[WA,Wx h];rfl
theorem I9 {hk h1:Bool} {lk l1:ByteArray} {k:Nat} (h:AI hk lk (L.take k) h1 l1) (hlt:k<L.length) (hbad:¬ ((gt L k).size<=16/\(h1=true->Op.bytesLess l1.toList (gt L k).toList=true))) (h2:Bool) (l2:ByteArray):¬ AI hk lk L h2 l2:=by
 intro hc;have e:L=L.take k++(gt L k::L.drop (k+1)):=by
  conv=>lhs;rw[<- List.take_append_drop (k+1) L,Fp hlt]
  simp
 rw[e] at hc;obtain⟨h3,l3,q1,q2⟩:=AI.split hc;obtain⟨rfl,rfl⟩:=AI.fn h q1;exact hbad ⟨q2.1,q2.2.1⟩
theorem FM (rb b o n c x m kc:Nat) (ka:Option Addr) (D:Int) (lk:ByteArray) (hk:Bool) (L:List ByteArray) (w:World) (h:CS w rb b o n c x D lk hk) (hm:m=L.length) (hm2:m<=1048576) (hr:∀W:World,w.grownBy W (some rb)->BE W ka m (gt L)) :
  WS 174 #[pt rb,.slice ka m kc] w (Vm rb b o n c x D lk hk L w):=by
 have HR:=hid hr;have HM:=hid hm;have H0:=hid h;clear h hm hr;go_enter Tryz.func174,Tryz.ntmps174;go_wp2;go_loopw [9] (λi wr=>∃(k:Nat) (h1:Bool) (l1:ByteArray),k<=m/\i=iv k/\w.grownBy wr (some rb)/\wr.heap.size=w.heap.size/\AI hk lk (L.take k) h1 l1/\CS wr rb b o n c x D l1 h1) (λi _=>m-(intOf i).toNat)
 case atStart=>exact⟨0,hk,lk,Ww _,rfl,Bw _ _,rfl,⟨rfl,rfl⟩,H0.o⟩
 case round=>
  obtain⟨k,h1,l1,hkm,rfl,hgr,hsz,hch,hbx⟩:=hrel;clear H0;have HG:=hid (ai hgr (ai hsz (ai hch hbx)));have c3:=hbx.cell 3;have c4:=hbx.cell 4;have f3:=hbx.frozen 3;have f4:=hbx.frozen 4;have hl:=hbx.lt;simp at c3 c4;clear hgr hsz hch hbx;by_cases hlt:k<m
  .have hlk:k<L.length:=by rw[<- HM.o];exact hlt
   rcases HR.o wr HG.o.1 with q|⟨bk,ok,rfl,hc⟩;.omega
   have s1:=hc k hlt;have hk0:(0:Int)<=(k:Int):=by omega
   have hkmI:(k:Int)<(m:Int):=by omega
   clear hc;by_cases h16:16<(gt L k).size
   .have j16:(16:Int)<((gt L k).size:Int):=by omega
    have j16' : decide ((16:Int)<((gt L k).size:Int))=true:=decide_eq_true j16;have n16' : decide (16<(gt L k).size)=true:=decide_eq_true h16;have HNo:U (∀h2 l2,¬ AI hk lk L h2 l2):=λh2 l2=>I9 HG.o.2.2.1 hlk (λq=>by omega) h2 l2;go_wp2;go_ret;exact⟨false,rfl,HG.o.1,HG.o.2.1,.inr ⟨rfl,HNo.o⟩⟩
   .have j16:¬ (16:Int)<((gt L k).size:Int):=by omega
    have j16' : decide ((16:Int)<((gt L k).size:Int))=false:=decide_eq_false j16;have n16' : decide (16<(gt L k).size)=false:=decide_eq_false h16;have HPass:(h1=true->Op.bytesLess l1.toList (gt L k).toList=true)->U (w.grownBy ((wr.setCell (ad rb 3) (.string (gt L k))).setCell (ad rb 4) (.bool true)) (some rb)/\((wr.setCell (ad rb 3) (.string (gt L k))).setCell (ad rb 4) (.bool true)).heap.size=w.heap.size/\AI hk lk (L.take (k+1)) true (gt L k)/\CS ((wr.setCell (ad rb 3) (.string (gt L k))).setCell (ad rb 4) (.bool true)) rb b o n c x D (gt L k) true):=by intro hp;obtain⟨q1,q2,q3,q4⟩:=HG.o;refine⟨Aj (Aj q1 (BH _ _ _ _)) (BH _ _ _ _),by rw[<- q2];simp[World.setCell],?_,(q4.set 3 _).set 4 _⟩;rw[Fp hlk];exact AI.app q3 ⟨by omega,hp,rfl,rfl⟩
    cases h1 with
    | false=>
     have HP:=HPass (λq=>by cases q);clear HPass;go_wp2;go_roundw;case rel=>exact⟨k+1,true,gt L k,by omega,by go_num,HP.o⟩
     case measure=>simp[intOf];omega
    | true=>
     cases hls:Op.bytesLess l1.toList (gt L k).toList with
     | true=>
      have HP:=HPass (λ_=>hls);have htot:=BR l1.toList (gt L k).toList;rw[hls] at htot;have ht2:=htot;clear HPass htot;go_wp2;go_roundw;case rel=>exact⟨k+1,true,gt L k,by omega,by go_num,HP.o⟩
      case measure=>simp[intOf];omega
     | false=>have HNo:U (∀h2 l2,¬ AI hk lk L h2 l2):=λh2 l2=>I9 HG.o.2.2.1 hlk (λq=>by have:=q.2 rfl;rw[hls] at this;cases this) h2 l2;have htot:=BR l1.toList (gt L k).toList;rw[hls] at htot;have ht2:=htot;clear HPass htot;go_wp2;go_ret;exact⟨false,rfl,HG.o.1,HG.o.2.1,.inr ⟨rfl,HNo.o⟩⟩
  .have e:k=m:=by omega
   subst e;have HE:U (L.take k=L):=by show L.take k=L;rw[HM.o,WG]
   go_wp2;go_ret;refine⟨true,rfl,HG.o.1,HG.o.2.1,.inl ⟨rfl,h1,l1,?_,HG.o.2.2.2⟩⟩;have q:=HG.o.2.2.1;rw[HE.o] at q;exact q
theorem Ei.count {S:Nat->Prop} {w:World}:∀{d:Nat} {t:Ro d} {v:Value},Ei S w d t v->∃b,S b/\b<w.heap.size/\w.cell? (ad b 0)=some (iv ((Ab d t).length:Int))/\(v=.iface 306 (pt b)\/v=.iface 311 (pt b))
 | 0,_,_,h=>h.elim
 | d+1,.inl t,v,h=>by
  obtain⟨b,ka,kc,rfl,hb,hx,hr⟩:=h
  exact⟨b,hb,hx.lt,by rw[hx.cell 0];rfl,Or.inl rfl⟩
 | d+1,.inr l,v,h=>by
  obtain⟨b,g,kc,xs,rfl,hb,hx,_⟩:=h
  exact⟨b,hb,hx.lt,by rw[hx.cell 0];rfl,Or.inr rfl⟩
theorem CE {d:Nat} (l:List (Ro d)) (k:Nat) (h:k<l.length):((l.take (k+1)).flatMap (Ab d)).length=((l.take k).flatMap (Ab d)).length+(Ab d l[k]).length:=by rw[ES (Ab d) l k h,WD]
theorem Gn (d b g ln kc:Nat) (l:List (Ro d)) (x:Int) (S:Nat->Prop) (xs:List Value) (w:World) (h:Bx w b 314 #[iv x,.slice (some (ad g 0)) ln kc]) (hln:ln=l.length) (hl5:ln<=5000) (hlen:(l.flatMap (Ab d)).length<=1099511627776)
  (hc:∀j u,xs[j]?=some u->w.cell? (ad g j)=some u) (hg:g≠b) (hS:¬ S b) (hk:∀k (h:k<l.length),∃u,xs[k]?=some u/\Ei S w d l[k] u) :
  WS 178 #[pt b] w λe w'=>e=.returned (.tuple #[])/\w.grownBy w' (some b)/\w'.heap.size=w.heap.size/\Bx w' b 314 #[iv ((l.flatMap (Ab d)).length:Int),.slice (some (ad g 0)) ln kc]:=by
 have HK:U (∀W:World,w.grownBy W (some b)->∀k (h:k<l.length),∃u bb,W.cell? (ad g k)=some u/\bb≠b/\W.cell? (ad bb 0)=some (iv ((Ab d l[k]).length:Int))/\(u=.iface 306 (pt bb)\/u=.iface 311 (pt bb))):=by intro W hW k hkl;obtain⟨u,hu,ht⟩:=hk k hkl;obtain⟨bb,hb1,hb2,hb3,hb4⟩:=ht.count;have hne:bb≠b:=λe=>hS (e ▸ hb1);exact⟨u,bb,hW.cell (hc k u hu) (λe=>by injection e with e;exact hg e),hne,hW.cell hb3 (λe=>by injection e with e;exact hne e),hb4⟩
 have HLn:=hid (ai hln hlen);have c1:=h.cell 1;have c0:=h.cell 0;have f0:=h.frozen 0;have hlt:=h.lt;simp at c0 c1;have H0:U (w.grownBy (w.setCell (ad b 0) (iv 0)) (some b)/\Bx (w.setCell (ad b 0) (iv 0)) b 314 #[iv 0,.slice (some (ad g 0)) ln kc]):=by refine⟨⟨rfl,rfl,rfl,by simp[World.setCell],λk hk hne=>Wv _ _ _ _ (λe=>hne (by rw[e]))⟩,h.set 0 _⟩
 clear h hc hk hln hlen;go_enter Tryz.func178,Tryz.ntmps178;go_wp2;go_loopw [13] (λi wr=>∃k:Nat,k<=ln/\i=iv k/\w.grownBy wr (some b)/\wr.heap.size=w.heap.size/\Bx wr b 314 #[iv (((l.take k).flatMap (Ab d)).length:Int),.slice (some (ad g 0)) ln kc]) (λi _=>ln-(intOf i).toNat)
 case atStart=>exact⟨0,Ww _,rfl,H0.o.1,by simp[World.setCell],by simpa using H0.o.2⟩
 case round=>
  obtain⟨k,hkl,rfl,hgr,hsz,hbx⟩:=hrel;clear H0 c0 c1 f0;have HG:=hid (ai hgr (ai hsz hbx));obtain⟨A,hA⟩:=gn ((((l.take k).flatMap (Ab d)).length:Int));rw[<- hA] at hbx;have c0:=hbx.cell 0;have f0:=hbx.frozen 0;have hlt2:=hbx.lt;simp at c0;clear hgr hsz hbx;by_cases hlt:k<ln
  .have hlk:k<l.length:=by rw[<- HLn.o.1];exact hlt
   obtain⟨u,bb,hu,hne,hcc,hform⟩:=HK.o wr HG.o.1 k hlk;have e12:=CE l k hlk;have hle:=By (Ab d) l (k+1);have hL:=HLn.o.2;obtain⟨C,hC⟩:=gn (((Ab d l[k]).length:Int));have hA0:0<=A/\A<=1099511627776:=by omega
   have hC0:0<=C/\C<=1099511627776:=by omega
   rw[<- hC] at hcc;have HS:U ((((l.take (k+1)).flatMap (Ab d)).length:Int)=A+C):=by show (((l.take (k+1)).flatMap (Ab d)).length:Int)=A+C;rw[e12,hA,hC];omega
   have HX:U (w.grownBy (wr.drew.setCell (ad b 0) (iv (A+C))) (some b)/\(wr.drew.setCell (ad b 0) (iv (A+C))).heap.size=w.heap.size/\Bx (wr.drew.setCell (ad b 0) (iv (A+C))) b 314 #[iv (((l.take (k+1)).flatMap (Ab d)).length:Int),.slice (some (ad g 0)) ln kc]):=by
    obtain⟨q1,q2,q3⟩:=HG.o;have hs:=Eq.trans (show (wr.drew.setCell (ad b 0) (iv (A+C))).heap.size=wr.drew.heap.size by simp[World.setCell]) rfl;refine⟨⟨q1.os,q1.tape,q1.output,by rw[hs];exact q1.size,λk hk hne=>?_⟩,by rw[hs];exact q2,?_⟩;.rw[Wv _ _ _ _ (λe=>hne (by rw[e]))];exact q1.block k hk hne
    .rw[HS.o];exact q3.drew.set 0 _
   clear hA hC e12 hle hL;rcases hform with rfl|rfl
   .have HB:=hid (λW hW=>BK bb C W hW);go_wp2;go_region_with (go_at_call 177;refine (HB.o _ (by simpa using hcc)).mono ?_;rintro e w2 ⟨rfl,rfl⟩)
    all_goals
     go_wp2
     go_roundw
     case rel=>exact⟨k+1,by omega,by go_num,HX.o⟩
     case measure=>simp[intOf];omega
   .have HB:=hid (λW hW=>BK bb C W hW);go_wp2;go_region_with (go_at_call 177;refine (HB.o _ (by simpa using hcc)).mono ?_;rintro e w2 ⟨rfl,rfl⟩)
    all_goals
     go_wp2
     go_roundw
     case rel=>exact⟨k+1,by omega,by go_num,HX.o⟩
     case measure=>simp[intOf];omega
  .have e:k=ln:=by omega
   subst e;have HE:U ((l.take k).flatMap (Ab d)=l.flatMap (Ab d)):=by show (l.take k).flatMap (Ab d)=l.flatMap (Ab d);rw[HLn.o.1,WG]
   go_wp2;go_end0
   refine⟨rfl,HG.o.1,HG.o.2.1,?_⟩;have q:=HG.o.2.2;rw[HE.o] at q;exact q
end Go.Proofs.YtacpbofiipdodaaGreat
