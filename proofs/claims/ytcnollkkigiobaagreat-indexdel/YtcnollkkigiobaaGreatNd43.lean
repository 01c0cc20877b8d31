import Derived.Test.YtcnollkkigiobaaGreatNd41
import Derived.Test.YtcnollkkigiobaaGreatNd34
set_option linter.unusedVariables false
set_option maxRecDepth 100000
namespace Go.Proofs.YtcnollkkigiobaaGreat
open Go.RowKit Go.Deep

def TOr (lo hi:Nat) (w:World) (d:Nat) (t:Ro d) (v:Value):Prop:=∃bs:List Nat,bs.Nodup/\TOw lo w d t v bs/\(∀b,b∈bs->b<hi)/\hi<=w.heap.size
theorem TOr.keep {lo hi:Nat} {w w' : World} {d:Nat} {t:Ro d} {v:Value} (h:TOr lo hi w d t v) (hz:w.heap.size<=w'.heap.size) (hk:∀k,lo<=k->k<hi->w'.heap[k]?=w.heap[k]?):TOr lo hi w' d t v:=by
 obtain ⟨bs,h1,h2,h3,h4⟩:=h
 exact ⟨bs,h1,h2.keep (fun b hb=>hk b (h2.lt b hb).1 (h3 b hb)),h3,Nat.le_trans h4 hz⟩
def XO (lo hi:Nat) (w:World) (A:Array Value) (M:Nat->Nat) (T:Nat->Nat->Tn) (q:Nat):Prop:=
 A[q*2]?=some (.func (.func (layF q)) #[] #[])/\∃(t:Ro (M q)) (t' : Ro 21) (h:Nat) (v:Value),VTt (M q) (T q) t'/\keysR 21 t'=keysR (M q) t/\BalR (M q) true t h/\Tells (T q) 0 (M q) t 0/\nodesR (M q) t=M q/\TOr lo hi w (M q) t v/\A[q*2+1]?=some v
theorem XO.keep {lo hi:Nat} {w w' : World} {A:Array Value} {M:Nat->Nat} {T:Nat->Nat->Tn} {q:Nat} (h:XO lo hi w A M T q) (hz:w.heap.size<=w'.heap.size) (hb:∀k,lo<=k->k<hi->w'.heap[k]?=w.heap[k]?):XO lo hi w' A M T q:=by
 obtain ⟨h0,t,t',hh,v,h1,h2,h3,h4,h5,h6,h7⟩:=h
 exact ⟨h0,t,t',hh,v,h1,h2,h3,h4,h5,h6.keep hz hb,h7⟩
theorem XO.top {lo hi:Nat} {w:World} {A:Array Value} {M:Nat->Nat} {T:Nat->Nat->Tn} {q:Nat} (h:XO lo hi w A M T q):hi<=w.heap.size:=by
 obtain ⟨h0,t,t',hh,v,h1,h2,h3,h4,h5,⟨_,_,_,_,q⟩,h7⟩:=h
 exact q
structure Ioo (w W:World) (a:Option Addr) (c:Nat) (M:Nat->Nat) (T:Nat->Nat->Tn) (j:Nat) (A:Array Value) (lo hi:Nat->Nat):Prop where
 ib:Bx W w.heap.size 32 #[.slice a 6 c]
 xb:Bx W (w.heap.size+1) 109 A
 sz:A.size=12
 bel:Below w.heap.size w W
 xt:∀q,q<j->XO (lo q) (hi q) W A M T q
 base:∀q,q<j->w.heap.size+2<=lo q
 ord:∀i q,i<q->q<j->hi i<=lo q
theorem Ioo.keep {w W W' : World} {a:Option Addr} {c:Nat} {M:Nat->Nat} {T:Nat->Nat->Tn} {j:Nat} {A:Array Value} {lo hi:Nat->Nat} (h:Ioo w W a c M T j A lo hi) (hb:Below W.heap.size W W'):Ioo w W' a c M T j A lo hi:=
 ⟨(hb.block _ h.ib.lt).trans h.ib,(hb.block _ h.xb.lt).trans h.xb,h.sz,h.bel.trans (hb.mono h.bel.size),fun q hq=>(h.xt q hq).keep hb.size (fun k _ hk=>hb.block k (by have:=(h.xt q hq).top;omega)),h.base,h.ord⟩
theorem Ioo.put {w W:World} {a:Option Addr} {c:Nat} {M:Nat->Nat} {T:Nat->Nat->Tn} {j:Nat} {A:Array Value} {lo hi:Nat->Nat} (h:Ioo w W a c M T j A lo hi) (hj:j<6) {l:Nat} (hl:w.heap.size+2<=l) (hlo:∀q,q<j->hi q<=l) {t:Ro (M j)} {t' : Ro 21} {hh:Nat} {v:Value} (h1:VTt (M j) (T j) t') (h2:keysR 21 t'=keysR (M j) t) (h3:BalR (M j) true t hh) (h4:Tells (T j) 0 (M j) t 0) (h5:nodesR (M j) t=M j) (h6:TOx l W (M j) t v) :
  ∃lo' hi',Ioo w ((W.setCell ⟨w.heap.size+1,j*2,none⟩ (.func (.func (layF j)) #[] #[])).setCell ⟨w.heap.size+1,j*2+1,none⟩ v) a c M T (j+1) ((A.setIfInBounds (j*2) (.func (.func (layF j)) #[] #[])).setIfInBounds (j*2+1) v) lo' hi':=by
 have hz:=h.sz
 obtain ⟨lo',hlo'⟩:∃lo' : Nat->Nat,∀i,lo' i=if i=j then l else lo i:=⟨_,fun _=>rfl⟩
 obtain ⟨hi',hhi'⟩:∃hi' : Nat->Nat,∀i,hi' i=if i=j then W.heap.size else hi i:=⟨_,fun _=>rfl⟩
 have hk:∀k,w.heap.size+2<=k->((W.setCell ⟨w.heap.size+1,j*2,none⟩ (.func (.func (layF j)) #[] #[])).setCell ⟨w.heap.size+1,j*2+1,none⟩ v).heap[k]?=W.heap[k]?:=fun k hk=>(Below.heap_setCell _ _ _ _ (by simp;omega)).trans (Below.heap_setCell _ _ _ _ (by simp;omega))
 refine ⟨lo',hi',(h.ib.other (by simp) _).other (by simp) _,(h.xb.set _ _).set _ _,by simp [hz],(h.bel.setCell (by simp) _).setCell (by simp) _,fun q hq=>?_,fun q hq=>?_,fun i q hiq hq=>?_⟩
 ·rw [hlo',hhi']
  by_cases e:q=j
  ·subst e
   rw [if_pos rfl,if_pos rfl]
   obtain ⟨bs,b1,b2⟩:=h6
   refine ⟨?_,t,t',hh,v,h1,h2,h3,h4,h5,⟨bs,b1,b2.keep (fun b hb=>hk b (by have:=(b2.lt b hb).1;omega)),fun b hb=>(b2.lt b hb).2,by simp⟩,?_⟩
   ·rw [Array.getElem?_setIfInBounds_ne (by omega),Array.getElem?_setIfInBounds_self_of_lt (by omega)]
   ·rw [Array.getElem?_setIfInBounds_self_of_lt (by simp;omega)]
  ·rw [if_neg e,if_neg e]
   have hb:=h.base q (by omega)
   obtain ⟨g0,s,s',sh,u,g1,g2,g3,g4,g5,g6,g7⟩:=h.xt q (by omega)
   refine ⟨?_,s,s',sh,u,g1,g2,g3,g4,g5,g6.keep (by simp) (fun k k1 _=>hk k (by omega)),?_⟩
   ·rw [Array.getElem?_setIfInBounds_ne (by omega),Array.getElem?_setIfInBounds_ne (by omega)]
    exact g0
   ·rw [Array.getElem?_setIfInBounds_ne (by omega),Array.getElem?_setIfInBounds_ne (by omega)]
    exact g7
 ·rw [hlo']
  by_cases e:q=j
  ·rw [if_pos e];exact hl
  ·rw [if_neg e];exact h.base q (by omega)
 ·rw [hlo',hhi',if_neg (show ¬ i=j by omega)]
  by_cases e:q=j
  ·rw [if_pos e];exact hlo i (by omega)
  ·rw [if_neg e];exact h.ord i q hiq (by omega)
def RetIxO (w:World) (a:Option Addr) (n c:Nat) (M:Nat->Nat) (T:Nat->Nat->Tn) (e:Ending) (w' : World):Prop:=
 (e=.returned (.tuple #[.pointer none,.bool false])/\¬ VI n M T/\Below w.heap.size w w')\/(e=.returned (.tuple #[.pointer (some ⟨w.heap.size+1,0,none⟩),.bool true])/\VI n M T/\∃A lo hi,Ioo w w' a c M T 6 A lo hi)

set_option maxHeartbeats 16000000 in
theorem readIndexO_any (a:Option Addr) (n c:Nat) (M:Nat->Nat) (T:Nat->Nat->Tn) (w:World) (h:RdIx w a n M T) (hn:n<=1048576) (hN:IxFit n M T) :
  Calls Tryz.prog 36 #[.agg #[.slice a n c]] w (RetIxO w a n c M T):=by
 by_cases h6:n=6
 case neg=>
  have h6i:¬ (n:Int)=6:=by omega
  have h6d:((n:Int) != 6)=true:=by simp;omega
  have HF:Hid (¬ VI n M T):=fun q=>h6 q.1
  clear h hN
  go_enter Tryz.func36,Tryz.ntmps36
  go_wp2
  refine bodyPost_ret (v:=.tuple #[.pointer none,.bool false]) (by simp [results,Tryz.results36,go_sem]) rfl ?_
  exact .inl ⟨rfl,HF.out,below_alloc _ _⟩
 case pos=>
 subst h6
 have HR:Hid (RdIx w a 6 M T/\IxFit 6 M T):=⟨h,hN⟩
 have HOr:Hid (∀W:World,Calls Tryz.prog 62 #[] W fun e w'=>e=.returned (.agg layA)/\Below W.heap.size W w'):=orders_any
 clear h hN hn
 go_enter Tryz.func36,Tryz.ntmps36
 go_wp2_with fail
 (with_reducible refine (HOr.out _).mono ?_)
 rintro e w0 ⟨rfl,hb0⟩
 have I0:Hid (∃A,Ioo w w0 a c M T 0 A (fun _=>0) (fun _=>0)):=by
  have b1:=Bx.new w #[.slice a 6 c] 32
  have b2:=Bx.new (w.alloc (.cells #[.slice a 6 c] 32)) #[.nilFunc,.nilIface,.nilFunc,.nilIface,.nilFunc,.nilIface,.nilFunc,.nilIface,.nilFunc,.nilIface,.nilFunc,.nilIface] 109
  simp only [World.size_alloc] at b2
  exact ⟨_,(hb0.block _ (by simp;omega)).trans (b1.alloc _),(hb0.block _ (by simp)).trans b2,rfl,((below_alloc _ _).alloc (by simp) _).trans (hb0.mono (by simp;omega)),fun q hq=>absurd hq (Nat.not_lt_zero _),fun q hq=>absurd hq (Nat.not_lt_zero _),fun i q _ hq=>absurd hq (Nat.not_lt_zero _)⟩
 clear hb0 HOr
 go_wp2_with fail
 go_loopw [5,6,7,8,9,10,18] (fun f _ _ _ _ _ i wr=>∃(j:Nat) (A:Array Value) (lo hi:Nat->Nat),j<=6/\i=.int .i64 j/\Ioo w wr a c M T j A lo hi/\Fst wr M T j f/\VIj M T j) (fun _ _ _ _ _ _ i _=>6-(intOf i).toNat)
 case atStart=>
  obtain ⟨A,h⟩:=I0.out
  exact ⟨0,A,_,_,by omega,rfl,h,fun h=>absurd h (by omega),fun q hq=>absurd hq (Nat.not_lt_zero _),fun i _ h2=>absurd h2 (by omega)⟩
 case round=>
  obtain ⟨j,A,lo,hi,hj,rfl,hIS,hF,hV⟩:=hrel
  have HS:Hid (Ioo w wr a c M T j A lo hi/\VIj M T j):=⟨hIS,hV⟩
  have HFs:Hid (Fst wr M T j u5):=hF
  have j0:(0:Int)<=(j:Int):=by omega
  clear hF hV I0
  by_cases hlt:j<6
  ·have j1:(j:Int)<6:=by omega
   have b0:=hIS.ib.cell 0
   simp at b0
   have bl:=hIS.ib.lt
   have hix:=lay_idx j hlt
   rcases HR.out.1.below hIS.bel with q|⟨bb,oo,ea,hc⟩
   ·omega
   obtain ⟨aj,cj,s0,hrd⟩:=hc j hlt
   have hfit:=HR.out.2 j hlt
   obtain ⟨m,hm⟩:∃m,m=M j:=⟨_,rfl⟩
   have HM:Hid (m=M j):=hm
   have HRt:Hid (Calls Tryz.prog 68 #[.agg #[.slice aj m cj]] wr (RetTreO wr (M j) (T j))):=by
    rw [hm]
    exact readTreeO_any aj (M j) cj (T j) wr hrd hfit.1 hfit.2
   rw [<- hm] at s0
   subst ea
   clear hc hrd hfit hm hIS
   go_wp2_with fail
   (with_reducible refine HRt.out.mono ?_)
   rintro e w1 ⟨hb1,v,ok,rfl,hr⟩
   have H1:Hid (Ioo w w1 (some ⟨bb,oo,none⟩) c M T j A lo hi/\Fst w1 M T j u5/\VIj M T j/\wr.heap.size<=w1.heap.size/\w.heap.size+2<=wr.heap.size/\∀q,q<j->hi q<=wr.heap.size):=⟨HS.out.1.keep hb1,HFs.out.keep hb1,HS.out.2,hb1.size,HS.out.1.xb.lt,fun q hq=>(HS.out.1.xt q hq).top⟩
   clear hb1 HRt b0 bl s0 hix HFs
   cases ok with
   | false=>
    have HF:Hid (¬ VI 6 M T):=fun q=>by
     obtain ⟨t,ht,_⟩:=q.2.1 j hlt
     rcases hr with ⟨q,_⟩|⟨_,hno⟩
     ·cases q
     ·exact hno ⟨t,ht⟩
    clear hr
    go_wp2
    refine bodyPost_ret (v:=.tuple #[.pointer none,.bool false]) (by simp [results,Tryz.results36,go_sem]) rfl ?_
    exact .inl ⟨rfl,HF.out,H1.out.1.bel⟩
   | true=>
    obtain ⟨t,t',hh,q1,q2,q3,q4,q5,q6⟩:∃(t:Ro (M j)) (t' : Ro 21) (h:Nat),VTt (M j) (T j) t'/\keysR 21 t'=keysR (M j) t/\BalR (M j) true t h/\Tells (T j) 0 (M j) t 0/\nodesR (M j) t=M j/\TOx wr.heap.size w1 (M j) t v:=by
     rcases hr with ⟨_,q⟩|⟨q,_⟩
     ·exact q
     ·cases q
    have HT:Hid (VTt (M j) (T j) t'/\keysR 21 t'=keysR (M j) t/\BalR (M j) true t hh/\Tells (T j) 0 (M j) t 0/\nodesR (M j) t=M j/\TOx wr.heap.size w1 (M j) t v):=⟨q1,q2,q3,q4,q5,q6⟩
    obtain ⟨nb,_,hnb,c0,hv⟩:=q6.tat.count
    obtain ⟨kl,hkl⟩:∃kl,kl=(keysR (M j) t).length:=⟨_,rfl⟩
    have HKL:Hid (kl=(keysR (M j) t).length):=hkl
    rw [<- hkl] at c0
    have HBe:Hid (Calls Tryz.prog 157 #[.pointer (some ⟨nb,0,none⟩)] w1 fun e w'=>e=.returned (.int .i64 (kl:Int))/\w'=w1):=below_any nb kl w1 c0
    clear hr q1 q2 q3 q4 q5 q6 hkl hnb c0
    rcases hv with rfl|rfl
    ·go_wp2_with fail
     (with_reducible refine HBe.out.mono ?_)
     rintro e w2 ⟨rfl,hw2⟩
     subst hw2
     by_cases h300:300<kl
     ·have i300:(300:Int)<(kl:Int):=by omega
      have i300d:decide ((300:Int)<(kl:Int))=true:=decide_eq_true i300
      have HF:Hid (¬ VI 6 M T):=fun q=>by
       obtain ⟨t2,ht2,hl2,_⟩:=q.2.1 j hlt
       have e:=vtt1 ht2 HT.out.1
       subst e
       rw [HT.out.2.1,<- HKL.out] at hl2
       omega
      go_wp2
      refine bodyPost_ret (v:=.tuple #[.pointer none,.bool false]) (by simp [results,Tryz.results36,go_sem]) rfl ?_
      exact .inl ⟨rfl,HF.out,H1.out.1.bel⟩
     ·have i300:¬ (300:Int)<(kl:Int):=by omega
      have i300d:decide ((300:Int)<(kl:Int))=false:=decide_eq_false i300
      have hx12:=H1.out.1.sz
      obtain ⟨y0,x0⟩:∃y,w2.cell? ⟨w.heap.size+1,j*2,none⟩=some y:=⟨A[j*2],by rw [H1.out.1.xb.cell,Array.getElem?_eq_getElem (by omega)]⟩
      obtain ⟨y1,x1⟩:∃y,w2.cell? ⟨w.heap.size+1,j*2+1,none⟩=some y:=⟨A[j*2+1],by rw [H1.out.1.xb.cell,Array.getElem?_eq_getElem (by omega)]⟩
      have f0:=H1.out.1.xb.frozen (j*2)
      have f1:=H1.out.1.xb.frozen (j*2+1)
      have xl:=H1.out.1.xb.lt
      obtain ⟨W2,hW2⟩:∃W2,W2=(w2.setCell ⟨w.heap.size+1,j*2,none⟩ (.func (.func (layF j)) #[] #[])).setCell ⟨w.heap.size+1,j*2+1,none⟩ (.iface 204 (.pointer (some ⟨nb,0,none⟩))):=⟨_,rfl⟩
      have H2:Hid (∃A' lo' hi',Ioo w W2 (some ⟨bb,oo,none⟩) c M T (j+1) A' lo' hi'/\Fst W2 M T j u5/\Calls Tryz.prog 69 #[.pointer (some ⟨w.heap.size+1,j*2,none⟩)] W2 (RetQs W2 j (keysR (M j) t))):=by
       have q6:TAt (fun b=>w.heap.size+2<=b) w2 (M j) t (.iface 204 (.pointer (some ⟨nb,0,none⟩))):=HT.out.2.2.2.2.2.tat.mono (Nat.le_refl _) (fun b hB _=>⟨Nat.le_trans H1.out.2.2.2.2.1 hB,rfl⟩)
       obtain ⟨lo',hi',hput⟩:=H1.out.1.put hlt H1.out.2.2.2.2.1 H1.out.2.2.2.2.2 HT.out.1 HT.out.2.1 HT.out.2.2.1 HT.out.2.2.2.1 HT.out.2.2.2.2.1 HT.out.2.2.2.2.2
       rw [<- hW2] at hput
       refine ⟨_,lo',hi',hput,by rw [hW2];exact H1.out.2.1.put H1.out.1.xb,?_⟩
       refine quads_any j hlt (w.heap.size+1) (j*2) W2 (M j) t (.iface 204 (.pointer (some ⟨nb,0,none⟩))) hh ?_ ?_ ?_ HT.out.2.2.1 ?_ (by rw [<- HKL.out];omega)
       ·rw [hput.xb.cell,Array.getElem?_setIfInBounds_ne (by omega),Array.getElem?_setIfInBounds_self_of_lt (by omega)]
       ·rw [hput.xb.cell,Array.getElem?_setIfInBounds_self_of_lt (by simp;omega)]
       ·refine q6.mono (by rw [hW2];simp) (fun b hB hlt=>⟨by rw [hW2];simpa using hlt,?_⟩)
        rw [hW2]
        exact (Below.heap_setCell _ _ _ _ (by simp;omega)).trans (Below.heap_setCell _ _ _ _ (by simp;omega))
       ·rw [<- HT.out.2.1]
        exact asc_of_ascK HT.out.1.2.2.2.2.1
      go_wp2_with fail
      rw [<- hW2]
      clear hW2 x0 x1 f0 f1 xl hx12
      obtain ⟨A',lo',hi',g1,g2,g3⟩:=H2.out
      have HA:Hid (Ioo w W2 (some ⟨bb,oo,none⟩) c M T (j+1) A' lo' hi'/\Fst W2 M T j u5):=⟨g1,g2⟩
      have HQs:Hid (Calls Tryz.prog 69 #[.pointer (some ⟨w.heap.size+1,j*2,none⟩)] W2 (RetQs W2 j (keysR (M j) t))):=g3
      clear g1 g2 g3 H2
      (with_reducible refine HQs.out.mono ?_)
      rintro e w3 ⟨ok3,a3,c3,L,rfl,hb3,hrq,hr3⟩
      obtain ⟨l,hl⟩:∃l,l=L.length:=⟨_,rfl⟩
      have H3:Hid (Ioo w w3 (some ⟨bb,oo,none⟩) c M T (j+1) A' lo' hi'/\Fst w3 M T j u5/\RdQ w3 a3 L/\l=L.length):=⟨HA.out.1.keep hb3,HA.out.2.keep hb3,hrq,hl⟩
      have hl3:l<=300:=by
       rcases hr3 with ⟨_,q,_⟩|⟨_,q,_⟩
       ·rw [hl,q,List.length_map,<- HKL.out];omega
       ·rw [hl,q];simp
      rw [<- hl]
      clear hb3 hrq hl HA HQs
      cases ok3 with
      | false=>
       have HF:Hid (¬ VI 6 M T/\L.Nodup):=by
        rcases hr3 with ⟨q,_⟩|⟨_,q,hno⟩
        ·cases q
        ·refine ⟨fun q=>?_,by rw [q];exact List.nodup_nil⟩
         obtain ⟨t2,ht2,_,hg2⟩:=q.2.1 j hlt
         have e:=vtt1 ht2 HT.out.1
         subst e
         rw [HT.out.2.1] at hg2
         exact hno hg2
       clear hr3
       by_cases hj0:j=0
       ·have hj0i:(j:Int)=0:=by omega
        have hj0b:((j:Int) == 0)=true:=by simp;omega
        have HSet:Hid (Calls Tryz.prog 70 #[.slice a3 l c3] w3 fun e w'=>∃B,e=.returned (.map (some B))/\QMap w' B L/\Below w3.heap.size w3 w'/\w3.heap.size<=B):=setOf_any a3 l c3 L w3 H3.out.2.2.1 H3.out.2.2.2 (by omega) HF.out.2
        go_wp2_with fail
        (with_reducible refine HSet.out.mono ?_)
        rintro e w4 ⟨Bm,rfl,hqm,hb4,_⟩
        have H4:Hid (Below w.heap.size w w4):=H3.out.1.bel.trans (hb4.mono H3.out.1.bel.size)
        clear hb4 hqm
        go_wp2
        refine bodyPost_ret (v:=.tuple #[.pointer none,.bool false]) (by simp [results,Tryz.results36,go_sem]) rfl ?_
        exact .inl ⟨rfl,HF.out.1,H4.out⟩
       ·have hj0i:¬ (j:Int)=0:=by omega
        have hj0b:((j:Int) == 0)=false:=by simp;omega
        go_wp2
        refine bodyPost_ret (v:=.tuple #[.pointer none,.bool false]) (by simp [results,Tryz.results36,go_sem]) rfl ?_
        exact .inl ⟨rfl,HF.out.1,H3.out.1.bel⟩
      | true=>
       have HG:Hid (L=(keysR (M j) t).map (quadOf j)/\GoodK j (keysR (M j) t)/\L.Nodup/\OkT j (M j) (T j)):=by
        rcases hr3 with ⟨_,q,hgd⟩|⟨q,_⟩
        ·refine ⟨q,hgd,?_,t',HT.out.1,by rw [HT.out.2.1,<- HKL.out];omega,by rw [HT.out.2.1];exact hgd⟩
         rw [q]
         refine quads_nodup hlt ?_ (fun k hk=>(hgd k hk).1)
         rw [<- HT.out.2.1]
         exact asc_of_ascK HT.out.1.2.2.2.2.1
        ·cases q
       clear hr3
       by_cases hj0:j=0
       ·have hj0i:(j:Int)=0:=by omega
        have hj0b:((j:Int) == 0)=true:=by simp;omega
        have HSet:Hid (Calls Tryz.prog 70 #[.slice a3 l c3] w3 fun e w'=>∃B,e=.returned (.map (some B))/\QMap w' B L/\Below w3.heap.size w3 w'/\w3.heap.size<=B):=setOf_any a3 l c3 L w3 H3.out.2.2.1 H3.out.2.2.2 (by omega) HG.out.2.2.1
        go_wp2_with fail
        (with_reducible refine HSet.out.mono ?_)
        rintro e w4 ⟨Bm,rfl,hqm,hb4,_⟩
        have H4:Hid (Ioo w w4 (some ⟨bb,oo,none⟩) c M T (j+1) A' lo' hi'/\QMap w4 Bm L):=⟨H3.out.1.keep hb4,hqm⟩
        have HIs:Hid (Calls Tryz.prog 71 #[.map (some Bm),.slice a3 l c3] w4 (RetIs w4 L L)):=isOf_any Bm a3 l c3 L L w4 hqm (H3.out.2.2.1.below hb4) H3.out.2.2.2 (by omega)
        clear hb4 hqm HSet
        go_wp2_with fail
        (with_reducible refine HIs.out.mono ?_)
        rintro e w5 ⟨bq,rfl,hbq,hb5⟩
        have ebq:bq=true:=hbq.2 ⟨rfl,fun q hq=>hq⟩
        subst ebq
        have H5:Hid (Ioo w w5 (some ⟨bb,oo,none⟩) c M T (j+1) A' lo' hi'/\Fst w5 M T (j+1) (.map (some Bm))/\VIj M T (j+1)):=by
         refine ⟨H4.out.1.keep hb5,fun _=>⟨Bm,?_⟩,fun q hq=>?_,fun i h1 h2=>?_⟩
         ·have q1:=HT.out.1
          have q2:=HT.out.2.1
          have q3:=HG.out.1
          have q4:=H4.out.2.below hb5
          rw [<- q2] at q3
          rw [q3] at q4
          clear HT HKL HBe HG H4 HIs H3 H1 HS HM hbq
          subst hj0
          exact ⟨t',rfl,q1,q4⟩
         ·have e:q=j:=by omega
          rw [e]
          exact HG.out.2.2.2
         ·omega
        clear hb5 hbq
        go_wp2
        go_roundw
        case rel=>exact ⟨j+1,A',lo',hi',by omega,by go_num,H5.out⟩
        case measure=>simp [intOf];omega
       ·have hj0i:¬ (j:Int)=0:=by omega
        have hj0b:((j:Int) == 0)=false:=by simp;omega
        obtain ⟨Bm,t0,ef,hv0,hqm⟩:=H3.out.2.1 (by omega)
        subst ef
        have HIs:Hid (Calls Tryz.prog 71 #[.map (some Bm),.slice a3 l c3] w3 (RetIs w3 L ((keysR 21 t0).map (quadOf 0)))):=isOf_any Bm a3 l c3 L _ w3 hqm H3.out.2.2.1 H3.out.2.2.2 (by omega)
        have HV0:Hid (VTt (M 0) (T 0) t0):=hv0
        clear hqm hv0
        go_wp2_with fail
        (with_reducible refine HIs.out.mono ?_)
        rintro e w5 ⟨bq,rfl,hbq,hb5⟩
        have HB:Hid (bq=true↔SameQ j (M j) (T j) (M 0) (T 0)):=by
         rw [HG.out.1,same_of HT.out.1 HV0.out HT.out.2.1] at hbq
         exact hbq
        have H5:Hid (Ioo w w5 (some ⟨bb,oo,none⟩) c M T (j+1) A' lo' hi'/\Fst w5 M T j (.map (some Bm))):=⟨H3.out.1.keep hb5,H3.out.2.1.keep hb5⟩
        clear hb5 hbq HIs
        cases bq with
        | false=>
         have HF:Hid (¬ VI 6 M T):=fun q=>by
          have:=HB.out.2 (q.2.2 j (by omega) hlt)
          cases this
         go_wp2
         refine bodyPost_ret (v:=.tuple #[.pointer none,.bool false]) (by simp [results,Tryz.results36,go_sem]) rfl ?_
         exact .inl ⟨rfl,HF.out,H5.out.1.bel⟩
        | true=>
         have H6:Hid (Fst w5 M T (j+1) (.map (some Bm))/\VIj M T (j+1)):=by
          refine ⟨fun _=>H5.out.2 (by omega),fun q hq=>?_,fun i h1 h2=>?_⟩
          ·by_cases e:q=j
           ·rw [e]
            exact HG.out.2.2.2
           ·exact H1.out.2.2.1.1 q (by omega)
          ·by_cases e:i=j
           ·rw [e]
            exact HB.out.1 rfl
           ·exact H1.out.2.2.1.2 i h1 (by omega)
         go_wp2
         go_roundw
         case rel=>exact ⟨j+1,A',lo',hi',by omega,by go_num,H5.out.1,H6.out⟩
         case measure=>simp [intOf];omega
    ·go_wp2_with fail
     (with_reducible refine HBe.out.mono ?_)
     rintro e w2 ⟨rfl,hw2⟩
     subst hw2
     by_cases h300:300<kl
     ·have i300:(300:Int)<(kl:Int):=by omega
      have i300d:decide ((300:Int)<(kl:Int))=true:=decide_eq_true i300
      have HF:Hid (¬ VI 6 M T):=fun q=>by
       obtain ⟨t2,ht2,hl2,_⟩:=q.2.1 j hlt
       have e:=vtt1 ht2 HT.out.1
       subst e
       rw [HT.out.2.1,<- HKL.out] at hl2
       omega
      go_wp2
      refine bodyPost_ret (v:=.tuple #[.pointer none,.bool false]) (by simp [results,Tryz.results36,go_sem]) rfl ?_
      exact .inl ⟨rfl,HF.out,H1.out.1.bel⟩
     ·have i300:¬ (300:Int)<(kl:Int):=by omega
      have i300d:decide ((300:Int)<(kl:Int))=false:=decide_eq_false i300
      have hx12:=H1.out.1.sz
      obtain ⟨y0,x0⟩:∃y,w2.cell? ⟨w.heap.size+1,j*2,none⟩=some y:=⟨A[j*2],by rw [H1.out.1.xb.cell,Array.getElem?_eq_getElem (by omega)]⟩
      obtain ⟨y1,x1⟩:∃y,w2.cell? ⟨w.heap.size+1,j*2+1,none⟩=some y:=⟨A[j*2+1],by rw [H1.out.1.xb.cell,Array.getElem?_eq_getElem (by omega)]⟩
      have f0:=H1.out.1.xb.frozen (j*2)
      have f1:=H1.out.1.xb.frozen (j*2+1)
      have xl:=H1.out.1.xb.lt
      obtain ⟨W2,hW2⟩:∃W2,W2=(w2.setCell ⟨w.heap.size+1,j*2,none⟩ (.func (.func (layF j)) #[] #[])).setCell ⟨w.heap.size+1,j*2+1,none⟩ (.iface 174 (.pointer (some ⟨nb,0,none⟩))):=⟨_,rfl⟩
      have H2:Hid (∃A' lo' hi',Ioo w W2 (some ⟨bb,oo,none⟩) c M T (j+1) A' lo' hi'/\Fst W2 M T j u5/\Calls Tryz.prog 69 #[.pointer (some ⟨w.heap.size+1,j*2,none⟩)] W2 (RetQs W2 j (keysR (M j) t))):=by
       have q6:TAt (fun b=>w.heap.size+2<=b) w2 (M j) t (.iface 174 (.pointer (some ⟨nb,0,none⟩))):=HT.out.2.2.2.2.2.tat.mono (Nat.le_refl _) (fun b hB _=>⟨Nat.le_trans H1.out.2.2.2.2.1 hB,rfl⟩)
       obtain ⟨lo',hi',hput⟩:=H1.out.1.put hlt H1.out.2.2.2.2.1 H1.out.2.2.2.2.2 HT.out.1 HT.out.2.1 HT.out.2.2.1 HT.out.2.2.2.1 HT.out.2.2.2.2.1 HT.out.2.2.2.2.2
       rw [<- hW2] at hput
       refine ⟨_,lo',hi',hput,by rw [hW2];exact H1.out.2.1.put H1.out.1.xb,?_⟩
       refine quads_any j hlt (w.heap.size+1) (j*2) W2 (M j) t (.iface 174 (.pointer (some ⟨nb,0,none⟩))) hh ?_ ?_ ?_ HT.out.2.2.1 ?_ (by rw [<- HKL.out];omega)
       ·rw [hput.xb.cell,Array.getElem?_setIfInBounds_ne (by omega),Array.getElem?_setIfInBounds_self_of_lt (by omega)]
       ·rw [hput.xb.cell,Array.getElem?_setIfInBounds_self_of_lt (by simp;omega)]
       ·refine q6.mono (by rw [hW2];simp) (fun b hB hlt=>⟨by rw [hW2];simpa using hlt,?_⟩)
        rw [hW2]
        exact (Below.heap_setCell _ _ _ _ (by simp;omega)).trans (Below.heap_setCell _ _ _ _ (by simp;omega))
       ·rw [<- HT.out.2.1]
        exact asc_of_ascK HT.out.1.2.2.2.2.1
      go_wp2_with fail
      rw [<- hW2]
      clear hW2 x0 x1 f0 f1 xl hx12
      obtain ⟨A',lo',hi',g1,g2,g3⟩:=H2.out
      have HA:Hid (Ioo w W2 (some ⟨bb,oo,none⟩) c M T (j+1) A' lo' hi'/\Fst W2 M T j u5):=⟨g1,g2⟩
      have HQs:Hid (Calls Tryz.prog 69 #[.pointer (some ⟨w.heap.size+1,j*2,none⟩)] W2 (RetQs W2 j (keysR (M j) t))):=g3
      clear g1 g2 g3 H2
      (with_reducible refine HQs.out.mono ?_)
      rintro e w3 ⟨ok3,a3,c3,L,rfl,hb3,hrq,hr3⟩
      obtain ⟨l,hl⟩:∃l,l=L.length:=⟨_,rfl⟩
      have H3:Hid (Ioo w w3 (some ⟨bb,oo,none⟩) c M T (j+1) A' lo' hi'/\Fst w3 M T j u5/\RdQ w3 a3 L/\l=L.length):=⟨HA.out.1.keep hb3,HA.out.2.keep hb3,hrq,hl⟩
      have hl3:l<=300:=by
       rcases hr3 with ⟨_,q,_⟩|⟨_,q,_⟩
       ·rw [hl,q,List.length_map,<- HKL.out];omega
       ·rw [hl,q];simp
      rw [<- hl]
      clear hb3 hrq hl HA HQs
      cases ok3 with
      | false=>
       have HF:Hid (¬ VI 6 M T/\L.Nodup):=by
        rcases hr3 with ⟨q,_⟩|⟨_,q,hno⟩
        ·cases q
        ·refine ⟨fun q=>?_,by rw [q];exact List.nodup_nil⟩
         obtain ⟨t2,ht2,_,hg2⟩:=q.2.1 j hlt
         have e:=vtt1 ht2 HT.out.1
         subst e
         rw [HT.out.2.1] at hg2
         exact hno hg2
       clear hr3
       by_cases hj0:j=0
       ·have hj0i:(j:Int)=0:=by omega
        have hj0b:((j:Int) == 0)=true:=by simp;omega
        have HSet:Hid (Calls Tryz.prog 70 #[.slice a3 l c3] w3 fun e w'=>∃B,e=.returned (.map (some B))/\QMap w' B L/\Below w3.heap.size w3 w'/\w3.heap.size<=B):=setOf_any a3 l c3 L w3 H3.out.2.2.1 H3.out.2.2.2 (by omega) HF.out.2
        go_wp2_with fail
        (with_reducible refine HSet.out.mono ?_)
        rintro e w4 ⟨Bm,rfl,hqm,hb4,_⟩
        have H4:Hid (Below w.heap.size w w4):=H3.out.1.bel.trans (hb4.mono H3.out.1.bel.size)
        clear hb4 hqm
        go_wp2
        refine bodyPost_ret (v:=.tuple #[.pointer none,.bool false]) (by simp [results,Tryz.results36,go_sem]) rfl ?_
        exact .inl ⟨rfl,HF.out.1,H4.out⟩
       ·have hj0i:¬ (j:Int)=0:=by omega
        have hj0b:((j:Int) == 0)=false:=by simp;omega
        go_wp2
        refine bodyPost_ret (v:=.tuple #[.pointer none,.bool false]) (by simp [results,Tryz.results36,go_sem]) rfl ?_
        exact .inl ⟨rfl,HF.out.1,H3.out.1.bel⟩
      | true=>
       have HG:Hid (L=(keysR (M j) t).map (quadOf j)/\GoodK j (keysR (M j) t)/\L.Nodup/\OkT j (M j) (T j)):=by
        rcases hr3 with ⟨_,q,hgd⟩|⟨q,_⟩
        ·refine ⟨q,hgd,?_,t',HT.out.1,by rw [HT.out.2.1,<- HKL.out];omega,by rw [HT.out.2.1];exact hgd⟩
         rw [q]
         refine quads_nodup hlt ?_ (fun k hk=>(hgd k hk).1)
         rw [<- HT.out.2.1]
         exact asc_of_ascK HT.out.1.2.2.2.2.1
        ·cases q
       clear hr3
       by_cases hj0:j=0
       ·have hj0i:(j:Int)=0:=by omega
        have hj0b:((j:Int) == 0)=true:=by simp;omega
        have HSet:Hid (Calls Tryz.prog 70 #[.slice a3 l c3] w3 fun e w'=>∃B,e=.returned (.map (some B))/\QMap w' B L/\Below w3.heap.size w3 w'/\w3.heap.size<=B):=setOf_any a3 l c3 L w3 H3.out.2.2.1 H3.out.2.2.2 (by omega) HG.out.2.2.1
        go_wp2_with fail
        (with_reducible refine HSet.out.mono ?_)
        rintro e w4 ⟨Bm,rfl,hqm,hb4,_⟩
        have H4:Hid (Ioo w w4 (some ⟨bb,oo,none⟩) c M T (j+1) A' lo' hi'/\QMap w4 Bm L):=⟨H3.out.1.keep hb4,hqm⟩
        have HIs:Hid (Calls Tryz.prog 71 #[.map (some Bm),.slice a3 l c3] w4 (RetIs w4 L L)):=isOf_any Bm a3 l c3 L L w4 hqm (H3.out.2.2.1.below hb4) H3.out.2.2.2 (by omega)
        clear hb4 hqm HSet
        go_wp2_with fail
        (with_reducible refine HIs.out.mono ?_)
        rintro e w5 ⟨bq,rfl,hbq,hb5⟩
        have ebq:bq=true:=hbq.2 ⟨rfl,fun q hq=>hq⟩
        subst ebq
        have H5:Hid (Ioo w w5 (some ⟨bb,oo,none⟩) c M T (j+1) A' lo' hi'/\Fst w5 M T (j+1) (.map (some Bm))/\VIj M T (j+1)):=by
         refine ⟨H4.out.1.keep hb5,fun _=>⟨Bm,?_⟩,fun q hq=>?_,fun i h1 h2=>?_⟩
         ·have q1:=HT.out.1
          have q2:=HT.out.2.1
          have q3:=HG.out.1
          have q4:=H4.out.2.below hb5
          rw [<- q2] at q3
          rw [q3] at q4
          clear HT HKL HBe HG H4 HIs H3 H1 HS HM hbq
          subst hj0
          exact ⟨t',rfl,q1,q4⟩
         ·have e:q=j:=by omega
          rw [e]
          exact HG.out.2.2.2
         ·omega
        clear hb5 hbq
        go_wp2
        go_roundw
        case rel=>exact ⟨j+1,A',lo',hi',by omega,by go_num,H5.out⟩
        case measure=>simp [intOf];omega
       ·have hj0i:¬ (j:Int)=0:=by omega
        have hj0b:((j:Int) == 0)=false:=by simp;omega
        obtain ⟨Bm,t0,ef,hv0,hqm⟩:=H3.out.2.1 (by omega)
        subst ef
        have HIs:Hid (Calls Tryz.prog 71 #[.map (some Bm),.slice a3 l c3] w3 (RetIs w3 L ((keysR 21 t0).map (quadOf 0)))):=isOf_any Bm a3 l c3 L _ w3 hqm H3.out.2.2.1 H3.out.2.2.2 (by omega)
        have HV0:Hid (VTt (M 0) (T 0) t0):=hv0
        clear hqm hv0
        go_wp2_with fail
        (with_reducible refine HIs.out.mono ?_)
        rintro e w5 ⟨bq,rfl,hbq,hb5⟩
        have HB:Hid (bq=true↔SameQ j (M j) (T j) (M 0) (T 0)):=by
         rw [HG.out.1,same_of HT.out.1 HV0.out HT.out.2.1] at hbq
         exact hbq
        have H5:Hid (Ioo w w5 (some ⟨bb,oo,none⟩) c M T (j+1) A' lo' hi'/\Fst w5 M T j (.map (some Bm))):=⟨H3.out.1.keep hb5,H3.out.2.1.keep hb5⟩
        clear hb5 hbq HIs
        cases bq with
        | false=>
         have HF:Hid (¬ VI 6 M T):=fun q=>by
          have:=HB.out.2 (q.2.2 j (by omega) hlt)
          cases this
         go_wp2
         refine bodyPost_ret (v:=.tuple #[.pointer none,.bool false]) (by simp [results,Tryz.results36,go_sem]) rfl ?_
         exact .inl ⟨rfl,HF.out,H5.out.1.bel⟩
        | true=>
         have H6:Hid (Fst w5 M T (j+1) (.map (some Bm))/\VIj M T (j+1)):=by
          refine ⟨fun _=>H5.out.2 (by omega),fun q hq=>?_,fun i h1 h2=>?_⟩
          ·by_cases e:q=j
           ·rw [e]
            exact HG.out.2.2.2
           ·exact H1.out.2.2.1.1 q (by omega)
          ·by_cases e:i=j
           ·rw [e]
            exact HB.out.1 rfl
           ·exact H1.out.2.2.1.2 i h1 (by omega)
         go_wp2
         go_roundw
         case rel=>exact ⟨j+1,A',lo',hi',by omega,by go_num,H5.out.1,H6.out⟩
         case measure=>simp [intOf];omega
  ·obtain rfl:j=6:=by omega
   have j1:¬ (6:Int)<6:=by omega
   have HFin:Hid (VI 6 M T/\∃A lo hi,Ioo w wr a c M T 6 A lo hi):=⟨⟨rfl,HS.out.2.1,HS.out.2.2⟩,A,lo,hi,HS.out.1⟩
   clear hIS
   go_wp2
   refine bodyPost_ret (v:=.tuple #[.pointer (some ⟨w.heap.size+1,0,none⟩),.bool true]) (by simp [results,Tryz.results36,go_sem]) rfl ?_
   exact .inr ⟨rfl,HFin.out⟩
end Go.Proofs.YtcnollkkigiobaaGreat
