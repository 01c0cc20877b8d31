import Derived.Test.YtpaomghibppgkaaGreatNv43
import Derived.Test.YtpaomghibppgkaaGreatNv42
import Derived.Test.YtpaomghibppgkaaGreatNv36
import Derived.Test.YtpaomghibppgkaaGreatNv2
import Derived.Laws.EntriesVeiled
set_option linter.unusedVariables false
set_option maxRecDepth 100000
namespace Go.Proofs.YtpaomghibppgkaaGreat
open Go.RowKit Go.Deep

def layA:Array Value:=#[.func (.func 120) #[] #[],.func (.func 121) #[] #[],.func (.func 122) #[] #[],.func (.func 123) #[] #[],.func (.func 124) #[] #[],.func (.func 125) #[] #[]]
theorem lay_idx (j:Nat) (hj:j<6) (w:World):(Instr.index 194 (.agg layA) (.int .i64 (j:Int))).run Tryz.prog w=.ok (.func (.func (layF j)) #[] #[]) w:=by
 rcases (show j=0\/j=1\/j=2\/j=3\/j=4\/j=5 by omega) with rfl|rfl|rfl|rfl|rfl|rfl
 ·exact idx_0 w
 ·exact idx_1 w
 ·exact idx_2 w
 ·exact idx_3 w
 ·exact idx_4 w
 ·exact idx_5 w
def XT (B:Nat) (w:World) (A:Array Value) (M:Nat->Nat) (T:Nat->Nat->Tn) (q:Nat):Prop:=
 A[q*2]?=some (.func (.func (layF q)) #[] #[])/\∃(t:Ro (M q)) (t' : Ro 21) (h:Nat) (v:Value),VTt (M q) (T q) t'/\keysR 21 t'=keysR (M q) t/\BalR (M q) true t h/\Tells (T q) 0 (M q) t 0/\nodesR (M q) t=M q/\TAt (fun b=>B<=b) w (M q) t v/\A[q*2+1]?=some v
theorem XT.keep {B:Nat} {w w' : World} {A:Array Value} {M:Nat->Nat} {T:Nat->Nat->Tn} {q:Nat} (h:XT B w A M T q) (hz:w.heap.size<=w'.heap.size) (hb:∀k,k<w.heap.size->B<=k->w'.heap[k]?=w.heap[k]?):XT B w' A M T q:=by
 obtain ⟨h0,t,t',hh,v,h1,h2,h3,h4,h5,h6,h7⟩:=h
 exact ⟨h0,t,t',hh,v,h1,h2,h3,h4,h5,h6.mono hz (fun b hB hlt=>⟨hB,hb b hlt hB⟩),h7⟩
structure IS (w W:World) (a:Option Addr) (c:Nat) (M:Nat->Nat) (T:Nat->Nat->Tn) (j:Nat) (A:Array Value):Prop where
 ib:Bx W w.heap.size 46 #[.slice a 6 c]
 xb:Bx W (w.heap.size+1) 191 A
 sz:A.size=12
 bel:Below w.heap.size w W
 xt:∀q,q<j->XT (w.heap.size+2) W A M T q
theorem IS.keep {w W W' : World} {a:Option Addr} {c:Nat} {M:Nat->Nat} {T:Nat->Nat->Tn} {j:Nat} {A:Array Value} (h:IS w W a c M T j A) (hb:Below W.heap.size W W'):IS w W' a c M T j A:=
 ⟨(hb.block _ h.ib.lt).trans h.ib,(hb.block _ h.xb.lt).trans h.xb,h.sz,h.bel.trans (hb.mono h.bel.size),fun q hq=>(h.xt q hq).keep hb.size (fun k hk _=>hb.block k hk)⟩
theorem IS.put {w W:World} {a:Option Addr} {c:Nat} {M:Nat->Nat} {T:Nat->Nat->Tn} {j:Nat} {A:Array Value} (h:IS w W a c M T j A) (hj:j<6) {t:Ro (M j)} {t' : Ro 21} {hh:Nat} {v:Value} (h1:VTt (M j) (T j) t') (h2:keysR 21 t'=keysR (M j) t) (h3:BalR (M j) true t hh) (h4:Tells (T j) 0 (M j) t 0) (h5:nodesR (M j) t=M j) (h6:TAt (fun b=>w.heap.size+2<=b) W (M j) t v) :
  IS w ((W.setCell ⟨w.heap.size+1,j*2,none⟩ (.func (.func (layF j)) #[] #[])).setCell ⟨w.heap.size+1,j*2+1,none⟩ v) a c M T (j+1) ((A.setIfInBounds (j*2) (.func (.func (layF j)) #[] #[])).setIfInBounds (j*2+1) v):=by
 have hz:=h.sz
 have hk:∀k,w.heap.size+2<=k->((W.setCell ⟨w.heap.size+1,j*2,none⟩ (.func (.func (layF j)) #[] #[])).setCell ⟨w.heap.size+1,j*2+1,none⟩ v).heap[k]?=W.heap[k]?:=fun k hk=>(Below.heap_setCell _ _ _ _ (by simp;omega)).trans (Below.heap_setCell _ _ _ _ (by simp;omega))
 refine ⟨(h.ib.other (by simp) _).other (by simp) _,(h.xb.set _ _).set _ _,by simp [hz],(h.bel.setCell (by simp) _).setCell (by simp) _,fun q hq=>?_⟩
 by_cases e:q=j
 ·subst e
  refine ⟨?_,t,t',hh,v,h1,h2,h3,h4,h5,h6.mono (by simp) (fun b hB hlt=>⟨hB,hk b hB⟩),?_⟩
  ·rw [Array.getElem?_setIfInBounds_ne (by omega),Array.getElem?_setIfInBounds_self_of_lt (by omega)]
  ·rw [Array.getElem?_setIfInBounds_self_of_lt (by simp;omega)]
 ·obtain ⟨g0,s,s',sh,u,g1,g2,g3,g4,g5,g6,g7⟩:=h.xt q (by omega)
  refine ⟨?_,s,s',sh,u,g1,g2,g3,g4,g5,g6.mono (by simp) (fun b hB hlt=>⟨hB,hk b hB⟩),?_⟩
  ·rw [Array.getElem?_setIfInBounds_ne (by omega),Array.getElem?_setIfInBounds_ne (by omega)]
   exact g0
  ·rw [Array.getElem?_setIfInBounds_ne (by omega),Array.getElem?_setIfInBounds_ne (by omega)]
   exact g7
theorem same_of {j m m0:Nat} {N N0:Nat->Tn} {t t0:Ro 21} (hv:VTt m N t) (hv0:VTt m0 N0 t0) {K:List ByteArray} (hK:keysR 21 t=K):((K.map (quadOf j)).length=((keysR 21 t0).map (quadOf 0)).length/\∀q,q∈K.map (quadOf j)->q∈(keysR 21 t0).map (quadOf 0))↔SameQ j m N m0 N0:=by
 subst hK
 constructor
 ·rintro ⟨h1,h2⟩ s s0 hs hs0
  have e:=vtt1 hv hs
  have e0:=vtt1 hv0 hs0
  subst e
  subst e0
  exact ⟨by simpa using h1,fun k hk=>h2 _ (List.mem_map_of_mem hk)⟩
 ·intro h
  obtain ⟨h1,h2⟩:=h t t0 hv hv0
  refine ⟨by simpa using h1,fun q hq=>?_⟩
  obtain ⟨k,hk,rfl⟩:=List.mem_map.1 hq
  exact h2 k hk
def Fst (W:World) (M:Nat->Nat) (T:Nat->Nat->Tn) (j:Nat) (f:Value):Prop:=
 1<=j->∃(B:Nat) (t:Ro 21),f=.map (some B)/\VTt (M 0) (T 0) t/\QMap W B ((keysR 21 t).map (quadOf 0))
theorem Fst.keep {W W' : World} {M:Nat->Nat} {T:Nat->Nat->Tn} {j:Nat} {f:Value} (h:Fst W M T j f) (hb:Below W.heap.size W W'):Fst W' M T j f:=fun hj=>by
 obtain ⟨B,t,h1,h2,h3⟩:=h hj
 exact ⟨B,t,h1,h2,h3.below hb⟩
theorem Fst.put {W:World} {M:Nat->Nat} {T:Nat->Nat->Tn} {j b i i' : Nat} {f u u' : Value} {A:Array Value} {ty:TypeId} (h:Fst W M T j f) (hx:Bx W b ty A):Fst ((W.setCell ⟨b,i,none⟩ u).setCell ⟨b,i',none⟩ u') M T j f:=fun hj=>by
 obtain ⟨B,t,h1,h2,h3⟩:=h hj
 refine ⟨B,t,h1,h2,h3.kept ?_⟩
 have hne:B≠b:=by
  rintro rfl
  obtain ⟨es,cl,g,_⟩:=h3
  have hx' : W.heap[B]?=_:=hx
  rw [g] at hx'
  cases hx'
 exact (Below.heap_setCell _ _ _ _ hne).trans (Below.heap_setCell _ _ _ _ hne)
def VIj (M:Nat->Nat) (T:Nat->Nat->Tn) (j:Nat):Prop:=(∀q,q<j->OkT q (M q) (T q))/\∀i,1<=i->i<j->SameQ i (M i) (T i) (M 0) (T 0)
def RetIx (w:World) (a:Option Addr) (n c:Nat) (M:Nat->Nat) (T:Nat->Nat->Tn) (e:Ending) (w' : World):Prop:=
 (e=.returned (.tuple #[.pointer none,.bool false])/\¬ VI n M T/\Below w.heap.size w w')\/(e=.returned (.tuple #[.pointer (some ⟨w.heap.size+1,0,none⟩),.bool true])/\VI n M T/\∃A,IS w w' a c M T 6 A)

set_option maxHeartbeats 16000000 in
theorem readIndex_any (a:Option Addr) (n c:Nat) (M:Nat->Nat) (T:Nat->Nat->Tn) (w:World) (h:RdIx w a n M T) (hn:n<=1048576) (hN:IxFit n M T) :
  Calls Tryz.prog 72 #[.agg #[.slice a n c]] w (RetIx w a n c M T):=by
 by_cases h6:n=6
 case neg=>
  have h6i:¬ (n:Int)=6:=by omega
  have h6d:((n:Int) != 6)=true:=by simp;omega
  have HF:Hid (¬ VI n M T):=fun q=>h6 q.1
  clear h hN
  go_enter Tryz.func72,Tryz.ntmps72
  go_wp2
  refine bodyPost_ret (v:=.tuple #[.pointer none,.bool false]) (by simp [results,Tryz.results72,go_sem]) rfl ?_
  exact .inl ⟨rfl,HF.out,below_alloc _ _⟩
 case pos=>
 subst h6
 have HR:Hid (RdIx w a 6 M T/\IxFit 6 M T):=⟨h,hN⟩
 have HOr:Hid (∀W:World,Calls Tryz.prog 102 #[] W fun e w'=>e=.returned (.agg layA)/\Below W.heap.size W w'):=orders_any
 clear h hN hn
 go_enter Tryz.func72,Tryz.ntmps72
 go_wp2_with fail
 (with_reducible refine (HOr.out _).mono ?_)
 rintro e w0 ⟨rfl,hb0⟩
 have I0:Hid (∃A,IS w w0 a c M T 0 A):=by
  have b1:=Bx.new w #[.slice a 6 c] 46
  have b2:=Bx.new (w.alloc (.cells #[.slice a 6 c] 46)) #[.nilFunc,.nilIface,.nilFunc,.nilIface,.nilFunc,.nilIface,.nilFunc,.nilIface,.nilFunc,.nilIface,.nilFunc,.nilIface] 191
  simp only [World.size_alloc] at b2
  exact ⟨_,(hb0.block _ (by simp;omega)).trans (b1.alloc _),(hb0.block _ (by simp)).trans b2,rfl,((below_alloc _ _).alloc (by simp) _).trans (hb0.mono (by simp;omega)),fun q hq=>absurd hq (Nat.not_lt_zero _)⟩
 clear hb0 HOr
 go_wp2_with fail
 go_loopw [5,6,7,8,9,10,18] (fun f _ _ _ _ _ i wr=>∃(j:Nat) (A:Array Value),j<=6/\i=.int .i64 j/\IS w wr a c M T j A/\Fst wr M T j f/\VIj M T j) (fun _ _ _ _ _ _ i _=>6-(intOf i).toNat)
 case atStart=>
  obtain ⟨A,h⟩:=I0.out
  exact ⟨0,A,by omega,rfl,h,fun h=>absurd h (by omega),fun q hq=>absurd hq (Nat.not_lt_zero _),fun i _ h2=>absurd h2 (by omega)⟩
 case round=>
  obtain ⟨j,A,hj,rfl,hIS,hF,hV⟩:=hrel
  have HS:Hid (IS w wr a c M T j A/\VIj M T j):=⟨hIS,hV⟩
  have HFs:Hid (Fst wr M T j u5):=hF
  have j0:(0:Int)<=(j:Int):=by omega
  clear hF hV I0
  by_cases hlt:j<6
  ·have j1:(j:Int)<6:=by omega
   have b0:=hIS.ib.cell 0
   simp at b0
   have bl:=hIS.ib.lt
   have hix:=lay_idx j hlt
   rcases HR.out.1.below hIS.bel with q|⟨bb,oo,ea,hc⟩
   ·omega
   obtain ⟨aj,cj,s0,hrd⟩:=hc j hlt
   have hfit:=HR.out.2 j hlt
   obtain ⟨m,hm⟩:∃m,m=M j:=⟨_,rfl⟩
   have HM:Hid (m=M j):=hm
   have HRt:Hid (Calls Tryz.prog 103 #[.agg #[.slice aj m cj]] wr (RetTree wr (M j) (T j))):=by
    rw [hm]
    exact readTree_any aj (M j) cj (T j) wr hrd hfit.1 hfit.2
   rw [<- hm] at s0
   subst ea
   clear hc hrd hfit hm hIS
   go_wp2_with fail
   (with_reducible refine HRt.out.mono ?_)
   rintro e w1 ⟨hb1,v,ok,rfl,hr⟩
   have H1:Hid (IS w w1 (some ⟨bb,oo,none⟩) c M T j A/\Fst w1 M T j u5/\VIj M T j/\wr.heap.size<=w1.heap.size/\w.heap.size+2<=wr.heap.size):=⟨HS.out.1.keep hb1,HFs.out.keep hb1,HS.out.2,hb1.size,HS.out.1.xb.lt⟩
   clear hb1 HRt b0 bl s0 hix HFs
   cases ok with
   | false=>
    have HF:Hid (¬ VI 6 M T):=fun q=>by
     obtain ⟨t,ht,_⟩:=q.2.1 j hlt
     rcases hr with ⟨q,_⟩|⟨_,hno⟩
     ·cases q
     ·exact hno ⟨t,ht⟩
    clear hr
    go_wp2
    refine bodyPost_ret (v:=.tuple #[.pointer none,.bool false]) (by simp [results,Tryz.results72,go_sem]) rfl ?_
    exact .inl ⟨rfl,HF.out,H1.out.1.bel⟩
   | true=>
    obtain ⟨t,t',hh,q1,q2,q3,q4,q5,q6⟩:∃(t:Ro (M j)) (t' : Ro 21) (h:Nat),VTt (M j) (T j) t'/\keysR 21 t'=keysR (M j) t/\BalR (M j) true t h/\Tells (T j) 0 (M j) t 0/\nodesR (M j) t=M j/\TAt (fun b=>wr.heap.size<=b) w1 (M j) t v:=by
     rcases hr with ⟨_,q⟩|⟨q,_⟩
     ·exact q
     ·cases q
    have HT:Hid (VTt (M j) (T j) t'/\keysR 21 t'=keysR (M j) t/\BalR (M j) true t hh/\Tells (T j) 0 (M j) t 0/\nodesR (M j) t=M j/\TAt (fun b=>wr.heap.size<=b) w1 (M j) t v):=⟨q1,q2,q3,q4,q5,q6⟩
    obtain ⟨nb,_,hnb,c0,hv⟩:=q6.count
    obtain ⟨kl,hkl⟩:∃kl,kl=(keysR (M j) t).length:=⟨_,rfl⟩
    have HKL:Hid (kl=(keysR (M j) t).length):=hkl
    rw [<- hkl] at c0
    have HBe:Hid (Calls Tryz.prog 147 #[.pointer (some ⟨nb,0,none⟩)] w1 fun e w'=>e=.returned (.int .i64 (kl:Int))/\w'=w1):=below_any nb kl w1 c0
    clear hr q1 q2 q3 q4 q5 q6 hkl hnb c0
    rcases hv with rfl|rfl
    ·go_wp2_with fail
     (with_reducible refine HBe.out.mono ?_)
     rintro e w2 ⟨rfl,hw2⟩
     subst hw2
     by_cases h300:300<kl
     ·have i300:(300:Int)<(kl:Int):=by omega
      have i300d:decide ((300:Int)<(kl:Int))=true:=decide_eq_true i300
      have HF:Hid (¬ VI 6 M T):=fun q=>by
       obtain ⟨t2,ht2,hl2,_⟩:=q.2.1 j hlt
       have e:=vtt1 ht2 HT.out.1
       subst e
       rw [HT.out.2.1,<- HKL.out] at hl2
       omega
      go_wp2
      refine bodyPost_ret (v:=.tuple #[.pointer none,.bool false]) (by simp [results,Tryz.results72,go_sem]) rfl ?_
      exact .inl ⟨rfl,HF.out,H1.out.1.bel⟩
     ·have i300:¬ (300:Int)<(kl:Int):=by omega
      have i300d:decide ((300:Int)<(kl:Int))=false:=decide_eq_false i300
      have hx12:=H1.out.1.sz
      obtain ⟨y0,x0⟩:∃y,w2.cell? ⟨w.heap.size+1,j*2,none⟩=some y:=⟨A[j*2],by rw [H1.out.1.xb.cell,Array.getElem?_eq_getElem (by omega)]⟩
      obtain ⟨y1,x1⟩:∃y,w2.cell? ⟨w.heap.size+1,j*2+1,none⟩=some y:=⟨A[j*2+1],by rw [H1.out.1.xb.cell,Array.getElem?_eq_getElem (by omega)]⟩
      have f0:=H1.out.1.xb.frozen (j*2)
      have f1:=H1.out.1.xb.frozen (j*2+1)
      have xl:=H1.out.1.xb.lt
      obtain ⟨W2,hW2⟩:∃W2,W2=(w2.setCell ⟨w.heap.size+1,j*2,none⟩ (.func (.func (layF j)) #[] #[])).setCell ⟨w.heap.size+1,j*2+1,none⟩ (.iface 243 (.pointer (some ⟨nb,0,none⟩))):=⟨_,rfl⟩
      have H2:Hid (∃A',IS w W2 (some ⟨bb,oo,none⟩) c M T (j+1) A'/\Fst W2 M T j u5/\Calls Tryz.prog 104 #[.pointer (some ⟨w.heap.size+1,j*2,none⟩)] W2 (RetQs W2 j (keysR (M j) t))):=by
       have q6:TAt (fun b=>w.heap.size+2<=b) w2 (M j) t (.iface 243 (.pointer (some ⟨nb,0,none⟩))):=HT.out.2.2.2.2.2.mono (Nat.le_refl _) (fun b hB _=>⟨Nat.le_trans H1.out.2.2.2.2 hB,rfl⟩)
       have hput:=H1.out.1.put hlt HT.out.1 HT.out.2.1 HT.out.2.2.1 HT.out.2.2.2.1 HT.out.2.2.2.2.1 q6
       rw [<- hW2] at hput
       refine ⟨_,hput,by rw [hW2];exact H1.out.2.1.put H1.out.1.xb,?_⟩
       refine quads_any j hlt (w.heap.size+1) (j*2) W2 (M j) t (.iface 243 (.pointer (some ⟨nb,0,none⟩))) hh ?_ ?_ ?_ HT.out.2.2.1 ?_ (by rw [<- HKL.out];omega)
       ·rw [hput.xb.cell,Array.getElem?_setIfInBounds_ne (by omega),Array.getElem?_setIfInBounds_self_of_lt (by omega)]
       ·rw [hput.xb.cell,Array.getElem?_setIfInBounds_self_of_lt (by simp;omega)]
       ·refine q6.mono (by rw [hW2];simp) (fun b hB hlt=>⟨by rw [hW2];simpa using hlt,?_⟩)
        rw [hW2]
        exact (Below.heap_setCell _ _ _ _ (by simp;omega)).trans (Below.heap_setCell _ _ _ _ (by simp;omega))
       ·rw [<- HT.out.2.1]
        exact asc_of_ascK HT.out.1.2.2.2.2.1
      go_wp2_with fail
      rw [<- hW2]
      clear hW2 x0 x1 f0 f1 xl hx12
      obtain ⟨A',g1,g2,g3⟩:=H2.out
      have HA:Hid (IS w W2 (some ⟨bb,oo,none⟩) c M T (j+1) A'/\Fst W2 M T j u5):=⟨g1,g2⟩
      have HQs:Hid (Calls Tryz.prog 104 #[.pointer (some ⟨w.heap.size+1,j*2,none⟩)] W2 (RetQs W2 j (keysR (M j) t))):=g3
      clear g1 g2 g3 H2
      (with_reducible refine HQs.out.mono ?_)
      rintro e w3 ⟨ok3,a3,c3,L,rfl,hb3,hrq,hr3⟩
      obtain ⟨l,hl⟩:∃l,l=L.length:=⟨_,rfl⟩
      have H3:Hid (IS w w3 (some ⟨bb,oo,none⟩) c M T (j+1) A'/\Fst w3 M T j u5/\RdQ w3 a3 L/\l=L.length):=⟨HA.out.1.keep hb3,HA.out.2.keep hb3,hrq,hl⟩
      have hl3:l<=300:=by
       rcases hr3 with ⟨_,q,_⟩|⟨_,q,_⟩
       ·rw [hl,q,List.length_map,<- HKL.out];omega
       ·rw [hl,q];simp
      rw [<- hl]
      clear hb3 hrq hl HA HQs
      cases ok3 with
      | false=>
       have HF:Hid (¬ VI 6 M T/\L.Nodup):=by
        rcases hr3 with ⟨q,_⟩|⟨_,q,hno⟩
        ·cases q
        ·refine ⟨fun q=>?_,by rw [q];exact List.nodup_nil⟩
         obtain ⟨t2,ht2,_,hg2⟩:=q.2.1 j hlt
         have e:=vtt1 ht2 HT.out.1
         subst e
         rw [HT.out.2.1] at hg2
         exact hno hg2
       clear hr3
       by_cases hj0:j=0
       ·have hj0i:(j:Int)=0:=by omega
        have hj0b:((j:Int) == 0)=true:=by simp;omega
        have HSet:Hid (Calls Tryz.prog 105 #[.slice a3 l c3] w3 fun e w'=>∃B,e=.returned (.map (some B))/\QMap w' B L/\Below w3.heap.size w3 w'/\w3.heap.size<=B):=setOf_any a3 l c3 L w3 H3.out.2.2.1 H3.out.2.2.2 (by omega) HF.out.2
        go_wp2_with fail
        (with_reducible refine HSet.out.mono ?_)
        rintro e w4 ⟨Bm,rfl,hqm,hb4,_⟩
        have H4:Hid (Below w.heap.size w w4):=H3.out.1.bel.trans (hb4.mono H3.out.1.bel.size)
        clear hb4 hqm
        go_wp2
        refine bodyPost_ret (v:=.tuple #[.pointer none,.bool false]) (by simp [results,Tryz.results72,go_sem]) rfl ?_
        exact .inl ⟨rfl,HF.out.1,H4.out⟩
       ·have hj0i:¬ (j:Int)=0:=by omega
        have hj0b:((j:Int) == 0)=false:=by simp;omega
        go_wp2
        refine bodyPost_ret (v:=.tuple #[.pointer none,.bool false]) (by simp [results,Tryz.results72,go_sem]) rfl ?_
        exact .inl ⟨rfl,HF.out.1,H3.out.1.bel⟩
      | true=>
       have HG:Hid (L=(keysR (M j) t).map (quadOf j)/\GoodK j (keysR (M j) t)/\L.Nodup/\OkT j (M j) (T j)):=by
        rcases hr3 with ⟨_,q,hgd⟩|⟨q,_⟩
        ·refine ⟨q,hgd,?_,t',HT.out.1,by rw [HT.out.2.1,<- HKL.out];omega,by rw [HT.out.2.1];exact hgd⟩
         rw [q]
         refine quads_nodup hlt ?_ (fun k hk=>(hgd k hk).1)
         rw [<- HT.out.2.1]
         exact asc_of_ascK HT.out.1.2.2.2.2.1
        ·cases q
       clear hr3
       by_cases hj0:j=0
       ·have hj0i:(j:Int)=0:=by omega
        have hj0b:((j:Int) == 0)=true:=by simp;omega
        have HSet:Hid (Calls Tryz.prog 105 #[.slice a3 l c3] w3 fun e w'=>∃B,e=.returned (.map (some B))/\QMap w' B L/\Below w3.heap.size w3 w'/\w3.heap.size<=B):=setOf_any a3 l c3 L w3 H3.out.2.2.1 H3.out.2.2.2 (by omega) HG.out.2.2.1
        go_wp2_with fail
        (with_reducible refine HSet.out.mono ?_)
        rintro e w4 ⟨Bm,rfl,hqm,hb4,_⟩
        have H4:Hid (IS w w4 (some ⟨bb,oo,none⟩) c M T (j+1) A'/\QMap w4 Bm L):=⟨H3.out.1.keep hb4,hqm⟩
        have HIs:Hid (Calls Tryz.prog 106 #[.map (some Bm),.slice a3 l c3] w4 (RetIs w4 L L)):=isOf_any Bm a3 l c3 L L w4 hqm (H3.out.2.2.1.below hb4) H3.out.2.2.2 (by omega)
        clear hb4 hqm HSet
        go_wp2_with fail
        (with_reducible refine HIs.out.mono ?_)
        rintro e w5 ⟨bq,rfl,hbq,hb5⟩
        have ebq:bq=true:=hbq.2 ⟨rfl,fun q hq=>hq⟩
        subst ebq
        have H5:Hid (IS w w5 (some ⟨bb,oo,none⟩) c M T (j+1) A'/\Fst w5 M T (j+1) (.map (some Bm))/\VIj M T (j+1)):=by
         refine ⟨H4.out.1.keep hb5,fun _=>⟨Bm,?_⟩,fun q hq=>?_,fun i h1 h2=>?_⟩
         ·have q1:=HT.out.1
          have q2:=HT.out.2.1
          have q3:=HG.out.1
          have q4:=H4.out.2.below hb5
          rw [<- q2] at q3
          rw [q3] at q4
          clear HT HKL HBe HG H4 HIs H3 H1 HS HM hbq
          subst hj0
          exact ⟨t',rfl,q1,q4⟩
         ·have e:q=j:=by omega
          rw [e]
          exact HG.out.2.2.2
         ·omega
        clear hb5 hbq
        go_wp2
        go_roundw
        case rel=>exact ⟨j+1,A',by omega,by go_num,H5.out⟩
        case measure=>simp [intOf];omega
       ·have hj0i:¬ (j:Int)=0:=by omega
        have hj0b:((j:Int) == 0)=false:=by simp;omega
        obtain ⟨Bm,t0,ef,hv0,hqm⟩:=H3.out.2.1 (by omega)
        subst ef
        have HIs:Hid (Calls Tryz.prog 106 #[.map (some Bm),.slice a3 l c3] w3 (RetIs w3 L ((keysR 21 t0).map (quadOf 0)))):=isOf_any Bm a3 l c3 L _ w3 hqm H3.out.2.2.1 H3.out.2.2.2 (by omega)
        have HV0:Hid (VTt (M 0) (T 0) t0):=hv0
        clear hqm hv0
        go_wp2_with fail
        (with_reducible refine HIs.out.mono ?_)
        rintro e w5 ⟨bq,rfl,hbq,hb5⟩
        have HB:Hid (bq=true↔SameQ j (M j) (T j) (M 0) (T 0)):=by
         rw [HG.out.1,same_of HT.out.1 HV0.out HT.out.2.1] at hbq
         exact hbq
        have H5:Hid (IS w w5 (some ⟨bb,oo,none⟩) c M T (j+1) A'/\Fst w5 M T j (.map (some Bm))):=⟨H3.out.1.keep hb5,H3.out.2.1.keep hb5⟩
        clear hb5 hbq HIs
        cases bq with
        | false=>
         have HF:Hid (¬ VI 6 M T):=fun q=>by
          have:=HB.out.2 (q.2.2 j (by omega) hlt)
          cases this
         go_wp2
         refine bodyPost_ret (v:=.tuple #[.pointer none,.bool false]) (by simp [results,Tryz.results72,go_sem]) rfl ?_
         exact .inl ⟨rfl,HF.out,H5.out.1.bel⟩
        | true=>
         have H6:Hid (Fst w5 M T (j+1) (.map (some Bm))/\VIj M T (j+1)):=by
          refine ⟨fun _=>H5.out.2 (by omega),fun q hq=>?_,fun i h1 h2=>?_⟩
          ·by_cases e:q=j
           ·rw [e]
            exact HG.out.2.2.2
           ·exact H1.out.2.2.1.1 q (by omega)
          ·by_cases e:i=j
           ·rw [e]
            exact HB.out.1 rfl
           ·exact H1.out.2.2.1.2 i h1 (by omega)
         go_wp2
         go_roundw
         case rel=>exact ⟨j+1,A',by omega,by go_num,H5.out.1,H6.out⟩
         case measure=>simp [intOf];omega
    ·go_wp2_with fail
     (with_reducible refine HBe.out.mono ?_)
     rintro e w2 ⟨rfl,hw2⟩
     subst hw2
     by_cases h300:300<kl
     ·have i300:(300:Int)<(kl:Int):=by omega
      have i300d:decide ((300:Int)<(kl:Int))=true:=decide_eq_true i300
      have HF:Hid (¬ VI 6 M T):=fun q=>by
       obtain ⟨t2,ht2,hl2,_⟩:=q.2.1 j hlt
       have e:=vtt1 ht2 HT.out.1
       subst e
       rw [HT.out.2.1,<- HKL.out] at hl2
       omega
      go_wp2
      refine bodyPost_ret (v:=.tuple #[.pointer none,.bool false]) (by simp [results,Tryz.results72,go_sem]) rfl ?_
      exact .inl ⟨rfl,HF.out,H1.out.1.bel⟩
     ·have i300:¬ (300:Int)<(kl:Int):=by omega
      have i300d:decide ((300:Int)<(kl:Int))=false:=decide_eq_false i300
      have hx12:=H1.out.1.sz
      obtain ⟨y0,x0⟩:∃y,w2.cell? ⟨w.heap.size+1,j*2,none⟩=some y:=⟨A[j*2],by rw [H1.out.1.xb.cell,Array.getElem?_eq_getElem (by omega)]⟩
      obtain ⟨y1,x1⟩:∃y,w2.cell? ⟨w.heap.size+1,j*2+1,none⟩=some y:=⟨A[j*2+1],by rw [H1.out.1.xb.cell,Array.getElem?_eq_getElem (by omega)]⟩
      have f0:=H1.out.1.xb.frozen (j*2)
      have f1:=H1.out.1.xb.frozen (j*2+1)
      have xl:=H1.out.1.xb.lt
      obtain ⟨W2,hW2⟩:∃W2,W2=(w2.setCell ⟨w.heap.size+1,j*2,none⟩ (.func (.func (layF j)) #[] #[])).setCell ⟨w.heap.size+1,j*2+1,none⟩ (.iface 248 (.pointer (some ⟨nb,0,none⟩))):=⟨_,rfl⟩
      have H2:Hid (∃A',IS w W2 (some ⟨bb,oo,none⟩) c M T (j+1) A'/\Fst W2 M T j u5/\Calls Tryz.prog 104 #[.pointer (some ⟨w.heap.size+1,j*2,none⟩)] W2 (RetQs W2 j (keysR (M j) t))):=by
       have q6:TAt (fun b=>w.heap.size+2<=b) w2 (M j) t (.iface 248 (.pointer (some ⟨nb,0,none⟩))):=HT.out.2.2.2.2.2.mono (Nat.le_refl _) (fun b hB _=>⟨Nat.le_trans H1.out.2.2.2.2 hB,rfl⟩)
       have hput:=H1.out.1.put hlt HT.out.1 HT.out.2.1 HT.out.2.2.1 HT.out.2.2.2.1 HT.out.2.2.2.2.1 q6
       rw [<- hW2] at hput
       refine ⟨_,hput,by rw [hW2];exact H1.out.2.1.put H1.out.1.xb,?_⟩
       refine quads_any j hlt (w.heap.size+1) (j*2) W2 (M j) t (.iface 248 (.pointer (some ⟨nb,0,none⟩))) hh ?_ ?_ ?_ HT.out.2.2.1 ?_ (by rw [<- HKL.out];omega)
       ·rw [hput.xb.cell,Array.getElem?_setIfInBounds_ne (by omega),Array.getElem?_setIfInBounds_self_of_lt (by omega)]
       ·rw [hput.xb.cell,Array.getElem?_setIfInBounds_self_of_lt (by simp;omega)]
       ·refine q6.mono (by rw [hW2];simp) (fun b hB hlt=>⟨by rw [hW2];simpa using hlt,?_⟩)
        rw [hW2]
        exact (Below.heap_setCell _ _ _ _ (by simp;omega)).trans (Below.heap_setCell _ _ _ _ (by simp;omega))
       ·rw [<- HT.out.2.1]
        exact asc_of_ascK HT.out.1.2.2.2.2.1
      go_wp2_with fail
      rw [<- hW2]
      clear hW2 x0 x1 f0 f1 xl hx12
      obtain ⟨A',g1,g2,g3⟩:=H2.out
      have HA:Hid (IS w W2 (some ⟨bb,oo,none⟩) c M T (j+1) A'/\Fst W2 M T j u5):=⟨g1,g2⟩
      have HQs:Hid (Calls Tryz.prog 104 #[.pointer (some ⟨w.heap.size+1,j*2,none⟩)] W2 (RetQs W2 j (keysR (M j) t))):=g3
      clear g1 g2 g3 H2
      (with_reducible refine HQs.out.mono ?_)
      rintro e w3 ⟨ok3,a3,c3,L,rfl,hb3,hrq,hr3⟩
      obtain ⟨l,hl⟩:∃l,l=L.length:=⟨_,rfl⟩
      have H3:Hid (IS w w3 (some ⟨bb,oo,none⟩) c M T (j+1) A'/\Fst w3 M T j u5/\RdQ w3 a3 L/\l=L.length):=⟨HA.out.1.keep hb3,HA.out.2.keep hb3,hrq,hl⟩
      have hl3:l<=300:=by
       rcases hr3 with ⟨_,q,_⟩|⟨_,q,_⟩
       ·rw [hl,q,List.length_map,<- HKL.out];omega
       ·rw [hl,q];simp
      rw [<- hl]
      clear hb3 hrq hl HA HQs
      cases ok3 with
      | false=>
       have HF:Hid (¬ VI 6 M T/\L.Nodup):=by
        rcases hr3 with ⟨q,_⟩|⟨_,q,hno⟩
        ·cases q
        ·refine ⟨fun q=>?_,by rw [q];exact List.nodup_nil⟩
         obtain ⟨t2,ht2,_,hg2⟩:=q.2.1 j hlt
         have e:=vtt1 ht2 HT.out.1
         subst e
         rw [HT.out.2.1] at hg2
         exact hno hg2
       clear hr3
       by_cases hj0:j=0
       ·have hj0i:(j:Int)=0:=by omega
        have hj0b:((j:Int) == 0)=true:=by simp;omega
        have HSet:Hid (Calls Tryz.prog 105 #[.slice a3 l c3] w3 fun e w'=>∃B,e=.returned (.map (some B))/\QMap w' B L/\Below w3.heap.size w3 w'/\w3.heap.size<=B):=setOf_any a3 l c3 L w3 H3.out.2.2.1 H3.out.2.2.2 (by omega) HF.out.2
        go_wp2_with fail
        (with_reducible refine HSet.out.mono ?_)
        rintro e w4 ⟨Bm,rfl,hqm,hb4,_⟩
        have H4:Hid (Below w.heap.size w w4):=H3.out.1.bel.trans (hb4.mono H3.out.1.bel.size)
        clear hb4 hqm
        go_wp2
        refine bodyPost_ret (v:=.tuple #[.pointer none,.bool false]) (by simp [results,Tryz.results72,go_sem]) rfl ?_
        exact .inl ⟨rfl,HF.out.1,H4.out⟩
       ·have hj0i:¬ (j:Int)=0:=by omega
        have hj0b:((j:Int) == 0)=false:=by simp;omega
        go_wp2
        refine bodyPost_ret (v:=.tuple #[.pointer none,.bool false]) (by simp [results,Tryz.results72,go_sem]) rfl ?_
        exact .inl ⟨rfl,HF.out.1,H3.out.1.bel⟩
      | true=>
       have HG:Hid (L=(keysR (M j) t).map (quadOf j)/\GoodK j (keysR (M j) t)/\L.Nodup/\OkT j (M j) (T j)):=by
        rcases hr3 with ⟨_,q,hgd⟩|⟨q,_⟩
        ·refine ⟨q,hgd,?_,t',HT.out.1,by rw [HT.out.2.1,<- HKL.out];omega,by rw [HT.out.2.1];exact hgd⟩
         rw [q]
         refine quads_nodup hlt ?_ (fun k hk=>(hgd k hk).1)
         rw [<- HT.out.2.1]
         exact asc_of_ascK HT.out.1.2.2.2.2.1
        ·cases q
       clear hr3
       by_cases hj0:j=0
       ·have hj0i:(j:Int)=0:=by omega
        have hj0b:((j:Int) == 0)=true:=by simp;omega
        have HSet:Hid (Calls Tryz.prog 105 #[.slice a3 l c3] w3 fun e w'=>∃B,e=.returned (.map (some B))/\QMap w' B L/\Below w3.heap.size w3 w'/\w3.heap.size<=B):=setOf_any a3 l c3 L w3 H3.out.2.2.1 H3.out.2.2.2 (by omega) HG.out.2.2.1
        go_wp2_with fail
        (with_reducible refine HSet.out.mono ?_)
        rintro e w4 ⟨Bm,rfl,hqm,hb4,_⟩
        have H4:Hid (IS w w4 (some ⟨bb,oo,none⟩) c M T (j+1) A'/\QMap w4 Bm L):=⟨H3.out.1.keep hb4,hqm⟩
        have HIs:Hid (Calls Tryz.prog 106 #[.map (some Bm),.slice a3 l c3] w4 (RetIs w4 L L)):=isOf_any Bm a3 l c3 L L w4 hqm (H3.out.2.2.1.below hb4) H3.out.2.2.2 (by omega)
        clear hb4 hqm HSet
        go_wp2_with fail
        (with_reducible refine HIs.out.mono ?_)
        rintro e w5 ⟨bq,rfl,hbq,hb5⟩
        have ebq:bq=true:=hbq.2 ⟨rfl,fun q hq=>hq⟩
        subst ebq
        have H5:Hid (IS w w5 (some ⟨bb,oo,none⟩) c M T (j+1) A'/\Fst w5 M T (j+1) (.map (some Bm))/\VIj M T (j+1)):=by
         refine ⟨H4.out.1.keep hb5,fun _=>⟨Bm,?_⟩,fun q hq=>?_,fun i h1 h2=>?_⟩
         ·have q1:=HT.out.1
          have q2:=HT.out.2.1
          have q3:=HG.out.1
          have q4:=H4.out.2.below hb5
          rw [<- q2] at q3
          rw [q3] at q4
          clear HT HKL HBe HG H4 HIs H3 H1 HS HM hbq
          subst hj0
          exact ⟨t',rfl,q1,q4⟩
         ·have e:q=j:=by omega
          rw [e]
          exact HG.out.2.2.2
         ·omega
        clear hb5 hbq
        go_wp2
        go_roundw
        case rel=>exact ⟨j+1,A',by omega,by go_num,H5.out⟩
        case measure=>simp [intOf];omega
       ·have hj0i:¬ (j:Int)=0:=by omega
        have hj0b:((j:Int) == 0)=false:=by simp;omega
        obtain ⟨Bm,t0,ef,hv0,hqm⟩:=H3.out.2.1 (by omega)
        subst ef
        have HIs:Hid (Calls Tryz.prog 106 #[.map (some Bm),.slice a3 l c3] w3 (RetIs w3 L ((keysR 21 t0).map (quadOf 0)))):=isOf_any Bm a3 l c3 L _ w3 hqm H3.out.2.2.1 H3.out.2.2.2 (by omega)
        have HV0:Hid (VTt (M 0) (T 0) t0):=hv0
        clear hqm hv0
        go_wp2_with fail
        (with_reducible refine HIs.out.mono ?_)
        rintro e w5 ⟨bq,rfl,hbq,hb5⟩
        have HB:Hid (bq=true↔SameQ j (M j) (T j) (M 0) (T 0)):=by
         rw [HG.out.1,same_of HT.out.1 HV0.out HT.out.2.1] at hbq
         exact hbq
        have H5:Hid (IS w w5 (some ⟨bb,oo,none⟩) c M T (j+1) A'/\Fst w5 M T j (.map (some Bm))):=⟨H3.out.1.keep hb5,H3.out.2.1.keep hb5⟩
        clear hb5 hbq HIs
        cases bq with
        | false=>
         have HF:Hid (¬ VI 6 M T):=fun q=>by
          have:=HB.out.2 (q.2.2 j (by omega) hlt)
          cases this
         go_wp2
         refine bodyPost_ret (v:=.tuple #[.pointer none,.bool false]) (by simp [results,Tryz.results72,go_sem]) rfl ?_
         exact .inl ⟨rfl,HF.out,H5.out.1.bel⟩
        | true=>
         have H6:Hid (Fst w5 M T (j+1) (.map (some Bm))/\VIj M T (j+1)):=by
          refine ⟨fun _=>H5.out.2 (by omega),fun q hq=>?_,fun i h1 h2=>?_⟩
          ·by_cases e:q=j
           ·rw [e]
            exact HG.out.2.2.2
           ·exact H1.out.2.2.1.1 q (by omega)
          ·by_cases e:i=j
           ·rw [e]
            exact HB.out.1 rfl
           ·exact H1.out.2.2.1.2 i h1 (by omega)
         go_wp2
         go_roundw
         case rel=>exact ⟨j+1,A',by omega,by go_num,H5.out.1,H6.out⟩
         case measure=>simp [intOf];omega
  ·obtain rfl:j=6:=by omega
   have j1:¬ (6:Int)<6:=by omega
   have HFin:Hid (VI 6 M T/\∃A,IS w wr a c M T 6 A):=⟨⟨rfl,HS.out.2.1,HS.out.2.2⟩,A,HS.out.1⟩
   clear hIS
   go_wp2
   refine bodyPost_ret (v:=.tuple #[.pointer (some ⟨w.heap.size+1,0,none⟩),.bool true]) (by simp [results,Tryz.results72,go_sem]) rfl ?_
   exact .inr ⟨rfl,HFin.out⟩
end Go.Proofs.YtpaomghibppgkaaGreat
