import Derived.Test.YtpaomghibppgkaaGreatNv4
import Derived.Test.YtpaomghibppgkaaGreatNv1
import Derived.Deep.CutBlock
import Derived.Test.YtpaomghibppgkaaGreatNv3
set_option linter.unusedVariables false
set_option maxRecDepth 100000
namespace Go.Proofs.YtpaomghibppgkaaGreat
open Go.RowKit Go.Deep

abbrev KR (w:World) (a:Option Addr) (n _c:Nat) (X:Nat->ByteArray):Prop:=RdS w a n X
def NA (w:World) (d:Nat) (t:Ro d) (v:Value):Prop:=NestAt (KR w) (fun _=>True) w d t v
def NAC (C:Nat->Nat->Prop) (w:World) (d:Nat) (t:Ro d) (v:Value):Prop:=NestAt (fun a n c X=>RdS w a n X/\C n c) (fun _=>True) w d t v
theorem NAC.na {C:Nat->Nat->Prop} {w:World} {d:Nat} {t:Ro d} {v:Value} (h:NAC C w d t v):NA w d t v:=
 NestAt.mono (fun _ _ _ _ q=>q.1) (fun _ q _=>q) (Nat.le_refl _) (fun _ _ _ _=>rfl) h
theorem NAC.below {C:Nat->Nat->Prop} {w w' : World} {d:Nat} {t:Ro d} {v:Value} (h:NAC C w d t v) (hb:Below w.heap.size w w'):NAC C w' d t v:=
 NestAt.mono (fun _ _ _ _ q=>⟨q.1.below hb,q.2⟩) (fun _ q _=>q) hb.size (fun b j _ hlt=>hb.cell (p:=⟨b,j,none⟩) hlt) h

theorem NA.below {w w' : World} {d:Nat} {t:Ro d} {v:Value} (h:NA w d t v) (hb:Below w.heap.size w w'):NA w' d t v:=
 NestAt.mono (fun _ _ _ _ q=>q.below hb) (fun _ q _=>q) hb.size (fun b j _ hlt=>hb.cell (p:=⟨b,j,none⟩) hlt) h

def strL (L:List ByteArray):List Value:=L.map .string
theorem strL_length (L:List ByteArray):(strL L).length=L.length:=by simp [strL]
theorem strL_app (L M:List ByteArray):strL (L++M)=strL L++strL M:=by simp [strL]
theorem strL_row (L:List ByteArray):strL L=strRow (gt L) L.length:=by
 apply List.ext_getElem?
 intro i
 by_cases h:i<L.length
 ·rw [strRow_get _ _ _ h]
  simp [strL,gt,List.getD_eq_getElem?_getD,h]
 ·have h1:(strL L)[i]?=none:=List.getElem?_eq_none (by rw [strL_length];omega)
  have h2:(strRow (gt L) L.length)[i]?=none:=List.getElem?_eq_none (by rw [strRow_length];omega)
  rw [h1,h2]

theorem wpList_append_strs {w:World} {ops:Array Oper} {rest:List Oper} {o:Oper} {act:Act} {Q:Exit->Act->World->Prop} (hgd:o.guard=none) (s x:Operand)
  (ho:o.op=.call { callee:=.builtin .append,args:=#[s,x],argTypes:=#[113,113] })
  (B:Nat) (v:Value) (n:Nat) (xs:List Value) (hs:act.eval s=v) (hown:w.ownsRow B 9 1 v n xs)
  (a:Option Addr) (m c:Nat) (L:List ByteArray) (hx:act.eval x=.slice a m c) (hm:m=L.length) (hrd:RdS w a m (gt L)) (hnm:n+m<=1099511627776) (hB:B<=w.heap.size)
  (h:∀v' w',w'.ownsRow B 9 1 v' (n+m) (xs++strL L)->w.grownBy w' v.ownBlock->(v'.ownBlock=v.ownBlock\/v'.ownBlock=some w.heap.size)->wpList Tryz.prog ops Q rest (act.put o.dst v') w'):wpList Tryz.prog ops Q (o::rest) act w:=by
 obtain ⟨i0,hi,hz0,hz1,hz2⟩:=info_parts Tryz.info9
 by_cases hm0:m=0
 ·subst hm0
  have hL:L=[]:=List.length_eq_zero_iff.1 hm.symm
  subst hL
  have hsrc:Src Tryz.prog i0.size 113 (.slice a 0 c) 0 [] w:=by
   cases a with
   | none=>exact Src.ofNil w Tryz.underlying113 c
   | some ad=>exact Src.ofSlice w Tryz.underlying113 ad 0 c [] (by simp) (by simp) (by simp)
  have hsh:∃b l cap,v=.slice b l cap/\l<=cap:=by
   rcases hown.2 with ⟨rfl,rfl⟩|⟨g,cap,cur,rfl,_,_,h1,_⟩
   ·exact ⟨none,0,0,rfl,Nat.le_refl _⟩
   ·exact ⟨_,n,cap,rfl,h1⟩
  obtain ⟨b,l,cap,hvv,hlc⟩:=hsh
  have hrun:=run_append_nothing (P:=Tryz.prog) w 113 113 o.type 9 i0 Tryz.underlying113 hi b l cap hlc (.slice a 0 c) hsrc
  rw [<- hvv] at hrun
  refine wpList_plain hgd fun K hK=>?_
  unfold Oper.wp
  simp [execOp,ho,resolve,invoke,builtin,hs,hx,hrun,Result.andThen]
  exact hK _ _ (h v w (by simpa [strL] using hown) ⟨rfl,rfl,rfl,Nat.le_refl _,fun _ _ _=>rfl⟩ (Or.inl rfl))
 ·rcases hrd with h0|⟨b,off,rfl,hc⟩
  ·exact absurd h0 hm0
  ·refine wpList_append_own_at w hgd s x 113 ho B 9 i0 (.string { data:=#[] }) 1 16 Tryz.underlying113 hi hz0 hz1 hz2 rfl (by decide) v n xs hs hown ⟨b,off,none⟩ m c (strL L) hx (by rw [strL_length];omega) (fun j u hj=>?_) (fun u hu=>?_) (by unfold maxLen;omega) (by omega) hB (fun v' w' h1 h2 _ h4=>h v' w' h1 h2 h4)
   ·have hjm:j<m:=by
     have:=(List.getElem?_eq_some_iff.1 hj).1
     rw [strL_length] at this
     omega
    rw [strL_row,<- hm,strRow_get _ _ _ hjm] at hj
    injection hj with hj
    subst hj
    have e:(Addr.add ⟨b,off,none⟩ j)=⟨b,off+j,none⟩:=by
     unfold Addr.add
     by_cases h:j=0
     ·subst h;simp
     ·simp [h]
    rw [e]
    exact hc j hjm
   ·simp only [strL,List.mem_map] at hu
    obtain ⟨i,_,rfl⟩:=hu
    rfl

def RetStrs (w:World) (L:List ByteArray) (e:Ending) (w' : World):Prop:=
 ∃a c,e=.returned (.slice a L.length c)/\OwnS w' w.heap.size a L.length (gt L)/\Below w.heap.size w w'/\L.length<=c/\c<=9223372036854775807

set_option maxHeartbeats 400000 in
theorem size_any (lf:Bool) (ka ca:Option Addr) (kn kc cn cc:Nat) (w:World):Calls Tryz.prog 114 #[.agg #[.bool lf,.slice ka kn kc,.slice ca cn cc]] w fun e w'=>e=.returned (.int .i64 (if lf=true then (kn:Int) else (cn:Int)))/\Below w.heap.size w w':=by
 cases lf with
 | true=>
  go_enter Tryz.func114,Tryz.ntmps114
  go_wp2
  go_ret
  exact ⟨rfl,below_alloc _ _⟩
 | false=>
  go_enter Tryz.func114,Tryz.ntmps114
  go_wp2
  go_ret
  exact ⟨rfl,below_alloc _ _⟩

theorem own_empty (W:World) (t:TypeId) (B size:Nat) (hB:B<=W.heap.size):(W.alloc (.cells #[] t)).ownsRow B t size (.slice (some ⟨W.heap.size,0,none⟩) 0 0) 0 []:=
 ⟨by simp,Or.inr ⟨W.heap.size,0,#[],rfl,hB,blk_alloc_new _ _,Nat.le_refl _,Nat.zero_le _,by simp,by simp⟩⟩

theorem ownS_strL {w:World} {B:Nat} {v:Value} {n:Nat} {L:List ByteArray} (h:w.ownsRow B 9 1 v n (strL L)) (hn:n=L.length):∃a c,v=.slice a n c/\OwnS w B a L.length (gt L)/\n<=c/\c<=9223372036854775807:=by
 subst hn
 rw [strL_row] at h
 exact ownS_ofRow h

theorem kid_at {K:Option Addr->Nat->Nat->(Nat->ByteArray)->Prop} {S:Nat->Prop} {w:World} {d b:Nat} {l:List (Ro d)} {xs:List Value} (hx:∀j u,xs[j]?=some u->w.cell? ⟨b,j,none⟩=some u) (hk:KidL (fun t v=>NestAt K S w d t v) l xs) (k:Nat) (h:k<l.length) :
  ∃lf ka kn kc ca cn cc,w.cell? ⟨b,k*3,none⟩=some (.bool lf)/\w.cell? ⟨b,k*3+1,none⟩=some (.slice ka kn kc)/\w.cell? ⟨b,k*3+2,none⟩=some (.slice ca cn cc)/\NestAt K S w d l[k] (.agg #[.bool lf,.slice ka kn kc,.slice ca cn cc]):=by
 obtain ⟨x0,x1,x2,h0,h1,h2,h3⟩:=hk.get k h
 obtain ⟨lf,ka,kn,kc,ca,cn,cc,e⟩:=h3.form
 injection e with e
 simp at e
 obtain ⟨rfl,rfl,rfl⟩:=e
 exact ⟨lf,ka,kn,kc,ca,cn,cc,hx _ _ h0,hx _ _ h1,hx _ _ h2,h3⟩

theorem flat_take {T:Type} (f:T->List ByteArray) (l:List T) (k:Nat) (h:k<l.length):(l.take (k+1)).flatMap f=(l.take k).flatMap f++f l[k]:=by
 rw [<- List.take_append_getElem h,List.flatMap_append]
 simp
theorem flat_take_le {T:Type} (f:T->List ByteArray) (l:List T) (k:Nat):((l.take k).flatMap f).length<=(l.flatMap f).length:=by
 conv=>rhs;rw [<- List.take_append_drop k l]
 rw [List.flatMap_append,List.length_append]
 omega

theorem nodes_pos:∀(d:Nat) (t:Ro d),1<=nodesR d t
 | 0,t=>t.elim
 | d+1,.inl _=>Nat.le_refl _
 | d+1,.inr l=>by
  show 1<=1+(l.map (nodesR d)).sum
  omega
theorem kids_le (d:Nat) (l:List (Ro d)):l.length+1<=nodesR (d+1) (.inr l):=by
 have h:=sum_ge (l:=l.map (nodesR d)) (k:=1) (fun x hx=>by
  obtain ⟨t,_,rfl⟩:=List.mem_map.1 hx
  exact nodes_pos d t)
 rw [List.length_map] at h
 show l.length+1<=1+(l.map (nodesR d)).sum
 omega
theorem sum_mem {l:List Nat} {x:Nat} (h:x∈l):x<=l.sum:=by
 induction l with
 | nil=>cases h
 | cons y l ih=>
  rw [List.sum_cons]
  rcases List.mem_cons.1 h with rfl|h
  ·omega
  ·have:=ih h
   omega
theorem kid_le (d:Nat) (l:List (Ro d)) (k:Nat) (h:k<l.length):nodesR d l[k]+1<=nodesR (d+1) (.inr l):=by
 have h1:=sum_mem (l:=l.map (nodesR d)) (x:=nodesR d l[k]) (List.mem_map.2 ⟨_,List.getElem_mem h,rfl⟩)
 show nodesR d l[k]+1<=1+(l.map (nodesR d)).sum
 omega

set_option maxHeartbeats 2000000 in
theorem keys_any:∀(d:Nat) (t:Ro d) (v:Value) (w:World),NA w d t v->nodesR d t<=5000->(keysR d t).length<=1099511627776->Calls Tryz.prog 51 #[v] w (RetStrs w (keysR d t)):=by
 intro d
 induction d with
 | zero=>intro t;exact t.elim
 | succ d ih=>
  intro t v w hv hnod hlen
  rcases t with t|l
  ·obtain ⟨ka,kc,ca,cc,rfl,hk⟩:=hv
   have HO:Hid (∀O:Obj,((w.alloc O).alloc (.cells #[] 9)).ownsRow (w.heap.size+1) 9 1 (.slice (some ⟨w.heap.size+1,0,none⟩) 0 0) 0 []):=fun O=>by simpa using own_empty (w.alloc O) 9 (w.heap.size+1) 1 (by simp)
   have hl:t.length<=1099511627776:=hlen
   clear hlen
   obtain ⟨m,hm⟩:∃m,m=t.length:=⟨_,rfl⟩
   rw [<- hm] at hk hl ⊢
   have HK:Hid (RdS w ka m (gt t)):=hk
   have HM:Hid (m=t.length):=hm
   clear hk ih hm
   go_enter Tryz.func51,Tryz.ntmps51
   go_wp2_with (at_builtin;refine wpList_append_strs rfl _ _ rfl (w.heap.size+1) (.slice (some ⟨w.heap.size+1,0,none⟩) 0 0) 0 [] rfl (HO.out _) ka m kc t rfl HM.out (HK.out.below ((below_alloc _ _).alloc (by simp) _)) (by omega) (by simp) ?_)
   intro v' w' ho hg hat
   have HB:Hid (Below w.heap.size w w'):=(((below_alloc _ _).alloc (by simp) _).grown hg (by simp;omega) (fun k e=>by simp [Value.ownBlock] at e;omega))
   obtain ⟨a',c',rfl,h1,h2,h3⟩:=ownS_strL (L:=t) ho HM.out
   have HE:Hid (OwnS w' (w.heap.size+1) a' t.length (gt t)):=h1
   clear ho hg h1
   go_wp2
   go_ret
   refine ⟨a',c',by rw [<- show m=(keysR (d+1) (Sum.inl t)).length from HM.out];rfl,HE.out.mono (by omega),HB.out,?_,h3⟩
   rw [<- show m=(keysR (d+1) (Sum.inl t)).length from HM.out]
   exact h2
  ·obtain ⟨ka,kc,b,cc,xs,rfl,_,hb,hl0,hx,hk⟩:=hv
   have HX:Hid ((∀j u,xs[j]?=some u->w.cell? ⟨b,j,none⟩=some u)/\KidL (fun t v=>NestAt (KR w) (fun _=>True) w d t v) l xs):=⟨hx,hk⟩
   have HKid:Hid (∀W:World,Below w.heap.size w W->∀k (h:k<l.length),∃lf ka kn kc ca cn cc,W.cell? ⟨b,k*3,none⟩=some (.bool lf)/\W.cell? ⟨b,k*3+1,none⟩=some (.slice ka kn kc)/\W.cell? ⟨b,k*3+2,none⟩=some (.slice ca cn cc)/\NA W d l[k] (.agg #[.bool lf,.slice ka kn kc,.slice ca cn cc])):=by
    intro W hW k h
    obtain ⟨lf,ka,kn,kc,ca,cn,cc,h0,h1,h2,h3⟩:=kid_at hx hk k h
    exact ⟨lf,ka,kn,kc,ca,cn,cc,(hW.cell (p:=⟨b,_,none⟩) hb).trans h0,(hW.cell (p:=⟨b,_,none⟩) hb).trans h1,(hW.cell (p:=⟨b,_,none⟩) hb).trans h2,NA.below h3 hW⟩
   have HLen:Hid ((l.flatMap (keysR d)).length<=1099511627776):=hlen
   have HIH:Hid (∀(t:Ro d) (v:Value) (w:World),NA w d t v->nodesR d t<=5000->(keysR d t).length<=1099511627776->Calls Tryz.prog 51 #[v] w (RetStrs w (keysR d t))):=ih
   have hl63:l.length<=5000:=by have:=kids_le d l;omega
   have HNod:Hid (∀k (h:k<l.length),nodesR d l[k]<=5000):=fun k h=>by have:=kid_le d l k h;omega
   clear hnod
   clear hx hk hlen ih
   obtain ⟨ln,hln⟩:∃ln,ln=l.length:=⟨_,rfl⟩
   rw [<- hln] at hl0 hl63 ⊢
   have HLn:Hid (ln=l.length):=hln
   clear hln
   go_enter Tryz.func51,Tryz.ntmps51
   go_upto_region 4 with fail
   have S1:Hid (Bx ((w.alloc (.cells #[.bool false,.slice ka 0 kc,.slice (some ⟨b,0,none⟩) ln cc] 116)).alloc (.cells #[] 9)) w.heap.size 116 #[.bool false,.slice ka 0 kc,.slice (some ⟨b,0,none⟩) ln cc]/\((w.alloc (.cells #[.bool false,.slice ka 0 kc,.slice (some ⟨b,0,none⟩) ln cc] 116)).alloc (.cells #[] 9)).ownsRow (w.heap.size+1) 9 1 (.slice (some ⟨w.heap.size+1,0,none⟩) 0 0) 0 []/\Below w.heap.size w ((w.alloc (.cells #[.bool false,.slice ka 0 kc,.slice (some ⟨b,0,none⟩) ln cc] 116)).alloc (.cells #[] 9))):=
    ⟨(Bx.new _ _ _).alloc _,by simpa using own_empty (w.alloc (.cells #[.bool false,.slice ka 0 kc,.slice (some ⟨b,0,none⟩) ln cc] 116)) 9 (w.heap.size+1) 1 (by simp),(below_alloc _ _).alloc (by simp) _⟩
   generalize ((w.alloc (.cells #[.bool false,.slice ka 0 kc,.slice (some ⟨b,0,none⟩) ln cc] 116)).alloc (.cells #[] 9))=W at S1 ⊢
   go_wp2
   go_loopw [3,4] (fun q i wr=>∃k nk:Nat,k<=ln/\i=.int .i64 k/\nk=((l.take k).flatMap (keysR d)).length/\Bx wr w.heap.size 116 #[.bool false,.slice ka 0 kc,.slice (some ⟨b,0,none⟩) ln cc]/\wr.ownsRow (w.heap.size+1) 9 1 q nk (strL ((l.take k).flatMap (keysR d)))/\Below w.heap.size w wr) (fun _ i _=>ln-(intOf i).toNat)
   case atStart=>exact ⟨0,0,Nat.zero_le _,rfl,by simp,S1.out.1,S1.out.2.1,S1.out.2.2⟩
   case round=>
    obtain ⟨k,nk,hk,rfl,hnk,hbx,hown,hbel⟩:=hrel
    clear S1
    obtain ⟨qa,qc,rfl,_⟩:=own_form hown
    have HST:Hid (Bx wr w.heap.size 116 #[.bool false,.slice ka 0 kc,.slice (some ⟨b,0,none⟩) ln cc]/\wr.ownsRow (w.heap.size+1) 9 1 (.slice qa nk qc) nk (strL ((l.take k).flatMap (keysR d)))/\Below w.heap.size w wr):=⟨hbx,hown,hbel⟩
    have HNK:Hid (nk=((l.take k).flatMap (keysR d)).length):=hnk
    have hnl:nk<=1099511627776:=by have:=flat_take_le (keysR d) l k;have:=HLen.out;omega
    have y2:=hbx.cell 2
    simp at y2
    have hz:=hbx.lt
    clear hbx hown hbel hnk
    by_cases hlt:k<ln
    ·have hlk:k<l.length:=by rw [<- HLn.out];exact hlt
     obtain ⟨lf1,ka1,kn1,kc1,ca1,cn1,cc1,c0,c1,c2,hna⟩:=HKid.out wr HST.out.2.2 k hlk
     have HNA:Hid (NA wr d l[k] (.agg #[.bool lf1,.slice ka1 kn1 kc1,.slice ca1 cn1 cc1])):=hna
     have e12:=flat_take (keysR d) l k hlk
     have HKL:Hid (nk+(keysR d l[k]).length<=1099511627776):=by
      have h1:=flat_take_le (keysR d) l (k+1)
      rw [e12,List.length_append,<- HNK.out] at h1
      have:=HLen.out
      show nk+(keysR d l[k]).length<=1099511627776
      omega
     have hk0:(0:Int)<=(k:Int):=by omega
     have hkn:(k:Int)<(ln:Int):=by omega
     clear hna
     go_wp2_with fail
     refine (HIH.out l[k] _ _ HNA.out (HNod.out k hlk) (by have:=HKL.out;omega)).mono ?_
     rintro e w2 ⟨a2,cz2,he,ho2,hb2,hcc1,hcc2⟩
     have HM:Hid (((l.take (k+1)).flatMap (keysR d))=((l.take k).flatMap (keysR d))++keysR d l[k]):=e12
     have HL2:Hid (RdS w2 a2 (keysR d l[k]).length (gt (keysR d l[k]))):=ho2.rd
     clear ho2 e12 HNA
     generalize hLk:keysR d l[k]=L2 at*
     obtain ⟨n2,hn2⟩:∃n2,n2=L2.length:=⟨_,rfl⟩
     rw [<- hn2] at he
     subst he
     have HN2:Hid (n2=L2.length/\nk+n2<=1099511627776):=⟨hn2,by rw [hn2];exact HKL.out⟩
     have HS2:Hid (Bx w2 w.heap.size 116 #[.bool false,.slice ka 0 kc,.slice (some ⟨b,0,none⟩) ln cc]/\w2.ownsRow (w.heap.size+1) 9 1 (.slice qa nk qc) nk (strL ((l.take k).flatMap (keysR d)))/\Below w.heap.size w w2):=⟨HST.out.1.below hb2,own_below HST.out.2.1 hb2,HST.out.2.2.trans (hb2.mono HST.out.2.2.size)⟩
     clear hn2 hLk HKL HST hb2 c0 c1 c2 y2
     have hz2:=HS2.out.1.lt
     go_wp2_with (at_builtin;refine wpList_append_strs rfl _ _ rfl (w.heap.size+1) (.slice qa nk qc) nk _ rfl HS2.out.2.1 a2 n2 cz2 L2 rfl HN2.out.1 (by rw [HN2.out.1];exact HL2.out) HN2.out.2 (by omega) ?_)
     intro v' w5 ho hg hat
     have HG:Hid (Bx w5 w.heap.size 116 #[.bool false,.slice ka 0 kc,.slice (some ⟨b,0,none⟩) ln cc]/\w5.ownsRow (w.heap.size+1) 9 1 v' (nk+n2) (strL ((l.take (k+1)).flatMap (keysR d)))/\Below w.heap.size w w5):=by
      refine ⟨HS2.out.1.grown hg (fun e=>by have:=own_lt HS2.out.2.1 _ e;omega),?_,HS2.out.2.2.grown hg (by omega) (fun g e=>by have:=own_lt HS2.out.2.1 _ e;omega)⟩
      rw [HM.out,strL_app]
      exact ho
     obtain ⟨va,vc,rfl,_⟩:=own_form ho
     clear ho hg hat HS2
     go_wp2
     go_roundw
     case rel=>exact ⟨k+1,nk+n2,by omega,by go_num,by rw [HM.out,List.length_append,<- HNK.out,<- HN2.out.1],HG.out.1,HG.out.2.1,HG.out.2.2⟩
     case measure=>simp [intOf];omega
    ·have e:k=ln:=by omega
     subst e
     have HEq:Hid ((l.take k).flatMap (keysR d)=l.flatMap (keysR d)):=by
      show (l.take k).flatMap (keysR d)=l.flatMap (keysR d)
      rw [HLn.out,List.take_length]
     go_wp2
     go_ret
     obtain ⟨a',c',e',h1,h2,h3⟩:=ownS_strL HST.out.2.1 HNK.out
     injection e' with e1 _ e2
     subst e1
     subst e2
     rw [HEq.out] at h1
     refine ⟨qa,qc,?_,h1.mono (by omega),HST.out.2.2,?_,h3⟩
     ·show Ending.returned (.slice qa nk qc)=Ending.returned (.slice qa (l.flatMap (keysR d)).length qc)
      rw [<- HEq.out,<- HNK.out]
     ·show (l.flatMap (keysR d)).length<=qc
      rw [<- HEq.out,<- HNK.out]
      exact h2

set_option maxHeartbeats 1000000 in
theorem toTNode_any (x:Tn) (ka da:Option Addr) (kc dc:Nat) (w:World) (hk:RdS w ka x.kn x.ks) (hd:Rd .i64 w da x.dn x.kd) (hf:TnFit x) :
  Calls Tryz.prog 118 #[.agg #[.bool x.lf,.slice ka x.kn kc,.slice da x.dn dc,.int .i64 x.ct]] w fun e w'=>∃gk gd,e=.returned (.agg #[.bool x.lf,.slice (some ⟨gk,0,none⟩) x.kn x.kn,.slice (some ⟨gd,0,none⟩) x.dn x.dn,.int .i64 x.ct])/\
   w.heap.size<=gk/\w.heap.size<=gd/\rowIn w' gk 9 x.kn (fun i=>.string (x.ks i))/\rowIn w' gd 2 x.dn (fun i=>.int .i64 (x.kd i))/\Below w.heap.size w w':=by
 obtain ⟨hf1,hf2⟩:=hf
 have hbel:∀o1 o2 o3,Below w.heap.size w (((w.alloc o1).alloc o2).alloc o3):=fun o1 o2 o3=>(((below_alloc _ _).alloc (by simp) _).alloc (by simp;omega) _)
 have hsz:∀o1 o2 o3,(((w.alloc o1).alloc o2).alloc o3).heap.size=w.heap.size+3:=fun o1 o2 o3=>by simp
 have HH:Hid ((∀o1 o2 o3,Below w.heap.size w (((w.alloc o1).alloc o2).alloc o3))/\(∀o1 o2 o3,(((w.alloc o1).alloc o2).alloc o3).heap.size=w.heap.size+3)/\RdS w ka x.kn x.ks/\Rd .i64 w da x.dn x.kd):=⟨hbel,hsz,hk,hd⟩
 clear hbel hsz hk hd
 go_enter Tryz.func118,Tryz.ntmps118
 go_wp2_with fail
 refine (toStringS_any ka x.kn kc x.ks _ ?_ hf1).mono ?_
 ·exact HH.out.2.2.1.below (HH.out.1 _ _ _)
 rintro e w1 ⟨rfl,hr1,hb1,hs1⟩
 rw [HH.out.2.1] at hr1 hb1 hs1 ⊢
 have hz:w.heap.size+2<w1.heap.size:=by omega
 have hc:∀b o,b<w.heap.size+3->w1.cell? ⟨b,o,none⟩=_:=fun b o hb=>hb1.cell (p:=⟨b,o,none⟩) hb
 have hfz:∀b o,b<w.heap.size+3->w1.frozen? ⟨b,o,none⟩=_:=fun b o hb=>hb1.frozen (p:=⟨b,o,none⟩) hb
 have HE:Hid (rowIn w1 (w.heap.size+3) 9 x.kn (fun i=>.string (x.ks i))/\Below w.heap.size w w1/\w1.heap.size=w.heap.size+4):=⟨rowIn.ofIs hr1,(HH.out.1 _ _ _).trans (hb1.mono (by omega)),by omega⟩
 clear hr1 hb1 hs1
 go_wp2_with fail
 refine (toInt64S_any da x.dn dc x.kd _ (HH.out.2.2.2.below (HE.out.2.1.setCell (by simp;omega) _)) hf2).mono ?_
 rintro e w2 ⟨rfl,hr2,hb2,hs2⟩
 have hsc:∀x v,(w1.setCell x v).heap.size=w.heap.size+4:=fun x v=>by rw [<- HE.out.2.2];simp [World.setCell]
 rw [hsc] at hr2 hb2 hs2 ⊢
 clear hsc
 have hz2:w.heap.size+3<w2.heap.size:=by omega
 have hc2:∀b o,b<w.heap.size+4->w2.cell? ⟨b,o,none⟩=_:=fun b o hb=>hb2.cell (p:=⟨b,o,none⟩) hb
 have hf2:∀b o,b<w.heap.size+4->w2.frozen? ⟨b,o,none⟩=_:=fun b o hb=>hb2.frozen (p:=⟨b,o,none⟩) hb
 have HF:Hid (rowIn w2 (w.heap.size+3) 9 x.kn (fun i=>.string (x.ks i))/\rowIn w2 (w.heap.size+4) 2 x.dn (fun i=>.int .i64 (x.kd i))/\Below w.heap.size w w2):=by
  refine ⟨(HE.out.1.setOther (by simp) _).of_block (hb2.block _ (by omega)),rowIn.ofIs hr2,(HE.out.2.1.setCell (by simp;omega) _).trans (hb2.mono (by omega))⟩
 clear hr2 hb2 hs2 HE
 go_wp2
 refine bodyPost_ret (v:=.agg #[.bool x.lf,.slice (some ⟨w.heap.size+3,0,none⟩) x.kn x.kn,.slice (some ⟨w.heap.size+4,0,none⟩) x.dn x.dn,.int .i64 x.ct]) (by simp [results,Tryz.results118,go_sem,hc2,hc]) rfl ⟨_,_,rfl,by omega,by omega,?_,?_,?_⟩
 ·exact ((((((HF.out.1.setOther (by simp) _).setOther (by simp) _).setOther (by simp) _).setOther (by simp) _).setOther (by simp) _).setOther (by simp) _)
 ·exact ((((((HF.out.2.1.setOther (by simp) _).setOther (by simp) _).setOther (by simp) _).setOther (by simp) _).setOther (by simp) _).setOther (by simp) _)
 ·exact ((((((HF.out.2.2.setCell (by simp;try omega) _).setCell (by simp;try omega) _).setCell (by simp;try omega) _).setCell (by simp;try omega) _).setCell (by simp;try omega) _).setCell (by simp;try omega) _)

theorem OwnTn.put {w w2:World} {B g m:Nat} {M:Nat->Tn} {KA DA:Nat->Option Addr} {KC DC:Nat->Nat} (h:OwnTn w B g m M KA DA KC DC) (hB:B<=w.heap.size) (hb:Below w.heap.size w w2) (k:Nat) (x:Tn) (gk gd ck cd:Nat)
  (hgk:w.heap.size<=gk) (hgd:w.heap.size<=gd) (hrk:rowIn w2 gk 9 x.kn (fun i=>.string (x.ks i))) (hrd:rowIn w2 gd 2 x.dn (fun i=>.int .i64 (x.kd i))) :
  OwnTn ((((w2.setCell ⟨g,k*4,none⟩ (.bool x.lf)).setCell ⟨g,k*4+1,none⟩ (.slice (some ⟨gk,0,none⟩) x.kn ck)).setCell ⟨g,k*4+2,none⟩ (.slice (some ⟨gd,0,none⟩) x.dn cd)).setCell ⟨g,k*4+3,none⟩ (.int .i64 x.ct)) B g m (fun i=>if i=k then x else M i)
   (fun i=>if i=k then some ⟨gk,0,none⟩ else KA i) (fun i=>if i=k then some ⟨gd,0,none⟩ else DA i) (fun i=>if i=k then ck else KC i) (fun i=>if i=k then cd else DC i):=by
 have hrow2:rowIn w2 g 210 (m*4) (tnCell M KA DA KC DC):=h.row.of_block (hb.block g h.row.lt)
 have hnk:gk≠g:=hrk.ne hrow2 (by decide)
 have hnd:gd≠g:=hrd.ne hrow2 (by decide)
 refine ⟨h.le,((((hrow2.set (k*4) _).set (k*4+1) _).set (k*4+2) _).set (k*4+3) _).congr (fun y hy=>?_),fun i hi=>?_,fun i hi=>?_,fun i j hi hj hij hl1 hl2=>?_,fun i j hi hj hij hl1 hl2=>?_⟩
 ·unfold tnCell
  by_cases e:y / 4=k
  ·have h4:y=k*4\/y=k*4+1\/y=k*4+2\/y=k*4+3:=by omega
   rcases h4 with rfl|rfl|rfl|rfl
   ·have q1:(k*4) % 4=0:=by omega
    have q2:(k*4) / 4=k:=by omega
    simp [q1,q2]
   ·have q1:(k*4+1) % 4=1:=by omega
    have q2:(k*4+1) / 4=k:=by omega
    simp [q1,q2]
   ·have q1:(k*4+2) % 4=2:=by omega
    have q2:(k*4+2) / 4=k:=by omega
    simp [q1,q2]
   ·have q1:(k*4+3) % 4=3:=by omega
    have q2:(k*4+3) / 4=k:=by omega
    simp [q1,q2]
  ·have e0:¬ y=k*4:=by omega
   have e1:¬ y=k*4+1:=by omega
   have e2:¬ y=k*4+2:=by omega
   have e3:¬ y=k*4+3:=by omega
   simp only [if_neg e,if_neg e0,if_neg e1,if_neg e2,if_neg e3]
 ·by_cases e:i=k
  ·simp only [if_pos e]
   exact Or.inr ⟨gk,rfl,by omega,(((hrk.setOther (by simpa using hnk) _).setOther (by simpa using hnk) _).setOther (by simpa using hnk) _).setOther (by simpa using hnk) _⟩
  ·simp only [if_neg e]
   rcases (h.keys i hi).below hb with h0|⟨g',hA,hg',hr'⟩
   ·exact Or.inl h0
   ·have hne' : g'≠g:=hr'.ne hrow2 (by decide)
    exact Or.inr ⟨g',hA,hg',(((hr'.setOther (by simpa using hne') _).setOther (by simpa using hne') _).setOther (by simpa using hne') _).setOther (by simpa using hne') _⟩
 ·by_cases e:i=k
  ·simp only [if_pos e]
   exact Or.inr ⟨gd,rfl,by omega,(((hrd.setOther (by simpa using hnd) _).setOther (by simpa using hnd) _).setOther (by simpa using hnd) _).setOther (by simpa using hnd) _⟩
  ·simp only [if_neg e]
   rcases (h.kids i hi).below hb with h0|⟨g',hA,hg',hr'⟩
   ·exact Or.inl h0
   ·have hne' : g'≠g:=hr'.ne hrow2 (by decide)
    exact Or.inr ⟨g',hA,hg',(((hr'.setOther (by simpa using hne') _).setOther (by simpa using hne') _).setOther (by simpa using hne') _).setOther (by simpa using hne') _⟩
 ·have key:∀j,j<m->(M j).kn≠0->KA j≠some ⟨gk,0,none⟩:=by
   intro j hj hl e
   rcases h.keys j hj with h0|⟨g',hA,hg',hr'⟩
   ·exact hl h0
   ·rw [hA] at e
    injection e with e
    injection e with e
    have:=hr'.lt
    omega
  by_cases e1:i=k
  ·by_cases e2:j=k
   ·omega
   ·simp only [if_pos e1,if_neg e2] at hl2 ⊢
    exact fun e=>key j hj hl2 e.symm
  ·by_cases e2:j=k
   ·simp only [if_neg e1,if_pos e2] at hl1 ⊢
    exact key i hi hl1
   ·simp only [if_neg e1,if_neg e2] at hl1 hl2 ⊢
    exact h.apartK i j hi hj hij hl1 hl2
 ·have key:∀j,j<m->(M j).dn≠0->DA j≠some ⟨gd,0,none⟩:=by
   intro j hj hl e
   rcases h.kids j hj with h0|⟨g',hA,hg',hr'⟩
   ·exact hl h0
   ·rw [hA] at e
    injection e with e
    injection e with e
    have:=hr'.lt
    omega
  by_cases e1:i=k
  ·by_cases e2:j=k
   ·omega
   ·simp only [if_pos e1,if_neg e2] at hl2 ⊢
    exact fun e=>key j hj hl2 e.symm
  ·by_cases e2:j=k
   ·simp only [if_neg e1,if_pos e2] at hl1 ⊢
    exact key i hi hl1
   ·simp only [if_neg e1,if_neg e2] at hl1 hl2 ⊢
    exact h.apartD i j hi hj hij hl1 hl2

def zTn:Tn:=⟨false,0,fun _=>{ data:=#[] },0,fun _=>0,0⟩
def cutN (N:Nat->Tn) (k i:Nat):Tn:=if i<k then N i else zTn

theorem cutN_put (N:Nat->Tn) (k:Nat):(fun i=>if i=k then N k else cutN N k i)=cutN N (k+1):=by
 funext i
 unfold cutN
 by_cases e:i=k
 ·subst e;simp
 ·by_cases e2:i<k
  ·have:i<k+1:=by omega
   simp [e,e2,this]
  ·have:¬ i<k+1:=by omega
   simp [e,e2,this]

theorem madeTn (w:World) (m:Nat):rowIn (w.alloc (.cells (madeCells #[.bool false,.slice none 0 0,.slice none 0 0,.int .i64 0] (m*4)) 210)) w.heap.size 210 (m*4) (tnCell (cutN (fun _=>zTn) 0) (fun _=>none) (fun _=>none) (fun _=>0) (fun _=>0)):=by
 refine ⟨_,blk_alloc_new _ _,by rw [size_madeCells];exact Nat.le_refl _,fun i hi=>?_⟩
 unfold tnCell cutN zTn
 have h4:i % 4=0\/i % 4=1\/i % 4=2\/i % 4=3:=by omega
 rcases h4 with e|e|e|e
 all_goals simp [madeCells,hi,e]

set_option maxHeartbeats 1000000 in
theorem toTNodeS_any (a:Option Addr) (m c:Nat) (N:Nat->Tn) (w:World) (h:RdTn w a m N) (hm:m<=1048576) (hN:∀i,i<m->TnFit (N i)) :
  Calls Tryz.prog 96 #[.slice a m c] w fun e w'=>∃KA DA KC DC,e=.returned (.slice (some ⟨w.heap.size,0,none⟩) m m)/\OwnTn w' w.heap.size w.heap.size m N KA DA KC DC/\Below w.heap.size w w':=by
 have hmk:∀w:World,(Instr.makeSlice 66 (.int .i64 (m:Int)) (.int .i64 (m:Int))).run Tryz.prog w=.ok (.slice (some ⟨w.heap.size,0,none⟩) m m) (w.alloc (.cells (madeCells #[.bool false,.slice none 0 0,.slice none 0 0,.int .i64 0] (m*4)) 210)):=by
  intro w
  obtain ⟨i0,hi,hz0,hz1,hz2⟩:=info_parts Tryz.info210
  have:=run_make (P:=Tryz.prog) w 66 210 i0 _ Tryz.underlying66 hi hz0 .i64 .i64 m m (by omega) (by omega) (by rw [hz2];omega) (by omega)
  rw [hz1,show (Value.agg #[.bool false,.slice none 0 0,.slice none 0 0,.int .i64 0]).cells=#[.bool false,.slice none 0 0,.slice none 0 0,.int .i64 0] from rfl] at this
  simpa using this
 have H0:Hid (OwnTn (w.alloc (.cells (madeCells #[.bool false,.slice none 0 0,.slice none 0 0,.int .i64 0] (m*4)) 210)) w.heap.size w.heap.size m (cutN N 0) (fun _=>none) (fun _=>none) (fun _=>0) (fun _=>0)):=
  ⟨Nat.le_refl _,(madeTn w m).congr (fun i _=>by simp [tnCell,cutN]),fun i _=>Or.inl (by simp [cutN,zTn]),fun i _=>Or.inl (by simp [cutN,zTn]),fun i j _ _ _ hl=>absurd (by simp [cutN,zTn]) hl,fun i j _ _ _ hl=>absurd (by simp [cutN,zTn]) hl⟩
 have HR:Hid (RdTn w a m N/\∀i,i<m->TnFit (N i)):=⟨h,hN⟩
 clear h hN
 go_enter Tryz.func96,Tryz.ntmps96
 go_wp2
 go_loopw [4] (fun i wr=>∃(k:Nat) (KA DA:Nat->Option Addr) (KC DC:Nat->Nat),k<=m/\i=.int .i64 k/\OwnTn wr w.heap.size w.heap.size m (cutN N k) KA DA KC DC/\Below w.heap.size w wr) (fun i _=>m-(intOf i).toNat)
 case atStart=>exact ⟨0,_,_,_,_,Nat.zero_le _,rfl,H0.out,below_alloc _ _⟩
 case round=>
  obtain ⟨k,KA,DA,KC,DC,hk,rfl,hown,hbel⟩:=hrel
  clear H0
  by_cases hlt:k<m
  ·have hne:¬ m=0:=by omega
   have h':=HR.out.1.below hbel
   have HB:Hid (Below w.heap.size w wr):=hbel
   have HO:Hid (OwnTn wr w.heap.size w.heap.size m (cutN N k) KA DA KC DC):=hown
   have hsz:=hbel.size
   rcases h' with h' | ⟨b,o,rfl,hc⟩
   ·exact absurd h' hne
   obtain ⟨ka,kc,da,dc,c0,c1,c2,c3,c4,c5⟩:=hc k hlt
   have HL:=HR.out.2 k hlt
   have HK:Hid (RdS wr ka (N k).kn (N k).ks/\Rd .i64 wr da (N k).dn (N k).kd):=⟨c4,c5⟩
   clear hc hbel hown hmk c4 c5
   go_wp2_with fail
   refine (toTNode_any (N k) ka da kc dc _ HK.out.1 HK.out.2 HL).mono ?_
   rintro e w1 ⟨gk,gd,rfl,hgk,hgd,hrk,hrd,hb1⟩
   have hrow:=HO.out.row.of_block (hb1.block _ HO.out.row.lt)
   have hc1:=hrow.cell (i:=k*4) (by omega)
   have hc2:=hrow.cell (i:=k*4+1) (by omega)
   have hc3:=hrow.cell (i:=k*4+2) (by omega)
   have hc4:=hrow.cell (i:=k*4+3) (by omega)
   rw [tnCell_0] at hc1
   rw [tnCell_1] at hc2
   rw [tnCell_2] at hc3
   rw [tnCell_3] at hc4
   have hf1:=hrow.frozen (k*4)
   have hf2:=hrow.frozen (k*4+1)
   have hf3:=hrow.frozen (k*4+2)
   have hf4:=hrow.frozen (k*4+3)
   have HX:Hid (OwnTn ((((w1.setCell ⟨w.heap.size,k*4,none⟩ (.bool (N k).lf)).setCell ⟨w.heap.size,k*4+1,none⟩ (.slice (some ⟨gk,0,none⟩) (N k).kn (N k).kn)).setCell ⟨w.heap.size,k*4+2,none⟩ (.slice (some ⟨gd,0,none⟩) (N k).dn (N k).dn)).setCell ⟨w.heap.size,k*4+3,none⟩ (.int .i64 (N k).ct)) w.heap.size w.heap.size m (cutN N (k+1))
     (fun i=>if i=k then some ⟨gk,0,none⟩ else KA i) (fun i=>if i=k then some ⟨gd,0,none⟩ else DA i) (fun i=>if i=k then (N k).kn else KC i) (fun i=>if i=k then (N k).dn else DC i)/\
     Below w.heap.size w ((((w1.setCell ⟨w.heap.size,k*4,none⟩ (.bool (N k).lf)).setCell ⟨w.heap.size,k*4+1,none⟩ (.slice (some ⟨gk,0,none⟩) (N k).kn (N k).kn)).setCell ⟨w.heap.size,k*4+2,none⟩ (.slice (some ⟨gd,0,none⟩) (N k).dn (N k).dn)).setCell ⟨w.heap.size,k*4+3,none⟩ (.int .i64 (N k).ct))):=by
    have q:=HO.out.put hsz hb1 k (N k) gk gd (N k).kn (N k).dn hgk hgd hrk hrd
    rw [cutN_put] at q
    exact ⟨q,((((HB.out.trans (hb1.mono hsz)).setCell (Nat.le_refl _) _).setCell (Nat.le_refl _) _).setCell (Nat.le_refl _) _).setCell (Nat.le_refl _) _⟩
   clear hrk hrd hb1 hrow HO HB c0 c1 c2 c3
   go_wp2
   go_roundw
   case rel=>exact ⟨k+1,_,_,_,_,by omega,by go_num,HX.out⟩
   case measure=>simp [intOf];omega
  ·have e:k=m:=by omega
   subst e
   have HO:Hid (OwnTn wr w.heap.size w.heap.size k (cutN N k) KA DA KC DC):=hown
   clear hown
   go_wp2
   go_ret
   refine ⟨KA,DA,KC,DC,rfl,?_,hbel⟩
   have e:∀i,i<k->cutN N k i=N i:=fun i hi=>by simp [cutN,hi]
   have hown:=HO.out
   refine ⟨hown.le,hown.row.congr (fun x hx=>?_),fun i hi=>?_,fun i hi=>?_,fun i j hi hj hij hl1 hl2=>?_,fun i j hi hj hij hl1 hl2=>?_⟩
   ·unfold tnCell
    rw [e (x / 4) (by omega)]
   ·have:=hown.keys i hi
    rwa [e i hi] at this
   ·have:=hown.kids i hi
    rwa [e i hi] at this
   ·exact hown.apartK i j hi hj hij (by rw [e i hi];exact hl1) (by rw [e j hj];exact hl2)
   ·exact hown.apartD i j hi hj hij (by rw [e i hi];exact hl1) (by rw [e j hj];exact hl2)

set_option maxHeartbeats 400000 in
theorem toTree_any (a:Option Addr) (m c:Nat) (N:Nat->Tn) (w:World) (h:RdTn w a m N) (hm:m<=1048576) (hN:∀i,i<m->TnFit (N i)) :
  Calls Tryz.prog 64 #[.agg #[.slice a m c]] w fun e w'=>∃g KA DA KC DC,e=.returned (.agg #[.slice (some ⟨g,0,none⟩) m m])/\w.heap.size<=g/\OwnTn w' w.heap.size g m N KA DA KC DC/\Below w.heap.size w w':=by
 have HH:Hid ((∀o1 o2 o3,Below w.heap.size w (((w.alloc o1).alloc o2).alloc o3))/\(∀o1 o2 o3,(((w.alloc o1).alloc o2).alloc o3).heap.size=w.heap.size+3)/\RdTn w a m N/\∀i,i<m->TnFit (N i)):=⟨fun o1 o2 o3=>(((below_alloc _ _).alloc (by simp) _).alloc (by simp;omega) _),fun o1 o2 o3=>by simp,h,hN⟩
 clear h hN
 go_enter Tryz.func64,Tryz.ntmps64
 go_wp2_with fail
 refine (toTNodeS_any a m c N _ (HH.out.2.2.1.below (HH.out.1 _ _ _)) hm HH.out.2.2.2).mono ?_
 rintro e w1 ⟨KA,DA,KC,DC,rfl,ho1,hb1⟩
 rw [HH.out.2.1] at ho1 hb1 ⊢
 have hz:w.heap.size+2<w1.heap.size:=by have:=ho1.row.lt;omega
 have hc:∀b o,b<w.heap.size+3->w1.cell? ⟨b,o,none⟩=_:=fun b o hb=>hb1.cell (p:=⟨b,o,none⟩) hb
 have hfz:∀b o,b<w.heap.size+3->w1.frozen? ⟨b,o,none⟩=_:=fun b o hb=>hb1.frozen (p:=⟨b,o,none⟩) hb
 have HE:Hid (OwnTn w1 (w.heap.size+3) (w.heap.size+3) m N KA DA KC DC/\Below w.heap.size w w1):=⟨ho1,(HH.out.1 _ _ _).trans (hb1.mono (by omega))⟩
 clear ho1 hb1
 go_wp2
 refine bodyPost_ret (v:=.agg #[.slice (some ⟨w.heap.size+3,0,none⟩) m m]) (by simp [results,Tryz.results64,go_sem,hc]) rfl ⟨_,KA,DA,KC,DC,rfl,by omega,?_,?_⟩
 ·have hset:∀{W:World} {p:Addr} {v:Value},OwnTn W (w.heap.size+3) (w.heap.size+3) m N KA DA KC DC->p.block<w.heap.size+3->OwnTn (W.setCell p v) (w.heap.size+3) (w.heap.size+3) m N KA DA KC DC:=by
   intro W p v q hp
   refine ⟨q.le,q.row.setOther (by omega) _,fun i hi=>(q.keys i hi).setOther hp _,fun i hi=>?_,q.apartK,q.apartD⟩
   rcases q.kids i hi with h0|⟨g,hA,hg,hr⟩
   ·exact Or.inl h0
   ·exact Or.inr ⟨g,hA,hg,hr.setOther (by omega) _⟩
  have q:=hset (v:=.slice (some ⟨w.heap.size+3,0,none⟩) m m) (p:=⟨w.heap.size+1,0,none⟩) (hset (v:=.slice (some ⟨w.heap.size+3,0,none⟩) m m) (p:=⟨w.heap.size+2,0,none⟩) HE.out.1 (by simp)) (by simp)
  exact ⟨by omega,q.row,fun i hi=>(q.keys i hi).mono (by omega),fun i hi=>(q.kids i hi).mono (by omega),q.apartK,q.apartD⟩
 ·exact (HE.out.2.setCell (by simp;try omega) _).setCell (by simp;try omega) _
end Go.Proofs.YtpaomghibppgkaaGreat
namespace Go.Proofs.YtpaomghibppgkaaGreat
open Go.RowKit Go.Deep Go.MapKept

def txB (x:ByteArray):Bool:=decide (1<=(x.size:Int)) && decide ((x.size:Int)<=30)

set_option maxHeartbeats 400000 in
theorem isText_any (x:ByteArray) (w:World):Calls Tryz.prog 97 #[.string x] w fun e w'=>e=.returned (.bool (txB x))/\w'=w:=by
 by_cases h1:1<=(x.size:Int)
 ·have HE:Hid (txB x=decide ((x.size:Int)<=30)):=by show _=_;unfold txB;rw [decide_eq_true h1];rfl
  go_enter Tryz.func97,Tryz.ntmps97
  go_wp2
  go_ret
  exact ⟨by rw [HE.out];rfl,rfl⟩
 ·have HE:Hid (txB x=false):=by show _=_;unfold txB;rw [decide_eq_false h1];rfl
  go_enter Tryz.func97,Tryz.ntmps97
  go_wp2
  go_ret
  exact ⟨by rw [HE.out];rfl,rfl⟩

set_option maxHeartbeats 400000 in
theorem isNu_any (x:Int) (w:World):Calls Tryz.prog 99 #[.int .i64 x] w fun e w'=>e=.returned (.bool (nuB x))/\w'=w:=by
 by_cases h1:1<=x
 ·have HE:Hid (nuB x=decide (x<=2000000000)):=by show _=_;unfold nuB;rw [decide_eq_true h1];rfl
  go_enter Tryz.func99,Tryz.ntmps99
  go_wp2
  go_ret
  exact ⟨by rw [HE.out];rfl,rfl⟩
 ·have HE:Hid (nuB x=false):=by show _=_;unfold nuB;rw [decide_eq_false h1];rfl
  go_enter Tryz.func99,Tryz.ntmps99
  go_wp2
  go_ret
  exact ⟨by rw [HE.out];rfl,rfl⟩

def TabAt (w:World) (tb:Nat) (next:Int) (B1 B2:Nat):Prop:=w.heap[tb]?=some (.cells #[.int .i64 next,.map (some B1),.map (some B2)] 180)
theorem TabAt.cells {w:World} {tb B1 B2:Nat} {next:Int} (h:TabAt w tb next B1 B2):w.cell? ⟨tb,0,none⟩=some (.int .i64 next)/\w.cell? ⟨tb,1,none⟩=some (.map (some B1))/\w.cell? ⟨tb,2,none⟩=some (.map (some B2)):=by
 unfold TabAt at h
 exact ⟨by simp [World.cell?,h],by simp [World.cell?,h],by simp [World.cell?,h]⟩
theorem TabAt.lt {w:World} {tb B1 B2:Nat} {next:Int} (h:TabAt w tb next B1 B2):tb<w.heap.size:=(Array.getElem?_eq_some_iff.1 h).1

def MayT (next:Int) (k:Nat) (I:Nat->Int) (i:Int) (x:ByteArray) (r:Int):Prop:=txB x=true/\nuB r=true/\1<=i/\i<next/\∀j,j<k->I j≠i

theorem isText_at (x:ByteArray) (b:Bool) (h:txB x=b) (w:World):Calls Tryz.prog 97 #[.string x] w fun e w'=>e=.returned (.bool b)/\w'=w:=by
 rw [<- h];exact isText_any x w
theorem isNu_at (x:Int) (b:Bool) (h:nuB x=b) (w:World):Calls Tryz.prog 99 #[.int .i64 x] w fun e w'=>e=.returned (.bool b)/\w'=w:=by
 rw [<- h];exact isNu_any x w

theorem keptDrew {w w' : World} (hb:Below w.heap.size w w') {b:Nat} (h:b<w.heap.size):w'.heap[b]?=w.heap[b]?:=hb.block b h

set_option maxHeartbeats 8000000 in
theorem mayHold_any (tb B1 B2 k:Nat) (next i r:Int) (x:ByteArray) (I:Nat->Int) (V:Nat->Nat) (w:World) (ht:TabAt w tb next B1 B2) (hm:MapAt w B2 k (fun j=>.int .i64 (I j)) (fun j=>.pointer (some ⟨V j,0,none⟩))) (hd:∀j,j<k->∀q,q<k->I j=I q->j=q) :
  Calls Tryz.prog 100 #[.pointer (some ⟨tb,0,none⟩),.agg #[.int .i64 i,.string x,.int .i64 r]] w (AnsP w (MayT next k I i x r)):=by
 obtain ⟨t0,t1,t2⟩:=ht.cells
 have htl:=ht.lt
 cases h1:txB x with
 | false=>
  have HBAD:Hid (¬ MayT next k I i x r):=fun q=>by have:=q.1;rw [h1] at this;cases this
  have h2:nuB r=nuB r:=rfl
  go_enter Tryz.func100,Tryz.ntmps100
  go_wp2
  go_quiet ((first
   | (go_at_call 97;exact Calls.quiet_of_same (isText_at _ _ h1 _))
   | (go_at_call 99;exact Calls.quiet_of_same (isNu_at _ _ h2 _))))
  go_wp2
  go_ret
  exact AnsP.no HBAD.out (below_drewN (below_alloc _ _) _)
 | true=>
 cases h2:nuB r with
 | false=>
  have HBAD:Hid (¬ MayT next k I i x r):=fun q=>by have:=q.2.1;rw [h2] at this;cases this
  go_enter Tryz.func100,Tryz.ntmps100
  go_wp2
  go_quiet ((first
   | (go_at_call 97;exact Calls.quiet_of_same (isText_at _ _ h1 _))
   | (go_at_call 99;exact Calls.quiet_of_same (isNu_at _ _ h2 _))))
  go_wp2
  go_ret
  exact AnsP.no HBAD.out (below_drewN (below_alloc _ _) _)
 | true=>
 by_cases h3:1<=i
 case neg=>
  have HBAD:Hid (¬ MayT next k I i x r):=fun q=>by have:=q.2.2.1;omega
  have hd3:decide (1<=i)=false:=by simp;omega
  go_enter Tryz.func100,Tryz.ntmps100
  go_wp2
  go_quiet ((first
   | (go_at_call 97;exact Calls.quiet_of_same (isText_at _ _ h1 _))
   | (go_at_call 99;exact Calls.quiet_of_same (isNu_at _ _ h2 _))))
  go_wp2
  go_ret
  exact AnsP.no HBAD.out (below_drewN (below_alloc _ _) _)
 case pos=>
 have hd3:decide (1<=i)=true:=by simp;omega
 by_cases h4:i<next
 case neg=>
  have HBAD:Hid (¬ MayT next k I i x r):=fun q=>by have:=q.2.2.2.1;omega
  have hd4:decide (i<next)=false:=by simp;omega
  go_enter Tryz.func100,Tryz.ntmps100
  go_wp2
  go_quiet ((first
   | (go_at_call 97;exact Calls.quiet_of_same (isText_at _ _ h1 _))
   | (go_at_call 99;exact Calls.quiet_of_same (isNu_at _ _ h2 _))))
  go_wp2
  go_ret
  exact AnsP.no HBAD.out (below_drewN (below_alloc _ _) _)
 case pos=>
 have hd4:decide (i<next)=true:=by simp;omega
 by_cases h5:∃j,j<k/\I j=i
 case pos=>
  obtain ⟨j,hj,hji⟩:=h5
  have HBAD:Hid (¬ MayT next k I i x r):=fun q=>q.2.2.2.2 j hj hji
  have hl:∀n,(Instr.lookup 178 (.map (some B2)) (.int .i64 i) false).run Tryz.prog ((w.alloc (.cells #[.int .i64 i,.string x,.int .i64 r] 112)).drewN n)=.ok (.pointer (some ⟨V j,0,none⟩)) ((w.alloc (.cells #[.int .i64 i,.string x,.int .i64 r] 112)).drewN n):=fun n=>
   (hm.kept (keptDrew (below_drewN (below_alloc _ _) n) hm.lt)).look_some (kt:=2) (et:=183) (by kernel_rfl) (by kernel_rfl) (d:=.int .i64) (show IsKey (.int .i64) (.int .i64 i) from rfl) (fun j _=>show IsKey (.int .i64) (.int .i64 (I j)) from rfl) hj (by rw [hji]) (fun q hq e=>by
    have:I q=I j:=by injection e with _ e;omega
    rw [hd q hq j hj this])
  go_enter Tryz.func100,Tryz.ntmps100
  go_wp2
  go_quiet ((first
   | (go_at_call 97;exact Calls.quiet_of_same (isText_at _ _ h1 _))
   | (go_at_call 99;exact Calls.quiet_of_same (isNu_at _ _ h2 _))))
  go_wp2
  go_ret
  exact AnsP.no HBAD.out (below_drewN (below_alloc _ _) _)
 case neg=>
  have HG:Hid (MayT next k I i x r):=⟨h1,h2,h3,h4,fun j hj e=>h5 ⟨j,hj,e⟩⟩
  have hl:∀n,(Instr.lookup 178 (.map (some B2)) (.int .i64 i) false).run Tryz.prog ((w.alloc (.cells #[.int .i64 i,.string x,.int .i64 r] 112)).drewN n)=.ok (.pointer none) ((w.alloc (.cells #[.int .i64 i,.string x,.int .i64 r] 112)).drewN n):=fun n=>
   (hm.kept (keptDrew (below_drewN (below_alloc _ _) n) hm.lt)).look_none (kt:=2) (et:=183) (by kernel_rfl) (by kernel_rfl) (d:=.int .i64) (show IsKey (.int .i64) (.int .i64 i) from rfl) (fun j _=>show IsKey (.int .i64) (.int .i64 (I j)) from rfl) (fun j hj e=>h5 ⟨j,hj,by injection e⟩) (by kernel_rfl)
  go_enter Tryz.func100,Tryz.ntmps100
  go_wp2
  go_quiet ((first
   | (go_at_call 97;exact Calls.quiet_of_same (isText_at _ _ h1 _))
   | (go_at_call 99;exact Calls.quiet_of_same (isNu_at _ _ h2 _))))
  go_wp2
  go_ret
  exact AnsP.yes HG.out (below_drewN (below_alloc _ _) _)
end Go.Proofs.YtpaomghibppgkaaGreat
