import Derived.Test.YtcnollkkigiobaaGreatNd39
import Derived.Test.YtcnollkkigiobaaGreatNd7
import Derived.Test.YtcnollkkigiobaaGreatNd31
import Derived.Test.YtcnollkkigiobaaGreatNd1
import Derived.Maps.AppendAt
import Derived.Test.YtcnollkkigiobaaGreatNd32
import Derived.Test.YtcnollkkigiobaaGreatNd37
import Derived.Test.YtcnollkkigiobaaGreatNd9
import Derived.Laws.BytesArg
set_option linter.unusedVariables false
set_option maxRecDepth 100000
namespace Go.Proofs.YtcnollkkigiobaaGreat
open Go.RowKit Go.Deep

def TreeAt (w:World) (lo hi m:Nat) (N:Nat->Tn) (u:Value):Prop:=
 ∃a c KA DA KC DC,u=.slice a m c/\GT w lo (.slice a m c) m N KA DA KC DC/\(∀x,UsedT (.slice a m c) m N KA DA x->x<hi)/\hi<=w.heap.size
theorem TreeAt.of {w:World} {lo m c:Nat} {a:Option Addr} {N:Nat->Tn} {KA DA:Nat->Option Addr} {KC DC:Nat->Nat} (h:GT w lo (.slice a m c) m N KA DA KC DC):TreeAt w lo w.heap.size m N (.slice a m c):=⟨a,c,KA,DA,KC,DC,rfl,h,fun x hx=>(h.used hx).2,Nat.le_refl _⟩
theorem TreeAt.keep {w w' : World} {lo hi m:Nat} {N:Nat->Tn} {u:Value} (h:TreeAt w lo hi m N u) (hz:w.heap.size<=w'.heap.size) (hk:∀x,lo<=x->x<hi->w'.heap[x]?=w.heap[x]?):TreeAt w' lo hi m N u:=by
 obtain ⟨a,c,KA,DA,KC,DC,e,hg,hu,hh⟩:=h
 exact ⟨a,c,KA,DA,KC,DC,e,hg.keep (fun x hx=>hk x (hg.used hx).1 (hu x hx)),hu,Nat.le_trans hh hz⟩
theorem TreeAt.form {w:World} {lo hi m:Nat} {N:Nat->Tn} {u:Value} (h:TreeAt w lo hi m N u):∃a c,u=.slice a m c/\RdTn w a m N:=by
 obtain ⟨a,c,KA,DA,KC,DC,e,hg,hu,hh⟩:=h
 exact ⟨a,c,e,hg.rd⟩
structure PlP (P:World->Nat->Nat->Nat->(Nat->Tn)->Value->Prop):Prop where
 keep:∀{w w' : World} {lo hi m:Nat} {N:Nat->Tn} {u:Value},P w lo hi m N u->w.heap.size<=w'.heap.size->(∀x,lo<=x->x<hi->w'.heap[x]?=w.heap[x]?)->P w' lo hi m N u
 top:∀{w:World} {lo hi m:Nat} {N:Nat->Tn} {u:Value},P w lo hi m N u->hi<=w.heap.size
 form:∀{w:World} {lo hi m:Nat} {N:Nat->Tn} {u:Value},P w lo hi m N u->∃a c,u=.slice a m c/\RdTn w a m N
theorem TreeAt.pl:PlP TreeAt:=⟨fun h hz hk=>h.keep hz hk,fun ⟨_,_,_,_,_,_,_,_,_,q⟩=>q,fun h=>h.form⟩
structure RowI (P:World->Nat->Nat->Nat->(Nat->Tn)->Value->Prop) (w:World) (B:Nat) (v:Value) (k:Nat) (M:Nat->Nat) (T:Nat->Nat->Tn) (us:List Value) (lo hi:Nat->Nat):Prop where
 row:w.ownsRow B 59 1 v k us
 len:us.length=k
 tree:∀i,i<k->∃u,us[i]?=some u/\P w (lo i) (hi i) (M i) (T i) u
 base:∀i,i<k->B<=lo i
 ord:∀i j,i<j->j<k->hi i<=lo j
 sep:∀g,v.ownBlock=some g->∀i,i<k->g<lo i\/hi i<=g
section
variable {P:World->Nat->Nat->Nat->(Nat->Tn)->Value->Prop} {w w' w2 w4:World} {B k:Nat} {v v' u:Value} {M:Nat->Nat} {T:Nat->Nat->Tn} {us:List Value} {lo hi:Nat->Nat}
theorem RowI.nil (P:World->Nat->Nat->Nat->(Nat->Tn)->Value->Prop) (w:World) (B:Nat) (M:Nat->Nat) (T:Nat->Nat->Tn):RowI P w B (.slice none 0 0) 0 M T [] (fun _=>0) (fun _=>0):=
 ⟨World.ownsRow_nil _ _ _ _,rfl,fun i hi=>absurd hi (Nat.not_lt_zero _),fun i hi=>absurd hi (Nat.not_lt_zero _),fun i j _ hj=>absurd hj (Nat.not_lt_zero _),fun g _ i hi=>absurd hi (Nat.not_lt_zero _)⟩
theorem RowI.keep (hP:PlP P) (h:RowI P w B v k M T us lo hi) (hz:w.heap.size<=w'.heap.size) (hk:∀x,B<=x->x<w.heap.size->w'.heap[x]?=w.heap[x]?):RowI P w' B v k M T us lo hi:=by
 refine ⟨own_keep h.row (fun g e=>hk g (own_lt h.row g e).1 (own_lt h.row g e).2),h.len,fun i hi=>?_,h.base,h.ord,h.sep⟩
 obtain ⟨u,h1,h2⟩:=h.tree i hi
 have q:=hP.top h2
 exact ⟨u,h1,hP.keep h2 hz (fun x h3 h4=>hk x (Nat.le_trans (h.base i hi) h3) (by omega))⟩
theorem RowI.below (hP:PlP P) (h:RowI P w B v k M T us lo hi) (hb:Below w.heap.size w w'):RowI P w' B v k M T us lo hi:=h.keep hP hb.size (fun x _ hx=>hb.block x hx)
theorem RowI.setO (hP:PlP P) (h:RowI P w B v k M T us lo hi) {p:Addr} (hp:p.block<B) (x:Value):RowI P (w.setCell p x) B v k M T us lo hi:=h.keep hP (by rw [World.size_setCell];exact Nat.le_refl _) (fun y hy _=>Below.heap_setCell _ _ _ _ (by omega))
theorem RowI.form (h:RowI P w B v k M T us lo hi):∃a c,v=.slice a k c:=by
 obtain ⟨a,c,e,_⟩:=own_form h.row
 exact ⟨a,c,e⟩
theorem RowI.rd (hP:PlP P) {a:Option Addr} {c:Nat} (h:RowI P w B (.slice a k c) k M T us lo hi):RdIx w a k M T:=by
 by_cases h0:k=0
 ·exact .inl h0
 ·obtain ⟨a',c',e,hf⟩:=own_form h.row
  injection e with e
  subst e
  obtain ⟨g,rfl,_,_,hc⟩:=hf h0
  refine .inr ⟨g,0,rfl,fun i hi=>?_⟩
  obtain ⟨u,h1,h2⟩:=h.tree i hi
  obtain ⟨ai,ci,rfl,hr⟩:=hP.form h2
  exact ⟨ai,ci,by rw [Nat.zero_add];exact hc i _ h1,hr⟩
theorem RowI.step (hP:PlP P) (h:RowI P w B v k M T us lo hi) (hB:B<=w.heap.size) (hb:Below w.heap.size w w2) {l:Nat} (hl:w.heap.size<=l) (ht:P w2 l w2.heap.size (M k) (T k) u) (O:Obj) (hg:(w2.alloc O).grownBy w4 v.ownBlock) (ho:w4.ownsRow B 59 1 v' (k+1) (us++[u])) (hat:v'.ownBlock=v.ownBlock\/v'.ownBlock=some (w2.heap.size+1)):∃lo' hi',RowI P w4 B v' (k+1) M T (us++[u]) lo' hi':=by
 obtain ⟨lo',hlo'⟩:∃lo' : Nat->Nat,∀i,lo' i=if i=k then l else lo i:=⟨_,fun _=>rfl⟩
 obtain ⟨hi',hhi'⟩:∃hi' : Nat->Nat,∀i,hi' i=if i=k then w2.heap.size else hi i:=⟨_,fun _=>rfl⟩
 have hz:=hb.size
 have hz4:=hg.size
 rw [World.size_alloc] at hz4
 have hl2:∀g,v.ownBlock=some g->g<w.heap.size:=fun g e=>(own_lt h.row g e).2
 have hkp:∀x,x<w2.heap.size->v.ownBlock≠some x->w4.heap[x]?=w2.heap[x]?:=fun x hx hne=>(hg.block x (by rw [World.size_alloc];omega) (fun e=>hne e.symm)).trans ((below_alloc w2 O).block x hx)
 have hTop:∀i,i<k->hi i<=w.heap.size:=fun i hi=>by
  obtain ⟨u,_,q⟩:=h.tree i hi
  exact hP.top q
 refine ⟨lo',hi',ho,by rw [List.length_append,h.len];rfl,fun i hi=>?_,fun i hi=>?_,fun i j hij hj=>?_,fun g hgv i hi=>?_⟩
 ·by_cases e:i=k
  ·subst e
   refine ⟨u,by rw [List.getElem?_append_right (by rw [h.len];exact Nat.le_refl _),h.len];simp,?_⟩
   rw [hlo',hhi',if_pos rfl,if_pos rfl]
   refine hP.keep ht (by omega) (fun x h1 h2=>hkp x h2 (fun e=>?_))
   have:=hl2 x e
   omega
  ·have hi' : i<k:=by omega
   obtain ⟨u',h1,h2⟩:=h.tree i hi'
   have ht':=hTop i hi'
   refine ⟨u',by rw [List.getElem?_append_left (by rw [h.len];exact hi')];exact h1,?_⟩
   rw [hlo',hhi',if_neg e,if_neg e]
   refine hP.keep h2 (by omega) (fun x h3 h4=>(hkp x (by omega) (fun e=>?_)).trans (hb.block x (by omega)))
   have:=h.sep x e i hi'
   omega
 ·rw [hlo']
  by_cases e:i=k
  ·rw [if_pos e];omega
  ·rw [if_neg e];exact h.base i (by omega)
 ·rw [hlo',hhi',if_neg (show ¬ i=k by omega)]
  by_cases e:j=k
  ·rw [if_pos e]
   have:=hTop i (by omega)
   omega
  ·rw [if_neg e]
   exact h.ord i j hij (by omega)
 ·rw [hlo',hhi']
  rcases hat with q|q
  ·rw [q] at hgv
   have h1:=hl2 g hgv
   by_cases e:i=k
   ·rw [if_pos e];left;omega
   ·rw [if_neg e,if_neg e];exact h.sep g hgv i (by omega)
  ·rw [q] at hgv
   injection hgv with hgv
   right
   by_cases e:i=k
   ·rw [if_pos e];omega
   ·rw [if_neg e]
    have:=hTop i (by omega)
    omega
end
def RetCi (w:World) (n:Nat) (M:Nat->Nat) (T:Nat->Nat->Tn) (e:Ending) (w' : World):Prop:=
 ∃a c us lo hi,e=.returned (.agg #[.slice a n c])/\RowI TreeAt w' (w.heap.size+2) (.slice a n c) n M T us lo hi/\Below w.heap.size w w'

set_option maxHeartbeats 4000000 in
theorem copyIx_any (a:Option Addr) (n c:Nat) (M:Nat->Nat) (T:Nat->Nat->Tn) (w:World) (h:RdIx w a n M T) (hn:n<=1048576) (hN:IxFit n M T) :
  Calls Tryz.prog 47 #[.agg #[.slice a n c]] w (RetCi w n M T):=by
 obtain ⟨i0,hi0,hz0,hz1,hz2⟩:=info_parts Tryz.info59
 have HI:Hid (Tryz.prog.info? 59=some i0/\i0.zero=some (.agg #[.slice none 0 0])/\i0.size=1/\i0.bytes=24):=⟨hi0,hz0,hz1,hz2⟩
 clear hi0 hz0 hz1 hz2
 have HR:Hid (RdIx w a n M T/\IxFit n M T):=⟨h,hN⟩
 clear h hN
 obtain ⟨W0,hW0⟩:∃W0,W0=(w.alloc (.cells #[.slice a n c] 32)).alloc (.cells #[.slice none 0 0] 32):=⟨_,rfl⟩
 have B0:Hid (Bx W0 w.heap.size 32 #[.slice a n c]/\Bx W0 (w.heap.size+1) 32 #[.slice none 0 0]/\Below w.heap.size w W0/\W0.heap.size=w.heap.size+2):=by
  have b1:=Bx.new w #[.slice a n c] 32
  have b2:=Bx.new (w.alloc (.cells #[.slice a n c] 32)) #[.slice none 0 0] 32
  simp only [World.size_alloc] at b2
  rw [hW0]
  exact ⟨b1.alloc _,b2,(below_alloc _ _).alloc (by simp) _,by simp⟩
 have x0:=B0.out.1.cell 0
 simp at x0
 go_enter Tryz.func47,Tryz.ntmps47
 go_upto_region 2 with fail
 rw [<- hW0]
 clear hW0
 go_wp2
 go_loopw [3,5,9] (fun out _ i wr=>∃(k:Nat) (us:List Value) (lo hi:Nat->Nat),k<=n/\i=.int .i64 k/\RowI TreeAt wr (w.heap.size+2) out k M T us lo hi/\Below (w.heap.size+2) W0 wr) (fun _ _ i _=>n-(intOf i).toNat)
 case atStart=>exact ⟨0,[],_,_,Nat.zero_le _,rfl,RowI.nil _ _ _ _ _,Below.refl _ _⟩
 case round=>
  obtain ⟨k,us,lo,hi,hk,rfl,hrow,hbel⟩:=hrel
  obtain ⟨ar,cr,er⟩:=hrow.form
  subst er
  have hz:=hbel.size
  have hw2:=B0.out.2.2.2
  have HQ:Hid (RowI TreeAt wr (w.heap.size+2) (.slice ar k cr) k M T us lo hi/\Below (w.heap.size+2) W0 wr/\w.heap.size+2<=wr.heap.size/\Below w.heap.size w wr):=⟨hrow,hbel,by omega,B0.out.2.2.1.trans (hbel.mono (by omega))⟩
  have k0:(0:Int)<=(k:Int):=by omega
  by_cases hlt:k<n
  ·have k1:(k:Int)<(n:Int):=by omega
   rcases HR.out.1.below HQ.out.2.2.2 with h0|⟨bb,oo,rfl,hc⟩
   ·omega
   obtain ⟨ai,ci,s0,hrd⟩:=hc k hlt
   have HF:=HR.out.2 k hlt
   have HCp:Hid (∀W:World,Below wr.heap.size wr W->Calls Tryz.prog 85 #[.agg #[.slice ai (M k) ci]] W (RetOt W (M k) (T k))):=fun W hW=>copyI_any ai (M k) ci (T k) W (hrd.below hW) HF.1 HF.2
   have HUs:Hid (us.length=k):=hrow.len
   clear hrow hbel hc hrd HF x0
   go_wp2_with fail
   (with_reducible refine (HCp.out _ (below_alloc _ _)).mono ?_)
   rintro e w5 ⟨hb5,a5,c5,KA,DA,KC,DC,rfl,hg5⟩
   have H5:Hid (Below wr.heap.size wr w5/\TreeAt w5 (wr.heap.size+1+1) w5.heap.size (M k) (T k) (.slice a5 (M k) c5)):=by
    rw [World.size_alloc] at hg5
    exact ⟨(below_alloc _ _).trans (hb5.mono (by simp)),TreeAt.of hg5⟩
   have HO7:Hid ((w5.alloc (.cells #[.slice a5 (M k) c5] 59)).ownsRow (w.heap.size+2) 59 1 (.slice ar k cr) k us/\(∀i u,[Value.slice a5 (M k) c5][i]?=some u->(w5.alloc (.cells #[.slice a5 (M k) c5] 59)).cell? ⟨w5.heap.size,i,none⟩=some u)):=by
    refine ⟨own_below HQ.out.1.row (H5.out.1.trans ((below_alloc _ _).mono H5.out.1.size)),fun i u hi=>?_⟩
    rw [(Bx.new w5 #[.slice a5 (M k) c5] 59).cell i]
    simpa using hi
   have hz5:=H5.out.1.size
   have hzr:=HQ.out.2.2.1
   clear hb5 hg5 HCp s0
   go_wp2_with (at_builtin;refine wpList_append_own_at _ rfl _ _ 30 rfl (w.heap.size+2) 59 i0 _ 1 24 Tryz.underlying30 HI.out.1 HI.out.2.1 HI.out.2.2.1 HI.out.2.2.2 rfl (by decide) (.slice ar k cr) k us rfl HO7.out.1 ⟨w5.heap.size,0,none⟩ 1 1 [.slice a5 (M k) c5] rfl rfl (fun i u hi=>by rw [Addr.add_lit,Nat.zero_add];exact HO7.out.2 i u hi) (by intro u hu;simp at hu;subst hu;rfl) (by unfold maxLen;omega) (by omega) (by simp;omega) ?_)
   intro v7 w7 ho7 hg7 _ hat7
   have H7:Hid ((∃lo' hi',RowI TreeAt w7 (w.heap.size+2) v7 (k+1) M T (us++[.slice a5 (M k) c5]) lo' hi')/\Below (w.heap.size+2) W0 w7):=by
    refine ⟨HQ.out.1.step TreeAt.pl hzr H5.out.1 (by omega) H5.out.2 _ hg7 ho7 hat7,?_⟩
    exact ((HQ.out.2.1.trans (H5.out.1.mono hzr)).trans ((below_alloc _ _).mono (by omega))).grown hg7 (by simp;omega) (fun g e=>(own_lt HQ.out.1.row g e).1)
   obtain ⟨a7,c7,e7,_⟩:=own_form ho7
   subst e7
   clear ho7 hg7 hat7 HO7
   go_wp2
   go_roundw
   case rel=>
    obtain ⟨⟨lo',hi',hr'⟩,hb'⟩:=H7.out
    exact ⟨k+1,_,lo',hi',by omega,by go_num,hr',hb'⟩
   case measure=>simp [intOf];omega
  ·obtain rfl:k=n:=by omega
   have k1:¬ (k:Int)<(k:Int):=by omega
   have b1:Bx wr (w.heap.size+1) 32 #[.slice none 0 0]:=B0.out.2.1.below' hbel (by omega)
   have y0:=b1.cell 0
   simp at y0
   have yf:=b1.frozen 0
   have yl:=b1.lt
   clear hrow hbel b1 x0
   go_wp2
   refine bodyPost_ret (v:=.agg #[.slice ar k cr]) (by simp [results,Tryz.results47,go_sem,y0]) rfl ⟨ar,cr,us,lo,hi,rfl,HQ.out.1.setO TreeAt.pl (by simp) _,HQ.out.2.2.2.setCell (by simp) _⟩

def TreeRd (w:World) (lo hi m:Nat) (N:Nat->Tn) (u:Value):Prop:=
 ∃a c,u=.slice a m c/\hi<=w.heap.size/\(m=0\/∃g xs,a=some ⟨g,0,none⟩/\lo<=g/\g<hi/\(∀j v,xs[j]?=some v->w.cell? ⟨g,j,none⟩=some v)/\FlAt (fun b=>lo<=b/\b<hi) w m N xs)
theorem TreeRd.of {w:World} {lo m c:Nat} {a:Option Addr} {N:Nat->Tn} (h:RowN lo w a m N):TreeRd w lo w.heap.size m N (.slice a m c):=by
 refine ⟨a,c,rfl,Nat.le_refl _,?_⟩
 rcases h with h|⟨g,xs,e,h1,h2,h3,h4⟩
 ·exact .inl h
 ·exact .inr ⟨g,xs,e,h1,h2,h3,h4.mono (Nat.le_refl _) (fun b hb hl=>⟨⟨hb,hl⟩,rfl⟩)⟩
theorem TreeRd.pl:PlP TreeRd where
 keep:=by
  rintro w w' lo hi m N u ⟨a,c,e,hh,h⟩ hz hk
  refine ⟨a,c,e,Nat.le_trans hh hz,?_⟩
  rcases h with h|⟨g,xs,e,h1,h2,h3,h4⟩
  ·exact .inl h
  ·refine .inr ⟨g,xs,e,h1,h2,fun j v hj=>?_,h4.mono hz (fun b hb hl=>⟨hb,hk b hb.1 hb.2⟩)⟩
   have:=h3 j v hj
   simp only [World.cell?,hk g h1 h2] at this ⊢
   exact this
 top:=by
  rintro w lo hi m N u ⟨a,c,e,hh,h⟩
  exact hh
 form:=by
  rintro w lo hi m N u ⟨a,c,e,hh,h⟩
  refine ⟨a,c,e,?_⟩
  rcases h with h|⟨g,xs,rfl,h1,h2,h3,h4⟩
  ·exact .inl h
  ·exact h4.rd h3

theorem step_f1 {ops:Array Oper} {o:Oper} {a:Act} {w:World} {K:Act->World->Prop} {Q:Exit->Act->World->Prop} {E:Prop} (hgd:o.guard=none) (k:Nat) (i:Nat) (tys:Array TypeId)
  (ho:o.op=.call { callee:=.value (.func k),args:=#[.tmp i],argTypes:=tys }) (u:Value) (hx:a.tmps[i]?.getD undef=u) (heg:∀args w,(callFunc k args).run Tryz.prog w=.ok (.enter k args) w)
  (h:Calls Tryz.prog k #[u] w fun e w'=>∃r,e=.returned r/\K (a.put o.dst r) w') :
  if Region.wanted o (yielded ops a.tmps)=true then Oper.wp Tryz.prog o a w K Q else E:=by
 have hw:Region.wanted o (yielded ops a.tmps)=true:=by simp [Region.wanted,hgd]
 rw [if_pos hw]
 unfold Oper.wp
 simp [execOp,ho,resolve,invoke,hx,go_sem,heg]
 refine h.mono ?_
 rintro e w' ⟨u,rfl,hk⟩
 exact hk

theorem step_f2 {ops:Array Oper} {o:Oper} {a:Act} {w:World} {K:Act->World->Prop} {Q:Exit->Act->World->Prop} {E:Prop} (hgd:o.guard=none) (k:Nat) (i j:Nat) (tys:Array TypeId)
  (ho:o.op=.call { callee:=.value (.func k),args:=#[.tmp i,.tmp j],argTypes:=tys }) (u v:Value) (hx:a.tmps[i]?.getD undef=u) (hy:a.tmps[j]?.getD undef=v) (heg:∀args w,(callFunc k args).run Tryz.prog w=.ok (.enter k args) w)
  (h:Calls Tryz.prog k #[u,v] w fun e w'=>∃r,e=.returned r/\K (a.put o.dst r) w') :
  if Region.wanted o (yielded ops a.tmps)=true then Oper.wp Tryz.prog o a w K Q else E:=by
 have hw:Region.wanted o (yielded ops a.tmps)=true:=by simp [Region.wanted,hgd]
 rw [if_pos hw]
 unfold Oper.wp
 simp [execOp,ho,resolve,invoke,hx,hy,go_sem,heg]
 refine h.mono ?_
 rintro e w' ⟨u,rfl,hk⟩
 exact hk

theorem step_tsl {ops:Array Oper} {o:Oper} {a:Act} {w:World} {K:Act->World->Prop} {Q:Exit->Act->World->Prop} {E:Prop} {x:Nat} {u:Value} (hgd:o.guard=none)
  (ho:o.op=.buildSlice 30 1 #[(0,.tmp x)]) (hx:a.tmps[x]?.getD undef=.agg #[u])
  (h:K (a.put o.dst (.slice (some ⟨w.heap.size,0,none⟩) 1 1)) (w.alloc (.cells #[u] 59))) :
  if Region.wanted o (yielded ops a.tmps)=true then Oper.wp Tryz.prog o a w K Q else E:=by
 have hw:Region.wanted o (yielded ops a.tmps)=true:=by simp [Region.wanted,hgd]
 rw [if_pos hw]
 unfold Oper.wp
 simp [execOp,ho,hx,go_sem]
 exact h

theorem step_tapp {ops:Array Oper} {o:Oper} {a:Act} {w:World} {K:Act->World->Prop} {Q:Exit->Act->World->Prop} {E:Prop} (hgd:o.guard=none) (x y:Operand)
  (ho:o.op=.call { callee:=.builtin .append,args:=#[x,y],argTypes:=#[30,30] })
  (B k:Nat) (v:Value) (xs:List Value) (hx:a.eval x=v) (u:Value) (hown:(w.alloc (.cells #[u] 59)).ownsRow B 59 1 v k xs) (hy:a.eval y=.slice (some ⟨w.heap.size,0,none⟩) 1 1)
  (h0:u.oneCell'=true) (hk:k<=1048576) (hB:B<=w.heap.size)
  (h:∀v' w',w'.ownsRow B 59 1 v' (k+1) (xs++[u])->(w.alloc (.cells #[u] 59)).grownBy w' v.ownBlock->(v'.ownBlock=v.ownBlock\/v'.ownBlock=some (w.heap.size+1))->K (a.put o.dst v') w') :
  if Region.wanted o (yielded ops a.tmps)=true then Oper.wp Tryz.prog o a (w.alloc (.cells #[u] 59)) K Q else E:=by
 have hw:Region.wanted o (yielded ops a.tmps)=true:=by simp [Region.wanted,hgd]
 rw [if_pos hw]
 obtain ⟨i0,hi,hz0,hz1,hz2⟩:=info_parts Tryz.info59
 obtain ⟨v',w',hr,h2,h3,h4,h5⟩:=run_append_own_at (P:=Tryz.prog) (w.alloc (.cells #[u] 59)) B 30 o.type 59 i0 _ 1 24 Tryz.underlying30 hi hz0 hz1 hz2 rfl (by decide) v k xs hown ⟨w.heap.size,0,none⟩ 1 1 [u] rfl (fun j u' hj=>by
   match j,hj with
   | 0,hj=>simp at hj;subst hj;rw [Addr.add_lit];exact (Bx.new w #[u] 59).cell 0
   | j+1,hj=>simp at hj) (fun u' hu=>by simp at hu;subst hu;exact h0) (by unfold maxLen;omega) (by omega) (by simp;omega)
 unfold Oper.wp execOp
 simp only [ho,resolve,invoke,builtin,Sem.run_bind,Sem.run_pure,Result.andThen_ok,List.map_toArray,List.map_cons,List.map_nil,hx,hy,hr]
 rw [World.size_alloc] at h5
 exact h v' w' h2 h3 h5

structure NR (S:Nat->Prop) (w:World) (d b g n kc:Nat) (x:Int) (m:List (Ro (d+1))) (us:List Value) (cs:List Nat):Prop where
 box:Bx w b 179 #[.int .i64 x,.slice (some ⟨g,0,none⟩) n kc]
 own:∃cur,w.heap[g]?=some (.cells cur 68 (0,0))/\n<=cur.size
 row:∀j u,us[j]?=some u->w.cell? ⟨g,j,none⟩=some u
 ul:us.length=n
 ml:m.length=n
 cl:cs.length=n
 nd:cs.Nodup
 out:∀c,c∈cs->¬ S c
 nb:b∉cs/\¬ S b
 ng:g∉cs/\¬ S g
 gb:g≠b
 cap:n<=kc/\kc<=9223372036854775807
 kid:∀k (h:k<m.length),∃u c,us[k]?=some u/\cs[k]?=some c/\NdI S w c (d+1) m[k] u
theorem NR.at {S:Nat->Prop} {w:World} {d b g n kc:Nat} {x:Int} {m:List (Ro (d+1))} {us:List Value} {cs:List Nat} (h:NR S w d b g n kc x m us cs) (k:Nat) (hk:k<n):∃t u c,m[k]?=some t/\us[k]?=some u/\cs[k]?=some c/\w.cell? ⟨g,k,none⟩=some u/\NdI S w c (d+1) t u/\SzI u (sizD t) w/\¬ S c/\c<w.heap.size:=by
 have hm:k<m.length:=by rw [h.ml];exact hk
 obtain ⟨u,c,e1,e2,e3⟩:=h.kid k hm
 refine ⟨m[k],u,c,List.getElem?_eq_getElem hm,e1,e2,h.row k u e1,e3,e3.szi,h.out c (List.mem_of_getElem? e2),?_⟩
 rcases e3.form with ⟨_,_,_,_,hx⟩|⟨_,_,_,_,hx⟩ <;> exact hx.lt

set_option maxHeartbeats 2000000 in
theorem canSpare_out {S:Nat->Prop} {w:World} {d b g n kc:Nat} {x:Int} {m:List (Ro (d+1))} {us:List Value} {cs:List Nat} (h:NR S w d b g n kc x m us cs) (hn:n<=1000) (j:Int) (hj:j<0\/(n:Int)<=j) :
  Calls Tryz.prog 198 #[.pointer (some ⟨b,0,none⟩),.int .i64 j] w fun e w'=>e=.returned (.bool false)/\w'=w:=by
 have c1:=h.box.cell 1
 simp at c1
 have hl:=h.box.lt
 clear h
 rcases hj with hj|hj
 ·have j0:¬ (0:Int)<=j:=by omega
  have j0d:decide ((0:Int)<=j)=false:=decide_eq_false j0
  go_enter Tryz.func198,Tryz.ntmps198
  go_wp2
  go_ret
  exact ⟨rfl,rfl⟩
 ·have j0:(0:Int)<=j:=by omega
  have j0d:decide ((0:Int)<=j)=true:=decide_eq_true j0
  have j1:¬ j<(n:Int):=by omega
  have j1d:decide (j<(n:Int))=false:=decide_eq_false j1
  go_enter Tryz.func198,Tryz.ntmps198
  go_wp2
  go_ret
  exact ⟨rfl,rfl⟩

set_option maxHeartbeats 2000000 in
theorem canSpare_in {S:Nat->Prop} {w:World} {d b g n kc:Nat} {x:Int} {m:List (Ro (d+1))} {us:List Value} {cs:List Nat} (h:NR S w d b g n kc x m us cs) (hn:n<=1000) (j:Nat) (hj:j<n) (t:Ro (d+1)) (ht:m[j]?=some t) :
  Calls Tryz.prog 198 #[.pointer (some ⟨b,0,none⟩),.int .i64 (j:Int)] w fun e w'=>e=.returned (.bool (decide (2<sizD t)))/\w'=w:=by
 obtain ⟨t',u,c,q1,q2,q3,q4,q5,q6,_⟩:=h.at j hj
 rw [ht] at q1
 injection q1 with q1
 subst q1
 have c1:=h.box.cell 1
 simp at c1
 have hl:=h.box.lt
 have j0:(0:Int)<=(j:Int):=by omega
 have j0d:decide ((0:Int)<=(j:Int))=true:=decide_eq_true j0
 have j1:(j:Int)<(n:Int):=by omega
 have j1d:decide ((j:Int)<(n:Int))=true:=decide_eq_true j1
 obtain ⟨sz,hsz⟩:∃sz,sz=sizD t:=⟨_,rfl⟩
 rw [<- hsz] at q6 ⊢
 clear h q5 hsz ht
 rcases q6 with ⟨kb,rfl,hc⟩|⟨kb,rfl,hc⟩
 ·have HC:Hid (Calls Tryz.prog 208 #[.pointer (some ⟨kb,0,none⟩)] w fun e w'=>e=.returned (.int .i64 (sz:Int))/\w'=w):=hc
  clear hc
  go_enter Tryz.func198,Tryz.ntmps198
  go_wp2_with fail
  (with_reducible refine HC.out.mono ?_)
  rintro e w1 ⟨rfl,rfl⟩
  go_wp2
  go_ret
  exact ⟨by simp;omega,rfl⟩
 ·have HC:Hid (Calls Tryz.prog 125 #[.pointer (some ⟨kb,0,none⟩)] w fun e w'=>e=.returned (.int .i64 (sz:Int))/\w'=w):=hc
  clear hc
  go_enter Tryz.func198,Tryz.ntmps198
  go_wp2_with fail
  (with_reducible refine HC.out.mono ?_)
  rintro e w1 ⟨rfl,rfl⟩
  go_wp2
  go_ret
  exact ⟨by simp;omega,rfl⟩

theorem NR.two {S:Nat->Prop} {w w' : World} {d b g n kc:Nat} {x:Int} {m:List (Ro (d+1))} {us:List Value} {cs:List Nat} (h:NR S w d b g n kc x m us cs) {p q cp cq:Nat} (hp:cs[p]?=some cp) (hq:cs[q]?=some cq) (hf:Fr2 w w' cp cq) (k:Nat) (hk:k<m.length) (h1:k≠p) (h2:k≠q):∃u,us[k]?=some u/\TAo (fun y=>S y\/y∈cs\/w.heap.size<=y) w' (d+1) m[k] u:=by
 obtain ⟨u,c,e1,e2,e3⟩:=h.kid k hk
 have hc:=List.mem_of_getElem? e2
 have ne:∀{r cr:Nat},cs[r]?=some cr->k≠r->c≠cr:=fun {r cr} hr hne e=>by
  obtain ⟨a1,a2⟩:=List.getElem?_eq_some_iff.1 e2
  obtain ⟨b1,b2⟩:=List.getElem?_eq_some_iff.1 hr
  exact hne ((List.getElem_inj h.nd).1 (by rw [a2,b2,e]))
 refine ⟨u,e1,TAo.keep hf.2.2.2.1 (fun y hy hl=>?_) (e3.tao (h.out c hc))⟩
 rcases hy with hy|rfl
 ·exact ⟨.inl hy,hf.2.2.2.2 y hl (fun e=>h.out cp (List.mem_of_getElem? hp) (e ▸ hy)) (fun e=>h.out cq (List.mem_of_getElem? hq) (e ▸ hy))⟩
 ·exact ⟨.inr (.inl hc),hf.2.2.2.2 y hl (ne hp h1) (ne hq h2)⟩
theorem NR.set2 {S:Nat->Prop} {w w' : World} {d b g n kc:Nat} {x:Int} {m:List (Ro (d+1))} {us:List Value} {cs:List Nat} (h:NR S w d b g n kc x m us cs) {p q cp cq:Nat} (hpq:p≠q) (hp:cs[p]?=some cp) (hq:cs[q]?=some cq) (hf:Fr2 w w' cp cq) {A C:Ro (d+1)} {u v:Value} (hu:us[p]?=some u) (hv:us[q]?=some v) (hA:TAo (fun y=>S y\/y∈cs\/w.heap.size<=y) w' (d+1) A u) (hC:TAo (fun y=>S y\/y∈cs\/w.heap.size<=y) w' (d+1) C v):AllK (fun y=>S y\/y∈cs\/w.heap.size<=y) w' (d+1) ((m.set p A).set q C) us:=by
 refine ⟨by rw [List.length_set,List.length_set,h.ul,h.ml],fun k hk=>?_⟩
 rw [List.length_set,List.length_set] at hk
 by_cases k1:k=q
 ·subst k1
  exact ⟨v,hv,by rw [List.getElem_set_self];exact hC⟩
 ·by_cases k2:k=p
  ·subst k2
   exact ⟨u,hu,by rw [List.getElem_set_ne (by omega),List.getElem_set_self];exact hA⟩
  ·obtain ⟨u',e1,e2⟩:=h.two hp hq hf k hk k2 k1
   exact ⟨u',e1,by rw [List.getElem_set_ne (by omega),List.getElem_set_ne (by omega)];exact e2⟩
theorem NR.del {S:Nat->Prop} {w w' : World} {d b g n kc:Nat} {x:Int} {m:List (Ro (d+1))} {us:List Value} {cs:List Nat} (h:NR S w d b g n kc x m us cs) {p cp cq:Nat} (hpn:p+1<n) (hp:cs[p]?=some cp) (hq:cs[p+1]?=some cq) (hf:Fr2 w w' cp cq) {A:Ro (d+1)} {u:Value} (hu:us[p]?=some u) (hA:TAo (fun y=>S y\/y∈cs\/w.heap.size<=y) w' (d+1) A u):AllK (fun y=>S y\/y∈cs\/w.heap.size<=y) w' (d+1) (m.take p++A::m.drop (p+2)) (us.take (p+1)++us.drop (p+2)):=by
 have hu':=h.ul
 have hm:=h.ml
 refine ⟨by simp;omega,fun k hk=>?_⟩
 rw [List.length_append,List.length_take,List.length_cons,List.length_drop] at hk
 by_cases k1:k<p
 ·obtain ⟨u',e1,e2⟩:=h.two hp hq hf k (by omega) (by omega) (by omega)
  refine ⟨u',by rw [List.getElem?_append_left (by rw [List.length_take];omega),List.getElem?_take,if_pos (by omega)];exact e1,?_⟩
  rw [List.getElem_append_left (by rw [List.length_take];omega),List.getElem_take]
  exact e2
 ·by_cases k2:k=p
  ·subst k2
   refine ⟨u,by rw [List.getElem?_append_left (by rw [List.length_take];omega),List.getElem?_take,if_pos (by omega)];exact hu,?_⟩
   have e:(m.take k++A::m.drop (k+2))[k]?=some A:=by
    rw [List.getElem?_append_right (by rw [List.length_take];omega),List.length_take,show k-min k m.length=0 by omega]
    rfl
   rw [(List.getElem?_eq_some_iff.1 e).2]
   exact hA
  ·obtain ⟨u',e1,e2⟩:=h.two hp hq hf (k+1) (by omega) (by omega) (by omega)
   refine ⟨u',by rw [List.getElem?_append_right (by rw [List.length_take];omega),List.length_take,List.getElem?_drop,show p+2+(k-min (p+1) us.length)=k+1 by omega];exact e1,?_⟩
   have e:(m.take p++A::m.drop (p+2))[k]?=some (m[k+1]'(by omega)):=by
    rw [List.getElem?_append_right (by rw [List.length_take];omega),List.length_take,show k-min p m.length=(k-p-1)+1 by omega,List.getElem?_cons_succ,List.getElem?_drop,show p+2+(k-p-1)=k+1 by omega]
    exact List.getElem?_eq_getElem _
   rw [(List.getElem?_eq_some_iff.1 e).2]
   exact e2

def RetF (S:Nat->Prop) (w:World) (d b g kc:Nat) (x:Int) (M:List (Ro (d+1))) (cs:List Nat) (e:Ending) (w' : World):Prop:=
 e=.returned (.tuple #[])/\Frs (b::g::cs) w w'/\∃ys,Bx w' b 179 #[.int .i64 x,.slice (some ⟨g,0,none⟩) M.length kc]/\M.length<=kc/\(∀j u,ys[j]?=some u->w'.cell? ⟨g,j,none⟩=some u)/\AllK (fun y=>S y\/y∈cs\/w.heap.size<=y) w' (d+1) M ys
theorem frs_two {w w' : World} {p q:Nat} {bs:List Nat} (h:Fr2 w w' p q) (hp:p∈bs) (hq:q∈bs):Frs bs w w':=⟨h.1,h.2.1,h.2.2.1,h.2.2.2.1,fun k hk hn=>h.2.2.2.2 k hk (fun e=>hn (e ▸ hp)) (fun e=>hn (e ▸ hq))⟩

theorem Tryz.info5k:(Tryz.prog.info? 5).map (fun i=>(i.zero,i.size,i.bytes))=some (some (.int .u8 0),1,1):=by kernel_rfl
def kI (x:Nat->Int):Nat->List Int
 | 0=>[]
 | i+1=>kI x i++[x i / 16777216,x i / 65536 % 256,x i / 256 % 256,x i % 256]
theorem kI_len (x:Nat->Int):∀i,(kI x i).length=4*i
 | 0=>rfl
 | i+1=>by
  show (kI x i++_).length=_
  rw [List.length_append,kI_len x i]
  rfl
theorem kI_str (x:Nat->Int) (i:Nat):strOfNums (kI x i)=spL x i:=by
 have h:∀i,(strOfNums (kI x i)).data.toList=spLl x i:=fun i=>by
  rw [strOfNums_data]
  induction i with
  | zero=>rfl
  | succ i ih=>
   show List.map _ (kI x i++_)=spLl x i++pkL (x i)
   rw [List.map_append,ih]
   rfl
 have h2:=h i
 rw [<- spL_data] at h2
 exact ByteArray.ext (Array.toList_inj.1 h2)
def u8s (l:List Int):List Value:=l.map (Value.int .u8)
theorem u8s_app (a b:List Int):u8s (a++b)=u8s a++u8s b:=List.map_append ..
theorem u8s_get (l:List Int) (i:Nat) (h:i<l.length):(u8s l)[i]?=some (.int .u8 (l.getD i 0)):=by
 unfold u8s
 rw [List.getElem?_map,List.getElem?_eq_getElem h,List.getD_eq_getElem?_getD,List.getElem?_eq_getElem h]
 rfl

set_option maxHeartbeats 4000000 in
theorem l5Key_any (j:Nat) (hj:j<6) (p:Qd) (hr:∀i,i<4->0<=ptO j p i/\ptO j p i<=2000000000) (w:World) :
  Calls Tryz.prog 45 #[qv p,.int .i64 (j:Int)] w fun e w'=>e=.returned (.string (keyOf j p))/\Below w.heap.size w w':=by
 obtain ⟨i0,hi0,hz0,hz1,hz2⟩:=info_parts Tryz.info5k
 have HI:Hid (Tryz.prog.info? 5=some i0/\i0.zero=some (.int .u8 0)/\i0.size=1/\i0.bytes=1):=⟨hi0,hz0,hz1,hz2⟩
 clear hi0 hz0 hz1 hz2
 have HO:Hid (∀W:World,Calls Tryz.prog 64 #[.int .i64 (j:Int)] W fun e w'=>e=.returned (.slice (some ⟨W.heap.size,0,none⟩) 4 4)/\w'=W.alloc (.cells #[.int .i64 (ordF j 0:Int),.int .i64 (ordF j 1:Int),.int .i64 (ordF j 2:Int),.int .i64 (ordF j 3:Int)] 3)):=fun W=>l5Order_any j hj W
 have HK:Hid (j<6/\∀i,i<4->0<=ptO j p i/\ptO j p i<=2000000000):=⟨hj,hr⟩
 clear hj hr
 unfold qv
 obtain ⟨W0,hW0⟩:∃W0,W0=((w.alloc (.cells #[.int .i64 p.s,.int .i64 p.p,.int .i64 p.o,.int .i64 p.g] 34)).alloc (.cells #[.int .i64 (ordF j 0:Int),.int .i64 (ordF j 1:Int),.int .i64 (ordF j 2:Int),.int .i64 (ordF j 3:Int)] 3)).alloc (.cells #[] 5):=⟨_,rfl⟩
 have B0:Hid (Bx W0 w.heap.size 34 #[.int .i64 p.s,.int .i64 p.p,.int .i64 p.o,.int .i64 p.g]/\Bx W0 (w.heap.size+1) 3 #[.int .i64 (ordF j 0:Int),.int .i64 (ordF j 1:Int),.int .i64 (ordF j 2:Int),.int .i64 (ordF j 3:Int)]/\W0.ownsRow (w.heap.size+2) 5 1 (.slice (some ⟨w.heap.size+2,0,none⟩) 0 0) 0 []/\Below w.heap.size w W0/\w.heap.size+2<=W0.heap.size):=by
  have b1:=Bx.new w #[.int .i64 p.s,.int .i64 p.p,.int .i64 p.o,.int .i64 p.g] 34
  have b2:=Bx.new (w.alloc (.cells #[.int .i64 p.s,.int .i64 p.p,.int .i64 p.o,.int .i64 p.g] 34)) #[.int .i64 (ordF j 0:Int),.int .i64 (ordF j 1:Int),.int .i64 (ordF j 2:Int),.int .i64 (ordF j 3:Int)] 3
  have q:=own_empty ((w.alloc (.cells #[.int .i64 p.s,.int .i64 p.p,.int .i64 p.o,.int .i64 p.g] 34)).alloc (.cells #[.int .i64 (ordF j 0:Int),.int .i64 (ordF j 1:Int),.int .i64 (ordF j 2:Int),.int .i64 (ordF j 3:Int)] 3)) 5 (w.heap.size+2) 1 (by simp)
  simp only [World.size_alloc] at b2 q
  rw [hW0]
  exact ⟨(b1.alloc _).alloc _,b2.alloc _,q,((below_alloc _ _).alloc (by simp) _).alloc (by simp;omega) _,by simp⟩
 go_enter Tryz.func45,Tryz.ntmps45
 go_wp2_with fail
 (with_reducible refine (HO.out _).mono ?_)
 rintro e w1 ⟨rfl,rfl⟩
 go_upto_region 4 with fail
 rw [<- hW0]
 clear hW0 HO
 go_loopw [6,7,8] (fun out i _ wr=>∃k:Nat,k<=4/\i=.int .i64 k/\wr.ownsRow (w.heap.size+2) 5 1 out (4*k) (u8s (kI (ptO j p) k))/\Below (w.heap.size+2) W0 wr) (fun _ i _ _=>4-(intOf i).toNat)
 case atStart=>exact ⟨0,Nat.zero_le _,rfl,B0.out.2.2.1,Below.refl _ _⟩
 case round=>
  obtain ⟨k,hk,rfl,hown,hbel⟩:=hrel
  obtain ⟨ar,cr,er,_⟩:=own_form hown
  subst er
  have HQ:Hid (wr.ownsRow (w.heap.size+2) 5 1 (.slice ar (4*k) cr) (4*k) (u8s (kI (ptO j p) k))/\Below (w.heap.size+2) W0 wr/\w.heap.size+2<=wr.heap.size):=⟨hown,hbel,Nat.le_trans B0.out.2.2.2.2 hbel.size⟩
  have k0:(0:Int)<=(k:Int):=by omega
  by_cases hlt:k<4
  ·have k1:(k:Int)<4:=by omega
   have bq:Bx wr w.heap.size 34 #[.int .i64 p.s,.int .i64 p.p,.int .i64 p.o,.int .i64 p.g]:=B0.out.1.below' hbel (by omega)
   have bo:Bx wr (w.heap.size+1) 3 #[.int .i64 (ordF j 0:Int),.int .i64 (ordF j 1:Int),.int .i64 (ordF j 2:Int),.int .i64 (ordF j 3:Int)]:=B0.out.2.1.below' hbel (by omega)
   have y0:=bq.cell 0
   have y1:=bq.cell 1
   have y2:=bq.cell 2
   have y3:=bq.cell 3
   have yo:=bo.cell k
   have hor:(#[.int .i64 (ordF j 0:Int),.int .i64 (ordF j 1:Int),.int .i64 (ordF j 2:Int),.int .i64 (ordF j 3:Int)]:Array Value)[k]?=some (.int .i64 (ordF j k:Int)):=by
    rcases (show k=0\/k=1\/k=2\/k=3 by omega) with rfl|rfl|rfl|rfl <;> rfl
   rw [hor] at yo
   simp at y0 y1 y2 y3
   obtain ⟨x,hx⟩:∃x,x=ptO j p k:=⟨_,rfl⟩
   have HX:Hid (x=ptO j p k):=hx
   have hxr:=HK.out.2 k hlt
   rw [<- hx] at hxr
   obtain ⟨hx0,hx1⟩:=hxr
   have HP:Hid (∀W:World,Calls Tryz.prog 65 #[.agg #[.int .i64 p.s,.int .i64 p.p,.int .i64 p.o,.int .i64 p.g],.int .i64 (ordF j k:Int)] W fun e w'=>e=.returned (.int .i64 x)/\Below W.heap.size W w'):=fun W=>by rw [hx];exact l5Part_any _ _ _ _ (ordF j k) (ordF_lt j HK.out.1 k hlt) W
   clear hx hor bq bo hown hbel
   go_wp2
   go_region_with (go_at_call 65;(with_reducible refine (HP.out _).mono ?_);rintro e w5 ⟨rfl,hb5⟩)
   all_goals
    have H5:Hid (w5.ownsRow (w.heap.size+2) 5 1 (.slice ar (4*k) cr) (4*k) (u8s (kI (ptO j p) k))/\Below (w.heap.size+2) W0 w5/\w.heap.size+2<=w5.heap.size):=⟨own_below HQ.out.1 (below_undrew hb5),HQ.out.2.1.trans ((below_undrew hb5).mono HQ.out.2.2),Nat.le_trans HQ.out.2.2 (below_undrew hb5).size⟩
    clear hb5 y0 y1 y2 y3 yo HQ
    have HO7:Hid ((w5.alloc (.cells #[.int .u8 (x / 16777216),.int .u8 (x / 65536 % 256),.int .u8 (x / 256 % 256),.int .u8 (x % 256)] 5)).ownsRow (w.heap.size+2) 5 1 (.slice ar (4*k) cr) (4*k) (u8s (kI (ptO j p) k))/\(∀i u,(u8s [x / 16777216,x / 65536 % 256,x / 256 % 256,x % 256])[i]?=some u->(w5.alloc (.cells #[.int .u8 (x / 16777216),.int .u8 (x / 65536 % 256),.int .u8 (x / 256 % 256),.int .u8 (x % 256)] 5)).cell? ⟨w5.heap.size,i,none⟩=some u)):=by
     refine ⟨own_below H5.out.1 (below_alloc _ _),fun i u hi=>?_⟩
     rw [(Bx.new w5 #[.int .u8 (x / 16777216),.int .u8 (x / 65536 % 256),.int .u8 (x / 256 % 256),.int .u8 (x % 256)] 5).cell i]
     simpa [u8s] using hi
    have hz5:=H5.out.2.2
    go_wp2_with (at_builtin;refine wpList_append_own_at _ rfl _ _ 47 rfl (w.heap.size+2) 5 i0 _ 1 1 Tryz.underlying47 HI.out.1 HI.out.2.1 HI.out.2.2.1 HI.out.2.2.2 rfl (by decide) (.slice ar (4*k) cr) (4*k) (u8s (kI (ptO j p) k)) rfl HO7.out.1 ⟨w5.heap.size,0,none⟩ 4 4 (u8s [x / 16777216,x / 65536 % 256,x / 256 % 256,x % 256]) rfl rfl (fun i u hi=>by rw [Addr.add_lit,Nat.zero_add];exact HO7.out.2 i u hi) (by intro u hu;simp [u8s] at hu;rcases hu with rfl|rfl|rfl|rfl <;> rfl) (by unfold maxLen;omega) (by omega) (by simp;omega) ?_)
    intro v7 w7 ho7 hg7 _ hat7
    have H7:Hid (w7.ownsRow (w.heap.size+2) 5 1 v7 (4*(k+1)) (u8s (kI (ptO j p) (k+1)))/\Below (w.heap.size+2) W0 w7):=by
     refine ⟨?_,?_⟩
     ·show w7.ownsRow _ _ 1 v7 (4*k+4) (u8s (kI (ptO j p) k++[ptO j p k / 16777216,ptO j p k / 65536 % 256,ptO j p k / 256 % 256,ptO j p k % 256]))
      rw [u8s_app,<- HX.out]
      exact ho7
     ·exact (H5.out.2.1.trans ((below_alloc _ _).mono hz5)).grown hg7 (by simp;omega) (fun g e=>(own_lt H5.out.1 g e).1)
    obtain ⟨a7,c7,e7,_⟩:=own_form ho7
    subst e7
    clear ho7 hg7 hat7 HO7
    go_wp2
    go_roundw
    case rel=>exact ⟨k+1,by omega,by go_num,H7.out⟩
    case measure=>simp [intOf];omega
  ·obtain rfl:k=4:=by omega
   have k1:¬ ((4:Nat):Int)<4:=by omega
   obtain ⟨a',c',e',hf⟩:=own_form hown
   injection e' with e1 _ e2
   subst e1 e2
   obtain ⟨g,rfl,hg,hgl,hc⟩:=hf (by omega)
   have hcv:(convert 47 9 (.slice (some ⟨g,0,none⟩) 16 cr)).run Tryz.prog wr=.ok (.string (keyOf j p)) wr:=by
    have:=run_convert_bytes_arg (P:=Tryz.prog) (w:=wr) 47 5 (by kernel_rfl) (by kernel_rfl) g 0 16 cr (kI (ptO j p) 4) (kI_len _ 4) (fun i hi=>by
     rw [Nat.zero_add]
     exact hc i _ (u8s_get _ i (by rw [kI_len];exact hi))) 9 (by kernel_rfl)
    rw [kI_str] at this
    exact this
   have HB:Hid (Below w.heap.size w wr):=B0.out.2.2.2.1.trans (hbel.mono (by omega))
   clear hown hbel hc hf HQ
   go_wp2
   go_ret
   exact ⟨rfl,HB.out⟩
end Go.Proofs.YtcnollkkigiobaaGreat
