import Derived.Test.YtcnollkkigiobaaGreatNd25
import Derived.Test.YtcnollkkigiobaaGreatNd27
import Derived.Test.YtcnollkkigiobaaGreatNd26
import Derived.Test.YtcnollkkigiobaaGreatNd23
import Derived.Test.YtcnollkkigiobaaGreatNd30
import Derived.Deep.LoopGhost
import Derived.Deep.RegionLaw
import Derived.Lib.SliceRun
import Derived.Test.YtcnollkkigiobaaGreatNd31
import Derived.Test.YtcnollkkigiobaaGreatNd5
set_option linter.unusedVariables false
set_option maxRecDepth 100000
namespace Go.Proofs.YtcnollkkigiobaaGreat
open Go.RowKit Go.Deep

def NdI (S:Nat->Prop) (w:World) (b:Nat):(d:Nat)->Ro d->Value->Prop
 | 0,_,_=>False
 | d+1,.inl t,v=>v=.iface 204 (.pointer (some ⟨b,0,none⟩))/\∃ka kc,Bx w b 206 #[.int .i64 (t.length:Int),.slice ka t.length kc]/\(t.length<=kc/\kc<=9223372036854775807)/\RdO S w ka t.length (fun i=>.string (gt t i))
 | d
  + 1,.inr l,v=>v=.iface 174 (.pointer (some ⟨b,0,none⟩))/\∃(g o kc:Nat) (xs:List Value),Bx w b 179 #[.int .i64 ((l.flatMap (keysR d)).length:Int),.slice (some ⟨g,o,none⟩) l.length kc]/\S g/\(g<w.heap.size/\l.length<=kc/\kc<=9223372036854775807)/\(0<l.length/\xs.length=l.length)/\(∀j u,xs[j]?=some u->w.cell? ⟨g,o+j,none⟩=some u)/\
  ∀k (h:k<l.length),∃u,xs[k]?=some u/\TAo S w d l[k] u

theorem NdI.tao {S:Nat->Prop} {w:World} {b:Nat}:∀{d:Nat} {t:Ro d} {v:Value},NdI S w b d t v->¬ S b->TAo (fun x=>S x\/x=b) w d t v
 | 0,_,_,h,_=>h.elim
 | d+1,.inl t,v,h,hb=>by
  obtain ⟨rfl,ka,kc,hx,hc,hr⟩:=h
  exact ⟨b,ka,kc,rfl,.inr rfl,hx,hc,hr.keep (Nat.le_refl _) (fun x hx _=>⟨.inl hx,rfl⟩)⟩
 | d+1,.inr l,v,h,hb=>by
  obtain ⟨rfl,g,o,kc,xs,hx,hg,hc,h0,hcc,hk⟩:=h
  refine ⟨b,g,o,kc,xs,rfl,.inr rfl,hx,⟨.inl hg,fun e=>hb (e ▸ hg)⟩,hc,h0.1,hcc,fun k h=>?_⟩
  obtain ⟨u,e,ht⟩:=hk k h
  exact ⟨u,e,ht.wide (fun x hx _=>.inl hx)⟩

theorem NdI.keep {S S' : Nat->Prop} {w w' : World} {b:Nat} (hz:w.heap.size<=w'.heap.size) (hb:w'.heap[b]?=w.heap[b]?) (hS:∀x,S x->x<w.heap.size->S' x/\w'.heap[x]?=w.heap[x]?):∀{d:Nat} {t:Ro d} {v:Value},NdI S w b d t v->NdI S' w' b d t v
 | 0,_,_,h=>h
 | d+1,.inl t,v,h=>by
  obtain ⟨rfl,ka,kc,hx,hc,hr⟩:=h
  exact ⟨rfl,ka,kc,hx.of_block hb,hc,hr.keep hz hS⟩
 | d+1,.inr l,v,h=>by
  obtain ⟨rfl,g,o,kc,xs,hx,hg,hc,h0,hcc,hk⟩:=h
  obtain ⟨q1,q2⟩:=hS g hg hc.1
  refine ⟨rfl,g,o,kc,xs,hx.of_block hb,q1,⟨by omega,hc.2⟩,h0,fun j u hj=>(World.cell?_of_block (a:=⟨g,o+j,none⟩) q2).trans (hcc j u hj),fun k h=>?_⟩
  obtain ⟨u,e,ht⟩:=hk k h
  exact ⟨u,e,TAo.keep hz hS ht⟩

theorem TAo.oneCell {S:Nat->Prop} {w:World}:∀{d:Nat} {t:Ro d} {v:Value},TAo S w d t v->v.oneCell'=true
 | 0,_,_,h=>h.elim
 | d+1,.inl t,v,h=>by obtain ⟨_,_,_,rfl,_⟩:=h;rfl
 | d+1,.inr l,v,h=>by obtain ⟨_,_,_,_,_,rfl,_⟩:=h;rfl

def RetPart (S:Nat->Prop) (w:World) (b d:Nat) (t:Ro (d+1)) (v:Value) (e:Ending) (w' : World):Prop:=
 ∃u,e=.returned u/\Fr2 w w' b b/\TAo (fun x=>S x\/x=b\/w.heap.size<=x) w' (d+1) (cutR 0 3 t) v/\TAo (fun x=>S x\/w.heap.size<=x) w' (d+1) (cutR 3 5 t) u


def splU:(d:Nat)->Ro d->List (Ro d)
 | 0,_=>[]
 | d+1,t=>splR t
def InsU (key:ByteArray):(d:Nat)->Ro d->Ro d->Prop
 | 0,_,_=>False
 | d+1,.inl ks,t'=>t'=.inl (insK key ks)
 | d+1,.inr l,t'=>∃i,KidIs l key i/\∃(h:i<l.length) (u:Ro d),InsU key d l[i] u/\t'=.inr (l.take i++splU d u++l.drop (i+1))

theorem mem_kid {d:Nat} {l:List (Ro d)} {key:ByteArray} {i:Nat} (ha:Asc (l.flatMap (keysR d))) (hp:∀k (h:k<l.length),0<(keysR d l[k]).length) (h:KidIs l key i) (hi:i<l.length):key∈l.flatMap (keysR d)↔key∈keysR d l[i]:=by
 constructor
 ·intro hm
  rw [List.mem_flatMap] at hm
  obtain ⟨t,ht,hk⟩:=hm
  obtain ⟨j,hj,rfl⟩:=List.getElem_of_mem ht
  unfold Asc at ha
  rw [List.pairwise_flatMap] at ha
  have pw:=List.pairwise_iff_getElem.1 ha.2
  rcases Nat.lt_trichotomy j i with h1|h1|h1
  ·have q:=pw j i hj hi h1 key hk _ (gt_mem (hp i hi))
   rw [h.2.1 hi (by omega)] at q
   cases q
  ·subst h1;exact hk
  ·have hi1:i+1<l.length:=by omega
   have q1:=h.2.2 hi1
   by_cases e:j=i+1
   ·subst e
    obtain ⟨m,hm,e2⟩:=List.getElem_of_mem hk
    have eg:gt (keysR d l[i+1]) m=key:=by
     unfold gt
     rw [List.getD_eq_getElem?_getD,List.getElem?_eq_getElem hm]
     exact e2
    by_cases m0:m=0
    ·subst m0
     rw [eg,less_irrefl] at q1
     cases q1
    ·have q2:=asc_lt (ha.1 _ (List.getElem_mem hi1)) (show 0<m by omega) hm
     rw [eg] at q2
     rw [less_asym q2] at q1
     cases q1
   ·have q:=pw (i+1) j hi1 hj (by omega) _ (gt_mem (hp _ hi1)) key hk
    rw [less_asym q] at q1
    cases q1
 ·intro hm
  exact List.mem_flatMap.2 ⟨_,List.getElem_mem hi,hm⟩

def AllK (S:Nat->Prop) (w:World) (d:Nat) (ts:List (Ro d)) (us:List Value):Prop:=
 us.length=ts.length/\∀k (h:k<ts.length),∃u,us[k]?=some u/\TAo S w d ts[k] u
section
variable {S S' : Nat->Prop} {w w' : World} {d:Nat}
theorem AllK.keep {ts:List (Ro d)} {us:List Value} (h:AllK S w d ts us) (hz:w.heap.size<=w'.heap.size) (hS:∀b,S b->b<w.heap.size->S' b/\w'.heap[b]?=w.heap[b]?):AllK S' w' d ts us:=
 ⟨h.1,fun k hk=>by obtain ⟨u,e,q⟩:=h.2 k hk;exact ⟨u,e,TAo.keep hz hS q⟩⟩
theorem AllK.app {ts ts' : List (Ro d)} {us us' : List Value} (h:AllK S w d ts us) (h' : AllK S w d ts' us'):AllK S w d (ts++ts') (us++us'):=by
 refine ⟨by rw [List.length_append,List.length_append,h.1,h'.1],fun k hk=>?_⟩
 by_cases e:k<ts.length
 ·obtain ⟨u,e1,q⟩:=h.2 k e
  exact ⟨u,by rw [List.getElem?_append_left (by rw [h.1];exact e)];exact e1,by rw [List.getElem_append_left e];exact q⟩
 ·rw [List.length_append] at hk
  obtain ⟨u,e1,q⟩:=h'.2 (k-ts.length) (by omega)
  exact ⟨u,by rw [List.getElem?_append_right (by rw [h.1];omega),h.1];exact e1,by rw [List.getElem_append_right (by omega)];exact q⟩
theorem AllK.one {t:Ro d} {u:Value} (h:TAo S w d t u):AllK S w d [t] [u]:=
 ⟨rfl,fun k hk=>by
  have e:k=0:=by simp at hk;omega
  subst e
  exact ⟨u,rfl,h⟩⟩
end

theorem nodup_ne {bss:List (List Nat)} (h:bss.flatten.Nodup) {i k:Nat} {us ks:List Nat} (hi:bss[i]?=some us) (hk:bss[k]?=some ks) (hne:k≠i) {x:Nat} (hx:x∈ks):x∉us:=by
 unfold List.Nodup at h
 rw [List.pairwise_flatten] at h
 have pw:=List.pairwise_iff_getElem.1 h.2
 obtain ⟨h1,e1⟩:=List.getElem?_eq_some_iff.1 hi
 obtain ⟨h2,e2⟩:=List.getElem?_eq_some_iff.1 hk
 intro hxu
 rcases Nat.lt_or_gt_of_ne hne with q|q
 ·exact pw k i h2 h1 q x (by rw [e2];exact hx) x (by rw [e1];exact hxu) rfl
 ·exact pw i k h1 h2 q x (by rw [e1];exact hxu) x (by rw [e2];exact hx) rfl

def Frs (bs:List Nat) (w w' : World):Prop:=w'.os=w.os/\w'.tape=w.tape/\w'.output=w.output/\w.heap.size<=w'.heap.size/\∀k,k<w.heap.size->k∉bs->w'.heap[k]?=w.heap[k]?
theorem Frs.trans {bs:List Nat} {w w1 w2:World} (h:Frs bs w w1) (k:Frs bs w1 w2):Frs bs w w2:=
 ⟨k.1.trans h.1,k.2.1.trans h.2.1,k.2.2.1.trans h.2.2.1,Nat.le_trans h.2.2.2.1 k.2.2.2.1,fun i hi h1=>(k.2.2.2.2 i (Nat.lt_of_lt_of_le hi h.2.2.2.1) h1).trans (h.2.2.2.2 i hi h1)⟩
theorem Frs.mono {bs bs' : List Nat} {w w' : World} (h:Frs bs w w') (hs:∀x,x∈bs->x∈bs'):Frs bs' w w':=⟨h.1,h.2.1,h.2.2.1,h.2.2.2.1,fun i hi hn=>h.2.2.2.2 i hi (fun q=>hn (hs i q))⟩
theorem Frs.below {bs:List Nat} {w w' : World} {B:Nat} (h:Frs bs w w') (hB:B<=w.heap.size) (hs:∀x,x∈bs->B<=x):Below B w w':=⟨h.1,h.2.1,h.2.2.1,h.2.2.2.1,fun k hk=>h.2.2.2.2 k (by omega) (fun q=>by have:=hs k q;omega)⟩

def CallI (v:Value) (key:ByteArray) (w:World) (Q:Ending->World->Prop):Prop:=
 (∃b,v=.iface 204 (.pointer (some ⟨b,0,none⟩))/\Calls Tryz.prog 204 #[.pointer (some ⟨b,0,none⟩),.string key] w Q)\/
 (∃b,v=.iface 174 (.pointer (some ⟨b,0,none⟩))/\Calls Tryz.prog 187 #[.pointer (some ⟨b,0,none⟩),.string key] w Q)
def RetO (key:ByteArray) (d:Nat) (t:Ro d) (v:Value) (bs:List Nat) (w:World) (e:Ending) (w' : World):Prop:=
 (key∈keysR d t/\e=.returned (.bool false)/\Below w.heap.size w w')\/
 (key∉keysR d t/\e=.returned (.bool true)/\Frs bs w w'/\∃u b,b∈bs/\InsU key d t u/\NdI (fun x=>(x∈bs/\x≠b)\/w.heap.size<=x) w' b d u v)


def RetRk (w:World) (n:Nat) (N:Nat->Tn) (key:ByteArray) (e:Ending) (w' : World):Prop:=
 ∃r:Nat,e=.returned (.int .i64 (r:Int))/\Below w.heap.size w w'/\((∃t,VTt n N t/\r=cntL key (keysR 21 t))\/(¬ VT n N/\r=0))


def inR (lo hi k:ByteArray):Bool:=!(Op.bytesLess k.toList lo.toList) && (hi.toList.isEmpty || Op.bytesLess k.toList hi.toList)
def fil (lo hi:ByteArray) (L:List ByteArray):List ByteArray:=L.filter (inR lo hi)
theorem fil_app (lo hi:ByteArray) (L M:List ByteArray):fil lo hi (L++M)=fil lo hi L++fil lo hi M:=List.filter_append ..
theorem fil_le (lo hi:ByteArray) (L:List ByteArray):(fil lo hi L).length<=L.length:=List.length_filter_le _ _
theorem fil_take {lo hi:ByteArray} {L:List ByteArray} {k:Nat} (h:k<L.length):fil lo hi (L.take (k+1))=fil lo hi (L.take k)++(if inR lo hi (gt L k)=true then [gt L k] else []):=by
 rw [chain_take h,fil_app]
 congr 1
 unfold fil
 rw [List.filter_cons,List.filter_nil]
theorem fil_none {lo hi:ByteArray} {L:List ByteArray} (h:∀k,k∈L->inR lo hi k=false):fil lo hi L=[]:=by
 unfold fil
 rw [List.filter_eq_nil_iff]
 intro k hk
 rw [h k hk]
 simp

def RetGa (B:Nat) (w:World) (L:List ByteArray) (e:Ending) (w' : World):Prop:=
 ∃a c,e=.returned (.slice a L.length c)/\w'.ownsRow B 9 1 (.slice a L.length c) L.length (strL L)/\Below B w w'

set_option maxHeartbeats 4000000 in
theorem gaLeaf_any (B b n kc:Nat) (ka:Option Addr) (v0:Value) (L L0:List ByteArray) (lo hi:ByteArray) (a0:Option Addr) (n0 c0:Nat) (w:World) (hx:Bx w b 206 #[v0,.slice ka n kc]) (hbB:b<B) (hr:∀W:World,Below B w W->RdS W ka n (gt L)) (hn:n=L.length) (hn2:n<=1048576) (h0:w.ownsRow B 9 1 (.slice a0 n0 c0) n0 (strL L0)) (hn0:n0=L0.length) (hn3:n0<=1073741824) (hB:B<=w.heap.size) :
  Calls Tryz.prog 203 #[.pointer (some ⟨b,0,none⟩),.slice a0 n0 c0,.string lo,.string hi] w (RetGa B w (L0++fil lo hi L)):=by
 have HR:Hid ((∀W:World,Below B w W->RdS W ka n (gt L))/\n=L.length):=⟨hr,hn⟩
 have H0:Hid (w.ownsRow B 9 1 (.slice a0 n0 c0) n0 (strL L0)/\n0=L0.length):=⟨h0,hn0⟩
 have c1:=hx.cell 1
 simp at c1
 clear hx hr hn h0 hn0
 go_enter Tryz.func203,Tryz.ntmps203
 go_wp2
 go_loopw [1,16] (fun q i wr=>∃(k m:Nat) (a:Option Addr) (c:Nat),k<=n/\i=.int .i64 k/\q=.slice a m c/\m=(L0++fil lo hi (L.take k)).length/\wr.ownsRow B 9 1 (.slice a m c) m (strL (L0++fil lo hi (L.take k)))/\Below B w wr) (fun _ i _=>n-(intOf i).toNat)
 case atStart=>exact ⟨0,n0,a0,c0,Nat.zero_le _,rfl,rfl,by simp [fil,H0.out.2],by simpa [fil] using H0.out.1,Below.refl _ _⟩
 case round=>
  obtain ⟨k,m,a,c,hk,rfl,rfl,hm,hown,hbel⟩:=hrel
  clear c1
  have HS:Hid (m=(L0++fil lo hi (L.take k)).length/\wr.ownsRow B 9 1 (.slice a m c) m (strL (L0++fil lo hi (L.take k)))/\Below B w wr):=⟨hm,hown,hbel⟩
  have hmb:m<=2147483648:=by
   rw [List.length_append] at hm
   have h1:=fil_le lo hi (L.take k)
   have h2:(L.take k).length<=L.length:=List.length_take_le' _ _
   have:=HR.out.2
   have:=H0.out.2
   omega
  have hz:=hbel.size
  clear hm hown hbel
  by_cases hlt:k<n
  ·have hlk:k<L.length:=by rw [<- HR.out.2];exact hlt
   rcases HR.out.1 wr HS.out.2.2 with q|⟨b3,o3,rfl,hc3⟩
   ·omega
   have s1:=hc3 k hlt
   have i0:(0:Int)<=(k:Int):=by omega
   have i1:(k:Int)<(n:Int):=by omega
   have htk:=fil_take (lo:=lo) (hi:=hi) hlk
   have hbz:b<wr.heap.size:=by omega
   clear hc3
   have htot:=less_total (gt L k).toList lo.toList
   have HYes:inR lo hi (gt L k)=true->Hid (∀(v' : Value) (w5:World),w5.ownsRow B 9 1 v' (m+1) (strL (L0++fil lo hi (L.take k))++[.string (gt L k)])->w5.ownsRow B 9 1 v' (m+1) (strL (L0++fil lo hi (L.take (k+1))))/\m+1=(L0++fil lo hi (L.take (k+1))).length):=by
    intro hin v' w5 ho
    rw [htk,hin,if_pos rfl,<- List.append_assoc]
    constructor
    ·rw [strL_app];exact ho
    ·rw [List.length_append,<- HS.out.1];rfl
   have HNot:inR lo hi (gt L k)=false->Hid (m=(L0++fil lo hi (L.take (k+1))).length/\wr.ownsRow B 9 1 (.slice a m c) m (strL (L0++fil lo hi (L.take (k+1))))/\Below B w wr):=by
    intro hin
    rw [htk,hin,if_neg (by simp),List.append_nil]
    exact HS.out
   obtain ⟨i9,hi9,hz0,hz1,hz2⟩:=info_parts Tryz.info9
   have HI:Hid (Tryz.prog.info? 9=some i9/\i9.zero=some (.string { data:=#[] })/\i9.size=1/\i9.bytes=16):=⟨hi9,hz0,hz1,hz2⟩
   clear hi9 hz0 hz1 hz2 htk
   have HO:Hid ((wr.alloc (.cells #[.string (gt L k)] 9)).ownsRow B 9 1 (.slice a m c) m (strL (L0++fil lo hi (L.take k)))):=own_below HS.out.2.1 (below_alloc _ _)
   cases hl:Op.bytesLess (gt L k).toList lo.toList with
   | true=>
    rw [hl] at htot
    have ht2:(Op.bytesLess lo.toList (gt L k).toList || lo.toList == (gt L k).toList)=false:=htot
    have HN:=HNot (by unfold inR;rw [hl];rfl)
    clear htot HYes HNot
    go_wp2
    go_roundw
    case rel=>exact ⟨k+1,m,a,c,by omega,by go_num,rfl,HN.out⟩
    case measure=>simp [intOf];omega
   | false=>
    rw [hl] at htot
    have ht2:(Op.bytesLess lo.toList (gt L k).toList || lo.toList == (gt L k).toList)=true:=htot
    by_cases hem:hi.toList=[]
    ·have HY:=HYes (by unfold inR;rw [hl,hem];rfl)
     clear htot HYes HNot
     go_wp2_with (at_builtin;refine wpList_append_own_at _ rfl _ _ 88 rfl B 9 i9 _ 1 16 Tryz.underlying88 HI.out.1 HI.out.2.1 HI.out.2.2.1 HI.out.2.2.2 rfl (by decide) (.slice a m c) m _ rfl HO.out ⟨wr.heap.size,0,none⟩ 1 1 [.string (gt L k)] rfl rfl (cell_one_new _ _ _) (by intro u hu;simp at hu;subst hu;rfl) (by unfold maxLen;omega) (by omega) (by simp;omega) ?_)
     intro v' w5 ho hg _ hat
     have HB5:Hid (Below B w w5):=(HS.out.2.2.trans ((below_alloc _ _).mono (by omega))).grown hg (by simp;omega) (fun g e=>(own_lt HS.out.2.1 g e).1)
     obtain ⟨q1,q2⟩:=HY.out v' w5 ho
     obtain ⟨a5,c5,rfl,_⟩:=own_form ho
     have HX:Hid (m+1=(L0++fil lo hi (L.take (k+1))).length/\w5.ownsRow B 9 1 (.slice a5 (m+1) c5) (m+1) (strL (L0++fil lo hi (L.take (k+1))))/\Below B w w5):=⟨q2,q1,HB5.out⟩
     clear ho hg hat q1 q2 HO
     go_wp2
     go_roundw
     case rel=>exact ⟨k+1,m+1,a5,c5,by omega,by go_num,rfl,HX.out⟩
     case measure=>simp [intOf];omega
    ·have hem' : hi.toList.isEmpty=false:=by simpa using hem
     cases hh:Op.bytesLess (gt L k).toList hi.toList with
     | true=>
      have HY:=HYes (by unfold inR;rw [hl,hh];simp)
      clear htot HYes HNot
      go_wp2_with (at_builtin;refine wpList_append_own_at _ rfl _ _ 88 rfl B 9 i9 _ 1 16 Tryz.underlying88 HI.out.1 HI.out.2.1 HI.out.2.2.1 HI.out.2.2.2 rfl (by decide) (.slice a m c) m _ rfl HO.out ⟨wr.heap.size,0,none⟩ 1 1 [.string (gt L k)] rfl rfl (cell_one_new _ _ _) (by intro u hu;simp at hu;subst hu;rfl) (by unfold maxLen;omega) (by omega) (by simp;omega) ?_)
      intro v' w5 ho hg _ hat
      have HB5:Hid (Below B w w5):=(HS.out.2.2.trans ((below_alloc _ _).mono (by omega))).grown hg (by simp;omega) (fun g e=>(own_lt HS.out.2.1 g e).1)
      obtain ⟨q1,q2⟩:=HY.out v' w5 ho
      obtain ⟨a5,c5,rfl,_⟩:=own_form ho
      have HX:Hid (m+1=(L0++fil lo hi (L.take (k+1))).length/\w5.ownsRow B 9 1 (.slice a5 (m+1) c5) (m+1) (strL (L0++fil lo hi (L.take (k+1))))/\Below B w w5):=⟨q2,q1,HB5.out⟩
      clear ho hg hat q1 q2 HO
      go_wp2
      go_roundw
      case rel=>exact ⟨k+1,m+1,a5,c5,by omega,by go_num,rfl,HX.out⟩
      case measure=>simp [intOf];omega
     | false=>
      have HN:=HNot (by unfold inR;rw [hl,hh];simp [hem])
      clear htot HYes HNot
      go_wp2
      go_roundw
      case rel=>exact ⟨k+1,m,a,c,by omega,by go_num,rfl,HN.out⟩
      case measure=>simp [intOf];omega
  ·have e:k=n:=by omega
   subst e
   have HE:Hid (L.take k=L):=by
    show L.take k=L
    rw [HR.out.2,List.take_length]
   go_wp2
   go_ret
   have q:=HS.out
   rw [HE.out] at q
   refine ⟨a,c,by rw [<- q.1];rfl,by rw [<- q.1];exact q.2.1,q.2.2⟩
end Go.Proofs.YtcnollkkigiobaaGreat
namespace Go.Proofs.YtcnollkkigiobaaGreat
open Go.RowKit Go.Deep Go.Shelf Go.Lib
set_option linter.unusedSimpArgs false
set_option maxRecDepth 1000000

set_option maxHeartbeats 4000000 in
theorem delS_any (b o n c i j:Nat) (cur:Array Value) (xs:List Value) (w:World) (hb:w.heap[b]?=some (.cells cur 9 (0,0))) (hcs:o+n<=cur.size) (hx:∀k v,xs[k]?=some v->w.cell? ⟨b,o+k,none⟩=some v) (hxl:xs.length=n) (h1:∀v∈xs,v.oneCell'=true) (hij:i<j) (hj:j<=n) (hnc:n<=c) (hc63:c<=9223372036854775807) :
  Calls Tryz.prog 213 #[.slice (some ⟨b,o,none⟩) n c,.int .i64 (i:Int),.int .i64 (j:Int)] w fun e w'=>e=.returned (.slice (some ⟨b,o,none⟩) (n-(j-i)) c)/\(∀k v,(xs.take i++xs.drop j)[k]?=some v->w'.cell? ⟨b,o+k,none⟩=some v)/\w.grownBy w' (some b):=by
 obtain ⟨i0,hi0,hz0,hz1,hz2⟩:=info_parts Tryz.info9
 have bx:Bx w b 9 cur:=hb
 obtain ⟨news,hnews⟩:∃news,news=xs.drop j:=⟨_,rfl⟩
 have hlen:news.length=n-j:=by rw [hnews,List.length_drop,hxl]
 obtain ⟨A,hA,hsrc⟩:∃A:Addr,(if c=j then some (⟨b,o,none⟩:Addr) else some ⟨b,o+j,none⟩)=some A/\Hid (∀t u,news[t]?=some u->w.drew.cell? (A.add t)=some u):=by
  by_cases h:c=j
  ·refine ⟨⟨b,o,none⟩,by simp [h],fun t u hu=>?_⟩
   have h0:news.length=0:=by rw [hlen];omega
   rw [List.length_eq_zero_iff.1 h0] at hu
   simp at hu
  ·refine ⟨⟨b,o+j,none⟩,by simp [h],fun t u hu=>?_⟩
   rw [hnews,List.getElem?_drop] at hu
   rw [Addr.add_lit,Nat.add_assoc]
   exact hx (j+t) u hu
 have s1:Hid (news.length=(n-j)*1):=by rw [Nat.mul_one];exact hlen
 have s2:Hid (∀u∈news,u.oneCell'=true):=by
  intro u hu
  rw [hnews] at hu
  exact h1 u (List.mem_of_mem_drop hu)
 have s3:Hid (∀t,t<news.length->(w.drew.cell? ⟨b,o+i*1+t,none⟩).isSome=true/\w.drew.frozen? ⟨b,o+i*1+t,none⟩=false):=by
  intro t ht
  rw [hlen] at ht
  exact ⟨by show (w.cell? _).isSome=true;rw [bx.cell,Array.getElem?_eq_getElem (by omega)];rfl,bx.frozen _⟩
 obtain ⟨W1,hW1⟩:∃W1,W1=w.drew.setCells b (o+i*1) news:=⟨_,rfl⟩
 obtain ⟨cur1,e1,e2,e3⟩:=row_sets news (o+i*1) w.drew cur hb (by omega)
 rw [<- hW1] at e1
 have g1:w.grownBy W1 (some b):=by rw [hW1];exact grown_trans (⟨rfl,rfl,rfl,Nat.le_refl _,fun _ _ _=>rfl⟩:w.grownBy w.drew (some b)) (grown_sets b news (o+i*1) w.drew)
 have bx1:Bx W1 b 9 cur1:=e1
 have hcl:∀ty,(Builtin.clear_ #[88] ty #[.slice (some ⟨b,o+(i+(n-j)),none⟩) (n-(i+(n-j))) (c-(i+(n-j)))]).run Tryz.prog W1=.ok (.tuple #[]) (W1.setCells b (o+(i+(n-j))) (List.replicate (n-(i+(n-j))) (.string ByteArray.empty))):=
  fun ty=>Lib.run_clear_slice W1 _ _ ty (.string ByteArray.empty) Tryz.underlying88 (fun W=>by kernel_rfl) rfl rfl b (o+(i+(n-j))) _ _ (by omega) (fun t ht=>by rw [bx1.cell,Array.getElem?_eq_getElem (by omega)];rfl) (fun t ht=>bx1.frozen _)
 have HF:Hid (∀W2,W2=W1.setCells b (o+(i+(n-j))) (List.replicate (n-(i+(n-j))) (.string ByteArray.empty))->(∀k v,(xs.take i++xs.drop j)[k]?=some v->W2.cell? ⟨b,o+k,none⟩=some v)/\w.grownBy W2 (some b)):=by
  rintro W2 rfl
  obtain ⟨cur2,f1,f2,f3⟩:=row_sets (List.replicate (n-(i+(n-j))) (.string ByteArray.empty)) (o+(i+(n-j))) W1 cur1 e1 (by rw [List.length_replicate];omega)
  refine ⟨fun k v hk=>?_,grown_trans g1 (grown_sets b _ _ W1)⟩
  have hkl:=(List.getElem?_eq_some_iff.1 hk).1
  rw [List.length_append,List.length_take,List.length_drop,hxl] at hkl
  rw [Bx.cell (show Bx _ b 9 cur2 from f1) (o+k),f3,if_neg (by omega),e3]
  have hl:(xs.take i).length=i:=by rw [List.length_take];omega
  by_cases q1:k<i
  ·rw [if_neg (by omega),<- bx.cell]
   rw [List.getElem?_append_left (by omega),List.getElem?_take,if_pos q1] at hk
   exact hx k v hk
  ·rw [if_pos (by omega),hnews]
   rw [List.getElem?_append_right (by omega),hl] at hk
   rw [show o+k-(o+i*1)=k-i by omega]
   exact hk
 have hW:Hid (W1=w.drew.setCells b (o+i*1) news):=hW1
 have hic:i<=c:=by omega
 have hjc:j<=c:=by omega
 have hne:¬ i=j:=by omega
 have hle:i<=j:=by omega
 have mixed:Tryz.prog.follows .mixedOrders=true:=by kernel_rfl
 clear hW1 hx e1 e2 e3 bx bx1 g1 hb hcs hlen hnews h1 hxl
 go_enter Tryz.func213,Tryz.ntmps213
 go_wp2_with fail
 go_region_law_o (refine step_append_room rfl (.tmp 22) (.tmp 25) 88 rfl 9 i0 1 Tryz.underlying88 hi0 hz1 b o i c (by simp [Act.eval,Act.put]) A (n-j) (c-j) news (by simp [Act.eval,Act.put]) s1.out hsrc.out s2.out (by omega) s3.out ?_;rw [<- hW.out])
 go_wp2
 go_ret
 exact ⟨by rw [show n-(j-i)=i+(n-j) by omega];rfl,HF.out _ rfl⟩

set_option maxHeartbeats 4000000 in
theorem delN_any (b o n c i j:Nat) (cur:Array Value) (xs:List Value) (w:World) (hb:w.heap[b]?=some (.cells cur 68 (0,0))) (hcs:o+n<=cur.size) (hx:∀k v,xs[k]?=some v->w.cell? ⟨b,o+k,none⟩=some v) (hxl:xs.length=n) (h1:∀v∈xs,v.oneCell'=true) (hij:i<j) (hj:j<=n) (hnc:n<=c) (hc63:c<=9223372036854775807) :
  Calls Tryz.prog 201 #[.slice (some ⟨b,o,none⟩) n c,.int .i64 (i:Int),.int .i64 (j:Int)] w fun e w'=>e=.returned (.slice (some ⟨b,o,none⟩) (n-(j-i)) c)/\(∀k v,(xs.take i++xs.drop j)[k]?=some v->w'.cell? ⟨b,o+k,none⟩=some v)/\w.grownBy w' (some b):=by
 obtain ⟨i0,hi0,hz0,hz1,hz2⟩:=info_parts Tryz.info68
 have bx:Bx w b 68 cur:=hb
 obtain ⟨news,hnews⟩:∃news,news=xs.drop j:=⟨_,rfl⟩
 have hlen:news.length=n-j:=by rw [hnews,List.length_drop,hxl]
 obtain ⟨A,hA,hsrc⟩:∃A:Addr,(if c=j then some (⟨b,o,none⟩:Addr) else some ⟨b,o+j,none⟩)=some A/\Hid (∀t u,news[t]?=some u->w.drew.cell? (A.add t)=some u):=by
  by_cases h:c=j
  ·refine ⟨⟨b,o,none⟩,by simp [h],fun t u hu=>?_⟩
   have h0:news.length=0:=by rw [hlen];omega
   rw [List.length_eq_zero_iff.1 h0] at hu
   simp at hu
  ·refine ⟨⟨b,o+j,none⟩,by simp [h],fun t u hu=>?_⟩
   rw [hnews,List.getElem?_drop] at hu
   rw [Addr.add_lit,Nat.add_assoc]
   exact hx (j+t) u hu
 have s1:Hid (news.length=(n-j)*1):=by rw [Nat.mul_one];exact hlen
 have s2:Hid (∀u∈news,u.oneCell'=true):=by
  intro u hu
  rw [hnews] at hu
  exact h1 u (List.mem_of_mem_drop hu)
 have s3:Hid (∀t,t<news.length->(w.drew.cell? ⟨b,o+i*1+t,none⟩).isSome=true/\w.drew.frozen? ⟨b,o+i*1+t,none⟩=false):=by
  intro t ht
  rw [hlen] at ht
  exact ⟨by show (w.cell? _).isSome=true;rw [bx.cell,Array.getElem?_eq_getElem (by omega)];rfl,bx.frozen _⟩
 obtain ⟨W1,hW1⟩:∃W1,W1=w.drew.setCells b (o+i*1) news:=⟨_,rfl⟩
 obtain ⟨cur1,e1,e2,e3⟩:=row_sets news (o+i*1) w.drew cur hb (by omega)
 rw [<- hW1] at e1
 have g1:w.grownBy W1 (some b):=by rw [hW1];exact grown_trans (⟨rfl,rfl,rfl,Nat.le_refl _,fun _ _ _=>rfl⟩:w.grownBy w.drew (some b)) (grown_sets b news (o+i*1) w.drew)
 have bx1:Bx W1 b 68 cur1:=e1
 have hcl:∀ty,(Builtin.clear_ #[175] ty #[.slice (some ⟨b,o+(i+(n-j)),none⟩) (n-(i+(n-j))) (c-(i+(n-j)))]).run Tryz.prog W1=.ok (.tuple #[]) (W1.setCells b (o+(i+(n-j))) (List.replicate (n-(i+(n-j))) (.nilIface))):=
  fun ty=>Lib.run_clear_slice W1 _ _ ty (.nilIface) Tryz.underlying175 (fun W=>by kernel_rfl) rfl rfl b (o+(i+(n-j))) _ _ (by omega) (fun t ht=>by rw [bx1.cell,Array.getElem?_eq_getElem (by omega)];rfl) (fun t ht=>bx1.frozen _)
 have HF:Hid (∀W2,W2=W1.setCells b (o+(i+(n-j))) (List.replicate (n-(i+(n-j))) (.nilIface))->(∀k v,(xs.take i++xs.drop j)[k]?=some v->W2.cell? ⟨b,o+k,none⟩=some v)/\w.grownBy W2 (some b)):=by
  rintro W2 rfl
  obtain ⟨cur2,f1,f2,f3⟩:=row_sets (List.replicate (n-(i+(n-j))) (.nilIface)) (o+(i+(n-j))) W1 cur1 e1 (by rw [List.length_replicate];omega)
  refine ⟨fun k v hk=>?_,grown_trans g1 (grown_sets b _ _ W1)⟩
  have hkl:=(List.getElem?_eq_some_iff.1 hk).1
  rw [List.length_append,List.length_take,List.length_drop,hxl] at hkl
  rw [Bx.cell (show Bx _ b 68 cur2 from f1) (o+k),f3,if_neg (by omega),e3]
  have hl:(xs.take i).length=i:=by rw [List.length_take];omega
  by_cases q1:k<i
  ·rw [if_neg (by omega),<- bx.cell]
   rw [List.getElem?_append_left (by omega),List.getElem?_take,if_pos q1] at hk
   exact hx k v hk
  ·rw [if_pos (by omega),hnews]
   rw [List.getElem?_append_right (by omega),hl] at hk
   rw [show o+k-(o+i*1)=k-i by omega]
   exact hk
 have hW:Hid (W1=w.drew.setCells b (o+i*1) news):=hW1
 have hic:i<=c:=by omega
 have hjc:j<=c:=by omega
 have hne:¬ i=j:=by omega
 have hle:i<=j:=by omega
 have mixed:Tryz.prog.follows .mixedOrders=true:=by kernel_rfl
 clear hW1 hx e1 e2 e3 bx bx1 g1 hb hcs hlen hnews h1 hxl
 go_enter Tryz.func201,Tryz.ntmps201
 go_wp2_with fail
 go_region_law_o (refine step_append_room rfl (.tmp 22) (.tmp 25) 175 rfl 68 i0 1 Tryz.underlying175 hi0 hz1 b o i c (by simp [Act.eval,Act.put]) A (n-j) (c-j) news (by simp [Act.eval,Act.put]) s1.out hsrc.out s2.out (by omega) s3.out ?_;rw [<- hW.out])
 go_wp2
 go_ret
 exact ⟨by rw [show n-(j-i)=i+(n-j) by omega];rfl,HF.out _ rfl⟩

end Go.Proofs.YtcnollkkigiobaaGreat
namespace Go.Proofs.YtcnollkkigiobaaGreat
open Go.RowKit Go.Deep

theorem delK_at {key:ByteArray} {L:List ByteArray} {i:Nat} (ha:Asc L) (hi:i<L.length) (e:gt L i=key):delK key L=L.take i++L.drop (i+1):=by
 have eg:L[i]=key:=by
  rw [<- e]
  unfold gt
  rw [List.getD_eq_getElem?_getD,List.getElem?_eq_getElem hi]
  rfl
 have hL:L=L.take i++key::L.drop (i+1):=by
  rw [<- eg,List.getElem_cons_drop,List.take_append_drop]
 have ha2:Asc (L.take i++key::L.drop (i+1)):=by rw [<- hL];exact ha
 have ha3:=List.pairwise_append.1 ha2
 have ha4:=List.pairwise_cons.1 ha3.2.1
 have q1:(L.take i).filter (fun k=>!(k.toList == key.toList))=L.take i:=by
  rw [List.filter_eq_self]
  intro x hx
  have hlt:=ha3.2.2 x hx key (by simp)
  have hne:x.toList≠key.toList:=fun e=>by
   rw [e,less_irrefl] at hlt
   cases hlt
  simpa using hne
 have q2:(L.drop (i+1)).filter (fun k=>!(k.toList == key.toList))=L.drop (i+1):=by
  rw [List.filter_eq_self]
  intro x hx
  have hlt:=ha4.1 x hx
  have hne:x.toList≠key.toList:=fun e=>by
   rw [e,less_irrefl] at hlt
   cases hlt
  simpa using hne
 unfold delK
 conv=>lhs;rw [hL]
 rw [List.filter_append,List.filter_cons_of_neg (by simp),q1,q2]
theorem delK_len {key:ByteArray} {L:List ByteArray} {i:Nat} (ha:Asc L) (hi:i<L.length) (e:gt L i=key):(delK key L).length=L.length-1:=by
 rw [delK_at ha hi e,List.length_append,List.length_take,List.length_drop]
 omega

def RetLr (b n kc:Nat) (ka:Option Addr) (L:List ByteArray) (key:ByteArray) (w:World) (e:Ending) (w' : World):Prop:=
 (key∉L/\e=.returned (.bool false)/\w'=w)\/
 (key∈L/\e=.returned (.bool true)/\Only2 w w' b ka/\(delK key L).length=n-1/\∃g,ka=some ⟨g,0,none⟩/\g≠b/\g<w.heap.size/\Bx w' b 206 #[.int .i64 ((n-1:Nat):Int),.slice (some ⟨g,0,none⟩) (n-1) kc]/\∀j u,(strL (delK key L))[j]?=some u->w'.cell? ⟨g,0+j,none⟩=some u)

set_option maxHeartbeats 2000000 in
theorem leafRem_any (B b n kc:Nat) (ka:Option Addr) (L:List ByteArray) (key:ByteArray) (w:World) (hx:Bx w b 206 #[.int .i64 (n:Int),.slice ka n kc]) (ho:w.ownsRow B 9 1 (.slice ka n kc) n (strL L)) (hn:n=L.length) (hn2:n<=1000000) (ha:Asc L) :
  Calls Tryz.prog 207 #[.pointer (some ⟨b,0,none⟩),.string key] w (RetLr b n kc ka L key w):=by
 obtain ⟨a6,c6,e6,hrd,hcap6⟩:=ownS_strL ho hn
 injection e6 with e6 e7 e8
 subst e6
 rw [<- hn] at hrd
 have HR:Hid (Bx w b 206 #[.int .i64 (n:Int),.slice ka n kc]/\w.ownsRow B 9 1 (.slice ka n kc) n (strL L)/\n=L.length/\Asc L/\RdS w ka n (gt L)):=⟨hx,ho,hn,ha,hrd.rd⟩
 have c0:=hx.cell 0
 have c1:=hx.cell 1
 have f1:=hx.frozen 1
 have hl:=hx.lt
 simp at c0 c1
 clear hx ho hn ha hrd hcap6 e7 e8 c6
 go_enter Tryz.func207,Tryz.ntmps207
 go_wp2_with fail
 refine (bs_any ka n kc L key w HR.out.2.2.2.2 HR.out.2.2.1 (by omega) HR.out.2.2.2.1).mono ?_
 rintro e w1 ⟨i,ok,rfl,rfl,h1,h2,h3,h4⟩
 cases ok with
 | false=>
  have HM:Hid (¬ key∈L):=fun hm=>by
   obtain ⟨j,hj,e⟩:=List.getElem_of_mem hm
   have eg:gt L j=key:=by
    unfold gt
    rw [List.getD_eq_getElem?_getD,List.getElem?_eq_getElem hj]
    exact e
   have hji:¬ j<i:=fun q=>by
    have:=h2 j q
    rw [eg,less_irrefl] at this
    cases this
   by_cases e2:j=i
   ·subst e2
    have:=h4.2 ⟨hj,eg⟩
    cases this
   ·have q1:=asc_lt HR.out.2.2.2.1 (show i<j by omega) hj
    rw [eg] at q1
    have q2:=h3 i (Nat.le_refl _) (by omega)
    rw [q1] at q2
    cases q2
  clear h1 h2 h3 h4
  go_wp2
  go_ret
  exact .inl ⟨HM.out,rfl,rfl⟩
 | true=>
  obtain ⟨q1,q2⟩:=h4.1 rfl
  have HM:Hid (key∈L/\(delK key L).length=n-1/\delK key L=L.take i++L.drop (i+1)):=⟨by rw [<- q2];exact gt_mem q1,by rw [HR.out.2.2.1];exact delK_len HR.out.2.2.2.1 q1 q2,delK_at HR.out.2.2.2.1 q1 q2⟩
  have hin:i<n:=by rw [HR.out.2.2.1];exact q1
  clear h1 h2 h3 h4 q1 q2
  obtain ⟨g,cur,e1,hg1,hcn,hcm,hcs,htk⟩:∃g cur,ka=some ⟨g,0,none⟩/\w1.heap[g]?=some (.cells cur 9 (0,0))/\n<=kc/\kc<=maxLen/\cur.size=kc/\cur.toList.take n=strL L:=by
   rcases HR.out.2.1.2 with ⟨q,q0⟩|⟨g,cap,cur,q1,q2,q3,q4,q5,q6,q7⟩
   ·omega
   ·injection q1 with q1 _ q8
    subst q8
    exact ⟨g,cur,q1,q3,q4,q5,by omega,by rw [Nat.mul_one] at q7;exact q7⟩
  subst e1
  have hgb:g≠b:=fun e=>by
   have hb:=HR.out.1
   unfold Bx at hb
   rw [<- e] at hb
   have e2:=hg1.symm.trans hb
   injection e2 with e2
   injection e2 with _ e2 _
   exact absurd e2 (by decide)
  have hgl:g<w1.heap.size:=(Array.getElem?_eq_some_iff.1 hg1).1
  have hmx:kc<=9223372036854775807:=by unfold maxLen at hcm;omega
  have HDl:Hid (Calls Tryz.prog 213 #[.slice (some ⟨g,0,none⟩) n kc,.int .i64 (i:Int),.int .i64 ((i+1:Nat):Int)] w1 fun e w'=>e=.returned (.slice (some ⟨g,0,none⟩) (n-1) kc)/\(∀k v,(strL (delK key L))[k]?=some v->w'.cell? ⟨g,0+k,none⟩=some v)/\w1.grownBy w' (some g)):=by
   have q:=delS_any g 0 n kc i (i+1) cur (strL L) w1 hg1 (by omega) (fun k v hk=>by
    have hkl:=(List.getElem?_eq_some_iff.1 hk).1
    rw [strL_length,<- HR.out.2.2.1] at hkl
    rw [Nat.zero_add,Bx.cell (show Bx w1 g 9 cur from hg1) k]
    rw [<- htk,List.getElem?_take,if_pos hkl,Array.getElem?_toList] at hk
    exact hk) (by rw [strL_length,HR.out.2.2.1]) (strL_one L) (by omega) (by omega) hcn hmx
   rw [show n-(i+1-i)=n-1 by omega,strL_take,strL_drop,<- strL_app,<- HM.out.2.2] at q
   exact q
  have y1:IntKind.i64.wrap ((i:Int)+1)=((i+1:Nat):Int):=by rw [IntKind.wrap_i64];omega
  clear hg1 htk hcs
  go_wp2_with fail
  refine HDl.out.mono ?_
  rintro e w2 ⟨rfl,hc2,hg2⟩
  have hx2:Bx w2 b 206 #[.int .i64 (n:Int),.slice (some ⟨g,0,none⟩) n kc]:=HR.out.1.grown hg2 (fun e=>by injection e with e;exact hgb e)
  have d1:=hx2.cell 1
  have g1:=hx2.frozen 1
  have l2:=hx2.lt
  simp at d1
  have hx3:Bx (w2.setCell ⟨b,1,none⟩ (.slice (some ⟨g,0,none⟩) (n-1) kc)) b 206 #[.int .i64 (n:Int),.slice (some ⟨g,0,none⟩) (n-1) kc]:=by
   have q:=hx2.set 1 (.slice (some ⟨g,0,none⟩) (n-1) kc)
   simpa using q
  have HX:Hid (Bx (w2.setCell ⟨b,1,none⟩ (.slice (some ⟨g,0,none⟩) (n-1) kc)) b 206 #[.int .i64 (n:Int),.slice (some ⟨g,0,none⟩) (n-1) kc]):=hx3
  have H2:Hid ((∀k v,(strL (delK key L))[k]?=some v->w2.cell? ⟨g,0+k,none⟩=some v)/\w1.grownBy w2 (some g)):=⟨hc2,hg2⟩
  clear hc2 hg2 hx2 hx3 c0 c1 f1 HDl
  go_wp2_with fail
  refine (recountLeaf_any b (n-1) kc _ (n:Int) _ HX.out).mono ?_
  rintro e w3 ⟨rfl,rfl⟩
  have HF:Hid (RetLr b n kc (some ⟨g,0,none⟩) L key w1 (.returned (.bool true)) ((w2.setCell ⟨b,1,none⟩ (.slice (some ⟨g,0,none⟩) (n-1) kc)).setCell ⟨b,0,none⟩ (.int .i64 ((n-1:Nat):Int)))):=by
   obtain ⟨hc,hg⟩:=H2.out
   refine .inr ⟨HM.out.1,rfl,⟨hg.os,hg.tape,hg.output,?_,fun k hk hkb hka=>?_⟩,HM.out.2.1,g,rfl,hgb,hgl,?_,fun j u hj=>?_⟩
   ·have q:=hg.size
    simp [World.setCell]
    omega
   ·rw [Below.heap_setCell _ _ _ _ hkb,Below.heap_setCell _ _ _ _ hkb,hg.block k hk (fun e=>hka (by injection e with e;rw [e];rfl))]
   ·have q:=HX.out.set 0 (.int .i64 ((n-1:Nat):Int))
    simpa using q
   ·rw [World.cell?_of_block (a:=⟨g,0+j,none⟩) (w:=w2) (by rw [Below.heap_setCell _ _ _ _ hgb,Below.heap_setCell _ _ _ _ hgb])]
    exact hc j u hj
  go_wp2
  go_ret
  exact HF.out

def CallR (v:Value) (key:ByteArray) (w:World) (Q:Ending->World->Prop):Prop:=
 (∃b,v=.iface 204 (.pointer (some ⟨b,0,none⟩))/\Calls Tryz.prog 207 #[.pointer (some ⟨b,0,none⟩),.string key] w Q)\/
 (∃b,v=.iface 174 (.pointer (some ⟨b,0,none⟩))/\Calls Tryz.prog 190 #[.pointer (some ⟨b,0,none⟩),.string key] w Q)
def RetR (key:ByteArray) (d:Nat) (t:Ro d) (v:Value) (bs:List Nat) (w:World) (e:Ending) (w' : World):Prop:=
 (key∉keysR d t/\e=.returned (.bool false)/\Below w.heap.size w w')\/
 (key∈keysR d t/\e=.returned (.bool true)/\Frs bs w w'/\∃u b,b∈bs/\DelR key d t u/\NdI (fun x=>(x∈bs/\x≠b)\/w.heap.size<=x) w' b d u v)

theorem remLeafO (key:ByteArray) (d B:Nat) (L:List ByteArray) (v:Value) (bs:List Nat) (w:World) (h:TOw B w (d+1) (.inl L) v bs) (hn:L.length<=4) (ha:Asc L):CallR v key w (RetR key (d+1) (.inl L) v bs w):=by
 obtain ⟨b,ka,kc,rfl,hBb,hx,ho,rfl⟩:=h
 have hcap:=own_cap ho
 refine .inl ⟨b,rfl,(leafRem_any B b L.length kc ka L key w hx ho rfl (by omega) ha).mono ?_⟩
 rintro e w' (⟨h1,rfl,rfl⟩|⟨h1,rfl,ho2,hlen,g,rfl,hgb,hgl,hx',hc⟩)
 ·exact .inl ⟨h1,rfl,Below.refl _ _⟩
 ·refine .inr ⟨h1,rfl,⟨ho2.1,ho2.2.1,ho2.2.2.1,ho2.2.2.2.1,fun k hk hn=>ho2.2.2.2.2 k hk (fun e=>hn (by rw [e];simp)) (fun e=>hn (by injection e with e;simp [<- e]))⟩,.inl (delK key L),b,by simp,rfl,rfl,some ⟨g,0,none⟩,kc,by rw [hlen];exact hx',by omega,?_⟩
  refine .inr ⟨g,0,rfl,.inl ⟨by simp,hgb⟩,by have:=ho2.2.2.2.1;omega,fun i hi=>?_⟩
  exact hc i _ (strL_get _ i hi)

def DelT (m:Nat) (M:Nat->Tn) (r:Ro 21):Prop:=
 (∃y:Ro 20,r=.inr [y]/\m=nodesR 20 y/\Tells M 0 20 y 0)\/((∀y:Ro 20,r≠.inr [y])/\m=nodesR 21 r/\Tells M 0 21 r 0)
def DelTo (n:Nat) (N:Nat->Tn) (key:ByteArray) (m:Nat) (M:Nat->Tn):Prop:=
 ∃t r,VTt n N t/\key∈keysR 21 t/\DelR key 21 t r/\m<=5000/\DelT m M r
def DelNo (n:Nat) (N:Nat->Tn) (key:ByteArray):Prop:=∀t,VTt n N t->key∉keysR 21 t
def RetDl (w:World) (n:Nat) (N:Nat->Tn) (key:ByteArray) (e:Ending) (w' : World):Prop:=
 Below w.heap.size w w'/\∃ok a m c M,e=.returned (.agg #[.bool ok,.slice a m c])/\RdTn w' a m M/\((ok=true/\DelTo n N key m M)\/(ok=false/\m=n/\M=N/\DelNo n N key))
def RetDlN (w:World) (n:Nat) (N:Nat->Tn) (key:ByteArray) (e:Ending) (w' : World):Prop:=
 Below w.heap.size w w'/\∃ok a m c M,e=.returned (.agg #[.bool ok,.slice a m c])/\RowN (w.heap.size+2) w' a m M/\((ok=true/\DelTo n N key m M)\/(ok=false/\m=n/\M=N/\DelNo n N key))


def DelOk (n:Nat) (M:Nat->Nat) (T:Nat->Nat->Tn) (q:Qd):Prop:=VI n M T/\∀t,VTt (M 0) (T 0) t->q∈(keysR 21 t).map (quadOf 0)
def DelD (m0:Nat) (N0:Nat->Tn) (key:ByteArray) (m:Nat) (N:Nat->Tn):Prop:=DelTo m0 N0 key m N\/(m=m0/\N=N0/\DelNo m0 N0 key)

def RdIxC (w:World) (a:Option Addr) (n:Nat) (M:Nat->Nat) (T:Nat->Nat->Tn):Prop:=
 n=0\/∃b o,a=some ⟨b,o,none⟩/\∀i,i<n->∃ai ci,w.cell? ⟨b,o+i,none⟩=some (.slice ai (M i) ci)/\RdTnC capC w ai (M i) (T i)
theorem RdIxC.rd {w:World} {a:Option Addr} {n:Nat} {M:Nat->Nat} {T:Nat->Nat->Tn} (h:RdIxC w a n M T):RdIx w a n M T:=by
 rcases h with h|⟨b,o,e,hc⟩
 ·exact .inl h
 ·refine .inr ⟨b,o,e,fun i hi=>?_⟩
  obtain ⟨ai,ci,h0,h1⟩:=hc i hi
  exact ⟨ai,ci,h0,h1.rd⟩
end Go.Proofs.YtcnollkkigiobaaGreat
