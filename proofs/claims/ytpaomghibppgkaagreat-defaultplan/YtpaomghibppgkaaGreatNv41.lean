import Derived.Test.YtpaomghibppgkaaGreatNv39
import Derived.Deep.RegionHeld3
set_option linter.unusedVariables false
set_option maxRecDepth 100000
namespace Go.Proofs.YtpaomghibppgkaaGreat
open Go.RowKit Go.Deep

theorem fil_before {d:Nat} {l:List (Ro d)} {lo hi:ByteArray} {i:Nat} (hi' : i<l.length) (ha:Asc (l.flatMap (keysR d))) (hp:0<(keysR d l[i]).length) (h1:0<i->Op.bytesLess lo.toList (gt (keysR d l[i]) 0).toList=false):fil lo hi ((l.take i).flatMap (keysR d))=[]:=by
 refine fil_none (fun k hk=>?_)
 have e:l=l.take i++(l[i]::l.drop (i+1)):=by
  conv=>lhs;rw [<- List.take_append_drop (i+1) l,<- List.take_append_getElem hi']
  simp
 rw [e,List.flatMap_append,List.flatMap_cons] at ha
 unfold Asc at ha
 rw [List.pairwise_append] at ha
 by_cases h0:0<i
 ·have q:=ha.2.2 k hk (gt (keysR d l[i]) 0) (List.mem_append_left _ (gt_mem hp))
  have:=less_of_lt_le q (h1 h0)
  unfold inR
  rw [this]
  rfl
 ·have:i=0:=by omega
  subst this
  simp at hk

theorem fil_after {d:Nat} {l:List (Ro d)} {lo hi:ByteArray} {k:Nat} (hk:k<l.length) (ha:Asc (l.flatMap (keysR d))) (hp:0<(keysR d l[k]).length) (h1:¬ hi.toList=[]) (h2:Op.bytesLess (gt (keysR d l[k]) 0).toList hi.toList=false):fil lo hi (l.flatMap (keysR d))=fil lo hi ((l.take k).flatMap (keysR d)):=by
 have e:l=l.take k++(l[k]::l.drop (k+1)):=by
  conv=>lhs;rw [<- List.take_append_drop (k+1) l,<- List.take_append_getElem hk]
  simp
 have ef:l.flatMap (keysR d)=(l.take k).flatMap (keysR d)++(keysR d l[k]++(l.drop (k+1)).flatMap (keysR d)):=by
  conv=>lhs;rw [e]
  rw [List.flatMap_append,List.flatMap_cons]
 rw [ef] at ha ⊢
 unfold Asc at ha
 rw [List.pairwise_append] at ha
 obtain ⟨_,ha2,_⟩:=ha
 rw [fil_app,fil_none (L:=keysR d l[k]++_),List.append_nil]
 intro x hx
 rw [List.pairwise_append] at ha2
 obtain ⟨q1,_,q3⟩:=ha2
 have hle:Op.bytesLess x.toList hi.toList=false:=by
  have hcase:x=gt (keysR d l[k]) 0\/Op.bytesLess (gt (keysR d l[k]) 0).toList x.toList=true:=by
   rcases List.mem_append.1 hx with hx|hx
   ·obtain ⟨j,hj,rfl⟩:=List.getElem_of_mem hx
    have e1:(keysR d l[k])[j]=gt (keysR d l[k]) j:=by
     unfold gt
     rw [List.getD_eq_getElem?_getD,List.getElem?_eq_getElem hj]
     rfl
    rw [e1]
    by_cases e0:j=0
    ·subst e0;exact Or.inl rfl
    ·exact Or.inr (asc_lt q1 (show 0<j by omega) hj)
   ·exact Or.inr (q3 _ (gt_mem hp) _ hx)
  rcases hcase with rfl|h3
  ·exact h2
  ·cases e:Op.bytesLess x.toList hi.toList with
   | false=>rfl
   | true=>
    have:=less_trans _ _ _ h3 e
    rw [h2] at this
    cases this
 unfold inR
 rw [hle]
 have:hi.toList.isEmpty=false:=by simpa using h1
 rw [this]
 simp

def GaC (B:Nat) (w:World) (v:Value) (lo hi:ByteArray) (K:List ByteArray):Prop:=
 (∃p,v=.iface 243 (.pointer (some p))/\∀(W:World) (a0:Option Addr) (n0 c0:Nat) (L0:List ByteArray),Below B w W->B<=W.heap.size->W.ownsRow B 9 1 (.slice a0 n0 c0) n0 (strL L0)->n0=L0.length->n0<=1073741824->Calls Tryz.prog 170 #[.pointer (some p),.slice a0 n0 c0,.string lo,.string hi] W (RetGa B W (L0++fil lo hi K)))\/
 (∃p,v=.iface 248 (.pointer (some p))/\∀(W:World) (a0:Option Addr) (n0 c0:Nat) (L0:List ByteArray),Below B w W->B<=W.heap.size->W.ownsRow B 9 1 (.slice a0 n0 c0) n0 (strL L0)->n0=L0.length->n0+K.length<=1073741824->Calls Tryz.prog 182 #[.pointer (some p),.slice a0 n0 c0,.string lo,.string hi] W (RetGa B W (L0++fil lo hi K)))

set_option maxHeartbeats 8000000 in
theorem gather_any (lo hi:ByteArray) (B:Nat) (w:World):∀(d:Nat) (t:Ro d) (v:Value) (root:Bool) (h:Nat),TAt (fun bb=>bb<B) w d t v->BalR d root t h->Asc (keysR d t)->(keysR d t).length<=1048576->GaC B w v lo hi (keysR d t):=by
 intro d
 induction d with
 | zero=>intro t;exact t.elim
 | succ d ih=>
  intro t v root h ht hb ha hlen
  rcases t with t|l
  ·obtain ⟨b,ka,kc,rfl,hbB,hx,hr⟩:=ht
   refine Or.inl ⟨_,rfl,fun W a0 n0 c0 L0 hW hBW ho h1 h2=>?_⟩
   refine gaLeaf_any B b t.length kc ka _ t L0 lo hi a0 n0 c0 W (hx.below' hW hbB) hbB (fun W' hW'=>?_) rfl hlen ho h1 h2 hBW
   exact (hr.mono (w':=W') (S':=fun _=>True) (by have:=hW.size;have:=hW'.size;omega) (fun bb hs _=>⟨trivial,((hW.trans hW').block bb hs)⟩)).rdS
  ·have ht2:=ht
   obtain ⟨b,g,kc,xs,rfl,hbB,hx,hgB,⟨_,hcap,hcapm⟩,hl,hc,hk⟩:=ht2
   obtain ⟨hb1,hb2,h',_,hall⟩:=hb
   refine Or.inr ⟨_,rfl,fun W a0 n0 c0 L0 hW hBW ho h1 h2=>?_⟩
   have htW:TAt (fun bb=>bb<B) W (d+1) (.inr l) (.iface 248 (.pointer (some ⟨b,0,none⟩))):=ht.mono hW.size (fun bb hs _=>⟨hs,hW.block bb hs⟩)
   have ha' : Asc (l.flatMap (keysR d)):=ha
   have hlen' : (l.flatMap (keysR d)).length<=1048576:=hlen
   have HKf:Hid (Calls Tryz.prog 190 #[.pointer (some ⟨b,0,none⟩),.string lo] W.drew (RetKf l lo W.drew)):=kidFor_any d b l _ h' lo W.drew (htW.below (Below.refl _ _).drew) hall hb2
   have HKid:Hid (∀k (hk:k<l.length),∃u,(∀W',Below B w W'->W'.cell? ⟨g,k,none⟩=some u)/\GaC B w u lo hi (keysR d l[k])/\((∃p,u=.iface 243 (.pointer (some p))/\∀W',Below B w W'->Calls Tryz.prog 172 #[.pointer (some p)] W' fun e w'=>e=.returned (.string (gt (keysR d l[k]) 0))/\w'=W')\/(∃p,u=.iface 248 (.pointer (some p))/\∀W',Below B w W'->Calls Tryz.prog 184 #[.pointer (some p)] W' fun e w'=>e=.returned (.string (gt (keysR d l[k]) 0))/\w'=W'))):=by
    intro k hkl
    obtain ⟨u,hu,hut⟩:=hk k hkl
    refine ⟨u,fun W' hW'=>by rw [hW'.cell (p:=⟨g,k,none⟩) hgB];exact hc k u hu,ih l[k] u false h' hut (hall _ (List.getElem_mem hkl)) (asc_kid ha' k hkl) (by have:=kid_keys_le d l k hkl;omega),?_⟩
    have hW2:∀W',Below B w W'->TAt (fun bb=>bb<B) W' d l[k] u:=fun W' hW'=>hut.mono hW'.size (fun bb hs _=>⟨hs,hW'.block bb hs⟩)
    rcases least_call hut (hall _ (List.getElem_mem hkl)) with ⟨p,rfl,_⟩|⟨p,rfl,_⟩
    ·refine Or.inl ⟨p,rfl,fun W' hW'=>?_⟩
     rcases least_call (hW2 W' hW') (hall _ (List.getElem_mem hkl)) with ⟨p',e',q⟩|⟨p',e',q⟩
     ·injection e' with _ e'
      injection e' with e'
      injection e' with e'
      subst e'
      exact q W' (Below.refl _ _)
     ·injection e' with e' _
      exact absurd e' (by decide)
    ·refine Or.inr ⟨p,rfl,fun W' hW'=>?_⟩
     rcases least_call (hW2 W' hW') (hall _ (List.getElem_mem hkl)) with ⟨p',e',q⟩|⟨p',e',q⟩
     ·injection e' with e' _
      exact absurd e' (by decide)
     ·injection e' with _ e'
      injection e' with e'
      injection e' with e'
      subst e'
      exact q W' (Below.refl _ _)
   have HMath:Hid (∀i (hi' : i<l.length),(∀h:i<l.length,0<i->Op.bytesLess lo.toList (gt (keysR d l[i]) 0).toList=false)->fil lo hi ((l.take i).flatMap (keysR d))=[]):=fun i hi' q=>fil_before hi' ha' (bal_pos (hall _ (List.getElem_mem hi'))) (q hi')
   have HAft:Hid (∀k (hk:k<l.length),¬ hi.toList=[]->Op.bytesLess (gt (keysR d l[k]) 0).toList hi.toList=false->fil lo hi (l.flatMap (keysR d))=fil lo hi ((l.take k).flatMap (keysR d))):=fun k hk q1 q2=>fil_after hk ha' (bal_pos (hall _ (List.getElem_mem hk))) q1 q2
   have HLe:Hid ((l.flatMap (keysR d)).length<=1048576):=hlen'
   have HO:Hid (W.ownsRow B 9 1 (.slice a0 n0 c0) n0 (strL L0)/\n0=L0.length/\Below B w W):=⟨ho,h1,hW⟩
   have h2' : n0+(l.flatMap (keysR d)).length<=1073741824:=h2
   have H2:Hid (n0+(l.flatMap (keysR d)).length<=1073741824):=h2'
   have hxW:Bx W b 251 #[.int .i64 ((l.flatMap (keysR d)).length:Int),.slice (some ⟨g,0,none⟩) l.length kc]:=hx.below' hW hbB
   have c1:=hxW.cell 1
   simp at c1
   obtain ⟨ln,hln⟩:∃ln,ln=l.length:=⟨_,rfl⟩
   rw [<- hln] at c1 hl hb2 hcap
   have HLn:Hid (ln=l.length):=hln
   clear hx hxW hc hk hall ih ht htW ha hlen ha' hlen' hln hb1 ho h1 h2 h2'
   go_enter Tryz.func182,Tryz.ntmps182
   go_wp2
   go_region_held3 (fun w'=>w'.cell? ⟨b,1,none⟩=some (.slice (some ⟨g,0,none⟩) ln kc)) (go_keep) (first|(go_at_call 190;refine HKf.out.mono ?_;rintro e w1 ⟨i,rfl,rfl,hi1,q1,q2⟩;have i0:(0:Int)<=(i:Int):=(by omega);have i1:(i:Int)<=(ln:Int):=(by rw [HLn.out];omega);have hkci:¬ kc=i:=(by have:=HLn.out;omega))|fail)
   have HPre:Hid (fil lo hi ((l.take i).flatMap (keysR d))=[]):=HMath.out i hi1 q1
   obtain ⟨rl,hrl⟩:∃rl,rl=ln-i:=⟨_,rfl⟩
   have hrl2:i+rl=ln:=by have:=HLn.out;omega
   go_wp2
   rw [<- hrl]
   have HRl:Hid (i+rl=ln):=hrl2
   have hrlb:rl<=4:=by omega
   clear hrl hrl2 q1 q2 HKf
   go_loopw [1,20] (fun q k wr=>∃(j m:Nat) (a:Option Addr) (c:Nat),j<=rl/\k=.int .i64 j/\q=.slice a m c/\m=(L0++fil lo hi ((l.take (i+j)).flatMap (keysR d))).length/\wr.ownsRow B 9 1 (.slice a m c) m (strL (L0++fil lo hi ((l.take (i+j)).flatMap (keysR d))))/\Below B W wr) (fun _ k _=>rl-(intOf k).toNat)
   case atStart=>exact ⟨0,n0,a0,c0,Nat.zero_le _,rfl,rfl,by rw [Nat.add_zero,HPre.out,List.append_nil];exact HO.out.2.1,by rw [Nat.add_zero,HPre.out,List.append_nil];exact HO.out.1,(Below.refl _ _).drew⟩
   case round=>
    obtain ⟨j,m,a,c,hj,rfl,rfl,hm,hown,hbel⟩:=hrel
    have HS:Hid (m=(L0++fil lo hi ((l.take (i+j)).flatMap (keysR d))).length/\wr.ownsRow B 9 1 (.slice a m c) m (strL (L0++fil lo hi ((l.take (i+j)).flatMap (keysR d))))/\Below B W wr):=⟨hm,hown,hbel⟩
    have hz:=hbel.size
    have hml:m<=n0+((l.take (i+j)).flatMap (keysR d)).length:=by
     rw [List.length_append] at hm
     have:=fil_le lo hi ((l.take (i+j)).flatMap (keysR d))
     have:=HO.out.2.1
     omega
    clear hm hown hbel
    by_cases hlt:j<rl
    ·have hkl:i+j<l.length:=by have:=HLn.out;have:=HRl.out;omega
     obtain ⟨u,hcu,hgc,hleast⟩:=HKid.out (i+j) hkl
     have cu:=hcu wr (HO.out.2.2.trans HS.out.2.2)
     have j0:(0:Int)<=(j:Int):=by omega
     have j1:(j:Int)<(rl:Int):=by omega
     have hft:=flat_len_take l (i+j) hkl
     have hfl:=flat_take_le (keysR d) l (i+j+1)
     have hgb2:m+(keysR d l[i+j]).length<=1073741824:=by have:=H2.out;omega
     have hgb1:m<=1073741824:=by omega
     have HNext:Hid (L0++fil lo hi ((l.take (i+j)).flatMap (keysR d))++fil lo hi (keysR d l[i+j])=L0++fil lo hi ((l.take (i+j+1)).flatMap (keysR d))):=by
      show L0++fil lo hi ((l.take (i+j)).flatMap (keysR d))++fil lo hi (keysR d l[i+j])=L0++fil lo hi ((l.take (i+j+1)).flatMap (keysR d))
      rw [flat_take (keysR d) l (i+j) hkl,fil_app,List.append_assoc]
     obtain ⟨least,hle⟩:∃least,gt (keysR d l[i+j]) 0=least:=⟨_,rfl⟩
     rw [hle] at hleast
     have HLst:Hid (gt (keysR d l[i+j]) 0=least):=hle
     have HBm:Hid (m+(keysR d l[i+j]).length<=1073741824):=hgb2
     clear hft hfl hle hcu hgb2
     rcases hleast with ⟨p,rfl,hls⟩|⟨p,rfl,hls⟩
     ·rcases hgc with ⟨p',e',hgq⟩|⟨p',e',hgq⟩
      ·injection e' with e1 e'
       injection e' with e'
       injection e' with e'
       clear e1
       subst e'
       have HG:Hid (∀(W:World) (a0:Option Addr) (n0 c0:Nat) (L0:List ByteArray),Below B w W->B<=W.heap.size->W.ownsRow B 9 1 (.slice a0 n0 c0) n0 (strL L0)->n0=L0.length->n0<=1073741824->Calls Tryz.prog 170 #[.pointer (some p),.slice a0 n0 c0,.string lo,.string hi] W (RetGa B W (L0++fil lo hi (keysR d l[i+j])))):=hgq
       have hgb:=hgb1
       clear hgq
       have HLs:Hid (∀W',Below B w W'->Calls Tryz.prog 172 #[.pointer (some p)] W' fun e w'=>e=.returned (.string least)/\w'=W'):=hls
       clear hls
       by_cases hem:hi.toList=[]
       ·have hem2:hi.toList.isEmpty=true:=by simpa using hem
        go_wp2_with fail
        refine (HG.out wr a m c (L0++fil lo hi ((l.take (i+j)).flatMap (keysR d))) (HO.out.2.2.trans HS.out.2.2) (by omega) HS.out.2.1 HS.out.1 hgb).mono ?_
        rintro e w5 ⟨a5,c5,he,ho5,hb5⟩
        rw [HNext.out] at he ho5
        obtain ⟨m5,hm5⟩:∃m5,m5=(L0++fil lo hi ((l.take (i+j+1)).flatMap (keysR d))).length:=⟨_,rfl⟩
        rw [<- hm5] at he ho5
        subst he
        have HX:Hid (m5=(L0++fil lo hi ((l.take (i+(j+1))).flatMap (keysR d))).length/\w5.ownsRow B 9 1 (.slice a5 m5 c5) m5 (strL (L0++fil lo hi ((l.take (i+(j+1))).flatMap (keysR d))))/\Below B W wr->Below B W w5):=fun h=>h.2.2.trans hb5
        have HX2:Hid (m5=(L0++fil lo hi ((l.take (i+(j+1))).flatMap (keysR d))).length/\w5.ownsRow B 9 1 (.slice a5 m5 c5) m5 (strL (L0++fil lo hi ((l.take (i+(j+1))).flatMap (keysR d))))/\Below B W w5):=⟨hm5,ho5,HS.out.2.2.trans hb5⟩
        clear hm5 ho5 hb5 HX
        go_wp2
        go_roundw
        case rel=>exact ⟨j+1,m5,a5,c5,by omega,by go_num,rfl,HX2.out⟩
        case measure=>simp [intOf];omega
       ·have hem2:hi.toList.isEmpty=false:=by simpa using hem
        cases hlh:Op.bytesLess least.toList hi.toList with
        | true=>
         go_wp2_with fail
         refine (HLs.out wr (HO.out.2.2.trans HS.out.2.2)).mono ?_
         rintro e w4 ⟨rfl,rfl⟩
         go_wp2_with fail
         refine (HG.out w4 a m c (L0++fil lo hi ((l.take (i+j)).flatMap (keysR d))) (HO.out.2.2.trans HS.out.2.2) (by omega) HS.out.2.1 HS.out.1 hgb).mono ?_
         rintro e w5 ⟨a5,c5,he,ho5,hb5⟩
         rw [HNext.out] at he ho5
         obtain ⟨m5,hm5⟩:∃m5,m5=(L0++fil lo hi ((l.take (i+j+1)).flatMap (keysR d))).length:=⟨_,rfl⟩
         rw [<- hm5] at he ho5
         subst he
         have HX:Hid (m5=(L0++fil lo hi ((l.take (i+(j+1))).flatMap (keysR d))).length/\w5.ownsRow B 9 1 (.slice a5 m5 c5) m5 (strL (L0++fil lo hi ((l.take (i+(j+1))).flatMap (keysR d))))/\Below B W w4->Below B W w5):=fun h=>h.2.2.trans hb5
         have HX2:Hid (m5=(L0++fil lo hi ((l.take (i+(j+1))).flatMap (keysR d))).length/\w5.ownsRow B 9 1 (.slice a5 m5 c5) m5 (strL (L0++fil lo hi ((l.take (i+(j+1))).flatMap (keysR d))))/\Below B W w5):=⟨hm5,ho5,HS.out.2.2.trans hb5⟩
         clear hm5 ho5 hb5 HX
         go_wp2
         go_roundw
         case rel=>exact ⟨j+1,m5,a5,c5,by omega,by go_num,rfl,HX2.out⟩
         case measure=>simp [intOf];omega
        | false=>
         have HEnd:Hid (fil lo hi (l.flatMap (keysR d))=fil lo hi ((l.take (i+j)).flatMap (keysR d))):=HAft.out (i+j) hkl hem (by rw [HLst.out];exact hlh)
         go_wp2_with fail
         refine (HLs.out wr (HO.out.2.2.trans HS.out.2.2)).mono ?_
         rintro e w4 ⟨rfl,rfl⟩
         go_wp2
         go_ret
         have q:=HS.out
         rw [<- HEnd.out] at q
         exact ⟨a,c,by rw [show (L0++fil lo hi (keysR (d+1) (.inr l))).length=m from q.1.symm];rfl,by rw [show (L0++fil lo hi (keysR (d+1) (.inr l))).length=m from q.1.symm];exact q.2.1,q.2.2⟩
      ·injection e' with e' _
       exact absurd e' (by decide)
     ·rcases hgc with ⟨p',e',hgq⟩|⟨p',e',hgq⟩
      ·injection e' with e' _
       exact absurd e' (by decide)
      ·injection e' with e1 e'
       injection e' with e'
       injection e' with e'
       clear e1
       subst e'
       have HG:Hid (∀(W:World) (a0:Option Addr) (n0 c0:Nat) (L0:List ByteArray),Below B w W->B<=W.heap.size->W.ownsRow B 9 1 (.slice a0 n0 c0) n0 (strL L0)->n0=L0.length->n0+(keysR d l[i+j]).length<=1073741824->Calls Tryz.prog 182 #[.pointer (some p),.slice a0 n0 c0,.string lo,.string hi] W (RetGa B W (L0++fil lo hi (keysR d l[i+j])))):=hgq
       clear hgq
       have HLs:Hid (∀W',Below B w W'->Calls Tryz.prog 184 #[.pointer (some p)] W' fun e w'=>e=.returned (.string least)/\w'=W'):=hls
       clear hls
       by_cases hem:hi.toList=[]
       ·have hem2:hi.toList.isEmpty=true:=by simpa using hem
        go_wp2_with fail
        refine (HG.out wr a m c (L0++fil lo hi ((l.take (i+j)).flatMap (keysR d))) (HO.out.2.2.trans HS.out.2.2) (by omega) HS.out.2.1 HS.out.1 HBm.out).mono ?_
        rintro e w5 ⟨a5,c5,he,ho5,hb5⟩
        rw [HNext.out] at he ho5
        obtain ⟨m5,hm5⟩:∃m5,m5=(L0++fil lo hi ((l.take (i+j+1)).flatMap (keysR d))).length:=⟨_,rfl⟩
        rw [<- hm5] at he ho5
        subst he
        have HX:Hid (m5=(L0++fil lo hi ((l.take (i+(j+1))).flatMap (keysR d))).length/\w5.ownsRow B 9 1 (.slice a5 m5 c5) m5 (strL (L0++fil lo hi ((l.take (i+(j+1))).flatMap (keysR d))))/\Below B W wr->Below B W w5):=fun h=>h.2.2.trans hb5
        have HX2:Hid (m5=(L0++fil lo hi ((l.take (i+(j+1))).flatMap (keysR d))).length/\w5.ownsRow B 9 1 (.slice a5 m5 c5) m5 (strL (L0++fil lo hi ((l.take (i+(j+1))).flatMap (keysR d))))/\Below B W w5):=⟨hm5,ho5,HS.out.2.2.trans hb5⟩
        clear hm5 ho5 hb5 HX
        go_wp2
        go_roundw
        case rel=>exact ⟨j+1,m5,a5,c5,by omega,by go_num,rfl,HX2.out⟩
        case measure=>simp [intOf];omega
       ·have hem2:hi.toList.isEmpty=false:=by simpa using hem
        cases hlh:Op.bytesLess least.toList hi.toList with
        | true=>
         go_wp2_with fail
         refine (HLs.out wr (HO.out.2.2.trans HS.out.2.2)).mono ?_
         rintro e w4 ⟨rfl,rfl⟩
         go_wp2_with fail
         refine (HG.out w4 a m c (L0++fil lo hi ((l.take (i+j)).flatMap (keysR d))) (HO.out.2.2.trans HS.out.2.2) (by omega) HS.out.2.1 HS.out.1 HBm.out).mono ?_
         rintro e w5 ⟨a5,c5,he,ho5,hb5⟩
         rw [HNext.out] at he ho5
         obtain ⟨m5,hm5⟩:∃m5,m5=(L0++fil lo hi ((l.take (i+j+1)).flatMap (keysR d))).length:=⟨_,rfl⟩
         rw [<- hm5] at he ho5
         subst he
         have HX:Hid (m5=(L0++fil lo hi ((l.take (i+(j+1))).flatMap (keysR d))).length/\w5.ownsRow B 9 1 (.slice a5 m5 c5) m5 (strL (L0++fil lo hi ((l.take (i+(j+1))).flatMap (keysR d))))/\Below B W w4->Below B W w5):=fun h=>h.2.2.trans hb5
         have HX2:Hid (m5=(L0++fil lo hi ((l.take (i+(j+1))).flatMap (keysR d))).length/\w5.ownsRow B 9 1 (.slice a5 m5 c5) m5 (strL (L0++fil lo hi ((l.take (i+(j+1))).flatMap (keysR d))))/\Below B W w5):=⟨hm5,ho5,HS.out.2.2.trans hb5⟩
         clear hm5 ho5 hb5 HX
         go_wp2
         go_roundw
         case rel=>exact ⟨j+1,m5,a5,c5,by omega,by go_num,rfl,HX2.out⟩
         case measure=>simp [intOf];omega
        | false=>
         have HEnd:Hid (fil lo hi (l.flatMap (keysR d))=fil lo hi ((l.take (i+j)).flatMap (keysR d))):=HAft.out (i+j) hkl hem (by rw [HLst.out];exact hlh)
         go_wp2_with fail
         refine (HLs.out wr (HO.out.2.2.trans HS.out.2.2)).mono ?_
         rintro e w4 ⟨rfl,rfl⟩
         go_wp2
         go_ret
         have q:=HS.out
         rw [<- HEnd.out] at q
         exact ⟨a,c,by rw [show (L0++fil lo hi (keysR (d+1) (.inr l))).length=m from q.1.symm];rfl,by rw [show (L0++fil lo hi (keysR (d+1) (.inr l))).length=m from q.1.symm];exact q.2.1,q.2.2⟩
    ·have e:j=rl:=by omega
     subst e
     have HEnd:Hid ((l.take (i+j)).flatMap (keysR d)=l.flatMap (keysR d)):=by
      show (l.take (i+j)).flatMap (keysR d)=l.flatMap (keysR d)
      rw [HRl.out,HLn.out,List.take_length]
     go_wp2
     go_ret
     have q:=HS.out
     rw [HEnd.out] at q
     exact ⟨a,c,by rw [show (L0++fil lo hi (keysR (d+1) (.inr l))).length=m from q.1.symm];rfl,by rw [show (L0++fil lo hi (keysR (d+1) (.inr l))).length=m from q.1.symm];exact q.2.1,q.2.2⟩
end Go.Proofs.YtpaomghibppgkaaGreat
