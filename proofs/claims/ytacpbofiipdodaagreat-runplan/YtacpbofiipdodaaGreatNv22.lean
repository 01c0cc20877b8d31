import Derived.Test.YtacpbofiipdodaaGreatNv21
set_option linter.unusedVariables false
set_option linter.unusedSimpArgs false
set_option maxRecDepth 100000
set_option maxHeartbeats 90000000
namespace Go.Proofs.YtacpbofiipdodaaGreat
open Go Go.Deep Go.RowKit
variable {d:Nat}{hi lo:ByteArray}
theorem Nv {l:List (Ro d)} {i:Nat} (hi' : i<l.length) (ha:DE (l.flatMap (Ab d))) (hp:0<(Ab d l[i]).length) (h1:0<i->Op.bytesLess lo.toList (gt (Ab d l[i]) 0).toList=false):Bp lo hi ((l.take i).flatMap (Ab d))=[]:=by
 refine Mx (λk hk=>?_);have e:l=l.take i++(l[i]::l.drop (i+1)):=by
  conv=>lhs;rw[<- List.take_append_drop (i+1) l,<- List.take_append_getElem hi']
  simp
 rw[e,List.flatMap_append,List.flatMap_cons] at ha;unfold DE at ha;rw[List.pairwise_append] at ha;by_cases h0:0<i;.have q:=ha.2.2 k hk (gt (Ab d l[i]) 0) (List.mem_append_left _ (Fs hp));have:=DH q (h1 h0);unfold O9;rw[this];rfl
 .have:i=0:=by omega
  subst this;simp at hk
theorem OI {l:List (Ro d)} {k:Nat} (hk:k<l.length) (ha:DE (l.flatMap (Ab d))) (hp:0<(Ab d l[k]).length) (h1:¬ hi.toList=[]) (h2:Op.bytesLess (gt (Ab d l[k]) 0).toList hi.toList=false):Bp lo hi (l.flatMap (Ab d))=Bp lo hi ((l.take k).flatMap (Ab d)):=by
 have e:l=l.take k++(l[k]::l.drop (k+1)):=by
  conv=>lhs;rw[<- List.take_append_drop (k+1) l,<- List.take_append_getElem hk]
  simp
 have ef:l.flatMap (Ab d)=(l.take k).flatMap (Ab d)++(Ab d l[k]++(l.drop (k+1)).flatMap (Ab d)):=by
  conv=>lhs;rw[e]
  rw[List.flatMap_append,List.flatMap_cons]
 rw[ef] at ha ⊢;unfold DE at ha;rw[List.pairwise_append] at ha;obtain⟨_,ha2,_⟩:=ha;rw[KE,Mx (L:=Ab d l[k]++_),List.append_nil];intro x hx;rw[List.pairwise_append] at ha2;obtain⟨q1,_,q3⟩:=ha2;have hle:Op.bytesLess x.toList hi.toList=false:=by
  have hcase:x=gt (Ab d l[k]) 0\/Op.bytesLess (gt (Ab d l[k]) 0).toList x.toList=true:=by
   rcases List.mem_append.1 hx with hx|hx
   .obtain⟨j,hj,rfl⟩:=List.getElem_of_mem hx;have e1:(Ab d l[k])[j]=gt (Ab d l[k]) j:=by unfold gt;rw[WA,Wx hj];rfl
    rw[e1];by_cases e0:j=0;.subst e0;exact Or.inl rfl
    .exact Or.inr (Li q1 (show 0<j by omega) hj)
   .exact Or.inr (q3 _ (Fs hp) _ hx)
  rcases hcase with rfl|h3;.exact h2
  .cases e:Op.bytesLess x.toList hi.toList with
   | false=>rfl
   | true=>have:=AZ _ _ _ h3 e;rw[h2] at this;cases this
 unfold O9;rw[hle];have:hi.toList.isEmpty=false:=by simpa using h1
 rw[this];simp
def Wi (B:Nat) (w:World) (v:Value) (lo hi:ByteArray) (K:List ByteArray):Prop:=
 (∃p,v=.iface 306 (.pointer (some p))/\∀(W:World) (a0:Option Addr) (n0 c0:Nat) (L0:List ByteArray),Below B w W->B<=W.heap.size->W.ownsRow B 9 1 (.slice a0 n0 c0) n0 (AC L0)->n0=L0.length->n0<=1073741824->WS 227 #[.pointer (some p),.slice a0 n0 c0,.string lo,.string hi] W (Iw B W (L0++Bp lo hi K)))\/
 (∃p,v=.iface 311 (.pointer (some p))/\∀(W:World) (a0:Option Addr) (n0 c0:Nat) (L0:List ByteArray),Below B w W->B<=W.heap.size->W.ownsRow B 9 1 (.slice a0 n0 c0) n0 (AC L0)->n0=L0.length->n0+K.length<=1073741824->WS 237 #[.pointer (some p),.slice a0 n0 c0,.string lo,.string hi] W (Iw B W (L0++Bp lo hi K)))
theorem Jl (lo hi:ByteArray) (B:Nat) (w:World):∀(d:Nat) (t:Ro d) (v:Value) (root:Bool) (h:Nat),Ei (λbb=>bb<B) w d t v->Br d root t h->DE (Ab d t)->(Ab d t).length<=1048576->Wi B w v lo hi (Ab d t):=by
 intro d;induction d with
 | zero=>intro t;exact t.elim
 | succ d ih=>
  intro t v root h ht hb ha hlen;rcases t with t|l;.obtain⟨b,ka,kc,rfl,hbB,hx,hr⟩:=ht;refine Or.inl ⟨_,rfl,λW a0 n0 c0 L0 hW hBW ho h1 h2=>?_⟩;refine MU B b t.length kc ka _ t L0 lo hi a0 n0 c0 W (hx.below' hW hbB) hbB (λW' hW'=>?_) rfl hlen ho h1 h2 hBW;exact (hr.mono (w':=W') (S':=λ_=>True) (by have:=hW.size;have:=hW'.size;omega) (λbb hs _=>⟨trivial,((hW.trans hW').block bb hs)⟩)).rdS
  .have ht2:=ht;obtain⟨b,g,kc,xs,rfl,hbB,hx,hgB,⟨_,hcap,hcapm⟩,hl,hc,hk⟩:=ht2;obtain⟨hb1,hb2,h',_,hall⟩:=hb;refine Or.inr ⟨_,rfl,λW a0 n0 c0 L0 hW hBW ho h1 h2=>?_⟩;have htW:Ei (λbb=>bb<B) W (d+1) (.inr l) (.iface 311 (pt b)):=ht.mono hW.size (λbb hs _=>⟨hs,hW.block bb hs⟩);have ha' : DE (l.flatMap (Ab d)):=ha;have hlen' : (l.flatMap (Ab d)).length<=1048576:=hlen;have HKf:U (WS 245 #[pt b,.string lo] W.drew (TD l lo W.drew)):=Je d b l _ h' lo W.drew (htW.below (Wt _ _).drew) hall hb2;have HKid:U (∀k (hk:k<l.length),∃u,(∀W',Below B w W'->W'.cell? (ad g k)=some u)/\Wi B w u lo hi (Ab d l[k])/\((∃p,u=.iface 306 (.pointer (some p))/\∀W',Below B w W'->WS 229 #[.pointer (some p)] W' λe w'=>e=.returned (.string (gt (Ab d l[k]) 0))/\w'=W')\/(∃p,u=.iface 311 (.pointer (some p))/\∀W',Below B w W'->WS 239 #[.pointer (some p)] W' λe w'=>e=.returned (.string (gt (Ab d l[k]) 0))/\w'=W'))):=by
    intro k hkl;obtain⟨u,hu,hut⟩:=hk k hkl;refine⟨u,λW' hW'=>by rw[hW'.cell (p:=(ad g k)) hgB];exact hc k u hu,ih l[k] u false h' hut (hall _ (WE hkl)) (Oh ha' k hkl) (by have:=Bo d l k hkl;omega),?_⟩;have hW2:∀W',Below B w W'->Ei (λbb=>bb<B) W' d l[k] u:=λW' hW'=>hut.mono hW'.size (λbb hs _=>⟨hs,hW'.block bb hs⟩);rcases Cv hut (hall _ (WE hkl)) with ⟨p,rfl,_⟩|⟨p,rfl,_⟩
    .refine Or.inl ⟨p,rfl,λW' hW'=>?_⟩;rcases Cv (hW2 W' hW') (hall _ (WE hkl)) with ⟨p',e',q⟩|⟨p',e',q⟩;.injection e' with _ e';injection e' with e';injection e' with e';subst e';exact q W' (Wt _ _)
     .injection e' with e' _;exact absurd e' (by decide)
    .refine Or.inr ⟨p,rfl,λW' hW'=>?_⟩;rcases Cv (hW2 W' hW') (hall _ (WE hkl)) with ⟨p',e',q⟩|⟨p',e',q⟩;.injection e' with e' _;exact absurd e' (by decide)
     .injection e' with _ e';injection e' with e';injection e' with e';subst e';exact q W' (Wt _ _)
   have HMath:U (∀i (hi' : i<l.length),(∀h:i<l.length,0<i->Op.bytesLess lo.toList (gt (Ab d l[i]) 0).toList=false)->Bp lo hi ((l.take i).flatMap (Ab d))=[]):=λi hi' q=>Nv hi' ha' (Ee (hall _ (WE hi'))) (q hi');have HAft:U (∀k (hk:k<l.length),¬ hi.toList=[]->Op.bytesLess (gt (Ab d l[k]) 0).toList hi.toList=false->Bp lo hi (l.flatMap (Ab d))=Bp lo hi ((l.take k).flatMap (Ab d))):=λk hk q1 q2=>OI hk ha' (Ee (hall _ (WE hk))) q1 q2;have HLe:=hid hlen';have HO:=hid (ai ho (ai h1 hW));have h2' : n0+(l.flatMap (Ab d)).length<=1073741824:=h2;have H2:=hid h2';have hxW:=hx.below' hW hbB;have c1:=hxW.cell 1;simp at c1;obtain⟨ln,hln⟩:∃ln,ln=l.length:=⟨_,rfl⟩;rw[<- hln] at c1 hl hb2 hcap;have HLn:U (ln=l.length):=hln;clear hx hxW hc hk hall ih ht htW ha hlen ha' hlen' hln hb1 ho h1 h2 h2';go_enter Tryz.func237,Tryz.ntmps237;go_wp2;go_region_held3 (λw'=>w'.cell? (ad b 1)=some (.slice (some (ad g 0)) ln kc)) (go_keep) (first|(go_at_call 245;refine HKf.o.mono ?_;rintro e w1 ⟨i,rfl,rfl,hi1,q1,q2⟩;have i0:(0:Int)<=(i:Int):=(by omega);have i1:(i:Int)<=(ln:Int):=(by rw[HLn.o];omega);have hkci:¬ kc=i:=(by have:=HLn.o;omega))|fail)
   have HPre:U (Bp lo hi ((l.take i).flatMap (Ab d))=[]):=HMath.o i hi1 q1;obtain⟨rl,hrl⟩:∃rl,rl=ln-i:=⟨_,rfl⟩;have hrl2:i+rl=ln:=by have:=HLn.o;omega
   go_wp2;rw[<- hrl];have HRl:U (i+rl=ln):=hrl2;have hrlb:rl<=4:=by omega
   clear hrl hrl2 q1 q2 HKf;go_loopw [1,20] (λq k wr=>∃(j m:Nat) (a:Option Addr) (c:Nat),j<=rl/\k=iv j/\q=.slice a m c/\m=(L0++Bp lo hi ((l.take (i+j)).flatMap (Ab d))).length/\wr.ownsRow B 9 1 (.slice a m c) m (AC (L0++Bp lo hi ((l.take (i+j)).flatMap (Ab d))))/\Below B W wr) (λ_ k _=>rl-(intOf k).toNat)
   case atStart=>exact⟨0,n0,a0,c0,Ww _,rfl,rfl,by rw[Nat.add_zero,HPre.o,List.append_nil];exact HO.o.2.1,by rw[Nat.add_zero,HPre.o,List.append_nil];exact HO.o.1,(Wt _ _).drew⟩
   case round=>
    obtain⟨j,m,a,c,hj,rfl,rfl,hm,hown,hbel⟩:=hrel;have HS:U (m=(L0++Bp lo hi ((l.take (i+j)).flatMap (Ab d))).length/\wr.ownsRow B 9 1 (.slice a m c) m (AC (L0++Bp lo hi ((l.take (i+j)).flatMap (Ab d))))/\Below B W wr):=⟨hm,hown,hbel⟩;have hz:=hbel.size;have hml:m<=n0+((l.take (i+j)).flatMap (Ab d)).length:=by rw[WD] at hm;have:=Ry lo hi ((l.take (i+j)).flatMap (Ab d));have:=HO.o.2.1;omega
    clear hm hown hbel;by_cases hlt:j<rl
    .have hkl:i+j<l.length:=by have:=HLn.o;have:=HRl.o;omega
     obtain⟨u,hcu,hgc,hleast⟩:=HKid.o (i+j) hkl;have cu:=hcu wr (HO.o.2.2.trans HS.o.2.2);have j0:(0:Int)<=(j:Int):=by omega
     have j1:(j:Int)<(rl:Int):=by omega
     have hft:=CE l (i+j) hkl;have hfl:=By (Ab d) l (i+j+1);have hgb2:m+(Ab d l[i+j]).length<=1073741824:=by have:=H2.o;omega
     have hgb1:m<=1073741824:=by omega
     have HNext:U (L0++Bp lo hi ((l.take (i+j)).flatMap (Ab d))++Bp lo hi (Ab d l[i+j])=L0++Bp lo hi ((l.take (i+j+1)).flatMap (Ab d))):=by show L0++Bp lo hi ((l.take (i+j)).flatMap (Ab d))++Bp lo hi (Ab d l[i+j])=L0++Bp lo hi ((l.take (i+j+1)).flatMap (Ab d));rw[ES (Ab d) l (i+j) hkl,KE,List.append_assoc]
     obtain⟨least,hle⟩:∃least,gt (Ab d l[i+j]) 0=least:=⟨_,rfl⟩;rw[hle] at hleast;have HLst:U (gt (Ab d l[i+j]) 0=least):=hle;have HBm:U (m+(Ab d l[i+j]).length<=1073741824):=hgb2;clear hft hfl hle hcu hgb2;rcases hleast with ⟨p,rfl,hls⟩|⟨p,rfl,hls⟩
     .rcases hgc with ⟨p',e',hgq⟩|⟨p',e',hgq⟩
      .injection e' with e1 e';injection e' with e';injection e' with e';clear e1;subst e';have HG:U (∀(W:World) (a0:Option Addr) (n0 c0:Nat) (L0:List ByteArray),Below B w W->B<=W.heap.size->W.ownsRow B 9 1 (.slice a0 n0 c0) n0 (AC L0)->n0=L0.length->n0<=1073741824->WS 227 #[.pointer (some p),.slice a0 n0 c0,.string lo,.string hi] W (Iw B W (L0++Bp lo hi (Ab d l[i+j])))):=hgq;have hgb:=hgb1;clear hgq;have HLs:U (∀W',Below B w W'->WS 229 #[.pointer (some p)] W' λe w'=>e=.returned (.string least)/\w'=W'):=hls;clear hls;by_cases hem:hi.toList=[]
       .have hem2:hi.toList.isEmpty=true:=by simpa using hem
        go_wp2_with fail
        refine (HG.o wr a m c (L0++Bp lo hi ((l.take (i+j)).flatMap (Ab d))) (HO.o.2.2.trans HS.o.2.2) (by omega) HS.o.2.1 HS.o.1 hgb).mono ?_;rintro e w5 ⟨a5,c5,he,ho5,hb5⟩;rw[HNext.o] at he ho5;obtain⟨m5,hm5⟩:∃m5,m5=(L0++Bp lo hi ((l.take (i+j+1)).flatMap (Ab d))).length:=⟨_,rfl⟩;rw[<- hm5] at he ho5;subst he;have HX:U (m5=(L0++Bp lo hi ((l.take (i+(j+1))).flatMap (Ab d))).length/\w5.ownsRow B 9 1 (.slice a5 m5 c5) m5 (AC (L0++Bp lo hi ((l.take (i+(j+1))).flatMap (Ab d))))/\Below B W wr->Below B W w5):=λh=>h.2.2.trans hb5;have HX2:U (m5=(L0++Bp lo hi ((l.take (i+(j+1))).flatMap (Ab d))).length/\w5.ownsRow B 9 1 (.slice a5 m5 c5) m5 (AC (L0++Bp lo hi ((l.take (i+(j+1))).flatMap (Ab d))))/\Below B W w5):=⟨hm5,ho5,HS.o.2.2.trans hb5⟩;clear hm5 ho5 hb5 HX;go_wp2;go_roundw;case rel=>exact⟨j+1,m5,a5,c5,by omega,by go_num,rfl,HX2.o⟩
        case measure=>simp[intOf];omega
       .have hem2:hi.toList.isEmpty=false:=by simpa using hem
        cases hlh:Op.bytesLess least.toList hi.toList with
        | true=>
         go_wp2_with fail
         refine (HLs.o wr (HO.o.2.2.trans HS.o.2.2)).mono ?_;rintro e w4 ⟨rfl,rfl⟩;go_wp2_with fail
         refine (HG.o w4 a m c (L0++Bp lo hi ((l.take (i+j)).flatMap (Ab d))) (HO.o.2.2.trans HS.o.2.2) (by omega) HS.o.2.1 HS.o.1 hgb).mono ?_;rintro e w5 ⟨a5,c5,he,ho5,hb5⟩;rw[HNext.o] at he ho5;obtain⟨m5,hm5⟩:∃m5,m5=(L0++Bp lo hi ((l.take (i+j+1)).flatMap (Ab d))).length:=⟨_,rfl⟩;rw[<- hm5] at he ho5;subst he;have HX:U (m5=(L0++Bp lo hi ((l.take (i+(j+1))).flatMap (Ab d))).length/\w5.ownsRow B 9 1 (.slice a5 m5 c5) m5 (AC (L0++Bp lo hi ((l.take (i+(j+1))).flatMap (Ab d))))/\Below B W w4->Below B W w5):=λh=>h.2.2.trans hb5;have HX2:U (m5=(L0++Bp lo hi ((l.take (i+(j+1))).flatMap (Ab d))).length/\w5.ownsRow B 9 1 (.slice a5 m5 c5) m5 (AC (L0++Bp lo hi ((l.take (i+(j+1))).flatMap (Ab d))))/\Below B W w5):=⟨hm5,ho5,HS.o.2.2.trans hb5⟩;clear hm5 ho5 hb5 HX;go_wp2;go_roundw;case rel=>exact⟨j+1,m5,a5,c5,by omega,by go_num,rfl,HX2.o⟩
         case measure=>simp[intOf];omega
        | false=>
         have HEnd:U (Bp lo hi (l.flatMap (Ab d))=Bp lo hi ((l.take (i+j)).flatMap (Ab d))):=HAft.o (i+j) hkl hem (by rw[HLst.o];exact hlh);go_wp2_with fail
         refine (HLs.o wr (HO.o.2.2.trans HS.o.2.2)).mono ?_;rintro e w4 ⟨rfl,rfl⟩;go_wp2;go_ret;have q:=HS.o;rw[<- HEnd.o] at q;exact⟨a,c,by rw[show (L0++Bp lo hi (Ab (d+1) (.inr l))).length=m from q.1.symm];rfl,by rw[show (L0++Bp lo hi (Ab (d+1) (.inr l))).length=m from q.1.symm];exact q.2.1,q.2.2⟩
      .injection e' with e' _;exact absurd e' (by decide)
     .rcases hgc with ⟨p',e',hgq⟩|⟨p',e',hgq⟩;.injection e' with e' _;exact absurd e' (by decide)
      .injection e' with e1 e';injection e' with e';injection e' with e';clear e1;subst e';have HG:U (∀(W:World) (a0:Option Addr) (n0 c0:Nat) (L0:List ByteArray),Below B w W->B<=W.heap.size->W.ownsRow B 9 1 (.slice a0 n0 c0) n0 (AC L0)->n0=L0.length->n0+(Ab d l[i+j]).length<=1073741824->WS 237 #[.pointer (some p),.slice a0 n0 c0,.string lo,.string hi] W (Iw B W (L0++Bp lo hi (Ab d l[i+j])))):=hgq;clear hgq;have HLs:U (∀W',Below B w W'->WS 239 #[.pointer (some p)] W' λe w'=>e=.returned (.string least)/\w'=W'):=hls;clear hls;by_cases hem:hi.toList=[]
       .have hem2:hi.toList.isEmpty=true:=by simpa using hem
        go_wp2_with fail
        refine (HG.o wr a m c (L0++Bp lo hi ((l.take (i+j)).flatMap (Ab d))) (HO.o.2.2.trans HS.o.2.2) (by omega) HS.o.2.1 HS.o.1 HBm.o).mono ?_;rintro e w5 ⟨a5,c5,he,ho5,hb5⟩;rw[HNext.o] at he ho5;obtain⟨m5,hm5⟩:∃m5,m5=(L0++Bp lo hi ((l.take (i+j+1)).flatMap (Ab d))).length:=⟨_,rfl⟩;rw[<- hm5] at he ho5;subst he;have HX:U (m5=(L0++Bp lo hi ((l.take (i+(j+1))).flatMap (Ab d))).length/\w5.ownsRow B 9 1 (.slice a5 m5 c5) m5 (AC (L0++Bp lo hi ((l.take (i+(j+1))).flatMap (Ab d))))/\Below B W wr->Below B W w5):=λh=>h.2.2.trans hb5;have HX2:U (m5=(L0++Bp lo hi ((l.take (i+(j+1))).flatMap (Ab d))).length/\w5.ownsRow B 9 1 (.slice a5 m5 c5) m5 (AC (L0++Bp lo hi ((l.take (i+(j+1))).flatMap (Ab d))))/\Below B W w5):=⟨hm5,ho5,HS.o.2.2.trans hb5⟩;clear hm5 ho5 hb5 HX;go_wp2;go_roundw;case rel=>exact⟨j+1,m5,a5,c5,by omega,by go_num,rfl,HX2.o⟩
        case measure=>simp[intOf];omega
       .have hem2:hi.toList.isEmpty=false:=by simpa using hem
        cases hlh:Op.bytesLess least.toList hi.toList with
        | true=>
         go_wp2_with fail
         refine (HLs.o wr (HO.o.2.2.trans HS.o.2.2)).mono ?_;rintro e w4 ⟨rfl,rfl⟩;go_wp2_with fail
         refine (HG.o w4 a m c (L0++Bp lo hi ((l.take (i+j)).flatMap (Ab d))) (HO.o.2.2.trans HS.o.2.2) (by omega) HS.o.2.1 HS.o.1 HBm.o).mono ?_;rintro e w5 ⟨a5,c5,he,ho5,hb5⟩;rw[HNext.o] at he ho5;obtain⟨m5,hm5⟩:∃m5,m5=(L0++Bp lo hi ((l.take (i+j+1)).flatMap (Ab d))).length:=⟨_,rfl⟩;rw[<- hm5] at he ho5;subst he;have HX:U (m5=(L0++Bp lo hi ((l.take (i+(j+1))).flatMap (Ab d))).length/\w5.ownsRow B 9 1 (.slice a5 m5 c5) m5 (AC (L0++Bp lo hi ((l.take (i+(j+1))).flatMap (Ab d))))/\Below B W w4->Below B W w5):=λh=>h.2.2.trans hb5;have HX2:=hid (ai hm5 (ai ho5 (HS.o.2.2.trans hb5)));clear hm5 ho5 hb5 HX;go_wp2;go_roundw;case rel=>exact⟨j+1,m5,a5,c5,by omega,by go_num,rfl,HX2.o⟩
         case measure=>simp[intOf];omega
        | false=>
         have HEnd:=hid (HAft.o (i+j) hkl hem (by rw[HLst.o];exact hlh));go_wp2_with fail
         refine (HLs.o wr (HO.o.2.2.trans HS.o.2.2)).mono ?_;rintro e w4 ⟨rfl,rfl⟩;go_wp2;go_ret;have q:=HS.o;rw[<- HEnd.o] at q;exact⟨a,c,by rw[show (L0++Bp lo hi (Ab (d+1) (.inr l))).length=m from q.1.symm];rfl,by rw[show (L0++Bp lo hi (Ab (d+1) (.inr l))).length=m from q.1.symm];exact q.2.1,q.2.2⟩
    .have e:j=rl:=by omega
     subst e;have HEnd:U ((l.take (i+j)).flatMap (Ab d)=l.flatMap (Ab d)):=by show (l.take (i+j)).flatMap (Ab d)=l.flatMap (Ab d);rw[HRl.o,HLn.o,WG]
     go_wp2;go_ret;have q:=HS.o;rw[HEnd.o] at q;exact⟨a,c,by rw[show (L0++Bp lo hi (Ab (d+1) (.inr l))).length=m from q.1.symm];rfl,by rw[show (L0++Bp lo hi (Ab (d+1) (.inr l))).length=m from q.1.symm];exact q.2.1,q.2.2⟩
def Wf (w:World) (n:Nat) (N:Nat->Tn) (lo hi:ByteArray) (e:Ending) (w' : World):Prop:=
 ∃(L:List ByteArray) (a:Option Addr) (c:Nat),e=.returned (.slice a L.length c)/\Cj w' w.heap.size a L.length (gt L)/\Bl w w'/\L.length<=1048576/\((∃t,Dv n N t/\L=Bp lo hi (Ab 21 t))\/(¬ VT n N/\L=[]))
end Go.Proofs.YtacpbofiipdodaaGreat
