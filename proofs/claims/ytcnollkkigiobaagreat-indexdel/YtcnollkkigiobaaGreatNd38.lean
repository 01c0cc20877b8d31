import Derived.Test.YtcnollkkigiobaaGreatNd31
import Derived.Test.YtcnollkkigiobaaGreatNd35
import Derived.Test.YtcnollkkigiobaaGreatNd27
set_option linter.unusedVariables false
set_option maxRecDepth 100000
namespace Go.Proofs.YtcnollkkigiobaaGreat
open Go.RowKit Go.Deep

theorem sizeD_any {S:Nat->Prop} {w0:World} {d:Nat} {t:Ro d} {v:Value} (hv:NG S w0 d t v) (W:World):Calls Tryz.prog 122 #[v] W fun e w'=>e=.returned (.int .i64 (sizD t:Int))/\Below W.heap.size W w':=by
 match d,t,hv with
 | 0,t,_=>exact t.elim
 | d+1,t,hv=>
  obtain ⟨lf,ka,kn,kc,ca,cn,cc,rfl⟩:=NestAt.form hv
  have hsz:=hv.size
  exact (size_any lf ka ca kn kc cn cc W).mono (fun e w' h=>⟨by
   rw [h.1,show sizD (d:=d+1) t=sizR t from rfl,<- hsz]
   cases lf <;> rfl,h.2⟩)
theorem partD_any {S:Nat->Prop} {w:World} {d:Nat} {t:Ro d} {v:Value} (hv:NG S w d t v) (lo hi:Nat) (h0:lo<hi) (h1:hi<=sizD t) (hL:sizD t<=1000):Calls Tryz.prog 124 #[v,.int .i64 (lo:Int),.int .i64 (hi:Int)] w (RetG3 S w d (cutD lo hi t)):=by
 match d,t,hv,h1,hL with
 | 0,t,_,_,_=>exact t.elim
 | d+1,t,hv,h1,hL=>exact part_any d t v lo hi S w hv h0 h1 hL
theorem joinD_any {S:Nat->Prop} {w:World} {d h:Nat} {t u:Ro d} {v x:Value} (hv:NG S w d t v) (hx:NG S w d u x) (ht:BalU d t h) (hu:BalU d u h):Calls Tryz.prog 123 #[v,x] w (RetG3 S w d (joinD t u)):=by
 match d,t,u,hv,hx,ht,hu with
 | 0,t,_,_,_,_,_=>exact t.elim
 | d+1,.inl L,.inl M,hv,hx,ht,hu=>exact join_leaf d L M v x S w hv hx (by have:=ht.2;omega) (by have:=hu.2;omega)
 | d+1,.inr l,.inr m,hv,hx,ht,hu=>exact join_inner d l m v x S w hv hx (by have:=ht.2.1;omega) (by have:=hu.2.1;omega)
 | d+1,.inl L,.inr m,hv,hx,ht,hu=>exact absurd hu.2.2 (by rintro ⟨q,e,_⟩;have:=ht.1;omega)
 | d+1,.inr l,.inl M,hv,hx,ht,hu=>exact absurd ht.2.2 (by rintro ⟨q,e,_⟩;have:=hu.1;omega)

structure DS (S:Nat->Prop) (w W:World) (B d g n c:Nat) (l:List (Ro d)):Prop where
 kw:KW (fun b=>(S b/\b<w.heap.size)\/w.heap.size+2<=b) W B d g n c l
 bel:Below w.heap.size w W
 box:Bx W (w.heap.size+1) 91 #[.bool false,.slice none 0 0,.slice none 0 0]
 sz:w.heap.size+2<=B
theorem DS.below {S:Nat->Prop} {w W W' : World} {B d g n c:Nat} {l:List (Ro d)} (h:DS S w W B d g n c l) (hb:Below W.heap.size W W'):DS S w W' B d g n c l:=
 ⟨h.kw.below hb,h.bel.trans (hb.mono h.bel.size),h.box.below hb,h.sz⟩
theorem DS.put {S:Nat->Prop} {w W:World} {B d g n c:Nat} {l:List (Ro d)} (h:DS S w W B d g n c l) (i:Nat) (hi:i<l.length) {y:Ro d} {x0 x1 x2:Value} (hy:NG (fun b=>((S b/\b<w.heap.size)\/w.heap.size+2<=b)/\b≠g) W d y (.agg #[x0,x1,x2])) :
  DS S w (((W.setCell ⟨g,i*3,none⟩ x0).setCell ⟨g,i*3+1,none⟩ x1).setCell ⟨g,i*3+2,none⟩ x2) B d g n c (l.set i y):=by
 have hlt:=h.kw.lt
 have hs:=h.sz
 refine ⟨h.kw.put i hi hy,((h.bel.setCell (by show w.heap.size<=g;omega) _).setCell (by show w.heap.size<=g;omega) _).setCell (by show w.heap.size<=g;omega) _,?_,hs⟩
 refine h.box.of_block ?_
 rw [Below.heap_setCell _ _ _ _ (show w.heap.size+1≠g by omega),Below.heap_setCell _ _ _ _ (show w.heap.size+1≠g by omega),Below.heap_setCell _ _ _ _ (show w.heap.size+1≠g by omega)]
theorem DS.new {S:Nat->Prop} {w W W' : World} {B d g n c:Nat} {l:List (Ro d)} {e:Nat} {y:Ro e} {v:Value} (h:DS S w W B d g n c l) (hb:Below W.heap.size W W') (hy:NG (fun b=>(((S b/\b<w.heap.size)\/w.heap.size+2<=b)/\b≠g)\/W.heap.size<=b) W' e y v):NG (fun b=>((S b/\b<w.heap.size)\/w.heap.size+2<=b)/\b≠g) W' e y v:=by
 have hlt:=h.kw.lt
 have hz:=h.sz
 refine hy.wide (fun b hs _=>?_)
 rcases hs with hs|hs
 ·exact hs
 ·exact ⟨Or.inr (by omega),by omega⟩
theorem DS.ret {S:Nat->Prop} {w W:World} {B d g n c:Nat} {l:List (Ro d)} (h:DS S w W B d g n c l) (hn:0<n):RetG3 S w (d+1) (.inr l) (.returned (.agg #[.bool false,.slice none 0 0,.slice (some ⟨g,0,none⟩) n c])) (((W.setCell ⟨w.heap.size+1,0,none⟩ (.bool false)).setCell ⟨w.heap.size+1,1,none⟩ (.slice none 0 0)).setCell ⟨w.heap.size+1,2,none⟩ (.slice (some ⟨g,0,none⟩) n c)):=by
 have hlt:=h.kw.lt
 have hs:=h.sz
 refine ⟨set3_below h.bel _ (by omega) _ _ _,_,_,_,_,_,_,_,rfl,?_⟩
 refine h.kw.ng hn (by rw [set3_size];exact Nat.le_refl _) (fun b hb _=>⟨?_,set3_block _ _ _ _ _ _ (by rcases hb with hb|hb <;> omega)⟩) (Or.inr (by omega))
 rcases hb with hb|hb
 ·exact Or.inl hb.1
 ·exact Or.inr (by omega)

theorem step_tcc {ops:Array Oper} {o:Oper} {a:Act} {w:World} {K:Act->World->Prop} {Q:Exit->Act->World->Prop} {E:Prop} (hgd:o.guard=none) (k:Nat) (i:Nat) (v x:Value) (tys:Array TypeId)
  (ho:o.op=.call { callee:=.value (.func k),args:=#[.tmp i,.const v,.const x],argTypes:=tys }) (u:Value) (hx:a.tmps[i]?.getD undef=u) (heg:∀args w,(callFunc k args).run Tryz.prog w=.ok (.enter k args) w)
  (h:Calls Tryz.prog k #[u,v,x] w fun e w'=>∃r,e=.returned r/\K (a.put o.dst r) w') :
  if Region.wanted o (yielded ops a.tmps)=true then Oper.wp Tryz.prog o a w K Q else E:=by
 have hw:Region.wanted o (yielded ops a.tmps)=true:=by simp [Region.wanted,hgd]
 rw [if_pos hw]
 unfold Oper.wp
 simp [execOp,ho,resolve,invoke,hx,go_sem,heg]
 refine h.mono ?_
 rintro e w' ⟨u,rfl,hk⟩
 exact hk

theorem KW.cells {T:Nat->Prop} {w:World} {B d g n c:Nat} {l:List (Ro d)} (h:KW T w B d g n c l) (hn:0<n):∃xs:List Value,Hid (xs.length=n*3/\(∀j u,xs[j]?=some u->w.cell? ⟨g,j,none⟩=some u)/\KidL (fun t v=>NG (fun b=>T b/\b≠g) w d t v) l xs):=by
 have hl:=h.len
 obtain ⟨xs5,q1,q2⟩:=h
 obtain ⟨a,c',e,hf⟩:=own_form q1
 injection e with e
 subst e
 obtain ⟨g',e,_,_,hx⟩:=hf (by omega)
 injection e with e
 injection e with e
 subst e
 exact ⟨xs5,by have:=q2.len;rw [this,hl],hx,q2⟩
theorem cut_len {i n:Nat} (h:i<n):i+(n-(i+1))=n-1:=by omega
theorem cut_ne {n:Nat} (h:2<=n):n-1≠0:=by omega
theorem wrap_pred (i:Nat) (h:0<i) (h2:i<=1000):IntKind.i64.wrap ((i:Int)-1)=((i-1:Nat):Int):=by rw [IntKind.wrap_i64];omega
theorem step_app_kid1 {w:World} {ops:Array Oper} {o:Oper} {act:Act} {K:Act->World->Prop} {Q:Exit->Act->World->Prop} {E:Prop} (hgd:o.guard=none) (s x:Operand)
  (ho:o.op=.call { callee:=.builtin .append,args:=#[s,x],argTypes:=#[89,89] })
  (B:Nat) (v:Value) (n:Nat) (xs:List Value) (hs:act.eval s=v) (hown:w.ownsRow B 91 3 v n xs)
  (g c:Nat) (v0 v1 v2:Value) (hx:act.eval x=.slice (some ⟨g,0,none⟩) 1 c) (hc:∀j u,[v0,v1,v2][j]?=some u->w.cell? ⟨g,j,none⟩=some u) (h1:∀u∈[v0,v1,v2],u.oneCell'=true) (hnm:n<=1048576) (hB:B<=w.heap.size)
  (h:∀v' w',w'.ownsRow B 91 3 v' (n+1) (xs++[v0,v1,v2])->w.grownBy w' v.ownBlock->(v'.ownBlock=v.ownBlock\/v'.ownBlock=some w.heap.size)->K (act.put o.dst v') w') :
  if Region.wanted o (yielded ops act.tmps)=true then Oper.wp Tryz.prog o act w K Q else E:=by
 have hw:Region.wanted o (yielded ops act.tmps)=true:=by simp [Region.wanted,hgd]
 rw [if_pos hw]
 obtain ⟨i0,hi,hz0,hz1,hz2⟩:=info_parts Tryz.info91
 obtain ⟨v',w',hr,h2,h3,h4,h5⟩:=run_append_own_at (P:=Tryz.prog) w B 89 o.type 91 i0 _ 3 56 Tryz.underlying89 hi hz0 hz1 hz2 rfl (by decide) v n xs hown ⟨g,0,none⟩ 1 c [v0,v1,v2] rfl (fun j u hj=>by rw [addr_add,Nat.zero_add];exact hc j u hj) h1 (by unfold maxLen;omega) (by omega) hB
 unfold Oper.wp execOp
 simp only [ho,resolve,invoke,builtin,Sem.run_bind,Sem.run_pure,Result.andThen_ok,List.map_toArray,List.map_cons,List.map_nil,hs,hx,hr]
 exact h v' w' h2 h3 h5

set_option maxHeartbeats 8000000 in
theorem del_any (key:ByteArray):∀(d:Nat) (t:Ro d) (v:Value) (root:Bool) (h:Nat) (S:Nat->Prop) (w:World),NG S w d t v->BalR d root t h->Asc (keysR d t)->nodesR d t<=5000->(keysR d t).length<=1099511627776->
  Calls Tryz.prog 88 #[v,.string key] w (fun e w'=>∃r,DelR key d t r/\RetG3 S w d r e w'):=by
 intro d
 induction d with
 | zero=>intro t;exact t.elim
 | succ d ih=>
  intro t v root h S w hv hbal hasc hnod hlen
  rcases t with L|l
  ·refine (del_leaf d L v key S w hv (by obtain ⟨_,q,_⟩:=hbal;omega)).mono (fun e w' hr=>⟨_,rfl,hr⟩)
  ·obtain ⟨b2,b4,h',rfl,hall⟩:=hbal
   have hasc' : Asc (l.flatMap (keysR d)):=hasc
   have HBal:Hid ((∀t,t∈l->BalR d false t h')/\Asc (l.flatMap (keysR d))):=⟨hall,hasc'⟩
   have HIH:Hid (∀(i:Nat) (hi:i<l.length) (v:Value) (S:Nat->Prop) (w:World),NG S w d l[i] v->Calls Tryz.prog 88 #[v,.string key] w (fun e w'=>∃y,DelR key d l[i] y/\RetG3 S w d y e w')):=by
    intro i hi v S w hv
    refine ih l[i] v false h' S w hv (hall _ (List.getElem_mem hi)) (asc_kid hasc' i hi) (by have:=kid_le d l i hi;omega) ?_
    have:(keysR d l[i]).length<=(l.flatMap (keysR d)).length:=kid_keys_le d l i hi
    have h3:(l.flatMap (keysR d)).length<=1099511627776:=hlen
    omega
   have HCh:Hid (∀W,Below w.heap.size w W->Calls Tryz.prog 115 #[v,.string key] W fun e w'=>∃i:Nat,e=.returned (.int .i64 (i:Int))/\KidIs l key i/\Below W.heap.size W w'):=fun W hW=>child_any d l v key W (hv.below hW).na (fun k hk=>bal_keys (hall _ (List.getElem_mem hk))) hnod (fun k hk=>by
    have:(keysR d l[k]).length<=(l.flatMap (keysR d)).length:=kid_keys_le d l k hk
    have h3:(l.flatMap (keysR d)).length<=1099511627776:=hlen
    omega)
   obtain ⟨ka,kc,b,cc,xs,rfl,⟨hs,hcap⟩,hb,hl,hx,hk⟩:=hv
   obtain ⟨n,hn⟩:∃n,n=l.length:=⟨_,rfl⟩
   have HLn:Hid (n=l.length):=hn
   have HXK:Hid ((∀j u,xs[j]?=some u->w.cell? ⟨b,j,none⟩=some u)/\KidL (fun t v=>NG S w d t v) l xs/\b<w.heap.size):=⟨hx,hk,hb⟩
   have HXl:Hid (xs.length=n*3):=by have:=hk.len;rw [<- hn] at this;exact this
   rw [<- hn] at hcap hl b2 b4 HCh ⊢
   obtain ⟨i0,hi0,hz0,hz1,hz2⟩:=info_parts Tryz.info91
   have HI:Hid (Tryz.prog.info? 91=some i0/\i0.zero=some (.agg #[.bool false,.slice none 0 0,.slice none 0 0])/\i0.size=3/\i0.bytes=56):=⟨hi0,hz0,hz1,hz2⟩
   clear ih hasc hasc' hnod hlen hall hn hx hk hs hi0 hz0 hz1 hz2 hb
   go_enter Tryz.func88,Tryz.ntmps88
   go_wp2_with fail
   (with_reducible refine (HCh.out _ ((below_alloc _ _).alloc (by simp) _)).mono ?_)
   rintro e w2 ⟨i,rfl,hkid,hb2⟩
   have HK:Hid (KidIs l key i):=hkid
   have hin:i<n:=by rw [HLn.out];exact hkid.1
   have hbx:=((Bx.new w #[.bool false,.slice ka 0 kc,.slice (some ⟨b,0,none⟩) n cc] 91).alloc (.cells #[.bool false,.slice none 0 0,.slice none 0 0] 91)).below hb2
   have hby:=Bx.new (w.alloc (.cells #[.bool false,.slice ka 0 kc,.slice (some ⟨b,0,none⟩) n cc] 91)) #[.bool false,.slice none 0 0,.slice none 0 0] 91
   rw [World.size_alloc] at hby
   have HB2:Hid (Below w.heap.size w w2/\w.heap.size+2<=w2.heap.size):=⟨((below_alloc _ _).alloc (by simp) _).trans (hb2.mono (by simp;omega)),by have:=hb2.size;simpa using this⟩
   have HBX2:Hid (Bx w2 w.heap.size 91 #[.bool false,.slice ka 0 kc,.slice (some ⟨b,0,none⟩) n cc]/\Bx w2 (w.heap.size+1) 91 #[.bool false,.slice none 0 0,.slice none 0 0]):=⟨hbx,hby.below hb2⟩
   have x2:=hbx.cell 2
   simp at x2
   have xz:=hbx.lt
   have HO:Hid ((w2.alloc (.cells #[] 91)).ownsRow w2.heap.size 91 3 (.slice (some ⟨w2.heap.size,0,none⟩) 0 0) 0 []):=own_empty w2 91 w2.heap.size 3 (Nat.le_refl _)
   have HY1:Hid (∀j u,xs[j]?=some u->(w2.alloc (.cells #[] 91)).cell? ⟨b,j,none⟩=some u):=fun j u hj=>((HB2.out.1.alloc HB2.out.1.size _).cell (p:=⟨b,j,none⟩) HXK.out.2.2).trans (HXK.out.1 j u hj)
   clear hbx hby hb2 hkid HCh
   go_wp2_with (at_builtin;refine wpList_append_own_at _ rfl _ _ 89 rfl w2.heap.size 91 i0 _ 3 56 Tryz.underlying89 HI.out.1 HI.out.2.1 HI.out.2.2.1 HI.out.2.2.2 rfl (by decide) (.slice (some ⟨w2.heap.size,0,none⟩) 0 0) 0 [] rfl HO.out ⟨b,0,none⟩ n cc _ rfl HXl.out (fun j u hj=>by rw [addr_add,Nat.zero_add];exact HY1.out j u hj) (HXK.out.2.1.cells NG.one) (by unfold maxLen;omega) (by omega) (by simp) ?_)
   intro v3 w3 ho3 hg3 _ hat3
   obtain ⟨a3,c3,rfl,hf3⟩:=own_form ho3
   obtain ⟨g,rfl,hg1,hg2,_⟩:=hf3 (by omega)
   have HB3:Hid (Below w.heap.size w w3/\w2.heap.size+1<=w3.heap.size/\Bx w3 (w.heap.size+1) 91 #[.bool false,.slice none 0 0,.slice none 0 0]):=by
    have q:Below w2.heap.size w2 w3:=(below_alloc _ _).grown hg3 (by simp) (fun g e=>by simp [Value.ownBlock] at e;omega)
    exact ⟨HB2.out.1.trans (q.mono HB2.out.1.size),by have:=hg3.size;simpa using this,HBX2.out.2.below q⟩
   have HKW:Hid (KW (fun b=>(S b/\b<w.heap.size)\/w.heap.size+2<=b) w3 w2.heap.size d g n c3 l):=by
    refine ⟨xs,ho3,HXK.out.2.1.mono (fun t v q=>NG.keep q HB3.out.1.size (fun b hs hl=>⟨⟨Or.inl ⟨hs,hl⟩,?_⟩,HB3.out.1.block b hl⟩))⟩
    have:=HB2.out.2
    omega
   have hcap3:=own_cap ho3
   clear ho3 hg3 hat3 HO x2 hf3
   have hil:i<l.length:=by rw [<- HLn.out];exact hin
   obtain ⟨lf1,ka1,kn1,kc1,ca1,cn1,cc1,z0,z1,z2,hng⟩:=HKW.out.get i hil
   have HCall:Hid (Calls Tryz.prog 88 #[.agg #[.bool lf1,.slice ka1 kn1 kc1,.slice ca1 cn1 cc1],.string key] w3 (fun e w'=>∃y,DelR key d l[i] y/\RetG3 (fun b=>((S b/\b<w.heap.size)\/w.heap.size+2<=b)/\b≠g) w3 d y e w')):=HIH.out i hil _ _ w3 hng
   have i0' : (0:Int)<=(i:Int):=by omega
   have i1' : (i:Int)<(n:Int):=by omega
   clear hng HIH
   go_wp2_with fail
   (with_reducible refine HCall.out.mono ?_)
   rintro e w4 ⟨y,hdel,hb4,lfy,kay,kny,kcy,cay,cny,ccy,rfl,hgy⟩
   have hz2:=HB2.out.2
   have HD4:Hid (DS S w w4 w2.heap.size d g n c3 l):=⟨HKW.out.below hb4,HB3.out.1.trans (hb4.mono HB3.out.1.size),HB3.out.2.2.below hb4,hz2⟩
   have HDel:Hid (DelR key d l[i] y):=hdel
   have HY4:Hid (NG (fun b=>((S b/\b<w.heap.size)\/w.heap.size+2<=b)/\b≠g) w4 d y (.agg #[.bool lfy,.slice kay kny kcy,.slice cay cny ccy])):=by
    refine hgy.wide (fun b hs _=>?_)
    rcases hs with hs|hs
    ·exact hs
    ·have:=HB3.out.2.1
     exact ⟨Or.inr (by omega),by omega⟩
   have gf:=fun j=>HD4.out.kw.frozen j
   clear hgy hb4 hdel HCall z0 z1 z2
   obtain ⟨lf5,ka5,kn5,kc5,ca5,cn5,cc5,z0,z1,z2,_⟩:=HD4.out.kw.get i hil
   have hgl:=HD4.out.kw.lt
   have HD5:Hid (DS S w (((w4.setCell ⟨g,i*3,none⟩ (.bool lfy)).setCell ⟨g,i*3+1,none⟩ (.slice kay kny kcy)).setCell ⟨g,i*3+2,none⟩ (.slice cay cny ccy)) w2.heap.size d g n c3 (l.set i y)):=HD4.out.put i hil HY4.out
   have HSy:Hid (∀W:World,Calls Tryz.prog 122 #[.agg #[.bool lfy,.slice kay kny kcy,.slice cay cny ccy]] W fun e w'=>e=.returned (.int .i64 (sizD y:Int))/\Below W.heap.size W w'):=fun W=>sizeD_any HY4.out W
   have HBy:Hid (BalU d y h'/\1<=sizD y/\sizD y<=4):=by
    have hli:=HBal.out.1 _ (List.getElem_mem hil)
    have q:=DelR.bal hli (asc_kid HBal.out.2 i hil) HDel.out
    have q2:=hli.siz
    exact ⟨q.1,by omega,q.1.le⟩
   obtain ⟨sy,hsy⟩:∃sy,sy=sizD y:=⟨_,rfl⟩
   have HSyE:Hid (sy=sizD y):=hsy
   have hsy4:sy<=4:=by rw [hsy];exact HBy.out.2.2
   rw [<- hsy] at HSy
   clear hsy
   go_wp2_with fail
   (with_reducible refine (HSy.out _).mono ?_)
   rintro e w6 ⟨rfl,hb6⟩
   have HD6:Hid (DS S w w6 w2.heap.size d g n c3 (l.set i y)):=HD5.out.below hb6
   clear hb6 z0 z1 z2 gf HD4 HY4 HD5 hgl
   have r0:=HD6.out.box.cell 0
   have r1:=HD6.out.box.cell 1
   have r2:=HD6.out.box.cell 2
   simp at r0 r1 r2
   have hf:=fun i=>HD6.out.box.frozen i
   have hbl:=HD6.out.box.lt
   by_cases hfull:2<=sy
   ·have hfd:decide ((2:Int)<=(sy:Int))=true:=decide_eq_true (by omega)
    have hfi:(2:Int)<=(sy:Int):=by omega
    have hfi2:(sy:Int) ≥ 2:=by omega
    go_wp2
    refine bodyPost_ret (v:=.agg #[.bool false,.slice none 0 0,.slice (some ⟨g,0,none⟩) n c3]) (by simp [results,Tryz.results88,go_sem,r0,r1,r2]) rfl ⟨.inr (l.set i y),⟨i,HK.out,hil,y,HDel.out,?_⟩,HD6.out.ret (by omega)⟩
    rw [fixD_full (y:=y) (by simp [hil]) (by rw [<- HSyE.out];exact hfull)]
   ·have hfd:decide ((2:Int)<=(sy:Int))=false:=decide_eq_false (by omega)
    have hfi:¬ (2:Int)<=(sy:Int):=by omega
    obtain ⟨l5,hl5⟩:∃l5,l5=l.set i y:=⟨_,rfl⟩
    have HL5:Hid (l5=l.set i y/\l5[i]?=some y/\∀j t,l5[j]?=some t->j≠i->BalR d false t h'):=by
     refine ⟨hl5,by rw [hl5];simp [hil],fun j t ht hj=>?_⟩
     rw [hl5,List.getElem?_set_ne (by omega)] at ht
     exact HBal.out.1 t (List.mem_of_getElem? ht)
    have hn5:l5.length=n:=by rw [hl5,List.length_set,HLn.out]
    rw [<- hl5] at HD6
    have HFin:Hid (∀r,r=fixD l5 i->DelR key (d+1) (.inr l) (.inr r)):=fun r hr=>⟨i,HK.out,hil,y,HDel.out,by rw [<- HL5.out.1,hr]⟩
    have HNy:Hid (¬ 2<=sizD y):=by rw [<- HSyE.out];exact hfull
    clear hl5
    have hsy1:sy=1:=by have:=HBy.out.2.1;rw [<- HSyE.out] at this;omega
    by_cases hi0:0<i
    ·skip
     have hi0d:decide ((0:Int)<(i:Int))=true:=decide_eq_true (by omega)
     have hi0i:(0:Int)<(i:Int):=by omega
     obtain ⟨lfz,kaz,knz,kcz,caz,cnz,ccz,z0,z1,z2,hngz⟩:=HD6.out.kw.get (i-1) (by omega)
     have hgz:l5[i-1]?=some (l5[i-1]'(by omega)):=List.getElem?_eq_getElem (by omega)
     generalize l5[i-1]'(by omega)=z at hngz hgz
     have HZ:Hid (l5[i-1]?=some z/\BalR d false z h'):=⟨hgz,HL5.out.2.2 (i-1) z hgz (by omega)⟩
     have HNGz:Hid (NG (fun b=>((S b/\b<w.heap.size)\/w.heap.size+2<=b)/\b≠g) w6 d z (.agg #[.bool lfz,.slice kaz knz kcz,.slice caz cnz ccz])):=hngz
     have HSz:Hid (∀W:World,Calls Tryz.prog 122 #[.agg #[.bool lfz,.slice kaz knz kcz,.slice caz cnz ccz]] W fun e w'=>e=.returned (.int .i64 (sizD z:Int))/\Below W.heap.size W w'):=fun W=>sizeD_any HNGz.out W
     obtain ⟨sz,hsz⟩:∃sz,sz=sizD z:=⟨_,rfl⟩
     have HSzE:Hid (sz=sizD z):=hsz
     have hsz4:sz<=4/\2<=sz:=by rw [hsz];exact ⟨(BalU.of HZ.out.2).le,HZ.out.2.siz⟩
     rw [<- hsz] at HSz
     clear hsz hngz hgz
     go_wp2_with fail
     (with_reducible refine (HSz.out _).mono ?_)
     rintro e w7 ⟨rfl,hb7⟩
     have HD7:Hid (DS S w w7 w2.heap.size d g n c3 l5):=HD6.out.below hb7
     have HZ7:Hid (NG (fun b=>((S b/\b<w.heap.size)\/w.heap.size+2<=b)/\b≠g) w7 d z (.agg #[.bool lfz,.slice kaz knz kcz,.slice caz cnz ccz])/\w7.cell? ⟨g,(i-1)*3,none⟩=some (.bool lfz)/\w7.cell? ⟨g,(i-1)*3+1,none⟩=some (.slice kaz knz kcz)/\w7.cell? ⟨g,(i-1)*3+2,none⟩=some (.slice caz cnz ccz)):=by
      have hgl:=HD6.out.kw.lt
      exact ⟨HNGz.out.below hb7,(hb7.cell (p:=⟨g,_,none⟩) hgl.2).trans z0,(hb7.cell (p:=⟨g,_,none⟩) hgl.2).trans z1,(hb7.cell (p:=⟨g,_,none⟩) hgl.2).trans z2⟩
     clear z0 z1 z2 hb7 HNGz r0 r1 r2 hf hbl
     by_cases h3:2<sz
     ·have h3d:decide ((2:Int)<(sz:Int))=true:=decide_eq_true (by omega)
      have h3i:(2:Int)<(sz:Int):=by omega
      obtain ⟨_,z0,z1,z2⟩:=HZ7.out
      go_wp2_with fail
      (with_reducible refine (HSz.out _).mono ?_)
      rintro e w8 ⟨rfl,hb8⟩
      have hgl7:=HD7.out.kw.lt
      have HD8:Hid (DS S w w8 w2.heap.size d g n c3 l5):=HD7.out.below hb8
      have HZ8:Hid (NG (fun b=>((S b/\b<w.heap.size)\/w.heap.size+2<=b)/\b≠g) w8 d z (.agg #[.bool lfz,.slice kaz knz kcz,.slice caz cnz ccz])/\w8.cell? ⟨g,(i-1)*3,none⟩=some (.bool lfz)/\w8.cell? ⟨g,(i-1)*3+1,none⟩=some (.slice kaz knz kcz)/\w8.cell? ⟨g,(i-1)*3+2,none⟩=some (.slice caz cnz ccz)):=⟨HZ7.out.1.below hb8,(hb8.cell (p:=⟨g,_,none⟩) hgl7.2).trans z0,(hb8.cell (p:=⟨g,_,none⟩) hgl7.2).trans z1,(hb8.cell (p:=⟨g,_,none⟩) hgl7.2).trans z2⟩
      clear z0 z1 z2 hb8 hgl7 HZ7 HD7
      obtain ⟨lfq,kaq,knq,kcq,caq,cnq,ccq,y0,y1,y2,hngy⟩:=HD8.out.kw.get i (by omega)
      have hgy' : l5[i]'(by omega)=y:=by
       have q:=HL5.out.2.1
       rw [List.getElem?_eq_getElem (by omega)] at q
       injection q
      rw [hgy'] at hngy
      have hgl8:=HD8.out.kw.lt
      have HNG8:Hid (NG (fun b=>((S b/\b<w.heap.size)\/w.heap.size+2<=b)/\b≠g) w8.drew d z (.agg #[.bool lfz,.slice kaz knz kcz,.slice caz cnz ccz])/\NG (fun b=>((S b/\b<w.heap.size)\/w.heap.size+2<=b)/\b≠g) w8.drew d y (.agg #[.bool lfq,.slice kaq knq kcq,.slice caq cnq ccq])/\DS S w w8.drew w2.heap.size d g n c3 l5):=⟨HZ8.out.1.below (Below.refl _ _).drew,NG.below hngy (Below.refl _ _).drew,HD8.out.below (Below.refl _ _).drew⟩
      have HKeep:Hid (∀w',Below w8.drew.heap.size w8.drew w'->w'.cell? ⟨g,(i-1)*3,none⟩=some (.bool lfz)/\w'.cell? ⟨g,(i-1)*3+1,none⟩=some (.slice kaz knz kcz)/\w'.cell? ⟨g,(i-1)*3+2,none⟩=some (.slice caz cnz ccz)/\w'.cell? ⟨g,i*3,none⟩=some (.bool lfq)/\w'.cell? ⟨g,i*3+1,none⟩=some (.slice kaq knq kcq)/\w'.cell? ⟨g,i*3+2,none⟩=some (.slice caq cnq ccq)):=by
       intro w' hb
       obtain ⟨_,z0,z1,z2⟩:=HZ8.out
       have hgl' : g<w8.drew.heap.size:=hgl8.2
       exact ⟨(hb.cell (p:=⟨g,_,none⟩) hgl').trans z0,(hb.cell (p:=⟨g,_,none⟩) hgl').trans z1,(hb.cell (p:=⟨g,_,none⟩) hgl').trans z2,(hb.cell (p:=⟨g,_,none⟩) hgl').trans y0,(hb.cell (p:=⟨g,_,none⟩) hgl').trans y1,(hb.cell (p:=⟨g,_,none⟩) hgl').trans y2⟩
      have hwr:IntKind.i64.wrap ((sz:Int)-1)=((sz-1:Nat):Int):=by rw [IntKind.wrap_i64];omega
      have hwi:IntKind.i64.wrap ((i:Int)-1)=((i-1:Nat):Int):=by rw [IntKind.wrap_i64];omega
      have i0m:(0:Int)<=((i-1:Nat):Int):=by omega
      have i1m:((i-1:Nat):Int)<(n:Int):=by omega
      have HP1:Hid (Calls Tryz.prog 124 #[.agg #[.bool lfz,.slice kaz knz kcz,.slice caz cnz ccz],.int .i64 (IntKind.i64.wrap ((sz:Int)-1)),.int .i64 (sz:Int)] w8.drew (RetG3 (fun b=>((S b/\b<w.heap.size)\/w.heap.size+2<=b)/\b≠g) w8.drew d (cutD (sz-1) sz z))):=by
       rw [hwr]
       exact partD_any HNG8.out.1 (sz-1) sz (by omega) (by rw [HSzE.out];exact Nat.le_refl _) (by rw [<- HSzE.out];omega)
      obtain ⟨_,z0,z1,z2⟩:=HZ8.out
      clear hngy hwr
      go_wp2_with fail
      generalize hR:w8.drew=R at HNG8 HKeep HP1
      refine wp_region_late (S:=fun w'=>w'.cell? ⟨g,(i-1)*3,none⟩=some (.bool lfz)/\w'.cell? ⟨g,(i-1)*3+1,none⟩=some (.slice kaz knz kcz)/\w'.cell? ⟨g,(i-1)*3+2,none⟩=some (.slice caz cnz ccz)/\w'.cell? ⟨g,i*3,none⟩=some (.bool lfq)/\w'.cell? ⟨g,i*3+1,none⟩=some (.slice kaq knq kcq)/\w'.cell? ⟨g,i*3+2,none⟩=some (.slice caq cnq ccq)) 17 (by kernel_rfl) ?_ (fun hHeld=>?_)
      ·(rw [hR];exact HKeep.out _ (Below.refl _ _))
      rw [hR] at hHeld ⊢
      clear hR z0 z1 z2 y0 y1 y2
      refine tk 0 .zero (v:=?_) ?_ ?_
      rotate_left
      ·(intro w h;(try dsimp only at h);go_simp) <;> with_reducible rfl
      simp only [tkp]
      refine tk 1 (.succ .zero) (v:=?_) ?_ ?_
      rotate_left
      ·(intro w h;(try dsimp only at h);go_simp) <;> with_reducible rfl
      simp only [tkp]
      refine tk 2 (.succ (.succ .zero)) (v:=?_) ?_ ?_
      rotate_left
      ·(intro w h;(try dsimp only at h);go_simp) <;> with_reducible rfl
      simp only [tkp]
      refine tk 3 (.succ (.succ (.succ .zero))) (v:=?_) ?_ ?_
      rotate_left
      ·(intro w h;(try dsimp only at h);go_simp) <;> with_reducible rfl
      simp only [tkp]
      refine tk 4 (.succ (.succ (.succ (.succ .zero)))) (v:=?_) ?_ ?_
      rotate_left
      ·(intro w h;(try dsimp only at h);go_simp) <;> with_reducible rfl
      simp only [tkp]
      refine tk 5 (.s5 .zero) (v:=?_) ?_ ?_
      rotate_left
      ·(intro w h;(try dsimp only at h);go_simp) <;> with_reducible rfl
      simp only [tkp]
      refine tk 6 (.s5 (.succ .zero)) (v:=?_) ?_ ?_
      rotate_left
      ·(intro w h;(try dsimp only at h);go_simp) <;> with_reducible rfl
      simp only [tkp]
      refine tk 7 (.s5 (.succ (.succ .zero))) (v:=?_) ?_ ?_
      rotate_left
      ·(intro w h;(try dsimp only at h);go_simp) <;> with_reducible rfl
      simp only [tkp]
      refine tk 8 (.s5 (.succ (.succ (.succ .zero)))) (v:=?_) ?_ ?_
      rotate_left
      ·(intro w h;(try dsimp only at h);go_simp) <;> with_reducible rfl
      simp only [tkp]
      refine tk 9 (.s5 (.succ (.succ (.succ (.succ .zero))))) (v:=?_) ?_ ?_
      rotate_left
      ·(intro w h;(try dsimp only at h);go_simp) <;> with_reducible rfl
      simp only [tkp]
      refine tk 11 (.s5 (.s5 (.succ .zero))) (v:=?_) ?_ ?_
      rotate_left
      ·(intro w h;(try dsimp only at h);go_simp) <;> with_reducible rfl
      simp only [tkp]
      refine tk 12 (.s5 (.s5 (.succ (.succ .zero)))) (v:=?_) ?_ ?_
      rotate_left
      ·(intro w h;(try dsimp only at h);go_simp) <;> with_reducible rfl
      simp only [tkp]
      refine tk 13 (.s5 (.s5 (.succ (.succ (.succ .zero))))) (v:=?_) ?_ ?_
      rotate_left
      ·(intro w h;(try dsimp only at h);go_simp) <;> with_reducible rfl
      simp only [tkp]
      refine late_take 14 (.s5 (.s5 (.succ (.succ (.succ (.succ .zero)))))) (v:=?_) (by kernel_rfl) (by kernel_rfl) (by kernel_rfl) (by kernel_rfl) (fun _ _ _ h=>h) (by rfl) ?_ (by assumption) ?_
      rotate_left
      ·(intro w h;(try dsimp only at h);go_simp) <;> with_reducible rfl
      simp only [tkp]
      refine tk1 10 (.s5 (.s5 .zero)) (fun K hK=>?_)
      refine step_t3 (by rfl) 124 86 88 89 _ (by rfl) (.agg #[.bool lfz,.slice kaz knz kcz,.slice caz cnz ccz]) (.int .i64 (IntKind.i64.wrap ((sz:Int)-1))) (.int .i64 (sz:Int)) (by rfl) (by rfl) (by rfl) (fun _ _=>by rfl) ?_
      (with_reducible refine HP1.out.mono ?_)
      rintro e w9 ⟨hb9,lfp,kap,knp,kcp,cap,cnp,ccp,rfl,hgp⟩
      refine ⟨_,rfl,?_⟩
      have HB9:Hid (Below R.heap.size R w9/\NG (fun b=>((S b/\b<w.heap.size)\/w.heap.size+2<=b)/\b≠g) w9 d (cutD (sz-1) sz z) (.agg #[.bool lfp,.slice kap knp kcp,.slice cap cnp ccp])):=⟨hb9,HNG8.out.2.2.new hb9 hgp⟩
      clear hgp hb9
      refine hK.out _ _ ?_ (fun hG=>?_)
      ·(intro _;exact HKeep.out _ HB9.out.1)
      clear hK K
      replace hHeld:=hG (by decide)
      clear hG
      try simp only [tkp]
      have HJ:Hid (Calls Tryz.prog 123 #[.agg #[.bool lfp,.slice kap knp kcp,.slice cap cnp ccp],.agg #[.bool lfq,.slice kaq knq kcq,.slice caq cnq ccq]] w9 (RetG3 (fun b=>((S b/\b<w.heap.size)\/w.heap.size+2<=b)/\b≠g) w9 d (joinD (cutD (sz-1) sz z) y))):=joinD_any HB9.out.2 (NG.below HNG8.out.2.1 HB9.out.1) ((BalU.of HZ.out.2).cut (lo:=sz-1) (hi:=sz) (by omega) (by rw [HSzE.out];exact Nat.le_refl _)).1 HBy.out.1
      refine tk1 15 (.s5 (.s5 (.s5 .zero))) (fun K hK=>?_)
      refine step_t2 (by rfl) 123 90 94 _ (by rfl) (.agg #[.bool lfp,.slice kap knp kcp,.slice cap cnp ccp]) (.agg #[.bool lfq,.slice kaq knq kcq,.slice caq cnq ccq]) (by rfl) (by rfl) (fun _ _=>by rfl) ?_
      (with_reducible refine HJ.out.mono ?_)
      rintro e w10 ⟨hb10,lfj,kaj,knj,kcj,caj,cnj,ccj,rfl,hgj⟩
      refine ⟨_,rfl,?_⟩
      have HD9:Hid (DS S w w9 w2.heap.size d g n c3 l5):=HNG8.out.2.2.below HB9.out.1
      have HB10:Hid (Below R.heap.size R w10/\NG (fun b=>((S b/\b<w.heap.size)\/w.heap.size+2<=b)/\b≠g) w10 d (joinD (cutD (sz-1) sz z) y) (.agg #[.bool lfj,.slice kaj knj kcj,.slice caj cnj ccj])/\DS S w w10 w2.heap.size d g n c3 l5):=⟨HB9.out.1.trans (hb10.mono HB9.out.1.size),HD9.out.new hb10 hgj,HD9.out.below hb10⟩
      clear hgj hb10 HD9 HJ
      refine hK.out _ _ ?_ (fun hG=>?_)
      ·(intro _;exact HKeep.out _ HB10.out.1)
      clear hK K
      replace hHeld:=hG (by decide)
      clear hG
      try simp only [tkp]
      refine tk1 16 (.s5 (.s5 (.s5 (.succ .zero)))) (fun K hK=>?_)
      go_simp
      refine hK.out _ _ ?_ (fun hG=>?_)
      ·(intro _;exact hHeld)
      clear hK K
      replace hHeld:=hG (by decide)
      clear hG
      try simp only [tkp]
      obtain ⟨u0,u1,u2,u3,u4,u5⟩:=HKeep.out w10 HB10.out.1
      have gf:=fun j=>HB10.out.2.2.kw.frozen j
      refine tk1 17 (.s5 (.s5 (.s5 (.succ (.succ .zero))))) (fun K hK=>?_)
      go_simp
      refine hK.out _ _ ?_ (fun hG=>?_)
      ·(intro hne;exact absurd rfl hne)
      clear hK K hG
      refine wpLate_done (by kernel_rfl) ?_ _
      have HJN:Hid (l5.length=n/\(l5.set i (joinD (cutD (sz-1) sz z) y)).length=n):=⟨hn5,by rw [List.length_set,hn5]⟩
      have HD11:Hid (DS S w (((w10.setCell ⟨g,i*3,none⟩ (.bool lfj)).setCell ⟨g,i*3+1,none⟩ (.slice kaj knj kcj)).setCell ⟨g,i*3+2,none⟩ (.slice caj cnj ccj)) w2.heap.size d g n c3 (l5.set i (joinD (cutD (sz-1) sz z) y))):=HB10.out.2.2.put i (by omega) HB10.out.2.1
      clear u0 u1 u2 u3 u4 u5 gf hHeld HB10 HB9 HP1 HKeep HNG8 HD8 HZ8
      generalize ((w10.setCell ⟨g,i*3,none⟩ (.bool lfj)).setCell ⟨g,i*3+1,none⟩ (.slice kaj knj kcj)).setCell ⟨g,i*3+2,none⟩ (.slice caj cnj ccj)=w11 at HD11 ⊢
      obtain ⟨lfr,kar,knr,kcr,car,cnr,ccr,z0,z1,z2,hngr⟩:=HD11.out.kw.get (i-1) (by rw [List.length_set];omega)
      have hgr:(l5.set i (joinD (cutD (sz-1) sz z) y))[i-1]'(by rw [List.length_set];omega)=z:=by
       rw [List.getElem_set_ne (by omega)]
       have q:=HZ.out.1
       rw [List.getElem?_eq_getElem (by omega)] at q
       injection q
      rw [hgr] at hngr
      have HP2:Hid (Calls Tryz.prog 124 #[.agg #[.bool lfr,.slice kar knr kcr,.slice car cnr ccr],.int .i64 0,.int .i64 ((sz-1:Nat):Int)] w11 (RetG3 (fun b=>((S b/\b<w.heap.size)\/w.heap.size+2<=b)/\b≠g) w11 d (cutD 0 (sz-1) z))):=partD_any hngr 0 (sz-1) (by omega) (by rw [<- HSzE.out];omega) (by rw [<- HSzE.out];omega)
      have hgl11:=HD11.out.kw.lt
      have gf:=fun j=>HD11.out.kw.frozen j
      have hs1:(sz:Int)-1=((sz-1:Nat):Int):=by omega
      clear hngr hgr
      go_wp2_with fail
      (with_reducible refine HP2.out.mono ?_)
      rintro e w12 ⟨hb12,lfs,kas,kns,kcs,cas,cns,ccs,rfl,hgs⟩
      have HD12:Hid (DS S w w12 w2.heap.size d g n c3 (l5.set i (joinD (cutD (sz-1) sz z) y))):=HD11.out.below hb12
      have HG12:Hid (NG (fun b=>((S b/\b<w.heap.size)\/w.heap.size+2<=b)/\b≠g) w12 d (cutD 0 (sz-1) z) (.agg #[.bool lfs,.slice kas kns kcs,.slice cas cns ccs])):=HD11.out.new hb12 hgs
      clear z0 z1 z2 hb12 hgs HP2 gf hgl11
      obtain ⟨lfv,kav,knv,kcv,cav,cnv,ccv,z0,z1,z2,_⟩:=HD12.out.kw.get (i-1) (by rw [List.length_set];omega)
      have gf:=fun j=>HD12.out.kw.frozen j
      have hgl12:=HD12.out.kw.lt
      have hs12:=HD12.out.sz
      have HD13:Hid (DS S w (((w12.setCell ⟨g,(i-1)*3,none⟩ (.bool lfs)).setCell ⟨g,(i-1)*3+1,none⟩ (.slice kas kns kcs)).setCell ⟨g,(i-1)*3+2,none⟩ (.slice cas cns ccs)) w2.heap.size d g n c3 ((l5.set i (joinD (cutD (sz-1) sz z) y)).set (i-1) (cutD 0 (sz-1) z))):=HD12.out.put (i-1) (by rw [List.length_set];omega) HG12.out
      have r0:=HD13.out.box.cell 0
      have r1:=HD13.out.box.cell 1
      have r2:=HD13.out.box.cell 2
      simp only [List.getElem?_toArray,List.getElem?_cons_zero,List.getElem?_cons_succ] at r0 r1 r2
      have hf:=fun i=>HD13.out.box.frozen i
      have hbl:=HD13.out.box.lt
      go_wp2
      clear r0 r1 r2 hf hbl gf z0 z1 z2
      generalize ((w12.setCell ⟨g,(i-1)*3,none⟩ (.bool lfs)).setCell ⟨g,(i-1)*3+1,none⟩ (.slice kas kns kcs)).setCell ⟨g,(i-1)*3+2,none⟩ (.slice cas cns ccs)=w13 at HD13 ⊢
      have r0:=HD13.out.box.cell 0
      have r1:=HD13.out.box.cell 1
      have r2:=HD13.out.box.cell 2
      simp at r0 r1 r2
      refine bodyPost_ret (v:=.agg #[.bool false,.slice none 0 0,.slice (some ⟨g,0,none⟩) n c3]) (by simp [results,Tryz.results88,go_sem,r0,r1,r2]) rfl ⟨_,HFin.out _ ?_,HD13.out.ret (by omega)⟩
      rw [fixD_left HL5.out.2.1 HNy.out hi0 HZ.out.1 (by rw [<- HSzE.out];exact h3),<- HSzE.out]
     ·have h3d:decide ((2:Int)<(sz:Int))=false:=decide_eq_false (by omega)
      have h3i:¬ (2:Int)<(sz:Int):=by omega
      have HNL:Hid (¬ (0<i/\2<sizO l5[i-1]?)):=by
       rintro ⟨_,q⟩
       rw [HZ.out.1] at q
       have q' : 2<sizD z:=q
       rw [<- HSzE.out] at q'
       exact h3 q'
      clear HZ7 HSz HD6
      by_cases hi1:i+1<n
      ·have hi1d:decide ((i:Int)+1<(n:Int))=true:=decide_eq_true (by omega)
       have hi1i:(i:Int)+1<(n:Int):=by omega
       obtain ⟨lfx,kax,knx,kcx,cax,cnx,ccx,z0,z1,z2,hngx⟩:=HD7.out.kw.get (i+1) (by omega)
       have hgx:l5[i+1]?=some (l5[i+1]'(by omega)):=List.getElem?_eq_getElem (by omega)
       generalize l5[i+1]'(by omega)=x at hngx hgx
       have HX:Hid (l5[i+1]?=some x/\BalR d false x h'):=⟨hgx,HL5.out.2.2 (i+1) x hgx (by omega)⟩
       have HSx:Hid (∀W:World,Calls Tryz.prog 122 #[.agg #[.bool lfx,.slice kax knx kcx,.slice cax cnx ccx]] W fun e w'=>e=.returned (.int .i64 (sizD x:Int))/\Below W.heap.size W w'):=fun W=>sizeD_any hngx W
       obtain ⟨sx,hsx⟩:∃sx,sx=sizD x:=⟨_,rfl⟩
       have HSxE:Hid (sx=sizD x):=hsx
       have hsx4:sx<=4/\2<=sx:=by rw [hsx];exact ⟨(BalU.of HX.out.2).le,HX.out.2.siz⟩
       rw [<- hsx] at HSx
       clear hsx hngx hgx
       go_wp2_with fail
       (with_reducible refine (HSx.out _).mono ?_)
       rintro e w20 ⟨rfl,hb20⟩
       have HD20:Hid (DS S w w20 w2.heap.size d g n c3 l5):=HD7.out.below hb20
       have hgl:=HD7.out.kw.lt
       replace z0:=(hb20.cell (p:=⟨g,_,none⟩) hgl.2).trans z0
       replace z1:=(hb20.cell (p:=⟨g,_,none⟩) hgl.2).trans z1
       replace z2:=(hb20.cell (p:=⟨g,_,none⟩) hgl.2).trans z2
       clear hb20 HD7
       by_cases h4:2<sx
       ·have h4d:decide ((2:Int)<(sx:Int))=true:=decide_eq_true (by omega)
        have h4i:(2:Int)<(sx:Int):=by omega
        go_wp2_with fail
        (with_reducible refine (HSx.out _).mono ?_)
        rintro e w21 ⟨rfl,hb21⟩
        have HD21:Hid (DS S w w21 w2.heap.size d g n c3 l5):=HD20.out.below hb21
        replace z0:=(hb21.cell (p:=⟨g,_,none⟩) HD20.out.kw.lt.2).trans z0
        replace z1:=(hb21.cell (p:=⟨g,_,none⟩) HD20.out.kw.lt.2).trans z1
        replace z2:=(hb21.cell (p:=⟨g,_,none⟩) HD20.out.kw.lt.2).trans z2
        clear hb21 HD20 hgl
        obtain ⟨lfq,kaq,knq,kcq,caq,cnq,ccq,y0,y1,y2,hngy⟩:=HD21.out.kw.get i (by omega)
        have hgy' : l5[i]'(by omega)=y:=by
         have q:=HL5.out.2.1
         rw [List.getElem?_eq_getElem (by omega)] at q
         injection q
        rw [hgy'] at hngy
        obtain ⟨lfx',kax',knx',kcx',cax',cnx',ccx',x0,x1,x2,hngx⟩:=HD21.out.kw.get (i+1) (by omega)
        have hgx' : l5[i+1]'(by omega)=x:=by
         have q:=HX.out.1
         rw [List.getElem?_eq_getElem (by omega)] at q
         injection q
        rw [hgx'] at hngx
        rw [z0] at x0
        rw [z1] at x1
        rw [z2] at x2
        injection x0 with x0
        injection x0 with x0
        injection x1 with x1
        injection x1 with x1 x1' x1''
        injection x2 with x2
        injection x2 with x2 x2' x2''
        subst x0 x1 x1' x1'' x2 x2' x2''
        have hgl8:=HD21.out.kw.lt
        have HNG8:Hid (NG (fun b=>((S b/\b<w.heap.size)\/w.heap.size+2<=b)/\b≠g) w21.drew d x (.agg #[.bool lfx,.slice kax knx kcx,.slice cax cnx ccx])/\NG (fun b=>((S b/\b<w.heap.size)\/w.heap.size+2<=b)/\b≠g) w21.drew d y (.agg #[.bool lfq,.slice kaq knq kcq,.slice caq cnq ccq])/\DS S w w21.drew w2.heap.size d g n c3 l5):=⟨NG.below hngx (Below.refl _ _).drew,NG.below hngy (Below.refl _ _).drew,HD21.out.below (Below.refl _ _).drew⟩
        have HKeep:Hid (∀w',Below w21.drew.heap.size w21.drew w'->w'.cell? ⟨g,(i+1)*3,none⟩=some (.bool lfx)/\w'.cell? ⟨g,(i+1)*3+1,none⟩=some (.slice kax knx kcx)/\w'.cell? ⟨g,(i+1)*3+2,none⟩=some (.slice cax cnx ccx)/\w'.cell? ⟨g,i*3,none⟩=some (.bool lfq)/\w'.cell? ⟨g,i*3+1,none⟩=some (.slice kaq knq kcq)/\w'.cell? ⟨g,i*3+2,none⟩=some (.slice caq cnq ccq)):=by
         intro w' hb
         have hgl' : g<w21.drew.heap.size:=hgl8.2
         exact ⟨(hb.cell (p:=⟨g,_,none⟩) hgl').trans z0,(hb.cell (p:=⟨g,_,none⟩) hgl').trans z1,(hb.cell (p:=⟨g,_,none⟩) hgl').trans z2,(hb.cell (p:=⟨g,_,none⟩) hgl').trans y0,(hb.cell (p:=⟨g,_,none⟩) hgl').trans y1,(hb.cell (p:=⟨g,_,none⟩) hgl').trans y2⟩
        have hwi:IntKind.i64.wrap ((i:Int)+1)=((i+1:Nat):Int):=by rw [IntKind.wrap_i64];omega
        have i0m:(0:Int)<=((i+1:Nat):Int):=by omega
        have i0p:(0:Int)<=(i:Int)+1:=by omega
        have i1m:((i+1:Nat):Int)<(n:Int):=by omega
        have HP1:Hid (Calls Tryz.prog 124 #[.agg #[.bool lfx,.slice kax knx kcx,.slice cax cnx ccx],.int .i64 0,.int .i64 1] w21.drew (RetG3 (fun b=>((S b/\b<w.heap.size)\/w.heap.size+2<=b)/\b≠g) w21.drew d (cutD 0 1 x))):=partD_any HNG8.out.1 0 1 (by omega) (by rw [<- HSxE.out];omega) (by rw [<- HSxE.out];omega)
        clear hngy hngx hgx' hgy'
        go_wp2_with fail
        generalize hR:w21.drew=R at HNG8 HKeep HP1
        refine wp_region_late (S:=fun w'=>w'.cell? ⟨g,(i+1)*3,none⟩=some (.bool lfx)/\w'.cell? ⟨g,(i+1)*3+1,none⟩=some (.slice kax knx kcx)/\w'.cell? ⟨g,(i+1)*3+2,none⟩=some (.slice cax cnx ccx)/\w'.cell? ⟨g,i*3,none⟩=some (.bool lfq)/\w'.cell? ⟨g,i*3+1,none⟩=some (.slice kaq knq kcq)/\w'.cell? ⟨g,i*3+2,none⟩=some (.slice caq cnq ccq)) 14 (by kernel_rfl) ?_ (fun hHeld=>?_)
        ·(rw [hR];exact HKeep.out _ (Below.refl _ _))
        rw [hR] at hHeld ⊢
        clear hR z0 z1 z2 y0 y1 y2
        refine tk 0 .zero (v:=?_) ?_ ?_
        rotate_left
        ·(intro w h;(try dsimp only at h);go_simp) <;> with_reducible rfl
        simp only [tkp]
        refine tk 1 (.succ .zero) (v:=?_) ?_ ?_
        rotate_left
        ·(intro w h;(try dsimp only at h);go_simp) <;> with_reducible rfl
        simp only [tkp]
        refine tk 2 (.succ (.succ .zero)) (v:=?_) ?_ ?_
        rotate_left
        ·(intro w h;(try dsimp only at h);go_simp) <;> with_reducible rfl
        simp only [tkp]
        refine tk 3 (.succ (.succ (.succ .zero))) (v:=?_) ?_ ?_
        rotate_left
        ·(intro w h;(try dsimp only at h);go_simp) <;> with_reducible rfl
        simp only [tkp]
        refine tk 4 (.succ (.succ (.succ (.succ .zero)))) (v:=?_) ?_ ?_
        rotate_left
        ·(intro w h;(try dsimp only at h);go_simp) <;> with_reducible rfl
        simp only [tkp]
        refine tk 5 (.s5 .zero) (v:=?_) ?_ ?_
        rotate_left
        ·(intro w h;(try dsimp only at h);go_simp) <;> with_reducible rfl
        simp only [tkp]
        refine tk 6 (.s5 (.succ .zero)) (v:=?_) ?_ ?_
        rotate_left
        ·(intro w h;(try dsimp only at h);go_simp) <;> with_reducible rfl
        simp only [tkp]
        refine tk 7 (.s5 (.succ (.succ .zero))) (v:=?_) ?_ ?_
        rotate_left
        ·(intro w h;(try dsimp only at h);go_simp) <;> with_reducible rfl
        simp only [tkp]
        refine tk 8 (.s5 (.succ (.succ (.succ .zero)))) (v:=?_) ?_ ?_
        rotate_left
        ·(intro w h;(try dsimp only at h);go_simp) <;> with_reducible rfl
        simp only [tkp]
        refine tk 9 (.s5 (.succ (.succ (.succ (.succ .zero))))) (v:=?_) ?_ ?_
        rotate_left
        ·(intro w h;(try dsimp only at h);go_simp) <;> with_reducible rfl
        simp only [tkp]
        refine tk 10 (.s5 (.s5 .zero)) (v:=?_) ?_ ?_
        rotate_left
        ·(intro w h;(try dsimp only at h);go_simp) <;> with_reducible rfl
        simp only [tkp]
        refine tk1 11 (.s5 (.s5 (.succ .zero))) (fun K hK=>?_)
        refine step_tcc (by rfl) 124 141 (.int .i64 0) (.int .i64 1) _ (by rfl) (.agg #[.bool lfx,.slice kax knx kcx,.slice cax cnx ccx]) (by rfl) (fun _ _=>by rfl) ?_
        (with_reducible refine HP1.out.mono ?_)
        rintro e w9 ⟨hb9,lfp,kap,knp,kcp,cap,cnp,ccp,rfl,hgp⟩
        refine ⟨_,rfl,?_⟩
        have HB9:Hid (Below R.heap.size R w9/\NG (fun b=>((S b/\b<w.heap.size)\/w.heap.size+2<=b)/\b≠g) w9 d (cutD 0 1 x) (.agg #[.bool lfp,.slice kap knp kcp,.slice cap cnp ccp])):=⟨hb9,HNG8.out.2.2.new hb9 hgp⟩
        clear hgp hb9
        refine hK.out _ _ ?_ (fun hG=>?_)
        ·(intro _;exact HKeep.out _ HB9.out.1)
        clear hK K
        replace hHeld:=hG (by decide)
        clear hG
        try simp only [tkp]
        have HJ:Hid (Calls Tryz.prog 123 #[.agg #[.bool lfq,.slice kaq knq kcq,.slice caq cnq ccq],.agg #[.bool lfp,.slice kap knp kcp,.slice cap cnp ccp]] w9 (RetG3 (fun b=>((S b/\b<w.heap.size)\/w.heap.size+2<=b)/\b≠g) w9 d (joinD y (cutD 0 1 x)))):=joinD_any (NG.below HNG8.out.2.1 HB9.out.1) HB9.out.2 HBy.out.1 ((BalU.of HX.out.2).cut (lo:=0) (hi:=1) (by omega) (by rw [<- HSxE.out];omega)).1
        refine tk1 12 (.s5 (.s5 (.succ (.succ .zero)))) (fun K hK=>?_)
        refine step_t2 (by rfl) 123 136 142 _ (by rfl) (.agg #[.bool lfq,.slice kaq knq kcq,.slice caq cnq ccq]) (.agg #[.bool lfp,.slice kap knp kcp,.slice cap cnp ccp]) (by rfl) (by rfl) (fun _ _=>by rfl) ?_
        (with_reducible refine HJ.out.mono ?_)
        rintro e w10 ⟨hb10,lfj,kaj,knj,kcj,caj,cnj,ccj,rfl,hgj⟩
        refine ⟨_,rfl,?_⟩
        have HD9:Hid (DS S w w9 w2.heap.size d g n c3 l5):=HNG8.out.2.2.below HB9.out.1
        have HB10:Hid (Below R.heap.size R w10/\NG (fun b=>((S b/\b<w.heap.size)\/w.heap.size+2<=b)/\b≠g) w10 d (joinD y (cutD 0 1 x)) (.agg #[.bool lfj,.slice kaj knj kcj,.slice caj cnj ccj])/\DS S w w10 w2.heap.size d g n c3 l5):=⟨HB9.out.1.trans (hb10.mono HB9.out.1.size),HD9.out.new hb10 hgj,HD9.out.below hb10⟩
        clear hgj hb10 HD9 HJ
        refine hK.out _ _ ?_ (fun hG=>?_)
        ·(intro _;exact HKeep.out _ HB10.out.1)
        clear hK K
        replace hHeld:=hG (by decide)
        clear hG
        try simp only [tkp]
        refine tk1 13 (.s5 (.s5 (.succ (.succ (.succ .zero))))) (fun K hK=>?_)
        go_simp
        refine hK.out _ _ ?_ (fun hG=>?_)
        ·(intro _;exact hHeld)
        clear hK K
        replace hHeld:=hG (by decide)
        clear hG
        try simp only [tkp]
        obtain ⟨u0,u1,u2,u3,u4,u5⟩:=HKeep.out w10 HB10.out.1
        have gf:=fun j=>HB10.out.2.2.kw.frozen j
        refine late_one 14 (.s5 (.s5 (.succ (.succ (.succ (.succ .zero)))))) (by kernel_rfl) (fun K hK=>?_)
        go_simp
        refine hK.out _ _ ?_ (fun hG=>?_)
        ·(intro hne;exact absurd rfl hne)
        clear hK K hG
        refine wpLate_done (by kernel_rfl) ?_ _
        have HD11:Hid (DS S w (((w10.setCell ⟨g,i*3,none⟩ (.bool lfj)).setCell ⟨g,i*3+1,none⟩ (.slice kaj knj kcj)).setCell ⟨g,i*3+2,none⟩ (.slice caj cnj ccj)) w2.heap.size d g n c3 (l5.set i (joinD y (cutD 0 1 x)))):=HB10.out.2.2.put i (by omega) HB10.out.2.1
        clear u0 u1 u2 u3 u4 u5 gf hHeld HB10 HB9 HP1 HKeep HNG8 HD21
        generalize ((w10.setCell ⟨g,i*3,none⟩ (.bool lfj)).setCell ⟨g,i*3+1,none⟩ (.slice kaj knj kcj)).setCell ⟨g,i*3+2,none⟩ (.slice caj cnj ccj)=w11 at HD11 ⊢
        obtain ⟨lfr,kar,knr,kcr,car,cnr,ccr,z0,z1,z2,hngr⟩:=HD11.out.kw.get (i+1) (by rw [List.length_set];omega)
        have hgr:(l5.set i (joinD y (cutD 0 1 x)))[i+1]'(by rw [List.length_set];omega)=x:=by
         rw [List.getElem_set_ne (by omega)]
         have q:=HX.out.1
         rw [List.getElem?_eq_getElem (by omega)] at q
         injection q
        rw [hgr] at hngr
        have HP2:Hid (Calls Tryz.prog 124 #[.agg #[.bool lfr,.slice kar knr kcr,.slice car cnr ccr],.int .i64 1,.int .i64 (sx:Int)] w11 (RetG3 (fun b=>((S b/\b<w.heap.size)\/w.heap.size+2<=b)/\b≠g) w11 d (cutD 1 sx x))):=partD_any hngr 1 sx (by omega) (by rw [<- HSxE.out];exact Nat.le_refl _) (by rw [<- HSxE.out];omega)
        have hgl11:=HD11.out.kw.lt
        have gf:=fun j=>HD11.out.kw.frozen j
        clear hngr hgr
        go_wp2_with fail
        (with_reducible refine HP2.out.mono ?_)
        rintro e w12 ⟨hb12,lfs,kas,kns,kcs,cas,cns,ccs,rfl,hgs⟩
        have HD12:Hid (DS S w w12 w2.heap.size d g n c3 (l5.set i (joinD y (cutD 0 1 x)))):=HD11.out.below hb12
        have HG12:Hid (NG (fun b=>((S b/\b<w.heap.size)\/w.heap.size+2<=b)/\b≠g) w12 d (cutD 1 sx x) (.agg #[.bool lfs,.slice kas kns kcs,.slice cas cns ccs])):=HD11.out.new hb12 hgs
        clear z0 z1 z2 hb12 hgs HP2 gf hgl11
        obtain ⟨lfv,kav,knv,kcv,cav,cnv,ccv,z0,z1,z2,_⟩:=HD12.out.kw.get (i+1) (by rw [List.length_set];omega)
        have gf:=fun j=>HD12.out.kw.frozen j
        have hgl12:=HD12.out.kw.lt
        have hs12:=HD12.out.sz
        have HD13:Hid (DS S w (((w12.setCell ⟨g,(i+1)*3,none⟩ (.bool lfs)).setCell ⟨g,(i+1)*3+1,none⟩ (.slice kas kns kcs)).setCell ⟨g,(i+1)*3+2,none⟩ (.slice cas cns ccs)) w2.heap.size d g n c3 ((l5.set i (joinD y (cutD 0 1 x))).set (i+1) (cutD 1 sx x))):=HD12.out.put (i+1) (by rw [List.length_set];omega) HG12.out
        have r0:=HD13.out.box.cell 0
        have r1:=HD13.out.box.cell 1
        have r2:=HD13.out.box.cell 2
        simp only [List.getElem?_toArray,List.getElem?_cons_zero,List.getElem?_cons_succ] at r0 r1 r2
        have hf:=fun i=>HD13.out.box.frozen i
        have hbl:=HD13.out.box.lt
        go_wp2
        clear r0 r1 r2 hf hbl gf z0 z1 z2
        generalize ((w12.setCell ⟨g,(i+1)*3,none⟩ (.bool lfs)).setCell ⟨g,(i+1)*3+1,none⟩ (.slice kas kns kcs)).setCell ⟨g,(i+1)*3+2,none⟩ (.slice cas cns ccs)=w13 at HD13 ⊢
        have r0:=HD13.out.box.cell 0
        have r1:=HD13.out.box.cell 1
        have r2:=HD13.out.box.cell 2
        simp at r0 r1 r2
        refine bodyPost_ret (v:=.agg #[.bool false,.slice none 0 0,.slice (some ⟨g,0,none⟩) n c3]) (by simp [results,Tryz.results88,go_sem,r0,r1,r2]) rfl ⟨_,HFin.out _ ?_,HD13.out.ret (by omega)⟩
        rw [fixD_right HL5.out.2.1 HNy.out HNL.out HX.out.1 (by rw [<- HSxE.out];exact h4),<- HSxE.out]
       ·have h4d:decide ((2:Int)<(sx:Int))=false:=decide_eq_false (by omega)
        have h4i:¬ (2:Int)<(sx:Int):=by omega
        have HNR:Hid (¬ 2<sizO l5[i+1]?):=fun q=>by
         rw [HX.out.1] at q
         have q' : 2<sizD x:=q
         rw [<- HSxE.out] at q'
         exact h4 q'
        clear z0 z1 z2 HSx
        have hie:¬ (i:Int)=0:=by omega
        have hien:¬ i=0:=by omega
        have hcut:i-1<=n:=by omega
        obtain ⟨xs5,HX5⟩:=HD20.out.kw.cells (by omega)
        have HO:Hid ((w20.alloc (.cells #[] 91)).ownsRow w20.heap.size 91 3 (.slice (some ⟨w20.heap.size,0,none⟩) 0 0) 0 []):=own_empty w20 91 w20.heap.size 3 (Nat.le_refl _)
        have hglW:=HD20.out.kw.lt
        have HY:Hid ((xs5.take ((i-1)*3)).length=(i-1)*3/\(∀j u,(xs5.take ((i-1)*3))[j]?=some u->(w20.alloc (.cells #[] 91)).cell? ⟨g,j,none⟩=some u)/\KidL (fun t v=>NG (fun b=>((S b/\b<w.heap.size)\/w.heap.size+2<=b)/\b≠g) w20 d t v) (l5.take (i-1)) (xs5.take ((i-1)*3))):=by
         refine ⟨by rw [List.length_take,HX5.out.1];omega,fun j u hj=>?_,KidL.take (i-1) HX5.out.2.2⟩
         rw [List.getElem?_take] at hj
         split at hj
         ·exact ((below_alloc w20 _).cell (p:=⟨g,j,none⟩) hglW.2).trans (HX5.out.2.1 j u hj)
         ·cases hj
        have hsl1:∀W:World,(Instr.sliceAt 89 (.slice (some ⟨g,0,none⟩) n c3) none (some (.int .i64 ((i-1:Nat):Int))) none).run Tryz.prog W=.ok (.slice (some ⟨g,0,none⟩) (i-1) c3) W:=fun W=>uptoK g 0 n c3 (i-1) hcut hcap3.1 W
        go_wp2_with (at_builtin;refine wpList_append_own_at _ rfl _ _ 89 rfl w20.heap.size 91 i0 _ 3 56 Tryz.underlying89 HI.out.1 HI.out.2.1 HI.out.2.2.1 HI.out.2.2.2 rfl (by decide) (.slice (some ⟨w20.heap.size,0,none⟩) 0 0) 0 [] rfl HO.out ⟨g,0,none⟩ (i-1) c3 _ rfl HY.out.1 (fun j u hj=>by rw [addr_add,Nat.zero_add];exact HY.out.2.1 j u hj) (HY.out.2.2.cells NG.one) (by unfold maxLen;omega) (by omega) (by simp) ?_)
        intro v30 w30 ho30 hg30 _ hat30
        obtain ⟨a30,c30,rfl,_⟩:=own_form ho30
        have hbW:Below w20.heap.size w20 w30:=(below_alloc _ _).grown hg30 (by simp) (fun g e=>by simp [Value.ownBlock] at e;omega)
        have HD30:Hid (DS S w w30 w2.heap.size d g n c3 l5):=HD20.out.below hbW
        have H30:Hid (w30.ownsRow w20.heap.size 91 3 (.slice a30 (i-1) c30) (i-1) (xs5.take ((i-1)*3))/\Below w20.heap.size w20 w30/\w20.heap.size<=w30.heap.size):=⟨ho30,hbW,hbW.size⟩
        clear ho30 hg30 hat30 hbW HO hsl1
        obtain ⟨lfq,kaq,knq,kcq,caq,cnq,ccq,y0,y1,y2,hngy⟩:=kid_at (K:=KS (fun b=>((S b/\b<w.heap.size)\/w.heap.size+2<=b)/\b≠g) w20) (S:=fun b=>((S b/\b<w.heap.size)\/w.heap.size+2<=b)/\b≠g) HX5.out.2.1 HX5.out.2.2 i (by omega)
        obtain ⟨lfz,kaz,knz,kcz,caz,cnz,ccz,z0,z1,z2,hngz⟩:=kid_at (K:=KS (fun b=>((S b/\b<w.heap.size)\/w.heap.size+2<=b)/\b≠g) w20) (S:=fun b=>((S b/\b<w.heap.size)\/w.heap.size+2<=b)/\b≠g) HX5.out.2.1 HX5.out.2.2 (i-1) (by omega)
        have hgy' : l5[i]'(by omega)=y:=by
         have q:=HL5.out.2.1
         rw [List.getElem?_eq_getElem (by omega)] at q
         injection q
        have hgz' : l5[i-1]'(by omega)=z:=by
         have q:=HZ.out.1
         rw [List.getElem?_eq_getElem (by omega)] at q
         injection q
        rw [hgy'] at hngy
        rw [hgz'] at hngz
        have hbD:Below w20.heap.size w20 w30.drew:=H30.out.2.1.drew
        have HN30:Hid (NG (fun b=>(((S b/\b<w.heap.size)\/w.heap.size+2<=b)/\b≠g)/\b<w20.heap.size) w30.drew d z (.agg #[.bool lfz,.slice kaz knz kcz,.slice caz cnz ccz])/\NG (fun b=>(((S b/\b<w.heap.size)\/w.heap.size+2<=b)/\b≠g)/\b<w20.heap.size) w30.drew d y (.agg #[.bool lfq,.slice kaq knq kcq,.slice caq cnq ccq])):=⟨NG.keep hngz hbD.size (fun b hs hl=>⟨⟨hs,hl⟩,hbD.block b hl⟩),NG.keep hngy hbD.size (fun b hs hl=>⟨⟨hs,hl⟩,hbD.block b hl⟩)⟩
        have HKeep:Hid (∀w',Below w20.heap.size w20 w'->w'.cell? ⟨g,(i-1)*3,none⟩=some (.bool lfz)/\w'.cell? ⟨g,(i-1)*3+1,none⟩=some (.slice kaz knz kcz)/\w'.cell? ⟨g,(i-1)*3+2,none⟩=some (.slice caz cnz ccz)/\w'.cell? ⟨g,i*3,none⟩=some (.bool lfq)/\w'.cell? ⟨g,i*3+1,none⟩=some (.slice kaq knq kcq)/\w'.cell? ⟨g,i*3+2,none⟩=some (.slice caq cnq ccq)):=by
         intro w' hb'
         exact ⟨(hb'.cell (p:=⟨g,_,none⟩) hglW.2).trans z0,(hb'.cell (p:=⟨g,_,none⟩) hglW.2).trans z1,(hb'.cell (p:=⟨g,_,none⟩) hglW.2).trans z2,(hb'.cell (p:=⟨g,_,none⟩) hglW.2).trans y0,(hb'.cell (p:=⟨g,_,none⟩) hglW.2).trans y1,(hb'.cell (p:=⟨g,_,none⟩) hglW.2).trans y2⟩
        have hwi:IntKind.i64.wrap ((i:Int)-1)=((i-1:Nat):Int):=wrap_pred i hi0 (by omega)
        have i0m:(0:Int)<=((i-1:Nat):Int):=by omega
        have i1m:((i-1:Nat):Int)<(n:Int):=by omega
        have HJ:Hid (Calls Tryz.prog 123 #[.agg #[.bool lfz,.slice kaz knz kcz,.slice caz cnz ccz],.agg #[.bool lfq,.slice kaq knq kcq,.slice caq cnq ccq]] w30.drew (RetG3 (fun b=>(((S b/\b<w.heap.size)\/w.heap.size+2<=b)/\b≠g)/\b<w20.heap.size) w30.drew d (joinD z y))):=joinD_any HN30.out.1 HN30.out.2 (BalU.of HZ.out.2) HBy.out.1
        have HBD:Hid (Below w20.heap.size w20 w30.drew):=hbD
        have HO30:Hid (w30.drew.ownsRow w20.heap.size 91 3 (.slice a30 (i-1) c30) (i-1) (xs5.take ((i-1)*3))/\w20.heap.size<=w30.drew.heap.size):=⟨own_below H30.out.1 (Below.refl _ _).drew,H30.out.2.2⟩
        clear hngy hngz hgy' hgz' hbD z0 z1 z2 y0 y1 y2
        go_wp2_with fail
        generalize hR:w30.drew=R at HN30 HJ HO30 HBD
        refine wp_region_late (S:=fun w'=>w'.cell? ⟨g,(i-1)*3,none⟩=some (.bool lfz)/\w'.cell? ⟨g,(i-1)*3+1,none⟩=some (.slice kaz knz kcz)/\w'.cell? ⟨g,(i-1)*3+2,none⟩=some (.slice caz cnz ccz)/\w'.cell? ⟨g,i*3,none⟩=some (.bool lfq)/\w'.cell? ⟨g,i*3+1,none⟩=some (.slice kaq knq kcq)/\w'.cell? ⟨g,i*3+2,none⟩=some (.slice caq cnq ccq)) 13 (by kernel_rfl) ?_ (fun hHeld=>?_)
        ·(rw [hR];exact HKeep.out _ HBD.out)
        rw [hR] at hHeld ⊢

        refine tk 0 .zero (v:=?_) ?_ ?_
        rotate_left
        ·(intro w h;(try dsimp only at h);go_simp) <;> with_reducible rfl
        simp only [tkp]
        refine tk 1 (.succ .zero) (v:=?_) ?_ ?_
        rotate_left
        ·(intro w h;(try dsimp only at h);go_simp) <;> with_reducible rfl
        simp only [tkp]
        refine tk 2 (.succ (.succ .zero)) (v:=?_) ?_ ?_
        rotate_left
        ·(intro w h;(try dsimp only at h);go_simp) <;> with_reducible rfl
        simp only [tkp]
        refine tk 3 (.succ (.succ (.succ .zero))) (v:=?_) ?_ ?_
        rotate_left
        ·(intro w h;(try dsimp only at h);go_simp) <;> with_reducible rfl
        simp only [tkp]
        refine tk 4 (.succ (.succ (.succ (.succ .zero)))) (v:=?_) ?_ ?_
        rotate_left
        ·(intro w h;(try dsimp only at h);go_simp) <;> with_reducible rfl
        simp only [tkp]
        refine tk 5 (.s5 .zero) (v:=?_) ?_ ?_
        rotate_left
        ·(intro w h;(try dsimp only at h);go_simp) <;> with_reducible rfl
        simp only [tkp]
        refine tk 6 (.s5 (.succ .zero)) (v:=?_) ?_ ?_
        rotate_left
        ·(intro w h;(try dsimp only at h);go_simp) <;> with_reducible rfl
        simp only [tkp]
        refine tk 7 (.s5 (.succ (.succ .zero))) (v:=?_) ?_ ?_
        rotate_left
        ·(intro w h;(try dsimp only at h);go_simp) <;> with_reducible rfl
        simp only [tkp]
        refine tk 8 (.s5 (.succ (.succ (.succ .zero)))) (v:=?_) ?_ ?_
        rotate_left
        ·(intro w h;(try dsimp only at h);go_simp) <;> with_reducible rfl
        simp only [tkp]
        refine tk 9 (.s5 (.succ (.succ (.succ (.succ .zero))))) (v:=?_) ?_ ?_
        rotate_left
        ·(intro w h;(try dsimp only at h);go_simp) <;> with_reducible rfl
        simp only [tkp]
        refine tk1 10 (.s5 (.s5 .zero)) (fun K hK=>?_)
        refine step_t2 (by rfl) 123 171 175 _ (by rfl) (.agg #[.bool lfz,.slice kaz knz kcz,.slice caz cnz ccz]) (.agg #[.bool lfq,.slice kaq knq kcq,.slice caq cnq ccq]) (by rfl) (by rfl) (fun _ _=>by rfl) ?_
        (with_reducible refine HJ.out.mono ?_)
        rintro e w31 ⟨hb31,lfj,kaj,knj,kcj,caj,cnj,ccj,rfl,hgj⟩
        refine ⟨_,rfl,?_⟩
        have HB31:Hid (Below R.heap.size R w31/\NG (fun b=>((((S b/\b<w.heap.size)\/w.heap.size+2<=b)/\b≠g)/\b<w20.heap.size)\/R.heap.size<=b) w31 d (joinD z y) (.agg #[.bool lfj,.slice kaj knj kcj,.slice caj cnj ccj])):=⟨hb31,hgj⟩
        clear hgj hb31 HJ
        refine hK.out _ _ ?_ (fun hG=>?_)
        ·(intro _;exact HKeep.out _ (HBD.out.trans (HB31.out.1.mono HBD.out.size)))
        clear hK K
        replace hHeld:=hG (by decide)
        clear hG
        try simp only [tkp]
        refine tk1 11 (.s5 (.s5 (.succ .zero))) (fun K hK=>?_)
        go_simp
        refine hK.out _ _ ?_ (fun hG=>?_)
        ·(intro _;exact HKeep.out _ ((HBD.out.trans (HB31.out.1.mono HBD.out.size)).alloc (HBD.out.trans (HB31.out.1.mono HBD.out.size)).size _))
        clear hK K
        replace hHeld:=hG (by decide)
        clear hG
        try simp only [tkp]
        refine tk1 12 (.s5 (.s5 (.succ (.succ .zero)))) (fun K hK=>?_)
        refine step_app_kid1 (by rfl) (.tmp 166) (.tmp 177) (by rfl) w20.heap.size (.slice a30 (i-1) c30) (i-1) _ (by rfl) (own_below (own_below HO30.out.1 HB31.out.1) (below_alloc _ _)) w31.heap.size 1 (.bool lfj) (.slice kaj knj kcj) (.slice caj cnj ccj) (by rfl) (fun j u hj=>by rw [(Bx.new w31 #[.bool lfj,.slice kaj knj kcj,.slice caj cnj ccj] 91).cell j];simpa using hj) (by intro u hu;simp at hu;rcases hu with rfl|rfl|rfl <;> rfl) (by omega) (by have:=HB31.out.1.size;have:=HO30.out.2;simp;omega) ?_
        intro v32 w32 ho32 hg32 hat32
        have ei:i-1+1=i:=Nat.sub_add_cancel hi0
        rw [ei] at ho32
        obtain ⟨a32,c32,e32,hf32⟩:=own_form ho32
        subst e32
        have hcap32:=own_cap ho32
        obtain ⟨g32,e32,hg321,hg322,_⟩:=hf32 (by omega)
        subst e32
        have hbW31:Below w20.heap.size w20 w31:=HBD.out.trans (HB31.out.1.mono HBD.out.size)
        have hlt30:=own_lt HO30.out.1
        have hbW32:Below w20.heap.size w20 w32:=(hbW31.alloc hbW31.size _).grown hg32 (by rw [World.size_alloc];exact Nat.le_succ_of_le hbW31.size) (fun g e=>(hlt30 g e).1)
        have hz32:w31.heap.size+1<=w32.heap.size:=by have:=hg32.size;simpa using this
        have H32:Hid (w32.ownsRow w20.heap.size 91 3 (.slice (some ⟨g32,0,none⟩) i c32) i (xs5.take ((i-1)*3)++[.bool lfj,.slice kaj knj kcj,.slice caj cnj ccj])/\Below w20.heap.size w20 w32/\NG (fun b=>(((((S b/\b<w.heap.size)\/w.heap.size+2<=b)/\b≠g)/\b<w20.heap.size)\/R.heap.size<=b)/\b≠g32) w32 d (joinD z y) (.agg #[.bool lfj,.slice kaj knj kcj,.slice caj cnj ccj])/\w20.heap.size<=R.heap.size):=by
         have hR0:=HO30.out.2
         refine ⟨ho32,hbW32,NG.keep HB31.out.2 (by omega) (fun b hs hl=>?_),hR0⟩
         have hne:(Value.slice a30 (i-1) c30).ownBlock≠some b:=fun e=>by
          have q:=hlt30 b e
          rcases hs with hs|hs <;> omega
         refine ⟨⟨hs,fun e=>?_⟩,(hg32.block b (by simp;omega) (fun e=>hne e.symm)).trans ((below_alloc w31 _).block b hl)⟩
         rcases hat32 with h|h
         ·exact hne (by rw [<- h,e];rfl)
         ·have h' : some g32=some (w31.alloc (.cells #[.bool lfj,.slice kaj knj kcj,.slice caj cnj ccj] 91)).heap.size:=h
          injection h' with h'
          simp at h'
          omega
        have HLt32:Hid (w20.heap.size<=g32/\g32<w32.heap.size):=⟨hg321,hg322⟩
        clear ho32 hg32 hat32 hbW31 hlt30 hf32
        refine hK.out _ _ ?_ (fun hG=>?_)
        ·(intro _;exact HKeep.out _ hbW32)
        clear hK K
        replace hHeld:=hG (by decide)
        clear hG
        try simp only [tkp]
        refine tk1 13 (.s5 (.s5 (.succ (.succ (.succ .zero))))) (fun K hK=>?_)
        go_simp
        refine hK.out _ _ ?_ (fun hG=>?_)
        ·(intro hne;exact absurd rfl hne)
        clear hK K hG
        refine wpLate_done (by kernel_rfl) ?_ _
        clear hHeld hR
        obtain ⟨oo,hoo,hoo2⟩:=shZ_form 3 g 0 (i+1) c3 n hcap3.1 hin
        have hsl2:∀W:World,(Instr.sliceAt 89 (.slice (some ⟨g,0,none⟩) n c3) (some (.int .i64 ((i:Int)+1))) none none).run Tryz.prog W=.ok (.slice (some ⟨g,oo,none⟩) (n-(i+1)) (c3-(i+1))) W:=fun W=>by
         have:=fromK g 0 n c3 (i+1) hin hcap3.1 W
         rw [hoo] at this
         simpa using this
        have HY3:Hid ((xs5.drop ((i+1)*3)).length=(n-(i+1))*3/\(∀j u,(xs5.drop ((i+1)*3))[j]?=some u->w32.cell? ⟨g,oo+j,none⟩=some u)/\KidL (fun t v=>NG (fun b=>((S b/\b<w.heap.size)\/w.heap.size+2<=b)/\b≠g) w20 d t v) (l5.drop (i+1)) (xs5.drop ((i+1)*3))):=by
         have hl3:(xs5.drop ((i+1)*3)).length=(n-(i+1))*3:=by rw [List.length_drop,HX5.out.1];omega
         refine ⟨hl3,fun j u hj=>?_,KidL.drop (i+1) HX5.out.2.2⟩
         have hj2:=(List.getElem?_eq_some_iff.1 hj).1
         rw [hl3] at hj2
         rw [List.getElem?_drop] at hj
         rw [hoo2 (by omega),Nat.zero_add]
         exact (hbW32.cell (p:=⟨g,_,none⟩) hglW.2).trans (HX5.out.2.1 _ u hj)
        have hzW:=hbW32.size
        clear hoo hoo2
        go_wp2_with (at_builtin;refine wpList_append_own_at _ rfl _ _ 89 rfl w20.heap.size 91 i0 _ 3 56 Tryz.underlying89 HI.out.1 HI.out.2.1 HI.out.2.2.1 HI.out.2.2.2 rfl (by decide) (.slice (some ⟨g32,0,none⟩) i c32) i _ rfl H32.out.1 ⟨g,oo,none⟩ (n-(i+1)) (c3-(i+1)) _ rfl HY3.out.1 (fun j u hj=>by rw [addr_add];exact HY3.out.2.1 j u hj) (HY3.out.2.2.cells NG.one) (by unfold maxLen;omega) (by omega) (by omega) ?_)
        intro v33 w33 ho33 hg33 _ hat33
        have e33:i+(n-(i+1))=n-1:=cut_len hin
        rw [e33] at ho33
        obtain ⟨a33,c33,e34,hf33⟩:=own_form ho33
        subst e34
        obtain ⟨g33,e34,hg331,hg332,_⟩:=hf33 (cut_ne b2)
        subst e34
        have HD33:Hid (DS S w w33 w20.heap.size d g33 (n-1) c33 (l5.take (i-1)++joinD z y::l5.drop (i+1))):=by
         have hlt32:=own_lt H32.out.1
         have hbW33:Below w20.heap.size w20 w33:=H32.out.2.1.grown hg33 hzW (fun g e=>(hlt32 g e).1)
         have hs:=HD20.out.sz
         have hg0:(Value.slice (some ⟨g32,0,none⟩) i c32).ownBlock=some g32:=rfl
         refine ⟨⟨_,ho33,?_⟩,HD20.out.bel.trans (hbW33.mono HD20.out.bel.size),HD20.out.box.below hbW33,by omega⟩
         have hold:∀t v,NG (fun b=>((S b/\b<w.heap.size)\/w.heap.size+2<=b)/\b≠g) w20 d t v->NG (fun b=>((S b/\b<w.heap.size)\/w.heap.size+2<=b)/\b≠g33) w33 d t v:=fun t v q=>NG.keep q hbW33.size (fun b hs hl=>⟨⟨hs.1,by omega⟩,hbW33.block b hl⟩)
         have hnew:NG (fun b=>((S b/\b<w.heap.size)\/w.heap.size+2<=b)/\b≠g33) w33 d (joinD z y) (.agg #[.bool lfj,.slice kaj knj kcj,.slice caj cnj ccj]):=by
          refine NG.keep H32.out.2.2.1 hg33.size (fun b hs' hl=>⟨⟨?_,fun e=>?_⟩,hg33.block b hl (fun e=>hs'.2 (by rw [hg0] at e;injection e with e))⟩)
          ·rcases hs'.1 with q|q
           ·exact q.1.1
           ·exact Or.inr (by have:=H32.out.2.2.2;omega)
          ·rcases hat33 with h|h
           ·have h' : some g33=some g32:=h
            injection h' with h'
            exact hs'.2 (by omega)
           ·have h' : some g33=some w32.heap.size:=h
            injection h' with h'
            omega
         exact KidL.cat (KidL.cat (HY3.out.2.2.mono hold) (ts:=[joinD z y]) (xs:=[.bool lfj,.slice kaj knj kcj,.slice caj cnj ccj]) ⟨hnew,trivial⟩) (HY.out.2.2.mono hold)
        clear ho33 hg33 hat33 hf33 H32 HY3 hsl2
        have r0:=HD33.out.box.cell 0
        have r1:=HD33.out.box.cell 1
        have r2:=HD33.out.box.cell 2
        simp at r0 r1 r2
        have hf:=fun i=>HD33.out.box.frozen i
        have hbl:=HD33.out.box.lt
        go_wp2
        refine bodyPost_ret (v:=.agg #[.bool false,.slice none 0 0,.slice (some ⟨g33,0,none⟩) (n-1) c33]) (by simp [results,Tryz.results88,go_sem,r0,r1,r2]) rfl ⟨_,HFin.out _ ?_,HD33.out.ret (Nat.sub_pos_of_lt b2)⟩
        have em:max i 1=i:=Nat.max_eq_left hi0
        rw [fixD_join (u:=z) (v:=y) HL5.out.2.1 HNy.out HNL.out HNR.out (by rw [em];exact HZ.out.1) (by rw [em];exact HL5.out.2.1),em]
      ·have hi1d:decide ((i:Int)+1<(n:Int))=false:=decide_eq_false (by omega)
       have hi1i:¬ (i:Int)+1<(n:Int):=by omega
       have HNR:Hid (¬ 2<sizO l5[i+1]?):=fun q=>by
        rw [List.getElem?_eq_none (by omega)] at q
        exact absurd q (by simp [sizO])
       have hie:¬ (i:Int)=0:=by omega
       have hien:¬ i=0:=by omega
       have hcut:i-1<=n:=by omega
       obtain ⟨xs5,HX5⟩:=HD7.out.kw.cells (by omega)
       have HO:Hid ((w7.alloc (.cells #[] 91)).ownsRow w7.heap.size 91 3 (.slice (some ⟨w7.heap.size,0,none⟩) 0 0) 0 []):=own_empty w7 91 w7.heap.size 3 (Nat.le_refl _)
       have hglW:=HD7.out.kw.lt
       have HY:Hid ((xs5.take ((i-1)*3)).length=(i-1)*3/\(∀j u,(xs5.take ((i-1)*3))[j]?=some u->(w7.alloc (.cells #[] 91)).cell? ⟨g,j,none⟩=some u)/\KidL (fun t v=>NG (fun b=>((S b/\b<w.heap.size)\/w.heap.size+2<=b)/\b≠g) w7 d t v) (l5.take (i-1)) (xs5.take ((i-1)*3))):=by
        refine ⟨by rw [List.length_take,HX5.out.1];omega,fun j u hj=>?_,KidL.take (i-1) HX5.out.2.2⟩
        rw [List.getElem?_take] at hj
        split at hj
        ·exact ((below_alloc w7 _).cell (p:=⟨g,j,none⟩) hglW.2).trans (HX5.out.2.1 j u hj)
        ·cases hj
       have hsl1:∀W:World,(Instr.sliceAt 89 (.slice (some ⟨g,0,none⟩) n c3) none (some (.int .i64 ((i-1:Nat):Int))) none).run Tryz.prog W=.ok (.slice (some ⟨g,0,none⟩) (i-1) c3) W:=fun W=>uptoK g 0 n c3 (i-1) hcut hcap3.1 W
       go_wp2_with (at_builtin;refine wpList_append_own_at _ rfl _ _ 89 rfl w7.heap.size 91 i0 _ 3 56 Tryz.underlying89 HI.out.1 HI.out.2.1 HI.out.2.2.1 HI.out.2.2.2 rfl (by decide) (.slice (some ⟨w7.heap.size,0,none⟩) 0 0) 0 [] rfl HO.out ⟨g,0,none⟩ (i-1) c3 _ rfl HY.out.1 (fun j u hj=>by rw [addr_add,Nat.zero_add];exact HY.out.2.1 j u hj) (HY.out.2.2.cells NG.one) (by unfold maxLen;omega) (by omega) (by simp) ?_)
       intro v30 w30 ho30 hg30 _ hat30
       obtain ⟨a30,c30,rfl,_⟩:=own_form ho30
       have hbW:Below w7.heap.size w7 w30:=(below_alloc _ _).grown hg30 (by simp) (fun g e=>by simp [Value.ownBlock] at e;omega)
       have HD30:Hid (DS S w w30 w2.heap.size d g n c3 l5):=HD7.out.below hbW
       have H30:Hid (w30.ownsRow w7.heap.size 91 3 (.slice a30 (i-1) c30) (i-1) (xs5.take ((i-1)*3))/\Below w7.heap.size w7 w30/\w7.heap.size<=w30.heap.size):=⟨ho30,hbW,hbW.size⟩
       clear ho30 hg30 hat30 hbW HO hsl1
       obtain ⟨lfq,kaq,knq,kcq,caq,cnq,ccq,y0,y1,y2,hngy⟩:=kid_at (K:=KS (fun b=>((S b/\b<w.heap.size)\/w.heap.size+2<=b)/\b≠g) w7) (S:=fun b=>((S b/\b<w.heap.size)\/w.heap.size+2<=b)/\b≠g) HX5.out.2.1 HX5.out.2.2 i (by omega)
       obtain ⟨lfz,kaz,knz,kcz,caz,cnz,ccz,z0,z1,z2,hngz⟩:=kid_at (K:=KS (fun b=>((S b/\b<w.heap.size)\/w.heap.size+2<=b)/\b≠g) w7) (S:=fun b=>((S b/\b<w.heap.size)\/w.heap.size+2<=b)/\b≠g) HX5.out.2.1 HX5.out.2.2 (i-1) (by omega)
       have hgy' : l5[i]'(by omega)=y:=by
        have q:=HL5.out.2.1
        rw [List.getElem?_eq_getElem (by omega)] at q
        injection q
       have hgz' : l5[i-1]'(by omega)=z:=by
        have q:=HZ.out.1
        rw [List.getElem?_eq_getElem (by omega)] at q
        injection q
       rw [hgy'] at hngy
       rw [hgz'] at hngz
       have hbD:Below w7.heap.size w7 w30.drew:=H30.out.2.1.drew
       have HN30:Hid (NG (fun b=>(((S b/\b<w.heap.size)\/w.heap.size+2<=b)/\b≠g)/\b<w7.heap.size) w30.drew d z (.agg #[.bool lfz,.slice kaz knz kcz,.slice caz cnz ccz])/\NG (fun b=>(((S b/\b<w.heap.size)\/w.heap.size+2<=b)/\b≠g)/\b<w7.heap.size) w30.drew d y (.agg #[.bool lfq,.slice kaq knq kcq,.slice caq cnq ccq])):=⟨NG.keep hngz hbD.size (fun b hs hl=>⟨⟨hs,hl⟩,hbD.block b hl⟩),NG.keep hngy hbD.size (fun b hs hl=>⟨⟨hs,hl⟩,hbD.block b hl⟩)⟩
       have HKeep:Hid (∀w',Below w7.heap.size w7 w'->w'.cell? ⟨g,(i-1)*3,none⟩=some (.bool lfz)/\w'.cell? ⟨g,(i-1)*3+1,none⟩=some (.slice kaz knz kcz)/\w'.cell? ⟨g,(i-1)*3+2,none⟩=some (.slice caz cnz ccz)/\w'.cell? ⟨g,i*3,none⟩=some (.bool lfq)/\w'.cell? ⟨g,i*3+1,none⟩=some (.slice kaq knq kcq)/\w'.cell? ⟨g,i*3+2,none⟩=some (.slice caq cnq ccq)):=by
        intro w' hb'
        exact ⟨(hb'.cell (p:=⟨g,_,none⟩) hglW.2).trans z0,(hb'.cell (p:=⟨g,_,none⟩) hglW.2).trans z1,(hb'.cell (p:=⟨g,_,none⟩) hglW.2).trans z2,(hb'.cell (p:=⟨g,_,none⟩) hglW.2).trans y0,(hb'.cell (p:=⟨g,_,none⟩) hglW.2).trans y1,(hb'.cell (p:=⟨g,_,none⟩) hglW.2).trans y2⟩
       have hwi:IntKind.i64.wrap ((i:Int)-1)=((i-1:Nat):Int):=wrap_pred i hi0 (by omega)
       have i0m:(0:Int)<=((i-1:Nat):Int):=by omega
       have i1m:((i-1:Nat):Int)<(n:Int):=by omega
       have HJ:Hid (Calls Tryz.prog 123 #[.agg #[.bool lfz,.slice kaz knz kcz,.slice caz cnz ccz],.agg #[.bool lfq,.slice kaq knq kcq,.slice caq cnq ccq]] w30.drew (RetG3 (fun b=>(((S b/\b<w.heap.size)\/w.heap.size+2<=b)/\b≠g)/\b<w7.heap.size) w30.drew d (joinD z y))):=joinD_any HN30.out.1 HN30.out.2 (BalU.of HZ.out.2) HBy.out.1
       have HBD:Hid (Below w7.heap.size w7 w30.drew):=hbD
       have HO30:Hid (w30.drew.ownsRow w7.heap.size 91 3 (.slice a30 (i-1) c30) (i-1) (xs5.take ((i-1)*3))/\w7.heap.size<=w30.drew.heap.size):=⟨own_below H30.out.1 (Below.refl _ _).drew,H30.out.2.2⟩
       clear hngy hngz hgy' hgz' hbD z0 z1 z2 y0 y1 y2
       go_wp2_with fail
       generalize hR:w30.drew=R at HN30 HJ HO30 HBD
       refine wp_region_late (S:=fun w'=>w'.cell? ⟨g,(i-1)*3,none⟩=some (.bool lfz)/\w'.cell? ⟨g,(i-1)*3+1,none⟩=some (.slice kaz knz kcz)/\w'.cell? ⟨g,(i-1)*3+2,none⟩=some (.slice caz cnz ccz)/\w'.cell? ⟨g,i*3,none⟩=some (.bool lfq)/\w'.cell? ⟨g,i*3+1,none⟩=some (.slice kaq knq kcq)/\w'.cell? ⟨g,i*3+2,none⟩=some (.slice caq cnq ccq)) 13 (by kernel_rfl) ?_ (fun hHeld=>?_)
       ·(rw [hR];exact HKeep.out _ HBD.out)
       rw [hR] at hHeld ⊢

       refine tk 0 .zero (v:=?_) ?_ ?_
       rotate_left
       ·(intro w h;(try dsimp only at h);go_simp) <;> with_reducible rfl
       simp only [tkp]
       refine tk 1 (.succ .zero) (v:=?_) ?_ ?_
       rotate_left
       ·(intro w h;(try dsimp only at h);go_simp) <;> with_reducible rfl
       simp only [tkp]
       refine tk 2 (.succ (.succ .zero)) (v:=?_) ?_ ?_
       rotate_left
       ·(intro w h;(try dsimp only at h);go_simp) <;> with_reducible rfl
       simp only [tkp]
       refine tk 3 (.succ (.succ (.succ .zero))) (v:=?_) ?_ ?_
       rotate_left
       ·(intro w h;(try dsimp only at h);go_simp) <;> with_reducible rfl
       simp only [tkp]
       refine tk 4 (.succ (.succ (.succ (.succ .zero)))) (v:=?_) ?_ ?_
       rotate_left
       ·(intro w h;(try dsimp only at h);go_simp) <;> with_reducible rfl
       simp only [tkp]
       refine tk 5 (.s5 .zero) (v:=?_) ?_ ?_
       rotate_left
       ·(intro w h;(try dsimp only at h);go_simp) <;> with_reducible rfl
       simp only [tkp]
       refine tk 6 (.s5 (.succ .zero)) (v:=?_) ?_ ?_
       rotate_left
       ·(intro w h;(try dsimp only at h);go_simp) <;> with_reducible rfl
       simp only [tkp]
       refine tk 7 (.s5 (.succ (.succ .zero))) (v:=?_) ?_ ?_
       rotate_left
       ·(intro w h;(try dsimp only at h);go_simp) <;> with_reducible rfl
       simp only [tkp]
       refine tk 8 (.s5 (.succ (.succ (.succ .zero)))) (v:=?_) ?_ ?_
       rotate_left
       ·(intro w h;(try dsimp only at h);go_simp) <;> with_reducible rfl
       simp only [tkp]
       refine tk 9 (.s5 (.succ (.succ (.succ (.succ .zero))))) (v:=?_) ?_ ?_
       rotate_left
       ·(intro w h;(try dsimp only at h);go_simp) <;> with_reducible rfl
       simp only [tkp]
       refine tk1 10 (.s5 (.s5 .zero)) (fun K hK=>?_)
       refine step_t2 (by rfl) 123 171 175 _ (by rfl) (.agg #[.bool lfz,.slice kaz knz kcz,.slice caz cnz ccz]) (.agg #[.bool lfq,.slice kaq knq kcq,.slice caq cnq ccq]) (by rfl) (by rfl) (fun _ _=>by rfl) ?_
       (with_reducible refine HJ.out.mono ?_)
       rintro e w31 ⟨hb31,lfj,kaj,knj,kcj,caj,cnj,ccj,rfl,hgj⟩
       refine ⟨_,rfl,?_⟩
       have HB31:Hid (Below R.heap.size R w31/\NG (fun b=>((((S b/\b<w.heap.size)\/w.heap.size+2<=b)/\b≠g)/\b<w7.heap.size)\/R.heap.size<=b) w31 d (joinD z y) (.agg #[.bool lfj,.slice kaj knj kcj,.slice caj cnj ccj])):=⟨hb31,hgj⟩
       clear hgj hb31 HJ
       refine hK.out _ _ ?_ (fun hG=>?_)
       ·(intro _;exact HKeep.out _ (HBD.out.trans (HB31.out.1.mono HBD.out.size)))
       clear hK K
       replace hHeld:=hG (by decide)
       clear hG
       try simp only [tkp]
       refine tk1 11 (.s5 (.s5 (.succ .zero))) (fun K hK=>?_)
       go_simp
       refine hK.out _ _ ?_ (fun hG=>?_)
       ·(intro _;exact HKeep.out _ ((HBD.out.trans (HB31.out.1.mono HBD.out.size)).alloc (HBD.out.trans (HB31.out.1.mono HBD.out.size)).size _))
       clear hK K
       replace hHeld:=hG (by decide)
       clear hG
       try simp only [tkp]
       refine tk1 12 (.s5 (.s5 (.succ (.succ .zero)))) (fun K hK=>?_)
       refine step_app_kid1 (by rfl) (.tmp 166) (.tmp 177) (by rfl) w7.heap.size (.slice a30 (i-1) c30) (i-1) _ (by rfl) (own_below (own_below HO30.out.1 HB31.out.1) (below_alloc _ _)) w31.heap.size 1 (.bool lfj) (.slice kaj knj kcj) (.slice caj cnj ccj) (by rfl) (fun j u hj=>by rw [(Bx.new w31 #[.bool lfj,.slice kaj knj kcj,.slice caj cnj ccj] 91).cell j];simpa using hj) (by intro u hu;simp at hu;rcases hu with rfl|rfl|rfl <;> rfl) (by omega) (by have:=HB31.out.1.size;have:=HO30.out.2;simp;omega) ?_
       intro v32 w32 ho32 hg32 hat32
       have ei:i-1+1=i:=Nat.sub_add_cancel hi0
       rw [ei] at ho32
       obtain ⟨a32,c32,e32,hf32⟩:=own_form ho32
       subst e32
       have hcap32:=own_cap ho32
       obtain ⟨g32,e32,hg321,hg322,_⟩:=hf32 (by omega)
       subst e32
       have hbW31:Below w7.heap.size w7 w31:=HBD.out.trans (HB31.out.1.mono HBD.out.size)
       have hlt30:=own_lt HO30.out.1
       have hbW32:Below w7.heap.size w7 w32:=(hbW31.alloc hbW31.size _).grown hg32 (by rw [World.size_alloc];exact Nat.le_succ_of_le hbW31.size) (fun g e=>(hlt30 g e).1)
       have hz32:w31.heap.size+1<=w32.heap.size:=by have:=hg32.size;simpa using this
       have H32:Hid (w32.ownsRow w7.heap.size 91 3 (.slice (some ⟨g32,0,none⟩) i c32) i (xs5.take ((i-1)*3)++[.bool lfj,.slice kaj knj kcj,.slice caj cnj ccj])/\Below w7.heap.size w7 w32/\NG (fun b=>(((((S b/\b<w.heap.size)\/w.heap.size+2<=b)/\b≠g)/\b<w7.heap.size)\/R.heap.size<=b)/\b≠g32) w32 d (joinD z y) (.agg #[.bool lfj,.slice kaj knj kcj,.slice caj cnj ccj])/\w7.heap.size<=R.heap.size):=by
        have hR0:=HO30.out.2
        refine ⟨ho32,hbW32,NG.keep HB31.out.2 (by omega) (fun b hs hl=>?_),hR0⟩
        have hne:(Value.slice a30 (i-1) c30).ownBlock≠some b:=fun e=>by
         have q:=hlt30 b e
         rcases hs with hs|hs <;> omega
        refine ⟨⟨hs,fun e=>?_⟩,(hg32.block b (by simp;omega) (fun e=>hne e.symm)).trans ((below_alloc w31 _).block b hl)⟩
        rcases hat32 with h|h
        ·exact hne (by rw [<- h,e];rfl)
        ·have h' : some g32=some (w31.alloc (.cells #[.bool lfj,.slice kaj knj kcj,.slice caj cnj ccj] 91)).heap.size:=h
         injection h' with h'
         simp at h'
         omega
       have HLt32:Hid (w7.heap.size<=g32/\g32<w32.heap.size):=⟨hg321,hg322⟩
       clear ho32 hg32 hat32 hbW31 hlt30 hf32
       refine hK.out _ _ ?_ (fun hG=>?_)
       ·(intro _;exact HKeep.out _ hbW32)
       clear hK K
       replace hHeld:=hG (by decide)
       clear hG
       try simp only [tkp]
       refine tk1 13 (.s5 (.s5 (.succ (.succ (.succ .zero))))) (fun K hK=>?_)
       go_simp
       refine hK.out _ _ ?_ (fun hG=>?_)
       ·(intro hne;exact absurd rfl hne)
       clear hK K hG
       refine wpLate_done (by kernel_rfl) ?_ _
       clear hHeld hR
       obtain ⟨oo,hoo,hoo2⟩:=shZ_form 3 g 0 (i+1) c3 n hcap3.1 hin
       have hsl2:∀W:World,(Instr.sliceAt 89 (.slice (some ⟨g,0,none⟩) n c3) (some (.int .i64 ((i:Int)+1))) none none).run Tryz.prog W=.ok (.slice (some ⟨g,oo,none⟩) (n-(i+1)) (c3-(i+1))) W:=fun W=>by
        have:=fromK g 0 n c3 (i+1) hin hcap3.1 W
        rw [hoo] at this
        simpa using this
       have HY3:Hid ((xs5.drop ((i+1)*3)).length=(n-(i+1))*3/\(∀j u,(xs5.drop ((i+1)*3))[j]?=some u->w32.cell? ⟨g,oo+j,none⟩=some u)/\KidL (fun t v=>NG (fun b=>((S b/\b<w.heap.size)\/w.heap.size+2<=b)/\b≠g) w7 d t v) (l5.drop (i+1)) (xs5.drop ((i+1)*3))):=by
        have hl3:(xs5.drop ((i+1)*3)).length=(n-(i+1))*3:=by rw [List.length_drop,HX5.out.1];omega
        refine ⟨hl3,fun j u hj=>?_,KidL.drop (i+1) HX5.out.2.2⟩
        have hj2:=(List.getElem?_eq_some_iff.1 hj).1
        rw [hl3] at hj2
        rw [List.getElem?_drop] at hj
        rw [hoo2 (by omega),Nat.zero_add]
        exact (hbW32.cell (p:=⟨g,_,none⟩) hglW.2).trans (HX5.out.2.1 _ u hj)
       have hzW:=hbW32.size
       clear hoo hoo2
       go_wp2_with (at_builtin;refine wpList_append_own_at _ rfl _ _ 89 rfl w7.heap.size 91 i0 _ 3 56 Tryz.underlying89 HI.out.1 HI.out.2.1 HI.out.2.2.1 HI.out.2.2.2 rfl (by decide) (.slice (some ⟨g32,0,none⟩) i c32) i _ rfl H32.out.1 ⟨g,oo,none⟩ (n-(i+1)) (c3-(i+1)) _ rfl HY3.out.1 (fun j u hj=>by rw [addr_add];exact HY3.out.2.1 j u hj) (HY3.out.2.2.cells NG.one) (by unfold maxLen;omega) (by omega) (by omega) ?_)
       intro v33 w33 ho33 hg33 _ hat33
       have e33:i+(n-(i+1))=n-1:=cut_len hin
       rw [e33] at ho33
       obtain ⟨a33,c33,e34,hf33⟩:=own_form ho33
       subst e34
       obtain ⟨g33,e34,hg331,hg332,_⟩:=hf33 (cut_ne b2)
       subst e34
       have HD33:Hid (DS S w w33 w7.heap.size d g33 (n-1) c33 (l5.take (i-1)++joinD z y::l5.drop (i+1))):=by
        have hlt32:=own_lt H32.out.1
        have hbW33:Below w7.heap.size w7 w33:=H32.out.2.1.grown hg33 hzW (fun g e=>(hlt32 g e).1)
        have hs:=HD7.out.sz
        have hg0:(Value.slice (some ⟨g32,0,none⟩) i c32).ownBlock=some g32:=rfl
        refine ⟨⟨_,ho33,?_⟩,HD7.out.bel.trans (hbW33.mono HD7.out.bel.size),HD7.out.box.below hbW33,by omega⟩
        have hold:∀t v,NG (fun b=>((S b/\b<w.heap.size)\/w.heap.size+2<=b)/\b≠g) w7 d t v->NG (fun b=>((S b/\b<w.heap.size)\/w.heap.size+2<=b)/\b≠g33) w33 d t v:=fun t v q=>NG.keep q hbW33.size (fun b hs hl=>⟨⟨hs.1,by omega⟩,hbW33.block b hl⟩)
        have hnew:NG (fun b=>((S b/\b<w.heap.size)\/w.heap.size+2<=b)/\b≠g33) w33 d (joinD z y) (.agg #[.bool lfj,.slice kaj knj kcj,.slice caj cnj ccj]):=by
         refine NG.keep H32.out.2.2.1 hg33.size (fun b hs' hl=>⟨⟨?_,fun e=>?_⟩,hg33.block b hl (fun e=>hs'.2 (by rw [hg0] at e;injection e with e))⟩)
         ·rcases hs'.1 with q|q
          ·exact q.1.1
          ·exact Or.inr (by have:=H32.out.2.2.2;omega)
         ·rcases hat33 with h|h
          ·have h' : some g33=some g32:=h
           injection h' with h'
           exact hs'.2 (by omega)
          ·have h' : some g33=some w32.heap.size:=h
           injection h' with h'
           omega
        exact KidL.cat (KidL.cat (HY3.out.2.2.mono hold) (ts:=[joinD z y]) (xs:=[.bool lfj,.slice kaj knj kcj,.slice caj cnj ccj]) ⟨hnew,trivial⟩) (HY.out.2.2.mono hold)
       clear ho33 hg33 hat33 hf33 H32 HY3 hsl2
       have r0:=HD33.out.box.cell 0
       have r1:=HD33.out.box.cell 1
       have r2:=HD33.out.box.cell 2
       simp at r0 r1 r2
       have hf:=fun i=>HD33.out.box.frozen i
       have hbl:=HD33.out.box.lt
       go_wp2
       refine bodyPost_ret (v:=.agg #[.bool false,.slice none 0 0,.slice (some ⟨g33,0,none⟩) (n-1) c33]) (by simp [results,Tryz.results88,go_sem,r0,r1,r2]) rfl ⟨_,HFin.out _ ?_,HD33.out.ret (Nat.sub_pos_of_lt b2)⟩
       have em:max i 1=i:=Nat.max_eq_left hi0
       rw [fixD_join (u:=z) (v:=y) HL5.out.2.1 HNy.out HNL.out HNR.out (by rw [em];exact HZ.out.1) (by rw [em];exact HL5.out.2.1),em]
    ·have hi0d:decide ((0:Int)<(i:Int))=false:=decide_eq_false (by omega)
     have hi0i:¬ (0:Int)<(i:Int):=by omega
     have HNL:Hid (¬ (0<i/\2<sizO l5[i-1]?)):=fun q=>hi0 q.1
     clear r0 r1 r2 hf hbl
     by_cases hi1:i+1<n
     ·have hi1d:decide ((i:Int)+1<(n:Int))=true:=decide_eq_true (by omega)
      have hi1i:(i:Int)+1<(n:Int):=by omega
      obtain ⟨lfx,kax,knx,kcx,cax,cnx,ccx,z0,z1,z2,hngx⟩:=HD6.out.kw.get (i+1) (by omega)
      have hgx:l5[i+1]?=some (l5[i+1]'(by omega)):=List.getElem?_eq_getElem (by omega)
      generalize l5[i+1]'(by omega)=x at hngx hgx
      have HX:Hid (l5[i+1]?=some x/\BalR d false x h'):=⟨hgx,HL5.out.2.2 (i+1) x hgx (by omega)⟩
      have HSx:Hid (∀W:World,Calls Tryz.prog 122 #[.agg #[.bool lfx,.slice kax knx kcx,.slice cax cnx ccx]] W fun e w'=>e=.returned (.int .i64 (sizD x:Int))/\Below W.heap.size W w'):=fun W=>sizeD_any hngx W
      obtain ⟨sx,hsx⟩:∃sx,sx=sizD x:=⟨_,rfl⟩
      have HSxE:Hid (sx=sizD x):=hsx
      have hsx4:sx<=4/\2<=sx:=by rw [hsx];exact ⟨(BalU.of HX.out.2).le,HX.out.2.siz⟩
      rw [<- hsx] at HSx
      clear hsx hngx hgx
      go_wp2_with fail
      (with_reducible refine (HSx.out _).mono ?_)
      rintro e w20 ⟨rfl,hb20⟩
      have HD20:Hid (DS S w w20 w2.heap.size d g n c3 l5):=HD6.out.below hb20
      have hgl:=HD6.out.kw.lt
      replace z0:=(hb20.cell (p:=⟨g,_,none⟩) hgl.2).trans z0
      replace z1:=(hb20.cell (p:=⟨g,_,none⟩) hgl.2).trans z1
      replace z2:=(hb20.cell (p:=⟨g,_,none⟩) hgl.2).trans z2
      clear hb20 HD6
      by_cases h4:2<sx
      ·have h4d:decide ((2:Int)<(sx:Int))=true:=decide_eq_true (by omega)
       have h4i:(2:Int)<(sx:Int):=by omega
       go_wp2_with fail
       (with_reducible refine (HSx.out _).mono ?_)
       rintro e w21 ⟨rfl,hb21⟩
       have HD21:Hid (DS S w w21 w2.heap.size d g n c3 l5):=HD20.out.below hb21
       replace z0:=(hb21.cell (p:=⟨g,_,none⟩) HD20.out.kw.lt.2).trans z0
       replace z1:=(hb21.cell (p:=⟨g,_,none⟩) HD20.out.kw.lt.2).trans z1
       replace z2:=(hb21.cell (p:=⟨g,_,none⟩) HD20.out.kw.lt.2).trans z2
       clear hb21 HD20 hgl
       obtain ⟨lfq,kaq,knq,kcq,caq,cnq,ccq,y0,y1,y2,hngy⟩:=HD21.out.kw.get i (by omega)
       have hgy' : l5[i]'(by omega)=y:=by
        have q:=HL5.out.2.1
        rw [List.getElem?_eq_getElem (by omega)] at q
        injection q
       rw [hgy'] at hngy
       obtain ⟨lfx',kax',knx',kcx',cax',cnx',ccx',x0,x1,x2,hngx⟩:=HD21.out.kw.get (i+1) (by omega)
       have hgx' : l5[i+1]'(by omega)=x:=by
        have q:=HX.out.1
        rw [List.getElem?_eq_getElem (by omega)] at q
        injection q
       rw [hgx'] at hngx
       rw [z0] at x0
       rw [z1] at x1
       rw [z2] at x2
       injection x0 with x0
       injection x0 with x0
       injection x1 with x1
       injection x1 with x1 x1' x1''
       injection x2 with x2
       injection x2 with x2 x2' x2''
       subst x0 x1 x1' x1'' x2 x2' x2''
       have hgl8:=HD21.out.kw.lt
       have HNG8:Hid (NG (fun b=>((S b/\b<w.heap.size)\/w.heap.size+2<=b)/\b≠g) w21.drew d x (.agg #[.bool lfx,.slice kax knx kcx,.slice cax cnx ccx])/\NG (fun b=>((S b/\b<w.heap.size)\/w.heap.size+2<=b)/\b≠g) w21.drew d y (.agg #[.bool lfq,.slice kaq knq kcq,.slice caq cnq ccq])/\DS S w w21.drew w2.heap.size d g n c3 l5):=⟨NG.below hngx (Below.refl _ _).drew,NG.below hngy (Below.refl _ _).drew,HD21.out.below (Below.refl _ _).drew⟩
       have HKeep:Hid (∀w',Below w21.drew.heap.size w21.drew w'->w'.cell? ⟨g,(i+1)*3,none⟩=some (.bool lfx)/\w'.cell? ⟨g,(i+1)*3+1,none⟩=some (.slice kax knx kcx)/\w'.cell? ⟨g,(i+1)*3+2,none⟩=some (.slice cax cnx ccx)/\w'.cell? ⟨g,i*3,none⟩=some (.bool lfq)/\w'.cell? ⟨g,i*3+1,none⟩=some (.slice kaq knq kcq)/\w'.cell? ⟨g,i*3+2,none⟩=some (.slice caq cnq ccq)):=by
        intro w' hb
        have hgl' : g<w21.drew.heap.size:=hgl8.2
        exact ⟨(hb.cell (p:=⟨g,_,none⟩) hgl').trans z0,(hb.cell (p:=⟨g,_,none⟩) hgl').trans z1,(hb.cell (p:=⟨g,_,none⟩) hgl').trans z2,(hb.cell (p:=⟨g,_,none⟩) hgl').trans y0,(hb.cell (p:=⟨g,_,none⟩) hgl').trans y1,(hb.cell (p:=⟨g,_,none⟩) hgl').trans y2⟩
       have hwi:IntKind.i64.wrap ((i:Int)+1)=((i+1:Nat):Int):=by rw [IntKind.wrap_i64];omega
       have i0m:(0:Int)<=((i+1:Nat):Int):=by omega
       have i0p:(0:Int)<=(i:Int)+1:=by omega
       have i1m:((i+1:Nat):Int)<(n:Int):=by omega
       have HP1:Hid (Calls Tryz.prog 124 #[.agg #[.bool lfx,.slice kax knx kcx,.slice cax cnx ccx],.int .i64 0,.int .i64 1] w21.drew (RetG3 (fun b=>((S b/\b<w.heap.size)\/w.heap.size+2<=b)/\b≠g) w21.drew d (cutD 0 1 x))):=partD_any HNG8.out.1 0 1 (by omega) (by rw [<- HSxE.out];omega) (by rw [<- HSxE.out];omega)
       clear hngy hngx hgx' hgy'
       go_wp2_with fail
       generalize hR:w21.drew=R at HNG8 HKeep HP1
       refine wp_region_late (S:=fun w'=>w'.cell? ⟨g,(i+1)*3,none⟩=some (.bool lfx)/\w'.cell? ⟨g,(i+1)*3+1,none⟩=some (.slice kax knx kcx)/\w'.cell? ⟨g,(i+1)*3+2,none⟩=some (.slice cax cnx ccx)/\w'.cell? ⟨g,i*3,none⟩=some (.bool lfq)/\w'.cell? ⟨g,i*3+1,none⟩=some (.slice kaq knq kcq)/\w'.cell? ⟨g,i*3+2,none⟩=some (.slice caq cnq ccq)) 14 (by kernel_rfl) ?_ (fun hHeld=>?_)
       ·(rw [hR];exact HKeep.out _ (Below.refl _ _))
       rw [hR] at hHeld ⊢
       clear hR z0 z1 z2 y0 y1 y2
       refine tk 0 .zero (v:=?_) ?_ ?_
       rotate_left
       ·(intro w h;(try dsimp only at h);go_simp) <;> with_reducible rfl
       simp only [tkp]
       refine tk 1 (.succ .zero) (v:=?_) ?_ ?_
       rotate_left
       ·(intro w h;(try dsimp only at h);go_simp) <;> with_reducible rfl
       simp only [tkp]
       refine tk 2 (.succ (.succ .zero)) (v:=?_) ?_ ?_
       rotate_left
       ·(intro w h;(try dsimp only at h);go_simp) <;> with_reducible rfl
       simp only [tkp]
       refine tk 3 (.succ (.succ (.succ .zero))) (v:=?_) ?_ ?_
       rotate_left
       ·(intro w h;(try dsimp only at h);go_simp) <;> with_reducible rfl
       simp only [tkp]
       refine tk 4 (.succ (.succ (.succ (.succ .zero)))) (v:=?_) ?_ ?_
       rotate_left
       ·(intro w h;(try dsimp only at h);go_simp) <;> with_reducible rfl
       simp only [tkp]
       refine tk 5 (.s5 .zero) (v:=?_) ?_ ?_
       rotate_left
       ·(intro w h;(try dsimp only at h);go_simp) <;> with_reducible rfl
       simp only [tkp]
       refine tk 6 (.s5 (.succ .zero)) (v:=?_) ?_ ?_
       rotate_left
       ·(intro w h;(try dsimp only at h);go_simp) <;> with_reducible rfl
       simp only [tkp]
       refine tk 7 (.s5 (.succ (.succ .zero))) (v:=?_) ?_ ?_
       rotate_left
       ·(intro w h;(try dsimp only at h);go_simp) <;> with_reducible rfl
       simp only [tkp]
       refine tk 8 (.s5 (.succ (.succ (.succ .zero)))) (v:=?_) ?_ ?_
       rotate_left
       ·(intro w h;(try dsimp only at h);go_simp) <;> with_reducible rfl
       simp only [tkp]
       refine tk 9 (.s5 (.succ (.succ (.succ (.succ .zero))))) (v:=?_) ?_ ?_
       rotate_left
       ·(intro w h;(try dsimp only at h);go_simp) <;> with_reducible rfl
       simp only [tkp]
       refine tk 10 (.s5 (.s5 .zero)) (v:=?_) ?_ ?_
       rotate_left
       ·(intro w h;(try dsimp only at h);go_simp) <;> with_reducible rfl
       simp only [tkp]
       refine tk1 11 (.s5 (.s5 (.succ .zero))) (fun K hK=>?_)
       refine step_tcc (by rfl) 124 141 (.int .i64 0) (.int .i64 1) _ (by rfl) (.agg #[.bool lfx,.slice kax knx kcx,.slice cax cnx ccx]) (by rfl) (fun _ _=>by rfl) ?_
       (with_reducible refine HP1.out.mono ?_)
       rintro e w9 ⟨hb9,lfp,kap,knp,kcp,cap,cnp,ccp,rfl,hgp⟩
       refine ⟨_,rfl,?_⟩
       have HB9:Hid (Below R.heap.size R w9/\NG (fun b=>((S b/\b<w.heap.size)\/w.heap.size+2<=b)/\b≠g) w9 d (cutD 0 1 x) (.agg #[.bool lfp,.slice kap knp kcp,.slice cap cnp ccp])):=⟨hb9,HNG8.out.2.2.new hb9 hgp⟩
       clear hgp hb9
       refine hK.out _ _ ?_ (fun hG=>?_)
       ·(intro _;exact HKeep.out _ HB9.out.1)
       clear hK K
       replace hHeld:=hG (by decide)
       clear hG
       try simp only [tkp]
       have HJ:Hid (Calls Tryz.prog 123 #[.agg #[.bool lfq,.slice kaq knq kcq,.slice caq cnq ccq],.agg #[.bool lfp,.slice kap knp kcp,.slice cap cnp ccp]] w9 (RetG3 (fun b=>((S b/\b<w.heap.size)\/w.heap.size+2<=b)/\b≠g) w9 d (joinD y (cutD 0 1 x)))):=joinD_any (NG.below HNG8.out.2.1 HB9.out.1) HB9.out.2 HBy.out.1 ((BalU.of HX.out.2).cut (lo:=0) (hi:=1) (by omega) (by rw [<- HSxE.out];omega)).1
       refine tk1 12 (.s5 (.s5 (.succ (.succ .zero)))) (fun K hK=>?_)
       refine step_t2 (by rfl) 123 136 142 _ (by rfl) (.agg #[.bool lfq,.slice kaq knq kcq,.slice caq cnq ccq]) (.agg #[.bool lfp,.slice kap knp kcp,.slice cap cnp ccp]) (by rfl) (by rfl) (fun _ _=>by rfl) ?_
       (with_reducible refine HJ.out.mono ?_)
       rintro e w10 ⟨hb10,lfj,kaj,knj,kcj,caj,cnj,ccj,rfl,hgj⟩
       refine ⟨_,rfl,?_⟩
       have HD9:Hid (DS S w w9 w2.heap.size d g n c3 l5):=HNG8.out.2.2.below HB9.out.1
       have HB10:Hid (Below R.heap.size R w10/\NG (fun b=>((S b/\b<w.heap.size)\/w.heap.size+2<=b)/\b≠g) w10 d (joinD y (cutD 0 1 x)) (.agg #[.bool lfj,.slice kaj knj kcj,.slice caj cnj ccj])/\DS S w w10 w2.heap.size d g n c3 l5):=⟨HB9.out.1.trans (hb10.mono HB9.out.1.size),HD9.out.new hb10 hgj,HD9.out.below hb10⟩
       clear hgj hb10 HD9 HJ
       refine hK.out _ _ ?_ (fun hG=>?_)
       ·(intro _;exact HKeep.out _ HB10.out.1)
       clear hK K
       replace hHeld:=hG (by decide)
       clear hG
       try simp only [tkp]
       refine tk1 13 (.s5 (.s5 (.succ (.succ (.succ .zero))))) (fun K hK=>?_)
       go_simp
       refine hK.out _ _ ?_ (fun hG=>?_)
       ·(intro _;exact hHeld)
       clear hK K
       replace hHeld:=hG (by decide)
       clear hG
       try simp only [tkp]
       obtain ⟨u0,u1,u2,u3,u4,u5⟩:=HKeep.out w10 HB10.out.1
       have gf:=fun j=>HB10.out.2.2.kw.frozen j
       refine late_one 14 (.s5 (.s5 (.succ (.succ (.succ (.succ .zero)))))) (by kernel_rfl) (fun K hK=>?_)
       go_simp
       refine hK.out _ _ ?_ (fun hG=>?_)
       ·(intro hne;exact absurd rfl hne)
       clear hK K hG
       refine wpLate_done (by kernel_rfl) ?_ _
       have HD11:Hid (DS S w (((w10.setCell ⟨g,i*3,none⟩ (.bool lfj)).setCell ⟨g,i*3+1,none⟩ (.slice kaj knj kcj)).setCell ⟨g,i*3+2,none⟩ (.slice caj cnj ccj)) w2.heap.size d g n c3 (l5.set i (joinD y (cutD 0 1 x)))):=HB10.out.2.2.put i (by omega) HB10.out.2.1
       clear u0 u1 u2 u3 u4 u5 gf hHeld HB10 HB9 HP1 HKeep HNG8 HD21
       generalize ((w10.setCell ⟨g,i*3,none⟩ (.bool lfj)).setCell ⟨g,i*3+1,none⟩ (.slice kaj knj kcj)).setCell ⟨g,i*3+2,none⟩ (.slice caj cnj ccj)=w11 at HD11 ⊢
       obtain ⟨lfr,kar,knr,kcr,car,cnr,ccr,z0,z1,z2,hngr⟩:=HD11.out.kw.get (i+1) (by rw [List.length_set];omega)
       have hgr:(l5.set i (joinD y (cutD 0 1 x)))[i+1]'(by rw [List.length_set];omega)=x:=by
        rw [List.getElem_set_ne (by omega)]
        have q:=HX.out.1
        rw [List.getElem?_eq_getElem (by omega)] at q
        injection q
       rw [hgr] at hngr
       have HP2:Hid (Calls Tryz.prog 124 #[.agg #[.bool lfr,.slice kar knr kcr,.slice car cnr ccr],.int .i64 1,.int .i64 (sx:Int)] w11 (RetG3 (fun b=>((S b/\b<w.heap.size)\/w.heap.size+2<=b)/\b≠g) w11 d (cutD 1 sx x))):=partD_any hngr 1 sx (by omega) (by rw [<- HSxE.out];exact Nat.le_refl _) (by rw [<- HSxE.out];omega)
       have hgl11:=HD11.out.kw.lt
       have gf:=fun j=>HD11.out.kw.frozen j
       clear hngr hgr
       go_wp2_with fail
       (with_reducible refine HP2.out.mono ?_)
       rintro e w12 ⟨hb12,lfs,kas,kns,kcs,cas,cns,ccs,rfl,hgs⟩
       have HD12:Hid (DS S w w12 w2.heap.size d g n c3 (l5.set i (joinD y (cutD 0 1 x)))):=HD11.out.below hb12
       have HG12:Hid (NG (fun b=>((S b/\b<w.heap.size)\/w.heap.size+2<=b)/\b≠g) w12 d (cutD 1 sx x) (.agg #[.bool lfs,.slice kas kns kcs,.slice cas cns ccs])):=HD11.out.new hb12 hgs
       clear z0 z1 z2 hb12 hgs HP2 gf hgl11
       obtain ⟨lfv,kav,knv,kcv,cav,cnv,ccv,z0,z1,z2,_⟩:=HD12.out.kw.get (i+1) (by rw [List.length_set];omega)
       have gf:=fun j=>HD12.out.kw.frozen j
       have hgl12:=HD12.out.kw.lt
       have hs12:=HD12.out.sz
       have HD13:Hid (DS S w (((w12.setCell ⟨g,(i+1)*3,none⟩ (.bool lfs)).setCell ⟨g,(i+1)*3+1,none⟩ (.slice kas kns kcs)).setCell ⟨g,(i+1)*3+2,none⟩ (.slice cas cns ccs)) w2.heap.size d g n c3 ((l5.set i (joinD y (cutD 0 1 x))).set (i+1) (cutD 1 sx x))):=HD12.out.put (i+1) (by rw [List.length_set];omega) HG12.out
       have r0:=HD13.out.box.cell 0
       have r1:=HD13.out.box.cell 1
       have r2:=HD13.out.box.cell 2
       simp only [List.getElem?_toArray,List.getElem?_cons_zero,List.getElem?_cons_succ] at r0 r1 r2
       have hf:=fun i=>HD13.out.box.frozen i
       have hbl:=HD13.out.box.lt
       go_wp2
       clear r0 r1 r2 hf hbl gf z0 z1 z2
       generalize ((w12.setCell ⟨g,(i+1)*3,none⟩ (.bool lfs)).setCell ⟨g,(i+1)*3+1,none⟩ (.slice kas kns kcs)).setCell ⟨g,(i+1)*3+2,none⟩ (.slice cas cns ccs)=w13 at HD13 ⊢
       have r0:=HD13.out.box.cell 0
       have r1:=HD13.out.box.cell 1
       have r2:=HD13.out.box.cell 2
       simp at r0 r1 r2
       refine bodyPost_ret (v:=.agg #[.bool false,.slice none 0 0,.slice (some ⟨g,0,none⟩) n c3]) (by simp [results,Tryz.results88,go_sem,r0,r1,r2]) rfl ⟨_,HFin.out _ ?_,HD13.out.ret (by omega)⟩
       rw [fixD_right HL5.out.2.1 HNy.out HNL.out HX.out.1 (by rw [<- HSxE.out];exact h4),<- HSxE.out]
      ·have h4d:decide ((2:Int)<(sx:Int))=false:=decide_eq_false (by omega)
       have h4i:¬ (2:Int)<(sx:Int):=by omega
       have HNR:Hid (¬ 2<sizO l5[i+1]?):=fun q=>by
        rw [HX.out.1] at q
        have q' : 2<sizD x:=q
        rw [<- HSxE.out] at q'
        exact h4 q'
       clear z0 z1 z2 HSx
       have hie:(i:Int)=0:=by omega
       have hien:i=0:=by omega
       have hied:decide ((i:Int)=0)=true:=decide_eq_true (by omega)
       have hY0:l5[0]?=some y:=by rw [<- hien];exact HL5.out.2.1
       have hX1:l5[1]?=some x:=by have:=HX.out.1;rw [hien] at this;exact this
       obtain ⟨xs5,HX5⟩:=HD20.out.kw.cells (by omega)
       have HO:Hid ((w20.alloc (.cells #[] 91)).ownsRow w20.heap.size 91 3 (.slice (some ⟨w20.heap.size,0,none⟩) 0 0) 0 []):=own_empty w20 91 w20.heap.size 3 (Nat.le_refl _)
       have hglW:=HD20.out.kw.lt
       have hbW:Below w20.heap.size w20 (w20.alloc (.cells #[] 91)):=below_alloc _ _
       have HD30:Hid (DS S w (w20.alloc (.cells #[] 91)) w2.heap.size d g n c3 l5):=HD20.out.below hbW
       have H30:Hid ((w20.alloc (.cells #[] 91)).ownsRow w20.heap.size 91 3 (.slice (some ⟨w20.heap.size,0,none⟩) 0 0) 0 []/\Below w20.heap.size w20 (w20.alloc (.cells #[] 91))/\w20.heap.size<=(w20.alloc (.cells #[] 91)).heap.size):=⟨HO.out,hbW,hbW.size⟩
       clear hbW HO
       obtain ⟨lfq,kaq,knq,kcq,caq,cnq,ccq,y0,y1,y2,hngy⟩:=kid_at (K:=KS (fun b=>((S b/\b<w.heap.size)\/w.heap.size+2<=b)/\b≠g) w20) (S:=fun b=>((S b/\b<w.heap.size)\/w.heap.size+2<=b)/\b≠g) HX5.out.2.1 HX5.out.2.2 0 (by omega)
       obtain ⟨lfx,kax,knx,kcx,cax,cnx,ccx,z0,z1,z2,hngx⟩:=kid_at (K:=KS (fun b=>((S b/\b<w.heap.size)\/w.heap.size+2<=b)/\b≠g) w20) (S:=fun b=>((S b/\b<w.heap.size)\/w.heap.size+2<=b)/\b≠g) HX5.out.2.1 HX5.out.2.2 1 (by omega)
       have hgy' : l5[0]'(by omega)=y:=by
        have q:=hY0
        rw [List.getElem?_eq_getElem (by omega)] at q
        injection q
       have hgx' : l5[1]'(by omega)=x:=by
        have q:=hX1
        rw [List.getElem?_eq_getElem (by omega)] at q
        injection q
       rw [hgy'] at hngy
       rw [hgx'] at hngx
       have hbD:Below w20.heap.size w20 (w20.alloc (.cells #[] 91)).drew:=H30.out.2.1.drew
       have HN30:Hid (NG (fun b=>(((S b/\b<w.heap.size)\/w.heap.size+2<=b)/\b≠g)/\b<w20.heap.size) (w20.alloc (.cells #[] 91)).drew d y (.agg #[.bool lfq,.slice kaq knq kcq,.slice caq cnq ccq])/\NG (fun b=>(((S b/\b<w.heap.size)\/w.heap.size+2<=b)/\b≠g)/\b<w20.heap.size) (w20.alloc (.cells #[] 91)).drew d x (.agg #[.bool lfx,.slice kax knx kcx,.slice cax cnx ccx])):=⟨NG.keep hngy hbD.size (fun b hs hl=>⟨⟨hs,hl⟩,hbD.block b hl⟩),NG.keep hngx hbD.size (fun b hs hl=>⟨⟨hs,hl⟩,hbD.block b hl⟩)⟩
       have HKeep:Hid (∀w',Below w20.heap.size w20 w'->w'.cell? ⟨g,0,none⟩=some (.bool lfq)/\w'.cell? ⟨g,1,none⟩=some (.slice kaq knq kcq)/\w'.cell? ⟨g,2,none⟩=some (.slice caq cnq ccq)/\w'.cell? ⟨g,3,none⟩=some (.bool lfx)/\w'.cell? ⟨g,4,none⟩=some (.slice kax knx kcx)/\w'.cell? ⟨g,5,none⟩=some (.slice cax cnx ccx)):=by
        intro w' hb'
        exact ⟨(hb'.cell (p:=⟨g,_,none⟩) hglW.2).trans y0,(hb'.cell (p:=⟨g,_,none⟩) hglW.2).trans y1,(hb'.cell (p:=⟨g,_,none⟩) hglW.2).trans y2,(hb'.cell (p:=⟨g,_,none⟩) hglW.2).trans z0,(hb'.cell (p:=⟨g,_,none⟩) hglW.2).trans z1,(hb'.cell (p:=⟨g,_,none⟩) hglW.2).trans z2⟩
       have i1m:(1:Int)<(n:Int):=by omega
       have i0m:(0:Int)<(n:Int):=by omega
       have hwz:IntKind.i64.wrap 0=0:=by decide
       have HJ:Hid (Calls Tryz.prog 123 #[.agg #[.bool lfq,.slice kaq knq kcq,.slice caq cnq ccq],.agg #[.bool lfx,.slice kax knx kcx,.slice cax cnx ccx]] (w20.alloc (.cells #[] 91)).drew (RetG3 (fun b=>(((S b/\b<w.heap.size)\/w.heap.size+2<=b)/\b≠g)/\b<w20.heap.size) (w20.alloc (.cells #[] 91)).drew d (joinD y x))):=joinD_any HN30.out.1 HN30.out.2 HBy.out.1 (BalU.of HX.out.2)
       have HBD:Hid (Below w20.heap.size w20 (w20.alloc (.cells #[] 91)).drew):=hbD
       have HO30:Hid ((w20.alloc (.cells #[] 91)).drew.ownsRow w20.heap.size 91 3 (.slice (some ⟨w20.heap.size,0,none⟩) 0 0) 0 []/\w20.heap.size<=(w20.alloc (.cells #[] 91)).drew.heap.size):=⟨own_below H30.out.1 (Below.refl _ _).drew,H30.out.2.2⟩
       clear hngy hngx hgy' hgx' hbD z0 z1 z2 y0 y1 y2
       go_wp2_with fail
       generalize hR:(w20.alloc (.cells #[] 91)).drew=R at HN30 HJ HO30 HBD
       refine wp_region_late (S:=fun w'=>w'.cell? ⟨g,0,none⟩=some (.bool lfq)/\w'.cell? ⟨g,1,none⟩=some (.slice kaq knq kcq)/\w'.cell? ⟨g,2,none⟩=some (.slice caq cnq ccq)/\w'.cell? ⟨g,3,none⟩=some (.bool lfx)/\w'.cell? ⟨g,4,none⟩=some (.slice kax knx kcx)/\w'.cell? ⟨g,5,none⟩=some (.slice cax cnx ccx)) 13 (by kernel_rfl) ?_ (fun hHeld=>?_)
       ·(rw [hR];exact HKeep.out _ HBD.out)
       rw [hR] at hHeld ⊢

       refine tk 0 .zero (v:=?_) ?_ ?_
       rotate_left
       ·(intro w h;(try dsimp only at h);go_simp) <;> with_reducible rfl
       simp only [tkp]
       refine tk 1 (.succ .zero) (v:=?_) ?_ ?_
       rotate_left
       ·(intro w h;(try dsimp only at h);go_simp) <;> with_reducible rfl
       simp only [tkp]
       refine tk 2 (.succ (.succ .zero)) (v:=?_) ?_ ?_
       rotate_left
       ·(intro w h;(try dsimp only at h);go_simp) <;> with_reducible rfl
       simp only [tkp]
       refine tk 3 (.succ (.succ (.succ .zero))) (v:=?_) ?_ ?_
       rotate_left
       ·(intro w h;(try dsimp only at h);go_simp) <;> with_reducible rfl
       simp only [tkp]
       refine tk 4 (.succ (.succ (.succ (.succ .zero)))) (v:=?_) ?_ ?_
       rotate_left
       ·(intro w h;(try dsimp only at h);go_simp) <;> with_reducible rfl
       simp only [tkp]
       refine tk 5 (.s5 .zero) (v:=?_) ?_ ?_
       rotate_left
       ·(intro w h;(try dsimp only at h);go_simp) <;> with_reducible rfl
       simp only [tkp]
       refine tk 6 (.s5 (.succ .zero)) (v:=?_) ?_ ?_
       rotate_left
       ·(intro w h;(try dsimp only at h);go_simp) <;> with_reducible rfl
       simp only [tkp]
       refine tk 7 (.s5 (.succ (.succ .zero))) (v:=?_) ?_ ?_
       rotate_left
       ·(intro w h;(try dsimp only at h);go_simp) <;> with_reducible rfl
       simp only [tkp]
       refine tk 8 (.s5 (.succ (.succ (.succ .zero)))) (v:=?_) ?_ ?_
       rotate_left
       ·(intro w h;(try dsimp only at h);go_simp) <;> with_reducible rfl
       simp only [tkp]
       refine tk 9 (.s5 (.succ (.succ (.succ (.succ .zero))))) (v:=?_) ?_ ?_
       rotate_left
       ·(intro w h;(try dsimp only at h);go_simp) <;> with_reducible rfl
       simp only [tkp]
       refine tk1 10 (.s5 (.s5 .zero)) (fun K hK=>?_)
       refine step_t2 (by rfl) 123 171 175 _ (by rfl) (.agg #[.bool lfq,.slice kaq knq kcq,.slice caq cnq ccq]) (.agg #[.bool lfx,.slice kax knx kcx,.slice cax cnx ccx]) (by rfl) (by rfl) (fun _ _=>by rfl) ?_
       (with_reducible refine HJ.out.mono ?_)
       rintro e w31 ⟨hb31,lfj,kaj,knj,kcj,caj,cnj,ccj,rfl,hgj⟩
       refine ⟨_,rfl,?_⟩
       have HB31:Hid (Below R.heap.size R w31/\NG (fun b=>((((S b/\b<w.heap.size)\/w.heap.size+2<=b)/\b≠g)/\b<w20.heap.size)\/R.heap.size<=b) w31 d (joinD y x) (.agg #[.bool lfj,.slice kaj knj kcj,.slice caj cnj ccj])):=⟨hb31,hgj⟩
       clear hgj hb31 HJ
       refine hK.out _ _ ?_ (fun hG=>?_)
       ·(intro _;exact HKeep.out _ (HBD.out.trans (HB31.out.1.mono HBD.out.size)))
       clear hK K
       replace hHeld:=hG (by decide)
       clear hG
       try simp only [tkp]
       refine tk1 11 (.s5 (.s5 (.succ .zero))) (fun K hK=>?_)
       go_simp
       refine hK.out _ _ ?_ (fun hG=>?_)
       ·(intro _;exact HKeep.out _ ((HBD.out.trans (HB31.out.1.mono HBD.out.size)).alloc (HBD.out.trans (HB31.out.1.mono HBD.out.size)).size _))
       clear hK K
       replace hHeld:=hG (by decide)
       clear hG
       try simp only [tkp]
       refine tk1 12 (.s5 (.s5 (.succ (.succ .zero)))) (fun K hK=>?_)
       refine step_app_kid1 (by rfl) (.tmp 166) (.tmp 177) (by rfl) w20.heap.size (.slice (some ⟨w20.heap.size,0,none⟩) 0 0) 0 _ (by rfl) (own_below (own_below HO30.out.1 HB31.out.1) (below_alloc _ _)) w31.heap.size 1 (.bool lfj) (.slice kaj knj kcj) (.slice caj cnj ccj) (by rfl) (fun j u hj=>by rw [(Bx.new w31 #[.bool lfj,.slice kaj knj kcj,.slice caj cnj ccj] 91).cell j];simpa using hj) (by intro u hu;simp at hu;rcases hu with rfl|rfl|rfl <;> rfl) (by omega) (by have:=HB31.out.1.size;have:=HO30.out.2;simp;omega) ?_
       intro v32 w32 ho32 hg32 hat32
       simp only [Nat.zero_add,List.nil_append] at ho32
       obtain ⟨a32,c32,e32,hf32⟩:=own_form ho32
       subst e32
       have hcap32:=own_cap ho32
       obtain ⟨g32,e32,hg321,hg322,_⟩:=hf32 (by omega)
       subst e32
       have hbW31:Below w20.heap.size w20 w31:=HBD.out.trans (HB31.out.1.mono HBD.out.size)
       have hlt30:=own_lt HO30.out.1
       have hbW32:Below w20.heap.size w20 w32:=(hbW31.alloc hbW31.size _).grown hg32 (by rw [World.size_alloc];exact Nat.le_succ_of_le hbW31.size) (fun g e=>(hlt30 g e).1)
       have hz32:w31.heap.size+1<=w32.heap.size:=by have:=hg32.size;simpa using this
       have H32:Hid (w32.ownsRow w20.heap.size 91 3 (.slice (some ⟨g32,0,none⟩) 1 c32) 1 [.bool lfj,.slice kaj knj kcj,.slice caj cnj ccj]/\Below w20.heap.size w20 w32/\NG (fun b=>(((((S b/\b<w.heap.size)\/w.heap.size+2<=b)/\b≠g)/\b<w20.heap.size)\/R.heap.size<=b)/\b≠g32) w32 d (joinD y x) (.agg #[.bool lfj,.slice kaj knj kcj,.slice caj cnj ccj])/\w20.heap.size<=R.heap.size):=by
        have hR0:=HO30.out.2
        refine ⟨ho32,hbW32,NG.keep HB31.out.2 (by omega) (fun b hs hl=>?_),hR0⟩
        have hne:(Value.slice (some ⟨w20.heap.size,0,none⟩) 0 0).ownBlock≠some b:=fun e=>by
         have q:=hlt30 b e
         rcases hs with hs|hs <;> omega
        refine ⟨⟨hs,fun e=>?_⟩,(hg32.block b (by simp;omega) (fun e=>hne e.symm)).trans ((below_alloc w31 _).block b hl)⟩
        rcases hat32 with h|h
        ·exact hne (by rw [<- h,e];rfl)
        ·have h' : some g32=some (w31.alloc (.cells #[.bool lfj,.slice kaj knj kcj,.slice caj cnj ccj] 91)).heap.size:=h
         injection h' with h'
         simp at h'
         omega
       have HLt32:Hid (w20.heap.size<=g32/\g32<w32.heap.size):=⟨hg321,hg322⟩
       clear ho32 hg32 hat32 hbW31 hlt30 hf32
       refine hK.out _ _ ?_ (fun hG=>?_)
       ·(intro _;exact HKeep.out _ hbW32)
       clear hK K
       replace hHeld:=hG (by decide)
       clear hG
       try simp only [tkp]
       refine tk1 13 (.s5 (.s5 (.succ (.succ (.succ .zero))))) (fun K hK=>?_)
       go_simp
       refine hK.out _ _ ?_ (fun hG=>?_)
       ·(intro hne;exact absurd rfl hne)
       clear hK K hG
       refine wpLate_done (by kernel_rfl) ?_ _
       clear hHeld hR
       obtain ⟨oo,hoo,hoo2⟩:=shZ_form 3 g 0 2 c3 n hcap3.1 b2
       have hsl2:∀W:World,(Instr.sliceAt 89 (.slice (some ⟨g,0,none⟩) n c3) (some (.int .i64 2)) none none).run Tryz.prog W=.ok (.slice (some ⟨g,oo,none⟩) (n-2) (c3-2)) W:=fun W=>by
        have:=fromK g 0 n c3 2 b2 hcap3.1 W
        rw [hoo] at this
        simpa using this
       have HY3:Hid ((xs5.drop (2*3)).length=(n-2)*3/\(∀j u,(xs5.drop (2*3))[j]?=some u->w32.cell? ⟨g,oo+j,none⟩=some u)/\KidL (fun t v=>NG (fun b=>((S b/\b<w.heap.size)\/w.heap.size+2<=b)/\b≠g) w20 d t v) (l5.drop 2) (xs5.drop (2*3))):=by
        have hl3:(xs5.drop (2*3)).length=(n-2)*3:=by rw [List.length_drop,HX5.out.1];omega
        refine ⟨hl3,fun j u hj=>?_,KidL.drop 2 HX5.out.2.2⟩
        have hj2:=(List.getElem?_eq_some_iff.1 hj).1
        rw [hl3] at hj2
        rw [List.getElem?_drop] at hj
        rw [hoo2 (by omega),Nat.zero_add]
        exact (hbW32.cell (p:=⟨g,_,none⟩) hglW.2).trans (HX5.out.2.1 _ u hj)
       have hzW:=hbW32.size
       clear hoo hoo2
       go_wp2_with (at_builtin;refine wpList_append_own_at _ rfl _ _ 89 rfl w20.heap.size 91 i0 _ 3 56 Tryz.underlying89 HI.out.1 HI.out.2.1 HI.out.2.2.1 HI.out.2.2.2 rfl (by decide) (.slice (some ⟨g32,0,none⟩) 1 c32) 1 _ rfl H32.out.1 ⟨g,oo,none⟩ (n-2) (c3-2) _ rfl HY3.out.1 (fun j u hj=>by rw [addr_add];exact HY3.out.2.1 j u hj) (HY3.out.2.2.cells NG.one) (by unfold maxLen;omega) (by omega) (by omega) ?_)
       intro v33 w33 ho33 hg33 _ hat33
       have e33:1+(n-2)=n-1:=cut_len (i:=1) b2
       rw [e33] at ho33
       obtain ⟨a33,c33,e34,hf33⟩:=own_form ho33
       subst e34
       obtain ⟨g33,e34,hg331,hg332,_⟩:=hf33 (cut_ne b2)
       subst e34
       have HD33:Hid (DS S w w33 w20.heap.size d g33 (n-1) c33 (joinD y x::l5.drop 2)):=by
        have hlt32:=own_lt H32.out.1
        have hbW33:Below w20.heap.size w20 w33:=H32.out.2.1.grown hg33 hzW (fun g e=>(hlt32 g e).1)
        have hs:=HD20.out.sz
        have hg0:(Value.slice (some ⟨g32,0,none⟩) 1 c32).ownBlock=some g32:=rfl
        refine ⟨⟨_,ho33,?_⟩,HD20.out.bel.trans (hbW33.mono HD20.out.bel.size),HD20.out.box.below hbW33,by omega⟩
        have hold:∀t v,NG (fun b=>((S b/\b<w.heap.size)\/w.heap.size+2<=b)/\b≠g) w20 d t v->NG (fun b=>((S b/\b<w.heap.size)\/w.heap.size+2<=b)/\b≠g33) w33 d t v:=fun t v q=>NG.keep q hbW33.size (fun b hs hl=>⟨⟨hs.1,by omega⟩,hbW33.block b hl⟩)
        have hnew:NG (fun b=>((S b/\b<w.heap.size)\/w.heap.size+2<=b)/\b≠g33) w33 d (joinD y x) (.agg #[.bool lfj,.slice kaj knj kcj,.slice caj cnj ccj]):=by
         refine NG.keep H32.out.2.2.1 hg33.size (fun b hs' hl=>⟨⟨?_,fun e=>?_⟩,hg33.block b hl (fun e=>hs'.2 (by rw [hg0] at e;injection e with e))⟩)
         ·rcases hs'.1 with q|q
          ·exact q.1.1
          ·exact Or.inr (by have:=H32.out.2.2.2;omega)
         ·rcases hat33 with h|h
          ·have h' : some g33=some g32:=h
           injection h' with h'
           exact hs'.2 (by omega)
          ·have h' : some g33=some w32.heap.size:=h
           injection h' with h'
           omega
        exact KidL.cat (HY3.out.2.2.mono hold) (ts:=[joinD y x]) (xs:=[.bool lfj,.slice kaj knj kcj,.slice caj cnj ccj]) ⟨hnew,trivial⟩
       clear ho33 hg33 hat33 hf33 H32 HY3 hsl2
       have r0:=HD33.out.box.cell 0
       have r1:=HD33.out.box.cell 1
       have r2:=HD33.out.box.cell 2
       simp at r0 r1 r2
       have hf:=fun i=>HD33.out.box.frozen i
       have hbl:=HD33.out.box.lt
       go_wp2
       refine bodyPost_ret (v:=.agg #[.bool false,.slice none 0 0,.slice (some ⟨g33,0,none⟩) (n-1) c33]) (by simp [results,Tryz.results88,go_sem,r0,r1,r2]) rfl ⟨_,HFin.out _ ?_,HD33.out.ret (Nat.sub_pos_of_lt b2)⟩
       have em:max i 1=1:=by rw [hien];rfl
       rw [fixD_join (u:=y) (v:=x) HL5.out.2.1 HNy.out HNL.out HNR.out (by rw [em];exact hY0) (by rw [em];exact hX1),em]
       rfl
     ·have hi1d:decide ((i:Int)+1<(n:Int))=false:=decide_eq_false (by omega)
      have hi1i:¬ (i:Int)+1<(n:Int):=by omega
      have HNR:Hid (¬ 2<sizO l5[i+1]?):=fun q=>by
       rw [List.getElem?_eq_none (by omega)] at q
       exact absurd q (by simp [sizO])
      exact absurd b2 (by omega)
end Go.Proofs.YtcnollkkigiobaaGreat
