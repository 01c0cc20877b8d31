import Derived.Test.YtacpbofiipdodaaGreatNv34
set_option linter.unusedVariables false
set_option linter.unusedSimpArgs false
set_option maxRecDepth 100000
set_option maxHeartbeats 90000000
namespace Go.Proofs.YtacpbofiipdodaaGreat
open Go Go.Deep Go.Maps Go.RowKit
def KO (HB F:Nat) (g:Fx) (T:Nat->Prop) (Po:World->List Int->Nat->Prop) (W:World):Prop:=
 WS F #[pt g.ob] W λe w'=>e=.returned (.tuple #[])/\∃L rg,FQ w' HB (λk=>W.heap.size<=k/\k<w'.heap.size) g (rg:Nat) 0 L/\Fr T W w'/\(∀x,x∈L->C7 x)/\L.length<=300000/\Po w' L rg
structure RP (ty F:Nat):Prop where
 mt:NQ ty F
 en:∀args W,(callFunc F args).run Tryz.prog W=.ok (.enter F args) W
def CT (HB:Nat) (f:Fx):Prop:=f.ob<HB/\f.mb<HB/\f.ob≠f.mb
def OT (L1 L2:List Int):List Int:=L1.filter (λx=>L2.contains x)
def Pe (L1 L2:List Int):List Int:=L1.filter (λx=>!L2.contains x)
def UL (HB:Nat) (f g h:Fx) (T1 T2:Nat->Prop) (Po1 Po2:World->List Int->Nat->Prop) (w:World) (fl:List Int->List Int->List Int) (w' : World):Prop:=
 ∃w1 L1 r1 Y1,FQ w1 HB Y1 g (r1:Nat) 0 L1/\Fr T1 w w1/\Po1 w1 L1 r1/\((L1=[]/\FQ w' HB (λk=>w.heap.size<=k/\k<w'.heap.size) f ((0:Nat):Int) 0 []/\Bl w1 w')\/(L1≠[]/\∃w2 L2 r2 Y2,FQ w2 HB Y2 h (r2:Nat) 0 L2/\Fr T2 w1 w2/\Po2 w2 L2 r2/\FQ w' HB Y1 g (r1:Nat) L1.length L1/\FQ w' HB Y2 h (r2:Nat) 0 L2/\Fr (PN (λk=>w2.heap.size<=k) f g) w2 w'/\FQ w' HB (λk=>w.heap.size<=k/\k<w'.heap.size) f ((0:Nat):Int) 0 (Bq [] (fl L1 L2))))
theorem Uf (HB:Nat) (f g:Fx) (ty F:Nat) (T:Nat->Prop) (Po:World->List Int->Nat->Prop) (w:World) (h:A0 w f) (ht:f.tail=[.iface ty (pt g.ob)]) (hv:RP ty F) (hk:KO HB F g T Po w) (hT:¬ T f.ob/\¬ T f.mb) (ha:BP f g) (hf:CT HB f) (hHB:HB<=w.heap.size) :
  WS 223 #[pt f.ob] w λe w'=>e=.returned (.tuple #[])/\∃w1 L rg Y,FQ w1 HB Y g (rg:Nat) 0 L/\Fr T w w1/\Po w1 L rg/\FQ w' HB Y g (rg:Nat) L.length L/\Fr (PN (λk=>w1.heap.size<=k) f g) w1 w'/\FQ w' HB (λk=>w.heap.size<=k/\k<w'.heap.size) f ((0:Nat):Int) 0 (Bq [] L):=by
 obtain⟨ob,hob⟩:=gn f.ob;obtain⟨gb,hgb⟩:=gn g.ob;have HFr:=hid (ai h (ai hT (ai ha (ai hf (ai hHB (ai hob hgb))))));have x7:w.cell? (ad ob 7)=some (.iface ty (pt gb)):=by rw[hob,hgb,h.1.tl 0,ht];rfl
 have HX7:U (∀(W:World) rd v tl,FB W f rd v tl->W.cell? (ad ob 7)=some (.iface ty (pt gb))):=λW rd v tl hb=>by rw[hob,hgb,hb.tl 0,ht];rfl
 have hop:=hv.mt.op gb;have HNX:=hid hv.mt;have hen:=hv.en;unfold GT at hop;have HK:U (WS F #[pt gb] w λe w'=>e=.returned (.tuple #[])/\∃L rg,FQ w' HB (λk=>w.heap.size<=k/\k<w'.heap.size) g (rg:Nat) 0 L/\Fr T w w'/\(∀x,x∈L->C7 x)/\L.length<=300000/\Po w' L rg):=by rw[hgb];exact hk
 rw[<- hob];clear h ht hv hk hT ha hf hHB hob hgb;go_enter Tryz.func223,Tryz.ntmps223;go_wp2_with fail
 refine HK.o.mono ?_;rintro e w1 ⟨rfl,L,rg,hq1,hf1,hok1,hl1,hpo⟩;have P1:=hid (ai hq1 (ai hf1 (ai hpo (HFr.o.1.fr hf1 HFr.o.2.1.1 HFr.o.2.1.2))));have HFA:U (∀W,Bl w1 W->WS 221 #[pt ob,.iface ty (pt gb)] W λe w'=>e=.returned (.tuple #[])/\Zf w' (λk=>w1.heap.size<=k) f ((0:Nat):Int) 0 (Bq [] L)/\FQ w' HB (λk=>w.heap.size<=k/\k<w1.heap.size) g (rg:Nat) L.length L/\Fr (PN (λk=>w1.heap.size<=k) f g) W w'):=λW hW=>by have h0:=HFr.o;have hs:=hf1.size;rw[h0.2.2.2.2.2.1,h0.2.2.2.2.2.2];exact EJ (λk=>w1.heap.size<=k) HB _ f g ((0:Nat):Int) (rg:Nat) 0 [] L ty F W (HNX.o.nx g.ob) (Zf.below (Dm P1.o.2.2.2 (by have:=h0.2.2.2.1;unfold CT at this;omega) (by have:=h0.2.2.2.1;unfold CT at this;omega) h0.2.2.2.1.2.2) hW) (hq1.below hW) h0.2.2.1 (λk hk=>WC hW.size hk) (λk hk=>by omega) (λk q hk=>by omega) h0.2.2.2.1.1 h0.2.2.2.1.2.1 hok1 (by simp) hl1
 have hs1:=hf1.size;have HS1:=hid hs1;clear hq1 hf1 hok1 hl1 hpo HK hop hen x7 hs1;go_upto_region 1 with fail
 refine Ac (S:=λW=>Bl w1 W) 7 (by kernel_rfl) (Wt _ _).drew (λW hHeld=>?_);refine tx 0 rfl ?_;refine tx 1 rfl ?_;refine tx 2 rfl ?_;refine tx 3 rfl ?_;refine tx 4 rfl ?_;refine tx 5 rfl ?_;refine tY 6 rfl (λw' h=>by have x7:=HX7.o _ _ _ _ (P1.o.2.2.2.1.fr (P:=λ_=>False) (Fr.ofBelow h) (λq=>q));clear h;go_simp;rfl) ?_;refine AB 7 rfl (λK hK=>?_);refine AF rfl 221 9 13 _ rfl (pt ob) (.iface ty (pt gb)) rfl rfl (λ_ _=>rfl) ?_;refine (HFA.o W hHeld).mono ?_;rintro e w7 ⟨rfl,hfs7,hfq7,hfr7⟩;refine⟨_,rfl,hK.out _ _ (λhne=>absurd rfl hne) (λhG=>?_)⟩;clear hK K hG;refine Ae (by kernel_rfl) ?_ _;have HEnd:U (∃w1 L rg Y,FQ w1 HB Y g (rg:Nat) 0 L/\Fr T w w1/\Po w1 L rg/\FQ w7 HB Y g (rg:Nat) L.length L/\Fr (PN (λk=>w1.heap.size<=k) f g) w1 w7/\FQ w7 HB (λk=>w.heap.size<=k/\k<w7.heap.size) f ((0:Nat):Int) 0 (Bq [] L)):=by have h0:=HFr.o.2.2.2;have hz:=HS1.o;exact⟨w1,L,rg,_,P1.o.1,P1.o.2.1,P1.o.2.2.1,hfq7,(Fr.ofBelow (P:=PN (λk=>w1.heap.size<=k) f g) hHeld).trans hfr7 (λ_ _ q=>q) (λ_ _ q=>q),(hfs7.fq (λk hk=>by omega) h0.1.1 h0.1.2.1).mono (λk _ q=>⟨by omega,q.2⟩)⟩
 clear hfs7 hfq7 hfr7 hHeld HFA P1;go_wp2;go_end0
 exact⟨rfl,HEnd.o⟩
variable {W:World}
def UQ (k:Int):Nat:=if k=4 then 2 else 0
def VC (k:Int):Nat:=if k=3 then 2 else 0
theorem MA (k:Int) (hk:k=3\/k=4\/k=5) (s t l:ByteArray) (bd:Bool) (oa:Option Addr) (ol oc:Nat) (hh:Int) (b:Nat) (w:World):WS 98 #[.agg #[iv k,.string s,.string t,.bool bd,.string l,.slice oa ol oc,iv hh],pt b] w (WT w (.tuple #[.pointer (some (ad b (UQ k))),.pointer (some (ad b (VC k)))])):=by
 rcases hk with rfl|rfl|rfl;.exact RG s t l bd oa ol oc hh b w
 .exact Rg s t l bd oa ol oc hh b w
 .exact QM s t l bd oa ol oc hh b w
theorem Oa {b:Nat} {ty:TypeId} {q:Qd} (k:Int) (hk:k=3\/k=4\/k=5) (h:Bx W b ty #[iv q.s,iv q.p,iv q.o,iv q.g]):W.cell? (ad b (UQ k))=some (iv (DD k q))/\W.cell? (ad b (VC k))=some (iv (Gi k q)):=by
 rcases hk with rfl|rfl|rfl;.exact⟨Bx.cell h 0,Bx.cell h 2⟩
 .exact⟨Bx.cell h 2,Bx.cell h 0⟩
 .exact⟨Bx.cell h 0,Bx.cell h 0⟩
def Sa (f:Fx) (x:Value) (k:Int) (s t l:ByteArray) (bd:Bool) (oa:Option Addr) (ol oc:Nat) (hh:Int) (p:Qd) (asks:Bool) (way:Int) (jj:Nat):Prop:=f.tail=[x,.func (.func 98) #[.agg #[iv k,.string s,.string t,.bool bd,.string l,.slice oa ol oc,iv hh]] #[],iv p.s,iv p.p,iv p.o,iv p.g,.bool asks,iv way,iv (jj:Int)]
section
variable {f:Fx} {x:Value} {k:Int} {s t l:ByteArray} {bd:Bool} {oa:Option Addr} {ol oc:Nat} {hh:Int} {p:Qd} {asks:Bool} {way:Int} {jj:Nat}
theorem Sa.cells (h:Sa f x k s t l bd oa ol oc hh p asks way jj) {rd:Int} {v:Value} {tl:Nat} (hb:FB W f rd v tl):W.cell? (ad f.ob 7)=some x/\W.cell? (ad f.ob 8)=some (.func (.func 98) #[.agg #[iv k,.string s,.string t,.bool bd,.string l,.slice oa ol oc,iv hh]] #[])/\(W.cell? (ad f.ob 9)=some (iv p.s)/\W.cell? (ad f.ob 10)=some (iv p.p)/\W.cell? (ad f.ob 11)=some (iv p.o)/\W.cell? (ad f.ob 12)=some (iv p.g))/\W.cell? (ad f.ob 13)=some (.bool asks)/\W.cell? (ad f.ob 14)=some (iv way)/\W.cell? (ad f.ob 15)=some (iv (jj:Int)):=by
 have e:=h;unfold Sa at e;refine⟨?_,?_,⟨?_,?_,?_,?_⟩,?_,?_,?_⟩;.rw[hb.tl 0,e];rfl
 .rw[hb.tl 1,e];rfl
 .rw[hb.tl 2,e];rfl
 .rw[hb.tl 3,e];rfl
 .rw[hb.tl 4,e];rfl
 .rw[hb.tl 5,e];rfl
 .rw[hb.tl 6,e];rfl
 .rw[hb.tl 7,e];rfl
 .rw[hb.tl 8,e];rfl
end
theorem Ix (n0 HB:Nat) (Y:Nat->Prop) (f g:Fx) (rg:Int) (tg:Nat) (K:List Int) (ty F:Nat) (Q:List Qd) (k:Int) (hk:k=3\/k=4\/k=5) (s t l:ByteArray) (bd:Bool) (oa:Option Addr) (ol oc:Nat) (hh:Int) (p:Qd) (asks:Bool) (way:Int) (jj:Nat) (w:World) (h:Zf w (λi=>n0<=i) f ((0:Nat):Int) 0 []) (ht:Sa f (.iface ty (pt g.ob)) k s t l bd oa ol oc hh p asks way jj) (hq:FQ w HB Y g rg tg K) (hm:NQ ty F) (hX:Hz w f.xb Q) (hp:f.nt=false->jj<6/\BC (A8 jj ⟨p.s,p.p,p.o,f.lab⟩) 4) (hQ:Q.length<=300) (hqo:∀q,q∈Q->C7 q.s/\C7 q.o) (ha:BP f g) (hf:CT HB f) (hHB:HB<=n0) (hn0:n0<=w.heap.size) (hY:∀i,Y i->i<n0) :
  WS 226 #[pt f.ob,.func (.method "loop.example/s01136/impl.holds") #[.iface ty (pt g.ob)] #[]] w λe w'=>e=.returned (.tuple #[])/\∃qs,qs.Perm (Fj Q f.lab f.nt p)/\FQ w' HB (λi=>n0<=i/\i<w'.heap.size) f (qs.length:Int) 0 (Av k true K qs ([],0)).1/\FQ w' HB Y g rg tg K/\Fr (PF (λi=>n0<=i) f) w w':=by
 obtain⟨ob,hob⟩:∃ob,ob=f.ob:=⟨_,rfl⟩;obtain⟨gb,hgb⟩:=gn g.ob;have HE:=hid (ai hob hgb);have HG:=hid (ai ha (ai hf (ai hHB (ai hn0 (ai hY hq)))));have HX7:U (∀(W:World) rd v tl,FB W f rd v tl->W.cell? (ad ob 8)=some (.func (.func 98) #[.agg #[iv k,.string s,.string t,.bool bd,.string l,.slice oa ol oc,iv hh]] #[])/\(W.cell? (ad ob 9)=some (iv p.s)/\W.cell? (ad ob 10)=some (iv p.p)/\W.cell? (ad ob 11)=some (iv p.o)/\W.cell? (ad ob 12)=some (iv p.g))/\W.cell? (ad ob 15)=some (iv (jj:Int))):=λW rd v tl q=>by rw[hob];have:=ht.cells q;exact⟨this.2.1,this.2.2.1,this.2.2.2.2.2⟩
 have HEN:=hid (λb W=>MA k hk s t l bd oa ol oc hh b W);have HCF:=hid hk;have hho:=hm.ho gb;unfold GT at hho;obtain⟨⟨v0,fb0,_,_⟩,_⟩:=id h;obtain⟨x8,⟨x9,x10,x11,x12⟩,x15⟩:=HX7.o w _ _ _ fb0;have HRD:U (∀W,Bl w W->WS 207 #[pt ob,iv (jj:Int),.agg #[iv p.s,iv p.p,iv p.o,iv p.g]] W λe w'=>∃a c qs,e=.returned (.slice a qs.length c)/\BW w' a qs/\qs.Perm (Fj Q f.lab f.nt p)/\Zf w' (Zr (λi=>n0<=i) W.heap.size w'.heap.size) f ((0+qs.length:Nat):Int) 0 []/\Fr (λi=>i=f.ob) W w'/\∀g,(Value.slice a qs.length c).ownBlock=some g->W.heap.size<=g/\g<w'.heap.size):=λW hW=>by rw[hob];exact Gs (λi=>n0<=i) f 0 0 [] Q jj p W (h.below hW) (hX.below hW) hp (by omega) hQ
 have HQO:=hid (ai hQ hqo);rw[<- hob,<- hgb];clear h ht hq hm hX hp hQ hqo ha hf hHB hn0 hY hob hgb hk fb0;go_enter Tryz.func226,Tryz.ntmps226;go_upto_region 0 with fail
 refine Au (S:=λW=>(W.cell? (ad ob 9)=some (iv p.s)/\W.cell? (ad ob 10)=some (iv p.p)/\W.cell? (ad ob 11)=some (iv p.o)/\W.cell? (ad ob 12)=some (iv p.g))/\W.cell? (ad ob 15)=some (iv (jj:Int))) 1000 (by kernel_rfl) ⟨⟨x9,x10,x11,x12⟩,x15⟩ (λhS=>?_);have hHeld:Bl w w.drew:=(Wt _ _).drew;generalize w.drew=W at hS hHeld ⊢;clear x8 x9 x10 x11 x12 x15;refine ua 0 rfl ?_;refine ua 1 rfl ?_;refine ua 2 rfl ?_;refine ua 3 rfl ?_;refine ua 4 rfl ?_;refine ua 5 rfl ?_;refine ta 6 rfl (v:=iv (jj:Int)) ?_ ?_;.intro w' h;obtain⟨⟨x9,x10,x11,x12⟩,x15⟩:=h;go_simp
 simp only[As];refine ua 7 rfl ?_;refine ua 8 rfl ?_;refine ua 9 rfl ?_;refine ta 10 rfl (v:=.agg #[iv p.s,iv p.p,iv p.o,iv p.g]) ?_ ?_;.intro w' h;obtain⟨⟨x9,x10,x11,x12⟩,x15⟩:=h;go_simp
 simp only[As];refine ua 13 rfl ?_;refine AB 11 rfl (λK' hK=>?_);refine A7 rfl 207 10 14 18 _ rfl (pt ob) (iv (jj:Int)) (.agg #[iv p.s,iv p.p,iv p.o,iv p.g]) rfl rfl rfl (λ_ _=>rfl) ?_;refine (HRD.o W hHeld).mono ?_;rintro e w6 ⟨a6,c6,qs,rfl,hr6,hp6,hfs6,hf6,hg6⟩;have hS6:(w6.cell? (ad ob 9)=some (iv p.s)/\w6.cell? (ad ob 10)=some (iv p.p)/\w6.cell? (ad ob 11)=some (iv p.o)/\w6.cell? (ad ob 12)=some (iv p.g))/\w6.cell? (ad ob 15)=some (iv (jj:Int)):=by obtain⟨v6,q1,_⟩:=hfs6.blk;exact (HX7.o _ _ _ _ q1).2
 refine⟨_,rfl,hK.out _ _ (λ_=>hS6) (λhG=>?_)⟩;clear hK K' hG hS;simp only[As];refine ua 12 rfl ?_;refine Ae (by kernel_rfl) ?_ _;clear hS6;have hl6:qs.length<=300:=by rw[hp6.length_eq];exact WC (FR _ _ _ _) HQO.o.1
 obtain⟨Z,hZ⟩:=gn (Zr (λi=>n0<=i) W.heap.size w6.heap.size);rw[<- hZ,WM] at hfs6;have HZ:U ((∀i,w6.heap.size<=i->Z i)/\(∀i,Z i->n0<=i)/\∀g,(Value.slice a6 qs.length c6).ownBlock=some g->¬ PF Z f g):=by
  have h0:=HG.o;have h1:=hHeld.size;have h2:=hf6.size;rw[hZ];refine⟨λi hi=>.inr hi,λi hi=>?_,λg e=>?_⟩
  .rcases hi with hi|hi;.exact hi.2
   .omega
  .have:=hg6 g e;have h4:=h0.2.1;unfold CT at h4;rintro (q|q|q|q);.omega
   .omega
   .omega
   .omega
 have HM:U (∀q,q∈qs->C7 q.s/\C7 q.o):=λq hq=>by
  have:=hp6.mem_iff.1 hq;unfold Fj at this;split at this;.cases this
  .exact HQO.o.2 q (List.mem_filter.1 this).1
 have S6:U (BW w6 a6 qs/\qs.Perm (Fj Q f.lab f.nt p)/\Zf w6 Z f (qs.length:Int) 0 []/\Fr (PF (λi=>n0<=i) f) w w6/\FQ w6 HB Y g rg tg K):=by have h0:=HG.o;have hf:=(Fr.ofBelow (P:=λi=>i=f.ob) hHeld).trans hf6 (λ_ _ q=>q) (λ_ _ q=>q);refine⟨hr6,hp6,hfs6,hf.mono (λ_ _ q=>.inl q),h0.2.2.2.2.2.fr hf (λq=>h0.1.1 q.symm) (λq=>h0.1.2.1 q.symm) (λi h1 _ q=>?_)⟩;have h4:=h0.2.1;unfold CT at h4;omega
 clear hr6 hp6 hfs6 hf6 hg6 hHeld hZ HRD HQO;go_wp2;go_loopw [5,6,7,21] (λ_ _ _ i wr=>∃j:Nat,j<=qs.length/\i=iv (j:Int)/\Zf wr Z f (qs.length:Int) 0 (Av k true K (qs.take j) ([],0)).1/\Fr (PF Z f) w6 wr) (λ_ _ _ i _=>qs.length-(intOf i).toNat)
 case atStart=>exact⟨0,Ww _,rfl,S6.o.2.2.1,Fr.refl _ _⟩
 case round=>
  obtain⟨j,hj,rfl,hfs,hfr⟩:=hrel;obtain⟨L,hLe⟩:=gn ((Av k true K (qs.take j) ([],0)).1);have hLl:L.length<=300:=by rw[hLe];have:=(DR k true K (qs.take j) ([],0)).1;rw[WI] at this;simp only[List.length_nil] at this;omega
  rw[<- hLe] at hfs;have HL:=hid hLe;have HR:U (Zf wr Z f (qs.length:Int) 0 L/\Fr (PF Z f) w6 wr/\BW wr a6 qs/\FQ wr HB Y g rg tg K):=by
   have h0:=HG.o;have h4:=h0.2.1;have h5:=S6.o.2.2.2.2.ob;have h6:=S6.o.2.2.2.2.mb;unfold CT at h4;refine⟨hfs,hfr,S6.o.1.fr hfr HZ.o.2.2,S6.o.2.2.2.2.fr hfr ?_ ?_ (λi q1 q2 q=>?_)⟩
   .rintro (q|q|q);.exact h0.1.1 q.symm
    .exact h0.1.2.2.1 q.symm
    .have:=HZ.o.2.1 _ q;omega
   .rintro (q|q|q);.exact h0.1.2.1 q.symm
    .exact h0.1.2.2.2 q.symm
    .have:=HZ.o.2.1 _ q;omega
   .have:=h0.2.2.2.2.1 i q2;rcases q with q|q|q;.omega
    .omega
    .have:=HZ.o.2.1 _ q;omega
  have HZR:=hid (λi hi=>HZ.o.1 i (WC hfr.size hi));clear hfs hfr hLe;by_cases hlt:j<qs.length
  .obtain⟨q,hqe⟩:=gn (qs[j]);have HQE:U (q=qs[j]/\C7 (DD k q)/\C7 (Gi k q)):=by
    have:=HM.o q (by rw[hqe];exact WE hlt);refine⟨hqe,?_,?_⟩
    .unfold DD;split;.exact this.2
     .exact this.1
    .unfold Gi;split;.exact this.2
     .exact this.1
   obtain⟨qb,rfl,hqc⟩:∃qb,a6=some (ad qb 0)/\(wr.cell? (ad qb (j*4))=some (iv q.s)/\wr.cell? (ad qb (j*4+1))=some (iv q.p)/\wr.cell? (ad qb (j*4+2))=some (iv q.o)/\wr.cell? (ad qb (j*4+3))=some (iv q.g)):=by
    rcases HR.o.2.2.1 with h0|⟨b,e,hc⟩;.omega
    .rw[hqe];exact⟨b,e,hc j hlt⟩
   clear hqe;obtain⟨c0,c1,c2,c3⟩:=hqc;have i0:(0:Int)<=(j:Int):=by omega
   have i1:(j:Int)<(qs.length:Int):=by omega
   obtain⟨W1,hW1⟩:=gn (wr.alloc (.cells #[iv q.s,iv q.p,iv q.o,iv q.g] 140));have P1:U (Bx W1 wr.heap.size 140 #[iv q.s,iv q.p,iv q.o,iv q.g]/\Bl wr W1):=by rw[hW1];exact⟨Bx.new _ _ _,Aa _ _⟩
   go_upto_region 3 with fail
   rw[<- hW1];clear hW1 c0 c1 c2 c3;have HFB:U (∃v,FB W1 f (qs.length:Int) v 0):=by obtain⟨⟨v,q1,_⟩,_⟩:=HR.o.1.below P1.o.2;exact⟨v,q1⟩
   obtain⟨v1,fb1⟩:=HFB.o;obtain⟨x8,-,-⟩:=HX7.o W1 _ _ _ fb1;clear fb1 v1 HFB;go_wp2_with fail
   refine (HEN.o wr.heap.size W1).mono ?_;rintro e w2 ⟨rfl,hb2⟩;have P2:=hid (ai ((hb2.block _ P1.o.1.lt).trans P1.o.1) (P1.o.2.trans (hb2.mono P1.o.2.size)));clear hb2 P1 x8;obtain⟨y0,y1⟩:=Oa k HCF.o P2.o.1;obtain⟨fq,hfq⟩:=gn (DD k q);obtain⟨tq,htq⟩:=gn (Gi k q);obtain⟨fo,hfo⟩:=gn (UQ k);obtain⟨tw,hto⟩:=gn (VC k);rw[<- hfq,<- hfo] at y0;rw[<- htq,<- hto] at y1;rw[<- hfo,<- hto];have HFT:U (fq=DD k q/\tq=Gi k q/\∀W,Bl w2 W->W.cell? (ad wr.heap.size tw)=some (iv tq)):=⟨hfq,htq,λW hW=>(hW.cell (Ws _ _ y1)).trans y1⟩;have HHO:U (WS 202 #[pt gb,iv fq] w2 λe w'=>∃b:Bool,e=.returned (.bool b)/\(b=K.contains fq)/\Bl w2 w'):=by rw[HE.o.2];refine (Kd HB Y g rg tg K fq w2 (HR.o.2.2.2.below P2.o.2) (by rw[hfq];exact HQE.o.2.1)).mono ?_;rintro e w' ⟨b,rfl,hb,hbel⟩;refine⟨b,rfl,?_,hbel⟩;rw[Bool.eq_iff_iff,hb];simp
   clear hfq htq hfo hto;go_wp2_with fail
   refine HHO.o.mono ?_;rintro e w3 ⟨b,rfl,hbx,hb3⟩;have P3:=hid hb3;clear hb3 HHO y0 y1;cases b with
   | true=>
    have HSX:U ((Av k true K (qs.take (j+1)) ([],0)).1=AH L tq):=by show _=_;rw[WK hlt,Di,<- HQE.o.1];unfold CQ;rw[<- HFT.o.1,if_pos hbx.symm,HL.o,HFT.o.2.1]
    clear hbx;go_upto_region 5 with fail
    refine Ac (S:=λW=>Bl w3 W) 6 (by kernel_rfl) (Wt _ _).drew (λW hHeld=>?_);refine tx 0 rfl ?_;refine tx 1 rfl ?_;refine tx 2 rfl ?_;refine tx 3 rfl ?_;refine tx 4 rfl ?_;refine tY 5 rfl (λw' h=>by have y1:=HFT.o.2.2 _ (P3.o.trans (h.mono P3.o.size));clear h;go_simp;rfl) ?_;refine AB 6 rfl (λK' hK=>?_);refine AF rfl 208 40 43 _ rfl (pt ob) (iv tq) rfl rfl (λ_ _=>rfl) ?_;have hbw:=P2.o.2.trans ((P3.o.trans (hHeld.mono P3.o.size)).mono P2.o.2.size);have HFD:WS 208 #[pt ob,iv tq] W λe w'=>e=.returned (.tuple #[])/\Zf w' Z f (qs.length:Int) 0 (AH L tq)/\Fr (PF Z f) W w':=by rw[HE.o.1];exact CJ Z f (qs.length:Int) 0 L tq W (HR.o.1.below hbw) (by rw[HFT.o.2.1];exact HQE.o.2.2) (by omega) (λi hi=>HZR.o i (WC hbw.size hi))
    refine HFD.mono ?_;clear HFD;rintro e w7 ⟨rfl,hfs7,hfr7⟩;refine⟨_,rfl,hK.out _ _ (λhne=>absurd rfl hne) (λhG=>?_)⟩;clear hK K' hG;refine Ae (by kernel_rfl) ?_ _;have HX:U (Zf w7 Z f (qs.length:Int) 0 (Av k true K (qs.take (j+1)) ([],0)).1/\Fr (PF Z f) w6 w7):=by rw[HSX.o];exact⟨hfs7,(HR.o.2.1.trans (Fr.ofBelow (P:=PF Z f) hbw) (λ_ _ q=>q) (λ_ _ q=>q)).trans hfr7 (λ_ _ q=>q) (λ_ _ q=>q)⟩
    clear hfs7 hfr7 hHeld hbw HR P2 P3;go_wp2;go_roundw;case rel=>exact⟨j+1,by omega,by go_num,HX.o.1,HX.o.2⟩
    case measure=>simp[intOf];omega
   | false=>
    have HX:U (Zf w3 Z f (qs.length:Int) 0 (Av k true K (qs.take (j+1)) ([],0)).1/\Fr (PF Z f) w6 w3):=by
     have hbw:=P2.o.2.trans (P3.o.mono P2.o.2.size);have e:(Av k true K (qs.take (j+1)) ([],0)).1=L:=by rw[WK hlt,Di,<- HQE.o.1];unfold CQ;rw[<- HFT.o.1,if_neg (by rw[<- hbx];simp),if_pos rfl,HL.o]
     rw[e];exact⟨HR.o.1.below hbw,HR.o.2.1.trans (Fr.ofBelow (P:=PF Z f) hbw) (λ_ _ q=>q) (λ_ _ q=>q)⟩
    clear hbx HR P2 P3;go_wp2;go_roundw;case rel=>exact⟨j+1,by omega,by go_num,HX.o.1,HX.o.2⟩
    case measure=>simp[intOf];omega
  .obtain rfl:j=qs.length:=by omega
   have HX:U (FQ wr HB (λi=>n0<=i/\i<wr.heap.size) f (qs.length:Int) 0 (Av k true K qs ([],0)).1/\FQ wr HB Y g rg tg K/\Fr (PF (λi=>n0<=i) f) w wr):=by
    have h0:=HG.o;have hL2:L=(Av k true K qs ([],0)).1:=by rw[HL.o,WG]
    rw[<- hL2];refine⟨(HR.o.1.fq (λi hi=>by have:=HZ.o.2.1 i hi;omega) h0.2.1.1 h0.2.1.2.1).mono (λi _ q=>⟨HZ.o.2.1 i q.1,q.2⟩),HR.o.2.2.2,S6.o.2.2.2.1.trans HR.o.2.1 (λ_ _ q=>q) (λi hi q=>q.imp id (Or.imp id (HZ.o.2.1 i)))⟩
   have HPM:=hid S6.o.2.1;clear HR S6 HZ HL;go_wp2;go_end0
   exact⟨rfl,qs,HPM.o,HX.o⟩
variable {K L:List Int}{Q:List Qd}{lab:Int}{nt:Bool}{p:Qd}
theorem DJ {α:Type}:∀(L M:List α),L.Nodup->(∀x,x∈L->x∈M)->L.length<=M.length
 | [],_,_,_=>Ww _
 | x::L,M,h,hs=>by
  have hn:=List.nodup_cons.1 h
  obtain⟨A,B,rfl⟩:=List.append_of_mem (hs x (by simp))
  have:=DJ L (A++B) hn.2 (λy hy=>by
   have hm:=hs y (List.mem_cons_of_mem _ hy)
   rcases List.mem_append.1 hm with q|q
   .exact List.mem_append_left _ q
   .rcases List.mem_cons.1 q with q|q
    .exact absurd (q ▸ hy) hn.1
    .exact List.mem_append_right _ q)
  simp only[WD,WN] at this ⊢
  omega
def Gk (Q:List Qd) (lab:Int) (nt:Bool) (k:Int) (p:Qd) (K:List Int) (L:List Int):Prop:=L.Nodup/\∀x,x∈L↔∃t,t∈K/\∃q,q∈Fj Q lab nt (A9 k p t)/\Gi k q=x
def Fo (Q:List Qd) (lab:Int) (nt:Bool) (k:Int) (p:Qd) (K:List Int):Nat:=(K.map (λt=>(Fj Q lab nt (A9 k p t)).length)).sum
theorem Of {q:Qd} (h:q∈Fj Q lab nt p):q∈Q:=by
 unfold Fj at h;split at h;.cases h
 .exact (List.mem_filter.1 h).1
theorem Gk.len {k:Int} (h:Gk Q lab nt k p K L):L.length<=Q.length:=by
 have:=DJ L (Q.map (Gi k)) h.1 (λx hx=>by obtain⟨t,_,q,hq,e⟩:=(h.2 x).1 hx;exact List.mem_map.2 ⟨q,Of hq,e⟩)
 rwa [WH] at this
theorem Gk.step {k:Int} {z:Int} {qs:List Qd} (h:Gk Q lab nt k p K L) (hp:qs.Perm (Fj Q lab nt (A9 k p z))):Gk Q lab nt k p (K++[z]) (Bq L (qs.map (Gi k))):=by
 refine⟨BY _ _ h.1,λx=>?_⟩;rw[CF,h.2 x];constructor
 .rintro (⟨t,q1,q2⟩|q);.exact⟨t,List.mem_append_left _ q1,q2⟩
  .obtain⟨q,hq,e⟩:=List.mem_map.1 q;exact⟨z,by simp,q,hp.mem_iff.1 hq,e⟩
 .rintro⟨t,q1,q,hq,e⟩;rcases List.mem_append.1 q1 with q1|q1;.exact .inl ⟨t,q1,q,hq,e⟩
  .simp at q1;subst q1;exact .inr (List.mem_map.2 ⟨q,hp.mem_iff.2 hq,e⟩)
theorem Ox (Q:List Qd) (lab:Int) (nt:Bool) (k:Int) (p:Qd) (K:List Int) (z:Int):Fo Q lab nt k p (K++[z])=Fo Q lab nt k p K+(Fj Q lab nt (A9 k p z)).length:=by unfold Fo;rw[List.map_append,List.sum_append];simp
theorem N3 {Q:List Qd} {lab:Int} {nt:Bool} {k:Int} {p:Qd}:∀(K:List Int),Fo Q lab nt k p K<=Q.length*K.length
 | []=>Wu _
 | t::K=>by
  have h:=N3 (Q:=Q) (lab:=lab) (nt:=nt) (k:=k) (p:=p) K
  have h1:=FR Q lab nt (A9 k p t)
  unfold Fo at h ⊢
  rw[List.map_cons,List.sum_cons,WN,Nat.mul_add,Nat.mul_one]
  omega
theorem Uu {W:World} {b:Nat} {ty:TypeId} (k:Int) (hk:k=3\/k=4\/k=5) (z:Int) (h:Bx W b ty #[iv p.s,iv p.p,iv p.o,iv p.g]):Bx (W.setCell (ad b (UQ k)) (iv z)) b ty #[iv (A9 k p z).s,iv (A9 k p z).p,iv (A9 k p z).o,iv (A9 k p z).g]:=by
 rcases hk with rfl|rfl|rfl;.exact AL h rfl
 .exact AL h rfl
 .exact AL h rfl
theorem Jr (n0 HB:Nat) (Y:Nat->Prop) (f g:Fx) (rg:Int) (K:List Int) (ty F:Nat) (Q:List Qd) (k:Int) (hk:k=3\/k=4\/k=5) (s t l:ByteArray) (bd:Bool) (oa:Option Addr) (ol oc:Nat) (hh:Int) (p:Qd) (asks:Bool) (way:Int) (jj:Nat) (W0:World) (H0:Nat) (w:World) (h:Zf w (λi=>n0<=i) f ((0:Nat):Int) 0 []) (ht:Sa f (.iface ty (pt g.ob)) k s t l bd oa ol oc hh p asks way jj) (hq:FQ w HB Y g rg 0 K) (hm:NQ ty F) (hX:∀W,Below H0 w W->Hz W f.xb Q) (hH0:H0<=f.ob/\H0<=f.mb/\H0<=g.ob) (hp:∀z,z∈K->f.nt=false->jj<6/\BC (A8 jj ⟨(A9 k p z).s,(A9 k p z).p,(A9 k p z).o,f.lab⟩) 4) (hQ:Q.length<=300) (hqo:∀q,q∈Q->C7 q.s/\C7 q.o) (ha:BP f g) (hf:CT HB f) (hHB:HB<=n0) (hn0:n0<=w.heap.size) (hY:∀i,Y i->i<n0) (hok:∀x,x∈K->C7 x) (hKl:K.length<=300000) :
  WS 224 #[pt f.ob] w λe w'=>e=.returned (.tuple #[])/\∃L,Gk Q f.lab f.nt k p K L/\FQ w' HB (λi=>n0<=i/\i<w'.heap.size) f ((Fo Q f.lab f.nt k p K:Nat):Int) 0 L/\FQ w' HB Y g rg K.length K/\Fr (PN (λi=>n0<=i) f g) w w':=by
 obtain⟨ob,hob⟩:=gn f.ob;obtain⟨gb,hgb⟩:=gn g.ob;have HE:=hid (ai hob hgb);have HG:=hid (ai ha (ai hf (ai hHB (ai hn0 (ai hY hq)))));have HX7:U (∀(W:World) rd v tl,FB W f rd v tl->W.cell? (ad ob 7)=some (.iface ty (pt gb))/\W.cell? (ad ob 8)=some (.func (.func 98) #[.agg #[iv k,.string s,.string t,.bool bd,.string l,.slice oa ol oc,iv hh]] #[])/\(W.cell? (ad ob 9)=some (iv p.s)/\W.cell? (ad ob 10)=some (iv p.p)/\W.cell? (ad ob 11)=some (iv p.o)/\W.cell? (ad ob 12)=some (iv p.g))/\W.cell? (ad ob 15)=some (iv (jj:Int))):=λW rd v tl q=>by rw[hob,hgb];have:=ht.cells q;exact⟨this.1,this.2.1,this.2.2.1,this.2.2.2.2.2⟩
 obtain⟨fo,hfo⟩:=gn (UQ k);obtain⟨tw,htw⟩:=gn (VC k);have HEN:U (∀b W,WS 98 #[.agg #[iv k,.string s,.string t,.bool bd,.string l,.slice oa ol oc,iv hh],pt b] W (WT W (.tuple #[.pointer (some (ad b fo)),.pointer (some (ad b tw))]))):=λb W=>by rw[hfo,htw];exact MA k hk s t l bd oa ol oc hh b W
 have HCF:U (∀(W:World) (b:Nat) (ty:TypeId) (q:Qd),Bx W b ty #[iv q.s,iv q.p,iv q.o,iv q.g]->(W.cell? (ad b fo)=some (iv (DD k q))/\W.cell? (ad b tw)=some (iv (Gi k q)))/\∀z,Bx (W.setCell (ad b fo) (iv z)) b ty #[iv (A9 k q z).s,iv (A9 k q z).p,iv (A9 k q z).o,iv (A9 k q z).g]):=λW b ty q hb=>by rw[hfo,htw];exact⟨Oa k hk hb,λz=>Uu k hk z hb⟩
 have hnx:=hm.nx gb;unfold GT at hnx;have HNX:U (∀(W:World) (tk:Nat),FQ W HB Y g rg tk K->tk<=K.length->WS 204 #[pt gb] W λe w'=>∃tm ok,e=.returned (.tuple #[tm,ok])/\(G7 w' HB Y g rg K tk tm ok)/\(tm=iv (intOf tm))/\(ok=.bool true\/ok=.bool false)/\Fr (λk=>k=g.ob) W w'):=λW tk h1 h2=>by
  rw[hgb];refine (Es HB Y g rg tk K W h1 h2 (by omega)).mono ?_;rintro e w' (⟨e1,rfl,q1,q2⟩|⟨e1,rfl,q1,q2⟩);.exact⟨_,_,rfl,.inr ⟨e1,rfl,q1⟩,rfl,.inr rfl,Fr.ofBelow q2⟩
  .exact⟨_,_,rfl,.inl ⟨e1,rfl,rfl,q1⟩,rfl,.inl rfl,q2⟩
 have HRD:U (∀(W:World) (rd:Nat) (L:List Int) (z:Int),Zf W (λi=>n0<=i) f (rd:Int) 0 L->Below H0 w W->z∈K->rd<=1000000000000->WS 207 #[pt ob,iv (jj:Int),qv (A9 k p z)] W λe w'=>∃a c qs,e=.returned (.slice a qs.length c)/\BW w' a qs/\qs.Perm (Fj Q f.lab f.nt (A9 k p z))/\Zf w' (Zr (λi=>n0<=i) W.heap.size w'.heap.size) f ((rd+qs.length:Nat):Int) 0 L/\Fr (λi=>i=f.ob) W w'/\∀g,(Value.slice a qs.length c).ownBlock=some g->W.heap.size<=g/\g<w'.heap.size):=λW rd L z h1 h2 h3 h4=>by rw[hob];exact Gs (λi=>n0<=i) f rd 0 L Q jj (A9 k p z) W h1 (hX W h2) (hp z h3) h4 hQ
 have HQO:=hid (ai hQ (ai hqo (ai hok hH0)));have HFS0:=hid h;obtain⟨⟨v0,fb0,_,_⟩,_⟩:=id h;obtain⟨x7,-,-,-⟩:=HX7.o w _ _ _ fb0;rw[<- hob];clear h ht hq hm hX hp hQ hqo ha hf hHB hn0 hY hob hgb hk fb0 hok hH0 hfo htw;go_enter Tryz.func224,Tryz.ntmps224;go_wp2_with fail
 refine (HNX.o w 0 HG.o.2.2.2.2.2 (Ww _)).mono ?_;rintro e w1 ⟨tm,ok,rfl,hnx1,htm,hok,hf1⟩;have S1:U (G7 w1 HB Y g rg K 0 tm ok/\Zf w1 (λi=>n0<=i) f ((0:Nat):Int) 0 []/\Fr (PN (λi=>n0<=i) f g) w w1):=by have h0:=HG.o;have h5:=h0.2.2.2.2.2.ob;exact⟨hnx1,HFS0.o.fr hf1 h0.1.1 h0.1.2.2.1 (λi h1 h3=>by omega),hf1.mono (λi _ q=>.inr q)⟩
 have S1b:=hid (ai htm hok);clear hnx1 hf1 htm hok x7;go_wp2;go_loopw [2,3,4,5,6,8,9,10] (λtm ok _ _ _ _ _ _ wr=>∃j:Nat,j<=K.length/\G7 wr HB Y g rg K j tm ok/\(tm=iv (intOf tm))/\(ok=.bool true\/ok=.bool false)/\(∃L,Gk Q f.lab f.nt k p (K.take j) L/\Zf wr (λi=>n0<=i) f ((Fo Q f.lab f.nt k p (K.take j):Nat):Int) 0 L)/\Fr (PN (λi=>n0<=i) f g) w wr) (λ_ ok _ _ _ _ _ _ wr=>2*(K.length-BT wr g.ob)+PJ ok)
 case atStart=>exact⟨0,Ww _,S1.o.1,S1b.o.1,S1b.o.2,⟨[],⟨List.nodup_nil,λx=>⟨(λq=>by cases q),λ⟨t,q,_⟩=>by cases q⟩⟩,S1.o.2.1⟩,S1.o.2.2⟩
 case round=>
  obtain⟨j,hj,hnx1,htm,hok,⟨L,hem,hfs⟩,hfr⟩:=hrel;obtain⟨rd,hrd⟩:=gn (Fo Q f.lab f.nt k p (K.take j));have hrl:rd<=100000000:=by have h1:=N3 (Q:=Q) (lab:=f.lab) (nt:=f.nt) (k:=k) (p:=p) (K.take j);have h2:=HQO.o.1;rw[WI,<- hrd] at h1;have h3:Q.length*min j K.length<=300*300000:=Nat.mul_le_mul h2 (by omega);omega
  have hLl:=WC hem.len HQO.o.1;rw[<- hrd] at hfs;have HRDE:=hid (ai hrd hem);have HR:=hid (ai hfs hfr);clear hfs hfr hem hrd S1 S1b;rcases hnx1 with ⟨hlt,rfl,rfl,hq⟩|⟨he,rfl,hq⟩
  .have HQ:=hid hq;have htd:=hq.told;clear hq hok htm;obtain⟨z,hz⟩:=gn (gz K j);have HZ:U (K.take (j+1)=K.take j++[z]/\z∈K):=by
    constructor;.rw[WK hlt,hz];unfold gz;rw[List.getD,Wx hlt];rfl
    .rw[hz];exact IL hlt
   rw[<- hz];clear hz;obtain⟨⟨v1,fb1,_,_⟩,_⟩:=id HR.o.1;obtain⟨x7,x8,⟨x9,x10,x11,x12⟩,x15⟩:=HX7.o wr _ _ _ fb1;clear fb1;obtain⟨W1,hW1⟩:=gn (wr.alloc (.cells #[iv p.s,iv p.p,iv p.o,iv p.g] 140));have P1:U (Bx W1 wr.heap.size 140 #[iv p.s,iv p.p,iv p.o,iv p.g]/\Bl wr W1):=by rw[hW1];exact⟨Bx.new _ _ _,Aa _ _⟩
   go_upto_region 4 with fail
   rw[<- hW1];clear hW1 x7 x8 x9 x10 x11 x12 x15;have HFB:U (∃v,FB W1 f (rd:Int) v 0):=by obtain⟨⟨v,q1,_⟩,_⟩:=HR.o.1.below P1.o.2;exact⟨v,q1⟩
   obtain⟨v2,fb2⟩:=HFB.o;obtain⟨x7,x8,-,-⟩:=HX7.o W1 _ _ _ fb2;clear fb2 HFB;go_wp2_with fail
   refine (HEN.o wr.heap.size W1).mono ?_;rintro e w2 ⟨rfl,hb2⟩;have P2:=hid (ai ((hb2.block _ P1.o.1.lt).trans P1.o.1) (P1.o.2.trans (hb2.mono P1.o.2.size)));clear hb2 P1 x7 x8;have y0:=(HCF.o _ _ _ _ P2.o.1).1.1;have yf:∀o,w2.frozen? (ad wr.heap.size o)=false:=λo=>by simp[World.frozen?,show w2.heap[wr.heap.size]?=_ from P2.o.1]
   have yl:=Bx.lt P2.o.1;obtain⟨fq,hfq⟩:=gn (DD k p);obtain⟨pz,hpz⟩:=gn (A9 k p z);rw[<- hfq] at y0;have P3:U (Bx (w2.setCell (ad wr.heap.size fo) (iv z)) wr.heap.size 140 #[iv pz.s,iv pz.p,iv pz.o,iv pz.g]/\Bl wr (w2.setCell (ad wr.heap.size fo) (iv z))):=by rw[hpz];exact⟨(HCF.o _ _ _ _ P2.o.1).2 z,P2.o.2.setCell (Wu _) _⟩
   have HPZ:U (pz=A9 k p z):=hpz;clear hfq hpz;go_upto_region 6 with fail
   generalize w2.setCell (ad wr.heap.size fo) (iv z)=w3 at P3 ⊢;clear y0 yf yl P2;have S3:U (Zf w3 (λi=>n0<=i) f (rd:Int) 0 L/\Below H0 w w3/\FQ w3 HB Y g rg (j+1) K/\Fr (PN (λi=>n0<=i) f g) w w3/\wr.heap.size<w3.heap.size/\w.heap.size<=wr.heap.size):=by
    have hfr3:Fr (PN (λi=>n0<=i) f g) w w3:=HR.o.2.trans (Fr.ofBelow (P:=PN (λi=>n0<=i) f g) P3.o.2) (λ_ _ q=>q) (λ_ _ q=>q);refine⟨HR.o.1.below P3.o.2,hfr3.toBelow ?_ (λi hi q=>?_),HQ.o.below P3.o.2,hfr3,Bx.lt P3.o.1,HR.o.2.size⟩;.have h1:=HG.o;have h2:=h1.2.1;unfold CT at h2;have:=HQO.o.2.2.2.1;omega
    .have h0:=HQO.o.2.2.2;have h1:=HG.o;have h2:=h1.2.1;unfold CT at h2;rcases q with (q|q|q)|q;.omega
     .omega
     .omega
     .omega
   obtain⟨⟨v3,fb3,_,_⟩,_⟩:=id S3.o.1;obtain⟨-,-,-,x15⟩:=HX7.o w3 _ _ _ fb3;obtain⟨p0,p1,p2,p3⟩:w3.cell? (ad wr.heap.size 0)=some (iv pz.s)/\w3.cell? (ad wr.heap.size 1)=some (iv pz.p)/\w3.cell? (ad wr.heap.size 2)=some (iv pz.o)/\w3.cell? (ad wr.heap.size 3)=some (iv pz.g):=⟨P3.o.1.cell 0,P3.o.1.cell 1,P3.o.1.cell 2,P3.o.1.cell 3⟩;clear fb3;refine Au (S:=λW=>(W.cell? (ad wr.heap.size 0)=some (iv pz.s)/\W.cell? (ad wr.heap.size 1)=some (iv pz.p)/\W.cell? (ad wr.heap.size 2)=some (iv pz.o)/\W.cell? (ad wr.heap.size 3)=some (iv pz.g))/\W.cell? (ad ob 15)=some (iv (jj:Int))) 1000 (by kernel_rfl) ⟨⟨p0,p1,p2,p3⟩,x15⟩ (λhS=>?_);have hHeld:Bl w3 w3.drew:=(Wt _ _).drew;generalize w3.drew=W at hS hHeld ⊢;clear p0 p1 p2 p3 x15;refine ua 0 rfl ?_;refine ua 1 rfl ?_;refine ua 2 rfl ?_;refine ua 3 rfl ?_;refine ua 4 rfl ?_;refine ua 5 rfl ?_;refine ta 6 rfl (v:=iv (jj:Int)) ?_ ?_;.intro w' h;obtain⟨⟨p0,p1,p2,p3⟩,x15⟩:=h;go_simp
   simp only[As];refine ta 7 rfl (v:=.agg #[iv pz.s,iv pz.p,iv pz.o,iv pz.g]) ?_ ?_;.intro w' h;obtain⟨⟨p0,p1,p2,p3⟩,x15⟩:=h;go_simp
   simp only[As];refine ua 10 rfl ?_;refine AB 8 rfl (λK' hK=>?_);refine A7 rfl 207 45 49 50 _ rfl (pt ob) (iv (jj:Int)) (.agg #[iv pz.s,iv pz.p,iv pz.o,iv pz.g]) rfl rfl rfl (λ_ _=>rfl) ?_;have HRZ:=HRD.o W rd L z (S3.o.1.below hHeld) (S3.o.2.1.trans (hHeld.mono (by have h1:=HG.o;have h2:=h1.2.1;unfold CT at h2;have:=HQO.o.2.2.2.1;have:=S3.o.2.2.2.2;omega))) HZ.o.2 (by omega);rw[<- HPZ.o] at HRZ;unfold qv at HRZ;refine HRZ.mono ?_;clear HRZ;rintro e w6 ⟨a6,c6,qs,rfl,hr6,hp6,hfs6,hf6,hg6⟩;have hpb:wr.heap.size≠f.ob:=by have h1:=HG.o;have h2:=h1.2.1;unfold CT at h2;have:=S3.o.2.2.2.2;omega
   have hS6:(w6.cell? (ad wr.heap.size 0)=some (iv pz.s)/\w6.cell? (ad wr.heap.size 1)=some (iv pz.p)/\w6.cell? (ad wr.heap.size 2)=some (iv pz.o)/\w6.cell? (ad wr.heap.size 3)=some (iv pz.g))/\w6.cell? (ad ob 15)=some (iv (jj:Int)):=by obtain⟨v6,q1,_⟩:=hfs6.blk;exact⟨⟨hf6.cell hS.1.1 hpb,hf6.cell hS.1.2.1 hpb,hf6.cell hS.1.2.2.1 hpb,hf6.cell hS.1.2.2.2 hpb⟩,(HX7.o _ _ _ _ q1).2.2.2⟩
   refine⟨_,rfl,hK.out _ _ (λ_=>hS6) (λhG=>?_)⟩;clear hK K' hG hS;simp only[As];refine ua 9 rfl ?_;refine Ae (by kernel_rfl) ?_ _;clear hS6 hpb;have hl6:qs.length<=300:=by rw[hp6.length_eq];exact WC (FR _ _ _ _) HQO.o.1
   obtain⟨Z,hZ⟩:=gn (Zr (λi=>n0<=i) W.heap.size w6.heap.size);obtain⟨r1,hr1⟩:=gn (rd+qs.length);rw[<- hZ,<- hr1] at hfs6;have HZZ:U ((∀i,w6.heap.size<=i->Z i)/\(∀i,Z i->n0<=i)/\∀g,(Value.slice a6 qs.length c6).ownBlock=some g->¬ PF Z f g):=by
    have h0:=HG.o;have h1:=hHeld.size;have h2:=hf6.size;have h3:=S3.o.2.2.2.2;rw[hZ];refine⟨λi hi=>.inr hi,λi hi=>?_,λg e=>?_⟩
    .rcases hi with hi|hi;.exact hi.2
     .omega
    .have:=hg6 g e;have h4:=h0.2.1;unfold CT at h4;rintro (q|q|q|q);.omega
     .omega
     .omega
     .omega
   have HM:U (∀q,q∈qs->C7 (Gi k q)):=λq hq=>by
    have:=HQO.o.2.1 q (Of (hp6.mem_iff.1 hq));unfold Gi;split;.exact this.2
    .exact this.1
   have HRX:U (r1=Fo Q f.lab f.nt k p (K.take (j+1))/\Gk Q f.lab f.nt k p (K.take (j+1)) (Bq L (qs.map (Gi k)))):=by rw[HPZ.o] at hp6;rw[HZ.o.1,Ox,<- HRDE.o.1,<- hp6.length_eq];exact⟨hr1,HRDE.o.2.step hp6⟩
   have S6:U (BW w6 a6 qs/\Zf w6 Z f (r1:Int) 0 L/\FQ w6 HB Y g rg (j+1) K/\Fr (PN (λi=>n0<=i) f g) w w6):=by have h0:=HG.o;have h4:=h0.2.1;unfold CT at h4;have hf:=(Fr.ofBelow (P:=λi=>i=f.ob) hHeld).trans hf6 (λ_ _ q=>q) (λ_ _ q=>q);exact⟨hr6,hfs6,S3.o.2.2.1.fr hf (λq=>h0.1.1 q.symm) (λq=>h0.1.2.1 q.symm) (λi h1 _ q=>by omega),S3.o.2.2.2.1.trans hf (λ_ _ q=>q) (λ_ _ q=>.inl (.inl q))⟩
   clear hr6 hp6 hfs6 hf6 hg6 hHeld hZ hr1 S3 P3 HR HQ;go_wp2;go_loopw [8,9,10,53] (λ_ _ _ i wr=>∃i' : Nat,i'<=qs.length/\i=iv (i' : Int)/\Zf wr Z f (r1:Int) 0 (Bq L ((qs.take i').map (Gi k)))/\Fr (PF Z f) w6 wr) (λ_ _ _ i _=>qs.length-(intOf i).toNat)
   case atStart=>exact⟨0,Ww _,rfl,S6.o.2.1,Fr.refl _ _⟩
   case round=>
    obtain⟨i',hi',rfl,hfs,hfr⟩:=hrel;obtain⟨M,hMe⟩:=gn (Bq L ((qs.take i').map (Gi k)));have hMl:M.length<=600:=by rw[hMe];have:=Du ((qs.take i').map (Gi k)) L;rw[WH,WI] at this;omega
    rw[<- hMe] at hfs;have HML:=hid hMe;have HV:U (Zf wr Z f (r1:Int) 0 M/\Fr (PF Z f) w6 wr/\BW wr a6 qs/\FQ wr HB Y g rg (j+1) K):=by
     have h0:=HG.o;have h4:=h0.2.1;have h5:=S6.o.2.2.1.ob;have h6:=S6.o.2.2.1.mb;unfold CT at h4;refine⟨hfs,hfr,S6.o.1.fr hfr HZZ.o.2.2,S6.o.2.2.1.fr hfr ?_ ?_ (λi q1 q2 q=>?_)⟩
     .rintro (q|q|q);.exact h0.1.1 q.symm
      .exact h0.1.2.2.1 q.symm
      .have:=HZZ.o.2.1 _ q;omega
     .rintro (q|q|q);.exact h0.1.2.1 q.symm
      .exact h0.1.2.2.2 q.symm
      .have:=HZZ.o.2.1 _ q;omega
     .have:=h0.2.2.2.2.1 i q2;rcases q with q|q|q;.omega
      .omega
      .have:=HZZ.o.2.1 _ q;omega
    have HZR:=hid (λi hi=>HZZ.o.1 i (WC hfr.size hi));clear hfs hfr hMe;by_cases hlt2:i'<qs.length
    .obtain⟨q,hqe⟩:=gn (qs[i']);have HQE:=hid (ai hqe (HM.o q (by rw[hqe];exact WE hlt2)));obtain⟨qb,rfl,hqc⟩:∃qb,a6=some (ad qb 0)/\(wr.cell? (ad qb (i'*4))=some (iv q.s)/\wr.cell? (ad qb (i'*4+1))=some (iv q.p)/\wr.cell? (ad qb (i'*4+2))=some (iv q.o)/\wr.cell? (ad qb (i'*4+3))=some (iv q.g)):=by
      rcases HV.o.2.2.1 with h0|⟨b,e,hc⟩;.omega
      .rw[hqe];exact⟨b,e,hc i' hlt2⟩
     clear hqe;obtain⟨c0,c1,c2,c3⟩:=hqc;have i0:(0:Int)<=(i' : Int):=by omega
     have i1:(i' : Int)<(qs.length:Int):=by omega
     obtain⟨V1,hV1⟩:=gn (wr.alloc (.cells #[iv q.s,iv q.p,iv q.o,iv q.g] 140));have P1:U (Bx V1 wr.heap.size 140 #[iv q.s,iv q.p,iv q.o,iv q.g]/\Bl wr V1):=by rw[hV1];exact⟨Bx.new _ _ _,Aa _ _⟩
     go_upto_region 9 with fail
     rw[<- hV1];clear hV1 c0 c1 c2 c3;have HFB:U (∃v,FB V1 f (r1:Int) v 0):=by obtain⟨⟨v,q1,_⟩,_⟩:=HV.o.1.below P1.o.2;exact⟨v,q1⟩
     obtain⟨v2,fb2⟩:=HFB.o;obtain⟨-,x8,-,-⟩:=HX7.o V1 _ _ _ fb2;clear fb2 HFB;go_wp2_with fail
     refine (HEN.o wr.heap.size V1).mono ?_;rintro e v2w ⟨rfl,hb2⟩;have P2:=hid (ai ((hb2.block _ P1.o.1.lt).trans P1.o.1) (P1.o.2.trans (hb2.mono P1.o.2.size)));clear hb2 P1 x8;have y1:=(HCF.o _ _ _ _ P2.o.1).1.2;obtain⟨tq,htq⟩:=gn (Gi k q);rw[<- htq] at y1;have HFT:U (tq=Gi k q/\∀W,Bl v2w W->W.cell? (ad wr.heap.size tw)=some (iv tq)):=⟨htq,λW hW=>(hW.cell (Ws _ _ y1)).trans y1⟩;have HSX:U (Bq L ((qs.take (i'+1)).map (Gi k))=AH M tq):=by show _=_;rw[WK hlt2,List.map_append,List.map_cons,List.map_nil,DV,HML.o,<- HQE.o.1,htq]
     clear htq y1;go_upto_region 10 with fail
     refine Ac (S:=λW=>Bl v2w W) 6 (by kernel_rfl) (Wt _ _).drew (λW hHeld=>?_);refine tx 0 rfl ?_;refine tx 1 rfl ?_;refine tx 2 rfl ?_;refine tx 3 rfl ?_;refine tx 4 rfl ?_;refine tY 5 rfl (λw' h=>by have y1:=HFT.o.2 _ h;clear h;go_simp;rfl) ?_;refine AB 6 rfl (λK' hK=>?_);refine AF rfl 208 67 70 _ rfl (pt ob) (iv tq) rfl rfl (λ_ _=>rfl) ?_;have hbw:=P2.o.2.trans (hHeld.mono P2.o.2.size);have HFD:WS 208 #[pt ob,iv tq] W λe w'=>e=.returned (.tuple #[])/\Zf w' Z f (r1:Int) 0 (AH M tq)/\Fr (PF Z f) W w':=by rw[HE.o.1];exact CJ Z f (r1:Int) 0 M tq W (HV.o.1.below hbw) (by rw[HFT.o.1];exact HQE.o.2) (by omega) (λi hi=>HZR.o i (WC hbw.size hi))
     refine HFD.mono ?_;clear HFD;rintro e w7 ⟨rfl,hfs7,hfr7⟩;refine⟨_,rfl,hK.out _ _ (λhne=>absurd rfl hne) (λhG=>?_)⟩;clear hK K' hG;refine Ae (by kernel_rfl) ?_ _;have HX:U (Zf w7 Z f (r1:Int) 0 (Bq L ((qs.take (i'+1)).map (Gi k)))/\Fr (PF Z f) w6 w7):=by rw[HSX.o];exact⟨hfs7,(HV.o.2.1.trans (Fr.ofBelow (P:=PF Z f) hbw) (λ_ _ q=>q) (λ_ _ q=>q)).trans hfr7 (λ_ _ q=>q) (λ_ _ q=>q)⟩
     clear hfs7 hfr7 hHeld hbw HV P2;go_wp2;go_roundw;case rel=>exact⟨i'+1,by omega,by go_num,HX.o.1,HX.o.2⟩
     case measure=>simp[intOf];omega
    .obtain rfl:i'=qs.length:=by omega
     have HV2:U (Zf wr (λi=>n0<=i) f (r1:Int) 0 (Bq L (qs.map (Gi k)))/\Fr (PN (λi=>n0<=i) f g) w wr/\FQ wr HB Y g rg (j+1) K):=by
      have h0:=HG.o;have h4:=h0.2.1;unfold CT at h4;have hL2:M=Bq L (qs.map (Gi k)):=by rw[HML.o,WG]
      rw[<- hL2];exact⟨HV.o.1.mono (λi q=>HZZ.o.2.1 i q) (by omega) (by omega),S6.o.2.2.2.trans HV.o.2.1 (λ_ _ q=>q) (λi _ q=>.inl (q.imp id (Or.imp id (HZZ.o.2.1 i)))),HV.o.2.2.2⟩
     clear HV S6 HML HZR;obtain⟨⟨v4,fb4,_,_⟩,_⟩:=id HV2.o.1;obtain⟨x7,-,-,-⟩:=HX7.o wr _ _ _ fb4;clear fb4;go_wp2_with fail
     refine (HNX.o wr (j+1) HV2.o.2.2 (by omega)).mono ?_;rintro e w9 ⟨tm,ok,rfl,hnx9,htm,hok,hf9⟩;have R3:U (G7 w9 HB Y g rg K (j+1) tm ok/\(tm=iv (intOf tm))/\(ok=.bool true\/ok=.bool false)/\(∃L,Gk Q f.lab f.nt k p (K.take (j+1)) L/\Zf w9 (λi=>n0<=i) f ((Fo Q f.lab f.nt k p (K.take (j+1)):Nat):Int) 0 L)/\Fr (PN (λi=>n0<=i) f g) w w9):=by have h0:=HG.o;have h5:=HV2.o.2.2.ob;refine⟨hnx9,htm,hok,⟨_,HRX.o.2,?_⟩,HV2.o.2.1.trans hf9 (λ_ _ q=>q) (λi _ q=>.inr q)⟩;rw[<- HRX.o.1];exact HV2.o.1.fr hf9 h0.1.1 h0.1.2.2.1 (λi h1 h3=>by omega)
     have hms:2*(K.length-BT w9 g.ob)+PJ ok<2*(K.length-(j+1))+1:=by
      rcases hnx9 with ⟨a1,a2,rfl,a4⟩|⟨a1,rfl,a4⟩;.rw[a4.told];show 2*(K.length-(j+1+1))+1<_;omega
      .rw[a4.told];show 2*(K.length-(j+1))+0<_;omega
     clear hnx9 htm hok hf9 x7 HV2;go_wp2;go_roundw;case rel=>exact⟨j+1,by omega,R3.o.1,R3.o.2.1,R3.o.2.2.1,R3.o.2.2.2.1,R3.o.2.2.2.2⟩
     case measure=>rw[htd];exact hms
  .have HX:U (∃L,Gk Q f.lab f.nt k p K L/\FQ wr HB (λi=>n0<=i/\i<wr.heap.size) f ((Fo Q f.lab f.nt k p K:Nat):Int) 0 L/\FQ wr HB Y g rg K.length K/\Fr (PN (λi=>n0<=i) f g) w wr):=by
    have h0:=HG.o;have h4:=h0.2.1;unfold CT at h4;rw[he] at hq;have e:K.take j=K:=by rw[he,WG]
    have h1:=HRDE.o;rw[e] at h1;refine⟨L,h1.2,?_,hq,HR.o.2⟩;rw[<- h1.1];exact HR.o.1.fq (λi hi=>by omega) h4.1 h4.2.1
   clear hq hok htm HR HRDE he;go_wp2;go_end0
   exact⟨rfl,HX.o⟩
def V8 (HB:Nat) (f g:Fx) (T:Nat->Prop) (Po:World->List Int->Nat->Prop) (Q:List Qd) (k:Int) (p:Qd) (way:Int) (w:World) (w' : World):Prop:=
 ∃w1 K rg Y tg,FQ w1 HB Y g (rg:Nat) 0 K/\Fr T w w1/\Po w1 K rg/\FQ w' HB Y g (rg:Nat) tg K/\Fr (PN (λi=>w1.heap.size<=i) f g) w1 w'/\∃L rd,FQ w' HB (λi=>w.heap.size<=i/\i<w'.heap.size) f ((rd:Nat):Int) 0 L/\((way=0/\Gk Q f.lab f.nt k p K L/\rd=Fo Q f.lab f.nt k p K)\/(way≠0/\∃qs,qs.Perm (Fj Q f.lab f.nt p)/\rd=qs.length/\L=(Av k true K qs ([],0)).1))
theorem SP (HB:Nat) (f:Fx) (x:Value) (k:Int) (s t l:ByteArray) (bd:Bool) (oa:Option Addr) (ol oc:Nat) (hh:Int) (p:Qd) (way:Int) (jj:Nat) (w:World) (h:A0 w f) (ht:Sa f x k s t l bd oa ol oc hh p false way jj) (hf:CT HB f) (hHB:HB<=w.heap.size) :
  WS 225 #[pt f.ob] w λe w'=>e=.returned (.tuple #[])/\FQ w' HB (λi=>w.heap.size<=i/\i<w'.heap.size) f ((0:Nat):Int) 0 []/\Bl w w':=by
 have x13:=(ht.cells h.1).2.2.2.1;have HF:U (FQ w HB (λi=>w.heap.size<=i/\i<w.heap.size) f ((0:Nat):Int) 0 []):=by have h4:=hf;unfold CT at h4;exact (Dm (Z:=λi=>w.heap.size<=i) h (by omega) (by omega) h4.2.2).fq (λi hi=>by omega) h4.1 h4.2.1
 clear h ht hf hHB;go_enter Tryz.func225,Tryz.ntmps225;go_wp2;refine bodyPost_ret (results_none rfl _ _ _) rfl ?_;exact⟨rfl,HF.o,Wt _ _⟩
theorem Uy (HB H0:Nat) (f g:Fx) (ty F:Nat) (T:Nat->Prop) (Po:World->List Int->Nat->Prop) (Q:List Qd) (k:Int) (hk:k=3\/k=4\/k=5) (s t l:ByteArray) (bd:Bool) (oa:Option Addr) (ol oc:Nat) (hh:Int) (p:Qd) (way:Int) (jj:Nat) (w:World) (h:A0 w f) (ht:Sa f (.iface ty (pt g.ob)) k s t l bd oa ol oc hh p true way jj) (hv:RP ty F) (hko:KO HB F g T Po w) (hT:¬ T f.ob/\¬ T f.mb/\∀i,T i->H0<=i) (hX:∀W,Below H0 w W->Hz W f.xb Q) (hH0:H0<=f.ob/\H0<=f.mb/\H0<=g.ob) (hp0:way=0->∀W K rg,Po W K rg->∀z,z∈K->f.nt=false->jj<6/\BC (A8 jj ⟨(A9 k p z).s,(A9 k p z).p,(A9 k p z).o,f.lab⟩) 4) (hp1:way≠0->f.nt=false->jj<6/\BC (A8 jj ⟨p.s,p.p,p.o,f.lab⟩) 4) (hQ:Q.length<=300) (hqo:∀q,q∈Q->C7 q.s/\C7 q.o) (ha:BP f g) (hf:CT HB f) (hHB:HB<=w.heap.size) :
  WS 225 #[pt f.ob] w λe w'=>e=.returned (.tuple #[])/\V8 HB f g T Po Q k p way w w':=by
 obtain⟨ob,hob⟩:=gn f.ob;obtain⟨gb,hgb⟩:=gn g.ob;have HE:=hid (ai hob hgb);have HG:=hid (ai h (ai hT (ai hH0 (ai ha (ai hf hHB)))));have HX7:U (∀(W:World) rd v tl,FB W f rd v tl->W.cell? (ad ob 7)=some (.iface ty (pt gb))/\W.cell? (ad ob 13)=some (.bool true)/\W.cell? (ad ob 14)=some (iv way)):=λW rd v tl q=>by rw[hob,hgb];have:=ht.cells q;exact⟨this.1,this.2.2.2.1,this.2.2.2.2.1⟩
 have hop:=hv.mt.op gb;have hen:=hv.en;unfold GT at hop;have HK:U (WS F #[pt gb] w λe w'=>e=.returned (.tuple #[])/\∃L rg,FQ w' HB (λi=>w.heap.size<=i/\i<w'.heap.size) g (rg:Nat) 0 L/\Fr T w w'/\(∀x,x∈L->C7 x)/\L.length<=300000/\Po w' L rg):=by rw[hgb];exact hko
 have HB0:U (∀w1,Fr T w w1->Below H0 w w1):=λw1 hf1=>hf1.toBelow (by have h4:=hf;unfold CT at h4;omega) (λi hi q=>by have:=hT.2.2 i q;omega);have HFE:U (∀w1 K (rg:Nat),way=0->FQ w1 HB (λi=>w.heap.size<=i/\i<w1.heap.size) g (rg:Nat) 0 K->Fr T w w1->(∀x,x∈K->C7 x)->K.length<=300000->Po w1 K rg->WS 224 #[pt ob] w1 λe w'=>e=.returned (.tuple #[])/\∃L,Gk Q f.lab f.nt k p K L/\FQ w' HB (λi=>w1.heap.size<=i/\i<w'.heap.size) f ((Fo Q f.lab f.nt k p K:Nat):Int) 0 L/\FQ w' HB (λi=>w.heap.size<=i/\i<w1.heap.size) g (rg:Nat) K.length K/\Fr (PN (λi=>w1.heap.size<=i) f g) w1 w'):=λw1 K rg h0 hq hf1 hok hl hpo=>by have hs:=hf1.size;have h4:=hf;unfold CT at h4;rw[hob];exact Jr w1.heap.size HB _ f g (rg:Nat) K ty F Q k hk s t l bd oa ol oc hh p true way jj w H0 w1 (Dm (h.fr hf1 hT.1 hT.2.1) (by omega) (by omega) h4.2.2) ht hq hv.mt (λW hW=>hX W ((HB0.o w1 hf1).trans hW)) hH0 (λz hz=>hp0 h0 w1 K rg hpo z hz) hQ hqo ha hf (by omega) (Wu _) (λi hi=>hi.2) hok hl
 have HFA:U (∀w1 W K (rg:Nat),way≠0->FQ w1 HB (λi=>w.heap.size<=i/\i<w1.heap.size) g (rg:Nat) 0 K->Fr T w w1->Bl w1 W->WS 226 #[pt ob,.func (.method "loop.example/s01136/impl.holds") #[.iface ty (pt gb)] #[]] W λe w'=>e=.returned (.tuple #[])/\∃qs,qs.Perm (Fj Q f.lab f.nt p)/\FQ w' HB (λi=>w1.heap.size<=i/\i<w'.heap.size) f (qs.length:Int) 0 (Av k true K qs ([],0)).1/\FQ w' HB (λi=>w.heap.size<=i/\i<w1.heap.size) g (rg:Nat) 0 K/\Fr (PF (λi=>w1.heap.size<=i) f) W w'):=λw1 W K rg h0 hq hf1 hW=>by have hs:=hf1.size;have h4:=hf;unfold CT at h4;rw[hob,hgb];exact Ix w1.heap.size HB _ f g (rg:Nat) 0 K ty F Q k hk s t l bd oa ol oc hh p true way jj W ((Dm (h.fr hf1 hT.1 hT.2.1) (by omega) (by omega) h4.2.2).below hW) ht (hq.below hW) hv.mt (hX W ((HB0.o w1 hf1).trans (hW.mono (by omega)))) (hp1 h0) hQ hqo ha hf (by omega) hW.size (λi hi=>hi.2)
 obtain⟨x7,x13,-⟩:=HX7.o w _ _ _ h.1;rw[<- hob];clear h ht hv hko hT hX hH0 hp0 hp1 hQ hqo ha hf hHB hob hgb hk;go_enter Tryz.func225,Tryz.ntmps225;go_wp2_with fail
 refine HK.o.mono ?_;rintro e w1 ⟨rfl,K,rg,hq1,hf1,hok1,hl1,hpo⟩;have P1:=hid (ai hq1 (ai hf1 (ai hok1 (ai hl1 (ai hpo (HG.o.1.fr hf1 HG.o.2.1.1 HG.o.2.1.2.1))))));clear hq1 hf1 hok1 hl1 hpo x7 x13 HK hop hen;obtain⟨x7,x13,x14⟩:=HX7.o w1 _ _ _ P1.o.2.2.2.2.2.1;by_cases hw0:way=0
 .subst hw0;go_wp2_with fail
  refine (HFE.o w1 K rg (by first|trivial|rfl) P1.o.1 P1.o.2.1 P1.o.2.2.1 P1.o.2.2.2.1 P1.o.2.2.2.2.1).mono ?_;rintro e w2 ⟨rfl,L,hem,hfq,hgq,hfr⟩;have HEnd:U (V8 HB f g T Po Q k p 0 w w2):=⟨w1,K,rg,_,_,P1.o.1,P1.o.2.1,P1.o.2.2.2.2.1,hgq,hfr,L,_,hfq.mono (λi _ q=>⟨WC P1.o.2.1.size q.1,q.2⟩),.inl ⟨rfl,hem,rfl⟩⟩;clear hem hfq hgq hfr;go_wp2;go_end0
  exact⟨rfl,HEnd.o⟩
 .have hwb:(way == 0)=false:=by simp[hw0]
  have HW0:=hid hw0;clear hw0;go_wp2_with fail
  refine (HFA.o w1 w1 K rg HW0.o P1.o.1 P1.o.2.1 (Wt _ _)).mono ?_;rintro e w2 ⟨rfl,qs,hpm,hfq,hgq,hfr⟩;have HEnd:U (V8 HB f g T Po Q k p way w w2):=⟨w1,K,rg,_,_,P1.o.1,P1.o.2.1,P1.o.2.2.2.2.1,hgq,hfr.mono (λi _ q=>.inl q),_,_,hfq.mono (λi _ q=>⟨WC P1.o.2.1.size q.1,q.2⟩),.inr ⟨HW0.o,qs,hpm,rfl,rfl⟩⟩;clear hpm hfq hgq hfr;go_wp2;go_end0
  exact⟨rfl,HEnd.o⟩
end Go.Proofs.YtacpbofiipdodaaGreat
