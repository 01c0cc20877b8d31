import Derived.Test.YtcnollkkigiobaaGreatNv25
set_option linter.unusedVariables false
set_option linter.unusedSimpArgs false
set_option maxRecDepth 100000
set_option maxHeartbeats 90000000
namespace Go.Proofs.YtcnollkkigiobaaGreat
open Go Go.Deep Go.RowKit Go.Proofs.Tryz
theorem TM {t t' : TypeId} {a b:Addr} (h:Value.iface t (.pointer (some a))=Value.iface t' (.pointer (some b))):t=t'/\a=b:=by injection h with d c;injection c with c;injection c with c;exact⟨d,c⟩
theorem I8.leaf {w:World} {a:Addr} {key:ByteArray} {r:Nat} (h:I8 w (.iface 204 (.pointer (some a))) key r):UO 206 #[.pointer (some a),.string key] w λe c=>e=.returned (iv (r:Int))/\c=w:=by
 rcases h with ⟨q,e,b⟩|⟨q,e,b⟩;.rw[(TM e).2];exact b
 .exact absurd (TM e).1 (by decide)
theorem I8.inner {w:World} {a:Addr} {key:ByteArray} {r:Nat} (h:I8 w (.iface 174 (.pointer (some a))) key r):UO 189 #[.pointer (some a),.string key] w λe c=>e=.returned (iv (r:Int))/\c=w:=by
 rcases h with ⟨q,e,b⟩|⟨q,e,b⟩;.exact absurd (TM e).1 (by decide)
 .rw[(TM e).2];exact b
theorem Ok (j:Nat) (hj:j<6) (p:Qd) (X:Cx (A7 j p) 4) (b o:Nat) (w:World) (n:Nat) (t:Ro n) (v:Value) (hh:Nat) (V:w.cell? (ad b o)=some (.func (.func (BY j)) #[] #[])) (ae:w.cell? (ad b (o+1))=some v)
  (ht:FZ (λbb=>bb<w.heap.size) w n t v) (hb:Aq n true t hh) (P:BI (Ab n t)) (z:(Ab n t).length<=300) (hK:∀k,k∈Ab n t->k.size=16) (L:List Qd) (hL:L=((Ab n t).map (Al j)).filter (λq=>Cr q p)) :
  UO 60 #[.pointer (some (ad b o)),qv p] w (UP w (iv (L.length:Int))):=by
 obtain⟨m,hm⟩:=Na (A7 j p);have ab:∀W:World,UO 72 #[.func (.func (BY j)) #[] #[],.agg #[iv p.s,iv p.p,iv p.o,iv p.g]] W (UP W (.tuple #[.string (FJ (A7 j p) m),.string (JD (A7 j p) m)])):=λW=>KZ j hj p m hm (λi B=>(X i B).1) W;have J:U (∀W:World,UO 72 #[.func (.func (BY j)) #[] #[],.agg #[iv p.s,iv p.p,iv p.o,iv p.g]] W (UP W (.tuple #[.string (FJ (A7 j p) m),.string (JD (A7 j p) m)]))):=ab;have I:U (∀(W:World) (u:ByteArray),Bl w W->I8 W v u (Bs u (Ab n t))):=λW u l=>PK u W _ n t v true hh (ht.below l) hb P (by omega);have T:=Uo _ _ V;have af:=ht.count;have Z:U (∀W:World,Bl w W->W.cell? (ad b o)=some (.func (.func (BY j)) #[] #[])/\W.cell? (ad b (o+1))=some v):=λW l=>⟨by rw[l.cell (show b<w.heap.size from T)];exact V,by rw[l.cell (show b<w.heap.size from T)];exact ae⟩;have r:U (Jw (A7 j p) m/\Cx (A7 j p) 4/\j<6/\(∀k,k∈Ab n t->k.size=16)/\L=((Ab n t).map (Al j)).filter (λq=>Cr q p)):=⟨hm,X,hj,hK,hL⟩;obtain⟨K,_,aa,ce,hv⟩:=af;have D:U (∀W:World,Bl w W->UO 157 #[pt K] W λe A=>e=.returned (iv ((Ab n t).length:Int))/\A=W):=λW l=>BK K _ W (by rw[l.cell (show K<w.heap.size from aa)];exact ce);clear X V ae ht hb P ab hm hj hK hL ce aa T;rcases hv with rfl|rfl
 .have h:=Ae (λW u l=>(I.o W u l).leaf);clear I;unfold qv;have Hc:=Z.o _ (Aa w (.cells #[iv p.s,iv p.p,iv p.o,iv p.g] 34));obtain⟨c0,c1⟩:=Hc;have F:=Bx.new w #[iv p.s,iv p.p,iv p.o,iv p.g] 34;have y0:=F.cell 0;have y1:=F.cell 1;have y2:=F.cell 2;have y3:=F.cell 3;simp at y0 y1 y2 y3;go_enter func60,ntmps60;go_wp2;go_region_with (go_at_call 72;refine (J.o _).mono ?_;rintro e O ⟨rfl,G⟩)
  all_goals
   have E:=Ae (((Aa w (.cells #[iv p.s,iv p.p,iv p.o,iv p.g] 34)).drew).trans (G.mono (by simp)))
   obtain⟨d0,d1⟩:=Z.o O E.o
   clear G c0 c1 y0 y1 y2 y3 F J Z
   obtain⟨H,a⟩:=gn ((Ab n t).length)
   obtain⟨Y,f⟩:=gn (FJ (A7 j p) m)
   obtain⟨B,c⟩:=gn (JD (A7 j p) m)
   rw[<- f,<- c]
   cases m with
   | zero=>
    have hq:B.toList.isEmpty=true:=by
     have e:({ data:=#[] }:ByteArray).toList=[]:=by unfold ByteArray.toList;unfold ByteArray.toList.loop;rfl
     rw[c]
     show ({ data:=#[] }:ByteArray).toList.isEmpty=true
     rw[e]
     rfl
    have N:U (H=L.length):=by
     show H=L.length
     rw[r.o.2.2.2.2,Ik r.o.2.2.1 r.o.1 r.o.2.1,a]
    have HB:U (UO 157 #[pt K] O λe A=>e=.returned (iv (H:Int))/\A=O):=by
     rw[a]
     exact D.o O E.o
    clear a f c D h
    go_wp2_with fail
    (with_reducible refine HB.o.mono ?_)
    rintro e w3 ⟨rfl,Q⟩
    subst Q
    go_wp2
    go_ret
    exact⟨by rw[<- N.o];rfl,E.o⟩
   | succ m=>
    have hq:B.toList.isEmpty=false:=by
     rw[c,ByteArray.toList_eq,GL]
     cases EJ (A7 j p) m <;> rfl
    obtain⟨C,d⟩:=gn (Bs B (Ab n t))
    obtain⟨M,y⟩:=gn (Bs Y (Ab n t))
    have ag:C<=H:=by rw[d,a];exact List.length_filter_le _ _
    have N:U (C=M+L.length):=by
     show C=_
     rw[r.o.2.2.2.2,d,y,c,f]
     exact ID r.o.2.2.1 r.o.1 r.o.2.1 r.o.2.2.2.1
    have ah:M<=C:=by rw[N.o];omega
    have S:U (∀W:World,Bl w W->UO 206 #[pt K,.string B] W λe A=>e=.returned (iv (C:Int))/\A=W):=by rw[d];exact λW l=>h.o W B l
    have R:U (∀W:World,Bl w W->UO 206 #[pt K,.string Y] W λe A=>e=.returned (iv (M:Int))/\A=W):=by rw[y];exact λW l=>h.o W Y l
    have ac:H<=300:=by rw[a];exact z
    clear a f c D h d y z
    go_wp2
    go_region_with (go_at_call 206;first|((with_reducible refine (S.o _ E.o.drew).mono ?_);rintro e w5 ⟨rfl,x⟩;subst x)|((with_reducible refine (R.o _ E.o.drew).mono ?_);rintro e w5 ⟨rfl,x⟩;subst x))
    all_goals
     go_wp2
     go_ret
     have hw:IntKind.i64.wrap ((C:Int)-(M:Int))=(L.length:Int):=by
      have:=N.o
      rw[Uv]
      omega
     exact⟨by rw[hw];rfl,E.o.drew⟩
 .have h:=Ae (λW u l=>(I.o W u l).inner);clear I;unfold qv;have Hc:=Z.o _ (Aa w (.cells #[iv p.s,iv p.p,iv p.o,iv p.g] 34));obtain⟨c0,c1⟩:=Hc;have F:=Bx.new w #[iv p.s,iv p.p,iv p.o,iv p.g] 34;have y0:=F.cell 0;have y1:=F.cell 1;have y2:=F.cell 2;have y3:=F.cell 3;simp at y0 y1 y2 y3;go_enter func60,ntmps60;go_wp2;go_region_with (go_at_call 72;refine (J.o _).mono ?_;rintro e O ⟨rfl,G⟩)
  all_goals
   have E:=Ae (((Aa w (.cells #[iv p.s,iv p.p,iv p.o,iv p.g] 34)).drew).trans (G.mono (by simp)))
   obtain⟨d0,d1⟩:=Z.o O E.o
   clear G c0 c1 y0 y1 y2 y3 F J Z
   obtain⟨H,a⟩:=gn ((Ab n t).length)
   obtain⟨Y,f⟩:=gn (FJ (A7 j p) m)
   obtain⟨B,c⟩:=gn (JD (A7 j p) m)
   rw[<- f,<- c]
   cases m with
   | zero=>
    have hq:B.toList.isEmpty=true:=by
     have e:({ data:=#[] }:ByteArray).toList=[]:=by unfold ByteArray.toList;unfold ByteArray.toList.loop;rfl
     rw[c]
     show ({ data:=#[] }:ByteArray).toList.isEmpty=true
     rw[e]
     rfl
    have N:U (H=L.length):=by
     show H=L.length
     rw[r.o.2.2.2.2,Ik r.o.2.2.1 r.o.1 r.o.2.1,a]
    have HB:U (UO 157 #[pt K] O λe A=>e=.returned (iv (H:Int))/\A=O):=by
     rw[a]
     exact D.o O E.o
    clear a f c D h
    go_wp2_with fail
    (with_reducible refine HB.o.mono ?_)
    rintro e w3 ⟨rfl,Q⟩
    subst Q
    go_wp2
    go_ret
    exact⟨by rw[<- N.o];rfl,E.o⟩
   | succ m=>
    have hq:B.toList.isEmpty=false:=by
     rw[c,ByteArray.toList_eq,GL]
     cases EJ (A7 j p) m <;> rfl
    obtain⟨C,d⟩:=gn (Bs B (Ab n t))
    obtain⟨M,y⟩:=gn (Bs Y (Ab n t))
    have ag:C<=H:=by rw[d,a];exact List.length_filter_le _ _
    have N:U (C=M+L.length):=by
     show C=_
     rw[r.o.2.2.2.2,d,y,c,f]
     exact ID r.o.2.2.1 r.o.1 r.o.2.1 r.o.2.2.2.1
    have ah:M<=C:=by rw[N.o];omega
    have S:U (∀W:World,Bl w W->UO 189 #[pt K,.string B] W λe A=>e=.returned (iv (C:Int))/\A=W):=by rw[d];exact λW l=>h.o W B l
    have R:U (∀W:World,Bl w W->UO 189 #[pt K,.string Y] W λe A=>e=.returned (iv (M:Int))/\A=W):=by rw[y];exact λW l=>h.o W Y l
    have ac:H<=300:=by rw[a];exact z
    clear a f c D h d y z
    go_wp2
    go_region_with (go_at_call 189;first|((with_reducible refine (S.o _ E.o.drew).mono ?_);rintro e w5 ⟨rfl,x⟩;subst x)|((with_reducible refine (R.o _ E.o.drew).mono ?_);rintro e w5 ⟨rfl,x⟩;subst x))
    all_goals
     go_wp2
     go_ret
     have hw:IntKind.i64.wrap ((C:Int)-(M:Int))=(L.length:Int):=by
      have:=N.o
      rw[Uv]
      omega
     exact⟨by rw[hw];rfl,E.o.drew⟩
end Go.Proofs.YtcnollkkigiobaaGreat
