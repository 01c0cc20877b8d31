import Derived.Test.YtcnollkkigiobaaGreatNv28
import Derived.Test.YtcnollkkigiobaaGreatNv29
set_option linter.unusedVariables false
set_option linter.unusedSimpArgs false
set_option maxRecDepth 100000
set_option maxHeartbeats 90000000
namespace Go.Proofs.YtcnollkkigiobaaGreat
open Go Go.Deep Go.RowKit Go.Proofs.Tryz
def TF (w:World) (n:Nat) (M:Nat->Nat) (T:Nat->Nat->Tn) (q:Qd) (e:Ending) (w' : World):Prop:=
 Bl w w'/\((CH n M T q/\∃a c M' T' us lo hi,e=.returned (.agg #[.bool true,.slice a 6 c])/\AJ Ar w' (w.heap.size+3) (.slice a 6 c) 6 M' T' us lo hi/\∀i,i<6->NO (M i) (T i) (AA i q) (M' i) (T' i))\/
  (¬ CH n M T q/\∃a c us lo hi,e=.returned (.agg #[.bool false,.slice a n c])/\AJ Ar w' (w.heap.size+3) (.slice a n c) n M T us lo hi))
theorem Sn (a:Option Addr) (n c:Nat) (M:Nat->Nat) (T:Nat->Nat->Tn) (q:Qd) (w:World) (h:Ci w a n M T) (hn:n<=1048576) (hN:BF n M T) :
  UO 22 #[.agg #[.slice a n c],qv q] w (TF w n M T q):=by
 have HR:U (Ci w a n M T/\BF n M T):=⟨h,hN⟩;clear h hN;obtain⟨m,al⟩:∃m,m=((w.alloc (.cells #[.slice a n c] 32)).alloc (.cells #[iv q.s,iv q.p,iv q.o,iv q.g] 34)).alloc (.cells #[.bool false,.slice none 0 0] 42):=⟨_,rfl⟩;have B0:U (Bx m w.heap.size 32 #[.slice a n c]/\Bx m (w.heap.size+1) 34 #[iv q.s,iv q.p,iv q.o,iv q.g]/\Bx m (w.heap.size+2) 42 #[.bool false,.slice none 0 0]/\Bl w m/\m.heap.size=w.heap.size+3):=by have b1:=Bx.new w #[.slice a n c] 32;have b2:=Bx.new (w.alloc (.cells #[.slice a n c] 32)) #[iv q.s,iv q.p,iv q.o,iv q.g] 34;have b3:=Bx.new ((w.alloc (.cells #[.slice a n c] 32)).alloc (.cells #[iv q.s,iv q.p,iv q.o,iv q.g] 34)) #[.bool false,.slice none 0 0] 42;simp only[UF] at b2 b3;rw[al];exact⟨(b1.alloc _).alloc _,b2.alloc _,b3,((Aa _ _).alloc (by simp) _).alloc (by simp;omega) _,by simp⟩
 have A:U (∀W,Below (w.heap.size+3) m W->Bl w W):=λW r=>B0.o.2.2.2.1.trans (r.mono (by omega));have B:U (∀W,Below (w.heap.size+3) m W->W.cell? (ad w.heap.size 0)=some (.slice a n c)/\(W.cell? (ad (w.heap.size+1) 0)=some (iv q.s)/\W.cell? (ad (w.heap.size+1) 1)=some (iv q.p)/\W.cell? (ad (w.heap.size+1) 2)=some (iv q.o)/\W.cell? (ad (w.heap.size+1) 3)=some (iv q.g))/\W.cell? (ad (w.heap.size+2) 0)=some (.bool false)/\W.cell? (ad (w.heap.size+2) 1)=some (.slice none 0 0)/\w.heap.size+2<W.heap.size/\∀i,W.frozen? (ad (w.heap.size+2) i)=false):=λW r=>by have b1:=B0.o.1.below' r (by omega);have b2:=B0.o.2.1.below' r (by omega);have b3:=B0.o.2.2.1.below' r (by omega);exact⟨b1.cell 0,⟨b2.cell 0,b2.cell 1,b2.cell 2,b2.cell 3⟩,b3.cell 0,b3.cell 1,b3.lt,λi=>b3.frozen i⟩
 have a8:U (∀W,Below (w.heap.size+3) m W->UO 25 #[.agg #[.slice a n c]] W (O8 W (VI n M T))):=λW r=>F3 a n c M T W (HR.o.1.rd.below (A.o W r)) hn HR.o.2;have ak:U (∀W W' : World,Below (w.heap.size+3) m W->Bl W W'->Below (w.heap.size+3) m W'):=λW W' h1 h2=>h1.trans (h2.mono (by have:=h1.size;rw[B0.o.2.2.2.2] at this;exact this));unfold qv;by_cases Z:VI n M T;case neg=>
  have cr:U (∀W,Below (w.heap.size+3) m W->UO 25 #[.agg #[.slice a n c]] W (UP W (.bool false))):=λW r=>(a8.o W r).mono λe w' ⟨b,h1,h2,h3⟩=>by
   cases b with
   | true=>exact absurd (h2.1 rfl) Z
   | false=>exact⟨h1,h3⟩
  have bn:U (¬ CH n M T q):=λhk=>Z hk.1;clear a8 Z;go_enter func22,ntmps22;go_upto_region 1 with fail
  rw[<- al];clear al;have K0:U (Below (w.heap.size+3) m m.drew):=(Up _ _).drew;obtain⟨x0,⟨q0,q1,X,q3⟩,_⟩:=B.o m (Up _ _);go_cut [19] from 7 to 19 (λbo wx=>bo=.bool true/\Below (w.heap.size+3) m wx)
  case first=>
   first
    | go_region_with (first|(go_at_call 25;(with_reducible refine (cr.o _ K0.o).mono ?_);rintro e F ⟨rfl,z⟩;have K1:U (Below (w.heap.size+3) m F):=ak.o _ F K0.o z;clear z x0 q0 q1 X q3)|fail)
    | fail
   all_goals
    go_wp2
    go_meet
    case rel=>exact⟨rfl,K1.o⟩
  case rest=>
  obtain⟨F,rfl⟩:∃x,x=wc:=⟨_,rfl⟩;obtain⟨rfl,z⟩:=hcut;have K1:U (Below (w.heap.size+3) m F):=z;clear z x0 q0 q1 X q3 cr K0;have f0:=(B.o F K1.o).1;obtain⟨bz,bq,bx,bv⟩:=(B.o F K1.o).2.2;have br:U (UO 42 #[.agg #[.slice a n c]] F (G9 F n M T)):=Cv a n c M T F (HR.o.1.rd.below (A.o F K1.o)) hn HR.o.2;go_wp2_with fail
  (with_reducible refine br.o.mono ?_)
  rintro e wz ⟨az,cz,us,lo,P,rfl,a6,a5⟩;have ac:U (Below (w.heap.size+3) m wz/\AJ Ar wz (w.heap.size+3) (.slice az n cz) n M T us lo P):=by
   have q1:=K1.o;have X:w.heap.size+3<=F.heap.size:=by have:=q1.size;rw[B0.o.2.2.2.2] at this;exact this
   exact⟨q1.trans (a5.mono X),a6.low (by omega)⟩
  obtain⟨aw,a1,b9,cj⟩:=(B.o wz ac.o.1).2.2;clear f0 bz bq bx bv a6 a5;go_wp2;refine bodyPost_ret (v:=.agg #[.bool false,.slice az n cz]) (by simp[results,results22,go_sem,aw,a1]) rfl ⟨((A.o wz ac.o.1).setCell (by simp;try omega) _).setCell (by simp;try omega) _,.inr ⟨bn.o,az,cz,us,lo,P,rfl,?_⟩⟩;exact (ac.o.2.setO Ar.pl (by simp) _).setO Ar.pl (by simp) _
 have e6:n=6:=Z.1;subst e6;have cf:U (∀W,Below (w.heap.size+3) m W->UO 25 #[.agg #[.slice a 6 c]] W (UP W (.bool true))):=λW r=>(a8.o W r).mono λe w' ⟨b,h1,h2,h3⟩=>by
  cases b with
  | false=>exact absurd (h2.2 Z) (by decide)
  | true=>exact⟨h1,h3⟩
 have ch:U (VI 6 M T):=Z;clear Z a8;obtain⟨t0,bd,bm,bl⟩:=ch.o.2.1 0 (by omega);obtain⟨L0,ah⟩:∃L0,L0=(Ab 21 t0).map (Al 0):=⟨_,rfl⟩;have bw:L0.length<=300:=by rw[ah,UD];exact bm
 have bj:U (CH 6 M T q↔q∈L0):=by
  constructor;.intro hk;rw[ah];exact hk.2 t0 bd
  .intro hk;refine⟨ch.o,λt ht=>?_⟩;have e:=CR ht bd;subst e;rw[ah] at hk;exact hk
 have cb:U (q∈L0->AQ q=true):=by intro hm;rw[ah] at hm;obtain⟨k,hk,e⟩:=List.mem_map.1 hm;rw[<- e];exact (bl k hk).2
 obtain⟨C,E,ea,bu,ay⟩:∃C E,a=some (ad C E)/\C<w.heap.size/\∀i,i<6->∃ai ci,w.cell? (ad C (E+i))=some (.slice ai (M i) ci)/\CM EY w ai (M i) (T i):=by
  rcases HR.o.1 with h0|⟨C,E,e,hc⟩;.omega
  .obtain⟨ai,ci,s0,_⟩:=hc 0 (by omega);exact⟨C,E,e,Uo _ _ s0,hc⟩
 subst ea;have D:U (C<w.heap.size/\∀i,i<6->∃ai ci,w.cell? (ad C (E+i))=some (.slice ai (M i) ci)/\CM EY w ai (M i) (T i)):=⟨bu,ay⟩;clear bu ay;obtain⟨a0,c0,s0,cq⟩:=D.o.2 0 (by omega);have bt:U (∀W,Below (w.heap.size+3) m W->W.cell? (ad C E)=some (.slice a0 (M 0) c0)):=λW r=>by rw[(A.o W r).cell (show ((ad C E):Addr).block<w.heap.size from D.o.1)];simpa using s0
 obtain⟨ll,b0⟩:∃ll,ll=L0.length:=⟨_,rfl⟩;obtain⟨bh,bp⟩:∃bh:Bool,(bh=true↔q∈L0):=by
  by_cases h:q∈L0;.exact⟨true,by simp[h]⟩
  .exact⟨false,by simp[h]⟩
 have cc:U (∀W,Below (w.heap.size+3) m W->UO 33 #[.agg #[.slice a0 (M 0) c0],iv 0] W λe w'=>∃a' c',e=.returned (.slice a' ll c')/\FX w' a' L0/\Bl W w'):=λW r=>by rw[b0];exact CB 0 (by omega) a0 (M 0) c0 (T 0) t0 W (cq.rd.below (A.o W r)) bd (HR.o.2 0 (by omega)).2 (λk hk=>(bl k hk).1) bm L0 ah
 have bg:U (∀W a3 c3,FX W a3 L0->UO 43 #[.slice a3 ll c3,.agg #[iv q.s,iv q.p,iv q.o,iv q.g]] W (UP W (.bool bh))):=λW a3 c3 hr=>(Fu a3 ll c3 L0 q W hr b0 (by omega)).mono λe w' ⟨b,h1,h2,h3⟩=>by have e:b=bh:=Bool.eq_iff_iff.2 (h2.trans bp.symm);rw[<- e];exact⟨h1,h3⟩
 have a9:U (bh=true↔q∈L0):=bp;clear s0 cq bd bm bl ah b0 bp;go_enter func22,ntmps22;go_upto_region 1 with fail
 rw[<- al];clear al;have K0:U (Below (w.heap.size+3) m m.drew):=(Up _ _).drew;obtain⟨x0,⟨q0,q1,X,q3⟩,_⟩:=B.o m (Up _ _);have bc:=bt.o m (Up _ _);obtain⟨nb,ag⟩:∃nb:Bool,nb=!bh:=⟨_,rfl⟩;have be:U (nb=!bh):=ag;clear ag;go_cut [19] from 7 to 19 (λbo wx=>bo=.bool nb/\Below (w.heap.size+3) m wx)
 case first=>
  go_region_with (first
   | (go_at_call 25;(with_reducible refine (cf.o _ K0.o).mono ?_);rintro e F ⟨rfl,z⟩;have K1:U (Below (w.heap.size+3) m F):=ak.o _ F K0.o z;clear z x0 q0 q1 X q3 bc;obtain⟨x0,⟨q0,q1,X,q3⟩,_⟩:=B.o F K1.o;have bc:=bt.o F K1.o)
   | (go_at_call 33;(with_reducible refine (cc.o _ K1.o).mono ?_);rintro e w3 ⟨a3,c3,rfl,ca,cm⟩;have K3:U (Below (w.heap.size+3) m w3):=ak.o F w3 K1.o cm;have ct:U (UO 43 #[.slice a3 ll c3,.agg #[iv q.s,iv q.p,iv q.o,iv q.g]] w3 (UP w3 (.bool bh))):=bg.o w3 a3 c3 ca;clear cm ca x0 q0 q1 X q3 bc;obtain⟨x0,⟨q0,q1,X,q3⟩,_⟩:=B.o w3 K3.o)
   | (go_at_call 43;((with_reducible refine ct.o.mono ?_);rintro e f ⟨rfl,an⟩;have K4:U (Below (w.heap.size+3) m f):=ak.o w3 f K3.o an;clear an x0 q0 q1 X q3)))
  all_goals
   go_wp2
   go_meet
   case rel=>exact⟨by rw[be.o],K4.o⟩
 case rest=>
 obtain⟨f,rfl⟩:∃x,x=wc:=⟨_,rfl⟩;obtain⟨rfl,an⟩:=hcut;have K4:U (Below (w.heap.size+3) m f):=an;clear an x0 q0 q1 X q3 bc cf cc bg bt K0;cases bh with
 | false=>
  have ag:nb=true:=be.o;subst ag;have bn:U (¬ CH 6 M T q):=λhk=>absurd (a9.o.2 (bj.o.1 hk)) (by decide);have f0:=(B.o f K4.o).1;obtain⟨bz,bq,bx,bv⟩:=(B.o f K4.o).2.2;have br:U (UO 42 #[.agg #[.slice (some (ad C E)) 6 c]] f (G9 f 6 M T)):=Cv (some (ad C E)) 6 c M T f (HR.o.1.rd.below (A.o f K4.o)) hn HR.o.2;go_wp2_with fail
  (with_reducible refine br.o.mono ?_)
  rintro e wz ⟨az,cz,us,lo,P,rfl,a6,a5⟩;have ac:U (Below (w.heap.size+3) m wz/\AJ Ar wz (w.heap.size+3) (.slice az 6 cz) 6 M T us lo P):=by
   have q1:=K4.o;have X:w.heap.size+3<=f.heap.size:=by have:=q1.size;rw[B0.o.2.2.2.2] at this;exact this
   exact⟨q1.trans (a5.mono X),a6.low (by omega)⟩
  obtain⟨aw,a1,b9,cj⟩:=(B.o wz ac.o.1).2.2;clear f0 bz bq bx bv a6 a5;go_wp2;refine bodyPost_ret (v:=.agg #[.bool false,.slice az 6 cz]) (by simp[results,results22,go_sem,aw,a1]) rfl ⟨((A.o wz ac.o.1).setCell (by simp;try omega) _).setCell (by simp;try omega) _,.inr ⟨bn.o,az,cz,us,lo,P,rfl,?_⟩⟩;exact (ac.o.2.setO Ar.pl (by simp) _).setO Ar.pl (by simp) _
 | true=>
 have ag:nb=false:=be.o;subst ag;have co:U (CH 6 M T q):=bj.o.2 (a9.o.1 rfl);have ce:AQ q=true:=cb.o (a9.o.1 rfl);clear bj a9 bw ak cb be;have K6:U (Bx (f.alloc (.cells #[.slice none 0 0] 32)) f.heap.size 32 #[.slice none 0 0]/\Below (w.heap.size+3) m (f.alloc (.cells #[.slice none 0 0] 32))/\w.heap.size+3<=f.heap.size/\(f.alloc (.cells #[.slice none 0 0] 32)).heap.size=f.heap.size+1):=by
  have X:w.heap.size+3<=f.heap.size:=by have:=K4.o.size;rw[B0.o.2.2.2.2] at this;exact this
  exact⟨Bx.new _ _ _,K4.o.trans ((Aa _ _).mono X),X,by simp⟩
 go_upto_region 4 with fail
 obtain⟨W6,b7⟩:∃W6,W6=f.alloc (.cells #[.slice none 0 0] 32):=⟨_,rfl⟩;rw[<- b7] at K6 ⊢;obtain⟨y,b4⟩:∃y,y=f.heap.size:=⟨_,rfl⟩;rw[<- b4] at K6 ⊢;clear b7 b4 K4;go_wp2;go_loopw [6] (λi wr=>∃(k:Nat) (v:Value) (M' : Nat->Nat) (T' : Nat->Nat->Tn) (us:List Value) (lo P:Nat->Nat),k<=6/\i=iv k/\AJ Ar wr (y+1) v k M' T' us lo P/\Bx wr y 32 #[v]/\Below y W6 wr/\∀i,i<k->NO (M i) (T i) (AA i q) (M' i) (T' i)) (λi _=>6-(intOf i).toNat)
 case atStart=>exact⟨0,_,λ_=>0,λ_ _=>⟨false,0,λ_=>{ data:=#[] },0,λ_=>0,0⟩,[],_,_,Us _,rfl,AJ.nil _ _ _ _ _,K6.o.1,Up _ _,λi P=>absurd P (Uu _)⟩
 case round=>
  obtain⟨k,v,M',T',us,lo,P,hk,rfl,ae,ap,L,ar⟩:=hrel;obtain⟨R,V,ev⟩:=ae.form;subst ev;have hz:=L.size;have de:=K6.o.2.2.2;have cn:=K6.o.2.2.1;have N:U (AJ Ar wr (y+1) (.slice R k V) k M' T' us lo P/\Below y W6 wr/\y+1<=wr.heap.size/\Below (w.heap.size+3) m wr/\Bx wr y 32 #[.slice R k V]/\∀i,i<k->NO (M i) (T i) (AA i q) (M' i) (T' i)):=⟨ae,L,by omega,K6.o.2.1.trans (L.mono cn),ap,ar⟩;have k0:(0:Int)<=(k:Int):=by omega
  by_cases aj:k<6
  .have k1:(k:Int)<6:=by omega
   obtain⟨x1,⟨p0,p1,p2,p3⟩,_⟩:=B.o wr N.o.2.2.2.1;obtain⟨ai,ci,s9,cp⟩:=D.o.2 k aj;have bs:=A.o wr N.o.2.2.2.1;have x2:wr.cell? (ad C (E+k))=some (.slice ai (M k) ci):=by rw[bs.cell (show ((ad C (E+k)):Addr).block<w.heap.size from D.o.1)];exact s9
   have x0:wr.cell? (ad y 0)=some (.slice R k V):=by have:=ap.cell 0;simpa using this
   obtain⟨aa,af⟩:∃aa,aa=AA k q:=⟨_,rfl⟩;have dc:U (aa=AA k q):=af;have bf:U (UO 45 #[.agg #[iv q.s,iv q.p,iv q.o,iv q.g],iv (k:Int)] wr.drew λe w'=>e=.returned (.string aa)/\Below wr.drew.heap.size wr.drew w'):=by rw[af];exact El k aj q (λi P=>⟨by have:=(BS aj ce i P).1;omega,(BS aj ce i P).2⟩) wr.drew
   have HC:U (∀W:World,Bl wr W->UO 50 #[.agg #[.slice ai (M k) ci],.string aa] W (PJ W (M k) (T k) aa)):=λW hW=>Pb ai (M k) ci (T k) aa W ((cp.below bs).below hW) (HR.o.2 k aj).1 (HR.o.2 k aj).2 (by rw[af,Bq];unfold maxLen;omega);have ba:U (∀j:World,Bl wr j->j.cell? (ad y 0)=some (.slice R k V)/\j.cell? (ad w.heap.size 0)=some (.slice (some (ad C E)) 6 c)/\j.cell? (ad C (E+k))=some (.slice ai (M k) ci)/\j.cell? (ad (w.heap.size+1) 0)=some (iv q.s)/\j.cell? (ad (w.heap.size+1) 1)=some (iv q.p)/\j.cell? (ad (w.heap.size+1) 2)=some (iv q.o)/\j.cell? (ad (w.heap.size+1) 3)=some (iv q.g)):=λj r=>⟨(r.cell (Uo _ _ x0)).trans x0,(r.cell (Uo _ _ x1)).trans x1,(r.cell (Uo _ _ x2)).trans x2,(r.cell (Uo _ _ p0)).trans p0,(r.cell (Uo _ _ p1)).trans p1,(r.cell (Uo _ _ p2)).trans p2,(r.cell (Uo _ _ p3)).trans p3⟩;have cl:U (∀j:World,Bl wr j->∀O:Obj,(j.alloc O).cell? (ad y 0)=some (.slice R k V)/\(j.alloc O).cell? (ad w.heap.size 0)=some (.slice (some (ad C E)) 6 c)/\(j.alloc O).cell? (ad C (E+k))=some (.slice ai (M k) ci)/\(j.alloc O).cell? (ad (w.heap.size+1) 0)=some (iv q.s)/\(j.alloc O).cell? (ad (w.heap.size+1) 1)=some (iv q.p)/\(j.alloc O).cell? (ad (w.heap.size+1) 2)=some (iv q.o)/\(j.alloc O).cell? (ad (w.heap.size+1) 3)=some (iv q.g)):=λj h O=>ba.o _ (h.trans ((Aa j O).mono h.size));have G:∀g,(Value.slice R k V).ownBlock=some g->y+1<=g:=λg e=>(Ah N.o.1.row g e).1;have bu:=D.o.1;have b8:U (∀(j f:World),Bl wr j->∀O:Obj,(j.alloc O).grownBy f (Value.slice R k V).ownBlock->(f.cell? (ad y 0)=some (.slice R k V)/\f.cell? (ad w.heap.size 0)=some (.slice (some (ad C E)) 6 c)/\f.cell? (ad C (E+k))=some (.slice ai (M k) ci)/\f.cell? (ad (w.heap.size+1) 0)=some (iv q.s)/\f.cell? (ad (w.heap.size+1) 1)=some (iv q.p)/\f.cell? (ad (w.heap.size+1) 2)=some (iv q.o)/\f.cell? (ad (w.heap.size+1) 3)=some (iv q.g))/\f.frozen? (ad y 0)=false/\y<f.heap.size):=λj f r O hg=>by have au:Bx f y 32 #[.slice R k V]:=(BB r hg G (by omega) (by have:=N.o.2.2.1;omega)).trans N.o.2.2.2.2.1;have kc:∀{p:Addr} {u:Value},p.block<y+1->wr.cell? p=some u->f.cell? p=some u:=λhp hu=>(Fs r hg G hp (Uo _ _ hu)).trans hu;exact⟨⟨by have:=au.cell 0;simpa using this,kc (by show w.heap.size<_;omega) x1,kc (by show C<_;omega) x2,kc (by show w.heap.size+1<_;omega) p0,kc (by show w.heap.size+1<_;omega) p1,kc (by show w.heap.size+1<_;omega) p2,kc (by show w.heap.size+1<_;omega) p3⟩,au.frozen 0,au.lt⟩
   have HT:U (∀j:World,Bl wr j->∀O:Obj,(j.alloc O).ownsRow (y+1) 59 1 (.slice R k V) k us):=λj h O=>Ag (Ag N.o.1.row h) (Aa _ _);have HZ:U (∀j:World,Bl wr j->y+1<=j.heap.size):=λj h=>Uy N.o.2.2.1 h.size;have db:wr.drew.cell? (ad y 0)=some (.slice R k V):=x0;have da:wr.drew.cell? (ad w.heap.size 0)=some (.slice (some (ad C E)) 6 c):=x1;have cu:wr.drew.cell? (ad C (E+k))=some (.slice ai (M k) ci):=x2;have c8:wr.drew.cell? (ad (w.heap.size+1) 0)=some (iv q.s):=p0;have cw:wr.drew.cell? (ad (w.heap.size+1) 1)=some (iv q.p):=p1;have cs:wr.drew.cell? (ad (w.heap.size+1) 2)=some (iv q.o):=p2;have c5:wr.drew.cell? (ad (w.heap.size+1) 3)=some (iv q.g):=p3;clear ae L ap ar cp G af s9 bs;go_wp2;refine Aj (S:=(λw'=>w'.cell? (ad y 0)=some (.slice R k V)/\w'.cell? (ad w.heap.size 0)=some (.slice (some (ad C E)) 6 c)/\w'.cell? (ad C (E+k))=some (.slice ai (M k) ci)/\w'.cell? (ad (w.heap.size+1) 0)=some (iv q.s)/\w'.cell? (ad (w.heap.size+1) 1)=some (iv q.p)/\w'.cell? (ad (w.heap.size+1) 2)=some (iv q.o)/\w'.cell? (ad (w.heap.size+1) 3)=some (iv q.g))) 15 (by kernel_rfl) ?_ (λd=>?_);·((try dsimp only);go_keep)
   refine tz 0 rfl ?_;refine tz 1 rfl ?_;refine tz 2 rfl ?_;refine tz 3 rfl ?_;refine tz 4 rfl ?_;refine tz 5 rfl ?_;refine tz 6 rfl ?_;refine tz 7 rfl ?_;refine tz 8 rfl ?_;refine At 9 rfl (λK H=>?_);(refine BD (by rfl) 45 35 36 _ (by rfl) _ _ (by rfl) (by rfl) (λ_ _=>rfl) ?_;refine bf.o.mono ?_;rintro e F ⟨rfl,z⟩;refine⟨_,rfl,?_⟩;obtain⟨s0,s1,s2,s3,s4,s5,s6⟩:=ba.o F (Ad z))
   refine tL H (by (try dsimp only);go_keep) ?_;clear H K d;intro d;try simp only[Ay]
   refine At 10 rfl (λK H=>?_);(refine BD (by rfl) 50 34 37 _ (by rfl) _ _ (by rfl) (by rfl) (λ_ _=>rfl) ?_;refine (HC.o F (Ad z)).mono ?_;rintro e j ⟨ck,dd,a2,m2,c2,N2,rfl,cg,b5⟩;refine⟨_,rfl,?_⟩;have Y:U (Bl wr j):=(Ad z).trans (ck.mono (Ad z).size);obtain⟨y0,y1,y2,y3,y4,y5,y6⟩:=ba.o j Y.o)
   refine tL H (by (try dsimp only);go_keep) ?_;clear H K d;intro d;try simp only[Ay]
   refine At 11 rfl (λK H=>?_);go_simp;refine tL H (by (try dsimp only);go_keep) ?_;clear H K d;intro d;try simp only[Ay]
   refine At 12 rfl (λK H=>?_);(refine Ej (by rfl) (by rfl) (by rfl) ?_;obtain⟨z0,z1,z2,z3,z4,z5,z6⟩:=cl.o j Y.o (.cells #[.slice a2 m2 c2] 59))
   refine tL H (by (try dsimp only);go_keep) ?_;clear H K d;intro d;try simp only[Ay]
   refine At 13 rfl (λK H=>?_);(refine Dm (by rfl) (.tmp 29) (.tmp 40) (by rfl) (y+1) k (.slice R k V) us (by rfl) _ (HT.o j Y.o _) (by rfl) rfl (by omega) (HZ.o j Y.o) ?_;intro v4 f ab Q bi;obtain⟨a4,c4,e4,_⟩:=Af ab;subst e4;obtain⟨⟨v0,v1,v2,v3,v5,v6,v7⟩,vf,vl⟩:=b8.o j f Y.o _ Q)
   refine tL H (by (try dsimp only);go_keep) ?_;clear H K d;intro d;try simp only[Ay]
   refine At 14 rfl (λK H=>?_);go_simp;refine tL H (by (try dsimp only);go_keep) ?_;clear H K d;intro d;try simp only[Ay]
   refine At 15 rfl (λK H=>?_);go_simp;refine tM H ?_;clear H K;have H7:U ((∃J I am ao a7,AJ Ar (f.setCell (ad y 0) (.slice a4 (k+1) c4)) (y+1) (.slice a4 (k+1) c4) (k+1) J I am ao a7/\∀i,i<k+1->NO (M i) (T i) (AA i q) (J i) (I i))/\Bx (f.setCell (ad y 0) (.slice a4 (k+1) c4)) y 32 #[.slice a4 (k+1) c4]/\Below y W6 (f.setCell (ad y 0) (.slice a4 (k+1) c4))):=by
    have r:=Y.o;have dg:=r.size;have c6:=N.o.2.2.1;have df:=(Ad z).size;have G:∀g,(Value.slice R k V).ownBlock=some g->y+1<=g:=λg e=>(Ah N.o.1.row g e).1;obtain⟨J,ax⟩:∃J : Nat->Nat,∀i,J i=if i=k then m2 else M' i:=⟨_,λ_=>rfl⟩;obtain⟨I,aq⟩:∃I : Nat->Nat->Tn,∀i,I i=if i=k then N2 else T' i:=⟨_,λ_=>rfl⟩;have cy:=N.o.1.congr (M':=J) (T':=I) (λi P=>⟨by rw[ax,if_neg (by omega)],by rw[aq,if_neg (by omega)]⟩);obtain⟨c1,c9,bk⟩:=cy.step Ar.pl c6 r (l:=F.heap.size+2) (by omega) (by rw[ax,aq,if_pos rfl,if_pos rfl];exact Ar.of cg) _ Q ab bi;have au:Bx f y 32 #[.slice R k V]:=(BB r Q G (by omega) (by omega)).trans N.o.2.2.2.2.1;refine⟨⟨J,I,_,c1,c9,bk.setO Ar.pl (by simp) _,λi P=>?_⟩,?_,?_⟩
    .rw[ax,aq];by_cases e:i=k
     .subst e;rw[if_pos rfl,if_pos rfl,<- dc.o];rcases b5 with ⟨_,h⟩|⟨_,h1,h2,h3⟩;.exact .inl h
      .exact .inr ⟨h1,h2,h3⟩
     .rw[if_neg e,if_neg e];exact N.o.2.2.2.2.2 i (by omega)
    .have:=au.set 0 (.slice a4 (k+1) c4);simpa using this
    .exact (((N.o.2.1.trans (r.mono (by omega))).trans ((Aa _ _).mono (by omega))).grown Q (by simp;omega) (λg e=>by have:=G g e;omega)).setCell (by simp) _
   clear cg b5 z ck ab Q bi HT ba cl b8 HZ y0 y1 y2 y3 y4 y5 y6 z0 z1 z2 z3 z4 z5 z6 v0 v1 v2 v3 v5 v6 v7 vf vl db da cu c8 cw cs c5 x0 x1 x2 p0 p1 p2 p3 s0 s1 s2 s3 s4 s5 s6 HC bf Y;go_wp2;go_roundw;case rel=>obtain⟨⟨J,I,am,ao,a7,bk,c7⟩,cx,cd⟩:=H7.o;exact⟨k+1,_,J,I,am,ao,a7,by omega,by go_num,bk,cx,cd,c7⟩
   case measure=>simp[intOf];omega
  .obtain rfl:k=6:=by omega
   have k1:¬ ((6:Nat):Int)<6:=by omega
   obtain⟨_,_,aw,a1,b9,cj⟩:=B.o wr N.o.2.2.2.1;have y1:=ap.cell 0;simp at y1;clear ae L ap ar;go_wp2;refine bodyPost_ret (v:=.agg #[.bool true,.slice R 6 V]) (by simp[results,results22,go_sem,aw,a1]) rfl ⟨((A.o wr N.o.2.2.2.1).setCell (by simp;try omega) _).setCell (by simp;try omega) _,.inl ⟨co.o,R,V,M',T',us,lo,P,rfl,?_,N.o.2.2.2.2.2⟩⟩;exact ((N.o.1.low (by omega)).setO Ar.pl (by simp) _).setO Ar.pl (by simp) _
def Pl (w:World) (Df:Nat->Nat) (yf:(q:Nat)->Ro (Df q)) (e:Ending) (w' : World):Prop:=
 Bl w w'/\∃a c T' us lo hi,e=.returned (.agg #[.slice a 6 c])/\AJ TreeAt w' (w.heap.size+2) (.slice a 6 c) 6 (λq=>Ac (Df q) (yf q)) T' us lo hi/\∀q,q<6->Am (T' q) 0 (Df q) (yf q) 0
theorem LP (xb:Nat) (A:Array Value) (n:Nat->Nat) (p:(q:Nat)->Ro (n q)) (w:World) (hx:Bx w xb 109 A)
  (hA:∀q,q<6->∃v S hh,A[q*2]?=some (.func (.func (BY q)) #[] #[])/\A[q*2+1]?=some v/\AP S w (n q) (p q) v/\(∀x,S x->x<w.heap.size)/\Aq (n q) true (p q) hh/\Ac (n q) (p q)<=100000) :
  UO 48 #[pt xb] w (Pl w n p):=by
 have HR:U (Bx w xb 109 A/\∀q,q<6->∃v S hh,A[q*2]?=some (.func (.func (BY q)) #[] #[])/\A[q*2+1]?=some v/\AP S w (n q) (p q) v/\(∀x,S x->x<w.heap.size)/\Aq (n q) true (p q) hh/\Ac (n q) (p q)<=100000):=⟨hx,hA⟩;have ap:=hx.lt;clear hx hA;obtain⟨Q,Y⟩:∃Q,Q=(w.alloc (.cells #[.slice none 0 0] 32)).alloc (.cells #[.slice none 0 0] 32):=⟨_,rfl⟩;have B0:U (Bx Q w.heap.size 32 #[.slice none 0 0]/\Bx Q (w.heap.size+1) 32 #[.slice none 0 0]/\Bl w Q/\Q.heap.size=w.heap.size+2):=by have b1:=Bx.new w #[.slice none 0 0] 32;have b2:=Bx.new (w.alloc (.cells #[.slice none 0 0] 32)) #[.slice none 0 0] 32;simp only[UF] at b2;rw[Y];exact⟨b1.alloc _,b2,(Aa _ _).alloc (by simp) _,by simp⟩
 go_enter func48,ntmps48;go_upto_region 2 with fail
 rw[<- Y];clear Y;go_wp2;go_loopw [5,8] (λ_ i wr=>∃(k:Nat) (v:Value) (V : Nat->Nat->Tn) (us:List Value) (lo hi:Nat->Nat),k<=6/\i=iv k/\AJ TreeAt wr (w.heap.size+2) v k (λq=>Ac (n q) (p q)) V us lo hi/\Bx wr (w.heap.size+1) 32 #[v]/\Below (w.heap.size+1) Q wr/\∀q,q<k->Am (V q) 0 (n q) (p q) 0) (λ_ i _=>6-(intOf i).toNat)
 case atStart=>exact⟨0,_,λ_ _=>⟨false,0,λ_=>{ data:=#[] },0,λ_=>0,0⟩,[],_,_,Us _,rfl,AJ.nil _ _ _ _ _,B0.o.2.1,Up _ _,λq hq=>absurd hq (Uu _)⟩
 case round=>
  obtain⟨k,v,V,us,lo,hi,hk,rfl,C,G,f,ae⟩:=hrel;obtain⟨s,u,ev⟩:=C.form;subst ev;have hz:=f.size;have a8:=B0.o.2.2.2;have y:U (AJ TreeAt wr (w.heap.size+2) (.slice s k u) k (λq=>Ac (n q) (p q)) V us lo hi/\Below (w.heap.size+1) Q wr/\w.heap.size+2<=wr.heap.size/\Bl w wr/\Bx wr (w.heap.size+1) 32 #[.slice s k u]/\∀q,q<k->Am (V q) 0 (n q) (p q) 0):=⟨C,f,by omega,B0.o.2.2.1.trans (f.mono (by omega)),G,ae⟩;have k0:(0:Int)<=(k:Int):=by omega
  by_cases aw:k<6
  .have k1:(k:Int)<6:=by omega
   obtain⟨N,S,hh,am,an,aa,hS,R,ag⟩:=HR.o.2 k aw;have X:Bx wr xb 109 A:=(y.o.2.2.2.1.block xb ap).trans HR.o.1;have g0:=X.cell (k*2);have g1:=X.cell (k*2+1);rw[am] at g0;rw[an] at g1;obtain⟨ty,pv,az⟩:∃ty pv,N=.iface ty pv:=by obtain⟨bb,_,_,_,q⟩:=aa.count;rcases q with q|q <;> exact⟨_,_,q⟩
   obtain⟨d,M⟩:∃d,d=wr.alloc (.cells #[.func (.func (BY k)) #[] #[],N] 70):=⟨_,rfl⟩;have F:Bl wr d:=by rw[M];exact Aa _ _
   have ab:d.heap.size=wr.heap.size+1:=by rw[M];simp
   have af:Bx d wr.heap.size 70 #[.func (.func (BY k)) #[] #[],N]:=by rw[M];exact Bx.new _ _ _
   have x0:d.cell? (ad (w.heap.size+1) 0)=some (.slice s k u):=by have:=(G.below F).cell 0;simpa using this
   have x1:d.cell? (ad wr.heap.size 1)=some N:=by have:=af.cell 1;simpa using this
   have HC:U (UO 86 #[N] d.drew (RX d.drew (n k) (p k))):=by have ac:Bl w d.drew:=(y.o.2.2.2.1.trans (F.mono y.o.2.2.2.1.size)).drew;exact Kn (n k) (p k) N S d.drew true hh (AP.keep ac.size (λb B hl=>⟨B,ac.block b hl⟩) aa) R (λx hx=>UB (hS x hx) ac.size) ag
   have HU:U (Bl wr d/\d.heap.size=wr.heap.size+1):=⟨F,ab⟩;have ak:U (∀c:World,Below d.drew.heap.size d.drew c->c.cell? (ad (w.heap.size+1) 0)=some (.slice s k u)/\c.cell? (ad wr.heap.size 1)=some N):=λc h=>by have B:=Ad h;exact⟨(B.cell (Uo _ _ x0)).trans x0,(B.cell (Uo _ _ x1)).trans x1⟩
   have ao:U (∀c:World,Below d.drew.heap.size d.drew c->∀O:Obj,(c.alloc O).cell? (ad (w.heap.size+1) 0)=some (.slice s k u)/\(c.alloc O).cell? (ad wr.heap.size 1)=some N):=λc h O=>by have B:=(Ad h).trans ((Aa c O).mono (Ad h).size);exact⟨(B.cell (Uo _ _ x0)).trans x0,(B.cell (Uo _ _ x1)).trans x1⟩
   have j:∀g,(Value.slice s k u).ownBlock=some g->w.heap.size+2<=g/\g<wr.heap.size:=λg e=>Ah y.o.1.row g e;have ah:U (∀(c D:World),Below d.drew.heap.size d.drew c->∀O:Obj,(c.alloc O).grownBy D (Value.slice s k u).ownBlock->D.cell? (ad (w.heap.size+1) 0)=some (.slice s k u)/\D.cell? (ad wr.heap.size 1)=some N/\D.frozen? (ad (w.heap.size+1) 0)=false/\w.heap.size+1<D.heap.size):=λc D h O hg=>by have B:=Ad h;have bc:=B.size;have L:Bx D (w.heap.size+1) 32 #[.slice s k u]:=(BB B hg (λg e=>(j g e).1) (by omega) (by have:=y.o.2.2.1;omega)).trans (G.below F);have aq:Bx D wr.heap.size 70 #[.func (.func (BY k)) #[] #[],N]:=((hg.block wr.heap.size (by rw[UF];omega) (λe=>by have:=(j _ e.symm).2;omega)).trans (((Aa c O).block wr.heap.size (by omega)).trans (B.block wr.heap.size (by omega)))).trans af;exact⟨by have:=L.cell 0;simpa using this,by have:=aq.cell 1;simpa using this,L.frozen 0,L.lt⟩
   have HT:U (∀c:World,Below d.drew.heap.size d.drew c->∀O:Obj,(c.alloc O).ownsRow (w.heap.size+2) 59 1 (.slice s k u) k us):=λc h O=>Ag (Ag (Ag y.o.1.row F) (Ad h)) (Aa _ _);have HZ:U (∀c:World,Below d.drew.heap.size d.drew c->w.heap.size+2<=c.heap.size):=λc h=>by have:=(Ad h).size;have:=y.o.2.2.1;omega
   have a5:d.drew.cell? (ad (w.heap.size+1) 0)=some (.slice s k u):=x0;have a3:d.drew.cell? (ad wr.heap.size 1)=some N:=x1;subst az;clear C f G ae aa hS R ag X am an j af;go_upto_region 5 with fail
   rw[<- M];clear M F ab;refine Aj (S:=(λw'=>w'.cell? (ad (w.heap.size+1) 0)=some (.slice s k u)/\w'.cell? (ad wr.heap.size 1)=some (.iface ty pv))) 8 (by kernel_rfl) ?_ (λa=>?_);·((try dsimp only);go_keep)
   refine tz 0 rfl ?_;refine tz 1 rfl ?_;refine tz 2 rfl ?_;refine tz 3 rfl ?_;refine At 4 rfl (λK E=>?_);(refine Ni (by rfl) 86 16 _ (by rfl) _ (by rfl) (λ_ _=>rfl) ?_;refine HC.o.mono ?_;rintro e c ⟨t,a2,c2,N2,ba,a6,bd,be,rfl,al,T⟩;refine⟨_,rfl,?_⟩;obtain⟨y0,y1⟩:=ak.o c t)
   refine tL E (by (try dsimp only);go_keep) ?_;clear E K a;intro a;try simp only[Ay]
   refine At 5 rfl (λK E=>?_);(refine Ej (by rfl) (by rfl) (by rfl) ?_;obtain⟨z0,z1⟩:=ao.o c t (.cells #[.slice a2 (Ac (n k) (p k)) c2] 59))
   refine tL E (by (try dsimp only);go_keep) ?_;clear E K a;intro a;try simp only[Ay]
   refine At 6 rfl (λK E=>?_);(refine Dm (by rfl) (.tmp 14) (.tmp 18) (by rfl) (w.heap.size+2) k (.slice s k u) us (by rfl) _ (HT.o c t _) (by rfl) rfl (by omega) (HZ.o c t) ?_;intro v4 D z r W;obtain⟨a4,c4,e4,_⟩:=Af z;subst e4;obtain⟨u0,u1,uf,ul⟩:=ah.o c D t _ r)
   refine tL E (by (try dsimp only);go_keep) ?_;clear E K a;intro a;try simp only[Ay]
   refine At 7 rfl (λK E=>?_);go_simp;refine tL E (by (try dsimp only);go_keep) ?_;clear E K a;intro a;try simp only[Ay]
   refine At 8 rfl (λK E=>?_);go_simp;refine tM E ?_;clear E K;have H7:U ((∃m H I P,AJ TreeAt (D.setCell (ad (w.heap.size+1) 0) (.slice a4 (k+1) c4)) (w.heap.size+2) (.slice a4 (k+1) c4) (k+1) (λq=>Ac (n q) (p q)) m H I P/\∀q,q<k+1->Am (m q) 0 (n q) (p q) 0)/\Bx (D.setCell (ad (w.heap.size+1) 0) (.slice a4 (k+1) c4)) (w.heap.size+1) 32 #[.slice a4 (k+1) c4]/\Below (w.heap.size+1) Q (D.setCell (ad (w.heap.size+1) 0) (.slice a4 (k+1) c4))):=by
    have B:Bl wr c:=HU.o.1.trans ((Ad t).mono HU.o.1.size);have a9:=(Ad t).size;have a0:=y.o.2.2.1;have ab:=HU.o.2;have j:∀g,(Value.slice s k u).ownBlock=some g->w.heap.size+2<=g:=λg e=>(Ah y.o.1.row g e).1;obtain⟨m,J⟩:∃m : Nat->Nat->Tn,∀i,m i=if i=k then N2 else V i:=⟨_,λ_=>rfl⟩;have au:=y.o.1.congr (M':=λq=>Ac (n q) (p q)) (T':=m) (λi hi=>⟨rfl,by rw[J,if_neg (by omega)]⟩);obtain⟨ax,a1,Z⟩:=au.step TreeAt.pl a0 B (l:=d.drew.heap.size+1) (by show _<=d.heap.size+1;omega) (by rw[J,if_pos rfl];exact TreeAt.of al) _ r z W;have L:Bx D (w.heap.size+1) 32 #[.slice s k u]:=(BB B r j (by omega) (by omega)).trans y.o.2.2.2.2.1;refine⟨⟨m,_,ax,a1,Z.setO TreeAt.pl (by simp) _,λq hq=>?_⟩,?_,?_⟩
    .rw[J];by_cases e:q=k;.subst e;rw[if_pos rfl];exact T
     .rw[if_neg e];exact y.o.2.2.2.2.2 q (by omega)
    .have:=L.set 0 (.slice a4 (k+1) c4);simpa using this
    .exact (((y.o.2.1.trans (B.mono (by omega))).trans ((Aa _ _).mono (by omega))).grown r (by simp;omega) (λg e=>by have:=j g e;omega)).setCell (by simp) _
   clear al T t z r W HT ak ao ah HZ HU y0 y1 z0 z1 u0 u1 uf ul a5 a3 x0 x1 HC g0 g1;go_wp2;go_roundw;case rel=>obtain⟨⟨m,H,I,P,Z,ay⟩,ar,aj⟩:=H7.o;exact⟨k+1,_,m,H,I,P,by omega,by go_num,Z,ar,aj,ay⟩
   case measure=>simp[intOf];omega
  .obtain rfl:k=6:=by omega
   have k1:¬ ((6:Nat):Int)<6:=by omega
   have b1:Bx wr w.heap.size 32 #[.slice none 0 0]:=B0.o.1.below' f (by omega);have y0:=b1.cell 0;have y1:=G.cell 0;simp at y0 y1;have a7:=b1.frozen 0;have yl:=b1.lt;clear C f b1 G ae;go_wp2;refine bodyPost_ret (v:=.agg #[.slice s 6 u]) (by simp[results,results48,go_sem,y0]) rfl ⟨y.o.2.2.2.1.setCell (by simp) _,s,u,V,us,lo,hi,rfl,y.o.1.setO TreeAt.pl (by simp) _,y.o.2.2.2.2.2⟩
end Go.Proofs.YtcnollkkigiobaaGreat
