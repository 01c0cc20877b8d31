import Derived.Laws.BytesString
import Derived.Test.YtcnollkkigiobaaGreatNv8
set_option linter.unusedVariables false
set_option linter.unusedSimpArgs false
set_option maxRecDepth 100000
set_option maxHeartbeats 90000000
namespace Go.Proofs.YtcnollkkigiobaaGreat
open Go Go.Deep Go.RowKit Go.Proofs.Tryz
variable {k:Nat}{x:Nat->Int}
def AB (a b c d:Int) (i:Nat):Int:=if i=0 then a else if i=1 then b else if i=2 then c else d
theorem Im (a b c d:Int) (i:Nat) (hi:i<4) (w:World) :
  UO 65 #[.agg #[iv a,iv b,iv c,iv d],iv i] w (UP w (iv (AB a b c d i))):=by
 have h:i=0\/i=1\/i=2\/i=3:=by omega
 rcases h with rfl|rfl|rfl|rfl;all_goals
  go_enter func65,ntmps65
  go_wp2
  go_ret
  exact⟨rfl,Aa _ _⟩
def FW (w:World) (q:Nat->Nat) (e:Ending) (w' : World):Prop:=∃g,e=.returned (.slice (some (ad g 0)) 4 4)/\w.heap.size<=g/\A6 w' g 3 4 (λi=>iv (q i))/\Bl w w'
def N4 (i:Nat):Nat:=if i=0 then 0 else if i=1 then 1 else if i=2 then 2 else 3
theorem JF (w:World):UO 64 #[iv 0] w (FW w N4):=by
 go_enter func64,ntmps64;go_wp2;go_ret;refine⟨_,rfl,Uq _,⟨_,blk_alloc_new _ _,by simp,λi a=>?_⟩,Aa _ _⟩;match i,a with
 | 0,_=>rfl
 | 1,_=>rfl
 | 2,_=>rfl
 | 3,_=>rfl
def NT (i:Nat):Nat:=if i=0 then 1 else if i=1 then 2 else if i=2 then 0 else 3
theorem J4 (w:World):UO 64 #[iv 1] w (FW w NT):=by
 go_enter func64,ntmps64;go_wp2;go_ret;refine⟨_,rfl,Uq _,⟨_,blk_alloc_new _ _,by simp,λi a=>?_⟩,Aa _ _⟩;match i,a with
 | 0,_=>rfl
 | 1,_=>rfl
 | 2,_=>rfl
 | 3,_=>rfl
def NW (i:Nat):Nat:=if i=0 then 2 else if i=1 then 0 else if i=2 then 1 else 3
theorem J8 (w:World):UO 64 #[iv 2] w (FW w NW):=by
 go_enter func64,ntmps64;go_wp2;go_ret;refine⟨_,rfl,Uq _,⟨_,blk_alloc_new _ _,by simp,λi a=>?_⟩,Aa _ _⟩;match i,a with
 | 0,_=>rfl
 | 1,_=>rfl
 | 2,_=>rfl
 | 3,_=>rfl
def Ob (i:Nat):Nat:=if i=0 then 3 else if i=1 then 0 else if i=2 then 1 else 2
theorem JV (w:World):UO 64 #[iv 3] w (FW w Ob):=by
 go_enter func64,ntmps64;go_wp2;go_ret;refine⟨_,rfl,Uq _,⟨_,blk_alloc_new _ _,by simp,λi a=>?_⟩,Aa _ _⟩;match i,a with
 | 0,_=>rfl
 | 1,_=>rfl
 | 2,_=>rfl
 | 3,_=>rfl
def NM (i:Nat):Nat:=if i=0 then 3 else if i=1 then 1 else if i=2 then 2 else 0
theorem J0 (w:World):UO 64 #[iv 4] w (FW w NM):=by
 go_enter func64,ntmps64;go_wp2;go_ret;refine⟨_,rfl,Uq _,⟨_,blk_alloc_new _ _,by simp,λi a=>?_⟩,Aa _ _⟩;match i,a with
 | 0,_=>rfl
 | 1,_=>rfl
 | 2,_=>rfl
 | 3,_=>rfl
def NJ (i:Nat):Nat:=if i=0 then 3 else if i=1 then 2 else if i=2 then 0 else 1
theorem JX (w:World):UO 64 #[iv 5] w (FW w NJ):=by
 go_enter func64,ntmps64;go_wp2;go_ret;refine⟨_,rfl,Uq _,⟨_,blk_alloc_new _ _,by simp,λi a=>?_⟩,Aa _ _⟩;match i,a with
 | 0,_=>rfl
 | 1,_=>rfl
 | 2,_=>rfl
 | 3,_=>rfl
def Cx (x:Nat->Int) (k:Nat):Prop:=∀q,q<k->(0<=x q/\x q<=2000000000)/\∀r,r<q->x r=0->x q=0
def CP (x:Nat->Int):Nat->Bool
 | 0=>false
 | k+1=>CP x k || x k == 0
theorem IY (x:Nat->Int) (k:Nat):CP x k=true↔∃r,r<k/\x r=0:=by
 induction k with
 | zero=>simp[CP]
 | succ k ih=>
  simp only[CP,Bool.or_eq_true,ih,beq_iff_eq];constructor
  .rintro (⟨r,h,e⟩|e);.exact⟨r,by omega,e⟩
   .exact⟨k,by omega,e⟩
  .rintro⟨r,h,e⟩;by_cases a:r=k;.subst a;exact .inr e
   .exact .inl ⟨r,by omega,e⟩
theorem NN (h:Cx x k) (a:0<=x k) (b:x k<=2000000000) (c:CP x k=true->x k<=0):Cx x (k+1):=by
 intro q f;by_cases e:q=k;.subst e;refine⟨⟨a,b⟩,λr d e=>?_⟩;have:=c ((IY x q).2 ⟨r,d,e⟩);omega
 .exact h q (by omega)
def Dc (x:Nat->Int):Bool:=(List.range 4).all λq=>decide (0<=x q/\x q<=2000000000) && (List.range q).all λr=>decide (x r=0->x q=0)
theorem Ea (x:Nat->Int):Dc x=true↔Cx x 4:=by unfold Dc Cx;simp only[List.all_eq_true,List.mem_range,Bool.and_eq_true,decide_eq_true_eq]
theorem Pz (a:k<4) (h:¬ ((0<=x k/\x k<=2000000000)/\(CP x k=true->x k<=0))):Dc x=false:=by
 cases hc:Dc x with
 | false=>rfl
 | true=>have o:=(Ea x).1 hc k a;refine absurd ⟨o.1,λf=>?_⟩ h;obtain⟨r,b,e⟩:=(IY x k).1 f;have:=o.2 r b e;omega
theorem AU (perm:Int) (h0:0<=perm) (h5:perm<=5) (a b c d:Int) (q:Nat->Nat) (hq:∀i,i<4->q i<4) (HO:∀w,UO 64 #[iv perm] w (FW w q)) (w:World) :
  UO 29 #[iv perm,.agg #[iv a,iv b,iv c,iv d]] w (UP w (.bool (Dc λi=>AB a b c d (q i)))):=by
 have H:=Ae HO;clear HO;go_enter func29,ntmps29;go_wp2_with fail
 refine (H.o _).mono ?_;rintro e s ⟨g,rfl,B,f,j⟩;try unfold Bl at B
 try unfold Bl at j
 rw[UF] at B j;have C:=(j.cell (p:=(ad w.heap.size 0)) (by show w.heap.size<w.heap.size+1;omega)).trans (CS (blk_alloc_new _ _) 0);have D:=(j.cell (p:=(ad w.heap.size 1)) (by show w.heap.size<w.heap.size+1;omega)).trans (CS (blk_alloc_new _ _) 1);have F:=(j.cell (p:=(ad w.heap.size 2)) (by show w.heap.size<w.heap.size+1;omega)).trans (CS (blk_alloc_new _ _) 2);have E:=(j.cell (p:=(ad w.heap.size 3)) (by show w.heap.size<w.heap.size+1;omega)).trans (CS (blk_alloc_new _ _) 3);have W:U (w.heap.size<s.heap.size/\A6 s g 3 4 (λi=>iv (q i))/\(s.cell? (ad w.heap.size 0)=some (iv a)/\s.cell? (ad w.heap.size 1)=some (iv b)/\s.cell? (ad w.heap.size 2)=some (iv c)/\s.cell? (ad w.heap.size 3)=some (iv d))/\Bl w s):=⟨by have:=j.size;simp at this;omega,f,⟨C,D,F,E⟩,(Aa _ _).trans (j.mono (by omega))⟩;clear f C D F E j;go_wp2;go_loopw [6,7,8] (λfr i _ wr=>∃k:Nat,k<=4/\i=iv k/\fr=.bool (CP (λi=>AB a b c d (q i)) k)/\Cx (λi=>AB a b c d (q i)) k/\Bl s wr) (λ_ i _ _=>4-(intOf i).toNat)
 case atStart=>exact⟨0,by omega,rfl,rfl,λ_ h=>absurd h (Uu _),Up _ _⟩
 case round=>
  obtain⟨k,hk,rfl,rfl,y,u⟩:=hrel;have Z:=Ae (W.o.2.2.2.trans (u.mono (by have:=W.o.1;omega)));have M:=Ae y;have N:=Ae u;by_cases A:k<4
  .obtain⟨T,f,⟨O,S,I,J⟩,aa⟩:=W.o;have C:=(u.cell (p:=(ad w.heap.size 0)) T).trans O;have D:=(u.cell (p:=(ad w.heap.size 1)) T).trans S;have F:=(u.cell (p:=(ad w.heap.size 2)) T).trans I;have E:=(u.cell (p:=(ad w.heap.size 3)) T).trans J;have Y:=(u.cell (p:=(ad g k)) f.lt).trans (f.cell A);clear O S I J aa f y u;generalize hX:AB a b c d (q k)=X;have G:=Ae hX;have HP:U (∀V,UO 65 #[.agg #[iv a,iv b,iv c,iv d],iv (q k)] V (UP V (iv X))):=λV=>by rw[<- G.o];exact Im a b c d (q k) (hq k A) V
   clear hX;have ac:(k:Int)<4:=by omega
   have ab:(0:Int)<=k:=by omega
   have HC:U (∀r:World,Below wr.drew.heap.size wr.drew r->r.cell? (ad w.heap.size 0)=some (iv a)/\r.cell? (ad w.heap.size 1)=some (iv b)/\r.cell? (ad w.heap.size 2)=some (iv c)/\r.cell? (ad w.heap.size 3)=some (iv d)/\r.cell? (ad g k)=some (iv (q k))):=λr z=>⟨(z.cell (p:=(ad w.heap.size 0)) (Uo _ _ C)).trans C,(z.cell (p:=(ad w.heap.size 1)) (Uo _ _ D)).trans D,(z.cell (p:=(ad w.heap.size 2)) (Uo _ _ F)).trans F,(z.cell (p:=(ad w.heap.size 3)) (Uo _ _ E)).trans E,(z.cell (p:=(ad g k)) (Uo _ _ Y)).trans Y⟩
   go_wp2;go_region_held3 (λL=>L.cell? (ad w.heap.size 0)=some (iv a)/\L.cell? (ad w.heap.size 1)=some (iv b)/\L.cell? (ad w.heap.size 2)=some (iv c)/\L.cell? (ad w.heap.size 3)=some (iv d)/\L.cell? (ad g k)=some (iv (q k))) (go_keep)
    (first
    | (go_at_call 65;refine (HP.o wr.drew).mono ?_;rintro e r ⟨rfl,t⟩;obtain⟨y0,y1,y2,y3,y4⟩:=HC.o r t))
   have v:U (Bl w r):=Z.o.drew.trans (t.mono Z.o.size);have R:U (Bl s r):=N.o.drew.trans (t.mono N.o.size);clear HC t y0 y1 y2 y3 y4 C D F E Y;have n:∀_:¬ ((0<=X/\X<=2000000000)/\(CP (λi=>AB a b c d (q i)) k=true->X<=0)),U (Dc (λi=>AB a b c d (q i))=false):=λh=>Pz A (by show ¬ ((0<=AB a b c d (q k)/\AB a b c d (q k)<=2000000000)/\(CP (λi=>AB a b c d (q i)) k=true->AB a b c d (q k)<=0));rw[G.o];exact h);rcases Int.lt_or_le X 0 with h1|h1;.have l:=n (by omega);clear n;go_wp2;go_ret;exact⟨by rw[l.o];rfl,v.o⟩
   rcases Int.lt_or_le 2000000000 X with z|z;.have l:=n (by omega);clear n;go_wp2;go_ret;exact⟨by rw[l.o];rfl,v.o⟩
   have Q:∀_:(CP (λi=>AB a b c d (q i)) k=true->X<=0),U (Cx (λi=>AB a b c d (q i)) (k+1)):=λh=>NN M.o (by show 0<=AB a b c d (q k);rw[G.o];omega) (by show AB a b c d (q k)<=2000000000;rw[G.o];omega) (by show _->AB a b c d (q k)<=0;rw[G.o];exact h);have K:U (CP (λi=>AB a b c d (q i)) (k+1)=(CP (λi=>AB a b c d (q i)) k || X == 0)):=by show _=_;rw[<- G.o];rfl
   cases hf:CP (λi=>AB a b c d (q i)) k with
   | true=>
    by_cases h3:0<X;.have l:=n (by intro h;have:=h.2 hf;omega);clear n Q K;go_wp2;go_ret;exact⟨by rw[l.o];rfl,v.o⟩
    .have B:=Q (λ_=>by omega);rw[hf] at K;clear n Q;go_wp2;go_roundw;case rel=>exact⟨k+1,by omega,by go_num,by rw[K.o];rfl,B.o,R.o⟩
     case measure=>simp[intOf];omega
   | false=>
    have B:=Q (λh=>by rw[hf] at h;cases h);rw[hf] at K;clear n Q;go_wp2;go_roundw;case rel=>exact⟨k+1,by omega,by go_num,by rw[K.o];rfl,B.o,R.o⟩
    case measure=>simp[intOf];omega
  .have e4:k=4:=by omega
   subst e4;clear u y;go_wp2;go_ret;refine⟨?_,Z.o⟩;rw[(Ea _).2 M.o];rfl
theorem R3 (w:World):(Instr.index 97 (.agg #[.func (.func 101) #[] #[],.func (.func 102) #[] #[],.func (.func 103) #[] #[],.func (.func 104) #[] #[],.func (.func 105) #[] #[],.func (.func 106) #[] #[]]) (iv 0)).run prog w=.ok (.func (.func 101) #[] #[]) w:=by simp[Instr.index,go_sem]
theorem RJ (w:World):(Instr.index 97 (.agg #[.func (.func 101) #[] #[],.func (.func 102) #[] #[],.func (.func 103) #[] #[],.func (.func 104) #[] #[],.func (.func 105) #[] #[],.func (.func 106) #[] #[]]) (iv 1)).run prog w=.ok (.func (.func 102) #[] #[]) w:=by simp[Instr.index,go_sem]
theorem Sc (w:World):(Instr.index 97 (.agg #[.func (.func 101) #[] #[],.func (.func 102) #[] #[],.func (.func 103) #[] #[],.func (.func 104) #[] #[],.func (.func 105) #[] #[],.func (.func 106) #[] #[]]) (iv 2)).run prog w=.ok (.func (.func 103) #[] #[]) w:=by simp[Instr.index,go_sem]
theorem R8 (w:World):(Instr.index 97 (.agg #[.func (.func 101) #[] #[],.func (.func 102) #[] #[],.func (.func 103) #[] #[],.func (.func 104) #[] #[],.func (.func 105) #[] #[],.func (.func 106) #[] #[]]) (iv 3)).run prog w=.ok (.func (.func 104) #[] #[]) w:=by simp[Instr.index,go_sem]
theorem RN (w:World):(Instr.index 97 (.agg #[.func (.func 101) #[] #[],.func (.func 102) #[] #[],.func (.func 103) #[] #[],.func (.func 104) #[] #[],.func (.func 105) #[] #[],.func (.func 106) #[] #[]]) (iv 4)).run prog w=.ok (.func (.func 105) #[] #[]) w:=by simp[Instr.index,go_sem]
theorem RM (w:World):(Instr.index 97 (.agg #[.func (.func 101) #[] #[],.func (.func 102) #[] #[],.func (.func 103) #[] #[],.func (.func 104) #[] #[],.func (.func 105) #[] #[],.func (.func 106) #[] #[]]) (iv 5)).run prog w=.ok (.func (.func 106) #[] #[]) w:=by simp[Instr.index,go_sem]
theorem RD:(prog.fieldsOf 34).toList=[{ name := "S",type:=2,offset:=0,embedded:=false,tag := "",pkgPath := "",byteOffset:=0 },{ name := "P",type:=2,offset:=1,embedded:=false,tag := "",pkgPath := "",byteOffset:=8 },{ name := "O",type:=2,offset:=2,embedded:=false,tag := "",pkgPath := "",byteOffset:=16 },{ name := "G",type:=2,offset:=3,embedded:=false,tag := "",pkgPath := "",byteOffset:=24 }]:=by kernel_rfl
theorem TL (a b c d a' e c' d' : Int) (w:World):(Op.equalIn 10000 34 (.agg #[iv a,iv b,iv c,iv d]) (.agg #[iv a',iv e,iv c',iv d'])).run prog w=.ok (a == a' && (b == e && (c == c' && d == d'))) w:=by rw[show (10000:Nat)=9999+1 from rfl,run_equalIn_struct (P:=prog) w 9999 34 _ _ (by kernel_rfl) (by kernel_rfl),RD];simp[Op.eqFields,go_sem];by_cases f:a=a' <;> by_cases g:b=e <;> by_cases h:c=c' <;> by_cases i:d=d' <;> simp[f,g,h,i]
variable {P:Nat->Int}{m:Nat}{o:Nat->Nat}
def FE (P:Nat->Int) (ps:Nat->Nat) (m j:Nat):Int:=if ps j<m then P j else 0
def G5 (P:Nat->Int) (o:Nat->Nat):Nat:=if P (o 0)=0 then 0 else if P (o 1)=0 then 1 else if P (o 2)=0 then 2 else if P (o 3)=0 then 3 else 4
theorem E4 (b:m<4) (h:∀i,i<m->P (o i)≠0) (a:P (o m)=0):G5 P o=m:=by
 unfold G5;rcases (show m=0\/m=1\/m=2\/m=3 by omega) with rfl|rfl|rfl|rfl;.rw[if_pos a]
 .rw[if_neg (h 0 (by omega)),if_pos a]
 .rw[if_neg (h 0 (by omega)),if_neg (h 1 (by omega)),if_pos a]
 .rw[if_neg (h 0 (by omega)),if_neg (h 1 (by omega)),if_neg (h 2 (by omega)),if_pos a]
theorem Nz (h:∀i,i<4->P (o i)≠0):G5 P o=4:=by unfold G5;rw[if_neg (h 0 (by omega)),if_neg (h 1 (by omega)),if_neg (h 2 (by omega)),if_neg (h 3 (by omega))]
theorem BU {Q:Nat->Prop} (e:Q 0) (b:Q 1) (c:Q 2) (d:Q 3):∀i,i<4->Q i:=λi a=>by
 rcases (show i=0\/i=1\/i=2\/i=3 by omega) with rfl|rfl|rfl|rfl <;> assumption
structure Tk (w w2 W:World) (P:Nat->Int) (o ps:Nat->Nat) (m:Nat):Prop where
 nz:∀i,i<m->P (o i)≠0
 ld:∀j,j<4->W.cell? (ad (w.heap.size+1+1) j)=some (iv (FE P ps m j))
 pt:∀j,j<4->W.cell? (ad w.heap.size j)=some (iv (P j))
 fr:∀i,i<4->W.cell? (ad w2.heap.size i)=some (.pointer (some (ad w.heap.size (o i))))
 tt:∀i,i<4->W.cell? (ad (w2.heap.size+1) i)=some (.pointer (some (ad (w.heap.size+1+1) (o i))))
 rs:∀j,j<4->W.cell? (ad (w.heap.size+1) j)=some (iv 0)
 f1:∀j,W.frozen? (ad (w.heap.size+1) j)=false
 f2:∀j,W.frozen? (ad (w.heap.size+1+1) j)=false
 z3:w.heap.size+3<=w2.heap.size
 zw:w2.heap.size+2<=W.heap.size
 bel:Bl w W
theorem Tk.step {w w2 W:World} {a:Nat->Nat} (h:Tk w w2 W P o a m) (f:m<4) (d:∀i,i<4->o i<4/\a (o i)=i) (p:∀j,j<4->a j<4/\o (a j)=j) (n:P (o m)≠0) :
  Tk w w2 ((W.setCell (ad (w.heap.size+1+1) (o m)) (iv (P (o m)))).drew) P o a (m+1):=by
 have r:=h.z3;refine⟨λi c=>?_,λj b=>?_,λj b=>EO (by omega) (h.pt j b),λi c=>EO (by omega) (h.fr i c),λi c=>EO (by omega) (h.tt i c),λj b=>EO (by omega) (h.rs j b),λj=>by simpa using h.f1 j,λj=>by simpa using h.f2 j,h.z3,by simpa using h.zw,bD (bS (by omega) h.bel)⟩
 .by_cases e:i=m;.rw[e];exact n
  .exact h.nz i (by omega)
 .by_cases e:j=o m;.rw[e,show FE P a (m+1) (o m)=P (o m) by unfold FE;rw[(d m f).2,if_pos (by omega)]];exact Ty (h.ld (o m) (d m f).1)
  .have l:a j≠m:=λq=>e (by rw[<- q];exact ((p j b).2).symm);have g:FE P a (m+1) j=FE P a m j:=by
    unfold FE;by_cases q:a j<m;.rw[if_pos q,if_pos (by omega)]
    .rw[if_neg q,if_neg (by omega)]
   rw[g];exact Q8 (λq=>e q.symm) (h.ld j b)
theorem Sz (F:Nat) (o b:Nat->Nat) (P:Nat->Int) (w:World) (Z:∀i,i<4->o i<4/\b (o i)=i) (hp:∀j,j<4->b j<4/\o (b j)=j)
  (aa:∀r W,(callFunc F r).run prog W=.ok (.enter F r) W)
  (s:∀(g:Nat) (W:World),UO F #[pt g] W (UP W (.agg #[.pointer (some (ad g (o 0))),.pointer (some (ad g (o 1))),.pointer (some (ad g (o 2))),.pointer (some (ad g (o 3)))]))) :
  UO 63 #[.func (.func F) #[] #[],.agg #[iv (P 0),iv (P 1),iv (P 2),iv (P 3)]] w (UP w (.agg #[iv (FE P b (G5 P o) 0),iv (FE P b (G5 P o) 1),iv (FE P b (G5 P o) 2),iv (FE P b (G5 P o) 3)])):=by
 have J:=Ae s;have y:=Ae (ai Z hp);clear s Z hp;go_enter func63,ntmps63;go_wp2_with fail
 (with_reducible refine (J.o _ _).mono ?_)
 rintro e w1 ⟨rfl,f⟩;go_wp2_with fail
 (with_reducible refine (J.o _ _).mono ?_)
 rintro e D ⟨rfl,H⟩;try unfold Bl at f
 simp only[UF] at f;obtain⟨C,u,z,G,I,z2,n⟩:=T5 (f.trans (H.mono (by have:=f.size;simp at this;omega)));clear f H;have HS:=Ae (ai C (ai u (ai z (ai G (ai I n)))));clear C u z G I n;go_wp2;go_loopw [8] (λi wr=>∃m:Nat,m<=4/\i=iv m/\Tk w D wr P o b m) (λi _=>4-(intOf i).toNat)
 case atStart=>
  obtain⟨C,u,z,G,I,n⟩:=HS.o;have q:=T7 (w:=D) (A:=#[.pointer (some (ad w.heap.size (o 0))),.pointer (some (ad w.heap.size (o 1))),.pointer (some (ad w.heap.size (o 2))),.pointer (some (ad w.heap.size (o 3)))]) (B:=#[.pointer (some (ad (w.heap.size+1+1) (o 0))),.pointer (some (ad (w.heap.size+1+1) (o 1))),.pointer (some (ad (w.heap.size+1+1) (o 2))),.pointer (some (ad (w.heap.size+1+1) (o 3)))]) (t:=156);refine⟨0,Us _,rfl,λi hi=>absurd hi (Uu _),BU ?_ ?_ ?_ ?_,BU ?_ ?_ ?_ ?_,BU (q.1 0) (q.1 1) (q.1 2) (q.1 3),BU (q.2.1 0) (q.2.1 1) (q.2.1 2) (q.2.1 3),BU ?_ ?_ ?_ ?_,λj=>(q.2.2.2.1 _ _ (by omega)).trans (G j),λj=>(q.2.2.2.1 _ _ (by omega)).trans (I j),z2,by simp,bA (bA n)⟩;.exact (q.2.2.1 _ _ (by omega)).trans (z 0)
  .exact (q.2.2.1 _ _ (by omega)).trans (z 1)
  .exact (q.2.2.1 _ _ (by omega)).trans (z 2)
  .exact (q.2.2.1 _ _ (by omega)).trans (z 3)
  .exact (q.2.2.1 _ _ (by omega)).trans (C 0)
  .exact (q.2.2.1 _ _ (by omega)).trans (C 1)
  .exact (q.2.2.1 _ _ (by omega)).trans (C 2)
  .exact (q.2.2.1 _ _ (by omega)).trans (C 3)
  .exact (q.2.2.1 _ _ (by omega)).trans (u 0)
  .exact (q.2.2.1 _ _ (by omega)).trans (u 1)
  .exact (q.2.2.1 _ _ (by omega)).trans (u 2)
  .exact (q.2.2.1 _ _ (by omega)).trans (u 3)
 case round=>
  clear HS;obtain⟨m,hm,rfl,a⟩:=hrel;have h:=Ae a;have l0:=a.ld 0 (by omega);have l1:=a.ld 1 (by omega);have l2:=a.ld 2 (by omega);have l3:=a.ld 3 (by omega);have r0:=a.rs 0 (by omega);have r1:=a.rs 1 (by omega);have r2:=a.rs 2 (by omega);have r3:=a.rs 3 (by omega);have G:=a.f1;have I:=a.f2;have zz:=a.zw;have z3:=a.z3;clear a;have g1:w.heap.size+1<wr.heap.size:=by omega
  have g2:w.heap.size+1+1<wr.heap.size:=by omega
  have p:U (∀W:World,G5 P o=m->Bl w W->(Ending.returned (.agg #[iv (FE P b m 0),iv (FE P b m 1),iv (FE P b m 2),iv (FE P b m 3)])=.returned (.agg #[iv (FE P b (G5 P o) 0),iv (FE P b (G5 P o) 1),iv (FE P b (G5 P o) 2),iv (FE P b (G5 P o) 3)])/\Bl w W)):=λW e hW=>by rw[e];exact⟨rfl,hW⟩
  by_cases d:m<4
  .have i0:(0:Int)<=(m:Int):=by omega
   have i1:(m:Int)<4:=by omega
   have fm:=h.o.fr m d;have Y:=h.o.tt m d;have R:=(y.o.1 m d).1;have L:=h.o.pt (o m) R;have lm:=h.o.ld (o m) R;obtain⟨x,T⟩:=gn (P (o m));rw[<- T] at L;obtain⟨l,E⟩:=gn (o m);rw[<- E] at fm Y L lm R;have K:=Ae (ai T E);clear T E;by_cases c:x=0
   .have S:(x != 0)=false:=by simp[c]
    have V:(x == 0)=true:=by simp[c]
    have M:=Ae (E4 d h.o.nz (by rw[<- K.o.1];exact c));go_wp2;refine bodyPost_ret (v:=.agg #[iv (FE P b m 0),iv (FE P b m 1),iv (FE P b m 2),iv (FE P b m 3)]) (by simp[results,results63,go_sem,r0,r1,r2,r3]) rfl (p.o _ M.o ?_);have Q:=h.o.bel;repeat (first|refine bA ?_|refine bS (by omega) ?_|refine bD ?_)
    exact Q
   .have S:(x != 0)=true:=by simp[c]
    have V:(x == 0)=false:=by simp[c]
    have n1:¬ (w.heap.size+1+1=D.heap.size):=by omega
    have n2:¬ (w.heap.size+1+1=D.heap.size+1):=by omega
    have X:U (Tk w D ((wr.setCell (ad (w.heap.size+1+1) l) (iv x)).drew) P o b (m+1)):=by rw[K.o.1,K.o.2];exact h.o.step d y.o.1 y.o.2 (by rw[<- K.o.1];exact c)
    go_wp2;go_region_held3 (λN=>N.cell? (ad D.heap.size m)=some (.pointer (some (ad w.heap.size l)))/\N.cell? (ad (D.heap.size+1) m)=some (.pointer (some (ad (w.heap.size+1+1) l)))/\N.cell? (ad w.heap.size l)=some (iv x)) (first|exact⟨EO n1 fm,EO n2 Y,EO (by omega) L⟩|go_keep) (fail)
    go_wp2;go_roundw;case rel=>exact⟨m+1,by omega,by go_num,X.o⟩
    case measure=>simp[intOf];omega
  .have O:m=4:=by omega
   have i1:¬ (m:Int)<4:=by omega
   have M:U (G5 P o=m):=by rw[O];rw[O] at h;exact Nz h.o.nz
   clear O;go_wp2;refine bodyPost_ret (v:=.agg #[iv (FE P b m 0),iv (FE P b m 1),iv (FE P b m 2),iv (FE P b m 3)]) (by simp[results,results63,go_sem,r0,r1,r2,r3]) rfl (p.o _ M.o ?_);have Q:=h.o.bel;repeat (first|refine bA ?_|refine bS (by omega) ?_|refine bD ?_)
   exact Q
theorem SR:∀i,i<G5 P o->P (o i)≠0:=by
 unfold G5;intro i a;split at a;.omega
 .split at a
  .obtain rfl:i=0:=by omega
   assumption
  .split at a;.rcases (show i=0\/i=1 by omega) with rfl|rfl <;> assumption
   .split at a;.rcases (show i=0\/i=1\/i=2 by omega) with rfl|rfl|rfl <;> assumption
    .rcases (show i=0\/i=1\/i=2\/i=3 by omega) with rfl|rfl|rfl|rfl <;> assumption
theorem Th (h:G5 P o<4):P (o (G5 P o))=0:=by
 by_cases a:P (o 0)=0;.rw[E4 (m:=0) (by omega) (λi b=>by omega) a];exact a
 by_cases c:P (o 1)=0;.rw[E4 (m:=1) (by omega) (λi b=>by rw[show i=0 by omega];exact a) c];exact c
 by_cases d:P (o 2)=0;.rw[E4 (m:=2) (by omega) (λi b=>by rcases (show i=0\/i=1 by omega) with rfl|rfl <;> assumption) d];exact d
 by_cases e:P (o 3)=0;.rw[E4 (m:=3) (by omega) (λi b=>by rcases (show i=0\/i=1\/i=2 by omega) with rfl|rfl|rfl <;> assumption) e];exact e
 .rw[Nz (BU a c d e)] at h;omega
theorem OC {b:Nat->Nat} (f:∀i,i<4->o i<4/\b (o i)=i) (c:∀j,j<4->b j<4/\o (b j)=j) :
  ((∀j,j<4->0<=P j/\P j<=2000000000)/\∀j,j<4->FE P b (G5 P o) j=P j)↔Cx (λi=>P (o i)) 4:=by
 constructor
 .rintro⟨t,p⟩ q g;refine⟨t _ (f q g).1,λr v s=>?_⟩;by_cases e:P (o q)=0;.exact e
  .have d:=p (o q) (f q g).1;unfold FE at d;rw[(f q g).2] at d;by_cases n:q<G5 P o;.exact absurd s (SR r (by omega))
   .rw[if_neg n] at d;exact d.symm
 .intro h;refine⟨λj a=>?_,λj a=>?_⟩;.have:=(h (b j) (c j a).1).1;dsimp only at this;rw[(c j a).2] at this;exact this
  .unfold FE;split;.rfl
   .rename_i n
    have u:G5 P o<4:=by have:=(c j a).1;omega
    have l:=Th u;by_cases e:G5 P o=b j;.rw[e,(c j a).2] at l;exact l.symm
    .have:=(h (b j) (c j a).1).2 (G5 P o) (by omega) l;dsimp only at this;rw[(c j a).2] at this;exact this.symm
theorem CN (J:Int) (F:Nat) (o s:Nat->Nat) (ho:∀i,i<4->o i<4/\s (o i)=i) (z:∀j,j<4->s j<4/\o (s j)=j) (hJ:0<=J/\J<6) (N:∀r W,(callFunc F r).run prog W=.ok (.enter F r) W)
  (t:∀(g:Nat) (W:World),UO F #[pt g] W (UP W (.agg #[.pointer (some (ad g (o 0))),.pointer (some (ad g (o 1))),.pointer (some (ad g (o 2))),.pointer (some (ad g (o 3)))])))
  (M:∀W,(Instr.index 97 (.agg #[.func (.func 101) #[] #[],.func (.func 102) #[] #[],.func (.func 103) #[] #[],.func (.func 104) #[] #[],.func (.func 105) #[] #[],.func (.func 106) #[] #[]]) (iv J)).run prog W=.ok (.func (.func F) #[] #[]) W) (a b c d:Int) (w:World) :
  UO 28 #[iv J,.agg #[iv a,iv b,iv c,iv d]] w (UP w (.bool (Dc λi=>AB a b c d (o i)))):=by
 obtain⟨R,Z⟩:=gn (Dc λi=>AB a b c d (o i));have C:=Sz F o s (AB a b c d) ;obtain⟨G,O⟩:=gn (FE (AB a b c d) s (G5 (AB a b c d) o) 0);obtain⟨E,Y⟩:=gn (FE (AB a b c d) s (G5 (AB a b c d) o) 1);obtain⟨H,T⟩:=gn (FE (AB a b c d) s (G5 (AB a b c d) o) 2);obtain⟨I,Q⟩:=gn (FE (AB a b c d) s (G5 (AB a b c d) o) 3);have HL:U (∀K,UO 63 #[.func (.func F) #[] #[],.agg #[iv a,iv b,iv c,iv d]] K (UP K (.agg #[iv G,iv E,iv H,iv I]))):=λK=>by rw[O,Y,T,Q];exact C K ho z N t
 have HE:U (R=true↔((Bj a && Bj b && Bj c && Bj d)=true/\(G == a && (E == b && (H == c && I == d)))=true)):=by
  show _↔_;rw[Z,Ea,<- OC (P:=AB a b c d) ho z,O,Y,T,Q];simp only[Bool.and_eq_true,Bj,decide_eq_true_eq,beq_iff_eq];constructor;.rintro⟨A,l⟩;exact⟨⟨⟨⟨A 0 (by omega),A 1 (by omega)⟩,A 2 (by omega)⟩,A 3 (by omega)⟩,l 0 (by omega),l 1 (by omega),l 2 (by omega),l 3 (by omega)⟩
  .rintro⟨⟨⟨⟨h0,A⟩,l⟩,h3⟩,h4,h5,h6,h7⟩;exact⟨BU h0 A l h3,BU h4 h5 h6 h7⟩
 rw[<- Z];clear Z C O Y T Q t;have aa:=hJ.1;have ab:=hJ.2;cases z:(Bj a && Bj b && Bj c && Bj d) with
 | false=>
  have S:U (R=false):=by
   show R=false;cases hq:R with
   | false=>rfl
   | true=>have:=(HE.o.1 hq).1;rw[z] at this;cases this
  go_enter func28,ntmps28;go_wp2_with (first
   | (go_at_call 61;refine (FH a b c d _).mono ?_;rintro e w1 ⟨rfl,f⟩;rw[z])
   | fail)
  try unfold Bl at f
  rw[UF] at f;refine bodyPost_ret (v:=.bool false) (by simp[results,results28,go_sem]) rfl ⟨by rw[S.o],(Aa _ _).trans (f.mono (by omega))⟩
 | true=>
  have S:U (R=(G == a && (E == b && (H == c && I == d)))):=by show R=_;rw[Bool.eq_iff_iff,HE.o,z];simp
  go_enter func28,ntmps28;go_wp2_with fail
  refine (FH a b c d _).mono ?_;rintro e w1 ⟨rfl,f⟩;rw[z];try unfold Bl at f
  rw[UF] at f;have p0:=(f.cell (p:=(ad w.heap.size 0)) (by show w.heap.size<w.heap.size+1;omega)).trans (CS (blk_alloc_new _ _) 0);have p1:=(f.cell (p:=(ad w.heap.size 1)) (by show w.heap.size<w.heap.size+1;omega)).trans (CS (blk_alloc_new _ _) 1);have p2:=(f.cell (p:=(ad w.heap.size 2)) (by show w.heap.size<w.heap.size+1;omega)).trans (CS (blk_alloc_new _ _) 2);have p3:=(f.cell (p:=(ad w.heap.size 3)) (by show w.heap.size<w.heap.size+1;omega)).trans (CS (blk_alloc_new _ _) 3);have L:U (∀B q:World,Bl B q->(B.cell? (ad w.heap.size 0)=some (iv a)/\B.cell? (ad w.heap.size 1)=some (iv b)/\B.cell? (ad w.heap.size 2)=some (iv c)/\B.cell? (ad w.heap.size 3)=some (iv d))->(q.cell? (ad w.heap.size 0)=some (iv a)/\q.cell? (ad w.heap.size 1)=some (iv b)/\q.cell? (ad w.heap.size 2)=some (iv c)/\q.cell? (ad w.heap.size 3)=some (iv d))):=λB q l h=>⟨(l.cell (p:=(ad w.heap.size 0)) (Uo _ _ h.1)).trans h.1,(l.cell (p:=(ad w.heap.size 1)) (Uo _ _ h.2.1)).trans h.2.1,(l.cell (p:=(ad w.heap.size 2)) (Uo _ _ h.2.2.1)).trans h.2.2.1,(l.cell (p:=(ad w.heap.size 3)) (Uo _ _ h.2.2.2)).trans h.2.2.2⟩
  have y:=Ae ((Aa _ _).trans (f.mono (by omega)));clear f;have X:=TL G E H I a b c d;go_wp2;go_region_held3 (λD=>D.cell? (ad w.heap.size 0)=some (iv a)/\D.cell? (ad w.heap.size 1)=some (iv b)/\D.cell? (ad w.heap.size 2)=some (iv c)/\D.cell? (ad w.heap.size 3)=some (iv d)) (go_keep)
   (first
   | (go_at_call 62;refine (II w1.drew).mono ?_;rintro e q ⟨rfl,n⟩;obtain⟨y0,y1,y2,y3⟩:=L.o _ q n ⟨p0,p1,p2,p3⟩)
   | (go_at_call 63;refine (HL.o q).mono ?_;rintro e w3 ⟨rfl,u⟩;obtain⟨x0,x1,x2,x3⟩:=L.o _ w3 u ⟨y0,y1,y2,y3⟩))
  have V:=Ae ((y.o.drew.trans (n.mono y.o.size)).trans (u.mono (Uy y.o.size n.size)));clear L n u M X;go_wp2;go_ret;exact⟨by rw[S.o];rfl,V.o⟩
theorem Iu (a b c d:Int) (w:World) :
  UO 28 #[iv 0,.agg #[iv a,iv b,iv c,iv d]] w (UP w (.bool (Dc λi=>AB a b c d (N4 i)))):=
 CN 0 101 N4 (λi=>if i=0 then 0 else if i=1 then 1 else if i=2 then 2 else 3) (BU ⟨by decide,rfl⟩ ⟨by decide,rfl⟩ ⟨by decide,rfl⟩ ⟨by decide,rfl⟩) (BU ⟨by decide,rfl⟩ ⟨by decide,rfl⟩ ⟨by decide,rfl⟩ ⟨by decide,rfl⟩) (by omega) (λ_ _=>rfl) (λg W=>RL g W) R3 a b c d w
theorem I9 (a b c d:Int) (w:World) :
  UO 28 #[iv 1,.agg #[iv a,iv b,iv c,iv d]] w (UP w (.bool (Dc λi=>AB a b c d (NT i)))):=
 CN 1 102 NT (λi=>if i=0 then 2 else if i=1 then 0 else if i=2 then 1 else 3) (BU ⟨by decide,rfl⟩ ⟨by decide,rfl⟩ ⟨by decide,rfl⟩ ⟨by decide,rfl⟩) (BU ⟨by decide,rfl⟩ ⟨by decide,rfl⟩ ⟨by decide,rfl⟩ ⟨by decide,rfl⟩) (by omega) (λ_ _=>rfl) (λg W=>RP g W) RJ a b c d w
theorem IW (a b c d:Int) (w:World) :
  UO 28 #[iv 2,.agg #[iv a,iv b,iv c,iv d]] w (UP w (.bool (Dc λi=>AB a b c d (NW i)))):=
 CN 2 103 NW (λi=>if i=0 then 1 else if i=1 then 2 else if i=2 then 0 else 3) (BU ⟨by decide,rfl⟩ ⟨by decide,rfl⟩ ⟨by decide,rfl⟩ ⟨by decide,rfl⟩) (BU ⟨by decide,rfl⟩ ⟨by decide,rfl⟩ ⟨by decide,rfl⟩ ⟨by decide,rfl⟩) (by omega) (λ_ _=>rfl) (λg W=>RE g W) Sc a b c d w
theorem Ja (a b c d:Int) (w:World) :
  UO 28 #[iv 3,.agg #[iv a,iv b,iv c,iv d]] w (UP w (.bool (Dc λi=>AB a b c d (Ob i)))):=
 CN 3 104 Ob (λi=>if i=0 then 1 else if i=1 then 2 else if i=2 then 3 else 0) (BU ⟨by decide,rfl⟩ ⟨by decide,rfl⟩ ⟨by decide,rfl⟩ ⟨by decide,rfl⟩) (BU ⟨by decide,rfl⟩ ⟨by decide,rfl⟩ ⟨by decide,rfl⟩ ⟨by decide,rfl⟩) (by omega) (λ_ _=>rfl) (λg W=>R7 g W) R8 a b c d w
theorem In (a b c d:Int) (w:World) :
  UO 28 #[iv 4,.agg #[iv a,iv b,iv c,iv d]] w (UP w (.bool (Dc λi=>AB a b c d (NM i)))):=
 CN 4 105 NM (λi=>if i=0 then 3 else if i=1 then 1 else if i=2 then 2 else 0) (BU ⟨by decide,rfl⟩ ⟨by decide,rfl⟩ ⟨by decide,rfl⟩ ⟨by decide,rfl⟩) (BU ⟨by decide,rfl⟩ ⟨by decide,rfl⟩ ⟨by decide,rfl⟩ ⟨by decide,rfl⟩) (by omega) (λ_ _=>rfl) (λg W=>RS g W) RN a b c d w
theorem IM (a b c d:Int) (w:World) :
  UO 28 #[iv 5,.agg #[iv a,iv b,iv c,iv d]] w (UP w (.bool (Dc λi=>AB a b c d (NJ i)))):=
 CN 5 106 NJ (λi=>if i=0 then 2 else if i=1 then 3 else if i=2 then 1 else 0) (BU ⟨by decide,rfl⟩ ⟨by decide,rfl⟩ ⟨by decide,rfl⟩ ⟨by decide,rfl⟩) (BU ⟨by decide,rfl⟩ ⟨by decide,rfl⟩ ⟨by decide,rfl⟩ ⟨by decide,rfl⟩) (by omega) (λ_ _=>rfl) (λg W=>RO g W) RM a b c d w
theorem Rv (perm:Int) (h:perm<0\/5<perm) (a b c d:Int) (w:World) :
  (UO 29 #[iv perm,.agg #[iv a,iv b,iv c,iv d]] w (UP w (.bool false)))/\
  (UO 28 #[iv perm,.agg #[iv a,iv b,iv c,iv d]] w (UP w (.bool false))):=by
 rcases h with h|h
 .refine⟨?_,?_⟩;.go_enter func29,ntmps29;go_wp2;go_ret;exact⟨rfl,Aa _ _⟩
  .go_enter func28,ntmps28;go_wp2;go_ret;exact⟨rfl,Aa _ _⟩
 .have e:6<=perm:=by omega
  have f:0<=perm:=by omega
  refine⟨?_,?_⟩;.go_enter func29,ntmps29;go_wp2;go_ret;exact⟨rfl,Aa _ _⟩
  .go_enter func28,ntmps28;go_wp2;go_ret;exact⟨rfl,Aa _ _⟩
theorem Nr (i:Nat) (hi:i<4):N4 i<4:=by
 have a:i=0\/i=1\/i=2\/i=3:=by omega
 rcases a with rfl|rfl|rfl|rfl <;> decide
theorem M0 (i:Nat) (hi:i<4):NT i<4:=by
 have a:i=0\/i=1\/i=2\/i=3:=by omega
 rcases a with rfl|rfl|rfl|rfl <;> decide
theorem NE (i:Nat) (hi:i<4):NW i<4:=by
 have a:i=0\/i=1\/i=2\/i=3:=by omega
 rcases a with rfl|rfl|rfl|rfl <;> decide
theorem MU (i:Nat) (hi:i<4):Ob i<4:=by
 have a:i=0\/i=1\/i=2\/i=3:=by omega
 rcases a with rfl|rfl|rfl|rfl <;> decide
theorem NB (i:Nat) (hi:i<4):NM i<4:=by
 have a:i=0\/i=1\/i=2\/i=3:=by omega
 rcases a with rfl|rfl|rfl|rfl <;> decide
theorem M3 (i:Nat) (hi:i<4):NJ i<4:=by
 have a:i=0\/i=1\/i=2\/i=3:=by omega
 rcases a with rfl|rfl|rfl|rfl <;> decide
def A7 (j:Nat) (p:Qd) (i:Nat):Int:=AB p.s p.p p.o p.g (AM j i)
theorem IA {x y:Nat->Int} (h:∀i,i<4->x i=y i) (d:Cx x 4):Cx y 4:=by intro q c;obtain⟨a,b⟩:=d q c;rw[h q c] at a b;exact⟨a,λr f e=>b r f (by rw[h r (by omega)];exact e)⟩
theorem ES {j:Nat} {p:Qd} {o:Nat->Nat} (b:∀i,i<4->o i=AM j i) (h:Dc (λi=>AB p.s p.p p.o p.g (o i))=true):Cx (A7 j p) 4:=
 IA (λi a=>by unfold A7;rw[b i a]) ((Ea _).1 h)
theorem Hs {P:Nat->Prop} (e:P 0) (b:P 1) (c:P 2) (d:P 3):∀i,i<4->P i:=λi a=>by
 rcases (show i=0\/i=1\/i=2\/i=3 by omega) with rfl|rfl|rfl|rfl <;> assumption
theorem Tg (perm:Int) (p:Qd):∃B:Bool,(∀w,
  (UO 29 #[iv perm,qv p] w (UP w (.bool B)))/\
  (UO 28 #[iv perm,qv p] w (UP w (.bool B))))/\
  (B=true->∃j:Nat,j<6/\perm=(j:Int)/\Cx (A7 j p) 4):=by
 obtain⟨a,b,c,d⟩:=p;by_cases h:perm<0\/5<perm;.exact⟨false,λw=>Rv perm h a b c d w,λh=>by cases h⟩
 have e:perm=0\/perm=1\/perm=2\/perm=3\/perm=4\/perm=5:=by omega
 rcases e with rfl|rfl|rfl|rfl|rfl|rfl;.exact⟨_,λw=>⟨AU 0 (by omega) (by omega) a b c d N4 Nr JF w,Iu a b c d w⟩,λh=>⟨0,by omega,rfl,ES (Hs rfl rfl rfl rfl) h⟩⟩
 .exact⟨_,λw=>⟨AU 1 (by omega) (by omega) a b c d NT M0 J4 w,I9 a b c d w⟩,λh=>⟨1,by omega,rfl,ES (Hs rfl rfl rfl rfl) h⟩⟩
 .exact⟨_,λw=>⟨AU 2 (by omega) (by omega) a b c d NW NE J8 w,IW a b c d w⟩,λh=>⟨2,by omega,rfl,ES (Hs rfl rfl rfl rfl) h⟩⟩
 .exact⟨_,λw=>⟨AU 3 (by omega) (by omega) a b c d Ob MU JV w,Ja a b c d w⟩,λh=>⟨3,by omega,rfl,ES (Hs rfl rfl rfl rfl) h⟩⟩
 .exact⟨_,λw=>⟨AU 4 (by omega) (by omega) a b c d NM NB J0 w,In a b c d w⟩,λh=>⟨4,by omega,rfl,ES (Hs rfl rfl rfl rfl) h⟩⟩
 .exact⟨_,λw=>⟨AU 5 (by omega) (by omega) a b c d NJ M3 JX w,IM a b c d w⟩,λh=>⟨5,by omega,rfl,ES (Hs rfl rfl rfl rfl) h⟩⟩
def OW (x:Int):ByteArray:=(((ByteArray.empty.push (UInt8.ofNat (x / 16777216).toNat)).push (UInt8.ofNat (x / 65536 % 256).toNat)).push (UInt8.ofNat (x / 256 % 256).toNat)).push (UInt8.ofNat (x % 256).toNat)
theorem Hh (x:Int) (i:0<=x) (h:x<4294967296) (w:World):UO 110 #[iv x] w (UP w (.string (OW x))):=by
 obtain⟨W,f⟩:=gn (w.alloc (.cells #[.int .u8 (x / 16777216),.int .u8 (x / 65536 % 256),.int .u8 (x / 256 % 256),.int .u8 (x % 256)] 5));have b:=Bx.new w #[.int .u8 (x / 16777216),.int .u8 (x / 65536 % 256),.int .u8 (x / 256 % 256),.int .u8 (x % 256)] 5;have e:=b.cell 0;have a:=b.cell 1;have d:=b.cell 2;have c:=b.cell 3;simp at e a d c;have g:(convert 47 9 (.slice (some (ad w.heap.size 0)) 4 4)).run prog (w.alloc (.cells #[.int .u8 (x / 16777216),.int .u8 (x / 65536 % 256),.int .u8 (x / 256 % 256),.int .u8 (x % 256)] 5))=.ok (.string (OW x)) (w.alloc (.cells #[.int .u8 (x / 16777216),.int .u8 (x / 65536 % 256),.int .u8 (x / 256 % 256),.int .u8 (x % 256)] 5)):=by rw[run_convert_bytes_string (P:=prog) _ 47 9 5 _ 4 4 rfl rfl rfl,run_bytesToString _ _ 4 4 [x / 16777216,x / 65536 % 256,x / 256 % 256,x % 256] (by simp[go_sem])];rfl
 clear f W b e a d c;go_enter func110,ntmps110;go_wp2;go_ret;exact⟨rfl,Aa _ _⟩
def FJ (x:Nat->Int):Nat->ByteArray
 | 0=>{ data:=#[] }
 | i+1=>FJ x i++OW (x i)
def JD (x:Nat->Int):Nat->ByteArray
 | 0=>{ data:=#[] }
 | i+1=>FJ x i++OW (x i+1)
theorem Gt (x:Int):(OW x).size=4:=rfl
theorem Fa (x:Nat->Int):∀i,(FJ x i).size=4*i
 | 0=>rfl
 | i+1=>by
  show (FJ x i++OW (x i)).size=_
  rw[ByteArray.size_append,Fa x i,Gt]
  omega
theorem RF (p:Qd) (o:Nat) (a:o<4):(#[iv p.s,iv p.p,iv p.o,iv p.g]:Array Value)[o]?=some (iv (AB p.s p.p p.o p.g o)):=by rcases (show o=0\/o=1\/o=2\/o=3 by omega) with rfl|rfl|rfl|rfl <;> rfl
def Jw (x:Nat->Int) (m:Nat):Prop:=m<=4/\(∀i,i<m->x i≠0)/\(m<4->x m=0)
theorem KZ (j:Nat) (N:j<6) (p:Qd) (m:Nat) (hm:Jw (A7 j p) m) (hr:∀i,i<4->0<=A7 j p i/\A7 j p i<=2000000000) (w:World) :
  UO 72 #[.func (.func (BY j)) #[] #[],qv p] w (UP w (.tuple #[.string (FJ (A7 j p) m),.string (JD (A7 j p) m)])):=by
 have T:U (∀W:World,UO (BY j) #[pt w.heap.size] W (UP W (.agg (Oc j w.heap.size)))):=λW=>Ku j N _ W;have u:U (j<6/\Jw (A7 j p) m/\∀i,i<4->0<=A7 j p i/\A7 j p i<=2000000000):=⟨N,hm,hr⟩;have ab:∀a W,(callFunc (BY j) a).run prog W=.ok (.enter (BY j) a) W:=λa W=>by rcases (show j=0\/j=1\/j=2\/j=3\/j=4\/j=5 by omega) with rfl|rfl|rfl|rfl|rfl|rfl <;> rfl
 have F:U (∀(x:Int) (W:World),0<=x->x<4294967296->UO 110 #[iv x] W (UP W (.string (OW x)))):=λx W h0 h1=>Hh x h0 h1 W;clear N hm hr;unfold qv;go_enter func72,ntmps72;go_wp2_with fail
 (with_reducible refine (T.o _).mono ?_)
 rintro e V ⟨rfl,n⟩;have X:U (Bx V w.heap.size 34 #[iv p.s,iv p.p,iv p.o,iv p.g]/\Bl w V):=⟨(n.block _ (by simp)).trans (Bx.new w _ _),(Aa _ _).trans (n.mono (by simp))⟩;clear n T;go_wp2_with fail
 go_loopw [6,7,9,12] (λl hi _ i wr=>∃H:Nat,H<=m/\i=iv H/\l=.string (FJ (A7 j p) H)/\hi=.string (JD (A7 j p) H)/\Bx wr w.heap.size 34 #[iv p.s,iv p.p,iv p.o,iv p.g]/\Bl w wr) (λ_ _ _ i _=>4-(intOf i).toNat)
 case atStart=>exact⟨0,Us _,rfl,rfl,rfl,X.o⟩
 case round=>
  obtain⟨i,hi,rfl,rfl,rfl,Y,Z⟩:=hrel;have r:U (Bx wr w.heap.size 34 #[iv p.s,iv p.p,iv p.o,iv p.g]/\Bl w wr):=⟨Y,Z⟩;clear Y Z X;by_cases D:i<4
  .have aa:∀W:World,(Instr.index 156 (.agg (Oc j w.heap.size)) (iv (i:Int))).run prog W=.ok (.pointer (some (ad w.heap.size (AM j i)))) W:=λW=>by rcases (show i=0\/i=1\/i=2\/i=3 by omega) with rfl|rfl|rfl|rfl <;> rfl
   have A:=r.o.1.cell (AM j i);rw[RF p _ (DL j u.o.1 i D)] at A;obtain⟨x,I⟩:∃x,x=A7 j p i:=⟨_,rfl⟩;have O:U (x=A7 j p i):=I;have B:=u.o.2.2 i D;have z:AB p.s p.p p.o p.g (AM j i)=x:=I.symm;rw[z] at A;rw[<- I] at B;obtain⟨ae,ac⟩:=B;clear I z;by_cases t:x=0
   .have L:(x == 0)=true:=by simp[t]
    have K:decide (x=0)=true:=by simp[t]
    have C:U (i=m):=by
     rcases Nat.lt_or_ge i m with h|h;.exact absurd (by rw[<- O.o];exact t) (u.o.2.1.2.1 i h)
     .show i=m;omega
    go_wp2;refine bodyPost_ret (v:=.tuple #[.string (FJ (A7 j p) i),.string (JD (A7 j p) i)]) (by simp[results,results72,go_sem]) rfl ?_;exact⟨by rw[C.o],r.o.2⟩
   .have L:(x == 0)=false:=by simp[t]
    have K:decide (x=0)=false:=by simp[t]
    have C:U (i<m):=by
     rcases Nat.lt_or_ge i m with h|h;.exact h
     .have e:i=m:=by omega
      exact absurd (by rw[O.o,e];exact u.o.2.1.2.2 (by omega)) t
    obtain⟨l,b⟩:∃l,l=FJ (A7 j p) i:=⟨_,rfl⟩;obtain⟨G,f⟩:∃G,G=OW (x+1):=⟨_,rfl⟩;obtain⟨y,d⟩:∃y,y=OW x:=⟨_,rfl⟩;have M:U (∀W:World,UO 110 #[iv (x+1)] W (UP W (.string G))):=λW=>by rw[f];exact F.o (x+1) W (by omega) (by omega)
    have Q:U (∀W:World,UO 110 #[iv x] W (UP W (.string y))):=λW=>by rw[d];exact F.o x W (by omega) (by omega)
    have E:U (l++y=FJ (A7 j p) (i+1)/\l++G=JD (A7 j p) (i+1)):=by rw[b,d,f,O.o];exact⟨rfl,rfl⟩
    have z3:¬ (9223372036854775807:Int)<(l.size:Int)+(G.size:Int):=by rw[b,f,Fa,Gt];omega
    have z4:¬ (9223372036854775807:Int)<(l.size:Int)+(y.size:Int):=by rw[b,d,Fa,Gt];omega
    rw[<- b];clear b f d;go_wp2_with fail
    (with_reducible refine (M.o _).mono ?_)
    rintro e R ⟨rfl,c⟩;have c2:R.cell? (ad w.heap.size (AM j i))=some (iv x):=(c.cell (Uo _ _ A)).trans A;have J:U (Bx R w.heap.size 34 #[iv p.s,iv p.p,iv p.o,iv p.g]/\Bl w R):=⟨(c.block _ r.o.1.lt).trans r.o.1,r.o.2.trans (c.mono r.o.2.size)⟩;clear c A;go_wp2_with fail
    (with_reducible refine (Q.o _).mono ?_)
    rintro e S ⟨rfl,q⟩;have Q3:U (Bx S w.heap.size 34 #[iv p.s,iv p.p,iv p.o,iv p.g]/\Bl w S):=⟨(q.block _ J.o.1.lt).trans J.o.1,J.o.2.trans (q.mono J.o.2.size)⟩;clear q c2;go_wp2;go_roundw;case rel=>exact⟨i+1,C.o,by go_num,by rw[<- E.o.1],by rw[<- E.o.2],Q3.o⟩
    case measure=>simp[intOf];omega
  .have C:U (i=m):=by have:=u.o.2.1.1;show i=m;omega
   obtain rfl:i=4:=by have:=u.o.2.1.1;omega
   go_wp2;refine bodyPost_ret (v:=.tuple #[.string (FJ (A7 j p) 4),.string (JD (A7 j p) 4)]) (by simp[results,results72,go_sem]) rfl ?_;exact⟨by rw[C.o],r.o.2⟩
end Go.Proofs.YtcnollkkigiobaaGreat
