import Derived.Test.YtpaomghibppgkaaGreatNv20
import Derived.Lib.ConvBytes
import Derived.Test.YtpaomghibppgkaaGreatNv4
import Derived.Test.YtpaomghibppgkaaGreatNv1
import Derived.Test.YtpaomghibppgkaaGreatNv3
import Derived.Test.YtpaomghibppgkaaGreatNv29
import Derived.Deep.CutBlock
set_option linter.unusedVariables false
set_option maxRecDepth 100000
namespace Go.Proofs.YtpaomghibppgkaaGreat
open Go.RowKit Go.Deep

theorem ptF_own (perm:Nat) (hp:perm<6) (k:ByteArray) (i:Nat) (hi:i<4):ptF perm k i (ordF perm i)=0:=by
 unfold ptF
 rw [if_neg]
 rcases (show perm=0\/perm=1\/perm=2\/perm=3\/perm=4\/perm=5 by omega) with rfl|rfl|rfl|rfl|rfl|rfl <;> rcases (show i=0\/i=1\/i=2\/i=3 by omega) with rfl|rfl|rfl|rfl <;> decide
def pnA (perm:Nat) (k:ByteArray) (i n:Nat):Array Value:=(ptA perm k i).setIfInBounds (ordF perm i) (.int .i64 (pkn k i n))
theorem pnA_zero (perm:Nat) (hp:perm<6) (k:ByteArray) (i:Nat) (hi:i<4):pnA perm k i 0=ptA perm k i:=by
 have h:=ptF_own perm hp k i hi
 have ho:=ordF_lt perm hp i hi
 unfold pnA
 show (ptA perm k i).setIfInBounds (ordF perm i) (.int .i64 0)=_
 rw [<- h]
 unfold ptA
 generalize ordF perm i=o at ho ⊢
 rcases (show o=0\/o=1\/o=2\/o=3 by omega) with rfl|rfl|rfl|rfl <;> simp
theorem pnA_four (perm:Nat) (hp:perm<6) (k:ByteArray) (i:Nat) (hi:i<4):pnA perm k i 4=ptA perm k (i+1):=ptA_set perm hp k i hi
theorem pnA_get (perm:Nat) (hp:perm<6) (k:ByteArray) (i:Nat) (hi:i<4) (n:Nat):(pnA perm k i n)[ordF perm i]?=some (.int .i64 (pkn k i n)):=by
 have ho:=ordF_lt perm hp i hi
 unfold pnA
 rw [Array.getElem?_setIfInBounds_self_of_lt (by simpa [ptA] using ho)]
theorem pnA_set (perm:Nat) (k:ByteArray) (i n:Nat):(pnA perm k i n).setIfInBounds (ordF perm i) (.int .i64 (pkn k i (n+1)))=pnA perm k i (n+1):=by
 unfold pnA
 simp

theorem shl_or (x b:Int) (h0:0<=x) (h1:x<4294967296) (hb0:0<=b) (hb1:b<256):bits .or .i64 (x*256) b=256*x+b:=by
 obtain ⟨X,rfl⟩:∃X:Nat,x=(X:Int):=⟨x.toNat,by omega⟩
 obtain ⟨B,rfl⟩:∃B:Nat,b=(B:Int):=⟨b.toNat,by omega⟩
 have oi:∀a:Nat,a<1099511627776->(BitVec.ofInt 64 (a:Int)).toNat=a:=fun a ha=>by
  rw [BitVec.ofInt_natCast,BitVec.toNat_ofNat]
  exact Nat.mod_eq_of_lt (by omega)
 have e0:((X:Int)*256)=((X*256:Nat):Int):=by omega
 rw [e0]
 show IntKind.i64.wrap ((BitVec.ofInt 64 ((X*256:Nat):Int) ||| BitVec.ofInt 64 (B:Int)).toNat:Int)=_
 rw [BitVec.toNat_or,oi _ (by omega),oi _ (by omega),IntKind.wrap_i64]
 have h:=Nat.shiftLeft_add_eq_or_of_lt (i:=8) (b:=B) (by omega) X
 rw [Nat.shiftLeft_eq,show (2:Nat) ^ 8=256 by rfl] at h
 rw [<- h]
 omega
structure QPt (w W:World) (A:Array Value):Prop where
 rb:Bx W w.heap.size 122 #[.int .i64 0,.int .i64 0,.int .i64 0,.int .i64 0]
 qb:Bx W (w.heap.size+1) 122 A
 bel:Below w.heap.size w W
theorem QPt.keep {w W W' : World} {A:Array Value} (h:QPt w W A) (hb:Below W.heap.size W W'):QPt w W' A:=
 ⟨(hb.block _ h.rb.lt).trans h.rb,(hb.block _ h.qb.lt).trans h.qb,h.bel.trans (hb.mono h.bel.size)⟩
theorem bytes_below (w:World) (e:TypeId) (s:ByteArray):Below w.heap.size w (Go.Lib.bytesWorld w e s):=
 ⟨rfl,rfl,rfl,by rw [Go.Lib.bytesWorld_size];omega,fun k hk=>Go.Lib.bytesWorld_at_old w e s k hk⟩
theorem kb_sub (k:ByteArray) (i j:Nat) (hj:j<4) (hk:(i+1)*4<=k.size):kb k (4*i+j)=(((k.extract (i*4) ((i+1)*4)).data.toList.getD j 0).toNat:Int):=by
 obtain ⟨b,e,eb⟩:=kb_get (k:=k) (i:=4*i+j) (by omega)
 rw [eb]
 have e2:k.data[4*i+j]?=some b:=by
  rw [<- e]
  first|rfl|simp
 have e1:(k.extract (i*4) ((i+1)*4)).data.toList.getD j 0=b:=by
  simp only [ByteArray.data_extract,List.getD_eq_getElem?_getD,Array.getElem?_toList,Array.getElem?_extract]
  rw [if_pos (by have:k.data.size=k.size:=rfl;omega),show i*4+j=4*i+j by omega,e2]
  rfl
 rw [e1]
def ptrA (perm g:Nat):Array Value:=#[.pointer (some ⟨g,ordF perm 0,none⟩),.pointer (some ⟨g,ordF perm 1,none⟩),.pointer (some ⟨g,ordF perm 2,none⟩),.pointer (some ⟨g,ordF perm 3,none⟩)]

set_option maxHeartbeats 4000000 in
theorem quad_any (perm:Nat) (hp:perm<6) (key:ByteArray) (hk:key.size=16) (w:World):Calls Tryz.prog 127 #[.func (.func (layF perm)) #[] #[],.string key] w fun e w'=>e=.returned (qv (quadOf perm key))/\Below w.heap.size w w':=by
 have HL:Hid (∀W:World,Calls Tryz.prog (layF perm) #[.pointer (some ⟨w.heap.size+1,0,none⟩)] W fun e w'=>e=.returned (.agg (ptrA perm (w.heap.size+1)))/\Below W.heap.size W w'):=fun W=>lay_any perm hp _ W
 have HK:Hid (key.size=16/\perm<6):=⟨hk,hp⟩
 have heg:∀args W,(callFunc (layF perm) args).run Tryz.prog W=.ok (.enter (layF perm) args) W:=fun args W=>by
  rcases (show perm=0\/perm=1\/perm=2\/perm=3\/perm=4\/perm=5 by omega) with rfl|rfl|rfl|rfl|rfl|rfl <;> rfl
 clear hp
 go_enter Tryz.func127,Tryz.ntmps127
 go_wp2_with fail
 (with_reducible refine (HL.out _).mono ?_)
 rintro e w1 ⟨rfl,hw1⟩
 have Q0:Hid (QPt w w1 (ptA perm key 0)):=by
  have b1:=Bx.new w #[.int .i64 0,.int .i64 0,.int .i64 0,.int .i64 0] 122
  have b2:=Bx.new (w.alloc (.cells #[.int .i64 0,.int .i64 0,.int .i64 0,.int .i64 0] 122)) #[.int .i64 0,.int .i64 0,.int .i64 0,.int .i64 0] 122
  simp only [World.size_alloc] at b2
  exact ⟨(hw1.block _ (by simp;omega)).trans (b1.alloc _),(hw1.block _ (by simp)).trans b2,(((below_alloc _ _).alloc (by simp) _)).trans (hw1.mono (by simp;omega))⟩
 clear hw1 HL
 go_wp2_with fail
 go_loopw [6,7,9,12] (fun _ _ _ i wr=>∃ii:Nat,ii<=4/\i=.int .i64 ii/\QPt w wr (ptA perm key ii)) (fun _ _ _ i _=>4-(intOf i).toNat)
 case atStart=>exact ⟨0,by omega,rfl,Q0.out⟩
 case round=>
  obtain ⟨i,hi,rfl,hq⟩:=hrel
  obtain ⟨W1,rfl⟩:∃W1,W1=wr:=⟨_,rfl⟩
  have QI:Hid (QPt w W1 (ptA perm key i)):=hq
  clear hq Q0
  by_cases hlt:i<4
  ·have hixp:∀W:World,(Instr.index 220 (.agg (ptrA perm (w.heap.size+1))) (.int .i64 (i:Int))).run Tryz.prog W=.ok (.pointer (some ⟨w.heap.size+1,ordF perm i,none⟩)) W:=fun W=>by
    rcases (show i=0\/i=1\/i=2\/i=3 by omega) with rfl|rfl|rfl|rfl <;> rfl
   have e4:((i:Int)*4).toNat=i*4:=by omega
   have e5:(((i:Int)+1)*4).toNat=(i+1)*4:=by omega
   have hsl:∀W:World,(Instr.slice 9 (.string key) (some (.int .i64 ((i:Int)*4))) (some (.int .i64 (((i:Int)+1)*4))) none).run Tryz.prog W=.ok (.string (key.extract (i*4) ((i+1)*4))) W:=fun W=>by
    have g1:(0:Int)<=(i:Int)*4:=by omega
    have g2:(0:Int)<=((i:Int)+1)*4:=by omega
    have g3:((i:Int)+1)*4<=(key.size:Int):=by rw [HK.out.1];omega
    have g4:(i:Int)<=(i:Int)+1:=by omega
    simp [Instr.slice,go_sem,e4,e5,g1,g2,g3,g4]
   obtain ⟨sub,hsub⟩:∃sub,sub=key.extract (i*4) ((i+1)*4):=⟨_,rfl⟩
   rw [<- hsub] at hsl
   have hss:sub.size=4:=by rw [hsub,ByteArray.size_extract,HK.out.1];omega
   have hcv:∀W:World,(convert 9 208 (.string sub)).run Tryz.prog W=.ok (.slice (some ⟨W.heap.size,0,none⟩) 4 (grownCap W 4 0 5)) (Go.Lib.bytesWorld W 5 sub):=fun W=>by
    have h:=Go.Lib.run_convert_string_bytes (P:=Tryz.prog) W 9 208 5 sub rfl rfl rfl
    rw [hss] at h
    exact h
   have HSub:Hid (sub=key.extract (i*4) ((i+1)*4)/\sub.size=4):=⟨hsub,hss⟩
   clear hsub hss e4 e5
   go_wp2
   have HS0:Hid (QPt w (Go.Lib.bytesWorld W1 5 sub) (pnA perm key i 0)/\∀j,j<4->(Go.Lib.bytesWorld W1 5 sub).cell? ⟨W1.heap.size,j,none⟩=some (.int .u8 (kb key (4*i+j)))):=by
    refine ⟨?_,fun j hj=>?_⟩
    ·rw [pnA_zero perm HK.out.2 key i hlt]
     exact QI.out.keep (bytes_below _ _ _)
    ·rw [Go.Lib.bytesWorld_cell _ _ _ _ (by rw [HSub.out.2];exact hj),HSub.out.1]
     exact congrArg (fun x=>some (Value.int .u8 x)) (kb_sub key i j hj (by rw [HK.out.1];omega)).symm
   obtain ⟨g,hg⟩:∃g,g=W1.heap.size:=⟨_,rfl⟩
   have HG:Hid (w.heap.size+1<g):=by
    rw [hg]
    exact QI.out.qb.lt
   rw [<- hg] at HS0 ⊢
   clear hg
   obtain ⟨cp,hcp⟩:∃cp,cp=grownCap W1 4 0 5:=⟨_,rfl⟩
   rw [<- hcp]
   clear hcp hcv hsl hixp
   generalize Go.Lib.bytesWorld W1 5 sub=W2 at HS0 ⊢
   go_loopw [9,25] (fun _ n wr=>∃nn:Nat,nn<=4/\n=.int .i64 nn/\QPt w wr (pnA perm key i nn)/\∀j,j<4->wr.cell? ⟨g,j,none⟩=some (.int .u8 (kb key (4*i+j)))) (fun _ n _=>4-(intOf n).toNat)
   case atStart=>exact ⟨0,by omega,rfl,HS0.out.1,HS0.out.2⟩
   case round=>
    obtain ⟨n,hn,rfl,hq,hc⟩:=hrel
    obtain ⟨W3,rfl⟩:∃W3,W3=wr:=⟨_,rfl⟩
    have QJ:Hid (QPt w W3 (pnA perm key i n)/\∀j,j<4->W3.cell? ⟨g,j,none⟩=some (.int .u8 (kb key (4*i+j)))):=⟨hq,hc⟩
    clear hq hc HS0
    by_cases hln:n<4
    ·have c1:=QJ.out.2 n hln
     have hbr:=kb_range key (4*i+n)
     obtain ⟨b,hb⟩:∃b,b=kb key (4*i+n):=⟨_,rfl⟩
     have HBb:Hid (b=kb key (4*i+n)):=hb
     rw [<- hb] at c1 hbr
     clear hb
     have c2:=QJ.out.1.qb.cell (ordF perm i)
     rw [pnA_get perm HK.out.2 key i hlt n] at c2
     have hxr:=pkn_range key i n hn
     obtain ⟨x,hx⟩:∃x,x=pkn key i n:=⟨_,rfl⟩
     have HX:Hid (x=pkn key i n):=hx
     rw [<- hx] at hxr c2
     clear hx
     have f2:=QJ.out.1.qb.frozen (ordF perm i)
     have l2:=QJ.out.1.qb.lt
     have n0:(0:Int)<=(n:Int):=by omega
     have n1:(n:Int)<4:=by omega
     have HN:Hid (256*x+b=pkn key i (n+1)):=by
      show 256*x+b=pkn key i (n+1)
      rw [HX.out,HBb.out]
      rfl
     obtain ⟨hx0,hx1⟩:=hxr
     obtain ⟨hb0,hb1⟩:=hbr
     go_wp2
     go_roundw
     case rel=>
      refine ⟨n+1,by omega,by go_num,?_,fun j hj=>?_⟩
      ·rw [shl_or x b hx0 hx1 hb0 hb1,HN.out]
       have q:=QJ.out.1
       refine ⟨q.rb.other (by simp) _,?_,q.bel.setCell (by simp) _⟩
       have e:=q.qb.set (ordF perm i) (.int .i64 (pkn key i (n+1)))
       rw [pnA_set] at e
       exact e
      ·rw [<- QJ.out.2 j hj]
       exact World.cell?_of_block (a:=⟨g,j,none⟩) (Below.heap_setCell _ _ _ _ (by have:=HG.out;simp;omega))
     case measure=>simp [intOf];omega
    ·obtain rfl:n=4:=by omega
     go_wp2
     go_roundw
     case rel=>
      refine ⟨i+1,by omega,by go_num,?_⟩
      rw [<- pnA_four perm HK.out.2 key i hlt]
      exact QJ.out.1
     case measure=>simp [intOf];omega
  ·obtain rfl:i=4:=by omega
   have p0:=QI.out.qb.cell 0
   have p1:=QI.out.qb.cell 1
   have p2:=QI.out.qb.cell 2
   have p3:=QI.out.qb.cell 3
   rw [ptA_get perm key 4 0 (by omega),ptF_all perm HK.out.2 key 0 (by omega)] at p0
   rw [ptA_get perm key 4 1 (by omega),ptF_all perm HK.out.2 key 1 (by omega)] at p1
   rw [ptA_get perm key 4 2 (by omega),ptF_all perm HK.out.2 key 2 (by omega)] at p2
   rw [ptA_get perm key 4 3 (by omega),ptF_all perm HK.out.2 key 3 (by omega)] at p3
   obtain ⟨q0,hq0⟩:∃q0,q0=pk key (posF perm 0):=⟨_,rfl⟩
   obtain ⟨q1,hq1⟩:∃q1,q1=pk key (posF perm 1):=⟨_,rfl⟩
   obtain ⟨q2,hq2⟩:∃q2,q2=pk key (posF perm 2):=⟨_,rfl⟩
   obtain ⟨q3,hq3⟩:∃q3,q3=pk key (posF perm 3):=⟨_,rfl⟩
   rw [<- hq0] at p0
   rw [<- hq1] at p1
   rw [<- hq2] at p2
   rw [<- hq3] at p3
   have HV:Hid (qv (quadOf perm key)=.agg #[.int .i64 q0,.int .i64 q1,.int .i64 q2,.int .i64 q3]):=by
    show qv (quadOf perm key)=_
    rw [hq0,hq1,hq2,hq3]
    rfl
   clear hq0 hq1 hq2 hq3
   have z0:=QI.out.rb.cell 0
   have z1:=QI.out.rb.cell 1
   have z2:=QI.out.rb.cell 2
   have z3:=QI.out.rb.cell 3
   simp at z0 z1 z2 z3
   have zf:=fun i=>QI.out.rb.frozen i
   have zl:=QI.out.rb.lt
   have HB:Hid (Below w.heap.size w W1):=QI.out.bel
   go_wp2
   refine bodyPost_ret (v:=.agg #[.int .i64 q0,.int .i64 q1,.int .i64 q2,.int .i64 q3]) (by simp [results,Tryz.results127,go_sem,z0,z1,z2,z3]) rfl ⟨by rw [HV.out],?_⟩
   exact (((HB.out.setCell (by simp) _).setCell (by simp) _).setCell (by simp) _).setCell (by simp) _
set_option linter.unusedSimpArgs false

def TRow (w:World) (g n:Nat):Prop:=∃I X R,rowIn w g 112 (n*3) (termCell I X R)
theorem TRow.cells {w:World} {g n j:Nat} (h:TRow w g n) (hj:j<n):∃(i:Int) (x:ByteArray) (r:Int),w.cell? ⟨g,j*3,none⟩=some (.int .i64 i)/\w.cell? ⟨g,j*3+1,none⟩=some (.string x)/\w.cell? ⟨g,j*3+2,none⟩=some (.int .i64 r)/\(∀o,w.frozen? ⟨g,o,none⟩=false)/\g<w.heap.size:=by
 obtain ⟨I,X,R,h⟩:=h
 refine ⟨I j,X j,R j,?_,?_,?_,h.frozen,h.lt⟩
 ·have:=h.cell (i:=j*3) (by omega);rwa [termCell_0] at this
 ·have:=h.cell (i:=j*3+1) (by omega);rwa [termCell_1] at this
 ·have:=h.cell (i:=j*3+2) (by omega);rwa [termCell_2] at this
theorem TRow.below {w w' : World} {g n:Nat} (h:TRow w g n) (hb:Below w.heap.size w w'):TRow w' g n:=by
 obtain ⟨I,X,R,h⟩:=h
 exact ⟨I,X,R,h.of_block (hb.block g h.lt)⟩
theorem TRow.set0 {w:World} {g n j:Nat} (h:TRow w g n) (v:Int):TRow (w.setCell ⟨g,j*3,none⟩ (.int .i64 v)) g n:=by
 obtain ⟨I,X,R,h⟩:=h
 refine ⟨fun i=>if i=j then v else I i,X,R,(h.set (j*3) _).congr (fun c hc=>?_)⟩
 obtain ⟨q,hq⟩:∃q,c=q*3\/c=q*3+1\/c=q*3+2:=⟨c / 3,by omega⟩
 rcases hq with rfl|rfl|rfl
 ·rw [termCell_0,termCell_0]
  by_cases e:q=j
  ·subst e;rw [if_pos rfl,if_pos rfl]
  ·rw [if_neg (by omega),if_neg e]
 ·rw [if_neg (by omega),termCell_1,termCell_1]
 ·rw [if_neg (by omega),termCell_2,termCell_2]
theorem TRow.set1 {w:World} {g n j:Nat} (h:TRow w g n) (v:ByteArray):TRow (w.setCell ⟨g,j*3+1,none⟩ (.string v)) g n:=by
 obtain ⟨I,X,R,h⟩:=h
 refine ⟨I,fun i=>if i=j then v else X i,R,(h.set (j*3+1) _).congr (fun c hc=>?_)⟩
 obtain ⟨q,hq⟩:∃q,c=q*3\/c=q*3+1\/c=q*3+2:=⟨c / 3,by omega⟩
 rcases hq with rfl|rfl|rfl
 ·rw [if_neg (by omega),termCell_0,termCell_0]
 ·rw [termCell_1,termCell_1]
  by_cases e:q=j
  ·subst e;rw [if_pos rfl,if_pos rfl]
  ·rw [if_neg (by omega),if_neg e]
 ·rw [if_neg (by omega),termCell_2,termCell_2]
theorem TRow.set2 {w:World} {g n j:Nat} (h:TRow w g n) (v:Int):TRow (w.setCell ⟨g,j*3+2,none⟩ (.int .i64 v)) g n:=by
 obtain ⟨I,X,R,h⟩:=h
 refine ⟨I,X,fun i=>if i=j then v else R i,(h.set (j*3+2) _).congr (fun c hc=>?_)⟩
 obtain ⟨q,hq⟩:∃q,c=q*3\/c=q*3+1\/c=q*3+2:=⟨c / 3,by omega⟩
 rcases hq with rfl|rfl|rfl
 ·rw [if_neg (by omega),termCell_0,termCell_0]
 ·rw [if_neg (by omega),termCell_1,termCell_1]
 ·rw [termCell_2,termCell_2]
  by_cases e:q=j
  ·subst e;rw [if_pos rfl,if_pos rfl]
  ·rw [if_neg (by omega),if_neg e]

set_option maxHeartbeats 2000000 in
theorem markPNodeK_any (x0:Int) (g n c:Nat) (w:World) (hx0:1<=x0/\x0<=100000000) (h:NRow w g n) (hn:n<=1048577) :
  Calls Tryz.prog 40 #[.slice (some ⟨g,0,none⟩) n c,.int .i64 x0] w fun e w'=>e=.returned (.int .i64 (x0+3*(n:Int)))/\w.grownBy w' (some g):=by
 have HR:Hid (NRow w g n):=h
 clear h
 go_enter Tryz.func40,Tryz.ntmps40
 go_wp2
 go_loopw [1,5] (fun q i wr=>∃(j:Nat) (x:Int),j<=n/\i=.int .i64 j/\q=.int .i64 x/\x=x0+3*(j:Int)/\NRow wr g n/\w.grownBy wr (some g)) (fun _ i _=>n-(intOf i).toNat)
 case atStart=>exact ⟨0,x0,Nat.zero_le _,rfl,rfl,by omega,HR.out,⟨rfl,rfl,rfl,Nat.le_refl _,fun _ _ _=>rfl⟩⟩
 case round=>
  obtain ⟨j,x,hj,rfl,rfl,hx,hrow,hgr⟩:=hrel
  have HX:Hid (x=x0+3*(j:Int)):=hx
  have HW:Hid (NRow wr g n/\w.grownBy wr (some g)):=⟨hrow,hgr⟩
  have hx2:1<=x:=by omega
  have hx1:x<=200000000:=by omega
  clear hx hrow hgr
  by_cases hlt:j<n
  ·obtain ⟨i9,x9,r9,c0,c1,c2,hfz,hgl⟩:=HW.out.1.cells hlt
   obtain ⟨W1,hW1⟩:∃W1,W1=wr.setCell ⟨g,j*3,none⟩ (.int .i64 x):=⟨_,rfl⟩
   have HW1:Hid (NRow W1 g n/\w.grownBy W1 (some g)):=by
    rw [hW1]
    exact ⟨HW.out.1.set0 x,grownN_trans HW.out.2 grownN_set⟩
   clear c1 c2
   go_upto_region 6 with fail
   rw [<- hW1]
   clear hW1 c0 hfz hgl HW i9 x9 r9
   go_wp2_with fail
   refine (markText_i (x+1) W1 (by omega) (by omega)).mono ?_
   rintro e w2 ⟨y2,rfl,hb2⟩
   have HW2:Hid (NRow w2 g n/\w.grownBy w2 (some g)):=⟨HW1.out.1.below hb2,grownN_trans HW1.out.2 (grownN_below hb2 _)⟩
   clear hb2 HW1
   obtain ⟨i9,x9,r9,c0,c1,c2,hfz,hgl⟩:=HW2.out.1.cells hlt
   obtain ⟨W3,hW3⟩:∃W3,W3=w2.setCell ⟨g,j*3+1,none⟩ (.string y2):=⟨_,rfl⟩
   have HW3:Hid (NRow W3 g n/\w.grownBy W3 (some g)):=by
    rw [hW3]
    exact ⟨HW2.out.1.set1 y2,grownN_trans HW2.out.2 grownN_set⟩
   clear c0 c2
   go_upto_region 8 with fail
   rw [<- hW3]
   clear hW3 c1 hfz hgl HW2 i9 x9 r9
   go_wp2_with fail
   refine (markText_i (x+1+1) W3 (by omega) (by omega)).mono ?_
   rintro e w4 ⟨y4,rfl,hb4⟩
   have HW4:Hid (NRow w4 g n/\w.grownBy w4 (some g)):=⟨HW3.out.1.below hb4,grownN_trans HW3.out.2 (grownN_below hb4 _)⟩
   clear hb4 HW3
   obtain ⟨i9,x9,r9,c0,c1,c2,hfz,hgl⟩:=HW4.out.1.cells hlt
   have HZ:Hid (NRow (w4.setCell ⟨g,j*3+2,none⟩ (.string y4)) g n/\w.grownBy (w4.setCell ⟨g,j*3+2,none⟩ (.string y4)) (some g)):=⟨HW4.out.1.set2 y4,grownN_trans HW4.out.2 grownN_set⟩
   clear c0 c1 HW4
   go_wp2
   go_roundw
   case rel=>exact ⟨j+1,_,by omega,by go_num,rfl,by rw [HX.out];omega,HZ.out⟩
   case measure=>simp [intOf];omega
  ·obtain rfl:j=n:=by omega
   go_wp2
   go_ret
   exact ⟨by rw [HX.out];rfl,HW.out.2⟩
set_option maxHeartbeats 400000 in
theorem markPathK_any (x0:Int) (g n c:Nat) (w:World) (hx0:1<=x0/\x0<=100000000) (h:NRow w g n) (hn:n<=1048577) :
  Calls Tryz.prog 16 #[.agg #[.slice (some ⟨g,0,none⟩) n c],.int .i64 x0] w fun e w'=>e=.returned (.int .i64 (x0+3*(n:Int)))/\w.grownBy w' (some g):=by
 have HR:Hid (NRow w g n):=h
 clear h
 go_enter Tryz.func16,Tryz.ntmps16
 go_wp2_with fail
 refine (markPNodeK_any x0 g n c _ hx0 (HR.out.below (below_alloc _ _)) hn).mono ?_
 rintro e w1 ⟨rfl,hg⟩
 have HG:Hid (w.grownBy w1 (some g)):=grownN_trans (grownN_below (below_alloc _ _) _) hg
 clear hg
 go_wp2
 go_ret
 exact ⟨rfl,HG.out⟩

set_option maxHeartbeats 2000000 in
theorem markTermK_any (x0:Int) (g n c:Nat) (w:World) (hx0:1<=x0/\x0<=100000000) (h:TRow w g n) (hn:n<=1048577) :
  Calls Tryz.prog 41 #[.slice (some ⟨g,0,none⟩) n c,.int .i64 x0] w fun e w'=>e=.returned (.int .i64 (x0+3*(n:Int)))/\w.grownBy w' (some g):=by
 have HR:Hid (TRow w g n):=h
 clear h
 go_enter Tryz.func41,Tryz.ntmps41
 go_wp2
 go_loopw [1,5] (fun q i wr=>∃(j:Nat) (x:Int),j<=n/\i=.int .i64 j/\q=.int .i64 x/\x=x0+3*(j:Int)/\TRow wr g n/\w.grownBy wr (some g)) (fun _ i _=>n-(intOf i).toNat)
 case atStart=>exact ⟨0,x0,Nat.zero_le _,rfl,rfl,by omega,HR.out,⟨rfl,rfl,rfl,Nat.le_refl _,fun _ _ _=>rfl⟩⟩
 case round=>
  obtain ⟨j,x,hj,rfl,rfl,hx,hrow,hgr⟩:=hrel
  have HX:Hid (x=x0+3*(j:Int)):=hx
  have HW:Hid (TRow wr g n/\w.grownBy wr (some g)):=⟨hrow,hgr⟩
  have hx2:1<=x:=by omega
  have hx1:x<=200000000:=by omega
  clear hx hrow hgr
  by_cases hlt:j<n
  ·obtain ⟨i9,x9,r9,c0,c1,c2,hfz,hgl⟩:=HW.out.1.cells hlt
   obtain ⟨W1,hW1⟩:∃W1,W1=wr.setCell ⟨g,j*3,none⟩ (.int .i64 x):=⟨_,rfl⟩
   have HW1:Hid (TRow W1 g n/\w.grownBy W1 (some g)):=by
    rw [hW1]
    exact ⟨HW.out.1.set0 x,grownN_trans HW.out.2 grownN_set⟩
   clear c1 c2
   go_upto_region 6 with fail
   rw [<- hW1]
   clear hW1 c0 hfz hgl HW i9 x9 r9
   go_wp2_with fail
   refine (markText_i (x+1) W1 (by omega) (by omega)).mono ?_
   rintro e w2 ⟨y2,rfl,hb2⟩
   have HW2:Hid (TRow w2 g n/\w.grownBy w2 (some g)):=⟨HW1.out.1.below hb2,grownN_trans HW1.out.2 (grownN_below hb2 _)⟩
   clear hb2 HW1
   obtain ⟨i9,x9,r9,c0,c1,c2,hfz,hgl⟩:=HW2.out.1.cells hlt
   have HZ:Hid (TRow ((w2.setCell ⟨g,j*3+1,none⟩ (.string y2)).setCell ⟨g,j*3+2,none⟩ (.int .i64 (x+1+1))) g n/\w.grownBy ((w2.setCell ⟨g,j*3+1,none⟩ (.string y2)).setCell ⟨g,j*3+2,none⟩ (.int .i64 (x+1+1))) (some g)):=⟨(HW2.out.1.set1 y2).set2 _,grownN_trans (grownN_trans HW2.out.2 grownN_set) grownN_set⟩
   clear c0 HW2
   go_wp2
   go_roundw
   case rel=>exact ⟨j+1,_,by omega,by go_num,rfl,by rw [HX.out];omega,HZ.out⟩
   case measure=>simp [intOf];omega
  ·obtain rfl:j=n:=by omega
   go_wp2
   go_ret
   exact ⟨by rw [HX.out];rfl,HW.out.2⟩
set_option maxHeartbeats 400000 in
theorem markDictK_any (x0 next:Int) (g n c:Nat) (w:World) (hx0:1<=x0/\x0<=100000000) (h:TRow w g n) (hn:n<=1048577) :
  Calls Tryz.prog 17 #[.agg #[.int .i64 next,.slice (some ⟨g,0,none⟩) n c],.int .i64 x0] w fun e w'=>e=.returned (.int .i64 (x0+3*(n:Int)))/\w.grownBy w' (some g):=by
 have HR:Hid (TRow w g n):=h
 clear h
 go_enter Tryz.func17,Tryz.ntmps17
 go_wp2_with fail
 refine (markTermK_any x0 g n c _ hx0 (HR.out.below (below_alloc _ _)) hn).mono ?_
 rintro e w1 ⟨rfl,hg⟩
 have HG:Hid (w.grownBy w1 (some g)):=grownN_trans (grownN_below (below_alloc _ _) _) hg
 clear hg
 go_wp2
 go_ret
 exact ⟨rfl,HG.out⟩

set_option maxHeartbeats 2000000 in
theorem markTreeK_any (x0:Int) (p0:Nat) (hp0' : x0=(p0:Int)) (hp1' : 1<=p0/\p0<=100000000) (B g n c:Nat) (M:Nat->Nat) (T:Nat->Nat->Tn) (R:Nat->Nat) (w:World) (h:OwnIr w B g n 0 n M T R) (hs:n+sumI M T n<=1048576) :
  Calls Tryz.prog 42 #[.slice (some ⟨g,0,none⟩) n c,.int .i64 x0] w fun e w'=>∃p:Nat,e=.returned (.int .i64 (p:Int))/\WiT (R 0) (R n) w w':=by
 subst hp0'
 have HR:Hid (OwnIr w B g n 0 n M T R):=h
 clear h
 go_enter Tryz.func42,Tryz.ntmps42
 go_wp2
 go_loopw [1,5] (fun q i wr=>∃j p:Nat,j<=n/\i=.int .i64 j/\q=.int .i64 p/\1<=p/\p<=p0+2*sumI M T j/\OwnIr wr B g n j n M T R/\WiT (R 0) (R n) w wr) (fun _ i _=>n-(intOf i).toNat)
 case atStart=>exact ⟨0,p0,Nat.zero_le _,rfl,rfl,hp1'.1,by omega,HR.out,WiT.refl _ _ _⟩
 case round=>
  obtain ⟨j,p,hj,rfl,rfl,hp0,hp1,ho,hw⟩:=hrel
  clear HR
  have HW:Hid (WiT (R 0) (R n) w wr):=hw
  clear hw
  by_cases hlt:j<n
  ·have hsum:sumI M T (j+1)=sumI M T j+M j+sumT (T j) (M j):=rfl
   have hsl:=sumI_le M T n (j+1) (by omega)
   have HO:Hid (OwnIr wr B g n j n M T R):=ho
   obtain ⟨hg,hB,hRn,hm,cur,h1,h2,h3⟩:=ho
   obtain ⟨gi,KA,DA,KC,DC,q1,q2,q3⟩:=h3 j (Nat.le_refl _) hlt
   have HM:Hid (MTn wr (R j) gi (M j) (T j) KA DA KC DC/\TnB (R (j+1)) gi (M j) (T j) KA DA (R j)):=⟨⟨T j,q2,fun _=>⟨rfl,rfl⟩⟩,q3⟩
   have HWd:Hid (R 0<=R j/\R (j+1)<=R n):=⟨hm 0 j (Nat.zero_le _) (by omega),hm (j+1) n hlt (Nat.le_refl _)⟩
   have c1:=h1.cell j
   rw [q1] at c1
   have i0:(0:Int)<=(j:Int):=by omega
   have i1:(j:Int)<(n:Int):=by omega
   have hjb:j<1073741824:=by omega
   obtain ⟨Mj,hMj⟩:∃x,x=M j:=⟨_,rfl⟩
   obtain ⟨Sj,hSj⟩:∃x,x=sumT (T j) (M j):=⟨_,rfl⟩
   have HC:Hid (Calls Tryz.prog 83 #[.slice (some ⟨gi,0,none⟩) Mj Mj,.int .i64 (p:Int)] wr fun e w'=>∃p' : Nat,e=.returned (.int .i64 (p' : Int))/\WiT (R j) (R (j+1)) wr w'/\p'=p+2*Mj+Sj):=by
    rw [hMj,hSj]
    exact markTNodeS_any (R j) (R (j+1)) gi (M j) (M j) p (T j) KA DA KC DC wr HM.out.1 HM.out.2 hp0 (by omega)
   rw [<- hMj] at c1
   have HP:Hid (p+2*Mj+Sj<=p0+2*sumI M T (j+1)):=by
    show _<=_
    omega
   clear hg hB hRn hm h1 h2 h3 q1 q2 q3 HM hsum hsl hMj hSj
   go_wp2_with fail
   (with_reducible refine HC.out.mono ?_)
   rintro e w1 ⟨p',rfl,hw1,hp'⟩
   have HX:Hid (OwnIr w1 B g n (j+1) n M T R/\WiT (R 0) (R n) w w1):=⟨HO.out.next hlt hw1,HW.out.trans (hw1.wide HWd.out.1 HWd.out.2)⟩
   have HP' : Hid (1<=p'/\p'<=p0+2*sumI M T (j+1)):=⟨by omega,by rw [hp'];exact HP.out⟩
   clear hw1 HC HO HW c1 hp' HP
   go_wp2
   go_roundw
   case rel=>exact ⟨j+1,p',by omega,by go_num,rfl,HP'.out.1,HP'.out.2,HX.out⟩
   case measure=>simp [intOf];omega
  ·have e:j=n:=by omega
   subst e
   clear ho
   go_wp2
   go_ret
   exact ⟨p,rfl,HW.out⟩

set_option maxHeartbeats 1000000 in
theorem markIndexK_any (x0:Int) (p0:Nat) (hp0' : x0=(p0:Int)) (hp1' : 1<=p0/\p0<=100000000) (B g n c:Nat) (M:Nat->Nat) (T:Nat->Nat->Tn) (R:Nat->Nat) (w:World) (h:OwnIr w B g n 0 n M T R) (hs:n+sumI M T n<=1048576) :
  Calls Tryz.prog 18 #[.agg #[.slice (some ⟨g,0,none⟩) n c],.int .i64 x0] w fun e w'=>∃p:Nat,e=.returned (.int .i64 (p:Int))/\WiT (R 0) (R n) w w':=by
 subst hp0'
 have HR:Hid (∀O:Obj,OwnIr (w.alloc O) B g n 0 n M T R/\WiT (R 0) (R n) w (w.alloc O)):=fun O=>⟨h.below (below_alloc _ _),WiT.grown (grown_below (r:=none) (below_alloc _ _)) (fun b e=>by cases e)⟩
 clear h
 go_enter Tryz.func18,Tryz.ntmps18
 go_wp2_with fail
 (with_reducible refine (markTreeK_any _ p0 rfl hp1' B g n c M T R _ (HR.out _).1 hs).mono ?_)
 rintro e w1 ⟨p,rfl,hw⟩
 have HW:Hid (WiT (R 0) (R n) w w1):=(HR.out _).2.trans hw
 clear hw
 go_wp2
 go_ret
 exact ⟨p,rfl,HW.out⟩

set_option maxHeartbeats 1000000 in
theorem szPNodeS_le (a:Option Addr) (n c:Nat) (I:Nat->Int) (X:Nat->ByteArray) (R:Nat->ByteArray) (l:Int) (w:World) (h:RdN w a n I X R) (hn:n<=maxLen) (hX:∀i,i<n->(X i).size<=maxLen/\(R i).size<=maxLen) (h0:0<=l) (h1:l<=1048576) :
  Calls Tryz.prog 21 #[.slice a n c,.int .i64 l] w fun e w'=>∃r:Int,e=.returned (.int .i64 r)/\(r=-1\/((0<=r/\r<=1048576)/\n<=1048576))/\Below w.heap.size w w':=by
 unfold maxLen at hn
 by_cases hneg:l-(n:Int)<0
 ·go_enter Tryz.func21,Tryz.ntmps21
  go_wp2
  go_ret
  exact ⟨-1,rfl,Or.inl rfl,Below.refl _ _⟩
 ·go_enter Tryz.func21,Tryz.ntmps21
  go_wp2
  go_loopw [1,5] (fun q i wr=>∃(k:Nat) (l' : Int),k<=n/\i=.int .i64 k/\q=.int .i64 l'/\0<=l'/\l'<=1048576/\Below w.heap.size w wr) (fun _ i _=>n-(intOf i).toNat)
  case atStart=>exact ⟨0,_,Nat.zero_le _,rfl,rfl,by omega,by omega,Below.refl _ _⟩
  case round=>
   obtain ⟨k,l',hk,rfl,rfl,hl0,hl1,hbel⟩:=hrel
   by_cases hlt:k<n
   ·have hne:¬ n=0:=by omega
    have h':=h.below hbel
    have HB:Hid (Below w.heap.size w wr):=hbel
    have hsz:=hbel.size
    rcases h' with h' | ⟨b,o,rfl,hc⟩
    ·exact absurd h' hne
    obtain ⟨c1,c2,c3⟩:=hc k hlt
    have HX:=hX k hlt
    clear hc h hbel hX
    go_wp2_with fail
    refine (szPNode_any (I k) (X k) (R k) l' _ HX.1 HX.2 hl0 hl1).mono ?_
    rintro e w1 ⟨q,rfl,hq,hb1⟩
    have HB1:Hid (Below w.heap.size w w1):=HB.out.trans (hb1.mono (by simpa using hsz))
    clear hb1 c1 c2 c3
    rcases hq with rfl|⟨hq0,hq1⟩
    ·go_wp2
     go_ret
     exact ⟨-1,rfl,Or.inl rfl,HB1.out⟩
    ·have hq2:¬ q<0:=by omega
     go_wp2
     go_roundw
     case rel=>exact ⟨k+1,q,by omega,by go_num,rfl,hq0,hq1,HB1.out⟩
     case measure=>simp [intOf];omega
   ·have e:k=n:=by omega
    subst e
    go_wp2
    go_ret
    exact ⟨l',rfl,Or.inr ⟨⟨hl0,hl1⟩,by omega⟩,hbel⟩

set_option maxHeartbeats 1000000 in
theorem szPath_le (a:Option Addr) (n c:Nat) (I:Nat->Int) (X:Nat->ByteArray) (R:Nat->ByteArray) (l:Int) (w:World) (h:RdN w a n I X R) (hn:n<=maxLen) (hX:∀i,i<n->(X i).size<=maxLen/\(R i).size<=maxLen) (h0:0<=l) (h1:l<=1048576) :
  Calls Tryz.prog 4 #[.agg #[.slice a n c],.int .i64 l] w fun e w'=>∃r:Int,e=.returned (.int .i64 r)/\(r=-1\/((0<=r/\r<=1048576)/\n<=1048576))/\Below w.heap.size w w':=by
 go_enter Tryz.func4,Tryz.ntmps4
 go_wp2_with fail
 refine (szPNodeS_le a n c I X R l _ (h.below (below_alloc _ _)) hn hX h0 h1).mono ?_
 rintro e w1 ⟨r,rfl,hr,hb1⟩
 have HB1:Hid (Below w.heap.size w w1):=(below_alloc _ _).trans (hb1.mono (by simp))
 clear hb1
 rcases hr with rfl|⟨⟨hr,hr9⟩,hrn⟩
 ·go_wp2
  go_ret
  exact ⟨-1,rfl,Or.inl rfl,HB1.out⟩
 ·have hr1:¬ r<0:=by omega
  go_wp2
  go_ret
  exact ⟨r,rfl,Or.inr ⟨⟨hr,hr9⟩,hrn⟩,HB1.out⟩
end Go.Proofs.YtpaomghibppgkaaGreat
