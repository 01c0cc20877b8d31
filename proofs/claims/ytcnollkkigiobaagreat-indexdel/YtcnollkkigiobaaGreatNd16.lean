import Derived.Test.YtcnollkkigiobaaGreatNd9
import Derived.Test.YtcnollkkigiobaaGreatNd11
import Derived.Test.YtcnollkkigiobaaGreatNd8
import Derived.Deep.RegionHeld3
import Derived.Test.YtcnollkkigiobaaGreatNd10
import Derived.Lib.ConvBytes
set_option linter.unusedVariables false
set_option maxRecDepth 100000
namespace Go.Proofs.YtcnollkkigiobaaGreat
open Go.RowKit Go.Deep

theorem list_of_ks {x:Tn} {t:List ByteArray} (h1:x.kn=t.length) (h2:∀j,j<t.length->x.ks j=gt t j):t=ksL x:=by
 apply List.ext_getElem?
 intro i
 by_cases h:i<t.length
 ·unfold ksL
  rw [List.getElem?_eq_getElem h]
  have:=h2 i h
  unfold gt at this
  rw [List.getD_eq_getElem?_getD,List.getElem?_eq_getElem h] at this
  simp only [Option.getD_some] at this
  simp [h1,h,this]
 ·rw [List.getElem?_eq_none (by omega),List.getElem?_eq_none (by rw [ksL_length];omega)]

theorem good_leaf {N:Nat->Tn} {n x:Nat} {dep D:Int} {hk:Bool} {lk:ByteArray} {d:Nat} {t:Ro (d+1)} {D' : Int} {hk' : Bool} {lk' : ByteArray} (hlf:(N x).lf=true) (h:Good N n x dep D hk lk (d+1) t D' hk' lk') :
  (N x).kn<=4/\(dep=0\/2<=(N x).kn)/\(N x).dn=0/\(D=0\/D=dep)/\Chain hk lk (ksL (N x)) hk' lk'/\(N x).ct=((N x).kn:Int):=by
 rcases t with t|l
 ·obtain ⟨q1,q2,q3,q4,q5⟩:=h.tl
  obtain ⟨hh,⟨b1,b2,b3⟩,b4⟩:=h.bal
  have e:=list_of_ks q2 q3
  subst b1
  have hd:=h.dd
  rw [b4] at hd
  have ha:Chain hk lk t hk' lk':=h.asc
  rw [e] at ha
  refine ⟨by omega,?_,q4,by simpa using hd,ha,by rw [q5,q2]⟩
  rcases b3 with b3|b3
  ·exact Or.inl (by simpa using b3)
  ·exact Or.inr (by omega)
 ·have:=h.tl.1
  rw [hlf] at this
  cases this


theorem ptF_own (perm:Nat) (hp:perm<6) (k:ByteArray) (i:Nat) (hi:i<4):ptF perm k i (ordF perm i)=0:=by
 unfold ptF
 rw [if_neg]
 rcases (show perm=0\/perm=1\/perm=2\/perm=3\/perm=4\/perm=5 by omega) with rfl|rfl|rfl|rfl|rfl|rfl <;> rcases (show i=0\/i=1\/i=2\/i=3 by omega) with rfl|rfl|rfl|rfl <;> decide
def pnA (perm:Nat) (k:ByteArray) (i n:Nat):Array Value:=(ptA perm k i).setIfInBounds (ordF perm i) (.int .i64 (pkn k i n))
theorem pnA_zero (perm:Nat) (hp:perm<6) (k:ByteArray) (i:Nat) (hi:i<4):pnA perm k i 0=ptA perm k i:=by
 have h:=ptF_own perm hp k i hi
 have ho:=ordF_lt perm hp i hi
 unfold pnA
 show (ptA perm k i).setIfInBounds (ordF perm i) (.int .i64 0)=_
 rw [<- h]
 unfold ptA
 generalize ordF perm i=o at ho ⊢
 rcases (show o=0\/o=1\/o=2\/o=3 by omega) with rfl|rfl|rfl|rfl <;> simp
theorem pnA_four (perm:Nat) (hp:perm<6) (k:ByteArray) (i:Nat) (hi:i<4):pnA perm k i 4=ptA perm k (i+1):=ptA_set perm hp k i hi
theorem pnA_get (perm:Nat) (hp:perm<6) (k:ByteArray) (i:Nat) (hi:i<4) (n:Nat):(pnA perm k i n)[ordF perm i]?=some (.int .i64 (pkn k i n)):=by
 have ho:=ordF_lt perm hp i hi
 unfold pnA
 rw [Array.getElem?_setIfInBounds_self_of_lt (by simpa [ptA] using ho)]
theorem pnA_set (perm:Nat) (k:ByteArray) (i n:Nat):(pnA perm k i n).setIfInBounds (ordF perm i) (.int .i64 (pkn k i (n+1)))=pnA perm k i (n+1):=by
 unfold pnA
 simp

theorem shl_or (x b:Int) (h0:0<=x) (h1:x<4294967296) (hb0:0<=b) (hb1:b<256):bits .or .i64 (x*256) b=256*x+b:=by
 obtain ⟨X,rfl⟩:∃X:Nat,x=(X:Int):=⟨x.toNat,by omega⟩
 obtain ⟨B,rfl⟩:∃B:Nat,b=(B:Int):=⟨b.toNat,by omega⟩
 have oi:∀a:Nat,a<1099511627776->(BitVec.ofInt 64 (a:Int)).toNat=a:=fun a ha=>by
  rw [BitVec.ofInt_natCast,BitVec.toNat_ofNat]
  exact Nat.mod_eq_of_lt (by omega)
 have e0:((X:Int)*256)=((X*256:Nat):Int):=by omega
 rw [e0]
 show IntKind.i64.wrap ((BitVec.ofInt 64 ((X*256:Nat):Int) ||| BitVec.ofInt 64 (B:Int)).toNat:Int)=_
 rw [BitVec.toNat_or,oi _ (by omega),oi _ (by omega),IntKind.wrap_i64]
 have h:=Nat.shiftLeft_add_eq_or_of_lt (i:=8) (b:=B) (by omega) X
 rw [Nat.shiftLeft_eq,show (2:Nat) ^ 8=256 by rfl] at h
 rw [<- h]
 omega
structure QPt (w W:World) (A:Array Value):Prop where
 rb:Bx W w.heap.size 34 #[.int .i64 0,.int .i64 0,.int .i64 0,.int .i64 0]
 qb:Bx W (w.heap.size+1) 34 A
 bel:Below w.heap.size w W
theorem QPt.keep {w W W' : World} {A:Array Value} (h:QPt w W A) (hb:Below W.heap.size W W'):QPt w W' A:=
 ⟨(hb.block _ h.rb.lt).trans h.rb,(hb.block _ h.qb.lt).trans h.qb,h.bel.trans (hb.mono h.bel.size)⟩
theorem bytes_below (w:World) (e:TypeId) (s:ByteArray):Below w.heap.size w (Go.Lib.bytesWorld w e s):=
 ⟨rfl,rfl,rfl,by rw [Go.Lib.bytesWorld_size];omega,fun k hk=>Go.Lib.bytesWorld_at_old w e s k hk⟩
theorem kb_sub (k:ByteArray) (i j:Nat) (hj:j<4) (hk:(i+1)*4<=k.size):kb k (4*i+j)=(((k.extract (i*4) ((i+1)*4)).data.toList.getD j 0).toNat:Int):=by
 obtain ⟨b,e,eb⟩:=kb_get (k:=k) (i:=4*i+j) (by omega)
 rw [eb]
 have e2:k.data[4*i+j]?=some b:=by
  rw [<- e]
  first|rfl|simp
 have e1:(k.extract (i*4) ((i+1)*4)).data.toList.getD j 0=b:=by
  simp only [ByteArray.data_extract,List.getD_eq_getElem?_getD,Array.getElem?_toList,Array.getElem?_extract]
  rw [if_pos (by have:k.data.size=k.size:=rfl;omega),show i*4+j=4*i+j by omega,e2]
  rfl
 rw [e1]
def ptrA (perm g:Nat):Array Value:=#[.pointer (some ⟨g,ordF perm 0,none⟩),.pointer (some ⟨g,ordF perm 1,none⟩),.pointer (some ⟨g,ordF perm 2,none⟩),.pointer (some ⟨g,ordF perm 3,none⟩)]

set_option maxHeartbeats 4000000 in
theorem quad_any (perm:Nat) (hp:perm<6) (key:ByteArray) (hk:key.size=16) (w:World):Calls Tryz.prog 73 #[.func (.func (layF perm)) #[] #[],.string key] w fun e w'=>e=.returned (qv (quadOf perm key))/\Below w.heap.size w w':=by
 have HL:Hid (∀W:World,Calls Tryz.prog (layF perm) #[.pointer (some ⟨w.heap.size+1,0,none⟩)] W fun e w'=>e=.returned (.agg (ptrA perm (w.heap.size+1)))/\Below W.heap.size W w'):=fun W=>lay_any perm hp _ W
 have HK:Hid (key.size=16/\perm<6):=⟨hk,hp⟩
 have heg:∀args W,(callFunc (layF perm) args).run Tryz.prog W=.ok (.enter (layF perm) args) W:=fun args W=>by
  rcases (show perm=0\/perm=1\/perm=2\/perm=3\/perm=4\/perm=5 by omega) with rfl|rfl|rfl|rfl|rfl|rfl <;> rfl
 clear hp
 go_enter Tryz.func73,Tryz.ntmps73
 go_wp2_with fail
 (with_reducible refine (HL.out _).mono ?_)
 rintro e w1 ⟨rfl,hw1⟩
 have Q0:Hid (QPt w w1 (ptA perm key 0)):=by
  have b1:=Bx.new w #[.int .i64 0,.int .i64 0,.int .i64 0,.int .i64 0] 34
  have b2:=Bx.new (w.alloc (.cells #[.int .i64 0,.int .i64 0,.int .i64 0,.int .i64 0] 34)) #[.int .i64 0,.int .i64 0,.int .i64 0,.int .i64 0] 34
  simp only [World.size_alloc] at b2
  exact ⟨(hw1.block _ (by simp;omega)).trans (b1.alloc _),(hw1.block _ (by simp)).trans b2,(((below_alloc _ _).alloc (by simp) _)).trans (hw1.mono (by simp;omega))⟩
 clear hw1 HL
 go_wp2_with fail
 go_loopw [6,7,9,12] (fun _ _ _ i wr=>∃ii:Nat,ii<=4/\i=.int .i64 ii/\QPt w wr (ptA perm key ii)) (fun _ _ _ i _=>4-(intOf i).toNat)
 case atStart=>exact ⟨0,by omega,rfl,Q0.out⟩
 case round=>
  obtain ⟨i,hi,rfl,hq⟩:=hrel
  obtain ⟨W1,rfl⟩:∃W1,W1=wr:=⟨_,rfl⟩
  have QI:Hid (QPt w W1 (ptA perm key i)):=hq
  clear hq Q0
  by_cases hlt:i<4
  ·have hixp:∀W:World,(Instr.index 156 (.agg (ptrA perm (w.heap.size+1))) (.int .i64 (i:Int))).run Tryz.prog W=.ok (.pointer (some ⟨w.heap.size+1,ordF perm i,none⟩)) W:=fun W=>by
    rcases (show i=0\/i=1\/i=2\/i=3 by omega) with rfl|rfl|rfl|rfl <;> rfl
   have e4:((i:Int)*4).toNat=i*4:=by omega
   have e5:(((i:Int)+1)*4).toNat=(i+1)*4:=by omega
   have hsl:∀W:World,(Instr.slice 9 (.string key) (some (.int .i64 ((i:Int)*4))) (some (.int .i64 (((i:Int)+1)*4))) none).run Tryz.prog W=.ok (.string (key.extract (i*4) ((i+1)*4))) W:=fun W=>by
    have g1:(0:Int)<=(i:Int)*4:=by omega
    have g2:(0:Int)<=((i:Int)+1)*4:=by omega
    have g3:((i:Int)+1)*4<=(key.size:Int):=by rw [HK.out.1];omega
    have g4:(i:Int)<=(i:Int)+1:=by omega
    simp [Instr.slice,go_sem,e4,e5,g1,g2,g3,g4]
   obtain ⟨sub,hsub⟩:∃sub,sub=key.extract (i*4) ((i+1)*4):=⟨_,rfl⟩
   rw [<- hsub] at hsl
   have hss:sub.size=4:=by rw [hsub,ByteArray.size_extract,HK.out.1];omega
   have hcv:∀W:World,(convert 9 47 (.string sub)).run Tryz.prog W=.ok (.slice (some ⟨W.heap.size,0,none⟩) 4 (grownCap W 4 0 5)) (Go.Lib.bytesWorld W 5 sub):=fun W=>by
    have h:=Go.Lib.run_convert_string_bytes (P:=Tryz.prog) W 9 47 5 sub rfl rfl rfl
    rw [hss] at h
    exact h
   have HSub:Hid (sub=key.extract (i*4) ((i+1)*4)/\sub.size=4):=⟨hsub,hss⟩
   clear hsub hss e4 e5
   go_wp2
   have HS0:Hid (QPt w (Go.Lib.bytesWorld W1 5 sub) (pnA perm key i 0)/\∀j,j<4->(Go.Lib.bytesWorld W1 5 sub).cell? ⟨W1.heap.size,j,none⟩=some (.int .u8 (kb key (4*i+j)))):=by
    refine ⟨?_,fun j hj=>?_⟩
    ·rw [pnA_zero perm HK.out.2 key i hlt]
     exact QI.out.keep (bytes_below _ _ _)
    ·rw [Go.Lib.bytesWorld_cell _ _ _ _ (by rw [HSub.out.2];exact hj),HSub.out.1]
     exact congrArg (fun x=>some (Value.int .u8 x)) (kb_sub key i j hj (by rw [HK.out.1];omega)).symm
   obtain ⟨g,hg⟩:∃g,g=W1.heap.size:=⟨_,rfl⟩
   have HG:Hid (w.heap.size+1<g):=by
    rw [hg]
    exact QI.out.qb.lt
   rw [<- hg] at HS0 ⊢
   clear hg
   obtain ⟨cp,hcp⟩:∃cp,cp=grownCap W1 4 0 5:=⟨_,rfl⟩
   rw [<- hcp]
   clear hcp hcv hsl hixp
   generalize Go.Lib.bytesWorld W1 5 sub=W2 at HS0 ⊢
   go_loopw [9,25] (fun _ n wr=>∃nn:Nat,nn<=4/\n=.int .i64 nn/\QPt w wr (pnA perm key i nn)/\∀j,j<4->wr.cell? ⟨g,j,none⟩=some (.int .u8 (kb key (4*i+j)))) (fun _ n _=>4-(intOf n).toNat)
   case atStart=>exact ⟨0,by omega,rfl,HS0.out.1,HS0.out.2⟩
   case round=>
    obtain ⟨n,hn,rfl,hq,hc⟩:=hrel
    obtain ⟨W3,rfl⟩:∃W3,W3=wr:=⟨_,rfl⟩
    have QJ:Hid (QPt w W3 (pnA perm key i n)/\∀j,j<4->W3.cell? ⟨g,j,none⟩=some (.int .u8 (kb key (4*i+j)))):=⟨hq,hc⟩
    clear hq hc HS0
    by_cases hln:n<4
    ·have c1:=QJ.out.2 n hln
     have hbr:=kb_range key (4*i+n)
     obtain ⟨b,hb⟩:∃b,b=kb key (4*i+n):=⟨_,rfl⟩
     have HBb:Hid (b=kb key (4*i+n)):=hb
     rw [<- hb] at c1 hbr
     clear hb
     have c2:=QJ.out.1.qb.cell (ordF perm i)
     rw [pnA_get perm HK.out.2 key i hlt n] at c2
     have hxr:=pkn_range key i n hn
     obtain ⟨x,hx⟩:∃x,x=pkn key i n:=⟨_,rfl⟩
     have HX:Hid (x=pkn key i n):=hx
     rw [<- hx] at hxr c2
     clear hx
     have f2:=QJ.out.1.qb.frozen (ordF perm i)
     have l2:=QJ.out.1.qb.lt
     have n0:(0:Int)<=(n:Int):=by omega
     have n1:(n:Int)<4:=by omega
     have HN:Hid (256*x+b=pkn key i (n+1)):=by
      show 256*x+b=pkn key i (n+1)
      rw [HX.out,HBb.out]
      rfl
     obtain ⟨hx0,hx1⟩:=hxr
     obtain ⟨hb0,hb1⟩:=hbr
     go_wp2
     go_roundw
     case rel=>
      refine ⟨n+1,by omega,by go_num,?_,fun j hj=>?_⟩
      ·rw [shl_or x b hx0 hx1 hb0 hb1,HN.out]
       have q:=QJ.out.1
       refine ⟨q.rb.other (by simp) _,?_,q.bel.setCell (by simp) _⟩
       have e:=q.qb.set (ordF perm i) (.int .i64 (pkn key i (n+1)))
       rw [pnA_set] at e
       exact e
      ·rw [<- QJ.out.2 j hj]
       exact World.cell?_of_block (a:=⟨g,j,none⟩) (Below.heap_setCell _ _ _ _ (by have:=HG.out;simp;omega))
     case measure=>simp [intOf];omega
    ·obtain rfl:n=4:=by omega
     go_wp2
     go_roundw
     case rel=>
      refine ⟨i+1,by omega,by go_num,?_⟩
      rw [<- pnA_four perm HK.out.2 key i hlt]
      exact QJ.out.1
     case measure=>simp [intOf];omega
  ·obtain rfl:i=4:=by omega
   have p0:=QI.out.qb.cell 0
   have p1:=QI.out.qb.cell 1
   have p2:=QI.out.qb.cell 2
   have p3:=QI.out.qb.cell 3
   rw [ptA_get perm key 4 0 (by omega),ptF_all perm HK.out.2 key 0 (by omega)] at p0
   rw [ptA_get perm key 4 1 (by omega),ptF_all perm HK.out.2 key 1 (by omega)] at p1
   rw [ptA_get perm key 4 2 (by omega),ptF_all perm HK.out.2 key 2 (by omega)] at p2
   rw [ptA_get perm key 4 3 (by omega),ptF_all perm HK.out.2 key 3 (by omega)] at p3
   obtain ⟨q0,hq0⟩:∃q0,q0=pk key (posF perm 0):=⟨_,rfl⟩
   obtain ⟨q1,hq1⟩:∃q1,q1=pk key (posF perm 1):=⟨_,rfl⟩
   obtain ⟨q2,hq2⟩:∃q2,q2=pk key (posF perm 2):=⟨_,rfl⟩
   obtain ⟨q3,hq3⟩:∃q3,q3=pk key (posF perm 3):=⟨_,rfl⟩
   rw [<- hq0] at p0
   rw [<- hq1] at p1
   rw [<- hq2] at p2
   rw [<- hq3] at p3
   have HV:Hid (qv (quadOf perm key)=.agg #[.int .i64 q0,.int .i64 q1,.int .i64 q2,.int .i64 q3]):=by
    show qv (quadOf perm key)=_
    rw [hq0,hq1,hq2,hq3]
    rfl
   clear hq0 hq1 hq2 hq3
   have z0:=QI.out.rb.cell 0
   have z1:=QI.out.rb.cell 1
   have z2:=QI.out.rb.cell 2
   have z3:=QI.out.rb.cell 3
   simp at z0 z1 z2 z3
   have zf:=fun i=>QI.out.rb.frozen i
   have zl:=QI.out.rb.lt
   have HB:Hid (Below w.heap.size w W1):=QI.out.bel
   go_wp2
   refine bodyPost_ret (v:=.agg #[.int .i64 q0,.int .i64 q1,.int .i64 q2,.int .i64 q3]) (by simp [results,Tryz.results73,go_sem,z0,z1,z2,z3]) rfl ⟨by rw [HV.out],?_⟩
   exact (((HB.out.setCell (by simp) _).setCell (by simp) _).setCell (by simp) _).setCell (by simp) _
end Go.Proofs.YtcnollkkigiobaaGreat
