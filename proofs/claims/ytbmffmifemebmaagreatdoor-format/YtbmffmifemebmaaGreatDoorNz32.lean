import Derived.Test.YtbmffmifemebmaaGreatDoorNz31
import Derived.Test.YtbmffmifemebmaaGreatDoorNz6
set_option linter.unusedVariables false
set_option maxRecDepth 100000
namespace Go.Proofs.YtbmffmifemebmaaGreatDoor
open Go.RowKit Go.Deep Go.MapKept Go.ChangeMaps

def RetSt (w:World) (B n:Nat) (d:Nat->Int) (e:Ending) (w' : World):Prop:=
 ∃a c p q gi ci G C Aa,e=.returned (.agg #[.slice a n c,.slice p 0 q,.int .i64 (-1),.bool false,.int .i64 0,.int .i64 0,.int .i64 1,.int .i64 2,.int .i64 1,.int .i64 1,.slice none 0 0,.slice (some ⟨gi,0,none⟩) 6 ci])/\OwnB w' B a n d/\IxOk w' B gi G C Aa/\Below B w w'

theorem IxOk.setOther {w:World} {B g:Nat} {G C:Nat->Nat} {A:Nat->Option Addr} (h:IxOk w B g G C A) {x:Addr} (hx:x.block<B) (v:Value):IxOk (w.setCell x v) B g G C A:=
 ⟨h.le,h.row.of_block (Below.heap_setCell _ _ _ _ (by have:=h.le;omega)),fun i hi=>⟨(h.each i hi).1,(h.each i hi).2.of_block (Below.heap_setCell _ _ _ _ (by have:=(h.each i hi).1;omega))⟩,h.apart⟩
theorem IxOk.mono {w:World} {B B' g:Nat} {G C:Nat->Nat} {A:Nat->Option Addr} (h:IxOk w B g G C A) (hB:B'<=B):IxOk w B' g G C A:=
 ⟨Nat.le_trans hB h.le,h.row,fun i hi=>⟨Nat.le_trans hB (h.each i hi).1,(h.each i hi).2⟩,h.apart⟩

def setN (b:Nat):List Value->Nat->World->World
 | [],_,w=>w
 | v::l,i,w=>setN b l (i+1) (w.setCell ⟨b,i,none⟩ v)
def setA:List Value->Nat->Array Value->Array Value
 | [],_,c=>c
 | v::l,i,c=>setA l (i+1) (c.setIfInBounds i v)
theorem Bx.setN {b:Nat} {t:TypeId}:∀{l:List Value} {i:Nat} {w:World} {cur:Array Value},Bx w b t cur->Bx (setN b l i w) b t (setA l i cur)
 | [],_,_,_,h=>h
 | _::l,i,_,_,h=>Bx.setN (l:=l) (h.set i _)
theorem OwnB.setN {b B n:Nat} {a:Option Addr} {f:Nat->Int} (hb:b<B):∀{l:List Value} {i:Nat} {w:World},OwnB w B a n f->OwnB (setN b l i w) B a n f
 | [],_,_,h=>h
 | _::l,i,_,h=>OwnB.setN hb (l:=l) (h.setOther (p:=⟨b,i,none⟩) hb _)
theorem IxOk.setN {b B g:Nat} {G C:Nat->Nat} {A:Nat->Option Addr} (hb:b<B):∀{l:List Value} {i:Nat} {w:World},IxOk w B g G C A->IxOk (setN b l i w) B g G C A
 | [],_,_,h=>h
 | _::l,i,_,h=>IxOk.setN hb (l:=l) (h.setOther (x:=⟨b,i,none⟩) hb _)
theorem below_setN {b B:Nat} {w0:World} (hb:B<=b):∀{l:List Value} {i:Nat} {w:World},Below B w0 w->Below B w0 (setN b l i w)
 | [],_,_,h=>h
 | _::l,i,_,h=>below_setN hb (l:=l) (h.setCell (p:=⟨b,i,none⟩) hb _)

set_option maxHeartbeats 4000000 in
theorem tellSt_e (lb t m1 m2 x n c q:Nat) (a p0:Option Addr) (d:Nat->Int) (p:Nat->Nat) (A:Array Value) (w:World) (h:Bx w lb 185 #[.pointer (some ⟨t,0,none⟩),.pointer (some ⟨x,0,none⟩),.slice a n c,.slice p0 0 q,.int .i64 (-1),.bool false,.int .i64 0,.int .i64 0,.int .i64 1,.int .i64 2,.int .i64 1]) (ht:TbE w t m1 m2) (hx:Six w 0 x p A 6) (ha:Rd .u8 w a n d) (hn:n<=1048576) :
  Calls Tryz.prog 64 #[.pointer (some ⟨lb,0,none⟩)] w (RetSt w w.heap.size n d):=by
 have hl:=h.lt
 have HH:Hid (Bx w lb 185 #[.pointer (some ⟨t,0,none⟩),.pointer (some ⟨x,0,none⟩),.slice a n c,.slice p0 0 q,.int .i64 (-1),.bool false,.int .i64 0,.int .i64 0,.int .i64 1,.int .i64 2,.int .i64 1]/\TbE w t m1 m2/\Six w 0 x p A 6/\Rd .u8 w a n d):=⟨h,ht,hx,ha⟩
 have HK:Hid (∀W:World,Below (w.alloc (.cells #[.slice none 0 0,.slice none 0 0,.int .i64 0,.bool false,.int .i64 0,.int .i64 0,.int .i64 0,.int .i64 0,.int .i64 0,.int .i64 0,.slice none 0 0,.slice none 0 0] 35)).drew.heap.size (w.alloc (.cells #[.slice none 0 0,.slice none 0 0,.int .i64 0,.bool false,.int .i64 0,.int .i64 0,.int .i64 0,.int .i64 0,.int .i64 0,.int .i64 0,.slice none 0 0,.slice none 0 0] 35)).drew W->(W.cell? ⟨lb,0,none⟩=some (.pointer (some ⟨t,0,none⟩))/\W.cell? ⟨lb,1,none⟩=some (.pointer (some ⟨x,0,none⟩))/\W.cell? ⟨lb,2,none⟩=some (.slice a n c)/\W.cell? ⟨lb,3,none⟩=some (.slice p0 0 q)/\W.cell? ⟨lb,4,none⟩=some (.int .i64 (-1))/\W.cell? ⟨lb,5,none⟩=some (.bool false)/\W.cell? ⟨lb,6,none⟩=some (.int .i64 0)/\W.cell? ⟨lb,7,none⟩=some (.int .i64 0)/\W.cell? ⟨lb,8,none⟩=some (.int .i64 1)/\W.cell? ⟨lb,9,none⟩=some (.int .i64 2)/\W.cell? ⟨lb,10,none⟩=some (.int .i64 1))/\Below w.heap.size w W/\Bx W w.heap.size 35 #[.slice none 0 0,.slice none 0 0,.int .i64 0,.bool false,.int .i64 0,.int .i64 0,.int .i64 0,.int .i64 0,.int .i64 0,.int .i64 0,.slice none 0 0,.slice none 0 0]):=fun W hW=>by
  have hb:Below w.heap.size w W:=(below_alloc _ _).drew.trans (hW.mono (by simp))
  have q:=h.below hb
  exact ⟨⟨q.cell 0,q.cell 1,q.cell 2,q.cell 3,q.cell 4,q.cell 5,q.cell 6,q.cell 7,q.cell 8,q.cell 9,q.cell 10⟩,hb,(Bx.new _ _ _).drew.below hW⟩
 clear h ht hx ha
 have hne1:¬ (w.heap.size=lb):=by omega
 have hne2:¬ (lb=w.heap.size):=by omega
 go_enter Tryz.func64,Tryz.ntmps64
 go_wp2
 obtain ⟨⟨s0,s1,s2,s3,s4,s5,s6,s7,s8,s9,s10⟩,-,-⟩:=HK.out _ (Below.refl _ _)
 have HC:Hid (Calls Tryz.prog 52 #[.agg #[.slice a n c,.slice p0 0 q,.int .i64 (-1),.bool false]] (w.alloc (.cells #[.slice none 0 0,.slice none 0 0,.int .i64 0,.bool false,.int .i64 0,.int .i64 0,.int .i64 0,.int .i64 0,.int .i64 0,.int .i64 0,.slice none 0 0,.slice none 0 0] 35)).drew fun e w'=>RetG (w.alloc (.cells #[.slice none 0 0,.slice none 0 0,.int .i64 0,.bool false,.int .i64 0,.int .i64 0,.int .i64 0,.int .i64 0,.int .i64 0,.int .i64 0,.slice none 0 0,.slice none 0 0] 35)).drew e w' n d 0 (fun _=>0) (fun _=>0) (fun _ _=>0) (-1) false):=
  copyDisk_gath a p0 n c 0 q d _ _ _ (-1) false _ (HH.out.2.2.2.below (below_alloc _ _).drew) (Or.inl rfl) hn (by omega) (fun i hi=>absurd hi (Nat.not_lt_zero _))
 go_region_held3 (fun w'=>w'.cell? ⟨lb,0,none⟩=some (.pointer (some ⟨t,0,none⟩))/\w'.cell? ⟨lb,1,none⟩=some (.pointer (some ⟨x,0,none⟩))/\w'.cell? ⟨lb,2,none⟩=some (.slice a n c)/\w'.cell? ⟨lb,3,none⟩=some (.slice p0 0 q)/\w'.cell? ⟨lb,4,none⟩=some (.int .i64 (-1))/\w'.cell? ⟨lb,5,none⟩=some (.bool false)/\w'.cell? ⟨lb,6,none⟩=some (.int .i64 0)/\w'.cell? ⟨lb,7,none⟩=some (.int .i64 0)/\w'.cell? ⟨lb,8,none⟩=some (.int .i64 1)/\w'.cell? ⟨lb,9,none⟩=some (.int .i64 2)/\w'.cell? ⟨lb,10,none⟩=some (.int .i64 1)) (go_keep)
  (first
  | (go_at_call 52;refine HC.out.mono ?_;rintro e w2 ⟨a2,c2,p2,q2,A2,C2,rfl,ho2,hg2,hx2,hb2,hl2,hm2⟩;obtain ⟨⟨r0,r1,r2,r3,r4,r5,r6,r7,r8,r9,r10⟩,B2,-⟩:=HK.out w2 hb2)
  | (go_at_call 113;refine (tellTb_e t m1 m2 w2 (HH.out.2.1.below B2)).mono ?_;rintro e w3 ⟨rfl,hb3⟩;have b3:=hb2.trans (hb3.mono hb2.size);obtain ⟨⟨v0,v1,v2,v3,v4,v5,v6,v7,v8,v9,v10⟩,B3,-⟩:=HK.out w3 b3)
  | (go_at_call 114;refine (tellIx_e x p A w3 (HH.out.2.2.1.below B3)).mono ?_;rintro e w4 ⟨gi,ci,G,C,Aa,rfl,hix,hb4⟩;have b4:=b3.trans (hb4.mono b3.size);obtain ⟨⟨u0,u1,u2,u3,u4,u5,u6,u7,u8,u9,u10⟩,B4,X4⟩:=HK.out w4 b4;have y0:=X4.cell 0;have y1:=X4.cell 1;have y2:=X4.cell 2;have y3:=X4.cell 3;have y4:=X4.cell 4;have y5:=X4.cell 5;have y6:=X4.cell 6;have y7:=X4.cell 7;have y8:=X4.cell 8;have y9:=X4.cell 9;have y10:=X4.cell 10;have y11:=X4.cell 11;have yf:=X4.frozen;have yl:=X4.lt;simp at y0 y1 y2 y3 y4 y5 y6 y7 y8 y9 y10 y11)
  | fail)
 have HB:Hid (Bx (setN w.heap.size [.slice a2 n c2,.slice p2 0 q2,.int .i64 (-1),.bool false,.int .i64 0,.int .i64 0,.int .i64 1,.int .i64 2,.int .i64 1,.int .i64 1,.slice none 0 0,.slice (some ⟨gi,0,none⟩) 6 ci] 0 w4) w.heap.size 35 (setA [.slice a2 n c2,.slice p2 0 q2,.int .i64 (-1),.bool false,.int .i64 0,.int .i64 0,.int .i64 1,.int .i64 2,.int .i64 1,.int .i64 1,.slice none 0 0,.slice (some ⟨gi,0,none⟩) 6 ci] 0 #[.slice none 0 0,.slice none 0 0,.int .i64 0,.bool false,.int .i64 0,.int .i64 0,.int .i64 0,.int .i64 0,.int .i64 0,.int .i64 0,.slice none 0 0,.slice none 0 0])/\OwnB (setN w.heap.size [.slice a2 n c2,.slice p2 0 q2,.int .i64 (-1),.bool false,.int .i64 0,.int .i64 0,.int .i64 1,.int .i64 2,.int .i64 1,.int .i64 1,.slice none 0 0,.slice (some ⟨gi,0,none⟩) 6 ci] 0 w4) w.heap.size a2 n d/\IxOk (setN w.heap.size [.slice a2 n c2,.slice p2 0 q2,.int .i64 (-1),.bool false,.int .i64 0,.int .i64 0,.int .i64 1,.int .i64 2,.int .i64 1,.int .i64 1,.slice none 0 0,.slice (some ⟨gi,0,none⟩) 6 ci] 0 w4) w.heap.size gi G C Aa/\Below w.heap.size w (setN w.heap.size [.slice a2 n c2,.slice p2 0 q2,.int .i64 (-1),.bool false,.int .i64 0,.int .i64 0,.int .i64 1,.int .i64 2,.int .i64 1,.int .i64 1,.slice none 0 0,.slice (some ⟨gi,0,none⟩) 6 ci] 0 w4)):=by
  have z1:w.heap.size+1<=(w.alloc (.cells #[.slice none 0 0,.slice none 0 0,.int .i64 0,.bool false,.int .i64 0,.int .i64 0,.int .i64 0,.int .i64 0,.int .i64 0,.int .i64 0,.slice none 0 0,.slice none 0 0] 35)).drew.heap.size:=by simp
  have z2:=hb2.size
  have z3:=hb3.size
  have q1:OwnB w4 (w.heap.size+1) a2 n d:=(ho2.below (hb3.trans (hb4.mono z3))).mono z1
  have q2:IxOk w4 (w.heap.size+1) gi G C Aa:=hix.mono (by omega)
  exact ⟨Bx.setN X4,(OwnB.setN (by omega) q1).mono (by omega),(IxOk.setN (by omega) q2).mono (by omega),below_setN (Nat.le_refl _) B4⟩
 clear s0 s1 s2 s3 s4 s5 s6 s7 s8 s9 s10 r0 r1 r2 r3 r4 r5 r6 r7 r8 r9 r10 v0 v1 v2 v3 v4 v5 v6 v7 v8 v9 v10 u0 u1 u2 u3 u4 u5 u6 u7 u8 u9 u10 y0 y1 y2 y3 y4 y5 y6 y7 y8 y9 y10 y11 yf yl hix ho2 hg2 hx2 hb2 hb3 hb4 b3 b4 B2 B3 B4 X4 HC HK HH hl2 hm2
 obtain ⟨W5,hW5⟩:∃W,W=setN w.heap.size [.slice a2 n c2,.slice p2 0 q2,.int .i64 (-1),.bool false,.int .i64 0,.int .i64 0,.int .i64 1,.int .i64 2,.int .i64 1,.int .i64 1,.slice none 0 0,.slice (some ⟨gi,0,none⟩) 6 ci] 0 w4:=⟨_,rfl⟩
 rw [<- hW5] at HB
 have eW:((((((((((((w4.setCell ⟨w.heap.size,0,none⟩ (.slice a2 n c2)).setCell ⟨w.heap.size,1,none⟩ (.slice p2 0 q2)).setCell ⟨w.heap.size,2,none⟩ (.int .i64 (-1))).setCell ⟨w.heap.size,3,none⟩ (.bool false)).setCell ⟨w.heap.size,4,none⟩ (.int .i64 0)).setCell ⟨w.heap.size,5,none⟩ (.int .i64 0)).setCell ⟨w.heap.size,6,none⟩ (.int .i64 1)).setCell ⟨w.heap.size,7,none⟩ (.int .i64 2)).setCell ⟨w.heap.size,8,none⟩ (.int .i64 1)).setCell ⟨w.heap.size,9,none⟩ (.int .i64 1)).setCell ⟨w.heap.size,10,none⟩ (.slice none 0 0)).setCell ⟨w.heap.size,11,none⟩ (.slice (some ⟨gi,0,none⟩) 6 ci))=W5:=hW5.symm
 rw [eW]
 clear eW hW5
 have eA:setA [.slice a2 n c2,.slice p2 0 q2,.int .i64 (-1),.bool false,.int .i64 0,.int .i64 0,.int .i64 1,.int .i64 2,.int .i64 1,.int .i64 1,.slice none 0 0,.slice (some ⟨gi,0,none⟩) 6 ci] 0 #[.slice none 0 0,.slice none 0 0,.int .i64 0,.bool false,.int .i64 0,.int .i64 0,.int .i64 0,.int .i64 0,.int .i64 0,.int .i64 0,.slice none 0 0,.slice none 0 0]=#[.slice a2 n c2,.slice p2 0 q2,.int .i64 (-1),.bool false,.int .i64 0,.int .i64 0,.int .i64 1,.int .i64 2,.int .i64 1,.int .i64 1,.slice none 0 0,.slice (some ⟨gi,0,none⟩) 6 ci]:=by simp only [setA,List.setIfInBounds_toArray,List.set_cons_zero,List.set_cons_succ]
 rw [eA] at HB
 clear eA
 go_wp2
 refine bodyPost_ret (v:=.agg #[.slice a2 n c2,.slice p2 0 q2,.int .i64 (-1),.bool false,.int .i64 0,.int .i64 0,.int .i64 1,.int .i64 2,.int .i64 1,.int .i64 1,.slice none 0 0,.slice (some ⟨gi,0,none⟩) 6 ci]) ?_ rfl ⟨a2,c2,p2,q2,gi,ci,G,C,Aa,rfl,HB.out.2⟩
 have z0:W5.cell? ⟨w.heap.size,0,none⟩=some (.slice a2 n c2):=HB.out.1.cell 0
 have z1:W5.cell? ⟨w.heap.size,1,none⟩=some (.slice p2 0 q2):=HB.out.1.cell 1
 have z2:W5.cell? ⟨w.heap.size,2,none⟩=some (.int .i64 (-1)):=HB.out.1.cell 2
 have z3:W5.cell? ⟨w.heap.size,3,none⟩=some (.bool false):=HB.out.1.cell 3
 have z4:W5.cell? ⟨w.heap.size,4,none⟩=some (.int .i64 0):=HB.out.1.cell 4
 have z5:W5.cell? ⟨w.heap.size,5,none⟩=some (.int .i64 0):=HB.out.1.cell 5
 have z6:W5.cell? ⟨w.heap.size,6,none⟩=some (.int .i64 1):=HB.out.1.cell 6
 have z7:W5.cell? ⟨w.heap.size,7,none⟩=some (.int .i64 2):=HB.out.1.cell 7
 have z8:W5.cell? ⟨w.heap.size,8,none⟩=some (.int .i64 1):=HB.out.1.cell 8
 have z9:W5.cell? ⟨w.heap.size,9,none⟩=some (.int .i64 1):=HB.out.1.cell 9
 have z10:W5.cell? ⟨w.heap.size,10,none⟩=some (.slice none 0 0):=HB.out.1.cell 10
 have z11:W5.cell? ⟨w.heap.size,11,none⟩=some (.slice (some ⟨gi,0,none⟩) 6 ci):=HB.out.1.cell 11
 simp [results,Tryz.results64,go_sem,z0,z1,z2,z3,z4,z5,z6,z7,z8,z9,z10,z11]
end Go.Proofs.YtbmffmifemebmaaGreatDoor
