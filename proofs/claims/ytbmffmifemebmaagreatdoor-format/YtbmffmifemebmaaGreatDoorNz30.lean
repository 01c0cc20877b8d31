import Derived.Test.YtbmffmifemebmaaGreatDoorNz27
import Derived.Maps.RangeWalk
set_option linter.unusedVariables false
set_option maxRecDepth 100000
namespace Go.Proofs.YtbmffmifemebmaaGreatDoor
open Go.RowKit Go.Deep

theorem cutMidN (g c i k m l:Nat) (hk:i+k=m) (hml:m<=l) (hm:m<=c) (hi:i<c) (w:World):(Instr.sliceAt 22 (.slice (some ⟨g,0,none⟩) l c) (some (.int .i64 (i:Int))) (some (.int .i64 (m:Int))) none).run Tryz.prog w=.ok (.slice (some ⟨g,i,none⟩) k (c-i)) w:=by
 have e:¬ c=i:=by omega
 have h1:i<=m:=by omega
 have h2:m-i=k:=by omega
 by_cases h0:i=0
 ·subst h0
  simp at h2
  subst h2
  simp [Instr.sliceAt,Instr.slice,go_sem,hm,Addr.add]
 ·simp [Instr.sliceAt,Instr.slice,go_sem,hm,e,h1,h2,h0,Addr.add]

set_option maxHeartbeats 1000000 in
theorem l7Take_0 (gd C0:Nat) (hC:9<=C0) (w:World) :
  Calls Tryz.prog 89 #[.agg #[.slice (some ⟨gd,0,none⟩) 9 C0,.int .i64 0,.bool false],.int .i64 7] w fun e w'=>e=.returned (.tuple #[.agg #[.slice (some ⟨gd,0,none⟩) 9 C0,.int .i64 7,.bool false],.slice (some ⟨gd,0,none⟩) 7 C0])/\Below w.heap.size w w':=by
 have hw1:(7:Int)<=(C0:Int):=by omega
 have hw0:IntKind.i64.wrap 0=0:=rfl
 have hw2:¬ C0=0:=by omega
 have hsl:∀W:World,(Instr.sliceAt 22 (.slice (some ⟨gd,0,none⟩) 9 C0) (some (.int .i64 0)) (some (.int .i64 7)) none).run Tryz.prog W=.ok (.slice (some ⟨gd,0,none⟩) 7 C0) W:=cutMidN gd C0 0 7 7 9 rfl (by omega) (by omega) (by omega)
 go_enter Tryz.func89,Tryz.ntmps89
 go_upto_region 5 with fail
 have S1:Hid (Bx ((w.alloc (.cells #[.slice (some ⟨gd,0,none⟩) 9 C0,.int .i64 7,.bool false] 136)).alloc (.cells #[.slice none 0 0,.int .i64 0,.bool false] 136)) w.heap.size 136 #[.slice (some ⟨gd,0,none⟩) 9 C0,.int .i64 7,.bool false]/\Bx ((w.alloc (.cells #[.slice (some ⟨gd,0,none⟩) 9 C0,.int .i64 7,.bool false] 136)).alloc (.cells #[.slice none 0 0,.int .i64 0,.bool false] 136)) (w.heap.size+1) 136 #[.slice none 0 0,.int .i64 0,.bool false]/\Below w.heap.size w ((w.alloc (.cells #[.slice (some ⟨gd,0,none⟩) 9 C0,.int .i64 7,.bool false] 136)).alloc (.cells #[.slice none 0 0,.int .i64 0,.bool false] 136))):=by
  have b1:=Bx.new (w.alloc (.cells #[.slice (some ⟨gd,0,none⟩) 9 C0,.int .i64 7,.bool false] 136)) #[.slice none 0 0,.int .i64 0,.bool false] 136
  simp only [World.size_alloc] at b1
  exact ⟨(Bx.new _ _ _).alloc _,b1,(below_alloc _ _).alloc (by simp) _⟩
 generalize ((w.alloc (.cells #[.slice (some ⟨gd,0,none⟩) 9 C0,.int .i64 7,.bool false] 136)).alloc (.cells #[.slice none 0 0,.int .i64 0,.bool false] 136))=W at S1 ⊢
 obtain ⟨rb,hrb⟩:∃x,x=w.heap.size:=⟨_,rfl⟩
 obtain ⟨nb,hnb⟩:∃x,x=w.heap.size+1:=⟨_,rfl⟩
 have n1:¬ rb=nb:=by omega
 have n2:¬ nb=rb:=by omega
 rw [<- hnb,<- hrb] at S1 ⊢
 have HB:Hid (Below w.heap.size w W/\w.heap.size<=nb):=⟨by rw [hrb] at S1;exact S1.out.2.2,by show _<=_;omega⟩
 clear hrb hnb
 have r0:=S1.out.1.cell 0
 have r1:=S1.out.1.cell 1
 have r2:=S1.out.1.cell 2
 have o0:=S1.out.2.1.cell 0
 have o1:=S1.out.2.1.cell 1
 have o2:=S1.out.2.1.cell 2
 have of:=S1.out.2.1.frozen
 have ol:=S1.out.2.1.lt
 simp at r0 r1 r2 o0 o1 o2
 go_region_held3 (fun w'=>w'.cell? ⟨rb,0,none⟩=some (.slice (some ⟨gd,0,none⟩) 9 C0)/\w'.cell? ⟨rb,1,none⟩=some (.int .i64 7)/\w'.cell? ⟨rb,2,none⟩=some (.bool false)) (go_keep) (fail)
 go_wp2
 refine bodyPost_ret (v:=.tuple #[.agg #[.slice (some ⟨gd,0,none⟩) 9 C0,.int .i64 7,.bool false],.slice (some ⟨gd,0,none⟩) 7 C0]) (by simp [results,Tryz.results89,go_sem,o0,o1,o2]) rfl ⟨rfl,?_⟩
 exact ((HB.out.1.drew.setCell HB.out.2 _).setCell HB.out.2 _).setCell HB.out.2 _

set_option maxHeartbeats 1000000 in
theorem l7Take_7 (gd C0:Nat) (hC:9<=C0) (w:World) :
  Calls Tryz.prog 89 #[.agg #[.slice (some ⟨gd,0,none⟩) 9 C0,.int .i64 7,.bool false],.int .i64 2] w fun e w'=>e=.returned (.tuple #[.agg #[.slice (some ⟨gd,0,none⟩) 9 C0,.int .i64 9,.bool false],.slice (some ⟨gd,7,none⟩) 2 (C0-7)])/\Below w.heap.size w w':=by
 have hw1:(9:Int)<=(C0:Int):=by omega
 have hw0:IntKind.i64.wrap 7=7:=rfl
 have hw2:¬ C0=7:=by omega
 have hsl:∀W:World,(Instr.sliceAt 22 (.slice (some ⟨gd,0,none⟩) 9 C0) (some (.int .i64 7)) (some (.int .i64 9)) none).run Tryz.prog W=.ok (.slice (some ⟨gd,7,none⟩) 2 (C0-7)) W:=cutMidN gd C0 7 2 9 9 rfl (by omega) (by omega) (by omega)
 go_enter Tryz.func89,Tryz.ntmps89
 go_upto_region 5 with fail
 have S1:Hid (Bx ((w.alloc (.cells #[.slice (some ⟨gd,0,none⟩) 9 C0,.int .i64 9,.bool false] 136)).alloc (.cells #[.slice none 0 0,.int .i64 0,.bool false] 136)) w.heap.size 136 #[.slice (some ⟨gd,0,none⟩) 9 C0,.int .i64 9,.bool false]/\Bx ((w.alloc (.cells #[.slice (some ⟨gd,0,none⟩) 9 C0,.int .i64 9,.bool false] 136)).alloc (.cells #[.slice none 0 0,.int .i64 0,.bool false] 136)) (w.heap.size+1) 136 #[.slice none 0 0,.int .i64 0,.bool false]/\Below w.heap.size w ((w.alloc (.cells #[.slice (some ⟨gd,0,none⟩) 9 C0,.int .i64 9,.bool false] 136)).alloc (.cells #[.slice none 0 0,.int .i64 0,.bool false] 136))):=by
  have b1:=Bx.new (w.alloc (.cells #[.slice (some ⟨gd,0,none⟩) 9 C0,.int .i64 9,.bool false] 136)) #[.slice none 0 0,.int .i64 0,.bool false] 136
  simp only [World.size_alloc] at b1
  exact ⟨(Bx.new _ _ _).alloc _,b1,(below_alloc _ _).alloc (by simp) _⟩
 generalize ((w.alloc (.cells #[.slice (some ⟨gd,0,none⟩) 9 C0,.int .i64 9,.bool false] 136)).alloc (.cells #[.slice none 0 0,.int .i64 0,.bool false] 136))=W at S1 ⊢
 obtain ⟨rb,hrb⟩:∃x,x=w.heap.size:=⟨_,rfl⟩
 obtain ⟨nb,hnb⟩:∃x,x=w.heap.size+1:=⟨_,rfl⟩
 have n1:¬ rb=nb:=by omega
 have n2:¬ nb=rb:=by omega
 rw [<- hnb,<- hrb] at S1 ⊢
 have HB:Hid (Below w.heap.size w W/\w.heap.size<=nb):=⟨by rw [hrb] at S1;exact S1.out.2.2,by show _<=_;omega⟩
 clear hrb hnb
 have r0:=S1.out.1.cell 0
 have r1:=S1.out.1.cell 1
 have r2:=S1.out.1.cell 2
 have o0:=S1.out.2.1.cell 0
 have o1:=S1.out.2.1.cell 1
 have o2:=S1.out.2.1.cell 2
 have of:=S1.out.2.1.frozen
 have ol:=S1.out.2.1.lt
 simp at r0 r1 r2 o0 o1 o2
 go_region_held3 (fun w'=>w'.cell? ⟨rb,0,none⟩=some (.slice (some ⟨gd,0,none⟩) 9 C0)/\w'.cell? ⟨rb,1,none⟩=some (.int .i64 9)/\w'.cell? ⟨rb,2,none⟩=some (.bool false)) (go_keep) (fail)
 go_wp2
 refine bodyPost_ret (v:=.tuple #[.agg #[.slice (some ⟨gd,0,none⟩) 9 C0,.int .i64 9,.bool false],.slice (some ⟨gd,7,none⟩) 2 (C0-7)]) (by simp [results,Tryz.results89,go_sem,o0,o1,o2]) rfl ⟨rfl,?_⟩
 exact ((HB.out.1.drew.setCell HB.out.2 _).setCell HB.out.2 _).setCell HB.out.2 _

set_option maxHeartbeats 1000000 in
theorem specVD_e (w:World) :
  Calls Tryz.prog 93 #[.agg #[.int .i64 1,.slice none 0 0]] w fun e w'=>e=.returned (.bool true)/\Below w.heap.size w w':=by
 have HN:Hid (∀W:World,Calls Tryz.prog 29 #[.int .i64 1] W fun e w'=>e=.returned (.bool true)/\w'=W):=fun W=>l2Number_any 1 W
 go_enter Tryz.func93,Tryz.ntmps93
 go_wp2_with fail
 refine (HN.out _).mono ?_
 rintro e w1 ⟨rfl,hw1⟩
 subst hw1
 go_wp2
 refine wp_loop_rounds 1 ?_
 rw [rounds_succ]
 go_wp2
 go_ret
 exact ⟨rfl,below_alloc _ _⟩

theorem l6Known_e (a:Option Addr) (w:World) :
  Calls Tryz.prog 141 #[.agg #[.int .i64 1,.slice none 0 0],.slice a 0 0] w fun e w'=>e=.returned (.bool true)/\Below w.heap.size w w':=by
 go_enter Tryz.func141,Tryz.ntmps141
 go_wp2
 refine wp_loop_rounds 1 ?_
 rw [rounds_succ]
 go_wp2
 go_ret
 exact ⟨rfl,below_alloc _ _⟩

theorem l7Fit_e (a:Option Addr) (w:World) :
  Calls Tryz.prog 95 #[.agg #[.int .i64 1,.slice none 0 0],.slice a 0 0] w fun e w'=>e=.returned (.bool true)/\Below w.heap.size w w':=by
 go_enter Tryz.func95,Tryz.ntmps95
 go_wp2
 refine wp_loop_rounds 1 ?_
 rw [rounds_succ]
 go_wp2_with fail
 refine (l6Known_e a _).mono ?_
 rintro e w1 ⟨rfl,hb⟩
 have H1:Hid (Below w.heap.size w w1):=(below_alloc _ _).trans (hb.mono (by simp))
 clear hb
 go_wp2
 go_ret
 exact ⟨rfl,H1.out⟩
end Go.Proofs.YtbmffmifemebmaaGreatDoor
namespace Go.Proofs.YtbmffmifemebmaaGreatDoor
open Go.RowKit Go.Deep Go.MapKept Go.ChangeMaps

set_option maxHeartbeats 1000000 in
theorem dict_e (rb g c:Nat) (w:World) (h:PR w rb g 1 8 c) :
  Calls Tryz.prog 164 #[.pointer (some ⟨rb,0,none⟩)] w fun e w'=>e=.returned (.agg #[.int .i64 1,.slice none 0 0])/\PR w' rb g 7 2 (c-4-2)/\Below rb w w':=by
 have hrl:=h.bx.lt
 have HP:Hid (PR w rb g 1 8 c):=h
 clear h
 go_enter Tryz.func164,Tryz.ntmps164
 go_wp2_with fail
 refine (number_e rb g 1 8 c 4 _ _ (HP.out.below (below_alloc _ _)) rfl (by omega) (by omega) (by omega)).mono ?_
 rintro e w1 ⟨rfl,ht⟩
 rw [show getN pay9 1 4=1 from rfl]
 have H1:Hid (PR w1 rb g 5 4 (c-4)/\Bx w1 w.heap.size 30 #[.int .i64 0,.slice none 0 0]/\Below rb w w1/\w1.heap.size=w.heap.size+1):=by
  obtain ⟨⟨a',hw,hbx⟩,hpr,hb,hz⟩:=ht
  refine ⟨hpr (by omega),?_,((below_alloc _ _).mono (by omega)).trans hb,by rw [hz];simp⟩
  subst hw
  exact (Bx.new _ _ _).other (by simp;omega) _
 clear ht
 go_upto_region 2 with fail
 have S2:Hid (PR (w1.alloc (.cells #[.int .i64 1,.slice none 0 0] 30)) rb g 5 4 (c-4)/\Bx (w1.alloc (.cells #[.int .i64 1,.slice none 0 0] 30)) w.heap.size 30 #[.int .i64 0,.slice none 0 0]/\Bx (w1.alloc (.cells #[.int .i64 1,.slice none 0 0] 30)) w1.heap.size 30 #[.int .i64 1,.slice none 0 0]/\Below rb w (w1.alloc (.cells #[.int .i64 1,.slice none 0 0] 30))):=
  ⟨H1.out.1.below (below_alloc _ _),H1.out.2.1.alloc _,Bx.new _ _ _,H1.out.2.2.1.alloc (by have:=H1.out.2.2.2;omega) _⟩
 have hz1:w.heap.size<w1.heap.size:=by have:=H1.out.2.2.2;omega
 clear H1
 generalize (w1.alloc (.cells #[.int .i64 1,.slice none 0 0] 30))=W2 at S2 ⊢
 generalize w1.heap.size=db at S2 hz1 ⊢
 go_wp2_with fail
 refine (number_e rb g 5 4 (c-4) 2 _ W2 S2.out.1 rfl (by omega) (by omega) (by omega)).mono ?_
 rintro e w3 ⟨rfl,ht⟩
 rw [show getN pay9 5 2=0 from rfl]
 have H3:Hid (PR w3 rb g 7 2 (c-4-2)/\Bx w3 w.heap.size 30 #[.int .i64 0,.slice none 0 0]/\Bx w3 db 30 #[.int .i64 1,.slice none 0 0]/\Below rb w w3):=by
  obtain ⟨⟨a',hw,hbx⟩,hpr,hb,hz⟩:=ht
  refine ⟨hpr (by omega),?_,?_,S2.out.2.2.2.trans hb⟩
  ·subst hw;exact S2.out.2.1.other (by simp;omega) _
  ·subst hw;exact S2.out.2.2.1.other (by simp;omega) _
 clear ht S2
 have d0:=H3.out.2.2.1.cell 0
 have d1:=H3.out.2.2.1.cell 1
 have e0:=H3.out.2.1.cell 0
 have e1:=H3.out.2.1.cell 1
 have ef:=H3.out.2.1.frozen
 have el:=H3.out.2.1.lt
 simp at d0 d1 e0 e1
 go_wp2
 refine wp_loop_rounds 1 ?_
 rw [rounds_succ]
 go_wp2
 have hne:w.heap.size≠rb:=by omega
 refine bodyPost_ret (v:=.agg #[.int .i64 1,.slice none 0 0]) (by simp [results,Tryz.results164,go_sem,e0,e1]) rfl ⟨rfl,⟨(H3.out.1.bx.other (by simp;omega) _).other (by simp;omega) _,H3.out.1.le,H3.out.1.lt,fun j hj=>?_⟩,(H3.out.2.2.2.setCell (by simp;omega) _).setCell (by simp;omega) _⟩
 have hg:=H3.out.1.lt
 rw [World.cell?_of_block (Below.heap_setCell _ _ _ g (by simp;omega)),World.cell?_of_block (Below.heap_setCell _ _ _ g (by simp;omega))]
 exact H3.out.1.rd j hj

set_option maxHeartbeats 1000000 in
theorem quadsR_e (rb g c:Nat) (w:World) (h:PR w rb g 7 2 c) :
  Calls Tryz.prog 165 #[.pointer (some ⟨rb,0,none⟩)] w fun e w'=>e=.returned (.slice none 0 0)/\∃a' c',w'=w.setCell ⟨rb,0,none⟩ (.slice a' 0 c')/\Bx w' rb 256 #[.slice a' 0 c',.bool false]:=by
 have HP:Hid (PR w rb g 7 2 c):=h
 clear h
 go_enter Tryz.func165,Tryz.ntmps165
 go_wp2_with fail
 refine (number_e rb g 7 2 c 2 _ _ HP.out rfl (by omega) (by omega) (by omega)).mono ?_
 rintro e w1 ⟨rfl,⟨a',hw,hbx⟩,-,hb,hz⟩
 rw [show getN pay9 7 2=0 from rfl]
 have H1:Hid (∃a' c',w1=w.setCell ⟨rb,0,none⟩ (.slice a' 0 c')/\Bx w1 rb 256 #[.slice a' 0 c',.bool false]):=⟨a',_,hw,hbx⟩
 clear hw hbx hb hz HP
 go_wp2
 refine wp_loop_rounds 1 ?_
 rw [rounds_succ]
 go_wp2
 go_ret
 exact ⟨rfl,H1.out⟩

theorem ended_e (rb:Nat) (a:Option Addr) (c:Nat) (w:World) (h:Bx w rb 256 #[.slice a 0 c,.bool false]) :
  Calls Tryz.prog 166 #[.pointer (some ⟨rb,0,none⟩)] w fun e w'=>e=.returned (.bool true)/\w'=w:=by
 have c0:=h.cell 0
 have c1:=h.cell 1
 have hl:=h.lt
 simp at c0 c1
 clear h
 go_enter Tryz.func166,Tryz.ntmps166
 go_wp2
 go_ret
 exact ⟨rfl,rfl⟩

structure TbE (w:World) (t m1 m2:Nat):Prop where
 bx:Bx w t 278 #[.int .i64 1,.map (some m1),.map (some m2)]
 m1:w.heap[m1]?=some (.map #[] 0)
 m2:w.heap[m2]?=some (.map #[] 0)
theorem TbE.below {w w' : World} {t m1 m2:Nat} (h:TbE w t m1 m2) (hb:Below w.heap.size w w'):TbE w' t m1 m2:=
 ⟨h.bx.below hb,(hb.block _ (Array.getElem?_eq_some_iff.1 h.m1).1).trans h.m1,(hb.block _ (Array.getElem?_eq_some_iff.1 h.m2).1).trans h.m2⟩

set_option maxHeartbeats 1000000 in
theorem readDict_e (w:World) :
  Calls Tryz.prog 209 #[.agg #[.int .i64 1,.slice none 0 0]] w fun e w'=>(∃t m1 m2,e=.returned (.tuple #[.pointer (some ⟨t,0,none⟩),.bool true])/\TbE w' t m1 m2)/\Below w.heap.size w w':=by
 have hmm:=@run_makeMap Tryz.prog
 have HN:Hid (∀W:World,Calls Tryz.prog 51 #[.int .i64 1] W fun e w'=>e=.returned (.bool true)/\w'=W):=fun W=>by
  have:=isNumber_any 1 W
  rw [show numB 1=true from rfl] at this
  exact this
 go_enter Tryz.func209,Tryz.ntmps209
 go_wp2_with fail
 refine (HN.out _).mono ?_
 rintro e w1 ⟨rfl,hw1⟩
 have H1:Hid (Bx w1 w.heap.size 30 #[.int .i64 1,.slice none 0 0]/\Below w.heap.size w w1):=by
  subst hw1
  exact ⟨Bx.new _ _ _,below_alloc _ _⟩
 clear hw1
 have c0:=H1.out.1.cell 0
 have c1:=H1.out.1.cell 1
 simp at c0 c1
 go_upto_region 4 with fail
 have S2:Hid (TbE (((w1.alloc (.map #[] 0)).alloc (.map #[] 0)).alloc (.cells #[.int .i64 1,.map (some w1.heap.size),.map (some (w1.heap.size+1))] 278)) (w1.heap.size+1+1) w1.heap.size (w1.heap.size+1)/\Bx (((w1.alloc (.map #[] 0)).alloc (.map #[] 0)).alloc (.cells #[.int .i64 1,.map (some w1.heap.size),.map (some (w1.heap.size+1))] 278)) w.heap.size 30 #[.int .i64 1,.slice none 0 0]/\Below w.heap.size w (((w1.alloc (.map #[] 0)).alloc (.map #[] 0)).alloc (.cells #[.int .i64 1,.map (some w1.heap.size),.map (some (w1.heap.size+1))] 278))):=by
  have b1:=blk_alloc_new (w1.alloc (.map #[] 0)) (.map #[] 0)
  have b2:=Bx.new ((w1.alloc (.map #[] 0)).alloc (.map #[] 0)) #[.int .i64 1,.map (some w1.heap.size),.map (some (w1.heap.size+1))] 278
  simp only [World.size_alloc] at b1 b2
  refine ⟨⟨b2,?_,?_⟩,((H1.out.1.alloc _).alloc _).alloc _,((H1.out.2.alloc H1.out.2.size _).alloc (by have:=H1.out.2.size;simp;omega) _).alloc (by have:=H1.out.2.size;simp;omega) _⟩
  ·rw [(below_alloc _ _).block _ (by simp;omega),(below_alloc _ _).block _ (by simp)];exact blk_alloc_new _ _
  ·rw [(below_alloc _ _).block _ (by simp)];exact b1
 clear H1 c0 c1
 generalize (((w1.alloc (.map #[] 0)).alloc (.map #[] 0)).alloc (.cells #[.int .i64 1,.map (some w1.heap.size),.map (some (w1.heap.size+1))] 278))=W2 at S2 ⊢
 generalize w1.heap.size=m1 at S2 ⊢
 have c0:=S2.out.2.1.cell 1
 simp at c0
 go_wp2
 refine wp_loop_rounds 1 ?_
 rw [rounds_succ]
 go_wp2
 exact bodyPost_ret (v:=.tuple #[.pointer (some ⟨m1+1+1,0,none⟩),.bool true]) (by simp [results,Tryz.results209,go_sem]) rfl ⟨⟨_,_,_,rfl,S2.out.1⟩,S2.out.2.2⟩
end Go.Proofs.YtbmffmifemebmaaGreatDoor
namespace Go.Proofs.YtbmffmifemebmaaGreatDoor
open Go.RowKit Go.Deep Go.MapKept Go.ChangeMaps

structure WdE (w:World) (wb t m1 m2 x:Nat) (p:Nat->Nat) (A:Array Value):Prop where
 bx:Bx w wb 183 #[.pointer (some ⟨t,0,none⟩),.pointer (some ⟨x,0,none⟩)]
 tb:TbE w t m1 m2
 sx:Six w 0 x p A 6
theorem WdE.below {w w' : World} {wb t m1 m2 x:Nat} {p:Nat->Nat} {A:Array Value} (h:WdE w wb t m1 m2 x p A) (hb:Below w.heap.size w w'):WdE w' wb t m1 m2 x p A:=
 ⟨h.bx.below hb,h.tb.below hb,h.sx.below hb⟩

set_option maxHeartbeats 1000000 in
theorem readWorld_e (g c B0:Nat) (G C:Nat->Nat) (Aa:Nat->Option Addr) (w:World) (h:IxOk w B0 g G C Aa) :
  Calls Tryz.prog 167 #[.agg #[.int .i64 1,.slice none 0 0],.agg #[.slice (some ⟨g,0,none⟩) 6 c]] w fun e w'=>(∃wb t m1 m2 x p A,e=.returned (.tuple #[.pointer (some ⟨wb,0,none⟩),.bool true])/\WdE w' wb t m1 m2 x p A)/\Below w.heap.size w w':=by
 have HR:Hid (IxOk w B0 g G C Aa):=h
 clear h
 go_enter Tryz.func167,Tryz.ntmps167
 go_wp2_with fail
 refine (readDict_e _).mono ?_
 rintro e w1 ⟨⟨t,m1,m2,rfl,htb⟩,hb1⟩
 have H1:Hid (TbE w1 t m1 m2/\Bx w1 (w.heap.size+1) 33 #[.slice (some ⟨g,0,none⟩) 6 c]/\Below w.heap.size w w1):=by
  have b1:=Bx.new (w.alloc (.cells #[.int .i64 1,.slice none 0 0] 30)) #[.slice (some ⟨g,0,none⟩) 6 c] 33
  simp only [World.size_alloc] at b1
  exact ⟨htb,b1.below hb1,((below_alloc _ _).alloc (by simp) _).trans (hb1.mono (by simp;omega))⟩
 clear htb hb1
 have c0:=H1.out.2.1.cell 0
 simp at c0
 go_wp2_with fail
 refine (readIndex_e g c B0 G C Aa w1 (HR.out.keep H1.out.2.2)).mono ?_
 rintro e w2 ⟨x,p,A,rfl,hsx,hb2⟩
 have H2:Hid (TbE w2 t m1 m2/\Six w2 0 x p A 6/\Below w.heap.size w w2):=⟨H1.out.1.below hb2,⟨hsx.bx,hsx.sz,Nat.zero_le _,hsx.fn,hsx.rt,hsx.lf⟩,H1.out.2.2.trans (hb2.mono H1.out.2.2.size)⟩
 clear hsx hb2 H1 c0
 go_wp2
 exact bodyPost_ret (v:=.tuple #[.pointer (some ⟨w2.heap.size,0,none⟩),.bool true]) (by simp [results,Tryz.results167,go_sem]) rfl ⟨⟨_,t,m1,m2,x,p,A,rfl,Bx.new _ _ _,H2.out.1.below (below_alloc _ _),H2.out.2.1.below (below_alloc _ _)⟩,H2.out.2.2.alloc H2.out.2.2.size _⟩

set_option maxHeartbeats 1000000 in
theorem wquads_e (wb t m1 m2 x:Nat) (p:Nat->Nat) (A:Array Value) (w:World) (h:WdE w wb t m1 m2 x p A) :
  Calls Tryz.prog 212 #[.pointer (some ⟨wb,0,none⟩)] w fun e w'=>e=.returned (.slice none 0 0)/\Below w.heap.size w w':=by
 have HS:Hid (Calls Tryz.prog 105 #[.pointer (some ⟨x,0,none⟩),.agg #[.int .i64 0,.int .i64 0,.int .i64 0,.int .i64 0]] w fun e w'=>e=.returned (.slice none 0 0)/\Below w.heap.size w w'):=
  scan_e x (p 0) w ((h.sx.bx.cell _).trans (h.sx.fn 0 (by omega))) ((h.sx.bx.cell _).trans (h.sx.rt 0 (by omega))) (h.sx.lf 0 (by omega)).1
 have c1:=h.bx.cell 1
 simp at c1
 have xl:=h.sx.bx.lt
 clear h
 go_enter Tryz.func212,Tryz.ntmps212
 go_wp2_with fail
 refine HS.out.mono ?_
 rintro e w1 ⟨rfl,hb⟩
 go_wp2
 go_ret
 exact ⟨rfl,hb⟩

theorem equalQ_e (w:World):Calls Tryz.prog 211 #[.slice none 0 0,.slice none 0 0] w fun e w'=>e=.returned (.bool true)/\w'=w:=by
 go_enter Tryz.func211,Tryz.ntmps211
 go_wp2
 refine wp_loop_rounds 1 ?_
 rw [rounds_succ]
 go_wp2
 go_ret
 exact ⟨rfl,rfl⟩

set_option maxHeartbeats 1000000 in
theorem fill_e (wb t m1 m2 x:Nat) (p:Nat->Nat) (A:Array Value) (w:World) (h:WdE w wb t m1 m2 x p A) :
  Calls Tryz.prog 168 #[.pointer (some ⟨wb,0,none⟩),.slice none 0 0] w fun e w'=>e=.returned (.bool true)/\Below w.heap.size w w':=by
 have HQ:Hid (WdE w wb t m1 m2 x p A):=h
 clear h
 go_enter Tryz.func168,Tryz.ntmps168
 go_wp2
 refine wp_loop_rounds 1 ?_
 rw [rounds_succ]
 go_wp2_with fail
 refine (wquads_e wb t m1 m2 x p A w HQ.out).mono ?_
 rintro e w1 ⟨rfl,hb⟩
 go_wp2_with fail
 refine (equalQ_e w1).mono ?_
 rintro e w2 ⟨rfl,hw⟩
 subst hw
 go_wp2
 go_ret
 exact ⟨rfl,hb⟩

set_option maxHeartbeats 1000000 in
theorem fits_e (wb t m1 m2 x:Nat) (p:Nat->Nat) (A:Array Value) (w:World) (h:WdE w wb t m1 m2 x p A) :
  Calls Tryz.prog 169 #[.pointer (some ⟨wb,0,none⟩)] w fun e w'=>e=.returned (.bool true)/\w'=w:=by
 have HS:Hid (Calls Tryz.prog 154 #[.pointer (some ⟨x,0,none⟩)] w fun e w'=>e=.returned (.tuple #[.slice none 0 0,.bool true])/\w'=w):=
  quads_e x 0 (p 0) w ((h.sx.bx.cell _).trans (h.sx.rt 0 (by omega))) (h.sx.lf 0 (by omega)).1
 have c1:=h.bx.cell 1
 simp at c1
 have xl:=h.sx.bx.lt
 clear h
 go_enter Tryz.func169,Tryz.ntmps169
 go_wp2_with fail
 refine HS.out.mono ?_
 rintro e w1 ⟨rfl,hw⟩
 subst hw
 go_wp2
 refine wp_loop_rounds 1 ?_
 rw [rounds_succ]
 go_wp2
 go_ret
 exact ⟨rfl,rfl⟩

def noR:Value->Option (DataW Unit × List MemPlace):=fun _=>none
theorem ownsNone {w:World} {b:Nat} (k:TypeId) (h:w.heap[b]?=some (.map #[] 0)):w.ownsMap Tryz.prog k noR b 0 (.map []):=
 ⟨#[],0,h,⟨by simp,stamped_empty 0,by simp⟩,Nat.le_refl _,rfl⟩
theorem undIT:Tryz.prog.underlying 276=some (.map 2 283):=by kernel_rfl
theorem i64K:Maps.Keyed Tryz.prog 2:=Maps.int_keyed (q:=.i64) (by kernel_rfl)

set_option maxHeartbeats 1000000 in
theorem isCounted_e (wb t m1 m2 x:Nat) (p:Nat->Nat) (A:Array Value) (w:World) (h:WdE w wb t m1 m2 x p A) :
  Calls Tryz.prog 170 #[.pointer (some ⟨wb,0,none⟩)] w fun e w'=>e=.returned (.bool true)/\Below w.heap.size w w':=by
 have hmm:=@run_makeMap Tryz.prog
 have HQ:Hid (WdE w wb t m1 m2 x p A):=h
 clear h
 go_enter Tryz.func170,Tryz.ntmps170
 go_wp2_with fail
 refine (wquads_e wb t m1 m2 x p A _ (HQ.out.below (below_alloc _ _))).mono ?_
 rintro e w1 ⟨rfl,hb1⟩
 have H1:Hid (WdE w1 wb t m1 m2 x p A/\Below w.heap.size w w1):=⟨(HQ.out.below (below_alloc _ _)).below hb1,(below_alloc _ _).trans (hb1.mono (by simp))⟩
 clear hb1 HQ
 go_wp2
 refine wp_loop_rounds 1 ?_
 rw [rounds_succ]
 have c0:=H1.out.1.bx.cell 0
 have t2:=H1.out.1.tb.bx.cell 2
 have tl:=H1.out.1.tb.bx.lt
 simp at c0 t2
 have hown:=ownsNone 2 H1.out.1.tb.m2
 go_wp2_with (first|(at_range;refine wpList_range_own _ rfl _ 276 rfl 2 283 i64K undIT noR m2 0 (.map []) rfl hown ?_;intro w2 hrg hg hz)|go_in)
 have HF:Hid (Below w.heap.size w w2):=H1.out.2.trans (⟨hg.os,hg.tape,hg.output,hg.size,fun k hk=>hg.block k (by have:=H1.out.2.size;omega) (by simp)⟩)
 have HG:Hid (w2.ranges Tryz.prog 2 noR m2 w1.heap.size 0 (.map []) (Maps.has (.map [])) (Maps.size (.map []))):=hrg
 clear hg hz hown hrg
 refine wp_loop_rounds 1 ?_
 rw [rounds_succ]
 go_wp2_with (first|(at_next;refine wpList_next_ranges _ rfl _ rfl 2 i64K noR (Value.int .i64) (fun _:Unit=>.nilFunc) (fun key kl hkey=>by obtain ⟨x,rfl,_⟩:=Maps.keyOf_int_inv (q:=.i64) (by kernel_rfl) hkey;exact ⟨x,rfl⟩) (fun v y hv=>by cases hv) m2 w1.heap.size 0 (.map []) _ _ rfl HG.out ?_ ?_)|go_in)
 case _=>
  intro _ _
  go_wp2
  go_ret
  exact ⟨rfl,HF.out⟩
 case _=>
  intro x c kl y w' cnt' _ hl
  cases hl
end Go.Proofs.YtbmffmifemebmaaGreatDoor
