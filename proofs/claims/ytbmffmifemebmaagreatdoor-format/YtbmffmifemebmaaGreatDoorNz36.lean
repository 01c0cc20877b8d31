import Derived.Test.YtbmffmifemebmaaGreatDoorNz5
import Derived.Test.YtbmffmifemebmaaGreatDoorNz35
import Derived.Test.YtbmffmifemebmaaGreatDoorNz20
import Derived.Test.YtbmffmifemebmaaGreatDoorNz27
import Derived.Test.YtbmffmifemebmaaGreatDoorNz25
import Derived.Test.YtbmffmifemebmaaGreatDoorNz23
set_option linter.unusedVariables false
set_option maxRecDepth 100000
namespace Go.Proofs.YtbmffmifemebmaaGreatDoor
open Go.RowKit Go.Deep

set_option maxHeartbeats 400000 in
theorem implNew_good (n:Nat) (w:World) (h1:16<=n) (h2:n<=1024) :
  Calls Tryz.prog 18 #[.int .i64 n] w fun e w'=>∃a c,e=.returned (.agg #[.slice a (n*64) c,.slice none 0 0,.int .i64 (-1),.bool false])/\OwnB w' w.heap.size a (n*64) (fun _=>0)/\Below w.heap.size w w':=by
 have hmk:=run_make_row' (P:=Tryz.prog) 22 5 (.int .u8 0) 1 Tryz.underlying22 Tryz.info5 rfl .i64 .i64 (n*64) (by omega) (by omega)
 have e1:((n*64:Nat):Int)=(n:Int)*64:=by omega
 rw [e1] at hmk
 clear e1
 go_enter Tryz.func18,Tryz.ntmps18
 go_wp2
 refine bodyPost_ret (v:=.agg #[.slice (some ⟨w.heap.size+1,0,none⟩) (n*64) (n*64),.slice none 0 0,.int .i64 (-1),.bool false]) (by simp [results,Tryz.results18,go_sem]) rfl ⟨_,_,rfl,?_,((Below.refl _ _).alloc (Nat.le_refl _) _).alloc (by simp) _⟩
 refine Or.inr ⟨w.heap.size+1,rfl,by omega,?_⟩
 have hr:=World.rowIs_made (w.alloc (.cells #[.slice (some ⟨w.heap.size+1,0,none⟩) (n*64) (n*64),.slice none 0 0,.int .i64 (-1),.bool false] 25)) (.int .u8 0) (n*64) 5
 have hs:(w.alloc (.cells #[.slice (some ⟨w.heap.size+1,0,none⟩) (n*64) (n*64),.slice none 0 0,.int .i64 (-1),.bool false] 25)).heap.size=w.heap.size+1:=by simp
 rw [hs] at hr
 exact rowIn.ofIs hr

theorem specRec_e (n c q cp:Nat) (a p ad:Option Addr) (w:World) (h1:16<=n) (h2:n<=1024) (ha:Rd .u8 w a (n*64) (fun _=>0)) (hd:Rd .u8 w ad 9 pay9) (hc:9<=cp) (hcm:cp<=9223372036854775807) :
  Calls Tryz.prog 9 #[.agg #[.slice a (n*64) c,.slice p 0 q,.int .i64 (-1),.bool false],.int .i64 2,.int .i64 1,.slice ad 9 cp] w fun e w'=>RetD w e w' (n*64) dk1 0 (fun _=>0) (fun _=>0) (fun _ _=>0) (-1) false:=by
 have h:=specRec_good stt0 a p ad (n*64) c q 9 cp 0 pay9 2 1 w ha (Or.inl rfl) hd (fun j _=>pay9_range j) (vd0 n h1 h2 _ _) (by omega) hc hcm cnt9 rfl (by omega) (by rw [cnt9];omega)
 rw [stt0_recd] at h
 exact h
theorem implRec_e (n c q cp:Nat) (a p ad:Option Addr) (w:World) (h1:16<=n) (h2:n<=1024) (ha:Rd .u8 w a (n*64) (fun _=>0)) (hd:Rd .u8 w ad 9 pay9) (hc:9<=cp) (hcm:cp<=9223372036854775807) :
  Calls Tryz.prog 19 #[.agg #[.slice a (n*64) c,.slice p 0 q,.int .i64 (-1),.bool false],.int .i64 2,.int .i64 1,.slice ad 9 cp] w fun e w'=>RetD w e w' (n*64) dk1 0 (fun _=>0) (fun _=>0) (fun _ _=>0) (-1) false:=by
 have h:=implRec_good stt0 a p ad (n*64) c q 9 cp 0 pay9 2 1 w ha (Or.inl rfl) hd (fun j _=>pay9_range j) (vd0 n h1 h2 _ _) (by omega) hc hcm cnt9 rfl (by omega) (by rw [cnt9];omega)
 rw [stt0_recd] at h
 exact h

theorem vd1 (n:Nat) (h1:16<=n) (h2:n<=1024):VD (n*64) 1 (fun i=>if i=0 then 0 else (fun _=>0) i) (fun i=>if i=0 then 64 else (fun _=>0) i) (-1):=by
 refine ⟨⟨by omega,by omega,by omega,by omega,by omega,by omega⟩,fun i hi=>?_⟩
 have e:i=0:=by omega
 subst e
 exact ⟨by simp,by simp;omega,by simp⟩

theorem specSupW_e (n c q:Nat) (a p:Option Addr) (w:World) (h1:16<=n) (h2:n<=1024) (ha:Rd .u8 w a (n*64) dk1) :
  Calls Tryz.prog 15 #[.agg #[.slice a (n*64) c,.slice p 0 q,.int .i64 (-1),.bool false],.agg #[.int .i64 0,.int .i64 0,.int .i64 1]] w fun e w'=>RetDq w e w' (n*64) dk2 0 (fun _=>0) (fun _=>0) (fun _ _=>0) (-1) false:=by
 refine specSupW_good a p (n*64) c 0 q dk1 (fun _=>0) (fun _=>0) (fun _ _=>0) (-1) false 0 0 1 w ha (Or.inl rfl) (vd0 n h1 h2 _ _) rfl (by omega) (by omega) (fun i hi=>absurd hi (Nat.not_lt_zero _)) dk1 1 (fun i=>if i=0 then 0 else (fun _=>0) i) (fun i=>if i=0 then 64 else (fun _=>0) i) (fun i=>if i=0 then superF 0 0 1 else (fun _ _=>0) i) (-1) false dk2 0 _ _ _ (-1) false ?_ ?_
 ·intro W ad cp k1 k2 k3
  exact (specW_live a p ad (n*64) c 0 q cp dk1 (fun _=>0) (fun _=>0) (fun _ _=>0) (-1) 0 W k1 k2 (by omega) (by omega) (fun i hi=>absurd hi (Nat.not_lt_zero _)) (superF 0 0 1) k3 (vd0 n h1 h2 _ _) (by omega) (by omega) (by omega) (by omega) (by omega) (by omega)).mono (fun e w' h=>h.retD)
 ·intro W a p c q k1 k2
  exact (specY_liveG a p (n*64) c 1 q dk1 _ _ _ (-1) W k1 k2 (by omega) (by omega) (fun i hi=>by dsimp;split <;> omega) (vd1 n h1 h2) (by omega) (by omega) (by omega) _ _ _).mono (fun e w' h=>h.retDq)
theorem implSupW_e (n c q:Nat) (a p:Option Addr) (w:World) (h1:16<=n) (h2:n<=1024) (ha:Rd .u8 w a (n*64) dk1) :
  Calls Tryz.prog 23 #[.agg #[.slice a (n*64) c,.slice p 0 q,.int .i64 (-1),.bool false],.agg #[.int .i64 0,.int .i64 0,.int .i64 1]] w fun e w'=>RetDq w e w' (n*64) dk2 0 (fun _=>0) (fun _=>0) (fun _ _=>0) (-1) false:=by
 refine implSupW_good a p (n*64) c 0 q dk1 (fun _=>0) (fun _=>0) (fun _ _=>0) (-1) false 0 0 1 w ha (Or.inl rfl) (vd0 n h1 h2 _ _) rfl (by omega) (by omega) (fun i hi=>absurd hi (Nat.not_lt_zero _)) dk2 0 _ _ _ (-1) false ?_
 refine super_liveC w (n*64) 0 dk1 _ _ _ (-1) 0 0 1 dk2 0 _ _ _ (-1) false (by omega) (by omega) (by omega) (by omega) (by omega) (by omega) ?_
 exact syncs_liveC w (n*64) 1 dk1 _ _ _ (-1) (by omega) (by omega) (by omega) (by omega) (by omega) (by omega) (vd1 n h1 h2).2 _ _ _

theorem specDict_e (w:World):Calls Tryz.prog 12 #[] w fun e w'=>e=.returned (.agg #[.int .i64 1,.slice none 0 0])/\Below w.heap.size w w':=by
 go_enter Tryz.func12,Tryz.ntmps12
 go_wp2
 exact bodyPost_ret (v:=.agg #[.int .i64 1,.slice none 0 0]) (by simp [results,Tryz.results12,go_sem]) rfl ⟨rfl,(Below.refl _ _).alloc (Nat.le_refl _) _⟩
theorem implDict_e (w:World):Calls Tryz.prog 16 #[] w fun e w'=>e=.returned (.agg #[.int .i64 1,.slice none 0 0])/\Below w.heap.size w w':=by
 go_enter Tryz.func16,Tryz.ntmps16
 go_wp2
 exact bodyPost_ret (v:=.agg #[.int .i64 1,.slice none 0 0]) (by simp [results,Tryz.results16,go_sem]) rfl ⟨rfl,(Below.refl _ _).alloc (Nat.le_refl _) _⟩
end Go.Proofs.YtbmffmifemebmaaGreatDoor
