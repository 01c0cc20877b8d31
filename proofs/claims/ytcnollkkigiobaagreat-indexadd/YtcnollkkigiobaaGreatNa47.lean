import Derived.Test.YtcnollkkigiobaaGreatNa42
import Derived.Test.YtcnollkkigiobaaGreatNa38
import Derived.Test.YtcnollkkigiobaaGreatNa40
import Derived.Test.YtcnollkkigiobaaGreatNa45
import Derived.Test.YtcnollkkigiobaaGreatNa27
import Derived.Test.YtcnollkkigiobaaGreatNa2
import Derived.Test.YtcnollkkigiobaaGreatNa46
import Derived.Deep.CutRange
set_option linter.unusedVariables false
set_option maxRecDepth 100000
namespace Go.Proofs.YtcnollkkigiobaaGreat
open Go.RowKit Go.Deep

def Kp (w:World) (a:Option Addr) (n c:Nat) (p:Qd) (W:World):Prop := Below (w.heap.size + 2) ((w.alloc (.cells #[.slice a n c] 24)).alloc (.cells #[.int .i64 p.s,.int .i64 p.p,.int .i64 p.o,.int .i64 p.g] 26)) W
theorem Kp.size {w W:World} {a:Option Addr} {n c:Nat} {p:Qd} (h:Kp w a n c p W):w.heap.size + 2 <= W.heap.size := by
  have := Below.size h
  simpa using this
theorem Kp.next {w W W' : World} {a:Option Addr} {n c:Nat} {p:Qd} (h:Kp w a n c p W) (hb:Below W.heap.size W W'):Kp w a n c p W' := Below.trans h (hb.mono h.size)
theorem Kp.below {w W:World} {a:Option Addr} {n c:Nat} {p:Qd} (h:Kp w a n c p W):Below w.heap.size w W := ((below_alloc _ _).alloc (by simp) _).trans (Below.mono h (by omega))
theorem Kp.cells {w W:World} {a:Option Addr} {n c:Nat} {p:Qd} (h:Kp w a n c p W):W.cell? ⟨w.heap.size,0,none⟩ = some (.slice a n c) /\ W.cell? ⟨w.heap.size + 1,0,none⟩ = some (.int .i64 p.s) /\ W.cell? ⟨w.heap.size + 1,1,none⟩ = some (.int .i64 p.p) /\ W.cell? ⟨w.heap.size + 1,2,none⟩ = some (.int .i64 p.o) /\ W.cell? ⟨w.heap.size + 1,3,none⟩ = some (.int .i64 p.g) := by
  have b1 := (Bx.new w #[.slice a n c] 24).alloc (.cells #[.int .i64 p.s,.int .i64 p.p,.int .i64 p.o,.int .i64 p.g] 26)
  have b2 := Bx.new (w.alloc (.cells #[.slice a n c] 24)) #[.int .i64 p.s,.int .i64 p.p,.int .i64 p.o,.int .i64 p.g] 26
  simp only [World.size_alloc] at b2
  have c1:Bx W w.heap.size 24 #[.slice a n c] := (Below.block h _ (by omega)).trans b1
  have c2:Bx W (w.heap.size + 1) 26 #[.int .i64 p.s,.int .i64 p.p,.int .i64 p.o,.int .i64 p.g] := (Below.block h _ (by omega)).trans b2
  exact ⟨c1.cell 0,c2.cell 0,c2.cell 1,c2.cell 2,c2.cell 3⟩
theorem OwQ.down {w:World} {B B' n:Nat} {a:Option Addr} {X:Nat -> Int} (h:OwQ w B a n X) (hB:B' <= B):OwQ w B' a n X := by
  rcases h with h | ⟨g,e,hg,hr⟩
  · exact .inl h
  · exact .inr ⟨g,e,Nat.le_trans hB hg,hr⟩
def RetSl (W:World) (l:Nat) (L:List Qd) (e:Ending) (w' : World):Prop := ∃ a' c',e = .returned (.slice a' l c') /\ OwQ w' W.heap.size a' l (qcF L) /\ Below W.heap.size W w'
theorem RetSc.l {W w' : World} {l:Nat} {L:List Qd} {e:Ending} (h:RetSc W L e w') (hl:l = L.length):RetSl W l L e w' := by
  obtain ⟨a',c',h1,h2,h3⟩ := h
  subst hl
  exact ⟨a',c',h1,own_owq h2,h3⟩
structure Ks (w:World) (a:Option Addr) (n c:Nat) (p:Qd) (M:Nat -> Nat) (T:Nat -> Nat -> Tn) (L:List Qd) (a8:Option Addr) (wk W6:World) (b g:Nat) (R:Nat -> Nat):Prop where
  kp:Kp w a n c p wk
  q8:RdQ wk a8 L
  bel:Below wk.heap.size wk W6
  own:OwnIr W6 (g + 1) g n 0 n M T R
  box:Bx W6 b 32 #[.slice (some ⟨g,0,none⟩) n n]
  low:wk.heap.size <= g
  hib:R n <= b
section
variable {w wk W5 W6 W:World} {a a8:Option Addr} {n c:Nat} {p:Qd} {M:Nat -> Nat} {T:Nat -> Nat -> Tn} {L:List Qd} {b g:Nat} {R:Nat -> Nat}
theorem Ks.new (k:Kp w a n c p wk) (q:RdQ wk a8 L) (hg:wk.heap.size <= g) (ho:OwnIr W5 (g + 1) g n 0 n M T R) (hb:Below wk.heap.size wk W5):Ks w a n c p M T L a8 wk (W5.alloc (.cells #[.slice (some ⟨g,0,none⟩) n n] 32)) W5.heap.size g R :=
  ⟨k,q,hb.trans ((below_alloc _ _).mono hb.size),ho.below (below_alloc _ _),Bx.new _ _ _,hg,ho.2.2.1⟩
theorem Ks.all (k:Ks w a n c p M T L a8 wk W6 b g R) (hb:Below W6.heap.size W6 W):Below wk.heap.size wk W := k.bel.trans (hb.mono k.bel.size)
theorem Ks.cells (k:Ks w a n c p M T L a8 wk W6 b g R) (hb:Below W6.heap.size W6 W):W.cell? ⟨b,0,none⟩ = some (.slice (some ⟨g,0,none⟩) n n) /\ W.cell? ⟨w.heap.size,0,none⟩ = some (.slice a n c) /\ W.cell? ⟨w.heap.size + 1,0,none⟩ = some (.int .i64 p.s) /\ W.cell? ⟨w.heap.size + 1,1,none⟩ = some (.int .i64 p.p) /\ W.cell? ⟨w.heap.size + 1,2,none⟩ = some (.int .i64 p.o) /\ W.cell? ⟨w.heap.size + 1,3,none⟩ = some (.int .i64 p.g) := ⟨(k.box.below hb).cell 0,(k.kp.next (k.all hb)).cells⟩
theorem Ks.rdi (k:Ks w a n c p M T L a8 wk W6 b g R) (hb:Below W6.heap.size W6 W):RdIx W (some ⟨g,0,none⟩) n M T := k.own.rd.below hb
theorem Ks.ownW (k:Ks w a n c p M T L a8 wk W6 b g R) (hb:Below W6.heap.size W6 W):OwnIr W (g + 1) g n 0 n M T R := k.own.below hb
theorem Ks.q8W (k:Ks w a n c p M T L a8 wk W6 b g R) (hb:Below wk.heap.size wk W):RdQ W a8 L := k.q8.below hb
theorem Ks.kpW (k:Ks w a n c p M T L a8 wk W6 b g R) (hb:Below wk.heap.size wk W):Kp w a n c p W := k.kp.next hb
theorem Ks.marked {W' : World} {a10:Option Addr} {l:Nat} {X:Nat -> Int} (k:Ks w a n c p M T L a8 wk W6 b g R) (hb:Below W6.heap.size W6 W) (ho:OwQ W W6.heap.size a10 l X) (hw:WiT (R 0) (R n) W W'):OwQ W' W6.heap.size a10 l X /\ Below wk.heap.size wk W' /\ W6.heap.size <= W'.heap.size := by
  have h1 := k.own.2.1
  have h2 := k.low
  have h3 := k.hib
  have h4 := k.box.lt
  have h5 := hb.size
  have h6 := k.bel.size
  have h7 := k.own.2.2.2.1 0 n (Nat.zero_le _) (Nat.le_refl _)
  refine ⟨ho.keep (fun b' b1 b2 => hw.2.2.2.2 b' b2 (.inr (by omega))),(k.all hb).trans ((hw.below (by omega)).mono (by omega)),Nat.le_trans h5 hw.2.2.2.1⟩
end

end Go.Proofs.YtcnollkkigiobaaGreat
