import Derived.Test.YtcnollkkigiobaaGreatNa32
import Derived.Test.YtcnollkkigiobaaGreatNa31
import Derived.Test.YtcnollkkigiobaaGreatNa51
import Derived.Test.YtcnollkkigiobaaGreatNa33
import Derived.Laws.BytesString
set_option linter.unusedVariables false
set_option maxRecDepth 100000
namespace Go.Proofs.YtcnollkkigiobaaGreat
open Go.RowKit Go.Deep


set_option maxHeartbeats 1000000 in
theorem toQuad_any (a b c d:Int) (w:World) :
    Calls Tryz.prog 10 #[.agg #[.int .i64 a,.int .i64 b,.int .i64 c,.int .i64 d]] w fun e w' => e = .returned (.agg #[.int .i64 a,.int .i64 b,.int .i64 c,.int .i64 d]) /\ Below w.heap.size w w' := by
  go_enter Tryz.func10,Tryz.ntmps10
  go_wp2
  refine bodyPost_ret (v := .agg #[.int .i64 a,.int .i64 b,.int .i64 c,.int .i64 d]) (by simp [results,Tryz.results10,go_sem]) rfl ⟨rfl,?_⟩
  repeat (first | exact Below.refl _ _ | refine bA ?_ | refine bS (by simp <;> omega) ?_)


def ptO (j:Nat) (p:Qd) (i:Nat):Int := partOf p.s p.p p.o p.g (ordF j i)
theorem four {P:Nat -> Prop} (h0:P 0) (h1:P 1) (h2:P 2) (h3:P 3):∀ i,i < 4 -> P i := fun i hi => by
  rcases (show i = 0 \/ i = 1 \/ i = 2 \/ i = 3 by omega) with rfl | rfl | rfl | rfl <;> assumption

def pkB (x:Int):ByteArray := (((ByteArray.empty.push (UInt8.ofNat (x / 16777216).toNat)).push (UInt8.ofNat (x / 65536 % 256).toNat)).push (UInt8.ofNat (x / 256 % 256).toNat)).push (UInt8.ofNat (x % 256).toNat)

set_option maxHeartbeats 2000000 in
theorem partKey_any (x:Int) (h0:0 <= x) (h1:x < 4294967296) (w:World):Calls Tryz.prog 110 #[.int .i64 x] w fun e w' => e = .returned (.string (pkB x)) /\ Below w.heap.size w w' := by
  obtain ⟨W,hW⟩:∃ W,W = w.alloc (.cells #[.int .u8 (x / 16777216),.int .u8 (x / 65536 % 256),.int .u8 (x / 256 % 256),.int .u8 (x % 256)] 5) := ⟨_,rfl⟩
  have b := Bx.new w #[.int .u8 (x / 16777216),.int .u8 (x / 65536 % 256),.int .u8 (x / 256 % 256),.int .u8 (x % 256)] 5
  have c0 := b.cell 0
  have c1 := b.cell 1
  have c2 := b.cell 2
  have c3 := b.cell 3
  simp at c0 c1 c2 c3
  have hcv:(convert 47 9 (.slice (some ⟨w.heap.size,0,none⟩) 4 4)).run Tryz.prog (w.alloc (.cells #[.int .u8 (x / 16777216),.int .u8 (x / 65536 % 256),.int .u8 (x / 256 % 256),.int .u8 (x % 256)] 5)) = .ok (.string (pkB x)) (w.alloc (.cells #[.int .u8 (x / 16777216),.int .u8 (x / 65536 % 256),.int .u8 (x / 256 % 256),.int .u8 (x % 256)] 5)) := by
    rw [run_convert_bytes_string (P := Tryz.prog) _ 47 9 5 _ 4 4 rfl rfl rfl,run_bytesToString _ _ 4 4 [x / 16777216,x / 65536 % 256,x / 256 % 256,x % 256] (by simp [go_sem])]
    rfl
  clear hW W b c0 c1 c2 c3
  go_enter Tryz.func110,Tryz.ntmps110
  go_wp2
  go_ret
  exact ⟨rfl,below_alloc _ _⟩

def spL (x:Nat -> Int):Nat -> ByteArray
  | 0 => { data := #[] }
  | i + 1 => spL x i ++ pkB (x i)
def spH (x:Nat -> Int):Nat -> ByteArray
  | 0 => { data := #[] }
  | i + 1 => spL x i ++ pkB (x i + 1)
theorem pkB_size (x:Int):(pkB x).size = 4 := rfl
theorem spL_size (x:Nat -> Int):∀ i,(spL x i).size = 4 * i
  | 0 => rfl
  | i + 1 => by
    show (spL x i ++ pkB (x i)).size = _
    rw [ByteArray.size_append,spL_size x i,pkB_size]
    omega
theorem qcell (p:Qd) (o:Nat) (ho:o < 4):(#[.int .i64 p.s,.int .i64 p.p,.int .i64 p.o,.int .i64 p.g]:Array Value)[o]? = some (.int .i64 (partOf p.s p.p p.o p.g o)) := by
  rcases (show o = 0 \/ o = 1 \/ o = 2 \/ o = 3 by omega) with rfl | rfl | rfl | rfl <;> rfl
def Lead (x:Nat -> Int) (m:Nat):Prop := m <= 4 /\ (∀ i,i < m -> x i ≠ 0) /\ (m < 4 -> x m = 0)

end Go.Proofs.YtcnollkkigiobaaGreat
