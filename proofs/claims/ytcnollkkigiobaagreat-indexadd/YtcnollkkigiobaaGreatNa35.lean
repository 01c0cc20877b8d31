import Derived.Test.YtcnollkkigiobaaGreatNa34
set_option linter.unusedVariables false
set_option maxRecDepth 100000
namespace Go.Proofs.YtcnollkkigiobaaGreat
open Go.RowKit Go.Deep

def inR (lo hi k:ByteArray):Bool := !(Op.bytesLess k.toList lo.toList) && (hi.toList.isEmpty || Op.bytesLess k.toList hi.toList)
def fil (lo hi:ByteArray) (L:List ByteArray):List ByteArray := L.filter (inR lo hi)
theorem fil_app (lo hi:ByteArray) (L M:List ByteArray):fil lo hi (L ++ M) = fil lo hi L ++ fil lo hi M := List.filter_append ..
theorem fil_le (lo hi:ByteArray) (L:List ByteArray):(fil lo hi L).length <= L.length := List.length_filter_le _ _
theorem fil_take {lo hi:ByteArray} {L:List ByteArray} {k:Nat} (h:k < L.length):fil lo hi (L.take (k + 1)) = fil lo hi (L.take k) ++ (if inR lo hi (gt L k) = true then [gt L k] else []) := by
  rw [chain_take h,fil_app]
  congr 1
  unfold fil
  rw [List.filter_cons,List.filter_nil]
theorem fil_none {lo hi:ByteArray} {L:List ByteArray} (h:∀ k,k ∈ L -> inR lo hi k = false):fil lo hi L = [] := by
  unfold fil
  rw [List.filter_eq_nil_iff]
  intro k hk
  rw [h k hk]
  simp

def RetGa (B:Nat) (w:World) (L:List ByteArray) (e:Ending) (w' : World):Prop :=
  ∃ a c,e = .returned (.slice a L.length c) /\ w'.ownsRow B 9 1 (.slice a L.length c) L.length (strL L) /\ Below B w w'

set_option maxHeartbeats 4000000 in
theorem gaLeaf_any (B b n kc:Nat) (ka:Option Addr) (v0:Value) (L L0:List ByteArray) (lo hi:ByteArray) (a0:Option Addr) (n0 c0:Nat) (w:World) (hx:Bx w b 206 #[v0,.slice ka n kc]) (hbB:b < B) (hr:∀ W:World,Below B w W -> RdS W ka n (gt L)) (hn:n = L.length) (hn2:n <= 1048576) (h0:w.ownsRow B 9 1 (.slice a0 n0 c0) n0 (strL L0)) (hn0:n0 = L0.length) (hn3:n0 <= 1073741824) (hB:B <= w.heap.size) :
    Calls Tryz.prog 203 #[.pointer (some ⟨b,0,none⟩),.slice a0 n0 c0,.string lo,.string hi] w (RetGa B w (L0 ++ fil lo hi L)) := by
  have HR:Hid ((∀ W:World,Below B w W -> RdS W ka n (gt L)) /\ n = L.length) := ⟨hr,hn⟩
  have H0:Hid (w.ownsRow B 9 1 (.slice a0 n0 c0) n0 (strL L0) /\ n0 = L0.length) := ⟨h0,hn0⟩
  have c1 := hx.cell 1
  simp at c1
  clear hx hr hn h0 hn0
  go_enter Tryz.func203,Tryz.ntmps203
  go_wp2
  go_loopw [1,16] (fun q i wr => ∃ (k m:Nat) (a:Option Addr) (c:Nat),k <= n /\ i = .int .i64 k /\ q = .slice a m c /\ m = (L0 ++ fil lo hi (L.take k)).length /\ wr.ownsRow B 9 1 (.slice a m c) m (strL (L0 ++ fil lo hi (L.take k))) /\ Below B w wr) (fun _ i _ => n - (intOf i).toNat)
  case atStart => exact ⟨0,n0,a0,c0,Nat.zero_le _,rfl,rfl,by simp [fil,H0.out.2],by simpa [fil] using H0.out.1,Below.refl _ _⟩
  case round =>
    obtain ⟨k,m,a,c,hk,rfl,rfl,hm,hown,hbel⟩ := hrel
    clear c1
    have HS:Hid (m = (L0 ++ fil lo hi (L.take k)).length /\ wr.ownsRow B 9 1 (.slice a m c) m (strL (L0 ++ fil lo hi (L.take k))) /\ Below B w wr) := ⟨hm,hown,hbel⟩
    have hmb:m <= 2147483648 := by
      rw [List.length_append] at hm
      have h1 := fil_le lo hi (L.take k)
      have h2:(L.take k).length <= L.length := List.length_take_le' _ _
      have := HR.out.2
      have := H0.out.2
      omega
    have hz := hbel.size
    clear hm hown hbel
    by_cases hlt:k < n
    · have hlk:k < L.length := by rw [<- HR.out.2]; exact hlt
      rcases HR.out.1 wr HS.out.2.2 with q | ⟨b3,o3,rfl,hc3⟩
      · omega
      have s1 := hc3 k hlt
      have i0:(0:Int) <= (k:Int) := by omega
      have i1:(k:Int) < (n:Int) := by omega
      have htk := fil_take (lo := lo) (hi := hi) hlk
      have hbz:b < wr.heap.size := by omega
      clear hc3
      have htot := less_total (gt L k).toList lo.toList
      have HYes:inR lo hi (gt L k) = true -> Hid (∀ (v' : Value) (w5:World),w5.ownsRow B 9 1 v' (m + 1) (strL (L0 ++ fil lo hi (L.take k)) ++ [.string (gt L k)]) -> w5.ownsRow B 9 1 v' (m + 1) (strL (L0 ++ fil lo hi (L.take (k + 1)))) /\ m + 1 = (L0 ++ fil lo hi (L.take (k + 1))).length) := by
        intro hin v' w5 ho
        rw [htk,hin,if_pos rfl,<- List.append_assoc]
        constructor
        · rw [strL_app]; exact ho
        · rw [List.length_append,<- HS.out.1]; rfl
      have HNot:inR lo hi (gt L k) = false -> Hid (m = (L0 ++ fil lo hi (L.take (k + 1))).length /\ wr.ownsRow B 9 1 (.slice a m c) m (strL (L0 ++ fil lo hi (L.take (k + 1)))) /\ Below B w wr) := by
        intro hin
        rw [htk,hin,if_neg (by simp),List.append_nil]
        exact HS.out
      obtain ⟨i9,hi9,hz0,hz1,hz2⟩ := info_parts Tryz.info9
      have HI:Hid (Tryz.prog.info? 9 = some i9 /\ i9.zero = some (.string { data := #[] }) /\ i9.size = 1 /\ i9.bytes = 16) := ⟨hi9,hz0,hz1,hz2⟩
      clear hi9 hz0 hz1 hz2 htk
      have HO:Hid ((wr.alloc (.cells #[.string (gt L k)] 9)).ownsRow B 9 1 (.slice a m c) m (strL (L0 ++ fil lo hi (L.take k)))) := own_below HS.out.2.1 (below_alloc _ _)
      cases hl:Op.bytesLess (gt L k).toList lo.toList with
      | true =>
        rw [hl] at htot
        have ht2:(Op.bytesLess lo.toList (gt L k).toList || lo.toList == (gt L k).toList) = false := htot
        have HN := HNot (by unfold inR; rw [hl]; rfl)
        clear htot HYes HNot
        go_wp2
        go_roundw
        case rel => exact ⟨k + 1,m,a,c,by omega,by go_num,rfl,HN.out⟩
        case measure => simp [intOf]; omega
      | false =>
        rw [hl] at htot
        have ht2:(Op.bytesLess lo.toList (gt L k).toList || lo.toList == (gt L k).toList) = true := htot
        by_cases hem:hi.toList = []
        · have HY := HYes (by unfold inR; rw [hl,hem]; rfl)
          clear htot HYes HNot
          go_wp2_with (at_builtin; refine wpList_append_own_at _ rfl _ _ 88 rfl B 9 i9 _ 1 16 Tryz.underlying88 HI.out.1 HI.out.2.1 HI.out.2.2.1 HI.out.2.2.2 rfl (by decide) (.slice a m c) m _ rfl HO.out ⟨wr.heap.size,0,none⟩ 1 1 [.string (gt L k)] rfl rfl (cell_one_new _ _ _) (by intro u hu; simp at hu; subst hu; rfl) (by unfold maxLen; omega) (by omega) (by simp; omega) ?_)
          intro v' w5 ho hg _ hat
          have HB5:Hid (Below B w w5) := (HS.out.2.2.trans ((below_alloc _ _).mono (by omega))).grown hg (by simp; omega) (fun g e => (own_lt HS.out.2.1 g e).1)
          obtain ⟨q1,q2⟩ := HY.out v' w5 ho
          obtain ⟨a5,c5,rfl,_⟩ := own_form ho
          have HX:Hid (m + 1 = (L0 ++ fil lo hi (L.take (k + 1))).length /\ w5.ownsRow B 9 1 (.slice a5 (m + 1) c5) (m + 1) (strL (L0 ++ fil lo hi (L.take (k + 1)))) /\ Below B w w5) := ⟨q2,q1,HB5.out⟩
          clear ho hg hat q1 q2 HO
          go_wp2
          go_roundw
          case rel => exact ⟨k + 1,m + 1,a5,c5,by omega,by go_num,rfl,HX.out⟩
          case measure => simp [intOf]; omega
        · have hem' : hi.toList.isEmpty = false := by simpa using hem
          cases hh:Op.bytesLess (gt L k).toList hi.toList with
          | true =>
            have HY := HYes (by unfold inR; rw [hl,hh]; simp)
            clear htot HYes HNot
            go_wp2_with (at_builtin; refine wpList_append_own_at _ rfl _ _ 88 rfl B 9 i9 _ 1 16 Tryz.underlying88 HI.out.1 HI.out.2.1 HI.out.2.2.1 HI.out.2.2.2 rfl (by decide) (.slice a m c) m _ rfl HO.out ⟨wr.heap.size,0,none⟩ 1 1 [.string (gt L k)] rfl rfl (cell_one_new _ _ _) (by intro u hu; simp at hu; subst hu; rfl) (by unfold maxLen; omega) (by omega) (by simp; omega) ?_)
            intro v' w5 ho hg _ hat
            have HB5:Hid (Below B w w5) := (HS.out.2.2.trans ((below_alloc _ _).mono (by omega))).grown hg (by simp; omega) (fun g e => (own_lt HS.out.2.1 g e).1)
            obtain ⟨q1,q2⟩ := HY.out v' w5 ho
            obtain ⟨a5,c5,rfl,_⟩ := own_form ho
            have HX:Hid (m + 1 = (L0 ++ fil lo hi (L.take (k + 1))).length /\ w5.ownsRow B 9 1 (.slice a5 (m + 1) c5) (m + 1) (strL (L0 ++ fil lo hi (L.take (k + 1)))) /\ Below B w w5) := ⟨q2,q1,HB5.out⟩
            clear ho hg hat q1 q2 HO
            go_wp2
            go_roundw
            case rel => exact ⟨k + 1,m + 1,a5,c5,by omega,by go_num,rfl,HX.out⟩
            case measure => simp [intOf]; omega
          | false =>
            have HN := HNot (by unfold inR; rw [hl,hh]; simp [hem])
            clear htot HYes HNot
            go_wp2
            go_roundw
            case rel => exact ⟨k + 1,m,a,c,by omega,by go_num,rfl,HN.out⟩
            case measure => simp [intOf]; omega
    · have e:k = n := by omega
      subst e
      have HE:Hid (L.take k = L) := by
        show L.take k = L
        rw [HR.out.2,List.take_length]
      go_wp2
      go_ret
      have q := HS.out
      rw [HE.out] at q
      refine ⟨a,c,by rw [<- q.1]; rfl,by rw [<- q.1]; exact q.2.1,q.2.2⟩
end Go.Proofs.YtcnollkkigiobaaGreat
