import Derived.Test.YtbpcafcipncloaaRrLaw
namespace Go.Proofs.Ytbpcafcipncloaa
open Go.RowKit Go.Deep
set_option linter.unusedVariables false
set_option maxRecDepth 100000

/-- The disk's bytes, nought behind its end. -/
def cutD (n : Nat) (d : Nat → Int) (i : Nat) : Int := if i < n then d i else 0

theorem lastAt_lt0 {S : Nat → Int} {s : Int} : ∀ {m k : Nat}, lastAt S s m = some k → k < m
  | 0, k, h => by simp [lastAt] at h
  | m + 1, k, h => by
    unfold lastAt at h
    split at h
    · injection h with h; omega
    · have := lastAt_lt0 h; omega

theorem secF_all {n m : Nat} {d S : Nat → Int} {L : Nat → Nat} {F : Nat → Nat → Int} {fuel : Int} (hv : VD n m S L fuel) (hd : ∀ i, i < n → 0 ≤ d i ∧ d i < 256) (hF : ∀ i, i < m → ∀ j, j < L i → 0 ≤ F i j ∧ F i j < 256) (s i : Nat) (hi : i < 64) : 0 ≤ secF (cutD n d) S F m s i ∧ secF (cutD n d) S F m s i < 256 := by
  cases h : lastAt S s m with
  | none =>
    rw [secF_none h]
    show 0 ≤ cutD n d (s * 64 + i) ∧ cutD n d (s * 64 + i) < 256
    unfold cutD
    split
    · rename_i h1; exact hd _ h1
    · omega
  | some k =>
    rw [secF_some h]
    have hk := lastAt_lt0 h
    exact hF k hk i (by rw [(hv.2 k hk).2.2]; exact hi)

theorem rrLaw (v : Value) (at_ seq : Int) (w : World) (hv : IsDisk w v) (_ : (Lit.int .i64 at_).wf = true) (_ : (Lit.int .i64 seq).wf = true) :
    Calls Try.prog 5 #[v, .int .i64 at_, .int .i64 seq] w fun e w' => e = .returned (.bool true) ∧ Below w.heap.size w w' := by
  obtain ⟨a, n, c, d, p, m, q, S, L, F, fuel, dead, rfl, ha, hd, hn, hp, hpb, hm, _⟩ := hv
  have hL0 : ∀ i, i < m → L i ≤ maxLen := fun i hi => (hpb i hi).2.2
  have ha' : Rd .u8 w a n (cutD n d) := ha.congr (fun i hi => by unfold cutD; rw [if_pos hi])
  by_cases hg : VD n m S L fuel ∧ numB seq = true ∧ 0 ≤ at_ ∧ at_ < (n : Int) / 64
  · obtain ⟨hV, hq, h0, h1⟩ := hg
    obtain ⟨s, rfl⟩ := Int.eq_ofNat_of_zero_le h0
    have hs : s < n / 64 := by omega
    have hr := secF_all hV hd (fun i hi => (hpb i hi).1)
    by_cases hok : recOk (fun i => secF (cutD n d) S F m (s + i)) ((n : Int) / 64 - s) seq
    · have hle : catL (recLz (fun i => secF (cutD n d) S F m (s + i))) (getN (secF (cutD n d) S F m (s + 0)) 6 2).toNat ≤ 1048576 := by
        have h2 : getN (secF (cutD n d) S F m (s + 0)) 6 2 ≤ 625 := hok.2.1
        have h3 : 1 ≤ getN (secF (cutD n d) S F m (s + 0)) 6 2 := hok.1
        have h4 := catL_le48 (recLz (fun i => secF (cutD n d) S F m (s + i))) (getN (secF (cutD n d) S F m (s + 0)) 6 2).toNat (fun j hj => piece_len (G := fun i => secF (cutD n d) S F m (s + i)) (x := j) (hok.2.2.2 j (by show (j : Int) < getN (secF (cutD n d) S F m (s + 0)) 6 2; omega)))
        omega
      refine rrLaw0 a p n c m q (cutD n d) S L F fuel dead s seq true _ (catF (recLz (fun i => secF (cutD n d) S F m (s + i))) (recFz (fun i => secF (cutD n d) S F m (s + i))) (getN (secF (cutD n d) S F m (s + 0)) 6 2).toNat) (getN (secF (cutD n d) S F m (s + 0)) 6 2) w ha' hp hn hm hL0 hle (fun hn1 hm1 W a' p' hr1 hp1 => ?_) (fun hn1 hm1 W a' p' hr1 hp1 => ?_)
      · refine (specReadRec_in a' p' n n m m (cutD n d) S L F fuel dead s seq W hr1 hp1 hV hq hs hn1 (Nat.le_refl _) (by omega) hm1 hr).mono ?_
        rintro e w' ⟨hb, ⟨_, a9, c9, rfl, hrd⟩ | ⟨hno, _⟩⟩
        · exact ⟨a9, c9, rfl, hrd, hb⟩
        · exact absurd hok hno
      · refine (implReadRec_in a' p' n n m m (cutD n d) S L F fuel dead s seq W hr1 hp1 hV hq hs hn1 (Nat.le_refl _) (by omega) hm1 hr).mono ?_
        rintro e w' ⟨hb, ⟨_, a9, c9, rfl, ho, _, _⟩ | ⟨hno, _⟩⟩
        · exact ⟨a9, c9, rfl, ho, hb⟩
        · exact absurd hok hno
    · refine rrLaw0 a p n c m q (cutD n d) S L F fuel dead s seq false 0 (fun _ => 0) 0 w ha' hp hn hm hL0 (by omega) (fun hn1 hm1 W a' p' hr1 hp1 => ?_) (fun hn1 hm1 W a' p' hr1 hp1 => ?_)
      · refine (specReadRec_in a' p' n n m m (cutD n d) S L F fuel dead s seq W hr1 hp1 hV hq hs hn1 (Nat.le_refl _) (by omega) hm1 hr).mono ?_
        rintro e w' ⟨hb, ⟨hy, _⟩ | ⟨_, rfl⟩⟩
        · exact absurd hy hok
        · exact ⟨none, 0, rfl, Or.inl rfl, hb⟩
      · refine (implReadRec_in a' p' n n m m (cutD n d) S L F fuel dead s seq W hr1 hp1 hV hq hs hn1 (Nat.le_refl _) (by omega) hm1 hr).mono ?_
        rintro e w' ⟨hb, ⟨hy, _⟩ | ⟨_, rfl⟩⟩
        · exact absurd hy hok
        · exact ⟨none, 0, rfl, Or.inl rfl, hb⟩
  · refine rrLaw0 a p n c m q (cutD n d) S L F fuel dead at_ seq false 0 (fun _ => 0) 0 w ha' hp hn hm hL0 (by omega) (fun hn1 hm1 W a' p' hr1 hp1 => ?_) (fun hn1 hm1 W a' p' hr1 hp1 => ?_)
    · refine (specReadRec_no a' p' n n m m S L F fuel dead at_ seq W hp1 hn1 hm1 hg).mono ?_
      rintro e w' ⟨rfl, hb⟩
      exact ⟨none, 0, rfl, Or.inl rfl, hb⟩
    · by_cases hvq : VD n m S L fuel ∧ numB seq = true
      · refine (implReadRec_out a' p' n n m m (cutD n d) S L F fuel dead at_ seq W hp1 hn1 hm1 hvq.1 hvq.2 (fun h => hg ⟨hvq.1, hvq.2, h.1, h.2⟩)).mono ?_
        rintro e w' ⟨rfl, hb⟩
        exact ⟨none, 0, rfl, Or.inl rfl, hb⟩
      · refine (implReadRec_bad a' p' n n m m (cutD n d) S L F fuel dead at_ seq W hp1 hn1 hm1 hvq).mono ?_
        rintro e w' ⟨rfl, hb⟩
        exact ⟨none, 0, rfl, Or.inl rfl, hb⟩
end Go.Proofs.Ytbpcafcipncloaa
