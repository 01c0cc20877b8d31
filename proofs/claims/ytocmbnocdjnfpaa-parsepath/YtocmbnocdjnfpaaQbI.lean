import Derived.Test.YtocmbnocdjnfpaaQbH
import Derived.Test.YtocmbnocdjnfpaaQbD
import Derived.Test.YtocmbnocdjnfpaaQaD
namespace Go.Proofs.Ytocmbnocdjnfpaa
open Go.RowKit Go.Deep
set_option linter.unusedVariables false
set_option linter.unusedSimpArgs false
set_option maxRecDepth 100000

theorem strT_inj {p q : List Int} (hp : Byt p) (hq : Byt q) (h : strT p = strT q) : p = q := by
  rw [← bl_strT hp, ← bl_strT hq, h]
theorem strT_list (q : List Int) : (strT q).toList = q.map (fun x => UInt8.ofNat x.toNat) := by
  rw [ByteArray.toList_eq]
  unfold strT
  simp
theorem strT_nl {p q : List Int} (hp : Byt p) (hq : Byt q) (h : p ≠ q) : ¬ (strT p).toList = q.map (fun x => UInt8.ofNat x.toNat) := fun e => by
  rw [← strT_list] at e
  exact h (strT_inj hp hq (strB_eq.1 (by rw [e]; simp)))
theorem byt_lit {q : List Int} (h : q.all (fun x => decide (0 ≤ x) && decide (x < 256)) = true) : Byt q := fun x hx => by
  have := List.all_eq_true.1 h x hx
  simpa using this

theorem l6Word_any (q : List Int) (hq : Byt q) (w : World) : Calls Try.prog 110 #[.string (strT q)] w fun e w' => e = .returned (.bool (decide (cdW q ≠ 0))) ∧ w' = w := by
  have HE : Hid (cdW q = if q = [97, 108, 108] then 1 else if q = [118] then 2 else if q = [111, 117, 116] then 3 else if q = [105, 110] then 4 else if q = [104, 97, 115] then 5 else if q = [103, 114, 97, 112, 104] then 9 else 0) := rfl
  by_cases h1 : q = [97, 108, 108]
  · subst h1
    show Calls Try.prog 110 #[.string { data := #[97, 108, 108] }] w _
    go_enter Try.func110, Try.ntmps110
    go_wp2
    go_ret
    exact ⟨rfl, rfl⟩
  by_cases h2 : q = [118]
  · subst h2
    show Calls Try.prog 110 #[.string { data := #[118] }] w _
    go_enter Try.func110, Try.ntmps110
    go_wp2
    go_ret
    exact ⟨rfl, rfl⟩
  by_cases h9 : q = [103, 114, 97, 112, 104]
  · subst h9
    show Calls Try.prog 110 #[.string { data := #[103, 114, 97, 112, 104] }] w _
    go_enter Try.func110, Try.ntmps110
    go_wp2
    go_ret
    exact ⟨rfl, rfl⟩
  by_cases h3 : q = [111, 117, 116]
  · subst h3
    show Calls Try.prog 110 #[.string { data := #[111, 117, 116] }] w _
    go_enter Try.func110, Try.ntmps110
    go_wp2
    go_ret
    exact ⟨rfl, rfl⟩
  by_cases h4 : q = [105, 110]
  · subst h4
    show Calls Try.prog 110 #[.string { data := #[105, 110] }] w _
    go_enter Try.func110, Try.ntmps110
    go_wp2
    go_ret
    exact ⟨rfl, rfl⟩
  by_cases h5 : q = [104, 97, 115]
  · subst h5
    show Calls Try.prog 110 #[.string { data := #[104, 97, 115] }] w _
    go_enter Try.func110, Try.ntmps110
    go_wp2
    go_ret
    exact ⟨rfl, rfl⟩
  have n1 : ¬ (strT q).toList = [97, 108, 108] := strT_nl hq (q := [97, 108, 108]) (byt_lit rfl) h1
  have n2 : ¬ (strT q).toList = [118] := strT_nl hq (q := [118]) (byt_lit rfl) h2
  have n9 : ¬ (strT q).toList = [103, 114, 97, 112, 104] := strT_nl hq (q := [103, 114, 97, 112, 104]) (byt_lit rfl) h9
  have n3 : ¬ (strT q).toList = [111, 117, 116] := strT_nl hq (q := [111, 117, 116]) (byt_lit rfl) h3
  have n4 : ¬ (strT q).toList = [105, 110] := strT_nl hq (q := [105, 110]) (byt_lit rfl) h4
  have n5 : ¬ (strT q).toList = [104, 97, 115] := strT_nl hq (q := [104, 97, 115]) (byt_lit rfl) h5
  have HC : Hid (cdW q = 0) := by
    show _ = _
    rw [HE.out, if_neg h1, if_neg h2, if_neg h3, if_neg h4, if_neg h5, if_neg h9]
  generalize strT q = X at *
  clear h1 h2 h3 h4 h5 h9 hq
  go_enter Try.func110, Try.ntmps110
  go_wp2
  go_ret
  exact ⟨by rw [HC.out]; simp [n1, n2, n3, n4, n5, n9], rfl⟩
end Go.Proofs.Ytocmbnocdjnfpaa
