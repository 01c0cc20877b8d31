import Derived.Test.YtcnollkkigiobaaGreatTiU
namespace Go.Proofs.YtcnollkkigiobaaGreat
open Go.RowKit Go.Deep
set_option linter.unusedVariables false
set_option maxRecDepth 100000

theorem flat_congr {S T : Type} (f : S → List ByteArray) (g : T → List ByteArray) : ∀ (l : List S) (m : List T), l.length = m.length → (∀ k (h : k < l.length) (h' : k < m.length), f l[k] = g m[k]) → l.flatMap f = m.flatMap g
  | [], [], _, _ => rfl
  | [], _ :: _, h, _ => by simp at h
  | _ :: _, [], h, _ => by simp at h
  | a :: l, b :: m, h, hf => by
    rw [List.flatMap_cons, List.flatMap_cons]
    have h0 := hf 0 (by simp) (by simp)
    simp only [List.getElem_cons_zero] at h0
    rw [h0, flat_congr f g l m (by simpa using h) (fun k hk hk' => by
      have := hf (k + 1) (by simpa using hk) (by simpa using hk')
      simpa using this)]

theorem off_congr {d d' : Nat} {l : List (Ro d)} {m : List (Ro d')} (h : ∀ j (h : j < l.length) (h' : j < m.length), nodesR d l[j] = nodesR d' m[j]) : ∀ k, k ≤ l.length → k ≤ m.length → offR d l k = offR d' m k
  | 0, _, _ => by rw [offR_zero, offR_zero]
  | k + 1, h1, h2 => by
    rw [offR_succ d l k (by omega), offR_succ d' m k (by omega), off_congr h k (by omega) (by omega), h k (by omega) (by omega)]

/-- A balanced tree that is told is the one that l3Nest reads, at every bound above its height. -/
theorem tells_nest {N : Nat → Tn} {n : Nat} : ∀ {d' d : Nat} {root : Bool} {t : Ro d} {h x : Nat}, Tells N 0 d t x → x + nodesR d t ≤ n → BalR d root t h → h < d' →
    ∃ t' : Ro d', nestR N n d' x = some (t', x + nodesR d t) ∧ keysR d' t' = keysR d t ∧ nodesR d' t' = nodesR d t ∧ BalR d' root t' h ∧ Tells N 0 d' t' x
  | 0, _, _, _, h, _, _, _, _, hd => by omega
  | d' + 1, 0, root, t, h, x, ht, hn, hb, hd => t.elim
  | d' + 1, d + 1, root, .inl t, h, x, ht, hn, hb, hd => by
    have h1 : nodesR (d + 1) (.inl t) = 1 := rfl
    have ht2 := ht
    obtain ⟨q1, q2, q3, q4, q5⟩ := ht
    have e := list_of_ks q2 q3
    refine ⟨.inl t, ?_, rfl, rfl, hb, ht2⟩
    unfold nestR
    rw [if_pos (by omega), if_pos q1, if_pos q4, h1, ← e]
  | d' + 1, d + 1, root, .inr l, h, x, ht, hn, hb, hd => by
    have h1 : nodesR (d + 1) (.inr l) = 1 + (l.map (nodesR d)).sum := rfl
    obtain ⟨q1, q2, q3, q4, q5, q6, q7⟩ := ht
    obtain ⟨b1, b2, h', rfl, b3⟩ := hb
    have key : ∀ k, k ≤ l.length → ∃ ts : List (Ro d'), kidsF (nestR N n d') (N x).kd (x + 1) k = some (ts, x + 1 + offR d l k) ∧ ts.length = k ∧ ∀ j (h : j < ts.length) (h2 : j < l.length), keysR d' ts[j] = keysR d l[j] ∧ nodesR d' ts[j] = nodesR d l[j] ∧ BalR d' false ts[j] h' ∧ Tells N 0 d' ts[j] (x + 1 + offR d l j) := by
      intro k
      induction k with
      | zero =>
        intro _
        exact ⟨[], by rw [offR_zero]; rfl, rfl, fun j hj => absurd hj (Nat.not_lt_zero _)⟩
      | succ k ih =>
        intro hk
        obtain ⟨ts, e1, e2, e3⟩ := ih (by omega)
        have hkl : k < l.length := by omega
        have hle := offR_le d l k hkl
        obtain ⟨t', f1, f2, f3, f4, f5⟩ := tells_nest (n := n) (d' := d') (q7 k hkl) (by omega) (b3 _ (List.getElem_mem hkl)) (by omega)
        refine ⟨ts ++ [t'], ?_, by rw [List.length_append, e2]; rfl, fun j hj hj2 => ?_⟩
        · unfold kidsF
          rw [e1]
          simp only
          rw [if_pos (by rw [q5 k hkl]; omega), f1]
          simp only
          rw [offR_succ d l k hkl]
          rw [show x + 1 + offR d l k + nodesR d l[k] = x + 1 + (offR d l k + nodesR d l[k]) by omega]
        · rw [List.length_append] at hj
          simp at hj
          by_cases e : j = k
          · subst e
            rw [List.getElem_append_right (by omega)]
            simp only [e2, Nat.sub_self, List.getElem_cons_zero]
            exact ⟨f2, f3, f4, f5⟩
          · rw [List.getElem_append_left (by omega)]
            exact e3 j (by omega) hj2
    obtain ⟨ts, e1, e2, e3⟩ := key l.length (Nat.le_refl _)
    have hoff : ∀ k, k ≤ l.length → offR d' ts k = offR d l k := fun k hk => off_congr (fun j h h' => (e3 j h h').2.1) k (by omega) hk
    have hsum : (ts.map (nodesR d')).sum = (l.map (nodesR d)).sum := by
      have := hoff l.length (Nat.le_refl _)
      rw [offR_all, ← e2, offR_all] at this
      exact this
    have hflat : ts.flatMap (keysR d') = l.flatMap (keysR d) := flat_congr _ _ ts l e2 (fun k hk hk' => (e3 k hk hk').1)
    refine ⟨.inr ts, ?_, hflat, ?_, ⟨by omega, by omega, h', rfl, fun t ht => ?_⟩, ?_⟩
    · unfold nestR
      rw [if_pos (by omega), if_neg (by rw [q1]; simp), if_neg (by omega), q2, e1]
      simp only
      rw [offR_all, h1]
      rw [show x + 1 + (l.map (nodesR d)).sum = x + (1 + (l.map (nodesR d)).sum) by omega]
    · show 1 + (ts.map (nodesR d')).sum = 1 + (l.map (nodesR d)).sum
      rw [hsum]
    · obtain ⟨j, hj, rfl⟩ := List.getElem_of_mem ht
      exact (e3 j hj (by omega)).2.2.1
    · refine ⟨q1, by rw [q2, e2], by rw [q3, hflat], by rw [q4, e2], fun k hk => ?_, fun k hk => ?_, fun k hk => ?_⟩
      · rw [hoff k (by omega)]
        exact q5 k (by omega)
      · rw [(e3 (k + 1) hk (by omega)).1]
        exact q6 k (by omega)
      · rw [hoff k (by omega)]
        exact (e3 k hk (by omega)).2.2.2

/-- Ascending keys, as a chain. -/
theorem chain_of_asc : ∀ (L : List ByteArray) (hk : Bool) (lk : ByteArray), (∀ i, i < L.length → (gt L i).size ≤ 16 ∧ (0 < i → Op.bytesLess (gt L (i - 1)).toList (gt L i).toList = true)) → (hk = true → 0 < L.length → Op.bytesLess lk.toList (gt L 0).toList = true) → ∃ hk' lk', Chain hk lk L hk' lk'
  | [], hk, lk, _, _ => ⟨hk, lk, rfl, rfl⟩
  | k :: L, hk, lk, h, h0 => by
    obtain ⟨hk', lk', q⟩ := chain_of_asc L true k (fun i hi => by
      have := h (i + 1) (by simpa using hi)
      refine ⟨by simpa [gt] using this.1, fun hi0 => ?_⟩
      have := this.2 (by omega)
      rw [show i + 1 - 1 = (i - 1) + 1 by omega] at this
      simpa [gt] using this) (fun _ hl => by
      have := (h 1 (by simpa using hl)).2 (by omega)
      simpa [gt] using this)
    exact ⟨hk', lk', by simpa [gt] using (h 0 (by simp)).1, fun e => by simpa [gt] using h0 e (by simp), q⟩

theorem asc_of_chain : ∀ (L : List ByteArray) (hk : Bool) (lk : ByteArray) {hk' : Bool} {lk' : ByteArray}, Chain hk lk L hk' lk' → (∀ i, i < L.length → (gt L i).size ≤ 16 ∧ (0 < i → Op.bytesLess (gt L (i - 1)).toList (gt L i).toList = true)) ∧ (hk = true → 0 < L.length → Op.bytesLess lk.toList (gt L 0).toList = true)
  | [], hk, lk, _, _, _ => ⟨fun i hi => absurd hi (Nat.not_lt_zero _), fun _ h => absurd h (Nat.lt_irrefl _)⟩
  | k :: L, hk, lk, hk', lk', h => by
    obtain ⟨q1, q2⟩ := asc_of_chain L true k h.2.2
    refine ⟨fun i hi => ?_, fun e _ => by simpa [gt] using h.2.1 e⟩
    cases i with
    | zero => exact ⟨by simpa [gt] using h.1, fun h => absurd h (Nat.lt_irrefl _)⟩
    | succ i =>
      have hi2 : i < L.length := by simpa using hi
      refine ⟨by simpa [gt] using (q1 i hi2).1, fun _ => ?_⟩
      cases i with
      | zero =>
        have := q2 rfl hi2
        simpa [gt] using this
      | succ i =>
        have := (q1 (i + 1) hi2).2 (by omega)
        simpa [gt] using this

/-- A valid tree, as the program reads it. -/
theorem good_vt {N : Nat → Tn} {n d : Nat} {t : Ro d} {D' : Int} {hk' : Bool} {lk' : ByteArray} (hn : n ≤ 5000) (h : Good N n 0 0 0 false { data := #[] } d t D' hk' lk') (he : nodesR d t = n) : ∃ t', VTt n N t' ∧ keysR 21 t' = keysR d t := by
  obtain ⟨hh, hb, _⟩ := h.bal
  have hlow := hb.low (by omega)
  obtain ⟨t', q1, q2, q3, q4, q5⟩ := tells_nest (n := n) (d' := 21) h.tl (by omega) hb (by omega)
  rw [he] at q1
  have hp := nodes_pos d t
  refine ⟨t', ⟨by omega, hn, by simpa using q1, ⟨hh, by simpa using q4⟩, ?_, q5⟩, q2⟩
  rw [q2]
  exact (asc_of_chain _ _ _ h.asc).1

theorem vt_good {N : Nat → Tn} {n d : Nat} {t' : Ro 21} (h : VTt n N t') (hd : n ≤ d) : ∃ (t : Ro d) (D' : Int) (hk' : Bool) (lk' : ByteArray), Good N n 0 0 0 false { data := #[] } d t D' hk' lk' ∧ nodesR d t = n := by
  obtain ⟨h1, h2, h3, ⟨hh, hb⟩, h5, h6⟩ := h
  have hend := nestR_end h3
  have hnod := hb.nodes
  have hlt : hh < 2 ^ hh := Nat.lt_two_pow_self
  obtain ⟨t, q1, q2, q3, q4, q5⟩ := tells_nest (n := n) (d' := d) h6 (by omega) hb (by omega)
  obtain ⟨hk', lk', hc⟩ := chain_of_asc (keysR d t) false { data := #[] } (by rw [q2]; exact h5) (fun e => by cases e)
  exact ⟨t, (hh : Int), hk', lk', ⟨q5, by omega, ⟨hh, by simpa using q4, by simp⟩, .inl rfl, hc⟩, by omega⟩
end Go.Proofs.YtcnollkkigiobaaGreat
