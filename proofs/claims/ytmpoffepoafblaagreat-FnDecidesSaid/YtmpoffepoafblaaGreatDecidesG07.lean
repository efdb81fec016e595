/- CPing, HeapT, MTo -/
import Derived.Test.YtmpoffepoafblaaGreatDecidesG03
import Derived.Test.YtmpoffepoafblaaGreatDecidesG06
import Derived.Test.YtmpoffepoafblaaGreatDecidesG01
/- The fixed trial of one model: ping. -/
namespace Go.Proofs.YtmpoffepoafblaaGreat
open Go.RowKit
def pingM : Md := ⟨1, 0, [0], [[⟨0, 0, 1, 0⟩, ⟨3, 0, 3, 1⟩, ⟨4, 2, 1, 0⟩, ⟨5, 1, 0, 0⟩, ⟨2, 0, 1, 0⟩]], [⟨0, -1, 0, 0, 0, 0, 0⟩], 5⟩
set_option maxRecDepth 100000 in
set_option maxHeartbeats 4000000 in
theorem ping_any (w : World) : Calls Tryz.prog 88 #[] w fun e w' => ∃ x, e = .returned x ∧ IsM w' x pingM ∧ Below w.heap.size w w' := by
  go_enter Tryz.func88, Tryz.ntmps88
  go_wp2
  obtain ⟨A0, hA0⟩ : ∃ A0, w.alloc (.cells #[.int .i64 1, .int .i64 0, .slice (some ⟨w.heap.size + 1 + 1, 0, none⟩) 1 1, .slice (some ⟨w.heap.size + 1 + 1 + 1, 0, none⟩) 1 1, .slice (some ⟨w.heap.size + 1 + 1 + 1 + 1, 0, none⟩) 1 1, .int .i64 5] 36) = A0 := ⟨_, rfl⟩
  have s0 : A0.heap.size = w.heap.size + 1 := by rw [← hA0]; simp
  have b0 : Bk A0 w.heap.size 36 #[.int .i64 1, .int .i64 0, .slice (some ⟨w.heap.size + 1 + 1, 0, none⟩) 1 1, .slice (some ⟨w.heap.size + 1 + 1 + 1, 0, none⟩) 1 1, .slice (some ⟨w.heap.size + 1 + 1 + 1 + 1, 0, none⟩) 1 1, .int .i64 5] := hA0 ▸ Bk.new w _ _
  have hB0 : Below w.heap.size w A0 := hA0 ▸ (Below.refl _ w).alloc (Nat.le_refl _) _
  rw [hA0]
  obtain ⟨A1, hA1⟩ : ∃ A1, A0.alloc (.cells #[.int .i64 0, .int .i64 0, .int .i64 1, .int .i64 0, .int .i64 3, .int .i64 0, .int .i64 3, .int .i64 1, .int .i64 4, .int .i64 2, .int .i64 1, .int .i64 0, .int .i64 5, .int .i64 1, .int .i64 0, .int .i64 0, .int .i64 2, .int .i64 0, .int .i64 1, .int .i64 0] 181) = A1 := ⟨_, rfl⟩
  have s1 : A1.heap.size = w.heap.size + 1 + 1 := by rw [← hA1]; simp [s0]
  have b1 : Bk A1 (w.heap.size + 1) 181 #[.int .i64 0, .int .i64 0, .int .i64 1, .int .i64 0, .int .i64 3, .int .i64 0, .int .i64 3, .int .i64 1, .int .i64 4, .int .i64 2, .int .i64 1, .int .i64 0, .int .i64 5, .int .i64 1, .int .i64 0, .int .i64 0, .int .i64 2, .int .i64 0, .int .i64 1, .int .i64 0] := hA1 ▸ Bk.newAt s0.symm _ _
  have hB1 : Below w.heap.size w A1 := hA1 ▸ hB0.alloc (by omega) _
  replace b0 := hA1 ▸ b0.alloc (.cells #[.int .i64 0, .int .i64 0, .int .i64 1, .int .i64 0, .int .i64 3, .int .i64 0, .int .i64 3, .int .i64 1, .int .i64 4, .int .i64 2, .int .i64 1, .int .i64 0, .int .i64 5, .int .i64 1, .int .i64 0, .int .i64 0, .int .i64 2, .int .i64 0, .int .i64 1, .int .i64 0] 181)
  rw [hA1]
  obtain ⟨A2, hA2⟩ : ∃ A2, A1.alloc (.cells #[.int .i64 0] 3) = A2 := ⟨_, rfl⟩
  have s2 : A2.heap.size = w.heap.size + 1 + 1 + 1 := by rw [← hA2]; simp [s1]
  have b2 : Bk A2 (w.heap.size + 1 + 1) 3 #[.int .i64 0] := hA2 ▸ Bk.newAt s1.symm _ _
  have hB2 : Below w.heap.size w A2 := hA2 ▸ hB1.alloc (by omega) _
  replace b0 := hA2 ▸ b0.alloc (.cells #[.int .i64 0] 3)
  replace b1 := hA2 ▸ b1.alloc (.cells #[.int .i64 0] 3)
  rw [hA2]
  obtain ⟨A3, hA3⟩ : ∃ A3, A2.alloc (.cells #[.slice (some ⟨w.heap.size + 1, 0, none⟩) 5 5] 178) = A3 := ⟨_, rfl⟩
  have s3 : A3.heap.size = w.heap.size + 1 + 1 + 1 + 1 := by rw [← hA3]; simp [s2]
  have b3 : Bk A3 (w.heap.size + 1 + 1 + 1) 178 #[.slice (some ⟨w.heap.size + 1, 0, none⟩) 5 5] := hA3 ▸ Bk.newAt s2.symm _ _
  have hB3 : Below w.heap.size w A3 := hA3 ▸ hB2.alloc (by omega) _
  replace b0 := hA3 ▸ b0.alloc (.cells #[.slice (some ⟨w.heap.size + 1, 0, none⟩) 5 5] 178)
  replace b1 := hA3 ▸ b1.alloc (.cells #[.slice (some ⟨w.heap.size + 1, 0, none⟩) 5 5] 178)
  replace b2 := hA3 ▸ b2.alloc (.cells #[.slice (some ⟨w.heap.size + 1, 0, none⟩) 5 5] 178)
  rw [hA3]
  obtain ⟨A4, hA4⟩ : ∃ A4, A3.alloc (.cells #[.int .i64 0, .int .i64 (-1), .int .i64 0, .int .i64 0, .int .i64 0, .int .i64 0, .int .i64 0] 50) = A4 := ⟨_, rfl⟩
  have b4 : Bk A4 (w.heap.size + 1 + 1 + 1 + 1) 50 #[.int .i64 0, .int .i64 (-1), .int .i64 0, .int .i64 0, .int .i64 0, .int .i64 0, .int .i64 0] := hA4 ▸ Bk.newAt s3.symm _ _
  have hB4 : Below w.heap.size w A4 := hA4 ▸ hB3.alloc (by omega) _
  replace b0 := hA4 ▸ b0.alloc (.cells #[.int .i64 0, .int .i64 (-1), .int .i64 0, .int .i64 0, .int .i64 0, .int .i64 0, .int .i64 0] 50)
  replace b1 := hA4 ▸ b1.alloc (.cells #[.int .i64 0, .int .i64 (-1), .int .i64 0, .int .i64 0, .int .i64 0, .int .i64 0, .int .i64 0] 50)
  replace b2 := hA4 ▸ b2.alloc (.cells #[.int .i64 0, .int .i64 (-1), .int .i64 0, .int .i64 0, .int .i64 0, .int .i64 0, .int .i64 0] 50)
  replace b3 := hA4 ▸ b3.alloc (.cells #[.int .i64 0, .int .i64 (-1), .int .i64 0, .int .i64 0, .int .i64 0, .int .i64 0, .int .i64 0] 50)
  rw [hA4]
  clear hA0 hA1 hA2 hA3 hA4 s0 s1 s2 s3 hB0 hB1 hB2 hB3
  have t0 := b0.cell (i := 0) rfl
  have t1 := b0.cell (i := 1) rfl
  have t2 := b0.cell (i := 2) rfl
  have t3 := b0.cell (i := 3) rfl
  have t4 := b0.cell (i := 4) rfl
  have t5 := b0.cell (i := 5) rfl
  refine bodyPost_ret (v := .agg #[.int .i64 1, .int .i64 0, .slice (some ⟨w.heap.size + 1 + 1, 0, none⟩) 1 1, .slice (some ⟨w.heap.size + 1 + 1 + 1, 0, none⟩) 1 1, .slice (some ⟨w.heap.size + 1 + 1 + 1 + 1, 0, none⟩) 1 1, .int .i64 5]) (by simp [results, Tryz.results88, go_sem, t0, t1, t2, t3, t4, t5]) rfl ⟨_, rfl, ⟨_, _, _, rfl, ?_, ?_, ?_⟩, hB4⟩
  · refine ⟨_, 1, rfl, Nat.le_refl _, by unfold maxLen; omega, .inr ⟨_, 0, rfl, b2.lt, fun i hi => ?_⟩⟩
    obtain rfl : i = 0 := by simp [pingM] at hi; omega
    exact b2.cell rfl
  · refine ⟨_, 1, rfl, Nat.le_refl _, by unfold maxLen; omega, .inr ⟨_, 0, rfl, b3.lt, fun i hi => ?_⟩⟩
    obtain rfl : i = 0 := by simp [pingM] at hi; omega
    refine ⟨_, b3.cell rfl, _, 5, rfl, Nat.le_refl _, by unfold maxLen; omega, .inr ⟨_, 0, rfl, b1.lt, fun j hj => ?_⟩⟩
    have h5 : j = 0 ∨ j = 1 ∨ j = 2 ∨ j = 3 ∨ j = 4 := by simp [pingM, hAt] at hj; omega
    rcases h5 with rfl | rfl | rfl | rfl | rfl <;> exact ⟨b1.cell rfl, b1.cell rfl, b1.cell rfl, b1.cell rfl⟩
  · refine ⟨_, 1, rfl, Nat.le_refl _, by unfold maxLen; omega, .inr ⟨_, 0, rfl, b4.lt, fun i hi => ?_⟩⟩
    obtain rfl : i = 0 := by simp [pingM] at hi; omega
    exact ⟨b4.cell rfl, b4.cell rfl, b4.cell rfl, b4.cell rfl, b4.cell rfl, b4.cell rfl, b4.cell rfl⟩
end Go.Proofs.YtmpoffepoafblaaGreat

/- Heaps as plain lists: lifting and sinking leave a heap; what is popped first is ahead of all; what is popped one behind the other is in order; two orders of the same events are one. -/
namespace Go.Proofs.YtmpoffepoafblaaGreat

/- a is not behind b. -/
def Le (a b : Ev) : Prop := ¬ b.cmp a < 0
theorem Le.trans {a b c : Ev} (h : Le a b) (k : Le b c) : Le a c := cmp_neg k h
theorem Le.of_lt {a b : Ev} (h : a.cmp b < 0) : Le a b := cmp_asymm h
theorem Le.refl (a : Ev) : Le a a := fun h => cmp_asymm h h
theorem Le.lt {a b : Ev} (h : Le a b) (hg : a.g ≠ b.g) : a.cmp b < 0 := by
  unfold Le Ev.cmp at *
  rw [cmpI_lt] at *
  omega
def HeapW (l : List Ev) : Prop := ∀ i, 0 < i → i < l.length → Le (evAt l ((i - 1) / 2)) (evAt l i)
def Uni (l : List Ev) : Prop := ∀ i j, i < l.length → j < l.length → (evAt l i).g = (evAt l j).g → i = j

/- Lifting. -/
def UpAt (l : List Ev) (i : Nat) : Prop := (∀ j, 0 < j → j < l.length → j ≠ i → Le (evAt l ((j - 1) / 2)) (evAt l j)) ∧ (0 < i → ∀ j, 0 < j → j < l.length → (j - 1) / 2 = i → Le (evAt l ((i - 1) / 2)) (evAt l j))
theorem up_heap (l : List Ev) (i : Nat) (hi : i < l.length) (h : UpAt l i) : HeapW (upL l i) := by
  induction i using Nat.strongRecOn generalizing l with
  | _ i ih =>
    obtain ⟨h1, h2⟩ := h
    by_cases hc : 0 < i ∧ (evAt l i).cmp (evAt l ((i - 1) / 2)) < 0
    · rw [upL_go hc.1 hc.2]
      obtain ⟨h0, hlt⟩ := hc
      generalize hp : (i - 1) / 2 = p at hlt h2 ⊢
      have hpi : p < i := by omega
      have hsw : ∀ j, evAt (swp l i p) j = if p = j then evAt l i else if i = j then evAt l p else evAt l j := fun j => evAt_swp l i p j hi (by omega)
      refine ih p hpi _ (by rw [swp_length]; omega) ⟨fun j hj0 hj hjp => ?_, fun hp0 j hj0 hj hjp => ?_⟩
      · rw [swp_length] at hj
        by_cases hji : j = i
        · subst hji
          rw [hp, hsw p, if_pos rfl, hsw j, if_neg (by omega), if_pos rfl]
          exact Le.of_lt hlt
        · rw [hsw j, if_neg (by omega), if_neg (by omega)]
          by_cases hq : (j - 1) / 2 = p
          · rw [hq, hsw p, if_pos rfl]
            have := h1 j hj0 hj hji
            rw [hq] at this
            exact (Le.of_lt hlt).trans this
          · by_cases hq' : (j - 1) / 2 = i
            · rw [hq', hsw i, if_neg (by omega), if_pos rfl]
              exact h2 h0 j hj0 hj hq'
            · rw [hsw, if_neg (by omega), if_neg (by omega)]
              exact h1 j hj0 hj hji
      · rw [swp_length] at hj
        rw [hsw ((p - 1) / 2), if_neg (by omega), if_neg (by omega)]
        have hpp := h1 p hp0 (by omega) (by omega)
        by_cases hji : j = i
        · subst hji
          rw [hsw j, if_neg (by omega), if_pos rfl]
          exact hpp
        · rw [hsw j, if_neg (by omega), if_neg (by omega)]
          have := h1 j hj0 hj hji
          rw [hjp] at this
          exact hpp.trans this
    · rw [upL_stop hc]
      intro j hj0 hj
      by_cases hji : j = i
      · subst hji
        exact fun h => hc ⟨hj0, h⟩
      · exact h1 j hj0 hj hji
theorem push_heap {l : List Ev} {e : Ev} (h : HeapW l) : HeapW (pushL l e) := by
  unfold pushL
  refine up_heap _ _ (by simp) ⟨fun j hj0 hj hji => ?_, fun h0 j hj0 hj hji => ?_⟩
  · simp at hj
    rw [evAt_left _ _ _ (by omega), evAt_left _ _ _ (by omega)]
    exact h j hj0 (by omega)
  · simp at hj
    omega

/- Sinking. -/
theorem pick_min (l : List Ev) (n i : Nat) : (pickL l n i = i ∨ ((pickL l n i = 2 * i + 1 ∨ pickL l n i = 2 * i + 2) ∧ pickL l n i < n ∧ (evAt l (pickL l n i)).cmp (evAt l i) < 0)) ∧ ∀ j, (j = 2 * i + 1 ∨ j = 2 * i + 2) → j < n → Le (evAt l (pickL l n i)) (evAt l j) := by
  unfold pickL
  by_cases h1 : 2 * i + 1 < n ∧ (evAt l (2 * i + 1)).cmp (evAt l i) < 0
  · rw [if_pos h1]
    by_cases h2 : 2 * i + 2 < n ∧ (evAt l (2 * i + 2)).cmp (evAt l (2 * i + 1)) < 0
    · rw [if_pos h2]
      refine ⟨.inr ⟨.inr rfl, h2.1, cmp_trans h2.2 h1.2⟩, fun j hj hn => ?_⟩
      rcases hj with rfl | rfl
      · exact Le.of_lt h2.2
      · exact Le.refl _
    · rw [if_neg h2]
      refine ⟨.inr ⟨.inl rfl, h1.1, h1.2⟩, fun j hj hn => ?_⟩
      rcases hj with rfl | rfl
      · exact Le.refl _
      · exact fun h => h2 ⟨hn, h⟩
  · rw [if_neg h1]
    by_cases h2 : 2 * i + 2 < n ∧ (evAt l (2 * i + 2)).cmp (evAt l i) < 0
    · rw [if_pos h2]
      refine ⟨.inr ⟨.inr rfl, h2.1, h2.2⟩, fun j hj hn => ?_⟩
      rcases hj with rfl | rfl
      · exact (Le.of_lt h2.2).trans (fun h => h1 ⟨hn, h⟩)
      · exact Le.refl _
    · rw [if_neg h2]
      refine ⟨.inl rfl, fun j hj hn => ?_⟩
      rcases hj with rfl | rfl
      · exact fun h => h1 ⟨hn, h⟩
      · exact fun h => h2 ⟨hn, h⟩
def BothAt (l : List Ev) (i : Nat) : Prop := (∀ j, 0 < j → j < l.length → j ≠ i → (j - 1) / 2 ≠ i → Le (evAt l ((j - 1) / 2)) (evAt l j)) ∧ (0 < i → ∀ j, 0 < j → j < l.length → (j - 1) / 2 = i → Le (evAt l ((i - 1) / 2)) (evAt l j))
def DownAt (l : List Ev) (i : Nat) : Prop := (∀ j, 0 < j → j < l.length → (j - 1) / 2 ≠ i → Le (evAt l ((j - 1) / 2)) (evAt l j)) ∧ (0 < i → ∀ j, 0 < j → j < l.length → (j - 1) / 2 = i → Le (evAt l ((i - 1) / 2)) (evAt l j))
theorem DownAt.both {l : List Ev} {i : Nat} (h : DownAt l i) : BothAt l i := ⟨fun j h0 h1 _ h3 => h.1 j h0 h1 h3, h.2⟩
theorem both_go {l : List Ev} {i : Nat} (hi : i < l.length) (h : BothAt l i) (hk : pickL l l.length i ≠ i) : DownAt (swp l i (pickL l l.length i)) (pickL l l.length i) := by
  obtain ⟨h1, h2⟩ := h
  obtain ⟨hm1, hm2⟩ := pick_min l l.length i
  obtain ⟨hk2, hkn, hlt⟩ := hm1.resolve_left hk
  generalize pickL l l.length i = k at hk hk2 hkn hlt hm2 ⊢
  have hpk : (k - 1) / 2 = i := by omega
  have hsw : ∀ j, evAt (swp l i k) j = if k = j then evAt l i else if i = j then evAt l k else evAt l j := fun j => evAt_swp l i k j hi hkn
  refine ⟨fun j hj0 hj hjk => ?_, fun hk0 j hj0 hj hjk => ?_⟩
  · rw [swp_length] at hj
    by_cases hj1 : j = k
    · subst hj1
      rw [hpk, hsw i, if_neg (by omega), if_pos rfl, hsw j, if_pos rfl]
      exact Le.of_lt hlt
    · by_cases hj2 : j = i
      · subst hj2
        rw [hsw j, if_neg (by omega), if_pos rfl, hsw ((j - 1) / 2), if_neg (by omega), if_neg (by omega)]
        exact h2 hj0 k (by omega) hkn hpk
      · rw [hsw j, if_neg (by omega), if_neg (by omega)]
        by_cases hq : (j - 1) / 2 = i
        · rw [hq, hsw i, if_neg (by omega), if_pos rfl]
          exact hm2 j (by omega) hj
        · rw [hsw, if_neg (by omega), if_neg (by omega)]
          exact h1 j hj0 hj hj2 hq
  · rw [swp_length] at hj
    rw [hpk, hsw i, if_neg (by omega), if_pos rfl, hsw j, if_neg (by omega), if_neg (by omega)]
    have := h1 j hj0 hj (by omega) (by omega)
    rw [hjk] at this
    exact this
theorem down_heap (l : List Ev) (i : Nat) (hi : i < l.length) (h : DownAt l i) : HeapW (downL l l.length i) := by
  generalize hm : l.length - i = m
  induction m using Nat.strongRecOn generalizing l i with
  | _ m ih =>
    by_cases hk : pickL l l.length i = i
    · rw [downL_stop hk]
      have hm2 := (pick_min l l.length i).2
      rw [hk] at hm2
      intro j hj0 hj
      by_cases hq : (j - 1) / 2 = i
      · rw [hq]; exact hm2 j (by omega) hj
      · exact h.1 j hj0 hj hq
    · have hc := (pickL_cases l l.length i).resolve_left hk
      rw [downL_go hk]
      have h3 := ih (l.length - pickL l l.length i) (by omega) (swp l i (pickL l l.length i)) (pickL l l.length i) (by rw [swp_length]; exact hc.2) (both_go hi h.both hk) (by rw [swp_length])
      rw [swp_length] at h3
      exact h3
theorem cut_at (l : List Ev) (i j : Nat) (hi : i < l.length) (hj : j < l.length - 1) : evAt (cutL l i) j = if i = j then evAt l (l.length - 1) else evAt l j := by
  unfold cutL
  rw [evAt_take _ _ _ hj, evAt_set _ _ _ _ hi]
theorem cut_both {l : List Ev} {i : Nat} (h : HeapW l) (hi : i < l.length - 1) : BothAt (cutL l i) i := by
  have hc := cutL_length l i
  refine ⟨fun j hj0 hj hji hq => ?_, fun h0 j hj0 hj hq => ?_⟩
  · rw [hc] at hj
    rw [cut_at _ _ _ (by omega) (by omega), cut_at _ _ _ (by omega) hj, if_neg (by omega), if_neg (by omega)]
    exact h j hj0 (by omega)
  · rw [hc] at hj
    rw [cut_at _ _ _ (by omega) (by omega), cut_at _ _ _ (by omega) hj, if_neg (by omega), if_neg (by omega)]
    have a := h i h0 (by omega)
    have b := h j hj0 (by omega)
    rw [hq] at b
    exact a.trans b
theorem take_heap {l : List Ev} {i : Nat} (h : HeapW l) (hi : i < l.length) : HeapW (takeL l i) := by
  have hc := cutL_length l i
  unfold takeL
  by_cases h1 : i < l.length - 1
  · rw [if_pos h1]
    have hb := cut_both h h1
    rw [← hc] at h1 ⊢
    by_cases hk : pickL (cutL l i) (cutL l i).length i = i
    · rw [downL_stop hk]
      have hm2 := (pick_min (cutL l i) (cutL l i).length i).2
      rw [hk] at hm2
      refine up_heap _ _ h1 ⟨fun j hj0 hj hji => ?_, hb.2⟩
      by_cases hq : (j - 1) / 2 = i
      · rw [hq]; exact hm2 j (by omega) hj
      · exact hb.1 j hj0 hj hji hq
    · have hk2 := (pickL_cases (cutL l i) (cutL l i).length i).resolve_left hk
      have hd : HeapW (downL (cutL l i) (cutL l i).length i) := by
        rw [downL_go hk]
        have h3 := down_heap (swp (cutL l i) i (pickL (cutL l i) (cutL l i).length i)) (pickL (cutL l i) (cutL l i).length i) (by rw [swp_length]; exact hk2.2) (both_go h1 hb hk)
        rw [swp_length] at h3
        exact h3
      rw [upL_stop (fun hu => hd i hu.1 (by rw [downL_length]; exact h1) hu.2)]
      exact hd
  · rw [if_neg h1]
    intro j hj0 hj
    rw [hc] at hj
    rw [cut_at _ _ _ hi (by omega), cut_at _ _ _ hi hj, if_neg (by omega), if_neg (by omega)]
    exact h j hj0 (by omega)
/- The first one is ahead of all. -/
theorem heap_first {l : List Ev} (h : HeapW l) (i : Nat) (hi : i < l.length) : Le (evAt l 0) (evAt l i) := by
  induction i using Nat.strongRecOn with
  | _ i ih =>
    by_cases h0 : i = 0
    · subst h0; exact Le.refl _
    · exact (ih ((i - 1) / 2) (by omega) (by omega)).trans (h i (by omega) hi)
/- Tags that differ. -/
theorem uni_swp {l : List Ev} {i k : Nat} (hi : i < l.length) (hk : k < l.length) (h : Uni l) : Uni (swp l i k) := by
  intro a b ha hb hg
  rw [swp_length] at ha hb
  rw [evAt_swp _ _ _ _ hi hk, evAt_swp _ _ _ _ hi hk] at hg
  by_cases a1 : k = a
  · rw [if_pos a1] at hg
    by_cases b1 : k = b
    · omega
    · rw [if_neg b1] at hg
      by_cases b2 : i = b
      · rw [if_pos b2] at hg
        have := h _ _ hi hk hg
        omega
      · rw [if_neg b2] at hg
        have := h _ _ hi hb hg
        omega
  · rw [if_neg a1] at hg
    by_cases a2 : i = a
    · rw [if_pos a2] at hg
      by_cases b1 : k = b
      · rw [if_pos b1] at hg
        have := h _ _ hk hi hg
        omega
      · rw [if_neg b1] at hg
        by_cases b2 : i = b
        · omega
        · rw [if_neg b2] at hg
          have := h _ _ hk hb hg
          omega
    · rw [if_neg a2] at hg
      by_cases b1 : k = b
      · rw [if_pos b1] at hg
        have := h _ _ ha hi hg
        omega
      · rw [if_neg b1] at hg
        by_cases b2 : i = b
        · rw [if_pos b2] at hg
          have := h _ _ ha hk hg
          omega
        · rw [if_neg b2] at hg
          exact h _ _ ha hb hg
theorem uni_up {l : List Ev} {i : Nat} (hi : i < l.length) (h : Uni l) : Uni (upL l i) := by
  induction i using Nat.strongRecOn generalizing l with
  | _ i ih =>
    by_cases hc : 0 < i ∧ (evAt l i).cmp (evAt l ((i - 1) / 2)) < 0
    · rw [upL_go hc.1 hc.2]
      exact ih _ (by omega) (by rw [swp_length]; omega) (uni_swp hi (by omega) h)
    · rw [upL_stop hc]; exact h
theorem uni_down {l : List Ev} {n i : Nat} (hn : n ≤ l.length) (hi : i < n) (h : Uni l) : Uni (downL l n i) := by
  generalize hm : n - i = m
  induction m using Nat.strongRecOn generalizing l i with
  | _ m ih =>
    by_cases hk : pickL l n i = i
    · rw [downL_stop hk]; exact h
    · have hc := (pickL_cases l n i).resolve_left hk
      rw [downL_go hk]
      exact ih (n - pickL l n i) (by omega) (by rw [swp_length]; exact hn) hc.2 (uni_swp (by omega) (by omega) h) rfl
theorem uni_snoc {l : List Ev} {e : Ev} (h : Uni l) (he : ∀ j, j < l.length → (evAt l j).g ≠ e.g) : Uni (l ++ [e]) := by
  intro a b ha hb hg
  simp at ha hb
  by_cases a1 : a = l.length
  · by_cases b1 : b = l.length
    · omega
    · rw [a1, evAt_last, evAt_left _ _ _ (by omega)] at hg
      exact absurd hg.symm (he b (by omega))
  · by_cases b1 : b = l.length
    · rw [b1, evAt_last, evAt_left _ _ _ (by omega)] at hg
      exact absurd hg (he a (by omega))
    · rw [evAt_left _ _ _ (by omega), evAt_left _ _ _ (by omega)] at hg
      exact h a b (by omega) (by omega) hg
theorem uni_push {l : List Ev} {e : Ev} (h : Uni l) (he : ∀ j, j < l.length → (evAt l j).g ≠ e.g) : Uni (pushL l e) := uni_up (by simp) (uni_snoc h he)
theorem uni_cut {l : List Ev} {i : Nat} (hi : i < l.length) (h : Uni l) : Uni (cutL l i) := by
  intro a b ha hb hg
  rw [cutL_length] at ha hb
  rw [cut_at _ _ _ hi ha, cut_at _ _ _ hi hb] at hg
  by_cases a1 : i = a
  · rw [if_pos a1] at hg
    by_cases b1 : i = b
    · omega
    · rw [if_neg b1] at hg
      have := h _ _ (by omega) (by omega) hg
      omega
  · rw [if_neg a1] at hg
    by_cases b1 : i = b
    · rw [if_pos b1] at hg
      have := h _ _ (by omega) (by omega) hg
      omega
    · rw [if_neg b1] at hg
      exact h _ _ (by omega) (by omega) hg
theorem uni_take {l : List Ev} {i : Nat} (hi : i < l.length) (h : Uni l) : Uni (takeL l i) := by
  unfold takeL
  by_cases h1 : i < l.length - 1
  · rw [if_pos h1]
    exact uni_up (by rw [downL_length, cutL_length]; exact h1) (uni_down (by rw [cutL_length]; omega) h1 (uni_cut hi h))
  · rw [if_neg h1]; exact uni_cut hi h
/- What is there. -/
def InL (e : Ev) (l : List Ev) : Prop := ∃ j, j < l.length ∧ evAt l j = e
theorem inL_kept {e : Ev} {l : List Ev} : InL e l ↔ ¬ Kept (fun x => x ≠ e) l := by
  constructor
  · rintro ⟨j, hj, he⟩ h
    exact h j hj he
  · intro h
    refine Classical.byContradiction fun hn => h fun j hj he => hn ⟨j, hj, he⟩
theorem inL_push {e x : Ev} {l : List Ev} : InL e (pushL l x) ↔ InL e l ∨ e = x := by
  rw [inL_kept, kept_pushL, inL_kept]
  constructor
  · intro h
    by_cases h1 : Kept (fun y => y ≠ e) l
    · by_cases h2 : e = x
      · exact .inr h2
      · exact absurd ⟨h1, fun hh => h2 hh.symm⟩ h
    · exact .inl h1
  · rintro (h | h) ⟨h1, h2⟩
    · exact h h1
    · exact h2 h.symm
theorem inL_cut {e : Ev} {l : List Ev} {i : Nat} (hi : i < l.length) (h : Uni l) : InL e (cutL l i) ↔ InL e l ∧ e ≠ evAt l i := by
  constructor
  · rintro ⟨j, hj, he⟩
    rw [cutL_length] at hj
    rw [cut_at _ _ _ hi hj] at he
    by_cases h1 : i = j
    · rw [if_pos h1] at he
      exact ⟨⟨_, by omega, he⟩, fun hh => by
        have := h (l.length - 1) i (by omega) hi (by rw [he, hh])
        omega⟩
    · rw [if_neg h1] at he
      exact ⟨⟨j, by omega, he⟩, fun hh => h1 (h i j hi (by omega) (by rw [he, hh]))⟩
  · rintro ⟨⟨j, hj, he⟩, hne⟩
    have hji : i ≠ j := fun hh => hne (by rw [hh, he])
    by_cases h1 : j = l.length - 1
    · exact ⟨i, by rw [cutL_length]; omega, by rw [cut_at _ _ _ hi (by omega), if_pos rfl, ← h1, he]⟩
    · exact ⟨j, by rw [cutL_length]; omega, by rw [cut_at _ _ _ hi (by omega), if_neg hji, he]⟩
theorem inL_take {e : Ev} {l : List Ev} {i : Nat} (hi : i < l.length) (h : Uni l) : InL e (takeL l i) ↔ InL e l ∧ e ≠ evAt l i := by
  rw [← inL_cut hi h]
  unfold takeL
  by_cases h1 : i < l.length - 1
  · rw [if_pos h1, inL_kept, kept_upL (by rw [downL_length, cutL_length]; exact h1), kept_downL (by rw [cutL_length]; omega) h1, ← inL_kept]
  · rw [if_neg h1]
theorem take_first {l : List Ev} (h : HeapW l) (hu : Uni l) (h0 : 0 < l.length) (j : Nat) (hj : j < (takeL l 0).length) : (evAt l 0).cmp (evAt (takeL l 0) j) < 0 := by
  obtain ⟨⟨i, hi, he⟩, hne⟩ := (inL_take h0 hu).1 ⟨j, hj, rfl⟩
  have h1 := heap_first h i hi
  rw [he] at h1
  refine h1.lt fun hg => hne ?_
  rw [← he] at hg ⊢
  rw [hu 0 i h0 hi hg]
/- In order. -/
def Ord1 (l : List Ev) : Prop := ∀ i j, i < j → j < l.length → (evAt l i).cmp (evAt l j) < 0
theorem evAt_cons (e : Ev) (l : List Ev) (i : Nat) : evAt (e :: l) (i + 1) = evAt l i := by simp [evAt]
theorem evAt_head (e : Ev) (l : List Ev) : evAt (e :: l) 0 = e := by simp [evAt]
theorem inL_cons {e x : Ev} {l : List Ev} : InL e (x :: l) ↔ e = x ∨ InL e l := by
  constructor
  · rintro ⟨j, hj, he⟩
    cases j with
    | zero => rw [evAt_head] at he; exact .inl he.symm
    | succ j => rw [evAt_cons] at he; exact .inr ⟨j, by simpa using hj, he⟩
  · rintro (rfl | ⟨j, hj, he⟩)
    · exact ⟨0, by simp, evAt_head _ _⟩
    · exact ⟨j + 1, by simpa using hj, by rw [evAt_cons]; exact he⟩
theorem ord_cons {x : Ev} {l : List Ev} : Ord1 (x :: l) ↔ (∀ j, j < l.length → x.cmp (evAt l j) < 0) ∧ Ord1 l := by
  constructor
  · intro h
    refine ⟨fun j hj => ?_, fun i j hij hj => ?_⟩
    · have := h 0 (j + 1) (by omega) (by simpa using hj)
      rwa [evAt_head, evAt_cons] at this
    · have := h (i + 1) (j + 1) (by omega) (by simpa using hj)
      rwa [evAt_cons, evAt_cons] at this
  · rintro ⟨h1, h2⟩ i j hij hj
    cases j with
    | zero => omega
    | succ j =>
      rw [evAt_cons]
      cases i with
      | zero => rw [evAt_head]; exact h1 j (by simpa using hj)
      | succ i => rw [evAt_cons]; exact h2 i j (by omega) (by simpa using hj)
theorem ord_same : ∀ (s t : List Ev), Ord1 s → Ord1 t → (∀ e, InL e s ↔ InL e t) → s = t
  | [], [], _, _, _ => rfl
  | [], b :: t, _, _, h => by
    obtain ⟨j, hj, _⟩ := (h b).2 ⟨0, by simp, evAt_head _ _⟩
    simp at hj
  | a :: s, [], _, _, h => by
    obtain ⟨j, hj, _⟩ := (h a).1 ⟨0, by simp, evAt_head _ _⟩
    simp at hj
  | a :: s, b :: t, hs, ht, h => by
    obtain ⟨hs1, hs2⟩ := ord_cons.1 hs
    obtain ⟨ht1, ht2⟩ := ord_cons.1 ht
    have hab : a = b := by
      rcases inL_cons.1 ((h a).1 (inL_cons.2 (.inl rfl))) with h1 | ⟨i, hi, h1⟩
      · exact h1
      · rcases inL_cons.1 ((h b).2 (inL_cons.2 (.inl rfl))) with h2 | ⟨j, hj, h2⟩
        · exact h2.symm
        · have a1 := ht1 i hi
          have a2 := hs1 j hj
          rw [h1] at a1
          rw [h2] at a2
          exact absurd a1 (cmp_asymm a2)
    subst hab
    have hir : ∀ x : Ev, ¬ x.cmp x < 0 := fun x hx => cmp_asymm hx hx
    rw [ord_same s t hs2 ht2 fun e => ?_]
    constructor
    · intro he
      rcases inL_cons.1 ((h e).1 (inL_cons.2 (.inr he))) with h1 | h1
      · obtain ⟨i, hi, h2⟩ := he
        have := hs1 i hi
        rw [h2, h1] at this
        exact absurd this (hir _)
      · exact h1
    · intro he
      rcases inL_cons.1 ((h e).2 (inL_cons.2 (.inr he))) with h1 | h1
      · obtain ⟨i, hi, h2⟩ := he
        have := ht1 i hi
        rw [h2, h1] at this
        exact absurd this (hir _)
      · exact h1
end Go.Proofs.YtmpoffepoafblaaGreat

/- toOp, toOpS: ops that are copied into a row of one's own. -/
namespace Go.Proofs.YtmpoffepoafblaaGreat
open Go.RowKit
set_option maxHeartbeats 400000 in
theorem toOp_any (c a b k : Int) (w : World) :
    Calls Tryz.prog 203 #[.agg #[.int .i64 c, .int .i64 a, .int .i64 b, .int .i64 k]] w fun e w' =>
      e = .returned (.agg #[.int .i64 c, .int .i64 a, .int .i64 b, .int .i64 k]) ∧ Below w.heap.size w w' := by
  go_enter Tryz.func203, Tryz.ntmps203
  go_wp2
  exact bodyPost_ret (v := .agg #[.int .i64 c, .int .i64 a, .int .i64 b, .int .i64 k]) (by simp [results, Tryz.results203, go_sem]) rfl
    ⟨rfl, (((Below.refl _ _).alloc (Nat.le_refl _) _).alloc (by simp) _).alloc (by simp; omega) _⟩
/- As far as k the block g holds the ops of l; all n rows of four cells may be written. -/
def FillO (w : World) (g n : Nat) (l : List O) (k : Nat) : Prop := g < w.heap.size ∧ (∀ j, j < n * 4 → (w.cell? ⟨g, j, none⟩).isSome = true ∧ w.frozen? ⟨g, j, none⟩ = false) ∧ ∀ i, i < k → OAt w g (i * 4) (oAt l i)
theorem FillO.made {B : Nat} {w1 : World} {z : List Value} {n : Nat} {l : List O} (h : w1.ownsRow B 181 4 (.slice (some ⟨B, 0, none⟩) n n) n z) : FillO w1 B n l 0 := by
  obtain ⟨hl, h | ⟨g, cap, cur, e, hg, hc, h1, h2, h3, h4⟩⟩ := h
  · simp at h
  · simp at e
    obtain ⟨rfl, rfl⟩ := e
    have hlt : B < w1.heap.size := (Array.getElem?_eq_some_iff.1 hc).1
    refine ⟨hlt, fun j hj => ?_, fun i hi => by omega⟩
    simp [World.cell?, World.frozen?, hc, h3, hj]
theorem FillO.below {w w' : World} {B g n k : Nat} {l : List O} (h : FillO w g n l k) (hb : Below B w w') (hB : g < B) : FillO w' g n l k :=
  ⟨Nat.lt_of_lt_of_le h.1 hb.size, fun j hj => by rw [hb.cell (p := ⟨g, j, none⟩) hB, hb.frozen (p := ⟨g, j, none⟩) hB]; exact h.2.1 j hj, fun i hi => (h.2.2 i hi).below hb hB⟩
abbrev putO (w : World) (g o : Nat) (e : O) : World :=
  (((w.setCell ⟨g, o, none⟩ (.int .i64 e.c)).setCell ⟨g, o + 1, none⟩ (.int .i64 e.a)).setCell ⟨g, o + 2, none⟩ (.int .i64 e.b)).setCell ⟨g, o + 3, none⟩ (.int .i64 e.k)
theorem putO_eq (w : World) (g o : Nat) (e : O) : putO w g o e = w.setCells g o [.int .i64 e.c, .int .i64 e.a, .int .i64 e.b, .int .i64 e.k] := rfl
theorem putO_in {w : World} {g o : Nat} (e : O) (h : ∀ j, j < 4 → (w.cell? ⟨g, o + j, none⟩).isSome = true) : OAt (putO w g o e) g o e := by
  rw [putO_eq]
  have hin := World.cell?_setCells_in g [.int .i64 e.c, .int .i64 e.a, .int .i64 e.b, .int .i64 e.k] o w (by simpa using h)
  exact ⟨hin 0 (by simp), hin 1 (by simp), hin 2 (by simp), hin 3 (by simp)⟩
theorem putO_out {w : World} {g o : Nat} (e : O) {b p : Nat} (h : b = g → p < o ∨ o + 4 ≤ p) : (putO w g o e).cell? ⟨b, p, none⟩ = w.cell? ⟨b, p, none⟩ := by
  rw [putO_eq]
  exact World.cell?_setCells_out g _ o w ⟨b, p, none⟩ (fun hb _ => by simpa using h hb)
theorem putO_oAt {w : World} {g o b p : Nat} (e e' : O) (h : OAt w b p e') (hd : b = g → p + 4 ≤ o ∨ o + 4 ≤ p) : OAt (putO w g o e) b p e' := by
  have h0 := fun j (_ : j < 4) => putO_out (w := w) (g := g) (o := o) e (b := b) (p := p + j) (fun hb => by have := hd hb; omega)
  exact ⟨(h0 0 (by omega)).trans h.f0, (h0 1 (by omega)).trans h.f1, (h0 2 (by omega)).trans h.f2, (h0 3 (by omega)).trans h.f3⟩
theorem putO_some {w : World} {g o : Nat} (e : O) (h : ∀ j, j < 4 → (w.cell? ⟨g, o + j, none⟩).isSome = true) {p : Nat} (hp : (w.cell? ⟨g, p, none⟩).isSome = true) : ((putO w g o e).cell? ⟨g, p, none⟩).isSome = true := by
  by_cases hr : p < o ∨ o + 4 ≤ p
  · rw [putO_out e (fun _ => hr)]; exact hp
  · obtain ⟨j, rfl⟩ : ∃ j, p = o + j := ⟨p - o, by omega⟩
    rw [putO_eq, World.cell?_setCells_in g _ o w (by simpa using h) j (by simp; omega)]
    rfl
theorem putO_frozen (w : World) (g o : Nat) (e : O) (a : Addr) : (putO w g o e).frozen? a = w.frozen? a := by rw [putO_eq]; exact World.frozen?_setCells _ _ _ _ _
theorem putO_size (w : World) (g o : Nat) (e : O) : (putO w g o e).heap.size = w.heap.size := by simp
theorem putO_below {B : Nat} {a w : World} (h : Below B a w) {g : Nat} (hg : B ≤ g) (o : Nat) (e : O) : Below B a (putO w g o e) :=
  (((h.setCell (p := ⟨g, o, none⟩) hg _).setCell (p := ⟨g, o + 1, none⟩) hg _).setCell (p := ⟨g, o + 2, none⟩) hg _).setCell (p := ⟨g, o + 3, none⟩) hg _
theorem FillO.put {w : World} {g n k : Nat} {l : List O} (h : FillO w g n l k) (hk : k < n) : FillO (putO w g (k * 4) (oAt l k)) g n l (k + 1) := by
  obtain ⟨h1, h2, h3⟩ := h
  have hs : ∀ j, j < 4 → (w.cell? ⟨g, k * 4 + j, none⟩).isSome = true := fun j hj => (h2 _ (by omega)).1
  refine ⟨by rw [putO_size]; exact h1, fun j hj => ⟨putO_some _ hs (h2 j hj).1, by rw [putO_frozen]; exact (h2 j hj).2⟩, fun i hi => ?_⟩
  by_cases e : i = k
  · subst e; exact putO_in _ hs
  · exact putO_oAt _ _ (h3 i (by omega)) (fun _ => by omega)
theorem FillO.cells {w : World} {g n k : Nat} {l : List O} (h : FillO w g n l k) {i : Nat} (hi : i < n) : ∃ c0 c1 c2 c3, (w.cell? ⟨g, i * 4, none⟩ = some c0 ∧ w.cell? ⟨g, i * 4 + 1, none⟩ = some c1 ∧ w.cell? ⟨g, i * 4 + 2, none⟩ = some c2 ∧ w.cell? ⟨g, i * 4 + 3, none⟩ = some c3) ∧
    (w.frozen? ⟨g, i * 4, none⟩ = false ∧ w.frozen? ⟨g, i * 4 + 1, none⟩ = false ∧ w.frozen? ⟨g, i * 4 + 2, none⟩ = false ∧ w.frozen? ⟨g, i * 4 + 3, none⟩ = false) := by
  have hh : ∀ j, j < 4 → (∃ c, w.cell? ⟨g, i * 4 + j, none⟩ = some c) ∧ w.frozen? ⟨g, i * 4 + j, none⟩ = false := fun j hj => ⟨Option.isSome_iff_exists.1 (h.2.1 _ (by omega)).1, (h.2.1 _ (by omega)).2⟩
  obtain ⟨⟨c0, g0⟩, z0⟩ := hh 0 (by omega)
  obtain ⟨⟨c1, g1⟩, z1⟩ := hh 1 (by omega)
  obtain ⟨⟨c2, g2⟩, z2⟩ := hh 2 (by omega)
  obtain ⟨⟨c3, g3⟩, z3⟩ := hh 3 (by omega)
  exact ⟨c0, c1, c2, c3, ⟨g0, g1, g2, g3⟩, ⟨z0, z1, z2, z3⟩⟩
theorem OAt.get {w : World} {b o : Nat} {e : O} (h : OAt w b o e) {r : Nat} (hr : r < 4) : w.cell? ⟨b, o + r, none⟩ = e.cs[r]? := by
  have h4 : r = 0 ∨ r = 1 ∨ r = 2 ∨ r = 3 := by omega
  rcases h4 with rfl | rfl | rfl | rfl
  · exact h.f0
  · exact h.f1
  · exact h.f2
  · exact h.f3
theorem FillO.row {w : World} {g : Nat} {l : List O} (h : FillO w g l.length l l.length) (hl : l.length ≤ maxLen) : RowF (fun k => k = g) w (sl g l.length) l.length 4 (cellsO l) := by
  refine ⟨cellsO_length l, _, _, rfl, Nat.le_refl _, hl, .inr ⟨g, rfl, rfl, h.1, fun j hj => ⟨?_, (h.2.1 j hj).2⟩⟩⟩
  have hi : j / 4 < l.length := by omega
  have h1 := (h.2.2 _ hi).get (r := j % 4) (by omega)
  rw [← cellsO_get l _ _ hi (by omega)] at h1
  rw [show j = j / 4 * 4 + j % 4 from by omega]
  exact h1
theorem infoOp : (Tryz.prog.info? 181).map (fun i => (i.zero, i.size, i.bytes)) = some (some (.agg #[.int .i64 0, .int .i64 0, .int .i64 0, .int .i64 0]), 4, 32) := by kernel_rfl
set_option maxHeartbeats 1000000 in
theorem toOpS_any (x : Value) (l : List O) (w : World) (hl : l.length ≤ 1048576) (h : IsO w x l) :
    Calls Tryz.prog 145 #[x] w fun e w' => e = .returned (sl w.heap.size l.length) ∧ Below w.heap.size w w' ∧ FillO w' w.heap.size l.length l l.length := by
  obtain ⟨a, cap, rfl, h1, h2, h⟩ := h
  rcases h with rfl | ⟨b, off, rfl, hb, h⟩
  · obtain ⟨i0, hi, hz0, hz1, hz2⟩ := info_parts infoOp
    go_enter Tryz.func145, Tryz.ntmps145
    go_wp2_with (at_make; refine wpList_make_full _ rfl _ _ 178 rfl w.heap.size 181 i0 _ 4 Tryz.underlying178 hi hz0 hz1 .i64 .i64 0 0 0 rfl rfl rfl rfl (by rw [hz2]; omega) (by unfold maxLen; omega) (Nat.le_refl _) ?_; intro w1 hown hgrow)
    have hB1 : Below w.heap.size w w1 := (Below.refl _ _).grown hgrow (Nat.le_refl _) (fun k e => by cases e)
    have hR1 : FillO w1 w.heap.size 0 [] 0 := FillO.made hown
    clear hown hgrow hi hz0 hz1 hz2
    go_loop [4] (fun i => i = .int .i64 0) (fun _ => 0)
    case atStart => rfl
    case round =>
      subst hrel
      go_wp2
      go_ret
      exact ⟨rfl, hB1, hR1⟩
  · have hp : (0 : Int) ≤ (l.length : Int) := by omega
    obtain ⟨i0, hi, hz0, hz1, hz2⟩ := info_parts infoOp
    go_enter Tryz.func145, Tryz.ntmps145
    go_wp2_with (at_make; refine wpList_make_full _ rfl _ _ 178 rfl w.heap.size 181 i0 _ 4 Tryz.underlying178 hi hz0 hz1 .i64 .i64 l.length l.length l.length rfl rfl rfl rfl (by rw [hz2]; omega) (by unfold maxLen; omega) (Nat.le_refl _) ?_; intro w1 hown hgrow)
    have hB1 : Below w.heap.size w w1 := (Below.refl _ _).grown hgrow (Nat.le_refl _) (fun k e => by cases e)
    have hR1 : FillO w1 w.heap.size l.length l 0 := FillO.made hown
    clear hown hgrow hi hz0 hz1 hz2
    go_loopw [4] (fun i wr => ∃ k : Nat, k ≤ l.length ∧ i = .int .i64 k ∧ Below w.heap.size w wr ∧ FillO wr w.heap.size l.length l k) (fun i _ => l.length - (intOf i).toNat)
    case atStart => exact ⟨0, Nat.zero_le _, rfl, hB1, hR1⟩
    case round =>
      obtain ⟨k, hk, rfl, hB, hR⟩ := hrel
      have HB : Hid (Below w.heap.size w wr) := hB
      have HR : Hid (FillO wr w.heap.size l.length l k) := hR
      by_cases hlt : k < l.length
      · obtain ⟨f0, f1, f2, f3⟩ := (h k hlt).below hB hb
        clear hB hR hB1 hR1 h
        have hg : w.heap.size < wr.heap.size := HR.out.1
        go_wp2_with (go_at_call 203; refine (toOp_any _ _ _ _ _).mono ?_; rintro e w2 ⟨rfl, hb2⟩; have HR2 : Hid (FillO w2 w.heap.size l.length l k) := HR.out.below hb2 hg; obtain ⟨c0, c1, c2, c3, ⟨g0, g1, g2, g3⟩, ⟨z0, z1, z2, z3⟩⟩ := HR2.out.cells hlt)
        go_roundw
        case rel => exact ⟨k + 1, by omega, by go_num, putO_below (HB.out.trans (hb2.mono (by omega))) (Nat.le_refl _) _ _, HR2.out.put hlt⟩
        case measure => simp [intOf]; omega
      · clear hB hR hB1 hR1 h
        go_wp2
        go_ret
        obtain rfl : k = l.length := by omega
        exact ⟨rfl, HB.out, HR.out⟩
end Go.Proofs.YtmpoffepoafblaaGreat

