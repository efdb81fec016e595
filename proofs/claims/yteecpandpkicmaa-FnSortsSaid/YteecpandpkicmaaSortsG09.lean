/- CmpI, Differ, Has -/
import Derived.Test.YteecpandpkicmaaSortsG05
import Derived.Test.YteecpandpkicmaaSortsG08
import Derived.Test.YteecpandpkicmaaSortsG01
import Derived.Deep.RegionHeld3
import Derived.Deep.DeepMust
import Derived.Maps.OwnSet
/- The program's EventCmp. -/
namespace Go.Proofs.Yteecpandpkicmaa
open Go.RowKit
theorem num_zero (a b : Int) : num a b = 0 ↔ a = b := by unfold num; split <;> (try split) <;> omega
theorem orL_cmp (t s q g t' s' q' g' : Int) : orL [num t t', num s s', num q q', num g g'] = cmpI t s q g t' s' q' g' := by
  unfold cmpI
  by_cases h1 : t = t'
  · by_cases h2 : s = s'
    · by_cases h3 : q = q'
      · by_cases h4 : g = g' <;> simp [orL, num_zero, h1, h2, h3, h4]
        · exact ((num_zero _ _).2 rfl).symm
      · simp [orL, num_zero, h1, h2, h3]
    · simp [orL, num_zero, h1, h2]
  · simp [orL, num_zero, h1]

theorem iOk_is (t s q d k v g : Int) (b : Bool) (h : okB t s q d k v g = b) (w : World) :
    Calls Try.prog 28 #[.agg #[.int .i64 t, .int .i64 s, .int .i64 q, .int .i64 d, .int .i64 k, .int .i64 v, .int .i64 g]] w fun e w' => e = .returned (.bool b) ∧ Below w.heap.size w w' := by
  subst h; exact iOk_any t s q d k v g w

set_option maxHeartbeats 2000000 in
theorem iCmp_any (t s q d k v g t' s' q' d' k' v' g' : Int) (w : World) :
    Calls Try.prog 12 #[.agg #[.int .i64 t, .int .i64 s, .int .i64 q, .int .i64 d, .int .i64 k, .int .i64 v, .int .i64 g], .agg #[.int .i64 t', .int .i64 s', .int .i64 q', .int .i64 d', .int .i64 k', .int .i64 v', .int .i64 g']] w fun e w' =>
      e = .returned (.int .i64 (ecmp t s q d k v g t' s' q' d' k' v' g')) ∧ Below w.heap.size w w' := by
  cases h1 : okB t s q d k v g
  · have H1 : Hid (okB t s q d k v g = false) := h1
    clear h1
    go_enter Try.func12, Try.ntmps12
    go_wp2_with fail
    refine (iOk_is t s q d k v g false H1.out _).mono ?_
    rintro e w1 ⟨rfl, hb1⟩
    go_wp2_with fail
    go_ret
    exact ⟨ret_int (by simp [ecmp, H1.out]), (((Below.refl _ _).alloc (Nat.le_refl _) _).alloc (by simp) _).trans (hb1.mono (by simp; omega))⟩
  · have H1 : Hid (okB t s q d k v g = true) := h1
    clear h1
    cases h2 : okB t' s' q' d' k' v' g'
    · have H2 : Hid (okB t' s' q' d' k' v' g' = false) := h2
      clear h2
      go_enter Try.func12, Try.ntmps12
      go_wp2_with fail
      refine (iOk_is t s q d k v g true H1.out _).mono ?_
      rintro e w1 ⟨rfl, hb1⟩
      obtain ⟨hc, hf⟩ := bcell hb1
      go_wp2_with fail
      refine (iOk_is t' s' q' d' k' v' g' false H2.out _).mono ?_
      rintro e w2 ⟨rfl, hb2⟩
      go_wp2_with fail
      go_ret
      exact ⟨ret_int (by simp [ecmp, H1.out, H2.out]), ((((Below.refl _ _).alloc (Nat.le_refl _) _).alloc (by simp) _).trans (hb1.mono (by simp; omega))).trans (hb2.mono (by have := hb1.size; simp at this; omega))⟩
    · have H2 : Hid (okB t' s' q' d' k' v' g' = true) := h2
      clear h2
      go_enter Try.func12, Try.ntmps12
      go_wp2_with fail
      refine (iOk_is t s q d k v g true H1.out _).mono ?_
      rintro e w1 ⟨rfl, hb1⟩
      obtain ⟨hc, hf⟩ := bcell hb1
      go_wp2_with fail
      refine (iOk_is t' s' q' d' k' v' g' true H2.out _).mono ?_
      rintro e w2 ⟨rfl, hb2⟩
      have hz1 : w.heap.size + 1 < w1.heap.size := by have := hb1.size; simp at this; omega
      have hz2 : w.heap.size + 1 < w2.heap.size := by have := hb2.size; omega
      obtain ⟨hc2, hf2⟩ := bcell hb2
      have f0 : w2.cell? ⟨w.heap.size, 0, none⟩ = some (.int .i64 t) := by rw [hc2 _ _ (by omega), hc _ _ (by simp; omega)]; simp
      have f1 : w2.cell? ⟨w.heap.size, 1, none⟩ = some (.int .i64 s) := by rw [hc2 _ _ (by omega), hc _ _ (by simp; omega)]; simp
      have f2 : w2.cell? ⟨w.heap.size, 2, none⟩ = some (.int .i64 q) := by rw [hc2 _ _ (by omega), hc _ _ (by simp; omega)]; simp
      have f6 : w2.cell? ⟨w.heap.size, 6, none⟩ = some (.int .i64 g) := by rw [hc2 _ _ (by omega), hc _ _ (by simp; omega)]; simp
      have e0 : w2.cell? ⟨w.heap.size + 1, 0, none⟩ = some (.int .i64 t') := by rw [hc2 _ _ (by omega), hc _ _ (by simp)]; simp
      have e1 : w2.cell? ⟨w.heap.size + 1, 1, none⟩ = some (.int .i64 s') := by rw [hc2 _ _ (by omega), hc _ _ (by simp)]; simp
      have e2 : w2.cell? ⟨w.heap.size + 1, 2, none⟩ = some (.int .i64 q') := by rw [hc2 _ _ (by omega), hc _ _ (by simp)]; simp
      have e6 : w2.cell? ⟨w.heap.size + 1, 6, none⟩ = some (.int .i64 g') := by rw [hc2 _ _ (by omega), hc _ _ (by simp)]; simp
      have hB : Below w.heap.size w w2 := ((((Below.refl _ _).alloc (Nat.le_refl _) _).alloc (by simp) _).trans (hb1.mono (by simp; omega))).trans (hb2.mono (by omega))
      clear hc hf hc2 hf2 hb1 hb2 hz1
      go_wp2_with fail
      go_region_held3 (fun W => W.cell? ⟨w.heap.size, 0, none⟩ = some (.int .i64 t) ∧ W.cell? ⟨w.heap.size, 1, none⟩ = some (.int .i64 s) ∧ W.cell? ⟨w.heap.size, 2, none⟩ = some (.int .i64 q) ∧ W.cell? ⟨w.heap.size, 6, none⟩ = some (.int .i64 g) ∧ W.cell? ⟨w.heap.size + 1, 0, none⟩ = some (.int .i64 t') ∧ W.cell? ⟨w.heap.size + 1, 1, none⟩ = some (.int .i64 s') ∧ W.cell? ⟨w.heap.size + 1, 2, none⟩ = some (.int .i64 q') ∧ W.cell? ⟨w.heap.size + 1, 6, none⟩ = some (.int .i64 g')) (go_keep)
        (first
          | (go_at_call 35; refine (compare_any _ _ _).mono ?_; rintro e w' ⟨rfl, rfl⟩)
          | (go_at_call 34; refine (or_any _ _ [num t t', num s s', num q q', num g g'] _ ?_ ?_).mono ?_; (simp [maxLen]); (intro i hi; have h4 : i = 0 ∨ i = 1 ∨ i = 2 ∨ i = 3 := (by simp at hi; omega); rcases h4 with rfl | rfl | rfl | rfl <;> simp); rintro e w' ⟨rfl, rfl⟩))
      go_wp2
      go_ret
      exact ⟨ret_int (by rw [orL_cmp]; simp [ecmp, H1.out, H2.out]), hB.drew.alloc (by simp; omega) _⟩
end Go.Proofs.Yteecpandpkicmaa

/- The program's tagsDiffer. -/
namespace Go.Proofs.Yteecpandpkicmaa
open Go.RowKit Go.Maps Go.WideShapes

theorem finRange_all (n : Nat) : (List.finRange n).take n = List.finRange n := List.take_of_length_le (by simp)
set_option maxHeartbeats 1000000 in
theorem tagsDiffer_any (a : Option Addr) (cap b : Nat) (l : List Ev) (w : World) (hl : l.length ≤ 1048576) (hI : l = [] ∨ ∃ off, a = some ⟨b, off, none⟩ ∧ EvsAt w b off l) (hb : b < w.heap.size) (hwf : ∀ i, i < l.length → wfI (evAt l i).g) :
    Calls Try.prog 38 #[.slice a l.length cap] w fun e w' => Says e (∀ i, i < l.length → ∀ j, j < i → (evAt l j).g ≠ (evAt l i).g) ∧ Below w.heap.size w w' := by
  have HP : Hid (PlacesAt l l.length) := placesAt l hwf l.length (Nat.le_refl _)
  have HC := places_any (H := Unit) a cap b l w hl hI hb hwf
  have HC' : Hid (Calls Try.prog 29 #[.slice a l.length cap] w fun e W' => e = .returned (.map (some w.heap.size)) ∧ W'.ownsMap Try.prog 25 (plainElem (H := Unit) Try.prog 3) w.heap.size l.length (placesD l (List.finRange l.length)) ∧ Below w.heap.size w W') := HC
  clear HC hI hwf
  go_enter Try.func38, Try.ntmps38
  go_wp2_with fail
  refine HC'.out.mono ?_
  rintro e w1 ⟨rfl, hown, hb1⟩
  have hD := placesD_isMap l l.length (Nat.le_refl _)
  rw [finRange_all] at hD
  have hrun := hown.len Try.underlying51 3
  rw [hD] at hrun
  have hm : (Maps.size (.map (placesE l l.length) : DataW Unit) : Int) = ((placesE l l.length).length : Int) := rfl
  rw [hm] at hrun
  generalize hn : (placesE l l.length).length = n at hrun
  have HN : Hid ((placesE l l.length).length = n) := hn
  clear hown hD hn hm
  go_wp2
  go_ret
  refine ⟨?_, hb1⟩
  have hiff := HP.out.iff
  rw [HN.out] at hiff
  refine ⟨_, rfl, ?_⟩
  rw [← hiff]
  simp
  omega

theorem okB_tag {t s q d k v g : Int} (h : okB t s q d k v g = true) : wfI g := by
  simp only [okB, decide_eq_true_eq] at h
  exact WalkArith.wf_i64 (by omega)
theorem IsEvs.parts {w : World} {x : Value} {l : List Ev} (h : IsEvs w x l) (hw : 0 < w.heap.size) : ∃ a cap b, x = .slice a l.length cap ∧ b < w.heap.size ∧ (l = [] ∨ ∃ off, a = some ⟨b, off, none⟩ ∧ EvsAt w b off l) := by
  obtain ⟨a, cap, rfl, _, _, h⟩ := h
  rcases h with h | ⟨b, off, rfl, h⟩
  · exact ⟨a, cap, 0, rfl, hw, .inl h⟩
  · exact ⟨_, cap, b, rfl, h.1, .inr ⟨off, rfl, h⟩⟩
theorem parts_below {w w' : World} {a : Option Addr} {b : Nat} {l : List Ev} (h : l = [] ∨ ∃ off, a = some ⟨b, off, none⟩ ∧ EvsAt w b off l) (hb : b < w.heap.size) (hB : Below w.heap.size w w') : l = [] ∨ ∃ off, a = some ⟨b, off, none⟩ ∧ EvsAt w' b off l :=
  h.imp id (fun ⟨off, e, h⟩ => ⟨off, e, h.below hB hb⟩)

end Go.Proofs.Yteecpandpkicmaa

/- What the map from tags to places has. -/
namespace Go.Proofs.Yteecpandpkicmaa
open Go.RowKit Go.Maps Go.WideShapes

theorem has_no {l : List Ev} {tag : Int} (hw : ∀ i, i < l.length → wfI (evAt l i).g) (ht : wfI tag) (h : NoTag l tag) : Maps.has (placesD (H := Unit) l (List.finRange l.length)) (keyL tag) = false := by
  have hD := placesD_isMap l l.length (Nat.le_refl _)
  rw [finRange_all] at hD
  rw [hD]
  unfold Maps.has
  simp only [List.any_eq_false]
  intro p hp
  obtain ⟨i, hi, rfl, _⟩ := (placesAt l hw l.length (Nat.le_refl _)).ent p hp
  rw [sameKey_keyL (hw i hi) ht]
  simpa using h i hi
theorem has_yes {l : List Ev} {tag : Int} {i : Nat} (hw : ∀ i, i < l.length → wfI (evAt l i).g) (ht : wfI tag) (hd : ∀ i, i < l.length → ∀ j, j < i → (evAt l j).g ≠ (evAt l i).g) (h : FirstAt l tag i) :
    Maps.has (placesD (H := Unit) l (List.finRange l.length)) (keyL tag) = true ∧ ∀ c : Int, (placesD (H := Unit) l (List.finRange l.length)).atKey (keyL tag) (.lit (.int .i64 0)) = .lit (.int .i64 c) → c = (i : Int) := by
  have hD := placesD_isMap l l.length (Nat.le_refl _)
  rw [finRange_all] at hD
  rw [hD]
  have P := placesAt l hw l.length (Nat.le_refl _)
  obtain ⟨hi, hg, _⟩ := h
  obtain ⟨p, hp, he⟩ := P.has i hi
  have hs : p.1.sameKey (keyL tag) = true := by rw [he, sameKey_keyL (hw i hi) ht]; simpa using hg
  refine ⟨?_, ?_⟩
  · unfold Maps.has
    simp only [List.any_eq_true]
    exact ⟨p, hp, hs⟩
  · intro c hc
    simp only [DataW.atKey] at hc
    cases hf : (placesE l l.length).find? (fun p => p.1.sameKey (keyL tag)) with
    | none => exact absurd hs (by simpa using List.find?_eq_none.1 hf p hp)
    | some q =>
      rw [hf] at hc
      have hq := List.find?_some hf
      obtain ⟨j, hj, rfl, _⟩ := P.ent q (List.mem_of_find?_eq_some hf)
      simp only [sameKey_keyL (hw j hj) ht, decide_eq_true_eq] at hq
      have hij : j = i := by
        rcases Nat.lt_trichotomy j i with h1 | h1 | h1
        · exact absurd (hq.trans hg.symm) (hd i hi j h1)
        · exact h1
        · exact absurd (hg.trans hq.symm) (hd j hj i h1)
      simp only [litI] at hc
      injection hc with h1
      injection h1 with _ h2
      rw [← h2, hij]

end Go.Proofs.Yteecpandpkicmaa

