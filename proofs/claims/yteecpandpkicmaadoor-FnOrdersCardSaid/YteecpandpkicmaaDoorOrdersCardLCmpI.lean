/- The program's EventCmp. -/
import Derived.Test.YteecpandpkicmaaDoorOrdersCardG04
import Derived.Test.YteecpandpkicmaaDoorOrdersCardG07
import Derived.Test.YteecpandpkicmaaDoorOrdersCardG00
import Derived.Deep.RegionHeld3
import Derived.Deep.DeepMust
namespace Go.Proofs.YteecpandpkicmaaDoor
open Go.RowKit
theorem num_zero (a b : Int) : num a b = 0 ↔ a = b := by unfold num; split <;> (try split) <;> omega
theorem orL_cmp (t s q g t' s' q' g' : Int) : orL [num t t', num s s', num q q', num g g'] = cmpI t s q g t' s' q' g' := by
  unfold cmpI
  by_cases h1 : t = t'
  · by_cases h2 : s = s'
    · by_cases h3 : q = q'
      · by_cases h4 : g = g' <;> simp [orL, num_zero, h1, h2, h3, h4]
        · exact ((num_zero _ _).2 rfl).symm
      · simp [orL, num_zero, h1, h2, h3]
    · simp [orL, num_zero, h1, h2]
  · simp [orL, num_zero, h1]

theorem iOk_is (t s q d k v g : Int) (b : Bool) (h : okB t s q d k v g = b) (w : World) :
    Calls Tryd.prog 9 #[.agg #[.int .i64 t, .int .i64 s, .int .i64 q, .int .i64 d, .int .i64 k, .int .i64 v, .int .i64 g]] w fun e w' => e = .returned (.bool b) ∧ Below w.heap.size w w' := by
  subst h; exact iOk_any t s q d k v g w

set_option maxHeartbeats 2000000 in
theorem iCmp_any (t s q d k v g t' s' q' d' k' v' g' : Int) (w : World) :
    Calls Tryd.prog 7 #[.agg #[.int .i64 t, .int .i64 s, .int .i64 q, .int .i64 d, .int .i64 k, .int .i64 v, .int .i64 g], .agg #[.int .i64 t', .int .i64 s', .int .i64 q', .int .i64 d', .int .i64 k', .int .i64 v', .int .i64 g']] w fun e w' =>
      e = .returned (.int .i64 (ecmp t s q d k v g t' s' q' d' k' v' g')) ∧ Below w.heap.size w w' := by
  cases h1 : okB t s q d k v g
  · have H1 : Hid (okB t s q d k v g = false) := h1
    clear h1
    go_enter Tryd.func7, Tryd.ntmps7
    go_wp2_with fail
    refine (iOk_is t s q d k v g false H1.out _).mono ?_
    rintro e w1 ⟨rfl, hb1⟩
    go_wp2_with fail
    go_ret
    exact ⟨ret_int (by simp [ecmp, H1.out]), (((Below.refl _ _).alloc (Nat.le_refl _) _).alloc (by simp) _).trans (hb1.mono (by simp; omega))⟩
  · have H1 : Hid (okB t s q d k v g = true) := h1
    clear h1
    cases h2 : okB t' s' q' d' k' v' g'
    · have H2 : Hid (okB t' s' q' d' k' v' g' = false) := h2
      clear h2
      go_enter Tryd.func7, Tryd.ntmps7
      go_wp2_with fail
      refine (iOk_is t s q d k v g true H1.out _).mono ?_
      rintro e w1 ⟨rfl, hb1⟩
      obtain ⟨hc, hf⟩ := bcell hb1
      go_wp2_with fail
      refine (iOk_is t' s' q' d' k' v' g' false H2.out _).mono ?_
      rintro e w2 ⟨rfl, hb2⟩
      go_wp2_with fail
      go_ret
      exact ⟨ret_int (by simp [ecmp, H1.out, H2.out]), ((((Below.refl _ _).alloc (Nat.le_refl _) _).alloc (by simp) _).trans (hb1.mono (by simp; omega))).trans (hb2.mono (by have := hb1.size; simp at this; omega))⟩
    · have H2 : Hid (okB t' s' q' d' k' v' g' = true) := h2
      clear h2
      go_enter Tryd.func7, Tryd.ntmps7
      go_wp2_with fail
      refine (iOk_is t s q d k v g true H1.out _).mono ?_
      rintro e w1 ⟨rfl, hb1⟩
      obtain ⟨hc, hf⟩ := bcell hb1
      go_wp2_with fail
      refine (iOk_is t' s' q' d' k' v' g' true H2.out _).mono ?_
      rintro e w2 ⟨rfl, hb2⟩
      have hz1 : w.heap.size + 1 < w1.heap.size := by have := hb1.size; simp at this; omega
      have hz2 : w.heap.size + 1 < w2.heap.size := by have := hb2.size; omega
      obtain ⟨hc2, hf2⟩ := bcell hb2
      have f0 : w2.cell? ⟨w.heap.size, 0, none⟩ = some (.int .i64 t) := by rw [hc2 _ _ (by omega), hc _ _ (by simp; omega)]; simp
      have f1 : w2.cell? ⟨w.heap.size, 1, none⟩ = some (.int .i64 s) := by rw [hc2 _ _ (by omega), hc _ _ (by simp; omega)]; simp
      have f2 : w2.cell? ⟨w.heap.size, 2, none⟩ = some (.int .i64 q) := by rw [hc2 _ _ (by omega), hc _ _ (by simp; omega)]; simp
      have f6 : w2.cell? ⟨w.heap.size, 6, none⟩ = some (.int .i64 g) := by rw [hc2 _ _ (by omega), hc _ _ (by simp; omega)]; simp
      have e0 : w2.cell? ⟨w.heap.size + 1, 0, none⟩ = some (.int .i64 t') := by rw [hc2 _ _ (by omega), hc _ _ (by simp)]; simp
      have e1 : w2.cell? ⟨w.heap.size + 1, 1, none⟩ = some (.int .i64 s') := by rw [hc2 _ _ (by omega), hc _ _ (by simp)]; simp
      have e2 : w2.cell? ⟨w.heap.size + 1, 2, none⟩ = some (.int .i64 q') := by rw [hc2 _ _ (by omega), hc _ _ (by simp)]; simp
      have e6 : w2.cell? ⟨w.heap.size + 1, 6, none⟩ = some (.int .i64 g') := by rw [hc2 _ _ (by omega), hc _ _ (by simp)]; simp
      have hB : Below w.heap.size w w2 := ((((Below.refl _ _).alloc (Nat.le_refl _) _).alloc (by simp) _).trans (hb1.mono (by simp; omega))).trans (hb2.mono (by omega))
      clear hc hf hc2 hf2 hb1 hb2 hz1
      go_wp2_with fail
      go_region_held3 (fun W => W.cell? ⟨w.heap.size, 0, none⟩ = some (.int .i64 t) ∧ W.cell? ⟨w.heap.size, 1, none⟩ = some (.int .i64 s) ∧ W.cell? ⟨w.heap.size, 2, none⟩ = some (.int .i64 q) ∧ W.cell? ⟨w.heap.size, 6, none⟩ = some (.int .i64 g) ∧ W.cell? ⟨w.heap.size + 1, 0, none⟩ = some (.int .i64 t') ∧ W.cell? ⟨w.heap.size + 1, 1, none⟩ = some (.int .i64 s') ∧ W.cell? ⟨w.heap.size + 1, 2, none⟩ = some (.int .i64 q') ∧ W.cell? ⟨w.heap.size + 1, 6, none⟩ = some (.int .i64 g')) (go_keep)
        (first
          | (go_at_call 16; refine (compare_any _ _ _).mono ?_; rintro e w' ⟨rfl, rfl⟩)
          | (go_at_call 15; refine (or_any _ _ [num t t', num s s', num q q', num g g'] _ ?_ ?_).mono ?_; (simp [maxLen]); (intro i hi; have h4 : i = 0 ∨ i = 1 ∨ i = 2 ∨ i = 3 := (by simp at hi; omega); rcases h4 with rfl | rfl | rfl | rfl <;> simp); rintro e w' ⟨rfl, rfl⟩))
      go_wp2
      go_ret
      exact ⟨ret_int (by rw [orL_cmp]; simp [ecmp, H1.out, H2.out]), hB.drew.alloc (by simp; omega) _⟩
end Go.Proofs.YteecpandpkicmaaDoor
