/- The program's EventCmp at two events that are fit: what it lays, and that it draws. -/
import Derived.Test.YthfhibnnkpbeiaaGreatExactKernelNewG26
namespace Go.Proofs.YthfhibnnkpbeiaaGreat
open Go.RowKit
set_option maxHeartbeats 2000000 in
theorem iOkD (t s q d k v g : Int) (h : okB t s q d k v g = true) (w : World) :
  Calls Tryz.prog 98 #[.agg #[.int .i64 t, .int .i64 s, .int .i64 q, .int .i64 d, .int .i64 k, .int .i64 v, .int .i64 g]] w fun e w' =>
   e = .returned (.bool true) ∧ Below w.heap.size w w' ∧ w.drawn ≤ w'.drawn := by
 rw [← h]
 clear h
 go_enter Tryz.func98, Tryz.ntmps98
 go_wp2
 all_goals
  go_ret
  refine ⟨?_, (Below.refl _ _).alloc (Nat.le_refl _) _, Nat.le_refl _⟩
  first | exact ret_dec (by simp [okB]; omega) | exact ret_bool (by simp [okB]; omega)
set_option maxHeartbeats 2000000 in
theorem iCmpD (t s q d k v g t' s' q' d' k' v' g' : Int) (h1 : okB t s q d k v g = true) (h2 : okB t' s' q' d' k' v' g' = true) (w : World) :
  Calls Tryz.prog 82 #[.agg #[.int .i64 t, .int .i64 s, .int .i64 q, .int .i64 d, .int .i64 k, .int .i64 v, .int .i64 g], .agg #[.int .i64 t', .int .i64 s', .int .i64 q', .int .i64 d', .int .i64 k', .int .i64 v', .int .i64 g']] w fun e w' =>
   e = .returned (.int .i64 (cmpI t s q g t' s' q' g')) ∧ Below w.heap.size w w' ∧ w.drawn ≤ w'.drawn := by
 have H1 : Hid (okB t s q d k v g = true) := h1
 have H2 : Hid (okB t' s' q' d' k' v' g' = true) := h2
 clear h1 h2
 go_enter Tryz.func82, Tryz.ntmps82
 go_wp2_with fail
 refine (iOkD t s q d k v g H1.out _).mono ?_
 rintro e w1 ⟨rfl, hb1, hd1⟩
 obtain ⟨hc, hf⟩ := bcell hb1
 go_wp2_with fail
 refine (iOkD t' s' q' d' k' v' g' H2.out _).mono ?_
 rintro e w2 ⟨rfl, hb2, hd2⟩
 have hz1 : w.heap.size + 1 < w1.heap.size := by have := hb1.size; simp at this; omega
 have hz2 : w.heap.size + 1 < w2.heap.size := by have := hb2.size; omega
 obtain ⟨hc2, hf2⟩ := bcell hb2
 have f0 : w2.cell? ⟨w.heap.size, 0, none⟩ = some (.int .i64 t) := by rw [hc2 _ _ (by omega), hc _ _ (by simp; omega)]; simp
 have f1 : w2.cell? ⟨w.heap.size, 1, none⟩ = some (.int .i64 s) := by rw [hc2 _ _ (by omega), hc _ _ (by simp; omega)]; simp
 have f2 : w2.cell? ⟨w.heap.size, 2, none⟩ = some (.int .i64 q) := by rw [hc2 _ _ (by omega), hc _ _ (by simp; omega)]; simp
 have f6 : w2.cell? ⟨w.heap.size, 6, none⟩ = some (.int .i64 g) := by rw [hc2 _ _ (by omega), hc _ _ (by simp; omega)]; simp
 have e0 : w2.cell? ⟨w.heap.size + 1, 0, none⟩ = some (.int .i64 t') := by rw [hc2 _ _ (by omega), hc _ _ (by simp)]; simp
 have e1 : w2.cell? ⟨w.heap.size + 1, 1, none⟩ = some (.int .i64 s') := by rw [hc2 _ _ (by omega), hc _ _ (by simp)]; simp
 have e2 : w2.cell? ⟨w.heap.size + 1, 2, none⟩ = some (.int .i64 q') := by rw [hc2 _ _ (by omega), hc _ _ (by simp)]; simp
 have e6 : w2.cell? ⟨w.heap.size + 1, 6, none⟩ = some (.int .i64 g') := by rw [hc2 _ _ (by omega), hc _ _ (by simp)]; simp
 have hB : Below w.heap.size w w2 := ((((Below.refl _ _).alloc (Nat.le_refl _) _).alloc (by simp) _).trans (hb1.mono (by simp; omega))).trans (hb2.mono (by omega))
 have HDR : Hid (w.drawn ≤ w2.drawn + 1) := (by have h9 : w.drawn ≤ w1.drawn := hd1; exact Nat.le_succ_of_le (Nat.le_trans h9 hd2) : w.drawn ≤ w2.drawn + 1)
 clear hc hf hc2 hf2 hb1 hb2 hz1 hd1 hd2
 go_wp2_with fail
 go_region_held3 (fun W => W.cell? ⟨w.heap.size, 0, none⟩ = some (.int .i64 t) ∧ W.cell? ⟨w.heap.size, 1, none⟩ = some (.int .i64 s) ∧ W.cell? ⟨w.heap.size, 2, none⟩ = some (.int .i64 q) ∧ W.cell? ⟨w.heap.size, 6, none⟩ = some (.int .i64 g) ∧ W.cell? ⟨w.heap.size + 1, 0, none⟩ = some (.int .i64 t') ∧ W.cell? ⟨w.heap.size + 1, 1, none⟩ = some (.int .i64 s') ∧ W.cell? ⟨w.heap.size + 1, 2, none⟩ = some (.int .i64 q') ∧ W.cell? ⟨w.heap.size + 1, 6, none⟩ = some (.int .i64 g')) (go_keep)
  (first
   | (go_at_call 107; refine (compare_any _ _ _).mono ?_; rintro e w' ⟨rfl, rfl⟩)
   | (go_at_call 106; refine (or_any _ _ [num t t', num s s', num q q', num g g'] _ ?_ ?_).mono ?_; (simp [maxLen]); (intro i hi; have h4 : i = 0 ∨ i = 1 ∨ i = 2 ∨ i = 3 := (by simp at hi; omega); rcases h4 with rfl | rfl | rfl | rfl <;> simp); rintro e w' ⟨rfl, rfl⟩))
 go_wp2
 go_ret
 exact ⟨ret_int (by rw [orL_cmp]), hB.drew.alloc (by simp; omega) _, HDR.out⟩
end Go.Proofs.YthfhibnnkpbeiaaGreat
