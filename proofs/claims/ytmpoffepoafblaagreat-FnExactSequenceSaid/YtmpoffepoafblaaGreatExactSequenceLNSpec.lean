/- Numbers at random: the specification's Mixed, Rand, RandBelow; the program's Mixed and placeOk. -/
import Derived.Test.YtmpoffepoafblaaGreatExactSequenceG06
namespace Go.Proofs.YtmpoffepoafblaaGreat
open Go.RowKit

set_option maxHeartbeats 400000 in
theorem iMixed_any (x : Int) (w : World) :
    Calls Tryz.prog 287 #[.int .i64 x] w fun e w' => e = .returned (.int .i64 (mixed x)) ∧ w' = w := by
  have hnot : ∀ (x : Bool) (w : World), (Op.unary .not (.bool x)).run Tryz.prog w = .ok (.bool (!x)) w := fun _ _ => rfl
  by_cases hx : numB x = true
  · have h := numB_iff.1 hx
    obtain ⟨h0, h1⟩ := h
    have hx1 : (decide (0 ≤ x) && decide (x ≤ 2147483646)) = true := by simp [h0, h1]
    go_enter Tryz.func287, Tryz.ntmps287
    go_wp2_with (go_at_call 68; refine (within_any x _ _ _).mono ?_; rintro e w' ⟨rfl, rfl⟩; rw [hx1])
    go_ret
    exact ⟨ret_int (by simp only [mixed, hx, if_true]; unfold mix; first | omega | (rw [tmod_pos (by omega)])), rfl⟩
  · have hx1 : (decide (0 ≤ x) && decide (x ≤ 2147483646)) = false := by simpa [numB] using hx
    go_enter Tryz.func287, Tryz.ntmps287
    go_wp2_with (go_at_call 68; refine (within_any x _ _ _).mono ?_; rintro e w' ⟨rfl, rfl⟩; rw [hx1])
    go_ret
    exact ⟨ret_int (by simp [mixed, hx]), rfl⟩

set_option maxHeartbeats 400000 in
theorem placeOk_any (s l n : Int) (w : World) :
    Calls Tryz.prog 275 #[.int .i64 s, .int .i64 l, .int .i64 n] w fun e w' => e = .returned (.bool (placeB s l n)) ∧ w' = w := by
  go_enter Tryz.func275, Tryz.ntmps275
  go_wp2
  all_goals
    go_ret
    refine ⟨?_, rfl⟩
    first | exact ret_dec (by simp [placeB]; omega) | exact ret_bool (by simp [placeB]; omega)

set_option maxHeartbeats 400000 in
theorem l9rand_any (s l n : Int) (h : placeB s l n = true) (w : World) :
    Calls Tryz.prog 202 #[.int .i64 s, .int .i64 l, .int .i64 n] w fun e w' => e = .returned (.int .i64 (randI s l n)) ∧ w' = w := by
  obtain ⟨h0, h1, h2, h3, h4, h5⟩ := placeB_iff.1 h
  have m0 := mix_low (s * 4 + l + 1)
  have m1 := mix_high (s * 4 + l + 1)
  have e0 : Int.tmod (s * 4 + l + 1) 2147483647 = s * 4 + l + 1 := by rw [tmod_pos (by omega)]; omega
  have e1 : Int.tmod (mix (s * 4 + l + 1) + n * 7919) 2147483647 = (mix (s * 4 + l + 1) + n * 7919) % 2147483647 := tmod_pos (by omega)
  go_enter Tryz.func202, Tryz.ntmps202
  go_wp2_with (go_at_call 252; refine (l9mixed_any _ (by first | exact mix_low _ | omega | (rw [e0]; omega) | (rw [e1]; omega)) (by first | (have := mix_high ((mix (s * 4 + l + 1) + n * 7919) % 2147483647); omega) | omega | (rw [e0]; omega) | (rw [e1]; omega)) _).mono ?_; rintro e w' ⟨rfl, rfl⟩; (try rw [e0]); (try rw [e1]))
  go_ret
  have e2 : startI s l = mix (s * 4 + l + 1) := by unfold startI; congr 1; omega
  exact ⟨ret_int (by unfold randI; rw [e2]; congr 3; omega), rfl⟩
end Go.Proofs.YtmpoffepoafblaaGreat
