/- Numbers at random: the small functions of both sides, plain numbers in, plain numbers out. -/
import Derived.Test.YtmpnlmmmopablaaRows
import Derived.WalkKit
import Derived.WalkSpells
import Derived.WalkLawsBesides
import Derived.Outline
namespace Go.Proofs.Ytmpnlmmmopablaa
open Go.RowKit

theorem ret_bool {a b : Bool} (h : a = b) : Ending.returned (.bool a) = .returned (.bool b) := by rw [h]
theorem ret_int {k : IntKind} {a b : Int} (h : a = b) : Ending.returned (.int k a) = .returned (.int k b) := by rw [h]
theorem ret_dec {p : Prop} [Decidable p] {b : Bool} (h : p ↔ b = true) : Ending.returned (.bool (decide p)) = .returned (.bool b) := by
  rw [show decide p = b from by cases b <;> simp_all]

/- What a number is stirred to. -/
def mix (x : Int) : Int := x * 48271 % 2147483647
def numB (x : Int) : Bool := decide (0 ≤ x) && decide (x ≤ 2147483646)
def mixed (x : Int) : Int := if numB x = true then mix x else -1
def placeB (s l n : Int) : Bool := (decide (0 ≤ s) && decide (s ≤ 999999)) && (decide (0 ≤ l) && decide (l ≤ 3)) && (decide (0 ≤ n) && decide (n ≤ 100000))
def startI (s l : Int) : Int := mix ((4 * s + l + 1) % 2147483647)
def randI (s l n : Int) : Int := mix (mix ((startI s l + 7919 * n) % 2147483647))
def rnd (s l n : Int) : Int := if placeB s l n = true then randI s l n else -1

theorem mix_low (x : Int) : 0 ≤ mix x := by unfold mix; omega
theorem mix_high (x : Int) : mix x < 2147483647 := by unfold mix; omega
theorem tmod_pos {x m : Int} (h : 0 ≤ x) : Int.tmod x m = x % m := Int.tmod_eq_emod_of_nonneg h
theorem placeB_iff {s l n : Int} : placeB s l n = true ↔ (0 ≤ s ∧ s ≤ 999999 ∧ 0 ≤ l ∧ l ≤ 3 ∧ 0 ≤ n ∧ n ≤ 100000) := by
  simp [placeB, and_assoc]
theorem numB_iff {x : Int} : numB x = true ↔ (0 ≤ x ∧ x ≤ 2147483646) := by simp [numB]

set_option maxHeartbeats 400000 in
theorem within_any (x lo hi : Int) (w : World) :
    Calls Try.prog 27 #[.int .i64 x, .int .i64 lo, .int .i64 hi] w fun e w' =>
      e = .returned (.bool (decide (lo ≤ x) && decide (x ≤ hi))) ∧ w' = w := by
  go_enter Try.func27, Try.ntmps27
  go_wp2
  · go_ret
    exact ⟨ret_dec (by simp_all), rfl⟩
  · go_ret
    exact ⟨ret_bool (by simp; omega), rfl⟩

set_option maxHeartbeats 400000 in
theorem l9number_any (x : Int) (w : World) :
    Calls Try.prog 25 #[.int .i64 x] w fun e w' => e = .returned (.bool (numB x)) ∧ w' = w := by
  go_enter Try.func25, Try.ntmps25
  go_wp2
  · go_ret
    exact ⟨ret_dec (by rw [numB_iff]; omega), rfl⟩
  · go_ret
    exact ⟨ret_bool (by simp [numB]; omega), rfl⟩

set_option maxHeartbeats 400000 in
theorem l9mixed_any (x : Int) (h0 : 0 ≤ x) (h1 : x ≤ 2147483646) (w : World) :
    Calls Try.prog 26 #[.int .i64 x] w fun e w' => e = .returned (.int .i64 (mix x)) ∧ w' = w := by
  go_enter Try.func26, Try.ntmps26
  go_wp2
  go_ret
  exact ⟨ret_int (by unfold mix; first | omega | (rw [tmod_pos (by omega)])), rfl⟩
end Go.Proofs.Ytmpnlmmmopablaa
