/- EEm, NBase, NSpec -/
import Derived.Test.YtmpoffepoafblaaGreatHandlesG04
import Derived.Test.YtmpoffepoafblaaGreatRows
import Derived.Test.YtmpoffepoafblaaGreatHandlesG01
import Derived.WalkKit
import Derived.WalkSpells
import Derived.WalkLawsBesides
import Derived.Outline
/- Emits as plain values, and as cells. -/
namespace Go.Proofs.YtmpoffepoafblaaGreat
open Go.RowKit
structure Em where
  t : Int
  l : Int
  v : Int
def xAt (l : List Em) (i : Nat) : Em := l.getD i ⟨0, 0, 0⟩
def Em.cs (e : Em) : List Value := [.int .i64 e.t, .int .i64 e.l, .int .i64 e.v]
abbrev Em.val (e : Em) : Value := .agg #[.int .i64 e.t, .int .i64 e.l, .int .i64 e.v]
def cellsX : List Em → List Value
  | [] => []
  | e :: l => e.cs ++ cellsX l
theorem cellsX_length : ∀ l : List Em, (cellsX l).length = l.length * 3
  | [] => rfl
  | e :: l => by simp [cellsX, cellsX_length l, Em.cs]; omega
theorem cellsX_append : ∀ l l' : List Em, cellsX (l ++ l') = cellsX l ++ cellsX l'
  | [], _ => rfl
  | e :: l, l' => by simp [cellsX, cellsX_append l l']
theorem xAt_cons_succ (e : Em) (l : List Em) (i : Nat) : xAt (e :: l) (i + 1) = xAt l i := by simp [xAt]
theorem cellsX_get : ∀ (l : List Em) (i r : Nat), i < l.length → r < 3 → (cellsX l)[i * 3 + r]? = (xAt l i).cs[r]?
  | [], _, _, h, _ => by simp at h
  | e :: l, 0, r, _, hr => by
    have : r < e.cs.length := by simpa [Em.cs] using hr
    simp only [cellsX, Nat.zero_mul, Nat.zero_add]
    rw [List.getElem?_append_left this]
    simp [xAt]
  | e :: l, i + 1, r, h, hr => by
    have h1 := cellsX_get l i r (by simpa using h) hr
    have : e.cs.length ≤ (i + 1) * 3 + r := by simp [Em.cs]; omega
    simp only [cellsX]
    rw [List.getElem?_append_right this, xAt_cons_succ, ← h1]
    congr 1
    simp [Em.cs]; omega
theorem cellsX_one (l : List Em) : ∀ u ∈ cellsX l, u.oneCell' = true := by
  induction l with
  | nil => intro u h; cases h
  | cons e l ih =>
    intro u h
    rcases List.mem_append.1 h with h | h
    · simp [Em.cs] at h
      rcases h with rfl | rfl | rfl <;> rfl
    · exact ih u h
end Go.Proofs.YtmpoffepoafblaaGreat

/- Numbers at random: the small functions of both sides, plain numbers in, plain numbers out. -/
namespace Go.Proofs.YtmpoffepoafblaaGreat
open Go.RowKit

/- What a number is stirred to. -/
def mix (x : Int) : Int := x * 48271 % 2147483647
def numB (x : Int) : Bool := decide (0 ≤ x) && decide (x ≤ 2147483646)
def mixed (x : Int) : Int := if numB x = true then mix x else -1
def placeB (s l n : Int) : Bool := (decide (0 ≤ s) && decide (s ≤ 999999)) && (decide (0 ≤ l) && decide (l ≤ 3)) && (decide (0 ≤ n) && decide (n ≤ 100000))
def startI (s l : Int) : Int := mix ((4 * s + l + 1) % 2147483647)
def randI (s l n : Int) : Int := mix (mix ((startI s l + 7919 * n) % 2147483647))
def rnd (s l n : Int) : Int := if placeB s l n = true then randI s l n else -1

theorem mix_low (x : Int) : 0 ≤ mix x := by unfold mix; omega
theorem mix_high (x : Int) : mix x < 2147483647 := by unfold mix; omega
theorem tmod_pos {x m : Int} (h : 0 ≤ x) : Int.tmod x m = x % m := Int.tmod_eq_emod_of_nonneg h
theorem placeB_iff {s l n : Int} : placeB s l n = true ↔ (0 ≤ s ∧ s ≤ 999999 ∧ 0 ≤ l ∧ l ≤ 3 ∧ 0 ≤ n ∧ n ≤ 100000) := by
  simp [placeB, and_assoc]
theorem numB_iff {x : Int} : numB x = true ↔ (0 ≤ x ∧ x ≤ 2147483646) := by simp [numB]

set_option maxHeartbeats 400000 in
theorem l9mixed_any (x : Int) (h0 : 0 ≤ x) (h1 : x ≤ 2147483646) (w : World) :
    Calls Tryz.prog 252 #[.int .i64 x] w fun e w' => e = .returned (.int .i64 (mix x)) ∧ w' = w := by
  go_enter Tryz.func252, Tryz.ntmps252
  go_wp2
  go_ret
  exact ⟨ret_int (by unfold mix; first | omega | (rw [tmod_pos (by omega)])), rfl⟩
end Go.Proofs.YtmpoffepoafblaaGreat

/- Numbers at random: the specification's Mixed, Rand, RandBelow; the program's Mixed and placeOk. -/
namespace Go.Proofs.YtmpoffepoafblaaGreat
open Go.RowKit

set_option maxHeartbeats 400000 in
theorem iMixed_any (x : Int) (w : World) :
    Calls Tryz.prog 287 #[.int .i64 x] w fun e w' => e = .returned (.int .i64 (mixed x)) ∧ w' = w := by
  have hnot : ∀ (x : Bool) (w : World), (Op.unary .not (.bool x)).run Tryz.prog w = .ok (.bool (!x)) w := fun _ _ => rfl
  by_cases hx : numB x = true
  · have h := numB_iff.1 hx
    obtain ⟨h0, h1⟩ := h
    have hx1 : (decide (0 ≤ x) && decide (x ≤ 2147483646)) = true := by simp [h0, h1]
    go_enter Tryz.func287, Tryz.ntmps287
    go_wp2_with (go_at_call 68; refine (within_any x _ _ _).mono ?_; rintro e w' ⟨rfl, rfl⟩; rw [hx1])
    go_ret
    exact ⟨ret_int (by simp only [mixed, hx, if_true]; unfold mix; first | omega | (rw [tmod_pos (by omega)])), rfl⟩
  · have hx1 : (decide (0 ≤ x) && decide (x ≤ 2147483646)) = false := by simpa [numB] using hx
    go_enter Tryz.func287, Tryz.ntmps287
    go_wp2_with (go_at_call 68; refine (within_any x _ _ _).mono ?_; rintro e w' ⟨rfl, rfl⟩; rw [hx1])
    go_ret
    exact ⟨ret_int (by simp [mixed, hx]), rfl⟩

set_option maxHeartbeats 400000 in
theorem placeOk_any (s l n : Int) (w : World) :
    Calls Tryz.prog 275 #[.int .i64 s, .int .i64 l, .int .i64 n] w fun e w' => e = .returned (.bool (placeB s l n)) ∧ w' = w := by
  go_enter Tryz.func275, Tryz.ntmps275
  go_wp2
  all_goals
    go_ret
    refine ⟨?_, rfl⟩
    first | exact ret_dec (by simp [placeB]; omega) | exact ret_bool (by simp [placeB]; omega)

set_option maxHeartbeats 400000 in
theorem l9rand_any (s l n : Int) (h : placeB s l n = true) (w : World) :
    Calls Tryz.prog 202 #[.int .i64 s, .int .i64 l, .int .i64 n] w fun e w' => e = .returned (.int .i64 (randI s l n)) ∧ w' = w := by
  obtain ⟨h0, h1, h2, h3, h4, h5⟩ := placeB_iff.1 h
  have m0 := mix_low (s * 4 + l + 1)
  have m1 := mix_high (s * 4 + l + 1)
  have e0 : Int.tmod (s * 4 + l + 1) 2147483647 = s * 4 + l + 1 := by rw [tmod_pos (by omega)]; omega
  have e1 : Int.tmod (mix (s * 4 + l + 1) + n * 7919) 2147483647 = (mix (s * 4 + l + 1) + n * 7919) % 2147483647 := tmod_pos (by omega)
  go_enter Tryz.func202, Tryz.ntmps202
  go_wp2_with (go_at_call 252; refine (l9mixed_any _ (by first | exact mix_low _ | omega | (rw [e0]; omega) | (rw [e1]; omega)) (by first | (have := mix_high ((mix (s * 4 + l + 1) + n * 7919) % 2147483647); omega) | omega | (rw [e0]; omega) | (rw [e1]; omega)) _).mono ?_; rintro e w' ⟨rfl, rfl⟩; (try rw [e0]); (try rw [e1]))
  go_ret
  have e2 : startI s l = mix (s * 4 + l + 1) := by unfold startI; congr 1; omega
  exact ⟨ret_int (by unfold randI; rw [e2]; congr 3; omega), rfl⟩
end Go.Proofs.YtmpoffepoafblaaGreat

