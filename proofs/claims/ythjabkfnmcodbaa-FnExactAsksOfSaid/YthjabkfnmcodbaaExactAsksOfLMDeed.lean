/- What an op is told as, whatever its code; whether it asks. -/
import Derived.Test.YthjabkfnmcodbaaExactAsksOfLMOpI
namespace Go.Proofs.Ythjabkfnmcodbaa
open Go.RowKit
def deedV (c a b k : Int) : Value :=
  if c = 0 then vAdd a b
  else if c = 1 then vTake a
  else if c = 2 then vSend a b k
  else if c = 3 then vSkip a b k
  else if c = 4 then vAsk a b
  else if c = 5 then vEmit a
  else if c = 6 then vDraw a b
  else .nilIface
theorem deedOf_any (c a b k : Int) (w : World) : Calls Try.prog 38 #[.agg #[.int .i64 c, .int .i64 a, .int .i64 b, .int .i64 k]] w fun e w' => e = .returned (deedV c a b k) ∧ Below w.heap.size w w' := by
  have hc : c = 0 ∨ c = 1 ∨ c = 2 ∨ c = 3 ∨ c = 4 ∨ c = 5 ∨ c = 6 ∨ (¬ c = 0 ∧ ¬ c = 1 ∧ ¬ c = 2 ∧ ¬ c = 3 ∧ ¬ c = 4 ∧ ¬ c = 5 ∧ ¬ c = 6) := by omega
  rcases hc with rfl | rfl | rfl | rfl | rfl | rfl | rfl | ⟨c0, c1, c2, c3, c4, c5, c6⟩
  · exact deed_adding _ _ _ _
  · exact deed_taking _ _ _ _
  · exact deed_sending _ _ _ _
  · exact deed_skipping _ _ _ _
  · exact deed_asking _ _ _ _
  · exact deed_emitting _ _ _ _
  · exact deed_drawing _ _ _ _
  · have e : deedV c a b k = .nilIface := by simp [deedV, c0, c1, c2, c3, c4, c5, c6]
    rw [e]
    exact deed_none _ _ _ _ _ c0 c1 c2 c3 c4 c5 c6
set_option maxRecDepth 100000 in
set_option maxHeartbeats 1000000 in
theorem ask_adding (x y : Int) (w : World) : Calls Try.prog 59 #[vAdd x y] w fun e w' => e = .returned (.tuple #[.int .i64 0, .bool false]) ∧ Below w.heap.size w w' := by
  have q0 : ∀ W : World, (Instr.typeAssert (vAdd x y) 62 105 true).run Try.prog W = .ok (.tuple #[.agg #[.int .i64 0, .int .i64 0], .bool false]) W := fun W => by kernel_rfl
  go_enter Try.func59, Try.ntmps59
  go_wp2
  go_ret2
  exact ⟨rfl, (Below.refl _ _).alloc (Nat.le_refl _) _⟩
set_option maxRecDepth 100000 in
set_option maxHeartbeats 1000000 in
theorem ask_taking (x : Int) (w : World) : Calls Try.prog 59 #[vTake x] w fun e w' => e = .returned (.tuple #[.int .i64 0, .bool false]) ∧ Below w.heap.size w w' := by
  have q0 : ∀ W : World, (Instr.typeAssert (vTake x) 62 105 true).run Try.prog W = .ok (.tuple #[.agg #[.int .i64 0, .int .i64 0], .bool false]) W := fun W => by kernel_rfl
  go_enter Try.func59, Try.ntmps59
  go_wp2
  go_ret2
  exact ⟨rfl, (Below.refl _ _).alloc (Nat.le_refl _) _⟩
set_option maxRecDepth 100000 in
set_option maxHeartbeats 1000000 in
theorem ask_sending (x y t : Int) (w : World) : Calls Try.prog 59 #[vSend x y t] w fun e w' => e = .returned (.tuple #[.int .i64 0, .bool false]) ∧ Below w.heap.size w w' := by
  have q0 : ∀ W : World, (Instr.typeAssert (vSend x y t) 62 105 true).run Try.prog W = .ok (.tuple #[.agg #[.int .i64 0, .int .i64 0], .bool false]) W := fun W => by kernel_rfl
  go_enter Try.func59, Try.ntmps59
  go_wp2
  go_ret2
  exact ⟨rfl, (Below.refl _ _).alloc (Nat.le_refl _) _⟩
set_option maxRecDepth 100000 in
set_option maxHeartbeats 1000000 in
theorem ask_skipping (x y t : Int) (w : World) : Calls Try.prog 59 #[vSkip x y t] w fun e w' => e = .returned (.tuple #[.int .i64 0, .bool false]) ∧ Below w.heap.size w w' := by
  have q0 : ∀ W : World, (Instr.typeAssert (vSkip x y t) 62 105 true).run Try.prog W = .ok (.tuple #[.agg #[.int .i64 0, .int .i64 0], .bool false]) W := fun W => by kernel_rfl
  go_enter Try.func59, Try.ntmps59
  go_wp2
  go_ret2
  exact ⟨rfl, (Below.refl _ _).alloc (Nat.le_refl _) _⟩
set_option maxRecDepth 100000 in
set_option maxHeartbeats 1000000 in
theorem ask_asking (x y : Int) (w : World) : Calls Try.prog 59 #[vAsk x y] w fun e w' => e = .returned (.tuple #[.int .i64 x, .bool true]) ∧ Below w.heap.size w w' := by
  have q0 : ∀ W : World, (Instr.typeAssert (vAsk x y) 62 105 true).run Try.prog W = .ok (.tuple #[.agg #[.int .i64 x, .int .i64 y], .bool true]) W := fun W => by kernel_rfl
  go_enter Try.func59, Try.ntmps59
  go_wp2
  go_ret2
  exact ⟨rfl, (Below.refl _ _).alloc (Nat.le_refl _) _⟩
set_option maxRecDepth 100000 in
set_option maxHeartbeats 1000000 in
theorem ask_emitting (x : Int) (w : World) : Calls Try.prog 59 #[vEmit x] w fun e w' => e = .returned (.tuple #[.int .i64 0, .bool false]) ∧ Below w.heap.size w w' := by
  have q0 : ∀ W : World, (Instr.typeAssert (vEmit x) 62 105 true).run Try.prog W = .ok (.tuple #[.agg #[.int .i64 0, .int .i64 0], .bool false]) W := fun W => by kernel_rfl
  go_enter Try.func59, Try.ntmps59
  go_wp2
  go_ret2
  exact ⟨rfl, (Below.refl _ _).alloc (Nat.le_refl _) _⟩
set_option maxRecDepth 100000 in
set_option maxHeartbeats 1000000 in
theorem ask_drawing (x y : Int) (w : World) : Calls Try.prog 59 #[vDraw x y] w fun e w' => e = .returned (.tuple #[.int .i64 0, .bool false]) ∧ Below w.heap.size w w' := by
  have q0 : ∀ W : World, (Instr.typeAssert (vDraw x y) 62 105 true).run Try.prog W = .ok (.tuple #[.agg #[.int .i64 0, .int .i64 0], .bool false]) W := fun W => by kernel_rfl
  go_enter Try.func59, Try.ntmps59
  go_wp2
  go_ret2
  exact ⟨rfl, (Below.refl _ _).alloc (Nat.le_refl _) _⟩
set_option maxRecDepth 100000 in
set_option maxHeartbeats 1000000 in
theorem ask_none (w : World) : Calls Try.prog 59 #[.nilIface] w fun e w' => e = .returned (.tuple #[.int .i64 0, .bool false]) ∧ Below w.heap.size w w' := by
  have q0 : ∀ W : World, (Instr.typeAssert (.nilIface) 62 105 true).run Try.prog W = .ok (.tuple #[.agg #[.int .i64 0, .int .i64 0], .bool false]) W := fun W => by kernel_rfl
  go_enter Try.func59, Try.ntmps59
  go_wp2
  go_ret2
  exact ⟨rfl, (Below.refl _ _).alloc (Nat.le_refl _) _⟩
theorem askOf_any (c a b k : Int) (w : World) : Calls Try.prog 59 #[deedV c a b k] w fun e w' => e = .returned (.tuple #[.int .i64 (if c = 4 then a else 0), .bool (decide (c = 4))]) ∧ Below w.heap.size w w' := by
  have hc : c = 0 ∨ c = 1 ∨ c = 2 ∨ c = 3 ∨ c = 4 ∨ c = 5 ∨ c = 6 ∨ (¬ c = 0 ∧ ¬ c = 1 ∧ ¬ c = 2 ∧ ¬ c = 3 ∧ ¬ c = 4 ∧ ¬ c = 5 ∧ ¬ c = 6) := by omega
  rcases hc with rfl | rfl | rfl | rfl | rfl | rfl | rfl | ⟨c0, c1, c2, c3, c4, c5, c6⟩
  · exact ask_adding _ _ _
  · exact ask_taking _ _
  · exact ask_sending _ _ _ _
  · exact ask_skipping _ _ _ _
  · exact ask_asking _ _ _
  · exact ask_emitting _ _
  · exact ask_drawing _ _ _
  · have e : deedV c a b k = .nilIface := by simp [deedV, c0, c1, c2, c3, c4, c5, c6]
    rw [e, if_neg c4, decide_eq_false c4]
    exact ask_none _
end Go.Proofs.Ythjabkfnmcodbaa
