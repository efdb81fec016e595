/- The program's OpOk: what an op is told as, and whether it fits. -/
import Derived.Test.YtbljfphdghfkfaaGreatDoorModelsCardG00
import Derived.Deep.QuietTactic
import Derived.BigQuiet
namespace Go.Proofs.YtbljfphdghfkfaaGreatDoor
open Go.RowKit
abbrev vAdd (x y : Int) : Value := .iface 135 (.agg #[.int .i64 x, .int .i64 y])
abbrev vTake (x : Int) : Value := .iface 137 (.agg #[.int .i64 x])
abbrev vSend (x y t : Int) : Value := .iface 139 (.agg #[.int .i64 x, .int .i64 y, .int .i64 t])
abbrev vSkip (x y t : Int) : Value := .iface 141 (.agg #[.int .i64 x, .int .i64 y, .int .i64 t])
abbrev vAsk (x y : Int) : Value := .iface 132 (.agg #[.int .i64 x, .int .i64 y])
abbrev vEmit (x : Int) : Value := .iface 142 (.agg #[.int .i64 x])
abbrev vDraw (x y : Int) : Value := .iface 144 (.agg #[.int .i64 x, .int .i64 y])
set_option maxHeartbeats 400000 in
theorem place_any (x n : Int) (w : World) : Calls Tryz.prog 79 #[.int .i64 x, .int .i64 n] w fun e w' => e = .returned (.bool (decide (0 ≤ x) && decide (x < n))) ∧ w' = w := by
 go_enter Tryz.func79, Tryz.ntmps79
 go_wp2
 all_goals
  go_ret
  first | exact ⟨ret_dec (by simp_all), rfl⟩ | exact ⟨ret_bool (by simp; omega), rfl⟩
set_option maxHeartbeats 400000 in
theorem isReg_any (x : Int) (w : World) : Calls Tryz.prog 78 #[.int .i64 x] w fun e w' => e = .returned (.bool (decide (0 ≤ x) && decide (x ≤ 1))) ∧ w' = w := by
 go_enter Tryz.func78, Tryz.ntmps78
 go_wp2_with fail
 refine (within_any _ _ _ _).mono ?_
 rintro e w' ⟨rfl, hw⟩
 have hw' := hw.symm
 clear hw
 subst hw'
 go_wp2
 go_ret
 exact ⟨rfl, rfl⟩
set_option maxHeartbeats 400000 in
theorem deed_adding (a b k : Int) (w : World) : Calls Tryz.prog 42 #[.agg #[.int .i64 0, .int .i64 a, .int .i64 b, .int .i64 k]] w fun e w' => e = .returned (vAdd a b) ∧ Below w.heap.size w w' := by
 go_enter Tryz.func42, Tryz.ntmps42
 go_wp2
 go_ret
 exact ⟨rfl, (Below.refl _ _).alloc (Nat.le_refl _) _⟩
set_option maxHeartbeats 400000 in
theorem deed_taking (a b k : Int) (w : World) : Calls Tryz.prog 42 #[.agg #[.int .i64 1, .int .i64 a, .int .i64 b, .int .i64 k]] w fun e w' => e = .returned (vTake a) ∧ Below w.heap.size w w' := by
 go_enter Tryz.func42, Tryz.ntmps42
 go_wp2
 go_ret
 exact ⟨rfl, (Below.refl _ _).alloc (Nat.le_refl _) _⟩
set_option maxHeartbeats 400000 in
theorem deed_sending (a b k : Int) (w : World) : Calls Tryz.prog 42 #[.agg #[.int .i64 2, .int .i64 a, .int .i64 b, .int .i64 k]] w fun e w' => e = .returned (vSend a b k) ∧ Below w.heap.size w w' := by
 go_enter Tryz.func42, Tryz.ntmps42
 go_wp2
 go_ret
 exact ⟨rfl, (Below.refl _ _).alloc (Nat.le_refl _) _⟩
set_option maxHeartbeats 400000 in
theorem deed_skipping (a b k : Int) (w : World) : Calls Tryz.prog 42 #[.agg #[.int .i64 3, .int .i64 a, .int .i64 b, .int .i64 k]] w fun e w' => e = .returned (vSkip a b k) ∧ Below w.heap.size w w' := by
 go_enter Tryz.func42, Tryz.ntmps42
 go_wp2
 go_ret
 exact ⟨rfl, (Below.refl _ _).alloc (Nat.le_refl _) _⟩
set_option maxHeartbeats 400000 in
theorem deed_asking (a b k : Int) (w : World) : Calls Tryz.prog 42 #[.agg #[.int .i64 4, .int .i64 a, .int .i64 b, .int .i64 k]] w fun e w' => e = .returned (vAsk a b) ∧ Below w.heap.size w w' := by
 go_enter Tryz.func42, Tryz.ntmps42
 go_wp2
 go_ret
 exact ⟨rfl, (Below.refl _ _).alloc (Nat.le_refl _) _⟩
set_option maxHeartbeats 400000 in
theorem deed_emitting (a b k : Int) (w : World) : Calls Tryz.prog 42 #[.agg #[.int .i64 5, .int .i64 a, .int .i64 b, .int .i64 k]] w fun e w' => e = .returned (vEmit a) ∧ Below w.heap.size w w' := by
 go_enter Tryz.func42, Tryz.ntmps42
 go_wp2
 go_ret
 exact ⟨rfl, (Below.refl _ _).alloc (Nat.le_refl _) _⟩
set_option maxHeartbeats 400000 in
theorem deed_drawing (a b k : Int) (w : World) : Calls Tryz.prog 42 #[.agg #[.int .i64 6, .int .i64 a, .int .i64 b, .int .i64 k]] w fun e w' => e = .returned (vDraw a b) ∧ Below w.heap.size w w' := by
 go_enter Tryz.func42, Tryz.ntmps42
 go_wp2
 go_ret
 exact ⟨rfl, (Below.refl _ _).alloc (Nat.le_refl _) _⟩
set_option maxHeartbeats 400000 in
theorem deed_none (c a b k : Int) (w : World) (c0 : ¬ c = 0) (c1 : ¬ c = 1) (c2 : ¬ c = 2) (c3 : ¬ c = 3) (c4 : ¬ c = 4) (c5 : ¬ c = 5) (c6 : ¬ c = 6) : Calls Tryz.prog 42 #[.agg #[.int .i64 c, .int .i64 a, .int .i64 b, .int .i64 k]] w fun e w' => e = .returned .nilIface ∧ Below w.heap.size w w' := by
 go_enter Tryz.func42, Tryz.ntmps42
 go_wp2
 go_ret
 exact ⟨rfl, (Below.refl _ _).alloc (Nat.le_refl _) _⟩
set_option maxRecDepth 100000 in
set_option maxHeartbeats 2000000 in
theorem fit_adding (n s z : Int) (vi vs : Value) (ah : Option Addr) (len cap : Nat) (x y : Int) (w : World) : Calls Tryz.prog 43 #[.agg #[.int .i64 n, .int .i64 s, vi, .slice ah len cap, vs, .int .i64 z], vAdd x y] w fun e w' => e = .returned (.bool (decide (0 ≤ x ∧ x ≤ 1 ∧ 0 ≤ y ∧ y ≤ 999))) ∧ Below w.heap.size w w' := by
 have q0 : ∀ W : World, (Instr.typeAssert (vAdd x y) 80 135 true).run Tryz.prog W = .ok (.tuple #[.agg #[.int .i64 x, .int .i64 y], .bool true]) W := fun W => by kernel_rfl
 go_enter Tryz.func43, Tryz.ntmps43
 go_wp2_with (first | (go_at_call 78; refine (isReg_any _ _).mono ?_; rintro e w2 ⟨rfl, hw⟩; have hw' := hw.symm; clear hw; subst hw') | (go_at_call 31; refine (within_any _ _ _ _).mono ?_; rintro e w2 ⟨rfl, hw⟩; have hw' := hw.symm; clear hw; subst hw') | (go_at_call 79; refine (place_any _ _ _).mono ?_; rintro e w2 ⟨rfl, hw⟩; have hw' := hw.symm; clear hw; subst hw'))
 all_goals
  go_ret
  refine ⟨?_, by first | exact (Below.refl _ _).alloc (Nat.le_refl _) _ | exact ((Below.refl _ _).alloc (Nat.le_refl _) _).alloc (by simp) _⟩
  first | exact ret_bool (by rw [Bool.eq_iff_iff]; simp only [Bool.and_eq_true, decide_eq_true_eq]; omega) | exact ret_bool (by simp; omega) | exact ret_bool (by simp) | exact ret_dec (by simp; omega)
set_option maxRecDepth 100000 in
set_option maxHeartbeats 2000000 in
theorem fit_taking (n s z : Int) (vi vs : Value) (ah : Option Addr) (len cap : Nat) (x : Int) (w : World) : Calls Tryz.prog 43 #[.agg #[.int .i64 n, .int .i64 s, vi, .slice ah len cap, vs, .int .i64 z], vTake x] w fun e w' => e = .returned (.bool (decide (0 ≤ x ∧ x ≤ 1))) ∧ Below w.heap.size w w' := by
 have q0 : ∀ W : World, (Instr.typeAssert (vTake x) 80 135 true).run Tryz.prog W = .ok (.tuple #[.agg #[.int .i64 0, .int .i64 0], .bool false]) W := fun W => by kernel_rfl
 have q1 : ∀ W : World, (Instr.typeAssert (vTake x) 80 137 true).run Tryz.prog W = .ok (.tuple #[.agg #[.int .i64 x], .bool true]) W := fun W => by kernel_rfl
 go_enter Tryz.func43, Tryz.ntmps43
 go_wp2_with (first | (go_at_call 78; refine (isReg_any _ _).mono ?_; rintro e w2 ⟨rfl, hw⟩; have hw' := hw.symm; clear hw; subst hw') | (go_at_call 31; refine (within_any _ _ _ _).mono ?_; rintro e w2 ⟨rfl, hw⟩; have hw' := hw.symm; clear hw; subst hw') | (go_at_call 79; refine (place_any _ _ _).mono ?_; rintro e w2 ⟨rfl, hw⟩; have hw' := hw.symm; clear hw; subst hw'))
 all_goals
  go_ret
  refine ⟨?_, by first | exact (Below.refl _ _).alloc (Nat.le_refl _) _ | exact ((Below.refl _ _).alloc (Nat.le_refl _) _).alloc (by simp) _⟩
  first | exact ret_bool (by rw [Bool.eq_iff_iff]; simp only [Bool.and_eq_true, decide_eq_true_eq]; omega) | exact ret_bool (by simp; omega) | exact ret_bool (by simp) | exact ret_dec (by simp; omega)
set_option maxRecDepth 100000 in
set_option maxHeartbeats 2000000 in
theorem fit_sending (n s z : Int) (vi vs : Value) (ah : Option Addr) (len cap : Nat) (x y t : Int) (w : World) : Calls Tryz.prog 43 #[.agg #[.int .i64 n, .int .i64 s, vi, .slice ah len cap, vs, .int .i64 z], vSend x y t] w fun e w' => e = .returned (.bool (decide (0 ≤ x ∧ x < n ∧ 1 ≤ y ∧ y ≤ 50 ∧ 0 ≤ t ∧ t < (len : Int)))) ∧ Below w.heap.size w w' := by
 have q0 : ∀ W : World, (Instr.typeAssert (vSend x y t) 80 135 true).run Tryz.prog W = .ok (.tuple #[.agg #[.int .i64 0, .int .i64 0], .bool false]) W := fun W => by kernel_rfl
 have q1 : ∀ W : World, (Instr.typeAssert (vSend x y t) 80 137 true).run Tryz.prog W = .ok (.tuple #[.agg #[.int .i64 0], .bool false]) W := fun W => by kernel_rfl
 have q2 : ∀ W : World, (Instr.typeAssert (vSend x y t) 80 139 true).run Tryz.prog W = .ok (.tuple #[.agg #[.int .i64 x, .int .i64 y, .int .i64 t], .bool true]) W := fun W => by kernel_rfl
 go_enter Tryz.func43, Tryz.ntmps43
 go_wp2_with (first | (go_at_call 78; refine (isReg_any _ _).mono ?_; rintro e w2 ⟨rfl, hw⟩; have hw' := hw.symm; clear hw; subst hw') | (go_at_call 31; refine (within_any _ _ _ _).mono ?_; rintro e w2 ⟨rfl, hw⟩; have hw' := hw.symm; clear hw; subst hw') | (go_at_call 79; refine (place_any _ _ _).mono ?_; rintro e w2 ⟨rfl, hw⟩; have hw' := hw.symm; clear hw; subst hw'))
 all_goals
  go_ret
  refine ⟨?_, by first | exact (Below.refl _ _).alloc (Nat.le_refl _) _ | exact ((Below.refl _ _).alloc (Nat.le_refl _) _).alloc (by simp) _⟩
  first | exact ret_bool (by rw [Bool.eq_iff_iff]; simp only [Bool.and_eq_true, decide_eq_true_eq]; omega) | exact ret_bool (by simp; omega) | exact ret_bool (by simp) | exact ret_dec (by simp; omega)
set_option maxRecDepth 100000 in
set_option maxHeartbeats 2000000 in
theorem fit_skipping (n s z : Int) (vi vs : Value) (ah : Option Addr) (len cap : Nat) (x y t : Int) (w : World) : Calls Tryz.prog 43 #[.agg #[.int .i64 n, .int .i64 s, vi, .slice ah len cap, vs, .int .i64 z], vSkip x y t] w fun e w' => e = .returned (.bool (decide (0 ≤ x ∧ x ≤ 1 ∧ 0 ≤ y ∧ y ≤ 999 ∧ 1 ≤ t ∧ t ≤ 8))) ∧ Below w.heap.size w w' := by
 have q0 : ∀ W : World, (Instr.typeAssert (vSkip x y t) 80 135 true).run Tryz.prog W = .ok (.tuple #[.agg #[.int .i64 0, .int .i64 0], .bool false]) W := fun W => by kernel_rfl
 have q1 : ∀ W : World, (Instr.typeAssert (vSkip x y t) 80 137 true).run Tryz.prog W = .ok (.tuple #[.agg #[.int .i64 0], .bool false]) W := fun W => by kernel_rfl
 have q2 : ∀ W : World, (Instr.typeAssert (vSkip x y t) 80 139 true).run Tryz.prog W = .ok (.tuple #[.agg #[.int .i64 0, .int .i64 0, .int .i64 0], .bool false]) W := fun W => by kernel_rfl
 have q3 : ∀ W : World, (Instr.typeAssert (vSkip x y t) 80 141 true).run Tryz.prog W = .ok (.tuple #[.agg #[.int .i64 x, .int .i64 y, .int .i64 t], .bool true]) W := fun W => by kernel_rfl
 go_enter Tryz.func43, Tryz.ntmps43
 go_wp2_with (first | (go_at_call 78; refine (isReg_any _ _).mono ?_; rintro e w2 ⟨rfl, hw⟩; have hw' := hw.symm; clear hw; subst hw') | (go_at_call 31; refine (within_any _ _ _ _).mono ?_; rintro e w2 ⟨rfl, hw⟩; have hw' := hw.symm; clear hw; subst hw') | (go_at_call 79; refine (place_any _ _ _).mono ?_; rintro e w2 ⟨rfl, hw⟩; have hw' := hw.symm; clear hw; subst hw'))
 all_goals
  go_ret
  refine ⟨?_, by first | exact (Below.refl _ _).alloc (Nat.le_refl _) _ | exact ((Below.refl _ _).alloc (Nat.le_refl _) _).alloc (by simp) _⟩
  first | exact ret_bool (by rw [Bool.eq_iff_iff]; simp only [Bool.and_eq_true, decide_eq_true_eq]; omega) | exact ret_bool (by simp; omega) | exact ret_bool (by simp) | exact ret_dec (by simp; omega)
set_option maxRecDepth 100000 in
set_option maxHeartbeats 2000000 in
theorem fit_asking (n s z : Int) (vi vs : Value) (ah : Option Addr) (len cap : Nat) (x y : Int) (w : World) : Calls Tryz.prog 43 #[.agg #[.int .i64 n, .int .i64 s, vi, .slice ah len cap, vs, .int .i64 z], vAsk x y] w fun e w' => e = .returned (.bool (decide (0 ≤ x ∧ x < 4 ∧ 0 ≤ y ∧ y ≤ 1))) ∧ Below w.heap.size w w' := by
 have q0 : ∀ W : World, (Instr.typeAssert (vAsk x y) 80 135 true).run Tryz.prog W = .ok (.tuple #[.agg #[.int .i64 0, .int .i64 0], .bool false]) W := fun W => by kernel_rfl
 have q1 : ∀ W : World, (Instr.typeAssert (vAsk x y) 80 137 true).run Tryz.prog W = .ok (.tuple #[.agg #[.int .i64 0], .bool false]) W := fun W => by kernel_rfl
 have q2 : ∀ W : World, (Instr.typeAssert (vAsk x y) 80 139 true).run Tryz.prog W = .ok (.tuple #[.agg #[.int .i64 0, .int .i64 0, .int .i64 0], .bool false]) W := fun W => by kernel_rfl
 have q3 : ∀ W : World, (Instr.typeAssert (vAsk x y) 80 141 true).run Tryz.prog W = .ok (.tuple #[.agg #[.int .i64 0, .int .i64 0, .int .i64 0], .bool false]) W := fun W => by kernel_rfl
 have q4 : ∀ W : World, (Instr.typeAssert (vAsk x y) 80 132 true).run Tryz.prog W = .ok (.tuple #[.agg #[.int .i64 x, .int .i64 y], .bool true]) W := fun W => by kernel_rfl
 go_enter Tryz.func43, Tryz.ntmps43
 go_wp2_with (first | (go_at_call 78; refine (isReg_any _ _).mono ?_; rintro e w2 ⟨rfl, hw⟩; have hw' := hw.symm; clear hw; subst hw') | (go_at_call 31; refine (within_any _ _ _ _).mono ?_; rintro e w2 ⟨rfl, hw⟩; have hw' := hw.symm; clear hw; subst hw') | (go_at_call 79; refine (place_any _ _ _).mono ?_; rintro e w2 ⟨rfl, hw⟩; have hw' := hw.symm; clear hw; subst hw'))
 all_goals
  go_ret
  refine ⟨?_, by first | exact (Below.refl _ _).alloc (Nat.le_refl _) _ | exact ((Below.refl _ _).alloc (Nat.le_refl _) _).alloc (by simp) _⟩
  first | exact ret_bool (by rw [Bool.eq_iff_iff]; simp only [Bool.and_eq_true, decide_eq_true_eq]; omega) | exact ret_bool (by simp; omega) | exact ret_bool (by simp) | exact ret_dec (by simp; omega)
set_option maxRecDepth 100000 in
set_option maxHeartbeats 2000000 in
theorem fit_emitting (n s z : Int) (vi vs : Value) (ah : Option Addr) (len cap : Nat) (x : Int) (w : World) : Calls Tryz.prog 43 #[.agg #[.int .i64 n, .int .i64 s, vi, .slice ah len cap, vs, .int .i64 z], vEmit x] w fun e w' => e = .returned (.bool (decide (0 ≤ x ∧ x ≤ 1))) ∧ Below w.heap.size w w' := by
 have q0 : ∀ W : World, (Instr.typeAssert (vEmit x) 80 135 true).run Tryz.prog W = .ok (.tuple #[.agg #[.int .i64 0, .int .i64 0], .bool false]) W := fun W => by kernel_rfl
 have q1 : ∀ W : World, (Instr.typeAssert (vEmit x) 80 137 true).run Tryz.prog W = .ok (.tuple #[.agg #[.int .i64 0], .bool false]) W := fun W => by kernel_rfl
 have q2 : ∀ W : World, (Instr.typeAssert (vEmit x) 80 139 true).run Tryz.prog W = .ok (.tuple #[.agg #[.int .i64 0, .int .i64 0, .int .i64 0], .bool false]) W := fun W => by kernel_rfl
 have q3 : ∀ W : World, (Instr.typeAssert (vEmit x) 80 141 true).run Tryz.prog W = .ok (.tuple #[.agg #[.int .i64 0, .int .i64 0, .int .i64 0], .bool false]) W := fun W => by kernel_rfl
 have q4 : ∀ W : World, (Instr.typeAssert (vEmit x) 80 132 true).run Tryz.prog W = .ok (.tuple #[.agg #[.int .i64 0, .int .i64 0], .bool false]) W := fun W => by kernel_rfl
 have q5 : ∀ W : World, (Instr.typeAssert (vEmit x) 80 142 true).run Tryz.prog W = .ok (.tuple #[.agg #[.int .i64 x], .bool true]) W := fun W => by kernel_rfl
 go_enter Tryz.func43, Tryz.ntmps43
 go_wp2_with (first | (go_at_call 78; refine (isReg_any _ _).mono ?_; rintro e w2 ⟨rfl, hw⟩; have hw' := hw.symm; clear hw; subst hw') | (go_at_call 31; refine (within_any _ _ _ _).mono ?_; rintro e w2 ⟨rfl, hw⟩; have hw' := hw.symm; clear hw; subst hw') | (go_at_call 79; refine (place_any _ _ _).mono ?_; rintro e w2 ⟨rfl, hw⟩; have hw' := hw.symm; clear hw; subst hw'))
 all_goals
  go_ret
  refine ⟨?_, by first | exact (Below.refl _ _).alloc (Nat.le_refl _) _ | exact ((Below.refl _ _).alloc (Nat.le_refl _) _).alloc (by simp) _⟩
  first | exact ret_bool (by rw [Bool.eq_iff_iff]; simp only [Bool.and_eq_true, decide_eq_true_eq]; omega) | exact ret_bool (by simp; omega) | exact ret_bool (by simp) | exact ret_dec (by simp; omega)
set_option maxRecDepth 100000 in
set_option maxHeartbeats 2000000 in
theorem fit_drawing (n s z : Int) (vi vs : Value) (ah : Option Addr) (len cap : Nat) (x y : Int) (w : World) : Calls Tryz.prog 43 #[.agg #[.int .i64 n, .int .i64 s, vi, .slice ah len cap, vs, .int .i64 z], vDraw x y] w fun e w' => e = .returned (.bool (decide (0 ≤ x ∧ x ≤ 1 ∧ 1 ≤ y ∧ y ≤ 999))) ∧ Below w.heap.size w w' := by
 have q0 : ∀ W : World, (Instr.typeAssert (vDraw x y) 80 135 true).run Tryz.prog W = .ok (.tuple #[.agg #[.int .i64 0, .int .i64 0], .bool false]) W := fun W => by kernel_rfl
 have q1 : ∀ W : World, (Instr.typeAssert (vDraw x y) 80 137 true).run Tryz.prog W = .ok (.tuple #[.agg #[.int .i64 0], .bool false]) W := fun W => by kernel_rfl
 have q2 : ∀ W : World, (Instr.typeAssert (vDraw x y) 80 139 true).run Tryz.prog W = .ok (.tuple #[.agg #[.int .i64 0, .int .i64 0, .int .i64 0], .bool false]) W := fun W => by kernel_rfl
 have q3 : ∀ W : World, (Instr.typeAssert (vDraw x y) 80 141 true).run Tryz.prog W = .ok (.tuple #[.agg #[.int .i64 0, .int .i64 0, .int .i64 0], .bool false]) W := fun W => by kernel_rfl
 have q4 : ∀ W : World, (Instr.typeAssert (vDraw x y) 80 132 true).run Tryz.prog W = .ok (.tuple #[.agg #[.int .i64 0, .int .i64 0], .bool false]) W := fun W => by kernel_rfl
 have q5 : ∀ W : World, (Instr.typeAssert (vDraw x y) 80 142 true).run Tryz.prog W = .ok (.tuple #[.agg #[.int .i64 0], .bool false]) W := fun W => by kernel_rfl
 have q6 : ∀ W : World, (Instr.typeAssert (vDraw x y) 80 144 true).run Tryz.prog W = .ok (.tuple #[.agg #[.int .i64 x, .int .i64 y], .bool true]) W := fun W => by kernel_rfl
 go_enter Tryz.func43, Tryz.ntmps43
 go_wp2_with (first | (go_at_call 78; refine (isReg_any _ _).mono ?_; rintro e w2 ⟨rfl, hw⟩; have hw' := hw.symm; clear hw; subst hw') | (go_at_call 31; refine (within_any _ _ _ _).mono ?_; rintro e w2 ⟨rfl, hw⟩; have hw' := hw.symm; clear hw; subst hw') | (go_at_call 79; refine (place_any _ _ _).mono ?_; rintro e w2 ⟨rfl, hw⟩; have hw' := hw.symm; clear hw; subst hw'))
 all_goals
  go_ret
  refine ⟨?_, by first | exact (Below.refl _ _).alloc (Nat.le_refl _) _ | exact ((Below.refl _ _).alloc (Nat.le_refl _) _).alloc (by simp) _⟩
  first | exact ret_bool (by rw [Bool.eq_iff_iff]; simp only [Bool.and_eq_true, decide_eq_true_eq]; omega) | exact ret_bool (by simp; omega) | exact ret_bool (by simp) | exact ret_dec (by simp; omega)
set_option maxRecDepth 100000 in
set_option maxHeartbeats 2000000 in
theorem fit_none (n s z : Int) (vi vs : Value) (ah : Option Addr) (len cap : Nat) (w : World) : Calls Tryz.prog 43 #[.agg #[.int .i64 n, .int .i64 s, vi, .slice ah len cap, vs, .int .i64 z], .nilIface] w fun e w' => e = .returned (.bool false) ∧ Below w.heap.size w w' := by
 have q0 : ∀ W : World, (Instr.typeAssert .nilIface 80 135 true).run Tryz.prog W = .ok (.tuple #[.agg #[.int .i64 0, .int .i64 0], .bool false]) W := fun W => by kernel_rfl
 have q1 : ∀ W : World, (Instr.typeAssert .nilIface 80 137 true).run Tryz.prog W = .ok (.tuple #[.agg #[.int .i64 0], .bool false]) W := fun W => by kernel_rfl
 have q2 : ∀ W : World, (Instr.typeAssert .nilIface 80 139 true).run Tryz.prog W = .ok (.tuple #[.agg #[.int .i64 0, .int .i64 0, .int .i64 0], .bool false]) W := fun W => by kernel_rfl
 have q3 : ∀ W : World, (Instr.typeAssert .nilIface 80 141 true).run Tryz.prog W = .ok (.tuple #[.agg #[.int .i64 0, .int .i64 0, .int .i64 0], .bool false]) W := fun W => by kernel_rfl
 have q4 : ∀ W : World, (Instr.typeAssert .nilIface 80 132 true).run Tryz.prog W = .ok (.tuple #[.agg #[.int .i64 0, .int .i64 0], .bool false]) W := fun W => by kernel_rfl
 have q5 : ∀ W : World, (Instr.typeAssert .nilIface 80 142 true).run Tryz.prog W = .ok (.tuple #[.agg #[.int .i64 0], .bool false]) W := fun W => by kernel_rfl
 have q6 : ∀ W : World, (Instr.typeAssert .nilIface 80 144 true).run Tryz.prog W = .ok (.tuple #[.agg #[.int .i64 0, .int .i64 0], .bool false]) W := fun W => by kernel_rfl
 go_enter Tryz.func43, Tryz.ntmps43
 go_wp2
 go_ret
 exact ⟨rfl, (Below.refl _ _).alloc (Nat.le_refl _) _⟩
set_option maxHeartbeats 400000 in
theorem op_adding (x y : Int) (w : World) : Calls Tryz.prog 180 #[.agg #[.int .i64 x, .int .i64 y]] w fun e w' => e = .returned (.agg #[.int .i64 0, .int .i64 x, .int .i64 y, .int .i64 0]) ∧ Below w.heap.size w w' := by
 go_enter Tryz.func180, Tryz.ntmps180
 go_wp2
 exact bodyPost_ret (v := .agg #[.int .i64 0, .int .i64 x, .int .i64 y, .int .i64 0]) (by simp [results, Tryz.results180, go_sem]) rfl ⟨rfl, ((Below.refl _ _).alloc (Nat.le_refl _) _).alloc (by simp) _⟩
set_option maxHeartbeats 400000 in
theorem op_taking (x : Int) (w : World) : Calls Tryz.prog 181 #[.agg #[.int .i64 x]] w fun e w' => e = .returned (.agg #[.int .i64 1, .int .i64 x, .int .i64 0, .int .i64 0]) ∧ Below w.heap.size w w' := by
 go_enter Tryz.func181, Tryz.ntmps181
 go_wp2
 exact bodyPost_ret (v := .agg #[.int .i64 1, .int .i64 x, .int .i64 0, .int .i64 0]) (by simp [results, Tryz.results181, go_sem]) rfl ⟨rfl, ((Below.refl _ _).alloc (Nat.le_refl _) _).alloc (by simp) _⟩
set_option maxHeartbeats 400000 in
theorem op_sending (x y t : Int) (w : World) : Calls Tryz.prog 182 #[.agg #[.int .i64 x, .int .i64 y, .int .i64 t]] w fun e w' => e = .returned (.agg #[.int .i64 2, .int .i64 x, .int .i64 y, .int .i64 t]) ∧ Below w.heap.size w w' := by
 go_enter Tryz.func182, Tryz.ntmps182
 go_wp2
 exact bodyPost_ret (v := .agg #[.int .i64 2, .int .i64 x, .int .i64 y, .int .i64 t]) (by simp [results, Tryz.results182, go_sem]) rfl ⟨rfl, ((Below.refl _ _).alloc (Nat.le_refl _) _).alloc (by simp) _⟩
set_option maxHeartbeats 400000 in
theorem op_skipping (x y t : Int) (w : World) : Calls Tryz.prog 183 #[.agg #[.int .i64 x, .int .i64 y, .int .i64 t]] w fun e w' => e = .returned (.agg #[.int .i64 3, .int .i64 x, .int .i64 y, .int .i64 t]) ∧ Below w.heap.size w w' := by
 go_enter Tryz.func183, Tryz.ntmps183
 go_wp2
 exact bodyPost_ret (v := .agg #[.int .i64 3, .int .i64 x, .int .i64 y, .int .i64 t]) (by simp [results, Tryz.results183, go_sem]) rfl ⟨rfl, ((Below.refl _ _).alloc (Nat.le_refl _) _).alloc (by simp) _⟩
set_option maxHeartbeats 400000 in
theorem op_asking (x y : Int) (w : World) : Calls Tryz.prog 179 #[.agg #[.int .i64 x, .int .i64 y]] w fun e w' => e = .returned (.agg #[.int .i64 4, .int .i64 x, .int .i64 y, .int .i64 0]) ∧ Below w.heap.size w w' := by
 go_enter Tryz.func179, Tryz.ntmps179
 go_wp2
 exact bodyPost_ret (v := .agg #[.int .i64 4, .int .i64 x, .int .i64 y, .int .i64 0]) (by simp [results, Tryz.results179, go_sem]) rfl ⟨rfl, ((Below.refl _ _).alloc (Nat.le_refl _) _).alloc (by simp) _⟩
set_option maxHeartbeats 400000 in
theorem op_emitting (x : Int) (w : World) : Calls Tryz.prog 184 #[.agg #[.int .i64 x]] w fun e w' => e = .returned (.agg #[.int .i64 5, .int .i64 x, .int .i64 0, .int .i64 0]) ∧ Below w.heap.size w w' := by
 go_enter Tryz.func184, Tryz.ntmps184
 go_wp2
 exact bodyPost_ret (v := .agg #[.int .i64 5, .int .i64 x, .int .i64 0, .int .i64 0]) (by simp [results, Tryz.results184, go_sem]) rfl ⟨rfl, ((Below.refl _ _).alloc (Nat.le_refl _) _).alloc (by simp) _⟩
set_option maxHeartbeats 400000 in
theorem op_drawing (x y : Int) (w : World) : Calls Tryz.prog 185 #[.agg #[.int .i64 x, .int .i64 y]] w fun e w' => e = .returned (.agg #[.int .i64 6, .int .i64 x, .int .i64 y, .int .i64 0]) ∧ Below w.heap.size w w' := by
 go_enter Tryz.func185, Tryz.ntmps185
 go_wp2
 exact bodyPost_ret (v := .agg #[.int .i64 6, .int .i64 x, .int .i64 y, .int .i64 0]) (by simp [results, Tryz.results185, go_sem]) rfl ⟨rfl, ((Below.refl _ _).alloc (Nat.le_refl _) _).alloc (by simp) _⟩
theorem m_adding (x y : Int) (w : World) : (method 355 135 (.agg #[.int .i64 x, .int .i64 y]) "loop.example/g00603/impl.op").run Tryz.prog w = .ok (180, .agg #[.int .i64 x, .int .i64 y]) w := by kernel_rfl
theorem m_taking (x : Int) (w : World) : (method 355 137 (.agg #[.int .i64 x]) "loop.example/g00603/impl.op").run Tryz.prog w = .ok (181, .agg #[.int .i64 x]) w := by kernel_rfl
theorem m_sending (x y t : Int) (w : World) : (method 355 139 (.agg #[.int .i64 x, .int .i64 y, .int .i64 t]) "loop.example/g00603/impl.op").run Tryz.prog w = .ok (182, .agg #[.int .i64 x, .int .i64 y, .int .i64 t]) w := by kernel_rfl
theorem m_skipping (x y t : Int) (w : World) : (method 355 141 (.agg #[.int .i64 x, .int .i64 y, .int .i64 t]) "loop.example/g00603/impl.op").run Tryz.prog w = .ok (183, .agg #[.int .i64 x, .int .i64 y, .int .i64 t]) w := by kernel_rfl
theorem m_asking (x y : Int) (w : World) : (method 355 132 (.agg #[.int .i64 x, .int .i64 y]) "loop.example/g00603/impl.op").run Tryz.prog w = .ok (179, .agg #[.int .i64 x, .int .i64 y]) w := by kernel_rfl
theorem m_emitting (x : Int) (w : World) : (method 355 142 (.agg #[.int .i64 x]) "loop.example/g00603/impl.op").run Tryz.prog w = .ok (184, .agg #[.int .i64 x]) w := by kernel_rfl
theorem m_drawing (x y : Int) (w : World) : (method 355 144 (.agg #[.int .i64 x, .int .i64 y]) "loop.example/g00603/impl.op").run Tryz.prog w = .ok (185, .agg #[.int .i64 x, .int .i64 y]) w := by kernel_rfl
end Go.Proofs.YtbljfphdghfkfaaGreatDoor
