/- The program's CmdOk. -/
import Derived.Test.YtkdmdcahnifjpaaGreatExactCmdOkG00
import Derived.Test.YtkdmdcahnifjpaaGreatExactCmdOkLMBox
import Derived.Laws.EntriesVeiled
namespace Go.Proofs.YtkdmdcahnifjpaaGreat
open Go.RowKit
set_option maxHeartbeats 4000000 in
theorem cmdOf0 (w : World) : Calls Tryz.prog 7 #[.int .i64 0] w fun e w' => ∃ v c, e = .returned (.tuple #[.agg #[.int .i64 2, .slice v 2 c, .func (.func 10) #[] #[]], .bool true]) ∧ Below w.heap.size w w' := by
  go_enter Tryz.func7, Tryz.ntmps7
  go_wp2
  exact bodyPost_ret (v := .tuple #[.agg #[.int .i64 2, .slice (some ⟨w.heap.size + 1, 0, none⟩) 2 2, .func (.func 10) #[] #[]], .bool true]) (by simp [results, Tryz.results7, go_sem]) rfl
    ⟨_, _, rfl, ((Below.refl _ _).alloc (Nat.le_refl _) _).alloc (by simp) _⟩
set_option maxHeartbeats 4000000 in
theorem cmdOf1 (w : World) : Calls Tryz.prog 7 #[.int .i64 1] w fun e w' => ∃ v c, e = .returned (.tuple #[.agg #[.int .i64 2, .slice v 2 c, .func (.func 13) #[] #[]], .bool true]) ∧ Below w.heap.size w w' := by
  go_enter Tryz.func7, Tryz.ntmps7
  go_wp2
  exact bodyPost_ret (v := .tuple #[.agg #[.int .i64 2, .slice (some ⟨w.heap.size + 1, 0, none⟩) 2 2, .func (.func 13) #[] #[]], .bool true]) (by simp [results, Tryz.results7, go_sem]) rfl
    ⟨_, _, rfl, ((Below.refl _ _).alloc (Nat.le_refl _) _).alloc (by simp) _⟩
set_option maxHeartbeats 4000000 in
theorem cmdOf2 (w : World) : Calls Tryz.prog 7 #[.int .i64 2] w fun e w' => ∃ v c, e = .returned (.tuple #[.agg #[.int .i64 1, .slice v 1 c, .func (.func 15) #[] #[]], .bool true]) ∧ Below w.heap.size w w' := by
  go_enter Tryz.func7, Tryz.ntmps7
  go_wp2
  exact bodyPost_ret (v := .tuple #[.agg #[.int .i64 1, .slice (some ⟨w.heap.size + 1, 0, none⟩) 1 1, .func (.func 15) #[] #[]], .bool true]) (by simp [results, Tryz.results7, go_sem]) rfl
    ⟨_, _, rfl, ((Below.refl _ _).alloc (Nat.le_refl _) _).alloc (by simp) _⟩
set_option maxHeartbeats 4000000 in
theorem cmdOf3 (w : World) : Calls Tryz.prog 7 #[.int .i64 3] w fun e w' => ∃ v c, e = .returned (.tuple #[.agg #[.int .i64 1, .slice v 2 c, .func (.func 18) #[] #[]], .bool true]) ∧ Below w.heap.size w w' := by
  go_enter Tryz.func7, Tryz.ntmps7
  go_wp2
  exact bodyPost_ret (v := .tuple #[.agg #[.int .i64 1, .slice (some ⟨w.heap.size + 1, 0, none⟩) 2 2, .func (.func 18) #[] #[]], .bool true]) (by simp [results, Tryz.results7, go_sem]) rfl
    ⟨_, _, rfl, ((Below.refl _ _).alloc (Nat.le_refl _) _).alloc (by simp) _⟩
set_option maxHeartbeats 4000000 in
theorem cmdOf4 (w : World) : Calls Tryz.prog 7 #[.int .i64 4] w fun e w' => ∃ v c, e = .returned (.tuple #[.agg #[.int .i64 3, .slice v 3 c, .func (.func 21) #[] #[]], .bool true]) ∧ Below w.heap.size w w' := by
  go_enter Tryz.func7, Tryz.ntmps7
  go_wp2
  exact bodyPost_ret (v := .tuple #[.agg #[.int .i64 3, .slice (some ⟨w.heap.size + 1, 0, none⟩) 3 3, .func (.func 21) #[] #[]], .bool true]) (by simp [results, Tryz.results7, go_sem]) rfl
    ⟨_, _, rfl, ((Below.refl _ _).alloc (Nat.le_refl _) _).alloc (by simp) _⟩
set_option maxHeartbeats 4000000 in
theorem cmdOf5 (w : World) : Calls Tryz.prog 7 #[.int .i64 5] w fun e w' => ∃ v c, e = .returned (.tuple #[.agg #[.int .i64 0, .slice v 1 c, .func (.func 23) #[] #[]], .bool true]) ∧ Below w.heap.size w w' := by
  go_enter Tryz.func7, Tryz.ntmps7
  go_wp2
  exact bodyPost_ret (v := .tuple #[.agg #[.int .i64 0, .slice (some ⟨w.heap.size + 1, 0, none⟩) 1 1, .func (.func 23) #[] #[]], .bool true]) (by simp [results, Tryz.results7, go_sem]) rfl
    ⟨_, _, rfl, ((Below.refl _ _).alloc (Nat.le_refl _) _).alloc (by simp) _⟩
set_option maxHeartbeats 4000000 in
theorem cmdOfNo (k : Int) (w : World) (h : ¬ (0 ≤ k ∧ k ≤ 5)) : Calls Tryz.prog 7 #[.int .i64 k] w fun e w' => e = .returned (.tuple #[.agg #[.int .i64 0, .slice none 0 0, .nilFunc], .bool false]) ∧ Below w.heap.size w w' := by
  have h0 : ¬ k = 0 := by omega
  have h1 : ¬ k = 1 := by omega
  have h2 : ¬ k = 2 := by omega
  have h3 : ¬ k = 3 := by omega
  have h4 : ¬ k = 4 := by omega
  have h5 : ¬ k = 5 := by omega
  clear h
  go_enter Tryz.func7, Tryz.ntmps7
  go_wp2
  exact bodyPost_ret (v := .tuple #[.agg #[.int .i64 0, .slice none 0 0, .nilFunc], .bool false]) (by simp [results, Tryz.results7, go_sem]) rfl
    ⟨rfl, (Below.refl _ _).alloc (Nat.le_refl _) _⟩
set_option maxRecDepth 100000 in
set_option maxHeartbeats 8000000 in
theorem iCmd0 (t a b : Int) (w : World) :
    Calls Tryz.prog 6 #[.agg #[.int .i64 0, .int .i64 t, .int .i64 a, .int .i64 b]] w fun e w' => e = .returned (.bool (cmdB 0 t a b)) ∧ Below w.heap.size w w' := by
  have j0 : ∀ W, (Instr.index 34 (.agg #[.int .i64 t, .int .i64 a, .int .i64 b]) (.int .i64 0)).run Tryz.prog W = .ok (.int .i64 t) W := fun W => by kernel_rfl
  have j1 : ∀ W, (Instr.index 34 (.agg #[.int .i64 t, .int .i64 a, .int .i64 b]) (.int .i64 1)).run Tryz.prog W = .ok (.int .i64 a) W := fun W => by kernel_rfl
  have j2 : ∀ W, (Instr.index 34 (.agg #[.int .i64 t, .int .i64 a, .int .i64 b]) (.int .i64 2)).run Tryz.prog W = .ok (.int .i64 b) W := fun W => by kernel_rfl
  obtain ⟨W0, hW0⟩ : ∃ W0, w.alloc (.cells #[.int .i64 0, .int .i64 t, .int .i64 a, .int .i64 b] 25) = W0 := ⟨_, rfl⟩
  have HP0 : Hid (Bk W0 w.heap.size 25 #[.int .i64 0, .int .i64 t, .int .i64 a, .int .i64 b]) := by rw [← hW0]; exact Bk.new w _ _
  have HB0 : Hid (Below w.heap.size w W0) := by rw [← hW0]; exact (Below.refl _ w).alloc (Nat.le_refl _) _
  have p0 := HP0.out.cell (i := 0) rfl
  go_enter Tryz.func6, Tryz.ntmps6
  go_wp2_with fail
  clear p0 hW0
  refine (cmdOf0 _).mono ?_
  rintro e w1 ⟨v, c, rfl, hb⟩
  obtain ⟨V, hV⟩ : ∃ V, w1.alloc (.cells #[.int .i64 2, .slice v 2 c, .func (.func 10) #[] #[]] 31) = V := ⟨_, rfl⟩
  have HPV : Hid (Bk V w.heap.size 25 #[.int .i64 0, .int .i64 t, .int .i64 a, .int .i64 b]) := by rw [← hV]; exact (HP0.out.below hb).alloc _
  have HKV : Hid (Bk V w1.heap.size 31 #[.int .i64 2, .slice v 2 c, .func (.func 10) #[] #[]]) := by rw [← hV]; exact Bk.new _ _ _
  have HBV : Hid (Below w.heap.size w V) := by rw [← hV]; exact (HB0.out.trans (hb.mono HB0.out.size)).alloc (Nat.le_trans HB0.out.size hb.size) _
  have p1 := HPV.out.cell (i := 1) rfl
  have p2 := HPV.out.cell (i := 2) rfl
  have p3 := HPV.out.cell (i := 3) rfl
  have q0 := HKV.out.cell (i := 0) rfl
  clear hb HB0 HP0
  go_wp2
  clear hV
  go_loopw [22] (fun i wr => ∃ j : Nat, j ≤ 3 ∧ i = .int .i64 j ∧ Hid (∀ q, q < j → (q = 0 → 0 ≤ t) ∧ (q = 1 → 0 ≤ a) ∧ (q = 2 → b = 0)) ∧ wr = V) (fun i _ => 3 - (intOf i).toNat)
  case atStart => exact ⟨0, by omega, rfl, fun q hq => by omega, rfl⟩
  case round =>
    obtain ⟨j, hj, rfl, HA, hw⟩ := hrel
    subst hw
    have hj4 : j = 0 ∨ j = 1 ∨ j = 2 ∨ j = 3 := by omega
    clear hj
    rcases hj4 with rfl | rfl | rfl | rfl
    · by_cases hx : 0 ≤ t
      case neg =>
        have HN : Hid (cmdB 0 t a b = false) := decide_eq_false (by omega)
        go_wp2
        go_ret
        exact ⟨ret_bool HN.out.symm, HBV.out⟩
      have HX : Hid (0 ≤ t) := hx
      skip
      go_wp2
      go_roundw
      case rel => exact ⟨1, by omega, by go_num, fun q hq => by
        by_cases e : q = 0
        · subst e
          have := HX.out
          exact ⟨fun h => by first | assumption | omega | rfl | trivial, fun h => by first | assumption | omega | rfl | trivial, fun h => by first | assumption | omega | rfl | trivial⟩
        · exact (by simpa using HA.out q (by omega)), by first | rfl | trivial⟩
      case measure => simp [intOf]
    · by_cases hx : 0 ≤ a
      case neg =>
        have HN : Hid (cmdB 0 t a b = false) := decide_eq_false (by omega)
        go_wp2
        go_ret
        exact ⟨ret_bool HN.out.symm, HBV.out⟩
      have HX : Hid (0 ≤ a) := hx
      skip
      go_wp2
      go_roundw
      case rel => exact ⟨2, by omega, by go_num, fun q hq => by
        by_cases e : q = 1
        · subst e
          have := HX.out
          exact ⟨fun h => by first | assumption | omega | rfl | trivial, fun h => by first | assumption | omega | rfl | trivial, fun h => by first | assumption | omega | rfl | trivial⟩
        · exact (by simpa using HA.out q (by omega)), by first | rfl | trivial⟩
      case measure => simp [intOf]
    · by_cases hx : b = 0
      case neg =>
        have HN : Hid (cmdB 0 t a b = false) := decide_eq_false (by omega)
        by_cases hneg : b < 0
        · clear hx
          go_wp2
          go_ret
          exact ⟨ret_bool HN.out.symm, HBV.out⟩
        · have hb1 : (b != 0) = true := by simp [hx]
          have hb2 : (b == 0) = false := by simp [hx]
          go_wp2
          go_ret
          exact ⟨ret_bool HN.out.symm, HBV.out⟩
      have HX : Hid (b = 0) := hx
      subst hx
      go_wp2
      go_roundw
      case rel => exact ⟨3, by omega, by go_num, fun q hq => by
        by_cases e : q = 2
        · subst e
          have := HX.out
          exact ⟨fun h => by first | assumption | omega | rfl | trivial, fun h => by first | assumption | omega | rfl | trivial, fun h => by first | assumption | omega | rfl | trivial⟩
        · exact (by simpa using HA.out q (by omega)), by first | rfl | trivial⟩
      case measure => simp [intOf]
    · have HY : Hid ((0 ≤ t) ∧ (0 ≤ a) ∧ (b = 0)) := ⟨(HA.out 0 (by omega)).1 rfl, (HA.out 1 (by omega)).2.1 rfl, (HA.out 2 (by omega)).2.2 rfl⟩
      go_wp2
      all_goals
        go_ret
        refine ⟨?_, HBV.out⟩
        have hy := HY.out
        first | exact ret_dec (by simp [cmdB]; omega) | exact ret_bool (by simp [cmdB]; omega)
set_option maxRecDepth 100000 in
set_option maxHeartbeats 8000000 in
theorem iCmd1 (t a b : Int) (w : World) :
    Calls Tryz.prog 6 #[.agg #[.int .i64 1, .int .i64 t, .int .i64 a, .int .i64 b]] w fun e w' => e = .returned (.bool (cmdB 1 t a b)) ∧ Below w.heap.size w w' := by
  have j0 : ∀ W, (Instr.index 34 (.agg #[.int .i64 t, .int .i64 a, .int .i64 b]) (.int .i64 0)).run Tryz.prog W = .ok (.int .i64 t) W := fun W => by kernel_rfl
  have j1 : ∀ W, (Instr.index 34 (.agg #[.int .i64 t, .int .i64 a, .int .i64 b]) (.int .i64 1)).run Tryz.prog W = .ok (.int .i64 a) W := fun W => by kernel_rfl
  have j2 : ∀ W, (Instr.index 34 (.agg #[.int .i64 t, .int .i64 a, .int .i64 b]) (.int .i64 2)).run Tryz.prog W = .ok (.int .i64 b) W := fun W => by kernel_rfl
  obtain ⟨W0, hW0⟩ : ∃ W0, w.alloc (.cells #[.int .i64 1, .int .i64 t, .int .i64 a, .int .i64 b] 25) = W0 := ⟨_, rfl⟩
  have HP0 : Hid (Bk W0 w.heap.size 25 #[.int .i64 1, .int .i64 t, .int .i64 a, .int .i64 b]) := by rw [← hW0]; exact Bk.new w _ _
  have HB0 : Hid (Below w.heap.size w W0) := by rw [← hW0]; exact (Below.refl _ w).alloc (Nat.le_refl _) _
  have p0 := HP0.out.cell (i := 0) rfl
  go_enter Tryz.func6, Tryz.ntmps6
  go_wp2_with fail
  clear p0 hW0
  refine (cmdOf1 _).mono ?_
  rintro e w1 ⟨v, c, rfl, hb⟩
  obtain ⟨V, hV⟩ : ∃ V, w1.alloc (.cells #[.int .i64 2, .slice v 2 c, .func (.func 13) #[] #[]] 31) = V := ⟨_, rfl⟩
  have HPV : Hid (Bk V w.heap.size 25 #[.int .i64 1, .int .i64 t, .int .i64 a, .int .i64 b]) := by rw [← hV]; exact (HP0.out.below hb).alloc _
  have HKV : Hid (Bk V w1.heap.size 31 #[.int .i64 2, .slice v 2 c, .func (.func 13) #[] #[]]) := by rw [← hV]; exact Bk.new _ _ _
  have HBV : Hid (Below w.heap.size w V) := by rw [← hV]; exact (HB0.out.trans (hb.mono HB0.out.size)).alloc (Nat.le_trans HB0.out.size hb.size) _
  have p1 := HPV.out.cell (i := 1) rfl
  have p2 := HPV.out.cell (i := 2) rfl
  have p3 := HPV.out.cell (i := 3) rfl
  have q0 := HKV.out.cell (i := 0) rfl
  clear hb HB0 HP0
  go_wp2
  clear hV
  go_loopw [22] (fun i wr => ∃ j : Nat, j ≤ 3 ∧ i = .int .i64 j ∧ Hid (∀ q, q < j → (q = 0 → 0 ≤ t) ∧ (q = 1 → 0 ≤ a) ∧ (q = 2 → b = 0)) ∧ wr = V) (fun i _ => 3 - (intOf i).toNat)
  case atStart => exact ⟨0, by omega, rfl, fun q hq => by omega, rfl⟩
  case round =>
    obtain ⟨j, hj, rfl, HA, hw⟩ := hrel
    subst hw
    have hj4 : j = 0 ∨ j = 1 ∨ j = 2 ∨ j = 3 := by omega
    clear hj
    rcases hj4 with rfl | rfl | rfl | rfl
    · by_cases hx : 0 ≤ t
      case neg =>
        have HN : Hid (cmdB 1 t a b = false) := decide_eq_false (by omega)
        go_wp2
        go_ret
        exact ⟨ret_bool HN.out.symm, HBV.out⟩
      have HX : Hid (0 ≤ t) := hx
      skip
      go_wp2
      go_roundw
      case rel => exact ⟨1, by omega, by go_num, fun q hq => by
        by_cases e : q = 0
        · subst e
          have := HX.out
          exact ⟨fun h => by first | assumption | omega | rfl | trivial, fun h => by first | assumption | omega | rfl | trivial, fun h => by first | assumption | omega | rfl | trivial⟩
        · exact (by simpa using HA.out q (by omega)), by first | rfl | trivial⟩
      case measure => simp [intOf]
    · by_cases hx : 0 ≤ a
      case neg =>
        have HN : Hid (cmdB 1 t a b = false) := decide_eq_false (by omega)
        go_wp2
        go_ret
        exact ⟨ret_bool HN.out.symm, HBV.out⟩
      have HX : Hid (0 ≤ a) := hx
      skip
      go_wp2
      go_roundw
      case rel => exact ⟨2, by omega, by go_num, fun q hq => by
        by_cases e : q = 1
        · subst e
          have := HX.out
          exact ⟨fun h => by first | assumption | omega | rfl | trivial, fun h => by first | assumption | omega | rfl | trivial, fun h => by first | assumption | omega | rfl | trivial⟩
        · exact (by simpa using HA.out q (by omega)), by first | rfl | trivial⟩
      case measure => simp [intOf]
    · by_cases hx : b = 0
      case neg =>
        have HN : Hid (cmdB 1 t a b = false) := decide_eq_false (by omega)
        by_cases hneg : b < 0
        · clear hx
          go_wp2
          go_ret
          exact ⟨ret_bool HN.out.symm, HBV.out⟩
        · have hb1 : (b != 0) = true := by simp [hx]
          have hb2 : (b == 0) = false := by simp [hx]
          go_wp2
          go_ret
          exact ⟨ret_bool HN.out.symm, HBV.out⟩
      have HX : Hid (b = 0) := hx
      subst hx
      go_wp2
      go_roundw
      case rel => exact ⟨3, by omega, by go_num, fun q hq => by
        by_cases e : q = 2
        · subst e
          have := HX.out
          exact ⟨fun h => by first | assumption | omega | rfl | trivial, fun h => by first | assumption | omega | rfl | trivial, fun h => by first | assumption | omega | rfl | trivial⟩
        · exact (by simpa using HA.out q (by omega)), by first | rfl | trivial⟩
      case measure => simp [intOf]
    · have HY : Hid ((0 ≤ t) ∧ (0 ≤ a) ∧ (b = 0)) := ⟨(HA.out 0 (by omega)).1 rfl, (HA.out 1 (by omega)).2.1 rfl, (HA.out 2 (by omega)).2.2 rfl⟩
      go_wp2
      all_goals
        go_ret
        refine ⟨?_, HBV.out⟩
        have hy := HY.out
        first | exact ret_dec (by simp [cmdB]; omega) | exact ret_bool (by simp [cmdB]; omega)
set_option maxRecDepth 100000 in
set_option maxHeartbeats 8000000 in
theorem iCmd2 (t a b : Int) (w : World) :
    Calls Tryz.prog 6 #[.agg #[.int .i64 2, .int .i64 t, .int .i64 a, .int .i64 b]] w fun e w' => e = .returned (.bool (cmdB 2 t a b)) ∧ Below w.heap.size w w' := by
  have j0 : ∀ W, (Instr.index 34 (.agg #[.int .i64 t, .int .i64 a, .int .i64 b]) (.int .i64 0)).run Tryz.prog W = .ok (.int .i64 t) W := fun W => by kernel_rfl
  have j1 : ∀ W, (Instr.index 34 (.agg #[.int .i64 t, .int .i64 a, .int .i64 b]) (.int .i64 1)).run Tryz.prog W = .ok (.int .i64 a) W := fun W => by kernel_rfl
  have j2 : ∀ W, (Instr.index 34 (.agg #[.int .i64 t, .int .i64 a, .int .i64 b]) (.int .i64 2)).run Tryz.prog W = .ok (.int .i64 b) W := fun W => by kernel_rfl
  obtain ⟨W0, hW0⟩ : ∃ W0, w.alloc (.cells #[.int .i64 2, .int .i64 t, .int .i64 a, .int .i64 b] 25) = W0 := ⟨_, rfl⟩
  have HP0 : Hid (Bk W0 w.heap.size 25 #[.int .i64 2, .int .i64 t, .int .i64 a, .int .i64 b]) := by rw [← hW0]; exact Bk.new w _ _
  have HB0 : Hid (Below w.heap.size w W0) := by rw [← hW0]; exact (Below.refl _ w).alloc (Nat.le_refl _) _
  have p0 := HP0.out.cell (i := 0) rfl
  go_enter Tryz.func6, Tryz.ntmps6
  go_wp2_with fail
  clear p0 hW0
  refine (cmdOf2 _).mono ?_
  rintro e w1 ⟨v, c, rfl, hb⟩
  obtain ⟨V, hV⟩ : ∃ V, w1.alloc (.cells #[.int .i64 1, .slice v 1 c, .func (.func 15) #[] #[]] 31) = V := ⟨_, rfl⟩
  have HPV : Hid (Bk V w.heap.size 25 #[.int .i64 2, .int .i64 t, .int .i64 a, .int .i64 b]) := by rw [← hV]; exact (HP0.out.below hb).alloc _
  have HKV : Hid (Bk V w1.heap.size 31 #[.int .i64 1, .slice v 1 c, .func (.func 15) #[] #[]]) := by rw [← hV]; exact Bk.new _ _ _
  have HBV : Hid (Below w.heap.size w V) := by rw [← hV]; exact (HB0.out.trans (hb.mono HB0.out.size)).alloc (Nat.le_trans HB0.out.size hb.size) _
  have p1 := HPV.out.cell (i := 1) rfl
  have p2 := HPV.out.cell (i := 2) rfl
  have p3 := HPV.out.cell (i := 3) rfl
  have q0 := HKV.out.cell (i := 0) rfl
  clear hb HB0 HP0
  go_wp2
  clear hV
  go_loopw [22] (fun i wr => ∃ j : Nat, j ≤ 3 ∧ i = .int .i64 j ∧ Hid (∀ q, q < j → (q = 0 → 0 ≤ t) ∧ (q = 1 → a = 0) ∧ (q = 2 → b = 0)) ∧ wr = V) (fun i _ => 3 - (intOf i).toNat)
  case atStart => exact ⟨0, by omega, rfl, fun q hq => by omega, rfl⟩
  case round =>
    obtain ⟨j, hj, rfl, HA, hw⟩ := hrel
    subst hw
    have hj4 : j = 0 ∨ j = 1 ∨ j = 2 ∨ j = 3 := by omega
    clear hj
    rcases hj4 with rfl | rfl | rfl | rfl
    · by_cases hx : 0 ≤ t
      case neg =>
        have HN : Hid (cmdB 2 t a b = false) := decide_eq_false (by omega)
        go_wp2
        go_ret
        exact ⟨ret_bool HN.out.symm, HBV.out⟩
      have HX : Hid (0 ≤ t) := hx
      skip
      go_wp2
      go_roundw
      case rel => exact ⟨1, by omega, by go_num, fun q hq => by
        by_cases e : q = 0
        · subst e
          have := HX.out
          exact ⟨fun h => by first | assumption | omega | rfl | trivial, fun h => by first | assumption | omega | rfl | trivial, fun h => by first | assumption | omega | rfl | trivial⟩
        · exact (by simpa using HA.out q (by omega)), by first | rfl | trivial⟩
      case measure => simp [intOf]
    · by_cases hx : a = 0
      case neg =>
        have HN : Hid (cmdB 2 t a b = false) := decide_eq_false (by omega)
        by_cases hneg : a < 0
        · clear hx
          go_wp2
          go_ret
          exact ⟨ret_bool HN.out.symm, HBV.out⟩
        · have hb1 : (a != 0) = true := by simp [hx]
          have hb2 : (a == 0) = false := by simp [hx]
          go_wp2
          go_ret
          exact ⟨ret_bool HN.out.symm, HBV.out⟩
      have HX : Hid (a = 0) := hx
      subst hx
      go_wp2
      go_roundw
      case rel => exact ⟨2, by omega, by go_num, fun q hq => by
        by_cases e : q = 1
        · subst e
          have := HX.out
          exact ⟨fun h => by first | assumption | omega | rfl | trivial, fun h => by first | assumption | omega | rfl | trivial, fun h => by first | assumption | omega | rfl | trivial⟩
        · exact (by simpa using HA.out q (by omega)), by first | rfl | trivial⟩
      case measure => simp [intOf]
    · by_cases hx : b = 0
      case neg =>
        have HN : Hid (cmdB 2 t a b = false) := decide_eq_false (by omega)
        by_cases hneg : b < 0
        · clear hx
          go_wp2
          go_ret
          exact ⟨ret_bool HN.out.symm, HBV.out⟩
        · have hb1 : (b != 0) = true := by simp [hx]
          have hb2 : (b == 0) = false := by simp [hx]
          go_wp2
          go_ret
          exact ⟨ret_bool HN.out.symm, HBV.out⟩
      have HX : Hid (b = 0) := hx
      subst hx
      go_wp2
      go_roundw
      case rel => exact ⟨3, by omega, by go_num, fun q hq => by
        by_cases e : q = 2
        · subst e
          have := HX.out
          exact ⟨fun h => by first | assumption | omega | rfl | trivial, fun h => by first | assumption | omega | rfl | trivial, fun h => by first | assumption | omega | rfl | trivial⟩
        · exact (by simpa using HA.out q (by omega)), by first | rfl | trivial⟩
      case measure => simp [intOf]
    · have HY : Hid ((0 ≤ t) ∧ (a = 0) ∧ (b = 0)) := ⟨(HA.out 0 (by omega)).1 rfl, (HA.out 1 (by omega)).2.1 rfl, (HA.out 2 (by omega)).2.2 rfl⟩
      go_wp2
      all_goals
        go_ret
        refine ⟨?_, HBV.out⟩
        have hy := HY.out
        first | exact ret_dec (by simp [cmdB]; omega) | exact ret_bool (by simp [cmdB]; omega)
set_option maxRecDepth 100000 in
set_option maxHeartbeats 8000000 in
theorem iCmd3 (t a b : Int) (w : World) :
    Calls Tryz.prog 6 #[.agg #[.int .i64 3, .int .i64 t, .int .i64 a, .int .i64 b]] w fun e w' => e = .returned (.bool (cmdB 3 t a b)) ∧ Below w.heap.size w w' := by
  have j0 : ∀ W, (Instr.index 34 (.agg #[.int .i64 t, .int .i64 a, .int .i64 b]) (.int .i64 0)).run Tryz.prog W = .ok (.int .i64 t) W := fun W => by kernel_rfl
  have j1 : ∀ W, (Instr.index 34 (.agg #[.int .i64 t, .int .i64 a, .int .i64 b]) (.int .i64 1)).run Tryz.prog W = .ok (.int .i64 a) W := fun W => by kernel_rfl
  have j2 : ∀ W, (Instr.index 34 (.agg #[.int .i64 t, .int .i64 a, .int .i64 b]) (.int .i64 2)).run Tryz.prog W = .ok (.int .i64 b) W := fun W => by kernel_rfl
  obtain ⟨W0, hW0⟩ : ∃ W0, w.alloc (.cells #[.int .i64 3, .int .i64 t, .int .i64 a, .int .i64 b] 25) = W0 := ⟨_, rfl⟩
  have HP0 : Hid (Bk W0 w.heap.size 25 #[.int .i64 3, .int .i64 t, .int .i64 a, .int .i64 b]) := by rw [← hW0]; exact Bk.new w _ _
  have HB0 : Hid (Below w.heap.size w W0) := by rw [← hW0]; exact (Below.refl _ w).alloc (Nat.le_refl _) _
  have p0 := HP0.out.cell (i := 0) rfl
  go_enter Tryz.func6, Tryz.ntmps6
  go_wp2_with fail
  clear p0 hW0
  refine (cmdOf3 _).mono ?_
  rintro e w1 ⟨v, c, rfl, hb⟩
  obtain ⟨V, hV⟩ : ∃ V, w1.alloc (.cells #[.int .i64 1, .slice v 2 c, .func (.func 18) #[] #[]] 31) = V := ⟨_, rfl⟩
  have HPV : Hid (Bk V w.heap.size 25 #[.int .i64 3, .int .i64 t, .int .i64 a, .int .i64 b]) := by rw [← hV]; exact (HP0.out.below hb).alloc _
  have HKV : Hid (Bk V w1.heap.size 31 #[.int .i64 1, .slice v 2 c, .func (.func 18) #[] #[]]) := by rw [← hV]; exact Bk.new _ _ _
  have HBV : Hid (Below w.heap.size w V) := by rw [← hV]; exact (HB0.out.trans (hb.mono HB0.out.size)).alloc (Nat.le_trans HB0.out.size hb.size) _
  have p1 := HPV.out.cell (i := 1) rfl
  have p2 := HPV.out.cell (i := 2) rfl
  have p3 := HPV.out.cell (i := 3) rfl
  have q0 := HKV.out.cell (i := 0) rfl
  clear hb HB0 HP0
  go_wp2
  clear hV
  go_loopw [22] (fun i wr => ∃ j : Nat, j ≤ 3 ∧ i = .int .i64 j ∧ Hid (∀ q, q < j → (q = 0 → 0 ≤ t) ∧ (q = 1 → a = 0) ∧ (q = 2 → b = 0)) ∧ wr = V) (fun i _ => 3 - (intOf i).toNat)
  case atStart => exact ⟨0, by omega, rfl, fun q hq => by omega, rfl⟩
  case round =>
    obtain ⟨j, hj, rfl, HA, hw⟩ := hrel
    subst hw
    have hj4 : j = 0 ∨ j = 1 ∨ j = 2 ∨ j = 3 := by omega
    clear hj
    rcases hj4 with rfl | rfl | rfl | rfl
    · by_cases hx : 0 ≤ t
      case neg =>
        have HN : Hid (cmdB 3 t a b = false) := decide_eq_false (by omega)
        go_wp2
        go_ret
        exact ⟨ret_bool HN.out.symm, HBV.out⟩
      have HX : Hid (0 ≤ t) := hx
      skip
      go_wp2
      go_roundw
      case rel => exact ⟨1, by omega, by go_num, fun q hq => by
        by_cases e : q = 0
        · subst e
          have := HX.out
          exact ⟨fun h => by first | assumption | omega | rfl | trivial, fun h => by first | assumption | omega | rfl | trivial, fun h => by first | assumption | omega | rfl | trivial⟩
        · exact (by simpa using HA.out q (by omega)), by first | rfl | trivial⟩
      case measure => simp [intOf]
    · by_cases hx : a = 0
      case neg =>
        have HN : Hid (cmdB 3 t a b = false) := decide_eq_false (by omega)
        by_cases hneg : a < 0
        · clear hx
          go_wp2
          go_ret
          exact ⟨ret_bool HN.out.symm, HBV.out⟩
        · have hb1 : (a != 0) = true := by simp [hx]
          have hb2 : (a == 0) = false := by simp [hx]
          go_wp2
          go_ret
          exact ⟨ret_bool HN.out.symm, HBV.out⟩
      have HX : Hid (a = 0) := hx
      subst hx
      go_wp2
      go_roundw
      case rel => exact ⟨2, by omega, by go_num, fun q hq => by
        by_cases e : q = 1
        · subst e
          have := HX.out
          exact ⟨fun h => by first | assumption | omega | rfl | trivial, fun h => by first | assumption | omega | rfl | trivial, fun h => by first | assumption | omega | rfl | trivial⟩
        · exact (by simpa using HA.out q (by omega)), by first | rfl | trivial⟩
      case measure => simp [intOf]
    · by_cases hx : b = 0
      case neg =>
        have HN : Hid (cmdB 3 t a b = false) := decide_eq_false (by omega)
        by_cases hneg : b < 0
        · clear hx
          go_wp2
          go_ret
          exact ⟨ret_bool HN.out.symm, HBV.out⟩
        · have hb1 : (b != 0) = true := by simp [hx]
          have hb2 : (b == 0) = false := by simp [hx]
          go_wp2
          go_ret
          exact ⟨ret_bool HN.out.symm, HBV.out⟩
      have HX : Hid (b = 0) := hx
      subst hx
      go_wp2
      go_roundw
      case rel => exact ⟨3, by omega, by go_num, fun q hq => by
        by_cases e : q = 2
        · subst e
          have := HX.out
          exact ⟨fun h => by first | assumption | omega | rfl | trivial, fun h => by first | assumption | omega | rfl | trivial, fun h => by first | assumption | omega | rfl | trivial⟩
        · exact (by simpa using HA.out q (by omega)), by first | rfl | trivial⟩
      case measure => simp [intOf]
    · have HY : Hid ((0 ≤ t) ∧ (a = 0) ∧ (b = 0)) := ⟨(HA.out 0 (by omega)).1 rfl, (HA.out 1 (by omega)).2.1 rfl, (HA.out 2 (by omega)).2.2 rfl⟩
      go_wp2
      all_goals
        go_ret
        refine ⟨?_, HBV.out⟩
        have hy := HY.out
        first | exact ret_dec (by simp [cmdB]; omega) | exact ret_bool (by simp [cmdB]; omega)
set_option maxRecDepth 100000 in
set_option maxHeartbeats 8000000 in
theorem iCmd4 (t a b : Int) (w : World) :
    Calls Tryz.prog 6 #[.agg #[.int .i64 4, .int .i64 t, .int .i64 a, .int .i64 b]] w fun e w' => e = .returned (.bool (cmdB 4 t a b)) ∧ Below w.heap.size w w' := by
  have j0 : ∀ W, (Instr.index 34 (.agg #[.int .i64 t, .int .i64 a, .int .i64 b]) (.int .i64 0)).run Tryz.prog W = .ok (.int .i64 t) W := fun W => by kernel_rfl
  have j1 : ∀ W, (Instr.index 34 (.agg #[.int .i64 t, .int .i64 a, .int .i64 b]) (.int .i64 1)).run Tryz.prog W = .ok (.int .i64 a) W := fun W => by kernel_rfl
  have j2 : ∀ W, (Instr.index 34 (.agg #[.int .i64 t, .int .i64 a, .int .i64 b]) (.int .i64 2)).run Tryz.prog W = .ok (.int .i64 b) W := fun W => by kernel_rfl
  obtain ⟨W0, hW0⟩ : ∃ W0, w.alloc (.cells #[.int .i64 4, .int .i64 t, .int .i64 a, .int .i64 b] 25) = W0 := ⟨_, rfl⟩
  have HP0 : Hid (Bk W0 w.heap.size 25 #[.int .i64 4, .int .i64 t, .int .i64 a, .int .i64 b]) := by rw [← hW0]; exact Bk.new w _ _
  have HB0 : Hid (Below w.heap.size w W0) := by rw [← hW0]; exact (Below.refl _ w).alloc (Nat.le_refl _) _
  have p0 := HP0.out.cell (i := 0) rfl
  go_enter Tryz.func6, Tryz.ntmps6
  go_wp2_with fail
  clear p0 hW0
  refine (cmdOf4 _).mono ?_
  rintro e w1 ⟨v, c, rfl, hb⟩
  obtain ⟨V, hV⟩ : ∃ V, w1.alloc (.cells #[.int .i64 3, .slice v 3 c, .func (.func 21) #[] #[]] 31) = V := ⟨_, rfl⟩
  have HPV : Hid (Bk V w.heap.size 25 #[.int .i64 4, .int .i64 t, .int .i64 a, .int .i64 b]) := by rw [← hV]; exact (HP0.out.below hb).alloc _
  have HKV : Hid (Bk V w1.heap.size 31 #[.int .i64 3, .slice v 3 c, .func (.func 21) #[] #[]]) := by rw [← hV]; exact Bk.new _ _ _
  have HBV : Hid (Below w.heap.size w V) := by rw [← hV]; exact (HB0.out.trans (hb.mono HB0.out.size)).alloc (Nat.le_trans HB0.out.size hb.size) _
  have p1 := HPV.out.cell (i := 1) rfl
  have p2 := HPV.out.cell (i := 2) rfl
  have p3 := HPV.out.cell (i := 3) rfl
  have q0 := HKV.out.cell (i := 0) rfl
  clear hb HB0 HP0
  go_wp2
  clear hV
  go_loopw [22] (fun i wr => ∃ j : Nat, j ≤ 3 ∧ i = .int .i64 j ∧ Hid (∀ q, q < j → (q = 0 → 0 ≤ t) ∧ (q = 1 → 0 ≤ a) ∧ (q = 2 → 0 ≤ b)) ∧ wr = V) (fun i _ => 3 - (intOf i).toNat)
  case atStart => exact ⟨0, by omega, rfl, fun q hq => by omega, rfl⟩
  case round =>
    obtain ⟨j, hj, rfl, HA, hw⟩ := hrel
    subst hw
    have hj4 : j = 0 ∨ j = 1 ∨ j = 2 ∨ j = 3 := by omega
    clear hj
    rcases hj4 with rfl | rfl | rfl | rfl
    · by_cases hx : 0 ≤ t
      case neg =>
        have HN : Hid (cmdB 4 t a b = false) := decide_eq_false (by omega)
        go_wp2
        go_ret
        exact ⟨ret_bool HN.out.symm, HBV.out⟩
      have HX : Hid (0 ≤ t) := hx
      skip
      go_wp2
      go_roundw
      case rel => exact ⟨1, by omega, by go_num, fun q hq => by
        by_cases e : q = 0
        · subst e
          have := HX.out
          exact ⟨fun h => by first | assumption | omega | rfl | trivial, fun h => by first | assumption | omega | rfl | trivial, fun h => by first | assumption | omega | rfl | trivial⟩
        · exact (by simpa using HA.out q (by omega)), by first | rfl | trivial⟩
      case measure => simp [intOf]
    · by_cases hx : 0 ≤ a
      case neg =>
        have HN : Hid (cmdB 4 t a b = false) := decide_eq_false (by omega)
        go_wp2
        go_ret
        exact ⟨ret_bool HN.out.symm, HBV.out⟩
      have HX : Hid (0 ≤ a) := hx
      skip
      go_wp2
      go_roundw
      case rel => exact ⟨2, by omega, by go_num, fun q hq => by
        by_cases e : q = 1
        · subst e
          have := HX.out
          exact ⟨fun h => by first | assumption | omega | rfl | trivial, fun h => by first | assumption | omega | rfl | trivial, fun h => by first | assumption | omega | rfl | trivial⟩
        · exact (by simpa using HA.out q (by omega)), by first | rfl | trivial⟩
      case measure => simp [intOf]
    · by_cases hx : 0 ≤ b
      case neg =>
        have HN : Hid (cmdB 4 t a b = false) := decide_eq_false (by omega)
        go_wp2
        go_ret
        exact ⟨ret_bool HN.out.symm, HBV.out⟩
      have HX : Hid (0 ≤ b) := hx
      skip
      go_wp2
      go_roundw
      case rel => exact ⟨3, by omega, by go_num, fun q hq => by
        by_cases e : q = 2
        · subst e
          have := HX.out
          exact ⟨fun h => by first | assumption | omega | rfl | trivial, fun h => by first | assumption | omega | rfl | trivial, fun h => by first | assumption | omega | rfl | trivial⟩
        · exact (by simpa using HA.out q (by omega)), by first | rfl | trivial⟩
      case measure => simp [intOf]
    · have HY : Hid ((0 ≤ t) ∧ (0 ≤ a) ∧ (0 ≤ b)) := ⟨(HA.out 0 (by omega)).1 rfl, (HA.out 1 (by omega)).2.1 rfl, (HA.out 2 (by omega)).2.2 rfl⟩
      go_wp2
      all_goals
        go_ret
        refine ⟨?_, HBV.out⟩
        have hy := HY.out
        first | exact ret_dec (by simp [cmdB]; omega) | exact ret_bool (by simp [cmdB]; omega)
set_option maxRecDepth 100000 in
set_option maxHeartbeats 8000000 in
theorem iCmd5 (t a b : Int) (w : World) :
    Calls Tryz.prog 6 #[.agg #[.int .i64 5, .int .i64 t, .int .i64 a, .int .i64 b]] w fun e w' => e = .returned (.bool (cmdB 5 t a b)) ∧ Below w.heap.size w w' := by
  have j0 : ∀ W, (Instr.index 34 (.agg #[.int .i64 t, .int .i64 a, .int .i64 b]) (.int .i64 0)).run Tryz.prog W = .ok (.int .i64 t) W := fun W => by kernel_rfl
  have j1 : ∀ W, (Instr.index 34 (.agg #[.int .i64 t, .int .i64 a, .int .i64 b]) (.int .i64 1)).run Tryz.prog W = .ok (.int .i64 a) W := fun W => by kernel_rfl
  have j2 : ∀ W, (Instr.index 34 (.agg #[.int .i64 t, .int .i64 a, .int .i64 b]) (.int .i64 2)).run Tryz.prog W = .ok (.int .i64 b) W := fun W => by kernel_rfl
  obtain ⟨W0, hW0⟩ : ∃ W0, w.alloc (.cells #[.int .i64 5, .int .i64 t, .int .i64 a, .int .i64 b] 25) = W0 := ⟨_, rfl⟩
  have HP0 : Hid (Bk W0 w.heap.size 25 #[.int .i64 5, .int .i64 t, .int .i64 a, .int .i64 b]) := by rw [← hW0]; exact Bk.new w _ _
  have HB0 : Hid (Below w.heap.size w W0) := by rw [← hW0]; exact (Below.refl _ w).alloc (Nat.le_refl _) _
  have p0 := HP0.out.cell (i := 0) rfl
  go_enter Tryz.func6, Tryz.ntmps6
  go_wp2_with fail
  clear p0 hW0
  refine (cmdOf5 _).mono ?_
  rintro e w1 ⟨v, c, rfl, hb⟩
  obtain ⟨V, hV⟩ : ∃ V, w1.alloc (.cells #[.int .i64 0, .slice v 1 c, .func (.func 23) #[] #[]] 31) = V := ⟨_, rfl⟩
  have HPV : Hid (Bk V w.heap.size 25 #[.int .i64 5, .int .i64 t, .int .i64 a, .int .i64 b]) := by rw [← hV]; exact (HP0.out.below hb).alloc _
  have HKV : Hid (Bk V w1.heap.size 31 #[.int .i64 0, .slice v 1 c, .func (.func 23) #[] #[]]) := by rw [← hV]; exact Bk.new _ _ _
  have HBV : Hid (Below w.heap.size w V) := by rw [← hV]; exact (HB0.out.trans (hb.mono HB0.out.size)).alloc (Nat.le_trans HB0.out.size hb.size) _
  have p1 := HPV.out.cell (i := 1) rfl
  have p2 := HPV.out.cell (i := 2) rfl
  have p3 := HPV.out.cell (i := 3) rfl
  have q0 := HKV.out.cell (i := 0) rfl
  clear hb HB0 HP0
  go_wp2
  clear hV
  go_loopw [22] (fun i wr => ∃ j : Nat, j ≤ 3 ∧ i = .int .i64 j ∧ Hid (∀ q, q < j → (q = 0 → t = 0) ∧ (q = 1 → a = 0) ∧ (q = 2 → b = 0)) ∧ wr = V) (fun i _ => 3 - (intOf i).toNat)
  case atStart => exact ⟨0, by omega, rfl, fun q hq => by omega, rfl⟩
  case round =>
    obtain ⟨j, hj, rfl, HA, hw⟩ := hrel
    subst hw
    have hj4 : j = 0 ∨ j = 1 ∨ j = 2 ∨ j = 3 := by omega
    clear hj
    rcases hj4 with rfl | rfl | rfl | rfl
    · by_cases hx : t = 0
      case neg =>
        have HN : Hid (cmdB 5 t a b = false) := decide_eq_false (by omega)
        by_cases hneg : t < 0
        · clear hx
          go_wp2
          go_ret
          exact ⟨ret_bool HN.out.symm, HBV.out⟩
        · have hb1 : (t != 0) = true := by simp [hx]
          have hb2 : (t == 0) = false := by simp [hx]
          go_wp2
          go_ret
          exact ⟨ret_bool HN.out.symm, HBV.out⟩
      have HX : Hid (t = 0) := hx
      subst hx
      go_wp2
      go_roundw
      case rel => exact ⟨1, by omega, by go_num, fun q hq => by
        by_cases e : q = 0
        · subst e
          have := HX.out
          exact ⟨fun h => by first | assumption | omega | rfl | trivial, fun h => by first | assumption | omega | rfl | trivial, fun h => by first | assumption | omega | rfl | trivial⟩
        · exact (by simpa using HA.out q (by omega)), by first | rfl | trivial⟩
      case measure => simp [intOf]
    · by_cases hx : a = 0
      case neg =>
        have HN : Hid (cmdB 5 t a b = false) := decide_eq_false (by omega)
        by_cases hneg : a < 0
        · clear hx
          go_wp2
          go_ret
          exact ⟨ret_bool HN.out.symm, HBV.out⟩
        · have hb1 : (a != 0) = true := by simp [hx]
          have hb2 : (a == 0) = false := by simp [hx]
          go_wp2
          go_ret
          exact ⟨ret_bool HN.out.symm, HBV.out⟩
      have HX : Hid (a = 0) := hx
      subst hx
      go_wp2
      go_roundw
      case rel => exact ⟨2, by omega, by go_num, fun q hq => by
        by_cases e : q = 1
        · subst e
          have := HX.out
          exact ⟨fun h => by first | assumption | omega | rfl | trivial, fun h => by first | assumption | omega | rfl | trivial, fun h => by first | assumption | omega | rfl | trivial⟩
        · exact (by simpa using HA.out q (by omega)), by first | rfl | trivial⟩
      case measure => simp [intOf]
    · by_cases hx : b = 0
      case neg =>
        have HN : Hid (cmdB 5 t a b = false) := decide_eq_false (by omega)
        by_cases hneg : b < 0
        · clear hx
          go_wp2
          go_ret
          exact ⟨ret_bool HN.out.symm, HBV.out⟩
        · have hb1 : (b != 0) = true := by simp [hx]
          have hb2 : (b == 0) = false := by simp [hx]
          go_wp2
          go_ret
          exact ⟨ret_bool HN.out.symm, HBV.out⟩
      have HX : Hid (b = 0) := hx
      subst hx
      go_wp2
      go_roundw
      case rel => exact ⟨3, by omega, by go_num, fun q hq => by
        by_cases e : q = 2
        · subst e
          have := HX.out
          exact ⟨fun h => by first | assumption | omega | rfl | trivial, fun h => by first | assumption | omega | rfl | trivial, fun h => by first | assumption | omega | rfl | trivial⟩
        · exact (by simpa using HA.out q (by omega)), by first | rfl | trivial⟩
      case measure => simp [intOf]
    · have HY : Hid ((t = 0) ∧ (a = 0) ∧ (b = 0)) := ⟨(HA.out 0 (by omega)).1 rfl, (HA.out 1 (by omega)).2.1 rfl, (HA.out 2 (by omega)).2.2 rfl⟩
      go_wp2
      all_goals
        go_ret
        refine ⟨?_, HBV.out⟩
        have hy := HY.out
        first | exact ret_dec (by simp [cmdB]; omega) | exact ret_bool (by simp [cmdB]; omega)
set_option maxRecDepth 100000 in
set_option maxHeartbeats 8000000 in
theorem iCmdNo (k t a b : Int) (w : World) (hk : ¬ (0 ≤ k ∧ k ≤ 5)) :
    Calls Tryz.prog 6 #[.agg #[.int .i64 k, .int .i64 t, .int .i64 a, .int .i64 b]] w fun e w' => e = .returned (.bool (cmdB k t a b)) ∧ Below w.heap.size w w' := by
  have HN : Hid (cmdB k t a b = false) := decide_eq_false (by omega)
  have HK : Hid (¬ (0 ≤ k ∧ k ≤ 5)) := hk
  clear hk
  go_enter Tryz.func6, Tryz.ntmps6
  go_wp2_with fail
  refine (cmdOfNo k _ HK.out).mono ?_
  rintro e w1 ⟨rfl, hb⟩
  have HB1 : Hid (Below w.heap.size w w1) := ((Below.refl _ w).alloc (Nat.le_refl _) _).trans (hb.mono (by simp))
  clear hb
  go_wp2
  go_ret
  exact ⟨ret_bool HN.out.symm, HB1.out.alloc HB1.out.size _⟩
theorem iCmd (k t a b : Int) (w : World) :
    Calls Tryz.prog 6 #[.agg #[.int .i64 k, .int .i64 t, .int .i64 a, .int .i64 b]] w fun e w' => e = .returned (.bool (cmdB k t a b)) ∧ Below w.heap.size w w' := by
  by_cases hk : 0 ≤ k ∧ k ≤ 5
  case neg => exact iCmdNo k t a b w hk
  have h6 : k = 0 ∨ k = 1 ∨ k = 2 ∨ k = 3 ∨ k = 4 ∨ k = 5 := by omega
  rcases h6 with rfl | rfl | rfl | rfl | rfl | rfl
  · exact iCmd0 t a b w
  · exact iCmd1 t a b w
  · exact iCmd2 t a b w
  · exact iCmd3 t a b w
  · exact iCmd4 t a b w
  · exact iCmd5 t a b w
end Go.Proofs.YtkdmdcahnifjpaaGreat
