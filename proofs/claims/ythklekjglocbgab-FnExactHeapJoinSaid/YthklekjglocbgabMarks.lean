/- markEventS writes numbers into every cell of a row; heldEventS finds them there. -/
import Derived.Test.YthklekjglocbgabRows2
namespace Go.Proofs.Ythklekjglocbgab
open Go.RowKit
def markEv (z : Int) : Ev := ⟨z, z + 1, z + 1 + 1, z + 1 + 1 + 1, z + 1 + 1 + 1 + 1, z + 1 + 1 + 1 + 1 + 1, z + 1 + 1 + 1 + 1 + 1 + 1⟩
def marks (n : Nat) : List Ev := (List.range n).map fun i : Nat => markEv (7 * ((i : Nat) : Int) + 1)
theorem marks_length (n : Nat) : (marks n).length = n := by simp [marks]
theorem marks_at {n i : Nat} (h : i < n) : evAt (marks n) i = markEv (7 * (i : Int) + 1) := by simp [evAt, marks, h]
theorem grown_refl (w : World) (row : Option Nat) : w.grownBy w row := ⟨rfl, rfl, rfl, Nat.le_refl _, fun _ _ _ => rfl⟩
theorem grown_trans {w w' w'' : World} {row : Option Nat} (h : w.grownBy w' row) (h' : w'.grownBy w'' row) : w.grownBy w'' row :=
  ⟨h'.os.trans h.os, h'.tape.trans h.tape, h'.output.trans h.output, Nat.le_trans h.size h'.size, fun k hk hr => (h'.block k (Nat.lt_of_lt_of_le hk h.size) hr).trans (h.block k hk hr)⟩

theorem setCell_grown (w : World) (g o : Nat) (v : Value) : w.grownBy (w.setCell ⟨g, o, none⟩ v) (some g) := by
  refine ⟨?_, ?_, ?_, by simp, fun k _ hk => Below.heap_setCell _ _ _ _ (fun e => hk (by rw [e]))⟩
  all_goals (unfold World.setCell; rfl)
theorem put7_grown (w : World) (g o : Nat) (e : Ev) : w.grownBy (put7 w g o e) (some g) :=
  grown_trans (grown_trans (grown_trans (grown_trans (grown_trans (grown_trans (setCell_grown _ _ _ _) (setCell_grown _ _ _ _)) (setCell_grown _ _ _ _)) (setCell_grown _ _ _ _)) (setCell_grown _ _ _ _)) (setCell_grown _ _ _ _)) (setCell_grown _ _ _ _)

set_option maxHeartbeats 2000000 in
theorem mark_any (g n cap : Nat) (l : List Ev) (w : World) (hn : n ≤ 1048577) (hR : RowTo w g n l 0) :
    Calls Try.prog 12 #[.slice (some ⟨g, 0, none⟩) n cap, .int .i64 1] w fun e w' => e = .returned (.int .i64 (7 * (n : Int) + 1)) ∧ RowTo w' g n (marks n) n ∧ w.grownBy w' (some g) := by
  have HR0 : Hid (RowTo w g n (marks n) 0) := ⟨hR.1, hR.2.1, fun i hi => by omega⟩
  clear hR
  go_enter Try.func12, Try.ntmps12
  go_wp2
  go_loopw [5, 1] (fun i z wr => ∃ k : Nat, k ≤ n ∧ i = .int .i64 k ∧ z = .int .i64 (7 * (k : Int) + 1) ∧ RowTo wr g n (marks n) k ∧ w.grownBy wr (some g)) (fun i _ _ => n - (intOf i).toNat)
  case atStart => exact ⟨0, Nat.zero_le _, rfl, rfl, HR0.out, grown_refl _ _⟩
  case round =>
    obtain ⟨k, hk, rfl, rfl, hR, hg⟩ := hrel
    have HR : Hid (RowTo wr g n (marks n) k) := hR
    have HG : Hid (w.grownBy wr (some g)) := hg
    clear hR hg
    by_cases hlt : k < n
    · obtain ⟨c0, c1, c2, c3, c4, c5, c6, ⟨g0, g1, g2, g3, g4, g5, g6⟩, ⟨z0, z1, z2, z3, z4, z5, z6⟩⟩ := HR.out.cells hlt
      generalize hz : 7 * (k : Int) + 1 = z
      have hz0 : 0 ≤ z := by omega
      have hz1 : z ≤ 7340040 := by omega
      have HZ : Hid (7 * (k : Int) + 1 = z) := hz
      clear hz
      go_wp2
      go_roundw
      case rel =>
        refine ⟨k + 1, by omega, by go_num, ?_, ?_, ?_⟩
        · rw [show z + 1 + 1 + 1 + 1 + 1 + 1 + 1 = 7 * ((k + 1 : Nat) : Int) + 1 from by have := HZ.out; omega]
        · have h1 := HR.out.put hlt
          rw [marks_at hlt, HZ.out] at h1
          exact h1
        · exact grown_trans HG.out (put7_grown wr g (k * 7) (markEv z))
      case measure => simp [intOf]; omega
    · go_wp2
      go_ret
      obtain rfl : k = n := by omega
      exact ⟨rfl, HR.out, HG.out⟩

set_option maxHeartbeats 2000000 in
theorem held_any (g n cap : Nat) (w : World) (hn : n ≤ 1048577) (hR : RowTo w g n (marks n) n) :
    Calls Try.prog 13 #[.slice (some ⟨g, 0, none⟩) n cap, .int .i64 1] w fun e w' => e = .returned (.int .i64 (7 * (n : Int) + 1)) ∧ w' = w := by
  have HR : Hid (RowTo w g n (marks n) n) := hR
  clear hR
  go_enter Try.func13, Try.ntmps13
  go_wp2
  go_loop [5, 1] (fun i z => ∃ k : Nat, k ≤ n ∧ i = .int .i64 k ∧ z = .int .i64 (7 * (k : Int) + 1)) (fun i _ => n - (intOf i).toNat)
  case atStart => exact ⟨0, Nat.zero_le _, rfl, rfl⟩
  case round =>
    obtain ⟨k, hk, rfl, rfl⟩ := hrel
    by_cases hlt : k < n
    · have hev := HR.out.2.2 k hlt
      rw [marks_at hlt] at hev
      generalize hz : 7 * (k : Int) + 1 = z at hev ⊢
      have hz0 : 0 ≤ z := by omega
      have hz1 : z ≤ 7340040 := by omega
      have HZ : Hid (7 * (k : Int) + 1 = z) := hz
      clear hz
      obtain ⟨f0, f1, f2, f3, f4, f5, f6⟩ := hev
      simp only [markEv] at f0 f1 f2 f3 f4 f5 f6
      go_wp2
      go_round
      case rel => exact ⟨k + 1, by omega, by go_num, by rw [show z + 1 + 1 + 1 + 1 + 1 + 1 + 1 = 7 * ((k + 1 : Nat) : Int) + 1 from by have := HZ.out; omega]⟩
      case measure => simp [intOf]; omega
    · go_wp2
      go_ret
      obtain rfl : k = n := by omega
      exact ⟨rfl, rfl⟩

set_option maxHeartbeats 1000000 in
theorem mark_nil (a : Option Addr) (cap : Nat) (w : World) : Calls Try.prog 12 #[.slice a 0 cap, .int .i64 1] w fun e w' => e = .returned (.int .i64 1) ∧ w' = w := by
  go_enter Try.func12, Try.ntmps12
  go_wp2
  go_loop [5, 1] (fun i z => i = .int .i64 0 ∧ z = .int .i64 1) (fun _ _ => 0)
  case atStart => exact ⟨rfl, rfl⟩
  case round =>
    obtain ⟨rfl, rfl⟩ := hrel
    go_wp2
    go_ret
    exact ⟨rfl, rfl⟩
set_option maxHeartbeats 1000000 in
theorem held_nil (a : Option Addr) (cap : Nat) (w : World) : Calls Try.prog 13 #[.slice a 0 cap, .int .i64 1] w fun e w' => e = .returned (.int .i64 1) ∧ w' = w := by
  go_enter Try.func13, Try.ntmps13
  go_wp2
  go_loop [5, 1] (fun i z => i = .int .i64 0 ∧ z = .int .i64 1) (fun _ _ => 0)
  case atStart => exact ⟨rfl, rfl⟩
  case round =>
    obtain ⟨rfl, rfl⟩ := hrel
    go_wp2
    go_ret
    exact ⟨rfl, rfl⟩
end Go.Proofs.Ythklekjglocbgab
