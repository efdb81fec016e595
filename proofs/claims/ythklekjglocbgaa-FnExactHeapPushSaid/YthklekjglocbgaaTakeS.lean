/- The specification's l0take. -/
import Derived.Test.YthklekjglocbgaaOwnS
import Derived.Test.YthklekjglocbgaaUpS
import Derived.Test.YthklekjglocbgaaDownS
namespace Go.Proofs.Ythklekjglocbgaa
open Go.RowKit
theorem cut_snoc (l : List Ev) (i n : Nat) (hn : l.length = n + 1) : l.set i (evAt l n) = cutL l i ++ [evAt (l.set i (evAt l n)) n] := by
  have hc := cutL_length l i
  refine ext_ev (by simp [hc, hn]) (fun j hj => ?_)
  simp at hj
  by_cases h : j = n
  · subst h
    have h9 := evAt_last (cutL l i) (evAt (l.set i (evAt l j)) j)
    rw [hc, hn] at h9
    exact h9.symm
  · rw [evAt_left _ _ _ (by rw [hc]; omega)]
    unfold cutL
    rw [evAt_take _ _ _ (by omega), hn]
    rfl

set_option maxRecDepth 100000 in
set_option maxHeartbeats 4000000 in
theorem take_any (x : Value) (l : List Ev) (i n : Nat) (w : World) (hl : l.length ≤ 1048577) (hn : l.length = n + 1) (hi : i < n + 1) (hI : Src w x l) :
    Calls Try.prog 39 #[x, .int .i64 (i : Int)] w fun e w' => ∃ y, e = .returned y ∧ OwnR w.heap.size w' y (takeL l i) ∧ Below w.heap.size w w' := by
  have HI : Hid (Src w x l) := hI
  clear hI
  have HN : Hid (l.length = n + 1) := hn
  have hn1 : n ≤ 1048576 := by omega
  go_enter Try.func39, Try.ntmps39
  go_wp2_with fail
  refine (own_row x l w hl HI.out).mono ?_
  rintro e w1 ⟨y, rfl, hy, hb⟩
  obtain ⟨g, cap, rfl, hR⟩ := hy.rowed hn
  have HR : Hid (Row w1 w.heap.size g cap l) := hR
  have hg : g < w1.heap.size := hR.lt.2
  have hcap := hR.caps
  rw [hn] at hcap
  obtain ⟨hc1, hc2⟩ := hcap
  unfold maxLen at hc2
  obtain ⟨⟨f0, f1, f2, f3, f4, f5, f6⟩, ⟨z0, z1, z2, z3, z4, z5, z6⟩⟩ := hR.cells7 (i := i) (by omega)
  obtain ⟨⟨e0, e1, e2, e3, e4, e5, e6⟩, ⟨y0, y1, y2, y3, y4, y5, y6⟩⟩ := hR.cells7 (i := n) (by omega)
  have HB : Hid (Below w.heap.size w w1) := hb
  have HRC : Hid (Row (put7 w1 g (i * 7) (evAt l n)) w.heap.size g cap (cutL l i)) := by
    have h1 := HR.out.put (i := i) (by omega) (evAt l n)
    rw [cut_snoc l i n HN.out] at h1
    exact h1.pop
  have HBC : Hid (Below w.heap.size w (put7 w1 g (i * 7) (evAt l n))) := put7_below HB.out hR.lt.1 _ _
  have hcl : (cutL l i).length = n := by rw [cutL_length, hn]; rfl
  have HCL : Hid ((cutL l i).length = n) := hcl
  have hi1 : (i : Int) < (n : Int) + 1 := by omega
  clear hR hy hb hn hcl HI hl
  by_cases hlt : i < n
  · have hlt' : (i : Int) < (n : Int) := by omega
    have HTK : Hid (takeL l i = upL (downL (cutL l i) n i) i) := by
      unfold Hid takeL; rw [HN.out]; simp [hlt]
    go_wp2_with fail
    have HD : Hid (∀ W, Row W w.heap.size g cap (cutL l i) → Calls Try.prog 51 #[.slice (some ⟨g, 0, none⟩) n cap, .int .i64 (i : Int)] W fun e w' => (∃ v, e = .returned v) ∧ Row w' w.heap.size g cap (downL (cutL l i) n i) ∧ Turns (fun b => b = g) W w') := fun W h => by
      have h9 := sDown_any w.heap.size g cap (cutL l i) i W (by rw [HCL.out]; omega) h (by rw [HCL.out]; omega)
      rw [HCL.out] at h9
      exact h9
    refine (HD.out _ HRC.out).mono ?_
    rintro e w2 ⟨⟨v2, rfl⟩, hr2, ht2⟩
    have HR2 : Hid (Row w2 w.heap.size g cap (downL (cutL l i) n i)) := hr2
    have HB2 : Hid (Below w.heap.size w w2) := HBC.out.trans (ht2.to_below (fun k e => by subst e; exact hr2.lt.1) HBC.out.size)
    clear hr2 ht2 HD HRC HBC f0 f1 f2 f3 f4 f5 f6 z0 z1 z2 z3 z4 z5 z6 e0 e1 e2 e3 e4 e5 e6 y0 y1 y2 y3 y4 y5 y6
    have HU : Hid (Calls Try.prog 47 #[.slice (some ⟨g, 0, none⟩) n cap, .int .i64 (i : Int)] w2 fun e w' => (∃ v, e = .returned v) ∧ Row w' w.heap.size g cap (takeL l i) ∧ Turns (fun b => b = g) w2 w') := by
      have hdl : (downL (cutL l i) n i).length = n := by rw [downL_length]; exact HCL.out
      have h9 := sUp_any w.heap.size g cap (downL (cutL l i) n i) i w2 (by omega) HR2.out (by omega)
      rw [hdl, ← HTK.out] at h9
      exact h9
    go_wp2_with fail
    refine HU.out.mono ?_
    rintro e w3 ⟨⟨v3, rfl⟩, hr3, ht3⟩
    have HR3 : Hid (Row w3 w.heap.size g cap (takeL l i)) := hr3
    have HB3 : Hid (Below w.heap.size w w3) := HB2.out.trans (ht3.to_below (fun k e => by subst e; exact hr3.lt.1) HB2.out.size)
    clear hr3 ht3 HU HR2 HB2
    go_wp2
    go_ret
    refine ⟨_, rfl, ?_, HB3.out⟩
    have h8 := HR3.out
    unfold Row at h8
    have h7 : (takeL l i).length = n := by rw [takeL_length, HN.out]; rfl
    unfold OwnR
    rw [h7] at h8 ⊢
    exact h8
  · have hlt' : ¬ ((i : Int) < (n : Int)) := by omega
    have HTK : Hid (takeL l i = cutL l i) := by
      unfold Hid takeL; rw [HN.out]; simp [hlt]
    go_wp2
    go_ret
    refine ⟨_, rfl, ?_, HBC.out⟩
    have h8 := HRC.out
    unfold Row at h8
    unfold OwnR
    rw [HTK.out, HCL.out]
    rw [HCL.out] at h8
    exact h8
end Go.Proofs.Ythklekjglocbgaa
