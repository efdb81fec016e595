/- szModel, with how much it leaves. -/
import Derived.Test.YtnmcjgkeionjkaaGreatExactHandleG06
namespace Go.Proofs.YtnmcjgkeionjkaaGreat
open Go.RowKit
set_option maxHeartbeats 2000000 in
theorem szModel_le (x : Value) (m : Md) (w : World) (h : IsM w x m) :
    Calls Tryz.prog 23 #[x, .int .i64 1048576] w fun e w' => (∃ r, e = .returned (.int .i64 r) ∧ (r = -1 ∨ (0 ≤ r ∧ r ≤ 1048576 ∧ SmallM m))) ∧ Below w.heap.size w w' := by
  obtain ⟨vi, vh, vs, rfl, h1, h2, h3⟩ := h
  obtain ⟨n, s, i, hh, ev, z⟩ := m
  have HH : Hid (IsH w vh hh) := h2
  obtain ⟨a1, c1, rfl, hi1, hi2, _⟩ := h1
  obtain ⟨a3, c3, rfl, he1, he2, _⟩ := h3
  have HI : Hid (i.length ≤ maxLen) := Nat.le_trans hi1 hi2
  have HE : Hid (ev.length ≤ maxLen) := Nat.le_trans he1 he2
  clear h2 hi1 hi2 he1 he2
  obtain ⟨W0, hW0⟩ : ∃ W0, w.alloc (.cells #[.int .i64 n, .int .i64 s, .slice a1 i.length c1, vh, .slice a3 ev.length c3, .int .i64 z] 49) = W0 := ⟨_, rfl⟩
  have HB0 : Hid (Below w.heap.size w W0) := by rw [← hW0]; exact (Below.refl _ w).alloc (Nat.le_refl _) _
  have HP0 : Bk W0 w.heap.size 49 #[.int .i64 n, .int .i64 s, .slice a1 i.length c1, vh, .slice a3 ev.length c3, .int .i64 z] := by rw [← hW0]; exact Bk.new w _ _
  have p2 := HP0.cell (i := 2) rfl
  have p3 := HP0.cell (i := 3) rfl
  have p4 := HP0.cell (i := 4) rfl
  clear HP0
  have go : ∀ q : Int, q = szN i.length 1048576 → q = -1 ∨ (0 ≤ q ∧ q ≤ 1048576 ∧ i.length ≤ 1048576) := by
    intro q hq
    unfold szN at hq
    split at hq <;> omega
  go_enter Tryz.func23, Tryz.ntmps23
  go_wp2_with fail
  refine (szI_any _ _ _ _ _ HI.out (by omega) (by omega)).mono ?_
  rintro e w' ⟨rfl, hw⟩
  have hw' := hw.symm
  clear hw
  subst hw'
  clear hW0
  generalize hq : szN i.length 1048576 = q
  rcases go q hq.symm with rfl | ⟨q0, q1, q2⟩
  · clear go hq
    go_wp2
    go_ret
    exact ⟨⟨_, rfl, .inl rfl⟩, HB0.out⟩
  · have HQ : Hid (i.length ≤ 1048576) := q2
    have q3 : ¬ (q < 0) := by omega
    clear go hq q2
    go_wp2_with fail
    refine (szH_any _ hh _ _ (HH.out.below HB0.out) q0 q1).mono ?_
    rintro e w' ⟨⟨r, rfl, hr⟩, hw⟩
    have hw' := hw.symm
    clear hw
    subst hw'
    rcases hr with rfl | ⟨r0, r1, r2, r3, r4⟩
    · go_wp2
      go_ret
      exact ⟨⟨_, rfl, .inl rfl⟩, HB0.out⟩
    · have r5 : ¬ (r < 0) := by omega
      have r6 : r ≤ 1048576 := by omega
      have HR : Hid ((hh.length : Int) ≤ 1048576 ∧ (∀ i, (hAt hh i).length ≤ 1048576) ∧ sumL (lens hh) hh.length ≤ 1048576) := ⟨r2, r3, r4⟩
      clear r1 r2 r3 r4
      go_wp2_with fail
      refine (szE_any _ _ _ _ _ HE.out r0 r6).mono ?_
      rintro e w' ⟨rfl, hw⟩
      have hw' := hw.symm
      clear hw
      subst hw'
      generalize hq : szN ev.length r = t
      have ht : t = -1 ∨ (0 ≤ t ∧ t ≤ 1048576 ∧ ev.length ≤ 1048576) := by
        unfold szN at hq
        split at hq <;> omega
      clear hq
      rcases ht with rfl | ⟨t0, t9, t1⟩
      · go_wp2
        go_ret
        exact ⟨⟨_, rfl, .inl rfl⟩, HB0.out⟩
      · have t2 : ¬ (t < 0) := by omega
        go_wp2
        go_ret
        exact ⟨⟨_, rfl, .inr ⟨t0, t9, HQ.out, by have := HR.out.1; show hh.length ≤ 1048576; omega, HR.out.2.1, HR.out.2.2, t1⟩⟩, HB0.out⟩

end Go.Proofs.YtnmcjgkeionjkaaGreat
