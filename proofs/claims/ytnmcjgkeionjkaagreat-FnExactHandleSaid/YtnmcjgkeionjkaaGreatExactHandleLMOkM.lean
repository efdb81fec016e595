/- The program's ModelOk. -/
import Derived.Test.YtnmcjgkeionjkaaGreatExactHandleLMOkJ
import Derived.Test.YtnmcjgkeionjkaaGreatExactHandleLMOkS
namespace Go.Proofs.YtnmcjgkeionjkaaGreat
open Go.RowKit
theorem ok_parts (m : Md) : m.ok = ((decide (1 ≤ m.n) && decide (m.n ≤ 4)) && ((decide (0 ≤ m.s) && decide (m.s ≤ 65535)) && ((decide (0 ≤ m.z) && decide (m.z ≤ 950)) && ((decide ((m.i.length : Int) = m.n) && m.okI) && ((decide (1 ≤ m.h.length ∧ m.h.length ≤ 4) && m.okH) && (decide (m.e.length ≤ 6) && m.okE)))))) := by
  unfold Md.ok
  rw [Bool.eq_iff_iff]
  simp only [Bool.and_eq_true, decide_eq_true_eq]
  unfold Md.hd
  constructor
  · rintro ⟨⟨⟨⟨h1, h2, h3, h4, h5, h6, h7, h8, h9, h10⟩, hi⟩, hh⟩, he⟩
    exact ⟨⟨h1, h2⟩, ⟨h3, h4⟩, ⟨h9, h10⟩, ⟨h5, hi⟩, ⟨⟨h6, h7⟩, hh⟩, h8, he⟩
  · rintro ⟨⟨h1, h2⟩, ⟨h3, h4⟩, ⟨h9, h10⟩, ⟨h5, hi⟩, ⟨⟨h6, h7⟩, hh⟩, h8, he⟩
    exact ⟨⟨⟨⟨h1, h2, h3, h4, h5, h6, h7, h8, h9, h10⟩, hi⟩, hh⟩, he⟩
set_option maxRecDepth 100000 in
set_option maxHeartbeats 8000000 in
theorem iModM (x : Value) (m : Md) (w : World) (hs : SmallM m) (h : IsM w x m) :
    Calls Tryz.prog 95 #[x] w fun e w' => e = .returned (.bool m.ok) ∧ Below w.heap.size w w' := by
  have HX : Hid (IsM w x m) := h
  obtain ⟨vi, vh, vs, rfl, ⟨ai, ci, rfl, hi1, hi2, hi3⟩, ⟨ah, ch, rfl, hh1, hh2, hh3⟩, ⟨ae, ce, rfl, he1, he2, he3⟩⟩ := h
  have hi0 : m.i.length ≤ 1048576 := hs.i
  have hh0 : m.h.length ≤ 1048576 := hs.h
  have he0 : m.e.length ≤ 1048576 := hs.e
  have HS : Hid (SmallM m) := hs
  clear hs hi1 hi2 hh1 hh2 he1 he2
  clear hi3 hh3 he3 hi0 hh0 he0
  obtain ⟨W0, hW0⟩ : ∃ W0, w.alloc (.cells #[.int .i64 m.n, .int .i64 m.s, .slice ai m.i.length ci, .slice ah m.h.length ch, .slice ae m.e.length ce, .int .i64 m.z] 55) = W0 := ⟨_, rfl⟩
  have HB0 : Hid (Below w.heap.size w W0) := by rw [← hW0]; exact (Below.refl _ w).alloc (Nat.le_refl _) _
  have HP0 : Hid (Bk W0 w.heap.size 55 #[.int .i64 m.n, .int .i64 m.s, .slice ai m.i.length ci, .slice ah m.h.length ch, .slice ae m.e.length ce, .int .i64 m.z]) := by rw [← hW0]; exact Bk.new w _ _
  have p0 := HP0.out.cell (i := 0) rfl
  have p1 := HP0.out.cell (i := 1) rfl
  have p2 := HP0.out.cell (i := 2) rfl
  have p3 := HP0.out.cell (i := 3) rfl
  have p4 := HP0.out.cell (i := 4) rfl
  have p5 := HP0.out.cell (i := 5) rfl
  have HOK : Hid (m.ok = ((decide (1 ≤ m.n) && decide (m.n ≤ 4)) && ((decide (0 ≤ m.s) && decide (m.s ≤ 65535)) && ((decide (0 ≤ m.z) && decide (m.z ≤ 950)) && ((decide ((m.i.length : Int) = m.n) && m.okI) && ((decide (1 ≤ m.h.length ∧ m.h.length ≤ 4) && m.okH) && (decide (m.e.length ≤ 6) && m.okE))))))) := ok_parts m
  generalize m.ok = okv at HOK ⊢
  go_enter Tryz.func95, Tryz.ntmps95
  go_wp2_with fail
  clear hW0
  refine (within_any _ _ _ _).mono ?_
  rintro e w2 ⟨rfl, hw⟩
  have hw' := hw.symm
  clear hw
  subst hw'
  cases hA0 : (decide (1 ≤ m.n) && decide (m.n ≤ 4))
  case false =>
    have hno : okv = false := by rw [HOK.out, hA0]; simp
    subst hno
    clear hA0
    go_wp2
    go_ret
    exact ⟨rfl, HB0.out⟩
  have HA0 : Hid ((decide (1 ≤ m.n) && decide (m.n ≤ 4)) = true) := hA0
  clear hA0
  go_wp2_with fail
  refine (within_any _ _ _ _).mono ?_
  rintro e w2 ⟨rfl, hw⟩
  have hw' := hw.symm
  clear hw
  subst hw'
  cases hA1 : (decide (0 ≤ m.s) && decide (m.s ≤ 65535))
  case false =>
    have hno : okv = false := by rw [HOK.out, hA1]; simp
    subst hno
    clear hA1
    go_wp2
    go_ret
    exact ⟨rfl, HB0.out⟩
  have HA1 : Hid ((decide (0 ≤ m.s) && decide (m.s ≤ 65535)) = true) := hA1
  clear hA1
  go_wp2_with fail
  refine (within_any _ _ _ _).mono ?_
  rintro e w2 ⟨rfl, hw⟩
  have hw' := hw.symm
  clear hw
  subst hw'
  cases hA2 : (decide (0 ≤ m.z) && decide (m.z ≤ 950))
  case false =>
    have hno : okv = false := by rw [HOK.out, hA2]; simp
    subst hno
    clear hA2
    go_wp2
    go_ret
    exact ⟨rfl, HB0.out⟩
  have HA2 : Hid ((decide (0 ≤ m.z) && decide (m.z ≤ 950)) = true) := hA2
  clear hA2
  go_wp2_with fail
  refine (initOk_any _ m _ HS.out (HX.out.below HB0.out)).mono ?_
  rintro e w3 ⟨rfl, hb⟩
  have HB3 : Hid (Below w.heap.size w w3) := HB0.out.trans (hb.mono HB0.out.size)
  have HP3 : Hid (Bk w3 w.heap.size 55 #[.int .i64 m.n, .int .i64 m.s, .slice ai m.i.length ci, .slice ah m.h.length ch, .slice ae m.e.length ce, .int .i64 m.z]) := HP0.out.below hb
  clear hb HB0 HP0 p0 p1 p2 p3 p4 p5
  have p0 := HP3.out.cell (i := 0) rfl
  have p1 := HP3.out.cell (i := 1) rfl
  have p2 := HP3.out.cell (i := 2) rfl
  have p3 := HP3.out.cell (i := 3) rfl
  have p4 := HP3.out.cell (i := 4) rfl
  have p5 := HP3.out.cell (i := 5) rfl
  cases hA3 : (decide ((m.i.length : Int) = m.n) && m.okI)
  case false =>
    have hno : okv = false := by rw [HOK.out, hA3]; simp
    subst hno
    clear hA3
    go_wp2
    go_ret
    exact ⟨rfl, HB3.out⟩
  have HA3 : Hid ((decide ((m.i.length : Int) = m.n) && m.okI) = true) := hA3
  clear hA3
  go_wp2_with fail
  refine (handlersOk_any _ m _ HS.out (HX.out.below HB3.out)).mono ?_
  rintro e w4 ⟨rfl, hb⟩
  have HB4 : Hid (Below w.heap.size w w4) := HB3.out.trans (hb.mono HB3.out.size)
  have HP4 : Hid (Bk w4 w.heap.size 55 #[.int .i64 m.n, .int .i64 m.s, .slice ai m.i.length ci, .slice ah m.h.length ch, .slice ae m.e.length ce, .int .i64 m.z]) := HP3.out.below hb
  clear hb HB3 HP3 p0 p1 p2 p3 p4 p5
  have p0 := HP4.out.cell (i := 0) rfl
  have p1 := HP4.out.cell (i := 1) rfl
  have p2 := HP4.out.cell (i := 2) rfl
  have p3 := HP4.out.cell (i := 3) rfl
  have p4 := HP4.out.cell (i := 4) rfl
  have p5 := HP4.out.cell (i := 5) rfl
  cases hA4 : (decide (1 ≤ m.h.length ∧ m.h.length ≤ 4) && m.okH)
  case false =>
    have hno : okv = false := by rw [HOK.out, hA4]; simp
    subst hno
    clear hA4
    go_wp2
    go_ret
    exact ⟨rfl, HB4.out⟩
  have HA4 : Hid ((decide (1 ≤ m.h.length ∧ m.h.length ≤ 4) && m.okH) = true) := hA4
  clear hA4
  go_wp2_with fail
  refine (startOk_any _ m _ HS.out (HX.out.below HB4.out)).mono ?_
  rintro e w5 ⟨rfl, hb⟩
  have HB5 : Hid (Below w.heap.size w w5) := HB4.out.trans (hb.mono HB4.out.size)
  have HP5 : Hid (Bk w5 w.heap.size 55 #[.int .i64 m.n, .int .i64 m.s, .slice ai m.i.length ci, .slice ah m.h.length ch, .slice ae m.e.length ce, .int .i64 m.z]) := HP4.out.below hb
  clear hb HB4 HP4 p0 p1 p2 p3 p4 p5
  have hy : okv = (decide (m.e.length ≤ 6) && m.okE) := by rw [HOK.out, HA0.out, HA1.out, HA2.out, HA3.out, HA4.out]; simp
  subst hy
  clear HOK
  go_wp2
  go_ret
  exact ⟨rfl, HB5.out⟩
end Go.Proofs.YtnmcjgkeionjkaaGreat
