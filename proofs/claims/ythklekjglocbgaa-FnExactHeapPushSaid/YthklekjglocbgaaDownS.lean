/- The specification's l0down. -/
import Derived.Test.YthklekjglocbgaaSwapS
import Derived.Test.YthklekjglocbgaaSays
import Derived.Test.YthklekjglocbgaaSteps
namespace Go.Proofs.Ythklekjglocbgaa
open Go.RowKit
set_option maxRecDepth 100000 in
set_option maxHeartbeats 8000000 in
theorem sDown_any (B g cap : Nat) (l : List Ev) (i : Nat) (w : World) (hl : l.length ≤ 1048577) (hR : Row w B g cap l) (hi : i < l.length) :
    Calls Try.prog 51 #[.slice (some ⟨g, 0, none⟩) l.length cap, .int .i64 (i : Int)] w fun e w' => (∃ v, e = .returned v) ∧ Row w' B g cap (downL l l.length i) ∧ Turns (fun b => b = g) w w' := by
  have HR : Hid (Row w B g cap l) := hR
  clear hR
  go_enter Try.func51, Try.ntmps51
  go_wp2
  go_loopw [1, 5] (fun j _ wr => ∃ (k : Nat) (m : List Ev), k < l.length ∧ j = .int .i64 k ∧ Hid (m.length = l.length) ∧ Hid (Row wr B g cap m) ∧ Hid (downL m l.length k = downL l l.length i) ∧ Hid (Turns (fun b => b = g) w wr)) (fun j _ _ => l.length - (intOf j).toNat)
  case atStart => exact ⟨i, l, hi, rfl, rfl, HR.out, rfl, Turns.refl _ _⟩
  case round =>
    clear HR
    obtain ⟨k, m, hk, rfl, HM, HR, HU, HT⟩ := hrel
    have hkm : k < m.length := by have := HM.out; omega
    have hg : g < wr.heap.size := HR.out.lt.2
    have hk1 : (k : Int) < (l.length : Int) := by omega
    have hne : Nonempty (Beyond wr) := ⟨⟨wr, Below.refl _ _⟩⟩
    obtain ⟨c0, c1, c2, c3, c4, c5, c6⟩ := (HR.out.ev hkm).beyond hg
    by_cases h1 : 2 * k + 1 < l.length
    · have h1' : 2 * (k : Int) + 1 < (l.length : Int) := by omega
      have hLm : 2 * k + 1 < m.length := by have := HM.out; omega
      have eL : (2 * (k : Int) + 1).toNat = 2 * k + 1 := by omega
      obtain ⟨d0, d1, d2, d3, d4, d5, d6⟩ := (HR.out.ev hLm).beyond hg
      obtain ⟨z, hz⟩ : ∃ z, (evAt m (2 * k + 1)).cmp (evAt m k) = z := ⟨_, rfl⟩
      have HZ : Hid ((evAt m (2 * k + 1)).cmp (evAt m k) = z) := hz
      clear hz
      by_cases hz0 : z < 0
      · have HZ0 : Hid (z < 0) := hz0
        have hdz : decide (z < 0) = true := by simpa using hz0
        go_wp2_with fail
        refine wp_region_beyond (by kernel_rfl) (by kernel_rfl) ?_
        repeat (go_big_quiet_step ((go_at_call 29; exact Beyond.of (l1cmp_ev (evAt m (2 * k + 1)) (evAt m (k)) z HZ.out _))))
        refine wpQuiet_nil ?_
        rintro w2 ⟨⟨_, hb2⟩, rfl⟩
        have HR2 : Hid (Row w2 B g cap m) := HR.out.below hb2 hg
        have HT2 : Hid (Turns (fun b => b = g) w w2) := HT.out.trans (Turns.of_below hb2)
        have hg2 : g < w2.heap.size := HR2.out.lt.2
        have hne2 : Nonempty (Beyond w2) := ⟨⟨w2, Below.refl _ _⟩⟩
        clear c0 c1 c2 c3 c4 c5 c6 d0 d1 d2 d3 d4 d5 d6 hne
        go_wp2
        by_cases h2 : 2 * k + 2 < l.length
        · have h2' : 2 * (k : Int) + 2 < (l.length : Int) := by omega
          have hRm : 2 * k + 2 < m.length := by have := HM.out; omega
          have eR : (2 * (k : Int) + 2).toNat = 2 * k + 2 := by omega
          have eL : (2 * (k : Int) + 1).toNat = 2 * k + 1 := by omega
          obtain ⟨r0, r1, r2, r3, r4, r5, r6⟩ := (HR2.out.ev hRm).beyond hg2
          obtain ⟨q0, q1, q2, q3, q4, q5, q6⟩ := (HR2.out.ev hLm).beyond hg2
          obtain ⟨y, hy⟩ : ∃ y, (evAt m (2 * k + 2)).cmp (evAt m (2 * k + 1)) = y := ⟨_, rfl⟩
          have HY : Hid ((evAt m (2 * k + 2)).cmp (evAt m (2 * k + 1)) = y) := hy
          clear hy
          by_cases hy0 : y < 0
          · have hdy : decide (y < 0) = true := by simpa using hy0
            go_wp2_with fail
            refine wp_region_beyond (by kernel_rfl) (by kernel_rfl) ?_
            repeat (go_big_quiet_step ((go_at_call 29; exact Beyond.of (l1cmp_ev (evAt m (2 * k + 2)) (evAt m (2 * k + 1)) y HY.out _))))
            refine wpQuiet_nil ?_
            rintro w3 ⟨⟨_, hb3⟩, rfl⟩
            have HR3 : Hid (Row w3 B g cap m) := HR2.out.below hb3 (by have := hb2.size; omega)
            have HT3 : Hid (Turns (fun b => b = g) w w3) := HT2.out.trans (Turns.of_below hb3)
            clear r0 r1 r2 r3 r4 r5 r6 q0 q1 q2 q3 q4 q5 q6 hne2 hb3 hb2 HR2 HT2
            have HSW : Hid (∀ (w : World), Row w B g cap m → Calls Try.prog 58 #[.slice (some ⟨g, 0, none⟩) l.length cap, .int .i64 (k : Int), .int .i64 (2 * (k : Int) + 2)] w fun e w' => (∃ v, e = .returned v) ∧ Row w' B g cap (swp m k (2 * k + 2)) ∧ Turns (fun b => b = g) w w') := fun w h => by
              rw [← HM.out]; exact sSwap_any B g cap m k (2 * k + 2) w h hkm (by have := HM.out; omega) (by omega)
            have hqk : (2 * (k : Int) + 2 == (k : Int)) = false := beq_eq_false_iff_ne.2 (by omega)
            go_wp2_with fail
            refine (HSW.out _ HR3.out).mono ?_
            rintro e w4 ⟨⟨v, rfl⟩, hr4, ht4⟩
            have HR4 : Hid (Row w4 B g cap (swp m k (2 * k + 2))) := hr4
            have HT4 : Hid (Turns (fun b => b = g) w w4) := HT3.out.trans ht4
            clear hr4 ht4 HR3 HT3 HT HR HSW
            go_wp2
            go_roundw
            case rel => exact ⟨2 * k + 2, swp m k (2 * k + 2), by omega, by go_num, by have := HM.out; unfold Hid; rw [swp_length]; exact this, HR4.out, (downL_step (by rw [HM.out.symm] at h2 h1; rw [← HM.out]; exact pick_right h1 (by rw [HZ.out]; exact HZ0.out) h2 (by rw [HY.out]; exact hy0)) (by omega)).trans HU.out, HT4.out⟩
            case measure => simp [intOf]; omega
          · have hdy : decide (y < 0) = false := by simpa using hy0
            go_wp2_with fail
            refine wp_region_beyond (by kernel_rfl) (by kernel_rfl) ?_
            repeat (go_big_quiet_step ((go_at_call 29; exact Beyond.of (l1cmp_ev (evAt m (2 * k + 2)) (evAt m (2 * k + 1)) y HY.out _))))
            refine wpQuiet_nil ?_
            rintro w3 ⟨⟨_, hb3⟩, rfl⟩
            have HR3 : Hid (Row w3 B g cap m) := HR2.out.below hb3 (by have := hb2.size; omega)
            have HT3 : Hid (Turns (fun b => b = g) w w3) := HT2.out.trans (Turns.of_below hb3)
            clear r0 r1 r2 r3 r4 r5 r6 q0 q1 q2 q3 q4 q5 q6 hne2 hb3 hb2 HR2 HT2
            have HSW : Hid (∀ (w : World), Row w B g cap m → Calls Try.prog 58 #[.slice (some ⟨g, 0, none⟩) l.length cap, .int .i64 (k : Int), .int .i64 (2 * (k : Int) + 1)] w fun e w' => (∃ v, e = .returned v) ∧ Row w' B g cap (swp m k (2 * k + 1)) ∧ Turns (fun b => b = g) w w') := fun w h => by
              rw [← HM.out]; exact sSwap_any B g cap m k (2 * k + 1) w h hkm (by have := HM.out; omega) (by omega)
            have hqk : (2 * (k : Int) + 1 == (k : Int)) = false := beq_eq_false_iff_ne.2 (by omega)
            go_wp2_with fail
            refine (HSW.out _ HR3.out).mono ?_
            rintro e w4 ⟨⟨v, rfl⟩, hr4, ht4⟩
            have HR4 : Hid (Row w4 B g cap (swp m k (2 * k + 1))) := hr4
            have HT4 : Hid (Turns (fun b => b = g) w w4) := HT3.out.trans ht4
            clear hr4 ht4 HR3 HT3 HT HR HSW
            go_wp2
            go_roundw
            case rel => exact ⟨2 * k + 1, swp m k (2 * k + 1), by omega, by go_num, by have := HM.out; unfold Hid; rw [swp_length]; exact this, HR4.out, (downL_step (by rw [HM.out.symm] at h1; rw [← HM.out]; exact pick_left h1 (by rw [HZ.out]; exact HZ0.out) (by rw [HY.out]; omega)) (by omega)).trans HU.out, HT4.out⟩
            case measure => simp [intOf]; omega
        · have h2' : decide (2 * (k : Int) + 2 < (l.length : Int)) = false := decide_eq_false (by omega)
          go_wp2_with fail
          refine wp_region_beyond (by kernel_rfl) (by kernel_rfl) ?_
          repeat (go_big_quiet_step (fail))
          refine wpQuiet_nil ?_
          rintro w3 ⟨⟨_, hb3⟩, rfl⟩
          have HR3 : Hid (Row w3 B g cap m) := HR2.out.below hb3 (by have := hb2.size; omega)
          have HT3 : Hid (Turns (fun b => b = g) w w3) := HT2.out.trans (Turns.of_below hb3)
          clear hne2 hb3 hb2 HR2 HT2
          have HSW : Hid (∀ (w : World), Row w B g cap m → Calls Try.prog 58 #[.slice (some ⟨g, 0, none⟩) l.length cap, .int .i64 (k : Int), .int .i64 (2 * (k : Int) + 1)] w fun e w' => (∃ v, e = .returned v) ∧ Row w' B g cap (swp m k (2 * k + 1)) ∧ Turns (fun b => b = g) w w') := fun w h => by
            rw [← HM.out]; exact sSwap_any B g cap m k (2 * k + 1) w h hkm (by have := HM.out; omega) (by omega)
          have hqk : (2 * (k : Int) + 1 == (k : Int)) = false := beq_eq_false_iff_ne.2 (by omega)
          go_wp2_with fail
          refine (HSW.out _ HR3.out).mono ?_
          rintro e w4 ⟨⟨v, rfl⟩, hr4, ht4⟩
          have HR4 : Hid (Row w4 B g cap (swp m k (2 * k + 1))) := hr4
          have HT4 : Hid (Turns (fun b => b = g) w w4) := HT3.out.trans ht4
          clear hr4 ht4 HR3 HT3 HT HR HSW
          go_wp2
          go_roundw
          case rel => exact ⟨2 * k + 1, swp m k (2 * k + 1), by omega, by go_num, by have := HM.out; unfold Hid; rw [swp_length]; exact this, HR4.out, (downL_step (by rw [HM.out.symm] at h1 h2; rw [← HM.out]; exact pick_left h1 (by rw [HZ.out]; exact HZ0.out) (by omega)) (by omega)).trans HU.out, HT4.out⟩
          case measure => simp [intOf]; omega
      · have HZ0 : Hid (¬ z < 0) := hz0
        have hdz : decide (z < 0) = false := by simpa using hz0
        go_wp2_with fail
        refine wp_region_beyond (by kernel_rfl) (by kernel_rfl) ?_
        repeat (go_big_quiet_step ((go_at_call 29; exact Beyond.of (l1cmp_ev (evAt m (2 * k + 1)) (evAt m (k)) z HZ.out _))))
        refine wpQuiet_nil ?_
        rintro w2 ⟨⟨_, hb2⟩, rfl⟩
        have HR2 : Hid (Row w2 B g cap m) := HR.out.below hb2 hg
        have HT2 : Hid (Turns (fun b => b = g) w w2) := HT.out.trans (Turns.of_below hb2)
        have hg2 : g < w2.heap.size := HR2.out.lt.2
        have hne2 : Nonempty (Beyond w2) := ⟨⟨w2, Below.refl _ _⟩⟩
        clear c0 c1 c2 c3 c4 c5 c6 d0 d1 d2 d3 d4 d5 d6 hne
        go_wp2
        by_cases h2 : 2 * k + 2 < l.length
        · have h2' : 2 * (k : Int) + 2 < (l.length : Int) := by omega
          have hRm : 2 * k + 2 < m.length := by have := HM.out; omega
          have eR : (2 * (k : Int) + 2).toNat = 2 * k + 2 := by omega
          obtain ⟨r0, r1, r2, r3, r4, r5, r6⟩ := (HR2.out.ev hRm).beyond hg2
          obtain ⟨q0, q1, q2, q3, q4, q5, q6⟩ := (HR2.out.ev hkm).beyond hg2
          obtain ⟨y, hy⟩ : ∃ y, (evAt m (2 * k + 2)).cmp (evAt m (k)) = y := ⟨_, rfl⟩
          have HY : Hid ((evAt m (2 * k + 2)).cmp (evAt m (k)) = y) := hy
          clear hy
          by_cases hy0 : y < 0
          · have hdy : decide (y < 0) = true := by simpa using hy0
            go_wp2_with fail
            refine wp_region_beyond (by kernel_rfl) (by kernel_rfl) ?_
            repeat (go_big_quiet_step ((go_at_call 29; exact Beyond.of (l1cmp_ev (evAt m (2 * k + 2)) (evAt m (k)) y HY.out _))))
            refine wpQuiet_nil ?_
            rintro w3 ⟨⟨_, hb3⟩, rfl⟩
            have HR3 : Hid (Row w3 B g cap m) := HR2.out.below hb3 (by have := hb2.size; omega)
            have HT3 : Hid (Turns (fun b => b = g) w w3) := HT2.out.trans (Turns.of_below hb3)
            clear r0 r1 r2 r3 r4 r5 r6 q0 q1 q2 q3 q4 q5 q6 hne2 hb3 hb2 HR2 HT2
            have HSW : Hid (∀ (w : World), Row w B g cap m → Calls Try.prog 58 #[.slice (some ⟨g, 0, none⟩) l.length cap, .int .i64 (k : Int), .int .i64 (2 * (k : Int) + 2)] w fun e w' => (∃ v, e = .returned v) ∧ Row w' B g cap (swp m k (2 * k + 2)) ∧ Turns (fun b => b = g) w w') := fun w h => by
              rw [← HM.out]; exact sSwap_any B g cap m k (2 * k + 2) w h hkm (by have := HM.out; omega) (by omega)
            have hqk : (2 * (k : Int) + 2 == (k : Int)) = false := beq_eq_false_iff_ne.2 (by omega)
            go_wp2_with fail
            refine (HSW.out _ HR3.out).mono ?_
            rintro e w4 ⟨⟨v, rfl⟩, hr4, ht4⟩
            have HR4 : Hid (Row w4 B g cap (swp m k (2 * k + 2))) := hr4
            have HT4 : Hid (Turns (fun b => b = g) w w4) := HT3.out.trans ht4
            clear hr4 ht4 HR3 HT3 HT HR HSW
            go_wp2
            go_roundw
            case rel => exact ⟨2 * k + 2, swp m k (2 * k + 2), by omega, by go_num, by have := HM.out; unfold Hid; rw [swp_length]; exact this, HR4.out, (downL_step (by rw [HM.out.symm] at h2; rw [← HM.out]; exact pick_right' (by rw [HZ.out]; have := HZ0.out; omega) h2 (by rw [HY.out]; exact hy0)) (by omega)).trans HU.out, HT4.out⟩
            case measure => simp [intOf]; omega
          · have hdy : decide (y < 0) = false := by simpa using hy0
            go_wp2_with fail
            refine wp_region_beyond (by kernel_rfl) (by kernel_rfl) ?_
            repeat (go_big_quiet_step ((go_at_call 29; exact Beyond.of (l1cmp_ev (evAt m (2 * k + 2)) (evAt m (k)) y HY.out _))))
            refine wpQuiet_nil ?_
            rintro w3 ⟨⟨_, hb3⟩, rfl⟩
            have HR3 : Hid (Row w3 B g cap m) := HR2.out.below hb3 (by have := hb2.size; omega)
            have HT3 : Hid (Turns (fun b => b = g) w w3) := HT2.out.trans (Turns.of_below hb3)
            clear r0 r1 r2 r3 r4 r5 r6 q0 q1 q2 q3 q4 q5 q6 hne2 hb3 hb2 HR2 HT2
            go_wp2
            refine bodyPost_ret (results_none rfl _ _ _) rfl ?_
            refine ⟨⟨_, rfl⟩, ?_, HT3.out⟩
            rw [← HU.out, downL_stop (by rw [← HM.out]; exact pick_stay (by rw [HZ.out]; have := HZ0.out; omega) (by rw [HY.out]; omega))]
            exact HR3.out
        · have h2' : decide (2 * (k : Int) + 2 < (l.length : Int)) = false := decide_eq_false (by omega)
          go_wp2_with fail
          refine wp_region_beyond (by kernel_rfl) (by kernel_rfl) ?_
          repeat (go_big_quiet_step (fail))
          refine wpQuiet_nil ?_
          rintro w3 ⟨⟨_, hb3⟩, rfl⟩
          have HR3 : Hid (Row w3 B g cap m) := HR2.out.below hb3 (by have := hb2.size; omega)
          have HT3 : Hid (Turns (fun b => b = g) w w3) := HT2.out.trans (Turns.of_below hb3)
          clear hne2 hb3 hb2 HR2 HT2
          go_wp2
          refine bodyPost_ret (results_none rfl _ _ _) rfl ?_
          refine ⟨⟨_, rfl⟩, ?_, HT3.out⟩
          rw [← HU.out, downL_stop (by rw [HM.out.symm] at h2; rw [← HM.out]; exact pick_stay (by rw [HZ.out]; have := HZ0.out; omega) (by omega))]
          exact HR3.out
    · have h1' : decide (2 * (k : Int) + 1 < (l.length : Int)) = false := decide_eq_false (by omega)
      have h2' : decide (2 * (k : Int) + 2 < (l.length : Int)) = false := decide_eq_false (by omega)
      go_wp2_with fail
      refine wp_region_beyond (by kernel_rfl) (by kernel_rfl) ?_
      repeat (go_big_quiet_step (fail))
      refine wpQuiet_nil ?_
      rintro w2 ⟨⟨_, hb2⟩, rfl⟩
      have HR2 : Hid (Row w2 B g cap m) := HR.out.below hb2 hg
      have HT2 : Hid (Turns (fun b => b = g) w w2) := HT.out.trans (Turns.of_below hb2)
      have hg2 : g < w2.heap.size := HR2.out.lt.2
      have hne2 : Nonempty (Beyond w2) := ⟨⟨w2, Below.refl _ _⟩⟩
      clear c0 c1 c2 c3 c4 c5 c6 hne
      go_wp2_with fail
      refine wp_region_beyond (by kernel_rfl) (by kernel_rfl) ?_
      repeat (go_big_quiet_step (fail))
      refine wpQuiet_nil ?_
      rintro w3 ⟨⟨_, hb3⟩, rfl⟩
      have HR3 : Hid (Row w3 B g cap m) := HR2.out.below hb3 (by have := hb2.size; omega)
      have HT3 : Hid (Turns (fun b => b = g) w w3) := HT2.out.trans (Turns.of_below hb3)
      clear hne2 hb3 hb2 HR2 HT2
      go_wp2
      refine bodyPost_ret (results_none rfl _ _ _) rfl ?_
      refine ⟨⟨_, rfl⟩, ?_, HT3.out⟩
      rw [← HU.out, downL_stop (pick_none h1)]
      exact HR3.out
end Go.Proofs.Ythklekjglocbgaa
