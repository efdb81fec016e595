/- The specification's l0up. -/
import Derived.Test.YthklekjglocbgabSwapS
import Derived.Test.YthklekjglocbgabSays
import Derived.Test.YthklekjglocbgabSteps
namespace Go.Proofs.Ythklekjglocbgab
open Go.RowKit
set_option maxRecDepth 100000 in
set_option maxHeartbeats 4000000 in
theorem sUp_any (B g cap : Nat) (l : List Ev) (i : Nat) (w : World) (hl : l.length ≤ 1048577) (hR : Row w B g cap l) (hi : i < l.length) :
    Calls Try.prog 64 #[.slice (some ⟨g, 0, none⟩) l.length cap, .int .i64 (i : Int)] w fun e w' => (∃ v, e = .returned v) ∧ Row w' B g cap (upL l i) ∧ Turns (fun b => b = g) w w' := by
  have HR : Hid (Row w B g cap l) := hR
  clear hR
  go_enter Try.func64, Try.ntmps64
  go_wp2
  go_loopw [1] (fun j wr => ∃ (k : Nat) (m : List Ev), k < l.length ∧ j = .int .i64 k ∧ Hid (m.length = l.length) ∧ Hid (Row wr B g cap m) ∧ Hid (upL m k = upL l i) ∧ Hid (Turns (fun b => b = g) w wr)) (fun j _ => (intOf j).toNat)
  case atStart => exact ⟨i, l, hi, rfl, rfl, HR.out, rfl, Turns.refl _ _⟩
  case round =>
    clear HR
    obtain ⟨k, m, hk, rfl, HM, HR, HU, HT⟩ := hrel
    have hkm : k < m.length := by have := HM.out; omega
    have hg : g < wr.heap.size := HR.out.lt.2
    have hne : Nonempty (Beyond wr) := ⟨⟨wr, Below.refl _ _⟩⟩
    by_cases hk0 : k = 0
    · have hd : decide (0 < k) = false := by simp; omega
      have HK : Hid (k = 0) := hk0
      clear hk0
      go_wp2_with fail
      refine wp_region_beyond (by kernel_rfl) (by kernel_rfl) ?_
      repeat (go_big_quiet_step (fail))
      refine wpQuiet_nil ?_
      rintro w2 ⟨⟨_, hb2⟩, rfl⟩
      clear hne hd
      go_wp2
      go_end0
      refine ⟨⟨_, rfl⟩, ?_, HT.out.trans (Turns.of_below hb2)⟩
      rw [← HU.out, upL_stop (by have := HK.out; omega)]
      exact HR.out.below hb2 hg
    · have hd : decide (0 < k) = true := by simp; omega
      have hkp : (1 : Int) ≤ (k : Int) := by omega
      obtain ⟨p, hp⟩ : ∃ p, (k - 1) / 2 = p := ⟨_, rfl⟩
      have HP : Hid ((k - 1) / 2 = p) := hp
      have hpk : p < k := by omega
      have hpm : p < m.length := by omega
      have ek1 : ((k : Int) - 1) / 2 = (p : Int) := by omega
      have ek2 : ((k : Int) - 1).tdiv 2 = (p : Int) := by rw [Int.tdiv_eq_ediv_of_nonneg (by omega)]; exact ek1
      have hp1 : (p : Int) < (m.length : Int) := by omega
      have hk1 : (k : Int) < (m.length : Int) := by omega
      have hml : m.length = l.length := HM.out
      clear hp hk0
      obtain ⟨f0, f1, f2, f3, f4, f5, f6⟩ := (HR.out.ev hkm).beyond hg
      obtain ⟨e0, e1, e2, e3, e4, e5, e6⟩ := (HR.out.ev hpm).beyond hg
      obtain ⟨z, hz⟩ : ∃ z, (evAt m k).cmp (evAt m p) = z := ⟨_, rfl⟩
      have HZ : Hid ((evAt m k).cmp (evAt m p) = z) := hz
      clear hz
      rw [hml] at hp1 hk1
      clear hml
      by_cases hz0 : z < 0
      · have hdz : decide (z < 0) = true := by simpa using hz0
        go_wp2_with fail
        refine wp_region_beyond (by kernel_rfl) (by kernel_rfl) ?_
        repeat (go_big_quiet_step (first | (go_at_call 58; exact Beyond.of (l1cmp_ev (evAt m k) (evAt m p) z HZ.out _))))
        refine wpQuiet_nil ?_
        rintro w2 ⟨⟨_, hb2⟩, rfl⟩
        clear f0 f1 f2 f3 f4 f5 f6 e0 e1 e2 e3 e4 e5 e6 hne hd
        have HR2 : Hid (Row w2 B g cap m) := HR.out.below hb2 hg
        have HSW : Hid (∀ (w : World), Row w B g cap m → Calls Try.prog 77 #[.slice (some ⟨g, 0, none⟩) l.length cap, .int .i64 (k : Int), .int .i64 (p : Int)] w fun e w' => (∃ v, e = .returned v) ∧ Row w' B g cap (swp m k p) ∧ Turns (fun b => b = g) w w') := fun w h => by
          rw [← HM.out]; exact sSwap_any B g cap m k p w h hkm hpm (by omega)
        go_wp2_with fail
        refine (HSW.out _ HR2.out).mono ?_
        rintro e w3 ⟨⟨v, rfl⟩, hr3, ht3⟩
        have HR3 : Hid (Row w3 B g cap (swp m k p)) := hr3
        have HT3 : Hid (Turns (fun b => b = g) w w3) := (HT.out.trans (Turns.of_below hb2)).trans ht3
        clear hr3 ht3 hb2 HR2 HT HR
        go_wp2
        go_roundw
        case rel => exact ⟨p, swp m k p, by omega, by go_num, by have := HM.out; unfold Hid; rw [swp_length]; exact this, HR3.out, (upL_step HP.out hpk (by rw [HZ.out]; exact hz0)).trans HU.out, HT3.out⟩
        case measure => simp [intOf]; omega
      · have hdz : decide (z < 0) = false := by simpa using hz0
        go_wp2_with fail
        refine wp_region_beyond (by kernel_rfl) (by kernel_rfl) ?_
        repeat (go_big_quiet_step (first | (go_at_call 58; exact Beyond.of (l1cmp_ev (evAt m k) (evAt m p) z HZ.out _))))
        refine wpQuiet_nil ?_
        rintro w2 ⟨⟨_, hb2⟩, rfl⟩
        clear f0 f1 f2 f3 f4 f5 f6 e0 e1 e2 e3 e4 e5 e6 hne hd
        go_wp2
        go_end0
        refine ⟨⟨_, rfl⟩, ?_, HT.out.trans (Turns.of_below hb2)⟩
        rw [← HU.out, upL_stop (by rw [HP.out, HZ.out]; omega)]
        exact HR.out.below hb2 hg
end Go.Proofs.Ythklekjglocbgab
