/- The library's down, over a pile. -/
import Derived.Test.YtbljfphdghfkfaaGreatDoorModelsCardG23
namespace Go.Proofs.YtbljfphdghfkfaaGreatDoor
open Go.RowKit
set_option maxRecDepth 100000 in
set_option maxHeartbeats 8000000 in
theorem down_any (B P g cap : Nat) (l : List Ev) (i0 n : Nat) (w : World) (hl : l.length ≤ 1048577) (hP : w.cell? ⟨P, 0, none⟩ = some (.slice (some ⟨g, 0, none⟩) l.length cap)) (hPw : P < w.heap.size) (hPg : P ≠ g) (hR : Row w B g cap l) (hi : i0 < l.length) (hn : n ≤ l.length) (hok : Kept (fun e => e.ok = true) l) (bb : Bool) (hbb : decide (pickL l n i0 ≠ i0) = bb) :
  Calls Tryz.prog 97 #[pv P, .int .i64 (i0 : Int), .int .i64 (n : Int)] w fun e w' => e = .returned (.bool bb) ∧ Row w' B g cap (downL l n i0) ∧ Turns (fun b => b = g) w w' := by
 have HR : Hid (Row w B g cap l) := hR
 have HP : Hid (w.cell? ⟨P, 0, none⟩ = some (.slice (some ⟨g, 0, none⟩) l.length cap)) := hP
 have HO : Hid (Kept (fun e => e.ok = true) l) := hok
 have HBB : Hid (decide (pickL l n i0 ≠ i0) = bb) := hbb
 have hml := fun w => m_less P w
 have hms := fun w => m_swap P w
 clear hR hP hok hbb
 go_enter Tryz.func97, Tryz.ntmps97
 go_wp2
 go_loopw [7] (fun j wr => ∃ (k : Nat) (m : List Ev), k < l.length ∧ j = .int .i64 k ∧ Hid (m.length = l.length) ∧ Hid (Row wr B g cap m) ∧ Hid (downL m n k = downL l n i0) ∧ Hid (Kept (fun e => e.ok = true) m) ∧ Hid (Turns (fun b => b = g) w wr) ∧ Hid ((k = i0 ∧ m = l) ∨ (i0 < k ∧ pickL l n i0 ≠ i0))) (fun j _ => l.length - (intOf j).toNat)
 case atStart => exact ⟨i0, l, hi, rfl, rfl, HR.out, rfl, HO.out, Turns.refl _ _, .inl ⟨rfl, rfl⟩⟩
 case round =>
  clear HR HO
  obtain ⟨k, m, hk, rfl, HM, HR, HU, HO, HT, HX⟩ := hrel
  have hkm : k < m.length := by have := HM.out; omega
  have HP2 : Hid (wr.cell? ⟨P, 0, none⟩ = some (.slice (some ⟨g, 0, none⟩) m.length cap)) := by
   unfold Hid; rw [HM.out]; exact (HT.out.cell hPw hPg).trans HP.out
  have hPr : P < wr.heap.size := Nat.lt_of_lt_of_le hPw HT.out.size
  have HE : Hid (pickL m n k = k → (i0 < k ↔ bb = true)) := fun hpk => by
   rcases HX.out with ⟨rfl, rfl⟩ | ⟨h1, h2⟩
   ·rw [← HBB.out]; simp [hpk]
   ·rw [← HBB.out]; simp [h1, h2]
  by_cases h1 : 2 * k + 1 < n
  ·have h1' : 2 * (k : Int) + 1 < (n : Int) := by omega
   have hLm : 2 * k + 1 < m.length := by have := HM.out; omega
   have h1n : ¬ ((n : Int) ≤ 2 * (k : Int) + 1) := by omega
   have h1z : ¬ (2 * (k : Int) + 1 < 0) := by omega
   by_cases h2 : 2 * k + 2 < n
   ·have h2' : 2 * (k : Int) + 2 < (n : Int) := by omega
    have e2 : 2 * (k : Int) + 1 + 1 = 2 * (k : Int) + 2 := by omega
    have hRm : 2 * k + 2 < m.length := by have := HM.out; omega
    obtain ⟨y, hy⟩ : ∃ y, (evAt m (2 * k + 2)).cmp (evAt m (2 * k + 1)) = y := ⟨_, rfl⟩
    have HY : Hid ((evAt m (2 * k + 2)).cmp (evAt m (2 * k + 1)) = y) := hy
    clear hy
    by_cases hy0 : y < 0
    ·have HY0 : Hid (y < 0) := hy0
     have HL3 : Hid (Calls Tryz.prog 187 #[.pointer (some ⟨P, 0, none⟩), .int .i64 (2 * (k : Int) + 2), .int .i64 (2 * (k : Int) + 1)] wr fun e w' => e = .returned (.bool true) ∧ Below wr.heap.size wr w') := less_any B P g cap m (2 * k + 2) (2 * k + 1) wr HP2.out hPr HR.out hRm hLm (HO.out _ hRm) (HO.out _ hLm) true (by rw [HY.out]; simpa using hy0)
     go_wp2_with fail
     refine HL3.out.mono ?_
     rintro e w3 ⟨rfl, hb3⟩
     have HR3 : Hid (Row w3 B g cap m) := HR.out.below hb3 HR.out.lt.2
     have HT3 : Hid (Turns (fun b => b = g) w w3) := HT.out.trans (Turns.of_below hb3)
     have HP3 : Hid (w3.cell? ⟨P, 0, none⟩ = some (.slice (some ⟨g, 0, none⟩) m.length cap)) := (hb3.cell (p := ⟨P, 0, none⟩) hPr).trans HP2.out
     have hPr3 : P < w3.heap.size := Nat.lt_of_lt_of_le hPr hb3.size
     clear hb3
     clear hy0
     obtain ⟨x, hx⟩ : ∃ x, (evAt m (2 * k + 2)).cmp (evAt m k) = x := ⟨_, rfl⟩
     have HXX : Hid ((evAt m (2 * k + 2)).cmp (evAt m k) = x) := hx
     clear hx
     by_cases hx0 : x < 0
     ·have HL4 : Hid (Calls Tryz.prog 187 #[.pointer (some ⟨P, 0, none⟩), .int .i64 (2 * (k : Int) + 2), .int .i64 ((k : Int))] w3 fun e w' => e = .returned (.bool true) ∧ Below w3.heap.size w3 w') := less_any B P g cap m (2 * k + 2) (k) w3 HP3.out hPr3 HR3.out hRm hkm (HO.out _ hRm) (HO.out _ hkm) true (by rw [HXX.out]; simpa using hx0)
      go_wp2_with fail
      refine HL4.out.mono ?_
      rintro e v4 ⟨rfl, hb4⟩
      have HR4 : Hid (Row v4 B g cap m) := HR3.out.below hb4 HR3.out.lt.2
      have HT4 : Hid (Turns (fun b => b = g) w v4) := HT3.out.trans (Turns.of_below hb4)
      have HP4 : Hid (v4.cell? ⟨P, 0, none⟩ = some (.slice (some ⟨g, 0, none⟩) m.length cap)) := (hb4.cell (p := ⟨P, 0, none⟩) hPr3).trans HP3.out
      have hPr4 : P < v4.heap.size := Nat.lt_of_lt_of_le hPr3 hb4.size
      clear hb4
      have HSW : Hid (Calls Tryz.prog 190 #[.pointer (some ⟨P, 0, none⟩), .int .i64 (k : Int), .int .i64 (2 * (k : Int) + 2)] v4 fun e w' => (∃ v, e = .returned v) ∧ Row w' B g cap (swp m k (2 * k + 2)) ∧ Turns (fun b => b = g) v4 w') := swap_any B P g cap m k (2 * k + 2) v4 HP4.out hPg HR4.out hkm hRm
      go_wp2_with fail
      refine HSW.out.mono ?_
      rintro e w9 ⟨⟨v, rfl⟩, hr9, ht9⟩
      have HR9 : Hid (Row w9 B g cap (swp m k (2 * k + 2))) := hr9
      have HT9 : Hid (Turns (fun b => b = g) w w9) := HT4.out.trans ht9
      have HPK : Hid (pickL m n k = 2 * k + 2) := lib_right h2 (by rw [HY.out]; exact HY0.out) (by rw [HXX.out]; exact hx0)
      clear hr9 ht9 HSW
      go_wp2
      go_roundw
      case rel => exact ⟨2 * k + 2, swp m k (2 * k + 2), by omega, by go_num, by have := HM.out; unfold Hid; rw [swp_length]; exact this, HR9.out, (downL_step HPK.out (by omega)).trans HU.out, (kept_swp hkm hRm).2 HO.out, HT9.out, .inr (HX.out.elim (fun ⟨h1, h2⟩ => ⟨by omega, by rw [← h1, ← h2, HPK.out]; omega⟩) (fun ⟨h1, h2⟩ => ⟨by omega, h2⟩))⟩
      case measure => simp [intOf]; omega
     ·have HL4 : Hid (Calls Tryz.prog 187 #[.pointer (some ⟨P, 0, none⟩), .int .i64 (2 * (k : Int) + 2), .int .i64 ((k : Int))] w3 fun e w' => e = .returned (.bool false) ∧ Below w3.heap.size w3 w') := less_any B P g cap m (2 * k + 2) (k) w3 HP3.out hPr3 HR3.out hRm hkm (HO.out _ hRm) (HO.out _ hkm) false (by rw [HXX.out]; simpa using hx0)
      go_wp2_with fail
      refine HL4.out.mono ?_
      rintro e v4 ⟨rfl, hb4⟩
      have HR4 : Hid (Row v4 B g cap m) := HR3.out.below hb4 HR3.out.lt.2
      have HT4 : Hid (Turns (fun b => b = g) w v4) := HT3.out.trans (Turns.of_below hb4)
      have HP4 : Hid (v4.cell? ⟨P, 0, none⟩ = some (.slice (some ⟨g, 0, none⟩) m.length cap)) := (hb4.cell (p := ⟨P, 0, none⟩) hPr3).trans HP3.out
      have hPr4 : P < v4.heap.size := Nat.lt_of_lt_of_le hPr3 hb4.size
      clear hb4
      have HPK : Hid (pickL m n k = k) := lib_right_stay h2 (by rw [HY.out]; exact HY0.out) (by rw [HXX.out]; omega)
      have HEE : Hid (i0 < k ↔ bb = true) := HE.out HPK.out
      go_wp2
      go_ret
      refine ⟨ret_dec ⟨fun h => HEE.out.1 (by omega), fun h => by have := HEE.out.2 h; omega⟩, ?_, HT4.out⟩
      rw [← HU.out, downL_stop HPK.out]
      exact HR4.out
    ·have HY0 : Hid (¬ y < 0) := hy0
     have HL3 : Hid (Calls Tryz.prog 187 #[.pointer (some ⟨P, 0, none⟩), .int .i64 (2 * (k : Int) + 2), .int .i64 (2 * (k : Int) + 1)] wr fun e w' => e = .returned (.bool false) ∧ Below wr.heap.size wr w') := less_any B P g cap m (2 * k + 2) (2 * k + 1) wr HP2.out hPr HR.out hRm hLm (HO.out _ hRm) (HO.out _ hLm) false (by rw [HY.out]; simpa using hy0)
     go_wp2_with fail
     refine HL3.out.mono ?_
     rintro e w3 ⟨rfl, hb3⟩
     have HR3 : Hid (Row w3 B g cap m) := HR.out.below hb3 HR.out.lt.2
     have HT3 : Hid (Turns (fun b => b = g) w w3) := HT.out.trans (Turns.of_below hb3)
     have HP3 : Hid (w3.cell? ⟨P, 0, none⟩ = some (.slice (some ⟨g, 0, none⟩) m.length cap)) := (hb3.cell (p := ⟨P, 0, none⟩) hPr).trans HP2.out
     have hPr3 : P < w3.heap.size := Nat.lt_of_lt_of_le hPr hb3.size
     clear hb3
     clear hy0
     obtain ⟨x, hx⟩ : ∃ x, (evAt m (2 * k + 1)).cmp (evAt m k) = x := ⟨_, rfl⟩
     have HXX : Hid ((evAt m (2 * k + 1)).cmp (evAt m k) = x) := hx
     clear hx
     by_cases hx0 : x < 0
     ·have HL4 : Hid (Calls Tryz.prog 187 #[.pointer (some ⟨P, 0, none⟩), .int .i64 (2 * (k : Int) + 1), .int .i64 ((k : Int))] w3 fun e w' => e = .returned (.bool true) ∧ Below w3.heap.size w3 w') := less_any B P g cap m (2 * k + 1) (k) w3 HP3.out hPr3 HR3.out hLm hkm (HO.out _ hLm) (HO.out _ hkm) true (by rw [HXX.out]; simpa using hx0)
      go_wp2_with fail
      refine HL4.out.mono ?_
      rintro e v4 ⟨rfl, hb4⟩
      have HR4 : Hid (Row v4 B g cap m) := HR3.out.below hb4 HR3.out.lt.2
      have HT4 : Hid (Turns (fun b => b = g) w v4) := HT3.out.trans (Turns.of_below hb4)
      have HP4 : Hid (v4.cell? ⟨P, 0, none⟩ = some (.slice (some ⟨g, 0, none⟩) m.length cap)) := (hb4.cell (p := ⟨P, 0, none⟩) hPr3).trans HP3.out
      have hPr4 : P < v4.heap.size := Nat.lt_of_lt_of_le hPr3 hb4.size
      clear hb4
      have HSW : Hid (Calls Tryz.prog 190 #[.pointer (some ⟨P, 0, none⟩), .int .i64 (k : Int), .int .i64 (2 * (k : Int) + 1)] v4 fun e w' => (∃ v, e = .returned v) ∧ Row w' B g cap (swp m k (2 * k + 1)) ∧ Turns (fun b => b = g) v4 w') := swap_any B P g cap m k (2 * k + 1) v4 HP4.out hPg HR4.out hkm hLm
      go_wp2_with fail
      refine HSW.out.mono ?_
      rintro e w9 ⟨⟨v, rfl⟩, hr9, ht9⟩
      have HR9 : Hid (Row w9 B g cap (swp m k (2 * k + 1))) := hr9
      have HT9 : Hid (Turns (fun b => b = g) w w9) := HT4.out.trans ht9
      have HPK : Hid (pickL m n k = 2 * k + 1) := lib_left h1 (by rw [HY.out]; have := HY0.out; omega) (by rw [HXX.out]; exact hx0)
      clear hr9 ht9 HSW
      go_wp2
      go_roundw
      case rel => exact ⟨2 * k + 1, swp m k (2 * k + 1), by omega, by go_num, by have := HM.out; unfold Hid; rw [swp_length]; exact this, HR9.out, (downL_step HPK.out (by omega)).trans HU.out, (kept_swp hkm hLm).2 HO.out, HT9.out, .inr (HX.out.elim (fun ⟨h1, h2⟩ => ⟨by omega, by rw [← h1, ← h2, HPK.out]; omega⟩) (fun ⟨h1, h2⟩ => ⟨by omega, h2⟩))⟩
      case measure => simp [intOf]; omega
     ·have HL4 : Hid (Calls Tryz.prog 187 #[.pointer (some ⟨P, 0, none⟩), .int .i64 (2 * (k : Int) + 1), .int .i64 ((k : Int))] w3 fun e w' => e = .returned (.bool false) ∧ Below w3.heap.size w3 w') := less_any B P g cap m (2 * k + 1) (k) w3 HP3.out hPr3 HR3.out hLm hkm (HO.out _ hLm) (HO.out _ hkm) false (by rw [HXX.out]; simpa using hx0)
      go_wp2_with fail
      refine HL4.out.mono ?_
      rintro e v4 ⟨rfl, hb4⟩
      have HR4 : Hid (Row v4 B g cap m) := HR3.out.below hb4 HR3.out.lt.2
      have HT4 : Hid (Turns (fun b => b = g) w v4) := HT3.out.trans (Turns.of_below hb4)
      have HP4 : Hid (v4.cell? ⟨P, 0, none⟩ = some (.slice (some ⟨g, 0, none⟩) m.length cap)) := (hb4.cell (p := ⟨P, 0, none⟩) hPr3).trans HP3.out
      have hPr4 : P < v4.heap.size := Nat.lt_of_lt_of_le hPr3 hb4.size
      clear hb4
      have HPK : Hid (pickL m n k = k) := lib_left_stay h1 (by rw [HY.out]; have := HY0.out; omega) (by rw [HXX.out]; omega)
      have HEE : Hid (i0 < k ↔ bb = true) := HE.out HPK.out
      go_wp2
      go_ret
      refine ⟨ret_dec ⟨fun h => HEE.out.1 (by omega), fun h => by have := HEE.out.2 h; omega⟩, ?_, HT4.out⟩
      rw [← HU.out, downL_stop HPK.out]
      exact HR4.out
   ·have h2' : ¬ (2 * (k : Int) + 2 < (n : Int)) := by omega
    have h2'' : ¬ (2 * (k : Int) + 1 + 1 < (n : Int)) := by omega
    obtain ⟨x, hx⟩ : ∃ x, (evAt m (2 * k + 1)).cmp (evAt m k) = x := ⟨_, rfl⟩
    have HXX : Hid ((evAt m (2 * k + 1)).cmp (evAt m k) = x) := hx
    clear hx
    by_cases hx0 : x < 0
    ·have HL4 : Hid (Calls Tryz.prog 187 #[.pointer (some ⟨P, 0, none⟩), .int .i64 (2 * (k : Int) + 1), .int .i64 ((k : Int))] wr fun e w' => e = .returned (.bool true) ∧ Below wr.heap.size wr w') := less_any B P g cap m (2 * k + 1) (k) wr HP2.out hPr HR.out hLm hkm (HO.out _ hLm) (HO.out _ hkm) true (by rw [HXX.out]; simpa using hx0)
     go_wp2_with fail
     refine HL4.out.mono ?_
     rintro e v4 ⟨rfl, hb4⟩
     have HR4 : Hid (Row v4 B g cap m) := HR.out.below hb4 HR.out.lt.2
     have HT4 : Hid (Turns (fun b => b = g) w v4) := HT.out.trans (Turns.of_below hb4)
     have HP4 : Hid (v4.cell? ⟨P, 0, none⟩ = some (.slice (some ⟨g, 0, none⟩) m.length cap)) := (hb4.cell (p := ⟨P, 0, none⟩) hPr).trans HP2.out
     have hPr4 : P < v4.heap.size := Nat.lt_of_lt_of_le hPr hb4.size
     clear hb4
     have HSW : Hid (Calls Tryz.prog 190 #[.pointer (some ⟨P, 0, none⟩), .int .i64 (k : Int), .int .i64 (2 * (k : Int) + 1)] v4 fun e w' => (∃ v, e = .returned v) ∧ Row w' B g cap (swp m k (2 * k + 1)) ∧ Turns (fun b => b = g) v4 w') := swap_any B P g cap m k (2 * k + 1) v4 HP4.out hPg HR4.out hkm hLm
     go_wp2_with fail
     refine HSW.out.mono ?_
     rintro e w9 ⟨⟨v, rfl⟩, hr9, ht9⟩
     have HR9 : Hid (Row w9 B g cap (swp m k (2 * k + 1))) := hr9
     have HT9 : Hid (Turns (fun b => b = g) w w9) := HT4.out.trans ht9
     have HPK : Hid (pickL m n k = 2 * k + 1) := lib_left h1 (by omega) (by rw [HXX.out]; exact hx0)
     clear hr9 ht9 HSW
     go_wp2
     go_roundw
     case rel => exact ⟨2 * k + 1, swp m k (2 * k + 1), by omega, by go_num, by have := HM.out; unfold Hid; rw [swp_length]; exact this, HR9.out, (downL_step HPK.out (by omega)).trans HU.out, (kept_swp hkm hLm).2 HO.out, HT9.out, .inr (HX.out.elim (fun ⟨h1, h2⟩ => ⟨by omega, by rw [← h1, ← h2, HPK.out]; omega⟩) (fun ⟨h1, h2⟩ => ⟨by omega, h2⟩))⟩
     case measure => simp [intOf]; omega
    ·have HL4 : Hid (Calls Tryz.prog 187 #[.pointer (some ⟨P, 0, none⟩), .int .i64 (2 * (k : Int) + 1), .int .i64 ((k : Int))] wr fun e w' => e = .returned (.bool false) ∧ Below wr.heap.size wr w') := less_any B P g cap m (2 * k + 1) (k) wr HP2.out hPr HR.out hLm hkm (HO.out _ hLm) (HO.out _ hkm) false (by rw [HXX.out]; simpa using hx0)
     go_wp2_with fail
     refine HL4.out.mono ?_
     rintro e v4 ⟨rfl, hb4⟩
     have HR4 : Hid (Row v4 B g cap m) := HR.out.below hb4 HR.out.lt.2
     have HT4 : Hid (Turns (fun b => b = g) w v4) := HT.out.trans (Turns.of_below hb4)
     have HP4 : Hid (v4.cell? ⟨P, 0, none⟩ = some (.slice (some ⟨g, 0, none⟩) m.length cap)) := (hb4.cell (p := ⟨P, 0, none⟩) hPr).trans HP2.out
     have hPr4 : P < v4.heap.size := Nat.lt_of_lt_of_le hPr hb4.size
     clear hb4
     have HPK : Hid (pickL m n k = k) := lib_left_stay h1 (by omega) (by rw [HXX.out]; omega)
     have HEE : Hid (i0 < k ↔ bb = true) := HE.out HPK.out
     go_wp2
     go_ret
     refine ⟨ret_dec ⟨fun h => HEE.out.1 (by omega), fun h => by have := HEE.out.2 h; omega⟩, ?_, HT4.out⟩
     rw [← HU.out, downL_stop HPK.out]
     exact HR4.out
  ·have h1' : (n : Int) ≤ 2 * (k : Int) + 1 := by omega
   have HPK : Hid (pickL m n k = k) := pick_none h1
   have HEE : Hid (i0 < k ↔ bb = true) := HE.out HPK.out
   go_wp2
   go_ret
   refine ⟨ret_dec ⟨fun h => HEE.out.1 (by omega), fun h => by have := HEE.out.2 h; omega⟩, ?_, HT.out⟩
   rw [← HU.out, downL_stop HPK.out]
   exact HR.out
end Go.Proofs.YtbljfphdghfkfaaGreatDoor
