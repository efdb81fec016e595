/- The library's up, over a pile. -/
import Derived.Test.YtnmcjgkeionjkaaGreatExactSequenceG21
namespace Go.Proofs.YtnmcjgkeionjkaaGreat
open Go.RowKit
set_option maxRecDepth 100000 in
set_option maxHeartbeats 4000000 in
theorem up_any (B P g cap : Nat) (l : List Ev) (i : Nat) (w : World) (hl : l.length ≤ 1048577) (hP : w.cell? ⟨P, 0, none⟩ = some (.slice (some ⟨g, 0, none⟩) l.length cap)) (hPw : P < w.heap.size) (hPg : P ≠ g) (hR : Row w B g cap l) (hi : i < l.length) (hok : Kept (fun e => e.ok = true) l) :
    Calls Tryz.prog 247 #[pv P, .int .i64 (i : Int)] w fun e w' => (∃ v, e = .returned v) ∧ Row w' B g cap (upL l i) ∧ Turns (fun b => b = g) w w' := by
  have HR : Hid (Row w B g cap l) := hR
  have HP : Hid (w.cell? ⟨P, 0, none⟩ = some (.slice (some ⟨g, 0, none⟩) l.length cap)) := hP
  have HO : Hid (Kept (fun e => e.ok = true) l) := hok
  have hml := fun w => m_less P w
  have hms := fun w => m_swap P w
  clear hR hP hok
  go_enter Tryz.func247, Tryz.ntmps247
  go_wp2
  go_loopw [1] (fun j wr => ∃ (k : Nat) (m : List Ev), k < l.length ∧ j = .int .i64 k ∧ Hid (m.length = l.length) ∧ Hid (Row wr B g cap m) ∧ Hid (upL m k = upL l i) ∧ Hid (Kept (fun e => e.ok = true) m) ∧ Hid (Turns (fun b => b = g) w wr)) (fun j _ => (intOf j).toNat)
  case atStart => exact ⟨i, l, hi, rfl, rfl, HR.out, rfl, HO.out, Turns.refl _ _⟩
  case round =>
    clear HR HO
    obtain ⟨k, m, hk, rfl, HM, HR, HU, HO, HT⟩ := hrel
    have hkm : k < m.length := by have := HM.out; omega
    have HP2 : Hid (wr.cell? ⟨P, 0, none⟩ = some (.slice (some ⟨g, 0, none⟩) m.length cap)) := by
      unfold Hid; rw [HM.out]; exact (HT.out.cell hPw hPg).trans HP.out
    have hPr : P < wr.heap.size := Nat.lt_of_lt_of_le hPw HT.out.size
    by_cases hk0 : k = 0
    · have HK : Hid (k = 0) := hk0
      have e1 : IntKind.i64.wrap (((k : Int) - 1).tdiv 2) = 0 := by subst hk0; rfl
      have e0 : ((k : Int) - 1).tdiv 2 = 0 := by subst hk0; rfl
      have e2 : ((0 : Int) == (k : Int)) = true := by subst hk0; rfl
      clear hk0
      go_wp2
      go_end0
      refine ⟨⟨_, rfl⟩, ?_, HT.out⟩
      rw [← HU.out, upL_stop (by have := HK.out; omega)]
      exact HR.out
    · obtain ⟨p, hp⟩ : ∃ p, (k - 1) / 2 = p := ⟨_, rfl⟩
      have HPP : Hid ((k - 1) / 2 = p) := hp
      have hpk : p < k := by omega
      have hpm : p < m.length := by omega
      have hkp : (1 : Int) ≤ (k : Int) := by omega
      have ek1 : ((k : Int) - 1) / 2 = (p : Int) := by omega
      have ek2 : ((k : Int) - 1).tdiv 2 = (p : Int) := by rw [Int.tdiv_eq_ediv_of_nonneg (by omega)]; exact ek1
      have ek3 : ((p : Int) == (k : Int)) = false := beq_eq_false_iff_ne.2 (by omega)
      clear hp hk0
      obtain ⟨b, hb⟩ : ∃ b, decide ((evAt m k).cmp (evAt m p) < 0) = b := ⟨_, rfl⟩
      have HL : Hid (Calls Tryz.prog 307 #[.pointer (some ⟨P, 0, none⟩), .int .i64 (k : Int), .int .i64 (p : Int)] wr fun e w' => e = .returned (.bool b) ∧ Below wr.heap.size wr w') := less_any B P g cap m k p wr HP2.out hPr HR.out hkm hpm (HO.out k hkm) (HO.out p hpm) b hb
      have HZ : Hid (decide ((evAt m k).cmp (evAt m p) < 0) = b) := hb
      clear hb
      go_wp2_with fail
      refine HL.out.mono ?_
      rintro e w2 ⟨rfl, hb2⟩
      have HR2 : Hid (Row w2 B g cap m) := HR.out.below hb2 HR.out.lt.2
      have HT2 : Hid (Turns (fun b => b = g) w w2) := HT.out.trans (Turns.of_below hb2)
      have HP3 : Hid (w2.cell? ⟨P, 0, none⟩ = some (.slice (some ⟨g, 0, none⟩) m.length cap)) := (hb2.cell (p := ⟨P, 0, none⟩) hPr).trans HP2.out
      clear hb2 HL
      cases b
      · go_wp2
        go_end0
        refine ⟨⟨_, rfl⟩, ?_, HT2.out⟩
        rw [← HU.out, upL_stop (by rw [HPP.out]; have := of_decide_eq_false HZ.out; omega)]
        exact HR2.out
      · have HSW : Hid (Calls Tryz.prog 310 #[.pointer (some ⟨P, 0, none⟩), .int .i64 (p : Int), .int .i64 (k : Int)] w2 fun e w' => (∃ v, e = .returned v) ∧ Row w' B g cap (swp m k p) ∧ Turns (fun b => b = g) w2 w') := by
          have := swap_any B P g cap m p k w2 HP3.out hPg HR2.out hpm hkm
          rwa [swp_comm] at this
        go_wp2_with fail
        refine HSW.out.mono ?_
        rintro e w3 ⟨⟨v, rfl⟩, hr3, ht3⟩
        have HR3 : Hid (Row w3 B g cap (swp m k p)) := hr3
        have HT3 : Hid (Turns (fun b => b = g) w w3) := HT2.out.trans ht3
        clear hr3 ht3 HR2 HT2 HT HR HSW HP2 HP3
        go_wp2
        go_roundw
        case rel => exact ⟨p, swp m k p, by omega, by go_num, by have := HM.out; unfold Hid; rw [swp_length]; exact this, HR3.out, (upL_step HPP.out hpk (of_decide_eq_true HZ.out)).trans HU.out, (kept_swp hkm hpm).2 HO.out, HT3.out⟩
        case measure => simp [intOf]; omega
end Go.Proofs.YtnmcjgkeionjkaaGreat
