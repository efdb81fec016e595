/- The library's Remove over a pile. -/
import Derived.Test.YteecpandpkicmaaHeapsG25
namespace Go.Proofs.Yteecpandpkicmaa
open Go.RowKit
set_option maxRecDepth 100000 in
set_option maxHeartbeats 4000000 in
theorem libRemove_any (B P g cap : Nat) (l : List Ev) (i n : Nat) (w : World) (hn : l.length = n + 1) (hi : i < n + 1) (h : Pl w B P (.slice (some ⟨g, 0, none⟩) (n + 1) cap) l) (hl : l.length ≤ 1048576) (hok : Kept (fun e => e.ok = true) l) (hh : HeapL l) :
    Calls Try.prog 46 #[pv P, .int .i64 (i : Int)] w fun r w' => (∃ u, r = .returned u) ∧ (∃ v', Pl w' B P v' (takeL l i)) ∧ Turns (fun b => b = P ∨ b = g) w w' := by
  have HN : Hid (l.length = n + 1) := hn
  have HBX : Hid (Boxed w P 89 (.slice (some ⟨g, 0, none⟩) (n + 1) cap)) := h.box
  obtain ⟨g', cap', hv, hR, hPg⟩ := h.form hn
  cases hv
  have hPw : P < w.heap.size := h.box.lt
  have HLO : Hid (B ≤ P) := h.low
  have HR : Hid (Row w B g cap l) := hR
  have HLN : Hid (Calls Try.prog 86 #[.pointer (some ⟨P, 0, none⟩)] w fun e w' => e = .returned (.int .i64 ((n : Int) + 1)) ∧ w' = w) := by
    have := len_any _ P (n + 1) cap w h.box.cell
    unfold Hid; simpa using this
  have hml := fun w => m_len P w
  have hms := fun w => m_swap P w
  have hmp := fun w => m_pop P w
  have HOK : Hid (Kept (fun e => e.ok = true) l) := hok
  have HHH : Hid (HeapL l) := hh
  -- the pop at the end, whatever lies there
  have HPOP : Hid (∀ (W : World) (m : List Ev) (e : Ev), m.length = n → Boxed W P 89 (.slice (some ⟨g, 0, none⟩) (n + 1) cap) → Row W B g cap (m ++ [e]) → Calls Try.prog 88 #[.pointer (some ⟨P, 0, none⟩)] W fun r w' => (∃ u, r = .returned (.iface 25 u)) ∧ Pl w' B P (.slice (some ⟨g, 0, none⟩) n cap) m ∧ Turns (fun b => b = P) W w') := fun W m e hm hb hr => by
    have h9 := pop_any B P g cap m e W (by rw [hm]; exact Pl.at hb hr (by simp [hm]) HLO.out)
    rw [hm] at h9
    exact h9.mono fun r w' ⟨h1, h2, h3⟩ => ⟨⟨_, h1⟩, h2, h3⟩
  have hn1 : n ≤ 1048575 := by omega
  clear h hok hR hn hh
  by_cases hin : i = n
  · have hq : ((n : Int) != (i : Int)) = false := by simp [hin]
    have hsn : l = l.take n ++ [evAt l n] := by
      refine ext_ev (by simp [HN.out]) (fun j hj => ?_)
      have htl : (l.take n).length = n := by simp [HN.out]
      by_cases hjn : j = n
      · subst hjn
        have := evAt_last (l.take j) (evAt l j)
        rw [htl] at this
        exact this.symm
      · rw [evAt_left _ _ _ (by have := HN.out; omega), evAt_take _ _ _ (by have := HN.out; omega)]
    have HPP := HPOP.out w (l.take n) (evAt l n) (by simp [HN.out]) HBX.out (by rw [← hsn]; exact HR.out)
    have HPP' : Hid (Calls Try.prog 88 #[.pointer (some ⟨P, 0, none⟩)] w fun r w' => (∃ u, r = .returned (.iface 25 u)) ∧ Pl w' B P (.slice (some ⟨g, 0, none⟩) n cap) (l.take n) ∧ Turns (fun b => b = P) w w') := HPP
    have HTK : Hid (takeL l i = l.take n) := by
      unfold Hid
      have := takeL_last l
      rw [HN.out, Nat.add_sub_cancel] at this
      rw [hin]; exact this
    clear hsn HPP hin
    go_enter Try.func46, Try.ntmps46
    go_wp2_with fail
    refine HLN.out.mono ?_
    rintro r w' ⟨rfl, hw⟩
    have hw' := hw.symm
    clear hw
    subst hw'
    go_wp2_with fail
    refine HPP'.out.mono ?_
    rintro r w3 ⟨⟨u, rfl⟩, hp3, ht3⟩
    have HP3 : Hid (Pl w3 B P (.slice (some ⟨g, 0, none⟩) n cap) (l.take n)) := hp3
    have HT3 : Hid (Turns (fun b => b = P) w w3) := ht3
    clear hp3 ht3
    go_wp2
    go_ret
    exact ⟨⟨_, rfl⟩, ⟨_, by rw [HTK.out]; exact HP3.out⟩, HT3.out.mono (fun _ h => .inl h)⟩
  · have hlt : i < n := by omega
    have hq : ((n : Int) != (i : Int)) = true := by simp; omega
    have HSW : Hid (Calls Try.prog 90 #[.pointer (some ⟨P, 0, none⟩), .int .i64 (i : Int), .int .i64 (n : Int)] w fun e w' => (∃ v, e = .returned v) ∧ Row w' B g cap (swp l i n) ∧ Turns (fun b => b = g) w w') :=
      swap_any B P g cap l i n w (by rw [HN.out]; exact HBX.out.cell) hPg HR.out (by have := HN.out; omega) (by have := HN.out; omega)
    have HO2 : Hid (Kept (fun e => e.ok = true) (swp l i n)) := (kept_swp (by have := HN.out; omega) (by have := HN.out; omega)).2 HOK.out
    have HSL : Hid ((swp l i n).length = n + 1) := by unfold Hid; rw [swp_length]; exact HN.out
    have HRS : Hid ((if pickL (swp l i n) n i ≠ i then downL (swp l i n) n i else upL (downL (swp l i n) n i) i).take n = takeL l i) := by
      have := remove_same l i HHH.out (by have := HN.out; omega)
      rw [HN.out, Nat.add_sub_cancel] at this
      exact this
    -- whatever of both has been done: its last one goes
    have HLAST : ∀ m : List Ev, m.length = n + 1 → m = m.take n ++ [evAt m n] := fun m hm => by
      refine ext_ev (by simp [hm]) (fun j hj => ?_)
      have htl : (m.take n).length = n := by simp [hm]
      by_cases hjn : j = n
      · subst hjn
        have := evAt_last (m.take j) (evAt m j)
        rw [htl] at this
        exact this.symm
      · rw [evAt_left _ _ _ (by omega), evAt_take _ _ _ (by omega)]
    have HLL : Hid (∀ m : List Ev, m.length = n + 1 → m = m.take n ++ [evAt m n]) := HLAST
    clear HLAST hin
    go_enter Try.func46, Try.ntmps46
    go_wp2_with fail
    refine HLN.out.mono ?_
    rintro r w' ⟨rfl, hw⟩
    have hw' := hw.symm
    clear hw
    subst hw'
    go_wp2_with fail
    refine HSW.out.mono ?_
    rintro r w1 ⟨⟨u1, rfl⟩, hr1, ht1⟩
    have HBX1 : Hid (Boxed w1 P 89 (.slice (some ⟨g, 0, none⟩) (n + 1) cap)) := (ht1.block P hPw hPg).trans HBX.out
    have HT1 : Hid (Turns (fun b => b = g) w w1) := ht1
    obtain ⟨bb, hbb⟩ : ∃ bb, decide (pickL (swp l i n) n i ≠ i) = bb := ⟨_, rfl⟩
    have HBB : Hid (decide (pickL (swp l i n) n i ≠ i) = bb) := hbb
    have HD : Hid (Calls Try.prog 62 #[pv P, .int .i64 (i : Int), .int .i64 (n : Int)] w1 fun e w' => e = .returned (.bool bb) ∧ Row w' B g cap (downL (swp l i n) n i) ∧ Turns (fun b => b = g) w1 w') :=
      down_any B P g cap (swp l i n) i n w1 (by have := HSL.out; omega) (by rw [HSL.out]; exact HBX1.out.cell) HBX1.out.lt hPg hr1 (by have := HSL.out; omega) (by have := HSL.out; omega) HO2.out bb hbb
    clear hr1 ht1 hbb HSW HLN
    go_wp2_with fail
    refine HD.out.mono ?_
    rintro r w2 ⟨rfl, hr2, ht2⟩
    have HT2 : Hid (Turns (fun b => b = g) w w2) := HT1.out.trans ht2
    have HBX2 : Hid (Boxed w2 P 89 (.slice (some ⟨g, 0, none⟩) (n + 1) cap)) := (ht2.block P HBX1.out.lt hPg).trans HBX1.out
    have HR2 : Hid (Row w2 B g cap (downL (swp l i n) n i)) := hr2
    have HDL : Hid ((downL (swp l i n) n i).length = n + 1) := by unfold Hid; rw [downL_length]; exact HSL.out
    clear hr2 ht2 HD
    cases bb
    · have hpk : ¬ (pickL (swp l i n) n i ≠ i) := of_decide_eq_false HBB.out
      have HTK : Hid ((upL (downL (swp l i n) n i) i).take n = takeL l i) := by have := HRS.out; rw [if_neg hpk] at this; exact this
      have HO3 : Hid (Kept (fun e => e.ok = true) (downL (swp l i n) n i)) := (kept_downL (by have := HSL.out; omega) hlt).2 HO2.out
      have HU : Hid (Calls Try.prog 63 #[pv P, .int .i64 (i : Int)] w2 fun e' w' => (∃ v, e' = .returned v) ∧ Row w' B g cap (upL (downL (swp l i n) n i) i) ∧ Turns (fun b => b = g) w2 w') :=
        up_any B P g cap (downL (swp l i n) n i) i w2 (by have := HDL.out; omega) (by rw [HDL.out]; exact HBX2.out.cell) HBX2.out.lt hPg HR2.out (by have := HDL.out; omega) HO3.out
      clear hpk
      go_wp2_with fail
      refine HU.out.mono ?_
      rintro r w3 ⟨⟨u3, rfl⟩, hr3, ht3⟩
      have HBX3 : Hid (Boxed w3 P 89 (.slice (some ⟨g, 0, none⟩) (n + 1) cap)) := (ht3.block P HBX2.out.lt hPg).trans HBX2.out
      have HT3 : Hid (Turns (fun b => b = g) w w3) := HT2.out.trans ht3
      have HUL : (upL (downL (swp l i n) n i) i).length = n + 1 := by rw [upL_length]; exact HDL.out
      have HPP : Hid (Calls Try.prog 88 #[.pointer (some ⟨P, 0, none⟩)] w3 fun r w' => (∃ u, r = .returned (.iface 25 u)) ∧ Pl w' B P (.slice (some ⟨g, 0, none⟩) n cap) (takeL l i) ∧ Turns (fun b => b = P) w3 w') := by
        have h9 := HPOP.out w3 ((upL (downL (swp l i n) n i) i).take n) (evAt (upL (downL (swp l i n) n i) i) n) (by simp [HUL]) HBX3.out (by rw [← HLL.out _ HUL]; exact hr3)
        rw [HTK.out] at h9
        exact h9
      clear hr3 ht3 HUL HU
      go_wp2_with fail
      refine HPP.out.mono ?_
      rintro r w4 ⟨⟨u4, rfl⟩, hp4, ht4⟩
      have HP4 : Hid (Pl w4 B P (.slice (some ⟨g, 0, none⟩) n cap) (takeL l i)) := hp4
      have HT4 : Hid (Turns (fun b => b = P ∨ b = g) w w4) := (HT3.out.mono (fun _ h => .inr h)).trans (ht4.mono (fun _ h => .inl h))
      clear hp4 ht4
      go_wp2
      go_ret
      exact ⟨⟨_, rfl⟩, ⟨_, HP4.out⟩, HT4.out⟩
    · have hpk : pickL (swp l i n) n i ≠ i := of_decide_eq_true HBB.out
      have HTK : Hid ((downL (swp l i n) n i).take n = takeL l i) := by have := HRS.out; rw [if_pos hpk] at this; exact this
      have HPP : Hid (Calls Try.prog 88 #[.pointer (some ⟨P, 0, none⟩)] w2 fun r w' => (∃ u, r = .returned (.iface 25 u)) ∧ Pl w' B P (.slice (some ⟨g, 0, none⟩) n cap) (takeL l i) ∧ Turns (fun b => b = P) w2 w') := by
        have h9 := HPOP.out w2 ((downL (swp l i n) n i).take n) (evAt (downL (swp l i n) n i) n) (by simp [HDL.out]) HBX2.out (by rw [← HLL.out _ HDL.out]; exact HR2.out)
        rw [HTK.out] at h9
        exact h9
      clear hpk
      go_wp2_with fail
      refine HPP.out.mono ?_
      rintro r w4 ⟨⟨u4, rfl⟩, hp4, ht4⟩
      have HP4 : Hid (Pl w4 B P (.slice (some ⟨g, 0, none⟩) n cap) (takeL l i)) := hp4
      have HT4 : Hid (Turns (fun b => b = P ∨ b = g) w w4) := (HT2.out.mono (fun _ h => .inr h)).trans (ht4.mono (fun _ h => .inl h))
      clear hp4 ht4
      go_wp2
      go_ret
      exact ⟨⟨_, rfl⟩, ⟨_, HP4.out⟩, HT4.out⟩
end Go.Proofs.Yteecpandpkicmaa
