/- The specification's Handle. -/
import Derived.Test.YtnmcjgkeionjkaaGreatExactHandleLESh
import Derived.Test.YtnmcjgkeionjkaaGreatExactHandleLEHanI
import Derived.Test.YtnmcjgkeionjkaaGreatExactHandleLMOkS
namespace Go.Proofs.YtnmcjgkeionjkaaGreat
open Go.RowKit
set_option maxRecDepth 100000 in
set_option maxHeartbeats 4000000 in
theorem sEvent (x : Value) (m : Md) (e : Ev) (w : World) (h : IsM w x m) :
    Calls Tryz.prog 105 #[x, .agg #[.int .i64 e.t, .int .i64 e.s, .int .i64 e.q, .int .i64 e.d, .int .i64 e.k, .int .i64 e.v, .int .i64 e.g]] w fun r w' => r = .returned (.bool (e.ok && fitB m e.t e.d e.k)) ∧ Below w.heap.size w w' := by
  obtain ⟨vi, vh, vs, rfl, ⟨ai, ci, rfl, _⟩, ⟨ah, ch, rfl, hh1, hh2, _⟩, ⟨ae, ce, rfl, _⟩⟩ := h
  obtain ⟨W0, hW0⟩ : ∃ W0, (w.alloc (.cells #[.int .i64 m.n, .int .i64 m.s, .slice ai m.i.length ci, .slice ah m.h.length ch, .slice ae m.e.length ce, .int .i64 m.z] 55)).alloc (.cells #[.int .i64 e.t, .int .i64 e.s, .int .i64 e.q, .int .i64 e.d, .int .i64 e.k, .int .i64 e.v, .int .i64 e.g] 40) = W0 := ⟨_, rfl⟩
  have HM0 : Hid (Bk W0 w.heap.size 55 #[.int .i64 m.n, .int .i64 m.s, .slice ai m.i.length ci, .slice ah m.h.length ch, .slice ae m.e.length ce, .int .i64 m.z]) := by rw [← hW0]; exact (Bk.new w _ _).alloc _
  have HV0 : Hid (Bk W0 (w.heap.size + 1) 40 #[.int .i64 e.t, .int .i64 e.s, .int .i64 e.q, .int .i64 e.d, .int .i64 e.k, .int .i64 e.v, .int .i64 e.g]) := by rw [← hW0]; exact Bk.newAt (by simp) _ _
  have HB0 : Hid (Below w.heap.size w W0) := by rw [← hW0]; exact ((Below.refl _ w).alloc (Nat.le_refl _) _).alloc (by simp) _
  have v0 := HV0.out.cell (i := 0) rfl
  have v1 := HV0.out.cell (i := 1) rfl
  have v2 := HV0.out.cell (i := 2) rfl
  have v3 := HV0.out.cell (i := 3) rfl
  have v4 := HV0.out.cell (i := 4) rfl
  have v5 := HV0.out.cell (i := 5) rfl
  have v6 := HV0.out.cell (i := 6) rfl
  go_enter Tryz.func105, Tryz.ntmps105
  go_wp2_with fail
  clear v0 v1 v2 v3 v4 v5 v6 hW0
  refine (sOk_any e.t e.s e.q e.d e.k e.v e.g _).mono ?_
  rintro r w1 ⟨rfl, hb⟩
  have HB1 : Hid (Below w.heap.size w w1) := HB0.out.trans (hb.mono HB0.out.size)
  have v0 := (HV0.out.below hb).cell (i := 0) rfl
  have v3 := (HV0.out.below hb).cell (i := 3) rfl
  have v4 := (HV0.out.below hb).cell (i := 4) rfl
  have p0 := (HM0.out.below hb).cell (i := 0) rfl
  have p3 := (HM0.out.below hb).cell (i := 3) rfl
  have p5 := (HM0.out.below hb).cell (i := 5) rfl
  have heo' : okB e.t e.s e.q e.d e.k e.v e.g = e.ok := rfl
  rw [heo']
  clear hb HM0 HV0 HB0 heo'
  cases heo : e.ok with
  | false =>
    have HEO : Hid ((e.ok && fitB m e.t e.d e.k) = false) := (by rw [heo]; rfl : (e.ok && fitB m e.t e.d e.k) = false)
    clear heo
    go_wp2
    go_ret
    exact ⟨ret_bool HEO.out.symm, HB1.out⟩
  | true =>
    obtain ⟨_, _, hd0, _, hk0, _, _, _⟩ := ev_nums heo
    have HF : Hid ((e.ok && fitB m e.t e.d e.k) = decide (e.d < m.n ∧ e.k < (m.h.length : Int) ∧ e.t ≤ m.z)) := (by rw [heo, Bool.true_and]; unfold fitB; exact decide_eq_decide.2 (by omega) : (e.ok && fitB m e.t e.d e.k) = _)
    clear heo hd0 hk0
    go_wp2
    all_goals
      go_ret
      refine ⟨?_, HB1.out⟩
      refine (?_ : _ = Ending.returned (.bool (decide (e.d < m.n ∧ e.k < (m.h.length : Int) ∧ e.t ≤ m.z)))).trans (ret_bool HF.out.symm)
      first | exact ret_bool (decide_eq_decide.2 (by omega)) | exact ret_bool (by simp; omega) | exact ret_bool (decide_eq_false (by omega)).symm
set_option maxRecDepth 100000 in
set_option maxHeartbeats 16000000 in
theorem sHan (x y d : Value) (m : Md) (l : List Int) (s : St) (e : Ev) (w : World) (hsm : SmallM m) (hl : l.length ≤ 1048576) (hm : IsM w x m) (hd : IsI w d l) (hs : IsS w y s) :
    Calls Tryz.prog 35 #[x, d, y, .agg #[.int .i64 e.t, .int .i64 e.s, .int .i64 e.q, .int .i64 e.d, .int .i64 e.k, .int .i64 e.v, .int .i64 e.g]] w fun r w' => ∃ u, r = .returned (.tuple #[u, .bool (handB m l s e)]) ∧ Below w.heap.size w w' ∧ EfF (fun k => w.heap.size ≤ k ∧ k < w'.heap.size) w' u (handR m l s e) := by
  have HM : Hid (IsM w x m) := hm
  have HS : Hid (IsS w y s) := hs
  have HD : Hid (IsI w d l) := hd
  have HSM : Hid (SmallM m) := hsm
  have HL : Hid (l.length ≤ 4611686018427387904) := (by omega : l.length ≤ 4611686018427387904)
  obtain ⟨vi, vh, vs, rfl, ⟨ai, ci, rfl, _⟩, ⟨ah, ch, rfl, _⟩, ⟨ae, ce, rfl, _⟩⟩ := hm
  obtain ⟨vr, rfl, _⟩ := hs
  clear hsm hl hd
  obtain ⟨W0, hW0⟩ : ∃ W0, (((w.alloc (.cells #[.int .i64 m.n, .int .i64 m.s, .slice ai m.i.length ci, .slice ah m.h.length ch, .slice ae m.e.length ce, .int .i64 m.z] 55)).alloc (.cells #[vr, .int .i64 s.q, .int .i64 s.d] 32)).alloc (.cells #[.int .i64 e.t, .int .i64 e.s, .int .i64 e.q, .int .i64 e.d, .int .i64 e.k, .int .i64 e.v, .int .i64 e.g] 40)).alloc (.cells #[.slice none 0 0, .int .i64 0, .int .i64 0, .slice none 0 0, .slice none 0 0, .int .i64 0] 69) = W0 := ⟨_, rfl⟩
  have HM0 : Hid (Bk W0 w.heap.size 55 #[.int .i64 m.n, .int .i64 m.s, .slice ai m.i.length ci, .slice ah m.h.length ch, .slice ae m.e.length ce, .int .i64 m.z]) := by rw [← hW0]; exact (((Bk.new w _ _).alloc _).alloc _).alloc _
  have HS0 : Hid (Bk W0 (w.heap.size + 1) 32 #[vr, .int .i64 s.q, .int .i64 s.d]) := by rw [← hW0]; exact ((Bk.newAt (by simp) _ _).alloc _).alloc _
  have HV0 : Hid (Bk W0 (w.heap.size + 1 + 1) 40 #[.int .i64 e.t, .int .i64 e.s, .int .i64 e.q, .int .i64 e.d, .int .i64 e.k, .int .i64 e.v, .int .i64 e.g]) := by rw [← hW0]; exact (Bk.newAt (by simp) _ _).alloc _
  have HR0 : Hid (Bk W0 (w.heap.size + 1 + 1 + 1) 69 #[.slice none 0 0, .int .i64 0, .int .i64 0, .slice none 0 0, .slice none 0 0, .int .i64 0]) := by rw [← hW0]; exact Bk.newAt (by simp) _ _
  have HB0 : Hid (Below w.heap.size w W0) := by rw [← hW0]; exact ((((Below.refl _ w).alloc (Nat.le_refl _) _).alloc (by simp) _).alloc (by simp; omega) _).alloc (by simp; omega) _
  have p0 := HM0.out.cell (i := 0) rfl
  have p1 := HM0.out.cell (i := 1) rfl
  have p2 := HM0.out.cell (i := 2) rfl
  have p3 := HM0.out.cell (i := 3) rfl
  have p4 := HM0.out.cell (i := 4) rfl
  have p5 := HM0.out.cell (i := 5) rfl
  go_enter Tryz.func35, Tryz.ntmps35
  go_wp2_with fail
  clear hW0
  clear p0 p1 p2 p3 p4 p5
  refine (sModM _ m _ HSM.out (HM.out.below HB0.out)).mono ?_
  rintro r w2 ⟨rfl, hb⟩
  have HB2 : Hid (Below w.heap.size w w2) := HB0.out.trans (hb.mono HB0.out.size)
  have HM2 : Hid (Bk w2 w.heap.size 55 #[.int .i64 m.n, .int .i64 m.s, .slice ai m.i.length ci, .slice ah m.h.length ch, .slice ae m.e.length ce, .int .i64 m.z]) := HM0.out.below hb
  have HS2 : Hid (Bk w2 (w.heap.size + 1) 32 #[vr, .int .i64 s.q, .int .i64 s.d]) := HS0.out.below hb
  have HV2 : Hid (Bk w2 (w.heap.size + 1 + 1) 40 #[.int .i64 e.t, .int .i64 e.s, .int .i64 e.q, .int .i64 e.d, .int .i64 e.k, .int .i64 e.v, .int .i64 e.g]) := HV0.out.below hb
  have HR2 : Hid (Bk w2 (w.heap.size + 1 + 1 + 1) 69 #[.slice none 0 0, .int .i64 0, .int .i64 0, .slice none 0 0, .slice none 0 0, .int .i64 0]) := HR0.out.below hb
  clear hb HB0 HM0 HS0 HV0 HR0
  cases hmo : m.ok with
  | false =>
    have HNO : Hid (handB m l s e = false) := (by simp [handB, hmo] : handB m l s e = false)
    have r0 := HR2.out.cell (i := 0) rfl
    have r1 := HR2.out.cell (i := 1) rfl
    have r2 := HR2.out.cell (i := 2) rfl
    have r3 := HR2.out.cell (i := 3) rfl
    have r4 := HR2.out.cell (i := 4) rfl
    have r5 := HR2.out.cell (i := 5) rfl
    have rf := HR2.out.free
    go_wp2
    clear r0 r1 r2 r3 r4 r5 rf
    obtain ⟨X5, hX5⟩ : ∃ X5, put6 w2 (w.heap.size + 1 + 1 + 1) (.slice none 0 0) (.int .i64 0) (.int .i64 0) (.slice none 0 0) (.slice none 0 0) (.int .i64 0) = X5 := ⟨_, rfl⟩
    have hR := HR2.out.put6 (.slice none 0 0) (.int .i64 0) (.int .i64 0) (.slice none 0 0) (.slice none 0 0) (.int .i64 0)
    have ht := put6_turns w2 (w.heap.size + 1 + 1 + 1) (.slice none 0 0) (.int .i64 0) (.int .i64 0) (.slice none 0 0) (.slice none 0 0) (.int .i64 0)
    rw [hX5] at hR ht
    unfold put6 at hX5
    rw [hX5]
    have t0 := hR.cell (i := 0) rfl
    have t1 := hR.cell (i := 1) rfl
    have t2 := hR.cell (i := 2) rfl
    have t3 := hR.cell (i := 3) rfl
    have t4 := hR.cell (i := 4) rfl
    have t5 := hR.cell (i := 5) rfl
    have hno : handB m l s e = false := HNO.out
    refine bodyPost_ret (v := .tuple #[.agg #[.slice none 0 0, .int .i64 0, .int .i64 0, .slice none 0 0, .slice none 0 0, .int .i64 0], .bool false]) (by simp [results, Tryz.results35, go_sem, t0, t1, t2, t3, t4, t5]) rfl ⟨_, by rw [hno], HB2.out.trans (ht.to_below (fun k e => by omega) HB2.out.size), ?_⟩
    rw [show handR m l s e = zeroE from by simp [handR, hno]]
    exact zero_ef _ _
  | true =>
    go_wp2_with fail
    refine (sVok_any _ l _ HL.out (HD.out.below HB2.out)).mono ?_
    rintro r w' ⟨rfl, hw⟩
    have hw' := hw.symm
    clear hw
    subst hw'
    cases hv : vok l with
    | false =>
      have HNO : Hid (handB m l s e = false) := (by simp [handB, hv] : handB m l s e = false)
      have r0 := HR2.out.cell (i := 0) rfl
      have r1 := HR2.out.cell (i := 1) rfl
      have r2 := HR2.out.cell (i := 2) rfl
      have r3 := HR2.out.cell (i := 3) rfl
      have r4 := HR2.out.cell (i := 4) rfl
      have r5 := HR2.out.cell (i := 5) rfl
      have rf := HR2.out.free
      go_wp2
      clear r0 r1 r2 r3 r4 r5 rf
      obtain ⟨X5, hX5⟩ : ∃ X5, put6 w2 (w.heap.size + 1 + 1 + 1) (.slice none 0 0) (.int .i64 0) (.int .i64 0) (.slice none 0 0) (.slice none 0 0) (.int .i64 0) = X5 := ⟨_, rfl⟩
      have hR := HR2.out.put6 (.slice none 0 0) (.int .i64 0) (.int .i64 0) (.slice none 0 0) (.slice none 0 0) (.int .i64 0)
      have ht := put6_turns w2 (w.heap.size + 1 + 1 + 1) (.slice none 0 0) (.int .i64 0) (.int .i64 0) (.slice none 0 0) (.slice none 0 0) (.int .i64 0)
      rw [hX5] at hR ht
      unfold put6 at hX5
      rw [hX5]
      have t0 := hR.cell (i := 0) rfl
      have t1 := hR.cell (i := 1) rfl
      have t2 := hR.cell (i := 2) rfl
      have t3 := hR.cell (i := 3) rfl
      have t4 := hR.cell (i := 4) rfl
      have t5 := hR.cell (i := 5) rfl
      have hno : handB m l s e = false := HNO.out
      refine bodyPost_ret (v := .tuple #[.agg #[.slice none 0 0, .int .i64 0, .int .i64 0, .slice none 0 0, .slice none 0 0, .int .i64 0], .bool false]) (by simp [results, Tryz.results35, go_sem, t0, t1, t2, t3, t4, t5]) rfl ⟨_, by rw [hno], HB2.out.trans (ht.to_below (fun k e => by omega) HB2.out.size), ?_⟩
      rw [show handR m l s e = zeroE from by simp [handR, hno]]
      exact zero_ef _ _
    | true =>
      have k0 := HS2.out.cell (i := 0) rfl
      have k1 := HS2.out.cell (i := 1) rfl
      have k2 := HS2.out.cell (i := 2) rfl
      go_wp2_with fail
      clear k0 k1 k2
      refine (sStOk _ s _ (HS.out.below HB2.out)).mono ?_
      rintro r w3 ⟨rfl, hb⟩
      have HB3 : Hid (Below w.heap.size w w3) := HB2.out.trans (hb.mono HB2.out.size)
      have HM3 : Hid (Bk w3 w.heap.size 55 #[.int .i64 m.n, .int .i64 m.s, .slice ai m.i.length ci, .slice ah m.h.length ch, .slice ae m.e.length ce, .int .i64 m.z]) := HM2.out.below hb
      have HS3 : Hid (Bk w3 (w.heap.size + 1) 32 #[vr, .int .i64 s.q, .int .i64 s.d]) := HS2.out.below hb
      have HV3 : Hid (Bk w3 (w.heap.size + 1 + 1) 40 #[.int .i64 e.t, .int .i64 e.s, .int .i64 e.q, .int .i64 e.d, .int .i64 e.k, .int .i64 e.v, .int .i64 e.g]) := HV2.out.below hb
      have HR3 : Hid (Bk w3 (w.heap.size + 1 + 1 + 1) 69 #[.slice none 0 0, .int .i64 0, .int .i64 0, .slice none 0 0, .slice none 0 0, .int .i64 0]) := HR2.out.below hb
      clear hb HB2 HM2 HS2 HV2 HR2
      cases hso : s.ok with
      | false =>
        have HNO : Hid (handB m l s e = false) := (by simp [handB, hso] : handB m l s e = false)
        have r0 := HR3.out.cell (i := 0) rfl
        have r1 := HR3.out.cell (i := 1) rfl
        have r2 := HR3.out.cell (i := 2) rfl
        have r3 := HR3.out.cell (i := 3) rfl
        have r4 := HR3.out.cell (i := 4) rfl
        have r5 := HR3.out.cell (i := 5) rfl
        have rf := HR3.out.free
        go_wp2
        clear r0 r1 r2 r3 r4 r5 rf
        obtain ⟨X5, hX5⟩ : ∃ X5, put6 w3 (w.heap.size + 1 + 1 + 1) (.slice none 0 0) (.int .i64 0) (.int .i64 0) (.slice none 0 0) (.slice none 0 0) (.int .i64 0) = X5 := ⟨_, rfl⟩
        have hR := HR3.out.put6 (.slice none 0 0) (.int .i64 0) (.int .i64 0) (.slice none 0 0) (.slice none 0 0) (.int .i64 0)
        have ht := put6_turns w3 (w.heap.size + 1 + 1 + 1) (.slice none 0 0) (.int .i64 0) (.int .i64 0) (.slice none 0 0) (.slice none 0 0) (.int .i64 0)
        rw [hX5] at hR ht
        unfold put6 at hX5
        rw [hX5]
        have t0 := hR.cell (i := 0) rfl
        have t1 := hR.cell (i := 1) rfl
        have t2 := hR.cell (i := 2) rfl
        have t3 := hR.cell (i := 3) rfl
        have t4 := hR.cell (i := 4) rfl
        have t5 := hR.cell (i := 5) rfl
        have hno : handB m l s e = false := HNO.out
        refine bodyPost_ret (v := .tuple #[.agg #[.slice none 0 0, .int .i64 0, .int .i64 0, .slice none 0 0, .slice none 0 0, .int .i64 0], .bool false]) (by simp [results, Tryz.results35, go_sem, t0, t1, t2, t3, t4, t5]) rfl ⟨_, by rw [hno], HB3.out.trans (ht.to_below (fun k e => by omega) HB3.out.size), ?_⟩
        rw [show handR m l s e = zeroE from by simp [handR, hno]]
        exact zero_ef _ _
      | true =>
        have p0 := HM3.out.cell (i := 0) rfl
        have p1 := HM3.out.cell (i := 1) rfl
        have p2 := HM3.out.cell (i := 2) rfl
        have p3 := HM3.out.cell (i := 3) rfl
        have p4 := HM3.out.cell (i := 4) rfl
        have p5 := HM3.out.cell (i := 5) rfl
        have v0 := HV3.out.cell (i := 0) rfl
        have v1 := HV3.out.cell (i := 1) rfl
        have v2 := HV3.out.cell (i := 2) rfl
        have v3 := HV3.out.cell (i := 3) rfl
        have v4 := HV3.out.cell (i := 4) rfl
        have v5 := HV3.out.cell (i := 5) rfl
        have v6 := HV3.out.cell (i := 6) rfl
        go_wp2_with fail
        clear p0 p1 p2 p3 p4 p5
        clear v0 v1 v2 v3 v4 v5 v6
        refine (sEvent _ m e _ (HM.out.below HB3.out)).mono ?_
        rintro r w4 ⟨rfl, hb⟩
        have HB4 : Hid (Below w.heap.size w w4) := HB3.out.trans (hb.mono HB3.out.size)
        have HM4 : Hid (Bk w4 w.heap.size 55 #[.int .i64 m.n, .int .i64 m.s, .slice ai m.i.length ci, .slice ah m.h.length ch, .slice ae m.e.length ce, .int .i64 m.z]) := HM3.out.below hb
        have HS4 : Hid (Bk w4 (w.heap.size + 1) 32 #[vr, .int .i64 s.q, .int .i64 s.d]) := HS3.out.below hb
        have HV4 : Hid (Bk w4 (w.heap.size + 1 + 1) 40 #[.int .i64 e.t, .int .i64 e.s, .int .i64 e.q, .int .i64 e.d, .int .i64 e.k, .int .i64 e.v, .int .i64 e.g]) := HV3.out.below hb
        have HR4 : Hid (Bk w4 (w.heap.size + 1 + 1 + 1) 69 #[.slice none 0 0, .int .i64 0, .int .i64 0, .slice none 0 0, .slice none 0 0, .int .i64 0]) := HR3.out.below hb
        clear hb HB3 HM3 HS3 HV3 HR3
        cases hfo : (e.ok && fitB m e.t e.d e.k) with
        | false =>
          have HNO : Hid (handB m l s e = false) := (by simp only [handB, hfo]; simp : handB m l s e = false)
          have r0 := HR4.out.cell (i := 0) rfl
          have r1 := HR4.out.cell (i := 1) rfl
          have r2 := HR4.out.cell (i := 2) rfl
          have r3 := HR4.out.cell (i := 3) rfl
          have r4 := HR4.out.cell (i := 4) rfl
          have r5 := HR4.out.cell (i := 5) rfl
          have rf := HR4.out.free
          go_wp2
          clear r0 r1 r2 r3 r4 r5 rf
          obtain ⟨X5, hX5⟩ : ∃ X5, put6 w4 (w.heap.size + 1 + 1 + 1) (.slice none 0 0) (.int .i64 0) (.int .i64 0) (.slice none 0 0) (.slice none 0 0) (.int .i64 0) = X5 := ⟨_, rfl⟩
          have hR := HR4.out.put6 (.slice none 0 0) (.int .i64 0) (.int .i64 0) (.slice none 0 0) (.slice none 0 0) (.int .i64 0)
          have ht := put6_turns w4 (w.heap.size + 1 + 1 + 1) (.slice none 0 0) (.int .i64 0) (.int .i64 0) (.slice none 0 0) (.slice none 0 0) (.int .i64 0)
          rw [hX5] at hR ht
          unfold put6 at hX5
          rw [hX5]
          have t0 := hR.cell (i := 0) rfl
          have t1 := hR.cell (i := 1) rfl
          have t2 := hR.cell (i := 2) rfl
          have t3 := hR.cell (i := 3) rfl
          have t4 := hR.cell (i := 4) rfl
          have t5 := hR.cell (i := 5) rfl
          have hno : handB m l s e = false := HNO.out
          refine bodyPost_ret (v := .tuple #[.agg #[.slice none 0 0, .int .i64 0, .int .i64 0, .slice none 0 0, .slice none 0 0, .int .i64 0], .bool false]) (by simp [results, Tryz.results35, go_sem, t0, t1, t2, t3, t4, t5]) rfl ⟨_, by rw [hno], HB4.out.trans (ht.to_below (fun k e => by omega) HB4.out.size), ?_⟩
          rw [show handR m l s e = zeroE from by simp [handR, hno]]
          exact zero_ef _ _
        | true =>
          obtain ⟨c0, c1, c2, c3, rfl, hvc⟩ := vec_of hv
          have hef : e.ok = true ∧ fitB m e.t e.d e.k = true := by simpa using hfo
          have HYES : Hid (handB m [c0, c1, c2, c3] s e = true) := (by simp only [handB, hmo, hv, hso, hef.1, hef.2]; rfl : handB m [c0, c1, c2, c3] s e = true)
          have HANS : Hid (handR m [c0, c1, c2, c3] s e = effR m [c0, c1, c2, c3] s e) := if_pos HYES.out
          have HFIT : Hid (Fit m c0 c1 c2 c3 s e) := fit_of hmo hso hef.1 hef.2 hvc
          have p0 := HM4.out.cell (i := 0) rfl
          have p1 := HM4.out.cell (i := 1) rfl
          have p2 := HM4.out.cell (i := 2) rfl
          have p3 := HM4.out.cell (i := 3) rfl
          have p4 := HM4.out.cell (i := 4) rfl
          have p5 := HM4.out.cell (i := 5) rfl
          have k0 := HS4.out.cell (i := 0) rfl
          have k1 := HS4.out.cell (i := 1) rfl
          have k2 := HS4.out.cell (i := 2) rfl
          have v0 := HV4.out.cell (i := 0) rfl
          have v1 := HV4.out.cell (i := 1) rfl
          have v2 := HV4.out.cell (i := 2) rfl
          have v3 := HV4.out.cell (i := 3) rfl
          have v4 := HV4.out.cell (i := 4) rfl
          have v5 := HV4.out.cell (i := 5) rfl
          have v6 := HV4.out.cell (i := 6) rfl
          clear hmo hso hef hfo hv
          go_wp2_with fail
          clear p0 p1 p2 p3 p4 p5
          clear k0 k1 k2
          clear v0 v1 v2 v3 v4 v5 v6
          refine (sEff _ _ _ m c0 c1 c2 c3 s e _ (HM.out.below HB4.out) (HD.out.below HB4.out) (HS.out.below HB4.out) HFIT.out).mono ?_
          rintro r w9 ⟨u, rfl, hb, hu⟩
          have HR9 : Hid (Bk w9 (w.heap.size + 1 + 1 + 1) 69 #[.slice none 0 0, .int .i64 0, .int .i64 0, .slice none 0 0, .slice none 0 0, .int .i64 0]) := HR4.out.below hb
          have HB9 : Hid (Below w.heap.size w w9) := HB4.out.trans (hb.mono HB4.out.size)
          have hz9 : w.heap.size ≤ w4.heap.size := HB4.out.size
          have hzl := HR4.out.lt
          have HU9 : Hid (EfF (fun k => w4.heap.size ≤ k ∧ k < w9.heap.size) w9 u (effR m [c0, c1, c2, c3] s e)) := hu
          obtain ⟨fa, fc, ga, gc, ha, hc, rfl⟩ := hu.form
          clear hb hu
          have r0 := HR9.out.cell (i := 0) rfl
          have r1 := HR9.out.cell (i := 1) rfl
          have r2 := HR9.out.cell (i := 2) rfl
          have r3 := HR9.out.cell (i := 3) rfl
          have r4 := HR9.out.cell (i := 4) rfl
          have r5 := HR9.out.cell (i := 5) rfl
          have rf := HR9.out.free
          generalize effR m [c0, c1, c2, c3] s e = EF at HU9 HANS ⊢
          go_wp2
          clear r0 r1 r2 r3 r4 r5 rf
          obtain ⟨X5, hX5⟩ : ∃ X5, put6 w9 (w.heap.size + 1 + 1 + 1) (.slice fa EF.st.r.length fc) (.int .i64 EF.st.q) (.int .i64 EF.st.d) (.slice ga EF.s.length gc) (.slice ha EF.x.length hc) (.int .i64 EF.k) = X5 := ⟨_, rfl⟩
          have hR := HR9.out.put6 (.slice fa EF.st.r.length fc) (.int .i64 EF.st.q) (.int .i64 EF.st.d) (.slice ga EF.s.length gc) (.slice ha EF.x.length hc) (.int .i64 EF.k)
          have ht := put6_turns w9 (w.heap.size + 1 + 1 + 1) (.slice fa EF.st.r.length fc) (.int .i64 EF.st.q) (.int .i64 EF.st.d) (.slice ga EF.s.length gc) (.slice ha EF.x.length hc) (.int .i64 EF.k)
          rw [hX5] at hR ht
          unfold put6 at hX5
          rw [hX5]
          have t0 := hR.cell (i := 0) rfl
          have t1 := hR.cell (i := 1) rfl
          have t2 := hR.cell (i := 2) rfl
          have t3 := hR.cell (i := 3) rfl
          have t4 := hR.cell (i := 4) rfl
          have t5 := hR.cell (i := 5) rfl
          have hs5 := ht.size
          have hs9 := HB9.out.size
          refine bodyPost_ret (v := .tuple #[.agg #[.slice fa EF.st.r.length fc, .int .i64 EF.st.q, .int .i64 EF.st.d, .slice ga EF.s.length gc, .slice ha EF.x.length hc, .int .i64 EF.k], .bool true]) (by simp [results, Tryz.results35, go_sem, t0, t1, t2, t3, t4, t5]) rfl ⟨_, by rw [HYES.out], HB9.out.trans (ht.to_below (fun k e => by omega) HB9.out.size), ?_⟩
          rw [HANS.out]
          exact (HU9.out.turns ht (fun k e => by omega)).mono (fun k e => by omega)
end Go.Proofs.YtnmcjgkeionjkaaGreat
