/- EHanS, CSqW, XHi, XSz, XEf, XSm -/
import Derived.Test.YtmpoffepoafblaaGreatExactSequenceLESh
import Derived.Test.YtmpoffepoafblaaGreatExactSequenceLEHanI
import Derived.Test.YtmpoffepoafblaaGreatExactSequenceLMOkS
import Derived.Test.YtmpoffepoafblaaGreatExactSequenceLCSqG
import Derived.Test.YtmpoffepoafblaaGreatExactSequenceLCSqS
import Derived.Test.YtmpoffepoafblaaGreatExactSequenceG45
import Derived.Test.YtmpoffepoafblaaGreatExactSequenceG39
import Derived.Test.YtmpoffepoafblaaGreatExactSequenceG06
import Derived.Test.YtmpoffepoafblaaGreatExactSequenceG23
/- The specification's Handle. -/
namespace Go.Proofs.YtmpoffepoafblaaGreat
open Go.RowKit
set_option maxRecDepth 100000 in
set_option maxHeartbeats 4000000 in
theorem sEvent (x : Value) (m : Md) (e : Ev) (w : World) (h : IsM w x m) :
    Calls Tryz.prog 172 #[x, .agg #[.int .i64 e.t, .int .i64 e.s, .int .i64 e.q, .int .i64 e.d, .int .i64 e.k, .int .i64 e.v, .int .i64 e.g]] w fun r w' => r = .returned (.bool (e.ok && fitB m e.t e.d e.k)) ∧ Below w.heap.size w w' := by
  obtain ⟨vi, vh, vs, rfl, ⟨ai, ci, rfl, _⟩, ⟨ah, ch, rfl, hh1, hh2, _⟩, ⟨ae, ce, rfl, _⟩⟩ := h
  obtain ⟨W0, hW0⟩ : ∃ W0, (w.alloc (.cells #[.int .i64 m.n, .int .i64 m.s, .slice ai m.i.length ci, .slice ah m.h.length ch, .slice ae m.e.length ce, .int .i64 m.z] 36)).alloc (.cells #[.int .i64 e.t, .int .i64 e.s, .int .i64 e.q, .int .i64 e.d, .int .i64 e.k, .int .i64 e.v, .int .i64 e.g] 50) = W0 := ⟨_, rfl⟩
  have HM0 : Hid (Bk W0 w.heap.size 36 #[.int .i64 m.n, .int .i64 m.s, .slice ai m.i.length ci, .slice ah m.h.length ch, .slice ae m.e.length ce, .int .i64 m.z]) := by rw [← hW0]; exact (Bk.new w _ _).alloc _
  have HV0 : Hid (Bk W0 (w.heap.size + 1) 50 #[.int .i64 e.t, .int .i64 e.s, .int .i64 e.q, .int .i64 e.d, .int .i64 e.k, .int .i64 e.v, .int .i64 e.g]) := by rw [← hW0]; exact Bk.newAt (by simp) _ _
  have HB0 : Hid (Below w.heap.size w W0) := by rw [← hW0]; exact ((Below.refl _ w).alloc (Nat.le_refl _) _).alloc (by simp) _
  have v0 := HV0.out.cell (i := 0) rfl
  have v1 := HV0.out.cell (i := 1) rfl
  have v2 := HV0.out.cell (i := 2) rfl
  have v3 := HV0.out.cell (i := 3) rfl
  have v4 := HV0.out.cell (i := 4) rfl
  have v5 := HV0.out.cell (i := 5) rfl
  have v6 := HV0.out.cell (i := 6) rfl
  go_enter Tryz.func172, Tryz.ntmps172
  go_wp2_with fail
  clear v0 v1 v2 v3 v4 v5 v6 hW0
  refine (sOk_any e.t e.s e.q e.d e.k e.v e.g _).mono ?_
  rintro r w1 ⟨rfl, hb⟩
  have HB1 : Hid (Below w.heap.size w w1) := HB0.out.trans (hb.mono HB0.out.size)
  have v0 := (HV0.out.below hb).cell (i := 0) rfl
  have v3 := (HV0.out.below hb).cell (i := 3) rfl
  have v4 := (HV0.out.below hb).cell (i := 4) rfl
  have p0 := (HM0.out.below hb).cell (i := 0) rfl
  have p3 := (HM0.out.below hb).cell (i := 3) rfl
  have p5 := (HM0.out.below hb).cell (i := 5) rfl
  have heo' : okB e.t e.s e.q e.d e.k e.v e.g = e.ok := rfl
  rw [heo']
  clear hb HM0 HV0 HB0 heo'
  cases heo : e.ok with
  | false =>
    have HEO : Hid ((e.ok && fitB m e.t e.d e.k) = false) := (by rw [heo]; rfl : (e.ok && fitB m e.t e.d e.k) = false)
    clear heo
    go_wp2
    go_ret
    exact ⟨ret_bool HEO.out.symm, HB1.out⟩
  | true =>
    obtain ⟨_, _, hd0, _, hk0, _, _, _⟩ := ev_nums heo
    have HF : Hid ((e.ok && fitB m e.t e.d e.k) = decide (e.d < m.n ∧ e.k < (m.h.length : Int) ∧ e.t ≤ m.z)) := (by rw [heo, Bool.true_and]; unfold fitB; exact decide_eq_decide.2 (by omega) : (e.ok && fitB m e.t e.d e.k) = _)
    clear heo hd0 hk0
    go_wp2
    all_goals
      go_ret
      refine ⟨?_, HB1.out⟩
      refine (?_ : _ = Ending.returned (.bool (decide (e.d < m.n ∧ e.k < (m.h.length : Int) ∧ e.t ≤ m.z)))).trans (ret_bool HF.out.symm)
      first | exact ret_bool (decide_eq_decide.2 (by omega)) | exact ret_bool (by simp; omega) | exact ret_bool (decide_eq_false (by omega)).symm
end Go.Proofs.YtmpoffepoafblaaGreat

/- Both Sequence. -/
namespace Go.Proofs.YtmpoffepoafblaaGreat
open Go.RowKit
def seqB (m : Md) (l : List Int) (z : Int) : Bool := m.ok && (vok l && (decide (0 ≤ z) && decide (z ≤ m.z)))
def zeroH : Hi := ⟨[], [], 0, false⟩
def seqA (m : Md) (l : List Int) (z : Int) : Hi := if seqB m l z = true then seqR m l z else zeroH
theorem zero_hi (B : Nat) (w : World) : HiF (fun k => B ≤ k ∧ k < w.heap.size) w (.agg #[.slice none 0 0, .slice none 0 0, .int .i64 0, .bool false]) zeroH := hi_of (ev := []) (em := []) (OwnR.nil _ _) (World.ownsRow_nil _ _ _ 3)
theorem vec_some (l : List Int) : ∃ a b c d, vecOf l = vec a b c d := by
  cases hv : vok l with
  | false => exact ⟨0, 0, 0, 0, vec_no hv⟩
  | true =>
    obtain ⟨c0, c1, c2, c3, rfl, _⟩ := vec_of hv
    exact ⟨c0, c1, c2, c3, by simp [vecOf, hv, intAt]⟩
set_option maxRecDepth 100000 in
set_option maxHeartbeats 16000000 in
theorem iSeq (x d : Value) (m : Md) (l : List Int) (z : Int) (w : World) (hsm : SmallM m) (hl : l.length ≤ 1048576) (hm : IsM w x m) (hd : IsI w d l) : Calls Tryz.prog 15 #[x, d, .int .i64 z] w fun r w' => ∃ u, r = .returned (.tuple #[u, .bool (seqB m l z)]) ∧ Below w.heap.size w w' ∧ HiF (fun k => w.heap.size ≤ k ∧ k < w'.heap.size) w' u (seqA m l z) := by
  by_cases hno : seqB m l z = true
  · have hq := hno
    simp only [seqB, Bool.and_eq_true, decide_eq_true_eq] at hq
    obtain ⟨c0, c1, c2, c3, rfl, hvc⟩ := vec_of hq.2.1
    refine (iSeqG x d m c0 c1 c2 c3 z w hsm hm hd hq.1 hq.2.1 hvc hq.2.2.1 hq.2.2.2).mono ?_
    rintro r w' ⟨u, rfl, h1, h2⟩
    exact ⟨u, by rw [hno], h1, by rw [show seqA m [c0, c1, c2, c3] z = seqR m [c0, c1, c2, c3] z from by simp [seqA, hno]]; exact h2⟩
  have HM : Hid (IsM w x m) := hm
  have HD : Hid (IsI w d l) := hd
  have HSM : Hid (SmallM m) := hsm
  have HL : Hid (l.length ≤ 1048576) := hl
  have HNO : Hid (seqB m l z = false) := (by simpa using hno : seqB m l z = false)
  obtain ⟨vi, vh, vs, rfl, ⟨ai, ci, rfl, _⟩, ⟨ah, ch, rfl, _⟩, ⟨ae, ce, rfl, _⟩⟩ := hm
  clear hsm hd hl hno
  obtain ⟨W0, hW0⟩ : ∃ W0, (w.alloc (.cells #[.int .i64 m.n, .int .i64 m.s, .slice ai m.i.length ci, .slice ah m.h.length ch, .slice ae m.e.length ce, .int .i64 m.z] 36)).alloc (.cells #[.slice none 0 0, .slice none 0 0, .int .i64 0, .bool false] 31) = W0 := ⟨_, rfl⟩
  have HM0 : Hid (Bk W0 w.heap.size 36 #[.int .i64 m.n, .int .i64 m.s, .slice ai m.i.length ci, .slice ah m.h.length ch, .slice ae m.e.length ce, .int .i64 m.z]) := by rw [← hW0]; exact (Bk.new w _ _).alloc _
  have HR0 : Hid (Bk W0 (w.heap.size + 1) 31 #[.slice none 0 0, .slice none 0 0, .int .i64 0, .bool false]) := by rw [← hW0]; exact Bk.newAt (by simp) _ _
  have HB0 : Hid (Below w.heap.size w W0) := by rw [← hW0]; exact ((Below.refl _ w).alloc (Nat.le_refl _) _).alloc (by simp) _
  go_enter Tryz.func15, Tryz.ntmps15
  go_wp2_with fail
  clear hW0
  refine (of_any _ l _ (by have := HL.out; omega) (HD.out.below HB0.out)).mono ?_
  rintro r w1 ⟨rfl, hb⟩
  have HB1 : Hid (Below w.heap.size w w1) := HB0.out.trans (hb.mono HB0.out.size)
  have HM1 : Hid (Bk w1 w.heap.size 36 #[.int .i64 m.n, .int .i64 m.s, .slice ai m.i.length ci, .slice ah m.h.length ch, .slice ae m.e.length ce, .int .i64 m.z]) := HM0.out.below hb
  have HR1 : Hid (Bk w1 (w.heap.size + 1) 31 #[.slice none 0 0, .slice none 0 0, .int .i64 0, .bool false]) := HR0.out.below hb
  clear hb HB0 HM0 HR0
  obtain ⟨a0, a1, a2, a3, hvec⟩ := vec_some l
  rw [hvec]
  clear hvec
  obtain ⟨w2, hw2⟩ : ∃ W, w1.alloc (.cells #[i64 a0, i64 a1, i64 a2, i64 a3] 107) = W := ⟨_, rfl⟩
  have hb : Below w1.heap.size w1 w2 := by rw [← hw2]; exact (Below.refl _ _).alloc (Nat.le_refl _) _
  have HB2 : Hid (Below w.heap.size w w2) := HB1.out.trans (hb.mono HB1.out.size)
  have HM2 : Hid (Bk w2 w.heap.size 36 #[.int .i64 m.n, .int .i64 m.s, .slice ai m.i.length ci, .slice ah m.h.length ch, .slice ae m.e.length ce, .int .i64 m.z]) := HM1.out.below hb
  have HR2 : Hid (Bk w2 (w.heap.size + 1) 31 #[.slice none 0 0, .slice none 0 0, .int .i64 0, .bool false]) := HR1.out.below hb
  have HC2 : Hid (Bk w2 w1.heap.size 107 #[i64 a0, i64 a1, i64 a2, i64 a3]) := by rw [← hw2]; exact Bk.new _ _ _
  have HW2 : Hid (w1.alloc (.cells #[i64 a0, i64 a1, i64 a2, i64 a3] 107) = w2) := hw2
  clear hb HB1 HR1 hw2
  have HX1 : Hid (Bk (w1.alloc (.cells #[i64 a0, i64 a1, i64 a2, i64 a3] 107)) w.heap.size 36 #[.int .i64 m.n, .int .i64 m.s, .slice ai m.i.length ci, .slice ah m.h.length ch, .slice ae m.e.length ce, .int .i64 m.z]) := HM1.out.alloc _
  have p0 := HX1.out.cell (i := 0) rfl
  have p1 := HX1.out.cell (i := 1) rfl
  have p2 := HX1.out.cell (i := 2) rfl
  have p3 := HX1.out.cell (i := 3) rfl
  have p4 := HX1.out.cell (i := 4) rfl
  have p5 := HX1.out.cell (i := 5) rfl
  go_wp2_with fail
  clear p0 p1 p2 p3 p4 p5
  try rw [HW2.out]
  clear HW2 HX1 HM1
  refine (iModM _ m _ HSM.out (HM.out.below HB2.out)).mono ?_
  rintro r w3 ⟨rfl, hb⟩
  have HB3 : Hid (Below w.heap.size w w3) := HB2.out.trans (hb.mono HB2.out.size)
  have HM3 : Hid (Bk w3 w.heap.size 36 #[.int .i64 m.n, .int .i64 m.s, .slice ai m.i.length ci, .slice ah m.h.length ch, .slice ae m.e.length ce, .int .i64 m.z]) := HM2.out.below hb
  have HR3 : Hid (Bk w3 (w.heap.size + 1) 31 #[.slice none 0 0, .slice none 0 0, .int .i64 0, .bool false]) := HR2.out.below hb
  clear hb HB2 HM2 HR2 HC2
  cases hmo : m.ok with
  | false =>
    have k0 := HR3.out.cell (i := 0) rfl
    have k1 := HR3.out.cell (i := 1) rfl
    have k2 := HR3.out.cell (i := 2) rfl
    have k3 := HR3.out.cell (i := 3) rfl
    have rf := HR3.out.free
    go_wp2
    have hW := HR3.out.put4h (.slice none 0 0) (.slice none 0 0) (.int .i64 0) (.bool false)
    have hT := put4h_turns w3 (w.heap.size + 1) (.slice none 0 0) (.slice none 0 0) (.int .i64 0) (.bool false)
    have t0 := hW.cell (i := 0) rfl
    have t1 := hW.cell (i := 1) rfl
    have t2 := hW.cell (i := 2) rfl
    have t3 := hW.cell (i := 3) rfl
    have hno : seqB m l z = false := HNO.out
    refine bodyPost_ret (v := .tuple #[.agg #[.slice none 0 0, .slice none 0 0, .int .i64 0, .bool false], .bool false]) (by simp [results, Tryz.results15, go_sem, t0, t1, t2, t3]) rfl ⟨_, by rw [hno], HB3.out.trans (hT.to_below (fun k e => by omega) HB3.out.size), ?_⟩
    rw [show seqA m l z = zeroH from by simp [seqA, hno]]
    exact zero_hi _ _
  | true =>
    cases hvo : vok l with
    | false =>
      have k0 := HR3.out.cell (i := 0) rfl
      have k1 := HR3.out.cell (i := 1) rfl
      have k2 := HR3.out.cell (i := 2) rfl
      have k3 := HR3.out.cell (i := 3) rfl
      have rf := HR3.out.free
      go_wp2
      have hW := HR3.out.put4h (.slice none 0 0) (.slice none 0 0) (.int .i64 0) (.bool false)
      have hT := put4h_turns w3 (w.heap.size + 1) (.slice none 0 0) (.slice none 0 0) (.int .i64 0) (.bool false)
      have t0 := hW.cell (i := 0) rfl
      have t1 := hW.cell (i := 1) rfl
      have t2 := hW.cell (i := 2) rfl
      have t3 := hW.cell (i := 3) rfl
      have hno : seqB m l z = false := HNO.out
      refine bodyPost_ret (v := .tuple #[.agg #[.slice none 0 0, .slice none 0 0, .int .i64 0, .bool false], .bool false]) (by simp [results, Tryz.results15, go_sem, t0, t1, t2, t3]) rfl ⟨_, by rw [hno], HB3.out.trans (hT.to_below (fun k e => by omega) HB3.out.size), ?_⟩
      rw [show seqA m l z = zeroH from by simp [seqA, hno]]
      exact zero_hi _ _
    | true =>
      have p5 := HM3.out.cell (i := 5) rfl
      go_wp2_with fail
      refine (within_any z 0 m.z _).mono ?_
      rintro r w' ⟨rfl, hw⟩
      have hw' := hw.symm
      clear hw
      subst hw'
      have hbz : (decide (0 ≤ z) && decide (z ≤ m.z)) = false := by
        have h9 := HNO.out
        simpa only [seqB, hmo, hvo, Bool.true_and] using h9
      rw [hbz]
      have k0 := HR3.out.cell (i := 0) rfl
      have k1 := HR3.out.cell (i := 1) rfl
      have k2 := HR3.out.cell (i := 2) rfl
      have k3 := HR3.out.cell (i := 3) rfl
      have rf := HR3.out.free
      go_wp2
      have hW := HR3.out.put4h (.slice none 0 0) (.slice none 0 0) (.int .i64 0) (.bool false)
      have hT := put4h_turns w3 (w.heap.size + 1) (.slice none 0 0) (.slice none 0 0) (.int .i64 0) (.bool false)
      have t0 := hW.cell (i := 0) rfl
      have t1 := hW.cell (i := 1) rfl
      have t2 := hW.cell (i := 2) rfl
      have t3 := hW.cell (i := 3) rfl
      have hno : seqB m l z = false := HNO.out
      refine bodyPost_ret (v := .tuple #[.agg #[.slice none 0 0, .slice none 0 0, .int .i64 0, .bool false], .bool false]) (by simp [results, Tryz.results15, go_sem, t0, t1, t2, t3]) rfl ⟨_, by rw [hno], HB3.out.trans (hT.to_below (fun k e => by omega) HB3.out.size), ?_⟩
      rw [show seqA m l z = zeroH from by simp [seqA, hno]]
      exact zero_hi _ _
set_option maxRecDepth 100000 in
set_option maxHeartbeats 16000000 in
theorem sSeqn (x d : Value) (m : Md) (l : List Int) (z : Int) (w : World) (hsm : SmallM m) (hl : l.length ≤ 1048576) (hm : IsM w x m) (hd : IsI w d l) : Calls Tryz.prog 12 #[x, d, .int .i64 z] w fun r w' => ∃ u, r = .returned (.tuple #[u, .bool (seqB m l z)]) ∧ Below w.heap.size w w' ∧ HiF (fun k => w.heap.size ≤ k ∧ k < w'.heap.size) w' u (seqA m l z) := by
  have HM : Hid (IsM w x m) := hm
  have HD : Hid (IsI w d l) := hd
  have HSM : Hid (SmallM m) := hsm
  have HL : Hid (l.length ≤ 1048576) := hl
  obtain ⟨vi, vh, vs, rfl, ⟨ai, ci, rfl, _⟩, ⟨ah, ch, rfl, _⟩, ⟨ae, ce, rfl, _⟩⟩ := hm
  clear hsm hd hl
  obtain ⟨W0, hW0⟩ : ∃ W0, (w.alloc (.cells #[.int .i64 m.n, .int .i64 m.s, .slice ai m.i.length ci, .slice ah m.h.length ch, .slice ae m.e.length ce, .int .i64 m.z] 36)).alloc (.cells #[.slice none 0 0, .slice none 0 0, .int .i64 0, .bool false] 31) = W0 := ⟨_, rfl⟩
  have HM0 : Hid (Bk W0 w.heap.size 36 #[.int .i64 m.n, .int .i64 m.s, .slice ai m.i.length ci, .slice ah m.h.length ch, .slice ae m.e.length ce, .int .i64 m.z]) := by rw [← hW0]; exact (Bk.new w _ _).alloc _
  have HR0 : Hid (Bk W0 (w.heap.size + 1) 31 #[.slice none 0 0, .slice none 0 0, .int .i64 0, .bool false]) := by rw [← hW0]; exact Bk.newAt (by simp) _ _
  have HB0 : Hid (Below w.heap.size w W0) := by rw [← hW0]; exact ((Below.refl _ w).alloc (Nat.le_refl _) _).alloc (by simp) _
  go_enter Tryz.func12, Tryz.ntmps12
  have p0 := HM0.out.cell (i := 0) rfl
  have p1 := HM0.out.cell (i := 1) rfl
  have p2 := HM0.out.cell (i := 2) rfl
  have p3 := HM0.out.cell (i := 3) rfl
  have p4 := HM0.out.cell (i := 4) rfl
  have p5 := HM0.out.cell (i := 5) rfl
  go_wp2_with fail
  clear hW0 p0 p1 p2 p3 p4 p5
  refine (sModM _ m _ HSM.out (HM.out.below HB0.out)).mono ?_
  rintro r w3 ⟨rfl, hb⟩
  have HB3 : Hid (Below w.heap.size w w3) := HB0.out.trans (hb.mono HB0.out.size)
  have HM3 : Hid (Bk w3 w.heap.size 36 #[.int .i64 m.n, .int .i64 m.s, .slice ai m.i.length ci, .slice ah m.h.length ch, .slice ae m.e.length ce, .int .i64 m.z]) := HM0.out.below hb
  have HR3 : Hid (Bk w3 (w.heap.size + 1) 31 #[.slice none 0 0, .slice none 0 0, .int .i64 0, .bool false]) := HR0.out.below hb
  clear hb HB0 HM0 HR0
  cases hmo : m.ok with
  | false =>
    have HNO : Hid (seqB m l z = false) := (by simp [seqB, hmo] : seqB m l z = false)
    have k0 := HR3.out.cell (i := 0) rfl
    have k1 := HR3.out.cell (i := 1) rfl
    have k2 := HR3.out.cell (i := 2) rfl
    have k3 := HR3.out.cell (i := 3) rfl
    have rf := HR3.out.free
    go_wp2
    have hW := HR3.out.put4h (.slice none 0 0) (.slice none 0 0) (.int .i64 0) (.bool false)
    have hT := put4h_turns w3 (w.heap.size + 1) (.slice none 0 0) (.slice none 0 0) (.int .i64 0) (.bool false)
    have t0 := hW.cell (i := 0) rfl
    have t1 := hW.cell (i := 1) rfl
    have t2 := hW.cell (i := 2) rfl
    have t3 := hW.cell (i := 3) rfl
    have hno : seqB m l z = false := HNO.out
    refine bodyPost_ret (v := .tuple #[.agg #[.slice none 0 0, .slice none 0 0, .int .i64 0, .bool false], .bool false]) (by simp [results, Tryz.results12, go_sem, t0, t1, t2, t3]) rfl ⟨_, by rw [hno], HB3.out.trans (hT.to_below (fun k e => by omega) HB3.out.size), ?_⟩
    rw [show seqA m l z = zeroH from by simp [seqA, hno]]
    exact zero_hi _ _
  | true =>
    go_wp2_with fail
    refine (sVok_any _ l _ (by have := HL.out; omega) (HD.out.below HB3.out)).mono ?_
    rintro r w' ⟨rfl, hw⟩
    have hw' := hw.symm
    clear hw
    subst hw'
    cases hvo : vok l with
    | false =>
      have HNO : Hid (seqB m l z = false) := (by simp [seqB, hmo, hvo] : seqB m l z = false)
      have k0 := HR3.out.cell (i := 0) rfl
      have k1 := HR3.out.cell (i := 1) rfl
      have k2 := HR3.out.cell (i := 2) rfl
      have k3 := HR3.out.cell (i := 3) rfl
      have rf := HR3.out.free
      go_wp2
      have hW := HR3.out.put4h (.slice none 0 0) (.slice none 0 0) (.int .i64 0) (.bool false)
      have hT := put4h_turns w3 (w.heap.size + 1) (.slice none 0 0) (.slice none 0 0) (.int .i64 0) (.bool false)
      have t0 := hW.cell (i := 0) rfl
      have t1 := hW.cell (i := 1) rfl
      have t2 := hW.cell (i := 2) rfl
      have t3 := hW.cell (i := 3) rfl
      have hno : seqB m l z = false := HNO.out
      refine bodyPost_ret (v := .tuple #[.agg #[.slice none 0 0, .slice none 0 0, .int .i64 0, .bool false], .bool false]) (by simp [results, Tryz.results12, go_sem, t0, t1, t2, t3]) rfl ⟨_, by rw [hno], HB3.out.trans (hT.to_below (fun k e => by omega) HB3.out.size), ?_⟩
      rw [show seqA m l z = zeroH from by simp [seqA, hno]]
      exact zero_hi _ _
    | true =>
      have p5 := HM3.out.cell (i := 5) rfl
      by_cases hz0 : 0 ≤ z
      · have hd0 : decide (z < 0) = false := decide_eq_false (by omega)
        by_cases hz1 : z ≤ m.z
        · have hd1 : decide (m.z < z) = false := decide_eq_false (by omega)
          have hyes : seqB m l z = true := by simp [seqB, hmo, hvo, hz0, hz1]
          have HY : Hid (seqB m l z = true) := hyes
          have HSQ : Hid (Calls Tryz.prog 63 #[.agg #[.int .i64 m.n, .int .i64 m.s, .slice ai m.i.length ci, .slice ah m.h.length ch, .slice ae m.e.length ce, .int .i64 m.z], d, .int .i64 z] w3 fun r w' => ∃ y, r = .returned y ∧ Below w3.heap.size w3 w' ∧ HiF (fun k => w3.heap.size ≤ k ∧ k < w'.heap.size) w' y (seqR m l z)) := by
            obtain ⟨c0, c1, c2, c3, rfl, hvc⟩ := vec_of hvo
            exact sSeq _ d m c0 c1 c2 c3 z w3 (HM.out.below HB3.out) (HD.out.below HB3.out) hmo hvc
          have p0 := HM3.out.cell (i := 0) rfl
          have p1 := HM3.out.cell (i := 1) rfl
          have p2 := HM3.out.cell (i := 2) rfl
          have p3 := HM3.out.cell (i := 3) rfl
          have p4 := HM3.out.cell (i := 4) rfl
          have p5 := HM3.out.cell (i := 5) rfl
          clear hyes hz0 hz1
          go_wp2_with fail
          refine HSQ.out.mono ?_
          rintro r w4 ⟨y, rfl, hb, hh⟩
          have HR4 : Hid (Bk w4 (w.heap.size + 1) 31 #[.slice none 0 0, .slice none 0 0, .int .i64 0, .bool false]) := HR3.out.below hb
          have HB4 : Hid (Below w.heap.size w w4) := HB3.out.trans (hb.mono HB3.out.size)
          have hw3 : w.heap.size + 1 < w3.heap.size := HR3.out.lt
          have HH : Hid (HiF (fun k => w3.heap.size ≤ k ∧ k < w4.heap.size) w4 y (seqR m l z)) := hh
          obtain ⟨A9, C9, ve9, vx9, hq, ⟨_, qa, qc, rfl, _⟩, ⟨_, ra, rc, rfl, _⟩, _⟩ := hh
          subst hq
          obtain ⟨R, hR0⟩ : ∃ R, seqR m l z = R := ⟨_, rfl⟩
          have HR9 : Hid (seqR m l z = R) := hR0
          rw [hR0] at HH ⊢
          have k0 := HR4.out.cell (i := 0) rfl
          have k1 := HR4.out.cell (i := 1) rfl
          have k2 := HR4.out.cell (i := 2) rfl
          have k3 := HR4.out.cell (i := 3) rfl
          have rf := HR4.out.free
          clear hb hR0 p0 p1 p2 p3 p4 p5
          go_wp2
          have hW := HR4.out.put4h (.slice qa R.ev.length qc) (.slice ra R.em.length rc) (.int .i64 R.k) (.bool R.f)
          have hT := put4h_turns w4 (w.heap.size + 1) (.slice qa R.ev.length qc) (.slice ra R.em.length rc) (.int .i64 R.k) (.bool R.f)
          have t0 := hW.cell (i := 0) rfl
          have t1 := hW.cell (i := 1) rfl
          have t2 := hW.cell (i := 2) rfl
          have t3 := hW.cell (i := 3) rfl
          have hyes : seqB m l z = true := HY.out
          refine bodyPost_ret (v := .tuple #[.agg #[.slice qa R.ev.length qc, .slice ra R.em.length rc, .int .i64 R.k, .bool R.f], .bool true]) (by simp [results, Tryz.results12, go_sem, t0, t1, t2, t3]) rfl ⟨_, by rw [hyes], HB4.out.trans (hT.to_below (fun k e => by omega) HB4.out.size), ?_⟩
          rw [show seqA m l z = R from by simp [seqA, hyes, HR9.out]]
          exact (HH.out.turns hT (fun k hk e => by omega)).mono (fun k hk => ⟨by omega, Nat.lt_of_lt_of_le hk.2 hT.size⟩)
        · have hd1 : decide (m.z < z) = true := decide_eq_true (by omega)
          have HNO : Hid (seqB m l z = false) := (by simp [seqB, hmo, hvo, hz1] : seqB m l z = false)
          have k0 := HR3.out.cell (i := 0) rfl
          have k1 := HR3.out.cell (i := 1) rfl
          have k2 := HR3.out.cell (i := 2) rfl
          have k3 := HR3.out.cell (i := 3) rfl
          have rf := HR3.out.free
          go_wp2
          have hW := HR3.out.put4h (.slice none 0 0) (.slice none 0 0) (.int .i64 0) (.bool false)
          have hT := put4h_turns w3 (w.heap.size + 1) (.slice none 0 0) (.slice none 0 0) (.int .i64 0) (.bool false)
          have t0 := hW.cell (i := 0) rfl
          have t1 := hW.cell (i := 1) rfl
          have t2 := hW.cell (i := 2) rfl
          have t3 := hW.cell (i := 3) rfl
          have hno : seqB m l z = false := HNO.out
          refine bodyPost_ret (v := .tuple #[.agg #[.slice none 0 0, .slice none 0 0, .int .i64 0, .bool false], .bool false]) (by simp [results, Tryz.results12, go_sem, t0, t1, t2, t3]) rfl ⟨_, by rw [hno], HB3.out.trans (hT.to_below (fun k e => by omega) HB3.out.size), ?_⟩
          rw [show seqA m l z = zeroH from by simp [seqA, hno]]
          exact zero_hi _ _
      · have hd0 : decide (z < 0) = true := decide_eq_true (by omega)
        have HNO : Hid (seqB m l z = false) := (by simp [seqB, hmo, hvo, hz0] : seqB m l z = false)
        have k0 := HR3.out.cell (i := 0) rfl
        have k1 := HR3.out.cell (i := 1) rfl
        have k2 := HR3.out.cell (i := 2) rfl
        have k3 := HR3.out.cell (i := 3) rfl
        have rf := HR3.out.free
        go_wp2
        have hW := HR3.out.put4h (.slice none 0 0) (.slice none 0 0) (.int .i64 0) (.bool false)
        have hT := put4h_turns w3 (w.heap.size + 1) (.slice none 0 0) (.slice none 0 0) (.int .i64 0) (.bool false)
        have t0 := hW.cell (i := 0) rfl
        have t1 := hW.cell (i := 1) rfl
        have t2 := hW.cell (i := 2) rfl
        have t3 := hW.cell (i := 3) rfl
        have hno : seqB m l z = false := HNO.out
        refine bodyPost_ret (v := .tuple #[.agg #[.slice none 0 0, .slice none 0 0, .int .i64 0, .bool false], .bool false]) (by simp [results, Tryz.results12, go_sem, t0, t1, t2, t3]) rfl ⟨_, by rw [hno], HB3.out.trans (hT.to_below (fun k e => by omega) HB3.out.size), ?_⟩
        rw [show seqA m l z = zeroH from by simp [seqA, hno]]
        exact zero_hi _ _
end Go.Proofs.YtmpoffepoafblaaGreat

/- Histories: held against each other, marked, and found again. -/
namespace Go.Proofs.YtmpoffepoafblaaGreat
open Go.RowKit
structure SmallH (h : Hi) : Prop where
  s : h.ev.length ≤ 1048576
  x : h.em.length ≤ 1048576
set_option maxHeartbeats 4000000 in
theorem eqHistory_same {F G : Nat → Prop} (x y : Value) (f : Hi) (w : World) (hs : SmallH f) (hx : HiF F w x f) (hy : HiF G w y f) :
    Calls Tryz.prog 16 #[x, y] w fun e w' => e = .returned (.bool true) ∧ Below w.heap.size w w' := by
  obtain ⟨_, _, us, ux, rfl, h2, h3, _⟩ := hx
  obtain ⟨_, _, us', ux', rfl, k2, k3, _⟩ := hy
  obtain ⟨s, x, k, b⟩ := f
  have HE : Hid (IsEvs w us s ∧ IsEvs w us' s) := ⟨h2.isEvs, k2.isEvs⟩
  have HX : Hid (IsX w ux x ∧ IsX w ux' x) := ⟨h3.isX, k3.isX⟩
  have HS : Hid (SmallH ⟨s, x, k, b⟩) := hs
  clear h2 h3 k2 k3 hs
  obtain ⟨W0, hW0⟩ : ∃ W0, (w.alloc (.cells #[us, ux, .int .i64 k, .bool b] 31)).alloc (.cells #[us', ux', .int .i64 k, .bool b] 31) = W0 := ⟨_, rfl⟩
  have HB0 : Hid (Below w.heap.size w W0) := by rw [← hW0]; exact ((Below.refl _ w).alloc (Nat.le_refl _) _).alloc (by simp) _
  have HP0 : Hid (Bk W0 w.heap.size 31 #[us, ux, .int .i64 k, .bool b]) := by rw [← hW0]; exact (Bk.new w _ _).alloc _
  have HQ0 : Hid (Bk W0 (w.heap.size + 1) 31 #[us', ux', .int .i64 k, .bool b]) := by rw [← hW0]; exact Bk.newAt (by simp) _ _
  have p0 := HP0.out.cell (i := 0) rfl
  have q0 := HQ0.out.cell (i := 0) rfl
  go_enter Tryz.func16, Tryz.ntmps16
  go_wp2_with fail
  clear p0 q0 hW0
  refine (eqS_same _ _ s _ HS.out.s (HE.out.1.below HB0.out) (HE.out.2.below HB0.out)).mono ?_
  rintro e w2 ⟨rfl, hb⟩
  have HB2 : Hid (Below w.heap.size w w2) := HB0.out.trans (hb.mono HB0.out.size)
  have HP2 : Hid (Bk w2 w.heap.size 31 #[us, ux, .int .i64 k, .bool b]) := HP0.out.below hb
  have HQ2 : Hid (Bk w2 (w.heap.size + 1) 31 #[us', ux', .int .i64 k, .bool b]) := HQ0.out.below hb
  have p4 := HP2.out.cell (i := 1) rfl
  have q4 := HQ2.out.cell (i := 1) rfl
  clear hb HB0 HP0 HQ0
  go_wp2_with fail
  clear p4 q4
  refine (eqX_same _ _ x _ HS.out.x (HX.out.1.below HB2.out) (HX.out.2.below HB2.out)).mono ?_
  rintro e w3 ⟨rfl, hb⟩
  have HB3 : Hid (Below w.heap.size w w3) := HB2.out.trans (hb.mono HB2.out.size)
  have p5 := (HP2.out.below hb).cell (i := 2) rfl
  have q5 := (HQ2.out.below hb).cell (i := 2) rfl
  have p6 := (HP2.out.below hb).cell (i := 3) rfl
  have q6 := (HQ2.out.below hb).cell (i := 3) rfl
  clear hb HB2 HP2 HQ2
  go_wp2
  go_ret
  exact ⟨rfl, HB3.out⟩
/- The marks that heldHistory finds again. -/
def HeldHi (F : Nat → Prop) (w : World) (y : Value) (f : Hi) : Prop :=
  ∃ (B C : Nat → Prop) (us ux : Value), y = .agg #[us, ux, .int .i64 f.k, .bool f.f] ∧ RowF B w us f.ev.length 7 (mkCells 1 (f.ev.length * 7)) ∧
    RowF C w ux f.em.length 3 (mkCells (1 + 7 * (f.ev.length : Int)) (f.em.length * 3)) ∧ (∀ k, B k → F k ∧ ¬ C k) ∧ ∀ k, C k → F k
theorem HeldHi.turns {F S : Nat → Prop} {w w' : World} {x : Value} {f : Hi} (h : HeldHi F w x f) (ht : Turns S w w') (hS : ∀ k, F k → ¬ S k) : HeldHi F w' x f := by
  obtain ⟨B, C, us, ux, rfl, h2, h3, h5, h6⟩ := h
  exact ⟨B, C, us, ux, rfl, h2.turns ht (fun k hk => hS k (h5 k hk).1), h3.turns ht (fun k hk => hS k (h6 k hk)), h5, h6⟩
theorem HeldHi.below {F : Nat → Prop} {w w' : World} {x : Value} {f : Hi} (h : HeldHi F w x f) (hb : Below w.heap.size w w') : HeldHi F w' x f :=
  h.turns (S := fun _ => False) (Turns.of_below hb) (fun _ _ => id)
def markHi (f : Hi) : Int := 1 + 7 * (f.ev.length : Int) + 3 * (f.em.length : Int)
theorem markHi_pos (f : Hi) : 1 ≤ markHi f := by unfold markHi; omega
set_option maxHeartbeats 4000000 in
theorem markHistory_any {F : Nat → Prop} {x : Value} {f : Hi} {w : World} (hs : SmallH f) (h : HiF F w x f) (hF : ∀ k, F k → k < w.heap.size) :
    Calls Tryz.prog 21 #[x, .int .i64 1] w fun e w' => e = .returned (.int .i64 (markHi f)) ∧ HeldHi F w' x f ∧ Turns F w w' := by
  obtain ⟨B, C, us, ux, rfl, h2, h3, h5, h6⟩ := h
  obtain ⟨s, x, k, b⟩ := f
  have HE : Hid (RowF B w us s.length 7 (cellsL s)) := h2
  have HX : Hid (RowF C w ux x.length 3 (cellsX x)) := h3
  have HF : Hid ((∀ k, F k → k < w.heap.size) ∧ (∀ k, B k → F k ∧ ¬ C k) ∧ ∀ k, C k → F k) := ⟨hF, h5, h6⟩
  have he : s.length ≤ 1048576 := hs.s
  have hx : x.length ≤ 1048576 := hs.x
  clear h2 h3 h5 h6 hs hF
  obtain ⟨W0, hW0⟩ : ∃ W0, w.alloc (.cells #[us, ux, .int .i64 k, .bool b] 31) = W0 := ⟨_, rfl⟩
  have HB0 : Hid (Below w.heap.size w W0) := by rw [← hW0]; exact (Below.refl _ w).alloc (Nat.le_refl _) _
  have HP0 : Hid (Bk W0 w.heap.size 31 #[us, ux, .int .i64 k, .bool b]) := by rw [← hW0]; exact Bk.new w _ _
  have p0 := HP0.out.cell (i := 0) rfl
  go_enter Tryz.func21, Tryz.ntmps21
  go_wp2_with fail
  clear p0 hW0
  refine (markEF (F := B) 1 (by omega) (by omega) (by omega) (HE.out.below HB0.out)).mono ?_
  rintro e w2 ⟨rfl, hr2, ht⟩
  have HT2 : Hid (Turns F W0 w2) := ht.mono (fun k hk => (HF.out.2.1 k hk).1)
  have HE2 : Hid (RowF B w2 us s.length 7 (mkCells 1 (s.length * 7))) := hr2
  have HX2 : Hid (RowF C w2 ux x.length 3 (cellsX x)) := (HX.out.below HB0.out).turns ht (fun k hk hb => (HF.out.2.1 k hb).2 hk)
  have HP2 : Hid (Bk w2 w.heap.size 31 #[us, ux, .int .i64 k, .bool b]) := HP0.out.turns ht (fun hk => by have := HF.out.1 _ (HF.out.2.1 _ hk).1; omega)
  have p4 := HP2.out.cell (i := 1) rfl
  clear hr2 ht HE HX HP0
  go_wp2_with fail
  clear p4
  refine (markXF (F := C) (1 + 7 * (s.length : Int)) (by omega) (by omega) (by omega) HX2.out).mono ?_
  rintro e w3 ⟨rfl, hr3, ht⟩
  have HT3 : Hid (Turns F W0 w3) := HT2.out.trans (ht.mono (fun k hk => HF.out.2.2 k hk))
  have HE3 : Hid (RowF B w3 us s.length 7 (mkCells 1 (s.length * 7))) := HE2.out.turns ht (fun k hk hc => (HF.out.2.1 k hk).2 hc)
  have HX3 : Hid (RowF C w3 ux x.length 3 (mkCells (1 + 7 * (s.length : Int)) (x.length * 3))) := hr3
  clear hr3 ht HE2 HX2 HP2 HT2
  go_wp2
  go_ret
  exact ⟨rfl, ⟨B, C, us, ux, rfl, HE3.out, HX3.out, HF.out.2⟩, (Turns.of_below HB0.out).trans HT3.out⟩
set_option maxHeartbeats 4000000 in
theorem heldHistory_any {F : Nat → Prop} {x : Value} {f : Hi} {w : World} (hs : SmallH f) (h : HeldHi F w x f) :
    Calls Tryz.prog 22 #[x, .int .i64 1] w fun e w' => e = .returned (.int .i64 (markHi f)) ∧ Below w.heap.size w w' := by
  obtain ⟨B, C, us, ux, rfl, h2, h3, _⟩ := h
  obtain ⟨s, x, k, b⟩ := f
  have HE : Hid (RowF B w us s.length 7 (mkCells 1 (s.length * 7))) := h2
  have HX : Hid (RowF C w ux x.length 3 (mkCells (1 + 7 * (s.length : Int)) (x.length * 3))) := h3
  have he : s.length ≤ 1048576 := hs.s
  have hx : x.length ≤ 1048576 := hs.x
  clear h2 h3 hs
  obtain ⟨W0, hW0⟩ : ∃ W0, w.alloc (.cells #[us, ux, .int .i64 k, .bool b] 31) = W0 := ⟨_, rfl⟩
  have HB0 : Hid (Below w.heap.size w W0) := by rw [← hW0]; exact (Below.refl _ w).alloc (Nat.le_refl _) _
  have HP0 : Hid (Bk W0 w.heap.size 31 #[us, ux, .int .i64 k, .bool b]) := by rw [← hW0]; exact Bk.new w _ _
  have p0 := HP0.out.cell (i := 0) rfl
  have p1 := HP0.out.cell (i := 1) rfl
  have n2 : ¬ (1 + 7 * (s.length : Int) < 0) := by omega
  have n3 : ¬ (1 + 7 * (s.length : Int) + 3 * (x.length : Int) < 0) := by omega
  go_enter Tryz.func22, Tryz.ntmps22
  go_wp2_with fail
  try simp only [hW0]
  clear hW0
  refine (heldEF (F := B) 1 (by omega) (by omega) (by omega) (HE.out.below HB0.out)).mono ?_
  rintro e w' ⟨rfl, hw⟩
  have hw' := hw.symm
  clear hw
  subst hw'
  go_wp2_with fail
  refine (heldXF (F := C) (1 + 7 * (s.length : Int)) (by omega) (by omega) (by omega) (HX.out.below HB0.out)).mono ?_
  rintro e w' ⟨rfl, hw⟩
  have hw' := hw.symm
  clear hw
  subst hw'
  go_wp2
  go_ret
  exact ⟨rfl, HB0.out⟩
end Go.Proofs.YtmpoffepoafblaaGreat

/- szModel, with how much it leaves. -/
namespace Go.Proofs.YtmpoffepoafblaaGreat
open Go.RowKit
set_option maxHeartbeats 2000000 in
theorem szModel_le (x : Value) (m : Md) (w : World) (h : IsM w x m) :
    Calls Tryz.prog 11 #[x, .int .i64 1048576] w fun e w' => (∃ r, e = .returned (.int .i64 r) ∧ (r = -1 ∨ (0 ≤ r ∧ r ≤ 1048576 ∧ SmallM m))) ∧ Below w.heap.size w w' := by
  obtain ⟨vi, vh, vs, rfl, h1, h2, h3⟩ := h
  obtain ⟨n, s, i, hh, ev, z⟩ := m
  have HH : Hid (IsH w vh hh) := h2
  obtain ⟨a1, c1, rfl, hi1, hi2, _⟩ := h1
  obtain ⟨a3, c3, rfl, he1, he2, _⟩ := h3
  have HI : Hid (i.length ≤ maxLen) := Nat.le_trans hi1 hi2
  have HE : Hid (ev.length ≤ maxLen) := Nat.le_trans he1 he2
  clear h2 hi1 hi2 he1 he2
  obtain ⟨W0, hW0⟩ : ∃ W0, w.alloc (.cells #[.int .i64 n, .int .i64 s, .slice a1 i.length c1, vh, .slice a3 ev.length c3, .int .i64 z] 26) = W0 := ⟨_, rfl⟩
  have HB0 : Hid (Below w.heap.size w W0) := by rw [← hW0]; exact (Below.refl _ w).alloc (Nat.le_refl _) _
  have HP0 : Bk W0 w.heap.size 26 #[.int .i64 n, .int .i64 s, .slice a1 i.length c1, vh, .slice a3 ev.length c3, .int .i64 z] := by rw [← hW0]; exact Bk.new w _ _
  have p2 := HP0.cell (i := 2) rfl
  have p3 := HP0.cell (i := 3) rfl
  have p4 := HP0.cell (i := 4) rfl
  clear HP0
  have go : ∀ q : Int, q = szN i.length 1048576 → q = -1 ∨ (0 ≤ q ∧ q ≤ 1048576 ∧ i.length ≤ 1048576) := by
    intro q hq
    unfold szN at hq
    split at hq <;> omega
  go_enter Tryz.func11, Tryz.ntmps11
  go_wp2_with fail
  refine (szI_any _ _ _ _ _ HI.out (by omega) (by omega)).mono ?_
  rintro e w' ⟨rfl, hw⟩
  have hw' := hw.symm
  clear hw
  subst hw'
  clear hW0
  generalize hq : szN i.length 1048576 = q
  rcases go q hq.symm with rfl | ⟨q0, q1, q2⟩
  · clear go hq
    go_wp2
    go_ret
    exact ⟨⟨_, rfl, .inl rfl⟩, HB0.out⟩
  · have HQ : Hid (i.length ≤ 1048576) := q2
    have q3 : ¬ (q < 0) := by omega
    clear go hq q2
    go_wp2_with fail
    refine (szH_any _ hh _ _ (HH.out.below HB0.out) q0 q1).mono ?_
    rintro e w' ⟨⟨r, rfl, hr⟩, hw⟩
    have hw' := hw.symm
    clear hw
    subst hw'
    rcases hr with rfl | ⟨r0, r1, r2, r3, r4⟩
    · go_wp2
      go_ret
      exact ⟨⟨_, rfl, .inl rfl⟩, HB0.out⟩
    · have r5 : ¬ (r < 0) := by omega
      have r6 : r ≤ 1048576 := by omega
      have HR : Hid ((hh.length : Int) ≤ 1048576 ∧ (∀ i, (hAt hh i).length ≤ 1048576) ∧ sumL (lens hh) hh.length ≤ 1048576) := ⟨r2, r3, r4⟩
      clear r1 r2 r3 r4
      go_wp2_with fail
      refine (szE_any _ _ _ _ _ HE.out r0 r6).mono ?_
      rintro e w' ⟨rfl, hw⟩
      have hw' := hw.symm
      clear hw
      subst hw'
      generalize hq : szN ev.length r = t
      have ht : t = -1 ∨ (0 ≤ t ∧ t ≤ 1048576 ∧ ev.length ≤ 1048576) := by
        unfold szN at hq
        split at hq <;> omega
      clear hq
      rcases ht with rfl | ⟨t0, t9, t1⟩
      · go_wp2
        go_ret
        exact ⟨⟨_, rfl, .inl rfl⟩, HB0.out⟩
      · have t2 : ¬ (t < 0) := by omega
        go_wp2
        go_ret
        exact ⟨⟨_, rfl, .inr ⟨t0, t9, HQ.out, by have := HR.out.1; show hh.length ≤ 1048576; omega, HR.out.2.1, HR.out.2.2, t1⟩⟩, HB0.out⟩

end Go.Proofs.YtmpoffepoafblaaGreat

/- Effects: held against each other, marked, and found again. -/
namespace Go.Proofs.YtmpoffepoafblaaGreat
open Go.RowKit
structure SmallE (f : Ef) : Prop where
  r : f.st.r.length ≤ 1048576
  s : f.s.length ≤ 1048576
  x : f.x.length ≤ 1048576
/- The marks that heldEffect finds again. -/
def HeldE (F : Nat → Prop) (w : World) (y : Value) (f : Ef) : Prop :=
  ∃ (A B C : Nat → Prop) (vr us ux : Value), y = .agg #[vr, .int .i64 f.st.q, .int .i64 f.st.d, us, ux, .int .i64 f.k] ∧ RowF A w vr f.st.r.length 1 (mkCells 1 (f.st.r.length * 1)) ∧ RowF B w us f.s.length 7 (mkCells (1 + (f.st.r.length : Int)) (f.s.length * 7)) ∧
    RowF C w ux f.x.length 3 (mkCells (1 + (f.st.r.length : Int) + 7 * (f.s.length : Int)) (f.x.length * 3)) ∧ (∀ k, A k → F k ∧ ¬ B k ∧ ¬ C k) ∧ (∀ k, B k → F k ∧ ¬ C k) ∧ ∀ k, C k → F k
theorem HeldE.turns {F S : Nat → Prop} {w w' : World} {x : Value} {f : Ef} (h : HeldE F w x f) (ht : Turns S w w') (hS : ∀ k, F k → ¬ S k) : HeldE F w' x f := by
  obtain ⟨A, B, C, vr, us, ux, rfl, h1, h2, h3, h4, h5, h6⟩ := h
  exact ⟨A, B, C, vr, us, ux, rfl, h1.turns ht (fun k hk => hS k (h4 k hk).1), h2.turns ht (fun k hk => hS k (h5 k hk).1), h3.turns ht (fun k hk => hS k (h6 k hk)), h4, h5, h6⟩
theorem HeldE.below {F : Nat → Prop} {w w' : World} {x : Value} {f : Ef} (h : HeldE F w x f) (hb : Below w.heap.size w w') : HeldE F w' x f :=
  h.turns (S := fun _ => False) (Turns.of_below hb) (fun _ _ => id)
def markE (f : Ef) : Int := 1 + (f.st.r.length : Int) + 7 * (f.s.length : Int) + 3 * (f.x.length : Int)
theorem markE_pos (f : Ef) : 1 ≤ markE f := by unfold markE; omega
end Go.Proofs.YtmpoffepoafblaaGreat

/- How long the lists of an effect can be. -/
namespace Go.Proofs.YtmpoffepoafblaaGreat
open Go.RowKit
theorem step_len (sd : Int) (v : List Int) (e : Ev) (o : O) (t : Tn) : (stepO sd v e o t).s.length ≤ t.s.length + 1 ∧ (stepO sd v e o t).x.length ≤ t.x.length + 1 := by
  have hp : ∀ i z, (t.put i z).s = t.s ∧ (t.put i z).x = t.x := fun i z => by unfold Tn.put; split <;> exact ⟨rfl, rfl⟩
  unfold stepO
  repeat' split
  all_goals simp [hp]
theorem run_len (sd : Int) (v : List Int) (e : Ev) (l : List O) : ∀ (f i : Nat) (t t' : Tn), run sd v e l f i t = .done t' → t'.s.length ≤ t.s.length + f ∧ t'.x.length ≤ t.x.length + f
  | 0, i, t, t', h => by
    simp only [run, Res.done.injEq] at h
    subst h
    exact ⟨by omega, by omega⟩
  | f + 1, i, t, t', h => by
    unfold run at h
    split at h
    · split at h
      · cases h
      · have h1 := run_len sd v e l f _ _ _ h
        have h2 := step_len sd v e (oAt l i) t
        omega
    · simp only [Res.done.injEq] at h
      subst h
      exact ⟨by omega, by omega⟩
theorem hand_small (m : Md) (l : List Int) (s : St) (e : Ev) : SmallE (handR m l s e) := by
  unfold handR
  split
  · rename_i hb
    simp only [handB, Bool.and_eq_true] at hb
    have hk := ev_nums hb.2.2.2.1
    have hf : fitB m e.t e.d e.k = true := hb.2.2.2.2
    simp [fitB] at hf
    have hrow := (ok_row hb.1 (j := e.k.toNat) (by omega)).1
    unfold effR
    cases hr : run m.s l e (hAt m.h e.k.toNat) (hAt m.h e.k.toNat).length 0 (startT s) with
    | asks k => exact ⟨by simp [resE], by simp [resE], by simp [resE]⟩
    | done t =>
      have h1 := run_len _ _ _ _ _ _ _ _ hr
      have h2 : (startT s).s.length = 0 := rfl
      have h3 : (startT s).x.length = 0 := rfl
      exact ⟨by simp [resE, Tn.ef], by show t.s.length ≤ _; omega, by show t.x.length ≤ _; omega⟩
  · exact ⟨by simp [zeroE], by simp [zeroE], by simp [zeroE]⟩
theorem markNo_high {m : Md} (h : SmallM m) : markNo m ≤ 1000000000 := by
  have h1 := h.i
  have h2 := h.t
  have h3 := h.e
  unfold markNo
  omega
end Go.Proofs.YtmpoffepoafblaaGreat

