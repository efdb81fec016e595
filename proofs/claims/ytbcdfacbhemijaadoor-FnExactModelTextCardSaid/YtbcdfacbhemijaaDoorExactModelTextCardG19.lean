/- MOkJ, MOkM -/
import Derived.Test.YtbcdfacbhemijaaDoorExactModelTextCardG18
import Derived.Test.YtbcdfacbhemijaaDoorExactModelTextCardLMOkS
/- The program's ModelOk: the events that begin it. -/
namespace Go.Proofs.YtbcdfacbhemijaaDoor
open Go.RowKit
def fitB (m : Md) (t d kk : Int) : Bool := decide (0 ≤ d ∧ d < m.n ∧ 0 ≤ kk ∧ kk < (m.h.length : Int) ∧ t ≤ m.z)
set_option maxRecDepth 100000 in
set_option maxHeartbeats 4000000 in
theorem fits_any (x : Value) (m : Md) (t s1 qq d kk v g : Int) (w : World) (h : IsM w x m) :
    Calls Tryd.prog 75 #[x, .agg #[.int .i64 t, .int .i64 s1, .int .i64 qq, .int .i64 d, .int .i64 kk, .int .i64 v, .int .i64 g]] w fun e w' => e = .returned (.bool (fitB m t d kk)) ∧ Below w.heap.size w w' := by
  obtain ⟨vi, vh, vs, rfl, ⟨ai, ci, rfl, hi1, hi2, hi3⟩, ⟨ah, ch, rfl, hh1, hh2, hh3⟩, ⟨ae, ce, rfl, he1, he2, he3⟩⟩ := h
  clear hi1 hi2 hh1 hh2 he1 he2 hi3 hh3 he3
  go_enter Tryd.func75, Tryd.ntmps75
  go_wp2_with (go_at_call 83; refine (place_any _ _ _).mono ?_; rintro e w2 ⟨rfl, hw⟩; have hw' := hw.symm; clear hw; subst hw')
  all_goals
    go_ret
    refine ⟨?_, ((Below.refl _ _).alloc (Nat.le_refl _) _).alloc (by simp) _⟩
    first | exact ret_bool (by unfold fitB; rw [Bool.eq_iff_iff]; (try simp only [Bool.and_eq_true]); simp only [decide_eq_true_eq]; omega) | exact ret_bool (by unfold fitB; simp; omega) | exact ret_bool (by unfold fitB; simp [*])
def begB (place s1 qq g : Int) : Bool := decide (s1 = -1 ∧ qq = place ∧ g = place)
set_option maxRecDepth 100000 in
set_option maxHeartbeats 4000000 in
theorem isStart_any (place t s1 qq d kk v g : Int) (w : World) :
    Calls Tryd.prog 76 #[.agg #[.int .i64 t, .int .i64 s1, .int .i64 qq, .int .i64 d, .int .i64 kk, .int .i64 v, .int .i64 g], .int .i64 place] w fun e w' => e = .returned (.bool (begB place s1 qq g)) ∧ Below w.heap.size w w' := by
  by_cases c0 : s1 = -1
  · by_cases c1 : qq = place
    · by_cases c2 : g = place
      all_goals
        go_enter Tryd.func76, Tryd.ntmps76
        go_wp2
        go_ret
        exact ⟨ret_bool (by simp [begB, *]), (Below.refl _ _).alloc (Nat.le_refl _) _⟩
    · go_enter Tryd.func76, Tryd.ntmps76
      go_wp2
      go_ret
      exact ⟨ret_bool (by simp [begB, *]), (Below.refl _ _).alloc (Nat.le_refl _) _⟩
  · go_enter Tryd.func76, Tryd.ntmps76
    go_wp2
    go_ret
    exact ⟨ret_bool (by simp [begB, *]), (Below.refl _ _).alloc (Nat.le_refl _) _⟩
theorem stB_parts (m : Md) (k : Nat) (t s1 qq d kk v g : Int) : stB m k ⟨t, s1, qq, d, kk, v, g⟩ = (okB t s1 qq d kk v g && (fitB m t d kk && begB (k : Int) s1 qq g)) := by
  unfold stB Ev.ok fitB begB okB
  rw [Bool.eq_iff_iff]
  simp only [Bool.and_eq_true, decide_eq_true_eq]
  omega
set_option maxRecDepth 100000 in
set_option maxHeartbeats 4000000 in
theorem startOk_any (x : Value) (m : Md) (w : World) (hs : SmallM m) (h : IsM w x m) :
    Calls Tryd.prog 56 #[x] w fun e w' => e = .returned (.bool (decide (m.e.length ≤ 6) && m.okE)) ∧ Below w.heap.size w w' := by
  have HX : Hid (IsM w x m) := h
  obtain ⟨vi, vh, vs, rfl, ⟨ai, ci, rfl, hi1, hi2, hi3⟩, ⟨ah, ch, rfl, hh1, hh2, hh3⟩, ⟨ae, ce, rfl, he1, he2, he3⟩⟩ := h
  have hi0 : m.i.length ≤ 1048576 := hs.i
  have hh0 : m.h.length ≤ 1048576 := hs.h
  have he0 : m.e.length ≤ 1048576 := hs.e
  have HS : Hid (SmallM m) := hs
  clear hs hi1 hi2 hh1 hh2 he1 he2
  clear hi3 hh3
  have HE : Hid (m.e = [] ∨ ∃ b off, ae = some ⟨b, off, none⟩ ∧ EvsAt w b off m.e) := he3
  clear he3
  obtain ⟨W0, hW0⟩ : ∃ W0, w.alloc (.cells #[.int .i64 m.n, .int .i64 m.s, .slice ai m.i.length ci, .slice ah m.h.length ch, .slice ae m.e.length ce, .int .i64 m.z] 33) = W0 := ⟨_, rfl⟩
  have HB0 : Hid (Below w.heap.size w W0) := by rw [← hW0]; exact (Below.refl _ w).alloc (Nat.le_refl _) _
  have HP0 : Hid (Bk W0 w.heap.size 33 #[.int .i64 m.n, .int .i64 m.s, .slice ai m.i.length ci, .slice ah m.h.length ch, .slice ae m.e.length ce, .int .i64 m.z]) := by rw [← hW0]; exact Bk.new w _ _
  have p0 := HP0.out.cell (i := 0) rfl
  have p1 := HP0.out.cell (i := 1) rfl
  have p2 := HP0.out.cell (i := 2) rfl
  have p3 := HP0.out.cell (i := 3) rfl
  have p4 := HP0.out.cell (i := 4) rfl
  have p5 := HP0.out.cell (i := 5) rfl
  by_cases c0 : 6 < (m.e.length : Int)
  case pos =>
    go_enter Tryd.func56, Tryd.ntmps56
    go_wp2
    go_ret
    exact ⟨ret_bool (by rw [decide_eq_false (by omega)]; rfl), HB0.out⟩
  have HOK : Hid (∀ b, m.okE = b → (decide (m.e.length ≤ 6) && m.okE) = b) := fun b e => by rw [e, decide_eq_true (by omega)]; simp
  generalize (decide (m.e.length ≤ 6) && m.okE) = okv at HOK ⊢
  go_enter Tryd.func56, Tryd.ntmps56
  go_wp2
  clear hW0 p0 p1 p2 p3 p4 p5
  go_loopw [12] (fun i wr => ∃ k : Nat, k ≤ m.e.length ∧ i = .int .i64 k ∧ (∀ j, j < k → stB m j (evAt m.e j) = true) ∧ Below w.heap.size w wr ∧ Bk wr w.heap.size 33 #[.int .i64 m.n, .int .i64 m.s, .slice ai m.i.length ci, .slice ah m.h.length ch, .slice ae m.e.length ce, .int .i64 m.z]) (fun i _ => m.e.length - (intOf i).toNat)
  case atStart => exact ⟨0, Nat.zero_le _, rfl, fun j hj => by omega, HB0.out, HP0.out⟩
  case round =>
    clear HB0 HP0
    obtain ⟨k, hk, rfl, hall, hB, hP⟩ := hrel
    have HA : Hid (∀ j, j < k → stB m j (evAt m.e j) = true) := hall
    have HB0 : Hid (Below w.heap.size w wr) := hB
    have HP0 : Hid (Bk wr w.heap.size 33 #[.int .i64 m.n, .int .i64 m.s, .slice ai m.i.length ci, .slice ah m.h.length ch, .slice ae m.e.length ce, .int .i64 m.z]) := hP
    clear hall hP
    by_cases hlt : k < m.e.length
    · obtain ⟨b, off, rfl, hb, hc⟩ := HE.out.resolve_left (by intro e; rw [e] at hlt; simp at hlt)
      obtain ⟨f0, f1, f2, f3, f4, f5, f6⟩ := (hc k hlt).below hB hb
      clear hB hc
      generalize hev : evAt m.e k = e at f0 f1 f2 f3 f4 f5 f6
      have HEV : Hid (evAt m.e k = e) := hev
      obtain ⟨t, s1, qq, d, kk, v, g⟩ := e
      clear hev
      obtain ⟨V, hV⟩ : ∃ V, wr.alloc (.cells #[.int .i64 t, .int .i64 s1, .int .i64 qq, .int .i64 d, .int .i64 kk, .int .i64 v, .int .i64 g] 63) = V := ⟨_, rfl⟩
      have hbV : Below wr.heap.size wr V := hV ▸ (Below.refl _ wr).alloc (Nat.le_refl _) _
      have HBV : Hid (Below w.heap.size w V) := HB0.out.trans (hbV.mono HB0.out.size)
      have HPV : Hid (Bk V w.heap.size 33 #[.int .i64 m.n, .int .i64 m.s, .slice ai m.i.length ci, .slice ah m.h.length ch, .slice (some ⟨b, off, none⟩) m.e.length ce, .int .i64 m.z]) := HP0.out.below hbV
      have HQV : Hid (Bk V wr.heap.size 63 #[.int .i64 t, .int .i64 s1, .int .i64 qq, .int .i64 d, .int .i64 kk, .int .i64 v, .int .i64 g]) := hV ▸ Bk.new _ _ _
      have p0 := HPV.out.cell (i := 0) rfl
      have p1 := HPV.out.cell (i := 1) rfl
      have p2 := HPV.out.cell (i := 2) rfl
      have p3 := HPV.out.cell (i := 3) rfl
      have p4 := HPV.out.cell (i := 4) rfl
      have p5 := HPV.out.cell (i := 5) rfl
      have e0 := HQV.out.cell (i := 0) rfl
      have e1 := HQV.out.cell (i := 1) rfl
      have e2 := HQV.out.cell (i := 2) rfl
      have e3 := HQV.out.cell (i := 3) rfl
      have e4 := HQV.out.cell (i := 4) rfl
      have e5 := HQV.out.cell (i := 5) rfl
      have e6 := HQV.out.cell (i := 6) rfl
      clear hbV HB0 HP0
      go_wp2_with fail
      clear f0 f1 f2 f3 f4 f5 f6 e0 e1 e2 e3 e4 e5 e6 p0 p1 p2 p3 p4 p5 hV
      refine (iOk_any _ _ _ _ _ _ _ _).mono ?_
      rintro e w2 ⟨rfl, hb2⟩
      have HB2 : Hid (Below w.heap.size w w2) := HBV.out.trans (hb2.mono HBV.out.size)
      have HP2 : Hid (Bk w2 w.heap.size 33 #[.int .i64 m.n, .int .i64 m.s, .slice ai m.i.length ci, .slice ah m.h.length ch, .slice (some ⟨b, off, none⟩) m.e.length ce, .int .i64 m.z]) := HPV.out.below hb2
      have HQ2 : Hid (Bk w2 wr.heap.size 63 #[.int .i64 t, .int .i64 s1, .int .i64 qq, .int .i64 d, .int .i64 kk, .int .i64 v, .int .i64 g]) := HQV.out.below hb2
      clear hb2 HBV HPV HQV
      have HST : Hid (stB m k (evAt m.e k) = (okB t s1 qq d kk v g && (fitB m t d kk && begB (k : Int) s1 qq g))) := HEV.out ▸ stB_parts m k t s1 qq d kk v g
      cases hokb : okB t s1 qq d kk v g
      · have hno := HOK.out _ (range_no hlt (by rw [HST.out, hokb]; rfl))
        subst hno
        clear hokb
        have p0 := HP2.out.cell (i := 0) rfl
        have p1 := HP2.out.cell (i := 1) rfl
        have p2 := HP2.out.cell (i := 2) rfl
        have p3 := HP2.out.cell (i := 3) rfl
        have p4 := HP2.out.cell (i := 4) rfl
        have p5 := HP2.out.cell (i := 5) rfl
        have e0 := HQ2.out.cell (i := 0) rfl
        have e1 := HQ2.out.cell (i := 1) rfl
        have e2 := HQ2.out.cell (i := 2) rfl
        have e3 := HQ2.out.cell (i := 3) rfl
        have e4 := HQ2.out.cell (i := 4) rfl
        have e5 := HQ2.out.cell (i := 5) rfl
        have e6 := HQ2.out.cell (i := 6) rfl
        go_wp2
        go_ret
        exact ⟨rfl, HB2.out⟩
      · have HOB : Hid (okB t s1 qq d kk v g = true) := hokb
        clear hokb
        have p0 := HP2.out.cell (i := 0) rfl
        have p1 := HP2.out.cell (i := 1) rfl
        have p2 := HP2.out.cell (i := 2) rfl
        have p3 := HP2.out.cell (i := 3) rfl
        have p4 := HP2.out.cell (i := 4) rfl
        have p5 := HP2.out.cell (i := 5) rfl
        have e0 := HQ2.out.cell (i := 0) rfl
        have e1 := HQ2.out.cell (i := 1) rfl
        have e2 := HQ2.out.cell (i := 2) rfl
        have e3 := HQ2.out.cell (i := 3) rfl
        have e4 := HQ2.out.cell (i := 4) rfl
        have e5 := HQ2.out.cell (i := 5) rfl
        have e6 := HQ2.out.cell (i := 6) rfl
        go_wp2_with fail
        clear e0 e1 e2 e3 e4 e5 e6 p0 p1 p2 p3 p4 p5
        refine (fits_any _ m _ _ _ _ _ _ _ _ (HX.out.below HB2.out)).mono ?_
        rintro e w3 ⟨rfl, hb3⟩
        have HB3 : Hid (Below w.heap.size w w3) := HB2.out.trans (hb3.mono HB2.out.size)
        have HP3 : Hid (Bk w3 w.heap.size 33 #[.int .i64 m.n, .int .i64 m.s, .slice ai m.i.length ci, .slice ah m.h.length ch, .slice (some ⟨b, off, none⟩) m.e.length ce, .int .i64 m.z]) := HP2.out.below hb3
        have HQ3 : Hid (Bk w3 wr.heap.size 63 #[.int .i64 t, .int .i64 s1, .int .i64 qq, .int .i64 d, .int .i64 kk, .int .i64 v, .int .i64 g]) := HQ2.out.below hb3
        clear hb3 HB2 HP2 HQ2
        cases hfit : fitB m t d kk
        · have hno := HOK.out _ (range_no hlt (by rw [HST.out, hfit]; simp))
          subst hno
          clear hfit
          have e0 := HQ3.out.cell (i := 0) rfl
          have e1 := HQ3.out.cell (i := 1) rfl
          have e2 := HQ3.out.cell (i := 2) rfl
          have e3 := HQ3.out.cell (i := 3) rfl
          have e4 := HQ3.out.cell (i := 4) rfl
          have e5 := HQ3.out.cell (i := 5) rfl
          have e6 := HQ3.out.cell (i := 6) rfl
          go_wp2
          go_ret
          exact ⟨rfl, HB3.out⟩
        · have HFI : Hid (fitB m t d kk = true) := hfit
          clear hfit
          have e0 := HQ3.out.cell (i := 0) rfl
          have e1 := HQ3.out.cell (i := 1) rfl
          have e2 := HQ3.out.cell (i := 2) rfl
          have e3 := HQ3.out.cell (i := 3) rfl
          have e4 := HQ3.out.cell (i := 4) rfl
          have e5 := HQ3.out.cell (i := 5) rfl
          have e6 := HQ3.out.cell (i := 6) rfl
          go_wp2_with fail
          clear e0 e1 e2 e3 e4 e5 e6
          refine (isStart_any _ _ _ _ _ _ _ _ _).mono ?_
          rintro e w4 ⟨rfl, hb4⟩
          have HB4 : Hid (Below w.heap.size w w4) := HB3.out.trans (hb4.mono HB3.out.size)
          have HP4 : Hid (Bk w4 w.heap.size 33 #[.int .i64 m.n, .int .i64 m.s, .slice ai m.i.length ci, .slice ah m.h.length ch, .slice (some ⟨b, off, none⟩) m.e.length ce, .int .i64 m.z]) := HP3.out.below hb4
          clear hb4 HB3 HP3 HQ3
          cases hbeg : begB (k : Int) s1 qq g
          · have hno := HOK.out _ (range_no hlt (by rw [HST.out, hbeg]; simp))
            subst hno
            clear hbeg
            go_wp2
            go_ret
            exact ⟨rfl, HB4.out⟩
          · have HV : Hid (stB m k (evAt m.e k) = true) := by rw [HST.out, HOB.out, HFI.out, hbeg]; rfl
            clear hbeg
            go_wp2
            go_roundw
            case rel => exact ⟨k + 1, by omega, by go_num, fun j hj => by
              by_cases e : j < k
              · exact HA.out j e
              · rw [show j = k by omega]; exact HV.out, HB4.out, HP4.out⟩
            case measure => simp [intOf]; omega
    · have hyes : okv = true := HOK.out _ (range_yes (fun j hj => HA.out j (by omega)))
      subst hyes
      clear hB
      go_wp2
      go_ret
      exact ⟨rfl, HB0.out⟩
end Go.Proofs.YtbcdfacbhemijaaDoor

/- The program's ModelOk. -/
namespace Go.Proofs.YtbcdfacbhemijaaDoor
open Go.RowKit
theorem ok_parts (m : Md) : m.ok = ((decide (1 ≤ m.n) && decide (m.n ≤ 4)) && ((decide (0 ≤ m.s) && decide (m.s ≤ 65535)) && ((decide (0 ≤ m.z) && decide (m.z ≤ 950)) && ((decide ((m.i.length : Int) = m.n) && m.okI) && ((decide (1 ≤ m.h.length ∧ m.h.length ≤ 4) && m.okH) && (decide (m.e.length ≤ 6) && m.okE)))))) := by
  unfold Md.ok
  rw [Bool.eq_iff_iff]
  simp only [Bool.and_eq_true, decide_eq_true_eq]
  unfold Md.hd
  constructor
  · rintro ⟨⟨⟨⟨h1, h2, h3, h4, h5, h6, h7, h8, h9, h10⟩, hi⟩, hh⟩, he⟩
    exact ⟨⟨h1, h2⟩, ⟨h3, h4⟩, ⟨h9, h10⟩, ⟨h5, hi⟩, ⟨⟨h6, h7⟩, hh⟩, h8, he⟩
  · rintro ⟨⟨h1, h2⟩, ⟨h3, h4⟩, ⟨h9, h10⟩, ⟨h5, hi⟩, ⟨⟨h6, h7⟩, hh⟩, h8, he⟩
    exact ⟨⟨⟨⟨h1, h2, h3, h4, h5, h6, h7, h8, h9, h10⟩, hi⟩, hh⟩, he⟩
set_option maxRecDepth 100000 in
set_option maxHeartbeats 8000000 in
theorem iModM (x : Value) (m : Md) (w : World) (hs : SmallM m) (h : IsM w x m) :
    Calls Tryd.prog 29 #[x] w fun e w' => e = .returned (.bool m.ok) ∧ Below w.heap.size w w' := by
  have HX : Hid (IsM w x m) := h
  obtain ⟨vi, vh, vs, rfl, ⟨ai, ci, rfl, hi1, hi2, hi3⟩, ⟨ah, ch, rfl, hh1, hh2, hh3⟩, ⟨ae, ce, rfl, he1, he2, he3⟩⟩ := h
  have hi0 : m.i.length ≤ 1048576 := hs.i
  have hh0 : m.h.length ≤ 1048576 := hs.h
  have he0 : m.e.length ≤ 1048576 := hs.e
  have HS : Hid (SmallM m) := hs
  clear hs hi1 hi2 hh1 hh2 he1 he2
  clear hi3 hh3 he3 hi0 hh0 he0
  obtain ⟨W0, hW0⟩ : ∃ W0, w.alloc (.cells #[.int .i64 m.n, .int .i64 m.s, .slice ai m.i.length ci, .slice ah m.h.length ch, .slice ae m.e.length ce, .int .i64 m.z] 33) = W0 := ⟨_, rfl⟩
  have HB0 : Hid (Below w.heap.size w W0) := by rw [← hW0]; exact (Below.refl _ w).alloc (Nat.le_refl _) _
  have HP0 : Hid (Bk W0 w.heap.size 33 #[.int .i64 m.n, .int .i64 m.s, .slice ai m.i.length ci, .slice ah m.h.length ch, .slice ae m.e.length ce, .int .i64 m.z]) := by rw [← hW0]; exact Bk.new w _ _
  have p0 := HP0.out.cell (i := 0) rfl
  have p1 := HP0.out.cell (i := 1) rfl
  have p2 := HP0.out.cell (i := 2) rfl
  have p3 := HP0.out.cell (i := 3) rfl
  have p4 := HP0.out.cell (i := 4) rfl
  have p5 := HP0.out.cell (i := 5) rfl
  have HOK : Hid (m.ok = ((decide (1 ≤ m.n) && decide (m.n ≤ 4)) && ((decide (0 ≤ m.s) && decide (m.s ≤ 65535)) && ((decide (0 ≤ m.z) && decide (m.z ≤ 950)) && ((decide ((m.i.length : Int) = m.n) && m.okI) && ((decide (1 ≤ m.h.length ∧ m.h.length ≤ 4) && m.okH) && (decide (m.e.length ≤ 6) && m.okE))))))) := ok_parts m
  generalize m.ok = okv at HOK ⊢
  go_enter Tryd.func29, Tryd.ntmps29
  go_wp2_with fail
  clear hW0
  refine (within_any _ _ _ _).mono ?_
  rintro e w2 ⟨rfl, hw⟩
  have hw' := hw.symm
  clear hw
  subst hw'
  cases hA0 : (decide (1 ≤ m.n) && decide (m.n ≤ 4))
  case false =>
    have hno : okv = false := by rw [HOK.out, hA0]; simp
    subst hno
    clear hA0
    go_wp2
    go_ret
    exact ⟨rfl, HB0.out⟩
  have HA0 : Hid ((decide (1 ≤ m.n) && decide (m.n ≤ 4)) = true) := hA0
  clear hA0
  go_wp2_with fail
  refine (within_any _ _ _ _).mono ?_
  rintro e w2 ⟨rfl, hw⟩
  have hw' := hw.symm
  clear hw
  subst hw'
  cases hA1 : (decide (0 ≤ m.s) && decide (m.s ≤ 65535))
  case false =>
    have hno : okv = false := by rw [HOK.out, hA1]; simp
    subst hno
    clear hA1
    go_wp2
    go_ret
    exact ⟨rfl, HB0.out⟩
  have HA1 : Hid ((decide (0 ≤ m.s) && decide (m.s ≤ 65535)) = true) := hA1
  clear hA1
  go_wp2_with fail
  refine (within_any _ _ _ _).mono ?_
  rintro e w2 ⟨rfl, hw⟩
  have hw' := hw.symm
  clear hw
  subst hw'
  cases hA2 : (decide (0 ≤ m.z) && decide (m.z ≤ 950))
  case false =>
    have hno : okv = false := by rw [HOK.out, hA2]; simp
    subst hno
    clear hA2
    go_wp2
    go_ret
    exact ⟨rfl, HB0.out⟩
  have HA2 : Hid ((decide (0 ≤ m.z) && decide (m.z ≤ 950)) = true) := hA2
  clear hA2
  go_wp2_with fail
  refine (initOk_any _ m _ HS.out (HX.out.below HB0.out)).mono ?_
  rintro e w3 ⟨rfl, hb⟩
  have HB3 : Hid (Below w.heap.size w w3) := HB0.out.trans (hb.mono HB0.out.size)
  have HP3 : Hid (Bk w3 w.heap.size 33 #[.int .i64 m.n, .int .i64 m.s, .slice ai m.i.length ci, .slice ah m.h.length ch, .slice ae m.e.length ce, .int .i64 m.z]) := HP0.out.below hb
  clear hb HB0 HP0 p0 p1 p2 p3 p4 p5
  have p0 := HP3.out.cell (i := 0) rfl
  have p1 := HP3.out.cell (i := 1) rfl
  have p2 := HP3.out.cell (i := 2) rfl
  have p3 := HP3.out.cell (i := 3) rfl
  have p4 := HP3.out.cell (i := 4) rfl
  have p5 := HP3.out.cell (i := 5) rfl
  cases hA3 : (decide ((m.i.length : Int) = m.n) && m.okI)
  case false =>
    have hno : okv = false := by rw [HOK.out, hA3]; simp
    subst hno
    clear hA3
    go_wp2
    go_ret
    exact ⟨rfl, HB3.out⟩
  have HA3 : Hid ((decide ((m.i.length : Int) = m.n) && m.okI) = true) := hA3
  clear hA3
  go_wp2_with fail
  refine (handlersOk_any _ m _ HS.out (HX.out.below HB3.out)).mono ?_
  rintro e w4 ⟨rfl, hb⟩
  have HB4 : Hid (Below w.heap.size w w4) := HB3.out.trans (hb.mono HB3.out.size)
  have HP4 : Hid (Bk w4 w.heap.size 33 #[.int .i64 m.n, .int .i64 m.s, .slice ai m.i.length ci, .slice ah m.h.length ch, .slice ae m.e.length ce, .int .i64 m.z]) := HP3.out.below hb
  clear hb HB3 HP3 p0 p1 p2 p3 p4 p5
  have p0 := HP4.out.cell (i := 0) rfl
  have p1 := HP4.out.cell (i := 1) rfl
  have p2 := HP4.out.cell (i := 2) rfl
  have p3 := HP4.out.cell (i := 3) rfl
  have p4 := HP4.out.cell (i := 4) rfl
  have p5 := HP4.out.cell (i := 5) rfl
  cases hA4 : (decide (1 ≤ m.h.length ∧ m.h.length ≤ 4) && m.okH)
  case false =>
    have hno : okv = false := by rw [HOK.out, hA4]; simp
    subst hno
    clear hA4
    go_wp2
    go_ret
    exact ⟨rfl, HB4.out⟩
  have HA4 : Hid ((decide (1 ≤ m.h.length ∧ m.h.length ≤ 4) && m.okH) = true) := hA4
  clear hA4
  go_wp2_with fail
  refine (startOk_any _ m _ HS.out (HX.out.below HB4.out)).mono ?_
  rintro e w5 ⟨rfl, hb⟩
  have HB5 : Hid (Below w.heap.size w w5) := HB4.out.trans (hb.mono HB4.out.size)
  have HP5 : Hid (Bk w5 w.heap.size 33 #[.int .i64 m.n, .int .i64 m.s, .slice ai m.i.length ci, .slice ah m.h.length ch, .slice ae m.e.length ce, .int .i64 m.z]) := HP4.out.below hb
  clear hb HB4 HP4 p0 p1 p2 p3 p4 p5
  have hy : okv = (decide (m.e.length ≤ 6) && m.okE) := by rw [HOK.out, HA0.out, HA1.out, HA2.out, HA3.out, HA4.out]; simp
  subst hy
  clear HOK
  go_wp2
  go_ret
  exact ⟨rfl, HB5.out⟩
end Go.Proofs.YtbcdfacbhemijaaDoor

