/- MOkI, MOkJ, MOkM, SOf, CBeg, Rowed, CSt -/
import Derived.Test.YtmpoffepoafblaaGreatHandlesG15
import Derived.Test.YtmpoffepoafblaaGreatHandlesLMOkS
import Derived.Test.YtmpoffepoafblaaGreatHandlesG20
import Derived.Test.YtmpoffepoafblaaGreatHandlesG21
import Derived.Test.YtmpoffepoafblaaGreatHandlesG04
import Derived.Test.YtmpoffepoafblaaGreatHandlesG01
import Derived.Laws.OwnMore
import Derived.WalkSmall
/- The program's ModelOk: its parts. -/
namespace Go.Proofs.YtmpoffepoafblaaGreat
open Go.RowKit
set_option maxRecDepth 100000 in
set_option maxHeartbeats 4000000 in
theorem initOk_any (x : Value) (m : Md) (w : World) (hs : SmallM m) (h : IsM w x m) :
    Calls Tryz.prog 146 #[x] w fun e w' => e = .returned (.bool (decide ((m.i.length : Int) = m.n) && m.okI)) ∧ Below w.heap.size w w' := by
  have HX : Hid (IsM w x m) := h
  obtain ⟨vi, vh, vs, rfl, ⟨ai, ci, rfl, hi1, hi2, hi3⟩, ⟨ah, ch, rfl, hh1, hh2, hh3⟩, ⟨ae, ce, rfl, he1, he2, he3⟩⟩ := h
  have hi0 : m.i.length ≤ 1048576 := hs.i
  have hh0 : m.h.length ≤ 1048576 := hs.h
  have he0 : m.e.length ≤ 1048576 := hs.e
  have HS : Hid (SmallM m) := hs
  clear hs hi1 hi2 hh1 hh2 he1 he2
  clear hh3 he3 HX HS
  obtain ⟨W0, hW0⟩ : ∃ W0, w.alloc (.cells #[.int .i64 m.n, .int .i64 m.s, .slice ai m.i.length ci, .slice ah m.h.length ch, .slice ae m.e.length ce, .int .i64 m.z] 36) = W0 := ⟨_, rfl⟩
  have HB0 : Hid (Below w.heap.size w W0) := by rw [← hW0]; exact (Below.refl _ w).alloc (Nat.le_refl _) _
  have HP0 : Hid (Bk W0 w.heap.size 36 #[.int .i64 m.n, .int .i64 m.s, .slice ai m.i.length ci, .slice ah m.h.length ch, .slice ae m.e.length ce, .int .i64 m.z]) := by rw [← hW0]; exact Bk.new w _ _
  have p0 := HP0.out.cell (i := 0) rfl
  have p2 := HP0.out.cell (i := 2) rfl
  by_cases c0 : (m.i.length : Int) = m.n
  case neg =>
    clear hi3
    go_enter Tryz.func146, Tryz.ntmps146
    go_wp2
    go_ret
    exact ⟨ret_bool (by simp [c0]), HB0.out⟩
  have HI : Hid (m.i = [] ∨ ∃ b off, ai = some ⟨b, off, none⟩ ∧ IntsAt W0 b off m.i) := hi3.imp id (fun ⟨b, off, e, h⟩ => ⟨b, off, e, h.below HB0.out h.1⟩)
  have HOK : Hid (∀ b, m.okI = b → (decide ((m.i.length : Int) = m.n) && m.okI) = b) := fun b e => by rw [e, c0]; simp
  generalize (decide ((m.i.length : Int) = m.n) && m.okI) = okv at HOK ⊢
  clear hi3
  go_enter Tryz.func146, Tryz.ntmps146
  go_wp2
  clear hW0
  have hn0 : m.n ≤ 1048576 := by omega
  have hn1 : 0 ≤ m.n := by omega
  go_loop [14] (fun i => ∃ k : Nat, k ≤ m.i.length ∧ i = .int .i64 k ∧ ∀ j, j < k → inB (intAt m.i j) = true) (fun i => m.i.length - (intOf i).toNat)
  case atStart => exact ⟨0, Nat.zero_le _, rfl, fun j hj => by omega⟩
  case round =>
    obtain ⟨k, hk, rfl, hall⟩ := hrel
    have HA : Hid (∀ j, j < k → inB (intAt m.i j) = true) := hall
    clear hall
    by_cases hlt : k < m.i.length
    · obtain ⟨b, off, rfl, hb, hc⟩ := HI.out.resolve_left (by intro e; rw [e] at hlt; simp at hlt)
      have f0 := hc k hlt
      obtain ⟨y, hy⟩ : ∃ y, y = intAt m.i k := ⟨_, rfl⟩
      have HY : Hid (y = intAt m.i k) := hy
      rw [← hy] at f0
      have hkn : (k : Int) < m.n := by omega
      clear hc hy hb
      go_wp2_with fail
      refine (within_any _ _ _ _).mono ?_
      rintro e w2 ⟨rfl, hw⟩
      have hw' := hw.symm
      clear hw
      subst hw'
      by_cases y0 : 0 ≤ y ∧ y ≤ 999
      · rw [show (decide (0 ≤ y) && decide (y ≤ 999)) = true from by simp [y0]]
        have HN : Hid (inB y = true) := decide_eq_true y0
        clear y0
        go_wp2
        go_round
        case rel => exact ⟨k + 1, by omega, by go_num, fun j hj => by
          by_cases e : j < k
          · exact HA.out j e
          · rw [show j = k by omega, ← HY.out]; exact HN.out⟩
        case measure => simp [intOf]; omega
      · rw [show (decide (0 ≤ y) && decide (y ≤ 999)) = false from by simp; omega]
        have hno : okv = false := HOK.out _ (range_no hlt (by rw [← HY.out]; exact decide_eq_false y0))
        subst hno
        clear y0
        go_wp2
        go_ret
        exact ⟨rfl, HB0.out⟩
    · have hyes : okv = true := HOK.out _ (range_yes (fun j hj => HA.out j (by omega)))
      subst hyes
      have hkn : ¬ (k : Int) < m.n := by omega
      go_wp2
      go_ret
      exact ⟨rfl, HB0.out⟩
def rowAll (m : Md) (r : List O) : Bool := (List.range r.length).all fun q => (oAt r q).ok m.n m.h.length
set_option maxRecDepth 100000 in
set_option maxHeartbeats 4000000 in
theorem opsOk_any (x u : Value) (m : Md) (r : List O) (w : World) (hs : SmallM m) (hr : r.length ≤ 1048576) (h : IsM w x m) (hu : IsO w u r) :
    Calls Tryz.prog 204 #[x, u] w fun e w' => e = .returned (.bool (rowAll m r)) ∧ Below w.heap.size w w' := by
  have HX : Hid (IsM w x m) := h
  obtain ⟨vi, vh, vs, rfl, ⟨ai, ci, rfl, hi1, hi2, hi3⟩, ⟨ah, ch, rfl, hh1, hh2, hh3⟩, ⟨ae, ce, rfl, he1, he2, he3⟩⟩ := h
  have hi0 : m.i.length ≤ 1048576 := hs.i
  have hh0 : m.h.length ≤ 1048576 := hs.h
  have he0 : m.e.length ≤ 1048576 := hs.e
  have HS : Hid (SmallM m) := hs
  clear hs hi1 hi2 hh1 hh2 he1 he2
  clear hi3 hh3 he3 HS hi0 hh0 he0
  obtain ⟨a1, c1, rfl, _, _, hu⟩ := hu
  have HU : Hid (r = [] ∨ ∃ b off, a1 = some ⟨b, off, none⟩ ∧ OsAt w b off r) := hu
  have HOK : Hid (∀ b, ((List.range r.length).all fun q => (oAt r q).ok m.n m.h.length) = b → rowAll m r = b) := fun b e => e
  generalize rowAll m r = okv at HOK ⊢
  clear hu
  go_enter Tryz.func204, Tryz.ntmps204
  go_wp2
  go_loopw [9] (fun i wr => ∃ k : Nat, k ≤ r.length ∧ i = .int .i64 k ∧ (∀ j, j < k → (oAt r j).ok m.n m.h.length = true) ∧ Below w.heap.size w wr ∧ Bk wr w.heap.size 36 #[.int .i64 m.n, .int .i64 m.s, .slice ai m.i.length ci, .slice ah m.h.length ch, .slice ae m.e.length ce, .int .i64 m.z]) (fun i _ => r.length - (intOf i).toNat)
  case atStart => exact ⟨0, Nat.zero_le _, rfl, fun j hj => by omega, (Below.refl _ w).alloc (Nat.le_refl _) _, Bk.new w _ _⟩
  case round =>
    obtain ⟨k, hk, rfl, hall, hB, hP⟩ := hrel
    have HA : Hid (∀ j, j < k → (oAt r j).ok m.n m.h.length = true) := hall
    have HB0 : Hid (Below w.heap.size w wr) := hB
    have HP0 : Hid (Bk wr w.heap.size 36 #[.int .i64 m.n, .int .i64 m.s, .slice ai m.i.length ci, .slice ah m.h.length ch, .slice ae m.e.length ce, .int .i64 m.z]) := hP
    clear hall hP
    by_cases hlt : k < r.length
    · obtain ⟨b, off, rfl, hb, hc⟩ := HU.out.resolve_left (by intro e; rw [e] at hlt; simp at hlt)
      obtain ⟨f0, f1, f2, f3⟩ := (hc k hlt).below hB hb
      clear hB hc
      generalize hev : oAt r k = e at f0 f1 f2 f3
      have HEV : Hid (oAt r k = e) := hev
      obtain ⟨c, a, b2, k2⟩ := e
      clear hev
      obtain ⟨V, hV⟩ : ∃ V, wr.alloc (.cells #[.int .i64 c, .int .i64 a, .int .i64 b2, .int .i64 k2] 181) = V := ⟨_, rfl⟩
      have hbV : Below wr.heap.size wr V := hV ▸ (Below.refl _ wr).alloc (Nat.le_refl _) _
      have HBV : Hid (Below w.heap.size w V) := HB0.out.trans (hbV.mono HB0.out.size)
      have HPV : Hid (Bk V w.heap.size 36 #[.int .i64 m.n, .int .i64 m.s, .slice ai m.i.length ci, .slice ah m.h.length ch, .slice ae m.e.length ce, .int .i64 m.z]) := HP0.out.below hbV
      have hQV : Bk V wr.heap.size 181 #[.int .i64 c, .int .i64 a, .int .i64 b2, .int .i64 k2] := hV ▸ Bk.new _ _ _
      have p0 := HPV.out.cell (i := 0) rfl
      have p1 := HPV.out.cell (i := 1) rfl
      have p2 := HPV.out.cell (i := 2) rfl
      have p3 := HPV.out.cell (i := 3) rfl
      have p4 := HPV.out.cell (i := 4) rfl
      have p5 := HPV.out.cell (i := 5) rfl
      have e0 := hQV.cell (i := 0) rfl
      have e1 := hQV.cell (i := 1) rfl
      have e2 := hQV.cell (i := 2) rfl
      have e3 := hQV.cell (i := 3) rfl
      clear hbV hQV HB0 HP0
      go_wp2_with fail
      clear f0 f1 f2 f3 e0 e1 e2 e3 p0 p1 p2 p3 p4 p5 hV
      refine (iOpM _ m _ _ _ _ _ (HX.out.below HBV.out)).mono ?_
      rintro e w2 ⟨rfl, hb2⟩
      have HB2 : Hid (Below w.heap.size w w2) := HBV.out.trans (hb2.mono HBV.out.size)
      have HP2 : Hid (Bk w2 w.heap.size 36 #[.int .i64 m.n, .int .i64 m.s, .slice ai m.i.length ci, .slice ah m.h.length ch, .slice ae m.e.length ce, .int .i64 m.z]) := HPV.out.below hb2
      clear hb2 HBV HPV
      cases hv : okO m.n (m.h.length : Int) c a b2 k2
      · have hno : okv = false := HOK.out _ (range_no hlt (by rw [HEV.out]; exact hv))
        subst hno
        clear hv
        go_wp2
        go_ret
        exact ⟨rfl, HB2.out⟩
      · have HV : Hid (okO m.n (m.h.length : Int) c a b2 k2 = true) := hv
        clear hv
        go_wp2
        go_roundw
        case rel => exact ⟨k + 1, by omega, by go_num, fun j hj => by
          by_cases e : j < k
          · exact HA.out j e
          · rw [show j = k by omega, HEV.out]; exact HV.out, HB2.out, HP2.out⟩
        case measure => simp [intOf]; omega
    · have hyes : okv = true := HOK.out _ (range_yes (fun j hj => HA.out j (by omega)))
      subst hyes
      clear hB
      go_wp2
      go_ret
      exact ⟨rfl, HB0.out⟩
set_option maxRecDepth 100000 in
set_option maxHeartbeats 4000000 in
theorem handlersOk_any (x : Value) (m : Md) (w : World) (hs : SmallM m) (h : IsM w x m) :
    Calls Tryz.prog 147 #[x] w fun e w' => e = .returned (.bool (decide (1 ≤ m.h.length ∧ m.h.length ≤ 4) && m.okH)) ∧ Below w.heap.size w w' := by
  have HX : Hid (IsM w x m) := h
  obtain ⟨vi, vh, vs, rfl, ⟨ai, ci, rfl, hi1, hi2, hi3⟩, ⟨ah, ch, rfl, hh1, hh2, hh3⟩, ⟨ae, ce, rfl, he1, he2, he3⟩⟩ := h
  have hi0 : m.i.length ≤ 1048576 := hs.i
  have hh0 : m.h.length ≤ 1048576 := hs.h
  have he0 : m.e.length ≤ 1048576 := hs.e
  have HS : Hid (SmallM m) := hs
  clear hs hi1 hi2 hh1 hh2 he1 he2
  clear hi3 he3
  have HH : Hid (m.h = [] ∨ ∃ b off, ah = some ⟨b, off, none⟩ ∧ b < w.heap.size ∧ ∀ i, i < m.h.length → ∃ u, w.cell? ⟨b, off + i, none⟩ = some u ∧ IsO w u (hAt m.h i)) := hh3
  clear hh3
  obtain ⟨W0, hW0⟩ : ∃ W0, w.alloc (.cells #[.int .i64 m.n, .int .i64 m.s, .slice ai m.i.length ci, .slice ah m.h.length ch, .slice ae m.e.length ce, .int .i64 m.z] 36) = W0 := ⟨_, rfl⟩
  have HB0 : Hid (Below w.heap.size w W0) := by rw [← hW0]; exact (Below.refl _ w).alloc (Nat.le_refl _) _
  have HP0 : Hid (Bk W0 w.heap.size 36 #[.int .i64 m.n, .int .i64 m.s, .slice ai m.i.length ci, .slice ah m.h.length ch, .slice ae m.e.length ce, .int .i64 m.z]) := by rw [← hW0]; exact Bk.new w _ _
  have p0 := HP0.out.cell (i := 0) rfl
  have p1 := HP0.out.cell (i := 1) rfl
  have p2 := HP0.out.cell (i := 2) rfl
  have p3 := HP0.out.cell (i := 3) rfl
  have p4 := HP0.out.cell (i := 4) rfl
  have p5 := HP0.out.cell (i := 5) rfl
  by_cases c0 : 1 ≤ m.h.length ∧ m.h.length ≤ 4
  case neg =>
    have d0 : (decide ((1 : Int) ≤ (m.h.length : Int)) && decide ((m.h.length : Int) ≤ 4)) = false := by simp; omega
    have HC : Hid (¬ (1 ≤ m.h.length ∧ m.h.length ≤ 4)) := c0
    clear c0
    go_enter Tryz.func147, Tryz.ntmps147
    go_wp2_with fail
    refine (within_any _ _ _ _).mono ?_
    rintro e w2 ⟨rfl, hw⟩
    have hw' := hw.symm
    clear hw
    subst hw'
    rw [d0]
    clear d0
    go_wp2
    go_ret
    exact ⟨ret_bool (by rw [decide_eq_false HC.out]; rfl), HB0.out⟩
  have d0 : (decide ((1 : Int) ≤ (m.h.length : Int)) && decide ((m.h.length : Int) ≤ 4)) = true := by simp; omega
  have HOK : Hid (∀ b, m.okH = b → (decide (1 ≤ m.h.length ∧ m.h.length ≤ 4) && m.okH) = b) := fun b e => by rw [e, decide_eq_true c0]; simp
  generalize (decide (1 ≤ m.h.length ∧ m.h.length ≤ 4) && m.okH) = okv at HOK ⊢
  clear c0
  go_enter Tryz.func147, Tryz.ntmps147
  go_wp2_with fail
  refine (within_any _ _ _ _).mono ?_
  rintro e w2 ⟨rfl, hw⟩
  have hw' := hw.symm
  clear hw
  subst hw'
  rw [d0]
  clear d0
  go_wp2
  clear hW0 p0 p1 p2 p3 p4 p5
  go_loopw [13] (fun i wr => ∃ k : Nat, k ≤ m.h.length ∧ i = .int .i64 k ∧ (∀ j, j < k → rowB m (hAt m.h j) = true) ∧ Below w.heap.size w wr ∧ Bk wr w.heap.size 36 #[.int .i64 m.n, .int .i64 m.s, .slice ai m.i.length ci, .slice ah m.h.length ch, .slice ae m.e.length ce, .int .i64 m.z]) (fun i _ => m.h.length - (intOf i).toNat)
  case atStart => exact ⟨0, Nat.zero_le _, rfl, fun j hj => by omega, HB0.out, HP0.out⟩
  case round =>
    clear HB0 HP0
    obtain ⟨k, hk, rfl, hall, hB, hP⟩ := hrel
    have HA : Hid (∀ j, j < k → rowB m (hAt m.h j) = true) := hall
    have HB0 : Hid (Below w.heap.size w wr) := hB
    have HP0 : Hid (Bk wr w.heap.size 36 #[.int .i64 m.n, .int .i64 m.s, .slice ai m.i.length ci, .slice ah m.h.length ch, .slice ae m.e.length ce, .int .i64 m.z]) := hP
    clear hall hP
    have p0 := HP0.out.cell (i := 0) rfl
    have p1 := HP0.out.cell (i := 1) rfl
    have p2 := HP0.out.cell (i := 2) rfl
    have p3 := HP0.out.cell (i := 3) rfl
    have p4 := HP0.out.cell (i := 4) rfl
    have p5 := HP0.out.cell (i := 5) rfl
    by_cases hlt : k < m.h.length
    · obtain ⟨b, off, rfl, hb, hc⟩ := HH.out.resolve_left (by intro e; rw [e] at hlt; simp at hlt)
      obtain ⟨u, f0, hu⟩ := hc k hlt
      replace f0 := (hB.cell (p := ⟨b, off + k, none⟩) hb).trans f0
      have HL : Hid ((hAt m.h k).length ≤ 1048576) := HS.out.r k
      have HU : Hid (IsO w u (hAt m.h k)) := hu
      obtain ⟨a1, c1, rfl, _, _, _⟩ := hu
      clear hB hc
      by_cases h8 : 8 < ((hAt m.h k).length : Int)
      · have hno : okv = false := HOK.out _ (range_no hlt (by simp [rowB]; omega))
        subst hno
        go_wp2
        go_ret
        exact ⟨rfl, HB0.out⟩
      · have HROW : Hid (∀ b, rowAll m (hAt m.h k) = b → rowB m (hAt m.h k) = b) := fun b e => by
          have : decide ((hAt m.h k).length ≤ 8) = true := by simp; omega
          unfold rowB
          rw [this, Bool.true_and]
          exact e
        go_wp2_with fail
        refine (opsOk_any _ _ m (hAt m.h k) _ HS.out HL.out (HX.out.below HB0.out) (HU.out.below HB0.out)).mono ?_
        rintro e w2 ⟨rfl, hb2⟩
        have HB2 : Hid (Below w.heap.size w w2) := HB0.out.trans (hb2.mono HB0.out.size)
        have HP2 : Hid (Bk w2 w.heap.size 36 #[.int .i64 m.n, .int .i64 m.s, .slice ai m.i.length ci, .slice (some ⟨b, off, none⟩) m.h.length ch, .slice ae m.e.length ce, .int .i64 m.z]) := HP0.out.below hb2
        clear hb2 HB0 HP0 f0 p0 p1 p2 p3 p4 p5
        cases hv : rowAll m (hAt m.h k)
        · have hno : okv = false := HOK.out _ (range_no hlt (HROW.out _ hv))
          subst hno
          clear hv
          go_wp2
          go_ret
          exact ⟨rfl, HB2.out⟩
        · have HV : Hid (rowB m (hAt m.h k) = true) := HROW.out _ hv
          clear hv
          go_wp2
          go_roundw
          case rel => exact ⟨k + 1, by omega, by go_num, fun j hj => by
            by_cases e : j < k
            · exact HA.out j e
            · rw [show j = k by omega]; exact HV.out, HB2.out, HP2.out⟩
          case measure => simp [intOf]; omega
    · have hyes : okv = true := HOK.out _ (range_yes (fun j hj => HA.out j (by omega)))
      subst hyes
      clear hB
      go_wp2
      go_ret
      exact ⟨rfl, HB0.out⟩
end Go.Proofs.YtmpoffepoafblaaGreat

/- The program's ModelOk: the events that begin it. -/
namespace Go.Proofs.YtmpoffepoafblaaGreat
open Go.RowKit
def fitB (m : Md) (t d kk : Int) : Bool := decide (0 ≤ d ∧ d < m.n ∧ 0 ≤ kk ∧ kk < (m.h.length : Int) ∧ t ≤ m.z)
set_option maxRecDepth 100000 in
set_option maxHeartbeats 4000000 in
theorem fits_any (x : Value) (m : Md) (t s1 qq d kk v g : Int) (w : World) (h : IsM w x m) :
    Calls Tryz.prog 86 #[x, .agg #[.int .i64 t, .int .i64 s1, .int .i64 qq, .int .i64 d, .int .i64 kk, .int .i64 v, .int .i64 g]] w fun e w' => e = .returned (.bool (fitB m t d kk)) ∧ Below w.heap.size w w' := by
  obtain ⟨vi, vh, vs, rfl, ⟨ai, ci, rfl, hi1, hi2, hi3⟩, ⟨ah, ch, rfl, hh1, hh2, hh3⟩, ⟨ae, ce, rfl, he1, he2, he3⟩⟩ := h
  clear hi1 hi2 hh1 hh2 he1 he2 hi3 hh3 he3
  go_enter Tryz.func86, Tryz.ntmps86
  go_wp2_with (go_at_call 159; refine (place_any _ _ _).mono ?_; rintro e w2 ⟨rfl, hw⟩; have hw' := hw.symm; clear hw; subst hw')
  all_goals
    go_ret
    refine ⟨?_, ((Below.refl _ _).alloc (Nat.le_refl _) _).alloc (by simp) _⟩
    first | exact ret_bool (by unfold fitB; rw [Bool.eq_iff_iff]; (try simp only [Bool.and_eq_true]); simp only [decide_eq_true_eq]; omega) | exact ret_bool (by unfold fitB; simp; omega) | exact ret_bool (by unfold fitB; simp [*])
def begB (place s1 qq g : Int) : Bool := decide (s1 = -1 ∧ qq = place ∧ g = place)
set_option maxRecDepth 100000 in
set_option maxHeartbeats 4000000 in
theorem isStart_any (place t s1 qq d kk v g : Int) (w : World) :
    Calls Tryz.prog 205 #[.agg #[.int .i64 t, .int .i64 s1, .int .i64 qq, .int .i64 d, .int .i64 kk, .int .i64 v, .int .i64 g], .int .i64 place] w fun e w' => e = .returned (.bool (begB place s1 qq g)) ∧ Below w.heap.size w w' := by
  by_cases c0 : s1 = -1
  · by_cases c1 : qq = place
    · by_cases c2 : g = place
      all_goals
        go_enter Tryz.func205, Tryz.ntmps205
        go_wp2
        go_ret
        exact ⟨ret_bool (by simp [begB, *]), (Below.refl _ _).alloc (Nat.le_refl _) _⟩
    · go_enter Tryz.func205, Tryz.ntmps205
      go_wp2
      go_ret
      exact ⟨ret_bool (by simp [begB, *]), (Below.refl _ _).alloc (Nat.le_refl _) _⟩
  · go_enter Tryz.func205, Tryz.ntmps205
    go_wp2
    go_ret
    exact ⟨ret_bool (by simp [begB, *]), (Below.refl _ _).alloc (Nat.le_refl _) _⟩
theorem stB_parts (m : Md) (k : Nat) (t s1 qq d kk v g : Int) : stB m k ⟨t, s1, qq, d, kk, v, g⟩ = (okB t s1 qq d kk v g && (fitB m t d kk && begB (k : Int) s1 qq g)) := by
  unfold stB Ev.ok fitB begB okB
  rw [Bool.eq_iff_iff]
  simp only [Bool.and_eq_true, decide_eq_true_eq]
  omega
set_option maxRecDepth 100000 in
set_option maxHeartbeats 4000000 in
theorem startOk_any (x : Value) (m : Md) (w : World) (hs : SmallM m) (h : IsM w x m) :
    Calls Tryz.prog 148 #[x] w fun e w' => e = .returned (.bool (decide (m.e.length ≤ 6) && m.okE)) ∧ Below w.heap.size w w' := by
  have HX : Hid (IsM w x m) := h
  obtain ⟨vi, vh, vs, rfl, ⟨ai, ci, rfl, hi1, hi2, hi3⟩, ⟨ah, ch, rfl, hh1, hh2, hh3⟩, ⟨ae, ce, rfl, he1, he2, he3⟩⟩ := h
  have hi0 : m.i.length ≤ 1048576 := hs.i
  have hh0 : m.h.length ≤ 1048576 := hs.h
  have he0 : m.e.length ≤ 1048576 := hs.e
  have HS : Hid (SmallM m) := hs
  clear hs hi1 hi2 hh1 hh2 he1 he2
  clear hi3 hh3
  have HE : Hid (m.e = [] ∨ ∃ b off, ae = some ⟨b, off, none⟩ ∧ EvsAt w b off m.e) := he3
  clear he3
  obtain ⟨W0, hW0⟩ : ∃ W0, w.alloc (.cells #[.int .i64 m.n, .int .i64 m.s, .slice ai m.i.length ci, .slice ah m.h.length ch, .slice ae m.e.length ce, .int .i64 m.z] 36) = W0 := ⟨_, rfl⟩
  have HB0 : Hid (Below w.heap.size w W0) := by rw [← hW0]; exact (Below.refl _ w).alloc (Nat.le_refl _) _
  have HP0 : Hid (Bk W0 w.heap.size 36 #[.int .i64 m.n, .int .i64 m.s, .slice ai m.i.length ci, .slice ah m.h.length ch, .slice ae m.e.length ce, .int .i64 m.z]) := by rw [← hW0]; exact Bk.new w _ _
  have p0 := HP0.out.cell (i := 0) rfl
  have p1 := HP0.out.cell (i := 1) rfl
  have p2 := HP0.out.cell (i := 2) rfl
  have p3 := HP0.out.cell (i := 3) rfl
  have p4 := HP0.out.cell (i := 4) rfl
  have p5 := HP0.out.cell (i := 5) rfl
  by_cases c0 : 6 < (m.e.length : Int)
  case pos =>
    go_enter Tryz.func148, Tryz.ntmps148
    go_wp2
    go_ret
    exact ⟨ret_bool (by rw [decide_eq_false (by omega)]; rfl), HB0.out⟩
  have HOK : Hid (∀ b, m.okE = b → (decide (m.e.length ≤ 6) && m.okE) = b) := fun b e => by rw [e, decide_eq_true (by omega)]; simp
  generalize (decide (m.e.length ≤ 6) && m.okE) = okv at HOK ⊢
  go_enter Tryz.func148, Tryz.ntmps148
  go_wp2
  clear hW0 p0 p1 p2 p3 p4 p5
  go_loopw [12] (fun i wr => ∃ k : Nat, k ≤ m.e.length ∧ i = .int .i64 k ∧ (∀ j, j < k → stB m j (evAt m.e j) = true) ∧ Below w.heap.size w wr ∧ Bk wr w.heap.size 36 #[.int .i64 m.n, .int .i64 m.s, .slice ai m.i.length ci, .slice ah m.h.length ch, .slice ae m.e.length ce, .int .i64 m.z]) (fun i _ => m.e.length - (intOf i).toNat)
  case atStart => exact ⟨0, Nat.zero_le _, rfl, fun j hj => by omega, HB0.out, HP0.out⟩
  case round =>
    clear HB0 HP0
    obtain ⟨k, hk, rfl, hall, hB, hP⟩ := hrel
    have HA : Hid (∀ j, j < k → stB m j (evAt m.e j) = true) := hall
    have HB0 : Hid (Below w.heap.size w wr) := hB
    have HP0 : Hid (Bk wr w.heap.size 36 #[.int .i64 m.n, .int .i64 m.s, .slice ai m.i.length ci, .slice ah m.h.length ch, .slice ae m.e.length ce, .int .i64 m.z]) := hP
    clear hall hP
    by_cases hlt : k < m.e.length
    · obtain ⟨b, off, rfl, hb, hc⟩ := HE.out.resolve_left (by intro e; rw [e] at hlt; simp at hlt)
      obtain ⟨f0, f1, f2, f3, f4, f5, f6⟩ := (hc k hlt).below hB hb
      clear hB hc
      generalize hev : evAt m.e k = e at f0 f1 f2 f3 f4 f5 f6
      have HEV : Hid (evAt m.e k = e) := hev
      obtain ⟨t, s1, qq, d, kk, v, g⟩ := e
      clear hev
      obtain ⟨V, hV⟩ : ∃ V, wr.alloc (.cells #[.int .i64 t, .int .i64 s1, .int .i64 qq, .int .i64 d, .int .i64 kk, .int .i64 v, .int .i64 g] 50) = V := ⟨_, rfl⟩
      have hbV : Below wr.heap.size wr V := hV ▸ (Below.refl _ wr).alloc (Nat.le_refl _) _
      have HBV : Hid (Below w.heap.size w V) := HB0.out.trans (hbV.mono HB0.out.size)
      have HPV : Hid (Bk V w.heap.size 36 #[.int .i64 m.n, .int .i64 m.s, .slice ai m.i.length ci, .slice ah m.h.length ch, .slice (some ⟨b, off, none⟩) m.e.length ce, .int .i64 m.z]) := HP0.out.below hbV
      have HQV : Hid (Bk V wr.heap.size 50 #[.int .i64 t, .int .i64 s1, .int .i64 qq, .int .i64 d, .int .i64 kk, .int .i64 v, .int .i64 g]) := hV ▸ Bk.new _ _ _
      have p0 := HPV.out.cell (i := 0) rfl
      have p1 := HPV.out.cell (i := 1) rfl
      have p2 := HPV.out.cell (i := 2) rfl
      have p3 := HPV.out.cell (i := 3) rfl
      have p4 := HPV.out.cell (i := 4) rfl
      have p5 := HPV.out.cell (i := 5) rfl
      have e0 := HQV.out.cell (i := 0) rfl
      have e1 := HQV.out.cell (i := 1) rfl
      have e2 := HQV.out.cell (i := 2) rfl
      have e3 := HQV.out.cell (i := 3) rfl
      have e4 := HQV.out.cell (i := 4) rfl
      have e5 := HQV.out.cell (i := 5) rfl
      have e6 := HQV.out.cell (i := 6) rfl
      clear hbV HB0 HP0
      go_wp2_with fail
      clear f0 f1 f2 f3 f4 f5 f6 e0 e1 e2 e3 e4 e5 e6 p0 p1 p2 p3 p4 p5 hV
      refine (iOk_any _ _ _ _ _ _ _ _).mono ?_
      rintro e w2 ⟨rfl, hb2⟩
      have HB2 : Hid (Below w.heap.size w w2) := HBV.out.trans (hb2.mono HBV.out.size)
      have HP2 : Hid (Bk w2 w.heap.size 36 #[.int .i64 m.n, .int .i64 m.s, .slice ai m.i.length ci, .slice ah m.h.length ch, .slice (some ⟨b, off, none⟩) m.e.length ce, .int .i64 m.z]) := HPV.out.below hb2
      have HQ2 : Hid (Bk w2 wr.heap.size 50 #[.int .i64 t, .int .i64 s1, .int .i64 qq, .int .i64 d, .int .i64 kk, .int .i64 v, .int .i64 g]) := HQV.out.below hb2
      clear hb2 HBV HPV HQV
      have HST : Hid (stB m k (evAt m.e k) = (okB t s1 qq d kk v g && (fitB m t d kk && begB (k : Int) s1 qq g))) := HEV.out ▸ stB_parts m k t s1 qq d kk v g
      cases hokb : okB t s1 qq d kk v g
      · have hno := HOK.out _ (range_no hlt (by rw [HST.out, hokb]; rfl))
        subst hno
        clear hokb
        have p0 := HP2.out.cell (i := 0) rfl
        have p1 := HP2.out.cell (i := 1) rfl
        have p2 := HP2.out.cell (i := 2) rfl
        have p3 := HP2.out.cell (i := 3) rfl
        have p4 := HP2.out.cell (i := 4) rfl
        have p5 := HP2.out.cell (i := 5) rfl
        have e0 := HQ2.out.cell (i := 0) rfl
        have e1 := HQ2.out.cell (i := 1) rfl
        have e2 := HQ2.out.cell (i := 2) rfl
        have e3 := HQ2.out.cell (i := 3) rfl
        have e4 := HQ2.out.cell (i := 4) rfl
        have e5 := HQ2.out.cell (i := 5) rfl
        have e6 := HQ2.out.cell (i := 6) rfl
        go_wp2
        go_ret
        exact ⟨rfl, HB2.out⟩
      · have HOB : Hid (okB t s1 qq d kk v g = true) := hokb
        clear hokb
        have p0 := HP2.out.cell (i := 0) rfl
        have p1 := HP2.out.cell (i := 1) rfl
        have p2 := HP2.out.cell (i := 2) rfl
        have p3 := HP2.out.cell (i := 3) rfl
        have p4 := HP2.out.cell (i := 4) rfl
        have p5 := HP2.out.cell (i := 5) rfl
        have e0 := HQ2.out.cell (i := 0) rfl
        have e1 := HQ2.out.cell (i := 1) rfl
        have e2 := HQ2.out.cell (i := 2) rfl
        have e3 := HQ2.out.cell (i := 3) rfl
        have e4 := HQ2.out.cell (i := 4) rfl
        have e5 := HQ2.out.cell (i := 5) rfl
        have e6 := HQ2.out.cell (i := 6) rfl
        go_wp2_with fail
        clear e0 e1 e2 e3 e4 e5 e6 p0 p1 p2 p3 p4 p5
        refine (fits_any _ m _ _ _ _ _ _ _ _ (HX.out.below HB2.out)).mono ?_
        rintro e w3 ⟨rfl, hb3⟩
        have HB3 : Hid (Below w.heap.size w w3) := HB2.out.trans (hb3.mono HB2.out.size)
        have HP3 : Hid (Bk w3 w.heap.size 36 #[.int .i64 m.n, .int .i64 m.s, .slice ai m.i.length ci, .slice ah m.h.length ch, .slice (some ⟨b, off, none⟩) m.e.length ce, .int .i64 m.z]) := HP2.out.below hb3
        have HQ3 : Hid (Bk w3 wr.heap.size 50 #[.int .i64 t, .int .i64 s1, .int .i64 qq, .int .i64 d, .int .i64 kk, .int .i64 v, .int .i64 g]) := HQ2.out.below hb3
        clear hb3 HB2 HP2 HQ2
        cases hfit : fitB m t d kk
        · have hno := HOK.out _ (range_no hlt (by rw [HST.out, hfit]; simp))
          subst hno
          clear hfit
          have e0 := HQ3.out.cell (i := 0) rfl
          have e1 := HQ3.out.cell (i := 1) rfl
          have e2 := HQ3.out.cell (i := 2) rfl
          have e3 := HQ3.out.cell (i := 3) rfl
          have e4 := HQ3.out.cell (i := 4) rfl
          have e5 := HQ3.out.cell (i := 5) rfl
          have e6 := HQ3.out.cell (i := 6) rfl
          go_wp2
          go_ret
          exact ⟨rfl, HB3.out⟩
        · have HFI : Hid (fitB m t d kk = true) := hfit
          clear hfit
          have e0 := HQ3.out.cell (i := 0) rfl
          have e1 := HQ3.out.cell (i := 1) rfl
          have e2 := HQ3.out.cell (i := 2) rfl
          have e3 := HQ3.out.cell (i := 3) rfl
          have e4 := HQ3.out.cell (i := 4) rfl
          have e5 := HQ3.out.cell (i := 5) rfl
          have e6 := HQ3.out.cell (i := 6) rfl
          go_wp2_with fail
          clear e0 e1 e2 e3 e4 e5 e6
          refine (isStart_any _ _ _ _ _ _ _ _ _).mono ?_
          rintro e w4 ⟨rfl, hb4⟩
          have HB4 : Hid (Below w.heap.size w w4) := HB3.out.trans (hb4.mono HB3.out.size)
          have HP4 : Hid (Bk w4 w.heap.size 36 #[.int .i64 m.n, .int .i64 m.s, .slice ai m.i.length ci, .slice ah m.h.length ch, .slice (some ⟨b, off, none⟩) m.e.length ce, .int .i64 m.z]) := HP3.out.below hb4
          clear hb4 HB3 HP3 HQ3
          cases hbeg : begB (k : Int) s1 qq g
          · have hno := HOK.out _ (range_no hlt (by rw [HST.out, hbeg]; simp))
            subst hno
            clear hbeg
            go_wp2
            go_ret
            exact ⟨rfl, HB4.out⟩
          · have HV : Hid (stB m k (evAt m.e k) = true) := by rw [HST.out, HOB.out, HFI.out, hbeg]; rfl
            clear hbeg
            go_wp2
            go_roundw
            case rel => exact ⟨k + 1, by omega, by go_num, fun j hj => by
              by_cases e : j < k
              · exact HA.out j e
              · rw [show j = k by omega]; exact HV.out, HB4.out, HP4.out⟩
            case measure => simp [intOf]; omega
    · have hyes : okv = true := HOK.out _ (range_yes (fun j hj => HA.out j (by omega)))
      subst hyes
      clear hB
      go_wp2
      go_ret
      exact ⟨rfl, HB0.out⟩
end Go.Proofs.YtmpoffepoafblaaGreat

/- The program's ModelOk. -/
namespace Go.Proofs.YtmpoffepoafblaaGreat
open Go.RowKit
theorem ok_parts (m : Md) : m.ok = ((decide (1 ≤ m.n) && decide (m.n ≤ 4)) && ((decide (0 ≤ m.s) && decide (m.s ≤ 65535)) && ((decide (0 ≤ m.z) && decide (m.z ≤ 950)) && ((decide ((m.i.length : Int) = m.n) && m.okI) && ((decide (1 ≤ m.h.length ∧ m.h.length ≤ 4) && m.okH) && (decide (m.e.length ≤ 6) && m.okE)))))) := by
  unfold Md.ok
  rw [Bool.eq_iff_iff]
  simp only [Bool.and_eq_true, decide_eq_true_eq]
  unfold Md.hd
  constructor
  · rintro ⟨⟨⟨⟨h1, h2, h3, h4, h5, h6, h7, h8, h9, h10⟩, hi⟩, hh⟩, he⟩
    exact ⟨⟨h1, h2⟩, ⟨h3, h4⟩, ⟨h9, h10⟩, ⟨h5, hi⟩, ⟨⟨h6, h7⟩, hh⟩, h8, he⟩
  · rintro ⟨⟨h1, h2⟩, ⟨h3, h4⟩, ⟨h9, h10⟩, ⟨h5, hi⟩, ⟨⟨h6, h7⟩, hh⟩, h8, he⟩
    exact ⟨⟨⟨⟨h1, h2, h3, h4, h5, h6, h7, h8, h9, h10⟩, hi⟩, hh⟩, he⟩
set_option maxRecDepth 100000 in
set_option maxHeartbeats 8000000 in
theorem iModM (x : Value) (m : Md) (w : World) (hs : SmallM m) (h : IsM w x m) :
    Calls Tryz.prog 67 #[x] w fun e w' => e = .returned (.bool m.ok) ∧ Below w.heap.size w w' := by
  have HX : Hid (IsM w x m) := h
  obtain ⟨vi, vh, vs, rfl, ⟨ai, ci, rfl, hi1, hi2, hi3⟩, ⟨ah, ch, rfl, hh1, hh2, hh3⟩, ⟨ae, ce, rfl, he1, he2, he3⟩⟩ := h
  have hi0 : m.i.length ≤ 1048576 := hs.i
  have hh0 : m.h.length ≤ 1048576 := hs.h
  have he0 : m.e.length ≤ 1048576 := hs.e
  have HS : Hid (SmallM m) := hs
  clear hs hi1 hi2 hh1 hh2 he1 he2
  clear hi3 hh3 he3 hi0 hh0 he0
  obtain ⟨W0, hW0⟩ : ∃ W0, w.alloc (.cells #[.int .i64 m.n, .int .i64 m.s, .slice ai m.i.length ci, .slice ah m.h.length ch, .slice ae m.e.length ce, .int .i64 m.z] 36) = W0 := ⟨_, rfl⟩
  have HB0 : Hid (Below w.heap.size w W0) := by rw [← hW0]; exact (Below.refl _ w).alloc (Nat.le_refl _) _
  have HP0 : Hid (Bk W0 w.heap.size 36 #[.int .i64 m.n, .int .i64 m.s, .slice ai m.i.length ci, .slice ah m.h.length ch, .slice ae m.e.length ce, .int .i64 m.z]) := by rw [← hW0]; exact Bk.new w _ _
  have p0 := HP0.out.cell (i := 0) rfl
  have p1 := HP0.out.cell (i := 1) rfl
  have p2 := HP0.out.cell (i := 2) rfl
  have p3 := HP0.out.cell (i := 3) rfl
  have p4 := HP0.out.cell (i := 4) rfl
  have p5 := HP0.out.cell (i := 5) rfl
  have HOK : Hid (m.ok = ((decide (1 ≤ m.n) && decide (m.n ≤ 4)) && ((decide (0 ≤ m.s) && decide (m.s ≤ 65535)) && ((decide (0 ≤ m.z) && decide (m.z ≤ 950)) && ((decide ((m.i.length : Int) = m.n) && m.okI) && ((decide (1 ≤ m.h.length ∧ m.h.length ≤ 4) && m.okH) && (decide (m.e.length ≤ 6) && m.okE))))))) := ok_parts m
  generalize m.ok = okv at HOK ⊢
  go_enter Tryz.func67, Tryz.ntmps67
  go_wp2_with fail
  clear hW0
  refine (within_any _ _ _ _).mono ?_
  rintro e w2 ⟨rfl, hw⟩
  have hw' := hw.symm
  clear hw
  subst hw'
  cases hA0 : (decide (1 ≤ m.n) && decide (m.n ≤ 4))
  case false =>
    have hno : okv = false := by rw [HOK.out, hA0]; simp
    subst hno
    clear hA0
    go_wp2
    go_ret
    exact ⟨rfl, HB0.out⟩
  have HA0 : Hid ((decide (1 ≤ m.n) && decide (m.n ≤ 4)) = true) := hA0
  clear hA0
  go_wp2_with fail
  refine (within_any _ _ _ _).mono ?_
  rintro e w2 ⟨rfl, hw⟩
  have hw' := hw.symm
  clear hw
  subst hw'
  cases hA1 : (decide (0 ≤ m.s) && decide (m.s ≤ 65535))
  case false =>
    have hno : okv = false := by rw [HOK.out, hA1]; simp
    subst hno
    clear hA1
    go_wp2
    go_ret
    exact ⟨rfl, HB0.out⟩
  have HA1 : Hid ((decide (0 ≤ m.s) && decide (m.s ≤ 65535)) = true) := hA1
  clear hA1
  go_wp2_with fail
  refine (within_any _ _ _ _).mono ?_
  rintro e w2 ⟨rfl, hw⟩
  have hw' := hw.symm
  clear hw
  subst hw'
  cases hA2 : (decide (0 ≤ m.z) && decide (m.z ≤ 950))
  case false =>
    have hno : okv = false := by rw [HOK.out, hA2]; simp
    subst hno
    clear hA2
    go_wp2
    go_ret
    exact ⟨rfl, HB0.out⟩
  have HA2 : Hid ((decide (0 ≤ m.z) && decide (m.z ≤ 950)) = true) := hA2
  clear hA2
  go_wp2_with fail
  refine (initOk_any _ m _ HS.out (HX.out.below HB0.out)).mono ?_
  rintro e w3 ⟨rfl, hb⟩
  have HB3 : Hid (Below w.heap.size w w3) := HB0.out.trans (hb.mono HB0.out.size)
  have HP3 : Hid (Bk w3 w.heap.size 36 #[.int .i64 m.n, .int .i64 m.s, .slice ai m.i.length ci, .slice ah m.h.length ch, .slice ae m.e.length ce, .int .i64 m.z]) := HP0.out.below hb
  clear hb HB0 HP0 p0 p1 p2 p3 p4 p5
  have p0 := HP3.out.cell (i := 0) rfl
  have p1 := HP3.out.cell (i := 1) rfl
  have p2 := HP3.out.cell (i := 2) rfl
  have p3 := HP3.out.cell (i := 3) rfl
  have p4 := HP3.out.cell (i := 4) rfl
  have p5 := HP3.out.cell (i := 5) rfl
  cases hA3 : (decide ((m.i.length : Int) = m.n) && m.okI)
  case false =>
    have hno : okv = false := by rw [HOK.out, hA3]; simp
    subst hno
    clear hA3
    go_wp2
    go_ret
    exact ⟨rfl, HB3.out⟩
  have HA3 : Hid ((decide ((m.i.length : Int) = m.n) && m.okI) = true) := hA3
  clear hA3
  go_wp2_with fail
  refine (handlersOk_any _ m _ HS.out (HX.out.below HB3.out)).mono ?_
  rintro e w4 ⟨rfl, hb⟩
  have HB4 : Hid (Below w.heap.size w w4) := HB3.out.trans (hb.mono HB3.out.size)
  have HP4 : Hid (Bk w4 w.heap.size 36 #[.int .i64 m.n, .int .i64 m.s, .slice ai m.i.length ci, .slice ah m.h.length ch, .slice ae m.e.length ce, .int .i64 m.z]) := HP3.out.below hb
  clear hb HB3 HP3 p0 p1 p2 p3 p4 p5
  have p0 := HP4.out.cell (i := 0) rfl
  have p1 := HP4.out.cell (i := 1) rfl
  have p2 := HP4.out.cell (i := 2) rfl
  have p3 := HP4.out.cell (i := 3) rfl
  have p4 := HP4.out.cell (i := 4) rfl
  have p5 := HP4.out.cell (i := 5) rfl
  cases hA4 : (decide (1 ≤ m.h.length ∧ m.h.length ≤ 4) && m.okH)
  case false =>
    have hno : okv = false := by rw [HOK.out, hA4]; simp
    subst hno
    clear hA4
    go_wp2
    go_ret
    exact ⟨rfl, HB4.out⟩
  have HA4 : Hid ((decide (1 ≤ m.h.length ∧ m.h.length ≤ 4) && m.okH) = true) := hA4
  clear hA4
  go_wp2_with fail
  refine (startOk_any _ m _ HS.out (HX.out.below HB4.out)).mono ?_
  rintro e w5 ⟨rfl, hb⟩
  have HB5 : Hid (Below w.heap.size w w5) := HB4.out.trans (hb.mono HB4.out.size)
  have HP5 : Hid (Bk w5 w.heap.size 36 #[.int .i64 m.n, .int .i64 m.s, .slice ai m.i.length ci, .slice ah m.h.length ch, .slice ae m.e.length ce, .int .i64 m.z]) := HP4.out.below hb
  clear hb HB4 HP4 p0 p1 p2 p3 p4 p5
  have hy : okv = (decide (m.e.length ≤ 6) && m.okE) := by rw [HOK.out, HA0.out, HA1.out, HA2.out, HA3.out, HA4.out]; simp
  subst hy
  clear HOK
  go_wp2
  go_ret
  exact ⟨rfl, HB5.out⟩
end Go.Proofs.YtmpoffepoafblaaGreat

/- Both StateOf. -/
namespace Go.Proofs.YtmpoffepoafblaaGreat
open Go.RowKit
def isPart (m : Md) (lp : Int) : Bool := decide (0 ≤ lp) && decide (lp < m.n)
def firstS (m : Md) (lp : Int) : St := ⟨[intAt m.i lp.toNat, 0], 0, 0⟩
def zeroS : St := ⟨[], 0, 0⟩
def stateOfR (m : Md) (lp : Int) : St := if (m.ok && isPart m lp) = true then firstS m lp else zeroS
theorem ok_init {m : Md} (h : m.ok = true) : (m.i.length : Int) = m.n := by
  simp only [Md.ok, Bool.and_eq_true, decide_eq_true_eq] at h
  exact h.1.1.1.2.2.2.2.1
theorem Bk.rowF {w : World} {P : Nat} {l : List Int} (hl : l.length ≤ maxLen) (h : Bk w P 3 (intCells l).toArray) : RowF (fun k => k = P) w (sl P l.length) l.length 1 (intCells l) := by
  refine ⟨by simp [intCells], _, _, rfl, Nat.le_refl _, hl, .inr ⟨P, rfl, rfl, h.lt, fun j hj => ⟨?_, h.free j⟩⟩⟩
  have hj' : j < (intCells l).length := by simp [intCells]; omega
  rw [h.cell (i := j) (v := (intCells l)[j]) (by simp [hj'])]
  simp [hj']
theorem made2 {w1 : World} {B C : Nat} (h : w1.ownsRow C 3 1 (.slice (some ⟨B, 0, none⟩) 2 2) 2 (madeCells (Value.int .i64 0).cells (2 * 1)).toList) : Bk w1 B 3 #[.int .i64 0, .int .i64 0] := by
  obtain ⟨hl, h | ⟨g, cap, cur, e, hg, hc, h1, h2, h3, h4⟩⟩ := h
  · simp at h
  · simp at e
    obtain ⟨rfl, rfl⟩ := e
    have h5 : cur.toList = (madeCells (Value.int .i64 0).cells (2 * 1)).toList := by
      rw [← h4, List.take_of_length_le (by simp; omega)]
    have h6 : (madeCells (Value.int .i64 0).cells (2 * 1)).toList = [.int .i64 0, .int .i64 0] := by kernel_rfl
    rw [h6] at h5
    unfold Bk
    rw [hc, show cur = #[.int .i64 0, .int .i64 0] from Array.toList_inj.1 h5]
set_option maxRecDepth 100000 in
set_option maxHeartbeats 4000000 in
theorem sBegin (x : Value) (m : Md) (lp : Nat) (w : World) (hlp : lp < m.i.length) (h : IsM w x m) :
    Calls Tryz.prog 141 #[x, .int .i64 lp] w fun e w' => ∃ y, e = .returned y ∧ Below w.heap.size w w' ∧ StF (fun k => w.heap.size ≤ k ∧ k < w'.heap.size) w' y ⟨[intAt m.i lp, 0], 0, 0⟩ := by
  obtain ⟨vi, vh, vs, rfl, ⟨ai, ci, rfl, hi1, hi2, hi3⟩, ⟨ah, ch, rfl, _⟩, ⟨ae, ce, rfl, _⟩⟩ := h
  obtain ⟨b, off, rfl, hb, hc⟩ := hi3.resolve_left (by intro e; rw [e] at hlp; simp at hlp)
  have f0 := hc lp hlp
  clear hc hi3
  go_enter Tryz.func141, Tryz.ntmps141
  go_wp2
  generalize intAt m.i lp = y
  obtain ⟨X, hX⟩ : ∃ X, (((w.alloc (.cells #[.int .i64 m.n, .int .i64 m.s, .slice (some ⟨b, off, none⟩) m.i.length ci, .slice ah m.h.length ch, .slice ae m.e.length ce, .int .i64 m.z] 36)).alloc (.cells #[sl (w.heap.size + 1 + 1) 2, .int .i64 0, .int .i64 0] 48)).alloc (.cells #[.int .i64 y, .int .i64 0] 3)) = X := ⟨_, rfl⟩
  have hR : Bk X (w.heap.size + 1) 48 #[sl (w.heap.size + 1 + 1) 2, .int .i64 0, .int .i64 0] := by rw [← hX]; exact (Bk.newAt (by simp) _ _).alloc _
  have hN : Bk X (w.heap.size + 1 + 1) 3 #[.int .i64 y, .int .i64 0] := by rw [← hX]; exact Bk.newAt (by simp) _ _
  have hB : Below w.heap.size w X := by rw [← hX]; exact (((Below.refl _ w).alloc (Nat.le_refl _) _).alloc (by simp) _).alloc (by simp; omega) _
  rw [hX]
  have t0 := hR.cell (i := 0) rfl
  have t1 := hR.cell (i := 1) rfl
  have t2 := hR.cell (i := 2) rfl
  refine bodyPost_ret (v := .agg #[sl (w.heap.size + 1 + 1) 2, .int .i64 0, .int .i64 0]) (by simp [results, Tryz.results141, go_sem, t0, t1, t2]) rfl ⟨_, rfl, hB, _, rfl, ?_⟩
  have hlt := hN.lt
  exact (Bk.rowF (l := [y, 0]) (by unfold maxLen; simp) hN).mono (fun k e => by omega)
set_option maxRecDepth 100000 in
set_option maxHeartbeats 4000000 in
theorem iBegin (x : Value) (m : Md) (lp : Nat) (w : World) (hlp : lp < m.i.length) (h : IsM w x m) :
    Calls Tryz.prog 150 #[x, .int .i64 lp] w fun e w' => ∃ y, e = .returned y ∧ Below w.heap.size w w' ∧ StF (fun k => w.heap.size ≤ k ∧ k < w'.heap.size) w' y ⟨[intAt m.i lp, 0], 0, 0⟩ := by
  obtain ⟨i0, hi, hz0, hz1, hz2⟩ := info_parts info3
  obtain ⟨vi, vh, vs, rfl, ⟨ai, ci, rfl, hi1, hi2, hi3⟩, ⟨ah, ch, rfl, _⟩, ⟨ae, ce, rfl, _⟩⟩ := h
  obtain ⟨b, off, rfl, hb, hc⟩ := hi3.resolve_left (by intro e; rw [e] at hlp; simp at hlp)
  have f0 := hc lp hlp
  clear hc hi3
  generalize intAt m.i lp = y at f0 ⊢
  obtain ⟨W0, hW0⟩ : ∃ W0, (w.alloc (.cells #[.int .i64 m.n, .int .i64 m.s, .slice (some ⟨b, off, none⟩) m.i.length ci, .slice ah m.h.length ch, .slice ae m.e.length ce, .int .i64 m.z] 36)).alloc (.cells #[.slice none 0 0, .int .i64 0, .int .i64 0] 48) = W0 := ⟨_, rfl⟩
  have HP0 : Hid (Bk W0 w.heap.size 36 #[.int .i64 m.n, .int .i64 m.s, .slice (some ⟨b, off, none⟩) m.i.length ci, .slice ah m.h.length ch, .slice ae m.e.length ce, .int .i64 m.z]) := by rw [← hW0]; exact (Bk.new _ _ _).alloc _
  have HR0 : Hid (Bk W0 (w.heap.size + 1) 48 #[.slice none 0 0, .int .i64 0, .int .i64 0]) := by rw [← hW0]; exact Bk.newAt (by simp) _ _
  have HB0 : Hid (Below w.heap.size w W0) := by rw [← hW0]; exact ((Below.refl _ w).alloc (Nat.le_refl _) _).alloc (by simp) _
  have hsz : W0.heap.size = w.heap.size + 1 + 1 := by rw [← hW0]; simp
  have HSZ : Hid (W0.heap.size = w.heap.size + 1 + 1) := hsz
  clear hsz
  go_enter Tryz.func150, Tryz.ntmps150
  go_wp2_with (at_make; refine wpList_make_full W0 rfl _ _ 22 rfl W0.heap.size 3 i0 _ 1 Tryz.underlying22 hi hz0 hz1 .i64 .i64 2 2 2 rfl rfl rfl rfl (by rw [hz2]; omega) (by unfold maxLen; omega) (Nat.le_refl _) ?_; intro w1 hown hgrow; have hN1 : Bk w1 W0.heap.size 3 #[.int .i64 0, .int .i64 0] := made2 hown; have hB1 : Below W0.heap.size W0 w1 := (Below.refl _ _).grown hgrow (Nat.le_refl _) (fun k e => by cases e); have hR1 := HR0.out.below hB1; have hP1 := HP0.out.below hB1; have p2 := hP1.cell (i := 2) rfl; have n0 := hN1.cell (i := 0) rfl; have nf := hN1.free; have f1 := (hB1.cell (p := ⟨b, off + lp, none⟩) (by have := HB0.out.size; show b < W0.heap.size; omega)).trans ((HB0.out.cell (p := ⟨b, off + lp, none⟩) hb).trans f0); obtain ⟨X1, hX1⟩ : ∃ X1, w1.setCell ⟨W0.heap.size, 0, none⟩ (.int .i64 y) = X1 := ⟨_, rfl⟩; have hR2 : Bk X1 (w.heap.size + 1) 48 #[.slice none 0 0, .int .i64 0, .int .i64 0] := hX1 ▸ hR1.other 0 _ (by have := HSZ.out; omega); have hN2 : Bk X1 W0.heap.size 3 #[.int .i64 y, .int .i64 0] := hX1 ▸ hN1.put 0 _; have hB2 : Below w.heap.size w X1 := (HB0.out.trans (hB1.mono HB0.out.size)).trans (by rw [← hX1]; exact (Below.refl _ _).setCell (p := ⟨W0.heap.size, 0, none⟩) HB0.out.size _); have r0 := hR2.cell (i := 0) rfl; have r1 := hR2.cell (i := 1) rfl; have r2 := hR2.cell (i := 2) rfl; have rf := hR2.free; have HR2 : Hid (Bk X1 (w.heap.size + 1) 48 #[.slice none 0 0, .int .i64 0, .int .i64 0]) := hR2; have HN2 : Hid (Bk X1 W0.heap.size 3 #[.int .i64 y, .int .i64 0]) := hN2; have HB2 : Hid (Below w.heap.size w X1) := hB2; clear hR1 hP1 hN1 hB1 hR2 hN2 hB2 hown hgrow)
  clear r0 r1 r2 rf p2 n0 nf f1 f0
  obtain ⟨X5, hX5⟩ : ∃ X5, put3 X1 (w.heap.size + 1) (sl W0.heap.size 2) (.int .i64 0) (.int .i64 0) = X5 := ⟨_, rfl⟩
  have hR := HR2.out.put3 (sl W0.heap.size 2) (.int .i64 0) (.int .i64 0)
  have ht := put3_turns X1 (w.heap.size + 1) (sl W0.heap.size 2) (.int .i64 0) (.int .i64 0)
  rw [hX5] at hR ht
  unfold put3 at hX5
  rw [hX5]
  have t0 := hR.cell (i := 0) rfl
  have t1 := hR.cell (i := 1) rfl
  have t2 := hR.cell (i := 2) rfl
  have hs1 := HB0.out.size
  have hs2 := HB2.out.size
  have hs3 := HSZ.out
  have hs4 := ht.size
  have hs5 := HN2.out.lt
  refine bodyPost_ret (v := .agg #[sl W0.heap.size 2, .int .i64 0, .int .i64 0]) (by simp [results, Tryz.results150, go_sem, t0, t1, t2]) rfl ⟨_, rfl, HB2.out.trans (ht.to_below (fun k e => by omega) (by omega)), _, rfl, ?_⟩
  exact ((Bk.rowF (l := [y, 0]) (by unfold maxLen; simp) HN2.out).turns ht (fun k e => by omega)).mono (fun k e => by omega)
set_option maxRecDepth 100000 in
set_option maxHeartbeats 4000000 in
theorem iStateOf (x : Value) (m : Md) (lp : Int) (w : World) (hs : SmallM m) (h : IsM w x m) :
    Calls Tryz.prog 101 #[x, .int .i64 lp] w fun e w' => ∃ y, e = .returned (.tuple #[y, .bool (m.ok && isPart m lp)]) ∧ Below w.heap.size w w' ∧ StF (fun k => w.heap.size ≤ k ∧ k < w'.heap.size) w' y (stateOfR m lp) := by
  have HX : Hid (IsM w x m) := h
  have HS : Hid (SmallM m) := hs
  obtain ⟨vi, vh, vs, rfl, ⟨ai, ci, rfl, _⟩, ⟨ah, ch, rfl, _⟩, ⟨ae, ce, rfl, _⟩⟩ := h
  obtain ⟨W0, hW0⟩ : ∃ W0, (w.alloc (.cells #[.int .i64 m.n, .int .i64 m.s, .slice ai m.i.length ci, .slice ah m.h.length ch, .slice ae m.e.length ce, .int .i64 m.z] 36)).alloc (.cells #[.slice none 0 0, .int .i64 0, .int .i64 0] 48) = W0 := ⟨_, rfl⟩
  have HP0 : Hid (Bk W0 w.heap.size 36 #[.int .i64 m.n, .int .i64 m.s, .slice ai m.i.length ci, .slice ah m.h.length ch, .slice ae m.e.length ce, .int .i64 m.z]) := by rw [← hW0]; exact (Bk.new _ _ _).alloc _
  have HR0 : Hid (Bk W0 (w.heap.size + 1) 48 #[.slice none 0 0, .int .i64 0, .int .i64 0]) := by rw [← hW0]; exact Bk.newAt (by simp) _ _
  have HB0 : Hid (Below w.heap.size w W0) := by rw [← hW0]; exact ((Below.refl _ w).alloc (Nat.le_refl _) _).alloc (by simp) _
  have p0 := HP0.out.cell (i := 0) rfl
  have p1 := HP0.out.cell (i := 1) rfl
  have p2 := HP0.out.cell (i := 2) rfl
  have p3 := HP0.out.cell (i := 3) rfl
  have p4 := HP0.out.cell (i := 4) rfl
  have p5 := HP0.out.cell (i := 5) rfl
  clear hs
  go_enter Tryz.func101, Tryz.ntmps101
  go_wp2_with fail
  clear hW0 p0 p1 p2 p3 p4 p5
  refine (iModM _ m _ HS.out (HX.out.below HB0.out)).mono ?_
  rintro e w1 ⟨rfl, hb⟩
  have HB1 : Hid (Below w.heap.size w w1) := HB0.out.trans (hb.mono HB0.out.size)
  have HP1 : Hid (Bk w1 w.heap.size 36 #[.int .i64 m.n, .int .i64 m.s, .slice ai m.i.length ci, .slice ah m.h.length ch, .slice ae m.e.length ce, .int .i64 m.z]) := HP0.out.below hb
  have HR1 : Hid (Bk w1 (w.heap.size + 1) 48 #[.slice none 0 0, .int .i64 0, .int .i64 0]) := HR0.out.below hb
  have HX1 : Hid (IsM w1 (.agg #[.int .i64 m.n, .int .i64 m.s, .slice ai m.i.length ci, .slice ah m.h.length ch, .slice ae m.e.length ce, .int .i64 m.z]) m) := HX.out.below HB1.out
  have r0 := HR1.out.cell (i := 0) rfl
  have r1 := HR1.out.cell (i := 1) rfl
  have r2 := HR1.out.cell (i := 2) rfl
  have rf := HR1.out.free
  clear hb HB0 HP0 HR0 HX
  cases hok : m.ok with
  | false =>
    have HOK : Hid (m.ok = false) := hok
    clear hok
    go_wp2
    clear r0 r1 r2 rf
    obtain ⟨X5, hX5⟩ : ∃ X5, put3 w1 (w.heap.size + 1) (.slice none 0 0) (.int .i64 0) (.int .i64 0) = X5 := ⟨_, rfl⟩
    have hR := HR1.out.put3 (.slice none 0 0) (.int .i64 0) (.int .i64 0)
    have ht := put3_turns w1 (w.heap.size + 1) (.slice none 0 0) (.int .i64 0) (.int .i64 0)
    rw [hX5] at hR ht
    unfold put3 at hX5
    rw [hX5]
    have t0 := hR.cell (i := 0) rfl
    have t1 := hR.cell (i := 1) rfl
    have t2 := hR.cell (i := 2) rfl
    have hno : (m.ok && isPart m lp) = false := by rw [HOK.out]; rfl
    refine bodyPost_ret (v := .tuple #[.agg #[.slice none 0 0, .int .i64 0, .int .i64 0], .bool false]) (by simp [results, Tryz.results101, go_sem, t0, t1, t2]) rfl ⟨_, by rw [hno], HB1.out.trans (ht.to_below (fun k e => by omega) HB1.out.size), ?_⟩
    rw [show stateOfR m lp = zeroS from by simp [stateOfR, hno]]
    exact ⟨_, rfl, rfl, none, 0, rfl, Nat.le_refl _, by unfold maxLen; omega, .inl rfl⟩
  | true =>
    have HOK : Hid (m.ok = true) := hok
    clear hok
    have p0 := HP1.out.cell (i := 0) rfl
    have p1 := HP1.out.cell (i := 1) rfl
    have p2 := HP1.out.cell (i := 2) rfl
    have p3 := HP1.out.cell (i := 3) rfl
    have p4 := HP1.out.cell (i := 4) rfl
    have p5 := HP1.out.cell (i := 5) rfl
    go_wp2_with fail
    clear p0 p1 p2 p3 p4 p5
    refine (place_any _ _ _).mono ?_
    rintro e w2 ⟨rfl, hw⟩
    have hw' := hw.symm
    clear hw
    subst hw'
    by_cases c0 : 0 ≤ lp ∧ lp < m.n
    case neg =>
      have HN : Hid ((m.ok && isPart m lp) = false) := (by rw [HOK.out]; simp [isPart]; omega : (m.ok && isPart m lp) = false)
      rw [show (decide (0 ≤ lp) && decide (lp < m.n)) = false from by simp; omega]
      go_wp2
      clear r0 r1 r2 rf
      obtain ⟨X5, hX5⟩ : ∃ X5, put3 w1 (w.heap.size + 1) (.slice none 0 0) (.int .i64 0) (.int .i64 0) = X5 := ⟨_, rfl⟩
      have hR := HR1.out.put3 (.slice none 0 0) (.int .i64 0) (.int .i64 0)
      have ht := put3_turns w1 (w.heap.size + 1) (.slice none 0 0) (.int .i64 0) (.int .i64 0)
      rw [hX5] at hR ht
      unfold put3 at hX5
      rw [hX5]
      have t0 := hR.cell (i := 0) rfl
      have t1 := hR.cell (i := 1) rfl
      have t2 := hR.cell (i := 2) rfl
      have hno : (m.ok && isPart m lp) = false := HN.out
      refine bodyPost_ret (v := .tuple #[.agg #[.slice none 0 0, .int .i64 0, .int .i64 0], .bool false]) (by simp [results, Tryz.results101, go_sem, t0, t1, t2]) rfl ⟨_, by rw [hno], HB1.out.trans (ht.to_below (fun k e => by omega) HB1.out.size), ?_⟩
      rw [show stateOfR m lp = zeroS from by simp [stateOfR, hno]]
      exact ⟨_, rfl, rfl, none, 0, rfl, Nat.le_refl _, by unfold maxLen; omega, .inl rfl⟩
    case pos =>
      rw [show (decide (0 ≤ lp) && decide (lp < m.n)) = true from by simp; omega]
      have p0 := HP1.out.cell (i := 0) rfl
      have p1 := HP1.out.cell (i := 1) rfl
      have p2 := HP1.out.cell (i := 2) rfl
      have p3 := HP1.out.cell (i := 3) rfl
      have p4 := HP1.out.cell (i := 4) rfl
      have p5 := HP1.out.cell (i := 5) rfl
      go_wp2_with fail
      clear p0 p1 p2 p3 p4 p5
      clear r0 r1 r2 rf
      obtain ⟨k, rfl⟩ : ∃ k : Nat, lp = (k : Int) := ⟨lp.toNat, by omega⟩
      have hk : k < m.i.length := by have := ok_init HOK.out; omega
      refine (iBegin _ m k _ hk (HX1.out)).mono ?_
      rintro e w3 ⟨y, rfl, hb, hy⟩
      have hR2 := HR1.out.below hb
      have r0 := hR2.cell (i := 0) rfl
      have r1 := hR2.cell (i := 1) rfl
      have r2 := hR2.cell (i := 2) rfl
      have rf := hR2.free
      have HB3 : Hid (Below w.heap.size w w3) := HB1.out.trans (hb.mono HB1.out.size)
      have HR3 : Hid (Bk w3 (w.heap.size + 1) 48 #[.slice none 0 0, .int .i64 0, .int .i64 0]) := hR2
      have HY : Hid (StF (fun k => w1.heap.size ≤ k ∧ k < w3.heap.size) w3 y ⟨[intAt m.i k, 0], 0, 0⟩) := hy
      have hlt := HR1.out.lt
      obtain ⟨ay, cy, rfl⟩ := hy.form
      clear hb hR2 hy
      go_wp2
      clear r0 r1 r2 rf
      obtain ⟨X5, hX5⟩ : ∃ X5, put3 w3 (w.heap.size + 1) (.slice ay 2 cy) (.int .i64 0) (.int .i64 0) = X5 := ⟨_, rfl⟩
      have hR := HR3.out.put3 (.slice ay 2 cy) (.int .i64 0) (.int .i64 0)
      have ht := put3_turns w3 (w.heap.size + 1) (.slice ay 2 cy) (.int .i64 0) (.int .i64 0)
      rw [hX5] at hR ht
      unfold put3 at hX5
      rw [hX5]
      have t0 := hR.cell (i := 0) rfl
      have t1 := hR.cell (i := 1) rfl
      have t2 := hR.cell (i := 2) rfl
      have hyes : (m.ok && isPart m k) = true := by simp [HOK.out, isPart]; omega
      have hs1 := HB1.out.size
      have hs2 := ht.size
      have hs3 := HB3.out.size
      refine bodyPost_ret (v := .tuple #[.agg #[.slice ay 2 cy, .int .i64 0, .int .i64 0], .bool true]) (by simp [results, Tryz.results101, go_sem, t0, t1, t2]) rfl ⟨_, by rw [hyes], HB3.out.trans (ht.to_below (fun k e => by omega) HB3.out.size), ?_⟩
      rw [show stateOfR m k = ⟨[intAt m.i k, 0], 0, 0⟩ from by rw [stateOfR, hyes]; simp [firstS]]
      exact (HY.out.turns ht (fun j e => by omega)).mono (fun j e => by omega)
end Go.Proofs.YtmpoffepoafblaaGreat

/- How a course begins. -/
namespace Go.Proofs.YtmpoffepoafblaaGreat
open Go.RowKit
def bares (l : List Ev) : List Ev := l.map Ev.bare
theorem bares_length (l : List Ev) : (bares l).length = l.length := by simp [bares]
theorem bares_at (l : List Ev) (i : Nat) (h : i < l.length) : evAt (bares l) i = (evAt l i).bare := by
  simp [evAt, bares, h]
theorem bares_same {l : List Ev} (h : ∀ i, i < l.length → (evAt l i).g = 0) : bares l = l := by
  refine ext_ev (bares_length l) fun j hj => ?_
  rw [bares_length] at hj
  rw [bares_at _ _ hj]
  have := h j hj
  generalize evAt l j = e at this ⊢
  cases e
  simp only [Ev.bare, Ev.mk.injEq, true_and]
  exact this.symm
def firsts (m : Md) (n : Nat) : List St := (List.range n).map fun j : Nat => firstS m (j : Int)
theorem firsts_length (m : Md) (n : Nat) : (firsts m n).length = n := by simp [firsts]
theorem firsts_at (m : Md) (n j : Nat) (h : j < n) : stAt (firsts m n) j = firstS m (j : Int) := by simp [firsts, stAt, h]
theorem firsts_snoc (m : Md) (n : Nat) : firsts m (n + 1) = firsts m n ++ [firstS m (n : Int)] := by simp [firsts, List.range_succ]
/- The start, in order: as it stands in the specification, each one goes in. -/
def startO : List Ev → List Ev → List Ev
  | t, [] => t
  | t, e :: l => startO (insO t e.bare) l
theorem startO_snoc : ∀ (l t : List Ev) (e : Ev), startO t (l ++ [e]) = insO (startO t l) e.bare
  | [], t, e => rfl
  | x :: l, t, e => by
    show startO _ (l ++ [e]) = _
    rw [startO_snoc l]
    rfl
theorem startO_plan (z : Int) : ∀ (l t : List Ev), (∀ i, i < l.length → (evAt l i).t ≤ z) → startO t l = planO z t (bares l)
  | [], t, _ => rfl
  | e :: l, t, h => by
    have h0 := h 0 (by simp)
    rw [evAt_head] at h0
    have hr : ∀ i, i < l.length → (evAt l i).t ≤ z := fun i hi => by
      have := h (i + 1) (by simpa using hi)
      rwa [evAt_cons] at this
    show startO (insO t e.bare) l = planO z (if e.bare.t ≤ z then insO t e.bare else t) (bares l)
    rw [if_pos (show e.bare.t ≤ z from h0)]
    exact startO_plan z l _ hr
theorem startO_length : ∀ (l t : List Ev), (startO t l).length = t.length + l.length
  | [], t => by simp [startO]
  | e :: l, t => by
    have := startO_length l (insO t e.bare)
    rw [insO_length] at this
    simp only [startO, List.length_cons]
    omega
def begC (m : Md) : Co := ⟨startO [] m.e, firsts m m.n.toNat, [], []⟩
def begH (m : Md) : Co := ⟨planH m.z [] (bares m.e), firsts m m.n.toNat, [], []⟩
theorem ok_start {m : Md} (h : m.ok = true) {j : Nat} (hj : j < m.e.length) : (evAt m.e j).ok = true ∧ (evAt m.e j).s = -1 ∧ (evAt m.e j).q = (j : Int) ∧ (evAt m.e j).d < m.n ∧ (evAt m.e j).k < (m.h.length : Int) ∧ (evAt m.e j).t ≤ m.z := by
  simp only [Md.ok, Bool.and_eq_true, Md.okE, List.all_eq_true] at h
  have h1 := h.2 j (by simpa using hj)
  simp only [stB, Bool.and_eq_true, decide_eq_true_eq] at h1
  exact ⟨h1.1, h1.2.1, h1.2.2.1, h1.2.2.2.2.1, h1.2.2.2.2.2.1, h1.2.2.2.2.2.2⟩
theorem ok_inits {m : Md} (h : m.ok = true) {j : Nat} (hj : j < m.i.length) : 0 ≤ intAt m.i j ∧ intAt m.i j ≤ 999 := by
  simp only [Md.ok, Bool.and_eq_true, Md.okI, List.all_eq_true] at h
  have h1 := h.1.1.2 j (by simpa using hj)
  simpa [inB] using h1
theorem ok_len6 {m : Md} (h : m.ok = true) : m.e.length ≤ 6 := by
  simp only [Md.ok, Bool.and_eq_true] at h
  have hd : m.hd := of_decide_eq_true h.1.1.1
  exact hd.2.2.2.2.2.2.2.1
theorem bare_ok {e : Ev} (h : e.ok = true) : e.bare.ok = true := by
  simp only [Ev.ok, okB, decide_eq_true_eq] at h
  obtain ⟨h1, h2, h3, h4, h5, h6, h7, h8, h9, h10, h11, h12, _⟩ := h
  show okB e.t e.s e.q e.d e.k e.v 0 = true
  unfold okB
  exact decide_eq_true ⟨h1, h2, h3, h4, h5, h6, h7, h8, h9, h10, h11, h12, by omega, by omega⟩
theorem beg_alike {m : Md} (h : m.ok = true) : Alike (begH m).td (begC m).td := by
  show Alike (planH m.z [] (bares m.e)) (startO [] m.e)
  rw [startO_plan m.z m.e [] fun i hi => (ok_start h hi).2.2.2.2.2]
  refine plan_alike (d := -1) _ 0 _ _ alike_nil (fun x hx => ?_) fun i hi => ?_
  · obtain ⟨j, hj, _⟩ := hx
    simp at hj
  · rw [bares_length] at hi
    rw [bares_at _ _ hi]
    have := ok_start h hi
    exact ⟨this.2.1, by show (evAt m.e i).q = _; rw [this.2.2.1]; omega⟩
theorem beg_inv {m : Md} (h : m.ok = true) : Inv m (begC m) := by
  obtain ⟨_, _, hn0, hn1, _, _, _⟩ := ok_seed h
  have hi := ok_init h
  refine ⟨?_, fun j hj => ?_, fun x hx => ?_, ?_, Nat.le_refl _, Nat.zero_le _⟩
  · show ((firsts m m.n.toNat).length : Int) = m.n
    rw [firsts_length]; omega
  · have hj' : j < m.n.toNat := by have := firsts_length m m.n.toNat; have hjj : j < (firsts m m.n.toNat).length := hj; omega
    show (stAt (firsts m m.n.toNat) j).ok = true ∧ (stAt (firsts m m.n.toNat) j).q ≤ 8 * (0 : Int) ∧ (stAt (firsts m m.n.toNat) j).d ≤ 8 * (0 : Int)
    rw [firsts_at _ _ _ hj']
    have := ok_inits h (j := j) (by omega)
    refine ⟨?_, by simp [firstS], by simp [firstS]⟩
    have e0 : intAt (firstS m (j : Int)).r 0 = intAt m.i j := by simp [firstS, intAt]
    have e1 : intAt (firstS m (j : Int)).r 1 = 0 := by simp [firstS, intAt]
    simp only [St.ok, decide_eq_true_eq, e0, e1]
    exact ⟨rfl, this, ⟨by omega, by omega⟩, by simp [firstS], by simp [firstS], by simp [firstS], by simp [firstS]⟩
  · have hx' : InL x (startO [] m.e) := hx
    rw [startO_plan m.z m.e [] fun i hi => (ok_start h hi).2.2.2.2.2] at hx'
    rcases inL_planO hx' with ⟨j, hj, _⟩ | ⟨⟨j, hj, hje⟩, hz⟩
    · simp at hj
    · rw [bares_length] at hj
      rw [bares_at _ _ hj] at hje
      have ho := ok_start h hj
      subst hje
      exact ⟨bare_ok ho.1, rfl, ho.2.2.2.1, ho.2.2.2.2.1, hz, .inl ho.2.1⟩
  · show (startO [] m.e).length ≤ 6 + 8 * 0
    rw [startO_length]
    have := ok_len6 h
    simp
    omega
/- What a model comes to, up to z. -/
def seqR (m : Md) (v : List Int) (z : Int) : Hi := seqG (·.drop 1) (planO m.z) m v z 151 (begC m)
theorem seqR_heap {m : Md} {c0 c1 c2 c3 : Int} (hm : m.ok = true) (hv : ∀ a : Int, -1 ≤ vecAt c0 c1 c2 c3 a ∧ vecAt c0 c1 c2 c3 a ≤ 1) (z : Int) :
    seqG (takeL · 0) (planH m.z) m [c0, c1, c2, c3] z 151 (begH m) = seqR m [c0, c1, c2, c3] z :=
  seq_same hm hv 151 (begC m) _ (beg_inv hm) (beg_alike hm)
end Go.Proofs.YtmpoffepoafblaaGreat

/- A row of events of one's own, whose places are written; what turns beside it. -/
namespace Go.Proofs.YtmpoffepoafblaaGreat
open Go.RowKit

def Row (w : World) (B g cap : Nat) (l : List Ev) : Prop := w.ownsRow B 50 7 (.slice (some ⟨g, 0, none⟩) l.length cap) l.length (cellsL l)
theorem cellsL_set : ∀ (l : List Ev) (i : Nat) (e : Ev), i < l.length →
    (((((((cellsL l).set (i * 7) (.int .i64 e.t)).set (i * 7 + 1) (.int .i64 e.s)).set (i * 7 + 2) (.int .i64 e.q)).set (i * 7 + 3) (.int .i64 e.d)).set (i * 7 + 4) (.int .i64 e.k)).set (i * 7 + 5) (.int .i64 e.v)).set (i * 7 + 6) (.int .i64 e.g) = cellsL (l.set i e)
  | [], _, _, h => by simp at h
  | a :: l, 0, e, _ => by simp [cellsL, Ev.cs]
  | a :: l, i + 1, e, h => by
    have ih := cellsL_set l i e (by simpa using h)
    have hk0 : (i + 1) * 7 = i * 7 + 1 + 1 + 1 + 1 + 1 + 1 + 1 := by omega
    simp only [cellsL, Ev.cs, List.cons_append, List.nil_append, List.set_cons_succ, hk0, ih]
theorem Row.put {w : World} {B g cap : Nat} {l : List Ev} (h : Row w B g cap l) {i : Nat} (hi : i < l.length) (e : Ev) : Row (put7 w g (i * 7) e) B g cap (l.set i e) := by
  have h0 := (World.ownsRow.stored h (i * 7) (.int .i64 e.t)).1
  have h1 := (World.ownsRow.stored h0 (i * 7 + 1) (.int .i64 e.s)).1
  have h2 := (World.ownsRow.stored h1 (i * 7 + 2) (.int .i64 e.q)).1
  have h3 := (World.ownsRow.stored h2 (i * 7 + 3) (.int .i64 e.d)).1
  have h4 := (World.ownsRow.stored h3 (i * 7 + 4) (.int .i64 e.k)).1
  have h5 := (World.ownsRow.stored h4 (i * 7 + 5) (.int .i64 e.v)).1
  have h6 := (World.ownsRow.stored h5 (i * 7 + 6) (.int .i64 e.g)).1
  unfold Row
  rw [List.length_set, ← cellsL_set l i e hi]
  exact h6
theorem Row.lt {w : World} {B g cap : Nat} {l : List Ev} (h : Row w B g cap l) : B ≤ g ∧ g < w.heap.size := World.ownsRow.lt h g rfl
theorem Row.caps {w : World} {B g cap : Nat} {l : List Ev} (h : Row w B g cap l) : l.length ≤ cap ∧ cap ≤ maxLen := by
  obtain ⟨_, ⟨h, _⟩ | ⟨g', cap', cur, e, _, _, h1, h2, _⟩⟩ := h
  · cases h
  · cases e; exact ⟨h1, h2⟩
theorem Row.ev {w : World} {B g cap : Nat} {l : List Ev} (h : Row w B g cap l) {i : Nat} (hi : i < l.length) : Ev.In w g (i * 7) (evAt l i) := by
  have hget : ∀ r, r < 7 → w.cell? ⟨g, i * 7 + r, none⟩ = (evAt l i).cs[r]? := fun r hr => by
    rw [World.ownsRow.cellAt h (i * 7 + r) (by omega), cellsL_get l i r hi hr]
  exact ⟨hget 0 (by omega), hget 1 (by omega), hget 2 (by omega), hget 3 (by omega), hget 4 (by omega), hget 5 (by omega), hget 6 (by omega)⟩
theorem Row.frozen {w : World} {B g cap : Nat} {l : List Ev} (h : Row w B g cap l) (j : Nat) : w.frozen? ⟨g, j, none⟩ = false := World.ownsRow.frozenAt h j
theorem Row.evs {w : World} {B g cap : Nat} {l : List Ev} (h : Row w B g cap l) : EvsAt w g 0 l := ⟨h.lt.2, fun i hi => by rw [Nat.zero_add]; exact h.ev hi⟩
theorem Row.same {w w' : World} {B g cap : Nat} {l : List Ev} (h : Row w B g cap l) (hb : w'.heap[g]? = w.heap[g]?) : Row w' B g cap l := by
  obtain ⟨h0, ⟨h, _⟩ | ⟨g', cap', cur, e, hg, hc, h1, h2, h3, h4⟩⟩ := h
  · cases h
  · cases e; exact ⟨h0, .inr ⟨g, cap, cur, rfl, hg, hb.trans hc, h1, h2, h3, h4⟩⟩
theorem Row.below {w w' : World} {B B' g cap : Nat} {l : List Ev} (h : Row w B g cap l) (hb : Below B' w w') (hB : g < B') : Row w' B g cap l := h.same (hb.block g hB)
theorem Row.base {w : World} {B B' g cap : Nat} {l : List Ev} (h : Row w B g cap l) (hB : B' ≤ g) : Row w B' g cap l := by
  obtain ⟨h0, ⟨h, _⟩ | ⟨g', cap', cur, e, hg, hc, h1, h2, h3, h4⟩⟩ := h
  · cases h
  · cases e; exact ⟨h0, .inr ⟨g, cap, cur, rfl, hB, hc, h1, h2, h3, h4⟩⟩
theorem Row.own {w : World} {B g cap : Nat} {l : List Ev} (h : Row w B g cap l) : OwnEvs B w (.slice (some ⟨g, 0, none⟩) l.length cap) l := OwnEvs.of_row h
theorem Row.drew {w : World} {B g cap : Nat} {l : List Ev} (h : Row w B g cap l) : Row w.drew B g cap l := World.ownsRow.drew h
theorem Row.pop {w : World} {B g cap : Nat} {l : List Ev} {e : Ev} (h : Row w B g cap (l ++ [e])) : Row w B g cap l := by
  unfold Row at h
  rw [List.length_append, List.length_singleton, cellsL_append] at h
  exact ownsRow_pop (cellsL_length l) h

/- All blocks but those of S stay as they were. -/
theorem Turns.put {S : Nat → Prop} {a w : World} (h : Turns S a w) {g : Nat} (hg : S g) (o : Nat) (e : Ev) : Turns S a (put7 w g o e) :=
  ((((((h.setCell (p := ⟨g, o, none⟩) hg _).setCell (p := ⟨g, o + 1, none⟩) hg _).setCell (p := ⟨g, o + 2, none⟩) hg _).setCell (p := ⟨g, o + 3, none⟩) hg _).setCell (p := ⟨g, o + 4, none⟩) hg _).setCell (p := ⟨g, o + 5, none⟩) hg _).setCell (p := ⟨g, o + 6, none⟩) hg _
theorem Turns.row {S : Nat → Prop} {w w' : World} (h : Turns S w w') {B g cap : Nat} {l : List Ev} (hr : Row w B g cap l) (hg : ¬ S g) : Row w' B g cap l := hr.same (h.block g hr.lt.2 hg)
end Go.Proofs.YtmpoffepoafblaaGreat

/- A row of states: each one's registers lie in a block of A. -/
namespace Go.Proofs.YtmpoffepoafblaaGreat
open Go.RowKit
abbrev Pt : Type := Value × St
def cellsT : List Pt → List Value
  | [] => []
  | p :: l => p.1 :: .int .i64 p.2.q :: .int .i64 p.2.d :: cellsT l
def tAt (l : List Pt) (i : Nat) : Pt := l.getD i (.slice none 0 0, ⟨[], 0, 0⟩)
def Pt.cs (p : Pt) : List Value := [p.1, .int .i64 p.2.q, .int .i64 p.2.d]
def stsOf (l : List Pt) : List St := l.map Prod.snd
theorem cellsT_length : ∀ l : List Pt, (cellsT l).length = l.length * 3
  | [] => rfl
  | p :: l => by simp [cellsT, cellsT_length l]; omega
theorem cellsT_append : ∀ l l' : List Pt, cellsT (l ++ l') = cellsT l ++ cellsT l'
  | [], _ => rfl
  | p :: l, l' => by simp [cellsT, cellsT_append l l']
theorem tAt_cons (p : Pt) (l : List Pt) (i : Nat) : tAt (p :: l) (i + 1) = tAt l i := by simp [tAt]
theorem tAt_set (l : List Pt) (i j : Nat) (p : Pt) (h : i < l.length) : tAt (l.set i p) j = if i = j then p else tAt l j := by
  unfold tAt
  rw [List.getD_eq_getElem?_getD, List.getD_eq_getElem?_getD, List.getElem?_set]
  by_cases e : i = j
  · subst e; simp [h]
  · simp [e]
theorem tAt_left (l m : List Pt) (i : Nat) (h : i < l.length) : tAt (l ++ m) i = tAt l i := by simp [tAt, List.getElem?_append_left h]
theorem tAt_last (l : List Pt) (p : Pt) : tAt (l ++ [p]) l.length = p := by simp [tAt]
theorem tAt_st (l : List Pt) (i : Nat) : stAt (stsOf l) i = (tAt l i).2 := by
  unfold stAt tAt stsOf
  rw [List.getD_eq_getElem?_getD, List.getD_eq_getElem?_getD, List.getElem?_map]
  cases l[i]? <;> rfl
theorem stsOf_set (l : List Pt) (i : Nat) (p : Pt) : stsOf (l.set i p) = (stsOf l).set i p.2 := by simp [stsOf, List.map_set]
theorem stsOf_length (l : List Pt) : (stsOf l).length = l.length := by simp [stsOf]
theorem stsOf_append (l m : List Pt) : stsOf (l ++ m) = stsOf l ++ stsOf m := by simp [stsOf]
theorem cellsT_get : ∀ (l : List Pt) (i r : Nat), i < l.length → r < 3 → (cellsT l)[i * 3 + r]? = (tAt l i).cs[r]?
  | [], _, _, h, _ => by simp at h
  | p :: l, 0, r, _, hr => by
    have : r = 0 ∨ r = 1 ∨ r = 2 := by omega
    rcases this with rfl | rfl | rfl <;> simp [cellsT, tAt, Pt.cs]
  | p :: l, i + 1, r, h, hr => by
    have h1 := cellsT_get l i r (by simpa using h) hr
    have e : (i + 1) * 3 + r = (i * 3 + r) + 1 + 1 + 1 := by omega
    rw [tAt_cons, ← h1, e]
    simp [cellsT]
theorem cellsT_set : ∀ (l : List Pt) (i : Nat) (p : Pt), i < l.length → (((cellsT l).set (i * 3) p.1).set (i * 3 + 1) (.int .i64 p.2.q)).set (i * 3 + 2) (.int .i64 p.2.d) = cellsT (l.set i p)
  | [], _, _, h => by simp at h
  | a :: l, 0, p, _ => by simp [cellsT]
  | a :: l, i + 1, p, h => by
    have ih := cellsT_set l i p (by simpa using h)
    have hk0 : (i + 1) * 3 = i * 3 + 1 + 1 + 1 := by omega
    simp only [cellsT, List.set_cons_succ, hk0, ih]
structure Sts (A : Nat → Prop) (w : World) (B : Nat) (v : Value) (l : List Pt) : Prop where
  row : w.ownsRow B 48 3 v l.length (cellsT l)
  reg : ∀ j, j < l.length → RowF A w (tAt l j).1 (tAt l j).2.r.length 1 (intCells (tAt l j).2.r)
section
variable {A A' : Nat → Prop} {w w' : World} {B : Nat} {v : Value} {l : List Pt}
theorem Sts.nil (A : Nat → Prop) (w : World) (B : Nat) : Sts A w B (.slice none 0 0) [] := ⟨World.ownsRow_nil w B _ 3, fun j h => by simp at h⟩
theorem Sts.mono (h : Sts A w B v l) (hA : ∀ k, A k → A' k) : Sts A' w B v l := ⟨h.row, fun j hj => (h.reg j hj).mono hA⟩
theorem Sts.is (h : Sts A w B v l) {j : Nat} (hj : j < l.length) : IsS w (.agg #[(tAt l j).1, .int .i64 (tAt l j).2.q, .int .i64 (tAt l j).2.d]) (tAt l j).2 := ⟨_, rfl, (h.reg j hj).isI⟩
theorem owns_same {T : TypeId} {c n : Nat} {cs : List Value} (h : w.ownsRow B T c v n cs) (hb : ∀ k, v.ownBlock = some k → w'.heap[k]? = w.heap[k]?) : w'.ownsRow B T c v n cs := by
  obtain ⟨h0, ⟨e, h1⟩ | ⟨g, cap, cur, rfl, hg, hc, h1⟩⟩ := h
  · exact ⟨h0, .inl ⟨e, h1⟩⟩
  · exact ⟨h0, .inr ⟨g, cap, cur, rfl, hg, (hb g rfl).trans hc, h1⟩⟩
theorem owns_turns {S : Nat → Prop} {T : TypeId} {c n : Nat} {cs : List Value} (h : w.ownsRow B T c v n cs) (ht : Turns S w w') (hS : ∀ k, v.ownBlock = some k → ¬ S k) : w'.ownsRow B T c v n cs :=
  owns_same h fun k hk => ht.block k (World.ownsRow.lt h k hk).2 (hS k hk)
theorem Sts.turns {S : Nat → Prop} (h : Sts A w B v l) (ht : Turns S w w') (hS : ∀ k, A k → ¬ S k) (hv : ∀ k, v.ownBlock = some k → ¬ S k) : Sts A w' B v l :=
  ⟨owns_turns h.row ht hv, fun j hj => (h.reg j hj).turns ht hS⟩
theorem Sts.below (h : Sts A w B v l) (hb : Below w.heap.size w w') : Sts A w' B v l := h.turns (S := fun _ => False) (Turns.of_below hb) (fun _ _ => id) (fun _ _ => id)
theorem Sts.one (h : Sts A w B v l) : ∀ u ∈ cellsT l, u.oneCell' = true := by
  have hreg := h.reg
  clear h
  induction l with
  | nil => intro u hu; cases hu
  | cons p l ih =>
    intro u hu
    obtain ⟨_, a, c, e, _⟩ := hreg 0 (by simp)
    have e' : p.1 = .slice a p.2.r.length c := e
    simp only [cellsT, List.mem_cons] at hu
    rcases hu with rfl | rfl | rfl | hu
    · rw [e']; rfl
    · rfl
    · rfl
    · exact ih (fun j hj => by
        have := hreg (j + 1) (by simpa using hj)
        rwa [tAt_cons] at this) u hu
abbrev put3o (w : World) (P o : Nat) (v0 v1 v2 : Value) : World := ((w.setCell ⟨P, o, none⟩ v0).setCell ⟨P, o + 1, none⟩ v1).setCell ⟨P, o + 2, none⟩ v2
theorem put3o_turns (w : World) (P o : Nat) (v0 v1 v2 : Value) : Turns (fun b => b = P) w (put3o w P o v0 v1 v2) :=
  ((put1_turns w P o v0).trans (put1_turns _ P (o + 1) v1)).trans (put1_turns _ P (o + 2) v2)
theorem Sts.put {g cap : Nat} (h : Sts A w B (.slice (some ⟨g, 0, none⟩) l.length cap) l) {i : Nat} (hi : i < l.length) (p : Pt) (hp : RowF A w p.1 p.2.r.length 1 (intCells p.2.r)) (hg : ¬ A g) :
    Sts A (put3o w g (i * 3) p.1 (.int .i64 p.2.q) (.int .i64 p.2.d)) B (.slice (some ⟨g, 0, none⟩) l.length cap) (l.set i p) := by
  have hS : ∀ k, A k → ¬ k = g := fun k hk e => hg (e ▸ hk)
  refine ⟨?_, fun j hj => ?_⟩
  · have h0 := (World.ownsRow.stored h.row (i * 3) p.1).1
    have h1 := (World.ownsRow.stored h0 (i * 3 + 1) (.int .i64 p.2.q)).1
    have h2 := (World.ownsRow.stored h1 (i * 3 + 2) (.int .i64 p.2.d)).1
    rw [List.length_set, ← cellsT_set l i p hi]
    exact h2
  · rw [List.length_set] at hj
    rw [tAt_set _ _ _ _ hi]
    split
    · exact hp.turns (put3o_turns _ _ _ _ _ _) hS
    · exact (h.reg j hj).turns (put3o_turns _ _ _ _ _ _) hS
theorem Sts.snoc {B' : Nat} {v' : Value} {p : Pt} (hr : w'.ownsRow B' 48 3 v' (l.length + 1) (cellsT l ++ p.cs)) (h : ∀ j, j < l.length → RowF A w' (tAt l j).1 (tAt l j).2.r.length 1 (intCells (tAt l j).2.r)) (hp : RowF A w' p.1 p.2.r.length 1 (intCells p.2.r)) :
    Sts A w' B' v' (l ++ [p]) := by
  refine ⟨?_, fun j hj => ?_⟩
  · rw [cellsT_append, List.length_append]
    exact hr
  · by_cases hj' : j < l.length
    · rw [tAt_left _ _ _ hj']; exact h j hj'
    · have e : j = l.length := by simp at hj; omega
      rw [e, tAt_last]; exact hp
theorem Sts.cells {g cap : Nat} (h : Sts A w B (.slice (some ⟨g, 0, none⟩) l.length cap) l) {i : Nat} (hi : i < l.length) :
    w.cell? ⟨g, i * 3, none⟩ = some (tAt l i).1 ∧ w.cell? ⟨g, i * 3 + 1, none⟩ = some (.int .i64 (tAt l i).2.q) ∧ w.cell? ⟨g, i * 3 + 2, none⟩ = some (.int .i64 (tAt l i).2.d) := by
  have hget : ∀ r, r < 3 → w.cell? ⟨g, i * 3 + r, none⟩ = (tAt l i).cs[r]? := fun r hr => by
    rw [World.ownsRow.cellAt h.row (i * 3 + r) (by omega), cellsT_get l i r hi hr]
  exact ⟨hget 0 (by omega), hget 1 (by omega), hget 2 (by omega)⟩
theorem Sts.frozen {g cap : Nat} (h : Sts A w B (.slice (some ⟨g, 0, none⟩) l.length cap) l) (j : Nat) : w.frozen? ⟨g, j, none⟩ = false := World.ownsRow.frozenAt h.row j
theorem Sts.form {n : Nat} (h : Sts A w B v l) (hn : l.length = n + 1) : ∃ g cap, v = .slice (some ⟨g, 0, none⟩) l.length cap ∧ l.length ≤ cap ∧ cap ≤ maxLen ∧ B ≤ g ∧ g < w.heap.size := by
  have hr := h.row
  obtain ⟨h0, ⟨e, h1⟩ | ⟨g, cap, cur, e, hg, hc, h1, h2, _⟩⟩ := hr
  · rw [hn] at h1; exact absurd h1 (by omega)
  · subst e
    exact ⟨g, cap, rfl, h1, h2, hg, (World.ownsRow.lt h.row g rfl).2⟩
end
end Go.Proofs.YtmpoffepoafblaaGreat

