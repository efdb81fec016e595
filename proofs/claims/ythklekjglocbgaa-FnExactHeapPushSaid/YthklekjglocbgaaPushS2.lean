/- The specification's HeapPush. -/
import Derived.Test.YthklekjglocbgaaDrop
import Derived.Test.YthklekjglocbgaaPushS
namespace Go.Proofs.Ythklekjglocbgaa
open Go.RowKit
set_option maxRecDepth 100000 in
set_option maxHeartbeats 4000000 in
theorem sPush_bad (g : Nat) (l : List Ev) (e : Ev) (w : World) (hl : l.length ≤ 1048576) (hR : RowTo w g l.length l l.length) (hg : ¬ GoodH l) :
    Calls Try.prog 14 #[.slice (some ⟨g, 0, none⟩) l.length l.length, .agg #[.int .i64 e.t, .int .i64 e.s, .int .i64 e.q, .int .i64 e.d, .int .i64 e.k, .int .i64 e.v, .int .i64 e.g]] w fun r w' => Answers w.heap.size [] false r w' ∧ Below w.heap.size w w' := by
  have hgw : g < w.heap.size := hR.1
  have hB0 : Below w.heap.size w (w.alloc (.cells #[.int .i64 e.t, .int .i64 e.s, .int .i64 e.q, .int .i64 e.d, .int .i64 e.k, .int .i64 e.v, .int .i64 e.g] 33)) := (Below.refl _ w).alloc (Nat.le_refl _) _
  have HR : Hid (RowTo (w.alloc (.cells #[.int .i64 e.t, .int .i64 e.s, .int .i64 e.q, .int .i64 e.d, .int .i64 e.k, .int .i64 e.v, .int .i64 e.g] 33)) g l.length l l.length) := hR.below hB0 hgw
  have HB0 : Hid (Below w.heap.size w (w.alloc (.cells #[.int .i64 e.t, .int .i64 e.s, .int .i64 e.q, .int .i64 e.d, .int .i64 e.k, .int .i64 e.v, .int .i64 e.g] 33))) := hB0
  have HE0 : Hid (Ev.In (w.alloc (.cells #[.int .i64 e.t, .int .i64 e.s, .int .i64 e.q, .int .i64 e.d, .int .i64 e.k, .int .i64 e.v, .int .i64 e.g] 33)) w.heap.size 0 e) := newE w e
  have hs0 : w.heap.size < (w.alloc (.cells #[.int .i64 e.t, .int .i64 e.s, .int .i64 e.q, .int .i64 e.d, .int .i64 e.k, .int .i64 e.v, .int .i64 e.g] 33)).heap.size := by simp
  clear hR hB0
  have HG : Hid (¬ GoodH l) := hg
  clear hg
  go_enter Try.func14, Try.ntmps14
  go_wp2_with fail
  generalize w.alloc (.cells #[.int .i64 e.t, .int .i64 e.s, .int .i64 e.q, .int .i64 e.d, .int .i64 e.k, .int .i64 e.v, .int .i64 e.g] 33) = W at *
  refine (sHeap_any g 0 _ l _ hl (Nat.le_refl _) (by unfold maxLen; omega) HR.out.evs).mono ?_
  rintro r w1 ⟨⟨bb, rfl, hs⟩, hb1⟩
  have hbb : bb = false := by cases bb with | false => rfl | true => exact (HG.out (hs.1 rfl)).elim
  subst hbb
  clear hs
  have HB1 : Hid (Below w.heap.size w w1) := HB0.out.trans (hb1.mono (Nat.le_of_lt hs0))
  have HR1 : Hid (RowTo w1 g l.length l l.length) := HR.out.below hb1 HR.out.1
  have HE1 : Hid (Ev.In w1 w.heap.size 0 e) := HE0.out.below hb1 hs0
  have hs1 : w.heap.size < w1.heap.size := Nat.lt_of_lt_of_le hs0 hb1.size
  clear hb1 HR HE0
  go_wp2
  go_ret2
  exact ⟨⟨_, rfl, OwnEvs.nil _ _⟩, HB1.out⟩
set_option maxRecDepth 100000 in
set_option maxHeartbeats 4000000 in
theorem sPush_bade (g : Nat) (l : List Ev) (e : Ev) (w : World) (hl : l.length ≤ 1048576) (hR : RowTo w g l.length l l.length) (hg : GoodH l) (he : e.ok = false) :
    Calls Try.prog 14 #[.slice (some ⟨g, 0, none⟩) l.length l.length, .agg #[.int .i64 e.t, .int .i64 e.s, .int .i64 e.q, .int .i64 e.d, .int .i64 e.k, .int .i64 e.v, .int .i64 e.g]] w fun r w' => Answers w.heap.size [] false r w' ∧ Below w.heap.size w w' := by
  have hgw : g < w.heap.size := hR.1
  have hB0 : Below w.heap.size w (w.alloc (.cells #[.int .i64 e.t, .int .i64 e.s, .int .i64 e.q, .int .i64 e.d, .int .i64 e.k, .int .i64 e.v, .int .i64 e.g] 33)) := (Below.refl _ w).alloc (Nat.le_refl _) _
  have HR : Hid (RowTo (w.alloc (.cells #[.int .i64 e.t, .int .i64 e.s, .int .i64 e.q, .int .i64 e.d, .int .i64 e.k, .int .i64 e.v, .int .i64 e.g] 33)) g l.length l l.length) := hR.below hB0 hgw
  have HB0 : Hid (Below w.heap.size w (w.alloc (.cells #[.int .i64 e.t, .int .i64 e.s, .int .i64 e.q, .int .i64 e.d, .int .i64 e.k, .int .i64 e.v, .int .i64 e.g] 33))) := hB0
  have HE0 : Hid (Ev.In (w.alloc (.cells #[.int .i64 e.t, .int .i64 e.s, .int .i64 e.q, .int .i64 e.d, .int .i64 e.k, .int .i64 e.v, .int .i64 e.g] 33)) w.heap.size 0 e) := newE w e
  have hs0 : w.heap.size < (w.alloc (.cells #[.int .i64 e.t, .int .i64 e.s, .int .i64 e.q, .int .i64 e.d, .int .i64 e.k, .int .i64 e.v, .int .i64 e.g] 33)).heap.size := by simp
  clear hR hB0
  have HG : Hid (GoodH l) := hg
  have HEO : Hid (e.ok = false) := he
  clear hg he
  go_enter Try.func14, Try.ntmps14
  go_wp2_with fail
  generalize w.alloc (.cells #[.int .i64 e.t, .int .i64 e.s, .int .i64 e.q, .int .i64 e.d, .int .i64 e.k, .int .i64 e.v, .int .i64 e.g] 33) = W at *
  refine (sHeap_any g 0 _ l _ hl (Nat.le_refl _) (by unfold maxLen; omega) HR.out.evs).mono ?_
  rintro r w1 ⟨⟨bb, rfl, hs⟩, hb1⟩
  have hbb : bb = true := hs.2 HG.out
  subst hbb
  clear hs
  have HB1 : Hid (Below w.heap.size w w1) := HB0.out.trans (hb1.mono (Nat.le_of_lt hs0))
  have HR1 : Hid (RowTo w1 g l.length l l.length) := HR.out.below hb1 HR.out.1
  have HE1 : Hid (Ev.In w1 w.heap.size 0 e) := HE0.out.below hb1 hs0
  have hs1 : w.heap.size < w1.heap.size := Nat.lt_of_lt_of_le hs0 hb1.size
  clear hb1 HR HE0
  obtain ⟨f0, f1, f2, f3, f4, f5, f6⟩ := HE1.out.lits
  go_wp2_with fail
  refine (sOk_ev e false HEO.out _).mono ?_
  rintro r w2 ⟨rfl, hb2⟩
  clear f0 f1 f2 f3 f4 f5 f6
  have HB2 : Hid (Below w.heap.size w w2) := HB1.out.trans (hb2.mono HB1.out.size)
  have HR2 : Hid (RowTo w2 g l.length l l.length) := HR1.out.below hb2 HR1.out.1
  have HE2 : Hid (Ev.In w2 w.heap.size 0 e) := HE1.out.below hb2 hs1
  have hs2 : w.heap.size < w2.heap.size := Nat.lt_of_lt_of_le hs1 hb2.size
  clear hb2 HR1 HE1 HB1
  go_wp2
  go_ret2
  exact ⟨⟨_, rfl, OwnEvs.nil _ _⟩, HB2.out⟩
set_option maxRecDepth 100000 in
set_option maxHeartbeats 4000000 in
theorem sPush_tag (g : Nat) (l : List Ev) (e : Ev) (w : World) (hl : l.length ≤ 1048576) (hR : RowTo w g l.length l l.length) (hg : GoodH l) (he : e.ok = true) (k : Nat) (hk : FirstAt l e.g k) :
    Calls Try.prog 14 #[.slice (some ⟨g, 0, none⟩) l.length l.length, .agg #[.int .i64 e.t, .int .i64 e.s, .int .i64 e.q, .int .i64 e.d, .int .i64 e.k, .int .i64 e.v, .int .i64 e.g]] w fun r w' => Answers w.heap.size l false r w' ∧ Below w.heap.size w w' := by
  have hgw : g < w.heap.size := hR.1
  have hB0 : Below w.heap.size w (w.alloc (.cells #[.int .i64 e.t, .int .i64 e.s, .int .i64 e.q, .int .i64 e.d, .int .i64 e.k, .int .i64 e.v, .int .i64 e.g] 33)) := (Below.refl _ w).alloc (Nat.le_refl _) _
  have HR : Hid (RowTo (w.alloc (.cells #[.int .i64 e.t, .int .i64 e.s, .int .i64 e.q, .int .i64 e.d, .int .i64 e.k, .int .i64 e.v, .int .i64 e.g] 33)) g l.length l l.length) := hR.below hB0 hgw
  have HB0 : Hid (Below w.heap.size w (w.alloc (.cells #[.int .i64 e.t, .int .i64 e.s, .int .i64 e.q, .int .i64 e.d, .int .i64 e.k, .int .i64 e.v, .int .i64 e.g] 33))) := hB0
  have HE0 : Hid (Ev.In (w.alloc (.cells #[.int .i64 e.t, .int .i64 e.s, .int .i64 e.q, .int .i64 e.d, .int .i64 e.k, .int .i64 e.v, .int .i64 e.g] 33)) w.heap.size 0 e) := newE w e
  have hs0 : w.heap.size < (w.alloc (.cells #[.int .i64 e.t, .int .i64 e.s, .int .i64 e.q, .int .i64 e.d, .int .i64 e.k, .int .i64 e.v, .int .i64 e.g] 33)).heap.size := by simp
  clear hR hB0
  have HG : Hid (GoodH l) := hg
  have HEO : Hid (e.ok = true) := he
  have HK : Hid (FirstAt l e.g k) := hk
  have hk1 : (0 : Int) ≤ (k : Int) := by omega
  have hk2 : decide ((0 : Int) ≤ (k : Int)) = true := by simp
  clear hg he hk
  go_enter Try.func14, Try.ntmps14
  go_wp2_with fail
  generalize w.alloc (.cells #[.int .i64 e.t, .int .i64 e.s, .int .i64 e.q, .int .i64 e.d, .int .i64 e.k, .int .i64 e.v, .int .i64 e.g] 33) = W at *
  refine (sHeap_any g 0 _ l _ hl (Nat.le_refl _) (by unfold maxLen; omega) HR.out.evs).mono ?_
  rintro r w1 ⟨⟨bb, rfl, hs⟩, hb1⟩
  have hbb : bb = true := hs.2 HG.out
  subst hbb
  clear hs
  have HB1 : Hid (Below w.heap.size w w1) := HB0.out.trans (hb1.mono (Nat.le_of_lt hs0))
  have HR1 : Hid (RowTo w1 g l.length l l.length) := HR.out.below hb1 HR.out.1
  have HE1 : Hid (Ev.In w1 w.heap.size 0 e) := HE0.out.below hb1 hs0
  have hs1 : w.heap.size < w1.heap.size := Nat.lt_of_lt_of_le hs0 hb1.size
  clear hb1 HR HE0
  obtain ⟨f0, f1, f2, f3, f4, f5, f6⟩ := HE1.out.lits
  go_wp2_with fail
  refine (sOk_ev e true HEO.out _).mono ?_
  rintro r w2 ⟨rfl, hb2⟩
  clear f0 f1 f2 f3 f4 f5 f6
  have HB2 : Hid (Below w.heap.size w w2) := HB1.out.trans (hb2.mono HB1.out.size)
  have HR2 : Hid (RowTo w2 g l.length l l.length) := HR1.out.below hb2 HR1.out.1
  have HE2 : Hid (Ev.In w2 w.heap.size 0 e) := HE1.out.below hb2 hs1
  have hs2 : w.heap.size < w2.heap.size := Nat.lt_of_lt_of_le hs1 hb2.size
  clear hb2 HR1 HE1 HB1
  obtain ⟨f0, f1, f2, f3, f4, f5, f6⟩ := HE2.out.lits
  go_wp2_with fail
  refine (find_some g 0 _ l e.g k _ hl HR2.out.evs HK.out).mono ?_
  rintro r w3 ⟨rfl, hw⟩
  have hw' := hw.symm
  clear hw
  subst hw'
  go_wp2_with fail
  refine (own_row _ l _ (by omega) HR2.out.src).mono ?_
  rintro r w4 ⟨y, rfl, hy, hb4⟩
  have HY : Hid (OwnR w2.heap.size w4 y l) := hy
  have HB4 : Hid (Below w.heap.size w w4) := HB2.out.trans (hb4.mono HB2.out.size)
  clear hy hb4
  go_wp2
  go_ret2
  exact ⟨ans_of HB2.out HB2.out.size HY.out, HB4.out⟩
set_option maxRecDepth 100000 in
set_option maxHeartbeats 4000000 in
theorem sPush_full (g : Nat) (l : List Ev) (e : Ev) (w : World) (hl : l.length ≤ 1048576) (hR : RowTo w g l.length l l.length) (hg : GoodH l) (he : e.ok = true) (hk : NoTag l e.g) (hf : 2000 ≤ l.length) :
    Calls Try.prog 14 #[.slice (some ⟨g, 0, none⟩) l.length l.length, .agg #[.int .i64 e.t, .int .i64 e.s, .int .i64 e.q, .int .i64 e.d, .int .i64 e.k, .int .i64 e.v, .int .i64 e.g]] w fun r w' => Answers w.heap.size l false r w' ∧ Below w.heap.size w w' := by
  have hgw : g < w.heap.size := hR.1
  have hB0 : Below w.heap.size w (w.alloc (.cells #[.int .i64 e.t, .int .i64 e.s, .int .i64 e.q, .int .i64 e.d, .int .i64 e.k, .int .i64 e.v, .int .i64 e.g] 33)) := (Below.refl _ w).alloc (Nat.le_refl _) _
  have HR : Hid (RowTo (w.alloc (.cells #[.int .i64 e.t, .int .i64 e.s, .int .i64 e.q, .int .i64 e.d, .int .i64 e.k, .int .i64 e.v, .int .i64 e.g] 33)) g l.length l l.length) := hR.below hB0 hgw
  have HB0 : Hid (Below w.heap.size w (w.alloc (.cells #[.int .i64 e.t, .int .i64 e.s, .int .i64 e.q, .int .i64 e.d, .int .i64 e.k, .int .i64 e.v, .int .i64 e.g] 33))) := hB0
  have HE0 : Hid (Ev.In (w.alloc (.cells #[.int .i64 e.t, .int .i64 e.s, .int .i64 e.q, .int .i64 e.d, .int .i64 e.k, .int .i64 e.v, .int .i64 e.g] 33)) w.heap.size 0 e) := newE w e
  have hs0 : w.heap.size < (w.alloc (.cells #[.int .i64 e.t, .int .i64 e.s, .int .i64 e.q, .int .i64 e.d, .int .i64 e.k, .int .i64 e.v, .int .i64 e.g] 33)).heap.size := by simp
  clear hR hB0
  have HG : Hid (GoodH l) := hg
  have HEO : Hid (e.ok = true) := he
  have HK : Hid (NoTag l e.g) := hk
  have hf1 : (2000 : Int) ≤ (l.length : Int) := by omega
  clear hg he hk
  go_enter Try.func14, Try.ntmps14
  go_wp2_with fail
  generalize w.alloc (.cells #[.int .i64 e.t, .int .i64 e.s, .int .i64 e.q, .int .i64 e.d, .int .i64 e.k, .int .i64 e.v, .int .i64 e.g] 33) = W at *
  refine (sHeap_any g 0 _ l _ hl (Nat.le_refl _) (by unfold maxLen; omega) HR.out.evs).mono ?_
  rintro r w1 ⟨⟨bb, rfl, hs⟩, hb1⟩
  have hbb : bb = true := hs.2 HG.out
  subst hbb
  clear hs
  have HB1 : Hid (Below w.heap.size w w1) := HB0.out.trans (hb1.mono (Nat.le_of_lt hs0))
  have HR1 : Hid (RowTo w1 g l.length l l.length) := HR.out.below hb1 HR.out.1
  have HE1 : Hid (Ev.In w1 w.heap.size 0 e) := HE0.out.below hb1 hs0
  have hs1 : w.heap.size < w1.heap.size := Nat.lt_of_lt_of_le hs0 hb1.size
  clear hb1 HR HE0
  obtain ⟨f0, f1, f2, f3, f4, f5, f6⟩ := HE1.out.lits
  go_wp2_with fail
  refine (sOk_ev e true HEO.out _).mono ?_
  rintro r w2 ⟨rfl, hb2⟩
  clear f0 f1 f2 f3 f4 f5 f6
  have HB2 : Hid (Below w.heap.size w w2) := HB1.out.trans (hb2.mono HB1.out.size)
  have HR2 : Hid (RowTo w2 g l.length l l.length) := HR1.out.below hb2 HR1.out.1
  have HE2 : Hid (Ev.In w2 w.heap.size 0 e) := HE1.out.below hb2 hs1
  have hs2 : w.heap.size < w2.heap.size := Nat.lt_of_lt_of_le hs1 hb2.size
  clear hb2 HR1 HE1 HB1
  obtain ⟨f0, f1, f2, f3, f4, f5, f6⟩ := HE2.out.lits
  go_wp2_with fail
  refine (find_none g 0 _ l e.g _ hl HR2.out.evs HK.out).mono ?_
  rintro r w3 ⟨rfl, hw⟩
  have hw' := hw.symm
  clear hw
  subst hw'
  go_wp2_with fail
  refine (own_row _ l _ (by omega) HR2.out.src).mono ?_
  rintro r w4 ⟨y, rfl, hy, hb4⟩
  have HY : Hid (OwnR w2.heap.size w4 y l) := hy
  have HB4 : Hid (Below w.heap.size w w4) := HB2.out.trans (hb4.mono HB2.out.size)
  clear hy hb4
  go_wp2
  go_ret2
  exact ⟨ans_of HB2.out HB2.out.size HY.out, HB4.out⟩
set_option maxRecDepth 100000 in
set_option maxHeartbeats 4000000 in
theorem sPush_good (g : Nat) (l : List Ev) (e : Ev) (w : World) (hl : l.length ≤ 1048576) (hR : RowTo w g l.length l l.length) (hg : GoodH l) (he : e.ok = true) (hk : NoTag l e.g) (hf : l.length < 2000) :
    Calls Try.prog 14 #[.slice (some ⟨g, 0, none⟩) l.length l.length, .agg #[.int .i64 e.t, .int .i64 e.s, .int .i64 e.q, .int .i64 e.d, .int .i64 e.k, .int .i64 e.v, .int .i64 e.g]] w fun r w' => Answers w.heap.size (pushL l e) true r w' ∧ Below w.heap.size w w' := by
  have hgw : g < w.heap.size := hR.1
  have hB0 : Below w.heap.size w (w.alloc (.cells #[.int .i64 e.t, .int .i64 e.s, .int .i64 e.q, .int .i64 e.d, .int .i64 e.k, .int .i64 e.v, .int .i64 e.g] 33)) := (Below.refl _ w).alloc (Nat.le_refl _) _
  have HR : Hid (RowTo (w.alloc (.cells #[.int .i64 e.t, .int .i64 e.s, .int .i64 e.q, .int .i64 e.d, .int .i64 e.k, .int .i64 e.v, .int .i64 e.g] 33)) g l.length l l.length) := hR.below hB0 hgw
  have HB0 : Hid (Below w.heap.size w (w.alloc (.cells #[.int .i64 e.t, .int .i64 e.s, .int .i64 e.q, .int .i64 e.d, .int .i64 e.k, .int .i64 e.v, .int .i64 e.g] 33))) := hB0
  have HE0 : Hid (Ev.In (w.alloc (.cells #[.int .i64 e.t, .int .i64 e.s, .int .i64 e.q, .int .i64 e.d, .int .i64 e.k, .int .i64 e.v, .int .i64 e.g] 33)) w.heap.size 0 e) := newE w e
  have hs0 : w.heap.size < (w.alloc (.cells #[.int .i64 e.t, .int .i64 e.s, .int .i64 e.q, .int .i64 e.d, .int .i64 e.k, .int .i64 e.v, .int .i64 e.g] 33)).heap.size := by simp
  clear hR hB0
  have HG : Hid (GoodH l) := hg
  have HEO : Hid (e.ok = true) := he
  have HK : Hid (NoTag l e.g) := hk
  have hf1 : ¬ ((2000 : Int) ≤ (l.length : Int)) := by omega
  have hf2 : ¬ (2000 ≤ l.length) := by omega
  clear hg he hk
  go_enter Try.func14, Try.ntmps14
  go_wp2_with fail
  generalize w.alloc (.cells #[.int .i64 e.t, .int .i64 e.s, .int .i64 e.q, .int .i64 e.d, .int .i64 e.k, .int .i64 e.v, .int .i64 e.g] 33) = W at *
  refine (sHeap_any g 0 _ l _ hl (Nat.le_refl _) (by unfold maxLen; omega) HR.out.evs).mono ?_
  rintro r w1 ⟨⟨bb, rfl, hs⟩, hb1⟩
  have hbb : bb = true := hs.2 HG.out
  subst hbb
  clear hs
  have HB1 : Hid (Below w.heap.size w w1) := HB0.out.trans (hb1.mono (Nat.le_of_lt hs0))
  have HR1 : Hid (RowTo w1 g l.length l l.length) := HR.out.below hb1 HR.out.1
  have HE1 : Hid (Ev.In w1 w.heap.size 0 e) := HE0.out.below hb1 hs0
  have hs1 : w.heap.size < w1.heap.size := Nat.lt_of_lt_of_le hs0 hb1.size
  clear hb1 HR HE0
  obtain ⟨f0, f1, f2, f3, f4, f5, f6⟩ := HE1.out.lits
  go_wp2_with fail
  refine (sOk_ev e true HEO.out _).mono ?_
  rintro r w2 ⟨rfl, hb2⟩
  clear f0 f1 f2 f3 f4 f5 f6
  have HB2 : Hid (Below w.heap.size w w2) := HB1.out.trans (hb2.mono HB1.out.size)
  have HR2 : Hid (RowTo w2 g l.length l l.length) := HR1.out.below hb2 HR1.out.1
  have HE2 : Hid (Ev.In w2 w.heap.size 0 e) := HE1.out.below hb2 hs1
  have hs2 : w.heap.size < w2.heap.size := Nat.lt_of_lt_of_le hs1 hb2.size
  clear hb2 HR1 HE1 HB1
  obtain ⟨f0, f1, f2, f3, f4, f5, f6⟩ := HE2.out.lits
  go_wp2_with fail
  refine (find_none g 0 _ l e.g _ hl HR2.out.evs HK.out).mono ?_
  rintro r w3 ⟨rfl, hw⟩
  have hw' := hw.symm
  clear hw
  subst hw'
  go_wp2_with fail
  refine (sPush_any _ l e _ hl HR2.out.src).mono ?_
  rintro r w4 ⟨y, rfl, hy, hb4⟩
  have HY : Hid (OwnR w2.heap.size w4 y (pushL l e)) := hy
  have HB4 : Hid (Below w.heap.size w w4) := HB2.out.trans (hb4.mono HB2.out.size)
  clear hy hb4
  go_wp2
  go_ret2
  exact ⟨ans_of HB2.out HB2.out.size HY.out, HB4.out⟩
end Go.Proofs.Ythklekjglocbgaa
