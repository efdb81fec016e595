/- The program's HeapPush; both give the same. -/
import Derived.Test.YthklekjglocbgaaPushNo
import Derived.Test.YthklekjglocbgaaPushS2
namespace Go.Proofs.Ythklekjglocbgaa
open Go.RowKit
set_option maxRecDepth 100000 in
set_option maxHeartbeats 4000000 in
theorem iPush_bad (g : Nat) (l : List Ev) (e : Ev) (w : World) (hl : l.length ≤ 1048576) (hR : RowTo w g l.length l l.length) (hg : ¬ GoodH l) :
    Calls Try.prog 16 #[.slice (some ⟨g, 0, none⟩) l.length l.length, .agg #[.int .i64 e.t, .int .i64 e.s, .int .i64 e.q, .int .i64 e.d, .int .i64 e.k, .int .i64 e.v, .int .i64 e.g]] w fun r w' => Answers w.heap.size [] false r w' ∧ Below w.heap.size w w' := by
  have hgw : g < w.heap.size := hR.1
  have hB0 : Below w.heap.size w (w.alloc (.cells #[.int .i64 e.t, .int .i64 e.s, .int .i64 e.q, .int .i64 e.d, .int .i64 e.k, .int .i64 e.v, .int .i64 e.g] 33)) := (Below.refl _ w).alloc (Nat.le_refl _) _
  have HR : Hid (RowTo (w.alloc (.cells #[.int .i64 e.t, .int .i64 e.s, .int .i64 e.q, .int .i64 e.d, .int .i64 e.k, .int .i64 e.v, .int .i64 e.g] 33)) g l.length l l.length) := hR.below hB0 hgw
  have HB0 : Hid (Below w.heap.size w (w.alloc (.cells #[.int .i64 e.t, .int .i64 e.s, .int .i64 e.q, .int .i64 e.d, .int .i64 e.k, .int .i64 e.v, .int .i64 e.g] 33))) := hB0
  have HE0 : Hid (Ev.In (w.alloc (.cells #[.int .i64 e.t, .int .i64 e.s, .int .i64 e.q, .int .i64 e.d, .int .i64 e.k, .int .i64 e.v, .int .i64 e.g] 33)) w.heap.size 0 e) := newE w e
  have hs0 : w.heap.size < (w.alloc (.cells #[.int .i64 e.t, .int .i64 e.s, .int .i64 e.q, .int .i64 e.d, .int .i64 e.k, .int .i64 e.v, .int .i64 e.g] 33)).heap.size := by simp
  clear hR hB0
  have HG : Hid (¬ GoodH l) := hg
  clear hg
  go_enter Try.func16, Try.ntmps16
  go_wp2_with fail
  generalize w.alloc (.cells #[.int .i64 e.t, .int .i64 e.s, .int .i64 e.q, .int .i64 e.d, .int .i64 e.k, .int .i64 e.v, .int .i64 e.g] 33) = W at *
  refine (iHeap_any g 0 _ l _ hl HR.out.evs).mono ?_
  rintro r w1 ⟨⟨bb, rfl, hs⟩, hb1⟩
  have hbb : bb = false := by cases bb with | false => rfl | true => exact (HG.out (hs.1 rfl)).elim
  subst hbb
  clear hs
  have HB1 : Hid (Below w.heap.size w w1) := HB0.out.trans (hb1.mono (Nat.le_of_lt hs0))
  have HR1 : Hid (RowTo w1 g l.length l l.length) := HR.out.below hb1 HR.out.1
  have HE1 : Hid (Ev.In w1 w.heap.size 0 e) := HE0.out.below hb1 hs0
  have hs1 : w.heap.size < w1.heap.size := Nat.lt_of_lt_of_le hs0 hb1.size
  clear hb1 HR HE0
  go_wp2
  go_ret2
  exact ⟨⟨_, rfl, OwnEvs.nil _ _⟩, HB1.out⟩
set_option maxRecDepth 100000 in
set_option maxHeartbeats 4000000 in
theorem iPush_bade (g : Nat) (l : List Ev) (e : Ev) (w : World) (hl : l.length ≤ 1048576) (hR : RowTo w g l.length l l.length) (hg : GoodH l) (he : e.ok = false) :
    Calls Try.prog 16 #[.slice (some ⟨g, 0, none⟩) l.length l.length, .agg #[.int .i64 e.t, .int .i64 e.s, .int .i64 e.q, .int .i64 e.d, .int .i64 e.k, .int .i64 e.v, .int .i64 e.g]] w fun r w' => Answers w.heap.size [] false r w' ∧ Below w.heap.size w w' := by
  have hgw : g < w.heap.size := hR.1
  have hB0 : Below w.heap.size w (w.alloc (.cells #[.int .i64 e.t, .int .i64 e.s, .int .i64 e.q, .int .i64 e.d, .int .i64 e.k, .int .i64 e.v, .int .i64 e.g] 33)) := (Below.refl _ w).alloc (Nat.le_refl _) _
  have HR : Hid (RowTo (w.alloc (.cells #[.int .i64 e.t, .int .i64 e.s, .int .i64 e.q, .int .i64 e.d, .int .i64 e.k, .int .i64 e.v, .int .i64 e.g] 33)) g l.length l l.length) := hR.below hB0 hgw
  have HB0 : Hid (Below w.heap.size w (w.alloc (.cells #[.int .i64 e.t, .int .i64 e.s, .int .i64 e.q, .int .i64 e.d, .int .i64 e.k, .int .i64 e.v, .int .i64 e.g] 33))) := hB0
  have HE0 : Hid (Ev.In (w.alloc (.cells #[.int .i64 e.t, .int .i64 e.s, .int .i64 e.q, .int .i64 e.d, .int .i64 e.k, .int .i64 e.v, .int .i64 e.g] 33)) w.heap.size 0 e) := newE w e
  have hs0 : w.heap.size < (w.alloc (.cells #[.int .i64 e.t, .int .i64 e.s, .int .i64 e.q, .int .i64 e.d, .int .i64 e.k, .int .i64 e.v, .int .i64 e.g] 33)).heap.size := by simp
  clear hR hB0
  have HG : Hid (GoodH l) := hg
  have HEO : Hid (e.ok = false) := he
  clear hg he
  go_enter Try.func16, Try.ntmps16
  go_wp2_with fail
  generalize w.alloc (.cells #[.int .i64 e.t, .int .i64 e.s, .int .i64 e.q, .int .i64 e.d, .int .i64 e.k, .int .i64 e.v, .int .i64 e.g] 33) = W at *
  refine (iHeap_any g 0 _ l _ hl HR.out.evs).mono ?_
  rintro r w1 ⟨⟨bb, rfl, hs⟩, hb1⟩
  have hbb : bb = true := hs.2 HG.out
  subst hbb
  clear hs
  have HB1 : Hid (Below w.heap.size w w1) := HB0.out.trans (hb1.mono (Nat.le_of_lt hs0))
  have HR1 : Hid (RowTo w1 g l.length l l.length) := HR.out.below hb1 HR.out.1
  have HE1 : Hid (Ev.In w1 w.heap.size 0 e) := HE0.out.below hb1 hs0
  have hs1 : w.heap.size < w1.heap.size := Nat.lt_of_lt_of_le hs0 hb1.size
  clear hb1 HR HE0
  obtain ⟨f0, f1, f2, f3, f4, f5, f6⟩ := HE1.out.lits
  go_wp2_with fail
  refine (iOk_ev e false HEO.out _).mono ?_
  rintro r w2 ⟨rfl, hb2⟩
  clear f0 f1 f2 f3 f4 f5 f6
  have HB2 : Hid (Below w.heap.size w w2) := HB1.out.trans (hb2.mono HB1.out.size)
  have HR2 : Hid (RowTo w2 g l.length l l.length) := HR1.out.below hb2 HR1.out.1
  have HE2 : Hid (Ev.In w2 w.heap.size 0 e) := HE1.out.below hb2 hs1
  have hs2 : w.heap.size < w2.heap.size := Nat.lt_of_lt_of_le hs1 hb2.size
  clear hb2 HR1 HE1 HB1
  go_wp2
  go_ret2
  exact ⟨⟨_, rfl, OwnEvs.nil _ _⟩, HB2.out⟩
set_option maxRecDepth 100000 in
set_option maxHeartbeats 4000000 in
theorem iPush_full (g : Nat) (l : List Ev) (e : Ev) (w : World) (hl : l.length ≤ 1048576) (hR : RowTo w g l.length l l.length) (hg : GoodH l) (he : e.ok = true) (hf : 2000 ≤ l.length) :
    Calls Try.prog 16 #[.slice (some ⟨g, 0, none⟩) l.length l.length, .agg #[.int .i64 e.t, .int .i64 e.s, .int .i64 e.q, .int .i64 e.d, .int .i64 e.k, .int .i64 e.v, .int .i64 e.g]] w fun r w' => Answers w.heap.size l false r w' ∧ Below w.heap.size w w' := by
  have hgw : g < w.heap.size := hR.1
  have hB0 : Below w.heap.size w (w.alloc (.cells #[.int .i64 e.t, .int .i64 e.s, .int .i64 e.q, .int .i64 e.d, .int .i64 e.k, .int .i64 e.v, .int .i64 e.g] 33)) := (Below.refl _ w).alloc (Nat.le_refl _) _
  have HR : Hid (RowTo (w.alloc (.cells #[.int .i64 e.t, .int .i64 e.s, .int .i64 e.q, .int .i64 e.d, .int .i64 e.k, .int .i64 e.v, .int .i64 e.g] 33)) g l.length l l.length) := hR.below hB0 hgw
  have HB0 : Hid (Below w.heap.size w (w.alloc (.cells #[.int .i64 e.t, .int .i64 e.s, .int .i64 e.q, .int .i64 e.d, .int .i64 e.k, .int .i64 e.v, .int .i64 e.g] 33))) := hB0
  have HE0 : Hid (Ev.In (w.alloc (.cells #[.int .i64 e.t, .int .i64 e.s, .int .i64 e.q, .int .i64 e.d, .int .i64 e.k, .int .i64 e.v, .int .i64 e.g] 33)) w.heap.size 0 e) := newE w e
  have hs0 : w.heap.size < (w.alloc (.cells #[.int .i64 e.t, .int .i64 e.s, .int .i64 e.q, .int .i64 e.d, .int .i64 e.k, .int .i64 e.v, .int .i64 e.g] 33)).heap.size := by simp
  clear hR hB0
  have HG : Hid (GoodH l) := hg
  have HEO : Hid (e.ok = true) := he
  have hf1 : (2000 : Int) ≤ (l.length : Int) := by omega
  clear hg he
  go_enter Try.func16, Try.ntmps16
  go_wp2_with fail
  generalize w.alloc (.cells #[.int .i64 e.t, .int .i64 e.s, .int .i64 e.q, .int .i64 e.d, .int .i64 e.k, .int .i64 e.v, .int .i64 e.g] 33) = W at *
  refine (iHeap_any g 0 _ l _ hl HR.out.evs).mono ?_
  rintro r w1 ⟨⟨bb, rfl, hs⟩, hb1⟩
  have hbb : bb = true := hs.2 HG.out
  subst hbb
  clear hs
  have HB1 : Hid (Below w.heap.size w w1) := HB0.out.trans (hb1.mono (Nat.le_of_lt hs0))
  have HR1 : Hid (RowTo w1 g l.length l l.length) := HR.out.below hb1 HR.out.1
  have HE1 : Hid (Ev.In w1 w.heap.size 0 e) := HE0.out.below hb1 hs0
  have hs1 : w.heap.size < w1.heap.size := Nat.lt_of_lt_of_le hs0 hb1.size
  clear hb1 HR HE0
  obtain ⟨f0, f1, f2, f3, f4, f5, f6⟩ := HE1.out.lits
  go_wp2_with fail
  refine (iOk_ev e true HEO.out _).mono ?_
  rintro r w2 ⟨rfl, hb2⟩
  clear f0 f1 f2 f3 f4 f5 f6
  have HB2 : Hid (Below w.heap.size w w2) := HB1.out.trans (hb2.mono HB1.out.size)
  have HR2 : Hid (RowTo w2 g l.length l l.length) := HR1.out.below hb2 HR1.out.1
  have HE2 : Hid (Ev.In w2 w.heap.size 0 e) := HE1.out.below hb2 hs1
  have hs2 : w.heap.size < w2.heap.size := Nat.lt_of_lt_of_le hs1 hb2.size
  clear hb2 HR1 HE1 HB1
  have hme := fun w P => m_events P w
  go_wp2_with fail
  refine (pileOf_any _ l _ (by omega) HR2.out.src).mono ?_
  rintro r w3 ⟨P, v, rfl, hp3, hb3⟩
  have HP3 : Hid (Pl w3 w2.heap.size P v l) := hp3
  have HB3 : Hid (Below w2.heap.size w2 w3) := hb3
  have HE3 : Hid (Ev.In w3 w.heap.size 0 e) := HE2.out.below hb3 hs2
  have hs3 : w.heap.size < w3.heap.size := Nat.lt_of_lt_of_le hs2 hb3.size
  have HPX : Hid (Pl (w3.alloc (.cells #[.int .i64 e.t, .int .i64 e.s, .int .i64 e.q, .int .i64 e.d, .int .i64 e.k, .int .i64 e.v, .int .i64 e.g] 33)) w2.heap.size P v l) := hp3.alloc _
  have HBX : Hid (Below w2.heap.size w2 (w3.alloc (.cells #[.int .i64 e.t, .int .i64 e.s, .int .i64 e.q, .int .i64 e.d, .int .i64 e.k, .int .i64 e.v, .int .i64 e.g] 33))) := hb3.alloc hb3.size _
  have HEX : Hid (EvsAt (w3.alloc (.cells #[.int .i64 e.t, .int .i64 e.s, .int .i64 e.q, .int .i64 e.d, .int .i64 e.k, .int .i64 e.v, .int .i64 e.g] 33)) w3.heap.size 0 [e]) := ⟨by simp, fun i hi => by
    have h0 : i = 0 := by simp at hi; omega
    subst h0
    exact newE w3 e⟩
  have HLO : Hid (P < w3.heap.size ∧ w2.heap.size ≤ P ∧ (∀ k, v.ownBlock = some k → w2.heap.size ≤ k ∧ k < w3.heap.size)) := ⟨hp3.box.lt, hp3.low, fun k e => OwnR.block hp3.row e⟩
  have hz3 : w2.heap.size ≤ w3.heap.size := hb3.size
  have hzX : w3.heap.size < (w3.alloc (.cells #[.int .i64 e.t, .int .i64 e.s, .int .i64 e.q, .int .i64 e.d, .int .i64 e.k, .int .i64 e.v, .int .i64 e.g] 33)).heap.size := by simp
  clear hp3 hb3
  obtain ⟨f0, f1, f2, f3, f4, f5, f6⟩ := HE3.out.lits
  go_wp2_with fail
  generalize w3.alloc (.cells #[.int .i64 e.t, .int .i64 e.s, .int .i64 e.q, .int .i64 e.d, .int .i64 e.k, .int .i64 e.v, .int .i64 e.g] 33) = V at *
  clear f0 f1 f2 f3 f4 f5 f6
  refine (pushAll_full w2.heap.size P v l (some ⟨w3.heap.size, 0, none⟩) 1 [e] V (by simp) (by omega) HPX.out (by omega) (by simp; omega)).mono ?_
  rintro r w4 ⟨rfl, hp4, ht4⟩
  have HP4 : Hid (Pl w4 w2.heap.size P v l) := hp4
  have HB4 : Hid (Below w.heap.size w w4) := HB2.out.trans ((HBX.out.trans (ht4.mono (by omega))).mono HB2.out.size)
  clear hp4 ht4
  go_wp2_with fail
  refine (events_any w2.heap.size P v l _ (by omega) HP4.out).mono ?_
  rintro r w5 ⟨y, rfl, hy, hb5⟩
  have HY : Hid (OwnR w4.heap.size w5 y l) := hy
  have HB5 : Hid (Below w.heap.size w w5) := HB4.out.trans (hb5.mono HB4.out.size)
  clear hy hb5
  go_wp2
  go_ret2
  exact ⟨ans_of HB4.out HB4.out.size HY.out, HB5.out⟩
set_option maxRecDepth 100000 in
set_option maxHeartbeats 4000000 in
theorem iPush_tag (g : Nat) (l : List Ev) (e : Ev) (w : World) (hl : l.length ≤ 1048576) (hR : RowTo w g l.length l l.length) (hg : GoodH l) (he : e.ok = true) (k : Nat) (hk : FirstAt l e.g k) (hf : l.length < 2000) :
    Calls Try.prog 16 #[.slice (some ⟨g, 0, none⟩) l.length l.length, .agg #[.int .i64 e.t, .int .i64 e.s, .int .i64 e.q, .int .i64 e.d, .int .i64 e.k, .int .i64 e.v, .int .i64 e.g]] w fun r w' => Answers w.heap.size l false r w' ∧ Below w.heap.size w w' := by
  have hgw : g < w.heap.size := hR.1
  have hB0 : Below w.heap.size w (w.alloc (.cells #[.int .i64 e.t, .int .i64 e.s, .int .i64 e.q, .int .i64 e.d, .int .i64 e.k, .int .i64 e.v, .int .i64 e.g] 33)) := (Below.refl _ w).alloc (Nat.le_refl _) _
  have HR : Hid (RowTo (w.alloc (.cells #[.int .i64 e.t, .int .i64 e.s, .int .i64 e.q, .int .i64 e.d, .int .i64 e.k, .int .i64 e.v, .int .i64 e.g] 33)) g l.length l l.length) := hR.below hB0 hgw
  have HB0 : Hid (Below w.heap.size w (w.alloc (.cells #[.int .i64 e.t, .int .i64 e.s, .int .i64 e.q, .int .i64 e.d, .int .i64 e.k, .int .i64 e.v, .int .i64 e.g] 33))) := hB0
  have HE0 : Hid (Ev.In (w.alloc (.cells #[.int .i64 e.t, .int .i64 e.s, .int .i64 e.q, .int .i64 e.d, .int .i64 e.k, .int .i64 e.v, .int .i64 e.g] 33)) w.heap.size 0 e) := newE w e
  have hs0 : w.heap.size < (w.alloc (.cells #[.int .i64 e.t, .int .i64 e.s, .int .i64 e.q, .int .i64 e.d, .int .i64 e.k, .int .i64 e.v, .int .i64 e.g] 33)).heap.size := by simp
  clear hR hB0
  have HG : Hid (GoodH l) := hg
  have HEO : Hid (e.ok = true) := he
  have HK : Hid (FirstAt l e.g k) := hk
  have hk1 : (0 : Int) ≤ (k : Int) := by omega
  have hk2 : decide ((0 : Int) ≤ (k : Int)) = true := by simp
  clear hg he hk
  go_enter Try.func16, Try.ntmps16
  go_wp2_with fail
  generalize w.alloc (.cells #[.int .i64 e.t, .int .i64 e.s, .int .i64 e.q, .int .i64 e.d, .int .i64 e.k, .int .i64 e.v, .int .i64 e.g] 33) = W at *
  refine (iHeap_any g 0 _ l _ hl HR.out.evs).mono ?_
  rintro r w1 ⟨⟨bb, rfl, hs⟩, hb1⟩
  have hbb : bb = true := hs.2 HG.out
  subst hbb
  clear hs
  have HB1 : Hid (Below w.heap.size w w1) := HB0.out.trans (hb1.mono (Nat.le_of_lt hs0))
  have HR1 : Hid (RowTo w1 g l.length l l.length) := HR.out.below hb1 HR.out.1
  have HE1 : Hid (Ev.In w1 w.heap.size 0 e) := HE0.out.below hb1 hs0
  have hs1 : w.heap.size < w1.heap.size := Nat.lt_of_lt_of_le hs0 hb1.size
  clear hb1 HR HE0
  obtain ⟨f0, f1, f2, f3, f4, f5, f6⟩ := HE1.out.lits
  go_wp2_with fail
  refine (iOk_ev e true HEO.out _).mono ?_
  rintro r w2 ⟨rfl, hb2⟩
  clear f0 f1 f2 f3 f4 f5 f6
  have HB2 : Hid (Below w.heap.size w w2) := HB1.out.trans (hb2.mono HB1.out.size)
  have HR2 : Hid (RowTo w2 g l.length l l.length) := HR1.out.below hb2 HR1.out.1
  have HE2 : Hid (Ev.In w2 w.heap.size 0 e) := HE1.out.below hb2 hs1
  have hs2 : w.heap.size < w2.heap.size := Nat.lt_of_lt_of_le hs1 hb2.size
  clear hb2 HR1 HE1 HB1
  have hme := fun w P => m_events P w
  go_wp2_with fail
  refine (pileOf_any _ l _ (by omega) HR2.out.src).mono ?_
  rintro r w3 ⟨P, v, rfl, hp3, hb3⟩
  have HP3 : Hid (Pl w3 w2.heap.size P v l) := hp3
  have HB3 : Hid (Below w2.heap.size w2 w3) := hb3
  have HE3 : Hid (Ev.In w3 w.heap.size 0 e) := HE2.out.below hb3 hs2
  have hs3 : w.heap.size < w3.heap.size := Nat.lt_of_lt_of_le hs2 hb3.size
  have HPX : Hid (Pl (w3.alloc (.cells #[.int .i64 e.t, .int .i64 e.s, .int .i64 e.q, .int .i64 e.d, .int .i64 e.k, .int .i64 e.v, .int .i64 e.g] 33)) w2.heap.size P v l) := hp3.alloc _
  have HBX : Hid (Below w2.heap.size w2 (w3.alloc (.cells #[.int .i64 e.t, .int .i64 e.s, .int .i64 e.q, .int .i64 e.d, .int .i64 e.k, .int .i64 e.v, .int .i64 e.g] 33))) := hb3.alloc hb3.size _
  have HEX : Hid (EvsAt (w3.alloc (.cells #[.int .i64 e.t, .int .i64 e.s, .int .i64 e.q, .int .i64 e.d, .int .i64 e.k, .int .i64 e.v, .int .i64 e.g] 33)) w3.heap.size 0 [e]) := ⟨by simp, fun i hi => by
    have h0 : i = 0 := by simp at hi; omega
    subst h0
    exact newE w3 e⟩
  have HLO : Hid (P < w3.heap.size ∧ w2.heap.size ≤ P ∧ (∀ k, v.ownBlock = some k → w2.heap.size ≤ k ∧ k < w3.heap.size)) := ⟨hp3.box.lt, hp3.low, fun k e => OwnR.block hp3.row e⟩
  have hz3 : w2.heap.size ≤ w3.heap.size := hb3.size
  have hzX : w3.heap.size < (w3.alloc (.cells #[.int .i64 e.t, .int .i64 e.s, .int .i64 e.q, .int .i64 e.d, .int .i64 e.k, .int .i64 e.v, .int .i64 e.g] 33)).heap.size := by simp
  clear hp3 hb3
  obtain ⟨f0, f1, f2, f3, f4, f5, f6⟩ := HE3.out.lits
  go_wp2_with fail
  generalize w3.alloc (.cells #[.int .i64 e.t, .int .i64 e.s, .int .i64 e.q, .int .i64 e.d, .int .i64 e.k, .int .i64 e.v, .int .i64 e.g] 33) = V at *
  clear f0 f1 f2 f3 f4 f5 f6
  refine (pushAll_dup w2.heap.size P v l (some ⟨w3.heap.size, 0, none⟩) 1 w3.heap.size [e] V k rfl (by omega) HPX.out (.inr ⟨0, rfl, HEX.out⟩) HEX.out.1 (by simp; omega) HG.out.oks (fun i hi => (HG.out.2 i hi).2.2) HEO.out HK.out).mono ?_
  rintro r w4 ⟨rfl, hp4, ht4⟩
  have HP4 : Hid (Pl w4 w2.heap.size P v l) := hp4
  have HB4 : Hid (Below w.heap.size w w4) := HB2.out.trans ((HBX.out.trans (ht4.mono (by omega))).mono HB2.out.size)
  clear hp4 ht4
  go_wp2_with fail
  refine (events_any w2.heap.size P v l _ (by omega) HP4.out).mono ?_
  rintro r w5 ⟨y, rfl, hy, hb5⟩
  have HY : Hid (OwnR w4.heap.size w5 y l) := hy
  have HB5 : Hid (Below w.heap.size w w5) := HB4.out.trans (hb5.mono HB4.out.size)
  clear hy hb5
  go_wp2
  go_ret2
  exact ⟨ans_of HB4.out HB4.out.size HY.out, HB5.out⟩
set_option maxRecDepth 100000 in
set_option maxHeartbeats 4000000 in
theorem iPush_good (g : Nat) (l : List Ev) (e : Ev) (w : World) (hl : l.length ≤ 1048576) (hR : RowTo w g l.length l l.length) (hg : GoodH l) (he : e.ok = true) (hk : NoTag l e.g) (hf : l.length < 2000) :
    Calls Try.prog 16 #[.slice (some ⟨g, 0, none⟩) l.length l.length, .agg #[.int .i64 e.t, .int .i64 e.s, .int .i64 e.q, .int .i64 e.d, .int .i64 e.k, .int .i64 e.v, .int .i64 e.g]] w fun r w' => Answers w.heap.size (pushL l e) true r w' ∧ Below w.heap.size w w' := by
  have hgw : g < w.heap.size := hR.1
  have hB0 : Below w.heap.size w (w.alloc (.cells #[.int .i64 e.t, .int .i64 e.s, .int .i64 e.q, .int .i64 e.d, .int .i64 e.k, .int .i64 e.v, .int .i64 e.g] 33)) := (Below.refl _ w).alloc (Nat.le_refl _) _
  have HR : Hid (RowTo (w.alloc (.cells #[.int .i64 e.t, .int .i64 e.s, .int .i64 e.q, .int .i64 e.d, .int .i64 e.k, .int .i64 e.v, .int .i64 e.g] 33)) g l.length l l.length) := hR.below hB0 hgw
  have HB0 : Hid (Below w.heap.size w (w.alloc (.cells #[.int .i64 e.t, .int .i64 e.s, .int .i64 e.q, .int .i64 e.d, .int .i64 e.k, .int .i64 e.v, .int .i64 e.g] 33))) := hB0
  have HE0 : Hid (Ev.In (w.alloc (.cells #[.int .i64 e.t, .int .i64 e.s, .int .i64 e.q, .int .i64 e.d, .int .i64 e.k, .int .i64 e.v, .int .i64 e.g] 33)) w.heap.size 0 e) := newE w e
  have hs0 : w.heap.size < (w.alloc (.cells #[.int .i64 e.t, .int .i64 e.s, .int .i64 e.q, .int .i64 e.d, .int .i64 e.k, .int .i64 e.v, .int .i64 e.g] 33)).heap.size := by simp
  clear hR hB0
  have HG : Hid (GoodH l) := hg
  have HEO : Hid (e.ok = true) := he
  have HK : Hid (NoTag l e.g) := hk
  have hf1 : ¬ ((2000 : Int) ≤ (l.length : Int)) := by omega
  have hf2 : ¬ (2000 ≤ l.length) := by omega
  clear hg he hk
  go_enter Try.func16, Try.ntmps16
  go_wp2_with fail
  generalize w.alloc (.cells #[.int .i64 e.t, .int .i64 e.s, .int .i64 e.q, .int .i64 e.d, .int .i64 e.k, .int .i64 e.v, .int .i64 e.g] 33) = W at *
  refine (iHeap_any g 0 _ l _ hl HR.out.evs).mono ?_
  rintro r w1 ⟨⟨bb, rfl, hs⟩, hb1⟩
  have hbb : bb = true := hs.2 HG.out
  subst hbb
  clear hs
  have HB1 : Hid (Below w.heap.size w w1) := HB0.out.trans (hb1.mono (Nat.le_of_lt hs0))
  have HR1 : Hid (RowTo w1 g l.length l l.length) := HR.out.below hb1 HR.out.1
  have HE1 : Hid (Ev.In w1 w.heap.size 0 e) := HE0.out.below hb1 hs0
  have hs1 : w.heap.size < w1.heap.size := Nat.lt_of_lt_of_le hs0 hb1.size
  clear hb1 HR HE0
  obtain ⟨f0, f1, f2, f3, f4, f5, f6⟩ := HE1.out.lits
  go_wp2_with fail
  refine (iOk_ev e true HEO.out _).mono ?_
  rintro r w2 ⟨rfl, hb2⟩
  clear f0 f1 f2 f3 f4 f5 f6
  have HB2 : Hid (Below w.heap.size w w2) := HB1.out.trans (hb2.mono HB1.out.size)
  have HR2 : Hid (RowTo w2 g l.length l l.length) := HR1.out.below hb2 HR1.out.1
  have HE2 : Hid (Ev.In w2 w.heap.size 0 e) := HE1.out.below hb2 hs1
  have hs2 : w.heap.size < w2.heap.size := Nat.lt_of_lt_of_le hs1 hb2.size
  clear hb2 HR1 HE1 HB1
  have hme := fun w P => m_events P w
  go_wp2_with fail
  refine (pileOf_any _ l _ (by omega) HR2.out.src).mono ?_
  rintro r w3 ⟨P, v, rfl, hp3, hb3⟩
  have HP3 : Hid (Pl w3 w2.heap.size P v l) := hp3
  have HB3 : Hid (Below w2.heap.size w2 w3) := hb3
  have HE3 : Hid (Ev.In w3 w.heap.size 0 e) := HE2.out.below hb3 hs2
  have hs3 : w.heap.size < w3.heap.size := Nat.lt_of_lt_of_le hs2 hb3.size
  have HPX : Hid (Pl (w3.alloc (.cells #[.int .i64 e.t, .int .i64 e.s, .int .i64 e.q, .int .i64 e.d, .int .i64 e.k, .int .i64 e.v, .int .i64 e.g] 33)) w2.heap.size P v l) := hp3.alloc _
  have HBX : Hid (Below w2.heap.size w2 (w3.alloc (.cells #[.int .i64 e.t, .int .i64 e.s, .int .i64 e.q, .int .i64 e.d, .int .i64 e.k, .int .i64 e.v, .int .i64 e.g] 33))) := hb3.alloc hb3.size _
  have HEX : Hid (EvsAt (w3.alloc (.cells #[.int .i64 e.t, .int .i64 e.s, .int .i64 e.q, .int .i64 e.d, .int .i64 e.k, .int .i64 e.v, .int .i64 e.g] 33)) w3.heap.size 0 [e]) := ⟨by simp, fun i hi => by
    have h0 : i = 0 := by simp at hi; omega
    subst h0
    exact newE w3 e⟩
  have HLO : Hid (P < w3.heap.size ∧ w2.heap.size ≤ P ∧ (∀ k, v.ownBlock = some k → w2.heap.size ≤ k ∧ k < w3.heap.size)) := ⟨hp3.box.lt, hp3.low, fun k e => OwnR.block hp3.row e⟩
  have hz3 : w2.heap.size ≤ w3.heap.size := hb3.size
  have hzX : w3.heap.size < (w3.alloc (.cells #[.int .i64 e.t, .int .i64 e.s, .int .i64 e.q, .int .i64 e.d, .int .i64 e.k, .int .i64 e.v, .int .i64 e.g] 33)).heap.size := by simp
  clear hp3 hb3
  obtain ⟨f0, f1, f2, f3, f4, f5, f6⟩ := HE3.out.lits
  go_wp2_with fail
  generalize w3.alloc (.cells #[.int .i64 e.t, .int .i64 e.s, .int .i64 e.q, .int .i64 e.d, .int .i64 e.k, .int .i64 e.v, .int .i64 e.g] 33) = V at *
  clear f0 f1 f2 f3 f4 f5 f6
  refine (pushAll_ok w2.heap.size P v l (some ⟨w3.heap.size, 0, none⟩) 1 w3.heap.size [e] V (by simp) (by omega) HPX.out (.inr ⟨0, rfl, HEX.out⟩) HEX.out.1 (by have := HLO.out.1; omega) (fun e9 => by have := (HLO.out.2.2 _ e9).2; omega) (by simp; omega) HG.out.oks (fun i hi => by have h0 : i = 0 := (by simp at hi; omega); subst h0; exact HEO.out) (fun i hi => by have h0 : i = 0 := (by simp at hi; omega); subst h0; exact HK.out)).mono ?_
  rintro r w4 ⟨rfl, ⟨v4, hp4, _⟩, ht4⟩
  have HP4 : Hid (Pl w4 w2.heap.size P v4 (pushL l e)) := hp4
  have HB4 : Hid (Below w.heap.size w w4) := HB2.out.trans ((HBX.out.trans (ht4.to_below (fun k h => by rcases h with rfl | h; exact HLO.out.2.1; exact (HLO.out.2.2 k h).1) (by omega))).mono HB2.out.size)
  clear hp4 ht4
  go_wp2_with fail
  refine (events_any w2.heap.size P v4 (pushL l e) _ (by rw [pushL_length]; omega) HP4.out).mono ?_
  rintro r w5 ⟨y, rfl, hy, hb5⟩
  have HY : Hid (OwnR w4.heap.size w5 y (pushL l e)) := hy
  have HB5 : Hid (Below w.heap.size w w5) := HB4.out.trans (hb5.mono HB4.out.size)
  clear hy hb5
  go_wp2
  go_ret2
  exact ⟨ans_of HB4.out HB4.out.size HY.out, HB5.out⟩
theorem push_both (l : List Ev) (e : Ev) (hl : l.length ≤ 1048576) : ∃ (l' : List Ev) (bb : Bool), l'.length ≤ 1048577 ∧
    (∀ (w : World) (g : Nat), RowTo w g l.length l l.length → Calls Try.prog 14 #[.slice (some ⟨g, 0, none⟩) l.length l.length, .agg #[.int .i64 e.t, .int .i64 e.s, .int .i64 e.q, .int .i64 e.d, .int .i64 e.k, .int .i64 e.v, .int .i64 e.g]] w fun r w' => Answers w.heap.size l' bb r w' ∧ Below w.heap.size w w') ∧
    (∀ (w : World) (g : Nat), RowTo w g l.length l l.length → Calls Try.prog 16 #[.slice (some ⟨g, 0, none⟩) l.length l.length, .agg #[.int .i64 e.t, .int .i64 e.s, .int .i64 e.q, .int .i64 e.d, .int .i64 e.k, .int .i64 e.v, .int .i64 e.g]] w fun r w' => Answers w.heap.size l' bb r w' ∧ Below w.heap.size w w') := by
  by_cases hg : GoodH l
  · cases he : e.ok with
    | false => exact ⟨[], false, by simp, fun w g h => sPush_bade g l e w hl h hg he, fun w g h => iPush_bade g l e w hl h hg he⟩
    | true =>
      by_cases hf : l.length < 2000
      · rcases firstAt_or l e.g with ⟨k, hk⟩ | hno
        · exact ⟨l, false, by omega, fun w g h => sPush_tag g l e w hl h hg he k hk, fun w g h => iPush_tag g l e w hl h hg he k hk hf⟩
        · exact ⟨pushL l e, true, by rw [pushL_length]; omega, fun w g h => sPush_good g l e w hl h hg he hno hf, fun w g h => iPush_good g l e w hl h hg he hno hf⟩
      · refine ⟨l, false, by omega, fun w g h => ?_, fun w g h => iPush_full g l e w hl h hg he (by omega)⟩
        rcases firstAt_or l e.g with ⟨k, hk⟩ | hno
        · exact sPush_tag g l e w hl h hg he k hk
        · exact sPush_full g l e w hl h hg he hno (by omega)
  · exact ⟨[], false, by simp, fun w g h => sPush_bad g l e w hl h hg, fun w g h => iPush_bad g l e w hl h hg⟩
end Go.Proofs.Ythklekjglocbgaa
